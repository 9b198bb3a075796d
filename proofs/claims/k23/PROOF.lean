import PyProof.Rows.All
import Wide.All
import OpenK.AllK
import Wide.FinOn
import Lean
import PyProof.EqAt
import PyProof.EqKinds
import PyProof.TupleCall
import PySem.Str
import PyProof.NeKinds
import PyProof.Draws
import PyProof.EnumMake
import PyProof.ZipIter
import KE.KSortTup
import KE.KLam
import PyProof.Rows.SortStr
import PyProof.Rows.FactsT3
import PyProof.StrOps2
import KE.KDictList
import KE.KRevIter
import PyProof.CollectIter
import PyProof.TupleOfGen
import PyProof.Rows.StrNews2
import PyProof.Rows.StrFacts2
import PyProof.StrLawsRepr
import PyProof.Rows.StrCase
import PyProof.Rows.StrSplit
import PySem.Challenge.RW_arrowfind_k23_whole_say_the_same
set_option maxRecDepth 100000
set_option maxHeartbeats 4000000
set_option Elab.async false
set_option linter.all false
namespace L2
open PySem PySem.Spec PyProof.Rows
abbrev Key:=Sum Int Str
def Ak:Key→Value→Bool
 | .inl k,v=>Value.isInt k v
 | .inr x,v=>Value.isStrOf x v
def aal(w:World):Key→Int
 | .inl k=>hashInt k
 | .inr x=>hashStr w x
theorem fG:∀ {k:Key} {v:Value},Ak k v=true→(∃ i t,k=Sum.inl i∧v=Value.int i t)∨(∃ x t,k=Sum.inr x∧v=Value.str x t)
 | .inl i,v,h=>by
  obtain⟨t,e⟩:=Value.isInt_shape (k:=i) (v:=v) h
  exact .inl ⟨i,t,rfl,e⟩
 | .inr x,v,h=>by
  obtain⟨t,e⟩:=Value.isStrOf_shape (x:=x) (v:=v) h
  exact .inr ⟨x,t,rfl,e⟩
theorem Ms(i:Int)(t:Tok):Ak (.inl i) (.int i t)=true:=by simp[Ak,Value.isInt]
theorem Mq(x:Str)(t:Tok):Ak (.inr x) (.str x t)=true:=by simp[Ak,Value.isStrOf]
theorem WD(a b:Int):decide ((Sum.inl a:Key)=Sum.inl b)=(a == b):=by
 by_cases e:a=b
 ·subst e;simp
 ·have h:¬ (Sum.inl a:Key)=Sum.inl b:=fun q=>e (Sum.inl.inj q)
  rw[decide_eq_false h]
  exact(beq_eq_false_iff_ne.mpr e).symm
theorem Wx(a b:Str):decide ((Sum.inr a:Key)=Sum.inr b)=decide (a=b):=by
 by_cases e:a=b
 ·subst e;simp
 ·have h:¬ (Sum.inr a:Key)=Sum.inr b:=fun q=>e (Sum.inr.inj q)
  rw[decide_eq_false h,decide_eq_false e]
theorem Wz(a:Int)(b:Str):decide ((Sum.inl a:Key)=Sum.inr b)=false:=decide_eq_false (fun q=>nomatch q)
theorem Wy(a:Str)(b:Int):decide ((Sum.inr a:Key)=Sum.inl b)=false:=decide_eq_false (fun q=>nomatch q)
def gZ(prog:Program)(w:World):PySem.KeyKind prog w Key where
 is:=Ak
 hash:=aal w
 inj:=fun v a b ha hb=>by
  rcases fG ha with ⟨i,t,rfl,rfl⟩|⟨x,t,rfl,rfl⟩
  ·rcases fG hb with ⟨j,u,rfl,e⟩|⟨y,u,rfl,e⟩
   ·injection e with e1 _;rw[e1]
   ·exact nomatch e
  ·rcases fG hb with ⟨j,u,rfl,e⟩|⟨y,u,rfl,e⟩
   ·exact nomatch e
   ·injection e with e1 _;rw[e1]
 byValue:=fun k v h=>by
  rcases fG h with ⟨i,t,rfl,rfl⟩|⟨x,t,rfl,rfl⟩<;>rfl
 pyHash:=fun hv h=>by
  rcases fG hv with ⟨i,t,rfl,rfl⟩|⟨x,t,rfl,rfl⟩
  ·exact wpAny_pyHash_int h
  ·exact wpAny_pyHash_str h
 eqBool:=fun hu hv h=>by
  rcases fG hu with ⟨i,t,rfl,rfl⟩|⟨x,t,rfl,rfl⟩
  ·rcases fG hv with ⟨j,u,rfl,rfl⟩|⟨y,u,rfl,rfl⟩
   ·rw[WD] at h;exact wpAny_eqBool_int h
   ·rw[Wz] at h;exact SeqAt.EqAt.int_str i t y u _ _ _ _ h
  ·rcases fG hv with ⟨j,u,rfl,rfl⟩|⟨y,u,rfl,rfl⟩
   ·rw[Wy] at h;exact SeqAt.EqAt.str_int x t j u _ _ _ _ h
   ·rw[Wx] at h;exact wpAny_eqBool_str h
 «strs»:=fun k x t v h=>by
  rcases fG h with ⟨i,u,rfl,e⟩|⟨y,u,rfl,e⟩
  ·exact nomatch e
  ·injection e with e1 _
   subst e1
   cases v<;>rfl
theorem Gb(prog:Program)(w:World)(i:Int)(t:Tok):(gZ prog w).is (.inl i) (.int i t)=true:=Ms i t
theorem Ga(prog:Program)(w:World)(x:Str)(t:Tok):(gZ prog w).is (.inr x) (.str x t)=true:=Mq x t
end L2
namespace L2
open PySem PySem.Spec PyProof.Rows
inductive V where
 | non|bl (b:Bool)|int (i:Int)|str (x:Str)|byt (b:Array UInt8)|flt (b:UInt64)|ref (a:Addr)|ty (n:String)
 deriving DecidableEq
def RelV:V→Value→Prop
 | .non,u=>u=Value.none
 | .bl b,u=>u=Value.bool b
 | .int i,u=>∃ t,u=Value.int i t
 | .str x,u=>∃ t,u=Value.str x t
 | .byt b,u=>∃ t,u=Value.bytes b t
 | .flt b,u=>∃ t,u=Value.float b t
 | .ref a,u=>u=Value.ref a
 | .ty n,u=>u=Value.type n
abbrev Vals:List V→List Value→Prop:=Paired RelV
theorem Vals.length{xs:List V}{us:List Value}(r:Vals xs us):xs.length=us.length:=Paired.length r
theorem Vals.get:∀ {xs:List V} {us:List Value} {i:Nat} {x:V},Vals xs us→xs[i]? = some x→∃ u,us[i]? = some u∧RelV x u
 | _,_,_,_,.nil,e=>by simp at e
 | _,_,0,_,.cons r _,e=>by simp at e;subst e;exact⟨_,rfl,r⟩
 | _,_,i+1,x,.cons _ t,e=>by
  obtain⟨u,h1,h2⟩:=Vals.get (i:=i) (x:=x) t (by simpa using e)
  exact⟨u,by simpa using h1,h2⟩
theorem Vals.set{x:V}{u:Value}(r:RelV x u):∀ {xs:List V} {us:List Value} (i:Nat),Vals xs us→Vals (xs.set i x) (us.set i u)
 | _,_,_,.nil=>.nil
 | _,_,0,.cons _ t=>.cons r t
 | _,_,i+1,.cons q t=>.cons q (Vals.set r i t)
theorem Vals.append:∀ {xs ys:List V} {us ws:List Value},Vals xs us→Vals ys ws→Vals (xs++ys) (us++ws)
 | _,_,_,_,.nil,s=>s
 | _,_,_,_,.cons r t,s=>.cons r (Vals.append t s)
theorem Vals.take:∀ {xs:List V} {us:List Value} (n:Nat),Vals xs us→Vals (xs.take n) (us.take n)
 | _,_,0,_=>.nil
 | _,_,_+1,.nil=>.nil
 | _,_,n+1,.cons r t=>.cons r (Vals.take n t)
theorem Vals.drop:∀ {xs:List V} {us:List Value} (n:Nat),Vals xs us→Vals (xs.drop n) (us.drop n)
 | _,_,0,r=>r
 | _,_,_+1,.nil=>.nil
 | _,_,n+1,.cons _ t=>Vals.drop n t
def zg:Option V→Option Value→Prop
 | some v,some u=>RelV v u
 | none,none=>True
 | _,_=>False
def KV{κ : Type}:List (κ×V)→List (κ×Value)→Prop:=Paired fun (p:κ×V) (q:κ×Value)=>p.1=q.1∧RelV p.2 q.2
def kV:Key→V
 | .inl i=>.int i
 | .inr x=>.str x
def Nm(h:Heap)(a:Addr)(its:Array Value):Prop:=∃ o,h.get? a=some o∧o.cls=.type "tuple" ∧ o.dict=none∧∃ n,o.data=.seq its n
theorem Nm.tup{h:Heap}{a:Addr}{its:Array Value}(x:Nm h a its):IsTup h a its:=let ⟨o,e,c,_,d⟩:=x;⟨o,e,c,d⟩
theorem Nm.new(h:Heap)(its:Array Value):Nm (h.push { cls:=.type "tuple", data:=.seq its }) h.objs.size its:=⟨_,Heap.get?_push_size _ rfl,rfl,rfl,_,rfl⟩
inductive HO where
 /-- a list -/
 | lst (xs:List V)
 /-- a tuple (never changes) -/
 | tup (xs:List V)
 /-- a dict whose keys are ints and texts;one whose keys are tuples of ints and texts (the empty one is both) -/
 | dK (kvs:List (Key×V))|dT (kvs:List (List Key×V))
 /-- a set of ints: its members,its size -/
 | set (S:Int→Bool) (n:Nat)
 /-- an instance of the class at C,its dict at dx,its attributes -/
 | ins (C dx:Addr) (fs:List (Str×V))
 /-- the dict of the instance at x -/
 | own (x:Addr)
 /-- the dict of an exception -/
 | xd (fs:List (Str×V))
 /-- a bound method,f of x -/
 | met (f x:Addr)
 /-- a range object lo,lo+1,.. below hi -/
 | rng (lo hi:Int)
 /-- a thing that is known to the object (the script;a dict while a loop walks it): read,never written while it is so -/
 | frz (o:Obj) (u:HO)
 /-- a code object's table -/
 | tbl (w:Str) (ps:Array Value)
 /-- any other thing,by what is true of its one object (a def of one's own: aa1 a S n:=HO.ext fun h=>..) -/
 | ext (φ : Heap→Prop)
abbrev Hp:=Addr→Option HO
def upd(H:Hp)(a:Addr)(o:HO):Hp:=fun b=>if b=a then some o else H b
theorem bu{H:Hp}{a:Addr}{o:HO}:upd H a o a=some o:=by unfold upd;rw[if_pos rfl]
theorem aN{H:Hp}{a b:Addr}{o:HO}(h:b≠a):upd H a o b=H b:=by unfold upd;rw[if_neg h]
theorem YD{H:Hp}{a b:Addr}{o u:HO}(h:H a=some o)(h':H b=some u)(d:o≠u):a≠b:=by
 intro e;subst e;rw[h] at h';exact d (Option.some.inj h')
theorem bc{H:Hp}{a b:Addr}{o:HO}(h:H a=some o)(h':H b=none):a≠b:=by
 intro e;subst e;rw[h] at h';cases h'
section
variable(P:Program)(w:World)
def eX(H:Hp)(h:Heap)(a:Addr):HO→Prop
 | .lst xs=>xs.length≤sizeLine∧∃ (its:List Value) (n:Nat),Vals xs its∧h.get? a=some { cls:=.type "list", data:=.seq its.toArray n }
 | .tup xs=>xs.length≤sizeLine∧∃ its:List Value,Vals xs its∧Nm h a its.toArray
 | .dK kvs=>kvs.length≤sizeLine∧(a == sysModules)=false∧∃ vs,KV kvs vs∧h.DictOf (gZ P w) a vs
 | .dT kvs=>kvs.length≤sizeLine∧(a == sysModules)=false∧∃ xs:List (List Key×Addr×Value),
  Paired (fun (p:List Key×V) (q:List Key×Addr×Value)=>p.1=q.1∧H q.2.1=some (.tup (p.1.map kV))∧RelV p.2 q.2.2) kvs xs ∧
  ∃ o es ep,h.get? a=some o∧o.ExactDict∧o.data=.dict es ep∧es.toList=xs.map (entryOfKey (tupleKind (gZ P w)))∧(xs.map (·.1)).Nodup
 | .set S n=>h.SetOf (intKind P w) a S n
 | .ins C dx fs=>H dx=some (.own a)∧fs.length≤1000∧dx≠a∧h.get? a=some (PySem.W.instObj C dx) ∧
  ∃ mA,h.Ns1 dx mA∧(∀ f,zg (fs.lookup f) (mA f))∧PySem.Within mA (fs.map (·.1))
 | .own _=>∃ o,h.get? a=some o
 | .xd fs=>∃ mA,h.Ns1 a mA∧∀ f,zg (fs.lookup f) (mA f)
 | .rng lo hi=>∃ t u v,h.get? a=some { cls:=.type "range", data:=.fields #[.int lo t,.int hi u,.int 1 v] }
 | .frz o u=>h.get? a=some o∧eX H h a u
 | .tbl _ ps=>h.get? a=some { cls:=.none,data:=.fields ps }
 | .met f x=>h.get? a=some (PySem.W.methodObj (.ref f) (.ref x))
 | .ext φ=>φ h∧(∃ o,h.get? a=some o)∧∀ h1 h2:Heap,φ h1→(∀ o,h1.get? a=some o→h2.get? a=some o)→φ h2
def qQ(H:Hp)(h:Heap):Prop:=∀ a o,H a=some o→eX P w H h a o
end
section
variable{P:Program}{w:World}{H H':Hp}{h h':Heap}{a:Addr}{o:HO}
theorem eX.lt(x:eX P w H h a o):a < h.objs.size:=by
 cases o with
 | lst xs=>obtain⟨_,_,_,_,e⟩:=x;exact Heap.lt_size e
 | tup xs=>obtain⟨_,_,_,p⟩:=x;exact p.tup.lt
 | dK kvs=>obtain⟨_,_,_,_,o,_,_,e,_⟩:=x;exact Heap.lt_size e
 | dT kvs=>obtain⟨_,_,_,_,o,_,_,e,_⟩:=x;exact Heap.lt_size e
 | set S n=>obtain⟨o,_,_,_,e,_⟩:=x;exact Heap.lt_size e
 | ins C dx fs=>obtain⟨_,_,_,e,_⟩:=x;exact Heap.lt_size e
 | own y=>obtain⟨_,e⟩:=x;exact Heap.lt_size e
 | xd fs=>obtain⟨_,⟨_,_,_,e,_⟩,_⟩:=x;exact Heap.lt_size e
 | rng lo hi=>obtain⟨_,_,_,e⟩:=x;exact Heap.lt_size e
 | frz ob u=>obtain⟨e,_⟩:=x;exact Heap.lt_size e
 | tbl w ps=>exact Heap.lt_size (show h.get? a=some _ from x)
 | met f y=>exact Heap.lt_size (show h.get? a=some _ from x)
 | ext φ=>obtain⟨_,⟨_,e⟩,_⟩:=x;exact Heap.lt_size e
theorem Paired.Wo{α β : Type}{F G:α→β→Prop}:∀ {l₁:List α} {l₂:List β},Paired F l₁ l₂→(∀ a b,F a b→G a b)→Paired G l₁ l₂
 | _,_,.nil,_=>.nil
 | _,_,.cons r t,f=>.cons (f _ _ r) (Paired.Wo t f)
theorem eX.stay(x:eX P w H h a o)(k:∀ b u,(b=a∨H b=some (.own a))→h.get? b=some u→h'.get? b=some u)
 (ho:∀ b,H b=some (.own a)→H' b=some (.own a)) (ht:∀ b xs,H b=some (.tup xs)→H' b=some (.tup xs)):eX P w H' h' a o:=by
 induction o with
 | lst xs=>obtain⟨z,its,n,r,e⟩:=x;exact⟨z,its,n,r,k _ _ (.inl rfl) e⟩
 | tup xs=>obtain⟨z,its,r,ob,e,c⟩:=x;exact⟨z,its,r,ob,k _ _ (.inl rfl) e,c⟩
 | dK kvs=>obtain⟨z,y,vs,r,ob,es,ep,e,c⟩:=x;exact⟨z,y,vs,r,ob,es,ep,k _ _ (.inl rfl) e,c⟩
 | dT kvs =>
  obtain⟨z,y,xs,r,ob,es,ep,e,c⟩:=x
  exact⟨z,y,xs,Paired.Wo r fun p q z=>⟨z.1,ht _ _ z.2.1,z.2.2⟩,ob,es,ep,k _ _ (.inl rfl) e,c⟩
 | set S n=>obtain⟨ob,es,ep,t,e,c⟩:=x;exact⟨ob,es,ep,t,k _ _ (.inl rfl) e,c⟩
 | ins C dx fs =>
  obtain⟨d,z,ne,e,mA,⟨od,es,ep,e2,c⟩,r⟩:=x
  exact⟨ho _ d,z,ne,k _ _ (.inl rfl) e,mA,⟨od,es,ep,k _ _ (.inr d) e2,c⟩,r⟩
 | own y=>obtain⟨ob,e⟩:=x;exact⟨ob,k _ _ (.inl rfl) e⟩
 | xd fs=>obtain⟨mA,⟨od,es,ep,e,c⟩,r⟩:=x;exact⟨mA,⟨od,es,ep,k _ _ (.inl rfl) e,c⟩,r⟩
 | rng lo hi=>obtain⟨t,u,v,e⟩:=x;exact⟨t,u,v,k _ _ (.inl rfl) e⟩
 | frz ob u ih=>obtain⟨e,q⟩:=x;exact⟨k _ _ (.inl rfl) e,ih q⟩
 | tbl w ps =>
  have e:h.get? a=some { cls:=.none,data:=.fields ps }:=x
  show h'.get? a=some { cls:=.none,data:=.fields ps }
  exact k a _ (.inl rfl) e
 | met f y =>
  have e:h.get? a=some (PySem.W.methodObj (.ref f) (.ref y)):=x
  show h'.get? a=some (PySem.W.methodObj (.ref f) (.ref y))
  exact k a _ (.inl rfl) e
 | ext φ=>obtain⟨p,⟨o,e⟩,st⟩:=x;exact⟨st _ _ p fun o q=>k _ _ (.inl rfl) q,⟨o,k _ _ (.inl rfl) e⟩,st⟩
theorem qQ.lt(x:qQ P w H h)(e:H a=some o):a < h.objs.size:=(x a o e).lt
theorem qQ.fresh(x:qQ P w H h)(e:h.objs.size≤a):H a=none:=by
 cases q:H a with
 | none=>rfl
 | some u=>exact absurd (Nat.lt_of_lt_of_le (x.lt q) e) (Nat.lt_irrefl _)
theorem qQ.kept(x:qQ P w H h)(k:∀ b u,h.get? b=some u→h'.get? b=some u):qQ P w H h':=fun a o e =>
 (x a o e).stay (fun b u _ q=>k b u q) (fun _ q=>q) fun _ _ q=>q
theorem qQ.laid(x:qQ P w H h)(k:∀ b u,h.get? b=some u→h'.get? b=some u)(hp:h.objs.size≤a)(new:eX P w (upd H a o) h' a o):qQ P w (upd H a o) h':=fun b u e=>by
 have hn:=x.fresh hp
 by_cases hb:b=a
 ·subst hb;rw[bu] at e;cases e;exact new
 ·rw[aN hb] at e
  exact(x b u e).stay (fun c v _ q=>k c v q) (fun c q=>by rw[aN (bc q hn)];exact q) fun c xs q=>by rw[aN (bc q hn)];exact q
end
def Rd(H:Hp)(a:Addr)(u:HO):Prop:=H a=some u∨∃ o,H a=some (.frz o u)
theorem Rd.ok{P:Program}{w:World}{H:Hp}{h:Heap}{a:Addr}{u:HO}(r:Rd H a u)(x:qQ P w H h):eX P w H h a u:=by
 rcases r with r|⟨o,r⟩
 ·exact x a u r
 ·obtain⟨_,q⟩:=x a _ r
  exact q
def ZG:Option HO→Prop
 | some (.lst _)=>True
 | some (.dK _)=>True
 | some (.dT _)=>True
 | some (.set _ _)=>True
 | some (.ins _ _ _)=>True
 | some (.ext _)=>True
 | _=>False
section
variable{P:Program}{w:World}{H:Hp}{h h':Heap}{x e:Addr}{o':HO}
theorem qQ.write(ok:qQ P w H h)(mu:ZG (H x))(he:e=x∨H e=some (.own x))(k:∀ b u,b≠e→h.get? b=some u→h'.get? b=some u)(heo:∃ u,h'.get? e=some u)
 (new:eX P w (upd H x o') h' x o'):qQ P w (upd H x o') h':=fun b u q=>by
 have YB:∀ c y,H c=some (.own y)→c≠x:=fun c y r z=>by subst z;rw[r] at mu;exact mu
 have aaf:∀ c xs,H c=some (.tup xs)→c≠x:=fun c xs r z=>by subst z;rw[r] at mu;exact mu
 by_cases hb:b=x
 ·subst hb;rw[bu] at q;cases q;exact new
 ·rw[aN hb] at q
  by_cases hbe:b=e
  ·have q':H b=some (.own x):=by
    rcases he with z|z
    ·exact absurd (hbe.trans z) hb
    ·rw[hbe];exact z
   rw[q] at q';cases q'
   obtain⟨v,hv⟩:=heo
   exact⟨v,by rw[hbe];exact hv⟩
  ·refine(ok b u q).stay (fun c v hc r=>k c v ?_ r) (fun c r=>by rw[aN (YB c b r)];exact r) fun c xs r=>by rw[aN (aaf c xs r)];exact r
   rcases hc with rfl|hc
   ·exact hbe
   ·rintro rfl
    rcases he with z|z
    ·exact YB c b hc z
    ·rw[hc] at z;cases z;exact hb rfl
end
structure Un(fs ex:List Addr)(H H':Hp)(h h':Heap):Prop where
 keep:∀ b o,h.get? b=some o→H b=none→b∉fs→b∉ex→h'.get? b=some o
 slot:∀ b o,h.get? b=some o→H b=none→b∈fs→b∉ex→∃ sl,h'.get? b=some { o with slots:=sl }
 free:∀ b o,h.get? b=some o→H b=none→b∉ex→H' b=none
 there:∀ b o,h.get? b=some o→b∉ex→∃ o',h'.get? b=some o'
 tups:∀ b xs,H b=some (.tup xs)→H' b=some (.tup xs)
 zM:∀ b o u,H b=some (.frz o u)→H' b=some (.frz o u)
 zH:∀ b w ps,H b=some (.tbl w ps)→∃ more,H' b=some (.tbl w (ps++more))
section
variable{fs fs' ex ex':List Addr}{H H1 H2:Hp}{h h1 h2 h':Heap}{a x e:Addr}{o:HO}
theorem Un.any(u:Un fs ex H H1 h h1){b:Addr}{ob:Obj}(q:h.get? b=some ob)(n:H b=none)(hx:b∉ex):∃ sl,h1.get? b=some { ob with slots:=sl }:=by
 by_cases hb:b∈fs
 ·exact u.slot b ob q n hb hx
 ·exact⟨ob.slots,u.keep b ob q n hb hx⟩
theorem Un.kept(k:∀ b u,h.get? b=some u→h'.get? b=some u):Un fs ex H H h h' :=
 ⟨fun b ob q _ _ _=>k b ob q,fun b ob q _ _ _=>⟨ob.slots,k b ob q⟩,fun _ _ _ n _=>n,fun b ob q _=>⟨ob,k b ob q⟩,fun _ _ q=>q,fun _ _ _ q=>q,fun _ w ps q=>⟨#[],by rw[q];simp⟩⟩
theorem Un.refl:Un fs ex H H h h:=Un.kept fun _ _ q=>q
theorem Un.laid(k:∀ b u,h.get? b=some u→h'.get? b=some u)(hp:h.objs.size≤a)(hn:H a=none):Un fs ex H (upd H a o) h h' where
 keep:=fun b u q _ _ _=>k b u q
 slot:=fun b u q _ _ _=>⟨u.slots,k b u q⟩
 free:=fun b u q n _=>by rw[aN (Nat.ne_of_lt (Nat.lt_of_lt_of_le (Heap.lt_size q) hp))];exact n
 there:=fun b u q _=>⟨u,k b u q⟩
 tups:=fun b xs q=>by rw[aN (bc q hn)];exact q
 zM:=fun b u xs q=>by rw[aN (bc q hn)];exact q
 zH:=fun b w ps q=>⟨#[],by rw[aN (bc q hn),q];simp⟩
theorem Un.write(mu:ZG (H x))(he:e=x∨H e=some (.own x))(k:∀ b u,b≠e→h.get? b=some u→h'.get? b=some u)(heo:∃ u,h'.get? e=some u):Un fs ex H (upd H x o) h h':=by
 have hx:∀ b,H b=none→b≠x:=fun b n z=>by subst z;rw[n] at mu;exact mu
 have hb:∀ b,H b=none→b≠e:=fun b n z=>by
  subst z
  rcases he with r|r
  ·exact hx b n r
  ·rw[n] at r;cases r
 have hm:∀ b u,H b=some u→¬ ZG (some u)→b≠x:=fun b u q nm z=>by subst z;rw[q] at mu;exact nm mu
 refine⟨fun b u q n _ _=>k b u (hb b n) q,fun b u q n _ _=>⟨u.slots,k b u (hb b n) q⟩,fun b u q n _=>by rw[aN (hx b n)];exact n,fun b u q _=>?_,
  fun b xs q=>by rw[aN (hm b _ q fun z=>z)];exact q,fun b u xs q=>by rw[aN (hm b _ q fun z=>z)];exact q,fun b w ps q=>⟨#[],by rw[aN (hm b _ q fun z=>z),q];simp⟩⟩
 by_cases hbe:b=e
 ·subst hbe;exact heo
 ·exact⟨u,k b u hbe q⟩
end
def ZS(h:Heap)(H:Hp):List Addr:=(List.range h.objs.size).filter fun a=>(H a).isSome
def yF(h:Heap)(H:Hp):Heap:=PySem.W.hideAll h (ZS h H)
theorem MF(h:Heap)(H:Hp):(yF h H).objs.size=h.objs.size:=PySem.W.hideAll_size _ _
theorem Qt{h:Heap}{H:Hp}{b:Addr}{o:Obj}(e:h.get? b=some o)(n:H b=none):(yF h H).get? b=some o :=
 PySem.W.hideAll_get _ e fun hm=>by
  have q:(H b).isSome=true:=(List.mem_filter.mp hm).2
  rw[n] at q;simp at q
theorem Sw{h:Heap}{H:Hp}{b:Addr}{o:Obj}(e:(yF h H).get? b=some o):h.get? b=some o∧H b=none:=by
 have e':h.get? b=some o:=PySem.W.of_hideAll (ZS h H) e
 refine⟨e',?_⟩
 cases q:H b with
 | none=>rfl
 | some x =>
  have hm:b∈ZS h H:=List.mem_filter.mpr ⟨List.mem_range.mpr (Heap.lt_size e'),by simp[q]⟩
  have z:(yF h H).get? b=none:=PySem.W.hideAll_none (ZS h H) hm
  rw[z] at e;cases e
end L2
namespace L2
open PySem PySem.Spec PyProof.Rows
structure Mod(K:PySem.W.Frag)(mg:Str→Option Value)(base:Heap):Prop where
 kin:K.In base
 glob:base.Ns mainGlobals mg
 blt:∃ mb,base.Ns builtinsNs mb∧∀ x:Str,x ≠ "__name__" → mb x=bootBuiltins x
 nolimit:base.NoLimit
structure Cx where
 prog:Program
 w:World
 K:PySem.W.Frag
 mg:Str→Option Value
 base:Heap
 A:Around
 N:List Str
 s₀:Shared
 H₀:Hp
 env:Env
 outer:List Env
 stack:List Env
 ex:List Addr
 fn:Str→Bool
 calm:Bool
 pn:List (Addr×Obj)
 xe:Value→Shared→Prop
def frs(l:List Env):List Addr:=l.filterMap (·.frame)
abbrev Cx.fs(X:Cx):List Addr:=frs X.outer
def Z8(sc:Scope)(x:Str):Prop:=sc.names.lookup x=some .local∨sc.names.lookup x=some .cell∨sc.names.lookup x=some .free
def Loc(sc:Scope)(x:Str):Prop:=sc.names.lookup x=some .local∨sc.names.lookup x=some .cell
def Look(env:Env)(h:Heap)(m:Str→Option Value)(x:Str)(u:Value):Prop :=
 (env.kindOf x=some .local∧m x=some u)∨((env.kindOf x=some .cell∨env.kindOf x=some .free)∧∃ c,env.cells.lookup x=some c∧h.IsCell c (some u))
structure Cx.Ok(X:Cx):Prop where
 mod:Mod X.K X.mg X.base
 kind:X.env.scope.kind=.function
 glob:X.env.globals=mainGlobals
 blt:X.env.builtins=builtinsNs
 above:X.s₀.heap.objs.size≤X.env.locals
 inj:∀ x y c,X.env.cells.lookup x=some c→X.env.cells.lookup y=some c→x=y
 has:∀ x,(X.env.kindOf x=some .cell∨X.env.kindOf x=some .free)→∃ c,X.env.cells.lookup x=some c
 cab:∀ x c,X.fn x=true→X.env.cells.lookup x=some c→X.s₀.heap.objs.size≤c
 hd:X.calm=true→X.A.handled=none
 frames:X.A.frames=some X.stack
 stk:X.stack=X.outer∨(X.stack=X.env::X.outer∧X.env.frame=some X.env.locals)
 exf:∀ b∈X.ex,b≠X.env.locals∧∀ x c,X.env.cells.lookup x=some c→c≠b
 bs:∀ b o,X.base.get? b=some o→X.s₀.heap.get? b=some o∧X.H₀ b=none
 bsz:X.base.objs.size≤X.s₀.heap.objs.size
 Py:∀ b o,X.base.get? b=some o→b∉X.ex
 TY:∀ b∈X.ex,b∉X.fs
 yG:X.s₀.heap.FunFrames X.base X.outer
 frf:∀ b∈X.fs,X.H₀ b=none
structure Inv(X:Cx)(pins:List (Addr×Obj))(σ : List (Option V))(H:Hp)(s:Shared):Prop where
 ok:X.Ok
 os:s.os=X.s₀.os
 bare:AllBare s.gens
 base:Un X.fs X.ex X.H₀ H X.s₀.heap s.heap
 loc:∃ m,s.heap.Ns X.env.locals m∧∀ (i:Nat) (x:Str) (v:V),X.N[i]? = some x→σ[i]? = some (some v)→Z8 X.env.scope x→∃ u,RelV v u∧Look X.env s.heap m x u
 cell:∀ x c,X.env.cells.lookup x=some c→∃ v,s.heap.IsCell c v
 free:H X.env.locals=none
 pF:∀ x c,X.env.cells.lookup x=some c→H c=none
 pin:∀ p∈X.pn++pins,s.heap.get? p.1=some p.2∧H p.1=none∧p.1≠X.env.locals∧p.1∉X.fs∧∀ v,p.2.data≠.cell v
 hok:qQ X.prog X.w H s.heap
 len:σ.length=X.N.length
section
variable{X:Cx}{pins:List (Addr×Obj)}{σ : List (Option V)}{H H':Hp}{s:Shared}{h':Heap}
theorem Cx.Ok.aah(ok:X.Ok){b:Addr}{o:Obj}(e:X.base.get? b=some o):b∉X.fs:=fun hb=>by
 have:=(ok.yG.mem hb).1
 rw[e] at this;cases this
theorem Inv.bs(I:Inv X pins σ H s):∀ b o,X.base.get? b=some o→s.heap.get? b=some o∧H b=none:=fun b o e =>
 ⟨I.base.keep b o (I.ok.bs b o e).1 (I.ok.bs b o e).2 (I.ok.aah e) (I.ok.Py b o e),I.base.free b o (I.ok.bs b o e).1 (I.ok.bs b o e).2 (I.ok.Py b o e)⟩
theorem Inv.bk(I:Inv X pins σ H s):∀ b o,X.base.get? b=some o→s.heap.get? b=some o:=fun b o e=>(I.bs b o e).1
theorem Inv.mod(I:Inv X pins σ H s):Mod X.K X.mg X.base:=I.ok.mod
theorem Inv.Gi(I:Inv X pins σ H s):X.K.In s.heap:=I.ok.mod.kin.keeps I.bk
theorem Inv.nolimit(I:Inv X pins σ H s):s.heap.NoLimit:=I.ok.mod.nolimit.keeps I.bk
theorem Inv.lt(I:Inv X pins σ H s):X.env.locals < s.heap.objs.size:=let ⟨_,hn,_⟩:=I.loc;hn.lt
theorem Inv.sz(I:Inv X pins σ H s):X.s₀.heap.objs.size≤s.heap.objs.size:=Nat.le_trans I.ok.above (Nat.le_of_lt I.lt)
theorem Inv.aag(I:Inv X pins σ H s){a:Addr}(h:s.heap.objs.size≤a):a∉X.fs:=fun hb=>by
 obtain⟨_,o,ho,_⟩:=I.ok.yG.mem hb
 exact absurd (Nat.lt_of_lt_of_le (Heap.lt_size ho) (Nat.le_trans I.sz h)) (Nat.lt_irrefl _)
theorem Inv.W8(I:Inv X pins σ H s):∀ x c,X.env.cells.lookup x=some c→c≠X.env.locals:=fun x c e z=>by
 obtain⟨v,o,ho,hd⟩:=I.cell x c e
 obtain⟨m,⟨o',es,ep,ho',hd',_⟩,_⟩:=I.loc
 rw[z,ho'] at ho;cases ho;rw[hd'] at hd;cases hd
theorem Inv.yG(I:Inv X pins σ H s):s.heap.FunFrames X.base X.outer:=by
 have all:∀ (l:List Env),(∀ b∈frs l,b∈X.fs)→X.s₀.heap.FunFrames X.base l→s.heap.FunFrames X.base l:=by
  intro l
  induction l with
  | nil=>intro _ _;trivial
  | cons env r ih =>
   intro hs hl
   obtain⟨hk,⟨L,o,hf,hn,ho,hd⟩,hr⟩:=hl
   have hL:L∈X.fs:=hs L (by unfold frs;rw[List.filterMap_cons,hf];exact List.mem_cons_self)
   obtain⟨sl,e⟩:=I.base.slot L o ho (I.ok.frf L hL) hL fun z=>I.ok.TY L z hL
   exact⟨hk,⟨L,_,hf,hn,e,hd⟩,ih (fun b hb=>hs b (by unfold frs;rw[List.filterMap_cons,hf];exact List.mem_cons_of_mem _ hb)) hr⟩
 exact all X.outer (fun _ hb=>hb) I.ok.yG
theorem Inv.stack(I:Inv X pins σ H s):s.heap.FunFrames X.base X.stack:=by
 rcases I.ok.stk with e|⟨e,hf⟩
 ·rw[e];exact I.yG
 ·rw[e]
  obtain⟨m,hn,_⟩:=I.loc
  refine .cons (by rw[I.ok.kind];decide) hf hn ?_ I.yG
  exact Heap.get?_none_of_le (Nat.le_trans I.ok.bsz I.ok.above)
theorem Inv.Cm(I:Inv X pins σ H s):∀ b∈frs X.stack,b∈X.env.locals::X.fs:=fun b hb=>by
 rcases I.ok.stk with e|⟨e,hf⟩
 ·rw[e] at hb;exact List.mem_cons_of_mem _ hb
 ·rw[e] at hb
  unfold frs at hb
  rw[List.filterMap_cons,hf] at hb
  exact hb
theorem Inv.Cp(I:Inv X pins σ H s):∀ b∈frs X.stack,H b=none:=fun b hb=>by
 rcases List.mem_cons.mp (I.Cm b hb) with e|hb
 ·rw[e];exact I.free
 ·obtain⟨_,o,ho,_⟩:=I.ok.yG.mem hb
  exact I.base.free b o ho (I.ok.frf b hb) fun z=>I.ok.TY b z hb
theorem Inv.step{g':Array GenState}{t':Nat}{d':Drawn}{ch:List Addr}(I:Inv X pins σ H s)
 (hch:∀ b∈ch,(b∈X.ex∨X.s₀.heap.objs.size≤b)∧b≠X.env.locals∧(∀ x c,X.env.cells.lookup x=some c→c≠b)∧∀ p∈X.pn++pins,p.1≠b)
 (keep:∀ b o,b≠X.env.locals→b∉X.fs→b∉ch→s.heap.get? b=some o→H b=none→h'.get? b=some o)
 (slot:∀ b o,b≠X.env.locals→b∈X.fs→b∉ch→s.heap.get? b=some o→H b=none→∃ sl,h'.get? b=some { o with slots:=sl }) (free:∀ b o,b∉ch→s.heap.get? b=some o→H b=none→H' b=none)
 (there:∀ b o,b∉ch→s.heap.get? b=some o→∃ o',h'.get? b=some o')
 (tups:∀ b xs,H b=some (.tup xs)→H' b=some (.tup xs)) (zM:∀ b o u,H b=some (.frz o u)→H' b=some (.frz o u)) (zH:∀ b w ps,H b=some (.tbl w ps)→∃ more,H' b=some (.tbl w (ps++more)))
 (ns:∀ m,s.heap.Ns X.env.locals m→h'.Ns X.env.locals m) (hok:qQ X.prog X.w H' h') (hg:AllBare g') :
 Inv X pins σ H' { s with heap:=h',gens:=g',drawn:=d',toks:=t' }:=by
 have neL:∀ b o,X.s₀.heap.get? b=some o→b≠X.env.locals:=fun b o e=>Nat.ne_of_lt (Nat.lt_of_lt_of_le (Heap.lt_size e) I.ok.above)
 have neC:∀ b o,X.s₀.heap.get? b=some o→b∉X.ex→b∉ch:=fun b o e hx hb=>by
  rcases (hch b hb).1 with z|z
  ·exact hx z
  ·exact absurd (Nat.lt_of_lt_of_le (Heap.lt_size e) z) (Nat.lt_irrefl _)
 have cellK:∀ x c,X.env.cells.lookup x=some c→∀ v,s.heap.IsCell c v→h'.IsCell c v:=fun x c e v ⟨o,ho,hd⟩=>by
  have nch:c∉ch:=fun z=>(hch c z).2.2.1 x c e rfl
  by_cases hc:c∈X.fs
  ·obtain⟨sl,q⟩:=slot c o (I.W8 x c e) hc nch ho (I.pF x c e)
   exact⟨_,q,hd⟩
  ·exact⟨o,keep c o (I.W8 x c e) hc nch ho (I.pF x c e),hd⟩
 refine⟨I.ok,I.os,hg,⟨fun b o e n hb hx=>?_,fun b o e n hb hx=>?_,fun b o e n hx=>?_,fun b o e hx=>?_,fun b xs e=>tups b xs (I.base.tups b xs e),fun b o xs e=>zM b o xs (I.base.zM b o xs e),fun b w ps e=>?_⟩,?_,fun x c e=>?_,?_,fun x c e=>?_,fun p hp=>?_,hok,I.len⟩
 ·exact keep b o (neL b o e) hb (neC b o e hx) (I.base.keep b o e n hb hx) (I.base.free b o e n hx)
 ·obtain⟨sl,e1⟩:=I.base.slot b o e n hb hx
  obtain⟨sl',e2⟩:=slot b _ (neL b o e) hb (neC b o e hx) e1 (I.base.free b o e n hx)
  exact⟨sl',e2⟩
 ·obtain⟨o',e1⟩:=I.base.there b o e hx
  exact free b o' (neC b o e hx) e1 (I.base.free b o e n hx)
 ·obtain⟨o',e1⟩:=I.base.there b o e hx
  exact there b o' (neC b o e hx) e1
 ·obtain⟨m1,e1⟩:=I.base.zH b w ps e
  obtain⟨m2,e2⟩:=zH b w _ e1
  exact⟨m1++m2,by rw[e2,Array.append_assoc]⟩
 ·obtain⟨m,hn,hl⟩:=I.loc
  refine⟨m,ns m hn,fun i x v e1 e2 e3=>?_⟩
  obtain⟨u,r,l⟩:=hl i x v e1 e2 e3
  refine⟨u,r,?_⟩
  rcases l with l|⟨k,c,e,z⟩
  ·exact .inl l
  ·exact .inr ⟨k,c,e,cellK x c e _ z⟩
 ·obtain⟨v,z⟩:=I.cell x c e
  exact⟨v,cellK x c e v z⟩
 ·obtain⟨m,⟨o,_,_,ho,_⟩,_⟩:=I.loc
  exact free _ o (fun z=>(hch _ z).2.1 rfl) ho I.free
 ·obtain⟨v,o,ho,hd⟩:=I.cell x c e
  exact free c o (fun z=>(hch c z).2.2.1 x c e rfl) ho (I.pF x c e)
 ·obtain⟨e,n,ne,nf,d⟩:=I.pin p hp
  have nch:p.1∉ch:=fun z=>(hch p.1 z).2.2.2 p hp rfl
  exact⟨keep p.1 p.2 ne nf nch e n,free p.1 p.2 nch e n,ne,nf,d⟩
theorem Inv.un{t':Nat}(I:Inv X pins σ H s)(u:Un X.fs [] H H' s.heap h')(hok:qQ X.prog X.w H' h'):Inv X pins σ H' { s with heap:=h',toks:=t' }:=by
 obtain⟨m,⟨o,es,ep,ho,r⟩,_⟩:=id I.loc
 obtain⟨sl,hL⟩:=u.any ho I.free (by simp)
 exact I.step (g':=s.gens) (d':=s.drawn) (ch:=[]) (fun _ z=>nomatch z) (fun b o _ hb _ e n=>u.keep b o e n hb (by simp)) (fun b o _ hb _ e n=>u.slot b o e n hb (by simp)) (fun b o _ e n=>u.free b o e n (by simp)) (fun b o _ e=>u.there b o e (by simp)) u.tups u.zM u.zH (fun m' hm=>by
  obtain⟨o',es',ep',ho',r'⟩:=hm
  rw[ho] at ho';cases ho'
  exact⟨_,es',ep',hL,r'⟩) hok I.bare
theorem Inv.call{g':Array GenState}{t':Nat}{d':Drawn}{ch:List Addr}(I:Inv X pins σ H s)(u:Un (frs X.stack) ch H H' s.heap h')(hok:qQ X.prog X.w H' h')(hg:AllBare g')
 (hch:∀ b∈ch,(b∈X.ex∨X.s₀.heap.objs.size≤b)∧b≠X.env.locals∧(∀ x c,X.env.cells.lookup x=some c→c≠b)∧∀ p∈X.pn++pins,p.1≠b) :
 Inv X pins σ H' { s with heap:=h',gens:=g',drawn:=d',toks:=t' }:=by
 obtain⟨m,⟨o,es,ep,ho,r⟩,_⟩:=id I.loc
 obtain⟨sl,hL⟩:=u.any ho I.free fun z=>(hch _ z).2.1 rfl
 exact I.step (ch:=ch) hch (fun b o hL hb hc e n=>u.keep b o e n (fun z=>(List.mem_cons.mp (I.Cm b z)).elim hL hb) hc) (fun b o _ _ hc e n=>u.any e n hc) (fun b o hc e n=>u.free b o e n hc) (fun b o hc e=>u.there b o e hc) u.tups u.zM u.zH (fun m' hm=>by
  obtain⟨o',es',ep',ho',r'⟩:=hm
  rw[ho] at ho';cases ho'
  exact⟨_,es',ep',hL,r'⟩) hok hg
theorem Inv.turned{t':Nat}{it:Addr}(I:Inv X pins σ H s)(k:∀ b o,b≠it→s.heap.get? b=some o→h'.get? b=some o)(hn:H it=none)(hL:it≠X.env.locals)
 (h1:it∈X.ex∨X.s₀.heap.objs.size≤it) (h2:∀ x c,X.env.cells.lookup x=some c→c≠it) (h3:∀ p∈X.pn++pins,p.1≠it):Inv X pins σ H { s with heap:=h',toks:=t' }:=by
 have nit:∀ b u,H b=some u→b≠it:=fun b u e z=>by rw[z,hn] at e;cases e
 refine I.step (g':=s.gens) (d':=s.drawn) (ch:=[it]) (fun b hb=>?_) (fun b o _ _ hc e _=>k b o (fun z=>hc (by simp[z])) e) (fun b o _ _ hc e _=>⟨o.slots,k b o (fun z=>hc (by simp[z])) e⟩) (fun _ _ _ _ n=>n)
  (fun b o hc e=>⟨o,k b o (fun z=>hc (by simp[z])) e⟩) (fun _ _ e=>e) (fun _ _ _ e=>e) (fun b w ps e=>⟨#[],by rw[e];simp⟩) (fun m hm=>?_) (fun b u e=>?_) I.bare
 ·have e:b=it:=by simpa using hb
  subst e
  exact⟨h1,hL,h2,h3⟩
 ·obtain⟨o,es,ep,ho,r⟩:=hm
  exact⟨o,es,ep,k _ o (Ne.symm hL) ho,r⟩
 ·refine(I.hok b u e).stay (fun c v hc q=>k c v ?_ q) (fun _ q=>q) fun _ _ q=>q
  rcases hc with z|z
  ·rw[z];exact nit b u e
  ·exact nit c _ z
theorem Inv.tok(I:Inv X pins σ H s)(t:Nat):Inv X pins σ H { s with toks:=t }:=I.un (h':=s.heap) (t':=t) Un.refl I.hok
theorem Inv.kept{t':Nat}(I:Inv X pins σ H s)(k:∀ b u,s.heap.get? b=some u→h'.get? b=some u):Inv X pins σ H { s with heap:=h',toks:=t' }:=I.un (Un.kept k) (I.hok.kept k)
theorem Inv.laid{a:Addr}{o:HO}{t':Nat}(I:Inv X pins σ H s)(k:∀ b u,s.heap.get? b=some u→h'.get? b=some u)(hp:s.heap.objs.size≤a)(new:eX X.prog X.w (upd H a o) h' a o) :
 Inv X pins σ (upd H a o) { s with heap:=h',toks:=t' }:=I.un (Un.laid k hp (I.hok.fresh hp)) (I.hok.laid k hp new)
theorem Inv.write{x e:Addr}{o:HO}{t':Nat}(I:Inv X pins σ H s)(mu:ZG (H x))(he:e=x∨H e=some (.own x))(k:∀ b u,b≠e→s.heap.get? b=some u→h'.get? b=some u)(heo:∃ u,h'.get? e=some u)
 (new:eX X.prog X.w (upd H x o) h' x o):Inv X pins σ (upd H x o) { s with heap:=h',toks:=t' }:=I.un (Un.write mu he k heo) (I.hok.write mu he k heo new)
theorem Inv.weak{σ':List (Option V)}(I:Inv X pins σ H s)(hl:σ'.length = σ.length)(w:∀ (i:Nat) v,σ'[i]? = some (some v)→σ[i]? = some (some v)):Inv X pins σ' H s :=
 ⟨I.ok,I.os,I.bare,I.base,let ⟨m,hn,hl'⟩:=I.loc;⟨m,hn,fun i x v e1 e2 e3=>hl' i x v e1 (w i v e2) e3⟩,I.cell,I.free,I.pF,I.pin,I.hok,hl.trans I.len⟩
theorem Inv.CQ{Ad:List (Addr×Obj)}(I:Inv X pins σ H s)(h:∀ p∈Ad,s.heap.get? p.1=some p.2∧H p.1=none∧p.1≠X.env.locals∧p.1∉X.fs∧∀ v,p.2.data≠.cell v):Inv X Ad σ H s :=
 ⟨I.ok,I.os,I.bare,I.base,I.loc,I.cell,I.free,I.pF,fun p hp=>(List.mem_append.mp hp).elim (fun z=>I.pin p (List.mem_append_left _ z)) (h p),I.hok,I.len⟩
theorem FW{N:List Str}(hN:N.Nodup){i j:Nat}{x:Str}(a:N[i]? = some x)(b:N[j]? = some x):i=j:=by
 obtain⟨h1,e1⟩:=List.getElem?_eq_some_iff.mp a
 obtain⟨h2,e2⟩:=List.getElem?_eq_some_iff.mp b
 exact(List.getElem_inj hN).mp (e1.trans e2.symm)
theorem zV{M:Model}{A:Around}{E:Value→Shared→Prop}{i:Nat}{x:Str}{v:V}{u:Value}{Q:Unit→Shared→Prop}(I:Inv X pins σ H s)(hN:X.N.Nodup)(hi:X.N[i]? = some x)(hx:Loc X.env.scope x)(r:RelV v u)
 (h:∀ s',Inv X pins (σ.set i (some v)) H s'→(∃ a,Heap.SameBut a s.heap s'.heap∧(a=X.env.locals∨X.env.cells.lookup x=some a))→Q () s') (hf:X.fn x=true∨X.env.scope.names.lookup x=some .local:=by first|exact .inl rfl|exact .inr rfl|assumption):wpAny M A (storeName X.env x u) Q E s:=by
 obtain⟨m,hn,hl⟩:=id I.loc
 have hcls:(X.env.scope.kind == .class || (X.env.scope.kind == .module && X.env.locals != X.env.globals))=false:=by rw[I.ok.kind];rfl
 have hiσ : i < σ.length:=by rw[I.len];exact(List.getElem?_eq_some_iff.mp hi).1
 have W8:=I.W8
 have tracked:∀ {a:Addr} {h':Heap},(∃ o,s.heap.get? a=some o∧H a=none)→Heap.SameBut a s.heap h'→qQ X.prog X.w H h':=fun {a h'} ha hs b ob e=>by
  obtain⟨_,_,hfree⟩:=ha
  refine(I.hok b ob e).stay (fun c w' hc q=>(hs.2 c ?_).trans q) (fun _ q=>q) fun _ _ q=>q
  rintro rfl
  rcases hc with rfl|hc
  ·rw[hfree] at e;cases e
  ·rw[hfree] at hc;cases hc
 rcases hx with hk|hk
 ·refine wpAny_storeName_local hk hn (fun h' hn' hs=>?_) hcls
  obtain⟨oL,_,_,hoL,_⟩:=id hn
  refine h _ ⟨I.ok,I.os,I.bare,⟨fun b o e n hb hx=>?_,fun b o e n hb hx=>?_,I.base.free,fun b o e hx=>?_,I.base.tups,I.base.zM,I.base.zH⟩,⟨_,hn',fun j y v' e1 e2 e3=>?_⟩,fun y c e=>?_,I.free,I.pF,fun p hp=>?_,tracked ⟨oL,hoL,I.free⟩ hs,by simpa using I.len⟩ ⟨_,hs,.inl rfl⟩
  ·exact(hs.2 b (Nat.ne_of_lt (Nat.lt_of_lt_of_le (Heap.lt_size e) I.ok.above))).trans (I.base.keep b o e n hb hx)
  ·obtain⟨sl,e1⟩:=I.base.slot b o e n hb hx
   exact⟨sl,(hs.2 b (Nat.ne_of_lt (Nat.lt_of_lt_of_le (Heap.lt_size e) I.ok.above))).trans e1⟩
  ·obtain⟨o',e1⟩:=I.base.there b o e hx
   exact⟨o',(hs.2 b (Nat.ne_of_lt (Nat.lt_of_lt_of_le (Heap.lt_size e) I.ok.above))).trans e1⟩
  ·by_cases hj:j=i
   ·subst hj
    rw[hi] at e1;cases e1
    rw[List.getElem?_set_self hiσ] at e2
    cases e2
    exact⟨u,r,.inl ⟨hk,by simp⟩⟩
   ·rw[List.getElem?_set_ne (Ne.symm hj)] at e2
    obtain⟨u',r',q⟩:=hl j y v' e1 e2 e3
    refine⟨u',r',?_⟩
    rcases q with ⟨k,e⟩|⟨k,c,e,z⟩
    ·refine .inl ⟨k,?_⟩
     have:y≠x:=fun e=>hj (FW hN e1 (e ▸ hi))
     simp[this,e]
    ·exact .inr ⟨k,c,e,z.sameBut hs (W8 y c e)⟩
  ·obtain⟨w',z⟩:=I.cell y c e
   exact⟨w',z.sameBut hs (W8 y c e)⟩
  ·obtain⟨e,n,ne,nf,d⟩:=I.pin p hp
   exact⟨(hs.2 p.1 ne).trans e,n,ne,nf,d⟩
 ·have hfn:X.fn x=true:=by
   rcases hf with z|z
   ·exact z
   ·rw[z] at hk;cases hk
  obtain⟨c,hc⟩:=I.ok.has x (.inl hk)
  obtain⟨w',z⟩:=I.cell x c hc
  refine wpAny_storeName_cell I.ok.kind hk hc z (fun h' hc' hs=>?_)
  obtain⟨oc,hoc,aas⟩:=id z
  refine h { s with heap:=h' } ⟨I.ok,I.os,I.bare,⟨fun b o e n hb hx=>?_,fun b o e n hb hx=>?_,I.base.free,fun b o e hx=>?_,I.base.tups,I.base.zM,I.base.zH⟩,⟨m,hn.sameBut hs (Ne.symm (W8 x c hc)),fun j y v' e1 e2 e3=>?_⟩,fun y c' e=>?_,I.free,I.pF,fun p hp=>?_,tracked ⟨oc,hoc,I.pF x c hc⟩ hs,by simpa using I.len⟩ ⟨c,hs,.inr hc⟩
  ·exact(hs.2 b (Nat.ne_of_lt (Nat.lt_of_lt_of_le (Heap.lt_size e) (I.ok.cab x c hfn hc)))).trans (I.base.keep b o e n hb hx)
  ·obtain⟨sl,e1⟩:=I.base.slot b o e n hb hx
   exact⟨sl,(hs.2 b (Nat.ne_of_lt (Nat.lt_of_lt_of_le (Heap.lt_size e) (I.ok.cab x c hfn hc)))).trans e1⟩
  ·obtain⟨o',e1⟩:=I.base.there b o e hx
   exact⟨o',(hs.2 b (Nat.ne_of_lt (Nat.lt_of_lt_of_le (Heap.lt_size e) (I.ok.cab x c hfn hc)))).trans e1⟩
  ·by_cases hj:j=i
   ·subst hj
    rw[hi] at e1;cases e1
    rw[List.getElem?_set_self hiσ] at e2
    cases e2
    exact⟨u,r,.inr ⟨.inl hk,c,hc,hc'⟩⟩
   ·rw[List.getElem?_set_ne (Ne.symm hj)] at e2
    obtain⟨u',r',q⟩:=hl j y v' e1 e2 e3
    refine⟨u',r',?_⟩
    rcases q with q|⟨k,c',e,z'⟩
    ·exact .inl q
    ·refine .inr ⟨k,c',e,z'.sameBut hs ?_⟩
     rintro rfl
     exact hj (FW hN e1 (I.ok.inj _ _ _ e hc ▸ hi))
  ·by_cases hcc:c'=c
   ·subst hcc;exact⟨_,hc'⟩
   ·obtain⟨w2,z2⟩:=I.cell y c' e
    exact⟨w2,z2.sameBut hs hcc⟩
  ·obtain⟨e,n,ne,nf,d⟩:=I.pin p hp
   refine⟨(hs.2 p.1 ?_).trans e,n,ne,nf,d⟩
   intro q
   rw[q,hoc] at e
   have q':oc=p.2:=Option.some.inj e
   exact d w' (by rw[← q'];exact aas)
theorem Ew{M:Model}{A:Around}{E:Value→Shared→Prop}{i:Nat}{x:Str}{v:V}{u:Value}{Q:Unit→Shared→Prop}(I:Inv X pins σ H s)(hN:X.N.Nodup)(hi:X.N[i]? = some x)(hx:Loc X.env.scope x)(r:RelV v u)
 (h:∀ s',Inv X pins (σ.set i (some v)) H s'→Q () s') (hf:X.fn x=true∨X.env.scope.names.lookup x=some .local:=by first|exact .inl rfl|exact .inr rfl|assumption):wpAny M A (storeName X.env x u) Q E s :=
 zV I hN hi hx r (fun s' I' _=>h s' I') hf
theorem Inv.call'{s':Shared}{ch:List Addr}(I:Inv X pins σ H s)(ho:s'.os=s.os)(u:Un (frs X.stack) ch H H' s.heap s'.heap)(hok:qQ X.prog X.w H' s'.heap)(hg:AllBare s'.gens)
 (hch:∀ b∈ch,(b∈X.ex∨X.s₀.heap.objs.size≤b)∧b≠X.env.locals∧(∀ x c,X.env.cells.lookup x=some c→c≠b)∧∀ p∈X.pn++pins,p.1≠b):Inv X pins σ H' s':=by
 obtain⟨h',g',d',t',o'⟩:=s'
 have e:o'=s.os:=ho
 subst e
 exact I.call (g':=g') (t':=t') (d':=d') u hok hg hch
end
abbrev XK:=Value→Option Addr→Hp→Prop
abbrev St:=List (Option V)
abbrev VK:=V→Hp→Prop
abbrev TE:=St→Hp→VK→Prop
abbrev TT:=St→Hp→(Bool→Hp→Prop)→Prop
abbrev TA:=St→Hp→(List V→Hp→Prop)→Prop
structure Ends where
 nx:St→Hp→Prop
 rt:VK
 bk:St→Hp→Prop:=fun _ _=>False
 ct:St→Hp→Prop:=fun _ _=>False
abbrev TS:=Ends→St→Hp→Prop
def EP(X:Cx)(pins:List (Addr×Obj))(σ : St)(Q:VK)(u:Value)(s':Shared):Prop:=∃ v H',Inv X pins σ H' s'∧RelV v u∧Q v H'
def TP(X:Cx)(pins:List (Addr×Obj))(σ : St)(Q:Bool→Hp→Prop)(b:Bool)(s':Shared):Prop:=∃ H',Inv X pins σ H' s'∧Q b H'
def AP(X:Cx)(pins:List (Addr×Obj))(σ : St)(Q:List V→Hp→Prop)(us:List Value)(s':Shared):Prop:=∃ vs H',Inv X pins σ H' s'∧Vals vs us∧Q vs H'
def SP(X:Cx)(pins:List (Addr×Obj))(D:Ends)(f:Flow)(s':Shared):Prop :=
 match f with
 | .next=>∃ σ' H',Inv X pins σ' H' s'∧D.nx σ' H'
 | .brk=>∃ σ' H',Inv X pins σ' H' s'∧D.bk σ' H'
 | .cont=>∃ σ' H',Inv X pins σ' H' s'∧D.ct σ' H'
 | .ret u=>∃ v σ' H',Inv X pins σ' H' s'∧RelV v u∧D.rt v H'
def PE(X:Cx)(e:Expr)(t:TE):Prop :=
 ∀ (pins:List (Addr×Obj)) (s:Shared) (σ : St) (H:Hp) (Q:VK),Inv X pins σ H s→t σ H Q→wpAny (model X.prog X.w) X.A (eval e X.env) (EP X pins σ Q) X.xe s
def PT(X:Cx)(e:Expr)(t:TT):Prop :=
 ∀ (pins:List (Addr×Obj)) (s:Shared) (σ : St) (H:Hp) (Q:Bool→Hp→Prop),Inv X pins σ H s→t σ H Q→wpAny (model X.prog X.w) X.A (isTrue e X.env (eval e X.env)) (TP X pins σ Q) X.xe s
def PW(X:Cx)(e:Expr)(t:TT):Prop :=
 ∀ (whole:Sem Value) (pins:List (Addr×Obj)) (s:Shared) (σ : St) (H:Hp) (Q:Bool→Hp→Prop),Inv X pins σ H s→t σ H Q→wpAny (model X.prog X.w) X.A (isTrue e X.env whole) (TP X pins σ Q) X.xe s
theorem PW.pt{X:Cx}{e:Expr}{t:TT}(h:PW X e t):PT X e t:=h _
def PA(X:Cx)(es:List Expr)(t:TA):Prop :=
 ∀ (pos:Pos) (pins:List (Addr×Obj)) (s:Shared) (σ : St) (H:Hp) (Q:List V→Hp→Prop),Inv X pins σ H s→t σ H Q→wpAny (model X.prog X.w) X.A (spliced (backTo pos (starEach es X.env))) (AP X pins σ Q) X.xe s
def PS(X:Cx)(st:Stmt)(t:TS):Prop :=
 ∀ (pins:List (Addr×Obj)) (s:Shared) (σ : St) (H:Hp) (D:Ends),Inv X pins σ H s→t D σ H→wpAny (model X.prog X.w) X.A (exec st X.env) (SP X pins D) X.xe s
def Np(X:Cx)(st:List Stmt)(t:TS):Prop :=
 ∀ (pins:List (Addr×Obj)) (s:Shared) (σ : St) (H:Hp) (D:Ends),Inv X pins σ H s→t D σ H→wpAny (model X.prog X.w) X.A (execs st X.env) (SP X pins D) X.xe s
theorem gW{α : Type}{t:Sem α}{Q Q':α→Shared→Prop}{M:Model}{A:Around}{E:Value→Shared→Prop}{s:Shared}(h:wpAny M A t Q E s)(hQ:∀ a s,Q a s→Q' a s):wpAny M A t Q' E s:=wpAny_mono h hQ fun _ _ x=>x
end L2
namespace L2
open PySem PySem.Spec PyProof.Rows
section
variable{X:Cx}
def wH(i:Nat):TE:=fun σ H Q=>∃ v,σ[i]? = some (some v)∧Q v H
def tC(v:V):TE:=fun _ H Q=>Q v H
theorem V7{i:Nat}{x:Str}{pos:Pos}(hN:X.N[i]? = some x)(hv:Z8 X.env.scope x)(hd:(x == ("__debug__" : Str))=false:=by decide)(hcd:(x == ("__classdict__" : Str))=false:=by decide):PE X (.Name x pos) (wH i):=by
 intro pins s σ H Q I h
 obtain⟨v,e,h⟩:=h
 obtain⟨m,hn,hl⟩:=I.loc
 obtain⟨u,r,l⟩:=hl i x v hN e hv
 have fin:EP X pins σ Q u s:=⟨v,H,I,r,h⟩
 rcases l with ⟨hk,hm⟩|⟨hk,c,hc,hcell⟩
 ·exact wpAny_Name (wpAny_loadName_local I.ok.kind hk hn hm fin) hd
 ·rcases hk with hk|hk
  ·exact wpAny_Name (wpAny_loadName_cell I.ok.kind hk hc hcell fin) hd
  ·exact wpAny_Name (wpAny_loadName_free I.ok.kind hk hc hcell fin hcd) hd
theorem aF{i j pos}:PE X (.Constant (.int i) j pos) (tC (.int i)):=fun _ _ _ H _ I h=>wpAny_Constant_int ⟨.int i,H,I.tok _,⟨_,rfl⟩,h⟩
theorem Pg{b j pos}:PE X (.Constant (.bool b) j pos) (tC (.bl b)):=fun _ _ _ H _ I h=>Constant_bool ⟨.bl b,H,I,rfl,h⟩
theorem ye{x j pos}:PE X (.Constant (.str x) j pos) (tC (.str x)):=fun _ _ _ H _ I h=>Calls.Constant_str ⟨.str x,H,I.tok _,⟨_,rfl⟩,h⟩
def Gl(X:Cx)(x:Str):Prop:=X.env.kindOf x=some .globalImplicit
theorem S8{E:Value→Shared→Prop}{pins:List (Addr×Obj)}{s:Shared}{σ : St}{H:Hp}{x:Str}{u:Value}{pos:Pos}{Q:Value→Shared→Prop}(I:Inv X pins σ H s)(hg:Gl X x)(hm:X.mg x=some u)(h:Q u s)
 (hd:(x == ("__debug__" : Str))=false:=by decide):wpAny (model X.prog X.w) X.A (eval (.Name x pos) X.env) Q E s :=
 Calls.Name_function_global I.ok.kind hg (Calls.loadGlobal_global (by rw[I.ok.glob];exact I.mod.glob.keeps I.bk) hm h) hd
theorem vh{E:Value→Shared→Prop}{pins:List (Addr×Obj)}{s:Shared}{σ : St}{H:Hp}{x:Str}{u:Value}{pos:Pos}{Q:Value→Shared→Prop}(I:Inv X pins σ H s)(hg:Gl X x)(hm:X.mg x=none)(hv:bootBuiltins x=some u)(h:Q u s)
 (hn:x ≠ "__name__" := by decide) (hd:(x == ("__debug__" : Str))=false:=by decide):wpAny (model X.prog X.w) X.A (eval (.Name x pos) X.env) Q E s:=by
 obtain⟨mb,h1,h2⟩:=I.mod.blt
 exact Calls.Name_function_global I.ok.kind hg (Calls.loadGlobal_builtin (by rw[I.ok.glob];exact I.mod.glob.keeps I.bk) hm (by rw[I.ok.blt];exact h1.keeps I.bk) ((h2 x hn).trans hv) h) hd
theorem Sh{x:Str}{v:V}{u:Value}{pos:Pos}(hg:Gl X x)(hm:X.mg x=none)(hv:bootBuiltins x=some u)(r:RelV v u)(hn:x ≠ "__name__" := by decide)(hd:(x == ("__debug__" : Str))=false:=by decide):PE X (.Name x pos) (tC v) :=
 fun _ _ _ H _ I h=>vh I hg hm hv ⟨v,H,I,r,h⟩ hn hd
variable{a b:Expr}{ta tb:TE}{pos:Pos}
def tB(t:TE):TT:=fun σ H Q=>t σ H fun x H1=>∃ c,x=.bl c∧Q c H1
theorem qi{e:Expr}{t:TE}(h:PE X e t)(he:∀ whole,isTrue e X.env whole=(do let v ← whole;standAt e.pos;holding [v] (truthy v)):=by intro _;rfl):PT X e (tB t):=by
 intro pins s σ H Q I hw
 refine isTrue_plain (gW (h pins s σ H _ I hw) fun v s1 ⟨x,H1,I1,r1,q1⟩=>?_) (he _)
 obtain⟨d,rfl,q⟩:=q1
 cases r1
 exact wpAny_truthy_bool ⟨H1,I1,q⟩
variable{tA tB':TT}{rest:List Expr}
def X5(t u:TT):TT:=fun σ H Q=>t σ H fun c H1=>if c=true then u σ H1 Q else Q false H1
def tOr(t u:TT):TT:=fun σ H Q=>t σ H fun c H1=>if c=true then Q true H1 else u σ H1 Q
def XS(t:TT):TT:=fun σ H Q=>t σ H fun c H1=>Q (!c) H1
theorem pw_and1(ha:PT X a tA):PW X (.BoolOp .And [a] pos) tA:=by
 intro wh pins s σ H Q I h
 refine isTrue_and (gW (ha pins s σ H Q I h) fun c s1 e=>?_)
 cases c with
 | true=>exact isTrue_and_nil e
 | false=>exact e
theorem pw_or1(ha:PT X a tA):PW X (.BoolOp .Or [a] pos) tA:=by
 intro wh pins s σ H Q I h
 refine isTrue_or (gW (ha pins s σ H Q I h) fun c s1 e=>?_)
 cases c with
 | false=>exact isTrue_or_nil e
 | true=>exact e
theorem pw_and(ha:PT X a tA)(hb:PW X (.BoolOp .And (b::rest) pos) tB'):PW X (.BoolOp .And (a::b::rest) pos) (X5 tA tB'):=by
 intro wh pins s σ H Q I h
 refine isTrue_and (gW (ha pins s σ H _ I h) fun c s1 ⟨H1,I1,q1⟩=>?_)
 cases c with
 | true=>exact hb wh pins s1 σ H1 Q I1 q1
 | false=>exact⟨H1,I1,q1⟩
theorem pw_or(ha:PT X a tA)(hb:PW X (.BoolOp .Or (b::rest) pos) tB'):PW X (.BoolOp .Or (a::b::rest) pos) (tOr tA tB'):=by
 intro wh pins s σ H Q I h
 refine isTrue_or (gW (ha pins s σ H _ I h) fun c s1 ⟨H1,I1,q1⟩=>?_)
 cases c with
 | true=>exact⟨H1,I1,q1⟩
 | false=>exact hb wh pins s1 σ H1 Q I1 q1
theorem xY(ha:PT X a tA):PT X (.UnaryOp .Not a pos) (XS tA):=by
 intro pins s σ H Q I h
 exact isTrue_not (ha pins s σ H (fun c H1=>Q (!c) H1) I h)
def UJ(ta tb:TE):TE:=fun σ H Q=>ta σ H fun x H1=>∃ c,x=.bl c∧if c=true then tb σ H1 Q else Q (.bl false) H1
def XR(ta tb:TE):TE:=fun σ H Q=>ta σ H fun x H1=>∃ c,x=.bl c∧if c=true then Q (.bl true) H1 else tb σ H1 Q
theorem yf{op}{t:TE}(h:PE X a t):PE X (.BoolOp op [a] pos) t:=fun pins s σ H Q I hw=>BoolOp_one (h pins s σ H Q I hw)
theorem Ii(ha:PE X a ta)(hb:PE X (.BoolOp .And (b::rest) pos) tb):PE X (.BoolOp .And (a::b::rest) pos) (UJ ta tb):=by
 intro pins s σ H Q I h
 refine BoolOp_and (gW (ha pins s σ H _ I h) fun v s1 ⟨x,H1,I1,r1,q1⟩=>?_)
 obtain⟨c,rfl,q1⟩:=q1
 cases r1
 refine wpAny_truthy_bool ?_
 cases c with
 | true=>exact hb pins s1 σ H1 Q I1 q1
 | false=>exact⟨.bl false,H1,I1,rfl,q1⟩
theorem Vd(ha:PE X a ta)(hb:PE X (.BoolOp .Or (b::rest) pos) tb):PE X (.BoolOp .Or (a::b::rest) pos) (XR ta tb):=by
 intro pins s σ H Q I h
 refine BoolOp_or (gW (ha pins s σ H _ I h) fun v s1 ⟨x,H1,I1,r1,q1⟩=>?_)
 obtain⟨c,rfl,q1⟩:=q1
 cases r1
 refine wpAny_truthy_bool ?_
 cases c with
 | false=>exact hb pins s1 σ H1 Q I1 q1
 | true=>exact⟨.bl true,H1,I1,rfl,q1⟩
end
end L2
namespace L2
open PySem PySem.Spec PyProof.Rows
def wM(K:PySem.W.Frag)(H:Hp)(a:Addr)(xs:List V):Prop :=
 Rd H a (.lst xs) ∨
  ∃ (o:Obj) (its:Array Value) (n:Nat),K.lookup a=some o∧o.cls=.type "list" ∧ o.dict=none∧o.data=.seq its n∧its.size≤sizeLine∧Vals xs its.toList
def zF(K:PySem.W.Frag)(H:Hp)(a:Addr)(xs:List V):Prop :=
 Rd H a (.tup xs) ∨
  ∃ (o:Obj) (its:Array Value) (n:Nat),K.lookup a=some o∧o.cls=.type "tuple" ∧ o.data=.seq its n∧its.size≤sizeLine∧Vals xs its.toList
def aaF:Value→Option V
 | .none=>some .non
 | .bool b=>some (.bl b)
 | .int i _=>some (.int i)
 | .str x _=>some (.str x)
 | .bytes b _=>some (.byt b)
 | .float b _=>some (.flt b)
 | .ref a=>some (.ref a)
 | .type n=>some (.ty n)
 | _=>none
theorem RelV.abs{x:V}{u:Value}(r:RelV x u):aaF u=some x:=by
 cases x with
 | non=>cases r;rfl
 | bl _=>cases r;rfl
 | int _=>obtain⟨t,rfl⟩:=r;rfl
 | str _=>obtain⟨t,rfl⟩:=r;rfl
 | byt _=>obtain⟨t,rfl⟩:=r;rfl
 | flt _=>obtain⟨t,rfl⟩:=r;rfl
 | ref _=>cases r;rfl
 | ty _=>cases r;rfl
theorem RelV.inj{x y:V}{u:Value}(r:RelV x u)(q:RelV y u):x=y:=Option.some.inj (r.abs.symm.trans q.abs)
theorem Vals.inj:∀ {xs ys:List V} {us:List Value},Vals xs us→Vals ys us→xs=ys
 | _,_,_,.nil,.nil=>rfl
 | _,_,_,.cons r t,.cons r' t'=>by rw[r.inj r',Vals.inj t t']
section
variable{X:Cx}{pins:List (Addr×Obj)}{σ : St}{H:Hp}{s:Shared}{a:Addr}{xs ys:List V}
theorem Inv.list(I:Inv X pins σ H s)(h:wM X.K H a xs):∃ its:List Value,Vals xs its∧PlainL s.heap a its.toArray∧xs.length≤sizeLine:=by
 rcases h with h|⟨o,its,n,hk,hc,hd,hs,hz,r⟩
 ·obtain⟨z,its,n,r,e⟩:=h.ok I.hok
  exact⟨its,r,⟨_,n,e,rfl,rfl,rfl⟩,z⟩
 ·refine⟨its.toList,r,⟨o,n,I.Gi a o hk,hc,hd,by simpa using hs⟩,?_⟩
  have e:=r.length
  simp only[Array.length_toList] at e
  omega
theorem Inv.tuple(I:Inv X pins σ H s)(h:zF X.K H a xs):∃ its:List Value,Vals xs its∧IsTup s.heap a its.toArray∧xs.length≤sizeLine:=by
 rcases h with h|⟨o,its,n,hk,hc,hs,hz,r⟩
 ·obtain⟨z,its,r,p⟩:=h.ok I.hok
  exact⟨its,r,p.tup,z⟩
 ·refine⟨its.toList,r,⟨o,I.Gi a o hk,hc,n,by simpa using hs⟩,?_⟩
  have e:=r.length
  simp only[Array.length_toList] at e
  omega
theorem Inv.yt(I:Inv X pins σ H s)(h:wM X.K H a xs)(h':wM X.K H a ys):xs=ys:=by
 obtain⟨its,r,⟨o,n,e,_,_,d⟩,_⟩:=I.list h
 obtain⟨its',r',⟨o',n',e',_,_,d'⟩,_⟩:=I.list h'
 rw[e] at e';cases e'
 rw[d] at d'
 injection d' with d1 _
 have:its=its':=by simpa using congrArg Array.toList d1
 subst this
 exact r.inj r'
theorem Inv.uJ(I:Inv X pins σ H s)(h:zF X.K H a xs)(h':zF X.K H a ys):xs=ys:=by
 obtain⟨its,r,⟨o,e,_,n,d⟩,_⟩:=I.tuple h
 obtain⟨its',r',⟨o',e',_,n',d'⟩,_⟩:=I.tuple h'
 rw[e] at e';cases e'
 rw[d] at d'
 injection d' with d1 _
 have:its=its':=by simpa using congrArg Array.toList d1
 subst this
 exact r.inj r'
end
abbrev Cx.wish(X:Cx)(E:Value→Shared→Prop):Cx:={ X with xe:=E }
abbrev Cx.Sy(X:Cx):Cx:=X.wish fun _ _=>False
theorem Cx.Ok.wish{X:Cx}(ok:X.Ok)(E:Value→Shared→Prop):(X.wish E).Ok :=
 ⟨ok.mod,ok.kind,ok.glob,ok.blt,ok.above,ok.inj,ok.has,ok.cab,ok.hd,ok.frames,ok.stk,ok.exf,ok.bs,ok.bsz,ok.Py,ok.TY,ok.yG,ok.frf⟩
theorem Cx.Ok.pR{X:Cx}{E:Value→Shared→Prop}(ok:(X.wish E).Ok):X.Ok :=
 ⟨ok.mod,ok.kind,ok.glob,ok.blt,ok.above,ok.inj,ok.has,ok.cab,ok.hd,ok.frames,ok.stk,ok.exf,ok.bs,ok.bsz,ok.Py,ok.TY,ok.yG,ok.frf⟩
section
variable{X:Cx}{pins:List (Addr×Obj)}{σ : St}{H:Hp}{s:Shared}{E:Value→Shared→Prop}
theorem Inv.wish(I:Inv X pins σ H s)(E:Value→Shared→Prop):Inv (X.wish E) pins σ H s:=⟨I.ok.wish E,I.os,I.bare,I.base,I.loc,I.cell,I.free,I.pF,I.pin,I.hok,I.len⟩
theorem Inv.pR(I:Inv (X.wish E) pins σ H s):Inv X pins σ H s:=⟨I.ok.pR,I.os,I.bare,I.base,I.loc,I.cell,I.free,I.pF,I.pin,I.hok,I.len⟩
theorem SP.pR{D:Ends}{f:Flow}{s':Shared}(h:SP (X.wish E) pins D f s'):SP X pins D f s':=by
 cases f with
 | next=>obtain⟨σ',H',I,q⟩:=h;exact⟨σ',H',I.pR,q⟩
 | brk=>obtain⟨σ',H',I,q⟩:=h;exact⟨σ',H',I.pR,q⟩
 | cont=>obtain⟨σ',H',I,q⟩:=h;exact⟨σ',H',I.pR,q⟩
 | ret u=>obtain⟨v,σ',H',I,r,q⟩:=h;exact⟨v,σ',H',I.pR,r,q⟩
theorem Np.Sy{st:List Stmt}{t:TS}(h:Np X.Sy st t):Np X st t:=fun pins s σ H D I hw =>
 wpAny_mono (h pins s σ H D (I.wish _) hw) (fun _ _ q=>q.pR) fun _ _ z=>False.elim z
end
section
variable{X:Cx}{st:Stmt}{rest:List Stmt}{t u:TS}{e:Expr}{te:TE}{pos:Pos}
def Uz:TS:=fun D σ H=>D.nx σ H
def XQ(t u:TS):TS:=fun D σ H=>t { D with nx:=u D } σ H
theorem dq:Np X [] Uz:=fun _ _ σ H _ I h=>wpAny_execs_nil ⟨σ,H,I,h⟩
theorem aD(h1:PS X st t)(h2:Np X rest u):Np X (st::rest) (XQ t u):=by
 intro pins s σ H D I h
 refine wpAny_execs_cons (gW (h1 pins s σ H { D with nx:=u D } I h) fun f s1 q=>?_)
 cases f with
 | next =>
  obtain⟨σ',H',I',q⟩:=q
  exact h2 pins s1 σ' H' D I' q
 | ret v=>exact q
 | brk=>exact q
 | cont=>exact q
theorem aJ(h1:PS X st t):Np X [st] t:=by
 intro pins s σ H D I h
 refine wpAny_execs_cons (gW (h1 pins s σ H D I h) fun f s1 q=>?_)
 cases f with
 | next=>exact wpAny_execs_nil q
 | ret v=>exact q
 | brk=>exact q
 | cont=>exact q
theorem Inv.quiet{pins:List (Addr×Obj)}{σ : St}{H:Hp}{s:Shared}(I:Inv X pins σ H s):interactive X.env=false:=by simp[interactive,I.ok.kind]
def Es(te:TE):TS:=fun D σ H=>te σ H fun _ H1=>D.nx σ H1
theorem gr(he:PE X e te)(hs:swapsWith e none pos.line X.env=pure false:=by rfl):PS X (.Expr e pos) (Es te):=by
 intro pins s σ H D I h
 exact wpAny_Expr_any (gW (he pins s σ H _ I h) fun v s1 ⟨x,H1,I1,r1,q1⟩=>⟨σ,H1,I1,q1⟩) I.quiet hs
def HQ(te:TE):TS:=fun D σ H=>te σ H D.rt
theorem bY(he:PE X e te):PS X (.Return (some e) pos) (HQ te):=by
 intro pins s σ H D I h
 exact wpAny_Return_some (gW (he pins s σ H _ I h) fun v s1 ⟨x,H1,I1,r1,q1⟩=>⟨x,σ,H1,I1,r1,q1⟩)
def XX(c:TT)(t u:TS):TS:=fun D σ H=>c σ H fun b H1=>if b=true then t D σ H1 else u D σ H1
theorem iu{c:Expr}{a b:List Stmt}{tc:TT}(hc:PT X c tc)(ha:Np X a t)(hb:Np X b u):PS X (.If c a b pos) (XX tc t u):=by
 intro pins s σ H D I h
 refine wpAny_If (gW (hc pins s σ H _ I h) fun d s1 ⟨H1,I1,q1⟩=>?_)
 cases d with
 | true=>exact ha pins s1 σ H1 D I1 q1
 | false=>exact hb pins s1 σ H1 D I1 q1
def Ob:TS:=fun _ _ _=>False
theorem Fp:PS X st Ob:=fun _ _ _ _ _ _ h=>h.elim
end
abbrev TG:=V→St→Hp→(St→Hp→Prop)→Prop
abbrev Nx:=List V→St→Hp→(St→Hp→Prop)→Prop
def PG(X:Cx)(target:Expr)(t:TG):Prop :=
 ∀ (pins:List (Addr×Obj)) (s:Shared) (σ : St) (H:Hp) (v:V) (u:Value) (Q:St→Hp→Prop),Inv X pins σ H s→RelV v u→t v σ H Q →
  wpAny (model X.prog X.w) X.A (assign target X.env u) (fun _ s'=>∃ σ' H',Inv X pins σ' H' s'∧Q σ' H') X.xe s
def PGs(X:Cx)(ts:List Expr)(t:Nx):Prop :=
 ∀ (pins:List (Addr×Obj)) (s:Shared) (σ : St) (H:Hp) (vs:List V) (us:List Value) (Q:St→Hp→Prop),Inv X pins σ H s→Vals vs us→t vs σ H Q →
  wpAny (model X.prog X.w) X.A (assignInOrder ((assignEach ts X.env).map (·.2)) us) (fun _ s'=>∃ σ' H',Inv X pins σ' H' s'∧Q σ' H') X.xe s
abbrev Xo:=V→V→V→Hp→(Hp→Prop)→Prop
def ZC(X:Cx)(t:Xo):Prop :=
 ∀ (pins:List (Addr×Obj)) (s:Shared) (σ : St) (H:Hp) (o i v:V) (ov iv u:Value) (Q:Hp→Prop),Inv X pins σ H s→RelV o ov→RelV i iv→RelV v u→t o i v H Q →
  wpAny (model X.prog X.w) X.A (setItem ov iv u) (fun _ s'=>∃ H',Inv X pins σ H' s'∧Q H') X.xe s
section
variable{X:Cx}{pos:Pos}
def pD(i:Nat):TG:=fun v σ H Q=>Q (σ.set i (some v)) H
theorem aR{i:Nat}{x:Str}(hN:X.N.Nodup)(hi:X.N[i]? = some x)(hx:Loc X.env.scope x)(hf:X.fn x=true∨X.env.scope.names.lookup x=some .local:=by first|exact .inl rfl|exact .inr rfl|assumption):PG X (.Name x pos) (pD i):=by
 intro pins s σ H v u Q I r h
 exact wpAny_assign_Name (Ew I hN hi hx r (fun s' I'=>⟨_,H,I',h⟩) hf)
def Qw:Nx:=fun vs σ H Q=>vs=[]∧Q σ H
def Gp(t:TG)(u:Nx):Nx:=fun vs σ H Q=>∃ v r,vs=v::r∧t v σ H fun σ' H'=>u r σ' H' Q
theorem jz:PGs X [] Qw:=by
 intro pins s σ H vs us Q I r h
 obtain⟨e,h⟩:=h
 subst e
 cases r
 exact assignInOrder_nil ⟨σ,H,I,h⟩
theorem cA{e:Expr}{es:List Expr}{t:TG}{u:Nx}(h1:PG X e t)(h2:PGs X es u)
 (hs:(assignEach (e::es) X.env).map (·.2)=assign e X.env::(assignEach es X.env).map (·.2):=by rfl):PGs X (e::es) (Gp t u):=by
 intro pins s σ H vs us Q I r h
 obtain⟨v,vr,e1,h⟩:=h
 subst e1
 cases r with
 | cons r rr =>
  rw[hs]
  refine assignInOrder_cons (gW (h1 pins s σ H _ _ _ I r h) fun _ s1 ⟨σ1,H1,I1,q1⟩=>?_)
  exact h2 pins s1 σ1 H1 _ _ Q I1 rr q1
def WW(K:PySem.W.Frag)(n:Nat)(t:Nx):TG:=fun v σ H Q=>∃ a xs,v=.ref a∧zF K H a xs∧xs.length=n∧t xs σ H Q
theorem lM{es:List Expr}{k:Nat}{t:Nx}{n:Nat}(hc:X.calm=true)(h:PGs X es t)
 (hn:(assignEach es X.env).length=n:=by rfl) (hst:(assignEach es X.env).findIdx? (·.1)=none:=by rfl):PG X (.Tuple es k pos) (WW X.K n t):=by
 intro pins s σ H v u Q I r hw
 obtain⟨a,xs,e1,hq,hl,hw⟩:=hw
 subst e1
 cases r
 obtain⟨its,rv,ht,hz⟩:=I.tuple hq
 refine assign_Tuple_tuple (I.ok.hd hc) ht (by simp[hn,← hl,rv.length]) hst fun h' hx=>?_
 have I1:Inv X pins σ H { s with heap:=h' }:=I.kept (t':=s.toks) fun b o e=>hx b o (Nat.ne_of_lt (Heap.lt_size e)) e
 exact h pins _ σ H xs _ Q I1 (by simpa using rv) hw
def Y9(to ti:TE)(t:Xo):TG:=fun v σ H Q=>to σ H fun o H1=>ti σ H1 fun i H2=>t o i v H2 fun H3=>Q σ H3
theorem O9{o i:Expr}{to ti:TE}{t:Xo}(ho:PE X o to)(hi:PE X i ti)(hs:ZC X t)
 (ha:∀ v,assign (.Subscript o i pos) X.env v=(do
  let ov ← holding [v] (eval o X.env)
  let iv ← holding [v,ov] (eval i X.env)
  standAt pos
  holding [v,ov,iv] (setItem ov iv v)
  release [v,ov,iv] []):=by intro _;rfl):PG X (.Subscript o i pos) (Y9 to ti t):=by
 intro pins s σ H v u Q I r h
 rw[ha]
 refine wpAny_bind (wpAny_holding (gW (ho pins s σ H _ I h) fun ov s1 ⟨x,H1,I1,r1,q1⟩=>?_))
 refine wpAny_bind (wpAny_holding (gW (hi pins s1 σ H1 _ I1 q1) fun iv s2 ⟨y,H2,I2,r2,q2⟩=>?_))
 refine wpAny_bind (wpAny_standAt (wpAny_bind (wpAny_holding (gW (hs pins s2 σ H2 x y v ov iv u _ I2 r1 r2 r q2) fun _ s3 ⟨H3,I3,q3⟩=>?_))))
 exact wpAny_release ⟨σ,H3,I3,q3⟩
def Et(te:TE)(g:TG):TS:=fun D σ H=>te σ H fun x H1=>g x σ H1 D.nx
theorem Ig{tg e:Expr}{te:TE}{g:TG}(he:PE X e te)(hg:PG X tg g)(hs:swapsWithSole [tg] e pos.line X.env=pure false:=by rfl)(hw:swappedStores [tg] e X.env=pure none:=by rfl)
 (h1:(assignEach [tg] X.env).map (·.2)=[assign tg X.env]:=by rfl):PS X (.Assign [tg] e pos) (Et te g):=by
 intro pins s σ H D I h
 refine wpAny_Assign_stores (gW (he pins s σ H _ I h) fun v s1 ⟨x,H1,I1,r1,q1⟩=>?_) hs hw
 rw[h1]
 exact gW (hg pins s1 σ H1 x v _ I1 r1 q1) fun _ s2 q=>q
theorem aZ{i:Nat}{x:Str}{e:Expr}{te:TE}{pos':Pos}(hN:X.N.Nodup)(hi:X.N[i]? = some x)(hx:Loc X.env.scope x)(he:PE X e te)(hs:swapsWith e (some (.Name x pos')) pos.line X.env=pure false:=by rfl)(hf:X.fn x=true∨X.env.scope.names.lookup x=some .local:=by first|exact .inl rfl|exact .inr rfl|assumption) :
 PS X (.Assign [.Name x pos'] e pos) (Et te (pD i)):=by
 intro pins s σ H D I h
 refine wpAny_Assign_Name (gW (he pins s σ H _ I h) fun v s1 ⟨y,H1,I1,r1,q1⟩=>?_) hs
 exact Ew I1 hN hi hx r1 (fun s2 I2=>⟨_,H1,I2,q1⟩) hf
end
structure It where
 go:Nat→Hp→Prop
 yld:Nat→Hp→V→Hp→Prop
 stop:Nat→Hp→Prop
def nU(X:Cx)(pins:List (Addr×Obj))(H:Hp)(b:Addr):Prop :=
 H b=none∧b≠X.env.locals∧b∉X.fs∧(b∈X.ex∨X.s₀.heap.objs.size≤b)∧(∀ x c,X.env.cells.lookup x=some c→c≠b)∧∀ p∈X.pn++pins,p.1≠b
theorem Inv.ud{X:Cx}{pins:List (Addr×Obj)}{σ : St}{H H':Hp}{s:Shared}{b:Addr}(I:Inv X pins σ H s)(hb:s.heap.objs.size≤b)(hn:H' b=none):nU X pins H' b:=by
 refine⟨hn,Nat.ne_of_gt (Nat.lt_of_lt_of_le I.lt hb),I.aag hb,.inr (Nat.le_trans I.sz hb),fun x c e z=>?_,fun p hp z=>?_⟩
 ·obtain⟨v,q⟩:=I.cell x c e
  exact absurd (Nat.lt_of_lt_of_le q.lt (by rw[z];exact hb)) (Nat.lt_irrefl _)
 ·exact absurd (Nat.lt_of_lt_of_le (Heap.lt_size (I.pin p hp).1) (by rw[z];exact hb)) (Nat.lt_irrefl _)
structure Turn(P:Program)(w:World)(K:PySem.W.Frag)(tg:Expr)(J:It)(fp:List Addr)(it:Addr)(tn:Nat→Heap→Prop):Prop where
 mem:it∈fp
 obj:∀ i h,tn i h→∀ b∈fp,∃ o,h.get? b=some o∧∀ v,o.data≠.cell v
 keep:∀ i h h',tn i h→(∀ b∈fp,∀ o,h.get? b=some o→h'.get? b=some o)→tn i h'
 item:∀ (X:Cx),X.prog=P→X.w=w→X.K=K→X.calm=true→∀ (i:Nat) (pins:List (Addr×Obj)) (s:Shared) (σ : St) (H:Hp) (E:Value→Shared→Prop),Inv X pins σ H s→(∀ b∈fp,nU X pins H b)→tn i s.heap→J.go i H →
  wpAny (model P w) X.A (pyNext (.ref it)) (fun r s1=>∃ u,r=some u ∧
   wpAny (model P w) X.A (letOwnedTupleGo tg (.ref it) u) (fun _ s2=>∃ x H',Inv X pins σ H' s2∧RelV x u∧J.yld i H x H'∧tn (i+1) s2.heap∧∀ b∈fp,H' b=none) E s1) E s
 done:∀ (X:Cx),X.prog=P→X.w=w→X.K=K→X.calm=true→∀ (i:Nat) (pins:List (Addr×Obj)) (s:Shared) (σ : St) (H:Hp) (E:Value→Shared→Prop),Inv X pins σ H s→(∀ b∈fp,nU X pins H b)→tn i s.heap→J.stop i H →
  wpAny (model P w) X.A (pyNext (.ref it)) (fun r s1=>r=none∧Inv X pins σ H s1) E s
 self:∀ (A:Around) (i:Nat) (s:Shared) (Q:Value→Shared→Prop) (E:Value→Shared→Prop),tn i s.heap→Q (.ref it) s→wpAny (model P w) A (pyIter (.ref it)) Q E s
abbrev TI:=St→Hp→(It→Hp→Prop)→Prop
def PIE(X:Cx)(pins:List (Addr×Obj))(σ : St)(tg:Expr)(R:It→Hp→Prop)(itv:Value)(s2:Shared):Prop :=
 ∃ (it:Addr) (fp:List Addr) (tn:Nat→Heap→Prop) (J:It) (H':Hp),itv=.ref it∧Inv X pins σ H' s2∧Turn X.prog X.w X.K tg J fp it tn∧tn 0 s2.heap∧(∀ b∈fp,nU X pins H' b)∧R J H'
def PI(X:Cx)(tg iter:Expr)(wi:TI):Prop :=
 ∀ (pins:List (Addr×Obj)) (s:Shared) (σ : St) (H:Hp) (R:It→Hp→Prop),Inv X pins σ H s→wi σ H R →
  wpAny (model X.prog X.w) X.A (eval iter X.env) (fun v s1=>wpAny (model X.prog X.w) X.A (pyIter v) (PIE X pins σ tg R) X.xe s1) X.xe s
theorem Ks{M:Model}{A:Around}{E:Value→Shared→Prop}{s:Shared}{tg:Expr}{it:Addr}{u:Value}{o:Obj}{n:String}{vs:Array Value}{Q:Unit→Shared→Prop}(ho:s.heap.get? it=some o)(hc:o.cls=.type n)(hd:o.data=.fields vs)
 (hn:["enumerate", "zip", "dict_itemiterator", "dict_reverseitemiterator", "odict_iterator", "itertools.zip_longest", "itertools.pairwise"].contains n=false) (hQ:Q () s):wpAny M A (letOwnedTupleGo tg (.ref it) u) Q E s:=by
 unfold letOwnedTupleGo
 cases tg<;>first
  | exact wpAny_pure hQ
  | (cases u<;>first
   | exact wpAny_pure hQ
   | (refine wpAny_bind (wpAny_load ho ?_)
      rw[hc,hd]
      show wpAny M A (if (["enumerate", "zip", "dict_itemiterator", "dict_reverseitemiterator", "odict_iterator", "itertools.zip_longest", "itertools.pairwise"].contains n && vs[0]? == some (rawInt _))=true then _ else _) Q E s
      rw[if_neg (by intro h;rw[hn,Bool.false_and] at h;cases h)]
      exact wpAny_pure hQ))
def ZM(K:PySem.W.Frag)(a:Addr):It :=
 ⟨fun i H=>∃ xs x,wM K H a xs∧xs[i]? = some x,fun i H x H'=>H'=H∧∀ xs,wM K H a xs→xs[i]? = some x,fun i H=>∃ xs,wM K H a xs∧xs.length≤i⟩
def ZK(K:PySem.W.Frag)(a:Addr):It :=
 ⟨fun i H=>∃ xs x,zF K H a xs∧xs[i]? = some x,fun i H x H'=>H'=H∧∀ xs,zF K H a xs→xs[i]? = some x,fun i H=>∃ xs,zF K H a xs∧xs.length≤i⟩
def XD(lo:Int)(n:Nat):It:=⟨fun i _=>i < n,fun i H x H'=>H'=H∧x=.int (lo+i),fun i _=>n≤i⟩
theorem Lb{P:Program}{w:World}{K:PySem.W.Frag}{tg:Expr}(a it:Addr):Turn P w K tg (ZM K a) [it] it (fun i h=>h.IsListIter it a i) where
 mem:=by simp
 obj:=fun i h st b hb=>by
  have e:b=it:=by simpa using hb
  subst e
  obtain⟨o,e,c,d⟩:=st
  exact⟨o,e,fun v z=>by rw[d] at z;cases z⟩
 keep:=fun i h h' st k=>st.at fun o e=>k it (by simp) o e
 item:=by
  intro X hP hw hK hc i pins s σ H E I hf st hg
  subst hP hw hK
  obtain⟨xs,x,hq,hx⟩:=hg
  obtain⟨its,rv,p,hz⟩:=I.list hq
  obtain⟨u,hu,ru⟩:=rv.get hx
  obtain⟨f0,f1,f2,f3,f4,f5⟩:=hf it (by simp)
  refine wpAny_pyNext_list_item st p.isList (x:=u) (by simpa using hu) fun h' st' sb=>?_
  have I1:Inv X pins σ H { s with heap:=h' }:=I.turned (t':=s.toks) (fun b o hb e=>(sb.2 b hb).trans e) f0 f1 f3 f4 f5
  obtain⟨o,e,c,d⟩:=id st'
  exact⟨u,rfl,Ks (s:={ s with heap:=h' }) e c d (by decide) ⟨x,H,I1,ru,⟨rfl,fun ys hy=>by rw[I.yt hy hq];exact hx⟩,st',fun b hb=>(hf b hb).1⟩⟩
 done:=by
  intro X hP hw hK hc i pins s σ H E I hf st hg
  subst hP hw hK
  obtain⟨xs,hq,hx⟩:=hg
  obtain⟨its,rv,p,hz⟩:=I.list hq
  obtain⟨f0,f1,f2,f3,f4,f5⟩:=hf it (by simp)
  have hl:=rv.length
  exact wpAny_pyNext_list_end (I.ok.hd hc) st p.isList (by simp;omega) fun h' eb=>⟨rfl,I.turned (t':=s.toks) (fun b o hb e=>eb b o hb e) f0 f1 f3 f4 f5⟩
 self:=fun _ _ _ _ _ st h=>wpAny_pyIter_listiter st h
theorem HF{P:Program}{w:World}{K:PySem.W.Frag}{tg:Expr}(a it:Addr):Turn P w K tg (ZK K a) [it] it (fun i h=>h.IsTupleIter it a i) where
 mem:=by simp
 obj:=fun i h st b hb=>by
  have e:b=it:=by simpa using hb
  subst e
  obtain⟨o,e,c,d⟩:=st
  exact⟨o,e,fun v z=>by rw[d] at z;cases z⟩
 keep:=fun i h h' st k=>st.at fun o e=>k it (by simp) o e
 item:=by
  intro X hP hw hK hc i pins s σ H E I hf st hg
  subst hP hw hK
  obtain⟨xs,x,hq,hx⟩:=hg
  obtain⟨its,rv,p,hz⟩:=I.tuple hq
  obtain⟨u,hu,ru⟩:=rv.get hx
  obtain⟨f0,f1,f2,f3,f4,f5⟩:=hf it (by simp)
  refine wpAny_pyNext_tuple_item st (show s.heap.IsTuple a its.toArray from p) (x:=u) (by simpa using hu) fun h' st' sb=>?_
  have I1:Inv X pins σ H { s with heap:=h' }:=I.turned (t':=s.toks) (fun b o hb e=>(sb.2 b hb).trans e) f0 f1 f3 f4 f5
  obtain⟨o,e,c,d⟩:=id st'
  exact⟨u,rfl,Ks (s:={ s with heap:=h' }) e c d (by decide) ⟨x,H,I1,ru,⟨rfl,fun ys hy=>by rw[I.uJ hy hq];exact hx⟩,st',fun b hb=>(hf b hb).1⟩⟩
 done:=by
  intro X hP hw hK hc i pins s σ H E I hf st hg
  subst hP hw hK
  obtain⟨xs,hq,hx⟩:=hg
  obtain⟨its,rv,p,hz⟩:=I.tuple hq
  obtain⟨f0,f1,f2,f3,f4,f5⟩:=hf it (by simp)
  have hl:=rv.length
  exact wpAny_pyNext_tuple_end (I.ok.hd hc) st (show s.heap.IsTuple a its.toArray from p) (by simp;omega) fun h' eb=>⟨rfl,I.turned (t':=s.toks) (fun b o hb e=>eb b o hb e) f0 f1 f3 f4 f5⟩
 self:=fun _ _ _ _ _ st h=>wpAny_pyIter_tupleiter st h
theorem HH{P:Program}{w:World}{K:PySem.W.Frag}{tg:Expr}(it:Addr)(lo:Int)(n:Nat):Turn P w K tg (XD lo n) [it] it (fun i h=>IsRangeIter h it (lo+(i:Nat) * 1) ((n:Int) - (i:Nat)) 1) where
 mem:=by simp
 obj:=fun i h st b hb=>by
  have e:b=it:=by simpa using hb
  subst e
  exact⟨_,st,fun v z=>by
   have z':Data.fields _=Data.cell v:=z
   cases z'⟩
 keep:=fun i h h' st k=>k it (by simp) _ st
 item:=by
  intro X hP hw hK hc i pins s σ H E I hf st hg
  subst hP hw hK
  obtain⟨f0,f1,f2,f3,f4,f5⟩:=hf it (by simp)
  have W:=Walks.range (prog:=X.prog) (w:=X.w) (I.ok.hd hc) it lo 1 n
  refine W.item i s _ _ hg st fun v h' tk hv st' kk=>?_
  obtain⟨t,rfl⟩:=hv
  have I1:Inv X pins σ H { s with heap:=h',toks:=tk }:=I.turned (fun b o hb e=>kk b o (by simpa using hb) e) f0 f1 f3 f4 f5
  refine⟨_,rfl,Ks (s:={ s with heap:=h',toks:=tk }) (n := "range_iterator") st' rfl rfl (by decide) ⟨.int (lo+i),H,I1,⟨t,?_⟩,⟨rfl,rfl⟩,st',fun b hb=>(hf b hb).1⟩⟩
  rw[Int.mul_one]
 done:=by
  intro X hP hw hK hc i pins s σ H E I hf st hg
  subst hP hw hK
  obtain⟨f0,f1,f2,f3,f4,f5⟩:=hf it (by simp)
  exact wpAny_pyNext_range_end (I.ok.hd hc) st (by have:n≤i:=hg;omega) fun h' eb=>⟨rfl,I.turned (t':=s.toks) (fun b o hb e=>eb b o hb e) f0 f1 f3 f4 f5⟩
 self:=fun _ _ _ _ _ st h=>wpAny_pyIter_rangeiter st h
end L2
namespace L2
open PySem PySem.Spec PyProof.Rows
section
variable{X:Cx}{tg:Expr}
def Vm(K:PySem.W.Frag)(tl:TE):TI:=fun σ H R=>tl σ H fun x H1=>∃ a,x=.ref a∧(∃ xs,wM K H1 a xs)∧R (ZM K a) H1
def YW(K:PySem.W.Frag)(tl:TE):TI:=fun σ H R=>tl σ H fun x H1=>∃ a,x=.ref a∧(∃ xs,zF K H1 a xs)∧R (ZK K a) H1
theorem R9{l:Expr}{tl:TE}(hl:PE X l tl):PI X tg l (Vm X.K tl):=by
 intro pins s σ H R I h
 refine gW (hl pins s σ H _ I h) fun v s1 ⟨x,H1,I1,r1,q1⟩=>?_
 obtain⟨a,e,⟨xs,hq⟩,q⟩:=q1
 subst e
 cases r1
 obtain⟨its,rv,p,hz⟩:=I1.list hq
 refine wpAny_pyIter_list p.isList ?_
 refine⟨s1.heap.objs.size,[s1.heap.objs.size],_,_,H1,rfl,I1.kept (t':=s1.toks) fun b o e=>Heap.get?_push_of_some _ e,Lb a _,⟨_,Heap.get?_push_size _ rfl,rfl,rfl⟩,fun b hb=>?_,q⟩
 have e:b=s1.heap.objs.size:=by simpa using hb
 subst e
 exact I1.ud (Nat.le_refl _) (I1.hok.fresh (Nat.le_refl _))
theorem V5{l:Expr}{tl:TE}(hl:PE X l tl):PI X tg l (YW X.K tl):=by
 intro pins s σ H R I h
 refine gW (hl pins s σ H _ I h) fun v s1 ⟨x,H1,I1,r1,q1⟩=>?_
 obtain⟨a,e,⟨xs,hq⟩,q⟩:=q1
 subst e
 cases r1
 obtain⟨its,rv,p,hz⟩:=I1.tuple hq
 refine wpAny_pyIter_tuple (show s1.heap.IsTuple a its.toArray from p) ?_
 refine⟨s1.heap.objs.size,[s1.heap.objs.size],_,_,H1,rfl,I1.kept (t':=s1.toks) fun b o e=>Heap.get?_push_of_some _ e,HF a _,⟨_,Heap.get?_push_size _ rfl,rfl,rfl⟩,fun b hb=>?_,q⟩
 have e:b=s1.heap.objs.size:=by simpa using hb
 subst e
 exact I1.ud (Nat.le_refl _) (I1.hok.fresh (Nat.le_refl _))
theorem Ov{pins:List (Addr×Obj)}{σ : St}{H:Hp}{s:Shared}{R:It→Hp→Prop}{E:Value→Shared→Prop}{lo hi:Int}{t u v:Tok}{tk:Nat}(I:Inv X pins σ H s)(h1:-(2 ^ 62)≤lo)(h2:lo < 2 ^ 62)(h3:-(2 ^ 62)≤hi)(h4:hi < 2 ^ 62)
 (q:R (XD lo (hi - lo).toNat) H):wpAny (model X.prog X.w) X.A (pyIter (.ref s.heap.objs.size)) (PIE X pins σ tg R) E { s with heap:=s.heap.push { cls:=.type "range", data:=.fields #[.int lo t,.int hi u,.int 1 v] },toks:=tk }:=by
 refine wpAny_pyIter_range (IsRange.new ..) (small_one h1 h2 h3 h4) ?_
 have I1:Inv X pins σ H { s with heap:=s.heap.push { cls:=.type "range", data:=.fields #[.int lo t,.int hi u,.int 1 v] },toks:=tk }:=I.kept fun b o e=>Heap.get?_push_of_some _ e
 refine⟨(s.heap.push { cls:=.type "range", data:=.fields #[.int lo t,.int hi u,.int 1 v] }).objs.size,[(s.heap.push { cls:=.type "range", data:=.fields #[.int lo t,.int hi u,.int 1 v] }).objs.size],_,_,H,rfl,
  I1.kept (t':=tk) fun b o e=>Heap.get?_push_of_some _ e,HH _ lo (hi - lo).toNat,?_,fun b hb=>?_,q⟩
 ·have e1:lo+((0:Nat):Int) * 1=lo:=by simp
  have e2:(((hi - lo).toNat:Nat):Int) - ((0:Nat):Int)=Builtin.Range.rangeSize lo hi 1:=by rw[rangeSize_one];split<;>omega
  show IsRangeIter _ _ (lo+((0:Nat):Int) * 1) ((((hi - lo).toNat:Nat):Int) - ((0:Nat):Int)) 1
  rw[e1,e2]
  exact Heap.get?_push_size _ rfl
 ·have e:b=(s.heap.push { cls:=.type "range", data:=.fields #[.int lo t,.int hi u,.int 1 v] }).objs.size:=by simpa using hb
  subst e
  exact I1.ud (Nat.le_refl _) (I1.hok.fresh (Nat.le_refl _))
def Vl(ta:TA):TI:=fun σ H R=>ta σ H fun vs H1=>∃ j:Int,vs=[.int j]∧-(2 ^ 62)≤j∧j < 2 ^ 62∧R (XD 0 j.toNat) H1
theorem b8{a:Expr}{ta:TA}{p pos:Pos}(hg:Gl X "range")(hm:X.mg "range" = none)(ha:PA X [a] ta)(hs:starEach [a] X.env=[(false,eval a X.env)]:=by rfl):PI X tg (.Call (.Name "range" p) [a] [] pos) (Vl ta):=by
 intro pins s σ H R I h
 refine Call_ (vh I hg hm boot_range (PyProof.Rows.callWith_type1 (gW (ha pos pins s σ H _ I h) fun us s1 ⟨vs,H1,I1,r1,q1⟩=>?_) hs rfl))
 obtain⟨j,e,q1,q2,q⟩:=q1
 subst e
 cases r1 with
 | cons r rr =>
  cases rr
  obtain⟨t,rfl⟩:=r
  exact call_range_1 (Ov I1 (by omega) (by omega) q1 q2 (by simpa using q))
def X3(wi:TI)(g:TG)(tb:TS):TS:=fun D σ H=>wi σ H fun J H1=>∃ W:Nat→Nat→St→Hp→Prop,(∃ m,W 0 m σ H1)∧∀ i m σ H,W i m σ H →
 (J.stop i H∧D.nx σ H)∨(J.go i H∧∃ N:St→Hp→Prop,(∀ σ' H',N σ' H'→∃ m',m' < m∧W (i+1) m' σ' H')∧∀ x H',J.yld i H x H'→g x σ H' fun σ2 H2=>tb { D with nx:=N,ct:=N,bk:=D.nx } σ2 H2)
def CT(fp:List Addr)(h:Heap):List (Addr×Obj):=fp.filterMap fun b=>(h.get? b).map fun o=>(b,o)
theorem jV{fp:List Addr}{h:Heap}{b:Addr}{o:Obj}(hb:b∈fp)(e:h.get? b=some o):(b,o)∈CT fp h:=List.mem_filterMap.mpr ⟨b,hb,by rw[e];rfl⟩
theorem Mg{fp:List Addr}{h:Heap}{p:Addr×Obj}(hp:p∈CT fp h):p.1∈fp∧h.get? p.1=some p.2:=by
 obtain⟨b,hb,e⟩:=List.mem_filterMap.mp hp
 cases q:h.get? b with
 | none=>rw[q] at e;cases e
 | some o =>
  rw[q] at e
  have e':(b,o)=p:=Option.some.inj e
  subst e'
  exact⟨hb,q⟩
theorem Inv.pinned{pins:List (Addr×Obj)}{σ : St}{H:Hp}{s:Shared}{fp:List Addr}(I:Inv X pins σ H s)(hf:∀ b∈fp,nU X pins H b)(ho:∀ b∈fp,∃ o,s.heap.get? b=some o∧∀ v,o.data≠.cell v):Inv X (pins++CT fp s.heap) σ H s :=
 I.CQ fun p hp=>(List.mem_append.mp hp).elim (fun z=>I.pin p (List.mem_append_right _ z)) fun z=>by
  obtain⟨hb,e⟩:=Mg z
  obtain⟨f0,f1,f2,_⟩:=hf p.1 hb
  obtain⟨o,e',d⟩:=ho p.1 hb
  rw[e] at e';cases e'
  exact⟨e,f0,f1,f2,d⟩
theorem Inv.m6{pins pl:List (Addr×Obj)}{σ : St}{H:Hp}{s:Shared}(I:Inv X (pins++pl) σ H s):Inv X pins σ H s:=I.CQ fun p hp=>I.pin p (List.mem_append_right _ (List.mem_append_left _ hp))
theorem cH{iter:Expr}{body:List Stmt}{wi:TI}{g:TG}{tb:TS}{pos:Pos}(hp:PassesOwn (model X.prog X.w) X.A X.env X.xe)(hc:X.calm=true)(hi:PI X tg iter wi)(hg:PG X tg g)(hb:Np X body tb)
 (hs:∀ x,foldedSetIterable iter X.env x=pure x:=by intro _;rfl):PS X (.For tg iter body [] pos) (X3 wi g tb):=by
 intro pins s σ H D I h
 refine wpAny_For (gW (hi pins s σ H _ I h) fun v s1 h1=>gW h1 fun itv s2 h2=>?_) hs
 obtain⟨it,fp,tn,J,H2,e,I2,T,st2,f2,W,⟨m0,w0⟩,turn⟩:=h2
 subst e
 have stat:∀ {H':Hp},(∀ b∈fp,H' b=none)→∀ b∈fp,nU X pins H' b:=fun hn b hb=>⟨hn b hb,(f2 b hb).2⟩
 refine codeAny_forLoop_any (fun n s'=>∃ i σ' H',Inv X pins σ' H' s'∧tn i s'.heap∧(∀ b∈fp,H' b=none)∧W i n σ' H') ?_ m0 ⟨0,σ,H2,I2,st2,fun b hb=>(f2 b hb).1,w0⟩
 rintro n s3 ⟨i,σ3,H3,I3,st3,fr3,w3⟩
 rcases turn i n σ3 H3 w3 with ⟨stop,qn⟩|⟨go,N,hN,step⟩
 ·refine wpAny_passesOwn hp (gW (T.done X rfl rfl rfl hc i pins s3 σ3 H3 X.xe I3 (stat fr3) st3 stop) fun r s4 ⟨hr,I4⟩=>?_)
  subst hr
  exact wpAny_execs_nil ⟨σ3,H3,I4,qn⟩
 ·refine wpAny_passesOwn hp (gW (T.item X rfl rfl rfl hc i pins s3 σ3 H3 X.xe I3 (stat fr3) st3 go) fun r s4 ⟨u,hr,h4⟩=>?_)
  subst hr
  refine wpAny_passesOwn hp (gW h4 fun _ s5 ⟨x,H5,I5,r5,y5,st5,fr5⟩=>?_)
  have I5':=I5.pinned (stat fr5) (T.obj _ _ st5)
  refine wpAny_passesOwn hp (gW (hg _ s5 σ3 H5 x u _ I5' r5 (step x H5 y5)) fun _ s6 ⟨σ6,H6,I6,q6⟩=>?_)
  refine wpAny_passesOwn hp (gW (hb _ s6 σ6 H6 _ I6 q6) fun f s7 q7=>?_)
  have again:∀ {σ7:St} {H7:Hp},Inv X (pins++CT fp s5.heap) σ7 H7 s7→N σ7 H7→∃ m,m < n∧∃ i σ' H',Inv X pins σ' H' s7∧tn i s7.heap∧(∀ b∈fp,H' b=none)∧W i m σ' H':=fun {σ7 H7} I7 n7=>by
   obtain⟨m',hm,w7⟩:=hN σ7 H7 n7
   refine⟨m',hm,i+1,σ7,H7,I7.m6,T.keep _ _ _ st5 fun b hb o e=>(I7.pin (b,o) (List.mem_append_right _ (List.mem_append_right _ (jV hb e)))).1,fun b hb=>?_,w7⟩
   obtain⟨o,e,d⟩:=T.obj _ _ st5 b hb
   exact(I7.pin (b,o) (List.mem_append_right _ (List.mem_append_right _ (jV hb e)))).2.1
  cases f with
  | next=>obtain⟨σ7,H7,I7,n7⟩:=q7;exact again I7 n7
  | cont=>obtain⟨σ7,H7,I7,n7⟩:=q7;exact again I7 n7
  | brk=>obtain⟨σ7,H7,I7,q7⟩:=q7;exact⟨σ7,H7,I7.m6,q7⟩
  | ret v=>obtain⟨x7,σ7,H7,I7,r7,q7⟩:=q7;exact⟨x7,σ7,H7,I7.m6,r7,q7⟩
end
end L2
namespace L2
open PySem PySem.Spec PyProof.Rows
abbrev R2:=V→V→Hp→VK→Prop
def qD(X:Cx)(f:Value→Value→Sem Value)(r:R2):Prop :=
 ∀ (pins:List (Addr×Obj)) (s:Shared) (σ : St) (H:Hp) (x y:V) (v u:Value) (Q:VK),Inv X pins σ H s→RelV x v→RelV y u→r x y H Q →
  wpAny (model X.prog X.w) X.A (f v u) (EP X pins σ Q) X.xe s
def jq(X:Cx)(f:Value)(r:List V→Hp→VK→Prop):Prop :=
 ∀ (pins:List (Addr×Obj)) (s:Shared) (σ : St) (H:Hp) (xs:List V) (us:List Value) (Q:VK),Inv X pins σ H s→Vals xs us→r xs H Q →
  wpAny (model X.prog X.w) X.A (call f us) (EP X pins σ Q) X.xe s
def aaG(X:Cx)(r:V→Hp→(Bool→Hp→Prop)→Prop):Prop :=
 ∀ (pins:List (Addr×Obj)) (s:Shared) (σ : St) (H:Hp) (x:V) (v:Value) (Q:Bool→Hp→Prop),Inv X pins σ H s→RelV x v→r x H Q →
  wpAny (model X.prog X.w) X.A (truthy v) (TP X pins σ Q) X.xe s
def Xv(r:R2)(ta tb:TE):TE:=fun σ H Q=>ta σ H fun x H1=>tb σ H1 fun y H2=>r x y H2 Q
def rI(C:Int→Int→Prop)(g:Int→Int→V):R2:=fun x y H Q=>∃ i j,x=.int i∧y=.int j∧C i j∧Q (g i j) H
def RC(g:Int→Int→V):R2:=fun x y H Q=>∃ i j,x=.int i∧y=.int j∧Q (g i j) H
section
variable{X:Cx}{a b c:Expr}{ta tb tc:TE}{pos:Pos}
theorem Xa(ha:PE X a ta)(hb:PE X b tb){pins:List (Addr×Obj)}{s:Shared}{σ : St}{H:Hp}{R:V→V→Hp→Prop}(I:Inv X pins σ H s)
 (h:ta σ H fun x H1=>tb σ H1 fun y H2=>R x y H2) {Q:Value→Shared→Prop} {f:Value→Value→Sem Value}
 (hf:∀ v u s2 x y H2,Inv X pins σ H2 s2→RelV x v→RelV y u→R x y H2→wpAny (model X.prog X.w) X.A (f v u) Q X.xe s2) :
 wpAny (model X.prog X.w) X.A (eval a X.env) (fun v s₁=>wpAny (model X.prog X.w) X.A (eval b X.env) (fun u s₂=>wpAny (model X.prog X.w) X.A (f v u) Q X.xe s₂) X.xe s₁) X.xe s:=by
 refine gW (ha pins s σ H _ I h) fun v s1 ⟨x,H1,I1,r1,q1⟩=>?_
 refine gW (hb pins s1 σ H1 _ I1 q1) fun u s2 ⟨y,H2,I2,r2,q2⟩=>?_
 exact hf v u s2 x y H2 I2 r1 r2 q2
theorem aQ{op:Operator}{r:R2}(ho:qD X (binaryOp op) r)(ha:PE X a ta)(hb:PE X b tb):PE X (.BinOp a op b pos) (Xv r ta tb):=by
 intro pins s σ H Q I h
 exact wpAny_BinOp (Xa ha hb I h fun v u s2 x y H2 I2 rx ry q=>ho pins s2 σ H2 x y v u Q I2 rx ry q)
theorem ZW{f:Value→Value→Sem Value}{C:Int→Int→Prop}{g:Int→Int→Int}
 (rule:∀ (i j:Int) (t u:Tok) (s:Shared) (Q:Value→Shared→Prop) (E:Value→Shared→Prop),C i j→Q (.int (g i j) s.toks) { s with toks:=s.toks+1 }→wpAny (model X.prog X.w) X.A (f (.int i t) (.int j u)) Q E s) :
 qD X f (rI C fun i j=>.int (g i j)):=by
 intro pins s σ H x y v u Q I rx ry h
 obtain⟨i,j,rfl,rfl,hc,q⟩:=h
 obtain⟨t,rfl⟩:=rx
 obtain⟨t',rfl⟩:=ry
 exact rule i j t t' s _ _ hc ⟨.int (g i j),H,I.tok _,⟨_,rfl⟩,q⟩
theorem Yy{f:Value→Value→Sem Value}{g:Int→Int→Int}
 (rule:∀ (i j:Int) (t u:Tok) (s:Shared) (Q:Value→Shared→Prop) (E:Value→Shared→Prop),Q (.int (g i j) s.toks) { s with toks:=s.toks+1 }→wpAny (model X.prog X.w) X.A (f (.int i t) (.int j u)) Q E s) :
 qD X f (RC fun i j=>.int (g i j)):=by
 intro pins s σ H x y v u Q I rx ry h
 obtain⟨i,j,rfl,rfl,q⟩:=h
 obtain⟨t,rfl⟩:=rx
 obtain⟨t',rfl⟩:=ry
 exact rule i j t t' s _ _ ⟨.int (g i j),H,I.tok _,⟨_,rfl⟩,q⟩
theorem Yz{f:Value→Value→Sem Value}{g:Int→Int→Bool}
 (rule:∀ (i j:Int) (t u:Tok) (s:Shared) (Q:Value→Shared→Prop) (E:Value→Shared→Prop),Q (.bool (g i j)) s→wpAny (model X.prog X.w) X.A (f (.int i t) (.int j u)) Q E s) :
 qD X f (RC fun i j=>.bl (g i j)):=by
 intro pins s σ H x y v u Q I rx ry h
 obtain⟨i,j,rfl,rfl,q⟩:=h
 obtain⟨t,rfl⟩:=rx
 obtain⟨t',rfl⟩:=ry
 exact rule i j t t' s _ _ ⟨.bl (g i j),H,I,rfl,q⟩
def ZR(i j:Int):Prop:=0≤j∧j≤1000000∧i.natAbs < 2 ^ 64
def Uw(i j:Int):Prop:=(-(2 ^ 64) < i∧i < 2 ^ 64)∨(-(2 ^ 64) < j∧j < 2 ^ 64)
theorem Uw.ok{i j:Int}(h:Uw i j):IntMulOk i j:=by
 rcases h with ⟨h1,h2⟩|⟨h1,h2⟩
 ·exact .of_left (intBits_le_64 h1 h2)
 ·exact .of_right (intBits_le_64 h1 h2)
theorem Wg:qD X (binaryOp .Add) (RC fun i j=>.int (i+j)):=Yy fun _ _ _ _ _ _ _ q=>add_int q
theorem uY:qD X (binaryOp .Sub) (RC fun i j=>.int (i - j)):=Yy fun _ _ _ _ _ _ _ q=>sub_int q
theorem jR:qD X (binaryOp .Mult) (rI Uw fun i j=>.int (i * j)):=ZW fun _ _ _ _ _ _ _ hc q=>mul_int q hc.ok
theorem cY:qD X (binaryOp .Mod) (rI (fun _ j=>0 < j) fun i j=>.int (i % j)):=ZW fun i j _ _ _ _ _ hc q=>by
 have h1:(0:Int) < j:=hc
 exact mod_int' (by omega) (by rw[Int.fmod_eq_emod_of_nonneg i (by omega)];exact q)
theorem Wb:qD X (binaryOp .LShift) (rI ZR fun i j=>.int (i * 2 ^ j.toNat)):=ZW fun _ _ _ _ _ _ _ hc q=>lshift_int_small hc.1 hc.2.1 hc.2.2 q
end
section
variable{X:Cx}{a b c:Expr}{ta tb tc:TE}{pos:Pos}
theorem Jj{pins:List (Addr×Obj)}{σ : St}{H:Hp}{s:Shared}{Q:VK}{k k':Bool}(I:Inv X pins σ H s)(q:Q (.bl k) H)(e:k=k'):EP X pins σ Q (.bool k') s:=by
 subst e
 exact⟨.bl k,H,I,rfl,q⟩
theorem Yw:qD X (compareOp .Lt) (RC fun i j=>.bl (decide (i < j))):=Yz fun _ _ _ _ _ _ _ q=>lt_int q
theorem Yx:qD X (compareOp .Gt) (RC fun i j=>.bl (decide (j < i))):=Yz fun _ _ _ _ _ _ _ q=>gt_int q
theorem Lz:qD X (compareOp .Lt) (fun x y H Q=>∃ i j,x=.str i∧y=.str j∧Q (.bl (decide (i.cps.toList < j.cps.toList))) H):=by
 intro pins s σ H x y v u Q I rx ry h
 obtain⟨i,j,rfl,rfl,q⟩:=h
 obtain⟨t,rfl⟩:=rx
 obtain⟨t',rfl⟩:=ry
 exact lt_str (Jj I q rfl)
theorem LC:qD X (compareOp .In) (fun x y H Q=>∃ i j,x=.str i∧y=.str j∧Q (.bl (!(Builtin.Str.occurrences j i 0 j.length 1).isEmpty)) H):=by
 intro pins s σ H x y v u Q I rx ry h
 obtain⟨i,j,rfl,rfl,q⟩:=h
 obtain⟨t,rfl⟩:=rx
 obtain⟨t',rfl⟩:=ry
 exact in_str (Jj I q rfl)
theorem qD.or{f:Value→Value→Sem Value}{r r':R2}(h:qD X f r)(h':qD X f r'):qD X f (fun x y H Q=>r x y H Q∨r' x y H Q):=by
 intro pins s σ H x y v u Q I rx ry q
 rcases q with q|q
 ·exact h pins s σ H x y v u Q I rx ry q
 ·exact h' pins s σ H x y v u Q I rx ry q
theorem bZ(b:Expr){op:CmpOp}(h:op≠.In:=by decide)(h2:op≠.NotIn:=by decide):behindInMarks op b=false:=by
 have e1:(op == CmpOp.In)=false:=by cases op<;>first|rfl|exact absurd rfl h
 have e2:(op == CmpOp.NotIn)=false:=by cases op<;>first|rfl|exact absurd rfl h2
 cases b<;>simp[behindInMarks,e1,e2]
theorem gA{op:CmpOp}{r:R2}(ho:qD X (compareOp op) r)(ha:PE X a ta)(hb:PE X b tb)(hm:behindInMarks op b=false):PE X (.Compare a [op] [b] pos) (Xv r ta tb):=by
 intro pins s σ H Q I h
 exact wpAny_Compare1 (Xa ha hb I h fun v u s2 x y H2 I2 rx ry q=>ho pins s2 σ H2 x y v u Q I2 rx ry q) hm
def Ux(t:TE):TT:=fun σ H Q=>t σ H fun x H'=>∃ k,x=.bl k∧Q k H'
theorem bA{op:CmpOp}{r:R2}(ho:qD X (compareOp op) r)(ha:PE X a ta)(hb:PE X b tb)(hm:behindInMarks op b=false):PT X (.Compare a [op] [b] pos) (Ux (Xv r ta tb)):=by
 intro pins s σ H Q I h
 refine wpAny_isTrue_Compare1 (gW (ha pins s σ H _ I h) fun v s1 ⟨x,H1,I1,r1,q1⟩=>gW (hb pins s1 σ H1 _ I1 q1) fun u s2 ⟨y,H2,I2,r2,q2⟩ =>
  gW (ho pins s2 σ H2 x y v u _ I2 r1 r2 q2) fun c s3 ⟨z,H3,I3,r3,k,e,q3⟩=>?_) hm
 subst e
 cases r3
 exact wpAny_truthy_bool ⟨H3,I3,q3⟩
def Xn(K:PySem.W.Frag)(x:V)(H:Hp)(k:Bool):Prop :=
 match x with
 | .non=>k=false
 | .bl b=>k=b
 | .int i=>k=(i != 0)
 | .str y=>y.length≤sizeLine∧k=((y.length:Int) != 0)
 | .byt y=>y.size≤sizeLine∧k=((y.size:Int) != 0)
 | .ref p=>(∃ xs,wM K H p xs∧k = !xs.isEmpty)∨(∃ xs,zF K H p xs∧k = !xs.isEmpty)∨∃ kvs,H p=some (.dK kvs)∧k = !kvs.isEmpty
 | _=>False
theorem Jc{κ : Type}{kvs:List (κ×V)}{vs:List (κ×Value)}(r:KV kvs vs):(!vs.isEmpty) = !kvs.isEmpty:=by
 cases r<;>rfl
theorem yx{xs:List V}{its:List Value}(r:Vals xs its):(!its.toArray.isEmpty) = !xs.isEmpty:=by
 cases r<;>simp
theorem vf:(sizeLine:Nat) < 2 ^ 63:=by rw[sizeLine_eq];decide
theorem Vz:aaG X (fun x H Q=>∃ k,Xn X.K x H k∧Q k H):=by
 intro pins s σ H x v Q I rx h
 obtain⟨k,e,q⟩:=h
 have hl:=vf
 have hs:sizeLine=16777216:=sizeLine_eq
 cases x with
 | non =>
  cases rx
  have e':k=false:=e
  subst e'
  exact truthy_none ⟨H,I,q⟩
 | bl b =>
  cases rx
  have e':k=b:=e
  subst e'
  exact wpAny_truthy_bool ⟨H,I,q⟩
 | int i =>
  obtain⟨t,rfl⟩:=rx
  have e':k=(i != 0):=e
  subst e'
  exact PySem.P.truthy_int ⟨H,I,q⟩
 | str y =>
  obtain⟨t,rfl⟩:=rx
  obtain⟨hy,e'⟩ : y.length≤sizeLine∧k=((y.length:Int) != 0):=e
  subst e'
  exact PySem.P.truthy_str (by omega) ⟨H,I.tok _,q⟩
 | byt y =>
  obtain⟨t,rfl⟩:=rx
  obtain⟨hy,e'⟩ : y.size≤sizeLine∧k=((y.size:Int) != 0):=e
  subst e'
  exact PySem.W.truthy_bytes (by omega) ⟨H,I.tok _,q⟩
 | ref p =>
  cases rx
  have e':(∃ xs,wM X.K H p xs∧k = !xs.isEmpty)∨(∃ xs,zF X.K H p xs∧k = !xs.isEmpty)∨∃ kvs,H p=some (.dK kvs)∧k = !kvs.isEmpty:=e
  rcases e' with ⟨xs,hx,e'⟩|⟨xs,hx,e'⟩|⟨kvs,hx,e'⟩
  ·subst e'
   obtain⟨its,r,pl,hz⟩:=I.list hx
   have hlen:=r.length
   exact wpAny_truthy_list pl.isList (by simp only[List.size_toArray];omega) ⟨H,I.tok _,by rw[yx r];exact q⟩
  ·subst e'
   obtain⟨its,r,pl,hz⟩:=I.tuple hx
   have hlen:=r.length
   exact truthy_tuple pl (by simp only[List.size_toArray];omega) ⟨H,I.tok _,by rw[yx r];exact q⟩
  ·subst e'
   obtain⟨hz,hS,vs,r,m⟩ : kvs.length≤sizeLine∧(p == sysModules)=false∧∃ vs,KV kvs vs∧s.heap.DictOf (gZ X.prog X.w) p vs:=I.hok p _ hx
   have hlen:kvs.length=vs.length:=Paired.length r
   exact wpAny_truthy_dict hS m (by omega) ⟨H,I.tok _,by rw[Jc r];exact q⟩
 | _=>exact(show False from e).elim
theorem O1(ha:PE X a ta)(he:∀ whole,isTrue a X.env whole=(do let v ← whole;standAt a.pos;holding [v] (truthy v))) :
 PT X a (fun σ H Q=>ta σ H fun x H'=>∃ k,Xn X.K x H' k∧Q k H'):=by
 intro pins s σ H Q I h
 exact isTrue_plain (gW (ha pins s σ H _ I h) fun v s1 ⟨x,H1,I1,r1,q1⟩=>Vz pins s1 σ H1 x v Q I1 r1 q1) (he _)
theorem Ij:qD X (binaryOp .Add) (fun x y H Q=>∃ i j,x=.str i∧y=.str j∧i.length+j.length≤sizeLine∧Q (.str (i++j)) H):=by
 intro pins s σ H x y v u Q I rx ry h
 obtain⟨i,j,rfl,rfl,hz,q⟩:=h
 obtain⟨t,rfl⟩:=rx
 obtain⟨t',rfl⟩:=ry
 exact add_str (fun t' tk=>⟨.str (i++j),H,I.tok _,⟨_,rfl⟩,q⟩) hz
theorem vals1{x:V}{us:List Value}(r:Vals [x] us):∃ u,us=[u]∧RelV x u:=by
 cases r with
 | cons r1 r2=>cases r2;exact⟨_,rfl,r1⟩
theorem vals2{x y:V}{us:List Value}(r:Vals [x,y] us):∃ u w',us=[u,w']∧RelV x u∧RelV y w':=by
 cases r with
 | cons r1 r2 =>
  cases r2 with
  | cons r3 r4=>cases r4;exact⟨_,_,rfl,r1,r3⟩
theorem Nb(hc:X.calm=true):jq X (.builtin "max") (fun xs H Q=>∃ i j,xs=[.int i,.int j]∧Q (.int (if j > i then j else i)) H):=by
 intro pins s σ H xs us Q I r h
 obtain⟨i,j,rfl,q⟩:=h
 obtain⟨u,w',rfl,⟨t,rfl⟩,⟨t',rfl⟩⟩:=vals2 r
 refine max_two_ints (I.ok.hd hc) fun h' tk k=>⟨_,H,I.kept k,?_,q⟩
 by_cases hj:j > i
 ·rw[if_pos hj,if_pos hj];exact⟨_,rfl⟩
 ·rw[if_neg hj,if_neg hj];exact⟨_,rfl⟩
theorem M9(hc:X.calm=true):jq X (.builtin "min") (fun xs H Q=>∃ i j,xs=[.int i,.int j]∧Q (.int (if j < i then j else i)) H):=by
 intro pins s σ H xs us Q I r h
 obtain⟨i,j,rfl,q⟩:=h
 obtain⟨u,w',rfl,⟨t,rfl⟩,⟨t',rfl⟩⟩:=vals2 r
 refine min_two_ints (I.ok.hd hc) fun h' tk k=>⟨_,H,I.kept k,?_,q⟩
 by_cases hj:j < i
 ·rw[if_pos hj,if_pos hj];exact⟨_,rfl⟩
 ·rw[if_neg hj,if_neg hj];exact⟨_,rfl⟩
theorem Ng:jq X (.type "int") (fun xs H Q=>(∃ i,xs=[.int i]∧Q (.int i) H)∨∃ k,xs=[.bl k]∧Q (.int (if k then 1 else 0)) H):=by
 intro pins s σ H xs us Q I r h
 rcases h with ⟨i,rfl,q⟩|⟨k,rfl,q⟩
 ·obtain⟨u,rfl,t,rfl⟩:=vals1 r
  exact call_int_int ⟨.int i,H,I,⟨_,rfl⟩,q⟩
 ·obtain⟨u,rfl,r1⟩:=vals1 r
  cases r1
  exact call_int_bool ⟨.int (if k then 1 else 0),H,I.tok _,⟨_,rfl⟩,q⟩
def ZJ(K:PySem.W.Frag)(x:V)(H:Hp)(n:Nat):Prop :=
 match x with
 | .str y=>y.length≤sizeLine∧n=y.length
 | .byt y=>y.size≤sizeLine∧n=y.size
 | .ref p=>(∃ xs,wM K H p xs∧n=xs.length)∨∃ xs,zF K H p xs∧n=xs.length
 | _=>False
theorem Q8:jq X (.builtin "len") (fun xs H Q=>∃ x n,xs=[x]∧ZJ X.K x H n∧Q (.int n) H):=by
 intro pins s σ H xs us Q I r h
 obtain⟨x,n,rfl,e,q⟩:=h
 obtain⟨u,rfl,rx⟩:=vals1 r
 have hl:=vf
 have hs:sizeLine=16777216:=sizeLine_eq
 cases x with
 | str y =>
  obtain⟨t,rfl⟩:=rx
  obtain⟨hy,e'⟩ : y.length≤sizeLine∧n=y.length:=e
  subst e'
  exact len_str (by omega) ⟨.int _,H,I.tok _,⟨_,rfl⟩,q⟩
 | byt y =>
  obtain⟨t,rfl⟩:=rx
  obtain⟨hy,e'⟩ : y.size≤sizeLine∧n=y.size:=e
  subst e'
  exact PySem.W.len_bytes (by omega) ⟨.int _,H,I.tok _,⟨_,rfl⟩,q⟩
 | ref p =>
  cases rx
  have e':(∃ xs,wM X.K H p xs∧n=xs.length)∨∃ xs,zF X.K H p xs∧n=xs.length:=e
  rcases e' with ⟨xs,hx,e'⟩|⟨xs,hx,e'⟩
  ·subst e'
   obtain⟨its,r',pl,hz⟩:=I.list hx
   have hlen:=r'.length
   exact Calls.call_len_list pl.isList (by simp only[List.size_toArray];omega) ⟨.int xs.length,H,I.tok _,⟨_,by simp only[List.size_toArray];rw[hlen]⟩,q⟩
  ·subst e'
   obtain⟨its,r',pl,hz⟩:=I.tuple hx
   have hlen:=r'.length
   exact len_tuple pl (by simp only[List.size_toArray];omega) ⟨.int xs.length,H,I.tok _,⟨_,by simp only[List.size_toArray];rw[hlen]⟩,q⟩
 | _=>exact(show False from e).elim
end
end L2
namespace L2
open PySem PySem.Spec PyProof.Rows
structure Xr(h:Heap)(x dx C:Addr)(mA:Str→Option Value):Prop where
 obj:h.get? x=some (PySem.W.instObj C dx)
 ns:h.Ns1 dx mA
 ne:dx≠x
theorem Ml{h:Heap}{dx:Addr}{mA:Str→Option Value}(n:h.Ns1 dx mA):∃ od,h.get? dx=some od∧∀ name,PySem.W.lookIn name od=some (mA name):=by
 obtain⟨o,es,ep,ho,hd,hk,_,hm⟩:=n
 refine⟨o,ho,fun name=>?_⟩
 have e:=hm name
 unfold nsFind findBy at e
 rw[← Array.find?_toList] at e
 unfold PySem.W.lookIn
 rw[hd]
 dsimp only
 split
 ·rename_i y q
  rw[q] at e
  exact congrArg some e
 ·rename_i q
  rw[q] at e
  have a:es.toList.any (·.refKey)=false:=by
   rw[List.any_eq_false]
   intro y hy
   obtain⟨z,t,hkey⟩:=hk y (Array.mem_toList_iff.mp hy)
   simp[DictEntry.refKey,hkey]
  have a':¬ es.toList.any (·.refKey)=true:=by rw[a];exact Bool.false_ne_true
  rw[if_neg a']
  exact congrArg some e
theorem Xr.look{h:Heap}{x dx C:Addr}{mA:Str→Option Value}(I:Xr h x dx C mA):∃ od,PySem.W.InstAt h x (PySem.W.instObj C dx) C (some od)∧∀ name,PySem.W.lookIn name od=some (mA name) :=
 let ⟨od,ho,hl⟩:=Ml I.ns
 ⟨od,⟨I.obj,rfl,rfl,ho⟩,hl⟩
theorem zg.some_of{v:V}{o:Option Value}(r:zg (some v) o):∃ u,o=some u∧RelV v u:=by
 cases o with
 | none=>exact(show False from r).elim
 | some u=>exact⟨u,rfl,r⟩
section
variable{P:Program}{w:World}{H H':Hp}{h h':Heap}{a C dx:Addr}{fs fs':List (Str×V)}
theorem Tn(hok:qQ P w H h)(e:H a=some (.ins C dx fs)):∃ mA,Xr h a dx C mA∧(∀ f,zg (fs.lookup f) (mA f))∧PySem.Within mA (fs.map (·.1))∧fs.length≤1000∧H dx=some (.own a):=by
 obtain⟨d,z,ne,ob,mA,n,r,q⟩:=(show eX P w H h a (.ins C dx fs) from hok a _ e)
 exact⟨mA,⟨ob,n,ne⟩,r,q,z,d⟩
end
structure Cls(K:PySem.W.Frag)(C:Addr):Prop where
 pg:PySem.W.plainGet K C Str.empty=true
 hd:PySem.W.hasDictIn K C=true
 po:PySem.W.plainOver K C=true
 sa:PySem.W.findIn K (.ref C) "__setattr__" = some (some (.builtin "object.__setattr__"))
theorem Cls.get{K:PySem.W.Frag}{C:Addr}(c:Cls K C)(f:Str):PySem.W.plainGet K C f=true:=c.pg
section
variable{X:Cx}{pins:List (Addr×Obj)}{σ : St}{H:Hp}{s:Shared}{A:Around}{E:Value→Shared→Prop}{Q:Value→Shared→Prop}{c:Value}{b:Bool}
inductive uB(K:PySem.W.Frag)(H:Hp):V→Value→Prop where
 | non:uB K H .non (.type "NoneType")
 | bl (x:Bool):uB K H (.bl x) (.type "bool")
 | int (i:Int):uB K H (.int i) (.type "int")
 | str (x:Str):uB K H (.str x) (.type "str")
 | flt (x:UInt64):uB K H (.flt x) (.type "float")
 | lst {a:Addr} {xs:List V} (e:H a=some (.lst xs)):uB K H (.ref a) (.type "list")
 | frz {a:Addr} {o:Obj} {xs:List V} (e:H a=some (.frz o (.lst xs))):uB K H (.ref a) (.type "list")
 | tup {a:Addr} {xs:List V} (e:H a=some (.tup xs)):uB K H (.ref a) (.type "tuple")
 | dK {a:Addr} {kvs:List (Key×V)} (e:H a=some (.dK kvs)):uB K H (.ref a) (.type "dict")
 | dT {a:Addr} {kvs:List (List Key×V)} (e:H a=some (.dT kvs)):uB K H (.ref a) (.type "dict")
 | ins {a C dx:Addr} {fs:List (Str×V)} (e:H a=some (.ins C dx fs)) (cl:Cls K C) (ha:PySem.W.findIn K (.ref C) "__class__" = some (some (.builtin "object.__class__")))
  (hn:PySem.W.specialIn K (.builtin "object.__class__") "__get__" = some (some (.builtin "getset_descriptor.__get__"))) (htk:PySem.W.takesIn K (.builtin "object.__class__")=some true)
  (hm:PySem.W.mroIn K C (.type "object")=some true):uB K H (.ref a) (.ref C)
theorem Mv{x:V}{u t:Value}(I:Inv X pins σ H s)(rx:RelV x u)(ty:uB X.K H x t)(e:PySem.W.kitOne X.K t c=some b)(h:∀ tk,Q (.bool b) { s with toks:=tk }) :
 wpAny (model X.prog X.w) A (call (.builtin "isinstance") [u,c]) Q E s:=by
 cases ty with
 | non=>cases (show u=Value.none from rx);exact PySem.W.kia_one PySem.W.kitx_none I.Gi True.intro e (fun z=>nomatch z) h
 | bl y=>cases (show u=Value.bool y from rx);exact PySem.W.kia_one PySem.W.kitx_bool I.Gi True.intro e (fun z=>nomatch z) h
 | int i=>obtain⟨t,q⟩:=(show ∃ t,u=Value.int i t from rx);cases q;exact PySem.W.kia_one PySem.W.kitx_int I.Gi True.intro e (fun z=>nomatch z) h
 | str y=>obtain⟨t,q⟩:=(show ∃ t,u=Value.str y t from rx);cases q;exact PySem.W.kia_one PySem.W.kitx_str I.Gi True.intro e (fun z=>nomatch z) h
 | flt y=>obtain⟨t,q⟩:=(show ∃ t,u=Value.float y t from rx);cases q;exact PySem.W.kia_one PySem.W.kitx_float I.Gi True.intro e (fun z=>nomatch z) h
 | @lst a xs ea =>
  cases (show u=Value.ref a from rx)
  obtain⟨_,_,n,_,h1⟩:=(show eX X.prog X.w H s.heap a (.lst xs) from I.hok a _ ea)
  exact PySem.W.kia_one PySem.W.kitx_list I.Gi ⟨_,h1,rfl⟩ e (fun z=>nomatch z) h
 | @frz a ob xs ea =>
  cases (show u=Value.ref a from rx)
  obtain⟨_,_,_,n,_,h1⟩:=(show eX X.prog X.w H s.heap a (.frz ob (.lst xs)) from I.hok a _ ea)
  exact PySem.W.kia_one PySem.W.kitx_list I.Gi ⟨_,h1,rfl⟩ e (fun z=>nomatch z) h
 | @tup a xs ea =>
  cases (show u=Value.ref a from rx)
  obtain⟨_,_,_,p⟩:=(show eX X.prog X.w H s.heap a (.tup xs) from I.hok a _ ea)
  obtain⟨o,h1,h2,_⟩:=p
  exact PySem.W.kia_one PySem.W.kitx_tuple I.Gi ⟨o,h1,h2⟩ e (fun z=>nomatch z) h
 | @dK a kvs ea =>
  cases (show u=Value.ref a from rx)
  obtain⟨_,_,vs,_,p⟩:=(show eX X.prog X.w H s.heap a (.dK kvs) from I.hok a _ ea)
  obtain⟨o,es,ep,h1,h2,_⟩:=p
  exact PySem.W.kia_one PySem.W.kitx_dict I.Gi ⟨o,h1,h2.1⟩ e (fun z=>nomatch z) h
 | @dT a kvs ea =>
  cases (show u=Value.ref a from rx)
  obtain⟨_,_,xs,_,o,es,ep,h1,h2,_⟩:=(show eX X.prog X.w H s.heap a (.dT kvs) from I.hok a _ ea)
  exact PySem.W.kia_one PySem.W.kitx_dict I.Gi ⟨o,h1,h2.1⟩ e (fun z=>nomatch z) h
 | @ins a C dx fs ea cl ha hn htk hm =>
  cases (show u=Value.ref a from rx)
  obtain⟨mA,O,_⟩:=Tn I.hok ea
  obtain⟨od,J,_⟩:=O.look
  exact PySem.W.kia_one (PySem.W.kitx_own (cl.get _) cl.hd ha hn htk hm) I.Gi J e (fun z=>nomatch z) h
end
end L2
namespace L2
open PySem PySem.Spec PyProof.Rows
structure j5(k:Nat)(A:Around):Prop where
 hd:A.handled=none
 dp:A.depth+3 * k+5 < recursionLimit
 un:A.units+16 * k+200 < cLine
theorem j5.mono{j k:Nat}{A:Around}(r:j5 k A)(h:j≤k):j5 j A:=⟨r.hd,by have:=r.dp;omega,by have:=r.un;omega⟩
theorem j5.deeper{k:Nat}{A:Around}(r:j5 (k+1) A)(env:Env):j5 k (A.deeper env) :=
 ⟨r.hd,by have:=r.dp;show A.depth+1+3 * k+5 < _;omega,by have:=r.un;show A.units+3+16 * k+200 < _;omega⟩
theorem j5.in1{k:Nat}{A:Around}(r:j5 (k+1) A):j5 k A.in1 :=
 ⟨r.hd,by have:=r.dp;show A.depth+3 * k+5 < _;omega,by have:=r.un;show A.units+1+16 * k+200 < _;omega⟩
theorem j5.depth{k:Nat}{A:Around}(r:j5 k A):A.depth < recursionLimit:=by have:=r.dp;omega
theorem j5.units{k:Nat}{A:Around}(r:j5 k A):A.units+64 < cLine:=by have:=r.un;omega
def uK:TA:=fun _ H Q=>Q [] H
def lX(ta:TE)(tr:TA):TA:=fun σ H Q=>ta σ H fun x H1=>tr σ H1 fun xs H2=>Q (x::xs) H2
section
variable{X:Cx}{e:Expr}{es:List Expr}{te:TE}{t:TA}{pos:Pos}
theorem az:PA X [] uK:=fun _ _ _ _ H Q I h=>Calls.spliced_nil ⟨[],H,I,.nil,h⟩
theorem ak(ha:PE X e te)(hr:PA X es t)(hs:starEach (e::es) X.env=(false,eval e X.env)::starEach es X.env:=by rfl):PA X (e::es) (lX te t):=by
 intro pos pins s σ H Q I h
 rw[hs]
 show wpAny _ _ (spliced ((false,eval e X.env)::backTo pos (starEach es X.env))) _ _ s
 refine Calls.spliced_cons (gW (ha pins s σ H _ I h) fun u s1 ⟨x,H1,I1,r1,q1⟩=>?_)
 exact gW (hr pos pins s1 σ H1 _ I1 q1) fun us s2 ⟨xs,H2,I2,r2,q2⟩=>⟨x::xs,H2,I2,.cons r1 r2,q2⟩
def XN(t:TA):TE:=fun σ H Q=>t σ H fun xs H1=>xs.length≤sizeLine∧∀ p,H1 p=none→Q (.ref p) (upd H1 p (.tup xs))
def VB(t:TA):TE:=fun σ H Q=>t σ H fun xs H1=>xs.length≤sizeLine∧∀ p,H1 p=none→Q (.ref p) (upd H1 p (.lst xs))
theorem dO{x1}(h:PA X es t):PE X (.Tuple es x1 pos) (XN t):=by
 intro pins s σ H Q I hq
 refine wpAny_Tuple_spliced (gW (h pos pins s σ H _ I hq) fun us s1 ⟨xs,H1,I1,r,z,q⟩=>⟨by rw[← r.length];exact z,?_⟩)
 have hf:H1 s1.heap.objs.size=none:=I1.hok.fresh (Nat.le_refl _)
 refine⟨.ref s1.heap.objs.size,upd H1 s1.heap.objs.size (.tup xs),I1.laid (t':=s1.toks) (fun b u e=>Heap.get?_push_of_some _ e) (Nat.le_refl _) ?_,rfl,q _ hf⟩
 exact⟨z,us,r,⟨_,Heap.get?_push_size _ rfl,rfl,rfl,_,rfl⟩⟩
theorem dB(h:PA X es t):PE X (.List es pos) (VB t):=by
 intro pins s σ H Q I hq
 refine wpAny_List_spliced (gW (h pos pins s σ H _ I hq) fun us s1 ⟨xs,H1,I1,r,z,q⟩=>⟨by rw[← r.length];exact z,?_⟩)
 have hf:H1 s1.heap.objs.size=none:=I1.hok.fresh (Nat.le_refl _)
 refine⟨.ref s1.heap.objs.size,upd H1 s1.heap.objs.size (.lst xs),I1.laid (t':=s1.toks) (fun b u e=>Heap.get?_push_of_some _ e) (Nat.le_refl _) ?_,rfl,q _ hf⟩
 exact⟨z,us,0,r,Heap.get?_push_size _ rfl⟩
end
abbrev Sp:=List V→Hp→VK→XK→Prop
abbrev JG:=List Env→Hp→Shared→XK→Value→Shared→Prop
structure Uv(P:Program)(w:World)(K:PySem.W.Frag)(mg:Str→Option Value)(base:Heap)(A:Around)(outer:List Env)(s:Shared)(H:Hp):Prop where
 frames:A.frames=some outer
 mod:Mod K mg base
 bs:∀ b o,base.get? b=some o→s.heap.get? b=some o∧H b=none
 bsz:base.objs.size≤s.heap.objs.size
 yG:s.heap.FunFrames base outer
 frf:∀ b∈frs outer,H b=none
 hok:qQ P w H s.heap
 bare:AllBare s.gens
def CE(outer:List Env)(P:Program)(w:World)(H:Hp)(s:Shared)(Q:VK)(u:Value)(s':Shared):Prop :=
 ∃ v H',s'.os=s.os∧AllBare s'.gens∧Un (frs outer) [] H H' s.heap s'.heap∧qQ P w H' s'.heap∧RelV v u∧Q v H'
def CR(CX:JG)(outer:List Env)(P:Program)(w:World)(H:Hp)(s:Shared)(Q:VK)(E:XK)(r:Result)(s':Shared):Prop :=
 match r with
 | .ok (.ret u)=>CE outer P w H s Q u s'
 | .ok _=>False
 | .error e=>CX outer H s E e s'
structure eF(P:Program)(w:World)(K:PySem.W.Frag)(mg:Str→Option Value)(base:Heap)(CX:JG)(k:Nat)(f:Addr)(fd:FuncData)(ps:List Str)(sp:Sp):Prop where
 len:∀ vs H Q E,sp vs H Q E→vs.length=ps.length
 run:∀ (A:Around) (outer:List Env) (s:Shared) (H:Hp) (args:Args) (us:List Value) (vs:List V) (Q:VK) (E:XK),j5 k A→Uv P w K mg base A outer s H→BindsTo s fd args (ps.zip us)→Vals vs us→sp vs H Q E →
  codeAny (model P w) A (.call (.ref f) args) (CR CX outer P w H s Q E) s
theorem eF.imp{P:Program}{w:World}{K:PySem.W.Frag}{mg:Str→Option Value}{base:Heap}{CX:JG}{k:Nat}{f:Addr}{fd:FuncData}{ps:List Str}{sp sp':Sp}(F:eF P w K mg base CX k f fd ps sp)
 (h:∀ vs H Q E,sp' vs H Q E→sp vs H Q E):eF P w K mg base CX k f fd ps sp' :=
 ⟨fun vs H Q E q=>F.len vs H Q E (h _ _ _ _ q),fun A outer s H args us vs Q E hr he hb hv hs=>F.run A outer s H args us vs Q E hr he hb hv (h _ _ _ _ hs)⟩
section
variable{X:Cx}{pins:List (Addr×Obj)}{σ : St}{H:Hp}{s s':Shared}
theorem Inv.env0(I:Inv X pins σ H s):Uv X.prog X.w X.K X.mg X.base X.A X.stack s H :=
 ⟨I.ok.frames,I.ok.mod,I.bs,Nat.le_trans I.ok.bsz I.sz,I.stack,I.Cp,I.hok,I.bare⟩
theorem Inv.after{Q:VK}{u:Value}(I:Inv X pins σ H s)(h:CE X.stack X.prog X.w H s Q u s'):EP X pins σ Q u s':=by
 obtain⟨v,H',os,bare,un,hok,r,q⟩:=h
 obtain⟨hh,g,d,t,os'⟩:=s'
 obtain rfl:os'=s.os:=os
 exact⟨v,H',I.call (h':=hh) (g':=g) (d':=d) (t':=t) (ch:=[]) un hok bare (fun b z=>absurd z (by simp)),r,q⟩
end
def zU(sp:Sp)(dvs:List V)(E:XK)(t:TA):TE:=fun σ H Q=>t σ H fun vs H1=>sp (vs++dvs) H1 Q E
def Binds(K:PySem.W.Frag)(fd:FuncData)(ps:List Str)(ds:List Value):Prop :=
 ∀ (s:Shared) (us:List Value),K.In s.heap→(us++ds).length=ps.length→BindsTo s fd ⟨us,[]⟩ (ps.zip (us++ds))
theorem Binds.all{K:PySem.W.Frag}{fd:FuncData}{ps:List Str}(h:∀ us:List Value,us.length=ps.length→bindArgs fd ⟨us,[]⟩=pure (ps.zip us)):Binds K fd ps []:=fun s us _ hl=>by
 rw[List.append_nil] at hl ⊢
 exact .of_eq (h us hl)
def Eh(CX:JG)(X:Cx)(E:XK):Prop:=∀ (pins:List (Addr×Obj)) (σ : St) (H:Hp) (s:Shared) (e:Value) (s':Shared),Inv X pins σ H s→CX X.stack H s E e s'→X.xe e s'
section
variable{X:Cx}{CX:JG}{k:Nat}{f C:Addr}{fd:FuncData}{ps:List Str}{sp:Sp}{dvs:List V}{ds:List Value}{E:XK}{x m:Str}{p pos apos:Pos}{e o:Expr}{es:List Expr}{ta:TE}{t:TA}
theorem VV{pins:List (Addr×Obj)}{σ : St}{H:Hp}{s:Shared}{Q:VK}{us:List Value}{vs:List V}(F:eF X.prog X.w X.K X.mg X.base CX k f fd ps sp)(hr:j5 k X.A)(hb:Binds X.K fd ps ds)(hd:Vals dvs ds)(hx:Eh CX X E)
 (I:Inv X pins σ H s) (r:Vals vs us) (h:sp (vs++dvs) H Q E):wpAny (model X.prog X.w) X.A (call (.ref f) us) (EP X pins σ Q) X.xe s:=by
 have r2:Vals (vs++dvs) (us++ds):=r.append hd
 have hl:(us++ds).length=ps.length:=by rw[← r2.length];exact F.len _ _ _ _ h
 refine wpAny_call (codeAny_mono (F.run X.A X.stack s H ⟨us,[]⟩ (us++ds) (vs++dvs) Q E hr I.env0 (hb s us I.Gi hl) r2 h) fun r s' hq=>?_)
 cases r with
 | error e=>exact hx pins σ H s e s' I hq
 | ok fl =>
  cases fl with
  | ret u=>exact I.after hq
  | next=>exact False.elim hq
  | brk=>exact False.elim hq
  | cont=>exact False.elim hq
theorem Sg(F:eF X.prog X.w X.K X.mg X.base CX k f fd ps sp)(hr:j5 k X.A)(hg:Gl X x)(hm:X.mg x=some (.ref f))(hk:PySem.W.keepIn X.K (.ref f)=true)(hb:Binds X.K fd ps ds)(hd:Vals dvs ds)(hx:Eh CX X E)
 (ha:PA X (e::es) t) (hdb:(x == ("__debug__" : Str))=false:=by decide) (he:starEach (e::es) X.env=(false,eval e X.env)::starEach es X.env:=by rfl) (hpl:(backTo pos (starEach es X.env)).any (·.1)=false:=by rfl) :
 PE X (.Call (.Name x p) (e::es) [] pos) (zU sp dvs E t):=by
 intro pins s σ H Q I h
 refine wpAny_Call_Name_kw (S8 I hg hm ?_ hdb)
 refine PySem.W.callWith_K (h₀:=X.base) I.ok.mod.kin hk (gW (ha pos pins s σ H _ I h) fun us s1 ⟨vs,H1,I1,r,q⟩=>⟨I1.Gi,?_⟩) he hpl
 exact VV F hr hb hd hx I1 r q
end
structure bK(N P:List Str)(sc:Scope):Prop where
 kind:sc.kind=.function
 co:sc.isCoroutine=false
 gen:sc.isGenerator=false
 nd:N.Nodup
 pre:N.take P.length=P
 par:∀ x∈P,sc.names.lookup x=some .local∨sc.names.lookup x=some .cell
 Wl:∀ y∈sc.names,y.2≠.free
theorem Bf{kindOf:Str→Option NameKind}{x:Str}:∀ {binds:List (Str×Value)} {m:Str→Option Value},(∀ v,(x,v)∉binds)→bindL kindOf binds m x=m x
 | [],_,_=>rfl
 | (n,v)::r,m,h=>by
  unfold bindL
  rw[Bf fun w hw=>h w (List.mem_cons_of_mem _ hw)]
  split
  ·have:x≠n:=by rintro rfl;exact h v List.mem_cons_self
   simp[this]
  ·rfl
theorem Bh{kindOf:Str→Option NameKind}{x:Str}:∀ {binds:List (Str×Value)} {m:Str→Option Value},(∀ v,(x,v)∉binds)→bindC kindOf binds m x=m x
 | [],_,_=>rfl
 | (n,v)::r,m,h=>by
  unfold bindC
  rw[Bh fun w hw=>h w (List.mem_cons_of_mem _ hw)]
  split
  ·rfl
  ·have:x≠n:=by rintro rfl;exact h v List.mem_cons_self
   simp[this]
theorem Bg{kindOf:Str→Option NameKind}{x:Str}{v:Value}:∀ {P:List Str} {vs:List Value} {i:Nat} {m:Str→Option Value},P.Nodup→P[i]? = some x→vs[i]? = some v→kindOf x=some .local →
 bindL kindOf (P.zip vs) m x=some v
 | [],_,_,_,_,h,_,_=>by simp at h
 | _::_,[],_,_,_,_,h,_=>by simp at h
 | p::P,w::vs,0,m,nd,h1,h2,hk=>by
  simp at h1 h2;subst h1;subst h2
  show bindL kindOf ((p,w)::P.zip vs) m p=_
  unfold bindL
  rw[Bf fun v hv=>(List.nodup_cons.mp nd).1 (List.of_mem_zip hv).1,if_pos hk]
  simp
 | p::P,w::vs,i+1,m,nd,h1,h2,hk=>by
  show bindL kindOf ((p,w)::P.zip vs) m x=_
  unfold bindL
  exact Bg (i:=i) (List.nodup_cons.mp nd).2 (by simpa using h1) (by simpa using h2) hk
theorem Bj{kindOf:Str→Option NameKind}{x:Str}{v:Value}:∀ {P:List Str} {vs:List Value} {i:Nat} {m:Str→Option Value},P.Nodup→P[i]? = some x→vs[i]? = some v→kindOf x≠some .local →
 bindC kindOf (P.zip vs) m x=some v
 | [],_,_,_,_,h,_,_=>by simp at h
 | _::_,[],_,_,_,_,h,_=>by simp at h
 | p::P,w::vs,0,m,nd,h1,h2,hk=>by
  simp at h1 h2;subst h1;subst h2
  show bindC kindOf ((p,w)::P.zip vs) m p=_
  unfold bindC
  rw[Bh fun v hv=>(List.nodup_cons.mp nd).1 (List.of_mem_zip hv).1,if_neg hk]
  simp
 | p::P,w::vs,i+1,m,nd,h1,h2,hk=>by
  show bindC kindOf ((p,w)::P.zip vs) m x=_
  unfold bindC
  exact Bj (i:=i) (List.nodup_cons.mp nd).2 (by simpa using h1) (by simpa using h2) hk
def start(N:List Str)(vs:List V):St:=vs.map some++List.replicate (N.length - vs.length) none
def Jm(CX:JG)(P:Program)(w:World)(K:PySem.W.Frag)(mg:Str→Option Value)(base:Heap)(N:List Str)(qual:Str)(scope:Scope)(f:Addr)(cd:Value)(A:Around)(outer:List Env)(s:Shared)(H:Hp)(E:XK):Cx where
 prog:=P
 w:=w
 K:=K
 mg:=mg
 base:=base
 A:=A.deeper (envOfC qual scope s.heap.objs.size f cd)
 N:=N
 s₀:=s
 H₀:=H
 env:=envOfC qual scope s.heap.objs.size f cd
 outer:=outer
 stack:=envOfC qual scope s.heap.objs.size f cd::outer
 ex:=[]
 calm:=true
 fn:=fun _=>true
 pn:=[]
 xe:=fun e s'=>wpAny (model P w) (A.deeper (envOfC qual scope s.heap.objs.size f cd)) (leaving (envOfC qual scope s.heap.objs.size f cd) e) (fun _ s''=>CX outer H s E e s'') (fun e' s''=>CX outer H s E e' s'') s'
theorem GK{sc:Scope}{n:Nat}{x:Str}(h:sc.names.lookup x=some .cell):∃ c,(cellsFrom n sc.names []).lookup x=some c:=by
 have q:=PySem.W.cellsFrom_some sc.names n [] (.inl h)
 exact Option.isSome_iff_exists.mp q
theorem Mx{CX:JG}{P:Program}{w:World}{K:PySem.W.Frag}{mg:Str→Option Value}{base:Heap}{N ps:List Str}{qual:Str}{scope:Scope}{f:Addr}{cd:Value}{A:Around}{outer:List Env}{s s1:Shared}{H:Hp}{E:XK}{us:List Value}{vs:List V}
 (S:bK N ps scope) (hd:A.handled=none) (e0:Uv P w K mg base A outer s H) (hl:vs.length=ps.length) (r:Vals vs us)
 (x:InCallC s s.heap.objs.size (bindL (envOfC qual scope s.heap.objs.size f cd).kindOf (ps.zip us) fun _=>none) (cellsFrom (s.heap.objs.size+1) scope.names []) (bindC (envOfC qual scope s.heap.objs.size f cd).kindOf (ps.zip us) fun _=>none) s1) :
 Inv (Jm CX P w K mg base N qual scope f cd A outer s H E) [] (start N vs) H s1:=by
 have hpl:ps.length≤N.length:=by have:=congrArg List.length S.pre;rw[List.length_take] at this;omega
 obtain⟨h1,tk,rfl,hk⟩:=x.done
 have noA:∀ b:Addr,b∉(Jm CX P w K mg base N qual scope f cd A outer s H E).ex:=fun b z=>absurd (show b∈([]:List Addr) from z) (by simp)
 refine⟨⟨e0.mod,S.kind,rfl,rfl,Nat.le_refl _,fun y z c h1 h2=>?_,fun y hy=>?_,fun y c _ h=>?_,fun _=>hd,Around.frames_deeper e0.frames,.inr ⟨rfl,rfl⟩,fun b z=>absurd z (noA b),e0.bs,e0.bsz,fun b _ _=>noA b,fun b z=>absurd z (noA b),e0.yG,e0.frf⟩,
  rfl,e0.bare,Un.kept hk,⟨_,x.toInCall.ns,fun i y v h1 h2 h3=>?_⟩,fun y c h=>⟨_,x.cell y c h⟩,e0.hok.fresh (Nat.le_refl _),fun y c h=>?_,fun p hp=>absurd (show p∈([]:List (Addr×Obj)) from hp) (by simp),e0.hok.kept hk,?_⟩
 ·exact name_of_addr x.apart (PySem.mem_of_lookup h1) (PySem.mem_of_lookup h2)
 ·have hy:scope.names.lookup y=some .cell∨scope.names.lookup y=some .free:=hy
  rcases hy with hy|hy
  ·exact GK hy
  ·exact absurd rfl (S.Wl _ (PySem.mem_of_lookup hy))
 ·exact Nat.le_of_lt (x.above y c (PySem.mem_of_lookup h))
 ·have hi:i < vs.length:=by
   unfold start at h2
   by_cases hi:i < vs.length
   ·exact hi
   ·rw[List.getElem?_append_right (by simpa using hi)] at h2
    rw[List.getElem?_replicate] at h2
    split at h2<;>cases h2
  have ha:vs[i]? = some v:=by
   unfold start at h2
   rw[List.getElem?_append_left (by simpa using hi),List.getElem?_map] at h2
   cases e:vs[i]? with
   | none=>rw[e] at h2;cases h2
   | some a=>rw[e] at h2;cases h2;rfl
  obtain⟨u,hu,rv⟩:=r.get ha
  have hp:ps[i]? = some y:=by
   rw[← S.pre,List.getElem?_take_of_lt (by omega)];exact h1
  have ndP:ps.Nodup:=by rw[← S.pre];exact S.nd.sublist (List.take_sublist _ _)
  refine⟨u,rv,?_⟩
  rcases S.par y (List.mem_of_getElem? hp) with k|k
  ·exact .inl ⟨k,Bg ndP hp hu k⟩
  ·obtain⟨c,e⟩:=GK (n:=s.heap.objs.size+1) k
   refine .inr ⟨.inl k,c,e,?_⟩
   have q:=x.cell y c e
   rw[Bj ndP hp hu (by show scope.names.lookup y≠_;rw[k];decide)] at q
   exact q
 ·exact e0.hok.fresh (Nat.le_of_lt (x.above y c (PySem.mem_of_lookup h)))
 ·unfold start
  show _=N.length
  rw[List.length_append,List.length_map,List.length_replicate]
  omega
theorem Vo{CX:JG}{P:Program}{w:World}{K:PySem.W.Frag}{mg:Str→Option Value}{base:Heap}{k:Nat}{f:Addr}{name qual:Str}{params:Arguments}{body:List Stmt}{scope:Scope}{dV kV doc pm cdv ct oc:Value}{an od:Option Addr}
 {osl:Array (Option Value)} {N ps:List Str} {sp:Sp} (lk:K.lookup f=some ⟨oc,od,.func (PySem.W.fnOf name qual params body scope dV kV doc pm an cdv ct),osl⟩) (hcd:PySem.W.codeIn K cdv qual=true) (S:bK N ps scope)
 (len:∀ vs H Q E,sp vs H Q E→vs.length=ps.length)
 (hbody:∀ (A:Around) (outer:List Env) (s:Shared) (H:Hp) (vs:List V) (Q:VK) (E:XK),j5 k (A.deeper (envOfC qual scope s.heap.objs.size f cdv))→sp vs H Q E →
  ∃ t,Np (Jm CX P w K mg base N qual scope f cdv A outer s H E) body t∧t { nx:=fun _ H'=>Q .non H',rt:=Q } (start N vs) H) :
 eF P w K mg base CX (k+1) f (PySem.W.fnOf name qual params body scope dV kV doc pm an cdv ct) ps sp:=by
 refine⟨len,fun A outer s H args us vs Q E hr e0 hb r hsp=>?_⟩
 have hl:=len _ _ _ _ hsp
 have KX:K.In s.heap:=e0.mod.kin.keeps fun b o e=>(e0.bs b o e).1
 have lim:s.heap.NoLimit:=e0.mod.nolimit.keeps fun b o e=>(e0.bs b o e).1
 have hkind:∀ y∈ps.zip us,scope.names.lookup y.1=some .local∨(scope.names.lookup y.1=some .cell∧((cellsFrom (s.heap.objs.size+1) scope.names []).lookup y.1).isSome=true):=fun ⟨n,v⟩ hy=>by
  rcases S.par n (List.of_mem_zip hy).1 with q|q
  ·exact .inl q
  ·exact .inr ⟨q,PySem.W.cellsFrom_some _ _ _ (.inl q)⟩
 refine codeAny_call_function hr.depth (KX _ _ lk) rfl S.co S.gen rfl (PySem.W.codeRec_of KX hcd) (hb _ _ _ _ ?_)
 refine wpAny_newFunctionEnv_cells S.kind hkind fun env he s1 x=>?_
 subst he
 refine⟨lim.keeps x.toInCall.keep,codeAny_func ?_⟩
 obtain⟨t,ht,hq⟩:=hbody A outer s H vs Q E (hr.deeper _) hsp
 have I:Inv (Jm CX P w K mg base N qual scope f cdv A outer s H E) [] (start N vs) H s1:=Mx S hr.hd e0 hl r x
 refine wpAny_mono (ht [] s1 (start N vs) H _ I hq) (fun fl s' hs=>?_) fun e s' hs=>hs
 have fin:∀ {σ':St} {H':Hp} {v:V} {u:Value},Inv (Jm CX P w K mg base N qual scope f cdv A outer s H E) [] σ' H' s'→RelV v u→Q v H'→CE outer P w H s Q u s' :=
  fun {σ' H' v u} J rv q=>⟨v,H',J.os,J.bare,J.base,J.hok,rv,q⟩
 cases fl with
 | ret u =>
  obtain⟨v,σ',H',J,rv,q⟩:=hs
  exact fin J rv q
 | next =>
  obtain⟨σ',H',J,q⟩:=hs
  exact fin (v:=V.non) (u:=Value.none) J rfl q
 | brk =>
  obtain⟨_,_,_,q⟩:=hs
  exact False.elim q
 | cont =>
  obtain⟨_,_,_,q⟩:=hs
  exact False.elim q
end L2
namespace L2
open PySem PySem.Spec PyProof.Rows
section
variable{X:Cx}{x:Str}{p pos:Pos}{e:Expr}{es:List Expr}{t:TA}{id T:String}{r:List V→Hp→VK→Prop}
def Xw(r:List V→Hp→VK→Prop)(t:TA):TE:=fun σ H Q=>t σ H fun vs H1=>r vs H1 Q
theorem bI(hc:jq X (.builtin id) r)(hg:Gl X x)(hm:X.mg x=none)(hv:bootBuiltins x=some (.builtin id))(ha:PA X (e::es) t)(hn:x ≠ "__name__" := by decide)(hdb:(x == ("__debug__" : Str))=false:=by decide)
 (he:starEach (e::es) X.env=(false,eval e X.env)::starEach es X.env:=by rfl) (hpl:(backTo pos (starEach es X.env)).any (·.1)=false:=by rfl):PE X (.Call (.Name x p) (e::es) [] pos) (Xw r t):=by
 intro pins s σ H Q I h
 refine wpAny_Call_Name_kw (vh I hg hm hv ?_ hn hdb)
 exact PyProof.Rows.callWith_builtin1 (gW (ha pos pins s σ H _ I h) fun us s1 ⟨vs,H1,I1,r1,q1⟩=>hc pins s1 σ H1 vs us Q I1 r1 q1) he hpl
theorem di(hc:jq X (.type T) r)(hg:Gl X x)(hm:X.mg x=none)(hv:bootBuiltins x=some (.type T))(ha:PA X (e::es) t)(hn:x ≠ "__name__" := by decide)(hdb:(x == ("__debug__" : Str))=false:=by decide)
 (he:starEach (e::es) X.env=(false,eval e X.env)::starEach es X.env:=by rfl) (hpl:(backTo pos (starEach es X.env)).any (·.1)=false:=by rfl):PE X (.Call (.Name x p) (e::es) [] pos) (Xw r t):=by
 intro pins s σ H Q I h
 refine wpAny_Call_Name_kw (vh I hg hm hv ?_ hn hdb)
 exact PyProof.Rows.callWith_type1 (gW (ha pos pins s σ H _ I h) fun us s1 ⟨vs,H1,I1,r1,q1⟩=>hc pins s1 σ H1 vs us Q I1 r1 q1) he hpl
end
end L2
namespace HT
open PySem PyProof.Rows
section
variable{prog:Program}{w:World}{A:Around}{E:Value→Shared→Prop}{s:Shared}
def rR(n d:Nat):Option Int→Nat
 | none=>d
 | some v=>if v < 0 then (v+(n:Int)).toNat else min v.toNat n
theorem Oo(n d:Nat)(hd:d≤n)(o:Option Int):rR n d o≤n:=by
 cases o with
 | none=>exact hd
 | some v =>
  show (if v < 0 then (v+(n:Int)).toNat else min v.toNat n)≤n
  by_cases hv:v < 0
  ·rw[if_pos hv];omega
  ·rw[if_neg hv];exact Nat.min_le_right _ _
end
end HT
namespace L2
open PySem PySem.Spec PyProof.Rows
abbrev TO:=St→Hp→(Option Int→Hp→Prop)→Prop
def PO(X:Cx)(e:Option Expr)(t:TO):Prop :=
 ∀ (pins:List (Addr×Obj)) (s:Shared) (σ : St) (H:Hp) (Q:Option Int→Hp→Prop),Inv X pins σ H s→t σ H Q →
  wpAny (model X.prog X.w) X.A (evalPart e X.env) (fun u s'=>∃ o H',Inv X pins σ H' s'∧IsPart u o∧Q o H') X.xe s
def JM:TO:=fun _ H Q=>Q none H
def Uy(t:TE):TO:=fun σ H Q=>t σ H fun x H1=>∃ i,x=.int i∧Q (some i) H1
section
variable{X:Cx}{e:Expr}{te:TE}{lo hi:Option Expr}{tl th:TO}{pos p2:Pos}
theorem iT:PO X none JM:=by
 intro pins s σ H Q I h
 rw[evalPart_none]
 exact wpAny_pure ⟨none,H,I,.none,h⟩
theorem gY(h:PE X e te):PO X (some e) (Uy te):=by
 intro pins s σ H Q I hw
 rw[evalPart_some]
 refine gW (h pins s σ H _ I hw) fun u s1 ⟨x,H1,I1,r1,q1⟩=>?_
 obtain⟨i,rfl,q⟩:=q1
 obtain⟨t,rfl⟩:=r1
 exact⟨some i,H1,I1,.int i t,q⟩
def RJ(X:Cx)(r:V→Option Int→Option Int→Hp→VK→Prop):Prop :=
 ∀ (pins:List (Addr×Obj)) (s:Shared) (σ : St) (H:Hp) (x:V) (v vl vu:Value) (lo hi:Option Int) (sl:Addr) (Q:VK),Inv X pins σ H s→RelV x v→s.heap.IsSliceOf sl vl vu .none→IsPart vl lo→IsPart vu hi→r x lo hi H Q →
  ∃ T id,typeLookup (.type T) "__getitem__" = pure (some (.builtin id))∧s.TypeIs v T∧wpAny (model X.prog X.w) X.A (getItem v (.ref sl)) (EP X pins σ Q) X.xe s
theorem RJ.or{r r':V→Option Int→Option Int→Hp→VK→Prop}(h:RJ X r)(h':RJ X r'):RJ X (fun x lo hi H Q=>r x lo hi H Q∨r' x lo hi H Q):=by
 intro pins s σ H x v vl vu lo hi sl Q I rx hs pl pu q
 rcases q with q|q
 ·exact h pins s σ H x v vl vu lo hi sl Q I rx hs pl pu q
 ·exact h' pins s σ H x v vl vu lo hi sl Q I rx hs pl pu q
def tSl(r:V→Option Int→Option Int→Hp→VK→Prop)(te:TE)(tl th:TO):TE:=fun σ H Q=>te σ H fun x H1=>tl σ H1 fun l H2=>th σ H2 fun u H3=>r x l u H3 Q
theorem fZ{r:V→Option Int→Option Int→Hp→VK→Prop}(hr:RJ X r)(he:PE X e te)(hl:PO X lo tl)(hu:PO X hi th):PE X (.Subscript e (.Slice lo hi none p2) pos) (tSl r te tl th):=by
 intro pins s σ H Q I h
 refine Subscript_ (gW (he pins s σ H _ I h) fun v s1 ⟨x,H1,I1,r1,q1⟩=>?_)
 refine wpAny_Slice (gW (hl pins s1 σ H1 _ I1 q1) fun vl s2 ⟨l,H2,I2,pl,q2⟩=>gW (hu pins s2 σ H2 _ I2 q2) fun vu s3 ⟨u,H3,I3,pu,q3⟩=>?_)
 rw[evalPart_none]
 refine wpAny_pure ?_
 have I4:Inv X pins σ H3 { s3 with heap:=s3.heap.push { cls:=.type "slice", data:=.fields #[vl,vu,.none] } }:=I3.kept (t':=s3.toks) fun b ob q=>Heap.get?_push_of_some _ q
 obtain⟨T,id,hT,ht,hg⟩:=hr pins { s3 with heap:=s3.heap.push { cls:=.type "slice", data:=.fields #[vl,vu,.none] } } σ H3 x v vl vu l u s3.heap.objs.size Q I4 r1 (Heap.IsSliceOf.new ..) pl pu q3
 show wpAny (model X.prog X.w) X.A (subscriptTail e (.Slice lo hi none p2) v (.ref s3.heap.objs.size)) (EP X pins σ Q) X.xe { s3 with heap:=s3.heap.push { cls:=.type "slice", data:=.fields #[vl,vu,.none] } }
 exact tail_any (ops:=[.ref s3.heap.objs.size,v]) ht hT hg (by with_unfolding_all rfl)
def M4(xs:List V)(lo hi:Option Int):List V:=(xs.drop (HT.rR xs.length 0 lo)).take (HT.rR xs.length xs.length hi - HT.rR xs.length 0 lo)
theorem Gz(xs:List V)(lo hi:Option Int):(M4 xs lo hi).length≤xs.length:=by
 unfold M4
 rw[List.length_take,List.length_drop]
 omega
end
end L2
namespace L2
open PySem PySem.Spec PyProof.Rows
def zE(n:Nat)(i:Int):Option Nat:=if 0≤i then (if i < n then some i.toNat else none) else if -(n:Int)≤i then some (i+n).toNat else none
def sX{α : Type}(xs:List α)(i:Int):Option α:=(zE xs.length i).bind fun j=>xs[j]?
theorem Kp{n:Nat}{i:Int}{j:Nat}(h:zE n i=some j):seqIndex? i n=some j∧j < n∧-(n:Int)≤i∧i < n:=by
 unfold zE at h
 by_cases h0:0≤i
 ·rw[if_pos h0] at h
  by_cases h1:i < n
  ·rw[if_pos h1] at h
   have e:i.toNat=j:=Option.some.inj h
   exact⟨by rw[seqIndex_of h0 h1,e],by omega,by omega,h1⟩
  ·rw[if_neg h1] at h;cases h
 ·rw[if_neg h0] at h
  by_cases h1:-(n:Int)≤i
  ·rw[if_pos h1] at h
   have e:(i+n).toNat=j:=Option.some.inj h
   exact⟨by rw[seqIndex_neg (by omega) h1,e],by omega,h1,by omega⟩
  ·rw[if_neg h1] at h;cases h
theorem Ec{α : Type}{xs:List α}{i:Int}{v:α}(h:sX xs i=some v):∃ j,seqIndex? i xs.length=some j∧xs[j]? = some v∧j < xs.length∧-(xs.length:Int)≤i∧i < xs.length:=by
 unfold sX at h
 cases e:zE xs.length i with
 | none=>rw[e] at h;cases h
 | some j =>
  rw[e] at h
  obtain⟨h1,h2,h3,h4⟩:=Kp e
  exact⟨j,h1,h,h2,h3,h4⟩
def Us(b:Expr):Prop:=∀ o i,subscripted b false o i=operate [o,i] (getItem o i)
def Ut(X:Cx)(r:R2):Prop :=
 ∀ (value slice:Expr) (pins:List (Addr×Obj)) (s:Shared) (σ : St) (H:Hp) (x y:V) (v u:Value) (Q:VK),Inv X pins σ H s→RelV x v→RelV y u→r x y H Q →
  subscripted slice false v u=operate [v,u] (getItem v u)→wpAny (model X.prog X.w) X.A (subscriptTail value slice v u) (EP X pins σ Q) X.xe s
def Vt(X:Cx)(id:String)(r:V→List V→Hp→VK→Prop):Prop :=
 ∀ (pins:List (Addr×Obj)) (s:Shared) (σ : St) (H:Hp) (x:V) (xs:List V) (v:Value) (us:List Value) (Q:VK),Inv X pins σ H s→RelV x v→Vals xs us→r x xs H Q →
  wpAny (model X.prog X.w) X.A (call (.builtin id) (v::us)) (EP X pins σ Q) X.xe s
section
variable{X:Cx}{a b:Expr}{ta tb:TE}{pos:Pos}
theorem Ut.or{r r':R2}(h:Ut X r)(h':Ut X r'):Ut X (fun x y H Q=>r x y H Q∨r' x y H Q):=by
 intro value slice pins s σ H x y v u Q I rx ry q hs
 rcases q with q|q
 ·exact h value slice pins s σ H x y v u Q I rx ry q hs
 ·exact h' value slice pins s σ H x y v u Q I rx ry q hs
theorem bG{r:R2}(hr:Ut X r)(ha:PE X a ta)(hb:PE X b tb)(hs:Us b):PE X (.Subscript a b pos) (Xv r ta tb):=by
 intro pins s σ H Q I h
 exact Subscript_ (Xa ha hb I h fun v u s2 x y H2 I2 rx ry q=>hr a b pins s2 σ H2 x y v u Q I2 rx ry q (hs _ _))
def Yo(K:PySem.W.Frag):R2:=fun x y H Q=>∃ p xs i v,x=.ref p∧y=.int i∧wM K H p xs∧sX xs i=some v∧Q v H
def Ym(K:PySem.W.Frag):R2:=fun x y H Q=>∃ p xs i v,x=.ref p∧y=.int i∧zF K H p xs∧sX xs i=some v∧Q v H
def Yn:R2:=fun x y H Q=>∃ z i c,x=.str z∧y=.int i∧z.length≤sizeLine∧sX z.cps.toList i=some c∧Q (.str ⟨#[c]⟩) H
theorem Tf:Ut X (Yo X.K):=by
 intro value slice pins s σ H x y v u Q I rx ry h hs
 obtain⟨p,xs,i,z,rfl,rfl,hq,he,q⟩:=h
 cases rx
 obtain⟨t,rfl⟩:=ry
 obtain⟨its,r,pl,hz⟩:=I.list hq
 obtain⟨j,h1,h2,h3,h4,h5⟩:=Ec he
 obtain⟨w,ew,rw'⟩:=r.get h2
 have hl:=r.length
 have hn:=vf
 have fin:EP X pins σ Q w s:=⟨z,H,I,rw',q⟩
 by_cases h0:0≤i
 ·have hj:i.toNat=j:=by
   rw[seqIndex_of h0 h5] at h1
   exact Option.some.inj h1
  exact item_listR pl.isList h0 (by omega) (by rw[hj];simpa using ew) fin hs
 ·have hj:(i+(its.toArray.size:Int)).toNat=j:=by
   rw[seqIndex_neg (by omega) h4] at h1
   rw[List.size_toArray,← hl]
   exact Option.some.inj h1
  exact subscriptTail_builtinR (x:=w) pl.isList.typeIs slot_list_getitem.lookup
   (wpAny_getItem_list_neg (Q:=fun r s'=>r=w∧EP X pins σ Q r s') pl.isList (by omega) (by rw[List.size_toArray]<;>omega) (by omega) (by rw[hj];simpa using ew) ⟨rfl,fin⟩) hs
theorem WK:Ut X (Ym X.K):=by
 intro value slice pins s σ H x y v u Q I rx ry h hs
 obtain⟨p,xs,i,z,rfl,rfl,hq,he,q⟩:=h
 cases rx
 obtain⟨t,rfl⟩:=ry
 obtain⟨its,r,pl,hz⟩:=I.tuple hq
 obtain⟨j,h1,h2,h3,h4,h5⟩:=Ec he
 obtain⟨w,ew,rw'⟩:=r.get h2
 have hl:=r.length
 have hn:=vf
 have fin:EP X pins σ Q w s:=⟨z,H,I,rw',q⟩
 exact subscriptTail_builtinR (x:=w) pl.typeIs slot_tuple_getitem.lookup
  (getItem_tuple (j:=j) (Q:=fun r s'=>r=w∧EP X pins σ Q r s') pl (by omega) (by omega) (by rw[List.size_toArray,← hl];exact h1) (by simpa using ew) ⟨rfl,fin⟩) hs
theorem WL:Ut X Yn:=by
 intro value slice pins s σ H x y v u Q I rx ry h hs
 obtain⟨z,i,c,rfl,rfl,hz,he,q⟩:=h
 obtain⟨t,rfl⟩:=rx
 obtain⟨t',rfl⟩:=ry
 obtain⟨j,h1,h2,h3,h4,h5⟩:=Ec he
 have hl:z.cps.toList.length=z.length:=by simp[Str.length]
 rw[hl] at h1 h4 h5
 have hn:=vf
 exact tail_any (typeIs_str s z t) slot_str_getitem.lookup (getItem_str (c:=c) (by
  have e1:decide (i < -(2 ^ 63:Int))=false:=decide_eq_false (by omega)
  have e2:decide (i ≥ 2 ^ 63)=false:=decide_eq_false (by omega)
  rw[e1,e2,Bool.or_false]) (by rw[h1];simpa using h2) ⟨.str ⟨#[c]⟩,H,I.tok _,⟨_,rfl⟩,q⟩) hs
def rIx(K:PySem.W.Frag):R2:=fun x y H Q=>Yo K x y H Q∨Ym K x y H Q∨Yn x y H Q
theorem bj:Ut X (rIx X.K):=Tf.or (WK.or WL)
theorem Iz(its:List Value)(n j:Nat)(u:Value):Obj.mapSeq (·.setIfInBounds j u) { cls:=.type "list", data:=.seq its.toArray n }={ cls:=.type "list", data:=.seq (its.set j u).toArray n }:=by
 simp[Obj.mapSeq]
theorem Inv.lst{pins:List (Addr×Obj)}{σ : St}{H:Hp}{s:Shared}{p:Addr}{xs:List V}(I:Inv X pins σ H s)(h:H p=some (.lst xs)) :
 ∃ (its:List Value) (n:Nat),Vals xs its∧s.heap.get? p=some { cls:=.type "list", data:=.seq its.toArray n }∧xs.length≤sizeLine:=by
 obtain⟨z,its,n,r,e⟩:=I.hok p _ h
 exact⟨its,n,r,e,z⟩
theorem Inv.Wr{pins:List (Addr×Obj)}{σ : St}{H:Hp}{s:Shared}{p:Addr}{xs ys:List V}{its its':List Value}{n n':Nat}{f:Obj→Obj}(I:Inv X pins σ H s)(h:H p=some (.lst xs))
 (ho:s.heap.get? p=some { cls:=.type "list", data:=.seq its.toArray n }) (hf:f { cls:=.type "list", data:=.seq its.toArray n }={ cls:=.type "list", data:=.seq its'.toArray n' }) (r:Vals ys its') (hz:ys.length≤sizeLine) (t:Nat) :
 Inv X pins σ (upd H p (.lst ys)) { s with heap:=s.heap.update p f,toks:=t }:=by
 have e:(s.heap.update p f).get? p=some { cls:=.type "list", data:=.seq its'.toArray n' }:=by
  rw[Heap.get?_update_self f ho (by rw[hf]<;>rfl),hf]
 refine I.write (x:=p) (e:=p) (by rw[h];trivial) (.inl rfl) (fun b u hb q=>(Heap.get?_update_other _ _ (Ne.symm hb)).trans q) ⟨_,e⟩ ?_
 exact⟨hz,its',n',r,e⟩
def U4:V→V→V→Hp→(Hp→Prop)→Prop:=fun o i v H Q=>∃ p xs k j,o=.ref p∧i=.int k∧H p=some (.lst xs)∧zE xs.length k=some j∧Q (upd H p (.lst (xs.set j v)))
theorem set_list:ZC X U4:=by
 intro pins s σ H o i v ov iv u Q I ro ri rv h
 obtain⟨p,xs,k,j,rfl,rfl,hp,hj,q⟩:=h
 cases ro
 obtain⟨t,rfl⟩:=ri
 obtain⟨its,n,r,ho,hz⟩:=I.lst hp
 obtain⟨h1,h2,h3,h4⟩:=Kp hj
 have hl:=r.length
 have hn:=vf
 have I':Inv X pins σ (upd H p (.lst (xs.set j v))) { s with heap:=s.heap.update p (Obj.mapSeq (·.setIfInBounds j u)) } :=
  I.Wr hp ho (Iz its n j u) (r.set rv j) (by rw[List.length_set];exact hz) s.toks
 by_cases h0:0≤k
 ·have hk:k.toNat=j:=by
   rw[seqIndex_of h0 h4] at h1
   exact Option.some.inj h1
  exact PySem.W.ki_setAt ho h0 (by omega) (by rw[List.size_toArray,← hl];exact h4) (by rw[hk];exact⟨_,I',q⟩)
 ·have hk:(k+(its.toArray.size:Int)).toNat=j:=by
   rw[seqIndex_neg (by omega) h3] at h1
   rw[List.size_toArray,← hl]
   exact Option.some.inj h1
  exact PySem.W.ki_setBack ho (by omega) (by rw[List.size_toArray,← hl];exact h3) (by omega) (by rw[hk];exact⟨_,I',q⟩)
theorem Cr(lo hi:Option Int)(n:Nat):(sliceBounds lo hi none n).1=((HT.rR n 0 lo:Nat):Int)∧(sliceBounds lo hi none n).2.1=((HT.rR n n hi:Nat):Int)∧(sliceBounds lo hi none n).2.2=1:=by
 refine⟨?_,?_,rfl⟩
 ·cases lo with
  | none=>simp[sliceBounds,HT.rR]
  | some i =>
   simp only[sliceBounds,HT.rR,Option.getD_none,show (1:Int) > 0 by decide,if_true]
   by_cases h:i < 0
   ·simp only[h,if_true]<;>omega
   ·simp only[h,if_false]<;>omega
 ·cases hi with
  | none=>simp[sliceBounds,HT.rR]
  | some i =>
   simp only[sliceBounds,HT.rR,Option.getD_none,show (1:Int) > 0 by decide,if_true]
   by_cases h:i < 0
   ·simp only[h,if_true]<;>omega
   ·simp only[h,if_false]<;>omega
theorem zJ(its:List Value)(lo hi:Option Int):slicePick its.toArray lo hi none=((its.drop (HT.rR its.length 0 lo)).take (HT.rR its.length its.length hi - HT.rR its.length 0 lo)).toArray:=by
 obtain⟨h1,h2,h3⟩:=Cr lo hi its.toArray.size
 unfold slicePick
 rw[h1,h2,h3]
 simp only[sliceRange_one,pick_run,List.size_toArray]<;>rfl
def V2(K:PySem.W.Frag):V→Option Int→Option Int→Hp→VK→Prop:=fun x lo hi H Q=>∃ a xs,x=.ref a∧wM K H a xs∧∀ p,H p=none→Q (.ref p) (upd H p (.lst (M4 xs lo hi)))
theorem JR:RJ X (V2 X.K):=by
 intro pins s σ H x v vl vu lo hi sl Q I rx hs pl pu h
 obtain⟨a,xs,rfl,hx,q⟩:=h
 cases rx
 obtain⟨its,r,ht,hz⟩:=I.list hx
 have hlen:=r.length
 refine⟨"list", _,slot_list_getitem.lookup,ht.isList.typeIs,?_⟩
 refine wpAny_getItem_list_slice ht.isList hs pl pu .none (by simp) ?_ (by rw[List.size_toArray]<;>omega)
 rw[zJ,← hlen]
 refine⟨.ref s.heap.objs.size,_,I.laid (t':=s.toks) (o:=.lst (M4 xs lo hi)) (fun b ob q=>Heap.get?_push_of_some _ q) (Nat.le_refl _) ?_,rfl,q _ (I.hok.fresh (Nat.le_refl _))⟩
 exact⟨Nat.le_trans (Gz xs lo hi) hz,_,0,(r.drop (HT.rR xs.length 0 lo)).take (HT.rR xs.length xs.length hi - HT.rR xs.length 0 lo),Heap.get?_push_size _ rfl⟩
def Qz:V→Bool
 | .non=>true
 | .bl _=>true
 | .int _=>true
 | .str _=>true
 | _=>false
def eqV:V→V→Bool
 | .non,.non=>true
 | .bl a,.bl b=>a == b
 | .bl a,.int b=>(if a then 1 else 0) == b
 | .int a,.bl b=>a == (if b then 1 else 0)
 | .int a,.int b=>a == b
 | .str a,.str b=>a == b
 | _,_=>false
theorem WY{A:Around}{s:Shared}{y x:V}{u v:Value}(ry:RelV y u)(rx:RelV x v)(fy:Qz y=true)(fx:Qz x=true):SeqAt.EqAt A s u v (eqV y x):=by
 cases y with
 | non =>
  cases ry
  cases x with
  | non=>cases rx;exact SeqAt.EqAt.same _
  | bl b=>cases rx;exact SeqAt.EqAt.none_bool b
  | int b=>obtain⟨t,rfl⟩:=rx;exact SeqAt.EqAt.none_int b t
  | str b=>obtain⟨t,rfl⟩:=rx;exact SeqAt.EqAt.none_str b t
  | _=>exact absurd (show false=true from fx) Bool.false_ne_true
 | bl a =>
  cases ry
  cases x with
  | non=>cases rx;exact SeqAt.EqAt.bool_none a
  | bl b=>cases rx;exact SeqAt.EqAt.bool_bool a b
  | int b=>obtain⟨t,rfl⟩:=rx;exact SeqAt.EqAt.bool_int a b t
  | str b=>obtain⟨t,rfl⟩:=rx;exact SeqAt.EqAt.bool_str a b t
  | _=>exact absurd (show false=true from fx) Bool.false_ne_true
 | int a =>
  obtain⟨t',rfl⟩:=ry
  cases x with
  | non=>cases rx;exact SeqAt.EqAt.int_none a t'
  | bl b=>cases rx;exact SeqAt.EqAt.int_bool a t' b
  | int b=>obtain⟨t,rfl⟩:=rx;exact SeqAt.EqAt.int_int a t' b t
  | str b=>obtain⟨t,rfl⟩:=rx;exact SeqAt.EqAt.int_str a t' b t
  | _=>exact absurd (show false=true from fx) Bool.false_ne_true
 | str a =>
  obtain⟨t',rfl⟩:=ry
  cases x with
  | non=>cases rx;exact SeqAt.EqAt.str_none a t'
  | bl b=>cases rx;exact SeqAt.EqAt.str_bool a t' b
  | int b=>obtain⟨t,rfl⟩:=rx;exact SeqAt.EqAt.str_int a t' b t
  | str b=>obtain⟨t,rfl⟩:=rx;exact SeqAt.EqAt.str_str a t' b t
  | _=>exact absurd (show false=true from fx) Bool.false_ne_true
 | _=>exact absurd (show false=true from fy) Bool.false_ne_true
theorem DY:jq X (.type "list") (fun xs H Q=>∃ p ys,xs=[.ref p]∧(wM X.K H p ys∨zF X.K H p ys)∧∀ l,H l=none→Q (.ref l) (upd H l (.lst ys))):=by
 intro pins s σ H xs us Q I r h
 obtain⟨p,ys,rfl,hq,q⟩:=h
 obtain⟨u,rfl,rx⟩:=vals1 r
 cases rx
 have fin:∀ (its:List Value),Vals ys its→ys.length≤sizeLine→∀ (h':Heap) (c':Nat),(∀ b o',s.heap.get? b=some o'→h'.get? b=some o') →
  h'.get? s.heap.objs.size=some { cls:=.type "list", dict:=none,data:=.seq its.toArray c',slots:=#[] }→EP X pins σ Q (.ref s.heap.objs.size) { s with heap:=h' }:=fun its r' hz h' c' kp e =>
  ⟨.ref s.heap.objs.size,_,I.laid (t':=s.toks) kp (Nat.le_refl _) (show eX X.prog X.w _ h' _ (.lst ys) from ⟨hz,its,c',r',e⟩),rfl,q _ (I.hok.fresh (Nat.le_refl _))⟩
 rcases hq with hq|hq
 ·obtain⟨its,r',pl,hz⟩:=I.list hq
  have hlen:=r'.length
  obtain⟨o,ho,hc,n,hd⟩:=pl.isList
  exact call_list_seq p (.inl rfl) ho hc hd (fun h' c' kp e=>fin its r' hz h' c' kp e) (by simp only[List.size_toArray]<;>omega)
 ·obtain⟨its,r',pl,hz⟩:=I.tuple hq
  have hlen:=r'.length
  obtain⟨o,ho,hc,n,hd⟩:=pl
  exact call_list_seq p (.inr rfl) ho hc hd (fun h' c' kp e=>fin its r' hz h' c' kp e) (by simp only[List.size_toArray]<;>omega)
theorem zN:jq X (.type "tuple") (fun xs H Q=>∃ p ys,xs=[.ref p]∧((wM X.K H p ys∧∀ l,H l=none→Q (.ref l) (upd H l (.tup ys)))∨(zF X.K H p ys∧Q (.ref p) H))):=by
 intro pins s σ H xs us Q I r h
 obtain⟨p,ys,rfl,h⟩:=h
 obtain⟨u,rfl,rx⟩:=vals1 r
 cases rx
 rcases h with ⟨hq,q⟩|⟨hq,q⟩
 ·obtain⟨its,r',pl,hz⟩:=I.list hq
  have hlen:=r'.length
  refine call_tuple_list pl.isList (fun h' kp=>?_) (by simp only[List.size_toArray]<;>omega)
  have I1:Inv X pins σ H { s with heap:=h' }:=I.kept (t':=s.toks) kp
  have I2:Inv X pins σ (upd H h'.objs.size (.tup ys)) { s with heap:=h'.push { cls:=.type "tuple", data:=.seq its.toArray } } :=
   I1.laid (t':=s.toks) (fun b o e=>Heap.get?_push_of_some _ e) (Nat.le_refl _) (show eX X.prog X.w _ _ _ (.tup ys) from ⟨hz,its,r',Nm.new _ _⟩)
  exact⟨.ref h'.objs.size,_,I2,rfl,q _ (I1.hok.fresh (Nat.le_refl _))⟩
 ·obtain⟨its,r',pl,hz⟩:=I.tuple hq
  exact call_tuple_same pl ⟨.ref p,H,I,rfl,q⟩
def tyV(K:PySem.W.Frag)(T:String)(x:V)(H:Hp):Prop:=match x with
 | .str _=>T = "str"
 | .int _=>T = "int"
 | .ref p=>(T = "list" ∧ ∃ xs,wM K H p xs)∨(T = "tuple" ∧ ∃ o,K.lookup p=some o∧o.cls=.type "tuple" ∧ o.dict=none) ∨
  (T = "dict" ∧ ((∃ kvs,H p=some (.dK kvs))∨∃ kvs,H p=some (.dT kvs)))∨(T = "set" ∧ ∃ S n,H p=some (.set S n))
 | _=>False
theorem NQ{pins:List (Addr×Obj)}{σ : St}{H:Hp}{s:Shared}{T:String}{x:V}{v:Value}(I:Inv X pins σ H s)(r:RelV x v)(ty:tyV X.K T x H) :
 s.TypeIs v T∧∀ a,v=.ref a→∃ ob,s.heap.get? a=some ob∧ob.dict=none:=by
 cases x with
 | str z =>
  obtain⟨t,rfl⟩:=r
  cases (show T = "str" from ty)
  exact⟨typeIs_str s z t,fun _ e=>nomatch e⟩
 | int i =>
  obtain⟨t,rfl⟩:=r
  cases (show T = "int" from ty)
  exact⟨typeIs_int s i t,fun _ e=>nomatch e⟩
 | ref p =>
  cases r
  rcases ty with ⟨rfl,xs,hq⟩|⟨rfl,o,hk,hc,hd⟩|⟨rfl,hk⟩|⟨rfl,S,n,hk⟩
  ·obtain⟨its,_,pl,_⟩:=I.list hq
   refine⟨pl.isList.typeIs,fun a e=>?_⟩
   cases e
   obtain⟨o,n,e,c,hd,_⟩:=pl
   exact⟨o,e,hd⟩
  ·refine⟨⟨o,I.Gi p o hk,hc⟩,fun a e=>?_⟩
   cases e
   exact⟨o,I.Gi _ o hk,hd⟩
  ·have z:∃ o,s.heap.get? p=some o∧o.ExactDict:=by
    rcases hk with ⟨kvs,hk⟩|⟨kvs,hk⟩
    ·obtain⟨_,_,_,_,o,_,_,e,ex,_⟩:=I.hok p _ hk
     exact⟨o,e,ex⟩
    ·obtain⟨_,_,_,_,o,_,_,e,ex,_⟩:=I.hok p _ hk
     exact⟨o,e,ex⟩
   obtain⟨o,e,ex⟩:=z
   refine⟨⟨o,e,ex.1⟩,fun a e2=>?_⟩
   cases e2
   exact⟨o,e,ex.2.1⟩
  ·obtain⟨o,_,_,_,e,ex,_⟩:=I.hok p _ hk
   refine⟨⟨o,e,ex.1⟩,fun a e2=>?_⟩
   cases e2
   exact⟨o,e,ex.2.1⟩
 | _=>exact False.elim ty
def Xx(K:PySem.W.Frag)(T:String)(r:V→List V→Hp→VK→Prop)(to:TE)(t:TA):TE:=fun σ H Q=>to σ H fun x H1=>tyV K T x H1∧t σ H1 fun xs H2=>r x xs H2 Q
variable{o e:Expr}{es:List Expr}{to:TE}{t:TA}{name:Str}{apos cpos:Pos}{T id:String}{r:V→List V→Hp→VK→Prop}
theorem lr(pa:PlainAttrs T)(slot:Slot T name id)(hty:typeOf (.builtin id)=pure (.type "method_descriptor"))(hm:Vt X id r)(ho:PE X o to)(ha:PA X (e::es) t)
 (hbase:attributeBase o name X.env (eval o X.env)=eval o X.env:=by rfl)
 (hfew:((backTo cpos (starEach (e::es) X.env)).all (fun x=>!x.1) && (backToKw cpos (keywordEach [] X.env)).all (fun x=>x.1.isSome)
  && decide ((e::es).length+([]:List Keyword).length+(if ([]:List Keyword).isEmpty then 0 else 1) < 30))=true:=by rfl)
 (hline:(apos.endLine == cpos.line)=true:=by rfl) (hs:starEach (e::es) X.env=(false,eval e X.env)::starEach es X.env:=by rfl) (hplain:(backTo cpos (starEach es X.env)).any (·.1)=false:=by rfl) :
 PE X (.Call (.Attribute o name apos) (e::es) [] cpos) (Xx X.K T r to t):=by
 intro pins s σ H Q I h
 refine wpAny_Call_method_late hbase hfew hline rfl (gW (ho pins s σ H _ I h) fun v s1 ⟨x,H1,I1,r1,ty,q1⟩=>?_)
 obtain⟨h1,h2⟩:=NQ I1 r1 ty
 refine⟨T,id,pa,slot,hty,h1,h2,?_⟩
 have hA:=ha cpos pins s1 σ H1 _ I1 q1
 rw[hs] at hA ⊢
 refine Calls.callWith_builtin (by show (false || (backTo cpos (starEach es X.env)).any (·.1))=false;rw[hplain]<;>rfl) (Calls.evalArgs_plain ?_)
 exact gW hA fun us s2 ⟨vs,H2,I2,r2,q2⟩=>hm pins s2 σ H2 x vs v us Q I2 r1 r2 q2
end
end L2
namespace L2
open PySem PySem.Spec PyProof.Rows
def MtM(X:Cx)(id:String)(r:V→List V→Hp→VK→Prop):Prop :=
 ∀ (pins:List (Addr×Obj)) (s:Shared) (σ : St) (H:Hp) (x:V) (xs:List V) (v:Value) (us:List Value) (Q:VK),Inv X pins σ H s→RelV x v→Vals xs us→r x xs H Q →
  wpAny (model X.prog X.w) X.A (call (.builtin id) (v::us)) (EP X pins σ Q) X.xe s
theorem Vals.one:∀ {x:V} {us:List Value},Vals [x] us→∃ u,us=[u]∧RelV x u
 | _,_,.cons r .nil=>⟨_,rfl,r⟩
theorem Vals.eraseIdx:∀ {xs:List V} {us:List Value} (i:Nat),Vals xs us→Vals (xs.eraseIdx i) (us.eraseIdx i)
 | _,_,_,.nil=>.nil
 | _,_,0,.cons _ t=>t
 | _,_,i+1,.cons r t=>.cons r (Vals.eraseIdx i t)
theorem Vals.rep{xs:List V}{us:List Value}(h:Vals xs us):∀ k:Nat,Vals (List.replicate k xs).flatten (List.replicate k us).flatten
 | 0=>.nil
 | k+1=>by
  rw[List.replicate_succ,List.replicate_succ,List.flatten_cons,List.flatten_cons]
  exact Vals.append h (Vals.rep h k)
theorem Ah{α : Type}:∀ (l:List α) (i:Nat),(l.eraseIdx i).length≤l.length
 | [],_=>Nat.le_refl _
 | _::_,0=>Nat.le_succ _
 | _::r,i+1=>Nat.succ_le_succ (Ah r i)
theorem foldl_rep(its:List Value):∀ (k:Nat) (acc:List Value),
 List.foldl (fun x1 x2=>x1++x2) acc.toArray (List.replicate k its.toArray)=(acc++(List.replicate k its).flatten).toArray
 | 0,acc=>by simp
 | k+1,acc=>by
  have e:acc.toArray++its.toArray=(acc++its).toArray:=by simp
  have e2:(acc++its)++(List.replicate k its).flatten=acc++(List.replicate (k+1) its).flatten:=by
   rw[List.replicate_succ,List.flatten_cons,List.append_assoc]
  rw[← e2,← foldl_rep its k (acc++its),← e,List.replicate_succ,List.foldl_cons]
section
variable{X:Cx}{pins:List (Addr×Obj)}{σ : St}{H:Hp}{s:Shared}{l b:Addr}{xs ys zs:List V}
theorem Inv.Ws{its its':List Value}{n:Nat}{f:Array Value→Array Value}{t':Nat}(I:Inv X pins σ H s)(hH:H l=some (.lst xs))
 (e:s.heap.get? l=some { cls:=.type "list", data:=.seq its.toArray n }) (hf:f its.toArray=its'.toArray) (hv:Vals ys its') (hz:ys.length≤sizeLine) :
 Inv X pins σ (upd H l (.lst ys)) { s with heap:=s.heap.update l (Obj.mapSeq f),toks:=t' }:=by
 have q:=PySem.IsL.update e f
 rw[hf] at q
 refine I.write (x:=l) (e:=l) (by rw[hH];exact trivial) (.inl rfl) (fun b' u hb hu=>(Heap.get?_update_other s.heap (Obj.mapSeq f) (Ne.symm hb)).trans hu) ⟨_,q⟩ ?_
 exact⟨hz,its',_,hv,q⟩
theorem Inv.YM{its:List Value}{t':Nat}(I:Inv X pins σ H s)(hv:Vals ys its)(hz:ys.length≤sizeLine) :
 Inv X pins σ (upd H s.heap.objs.size (.lst ys)) { s with heap:=s.heap.push { cls:=.type "list", data:=.seq its.toArray },toks:=t' } :=
 I.laid (fun _ _ q=>Heap.get?_push_of_some _ q) (Nat.le_refl _) ⟨hz,its,0,hv,Heap.get?_push_size _ rfl⟩
theorem Inv.fresh(I:Inv X pins σ H s):H s.heap.objs.size=none:=I.hok.fresh (Nat.le_refl _)
theorem Inv.S6(I:Inv X pins σ H s)(hH:H l=some (.lst xs)):xs.length≤sizeLine∧∃ (its:List Value) (n:Nat),Vals xs its∧xs.length=its.length∧s.heap.get? l=some { cls:=.type "list", data:=.seq its.toArray n }:=by
 obtain⟨z,its,n,r,e⟩:=I.hok l _ hH
 exact⟨z,its,n,r,r.length,e⟩
theorem FQ{n:Nat}(h:n≤sizeLine):Builtin.List.listTooLong n=false:=by
 unfold Builtin.List.listTooLong
 exact decide_eq_false (by omega)
end
section
variable{X:Cx}
def CN:V→List V→Hp→VK→Prop:=fun x vs H Q=>∃ l xs y,x=.ref l∧vs=[y]∧H l=some (.lst xs)∧xs.length < sizeLine∧Q .non (upd H l (.lst (xs++[y])))
theorem f9:MtM X "list.append" CN:=by
 intro pins s σ H x vs v us Q I rx rv h
 obtain⟨l,xs,y,rfl,rfl,hH,hz,q⟩:=h
 cases rx
 obtain⟨u,rfl,ru⟩:=rv.one
 obtain⟨z,its,n,r,hl,e⟩:=I.S6 hH
 refine call_meets F.slot_list_append ⟨_,e,rfl⟩ F.entry_list_append (F.args_list_append_2 _ _) (PySem.list_append l its.toArray n u (by rw[List.size_toArray];omega)) ⟨e,?_⟩
 refine⟨.non,_,I.Ws (its':=its++[u]) hH e (by simp) (r.append (.cons ru .nil)) ?_,rfl,q⟩
 rw[List.length_append,List.length_singleton]
 omega
def Oz:V→List V→Hp→VK→Prop:=fun x vs H Q=>∃ l xs i k y,x=.ref l∧vs=[.int i]∧H l=some (.lst xs)∧-(2 ^ 63)≤i∧i < 2 ^ 63∧seqIndex? i xs.length=some k∧xs[k]? = some y∧Q y (upd H l (.lst (xs.eraseIdx k)))
theorem PL:MtM X "list.pop" Oz:=by
 intro pins s σ H x vs v us Q I rx rv h
 obtain⟨l,xs,i,k,y,rfl,rfl,hH,h1,h2,hk,hy,q⟩:=h
 cases rx
 obtain⟨u,rfl,ru⟩:=rv.one
 obtain⟨t,rfl⟩:=ru
 obtain⟨z,its,n,r,hl,e⟩:=I.S6 hH
 obtain⟨w,hw,rw'⟩:=r.get hy
 refine call_meets F.slot_list_pop ⟨_,e,rfl⟩ F.entry_list_pop (F.args_list_pop_2 _ _)
  (MeetsSeq.list_pop_at l its.toArray n i t k w (fitsIndex_both h1 h2) (by rw[List.size_toArray,← hl];exact hk) (by rw[← Array.getElem?_toList];exact hw) (by rw[List.size_toArray];omega)) ⟨e,?_⟩
 refine⟨y,_,I.Ws (its':=its.eraseIdx k) hH e ?_ (r.eraseIdx k) ?_,rw',q⟩
 ·show its.toArray.eraseIdxIfInBounds k=(its.eraseIdx k).toArray
  rw[List.eraseIdxIfInBounds_toArray]
 ·have:=Ah xs k
  omega
def aae:R2:=fun x y H Q=>∃ l k xs,x=.ref l∧y=.int k∧H l=some (.lst xs)∧-(2 ^ 63)≤k∧k < 2 ^ 63∧xs.length * k.toNat≤sizeLine ∧
 ∀ p,H p=none→Q (.ref p) (upd H p (.lst (List.replicate k.toNat xs).flatten))
theorem len_rep{α : Type}(xs:List α)(k:Nat):(List.replicate k xs).flatten.length=k * xs.length:=by
 induction k with
 | zero=>simp
 | succ k ih=>rw[List.replicate_succ,List.flatten_cons,List.length_append,ih,Nat.succ_mul,Nat.add_comm]
theorem Wc:qD X (binaryOp .Mult) aae:=by
 intro pins s σ H x y v u Q I rx ry h
 obtain⟨l,k,xs,rfl,rfl,hH,h1,h2,hz,q⟩:=h
 cases rx
 obtain⟨t,rfl⟩:=ry
 obtain⟨z,its,n,r,hl,e⟩:=I.S6 hH
 have hlen:its.toArray.size * k.toNat≤sizeLine:=by rw[List.size_toArray,← hl];exact hz
 have aau:¬ its.toArray.size * k.toNat > (2 ^ 63 - 1) / 8:=by
  have:(sizeLine:Nat)≤(2 ^ 63 - 1) / 8:=by decide
  omega
 have hfit:¬ (!Builtin.List.listFitsIndex k)=true:=by
  rw[fitsIndex_both h1 h2]
  exact Bool.false_ne_true
 have Ao:¬ Builtin.List.listTooLong (its.toArray.size * k.toNat)=true:=by
  rw[FQ hlen]
  exact Bool.false_ne_true
 have hnew:List.foldl (fun x1 x2=>x1++x2) #[] (List.replicate (if its.toArray.isEmpty=true then 0 else k.toNat) its.toArray)=(List.replicate k.toNat its).flatten.toArray:=by
  have f0:∀ m:Nat,List.foldl (fun x1 x2=>x1++x2) #[] (List.replicate m its.toArray)=(List.replicate m its).flatten.toArray:=fun m=>by
   have:=foldl_rep its m []
   rw[List.nil_append] at this
   exact this
  rw[f0]
  cases its with
  | nil=>simp
  | cons a r'=>rw[if_neg (by simp)]
 refine wpAny_binaryOp_repeat_ref (T := "list") (U := "int") (by decide) ⟨_,e,rfl⟩ (fun s'=>typeIs_int s' k t) noFill_list_mul F.fills_int_mul F.slot_int_rmul repeat_list F.slot_int_index.lookup
  (call_meets F.slot_int_rmul (typeIs_int s k t) F.entry_int_rmul (F.args_int_rmul_2 _ _) (int___rmul___int_list k t l its.toArray n)
   ⟨e,rfl,⟨_,e,rfl⟩,call_meets F.slot_list_mul ⟨_,e,rfl⟩ F.entry_list_mul (F.args_list_mul_2 _ _) (AutoListH.list___mul___list_int_3 l its.toArray n k t hfit aau Ao) ⟨e,?_⟩⟩)
 rw[hnew]
 exact⟨.ref _,_,I.YM (t':=s.toks) (r.rep k.toNat) (by rw[len_rep,Nat.mul_comm];exact hz),rfl,q _ I.fresh⟩
end
end L2
namespace L2
open PySem PySem.Spec PyProof.Rows
section
variable{κ : Type}[DecidableEq κ]
def rH(kvs:List (κ×V))(k:κ):Option V:=(kvs.find? fun kv=>decide (kv.1=k)).map (·.2)
def putK(kvs:List (κ×V))(k:κ)(v:V):List (κ×V) :=
 if (kvs.any fun kv=>decide (kv.1=k))=true then kvs.map (fun kv=>if kv.1=k then (kv.1,v) else kv) else kvs++[(k,v)]
theorem xm{p:κ×V}{r:List (κ×V)}{k:κ}(e:p.1=k):rH (p::r) k=some p.2:=by simp[rH,List.find?_cons,e]
theorem xn{p:κ×V}{r:List (κ×V)}{k:κ}(e:¬ p.1=k):rH (p::r) k=rH r k:=by simp[rH,List.find?_cons,e]
theorem Eo(k:κ):∀ kvs:List (κ×V),(kvs.any fun kv=>decide (kv.1=k))=(rH kvs k).isSome
 | []=>rfl
 | p::r=>by
  rw[List.any_cons]
  by_cases e:p.1=k
  ·simp only[xm e,decide_eq_true e,Bool.true_or,Option.isSome_some]
  ·rw[xn e,decide_eq_false e,Bool.false_or];exact Eo k r
theorem vV(kvs:List (κ×V))(k:κ)(v:V):(putK kvs k v).length≤kvs.length+1:=by
 unfold putK
 split
 ·rw[List.length_map];omega
 ·rw[List.length_append,List.length_cons,List.length_nil];omega
theorem zg.Mw{o:Option V}{u:Option Value}(r:zg o u):o.isSome=u.isSome:=by
 cases o with
 | none=>cases u with
  | none=>rfl
  | some _=>exact(show False from r).elim
 | some _=>cases u with
  | none=>exact(show False from r).elim
  | some _=>rfl
theorem KV.val{kvs:List (κ×V)}{vs:List (κ×Value)}(r:KV kvs vs)(k:κ):zg (rH kvs k) (valueAt vs k):=by
 unfold KV at r
 induction r with
 | nil=>exact True.intro
 | @cons p q ps qs h t ih =>
  obtain⟨h1,h2⟩:=h
  by_cases e:p.1=k
  ·have e':q.1=k:=h1.symm.trans e
   have b:valueAt (q::qs) k=some q.2:=by simp[valueAt,List.find?_cons,e']
   rw[xm e,b];exact h2
  ·have e':¬ q.1=k:=fun z=>e (h1.trans z)
   have b:valueAt (q::qs) k=valueAt qs k:=by simp[valueAt,List.find?_cons,e']
   rw[xn e,b];exact ih
theorem KV.any{kvs:List (κ×V)}{vs:List (κ×Value)}(r:KV kvs vs)(k:κ):(kvs.any fun kv=>decide (kv.1=k))=vs.any fun kv=>decide (kv.1=k):=by
 unfold KV at r
 induction r with
 | nil=>rfl
 | cons h t ih=>rw[List.any_cons,List.any_cons,ih,h.1]
theorem KV.repl{kvs:List (κ×V)}{vs:List (κ×Value)}(r:KV kvs vs)(k:κ){y:V}{u:Value}(ry:RelV y u) :
 KV (kvs.map fun kv=>if kv.1=k then (kv.1,y) else kv) (vs.map fun kv=>if kv.1=k then (kv.1,u) else kv):=by
 unfold KV at r ⊢
 induction r with
 | nil=>exact .nil
 | @cons p q ps qs h t ih =>
  rw[List.map_cons,List.map_cons]
  refine .cons ?_ ih
  obtain⟨h1,h2⟩:=h
  by_cases e:p.1=k
  ·rw[if_pos e,if_pos (h1.symm.trans e)];exact⟨h1,ry⟩
  ·rw[if_neg e,if_neg (fun z=>e (h1.trans z))];exact⟨h1,h2⟩
theorem KV.put{kvs:List (κ×V)}{vs:List (κ×Value)}(r:KV kvs vs)(k:κ){y:V}{u:Value}(ry:RelV y u):KV (putK kvs k y) (stored vs k u):=by
 unfold putK stored
 rw[r.any k]
 by_cases e:(vs.any fun kv=>decide (kv.1=k))=true
 ·rw[if_pos e,if_pos e];exact r.repl k ry
 ·rw[if_neg e,if_neg e];exact Paired.snoc r ⟨rfl,ry⟩
theorem KV.length{kvs:List (κ×V)}{vs:List (κ×Value)}(r:KV kvs vs):kvs.length=vs.length:=Paired.length r
end
theorem Qk{P:Program}{w:World}{k:Key}{u:Value}(r:RelV (kV k) u):(gZ P w).is k u=true:=by
 cases k with
 | inl i=>obtain⟨t,e⟩:=(show ∃ t,u=Value.int i t from r);subst e;exact Gb P w i t
 | inr x=>obtain⟨t,e⟩:=(show ∃ t,u=Value.str x t from r);subst e;exact Ga P w x t
theorem Al{P:Program}{w:World}:∀ {ks:List Key} {us:List Value},Vals (ks.map kV) us→ItemsAre (gZ P w) ks us
 | [],_,r=>by rw[List.map_nil] at r;cases r;exact .nil
 | k::ks,_,r=>by
  rw[List.map_cons] at r
  cases r with
  | cons h t=>exact .cons (Qk h) (Al t)
abbrev KT(H:Hp):List (List Key×V)→List (List Key×Addr×Value)→Prop:=Paired fun p q=>p.1=q.1∧H q.2.1=some (.tup (p.1.map kV))∧RelV p.2 q.2.2
theorem KT.val{H:Hp}{kvs:List (List Key×V)}{xs:List (List Key×Addr×Value)}(r:KT H kvs xs)(k:List Key):zg (rH kvs k) ((atKey xs k).map (·.2)):=by
 induction r with
 | nil=>exact True.intro
 | @cons p q ps qs h t ih =>
  obtain⟨h1,_,h2⟩:=h
  by_cases e:p.1=k
  ·have e':q.1=k:=h1.symm.trans e
   have b:atKey (q::qs) k=some q.2:=by simp[atKey,List.find?_cons,e']
   rw[xm e,b];exact h2
  ·have e':¬ q.1=k:=fun z=>e (h1.trans z)
   have b:atKey (q::qs) k=atKey qs k:=by simp[atKey,List.find?_cons,e']
   rw[xn e,b];exact ih
theorem KT.repl{H:Hp}{kvs:List (List Key×V)}{xs:List (List Key×Addr×Value)}(r:KT H kvs xs)(k:List Key){y:V}{u:Value}(ry:RelV y u) :
 KT H (kvs.map fun kv=>if kv.1=k then (kv.1,y) else kv) (xs.map (putAt k u)):=by
 induction r with
 | nil=>exact .nil
 | @cons p q ps qs h t ih =>
  rw[List.map_cons,List.map_cons]
  refine .cons ?_ ih
  obtain⟨h1,h2,h3⟩:=h
  unfold putAt
  by_cases e:p.1=k
  ·rw[if_pos e,if_pos (h1.symm.trans e)];exact⟨h1,h2,ry⟩
  ·rw[if_neg e,if_neg (fun z=>e (h1.trans z))];exact⟨h1,h2,h3⟩
theorem KT.put{H:Hp}{kvs:List (List Key×V)}{xs:List (List Key×Addr×Value)}(r:KT H kvs xs)(k:List Key){b:Addr}{y:V}{u:Value}(hb:H b=some (.tup (k.map kV)))(ry:RelV y u) :
 KT H (putK kvs k y) (storedH xs k b u):=by
 have e:(kvs.any fun kv=>decide (kv.1=k))=(atKey xs k).isSome:=by
  rw[Eo,(r.val k).Mw,Option.isSome_map]
 unfold putK storedH
 rw[e]
 by_cases q:(atKey xs k).isSome=true
 ·rw[if_pos q,if_pos q];exact r.repl k ry
 ·rw[if_neg q,if_neg q];exact Paired.snoc r ⟨rfl,hb,ry⟩
theorem KT.keeps{H H':Hp}{kvs:List (List Key×V)}{xs:List (List Key×Addr×Value)}(r:KT H kvs xs)(ht:∀ b ys,H b=some (.tup ys)→H' b=some (.tup ys)):KT H' kvs xs :=
 Paired.Wo r fun _ _ z=>⟨z.1,ht _ _ z.2.1,z.2.2⟩
section
variable{P:Program}{w:World}{H:Hp}{h:Heap}{a:Addr}
theorem U0{u:HO}(ok:qQ P w H h)(e:Rd H a u):eX P w H h a u:=e.ok ok
theorem QK{kvs:List (Key×V)}(ok:qQ P w H h)(e:Rd H a (.dK kvs)):kvs.length≤sizeLine∧(a == sysModules)=false∧∃ vs,KV kvs vs∧h.DictOf (gZ P w) a vs :=
 show eX P w H h a (.dK kvs) from U0 ok e
theorem Ze{kvs:List (Key×V)}(ok:qQ P w H h)(e:H a=some (.dK kvs)):kvs.length≤sizeLine∧(a == sysModules)=false∧∃ vs,KV kvs vs∧h.DictOf (gZ P w) a vs:=QK ok (.inl e)
theorem I9{ks:List Key}(ok:qQ P w H h)(e:H a=some (.tup (ks.map kV))):(tupleKind (gZ P w)).is h ks a:=by
 obtain⟨_,its,r,o,h1,h2,_,n,h3⟩:=(show eX P w H h a (.tup (ks.map kV)) from ok a _ e)
 exact⟨o,its.toArray,n,h1,h2,h3,by simpa using Al r⟩
theorem QF{kvs:List (List Key×V)}(ok:qQ P w H h)(e:Rd H a (.dT kvs)):kvs.length≤sizeLine∧(a == sysModules)=false ∧
 ∃ xs,KT H kvs xs∧h.DictOfH (tupleKind (gZ P w)) a xs:=by
 obtain⟨z,y,xs,r,o,es,ep,h1,h2,h3,h4,h5⟩:=(show eX P w H h a (.dT kvs) from U0 ok e)
 refine⟨z,y,xs,r,o,es,ep,h1,h2,h3,h4,fun x hx=>?_,h5⟩
 have all:∀ {l:List (List Key×V)} {m:List (List Key×Addr×Value)},KT H l m→∀ x∈m,(tupleKind (gZ P w)).is h x.1 x.2.1:=by
  intro l m q
  induction q with
  | nil=>intro x hx;exact nomatch hx
  | @cons p q ps qs hq t ih =>
   intro x hx
   rcases List.mem_cons.mp hx with e|hx
   ·subst e
    exact I9 ok (by rw[← hq.1];exact hq.2.1)
   ·exact ih x hx
 exact all r x hx
theorem Zd{kvs:List (List Key×V)}(ok:qQ P w H h)(e:H a=some (.dT kvs)):kvs.length≤sizeLine∧(a == sysModules)=false ∧
 ∃ xs,KT H kvs xs∧h.DictOfH (tupleKind (gZ P w)) a xs:=QF ok (.inl e)
end
def zP(H:Hp)(a:Addr)(y:V)(r:Option V):Prop :=
 (∃ kvs k,Rd H a (.dK kvs)∧y=kV k∧r=rH kvs k)∨∃ kvs k b,Rd H a (.dT kvs)∧y=.ref b∧H b=some (.tup (k.map kV))∧r=rH kvs k
def Ht(H:Hp)(a:Addr)(y v:V)(H':Hp):Prop :=
 (∃ kvs k,H a=some (.dK kvs)∧y=kV k∧kvs.length < sizeLine∧H'=upd H a (.dK (putK kvs k v))) ∨
 ∃ kvs k b,H a=some (.dT kvs)∧y=.ref b∧H b=some (.tup (k.map kV))∧kvs.length < sizeLine∧H'=upd H a (.dT (putK kvs k v))
theorem zP.k{H:Hp}{a:Addr}{kvs:List (Key×V)}{k:Key}(e:H a=some (.dK kvs)):zP H a (kV k) (rH kvs k):=.inl ⟨kvs,k,.inl e,rfl,rfl⟩
theorem zP.t{H:Hp}{a b:Addr}{kvs:List (List Key×V)}{k:List Key}(e:H a=some (.dT kvs))(eb:H b=some (.tup (k.map kV))):zP H a (.ref b) (rH kvs k):=.inr ⟨kvs,k,b,.inl e,rfl,eb,rfl⟩
theorem Ht.k{H:Hp}{a:Addr}{kvs:List (Key×V)}{k:Key}{v:V}(e:H a=some (.dK kvs))(hl:kvs.length < sizeLine):Ht H a (kV k) v (upd H a (.dK (putK kvs k v))):=.inl ⟨kvs,k,e,rfl,hl,rfl⟩
theorem Ht.t{H:Hp}{a b:Addr}{kvs:List (List Key×V)}{k:List Key}{v:V}(e:H a=some (.dT kvs))(eb:H b=some (.tup (k.map kV)))(hl:kvs.length < sizeLine) :
 Ht H a (.ref b) v (upd H a (.dT (putK kvs k v))):=.inr ⟨kvs,k,b,e,rfl,eb,hl,rfl⟩
section
variable{X:Cx}{pins:List (Addr×Obj)}{σ : St}{H:Hp}{s:Shared}{a:Addr}{y v:V}{u r:Value}{o:Option V}{A:Around}{E:Value→Shared→Prop}
theorem Inv.big(I:Inv X pins σ H s):sysModules < s.heap.objs.size:=by
 have h:mainGlobals < s.heap.objs.size:=(I.mod.glob.keeps I.bk).lt
 exact Nat.lt_trans (by decide) h
theorem MP{Q:Value→Shared→Prop}(hu:A.units+1 < cLine)(I:Inv X pins σ H s)(g:zP H a y (some v))(ry:RelV y u)(h:∀ w' s',Inv X pins σ H s'→RelV v w'→Q w' s') :
 wpAny (model X.prog X.w) A (getItem (.ref a) u) Q E s:=by
 rcases g with ⟨kvs,k,e,ey,l⟩|⟨kvs,k,b,e,ey,eb,l⟩
 ·subst ey
  obtain⟨z,hd,vs,rel,dd⟩:=QK I.hok e
  obtain⟨w',hw,rw'⟩:=zg.some_of (v:=v) (o:=valueAt vs k) (by rw[l];exact rel.val k)
  exact wpAny_getItem_of (Qk ry) dd.mapOf hw (h w' _ (I.tok _) rw')
 ·subst ey
  cases (show u=Value.ref b from ry)
  obtain⟨z,hd,xs,rel,dd⟩:=QF I.hok e
  obtain⟨w',hw,rw'⟩:=zg.some_of (v:=v) (o:=(atKey xs k).map (·.2)) (by rw[l];exact rel.val k)
  obtain⟨p,hp,hp2⟩:=Option.map_eq_some_iff.mp hw
  refine wpAny_getItem_heap (tupleKind_room_in1 hu) (I9 I.hok eb) dd hp ?_
  rw[hp2]
  exact h w' _ (I.tok _) rw'
theorem KD{h':Heap}{t':Nat}{ob:HO}(I:Inv X pins σ H s)(mu:ZG (H a))(hs:Heap.SameBut a s.heap h')(he:∃ q,h'.get? a=some q)(new:eX X.prog X.w (upd H a ob) h' a ob) :
 Inv X pins σ (upd H a ob) { s with heap:=h',toks:=t' } :=
 I.write (x:=a) (e:=a) mu (.inl rfl) (fun b q hb z=>(hs.2 b hb).trans z) he new
theorem W2{P:Program}{w:World}{H':Hp}{h':Heap}{kvs:List (Key×V)}{vs:List (Key×Value)}(z:kvs.length≤sizeLine)(hd:(a == sysModules)=false)(rel:KV kvs vs)(dd:h'.DictOf (gZ P w) a vs) :
 eX P w H' h' a (.dK kvs):=⟨z,hd,vs,rel,dd⟩
theorem MN{H':Hp}{Q:Unit→Shared→Prop}(hu:A.units+1 < cLine)(I:Inv X pins σ H s)(g:Ht H a y v H')(ry:RelV y u)(rv:RelV v r)(h:∀ s',Inv X pins σ H' s'→Q () s') :
 wpAny (model X.prog X.w) A (setItem (.ref a) u r) Q E s:=by
 rcases g with ⟨kvs,k,e,ey,l,eH⟩|⟨kvs,k,b,e,ey,eb,l,eH⟩
 ·subst ey eH
  obtain⟨z,hd,vs,rel,dd⟩:=Ze I.hok e
  have hz:vs.length≤sizeLine:=by rw[← rel.length];exact z
  have hl:(putK kvs k v).length≤sizeLine:=by have:=vV kvs k v;omega
  refine wpAny_setItem_pairs (hsz:=hz) (Qk ry) dd fun h' dd' hs=>h _ ?_
  have he:∃ q,h'.get? a=some q:=let ⟨q,_,_,hq,_⟩:=dd';⟨q,hq⟩
  exact KD I (by rw[e];exact True.intro) hs he (W2 hl hd (rel.put k rv) dd')
 ·subst ey eH
  cases (show u=Value.ref b from ry)
  obtain⟨z,hd,xs,rel,dd⟩:=Zd I.hok e
  have hz:xs.length≤sizeLine:=by rw[← Paired.length rel];exact z
  have hl:(putK kvs k v).length≤sizeLine:=by have:=vV kvs k v;omega
  refine wpAny_setItem_heap (hsz:=hz) (tupleKind_room_in1 hu) (I9 I.hok eb) dd fun h' dd' hs=>h _ ?_
  obtain⟨q,es,ep,hq,h2,h3,h4,_,h5⟩:=dd'
  refine KD I (by rw[e];exact True.intro) hs ⟨q,hq⟩ ⟨hl,hd,_,(rel.put k eb rv).keeps fun c ys ec=>?_,q,es,ep,hq,h2,h3,h4,h5⟩
  rw[aN (YD ec e (fun z=>nomatch z))]
  exact ec
end
def ZF(i:Expr):Prop:=∀ ov iv,subscripted i false ov iv=operate [ov,iv] (getItem ov iv)
theorem RM{prog:Program}{w:World}{A:Around}{E:Value→Shared→Prop}{s:Shared}{env:Env}{value slice:Expr}{pos:Pos}{T id:String}{Q:Value→Shared→Prop}
 (hl:typeLookup (.type T) "__getitem__" = pure (some (.builtin id))) (hs:ZF slice)
 (h:wpAny (model prog w) A (eval value env) (fun o s₁=>wpAny (model prog w) A (eval slice env) (fun i s₂=>s₂.TypeIs o T∧wpAny (model prog w) A (getItem o i) Q E s₂) E s₁) E s) :
 wpAny (model prog w) A (eval (.Subscript value slice pos) env) Q E s:=by
 refine Subscript_ (wpAny_mono h (fun o s₁ h₁=>wpAny_mono h₁ (fun i s₂ h₂=>?_) fun _ _ x=>x) fun _ _ x=>x)
 obtain⟨hT,h₂⟩:=h₂
 unfold subscriptTail
 refine wpAny_bind ?_
 rw[getitemInPython_of_ne hT.not_modules]
 refine wpAny_bind (wpAny_specialOf hT hl ?_)
 have fin:wpAny (model prog w) A (subscripted slice false o i) (fun r s₃=>wpAny (model prog w) A (letTemporaryGo value o r >>= fun _=>pure r) Q E s₃) E s₂:=by
  rw[hs o i]
  exact wpAny_operating (wpAny_mono h₂ (fun r s₃ h₃=>wpAny_bind (wpAny_letTemporaryGo (wpAny_pure h₃))) fun _ _ x=>x)
 first
  | exact wpAny_pure (wpAny_bind fin)
  | exact wpAny_bind (wpAny_pure (wpAny_bind fin))
  | exact wpAny_bind fin
theorem Gu{X:Cx}{pins:List (Addr×Obj)}{σ : St}{H:Hp}{s:Shared}{a:Addr}{y:V}{o:Option V}(I:Inv X pins σ H s)(g:zP H a y o):s.TypeIs (.ref a) "dict" := by
 rcases g with ⟨kvs,k,e,_,_⟩|⟨kvs,k,b,e,_,_,_⟩
 ·obtain⟨_,_,vs,_,dd⟩:=QK I.hok e
  exact dd.typeIs
 ·obtain⟨_,_,xs,_,dd⟩:=QF I.hok e
  exact dd.typeIs
def UG(td ty:TE):TE:=fun σ H Q=>td σ H fun x H1=>ty σ H1 fun y H2=>∃ a v,x=.ref a∧zP H2 a y (some v)∧Q v H2
def tQ(td ty tv:TE):TS:=fun D σ H=>tv σ H fun v H1=>td σ H1 fun x H2=>ty σ H2 fun y H3=>∃ a H4,x=.ref a∧Ht H3 a y v H4∧D.nx σ H4
section
variable{X:Cx}{o i e value:Expr}{pos pos' tpos:Pos}{td ty tv:TE}
theorem J0(hu:X.A.units+1 < cLine)(ho:PE X o td)(hi:PE X i ty)(hs:ZF i):PE X (.Subscript o i pos) (UG td ty):=by
 intro pins s σ H Q I h
 refine RM PySem.F.slot_dict_getitem.lookup hs (gW (ho pins s σ H _ I h) fun u s1 ⟨x,H1,I1,rx,q1⟩=>gW (hi pins s1 σ H1 _ I1 q1) fun iv s2 ⟨y,H2,I2,ry,a,v,ex,g,q2⟩=>?_)
 subst ex
 obtain rfl:u=Value.ref a:=rx
 exact⟨Gu I2 g,MP hu I2 g ry fun w' s3 I3 rw'=>⟨v,H2,I3,rw',q2⟩⟩
theorem R7(hu:X.A.units+1 < cLine)(ho:PE X o td)(hi:PE X i ty)(hv:PE X value tv)(hs:swapsWith value (some (.Subscript o i pos')) pos.line X.env=pure false) :
 PS X (.Assign [.Subscript o i pos'] value pos) (tQ td ty tv):=by
 intro pins s σ H D I h
 refine wpAny_Assign_Subscript (gW (hv pins s σ H _ I h) fun r s1 ⟨v,H1,I1,rv,q1⟩=>gW (ho pins s1 σ H1 _ I1 q1) fun u s2 ⟨x,H2,I2,rx,q2⟩=>gW (hi pins s2 σ H2 _ I2 q2) fun iv s3 ⟨y,H3,I3,ry,a,H4,ex,g,q3⟩=>?_) hs
 subst ex
 obtain rfl:u=Value.ref a:=rx
 exact MN hu I3 g ry rv fun s4 I4=>⟨σ,H4,I4,q3⟩
end
theorem QL{P:Program}{w:World}{H:Hp}(h:Heap)(hb:sysModules < h.objs.size):eX P w H (h.push { cls:=.type "dict", data:=.dict #[] }) h.objs.size (.dK []) :=
 ⟨Nat.zero_le _,beq_eq_false_iff_ne.mpr (Ne.symm (Nat.ne_of_lt hb)),[],.nil,Heap.DictOf.new h⟩
def Oc:TE:=fun _ H Q=>∀ p,H p=none→Q (.ref p) (upd H p (.dK []))
section
variable{X:Cx}{pos:Pos}
theorem Pb:PE X (.Dict [] [] pos) Oc:=fun pins s σ H Q I h =>
 wpAny_Dict_empty ⟨.ref s.heap.objs.size,_,I.laid (a:=s.heap.objs.size) (o:=.dK []) (t':=s.toks) (fun _ _ q=>Heap.get?_push_of_some _ q) (Nat.le_refl _) (QL s.heap I.big),rfl,h _ (I.hok.fresh (Nat.le_refl _))⟩
end
end L2
namespace Att
open PySem PySem.W PySem.Calls PyProof.Rows
theorem wK{P:Params}{h:Heap}:∀ (ns:List Int) (vs:List Value),WellAll P h vs (ns.map WData.int)→IntsAre vs ns:=by
 intro ns
 induction ns with
 | nil =>
  intro vs w
  rw[List.map_nil] at w
  cases w
  exact .nil
 | cons n ns ih =>
  intro vs w
  rw[List.map_cons] at w
  cases w with
  | cons a b =>
   cases a
   exact .cons _ _ (ih _ b)
theorem Lj{l:OpenLaw}{n:Nat}(hn:l.most=some n){P:Params}{h:Heap}{args:List WData}{vals:List Value}
 (hpre:l.row.toRowW.claim.pre args=true) (hwl:WellAll P h vals args) :
 ∃ a vs ns,vals=[Value.ref a]∧args=[WData.list (ns.map WData.int)]∧h.get? a=some { cls:=.type "list", data:=.seq vs.toArray }∧IntsAre vs ns∧ns.length≤n:=by
 have hsh:WShape.hasAll [] args [.list .int]=true:=(pre_splitW hpre).1
 have hc:l.pre.holds [] { args:=args }=true:=(pre_splitW hpre).2
 obtain⟨d,r,rfl,h1,h2⟩:=hasAllW_cons hsh
 obtain rfl:=hasAllW_nil h2
 obtain⟨xs,rfl,h3⟩:=hasW_list h1
 obtain⟨ns,rfl⟩:=items_int h3
 have hlen:ns.length≤n:=by
  unfold OpenLaw.pre at hc
  have h4:(WTm.not (.lt (.lit (.int (n:Int))) (.len (.arg 0)))).holds [] { args:=[.list (ns.map .int)] }=true:=by
   have h4:=(holds_andW hc).1
   rw[hn] at h4
   exact h4
  have h5:=condW_of h4 (w_not (w_lt w_lit (w_len_list (w_arg rfl))))
  rw[List.length_map] at h5
  refine Nat.le_of_not_lt fun q=>?_
  have q':(n:Int) < ((ns.length:Nat):Int):=by omega
  first
   | (rw[decide_eq_true q'] at h5;exact absurd h5 (by decide))
   | (simp at h5;omega)
 cases hwl with
 | cons w1 w2 =>
  cases w2
  cases w1 with
  | list ho hall=>exact⟨_,_,ns,rfl,rfl,ho,wK ns _ hall,hlen⟩
theorem Lw(l:OpenLaw)(args:List WData):l.row.toRowW.claim.post args (.bool true) args=true :=
 postW_of (r:=l.row.toRowW) (X:=(true == true))
  (show WShape.has [] (.bool true) .bool=true by first|rfl|decide|simp[WShape.has,WShape.arms,WShape.armsAll])
  (show (WTm.eq .res (.lit (.bool true))).value [] { args:=args,res:=some (.bool true),after:=args }=some (.bool (true == true)) from w_eq_bool (w_res rfl) w_lit) rfl
theorem G6{l:OpenLaw}{n:Nat}{q:Program}{loose:List Str}{XP:(Str→Option Value)→Heap→Prop}{YP:World→Heap→Prop}{d:DefRec}
 (hn:l.most=some n) (hdf:d.params.defaults=[])
 (call:∀ (w:World) (s₀ s₁:Shared) (mg mb:Str→Option Value) (fa:Addr) (o:Obj) (pm cd doc:Value) (a:Addr) (vs:List Value) (ns:List Int),
  Ground q loose [] XP w s₀ mg mb s₁.heap→YP w s₁.heap →
  s₁.heap.get? fa=some o→o.data=.func (docDef d.name d.params d.body d.scope pm cd doc)→s₁.heap.CodeRec cd d.name→mg d.name=some (.ref fa) →
  s₁.heap.get? a=some { cls:=.type "list", data:=.seq vs.toArray }→IntsAre vs ns→ns.length≤n→s₁.gens = #[] →
  codeAny (model l.prog w) callerA (.call (.ref fa) ⟨[.ref a],[]⟩) (fun r s'=>r=.ok (.ret (.bool true))∧OldK s₁.heap s'.heap∧s'.os=s₁.os∧AllBare s'.gens) s₁) :
 WalkO q loose XP YP l.row.toRowW d [] (fun f vs=>PySem.call f vs):=by
 intro w s₀ s₁ mg mb G Y fa o pm cd doc dV kV ho hd hcd hD hmg hg args vals as hpre hlay hrd hwl hlo
 obtain rfl:dV=.none:=Dflts.none hD hdf
 obtain rfl:kV=.none:=Dflts.noKw hD
 obtain⟨a,vs,ns,rfl,rfl,hobj,hints,hlen⟩:=Lj hn hpre hwl
 refine enter_call (codeAny_mono (call w s₀ s₁ mg mb fa o pm cd doc a vs ns G Y ho (fd_plain hd) hcd hmg hobj hints hlen hg) fun r s' hq=>?_)
 obtain⟨rfl,h2,h3,h4⟩:=hq
 exact⟨.inl ⟨.bool true,.bool true,[],rfl,fun _=>rfl,.bool true,Lw l _,fun _=>⟨List.Pairwise.nil,fun _ hm=>(nomatch hm)⟩⟩,h2,h3,h4⟩
end Att
namespace L2
open PySem PySem.Spec PyProof.Rows
theorem zT:∀ {vs:List Value} {ns:List Int},IntsAre vs ns→Vals (ns.map V.int) vs
 | _,_,.nil=>.nil
 | _,_,.cons n t h=>.cons ⟨t,rfl⟩ (zT h)
end L2
namespace L2
open PySem PySem.Spec PyProof.Rows
end L2
namespace L2
open PySem PySem.Spec PyProof.Rows
def lz(s:Stmt):Arguments:=match s with
 | .FunctionDef _ a _ _ _ _ _ _ _ _=>a
 | _=>{ posonlyargs:=[],args:=[],vararg:=none,kwonlyargs:=[],kw_defaults:=[],kwarg:=none,defaults:=[] }
def jF(s:Stmt):List Stmt:=match s with
 | .FunctionDef _ _ b _ _ _ _ _ _ _=>b
 | _=>[]
def bh(s:Stmt):Scope:=match s with
 | .FunctionDef _ _ _ _ _ _ sc _ _ _=>sc
 | _=>{ kind:=.function,names:=[],isGenerator:=false,isCoroutine:=false }
abbrev dX:JG:=fun _ _ _ _ _ _=>False
abbrev E0:XK:=fun _ _ _=>False
theorem cV{X:Cx}:Eh dX X E0:=fun _ _ _ _ _ _ _ h=>h.elim
structure pN(K:PySem.W.Frag)(x qual:Str)(st:Stmt)(f:Addr)(fd:FuncData):Prop where
 ex:∃ (oc:Value) (od:Option Addr) (kV doc pm:Value) (an:Option Addr) (cdv ct:Value) (osl:Array (Option Value)),
  fd=PySem.W.fnOf x qual (lz st) (jF st) (bh st) .none kV doc pm an cdv ct∧K.lookup f=some ⟨oc,od,.func fd,osl⟩∧PySem.W.codeIn K cdv qual=true
 kp:PySem.W.keepIn K (.ref f)=true
section
variable{P:Program}{w:World}{K:PySem.W.Frag}{mg:Str→Option Value}{base:Heap}
theorem pN.ok{x qual:Str}{st:Stmt}{f:Addr}{fd:FuncData}{N ps:List Str}{k:Nat}{sp:Sp}(F:pN K x qual st f fd)(S:bK N ps (bh st))(len:∀ vs H Q E,sp vs H Q E→vs.length=ps.length)
 (hbody:∀ (cdv:Value) (A:Around) (outer:List Env) (s:Shared) (H:Hp) (vs:List V) (Q:VK) (E:XK),j5 k (A.deeper (envOfC qual (bh st) s.heap.objs.size f cdv))→sp vs H Q E →
  ∃ t,Np (Jm dX P w K mg base N qual (bh st) f cdv A outer s H E).Sy (jF st) t∧t { nx:=fun _ H'=>Q .non H',rt:=Q } (start N vs) H):eF P w K mg base dX (k+1) f fd ps sp:=by
 obtain⟨oc,od,kV,doc,pm,an,cdv,ct,osl,rfl,lk,hcd⟩:=F.ex
 refine Vo lk hcd S len fun A outer s H vs Q E hr hsp=>?_
 obtain⟨t,h,q⟩:=hbody cdv A outer s H vs Q E hr hsp
 exact⟨t,h.Sy,q⟩
theorem pN.binds{x qual:Str}{st:Stmt}{f:Addr}{fd:FuncData}{ps:List Str}(F:pN K x qual st f fd)
 (h:∀ (kV doc pm:Value) (an:Option Addr) (cdv ct:Value) (us:List Value),us.length=ps.length→bindArgs (PySem.W.fnOf x qual (lz st) (jF st) (bh st) .none kV doc pm an cdv ct) ⟨us,[]⟩=pure (ps.zip us)):Binds K fd ps []:=by
 obtain⟨oc,od,kV,doc,pm,an,cdv,ct,osl,rfl,lk,hcd⟩:=F.ex
 exact .all (h kV doc pm an cdv ct)
theorem Qx{x qual:Str}{st:Stmt}{f:Addr}{oc:Value}{od an:Option Addr}{osl:Array (Option Value)}{kV doc pm cdv ct:Value}(l:K.lookup f=some ⟨oc,od,.func (PySem.W.fnOf x qual (lz st) (jF st) (bh st) .none kV doc pm an cdv ct),osl⟩)
 (c:PySem.W.codeIn K cdv qual=true) (k:PySem.W.keepIn K (.ref f)=true):pN K x qual st f (PySem.W.fnOf x qual (lz st) (jF st) (bh st) .none kV doc pm an cdv ct):=⟨⟨oc,od,kV,doc,pm,an,cdv,ct,osl,rfl,l,c⟩,k⟩
end
theorem fH{A:Around}{k:Nat}(hr:j5 k A):A.units+1 < cLine:=Nat.lt_of_le_of_lt (Nat.add_le_add_left (by decide:1≤64) _) hr.units
section
variable{X:Cx}
theorem pv(i:Nat){x:Str}{pos:Pos}(hN:X.N[i]? = some x:=by rfl)(hv:Z8 X.env.scope x:=by first|exact Or.inl rfl|exact Or.inr (Or.inl rfl)|exact Or.inr (Or.inr rfl))(hd:(x == ("__debug__" : Str))=false:=by decide)
 (hcd:(x == ("__classdict__" : Str))=false:=by decide):PE X (.Name x pos) (wH i):=V7 hN hv hd hcd
end
theorem Jb{A B:Prop}(h:B):if false=true then A else B:=by
 rw[if_neg Bool.false_ne_true]
 exact h
theorem Ja{A B:Prop}(h:A):if true=true then A else B:=by
 rw[if_pos rfl]
 exact h
def iM(H H':Hp):Prop:=∀ b o,H b=some o→H' b=some o
theorem iM.refl(H:Hp):iM H H:=fun _ _ h=>h
theorem iM.trans{H H1 H2:Hp}(a:iM H H1)(b:iM H1 H2):iM H H2:=fun c o h=>b c o (a c o h)
theorem iM.free{H H':Hp}(e:iM H H'){l:Addr}(h:H' l=Option.none):H l=Option.none:=by
 cases q:H l with
 | none=>rfl
 | some o =>
  rw[e l o q] at h
  cases h
end L2
namespace L2
open PySem PySem.Spec PyProof.Rows
section
variable{prog:Program}{w:World}{A:Around}{R:Result→Shared→Prop}{s:Shared}
theorem DX{elt target iter:Expr}{ifs:List Expr}{scope:Scope}{pos:Pos}{it acc:Value}{env:Env}(I:Nat→Shared→Prop)
 (turn:∀ n s,I n s→wpAny (model prog w) A (pyNext it) (fun r s₁=>match r with
  | none=>R (.ok .next) s₁
  | some v=>wpAny (model prog w) A (letOwnedTupleGo target it v) (fun _ s₂=>wpAny (model prog w) A (assign target env v) (fun _ s₃ =>
   wpAny (model prog w) A (forIn ifs true fun c r=>if r=true then do let ok ← isTrue c env (eval c env);pure (ForInStep.yield ok) else pure (ForInStep.yield r)) (fun ok s₄ =>
    if ok=true then wpAny (model prog w) A (eval elt env) (fun x s₅ =>
     wpAny (model prog w) A (call (.builtin "list.append") [acc,x]) (fun _ s₆=>∃ m,m < n∧I m s₆) (fun _ _=>False) s₅) (fun _ _=>False) s₄
    else ∃ m,m < n∧I m s₄) (fun _ _=>False) s₃) (fun _ _=>False) s₂) (fun _ _=>False) s₁) (fun _ _=>False) s)
 (n:Nat) (h:I n s) :
 codeAny (model prog w) A (.compLoop (.ListComp elt [⟨target,iter,ifs,0⟩] scope pos) 0 it acc env) R s:=by
 refine codeAny_loop rfl I (fun n s hI=>?_) n h
 show wpAny _ A ((compTurn (.ListComp elt [⟨target,iter,ifs,0⟩] scope pos) 0 it acc env).onRaise (fun x=>do noteFrame x env;theTreesLotGoes x)) _ _ s
 refine wpAny_noted (wpAny_mono (E:=fun _ _=>False) ?_ (fun _ _ q=>q) fun _ _ q=>q.elim)
 rw[compTurn_list]
 refine wpAny_bind (wpAny_standAt (wpAny_bind (gW (turn n s hI) fun r s₁ h₁=>?_)))
 cases r with
 | none=>exact wpAny_pure h₁
 | some v =>
  refine wpAny_bind (gW h₁ fun _ s₂ h₂=>wpAny_bind (gW h₂ fun _ s₃ h₃=>wpAny_bind (gW h₃ fun ok s₄ h₄=>?_)))
  cases ok with
  | false=>exact wpAny_pure ⟨rfl,h₄⟩
  | true=>exact wpAny_bind (wpAny_bind (gW h₄ fun x s₅ h₅=>wpAny_bind (gW h₅ fun _ s₆ h₆=>wpAny_pure (wpAny_pure ⟨rfl,h₆⟩))))
end
theorem qQ.track{P:Program}{w:World}{H:Hp}{h:Heap}{a:Addr}{o:HO}(x:qQ P w H h)(hn:H a=none)(new:eX P w (upd H a o) h a o):qQ P w (upd H a o) h:=fun b u e=>by
 by_cases hb:b=a
 ·subst hb;rw[bu] at e;cases e;exact new
 ·rw[aN hb] at e
  exact(x b u e).stay (fun c v _ q=>q) (fun c q=>by rw[aN (bc q hn)];exact q) fun c xs q=>by rw[aN (bc q hn)];exact q
theorem lookup_mem{α : Type}:∀ {l:List (Str×α)} {x:Str} {k:α},l.lookup x=some k→(x,k)∈l
 | [],_,_,h=>by simp at h
 | (n,k')::r,x,k,h=>by
  rw[List.lookup_cons] at h
  cases hx:x == n with
  | true =>
   rw[hx] at h
   have:x=n:=by simpa using hx
   cases h;subst this;exact List.mem_cons_self
  | false=>rw[hx] at h;exact List.mem_cons_of_mem _ (lookup_mem h)
theorem jC{env:Env}:∀ {names:List (Str×NameKind)} {x:Str} {k:NameKind},
 (names.map fun (n,k)=>if (k == NameKind.free && env.scope.kind == .function && env.kindOf n == some .cell) then (n,NameKind.cell) else (n,k)).lookup x=some k →
 ∃ k',names.lookup x=some k'∧(k=k'∨(k'=.free∧k=.cell))
 | [],_,_,h=>by simp at h
 | (n,k0)::r,x,k,h=>by
  have ih:=@jC env r x k
  have h':List.lookup x ((if (k0 == NameKind.free && env.scope.kind == .function && env.kindOf n == some .cell)=true then (n,NameKind.cell) else (n,k0)) ::
   (r.map fun (n,k)=>if (k == NameKind.free && env.scope.kind == .function && env.kindOf n == some .cell) then (n,NameKind.cell) else (n,k)))=some k:=h
  by_cases hc:(k0 == NameKind.free && env.scope.kind == .function && env.kindOf n == some .cell)=true
  ·rw[if_pos hc,List.lookup_cons] at h'
   rw[List.lookup_cons]
   cases hx:x == n with
   | true =>
    rw[hx] at h';cases h'
    simp only[Bool.and_eq_true] at hc
    exact⟨k0,rfl,.inr ⟨by simpa using hc.1.1,rfl⟩⟩
   | false=>rw[hx] at h';exact ih h'
  ·rw[if_neg hc,List.lookup_cons] at h'
   rw[List.lookup_cons]
   cases hx:x == n with
   | true=>rw[hx] at h';cases h';exact⟨_,rfl,.inl rfl⟩
   | false=>rw[hx] at h';exact ih h'
theorem sE{env:Env}{f:(Str×NameKind)→List (Str×Addr)→Sem (ForInStep (List (Str×Addr)))}
 (hf:∀ n k r,f (n,k) r=if (k == NameKind.free)=true then (cellOf env n >>= fun a=>pure (ForInStep.yield ((n,a)::r))) else pure (ForInStep.yield r)) :
 ∀ (names:List (Str×NameKind)) (acc:List (Str×Addr)),(∀ y∈names,y.2=.free→∃ c,env.cells.lookup y.1=some c)→(∀ x c,acc.lookup x=some c→env.cells.lookup x=some c) →
  ∃ cl,forIn names acc f=pure cl∧(∀ x c,cl.lookup x=some c→env.cells.lookup x=some c)∧(∀ x,(∃ c,acc.lookup x=some c)→∃ c,cl.lookup x=some c)∧∀ x,(x,NameKind.free)∈names→∃ c,cl.lookup x=some c
 | [],acc,_,hacc=>⟨acc,rfl,hacc,fun _ h=>h,fun _ h=>by simp at h⟩
 | (n,k)::r,acc,hn,hacc=>by
  have hr:∀ y∈r,y.2=.free→∃ c,env.cells.lookup y.1=some c:=fun y hy=>hn y (List.mem_cons_of_mem _ hy)
  by_cases hk:(k == NameKind.free)=true
  ·have hk':k=.free:=by simpa using hk
   obtain⟨c,hc⟩:=hn (n,k) List.mem_cons_self hk'
   obtain⟨cl,e,h1,h2,h3⟩:=sE hf r ((n,c)::acc) hr (fun x c' h=>by
    rw[List.lookup_cons] at h
    cases hx:x == n with
    | true => rw [hx] at h; cases h; have : x = n := by simpa using hx
              subst this;exact hc
    | false=>rw[hx] at h;exact hacc x c' h)
   refine⟨cl,?_,h1,fun x ⟨c',hx⟩=>h2 x ?_,fun x hx=>?_⟩
   ·rw[List.forIn_cons,hf,if_pos hk]
    have:cellOf env n=pure c:=by unfold cellOf;rw[hc]
    rw[this]
    exact e
   ·rw[List.lookup_cons]
    cases x == n with
    | true=>exact⟨_,rfl⟩
    | false=>exact⟨c',hx⟩
   ·rcases List.mem_cons.mp hx with e|hx
    ·cases e
     exact h2 _ ⟨c,by rw[List.lookup_cons];simp⟩
    ·exact h3 x hx
  ·obtain⟨cl,e,h1,h2,h3⟩:=sE hf r acc hr hacc
   refine⟨cl,?_,h1,h2,fun x hx=>?_⟩
   ·rw[List.forIn_cons,hf,if_neg hk]
    exact e
   ·rcases List.mem_cons.mp hx with e|hx
    ·cases e
     exact absurd rfl hk
    ·exact h3 x hx
theorem Ub{sc:Scope}{env:Env}(h:∀ y∈sc.names,y.2=.free→∃ c,env.cells.lookup y.1=some c) :
 ∃ cl,closureFor sc env=pure cl∧(∀ x c,cl.lookup x=some c→env.cells.lookup x=some c)∧∀ x,(x,NameKind.free)∈sc.names→∃ c,cl.lookup x=some c:=by
 obtain⟨cl,e,h1,_,h3⟩:=sE (env:=env) (f:=fun x r=>match x with|(name,kind)=>if (kind == NameKind.free)=true then (cellOf env name >>= fun a=>pure (ForInStep.yield ((name,a)::r))) else pure (ForInStep.yield r))
  (fun n k r=>rfl) sc.names [] h (fun _ _ h=>by simp at h)
 refine⟨cl,?_,h1,h3⟩
 unfold closureFor
 refine Eq.trans ?_ e
 exact bind_pure _
def pick(ρ : List (Option Nat))(σ : St):St:=ρ.map fun o=>o.bind fun j=>(σ[j]?).join
def Ba(X:Cx)(N':List Str)(sc:Scope)(cl:List (Str×Addr))(C:Addr)(s:Shared)(H:Hp)(fp:List Addr):Cx :=
 { X with N:=N',s₀:=s,H₀:=H,env:=compEnvC sc cl C X.env,outer:=X.stack,ex:=fp,fn:=fun _=>false,xe:=fun _ _=>False }
structure dm(X:Cx)(N':List Str)(ρ : List (Option Nat))(sc:Scope):Prop where
 kind:sc.kind=.function
 ym:∀ y∈sc.names,y.2≠.cell
 names:∀ y∈sc.names,y.2=.local→sc.names.lookup y.1=some .local
 free:∀ y∈sc.names,y.2=.free→(X.env.kindOf y.1=some .cell∨X.env.kindOf y.1=some .free)
 len:ρ.length=N'.length
 ix:∀ (i j:Nat),ρ[i]? = some (some j)→∃ x,N'[i]? = some x∧X.N[j]? = some x∧sc.names.lookup x=some .free
def Zz(X:Cx)(ifs:List Expr)(t:TT):Prop :=
 ∀ (pins:List (Addr×Obj)) (s:Shared) (σ : St) (H:Hp) (Q:Bool→Hp→Prop),Inv X pins σ H s→t σ H Q →
  wpAny (model X.prog X.w) X.A (forIn ifs true fun c r=>if r=true then do let ok ← isTrue c X.env (eval c X.env);pure (ForInStep.yield ok) else pure (ForInStep.yield r)) (TP X pins σ Q) X.xe s
def XM:TT:=fun _ H Q=>Q true H
theorem iQ{X:Cx}:Zz X [] XM:=fun _ _ _ H _ I h=>wpAny_tests_nil ⟨H,I,h⟩
theorem jy{X:Cx}{c:Expr}{t:TT}(h:PT X c t):Zz X [c] t:=fun pins s σ H Q I hw=>wpAny_tests_one (h pins s σ H Q I hw)
def Hm(ρ : List (Option Nat))(g:TG):Prop:=∀ v σ H Q,g v σ H Q→g v σ H fun σ2 H2=>(σ2.length = σ.length∧∀ (i j:Nat),ρ[i]? = some (some j)→σ2[i]? = σ[i]?)∧Q σ2 H2
def Ej(ρ : List (Option Nat))(g:Nx):Prop:=∀ v σ H Q,g v σ H Q→g v σ H fun σ2 H2=>(σ2.length = σ.length∧∀ (i j:Nat),ρ[i]? = some (some j)→σ2[i]? = σ[i]?)∧Q σ2 H2
theorem dU{ρ : List (Option Nat)}{i:Nat}(h:ρ[i]? = some none):Hm ρ (pD i):=fun v σ H Q q=>by
 refine⟨⟨List.length_set,fun k j e=>?_⟩,q⟩
 have:i≠k:=by intro z;subst z;rw[h] at e;cases e
 rw[List.getElem?_set_ne this]
theorem Dz{ρ : List (Option Nat)}:Ej ρ Qw:=fun v σ H Q ⟨e,q⟩=>⟨e,⟨rfl,fun _ _ _=>rfl⟩,q⟩
theorem km{ρ : List (Option Nat)}{i:Nat}{u:Nx}(h:ρ[i]? = some none)(hu:Ej ρ u)(mu:∀ v σ H Q Q',(∀ a b,Q a b→Q' a b)→u v σ H Q→u v σ H Q'):Ej ρ (Gp (pD i) u):=fun vs σ H Q ⟨v,r,e,q⟩=>by
 refine⟨v,r,e,?_⟩
 refine mu _ _ _ _ _ (fun a b ⟨⟨l,k⟩,z⟩=>⟨⟨l.trans List.length_set,fun i' j' e'=>(k i' j' e').trans ?_⟩,z⟩) (hu _ _ _ _ q)
 have:i≠i':=by intro z;subst z;rw[h] at e';cases e'
 rw[List.getElem?_set_ne this]
theorem qu:∀ v σ H Q Q',(∀ a b,Q a b→Q' a b)→Qw v σ H Q→Qw v σ H Q':=fun _ _ _ _ _ m ⟨e,q⟩=>⟨e,m _ _ q⟩
theorem wU{i:Nat}{u:Nx}(mu:∀ v σ H Q Q',(∀ a b,Q a b→Q' a b)→u v σ H Q→u v σ H Q'):∀ v σ H Q Q',(∀ a b,Q a b→Q' a b)→Gp (pD i) u v σ H Q→Gp (pD i) u v σ H Q' :=
 fun _ _ _ _ _ m ⟨v,r,e,q⟩=>⟨v,r,e,mu _ _ _ _ _ m q⟩
theorem Dy{ρ : List (Option Nat)}{K:PySem.W.Frag}{n:Nat}{u:Nx}(hu:Ej ρ u):Hm ρ (WW K n u):=fun v σ H Q ⟨a,xs,e,hq,hl,q⟩=>⟨a,xs,e,hq,hl,hu _ _ _ _ q⟩
def ZQ(J:It)(ρ : List (Option Nat))(g:TG)(tc:TT)(te:TE)(σ : St)(H1:Hp)(Q:VK):Prop:=∃ W:Nat→Nat→List V→Hp→Prop,(∃ m,W 0 m [] H1)∧∀ i m acc H,W i m acc H →
 (J.stop i H∧∀ p,H p=none→Q (.ref p) (upd H p (.lst acc))) ∨
 (J.go i H∧acc.length < sizeLine∧∃ N:List V→Hp→Prop,(∀ acc' H',N acc' H'→∃ m',m' < m∧W (i+1) m' acc' H') ∧
  ∀ x H',J.yld i H x H'→g x (pick ρ σ) H' fun σ2 H2=>tc σ2 H2 fun b H3=>if b=true then te σ2 H3 fun y H4=>N (acc++[y]) H4 else N acc H3)
def JN(wi:TI)(ρ : List (Option Nat))(g:TG)(tc:TT)(te:TE):TE:=fun σ H Q=>wi σ H fun J H1=>ZQ J ρ g tc te σ H1 Q
section
variable{X:Cx}{elt tg iter:Expr}{ifs:List Expr}{sc:Scope}{pos cpos:Pos}{N':List Str}{ρ : List (Option Nat)}{wi:TI}{g:TG}{tc:TT}{te:TE}
theorem Bb(hcalm:X.calm=true)(S:dm X N' ρ sc)(hi:PI X tg iter wi)
 (hg:∀ cl C s H fp,PG (Ba X N' sc cl C s H fp) tg g) (gk:Hm ρ g) (hc:∀ cl C s H fp,Zz (Ba X N' sc cl C s H fp) ifs tc) (he:∀ cl C s H fp,PE (Ba X N' sc cl C s H fp) elt te)
 (hs:∀ x,foldedSetIterable iter X.env x=pure x)
 (use:Option (Value→Sem Unit)) {R:Value→Shared→Prop} {pins:List (Addr×Obj)} {s:Shared} {σ : St} {H:Hp} {Q:VK} (I:Inv X pins σ H s) (h:JN wi ρ g tc te σ H Q)
 (hR:∀ s' D C H',Inv X pins σ H' s'→Q (.ref D) H'→(∃ m,s'.heap.Ns C m)→nU X pins H' C→compPost (model X.prog X.w) X.A X.xe use R (.ref D) C (.ok .next) s') :
 wpAny (model X.prog X.w) X.A (comprehension (.ListComp elt [⟨tg,iter,ifs,0⟩] sc pos) sc X.env cpos (newList []) false (eval iter X.env) use) R X.xe s:=by
 obtain⟨cl,hcl,hsub,hall⟩:=Ub (sc:=sc) (env:=X.env) fun y hy hf=>I.ok.has y.1 (S.free y hy hf)
 refine wpAny_comprehension_free rfl hs hcl S.kind S.names (gW (hi pins s σ H _ I h) fun v s1 h1=>gW h1 fun itv s2 h2=>?_)
 obtain⟨it,fp,tn,J,H2,e,I2,T,st2,f2,W,⟨m0,w0⟩,turn⟩:=h2
 subst e
 refine wpAny_newList (items:=[]) ?_
 refine wpAny_newFunctionEnv S.ym (by intro y hy;simp at hy) (fun h₁ hns hsb=>?_) S.kind
 dsimp only at hns hsb ⊢
 generalize hH2:s2.heap.push { cls:=.type "list", data:=.seq ([]:List Value).toArray }=Hh at hns hsb ⊢
 have hCs:Hh.objs.size=s2.heap.objs.size+1:=by rw[← hH2,Heap.size_push]
 generalize hD:s2.heap.objs.size=D at *
 generalize hCC:Hh.objs.size=C at *
 have hDC:D≠C:=by omega
 have ltC:∀ b:Nat,b < s2.heap.objs.size→b≠C∧b≠D∧b < D:=fun b h=>by omega
 have ltD:∀ b:Nat,b < D→b≠C∧b≠D:=fun b h=>by omega
 have old:∀ b o,s2.heap.get? b=some o→h₁.get? b=some o:=fun b o e=>hsb.extBut b o (ltC b (Heap.lt_size e)).1 (Heap.get?_push_of_some _ (by rw[← hH2];exact Heap.get?_push_of_some _ e))
 have newD:h₁.get? D=some { cls:=.type "list", data:=.seq ([]:List Value).toArray }:=hsb.extBut _ _ hDC (Heap.get?_push_of_some _ (by rw[← hH2,← hD];exact Heap.get?_push_size _ rfl))
 have ltb:∀ b∈fp,b < D:=fun b hb=>by
  obtain⟨o,e,_⟩:=T.obj _ _ st2 b hb
  exact(ltC b (Heap.lt_size e)).2.2
 have fD:nU X pins H2 D:=I2.ud (by omega) (I2.hok.fresh (by omega))
 have fC:nU X pins H2 C:=I2.ud (by omega) (I2.hok.fresh (by omega))
 have nst:∀ b,b≠X.env.locals→b∉X.fs→b∉frs X.stack:=fun b h1 h2 hb=>by
  rcases List.mem_cons.mp (I2.Cm b hb) with e|e
  ·exact h1 e
  ·exact h2 e
 have ok':(Ba X N' sc cl C s2 H2 fp).Ok:=by
  refine⟨I2.ok.mod,S.kind,I2.ok.glob,I2.ok.blt,(by show s2.heap.objs.size≤C;omega),fun x y c e1 e2=>I2.ok.inj x y c (hsub _ _ e1) (hsub _ _ e2),fun x hx=>?_,fun x c z=>(by cases z),I2.ok.hd,I2.ok.frames,.inl rfl,
   fun b hb=>⟨(ltD b (ltb b hb)).1,fun x c e=>(f2 b hb).2.2.2.2.1 x c (hsub _ _ e)⟩,I2.bs,(by show X.base.objs.size≤s2.heap.objs.size;exact Nat.le_trans I2.ok.bsz I2.sz),fun b o e hb=>?_,fun b hb=>nst b (f2 b hb).2.1 (f2 b hb).2.2.1,I2.stack,I2.Cp⟩
  ·have hx':∃ k',sc.names.lookup x=some k'∧(k'=.cell∨k'=.free):=by
    rcases hx with hx|hx
    ·obtain⟨k',e1,e2⟩:=jC (env:=X.env) (names:=sc.names) hx
     rcases e2 with e2|⟨e2,_⟩
     ·exact⟨k',e1,.inl e2.symm⟩
     ·exact⟨k',e1,.inr e2⟩
    ·obtain⟨k',e1,e2⟩:=jC (env:=X.env) (names:=sc.names) hx
     rcases e2 with e2|⟨e2,_⟩
     ·exact⟨k',e1,.inr e2.symm⟩
     ·exact⟨k',e1,.inr e2⟩
   obtain⟨k',e1,e2⟩:=hx'
   have hm:=lookup_mem e1
   rcases e2 with e2|e2
   ·exact absurd e2 (S.ym _ hm)
   ·subst e2;exact hall x hm
  ·rcases (f2 b hb).2.2.2.1 with z|z
   ·exact I2.ok.Py b o e z
   ·exact absurd (Nat.lt_of_lt_of_le (Heap.lt_size e) (Nat.le_trans I2.ok.bsz z)) (Nat.lt_irrefl _)
 have O8:∀ p∈X.pn++pins,p.1 < D:=fun p hp=>(ltC p.1 (Heap.lt_size (I2.pin p hp).1)).2.2
 have W9:∀ x c,cl.lookup x=some c→c < D:=fun x c e=>by
  obtain⟨v,q⟩:=I2.cell x c (hsub _ _ e)
  exact(ltC c q.lt).2.2
 have I':∀ tk,Inv (Ba X N' sc cl C s2 H2 fp) (pins++[(D,{ cls:=.type "list", data:=.seq ([]:List Value).toArray })]) (pick ρ σ) H2 { s2 with heap:=h₁,toks:=tk }:=fun tk=>by
  refine⟨ok',rfl,I2.bare,Un.kept old,⟨_,hns,fun i x v e1 e2 e3=>?_⟩,fun x c e=>?_,fC.1,fun x c e=>I2.pF x c (hsub _ _ e),fun p hp=>?_,I2.hok.kept old,?_⟩
  ·have e2':∃ j,ρ[i]? = some (some j)∧σ[j]? = some (some v):=by
    unfold pick at e2
    rw[List.getElem?_map] at e2
    cases hr:ρ[i]? with
    | none=>rw[hr] at e2;cases e2
    | some o =>
     rw[hr] at e2
     cases o with
     | none=>cases e2
     | some j =>
      refine⟨j,rfl,?_⟩
      have e2:(σ[j]?).join=some v:=Option.some.inj e2
      cases hq:σ[j]? with
      | none=>rw[hq] at e2;cases e2
      | some o' => rw [hq] at e2; have e2 : o' = some v := e2
                   rw[e2]
   obtain⟨j,hj,hv⟩:=e2'
   obtain⟨y,ey,eN,ef⟩:=S.ix i j hj
   have e1':N'[i]? = some x:=e1
   rw[ey] at e1';cases e1'
   obtain⟨m,hn,hl⟩:=I2.loc
   have hm:=lookup_mem ef
   have kX:=S.free _ hm rfl
   obtain⟨u,ru,lk⟩:=hl j x v eN hv (by rcases kX with k|k;exact .inr (.inl k);exact .inr (.inr k))
   refine⟨u,ru,.inr ⟨?_,?_⟩⟩
   ·show (relabel sc X.env).names.lookup x=some .cell∨(relabel sc X.env).names.lookup x=some .free
    rcases e3 with e3|e3|e3
    ·obtain⟨k',q1,q2⟩:=jC (env:=X.env) (names:=sc.names) e3
     rw[ef] at q1;cases q1
     rcases q2 with q2|⟨_,q2⟩<;>cases q2
    ·exact .inl e3
    ·exact .inr e3
   ·obtain⟨c,hc'⟩:=hall x hm
    refine⟨c,hc',?_⟩
    rcases lk with ⟨k,_⟩|⟨_,c',ec,z⟩
    ·rcases kX with k'|k'<;>(rw[k] at k';cases k')
    ·rw[hsub _ _ hc'] at ec;cases ec
     obtain⟨o,ho,hd⟩:=z
     exact⟨o,old _ _ ho,hd⟩
  ·obtain⟨v,o,ho,hd⟩:=I2.cell x c (hsub _ _ e)
   exact⟨v,o,old _ _ ho,hd⟩
  ·have hp':p∈X.pn++pins∨p=(D,{ cls:=.type "list", data:=.seq ([]:List Value).toArray }):=by
    rcases List.mem_append.mp hp with z|z
    ·exact .inl (List.mem_append_left _ z)
    ·rcases List.mem_append.mp z with z|z
     ·exact .inl (List.mem_append_right _ z)
     ·exact .inr (by simpa using z)
   rcases hp' with z|z
   ·obtain⟨q1,q2,q3,q4,q5⟩:=I2.pin p z
    exact⟨old _ _ q1,q2,(ltD p.1 (O8 p z)).1,nst _ q3 q4,q5⟩
   ·subst z
    exact⟨newD,fD.1,hDC,nst _ fD.2.1 fD.2.2.1,fun v z=>by cases z⟩
  ·show (pick ρ σ).length=N'.length
   unfold pick;rw[List.length_map];exact S.len
 have stat:∀ {H':Hp} {o:Obj},(∀ b∈fp,H' b=none)→∀ b∈fp,nU (Ba X N' sc cl C s2 H2 fp) (pins++[(D,o)]) H' b:=fun {H' o} hn b hb=>by
  refine⟨hn b hb,(ltD b (ltb b hb)).1,nst b (f2 b hb).2.1 (f2 b hb).2.2.1,.inl hb,fun x c e=>(f2 b hb).2.2.2.2.1 x c (hsub _ _ e),fun p hp=>?_⟩
  rcases List.mem_append.mp hp with z|z
  ·exact(f2 b hb).2.2.2.2.2 p (List.mem_append_left _ z)
  ·rcases List.mem_append.mp z with z|z
   ·exact(f2 b hb).2.2.2.2.2 p (List.mem_append_right _ z)
   ·have e:p=(D,o):=by simpa using z
    subst e
    exact Ne.symm (ltD b (ltb b hb)).2
 have loop:∀ tk,codeAny (model X.prog X.w) X.A (.compLoop (.ListComp elt [⟨tg,iter,ifs,0⟩] sc pos) 0 (.ref it) (.ref D) (compEnvC sc cl C X.env)) (compPost (model X.prog X.w) X.A X.xe use R (.ref D) C) { s2 with heap:=h₁,toks:=tk }:=fun tk=>by
  refine DX (fun n s'=>∃ (i:Nat) (acc:List V) (its:List Value) (k:Nat) (H':Hp),Inv (Ba X N' sc cl C s2 H2 fp) (pins++[(D,{ cls:=.type "list", data:=.seq its.toArray k })]) (pick ρ σ) H' s'∧Vals acc its∧acc.length≤sizeLine∧tn i s'.heap∧(∀ b∈fp,H' b=none)∧W i n acc H')
   ?_ m0 ⟨0,[],[],0,H2,I' tk,.nil,Nat.zero_le _,T.keep _ _ _ st2 fun b hb o e=>old b o e,fun b hb=>(f2 b hb).1,w0⟩
  rintro n s3 ⟨i,acc,its,k,H3,I3,va,hz0,st3,fr3,w3⟩
  rcases turn i n acc H3 w3 with ⟨stop,qn⟩|⟨go,hz,Nn,hN,step⟩
  ·refine gW (T.done (Ba X N' sc cl C s2 H2 fp) rfl rfl rfl hcalm i _ s3 _ H3 (fun _ _=>False) I3 (stat fr3) st3 stop) fun r s4 ⟨hr,I4⟩=>?_
   subst hr
   obtain⟨p1,p2,p3,p4,p5⟩:=I4.pin (D,{ cls:=.type "list", data:=.seq its.toArray k }) (by simp)
   have p1:s4.heap.get? D=some { cls:=.type "list", data:=.seq its.toArray k }:=p1
   have p2:H3 D=none:=p2
   have B:=I4.base
   have upn:∀ b o,H3 b=some o→upd H3 D (.lst acc) b=some o:=fun b o e=>by rw[aN (bc e p2)];exact e
   have IX:Inv X pins σ (upd H3 D (.lst acc)) s4:=by
    refine I2.call' (ch:=fp) I4.os ⟨fun b o q1 q2 q3 q4=>B.keep b o q1 q2 q3 q4,fun b o q1 q2 q3 q4=>B.slot b o q1 q2 q3 q4,fun b o q1 q2 q3=>?_,fun b o q1 q2=>B.there b o q1 q2,
     fun b xs q=>upn _ _ (B.tups b xs q),fun b o u q=>upn _ _ (B.zM b o u q),fun b w ps q=>?_⟩ (I4.hok.track p2 ⟨hz0,its,k,va,p1⟩) I4.bare fun b hb=>⟨(f2 b hb).2.2.2.1,(f2 b hb).2.1,(f2 b hb).2.2.2.2.1,(f2 b hb).2.2.2.2.2⟩
    ·rw[aN (ltC b (Heap.lt_size q1)).2.1]
     exact B.free b o q1 q2 q3
    ·obtain⟨more,q'⟩:=B.zH b w ps q
     exact⟨more,upn _ _ q'⟩
   obtain⟨m,hm,_⟩:=I4.loc
   refine hR s4 D C _ IX (qn D p2) ⟨m,hm⟩ (I2.ud (by omega) ?_)
   rw[aN (Ne.symm hDC)]
   exact I4.free
  ·refine gW (T.item (Ba X N' sc cl C s2 H2 fp) rfl rfl rfl hcalm i _ s3 _ H3 (fun _ _=>False) I3 (stat fr3) st3 go) fun r s4 ⟨u,hr,h4⟩=>?_
   subst hr
   refine gW h4 fun _ s5 ⟨x,H5,I5,r5,y5,st5,fr5⟩=>?_
   have I5':=I5.pinned (stat fr5) (T.obj _ _ st5)
   refine gW (hg cl C s2 H2 fp _ s5 _ H5 x u _ I5' r5 (gk _ _ _ _ (step x H5 y5))) fun _ s6 ⟨σ6,H6,I6,⟨l6,k6⟩,q6⟩=>?_
   refine gW (hc cl C s2 H2 fp _ s6 σ6 H6 _ I6 q6) fun ok s7 ⟨H7,I7,q7⟩=>?_
   have wk:∀ {Ad:List (Addr×Obj)} {H':Hp} {s':Shared},Inv (Ba X N' sc cl C s2 H2 fp) Ad σ6 H' s'→Inv (Ba X N' sc cl C s2 H2 fp) Ad (pick ρ σ) H' s':=fun {Ad H' s'} J' =>
    J'.weak l6.symm fun j v e=>by
     have:∃ j',ρ[j]? = some (some j'):=by
      unfold pick at e
      rw[List.getElem?_map] at e
      cases hr:ρ[j]? with
      | none=>rw[hr] at e;cases e
      | some o =>
       rw[hr] at e
       cases o with
       | none=>cases e
       | some j'=>exact⟨j',rfl⟩
     obtain⟨j',hj'⟩:=this
     rw[k6 j j' hj'];exact e
   cases ok with
   | false =>
    have q7:Nn acc H7:=by simpa using q7
    rw[if_neg Bool.false_ne_true]
    obtain⟨m',hm,w7⟩:=hN acc H7 q7
    refine⟨m',hm,i+1,acc,its,k,H7,wk I7.m6,va,hz0,T.keep _ _ _ st5 fun b hb o e=>(I7.pin (b,o) (List.mem_append_right _ (List.mem_append_right _ (jV hb e)))).1,fun b hb=>?_,w7⟩
    obtain⟨o,e,d⟩:=T.obj _ _ st5 b hb
    exact(I7.pin (b,o) (List.mem_append_right _ (List.mem_append_right _ (jV hb e)))).2.1
   | true =>
    have q7:te σ6 H7 fun y H4=>Nn (acc++[y]) H4:=by simpa using q7
    rw[if_pos rfl]
    refine gW (he cl C s2 H2 fp _ s7 σ6 H7 _ I7 q7) fun xv s8 ⟨y,H8,I8,r8,n8⟩=>?_
    obtain⟨p1,p2,p3,p4,p5⟩:=I8.pin (D,{ cls:=.type "list", data:=.seq its.toArray k }) (by simp)
    have p1:s8.heap.get? D=some { cls:=.type "list", data:=.seq its.toArray k }:=p1
    have p2:H8 D=none:=p2
    refine wpAny_list_append_plain ⟨k,p1⟩ (fun h' pl sb=>?_) (by rw[List.size_toArray,← va.length];omega)
    obtain⟨k',pl⟩:=pl
    obtain⟨m',hm,w8⟩:=hN _ _ n8
    have Ia:Inv (Ba X N' sc cl C s2 H2 fp) pins σ6 H8 s8:=I8.m6.m6
    have Ib:Inv (Ba X N' sc cl C s2 H2 fp) pins σ6 H8 { s8 with heap:=h' }:=Ia.turned (t':=s8.toks) (it:=D) (fun b o hb e=>(sb.2 b hb).trans e) p2 hDC (.inr (by show s2.heap.objs.size≤D;omega)) (fun x c e=>(ltD c (W9 x c e)).2) fun p hp=>(ltD p.1 (O8 p hp)).2
    have pl':h'.get? D=some { cls:=.type "list", data:=.seq (its++[xv]).toArray k' }:=by rw[pl];simp
    have Ic:Inv (Ba X N' sc cl C s2 H2 fp) (pins++[(D,{ cls:=.type "list", data:=.seq (its++[xv]).toArray k' })]) σ6 H8 { s8 with heap:=h' }:=Ib.CQ fun p hp=>by
     rcases List.mem_append.mp hp with z|z
     ·exact Ib.pin p (List.mem_append_right _ z)
     ·have e:p=(D,{ cls:=.type "list", data:=.seq (its++[xv]).toArray k' }):=by simpa using z
      subst e
      exact⟨pl',p2,p3,p4,fun v z=>by cases z⟩
    refine⟨m',hm,i+1,acc++[y],its++[xv],k',H8,wk Ic,va.append (.cons r8 .nil),(by rw[List.length_append,List.length_singleton];omega),T.keep _ _ _ st5 fun b hb o e=>?_,fun b hb=>?_,w8⟩
    ·exact(sb.2 b (ltD b (ltb b hb)).2).trans (I8.pin (b,o) (List.mem_append_right _ (List.mem_append_right _ (jV hb e)))).1
    ·obtain⟨o,e,d⟩:=T.obj _ _ st5 b hb
     exact(I8.pin (b,o) (List.mem_append_right _ (List.mem_append_right _ (jV hb e)))).2.1
 refine codeAny_compStart_list (loop _) (T.self X.A 0 _ _ _ (T.keep _ _ _ st2 fun b hb o e=>old b o e) (loop _))
theorem eY(hcalm:X.calm=true)(S:dm X N' ρ sc)(hi:PI X tg iter wi)
 (hg:∀ cl C s H fp,PG (Ba X N' sc cl C s H fp) tg g) (gk:Hm ρ g) (hc:∀ cl C s H fp,Zz (Ba X N' sc cl C s H fp) ifs tc) (he:∀ cl C s H fp,PE (Ba X N' sc cl C s H fp) elt te)
 (hs:∀ x,foldedSetIterable iter X.env x=pure x:=by intro _;rfl) :
 PE X (.ListComp elt [⟨tg,iter,ifs,0⟩] sc pos) (JN wi ρ g tc te):=by
 intro pins s σ H Q I h
 rw[eval_ListComp]
 refine Bb hcalm S hi hg gk hc he hs none I h fun s' D C H' I' q ⟨m,hm⟩ f=>⟨m,hm,fun h' sb=>?_⟩
 exact⟨.ref D,H',I'.turned (t':=s'.toks) (it:=C) (fun b o hb e=>(sb.2 b hb).trans e) f.1 f.2.1 f.2.2.2.1 f.2.2.2.2.1 f.2.2.2.2.2,rfl,q⟩
theorem tR{i:Nat}{x:Str}{px:Pos}(hcalm:X.calm=true)(hN:X.N.Nodup)(hix:X.N[i]? = some x)(hx:Loc X.env.scope x)(S:dm X N' ρ sc)(hi:PI X tg iter wi)
 (hg:∀ cl C s H fp,PG (Ba X N' sc cl C s H fp) tg g) (gk:Hm ρ g) (hc:∀ cl C s H fp,Zz (Ba X N' sc cl C s H fp) ifs tc) (he:∀ cl C s H fp,PE (Ba X N' sc cl C s H fp) elt te)
 (hsw:swapsWith (.ListComp elt [⟨tg,iter,ifs,0⟩] sc pos) (some (.Name x px)) cpos.line X.env=pure true:=by rfl)
 (hs:∀ x,foldedSetIterable iter X.env x=pure x:=by intro _;rfl)
 (hf:X.fn x=true∨X.env.scope.names.lookup x=some .local:=by first|exact .inl rfl|exact .inr rfl|assumption) :
 PS X (.Assign [.Name x px] (.ListComp elt [⟨tg,iter,ifs,0⟩] sc pos) cpos) (Et (JN wi ρ g tc te) (pD i)):=by
 intro pins s σ H D I h
 rw[exec_Assign_Name_used _ _ _ _ hsw]
 refine wpAny_bind (wpAny_standAt (wpAny_bind ?_))
 show wpAny _ X.A (do let _ ← comprehension (.ListComp elt [⟨tg,iter,ifs,0⟩] sc pos) sc X.env _ (newList []) false (eval iter X.env) (some (assign (.Name x px) X.env))) _ _ s
 refine wpAny_bind (gW (Bb (Q:=fun y H1=>D.nx (σ.set i (some y)) H1) (R:=fun _ s'=>SP X pins D .next s') hcalm S hi hg gk hc he hs (some (assign (.Name x px) X.env)) I h fun s' Da C H' I' q ⟨m,hm⟩ f=>?_) fun _ s' hq=>wpAny_pure (wpAny_pure hq))
 show wpAny _ X.A (assign (.Name x px) X.env (.ref Da)) _ _ _
 refine wpAny_assign_Name (zV I' hN hix hx (v:=.ref Da) rfl (fun s2 I2 ⟨a,sb,ha⟩=>⟨m,hm.sameBut sb ?_,fun h' sb2=>?_⟩) hf)
 ·rcases ha with e|e
  ·subst e;exact f.2.1
  ·exact fun z=>f.2.2.2.2.1 x a e z.symm
 ·exact⟨_,H',I2.turned (t':=s2.toks) (it:=C) (fun b o hb e=>(sb2.2 b hb).trans e) f.1 f.2.1 f.2.2.2.1 f.2.2.2.2.1 f.2.2.2.2.2,q⟩
end
structure It.Of(J:It)(Ok:Hp→Prop)(xs:List V):Prop where
 go:∀ i H,Ok H→i < xs.length→J.go i H
 yld:∀ i H x H',Ok H→i < xs.length→J.yld i H x H'→H'=H∧xs[i]? = some x
 stop:∀ H,Ok H→J.stop xs.length H
theorem J5{K:PySem.W.Frag}{a:Addr}{xs:List V}:(ZM K a).Of (fun H=>wM K H a xs) xs :=
 ⟨fun i H h hi=>⟨xs,xs[i],h,by simp[hi]⟩,fun i H x H' h _ y=>⟨y.1,y.2 xs h⟩,fun H h=>⟨xs,h,Nat.le_refl _⟩⟩
theorem Pr{K:PySem.W.Frag}{a:Addr}{xs:List V}:(ZK K a).Of (fun H=>zF K H a xs) xs :=
 ⟨fun i H h hi=>⟨xs,xs[i],h,by simp[hi]⟩,fun i H x H' h _ y=>⟨y.1,y.2 xs h⟩,fun H h=>⟨xs,h,Nat.le_refl _⟩⟩
def H9(lo:Int)(n:Nat):List V:=(List.range n).map fun i=>V.int (lo+(i:Nat))
theorem xW(lo:Int)(n:Nat):(H9 lo n).length=n:=by simp[H9]
theorem Ot{lo:Int}{n i:Nat}(h:i < n):(H9 lo n)[i]? = some (.int (lo+i)):=by simp[H9,h]
theorem Px{lo:Int}{n:Nat}:(XD lo n).Of (fun _=>True) (H9 lo n) :=
 ⟨fun i H _ hi=>by rw[xW] at hi;exact hi,fun i H x H' _ hi y=>⟨y.1,by rw[xW] at hi;rw[y.2];exact Ot hi⟩,fun H _=>by rw[xW];exact Nat.le_refl _⟩
end L2
namespace L2
open PySem PySem.Spec PyProof.Rows
def sgn(c:Nat):V:=.str ⟨#[c]⟩
def HW(x:Str):List V:=x.cps.toList.map sgn
theorem Fe(x:Str):(HW x).length=x.length:=by simp[HW,Str.length]
def Xu(x:Str):It:=⟨fun i _=>i < x.length,fun i H y H'=>H'=H∧(HW x)[i]? = some y,fun i _=>i=x.length⟩
theorem Pu{x:Str}:(Xu x).Of (fun _=>True) (HW x) :=
 ⟨fun i H _ hi=>by rw[Fe] at hi;exact hi,fun i H y H' _ _ h=>h,fun H _=>Fe x⟩
theorem Ep{P:Program}{w:World}{K:PySem.W.Frag}{tg:Expr}(it:Addr)(x:Str)(t:Tok)(ty:String)
 (hty:["enumerate", "zip", "dict_itemiterator", "dict_reverseitemiterator", "odict_iterator", "itertools.zip_longest", "itertools.pairwise"].contains ty=false)
 (W:∀ A':Around,A'.handled=none→Walks P w A' it [it] [it] x.cps.size (SignAt x) (fun i h=>h.IsStrIter it ty x t i))
 (sf:∀ (A:Around) (i:Nat) (s:Shared) (Q:Value→Shared→Prop) (E:Value→Shared→Prop),s.heap.IsStrIter it ty x t i→Q (.ref it) s→wpAny (model P w) A (pyIter (.ref it)) Q E s) :
 Turn P w K tg (Xu x) [it] it (fun i h=>h.IsStrIter it ty x t i) where
 mem:=by simp
 obj:=fun i h st b hb=>by
  have e:b=it:=by simpa using hb
  subst e
  obtain⟨o,e,c,d⟩:=st
  exact⟨o,e,fun v z=>by rw[d] at z;cases z⟩
 keep:=fun i h h' st k=>let ⟨o,ho,r⟩:=st;⟨o,k it (by simp) o ho,r⟩
 item:=by
  intro X hP hw hK hc i pins s σ H E I hf st hg
  subst hP hw hK
  obtain⟨f0,f1,f2,f3,f4,f5⟩:=hf it (by simp)
  refine(W X.A (I.ok.hd hc)).item i s _ _ hg st fun v h' tk hv st' kk=>?_
  obtain⟨c,u,e,rfl⟩:=hv
  have I1:Inv X pins σ H { s with heap:=h',toks:=tk }:=I.turned (fun b o hb e=>kk b o (by simpa using hb) e) f0 f1 f3 f4 f5
  obtain⟨o,e',c',d'⟩:=id st'
  refine⟨_,rfl,Ks (s:={ s with heap:=h',toks:=tk }) e' c' d' hty ⟨sgn c,H,I1,⟨u,rfl⟩,⟨rfl,?_⟩,st',fun b hb=>(hf b hb).1⟩⟩
  unfold HW
  rw[List.getElem?_map,Array.getElem?_toList,e]
  rfl
 done:=by
  intro X hP hw hK hc i pins s σ H E I hf st hg
  subst hP hw hK
  obtain⟨f0,f1,f2,f3,f4,f5⟩:=hf it (by simp)
  have hg:i=x.length:=hg
  subst hg
  exact(W X.A (I.ok.hd hc)).done s _ _ st fun h' tk kk=>⟨rfl,I.turned (fun b o hb e=>kk b o (by simpa using hb) e) f0 f1 f3 f4 f5⟩
 self:=sf
section
variable{X:Cx}{tg:Expr}
def YX(tl:TE):TI:=fun σ H R=>tl σ H fun x H1=>∃ z,x=.str z∧R (Xu z) H1
theorem V6{l:Expr}{tl:TE}(hl:PE X l tl):PI X tg l (YX tl):=by
 intro pins s σ H R I h
 refine gW (hl pins s σ H _ I h) fun v s1 ⟨x,H1,I1,r1,q1⟩=>?_
 obtain⟨z,e,q⟩:=q1
 subst e
 obtain⟨t,rfl⟩:=r1
 cases ha:z.cps.all (· < 128)
 ·refine wpAny_pyIter_wide ha ?_
  refine⟨s1.heap.objs.size,[s1.heap.objs.size],_,Xu z,H1,rfl,I1.kept (t':=s1.toks) fun b o e=>Heap.get?_push_of_some _ e,Ep _ z t "str_iterator" (by decide) (fun A' hA=>Walks.strWide hA _ z t) (fun _ _ _ _ _ st hQ=>wpAny_pyIter_striter_wide st hQ),⟨_,Heap.get?_push_size _ rfl,rfl,rfl⟩,fun b hb=>?_,q⟩
  have e:b=s1.heap.objs.size:=by simpa using hb
  subst e
  exact I1.ud (Nat.le_refl _) (I1.hok.fresh (Nat.le_refl _))
 ·refine wpAny_pyIter_ascii ha ?_
  refine⟨s1.heap.objs.size,[s1.heap.objs.size],_,Xu z,H1,rfl,I1.kept (t':=s1.toks) fun b o e=>Heap.get?_push_of_some _ e,Ep _ z t "str_ascii_iterator" (by decide) (fun A' hA=>Walks.strAscii hA _ z t) (fun _ _ _ _ _ st hQ=>wpAny_pyIter_striter_ascii st hQ),⟨_,Heap.get?_push_size _ rfl,rfl,rfl⟩,fun b hb=>?_,q⟩
  have e:b=s1.heap.objs.size:=by simpa using hb
  subst e
  exact I1.ud (Nat.le_refl _) (I1.hok.fresh (Nat.le_refl _))
theorem LK:qD X (compareOp .Gt) (fun x y H Q=>∃ i j,x=.str i∧y=.str j∧Q (.bl (decide (j.cps.toList < i.cps.toList))) H):=by
 intro pins s σ H x y v u Q I rx ry h
 obtain⟨i,j,rfl,rfl,q⟩:=h
 obtain⟨t,rfl⟩:=rx
 obtain⟨t',rfl⟩:=ry
 exact PySem.P.gt_str (Jj I q rfl)
def M5(x:Str)(lo hi:Option Int):Str:=⟨((x.cps.toList.drop (HT.rR x.length 0 lo)).take (HT.rR x.length x.length hi - HT.rR x.length 0 lo)).toArray⟩
theorem Oe(lo hi:Option Int)(n:Nat):Builtin.Str.strSliceIndices lo hi 1 n=(List.range (HT.rR n n hi - HT.rR n 0 lo)).map (fun k=>HT.rR n 0 lo+k):=by
 have h1:∀ (v:Option Int) (d:Nat),d≤n→(match v with|none=>(d:Int)|some i=>max 0 (min (if i < 0 then i+(n:Int) else i) (n:Int)))=((HT.rR n d v:Nat):Int):=by
  intro v d hd
  cases v with
  | none=>rfl
  | some i =>
   show max 0 (min (if i < 0 then i+(n:Int) else i) (n:Int))=(((if i < 0 then (i+(n:Int)).toNat else min i.toNat n):Nat):Int)
   by_cases hv:i < 0
   ·simp only[if_pos hv];omega
   ·simp only[if_neg hv];omega
 have fin:∀ (p q:Int) (a b:Nat),p=(a:Int)→q=(b:Int)→sliceRange p q 1=(List.range (b - a)).map (fun k=>a+k):=by
  intro p q a b e1 e2
  subst e1 e2
  unfold sliceRange
  simp only[show ((1:Int) > 0)=True from by simp,if_true]
  by_cases hlt:(a:Int) < b
  ·have e3:(((b:Int) - a+1 - 1) / 1).toNat=b - a:=by first|omega|(simp;done)|(simp;omega)
   simp only[hlt,if_true,e3]
   refine List.map_congr_left fun k _=>?_
   omega
  ·have:b - a=0:=by omega
   simp[hlt,this]
 unfold Builtin.Str.strSliceIndices
 refine fin _ _ _ _ ?_ ?_
 ·have:=h1 lo 0 (Nat.zero_le _)
  cases lo with
  | none=>exact this
  | some i=>exact this
 ·have:=h1 hi n (Nat.le_refl _)
  cases hi with
  | none=>exact this
  | some i=>exact this
theorem Li(x:Str)(lo hi:Option Int):Txt.slice x lo hi=M5 x lo hi:=by
 have hle:HT.rR x.length x.length hi≤x.length:=HT.Oo _ _ (Nat.le_refl _) hi
 have ha:HT.rR x.length 0 lo≤x.length:=HT.Oo _ _ (Nat.zero_le _) lo
 unfold Txt.slice M5
 rw[Oe]
 generalize HT.rR x.length 0 lo=a at *
 generalize HT.rR x.length x.length hi=b at *
 have hp:((List.range (b - a)).map (fun k=>a+k)).filterMap (fun i=>x.cps[i]?)=(x.cps.toList.drop a).take (b - a):=by
  have h:=StrLaws.picks x.cps.toList (b - a) a (by simp[Str.length] at hle ha ⊢;omega)
  simpa using h
 split
 ·rename_i h
  simp only[List.length_map,List.length_range,beq_self_eq_true,Bool.true_and,beq_iff_eq] at h
  have e:a=0∨x.length=0:=by omega
  have e2:(x.cps.toList.drop a).take (b - a)=x.cps.toList:=by
   rw[h]
   rcases e with e|e
   ·subst e
    rw[List.drop_zero]
    exact List.take_of_length_le (by simp[Str.length])
   ·have:x.cps.toList=[]:=List.eq_nil_of_length_eq_zero (by simpa [Str.length] using e)
    rw[this];simp
  rw[e2]
 ·rw[hp]
def Yg:V→Option Int→Option Int→Hp→VK→Prop:=fun x lo hi H Q=>∃ z,x=.str z∧z.length≤sizeLine∧Q (.str (M5 z lo hi)) H
theorem VM:RJ X Yg:=by
 intro pins s σ H x v vl vu lo hi sl Q I rx hs pl pu h
 obtain⟨z,rfl,hz,q⟩:=h
 obtain⟨t,rfl⟩:=rx
 have fin:∀ (l u:Option (Int×Tok)),vl=partValue l→vu=partValue u→lo=l.map (·.1)→hi=u.map (·.1) →
  wpAny (model X.prog X.w) X.A (getItem (.str z t) (.ref sl)) (EP X pins σ Q) X.xe s:=by
  intro l u e1 e2 e3 e4
  subst e1 e2 e3 e4
  refine wpAny_getItem_str_slice (l:=l) (u:=u) (st:=none) hs rfl ?_
  refine post_val_or_str ⟨Nat.le_trans (Txt.slice_le z _ _) hz,fun t' k=>?_⟩
  refine⟨.str (M5 z _ _),H,I.tok k,⟨t',?_⟩,q⟩
  show Value.str (Txt.slice z _ _) t'=_
  rw[Li]
 refine⟨"str", _,F.slot_str_getitem.lookup,typeIs_str _ _ _,?_⟩
 cases pl with
 | none=>cases pu with
  | none=>exact fin none none rfl rfl rfl rfl
  | int j tj=>exact fin none (some (j,tj)) rfl rfl rfl rfl
 | int i ti=>cases pu with
  | none=>exact fin (some (i,ti)) none rfl rfl rfl rfl
  | int j tj=>exact fin (some (i,ti)) (some (j,tj)) rfl rfl rfl rfl
def Ys(neg:Bool):R2:=fun x y H Q=>∃ c z,x=sgn c∧y=.str z∧Q (.bl (if neg then !decide (c∈z.cps.toList) else decide (c∈z.cps.toList))) H
theorem Wf:qD X (compareOp .In) (Ys false):=by
 intro pins s σ H x y v u Q I rx ry h
 obtain⟨c,z,rfl,rfl,q⟩:=h
 refine LC pins s σ H _ _ v u Q I rx ry ⟨_,z,rfl,rfl,?_⟩
 rw[StrLaws.found_one];exact q
def Yp(K:PySem.W.Frag):List V→Hp→VK→Prop:=fun xs H Q=>∃ x t T b,xs=[x,.ty T]∧uB K H x t∧PySem.W.kitOne K t (.type T)=some b∧Q (.bl b) H
theorem GP:jq X (.builtin "isinstance") (Yp X.K):=by
 intro pins s σ H xs us Q I r h
 obtain⟨x,t,T,b,rfl,ty,e,q⟩:=h
 obtain⟨u,w',rfl,rx,rt⟩:=vals2 r
 cases (show w'=Value.type T from rt)
 exact Mv I rx ty e fun tk=>⟨.bl b,H,I.tok tk,rfl,q⟩
end
end L2
namespace L2
open PySem PySem.Spec PyProof.Rows
def Q5(osc:Scope)(N N':List Str)(ρ : List (Option Nat))(sc:Scope):Bool :=
 sc.names.all (fun y=>!(decide (y.2=.cell))) && sc.names.all (fun y=>!(decide (y.2=.local)) || decide (sc.names.lookup y.1=some .local)) &&
 sc.names.all (fun y=>!(decide (y.2=.free)) || (decide (osc.names.lookup y.1=some .cell) || decide (osc.names.lookup y.1=some .free))) &&
 decide (ρ.length=N'.length) && (List.range ρ.length).all fun i=>match ρ[i]? with
  | some (some j)=>(match N'[i]? with|some x=>decide (N[j]? = some x) && decide (sc.names.lookup x=some .free)|none=>false)
  | _=>true
theorem dm.of{X:Cx}{N':List Str}{ρ : List (Option Nat)}{sc:Scope}(hk:sc.kind=.function)(h:Q5 X.env.scope X.N N' ρ sc=true):dm X N' ρ sc:=by
 unfold Q5 at h
 simp only[Bool.and_eq_true,List.all_eq_true,Bool.or_eq_true,Bool.not_eq_true',decide_eq_true_eq,decide_eq_false_iff_not] at h
 obtain⟨⟨⟨⟨h1,h2⟩,h3⟩,h4⟩,h5⟩:=h
 refine⟨hk,fun y hy=>h1 y hy,fun y hy e=>(h2 y hy).resolve_left (fun z=>z e),fun y hy e=>(h3 y hy).resolve_left (fun z=>z e),h4,fun i j e=>?_⟩
 have hi:i < ρ.length:=(List.getElem?_eq_some_iff.mp e).1
 have q:=h5 i (List.mem_range.mpr hi)
 rw[e] at q
 cases hN:N'[i]? with
 | none=>rw[hN] at q;cases q
 | some x =>
  rw[hN] at q
  simp only[Bool.and_eq_true,decide_eq_true_eq] at q
  exact⟨x,rfl,q.1,q.2⟩
structure pO(P:Program)(w:World)(K:PySem.W.Frag)(mg:Str→Option Value)(base:Heap)(CX:JG)(k:Nat)(x:Str)(ps:List Str)(sp:Sp):Prop where
 ex:∃ (f:Addr) (fd:FuncData),mg x=some (.ref f)∧PySem.W.keepIn K (.ref f)=true∧Binds K fd ps []∧eF P w K mg base CX k f fd ps sp
theorem bL{X:Cx}{CX:JG}{k:Nat}{x:Str}{ps:List Str}{sp:Sp}{E:XK}{e:Expr}{es:List Expr}{t:TA}{p pos:Pos}(C:pO X.prog X.w X.K X.mg X.base CX k x ps sp)(hr:j5 k X.A)(hg:Gl X x)(hx:Eh CX X E)
 (ha:PA X (e::es) t) (hdb:(x == ("__debug__" : Str))=false:=by decide) (he:starEach (e::es) X.env=(false,eval e X.env)::starEach es X.env:=by rfl) (hpl:(backTo pos (starEach es X.env)).any (·.1)=false:=by rfl) :
 PE X (.Call (.Name x p) (e::es) [] pos) (zU sp [] E t):=by
 obtain⟨f,fd,hm,hk,hb,F⟩:=C.ex
 exact Sg F hr hg hm hk hb .nil hx ha hdb he hpl
theorem Vc{X:Cx}{x:Str}{T:String}{pos:Pos}(hg:Gl X x)(hm:X.mg x=none)(hv:bootBuiltins x=some (.type T))(hn:x ≠ "__name__" := by decide)(hd:(x == ("__debug__" : Str))=false:=by decide):PE X (.Name x pos) (tC (.ty T)) :=
 Sh hg hm hv rfl hn hd
structure qR(K:PySem.W.Frag)(mg:Str→Option Value)(x:Str)(st:Stmt)(ps:List Str):Prop where
 ex:∃ (f:Addr) (fd:FuncData),mg x=some (.ref f)∧PySem.W.keepIn K (.ref f)=true∧Binds K fd ps []∧(∀ (s:Shared) (us:List Value),us.length=ps.length→BindsTo s fd ⟨us,[]⟩ (ps.zip us))∧pN K x x st f fd
theorem DG{K:PySem.W.Frag}{h:Heap}{mg:Str→Option Value}{x:Str}{st:Stmt}{ps:List Str}{f:Addr}{oc:Value}{od an:Option Addr}{osl:Array (Option Value)}{kV doc pm cdv ct:Value}(X:K.In h)(G:h.Ns mainGlobals mg)
 (hb:∀ (kV doc pm:Value) (an:Option Addr) (cdv ct:Value) (us:List Value),us.length=ps.length→bindArgs (PySem.W.fnOf x x (lz st) (jF st) (bh st) .none kV doc pm an cdv ct) ⟨us,[]⟩=pure (ps.zip us))
 (a:PySem.W.nsIn K mainGlobals x=some (some (.ref f))) (l:K.lookup f=some ⟨oc,od,.func (PySem.W.fnOf x x (lz st) (jF st) (bh st) .none kV doc pm an cdv ct),osl⟩)
 (c:PySem.W.codeIn K cdv x=true) (k:PySem.W.keepIn K (.ref f)=true):qR K mg x st ps:=by
 have F:=Qx (st:=st) l c k
 exact⟨f,_,PySem.W.mg_of X G a,k,F.binds hb,fun s us hl=>.of_eq (hb kV doc pm an cdv ct us hl),F⟩
theorem qR.cal{P:Program}{w:World}{K:PySem.W.Frag}{mg:Str→Option Value}{base:Heap}{CX:JG}{k:Nat}{x:Str}{st:Stmt}{ps:List Str}{sp:Sp}(F:qR K mg x st ps)(h:∀ f fd,pN K x x st f fd→eF P w K mg base CX k f fd ps sp) :
 pO P w K mg base CX k x ps sp:=by
 obtain⟨f,fd,h1,h2,h3,_,h4⟩:=F.ex
 exact⟨f,fd,h1,h2,h3,h f fd h4⟩
end L2
namespace Mi
open PySem
inductive D where
 | non|bl (b:Bool)|int (i:Int)|str (x:Str)|lst (ds:List D)|tup (ds:List D)
mutual
def D.dep:D→Nat
 | .lst ds=>cQ ds+1
 | .tup ds=>cQ ds+1
 | _=>0
def cQ:List D→Nat
 | []=>0
 | d::r=>max d.dep (cQ r)
end
mutual
/-- Python's == -/
def cU:D→D→Bool
 | .non,.non=>true
 | .bl a,.bl b=>a == b
 | .bl a,.int b=>(if a then 1 else 0) == b
 | .int a,.bl b=>a == (if b then 1 else 0)
 | .int a,.int b=>a == b
 | .str a,.str b=>a == b
 | .lst a,.lst b=>dY a b
 | .tup a,.tup b=>dY a b
 | _,_=>false
def dY:List D→List D→Bool
 | [],[]=>true
 | a::r,b::s=>cU a b && dY r s
 | _,_=>false
end
def zE(n:Nat)(i:Int):Option Nat:=if 0≤i then (if i < n then some i.toNat else none) else if -(n:Int)≤i then some (i+n).toNat else none
def sX{α : Type}(xs:List α)(i:Int):Option α:=(zE xs.length i).bind fun j=>xs[j]?
def rR(n d:Nat):Option Int→Nat
 | none=>d
 | some v=>if v < 0 then (v+(n:Int)).toNat else min v.toNat n
def oX{α : Type}(xs:List α)(lo hi:Option Int):List α:=(xs.drop (rR xs.length 0 lo)).take (rR xs.length xs.length hi - rR xs.length 0 lo)
abbrev Ky:=Sum Int Str
inductive W where
 | d (x:D)|dk (kvs:List (Ky×D))|dt (kvs:List (List Ky×D))|df (kvs:List (List Ky×D))|ex (c:String)
abbrev Env:=List (Option W)
structure Vv where
 cls:String
 val:List D
inductive Rs(α : Type) where
 | ok (a:α)|ex (x:Vv)|no
def Rs.bind{α β : Type}:Rs α→(α→Rs β)→Rs β
 | .ok a,f=>f a
 | .ex x,_=>.ex x
 | .no,_=>.no
@[simp] theorem aG {α β : Type} (a:α) (f:α→Rs β):(Rs.ok a).bind f=f a:=rfl
@[simp] theorem Z5 {α β : Type} (x:Vv) (f:α→Rs β):(Rs.ex x).bind f=.ex x:=rfl
@[simp] theorem Z4 {α β : Type} (f:α→Rs β):(Rs.no).bind f=.no:=rfl
def Fin{α : Type}(r:Rs α)(k:α→Prop):Prop:=match r with
 | .ok a=>k a
 | _=>False
theorem au{α β : Type}{r:Rs α}{f:α→Rs β}{k:β→Prop}:Fin (r.bind f) k↔Fin r fun a=>Fin (f a) k:=by cases r<;>exact Iff.rfl
theorem Fin.mono{α : Type}{r:Rs α}{k k':α→Prop}(h:Fin r k)(m:∀ a,k a→k' a):Fin r k':=by
 cases r with
 | ok a=>exact m a h
 | ex x=>exact h
 | no=>exact h
theorem Aq{α : Type}{r s:Rs α}{k:α→Prop}(h:Fin (if true=true then r else s) k):Fin r k:=by simpa using h
theorem Av{α : Type}{r s:Rs α}{k:α→Prop}(h:Fin (if false=true then r else s) k):Fin s k:=by simpa using h
theorem kh{α : Type}{a:α}{k:α→Prop}(h:Fin (.ok a) k):k a:=h
def pJ{α : Type}:Option α→Rs α
 | some a=>.ok a
 | none=>.no
def aU{α : Type}(c:Prop)[Decidable c](r:Rs α):Rs α:=if c then r else .no
theorem aq{α : Type}{c:Prop}[Decidable c]{r:Rs α}(h:c):aU c r=r:=if_pos h
theorem aX{α : Type}{c:Prop}[Decidable c]{r:Rs α}{k:α→Prop}(h:Fin (aU c r) k):c∧Fin r k:=by
 unfold aU at h
 split at h
 ·exact⟨‹_›,h⟩
 ·exact h.elim
abbrev E:=Env→Rs D
abbrev C:=Env→Rs Bool
def mC(d:D):E:=fun _=>.ok d
def mV(i:Nat):E:=fun e=>match e[i]? with
 | some (some (.d x))=>.ok x
 | _=>.no
def m1(f:D→Rs D)(a:E):E:=fun e=>(a e).bind f
def m2(f:D→D→Rs D)(a b:E):E:=fun e=>(a e).bind fun x=>(b e).bind fun y=>f x y
def jL:List E→Env→Rs (List D)
 | [],_=>.ok []
 | a::r,e=>(a e).bind fun x=>(jL r e).bind fun xs=>.ok (x::xs)
def mN(f:List D→Rs D)(as:List E):E:=fun e=>(jL as e).bind f
def dTup(ds:List D):Rs D:=aU (ds.length≤16777216) (.ok (.tup ds))
def d9(ds:List D):Rs D:=aU (ds.length≤16777216) (.ok (.lst ds))
def Xh:D→Rs Bool
 | .bl b=>.ok b
 | _=>.no
def u6(a b:E):E:=fun e=>(a e).bind fun x=>(Xh x).bind fun c=>if c=true then b e else .ok (.bl false)
def Vj(a b:E):E:=fun e=>(a e).bind fun x=>(Xh x).bind fun c=>if c=true then .ok (.bl true) else b e
def Dk(f g:D→D→Rs D)(a b c:E):E:=fun e=>(a e).bind fun x=>(b e).bind fun y=>(f x y).bind fun z=>(Xh z).bind fun k=>if k=true then (c e).bind fun w=>g y w else .ok (.bl false)
def XC:D→Rs Int
 | .int i=>.ok i
 | _=>.no
def my:Option E→Env→Rs (Option Int)
 | none,_=>.ok none
 | some a,e=>(a e).bind fun x=>(XC x).bind fun i=>.ok (some i)
def qy(x:Str)(lo hi:Option Int):Str:=⟨(oX x.cps.toList lo hi).toArray⟩
def DN(x:D)(lo hi:Option Int):Rs D:=match x with
 | .lst ds=>.ok (.lst (oX ds lo hi))
 | .str z=>aU (z.length≤16777216) (.ok (.str (qy z lo hi)))
 | _=>.no
def gR(f:D→Option Int→Option Int→Rs D)(a:E)(lo hi:Option E):E:=fun e=>(a e).bind fun x=>(my lo e).bind fun l=>(my hi e).bind fun h=>f x l h
def cB(a:E):C:=fun e=>(a e).bind Xh
def fU(a b:C):C:=fun e=>(a e).bind fun c=>if c=true then b e else .ok false
def Ea(a b:C):C:=fun e=>(a e).bind fun c=>if c=true then .ok true else b e
def pL(a:C):C:=fun e=>(a e).bind fun c=>.ok (!c)
def aaz:D→Rs Bool
 | .non=>.ok false
 | .bl b=>.ok b
 | .int i=>.ok (i != 0)
 | .str y=>aU (y.length≤16777216) (.ok ((y.length:Int) != 0))
 | .lst ds=>.ok (!ds.isEmpty)
 | .tup ds=>.ok (!ds.isEmpty)
def Nh(a:E):C:=fun e=>(a e).bind aaz
abbrev I:=Env→Rs (List D)
def Jl:D→Rs (List D)
 | .lst ds=>.ok ds
 | .tup ds=>.ok ds
 | .str x=>.ok (x.cps.toList.map fun c=>.str ⟨#[c]⟩)
 | _=>.no
def ie(a:E):I:=fun e=>(a e).bind Jl
def bQ(lo hi:Int):List D:=(List.range (hi - lo).toNat).map fun k=>.int (lo+(k:Nat))
def okR(i:Int):Prop:=-(2 ^ 62)≤i∧i < 2 ^ 62
instance (i:Int):Decidable (okR i):=inferInstanceAs (Decidable (_∧_))
def bV(a:E):I:=fun e=>(a e).bind fun x=>(XC x).bind fun j=>aU (okR j) (.ok (bQ 0 j))
def rE(k:Nat):List D→List D
 | []=>[]
 | d::r=>.tup [.int k,d]::rE (k+1) r
def Ay:D→Rs (List D)
 | .lst ds=>.ok ds
 | _=>.no
inductive Tg where
 | n (i:Nat)|t (is:List Nat)
def uM:List Nat→List D→Env→Rs Env
 | [],[],e=>.ok e
 | i::is,d::ds,e=>uM is ds (e.set i (some (.d d)))
 | _,_,_=>.no
def Tg.put:Tg→D→Env→Rs Env
 | .n i,d,e=>.ok (e.set i (some (.d d)))
 | .t is,.tup ds,e=>uM is ds e
 | _,_,_=>.no
def rm(ρ : List (Option Nat))(e:Env):Env:=ρ.map fun o=>o.bind fun j=>(e[j]?).join
def dJ(tg:Tg)(c:C)(a:E)(e:Env):List D→Rs (List D)
 | []=>.ok []
 | x::r=>(tg.put x e).bind fun e1=>(c e1).bind fun k=>if k=true then (a e1).bind fun y=>(dJ tg c a e r).bind fun ys=>.ok (y::ys) else dJ tg c a e r
def gU:C:=fun _=>.ok true
def bN(ρ : List (Option Nat))(it:I)(tg:Tg)(c:C)(a:E):E:=fun e=>(it e).bind fun xs=>aU (xs.length≤16777216) ((dJ tg c a (rm ρ e) xs).bind fun ys=>.ok (.lst ys))
abbrev Fn:=List W→Rs W
abbrev EW:=Env→Rs W
def wD(a:E):EW:=fun e=>(a e).bind fun x=>.ok (.d x)
def wV(i:Nat):EW:=fun e=>match e[i]? with
 | some (some w)=>.ok w
 | _=>.no
def dR:List EW→Env→Rs (List W)
 | [],_=>.ok []
 | a::r,e=>(a e).bind fun x=>(dR r e).bind fun xs=>.ok (x::xs)
def vJ(f:Fn)(as:List EW):EW:=fun e=>(dR as e).bind f
def Z6:W→Rs D
 | .d x=>.ok x
 | _=>.no
def bf(f:Fn)(as:List EW):E:=fun e=>(vJ f as e).bind Z6
inductive Out where
 | nx (e:Env)|rt (w:W)|bk (e:Env)|ct (e:Env)
abbrev S:=Env→Rs Out
def bT:S:=fun e=>.ok (.nx e)
def aY(s t:S):S:=fun e=>(s e).bind fun o=>match o with
 | .nx e'=>t e'
 | o=>.ok o
def UT(i:Nat)(a:EW):S:=fun e=>(a e).bind fun w=>.ok (.nx (e.set i (some w)))
def bw(i:Nat)(a:E):S:=fun e=>(a e).bind fun d=>.ok (.nx (e.set i (some (.d d))))
def Yb(tg:Tg)(a:E):S:=fun e=>(a e).bind fun d=>(tg.put d e).bind fun e'=>.ok (.nx e')
def Fi(a:E):S:=fun e=>(a e).bind fun _=>.ok (.nx e)
def fc(a:EW):S:=fun e=>(a e).bind fun w=>.ok (.rt w)
def jP(c:C)(s t:S):S:=fun e=>(c e).bind fun k=>if k=true then s e else t e
def CK:S:=fun _=>.no
def qw(tg:Tg)(body:S):List D→Env→Rs Out
 | [],e=>.ok (.nx e)
 | x::r,e=>(tg.put x e).bind fun e1=>(body e1).bind fun o=>match o with
  | .nx e2=>qw tg body r e2
  | .ct e2=>qw tg body r e2
  | .bk e2=>.ok (.nx e2)
  | .rt w=>.ok (.rt w)
def eG(it:I)(tg:Tg)(body:S):S:=fun e=>(it e).bind fun xs=>qw tg body xs e
def getL(e:Env)(i:Nat):Rs (List D):=match e[i]? with
 | some (some (.d (.lst ds)))=>.ok ds
 | _=>.no
def putL(e:Env)(i:Nat)(ds:List D):Env:=e.set i (some (.d (.lst ds)))
def bJ(i:Nat)(a:E):S:=fun e=>(a e).bind fun d=>(getL e i).bind fun ds=>aU (ds.length < 16777216) (.ok (.nx (putL e i (ds++[d]))))
def n6(i:Nat)(a:E):S:=fun e=>(a e).bind fun d=>(getL e i).bind fun ds=>match d with
 | .lst xs=>aU (ds.length+xs.length≤16777216) (.ok (.nx (putL e i (ds++xs))))
 | _=>.no
def JX(ds:List D)(i:Int):Rs (D×List D):=aU (-(2 ^ 63)≤i∧i < 2 ^ 63) ((pJ (zE ds.length i)).bind fun k=>(pJ ds[k]?).bind fun d=>.ok (d,ds.eraseIdx k))
def oh(x y:Nat)(k:E):S:=fun e=>(k e).bind fun z=>(XC z).bind fun i=>(getL e y).bind fun ds=>(JX ds i).bind fun p=>(getL (putL e y p.2) x).bind fun es =>
 aU (es.length < 16777216) (.ok (.nx (putL (putL e y p.2) x (es++[p.1]))))
def uU(x:Nat)(k a:E):S:=fun e=>(a e).bind fun d=>(k e).bind fun z=>(XC z).bind fun i=>(getL e x).bind fun ds=>(pJ (zE ds.length i)).bind fun j=>.ok (.nx (putL e x (ds.set j d)))
def MT:D→Option Ky
 | .int i=>some (.inl i)
 | .str x=>some (.inr x)
 | _=>none
def yL:List D→Option (List Ky)
 | []=>some []
 | d::r=>match MT d,yL r with
  | some k,some ks=>some (k::ks)
  | _,_=>none
def wG{κ : Type}[DecidableEq κ](kvs:List (κ×D))(k:κ):Option D:=(kvs.find? fun kv=>decide (kv.1=k)).map (·.2)
def Zh(w:W)(k:D):Rs (Option D):=match w with
 | .dk kvs=>(pJ (MT k)).bind fun k=>.ok (wG kvs k)
 | .dt kvs=>match k with
  | .tup ds=>(pJ (yL ds)).bind fun k=>.ok (wG kvs k)
  | _=>.no
 | .df kvs=>match k with
  | .tup ds=>(pJ (yL ds)).bind fun k=>.ok (wG kvs k)
  | _=>.no
 | _=>.no
def putK{κ : Type}[DecidableEq κ](k:κ)(v:D)(kvs:List (κ×D)):List (κ×D) :=
 if (kvs.any fun kv=>decide (kv.1=k))=true then kvs.map (fun kv=>if kv.1=k then (kv.1,v) else kv) else kvs++[(k,v)]
def Zg(w:W)(k v:D):Rs W:=match w with
 | .dk kvs=>aU (kvs.length < 16777216) ((pJ (MT k)).bind fun k=>.ok (.dk (putK k v kvs)))
 | .dt kvs=>match k with
  | .tup ds=>aU (kvs.length < 16777216) ((pJ (yL ds)).bind fun k=>.ok (.dt (putK k v kvs)))
  | _=>.no
 | _=>.no
def rB(i:Nat)(k:E):E:=fun e=>(k e).bind fun d=>(wV i e).bind fun w=>(Zh w d).bind pJ
def tQ(i:Nat)(k v:E):S:=fun e=>(v e).bind fun x=>(k e).bind fun d=>(wV i e).bind fun w=>(Zg w d x).bind fun w'=>.ok (.nx (e.set i (some w')))
def yH:Out→Rs W
 | .rt w=>.ok w
 | .nx _=>.ok (.d .non)
 | _=>.no
def yI(k n:Nat)(body:S):Fn:=fun ws=>aU (ws.length=k) ((body (ws.map some++List.replicate (n - ws.length) none)).bind yH)
def mQ:Out→Rs W
 | .rt w=>.ok w
 | _=>.no
def Gq(k n:Nat)(body:S):Fn:=fun ws=>aU (ws.length=k) ((body (ws.map some++List.replicate (n - ws.length) none)).bind mQ)
def rn(i j:Int):Prop:=(-(2 ^ 64) < i∧i < 2 ^ 64)∨(-(2 ^ 64) < j∧j < 2 ^ 64)
instance (i j:Int):Decidable (rn i j):=inferInstanceAs (Decidable (_∨_))
def rA(j:Int):Prop:=0 < j∧j.natAbs.log2 < 9000
instance (j:Int):Decidable (rA j):=inferInstanceAs (Decidable (_∧_))
def Ve(i j:Int):Prop:=0≤j∧j≤1000000∧i.natAbs < 2 ^ 64
instance (i j:Int):Decidable (Ve i j):=inferInstanceAs (Decidable (_∧_))
def bz:D→D→Rs D
 | .int i,.int j=>.ok (.int (i+j))
 | .str i,.str j=>aU (i.length+j.length≤16777216) (.ok (.str (i++j)))
 | .lst i,.lst j=>aU (i.length+j.length≤16777216) (.ok (.lst (i++j)))
 | _,_=>.no
def qx:D→D→Rs D
 | .int i,.int j=>.ok (.int (i - j))
 | _,_=>.no
def dCat:D→D→Rs D
 | .lst i,.lst j=>aU (i.length+j.length≤16777216) (.ok (.lst (i++j)))
 | _,_=>.no
def cD:D→D→Rs D
 | .int i,.int j=>aU (rn i j) (.ok (.int (i * j)))
 | _,_=>.no
def W6:D→D→Rs D
 | .lst ds,.int k=>aU (-(2 ^ 63)≤k∧k < 2 ^ 63∧ds.length * k.toNat≤16777216) (.ok (.lst (List.replicate k.toNat ds).flatten))
 | _,_=>.no
def eE:D→D→Rs D
 | .int i,.int j=>aU (rA j) (.ok (.int (i / j)))
 | _,_=>.no
def cu:D→D→Rs D
 | .int i,.int j=>aU (0 < j) (.ok (.int (i % j)))
 | _,_=>.no
def Ax:D→D→Rs D
 | .int i,.int j=>.ok (.bl (decide (i < j)))
 | .str i,.str j=>.ok (.bl (decide (i.cps.toList < j.cps.toList)))
 | _,_=>.no
def KN:D→D→Rs D
 | .int i,.int j=>.ok (.bl (decide (j < i)))
 | .str i,.str j=>.ok (.bl (decide (j.cps.toList < i.cps.toList)))
 | _,_=>.no
def Xy:D→D→Rs D
 | .int i,.int j=>.ok (.bl (decide (i≤j)))
 | _,_=>.no
def iV(x y:D):Rs D:=aU (x.dep≤16) (.ok (.bl (cU x y)))
def vZ(x y:D):Rs D:=aU (x.dep≤16) (.ok (.bl (!cU x y)))
def kO(x y:D):Rs D:=match y with
 | .lst ds=>aU (cQ ds≤16) (.ok (.bl (ds.any fun e=>cU e x)))
 | .tup ds=>aU (cQ ds≤16) (.ok (.bl (ds.any fun e=>cU e x)))
 | .str z=>match x with
  | .str s=>aU (s.length=1) (.ok (.bl (decide (s.cps.getD 0 0∈z.cps.toList))))
  | _=>.no
 | _=>.no
def dF(x y:D):Rs D:=match y with
 | .lst ds=>aU (cQ ds≤16) (.ok (.bl (!ds.any fun e=>cU e x)))
 | .tup ds=>aU (cQ ds≤16) (.ok (.bl (!ds.any fun e=>cU e x)))
 | _=>.no
def bH(x y:D):Rs D:=match x,y with
 | .lst ds,.int i=>pJ (sX ds i)
 | .tup ds,.int i=>pJ (sX ds i)
 | .str z,.int i=>aU (z.length≤16777216) ((pJ (sX z.cps.toList i)).bind fun c=>.ok (.str ⟨#[c]⟩))
 | _,_=>.no
def fV:List D→Rs D
 | [.lst ds]=>.ok (.int ds.length)
 | [.tup ds]=>.ok (.int ds.length)
 | [.str z]=>aU (z.length≤16777216) (.ok (.int z.length))
 | _=>.no
def nQ:List D→Rs D
 | [.int i,.int j]=>.ok (.int (max i j))
 | _=>.no
def wL:List D→Rs D
 | [.int i,.int j]=>.ok (.int (min i j))
 | _=>.no
def Rn:List D→Option (List Bool)
 | []=>some []
 | .bl b::r=>(Rn r).map (b :: ·)
 | _=>none
def Xd:List D→Rs D
 | [.lst ds]=>(pJ (Rn ds)).bind fun bs=>.ok (.bl (bs.all id))
 | _=>.no
def pH:List D→Rs D
 | [.lst ds]=>.ok (.lst ds)
 | [.tup ds]=>.ok (.lst ds)
 | _=>.no
def sJ:List D→Rs D
 | [.lst ds]=>.ok (.tup ds)
 | [.tup ds]=>.ok (.tup ds)
 | _=>.no
def Ni:List D→Rs D
 | [.int i]=>.ok (.int i)
 | [.bl k]=>.ok (.int (if k then 1 else 0))
 | _=>.no
def Tj(t:String):D→Bool
 | .non=>false
 | .bl _=>t == "bool" || t == "int"
 | .int _=>t == "int"
 | .str _=>t == "str"
 | .lst _=>t == "list"
 | .tup _=>t == "tuple"
def NZ:D→String
 | .non => "NoneType" | .bl _ => "bool" | .int _ => "int" | .str _ => "str" | .lst _ => "list" | .tup _ => "tuple"
def Xc(ts:List String)(x:D):Rs D:=.ok (.bl (ts.any fun t=>Tj t x))
def nR:List D→Option (List Str)
 | []=>some []
 | .str b::r=>(nR r).map (b :: ·)
 | _=>none
def KJ(x y:D):Rs D:=match x,y with
 | .str sep,.lst ds=>(pJ (nR ds)).bind fun ys=>aU ((ys.map (·.length)).sum+ys.length * sep.length≤16777216) (.ok (.str (Str.join sep ys)))
 | _,_=>.no
def met(val:Nat→Str):Nat→List Str
 | 0=>[]
 | i+1=>if val i∈met val i then met val i else met val i++[val i]
def oM(ys:List Str):Nat:=(met (fun i=>ys.getD i Str.empty) ys.length).length
def DR:D→Rs D
 | .lst ds=>(pJ (nR ds)).bind fun ys=>aU (ys.length+1 < 4096) (.ok (.int (oM ys)))
 | _=>.no
end Mi
namespace L2
open PySem PySem.Spec PyProof.Rows
open Mi (D cQ cU dY)
mutual
theorem uX:∀ d:D,cU d d=true
 | .non=>rfl
 | .bl b=>by simp[cU]
 | .int i=>by simp[cU]
 | .str x=>by simp[cU]
 | .lst ds=>by rw[cU];exact rU ds
 | .tup ds=>by rw[cU];exact rU ds
theorem rU:∀ ds:List D,dY ds ds=true
 | []=>rfl
 | d::r=>by rw[dY,uX d,rU r];rfl
end
theorem nu:∀ {ds es:List D},ds.length≠es.length→dY ds es=false
 | [],[],h=>absurd rfl h
 | [],_::_,_=>rfl
 | _::_,[],_=>rfl
 | d::r,e::s,h=>by rw[dY,nu (fun z=>h (by rw[List.length_cons,List.length_cons,z])),Bool.and_false]
theorem nA:∀ {ds es:List D},ds.length=es.length→dY ds es=(List.range ds.length).all fun j=>cU (ds.getD j .non) (es.getD j .non)
 | [],[],_=>rfl
 | [],_::_,h=>by simp at h
 | _::_,[],h=>by simp at h
 | d::r,e::s,h=>by
  rw[dY,nA (by simpa using h),List.length_cons,List.range_succ_eq_map,List.all_cons,List.all_map]
  rfl
mutual
/-- the value v in the heap H is the tree d -/
def Rep(K:PySem.W.Frag)(H:Hp):D→V→Prop
 | .non,v=>v=.non
 | .bl b,v=>v=.bl b
 | .int i,v=>v=.int i
 | .str x,v=>v=.str x
 | .lst ds,v=>∃ a xs,v=.ref a∧wM K H a xs∧cR K H ds xs
 | .tup ds,v=>∃ a xs,v=.ref a∧zF K H a xs∧cR K H ds xs
def cR(K:PySem.W.Frag)(H:Hp):List D→List V→Prop
 | [],vs=>vs=[]
 | d::ds,vs=>∃ v r,vs=v::r∧Rep K H d v∧cR K H ds r
end
theorem cR.length{K:PySem.W.Frag}{H:Hp}:∀ {ds:List D} {vs:List V},cR K H ds vs→ds.length=vs.length
 | [],vs,h=>by rw[cR] at h;subst h;rfl
 | d::ds,vs,h=>by
  rw[cR] at h
  obtain⟨v,r,rfl,_,q⟩:=h
  rw[List.length_cons,List.length_cons,cR.length q]
theorem cR.get{K:PySem.W.Frag}{H:Hp}:∀ {ds:List D} {vs:List V} {j:Nat} {v:V},cR K H ds vs→vs[j]? = some v→Rep K H (ds.getD j .non) v
 | [],vs,j,v,h,e=>by rw[cR] at h;subst h;simp at e
 | d::ds,vs,0,v,h,e=>by
  rw[cR] at h
  obtain⟨v',r,rfl,p,q⟩:=h
  simp at e;subst e;exact p
 | d::ds,vs,j+1,v,h,e=>by
  rw[cR] at h
  obtain⟨v',r,rfl,p,q⟩:=h
  have:=cR.get (j:=j) (v:=v) q (by simpa using e)
  simpa using this
section
variable{X:Cx}{pins:List (Addr×Obj)}{σ : St}{H:Hp}{s:Shared}
theorem Inv.Gg(I:Inv X pins σ H s){a:Addr}{xs ys:List V}(h:wM X.K H a xs)(h':zF X.K H a ys):False:=by
 obtain⟨its,_,p,_⟩:=I.list h
 obtain⟨its',_,q,_⟩:=I.tuple h'
 obtain⟨o,n,e,c,_⟩:=p
 obtain⟨o',e',c',_⟩:=q
 rw[e] at e';cases e'
 rw[c] at c'
 exact absurd (Value.type.inj c') (by decide)
mutual
theorem Rep.inj(I:Inv X pins σ H s):∀ {d e:D} {v:V},Rep X.K H d v→Rep X.K H e v→d=e
 | .non,e,v,h,h'=>by
  rw[Rep] at h;subst h
  cases e<;>rw[Rep] at h'<;>first|rfl|(obtain⟨_,_,z,_⟩:=h';cases z)|cases h'
 | .bl b,e,v,h,h'=>by
  rw[Rep] at h;subst h
  cases e<;>rw[Rep] at h'<;>first|(obtain⟨_,_,z,_⟩:=h';cases z)|(cases h';rfl)|cases h'
 | .int b,e,v,h,h'=>by
  rw[Rep] at h;subst h
  cases e<;>rw[Rep] at h'<;>first|(obtain⟨_,_,z,_⟩:=h';cases z)|(cases h';rfl)|cases h'
 | .str b,e,v,h,h'=>by
  rw[Rep] at h;subst h
  cases e<;>rw[Rep] at h'<;>first|(obtain⟨_,_,z,_⟩:=h';cases z)|(cases h';rfl)|cases h'
 | .lst ds,e,v,h,h'=>by
  rw[Rep] at h
  obtain⟨a,xs,rfl,q,r⟩:=h
  cases e with
  | lst es =>
   rw[Rep] at h'
   obtain⟨a',xs',z,q',r'⟩:=h'
   cases z
   rw[I.yt q' q] at r'
   rw[cR.inj I r r']
  | tup es =>
   rw[Rep] at h'
   obtain⟨a',xs',z,q',r'⟩:=h'
   cases z
   exact(I.Gg q q').elim
  | _=>rw[Rep] at h';cases h'
 | .tup ds,e,v,h,h'=>by
  rw[Rep] at h
  obtain⟨a,xs,rfl,q,r⟩:=h
  cases e with
  | tup es =>
   rw[Rep] at h'
   obtain⟨a',xs',z,q',r'⟩:=h'
   cases z
   rw[I.uJ q' q] at r'
   rw[cR.inj I r r']
  | lst es =>
   rw[Rep] at h'
   obtain⟨a',xs',z,q',r'⟩:=h'
   cases z
   exact(I.Gg q' q).elim
  | _=>rw[Rep] at h';cases h'
theorem cR.inj(I:Inv X pins σ H s):∀ {ds es:List D} {vs:List V},cR X.K H ds vs→cR X.K H es vs→ds=es
 | [],es,vs,h,h'=>by
  rw[cR] at h;subst h
  cases es with
  | nil=>rfl
  | cons e es=>rw[cR] at h';obtain⟨_,_,z,_⟩:=h';cases z
 | d::ds,es,vs,h,h'=>by
  rw[cR] at h
  obtain⟨v,r,rfl,p,q⟩:=h
  cases es with
  | nil=>rw[cR] at h';cases h'
  | cons e es =>
   rw[cR] at h'
   obtain⟨v',r',z,p',q'⟩:=h'
   cases z
   rw[Rep.inj I p p',cR.inj I q q']
end
theorem vo:∀ {ds:List D} {j:Nat},(ds.getD j .non).dep≤cQ ds
 | [],j=>by simp[D.dep]
 | d::ds,0=>by simp[cQ];omega
 | d::ds,j+1=>by
  have:=vo (ds:=ds) (j:=j)
  have e:(d::ds).getD (j+1) .non=ds.getD j .non:=by simp
  rw[e,cQ];omega
def _root_.Mi.D.flat:D→Bool
 | .lst _=>false
 | .tup _=>false
 | _=>true
def _root_.Mi.D.toV:D→V
 | .non=>.non|.bl b=>.bl b|.int i=>.int i|.str x=>.str x|.lst _=>.non|.tup _=>.non
theorem Rep.flat{K:PySem.W.Frag}:∀ {d:D} {v:V},d.flat=true→Rep K H d v→v=d.toV∧Qz v=true
 | .non,v,_,h=>by rw[Rep] at h;subst h;exact⟨rfl,rfl⟩
 | .bl b,v,_,h=>by rw[Rep] at h;subst h;exact⟨rfl,rfl⟩
 | .int b,v,_,h=>by rw[Rep] at h;subst h;exact⟨rfl,rfl⟩
 | .str b,v,_,h=>by rw[Rep] at h;subst h;exact⟨rfl,rfl⟩
 | .lst _,v,z,h=>by cases z
 | .tup _,v,z,h=>by cases z
theorem Lq:∀ {d e:D},d.flat=true→e.flat=true→cU d e=eqV d.toV e.toV:=by
 intro d e h1 h2
 cases d<;>cases e<;>first|rfl|exact absurd (show false=true from h1) Bool.false_ne_true|exact absurd (show false=true from h2) Bool.false_ne_true
open SeqAt in
theorem QD(I:Inv X pins σ H s):∀ (n:Nat) (d e:D) (A:Around) {x y:V} {u u':Value},d.dep≤n→A.units+n < cLine→Rep X.K H d x→Rep X.K H e y→RelV x u→RelV y u'→EqAt A s u u' (cU d e):=by
 intro n
 induction n using Nat.strongRecOn with
 | ind n ih =>
  intro d e A x y u u' hd hu h h' r r'
  have hu0:A.units < cLine:=by omega
  by_cases hdf:d.flat=true
  ·obtain⟨ex,fx⟩:=h.flat hdf
   subst ex
   by_cases hef:e.flat=true
   ·obtain⟨ey,fy⟩:=h'.flat hef
    subst ey
    rw[Lq hdf hef]
    exact WY r r' fx fy
   ·cases e with
    | lst es =>
     rw[Rep] at h'
     obtain⟨a,xs,rfl,q,_⟩:=h'
     cases r'
     obtain⟨its,_,p,_⟩:=I.list q
     cases d with
     | non=>cases r;exact EqAt.none_list p.isList hu0
     | bl b=>cases r;exact EqAt.bool_list b p.isList hu0
     | int b=>obtain⟨t,rfl⟩:=r;exact EqAt.int_list b t p.isList hu0
     | str b=>obtain⟨t,rfl⟩:=r;exact EqAt.str_list b t p.isList hu0
     | _=>cases hdf
    | tup es =>
     rw[Rep] at h'
     obtain⟨a,xs,rfl,q,_⟩:=h'
     cases r'
     obtain⟨its,_,p,_⟩:=I.tuple q
     cases d with
     | non=>cases r;exact EqAt.none_tuple p hu0
     | bl b=>cases r;exact EqAt.bool_tuple b p hu0
     | int b=>obtain⟨t,rfl⟩:=r;exact EqAt.int_tuple b t p hu0
     | str b=>obtain⟨t,rfl⟩:=r;exact EqAt.str_tuple b t p hu0
     | _=>cases hdf
    | _=>exact absurd rfl hef
  ·by_cases hef:e.flat=true
   ·obtain⟨ey,fy⟩:=h'.flat hef
    subst ey
    cases d with
    | lst ds =>
     rw[Rep] at h
     obtain⟨a,xs,rfl,q,_⟩:=h
     cases r
     obtain⟨its,_,p,_⟩:=I.list q
     cases e with
     | non=>cases r';exact EqAt.list_none p.isList hu0
     | bl b=>cases r';exact EqAt.list_bool b p.isList hu0
     | int b=>obtain⟨t,rfl⟩:=r';exact EqAt.list_int b t p.isList hu0
     | str b=>obtain⟨t,rfl⟩:=r';exact EqAt.list_str b t p.isList hu0
     | _=>cases hef
    | tup ds =>
     rw[Rep] at h
     obtain⟨a,xs,rfl,q,_⟩:=h
     cases r
     obtain⟨its,_,p,_⟩:=I.tuple q
     cases e with
     | non=>cases r';exact EqAt.tuple_none p hu0
     | bl b=>cases r';exact EqAt.tuple_bool b p hu0
     | int b=>obtain⟨t,rfl⟩:=r';exact EqAt.tuple_int b t p hu0
     | str b=>obtain⟨t,rfl⟩:=r';exact EqAt.tuple_str b t p hu0
     | _=>cases hef
    | _=>exact absurd rfl hdf
   ·-- both are lists or tuples
    have item:∀ {ds es:List D} {xs ys:List V} {its its':List Value},cQ ds+1≤n→cR X.K H ds xs→cR X.K H es ys→Vals xs its→Vals ys its' →
     ∀ j (h1:j < its.toArray.size) (h2:j < its'.toArray.size),EqAt A.in1 s its.toArray[j] its'.toArray[j] (cU (ds.getD j .non) (es.getD j .non)):=by
     intro ds es xs ys its its' hn q q' v v' j h1 h2
     have h1':j < its.length:=by simpa using h1
     have h2':j < its'.length:=by simpa using h2
     have e1:j < xs.length:=by rw[v.length];exact h1'
     have e2:j < ys.length:=by rw[v'.length];exact h2'
     have g1:xs[j]? = some xs[j]:=by simp[e1]
     have g2:ys[j]? = some ys[j]:=by simp[e2]
     obtain⟨w1,k1,r1⟩:=v.get g1
     obtain⟨w2,k2,r2⟩:=v'.get g2
     have t1:its.toArray[j]=w1:=by obtain⟨_,k1⟩:=List.getElem?_eq_some_iff.mp k1;simpa using k1
     have t2:its'.toArray[j]=w2:=by obtain⟨_,k2⟩:=List.getElem?_eq_some_iff.mp k2;simpa using k2
     rw[t1,t2]
     have:=vo (ds:=ds) (j:=j)
     refine ih (n - 1) (by omega) _ _ A.in1 (by omega) ?_ (q.get g1) (q'.get g2) r1 r2
     show A.units+1+(n - 1) < cLine
     omega
    cases d with
    | lst ds =>
     rw[Rep] at h
     obtain⟨a,xs,rfl,q,rr⟩:=h
     cases r
     obtain⟨its,v,p,_⟩:=I.list q
     have hn:cQ ds+1≤n:=by simpa [D.dep] using hd
     cases e with
     | lst es =>
      rw[Rep] at h'
      obtain⟨b,ys,rfl,q',rr'⟩:=h'
      cases r'
      obtain⟨its',v',p',_⟩:=I.list q'
      by_cases hab:a=b
      ·subst hab
       rw[I.yt q' q] at rr'
       rw[cR.inj I rr rr',uX]
       exact EqAt.same _
      ·have l1:=rr.length
       have l2:=rr'.length
       have l3:=v.length
       have l4:=v'.length
       by_cases hl:ds.length=es.length
       ·rw[cU,nA hl]
        have:=RcAt.lists p.isList p'.isList (by simp;omega) hu0 (item hn rr rr' v v')
        have e:its.toArray.size=ds.length:=by simp;omega
        rw[e] at this
        exact .of_refs hab this
       ·rw[cU,nu hl]
        exact .of_refs hab (RcAt.lists_lengths p.isList p'.isList (by simp;omega) hu0)
     | tup es =>
      rw[Rep] at h'
      obtain⟨b,ys,rfl,q',_⟩:=h'
      cases r'
      obtain⟨its',_,p',_⟩:=I.tuple q'
      exact EqAt.list_tuple p.isList p' hu0
     | _=>exact absurd rfl hef
    | tup ds =>
     rw[Rep] at h
     obtain⟨a,xs,rfl,q,rr⟩:=h
     cases r
     obtain⟨its,v,p,_⟩:=I.tuple q
     have hn:cQ ds+1≤n:=by simpa [D.dep] using hd
     cases e with
     | tup es =>
      rw[Rep] at h'
      obtain⟨b,ys,rfl,q',rr'⟩:=h'
      cases r'
      obtain⟨its',v',p',_⟩:=I.tuple q'
      by_cases hab:a=b
      ·subst hab
       rw[I.uJ q' q] at rr'
       rw[cR.inj I rr rr',uX]
       exact EqAt.same _
      ·have l1:=rr.length
       have l2:=rr'.length
       have l3:=v.length
       have l4:=v'.length
       have R:=RcAt.tuples p p' hu0 (item hn rr rr' v v')
       have e1:its.toArray.size=ds.length:=by simp;omega
       have e2:its'.toArray.size=es.length:=by simp;omega
       rw[e1,e2] at R
       by_cases hl:ds.length=es.length
       ·rw[cU,nA hl]
        rw[hl,Nat.min_self,beq_self_eq_true,Bool.and_true,← hl] at R
        exact .of_refs hab R
       ·rw[cU,nu hl]
        have:(ds.length == es.length)=false:=by simpa using hl
        rw[this,Bool.and_false] at R
        exact .of_refs hab R
     | lst es =>
      rw[Rep] at h'
      obtain⟨b,ys,rfl,q',_⟩:=h'
      cases r'
      obtain⟨its',_,p',_⟩:=I.list q'
      exact EqAt.tuple_list p p'.isList hu0
     | _=>exact absurd rfl hef
    | _=>exact absurd rfl hdf
def R4(K:PySem.W.Frag)(neg:Bool):R2:=fun x y H Q=>∃ (p:Addr) (xs:List V) (d:D) (ds:List D),y=.ref p∧(wM K H p xs∨zF K H p xs)∧Rep K H d x∧cR K H ds xs∧cQ ds≤16 ∧
 Q (.bl (if neg then !ds.any (fun e=>cU e d) else ds.any (fun e=>cU e d))) H
theorem cR.main{K:PySem.W.Frag}:∀ {ds:List D} {xs:List V} {us:List Value},cR K H ds xs→Vals xs us→∀ u∈us,∃ b∈ds,∃ y,Rep K H b y∧RelV y u
 | [],xs,us,hr,hv,u,hu=>by
  rw[cR] at hr;subst hr;cases hv;cases hu
 | b::bs,xs,us,hr,hv,u,hu=>by
  rw[cR] at hr
  obtain⟨y,r,rfl,p,q⟩:=hr
  cases hv with
  | cons ry t =>
   rcases List.mem_cons.mp hu with rfl|hu
   ·exact⟨b,List.mem_cons_self,_,p,ry⟩
   ·obtain⟨b',hb',w⟩:=cR.main q t u hu
    exact⟨b',List.mem_cons_of_mem _ hb',w⟩
theorem cR.any{K:PySem.W.Frag}{e:Value→Bool}{f:D→Bool}(key:∀ b y u,Rep K H b y→RelV y u→e u=f b):∀ {ds:List D} {xs:List V} {us:List Value},cR K H ds xs→Vals xs us→us.any e=ds.any f
 | [],xs,us,hr,hv=>by
  rw[cR] at hr;subst hr;cases hv;rfl
 | b::bs,xs,us,hr,hv=>by
  rw[cR] at hr
  obtain⟨y,r,rfl,p,q⟩:=hr
  cases hv with
  | cons ry t=>rw[List.any_cons,List.any_cons,key b y _ p ry,cR.any key q t]
theorem Kz:∀ {ds:List D} {b:D},b∈ds→b.dep≤cQ ds
 | d::ds,b,h=>by
  rw[cQ]
  rcases List.mem_cons.mp h with rfl|h
  ·omega
  ·have:=Kz h;omega
open Classical in
theorem wQ(I:Inv X pins σ H s){A:Around}(hu:A.units+16 < cLine){d:D}{x:V}{v:Value}(hx:Rep X.K H d x)(rx:RelV x v){ds:List D}{xs:List V}{us:List Value}(hd:cQ ds≤16)(hr:cR X.K H ds xs)(hv:Vals xs us) :
 ∃ e:Value→Bool,(∀ u∈us,SeqAt.EqAt A s u v (e u))∧us.any e=ds.any (fun b=>cU b d):=by
 have key:∀ b y u,Rep X.K H b y→RelV y u→(fun u=>decide (∃ b y,Rep X.K H b y∧RelV y u∧cU b d=true)) u=cU b d:=by
  intro b y u hb hy
  cases hp:cU b d with
  | true=>exact decide_eq_true ⟨b,y,hb,hy,hp⟩
  | false =>
   refine decide_eq_false ?_
   rintro ⟨b',y',hb',hy',hp'⟩
   have:=hy.inj hy'
   subst this
   rw[Rep.inj I hb hb',hp'] at hp
   cases hp
 refine⟨fun u=>decide (∃ b y,Rep X.K H b y∧RelV y u∧cU b d=true),fun u hu'=>?_,cR.any key hr hv⟩
 obtain⟨b,hb,y,rb,ry⟩:=cR.main hr hv u hu'
 rw[key b y u rb ry]
 exact QD I 16 b d A (Nat.le_trans (Kz hb) hd) hu rb hx ry rx
theorem We(hu:X.A.units+64 < cLine):qD X (compareOp .In) (R4 X.K false):=by
 intro pins s σ H x y v u Q I rx ry h
 obtain⟨p,xs,d,ds,rfl,hq,hx,hr,hd,q⟩:=h
 cases ry
 have hu1:X.A.in1.units+16 < cLine:=by show X.A.units+1+16 < cLine;omega
 rcases hq with hq|hq
 ·obtain⟨its,r,pl,hz⟩:=I.list hq
  obtain⟨e,he,ea⟩:=wQ I hu1 hx rx hd hr r
  refine SeqAt.in_listAt e pl.isList (fun w hw=>he w (by simpa using hw)) ⟨.bl _,H,I,rfl,?_⟩
  rw[show its.toArray.any e=its.any e by simp,ea]
  exact q
 ·obtain⟨its,r,pl,hz⟩:=I.tuple hq
  obtain⟨e,he,ea⟩:=wQ I hu1 hx rx hd hr r
  refine SeqAt.in_tupleAt e pl (fun w hw=>he w (by simpa using hw)) ⟨.bl _,H,I,rfl,?_⟩
  rw[show its.toArray.any e=its.any e by simp,ea]
  exact q
theorem jQ(hu:X.A.units+64 < cLine):qD X (compareOp .NotIn) (R4 X.K true):=by
 intro pins s σ H x y v u Q I rx ry h
 obtain⟨p,xs,d,ds,rfl,hq,hx,hr,hd,q⟩:=h
 cases ry
 have hu1:X.A.in1.units+16 < cLine:=by show X.A.units+1+16 < cLine;omega
 rcases hq with hq|hq
 ·obtain⟨its,r,pl,hz⟩:=I.list hq
  obtain⟨e,he,ea⟩:=wQ I hu1 hx rx hd hr r
  refine SeqAt.notIn_listAt e pl.isList (fun w hw=>he w (by simpa using hw)) ⟨.bl _,H,I,rfl,?_⟩
  rw[show its.toArray.any e=its.any e by simp,ea]
  exact q
 ·obtain⟨its,r,pl,hz⟩:=I.tuple hq
  obtain⟨e,he,ea⟩:=wQ I hu1 hx rx hd hr r
  refine SeqAt.notIn_tupleAt e pl (fun w hw=>he w (by simpa using hw)) ⟨.bl _,H,I,rfl,?_⟩
  rw[show its.toArray.any e=its.any e by simp,ea]
  exact q
end
end L2
namespace L2
open PySem PySem.Spec PyProof.Rows
theorem tO{H:Hp}{p:Addr}{o:HO}(hp:H p=none):iM H (upd H p o):=fun b u e=>by rw[aN (bc e hp)];exact e
theorem xG:∀ {ys:List Str} {us:List Value},Vals (ys.map V.str) us→StrsAre us ys
 | [],_,.nil=>.nil
 | y::ys,_,.cons r t=>by
  obtain⟨tk,rfl⟩:=(show ∃ tk,_=Value.str y tk from r)
  exact .cons y tk (xG t)
section
variable{X:Cx}
def rJoin(K:PySem.W.Frag):V→List V→Hp→VK→Prop:=fun x vs H Q=>∃ (sep:Str) (p:Addr) (ys:List Str),x=.str sep∧vs=[.ref p]∧wM K H p (ys.map V.str)∧(ys.map (·.length)).sum+ys.length * sep.length≤16777216∧Q (.str (Str.join sep ys)) H
theorem J8:Vt X "str.join" (rJoin X.K):=by
 intro pins s σ H x vs v us Q I rx rv h
 obtain⟨sep,p,ys,rfl,rfl,hq,hz,q⟩:=h
 obtain⟨t,rfl⟩:=rx
 obtain⟨u,rfl,ru⟩:=rv.one
 cases ru
 obtain⟨its,r,pl,_⟩:=I.list hq
 refine join_list pl.isList (by simpa using xG r) hz fun t' k=>⟨.str (Str.join sep ys),H,I.tok k,⟨t',?_⟩,q⟩
 show Value.str (Builtin.Str.glued sep ys) t'=_
 rw[StrLaws.glued_eq_join]
def Vx(i j:Int):Prop:=0 < j∧j.natAbs.log2 < 9000
theorem cC:qD X (binaryOp .FloorDiv) (rI Vx fun i j=>.int (i / j)):=ZW fun i j _ _ _ _ _ hc q=>by
 refine floordiv_int (by have:=hc.1;omega) ?_ (.inl (PyProof.noPylong_of_log2 hc.2))
 rw[Int.fdiv_eq_ediv_of_nonneg i (by have:=hc.1;omega)]
 exact q
theorem Ju(hc:X.calm=true):jq X (.builtin "max") (fun xs H Q=>∃ i j z,xs=[.int i,.int j]∧max i j=z∧Q (.int z) H):=by
 intro pins s σ H xs us Q I r ⟨i,j,z,e1,e2,q⟩
 subst e2
 refine Nb hc pins s σ H xs us Q I r ⟨i,j,e1,?_⟩
 rw[show (if j > i then j else i)=max i j by split<;>omega]
 exact q
theorem Jt(hc:X.calm=true):jq X (.builtin "min") (fun xs H Q=>∃ i j z,xs=[.int i,.int j]∧min i j=z∧Q (.int z) H):=by
 intro pins s σ H xs us Q I r ⟨i,j,z,e1,e2,q⟩
 subst e2
 refine M9 hc pins s σ H xs us Q I r ⟨i,j,e1,?_⟩
 rw[show (if j < i then j else i)=min i j by split<;>omega]
 exact q
end
end L2
namespace A
open PySem L2 PyProof.Rows
open Mi (D W Rs Fin au)
inductive P2{α β : Type}(F:α→β→Prop):List α→List β→Prop
 | nil:P2 F [] []
 | cons {a b l m}:F a b→P2 F l m→P2 F (a::l) (b::m)
section
variable{α β : Type}{F G:α→β→Prop}
theorem P2.imp(h:∀ a b,F a b→G a b):∀ {l m},P2 F l m→P2 G l m
 | _,_,.nil=>.nil
 | _,_,.cons x t=>.cons (h _ _ x) (t.imp h)
theorem P2.len:∀ {l m},P2 F l m→l.length=m.length
 | _,_,.nil=>rfl
 | _,_,.cons _ t=>by rw[List.length_cons,List.length_cons,t.len]
theorem P2.append:∀ {l m l' m'},P2 F l m→P2 F l' m'→P2 F (l++l') (m++m')
 | _,_,_,_,.nil,s=>s
 | _,_,_,_,.cons x t,s=>.cons x (t.append s)
theorem P2.get:∀ {l m} {i:Nat} {a b},P2 F l m→l[i]? = some a→m[i]? = some b→F a b
 | _,_,_,_,_,.nil,e,_=>by simp at e
 | _,_,0,_,_,.cons x _,e,e'=>by simp at e e';subst e e';exact x
 | _,_,i+1,a,b,.cons _ t,e,e'=>t.get (i:=i) (by simpa using e) (by simpa using e')
theorem P2.getL{l m}{i:Nat}{a}(t:P2 F l m)(e:l[i]? = some a):∃ b,m[i]? = some b∧F a b:=by
 have h:i < m.length:=by rw[← t.len];exact(List.getElem?_eq_some_iff.mp e).1
 exact⟨m[i],by simp[h],t.get e (by simp[h])⟩
theorem P2.aav{l m}{i:Nat}{b}(t:P2 F l m)(e:m[i]? = some b):∃ a,l[i]? = some a∧F a b:=by
 have h:i < l.length:=by rw[t.len];exact(List.getElem?_eq_some_iff.mp e).1
 exact⟨l[i],by simp[h],t.get (by simp[h]) e⟩
theorem P2.set{a b}(x:F a b):∀ {l m} (i:Nat),P2 F l m→P2 F (l.set i a) (m.set i b)
 | _,_,_,.nil=>.nil
 | _,_,0,.cons _ t=>.cons x t
 | _,_,i+1,.cons y t=>.cons y (t.set x i)
theorem P2.take:∀ {l m} (n:Nat),P2 F l m→P2 F (l.take n) (m.take n)
 | _,_,0,_=>.nil
 | _,_,_+1,.nil=>.nil
 | _,_,n+1,.cons x t=>.cons x (t.take n)
theorem P2.drop:∀ {l m} (n:Nat),P2 F l m→P2 F (l.drop n) (m.drop n)
 | _,_,0,t=>t
 | _,_,_+1,.nil=>.nil
 | _,_,n+1,.cons _ t=>t.drop n
theorem P2.erase:∀ {l m} (n:Nat),P2 F l m→P2 F (l.eraseIdx n) (m.eraseIdx n)
 | _,_,_,.nil=>.nil
 | _,_,0,.cons _ t=>t
 | _,_,n+1,.cons x t=>.cons x (t.erase n)
theorem P2.rep{l m}(t:P2 F l m):∀ n:Nat,P2 F (List.replicate n l).flatten (List.replicate n m).flatten
 | 0=>.nil
 | n+1=>by rw[List.replicate_succ,List.replicate_succ,List.flatten_cons,List.flatten_cons];exact t.append (P2.rep t n)
end
def Lst(H:Hp)(a:Addr)(xs:List V):Prop:=H a=some (.lst xs)∨∃ o,H a=some (.frz o (.lst xs))
mutual
def Rep(H:Hp):D→V→Prop
 | .non,v=>v=.non
 | .bl b,v=>v=.bl b
 | .int i,v=>v=.int i
 | .str x,v=>v=.str x
 | .lst ds,v=>∃ a xs,v=.ref a∧Lst H a xs∧cR H ds xs
 | .tup ds,v=>∃ a xs,v=.ref a∧H a=some (.tup xs)∧cR H ds xs
def cR(H:Hp):List D→List V→Prop
 | [],vs=>vs=[]
 | d::ds,vs=>∃ v r,vs=v::r∧Rep H d v∧cR H ds r
end
theorem lJ{H:Hp}:∀ {ds:List D} {vs:List V},cR H ds vs↔P2 (Rep H) ds vs
 | [],vs=>by
  rw[cR]
  exact⟨fun h=>by subst h;exact .nil,fun h=>by cases h;rfl⟩
 | d::ds,vs=>by
  rw[cR]
  constructor
  ·rintro ⟨v,r,rfl,p,q⟩
   exact .cons p (lJ.mp q)
  ·intro h
   cases h with
   | cons p q=>exact⟨_,_,rfl,p,lJ.mpr q⟩
@[simp] theorem JW {H:Hp} {v:V}:Rep H .non v↔v=.non:=by rw[Rep]
@[simp] theorem Ie {H:Hp} {v:V} {b:Bool}:Rep H (.bl b) v↔v=.bl b:=by rw[Rep]
@[simp] theorem oE {H:Hp} {v:V} {b:Int}:Rep H (.int b) v↔v=.int b:=by rw[Rep]
@[simp] theorem lZ {H:Hp} {v:V} {b:Str}:Rep H (.str b) v↔v=.str b:=by rw[Rep]
theorem oA{H:Hp}{v:V}{ds:List D}:Rep H (.lst ds) v↔∃ a xs,v=.ref a∧Lst H a xs∧P2 (Rep H) ds xs:=by
 rw[Rep];exact⟨fun ⟨a,xs,e,l,r⟩=>⟨a,xs,e,l,lJ.mp r⟩,fun ⟨a,xs,e,l,r⟩=>⟨a,xs,e,l,lJ.mpr r⟩⟩
theorem j8{H:Hp}{v:V}{ds:List D}:Rep H (.tup ds) v↔∃ a xs,v=.ref a∧H a=some (.tup xs)∧P2 (Rep H) ds xs:=by
 rw[Rep];exact⟨fun ⟨a,xs,e,l,r⟩=>⟨a,xs,e,l,lJ.mp r⟩,fun ⟨a,xs,e,l,r⟩=>⟨a,xs,e,l,lJ.mpr r⟩⟩
theorem Lst.same{H H':Hp}{a:Addr}{xs:List V}(s:iM H H')(h:Lst H a xs):Lst H' a xs:=by
 rcases h with h|⟨o,h⟩
 ·exact .inl (s _ _ h)
 ·exact .inr ⟨o,s _ _ h⟩
theorem Lst.sq{K:PySem.W.Frag}{H:Hp}{a:Addr}{xs:List V}(h:Lst H a xs):wM K H a xs:=.inl h
mutual
theorem lK{H H':Hp}(s:iM H H'):∀ {d:D} {v:V},Rep H d v→Rep H' d v
 | .non,v,h=>by rw[Rep] at h ⊢;exact h
 | .bl b,v,h=>by rw[Rep] at h ⊢;exact h
 | .int i,v,h=>by rw[Rep] at h ⊢;exact h
 | .str x,v,h=>by rw[Rep] at h ⊢;exact h
 | .lst ds,v,h=>by
  rw[Rep] at h ⊢
  obtain⟨a,xs,e,q,r⟩:=h
  exact⟨a,xs,e,q.same s,uV s r⟩
 | .tup ds,v,h=>by
  rw[Rep] at h ⊢
  obtain⟨a,xs,e,q,r⟩:=h
  exact⟨a,xs,e,s _ _ q,uV s r⟩
theorem uV{H H':Hp}(s:iM H H'):∀ {ds:List D} {vs:List V},cR H ds vs→cR H' ds vs
 | [],vs,h=>by rw[cR] at h ⊢;exact h
 | d::ds,vs,h=>by
  rw[cR] at h ⊢
  obtain⟨v,r,e,p,q⟩:=h
  exact⟨v,r,e,lK s p,uV s q⟩
end
theorem cZ{H H':Hp}(s:iM H H'){ds:List D}{vs:List V}(h:P2 (Rep H) ds vs):P2 (Rep H') ds vs:=h.imp fun _ _=>lK s
mutual
theorem ou(K:PySem.W.Frag){H:Hp}:∀ {d:D} {v:V},Rep H d v→L2.Rep K H d v
 | .non,v,h=>by rw[Rep] at h;rw[L2.Rep];exact h
 | .bl b,v,h=>by rw[Rep] at h;rw[L2.Rep];exact h
 | .int i,v,h=>by rw[Rep] at h;rw[L2.Rep];exact h
 | .str x,v,h=>by rw[Rep] at h;rw[L2.Rep];exact h
 | .lst ds,v,h=>by
  rw[Rep] at h
  rw[L2.Rep]
  obtain⟨a,xs,e,q,r⟩:=h
  exact⟨a,xs,e,q.sq,wN K r⟩
 | .tup ds,v,h=>by
  rw[Rep] at h
  rw[L2.Rep]
  obtain⟨a,xs,e,q,r⟩:=h
  exact⟨a,xs,e,.inl (.inl q),wN K r⟩
theorem wN(K:PySem.W.Frag){H:Hp}:∀ {ds:List D} {vs:List V},cR H ds vs→L2.cR K H ds vs
 | [],vs,h=>by rw[cR] at h;rw[L2.cR];exact h
 | d::ds,vs,h=>by
  rw[cR] at h
  rw[L2.cR]
  obtain⟨v,r,e,p,q⟩:=h
  exact⟨v,r,e,ou K p,wN K q⟩
end
def NT:HO→Prop
 | .tbl _ _=>False
 | _=>True
structure Old(H H':Hp):Prop where
 nt:∀ a o,H a=some o→NT o→H' a=some o
 dom:∀ a,H' a=none→H a=none
 tb:∀ a w ps,H a=some (.tbl w ps)→∃ ps',H' a=some (.tbl w ps')
theorem Old.at{H H':Hp}(s:Old H H'){a:Addr}{o:HO}(q:H a=some o)(n:NT o:=by trivial):H' a=some o:=s.nt a o q n
theorem Old.free{H H':Hp}(s:Old H H'){a:Addr}(h:H' a=none):H a=none:=s.dom a h
theorem Old.refl(H:Hp):Old H H:=⟨fun _ _ e _=>e,fun _ e=>e,fun _ _ ps e=>⟨ps,e⟩⟩
theorem Old.trans{H H1 H2:Hp}(a:Old H H1)(b:Old H1 H2):Old H H2:=⟨fun x o e n=>b.nt x o (a.nt x o e n) n,fun x e=>a.dom x (b.dom x e),fun x w ps e=>let ⟨p1,e1⟩:=a.tb x w ps e;b.tb x w p1 e1⟩
theorem Old.of{H H':Hp}(s:iM H H'):Old H H':=⟨fun a o e _=>s a o e,fun a e=>s.free e,fun a w ps e=>⟨ps,s a _ e⟩⟩
theorem Old.put{H0 H:Hp}(s:Old H0 H){p:Addr}{o u:HO}(h0:H0 p=none)(h:H p=some u):Old H0 (upd H p o) :=
 ⟨fun a v e n=>by rw[aN (bc e h0)];exact s.nt a v e n,fun a e=>by
  by_cases hp:a=p
  ·subst hp;exact h0
  ·rw[aN hp] at e;exact s.dom a e,fun a w ps e=>by rw[aN (bc e h0)];exact s.tb a w ps e⟩
def lQ(c:Addr)(q:Str):Heap→Prop:=fun h=>∃ o vs t,h.get? c=some o∧o.data=.fields vs∧vs[1]? = some (.str q t)
class gH where
 l:List (Addr×Str)
 cl:String→Addr
variable[Tb:gH]
structure jG(H:Hp):Prop where
 has:∀ p∈Tb.l,∃ ps,H p.1=some (.tbl p.2 ps)
 cd:∀ T q ps,H T=some (.tbl q ps)→TriplesOk ps.toList∧∀ pos v,codeAmong pos ps.toList=some v→∃ c,v=.ref c∧H c=some (.ext (lQ c q))
theorem jG.new{H:Hp}(k:jG H){p:Addr}{o:HO}(h:H p=none)(n:NT o):jG (upd H p o):=⟨fun r hr=>let ⟨ps,e⟩:=k.has r hr;⟨ps,by rw[aN (bc e h)];exact e⟩,fun T q ps e=>by
 by_cases hp:T=p
 ·subst hp;rw[bu] at e;cases e;exact n.elim
 ·rw[aN hp] at e
  obtain⟨t,r⟩:=k.cd T q ps e
  refine⟨t,fun pos v z=>?_⟩
  obtain⟨c,e1,e2⟩:=r pos v z
  exact⟨c,e1,by rw[aN (bc e2 h)];exact e2⟩⟩
def Cell:HO→Prop
 | .lst _=>True
 | .dK _=>True
 | .dT _=>True
 | .ext _=>True
 | _=>False
theorem Cell.nt:∀ {o:HO},Cell o→NT o:=fun {o} c=>by cases o<;>first|exact c.elim|trivial
def Hu:HO→Prop
 | .lst _=>True
 | .dK _=>True
 | .dT _=>True
 | _=>False
theorem Hu.cell:∀ {o:HO},Hu o→Cell o:=fun {o} c=>by cases o<;>first|exact c.elim|trivial
theorem jG.put{H:Hp}(k:jG H){p:Addr}{o u:HO}(h:H p=some u)(c:Hu u)(n:NT o):jG (upd H p o):=⟨fun r hr=>let ⟨ps,e⟩:=k.has r hr;⟨ps,by rw[aN (fun y=>by rw[y,h] at e;cases e;exact c.elim)];exact e⟩,fun T q ps e=>by
 by_cases hp:T=p
 ·subst hp;rw[bu] at e;cases e;exact n.elim
 ·rw[aN hp] at e
  obtain⟨t,r⟩:=k.cd T q ps e
  refine⟨t,fun pos v z=>?_⟩
  obtain⟨x,e1,e2⟩:=r pos v z
  refine⟨x,e1,?_⟩
  rw[aN (fun y=>by subst y;rw[h] at e2;cases e2;exact c.elim)];exact e2⟩
structure Vw(H Hv:Hp):Prop where
 sub:iM Hv H
 tup:∀ a xs,H a=some (.tup xs)→Hv a=some (.tup xs)
 frz:∀ a o u,H a=some (.frz o u)→Hv a=some (.frz o u)
 cd:jG H
 nv:∀ a o,Hv a=some o→NT o
structure dG(H Hv H' Hv':Hp):Prop where
 old:Old H H'
 vis:iM Hv Hv'
 vw:Vw H' Hv'
 hid:∀ a o,H a=some o→Hv a=none→Hv' a=none
theorem dG.refl{H Hv:Hp}(v:Vw H Hv):dG H Hv H Hv:=⟨Old.refl _,iM.refl _,v,fun _ _ _ e=>e⟩
theorem Old.some{H H':Hp}(s:Old H H'){a:Addr}{o:HO}(q:H a=some o):∃ o',H' a=some o':=by
 cases h:H' a with
 | none=>rw[s.dom a h] at q;cases q
 | some o'=>exact⟨o',rfl⟩
theorem dG.trans{H Hv H1 Hv1 H2 Hv2:Hp}(g:dG H Hv H1 Hv1)(k:dG H1 Hv1 H2 Hv2):dG H Hv H2 Hv2 :=
 ⟨g.old.trans k.old,g.vis.trans k.vis,k.vw,fun a o e n=>let ⟨o',e'⟩:=g.old.some e;k.hid a o' e' (g.hid a o e n)⟩
theorem pQ{H Hv:Hp}(v:Vw H Hv){p:Addr}(h:H p=none):Hv p=none:=v.sub.free h
theorem dG.new{H Hv:Hp}(v:Vw H Hv){p:Addr}{o:HO}(h:H p=none)(nt:NT o:=by trivial):dG H Hv (upd H p o) (upd Hv p o):=by
 refine⟨.of (tO h),tO (pQ v h),⟨fun b u e=>?_,fun b xs e=>?_,fun b q u e=>?_,v.cd.new h nt,fun b u e=>?_⟩,fun b u e n=>?_⟩
 ·by_cases hb:b=p
  ·subst hb;rw[bu] at e ⊢;exact e
  ·rw[aN hb] at e ⊢;exact v.sub b u e
 ·by_cases hb:b=p
  ·subst hb;rw[bu] at e ⊢;exact e
  ·rw[aN hb] at e ⊢;exact v.tup b xs e
 ·by_cases hb:b=p
  ·subst hb;rw[bu] at e ⊢;exact e
  ·rw[aN hb] at e ⊢;exact v.frz b q u e
 ·by_cases hb:b=p
  ·subst hb;rw[bu] at e;cases e;exact nt
  ·rw[aN hb] at e;exact v.nv b u e
 ·rw[aN (bc e h)];exact n
theorem dG.PB{H Hv:Hp}(v:Vw H Hv){p:Addr}{o:HO}(c:Cell o)(h:H p=none):dG H Hv (upd H p o) Hv:=by
 refine⟨.of (tO h),iM.refl _,⟨fun b u e=>?_,fun b xs e=>?_,fun b q u e=>?_,v.cd.new h c.nt,v.nv⟩,fun b u e n=>n⟩
 ·rw[aN (bc (v.sub b u e) h)];exact v.sub b u e
 ·by_cases hb:b=p
  ·subst hb;rw[bu] at e;cases e;exact c.elim
  ·rw[aN hb] at e;exact v.tup b xs e
 ·by_cases hb:b=p
  ·subst hb;rw[bu] at e;cases e;exact c.elim
  ·rw[aN hb] at e;exact v.frz b q u e
theorem Vw.show{H Hv:Hp}(v:Vw H Hv){a:Addr}{o:HO}(h:H a=some o)(n:Hv a=none)(nt:NT o):Vw H (upd Hv a o)∧iM Hv (upd Hv a o):=by
 refine⟨⟨fun b u e=>?_,fun b xs e=>?_,fun b q u e=>?_,v.cd,fun b u e=>?_⟩,tO n⟩
 ·by_cases hb:b=a
  ·subst hb;rw[bu] at e;rw[h];exact e
  ·rw[aN hb] at e;exact v.sub b u e
 ·by_cases hb:b=a
  ·subst hb;rw[bu];rw[h] at e;exact e
  ·rw[aN hb];exact v.tup b xs e
 ·by_cases hb:b=a
  ·subst hb;rw[bu];rw[h] at e;exact e
  ·rw[aN hb];exact v.frz b q u e
 ·by_cases hb:b=a
  ·subst hb;rw[bu] at e;cases e;exact nt
  ·rw[aN hb] at e;exact v.nv b u e
theorem Lst.old{H H':Hp}{a:Addr}{xs:List V}(s:Old H H')(h:Lst H a xs):Lst H' a xs:=by
 rcases h with h|⟨o,h⟩
 ·exact .inl (s.at h)
 ·exact .inr ⟨o,s.at h⟩
def En{κ : Type}(H:Hp)(kvs:List (κ×D))(kv:List (κ×V)):Prop:=P2 (fun p q=>p.1=q.1∧Rep H p.2 q.2) kvs kv
theorem En.same{κ : Type}{H H':Hp}(s:iM H H'){kvs:List (κ×D)}{kv:List (κ×V)}(h:En H kvs kv):En H' kvs kv:=P2.imp (fun _ _ z=>⟨z.1,lK s z.2⟩) h
def fj(Hv:Hp):W→HO→Prop
 | .d (.lst ds),.lst xs=>P2 (Rep Hv) ds xs
 | .dk kvs,.dK kv=>En Hv kvs kv
 | .dt kvs,.dT kv=>En Hv kvs kv
 | _,_=>False
theorem fj.same{H H':Hp}(s:iM H H'):∀ {w:W} {o:HO},fj H w o→fj H' w o:=fun {w o} h=>by
 cases w with
 | d x =>
  cases x with
  | lst ds=>cases o with
   | lst xs=>exact cZ s h
   | _=>exact h.elim
  | _=>cases o<;>exact h.elim
 | dk kvs=>cases o with
  | dK kv=>exact En.same s h
  | _=>exact h.elim
 | dt kvs=>cases o with
  | dT kv=>exact En.same s h
  | _=>exact h.elim
 | df kvs=>exact h.elim
 | ex c=>exact h.elim
theorem fj.Vr{H:Hp}{w:W}{o:HO}(h:fj H w o):Hu o:=by
 cases w with
 | d x =>
  cases x with
  | lst ds=>cases o with
   | lst xs=>trivial
   | _=>exact h.elim
  | _=>cases o<;>exact h.elim
 | dk kvs=>cases o with
  | dK kv=>trivial
  | _=>exact h.elim
 | dt kvs=>cases o with
  | dT kv=>trivial
  | _=>exact h.elim
 | df kvs=>exact h.elim
 | ex c=>exact h.elim
theorem fj.cell{H:Hp}{w:W}{o:HO}(h:fj H w o):Cell o:=h.Vr.cell
theorem fj.nt{H:Hp}{w:W}{o:HO}(h:fj H w o):NT o:=h.cell.nt
def Zb(a C:Addr):Heap→Prop:=fun h=>∃ o,h.get? a=some o∧o.cls=.ref C∧o.dict=none∧∃ vs,o.data=.fields vs
def uC(H:Hp):W→V→Prop
 | .d x,v=>Rep H x v
 | .dk kvs,v=>∃ a kv,v=.ref a∧H a=some (.dK kv)∧En H kvs kv
 | .dt kvs,v=>∃ a kv,v=.ref a∧H a=some (.dT kv)∧En H kvs kv
 | .df kvs,v=>∃ a ob kv,v=.ref a∧H a=some (.frz ob (.dT kv))∧En H kvs kv
 | .ex c,v=>∃ a,v=.ref a∧H a=some (.ext (Zb a (Tb.cl c)))
theorem nq{H H':Hp}(s:iM H H'):∀ {w:W} {v:V},uC H w v→uC H' w v
 | .d x,v,h=>lK (d:=x) s h
 | .dk kvs,v,⟨a,kv,e,q,r⟩=>⟨a,kv,e,s _ _ q,r.same s⟩
 | .dt kvs,v,⟨a,kv,e,q,r⟩=>⟨a,kv,e,s _ _ q,r.same s⟩
 | .df kvs,v,⟨a,ob,kv,e,q,r⟩=>⟨a,ob,kv,e,s _ _ q,r.same s⟩
 | .ex c,v,⟨a,e,q⟩=>⟨a,e,s _ _ q⟩
theorem uW{H:Hp}{w:W}{a:Addr}{o:HO}(h:H a=some o)(c:fj H w o):uC H w (.ref a):=by
 cases w with
 | d x =>
  cases x with
  | lst ds=>cases o with
   | lst xs=>exact oA.mpr ⟨a,xs,rfl,.inl h,c⟩
   | _=>exact c.elim
  | _=>cases o<;>exact c.elim
 | dk kvs=>cases o with
  | dK kv=>exact⟨a,kv,rfl,h,c⟩
  | _=>exact c.elim
 | dt kvs=>cases o with
  | dT kv=>exact⟨a,kv,rfl,h,c⟩
  | _=>exact c.elim
 | df kvs=>exact c.elim
 | ex z=>exact c.elim
def Own(H Hv:Hp)(w:W)(v:V):Prop:=∃ a o,v=.ref a∧H a=some o∧Hv a=none∧fj Hv w o
def RB(H Hv:Hp)(w:W)(v:V):Prop:=uC Hv w v∨∃ a o,v=.ref a∧H a=some o∧fj Hv w o
theorem RB.grow{H Hv H' Hv':Hp}(g:dG H Hv H' Hv'){w:W}{v:V}(h:RB H Hv w v):RB H' Hv' w v:=by
 rcases h with h|⟨a,o,e,q,c⟩
 ·exact .inl (nq g.vis h)
 ·exact .inr ⟨a,o,e,g.old.at q c.nt,c.same g.vis⟩
theorem Own.grow{H Hv H' Hv':Hp}(g:dG H Hv H' Hv'){w:W}{v:V}(h:Own H Hv w v):Own H' Hv' w v:=by
 obtain⟨a,o,e,q,n,c⟩:=h
 exact⟨a,o,e,g.old.at q c.nt,g.hid _ _ q n,c.same g.vis⟩
theorem RB.full{H Hv:Hp}(v:Vw H Hv){w:W}{x:V}(h:RB H Hv w x):uC H w x:=by
 rcases h with h|⟨a,o,rfl,q,c⟩
 ·exact nq v.sub h
 ·exact uW q (c.same v.sub)
abbrev RD(H Hv:Hp)(d:D)(v:V):Prop:=RB H Hv (.d d) v
theorem RD.Oi{H Hv:Hp}{d:D}{v:V}(h:RD H Hv d v)(n:∀ ds,d≠.lst ds):Rep Hv d v:=by
 rcases h with h|⟨a,o,e,q,c⟩
 ·exact h
 ·cases d with
  | lst ds=>exact absurd rfl (n ds)
  | _=>cases o<;>exact c.elim
theorem RD.lst{H Hv:Hp}(w:Vw H Hv){ds:List D}{v:V}(h:RD H Hv (.lst ds) v):∃ a xs,v=.ref a∧Lst H a xs∧P2 (Rep Hv) ds xs:=by
 rcases h with h|⟨a,o,e,q,c⟩
 ·obtain⟨a,xs,e,l,r⟩:=oA.mp h
  exact⟨a,xs,e,l.same w.sub,r⟩
 ·cases o with
  | lst xs=>exact⟨a,xs,e,.inl q,c⟩
  | _=>exact c.elim
theorem RD.tup{H Hv:Hp}(w:Vw H Hv){ds:List D}{v:V}(h:RD H Hv (.tup ds) v):∃ a xs,v=.ref a∧H a=some (.tup xs)∧Hv a=some (.tup xs)∧P2 (Rep Hv) ds xs:=by
 obtain⟨a,xs,e,l,r⟩:=j8.mp (h.Oi fun _ z=>by cases z)
 exact⟨a,xs,e,w.sub _ _ l,l,r⟩
theorem RD.int{H Hv:Hp}{i:Int}{v:V}(h:RD H Hv (.int i) v):v=.int i:=oE.mp (h.Oi fun _ z=>by cases z)
theorem RD.str{H Hv:Hp}{i:Str}{v:V}(h:RD H Hv (.str i) v):v=.str i:=lZ.mp (h.Oi fun _ z=>by cases z)
theorem RD.bl{H Hv:Hp}{i:Bool}{v:V}(h:RD H Hv (.bl i) v):v=.bl i:=Ie.mp (h.Oi fun _ z=>by cases z)
theorem RD.non{H Hv:Hp}{v:V}(h:RD H Hv .non v):v=.non:=JW.mp (h.Oi fun _ z=>by cases z)
theorem RD.full{H Hv:Hp}(v:Vw H Hv){d:D}{x:V}(h:RD H Hv d x):Rep H d x:=RB.full v h
abbrev Kd:=Hp→Hp→Hp→W→V→Prop
def qP:Kd:=fun _ H' Hv' w v=>RB H' Hv' w v
def qV:Kd:=fun _ _ Hv' w v=>uC Hv' w v
def qN:Kd:=fun H H' Hv' w v=>∃ a o,v=.ref a∧H a=none∧H' a=some o∧Hv' a=none∧fj Hv' w o
theorem ik{H H' Hv':Hp}{i:Int}:qV H H' Hv' (.d (.int i)) (.int i):=(oE (H:=Hv')).mpr rfl
theorem xX{H H' Hv':Hp}{i:Str}:qV H H' Hv' (.d (.str i)) (.str i):=(lZ (H:=Hv')).mpr rfl
theorem lL{H H' Hv':Hp}{i:Bool}:qV H H' Hv' (.d (.bl i)) (.bl i):=(Ie (H:=Hv')).mpr rfl
theorem V3{H H' Hv':Hp}:qV H H' Hv' (.d .non) .non:=(JW (H:=Hv')).mpr rfl
class KM (κ : Kd):Prop where
 mono:∀ {H H1 H' Hv' w v},Old H H1→κ H1 H' Hv' w v→κ H H' Hv' w v
instance:KM qP:=⟨fun _ h=>h⟩
instance:KM qV:=⟨fun _ h=>h⟩
instance:KM qN:=⟨fun s ⟨a,o,e,n,r⟩=>⟨a,o,e,s.free n,r⟩⟩
structure R0(M:Nat→Bool)(e:Mi.Env)(σ : L2.St)(H Hv:Hp):Prop where
 vw:Vw H Hv
 len:σ.length=e.length
 nob:∀ i w,e[i]? = some (some w)→M i=false→∃ v,σ[i]? = some (some v)∧uC Hv w v
 own:∀ i w,e[i]? = some (some w)→M i=true→∃ v,σ[i]? = some (some v)∧Own H Hv w v
theorem R0.grow{M:Nat→Bool}{e:Mi.Env}{σ : L2.St}{H Hv H' Hv':Hp}(r:R0 M e σ H Hv)(g:dG H Hv H' Hv'):R0 M e σ H' Hv' :=
 ⟨g.vw,r.len,fun i w h m=>let ⟨v,q,z⟩:=r.nob i w h m;⟨v,q,nq g.vis z⟩,fun i w h m=>let ⟨v,q,z⟩:=r.own i w h m;⟨v,q,z.grow g⟩⟩
structure R1(M:Nat→Bool)(H0 Hv0:Hp)(e:Mi.Env)(σ : L2.St)(H Hv:Hp):Prop extends R0 M e σ H Hv where
 gw:dG H0 Hv0 H Hv
 fresh:∀ i w a,e[i]? = some (some w)→M i=true→σ[i]? = some (some (.ref a))→H0 a=none
 sep:∀ i j w w' a b,i≠j→e[i]? = some (some w)→e[j]? = some (some w')→M i=true→M j=true→σ[i]? = some (some (.ref a))→σ[j]? = some (some (.ref b))→a≠b
theorem R1.grow{M:Nat→Bool}{H0 Hv0:Hp}{e:Mi.Env}{σ : L2.St}{H Hv H' Hv':Hp}(r:R1 M H0 Hv0 e σ H Hv)(g:dG H Hv H' Hv'):R1 M H0 Hv0 e σ H' Hv' :=
 ⟨r.toR0.grow g,r.gw.trans g,r.fresh,r.sep⟩
end A
namespace A
open PySem L2 PyProof.Rows
open Mi (D W Rs Fin au)
variable[Tb:gH]
abbrev Nq:=Mi.Env
class KG (κ : Kd):Prop where
 go:∀ {H H1 Hv1 H2 Hv2 w v},dG H1 Hv1 H2 Hv2→κ H H1 Hv1 w v→κ H H2 Hv2 w v
instance:KG qP:=⟨fun g h=>h.grow g⟩
instance:KG qV:=⟨fun g h=>nq g.vis h⟩
instance:KG qN:=⟨fun g ⟨a,o,e,n,q,z,c⟩=>⟨a,o,e,n,g.old.at q c.nt,g.hid _ _ q z,c.same g.vis⟩⟩
def AW(M:Nat→Bool)(κ : Kd)(t:TE)(m:Mi.EW):Prop:=∀ e σ H Hv Q,R0 M e σ H Hv→Fin (m e) (fun w=>∀ v H' Hv',dG H Hv H' Hv'→κ H H' Hv' w v→Q v H')→t σ H Q
def AE(M:Nat→Bool)(κ : Kd)(t:TE)(m:Mi.E):Prop:=∀ e σ H Hv Q,R0 M e σ H Hv→Fin (m e) (fun d=>∀ v H' Hv',dG H Hv H' Hv'→κ H H' Hv' (.d d) v→Q v H')→t σ H Q
def AT(M:Nat→Bool)(t:TT)(m:Mi.C):Prop:=∀ e σ H Hv Q,R0 M e σ H Hv→Fin (m e) (fun b=>∀ H' Hv',dG H Hv H' Hv'→Q b H')→t σ H Q
def AA(M:Nat→Bool)(κ : Kd)(t:TA)(m:Nq→Rs (List D)):Prop:=∀ e σ H Hv Q,R0 M e σ H Hv→Fin (m e) (fun ds=>∀ vs H' Hv',dG H Hv H' Hv'→P2 (fun d v=>κ H H' Hv' (.d d) v) ds vs→Q vs H')→t σ H Q
def AAW(M:Nat→Bool)(κ : Kd)(t:TA)(m:Nq→Rs (List W)):Prop:=∀ e σ H Hv Q,R0 M e σ H Hv→Fin (m e) (fun ws=>∀ vs H' Hv',dG H Hv H' Hv'→P2 (fun w v=>κ H H' Hv' w v) ws vs→Q vs H')→t σ H Q
def AO(M:Nat→Bool)(t:TO)(m:Nq→Rs (Option Int)):Prop:=∀ e σ H Hv Q,R0 M e σ H Hv→Fin (m e) (fun o=>∀ H' Hv',dG H Hv H' Hv'→Q o H')→t σ H Q
section
variable{M:Nat→Bool}{κ : Kd}{t ta tb tc te:TE}{a b c:Mi.E}{r r':R2}{f g:D→D→Rs D}
theorem AE.w(h:AE M κ t a):AW M κ t (Mi.wD a):=fun e σ H Hv Q I q=>h e σ H Hv Q I ((au.mp q).mono fun d z=>z)
theorem YS{H H' Hv':Hp}{w:W}{v:V}(h:qV H H' Hv' w v):qP H H' Hv' w v:=.inl h
theorem YT{H H' Hv':Hp}{w:W}{v:V}(h:qN H H' Hv' w v):qP H H' Hv' w v:=by
 obtain⟨a,o,e,_,q,_,c⟩:=h
 exact .inr ⟨a,o,e,q,c⟩
theorem Km{H Hv H' Hv':Hp}(g:dG H Hv H' Hv'){w:W}{v:V}(h:qN H H' Hv' w v):∃ Nr,dG H Hv H' Nr∧uC Nr w v:=by
 obtain⟨a,o,rfl,n,q,z,c⟩:=h
 obtain⟨vw,s⟩:=g.vw.show q z c.nt
 refine⟨upd Hv' a o,⟨g.old,g.vis.trans s,vw,fun b u e m=>?_⟩,uW bu (c.same s)⟩
 rw[aN (bc e n)];exact g.hid b u e m
theorem AW.nv(h:AW M qN t m):AW M qV t m:=fun e σ H Hv Q I q=>h e σ H Hv Q I (q.mono fun w z v H' Hv' g k=>let ⟨Nr,g',r⟩:=Km g k;z v H' Nr g' r)
theorem AE.p(h:AE M qV t a):AE M qP t a:=fun e σ H Hv Q I q=>h e σ H Hv Q I (q.mono fun w z v H' Hv' g k=>z v H' Hv' g (YS k))
theorem AE.np(h:AE M qN t a):AE M qP t a:=fun e σ H Hv Q I q=>h e σ H Hv Q I (q.mono fun w z v H' Hv' g k=>z v H' Hv' g (YT k))
theorem AE.nv(h:AE M qN t a):AE M qV t a:=fun e σ H Hv Q I q=>h e σ H Hv Q I (q.mono fun w z v H' Hv' g k=>let ⟨Nr,g',r⟩:=Km g k;z v H' Nr g' r)
theorem aK{i:Int}:AE M qV (tC (.int i)) (Mi.mC (.int i)):=fun e σ H Hv Q I h=>h _ H Hv (.refl I.vw) ik
theorem Hl{i:Str}:AE M qV (tC (.str i)) (Mi.mC (.str i)):=fun e σ H Hv Q I h=>h _ H Hv (.refl I.vw) xX
theorem Xl{i:Bool}:AE M qV (tC (.bl i)) (Mi.mC (.bl i)):=fun e σ H Hv Q I h=>h _ H Hv (.refl I.vw) lL
theorem Vi{e:Nq}{i:Nat}{k:D→Prop}(h:Fin (Mi.mV i e) k):∃ d,e[i]? = some (some (.d d))∧k d:=by
 unfold Mi.mV at h
 split at h
 ·exact⟨_,‹_›,h⟩
 ·exact h.elim
theorem NP{e:Nq}{i:Nat}{k:W→Prop}(h:Fin (Mi.wV i e) k):∃ w,e[i]? = some (some w)∧k w:=by
 unfold Mi.wV at h
 split at h
 ·exact⟨_,‹_›,h⟩
 ·exact h.elim
theorem ao(i:Nat)(hm:M i=false):AE M qV (wH i) (Mi.mV i):=fun e σ H Hv Q I h=>by
 obtain⟨d,he,k⟩:=Vi h
 obtain⟨v,q,z⟩:=I.nob i _ he hm
 exact⟨v,q,k v H Hv (.refl I.vw) z⟩
theorem V9{H Hv:Hp}{w:W}{v:V}(h:Own H Hv w v):RB H Hv w v:=by
 obtain⟨a,o,e,q,_,c⟩:=h
 exact .inr ⟨a,o,e,q,c⟩
theorem R0.any{e:Nq}{σ : L2.St}{H Hv:Hp}(I:R0 M e σ H Hv){i:Nat}{w:W}(he:e[i]? = some (some w)):∃ v,σ[i]? = some (some v)∧RB H Hv w v:=by
 cases hm:M i with
 | false =>
  obtain⟨v,q,z⟩:=I.nob i w he hm
  exact⟨v,q,.inl z⟩
 | true =>
  obtain⟨v,q,z⟩:=I.own i w he hm
  exact⟨v,q,V9 z⟩
theorem gG(i:Nat):AE M qP (wH i) (Mi.mV i):=fun e σ H Hv Q I h=>by
 obtain⟨d,he,k⟩:=Vi h
 obtain⟨v,q,z⟩:=I.any he
 exact⟨v,q,k v H Hv (.refl I.vw) z⟩
def B2(κ : Kd)(r:R2)(f:D→D→Rs D):Prop:=∀ x y v u H Hv Q,Vw H Hv→RD H Hv x v→RD H Hv y u→Fin (f x y) (fun d=>∀ w H' Hv',dG H Hv H' Hv'→κ H H' Hv' (.d d) w→Q w H')→r v u H Q
def BN(κ : Kd)(r:List V→Hp→VK→Prop)(f:List D→Rs D):Prop:=∀ ds vs H Hv Q,Vw H Hv→P2 (RD H Hv) ds vs→Fin (f ds) (fun d=>∀ w H' Hv',dG H Hv H' Hv'→κ H H' Hv' (.d d) w→Q w H')→r vs H Q
theorem aA[KM κ](hr:B2 κ r f)(ha:AE M qP ta a)(hb:AE M qP tb b):AE M κ (Xv r ta tb) (Mi.m2 f a b):=fun e σ H Hv Q I h =>
 ha e σ H Hv _ I ((au.mp h).mono fun x hx v H1 Hv1 g1 rx=>hb e σ H1 Hv1 _ (I.grow g1) ((au.mp hx).mono fun y hy u H2 Hv2 g2 ry =>
  hr x y v u H2 Hv2 Q g2.vw (RB.grow g2 rx) ry (hy.mono fun d hd w H3 Hv3 g3 rw=>hd w H3 Hv3 (g1.trans (g2.trans g3)) (KM.mono (g1.old.trans g2.old) rw))))
theorem Jx{x:D}{k:Bool→Prop}(h:Fin (Mi.Xh x) k):∃ b,x=.bl b∧k b:=by
 cases x with
 | bl b=>exact⟨b,rfl,h⟩
 | _=>exact h.elim
theorem Ef{x:D}{k:Int→Prop}(h:Fin (Mi.XC x) k):∃ b,x=.int b∧k b:=by
 cases x with
 | int b=>exact⟨b,rfl,h⟩
 | _=>exact h.elim
theorem Rw(ha:AE M qP ta a)(hb:AE M qV tb b):AE M qV (UJ ta tb) (Mi.u6 a b):=fun e σ H Hv Q I h =>
 ha e σ H Hv _ I ((au.mp h).mono fun x hx v H1 Hv1 g1 rx=>by
  obtain⟨k,rfl,hk⟩:=Jx (au.mp hx)
  cases RD.bl rx
  refine⟨k,rfl,?_⟩
  cases k with
  | true=>exact Ja (hb e σ H1 Hv1 Q (I.grow g1) (Fin.mono (Mi.Aq hk) fun d hd w H2 Hv2 g2 rw=>hd w H2 Hv2 (g1.trans g2) rw))
  | false=>exact Jb ((Mi.kh (Mi.Av hk)) _ H1 Hv1 g1 lL))
theorem Zv(ha:AE M qP ta a)(hb:AE M qV tb b):AE M qV (XR ta tb) (Mi.Vj a b):=fun e σ H Hv Q I h =>
 ha e σ H Hv _ I ((au.mp h).mono fun x hx v H1 Hv1 g1 rx=>by
  obtain⟨k,rfl,hk⟩:=Jx (au.mp hx)
  cases RD.bl rx
  refine⟨k,rfl,?_⟩
  cases k with
  | false=>exact Jb (hb e σ H1 Hv1 Q (I.grow g1) (Fin.mono (Mi.Av hk) fun d hd w H2 Hv2 g2 rw=>hd w H2 Hv2 (g1.trans g2) rw))
  | true=>exact Ja ((Mi.kh (Mi.Aq hk)) _ H1 Hv1 g1 lL))
theorem iW:AO M JM (Mi.my none):=fun e σ H Hv Q I h=>h H Hv (.refl I.vw)
theorem ig(ha:AE M qP ta a):AO M (Uy ta) (Mi.my (some a)):=fun e σ H Hv Q I h =>
 ha e σ H Hv _ I ((au.mp h).mono fun x hx v H1 Hv1 g1 rx=>by
  obtain⟨i,rfl,hk⟩:=Ef (au.mp hx)
  exact⟨i,RD.int rx,hk H1 Hv1 g1⟩)
def BS(κ : Kd)(r:V→Option Int→Option Int→Hp→VK→Prop)(f:D→Option Int→Option Int→Rs D):Prop:=∀ x lo hi v H Hv Q,Vw H Hv→RD H Hv x v→Fin (f x lo hi) (fun d=>∀ w H' Hv',dG H Hv H' Hv'→κ H H' Hv' (.d d) w→Q w H')→r v lo hi H Q
theorem vC[KM κ]{r:V→Option Int→Option Int→Hp→VK→Prop}{tl th:TO}{lo hi:Option Mi.E}{f:D→Option Int→Option Int→Rs D}(hr:BS κ r f)(ha:AE M qP ta a)(hl:AO M tl (Mi.my lo))(hh:AO M th (Mi.my hi)):AE M κ (tSl r ta tl th) (Mi.gR f a lo hi):=fun e σ H Hv Q I h =>
 ha e σ H Hv _ I ((au.mp h).mono fun x hx v H1 Hv1 g1 rx=>hl e σ H1 Hv1 _ (I.grow g1) ((au.mp hx).mono fun l hl H2 Hv2 g2=>hh e σ H2 Hv2 _ (I.grow (g1.trans g2)) ((au.mp hl).mono fun u hu H3 Hv3 g3 =>
  hr x l u v H3 Hv3 Q g3.vw (RB.grow (g2.trans g3) rx) (hu.mono fun d hd w H4 Hv4 g4 rw=>hd w H4 Hv4 (g1.trans (g2.trans (g3.trans g4))) (KM.mono (g1.old.trans (g2.old.trans g3.old)) rw)))))
theorem Eb(ha:AE M qP ta a):AT M (tB ta) (Mi.cB a):=fun e σ H Hv Q I h =>
 ha e σ H Hv _ I ((au.mp h).mono fun x hx v H1 Hv1 g1 rx=>by
  obtain⟨k,rfl,hk⟩:=Jx hx
  exact⟨k,RD.bl rx,hk H1 Hv1 g1⟩)
theorem bC(ha:AE M qP ta a):AT M (Ux ta) (Mi.cB a):=Eb ha
theorem Rh{K:PySem.W.Frag}(ha:AE M qP ta a):AT M (fun σ H Q=>ta σ H fun x H'=>∃ k,Xn K x H' k∧Q k H') (Mi.Nh a):=fun e σ H Hv Q I h =>
 ha e σ H Hv _ I ((au.mp h).mono fun x hx v H1 Hv1 g1 rx=>by
  cases x with
  | non=>cases RD.non rx;exact⟨false,rfl,hx H1 Hv1 g1⟩
  | bl b=>cases RD.bl rx;exact⟨b,rfl,hx H1 Hv1 g1⟩
  | int i=>cases RD.int rx;exact⟨_,rfl,hx H1 Hv1 g1⟩
  | str y =>
   cases RD.str rx
   obtain⟨hz,hq⟩:=Mi.aX hx
   exact⟨_,⟨by rw[sizeLine_eq];exact hz,rfl⟩,hq H1 Hv1 g1⟩
  | lst ds =>
   obtain⟨p,xs,rfl,l,r⟩:=RD.lst g1.vw rx
   refine⟨!xs.isEmpty,.inl ⟨xs,l.sq,rfl⟩,?_⟩
   have:ds.isEmpty=xs.isEmpty:=by cases r<;>rfl
   rw[← this];exact hx H1 Hv1 g1
  | tup ds =>
   obtain⟨p,xs,rfl,l,_,r⟩:=RD.tup g1.vw rx
   refine⟨!xs.isEmpty,.inr (.inl ⟨xs,.inl (.inl l),rfl⟩),?_⟩
   have:ds.isEmpty=xs.isEmpty:=by cases r<;>rfl
   rw[← this];exact hx H1 Hv1 g1)
variable{tt uu:TT}{k l:Mi.C}
theorem mU(ha:AT M tt k)(hb:AT M uu l):AT M (X5 tt uu) (Mi.fU k l):=fun e σ H Hv Q I h =>
 ha e σ H Hv _ I ((au.mp h).mono fun x hx H1 Hv1 g1=>by
  cases x with
  | true=>exact Ja (hb e σ H1 Hv1 Q (I.grow g1) (Fin.mono (Mi.Aq hx) fun b hd H2 Hv2 g2=>hd H2 Hv2 (g1.trans g2)))
  | false=>exact Jb ((Mi.kh (Mi.Av hx)) H1 Hv1 g1))
theorem Bu(ha:AT M tt k)(hb:AT M uu l):AT M (tOr tt uu) (Mi.Ea k l):=fun e σ H Hv Q I h =>
 ha e σ H Hv _ I ((au.mp h).mono fun x hx H1 Hv1 g1=>by
  cases x with
  | false=>exact Jb (hb e σ H1 Hv1 Q (I.grow g1) (Fin.mono (Mi.Av hx) fun b hd H2 Hv2 g2=>hd H2 Hv2 (g1.trans g2)))
  | true=>exact Ja ((Mi.kh (Mi.Aq hx)) H1 Hv1 g1))
theorem za(ha:AT M tt k):AT M (XS tt) (Mi.pL k):=fun e σ H Hv Q I h =>
 ha e σ H Hv _ I ((au.mp h).mono fun x hx H1 Hv1 g1=>hx H1 Hv1 g1)
theorem kZ:AT M XM Mi.gU:=fun e σ H Hv Q I h=>h H Hv (.refl I.vw)
variable{tr:TA}{as:List Mi.E}{ws:List Mi.EW}
theorem aP:AA M κ uK (Mi.jL []):=fun e σ H Hv Q I h=>h [] H Hv (.refl I.vw) .nil
theorem aC[KM κ][KG κ](ha:AE M κ ta a)(hr:AA M κ tr (Mi.jL as)):AA M κ (lX ta tr) (Mi.jL (a::as)):=fun e σ H Hv Q I h =>
 ha e σ H Hv _ I ((au.mp h).mono fun x hx v H1 Hv1 g1 rx=>hr e σ H1 Hv1 _ (I.grow g1) ((au.mp hx).mono fun xs hs vs H2 Hv2 g2 rs =>
  hs (v::vs) H2 Hv2 (g1.trans g2) (.cons (KG.go g2 rx) (rs.imp fun _ _ z=>KM.mono g1.old z))))
theorem bM:AAW M κ uK (Mi.dR []):=fun e σ H Hv Q I h=>h [] H Hv (.refl I.vw) .nil
theorem aO[KM κ][KG κ]{w:Mi.EW}(ha:AW M κ ta w)(hr:AAW M κ tr (Mi.dR ws)):AAW M κ (lX ta tr) (Mi.dR (w::ws)):=fun e σ H Hv Q I h =>
 ha e σ H Hv _ I ((au.mp h).mono fun x hx v H1 Hv1 g1 rx=>hr e σ H1 Hv1 _ (I.grow g1) ((au.mp hx).mono fun xs hs vs H2 Hv2 g2 rs =>
  hs (v::vs) H2 Hv2 (g1.trans g2) (.cons (KG.go g2 rx) (rs.imp fun _ _ z=>KM.mono g1.old z))))
theorem gn[KM κ]{r:List V→Hp→VK→Prop}{f:List D→Rs D}(hr:BN κ r f)(ha:AA M qP tr (Mi.jL as)):AE M κ (Xw r tr) (Mi.mN f as):=fun e σ H Hv Q I h =>
 ha e σ H Hv _ I ((au.mp h).mono fun ds hx vs H1 Hv1 g1 rx=>hr ds vs H1 Hv1 Q g1.vw rx (hx.mono fun d hd w H3 Hv3 g3 rw=>hd w H3 Hv3 (g1.trans g3) (KM.mono g1.old rw)))
theorem gK(ha:AA M qV tr (Mi.jL as)):AE M qV (XN tr) (Mi.mN Mi.dTup as):=fun e σ H Hv Q I h =>
 ha e σ H Hv _ I ((au.mp h).mono fun ds hx vs H1 Hv1 g1 rx=>by
  obtain⟨hz,hq⟩:=Mi.aX hx
  refine⟨by rw[← rx.len,sizeLine_eq];exact hz,fun p hp=>?_⟩
  have g2:dG H1 Hv1 (upd H1 p (.tup vs)) (upd Hv1 p (.tup vs)):=.new g1.vw hp
  exact hq _ _ _ (g1.trans g2) (j8.mpr ⟨p,vs,rfl,bu,cZ g2.vis rx⟩))
theorem gm(ha:AA M qV tr (Mi.jL as)):AE M qN (VB tr) (Mi.mN Mi.d9 as):=fun e σ H Hv Q I h =>
 ha e σ H Hv _ I ((au.mp h).mono fun ds hx vs H1 Hv1 g1 rx=>by
  obtain⟨hz,hq⟩:=Mi.aX hx
  refine⟨by rw[← rx.len,sizeLine_eq];exact hz,fun p hp=>?_⟩
  have g2:dG H1 Hv1 (upd H1 p (.lst vs)) Hv1:=.PB g1.vw trivial hp
  exact hq _ _ _ (g1.trans g2) ⟨p,.lst vs,rfl,g1.old.free hp,bu,pQ g1.vw hp,rx⟩)
def pC(f:Mi.Fn):Sp:=fun vs H Q _=>∃ Hv ws,Vw H Hv∧P2 (uC Hv) ws vs∧Fin (f ws) (fun w=>∀ v H' Hv',dG H Hv H' Hv'→qV H H' Hv' w v→Q v H')
def qU(f:Mi.Fn):Sp:=fun vs H Q _=>∃ Hv ws,Vw H Hv∧P2 (uC Hv) ws vs∧Fin (f ws) (fun w=>∀ v H' Hv',dG H Hv H' Hv'→qN H H' Hv' w v→Q v H')
variable{fn:Mi.Fn}{E:XK}
theorem Uh(ha:AAW M qV tr (Mi.dR ws)):AW M qV (zU (pC fn) [] E tr) (Mi.vJ fn ws):=fun e σ H Hv Q I h =>
 ha e σ H Hv _ I ((au.mp h).mono fun ds hx vs H1 Hv1 g1 rx=>by
  rw[List.append_nil]
  exact⟨Hv1,ds,g1.vw,rx,hx.mono fun d hd w H3 Hv3 g3 rw=>hd w H3 Hv3 (g1.trans g3) rw⟩)
theorem Rg(ha:AAW M qV tr (Mi.dR ws)):AW M qN (zU (qU fn) [] E tr) (Mi.vJ fn ws):=fun e σ H Hv Q I h =>
 ha e σ H Hv _ I ((au.mp h).mono fun ds hx vs H1 Hv1 g1 rx=>by
  rw[List.append_nil]
  exact⟨Hv1,ds,g1.vw,rx,hx.mono fun d hd w H3 Hv3 g3 rw=>hd w H3 Hv3 (g1.trans g3) (KM.mono (κ:=qN) g1.old rw)⟩)
theorem Xg{w:W}{k:D→Prop}(h:Fin (Mi.Z6 w) k):∃ d,w=.d d∧k d:=by
 cases w with
 | d x=>exact⟨x,rfl,h⟩
 | _=>exact h.elim
theorem AW.d{w:Mi.EW}(h:AW M κ t w):AE M κ t (fun e=>(w e).bind Mi.Z6):=fun e σ H Hv Q I q =>
 h e σ H Hv Q I ((au.mp q).mono fun w z v H' Hv' g k=>by
  obtain⟨d,rfl,z⟩:=Xg z
  exact z v H' Hv' g k)
theorem fW(ha:AAW M qV tr (Mi.dR ws)):AE M qV (zU (pC fn) [] E tr) (Mi.bf fn ws):=(Uh ha).d
theorem dN(ha:AAW M qV tr (Mi.dR ws)):AE M qN (zU (qU fn) [] E tr) (Mi.bf fn ws):=(Rg ha).d
def Wm(H:Hp):Hp:=fun a=>match H a with
 | some (.tbl _ _)=>none
 | x=>x
theorem tU{H:Hp}{a:Addr}{o:HO}(h:H a=some o)(n:NT o):Wm H a=some o:=by
 unfold Wm;rw[h];cases o<;>first|rfl|exact n.elim
theorem J7{H:Hp}{a:Addr}{o:HO}(h:Wm H a=some o):H a=some o∧NT o:=by
 unfold Wm at h
 cases q:H a with
 | none=>rw[q] at h;cases h
 | some u =>
  rw[q] at h
  cases u with
  | tbl w ps=>cases h
  | _=>cases h;exact⟨rfl,trivial⟩
theorem Vw.all{H:Hp}(k:jG H):Vw H (Wm H):=⟨fun a o e=>(J7 e).1,fun a xs e=>tU e trivial,fun a o u e=>tU e trivial,k,fun a o e=>(J7 e).2⟩
end
end A
namespace A
open PySem L2 PyProof.Rows
open Mi (D W Rs Fin au Out Tg)
variable[Tb:gH]
structure ZP(J:It)(P:Hp→Hp→Prop)(ds:List D):Prop where
 go:∀ i H Hv,P H Hv→Vw H Hv→i < ds.length→J.go i H
 yld:∀ i H Hv x H',P H Hv→Vw H Hv→i < ds.length→J.yld i H x H'→∃ Hv' d,dG H Hv H' Hv'∧ds[i]? = some d∧Rep Hv' d x
 stop:∀ H Hv,P H Hv→Vw H Hv→J.stop ds.length H
def AIc(M:Nat→Bool)(wi:TI)(it:Mi.I):Prop:=∀ e σ H Hv (R:It→Hp→Prop),R0 M e σ H Hv→Fin (it e) (fun ds=>∀ (J:It) H' Hv' (P:Hp→Hp→Prop),dG H Hv H' Hv'→ZP J P ds→P H' Hv'→(∀ H1 Hv1 H2 Hv2,P H1 Hv1→dG H1 Hv1 H2 Hv2→P H2 Hv2)→R J H')→wi σ H R
def Ny(M:Nat→Bool)(wi:TI)(it:Mi.I):Prop:=∀ e σ H Hv (R:It→Hp→Prop),R0 M e σ H Hv→Fin (it e) (fun ds=>∀ (J:It) H' Hv' (P:Hp→Hp→Prop),dG H Hv H' Hv'→ZP J P ds→P H' Hv'→(∀ H1 Hv1 H2 Hv2,P H1 Hv1→iM Hv1 Hv2→Vw H2 Hv2→P H2 Hv2)→R J H')→wi σ H R
theorem jE{α : Type}{r:Rs α}{k:α→Prop}(h:Fin r k):∃ x,r=.ok x∧k x:=by
 cases r with
 | ok x=>exact⟨x,rfl,h⟩
 | _=>exact h.elim
section
variable{M:Nat→Bool}{ta tb:TE}{a b:Mi.E}{wi:TI}{it:Mi.I}{tr:TA}{as:List Mi.E}
theorem Ny.c(h:Ny M wi it):AIc M wi it:=fun e σ H Hv R I q=>h e σ H Hv R I (q.mono fun ds z J H' Hv' P g o p k=>z J H' Hv' P g o p fun H1 Hv1 H2 Hv2 p g'=>k H1 Hv1 H2 Hv2 p g'.vis g'.vw)
theorem rY{J:It}{Ok:Hp→Prop}{xs:List V}(O:J.Of Ok xs){ds:List D}{P:Hp→Hp→Prop}(ok:∀ H Hv,P H Hv→Vw H Hv→Ok H)(r:∀ H Hv,P H Hv→P2 (Rep Hv) ds xs)(ex:∃ H Hv,P H Hv):ZP J P ds:=by
 have hl:ds.length=xs.length:=by obtain⟨H,Hv,p⟩:=ex;exact(r H Hv p).len
 refine⟨fun i H Hv p v hi=>O.go i H (ok H Hv p v) (by omega),fun i H Hv x H' p v hi y=>?_,fun H Hv p v=>by rw[hl];exact O.stop H (ok H Hv p v)⟩
 obtain⟨rfl,hx⟩:=O.yld i H x H' (ok H Hv p v) (by omega) y
 obtain⟨d,hd,rx⟩:=(r H' Hv p).aav hx
 exact⟨Hv,d,.refl v,hd,rx⟩
def WM(K:PySem.W.Frag)(tl:TE):TI:=fun σ H R=>Vm K tl σ H R∨YW K tl σ H R∨YX tl σ H R
theorem cJ{X:Cx}{tg l:Expr}{tl:TE}(hl:PE X l tl):PI X tg l (WM X.K tl):=fun pins s σ H R I h=>by
 rcases h with h|h|h
 ·exact R9 hl pins s σ H R I h
 ·exact V5 hl pins s σ H R I h
 ·exact V6 hl pins s σ H R I h
theorem Fd(H:Hp)(z:Str):P2 (Rep H) (z.cps.toList.map fun c=>D.str ⟨#[c]⟩) (HW z):=by
 unfold HW
 induction z.cps.toList with
 | nil=>exact .nil
 | cons c r ih=>exact .cons (lZ.mpr rfl) ih
theorem fK{K:PySem.W.Frag}(ha:AE M qP ta a):AIc M (WM K ta) (Mi.ie a):=fun e σ H Hv R I h=>by
 obtain⟨d,hd,h⟩:=jE (au.mp h)
 have run:∀ Q:VK,(∀ v H' Hv',dG H Hv H' Hv'→RD H' Hv' d v→Q v H')→ta σ H Q:=fun Q q=>ha e σ H Hv Q I (by rw[hd];exact q)
 cases d with
 | lst ds =>
  refine .inl (run _ fun v H' Hv' g r=>?_)
  obtain⟨p,xs,rfl,l,r⟩:=RD.lst g.vw r
  exact⟨p,rfl,⟨xs,l.sq⟩,h (ZM K p) H' Hv' (fun H Hv=>Lst H p xs∧P2 (Rep Hv) ds xs) g (rY J5 (fun H Hv p v=>p.1.sq) (fun H Hv p=>p.2) ⟨H',Hv',l,r⟩) ⟨l,r⟩ fun H1 Hv1 H2 Hv2 z g'=>⟨z.1.old g'.old,cZ g'.vis z.2⟩⟩
 | tup ds =>
  refine .inr (.inl (run _ fun v H' Hv' g r=>?_))
  obtain⟨p,xs,rfl,l,_,r⟩:=RD.tup g.vw r
  exact⟨p,rfl,⟨xs,.inl (.inl l)⟩,h (ZK K p) H' Hv' (fun H Hv=>H p=some (.tup xs)∧P2 (Rep Hv) ds xs) g (rY Pr (fun H Hv p v=>.inl (.inl p.1)) (fun H Hv p=>p.2) ⟨H',Hv',l,r⟩) ⟨l,r⟩ fun H1 Hv1 H2 Hv2 z g'=>⟨g'.old.at z.1,cZ g'.vis z.2⟩⟩
 | str z =>
  refine .inr (.inr (run _ fun v H' Hv' g r=>?_))
  exact⟨z,RD.str r,h (Xu z) H' Hv' (fun _ _=>True) g (rY Pu (fun _ _ _ _=>trivial) (fun H Hv _=>Fd Hv z) ⟨H,Hv,trivial⟩) trivial fun _ _ _ _ _ _=>trivial⟩
 | _=>exact h.elim
theorem jf{K:PySem.W.Frag}(ha:AE M qV ta a):Ny M (WM K ta) (Mi.ie a):=fun e σ H Hv R I h=>by
 obtain⟨d,hd,h⟩:=jE (au.mp h)
 have run:∀ Q:VK,(∀ v H' Hv',dG H Hv H' Hv'→Rep Hv' d v→Q v H')→ta σ H Q:=fun Q q=>ha e σ H Hv Q I (by rw[hd];exact q)
 cases d with
 | lst ds =>
  refine .inl (run _ fun v H' Hv' g r=>?_)
  obtain⟨p,xs,rfl,l,r⟩:=oA.mp r
  exact⟨p,rfl,⟨xs,(l.same g.vw.sub).sq⟩,h (ZM K p) H' Hv' (fun H Hv=>Lst Hv p xs∧P2 (Rep Hv) ds xs) g (rY J5 (fun H Hv p v=>(p.1.same v.sub).sq) (fun H Hv p=>p.2) ⟨H',Hv',l,r⟩) ⟨l,r⟩ fun H1 Hv1 H2 Hv2 z s v=>⟨z.1.same s,cZ s z.2⟩⟩
 | tup ds =>
  refine .inr (.inl (run _ fun v H' Hv' g r=>?_))
  obtain⟨p,xs,rfl,l,r⟩:=j8.mp r
  exact⟨p,rfl,⟨xs,.inl (.inl (g.vw.sub _ _ l))⟩,h (ZK K p) H' Hv' (fun H Hv=>Hv p=some (.tup xs)∧P2 (Rep Hv) ds xs) g (rY Pr (fun H Hv p v=>.inl (.inl (v.sub _ _ p.1))) (fun H Hv p=>p.2) ⟨H',Hv',l,r⟩) ⟨l,r⟩ fun H1 Hv1 H2 Hv2 z s v=>⟨s _ _ z.1,cZ s z.2⟩⟩
 | str z =>
  refine .inr (.inr (run _ fun v H' Hv' g r=>?_))
  exact⟨z,lZ.mp r,h (Xu z) H' Hv' (fun _ _=>True) g (rY Pu (fun _ _ _ _=>trivial) (fun H Hv _=>Fd Hv z) ⟨H,Hv,trivial⟩) trivial fun _ _ _ _ _ _ _=>trivial⟩
 | _=>exact h.elim
theorem RW(H:Hp)(lo hi:Int):P2 (Rep H) (Mi.bQ lo hi) (H9 lo (hi - lo).toNat):=by
 unfold Mi.bQ H9
 induction List.range (hi - lo).toNat with
 | nil=>exact .nil
 | cons c r ih=>exact .cons (oE.mpr rfl) ih
theorem Mt(lo hi:Int)(H Hv:Hp):ZP (XD lo (hi - lo).toNat) (fun _ _=>True) (Mi.bQ lo hi):=rY Px (fun _ _ _ _=>trivial) (fun H Hv _=>RW Hv lo hi) ⟨H,Hv,trivial⟩
theorem cj(ha:AE M qP ta a):Ny M (Vl (lX ta uK)) (Mi.bV a):=fun e σ H Hv R I h =>
 ha e σ H Hv _ I ((au.mp h).mono fun x hx v H1 Hv1 g1 rx=>by
  obtain⟨j,rfl,hk⟩:=Ef (au.mp hx)
  obtain⟨hz,hq⟩:=Mi.aX hk
  cases RD.int rx
  refine⟨j,rfl,hz.1,hz.2,?_⟩
  have:=hq (XD 0 (j - 0).toNat) H1 Hv1 _ g1 (Mt 0 j H Hv) trivial fun _ _ _ _ _ _ _=>trivial
  rw[Int.sub_zero] at this
  exact this)
end
def WT:List Nat→Nx
 | []=>Qw
 | i::r=>Gp (pD i) (WT r)
def xu:Tg→List Nat
 | .n i=>[i]
 | .t is=>is
def ZV(K:PySem.W.Frag):Tg→TG
 | .n i=>pD i
 | .t is=>WW K is.length (WT is)
section
variable{P:Mi.Env→L2.St→Prop}{H Hv:Hp}
theorem Qv:∀ {is:List Nat} {ds:List D} {xs:List V} {e:Mi.Env} {σ : L2.St} {Q:L2.St→Hp→Prop},(∀ i∈is,∀ e σ d v,P e σ→Rep Hv d v→P (e.set i (some (.d d))) (σ.set i (some v)))→P e σ→P2 (Rep Hv) ds xs →
 Fin (Mi.uM is ds e) (fun e'=>∀ σ',P e' σ'→Q σ' H)→WT is xs σ H Q
 | [],[],xs,e,σ,Q,cl,p,r,h=>by
  cases r
  exact⟨rfl,h σ p⟩
 | [],_::_,xs,e,σ,Q,cl,p,r,h=>h.elim
 | _::_,[],xs,e,σ,Q,cl,p,r,h=>h.elim
 | i::is,d::ds,xs,e,σ,Q,cl,p,r,h=>by
  cases r with
  | cons x t=>exact⟨_,_,rfl,Qv (fun j hj=>cl j (List.mem_cons_of_mem _ hj)) (cl i List.mem_cons_self _ _ _ _ p x) t h⟩
theorem xJ:∀ {is:List Nat} {ds:List D} {e:Mi.Env} {k:Mi.Env→Prop},Fin (Mi.uM is ds e) k→ds.length=is.length
 | [],[],_,_,_=>rfl
 | [],_::_,_,_,h=>h.elim
 | _::_,[],_,_,h=>h.elim
 | i::is,d::ds,e,k,h=>by rw[List.length_cons,List.length_cons,xJ (is:=is) (ds:=ds) (k:=k) h]
theorem HN{K:PySem.W.Frag}(vw:Vw H Hv){tg:Tg}{d:D}{v:V}{e:Mi.Env}{σ : L2.St}{Q:L2.St→Hp→Prop}(cl:∀ i∈xu tg,∀ e σ d v,P e σ→Rep Hv d v→P (e.set i (some (.d d))) (σ.set i (some v)))(p:P e σ)(r:Rep Hv d v)
 (h:Fin (tg.put d e) (fun e'=>∀ σ',P e' σ'→Q σ' H)):ZV K tg v σ H Q:=by
 cases tg with
 | n i=>exact h _ (cl i (by simp[xu]) _ _ _ _ p r)
 | t is =>
  cases d with
  | tup ds =>
   obtain⟨a,xs,e1,l,r⟩:=j8.mp r
   exact⟨a,xs,e1,.inl (.inl (vw.sub _ _ l)),by rw[← r.len];exact xJ h,Qv cl p r h⟩
  | _=>exact h.elim
end
theorem ju{α : Type}{l:List α}{i j:Nat}{x y:α}(h:(l.set i x)[j]? = some y):(i=j∧x=y∧i < l.length)∨(i≠j∧l[j]? = some y):=by
 rw[List.getElem?_set] at h
 split at h
 ·split at h
  ·exact .inl ⟨‹_›,Option.some.inj h,by omega⟩
  ·cases h
 ·exact .inr ⟨‹_›,h⟩
theorem R0.set{M:Nat→Bool}{e:Mi.Env}{σ : L2.St}{H Hv:Hp}(I:R0 M e σ H Hv){i:Nat}{w:W}{v:V}(hm:M i=false)(r:uC Hv w v):R0 M (e.set i (some w)) (σ.set i (some v)) H Hv:=by
 refine⟨I.vw,by rw[List.length_set,List.length_set];exact I.len,fun j w' h m=>?_,fun j w' h m=>?_⟩
 ·rcases ju h with ⟨rfl,h,l⟩|⟨n,h⟩
  ·cases h
   exact⟨v,by rw[List.getElem?_set_self (by rw[I.len];exact l)],r⟩
  ·obtain⟨u,q,z⟩:=I.nob j w' h m
   exact⟨u,by rw[List.getElem?_set_ne n];exact q,z⟩
 ·rcases ju h with ⟨rfl,h,l⟩|⟨n,h⟩
  ·rw[hm] at m;cases m
  ·obtain⟨u,q,z⟩:=I.own j w' h m
   exact⟨u,by rw[List.getElem?_set_ne n];exact q,z⟩
theorem R1.set{M:Nat→Bool}{H0 Hv0:Hp}{e:Mi.Env}{σ : L2.St}{H Hv:Hp}(I:R1 M H0 Hv0 e σ H Hv){i:Nat}{w:W}{v:V}(hm:M i=false)(r:uC Hv w v):R1 M H0 Hv0 (e.set i (some w)) (σ.set i (some v)) H Hv:=by
 have nj:∀ {j:Nat} {w':W},(e.set i (some w))[j]? = some (some w')→M j=true→i≠j∧e[j]? = some (some w'):=fun {j w'} h m=>by
  rcases ju h with ⟨rfl,_,_⟩|⟨n,h⟩
  ·rw[hm] at m;cases m
  ·exact⟨n,h⟩
 refine⟨I.toR0.set hm r,I.gw,fun j w' a h m q=>?_,fun j k w1 w2 a b hjk h1 h2 m1 m2 q1 q2=>?_⟩
 ·obtain⟨n,h⟩:=nj h m
  rw[List.getElem?_set_ne n] at q
  exact I.fresh j w' a h m q
 ·obtain⟨n1,h1⟩:=nj h1 m1
  obtain⟨n2,h2⟩:=nj h2 m2
  rw[List.getElem?_set_ne n1] at q1
  rw[List.getElem?_set_ne n2] at q2
  exact I.sep j k w1 w2 a b hjk h1 h2 m1 m2 q1 q2
def yc(ρ : List (Option Nat))(M:Nat→Bool):Nat→Bool:=fun i=>match ρ[i]? with
 | some (some j)=>M j
 | _=>false
theorem Fq{α : Type}{ρ : List (Option Nat)}{e:List (Option α)}{i:Nat}{w:α}(h:(ρ.map fun o=>o.bind fun j=>(e[j]?).join)[i]? = some (some w)):∃ j,ρ[i]? = some (some j)∧e[j]? = some (some w):=by
 rw[List.getElem?_map] at h
 cases hr:ρ[i]? with
 | none=>rw[hr] at h;cases h
 | some o =>
  rw[hr] at h
  cases o with
  | none=>cases h
  | some j =>
   refine⟨j,rfl,?_⟩
   have h:(e[j]?).join=some w:=Option.some.inj h
   cases hq:e[j]? with
   | none=>rw[hq] at h;cases h
   | some o' => rw [hq] at h; have h : o' = some w := h
                rw[h]
theorem JZ{α : Type}{ρ : List (Option Nat)}{e:List (Option α)}{i j:Nat}{w:α}(h1:ρ[i]? = some (some j))(h2:e[j]? = some (some w)):(ρ.map fun o=>o.bind fun j=>(e[j]?).join)[i]? = some (some w):=by
 rw[List.getElem?_map,h1]
 show some ((e[j]?).join)=_
 rw[h2];rfl
theorem R0.pick{M:Nat→Bool}{e:Mi.Env}{σ : L2.St}{H Hv:Hp}(I:R0 M e σ H Hv)(ρ : List (Option Nat)):R0 (yc ρ M) (Mi.rm ρ e) (L2.pick ρ σ) H Hv:=by
 refine⟨I.vw,by unfold Mi.rm L2.pick;rw[List.length_map,List.length_map],fun i w h m=>?_,fun i w h m=>?_⟩
 ·obtain⟨j,h1,h2⟩:=Fq h
  have m:M j=false:=by unfold yc at m;rw[h1] at m;exact m
  obtain⟨v,q,z⟩:=I.nob j w h2 m
  exact⟨v,JZ h1 q,z⟩
 ·obtain⟨j,h1,h2⟩:=Fq h
  have m:M j=true:=by unfold yc at m;rw[h1] at m;exact m
  obtain⟨v,q,z⟩:=I.own j w h2 m
  exact⟨v,JZ h1 q,z⟩
theorem M7{tg:Tg}{c:Mi.C}{a:Mi.E}{e:Mi.Env}{x:D}{r:List D}{k:List D→Prop}(h:Fin (Mi.dJ tg c a e (x::r)) k) :
 Fin (tg.put x e) fun e1=>Fin (c e1) fun b=>if b=true then Fin (a e1) fun y=>Fin (Mi.dJ tg c a e r) fun ys=>k (y::ys) else Fin (Mi.dJ tg c a e r) k:=by
 refine(au.mp h).mono fun e1 h1=>(au.mp h1).mono fun b h2=>?_
 cases b with
 | true=>exact Ja ((au.mp (Mi.Aq h2)).mono fun y h3=>(au.mp h3).mono fun ys h4=>h4)
 | false=>exact Jb (Mi.Av h2)
theorem eV{M:Nat→Bool}{K:PySem.W.Frag}{ρ : List (Option Nat)}{wi:TI}{it:Mi.I}{tg:Tg}{tc:TT}{c:Mi.C}{te:TE}{a:Mi.E}(hi:AIc M wi it)(hm:∀ i∈xu tg,yc ρ M i=false)(hc:AT (yc ρ M) tc c)(he:AE (yc ρ M) qV te a) :
 AE M qN (JN wi ρ (ZV K tg) tc te) (Mi.bN ρ it tg c a):=fun e σ H Hv Q I h =>
 hi e σ H Hv _ I ((au.mp h).mono fun ds h1 J H1 Hv1 P g1 O p1 per=>by
  obtain⟨hz,h1⟩:=Mi.aX h1
  have h1:=au.mp h1
  have I1:=I.grow g1
  refine⟨fun i m acc H'=>m=ds.length - i∧i≤ds.length∧∃ Hv',dG H1 Hv1 H' Hv'∧P H' Hv'∧acc.length≤i∧∃ done,P2 (Rep Hv') done acc∧Fin (Mi.dJ tg c a (Mi.rm ρ e) (ds.drop i)) fun ys=>∀ v H2 Hv2,dG H Hv H2 Hv2→qN H H2 Hv2 (.d (.lst (done++ys))) v→Q v H2,
   ⟨ds.length,by simp,Nat.zero_le _,Hv1,.refl g1.vw,p1,Nat.le_refl _,[],.nil,by rw[List.drop_zero];exact h1.mono fun ys z=>z⟩,?_⟩
  rintro i m acc H' ⟨rfl,hle,Hv',g,pp,l,done,pd,hf⟩
  by_cases hlt:i < ds.length
  ·refine .inr ⟨O.go i H' Hv' pp g.vw hlt,by rw[sizeLine_eq];omega,fun acc' H2=>∃ Hv2,dG H1 Hv1 H2 Hv2∧P H2 Hv2∧acc'.length≤i+1∧∃ done,P2 (Rep Hv2) done acc'∧Fin (Mi.dJ tg c a (Mi.rm ρ e) (ds.drop (i+1))) fun ys=>∀ v H3 Hv3,dG H Hv H3 Hv3→qN H H3 Hv3 (.d (.lst (done++ys))) v→Q v H3,
    fun acc' H2 z=>⟨ds.length - (i+1),by omega,rfl,hlt,z⟩,fun x H2 y=>?_⟩
   obtain⟨Hv2,d,g2,hd,rx⟩:=O.yld i H' Hv' x H2 pp g.vw hlt y
   have g12:=g.trans g2
   have hdr:ds.drop i=d::ds.drop (i+1):=by
    obtain⟨hl,e1⟩:=List.getElem?_eq_some_iff.mp hd
    rw[List.drop_eq_getElem_cons hl,e1]
   rw[hdr] at hf
   have hf:=M7 hf
   refine HN (P:=fun e1 σ1=>R0 (yc ρ M) e1 σ1 H2 Hv2) g2.vw (fun j hj e1 σ1 d1 v1 r1 z=>r1.set (hm j hj) z) ((I1.grow g12).pick ρ) rx (hf.mono fun e1 hf1 σ1 r1=>?_)
   refine hc e1 σ1 H2 Hv2 _ r1 (hf1.mono fun b hb H3 Hv3 g3=>?_)
   cases b with
   | true =>
    refine Ja (he e1 σ1 H3 Hv3 _ (r1.grow g3) (Fin.mono (by simpa using hb) fun y hy v H4 Hv4 g4 ry=>?_))
    exact⟨Hv4,g12.trans (g3.trans g4),per _ _ _ _ pp (g2.trans (g3.trans g4)),by rw[List.length_append,List.length_singleton];omega,done++[y],(cZ (g2.trans (g3.trans g4)).vis pd).append (.cons ry .nil),hy.mono fun ys z v H5 Hv5 g5 k=>z v H5 Hv5 g5 (by rw[List.append_assoc] at k;exact k)⟩
   | false=>exact Jb ⟨Hv3,g12.trans g3,per _ _ _ _ pp (g2.trans g3),by omega,done,cZ (g2.trans g3).vis pd,by simpa using hb⟩
  ·have hi:i=ds.length:=by omega
   subst hi
   refine .inl ⟨O.stop H' Hv' pp g.vw,fun p hp=>?_⟩
   rw[List.drop_of_length_le (Nat.le_refl _)] at hf
   have g2:dG H' Hv' (upd H' p (.lst acc)) Hv':=.PB g.vw trivial hp
   refine hf _ _ _ (g1.trans (g.trans g2)) ⟨p,.lst acc,rfl,(g1.old.trans g.old).free hp,bu,pQ g.vw hp,?_⟩
   show P2 (Rep Hv') (done++[]) acc
   rw[List.append_nil];exact pd)
def wz(M:Nat→Bool)(κ : Kd)(H0 Hv0:Hp)(D:Ends)(Hv:Hp):Out→Prop
 | .nx e=>∀ σ H' Hv',R1 M H0 Hv0 e σ H' Hv'→iM Hv Hv'→D.nx σ H'
 | .rt w=>∀ v H' Hv',dG H0 Hv0 H' Hv'→κ H0 H' Hv' w v→D.rt v H'
 | .bk e=>∀ σ H' Hv',R1 M H0 Hv0 e σ H' Hv'→iM Hv Hv'→D.bk σ H'
 | .ct e=>∀ σ H' Hv',R1 M H0 Hv0 e σ H' Hv'→iM Hv Hv'→D.ct σ H'
def AS(M:Nat→Bool)(κ : Kd)(t:TS)(m:Mi.S):Prop:=∀ H0 Hv0 e σ H Hv D,R1 M H0 Hv0 e σ H Hv→Fin (m e) (wz M κ H0 Hv0 D Hv)→t D σ H
section
variable{M:Nat→Bool}{κ : Kd}{t u:TS}{m n:Mi.S}{te:TE}{a b:Mi.E}{w:Mi.EW}
theorem du:AS M κ Uz Mi.bT:=fun H0 Hv0 e σ H Hv D I h=>h σ H Hv I (iM.refl _)
theorem G9:AS M κ Ob Mi.CK:=fun H0 Hv0 e σ H Hv D I h=>h
theorem aM(h1:AS M κ t m)(h2:AS M κ u n):AS M κ (XQ t u) (Mi.aY m n):=fun H0 Hv0 e σ H Hv D I h =>
 h1 H0 Hv0 e σ H Hv _ I ((au.mp h).mono fun o ho=>by
  cases o with
  | nx e'=>exact fun σ' H' Hv' I' s=>h2 H0 Hv0 e' σ' H' Hv' D I' (Fin.mono ho fun o z=>by
   cases o with
   | nx e2=>exact fun σ2 H2 Hv2 I2 s2=>z σ2 H2 Hv2 I2 (s.trans s2)
   | rt w=>exact z
   | bk e2=>exact fun σ2 H2 Hv2 I2 s2=>z σ2 H2 Hv2 I2 (s.trans s2)
   | ct e2=>exact fun σ2 H2 Hv2 I2 s2=>z σ2 H2 Hv2 I2 (s.trans s2))
  | rt w=>exact ho
  | bk e'=>exact ho
  | ct e'=>exact ho)
theorem K7(ha:AE M qP te a):AS M κ (Es te) (Mi.Fi a):=fun H0 Hv0 e σ H Hv D I h =>
 ha e σ H Hv _ I.toR0 ((au.mp h).mono fun d hd v H1 Hv1 g1 r=>hd σ H1 Hv1 (I.grow g1) g1.vis)
theorem bx(i:Nat)(hm:M i=false)(ha:AE M qV te a):AS M κ (Et te (pD i)) (Mi.bw i a):=fun H0 Hv0 e σ H Hv D I h =>
 ha e σ H Hv _ I.toR0 ((au.mp h).mono fun d hd v H1 Hv1 g1 r=>hd _ H1 Hv1 ((I.grow g1).set hm r) g1.vis)
theorem Xf{K:PySem.W.Frag}(tg:Tg)(hm:∀ i∈xu tg,M i=false)(ha:AE M qV te a):AS M κ (Et te (ZV K tg)) (Mi.Yb tg a):=fun H0 Hv0 e σ H Hv D I h =>
 ha e σ H Hv _ I.toR0 ((au.mp h).mono fun d hd v H1 Hv1 g1 r =>
  HN (P:=fun e1 σ1=>R1 M H0 Hv0 e1 σ1 H1 Hv1) g1.vw (fun j hj e1 σ1 d1 v1 r1 z=>r1.set (hm j hj) z) (I.grow g1) r ((au.mp hd).mono fun e1 h1 σ1 I1=>h1 σ1 H1 Hv1 I1 g1.vis))
theorem gj(ha:AW M qV te w):AS M qV (HQ te) (Mi.fc w):=fun H0 Hv0 e σ H Hv D I h =>
 ha e σ H Hv _ I.toR0 ((au.mp h).mono fun d hd v H1 Hv1 g1 r=>hd v H1 Hv1 (I.gw.trans g1) r)
theorem mG(ha:AW M qN te w):AS M qN (HQ te) (Mi.fc w):=fun H0 Hv0 e σ H Hv D I h =>
 ha e σ H Hv _ I.toR0 ((au.mp h).mono fun d hd v H1 Hv1 g1 r=>hd v H1 Hv1 (I.gw.trans g1) (KM.mono (κ:=qN) I.gw.old r))
theorem iz{tt:TT}{c:Mi.C}(hc:AT M tt c)(h1:AS M κ t m)(h2:AS M κ u n):AS M κ (XX tt t u) (Mi.jP c m n):=fun H0 Hv0 e σ H Hv D I h =>
 hc e σ H Hv _ I.toR0 ((au.mp h).mono fun b hb H1 Hv1 g1=>by
  have up:∀ o,wz M κ H0 Hv0 D Hv o→wz M κ H0 Hv0 D Hv1 o:=fun o z=>by
   cases o with
   | nx e2=>exact fun σ2 H2 Hv2 I2 s2=>z σ2 H2 Hv2 I2 (g1.vis.trans s2)
   | rt w=>exact z
   | bk e2=>exact fun σ2 H2 Hv2 I2 s2=>z σ2 H2 Hv2 I2 (g1.vis.trans s2)
   | ct e2=>exact fun σ2 H2 Hv2 I2 s2=>z σ2 H2 Hv2 I2 (g1.vis.trans s2)
  cases b with
  | true=>exact Ja (h1 H0 Hv0 e σ H1 Hv1 D (I.grow g1) (Fin.mono (Mi.Aq hb) up))
  | false=>exact Jb (h2 H0 Hv0 e σ H1 Hv1 D (I.grow g1) (Fin.mono (Mi.Av hb) up)))
theorem wz.up{H0 Hv0 Hv Hv1:Hp}{D:Ends}(s:iM Hv Hv1){o:Out}(z:wz M κ H0 Hv0 D Hv o):wz M κ H0 Hv0 D Hv1 o:=by
 cases o with
 | nx e2=>exact fun σ2 H2 Hv2 I2 s2=>z σ2 H2 Hv2 I2 (s.trans s2)
 | rt w=>exact z
 | bk e2=>exact fun σ2 H2 Hv2 I2 s2=>z σ2 H2 Hv2 I2 (s.trans s2)
 | ct e2=>exact fun σ2 H2 Hv2 I2 s2=>z σ2 H2 Hv2 I2 (s.trans s2)
theorem cL{K:PySem.W.Frag}{wi:TI}{it:Mi.I}{tg:Tg}(hi:Ny M wi it)(hm:∀ i∈xu tg,M i=false)(hb:AS M κ t m):AS M κ (X3 wi (ZV K tg) t) (Mi.eG it tg m):=fun H0 Hv0 e σ H Hv D I h =>
 hi e σ H Hv _ I.toR0 ((au.mp h).mono fun ds h1 J H1 Hv1 P g1 O p1 per=>by
  refine⟨fun i k σ' H'=>k=ds.length - i∧i≤ds.length∧∃ e' Hv',R1 M H0 Hv0 e' σ' H' Hv'∧P H' Hv'∧Fin (Mi.qw tg m (ds.drop i) e') (wz M κ H0 Hv0 D Hv'),
   ⟨ds.length,by simp,Nat.zero_le _,e,Hv1,I.grow g1,p1,by rw[List.drop_zero];exact h1.mono fun o z=>z.up g1.vis⟩,?_⟩
  rintro i k σ' H' ⟨rfl,hle,e',Hv',I',pp,hf⟩
  by_cases hlt:i < ds.length
  ·refine .inr ⟨O.go i H' Hv' pp I'.vw hlt,fun σ2 H2=>∃ e2 Hv2,R1 M H0 Hv0 e2 σ2 H2 Hv2∧P H2 Hv2∧Fin (Mi.qw tg m (ds.drop (i+1)) e2) (wz M κ H0 Hv0 D Hv2),
    fun σ2 H2 z=>⟨ds.length - (i+1),by omega,rfl,hlt,z⟩,fun x H2 y=>?_⟩
   obtain⟨Hv2,d,g2,hd,rx⟩:=O.yld i H' Hv' x H2 pp I'.vw hlt y
   have I2:=I'.grow g2
   have hdr:ds.drop i=d::ds.drop (i+1):=by
    obtain⟨hl,e1⟩:=List.getElem?_eq_some_iff.mp hd
    rw[List.drop_eq_getElem_cons hl,e1]
   rw[hdr] at hf
   refine HN (P:=fun e1 σ1=>R1 M H0 Hv0 e1 σ1 H2 Hv2) g2.vw (fun j hj e1 σ1 d1 v1 r1 z=>r1.set (hm j hj) z) I2 rx ((au.mp hf).mono fun e1 h1 σ1 I1=>?_)
   refine hb H0 Hv0 e1 σ1 H2 Hv2 _ I1 ((au.mp h1).mono fun o ho=>?_)
   cases o with
   | nx e2=>exact fun σ2 H3 Hv3 I3 s3=>⟨e2,Hv3,I3,per _ _ _ _ pp (g2.vis.trans s3) I3.vw,Fin.mono ho fun o z=>z.up (g2.vis.trans s3)⟩
   | ct e2=>exact fun σ2 H3 Hv3 I3 s3=>⟨e2,Hv3,I3,per _ _ _ _ pp (g2.vis.trans s3) I3.vw,Fin.mono ho fun o z=>z.up (g2.vis.trans s3)⟩
   | bk e2=>exact fun σ2 H3 Hv3 I3 s3=>ho σ2 H3 Hv3 I3 (g2.vis.trans s3)
   | rt w=>exact ho
  ·have hi:i=ds.length:=by omega
   subst hi
   refine .inl ⟨O.stop H' Hv' pp I'.vw,?_⟩
   rw[List.drop_of_length_le (Nat.le_refl _)] at hf
   exact hf σ' H' Hv' I' (iM.refl _))
end
end A
namespace A
open PySem L2 PyProof.Rows
open Mi (D W Rs Fin au Out Tg)
variable[Tb:gH]
section
variable{M:Nat→Bool}{κ : Kd}{te:TE}{a b:Mi.E}{w:Mi.EW}{K:PySem.W.Frag}
theorem R1.write{H0 Hv0:Hp}{e:Mi.Env}{σ : L2.St}{H Hv:Hp}(I:R1 M H0 Hv0 e σ H Hv){i:Nat}{w w':W}{p:Addr}{o:HO}(hm:M i=true)(he:e[i]? = some (some w))(hs:σ[i]? = some (some (.ref p)))(c:fj Hv w' o):R1 M H0 Hv0 (e.set i (some w')) σ (upd H p o) Hv:=by
 have hp:∃ o',H p=some o'∧Hv p=none∧Hu o':=by
  obtain⟨v,q,a,o',e1,q1,n,c'⟩:=I.own i w he hm
  rw[hs] at q;cases q;cases e1
  exact⟨o',q1,n,c'.Vr⟩
 obtain⟨o',hp,hn,hcc⟩:=hp
 have h0:H0 p=none:=I.fresh i w p he hm hs
 have vw:Vw (upd H p o) Hv:=by
  refine⟨fun b u q=>?_,fun b xs q=>?_,fun b z u q=>?_,I.vw.cd.put hp hcc c.nt,I.vw.nv⟩
  ·rw[aN (bc q hn)];exact I.vw.sub b u q
  ·by_cases hb:b=p
   ·subst hb;rw[bu] at q;cases q;exact c.cell.elim
   ·rw[aN hb] at q;exact I.vw.tup b xs q
  ·by_cases hb:b=p
   ·subst hb;rw[bu] at q;cases q;exact c.cell.elim
   ·rw[aN hb] at q;exact I.vw.frz b z u q
 have get:∀ {j:Nat} {w2:W},(e.set i (some w'))[j]? = some (some w2)→(i=j∧w'=w2)∨(i≠j∧e[j]? = some (some w2)):=fun {j w2} h=>by
  rcases ju h with ⟨x,y,_⟩|z
  ·exact .inl ⟨x,Option.some.inj y⟩
  ·exact .inr z
 have get':∀ {j:Nat} {w2:W},(e.set i (some w'))[j]? = some (some w2)→∃ w3,e[j]? = some (some w3):=fun {j w2} h=>by
  rcases get h with ⟨x,_⟩|⟨_,z⟩
  ·subst x;exact⟨w,he⟩
  ·exact⟨w2,z⟩
 refine⟨⟨vw,by rw[List.length_set];exact I.len,fun j w2 h m=>?_,fun j w2 h m=>?_⟩,⟨I.gw.old.put h0 hp,I.gw.vis,vw,I.gw.hid⟩,fun j w2 x h m q=>?_,fun j k w1 w2 x y hjk h1 h2 m1 m2 q1 q2=>?_⟩
 ·rcases get h with ⟨rfl,_⟩|⟨_,z⟩
  ·rw[hm] at m;cases m
  ·exact I.nob j w2 z m
 ·rcases get h with ⟨rfl,rfl⟩|⟨n,z⟩
  ·exact⟨.ref p,hs,p,o,rfl,bu,hn,c⟩
  ·obtain⟨v,q,x,u,e1,q1,n1,c1⟩:=I.own j w2 z m
   subst e1
   have:=I.sep i j w w2 p x n he z hm m hs q
   exact⟨.ref x,q,x,u,rfl,by rw[aN (Ne.symm this)];exact q1,n1,c1⟩
 ·obtain⟨w3,z⟩:=get' h
  exact I.fresh j w3 x z m q
 ·obtain⟨w3,z3⟩:=get' h1
  obtain⟨w4,z4⟩:=get' h2
  exact I.sep j k w3 w4 x y hjk z3 z4 m1 m2 q1 q2
theorem R1.cell{H0 Hv0:Hp}{e:Mi.Env}{σ : L2.St}{H Hv:Hp}(I:R1 M H0 Hv0 e σ H Hv){i:Nat}{w:W}(hm:M i=true)(he:e[i]? = some (some w)):∃ p o,σ[i]? = some (some (.ref p))∧H p=some o∧Hv p=none∧H0 p=none∧fj Hv w o:=by
 obtain⟨v,q,p,o,rfl,q1,n,c⟩:=I.own i w he hm
 exact⟨p,o,q,q1,n,I.fresh i w p he hm q,c⟩
theorem uc{e:Mi.Env}{i:Nat}{k:List D→Prop}(h:Fin (Mi.getL e i) k):∃ ds,e[i]? = some (some (.d (.lst ds)))∧k ds:=by
 unfold Mi.getL at h
 split at h
 ·exact⟨_,‹_›,h⟩
 ·exact h.elim
theorem R1.list{H0 Hv0:Hp}{e:Mi.Env}{σ : L2.St}{H Hv:Hp}(I:R1 M H0 Hv0 e σ H Hv){i:Nat}{ds:List D}(hm:M i=true)(he:e[i]? = some (some (.d (.lst ds)))):∃ p xs,σ[i]? = some (some (.ref p))∧H p=some (.lst xs)∧Hv p=none∧P2 (Rep Hv) ds xs:=by
 obtain⟨p,o,q,q1,n,_,c⟩:=I.cell hm he
 cases o with
 | lst xs=>exact⟨p,xs,q,q1,n,c⟩
 | _=>exact c.elim
theorem R1.name{H0 Hv0:Hp}{e:Mi.Env}{σ : L2.St}{H Hv H1 Hv1:Hp}(I:R1 M H0 Hv0 e σ H Hv)(g:dG H Hv H1 Hv1){i:Nat}{w:W}{v:V}(hm:M i=true)(k:qN H H1 Hv1 w v):R1 M H0 Hv0 (e.set i (some w)) (σ.set i (some v)) H1 Hv1:=by
 obtain⟨p,o,rfl,hf,hp,hn,c⟩:=k
 have I1:=I.grow g
 have other:∀ {j:Nat} {w2:W} {x:Addr},e[j]? = some (some w2)→M j=true→σ[j]? = some (some (.ref x))→x≠p:=fun {j w2 x} h m q=>by
  obtain⟨p',o',q',q1,_⟩:=I.cell m h
  rw[q] at q';cases q'
  exact bc q1 hf
 refine⟨⟨I1.vw,by rw[List.length_set,List.length_set];exact I.len,fun j w2 h m=>?_,fun j w2 h m=>?_⟩,I1.gw,fun j w2 x h m q=>?_,fun j k w1 w2 x y hjk h1 h2 m1 m2 q1 q2=>?_⟩
 ·rcases ju h with ⟨rfl,_⟩|⟨n,z⟩
  ·rw[hm] at m;cases m
  ·obtain⟨u,q,r⟩:=I1.nob j w2 z m
   exact⟨u,by rw[List.getElem?_set_ne n];exact q,r⟩
 ·rcases ju h with ⟨rfl,h,l⟩|⟨n,z⟩
  ·cases h
   exact⟨.ref p,by rw[List.getElem?_set_self (by rw[I.len];exact l)],p,o,rfl,hp,hn,c⟩
  ·obtain⟨u,q,r⟩:=I1.own j w2 z m
   exact⟨u,by rw[List.getElem?_set_ne n];exact q,r⟩
 ·rcases ju h with ⟨rfl,h,l⟩|⟨n,z⟩
  ·rw[List.getElem?_set_self (by rw[I.len];exact l)] at q
   cases q
   exact I.gw.old.free hf
  ·rw[List.getElem?_set_ne n] at q
   exact I.fresh j w2 x z m q
 ·rcases ju h1 with ⟨rfl,_,l⟩|⟨n,z⟩
  ·rw[List.getElem?_set_self (by rw[I.len];exact l)] at q1
   cases q1
   rcases ju h2 with ⟨rfl,_,_⟩|⟨n2,z2⟩
   ·exact absurd rfl hjk
   ·rw[List.getElem?_set_ne n2] at q2
    exact Ne.symm (other z2 m2 q2)
  ·rw[List.getElem?_set_ne n] at q1
   rcases ju h2 with ⟨rfl,_,l⟩|⟨n2,z2⟩
   ·rw[List.getElem?_set_self (by rw[I.len];exact l)] at q2
    cases q2
    exact other z m1 q1
   ·rw[List.getElem?_set_ne n2] at q2
    exact I.sep j k w1 w2 x y hjk z z2 m1 m2 q1 q2
theorem iH(i:Nat)(hm:M i=true)(ha:AE M qN te a):AS M κ (Et te (pD i)) (Mi.bw i a):=fun H0 Hv0 e σ H Hv D I h =>
 ha e σ H Hv _ I.toR0 ((au.mp h).mono fun d hd v H1 Hv1 g1 r=>hd _ H1 Hv1 (I.name g1 hm r) g1.vis)
theorem Uj(i:Nat)(hm:M i=true)(ha:AW M qN te w):AS M κ (Et te (pD i)) (Mi.UT i w):=fun H0 Hv0 e σ H Hv D I h =>
 ha e σ H Hv _ I.toR0 ((au.mp h).mono fun d hd v H1 Hv1 g1 r=>hd _ H1 Hv1 (I.name g1 hm r) g1.vis)
theorem Rf:AW M qN Oc (fun _=>.ok (.dk [])):=fun e σ H Hv Q I h p hp =>
 h _ _ Hv (.PB I.vw trivial hp) ⟨p,.dK [],rfl,hp,bu,pQ I.vw hp,.nil⟩
theorem gP(i:Nat)(hm:M i=true)(ha:AE M qV te a):AS M κ (Es (Xx K "list" CN (wH i) (lX te uK))) (Mi.bJ i a):=fun H0 Hv0 e σ H Hv D I h=>by
 obtain⟨d,hd,h⟩:=jE (au.mp h)
 obtain⟨ds,he,h⟩:=uc (au.mp h)
 obtain⟨hz,h⟩:=Mi.aX h
 obtain⟨p,xs,q,q1,n,c⟩:=I.list hm he
 refine⟨.ref p,q,.inl ⟨rfl,xs,.inl (.inl q1)⟩,ha e σ H Hv _ I.toR0 (by
  rw[hd]
  intro v H1 Hv1 g1 r
  have I1:=I.grow g1
  refine⟨p,xs,v,rfl,rfl,g1.old.at q1,by rw[← c.len,sizeLine_eq];exact hz,?_⟩
  exact h σ _ Hv1 (I1.write hm he q (show fj Hv1 (.d (.lst (ds++[d]))) (.lst (xs++[v])) from (cZ g1.vis c).append (.cons r .nil))) g1.vis)⟩
theorem jB{α : Type}{o:Option α}{k:α→Prop}(h:Fin (Mi.pJ o) k):∃ x,o=some x∧k x:=by
 cases o with
 | some x=>exact⟨x,rfl,h⟩
 | none=>exact h.elim
theorem X8{n:Nat}{i:Int}{k:Nat}(h:Mi.zE n i=some k):seqIndex? i n=some k:=by
 unfold Mi.zE at h
 split at h
 ·split at h
  ·rw[seqIndex_of (by omega) (by omega)];exact h
  ·cases h
 ·split at h
  ·rw[seqIndex_neg (by omega) (by omega)];exact h
  ·cases h
theorem O7{ds:List D}{i:Int}{k:D×List D→Prop}(h:Fin (Mi.JX ds i) k):-(2 ^ 63)≤i∧i < 2 ^ 63∧∃ j d,Mi.zE ds.length i=some j∧ds[j]? = some d∧k (d,ds.eraseIdx j):=by
 obtain⟨⟨h1,h2⟩,h⟩:=Mi.aX h
 obtain⟨j,hj,h⟩:=jB (au.mp h)
 obtain⟨d,hd,h⟩:=jB (au.mp h)
 exact⟨h1,h2,j,d,hj,hd,h⟩
theorem Ed(x y:Nat)(hxy:x≠y)(hx:M x=true)(hy:M y=true)(ha:AE M qP te a):AS M κ (Es (Xx K "list" CN (wH x) (lX (Xx K "list" Oz (wH y) (lX te uK)) uK))) (Mi.oh x y a):=fun H0 Hv0 e σ H Hv D I h=>by
 obtain⟨z,hz,h⟩:=jE (au.mp h)
 obtain⟨i,rfl,h⟩:=Ef (au.mp h)
 obtain⟨ds,he,h⟩:=uc (au.mp h)
 obtain⟨h1,h2,j,d,hj,hd,h⟩:=O7 (au.mp h)
 obtain⟨es,he2,h⟩:=uc (au.mp h)
 obtain⟨hsz,h⟩:=Mi.aX h
 have Y6:e[x]? = some (some (.d (.lst es))):=by
  have he2:(e.set y (some (.d (.lst (ds.eraseIdx j)))))[x]? = _:=he2
  rwa [List.getElem?_set_ne (Ne.symm hxy)] at he2
 obtain⟨p,xs,q,q1,n,c⟩:=I.list hy he
 obtain⟨p',xs',q',q1',n',c'⟩:=I.list hx Y6
 have hpp:p'≠p:=I.sep x y _ _ p' p hxy Y6 he hx hy q' q
 refine⟨.ref p',q',.inl ⟨rfl,xs',.inl (.inl q1')⟩,.ref p,q,.inl ⟨rfl,xs,.inl (.inl q1)⟩,ha e σ H Hv _ I.toR0 (by
  rw[hz]
  intro v H1 Hv1 g1 r
  have I1:=I.grow g1
  cases RD.int r
  obtain⟨u,hu,ru⟩:=c.getL hd
  rw[c.len] at hj
  refine⟨p,xs,i,j,u,rfl,rfl,g1.old.at q1,h1,h2,X8 hj,hu,?_⟩
  have I2:=I1.write hy he q (show fj Hv1 (.d (.lst (ds.eraseIdx j))) (.lst (xs.eraseIdx j)) from (cZ g1.vis c).erase j)
  refine⟨p',xs',u,rfl,rfl,by rw[aN hpp];exact g1.old.at q1',by rw[← c'.len,sizeLine_eq];exact hsz,?_⟩
  exact h σ _ Hv1 (I2.write hx he2 q' (show fj Hv1 (.d (.lst (es++[d]))) (.lst (xs'++[u])) from (cZ g1.vis c').append (.cons (lK g1.vis ru) .nil))) g1.vis)⟩
theorem G8{tk:TE}{k:Mi.E}(x:Nat)(hx:M x=true)(ha:AE M qV te a)(hk:AE M qP tk k):AS M κ (Et te (Y9 (wH x) tk U4)) (Mi.uU x k a):=fun H0 Hv0 e σ H Hv D I h=>by
 obtain⟨d,hd,h⟩:=jE (au.mp h)
 obtain⟨z,hz,h⟩:=jE (au.mp h)
 obtain⟨i,rfl,h⟩:=Ef (au.mp h)
 obtain⟨ds,he,h⟩:=uc (au.mp h)
 obtain⟨j,hj,h⟩:=jB (au.mp h)
 obtain⟨p,xs,q,q1,n,c⟩:=I.list hx he
 refine ha e σ H Hv _ I.toR0 (by
  rw[hd]
  intro v H1 Hv1 g1 r
  refine⟨.ref p,q,hk e σ H1 Hv1 _ (I.toR0.grow g1) (by
   rw[hz]
   intro v2 H2 Hv2 g2 r2
   cases RD.int r2
   have I2:=(I.grow g1).grow g2
   rw[c.len] at hj
   refine⟨p,xs,i,j,rfl,rfl,g2.old.at (g1.old.at q1),hj,?_⟩
   exact h σ _ Hv2 (I2.write hx he q (show fj Hv2 (.d (.lst (ds.set j d))) (.lst (xs.set j v)) from P2.set (lK g2.vis r) j (cZ (g1.trans g2).vis c))) (g1.trans g2).vis)⟩)
theorem j4(i:Nat)(hm:M i=true):AS M qN (HQ (wH i)) (Mi.fc (Mi.wV i)):=fun H0 Hv0 e σ H Hv D I h=>by
 obtain⟨w,he,h⟩:=NP (au.mp h)
 obtain⟨p,o,q,q1,n,h0,c⟩:=I.cell hm he
 exact⟨.ref p,q,h _ H Hv I.gw ⟨p,o,rfl,h0,q1,n,c⟩⟩
theorem R1.V1{H0 Hv0:Hp}{e:Mi.Env}{σ : L2.St}{H Hv:Hp}(I:R1 M H0 Hv0 e σ H Hv){y:Nat}{w:W}(hy:M y=true)(he:e[y]? = some (some w)):∃ p Hv',σ[y]? = some (some (.ref p))∧R1 M H0 Hv0 (e.set y none) σ H Hv'∧iM Hv Hv'∧uC Hv' w (.ref p):=by
 obtain⟨p,o,q,q1,n,h0,c⟩:=I.cell hy he
 obtain⟨vw,s⟩:=I.vw.show q1 n c.nt
 have nj:∀ {j:Nat} {w':W},(e.set y none)[j]? = some (some w')→y≠j∧e[j]? = some (some w'):=fun {j w'} h=>by
  rcases ju h with ⟨_,h,_⟩|z
  ·cases h
  ·exact z
 refine⟨p,upd Hv p o,q,⟨⟨vw,by rw[List.length_set];exact I.len,fun j w' h m=>?_,fun j w' h m=>?_⟩,⟨I.gw.old,I.gw.vis.trans s,vw,fun b u z1 z2=>?_⟩,fun j w' x h m z=>?_,fun j k w1 w2 x z hjk h1 h2 m1 m2 z1 z2=>?_⟩,s,uW bu (c.same s)⟩
 ·obtain⟨_,h⟩:=nj h
  obtain⟨v,z,r⟩:=I.nob j w' h m
  exact⟨v,z,nq s r⟩
 ·obtain⟨hne,h⟩:=nj h
  obtain⟨v,z,x,u,e1,q2,n2,c2⟩:=I.own j w' h m
  subst e1
  have:=I.sep y j w w' p x hne he h hy m q z
  exact⟨.ref x,z,x,u,rfl,q2,by rw[aN (Ne.symm this)];exact n2,c2.same s⟩
 ·rw[aN (bc z1 h0)];exact I.gw.hid b u z1 z2
 ·exact I.fresh j w' x (nj h).2 m z
 ·exact I.sep j k w1 w2 x z hjk (nj h1).2 (nj h2).2 m1 m2 z1 z2
theorem Dr{κ':Type}[DecidableEq κ']{H:Hp}{k:κ'}{kvs:List (κ'×D)}{kv:List (κ'×V)}(h:En H kvs kv):match Mi.wG kvs k with
 | some d=>∃ v,rH kv k=some v∧Rep H d v
 | none=>rH kv k=none:=by
 unfold Mi.wG rH
 induction h with
 | nil=>rfl
 | @cons p q l m hpq t ih =>
  rw[List.find?_cons,List.find?_cons,hpq.1]
  by_cases hk:q.1=k
  ·rw[decide_eq_true hk]
   exact⟨q.2,rfl,hpq.2⟩
  ·rw[decide_eq_false hk]
   exact ih
theorem Kg{κ':Type}[DecidableEq κ']{H:Hp}{k:κ'}{d:D}{v:V}(r:Rep H d v){kvs:List (κ'×D)}{kv:List (κ'×V)}(h:En H kvs kv):En H (Mi.putK k d kvs) (L2.putK kv k v):=by
 have e:(kvs.any fun x=>decide (x.1=k))=(kv.any fun x=>decide (x.1=k)):=by
  induction h with
  | nil=>rfl
  | @cons p q l m hpq t ih=>rw[List.any_cons,List.any_cons,ih,hpq.1]
 unfold Mi.putK L2.putK
 rw[e]
 split
 ·rename_i hh
  clear hh e
  induction h with
  | nil=>exact .nil
  | @cons p q l m hpq t ih =>
   rw[List.map_cons,List.map_cons]
   refine .cons ?_ ih
   ·by_cases hk:q.1=k
    ·rw[if_pos hk,if_pos (hpq.1.trans hk)];exact⟨hpq.1,r⟩
    ·rw[if_neg hk,if_neg (fun z=>hk (hpq.1.symm.trans z))];exact hpq
 ·exact P2.append h (.cons ⟨rfl,r⟩ .nil)
end
end A
namespace A
open PySem L2 PyProof.Rows
open Mi (D W Rs Fin au Out Tg)
variable[Tb:gH]
section
variable{X:Cx}{K:PySem.W.Frag}
def R3:R2:=fun x y H Q=>∃ i j,x=.str i∧y=.str j∧i.length+j.length≤sizeLine∧Q (.str (i++j)) H
theorem Mj{pins:List (Addr×Obj)}{σ : L2.St}{H:Hp}{s:Shared}{a:Addr}{xs:List V}(I:Inv X pins σ H s)(h:Lst H a xs):∃ (its:List Value) (n:Nat),Vals xs its∧xs.length≤sizeLine∧s.heap.get? a=some { cls:=.type "list", data:=.seq its.toArray n }:=by
 rcases h with h|⟨o,h⟩
 ·obtain⟨z,its,n,r,e⟩:=I.hok a _ h
  exact⟨its,n,r,z,e⟩
 ·obtain⟨_,z,its,n,r,e⟩:=I.hok a _ h
  exact⟨its,n,r,z,e⟩
def OD:R2:=fun x y H Q=>∃ l b xs zs,x=.ref l∧y=.ref b∧Lst H l xs∧Lst H b zs∧xs.length+zs.length≤sizeLine∧∀ p,H p=none→Q (.ref p) (upd H p (.lst (xs++zs)))
theorem J3:qD X (binaryOp .Add) OD:=by
 intro pins s σ H x y v u Q I rx ry h
 obtain⟨l,b,xs,zs,rfl,rfl,hH,hB,hz,q⟩:=h
 cases rx
 cases ry
 obtain⟨its,n,r,z,e⟩:=Mj I hH
 obtain⟨its2,n2,r2,z2,e2⟩:=Mj I hB
 have hl:=r.length
 have hl2:=r2.length
 refine PySem.P.add_list e e2 ?_ (by rw[List.size_toArray,List.size_toArray];omega)
 have ea:its.toArray++its2.toArray=(its++its2).toArray:=by simp
 rw[ea]
 exact⟨.ref _,_,I.YM (t':=s.toks) (r.append r2) (by rw[List.length_append];omega),rfl,q _ I.fresh⟩
def Va:R2:=fun x y H Q=>RC (fun i j=>.int (i+j)) x y H Q∨R3 x y H Q∨OD x y H Q
theorem bF:qD X (binaryOp .Add) Va:=Wg.or (qD.or Ij J3)
theorem u0{H Hv:Hp}(vw:Vw H Hv){ds:List D}{xs:List V}(r:P2 (Rep Hv) ds xs){p:Addr}(hp:H p=none):dG H Hv (upd H p (.lst xs)) Hv∧qN H (upd H p (.lst xs)) Hv (.d (.lst ds)) (.ref p) :=
 ⟨.PB vw trivial hp,p,.lst xs,rfl,hp,bu,pQ vw hp,r⟩
theorem Iv{H Hv:Hp}(vw:Vw H Hv){ds:List D}{xs:List V}(r:P2 (Rep Hv) ds xs){p:Addr}(hp:H p=none):dG H Hv (upd H p (.lst xs)) (upd Hv p (.lst xs))∧qV H (upd H p (.lst xs)) (upd Hv p (.lst xs)) (.d (.lst ds)) (.ref p):=by
 have g:dG H Hv (upd H p (.lst xs)) (upd Hv p (.lst xs)):=.new vw hp
 exact⟨g,oA.mpr ⟨p,xs,rfl,.inl bu,cZ g.vis r⟩⟩
theorem Iw{H Hv:Hp}(vw:Vw H Hv){ds:List D}{xs:List V}(r:P2 (Rep Hv) ds xs){p:Addr}(hp:H p=none):dG H Hv (upd H p (.tup xs)) (upd Hv p (.tup xs))∧qV H (upd H p (.tup xs)) (upd Hv p (.tup xs)) (.d (.tup ds)) (.ref p):=by
 have g:dG H Hv (upd H p (.tup xs)) (upd Hv p (.tup xs)):=.new vw hp
 exact⟨g,j8.mpr ⟨p,xs,rfl,bu,cZ g.vis r⟩⟩
theorem dh:B2 qV Va Mi.bz:=fun x y v u H Hv Q vw rx ry h=>by
 cases x with
 | int i=>cases y with
  | int j=>cases RD.int rx;cases RD.int ry;exact .inl ⟨i,j,rfl,rfl,h _ H Hv (.refl vw) ik⟩
  | _=>exact h.elim
 | str i=>cases y with
  | str j =>
   cases RD.str rx;cases RD.str ry
   obtain⟨hz,h⟩:=Mi.aX h
   exact .inr (.inl ⟨i,j,rfl,rfl,by rw[sizeLine_eq];exact hz,h _ H Hv (.refl vw) xX⟩)
  | _=>exact h.elim
 | lst a=>cases y with
  | lst b =>
   obtain⟨hz,h⟩:=Mi.aX h
   obtain⟨p,xs,rfl,l1,r1⟩:=RD.lst vw rx
   obtain⟨q,ys,rfl,l2,r2⟩:=RD.lst vw ry
   refine .inr (.inr ⟨p,q,xs,ys,rfl,rfl,l1,l2,by rw[← r1.len,← r2.len,sizeLine_eq];exact hz,fun a ha=>?_⟩)
   obtain⟨g,k⟩:=Iv vw (r1.append r2) ha
   exact h _ _ _ g k
  | _=>exact h.elim
 | _=>cases y<;>exact h.elim
theorem Zo:B2 qN OD Mi.dCat:=fun x y v u H Hv Q vw rx ry h=>by
 cases x with
 | lst a=>cases y with
  | lst b =>
   obtain⟨hz,h⟩:=Mi.aX h
   obtain⟨p,xs,rfl,l1,r1⟩:=RD.lst vw rx
   obtain⟨q,ys,rfl,l2,r2⟩:=RD.lst vw ry
   refine⟨p,q,xs,ys,rfl,rfl,l1,l2,by rw[← r1.len,← r2.len,sizeLine_eq];exact hz,fun a ha=>?_⟩
   obtain⟨g,k⟩:=u0 vw (r1.append r2) ha
   exact h _ _ _ g k
  | _=>exact h.elim
 | _=>cases y<;>exact h.elim
theorem Bl:B2 qV (RC fun i j=>.int (i - j)) Mi.qx:=fun x y v u H Hv Q vw rx ry h=>by
 cases x with
 | int i=>cases y with
  | int j=>cases RD.int rx;cases RD.int ry;exact⟨i,j,rfl,rfl,h _ H Hv (.refl vw) ik⟩
  | _=>exact h.elim
 | _=>cases y<;>exact h.elim
theorem nP:B2 qV (rI Uw fun i j=>.int (i * j)) Mi.cD:=fun x y v u H Hv Q vw rx ry h=>by
 cases x with
 | int i=>cases y with
  | int j=>cases RD.int rx;cases RD.int ry;obtain⟨hz,h⟩:=Mi.aX h;exact⟨i,j,rfl,rfl,hz,h _ H Hv (.refl vw) ik⟩
  | _=>exact h.elim
 | _=>cases y<;>exact h.elim
theorem iG:B2 qV (rI Vx fun i j=>.int (i / j)) Mi.eE:=fun x y v u H Hv Q vw rx ry h=>by
 cases x with
 | int i=>cases y with
  | int j=>cases RD.int rx;cases RD.int ry;obtain⟨hz,h⟩:=Mi.aX h;exact⟨i,j,rfl,rfl,hz,h _ H Hv (.refl vw) ik⟩
  | _=>exact h.elim
 | _=>cases y<;>exact h.elim
theorem eZ:B2 qV (rI (fun _ j=>0 < j) fun i j=>.int (i % j)) Mi.cu:=fun x y v u H Hv Q vw rx ry h=>by
 cases x with
 | int i=>cases y with
  | int j=>cases RD.int rx;cases RD.int ry;obtain⟨hz,h⟩:=Mi.aX h;exact⟨i,j,rfl,rfl,hz,h _ H Hv (.refl vw) ik⟩
  | _=>exact h.elim
 | _=>cases y<;>exact h.elim
def Yk:R2:=fun x y H Q=>RC (fun i j=>.bl (decide (i < j))) x y H Q∨∃ i j,x=.str i∧y=.str j∧Q (.bl (decide (i.cps.toList < j.cps.toList))) H
theorem yg:qD X (compareOp .Lt) Yk:=Yw.or Lz
def Yt:R2:=fun x y H Q=>RC (fun i j=>.bl (decide (j < i))) x y H Q∨∃ i j,x=.str i∧y=.str j∧Q (.bl (decide (j.cps.toList < i.cps.toList))) H
theorem yh:qD X (compareOp .Gt) Yt:=Yx.or LK
theorem Ra:B2 qV Yk Mi.Ax:=fun x y v u H Hv Q vw rx ry h=>by
 cases x with
 | int i=>cases y with
  | int j=>cases RD.int rx;cases RD.int ry;exact .inl ⟨i,j,rfl,rfl,h _ H Hv (.refl vw) lL⟩
  | _=>exact h.elim
 | str i=>cases y with
  | str j=>cases RD.str rx;cases RD.str ry;exact .inr ⟨i,j,rfl,rfl,h _ H Hv (.refl vw) lL⟩
  | _=>exact h.elim
 | _=>cases y<;>exact h.elim
theorem Rb:B2 qV Yt Mi.KN:=fun x y v u H Hv Q vw rx ry h=>by
 cases x with
 | int i=>cases y with
  | int j=>cases RD.int rx;cases RD.int ry;exact .inl ⟨i,j,rfl,rfl,h _ H Hv (.refl vw) lL⟩
  | _=>exact h.elim
 | str i=>cases y with
  | str j=>cases RD.str rx;cases RD.str ry;exact .inr ⟨i,j,rfl,rfl,h _ H Hv (.refl vw) lL⟩
  | _=>exact h.elim
 | _=>cases y<;>exact h.elim
def R5(K:PySem.W.Frag)(neg:Bool):R2:=fun x y H Q=>∃ d e,L2.Rep K H d x∧L2.Rep K H e y∧d.dep≤16∧Q (.bl (if neg then !Mi.cU d e else Mi.cU d e)) H
theorem oZ:B2 qV (R5 K false) Mi.iV:=fun x y v u H Hv Q vw rx ry h=>by
 obtain⟨hz,h⟩:=Mi.aX h
 exact⟨x,y,ou K (RD.full vw rx),ou K (RD.full vw ry),hz,h _ H Hv (.refl vw) lL⟩
theorem Jv:B2 qV (R5 K true) Mi.vZ:=fun x y v u H Hv Q vw rx ry h=>by
 obtain⟨hz,h⟩:=Mi.aX h
 exact⟨x,y,ou K (RD.full vw rx),ou K (RD.full vw ry),hz,h _ H Hv (.refl vw) lL⟩
def Yr(K:PySem.W.Frag):R2:=fun x y H Q=>R4 K false x y H Q∨Ys false x y H Q
theorem jT(hu:X.A.units+64 < cLine):qD X (compareOp .In) (Yr X.K):=(We hu).or Wf
theorem J1{H:Hp}{ds:List D}{xs:List V}(h:P2 (Rep H) ds xs):L2.cR K H ds xs:=wN K (lJ.mpr h)
theorem vA:B2 qV (Yr K) Mi.kO:=fun x y v u H Hv Q vw rx ry h=>by
 cases y with
 | lst ds =>
  obtain⟨hz,h⟩:=Mi.aX h
  obtain⟨p,xs,rfl,l1,r1⟩:=RD.lst vw ry
  exact .inl ⟨p,xs,x,ds,rfl,.inl l1.sq,ou K (RD.full vw rx),J1 (cZ vw.sub r1),hz,h _ H Hv (.refl vw) lL⟩
 | tup ds =>
  obtain⟨hz,h⟩:=Mi.aX h
  obtain⟨p,xs,rfl,l1,_,r1⟩:=RD.tup vw ry
  exact .inl ⟨p,xs,x,ds,rfl,.inr (.inl (.inl l1)),ou K (RD.full vw rx),J1 (cZ vw.sub r1),hz,h _ H Hv (.refl vw) lL⟩
 | str z=>cases x with
  | str c =>
   obtain⟨hz,h⟩:=Mi.aX h
   cases RD.str rx;cases RD.str ry
   obtain⟨⟨l⟩⟩:=c
   match l,hz with
   | [c],_=>exact .inr ⟨c,z,rfl,rfl,h _ H Hv (.refl vw) lL⟩
  | _=>exact h.elim
 | _=>exact h.elim
theorem oY:B2 qV (R4 K true) Mi.dF:=fun x y v u H Hv Q vw rx ry h=>by
 cases y with
 | lst ds =>
  obtain⟨hz,h⟩:=Mi.aX h
  obtain⟨p,xs,rfl,l1,r1⟩:=RD.lst vw ry
  exact⟨p,xs,x,ds,rfl,.inl l1.sq,ou K (RD.full vw rx),J1 (cZ vw.sub r1),hz,h _ H Hv (.refl vw) lL⟩
 | tup ds =>
  obtain⟨hz,h⟩:=Mi.aX h
  obtain⟨p,xs,rfl,l1,_,r1⟩:=RD.tup vw ry
  exact⟨p,xs,x,ds,rfl,.inr (.inl (.inl l1)),ou K (RD.full vw rx),J1 (cZ vw.sub r1),hz,h _ H Hv (.refl vw) lL⟩
 | _=>exact h.elim
theorem Xe{α : Type}(xs:List α)(i:Int):Mi.sX xs i=L2.sX xs i:=rfl
theorem Vs{α β : Type}{F:α→β→Prop}{l:List α}{m:List β}(h:P2 F l m){i:Int}{a:α}(e:Mi.sX l i=some a):∃ b,L2.sX m i=some b∧F a b:=by
 unfold Mi.sX at e
 cases hj:Mi.zE l.length i with
 | none=>rw[hj] at e;cases e
 | some j =>
  rw[hj] at e
  have e:l[j]? = some a:=e
  obtain⟨b,hb,r⟩:=h.getL e
  refine⟨b,?_,r⟩
  rw[← Xe]
  unfold Mi.sX
  rw[← h.len,hj];exact hb
theorem cO:B2 qV (rIx K) Mi.bH:=fun x y v u H Hv Q vw rx ry h=>by
 cases y with
 | int i =>
  cases RD.int ry
  cases x with
  | lst ds =>
   obtain⟨d,e,h⟩:=jB h
   obtain⟨p,xs,rfl,l1,r1⟩:=RD.lst vw rx
   obtain⟨z,ez,rz⟩:=Vs r1 e
   exact .inl ⟨p,xs,i,z,rfl,rfl,l1.sq,ez,h z H Hv (.refl vw) rz⟩
  | tup ds =>
   obtain⟨d,e,h⟩:=jB h
   obtain⟨p,xs,rfl,l1,_,r1⟩:=RD.tup vw rx
   obtain⟨z,ez,rz⟩:=Vs r1 e
   exact .inr (.inl ⟨p,xs,i,z,rfl,rfl,.inl (.inl l1),ez,h z H Hv (.refl vw) rz⟩)
  | str z =>
   cases RD.str rx
   obtain⟨hz,h⟩:=Mi.aX h
   obtain⟨c,e,h⟩:=jB (au.mp h)
   exact .inr (.inr ⟨z,i,c,rfl,rfl,by rw[sizeLine_eq];exact hz,e,h _ H Hv (.refl vw) xX⟩)
  | _=>exact h.elim
 | _=>cases x<;>exact h.elim
theorem QX{F:D→V→Prop}{l:List D}{m:List V}(h:P2 F l m)(lo hi:Option Int):P2 F (Mi.oX l lo hi) (L2.M4 m lo hi):=by
 unfold Mi.oX L2.M4
 rw[h.len]
 exact(h.drop _).take _
def Yd(K:PySem.W.Frag):V→Option Int→Option Int→Hp→VK→Prop:=fun x lo hi H Q=>V2 K x lo hi H Q∨Yg x lo hi H Q
theorem Cw:RJ X (Yd X.K):=JR.or VM
theorem T7(z:Str)(lo hi:Option Int):M5 z lo hi=Mi.qy z lo hi:=by
 unfold M5 Mi.qy Mi.oX
 have:z.cps.toList.length=z.length:=by simp[Str.length]
 rw[this];rfl
theorem ur:BS qV (Yd K) Mi.DN:=fun x lo hi v H Hv Q vw rx h=>by
 cases x with
 | lst ds =>
  obtain⟨p,xs,rfl,l1,r1⟩:=RD.lst vw rx
  refine .inl ⟨p,xs,rfl,l1.sq,fun a ha=>?_⟩
  obtain⟨g,k⟩:=Iv vw (QX r1 lo hi) ha
  exact h _ _ _ g k
 | str z =>
  cases RD.str rx
  obtain⟨hz,h⟩:=Mi.aX h
  exact .inr ⟨z,rfl,by rw[sizeLine_eq];exact hz,h _ H Hv (.refl vw) (by rw[T7];exact xX)⟩
 | _=>exact h.elim
theorem mL{F:D→V→Prop}{d:D}{vs:List V}(h:P2 F [d] vs):∃ v,vs=[v]∧F d v:=by
 cases h with
 | cons r t=>cases t;exact⟨_,rfl,r⟩
theorem Ph{F:D→V→Prop}{d e:D}{vs:List V}(h:P2 F [d,e] vs):∃ v u,vs=[v,u]∧F d v∧F e u:=by
 cases h with
 | cons r t=>cases t with
  | cons r' t=>cases t;exact⟨_,_,rfl,r,r'⟩
def Yl(K:PySem.W.Frag):List V→Hp→VK→Prop:=fun xs H Q=>∃ x n,xs=[x]∧ZJ K x H n∧Q (.int n) H
theorem cX:jq X (.builtin "len") (Yl X.K):=Q8
theorem dD:BN qV (Yl K) Mi.fV:=fun ds vs H Hv Q vw r h=>by
 match ds,r,h with
 | [.lst ds],r,h =>
  obtain⟨v,ev,rr⟩:=mL r
  subst ev
  replace r:=rr
  obtain⟨p,xs,rfl,l1,r1⟩:=RD.lst vw r
  refine⟨_,xs.length,rfl,.inl ⟨xs,l1.sq,rfl⟩,?_⟩
  rw[← r1.len]
  exact h _ H Hv (.refl vw) ik
 | [.tup ds],r,h =>
  obtain⟨v,ev,rr⟩:=mL r
  subst ev
  replace r:=rr
  obtain⟨p,xs,rfl,l1,_,r1⟩:=RD.tup vw r
  refine⟨_,xs.length,rfl,.inr ⟨xs,.inl (.inl l1),rfl⟩,?_⟩
  rw[← r1.len]
  exact h _ H Hv (.refl vw) ik
 | [.str z],r,h =>
  obtain⟨v,ev,rr⟩:=mL r
  subst ev
  replace r:=rr
  cases RD.str r
  obtain⟨hz,h⟩:=Mi.aX h
  exact⟨_,z.length,rfl,⟨by rw[sizeLine_eq];exact hz,rfl⟩,h _ H Hv (.refl vw) ik⟩
def Yj:List V→Hp→VK→Prop:=fun xs H Q=>∃ i j z,xs=[.int i,.int j]∧max i j=z∧Q (.int z) H
def Yi:List V→Hp→VK→Prop:=fun xs H Q=>∃ i j z,xs=[.int i,.int j]∧min i j=z∧Q (.int z) H
theorem qO(hc:X.calm=true):jq X (.builtin "max") Yj:=Ju hc
theorem Bc(hc:X.calm=true):jq X (.builtin "min") Yi:=Jt hc
theorem uv:BN qV Yj Mi.nQ:=fun ds vs H Hv Q vw r h=>by
 match ds,r,h with
 | [.int i,.int j],r,h =>
  obtain⟨v,u,ev,rr,r'⟩:=Ph r
  subst ev
  replace r:=rr
  cases RD.int r;cases RD.int r'
  exact⟨i,j,_,rfl,rfl,h _ H Hv (.refl vw) ik⟩
theorem GQ:BN qV Yi Mi.wL:=fun ds vs H Hv Q vw r h=>by
 match ds,r,h with
 | [.int i,.int j],r,h =>
  obtain⟨v,u,ev,rr,r'⟩:=Ph r
  subst ev
  replace r:=rr
  cases RD.int r;cases RD.int r'
  exact⟨i,j,_,rfl,rfl,h _ H Hv (.refl vw) ik⟩
def U6(K:PySem.W.Frag):List V→Hp→VK→Prop:=fun xs H Q=>∃ p ys,xs=[.ref p]∧(wM K H p ys∨zF K H p ys)∧∀ l,H l=none→Q (.ref l) (upd H l (.lst ys))
theorem jb:jq X (.type "list") (U6 X.K):=DY
theorem jd:BN qN (U6 K) Mi.pH:=fun ds vs H Hv Q vw r h=>by
 match ds,r,h with
 | [.lst ds],r,h =>
  obtain⟨v,ev,rr⟩:=mL r
  subst ev
  replace r:=rr
  obtain⟨p,xs,rfl,l1,r1⟩:=RD.lst vw r
  refine⟨p,xs,rfl,.inl l1.sq,fun a ha=>?_⟩
  obtain⟨g,k⟩:=u0 vw r1 ha
  exact h _ _ _ g k
 | [.tup ds],r,h =>
  obtain⟨v,ev,rr⟩:=mL r
  subst ev
  replace r:=rr
  obtain⟨p,xs,rfl,l1,_,r1⟩:=RD.tup vw r
  refine⟨p,xs,rfl,.inr (.inl (.inl l1)),fun a ha=>?_⟩
  obtain⟨g,k⟩:=u0 vw r1 ha
  exact h _ _ _ g k
def Ow(K:PySem.W.Frag):List V→Hp→VK→Prop:=fun xs H Q=>∃ p ys,xs=[.ref p]∧((wM K H p ys∧∀ l,H l=none→Q (.ref l) (upd H l (.tup ys)))∨(zF K H p ys∧Q (.ref p) H))
theorem jn:jq X (.type "tuple") (Ow X.K):=zN
theorem iD:BN qV (Ow K) Mi.sJ:=fun ds vs H Hv Q vw r h=>by
 match ds,r,h with
 | [.lst ds],r,h =>
  obtain⟨v,ev,rr⟩:=mL r
  subst ev
  replace r:=rr
  obtain⟨p,xs,rfl,l1,r1⟩:=RD.lst vw r
  refine⟨p,xs,rfl,.inl ⟨l1.sq,fun a ha=>?_⟩⟩
  obtain⟨g,k⟩:=Iw vw r1 ha
  exact h _ _ _ g k
 | [.tup ds],r,h =>
  obtain⟨v,ev,rr⟩:=mL r
  subst ev
  replace r:=rr
  obtain⟨p,xs,rfl,l1,l2,r1⟩:=RD.tup vw r
  exact⟨p,xs,rfl,.inr ⟨.inl (.inl l1),h _ H Hv (.refl vw) (j8.mpr ⟨p,xs,rfl,l2,r1⟩)⟩⟩
def Yq:List V→Hp→VK→Prop:=fun xs H Q=>(∃ i,xs=[.int i]∧Q (.int i) H)∨∃ k,xs=[.bl k]∧Q (.int (if k then 1 else 0)) H
theorem Bd:jq X (.type "int") Yq:=Ng
theorem G5:BN qV Yq Mi.Ni:=fun ds vs H Hv Q vw r h=>by
 match ds,r,h with
 | [.int i],r,h =>
  obtain⟨v,ev,rr⟩:=mL r
  subst ev
  replace r:=rr
  cases RD.int r
  exact .inl ⟨i,rfl,h _ H Hv (.refl vw) ik⟩
 | [.bl k],r,h =>
  obtain⟨v,ev,rr⟩:=mL r
  subst ev
  replace r:=rr
  cases RD.bl r
  exact .inr ⟨k,rfl,h _ H Hv (.refl vw) ik⟩
end
end A
namespace A
open PySem L2 PyProof.Rows
open Mi (D W Rs Fin au Out Tg)
variable[Tb:gH]
section
variable{X:Cx}{pins:List (Addr×Obj)}{σ : L2.St}{H:Hp}{s:Shared}
open SeqAt in
theorem RZ:∀ {d e:D} {A:Around} {x y:V} {u u':Value},d.flat=true→e.flat=true→L2.Rep X.K H d x→L2.Rep X.K H e y→RelV x u→RelV y u'→RcAt A s u u' (Mi.cU d e)∧RcNeAt A s u u' (!Mi.cU d e):=by
 intro d e A x y u u' h1 h2 r1 r2 q1 q2
 cases d with
 | non =>
  rw[L2.Rep] at r1;subst r1;cases q1
  cases e with
  | non=>rw[L2.Rep] at r2;subst r2;cases q2;exact⟨RcAt.none_none,RcNeAt.none_none⟩
  | bl b=>rw[L2.Rep] at r2;subst r2;cases q2;exact⟨RcAt.none_bool b,RcNeAt.none_bool b⟩
  | int b=>rw[L2.Rep] at r2;subst r2;obtain⟨t,rfl⟩:=q2;exact⟨RcAt.none_int b t,RcNeAt.none_int b t⟩
  | str b=>rw[L2.Rep] at r2;subst r2;obtain⟨t,rfl⟩:=q2;exact⟨RcAt.none_str b t,RcNeAt.none_str b t⟩
  | _=>cases h2
 | bl a =>
  rw[L2.Rep] at r1;subst r1;cases q1
  cases e with
  | non=>rw[L2.Rep] at r2;subst r2;cases q2;exact⟨RcAt.bool_none a,RcNeAt.bool_none a⟩
  | bl b=>rw[L2.Rep] at r2;subst r2;cases q2;rw[Mi.cU];exact⟨RcAt.bool_bool a b,RcNeAt.bool_bool a b⟩
  | int b=>rw[L2.Rep] at r2;subst r2;obtain⟨t,rfl⟩:=q2;rw[Mi.cU];exact⟨RcAt.bool_int a b t,RcNeAt.bool_int a b t⟩
  | str b=>rw[L2.Rep] at r2;subst r2;obtain⟨t,rfl⟩:=q2;exact⟨RcAt.bool_str a b t,RcNeAt.bool_str a b t⟩
  | _=>cases h2
 | int a =>
  rw[L2.Rep] at r1;subst r1;obtain⟨t1,rfl⟩:=q1
  cases e with
  | non=>rw[L2.Rep] at r2;subst r2;cases q2;exact⟨RcAt.int_none a t1,RcNeAt.int_none a t1⟩
  | bl b=>rw[L2.Rep] at r2;subst r2;cases q2;rw[Mi.cU];exact⟨RcAt.int_bool a t1 b,RcNeAt.int_bool a t1 b⟩
  | int b=>rw[L2.Rep] at r2;subst r2;obtain⟨t,rfl⟩:=q2;rw[Mi.cU];exact⟨RcAt.int_int a t1 b t,RcNeAt.int_int a t1 b t⟩
  | str b=>rw[L2.Rep] at r2;subst r2;obtain⟨t,rfl⟩:=q2;exact⟨RcAt.int_str a t1 b t,RcNeAt.int_str a t1 b t⟩
  | _=>cases h2
 | str a =>
  rw[L2.Rep] at r1;subst r1;obtain⟨t1,rfl⟩:=q1
  cases e with
  | non=>rw[L2.Rep] at r2;subst r2;cases q2;exact⟨RcAt.str_none a t1,RcNeAt.str_none a t1⟩
  | bl b=>rw[L2.Rep] at r2;subst r2;cases q2;exact⟨RcAt.str_bool a t1 b,RcNeAt.str_bool a t1 b⟩
  | int b=>rw[L2.Rep] at r2;subst r2;obtain⟨t,rfl⟩:=q2;exact⟨RcAt.str_int a t1 b t,RcNeAt.str_int a t1 b t⟩
  | str b=>rw[L2.Rep] at r2;subst r2;obtain⟨t,rfl⟩:=q2;rw[Mi.cU];exact⟨RcAt.str_str a t1 b t,RcNeAt.str_str a t1 b t⟩
  | _=>cases h2
 | _=>cases h1
open SeqAt in
theorem Yc(I:Inv X pins σ H s):∀ (d e:D) (A:Around) {x y:V} {u u':Value},d.dep≤16→A.units+17 < cLine→L2.Rep X.K H d x→L2.Rep X.K H e y→RelV x u→RelV y u'→RcAt A s u u' (Mi.cU d e)∧RcNeAt A s u u' (!Mi.cU d e):=by
 intro d e A x y u u' hd hu h h' r r'
 have hu0:A.units < cLine:=by omega
 have item:∀ {ds es:List D} {xs ys:List V} {its its':List Value},Mi.cQ ds≤16→L2.cR X.K H ds xs→L2.cR X.K H es ys→Vals xs its→Vals ys its' →
  ∀ j (h1:j < its.toArray.size) (h2:j < its'.toArray.size),EqAt A.in1 s its.toArray[j] its'.toArray[j] (Mi.cU (ds.getD j .non) (es.getD j .non)):=by
  intro ds es xs ys its its' hn q q' v v' j h1 h2
  have h1':j < its.length:=by simpa using h1
  have h2':j < its'.length:=by simpa using h2
  have e1:j < xs.length:=by rw[v.length];exact h1'
  have e2:j < ys.length:=by rw[v'.length];exact h2'
  have g1:xs[j]? = some xs[j]:=by simp[e1]
  have g2:ys[j]? = some ys[j]:=by simp[e2]
  obtain⟨w1,k1,r1⟩:=v.get g1
  obtain⟨w2,k2,r2⟩:=v'.get g2
  have t1:its.toArray[j]=w1:=by obtain⟨_,k1⟩:=List.getElem?_eq_some_iff.mp k1;simpa using k1
  have t2:its'.toArray[j]=w2:=by obtain⟨_,k2⟩:=List.getElem?_eq_some_iff.mp k2;simpa using k2
  rw[t1,t2]
  have:=vo (ds:=ds) (j:=j)
  refine QD I 16 _ _ A.in1 (by omega) ?_ (q.get g1) (q'.get g2) r1 r2
  show A.units+1+16 < cLine
  omega
 by_cases hdf:d.flat=true
 ·by_cases hef:e.flat=true
  ·exact RZ hdf hef h h' r r'
  ·cases e with
   | lst es =>
    rw[L2.Rep] at h'
    obtain⟨a,xs,rfl,q,_⟩:=h'
    cases r'
    obtain⟨its,_,p,_⟩:=I.list q
    cases d with
    | non=>rw[L2.Rep] at h;subst h;cases r;exact⟨RcAt.none_list p.isList hu0,RcNeAt.none_list p.isList hu0⟩
    | bl b=>rw[L2.Rep] at h;subst h;cases r;exact⟨RcAt.bool_list b p.isList hu0,RcNeAt.bool_list b p.isList hu0⟩
    | int b=>rw[L2.Rep] at h;subst h;obtain⟨t,rfl⟩:=r;exact⟨RcAt.int_list b t p.isList hu0,RcNeAt.int_list b t p.isList hu0⟩
    | str b=>rw[L2.Rep] at h;subst h;obtain⟨t,rfl⟩:=r;exact⟨RcAt.str_list b t p.isList hu0,RcNeAt.str_list b t p.isList hu0⟩
    | _=>cases hdf
   | tup es =>
    rw[L2.Rep] at h'
    obtain⟨a,xs,rfl,q,_⟩:=h'
    cases r'
    obtain⟨its,_,p,_⟩:=I.tuple q
    cases d with
    | non=>rw[L2.Rep] at h;subst h;cases r;exact⟨RcAt.none_tuple p hu0,RcNeAt.none_tuple p hu0⟩
    | bl b=>rw[L2.Rep] at h;subst h;cases r;exact⟨RcAt.bool_tuple b p hu0,RcNeAt.bool_tuple b p hu0⟩
    | int b=>rw[L2.Rep] at h;subst h;obtain⟨t,rfl⟩:=r;exact⟨RcAt.int_tuple b t p hu0,RcNeAt.int_tuple b t p hu0⟩
    | str b=>rw[L2.Rep] at h;subst h;obtain⟨t,rfl⟩:=r;exact⟨RcAt.str_tuple b t p hu0,RcNeAt.str_tuple b t p hu0⟩
    | _=>cases hdf
   | _=>exact absurd rfl hef
 ·cases d with
  | lst ds =>
   rw[L2.Rep] at h
   obtain⟨a,xs,rfl,q,rr⟩:=h
   cases r
   obtain⟨its,v,p,_⟩:=I.list q
   have hn:Mi.cQ ds≤16:=by rw[Mi.D.dep] at hd;omega
   cases e with
   | non=>rw[L2.Rep] at h';subst h';cases r';exact⟨RcAt.list_none p.isList hu0,RcNeAt.list_none p.isList hu0⟩
   | bl b=>rw[L2.Rep] at h';subst h';cases r';exact⟨RcAt.list_bool b p.isList hu0,RcNeAt.list_bool b p.isList hu0⟩
   | int b=>rw[L2.Rep] at h';subst h';obtain⟨t,rfl⟩:=r';exact⟨RcAt.list_int b t p.isList hu0,RcNeAt.list_int b t p.isList hu0⟩
   | str b=>rw[L2.Rep] at h';subst h';obtain⟨t,rfl⟩:=r';exact⟨RcAt.list_str b t p.isList hu0,RcNeAt.list_str b t p.isList hu0⟩
   | lst es =>
    rw[L2.Rep] at h'
    obtain⟨b,ys,rfl,q',rr'⟩:=h'
    cases r'
    obtain⟨its',v',p',_⟩:=I.list q'
    have l1:=rr.length
    have l2:=rr'.length
    have l3:=v.length
    have l4:=v'.length
    by_cases hl:ds.length=es.length
    ·rw[Mi.cU,nA hl]
     have e1:its.toArray.size=ds.length:=by simp;omega
     have k1:=RcAt.lists p.isList p'.isList (by simp;omega) hu0 (item hn rr rr' v v')
     have k2:=RcNeAt.lists p.isList p'.isList (by simp;omega) hu0 (item hn rr rr' v v')
     rw[e1] at k1 k2
     exact⟨k1,k2⟩
    ·rw[Mi.cU,nu hl]
     exact⟨RcAt.lists_lengths p.isList p'.isList (by simp;omega) hu0,RcNeAt.lists_lengths p.isList p'.isList (by simp;omega) hu0⟩
   | tup es =>
    rw[L2.Rep] at h'
    obtain⟨b,ys,rfl,q',_⟩:=h'
    cases r'
    obtain⟨its',_,p',_⟩:=I.tuple q'
    exact⟨RcAt.list_tuple p.isList p' hu0,RcNeAt.list_tuple p.isList p' hu0⟩
  | tup ds =>
   rw[L2.Rep] at h
   obtain⟨a,xs,rfl,q,rr⟩:=h
   cases r
   obtain⟨its,v,p,_⟩:=I.tuple q
   have hn:Mi.cQ ds≤16:=by rw[Mi.D.dep] at hd;omega
   cases e with
   | non=>rw[L2.Rep] at h';subst h';cases r';exact⟨RcAt.tuple_none p hu0,RcNeAt.tuple_none p hu0⟩
   | bl b=>rw[L2.Rep] at h';subst h';cases r';exact⟨RcAt.tuple_bool b p hu0,RcNeAt.tuple_bool b p hu0⟩
   | int b=>rw[L2.Rep] at h';subst h';obtain⟨t,rfl⟩:=r';exact⟨RcAt.tuple_int b t p hu0,RcNeAt.tuple_int b t p hu0⟩
   | str b=>rw[L2.Rep] at h';subst h';obtain⟨t,rfl⟩:=r';exact⟨RcAt.tuple_str b t p hu0,RcNeAt.tuple_str b t p hu0⟩
   | tup es =>
    rw[L2.Rep] at h'
    obtain⟨b,ys,rfl,q',rr'⟩:=h'
    cases r'
    obtain⟨its',v',p',_⟩:=I.tuple q'
    have l1:=rr.length
    have l2:=rr'.length
    have l3:=v.length
    have l4:=v'.length
    have k1:=RcAt.tuples p p' hu0 (item hn rr rr' v v')
    have k2:=RcNeAt.tuples p p' hu0 (item hn rr rr' v v')
    have e1:its.toArray.size=ds.length:=by simp;omega
    have e2:its'.toArray.size=es.length:=by simp;omega
    rw[e1,e2] at k1 k2
    by_cases hl:ds.length=es.length
    ·rw[Mi.cU,nA hl]
     rw[hl,Nat.min_self,beq_self_eq_true,Bool.and_true,← hl] at k1 k2
     exact⟨k1,k2⟩
    ·rw[Mi.cU,nu hl]
     have:(ds.length == es.length)=false:=by simpa using hl
     rw[this,Bool.and_false] at k1 k2
     exact⟨k1,k2⟩
   | lst es =>
    rw[L2.Rep] at h'
    obtain⟨b,ys,rfl,q',_⟩:=h'
    cases r'
    obtain⟨its',_,p',_⟩:=I.list q'
    exact⟨RcAt.tuple_list p p'.isList hu0,RcNeAt.tuple_list p p'.isList hu0⟩
  | _=>exact absurd rfl hdf
theorem gB(hu:X.A.units+64 < cLine):qD X (compareOp .Eq) (R5 X.K false):=by
 intro pins s σ H x y v u Q I rx ry h
 obtain⟨d,e,r1,r2,hz,q⟩:=h
 exact(Yc I d e X.A hz (by omega) r1 r2 rx ry).1 _ _ _ _ ⟨.bl _,H,I,rfl,q⟩
theorem rW(hu:X.A.units+64 < cLine):qD X (compareOp .NotEq) (R5 X.K true):=by
 intro pins s σ H x y v u Q I rx ry h
 obtain⟨d,e,r1,r2,hz,q⟩:=h
 exact(Yc I d e X.A hz (by omega) r1 r2 rx ry).2 _ _ _ _ ⟨.bl _,H,I,rfl,q⟩
end
section
variable{X:Cx}{K:PySem.W.Frag}{M:Nat→Bool}{κ : Kd}{ta tb te:TE}{a b:Mi.E}
def U5:R2:=fun x y H Q=>∃ l k xs,x=.ref l∧y=.int k∧H l=some (.lst xs)∧-(2 ^ 63)≤k∧k < 2 ^ 63∧xs.length * k.toNat≤sizeLine∧∀ p,H p=none→Q (.ref p) (upd H p (.lst (List.replicate k.toNat xs).flatten))
theorem Su:qD X (binaryOp .Mult) U5:=Wc
theorem Zu{tr:TA}{as:List Mi.E}(ha:AA M qV tr (Mi.jL as))(hb:AE M qP tb b):AE M qN (Xv U5 (VB tr) tb) (Mi.m2 Mi.W6 (Mi.mN Mi.d9 as) b):=fun e σ H Hv Q I h =>
 gm ha e σ H Hv _ I ((au.mp h).mono fun x hx v H1 Hv1 g1 rx=>hb e σ H1 Hv1 _ (I.grow g1) ((au.mp hx).mono fun y hy u H2 Hv2 g2 ry=>by
  obtain⟨p,o,rfl,hf,hp,hn,c⟩:=rx
  cases x with
  | lst ds=>cases o with
   | lst xs=>cases y with
    | int k =>
     obtain⟨⟨h1,h2,h3⟩,hy⟩:=Mi.aX hy
     cases RD.int ry
     have c:P2 (Rep Hv1) ds xs:=c
     refine⟨p,k,xs,rfl,rfl,g2.old.at hp,h1,h2,by rw[← c.len,sizeLine_eq];exact h3,fun l hl=>?_⟩
     obtain⟨g,kk⟩:=u0 g2.vw ((cZ g2.vis c).rep k.toNat) hl
     exact hy _ _ _ (g1.trans (g2.trans g)) (KM.mono (κ:=qN) (g1.old.trans g2.old) kk)
    | _=>exact hy.elim
   | _=>exact c.elim
  | _=>cases y<;>exact hy.elim))
theorem XJ{H Hv:Hp}(vw:Vw H Hv){d:D}{v:V}(r:RD H Hv d v):uB K H v (.type (Mi.NZ d)):=by
 cases d with
 | non=>cases RD.non r;exact .non
 | bl b=>cases RD.bl r;exact .bl b
 | int b=>cases RD.int r;exact .int b
 | str b=>cases RD.str r;exact .str b
 | lst ds =>
  obtain⟨p,xs,rfl,l,_⟩:=RD.lst vw r
  rcases l with l|⟨o,l⟩
  ·exact .lst l
  ·exact .frz l
 | tup ds =>
  obtain⟨p,xs,rfl,l,_⟩:=RD.tup vw r
  exact .tup l
def Zy(K:PySem.W.Frag)(T:String):Prop:=∀ d:D,PySem.W.kitOne K (.type (Mi.NZ d)) (.type T)=some (Mi.Tj T d)
theorem Zw{T:String}(hT:Zy K T)(ha:AE M qP ta a):AE M qV (Xw (Yp K) (lX ta (lX (tC (.ty T)) uK))) (Mi.m1 (Mi.Xc [T]) a):=fun e σ H Hv Q I h =>
 ha e σ H Hv _ I ((au.mp h).mono fun x hx v H1 Hv1 g1 rx=>⟨v,_,T,_,rfl,XJ g1.vw rx,hT x,(Mi.kh hx) _ H1 Hv1 g1 (by
  have:([T].any fun t=>Mi.Tj t x)=Mi.Tj T x:=by simp
  rw[this];exact lL)⟩)
theorem ty_bool(K:PySem.W.Frag):Zy K "bool" := fun d=>by cases d<;>rfl
end
end A
namespace A
open PySem L2 PyProof.Rows
open Mi (D W Rs Fin au Out Tg)
variable[Tb:gH]
def Mo(l:List Nat):Nat→Bool:=fun i=>l.contains i
theorem Ex{M:Nat→Bool}{N:List Str}{k:Nat}{ws:List W}{vs:List V}{H Hv:Hp}(vw:Vw H Hv)(p:P2 (uC Hv) ws vs)(hk:ws.length=k)(hM:∀ i,i < k→M i=false) :
 R1 M H Hv (ws.map some++List.replicate (N.length - ws.length) none) (start N vs) H Hv:=by
 have get:∀ {i:Nat} {w:W},(ws.map some++List.replicate (N.length - ws.length) none)[i]? = some (some w)→ws[i]? = some w∧i < k:=fun {i w} h=>by
  by_cases hi:i < ws.length
  ·rw[List.getElem?_append_left (by simpa using hi),List.getElem?_map] at h
   cases e:ws[i]? with
   | none=>rw[e] at h;cases h
   | some a=>rw[e] at h;cases h;exact⟨rfl,by omega⟩
  ·rw[List.getElem?_append_right (by simpa using hi),List.getElem?_replicate] at h
   split at h<;>cases h
 have no:∀ {i:Nat} {w:W},(ws.map some++List.replicate (N.length - ws.length) none)[i]? = some (some w)→M i=true→False:=fun {i w} h m=>by
  rw[hM i (get h).2] at m;cases m
 refine⟨⟨vw,?_,fun i w h m=>?_,fun i w h m=>(no h m).elim⟩,.refl vw,fun i w a h m=>(no h m).elim,fun i j w w' a b _ h _ m=>(no h m).elim⟩
 ·unfold L2.start
  rw[List.length_append,List.length_append,List.length_map,List.length_map,List.length_replicate,List.length_replicate,p.len]
 ·obtain⟨hw,hi⟩:=get h
  obtain⟨v,hv,r⟩:=p.getL hw
  refine⟨v,?_,r⟩
  unfold L2.start
  rw[List.getElem?_append_left (by rw[List.length_map,← p.len];omega),List.getElem?_map,hv];rfl
theorem qY{f:Mi.S}{k n:Nat}{vs:List V}{H:Hp}{Q:VK}{E:XK}(h:pC (Mi.yI k n f) vs H Q E):vs.length=k:=by
 obtain⟨Hv,ws,_,p,q⟩:=h
 rw[← p.len];exact(Mi.aX q).1
theorem vg{f:Mi.S}{k n:Nat}{vs:List V}{H:Hp}{Q:VK}{E:XK}(h:qU (Mi.Gq k n f) vs H Q E):vs.length=k:=by
 obtain⟨Hv,ws,_,p,q⟩:=h
 rw[← p.len];exact(Mi.aX q).1
theorem qW{N:List Str}{M:Nat→Bool}{k:Nat}{t:TS}{m:Mi.S}(hA:AS M qV t m)(hM:∀ i,i < k→M i=false){vs:List V}{H:Hp}{Q:VK}{E:XK}(h:pC (Mi.yI k N.length m) vs H Q E) :
 t { nx:=fun _ H'=>Q .non H',rt:=Q } (start N vs) H:=by
 obtain⟨Hv,ws,vw,p,q⟩:=h
 obtain⟨hk,q⟩:=Mi.aX q
 refine hA H Hv _ _ H Hv _ (Ex vw p hk hM) ((au.mp q).mono fun o ho=>?_)
 cases o with
 | nx e=>exact fun σ H' Hv' I s=>ho _ H' Hv' I.gw V3
 | rt w=>exact fun v H' Hv' g r=>ho v H' Hv' g r
 | bk e=>exact ho.elim
 | ct e=>exact ho.elim
theorem runN{N:List Str}{M:Nat→Bool}{k:Nat}{t:TS}{m:Mi.S}(hA:AS M qN t m)(hM:∀ i,i < k→M i=false){vs:List V}{H:Hp}{Q:VK}{E:XK}(h:qU (Mi.Gq k N.length m) vs H Q E) :
 t { nx:=fun _ H'=>Q .non H',rt:=Q } (start N vs) H:=by
 obtain⟨Hv,ws,vw,p,q⟩:=h
 obtain⟨hk,q⟩:=Mi.aX q
 refine hA H Hv _ _ H Hv _ (Ex vw p hk hM) ((au.mp q).mono fun o ho=>?_)
 cases o with
 | rt w=>exact fun v H' Hv' g r=>ho v H' Hv' g r
 | nx e=>exact ho.elim
 | bk e=>exact ho.elim
 | ct e=>exact ho.elim
def Ey:Sp:=fun vs H Q _=>∃ (a:Addr) (ns:List Int),vs=[.ref a]∧Lst H a (ns.map V.int)∧ns.length≤63∧jG H∧∀ H',Q (.bl true) H'
theorem ints_rep(H:Hp):∀ ns:List Int,P2 (Rep H) (ns.map D.int) (ns.map V.int)
 | []=>.nil
 | n::r=>.cons (oE.mpr rfl) (ints_rep H r)
theorem Wv{P:Program}{w:World}{K:PySem.W.Frag}{mg:Str→Option Value}{base:Heap}{CX:JG}{k:Nat}{f:Addr}{fd:FuncData}{ps:List Str}{m:Mi.Fn}(F:eF P w K mg base CX k f fd ps (pC m))
 (h:∀ ns:List Int,ns.length≤63→m [.d (.lst (ns.map D.int))]=.ok (.d (.bl true))):eF P w K mg base CX k f fd ps Ey :=
 F.imp fun vs H Q E ⟨a,ns,e,l,hl,k,q⟩=>by
  subst e
  have l':Lst (Wm H) a (ns.map V.int):=by
   rcases l with l|⟨o,l⟩
   ·exact .inl (tU l trivial)
   ·exact .inr ⟨o,tU l trivial⟩
  refine⟨Wm H,[.d (.lst (ns.map D.int))],.all k,.cons (oA.mpr ⟨a,_,rfl,l',ints_rep _ ns⟩) .nil,?_⟩
  rw[h ns hl]
  intro v H' Hv' g r
  cases (Ie (H:=Hv')).mp r
  exact q H'
theorem HD{X:Cx}{pins:List (Addr×Obj)}{σ : L2.St}{H:Hp}{s:Shared}{fp:List Addr}{T:Addr}{o:HO}{h':Heap}{t':Nat}(I:Inv X pins σ H s)(hf:∀ b∈fp,nU X pins H b)
 (k:∀ b u,b∉fp→s.heap.get? b=some u→h'.get? b=some u) (hT:s.heap.objs.size≤T) (new:eX X.prog X.w (upd H T o) h' T o):Inv X pins σ (upd H T o) { s with heap:=h',toks:=t' }:=by
 have hn:H T=none:=I.hok.fresh hT
 have nfp:∀ b u,H b=some u→b∉fp:=fun b u e z=>by rw[(hf b z).1] at e;cases e
 refine I.call' (s':={ s with heap:=h',toks:=t' }) (ch:=fp) rfl ⟨fun b u e _ _ hb=>k b u hb e,fun b u e _ _ hb=>⟨u.slots,k b u hb e⟩,fun b u e hb _=>?_,fun b u e hb=>⟨u,k b u hb e⟩,fun b xs e=>?_,fun b q u e=>?_,fun b w ps e=>⟨#[],?_⟩⟩ ?_ I.bare
  fun b hb=>⟨(hf b hb).2.2.2.1,(hf b hb).2.1,(hf b hb).2.2.2.2.1,(hf b hb).2.2.2.2.2⟩
 ·have:b≠T:=Nat.ne_of_lt (Nat.lt_of_lt_of_le (Heap.lt_size e) hT)
  rw[aN this];exact hb
 ·rw[aN (bc e hn)];exact e
 ·rw[aN (bc e hn)];exact e
 ·rw[aN (bc e hn),e];simp
 ·intro b u e
  by_cases hb:b=T
  ·subst hb;rw[bu] at e;cases e;exact new
  ·rw[aN hb] at e
   refine(I.hok b u e).stay (fun c v hc q=>k c v ?_ q) (fun c q=>by rw[aN (bc q hn)];exact q) fun c xs q=>by rw[aN (bc q hn)];exact q
   rcases hc with z|z
   ·rw[z];exact nfp b u e
   ·exact nfp c _ z
theorem xq{X:Cx}{pins:List (Addr×Obj)}{σ : L2.St}{H:Hp}{s:Shared}{fp:List Addr}{h':Heap}{t':Nat}(I:Inv X pins σ H s)(hf:∀ b∈fp,nU X pins H b)
 (k:∀ b u,b∉fp→s.heap.get? b=some u→h'.get? b=some u):Inv X pins σ H { s with heap:=h',toks:=t' }:=by
 have nfp:∀ b u,H b=some u→b∉fp:=fun b u e z=>by rw[(hf b z).1] at e;cases e
 refine I.call' (s':={ s with heap:=h',toks:=t' }) (ch:=fp) rfl ⟨fun b u e _ _ hb=>k b u hb e,fun b u e _ _ hb=>⟨u.slots,k b u hb e⟩,fun b u e hb _=>hb,fun b u e hb=>⟨u,k b u hb e⟩,fun b xs e=>e,fun b q u e=>e,fun b w ps e=>⟨#[],by rw[e];simp⟩⟩ ?_ I.bare
  fun b hb=>⟨(hf b hb).2.2.2.1,(hf b hb).2.1,(hf b hb).2.2.2.2.1,(hf b hb).2.2.2.2.2⟩
 intro b u e
 refine(I.hok b u e).stay (fun c v hc q=>k c v ?_ q) (fun c q=>q) fun c xs q=>q
 rcases hc with z|z
 ·rw[z];exact nfp b u e
 ·exact nfp c _ z
section
variable{X:Cx}{elts:List Expr}{k1:Nat}{tpos:Pos}
theorem Gr:∀ {ds:List D} {k i:Nat} {d:D},ds[i]? = some d→(Mi.rE k ds)[i]? = some (.tup [.int ((k+i:Nat):Int),d])
 | [],_,_,_,h=>by simp at h
 | d::r,k,0,e,h=>by simp at h;subst h;rfl
 | d::r,k,i+1,e,h=>by
  have:=Gr (ds:=r) (k:=k+1) (i:=i) (d:=e) (by simpa using h)
  rw[Mi.rE,List.getElem?_cons_succ,this]
  rw[show k+1+i=k+(i+1) by omega]
theorem ue:∀ (ds:List D) (k:Nat),(Mi.rE k ds).length=ds.length
 | [],_=>rfl
 | d::r,k=>by rw[Mi.rE,List.length_cons,List.length_cons,ue r]
end
end A
namespace A
open PySem L2 PyProof.Rows
open Mi (D W Rs Fin au Out Tg)
variable[Tb:gH]
section
variable{X:Cx}{K:PySem.W.Frag}{M:Nat→Bool}{κ : Kd}{ta tb te tk:TE}{a b k:Mi.E}
theorem uz{Hv:Hp}:∀ {ds:List D} {xs:List V} {bs:List Str},Mi.nR ds=some bs→P2 (Rep Hv) ds xs→xs=bs.map V.str
 | [],_,bs,e,r=>by cases e;cases r;rfl
 | .str b::ds,_,bs,e,r=>by
  cases r with
  | cons x t =>
   cases hb:Mi.nR ds with
   | none=>rw[Mi.nR,hb] at e;cases e
   | some cs =>
    rw[Mi.nR,hb] at e
    cases e
    rw[uz hb t,lZ.mp x];rfl
 | .non::_,_,_,e,_=>by cases e
 | .int _::_,_,_,e,_=>by cases e
 | .bl _::_,_,_,e,_=>by cases e
 | .lst _::_,_,_,e,_=>by cases e
 | .tup _::_,_,_,e,_=>by cases e
theorem Rt(ha:AE M qP ta a)(hb:AE M qP tb b):AE M qV (Xx K "str" (rJoin K) ta (lX tb uK)) (Mi.m2 Mi.KJ a b):=fun e σ H Hv Q I h=>by
 obtain⟨x,hx,h⟩:=jE (au.mp h)
 obtain⟨y,hy,h⟩:=jE (au.mp h)
 cases x with
 | str sep=>cases y with
  | lst ds =>
   obtain⟨ys,hs,h⟩:=jB (au.mp h)
   obtain⟨hz,h⟩:=Mi.aX h
   refine ha e σ H Hv _ I (by
    rw[hx]
    intro v H1 Hv1 g1 r1
    cases RD.str r1
    refine⟨rfl,hb e σ H1 Hv1 _ (I.grow g1) (by
     rw[hy]
     intro v2 H2 Hv2 g2 r2
     obtain⟨p,xs,rfl,l,r⟩:=RD.lst g2.vw r2
     have:=uz hs r
     subst this
     exact⟨sep,p,ys,rfl,rfl,l.sq,hz,(Mi.kh h) _ H2 Hv2 (g1.trans g2) xX⟩)⟩)
  | _=>exact h.elim
 | _=>cases y<;>exact h.elim
def Fo:V→List V→Hp→VK→Prop:=fun x vs H Q=>∃ l b xs zs,x=.ref l∧vs=[.ref b]∧H l=some (.lst xs)∧Lst H b zs∧xs.length+zs.length≤sizeLine∧Q .non (upd H l (.lst (xs++zs)))
theorem yp:MtM X "list.extend" Fo:=by
 intro pins s σ H x vs v us Q I rx rv h
 obtain⟨l,b,xs,zs,rfl,rfl,hH,hB,hz,q⟩:=h
 cases rx
 obtain⟨u,rfl,ru⟩:=rv.one
 cases ru
 obtain⟨z,its,n,r,hl,e⟩:=I.S6 hH
 obtain⟨its2,n2,r2,z2,e2⟩:=Mj I hB
 have hl2:=r2.length
 have hsz:its.toArray.size+its2.toArray.size≤sizeLine:=by rw[List.size_toArray,List.size_toArray];omega
 have Ao:¬ (!its.toArray.isEmpty && Builtin.List.listTooLong (its.toArray.size+its2.toArray.size))=true:=by
  rw[FQ hsz,Bool.and_false]
  exact Bool.false_ne_true
 refine call_meets F.slot_list_extend ⟨_,e,rfl⟩ F.entry_list_extend (F.args_list_extend_2 _ _)
  (AutoSeq1.list_extend_list_list_0 l its.toArray n b its2.toArray n2 Ao (by rw[List.size_toArray];omega) (by omega)) ⟨e,e2,?_⟩
 refine⟨.non,_,I.Ws (its':=its++its2) hH e (by simp) (r.append r2) ?_,rfl,q⟩
 rw[List.length_append]
 omega
theorem Bv(i:Nat)(hm:M i=true)(ha:AE M qV te a):AS M κ (Es (Xx K "list" Fo (wH i) (lX te uK))) (Mi.n6 i a):=fun H0 Hv0 e σ H Hv D I h=>by
 obtain⟨d,hd,h⟩:=jE (au.mp h)
 obtain⟨ds,he,h⟩:=uc (au.mp h)
 cases d with
 | lst es =>
  obtain⟨hz,h⟩:=Mi.aX h
  obtain⟨p,xs,q,q1,n,c⟩:=I.list hm he
  refine⟨.ref p,q,.inl ⟨rfl,xs,.inl (.inl q1)⟩,ha e σ H Hv _ I.toR0 (by
   rw[hd]
   intro v H1 Hv1 g1 r
   have I1:=I.grow g1
   obtain⟨b,ys,rfl,l,r⟩:=(oA (H:=Hv1)).mp r
   refine⟨p,b,xs,ys,rfl,rfl,g1.old.at q1,l.same g1.vw.sub,by rw[← c.len,← r.len,sizeLine_eq];exact hz,?_⟩
   exact h σ _ Hv1 (I1.write hm he q (show fj Hv1 (.d (.lst (ds++es))) (.lst (xs++ys)) from (cZ g1.vis c).append r)) g1.vis)⟩
 | _=>exact h.elim
theorem Dt{H:Hp}{d:D}{v:V}{y:Mi.Ky}(h:Mi.MT d=some y)(r:Rep H d v):v=kV y:=by
 cases d with
 | int i=>cases h;exact oE.mp r
 | str i=>cases h;exact lZ.mp r
 | _=>cases h
theorem t6{H:Hp}:∀ {ds:List D} {vs:List V} {ys:List Mi.Ky},Mi.yL ds=some ys→P2 (Rep H) ds vs→vs=ys.map kV
 | [],_,_,h,r=>by cases h;cases r;rfl
 | d::ds,_,ys,h,r=>by
  cases r with
  | cons x t =>
   unfold Mi.yL at h
   cases h1:Mi.MT d with
   | none=>rw[h1] at h;cases h
   | some y =>
    cases h2:Mi.yL ds with
    | none=>rw[h1,h2] at h;cases h
    | some zs =>
     rw[h1,h2] at h
     cases h
     rw[Dt h1 x,t6 h2 t];rfl
theorem T3{H Hv:Hp}(vw:Vw H Hv){w:W}{x:V}{d:D}{v:V}{q:Option D→Prop}(hw:RB H Hv w x)(r:Rep Hv d v)(h:Fin (Mi.Zh w d) q):∃ a o o',x=.ref a∧zP H a v o∧q o'∧match o' with
 | some d'=>∃ v',o=some v'∧Rep Hv d' v'
 | none=>o=none:=by
 cases w with
 | d x=>exact h.elim
 | ex z=>exact h.elim
 | dk kvs =>
  obtain⟨y,hy,h⟩:=jB (au.mp h)
  have h:q (Mi.wG kvs y):=h
  have:∃ a kv,x=.ref a∧H a=some (.dK kv)∧En Hv kvs kv:=by
   rcases hw with ⟨a,kv,e,z,c⟩|⟨a,o,e,z,c⟩
   ·exact⟨a,kv,e,vw.sub _ _ z,c⟩
   ·cases o with
    | dK kv=>exact⟨a,kv,e,z,c⟩
    | _=>exact c.elim
  obtain⟨a,kv,e,z,c⟩:=this
  have hv:=Dt hy r
  subst hv
  exact⟨a,_,_,e,zP.k z,h,Dr c⟩
 | dt kvs =>
  cases d with
  | tup ds =>
   obtain⟨y,hy,h⟩:=jB (au.mp h)
   have h:q (Mi.wG kvs y):=h
   have:∃ a kv,x=.ref a∧H a=some (.dT kv)∧En Hv kvs kv:=by
    rcases hw with ⟨a,kv,e,z,c⟩|⟨a,o,e,z,c⟩
    ·exact⟨a,kv,e,vw.sub _ _ z,c⟩
    ·cases o with
     | dT kv=>exact⟨a,kv,e,z,c⟩
     | _=>exact c.elim
   obtain⟨a,kv,e,z,c⟩:=this
   obtain⟨b,xs,rfl,l,r⟩:=j8.mp r
   have hv:=t6 hy r
   subst hv
   exact⟨a,_,_,e,zP.t z (vw.sub _ _ l),h,Dr c⟩
  | _=>exact h.elim
 | df kvs =>
  cases d with
  | tup ds =>
   obtain⟨y,hy,h⟩:=jB (au.mp h)
   have h:q (Mi.wG kvs y):=h
   have:∃ a ob kv,x=.ref a∧H a=some (.frz ob (.dT kv))∧En Hv kvs kv:=by
    rcases hw with ⟨a,ob,kv,e,z,c⟩|⟨a,o,e,z,c⟩
    ·exact⟨a,ob,kv,e,vw.sub _ _ z,c⟩
    ·exact c.elim
   obtain⟨a,ob,kv,e,z,c⟩:=this
   obtain⟨b,xs,rfl,l,r⟩:=j8.mp r
   have hv:=t6 hy r
   subst hv
   exact⟨a,_,_,e,.inr ⟨kv,y,b,.inr ⟨ob,z⟩,rfl,vw.sub _ _ l,rfl⟩,h,Dr c⟩
  | _=>exact h.elim
theorem Ru(i:Nat)(hk:AE M qV tk k):AE M qV (UG (wH i) tk) (Mi.rB i k):=fun e σ H Hv Q I h=>by
 obtain⟨d,hd,h⟩:=jE (au.mp h)
 obtain⟨w,he,h⟩:=NP (au.mp h)
 obtain⟨x,q,z⟩:=I.any he
 refine⟨x,q,hk e σ H Hv _ I (by
  rw[hd]
  intro v H1 Hv1 g1 r
  obtain⟨a,o,o',e1,g,h2,m⟩:=T3 g1.vw (z.grow g1) r (au.mp h)
  cases o' with
  | none=>exact h2.elim
  | some d' =>
   obtain⟨v',rfl,rv⟩:=m
   exact⟨a,v',e1,g,h2 v' H1 Hv1 g1 rv⟩)⟩
theorem Uk{tv:TE}{v:Mi.E}(i:Nat)(hm:M i=true)(hk:AE M qV tk k)(hv:AE M qV tv v):AS M κ (L2.tQ (wH i) tk tv) (Mi.tQ i k v):=fun H0 Hv0 e σ H Hv D I h=>by
 obtain⟨d,hd,h⟩:=jE (au.mp h)
 obtain⟨y,hy,h⟩:=jE (au.mp h)
 obtain⟨w,he,h⟩:=NP (au.mp h)
 refine hv e σ H Hv _ I.toR0 (by
  rw[hd]
  intro x H1 Hv1 g1 rx
  have I1:=I.grow g1
  obtain⟨p,o,q,q1,n,h0,c⟩:=I1.cell hm he
  refine⟨.ref p,q,hk e σ H1 Hv1 _ I1.toR0 (by
   rw[hy]
   intro u H2 Hv2 g2 ru
   have I2:=I1.grow g2
   have c2:=c.same g2.vis
   have q2:=g2.old.at q1 c.nt
   have g12:=g1.trans g2
   have rx2:=lK g2.vis rx
   cases w with
   | d x=>exact(show False from au.mp h).elim
   | ex z=>exact(show False from au.mp h).elim
   | df z=>exact(show False from au.mp h).elim
   | dk kvs =>
    obtain⟨hz,h⟩:=Mi.aX (au.mp h)
    obtain⟨ky,hky,h⟩:=jB (au.mp h)
    cases o with
    | dK kv =>
     have c2:En Hv2 kvs kv:=c2
     have hu:=Dt hky ru
     subst hu
     refine⟨p,_,rfl,Ht.k q2 (by rw[← P2.len c2,sizeLine_eq];exact hz),?_⟩
     exact h σ _ Hv2 (I2.write hm he q (show fj Hv2 (.dk (Mi.putK ky d kvs)) (.dK (L2.putK kv ky x)) from Kg rx2 c2)) g12.vis
    | _=>exact c2.elim
   | dt kvs =>
    cases y with
    | tup ds =>
     obtain⟨hz,h⟩:=Mi.aX (au.mp h)
     obtain⟨ky,hky,h⟩:=jB (au.mp h)
     cases o with
     | dT kv =>
      have c2:En Hv2 kvs kv:=c2
      obtain⟨b,xs,rfl,l,r⟩:=(j8 (H:=Hv2)).mp ru
      have hu:=t6 hky r
      subst hu
      refine⟨p,_,rfl,Ht.t q2 (g2.vw.sub _ _ l) (by rw[← P2.len c2,sizeLine_eq];exact hz),?_⟩
      exact h σ _ Hv2 (I2.write hm he q (show fj Hv2 (.dt (Mi.putK ky d kvs)) (.dT (L2.putK kv ky x)) from Kg rx2 c2)) g12.vis
     | _=>exact c2.elim
    | _=>exact(show False from au.mp h).elim)⟩)
end
end A
namespace Zp
open PySem PySem.Spec PyProof.Rows L2
variable[Tb:A.gH]
section
variable{P:Program}{w:World}{B:Around}{F:Value→Shared→Prop}{z:Shared}
theorem Wj{c t:Addr}{i:Nat}{us:Array Value}{u:Value}{R:Value→Shared→Prop}(hc:z.heap.IsTupleIter c t i)(ht:z.heap.IsTuple t us)(hu:us[i]? = some u)
 (hR:∀ h',h'.IsTupleIter c t (i+1)→Heap.SameBut c z.heap h'→R u { z with heap:=h' }):wpAny (model P w) B (Builtin.SmallTypes.nextOf (.ref c)) R F z:=by
 obtain⟨ob,gb,cb,db⟩:=id hc
 obtain⟨ol,gl,_,nl,dl⟩:=ht
 unfold Builtin.SmallTypes.nextOf
 refine wpAny_bind (wpAny_callSpecial?_slot (name:=Str.ofString "__next__") hc.typeIs PySem.F.slot_tuple_iterator_next (wpAny_call_entry PySem.F.slot_tuple_iterator_next hc.typeIs PySem.F.entry_tuple_iterator_next ?_ (PySem.F.args_tuple_iterator_next_1 _)))
 show wpAny _ _ (field (.ref c) 0 >>= _) _ _ z
 refine wpAny_bind (wpAny_field gb db (x:=.ref t) rfl ?_)
 show wpAny _ _ (if (Value.ref t == Value.none)=true then _ else _) _ _ z
 rw[if_neg (fun q:(Value.ref t == Value.none)=true=>nomatch q)]
 show wpAny _ _ (field (.ref c) 1 >>= _) _ _ z
 refine wpAny_bind (wpAny_field gb db (x:=.int i 0) rfl ?_)
 show wpAny _ _ (seqItems? (.ref t) >>= _) _ _ z
 refine wpAny_bind (wpAny_seqItems gl dl ?_)
 simp only[Int.toNat_natCast,hu]
 refine wpAny_bind (wpAny_setField gb db (by simp) (wpAny_pure ⟨u,rfl,wpAny_pure (hR _ ?_ (Heap.SameBut.update ..))⟩))
 refine⟨_,Heap.get?_update_self _ gb (Obj.isFreed_of_fields (Obj.data_mapFields db _)),(Obj.cls_mapFields ..).trans cb,?_⟩
 rw[Obj.data_mapFields db];simp[rawInt]
theorem Iu{c t:Addr}{i:Nat}{us:Array Value}{R:Value→Shared→Prop}(hn:B.handled=none)(hc:z.heap.IsTupleIter c t i)(ht:z.heap.IsTuple t us)(hu:us[i]? = none)
 (hF:∀ h' e,Heap.ExtBut c z.heap h'→(∃ o,h'.get? e=some o∧o.cls=.type "StopIteration")→F (.ref e) { z with heap:=h' }):wpAny (model P w) B (Builtin.SmallTypes.nextOf (.ref c)) R F z:=by
 obtain⟨ob,gb,cb,db⟩:=id hc
 obtain⟨ol,gl,_,nl,dl⟩:=ht
 unfold Builtin.SmallTypes.nextOf
 refine wpAny_bind (wpAny_callSpecial?_slot (name:=Str.ofString "__next__") hc.typeIs PySem.F.slot_tuple_iterator_next (wpAny_call_entry PySem.F.slot_tuple_iterator_next hc.typeIs PySem.F.entry_tuple_iterator_next ?_ (PySem.F.args_tuple_iterator_next_1 _)))
 show wpAny _ _ (field (.ref c) 0 >>= _) _ _ z
 refine wpAny_bind (wpAny_field gb db (x:=.ref t) rfl ?_)
 show wpAny _ _ (if (Value.ref t == Value.none)=true then _ else _) _ _ z
 rw[if_neg (fun q:(Value.ref t == Value.none)=true=>nomatch q)]
 show wpAny _ _ (field (.ref c) 1 >>= _) _ _ z
 refine wpAny_bind (wpAny_field gb db (x:=.int i 0) rfl ?_)
 show wpAny _ _ (seqItems? (.ref t) >>= _) _ _ z
 refine wpAny_bind (wpAny_seqItems gl dl ?_)
 simp only[Int.toNat_natCast,hu]
 refine wpAny_bind (wpAny_rule (wpAny_bind (wpAny_setField gb db (by simp) ?_)))
 show wpAny _ _ (newExc (.type "StopIteration") [] >>= _) _ _ _
 refine wpAny_bind ?_
 simp only[newExc,newTuple]
 refine wpAny_bind (wpAny_newObj_type ?_ (by size_fits))
 refine wpAny_bind (m:=firstArgMember _ _) (wpAny_of_eq (a:=Value.none) (by simp only[firstArgMember];rfl) (wpAny_newObj_type ?_ (by size_fits)))
 simp only[raiseNew]
 refine wpAny_bind (wpAny_handled ?_)
 first|rw[show B.in1.handled=none from hn]|rw[hn]
 exact wpAny_bind (wpAny_pure (wpAny_throw (hF _ _ (((Heap.SameBut.update ..).extBut.push _).push _) ⟨_,Heap.get?_push_size _ rfl,rfl⟩)))
end
def nm:Bool→String|true => "list" | false => "tuple"
def nmI:Bool→String|true => "list_iterator" | false => "tuple_iterator"
def RK(k:Bool)(h:Heap)(l:Addr)(us:Array Value):Prop:=∃ o,h.get? l=some o∧o.cls=.type (nm k)∧∃ n,o.data=.seq us n
def Rz(k:Bool)(h:Heap)(c l:Addr)(i:Nat):Prop:=∃ o,h.get? c=some o∧o.cls=.type (nmI k)∧o.data=.fields #[.ref l,.int i 0]
theorem RK.at{k:Bool}{h h':Heap}{l:Addr}{us:Array Value}(x:RK k h l us)(f:∀ o,h.get? l=some o→h'.get? l=some o):RK k h' l us:=let ⟨o,e,r⟩:=x;⟨o,f o e,r⟩
theorem Rz.at{k:Bool}{h h':Heap}{c l:Addr}{i:Nat}(x:Rz k h c l i)(f:∀ o,h.get? c=some o→h'.get? c=some o):Rz k h' c l i:=let ⟨o,e,r⟩:=x;⟨o,f o e,r⟩
theorem Rz.cell{k:Bool}{h:Heap}{c l:Addr}{i:Nat}(x:Rz k h c l i):∃ o,h.get? c=some o∧∀ v,o.data≠.cell v:=let ⟨o,e,_,d⟩:=x;⟨o,e,fun v q=>by rw[d] at q;cases q⟩
section
variable{P:Program}{w:World}{B:Around}{F:Value→Shared→Prop}{z:Shared}
theorem nx{k:Bool}{c t:Addr}{i:Nat}{us:Array Value}{u:Value}{R:Value→Shared→Prop}(hc:Rz k z.heap c t i)(ht:RK k z.heap t us)(hu:us[i]? = some u)
 (hR:∀ h',Rz k h' c t (i+1)→Heap.SameBut c z.heap h'→R u { z with heap:=h' }):wpAny (model P w) B (Builtin.SmallTypes.nextOf (.ref c)) R F z:=by
 cases k
 ·exact Wj hc ht hu hR
 ·exact wpAny_nextOf_list_item hc ht hu hR
theorem Wk{k:Bool}{c t:Addr}{i:Nat}{us:Array Value}{R:Value→Shared→Prop}(hn:B.handled=none)(hc:Rz k z.heap c t i)(ht:RK k z.heap t us)(hu:us[i]? = none)
 (hF:∀ h' e,Heap.ExtBut c z.heap h'→(∃ o,h'.get? e=some o∧o.cls=.type "StopIteration")→F (.ref e) { z with heap:=h' }):wpAny (model P w) B (Builtin.SmallTypes.nextOf (.ref c)) R F z:=by
 cases k
 ·exact Iu hn hc ht hu hF
 ·exact wpAny_nextOf_list_end hn hc ht hu hF
abbrev itO(k:Bool)(l:Addr):Obj:={ cls:=.type (nmI k),data:=.fields #[.ref l,.int 0 0] }
theorem Qm{k:Bool}{l:Addr}{us:Array Value}{R:Value→Shared→Prop}(h:RK k z.heap l us)(hR:R (.ref z.heap.objs.size) { z with heap:=z.heap.push (itO k l) }):wpAny (model P w) B (pyIter (.ref l)) R F z:=by
 cases k
 ·exact wpAny_pyIter_tuple h hR
 ·exact wpAny_pyIter_list h hR
end
theorem QJ{P:Program}{w:World}{B:Around}(hn:B.handled=none)(k:Bool)(c l:Addr)(hne:l≠c)(us:Array Value) :
 Draws P w B c [c,l] us.size (fun i v=>us[i]? = some v) (fun i h=>Rz k h c l i∧RK k h l us) where
 live:=fun _ _ st=>let ⟨o,ho,_⟩:=st.1;⟨o,ho⟩
 frame:=fun _ _ _ st f=>⟨st.1.at fun o e=>f c (by simp) o e,st.2.at fun o e=>f l (by simp) o e⟩
 item:=fun i s Q E hi st hQ=>nx st.1 st.2 (u:=us[i]) (by simp[hi]) fun h' a b=>hQ _ h' s.toks (by simp[hi]) ⟨a,st.2.at fun o e=>b.extBut _ _ hne e⟩ b
 done:=fun s Q E st hE=>Wk hn st.1 st.2 (by simp) hE
end Zp
namespace Zp
end Zp
namespace Zp
end Zp
namespace Zp
open PySem PySem.Spec PyProof.Rows L2 A
variable[Tb:A.gH]
def Em(H:Hp)(s:Bool×Addr)(xs:List V):Prop:=match s.1 with
 | true=>Lst H s.2 xs
 | false=>H s.2=some (.tup xs)
theorem Em.nn{H:Hp}{s:Bool×Addr}{xs:List V}(h:Em H s xs):H s.2≠none:=by
 obtain⟨k,a⟩:=s
 cases k
 ·have h:H a=_:=h
  show H a≠none
  rw[h];simp
 ·rcases (show Lst H a xs from h) with h|⟨o,h⟩
  ·show H a≠none
   rw[h];simp
  ·show H a≠none
   rw[h];simp
theorem Em.inj{H:Hp}{s:Bool×Addr}{xs ys:List V}(h:Em H s xs)(h':Em H s ys):xs=ys:=by
 obtain⟨k,a⟩:=s
 cases k
 ·have h:H a=some (.tup xs):=h
  have h':H a=some (.tup ys):=h'
  rw[h] at h';cases h';rfl
 ·rcases (show Lst H a xs from h) with h|⟨o,h⟩<;>rcases (show Lst H a ys from h') with h'|⟨o',h'⟩<;>rw[h] at h'<;>cases h'<;>rfl
theorem Em.at{X:Cx}{pins:List (Addr×Obj)}{σ : L2.St}{H:Hp}{s:Shared}{k:Bool}{a:Addr}{xs:List V}(I:Inv X pins σ H s)(h:Em H (k,a) xs):∃ its:List Value,Vals xs its∧RK k s.heap a its.toArray:=by
 cases k
 ·have h:H a=some (.tup xs):=h
  obtain⟨_,its,rv,o,e,c,_,d⟩:=I.hok a _ h
  exact⟨its,rv,o,e,c,d⟩
 ·have h:Lst H a xs:=h
  obtain⟨its,rv,⟨o,n,e,c,_,d⟩,_⟩:=I.list h.sq
  exact⟨its,rv,o,e,c,n,d⟩
end Zp
namespace Mi
def KH:D→Rs (List D)
 | .lst ds=>.ok ds
 | .tup ds=>.ok ds
 | _=>.no
end Mi
namespace Zp
open PySem PySem.Spec PyProof.Rows L2 A
open Mi (D W Rs Fin au)
variable[Tb:A.gH]
theorem Em.same{H H':Hp}{s:Bool×Addr}{xs:List V}(h:iM H H')(q:Em H s xs):Em H' s xs:=by
 obtain⟨k,a⟩:=s
 cases k
 ·exact h _ _ q
 ·exact Lst.same (a:=a) h q
theorem Zf{x:D}{k:List D→Prop}(h:Fin (Mi.KH x) k):∃ ds,(x=.lst ds∨x=.tup ds)∧k ds:=by
 cases x with
 | lst b=>exact⟨b,.inl rfl,h⟩
 | tup b=>exact⟨b,.inr rfl,h⟩
 | _=>exact h.elim
theorem W7{H:Hp}{x:D}{ds:List D}{v:V}(h:x=.lst ds∨x=.tup ds)(r:Rep H x v):∃ k a xs,v=.ref a∧Em H (k,a) xs∧P2 (Rep H) ds xs:=by
 rcases h with rfl|rfl
 ·obtain⟨a,xs,e,l,r⟩:=oA.mp r
  exact⟨true,a,xs,e,l,r⟩
 ·obtain⟨a,xs,e,l,r⟩:=j8.mp r
  exact⟨false,a,xs,e,l,r⟩
end Zp
namespace Zp
end Zp
namespace Mi
def oO(a:E):I:=fun e=>(a e).bind fun x=>(KH x).bind fun ds=>.ok (rE 0 ds)
end Mi
namespace Zp
open PySem PySem.Spec PyProof.Rows L2 A
open Mi (D W Rs Fin au)
open AutoSeq1 (wpAny_loadPart')
variable[Tb:A.gH]
abbrev eO(c:Addr):Obj:={ cls:=.type "enumerate", data:=.fields #[.none,.bool false,.ref c,rawInt 0,.none,.none] }
theorem mkE(l:Addr)(us:Array Value)(n:Nat)(dd:Option Addr)(sl:Array (Option Value)) :
 Meets (Builtin.«enumerate.__new__» ⟨[.type "enumerate", .ref l],[]⟩) (fun _ R s=>s.heap.get? l=some { cls:=.type "tuple", dict:=dd,data:=.seq us n,slots:=sl } ∧
  ∀ h1:Heap,h1=s.heap.push (itO false l)→R (.ok (.ret (.ref h1.objs.size))) { s with heap:=h1.push (eO s.heap.objs.size) }) :=
 .of_wp fun prog w A R s h=>by
  obtain⟨hp,g,d,tk,os⟩:=s;obtain⟨ht,h⟩:=h
  have hsub:=sub_enumerate
  have hQ:RK false (Shared.heap ⟨hp,g,d,tk,os⟩) l us:=⟨_,ht,rfl,n,rfl⟩
  wp_walk using wpAny_loadPart' ht
  refine wpAny_stack_any fun st=>wpAny_pure ?_
  split
  ·rename_i c _ _ _ _ _
   cases (c == Value.type "enumerate")
   ·wp_walk using wpAny_loadPart' ht,Qm hQ
    exact⟨_,rfl,h _ rfl⟩
   ·wp_walk using wpAny_loadPart' ht,Qm hQ
    exact⟨_,rfl,h _ rfl⟩
  ·wp_walk using wpAny_loadPart' ht,Qm hQ
   exact⟨_,rfl,h _ rfl⟩
theorem Js{P:Program}{w:World}{B:Around}{E':Value→Shared→Prop}{s:Shared}{k:Bool}{l:Addr}{us:Array Value}{R:Value→Shared→Prop}(hQ:RK k s.heap l us)
 (h:∀ h',IsEnum h' (s.heap.objs.size+1) s.heap.objs.size 0 .none→Rz k h' s.heap.objs.size l 0→(∀ b o,s.heap.get? b=some o→h'.get? b=some o)→R (.ref (s.heap.objs.size+1)) { s with heap:=h' }) :
 wpAny (model P w) B (call (.type "enumerate") [.ref l]) R E' s:=by
 cases k
 ·obtain⟨⟨c,dd,dt,sl⟩,hl,hc,n,hd⟩:=hQ
  replace hc:c=.type "tuple" := hc
  replace hd:dt=.seq us n:=hd
  subst hc hd
  refine callType_new F.called_enumerate (by decide) (F.typeCall_enumerate_1 _) (F.newCall_enumerate_1 _) (fun obj=>F.args_object_init_2 obj _) F.entry_enumerate_new (mkE l us n dd sl) ⟨hl,?_⟩
  intro h1 e1
  have z1:h1.objs.size=s.heap.objs.size+1:=by rw[e1];exact Heap.size_push ..
  have g1:h1.get? s.heap.objs.size=some (itO false l):=by rw[e1];exact Heap.get?_push_size _ rfl
  have g2:(h1.push (eO s.heap.objs.size)).get? h1.objs.size=some (eO s.heap.objs.size):=Heap.get?_push_size _ rfl
  show _∧_
  refine⟨⟨_,g2,rfl⟩,?_⟩
  rw[z1] at g2 ⊢
  exact h _ g2 ⟨_,Heap.get?_push_of_some _ g1,rfl,rfl⟩ fun b o x=>Heap.get?_push_of_some _ (by rw[e1];exact Heap.get?_push_of_some _ x)
 ·exact call_enumerate_list hQ fun h' a b _ d=>h h' a b d
def ZL(q:Bool×Addr):It :=
 ⟨fun i H=>∃ xs x,Em H q xs∧xs[i]? = some x,fun i H v H'=>∃ p x,(∀ xs,Em H q xs→xs[i]? = some x)∧H p=none∧v=.ref p∧H'=upd H p (.tup [.int i,x]),fun i H=>∃ xs,Em H q xs∧xs.length=i⟩
theorem HJ{P:Program}{w:World}{K:PySem.W.Frag}{elts:List Expr}{k1:Nat}{pos:Pos}(k:Bool)(a e it:Addr)(hne:e≠it):Turn P w K (.Tuple elts k1 pos) (ZL (k,a)) [e,it] e (fun i h=>(∃ old,IsEnum h e it i old)∧Rz k h it a i) where
 mem:=by simp
 obj:=fun i h st b hb=>by
  obtain⟨⟨old,he⟩,hi⟩:=st
  rcases List.mem_cons.mp hb with rfl|hb
  ·exact⟨_,he,fun v z=>by cases z⟩
  ·have e1:b=it:=by simpa using hb
   subst e1
   exact hi.cell
 keep:=fun i h h' st kk=>⟨let ⟨old,he⟩:=st.1;⟨old,kk e (by simp) _ he⟩,st.2.at fun o q=>kk it (by simp) o q⟩
 item:=by
  intro X hP hw hK hc i pins s σ H E I hf st hg
  subst hP hw hK
  obtain⟨xs,x,hq,hx⟩:=hg
  obtain⟨its,rv,p⟩:=hq.at I
  obtain⟨u,hu,ru⟩:=rv.get hx
  obtain⟨⟨old,he⟩,hli⟩:=st
  have hlt:i < its.toArray.size:=by rw[List.size_toArray];exact(List.getElem?_eq_some_iff.mp hu).1
  have hai:a≠it:=fun z=>hq.nn (by show H a=none;rw[z];exact(hf it (by simp)).1)
  have hea:e≠a:=fun z=>hq.nn (by show H a=none;rw[← z];exact(hf e (by simp)).1)
  refine wpAny_pyNext_enum_itemD (QJ (by first|exact I.ok.hd hc|(simp;exact I.ok.hd hc)) k it a hai its.toArray) he ⟨hli,p⟩ hlt hne (by simp[hne,hea]) fun y h' tk hy ho hs' hT hsz hk=>?_
  have hy:y=u:=by
   have hu':its.toArray[i]? = some u:=by simpa using hu
   rw[hu'] at hy;exact(Option.some.inj hy).symm
  subst hy
  refine⟨_,rfl,wpAny_letOwnedTupleGo_enum ho fun h2 he2 hs2=>?_⟩
  have kk:∀ b o,b∉[e,it]→s.heap.get? b=some o→h2.get? b=some o:=fun b o hb q=>by
   simp at hb
   exact(hs2.2 b hb.1).trans (hk b o hb.1 hb.2 q)
  have hTn:s.heap.objs.size≠e:=fun z=>absurd (Heap.lt_size he) (by rw[z];exact Nat.lt_irrefl _)
  refine⟨.ref s.heap.objs.size,upd H s.heap.objs.size (.tup [.int i,x]),HD (s:=s) (t':=tk+1) I hf kk (Nat.le_refl _) ?_,rfl,⟨_,x,fun ys hy=>by rw[hy.inj hq];exact hx,I.hok.fresh (Nat.le_refl _),rfl,rfl⟩,⟨⟨_,he2⟩,?_⟩,fun b hb=>?_⟩
  ·exact⟨by simp only[List.length_cons,List.length_nil];rw[sizeLine_eq];decide,[.int i tk,y],.cons ⟨_,rfl⟩ (.cons ru .nil),⟨_,(hs2.2 _ hTn).trans hT,rfl,rfl,_,rfl⟩⟩
  ·exact hs'.1.at fun o q=>(hs2.2 it (Ne.symm hne)).trans q
  ·have:b≠s.heap.objs.size:=fun z=>by
    subst z
    rcases List.mem_cons.mp hb with z|z
    ·exact hTn z
    ·have z:s.heap.objs.size=it:=by simpa using z
     obtain⟨o,ho,_⟩:=hli
     exact absurd (Heap.lt_size ho) (by rw[← z];exact Nat.lt_irrefl _)
   rw[aN this];exact(hf b hb).1
 done:=by
  intro X hP hw hK hc i pins s σ H E I hf st hg
  subst hP hw hK
  obtain⟨xs,hq,hx⟩:=hg
  obtain⟨its,rv,p⟩:=hq.at I
  obtain⟨⟨old,he⟩,hli⟩:=st
  have hl:=rv.length
  have hai:a≠it:=fun z=>hq.nn (by show H a=none;rw[z];exact(hf it (by simp)).1)
  subst hx
  have D:=QJ (P:=X.prog) (w:=X.w) (B:=X.A.in1) (by first|exact I.ok.hd hc|(simp;exact I.ok.hd hc)) k it a hai its.toArray
  have hn:its.toArray.size=xs.length:=by simp;omega
  rw[hn] at D
  exact wpAny_pyNext_enum_endD D he ⟨hli,p⟩ fun h' hx=>⟨rfl,xq (s:=s) (t':=s.toks) I hf fun b o hb q=>hx b o (fun z=>hb (by simp[z])) q⟩
 self:=fun _ i s Q E st h=>let ⟨⟨old,he⟩,_⟩:=st;wpAny_pyIter_enum he h
section
variable{X:Cx}{elts:List Expr}{k1:Nat}{tpos:Pos}{M:Nat→Bool}
def Qo(tl:TE):TI:=fun σ H R=>tl σ H fun x H1=>∃ k a,[x]=[V.ref a]∧(∃ xs,Em H1 (k,a) xs)∧R (ZL (k,a)) H1
theorem yd{a:Expr}{ta:TE}{p pos:Pos}(hg:Gl X "enumerate")(hm:X.mg "enumerate" = none)(ha:PE X a ta)(hs:starEach [a] X.env=[(false,eval a X.env)]:=by rfl)(hs0:starEach [a] X.env=(false,eval a X.env)::starEach [] X.env:=by rfl) :
 PI X (.Tuple elts k1 tpos) (.Call (.Name "enumerate" p) [a] [] pos) (Qo ta):=by
 intro pins s σ H R I h
 refine Call_ (vh I hg hm boot_enumerate (PyProof.Rows.callWith_type1 (gW (ak ha az hs0 pos pins s σ H (fun vs H1=>∃ k l,vs=[.ref l]∧(∃ xs,Em H1 (k,l) xs)∧R (ZL (k,l)) H1) I ?_) fun us s1 ⟨vs,H1,I1,r1,q1⟩=>?_) hs rfl))
 ·exact h
 ·obtain⟨k,l,e,⟨xs,hq⟩,q⟩:=q1
  subst e
  obtain⟨u,rfl,ru⟩:=vals1 r1
  cases ru
  obtain⟨its,rv,pl⟩:=hq.at I1
  refine Js pl fun h' hE hI hk=>?_
  refine wpAny_pyIter_enum hE ?_
  have I2:Inv X pins σ H1 { s1 with heap:=h' }:=I1.kept (t':=s1.toks) fun b o e=>hk b o e
  refine⟨_,[s1.heap.objs.size+1,s1.heap.objs.size],_,_,H1,rfl,I2,HJ k l (s1.heap.objs.size+1) s1.heap.objs.size (Nat.ne_of_gt (Nat.lt_succ_self _)),⟨⟨_,hE⟩,hI⟩,fun b hb=>?_,q⟩
  have hb:s1.heap.objs.size≤b:=by
   rcases List.mem_cons.mp hb with z|z
   ·rw[z];exact Nat.le_succ _
   ·have z:b=s1.heap.objs.size:=by simpa using z
    rw[z];exact Nat.le_refl _
  exact I1.ud hb (I1.hok.fresh hb)
theorem Mu{q:Bool×Addr}{ds:List D}{P:Hp→Hp→Prop}(ok:∀ H Hv,P H Hv→Vw H Hv→∃ xs,Em H q xs∧P2 (Rep Hv) ds xs):ZP (ZL q) P (Mi.rE 0 ds):=by
 refine⟨fun i H Hv p v hi=>?_,fun i H Hv x H' p v hi y=>?_,fun H Hv p v=>?_⟩
 ·obtain⟨xs,l,r⟩:=ok H Hv p v
  rw[ue] at hi
  obtain⟨x,hx,_⟩:=r.getL (i:=i) (a:=ds[i]) (by simp[hi])
  exact⟨xs,x,l,hx⟩
 ·obtain⟨xs,l,r⟩:=ok H Hv p v
  rw[ue] at hi
  obtain⟨q,z,hz,hq,rfl,rfl⟩:=y
  obtain⟨x,hx,rx⟩:=r.getL (i:=i) (a:=ds[i]) (by simp[hi])
  rw[hz xs l] at hx
  cases hx
  obtain⟨g,k⟩:=Iw v (ds:=[.int i,ds[i]]) (xs:=[.int i,z]) (.cons (oE.mpr rfl) (.cons rx .nil)) hq
  refine⟨_,.tup [.int i,ds[i]],g,?_,k⟩
  rw[Gr (i:=i) (d:=ds[i]) (by simp[hi])]
  simp
 ·obtain⟨xs,l,r⟩:=ok H Hv p v
  exact⟨xs,l,by rw[ue,r.len]⟩
theorem zf{ta:TE}{a:Mi.E}(ha:AE M qV ta a):Ny M (Qo ta) (Mi.oO a):=fun e σ H Hv R I h =>
 ha e σ H Hv _ I ((au.mp h).mono fun x hx v H1 Hv1 g1 rx=>by
  obtain⟨ds,hd,hk⟩:=Zf (au.mp hx)
  obtain⟨k,p,xs,rfl,l,r⟩:=W7 hd (show Rep Hv1 x v from rx)
  exact⟨k,p,rfl,⟨xs,l.same g1.vw.sub⟩,hk (ZL (k,p)) H1 Hv1 (fun H Hv=>Em Hv (k,p) xs∧P2 (Rep Hv) ds xs) g1 (Mu fun H Hv z v=>⟨xs,z.1.same v.sub,z.2⟩) ⟨l,r⟩ fun H1 Hv1 H2 Hv2 z s v=>⟨z.1.same s,cZ s z.2⟩⟩)
end
end Zp
namespace Mi
end Mi
namespace Zp
open PySem PySem.Spec PyProof.Rows L2 A
open Mi (D W Rs Fin au)
variable[Tb:A.gH]
end Zp
namespace Mi
abbrev SN:=List D→List D→Env→Rs Out
end Mi
namespace Zp
open PySem PySem.Spec PyProof.Rows L2 A
open Mi (D W Rs Fin au Out)
variable[Tb:A.gH]
end Zp
namespace A
open PySem L2 PyProof.Rows
open Mi (D W Rs Fin au Out Tg)
variable[Tb:gH]
open Mi (met)
theorem J9(val:Nat→Str):∀ i,(met val i).length≤i
 | 0=>Nat.le_refl _
 | i+1=>by
  have ih:=J9 val i
  unfold met
  split
  ·omega
  ·rw[List.length_append,List.length_singleton];omega
theorem SQ(val:Nat→Str)(i:Nat)(x:Str):decide (x∈met val (i+1))=(decide (x∈met val i) || decide (x=val i)):=by
 rw[met]
 split
 ·rename_i h
  by_cases e:x=val i
  ·subst e;simp[h]
  ·simp[e]
 ·rw[show decide (x∈met val i++[val i])=(decide (x∈met val i) || decide (x=val i)) from by simp]
section
variable{prog:Program}{w:World}{Ar:Around}{R:Result→Shared→Prop}{I S:Addr}{fp wr:List Addr}{n:Nat}{P:Nat→Value→Prop}{St:Nat→Heap→Prop}
theorem set_same{h:Heap}{a:Addr}{F G:Str→Bool}{n m:Nat}(hS:h.SetOf (PySem.strKind prog w) a F n)(e:∀ k,F k=G k)(en:n=m):h.SetOf (PySem.strKind prog w) a G m:=by
 rw[← funext e,← en];exact hS
theorem xH{h h':Heap}{a:Addr}{F:Str→Bool}{n:Nat}(hS:h.SetOf (PySem.strKind prog w) a F n)(k:∀ o,h.get? a=some o→h'.get? a=some o):h'.SetOf (PySem.strKind prog w) a F n :=
 let ⟨o,es,ep,t,ho,r⟩:=hS;⟨o,es,ep,t,k o ho,r⟩
theorem Og(W:Walks prog w Ar.in1 I fp wr n P St)(hSf:S∉fp)(val:Nat→Str)(hv:∀ i v,P i v→∃ t,v=.str (val i) t)(hb:n+1 < scanBound) :
 ∀ (k i:Nat) (s:Shared),n=i+k→St i s.heap→s.heap.SetOf (PySem.strKind prog w) S (fun x=>decide (x∈met val i)) (met val i).length →
  (∀ h' tk,(∀ b o,b≠S→b∉wr→s.heap.get? b=some o→h'.get? b=some o)→h'.SetOf (PySem.strKind prog w) S (fun x=>decide (x∈met val n)) (met val n).length→R (.ok (.ret .none)) { s with heap:=h',toks:=tk }) →
  codeAny (model prog w) Ar (.builtin "set.update.loop" ⟨[.ref S,.ref I],[]⟩) R s:=by
 have hSw:S∉wr:=fun z=>hSf (W.sub _ z)
 intro k
 induction k with
 | zero =>
  intro i s hk st hS hR
  obtain rfl:n=i:=hk
  refine codeAny_builtin PyProof.Rows.F.entry_set_update_loop (by
   rw[Around.under_plainId PyProof.Rows.F.plain_set_update_loop _]
   show wpAny _ Ar.in1 (pyNext (.ref I) >>= _) _ _ s
   refine wpAny_bind (W.done s _ _ st fun h' tk hm=>?_)
   exact wpAny_pure (hR h' tk (fun b o _ hw e=>hm b o hw e) (xH hS fun o e=>hm S o hSw e)))
 | succ k ih =>
  intro i s hk st hS hR
  have hlt:i < n:=by omega
  refine codeAny_builtin PyProof.Rows.F.entry_set_update_loop (by
   rw[Around.under_plainId PyProof.Rows.F.plain_set_update_loop _]
   show wpAny _ Ar.in1 (pyNext (.ref I) >>= _) _ _ s
   refine wpAny_bind (W.item i s _ _ hlt st fun v h1 tk hP st1 hm=>?_)
   obtain⟨t,rfl⟩:=hv i v hP
   have hS1:=xH hS fun o e=>hm S o hSw e
   show wpAny _ Ar.in1 (holding [Value.str (val i) t] (setAdd S (.str (val i) t)) >>= _) _ _ _
   refine wpAny_bind (wpAny_holding ?_)
   unfold setAdd
   refine wpAny_holding (wpAny_bind ((PySem.strKind prog w).pyHash (k:=val i) (strKind_is _ _ _ _) ?_))
   have room:(met val i).length+1 < scanBound:=by have:=J9 val i;omega
   refine wpAny_setAddHashed_of (knd:=PySem.strKind prog w) (strKind_is _ _ _ _) rfl hS1 room fun h2 sb hS2=>?_
   have hS3:h2.SetOf (PySem.strKind prog w) S (fun x=>decide (x∈met val (i+1))) (met val (i+1)).length:=by
    refine set_same hS2 (fun x=>(SQ val i x).symm) ?_
    rw[met]
    by_cases hm:val i∈met val i
    ·simp[hm]
    ·simp[hm]
   refine wpAny_pure ⟨plainId_quiet PyProof.Rows.F.plain_set_update_loop _,ih (i+1) _ (by omega) (W.frame _ _ _ st1 fun b hb o e=>(sb.2 b fun z=>hSf (z ▸ hb)).trans e) hS3 fun h3 tk3 hm3 hS4=>?_⟩
   exact hR h3 tk3 (fun b o hbS hw e=>hm3 b o hbS hw ((sb.2 b hbS).trans (hm b o hw e))) hS4)
abbrev Cy(led:Bool):Obj:={ cls:=.type "set", dict:=none,data:=.set #[] 0 (.fresh 0 0 led) }
set_option maxHeartbeats 8000000 in
theorem zO{E:Value→Shared→Prop}{s:Shared}{l:Addr}{items:Array Value}{xs:List Str}{Q:Value→Shared→Prop}(hh:Ar.handled=none)(hl:s.heap.IsList l items)(hx:∀ i v,items[i]? = some v→∃ t,v=Value.str (xs.getD i Str.empty) t)(hb:items.size+1 < scanBound)
 (h:∀ h' tk,h'.SetOf (PySem.strKind prog w) s.heap.objs.size (fun x=>decide (x∈met (fun i=>xs.getD i Str.empty) items.size)) (met (fun i=>xs.getD i Str.empty) items.size).length →
  (∀ b o,b < s.heap.objs.size→s.heap.get? b=some o→h'.get? b=some o)→Q (.ref s.heap.objs.size) { s with heap:=h',toks:=tk }):wpAny (model prog w) Ar (call (.type "set") [.ref l]) Q E s:=by
 obtain⟨c0,tl0,hmro⟩:=PySem.F.called_set.mro
 have mk1:=PySem.F.called_set.made
 have mk2:=PySem.F.called_set.sub
 refine wpAny_call (codeAny_of_tree (by
  show wpAny _ _ (callAny (.type "set") _) _ _ _
  refine wpAny_pure ⟨Code.quiet_builtin _ (by decide +kernel),codeAny_builtin PySem.F.entry_type_call (by
   rw[Around.under_plain (weight_type_call_type "set" [.ref l] []) rfl]
   have mk3:=PySem.F.called_set.notType
   have mk4:=PySem.F.called_set.canCreate
   have mk5:=PySem.F.typeCall_set_1 (.ref l)
   repeat (any_goals (first|assumption|wp_step))
   refine codeAny_mono (code_set_new_1 (.ref l) (E:=E) (Q₁:=fun obj s1=>∃ led:Bool,obj=.ref s.heap.objs.size∧s1={ s with heap:=s.heap.push { cls:=.type "set", dict:=none,data:=.set #[] 0 (.fresh 0 0 led) } }) fun led=>⟨led,rfl,rfl⟩) fun r s1 hr=>?_
   cases r with
   | error e=>exact hr
   | ok fl =>
    cases fl with
    | ret obj =>
     obtain⟨led,rfl,rfl⟩:=hr
     have gS:(s.heap.push (Cy led)).get? s.heap.objs.size=some (Cy led):=Heap.get?_push_size _ rfl
     have tS:Shared.TypeIs { s with heap:=s.heap.push (Cy led) } (.ref s.heap.objs.size) "set" := ⟨_,gS,rfl⟩
     have mk6:=PySem.F.called_set.init.lookup
     have mk7:=PySem.F.called_set.init.bind (.ref s.heap.objs.size)
     repeat (any_goals (first|assumption|wp_step))
     refine codeAny_mono (codeAny_call_builtin (R:=wants (fun v s2=>v=.none∧∃ h' tk,s2={ s with heap:=h',toks:=tk }∧h'.SetOf (PySem.strKind prog w) s.heap.objs.size (fun x=>decide (x∈met (fun i=>xs.getD i Str.empty) items.size)) (met (fun i=>xs.getD i Str.empty) items.size).length ∧
      ∀ b o,b < s.heap.objs.size→s.heap.get? b=some o→h'.get? b=some o) E) PySem.F.called_set.init.plain PySem.F.entry_set_init (check_set_init_1 tS (by
      obtain⟨⟨oc,od,oda,osl⟩,hol,hcl,nl,hdl⟩:=hl
      obtain rfl:oc=.type "list" := hcl
      obtain rfl:oda=.seq items nl:=hdl
      have lS:l < s.heap.objs.size:=Heap.lt_size hol
      have gl:(s.heap.push (Cy led)).get? l=some ⟨.type "list", od,.seq items nl,osl⟩:=Heap.get?_push_of_some _ hol
      have n1:=PySem.F.sub_list_set
      have n2:=PySem.F.sub_list_frozenset
      have n3:(Value.type "list" == Value.type "dict")=false:=by decide
      have li:(s.heap.push (Cy led)).IsList l items:=⟨_,gl,rfl,nl,rfl⟩
      unfold Builtin.«set.__init__» noKeywords Builtin.Frozenset.updateFrom
      generalize gp:pyIter=PI
      wp_walk
      subst gp
      refine wpAny_pyIter_list li (wpAny_bind (wpAny_runValue ?_))
      have sz:(s.heap.push (Cy led)).objs.size=s.heap.objs.size+1:=Heap.size_push ..
      have nI:l≠(s.heap.push (Cy led)).objs.size:=by rw[sz];exact Nat.ne_of_lt (Nat.lt_succ_of_lt lS)
      have nS:s.heap.objs.size∉[(s.heap.push (Cy led)).objs.size,l]:=by
       rw[sz]
       intro z
       rcases List.mem_cons.mp z with z|z
       ·exact Nat.ne_of_lt (Nat.lt_succ_self _) z
       ·exact Nat.ne_of_gt lS (by simpa using z)
      refine Og (Walks.list (by simp[hh]) _ l nI items) nS (fun i=>xs.getD i Str.empty) hx hb items.size 0 _ (by omega) ⟨⟨_,Heap.get?_push_size _ rfl,rfl,rfl⟩,li.push _⟩ ?_ ?_
      ·exact set_same ((setObjOf_fresh (knd:=PySem.strKind prog w) led).setOf (Heap.get?_push_of_some _ gS) (by unfold scanBound;omega)) (fun _=>rfl) rfl
      ·intro h' tk hk hS
       show wpAny _ _ _ _ _ _
       refine wpAny_pure ?_
       show wpAny _ _ (ret Value.none) _ _ _
       refine wpAny_pure ⟨rfl,h',tk,rfl,hS,fun b o hb e=>?_⟩
       refine hk b o (Nat.ne_of_lt hb) (fun z=>?_) (Heap.get?_push_of_some _ (Heap.get?_push_of_some _ e))
       have z:b=(s.heap.push (Cy led)).objs.size:=by simpa using z
       rw[sz] at z
       exact absurd hb (by rw[z];exact Nat.not_lt.mpr (Nat.le_succ _))))) fun r2 s2 h2=>?_
     cases r2 with
     | error e=>exact h2
     | ok fl2 =>
      cases fl2 with
      | ret v =>
       obtain⟨rfl,h',tk,rfl,hS,hk⟩:=h2
       repeat (any_goals (first|assumption|wp_step))
       exact h _ _ hS hk
      | _=>exact h2.elim
    | _=>exact hr.elim)⟩))
end
section
variable{X:Cx}{M:Nat→Bool}{te:TE}{a:Mi.E}
def RT(X:Cx)(a:Addr)(n:Nat):HO:=.ext fun h=>∃ F,h.SetOf (PySem.strKind X.prog X.w) a F n
def U3(X:Cx):List V→Hp→VK→Prop:=fun xs H Q=>∃ p ys,xs=[.ref p]∧wM X.K H p (ys.map V.str)∧ys.length+1 < 4096∧∀ l,H l=none→Q (.ref l) (upd H l (RT X l (Mi.oM ys)))
theorem JP:∀ {ys:List Str} {us:List Value} (i:Nat) (v:Value),Vals (ys.map V.str) us→us[i]? = some v→∃ t,v=Value.str (ys.getD i Str.empty) t
 | [],_,i,v,.nil,h=>by simp at h
 | y::ys,_,0,v,.cons r _,h=>by
  simp at h
  subst h
  exact r
 | y::ys,_,i+1,v,.cons _ t,h=>by
  have:=JP (ys:=ys) i v t (by simpa using h)
  simpa using this
theorem M8(hc:X.calm=true):jq X (.type "set") (U3 X):=by
 intro pins s σ H xs us Q I r h
 obtain⟨p,ys,rfl,hq,hz,q⟩:=h
 obtain⟨u,rfl,ru⟩:=vals1 r
 cases ru
 obtain⟨its,rv,pl,_⟩:=I.list hq
 have hl:=rv.length
 have e:its.toArray.size=ys.length:=by rw[List.size_toArray,← hl,List.length_map]
 refine zO (xs:=ys) (I.ok.hd hc) pl.isList (fun i v hv=>JP i v rv (by simpa using hv)) (by rw[e];exact hz) fun h' tk hS hk=>?_
 rw[e] at hS
 refine⟨.ref s.heap.objs.size,upd H s.heap.objs.size (RT X s.heap.objs.size (Mi.oM ys)),I.laid (fun b o q=>hk b o (Heap.lt_size q) q) (Nat.le_refl _) ⟨⟨_,hS⟩,?_,fun h1 h2 ⟨F,z⟩ k=>⟨F,xH z k⟩⟩,rfl,q _ (I.hok.fresh (Nat.le_refl _))⟩
 obtain⟨o,_,_,_,ho,_⟩:=hS
 exact⟨o,ho⟩
def U7(X:Cx):List V→Hp→VK→Prop:=fun xs H Q=>∃ a n,xs=[.ref a]∧H a=some (RT X a n)∧Q (.int n) H
theorem Nf:jq X (.builtin "len") (U7 X):=by
 intro pins s σ H xs us Q I r h
 obtain⟨a,n,rfl,hq,q⟩:=h
 obtain⟨u,rfl,ru⟩:=vals1 r
 cases ru
 obtain⟨⟨F,o,es,ep,t,ho,hex,hd,_,_,hb,hf,hn⟩,_⟩:=I.hok a _ hq
 refine call_len_set ho hex hd hf (by unfold scanBound at hb;omega) ⟨.int n,H,I.tok _,⟨_,by rw[hn]⟩,q⟩
theorem Rr(ha:AE M qP te a):AE M qV (Xw (U7 X) (lX (Xw (U3 X) (lX te uK)) uK)) (Mi.m1 Mi.DR a):=fun e σ H Hv Q I h =>
 ha e σ H Hv _ I ((au.mp h).mono fun x hx v H1 Hv1 g1 rx=>by
  cases x with
  | lst ds =>
   obtain⟨ys,hs,hx⟩:=jB (au.mp hx)
   obtain⟨hz,hx⟩:=Mi.aX hx
   obtain⟨p,xs,rfl,l,r⟩:=RD.lst g1.vw rx
   have:=uz hs r
   subst this
   refine⟨p,ys,rfl,l.sq,hz,fun b hb=>?_⟩
   have g2:dG H1 Hv1 (upd H1 b (RT X b (Mi.oM ys))) Hv1:=.PB g1.vw trivial hb
   exact⟨b,_,rfl,bu,(Mi.kh hx) _ _ _ (g1.trans g2) ik⟩
  | _=>exact hx.elim)
end
end A
namespace A
end A
namespace Mi
open PySem
def vp(x:D)(lo hi:Option Int):Rs D:=match x with
 | .lst ds=>.ok (.lst (oX ds lo hi))
 | .tup ds=>match lo,hi with
  | some a,none=>aU (1≤a∧a≤(ds.length:Int)∧ds.length≤16777216) (.ok (.tup (ds.drop a.toNat)))
  | _,_=>.no
 | _=>.no
def jx(xs ys:List Str):Bool:=xs.all (fun x=>decide (x∈ys)) && ys.all (fun y=>decide (y∈xs))
end Mi
namespace A
end A
namespace A
open PySem L2 PyProof.Rows
open Mi (D W Rs Fin au Out Tg met)
variable[Tb:gH]
section
variable{X:Cx}{K:PySem.W.Frag}{M:Nat→Bool}{te ta tb:TE}{a b:Mi.E}
def Ye(K:PySem.W.Frag):V→Option Int→Option Int→Hp→VK→Prop:=fun x lo hi H Q=>∃ p xs a,x=.ref p∧zF K H p xs∧lo=some a∧hi=none∧1≤a∧a≤(xs.length:Int)∧xs.length≤sizeLine∧∀ q,H q=none→Q (.ref q) (upd H q (.tup (xs.drop a.toNat)))
theorem VL:RJ X (Ye X.K):=by
 intro pins s σ H x v vl vu lo hi sl Q I rx hs pl pu h
 obtain⟨p,xs,a,rfl,hx,rfl,rfl,h1,h2,hz,q⟩:=h
 cases rx
 obtain⟨its,r,ht,_⟩:=I.tuple hx
 have hl:=r.length
 refine⟨"tuple", _,slot_tuple_getitem.lookup,ht.typeIs,?_⟩
 cases pl with
 | int _ t =>
 cases pu
 obtain⟨n,rfl⟩ : ∃ n:Nat,a=n:=⟨a.toNat,by omega⟩
 refine getItem_tuple_from ht hs (by omega) (by rw[List.size_toArray];omega) ?_ (by rw[List.size_toArray];omega)
 rw[show (its.toArray.toList.drop n)=its.drop n by simp]
 have q:=q _ (I.hok.fresh (Nat.le_refl _))
 rw[Int.toNat_natCast] at q
 exact⟨.ref s.heap.objs.size,_,I.laid (t':=s.toks) (o:=.tup (xs.drop n)) (fun b ob q=>Heap.get?_push_of_some _ q) (Nat.le_refl _) ⟨by rw[List.length_drop];omega,_,r.drop n,⟨_,Heap.get?_push_size _ rfl,rfl,rfl,0,rfl⟩⟩,rfl,q⟩
def Yh(K:PySem.W.Frag):V→Option Int→Option Int→Hp→VK→Prop:=fun x lo hi H Q=>V2 K x lo hi H Q∨Ye K x lo hi H Q
theorem RQ:RJ X (Yh X.K):=JR.or VL
theorem K3:BS qV (Yh K) Mi.vp:=fun x lo hi v H Hv Q vw rx h=>by
 cases x with
 | lst ds =>
  obtain⟨p,xs,rfl,l1,r1⟩:=RD.lst vw rx
  refine .inl ⟨p,xs,rfl,l1.sq,fun a ha=>?_⟩
  obtain⟨g,k⟩:=Iv vw (QX r1 lo hi) ha
  exact h _ _ _ g k
 | tup ds =>
  obtain⟨p,xs,rfl,l1,_,r1⟩:=RD.tup vw rx
  cases lo with
  | none=>exact h.elim
  | some a=>cases hi with
   | some c=>exact h.elim
   | none =>
    obtain⟨⟨z1,z2,z3⟩,h⟩:=Mi.aX h
    refine .inr ⟨p,xs,a,rfl,.inl (.inl l1),rfl,rfl,z1,by rw[← r1.len];exact z2,by rw[← r1.len,sizeLine_eq];exact z3,fun c hc=>?_⟩
    obtain⟨g,k⟩:=Iw vw (r1.drop a.toNat) hc
    exact h _ _ _ g k
 | _=>exact h.elim
end
end A
namespace So
open PySem PySem.W PyProof.Rows
def Hz{α : Type}(n:Nat)(lt:Nat→Nat→Bool):KasT α→(α→Prop)→Prop
 | .ret a,Q=>Q a
 | .ask i j k,Q=>i < n∧j < n∧Hz n lt (k (lt i j)) Q
theorem mY{α β : Type}{n:Nat}{lt:Nat→Nat→Bool}{f:α→KasT β}{Q:β→Prop}:∀ {t:KasT α},Hz n lt t (fun a=>Hz n lt (f a) Q)→Hz n lt (t.bind f) Q
 | .ret _,h=>h
 | .ask _ _ k,h=>⟨h.1,h.2.1,mY (t:=k _) h.2.2⟩
theorem iI{α : Type}{n:Nat}{lt:Nat→Nat→Bool}{Q Q':α→Prop}(m:∀ a,Q a→Q' a):∀ {t:KasT α},Hz n lt t Q→Hz n lt t Q'
 | .ret _,h=>m _ h
 | .ask _ _ k,h=>⟨h.1,h.2.1,iI m (t:=k _) h.2.2⟩
theorem Nz{α : Type}{n:Nat}{lt:Nat→Nat→Bool}{cmp:Nat→Nat→(Bool→Shared→Prop)→Shared→Prop}{s:Shared}(hc:∀ i j C,i < n→j < n→C (lt i j) s→cmp i j C s){Q:α→Prop}:∀ {t:KasT α},Hz n lt t Q→t.kasWp cmp (fun a s'=>s'=s∧Q a) s
 | .ret _,h=>⟨rfl,h⟩
 | .ask i j k,h=>hc i j _ h.1 h.2.1 (Nz hc (t:=k _) h.2.2)
section
variable{n:Nat}{lt:Nat→Nat→Bool}
structure ZD(n:Nat)(lt:Nat→Nat→Bool):Prop where
 tot:∀ i j,i < n→j < n→i≠j→lt i j=true∨lt j i=true
 asy:∀ i j,i < n→j < n→lt i j=true→lt j i=false
 tr:∀ i j k,i < n→j < n→k < n→lt i j=true→lt j k=true→lt i k=true
abbrev at'(p:Array Nat)(i:Nat):Nat:=p.getD i 0
structure Pm(n:Nat)(p:Array Nat):Prop where
 pm:p.Perm (List.toArray (List.range n))
theorem Pm.size{p:Array Nat}(h:Pm n p):p.size=n:=by have:=h.pm.size_eq;simpa using this
theorem G7{p:Array Nat}{i:Nat}(h:i < p.size):at' p i=p[i]:=by simp[at',Array.getD,h]
theorem Pm.bd{p:Array Nat}(h:Pm n p){i:Nat}(hi:i < n):at' p i < n:=by
 have hs:i < p.size:=by rw[h.size];exact hi
 rw[G7 hs]
 have:p[i]∈(List.toArray (List.range n)).toList:=(Array.perm_iff_toList_perm.mp h.pm).mem_iff.mp (by simp)
 simpa using this
theorem Pm.inj{p:Array Nat}(h:Pm n p){i j:Nat}(hi:i < n)(hj:j < n)(e:at' p i=at' p j):i=j:=by
 have si:i < p.size:=by rw[h.size];exact hi
 have sj:j < p.size:=by rw[h.size];exact hj
 rw[G7 si,G7 sj] at e
 have nd:p.toList.Nodup:=(Array.perm_iff_toList_perm.mp h.pm).nodup_iff.mpr (by simpa using List.nodup_range)
 have e2:p.toList[i]'(by simpa using si)=p.toList[j]'(by simpa using sj):=by simpa using e
 exact(List.getElem_inj nd).mp e2
def Sd(lt:Nat→Nat→Bool)(p:Array Nat)(k:Nat):Prop:=∀ i j,i < j→j < k→lt (at' p i) (at' p j)=true
def Dd(lt:Nat→Nat→Bool)(p:Array Nat)(k:Nat):Prop:=∀ i j,i < j→j < k→lt (at' p j) (at' p i)=true
variable(O:ZD n lt)
include O
theorem not_lt{p:Array Nat}(h:Pm n p){i j:Nat}(hi:i < n)(hj:j < n)(ne:i≠j)(e:lt (at' p i) (at' p j)=false):lt (at' p j) (at' p i)=true:=by
 rcases O.tot _ _ (h.bd hi) (h.bd hj) (fun z=>ne (h.inj hi hj z)) with z|z
 ·rw[e] at z;cases z
 ·exact z
theorem Sd.more{p:Array Nat}(h:Pm n p){k:Nat}(s:Sd lt p k)(hk:1≤k)(hkn:k < n)(e:lt (at' p (k - 1)) (at' p k)=true):Sd lt p (k+1):=fun i j hij hj=>by
 by_cases hjk:j < k
 ·exact s i j hij hjk
 ·obtain rfl:j=k:=by omega
  by_cases hi:i=j - 1
  ·subst hi;exact e
  ·exact O.tr _ _ _ (h.bd (by omega)) (h.bd (by omega)) (h.bd hkn) (s i (j - 1) (by omega) (by omega)) e
theorem Dd.more{p:Array Nat}(h:Pm n p){k:Nat}(s:Dd lt p k)(hk:1≤k)(hkn:k < n)(e:lt (at' p k) (at' p (k - 1))=true):Dd lt p (k+1):=fun i j hij hj=>by
 by_cases hjk:j < k
 ·exact s i j hij hjk
 ·obtain rfl:j=k:=by omega
  by_cases hi:i=j - 1
  ·subst hi;exact e
  ·exact O.tr _ _ _ (h.bd hkn) (h.bd (by omega)) (h.bd (by omega)) e (s i (j - 1) (by omega) (by omega))
theorem Jw{p:Array Nat}(h:Pm n p):∀ (f k:Nat),1≤k→k+f≤n→Sd lt p k→Hz n lt (kas_asc p f k) fun m=>k≤m∧m≤k+f∧Sd lt p m∧(m=k+f∨lt (at' p m) (at' p (m - 1))=true)
 | 0,k,_,_,s=>⟨Nat.le_refl _,Nat.le_refl _,s,.inl rfl⟩
 | f+1,k,h1,h2,s=>by
  refine⟨h.bd (by omega),h.bd (by omega),?_⟩
  cases e:lt (p.getD k 0) (p.getD (k - 1) 0) with
  | true=>exact⟨Nat.le_refl _,by omega,s,.inr e⟩
  | false =>
   dsimp only
   rw[if_neg Bool.false_ne_true]
   refine iI (fun m hm=>?_) (Jw h f (k+1) (by omega) (by omega) (Sd.more O h s h1 (by omega) (not_lt O h (by omega) (by omega) (by omega) e)))
   refine⟨by omega,by omega,hm.2.2.1,?_⟩
   rcases hm.2.2.2 with z|z
   ·exact .inl (by omega)
   ·exact .inr z
theorem Kw{p:Array Nat}(h:Pm n p):∀ (f k:Nat),1≤k→k+f≤n→Dd lt p k→Hz n lt (kas_desc f p k 0) fun r=>r.1=p∧k≤r.2.1∧r.2.1≤k+f∧r.2.2=0∧Dd lt p r.2.1
 | 0,k,_,_,s=>⟨rfl,Nat.le_refl _,Nat.le_refl _,rfl,s⟩
 | f+1,k,h1,h2,s=>by
  refine⟨h.bd (by omega),h.bd (by omega),?_⟩
  cases e:lt (p.getD k 0) (p.getD (k - 1) 0) with
  | true =>
   dsimp only
   rw[if_pos rfl,if_neg (by omega)]
   refine iI (fun r hr=>⟨hr.1,by omega,by omega,hr.2.2.2⟩) (Kw h f (k+1) (by omega) (by omega) (Dd.more O h s h1 (by omega) e))
  | false =>
   dsimp only
   rw[if_neg Bool.false_ne_true]
   refine⟨h.bd (by omega),h.bd (by omega),?_⟩
   dsimp only
   rw[show lt (p.getD (k - 1) 0) (p.getD k 0)=true from not_lt O h (by omega) (by omega) (by omega) e,if_pos rfl]
   exact⟨rfl,Nat.le_refl _,by show k≤_;omega,rfl,s⟩
theorem Ri{p:Array Nat}{k:Nat}(hk:k≤p.size)(i:Nat):at' (kas_rev p 0 k) i=if i < k then at' p (k - 1 - i) else at' p i:=by
 have e:=getElem?_mirror_all (xs:=p) (i:=0) (j:=k) hk i
 show (kas_rev p 0 k).getD i 0=_
 have g:∀ (q:Array Nat) (j:Nat),q.getD j 0=(q[j]?).getD 0:=fun q j=>by simp
 rw[g]
 unfold kas_rev
 rw[e]
 by_cases hi:i < k
 ·rw[if_pos ⟨Nat.zero_le _,hi⟩,if_pos hi,← g,show 0+k - 1 - i=k - 1 - i by omega]
 ·rw[if_neg (by omega),if_neg hi,← g]
theorem Ou{p:Array Nat}(h:Pm n p)(k:Nat):Pm n (kas_rev p 0 k):=⟨(mirror_perm _ _ _ _).trans h.pm⟩
theorem JL{p:Array Nat}(h:Pm n p){k:Nat}(h1:1≤k)(h2:k≤n)(s:Dd lt p k):Hz n lt (kas_tail3 k n p) fun r=>Pm n r.2∧1≤r.1∧r.1≤n∧Sd lt r.2 r.1:=by
 have sz:k≤p.size:=by rw[h.size];exact h2
 have s':Sd lt (kas_rev p 0 k) k:=fun i j hij hj=>by
  rw[Ri O sz,Ri O sz,if_pos (by omega),if_pos hj]
  exact s _ _ (by omega) (by omega)
 refine mY (iI (fun m hm=>?_) (Jw O (Ou O h k) (n - k) k h1 (by omega) s'))
 exact⟨Ou O h k,by omega,by omega,hm.2.2.1⟩
theorem Gv{p:Array Nat}(h:Pm n p){k:Nat}(h2:k+1≤n)(s:Dd lt p (k+1)):Hz n lt (kas_descPart k n p) fun r=>Pm n r.2∧1≤r.1∧r.1≤n∧Sd lt r.2 r.1:=by
 refine mY (iI (fun r hr=>?_) (Kw O h (n - (k+1)) (k+1) (by omega) (by omega) s))
 obtain⟨e1,l1,l2,e2,d⟩:=hr
 rw[e2,if_neg (by omega),e1]
 exact JL O h (by omega) (by omega) d
theorem GD{p:Array Nat}(h:Pm n p)(h1:1≤n):Hz n lt (kas_count n p) fun r=>Pm n r.2∧1≤r.1∧r.1≤n∧Sd lt r.2 r.1:=by
 refine mY (iI (fun m hm=>?_) (Jw O h (n - 1) 1 (Nat.le_refl _) (by omega) (fun i j hij hj=>by omega)))
 obtain⟨m1,m2,s,e⟩:=hm
 by_cases hn:m=n
 ·rw[if_pos (by simpa using hn)]
  exact⟨h,m1,by omega,s⟩
 ·rw[if_neg (by simpa using hn)]
  have e:=e.resolve_left (by omega)
  by_cases hg:m > 1
  ·rw[if_pos hg]
   refine⟨h.bd (by omega),h.bd (by omega),?_⟩
   dsimp only
   rw[show lt (p.getD 0 0) (p.getD (m - 1) 0)=true from s 0 (m - 1) (by omega) (by omega),if_pos rfl]
   exact⟨h,m1,by omega,s⟩
  ·rw[if_neg hg]
   obtain rfl:m=1:=by omega
   refine Gv O h (by omega) fun i j hij hj=>?_
   obtain rfl:i=0:=by omega
   obtain rfl:j=1:=by omega
   exact e
theorem xZ{p:Array Nat}(h:Pm n p){k:Nat}(hk:k < n)(s:Sd lt p k):∀ (f l r:Nat),l≤r→r≤k→r - l≤f→(∀ i,i < l→lt (at' p i) (at' p k)=true)→(∀ i,r≤i→i < k→lt (at' p k) (at' p i)=true) →
 Hz n lt (kas_place p k f l r) fun m=>m≤k∧(∀ i,i < m→lt (at' p i) (at' p k)=true)∧(∀ i,m≤i→i < k→lt (at' p k) (at' p i)=true)
 | 0,l,r,h1,h2,h3,a,b=>by
  obtain rfl:l=r:=by omega
  exact⟨h2,a,b⟩
 | f+1,l,r,h1,h2,h3,a,b=>by
  unfold kas_place
  by_cases g:l ≥ r
  ·rw[if_pos g]
   obtain rfl:l=r:=by omega
   exact⟨h2,a,b⟩
  ·rw[if_neg g]
   refine⟨h.bd hk,h.bd (by omega),?_⟩
   cases e:lt (p.getD k 0) (p.getD ((l+r) / 2) 0) with
   | true =>
    dsimp only
    rw[if_pos rfl]
    refine xZ h hk s f l ((l+r) / 2) (by omega) (by omega) (by omega) a fun i hi hk'=>?_
    by_cases z:i=(l+r) / 2
    ·subst z;exact e
    ·exact O.tr _ _ _ (h.bd hk) (h.bd (by omega)) (h.bd (by omega)) e (s _ _ (by omega) hk')
   | false =>
    dsimp only
    rw[if_neg Bool.false_ne_true]
    have e':=not_lt O h hk (by omega) (by omega) e
    refine xZ h hk s f ((l+r) / 2+1) r (by omega) h2 (by omega) (fun i hi=>?_) b
    by_cases z:i=(l+r) / 2
    ·subst z;exact e'
    ·exact O.tr _ _ _ (h.bd (by omega)) (h.bd (by omega)) (h.bd hk) (s _ _ (by omega) (by omega)) e'
theorem Rj{p:Array Nat}{k d:Nat}(hk:k < p.size)(hd:d≤k)(i:Nat):at' (bubble p k d) i=if i=k - d then at' p k else if k - d < i∧i≤k then at' p (i - 1) else at' p i:=by
 have e:=getElem?_bubble hk d hd i
 have g:∀ (q:Array Nat) (j:Nat),q.getD j 0=(q[j]?).getD 0:=fun q j=>by simp
 show (bubble p k d).getD i 0=_
 rw[g,e]
 by_cases h1:i=k - d
 ·rw[if_pos h1,if_pos h1,← g]
 ·rw[if_neg h1,if_neg h1]
  by_cases h2:k - d < i∧i≤k
  ·rw[if_pos h2,if_pos h2,← g]
  ·rw[if_neg h2,if_neg h2,← g]
theorem Q9:∀ (f:Nat) (p:Array Nat) (k:Nat),Pm n p→k+f≤n→Sd lt p k→Hz n lt (kas_bin f p k) fun q=>Pm n q∧Sd lt q (k+f)
 | 0,p,k,h,_,s=>⟨h,s⟩
 | f+1,p,k,h,hk,s=>by
  have sz:k < p.size:=by rw[h.size];omega
  refine mY (iI (fun l hl=>?_) (xZ O h (by omega) s k 0 k (by omega) (Nat.le_refl _) (by omega) (fun i hi=>by omega) (fun i h1 h2=>by omega)))
  obtain⟨l1,lo,hi⟩:=hl
  have s':Sd lt (bubble p k (k - l)) (k+1):=fun i j hij hj=>by
   rw[Rj O sz (d:=k - l) (by omega),Rj O sz (d:=k - l) (by omega),show k - (k - l)=l by omega]
   by_cases c1:i=l
   ·rw[if_pos c1,if_neg (by omega),if_pos (by omega)]
    exact hi _ (by omega) (by omega)
   ·rw[if_neg c1]
    by_cases c2:l < i∧i≤k
    ·rw[if_pos c2,if_neg (by omega),if_pos (by omega)]
     exact s _ _ (by omega) (by omega)
    ·rw[if_neg c2]
     by_cases c3:j=l
     ·rw[if_pos c3]
      exact lo _ (by omega)
     ·rw[if_neg c3]
      by_cases c4:l < j∧j≤k
      ·rw[if_pos c4]
       exact s _ _ (by omega) (by omega)
      ·rw[if_neg c4]
       exact s _ _ (by omega) (by omega)
  refine iI (fun q hq=>⟨hq.1,?_⟩) (Q9 f (bubble p k (k - l)) (k+1) ⟨(bubble_perm _ _ _).trans h.pm⟩ (by omega) s')
  rw[show k+(f+1)=k+1+f by omega];exact hq.2
theorem RP(h1:1≤n):Hz n lt (kas_sort n) fun q=>Pm n q∧Sd lt q n:=by
 refine mY (iI (fun r hr=>?_) (GD O ⟨Array.Perm.refl _⟩ h1))
 obtain⟨pm,r1,r2,s⟩:=hr
 by_cases hl:r.1 < n
 ·rw[if_pos hl]
  refine iI (fun q hq=>⟨hq.1,?_⟩) (Q9 O (n - max r.1 1) r.2 (max r.1 1) pm (by omega) (by rw[show max r.1 1=r.1 by omega];exact s))
  rw[show n=max r.1 1+(n - max r.1 1) by omega];exact hq.2
 ·rw[if_neg hl]
  exact⟨pm,by rw[show n=r.1 by omega];exact s⟩
end
end So
namespace So
open PySem PySem.W PyProof.Rows PySem.MeetsSeq3
def iC:List Int→List Int→Bool
 | [],[]=>false
 | [],_::_=>true
 | _::_,[]=>false
 | a::r,b::t=>if a == b then iC r t else decide (a < b)
section
variable{prog:Program}{w:World}{Ar:Around}
theorem Kr{vs:List Value}{ns:List Int}(h:IntsAre vs ns):∀ {i:Nat} {n:Int},ns[i]? = some n→∃ t,vs[i]? = some (.int n t):=by
 induction h with
 | nil=>intro i n e;simp at e
 | cons a t h ih =>
  intro i n e
  cases i with
  | zero=>simp at e;subst e;exact⟨t,rfl⟩
  | succ i=>exact ih (by simpa using e)
theorem YJ{R:Result→Shared→Prop}{s:Shared}{l b:Addr}{us vs:List Value}{xs ys:List Int}{o o2:Obj}{n n2:Nat}(ho:s.heap.get? l=some o)(hd:o.data=.seq us.toArray n)(ho2:s.heap.get? b=some o2)(hd2:o2.data=.seq vs.toArray n2)(hu:IntsAre us xs)(hv:IntsAre vs ys) :
 ∀ (k i:Nat),xs.length - i≤k→i≤xs.length→i≤ys.length→R (.ok (.ret (.bool (iC (xs.drop i) (ys.drop i))))) s→codeAny (model prog w) Ar (.builtin "list.__eq__.loop" ⟨[.ref l,.ref b,rawInt i,rawInt 0],[]⟩) R s:=by
 have l1:=hu.length
 have l2:=hv.length
 have gx:∀ i,i < xs.length→∃ t,us.toArray[i]? = some (.int (xs.getD i 0) t):=fun i hi=>by
  obtain⟨t,e⟩:=Kr hu (i:=i) (n:=xs.getD i 0) (by simp[hi])
  exact⟨t,by simpa using e⟩
 have gy:∀ i,i < ys.length→∃ t,vs.toArray[i]? = some (.int (ys.getD i 0) t):=fun i hi=>by
  obtain⟨t,e⟩:=Kr hv (i:=i) (n:=ys.getD i 0) (by simp[hi])
  exact⟨t,by simpa using e⟩
 have nx:∀ i,¬ i < xs.length→us.toArray[i]? = none:=fun i hi=>by simp;omega
 have ny:∀ i,¬ i < ys.length→vs.toArray[i]? = none:=fun i hi=>by simp;omega
 have Zc:∀ i,i=xs.length→i≤ys.length→decide (us.toArray.size < vs.toArray.size)=iC (xs.drop i) (ys.drop i):=fun i hi hj=>by
  rw[List.drop_eq_nil_of_le (by omega:xs.length≤i),List.size_toArray,List.size_toArray,l1,l2]
  by_cases h:i < ys.length
  ·rw[List.drop_eq_getElem_cons h]
   simp[iC];omega
  ·rw[List.drop_eq_nil_of_le (by omega:ys.length≤i)]
   simp[iC];omega
 have aax:∀ i,i < xs.length→i=ys.length→decide (us.toArray.size < vs.toArray.size)=iC (xs.drop i) (ys.drop i):=fun i hi hj=>by
  rw[List.drop_eq_nil_of_le (by omega:ys.length≤i),List.drop_eq_getElem_cons hi,List.size_toArray,List.size_toArray,l1,l2]
  simp[iC];omega
 have fin:∀ (i:Nat),(us.toArray[i]? = none∨vs.toArray[i]? = none)→R (.ok (.ret (.bool (decide (us.toArray.size < vs.toArray.size))))) s→codeAny (model prog w) Ar (.builtin "list.__eq__.loop" ⟨[.ref l,.ref b,rawInt i,rawInt 0],[]⟩) R s:=fun i hn h=>by
  refine codeAny_builtin entry_eq_loop (by
   rw[Around.under_plainId plain_eq_loop _]
   unfold Builtin.«list.__eq__.loop»
   show wpAny _ _ (Builtin.List.listItems (.ref l) >>= _) _ _ _
   refine wpAny_bind (listItems_at ho hd (wpAny_bind (listItems_at ho2 hd2 ?_)))
   simp only[Int.toNat_natCast]
   rcases hn with e|e
   ·rw[e]
    dsimp only
    refine wpAny_bind (listItems_at ho hd (wpAny_bind (listItems_at ho2 hd2 ?_)))
    exact wpAny_pure h
   ·rw[e]
    cases us.toArray[i]? <;>
    ·dsimp only
     refine wpAny_bind (listItems_at ho hd (wpAny_bind (listItems_at ho2 hd2 ?_)))
     exact wpAny_pure h)
 intro k
 induction k with
 | zero =>
  intro i hk h1 h2 h
  refine fin i (.inl (nx i (by omega))) ?_
  rw[Zc i (by omega) h2];exact h
 | succ k ih =>
  intro i hk h1 h2 h
  by_cases hi:i < xs.length
  ·by_cases hj:i < ys.length
   ·obtain⟨t,e1⟩:=gx i hi
    obtain⟨u,e2⟩:=gy i hj
    have dx:xs.drop i=xs.getD i 0::xs.drop (i+1):=by rw[List.drop_eq_getElem_cons hi];simp[hi]
    have dy:ys.drop i=ys.getD i 0::ys.drop (i+1):=by rw[List.drop_eq_getElem_cons hj];simp[hj]
    rw[dx,dy] at h
    refine codeAny_builtin entry_eq_loop (by
     rw[Around.under_plainId plain_eq_loop _]
     unfold Builtin.«list.__eq__.loop»
     show wpAny _ _ (Builtin.List.listItems (.ref l) >>= _) _ _ _
     refine wpAny_bind (listItems_at ho hd (wpAny_bind (listItems_at ho2 hd2 ?_)))
     simp only[Int.toNat_natCast]
     rw[e1,e2]
     dsimp only
     refine wpAny_bind (wpAny_eqBool_int ?_)
     cases hb:(xs.getD i 0 == ys.getD i 0) with
     | true =>
      rw[if_pos rfl]
      rw[iC,hb,if_pos rfl] at h
      refine wpAny_pure ⟨plainId_quiet plain_eq_loop _,?_⟩
      have:=ih (i+1) (by omega) hi hj h
      rw[show rawInt ((i+1:Nat):Int)=rawInt ((i:Int)+1) from by rw[show ((i+1:Nat):Int)=(i:Int)+1 by omega]] at this
      exact this
     | false =>
      rw[if_neg Bool.false_ne_true]
      rw[iC,hb,if_neg Bool.false_ne_true] at h
      refine wpAny_bind (listItems_at ho hd (wpAny_bind (listItems_at ho2 hd2 ?_)))
      rw[e1,e2]
      show wpAny _ _ (richCompare .Lt _ _ >>= _) _ _ _
      exact wpAny_bind (show wpAny _ _ (compareOp .Lt _ _) _ _ _ from wpAny_lt_int (wpAny_pure h)))
   ·refine fin i (.inr (ny i hj)) ?_
    rw[aax i hi (by omega)];exact h
  ·refine fin i (.inl (nx i hi)) ?_
   rw[Zc i (by omega) h2];exact h
theorem Qc{E:Value→Shared→Prop}{s:Shared}{l b:Addr}{us vs:List Value}{xs ys:List Int}{o o2:Obj}{n n2:Nat}{Q:Bool→Shared→Prop}(ho:s.heap.get? l=some o)(hc:o.cls=.type "list")(hd:o.data=.seq us.toArray n)(ho2:s.heap.get? b=some o2)(hc2:o2.cls=.type "list")(hd2:o2.data=.seq vs.toArray n2)(hu:IntsAre us xs)(hv:IntsAre vs ys)
 (hun:Ar.units < cLine) (h:Q (iC xs ys) s):wpAny (model prog w) Ar (keyLt' oneType' (.ref l) (.ref b)) Q E s:=by
 have t1:s.TypeIs (.ref l) "list" := ⟨_,ho,hc⟩
 have t2:s.TypeIs (.ref b) "list" := ⟨_,ho2,hc2⟩
 rw[keyLt'_oneType,oneLt'_eq]
 simp only[if_true]
 refine wpAny_bind (wpAny_cRoomFor hun ?_)
 refine wpAny_bind (wpAny_callSpecialIfBound?_slot t1 PySem.F.slot_list_lt (wpAny_call (codeAny_call_builtin PySem.F.slot_list_lt.plain PySem.F.entry_list_lt (PySem.F.slot_list_lt.check _ _ _ _ _ _ _ _ t1 (PySem.F.args_list_lt_2 _ _) ?_))))
 unfold Builtin.«list.__lt__»
 have sub:isSubtype (.type "list") (.type "list")=pure true:=by rw[isSubtype_type];kernel_rfl
 show wpAny _ _ (isInstance (.ref b) (.type "list") >>= _) _ _ _
 refine wpAny_bind (wpAny_isInstance t2 sub ?_)
 refine wpAny_pure ⟨plainId_quiet plain_eq_loop _,?_⟩
 refine YJ ho hd ho2 hd2 hu hv xs.length 0 (by omega) (Nat.zero_le _) (Nat.zero_le _) ?_
 exact wpAny_truthy_bool h
end
end So
namespace So
open PySem PySem.W PyProof.Rows
section
variable{prog:Program}{w:World}{A:Around}{E:Value→Shared→Prop}{s:Shared}
def tm(n:Nat):List Addr:=[n,n+1,n+2,n+3]
def sS(lt:Nat→Nat→Bool)(vs out:List Value):Prop:=∃ p:Array Nat,Pm vs.length p∧Sd lt p vs.length∧out=p.toList.map fun i=>vs.getD i Value.none
theorem sS.len{lt:Nat→Nat→Bool}{vs out:List Value}(h:sS lt vs out):out.length=vs.length:=by
 obtain⟨p,pm,_,rfl⟩:=h
 rw[List.length_map,Array.length_toList,pm.size]
theorem xx{a kS:Addr}{e e1:Nat}{ks out:List Value}{st:SortSt}{P:PySem.Fin→Shared→Prop}(hk:s.heap.get? kS=some (seqObj "list" (List.toArray ks) e))(ha:s.heap.get? a=some (seqObj "list" #[] e1))(ne:a≠kS)
 (hks:ks.length < 64) (ho:out.length < 64) (hout:(arrOf st).map (·.2)=List.toArray out) (hf:failedOf st=none)
 (h:∀ h' c,(∀ b o,b≠a→b≠kS→s.heap.get? b=some o→h'.get? b=some o)→(∃ o,h'.get? kS=some o)→h'.get? a=some (seqObj "list" (List.toArray out) c)→P (.done (.ret .none)) { s with heap:=h' }) :
 wpAny (model prog w) A (ksk_tail a false e1 (.ref kS) st) P E s:=by
 have s1:=Heap.SameBut.update s.heap kS (Obj.mapSeq fun _=>(#[]:Array Value))
 have ha1:=(s1.2 a ne).trans ha
 have s2:=Heap.SameBut.update (s.heap.update kS (Obj.mapSeq fun _=>(#[]:Array Value))) a (Obj.mapSeq fun _=>List.toArray out)
 obtain⟨c,hc⟩ : ∃ c,((s.heap.update kS (Obj.mapSeq fun _=>(#[]:Array Value))).update a (Obj.mapSeq fun _=>List.toArray out)).get? a=some (seqObj "list" (List.toArray out) c):=⟨_,get?_update_seq ha1 fun _=>List.toArray out⟩
 unfold ksk_tail
 dsimp only
 rw[hout]
 refine wpAny_bind (listUpdate_at hk rfl ?_ (by rw[List.size_toArray,sizeLine_eq];omega) (Nat.zero_le _))
 refine wpAny_bind (wpAny_letGo (wpAny_bind (seqEpoch_at ha1 rfl ?_)))
 refine wpAny_bind (listUpdate_at ha1 rfl ?_ (Nat.zero_le _) (by show (List.toArray out).size≤_;rw[List.size_toArray,sizeLine_eq];omega))
 rw[hf]
 simp only[bne_self_eq_false,Bool.false_eq_true,if_false]
 exact wpAny_pure (h _ c (fun b o n1 n2 q=>(s2.2 b n1).trans ((s1.2 b n2).trans q)) ⟨_,(s2.2 kS (Ne.symm ne)).trans (get?_update_seq hk fun _=>#[])⟩ hc)
theorem IW{a kS f:Addr}{e1:Nat}{P:PySem.Fin→Shared→Prop}(J:List Value→Shared→Prop){vs:List Value}(h64:vs.length < 64)
 (jk:∀ ks s1 h',J ks s1→(∀ b o,b≠kS→s1.heap.get? b=some o→h'.get? b=some o)→(∃ o,h'.get? kS=some o)→J ks { s1 with heap:=h' })
 (jc:∀ i x ks s1,vs[i]? = some x→ks.length=i→J ks s1→wpAny (model prog w) A (call (.ref f) [x]) (fun k s2=>J (ks++[k]) s2∧∀ b o,(b=a∨b=kS)→s1.heap.get? b=some o→s2.heap.get? b=some o) (fun _ _=>False) s1)
 (ne:a≠kS) (hk:s.heap.get? kS=some (seqObj "list" #[] 0)) (ha:s.heap.get? a=some (seqObj "list" #[] e1)) (j0:J [] s)
 (fin:∀ ks e s1,ks.length=vs.length→J ks s1→s1.heap.get? kS=some (seqObj "list" (List.toArray ks) e)→s1.heap.get? a=some (seqObj "list" #[] e1)→wpAny (model prog w) A (ksk_end a false vs.toArray e1 (.ref kS) (List.toArray ks)) P E s1) :
 wpAny (model prog w) A (ksk_rest a (.ref f) false vs.toArray e1 (.ref kS)) P E s:=by
 unfold ksk_rest
 refine wpAny_bind (wpAny_rule ?_)
 rw[List.forIn_toArray]
 refine wpAny_bind (ksk_fold (I:=fun i s1=>∃ ks e,ks.length=i∧J ks s1∧s1.heap.get? kS=some (seqObj "list" (List.toArray ks) e)∧s1.heap.get? a=some (seqObj "list" #[] e1)) vs 0 s ⟨[],0,rfl,j0,hk,ha⟩ (fun j x s1 hx hI=>?_) fun s1 hI=>?_)
 ·obtain⟨ks,e,hl,hJ,hk1,ha1⟩:=hI
  rw[Nat.zero_add] at hl ⊢
  have hlt:j < vs.length:=(List.getElem?_eq_some_iff.mp hx).1
  refine wpAny_bind (wpAny_attempt (wpAny_mono (jc j x ks s1 hx hl hJ) (fun k s2 h2=>?_) fun _ _ z=>z.elim))
  obtain⟨hJ2,kp⟩:=h2
  have hk2:=kp kS _ (.inr rfl) hk1
  have ha2:=kp a _ (.inl rfl) ha1
  have su:=Heap.SameBut.update s2.heap kS (Obj.mapSeq (·.push k))
  have ea:(List.toArray ks).push k=List.toArray (ks++[k]):=by simp
  obtain⟨c2,hc2⟩ : ∃ c2,(s2.heap.update kS (Obj.mapSeq (·.push k))).get? kS=some (seqObj "list" (List.toArray (ks++[k])) c2):=⟨_,by rw[← ea];exact get?_update_seq hk2 (·.push k)⟩
  dsimp only
  refine wpAny_bind (listUpdate_at hk2 rfl ?_ (by rw[List.size_toArray,sizeLine_eq];omega) (Nat.le_trans (Nat.le_of_eq (Array.size_push ..)) (by rw[List.size_toArray,sizeLine_eq];omega)))
  exact wpAny_pure ⟨rfl,ks++[k],c2,by rw[List.length_append,hl];rfl,jk _ _ _ hJ2 (fun b o n q=>(su.2 b n).trans q) ⟨_,hc2⟩,hc2,(su.2 a ne).trans ha2⟩
 ·obtain⟨ks,e,hl,hJ,hk1,ha1⟩:=hI
  refine wpAny_bind (listItems_at hk1 rfl ?_)
  exact fin ks e s1 (by simpa using hl) hJ hk1 ha1
theorem MK{a kS:Addr}{e e1:Nat}{ks vs:List Value}{lt:Nat→Nat→Bool}{P:PySem.Fin→Shared→Prop}(hl:ks.length=vs.length)(h64:vs.length < 64)(O:ZD vs.length lt)
 (hkk:2≤vs.length→∀ (Q:SortKind→Shared→Prop),Q oneType' s→wpAny (model prog w) A (keyKind' (List.toArray ks)) Q (fun _ _=>False) s)
 (hcmp:∀ i j C,i < vs.length→j < vs.length→C (lt i j) s→kas_ask prog w A oneType' ks i j C s)
 (hk:s.heap.get? kS=some (seqObj "list" (List.toArray ks) e)) (ha:s.heap.get? a=some (seqObj "list" #[] e1)) (ne:a≠kS)
 (h:∀ out h' c,sS lt vs out→(∀ b o,b≠a→b≠kS→s.heap.get? b=some o→h'.get? b=some o)→(∃ o,h'.get? kS=some o)→h'.get? a=some (seqObj "list" (List.toArray out) c)→P (.done (.ret .none)) { s with heap:=h' }) :
 wpAny (model prog w) A (ksk_end a false vs.toArray e1 (.ref kS) (List.toArray ks)) P E s:=by
 have Tv:∀ {n:Nat},Pm n (List.toArray (List.range n)):=⟨Array.Perm.refl _⟩
 unfold ksk_end
 dsimp only
 rw[if_neg Bool.false_ne_true,if_neg Bool.false_ne_true]
 by_cases h2:vs.toArray.size < 2
 ·rw[if_pos h2,if_pos h2]
  rw[List.size_toArray] at h2
  refine wpAny_bind (wpAny_pure ?_)
  rw[StateT.run_pure]
  refine wpAny_bind (wpAny_pure ?_)
  dsimp only
  have hout:sS lt vs vs:=⟨List.toArray (List.range vs.length),Tv,fun i j hij hj=>by omega,by
   apply List.ext_getElem (by simp)
   intro i h1 h2
   simp[h1]⟩
  refine xx (out:=vs) hk ha ne (by omega) h64 ?_ rfl fun h' c kp ex hc=>h vs h' c hout kp ex hc
  show ((List.toArray ks).zip vs.toArray).map (·.2)=vs.toArray
  apply Array.toList_inj.mp
  rw[Array.toList_map,Array.toList_zip]
  simp only[]
  rw[List.map_snd_zip (by omega)]
 ·rw[if_neg h2,if_neg h2]
  rw[List.size_toArray] at h2
  refine wpAny_bind (wpAny_mono (hkk (by omega) (fun κ s'=>κ = oneType'∧s'=s) ⟨rfl,rfl⟩) (fun κ s' hh=>?_) fun _ _ z=>z.elim)
  obtain⟨rfl,rfl⟩:=hh
  have wp:=Nz (cmp:=kas_ask prog w A oneType' ks) (s:=s') hcmp (RP O (by omega))
  refine wpAny_bind (wpAny_mono (kat_run (E:=E) (Q:=fun st' s2=>s2=s'∧∃ p:Array Nat,Pm vs.length p∧Sd lt p vs.length∧arrOf st'=p.map (kas_item (ks.toArray.zip vs.toArray))∧failedOf st'=none) hl (by omega) h64 (fun p st' s2 _ a2 a3 a4=>⟨a4.1,p,a4.2.1,a4.2.2,a2,a3⟩) wp) ?_ fun _ _ z=>z)
  rintro ⟨⟨⟩,st'⟩ s2 ⟨rfl,p,pm,sd,har,hf⟩
  dsimp only
  have hout:sS lt vs (p.toList.map fun i=>vs.getD i Value.none):=⟨p,pm,sd,rfl⟩
  exact xx hk ha ne (by omega) (by rw[hout.len];exact h64) (kat_snds hl har) hf fun h' c kp ex hc=>h _ h' c hout kp ex hc
theorem Cq{f l:Addr}{vs:List Value}{Q:Value→Shared→Prop}(J:List Value→Shared→Prop)(hl:s.heap.IsList l vs.toArray)(h64:vs.length < 64)
 (j0:∀ h':Heap,(∀ b o,s.heap.get? b=some o→h'.get? b=some o)→(∀ b∈tm s.heap.objs.size,∃ o,h'.get? b=some o)→J [] { s with heap:=h' })
 (jk:∀ ks s1 h',J ks s1→(∀ b o,b∉tm s.heap.objs.size→s1.heap.get? b=some o→h'.get? b=some o)→(∀ b o,s1.heap.get? b=some o→∃ o',h'.get? b=some o')→J ks { s1 with heap:=h' })
 (jc:∀ i x ks s1,vs[i]? = some x→ks.length=i→J ks s1→wpAny (model prog w) A.in1.in1 (call (.ref f) [x]) (fun k s2=>J (ks++[k]) s2∧∀ b o,b∈tm s.heap.objs.size→s1.heap.get? b=some o→s2.heap.get? b=some o) (fun _ _=>False) s1)
 (je:∀ ks s1,ks.length=vs.length→J ks s1→∃ lt,ZD vs.length lt∧(2≤vs.length→∀ (Q:SortKind→Shared→Prop),Q oneType' s1→wpAny (model prog w) A.in1.in1 (keyKind' (List.toArray ks)) Q (fun _ _=>False) s1) ∧
  (∀ i j C,i < vs.length→j < vs.length→C (lt i j) s1→kas_ask prog w A.in1.in1 oneType' ks i j C s1) ∧
  ∀ out h' c,sS lt vs out→(∀ b o,b∉tm s.heap.objs.size→s1.heap.get? b=some o→h'.get? b=some o)→(∀ b o,s1.heap.get? b=some o→∃ o',h'.get? b=some o')→h'.get? (s.heap.objs.size+1)=some (seqObj "list" (List.toArray out) c)→Q (.ref (s.heap.objs.size+1)) { s1 with heap:=h' }) :
 wpAny (model prog w) A (call (.builtin "sorted") [.ref l] [(Str.ofString "key", .ref f)]) Q E s:=by
 refine call_function_entry_kw kind_sorted plain_sorted entry_sorted (ksk_s1 _ _) ?_
 unfold Builtin.«sorted»
 refine wpAny_bind (m:=checkCount "sorted" 1 1 _) (wpAny_pure ?_)
 refine wpAny_bind (collect_list hl ?_ (by rw[sizeLine_eq];omega))
 refine wpAny_bind (wpAny_newList ?_ (by rw[sizeLine_eq];omega))
 generalize hn:s.heap.objs.size=n at *
 generalize hh1:((s.heap.push (seqObj "list" #[] 0)).update n (Obj.mapSeq (· ++ vs.toArray)))=h1
 have hsz:h1.objs.size=n+1:=by rw[← hh1,Heap.size_update,size_push',hn]
 have k1:∀ b o,s.heap.get? b=some o→h1.get? b=some o:=fun b o q=>by
  have hlt:b < n:=by rw[← hn];exact Heap.lt_size q
  rw[← hh1,Heap.get?_update_ne _ _ _ _ (Nat.ne_of_lt hlt),Heap.get?_push_ne _ _ _ (by rw[hn];exact Nat.ne_of_lt hlt)]
  exact q
 have hoL:(h1.push (seqObj "list" vs.toArray 0)).get? (n+1)=some (seqObj "list" vs.toArray 0):=by rw[← hsz];exact Heap.get?_push_size _ rfl
 show wpAny _ _ _ _ _ { s with heap:=h1.push (seqObj "list" vs.toArray 0) }
 rw[hsz]
 refine wpAny_bind (wpAny_holding (wpAny_call_entry_kw slot_list_sort ⟨_,hoL,rfl⟩ entry_list_sort ?_ (ksk_l1 _ _)))
 show wpAny (model prog w) A.in1.in1 (Builtin.«list.sort» ⟨[.ref (n+1)],[(Str.ofString "key", .ref f)]⟩) _ _ _
 rw[ksk_t1]
 generalize hh2:h1.push (seqObj "list" vs.toArray 0)=h2 at hoL ⊢
 have k2:∀ b o,s.heap.get? b=some o→h2.get? b=some o:=fun b o q=>by rw[← hh2];exact Heap.get?_push_of_some _ (k1 b o q)
 have z2:h2.objs.size=n+2:=by rw[← hh2,Heap.size_push,hsz]
 obtain⟨e1,ho1⟩ : ∃ e1,(h2.update (n+1) (Obj.mapSeq fun _=>(#[]:Array Value))).get? (n+1)=some (seqObj "list" #[] e1):=⟨_,get?_update_seq hoL fun _=>#[]⟩
 have su:=Heap.SameBut.update h2 (n+1) (Obj.mapSeq fun _=>(#[]:Array Value))
 unfold ksk_tree
 refine wpAny_bind (listItems_at (s:={ s with heap:=h2 }) hoL rfl ?_)
 refine wpAny_bind (listUpdate_at (s:={ s with heap:=h2 }) hoL rfl ?_ (by rw[List.size_toArray,sizeLine_eq];omega) (Nat.zero_le _))
 refine wpAny_bind (seqEpoch_at (s:={ s with heap:=h2.update (n+1) (Obj.mapSeq fun _=>(#[]:Array Value)) }) ho1 rfl ?_)
 refine wpAny_bind (wpAny_newTuple ?_ (by show vs.length≤_;rw[sizeLine_eq];omega))
 refine wpAny_bind (wpAny_newList ?_ (Nat.zero_le _))
 refine wpAny_holding ?_
 generalize hh3:h2.update (n+1) (Obj.mapSeq fun _=>(#[]:Array Value))=h3 at ho1 su ⊢
 have z3:h3.objs.size=n+2:=by rw[← hh3,Heap.size_update,z2]
 have z4:(h3.push (seqObj "tuple" vs.toArray 0)).objs.size=n+3:=by rw[Heap.size_push,z3]
 show wpAny (model prog w) A.in1.in1 (ksk_rest (n+1) (.ref f) false vs.toArray e1 (.ref (h3.push (seqObj "tuple" vs.toArray 0)).objs.size)) _ _ { s with heap:=(h3.push (seqObj "tuple" vs.toArray 0)).push (seqObj "list" #[] 0) }
 rw[z4]
 have aam:∀ b o,s.heap.get? b=some o→((h3.push (seqObj "tuple" vs.toArray 0)).push (seqObj "list" #[] 0)).get? b=some o:=fun b o q=>by
  have hlt:b < n:=by rw[← hn];exact Heap.lt_size q
  exact Heap.get?_push_of_some _ (Heap.get?_push_of_some _ ((su.2 b (Nat.ne_of_lt (Nat.lt_succ_of_lt hlt))).trans (k2 b o q)))
 refine IW (kS:=n+3) (a:=n+1) J h64 (fun ks s1 h' hJ kp ex=>jk ks s1 h' hJ (fun b o hb q=>kp b o (fun z=>hb (by simp[tm,z])) q) fun b o q=>by
  by_cases z:b=n+3
  ·rw[z];exact ex
  ·exact⟨o,kp b o z q⟩)
  (fun i x ks s1 hx hl' hJ=>wpAny_mono (jc i x ks s1 hx hl' hJ) (fun k s2 h2=>⟨h2.1,fun b o hb q=>h2.2 b o (by rcases hb with z|z<;>simp[tm,z]) q⟩) fun _ _ z=>z) (show (n+1:Nat)≠n+3 by omega)
  (by rw[← z4];exact Heap.get?_push_size _ rfl) (Heap.get?_push_of_some _ (Heap.get?_push_of_some _ ho1)) (j0 _ aam fun b hb=>?ex) fun ks e s1 hlk hJ hk1 ha1=>?_
 case ex =>
  have e0:∃ o,h3.get? n=some o:=by
   have q0:(s.heap.push (seqObj "list" #[] 0)).get? n=some (seqObj "list" #[] 0):=by rw[← hn];exact Heap.get?_push_size _ rfl
   obtain⟨o1,q1⟩ : ∃ o1,h1.get? n=some o1:=by rw[← hh1];exact⟨_,get?_update_seq q0 (· ++ vs.toArray)⟩
   exact⟨_,(su.2 n (show (n:Nat)≠n+1 by omega)).trans (by rw[← hh2];exact Heap.get?_push_of_some _ q1)⟩
  simp only[tm,List.mem_cons,List.not_mem_nil,or_false] at hb
  rcases hb with rfl|rfl|rfl|rfl
  ·obtain⟨o,q⟩:=e0
   exact⟨o,Heap.get?_push_of_some _ (Heap.get?_push_of_some _ q)⟩
  ·exact⟨_,Heap.get?_push_of_some _ (Heap.get?_push_of_some _ ho1)⟩
  ·exact⟨_,Heap.get?_push_of_some _ (by rw[← z3];exact Heap.get?_push_size _ rfl)⟩
  ·exact⟨_,by rw[← z4];exact Heap.get?_push_size _ rfl⟩
 obtain⟨lt,O,hkk,hcmp,fin⟩:=je ks s1 hlk hJ
 refine MK hlk h64 O hkk hcmp hk1 ha1 (show (n+1:Nat)≠n+3 by omega) fun out h' c so kp ex hc=>?_
 exact⟨_,rfl,wpAny_pure ⟨_,rfl,fin out h' c so (fun b o hb q=>kp b o (fun z=>hb (by simp[tm,z])) (fun z=>hb (by simp[tm,z])) q) (fun b o q=>by
  by_cases y1:b=n+1
  ·rw[y1];exact⟨_,hc⟩
  ·by_cases y2:b=n+3
   ·rw[y2];exact ex
   ·exact⟨o,kp b o y1 y2 q⟩) hc⟩⟩
end
end So
namespace L2
open PySem PySem.Spec PyProof.Rows
def cxL(X:Cx)(A:Around)(N':List Str)(env:Env)(s:Shared)(H:Hp):Cx :=
 { X with A:=A.deeper env,N:=N',s₀:=s,H₀:=H,env:=env,outer:=X.stack,stack:=env::X.stack,ex:=[],fn:=fun _=>false,calm:=true,pn:=[],xe:=fun _ _=>False }
abbrev Dp(qual:Str)(scope:Scope)(s:Shared)(f c':Addr)(cl:List (Str×Addr)):Env:=PySem.W.envX qual scope s.heap.objs.size f (.ref c') cl
structure Bw(X:Cx)(x:Str)(ρ : List Nat)(N':List Str)(sc:Scope)(cl:List (Str×Addr)):Prop where
 kind:sc.kind=.function
 co:sc.isCoroutine=false
 gen:sc.isGenerator=false
 ym:∀ y∈sc.names,y.2≠.cell
 par:sc.names.lookup x=some .local
 clo:∀ y c,cl.lookup y=some c→X.env.cells.lookup y=some c
 has:∀ y,sc.names.lookup y=some .free→∃ c,cl.lookup y=some c
 N:∃ ys,N'=x::ys∧ys.length = ρ.length∧∀ (i j:Nat) y,ρ[i]? = some j→ys[i]? = some y→X.N[j]? = some y∧sc.names.lookup y=some .free∧(X.env.kindOf y=some .cell∨X.env.kindOf y=some .free)
section
variable{X:Cx}{pins:List (Addr×Obj)}{σ : St}{H:Hp}{s:Shared}{A:Around}{k:Nat}{qual x:Str}{ps:Arguments}{body:Expr}{sc:Scope}{cl:List (Str×Addr)}{pm ctv:Value}{f c':Addr}{ρ : List Nat}{N':List Str}
def mz(ρ : List Nat)(σ : St)(v:V):St:=some v :: ρ.map fun j=>(σ[j]?).join
theorem Tc{h1:Heap}{tk:Nat}{v:V}{u:Value}(I:Inv X pins σ H s)(hA:A.frames=some X.stack)(hd:A.handled=none)(S:Bw X x ρ N' sc cl)(rv:RelV v u)
 (hns:h1.Ns s.heap.objs.size fun y=>[(x,u)].reverse.lookup y) (hk:∀ b o,s.heap.get? b=some o→h1.get? b=some o) :
 Inv (cxL X A N' (Dp qual sc s f c' cl) s H) [] (mz ρ σ v) H { s with heap:=h1,toks:=tk }:=by
 obtain⟨ys,eN,el,ix⟩:=S.N
 have noA:∀ b:Addr,b∉([]:List Addr):=fun b z=>absurd z (by simp)
 refine⟨⟨I.mod,S.kind,rfl,rfl,Nat.le_refl _,fun y z c h1 h2=>I.ok.inj y z c (S.clo y c h1) (S.clo z c h2),fun y hy=>?_,fun y c z=>(nomatch z),fun _=>hd,Around.frames_deeper hA,.inr ⟨rfl,rfl⟩,fun b z=>absurd z (noA b),I.bs,Nat.le_trans I.ok.bsz I.sz,fun b _ _=>noA b,fun b z=>absurd z (noA b),I.stack,I.Cp⟩,
  rfl,I.bare,Un.kept hk,⟨_,hns,fun i y w h2 h3 h4=>?_⟩,fun y c e=>?_,I.hok.fresh (Nat.le_refl _),fun y c e=>I.pF y c (S.clo y c e),fun p hp=>absurd (show p∈([]:List (Addr×Obj)) from hp) (by simp),I.hok.kept hk,?_⟩
 ·have hy:sc.names.lookup y=some .cell∨sc.names.lookup y=some .free:=hy
  rcases hy with hy|hy
  ·exact absurd rfl (S.ym _ (PySem.mem_of_lookup hy))
  ·exact S.has y hy
 ·have h2:N'[i]? = some y:=h2
  subst eN
  cases i with
  | zero =>
   have e:x=y:=by simpa using h2
   subst e
   have e2:v=w:=by simpa [mz] using h3
   subst e2
   exact⟨u,rv,.inl ⟨S.par,by simp⟩⟩
  | succ i =>
   have hy:ys[i]? = some y:=by simpa using h2
   have h3:(ρ.map fun j=>(σ[j]?).join)[i]? = some (some w):=by simpa [mz] using h3
   rw[List.getElem?_map] at h3
   obtain⟨j,hj,e⟩:=Option.map_eq_some_iff.mp h3
   have e2:σ[j]? = some (some w):=by
    cases q:σ[j]? with
    | none=>rw[q] at e;cases e
    | some z=>rw[q] at e;exact congrArg some e
   obtain⟨n1,n2,n3⟩:=ix i j y hj hy
   obtain⟨m,hm,hl⟩:=I.loc
   have vis:Z8 X.env.scope y:=by
    rcases n3 with z|z
    ·exact .inr (.inl z)
    ·exact .inr (.inr z)
   obtain⟨u2,r2,lk⟩:=hl j y w n1 e2 vis
   refine⟨u2,r2,.inr ⟨.inr n2,?_⟩⟩
   obtain⟨c,hc⟩:=S.has y n2
   refine⟨c,hc,?_⟩
   have hX:=S.clo y c hc
   rcases lk with ⟨z,_⟩|⟨_,c2,e3,ic⟩
   ·rcases n3 with y1|y1
    ·rw[z] at y1;cases y1
    ·rw[z] at y1;cases y1
   ·rw[hX] at e3;cases e3
    obtain⟨o,ho,hd⟩:=ic
    exact⟨o,hk _ _ ho,hd⟩
 ·obtain⟨v2,o,ho,hd⟩:=I.cell y c (S.clo y c e)
  exact⟨v2,o,hk _ _ ho,hd⟩
 ·subst eN
  show (mz ρ σ v).length=(x::ys).length
  simp[mz,el]
theorem S9{u:Value}{v:V}{tb:TE}{Q:VK}(I:Inv X pins σ H s)(hA:A.frames=some X.stack)(hr:j5 (k+1) A)(S:Bw X x ρ N' sc cl)
 (ho:s.heap.get? f=some (PySem.W.kla_obj "<lambda>" qual ps body sc cl pm c' ctv)) (hcd:s.heap.CodeRec (.ref c') qual)
 (hbind:bindArgs (PySem.W.kla_fn "<lambda>" qual ps body sc cl pm (.ref c') ctv) ⟨[u],[]⟩=pure [(x,u)]) (rv:RelV v u)
 (hb:∀ env:Env,j5 k (A.deeper env)→env=Dp qual sc s f c' cl→PE (cxL X A N' env s H) body tb) (h:tb (mz ρ σ v) H Q) :
 wpAny (model X.prog X.w) A (call (.ref f) [u]) (CE X.stack X.prog X.w H s Q) (fun _ _=>False) s:=by
 refine wpAny_call (PySem.W.kla_callFunE hr.depth ho rfl S.co S.gen rfl hcd ?_)
 rw[hbind]
 refine wpAny_pure (wpAny_newFunctionEnv S.ym (fun y hy=>by
  have e:y=(x,u):=by simpa using hy
  rw[e];exact S.par) (fun h1 hns hsb=>⟨(I.nolimit).fresh _ hsb,?_⟩) S.kind)
 show codeAny _ _ (.expr body (Dp qual sc s f c' cl)) _ _
 have hk:∀ b o,s.heap.get? b=some o→h1.get? b=some o:=fun b o e=>hsb.extBut b o (Nat.ne_of_lt (Heap.lt_size e)) (Heap.get?_push_of_some _ e)
 have J:=Tc (tk:=s.toks+[(x,u)].length) (qual:=qual) (f:=f) (c':=c') I hA hr.hd S rv hns hk
 refine PySem.W.kla_codeExpr (wpAny_mono (hb _ (hr.deeper _) rfl [] _ (mz ρ σ v) H Q J h) (fun k' s' hq=>?_) fun _ _ z=>z.elim)
 obtain⟨v2,H2,I2,r2,q⟩:=hq
 exact⟨v2,H2,I2.os,I2.bare,I2.base,I2.hok,r2,q⟩
end
end L2
namespace So
theorem Ke:∀ {a b:List Int},a≠b→iC a b=true∨iC b a=true
 | [],[],h=>absurd rfl h
 | [],_::_,_=>.inl rfl
 | _::_,[],_=>.inr rfl
 | a::r,b::t,h=>by
  rw[iC,iC]
  by_cases e:a=b
  ·subst e
   simp only[beq_self_eq_true,if_true]
   exact Ke fun z=>h (by rw[z])
  ·have e':¬ b=a:=fun z=>e z.symm
   simp only[beq_iff_eq,e,e',if_false,decide_eq_true_eq]
   omega
theorem Kf:∀ {a b:List Int},iC a b=true→iC b a=false
 | [],[],h=>by simp[iC] at h
 | [],_::_,_=>rfl
 | _::_,[],h=>by simp[iC] at h
 | a::r,b::t,h=>by
  rw[iC] at h ⊢
  by_cases e:a=b
  ·subst e
   simp only[beq_self_eq_true,if_true] at h ⊢
   exact Kf h
  ·have e':¬ b=a:=fun z=>e z.symm
   simp only[beq_iff_eq,e,e',if_false,decide_eq_true_eq,decide_eq_false_iff_not] at h ⊢
   omega
theorem Qg:∀ {a b c:List Int},iC a b=true→iC b c=true→iC a c=true
 | [],[],_,h,_=>by simp[iC] at h
 | [],_::_,[],_,h=>by simp[iC] at h
 | [],_::_,_::_,_,_=>rfl
 | _::_,[],_,h,_=>by simp[iC] at h
 | _::_,_::_,[],_,h=>by simp[iC] at h
 | a::r,b::t,c::u,h,k=>by
  rw[iC] at h k ⊢
  by_cases e:a=b
  ·subst e
   simp only[beq_self_eq_true,if_true] at h
   by_cases f:a=c
   ·subst f
    simp only[beq_self_eq_true,if_true] at k ⊢
    exact Qg h k
   ·simp only[beq_iff_eq,f,if_false] at k ⊢
    exact k
  ·simp only[beq_iff_eq,e,if_false,decide_eq_true_eq] at h
   by_cases f:b=c
   ·subst f
    simp only[beq_iff_eq,e,if_false,decide_eq_true_eq]
    exact h
   ·simp only[beq_iff_eq,f,if_false,decide_eq_true_eq] at k
    have:¬ a=c:=by omega
    simp only[beq_iff_eq,this,if_false,decide_eq_true_eq]
    omega
def S5(kz:List (List Int))(i j:Nat):Bool:=iC (kz.getD i []) (kz.getD j [])
theorem Dl{kz:List (List Int)}(nd:kz.Nodup):ZD kz.length (S5 kz):=by
 have inj:∀ i j,i < kz.length→j < kz.length→i≠j→kz.getD i []≠kz.getD j []:=fun i j hi hj ne e=>by
  rw[List.getD_eq_getElem?_getD,List.getElem?_eq_getElem hi,List.getD_eq_getElem?_getD,List.getElem?_eq_getElem hj] at e
  exact ne ((List.getElem_inj nd).mp e)
 exact⟨fun i j hi hj ne=>Ke (inj i j hi hj ne),fun i j _ _ h=>Kf h,fun i j k _ _ _ h g=>Qg h g⟩
def JC{α : Type}(d:α)(kz:List (List Int))(xs ys:List α):Prop:=∃ p:Array Nat,Pm xs.length p∧Sd (S5 kz) p xs.length∧ys=p.toList.map fun i=>xs.getD i d
end So
namespace L2
open PySem PySem.Spec PyProof.Rows A So
variable[Tb:gH]
def Tab(T:Addr)(q:Str)(H H':Hp):Prop:=H'=H∨∃ ps ps' c,H T=some (.tbl q ps)∧H c=none∧c≠T∧H'=upd (upd H T (.tbl q ps')) c (.ext (lQ c q))∧jG H'
theorem Ck{c:Value}{p:Pos}:∀ {l:List Value},TriplesOk l→TriplesOk (l++[rawInt p.line,rawInt p.col,c]):=fun {l} h=>by
 fun_induction TriplesOk l with
 | case1=>exact trivial
 | case2 a b c' d e rest ih=>exact ih h
 | case3 _ _=>exact h.elim
theorem Jz{c v:Value}{p p2:Pos}:∀ {l:List Value},TriplesOk l→codeAmong p2 (l++[rawInt p.line,rawInt p.col,c])=some v→codeAmong p2 l=some v∨v=c:=fun {l} h e=>by
 fun_induction TriplesOk l with
 | case1 =>
  simp only[List.nil_append,codeAmong,rawInt] at e
  split at e
  ·exact .inr (by cases e;rfl)
  ·cases e
 | case2 a b c' d e' rest ih =>
  simp only[List.cons_append,codeAmong] at e ⊢
  split at e
  ·rename_i q
   rw[if_pos q];exact .inl e
  ·rename_i q
   rw[if_neg q];exact ih h e
 | case3 _ _=>exact h.elim
def BM(mg:Str→Option Value)(base:Heap):Prop:=∃ bm o,mg "__builtins__" = some (.ref bm)∧bm≠builtinsNs∧bm≠mainGlobals∧base.get? bm=some o∧o.cls=.type "module" ∧ o.dict=some builtinsNs∧o.data=.plain
section
variable{X:Cx}{pins:List (Addr×Obj)}{σ : St}{H:Hp}{s:Shared}{qual x:Str}{ps:Arguments}{body:Expr}{sc:Scope}{cl:List (Str×Addr)}{c T:Addr}{pos:Pos}
theorem Jq(c:Addr)(q:Str):∀ h1 h2:Heap,lQ c q h1→(∀ o,h1.get? c=some o→h2.get? c=some o)→lQ c q h2:=fun h1 h2 ⟨o,vs,t,e,d,r⟩ k=>⟨o,vs,t,k o e,d,r⟩
theorem Qj{Q:Value→Shared→Prop}{E:Value→Shared→Prop}(I:Inv X pins σ H s)(hc:X.env.code=.ref c)(C:PySem.W.CodeHd X.base c T)(k:jG H){tps:Array Value}(hT:H T=some (.tbl qual tps))(hB:BM X.mg X.base)
 (hdef:defaultsOf ps X.env=([],[])) (hq:X.env.qual ++ "<lambda>" = qual) (hcl:closureFor sc X.env=pure cl)
 (h:∀ f c' ctv pm s' H',Tab T qual H H'→H' c'=some (.ext (lQ c' qual))→s'.heap.get? f=some (PySem.W.kla_obj "<lambda>" qual ps body sc cl pm c' ctv)→Inv X pins σ H' s'→nU X pins H' f→Q (.ref f) s') :
 wpAny (model X.prog X.w) X.A (eval (.Lambda ps body sc pos) X.env) Q E s:=by
 obtain⟨ok1,ok2⟩:=k.cd T qual tps hT
 have hP:s.heap.get? T=some (PySem.W.tabObj tps):=I.hok T _ hT
 have hg:s.heap.Ns mainGlobals X.mg:=I.mod.glob.keeps I.bk
 have C':PySem.W.CodeHd s.heap c T:=C.keeps I.bk
 obtain⟨bm,bo,b1,b2,b3,b4,b5,b6,b7⟩:=hB
 have nT:∀ b o,X.base.get? b=some o→b≠T:=fun b o e z=>by
  have:=(I.bs b o e).2
  rw[z,hT] at this;cases this
 have hb:s.heap.BuiltinsAt X.mg T:=⟨bm,bo,b1,b2,b3,nT _ _ b4,I.bk _ _ b4,b5,b6,b7⟩
 have hgT:mainGlobals≠T:=by
  obtain⟨o,es,ep,e,_⟩:=I.mod.glob
  exact nT _ _ e
 refine PySem.W.kla_eval hdef ?_
 rw[hq]
 cases hf:codeAmong pos tps.toList with
 | some v =>
  obtain⟨c',rfl,hc'⟩:=ok2 pos v hf
  refine PySem.W.kla_makeFunctionHit hcl I.ok.glob hg hc C' hP ok1 hf hb fun ctv h' tk kp sz=>?_
  have I':Inv X pins σ H { s with heap:=h'.push _,toks:=tk }:=I.kept (h':=h'.push (PySem.W.kla_obj "<lambda>" qual ps body sc cl ((X.mg "__name__").getD .none) c' ctv)) fun b o e=>Heap.get?_push_of_some _ (kp b o e)
  exact h _ c' ctv _ _ H (.inl rfl) hc' (Heap.get?_push_size _ rfl) I' (I.ud sz (I.hok.fresh sz))
 | none =>
  refine PySem.W.kla_makeFunction hcl I.ok.glob hg hc C' hP ok1 hf hgT hb fun c' ctv h' tk kp h1 h2 hrec htb=>?_
  have nc:H c'=none:=I.hok.fresh h1
  have cT:c'≠T:=fun z=>by rw[z,hT] at nc;cases nc
  have hx:lQ c' qual h':=by
   obtain⟨c2,o,vs,t,e,r⟩:=hrec
   cases e
   exact⟨o,vs,t,r⟩
  obtain⟨oc,hoc⟩ : ∃ o,h'.get? c'=some o:=let ⟨o,_,_,e,_⟩:=hx;⟨o,e⟩
  have u1:Un X.fs [] H (upd H T (.tbl qual (tps ++ #[rawInt pos.line,rawInt pos.col,.ref c']))) s.heap h':=by
   have nn:∀ b,H b=none→b≠T:=fun b n z=>by rw[z,hT] at n;cases n
   refine⟨fun b o e n _ _=>kp b o (nn b n) e,fun b o e n _ _=>⟨o.slots,kp b o (nn b n) e⟩,fun b o e n _=>by rw[aN (nn b n)];exact n,fun b o e _=>?_,fun b xs e=>?_,fun b o u e=>?_,fun b w ps e=>?_⟩
   ·by_cases z:b=T
    ·rw[z];exact⟨_,htb⟩
    ·exact⟨o,kp b o z e⟩
   ·rw[aN (fun z=>by rw[z,hT] at e;cases e)];exact e
   ·rw[aN (fun z=>by rw[z,hT] at e;cases e)];exact e
   ·by_cases z:b=T
    ·subst z
     rw[hT] at e;cases e
     exact⟨_,bu⟩
    ·exact⟨#[],by rw[aN z,e];simp⟩
  have aar:qQ X.prog X.w (upd H T (.tbl qual (tps ++ #[rawInt pos.line,rawInt pos.col,.ref c']))) h':=fun b u e=>by
   by_cases z:b=T
   ·subst z;rw[bu] at e;cases e;exact htb
   ·rw[aN z] at e
    refine(I.hok b u e).stay (fun y v hy q=>kp y v ?_ q) (fun y q=>by rw[aN (fun w=>by rw[w,hT] at q;cases q)];exact q) fun y xs q=>by rw[aN (fun w=>by rw[w,hT] at q;cases q)];exact q
    rcases hy with w|w
    ·rw[w];exact z
    ·exact fun w2=>by rw[w2,hT] at w;cases w
  have I1:Inv X pins σ (upd H T (.tbl qual (tps ++ #[rawInt pos.line,rawInt pos.col,.ref c']))) { s with heap:=h',toks:=tk }:=I.un u1 aar
  have nc1:upd H T (.tbl qual (tps ++ #[rawInt pos.line,rawInt pos.col,.ref c'])) c'=none:=by rw[aN cT];exact nc
  have I2:Inv X pins σ (upd (upd H T (.tbl qual (tps ++ #[rawInt pos.line,rawInt pos.col,.ref c']))) c' (.ext (lQ c' qual))) { s with heap:=h',toks:=tk }:=by
   have F:nU X pins (upd H T (.tbl qual (tps ++ #[rawInt pos.line,rawInt pos.col,.ref c']))) c':=⟨nc1,(I.ud (H':=H) h1 nc).2⟩
   have Pj:∀ b u,(upd H T (.tbl qual (tps ++ #[rawInt pos.line,rawInt pos.col,.ref c']))) b=some u→b≠c':=fun b u e=>bc e nc1
   refine I1.call' (s':={ s with heap:=h',toks:=tk }) (ch:=[c']) rfl ⟨fun b u e _ _ _=>e,fun b u e _ _ _=>⟨u.slots,e⟩,fun b u e n hb=>?_,fun b u e hb=>⟨u,e⟩,fun b xs e=>by rw[aN (Pj _ _ e)];exact e,fun b q u e=>by rw[aN (Pj _ _ e)];exact e,fun b w ps e=>⟨#[],by rw[aN (Pj _ _ e),e];simp⟩⟩ ?_ I.bare
    fun b hb=>by
     obtain rfl:b=c':=by simpa using hb
     exact⟨F.2.2.2.1,F.2.1,F.2.2.2.2.1,F.2.2.2.2.2⟩
   ·rw[aN (fun z=>hb (by simp[z]))];exact n
   ·intro b u e
    by_cases z:b=c'
    ·subst z;rw[bu] at e;cases e
     exact⟨hx,⟨oc,hoc⟩,Jq b qual⟩
    ·rw[aN z] at e
     exact(I1.hok b u e).stay (fun y v hy q=>q) (fun y q=>by rw[aN (Pj _ _ q)];exact q) fun y xs q=>by rw[aN (Pj _ _ q)];exact q
  have Y4:∀ b o,h'.get? b=some o→(h'.push (PySem.W.kla_obj "<lambda>" qual ps body sc cl ((X.mg "__name__").getD .none) c' ctv)).get? b=some o:=fun b o e=>Heap.get?_push_of_some _ e
  have I3:=I2.kept (t':=tk) Y4
  have szs:s.heap.objs.size≤h'.objs.size:=Nat.le_trans h1 (Nat.le_of_lt h2)
  have ck:jG (upd (upd H T (.tbl qual (tps ++ #[rawInt pos.line,rawInt pos.col,.ref c']))) c' (.ext (lQ c' qual))):=by
   have nT':∀ {b:Addr} {o:HO},H b=some o→NT o→upd (upd H T (.tbl qual (tps ++ #[rawInt pos.line,rawInt pos.col,.ref c']))) c' (.ext (lQ c' qual)) b=some o:=fun {b o} e n=>by
    rw[aN (bc e nc),aN (fun z=>by rw[z,hT] at e;cases e;exact n)];exact e
   refine⟨fun r hr=>?_,fun T2 q2 ps2 e=>?_⟩
   ·obtain⟨p0,e0⟩:=k.has r hr
    by_cases z:r.1=T
    ·rw[z,hT] at e0
     have:qual=r.2:=by injection e0 with e0;injection e0
     exact⟨_,by rw[aN (by rw[z];exact Ne.symm cT),z,bu,this]⟩
    ·exact⟨p0,by rw[aN (bc e0 nc),aN z];exact e0⟩
   ·by_cases z:T2=c'
    ·subst z;rw[bu] at e;cases e
    ·rw[aN z] at e
     by_cases z2:T2=T
     ·subst z2
      rw[bu] at e
      have e1:qual=q2:=by injection e with e;injection e
      have e2:tps ++ #[rawInt pos.line,rawInt pos.col,.ref c']=ps2:=by injection e with e;injection e
      subst e1 e2
      refine⟨by rw[Array.toList_append];exact Ck ok1,fun p2 v hv=>?_⟩
      rw[Array.toList_append] at hv
      rcases Jz ok1 hv with q|q
      ·obtain⟨y,y1,y2⟩:=ok2 p2 v q
       exact⟨y,y1,nT' y2 trivial⟩
      ·exact⟨c',q,bu⟩
     ·rw[aN z2] at e
      obtain⟨t1,t2⟩:=k.cd T2 q2 ps2 e
      refine⟨t1,fun p2 v hv=>?_⟩
      obtain⟨y,y1,y2⟩:=t2 p2 v hv
      exact⟨y,y1,nT' y2 trivial⟩
  refine h h'.objs.size c' ctv _ _ _ (.inr ⟨tps,_,c',hT,nc,cT,rfl,ck⟩) bu (Heap.get?_push_size _ rfl) I3 ?_
  refine I.ud szs ?_
  rw[aN (Nat.ne_of_gt h2),aN (fun z=>?_)]
  ·exact I.hok.fresh szs
  ·have:=I.hok.fresh szs
   rw[z,hT] at this;cases this
end
end L2
namespace L2
open PySem PySem.Spec PyProof.Rows A So
variable[Tb:gH]
section
variable{X:Cx}{pins:List (Addr×Obj)}{σ : St}{H:Hp}{s:Shared}
theorem adopt{fp:List Addr}{D:Addr}{o:HO}{h':Heap}{t':Nat}(I:Inv X pins σ H s)(hf:∀ b∈fp,nU X pins H b)(hD:D∈fp)(k:∀ b u,b∉fp→s.heap.get? b=some u→h'.get? b=some u)
 (new:eX X.prog X.w (upd H D o) h' D o):Inv X pins σ (upd H D o) { s with heap:=h',toks:=t' }:=by
 have hn:H D=none:=(hf D hD).1
 have nfp:∀ b u,H b=some u→b∉fp:=fun b u e z=>by rw[(hf b z).1] at e;cases e
 refine I.call' (s':={ s with heap:=h',toks:=t' }) (ch:=fp) rfl ⟨fun b u e _ _ hb=>k b u hb e,fun b u e _ _ hb=>⟨u.slots,k b u hb e⟩,fun b u e hb hx=>?_,fun b u e hb=>⟨u,k b u hb e⟩,fun b xs e=>?_,fun b q u e=>?_,fun b w ps e=>⟨#[],?_⟩⟩ ?_ I.bare
  fun b hb=>⟨(hf b hb).2.2.2.1,(hf b hb).2.1,(hf b hb).2.2.2.2.1,(hf b hb).2.2.2.2.2⟩
 ·rw[aN (fun z=>hx (by rw[z];exact hD))];exact hb
 ·rw[aN (bc e hn)];exact e
 ·rw[aN (bc e hn)];exact e
 ·rw[aN (bc e hn),e];simp
 ·intro b u e
  by_cases hb:b=D
  ·subst hb;rw[bu] at e;cases e;exact new
  ·rw[aN hb] at e
   refine(I.hok b u e).stay (fun c v hc q=>k c v ?_ q) (fun c q=>by rw[aN (bc q hn)];exact q) fun c xs q=>by rw[aN (bc q hn)];exact q
   rcases hc with z|z
   ·rw[z];exact nfp b u e
   ·exact nfp c _ z
theorem xj:∀ {ns:List Int} {its:List Value},Vals (ns.map V.int) its→IntsAre its ns
 | [],_,.nil=>.nil
 | n::r,_,.cons h t=>by
  obtain⟨t1,rfl⟩:=h
  exact .cons n t1 (xj t)
end
def Ei(c':Addr)(q:Str)(tk:V→Hp→VK→Prop):List V→Hp→(List V→Hp→Prop)→Prop
 | [],H,R=>R [] H
 | x::xs,H,R=>tk x H fun k H1=>H1 c'=some (.ext (lQ c' q))∧Ei c' q tk xs H1 fun ks H2=>R (k::ks) H2
def KeysAre(H:Hp)(kz:List (List Int))(ks:List V):Prop:=P2 (fun z k=>∃ p,k=V.ref p∧H p=some (.lst (z.map V.int))) kz ks
def X6(T:Addr)(q:Str)(ρ : List Nat)(σ : St)(tb:TE)(Q:VK):VK:=fun x H1=>∃ a xs tps,x=.ref a∧xs.length < 64∧H1 T=some (.tbl q tps)∧jG H1 ∧
 ∀ H2 c',Tab T q H1 H2→H2 c'=some (.ext (lQ c' q))→Lst H2 a xs∧Ei c' q (fun v H K=>tb (mz ρ σ v) H K) xs H2 fun ks H3=>∃ kz:List (List Int),kz.length=xs.length∧kz.Nodup∧KeysAre H3 kz ks ∧
  ∀ p ys,H3 p=none→JC .non kz xs ys→Q (.ref p) (upd H3 p (.lst ys))
def Oa(T:Addr)(q:Str)(ρ : List Nat)(te tb:TE):TE:=fun σ H Q=>te σ H (X6 T q ρ σ tb Q)
theorem Lg{kz:List (List Int)}{xs:List V}{its out:List Value}(r:Vals xs its)(hz:kz.length=xs.length)(h:sS (S5 kz) its out):∃ ys,JC .non kz xs ys∧Vals ys out:=by
 obtain⟨p,pm,sd,rfl⟩:=h
 have hl:=r.length
 rw[← hl] at pm sd
 refine⟨p.toList.map fun i=>xs.getD i .non,⟨p,pm,sd,rfl⟩,?_⟩
 have key:∀ l:List Nat,(∀ i∈l,i < xs.length)→Vals (l.map fun i=>xs.getD i .non) (l.map fun i=>its.getD i Value.none):=fun l hl'=>by
  induction l with
  | nil=>exact .nil
  | cons i t ih =>
   have hi:=hl' i List.mem_cons_self
   refine .cons ?_ (ih fun j hj=>hl' j (List.mem_cons_of_mem _ hj))
   have e1:xs[i]? = some (xs.getD i .non):=by simp[hi]
   obtain⟨u,e2,r2⟩:=r.get e1
   have:its.getD i Value.none=u:=by simp[e2]
   show RelV (xs.getD i .non) (its.getD i Value.none)
   rw[this];exact r2
 refine key _ fun i hi=>?_
 have:=(Array.perm_iff_toList_perm.mp pm.pm).mem_iff.mp hi
 simpa using this
section
variable{X:Cx}{x qual:Str}{e:Expr}{ps:Arguments}{body:Expr}{sc:Scope}{cl:List (Str×Addr)}{c T:Addr}{p pos YL aak:Pos}{k:Nat}{ρ : List Nat}{N':List Str}{te tb:TE}
theorem Pa(hg:Gl X "sorted")(hm:X.mg "sorted" = none)(he:PE X e te)(hr:j5 (k+3) X.A)(hc:X.env.code=.ref c)(C:PySem.W.CodeHd X.base c T)(hB:BM X.mg X.base)(hdef:defaultsOf ps X.env=([],[]))(hq:X.env.qual ++ "<lambda>" = qual)(hcl:closureFor sc X.env=pure cl)
 (S:Bw X x ρ N' sc cl) (hbind:∀ (pm:Value) (c':Addr) (ctv u:Value),bindArgs (PySem.W.kla_fn "<lambda>" qual ps body sc cl pm (.ref c') ctv) ⟨[u],[]⟩=pure [(x,u)])
 (hb:∀ (A:Around) (f c':Addr) (s:Shared) (H:Hp) (env:Env),j5 k (A.deeper env)→env=Dp qual sc s f c' cl→PE (cxL X A N' env s H) body tb)
 (hs:starEach [e] X.env=(false,eval e X.env)::starEach [] X.env:=by rfl) (hpl:(backTo pos (starEach [e] X.env)).any (·.1)=false:=by rfl) :
 PE X (.Call (.Name "sorted" p) [e] [⟨some "key", .Lambda ps body sc YL,aak⟩] pos) (Oa T qual ρ te tb):=by
 intro pins s σ H Q I h
 have hboot:bootBuiltins "sorted" = some (.builtin "sorted"):=by kernel_rfl
 refine wpAny_Call_Name_kw (vh I hg hm hboot ?_)
 refine callWith_kw ?_ (by rw[hs];rfl) hpl rfl rfl
 rw[hs]
 show wpAny _ _ (spliced ((false,eval e X.env)::backTo pos (starEach [] X.env))) _ _ s
 refine Calls.spliced_cons (gW (he pins s σ H _ I h) fun u s1 ⟨x1,H1,I1,r1,q1⟩=>Calls.spliced_nil ?_)
 obtain⟨a,xs,tps,rfl,h64,hT,ck,q2⟩:=q1
 cases r1
 show wpAny _ _ (evalAll ((do let v ← eval (.Lambda ps body sc YL) X.env;standAt pos;pure v)::((backToKw pos (keywordEach [] X.env)).map (·.2)))) _ _ s1
 refine wpAny_evalAll_cons (wpAny_bind (Qj I1 hc C ck hT hB hdef hq hcl fun f c' ctv pm s2 H2 tab hc' hf I2 fpf=>wpAny_bind (wpAny_standAt (wpAny_pure (wpAny_evalAll_nil ?_)))))
 obtain⟨hl2,kr⟩:=q2 H2 c' tab hc'
 show wpAny (model X.prog X.w) X.A (call (.builtin "sorted") [.ref a] [(Str.ofString "key", .ref f)]) (EP X pins σ Q) X.xe s2
 obtain⟨its,n0,rv,hz,ho⟩:=Mj I2 hl2
 have hli:=rv.length
 let Fn:List V→Hp→Prop:=fun ks H3=>∃ kz:List (List Int),kz.length=xs.length∧kz.Nodup∧KeysAre H3 kz ks∧∀ p ys,H3 p=none→JC .non kz xs ys→Q (.ref p) (upd H3 p (.lst ys))
 have flt:f < s2.heap.objs.size:=Heap.lt_size hf
 have fnt:f∉tm s2.heap.objs.size:=fun z=>by
  simp only[tm,List.mem_cons,List.not_mem_nil,or_false] at z
  have:(f:Nat) < s2.heap.objs.size:=flt
  rcases z with z|z|z|z
  ·exact absurd this (by rw[z];exact Nat.lt_irrefl _)
  ·exact absurd this (by rw[z];exact Nat.not_lt.mpr (Nat.le_add_right _ _))
  ·exact absurd this (by rw[z];exact Nat.not_lt.mpr (Nat.le_add_right _ _))
  ·exact absurd this (by rw[z];exact Nat.not_lt.mpr (Nat.le_add_right _ _))
 refine Cq (vs:=its) (J:=fun ks s3=>∃ Hc kv,Inv X pins σ Hc s3∧Vals kv ks∧s3.heap.get? f=some (PySem.W.kla_obj "<lambda>" qual ps body sc cl pm c' ctv)∧nU X pins Hc f∧(∀ b∈tm s2.heap.objs.size,nU X pins Hc b∧∃ o,s3.heap.get? b=some o) ∧
  Hc c'=some (.ext (lQ c' qual))∧Ei c' qual (fun v H K=>tb (mz ρ σ v) H K) (xs.drop ks.length) Hc fun ks' H3=>Fn (kv++ks') H3) ⟨_,ho,rfl,_,rfl⟩ (by omega) ?j0 ?jk ?jc ?je
 case j0 =>
  intro h' kp ex
  refine⟨H2,[],I2.kept kp,.nil,kp _ _ hf,fpf,fun b hb=>⟨I2.ud ?_ (I2.hok.fresh ?_),ex b hb⟩,hc',kr⟩
  all_goals (simp only[tm,List.mem_cons,List.not_mem_nil,or_false] at hb;rcases hb with z|z|z|z<;>rw[z]<;>first|exact Nat.le_refl _|exact Nat.le_add_right _ _)
 case jk =>
  rintro ks s3 h' ⟨Hc,kv,I3,rk,hf3,fp3,tm3,hc3,kr3⟩ kp ex
  refine⟨Hc,kv,xq (t':=s3.toks) I3 (fp:=tm s2.heap.objs.size) (fun b hb=>(tm3 b hb).1) (fun b u hb q=>kp b u hb q),rk,kp _ _ fnt hf3,fp3,fun b hb=>⟨(tm3 b hb).1,?_⟩,hc3,kr3⟩
  obtain⟨o,q⟩:=(tm3 b hb).2
  exact ex b o q
 case jc =>
  rintro i u ks s3 hu hks ⟨Hc,kv,I3,rk,hf3,fp3,tm3,hc3,kr3⟩
  obtain⟨v,hv,ruv⟩ : ∃ v,xs[i]? = some v∧RelV v u:=by
   have hi:i < xs.length:=by rw[hli];exact(List.getElem?_eq_some_iff.mp hu).1
   have e1:xs[i]? = some xs[i]:=by simp[hi]
   obtain⟨u2,e2,r2⟩:=rv.get e1
   rw[hu] at e2;cases e2
   exact⟨_,e1,r2⟩
  have hd:xs.drop ks.length=v::xs.drop (ks.length+1):=by
   obtain⟨hi,e⟩:=List.getElem?_eq_some_iff.mp hv
   rw[hks,List.drop_eq_getElem_cons hi,e]
  rw[hd] at kr3
  have hrec:s3.heap.CodeRec (.ref c') qual:=by
   obtain⟨⟨o,vs,t,e1,e2,e3⟩,_⟩:=I3.hok c' _ hc3
   exact⟨c',o,vs,t,rfl,e1,e2,e3⟩
  have hA:X.A.in1.in1.frames=some X.stack:=I3.ok.frames
  refine wpAny_mono (S9 (k:=k) I3 hA hr.in1.in1 S hf3 hrec (hbind pm c' ctv u) ruv (fun env h1 h2=>hb _ f c' s3 Hc env h1 h2) kr3) (fun kk s4 hce=>?_) fun _ _ z=>z
  have aaZ:=hce
  obtain⟨kvv,H4,os4,Zk,un4,aaq,rk4,hc4,kr4⟩:=hce
  have noF:∀ b,nU X pins Hc b→b∉frs X.stack:=fun b hb z=>by
   rcases List.mem_cons.mp (I3.Cm b z) with y|y
   ·exact hb.2.1 y
   ·exact hb.2.2.1 y
  have I4:Inv X pins σ H4 s4:=I3.call' os4 (ch:=[]) un4 aaq Zk (fun b z=>absurd z (by simp))
  have fpk:∀ b,nU X pins Hc b→(∃ o,s3.heap.get? b=some o)→nU X pins H4 b:=fun b hb ⟨o,q⟩=>⟨un4.free b o q hb.1 (by simp),hb.2⟩
  refine⟨⟨H4,kv++[kvv],I4,rk.append (.cons rk4 .nil),un4.keep _ _ hf3 fp3.1 (noF _ fp3) (by simp),fpk f fp3 ⟨_,hf3⟩,fun b hb=>⟨fpk b (tm3 b hb).1 (tm3 b hb).2,?_⟩,hc4,?_⟩,fun b o hb q=>un4.keep b o q (tm3 b hb).1.1 (noF _ (tm3 b hb).1) (by simp)⟩
  ·obtain⟨o,q⟩:=(tm3 b hb).2
   exact un4.there b o q (by simp)
  ·rw[List.length_append]
   simp only[List.append_assoc,List.singleton_append]
   exact kr4
 case je =>
  rintro ks s3 hks ⟨Hc,kv,I3,rk,hf3,fp3,tm3,hc3,kr3⟩
  rw[List.drop_eq_nil_of_le (by omega)] at kr3
  obtain⟨kz,hz1,nd,ka,fin⟩:=kr3
  rw[List.append_nil] at ka
  have lk:=rk.length
  have at_:∀ i,i < its.length→∃ pp o us nn,ks.getD i Value.none=.ref pp∧s3.heap.get? pp=some o∧o.cls=.type "list" ∧ o.data=.seq (List.toArray us) nn∧IntsAre us (kz.getD i []):=fun i hi=>by
   have hzi:i < kz.length:=by omega
   have e1:kz[i]? = some (kz.getD i []):=by simp[hzi]
   obtain⟨kvi,e2,pp,rfl,hp⟩:=P2.getL ka e1
   obtain⟨u,e3,r3⟩:=rk.get e2
   cases r3
   obtain⟨_,us,nn,vu,ho⟩:=I3.hok pp _ hp
   exact⟨pp,_,us,nn,by simp[e3],ho,rfl,rfl,xj vu⟩
  have hord:=Dl nd
  rw[hz1,hli] at hord
  refine⟨S5 kz,hord,fun h2 Q' hq'=>?_,fun i j C hi hj hC=>?_,fun out h' cc so kp ex hD=>?_⟩
  ·refine PySem.W.kas_kind (T:=Value.type "list") (by omega) (fun v hv=>?_) (by decide) (by decide) hq'
   obtain⟨i,hi⟩:=List.getElem?_of_mem hv
   have hil:=(List.getElem?_eq_some_iff.mp hi).1
   obtain⟨pp,o,us,nn,e1,e2,e3,_⟩:=at_ i (by omega)
   have:v=.ref pp:=by
    rw[← e1];simp[hi]
   rw[this,← e3]
   exact(PySem.W.Looks.ld e2).andThen .now
  ·obtain⟨p1,o1,us1,n1,a1,a2,a3,a4,a5⟩:=at_ i hi
   obtain⟨p2,o2,us2,n2,b1,b2,b3,b4,b5⟩:=at_ j hj
   unfold PySem.W.kas_ask
   rw[a1,b1]
   exact Qc a2 a3 a4 b2 b3 b4 a5 b5 (by have:=hr.un;show X.A.units+1+1 < cLine;omega) hC
  ·obtain⟨ys,sy,vy⟩:=Lg rv hz1 so
   have hD':s2.heap.objs.size+1∈tm s2.heap.objs.size:=by simp[tm]
   have ly:ys.length=xs.length:=by rw[vy.length,so.len,hli]
   have nD:Hc (s2.heap.objs.size+1)=none:=(tm3 _ hD').1.1
   refine⟨.ref (s2.heap.objs.size+1),_,adopt (t':=s3.toks) (o:=.lst ys) I3 (fun b hb=>(tm3 b hb).1) hD' (fun b u hb q=>kp b u hb q) ⟨by rw[ly];exact hz,out,cc,vy,hD⟩,rfl,fin _ ys nD sy⟩
end
end L2
namespace Mi
open PySem
def Um:D→Option (List Str)
 | .tup ds=>nR ds
 | .lst ds=>nR ds
 | _=>none
def QS(x y:D):Rs D:=match y with
 | .str z=>(pJ (Um x)).bind fun ys=>aU (z∈ys∧ys.length≤1000) (.ok (.int (ys.idxOf z:Nat)))
 | _=>.no
def mO:List Int→List Int→Bool
 | [],[]=>false
 | [],_::_=>true
 | _::_,[]=>false
 | a::r,b::t=>if a == b then mO r t else decide (a < b)
def zb:List D→Option (List Int)
 | []=>some []
 | .int i::r=>(zb r).map (i :: ·)
 | _=>none
def Hb:D→Rs (List Int)
 | .lst ds=>pJ (zb ds)
 | _=>.no
def insI(lt:Nat→Nat→Bool)(i:Nat):List Nat→List Nat
 | []=>[i]
 | j::r=>if lt i j=true then i::j::r else j::insI lt i r
def sortI(lt:Nat→Nat→Bool):List Nat→List Nat
 | []=>[]
 | i::r=>insI lt i (sortI lt r)
def wI(kz:List (List Int))(n:Nat):List Nat:=sortI (fun i j=>mO (kz.getD i []) (kz.getD j [])) (List.range n)
def sortBy(kz:List (List Int))(ds:List D):List D:=(wI kz ds.length).map fun i=>ds.getD i .non
def Dq(ρ : List Nat)(e:Env)(d:D):Env:=some (.d d) :: ρ.map fun j=>(e[j]?).join
def nJ(ρ : List Nat)(kf:E)(e:Env):List D→Rs (List (List Int))
 | []=>.ok []
 | d::r=>(kf (Dq ρ e d)).bind fun k=>(Hb k).bind fun z=>(nJ ρ kf e r).bind fun zs=>.ok (z::zs)
def Dj(ρ : List Nat)(a kf:E):E:=fun e=>(a e).bind fun x=>(Ay x).bind fun ds=>aU (ds.length < 64) ((nJ ρ kf e ds).bind fun kz=>aU kz.Nodup (.ok (.lst (sortBy kz ds))))
end Mi
namespace A
open PySem L2 PyProof.Rows
open Mi (D W Rs Fin au Out Tg)
variable[Tb:gH]
section
variable{prog:Program}{w:World}{Ar:Around}
theorem qF(x y:Str)(t u:Tok):PySem.MeetsSeq.EqGives (.str x t) (.str y u) (x.cps.toList == y.cps.toList):=PySem.SeqRoads2.EqGives.str x y t u
theorem tD{ys:List Str}{us:List Value}(r:Vals (ys.map V.str) us){i:Nat}(h:i < ys.length):∃ t,us[i]? = some (.str (ys.getD i Str.empty) t):=by
 have e:(ys.map V.str)[i]? = some (.str (ys.getD i Str.empty)):=by simp[h]
 obtain⟨u,e2,r2⟩:=r.get e
 obtain⟨t,rfl⟩:=r2
 exact⟨t,e2⟩
theorem Gj{ys:List Str}{z:Str}(h:z∈ys):ys.idxOf z < ys.length∧ys.getD (ys.idxOf z) Str.empty=z∧∀ m,m < ys.idxOf z→ys.getD m Str.empty≠z:=by
 have hl:=List.idxOf_lt_length_of_mem h
 refine⟨hl,by simp[hl],fun m hm e=>?_⟩
 have:m < ys.length:=Nat.lt_trans hm hl
 have e2:ys[m]=z:=by simpa [this] using e
 have:=List.not_of_lt_findIdx (p:=(· == z)) (xs:=ys) (i:=m) hm
 simp[e2] at this
theorem Tp{E:Value→Shared→Prop}{s:Shared}{t:Addr}{us:List Value}{ys:List Str}{z:Str}{tz:Tok}{Q:Value→Shared→Prop}(ht:IsTup s.heap t us.toArray)(r:Vals (ys.map V.str) us)(hz:z∈ys)
 (h:Q (.int (ys.idxOf z:Nat) s.toks) { s with toks:=s.toks+1 }):wpAny (model prog w) Ar (call (.builtin "tuple.index") [.ref t,.str z tz]) Q E s:=by
 obtain⟨h1,h2,h3⟩:=Gj hz
 have hl:=r.length
 rw[List.length_map] at hl
 refine wpAny_call_entry PySem.F.slot_tuple_index ht.typeIs PySem.F.entry_tuple_index ?_ (PySem.F.args_tuple_index_2 _ _)
 show wpAny _ _ (Builtin.Tuple.tupleItemsOf (.ref t) >>= _) _ _ s
 refine wpAny_bind (tupleItemsOf_ ht ?_)
 refine wpAny_bind (wpAny_pure (wpAny_bind (wpAny_pure ?_)))
 dsimp only
 rw[Std.Legacy.Range.forIn_eq_forIn_range']
 have hsz:([0:min us.toArray.size us.toArray.size]:Std.Legacy.Range).size=us.length:=by simp[Std.Legacy.Range.size]
 rw[hsz]
 show wpAny _ _ (forIn (List.range' 0 us.length 1) _ _ >>= _) _ _ _
 have go:∀ (k i:Nat),ys.idxOf z=i+k→∀ (G:Option PySem.Fin×Unit→Shared→Prop),G (some (.done (.ret (.int (ys.idxOf z:Nat) s.toks))),()) { s with toks:=s.toks+1 } →
  wpAny (model prog w) Ar.in1 (forIn (List.range' i (us.length - i) 1) ((none, ()) : Option PySem.Fin × Unit) fun (i : Nat) (__s : Option PySem.Fin × Unit) => (match us.toArray[i]? with
          | some y=>do
           let b ← eqBool y (Value.str z tz)
           if b=true then do
            let r ← retInt (i:Int)
            pure (ForInStep.done (some r,()))
            else pure (ForInStep.yield (none,()))
          | x=>pure (ForInStep.yield (none,())):Sem (ForInStep (Option PySem.Fin×Unit)))) G E s:=by
  intro k
  induction k with
  | zero =>
   intro i hi G hG
   have hlt:i < us.length:=by omega
   obtain⟨t1,e1⟩:=tD r (i:=i) (by omega)
   rw[show us.length - i=(us.length - i - 1)+1 by omega,List.range'_succ,List.forIn_cons]
   have e2:us.toArray[i]? = some (.str (ys.getD i Str.empty) t1):=by simpa using e1
   rw[e2]
   have hz2:ys.getD i Str.empty=z:=by rw[← h2,hi];rfl
   rw[hz2]
   refine wpAny_bind (wpAny_bind (qF z z t1 tz prog w _ _ _ _ ?_))
   simp only[beq_self_eq_true,if_true]
   refine wpAny_bind (wpAny_bind (wpAny_mkInt (wpAny_pure (wpAny_pure ?_))))
   rw[show (i:Nat)=ys.idxOf z from hi.symm]
   exact wpAny_pure hG
  | succ k ih =>
   intro i hi G hG
   have hlt:i < us.length:=by omega
   obtain⟨t1,e1⟩:=tD r (i:=i) (by omega)
   rw[show us.length - i=(us.length - (i+1))+1 by omega,List.range'_succ,List.forIn_cons]
   have e2:us.toArray[i]? = some (.str (ys.getD i Str.empty) t1):=by simpa using e1
   rw[e2]
   have hz2:=h3 i (by omega)
   refine wpAny_bind (wpAny_bind (qF _ z t1 tz prog w _ _ _ _ ?_))
   have:((ys.getD i Str.empty).cps.toList == z.cps.toList)=false:=by
    rw[beq_eq_false_iff_ne]
    intro e
    apply hz2
    cases hq:ys.getD i Str.empty with
    | mk c=>cases z with
     | mk d =>
      rw[hq] at e
      have:c=d:=Array.toList_inj.mp e
      rw[this]
   rw[this]
   simp only[Bool.false_eq_true,if_false]
   exact wpAny_pure (ih (i+1) (by omega) G hG)
 refine wpAny_bind (go (ys.idxOf z) 0 (by omega) _ ?_)
 exact wpAny_pure ⟨_,rfl,h⟩
theorem Tq{E:Value→Shared→Prop}{s:Shared}{t:Addr}{us:List Value}{ys:List Str}{z:Str}{tz:Tok}{n:Nat}{Q:Value→Shared→Prop}(ht:s.heap.get? t=some { cls:=.type "list", data:=.seq us.toArray n })(r:Vals (ys.map V.str) us)(hz:z∈ys)(hl:ys.length≤1000)
 (h:Q (.int (ys.idxOf z:Nat) s.toks) { s with toks:=s.toks+1 }):wpAny (model prog w) Ar (call (.builtin "list.index") [.ref t,.str z tz]) Q E s:=by
 obtain⟨h1,h2,h3⟩:=Gj hz
 have hlu:=r.length
 rw[List.length_map] at hlu
 let e:Value→Bool:=fun y=>match y with
  | .str a _=>a.cps.toList == z.cps.toList
  | _=>false
 have he:∀ y,y∈us.toArray→PySem.MeetsSeq.EqGives y (.str z tz) (e y):=fun y hy=>by
  obtain⟨i,hi⟩:=List.getElem?_of_mem (by simpa using hy:y∈us)
  have hil:=(List.getElem?_eq_some_iff.mp hi).1
  obtain⟨t1,e1⟩:=tD r (i:=i) (by omega)
  rw[e1] at hi;cases hi
  exact qF _ z t1 tz
 have ei:∀ i (hi:i < us.toArray.size),e us.toArray[i]=decide (ys.getD i Str.empty=z):=fun i hi=>by
  have hi':i < us.length:=by simpa using hi
  obtain⟨t1,e1⟩:=tD r (i:=i) (by omega)
  have:us.toArray[i]=.str (ys.getD i Str.empty) t1:=by
   have:=(List.getElem?_eq_some_iff.mp e1).2
   simpa using this
  rw[this]
  show ((ys.getD i Str.empty).cps.toList == z.cps.toList)=_
  by_cases q:ys.getD i Str.empty=z
  ·rw[q];simp
  ·rw[decide_eq_false q,beq_eq_false_iff_ne]
   intro y
   apply q
   cases hq:ys.getD i Str.empty with
   | mk c=>cases z with
    | mk d =>
     rw[hq] at y
     have:c=d:=Array.toList_inj.mp y
     rw[this]
 refine call_meets PySem.F.slot_list_index ⟨_,ht,rfl⟩ PySem.F.entry_list_index (PySem.F.args_list_index_2 _ _) (PySem.MeetsSeq.list_index t us.toArray n (.str z tz) e he (ys.idxOf z) (by simp;omega) (by omega) (by rw[ei];simp only[h2];simp) (fun m hm hj=>by rw[ei];simp only[h3 m hj];simp)) ⟨ht,h⟩
end
section
variable{X:Cx}{K:PySem.W.Frag}{M:Nat→Bool}{to ta tb:TE}{t:TA}{o e:Expr}{es:List Expr}{apos cpos:Pos}{a b:Mi.E}
theorem SJ:Vt X "tuple.index" (fun x xs H Q=>∃ (p:Addr) (ys:List Str) (z:Str),x=.ref p∧xs=[.str z]∧z∈ys∧H p=some (.tup (ys.map V.str))∧Q (.int (ys.idxOf z:Nat)) H):=by
 intro pins s σ H x xs v us Q I rx rv h
 obtain⟨p,ys,z,rfl,rfl,hz,hp,q⟩:=h
 cases rx
 obtain⟨u,rfl,ru⟩:=vals1 rv
 obtain⟨tz,rfl⟩:=ru
 obtain⟨its,r,pt,_⟩:=I.tuple (.inl (.inl hp))
 exact Tp pt r hz ⟨.int _,H,I.tok _,⟨_,rfl⟩,q⟩
theorem SM:Vt X "list.index" (fun x xs H Q=>∃ (p:Addr) (ys:List Str) (z:Str),x=.ref p∧xs=[.str z]∧z∈ys∧ys.length≤1000∧Lst H p (ys.map V.str)∧Q (.int (ys.idxOf z:Nat)) H):=by
 intro pins s σ H x xs v us Q I rx rv h
 obtain⟨p,ys,z,rfl,rfl,hz,hl,hp,q⟩:=h
 cases rx
 obtain⟨u,rfl,ru⟩:=vals1 rv
 obtain⟨tz,rfl⟩:=ru
 obtain⟨its,n,r,_,ho⟩:=Mj I hp
 exact Tq ho r hz hl ⟨.int _,H,I.tok _,⟨_,rfl⟩,q⟩
def X4(K:PySem.W.Frag)(T2:String)(r1 r2:V→List V→Hp→VK→Prop)(to:TE)(t:TA):TE:=fun σ H Q=>to σ H fun x H1=>((∃ p xs,x=V.ref p∧H1 p=some (.tup xs))∧t σ H1 fun xs H2=>r1 x xs H2 Q)∨(tyV K T2 x H1∧t σ H1 fun xs H2=>r2 x xs H2 Q)
theorem V8{T2 id1 id2:String}{r1 r2:V→List V→Hp→VK→Prop}{name:Str}(pa1:PlainAttrs "tuple")(slot1:Slot "tuple" name id1)(aap:typeOf (.builtin id1)=pure (.type "method_descriptor"))(hm1:Vt X id1 r1)
 (pa2:PlainAttrs T2) (X7:Slot T2 name id2) (aao:typeOf (.builtin id2)=pure (.type "method_descriptor")) (hm2:Vt X id2 r2) (ho:PE X o to) (ha:PA X (e::es) t)
 (hbase:attributeBase o name X.env (eval o X.env)=eval o X.env:=by rfl)
 (hfew:((backTo cpos (starEach (e::es) X.env)).all (fun x=>!x.1) && (backToKw cpos (keywordEach [] X.env)).all (fun x=>x.1.isSome)
  && decide ((e::es).length+([]:List Keyword).length+(if ([]:List Keyword).isEmpty then 0 else 1) < 30))=true:=by rfl)
 (hline:(apos.endLine == cpos.line)=true:=by rfl) (hs:starEach (e::es) X.env=(false,eval e X.env)::starEach es X.env:=by rfl) (hplain:(backTo cpos (starEach es X.env)).any (·.1)=false:=by rfl) :
 PE X (.Call (.Attribute o name apos) (e::es) [] cpos) (X4 X.K T2 r1 r2 to t):=by
 intro pins s σ H Q I h
 refine wpAny_Call_method_late hbase hfew hline rfl (gW (ho pins s σ H _ I h) fun v s1 ⟨x,H1,I1,rx,q⟩=>?_)
 rcases q with ⟨ty,q1⟩|⟨ty,q1⟩
 ·obtain⟨p,xs,rfl,hp⟩:=ty
  cases rx
  have h12:s1.TypeIs (.ref p) "tuple" ∧ ∀ a,Value.ref p=.ref a→∃ ob,s1.heap.get? a=some ob∧ob.dict=none:=by
   obtain⟨_,its,_,ob,e1,e2,e3,_⟩:=(show eX X.prog X.w H1 s1.heap p (.tup xs) from I1.hok p _ hp)
   exact⟨⟨ob,e1,e2⟩,fun a z=>by cases z;exact⟨ob,e1,e3⟩⟩
  obtain⟨h1,h2⟩:=h12
  have rx:RelV (.ref p) (Value.ref p):=rfl
  refine⟨"tuple", id1,pa1,slot1,aap,h1,h2,?_⟩
  have hA:=ha cpos pins s1 σ H1 _ I1 q1
  rw[hs] at hA ⊢
  refine Calls.callWith_builtin (by show (false || (backTo cpos (starEach es X.env)).any (·.1))=false;rw[hplain]<;>rfl) (Calls.evalArgs_plain ?_)
  exact gW hA fun us s2 ⟨vs,H2,I2,r2',q2⟩=>hm1 pins s2 σ H2 _ vs _ us Q I2 rx r2' q2
 ·obtain⟨h1,h2⟩:=NQ I1 rx ty
  refine⟨T2,id2,pa2,X7,aao,h1,h2,?_⟩
  have hA:=ha cpos pins s1 σ H1 _ I1 q1
  rw[hs] at hA ⊢
  refine Calls.callWith_builtin (by show (false || (backTo cpos (starEach es X.env)).any (·.1))=false;rw[hplain]<;>rfl) (Calls.evalArgs_plain ?_)
  exact gW hA fun us s2 ⟨vs,H2,I2,r2',q2⟩=>hm2 pins s2 σ H2 x vs v us Q I2 rx r2' q2
end
end A
namespace So
open PySem
theorem Dn:∀ a b:List Int,iC a b=Mi.mO a b
 | [],[]=>rfl
 | [],_::_=>rfl
 | _::_,[]=>rfl
 | a::r,b::t=>by rw[iC,Mi.mO,Dn r t]
theorem yC(lt:Nat→Nat→Bool)(i:Nat):∀ l:List Nat,(Mi.insI lt i l).Perm (i::l)
 | []=>List.Perm.refl _
 | j::r=>by
  unfold Mi.insI
  split
  ·exact List.Perm.refl _
  ·exact((yC lt i r).cons j).trans (List.Perm.swap i j r)
theorem m8(lt:Nat→Nat→Bool):∀ l:List Nat,(Mi.sortI lt l).Perm l
 | []=>List.Perm.refl _
 | i::r=>(yC lt i _).trans ((m8 lt r).cons i)
section
variable{n:Nat}{lt:Nat→Nat→Bool}(O:ZD n lt)
include O
theorem yz{i:Nat}(hi:i < n):∀ {l:List Nat},(∀ x∈l,x < n)→i∉l→l.Pairwise (fun a b=>lt a b=true)→(Mi.insI lt i l).Pairwise (fun a b=>lt a b=true)
 | [],_,_,_=>List.pairwise_singleton _ _
 | j::r,hl,hn,hp=>by
  have hp':=List.pairwise_cons.mp hp
  have hj:=hl j List.mem_cons_self
  unfold Mi.insI
  split
  ·rename_i h
   refine List.pairwise_cons.mpr ⟨fun x hx=>?_,hp⟩
   rcases List.mem_cons.mp hx with rfl|hx
   ·exact h
   ·exact O.tr _ _ _ hi hj (hl x (List.mem_cons_of_mem _ hx)) h (hp'.1 x hx)
  ·rename_i h
   have hji:lt j i=true:=(O.tot i j hi hj fun z=>hn (by rw[z];exact List.mem_cons_self)).resolve_left h
   refine List.pairwise_cons.mpr ⟨fun x hx=>?_,yz hi (fun x hx=>hl x (List.mem_cons_of_mem _ hx)) (fun z=>hn (List.mem_cons_of_mem _ z)) hp'.2⟩
   rcases List.mem_cons.mp ((yC lt i r).mem_iff.mp hx) with rfl|hx
   ·exact hji
   ·exact hp'.1 x hx
theorem pW:∀ {l:List Nat},(∀ x∈l,x < n)→l.Nodup→(Mi.sortI lt l).Pairwise (fun a b=>lt a b=true)
 | [],_,_=>.nil
 | i::r,hl,nd=>by
  have nd:=List.nodup_cons.mp nd
  have hr:∀ x∈r,x < n:=fun x hx=>hl x (List.mem_cons_of_mem _ hx)
  exact yz O (hl i List.mem_cons_self) (fun x hx=>hr x ((m8 lt r).mem_iff.mp hx)) (fun z=>nd.1 ((m8 lt r).mem_iff.mp z)) (pW hr nd.2)
theorem Fv:∀ {a b:List Nat},(∀ x∈a,x < n)→a.Perm b→a.Pairwise (fun x y=>lt x y=true)→b.Pairwise (fun x y=>lt x y=true)→a=b
 | [],b,_,p,_,_=>p.nil_eq
 | x::r,b,hl,p,ha,hb=>by
  cases b with
  | nil=>exact absurd p.length_eq (by simp)
  | cons y t =>
   have hx:x∈y::t:=p.mem_iff.mp List.mem_cons_self
   have hy:y∈x::r:=p.mem_iff.mpr List.mem_cons_self
   have e:x=y:=by
    rcases List.mem_cons.mp hx with h|h
    ·exact h
    ·rcases List.mem_cons.mp hy with h'|h'
     ·exact h'.symm
     ·have a1:=(List.pairwise_cons.mp ha).1 y h'
      have a2:=(List.pairwise_cons.mp hb).1 x h
      rw[O.asy _ _ (hl x List.mem_cons_self) (hl y hy) a1] at a2;cases a2
   subst e
   rw[Fv (fun z hz=>hl z (List.mem_cons_of_mem _ hz)) (List.Perm.cons_inv p) (List.pairwise_cons.mp ha).2 (List.pairwise_cons.mp hb).2]
end
theorem Ss{kz:List (List Int)}(nd:kz.Nodup){p:Array Nat}(pm:Pm kz.length p)(sd:Sd (S5 kz) p kz.length):p.toList=Mi.wI kz kz.length:=by
 have O:=Dl nd
 have e:Mi.wI kz kz.length=Mi.sortI (S5 kz) (List.range kz.length):=by
  unfold Mi.wI S5
  congr 1
  funext i j
  exact(Dn _ _).symm
 have hp:p.toList.Perm (List.range kz.length):=by have:=Array.perm_iff_toList_perm.mp pm.pm;simpa using this
 have hb:∀ x∈p.toList,x < kz.length:=fun x hx=>by simpa using hp.mem_iff.mp hx
 rw[e]
 refine Fv O hb (hp.trans (m8 _ _).symm) ?_ (pW O (fun x hx=>by simpa using hx) List.nodup_range)
 rw[List.pairwise_iff_getElem]
 intro i j hi hj hij
 have hi':i < p.size:=by simpa using hi
 have hj':j < p.size:=by simpa using hj
 have:=sd i j hij (by rw[← pm.size];exact hj')
 rw[G7 hi',G7 hj'] at this
 simpa using this
end So
namespace A
open PySem L2 PyProof.Rows So
open Mi (D W Rs Fin au Out Tg)
variable[Tb:gH]
theorem N8{T:Addr}{q:Str}{H H' Hv:Hp}(v:Vw H Hv)(t:Tab T q H H'):dG H Hv H' Hv:=by
 rcases t with rfl|⟨ps,ps',c,hT,hc,ne,rfl,ck⟩
 ·exact .refl v
 ·have get:∀ {a o},H a=some o→NT o→upd (upd H T (.tbl q ps')) c (.ext (lQ c q)) a=some o:=fun {a o} e n=>by
   rw[aN (bc e hc),aN (fun z=>by rw[z,hT] at e;cases e;exact n)];exact e
  have back:∀ {a o},upd (upd H T (.tbl q ps')) c (.ext (lQ c q)) a=some o→(∀ w ps,o≠.tbl w ps)→(∀ φ,o≠.ext φ)→H a=some o:=fun {a o} e n1 n2=>by
   by_cases z:a=c
   ·subst z;rw[bu] at e;cases e;exact absurd rfl (n2 _)
   ·rw[aN z] at e
    by_cases z2:a=T
    ·subst z2;rw[bu] at e;cases e;exact absurd rfl (n1 _ _)
    ·rw[aN z2] at e;exact e
  refine⟨⟨fun a o e n=>get e n,fun a e=>?_,fun a w p0 e=>?_⟩,iM.refl _,⟨fun a o e=>get (v.sub a o e) (v.nv a o e),fun a xs e=>v.tup a xs (back e (fun _ _ z=>by cases z) (fun _ z=>by cases z)),fun a o u e=>v.frz a o u (back e (fun _ _ z=>by cases z) (fun _ z=>by cases z)),ck,v.nv⟩,fun _ _ _ n=>n⟩
  ·by_cases z:a=c
   ·subst z;exact hc
   ·rw[aN z] at e
    by_cases z2:a=T
    ·subst z2;rw[bu] at e;cases e
    ·rw[aN z2] at e;exact e
  ·by_cases z2:a=T
   ·subst z2
    rw[hT] at e;cases e
    exact⟨ps',by rw[aN (Ne.symm ne),bu]⟩
   ·exact⟨p0,by rw[aN (bc e hc),aN z2];exact e⟩
theorem K8{Hv:Hp}:∀ {ds:List D} {xs:List V} {bs:List Int},Mi.zb ds=some bs→P2 (Rep Hv) ds xs→xs=bs.map V.int
 | [],_,bs,e,r=>by cases e;cases r;rfl
 | .int b::ds,_,bs,e,r=>by
  cases r with
  | cons x t =>
   cases hb:Mi.zb ds with
   | none=>rw[Mi.zb,hb] at e;cases e
   | some cs =>
    rw[Mi.zb,hb] at e
    cases e
    rw[K8 hb t,oE.mp x];rfl
section
variable{X:Cx}{K:PySem.W.Frag}{M:Nat→Bool}{te tb ta:TE}{a b kf:Mi.E}{T:Addr}{q:Str}{ρ : List Nat}
theorem Ww{e:Mi.Env}{σ : L2.St}{H Hv:Hp}(I:R0 M e σ H Hv)(hM:∀ j∈ρ,M j=false){d:D}{v:V}(r:Rep Hv d v):R0 (fun _=>false) (Mi.Dq ρ e d) (mz ρ σ v) H Hv:=by
 refine⟨I.vw,by simp[Mi.Dq,mz],fun i w h _=>?_,fun i w h m=>by cases m⟩
 cases i with
 | zero =>
  have:W.d d=w:=by simpa [Mi.Dq] using h
  subst this
  exact⟨v,rfl,r⟩
 | succ i =>
  have h:(ρ.map fun j=>(e[j]?).join)[i]? = some (some w):=by simpa [Mi.Dq] using h
  rw[List.getElem?_map] at h
  obtain⟨j,hj,e2⟩:=Option.map_eq_some_iff.mp h
  have e3:e[j]? = some (some w):=by
   cases z:e[j]? with
   | none=>rw[z] at e2;cases e2
   | some y=>rw[z] at e2;exact congrArg some e2
  obtain⟨u,hu,ru⟩:=I.nob j w e3 (hM j (List.mem_of_getElem? hj))
  exact⟨u,by simp[mz,List.getElem?_map,hj,hu],ru⟩
theorem Kl{c':Addr}(hk:AE (fun _=>false) qN tb kf)(hM:∀ j∈ρ,M j=false){e:Mi.Env}{σ : L2.St}:∀ {ds:List D} {xs:List V} {kz:List (List Int)} {H Hv:Hp} {R:List V→Hp→Prop},R0 M e σ H Hv→P2 (Rep Hv) ds xs→H c'=some (.ext (lQ c' q))→Mi.nJ ρ kf e ds=.ok kz →
 (∀ ks H3 Hv3,dG H Hv H3 Hv3→KeysAre H3 kz ks→R ks H3)→Ei c' q (fun v H K=>tb (mz ρ σ v) H K) xs H R
 | [],_,kz,H,Hv,R,I,.nil,_,hz,h=>by
  have:kz=[]:=by rw[Mi.nJ] at hz;cases hz;rfl
  subst this
  exact h [] H Hv (.refl I.vw) .nil
 | d::ds,_,kz,H,Hv,R,I,.cons (b:=v) (m:=xs) r t,hc,hz,h=>by
  rw[Mi.nJ] at hz
  show tb (mz ρ σ v) H _
  cases hkd:kf (Mi.Dq ρ e d) with
  | no=>rw[hkd] at hz;cases hz
  | ex z=>rw[hkd] at hz;cases hz
  | ok kd =>
   rw[hkd,Mi.aG] at hz
   cases kd with
   | lst es =>
    cases hes:Mi.zb es with
    | none=>rw[show Mi.Hb (.lst es)=.no from by show Mi.pJ (Mi.zb es)=_;rw[hes];rfl] at hz;cases hz
    | some z =>
     rw[show Mi.Hb (.lst es)=.ok z from by show Mi.pJ (Mi.zb es)=_;rw[hes];rfl,Mi.aG] at hz
     cases hzs:Mi.nJ ρ kf e ds with
     | no=>rw[hzs] at hz;cases hz
     | ex y=>rw[hzs] at hz;cases hz
     | ok zs =>
      rw[hzs] at hz
      have hz:kz=z::zs:=by cases hz;rfl
      subst hz
      refine hk _ _ H Hv _ (Ww I hM r) ?_
      rw[hkd]
      intro kv H1 Hv1 g1 kq
      obtain⟨p,o,rfl,n0,hp,nv,ci⟩:=kq
      cases o with
      | lst vs =>
       have hv:vs=z.map V.int:=K8 hes ci
       subst hv
       refine⟨g1.old.at hc,Kl hk hM (I.grow g1) (cZ g1.vis t) (g1.old.at hc) hzs fun ks H3 Hv3 g3 ka=>h _ H3 Hv3 (g1.trans g3) (.cons ⟨p,rfl,g3.old.at hp⟩ ka)⟩
      | _=>exact ci.elim
   | _=>cases hz
theorem J2{F:D→V→Prop}{ds:List D}{xs:List V}(h:P2 F ds xs):∀ l:List Nat,(∀ i∈l,i < ds.length)→P2 F (l.map fun i=>ds.getD i .non) (l.map fun i=>xs.getD i .non)
 | [],_=>.nil
 | i::r,hl=>by
  have hi:=hl i List.mem_cons_self
  have e1:ds[i]? = some (ds.getD i .non):=by simp[hi]
  obtain⟨y,e2,f⟩:=h.getL e1
  have:xs.getD i .non=y:=by simp[e2]
  refine .cons ?_ (J2 h r fun j hj=>hl j (List.mem_cons_of_mem _ hj))
  show F (ds.getD i .non) (xs.getD i .non)
  rw[this];exact f
theorem Ur(hT:(T,q)∈Tb.l)(hM:∀ j∈ρ,M j=false)(ha:AE M qP te a)(hk:AE (fun _=>false) qN tb kf):AE M qN (Oa T q ρ te tb) (Mi.Dj ρ a kf):=fun e σ H Hv Q I h =>
 ha e σ H Hv _ I ((au.mp h).mono fun x hx v H1 Hv1 g1 rx=>by
  cases x with
  | lst ds =>
   obtain⟨h64,hx⟩:=Mi.aX (show Fin (Mi.aU (ds.length < 64) _) _ from hx)
   obtain⟨kz,hkz,hx⟩:=jE (au.mp hx)
   obtain⟨nd,hx⟩:=Mi.aX hx
   have hx:=Mi.kh hx
   obtain⟨p,xs,rfl,l,r⟩:=RD.lst g1.vw rx
   have lx:=r.len
   have I1:=I.grow g1
   obtain⟨tps,ht⟩:=g1.vw.cd.has _ hT
   refine⟨p,xs,tps,rfl,by omega,ht,g1.vw.cd,fun H2 c' tab hc'=>?_⟩
   have g2:=N8 g1.vw tab
   refine⟨l.old g2.old,Kl hk hM (I1.grow g2) r hc' hkz fun ks H3 Hv3 g3 ka=>?_⟩
   have lk:kz.length=ds.length:=by
    have:∀ (ds:List D) (kz:List (List Int)),Mi.nJ ρ kf e ds=.ok kz→kz.length=ds.length:=fun ds=>by
     induction ds with
     | nil=>intro kz h;rw[Mi.nJ] at h;cases h;rfl
     | cons d ds ih =>
      intro kz h
      rw[Mi.nJ] at h
      cases h1:kf (Mi.Dq ρ e d) with
      | no=>rw[h1] at h;cases h
      | ex z=>rw[h1] at h;cases h
      | ok kd =>
       rw[h1,Mi.aG] at h
       cases h2:Mi.Hb kd with
       | no=>rw[h2] at h;cases h
       | ex z=>rw[h2] at h;cases h
       | ok z =>
        rw[h2,Mi.aG] at h
        cases h3:Mi.nJ ρ kf e ds with
        | no=>rw[h3] at h;cases h
        | ex y=>rw[h3] at h;cases h
        | ok zs=>rw[h3] at h;cases h;rw[List.length_cons,List.length_cons,ih zs h3]
    exact this ds kz hkz
   refine⟨kz,by omega,nd,ka,fun p2 ys hp2 so=>?_⟩
   obtain⟨pa,pm,sd,rfl⟩:=so
   have e0:pa.toList=Mi.wI kz ds.length:=by
    rw[← lk]
    exact Ss nd (by rw[lk,lx];exact pm) (by rw[lk,lx];exact sd)
   have rr:P2 (Rep Hv3) (Mi.sortBy kz ds) (pa.toList.map fun i=>xs.getD i .non):=by
    unfold Mi.sortBy
    rw[← e0]
    refine J2 (cZ (g2.vis.trans g3.vis) r) _ fun i hi=>?_
    have:=(Array.perm_iff_toList_perm.mp pm.pm).mem_iff.mp hi
    rw[lx];simpa using this
   obtain⟨g4,kk⟩:=u0 g3.vw rr hp2
   have gg:=g1.trans (g2.trans (g3.trans g4))
   exact hx _ _ _ gg (KM.mono (κ:=qN) (g1.old.trans (g2.old.trans g3.old)) kk)
  | _=>exact hx.elim)
end
end A
namespace L2
open PySem PySem.Spec PyProof.Rows A So
structure Rx(K:PySem.W.Frag)(x qual:Str)(st:Stmt)(c f:Addr)(fd:FuncData):Prop where
 ex:∃ (oc:Value) (od:Option Addr) (kV doc pm:Value) (an:Option Addr) (ct:Value) (osl:Array (Option Value)),
  fd=PySem.W.fnOf x qual (lz st) (jF st) (bh st) .none kV doc pm an (.ref c) ct∧K.lookup f=some ⟨oc,od,.func fd,osl⟩∧PySem.W.codeIn K (.ref c) qual=true
section
variable{P:Program}{w:World}{K:PySem.W.Frag}{mg:Str→Option Value}{base:Heap}
theorem Rx.ok{x qual:Str}{st:Stmt}{c f:Addr}{fd:FuncData}{N ps:List Str}{k:Nat}{sp:Sp}(F:Rx K x qual st c f fd)(S:bK N ps (bh st))(len:∀ vs H Q E,sp vs H Q E→vs.length=ps.length)
 (hbody:∀ (A:Around) (outer:List Env) (s:Shared) (H:Hp) (vs:List V) (Q:VK) (E:XK),j5 k (A.deeper (envOfC qual (bh st) s.heap.objs.size f (.ref c)))→sp vs H Q E →
  ∃ t,Np (Jm dX P w K mg base N qual (bh st) f (.ref c) A outer s H E).Sy (jF st) t∧t { nx:=fun _ H'=>Q .non H',rt:=Q } (start N vs) H):eF P w K mg base dX (k+1) f fd ps sp:=by
 obtain⟨oc,od,kV,doc,pm,an,ct,osl,rfl,lk,hcd⟩:=F.ex
 refine Vo lk hcd S len fun A outer s H vs Q E hr hsp=>?_
 obtain⟨t,h,q⟩:=hbody A outer s H vs Q E hr hsp
 exact⟨t,h.Sy,q⟩
end
structure Uu(K:PySem.W.Frag)(mg:Str→Option Value)(x:Str)(st:Stmt)(ps:List Str)(c:Addr):Prop where
 ex:∃ (f:Addr) (fd:FuncData),mg x=some (.ref f)∧PySem.W.keepIn K (.ref f)=true∧Binds K fd ps []∧Rx K x x st c f fd
theorem TF{K:PySem.W.Frag}{h:Heap}{mg:Str→Option Value}{x:Str}{st:Stmt}{ps:List Str}{f c:Addr}{oc:Value}{od an:Option Addr}{osl:Array (Option Value)}{kV doc pm ct:Value}(X:K.In h)(G:h.Ns mainGlobals mg)
 (hb:∀ (kV doc pm:Value) (an:Option Addr) (cdv ct:Value) (us:List Value),us.length=ps.length→bindArgs (PySem.W.fnOf x x (lz st) (jF st) (bh st) .none kV doc pm an cdv ct) ⟨us,[]⟩=pure (ps.zip us))
 (a:PySem.W.nsIn K mainGlobals x=some (some (.ref f))) (l:K.lookup f=some ⟨oc,od,.func (PySem.W.fnOf x x (lz st) (jF st) (bh st) .none kV doc pm an (.ref c) ct),osl⟩)
 (cc:PySem.W.codeIn K (.ref c) x=true) (k:PySem.W.keepIn K (.ref f)=true):Uu K mg x st ps c:=by
 have F:=Qx (st:=st) l cc k
 exact⟨f,_,PySem.W.mg_of X G a,k,F.binds hb,⟨oc,od,kV,doc,pm,an,ct,osl,rfl,l,cc⟩⟩
theorem Uu.cal{P:Program}{w:World}{K:PySem.W.Frag}{mg:Str→Option Value}{base:Heap}{CX:JG}{k:Nat}{x:Str}{st:Stmt}{ps:List Str}{c:Addr}{sp:Sp}(F:Uu K mg x st ps c)(h:∀ f fd,Rx K x x st c f fd→eF P w K mg base CX k f fd ps sp) :
 pO P w K mg base CX k x ps sp:=by
 obtain⟨f,fd,h1,h2,h3,h4⟩:=F.ex
 exact⟨f,fd,h1,h2,h3,h f fd h4⟩
theorem Bw.one{X:Cx}{x y:Str}{j:Nat}{sc:Scope}{c:Addr}(hn:sc.names=[(x,.local),(y,.free)])(hxy:(y == x)=false)(hk:sc.kind=.function)(co:sc.isCoroutine=false)(gen:sc.isGenerator=false)(hc:X.env.cells=[(y,c)])(hN:X.N[j]? = some y)(hy:X.env.kindOf y=some .cell) :
 Bw X x [j] [x,y] sc [(y,c)]:=by
 have hl:sc.names.lookup y=some .free:=by
  rw[hn,List.lookup,hxy]
  show List.lookup y [(y,NameKind.free)]=_
  rw[List.lookup,beq_self_eq_true]
 refine⟨hk,co,gen,fun z hz=>?_,by rw[hn,List.lookup,beq_self_eq_true],fun z d h=>by rw[hc];exact h,fun z h=>?_,[y],rfl,rfl,fun i k z h1 h2=>?_⟩
 ·rw[hn] at hz
  rcases List.mem_cons.mp hz with rfl|hz
  ·exact fun q=>by cases q
  ·rw[List.mem_singleton.mp hz];exact fun q=>by cases q
 ·rw[hn,List.lookup] at h
  split at h
  ·cases h
  ·rw[List.lookup] at h
   split at h
   ·rename_i q
    exact⟨c,by rw[List.lookup,q]⟩
   ·cases h
 ·cases i with
  | zero =>
   have e1:j=k:=by simpa using h1
   have e2:y=z:=by simpa using h2
   subst e1 e2
   exact⟨hN,hl,.inl hy⟩
  | succ i=>simp at h1
section
variable[Tb:gH]
theorem Mp{P:Program}{w:World}{K:PySem.W.Frag}{mg mb:Str→Option Value}{k:Nat}{fa a c T:Addr}{q:Str}{fd:FuncData}{x:Str}{s₁:Shared}{vs:List Value}{ns:List Int}(hTb:Tb.l=[(T,q)])
 (KX:K.In s₁.heap) (hns:s₁.heap.Ns mainGlobals mg) (hb:s₁.heap.Ns builtinsNs mb) (hbb:∀ x:Str,x ≠ "__name__" → mb x=bootBuiltins x) (hlim:s₁.heap.NoLimit) (hg:s₁.gens = #[])
 (ha:s₁.heap.get? a=some { cls:=.type "list", data:=.seq vs.toArray }) (hi:IntsAre vs ns) (hl:ns.length≤63) (hr:j5 k callerA)
 (hKa:K.lookup a=none) (hKT:K.lookup T=none) (C:PySem.W.CodeHd s₁.heap c T) (hT:s₁.heap.get? T=some (PySem.W.tabObj #[])) (hB:BM mg s₁.heap)
 (F:∀ base:Heap,K.In base→base.Ns mainGlobals mg→BM mg base→PySem.W.CodeHd base c T→eF P w K mg base dX k fa fd [x] Ey) (hbind:∀ (s:Shared) (u:Value),BindsTo s fd ⟨[u],[]⟩ [(x,u)]) :
 codeAny (model P w) callerA (.call (.ref fa) ⟨[.ref a],[]⟩) (fun r s'=>r=.ok (.ret (.bool true))∧OldK s₁.heap s'.heap∧s'.os=s₁.os∧AllBare s'.gens) s₁:=by
 have rv:=zT hi
 have lenV:=hi.length
 have aT:a≠T:=fun z=>by rw[z,hT] at ha;cases ha
 let H:Hp:=fun b=>if b=a then some (.frz { cls:=.type "list", data:=.seq vs.toArray } (.lst (ns.map V.int))) else if b=T then some (.tbl q #[]) else none
 have Ha:H a=some (.frz { cls:=.type "list", data:=.seq vs.toArray } (.lst (ns.map V.int))):=if_pos rfl
 have HT:H T=some (.tbl q #[]):=by show (if T=a then _ else _)=_;rw[if_neg (Ne.symm aT),if_pos rfl]
 have Hn:∀ b,b≠a→b≠T→H b=none:=fun b h1 h2=>by show (if b=a then _ else _)=_;rw[if_neg h1,if_neg h2]
 have Hd:∀ {b u},H b=some u→(b=a∧u=.frz { cls:=.type "list", data:=.seq vs.toArray } (.lst (ns.map V.int)))∨(b=T∧u=.tbl q #[]):=fun {b u} e=>by
  by_cases h1:b=a
  ·subst h1;rw[Ha] at e;cases e;exact .inl ⟨rfl,rfl⟩
  ·by_cases h2:b=T
   ·subst h2;rw[HT] at e;cases e;exact .inr ⟨rfl,rfl⟩
   ·rw[Hn b h1 h2] at e;cases e
 have hok:qQ P w H s₁.heap:=fun b u e=>by
  rcases Hd e with ⟨rfl,rfl⟩|⟨rfl,rfl⟩
  ·exact⟨ha,by rw[List.length_map,sizeLine_eq];omega,vs,_,rv,ha⟩
  ·exact hT
 have free:∀ {b:Addr} {o:Obj},s₁.heap.get? b=some o→o.cls≠.type "list" → o≠PySem.W.tabObj #[]→H b=none:=fun {b o} e h1 h2=>by
  refine Hn b (fun z=>?_) fun z=>?_
  ·rw[z,ha] at e;cases e;exact h1 rfl
  ·rw[z,hT] at e;cases e;exact h2 rfl
 have wZ:∀ {b:Addr} {o:Obj},s₁.heap.get? b=some o→H b=none→(yF s₁.heap H).get? b=some o:=fun e n=>Qt e n
 have nsK:∀ {b:Addr} {m:Str→Option Value},s₁.heap.Ns b m→(yF s₁.heap H).Ns b m:=fun {b m} ⟨o,es,ep,e,d,r⟩=>⟨o,es,ep,wZ e (Hn b (fun z=>by rw[z,ha] at e;cases e;cases d) fun z=>by rw[z,hT] at e;cases e;cases d),d,r⟩
 have hKb:K.In (yF s₁.heap H):=fun b o e=>wZ (KX b o e) (Hn b (fun z=>by rw[z,hKa] at e;cases e) fun z=>by rw[z,hKT] at e;cases e)
 have hM:Mod K mg (yF s₁.heap H):=⟨hKb,nsK hns,⟨mb,nsK hb,hbb⟩,let ⟨mc,h1,h2⟩:=hlim;⟨mc,nsK h1,h2⟩⟩
 have e0:Uv P w K mg (yF s₁.heap H) callerA [] s₁ H:=⟨rfl,hM,fun b o e=>Sw e,Nat.le_of_eq (MF _ _),trivial,fun b hb=>absurd (show b∈([]:List Addr) from hb) (by simp),hok,.of_eq hg⟩
 have hB':BM mg (yF s₁.heap H):=by
  obtain⟨bm,bo,b1,b2,b3,b4,b5,b6,b7⟩:=hB
  exact⟨bm,bo,b1,b2,b3,wZ b4 (free b4 (by rw[b5];decide) (fun z=>by rw[z] at b5;cases b5)),b5,b6,b7⟩
 have C':PySem.W.CodeHd (yF s₁.heap H) c T:=by
  obtain⟨o,vs2,file,tf,flags,tg,inF,text,tt,e,h1,r⟩:=C
  exact⟨o,vs2,file,tf,flags,tg,inF,text,tt,wZ e (free e (by rw[h1];decide) (fun z=>by rw[z] at h1;cases h1)),h1,r⟩
 have ck:jG H:=⟨fun r hr=>by
  rw[hTb] at hr
  obtain rfl:r=(T,q):=by simpa using hr
  exact⟨#[],HT⟩,fun T2 q2 ps e=>by
  rcases Hd e with ⟨_,z⟩|⟨_,z⟩
  ·cases z
  ·cases z;exact⟨trivial,fun pos v hv=>by cases hv⟩⟩
 refine codeAny_mono ((F _ hKb (nsK hns) hB' C').run callerA [] s₁ H ⟨[.ref a],[]⟩ [.ref a] [.ref a] (fun v _=>v=.bl true) (fun _ _ _=>False) hr e0 (hbind s₁ (.ref a)) (.cons rfl .nil) ⟨a,ns,rfl,.inr ⟨_,Ha⟩,hl,ck,fun _=>rfl⟩) fun r s' h=>?_
 cases r with
 | error e=>exact h.elim
 | ok fl =>
  cases fl with
  | next=>exact False.elim h
  | brk=>exact False.elim h
  | cont=>exact False.elim h
  | ret u =>
   obtain⟨v,H',os,bare,un,hok',r',q'⟩:=h
   have q':v=.bl true:=q'
   subst q'
   obtain rfl:u=Value.bool true:=r'
   have old:∀ b o,s₁.heap.get? b=some o→asItWas s₁.heap s'.heap b o:=fun b o e=>by
    by_cases h1:b=a
    ·subst h1
     have z2:=un.zM b _ _ Ha
     obtain⟨e2,_⟩:=hok' b _ z2
     rw[ha] at e;cases e
     exact .inl e2
    ·by_cases h2:b=T
     ·subst h2
      obtain⟨more,z2⟩:=un.zH b _ _ HT
      have e2:s'.heap.get? b=some (PySem.W.tabObj (#[]++more)):=hok' b _ z2
      rw[hT] at e;cases e
      obtain⟨oc,vs2,_,_,_,_,_,_,_,f1,f2,f3,f4,_⟩:=C
      exact .inr (.inl ⟨⟨c,oc,vs2,f1,f2,f3,f4⟩,rfl,#[],more,rfl,e2⟩)
     ·exact .inl (un.keep b o e (Hn b h1 h2) (by intro z;exact absurd (show b∈([]:List Addr) from z) (by simp)) (by simp))
   exact⟨rfl,⟨old,fun b o e=>un.there b o e (by simp)⟩,os,bare⟩
theorem NK{l:PySem.W.OpenLaw}{k:Nat}{q:Program}{loose:List Str}{XP:(Str→Option Value)→Heap→Prop}{YP:World→Heap→Prop}{d:DefRec}{K:Params→PySem.W.Frag}{x dn:Str}{c T:Addr}{qn:Str}(hTb:Tb.l=[(T,qn)])
 (hn:l.most=some 63) (hdf:d.params.defaults=[]) (hr:j5 k callerA)
 (hY:∀ (w:World) (h:Heap),YP w h→(K w.params).In h) (hL:∀ w:World,∀ a o,(K w.params).lookup a=some o→o.cls≠.type "list") (hK:∀ w:World,(K w.params).lookup T=none)
 (hrec:∃ d,(recsOf q).find? (fun e=>e.name == dn)=some d) (htab:∀ w:World,PySem.W.tabIn (K w.params) dn=some (c,T))
 (F:∀ (w:World) (mg:Str→Option Value) (fa:Addr) (h:Heap),(K w.params).In h→h.Ns mainGlobals mg→mg d.name=some (.ref fa) →
  ∃ fd:FuncData,(∀ (s:Shared) (u:Value),BindsTo s fd ⟨[u],[]⟩ [(x,u)]) ∧
   ∀ base:Heap,(K w.params).In base→base.Ns mainGlobals mg→BM mg base→PySem.W.CodeHd base c T→eF l.prog w (K w.params) mg base dX k fa fd [x] Ey) :
 PySem.W.WalkO q loose XP YP l.row.toRowW d [] (fun f vs=>PySem.call f vs):=by
 refine Att.G6 hn hdf fun w s₀ s₁ mg mb fa o pm cd doc a vs ns G Y ho hd hcd hmg hobj hints hlen hg=>?_
 have KX:=hY w _ Y
 obtain⟨fd,hb,hF⟩:=F w mg fa _ KX G.T.g hmg
 obtain⟨dd,hdd⟩:=hrec
 obtain⟨C,hT⟩:=PySem.W.tab_of G.T KX hdd (htab w)
 have hB:BM mg s₁.heap:=by
  obtain⟨bm,ob,b1,b2,b3,b4,b5,b6⟩:=G.T.bmain
  refine⟨bm,ob,b1,b2,fun z=>?_,b3,b4,b5,b6⟩
  obtain⟨o2,es,ep,e,d2,_⟩:=G.T.g
  rw[z,e] at b3;cases b3;rw[d2] at b6;cases b6
 have hKa:(K w.params).lookup a=none:=by
  cases z:(K w.params).lookup a with
  | none=>rfl
  | some o2 =>
   have e:=KX a o2 z
   rw[hobj] at e;cases e
   exact absurd rfl (hL w a _ z)
 exact Mp hTb KX G.T.g G.T.b G.T.builtins G.T.nolimit hg hobj hints hlen hr hKa (hK w) C hT hB hF hb
end
end L2
namespace A
open PySem L2 PyProof.Rows So
open Mi (D W Rs Fin au Out Tg)
variable[Tb:gH]
section
variable{K:PySem.W.Frag}{M:Nat→Bool}{ta tb:TE}{a b:Mi.E}
def U8:V→List V→Hp→VK→Prop:=fun x xs H Q=>∃ (p:Addr) (ys:List Str) (z:Str),x=.ref p∧xs=[.str z]∧z∈ys∧H p=some (.tup (ys.map V.str))∧Q (.int (ys.idxOf z:Nat)) H
def U9:V→List V→Hp→VK→Prop:=fun x xs H Q=>∃ (p:Addr) (ys:List Str) (z:Str),x=.ref p∧xs=[.str z]∧z∈ys∧ys.length≤1000∧Lst H p (ys.map V.str)∧Q (.int (ys.idxOf z:Nat)) H
theorem YF{X:Cx}:Vt X "tuple.index" U8:=SJ
theorem YG{X:Cx}:Vt X "list.index" U9:=SM
theorem Zx(ha:AE M qP ta a)(hb:AE M qP tb b):AE M qV (X4 K "list" U8 U9 ta (lX tb uK)) (Mi.m2 Mi.QS a b):=fun e σ H Hv Q I h =>
 ha e σ H Hv _ I ((au.mp h).mono fun x hx v H1 Hv1 g1 rx=>by
  obtain⟨y,hy,hk⟩:=jE (au.mp hx)
  cases y with
  | str z =>
   obtain⟨ys,ey,q1⟩:=jB (au.mp hk)
   obtain⟨⟨hz,hl⟩,q2⟩:=Mi.aX q1
   have q3:=Mi.kh q2
   clear hk q1 q2 hx
   cases x with
   | tup ds =>
    obtain⟨p,us,rfl,l,_,r⟩:=RD.tup g1.vw rx
    have:=uz ey r
    subst this
    refine .inl ⟨⟨p,_,rfl,l⟩,hb e σ H1 Hv1 _ (I.grow g1) ?_⟩
    rw[hy]
    intro v2 H2 Hv2 g2 ry
    cases RD.str ry
    exact⟨p,ys,z,rfl,rfl,hz,g2.old.at l,q3 _ _ _ (g1.trans g2) ik⟩
   | lst ds =>
    obtain⟨p,us,rfl,l,r⟩:=RD.lst g1.vw rx
    have:=uz ey r
    subst this
    refine .inr ⟨.inl ⟨rfl,_,l.sq⟩,hb e σ H1 Hv1 _ (I.grow g1) ?_⟩
    rw[hy]
    intro v2 H2 Hv2 g2 ry
    cases RD.str ry
    exact⟨p,ys,z,rfl,rfl,hz,hl,l.old g2.old,q3 _ _ _ (g1.trans g2) ik⟩
   | _=>cases ey
  | _=>exact hk.elim)
end
end A
namespace Mi
end Mi
namespace A
open PySem L2 PyProof.Rows So
open Mi (D W Rs Fin au Out Tg)
variable[Tb:gH]
section
variable{K:PySem.W.Frag}{M:Nat→Bool}{t:TE}{m:Mi.E}{w:Mi.EW}
theorem Nj(y:Nat)(hy:M y=true)(ha:AW (fun j=>M j && !(j == y)) qN t w):AS M qN (HQ t) (Mi.fc w):=fun H0 Hv0 e σ H Hv D I h=>by
 have nb:∀ {j:Nat},(M j && !(j == y))=false→M j=false∨j=y:=fun {j} z=>by
  cases q:M j with
  | false=>exact .inl rfl
  | true=>rw[q] at z;exact .inr (by simpa using z)
 have nt:∀ {j:Nat},(M j && !(j == y))=true→M j=true∧j≠y:=fun {j} z=>by simpa using z
 have fin:∀ Hv',dG H0 Hv0 H Hv'→R0 (fun j=>M j && !(j == y)) e σ H Hv'→HQ t D σ H:=fun Hv' gw R =>
  ha e σ H Hv' _ R ((au.mp h).mono fun d hd v H1 Hv1 g1 r=>hd v H1 Hv1 (gw.trans g1) (KM.mono (κ:=qN) gw.old r))
 have other:(∀ w0,e[y]?≠some (some w0))→HQ t D σ H:=fun none=>fin Hv I.gw ⟨I.vw,I.len,fun j w' z q=>by
  rcases nb q with q|rfl
  ·exact I.nob j w' z q
  ·exact absurd z (none w'),fun j w' z q=>I.own j w' z (nt q).1⟩
 cases he:e[y]? with
 | none=>exact other fun w0 z=>by rw[he] at z;cases z
 | some ow =>
  cases ow with
  | none=>exact other fun w0 z=>by rw[he] at z;cases z
  | some w0 =>
   obtain⟨p,Hv',q,I',s,r⟩:=I.V1 hy he
   refine fin Hv' I'.gw ⟨I'.vw,I.len,fun j w' z q2=>?_,fun j w' z q2=>?_⟩
   ·by_cases hj:j=y
    ·subst hj
     rw[he] at z;cases z
     exact⟨_,q,r⟩
    ·exact I'.nob j w' (by rw[List.getElem?_set_ne (Ne.symm hj)];exact z) ((nb q2).resolve_right hj)
   ·obtain⟨m1,hj⟩:=nt q2
    exact I'.own j w' (by rw[List.getElem?_set_ne (Ne.symm hj)];exact z) m1
end
end A
namespace L2
end L2
namespace L2
end L2
namespace L2
end L2
namespace Mi
open PySem
def JF{α : Type}(r:Rs α)(k:α→Prop)(x:Vv→Prop):Prop:=match r with
 | .ok a=>k a
 | .ex z=>x z
 | .no=>False
theorem qL{α β : Type}{r:Rs α}{f:α→Rs β}{k:β→Prop}{x:Vv→Prop}:JF (r.bind f) k x↔JF r (fun a=>JF (f a) k x) x:=by cases r<;>exact Iff.rfl
end Mi
namespace A
open PySem L2 PyProof.Rows So
open Mi (D W Rs Fin JF au qL Out Tg Vv)
variable[Tb:gH]
end A
namespace L2
end L2
namespace L2
end L2
namespace L2
open PySem PySem.Spec PyProof.Rows
end L2
namespace Mi
open PySem
end Mi
namespace A
open PySem L2 PyProof.Rows So
open Mi (D W Rs Fin JF au qL Out Tg Vv)
variable[Tb:gH]
end A
namespace PySem.W
end PySem.W
namespace L2
open PySem PySem.Spec PyProof.Rows
open A (Zb)
end L2
namespace Mi
open PySem
end Mi
namespace A
open PySem L2 PyProof.Rows So
open Mi (D W Rs Fin JF au qL Out Tg Vv)
variable[Tb:gH]
end A
namespace Mi
open PySem
end Mi
namespace L2
open PySem PySem.Spec PyProof.Rows
end L2
namespace A
open PySem L2 PyProof.Rows So
open Mi (D W Rs Fin au)
variable[Tb:gH]
end A
namespace Mi
def UL(m:S):S:=fun e=>match m e with
 | .ok (.rt w)=>.ok (.rt w)
 | _=>.no
end Mi
namespace A
open PySem L2 PyProof.Rows So
open Mi (D W Rs Fin au Out Tg)
variable[Tb:gH]
end A
namespace Mi
open PySem
def Hx(a b:Str):Bool:=decide (¬ b.cps.toList < a.cps.toList)
def lY(xs:List Str):List Str:=xs.mergeSort Hx
def mR:List D→Rs D
 | [.lst ds]=>(pJ (nR ds)).bind fun ss=>aU (ss.length < 64) (.ok (.lst ((lY ss).map D.str)))
 | _=>.no
theorem qj{α : Type}{le:α→α→Prop}(Zq:∀ a b,le a b→le b a→a=b):∀ (l m:List α),l.Perm m→l.Pairwise le→m.Pairwise le→l=m
 | [],m,h,_,_=>h.symm.eq_nil.symm
 | a::r,[],h,_,_=>nomatch h.eq_nil
 | a::r,b::t,h,hl,hm=>by
  have l1:=List.pairwise_cons.mp hl
  have m1:=List.pairwise_cons.mp hm
  have e:a=b:=by
   rcases List.mem_cons.mp (h.mem_iff.mp (List.mem_cons_self ..)) with z|z
   ·exact z
   ·rcases List.mem_cons.mp (h.mem_iff.mpr (List.mem_cons_self ..)) with y|y
    ·exact y.symm
    ·exact Zq _ _ (l1.1 b y) (m1.1 a z)
  subst e
  rw[qj Zq r t ((List.perm_cons a).mp h) l1.2 m1.2]
theorem oN{a b:Str}:Hx a b=true↔a.cps.toList≤b.cps.toList:=by
 unfold Hx
 rw[decide_eq_true_iff];exact Iff.rfl
theorem VF{x y:Str}(h:x.cps.toList=y.cps.toList):x=y:=by
 obtain⟨x⟩:=x
 obtain⟨y⟩:=y
 exact congrArg Str.mk (Array.toList_inj.mp h)
theorem Qi(a b:Str)(h:Hx a b=true)(k:Hx b a=true):a=b:=VF (List.le_antisymm (oN.mp h) (oN.mp k))
theorem Ai(a b c:Str)(h:Hx a b=true)(k:Hx b c=true):Hx a c=true:=oN.mpr (List.le_trans (oN.mp h) (oN.mp k))
theorem Mm(a b:Str):(Hx a b || Hx b a)=true:=by
 rw[Bool.or_eq_true,oN,oN];exact List.le_total _ _
theorem lH(xs:List Str):(lY xs).Perm xs:=List.mergeSort_perm xs _
theorem tG(xs:List Str):(lY xs).Pairwise fun a b=>Hx a b=true:=List.pairwise_mergeSort (fun a b c=>Ai a b c) (fun a b=>Mm a b) xs
theorem EY{xs ys:List Str}(hp:ys.Perm xs)(hs:ys.Pairwise fun a b=>Hx a b=true):ys=lY xs:=qj Qi _ _ (hp.trans (lH xs).symm) hs (tG xs)
theorem Fb{xs ys:List Str}:lY xs=lY ys↔xs.Perm ys:=⟨fun h=>(lH xs).symm.trans (h ▸ lH ys),fun h=>EY ((lH xs).trans h) (tG xs)⟩
theorem z6:∀ (l:List Str) (x:Str),PyProof.Rows.risingS x l=true→(x::l).Pairwise fun a b=>Hx a b=true
 | [],x,_=>List.pairwise_singleton ..
 | y::r,x,h=>by
  have h:(!PySem.Spec.ltCps y.cps.toList x.cps.toList && PyProof.Rows.risingS y r)=true:=h
  rw[Bool.and_eq_true,PyProof.Rows.ltCps_eq] at h
  have k:Hx x y=true:=by
   unfold Hx
   have:=h.1
   simpa using this
  have t:=z6 r y h.2
  refine List.pairwise_cons.mpr ⟨fun z hz=>?_,t⟩
  rcases List.mem_cons.mp hz with rfl|hz
  ·exact k
  ·exact Ai _ _ _ k ((List.pairwise_cons.mp t).1 z hz)
theorem Le:∀ l:List Str,PyProof.Rows.sortedS l=true→l.Pairwise fun a b=>Hx a b=true
 | [],_=>List.Pairwise.nil
 | x::r,h=>z6 r x h
end Mi
namespace L2
open PySem PySem.Spec PyProof.Rows
section
variable{X:Cx}
theorem sY:∀ {ss:List Str} {its:List Value},Vals (ss.map V.str) its→StrsAre its ss
 | [],_,.nil=>.nil
 | n::r,_,.cons h t=>by
  obtain⟨t1,rfl⟩:=h
  exact .cons n t1 (sY t)
theorem tE:∀ {ss:List Str} {its:List Value},StrsAre its ss→Vals (ss.map V.str) its
 | [],_,.nil=>.nil
 | _::_,_,.cons y t r=>.cons ⟨t,rfl⟩ (tE r)
end
end L2
namespace A
open PySem L2 PyProof.Rows So
open Mi (D W Rs Fin au)
variable[Tb:gH]
section
variable{X:Cx}
def Ox:List V→Hp→VK→Prop:=fun vs H Q=>∃ (a:Addr) (ss:List Str),vs=[.ref a]∧Lst H a (ss.map V.str)∧ss.length < 64∧∀ p,H p=none→Q (.ref p) (upd H p (.lst ((Mi.lY ss).map V.str)))
theorem yP:jq X (.builtin "sorted") Ox:=by
 intro pins s σ H xs us Q I r h
 obtain⟨a,ss,rfl,hl,h64,q⟩:=h
 obtain⟨u,rfl,ru⟩:=vals1 r
 cases (show u=Value.ref a from ru)
 obtain⟨its,n0,rv,hz,ho⟩:=Mj I hl
 have hli:=rv.length
 rw[List.length_map] at hli
 refine sorted_strs (vs:=its) (ss:=ss) ⟨_,ho,rfl,_,rfl⟩ (sY rv) (by omega) fun out ss' a1 a2 a3=>?_
 obtain⟨e1,he⟩:=sortedAll_at s.heap its out
 have e:=Mi.EY a2 (Mi.Le ss' a3)
 subst e
 have fr:H (s.heap.objs.size+1)=none:=I.hok.fresh (Nat.le_succ _)
 refine⟨.ref (s.heap.objs.size+1),_,adopt (fp:=[s.heap.objs.size+1]) (D:=s.heap.objs.size+1) (o:=.lst ((Mi.lY ss).map V.str)) (t':=s.toks) I (fun b hb=>?_) (List.mem_singleton.mpr rfl) (fun b u _ q=>sortedAll_old q) ⟨?_,out.toList,e1,tE a1,he⟩,rfl,q _ fr⟩
 ·rw[List.mem_singleton.mp hb]
  exact I.ud (Nat.le_succ _) fr
 ·rw[List.length_map,(Mi.lH ss).length_eq,sizeLine_eq];omega
end
theorem z7{Hv:Hp}:∀ {ds:List D} {ss:List Str} {xs:List V},Mi.nR ds=some ss→P2 (Rep Hv) ds xs→ds=ss.map D.str∧xs=ss.map V.str
 | [],ss,_,h,.nil=>by cases h;exact⟨rfl,rfl⟩
 | d::r,ss,_,h,.cons k t=>by
  cases d with
  | str z =>
   rw[Mi.nR] at h
   cases e:Mi.nR r with
   | none=>rw[e] at h;cases h
   | some q =>
    rw[e] at h
    cases h
    obtain⟨h1,h2⟩:=z7 e t
    rw[lZ.mp k,h1,h2];exact⟨rfl,rfl⟩
  | _=>simp[Mi.nR] at h
theorem K1:BN qN Ox Mi.mR:=fun ds vs H Hv Q vw r h=>by
 match ds,r,h with
 | [.lst ds],r,h =>
  obtain⟨v,ev,rr⟩:=mL r
  subst ev
  obtain⟨p,xs,rfl,l1,r1⟩:=RD.lst vw rr
  have h:=au.mp h
  cases e:Mi.nR ds with
  | none=>rw[e] at h;exact h.elim
  | some ss =>
   rw[e] at h
   obtain⟨h64,h⟩:=Mi.aX (show Fin (Mi.aU (ss.length < 64) _) _ from h)
   obtain⟨e1,e2⟩:=z7 e r1
   subst e2
   refine⟨p,ss,rfl,l1,h64,fun a ha=>?_⟩
   have r2:P2 (Rep Hv) ((Mi.lY ss).map D.str) ((Mi.lY ss).map V.str):=by
    generalize Mi.lY ss=l
    induction l with
    | nil=>exact .nil
    | cons a r ih=>exact .cons (lZ.mpr rfl) ih
   obtain⟨g,k⟩:=u0 vw r2 ha
   exact(Mi.kh h) _ _ _ g k
 | [],_,h=>exact h.elim
 | [.non],_,h=>exact h.elim
 | [.bl _],_,h=>exact h.elim
 | [.int _],_,h=>exact h.elim
 | [.str _],_,h=>exact h.elim
 | [.tup _],_,h=>exact h.elim
 | d::_::_,_,h=>cases d<;>exact(show False from h).elim
end A
namespace Mi
open PySem
end Mi
namespace A
open PySem L2 PyProof.Rows So
open Mi (D W Rs Fin JF au qL Out Tg Vv)
variable[Tb:gH]
end A
namespace L2
open PySem PySem.Spec PyProof.Rows
end L2
namespace Mi
open PySem
end Mi
namespace A
open PySem L2 PyProof.Rows So
open Mi (D W Rs Fin au Out Tg)
variable[Tb:gH]
end A
namespace Mi
open PySem
end Mi
namespace L2
open PySem PySem.Spec PyProof.Rows
end L2
namespace A
open PySem L2 PyProof.Rows
open Mi (D W Rs Fin au)
variable[Tb:gH]
end A
namespace Mi
open PySem
end Mi
namespace L2
open PySem PySem.Spec PyProof.Rows
end L2
namespace A
open PySem L2 PyProof.Rows
open Mi (D W Rs Fin au)
variable[Tb:gH]
end A
namespace Mi
open PySem
end Mi
namespace A
open PySem L2 PyProof.Rows So
open Mi (D W Rs Fin au Out Tg)
variable[Tb:gH]
end A
namespace L2
end L2
namespace So
end So
namespace Mi
open PySem
end Mi
namespace L2
end L2
namespace A
end A
namespace L2
end L2
namespace A
end A
namespace L2
end L2
namespace Rv
end Rv
namespace L2
end L2
namespace A
end A
namespace So
end So
namespace L2
end L2
namespace A
end A
namespace Mi
open PySem
end Mi
namespace L2
open PySem PySem.Spec PyProof.Rows
open PySem.Builtin PySem.Builtin.Str
end L2
namespace A
open PySem L2 PyProof.Rows So
open Mi (D W Rs Fin au)
variable[Tb:gH]
end A
namespace Mi
open PySem
def aaD(ys:List Str):Str:=ys.foldl (· ++ ·) Str.empty
end Mi
namespace L2
open PySem PySem.Spec PyProof.Rows
end L2
namespace A
open PySem L2 PyProof.Rows So
open Mi (D W Rs Fin au)
variable[Tb:gH]
end A
namespace Mi
def QR:D→D→Rs D
 | .int i,.int j=>aU (Ve i j) (.ok (.int (i * 2 ^ j.toNat)))
 | _,_=>.no
end Mi
namespace A
open PySem L2 PyProof.Rows
open Mi (D W Rs Fin au)
variable[Tb:gH]
theorem Zm:B2 qV (rI ZR fun i j=>.int (i * 2 ^ j.toNat)) Mi.QR:=fun x y v u H Hv Q vw rx ry h=>by
 cases x with
 | int i=>cases y with
  | int j=>cases RD.int rx;cases RD.int ry;obtain⟨hz,h⟩:=Mi.aX h;exact⟨i,j,rfl,rfl,hz,h _ H Hv (.refl vw) ik⟩
  | _=>exact h.elim
 | _=>cases y<;>exact h.elim
end A
namespace Mr
open PySem Mi
def lU:S :=
 (eG (ie (mV 1)) (.n 2)
 (jP (cB (m2 dF (mV 2) (mV 0)))
 CK
 bT))
def dC:Fn:=yI 2 3 lU
def Bs:S :=
 (aY (bw 1 (m2 dCat (mN pH [(gR DN (mV 0) none (some (mC (.int 63))))]) (m2 W6 (mN d9 [(mC (.int 60023))]) (mN Ni [(m2 iV (mN fV [(mV 0)]) (mC (.int 0)))]))))
 (aY (bw 2 (mN fV [(mV 1)]))
 (aY (bw 3 (m2 cu (m2 bH (mV 1) (mC (.int 0))) (mC (.int 2))))
 (aY (uU 1 (mC (.int 0)) (m2 eE (m2 bH (mV 1) (mC (.int 0))) (mC (.int 2))))
 (aY (bw 4 (mN pH [(mV 1)]))
 (aY (bw 5 (mN d9 []))
 (aY (eG (bV (mC (.int 63))) (.n 6)
 (aY (bw 7 (m2 cu (mV 6) (mV 2)))
 (aY (bw 8 (m2 cu (m2 cD (m2 bz (m2 bz (m2 cu (m2 bH (mV 1) (mV 7)) (mC (.int 2147483647))) (mC (.int 12011))) (m2 cD (mV 6) (mV 6))) (m2 bz (mC (.int 48271)) (m2 cD (mC (.int 614)) (mV 6)))) (mC (.int 2147483647))))
 (jP (fU (cB (m2 iV (mV 3) (mC (.int 0)))) (cB (m2 KN (m2 bH (mV 4) (mV 7)) (mC (.int 0)))))
 (aY (bJ 5 (m2 cu (m2 bH (mV 4) (mV 7)) (mC (.int 2147483647))))
 (uU 4 (mV 7) (m2 eE (m2 bH (mV 4) (mV 7)) (mC (.int 2147483647)))))
 (bJ 5 (m2 cu (m2 cD (m2 bz (m2 bz (mV 8) (m2 cD (mC (.int 709)) (mV 6))) (mC (.int 5))) (m2 bz (mC (.int 69621)) (m2 cD (m2 cD (mC (.int 18)) (mV 6)) (mV 6)))) (mC (.int 2147483629))))))))
 (fc (wV 5)))))))))
def nG:Fn:=Gq 1 9 Bs
def Bo:S :=
 (aY (bw 2 (mC (.str "etaoinshrdlucmfwypvbgkqjxz")))
 (aY (jP (cB (m2 Ax (m2 cu (mV 0) (mC (.int 4))) (mC (.int 2))))
 (aY (bw 3 (m2 KJ (mC (.str "")) (bN [some 2,some 0,none] (bV (mC (.int 8))) (.n 2) gU (m2 bH (mV 0) (m2 cu (m2 eE (mV 1) (m2 bz (mC (.int 4)) (m2 cD (mC (.int 3)) (mV 2)))) (mC (.int 26)))))))
 (aY (jP (cB (m2 iV (m2 cu (mV 0) (mC (.int 4))) (mC (.int 0))))
 (fc (wD (bN [some 3,none] (bV (mV 1)) (.n 1) gU (gR DN (mV 0) none (some (m2 bz (mV 1) (mC (.int 1))))))))
 bT)
 (fc (wD (bN [some 3,none] (bV (mV 1)) (.n 1) gU (gR DN (mV 0) (some (m2 qx (mC (.int 7)) (mV 1))) none))))))
 bT)
 (aY (bw 4 (m2 cu (m2 eE (mV 0) (mC (.int 4))) (mC (.int 8))))
 (aY (bw 5 (m2 KJ (mC (.str "")) (bN [some 2,some 0,none] (bV (mV 4)) (.n 2) gU (m2 bH (mV 0) (m2 cu (m2 bz (m2 bz (m2 eE (mV 1) (mC (.int 32))) (m2 cD (mC (.int 5)) (mV 2))) (m2 cD (mV 2) (mV 2))) (mC (.int 26)))))))
 (aY (bw 6 (m2 cu (m2 eE (mV 0) (mC (.int 256))) (m2 bz (mV 4) (mC (.int 1)))))
 (fc (wD (bN [some 5,some 2,some 6,some 0,none] (bV (mV 1)) (.n 4) gU (m2 bz (m2 bz (gR DN (mV 0) none (some (mV 2))) (m2 bH (mV 1) (m2 cu (m2 bz (m2 eE (mV 3) (mC (.int 7))) (m2 cD (mC (.int 5)) (mV 4))) (mC (.int 26))))) (gR DN (mV 0) (some (mV 2)) none))))))))))
def nC:Fn:=Gq 2 7 Bo
def Bq:S :=
 (aY (bw 2 (mC (.str "abcdefghijklmnopqrstuvwxyz")))
 (aY (bw 3 (mN d9 []))
 (aY (eG (bV (mV 1)) (.n 4)
 (aY (bw 5 (m2 eE (m2 bH (mV 0) (m2 bz (mC (.int 48)) (mV 4))) (mC (.int 6))))
 (aY (bw 6 (mC (.str "")))
 (aY (eG (bV (m2 bz (mC (.int 1)) (m2 cu (m2 bH (mV 0) (m2 bz (mC (.int 48)) (mV 4))) (mC (.int 6))))) (.n 7)
 (aY (bw 6 (m2 bz (mV 6) (m2 bH (mV 2) (m2 cu (mV 5) (mC (.int 26))))))
 (bw 5 (m2 eE (mV 5) (mC (.int 26))))))
 (bJ 3 (mV 6))))))
 (aY (jP (Ea (cB (m2 iV (m2 cu (m2 bH (mV 0) (mC (.int 1))) (mC (.int 2))) (mC (.int 0)))) (cB (m2 Ax (m1 DR (mV 3)) (mV 1))))
 (fc (wD (bf nC [(wD (m2 eE (m2 bH (mV 0) (mC (.int 1))) (mC (.int 2)))),(wD (mV 1))])))
 bT)
 (fc (wV 3))))))
def nF:Fn:=Gq 2 8 Bq
def Bp:S :=
 (aY (bw 2 (bN [none] (bV (mV 1)) (.n 0) gU (mV 0)))
 (aY (bw 3 (mN d9 []))
 (aY (eG (bV (mV 1)) (.n 4)
 (aY (oh 3 2 (m2 cu (mV 0) (mN fV [(mV 2)])))
 (bw 0 (m2 eE (mV 0) (m2 qx (mV 1) (mV 4))))))
 (fc (wV 3)))))
def jW:Fn:=Gq 2 5 Bp
def K4:S :=
 (aY (bw 3 (m2 bz (mV 1) (m2 cu (m2 bH (mV 0) (mC (.int 0))) (m2 bz (m2 qx (mV 2) (mV 1)) (mC (.int 1))))))
 (aY (bw 4 (bf nF [(wD (mV 0)),(wD (mV 3))]))
 (aY (bw 5 (bf jW [(wD (m2 bH (mV 0) (mC (.int 2)))),(wD (mV 3))]))
 (aY (bw 6 (m2 bH (mN d9 [(mC (.int 4)),(mC (.int 1)),(mC (.int 2)),(mC (.int 3)),(mC (.int 2)),(mC (.int 3))]) (m2 cu (m2 bH (mV 0) (mC (.int 3))) (mC (.int 6)))))
 (aY (bw 7 (mN d9 []))
 (aY (eG (bV (mV 3)) (.n 8)
 (eG (bV (mV 3)) (.n 9)
 (aY (bw 10 (m2 bH (mV 0) (m2 bz (m2 bz (mC (.int 4)) (m2 eE (m2 cD (mN nQ [(mV 8),(mV 9)]) (m2 qx (mN nQ [(mV 8),(mV 9)]) (mC (.int 1)))) (mC (.int 2)))) (mN wL [(mV 8),(mV 9)]))))
 (jP (fU (cB (m2 Ax (m2 bH (mV 5) (mV 8)) (m2 bH (mV 5) (mV 9)))) (cB (m2 Ax (m2 cu (mV 10) (mC (.int 4))) (mV 6))))
 (bJ 7 (mN dTup [(m2 bH (mV 4) (mV 8)),(m2 bH (mV 4) (mV 9))]))
 bT))))
 (fc (wD (mN dTup [(mN sJ [(mV 4)]),(mN sJ [(mV 7)])])))))))))
def qJ:Fn:=yI 3 11 K4
def GZ:S :=
 (fc (wD (Vj (m2 kO (mN dTup [(mV 1),(mV 2)]) (m2 bH (mV 0) (mC (.int 1)))) (m2 kO (mN dTup [(mV 2),(mV 1)]) (m2 bH (mV 0) (mC (.int 1)))))))
def gf:Fn:=yI 3 3 GZ
def v9:S :=
 (fc (wD (bN [some 1,none] (ie (mV 0)) (.n 1) gU (m2 bH (mN d9 [(mV 1),(mN dTup [(m2 bH (mV 1) (mC (.int 1))),(m2 bH (mV 1) (mC (.int 0)))])]) (mN Ni [(m2 iV (mV 1) (mV 0))])))))
def gq:Fn:=Gq 2 2 v9
def pG:S :=
 (aY (bw 2 (mN pH [(mV 0)]))
 (aY (eG (bV (mN fV [(mV 0)])) (.n 3)
 (aY (bw 4 (bN [some 2,none,none] (ie (mV 1)) (.t [1,2]) (cB (m2 kO (mV 1) (mV 0))) (mV 2)))
 (bw 2 (bN [some 4,none] (ie (mV 2)) (.n 1) (cB (m2 kO (mV 1) (mV 0))) (mV 1)))))
 (fc (wD (m2 KN (mN fV [(mV 2)]) (mC (.int 0)))))))
def dj:Fn:=yI 2 5 pG
def v8:S :=
 (aY (jP (Ea (cB (m2 iV (m2 cu (mV 2) (mC (.int 3))) (mC (.int 0)))) (cB (m2 iV (mN fV [(mV 1)]) (mC (.int 0)))))
 (aY (bw 3 (mN d9 []))
 (aY (eG (ie (mV 0)) (.n 4)
 (eG (ie (mV 0)) (.n 5)
 (jP (fU (cB (m2 vZ (mV 4) (mV 5))) (fU (cB (m2 dF (mN dTup [(mV 4),(mV 5)]) (mV 1))) (cB (m2 dF (mN dTup [(mV 5),(mV 4)]) (mV 1)))))
 (bJ 3 (mN dTup [(mV 4),(mV 5)]))
 bT)))
 (aY (bw 3 (bN [some 0,some 1,none] (ie (mV 3)) (.n 2) (pL (cB (bf dj [(wD (mV 0)),(wD (m2 bz (mV 1) (mN d9 [(mV 2)])))]))) (mV 2)))
 (aY (jP (cB (m2 KN (mN fV [(mV 3)]) (mC (.int 0))))
 (fc (wD (m2 bz (mV 1) (mN d9 [(m2 bH (mV 3) (m2 cu (m2 eE (mV 2) (mC (.int 3))) (mN fV [(mV 3)])))]))))
 bT)
 (fc (wD (gR DN (mV 1) (some (mC (.int 1))) none)))))))
 bT)
 (aY (bw 6 (m2 cu (m2 eE (mV 2) (mC (.int 3))) (mN fV [(mV 1)])))
 (aY (bw 7 (bf gq [(wD (mV 1)),(wD (m2 bH (mV 1) (mV 6)))]))
 (aY (jP (Ea (cB (m2 iV (m2 cu (mV 2) (mC (.int 3))) (mC (.int 1)))) (cB (bf dj [(wD (mV 0)),(wD (mV 7))])))
 (fc (wD (m2 bz (gR DN (mV 1) none (some (mV 6))) (gR DN (mV 1) (some (m2 bz (mV 6) (mC (.int 1)))) none))))
 bT)
 (fc (wD (mV 7)))))))
def ji:Fn:=yI 3 8 v8
def yV:S :=
 (aY (bw 2 (mN d9 []))
 (aY (eG (ie (mV 0)) (.n 3)
 (eG (ie (mV 0)) (.n 4)
 (jP (cB (m2 kO (mN dTup [(mV 3),(mV 4)]) (mV 1)))
 (bJ 2 (mN dTup [(mV 3),(mV 4)]))
 bT)))
 (fc (wD (mN dTup [(mN sJ [(mV 0)]),(mN sJ [(mV 2)])])))))
def lN:Fn:=yI 2 5 yV
def wj:S :=
 (aY (bw 1 (mN d9 []))
 (aY (eG (oO (m2 bH (mV 0) (mC (.int 0)))) (.t [2,3])
 (eG (ie (m2 bH (mV 0) (mC (.int 0)))) (.n 4)
 (eG (ie (gR vp (m2 bH (mV 0) (mC (.int 0))) (some (m2 bz (mV 2) (mC (.int 1)))) none)) (.n 5)
 (aY (bw 6 (u6 (m2 kO (mN dTup [(mV 3),(mV 4)]) (m2 bH (mV 0) (mC (.int 1)))) (m2 kO (mN dTup [(mV 5),(mV 4)]) (m2 bH (mV 0) (mC (.int 1))))))
 (jP (fU (Nh (mV 6)) (pL (cB (bf gf [(wD (mV 0)),(wD (mV 3)),(wD (mV 5))]))))
 (bJ 1 (mN dTup [(mV 3),(mV 4),(mV 5)]))
 bT)))))
 (fc (wV 1))))
def d8:Fn:=Gq 1 7 wj
def yZ:S :=
 (aY (Fi (bf dC [(wD (m2 bH (mV 0) (mC (.int 0)))),(wD (mN d9 [(mV 1),(mV 2)]))]))
 (fc (wD (Vj (m2 kO (mN dTup [(mV 1),(mV 2)]) (m2 bH (mV 0) (mC (.int 1)))) (m2 kO (mN dTup [(mV 2),(mV 1)]) (m2 bH (mV 0) (mC (.int 1))))))))
def fP:Fn:=yI 3 3 yZ
def rF:S :=
 (fc (wD (Dj [0] (mV 1) (bN [some 1,none] (ie (mV 0)) (.n 1) gU (m2 QS (mV 0) (mV 1))))))
def fL:Fn:=Gq 2 2 rF
def yU:S :=
 (aY (bw 1 (mN d9 []))
 (aY (eG (oO (mV 0)) (.t [2,3])
 (n6 1 (bN [some 3,none] (ie (gR vp (mV 0) (some (m2 bz (mV 2) (mC (.int 1)))) none)) (.n 1) gU (mN dTup [(mV 0),(mV 1)]))))
 (fc (wV 1))))
def gC:Fn:=Gq 1 4 yU
def Bk:S :=
 (fc (wD (bN [some 0,none,none] (ie (bf gC [(wD (m2 bH (mV 0) (mC (.int 0))))])) (.t [1,2]) (cB (bf fP [(wD (mV 0)),(wD (mV 1)),(wD (mV 2))])) (mN dTup [(mV 1),(mV 2)]))))
def lD:Fn:=Gq 1 1 Bk
def uy:S :=
 (aY (Yb (.t [1,2]) (mV 0))
 (aY (bw 3 (mN d9 []))
 (aY (eG (ie (bf gC [(wD (mV 1))])) (.t [4,5])
 (jP (pL (cB (bf fP [(wD (mV 0)),(wD (mV 4)),(wD (mV 5))])))
 (aY (bw 6 (bN [some 2,some 4,some 5,none] (ie (mV 1)) (.n 3) (fU (cB (m2 kO (mN dTup [(mV 1),(mV 3)]) (mV 0))) (cB (m2 kO (mN dTup [(mV 2),(mV 3)]) (mV 0)))) (mV 3)))
 (n6 3 (bN [some 4,some 5,none] (ie (mV 6)) (.n 2) gU (mN dTup [(mV 0),(mV 2),(mV 1)]))))
 bT))
 (fc (wD (bf fL [(wD (mV 1)),(wD (mV 3))]))))))
def iB:Fn:=Gq 1 7 uy
def GR:S :=
 (aY (bw 1 (mN d9 []))
 (aY (eG (bV (mN fV [(m2 bH (mV 0) (mC (.int 0)))])) (.n 2)
 (bw 1 (m2 bz (mV 1) (bN [some 2,some 0,none] (ie (gR vp (m2 bH (mV 0) (mC (.int 0))) (some (m2 bz (mV 2) (mC (.int 1)))) none)) (.n 2) (cB (bf gf [(wD (mV 1)),(wD (m2 bH (m2 bH (mV 1) (mC (.int 0))) (mV 0))),(wD (mV 2))])) (mN dTup [(m2 bH (m2 bH (mV 1) (mC (.int 0))) (mV 0)),(mV 2)])))))
 (fc (wD (mV 1)))))
def iK:Fn:=yI 1 3 GR
def Bt:S :=
 (fc (wD (u6 (Dk Xy Xy (mC (.int 1)) (mN fV [(mV 0)]) (mC (.int 8))) (mN Xd [(bN [none] (ie (mV 0)) (.n 0) gU (m2 kO (mV 0) (mC (.str "abcdefghijklmnopqrstuvwxyz"))))]))))
def jX:Fn:=yI 1 1 Bt
def yX:S :=
 (fc (wD (bN [some 1,none,none] (ie (mV 0)) (.t [1,2]) (cB (m2 iV (mV 2) (mV 0))) (mV 1))))
def fO:Fn:=Gq 2 2 yX
def wg:S :=
 (aY (bw 1 (mN d9 []))
 (aY (eG (ie (mV 0)) (.t [2,3])
 (jP (cB (m2 iV (mN mR [(bf fO [(wD (mV 0)),(wD (mV 3))])]) (mN mR [(m2 bz (bf fO [(wD (mV 0)),(wD (mV 2))]) (mN d9 [(mV 2)]))])))
 (bJ 1 (mN dTup [(mV 2),(mV 3)]))
 bT))
 (fc (wV 1))))
def iy:Fn:=Gq 1 4 wg
def jN:S :=
 (jP (cB (m2 vZ (m2 bH (mV 0) (mC (.int 0))) (m2 bH (mV 1) (mC (.int 0)))))
 CK
 bT)
def dz:Fn:=yI 2 2 jN
def yS:S :=
 (aY (Fi (bf dz [(wD (mV 0)),(wD (mV 1))]))
 (fc (wD (u6 (m2 iV (bf lD [(wD (mV 0))]) (bf lD [(wD (mV 1))])) (m2 iV (bf iB [(wD (mV 0))]) (bf iB [(wD (mV 1))]))))))
def fM:Fn:=yI 2 2 yS
def K5:S :=
 (aY (bw 2 (mN fV [(mV 0)]))
 (aY (bw 3 (bf jW [(wD (mV 1)),(wD (mV 2))]))
 (aY (eG (bV (mV 2)) (.n 4)
 (bw 1 (m2 eE (mV 1) (m2 qx (mV 2) (mV 4)))))
 (aY (bw 5 (mN d9 []))
 (aY (eG (bV (mV 2)) (.n 6)
 (eG (bV (mV 2)) (.n 4)
 (aY (bw 7 (m2 bz (m2 eE (m2 cD (mN nQ [(mV 6),(mV 4)]) (m2 qx (mN nQ [(mV 6),(mV 4)]) (mC (.int 1)))) (mC (.int 2))) (mN wL [(mV 6),(mV 4)])))
 (jP (fU (cB (m2 Ax (m2 bH (mV 3) (mV 6)) (m2 bH (mV 3) (mV 4)))) (cB (m2 iV (m2 cu (m2 eE (mV 1) (m2 QR (mC (.int 1)) (mV 7))) (mC (.int 2))) (mC (.int 1)))))
 (bJ 5 (mN dTup [(m2 bH (mV 0) (mV 6)),(m2 bH (mV 0) (mV 4))]))
 bT))))
 (fc (wD (mN dTup [(mN sJ [(mV 0)]),(mN sJ [(mV 5)])]))))))))
def qK:Fn:=yI 2 8 K5
def uw:S :=
 (aY (jP (cB (m2 iV (m2 cu (mV 1) (mC (.int 3))) (mC (.int 0))))
 (fc (wD (bf qK [(wD (mN pH [(m2 bH (mV 0) (mC (.int 0)))])),(wD (m2 eE (mV 1) (mC (.int 3))))])))
 bT)
 (aY (bw 2 (mN pH [(m2 bH (mV 0) (mC (.int 1)))]))
 (aY (bw 3 (m2 cu (m2 eE (mV 1) (mC (.int 3))) (mC (.int 7))))
 (aY (bw 4 (m2 cu (m2 eE (mV 1) (mC (.int 21))) (mC (.int 2))))
 (aY (bw 1 (m2 eE (mV 1) (mC (.int 42))))
 (aY (eG (bV (mV 3)) (.n 5)
 (aY (bw 6 (bf iy [(wD (mV 2))]))
 (jP (cB (m2 KN (mN fV [(mV 6)]) (mC (.int 0))))
 (aY (bw 2 (bf gq [(wD (mV 2)),(wD (m2 bH (mV 6) (m2 cu (mV 1) (mN fV [(mV 6)]))))]))
 (bw 1 (m2 eE (mV 1) (mN fV [(mV 6)]))))
 bT)))
 (aY (jP (cB (m2 iV (mV 4) (mC (.int 1))))
 (bw 2 (bf ji [(wD (m2 bH (mV 0) (mC (.int 0)))),(wD (mV 2)),(wD (mV 1))]))
 bT)
 (fc (wD (bf lN [(wD (m2 bH (mV 0) (mC (.int 0)))),(wD (mV 2))]))))))))))
def gD:Fn:=yI 2 7 uw
def G4:S :=
 (aY (bw 2 (mN pH [(mV 1)]))
 (aY (eG (bV (mN fV [(m2 bH (mV 0) (mC (.int 0)))])) (.n 3)
 (eG (ie (m2 bH (mV 0) (mC (.int 1)))) (.t [4,5])
 (jP (fU (cB (m2 kO (mV 5) (mV 2))) (cB (m2 dF (mV 4) (mV 2))))
 (bJ 2 (mV 4))
 bT)))
 (fc (wV 2))))
def qm:Fn:=Gq 2 6 G4
def yW:S :=
 (aY (bw 4 (bf qm [(wD (mV 0)),(wD (m2 bz (mN d9 [(mV 1),(mV 2)]) (mN pH [(mV 3)])))]))
 (aY (UT 5 (fun _=>.ok (.dk [])))
 (aY (eG (ie (mV 4)) (.n 6)
 (tQ 5 (mV 6) (m2 bz (mN d9 [(mV 6)]) (bN [some 6,none,none] (ie (m2 bH (mV 0) (mC (.int 1)))) (.t [1,2]) (cB (m2 iV (mV 2) (mV 0))) (mV 1)))))
 (aY (bw 7 (mN d9 [(mV 1)]))
 (aY (eG (bV (mN fV [(mV 4)])) (.n 8)
 (eG (ie (mV 4)) (.n 6)
 (aY (bw 9 (bN [some 7,none] (ie (rB 5 (mV 6))) (.n 1) (cB (m2 kO (mV 1) (mV 0))) (mV 1)))
 (jP (cB (m2 KN (mN fV [(mV 9)]) (mC (.int 0))))
 (bw 7 (m2 bz (mV 7) (bN [some 7,some 3,none] (ie (rB 5 (mV 6))) (.n 2) (fU (cB (m2 dF (mV 2) (mV 0))) (cB (m2 dF (mV 2) (mV 1)))) (mV 2))))
 bT))))
 (fc (wD (m2 dF (mV 2) (mV 7)))))))))
def gF:Fn:=yI 4 10 yW
def Br:S :=
 (aY (bw 1 (mN d9 [(mN d9 [])]))
 (aY (eG (ie (mV 0)) (.n 2)
 (bw 1 (m2 bz (mV 1) (bN [some 2,none] (ie (mV 1)) (.n 1) gU (m2 bz (mV 1) (mN d9 [(mV 0)]))))))
 (fc (wD (mV 1)))))
def jj:Fn:=yI 1 3 Br
def G3:S :=
 (aY (bw 1 (mN d9 []))
 (aY (eG (oO (m2 bH (mV 0) (mC (.int 0)))) (.t [2,3])
 (eG (ie (gR vp (m2 bH (mV 0) (mC (.int 0))) (some (m2 bz (mV 2) (mC (.int 1)))) none)) (.n 4)
 (aY (bw 5 (bN [some 3,some 4,none] (ie (m2 bH (mV 0) (mC (.int 0)))) (.n 2) (fU (cB (m2 vZ (mV 2) (mV 0))) (cB (m2 vZ (mV 2) (mV 1)))) (mV 2)))
 (bw 1 (m2 bz (mV 1) (bN [some 0,some 3,some 4,none] (ie (bf jj [(wD (mV 5))])) (.n 3) gU (bf gF [(wD (mV 0)),(wD (mV 1)),(wD (mV 2)),(wD (mV 3))])))))))
 (fc (wD (mV 1)))))
def kj:Fn:=yI 1 6 G3
def Bm:S :=
 (aY (bw 1 (bf nG [(wD (mV 0))]))
 (aY (bw 2 (bf qJ [(wD (mV 1)),(wD (mC (.int 1))),(wD (m2 bH (mN d9 [(mC (.int 4)),(mC (.int 4)),(mC (.int 4)),(mC (.int 5))]) (m2 cu (m2 bH (mV 1) (mC (.int 33))) (mC (.int 4)))))]))
 (aY (bw 3 (bf kj [(wD (mV 2))]))
 (aY (eG (ie (gR DN (mV 1) (some (mC (.int 39))) (some (mC (.int 41))))) (.n 4)
 (aY (bw 5 (bf gD [(wD (mV 2)),(wD (mV 4))]))
 (aY (bw 6 (u6 (m2 iV (bf iK [(wD (mV 2))]) (bf iK [(wD (mV 5))])) (m2 iV (bf d8 [(wD (mV 2))]) (bf d8 [(wD (mV 5))]))))
 (aY (jP (cB (m2 vZ (mV 6) (m2 iV (mV 3) (bf kj [(wD (mV 5))]))))
 (fc (wD (mC (.bl false))))
 bT)
 (aY (bw 7 (bf fM [(wD (mV 2)),(wD (mV 5))]))
 (aY (bw 8 (bf fM [(wD (mV 5)),(wD (mV 2))]))
 (jP (Ea (pL (cB (m1 (Xc ["bool"]) (mV 7)))) (Ea (cB (m2 vZ (mV 7) (mV 6))) (Ea (pL (cB (m1 (Xc ["bool"]) (mV 8)))) (cB (m2 vZ (mV 8) (mV 7))))))
 (fc (wD (mC (.bl false))))
 bT)))))))
 (fc (wD (mC (.bl true))))))))
def u5:Fn:=yI 1 9 Bm
end Mr
namespace JD
open PySem L2 PyProof.Rows A
open Mr
def Td(x:Str):Str:=x ++ ".<locals>." ++ "<lambda>"
def top(i:Nat):Stmt:=PySem.Challenge.pw_arrowfind_k23_whole_say_the_same.main.body.getD i (.Pass ⟨0,0,0,0⟩)
structure Txt(mg:Str→Option Value):Prop where
 dD:mg "len" = none
 dM:mg "range" = none
 uv:mg "max" = none
 GQ:mg "min" = none
 iD:mg "tuple" = none
 jd:mg "list" = none
 ux:mg "isinstance" = none
 aaU:mg "all" = none
 aaT:mg "any" = none
 Rc:mg "bool" = none
 aaS:mg "str" = none
 G5:mg "int" = none
 aaR:mg "zip" = none
 qC:mg "enumerate" = none
 yR:mg "sorted" = none
 Xb:mg "reversed" = none
 Zn:mg "set" = none
section
variable{P:Program}{w:World}{K:PySem.W.Frag}{mg:Str→Option Value}{base:Heap}[Tb:gH]
abbrev iZ:Stmt:=top 7
theorem lq:bK ["names", "asked", "name"] ["names", "asked"] (bh iZ):=⟨rfl,rfl,rfl,by decide +kernel,rfl,by decide +kernel,by decide +kernel⟩
theorem qX{f:Addr}{fd:FuncData}(F:pN K "refuse_strangers" "refuse_strangers" iZ f fd)(T:Txt mg)  : eF P w K mg base dX 1 f fd ["names", "asked"] (pC dC) :=
 F.ok lq (fun vs H Q E h=>qY h) (fun cdv A outer s H vs Q E hr h=>by
  have nd:=lq.nd
  have hu:=fH hr
  have bW:=hr.units
  exact⟨_,(aJ (cH PassesOwn.never rfl (cJ (pv 1)) (aR (i:=2) nd rfl (Or.inl rfl))
 (aJ (iu (bA (jQ bW) (pv 2) (pv 0) rfl)
 (aJ Fp)
 dq)))),
  _root_.A.qW (N:=["names", "asked", "name"]) (M:=Mo []) (cL (K:=K) (tg:=(.n 2)) (jf (ao 1 rfl)) (by decide)
 (iz (bC (AE.p (aA oY (AE.p (ao 2 rfl)) (AE.p (ao 0 rfl)))))
 G9
 du)) (by decide) h⟩)
abbrev rQ:Stmt:=top 5
theorem vR:bK ["net", "one", "other"] ["net", "one", "other"] (bh rQ):=⟨rfl,rfl,rfl,by decide +kernel,rfl,by decide +kernel,by decide +kernel⟩
theorem FP{f:Addr}{fd:FuncData}(F:pN K "are_tied" "are_tied" rQ f fd)(T:Txt mg)(jg:pO P w K mg base dX 1 "refuse_strangers" ["names", "asked"] (pC dC)):eF P w K mg base dX 2 f fd ["net", "one", "other"] (pC fP) :=
 F.ok vR (fun vs H Q E h=>qY h) (fun cdv A outer s H vs Q E hr h=>by
  have nd:=vR.nd
  have hu:=fH hr
  have bW:=hr.units
  have qZ:=hr.mono (show 1≤_ by decide)
  exact⟨_,(aD (gr (bL jg qZ rfl cV (ak (bG bj (pv 0) aF (fun _ _=>rfl)) (ak (dB (ak (pv 1) (ak (pv 2) az))) az))))
 (aJ (bY (Vd (gA (jT bW) (dO (ak (pv 1) (ak (pv 2) az))) (bG bj (pv 0) aF (fun _ _=>rfl)) rfl) (yf (gA (jT bW) (dO (ak (pv 2) (ak (pv 1) az))) (bG bj (pv 0) aF (fun _ _=>rfl)) rfl)))))),
  _root_.A.qW (N:=["net", "one", "other"]) (M:=Mo []) (aM (K7 (AE.p (fW (aO (AE.w (aA cO (AE.p (ao 0 rfl)) (AE.p aK))) (aO (AW.nv (AE.w (gm (aC (ao 1 rfl) (aC (ao 2 rfl) aP))))) bM)))))
 (gj (AE.w (Zv (AE.p (aA vA (AE.p (gK (aC (ao 1 rfl) (aC (ao 2 rfl) aP)))) (AE.p (aA cO (AE.p (ao 0 rfl)) (AE.p aK))))) (aA vA (AE.p (gK (aC (ao 2 rfl) (aC (ao 1 rfl) aP)))) (AE.p (aA cO (AE.p (ao 0 rfl)) (AE.p aK)))))))) (by decide) h⟩)
abbrev rK:Stmt:=top 13
theorem vM:bK ["names", "pairs", "place", "one"] ["names"] (bh rK):=⟨rfl,rfl,rfl,by decide +kernel,rfl,by decide +kernel,by decide +kernel⟩
theorem Fx{f:Addr}{fd:FuncData}(F:pN K "pairs_of" "pairs_of" rK f fd)(T:Txt mg)  : eF P w K mg base dX 1 f fd ["names"] (qU gC) :=
 F.ok vM (fun vs H Q E h=>vg h) (fun cdv A outer s H vs Q E hr h=>by
  have nd:=vM.nd
  have hu:=fH hr
  have bW:=hr.units
  exact⟨_,(aD (aZ (i:=1) nd rfl (Or.inl rfl) (dB az))
 (aD (cH PassesOwn.never rfl (Zp.yd rfl T.qC (pv 0)) (lM rfl (cA (aR (i:=2) nd rfl (Or.inl rfl)) (cA (aR (i:=3) nd rfl (Or.inr rfl)) jz)))
 (aJ (gr (lr PySem.F.plainAttrs_list PySem.F.slot_list_extend PySem.F.type_list_extend yp (pv 1) (ak (eY (N':=["one", "other"]) (ρ:=[some 3,none]) rfl (dm.of rfl (by kernel_rfl)) (cJ (fZ RQ (pv 0) (gY (aQ bF (pv 2) aF)) iT)) (fun _ _ _ _ _=>(aR (i:=1) (by show (["one", "other"]:List Str).Nodup;decide +kernel) rfl (Or.inl rfl))) (dU rfl) (fun _ _ _ _ _=>iQ) (fun _ _ _ _ _=>(dO (ak (pv 0) (ak (pv 1) az))))) az)))))
 (aJ (bY (pv 1))))),
  _root_.A.runN (N:=["names", "pairs", "place", "one"]) (M:=Mo [1]) (aM (iH 1 rfl (gm aP))
 (aM (cL (K:=K) (tg:=(.t [2,3])) (Zp.zf (ao 0 rfl)) (by decide)
 (Bv 1 rfl (AE.nv (eV (K:=K) (tg:=(.n 1)) (fK (AE.p (vC K3 (AE.p (ao 0 rfl)) (ig (AE.p (aA dh (AE.p (ao 2 rfl)) (AE.p aK)))) iW))) (by decide) kZ (gK (aC (ao 0 rfl) (aC (ao 1 rfl) aP)))))))
 (j4 1 rfl))) (by decide) h⟩)
abbrev uN:Stmt:=top 9
theorem xK:bK ["net"] ["net"] (bh uN):=⟨rfl,rfl,rfl,by decide +kernel,rfl,by decide +kernel,by decide +kernel⟩
theorem Ik{f:Addr}{fd:FuncData}(F:pN K "ties_of" "ties_of" uN f fd)(T:Txt mg)(j7:pO P w K mg base dX 2 "are_tied" ["net", "one", "other"] (pC fP))(j6:pO P w K mg base dX 1 "pairs_of" ["names"] (qU gC)):eF P w K mg base dX 3 f fd ["net"] (qU lD) :=
 F.ok xK (fun vs H Q E h=>vg h) (fun cdv A outer s H vs Q E hr h=>by
  have nd:=xK.nd
  have hu:=fH hr
  have bW:=hr.units
  have qt:=hr.mono (show 2≤_ by decide)
  have qp:=hr.mono (show 1≤_ by decide)
  exact⟨_,(aJ (bY (eY (N':=["net", "one", "other"]) (ρ:=[some 0,none,none]) rfl (dm.of rfl (by kernel_rfl)) (cJ (bL j6 qp rfl cV (ak (bG bj (pv 0) aF (fun _ _=>rfl)) az))) (fun _ _ _ _ _=>(lM rfl (cA (aR (i:=1) (by show (["net", "one", "other"]:List Str).Nodup;decide +kernel) rfl (Or.inl rfl)) (cA (aR (i:=2) (by show (["net", "one", "other"]:List Str).Nodup;decide +kernel) rfl (Or.inl rfl)) jz)))) (Dy (km rfl (km rfl Dz qu) (wU qu))) (fun _ _ _ _ _=>(jy (qi (bL j7 qt rfl cV (ak (pv 0) (ak (pv 1) (ak (pv 2) az))))))) (fun _ _ _ _ _=>(dO (ak (pv 1) (ak (pv 2) az))))))),
  _root_.A.runN (N:=["net"]) (M:=Mo []) (mG (AE.w (eV (K:=K) (tg:=(.t [1,2])) (fK (AE.np (dN (aO (AE.w (aA cO (AE.p (ao 0 rfl)) (AE.p aK))) bM)))) (by decide) (Eb (AE.p (fW (aO (AE.w (ao 0 rfl)) (aO (AE.w (ao 1 rfl)) (aO (AE.w (ao 2 rfl)) bM)))))) (gK (aC (ao 1 rfl) (aC (ao 2 rfl) aP)))))) (by decide) h⟩)
abbrev mK:Stmt:=top 6
theorem pY:bK ["names", "rows"] ["names", "rows"] (bh mK):=⟨rfl,rfl,rfl,by decide +kernel,rfl,by decide +kernel,by decide +kernel⟩
theorem yj{f:Addr}{fd:FuncData}{cc TT:Addr}(F:Rx K "sorted_rows" "sorted_rows" mK cc f fd)(T:Txt mg)(hB:BM mg base)(hC:PySem.W.CodeHd base cc TT)(hTb:(TT,Td "sorted_rows")∈Tb.l)  : eF P w K mg base dX 4 f fd ["names", "rows"] (qU fL) :=
 F.ok pY (fun vs H Q E h=>vg h) (fun A outer s H vs Q E hr h=>by
  have nd:=pY.nd
  have hu:=fH hr
  have bW:=hr.units
  exact⟨_,(aJ (bY (Pa (x := "row") (ρ:=[0]) (N':=["row", "names"]) (k:=0) (qual:=Td "sorted_rows") rfl T.yR (pv 1) (hr.mono (by decide)) rfl hC hB rfl rfl rfl (Bw.one rfl rfl rfl rfl rfl rfl rfl rfl) (fun pm c' ctv u=>rfl) (fun A f c' s H env hrl he=>by subst he;exact(eY (N':=["names", "name"]) (ρ:=[some 1,none]) rfl (dm.of rfl (by kernel_rfl)) (cJ (pv 0)) (fun _ _ _ _ _=>(aR (i:=1) (by show (["names", "name"]:List Str).Nodup;decide +kernel) rfl (Or.inl rfl))) (dU rfl) (fun _ _ _ _ _=>iQ) (fun _ _ _ _ _=>(V8 PySem.F.plainAttrs_tuple PySem.F.slot_tuple_index PySem.F.type_tuple_index YF PySem.F.plainAttrs_list PySem.F.slot_list_index PySem.F.type_list_index YG (pv 0) (ak (pv 1) az)))))))),
  _root_.A.runN (N:=["names", "rows"]) (M:=Mo []) (mG (AE.w (Ur hTb (by decide) (AE.p (ao 1 rfl)) (eV (K:=K) (tg:=(.n 1)) (fK (AE.p (ao 0 rfl))) (by decide) kZ (Zx (AE.p (ao 0 rfl)) (AE.p (ao 1 rfl))))))) (by decide) h⟩)
abbrev nZ:Stmt:=top 10
theorem q9:bK ["net", "names", "arrows", "corners", "one", "other", "middles"] ["net"] (bh nZ):=⟨rfl,rfl,rfl,by decide +kernel,rfl,by decide +kernel,by decide +kernel⟩
theorem zL{f:Addr}{fd:FuncData}(F:pN K "corners_of" "corners_of" nZ f fd)(T:Txt mg)(j7:pO P w K mg base dX 2 "are_tied" ["net", "one", "other"] (pC fP))(mX:pO P w K mg base dX 4 "sorted_rows" ["names", "rows"] (qU fL))(j6:pO P w K mg base dX 1 "pairs_of" ["names"] (qU gC)):eF P w K mg base dX 5 f fd ["net"] (qU iB) :=
 F.ok q9 (fun vs H Q E h=>vg h) (fun cdv A outer s H vs Q E hr h=>by
  have nd:=q9.nd
  have hu:=fH hr
  have bW:=hr.units
  have qt:=hr.mono (show 2≤_ by decide)
  have yE:=hr.mono (show 4≤_ by decide)
  have qp:=hr.mono (show 1≤_ by decide)
  exact⟨_,(aD (Ig (pv 0) (lM rfl (cA (aR (i:=1) nd rfl (Or.inl rfl)) (cA (aR (i:=2) nd rfl (Or.inr rfl)) jz))))
 (aD (aZ (i:=3) nd rfl (Or.inl rfl) (dB az))
 (aD (cH PassesOwn.never rfl (cJ (bL j6 qp rfl cV (ak (pv 1) az))) (lM rfl (cA (aR (i:=4) nd rfl (Or.inr rfl)) (cA (aR (i:=5) nd rfl (Or.inr rfl)) jz)))
 (aJ (iu (xY (qi (bL j7 qt rfl cV (ak (pv 0) (ak (pv 4) (ak (pv 5) az))))))
 (aD (tR (i:=6) (N':=["arrows", "one", "other", "name"]) (ρ:=[some 2,some 4,some 5,none]) rfl nd rfl (Or.inl rfl) (dm.of rfl (by kernel_rfl)) (cJ (pv 1)) (fun _ _ _ _ _=>(aR (i:=3) (by show (["arrows", "one", "other", "name"]:List Str).Nodup;decide +kernel) rfl (Or.inl rfl))) (dU rfl) (fun _ _ _ _ _=>(jy (PW.pt (pw_and (bA (jT bW) (dO (ak (pv 1) (ak (pv 3) az))) (pv 0) rfl) (pw_and1 (bA (jT bW) (dO (ak (pv 2) (ak (pv 3) az))) (pv 0) rfl)))))) (fun _ _ _ _ _=>(pv 3)))
 (aJ (gr (lr PySem.F.plainAttrs_list PySem.F.slot_list_extend PySem.F.type_list_extend yp (pv 3) (ak (eY (N':=["one", "other", "middle"]) (ρ:=[some 4,some 5,none]) rfl (dm.of rfl (by kernel_rfl)) (cJ (pv 6)) (fun _ _ _ _ _=>(aR (i:=2) (by show (["one", "other", "middle"]:List Str).Nodup;decide +kernel) rfl (Or.inl rfl))) (dU rfl) (fun _ _ _ _ _=>iQ) (fun _ _ _ _ _=>(dO (ak (pv 0) (ak (pv 2) (ak (pv 1) az)))))) az)))))
 dq)))
 (aJ (bY (bL mX yE rfl cV (ak (pv 1) (ak (pv 3) az)))))))),
  _root_.A.runN (N:=["net", "names", "arrows", "corners", "one", "other", "middles"]) (M:=Mo [3]) (aM (Xf (K:=K) (.t [1,2]) (by decide) (ao 0 rfl))
 (aM (iH 3 rfl (gm aP))
 (aM (cL (K:=K) (tg:=(.t [4,5])) (jf (AE.nv (dN (aO (AE.w (ao 1 rfl)) bM)))) (by decide)
 (iz (za (Eb (AE.p (fW (aO (AE.w (ao 0 rfl)) (aO (AE.w (ao 4 rfl)) (aO (AE.w (ao 5 rfl)) bM)))))))
 (aM (bx 6 rfl (AE.nv (eV (K:=K) (tg:=(.n 3)) (fK (AE.p (ao 1 rfl))) (by decide) (mU (bC (AE.p (aA vA (AE.p (gK (aC (ao 1 rfl) (aC (ao 3 rfl) aP)))) (AE.p (ao 0 rfl))))) (bC (AE.p (aA vA (AE.p (gK (aC (ao 2 rfl) (aC (ao 3 rfl) aP)))) (AE.p (ao 0 rfl)))))) (ao 3 rfl))))
 (Bv 3 rfl (AE.nv (eV (K:=K) (tg:=(.n 2)) (fK (AE.p (ao 6 rfl))) (by decide) kZ (gK (aC (ao 0 rfl) (aC (ao 2 rfl) (aC (ao 1 rfl) aP))))))))
 du))
 (Nj 3 rfl (AE.w (dN (aO (AE.w (ao 1 rfl)) (aO (AE.w (ao 3 rfl)) bM)))))))) (by decide) h⟩)
abbrev gQ:Stmt:=top 12
theorem jw:bK ["first", "second"] ["first", "second"] (bh gQ):=⟨rfl,rfl,rfl,by decide +kernel,rfl,by decide +kernel,by decide +kernel⟩
theorem oG{f:Addr}{fd:FuncData}(F:pN K "refuse_unlike_names" "refuse_unlike_names" gQ f fd)(T:Txt mg)  : eF P w K mg base dX 1 f fd ["first", "second"] (pC dz) :=
 F.ok jw (fun vs H Q E h=>qY h) (fun cdv A outer s H vs Q E hr h=>by
  have nd:=jw.nd
  have hu:=fH hr
  have bW:=hr.units
  exact⟨_,(aJ (iu (bA (rW bW) (bG bj (pv 0) aF (fun _ _=>rfl)) (bG bj (pv 1) aF (fun _ _=>rfl)) (bZ _))
 (aJ Fp)
 dq)),
  _root_.A.qW (N:=["first", "second"]) (M:=Mo []) (iz (bC (AE.p (aA Jv (AE.p (aA cO (AE.p (ao 0 rfl)) (AE.p aK))) (AE.p (aA cO (AE.p (ao 1 rfl)) (AE.p aK))))))
 G9
 du) (by decide) h⟩)
abbrev rJ:Stmt:=top 11
theorem vL:bK ["first", "second"] ["first", "second"] (bh rJ):=⟨rfl,rfl,rfl,by decide +kernel,rfl,by decide +kernel,by decide +kernel⟩
theorem Fw{f:Addr}{fd:FuncData}(F:pN K "say_same" "say_same" rJ f fd)(T:Txt mg)(qT:pO P w K mg base dX 3 "ties_of" ["net"] (qU lD))(lA:pO P w K mg base dX 5 "corners_of" ["net"] (qU iB))(gV:pO P w K mg base dX 1 "refuse_unlike_names" ["first", "second"] (pC dz)):eF P w K mg base dX 6 f fd ["first", "second"] (pC fM) :=
 F.ok vL (fun vs H Q E h=>qY h) (fun cdv A outer s H vs Q E hr h=>by
  have nd:=vL.nd
  have hu:=fH hr
  have bW:=hr.units
  have yD:=hr.mono (show 3≤_ by decide)
  have rD:=hr.mono (show 5≤_ by decide)
  have oR:=hr.mono (show 1≤_ by decide)
  exact⟨_,(aD (gr (bL gV oR rfl cV (ak (pv 0) (ak (pv 1) az))))
 (aJ (bY (Ii (gA (gB bW) (bL qT yD rfl cV (ak (pv 0) az)) (bL qT yD rfl cV (ak (pv 1) az)) (bZ _)) (yf (gA (gB bW) (bL lA rD rfl cV (ak (pv 0) az)) (bL lA rD rfl cV (ak (pv 1) az)) (bZ _))))))),
  _root_.A.qW (N:=["first", "second"]) (M:=Mo []) (aM (K7 (AE.p (fW (aO (AE.w (ao 0 rfl)) (aO (AE.w (ao 1 rfl)) bM)))))
 (gj (AE.w (Rw (AE.p (aA oZ (AE.np (dN (aO (AE.w (ao 0 rfl)) bM))) (AE.np (dN (aO (AE.w (ao 1 rfl)) bM))))) (aA oZ (AE.np (dN (aO (AE.w (ao 0 rfl)) bM))) (AE.np (dN (aO (AE.w (ao 1 rfl)) bM)))))))) (by decide) h⟩)
abbrev uT:Stmt:=top 15
theorem xQ:bK ["_law_script", "_law_cells", "_law_many", "_law_way", "_law_left", "_law_draws_here", "_law_k", "_law_at", "_law_once"] ["_law_script"] (bh uT):=⟨rfl,rfl,rfl,by decide +kernel,rfl,by decide +kernel,by decide +kernel⟩
theorem Ir{f:Addr}{fd:FuncData}(F:pN K "_law_draws" "_law_draws" uT f fd)(T:Txt mg)  : eF P w K mg base dX 1 f fd ["_law_script"] (qU nG) :=
 F.ok xQ (fun vs H Q E h=>vg h) (fun cdv A outer s H vs Q E hr h=>by
  have nd:=xQ.nd
  have hu:=fH hr
  have bW:=hr.units
  exact⟨_,(aD (aZ (i:=1) nd rfl (Or.inl rfl) (aQ J3 (di jb rfl T.jd boot_list (ak (fZ Cw (pv 0) iT (gY aF)) az)) (aQ Su (dB (ak aF az)) (di Bd rfl T.G5 boot_int (ak (gA (gB bW) (bI cX rfl T.dD PySem.boot_len (ak (pv 0) az)) aF (bZ _)) az)))))
 (aD (aZ (i:=2) nd rfl (Or.inl rfl) (bI cX rfl T.dD PySem.boot_len (ak (pv 1) az)))
 (aD (aZ (i:=3) nd rfl (Or.inl rfl) (aQ cY (bG bj (pv 1) aF (fun _ _=>rfl)) aF))
 (aD (Ig (aQ cC (bG bj (pv 1) aF (fun _ _=>rfl)) aF) (O9 (pv 1) aF set_list))
 (aD (aZ (i:=4) nd rfl (Or.inl rfl) (di jb rfl T.jd boot_list (ak (pv 1) az)))
 (aD (aZ (i:=5) nd rfl (Or.inl rfl) (dB az))
 (aD (cH PassesOwn.never rfl (b8 rfl T.dM (ak aF az)) (aR (i:=6) nd rfl (Or.inl rfl))
 (aD (aZ (i:=7) nd rfl (Or.inl rfl) (aQ cY (pv 6) (pv 2)))
 (aD (aZ (i:=8) nd rfl (Or.inl rfl) (aQ cY (aQ jR (aQ bF (aQ bF (aQ cY (bG bj (pv 1) (pv 7) (fun _ _=>rfl)) aF) aF) (aQ jR (pv 6) (pv 6))) (aQ bF aF (aQ jR aF (pv 6)))) aF))
 (aJ (iu (PW.pt (pw_and (bA (gB bW) (pv 3) aF (bZ _)) (pw_and1 (bA yh (bG bj (pv 4) (pv 7) (fun _ _=>rfl)) aF (bZ _)))))
 (aD (gr (lr PySem.F.plainAttrs_list PySem.F.slot_list_append PySem.F.type_list_append f9 (pv 5) (ak (aQ cY (bG bj (pv 4) (pv 7) (fun _ _=>rfl)) aF) az)))
 (aJ (Ig (aQ cC (bG bj (pv 4) (pv 7) (fun _ _=>rfl)) aF) (O9 (pv 4) (pv 7) set_list))))
 (aJ (gr (lr PySem.F.plainAttrs_list PySem.F.slot_list_append PySem.F.type_list_append f9 (pv 5) (ak (aQ cY (aQ jR (aQ bF (aQ bF (pv 8) (aQ jR aF (pv 6))) aF) (aQ bF aF (aQ jR (aQ jR aF (pv 6)) (pv 6)))) aF) az)))))))))
 (aJ (bY (pv 5)))))))))),
  _root_.A.runN (N:=["_law_script", "_law_cells", "_law_many", "_law_way", "_law_left", "_law_draws_here", "_law_k", "_law_at", "_law_once"]) (M:=Mo [1,4,5]) (aM (iH 1 rfl (aA Zo (AE.np (gn jd (aC (AE.p (vC ur (AE.p (ao 0 rfl)) iW (ig (AE.p aK)))) aP))) (AE.np (Zu (aC aK aP) (AE.p (gn G5 (aC (AE.p (aA oZ (AE.p (gn dD (aC (AE.p (ao 0 rfl)) aP))) (AE.p aK))) aP)))))))
 (aM (bx 2 rfl (gn dD (aC (gG 1) aP)))
 (aM (bx 3 rfl (aA eZ (AE.p (aA cO (gG 1) (AE.p aK))) (AE.p aK)))
 (aM (G8 1 rfl (aA iG (AE.p (aA cO (gG 1) (AE.p aK))) (AE.p aK)) (AE.p aK))
 (aM (iH 4 rfl (gn jd (aC (gG 1) aP)))
 (aM (iH 5 rfl (gm aP))
 (aM (cL (K:=K) (tg:=(.n 6)) (cj (AE.p aK)) (by decide)
 (aM (bx 7 rfl (aA eZ (AE.p (ao 6 rfl)) (AE.p (ao 2 rfl))))
 (aM (bx 8 rfl (aA eZ (AE.p (aA nP (AE.p (aA dh (AE.p (aA dh (AE.p (aA eZ (AE.p (aA cO (gG 1) (AE.p (ao 7 rfl)))) (AE.p aK))) (AE.p aK))) (AE.p (aA nP (AE.p (ao 6 rfl)) (AE.p (ao 6 rfl)))))) (AE.p (aA dh (AE.p aK) (AE.p (aA nP (AE.p aK) (AE.p (ao 6 rfl)))))))) (AE.p aK)))
 (iz (mU (bC (AE.p (aA oZ (AE.p (ao 3 rfl)) (AE.p aK)))) (bC (AE.p (aA Rb (AE.p (aA cO (gG 4) (AE.p (ao 7 rfl)))) (AE.p aK)))))
 (aM (gP 5 rfl (aA eZ (AE.p (aA cO (gG 4) (AE.p (ao 7 rfl)))) (AE.p aK)))
 (G8 4 rfl (aA iG (AE.p (aA cO (gG 4) (AE.p (ao 7 rfl)))) (AE.p aK)) (AE.p (ao 7 rfl))))
 (gP 5 rfl (aA eZ (AE.p (aA nP (AE.p (aA dh (AE.p (aA dh (AE.p (ao 8 rfl)) (AE.p (aA nP (AE.p aK) (AE.p (ao 6 rfl)))))) (AE.p aK))) (AE.p (aA dh (AE.p aK) (AE.p (aA nP (AE.p (aA nP (AE.p aK) (AE.p (ao 6 rfl)))) (AE.p (ao 6 rfl)))))))) (AE.p aK)))))))
 (j4 5 rfl)))))))) (by decide) h⟩)
abbrev uO:Stmt:=top 16
theorem xM:bK ["_law_cell", "_law_many", "_law_letters", "_law_long", "_law_size", "_law_stem", "_law_at"] ["_law_cell", "_law_many"] (bh uO):=⟨rfl,rfl,rfl,by decide +kernel,rfl,by decide +kernel,by decide +kernel⟩
theorem Il{f:Addr}{fd:FuncData}(F:pN K "_law_words" "_law_words" uO f fd)(T:Txt mg)  : eF P w K mg base dX 1 f fd ["_law_cell", "_law_many"] (qU nC) :=
 F.ok xM (fun vs H Q E h=>vg h) (fun cdv A outer s H vs Q E hr h=>by
  have nd:=xM.nd
  have hu:=fH hr
  have bW:=hr.units
  exact⟨_,(aD (aZ (i:=2) nd rfl (Or.inr rfl) ye)
 (aD (iu (bA yg (aQ cY (pv 0) aF) aF (bZ _))
 (aD (aZ (i:=3) nd rfl (Or.inr rfl) (lr PySem.F.plainAttrs_str PySem.F.slot_str_join PySem.F.type_str_join J8 ye (ak (eY (N':=["_law_letters", "_law_cell", "_law_k"]) (ρ:=[some 2,some 0,none]) rfl (dm.of rfl (by kernel_rfl)) (b8 rfl T.dM (ak aF az)) (fun _ _ _ _ _=>(aR (i:=2) (by show (["_law_letters", "_law_cell", "_law_k"]:List Str).Nodup;decide +kernel) rfl (Or.inl rfl))) (dU rfl) (fun _ _ _ _ _=>iQ) (fun _ _ _ _ _=>(bG bj (pv 0) (aQ cY (aQ cC (pv 1) (aQ bF aF (aQ jR aF (pv 2)))) aF) (fun _ _=>rfl)))) az)))
 (aD (iu (bA (gB bW) (aQ cY (pv 0) aF) aF (bZ _))
 (aJ (bY (eY (N':=["_law_long", "_law_k"]) (ρ:=[some 3,none]) rfl (dm.of rfl (by kernel_rfl)) (b8 rfl T.dM (ak (pv 1) az)) (fun _ _ _ _ _=>(aR (i:=1) (by show (["_law_long", "_law_k"]:List Str).Nodup;decide +kernel) rfl (Or.inl rfl))) (dU rfl) (fun _ _ _ _ _=>iQ) (fun _ _ _ _ _=>(fZ Cw (pv 0) iT (gY (aQ bF (pv 1) aF)))))))
 dq)
 (aJ (bY (eY (N':=["_law_long", "_law_k"]) (ρ:=[some 3,none]) rfl (dm.of rfl (by kernel_rfl)) (b8 rfl T.dM (ak (pv 1) az)) (fun _ _ _ _ _=>(aR (i:=1) (by show (["_law_long", "_law_k"]:List Str).Nodup;decide +kernel) rfl (Or.inl rfl))) (dU rfl) (fun _ _ _ _ _=>iQ) (fun _ _ _ _ _=>(fZ Cw (pv 0) (gY (aQ uY aF (pv 1))) iT)))))))
 dq)
 (aD (aZ (i:=4) nd rfl (Or.inl rfl) (aQ cY (aQ cC (pv 0) aF) aF))
 (aD (aZ (i:=5) nd rfl (Or.inr rfl) (lr PySem.F.plainAttrs_str PySem.F.slot_str_join PySem.F.type_str_join J8 ye (ak (eY (N':=["_law_letters", "_law_cell", "_law_k"]) (ρ:=[some 2,some 0,none]) rfl (dm.of rfl (by kernel_rfl)) (b8 rfl T.dM (ak (pv 4) az)) (fun _ _ _ _ _=>(aR (i:=2) (by show (["_law_letters", "_law_cell", "_law_k"]:List Str).Nodup;decide +kernel) rfl (Or.inl rfl))) (dU rfl) (fun _ _ _ _ _=>iQ) (fun _ _ _ _ _=>(bG bj (pv 0) (aQ cY (aQ bF (aQ bF (aQ cC (pv 1) aF) (aQ jR aF (pv 2))) (aQ jR (pv 2) (pv 2))) aF) (fun _ _=>rfl)))) az)))
 (aD (aZ (i:=6) nd rfl (Or.inr rfl) (aQ cY (aQ cC (pv 0) aF) (aQ bF (pv 4) aF)))
 (aJ (bY (eY (N':=["_law_stem", "_law_letters", "_law_at", "_law_cell", "_law_k"]) (ρ:=[some 5,some 2,some 6,some 0,none]) rfl (dm.of rfl (by kernel_rfl)) (b8 rfl T.dM (ak (pv 1) az)) (fun _ _ _ _ _=>(aR (i:=4) (by show (["_law_stem", "_law_letters", "_law_at", "_law_cell", "_law_k"]:List Str).Nodup;decide +kernel) rfl (Or.inl rfl))) (dU rfl) (fun _ _ _ _ _=>iQ) (fun _ _ _ _ _=>(aQ bF (aQ bF (fZ Cw (pv 0) iT (gY (pv 2))) (bG bj (pv 1) (aQ cY (aQ bF (aQ cC (pv 3) aF) (aQ jR aF (pv 4))) aF) (fun _ _=>rfl))) (fZ Cw (pv 0) (gY (pv 2)) iT))))))))))),
  _root_.A.runN (N:=["_law_cell", "_law_many", "_law_letters", "_law_long", "_law_size", "_law_stem", "_law_at"]) (M:=Mo []) (aM (bx 2 rfl Hl)
 (aM (iz (bC (AE.p (aA Ra (AE.p (aA eZ (AE.p (ao 0 rfl)) (AE.p aK))) (AE.p aK))))
 (aM (bx 3 rfl (Rt (AE.p Hl) (AE.np (eV (K:=K) (tg:=(.n 2)) (Ny.c (cj (AE.p aK))) (by decide) kZ (aA cO (AE.p (ao 0 rfl)) (AE.p (aA eZ (AE.p (aA iG (AE.p (ao 1 rfl)) (AE.p (aA dh (AE.p aK) (AE.p (aA nP (AE.p aK) (AE.p (ao 2 rfl)))))))) (AE.p aK))))))))
 (aM (iz (bC (AE.p (aA oZ (AE.p (aA eZ (AE.p (ao 0 rfl)) (AE.p aK))) (AE.p aK))))
 (mG (AE.w (eV (K:=K) (tg:=(.n 1)) (Ny.c (cj (AE.p (ao 1 rfl)))) (by decide) kZ (vC ur (AE.p (ao 0 rfl)) iW (ig (AE.p (aA dh (AE.p (ao 1 rfl)) (AE.p aK))))))))
 du)
 (mG (AE.w (eV (K:=K) (tg:=(.n 1)) (Ny.c (cj (AE.p (ao 1 rfl)))) (by decide) kZ (vC ur (AE.p (ao 0 rfl)) (ig (AE.p (aA Bl (AE.p aK) (AE.p (ao 1 rfl))))) iW))))))
 du)
 (aM (bx 4 rfl (aA eZ (AE.p (aA iG (AE.p (ao 0 rfl)) (AE.p aK))) (AE.p aK)))
 (aM (bx 5 rfl (Rt (AE.p Hl) (AE.np (eV (K:=K) (tg:=(.n 2)) (Ny.c (cj (AE.p (ao 4 rfl)))) (by decide) kZ (aA cO (AE.p (ao 0 rfl)) (AE.p (aA eZ (AE.p (aA dh (AE.p (aA dh (AE.p (aA iG (AE.p (ao 1 rfl)) (AE.p aK))) (AE.p (aA nP (AE.p aK) (AE.p (ao 2 rfl)))))) (AE.p (aA nP (AE.p (ao 2 rfl)) (AE.p (ao 2 rfl)))))) (AE.p aK))))))))
 (aM (bx 6 rfl (aA eZ (AE.p (aA iG (AE.p (ao 0 rfl)) (AE.p aK))) (AE.p (aA dh (AE.p (ao 4 rfl)) (AE.p aK)))))
 (mG (AE.w (eV (K:=K) (tg:=(.n 4)) (Ny.c (cj (AE.p (ao 1 rfl)))) (by decide) kZ (aA dh (AE.p (aA dh (AE.p (vC ur (AE.p (ao 0 rfl)) iW (ig (AE.p (ao 2 rfl))))) (AE.p (aA cO (AE.p (ao 1 rfl)) (AE.p (aA eZ (AE.p (aA dh (AE.p (aA iG (AE.p (ao 3 rfl)) (AE.p aK))) (AE.p (aA nP (AE.p aK) (AE.p (ao 4 rfl)))))) (AE.p aK))))))) (AE.p (vC ur (AE.p (ao 0 rfl)) (ig (AE.p (ao 2 rfl))) iW))))))))))) (by decide) h⟩)
abbrev uQ:Stmt:=top 17
theorem xO:bK ["_law_draws_here", "_law_many", "_law_letters", "_law_names_here", "_law_k", "_law_rest", "_law_name", "_law_turn"] ["_law_draws_here", "_law_many"] (bh uQ):=⟨rfl,rfl,rfl,by decide +kernel,rfl,by decide +kernel,by decide +kernel⟩
theorem Io{f:Addr}{fd:FuncData}(F:pN K "_law_names" "_law_names" uQ f fd)(T:Txt mg)(vD:pO P w K mg base dX 1 "_law_words" ["_law_cell", "_law_many"] (qU nC)):eF P w K mg base dX 2 f fd ["_law_draws_here", "_law_many"] (qU nF) :=
 F.ok xO (fun vs H Q E h=>vg h) (fun cdv A outer s H vs Q E hr h=>by
  have nd:=xO.nd
  have hu:=fH hr
  have bW:=hr.units
  have Jd:=hr.mono (show 1≤_ by decide)
  exact⟨_,(aD (aZ (i:=2) nd rfl (Or.inl rfl) ye)
 (aD (aZ (i:=3) nd rfl (Or.inl rfl) (dB az))
 (aD (cH PassesOwn.never rfl (b8 rfl T.dM (ak (pv 1) az)) (aR (i:=4) nd rfl (Or.inl rfl))
 (aD (aZ (i:=5) nd rfl (Or.inl rfl) (aQ cC (bG bj (pv 0) (aQ bF aF (pv 4)) (fun _ _=>rfl)) aF))
 (aD (aZ (i:=6) nd rfl (Or.inl rfl) ye)
 (aD (cH PassesOwn.never rfl (b8 rfl T.dM (ak (aQ bF aF (aQ cY (bG bj (pv 0) (aQ bF aF (pv 4)) (fun _ _=>rfl)) aF)) az)) (aR (i:=7) nd rfl (Or.inl rfl))
 (aD (aZ (i:=6) nd rfl (Or.inl rfl) (aQ bF (pv 6) (bG bj (pv 2) (aQ cY (pv 5) aF) (fun _ _=>rfl))))
 (aJ (aZ (i:=5) nd rfl (Or.inl rfl) (aQ cC (pv 5) aF)))))
 (aJ (gr (lr PySem.F.plainAttrs_list PySem.F.slot_list_append PySem.F.type_list_append f9 (pv 3) (ak (pv 6) az))))))))
 (aD (iu (PW.pt (pw_or (bA (gB bW) (aQ cY (bG bj (pv 0) aF (fun _ _=>rfl)) aF) aF (bZ _)) (pw_or1 (bA yg (bI Nf rfl T.dD PySem.boot_len (ak (di (M8 rfl) rfl T.Zn boot_set (ak (pv 3) az)) az)) (pv 1) (bZ _)))))
 (aJ (bY (bL vD Jd rfl cV (ak (aQ cC (bG bj (pv 0) aF (fun _ _=>rfl)) aF) (ak (pv 1) az)))))
 dq)
 (aJ (bY (pv 3))))))),
  _root_.A.runN (N:=["_law_draws_here", "_law_many", "_law_letters", "_law_names_here", "_law_k", "_law_rest", "_law_name", "_law_turn"]) (M:=Mo [3]) (aM (bx 2 rfl Hl)
 (aM (iH 3 rfl (gm aP))
 (aM (cL (K:=K) (tg:=(.n 4)) (cj (AE.p (ao 1 rfl))) (by decide)
 (aM (bx 5 rfl (aA iG (AE.p (aA cO (AE.p (ao 0 rfl)) (AE.p (aA dh (AE.p aK) (AE.p (ao 4 rfl)))))) (AE.p aK)))
 (aM (bx 6 rfl Hl)
 (aM (cL (K:=K) (tg:=(.n 7)) (cj (AE.p (aA dh (AE.p aK) (AE.p (aA eZ (AE.p (aA cO (AE.p (ao 0 rfl)) (AE.p (aA dh (AE.p aK) (AE.p (ao 4 rfl)))))) (AE.p aK)))))) (by decide)
 (aM (bx 6 rfl (aA dh (AE.p (ao 6 rfl)) (AE.p (aA cO (AE.p (ao 2 rfl)) (AE.p (aA eZ (AE.p (ao 5 rfl)) (AE.p aK)))))))
 (bx 5 rfl (aA iG (AE.p (ao 5 rfl)) (AE.p aK)))))
 (gP 3 rfl (ao 6 rfl))))))
 (aM (iz (Bu (bC (AE.p (aA oZ (AE.p (aA eZ (AE.p (aA cO (AE.p (ao 0 rfl)) (AE.p aK))) (AE.p aK))) (AE.p aK)))) (bC (AE.p (aA Ra (AE.p (Rr (gG 3))) (AE.p (ao 1 rfl))))))
 (mG (AE.w (dN (aO (AE.w (aA iG (AE.p (aA cO (AE.p (ao 0 rfl)) (AE.p aK))) (AE.p aK))) (aO (AE.w (ao 1 rfl)) bM)))))
 du)
 (j4 3 rfl))))) (by decide) h⟩)
abbrev uP:Stmt:=top 18
theorem xN:bK ["_law_draw", "_law_many", "_law_left", "_law_ranks_here", "_law_k"] ["_law_draw", "_law_many"] (bh uP):=⟨rfl,rfl,rfl,by decide +kernel,rfl,by decide +kernel,by decide +kernel⟩
theorem Im{f:Addr}{fd:FuncData}(F:pN K "_law_ranks" "_law_ranks" uP f fd)(T:Txt mg)  : eF P w K mg base dX 1 f fd ["_law_draw", "_law_many"] (qU jW) :=
 F.ok xN (fun vs H Q E h=>vg h) (fun cdv A outer s H vs Q E hr h=>by
  have nd:=xN.nd
  have hu:=fH hr
  have bW:=hr.units
  exact⟨_,(aD (tR (i:=2) (N':=["_law_k"]) (ρ:=[none]) rfl nd rfl (Or.inl rfl) (dm.of rfl (by kernel_rfl)) (b8 rfl T.dM (ak (pv 1) az)) (fun _ _ _ _ _=>(aR (i:=0) (by show (["_law_k"]:List Str).Nodup;decide +kernel) rfl (Or.inl rfl))) (dU rfl) (fun _ _ _ _ _=>iQ) (fun _ _ _ _ _=>(pv 0)))
 (aD (aZ (i:=3) nd rfl (Or.inl rfl) (dB az))
 (aD (cH PassesOwn.never rfl (b8 rfl T.dM (ak (pv 1) az)) (aR (i:=4) nd rfl (Or.inl rfl))
 (aD (gr (lr PySem.F.plainAttrs_list PySem.F.slot_list_append PySem.F.type_list_append f9 (pv 3) (ak (lr PySem.F.plainAttrs_list PySem.F.slot_list_pop PySem.F.type_list_pop PL (pv 2) (ak (aQ cY (pv 0) (bI cX rfl T.dD PySem.boot_len (ak (pv 2) az))) az)) az)))
 (aJ (aZ (i:=0) nd rfl (Or.inl rfl) (aQ cC (pv 0) (aQ uY (pv 1) (pv 4)))))))
 (aJ (bY (pv 3)))))),
  _root_.A.runN (N:=["_law_draw", "_law_many", "_law_left", "_law_ranks_here", "_law_k"]) (M:=Mo [2,3]) (aM (iH 2 rfl (eV (K:=K) (tg:=(.n 0)) (Ny.c (cj (AE.p (ao 1 rfl)))) (by decide) kZ (ao 0 rfl)))
 (aM (iH 3 rfl (gm aP))
 (aM (cL (K:=K) (tg:=(.n 4)) (cj (AE.p (ao 1 rfl))) (by decide)
 (aM (Ed 3 2 (by decide) rfl rfl (AE.p (aA eZ (AE.p (ao 0 rfl)) (AE.p (gn dD (aC (gG 2) aP))))))
 (bx 0 rfl (aA iG (AE.p (ao 0 rfl)) (AE.p (aA Bl (AE.p (ao 1 rfl)) (AE.p (ao 4 rfl))))))))
 (j4 3 rfl)))) (by decide) h⟩)
abbrev CG:Stmt:=top 19
theorem Ff:bK ["_law_draws_here", "_law_least", "_law_most", "_law_many", "_law_names_here", "_law_ranks_here", "_law_thick", "_law_arrows", "_law_j", "_law_k", "_law_cell"] ["_law_draws_here", "_law_least", "_law_most"] (bh CG):=⟨rfl,rfl,rfl,by decide +kernel,rfl,by decide +kernel,by decide +kernel⟩
theorem Pk{f:Addr}{fd:FuncData}(F:pN K "_law_net" "_law_net" CG f fd)(T:Txt mg)(vG:pO P w K mg base dX 2 "_law_names" ["_law_draws_here", "_law_many"] (qU nF))(lE:pO P w K mg base dX 1 "_law_ranks" ["_law_draw", "_law_many"] (qU jW)):eF P w K mg base dX 3 f fd ["_law_draws_here", "_law_least", "_law_most"] (pC qJ) :=
 F.ok Ff (fun vs H Q E h=>qY h) (fun cdv A outer s H vs Q E hr h=>by
  have nd:=Ff.nd
  have hu:=fH hr
  have bW:=hr.units
  have Je:=hr.mono (show 2≤_ by decide)
  have rZ:=hr.mono (show 1≤_ by decide)
  exact⟨_,(aD (aZ (i:=3) nd rfl (Or.inl rfl) (aQ bF (pv 1) (aQ cY (bG bj (pv 0) aF (fun _ _=>rfl)) (aQ bF (aQ uY (pv 2) (pv 1)) aF))))
 (aD (aZ (i:=4) nd rfl (Or.inl rfl) (bL vG Je rfl cV (ak (pv 0) (ak (pv 3) az))))
 (aD (aZ (i:=5) nd rfl (Or.inl rfl) (bL lE rZ rfl cV (ak (bG bj (pv 0) aF (fun _ _=>rfl)) (ak (pv 3) az))))
 (aD (aZ (i:=6) nd rfl (Or.inl rfl) (bG bj (dB (ak aF (ak aF (ak aF (ak aF (ak aF (ak aF az))))))) (aQ cY (bG bj (pv 0) aF (fun _ _=>rfl)) aF) (fun _ _=>rfl)))
 (aD (aZ (i:=7) nd rfl (Or.inl rfl) (dB az))
 (aD (cH PassesOwn.never rfl (b8 rfl T.dM (ak (pv 3) az)) (aR (i:=8) nd rfl (Or.inl rfl))
 (aJ (cH PassesOwn.never rfl (b8 rfl T.dM (ak (pv 3) az)) (aR (i:=9) nd rfl (Or.inl rfl))
 (aD (aZ (i:=10) nd rfl (Or.inl rfl) (bG bj (pv 0) (aQ bF (aQ bF aF (aQ cC (aQ jR (bI (qO rfl) rfl T.uv boot_max (ak (pv 8) (ak (pv 9) az))) (aQ uY (bI (qO rfl) rfl T.uv boot_max (ak (pv 8) (ak (pv 9) az))) aF)) aF)) (bI (Bc rfl) rfl T.GQ boot_min (ak (pv 8) (ak (pv 9) az)))) (fun _ _=>rfl)))
 (aJ (iu (PW.pt (pw_and (bA yg (bG bj (pv 5) (pv 8) (fun _ _=>rfl)) (bG bj (pv 5) (pv 9) (fun _ _=>rfl)) (bZ _)) (pw_and1 (bA yg (aQ cY (pv 10) aF) (pv 6) (bZ _)))))
 (aJ (gr (lr PySem.F.plainAttrs_list PySem.F.slot_list_append PySem.F.type_list_append f9 (pv 7) (ak (dO (ak (bG bj (pv 4) (pv 8) (fun _ _=>rfl)) (ak (bG bj (pv 4) (pv 9) (fun _ _=>rfl)) az))) az))))
 dq))))))
 (aJ (bY (dO (ak (di jn rfl T.iD boot_tuple (ak (pv 4) az)) (ak (di jn rfl T.iD boot_tuple (ak (pv 7) az)) az))))))))))),
  _root_.A.qW (N:=["_law_draws_here", "_law_least", "_law_most", "_law_many", "_law_names_here", "_law_ranks_here", "_law_thick", "_law_arrows", "_law_j", "_law_k", "_law_cell"]) (M:=Mo [7]) (aM (bx 3 rfl (aA dh (AE.p (ao 1 rfl)) (AE.p (aA eZ (AE.p (aA cO (AE.p (ao 0 rfl)) (AE.p aK))) (AE.p (aA dh (AE.p (aA Bl (AE.p (ao 2 rfl)) (AE.p (ao 1 rfl)))) (AE.p aK)))))))
 (aM (bx 4 rfl (AE.nv (dN (aO (AE.w (ao 0 rfl)) (aO (AE.w (ao 3 rfl)) bM)))))
 (aM (bx 5 rfl (AE.nv (dN (aO (AE.w (aA cO (AE.p (ao 0 rfl)) (AE.p aK))) (aO (AE.w (ao 3 rfl)) bM)))))
 (aM (bx 6 rfl (aA cO (AE.np (gm (aC aK (aC aK (aC aK (aC aK (aC aK (aC aK aP)))))))) (AE.p (aA eZ (AE.p (aA cO (AE.p (ao 0 rfl)) (AE.p aK))) (AE.p aK)))))
 (aM (iH 7 rfl (gm aP))
 (aM (cL (K:=K) (tg:=(.n 8)) (cj (AE.p (ao 3 rfl))) (by decide)
 (cL (K:=K) (tg:=(.n 9)) (cj (AE.p (ao 3 rfl))) (by decide)
 (aM (bx 10 rfl (aA cO (AE.p (ao 0 rfl)) (AE.p (aA dh (AE.p (aA dh (AE.p aK) (AE.p (aA iG (AE.p (aA nP (AE.p (gn uv (aC (AE.p (ao 8 rfl)) (aC (AE.p (ao 9 rfl)) aP)))) (AE.p (aA Bl (AE.p (gn uv (aC (AE.p (ao 8 rfl)) (aC (AE.p (ao 9 rfl)) aP)))) (AE.p aK))))) (AE.p aK))))) (AE.p (gn GQ (aC (AE.p (ao 8 rfl)) (aC (AE.p (ao 9 rfl)) aP))))))))
 (iz (mU (bC (AE.p (aA Ra (AE.p (aA cO (AE.p (ao 5 rfl)) (AE.p (ao 8 rfl)))) (AE.p (aA cO (AE.p (ao 5 rfl)) (AE.p (ao 9 rfl))))))) (bC (AE.p (aA Ra (AE.p (aA eZ (AE.p (ao 10 rfl)) (AE.p aK))) (AE.p (ao 6 rfl))))))
 (gP 7 rfl (gK (aC (aA cO (AE.p (ao 4 rfl)) (AE.p (ao 8 rfl))) (aC (aA cO (AE.p (ao 4 rfl)) (AE.p (ao 9 rfl))) aP))))
 du))))
 (gj (AE.w (gK (aC (gn iD (aC (AE.p (ao 4 rfl)) aP)) (aC (gn iD (aC (gG 7) aP)) aP))))))))))) (by decide) h⟩)
abbrev CJ:Stmt:=top 20
theorem Fg:bK ["_law_names_here", "_law_draw", "_law_many", "_law_ranks_here", "_law_k", "_law_arrows", "_law_j", "_law_at"] ["_law_names_here", "_law_draw"] (bh CJ):=⟨rfl,rfl,rfl,by decide +kernel,rfl,by decide +kernel,by decide +kernel⟩
theorem Pn{f:Addr}{fd:FuncData}(F:pN K "_law_any" "_law_any" CJ f fd)(T:Txt mg)(lE:pO P w K mg base dX 1 "_law_ranks" ["_law_draw", "_law_many"] (qU jW)):eF P w K mg base dX 2 f fd ["_law_names_here", "_law_draw"] (pC qK) :=
 F.ok Fg (fun vs H Q E h=>qY h) (fun cdv A outer s H vs Q E hr h=>by
  have nd:=Fg.nd
  have hu:=fH hr
  have bW:=hr.units
  have rZ:=hr.mono (show 1≤_ by decide)
  exact⟨_,(aD (aZ (i:=2) nd rfl (Or.inl rfl) (bI cX rfl T.dD PySem.boot_len (ak (pv 0) az)))
 (aD (aZ (i:=3) nd rfl (Or.inl rfl) (bL lE rZ rfl cV (ak (pv 1) (ak (pv 2) az))))
 (aD (cH PassesOwn.never rfl (b8 rfl T.dM (ak (pv 2) az)) (aR (i:=4) nd rfl (Or.inl rfl))
 (aJ (aZ (i:=1) nd rfl (Or.inl rfl) (aQ cC (pv 1) (aQ uY (pv 2) (pv 4))))))
 (aD (aZ (i:=5) nd rfl (Or.inl rfl) (dB az))
 (aD (cH PassesOwn.never rfl (b8 rfl T.dM (ak (pv 2) az)) (aR (i:=6) nd rfl (Or.inl rfl))
 (aJ (cH PassesOwn.never rfl (b8 rfl T.dM (ak (pv 2) az)) (aR (i:=4) nd rfl (Or.inl rfl))
 (aD (aZ (i:=7) nd rfl (Or.inl rfl) (aQ bF (aQ cC (aQ jR (bI (qO rfl) rfl T.uv boot_max (ak (pv 6) (ak (pv 4) az))) (aQ uY (bI (qO rfl) rfl T.uv boot_max (ak (pv 6) (ak (pv 4) az))) aF)) aF) (bI (Bc rfl) rfl T.GQ boot_min (ak (pv 6) (ak (pv 4) az)))))
 (aJ (iu (PW.pt (pw_and (bA yg (bG bj (pv 3) (pv 6) (fun _ _=>rfl)) (bG bj (pv 3) (pv 4) (fun _ _=>rfl)) (bZ _)) (pw_and1 (bA (gB bW) (aQ cY (aQ cC (pv 1) (aQ Wb aF (pv 7))) aF) aF (bZ _)))))
 (aJ (gr (lr PySem.F.plainAttrs_list PySem.F.slot_list_append PySem.F.type_list_append f9 (pv 5) (ak (dO (ak (bG bj (pv 0) (pv 6) (fun _ _=>rfl)) (ak (bG bj (pv 0) (pv 4) (fun _ _=>rfl)) az))) az))))
 dq))))))
 (aJ (bY (dO (ak (di jn rfl T.iD boot_tuple (ak (pv 0) az)) (ak (di jn rfl T.iD boot_tuple (ak (pv 5) az)) az)))))))))),
  _root_.A.qW (N:=["_law_names_here", "_law_draw", "_law_many", "_law_ranks_here", "_law_k", "_law_arrows", "_law_j", "_law_at"]) (M:=Mo [5]) (aM (bx 2 rfl (gn dD (aC (AE.p (ao 0 rfl)) aP)))
 (aM (bx 3 rfl (AE.nv (dN (aO (AE.w (ao 1 rfl)) (aO (AE.w (ao 2 rfl)) bM)))))
 (aM (cL (K:=K) (tg:=(.n 4)) (cj (AE.p (ao 2 rfl))) (by decide)
 (bx 1 rfl (aA iG (AE.p (ao 1 rfl)) (AE.p (aA Bl (AE.p (ao 2 rfl)) (AE.p (ao 4 rfl)))))))
 (aM (iH 5 rfl (gm aP))
 (aM (cL (K:=K) (tg:=(.n 6)) (cj (AE.p (ao 2 rfl))) (by decide)
 (cL (K:=K) (tg:=(.n 4)) (cj (AE.p (ao 2 rfl))) (by decide)
 (aM (bx 7 rfl (aA dh (AE.p (aA iG (AE.p (aA nP (AE.p (gn uv (aC (AE.p (ao 6 rfl)) (aC (AE.p (ao 4 rfl)) aP)))) (AE.p (aA Bl (AE.p (gn uv (aC (AE.p (ao 6 rfl)) (aC (AE.p (ao 4 rfl)) aP)))) (AE.p aK))))) (AE.p aK))) (AE.p (gn GQ (aC (AE.p (ao 6 rfl)) (aC (AE.p (ao 4 rfl)) aP))))))
 (iz (mU (bC (AE.p (aA Ra (AE.p (aA cO (AE.p (ao 3 rfl)) (AE.p (ao 6 rfl)))) (AE.p (aA cO (AE.p (ao 3 rfl)) (AE.p (ao 4 rfl))))))) (bC (AE.p (aA oZ (AE.p (aA eZ (AE.p (aA iG (AE.p (ao 1 rfl)) (AE.p (aA Zm (AE.p aK) (AE.p (ao 7 rfl)))))) (AE.p aK))) (AE.p aK)))))
 (gP 5 rfl (gK (aC (aA cO (AE.p (ao 0 rfl)) (AE.p (ao 6 rfl))) (aC (aA cO (AE.p (ao 0 rfl)) (AE.p (ao 4 rfl))) aP))))
 du))))
 (gj (AE.w (gK (aC (gn iD (aC (AE.p (ao 0 rfl)) aP)) (aC (gn iD (aC (gG 5) aP)) aP)))))))))) (by decide) h⟩)
abbrev rP:Stmt:=top 21
theorem vQ:bK ["_law_arrows", "_law_name"] ["_law_arrows", "_law_name"] (bh rP):=⟨rfl,rfl,rfl,by decide +kernel,rfl,by decide +kernel,by decide +kernel⟩
theorem FN{f:Addr}{fd:FuncData}(F:pN K "_law_elders" "_law_elders" rP f fd)(T:Txt mg)  : eF P w K mg base dX 1 f fd ["_law_arrows", "_law_name"] (qU fO) :=
 F.ok vQ (fun vs H Q E h=>vg h) (fun cdv A outer s H vs Q E hr h=>by
  have nd:=vQ.nd
  have hu:=fH hr
  have bW:=hr.units
  exact⟨_,(aJ (bY (eY (N':=["_law_name", "_law_tail", "_law_head"]) (ρ:=[some 1,none,none]) rfl (dm.of rfl (by kernel_rfl)) (cJ (pv 0)) (fun _ _ _ _ _=>(lM rfl (cA (aR (i:=1) (by show (["_law_name", "_law_tail", "_law_head"]:List Str).Nodup;decide +kernel) rfl (Or.inl rfl)) (cA (aR (i:=2) (by show (["_law_name", "_law_tail", "_law_head"]:List Str).Nodup;decide +kernel) rfl (Or.inl rfl)) jz)))) (Dy (km rfl (km rfl Dz qu) (wU qu))) (fun _ _ _ _ _=>(jy (bA (gB bW) (pv 2) (pv 0) (bZ _)))) (fun _ _ _ _ _=>(pv 1))))),
  _root_.A.runN (N:=["_law_arrows", "_law_name"]) (M:=Mo []) (mG (AE.w (eV (K:=K) (tg:=(.t [1,2])) (fK (AE.p (ao 0 rfl))) (by decide) (bC (AE.p (aA oZ (AE.p (ao 2 rfl)) (AE.p (ao 0 rfl))))) (ao 1 rfl)))) (by decide) h⟩)
abbrev qe:Stmt:=top 22
theorem tL:bK ["_law_arrows", "_law_found", "_law_tail", "_law_head"] ["_law_arrows"] (bh qe):=⟨rfl,rfl,rfl,by decide +kernel,rfl,by decide +kernel,by decide +kernel⟩
theorem CZ{f:Addr}{fd:FuncData}(F:pN K "_law_covered" "_law_covered" qe f fd)(T:Txt mg)(pB:pO P w K mg base dX 1 "_law_elders" ["_law_arrows", "_law_name"] (qU fO)):eF P w K mg base dX 2 f fd ["_law_arrows"] (qU iy) :=
 F.ok tL (fun vs H Q E h=>vg h) (fun cdv A outer s H vs Q E hr h=>by
  have nd:=tL.nd
  have hu:=fH hr
  have bW:=hr.units
  have vY:=hr.mono (show 1≤_ by decide)
  exact⟨_,(aD (aZ (i:=1) nd rfl (Or.inl rfl) (dB az))
 (aD (cH PassesOwn.never rfl (cJ (pv 0)) (lM rfl (cA (aR (i:=2) nd rfl (Or.inl rfl)) (cA (aR (i:=3) nd rfl (Or.inl rfl)) jz)))
 (aJ (iu (bA (gB bW) (bI yP rfl T.yR boot_sorted (ak (bL pB vY rfl cV (ak (pv 0) (ak (pv 3) az))) az)) (bI yP rfl T.yR boot_sorted (ak (aQ bF (bL pB vY rfl cV (ak (pv 0) (ak (pv 2) az))) (dB (ak (pv 2) az))) az)) (bZ _))
 (aJ (gr (lr PySem.F.plainAttrs_list PySem.F.slot_list_append PySem.F.type_list_append f9 (pv 1) (ak (dO (ak (pv 2) (ak (pv 3) az))) az))))
 dq)))
 (aJ (bY (pv 1))))),
  _root_.A.runN (N:=["_law_arrows", "_law_found", "_law_tail", "_law_head"]) (M:=Mo [1]) (aM (iH 1 rfl (gm aP))
 (aM (cL (K:=K) (tg:=(.t [2,3])) (jf (ao 0 rfl)) (by decide)
 (iz (bC (AE.p (aA oZ (AE.np (gn K1 (aC (AE.np (dN (aO (AE.w (ao 0 rfl)) (aO (AE.w (ao 3 rfl)) bM)))) aP))) (AE.np (gn K1 (aC (AE.p (aA dh (AE.np (dN (aO (AE.w (ao 0 rfl)) (aO (AE.w (ao 2 rfl)) bM)))) (AE.np (gm (aC (ao 2 rfl) aP))))) aP))))))
 (gP 1 rfl (gK (aC (ao 2 rfl) (aC (ao 3 rfl) aP))))
 du))
 (j4 1 rfl))) (by decide) h⟩)
abbrev qb:Stmt:=top 23
theorem tK:bK ["_law_arrows", "_law_arrow"] ["_law_arrows", "_law_arrow"] (bh qb):=⟨rfl,rfl,rfl,by decide +kernel,rfl,by decide +kernel,by decide +kernel⟩
theorem CW{f:Addr}{fd:FuncData}(F:pN K "_law_flipped" "_law_flipped" qb f fd)(T:Txt mg)  : eF P w K mg base dX 1 f fd ["_law_arrows", "_law_arrow"] (qU gq) :=
 F.ok tK (fun vs H Q E h=>vg h) (fun cdv A outer s H vs Q E hr h=>by
  have nd:=tK.nd
  have hu:=fH hr
  have bW:=hr.units
  exact⟨_,(aJ (bY (eY (N':=["_law_arrow", "_law_one"]) (ρ:=[some 1,none]) rfl (dm.of rfl (by kernel_rfl)) (cJ (pv 0)) (fun _ _ _ _ _=>(aR (i:=1) (by show (["_law_arrow", "_law_one"]:List Str).Nodup;decide +kernel) rfl (Or.inl rfl))) (dU rfl) (fun _ _ _ _ _=>iQ) (fun _ _ _ _ _=>(bG bj (dB (ak (pv 1) (ak (dO (ak (bG bj (pv 1) aF (fun _ _=>rfl)) (ak (bG bj (pv 1) aF (fun _ _=>rfl)) az))) az))) (di Bd rfl T.G5 boot_int (ak (gA (gB bW) (pv 1) (pv 0) (bZ _)) az)) (fun _ _=>rfl)))))),
  _root_.A.runN (N:=["_law_arrows", "_law_arrow"]) (M:=Mo []) (mG (AE.w (eV (K:=K) (tg:=(.n 1)) (fK (AE.p (ao 0 rfl))) (by decide) kZ (aA cO (AE.np (gm (aC (ao 1 rfl) (aC (gK (aC (aA cO (AE.p (ao 1 rfl)) (AE.p aK)) (aC (aA cO (AE.p (ao 1 rfl)) (AE.p aK)) aP))) aP)))) (AE.p (gn G5 (aC (AE.p (aA oZ (AE.p (ao 1 rfl)) (AE.p (ao 0 rfl)))) aP))))))) (by decide) h⟩)
abbrev kW:Stmt:=top 24
theorem m9:bK ["_law_names_here", "_law_arrows", "_law_left", "_law_turn", "_law_heads"] ["_law_names_here", "_law_arrows"] (bh kW):=⟨rfl,rfl,rfl,by decide +kernel,rfl,by decide +kernel,by decide +kernel⟩
theorem uZ{f:Addr}{fd:FuncData}(F:pN K "_law_comes_round" "_law_comes_round" kW f fd)(T:Txt mg)  : eF P w K mg base dX 1 f fd ["_law_names_here", "_law_arrows"] (pC dj) :=
 F.ok m9 (fun vs H Q E h=>qY h) (fun cdv A outer s H vs Q E hr h=>by
  have nd:=m9.nd
  have hu:=fH hr
  have bW:=hr.units
  exact⟨_,(aD (aZ (i:=2) nd rfl (Or.inr rfl) (di jb rfl T.jd boot_list (ak (pv 0) az)))
 (aD (cH PassesOwn.never rfl (b8 rfl T.dM (ak (bI cX rfl T.dD PySem.boot_len (ak (pv 0) az)) az)) (aR (i:=3) nd rfl (Or.inl rfl))
 (aD (aZ (i:=4) nd rfl (Or.inr rfl) (eY (N':=["_law_left", "_law_tail", "_law_head"]) (ρ:=[some 2,none,none]) rfl (dm.of rfl (by kernel_rfl)) (cJ (pv 1)) (fun _ _ _ _ _=>(lM rfl (cA (aR (i:=1) (by show (["_law_left", "_law_tail", "_law_head"]:List Str).Nodup;decide +kernel) rfl (Or.inl rfl)) (cA (aR (i:=2) (by show (["_law_left", "_law_tail", "_law_head"]:List Str).Nodup;decide +kernel) rfl (Or.inl rfl)) jz)))) (Dy (km rfl (km rfl Dz qu) (wU qu))) (fun _ _ _ _ _=>(jy (bA (jT bW) (pv 1) (pv 0) rfl))) (fun _ _ _ _ _=>(pv 2))))
 (aJ (aZ (i:=2) nd rfl (Or.inr rfl) (eY (N':=["_law_heads", "_law_name"]) (ρ:=[some 4,none]) rfl (dm.of rfl (by kernel_rfl)) (cJ (pv 2)) (fun _ _ _ _ _=>(aR (i:=1) (by show (["_law_heads", "_law_name"]:List Str).Nodup;decide +kernel) rfl (Or.inl rfl))) (dU rfl) (fun _ _ _ _ _=>(jy (bA (jT bW) (pv 1) (pv 0) rfl))) (fun _ _ _ _ _=>(pv 1)))))))
 (aJ (bY (gA yh (bI cX rfl T.dD PySem.boot_len (ak (pv 2) az)) aF (bZ _)))))),
  _root_.A.qW (N:=["_law_names_here", "_law_arrows", "_law_left", "_law_turn", "_law_heads"]) (M:=Mo []) (aM (bx 2 rfl (AE.nv (gn jd (aC (AE.p (ao 0 rfl)) aP))))
 (aM (cL (K:=K) (tg:=(.n 3)) (cj (AE.p (gn dD (aC (AE.p (ao 0 rfl)) aP)))) (by decide)
 (aM (bx 4 rfl (AE.nv (eV (K:=K) (tg:=(.t [1,2])) (fK (AE.p (ao 1 rfl))) (by decide) (bC (AE.p (aA vA (AE.p (ao 1 rfl)) (AE.p (ao 0 rfl))))) (ao 2 rfl))))
 (bx 2 rfl (AE.nv (eV (K:=K) (tg:=(.n 1)) (fK (AE.p (ao 2 rfl))) (by decide) (bC (AE.p (aA vA (AE.p (ao 1 rfl)) (AE.p (ao 0 rfl))))) (ao 1 rfl))))))
 (gj (AE.w (aA Rb (AE.p (gn dD (aC (AE.p (ao 2 rfl)) aP))) (AE.p aK)))))) (by decide) h⟩)
abbrev pZ:Stmt:=top 25
theorem tH:bK ["_law_names_here", "_law_arrows", "_law_cell", "_law_pairs", "_law_one", "_law_other", "_law_at", "_law_turned"] ["_law_names_here", "_law_arrows", "_law_cell"] (bh pZ):=⟨rfl,rfl,rfl,by decide +kernel,rfl,by decide +kernel,by decide +kernel⟩
theorem CV{f:Addr}{fd:FuncData}(F:pN K "_law_spoiled" "_law_spoiled" pZ f fd)(T:Txt mg)(jr:pO P w K mg base dX 1 "_law_flipped" ["_law_arrows", "_law_arrow"] (qU gq))(iY:pO P w K mg base dX 1 "_law_comes_round" ["_law_names_here", "_law_arrows"] (pC dj)):eF P w K mg base dX 2 f fd ["_law_names_here", "_law_arrows", "_law_cell"] (pC ji) :=
 F.ok tH (fun vs H Q E h=>qY h) (fun cdv A outer s H vs Q E hr h=>by
  have nd:=tH.nd
  have hu:=fH hr
  have bW:=hr.units
  have oU:=hr.mono (show 1≤_ by decide)
  have nM:=hr.mono (show 1≤_ by decide)
  exact⟨_,(aD (iu (PW.pt (pw_or (bA (gB bW) (aQ cY (pv 2) aF) aF (bZ _)) (pw_or1 (bA (gB bW) (bI cX rfl T.dD PySem.boot_len (ak (pv 1) az)) aF (bZ _)))))
 (aD (aZ (i:=3) nd rfl (Or.inl rfl) (dB az))
 (aD (cH PassesOwn.never rfl (cJ (pv 0)) (aR (i:=4) nd rfl (Or.inl rfl))
 (aJ (cH PassesOwn.never rfl (cJ (pv 0)) (aR (i:=5) nd rfl (Or.inl rfl))
 (aJ (iu (PW.pt (pw_and (bA (rW bW) (pv 4) (pv 5) (bZ _)) (pw_and (bA (jQ bW) (dO (ak (pv 4) (ak (pv 5) az))) (pv 1) rfl) (pw_and1 (bA (jQ bW) (dO (ak (pv 5) (ak (pv 4) az))) (pv 1) rfl)))))
 (aJ (gr (lr PySem.F.plainAttrs_list PySem.F.slot_list_append PySem.F.type_list_append f9 (pv 3) (ak (dO (ak (pv 4) (ak (pv 5) az))) az))))
 dq)))))
 (aD (tR (i:=3) (N':=["_law_names_here", "_law_arrows", "_law_pair"]) (ρ:=[some 0,some 1,none]) rfl nd rfl (Or.inl rfl) (dm.of rfl (by kernel_rfl)) (cJ (pv 3)) (fun _ _ _ _ _=>(aR (i:=2) (by show (["_law_names_here", "_law_arrows", "_law_pair"]:List Str).Nodup;decide +kernel) rfl (Or.inl rfl))) (dU rfl) (fun _ _ _ _ _=>(jy (xY (qi (bL iY nM rfl cV (ak (pv 0) (ak (aQ bF (pv 1) (dB (ak (pv 2) az))) az))))))) (fun _ _ _ _ _=>(pv 2)))
 (aD (iu (bA yh (bI cX rfl T.dD PySem.boot_len (ak (pv 3) az)) aF (bZ _))
 (aJ (bY (aQ bF (pv 1) (dB (ak (bG bj (pv 3) (aQ cY (aQ cC (pv 2) aF) (bI cX rfl T.dD PySem.boot_len (ak (pv 3) az))) (fun _ _=>rfl)) az)))))
 dq)
 (aJ (bY (fZ Cw (pv 1) (gY aF) iT)))))))
 dq)
 (aD (aZ (i:=6) nd rfl (Or.inl rfl) (aQ cY (aQ cC (pv 2) aF) (bI cX rfl T.dD PySem.boot_len (ak (pv 1) az))))
 (aD (aZ (i:=7) nd rfl (Or.inl rfl) (bL jr oU rfl cV (ak (pv 1) (ak (bG bj (pv 1) (pv 6) (fun _ _=>rfl)) az))))
 (aD (iu (PW.pt (pw_or (bA (gB bW) (aQ cY (pv 2) aF) aF (bZ _)) (pw_or1 (qi (bL iY nM rfl cV (ak (pv 0) (ak (pv 7) az)))))))
 (aJ (bY (aQ bF (fZ Cw (pv 1) iT (gY (pv 6))) (fZ Cw (pv 1) (gY (aQ bF (pv 6) aF)) iT))))
 dq)
 (aJ (bY (pv 7))))))),
  _root_.A.qW (N:=["_law_names_here", "_law_arrows", "_law_cell", "_law_pairs", "_law_one", "_law_other", "_law_at", "_law_turned"]) (M:=Mo [3]) (aM (iz (Bu (bC (AE.p (aA oZ (AE.p (aA eZ (AE.p (ao 2 rfl)) (AE.p aK))) (AE.p aK)))) (bC (AE.p (aA oZ (AE.p (gn dD (aC (AE.p (ao 1 rfl)) aP))) (AE.p aK)))))
 (aM (iH 3 rfl (gm aP))
 (aM (cL (K:=K) (tg:=(.n 4)) (jf (ao 0 rfl)) (by decide)
 (cL (K:=K) (tg:=(.n 5)) (jf (ao 0 rfl)) (by decide)
 (iz (mU (bC (AE.p (aA Jv (AE.p (ao 4 rfl)) (AE.p (ao 5 rfl))))) (mU (bC (AE.p (aA oY (AE.p (gK (aC (ao 4 rfl) (aC (ao 5 rfl) aP)))) (AE.p (ao 1 rfl))))) (bC (AE.p (aA oY (AE.p (gK (aC (ao 5 rfl) (aC (ao 4 rfl) aP)))) (AE.p (ao 1 rfl)))))))
 (gP 3 rfl (gK (aC (ao 4 rfl) (aC (ao 5 rfl) aP))))
 du)))
 (aM (iH 3 rfl (eV (K:=K) (tg:=(.n 2)) (fK (gG 3)) (by decide) (za (Eb (AE.p (fW (aO (AE.w (ao 0 rfl)) (aO (AE.w (aA dh (AE.p (ao 1 rfl)) (AE.np (gm (aC (ao 2 rfl) aP))))) bM)))))) (ao 2 rfl)))
 (aM (iz (bC (AE.p (aA Rb (AE.p (gn dD (aC (gG 3) aP))) (AE.p aK))))
 (gj (AE.w (aA dh (AE.p (ao 1 rfl)) (AE.np (gm (aC (aA cO (gG 3) (AE.p (aA eZ (AE.p (aA iG (AE.p (ao 2 rfl)) (AE.p aK))) (AE.p (gn dD (aC (gG 3) aP)))))) aP))))))
 du)
 (gj (AE.w (vC ur (AE.p (ao 1 rfl)) (ig (AE.p aK)) iW)))))))
 du)
 (aM (bx 6 rfl (aA eZ (AE.p (aA iG (AE.p (ao 2 rfl)) (AE.p aK))) (AE.p (gn dD (aC (AE.p (ao 1 rfl)) aP)))))
 (aM (bx 7 rfl (AE.nv (dN (aO (AE.w (ao 1 rfl)) (aO (AE.w (aA cO (AE.p (ao 1 rfl)) (AE.p (ao 6 rfl)))) bM)))))
 (aM (iz (Bu (bC (AE.p (aA oZ (AE.p (aA eZ (AE.p (ao 2 rfl)) (AE.p aK))) (AE.p aK)))) (Eb (AE.p (fW (aO (AE.w (ao 0 rfl)) (aO (AE.w (ao 7 rfl)) bM))))))
 (gj (AE.w (aA dh (AE.p (vC ur (AE.p (ao 1 rfl)) iW (ig (AE.p (ao 6 rfl))))) (AE.p (vC ur (AE.p (ao 1 rfl)) (ig (AE.p (aA dh (AE.p (ao 6 rfl)) (AE.p aK)))) iW)))))
 du)
 (gj (AE.w (ao 7 rfl))))))) (by decide) h⟩)
abbrev rM:Stmt:=top 26
theorem vN:bK ["_law_names_here", "_law_arrows", "_law_told", "_law_tail", "_law_head"] ["_law_names_here", "_law_arrows"] (bh rM):=⟨rfl,rfl,rfl,by decide +kernel,rfl,by decide +kernel,by decide +kernel⟩
theorem Fy{f:Addr}{fd:FuncData}(F:pN K "_law_sorted" "_law_sorted" rM f fd)(T:Txt mg)  : eF P w K mg base dX 1 f fd ["_law_names_here", "_law_arrows"] (pC lN) :=
 F.ok vN (fun vs H Q E h=>qY h) (fun cdv A outer s H vs Q E hr h=>by
  have nd:=vN.nd
  have hu:=fH hr
  have bW:=hr.units
  exact⟨_,(aD (aZ (i:=2) nd rfl (Or.inl rfl) (dB az))
 (aD (cH PassesOwn.never rfl (cJ (pv 0)) (aR (i:=3) nd rfl (Or.inl rfl))
 (aJ (cH PassesOwn.never rfl (cJ (pv 0)) (aR (i:=4) nd rfl (Or.inl rfl))
 (aJ (iu (bA (jT bW) (dO (ak (pv 3) (ak (pv 4) az))) (pv 1) rfl)
 (aJ (gr (lr PySem.F.plainAttrs_list PySem.F.slot_list_append PySem.F.type_list_append f9 (pv 2) (ak (dO (ak (pv 3) (ak (pv 4) az))) az))))
 dq)))))
 (aJ (bY (dO (ak (di jn rfl T.iD boot_tuple (ak (pv 0) az)) (ak (di jn rfl T.iD boot_tuple (ak (pv 2) az)) az))))))),
  _root_.A.qW (N:=["_law_names_here", "_law_arrows", "_law_told", "_law_tail", "_law_head"]) (M:=Mo [2]) (aM (iH 2 rfl (gm aP))
 (aM (cL (K:=K) (tg:=(.n 3)) (jf (ao 0 rfl)) (by decide)
 (cL (K:=K) (tg:=(.n 4)) (jf (ao 0 rfl)) (by decide)
 (iz (bC (AE.p (aA vA (AE.p (gK (aC (ao 3 rfl) (aC (ao 4 rfl) aP)))) (AE.p (ao 1 rfl)))))
 (gP 2 rfl (gK (aC (ao 3 rfl) (aC (ao 4 rfl) aP))))
 du)))
 (gj (AE.w (gK (aC (gn iD (aC (AE.p (ao 0 rfl)) aP)) (aC (gn iD (aC (gG 2) aP)) aP))))))) (by decide) h⟩)
abbrev rN:Stmt:=top 27
theorem vO:bK ["_law_net_here", "_law_draw", "_law_arrows", "_law_turns", "_law_bent", "_law_k", "_law_some"] ["_law_net_here", "_law_draw"] (bh rN):=⟨rfl,rfl,rfl,by decide +kernel,rfl,by decide +kernel,by decide +kernel⟩
theorem Fz{f:Addr}{fd:FuncData}(F:pN K "_law_second" "_law_second" rN f fd)(T:Txt mg)(El:pO P w K mg base dX 2 "_law_any" ["_law_names_here", "_law_draw"] (pC qK))(qH:pO P w K mg base dX 2 "_law_covered" ["_law_arrows"] (qU iy))(jr:pO P w K mg base dX 1 "_law_flipped" ["_law_arrows", "_law_arrow"] (qU gq))(qG:pO P w K mg base dX 2 "_law_spoiled" ["_law_names_here", "_law_arrows", "_law_cell"] (pC ji))(sU:pO P w K mg base dX 1 "_law_sorted" ["_law_names_here", "_law_arrows"] (pC lN)):eF P w K mg base dX 3 f fd ["_law_net_here", "_law_draw"] (pC gD) :=
 F.ok vO (fun vs H Q E h=>qY h) (fun cdv A outer s H vs Q E hr h=>by
  have nd:=vO.nd
  have hu:=fH hr
  have bW:=hr.units
  have Qq:=hr.mono (show 2≤_ by decide)
  have Dw:=hr.mono (show 2≤_ by decide)
  have oU:=hr.mono (show 1≤_ by decide)
  have Dv:=hr.mono (show 2≤_ by decide)
  have Gk:=hr.mono (show 1≤_ by decide)
  exact⟨_,(aD (iu (bA (gB bW) (aQ cY (pv 1) aF) aF (bZ _))
 (aJ (bY (bL El Qq rfl cV (ak (di jb rfl T.jd boot_list (ak (bG bj (pv 0) aF (fun _ _=>rfl)) az)) (ak (aQ cC (pv 1) aF) az)))))
 dq)
 (aD (aZ (i:=2) nd rfl (Or.inl rfl) (di jb rfl T.jd boot_list (ak (bG bj (pv 0) aF (fun _ _=>rfl)) az)))
 (aD (aZ (i:=3) nd rfl (Or.inl rfl) (aQ cY (aQ cC (pv 1) aF) aF))
 (aD (aZ (i:=4) nd rfl (Or.inl rfl) (aQ cY (aQ cC (pv 1) aF) aF))
 (aD (aZ (i:=1) nd rfl (Or.inl rfl) (aQ cC (pv 1) aF))
 (aD (cH PassesOwn.never rfl (b8 rfl T.dM (ak (pv 3) az)) (aR (i:=5) nd rfl (Or.inl rfl))
 (aD (aZ (i:=6) nd rfl (Or.inl rfl) (bL qH Dw rfl cV (ak (pv 2) az)))
 (aJ (iu (bA yh (bI cX rfl T.dD PySem.boot_len (ak (pv 6) az)) aF (bZ _))
 (aD (aZ (i:=2) nd rfl (Or.inl rfl) (bL jr oU rfl cV (ak (pv 2) (ak (bG bj (pv 6) (aQ cY (pv 1) (bI cX rfl T.dD PySem.boot_len (ak (pv 6) az))) (fun _ _=>rfl)) az))))
 (aJ (aZ (i:=1) nd rfl (Or.inl rfl) (aQ cC (pv 1) (bI cX rfl T.dD PySem.boot_len (ak (pv 6) az))))))
 dq))))
 (aD (iu (bA (gB bW) (pv 4) aF (bZ _))
 (aJ (aZ (i:=2) nd rfl (Or.inl rfl) (bL qG Dv rfl cV (ak (bG bj (pv 0) aF (fun _ _=>rfl)) (ak (pv 2) (ak (pv 1) az))))))
 dq)
 (aJ (bY (bL sU Gk rfl cV (ak (bG bj (pv 0) aF (fun _ _=>rfl)) (ak (pv 2) az)))))))))))),
  _root_.A.qW (N:=["_law_net_here", "_law_draw", "_law_arrows", "_law_turns", "_law_bent", "_law_k", "_law_some"]) (M:=Mo []) (aM (iz (bC (AE.p (aA oZ (AE.p (aA eZ (AE.p (ao 1 rfl)) (AE.p aK))) (AE.p aK))))
 (gj (AE.w (fW (aO (AW.nv (AE.w (gn jd (aC (AE.p (aA cO (AE.p (ao 0 rfl)) (AE.p aK))) aP)))) (aO (AE.w (aA iG (AE.p (ao 1 rfl)) (AE.p aK))) bM)))))
 du)
 (aM (bx 2 rfl (AE.nv (gn jd (aC (AE.p (aA cO (AE.p (ao 0 rfl)) (AE.p aK))) aP))))
 (aM (bx 3 rfl (aA eZ (AE.p (aA iG (AE.p (ao 1 rfl)) (AE.p aK))) (AE.p aK)))
 (aM (bx 4 rfl (aA eZ (AE.p (aA iG (AE.p (ao 1 rfl)) (AE.p aK))) (AE.p aK)))
 (aM (bx 1 rfl (aA iG (AE.p (ao 1 rfl)) (AE.p aK)))
 (aM (cL (K:=K) (tg:=(.n 5)) (cj (AE.p (ao 3 rfl))) (by decide)
 (aM (bx 6 rfl (AE.nv (dN (aO (AE.w (ao 2 rfl)) bM))))
 (iz (bC (AE.p (aA Rb (AE.p (gn dD (aC (AE.p (ao 6 rfl)) aP))) (AE.p aK))))
 (aM (bx 2 rfl (AE.nv (dN (aO (AE.w (ao 2 rfl)) (aO (AE.w (aA cO (AE.p (ao 6 rfl)) (AE.p (aA eZ (AE.p (ao 1 rfl)) (AE.p (gn dD (aC (AE.p (ao 6 rfl)) aP))))))) bM)))))
 (bx 1 rfl (aA iG (AE.p (ao 1 rfl)) (AE.p (gn dD (aC (AE.p (ao 6 rfl)) aP))))))
 du)))
 (aM (iz (bC (AE.p (aA oZ (AE.p (ao 4 rfl)) (AE.p aK))))
 (bx 2 rfl (fW (aO (AE.w (aA cO (AE.p (ao 0 rfl)) (AE.p aK))) (aO (AE.w (ao 2 rfl)) (aO (AE.w (ao 1 rfl)) bM)))))
 du)
 (gj (AE.w (fW (aO (AE.w (aA cO (AE.p (ao 0 rfl)) (AE.p aK))) (aO (AE.w (ao 2 rfl)) bM)))))))))))) (by decide) h⟩)
abbrev xT:Stmt:=top 28
theorem zX:bK ["_law_net_here", "_law_one", "_law_other"] ["_law_net_here", "_law_one", "_law_other"] (bh xT):=⟨rfl,rfl,rfl,by decide +kernel,rfl,by decide +kernel,by decide +kernel⟩
theorem LR{f:Addr}{fd:FuncData}(F:pN K "_law_tied" "_law_tied" xT f fd)(T:Txt mg)  : eF P w K mg base dX 1 f fd ["_law_net_here", "_law_one", "_law_other"] (pC gf) :=
 F.ok zX (fun vs H Q E h=>qY h) (fun cdv A outer s H vs Q E hr h=>by
  have nd:=zX.nd
  have hu:=fH hr
  have bW:=hr.units
  exact⟨_,(aJ (bY (Vd (gA (jT bW) (dO (ak (pv 1) (ak (pv 2) az))) (bG bj (pv 0) aF (fun _ _=>rfl)) rfl) (yf (gA (jT bW) (dO (ak (pv 2) (ak (pv 1) az))) (bG bj (pv 0) aF (fun _ _=>rfl)) rfl))))),
  _root_.A.qW (N:=["_law_net_here", "_law_one", "_law_other"]) (M:=Mo []) (gj (AE.w (Zv (AE.p (aA vA (AE.p (gK (aC (ao 1 rfl) (aC (ao 2 rfl) aP)))) (AE.p (aA cO (AE.p (ao 0 rfl)) (AE.p aK))))) (aA vA (AE.p (gK (aC (ao 2 rfl) (aC (ao 1 rfl) aP)))) (AE.p (aA cO (AE.p (ao 0 rfl)) (AE.p aK))))))) (by decide) h⟩)
abbrev xR:Stmt:=top 29
theorem zW:bK ["_law_net_here", "_law_found", "_law_k"] ["_law_net_here"] (bh xR):=⟨rfl,rfl,rfl,by decide +kernel,rfl,by decide +kernel,by decide +kernel⟩
theorem LQ{f:Addr}{fd:FuncData}(F:pN K "_law_ties" "_law_ties" xR f fd)(T:Txt mg)(nW:pO P w K mg base dX 1 "_law_tied" ["_law_net_here", "_law_one", "_law_other"] (pC gf)):eF P w K mg base dX 2 f fd ["_law_net_here"] (pC iK) :=
 F.ok zW (fun vs H Q E h=>qY h) (fun cdv A outer s H vs Q E hr h=>by
  have nd:=zW.nd
  have hu:=fH hr
  have bW:=hr.units
  have vm:=hr.mono (show 1≤_ by decide)
  exact⟨_,(aD (aZ (i:=1) nd rfl (Or.inl rfl) (dB az))
 (aD (cH PassesOwn.never rfl (b8 rfl T.dM (ak (bI cX rfl T.dD PySem.boot_len (ak (bG bj (pv 0) aF (fun _ _=>rfl)) az)) az)) (aR (i:=2) nd rfl (Or.inr rfl))
 (aJ (aZ (i:=1) nd rfl (Or.inl rfl) (aQ bF (pv 1) (eY (N':=["_law_k", "_law_net_here", "_law_other"]) (ρ:=[some 2,some 0,none]) rfl (dm.of rfl (by kernel_rfl)) (cJ (fZ RQ (bG bj (pv 0) aF (fun _ _=>rfl)) (gY (aQ bF (pv 2) aF)) iT)) (fun _ _ _ _ _=>(aR (i:=2) (by show (["_law_k", "_law_net_here", "_law_other"]:List Str).Nodup;decide +kernel) rfl (Or.inl rfl))) (dU rfl) (fun _ _ _ _ _=>(jy (qi (bL nW vm rfl cV (ak (pv 1) (ak (bG bj (bG bj (pv 1) aF (fun _ _=>rfl)) (pv 0) (fun _ _=>rfl)) (ak (pv 2) az))))))) (fun _ _ _ _ _=>(dO (ak (bG bj (bG bj (pv 1) aF (fun _ _=>rfl)) (pv 0) (fun _ _=>rfl)) (ak (pv 2) az)))))))))
 (aJ (bY (pv 1))))),
  _root_.A.qW (N:=["_law_net_here", "_law_found", "_law_k"]) (M:=Mo []) (aM (bx 1 rfl (AE.nv (gm aP)))
 (aM (cL (K:=K) (tg:=(.n 2)) (cj (AE.p (gn dD (aC (AE.p (aA cO (AE.p (ao 0 rfl)) (AE.p aK))) aP)))) (by decide)
 (bx 1 rfl (aA dh (AE.p (ao 1 rfl)) (AE.np (eV (K:=K) (tg:=(.n 2)) (fK (AE.p (vC K3 (AE.p (aA cO (AE.p (ao 0 rfl)) (AE.p aK))) (ig (AE.p (aA dh (AE.p (ao 2 rfl)) (AE.p aK)))) iW))) (by decide) (Eb (AE.p (fW (aO (AE.w (ao 1 rfl)) (aO (AE.w (aA cO (AE.p (aA cO (AE.p (ao 1 rfl)) (AE.p aK))) (AE.p (ao 0 rfl)))) (aO (AE.w (ao 2 rfl)) bM)))))) (gK (aC (aA cO (AE.p (aA cO (AE.p (ao 1 rfl)) (AE.p aK))) (AE.p (ao 0 rfl))) (aC (ao 2 rfl) aP))))))))
 (gj (AE.w (ao 1 rfl))))) (by decide) h⟩)
abbrev qg:Stmt:=top 30
theorem tM:bK ["_law_net_here", "_law_found", "_law_k", "_law_one", "_law_middle", "_law_other", "_law_meet"] ["_law_net_here"] (bh qg):=⟨rfl,rfl,rfl,by decide +kernel,rfl,by decide +kernel,by decide +kernel⟩
theorem De{f:Addr}{fd:FuncData}(F:pN K "_law_corners" "_law_corners" qg f fd)(T:Txt mg)(nW:pO P w K mg base dX 1 "_law_tied" ["_law_net_here", "_law_one", "_law_other"] (pC gf)):eF P w K mg base dX 2 f fd ["_law_net_here"] (qU d8) :=
 F.ok tM (fun vs H Q E h=>vg h) (fun cdv A outer s H vs Q E hr h=>by
  have nd:=tM.nd
  have hu:=fH hr
  have bW:=hr.units
  have vm:=hr.mono (show 1≤_ by decide)
  exact⟨_,(aD (aZ (i:=1) nd rfl (Or.inl rfl) (dB az))
 (aD (cH PassesOwn.never rfl (Zp.yd rfl T.qC (bG bj (pv 0) aF (fun _ _=>rfl))) (lM rfl (cA (aR (i:=2) nd rfl (Or.inl rfl)) (cA (aR (i:=3) nd rfl (Or.inl rfl)) jz)))
 (aJ (cH PassesOwn.never rfl (cJ (bG bj (pv 0) aF (fun _ _=>rfl))) (aR (i:=4) nd rfl (Or.inl rfl))
 (aJ (cH PassesOwn.never rfl (cJ (fZ RQ (bG bj (pv 0) aF (fun _ _=>rfl)) (gY (aQ bF (pv 2) aF)) iT)) (aR (i:=5) nd rfl (Or.inl rfl))
 (aD (aZ (i:=6) nd rfl (Or.inl rfl) (Ii (gA (jT bW) (dO (ak (pv 3) (ak (pv 4) az))) (bG bj (pv 0) aF (fun _ _=>rfl)) rfl) (yf (gA (jT bW) (dO (ak (pv 5) (ak (pv 4) az))) (bG bj (pv 0) aF (fun _ _=>rfl)) rfl))))
 (aJ (iu (PW.pt (pw_and (O1 (pv 6) (by intro _;rfl)) (pw_and1 (xY (qi (bL nW vm rfl cV (ak (pv 0) (ak (pv 3) (ak (pv 5) az)))))))))
 (aJ (gr (lr PySem.F.plainAttrs_list PySem.F.slot_list_append PySem.F.type_list_append f9 (pv 1) (ak (dO (ak (pv 3) (ak (pv 4) (ak (pv 5) az)))) az))))
 dq))))))))
 (aJ (bY (pv 1))))),
  _root_.A.runN (N:=["_law_net_here", "_law_found", "_law_k", "_law_one", "_law_middle", "_law_other", "_law_meet"]) (M:=Mo [1]) (aM (iH 1 rfl (gm aP))
 (aM (cL (K:=K) (tg:=(.t [2,3])) (Zp.zf (aA cO (AE.p (ao 0 rfl)) (AE.p aK))) (by decide)
 (cL (K:=K) (tg:=(.n 4)) (jf (aA cO (AE.p (ao 0 rfl)) (AE.p aK))) (by decide)
 (cL (K:=K) (tg:=(.n 5)) (jf (vC K3 (AE.p (aA cO (AE.p (ao 0 rfl)) (AE.p aK))) (ig (AE.p (aA dh (AE.p (ao 2 rfl)) (AE.p aK)))) iW)) (by decide)
 (aM (bx 6 rfl (Rw (AE.p (aA vA (AE.p (gK (aC (ao 3 rfl) (aC (ao 4 rfl) aP)))) (AE.p (aA cO (AE.p (ao 0 rfl)) (AE.p aK))))) (aA vA (AE.p (gK (aC (ao 5 rfl) (aC (ao 4 rfl) aP)))) (AE.p (aA cO (AE.p (ao 0 rfl)) (AE.p aK))))))
 (iz (mU (Rh (AE.p (ao 6 rfl))) (za (Eb (AE.p (fW (aO (AE.w (ao 0 rfl)) (aO (AE.w (ao 3 rfl)) (aO (AE.w (ao 5 rfl)) bM))))))))
 (gP 1 rfl (gK (aC (ao 3 rfl) (aC (ao 4 rfl) (aC (ao 5 rfl) aP)))))
 du)))))
 (j4 1 rfl))) (by decide) h⟩)
abbrev xV:Stmt:=top 31
theorem zZ:bK ["_law_net_here", "_law_some", "_law_met", "_law_turn", "_law_tail", "_law_head"] ["_law_net_here", "_law_some"] (bh xV):=⟨rfl,rfl,rfl,by decide +kernel,rfl,by decide +kernel,by decide +kernel⟩
theorem Mf{f:Addr}{fd:FuncData}(F:pN K "_law_high" "_law_high" xV f fd)(T:Txt mg)  : eF P w K mg base dX 1 f fd ["_law_net_here", "_law_some"] (qU qm) :=
 F.ok zZ (fun vs H Q E h=>vg h) (fun cdv A outer s H vs Q E hr h=>by
  have nd:=zZ.nd
  have hu:=fH hr
  have bW:=hr.units
  exact⟨_,(aD (aZ (i:=2) nd rfl (Or.inl rfl) (di jb rfl T.jd boot_list (ak (pv 1) az)))
 (aD (cH PassesOwn.never rfl (b8 rfl T.dM (ak (bI cX rfl T.dD PySem.boot_len (ak (bG bj (pv 0) aF (fun _ _=>rfl)) az)) az)) (aR (i:=3) nd rfl (Or.inl rfl))
 (aJ (cH PassesOwn.never rfl (cJ (bG bj (pv 0) aF (fun _ _=>rfl))) (lM rfl (cA (aR (i:=4) nd rfl (Or.inl rfl)) (cA (aR (i:=5) nd rfl (Or.inl rfl)) jz)))
 (aJ (iu (PW.pt (pw_and (bA (jT bW) (pv 5) (pv 2) rfl) (pw_and1 (bA (jQ bW) (pv 4) (pv 2) rfl))))
 (aJ (gr (lr PySem.F.plainAttrs_list PySem.F.slot_list_append PySem.F.type_list_append f9 (pv 2) (ak (pv 4) az))))
 dq)))))
 (aJ (bY (pv 2))))),
  _root_.A.runN (N:=["_law_net_here", "_law_some", "_law_met", "_law_turn", "_law_tail", "_law_head"]) (M:=Mo [2]) (aM (iH 2 rfl (gn jd (aC (AE.p (ao 1 rfl)) aP)))
 (aM (cL (K:=K) (tg:=(.n 3)) (cj (AE.p (gn dD (aC (AE.p (aA cO (AE.p (ao 0 rfl)) (AE.p aK))) aP)))) (by decide)
 (cL (K:=K) (tg:=(.t [4,5])) (jf (aA cO (AE.p (ao 0 rfl)) (AE.p aK))) (by decide)
 (iz (mU (bC (AE.p (aA vA (AE.p (ao 5 rfl)) (gG 2)))) (bC (AE.p (aA oY (AE.p (ao 4 rfl)) (gG 2)))))
 (gP 2 rfl (ao 4 rfl))
 du)))
 (j4 2 rfl))) (by decide) h⟩)
abbrev rO:Stmt:=top 32
theorem vP:bK ["_law_net_here", "_law_one", "_law_other", "_law_held", "_law_high_here", "_law_family", "_law_name", "_law_met", "_law_turn", "_law_some"] ["_law_net_here", "_law_one", "_law_other", "_law_held"] (bh rO):=⟨rfl,rfl,rfl,by decide +kernel,rfl,by decide +kernel,by decide +kernel⟩
theorem FJ{f:Addr}{fd:FuncData}(F:pN K "_law_parted" "_law_parted" rO f fd)(T:Txt mg)(zB:pO P w K mg base dX 1 "_law_high" ["_law_net_here", "_law_some"] (qU qm)):eF P w K mg base dX 2 f fd ["_law_net_here", "_law_one", "_law_other", "_law_held"] (pC gF) :=
 F.ok vP (fun vs H Q E h=>qY h) (fun cdv A outer s H vs Q E hr h=>by
  have nd:=vP.nd
  have hu:=fH hr
  have bW:=hr.units
  have Mz:=hr.mono (show 1≤_ by decide)
  exact⟨_,(aD (aZ (i:=4) nd rfl (Or.inl rfl) (bL zB Mz rfl cV (ak (pv 0) (ak (aQ bF (dB (ak (pv 1) (ak (pv 2) az))) (di jb rfl T.jd boot_list (ak (pv 3) az))) az))))
 (aD (aZ (i:=5) nd rfl (Or.inl rfl) Pb)
 (aD (cH PassesOwn.never rfl (cJ (pv 4)) (aR (i:=6) nd rfl (Or.inr rfl))
 (aJ (R7 hu (pv 5) (pv 6) (aQ bF (dB (ak (pv 6) az)) (eY (N':=["_law_name", "_law_tail", "_law_head"]) (ρ:=[some 6,none,none]) rfl (dm.of rfl (by kernel_rfl)) (cJ (bG bj (pv 0) aF (fun _ _=>rfl))) (fun _ _ _ _ _=>(lM rfl (cA (aR (i:=1) (by show (["_law_name", "_law_tail", "_law_head"]:List Str).Nodup;decide +kernel) rfl (Or.inl rfl)) (cA (aR (i:=2) (by show (["_law_name", "_law_tail", "_law_head"]:List Str).Nodup;decide +kernel) rfl (Or.inl rfl)) jz)))) (Dy (km rfl (km rfl Dz qu) (wU qu))) (fun _ _ _ _ _=>(jy (bA (gB bW) (pv 2) (pv 0) (bZ _)))) (fun _ _ _ _ _=>(pv 1)))) rfl)))
 (aD (aZ (i:=7) nd rfl (Or.inr rfl) (dB (ak (pv 1) az)))
 (aD (cH PassesOwn.never rfl (b8 rfl T.dM (ak (bI cX rfl T.dD PySem.boot_len (ak (pv 4) az)) az)) (aR (i:=8) nd rfl (Or.inl rfl))
 (aJ (cH PassesOwn.never rfl (cJ (pv 4)) (aR (i:=6) nd rfl (Or.inr rfl))
 (aD (tR (i:=9) (N':=["_law_met", "_law_here"]) (ρ:=[some 7,none]) rfl nd rfl (Or.inl rfl) (dm.of rfl (by kernel_rfl)) (cJ (J0 hu (pv 5) (pv 6) (fun _ _=>rfl))) (fun _ _ _ _ _=>(aR (i:=1) (by show (["_law_met", "_law_here"]:List Str).Nodup;decide +kernel) rfl (Or.inl rfl))) (dU rfl) (fun _ _ _ _ _=>(jy (bA (jT bW) (pv 1) (pv 0) rfl))) (fun _ _ _ _ _=>(pv 1)))
 (aJ (iu (bA yh (bI cX rfl T.dD PySem.boot_len (ak (pv 9) az)) aF (bZ _))
 (aJ (aZ (i:=7) nd rfl (Or.inr rfl) (aQ bF (pv 7) (eY (N':=["_law_met", "_law_held", "_law_here"]) (ρ:=[some 7,some 3,none]) rfl (dm.of rfl (by kernel_rfl)) (cJ (J0 hu (pv 5) (pv 6) (fun _ _=>rfl))) (fun _ _ _ _ _=>(aR (i:=2) (by show (["_law_met", "_law_held", "_law_here"]:List Str).Nodup;decide +kernel) rfl (Or.inl rfl))) (dU rfl) (fun _ _ _ _ _=>(jy (PW.pt (pw_and (bA (jQ bW) (pv 2) (pv 0) rfl) (pw_and1 (bA (jQ bW) (pv 2) (pv 1) rfl)))))) (fun _ _ _ _ _=>(pv 2))))))
 dq))))))
 (aJ (bY (gA (jQ bW) (pv 2) (pv 7) rfl)))))))),
  _root_.A.qW (N:=["_law_net_here", "_law_one", "_law_other", "_law_held", "_law_high_here", "_law_family", "_law_name", "_law_met", "_law_turn", "_law_some"]) (M:=Mo [5]) (aM (bx 4 rfl (AE.nv (dN (aO (AE.w (ao 0 rfl)) (aO (AE.w (aA dh (AE.np (gm (aC (ao 1 rfl) (aC (ao 2 rfl) aP)))) (AE.np (gn jd (aC (AE.p (ao 3 rfl)) aP))))) bM)))))
 (aM (Uj 5 rfl Rf)
 (aM (cL (K:=K) (tg:=(.n 6)) (jf (ao 4 rfl)) (by decide)
 (Uk 5 rfl (ao 6 rfl) (aA dh (AE.np (gm (aC (ao 6 rfl) aP))) (AE.np (eV (K:=K) (tg:=(.t [1,2])) (fK (AE.p (aA cO (AE.p (ao 0 rfl)) (AE.p aK)))) (by decide) (bC (AE.p (aA oZ (AE.p (ao 2 rfl)) (AE.p (ao 0 rfl))))) (ao 1 rfl))))))
 (aM (bx 7 rfl (AE.nv (gm (aC (ao 1 rfl) aP))))
 (aM (cL (K:=K) (tg:=(.n 8)) (cj (AE.p (gn dD (aC (AE.p (ao 4 rfl)) aP)))) (by decide)
 (cL (K:=K) (tg:=(.n 6)) (jf (ao 4 rfl)) (by decide)
 (aM (bx 9 rfl (AE.nv (eV (K:=K) (tg:=(.n 1)) (fK (AE.p (Ru 5 (ao 6 rfl)))) (by decide) (bC (AE.p (aA vA (AE.p (ao 1 rfl)) (AE.p (ao 0 rfl))))) (ao 1 rfl))))
 (iz (bC (AE.p (aA Rb (AE.p (gn dD (aC (AE.p (ao 9 rfl)) aP))) (AE.p aK))))
 (bx 7 rfl (aA dh (AE.p (ao 7 rfl)) (AE.np (eV (K:=K) (tg:=(.n 2)) (fK (AE.p (Ru 5 (ao 6 rfl)))) (by decide) (mU (bC (AE.p (aA oY (AE.p (ao 2 rfl)) (AE.p (ao 0 rfl))))) (bC (AE.p (aA oY (AE.p (ao 2 rfl)) (AE.p (ao 1 rfl)))))) (ao 2 rfl)))))
 du))))
 (gj (AE.w (aA oY (AE.p (ao 2 rfl)) (AE.p (ao 7 rfl)))))))))) (by decide) h⟩)
abbrev uR:Stmt:=top 33
theorem xP:bK ["_law_some", "_law_found", "_law_name"] ["_law_some"] (bh uR):=⟨rfl,rfl,rfl,by decide +kernel,rfl,by decide +kernel,by decide +kernel⟩
theorem Ip{f:Addr}{fd:FuncData}(F:pN K "_law_lists" "_law_lists" uR f fd)(T:Txt mg)  : eF P w K mg base dX 1 f fd ["_law_some"] (pC jj) :=
 F.ok xP (fun vs H Q E h=>qY h) (fun cdv A outer s H vs Q E hr h=>by
  have nd:=xP.nd
  have hu:=fH hr
  have bW:=hr.units
  exact⟨_,(aD (aZ (i:=1) nd rfl (Or.inl rfl) (dB (ak (dB az) az)))
 (aD (cH PassesOwn.never rfl (cJ (pv 0)) (aR (i:=2) nd rfl (Or.inr rfl))
 (aJ (aZ (i:=1) nd rfl (Or.inl rfl) (aQ bF (pv 1) (eY (N':=["_law_name", "_law_one"]) (ρ:=[some 2,none]) rfl (dm.of rfl (by kernel_rfl)) (cJ (pv 1)) (fun _ _ _ _ _=>(aR (i:=1) (by show (["_law_name", "_law_one"]:List Str).Nodup;decide +kernel) rfl (Or.inl rfl))) (dU rfl) (fun _ _ _ _ _=>iQ) (fun _ _ _ _ _=>(aQ bF (pv 1) (dB (ak (pv 0) az)))))))))
 (aJ (bY (pv 1))))),
  _root_.A.qW (N:=["_law_some", "_law_found", "_law_name"]) (M:=Mo []) (aM (bx 1 rfl (AE.nv (gm (aC (AE.nv (gm aP)) aP))))
 (aM (cL (K:=K) (tg:=(.n 2)) (jf (ao 0 rfl)) (by decide)
 (bx 1 rfl (aA dh (AE.p (ao 1 rfl)) (AE.np (eV (K:=K) (tg:=(.n 1)) (fK (AE.p (ao 1 rfl))) (by decide) kZ (aA dh (AE.p (ao 1 rfl)) (AE.np (gm (aC (ao 0 rfl) aP)))))))))
 (gj (AE.w (ao 1 rfl))))) (by decide) h⟩)
abbrev xU:Stmt:=top 34
theorem zY:bK ["_law_net_here", "_law_found", "_law_k", "_law_one", "_law_other", "_law_rest"] ["_law_net_here"] (bh xU):=⟨rfl,rfl,rfl,by decide +kernel,rfl,by decide +kernel,by decide +kernel⟩
theorem Ma{f:Addr}{fd:FuncData}(F:pN K "_law_says" "_law_says" xU f fd)(T:Txt mg)(sW:pO P w K mg base dX 2 "_law_parted" ["_law_net_here", "_law_one", "_law_other", "_law_held"] (pC gF))(vH:pO P w K mg base dX 1 "_law_lists" ["_law_some"] (pC jj)):eF P w K mg base dX 3 f fd ["_law_net_here"] (pC kj) :=
 F.ok zY (fun vs H Q E h=>qY h) (fun cdv A outer s H vs Q E hr h=>by
  have nd:=zY.nd
  have hu:=fH hr
  have bW:=hr.units
  have Gn:=hr.mono (show 2≤_ by decide)
  have Jf:=hr.mono (show 1≤_ by decide)
  exact⟨_,(aD (aZ (i:=1) nd rfl (Or.inl rfl) (dB az))
 (aD (cH PassesOwn.never rfl (Zp.yd rfl T.qC (bG bj (pv 0) aF (fun _ _=>rfl))) (lM rfl (cA (aR (i:=2) nd rfl (Or.inl rfl)) (cA (aR (i:=3) nd rfl (Or.inr rfl)) jz)))
 (aJ (cH PassesOwn.never rfl (cJ (fZ RQ (bG bj (pv 0) aF (fun _ _=>rfl)) (gY (aQ bF (pv 2) aF)) iT)) (aR (i:=4) nd rfl (Or.inr rfl))
 (aD (tR (i:=5) (N':=["_law_one", "_law_other", "_law_name"]) (ρ:=[some 3,some 4,none]) rfl nd rfl (Or.inl rfl) (dm.of rfl (by kernel_rfl)) (cJ (bG bj (pv 0) aF (fun _ _=>rfl))) (fun _ _ _ _ _=>(aR (i:=2) (by show (["_law_one", "_law_other", "_law_name"]:List Str).Nodup;decide +kernel) rfl (Or.inl rfl))) (dU rfl) (fun _ _ _ _ _=>(jy (PW.pt (pw_and (bA (rW bW) (pv 2) (pv 0) (bZ _)) (pw_and1 (bA (rW bW) (pv 2) (pv 1) (bZ _))))))) (fun _ _ _ _ _=>(pv 2)))
 (aJ (aZ (i:=1) nd rfl (Or.inl rfl) (aQ bF (pv 1) (eY (N':=["_law_net_here", "_law_one", "_law_other", "_law_held"]) (ρ:=[some 0,some 3,some 4,none]) rfl (dm.of rfl (by kernel_rfl)) (cJ (bL vH Jf rfl cV (ak (pv 5) az))) (fun _ _ _ _ _=>(aR (i:=3) (by show (["_law_net_here", "_law_one", "_law_other", "_law_held"]:List Str).Nodup;decide +kernel) rfl (Or.inl rfl))) (dU rfl) (fun _ _ _ _ _=>iQ) (fun _ _ _ _ _=>(bL sW Gn rfl cV (ak (pv 0) (ak (pv 1) (ak (pv 2) (ak (pv 3) az))))))))))))))
 (aJ (bY (pv 1))))),
  _root_.A.qW (N:=["_law_net_here", "_law_found", "_law_k", "_law_one", "_law_other", "_law_rest"]) (M:=Mo []) (aM (bx 1 rfl (AE.nv (gm aP)))
 (aM (cL (K:=K) (tg:=(.t [2,3])) (Zp.zf (aA cO (AE.p (ao 0 rfl)) (AE.p aK))) (by decide)
 (cL (K:=K) (tg:=(.n 4)) (jf (vC K3 (AE.p (aA cO (AE.p (ao 0 rfl)) (AE.p aK))) (ig (AE.p (aA dh (AE.p (ao 2 rfl)) (AE.p aK)))) iW)) (by decide)
 (aM (bx 5 rfl (AE.nv (eV (K:=K) (tg:=(.n 2)) (fK (AE.p (aA cO (AE.p (ao 0 rfl)) (AE.p aK)))) (by decide) (mU (bC (AE.p (aA Jv (AE.p (ao 2 rfl)) (AE.p (ao 0 rfl))))) (bC (AE.p (aA Jv (AE.p (ao 2 rfl)) (AE.p (ao 1 rfl)))))) (ao 2 rfl))))
 (bx 1 rfl (aA dh (AE.p (ao 1 rfl)) (AE.np (eV (K:=K) (tg:=(.n 3)) (fK (AE.p (fW (aO (AE.w (ao 5 rfl)) bM)))) (by decide) kZ (fW (aO (AE.w (ao 0 rfl)) (aO (AE.w (ao 1 rfl)) (aO (AE.w (ao 2 rfl)) (aO (AE.w (ao 3 rfl)) bM))))))))))))
 (gj (AE.w (ao 1 rfl))))) (by decide) h⟩)
abbrev Om:Stmt:=top 35
theorem Oj:bK ["_law_script", "_law_draws_here", "_law_net_here", "_law_says_here", "_law_draw", "_law_other", "_law_alike", "_law_told", "_law_back"] ["_law_script"] (bh Om):=⟨rfl,rfl,rfl,by decide +kernel,rfl,by decide +kernel,by decide +kernel⟩
theorem Wh{f:Addr}{fd:FuncData}(F:pN K "law" "law" Om f fd)(T:Txt mg)(pA:pO P w K mg base dX 6 "say_same" ["first", "second"] (pC fM))(vI:pO P w K mg base dX 1 "_law_draws" ["_law_script"] (qU nG))(Ek:pO P w K mg base dX 3 "_law_net" ["_law_draws_here", "_law_least", "_law_most"] (pC qJ))(sV:pO P w K mg base dX 3 "_law_second" ["_law_net_here", "_law_draw"] (pC gD))(uE:pO P w K mg base dX 2 "_law_ties" ["_law_net_here"] (pC iK))(mH:pO P w K mg base dX 2 "_law_corners" ["_law_net_here"] (qU d8))(uF:pO P w K mg base dX 3 "_law_says" ["_law_net_here"] (pC kj)):eF P w K mg base dX 7 f fd ["_law_script"] (pC u5) :=
 F.ok Oj (fun vs H Q E h=>qY h) (fun cdv A outer s H vs Q E hr h=>by
  have nd:=Oj.nd
  have hu:=fH hr
  have bW:=hr.units
  have vX:=hr.mono (show 6≤_ by decide)
  have Jg:=hr.mono (show 1≤_ by decide)
  have Qp:=hr.mono (show 3≤_ by decide)
  have Gm:=hr.mono (show 3≤_ by decide)
  have Am:=hr.mono (show 2≤_ by decide)
  have t8:=hr.mono (show 2≤_ by decide)
  have An:=hr.mono (show 3≤_ by decide)
  exact⟨_,(aD (aZ (i:=1) nd rfl (Or.inl rfl) (bL vI Jg rfl cV (ak (pv 0) az)))
 (aD (aZ (i:=2) nd rfl (Or.inl rfl) (bL Ek Qp rfl cV (ak (pv 1) (ak aF (ak (bG bj (dB (ak aF (ak aF (ak aF (ak aF az))))) (aQ cY (bG bj (pv 1) aF (fun _ _=>rfl)) aF) (fun _ _=>rfl)) az)))))
 (aD (aZ (i:=3) nd rfl (Or.inl rfl) (bL uF An rfl cV (ak (pv 2) az)))
 (aD (cH PassesOwn.never rfl (cJ (fZ Cw (pv 1) (gY aF) (gY aF))) (aR (i:=4) nd rfl (Or.inl rfl))
 (aD (aZ (i:=5) nd rfl (Or.inl rfl) (bL sV Gm rfl cV (ak (pv 2) (ak (pv 4) az))))
 (aD (aZ (i:=6) nd rfl (Or.inl rfl) (Ii (gA (gB bW) (bL uE Am rfl cV (ak (pv 2) az)) (bL uE Am rfl cV (ak (pv 5) az)) (bZ _)) (yf (gA (gB bW) (bL mH t8 rfl cV (ak (pv 2) az)) (bL mH t8 rfl cV (ak (pv 5) az)) (bZ _)))))
 (aD (iu (bA (rW bW) (pv 6) (gA (gB bW) (pv 3) (bL uF An rfl cV (ak (pv 5) az)) (bZ _)) (bZ _))
 (aJ (bY Pg))
 dq)
 (aD (aZ (i:=7) nd rfl (Or.inl rfl) (bL pA vX rfl cV (ak (pv 2) (ak (pv 5) az))))
 (aD (aZ (i:=8) nd rfl (Or.inl rfl) (bL pA vX rfl cV (ak (pv 5) (ak (pv 2) az))))
 (aJ (iu (PW.pt (pw_or (xY (qi (bI GP rfl T.ux boot_isinstance (ak (pv 7) (ak (Vc rfl T.Rc boot_bool) az))))) (pw_or (bA (rW bW) (pv 7) (pv 6) (bZ _)) (pw_or (xY (qi (bI GP rfl T.ux boot_isinstance (ak (pv 8) (ak (Vc rfl T.Rc boot_bool) az))))) (pw_or1 (bA (rW bW) (pv 8) (pv 7) (bZ _)))))))
 (aJ (bY Pg))
 dq))))))))
 (aJ (bY Pg)))))),
  _root_.A.qW (N:=["_law_script", "_law_draws_here", "_law_net_here", "_law_says_here", "_law_draw", "_law_other", "_law_alike", "_law_told", "_law_back"]) (M:=Mo []) (aM (bx 1 rfl (AE.nv (dN (aO (AE.w (ao 0 rfl)) bM))))
 (aM (bx 2 rfl (fW (aO (AE.w (ao 1 rfl)) (aO (AE.w aK) (aO (AE.w (aA cO (AE.np (gm (aC aK (aC aK (aC aK (aC aK aP)))))) (AE.p (aA eZ (AE.p (aA cO (AE.p (ao 1 rfl)) (AE.p aK))) (AE.p aK))))) bM)))))
 (aM (bx 3 rfl (fW (aO (AE.w (ao 2 rfl)) bM)))
 (aM (cL (K:=K) (tg:=(.n 4)) (jf (vC ur (AE.p (ao 1 rfl)) (ig (AE.p aK)) (ig (AE.p aK)))) (by decide)
 (aM (bx 5 rfl (fW (aO (AE.w (ao 2 rfl)) (aO (AE.w (ao 4 rfl)) bM))))
 (aM (bx 6 rfl (Rw (AE.p (aA oZ (AE.p (fW (aO (AE.w (ao 2 rfl)) bM))) (AE.p (fW (aO (AE.w (ao 5 rfl)) bM))))) (aA oZ (AE.np (dN (aO (AE.w (ao 2 rfl)) bM))) (AE.np (dN (aO (AE.w (ao 5 rfl)) bM))))))
 (aM (iz (bC (AE.p (aA Jv (AE.p (ao 6 rfl)) (AE.p (aA oZ (AE.p (ao 3 rfl)) (AE.p (fW (aO (AE.w (ao 5 rfl)) bM))))))))
 (gj (AE.w Xl))
 du)
 (aM (bx 7 rfl (fW (aO (AE.w (ao 2 rfl)) (aO (AE.w (ao 5 rfl)) bM))))
 (aM (bx 8 rfl (fW (aO (AE.w (ao 5 rfl)) (aO (AE.w (ao 2 rfl)) bM))))
 (iz (Bu (za (Eb (AE.p (Zw (ty_bool K) (AE.p (ao 7 rfl)))))) (Bu (bC (AE.p (aA Jv (AE.p (ao 7 rfl)) (AE.p (ao 6 rfl))))) (Bu (za (Eb (AE.p (Zw (ty_bool K) (AE.p (ao 8 rfl)))))) (bC (AE.p (aA Jv (AE.p (ao 8 rfl)) (AE.p (ao 7 rfl))))))))
 (gj (AE.w Xl))
 du)))))))
 (gj (AE.w Xl)))))) (by decide) h⟩)
end
end JD
namespace L2
open PySem PySem.Spec PyProof.Rows
theorem qR.aaj{P:Program}{w:World}{K:PySem.W.Frag}{mg:Str→Option Value}{CX:JG}{k:Nat}{x p:Str}{st:Stmt}{sp:Sp}{fa c T:Addr}(F:qR K mg x st [p])(hm:mg x=some (.ref fa))(h:∀ base,K.In base→base.Ns mainGlobals mg→BM mg base→PySem.W.CodeHd base c T→∀ f fd,pN K x x st f fd→eF P w K mg base CX k f fd [p] sp) :
 ∃ fd:FuncData,(∀ (s:Shared) (u:Value),BindsTo s fd ⟨[u],[]⟩ [(p,u)])∧∀ base:Heap,K.In base→base.Ns mainGlobals mg→BM mg base→PySem.W.CodeHd base c T→eF P w K mg base CX k fa fd [p] sp:=by
 obtain⟨f,fd,h1,h2,h3,h5,h4⟩:=F.ex
 rw[h1] at hm;cases hm
 exact⟨fd,fun s u=>h5 s [u] rfl,fun base kb nb b1 b2=>h base kb nb b1 b2 _ fd h4⟩
def Vg(K:PySem.W.Frag):Bool:=K.all fun p=>match p.2.cls with|.type "list" => false|_=>true
theorem Pz{K:PySem.W.Frag}(h:Vg K=true){a:Addr}{o:Obj}(e:K.lookup a=some o)(c:o.cls=.type "list"):False:=by
 have hm:(a,o)∈K:=by
  clear h
  induction K with
  | nil=>cases e
  | cons p r ih =>
   obtain⟨b,x⟩:=p
   simp only[List.lookup] at e
   split at e
   ·rename_i q;cases e;rw[beq_iff_eq.mp q];exact List.Mem.head _
   ·exact List.Mem.tail _ (ih e)
 have h2:=List.all_eq_true.mp h _ hm
 simp only[c] at h2
 cases h2
end L2
namespace Mi
open PySem
@[simp] theorem iJ {α : Type} (a:α):pJ (some a)=.ok a:=rfl
@[simp] theorem WR {α : Type} {c:Prop} [Decidable c] (h:c) (r:Rs α):aU c r=r:=if_pos h
@[simp] theorem ir (a b:Str):cU (.str a) (.str b)=decide (a=b):=by rw[cU];by_cases h:a=b<;>simp[h]
@[simp] theorem OJ (a b:Int):cU (.int a) (.int b)=decide (a=b):=by rw[cU];by_cases h:a=b<;>simp[h]
@[simp] theorem T4 (x:Str):(D.str x).dep=0:=by simp[D.dep]
@[simp] theorem Z2 (x:Int):(D.int x).dep=0:=by simp[D.dep]
@[simp] theorem aay (x:Bool):(D.bl x).dep=0:=by simp[D.dep]
@[simp] theorem Z1:D.non.dep=0:=by simp[D.dep]
@[simp] theorem DK (ds:List D):(D.lst ds).dep=cQ ds+1:=by simp[D.dep]
@[simp] theorem Z0 (ds:List D):(D.tup ds).dep=cQ ds+1:=by simp[D.dep]
@[simp] theorem Jk:cQ []=0:=rfl
@[simp] theorem mD (d:D) (r:List D):cQ (d::r)=max d.dep (cQ r):=by rw[cQ]
@[simp] theorem oV:∀ xs:List Str,cQ (xs.map D.str)=0
 | []=>rfl
 | x::r=>by rw[List.map_cons,mD,T4,oV r];rfl
theorem Eg(xs:List Str)(x:Str):((xs.map D.str).any fun e=>cU e (.str x))=decide (x∈xs):=by
 induction xs with
 | nil=>rfl
 | cons y r ih =>
  rw[List.map_cons,List.any_cons,ih,ir]
  by_cases h:y=x
  ·simp[h]
  ·have h2:¬ x=y:=fun z=>h z.symm
   simp[h,h2]
theorem wY(xs:List Str)(x:Str):kO (.str x) (.lst (xs.map D.str))=.ok (.bl (decide (x∈xs))):=by
 show aU _ _=_
 rw[aq (by rw[oV];omega),Eg]
theorem oW(xs:List Str)(x:Str):dF (.str x) (.lst (xs.map D.str))=.ok (.bl (!decide (x∈xs))):=by
 show aU _ _=_
 rw[aq (by rw[oV];omega),Eg]
theorem Gw(xs:List Str)(x:Str):dF (.str x) (.tup (xs.map D.str))=.ok (.bl (!decide (x∈xs))):=by
 show aU _ _=_
 rw[aq (by rw[oV];omega),Eg]
theorem KQ(x y:Str):iV (.str x) (.str y)=.ok (.bl (decide (x=y))):=by
 show aU _ _=_
 rw[aq (by simp),ir]
theorem DP(x y:Str):vZ (.str x) (.str y)=.ok (.bl (!decide (x=y))):=by
 show aU _ _=_
 rw[aq (by simp),ir]
theorem iU(x y:Int):iV (.int x) (.int y)=.ok (.bl (decide (x=y))):=by
 show aU _ _=_
 rw[aq (by simp),OJ]
theorem Rm{α : Type}(f:α→Bool)(xs:List α):Rn (xs.map fun x=>D.bl (f x))=some (xs.map f):=by
 induction xs with
 | nil=>rfl
 | cons a r ih=>rw[List.map_cons,Rn,ih];rfl
theorem uA(xs:List Str):nR (xs.map D.str)=some xs:=by
 induction xs with
 | nil=>rfl
 | cons a r ih=>rw[List.map_cons,nR,ih];rfl
theorem Qy(n:Nat)(b:S)(a0:W):yI 1 n b [a0]=(b ([some a0]++List.replicate (n - 1) none)).bind yH:=aq rfl
theorem Ji(n:Nat)(b:S)(a0 a1:W):yI 2 n b [a0,a1]=(b ([some a0,some a1]++List.replicate (n - 2) none)).bind yH:=aq rfl
theorem Tz(n:Nat)(b:S)(a0 a1 a2:W):yI 3 n b [a0,a1,a2]=(b ([some a0,some a1,some a2]++List.replicate (n - 3) none)).bind yH:=aq rfl
theorem aaw(n:Nat)(b:S)(a0 a1 a2 a3:W):yI 4 n b [a0,a1,a2,a3]=(b ([some a0,some a1,some a2,some a3]++List.replicate (n - 4) none)).bind yH:=aq rfl
theorem MJ(n:Nat)(b:S)(a0:W):Gq 1 n b [a0]=(b ([some a0]++List.replicate (n - 1) none)).bind mQ:=aq rfl
theorem Jh(n:Nat)(b:S)(a0 a1:W):Gq 2 n b [a0,a1]=(b ([some a0,some a1]++List.replicate (n - 2) none)).bind mQ:=aq rfl
theorem vB(i j:Int):bz (.int i) (.int j)=.ok (.int (i+j)):=rfl
theorem Rp(i j:Str):bz (.str i) (.str j)=aU (i.length+j.length≤16777216) (.ok (.str (i++j))):=rfl
theorem sO(i j:List D):bz (.lst i) (.lst j)=aU (i.length+j.length≤16777216) (.ok (.lst (i++j))):=rfl
theorem VD(i j:Int):qx (.int i) (.int j)=.ok (.int (i - j)):=rfl
theorem PK(i j:Int):cD (.int i) (.int j)=aU (rn i j) (.ok (.int (i * j))):=rfl
theorem div_ii(i j:Int):eE (.int i) (.int j)=aU (rA j) (.ok (.int (i / j))):=rfl
theorem ql(i j:Int):cu (.int i) (.int j)=aU (0 < j) (.ok (.int (i % j))):=rfl
theorem Gf(i j:Int):Ax (.int i) (.int j)=.ok (.bl (decide (i < j))):=rfl
theorem Vn(i j:Int):KN (.int i) (.int j)=.ok (.bl (decide (j < i))):=rfl
theorem Ag(ds:List D):fV [.lst ds]=.ok (.int ds.length):=rfl
theorem Vk(ds:List D):fV [.tup ds]=.ok (.int ds.length):=rfl
theorem YQ(z:Str):fV [.str z]=aU (z.length≤16777216) (.ok (.int z.length)):=rfl
theorem P0(i j:Int):nQ [.int i,.int j]=.ok (.int (max i j)):=rfl
theorem PN(i j:Int):wL [.int i,.int j]=.ok (.int (min i j)):=rfl
theorem Zr(ds:List D):Xd [.lst ds]=(pJ (Rn ds)).bind fun bs=>.ok (.bl (bs.all id)):=rfl
theorem Wt(ds:List D):pH [.lst ds]=.ok (.lst ds):=rfl
theorem aad(ds:List D)(lo hi:Option Int):DN (.lst ds) lo hi=.ok (.lst (oX ds lo hi)):=rfl
theorem VN(z:Str)(lo hi:Option Int):DN (.str z) lo hi=aU (z.length≤16777216) (.ok (.str (qy z lo hi))):=rfl
theorem Ti(ds:List D):Jl (.lst ds)=.ok ds:=rfl
theorem Hj(b:Bool):Xh (.bl b)=.ok b:=rfl
theorem wu(b:Int):XC (.int b)=.ok b:=rfl
theorem Hg(x:D):Z6 (.d x)=.ok x:=rfl
theorem Yu(i:Nat)(d:D)(e:Mi.Env):(Tg.n i).put d e=.ok (e.set i (some (.d d))):=rfl
theorem all_cons(i:Nat)(is:List Nat)(d:D)(ds:List D)(e:Mi.Env):uM (i::is) (d::ds) e=uM is ds (e.set i (some (.d d))):=rfl
theorem Wa(e:Mi.Env):yH (.nx e)=.ok (.d .non):=rfl
theorem Sq(w:W):mQ (.rt w)=.ok w:=rfl
theorem aB{f:D→D→Rs D}{a b:E}{e:Mi.Env}{x y:D}{z:Rs D}(ha:a e=.ok x)(hb:b e=.ok y)(h:f x y=z):m2 f a b e=z:=by
 unfold m2;rw[ha,aG,hb,aG,h]
theorem aH{s t:S}{e e':Mi.Env}(h:s e=.ok (.nx e')):aY s t e=t e':=by unfold aY;rw[h];rfl
theorem pX{s t:S}{e:Mi.Env}{w:W}(h:s e=.ok (.rt w)):aY s t e=.ok (.rt w):=by unfold aY;rw[h];rfl
theorem aV{i:Nat}{a:E}{e:Mi.Env}{d:D}(h:a e=.ok d):bw i a e=.ok (.nx (e.set i (some (.d d)))):=by unfold bw;rw[h];rfl
theorem eQ{a:EW}{e:Mi.Env}{w:W}(h:a e=.ok w):fc a e=.ok (.rt w):=by unfold fc;rw[h];rfl
theorem dw{a:E}{e:Mi.Env}{d:D}(h:a e=.ok d):wD a e=.ok (.d d):=by unfold wD;rw[h];rfl
theorem jM{c:C}{s t:S}{e:Mi.Env}(h:c e=.ok true):jP c s t e=s e:=by unfold jP;rw[h];rfl
theorem jm{c:C}{s t:S}{e:Mi.Env}(h:c e=.ok false):jP c s t e=t e:=by unfold jP;rw[h];rfl
theorem bR{a:E}{e:Mi.Env}{b:Bool}(h:a e=.ok (.bl b)):cB a e=.ok b:=by unfold cB;rw[h];rfl
theorem cM{ρ : List (Option Nat)}{it:I}{tg:Tg}{c:C}{a:E}{e:Mi.Env}{xs ys:List D}(h:it e=.ok xs)(hl:xs.length≤16777216)(hc:dJ tg c a (rm ρ e) xs=.ok ys):bN ρ it tg c a e=.ok (.lst ys):=by
 unfold bN;rw[h,aG,aq hl,hc,aG]
theorem fY{a:E}{e:Mi.Env}{n:Int}(h:a e=.ok (.int n))(hr:okR n):bV a e=.ok (bQ 0 n):=by
 unfold bV;rw[h,aG,wu,aG,aq hr]
theorem cP{it:I}{tg:Tg}{b:S}{e:Mi.Env}{xs:List D}(h:it e=.ok xs):eG it tg b e=qw tg b xs e:=by unfold eG;rw[h];rfl
theorem dg{a:E}{e:Mi.Env}{x:D}{xs:List D}(h:a e=.ok x)(hx:Jl x=.ok xs):ie a e=.ok xs:=by unfold ie;rw[h,aG,hx]
theorem jo{i:Nat}{a:E}{e:Mi.Env}{d:D}{ds:List D}(h:a e=.ok d)(hg:getL e i=.ok ds)(hl:ds.length < 16777216):bJ i a e=.ok (.nx (putL e i (ds++[d]))):=by
 unfold bJ;rw[h,aG,hg,aG,aq hl]
theorem fX{f:List D→Rs D}{a:E}{e:Mi.Env}{x:D}(h:a e=.ok x):mN f [a] e=f [x]:=by unfold mN;rw[jL,h];rfl
theorem Af{f:List D→Rs D}{a b:E}{e:Mi.Env}{x y:D}(h:a e=.ok x)(h':b e=.ok y):mN f [a,b] e=f [x,y]:=by unfold mN;rw[jL,h,aG,jL,h'];rfl
theorem Qe{a:E}{e:Mi.Env}{x:D}(h:a e=.ok x):mN d9 [a] e=.ok (.lst [x]):=by
 rw[fX h]
 exact aq (by simp)
theorem lG{a b:E}{e:Mi.Env}{x y:D}(h:a e=.ok x)(h':b e=.ok y):mN dTup [a,b] e=.ok (.tup [x,y]):=by
 rw[Af h h']
 exact aq (by simp)
theorem lR{f:Fn}{a:EW}{e:Mi.Env}{x:W}{d:D}(h:a e=.ok x)(hf:f [x]=.ok (.d d)):bf f [a] e=.ok d:=by unfold bf vJ;rw[dR,h];simp only[aG,dR,hf,Hg]
theorem call2{f:Fn}{a b:EW}{e:Mi.Env}{x y:W}{d:D}(h:a e=.ok x)(h':b e=.ok y)(hf:f [x,y]=.ok (.d d)):bf f [a,b] e=.ok d:=by unfold bf vJ;rw[dR,h,aG,dR,h'];simp only[aG,dR,hf,Hg]
theorem Be{f:Fn}{a b c:EW}{e:Mi.Env}{x y z:W}{d:D}(h:a e=.ok x)(h':b e=.ok y)(h'':c e=.ok z)(hf:f [x,y,z]=.ok (.d d)):bf f [a,b,c] e=.ok d:=by unfold bf vJ;rw[dR,h,aG,dR,h',aG,dR,h''];simp only[aG,dR,hf,Hg]
theorem cW{α : Type}{tg:Tg}{c:C}{a:E}{e:Mi.Env}(f g:α→D)(p:α→Bool):∀ (xs:List α),(∀ x∈xs,∃ e1,tg.put (f x) e=.ok e1∧c e1=.ok (p x)∧(p x=true→a e1=.ok (g x)))→dJ tg c a e (xs.map f)=.ok ((xs.filter p).map g)
 | [],_=>rfl
 | x::r,h=>by
  obtain⟨e1,h1,h2,h3⟩:=h x List.mem_cons_self
  have ih:=cW (tg:=tg) (c:=c) (a:=a) (e:=e) f g p r fun y hy=>h y (List.mem_cons_of_mem _ hy)
  rw[List.map_cons,dJ,h1,aG,h2,aG]
  cases hp:p x with
  | true=>rw[if_pos rfl,h3 hp,aG,ih,aG,List.filter_cons_of_pos hp];rfl
  | false=>rw[if_neg Bool.false_ne_true,ih,List.filter_cons_of_neg (by rw[hp];exact Bool.false_ne_true)]
theorem dW{tg:Tg}{body:S}(Inv:Nat→Mi.Env→Prop):∀ (xs:List D) (k:Nat),(∀ i x e,xs[i]? = some x→Inv (k+i) e→∃ e1 e2,tg.put x e=.ok e1∧body e1=.ok (.nx e2)∧Inv (k+i+1) e2)→∀ e,Inv k e→∃ e',qw tg body xs e=.ok (.nx e')∧Inv (k+xs.length) e'
 | [],k,_,e,h=>⟨e,rfl,h⟩
 | x::r,k,hs,e,h=>by
  obtain⟨e1,e2,h1,h2,h3⟩:=hs 0 x e rfl h
  obtain⟨e',h4,h5⟩:=dW Inv r (k+1) (fun i y e hy hi=>by
   have:=hs (i+1) y e (by simpa using hy) (by rw[show k+(i+1)=k+1+i by omega];exact hi)
   rw[show k+(i+1)+1=k+1+i+1 by omega] at this
   exact this) e2 h3
  refine⟨e',?_,by rw[List.length_cons,show k+(r.length+1)=k+1+r.length by omega];exact h5⟩
  rw[qw,h1,aG,h2,aG]
  exact h4
end Mi
namespace Mr
open PySem Mi
abbrev Ar:=Str×Str
def pairD(p:Ar):D:=.tup [.str p.1,.str p.2]
def fB(names:List Str):D:=.tup (names.map D.str)
def Hy(aj:List Ar):D:=.tup (aj.map pairD)
def aW(names:List Str)(aj:List Ar):D:=.tup [fB names,Hy aj]
def aL(xs:List Str):D:=.lst (xs.map D.str)
theorem at0{α : Type}(a:α)(r:List α):sX (a::r) 0=some a:=by simp[sX,zE]
theorem at1{α : Type}(a b:α)(r:List α):sX (a::b::r) 1=some b:=by
 unfold sX zE
 rw[if_pos (by decide),if_pos (by simp only[List.length_cons];omega)];rfl
theorem Kq(names:List Str)(aj:List Ar):bH (aW names aj) (.int 0)=.ok (fB names):=by
 unfold aW bH
 simp[at0]
theorem Th(names:List Str)(aj:List Ar):bH (aW names aj) (.int 1)=.ok (Hy aj):=by
 unfold aW bH
 simp[at1]
theorem Ln{names asked:List Str}(h:∀ x∈asked,x∈names):dC [.d (fB names),.d (aL asked)]=.ok (.d .non):=by
 have key:∀ (xs:List Str) (o:Option W),(∀ x∈xs,x∈names)→∃ o',qw (.n 2) (jP (cB (m2 dF (mV 2) (mV 0))) CK bT) (xs.map D.str) [some (.d (fB names)),some (.d (aL asked)),o]=.ok (.nx [some (.d (fB names)),some (.d (aL asked)),o']):=by
  intro xs
  induction xs with
  | nil=>exact fun o _=>⟨o,rfl⟩
  | cons x r ih =>
   intro o hx
   obtain⟨o',e⟩:=ih (some (.d (.str x))) fun y hy=>hx y (List.mem_cons_of_mem _ hy)
   refine⟨o',?_⟩
   rw[List.map_cons,qw]
   have:x∈names:=hx x List.mem_cons_self
   simp only[fB,Yu,List.set_cons_succ,List.set_cons_zero,jP,cB,m2,mV,bT,aG,List.getElem?_cons_succ,List.getElem?_cons_zero,Gw,this,decide_true,Bool.not_true,Hj,Bool.false_eq_true,if_false]
   exact e
 obtain⟨o',e⟩:=key asked none h
 unfold aL at e
 unfold dC lU
 rw[Ji]
 simp only[eG,ie,mV,aL,Nat.reduceSub,List.replicate_succ,List.replicate_zero,List.cons_append,List.nil_append,List.getElem?_cons_succ,List.getElem?_cons_zero,aG,Ti,e,Wa]
def bO(aj:List Ar)(x:Str):List Str:=(aj.filter fun p=>decide (p.2=x)).map (·.1)
def ready(aj:List Ar)(told:List Str)(x:Str):Bool:=!decide (x∈told) && (bO aj x).all fun y=>decide (y∈told)
def nxt(names:List Str)(aj:List Ar)(told:List Str):Option Str:=names.find? (ready aj told)
theorem lO{aj:List Ar}{x:Str}(hl:aj.length≤64):(bO aj x).length≤64:=by
 unfold bO
 rw[List.length_map]
 exact Nat.le_trans (List.length_filter_le _ _) hl
structure Net(names:List Str)(aj:List Ar):Prop where
 nd:names.Nodup
 pos:1≤names.length
 le:names.length≤8
 al:aj.length≤64
 tl:∀ p∈aj,p.1∈names
 rk:∃ r:Str→Int,∀ p∈aj,r p.1 < r p.2
theorem iw{aj:List Ar}{x y:Str}:y∈bO aj x↔(y,x)∈aj:=by
 unfold bO
 constructor
 ·intro h
  obtain⟨p,hp,rfl⟩:=List.mem_map.mp h
  obtain⟨h1,h2⟩:=List.mem_filter.mp hp
  have:p.2=x:=by simpa using h2
  rw[← this];exact h1
 ·intro h
  exact List.mem_map.mpr ⟨(y,x),List.mem_filter.mpr ⟨h,by simp⟩,rfl⟩
theorem PQ{α : Type}(f:α→Int):∀ (l:List α),l≠[]→∃ x∈l,∀ y∈l,f x≤f y
 | [],h=>absurd rfl h
 | [a],_=>⟨a,by simp,by simp⟩
 | a::b::r,_=>by
  obtain⟨x,hx,hm⟩:=PQ f (b::r) (by simp)
  by_cases h:f a≤f x
  ·refine⟨a,List.mem_cons_self,fun y hy=>?_⟩
   rcases List.mem_cons.mp hy with rfl|hy
   ·exact Int.le_refl _
   ·exact Int.le_trans h (hm y hy)
  ·refine⟨x,List.mem_cons_of_mem _ hx,fun y hy=>?_⟩
   rcases List.mem_cons.mp hy with rfl|hy
   ·omega
   ·exact hm y hy
def ord(names:List Str)(aj:List Ar):Nat→List Str
 | 0=>[]
 | k+1=>match nxt names aj (ord names aj k) with
  | some x=>ord names aj k++[x]
  | none=>ord names aj k
theorem dZ{α : Type}[DecidableEq α]:∀ {l m:List α},l.Nodup→(∀ x∈l,x∈m)→l.length≤m.length
 | [],_,_,_=>Nat.zero_le _
 | a::l,m,nd,h=>by
  have nd:=List.nodup_cons.mp nd
  have:l.length≤(m.erase a).length:=dZ nd.2 fun x hx=>(List.mem_erase_of_ne (fun z:x=a=>nd.1 (z ▸ hx))).mpr (h x (List.mem_cons_of_mem _ hx))
  have hm:=h a List.mem_cons_self
  rw[List.length_erase_of_mem hm] at this
  have:0 < m.length:=List.length_pos_of_mem hm
  rw[List.length_cons];omega
end Mr
namespace Mr
open PySem Mi
theorem rT:∀ xs ys:List Str,dY (xs.map D.str) (ys.map D.str)=decide (xs=ys)
 | [],[]=>rfl
 | [],_::_=>rfl
 | _::_,[]=>rfl
 | x::xs,y::ys=>by
  rw[List.map_cons,List.map_cons,dY,ir,rT xs ys]
  by_cases h1:x=y<;>by_cases h2:xs=ys<;>simp[h1,h2]
end Mr
namespace My
def wl:List Nat:=[101,116,97,111,105,110,115,104,114,100,108,117,99,109,102,119,121,112,118,98,103,107,113,106,120,122]
def oK(n:Int):Nat:=wl.getD (n % 26).toNat 0
def jt(c:Int):List Nat:=(List.range 8).map fun (k:Nat)=>oK (c / (4+3 * (k:Int)))
def jJ(c:Int)(n:Nat):List Nat:=(List.range n).map fun (k:Nat)=>oK (c / 32+5 * (k:Int)+(k:Int) * (k:Int))
def words(c:Int)(many:Nat):List (List Nat) :=
 if c % 4 < 2 then
  if c % 4=0 then (List.range many).map fun (k:Nat)=>(jt c).take (k+1)
  else (List.range many).map fun (k:Nat)=>(jt c).drop (7 - k)
 else
  (List.range many).map fun (k:Nat)=>(jJ c (c / 4 % 8).toNat).take (c / 256 % (c / 4 % 8+1)).toNat++[oK (c / 7+5 * (k:Int))]++(jJ c (c / 4 % 8).toNat).drop (c / 256 % (c / 4 % 8+1)).toNat
def lV(x:List Nat):Prop:=1≤x.length∧x.length≤8∧∀ c∈x,97≤c∧c≤122
theorem HB:∀ c∈wl,97≤c∧c≤122:=by decide
theorem XF:wl.Nodup:=by decide
theorem Cj:wl.length=26:=by decide
theorem yr(n:Int):oK n∈wl:=by
 unfold oK
 have h1:=Int.emod_nonneg n (b:=26) (by decide)
 have h2:=Int.emod_lt_of_pos n (b:=26) (by decide)
 have h3:(n % 26).toNat < wl.length:=by rw[Cj];omega
 rw[List.getD_eq_getElem?_getD,List.getElem?_eq_getElem h3]
 exact List.getElem_mem h3
theorem Qd{n m:Int}(h:oK n=oK m):n % 26=m % 26:=by
 unfold oK at h
 have h1:=Int.emod_nonneg n (b:=26) (by decide)
 have h2:=Int.emod_lt_of_pos n (b:=26) (by decide)
 have h3:(n % 26).toNat < wl.length:=by rw[Cj];omega
 have h1':=Int.emod_nonneg m (b:=26) (by decide)
 have h2':=Int.emod_lt_of_pos m (b:=26) (by decide)
 have h3':(m % 26).toNat < wl.length:=by rw[Cj];omega
 rw[List.getD_eq_getElem?_getD,List.getElem?_eq_getElem h3,List.getD_eq_getElem?_getD,List.getElem?_eq_getElem h3'] at h
 have:=(List.getElem_inj XF).mp h
 omega
theorem gO(c:Int):(jt c).length=8:=by simp[jt]
theorem lB(c:Int)(n:Nat):(jJ c n).length=n:=by simp[jJ]
theorem zR(c:Int):∀ x∈jt c,97≤x∧x≤122:=fun x hx=>by
 obtain⟨k,_,rfl⟩:=List.mem_map.mp hx
 exact HB _ (yr _)
theorem zQ(c:Int)(n:Nat):∀ x∈jJ c n,97≤x∧x≤122:=fun x hx=>by
 obtain⟨k,_,rfl⟩:=List.mem_map.mp hx
 exact HB _ (yr _)
theorem mZ(c:Int)(many:Nat):(words c many).length=many:=by
 unfold words;split<;>(try split)<;>simp
theorem kY{α : Type}(f:Nat→α)(n:Nat)(h:∀ i j,i < n→j < n→f i=f j→i=j):((List.range n).map f).Nodup:=by
 induction n with
 | zero=>simp
 | succ n ih =>
  rw[List.range_succ,List.map_append,List.map_singleton]
  rw[List.nodup_append]
  refine⟨ih fun i j hi hj=>h i j (by omega) (by omega),by simp,fun a ha b hb=>?_⟩
  obtain⟨i,hi,rfl⟩:=List.mem_map.mp ha
  have hi:=List.mem_range.mp hi
  have hb:b=f n:=by simpa using hb
  subst hb
  intro e
  have:=h i n (by omega) (by omega) e
  omega
theorem pP(c:Int)(many:Nat)(hm:many≤8):(words c many).Nodup:=by
 unfold words
 split
 ·split
  ·refine kY _ _ fun i j hi hj e=>?_
   have:=congrArg List.length e
   rw[List.length_take,List.length_take,gO] at this
   omega
  ·refine kY _ _ fun i j hi hj e=>?_
   have:=congrArg List.length e
   rw[List.length_drop,List.length_drop,gO] at this
   omega
 ·refine kY _ _ fun i j hi hj e=>?_
  rw[List.append_assoc,List.append_assoc] at e
  have e1:=List.append_cancel_left e
  have e2:=List.append_cancel_right e1
  have e3:oK (c / 7+5 * (i:Int))=oK (c / 7+5 * (j:Int)):=by simpa using e2
  have:=Qd e3
  omega
theorem bU(c:Int)(many:Nat)(hm:many≤8):∀ x∈words c many,lV x:=by
 unfold words
 split
 ·split
  ·intro x hx
   obtain⟨k,hk,rfl⟩:=List.mem_map.mp hx
   have hk:=List.mem_range.mp hk
   refine⟨by rw[List.length_take,gO];omega,by rw[List.length_take,gO];omega,fun y hy=>zR c y (List.mem_of_mem_take hy)⟩
  ·intro x hx
   obtain⟨k,hk,rfl⟩:=List.mem_map.mp hx
   have hk:=List.mem_range.mp hk
   refine⟨by rw[List.length_drop,gO];omega,by rw[List.length_drop,gO];omega,fun y hy=>zR c y (List.mem_of_mem_drop hy)⟩
 ·intro x hx
  obtain⟨k,hk,rfl⟩:=List.mem_map.mp hx
  have h1:=Int.emod_nonneg (c / 4) (b:=8) (by decide)
  have h2:=Int.emod_lt_of_pos (c / 4) (b:=8) (by decide)
  have h3:=Int.emod_nonneg (c / 256) (b:=c / 4 % 8+1) (by omega)
  have h4:=Int.emod_lt_of_pos (c / 256) (b:=c / 4 % 8+1) (by omega)
  have hl:((jJ c (c / 4 % 8).toNat).take (c / 256 % (c / 4 % 8+1)).toNat++[oK (c / 7+5 * (k:Int))]++(jJ c (c / 4 % 8).toNat).drop (c / 256 % (c / 4 % 8+1)).toNat).length=(c / 4 % 8).toNat+1:=by
   rw[List.length_append,List.length_append,List.length_take,List.length_drop,lB];simp;omega
  refine⟨by rw[hl];omega,by rw[hl];omega,fun y hy=>?_⟩
  rcases List.mem_append.mp hy with hy|hy
  ·rcases List.mem_append.mp hy with hy|hy
   ·exact zQ c _ y (List.mem_of_mem_take hy)
   ·have:y=oK (c / 7+5 * (k:Int)):=by simpa using hy
    subst this;exact HB _ (yr _)
  ·exact zQ c _ y (List.mem_of_mem_drop hy)
end My
namespace Mi
open PySem
def S'(l:List Nat):Str:=⟨l.toArray⟩
theorem w5(l:List Nat):(S' l).cps.toList=l:=rfl
theorem lg(l:List Nat):(S' l).length=l.length:=by simp[S',Str.length]
theorem Eu{x y:Str}(h:x.cps.toList=y.cps.toList):x=y:=by
 obtain⟨a⟩:=x
 obtain⟨b⟩:=y
 have h:a.toList=b.toList:=h
 rw[Array.toList_inj.mp h]
theorem Xp{l m:List Nat}(h:S' l=S' m):l=m:=by
 have:=congrArg (fun x:Str=>x.cps.toList) h
 simpa [S'] using this
theorem Xq(l m:List Nat):S' l++S' m=S' (l++m):=by
 show (⟨l.toArray++m.toArray⟩ : Str)=⟨(l++m).toArray⟩
 simp
theorem yu:∀ l:List Str,(Str.join "" l).cps.toList=l.flatMap (·.cps.toList)
 | []=>by simp[Str.join,Str.empty]
 | [x]=>by simp[Str.join]
 | x::y::r=>by
  have ih:=yu (y::r)
  have e:Str.join "" (x::y::r)=x ++ "" ++ Str.join "" (y::r):=rfl
  have e2:("" : Str).cps.toList=[]:=by decide +kernel
  rw[e]
  show ((x.cps++("" : Str).cps)++(Str.join "" (y::r)).cps).toList=_
  rw[Array.toList_append,Array.toList_append,e2,ih]
  simp
theorem join_ones(l:List Nat):Str.join "" (l.map fun x=>S' [x])=S' l:=by
 refine Eu ?_
 rw[yu,w5]
 induction l with
 | nil=>rfl
 | cons a r ih=>rw[List.map_cons,List.flatMap_cons,ih];rfl
theorem Gy{α : Type}(xs:List α)(k:Nat):oX xs none (some (k:Int))=xs.take k:=by
 show (xs.drop 0).take ((if (k:Int) < 0 then ((k:Int)+(xs.length:Int)).toNat else min (k:Int).toNat xs.length) - 0)=_
 rw[if_neg (by omega),List.drop_zero,Nat.sub_zero,Int.toNat_natCast]
 rcases Nat.le_total k xs.length with h|h
 ·rw[Nat.min_eq_left h]
 ·rw[Nat.min_eq_right h,List.take_of_length_le (Nat.le_refl _),List.take_of_length_le h]
theorem Gx{α : Type}(xs:List α)(k:Nat):oX xs (some (k:Int)) none=xs.drop k:=by
 show (xs.drop (if (k:Int) < 0 then ((k:Int)+(xs.length:Int)).toNat else min (k:Int).toNat xs.length)).take (xs.length - (if (k:Int) < 0 then ((k:Int)+(xs.length:Int)).toNat else min (k:Int).toNat xs.length))=_
 rw[if_neg (by omega),Int.toNat_natCast]
 rcases Nat.le_total k xs.length with h|h
 ·rw[Nat.min_eq_left h]
  exact List.take_of_length_le (by rw[List.length_drop];exact Nat.le_refl _)
 ·rw[Nat.min_eq_right h,List.drop_of_length_le (Nat.le_refl _),List.drop_of_length_le h];simp
theorem v7(l:List Nat)(k:Nat):qy (S' l) none (some (k:Int))=S' (l.take k):=by
 unfold qy;rw[w5,Gy];rfl
theorem v5(l:List Nat)(k:Nat):qy (S' l) (some (k:Int)) none=S' (l.drop k):=by
 unfold qy;rw[w5,Gx];rfl
def dI:Str := "etaoinshrdlucmfwypvbgkqjxz"
theorem IK:dI.cps.toList=My.wl:=by decide +kernel
theorem Mh:dI.length≤16777216:=by decide +kernel
theorem K6{α : Type}{xs:List α}{i:Int}(h0:0≤i)(h1:i < xs.length)(d:α):sX xs i=some (xs.getD i.toNat d):=by
 unfold sX zE
 rw[if_pos h0,if_pos h1]
 have h3:i.toNat < xs.length:=by omega
 show xs[i.toNat]? = _
 rw[List.getD_eq_getElem?_getD,List.getElem?_eq_getElem h3];rfl
theorem Ui(n:Int):sX dI.cps.toList (n % 26)=some (My.oK n):=by
 rw[IK]
 have h1:=Int.emod_nonneg n (b:=26) (by decide)
 have h2:=Int.emod_lt_of_pos n (b:=26) (by decide)
 exact K6 h1 (by rw[My.Cj];omega) 0
theorem jD{cs:List Int}{i:Int}(h0:0≤i)(h1:i < cs.length):bH (.lst (cs.map D.int)) (.int i)=.ok (.int (cs.getD i.toNat 0)):=by
 show pJ (sX (cs.map D.int) i)=_
 rw[K6 h0 (by rw[List.length_map];exact h1) (.int 0),iJ]
 have h3:i.toNat < cs.length:=by omega
 rw[List.getD_eq_getElem?_getD,List.getElem?_map,List.getD_eq_getElem?_getD,List.getElem?_eq_getElem h3];rfl
theorem Du{cs:List Str}{i:Int}(h0:0≤i)(h1:i < cs.length):bH (.lst (cs.map D.str)) (.int i)=.ok (.str (cs.getD i.toNat Str.empty)):=by
 show pJ (sX (cs.map D.str) i)=_
 rw[K6 h0 (by rw[List.length_map];exact h1) (.str Str.empty),iJ]
 have h3:i.toNat < cs.length:=by omega
 rw[List.getD_eq_getElem?_getD,List.getElem?_map,List.getD_eq_getElem?_getD,List.getElem?_eq_getElem h3];rfl
theorem sI(n:Nat):bQ 0 (n:Int)=(List.range n).map fun (k:Nat)=>D.int (k:Int):=by
 unfold bQ
 rw[show ((n:Int) - 0).toNat=n by omega]
 exact List.map_congr_left fun k _=>by rw[Int.zero_add]
theorem cF(n:Nat):(bQ 0 (n:Int)).length=n:=by rw[sI];simp
theorem fQ{n i:Nat}{x:D}(h:(bQ 0 (n:Int))[i]? = some x):i < n∧x=.int (i:Int):=by
 rw[sI,List.getElem?_map] at h
 cases hr:(List.range n)[i]? with
 | none=>rw[hr] at h;cases h
 | some k =>
  rw[hr] at h
  obtain⟨h1,h2⟩:=List.getElem?_eq_some_iff.mp hr
  rw[List.getElem_range] at h2
  subst h2
  rw[List.length_range] at h1
  exact⟨h1,(Option.some.inj h).symm⟩
theorem jZ{tg:Tg}{a:E}{e:Mi.Env}(g:Nat→D)(n:Nat)(h:∀ k < n,∃ e1,tg.put (.int (k:Int)) e=.ok e1∧a e1=.ok (g k)):dJ tg gU a e (bQ 0 (n:Int))=.ok ((List.range n).map g):=by
 rw[sI,cW (fun (k:Nat)=>D.int (k:Int)) g (fun _=>true) (List.range n) fun k hk=>?_]
 ·rw[List.filter_eq_self.mpr fun _ _=>rfl]
 ·obtain⟨e1,h1,h2⟩:=h k (List.mem_range.mp hk)
  exact⟨e1,h1,rfl,fun _=>h2⟩
theorem jh{i:Int}(h0:-1000≤i)(h1:i≤1000):okR i:=by unfold okR;omega
theorem jA{i j:Int}(h0:-(2 ^ 64) < i)(h1:i < 2 ^ 64):rn i j:=.inl ⟨h0,h1⟩
theorem J4{i j:Int}(h0:-(2 ^ 64) < j)(h1:j < 2 ^ 64):rn i j:=.inr ⟨h0,h1⟩
theorem bD{j:Int}(h0:0 < j)(h1:j < 2 ^ 64):rA j:=by
 refine⟨h0,?_⟩
 have h2:j.natAbs < 2 ^ 64:=by omega
 have h3:j.natAbs≠0:=by omega
 have:=(Nat.log2_lt h3).mpr h2
 omega
end Mi
namespace Mr
open PySem Mi
open My (words jt jJ oK gO lB mZ pP)
theorem yM(n:Int):bH (.str dI) (.int (n % 26))=.ok (.str (S' [oK n])):=by
 show aU _ _=_
 rw[aq Mh,Ui];rfl
theorem yw(l:List Nat)(h:l.length≤8):KJ (.str "") (.lst (l.map fun x=>D.str (S' [x])))=.ok (.str (S' l)):=by
 show (pJ (nR (l.map fun x=>D.str (S' [x])))).bind _=_
 have e:l.map (fun x=>D.str (S' [x]))=(l.map fun x=>S' [x]).map D.str:=by rw[List.map_map];rfl
 rw[e,uA,iJ,aG,aq ?_,join_ones]
 have h1:((l.map fun x=>S' [x]).map (·.length)).sum=l.length:=by
  clear h e
  induction l with
  | nil=>rfl
  | cons a r ih=>rw[List.map_cons,List.map_cons,List.sum_cons,ih,lg,List.length_cons];simp;omega
 have h2:("" : Str).length=0:=by decide +kernel
 rw[h1,h2];omega
theorem st1(c:Int)(k:Nat)(d32:rA 32)(m5:rn 5 (k:Int))(mk:rn (k:Int) k):(m2 bz (m2 bz (m2 eE (mV 1) (mC (.int 32))) (m2 cD (mC (.int 5)) (mV 2))) (m2 cD (mV 2) (mV 2))) [some (.d (.str dI)),some (.d (.int c)),some (.d (.int k))]=.ok (.int (c / 32+5 * (k:Int)+(k:Int) * (k:Int))) :=
 (aB (aB (aB rfl rfl (aq d32)) (aB rfl rfl (aq m5)) rfl) (aB rfl rfl (aq mk)) rfl)
theorem st2(c:Int)(e:Mi.Env)(a:E)(h:a e=.ok (.int c))(h0:e[0]? = some (some (.d (.str dI)))):m2 bH (mV 0) (m2 cu a (mC (.int 26))) e=.ok (.str (S' [oK c])) :=
 aB (x:=.str dI) (by unfold mV;rw[h0]) (aB h rfl (aq (by decide))) (yM _)
theorem Pq{k n:Nat}(h:k < n)(h8:n < 8):rn (k:Int) k:=jA (by omega) (by omega)
theorem size_of(c:Int):∃ n:Nat,c / 4 % 8=(n:Int)∧n < 8:=by
 have z1:=Int.emod_nonneg (c / 4) (b:=8) (by decide)
 have z2:=Int.emod_lt_of_pos (c / 4) (b:=8) (by decide)
 exact⟨(c / 4 % 8).toNat,by omega,by omega⟩
theorem at_of(c:Int)(n:Nat):∃ t:Nat,c / 256 % ((n:Int)+1)=(t:Int)∧t≤n:=by
 have z3:=Int.emod_nonneg (c / 256) (b:=(n:Int)+1) (by omega)
 have z4:=Int.emod_lt_of_pos (c / 256) (b:=(n:Int)+1) (by omega)
 exact⟨(c / 256 % ((n:Int)+1)).toNat,by omega,by omega⟩
theorem NB(c:Int)(m:Nat)(hm:m≤8):nC [.d (.int c),.d (.int (m:Int))]=.ok (.d (aL ((words c m).map S'))):=by
 unfold nC Bo
 rw[Jh]
 have hr8:okR 8:=jh (by decide) (by decide)
 have hrm:okR (m:Int):=jh (by omega) (by omega)
 have hl0:(PySem.Str.ofString "etaoinshrdlucmfwypvbgkqjxz")=dI:=rfl
 have g4:∀ r:Rs D,aU ((0:Int) < 4) r=r:=fun r=>aq (by decide)
 have g26:∀ r:Rs D,aU ((0:Int) < 26) r=r:=fun r=>aq (by decide)
 have g8:∀ r:Rs D,aU ((0:Int) < 8) r=r:=fun r=>aq (by decide)
 by_cases c1:c % 4 < 2
 ·have Ao:dJ (.n 2) gU (m2 bH (mV 0) (m2 cu (m2 eE (mV 1) (m2 bz (mC (.int 4)) (m2 cD (mC (.int 3)) (mV 2)))) (mC (.int 26)))) [some (.d (.str dI)),some (.d (.int c)),none] (bQ 0 8)=.ok ((jt c).map fun x=>D.str (S' [x])):=by
   have:=jZ (tg:=.n 2) (a:=m2 bH (mV 0) (m2 cu (m2 eE (mV 1) (m2 bz (mC (.int 4)) (m2 cD (mC (.int 3)) (mV 2)))) (mC (.int 26)))) (e:=[some (.d (.str dI)),some (.d (.int c)),none]) (fun k=>D.str (S' [oK (c / (4+3 * (k:Int)))])) 8 fun k hk=>⟨[some (.d (.str dI)),some (.d (.int c)),some (.d (.int k))],rfl,by
    simp only[m2,mV,List.getElem?_cons_zero,List.getElem?_cons_succ,mC,aG,PK]
    rw[aq (jA (by decide) (by decide))]
    simp only[aG,vB,div_ii]
    rw[aq (bD (by omega) (by omega))]
    simp only[aG,ql,g26,yM]⟩
   rw[show ((8:Nat):Int)=8 from rfl] at this
   rw[this]
   unfold jt
   rw[List.map_map];rfl
  have hp:rm [some 2,some 0,none] [some (.d (.int c)),some (.d (.int (m:Int))),some (.d (.str dI)),none,none,none,none]=[some (.d (.str dI)),some (.d (.int c)),none]:=rfl
  have hj:=yw (jt c) (by rw[gO];omega)
  have hw8:(bQ 0 8).length≤16777216:=by rw[show (8:Int)=((8:Nat):Int) from rfl,cF];omega
  have hwm:(bQ 0 (m:Int)).length≤16777216:=by rw[cF];omega
  by_cases c2:c % 4=0
  ·have hc:dJ (.n 1) gU (gR DN (mV 0) none (some (m2 bz (mV 1) (mC (.int 1))))) [some (.d (.str (S' (jt c)))),none] (bQ 0 (m:Int))=.ok ((words c m).map fun l=>D.str (S' l)):=by
    rw[jZ (fun k=>D.str (S' ((jt c).take (k+1)))) m fun k hk=>⟨[some (.d (.str (S' (jt c)))),some (.d (.int k))],rfl,by
     simp only[gR,mV,List.getElem?_cons_zero,my,m2,List.getElem?_cons_succ,mC,aG,vB,wu,VN]
     rw[aq (by rw[lg,gO];omega),show (k:Int)+1=((k+1:Nat):Int) by omega,v7]⟩]
    unfold words
    rw[if_pos c1,if_pos c2,List.map_map];rfl
   have hp2:∀ z,rm [some 3,none] [some (.d (.int c)),some (.d (.int (m:Int))),some (.d (.str dI)),some z,none,none,none]=[some z,none]:=fun _=>rfl
   have hmod:cB (m2 Ax (m2 cu (mV 0) (mC (.int 4))) (mC (.int 2))) [some (.d (.int c)),some (.d (.int (m:Int))),some (.d (.str dI)),none,none,none,none]=.ok true :=
    bR ((aB (aB rfl rfl (g4 _)) rfl rfl).trans (by rw[Gf,decide_eq_true c1]))
   have Qs:cB (m2 iV (m2 cu (mV 0) (mC (.int 4))) (mC (.int 0))) [some (.d (.int c)),some (.d (.int (m:Int))),some (.d (.str dI)),some (.d (.str (S' (jt c)))),none,none,none]=.ok true :=
    bR ((aB (aB rfl rfl (g4 _)) rfl rfl).trans (by rw[iU,decide_eq_true c2]))
   show Rs.bind _ mQ=_
   rw[aH (e':=[some (.d (.int c)),some (.d (.int (m:Int))),some (.d (.str dI)),none,none,none,none]) (aV rfl)]
   refine(congrArg (fun r=>Rs.bind r mQ) (pX (w:=.d (aL ((words c m).map S'))) ?_)).trans rfl
   rw[jM hmod,aH (e':=[some (.d (.int c)),some (.d (.int (m:Int))),some (.d (.str dI)),some (.d (.str (S' (jt c)))),none,none,none]) (aV (aB rfl (cM (fY rfl hr8) hw8 Ao) hj))]
   rw[pX ((jM Qs).trans (eQ (dw (cM (fY rfl hrm) hwm hc))))]
   rw[aL,List.map_map]
   rfl
  ·have hc:dJ (.n 1) gU (gR DN (mV 0) (some (m2 qx (mC (.int 7)) (mV 1))) none) [some (.d (.str (S' (jt c)))),none] (bQ 0 (m:Int))=.ok ((words c m).map fun l=>D.str (S' l)):=by
    rw[jZ (fun k=>D.str (S' ((jt c).drop (7 - k)))) m fun k hk=>⟨[some (.d (.str (S' (jt c)))),some (.d (.int k))],rfl,by
     simp only[gR,mV,List.getElem?_cons_zero,my,m2,mC,List.getElem?_cons_succ,aG,VD,wu,VN]
     rw[aq (by rw[lg,gO];omega),show (7:Int) - (k:Int)=((7 - k:Nat):Int) by omega,v5]⟩]
    unfold words
    rw[if_pos c1,if_neg c2,List.map_map];rfl
   have hp2:∀ z,rm [some 3,none] [some (.d (.int c)),some (.d (.int (m:Int))),some (.d (.str dI)),some z,none,none,none]=[some z,none]:=fun _=>rfl
   have hmod:cB (m2 Ax (m2 cu (mV 0) (mC (.int 4))) (mC (.int 2))) [some (.d (.int c)),some (.d (.int (m:Int))),some (.d (.str dI)),none,none,none,none]=.ok true :=
    bR ((aB (aB rfl rfl (g4 _)) rfl rfl).trans (by rw[Gf,decide_eq_true c1]))
   have Qs:cB (m2 iV (m2 cu (mV 0) (mC (.int 4))) (mC (.int 0))) [some (.d (.int c)),some (.d (.int (m:Int))),some (.d (.str dI)),some (.d (.str (S' (jt c)))),none,none,none]=.ok false :=
    bR ((aB (aB rfl rfl (g4 _)) rfl rfl).trans (by rw[iU,decide_eq_false c2]))
   show Rs.bind _ mQ=_
   rw[aH (e':=[some (.d (.int c)),some (.d (.int (m:Int))),some (.d (.str dI)),none,none,none,none]) (aV rfl)]
   refine(congrArg (fun r=>Rs.bind r mQ) (pX (w:=.d (aL ((words c m).map S'))) ?_)).trans rfl
   rw[jM hmod,aH (e':=[some (.d (.int c)),some (.d (.int (m:Int))),some (.d (.str dI)),some (.d (.str (S' (jt c)))),none,none,none]) (aV (aB rfl (cM (fY rfl hr8) hw8 Ao) hj))]
   rw[aH (jm Qs),eQ (dw (cM (fY rfl hrm) hwm hc))]
   rw[aL,List.map_map]
   rfl
 ·obtain⟨n,hn,hn8⟩:=size_of c
  obtain⟨t,ht,ht8⟩:=at_of c n
  have hrn:okR (n:Int):=jh (by omega) (by omega)
  have d4:rA 4:=bD (by decide) (by decide)
  have d32:rA 32:=bD (by decide) (by decide)
  have aaA:rA 256:=bD (by decide) (by decide)
  have d7:rA 7:=bD (by decide) (by decide)
  have Y0:dJ (.n 2) gU (m2 bH (mV 0) (m2 cu (m2 bz (m2 bz (m2 eE (mV 1) (mC (.int 32))) (m2 cD (mC (.int 5)) (mV 2))) (m2 cD (mV 2) (mV 2))) (mC (.int 26)))) [some (.d (.str dI)),some (.d (.int c)),none] (bQ 0 (n:Int))=.ok ((jJ c n).map fun x=>D.str (S' [x])):=by
   rw[jZ (fun k=>D.str (S' [oK (c / 32+5 * (k:Int)+(k:Int) * (k:Int))])) n fun k hk=>⟨[some (.d (.str dI)),some (.d (.int c)),some (.d (.int k))],rfl,by
    exact st2 _ _ _ (st1 c k d32 (jA (by decide) (by decide)) (Pq hk hn8)) rfl⟩]
   unfold jJ
   rw[List.map_map];rfl
  have hp:rm [some 2,some 0,none] [some (.d (.int c)),some (.d (.int (m:Int))),some (.d (.str dI)),none,some (.d (.int (n:Int))),none,none]=[some (.d (.str dI)),some (.d (.int c)),none]:=rfl
  have hj:=yw (jJ c n) (by rw[lB];omega)
  have hwn:(bQ 0 (n:Int)).length≤16777216:=by rw[cF];omega
  have hwm:(bQ 0 (m:Int)).length≤16777216:=by rw[cF];omega
  have hc:dJ (.n 4) gU (m2 bz (m2 bz (gR DN (mV 0) none (some (mV 2))) (m2 bH (mV 1) (m2 cu (m2 bz (m2 eE (mV 3) (mC (.int 7))) (m2 cD (mC (.int 5)) (mV 4))) (mC (.int 26))))) (gR DN (mV 0) (some (mV 2)) none))
   [some (.d (.str (S' (jJ c n)))),some (.d (.str dI)),some (.d (.int (t:Int))),some (.d (.int c)),none] (bQ 0 (m:Int))=.ok ((words c m).map fun l=>D.str (S' l)):=by
   rw[jZ (fun k=>D.str (S' ((jJ c n).take t++[oK (c / 7+5 * (k:Int))]++(jJ c n).drop t))) m fun k hk=>⟨[some (.d (.str (S' (jJ c n)))),some (.d (.str dI)),some (.d (.int (t:Int))),some (.d (.int c)),some (.d (.int k))],rfl,by
    have gS:∀ r:Rs D,aU ((S' (jJ c n)).length≤16777216) r=r:=fun r=>aq (by rw[lg,lB];omega)
    have gM:∀ r:Rs D,aU (rn 5 (k:Int)) r=r:=fun r=>aq (jA (by decide) (by decide))
    simp only[m2,gR,mV,List.getElem?_cons_zero,my,List.getElem?_cons_succ,aG,wu,VN,v7,gS,mC,div_ii,aq d7,PK,gM,vB,ql,g26,yM,Rp,v5]
    rw[aq (by rw[lg,lg,List.length_take,lB];simp;omega)]
    simp only[Xq,aG,Rp]
    rw[aq (by rw[lg,lg,List.length_append,List.length_take,List.length_drop,lB];simp;omega)]⟩]
   unfold words
   rw[if_neg c1,List.map_map,hn,ht]
   rfl
  have hmod:cB (m2 Ax (m2 cu (mV 0) (mC (.int 4))) (mC (.int 2))) [some (.d (.int c)),some (.d (.int (m:Int))),some (.d (.str dI)),none,none,none,none]=.ok false :=
   bR ((aB (aB rfl rfl (g4 _)) rfl rfl).trans (by rw[Gf,decide_eq_false c1]))
  show Rs.bind _ mQ=_
  rw[aH (e':=[some (.d (.int c)),some (.d (.int (m:Int))),some (.d (.str dI)),none,none,none,none]) (aV rfl)]
  rw[aH (jm hmod)]
  rw[aH (e':=[some (.d (.int c)),some (.d (.int (m:Int))),some (.d (.str dI)),none,some (.d (.int (n:Int))),none,none]) (aV (d:=.int (n:Int)) ((aB (aB rfl rfl (aq d4)) rfl (g8 _)).trans (by rw[hn])))]
  rw[aH (e':=[some (.d (.int c)),some (.d (.int (m:Int))),some (.d (.str dI)),none,some (.d (.int (n:Int))),some (.d (.str (S' (jJ c n)))),none]) (aV (aB rfl (cM (fY rfl hrn) hwn Y0) hj))]
  rw[aH (e':=[some (.d (.int c)),some (.d (.int (m:Int))),some (.d (.str dI)),none,some (.d (.int (n:Int))),some (.d (.str (S' (jJ c n)))),some (.d (.int (t:Int)))]) (aV (d:=.int (t:Int)) ((aB (aB rfl rfl (aq aaA)) (aB rfl rfl rfl) (aq (by omega))).trans (by rw[ht])))]
  rw[eQ (dw (cM (fY rfl hrm) hwm hc))]
  simp only[aG,Sq,aL,List.map_map]
  rfl
end Mr
namespace Mr
open PySem Mi
open My (words mZ pP lV)
theorem zK(n:Nat)(h:n≤8):okR (n:Int):=jh (by omega) (by omega)
theorem Ih{ls:List Int}{z:Int}(h0:0≤z)(h1:z < ls.length)(hl:ls.length≤100):JX (ls.map D.int) z=.ok (.int (ls.getD z.toNat 0),(ls.eraseIdx z.toNat).map D.int):=by
 have h3:z.toNat < ls.length:=by omega
 unfold JX
 rw[aq (by omega),show zE (ls.map D.int).length z=some z.toNat by
  unfold zE
  rw[if_pos h0,if_pos (by rw[List.length_map];exact h1)],iJ,aG,List.getElem?_map,List.getElem?_eq_getElem h3,List.getD_eq_getElem?_getD,List.getElem?_eq_getElem h3]
 show Rs.ok (D.int ls[z.toNat],(ls.map D.int).eraseIdx z.toNat)=_
 have:∀ (l:List Int) (k:Nat),(l.map D.int).eraseIdx k=(l.eraseIdx k).map D.int:=by
  intro l
  induction l with
  | nil=>intro k;rfl
  | cons a r ih =>
   intro k
   cases k with
   | zero=>rfl
   | succ k=>rw[List.map_cons,List.eraseIdx_cons_succ,ih k];rfl
 rw[this];rfl
theorem u9(e:Mi.Env):mN d9 [] e=.ok (.lst []):=by
 show aU (([]:List D).length≤16777216) (Rs.ok (D.lst []))=_
 exact aq (by simp)
theorem Fl(d:Int)(m:Nat)(hm:m≤8):∃ rs:List Int,jW [.d (.int d),.d (.int (m:Int))]=.ok (.d (.lst (rs.map D.int)))∧rs.length=m:=by
 unfold jW Bp
 rw[Jh]
 have hw:(bQ 0 (m:Int)).length≤16777216:=by rw[cF];omega
 have hc:dJ (.n 0) gU (mV 0) [none] (bQ 0 (m:Int))=.ok ((List.range m).map fun (k:Nat)=>D.int (k:Int)) :=
  jZ (fun k=>D.int (k:Int)) m fun k _=>⟨[some (.d (.int k))],rfl,rfl⟩
 have hr:((List.range m).map fun (k:Nat)=>D.int (k:Int))=((List.range m).map fun (k:Nat)=>(k:Int)).map D.int:=by rw[List.map_map];rfl
 rw[hr] at hc
 obtain⟨e',h1,h2⟩:=dW (tg:=.n 4) (body:=aY (oh 3 2 (m2 cu (mV 0) (mN fV [(mV 2)]))) (bw 0 (m2 eE (mV 0) (m2 qx (mV 1) (mV 4)))))
  (fun i e=>∃ (d:Int) (ls rs:List Int) (o:Option W),e=[some (.d (.int d)),some (.d (.int (m:Int))),some (.d (.lst (ls.map D.int))),some (.d (.lst (rs.map D.int))),o]∧ls.length+i=m∧rs.length=i) (bQ 0 (m:Int)) 0 (fun i x e hx ⟨d,ls,rs,o,he,hl,hrs⟩=>by
   obtain⟨hi,rfl⟩:=fQ hx
   subst he
   rw[Nat.zero_add] at hl hrs
   have hpos:(0:Int) < (ls.length:Int):=by omega
   have z1:=Int.emod_nonneg d (b:=(ls.length:Int)) (by omega)
   have z2:=Int.emod_lt_of_pos d hpos
   refine⟨[some (.d (.int d)),some (.d (.int (m:Int))),some (.d (.lst (ls.map D.int))),some (.d (.lst (rs.map D.int))),some (.d (.int (i:Int)))],[some (.d (.int (d / ((m:Int) - (i:Int))))),some (.d (.int (m:Int))),some (.d (.lst ((ls.eraseIdx (d % (ls.length:Int)).toNat).map D.int))),some (.d (.lst ((rs++[ls.getD (d % (ls.length:Int)).toNat 0]).map D.int))),some (.d (.int (i:Int)))],rfl,?_,d / ((m:Int) - (i:Int)),ls.eraseIdx (d % (ls.length:Int)).toNat,rs++[ls.getD (d % (ls.length:Int)).toNat 0],some (.d (.int (i:Int))),rfl,?_,?_⟩
   ·have h0:m2 cu (mV 0) (mN fV [(mV 2)]) [some (.d (.int d)),some (.d (.int (m:Int))),some (.d (.lst (ls.map D.int))),some (.d (.lst (rs.map D.int))),some (.d (.int (i:Int)))]=.ok (.int (d % (ls.length:Int))) :=
     aB (x:=.int d) (y:=.int (ls.length:Int)) rfl (by show Rs.ok (D.int ((ls.map D.int).length:Int))=_;rw[List.length_map]) (aq hpos)
    rw[aH (e':=[some (.d (.int d)),some (.d (.int (m:Int))),some (.d (.lst ((ls.eraseIdx (d % (ls.length:Int)).toNat).map D.int))),some (.d (.lst ((rs++[ls.getD (d % (ls.length:Int)).toNat 0]).map D.int))),some (.d (.int (i:Int)))])]
    ·exact aV (aB rfl (aB rfl rfl rfl) (aq (bD (by omega) (by omega))))
    ·unfold oh
     rw[h0]
     simp only[aG,wu,getL,List.getElem?_cons_succ,List.getElem?_cons_zero,Ih z1 z2 (by omega),putL,List.set_cons_succ,List.set_cons_zero]
     rw[aq (by rw[List.length_map];omega),List.map_append]
     rfl
   ·rw[List.length_eraseIdx_of_lt (by omega)];omega
   ·rw[List.length_append,hrs];simp) [some (.d (.int d)),some (.d (.int (m:Int))),some (.d (.lst (((List.range m).map fun (k:Nat)=>(k:Int)).map D.int))),some (.d (.lst [])),none] ⟨d,_,[],none,rfl,by simp,rfl⟩
 obtain⟨d2,ls,rs,o,he,hl,hrs⟩:=h2
 subst he
 rw[cF,Nat.zero_add] at hl hrs
 refine⟨rs,?_,hrs⟩
 rw[aH (e':=[some (.d (.int d)),some (.d (.int (m:Int))),some (.d (.lst (((List.range m).map fun (k:Nat)=>(k:Int)).map D.int))),none,none]) (aV (cM (fY rfl (zK m hm)) hw hc))]
 rw[aH (e':=[some (.d (.int d)),some (.d (.int (m:Int))),some (.d (.lst (((List.range m).map fun (k:Nat)=>(k:Int)).map D.int))),some (.d (.lst [])),none]) (aV (u9 _))]
 rw[aH ((cP (fY rfl (zK m hm))).trans h1)]
 rfl
theorem yq(val:Nat→Str):∀ i,(met val i).length≤i
 | 0=>Nat.le_refl _
 | i+1=>by
  have ih:=yq val i
  unfold met
  split
  ·omega
  ·rw[List.length_append,List.length_singleton];omega
theorem Ge(val:Nat→Str):∀ n,(met val n).length=n→met val n=(List.range n).map val∧(met val n).Nodup
 | 0,_=>⟨rfl,List.nodup_nil⟩
 | n+1,h=>by
  have hl:=yq val n
  unfold met at h ⊢
  split at h
  ·omega
  ·rename_i hm
   rw[if_neg hm]
   rw[List.length_append,List.length_singleton] at h
   obtain⟨e,nd⟩:=Ge val n (by omega)
   refine⟨by rw[e,List.range_succ,List.map_append];rfl,?_⟩
   rw[List.nodup_append]
   refine⟨nd,by simp,fun a ha b hb=>?_⟩
   have:b=val n:=by simpa using hb
   subst this
   exact fun z=>hm (z ▸ ha)
theorem wJ{ys:List Str}(h:ys.length≤oM ys):ys.Nodup:=by
 unfold oM at h
 have hl:=yq (fun i=>ys.getD i Str.empty) ys.length
 obtain⟨e,nd⟩:=Ge _ ys.length (Nat.le_antisymm hl h)
 have:(List.range ys.length).map (fun i=>ys.getD i Str.empty)=ys:=by
  refine List.ext_getElem (by simp) fun i h1 h2=>?_
  simp[List.getD_eq_getElem?_getD,h2]
 rw[this] at e
 rw[← e];exact nd
def abc:Str := "abcdefghijklmnopqrstuvwxyz"
theorem Uq:abc.length≤16777216:=by decide +kernel
theorem Rq:abc.cps.toList.length=26:=by decide +kernel
theorem Uo:∀ k,k < 26→97≤abc.cps.toList.getD k 0∧abc.cps.toList.getD k 0≤122:=by decide +kernel
theorem T6(n:Int):∃ c,(97≤c∧c≤122)∧bH (.str abc) (.int (n % 26))=.ok (.str (S' [c])):=by
 have h1:=Int.emod_nonneg n (b:=26) (by decide)
 have h2:=Int.emod_lt_of_pos n (b:=26) (by decide)
 refine⟨abc.cps.toList.getD (n % 26).toNat 0,Uo _ (by omega),?_⟩
 show aU _ _=_
 rw[aq Uq,K6 h1 (by rw[Rq];omega) 0];rfl
theorem PJ(ds:List Int)(hd:ds.length=63)(m:Nat)(hm:m≤8):∃ names:List Str,nF [.d (.lst (ds.map D.int)),.d (.int (m:Int))]=.ok (.d (aL names))∧names.length=m∧names.Nodup∧∀ x∈names,lV x.cps.toList:=by
 have inner:∀ (k:Nat) (x:Str) (o:Option W) (rest:Int) (ns:List Str),∀ j:Nat,x.length+j≤64→∃ (x':Str) (o':Option W) (rest':Int),qw (.n 7) (aY (bw 6 (m2 bz (mV 6) (m2 bH (mV 2) (m2 cu (mV 5) (mC (.int 26)))))) (bw 5 (m2 eE (mV 5) (mC (.int 26)))))
  (bQ 0 (j:Int)) [some (.d (.lst (ds.map D.int))),some (.d (.int (m:Int))),some (.d (.str abc)),some (.d (aL ns)),some (.d (.int (k:Int))),some (.d (.int rest)),some (.d (.str x)),o] =
  .ok (.nx [some (.d (.lst (ds.map D.int))),some (.d (.int (m:Int))),some (.d (.str abc)),some (.d (aL ns)),some (.d (.int (k:Int))),some (.d (.int rest')),some (.d (.str x')),o'])∧x'.length=x.length+j∧((∀ c∈x.cps.toList,97≤c∧c≤122)→∀ c∈x'.cps.toList,97≤c∧c≤122):=by
  intro k x o rest ns j hj
  obtain⟨e',h1,x',rest',o',he,hl,hlow⟩:=dW (tg:=.n 7) (body:=aY (bw 6 (m2 bz (mV 6) (m2 bH (mV 2) (m2 cu (mV 5) (mC (.int 26)))))) (bw 5 (m2 eE (mV 5) (mC (.int 26)))))
   (fun i e=>∃ (y:Str) (r:Int) (o:Option W),e=[some (.d (.lst (ds.map D.int))),some (.d (.int (m:Int))),some (.d (.str abc)),some (.d (aL ns)),some (.d (.int (k:Int))),some (.d (.int r)),some (.d (.str y)),o]∧y.length=x.length+i∧((∀ c∈x.cps.toList,97≤c∧c≤122)→∀ c∈y.cps.toList,97≤c∧c≤122)) (bQ 0 (j:Int)) 0 (fun i z e hz ⟨y,r,o,he,hl,hlow⟩=>by
    obtain⟨hi,rfl⟩:=fQ hz
    subst he
    obtain⟨c,hlc,hc⟩:=T6 r
    refine⟨[some (.d (.lst (ds.map D.int))),some (.d (.int (m:Int))),some (.d (.str abc)),some (.d (aL ns)),some (.d (.int (k:Int))),some (.d (.int r)),some (.d (.str y)),some (.d (.int (i:Int)))],
     [some (.d (.lst (ds.map D.int))),some (.d (.int (m:Int))),some (.d (.str abc)),some (.d (aL ns)),some (.d (.int (k:Int))),some (.d (.int (r / 26))),some (.d (.str (y++S' [c]))),some (.d (.int (i:Int)))],rfl,?_,y++S' [c],r / 26,_,rfl,?_,fun hx=>?_⟩
    ·rw[aH (e':=[some (.d (.lst (ds.map D.int))),some (.d (.int (m:Int))),some (.d (.str abc)),some (.d (aL ns)),some (.d (.int (k:Int))),some (.d (.int r)),some (.d (.str (y++S' [c]))),some (.d (.int (i:Int)))]) (aV (aB (x:=.str y) (y:=.str (S' [c])) rfl ((aB rfl (aB rfl rfl (aq (by decide))) hc)) (aq (by rw[lg];simp;omega))))]
     exact aV (aB rfl rfl (aq (bD (by decide) (by decide))))
    ·show (y.cps++(S' [c]).cps).size=_
     rw[Array.size_append]
     show y.length+1=_
     omega
    ·intro k hk
     have hk:k∈(y.cps++(S' [c]).cps).toList:=hk
     rw[Array.toList_append] at hk
     rcases List.mem_append.mp hk with q|q
     ·exact hlow hx k q
     ·rw[List.mem_singleton.mp q];exact hlc) _ ⟨x,rest,o,rfl,rfl,fun h=>h⟩
  subst he
  rw[cF,Nat.zero_add] at hl
  exact⟨x',o',rest',h1,hl,hlow⟩
 have aat:∀ (k:Nat),k < 8→bH (.lst (ds.map D.int)) (.int (48+(k:Int)))=.ok (.int (ds.getD (48+k) 0)):=fun k hk=>by
  have:=jD (cs:=ds) (i:=48+(k:Int)) (by omega) (by omega)
  rw[show (48+(k:Int)).toNat=48+k by omega] at this
  exact this
 have hd1:bH (.lst (ds.map D.int)) (.int 1)=.ok (.int (ds.getD 1 0)):=jD (by decide) (by omega)
 unfold nF Bq
 rw[Jh]
 have hab:(PySem.Str.ofString "abcdefghijklmnopqrstuvwxyz")=abc:=rfl
 obtain⟨e',h1,ns,o4,o5,o6,o7,he,hl,hwf⟩:=dW (tg:=.n 4) (body:=(aY (bw 5 (m2 eE (m2 bH (mV 0) (m2 bz (mC (.int 48)) (mV 4))) (mC (.int 6))))
  (aY (bw 6 (mC (.str "")))
  (aY (eG (bV (m2 bz (mC (.int 1)) (m2 cu (m2 bH (mV 0) (m2 bz (mC (.int 48)) (mV 4))) (mC (.int 6))))) (.n 7)
  (aY (bw 6 (m2 bz (mV 6) (m2 bH (mV 2) (m2 cu (mV 5) (mC (.int 26))))))
  (bw 5 (m2 eE (mV 5) (mC (.int 26))))))
  (bJ 3 (mV 6))))))
  (fun i e=>∃ (ns:List Str) (o4 o5 o6 o7:Option W),e=[some (.d (.lst (ds.map D.int))),some (.d (.int (m:Int))),some (.d (.str abc)),some (.d (aL ns)),o4,o5,o6,o7]∧ns.length=i∧∀ x∈ns,lV x.cps.toList) (bQ 0 (m:Int)) 0 (fun i x e hx ⟨ns,o4,o5,o6,o7,he,hl,hwf⟩=>by
   obtain⟨hi,rfl⟩:=fQ hx
   subst he
   rw[Nat.zero_add] at hl
   obtain⟨v,hv⟩ : ∃ v,ds.getD (48+i) 0=v:=⟨_,rfl⟩
   have WQ:=aat i (by omega)
   rw[hv] at WQ
   have q1:=Int.emod_nonneg v (b:=6) (by decide)
   have q2:=Int.emod_lt_of_pos v (b:=6) (by decide)
   obtain⟨j,hj⟩ : ∃ j:Nat,1+v % 6=(j:Int):=⟨(1+v % 6).toNat,by omega⟩
   have e0:("" : Str).length=0:=by decide +kernel
   obtain⟨x',o',rest',hin,hxl,YZ⟩:=inner i "" o7 (v / 6) ns j (by rw[e0];omega)
   refine⟨[some (.d (.lst (ds.map D.int))),some (.d (.int (m:Int))),some (.d (.str abc)),some (.d (aL ns)),some (.d (.int (i:Int))),o5,o6,o7],[some (.d (.lst (ds.map D.int))),some (.d (.int (m:Int))),some (.d (.str abc)),some (.d (aL (ns++[x']))),some (.d (.int (i:Int))),some (.d (.int rest')),some (.d (.str x')),o'],rfl,?_,ns++[x'],_,_,_,_,rfl,by rw[List.length_append,hl];simp,fun y hy=>by
    rcases List.mem_append.mp hy with q|q
    ·exact hwf y q
    ·rw[List.mem_singleton.mp q]
     have hn:x'.cps.toList.length=x'.length:=Array.length_toList
     refine⟨by rw[hn,hxl,e0];omega,by rw[hn,hxl,e0];omega,YZ fun c hc=>?_⟩
     rw[show ("" : Str).cps.toList=[] by decide +kernel] at hc
     cases hc⟩
   rw[aH (e':=[some (.d (.lst (ds.map D.int))),some (.d (.int (m:Int))),some (.d (.str abc)),some (.d (aL ns)),some (.d (.int (i:Int))),some (.d (.int (v / 6))),o6,o7]) (aV (aB (aB rfl (aB rfl rfl rfl) WQ) rfl (aq (bD (by decide) (by decide)))))]
   rw[aH (e':=[some (.d (.lst (ds.map D.int))),some (.d (.int (m:Int))),some (.d (.str abc)),some (.d (aL ns)),some (.d (.int (i:Int))),some (.d (.int (v / 6))),some (.d (.str "")),o7]) (aV rfl)]
   rw[aH ((cP (fY (n:=(j:Int)) ((aB rfl (aB (aB rfl (aB rfl rfl rfl) WQ) rfl (aq (by decide))) rfl).trans (by rw[vB,hj])) (jh (by omega) (by omega)))).trans hin)]
   rw[jo (d:=.str x') (ds:=ns.map D.str) rfl rfl (by rw[List.length_map];omega)]
   show Rs.ok (Out.nx [_,_,_,some (W.d (D.lst (ns.map D.str++[D.str x']))),_,_,_,_])=_
   rw[aL,List.map_append];rfl) [some (.d (.lst (ds.map D.int))),some (.d (.int (m:Int))),some (.d (.str abc)),some (.d (.lst [])),none,none,none,none] ⟨[],none,none,none,none,rfl,rfl,fun _ z=>(nomatch z)⟩
 subst he
 rw[cF,Nat.zero_add] at hl
 rw[aH (e':=[some (.d (.lst (ds.map D.int))),some (.d (.int (m:Int))),some (.d (.str abc)),none,none,none,none,none]) (aV rfl)]
 rw[aH (e':=[some (.d (.lst (ds.map D.int))),some (.d (.int (m:Int))),some (.d (.str abc)),some (.d (.lst [])),none,none,none,none]) (aV (u9 _))]
 rw[aH ((cP (fY rfl (zK m hm))).trans h1)]
 obtain⟨v,hv⟩ : ∃ v,ds.getD 1 0=v:=⟨_,rfl⟩
 rw[hv] at hd1
 have Tr:m1 DR (mV 3) [some (.d (.lst (ds.map D.int))),some (.d (.int (m:Int))),some (.d (.str abc)),some (.d (aL ns)),o4,o5,o6,o7]=.ok (.int (oM ns:Int)):=by
  show (pJ (nR (ns.map D.str))).bind _=_
  rw[uA,iJ,aG,aq (by omega)]
 have hw:=NB (v / 2) m hm
 by_cases hcond:v % 2=0∨(oM ns:Int) < (m:Int)
 ·refine⟨(words (v / 2) m).map S',?_,by rw[List.length_map,mZ],?_,fun x hx=>by
   obtain⟨l,hl',rfl⟩:=List.mem_map.mp hx
   exact My.bU _ _ hm l hl'⟩
  ·refine(congrArg (fun r=>Rs.bind r mQ) (pX (w:=.d (aL ((words (v / 2) m).map S'))) ?_)).trans rfl
   rw[jM]
   ·exact eQ (dw (by
     unfold bf vJ
     simp only[dR,wD]
     rw[show m2 eE (m2 bH (mV 0) (mC (.int 1))) (mC (.int 2)) [some (.d (.lst (ds.map D.int))),some (.d (.int (m:Int))),some (.d (.str abc)),some (.d (aL ns)),o4,o5,o6,o7]=.ok (.int (v / 2)) from aB (aB rfl rfl hd1) rfl (aq (bD (by decide) (by decide)))]
     simp only[aG,mV,List.getElem?_cons_succ,List.getElem?_cons_zero,hw,Hg]))
   ·unfold Ea
    rw[bR (b:=decide (v % 2=0)) ((aB (aB (aB rfl rfl hd1) rfl (aq (by decide))) rfl rfl).trans (iU _ _)),aG]
    by_cases hv2:v % 2=0
    ·rw[decide_eq_true hv2];rfl
    ·rw[decide_eq_false hv2,if_neg Bool.false_ne_true]
     exact bR ((aB Tr rfl rfl).trans (by rw[Gf,decide_eq_true (hcond.resolve_left hv2)]))
  ·refine List.Pairwise.map _ (fun a b h z=>h (Xp z)) (pP _ _ hm)
 ·have h1:¬ v % 2=0:=fun z=>hcond (.inl z)
  have h2:¬ (oM ns:Int) < (m:Int):=fun z=>hcond (.inr z)
  refine⟨ns,?_,hl,wJ (by omega),hwf⟩
  rw[aH (e':=[some (.d (.lst (ds.map D.int))),some (.d (.int (m:Int))),some (.d (.str abc)),some (.d (aL ns)),o4,o5,o6,o7])]
  ·rfl
  ·rw[jm]
   ·rfl
   ·unfold Ea
    rw[bR (b:=decide (v % 2=0)) ((aB (aB (aB rfl rfl hd1) rfl (aq (by decide))) rfl rfl).trans (iU _ _)),aG,decide_eq_false h1,if_neg Bool.false_ne_true]
    exact bR ((aB Tr rfl rfl).trans (by rw[Gf,decide_eq_false h2]))
end Mr
namespace Mr
open PySem Mi
theorem HX{ls:List Int}{z v:Int}(h0:0≤z)(h1:z < ls.length):∃ j,zE (ls.map D.int).length z=some j∧(ls.map D.int).set j (.int v)=(ls.set j v).map D.int:=by
 refine⟨z.toNat,?_,?_⟩
 ·unfold zE
  rw[if_pos h0,if_pos (by rw[List.length_map];exact h1)]
 ·rw[List.map_set]
theorem Oh{i:Nat}{k a:E}{e:Mi.Env}{ls:List Int}{z v:Int}(ha:a e=.ok (.int v))(hk:k e=.ok (.int z))(hg:getL e i=.ok (ls.map D.int))(h0:0≤z)(h1:z < ls.length):∃ ls':List Int,ls'.length=ls.length∧uU i k a e=.ok (.nx (putL e i (ls'.map D.int))):=by
 obtain⟨j,hj,hs⟩:=HX (v:=v) h0 h1
 refine⟨ls.set j v,by simp,?_⟩
 unfold uU
 rw[ha,aG,hk,aG,wu,aG,hg,aG,hj,iJ,aG,hs]
theorem Q7(ns:List Int):∃ cs:List Int,m2 dCat (mN pH [(gR DN (mV 0) none (some (mC (.int 63))))]) (m2 W6 (mN d9 [(mC (.int 60023))]) (mN Ni [(m2 iV (mN fV [(mV 0)]) (mC (.int 0)))])) [some (.d (.lst (ns.map D.int))),none,none,none,none,none,none,none,none]=.ok (.lst (cs.map D.int))∧1≤cs.length∧cs.length≤64:=by
 have h1:mN pH [(gR DN (mV 0) none (some (mC (.int 63))))] [some (.d (.lst (ns.map D.int))),none,none,none,none,none,none,none,none]=.ok (.lst ((ns.take 63).map D.int)):=by
  have:=Gy (ns.map D.int) 63
  rw[show ((63:Nat):Int)=63 from rfl] at this
  simp only[mN,jL,gR,mV,List.getElem?_cons_zero,my,mC,aG,wu,aad,this,Wt,List.map_take]
 have h2:m2 iV (mN fV [(mV 0)]) (mC (.int 0)) [some (.d (.lst (ns.map D.int))),none,none,none,none,none,none,none,none]=.ok (.bl (decide ((ns.length:Int)=0))) :=
  (aB (x:=.int (ns.length:Int)) (y:=.int 0) (by show Rs.ok (D.int ((ns.map D.int).length:Int))=_;rw[List.length_map]) rfl rfl).trans (iU _ _)
 have h3:mN d9 [(mC (.int 60023))] [some (.d (.lst (ns.map D.int))),none,none,none,none,none,none,none,none]=.ok (.lst [.int 60023]):=by
  show aU (([D.int 60023]:List D).length≤16777216) _=_
  exact aq (by simp)
 have h4:mN Ni [(m2 iV (mN fV [(mV 0)]) (mC (.int 0)))] [some (.d (.lst (ns.map D.int))),none,none,none,none,none,none,none,none]=.ok (.int (if decide ((ns.length:Int)=0) then 1 else 0)):=by
  exact(fX h2).trans rfl
 by_cases hz:ns.length=0
 ·refine⟨[60023],?_,by simp,by simp⟩
  rw[decide_eq_true (by omega)] at h4
  have:ns=[]:=List.eq_nil_of_length_eq_zero hz
  subst this
  refine(aB h1 (aB h3 h4 (z:=.ok (.lst [.int 60023])) ?_) (z:=.ok (.lst [.int 60023])) ?_)
  ·show aU _ _=_
   rw[aq (by decide)];rfl
  ·show aU _ _=_
   rw[aq (by simp)];rfl
 ·refine⟨ns.take 63,?_,by rw[List.length_take];omega,by rw[List.length_take];omega⟩
  rw[decide_eq_false (by omega)] at h4
  refine(aB h1 (aB h3 h4 (z:=.ok (.lst [])) ?_) (z:=.ok (.lst ((ns.take 63).map D.int))) ?_)
  ·show aU _ _=_
   rw[aq (by decide)];rfl
  ·show aU _ _=_
   rw[aq (by rw[List.length_map,List.length_take];simp;omega),List.append_nil]
theorem Y8(k:Nat)(h:k < 63)(c:Int):rn (c % 2147483647+12011+(k:Int) * (k:Int)) (48271+614 * (k:Int)):=by
 refine J4 ?_ ?_<;>omega
theorem Sv{cs:List Int}{k:Nat}{z:Int}{e:Mi.Env}(hk:k < 63)(h0:0≤z)(h1:z < cs.length)(e1:mV 1 e=.ok (.lst (cs.map D.int)))(e6:mV 6 e=.ok (.int (k:Int)))(e7:mV 7 e=.ok (.int z)) :
 ∃ o:Int,0≤o∧o < 2147483647∧m2 cu (m2 cD (m2 bz (m2 bz (m2 cu (m2 bH (mV 1) (mV 7)) (mC (.int 2147483647))) (mC (.int 12011))) (m2 cD (mV 6) (mV 6))) (m2 bz (mC (.int 48271)) (m2 cD (mC (.int 614)) (mV 6)))) (mC (.int 2147483647)) e=.ok (.int o) :=
 ⟨_,Int.emod_nonneg _ (by decide),Int.emod_lt_of_pos _ (by decide),aB (aB (aB (aB (aB (aB e1 e7 (jD h0 h1)) rfl (aq (by decide))) rfl rfl) (aB e6 e6 (aq (jA (by omega) (by omega)))) rfl) (aB rfl (aB rfl e6 (aq (jA (by decide) (by decide)))) rfl) (aq (Y8 k hk _))) rfl (aq (by decide))⟩
theorem QH(ns:List Int):∃ ds:List Int,nG [.d (.lst (ns.map D.int))]=.ok (.d (.lst (ds.map D.int)))∧ds.length=63:=by
 obtain⟨cs0,hcs,hp0,hp1⟩:=Q7 ns
 unfold nG Bs
 rw[MJ]
 have hm:∀ cs:List Int,mN fV [(mV 1)] [some (.d (.lst (ns.map D.int))),some (.d (.lst (cs.map D.int))),none,none,none,none,none,none,none]=.ok (.int (cs.length:Int)):=fun cs=>by
  show Rs.ok (D.int ((cs.map D.int).length:Int))=_
  rw[List.length_map]
 have hx0:bH (.lst (cs0.map D.int)) (.int 0)=.ok (.int (cs0.getD 0 0)):=jD (by decide) (by omega)
 obtain⟨c0,hc0⟩ : ∃ v,cs0.getD 0 0=v:=⟨_,rfl⟩
 rw[hc0] at hx0
 obtain⟨cs,hcl,Tr⟩:=Oh (i:=1) (k:=mC (.int 0)) (a:=m2 eE (m2 bH (mV 1) (mC (.int 0))) (mC (.int 2))) (e:=[some (.d (.lst (ns.map D.int))),some (.d (.lst (cs0.map D.int))),some (.d (.int (cs0.length:Int))),some (.d (.int (c0 % 2))),none,none,none,none,none]) (ls:=cs0) (z:=0) (v:=c0 / 2)
  (aB (aB rfl rfl hx0) rfl (aq (bD (by decide) (by decide)))) rfl rfl (by decide) (by omega)
 have hL:cs.length=cs0.length:=hcl
 obtain⟨e',h1,left,ds,o6,o7,o8,he,hl,hd⟩:=dW (tg:=.n 6) (body:=(aY (bw 7 (m2 cu (mV 6) (mV 2)))
  (aY (bw 8 (m2 cu (m2 cD (m2 bz (m2 bz (m2 cu (m2 bH (mV 1) (mV 7)) (mC (.int 2147483647))) (mC (.int 12011))) (m2 cD (mV 6) (mV 6))) (m2 bz (mC (.int 48271)) (m2 cD (mC (.int 614)) (mV 6)))) (mC (.int 2147483647))))
  (jP (fU (cB (m2 iV (mV 3) (mC (.int 0)))) (cB (m2 KN (m2 bH (mV 4) (mV 7)) (mC (.int 0)))))
  (aY (bJ 5 (m2 cu (m2 bH (mV 4) (mV 7)) (mC (.int 2147483647))))
  (uU 4 (mV 7) (m2 eE (m2 bH (mV 4) (mV 7)) (mC (.int 2147483647)))))
  (bJ 5 (m2 cu (m2 cD (m2 bz (m2 bz (mV 8) (m2 cD (mC (.int 709)) (mV 6))) (mC (.int 5))) (m2 bz (mC (.int 69621)) (m2 cD (m2 cD (mC (.int 18)) (mV 6)) (mV 6)))) (mC (.int 2147483629))))))))
  (fun i e=>∃ (left ds:List Int) (o6 o7 o8:Option W),e=[some (.d (.lst (ns.map D.int))),some (.d (.lst (cs.map D.int))),some (.d (.int (cs0.length:Int))),some (.d (.int (c0 % 2))),some (.d (.lst (left.map D.int))),some (.d (.lst (ds.map D.int))),o6,o7,o8]∧left.length=cs0.length∧ds.length=i)
  (bQ 0 (63:Int)) 0 (fun i x e hx ⟨left,ds,o6,o7,o8,he,hl,hd⟩=>by
   obtain⟨hi,rfl⟩:=fQ (n:=63) hx
   subst he
   rw[Nat.zero_add] at hd
   have hpos:(0:Int) < (cs0.length:Int):=by omega
   obtain⟨z,hz⟩ : ∃ z,(i:Int) % (cs0.length:Int)=z:=⟨_,rfl⟩
   have z0:0≤z:=by rw[← hz];exact Int.emod_nonneg _ (by omega)
   have z1:z < (cs0.length:Int):=by rw[← hz];exact Int.emod_lt_of_pos _ hpos
   obtain⟨on,on0,on1,hon⟩:=Sv (cs:=cs) (k:=i) (z:=z) (e:=[some (.d (.lst (ns.map D.int))),some (.d (.lst (cs.map D.int))),some (.d (.int (cs0.length:Int))),some (.d (.int (c0 % 2))),some (.d (.lst (left.map D.int))),some (.d (.lst (ds.map D.int))),some (.d (.int (i:Int))),some (.d (.int z)),o8]) hi z0 (by omega) rfl rfl rfl
   have hlx:bH (.lst (left.map D.int)) (.int z)=.ok (.int (left.getD z.toNat 0)):=jD z0 (by omega)
   obtain⟨lv,hlv⟩ : ∃ v,left.getD z.toNat 0=v:=⟨_,rfl⟩
   rw[hlv] at hlx
   have q1:cB (m2 iV (mV 3) (mC (.int 0))) [some (.d (.lst (ns.map D.int))),some (.d (.lst (cs.map D.int))),some (.d (.int (cs0.length:Int))),some (.d (.int (c0 % 2))),some (.d (.lst (left.map D.int))),some (.d (.lst (ds.map D.int))),some (.d (.int (i:Int))),some (.d (.int z)),some (.d (.int on))]=.ok (decide (c0 % 2=0)):=bR ((aB rfl rfl rfl).trans (iU _ _))
   have q2:cB (m2 KN (m2 bH (mV 4) (mV 7)) (mC (.int 0))) [some (.d (.lst (ns.map D.int))),some (.d (.lst (cs.map D.int))),some (.d (.int (cs0.length:Int))),some (.d (.int (c0 % 2))),some (.d (.lst (left.map D.int))),some (.d (.lst (ds.map D.int))),some (.d (.int (i:Int))),some (.d (.int z)),some (.d (.int on))]=.ok (decide (0 < lv)):=bR (aB (aB rfl rfl hlx) rfl rfl)
   have pre:∀ t:S,aY (bw 7 (m2 cu (mV 6) (mV 2))) (aY (bw 8 (m2 cu (m2 cD (m2 bz (m2 bz (m2 cu (m2 bH (mV 1) (mV 7)) (mC (.int 2147483647))) (mC (.int 12011))) (m2 cD (mV 6) (mV 6))) (m2 bz (mC (.int 48271)) (m2 cD (mC (.int 614)) (mV 6)))) (mC (.int 2147483647)))) t)
    [some (.d (.lst (ns.map D.int))),some (.d (.lst (cs.map D.int))),some (.d (.int (cs0.length:Int))),some (.d (.int (c0 % 2))),some (.d (.lst (left.map D.int))),some (.d (.lst (ds.map D.int))),some (.d (.int (i:Int))),o7,o8]=t [some (.d (.lst (ns.map D.int))),some (.d (.lst (cs.map D.int))),some (.d (.int (cs0.length:Int))),some (.d (.int (c0 % 2))),some (.d (.lst (left.map D.int))),some (.d (.lst (ds.map D.int))),some (.d (.int (i:Int))),some (.d (.int z)),some (.d (.int on))]:=fun t=>by
    rw[aH (e':=[some (.d (.lst (ns.map D.int))),some (.d (.lst (cs.map D.int))),some (.d (.int (cs0.length:Int))),some (.d (.int (c0 % 2))),some (.d (.lst (left.map D.int))),some (.d (.lst (ds.map D.int))),some (.d (.int (i:Int))),some (.d (.int z)),o8]) (aV (d:=.int z) ((aB rfl rfl (aq hpos)).trans (by rw[hz])))]
    rw[aH (e':=[some (.d (.lst (ns.map D.int))),some (.d (.lst (cs.map D.int))),some (.d (.int (cs0.length:Int))),some (.d (.int (c0 % 2))),some (.d (.lst (left.map D.int))),some (.d (.lst (ds.map D.int))),some (.d (.int (i:Int))),some (.d (.int z)),some (.d (.int on))]) (aV hon)]
   by_cases hb:c0 % 2=0∧0 < lv
   ·obtain⟨left',hl',hs'⟩:=Oh (i:=4) (k:=mV 7) (a:=m2 eE (m2 bH (mV 4) (mV 7)) (mC (.int 2147483647))) (e:=[some (.d (.lst (ns.map D.int))),some (.d (.lst (cs.map D.int))),some (.d (.int (cs0.length:Int))),some (.d (.int (c0 % 2))),some (.d (.lst (left.map D.int))),some (.d (.lst ((ds++[lv % 2147483647]).map D.int))),some (.d (.int (i:Int))),some (.d (.int z)),some (.d (.int on))]) (ls:=left) (z:=z) (v:=lv / 2147483647)
     (aB (aB rfl rfl hlx) rfl (aq (bD (by decide) (by decide)))) rfl rfl z0 (by omega)
    refine⟨[some (.d (.lst (ns.map D.int))),some (.d (.lst (cs.map D.int))),some (.d (.int (cs0.length:Int))),some (.d (.int (c0 % 2))),some (.d (.lst (left.map D.int))),some (.d (.lst (ds.map D.int))),some (.d (.int (i:Int))),o7,o8],
     [some (.d (.lst (ns.map D.int))),some (.d (.lst (cs.map D.int))),some (.d (.int (cs0.length:Int))),some (.d (.int (c0 % 2))),some (.d (.lst (left'.map D.int))),some (.d (.lst ((ds++[lv % 2147483647]).map D.int))),some (.d (.int (i:Int))),some (.d (.int z)),some (.d (.int on))],rfl,?_,left',ds++[lv % 2147483647],_,_,_,rfl,by omega,by rw[List.length_append,hd];simp⟩
    rw[pre,jM (by unfold fU;rw[q1,aG,decide_eq_true hb.1,if_pos rfl,q2,decide_eq_true hb.2])]
    rw[aH (e':=[some (.d (.lst (ns.map D.int))),some (.d (.lst (cs.map D.int))),some (.d (.int (cs0.length:Int))),some (.d (.int (c0 % 2))),some (.d (.lst (left.map D.int))),some (.d (.lst ((ds++[lv % 2147483647]).map D.int))),some (.d (.int (i:Int))),some (.d (.int z)),some (.d (.int on))]),hs']
    ·rfl
    ·rw[jo (d:=.int (lv % 2147483647)) (ds:=ds.map D.int) (aB (aB rfl rfl hlx) rfl (aq (by decide))) rfl (by rw[List.length_map];omega),List.map_append]
     rfl
   ·obtain⟨v,hv⟩ : ∃ v,m2 cu (m2 cD (m2 bz (m2 bz (mV 8) (m2 cD (mC (.int 709)) (mV 6))) (mC (.int 5))) (m2 bz (mC (.int 69621)) (m2 cD (m2 cD (mC (.int 18)) (mV 6)) (mV 6)))) (mC (.int 2147483629)) [some (.d (.lst (ns.map D.int))),some (.d (.lst (cs.map D.int))),some (.d (.int (cs0.length:Int))),some (.d (.int (c0 % 2))),some (.d (.lst (left.map D.int))),some (.d (.lst (ds.map D.int))),some (.d (.int (i:Int))),some (.d (.int z)),some (.d (.int on))]=.ok (.int v) :=
     ⟨_,aB (aB (aB (aB rfl (aB rfl rfl (aq (jA (by decide) (by decide)))) rfl) rfl rfl) (aB rfl (aB (aB rfl rfl (aq (jA (by decide) (by decide)))) rfl (aq (J4 (by omega) (by omega)))) rfl) (aq (jA (by omega) (by omega)))) rfl (aq (by decide))⟩
    refine⟨[some (.d (.lst (ns.map D.int))),some (.d (.lst (cs.map D.int))),some (.d (.int (cs0.length:Int))),some (.d (.int (c0 % 2))),some (.d (.lst (left.map D.int))),some (.d (.lst (ds.map D.int))),some (.d (.int (i:Int))),o7,o8],
     [some (.d (.lst (ns.map D.int))),some (.d (.lst (cs.map D.int))),some (.d (.int (cs0.length:Int))),some (.d (.int (c0 % 2))),some (.d (.lst (left.map D.int))),some (.d (.lst ((ds++[v]).map D.int))),some (.d (.int (i:Int))),some (.d (.int z)),some (.d (.int on))],rfl,?_,left,ds++[v],_,_,_,rfl,hl,by rw[List.length_append,hd];simp⟩
    rw[pre,jm (by
     unfold fU
     rw[q1,aG]
     by_cases hb1:c0 % 2=0
     ·rw[decide_eq_true hb1,if_pos rfl,q2,decide_eq_false fun z=>hb ⟨hb1,z⟩]
     ·rw[decide_eq_false hb1,if_neg Bool.false_ne_true])]
    rw[jo (d:=.int v) (ds:=ds.map D.int) hv rfl (by rw[List.length_map];omega),List.map_append]
    rfl) [some (.d (.lst (ns.map D.int))),some (.d (.lst (cs.map D.int))),some (.d (.int (cs0.length:Int))),some (.d (.int (c0 % 2))),some (.d (.lst (cs.map D.int))),some (.d (.lst [])),none,none,none] ⟨cs,[],none,none,none,rfl,hL,rfl⟩
 subst he
 have hlen:=cF 63
 rw[show ((63:Nat):Int)=63 from rfl] at hlen
 rw[hlen,Nat.zero_add] at hd
 refine⟨ds,?_,hd⟩
 rw[aH (e':=[some (.d (.lst (ns.map D.int))),some (.d (.lst (cs0.map D.int))),none,none,none,none,none,none,none]) (aV hcs)]
 rw[aH (e':=[some (.d (.lst (ns.map D.int))),some (.d (.lst (cs0.map D.int))),some (.d (.int (cs0.length:Int))),none,none,none,none,none,none]) (aV (hm cs0))]
 rw[aH (e':=[some (.d (.lst (ns.map D.int))),some (.d (.lst (cs0.map D.int))),some (.d (.int (cs0.length:Int))),some (.d (.int (c0 % 2))),none,none,none,none,none]) (aV (aB (aB rfl rfl hx0) rfl (aq (by decide))))]
 rw[aH (e':=[some (.d (.lst (ns.map D.int))),some (.d (.lst (cs.map D.int))),some (.d (.int (cs0.length:Int))),some (.d (.int (c0 % 2))),none,none,none,none,none]) Tr]
 rw[aH (e':=[some (.d (.lst (ns.map D.int))),some (.d (.lst (cs.map D.int))),some (.d (.int (cs0.length:Int))),some (.d (.int (c0 % 2))),some (.d (.lst (cs.map D.int))),none,none,none,none]) (aV rfl)]
 rw[aH (e':=[some (.d (.lst (ns.map D.int))),some (.d (.lst (cs.map D.int))),some (.d (.int (cs0.length:Int))),some (.d (.int (c0 % 2))),some (.d (.lst (cs.map D.int))),some (.d (.lst [])),none,none,none]) (aV (u9 _))]
 rw[aH ((cP (fY rfl (jh (by decide) (by decide)))).trans h1)]
 rfl
end Mr
namespace Mr
open PySem Mi
abbrev Ix:=Nat×Nat
def iC(p q:Ix):Prop:=p.1 < q.1∨(p.1=q.1∧p.2 < q.2)
def nth(names:List Str)(i:Nat):Str:=names.getD i Str.empty
def arrOf(names:List Str)(p:Ix):Ar:=(nth names p.1,nth names p.2)
structure Bx(names:List Str)(A:List Ix)(r:Nat→Int):Prop where
 nd:names.Nodup
 pos:1≤names.length
 le:names.length≤8
 m7:A.Pairwise iC
 all:∀ p∈A,p.1 < names.length∧p.2 < names.length∧r p.1 < r p.2
 al:A.length≤64
theorem mq{names:List Str}{i:Nat}(h:i < names.length):nth names i∈names:=by
 unfold nth
 rw[List.getD_eq_getElem?_getD,List.getElem?_eq_getElem h]
 exact List.getElem_mem h
theorem oH{names:List Str}(nd:names.Nodup){i j:Nat}(hi:i < names.length)(hj:j < names.length)(h:nth names i=nth names j):i=j:=by
 unfold nth at h
 rw[List.getD_eq_getElem?_getD,List.getElem?_eq_getElem hi,List.getD_eq_getElem?_getD,List.getElem?_eq_getElem hj] at h
 exact(List.getElem_inj nd).mp h
theorem Df{names:List Str}{x:Str}(h:x∈names):∃ i,i < names.length∧nth names i=x:=by
 obtain⟨i,hi,e⟩:=List.getElem_of_mem h
 refine⟨i,hi,?_⟩
 unfold nth
 rw[List.getD_eq_getElem?_getD,List.getElem?_eq_getElem hi];exact e
theorem Bx.yo{names:List Str}{A:List Ix}{r:Nat→Int}(N:Bx names A r):Net names (A.map (arrOf names)):=by
 refine⟨N.nd,N.pos,N.le,by rw[List.length_map];exact N.al,fun p hp=>?_,fun x=>r (names.idxOf x),fun p hp=>?_⟩
 ·obtain⟨q,hq,rfl⟩:=List.mem_map.mp hp
  exact mq (N.all q hq).1
 ·obtain⟨q,hq,rfl⟩:=List.mem_map.mp hp
  obtain⟨h1,h2,h3⟩:=N.all q hq
  have key:∀ i,i < names.length→names.idxOf (nth names i)=i:=fun i hi=>by
   have hm:=mq hi
   have hl:names.idxOf (nth names i) < names.length:=List.idxOf_lt_length_of_mem hm
   refine oH N.nd hl hi ?_
   have h4:names[names.idxOf (nth names i)]=nth names i:=List.getElem_idxOf hl
   show names.getD (names.idxOf (nth names i)) Str.empty=_
   rw[List.getD_eq_getElem?_getD,List.getElem?_eq_getElem hl]
   exact h4
  show r (names.idxOf (nth names q.1)) < r (names.idxOf (nth names q.2))
  rw[key _ h1,key _ h2];exact h3
def good(m:Nat)(r:Nat→Int)(A:List Ix)(j k:Nat):Prop:=A.Pairwise iC∧(∀ p∈A,p.1 < m∧p.2 < m∧r p.1 < r p.2∧(p.1 < j∨(p.1=j∧p.2 < k)))∧A.length≤8 * j+k
theorem good.skip{m:Nat}{r:Nat→Int}{A:List Ix}{j k:Nat}(h:good m r A j k):good m r A j (k+1) :=
 ⟨h.1,fun p hp=>⟨(h.2.1 p hp).1,(h.2.1 p hp).2.1,(h.2.1 p hp).2.2.1,by have:=(h.2.1 p hp).2.2.2;omega⟩,by have:=h.2.2;omega⟩
theorem good.add{m:Nat}{r:Nat→Int}{A:List Ix}{j k:Nat}(h:good m r A j k)(hj:j < m)(hk:k < m)(hr:r j < r k):good m r (A++[(j,k)]) j (k+1):=by
 refine⟨List.pairwise_append.mpr ⟨h.1,List.pairwise_singleton _ _,fun p hp q hq=>?_⟩,fun p hp=>?_,by rw[List.length_append];have:=h.2.2;simp;omega⟩
 ·have:q=(j,k):=by simpa using hq
  subst this
  have:=(h.2.1 p hp).2.2.2
  exact this
 ·rcases List.mem_append.mp hp with hp|hp
  ·exact(h.skip.2.1 p hp)
  ·have:p=(j,k):=by simpa using hp
   subst this
   exact⟨hj,hk,hr,.inr ⟨rfl,by omega⟩⟩
theorem good.next{m:Nat}{r:Nat→Int}{A:List Ix}{j k:Nat}(h:good m r A j k)(hk:k≤8):good m r A (j+1) 0 :=
 ⟨h.1,fun p hp=>⟨(h.2.1 p hp).1,(h.2.1 p hp).2.1,(h.2.1 p hp).2.2.1,by have:=(h.2.1 p hp).2.2.2;omega⟩,by have:=h.2.2;omega⟩
def ph(names:List Str)(A:List Ix):D:=.lst ((A.map (arrOf names)).map pairD)
theorem N5{a:Int}(h0:0≤a)(h1:a < 8):-(2 ^ 64) < a∧a < 2 ^ 64∧0≤a * (a - 1) / 2∧a * (a - 1) / 2≤21:=by
 have:a=0∨a=1∨a=2∨a=3∨a=4∨a=5∨a=6∨a=7:=by omega
 rcases this with h|h|h|h|h|h|h|h<;>subst h<;>decide
theorem Uc{ds:List Int}(hd:ds.length=63){e:Mi.Env}{j k:Nat}(hj:j < 8)(hk:k < 8)(e0:mV 0 e=.ok (.lst (ds.map D.int)))(e8:mV 8 e=.ok (.int (j:Int)))(e9:mV 9 e=.ok (.int (k:Int))) :
 ∃ c:Int,m2 bH (mV 0) (m2 bz (m2 bz (mC (.int 4)) (m2 eE (m2 cD (mN nQ [(mV 8),(mV 9)]) (m2 qx (mN nQ [(mV 8),(mV 9)]) (mC (.int 1)))) (mC (.int 2)))) (mN wL [(mV 8),(mV 9)])) e=.ok (.int c):=by
 have hx:mN nQ [(mV 8),(mV 9)] e=.ok (.int (max (j:Int) (k:Int))):=(Af e8 e9).trans (P0 _ _)
 have hn:mN wL [(mV 8),(mV 9)] e=.ok (.int (min (j:Int) (k:Int))):=(Af e8 e9).trans (PN _ _)
 obtain⟨t1,t2,t3,t4⟩:=N5 (a:=max (j:Int) (k:Int)) (by omega) (by omega)
 exact⟨_,aB e0 (aB (aB rfl (aB (aB hx (aB hx rfl rfl) (aq (jA t1 t2))) rfl (aq (bD (by decide) (by decide)))) rfl) hn rfl) (jD (by omega) (by omega))⟩
theorem Wn(ds:List Int)(hd:ds.length=63)(lo hi:Nat)(h0:1≤lo)(h1:lo≤hi)(h2:hi≤8) :
 ∃ names A r,qJ [.d (.lst (ds.map D.int)),.d (.int (lo:Int)),.d (.int (hi:Int))]=.ok (.d (aW names (A.map (arrOf names))))∧Bx names A r∧lo≤names.length∧names.length≤hi∧∀ x∈names,My.lV x.cps.toList:=by
 have hx:∀ i:Nat,i < 4→bH (.lst (ds.map D.int)) (.int (i:Int))=.ok (.int (ds.getD i 0)):=fun i hi=>by
  have:=jD (cs:=ds) (i:=(i:Int)) (by omega) (by omega)
  rwa [Int.toNat_natCast] at this
 have hw:(0:Int) < (hi:Int) - (lo:Int)+1:=by omega
 have q1:=Int.emod_nonneg (ds.getD 0 0) (b:=(hi:Int) - (lo:Int)+1) (by omega)
 have q2:=Int.emod_lt_of_pos (ds.getD 0 0) hw
 obtain⟨m,hm⟩ : ∃ m:Nat,(lo:Int)+ds.getD 0 0 % ((hi:Int) - (lo:Int)+1)=(m:Int):=⟨((lo:Int)+ds.getD 0 0 % ((hi:Int) - (lo:Int)+1)).toNat,by omega⟩
 have hm1:lo≤m:=by omega
 have hm2:m≤hi:=by omega
 have hm8:m≤8:=by omega
 obtain⟨names,hn,hnl,hnd,hwf⟩:=PJ ds hd m hm8
 obtain⟨rs,hr,hrl⟩:=Fl (ds.getD 2 0) m hm8
 have q3:=Int.emod_nonneg (ds.getD 3 0) (b:=6) (by decide)
 have q4:=Int.emod_lt_of_pos (ds.getD 3 0) (b:=6) (by decide)
 obtain⟨th,hth⟩ : ∃ th,bH (.lst ([4,1,2,3,2,3].map D.int)) (.int (ds.getD 3 0 % 6))=.ok (.int th):=⟨_,jD q3 (by simp;omega)⟩
 have hrx:∀ i:Nat,i < m→bH (.lst (rs.map D.int)) (.int (i:Int))=.ok (.int (rs.getD i 0)):=fun i hi=>by
  have:=jD (cs:=rs) (i:=(i:Int)) (by omega) (by omega)
  rwa [Int.toNat_natCast] at this
 have hnx:∀ i:Nat,i < m→bH (aL names) (.int (i:Int))=.ok (.str (nth names i)):=fun i hi=>by
  have:=Du (cs:=names) (i:=(i:Int)) (by omega) (by omega)
  rwa [Int.toNat_natCast] at this
 have inner:∀ (j:Nat) (A:List Ix) (o9 o10:Option W),j < m→good m (fun i=>rs.getD i 0) A j 0→∃ (A':List Ix) (p9 p10:Option W),qw (.n 9) (aY (bw 10 (m2 bH (mV 0) (m2 bz (m2 bz (mC (.int 4)) (m2 eE (m2 cD (mN nQ [(mV 8),(mV 9)]) (m2 qx (mN nQ [(mV 8),(mV 9)]) (mC (.int 1)))) (mC (.int 2)))) (mN wL [(mV 8),(mV 9)]))))
  (jP (fU (cB (m2 Ax (m2 bH (mV 5) (mV 8)) (m2 bH (mV 5) (mV 9)))) (cB (m2 Ax (m2 cu (mV 10) (mC (.int 4))) (mV 6)))) (bJ 7 (mN dTup [(m2 bH (mV 4) (mV 8)),(m2 bH (mV 4) (mV 9))])) bT)) (bQ 0 (m:Int))
  [some (.d (.lst (ds.map D.int))),some (.d (.int (lo:Int))),some (.d (.int (hi:Int))),some (.d (.int (m:Int))),some (.d (aL names)),some (.d (.lst (rs.map D.int))),some (.d (.int th)),some (.d (ph names A)),some (.d (.int (j:Int))),o9,o10] =
  .ok (.nx [some (.d (.lst (ds.map D.int))),some (.d (.int (lo:Int))),some (.d (.int (hi:Int))),some (.d (.int (m:Int))),some (.d (aL names)),some (.d (.lst (rs.map D.int))),some (.d (.int th)),some (.d (ph names A')),some (.d (.int (j:Int))),p9,p10])∧good m (fun i=>rs.getD i 0) A' (j+1) 0:=by
  intro j A o9 o10 hj hg
  obtain⟨e',f1,A',p9,p10,he,hg'⟩:=dW (tg:=.n 9) (body:=aY (bw 10 (m2 bH (mV 0) (m2 bz (m2 bz (mC (.int 4)) (m2 eE (m2 cD (mN nQ [(mV 8),(mV 9)]) (m2 qx (mN nQ [(mV 8),(mV 9)]) (mC (.int 1)))) (mC (.int 2)))) (mN wL [(mV 8),(mV 9)]))))
   (jP (fU (cB (m2 Ax (m2 bH (mV 5) (mV 8)) (m2 bH (mV 5) (mV 9)))) (cB (m2 Ax (m2 cu (mV 10) (mC (.int 4))) (mV 6)))) (bJ 7 (mN dTup [(m2 bH (mV 4) (mV 8)),(m2 bH (mV 4) (mV 9))])) bT))
   (fun k e=>∃ (A:List Ix) (o9 o10:Option W),e=[some (.d (.lst (ds.map D.int))),some (.d (.int (lo:Int))),some (.d (.int (hi:Int))),some (.d (.int (m:Int))),some (.d (aL names)),some (.d (.lst (rs.map D.int))),some (.d (.int th)),some (.d (ph names A)),some (.d (.int (j:Int))),o9,o10]∧good m (fun i=>rs.getD i 0) A j k)
   (bQ 0 (m:Int)) 0 (fun k x e hx ⟨A,o9,o10,he,hg⟩=>by
    obtain⟨hk,rfl⟩:=fQ hx
    subst he
    rw[Nat.zero_add] at hg
    obtain⟨c,hc⟩:=Uc hd (e:=[some (.d (.lst (ds.map D.int))),some (.d (.int (lo:Int))),some (.d (.int (hi:Int))),some (.d (.int (m:Int))),some (.d (aL names)),some (.d (.lst (rs.map D.int))),some (.d (.int th)),some (.d (ph names A)),some (.d (.int (j:Int))),some (.d (.int (k:Int))),o10]) (j:=j) (k:=k) (by omega) (by omega) rfl rfl rfl
    have c1:cB (m2 Ax (m2 bH (mV 5) (mV 8)) (m2 bH (mV 5) (mV 9))) [some (.d (.lst (ds.map D.int))),some (.d (.int (lo:Int))),some (.d (.int (hi:Int))),some (.d (.int (m:Int))),some (.d (aL names)),some (.d (.lst (rs.map D.int))),some (.d (.int th)),some (.d (ph names A)),some (.d (.int (j:Int))),some (.d (.int (k:Int))),some (.d (.int c))]=.ok (decide (rs.getD j 0 < rs.getD k 0)):=bR (aB (aB rfl rfl (hrx j hj)) (aB rfl rfl (hrx k hk)) rfl)
    have c2:cB (m2 Ax (m2 cu (mV 10) (mC (.int 4))) (mV 6)) [some (.d (.lst (ds.map D.int))),some (.d (.int (lo:Int))),some (.d (.int (hi:Int))),some (.d (.int (m:Int))),some (.d (aL names)),some (.d (.lst (rs.map D.int))),some (.d (.int th)),some (.d (ph names A)),some (.d (.int (j:Int))),some (.d (.int (k:Int))),some (.d (.int c))]=.ok (decide (c % 4 < th)):=bR (aB (aB rfl rfl (aq (by decide))) rfl rfl)
    by_cases hb:rs.getD j 0 < rs.getD k 0∧c % 4 < th
    ·refine⟨[some (.d (.lst (ds.map D.int))),some (.d (.int (lo:Int))),some (.d (.int (hi:Int))),some (.d (.int (m:Int))),some (.d (aL names)),some (.d (.lst (rs.map D.int))),some (.d (.int th)),some (.d (ph names A)),some (.d (.int (j:Int))),some (.d (.int (k:Int))),o10],
      [some (.d (.lst (ds.map D.int))),some (.d (.int (lo:Int))),some (.d (.int (hi:Int))),some (.d (.int (m:Int))),some (.d (aL names)),some (.d (.lst (rs.map D.int))),some (.d (.int th)),some (.d (ph names (A++[(j,k)]))),some (.d (.int (j:Int))),some (.d (.int (k:Int))),some (.d (.int c))],rfl,?_,A++[(j,k)],some (.d (.int (k:Int))),some (.d (.int c)),rfl,by rw[Nat.zero_add];exact hg.add hj hk hb.1⟩
     rw[aH (e':=[some (.d (.lst (ds.map D.int))),some (.d (.int (lo:Int))),some (.d (.int (hi:Int))),some (.d (.int (m:Int))),some (.d (aL names)),some (.d (.lst (rs.map D.int))),some (.d (.int th)),some (.d (ph names A)),some (.d (.int (j:Int))),some (.d (.int (k:Int))),some (.d (.int c))]) (aV hc)]
     rw[jM (by unfold fU;rw[c1,aG,decide_eq_true hb.1,if_pos rfl,c2,decide_eq_true hb.2])]
     rw[jo (d:=pairD (nth names j,nth names k)) (ds:=(A.map (arrOf names)).map pairD) (lG (aB rfl rfl (hnx j hj)) (aB rfl rfl (hnx k hk))) rfl (by rw[List.length_map,List.length_map];have:=hg.2.2;omega)]
     show Rs.ok (Out.nx [_,_,_,_,_,_,_,some (W.d (D.lst ((A.map (arrOf names)).map pairD++[pairD (nth names j,nth names k)]))),_,_,_])=_
     rw[ph,List.map_append,List.map_append];rfl
    ·refine⟨[some (.d (.lst (ds.map D.int))),some (.d (.int (lo:Int))),some (.d (.int (hi:Int))),some (.d (.int (m:Int))),some (.d (aL names)),some (.d (.lst (rs.map D.int))),some (.d (.int th)),some (.d (ph names A)),some (.d (.int (j:Int))),some (.d (.int (k:Int))),o10],
      [some (.d (.lst (ds.map D.int))),some (.d (.int (lo:Int))),some (.d (.int (hi:Int))),some (.d (.int (m:Int))),some (.d (aL names)),some (.d (.lst (rs.map D.int))),some (.d (.int th)),some (.d (ph names A)),some (.d (.int (j:Int))),some (.d (.int (k:Int))),some (.d (.int c))],rfl,?_,A,some (.d (.int (k:Int))),some (.d (.int c)),rfl,by rw[Nat.zero_add];exact hg.skip⟩
     rw[aH (e':=[some (.d (.lst (ds.map D.int))),some (.d (.int (lo:Int))),some (.d (.int (hi:Int))),some (.d (.int (m:Int))),some (.d (aL names)),some (.d (.lst (rs.map D.int))),some (.d (.int th)),some (.d (ph names A)),some (.d (.int (j:Int))),some (.d (.int (k:Int))),some (.d (.int c))]) (aV hc)]
     rw[jm (by
      unfold fU
      rw[c1,aG]
      by_cases hb1:rs.getD j 0 < rs.getD k 0
      ·rw[decide_eq_true hb1,if_pos rfl,c2,decide_eq_false fun z=>hb ⟨hb1,z⟩]
      ·rw[decide_eq_false hb1,if_neg Bool.false_ne_true])]
     rfl) _ ⟨A,o9,o10,rfl,hg⟩
  subst he
  rw[cF,Nat.zero_add] at hg'
  exact⟨A',p9,p10,f1,hg'.next hm8⟩
 obtain⟨e',f1,A,p8,p9,p10,he,hg⟩:=dW (tg:=.n 8) (body:=(eG (bV (mV 3)) (.n 9)
  (aY (bw 10 (m2 bH (mV 0) (m2 bz (m2 bz (mC (.int 4)) (m2 eE (m2 cD (mN nQ [(mV 8),(mV 9)]) (m2 qx (mN nQ [(mV 8),(mV 9)]) (mC (.int 1)))) (mC (.int 2)))) (mN wL [(mV 8),(mV 9)]))))
  (jP (fU (cB (m2 Ax (m2 bH (mV 5) (mV 8)) (m2 bH (mV 5) (mV 9)))) (cB (m2 Ax (m2 cu (mV 10) (mC (.int 4))) (mV 6)))) (bJ 7 (mN dTup [(m2 bH (mV 4) (mV 8)),(m2 bH (mV 4) (mV 9))])) bT))))
  (fun j e=>∃ (A:List Ix) (o8 o9 o10:Option W),e=[some (.d (.lst (ds.map D.int))),some (.d (.int (lo:Int))),some (.d (.int (hi:Int))),some (.d (.int (m:Int))),some (.d (aL names)),some (.d (.lst (rs.map D.int))),some (.d (.int th)),some (.d (ph names A)),o8,o9,o10]∧good m (fun i=>rs.getD i 0) A j 0)
  (bQ 0 (m:Int)) 0 (fun j x e hx ⟨A,o8,o9,o10,he,hg⟩=>by
   obtain⟨hj,rfl⟩:=fQ hx
   subst he
   rw[Nat.zero_add] at hg
   obtain⟨A',p9,p10,f1,hg'⟩:=inner j A o9 o10 hj hg
   exact⟨_,_,rfl,(cP (fY rfl (zK m hm8))).trans f1,A',_,p9,p10,rfl,by rw[Nat.zero_add];exact hg'⟩)
  [some (.d (.lst (ds.map D.int))),some (.d (.int (lo:Int))),some (.d (.int (hi:Int))),some (.d (.int (m:Int))),some (.d (aL names)),some (.d (.lst (rs.map D.int))),some (.d (.int th)),some (.d (.lst [])),none,none,none] ⟨[],none,none,none,rfl,List.Pairwise.nil,fun p hp=>absurd hp (by simp),Nat.zero_le _⟩
 subst he
 rw[cF,Nat.zero_add] at hg
 refine⟨names,A,fun i=>rs.getD i 0,?_,⟨hnd,by omega,by omega,hg.1,fun p hp=>?_,by have:=hg.2.2;omega⟩,by omega,by omega,hwf⟩
 ·unfold qJ K4
  rw[Tz]
  have hx0:=hx 0 (by decide)
  have hx2:=hx 2 (by decide)
  have hx3:=hx 3 (by decide)
  rw[show ((0:Nat):Int)=0 from rfl] at hx0
  rw[show ((2:Nat):Int)=2 from rfl] at hx2
  rw[show ((3:Nat):Int)=3 from rfl] at hx3
  rw[aH (e':=[some (.d (.lst (ds.map D.int))),some (.d (.int (lo:Int))),some (.d (.int (hi:Int))),some (.d (.int (m:Int))),none,none,none,none,none,none,none]) (aV (d:=.int (m:Int)) ((aB rfl (aB (aB rfl rfl hx0) (aB (aB rfl rfl rfl) rfl rfl) (aq hw)) rfl).trans (by rw[vB,hm])))]
  rw[aH (e':=[some (.d (.lst (ds.map D.int))),some (.d (.int (lo:Int))),some (.d (.int (hi:Int))),some (.d (.int (m:Int))),some (.d (aL names)),none,none,none,none,none,none]) (aV (call2 rfl rfl hn))]
  rw[aH (e':=[some (.d (.lst (ds.map D.int))),some (.d (.int (lo:Int))),some (.d (.int (hi:Int))),some (.d (.int (m:Int))),some (.d (aL names)),some (.d (.lst (rs.map D.int))),none,none,none,none,none]) (aV (call2 (dw (aB rfl rfl hx2)) rfl hr))]
  have hl6:mN d9 [(mC (.int 4)),(mC (.int 1)),(mC (.int 2)),(mC (.int 3)),(mC (.int 2)),(mC (.int 3))] [some (.d (.lst (ds.map D.int))),some (.d (.int (lo:Int))),some (.d (.int (hi:Int))),some (.d (.int (m:Int))),some (.d (aL names)),some (.d (.lst (rs.map D.int))),none,none,none,none,none]=.ok (.lst ([4,1,2,3,2,3].map D.int)):=by
   show aU (([4,1,2,3,2,3].map D.int).length≤16777216) _=_
   exact aq (by simp)
  rw[aH (e':=[some (.d (.lst (ds.map D.int))),some (.d (.int (lo:Int))),some (.d (.int (hi:Int))),some (.d (.int (m:Int))),some (.d (aL names)),some (.d (.lst (rs.map D.int))),some (.d (.int th)),none,none,none,none]) (aV (aB hl6 (aB (aB rfl rfl hx3) rfl (aq (by decide))) hth))]
  rw[aH (e':=[some (.d (.lst (ds.map D.int))),some (.d (.int (lo:Int))),some (.d (.int (hi:Int))),some (.d (.int (m:Int))),some (.d (aL names)),some (.d (.lst (rs.map D.int))),some (.d (.int th)),some (.d (.lst [])),none,none,none]) (aV (u9 _))]
  rw[aH ((cP (fY rfl (zK m hm8))).trans f1)]
  rw[eQ (dw (lG (x:=fB names) (y:=Hy (A.map (arrOf names))) (fX (x:=aL names) rfl) (fX (x:=ph names A) rfl)))]
  rfl
 ·obtain⟨a,b,c,_⟩:=hg.2.1 p hp
  exact⟨by omega,by omega,c⟩
end Mr
namespace Mr
open PySem Mi
open My (words mZ pP)
end Mr
namespace Mr
open PySem Mi
open My (words mZ pP)
end Mr
namespace Mr
open PySem Mi
end Mr
namespace Mr
open PySem Mi
inductive Z9(aj:List Ar)(x:Str):Str→Prop
 | refl:Z9 aj x x
 | step {y z:Str}:Z9 aj x y→(y,z)∈aj→Z9 aj x z
theorem Tw{names met:List Str}(nd:met.Nodup)(sub:∀ y∈met,y∈names)(h:names.length≤met.length):∀ y∈names,y∈met:=fun y hy=>by
 apply Classical.byContradiction
 intro hn
 have:=dZ (l:=y::met) (m:=names) (List.nodup_cons.mpr ⟨hn,nd⟩) (fun z hz=>by
  rcases List.mem_cons.mp hz with rfl|hz
  ·exact hy
  ·exact sub z hz)
 simp at this;omega
end Mr
namespace Mr
open PySem Mi
noncomputable def rch (aj:List Ar) (x y:Str):Bool:=@decide (Z9 aj x y) (Classical.propDecidable _)
noncomputable def aaE (names:List Str) (aj:List Ar) (x:Str):List Str:=names.filter (rch aj x)
end Mr
namespace Mr
open PySem Mi
noncomputable def hb (names:List Str) (aj:List Ar) (held:List Str) (x:Str):Bool:=(aaE names aj x).any fun y=>decide (y∈held)
end Mr
namespace Mr
open PySem Mi
abbrev JB:=Str×Str×Str
def fu(t:JB):D:=.tup [.str t.1,.str t.2.1,.str t.2.2]
theorem zc(aj:List Ar)(p:Ar):((aj.map pairD).any fun e=>cU e (pairD p))=decide (p∈aj):=by
 induction aj with
 | nil=>rfl
 | cons q r ih =>
  rw[List.map_cons,List.any_cons,ih]
  have:cU (pairD q) (pairD p)=decide (q=p):=by
   unfold pairD
   rw[cU,dY,dY,dY,ir,ir]
   obtain⟨a,b⟩:=q
   obtain⟨c,d⟩:=p
   by_cases h1:a=c<;>by_cases h2:b=d<;>simp[h1,h2]
  rw[this]
  by_cases h:q=p
  ·simp[h]
  ·have h2:¬ p=q:=fun z=>h z.symm
   simp[h,h2]
theorem nO:∀ aj:List Ar,cQ (aj.map pairD)≤1
 | []=>by simp
 | p::r=>by
  have:=nO r
  rw[List.map_cons,mD]
  have h:(pairD p).dep=1:=by simp[pairD]
  omega
theorem kJ(aj:List Ar)(p:Ar):kO (pairD p) (Hy aj)=.ok (.bl (decide (p∈aj))):=by
 show aU _ _=_
 rw[aq (by have:=nO aj;omega),zc]
theorem Od(ms:List Str)(x:Str):D.lst (ms.map D.str++[.str x])=aL (ms++[x]):=by unfold aL;rw[List.map_append];rfl
end Mr
namespace Mr
open PySem Mi
def pK(a:Ar)(aj:List Ar):List Ar:=aj.map fun p=>if p=a then (p.2,p.1) else p
theorem tX{aj:List Ar}{a p:Ar}(ha:a∈aj):p∈pK a aj↔(p∈aj∧p≠a)∨p=(a.2,a.1):=by
 unfold pK
 rw[List.mem_map]
 constructor
 ·rintro ⟨q,hq,e⟩
  by_cases z:q=a
  ·rw[if_pos z] at e;exact .inr (by rw[← e,z])
  ·rw[if_neg z] at e;exact .inl ⟨e ▸ hq,e ▸ z⟩
 ·rintro (⟨h1,h2⟩|e)
  ·exact⟨p,h1,if_neg h2⟩
  ·exact⟨a,ha,by rw[if_pos rfl,e]⟩
def hds(aj:List Ar)(l:List Str):List Str:=(aj.filter fun p=>decide (p.1∈l)).map (·.2)
theorem Dh{aj:List Ar}{l:List Str}{x:Str}:x∈hds aj l↔∃ t,(t,x)∈aj∧t∈l:=by
 unfold hds
 rw[List.mem_map]
 constructor
 ·rintro ⟨⟨t,h⟩,hq,rfl⟩
  obtain⟨h1,h2⟩:=List.mem_filter.mp hq
  exact⟨t,h1,by simpa using h2⟩
 ·rintro ⟨t,h1,h2⟩
  exact⟨(t,x),List.mem_filter.mpr ⟨h1,by simpa using h2⟩,rfl⟩
def ZX(aj:List Ar)(l:List Str):List Str:=l.filter fun x=>decide (x∈hds aj l)
def nH(names:List Str)(aj:List Ar):Nat→List Str
 | 0=>names
 | k+1=>ZX aj (nH names aj k)
def Hw(names:List Str)(aj:List Ar):Bool:=decide (0 < (nH names aj names.length).length)
def Rk(aj:List Ar):Prop:=∃ r:Str→Int,∀ p∈aj,r p.1 < r p.2
theorem Wi{aj:List Ar}(R:Rk aj){l:List Str}(h:l≠[]):(ZX aj l).length < l.length:=by
 obtain⟨r,hr⟩:=R
 obtain⟨x,hx,hm⟩:=PQ r l h
 have hn:x∉hds aj l:=fun z=>by
  obtain⟨t,h1,h2⟩:=Dh.mp z
  have:=hr _ h1
  have:=hm t h2
  simp only at *
  omega
 exact List.length_filter_lt_length_iff_exists.mpr ⟨x,hx,by simpa using hn⟩
theorem Kc{names:List Str}{aj:List Ar}(R:Rk aj):∀ k,(nH names aj k).length≤names.length - k
 | 0=>Nat.le_refl _
 | k+1=>by
  have ih:=Kc (names:=names) R k
  by_cases h:nH names aj k=[]
  ·rw[nH,h];simp[ZX]
  ·have:=Wi R h
   rw[nH];omega
theorem V0{names:List Str}{aj:List Ar}(R:Rk aj):Hw names aj=false:=by
 have:=Kc (names:=names) R names.length
 unfold Hw
 rw[decide_eq_false_iff_not];omega
theorem S7{names:List Str}{aj:List Ar}{k:Nat}{x:Str}(h:x∈nH names aj (k+1)):x∈nH names aj k:=(List.mem_filter.mp h).1
theorem Gh{names:List Str}{aj:List Ar}(hin:∀ p∈aj,p.1∈names∧p.2∈names){t h:Str}(a:(t,h)∈aj):∀ k,t∈nH names aj k→h∈nH names aj k∧h∈nH names aj (k+1)
 | 0,ht=>by
  have h0:h∈nH names aj 0:=(hin _ a).2
  exact⟨h0,List.mem_filter.mpr ⟨h0,by simpa using Dh.mpr ⟨t,a,ht⟩⟩⟩
 | k+1,ht=>by
  have ih:=(Gh hin a k (S7 ht)).2
  exact⟨ih,List.mem_filter.mpr ⟨ih,by simpa using Dh.mpr ⟨t,a,ht⟩⟩⟩
theorem Fj{names:List Str}{aj:List Ar}(hin:∀ p∈aj,p.1∈names∧p.2∈names)(h:Hw names aj=false):Rk aj:=by
 have he:∀ x,x∉nH names aj names.length:=fun x hx=>by
  have:=List.length_pos_of_mem hx
  unfold Hw at h
  rw[decide_eq_false_iff_not] at h
  exact h this
 refine⟨fun x=>(((List.range names.length).filter fun k=>decide (x∈nH names aj k)).length:Nat),fun p hp=>?_⟩
 obtain⟨t,b⟩:=p
 have key:(0::((List.range names.length).filter fun k=>decide (t∈nH names aj k)).map (· + 1)).length≤((List.range names.length).filter fun k=>decide (b∈nH names aj k)).length:=by
  refine dZ ?_ ?_
  ·refine List.nodup_cons.mpr ⟨fun z=>by obtain⟨y,_,e⟩:=List.mem_map.mp z;omega,?_⟩
   have nd:=(List.nodup_range (n:=names.length)).filter (p:=fun k=>decide (t∈nH names aj k))
   refine List.pairwise_map.mpr (nd.imp fun z e=>z (by omega))
  ·intro y hy
   have hb:b∈names:=(hin _ hp).2
   have pos:=List.length_pos_of_mem hb
   rcases List.mem_cons.mp hy with rfl|hy
   ·exact List.mem_filter.mpr ⟨List.mem_range.mpr pos,decide_eq_true (show b∈nH names aj 0 from hb)⟩
   ·obtain⟨k,hk,rfl⟩:=List.mem_map.mp hy
    obtain⟨k1,k2⟩:=List.mem_filter.mp hk
    have k2:t∈nH names aj k:=by simpa using k2
    have k3:=(Gh hin hp k k2).2
    have k1:=List.mem_range.mp k1
    have:k+1≠names.length:=fun e=>he b (e ▸ k3)
    exact List.mem_filter.mpr ⟨List.mem_range.mpr (by omega),by simpa using k3⟩
 simp only[List.length_cons,List.length_map] at key ⊢
 omega
def pM(aj:List Ar)(a m b:Str):Bool:=(decide ((a,m)∈aj) && decide ((b,m)∈aj)) && !(decide ((a,b)∈aj) || decide ((b,a)∈aj))
theorem uh(aj:List Ar)(a m b:Str):pM aj a m b=pM aj b m a:=by
 unfold pM
 rw[Bool.and_comm (decide ((a,m)∈aj)),Bool.or_comm (decide ((a,b)∈aj))]
theorem qM{aj:List Ar}{a m b:Str}:pM aj a m b=true↔(a,m)∈aj∧(b,m)∈aj∧¬ (a,b)∈aj∧¬ (b,a)∈aj:=by
 unfold pM
 simp[and_assoc]
def jH(names:List Str)(aj:List Ar):List JB :=
 (List.range names.length).flatMap fun k=>names.flatMap fun m=>((names.drop (k+1)).filter fun b=>pM aj (nth names k) m b).map fun b=>(nth names k,m,b)
theorem tY{names:List Str}{aj:List Ar}{a m b:Str}:(a,m,b)∈jH names aj↔∃ k,k < names.length∧a=nth names k∧m∈names∧b∈names.drop (k+1)∧pM aj a m b=true:=by
 unfold jH
 simp only[List.mem_flatMap,List.mem_map,List.mem_filter,List.mem_range,Prod.mk.injEq]
 constructor
 ·rintro ⟨k,hk,m',hm,b',⟨hb,hc⟩,rfl,rfl,rfl⟩
  exact⟨k,hk,rfl,hm,hb,hc⟩
 ·rintro ⟨k,hk,rfl,hm,hb,hc⟩
  exact⟨k,hk,m,hm,b,⟨hb,hc⟩,rfl,rfl,rfl⟩
theorem cz{α β : Type}{f g:α→List β}:∀ {l:List α},(∀ x∈l,f x=g x)→l.flatMap f=l.flatMap g
 | [],_=>rfl
 | x::r,h=>by rw[List.flatMap_cons,List.flatMap_cons,h x List.mem_cons_self,cz fun y hy=>h y (List.mem_cons_of_mem _ hy)]
theorem yl{names:List Str}{i j:Nat}(h:i < j)(hj:j < names.length):nth names j∈names.drop (i+1):=by
 refine List.mem_iff_getElem?.mpr ⟨j - (i+1),?_⟩
 rw[List.getElem?_drop,show i+1+(j - (i+1))=j by omega]
 unfold nth
 rw[List.getD_eq_getElem?_getD,List.getElem?_eq_getElem hj];rfl
theorem wX{names:List Str}(nd:names.Nodup){k:Nat}(hk:k < names.length){b:Str}(hb:b∈names.drop (k+1)):b∈names∧nth names k≠b:=by
 obtain⟨i,hi⟩:=List.mem_iff_getElem?.mp hb
 rw[List.getElem?_drop] at hi
 have hl:k+1+i < names.length:=by
  rcases Nat.lt_or_ge (k+1+i) names.length with z|z
  ·exact z
  ·rw[List.getElem?_eq_none z] at hi;cases hi
 have e:b=nth names (k+1+i):=by
  unfold nth
  rw[List.getD_eq_getElem?_getD,hi];rfl
 rw[e]
 exact⟨mq hl,fun z=>by have:=oH nd hk hl z;omega⟩
theorem ug{names:List Str}(nd:names.Nodup){A B:List Ar}:jH names A=jH names B↔∀ a∈names,∀ m∈names,∀ b∈names,a≠b→pM A a m b=pM B a m b:=by
 constructor
 ·intro e
  have key:∀ i j m,i < j→j < names.length→m∈names→pM A (nth names i) m (nth names j)=pM B (nth names i) m (nth names j):=fun i j m hij hj hm=>by
   have one:∀ {A B:List Ar},jH names A=jH names B→pM A (nth names i) m (nth names j)=true→pM B (nth names i) m (nth names j)=true:=fun e h=>by
    have:=tY.mpr ⟨i,by omega,rfl,hm,yl hij hj,h⟩
    rw[e] at this
    obtain⟨_,_,_,_,_,h⟩:=tY.mp this
    exact h
   cases ha:pM A (nth names i) m (nth names j) with
   | true=>exact(one e ha).symm
   | false=>cases hb:pM B (nth names i) m (nth names j) with
    | true=>exact absurd (one e.symm hb) (by rw[ha];exact Bool.false_ne_true)
    | false=>rfl
  intro a ha m hm b hb hne
  obtain⟨i,hi,rfl⟩:=Df ha
  obtain⟨j,hj,rfl⟩:=Df hb
  rcases Nat.lt_trichotomy i j with z|z|z
  ·exact key i j m z hj hm
  ·exact absurd (by rw[z]) hne
  ·rw[uh,uh B];exact key j i m z hi hm
 ·intro h
  unfold jH
  refine cz fun k hk=>cz fun m hm=>?_
  have hk:=List.mem_range.mp hk
  congr 1
  refine List.filter_congr fun b hb=>?_
  obtain⟨h1,h2⟩:=wX nd hk hb
  exact h _ (mq hk) m hm b h1 h2
theorem uo{aj:List Ar}{t h:Str}:jx (bO aj h) (bO aj t++[t])=true↔∀ x,(x,h)∈aj↔(x,t)∈aj∨x=t:=by
 unfold jx
 simp only[Bool.and_eq_true,List.all_eq_true,decide_eq_true_eq,List.mem_append,List.mem_singleton,iw]
 constructor
 ·rintro ⟨h1,h2⟩ x
  exact⟨h1 x,h2 x⟩
 ·intro z
  exact⟨fun x=>(z x).mp,fun x=>(z x).mpr⟩
theorem xr{names:List Str}{aj:List Ar}(nd:names.Nodup)(hin:∀ p∈aj,p.1∈names∧p.2∈names)(R:Rk aj){t h:Str}(ha:(t,h)∈aj) :
 jx (bO aj h) (bO aj t++[t])=(!Hw names (pK (t,h) aj) && decide (jH names (pK (t,h) aj)=jH names aj)):=by
 obtain⟨r,hr⟩:=id R
 have hth:t≠h:=fun e=>by have:=hr _ ha;simp only[e] at this;omega
 have mf:∀ p:Ar,p∈pK (t,h) aj↔(p∈aj∧p≠(t,h))∨p=(h,t):=fun p=>tX ha
 have Tt:∀ p∈pK (t,h) aj,p.1∈names∧p.2∈names:=fun p hp=>by
  rcases (mf p).mp hp with z|z
  ·exact hin p z.1
  ·rw[z];exact⟨(hin _ ha).2,(hin _ ha).1⟩
 have YC:(h,t)∉aj:=fun z=>by have:=hr _ z;have:=hr _ ha;simp only at *;omega
 have tn:=(hin _ ha).1
 have hn:=(hin _ ha).2
 have tie:∀ a b,((a,b)∈pK (t,h) aj∨(b,a)∈pK (t,h) aj)↔((a,b)∈aj∨(b,a)∈aj):=fun a b=>by
  rw[mf,mf]
  constructor
  ·rintro ((⟨z,_⟩|z)|(⟨z,_⟩|z))
   ·exact .inl z
   ·cases z;exact .inr ha
   ·exact .inr z
   ·cases z;exact .inl ha
  ·rintro (z|z)
   ·by_cases e:(a,b)=(t,h)
    ·cases e;exact .inr (.inr rfl)
    ·exact .inl (.inl ⟨z,e⟩)
   ·by_cases e:(b,a)=(t,h)
    ·cases e;exact .inl (.inr rfl)
    ·exact .inr (.inl ⟨z,e⟩)
 have M6:∀ A a m b,pM A a m b=true↔((a,m)∈A∧(b,m)∈A)∧¬ ((a,b)∈A∨(b,a)∈A):=fun A a m b=>by
  rw[qM,not_or,and_assoc]
 apply Bool.eq_iff_iff.mpr
 rw[uo,Bool.and_eq_true,Bool.not_eq_true',decide_eq_true_eq,ug nd]
 constructor
 ·intro cov
  constructor
  ·refine V0 ⟨fun x=>if x=h then 2 * r t - 1 else 2 * r x,fun p hp=>?_⟩
   obtain⟨a,b⟩:=p
   rcases (mf _).mp hp with ⟨z1,z2⟩|z
   ·have ab:=hr _ z1
    simp only at ab ⊢
    by_cases e1:a=h
    ·subst e1
     have e2:b≠a:=fun e=>by rw[e] at ab;omega
     rw[if_pos rfl,if_neg e2]
     have:=hr _ ha;simp only at this;omega
    ·rw[if_neg e1]
     by_cases e2:b=h
     ·subst e2
      rw[if_pos rfl]
      rcases (cov a).mp z1 with y|y
      ·have:=hr _ y;simp only at this;omega
      ·subst y;exact absurd rfl z2
     ·rw[if_neg e2];omega
   ·cases z
    show (if h=h then 2 * r t - 1 else 2 * r h) < (if t=h then 2 * r t - 1 else 2 * r t)
    rw[if_pos rfl,if_neg hth];omega
  ·intro a _ m _ b _ hab
   apply Bool.eq_iff_iff.mpr
   rw[M6,M6,tie a b]
   constructor
   ·rintro ⟨⟨z1,z2⟩,z3⟩
    refine⟨?_,z3⟩
    rcases (mf _).mp z1 with ⟨y1,_⟩|y
    ·rcases (mf _).mp z2 with ⟨y2,_⟩|y
     ·exact⟨y1,y2⟩
     ·cases y
      exact absurd (.inl ((cov a).mpr (.inl y1))) z3
    ·cases y
     rcases (mf _).mp z2 with ⟨y2,_⟩|y
     ·exact absurd (.inr ((cov b).mpr (.inl y2))) z3
     ·cases y;exact absurd rfl hab
   ·rintro ⟨⟨z1,z2⟩,z3⟩
    refine⟨⟨?_,?_⟩,z3⟩
    ·rw[mf]
     by_cases e:(a,m)=(t,h)
     ·cases e
      rcases (cov b).mp z2 with y|y
      ·exact absurd (.inr y) z3
      ·exact absurd y.symm hab
     ·exact .inl ⟨z1,e⟩
    ·rw[mf]
     by_cases e:(b,m)=(t,h)
     ·cases e
      rcases (cov a).mp z1 with y|y
      ·exact absurd (.inl y) z3
      ·exact absurd y hab
     ·exact .inl ⟨z2,e⟩
 ·rintro ⟨acy,same⟩ x
  obtain⟨r',hr'⟩:=Fj Tt acy
  constructor
  ·intro z
   by_cases e:x=t
   ·exact .inr e
   ·refine .inl ?_
    by_cases q:(x,t)∈aj
    ·exact q
    ·exfalso
     by_cases q2:(t,x)∈aj
     ·have z1:=hr' (x,h) ((mf _).mpr (.inl ⟨z,fun y=>by cases y;exact e rfl⟩))
      have z2:=hr' (h,t) ((mf _).mpr (.inr rfl))
      have hx:x≠h:=fun y=>by subst y;have:=hr _ z;simp only at this;omega
      have z3:=hr' (t,x) ((mf _).mpr (.inl ⟨q2,fun y=>by cases y;exact hx rfl⟩))
      simp only at *;omega
     ·have c1:pM aj x h t=true:=(M6 _ _ _ _).mpr ⟨⟨z,ha⟩,fun y=>y.elim q q2⟩
      rw[← same x (hin _ z).1 h hn t tn e] at c1
      have c2:=((M6 _ _ _ _).mp c1).1.2
      rcases (mf _).mp c2 with ⟨_,y⟩|y
      ·exact y rfl
      ·cases y;exact hth rfl
  ·rintro (z|rfl)
   ·by_cases q:(x,h)∈aj
    ·exact q
    ·exfalso
     have hx:x≠h:=fun y=>by subst y;exact YC z
     by_cases q2:(h,x)∈aj
     ·have:=hr _ z;have:=hr _ ha;have:=hr _ q2
      simp only at *;omega
     ·have zt:(x,t)∈pK (t,h) aj:=(mf _).mpr (.inl ⟨z,fun y=>by cases y;exact hth rfl⟩)
      have c1:pM (pK (t,h) aj) x t h=true:=(M6 _ _ _ _).mpr ⟨⟨zt,(mf _).mpr (.inr rfl)⟩,fun y=>((tie x h).mp y).elim q q2⟩
      rw[same x (hin _ z).1 t tn h hn hx] at c1
      exact YC ((M6 _ _ _ _).mp c1).1.2
   ·exact ha
end Mr
namespace Mr
open PySem Mi
end Mr
namespace Mr
open PySem Mi
end Mr
namespace Mr
open PySem Mi
theorem Ql{cs:List Str}{i:Int}(h0:0≤i)(h1:i < cs.length):bH (fB cs) (.int i)=.ok (.str (nth cs i.toNat)):=Du (cs:=cs) h0 h1
def tie(aj:List Ar)(a b:Str):Bool:=decide ((a,b)∈aj) || decide ((b,a)∈aj)
theorem JK{names:List Str}{aj:List Ar}(a b:Str):gf [.d (aW names aj),.d (.str a),.d (.str b)]=.ok (.d (.bl (tie aj a b))):=by
 unfold gf GZ
 rw[Tz]
 have a1:m2 kO (mN dTup [(mV 1),(mV 2)]) (m2 bH (mV 0) (mC (.int 1))) [some (.d (aW names aj)),some (.d (.str a)),some (.d (.str b))]=.ok (.bl (decide ((a,b)∈aj))):=(aB (lG rfl rfl) (aB rfl rfl (Th _ _)) rfl).trans (kJ aj (a,b))
 have a2:m2 kO (mN dTup [(mV 2),(mV 1)]) (m2 bH (mV 0) (mC (.int 1))) [some (.d (aW names aj)),some (.d (.str a)),some (.d (.str b))]=.ok (.bl (decide ((b,a)∈aj))):=(aB (lG rfl rfl) (aB rfl rfl (Th _ _)) rfl).trans (kJ aj (b,a))
 have aa:Vj (m2 kO (mN dTup [(mV 1),(mV 2)]) (m2 bH (mV 0) (mC (.int 1)))) (m2 kO (mN dTup [(mV 2),(mV 1)]) (m2 bH (mV 0) (mC (.int 1)))) [some (.d (aW names aj)),some (.d (.str a)),some (.d (.str b))]=.ok (.bl (tie aj a b)):=by
  unfold Vj
  rw[a1,aG]
  show (Xh (.bl _)).bind _=_
  rw[Hj,aG]
  unfold tie
  by_cases h:(a,b)∈aj
  ·rw[decide_eq_true h,if_pos rfl,Bool.true_or]
  ·rw[decide_eq_false h,if_neg Bool.false_ne_true,a2,Bool.false_or]
 exact(congrArg (fun r=>Rs.bind r yH) (eQ (dw aa))).trans rfl
theorem Qh{names:List Str}{aj:List Ar}{e:Mi.Env}(e0:mV 0 e=.ok (aW names aj)):mN fV [(m2 bH (mV 0) (mC (.int 0)))] e=.ok (.int (names.length:Int)):=(fX (aB e0 rfl (Kq _ _))).trans (by unfold fB;rw[Vk,List.length_map])
end Mr
namespace Mr
open PySem Mi
end Mr
namespace Mr
open PySem Mi
end Mr
namespace Mr
open PySem Mi
theorem mF{a b:C}{e:Mi.Env}{p q:Bool}(ha:a e=.ok p)(hb:p=true→b e=.ok q):fU a b e=.ok (p && q):=by
 unfold fU;rw[ha,aG]
 cases p with
 | true=>rw[if_pos rfl,hb rfl];rfl
 | false=>rfl
theorem yQ{a b:C}{e:Mi.Env}{p q:Bool}(ha:a e=.ok p)(hb:p=false→b e=.ok q):Ea a b e=.ok (p || q):=by
 unfold Ea;rw[ha,aG]
 cases p with
 | true=>rfl
 | false=>rw[if_neg Bool.false_ne_true,hb rfl];rfl
theorem uq{a:C}{e:Mi.Env}{p:Bool}(ha:a e=.ok p):pL a e=.ok (!p):=by unfold pL;rw[ha];rfl
theorem wR{a b:E}{e:Mi.Env}{p q:Bool}(ha:a e=.ok (.bl p))(hb:p=true→b e=.ok (.bl q)):u6 a b e=.ok (.bl (p && q)):=by
 unfold u6;rw[ha,aG,Hj,aG]
 cases p with
 | true=>rw[if_pos rfl,hb rfl];rfl
 | false=>rfl
theorem Wq{a b:E}{e:Mi.Env}{p q:Bool}(ha:a e=.ok (.bl p))(hb:p=false→b e=.ok (.bl q)):Vj a b e=.ok (.bl (p || q)):=by
 unfold Vj;rw[ha,aG,Hj,aG]
 cases p with
 | true=>rfl
 | false=>rw[if_neg Bool.false_ne_true,hb rfl];rfl
theorem Jy{i:Nat}{c:C}{a:E}{e:Mi.Env}{ds:List D}{d:D}{p:Bool}(hc:c e=.ok p)(ha:p=true→a e=.ok d)(hg:getL e i=.ok ds)(hl:ds.length+(if p then [d] else []).length≤16777216)(hs:e.set i (some (.d (.lst ds)))=e) :
 jP c (bJ i a) bT e=.ok (.nx (putL e i (ds++if p then [d] else []))):=by
 cases p with
 | true=>rw[jM hc,jo (ha rfl) hg (by simp at hl;omega)];rfl
 | false =>
  rw[jm hc]
  simp only[Bool.false_eq_true,if_false,List.append_nil,putL]
  rw[hs];rfl
theorem Vh{f:List D→Rs D}{a b c:E}{e:Mi.Env}{x y z:D}(h:a e=.ok x)(h':b e=.ok y)(h'':c e=.ok z):mN f [a,b,c] e=f [x,y,z]:=by unfold mN;rw[jL,h,aG,jL,h',aG,jL,h''];rfl
theorem Cu{f:D→Option Int→Option Int→Rs D}{a b:E}{e:Mi.Env}{x:D}{i:Int}(h:a e=.ok x)(h':b e=.ok (.int i)):gR f a (some b) none e=f x (some i) none:=by unfold gR;rw[h,aG,show my (some b) e=.ok (some i) from by rw[my,h'];rfl];rfl
theorem VJ{f:D→Option Int→Option Int→Rs D}{a b:E}{e:Mi.Env}{x:D}{i:Int}(h:a e=.ok x)(h':b e=.ok (.int i)):gR f a none (some b) e=f x none (some i):=by unfold gR;rw[h,aG,show my (some b) e=.ok (some i) from by rw[my,h'];rfl];rfl
theorem fJ{α : Type}{tg:Tg}{body:S}(f:α→D)(g:α→List D)(St:List D→Mi.Env→Prop):∀ (xs:List α) (acc:List D) (e:Mi.Env),acc.length+(xs.flatMap g).length≤16777216→St acc e →
 (∀ x∈xs,∀ acc e,acc.length+(g x).length≤16777216→St acc e→∃ e1 e2,tg.put (f x) e=.ok e1∧body e1=.ok (.nx e2)∧St (acc++g x) e2) →
 ∃ e',qw tg body (xs.map f) e=.ok (.nx e')∧St (acc++xs.flatMap g) e'
 | [],acc,e,_,h,_=>⟨e,rfl,by simpa using h⟩
 | x::r,acc,e,hl,h,hs=>by
  rw[List.flatMap_cons,List.length_append] at hl
  obtain⟨e1,e2,h1,h2,h3⟩:=hs x List.mem_cons_self acc e (by omega) h
  obtain⟨e',h4,h5⟩:=fJ f g St r (acc++g x) e2 (by rw[List.length_append];omega) h3 fun y hy=>hs y (List.mem_cons_of_mem _ hy)
  refine⟨e',?_,by rw[List.flatMap_cons,← List.append_assoc];exact h5⟩
  rw[List.map_cons,qw,h1,aG,h2,aG]
  exact h4
theorem kI{α β : Type}(p:α→Bool)(f:α→β):∀ l:List α,(l.flatMap fun x=>if p x then [f x] else [])=(l.filter p).map f
 | []=>rfl
 | x::r=>by
  rw[List.flatMap_cons,kI p f r]
  cases h:p x with
  | true=>rw[List.filter_cons_of_pos h];rfl
  | false=>rw[List.filter_cons_of_neg (by rw[h];exact Bool.false_ne_true)];rfl
theorem c7{α β γ : Type}(f:β→γ)(g:α→List β):∀ l:List α,(l.flatMap g).map f=l.flatMap fun x=>(g x).map f
 | []=>rfl
 | x::r=>by rw[List.flatMap_cons,List.map_append,c7 f g r,List.flatMap_cons]
theorem kE{α β : Type}{g:α→List β}{m:Nat}:∀ {l:List α},(∀ x∈l,(g x).length≤m)→(l.flatMap g).length≤l.length * m
 | [],_=>by simp
 | x::r,h=>by
  have ih:=kE (l:=r) fun y hy=>h y (List.mem_cons_of_mem _ hy)
  have h1:=h x List.mem_cons_self
  rw[List.flatMap_cons,List.length_append,List.length_cons,Nat.add_mul]
  omega
theorem Ac(p q:Ar):cU (pairD p) (pairD q)=decide (p=q):=by
 obtain⟨a,b⟩:=p
 obtain⟨c,d⟩:=q
 unfold pairD
 rw[cU,dY,dY,dY,ir,ir]
 by_cases h:a=c<;>by_cases k:b=d<;>simp[h,k]
theorem QW(p q:Ar):iV (pairD p) (pairD q)=.ok (.bl (decide (p=q))):=by
 unfold iV
 rw[aq (by simp[pairD]),Ac]
def cI(aj:List Ar):D:=.lst (aj.map pairD)
theorem M3(aj:List Ar)(p:Ar):kO (pairD p) (cI aj)=.ok (.bl (decide (p∈aj))):=by
 show aU _ _=_
 rw[aq (Nat.le_trans (nO aj) (by decide)),zc]
theorem uf(aj:List Ar)(p:Ar):dF (pairD p) (cI aj)=.ok (.bl (!decide (p∈aj))):=by
 show aU _ _=_
 rw[aq (Nat.le_trans (nO aj) (by decide)),zc]
theorem Yv(x y:D)(k:Bool):bH (.lst [x,y]) (.int (if k then 1 else 0))=.ok (if k then y else x):=by
 cases k
 ·show pJ (sX [x,y] 0)=_
  rw[at0];rfl
 ·show pJ (sX [x,y] 1)=_
  rw[at1];rfl
theorem yJ{aj:List Ar}{a:Ar}(hl:aj.length≤100):gq [.d (cI aj),.d (pairD a)]=.ok (.d (cI (pK a aj))):=by
 unfold gq v9
 rw[Jh]
 have hc:dJ (.n 1) gU (m2 bH (mN d9 [(mV 1),(mN dTup [(m2 bH (mV 1) (mC (.int 1))),(m2 bH (mV 1) (mC (.int 0)))])]) (mN Ni [(m2 iV (mV 1) (mV 0))])) [some (.d (pairD a)),none] (aj.map pairD)=.ok ((aj.filter fun _=>true).map fun p=>pairD (if p=a then (p.2,p.1) else p)) :=
  cW pairD (fun p=>pairD (if p=a then (p.2,p.1) else p)) (fun _=>true) aj fun p _=>⟨[some (.d (pairD a)),some (.d (pairD p))],rfl,rfl,fun _=>by
   have i0:bH (pairD p) (.int 0)=.ok (.str p.1):=by unfold pairD bH;simp only[at0];rfl
   have i1:bH (pairD p) (.int 1)=.ok (.str p.2):=by unfold pairD bH;simp only[at1];rfl
   refine(aB ((Af rfl (lG (aB rfl rfl i1) (aB rfl rfl i0))).trans (aq (by simp))) ((fX (aB rfl rfl (QW p a))).trans rfl) (Yv _ _ (decide (p=a)))).trans ?_
   by_cases h:p=a<;>simp[h,pairD]⟩
 have hm:=cM (ρ:=[some 1,none]) (e:=[some (.d (cI aj)),some (.d (pairD a))]) (dg (a:=mV 0) (x:=cI aj) rfl rfl) (by rw[List.length_map];omega) hc
 rw[show ([some (W.d (cI aj)),some (W.d (pairD a))]++List.replicate (2 - 2) none)=[some (W.d (cI aj)),some (W.d (pairD a))] from rfl]
 rw[eQ (dw hm)]
 show Rs.ok (W.d (.lst _))=_
 unfold cI pK
 rw[List.filter_eq_self.mpr (fun _ _=>rfl),List.map_map];rfl
theorem GJ{names:List Str}{aj:List Ar}(hn:names.length≤8)(hl:aj.length≤100):dj [.d (fB names),.d (cI aj)]=.ok (.d (.bl (Hw names aj))):=by
 unfold dj pG
 rw[Ji]
 have lle:∀ k,(nH names aj k).length≤8:=fun k=>by
  induction k with
  | zero=>exact hn
  | succ k ih=>exact Nat.le_trans (List.length_filter_le _ _) ih
 obtain⟨e',f1,o3,o4,he⟩:=dW (tg:=.n 3) (body:=(aY (bw 4 (bN [some 2,none,none] (ie (mV 1)) (.t [1,2]) (cB (m2 kO (mV 1) (mV 0))) (mV 2)))
 (bw 2 (bN [some 4,none] (ie (mV 2)) (.n 1) (cB (m2 kO (mV 1) (mV 0))) (mV 1)))))
  (fun i e=>∃ o3 o4:Option W,e=[some (.d (fB names)),some (.d (cI aj)),some (.d (aL (nH names aj i))),o3,o4]) (bQ 0 (names.length:Int)) 0 (fun i x e hx ⟨o3,o4,he⟩=>by
   subst he
   rw[Nat.zero_add]
   have h1:dJ (.t [1,2]) (cB (m2 kO (mV 1) (mV 0))) (mV 2) [some (.d (aL (nH names aj i))),none,none] (aj.map pairD)=.ok ((aj.filter fun p=>decide (p.1∈nH names aj i)).map fun p=>D.str p.2) :=
    cW pairD (fun p=>D.str p.2) (fun p=>decide (p.1∈nH names aj i)) aj fun p _=>⟨[some (.d (aL (nH names aj i))),some (.d (.str p.1)),some (.d (.str p.2))],rfl,bR (aB rfl rfl (wY _ _)),fun _=>rfl⟩
   have h2:dJ (.n 1) (cB (m2 kO (mV 1) (mV 0))) (mV 1) [some (.d (aL (hds aj (nH names aj i)))),none] ((nH names aj i).map D.str)=.ok ((ZX aj (nH names aj i)).map D.str) :=
    cW D.str D.str (fun x=>decide (x∈hds aj (nH names aj i))) (nH names aj i) fun y _=>⟨[some (.d (aL (hds aj (nH names aj i)))),some (.d (.str y))],rfl,bR (aB rfl rfl (wY _ _)),fun _=>rfl⟩
   refine⟨[some (.d (fB names)),some (.d (cI aj)),some (.d (aL (nH names aj i))),some (.d x),o4],[some (.d (fB names)),some (.d (cI aj)),some (.d (aL (nH names aj (i+1)))),some (.d x),some (.d (aL (hds aj (nH names aj i))))],rfl,?_,_,_,rfl⟩
   have s1:bw 4 (bN [some 2,none,none] (ie (mV 1)) (.t [1,2]) (cB (m2 kO (mV 1) (mV 0))) (mV 2)) [some (.d (fB names)),some (.d (cI aj)),some (.d (aL (nH names aj i))),some (.d x),o4]=.ok (.nx [some (.d (fB names)),some (.d (cI aj)),some (.d (aL (nH names aj i))),some (.d x),some (.d (aL (hds aj (nH names aj i))))]):=by
    rw[aV (cM (dg (x:=cI aj) rfl rfl) (by rw[List.length_map];omega) h1)]
    unfold aL hds
    rw[List.map_map];rfl
   rw[aH s1]
   rw[aV (cM (dg (x:=aL (nH names aj i)) rfl rfl) (by rw[List.length_map];have:=lle i;omega) h2)]
   rfl) [some (.d (fB names)),some (.d (cI aj)),some (.d (aL names)),none,none] ⟨none,none,rfl⟩
 subst he
 rw[aH (e':=[some (.d (fB names)),some (.d (cI aj)),some (.d (aL names)),none,none]) (aV ((fX (x:=fB names) rfl).trans rfl))]
 have hit:bV (mN fV [(mV 0)]) [some (.d (fB names)),some (.d (cI aj)),some (.d (aL names)),none,none]=.ok (bQ 0 (names.length:Int)) :=
  fY ((fX (x:=fB names) rfl).trans (by unfold fB;rw[Vk,List.length_map])) (jh (by omega) (by omega))
 rw[aH ((cP hit).trans f1)]
 rw[cF,Nat.zero_add]
 have hret:m2 KN (mN fV [(mV 2)]) (mC (.int 0)) [some (.d (fB names)),some (.d (cI aj)),some (.d (aL (nH names aj names.length))),o3,o4]=.ok (.bl (Hw names aj)):=by
  refine(aB ((fX (x:=aL (nH names aj names.length)) rfl).trans rfl) rfl rfl).trans ?_
  show Rs.ok (D.bl (decide ((0:Int) < (((nH names aj names.length).map D.str).length:Nat))))=_
  unfold Hw
  rw[List.length_map]
  exact congrArg (fun b=>Rs.ok (D.bl b)) (decide_eq_decide.mpr (by omega))
 rw[eQ (dw hret)];rfl
theorem sH(names:List Str):rE 0 (names.map D.str)=(List.range names.length).map fun k=>D.tup [.int (k:Nat),.str (nth names k)]:=by
 have key:∀ (ns:List Str) (j:Nat),rE j (ns.map D.str)=(List.range ns.length).map fun k=>D.tup [.int ((j+k:Nat):Int),.str (nth ns k)]:=fun ns=>by
  induction ns with
  | nil=>exact fun _=>rfl
  | cons x r ih =>
   intro j
   rw[List.map_cons,rE,ih,List.length_cons,List.range_succ_eq_map,List.map_cons,List.map_map]
   congr 1
   refine List.map_congr_left fun k _=>?_
   show D.tup [.int ((j+1+k:Nat):Int),_]=D.tup [.int ((j+(k+1):Nat):Int),_]
   rw[show j+1+k=j+(k+1) by omega];rfl
 rw[key names 0]
 refine List.map_congr_left fun k _=>?_
 rw[Nat.zero_add]
theorem GF{names:List Str}(hn:names.length≤8)(aj:List Ar):(jH names aj).length≤512:=by
 unfold jH
 refine Nat.le_trans (kE (m:=64) fun k _=>?_) (by rw[List.length_range];omega)
 refine Nat.le_trans (kE (m:=8) fun m _=>?_) (by omega)
 rw[List.length_map]
 refine Nat.le_trans (List.length_filter_le _ _) ?_
 rw[List.length_drop];omega
theorem yO{names:List Str}{aj:List Ar}(hn:names.length≤8):d8 [.d (aW names aj)]=.ok (.d (.lst ((jH names aj).map fu))):=by
 unfold d8 wj
 rw[MJ]
 have ecr:(jH names aj).map fu=(List.range names.length).flatMap fun k=>names.flatMap fun m=>(names.drop (k+1)).flatMap fun b=>if pM aj (nth names k) m b then [fu (nth names k,m,b)] else []:=by
  unfold jH
  rw[c7]
  refine cz fun k _=>?_
  rw[c7]
  refine cz fun m _=>?_
  rw[List.map_map,kI (fun b=>pM aj (nth names k) m b) (fun b=>fu (nth names k,m,b))];rfl
 have Jr:((jH names aj).map fu).length≤512:=by rw[List.length_map];exact GF hn aj
 rw[ecr] at Jr ⊢
 obtain⟨e',f1,o2,o3,o4,o5,o6,he⟩:=fJ (tg:=.t [2,3]) (body:=(eG (ie (m2 bH (mV 0) (mC (.int 0)))) (.n 4)
 (eG (ie (gR vp (m2 bH (mV 0) (mC (.int 0))) (some (m2 bz (mV 2) (mC (.int 1)))) none)) (.n 5)
 (aY (bw 6 (u6 (m2 kO (mN dTup [(mV 3),(mV 4)]) (m2 bH (mV 0) (mC (.int 1)))) (m2 kO (mN dTup [(mV 5),(mV 4)]) (m2 bH (mV 0) (mC (.int 1))))))
 (jP (fU (Nh (mV 6)) (pL (cB (bf gf [(wD (mV 0)),(wD (mV 3)),(wD (mV 5))]))))
 (bJ 1 (mN dTup [(mV 3),(mV 4),(mV 5)]))
 bT)))))
  (fun k:Nat=>D.tup [.int (k:Nat),.str (nth names k)]) (fun k=>names.flatMap fun m=>(names.drop (k+1)).flatMap fun b=>if pM aj (nth names k) m b then [fu (nth names k,m,b)] else [])
  (fun acc e=>∃ o2 o3 o4 o5 o6:Option W,e=[some (.d (aW names aj)),some (.d (.lst acc)),o2,o3,o4,o5,o6]) (List.range names.length) [] [some (.d (aW names aj)),some (.d (.lst [])),none,none,none,none,none] (by simp only[List.length_nil];omega) ⟨none,none,none,none,none,rfl⟩
  (fun k hk acc e hl ⟨o2,o3,o4,o5,o6,he⟩=>by
   subst he
   have hk:=List.mem_range.mp hk
   obtain⟨e',g1,o4',o5',o6',he'⟩:=fJ (tg:=.n 4) (body:=(eG (ie (gR vp (m2 bH (mV 0) (mC (.int 0))) (some (m2 bz (mV 2) (mC (.int 1)))) none)) (.n 5)
 (aY (bw 6 (u6 (m2 kO (mN dTup [(mV 3),(mV 4)]) (m2 bH (mV 0) (mC (.int 1)))) (m2 kO (mN dTup [(mV 5),(mV 4)]) (m2 bH (mV 0) (mC (.int 1))))))
 (jP (fU (Nh (mV 6)) (pL (cB (bf gf [(wD (mV 0)),(wD (mV 3)),(wD (mV 5))]))))
 (bJ 1 (mN dTup [(mV 3),(mV 4),(mV 5)]))
 bT))))
    D.str (fun m=>(names.drop (k+1)).flatMap fun b=>if pM aj (nth names k) m b then [fu (nth names k,m,b)] else [])
    (fun acc e=>∃ o4 o5 o6:Option W,e=[some (.d (aW names aj)),some (.d (.lst acc)),some (.d (.int (k:Nat))),some (.d (.str (nth names k))),o4,o5,o6]) names acc [some (.d (aW names aj)),some (.d (.lst acc)),some (.d (.int (k:Nat))),some (.d (.str (nth names k))),o4,o5,o6] hl ⟨_,_,_,rfl⟩
    (fun m hm acc e hl ⟨o4,o5,o6,he⟩=>by
     subst he
     obtain⟨e',g1,o5',o6',he'⟩:=fJ (tg:=.n 5) (body:=(aY (bw 6 (u6 (m2 kO (mN dTup [(mV 3),(mV 4)]) (m2 bH (mV 0) (mC (.int 1)))) (m2 kO (mN dTup [(mV 5),(mV 4)]) (m2 bH (mV 0) (mC (.int 1))))))
 (jP (fU (Nh (mV 6)) (pL (cB (bf gf [(wD (mV 0)),(wD (mV 3)),(wD (mV 5))]))))
 (bJ 1 (mN dTup [(mV 3),(mV 4),(mV 5)]))
 bT)))
      D.str (fun b=>if pM aj (nth names k) m b then [fu (nth names k,m,b)] else [])
      (fun acc e=>∃ o5 o6:Option W,e=[some (.d (aW names aj)),some (.d (.lst acc)),some (.d (.int (k:Nat))),some (.d (.str (nth names k))),some (.d (.str m)),o5,o6]) (names.drop (k+1)) acc [some (.d (aW names aj)),some (.d (.lst acc)),some (.d (.int (k:Nat))),some (.d (.str (nth names k))),some (.d (.str m)),o5,o6] hl ⟨_,_,rfl⟩
      (fun b hb acc e hl ⟨o5,o6,he⟩=>by
       subst he
       obtain⟨q,hq⟩ : ∃ q,q=(decide ((nth names k,m)∈aj) && decide ((b,m)∈aj)):=⟨_,rfl⟩
       refine⟨[some (.d (aW names aj)),some (.d (.lst acc)),some (.d (.int (k:Nat))),some (.d (.str (nth names k))),some (.d (.str m)),some (.d (.str b)),o6],putL [some (.d (aW names aj)),some (.d (.lst acc)),some (.d (.int (k:Nat))),some (.d (.str (nth names k))),some (.d (.str m)),some (.d (.str b)),some (.d (.bl q))] 1 (acc++if pM aj (nth names k) m b then [fu (nth names k,m,b)] else []),rfl,?_,_,_,rfl⟩
       have s1:bw 6 (u6 (m2 kO (mN dTup [(mV 3),(mV 4)]) (m2 bH (mV 0) (mC (.int 1)))) (m2 kO (mN dTup [(mV 5),(mV 4)]) (m2 bH (mV 0) (mC (.int 1))))) [some (.d (aW names aj)),some (.d (.lst acc)),some (.d (.int (k:Nat))),some (.d (.str (nth names k))),some (.d (.str m)),some (.d (.str b)),o6]=.ok (.nx [some (.d (aW names aj)),some (.d (.lst acc)),some (.d (.int (k:Nat))),some (.d (.str (nth names k))),some (.d (.str m)),some (.d (.str b)),some (.d (.bl q))]):=by
        rw[hq]
        exact aV (wR (aB (lG rfl rfl) (aB rfl rfl (Th names aj)) (kJ aj (nth names k,m))) fun _=>aB (lG rfl rfl) (aB rfl rfl (Th names aj)) (kJ aj (b,m)))
       rw[aH s1]
       have ct:fU (Nh (mV 6)) (pL (cB (bf gf [(wD (mV 0)),(wD (mV 3)),(wD (mV 5))]))) [some (.d (aW names aj)),some (.d (.lst acc)),some (.d (.int (k:Nat))),some (.d (.str (nth names k))),some (.d (.str m)),some (.d (.str b)),some (.d (.bl q))]=.ok (pM aj (nth names k) m b):=by
        unfold pM
        rw[← hq]
        exact mF rfl fun _=>uq (bR (Be rfl rfl rfl (JK (nth names k) b)))
       exact Jy ct (fun _=>(Vh rfl rfl rfl).trans (aq (by simp))) rfl hl rfl)
     subst he'
     refine⟨[some (.d (aW names aj)),some (.d (.lst acc)),some (.d (.int (k:Nat))),some (.d (.str (nth names k))),some (.d (.str m)),o5,o6],_,rfl,(cP ?_).trans g1,_,_,_,rfl⟩
     have sl:gR vp (m2 bH (mV 0) (mC (.int 0))) (some (m2 bz (mV 2) (mC (.int 1)))) none [some (.d (aW names aj)),some (.d (.lst acc)),some (.d (.int (k:Nat))),some (.d (.str (nth names k))),some (.d (.str m)),o5,o6]=.ok (.tup ((names.map D.str).drop (k+1))):=by
      rw[Cu (aB (a:=mV 0) (b:=mC (.int 0)) rfl rfl (Kq names aj)) (aB (a:=mV 2) (b:=mC (.int 1)) (x:=.int (k:Nat)) (y:=.int 1) rfl rfl rfl)]
      show aU _ _=_
      rw[aq (by rw[List.length_map];omega),show ((k:Nat):Int)+1=((k+1:Nat):Int) by omega,Int.toNat_natCast]
     rw[dg sl rfl,List.map_drop])
   subst he'
   exact⟨[some (.d (aW names aj)),some (.d (.lst acc)),some (.d (.int (k:Nat))),some (.d (.str (nth names k))),o4,o5,o6],_,rfl,(cP (dg (aB rfl rfl (Kq names aj)) rfl)).trans g1,_,_,_,_,_,rfl⟩)
 subst he
 rw[aH (e':=[some (.d (aW names aj)),some (.d (.lst [])),none,none,none,none,none]) (aV (u9 _))]
 have hit:oO (m2 bH (mV 0) (mC (.int 0))) [some (.d (aW names aj)),some (.d (.lst [])),none,none,none,none,none]=.ok ((List.range names.length).map fun k=>D.tup [.int (k:Nat),.str (nth names k)]):=by
  rw[← sH]
  unfold oO
  rw[aB (a:=mV 0) (b:=mC (.int 0)) rfl rfl (Kq names aj)];rfl
 rw[aH ((cP hit).trans f1)]
 rfl
end Mr
namespace Mr
open PySem Mi
structure Nt(names:List Str)(aj:List Ar):Prop where
 nd:names.Nodup
 le:names.length≤8
 al:aj.length≤64
 inn:∀ p∈aj,p.1∈names∧p.2∈names
 rk:Rk aj
def cov(aj:List Ar)(p:Ar):Bool:=jx (bO aj p.2) (bO aj p.1++[p.1])
theorem Ku(a:Ar)(aj:List Ar):(pK a aj).length=aj.length:=by unfold pK;rw[List.length_map]
theorem Lp(p q:JB):cU (fu p) (fu q)=decide (p=q):=by
 obtain⟨a,b,c⟩:=p
 obtain⟨a',b',c'⟩:=q
 unfold fu
 rw[cU,dY,dY,dY,dY,ir,ir,ir]
 by_cases h:a=a'<;>by_cases k:b=b'<;>by_cases l:c=c'<;>simp[h,k,l]
theorem vU:∀ xs ys:List JB,dY (xs.map fu) (ys.map fu)=decide (xs=ys)
 | [],[]=>rfl
 | [],y::r=>by simp[dY]
 | x::r,[]=>by simp[dY]
 | x::r,y::t=>by
  rw[List.map_cons,List.map_cons,dY,Lp,vU r t]
  by_cases h:x=y<;>by_cases k:r=t<;>simp[h,k]
theorem Aw:∀ xs:List JB,cQ (xs.map fu)≤1
 | []=>by simp
 | x::r=>by
  have:=Aw r
  rw[List.map_cons,mD]
  have h1:(fu x).dep=1:=by simp[fu]
  rw[h1];omega
theorem Az(xs ys:List JB):iV (.lst (xs.map fu)) (.lst (ys.map fu))=.ok (.bl (decide (xs=ys))):=by
 unfold iV
 rw[aq (by rw[DK];have:=Aw xs;omega),cU,vU]
end Mr
namespace Mr
open PySem Mi
def m7(names:List Str)(aj:List Ar):List Ar:=names.flatMap fun t=>(names.filter fun h=>decide ((t,h)∈aj)).map fun h=>(t,h)
theorem oJ{names:List Str}{aj:List Ar}{p:Ar}:p∈m7 names aj↔p∈aj∧p.1∈names∧p.2∈names:=by
 obtain⟨a,b⟩:=p
 unfold m7
 simp only[List.mem_flatMap,List.mem_map,List.mem_filter,decide_eq_true_eq,Prod.mk.injEq]
 constructor
 ·rintro ⟨t,ht,h,⟨h1,h2⟩,rfl,rfl⟩
  exact⟨h2,ht,h1⟩
 ·rintro ⟨h1,h2,h3⟩
  exact⟨a,h2,b,⟨h3,h1⟩,rfl,rfl⟩
theorem JQ{names:List Str}(hn:names.length≤8)(aj:List Ar):(m7 names aj).length≤64:=by
 unfold m7
 refine Nat.le_trans (kE (m:=8) fun t _=>?_) (by omega)
 rw[List.length_map]
 exact Nat.le_trans (List.length_filter_le _ _) hn
theorem Lf{names:List Str}{aj:List Ar}(hn:names.length≤8):lN [.d (fB names),.d (cI aj)]=.ok (.d (aW names (m7 names aj))):=by
 unfold lN yV
 rw[Ji]
 have ecr:(m7 names aj).map pairD=names.flatMap fun t=>names.flatMap fun h=>if decide ((t,h)∈aj) then [pairD (t,h)] else []:=by
  unfold m7
  rw[c7]
  refine cz fun t _=>?_
  rw[List.map_map,kI (fun h=>decide ((t,h)∈aj)) (fun h=>pairD (t,h))];rfl
 have Jr:((m7 names aj).map pairD).length≤64:=by rw[List.length_map];exact JQ hn aj
 rw[ecr] at Jr
 obtain⟨e',f1,o3,o4,he⟩:=fJ (tg:=.n 3) (body:=(eG (ie (mV 0)) (.n 4)
 (jP (cB (m2 kO (mN dTup [(mV 3),(mV 4)]) (mV 1)))
 (bJ 2 (mN dTup [(mV 3),(mV 4)]))
 bT)))
  D.str (fun t=>names.flatMap fun h=>if decide ((t,h)∈aj) then [pairD (t,h)] else [])
  (fun acc e=>∃ o3 o4:Option W,e=[some (.d (fB names)),some (.d (cI aj)),some (.d (.lst acc)),o3,o4]) names [] [some (.d (fB names)),some (.d (cI aj)),some (.d (.lst [])),none,none] (by simp only[List.length_nil];omega) ⟨none,none,rfl⟩
  (fun t ht acc e hl ⟨o3,o4,he⟩=>by
   subst he
   obtain⟨e',g1,o4',he'⟩:=fJ (tg:=.n 4) (body:=(jP (cB (m2 kO (mN dTup [(mV 3),(mV 4)]) (mV 1)))
 (bJ 2 (mN dTup [(mV 3),(mV 4)]))
 bT))
    D.str (fun h=>if decide ((t,h)∈aj) then [pairD (t,h)] else [])
    (fun acc e=>∃ o4:Option W,e=[some (.d (fB names)),some (.d (cI aj)),some (.d (.lst acc)),some (.d (.str t)),o4]) names acc [some (.d (fB names)),some (.d (cI aj)),some (.d (.lst acc)),some (.d (.str t)),o4] hl ⟨_,rfl⟩
    (fun h hh acc e hl ⟨o4,he⟩=>by
     subst he
     exact⟨[some (.d (fB names)),some (.d (cI aj)),some (.d (.lst acc)),some (.d (.str t)),some (.d (.str h))],putL [some (.d (fB names)),some (.d (cI aj)),some (.d (.lst acc)),some (.d (.str t)),some (.d (.str h))] 2 (acc++if decide ((t,h)∈aj) then [pairD (t,h)] else []),rfl,Jy (bR (aB (lG rfl rfl) rfl (M3 aj (t,h)))) (fun _=>lG rfl rfl) rfl hl rfl,_,rfl⟩)
   subst he'
   exact⟨[some (.d (fB names)),some (.d (cI aj)),some (.d (.lst acc)),some (.d (.str t)),o4],_,rfl,(cP (dg (x:=fB names) rfl rfl)).trans g1,_,_,rfl⟩)
 subst he
 rw[aH (e':=[some (.d (fB names)),some (.d (cI aj)),some (.d (.lst [])),none,none]) (aV (u9 _))]
 rw[aH ((cP (dg (x:=fB names) rfl rfl)).trans f1)]
 rw[eQ (dw (lG ((fX (x:=fB names) rfl).trans rfl) ((fX rfl).trans rfl)))]
 rw[List.nil_append,← ecr];rfl
theorem Rk.sub{A B:List Ar}(R:Rk A)(h:∀ p∈B,p∈A):Rk B:=let ⟨r,k⟩:=R;⟨r,fun p hp=>k p (h p hp)⟩
def frees(names:List Str)(aj:List Ar):List Ar:=names.flatMap fun a=>(names.filter fun b=>!decide (a=b) && (!decide ((a,b)∈aj) && !decide ((b,a)∈aj))).map fun b=>(a,b)
theorem O6{xs:List Ar}{i:Int}(h0:0≤i)(h1:i < xs.length):∃ p,p∈xs∧bH (cI xs) (.int i)=.ok (pairD p):=by
 have hk:i.toNat < xs.length:=by omega
 refine⟨xs[i.toNat],List.getElem_mem hk,?_⟩
 show pJ (sX (xs.map pairD) i)=_
 unfold sX zE
 rw[if_pos h0,List.length_map,if_pos h1]
 show pJ ((xs.map pairD)[i.toNat]?)=_
 rw[List.getElem?_map,List.getElem?_eq_getElem hk];rfl
theorem KY{xs:List Ar}{lo hi:Option Int}:∃ ys:List Ar,oX (xs.map pairD) lo hi=ys.map pairD∧(∀ p∈ys,p∈xs)∧ys.length≤xs.length:=by
 refine⟨oX xs lo hi,?_,fun p hp=>?_,?_⟩
 ·unfold oX;simp only[List.length_map,List.map_drop,List.map_take]
 ·unfold oX at hp;exact List.mem_of_mem_drop (List.mem_of_mem_take hp)
 ·unfold oX;rw[List.length_take,List.length_drop];omega
theorem HS{names:List Str}{aj:List Ar}(N:Nt names aj)(c:Int):∃ B:List Ar,ji [.d (fB names),.d (cI aj),.d (.int c)]=.ok (.d (cI B))∧Rk B∧(∀ p∈B,p.1∈names∧p.2∈names):=by
 have hal:=N.al
 have hle:=N.le
 unfold ji v8
 rw[Tz]
 have hlen:mN fV [(mV 1)] [some (.d (fB names)),some (.d (cI aj)),some (.d (.int c)),none,none,none,none,none]=.ok (.int (aj.length:Int)):=(fX (x:=cI aj) rfl).trans (by unfold cI;rw[Ag,List.length_map])
 have ct:Ea (cB (m2 iV (m2 cu (mV 2) (mC (.int 3))) (mC (.int 0)))) (cB (m2 iV (mN fV [(mV 1)]) (mC (.int 0)))) [some (.d (fB names)),some (.d (cI aj)),some (.d (.int c)),none,none,none,none,none]=.ok (decide (c % 3=0) || decide ((aj.length:Int)=0)) :=
  yQ (bR (aB (aB rfl rfl (aq (by decide))) rfl (iU _ _))) fun _=>bR (aB hlen rfl (iU _ _))
 by_cases hc:(decide (c % 3=0) || decide ((aj.length:Int)=0))=true
 ·rw[hc] at ct
  have ecr:(frees names aj).map pairD=names.flatMap fun a=>names.flatMap fun b=>if (!decide (a=b) && (!decide ((a,b)∈aj) && !decide ((b,a)∈aj))) then [pairD (a,b)] else []:=by
   unfold frees
   rw[c7]
   refine cz fun t _=>?_
   rw[List.map_map,kI (fun b=>!decide (t=b) && (!decide ((t,b)∈aj) && !decide ((b,t)∈aj))) (fun b=>pairD (t,b))];rfl
  have Za:(frees names aj).length≤64:=by
   unfold frees
   refine Nat.le_trans (kE (m:=8) fun t _=>?_) (by omega)
   rw[List.length_map]
   exact Nat.le_trans (List.length_filter_le _ _) hle
  have Jr:((frees names aj).map pairD).length≤64:=by rw[List.length_map];exact Za
  have fin:∀ p∈frees names aj,p.1∈names∧p.2∈names:=fun p hp=>by
   unfold frees at hp
   obtain⟨a,ha,hp⟩:=List.mem_flatMap.mp hp
   obtain⟨b,hb,rfl⟩:=List.mem_map.mp hp
   exact⟨ha,(List.mem_filter.mp hb).1⟩
  rw[ecr] at Jr
  obtain⟨e',f1,o4,o5,he⟩:=fJ (tg:=.n 4) (body:=(eG (ie (mV 0)) (.n 5)
 (jP (fU (cB (m2 vZ (mV 4) (mV 5))) (fU (cB (m2 dF (mN dTup [(mV 4),(mV 5)]) (mV 1))) (cB (m2 dF (mN dTup [(mV 5),(mV 4)]) (mV 1)))))
 (bJ 3 (mN dTup [(mV 4),(mV 5)]))
 bT)))
   D.str (fun a=>names.flatMap fun b=>if (!decide (a=b) && (!decide ((a,b)∈aj) && !decide ((b,a)∈aj))) then [pairD (a,b)] else [])
   (fun acc e=>∃ o4 o5:Option W,e=[some (.d (fB names)),some (.d (cI aj)),some (.d (.int c)),some (.d (.lst acc)),o4,o5,none,none]) names [] [some (.d (fB names)),some (.d (cI aj)),some (.d (.int c)),some (.d (.lst [])),none,none,none,none] (by simp only[List.length_nil];omega) ⟨none,none,rfl⟩
   (fun a ha acc e hl ⟨o4,o5,he⟩=>by
    subst he
    obtain⟨e',g1,o5',he'⟩:=fJ (tg:=.n 5) (body:=(jP (fU (cB (m2 vZ (mV 4) (mV 5))) (fU (cB (m2 dF (mN dTup [(mV 4),(mV 5)]) (mV 1))) (cB (m2 dF (mN dTup [(mV 5),(mV 4)]) (mV 1)))))
 (bJ 3 (mN dTup [(mV 4),(mV 5)]))
 bT))
     D.str (fun b=>if (!decide (a=b) && (!decide ((a,b)∈aj) && !decide ((b,a)∈aj))) then [pairD (a,b)] else [])
     (fun acc e=>∃ o5:Option W,e=[some (.d (fB names)),some (.d (cI aj)),some (.d (.int c)),some (.d (.lst acc)),some (.d (.str a)),o5,none,none]) names acc [some (.d (fB names)),some (.d (cI aj)),some (.d (.int c)),some (.d (.lst acc)),some (.d (.str a)),o5,none,none] hl ⟨_,rfl⟩
     (fun b hb acc e hl ⟨o5,he⟩=>by
      subst he
      exact⟨[some (.d (fB names)),some (.d (cI aj)),some (.d (.int c)),some (.d (.lst acc)),some (.d (.str a)),some (.d (.str b)),none,none],putL [some (.d (fB names)),some (.d (cI aj)),some (.d (.int c)),some (.d (.lst acc)),some (.d (.str a)),some (.d (.str b)),none,none] 3 (acc++if (!decide (a=b) && (!decide ((a,b)∈aj) && !decide ((b,a)∈aj))) then [pairD (a,b)] else []),rfl,
       Jy (mF (bR (aB rfl rfl (DP a b))) fun _=>mF (bR (aB (lG rfl rfl) rfl (uf aj (a,b)))) fun _=>bR (aB (lG rfl rfl) rfl (uf aj (b,a)))) (fun _=>lG rfl rfl) rfl hl rfl,_,rfl⟩)
    subst he'
    exact⟨[some (.d (fB names)),some (.d (cI aj)),some (.d (.int c)),some (.d (.lst acc)),some (.d (.str a)),o5,none,none],_,rfl,(cP (dg (x:=fB names) rfl rfl)).trans g1,_,_,rfl⟩)
  subst he
  rw[List.nil_append,← ecr] at f1
  obtain⟨good,hgood⟩ : ∃ good,good=(frees names aj).filter fun p=>!Hw names (aj++[p]):=⟨_,rfl⟩
  have aa0:good.length≤64:=by rw[hgood];exact Nat.le_trans (List.length_filter_le _ _) Za
  have Y7:dJ (.n 2) (pL (cB (bf dj [(wD (mV 0)),(wD (m2 bz (mV 1) (mN d9 [(mV 2)])))]))) (mV 2) [some (.d (fB names)),some (.d (cI aj)),none] ((frees names aj).map pairD)=.ok (good.map pairD):=by
   rw[hgood]
   exact cW pairD pairD (fun p=>!Hw names (aj++[p])) (frees names aj) fun p _=>⟨[some (.d (fB names)),some (.d (cI aj)),some (.d (pairD p))],rfl,by
    have ha:m2 bz (mV 1) (mN d9 [(mV 2)]) [some (.d (fB names)),some (.d (cI aj)),some (.d (pairD p))]=.ok (cI (aj++[p])):=by
     refine(aB rfl (Qe rfl) (aq (by rw[List.length_map];simp;omega))).trans ?_
     unfold cI;rw[List.map_append];rfl
    exact uq (bR (call2 rfl (dw ha) (GJ hle (by rw[List.length_append];simp;omega)))),fun _=>rfl⟩
  rw[pX (s:=jP _ _ _) (w:=.d (cI (if 0 < good.length then aj++[good.getD (c / 3 % (good.length:Int)).toNat (Str.empty,Str.empty)] else aj.drop 1)))]
  ·refine⟨_,rfl,?_,?_⟩
   ·by_cases h:0 < good.length
    ·rw[if_pos h]
     have z0:=Int.emod_nonneg (c / 3) (b:=(good.length:Int)) (by omega)
     have z1:=Int.emod_lt_of_pos (c / 3) (b:=(good.length:Int)) (by omega)
     have hk:(c / 3 % (good.length:Int)).toNat < good.length:=by omega
     rw[List.getD_eq_getElem?_getD,List.getElem?_eq_getElem hk,Option.getD_some]
     have hm:good[(c / 3 % (good.length:Int)).toNat]∈(frees names aj).filter fun p=>!Hw names (aj++[p]):=by rw[← hgood];exact List.getElem_mem hk
     obtain⟨h1,h2⟩:=List.mem_filter.mp hm
     exact Fj (names:=names) (fun p hp=>by
      rcases List.mem_append.mp hp with z|z
      ·exact N.inn p z
      ·rw[List.mem_singleton.mp z];exact fin _ h1) (by simpa using h2)
    ·rw[if_neg h];exact N.rk.sub fun p hp=>List.mem_of_mem_drop hp
   ·intro p hp
    by_cases h:0 < good.length
    ·rw[if_pos h] at hp
     rcases List.mem_append.mp hp with z|z
     ·exact N.inn p z
     ·have z0:=Int.emod_nonneg (c / 3) (b:=(good.length:Int)) (by omega)
      have z1:=Int.emod_lt_of_pos (c / 3) (b:=(good.length:Int)) (by omega)
      have hk:(c / 3 % (good.length:Int)).toNat < good.length:=by omega
      rw[List.getD_eq_getElem?_getD,List.getElem?_eq_getElem hk,Option.getD_some] at z
      have hm:good[(c / 3 % (good.length:Int)).toNat]∈(frees names aj).filter fun p=>!Hw names (aj++[p]):=by rw[← hgood];exact List.getElem_mem hk
      rw[List.mem_singleton.mp z]
      exact fin _ (List.mem_filter.mp hm).1
    ·rw[if_neg h] at hp;exact N.inn p (List.mem_of_mem_drop hp)
  ·rw[show ([some (W.d (fB names)),some (W.d (cI aj)),some (W.d (.int c))]++List.replicate (8 - 3) none)=[some (W.d (fB names)),some (W.d (cI aj)),some (W.d (.int c)),none,none,none,none,none] from rfl]
   rw[jM ct]
   rw[aH (e':=[some (.d (fB names)),some (.d (cI aj)),some (.d (.int c)),some (.d (.lst [])),none,none,none,none]) (aV (u9 _))]
   rw[aH ((cP (dg (x:=fB names) rfl rfl)).trans f1)]
   rw[aH (e':=[some (.d (fB names)),some (.d (cI aj)),some (.d (.int c)),some (.d (cI good)),o4,o5,none,none]) (aV (cM (dg (x:=.lst ((frees names aj).map pairD)) rfl rfl) (by rw[List.length_map];omega) Y7))]
   have hgl:mN fV [(mV 3)] [some (.d (fB names)),some (.d (cI aj)),some (.d (.int c)),some (.d (cI good)),o4,o5,none,none]=.ok (.int (good.length:Int)):=(fX (x:=cI good) rfl).trans (by unfold cI;rw[Ag,List.length_map])
   have cg:cB (m2 KN (mN fV [(mV 3)]) (mC (.int 0))) [some (.d (fB names)),some (.d (cI aj)),some (.d (.int c)),some (.d (cI good)),o4,o5,none,none]=.ok (decide ((0:Int) < (good.length:Int))):=bR (aB hgl rfl rfl)
   by_cases h:0 < good.length
   ·rw[decide_eq_true (by omega)] at cg
    have z0:=Int.emod_nonneg (c / 3) (b:=(good.length:Int)) (by omega)
    have z1:=Int.emod_lt_of_pos (c / 3) (b:=(good.length:Int)) (by omega)
    have hk:(c / 3 % (good.length:Int)).toNat < good.length:=by omega
    have hix:bH (cI good) (.int (c / 3 % (good.length:Int)))=.ok (pairD (good.getD (c / 3 % (good.length:Int)).toNat (Str.empty,Str.empty))):=by
     show pJ (sX (good.map pairD) _)=_
     unfold sX zE
     rw[if_pos z0,List.length_map,if_pos z1]
     show pJ ((good.map pairD)[(c / 3 % (good.length:Int)).toNat]?)=_
     rw[List.getElem?_map,List.getElem?_eq_getElem hk,List.getD_eq_getElem?_getD,List.getElem?_eq_getElem hk];rfl
    rw[pX (w:=.d (cI (aj++[good.getD (c / 3 % (good.length:Int)).toNat (Str.empty,Str.empty)]))),if_pos h]
    refine(jM cg).trans (eQ (dw ?_))
    refine(aB (x:=cI aj) rfl (Qe (aB (x:=cI good) rfl (aB (aB rfl rfl (aq (bD (by decide) (by decide)))) hgl (aq (by omega))) hix)) (aq (by rw[List.length_map];simp;omega))).trans ?_
    unfold cI;rw[List.map_append];rfl
   ·rw[decide_eq_false (by omega)] at cg
    rw[aH ((jm cg).trans rfl),if_neg h]
    refine eQ (dw ?_)
    rw[Cu (x:=cI aj) (i:=1) rfl rfl]
    show Rs.ok (D.lst (oX (aj.map pairD) (some 1) none))=_
    rw[show (1:Int)=((1:Nat):Int) from rfl,Gx,← List.map_drop];rfl
 ·rw[Bool.not_eq_true] at hc
  rw[hc] at ct
  rw[Bool.or_eq_false_iff] at hc
  have hc2:¬ (aj.length:Int)=0:=by simpa using hc.2
  have z0:=Int.emod_nonneg (c / 3) (b:=(aj.length:Int)) (by omega)
  have z1:=Int.emod_lt_of_pos (c / 3) (b:=(aj.length:Int)) (by omega)
  obtain⟨at_,hat⟩ : ∃ a:Int,a=c / 3 % (aj.length:Int):=⟨_,rfl⟩
  rw[← hat] at z0 z1
  obtain⟨p,hp,hix⟩:=O6 (xs:=aj) z0 z1
  have start:∀ t:S,((aY t bT) []=(aY t bT) []):=fun _=>rfl
  rw[show ([some (W.d (fB names)),some (W.d (cI aj)),some (W.d (.int c))]++List.replicate (8 - 3) none)=[some (W.d (fB names)),some (W.d (cI aj)),some (W.d (.int c)),none,none,none,none,none] from rfl]
  rw[aH ((jm ct).trans rfl)]
  rw[aH (e':=[some (W.d (fB names)),some (W.d (cI aj)),some (W.d (.int c)),none,none,none,some (.d (.int at_)),none]) (aV ((aB (aB rfl rfl (aq (bD (by decide) (by decide)))) hlen (aq (by omega))).trans (by rw[hat])))]
  rw[aH (e':=[some (W.d (fB names)),some (W.d (cI aj)),some (W.d (.int c)),none,none,none,some (.d (.int at_)),some (.d (cI (pK p aj)))]) (aV (call2 (x:=.d (cI aj)) rfl (dw (aB (x:=cI aj) rfl rfl hix)) (yJ (by omega))))]
  have c2:Ea (cB (m2 iV (m2 cu (mV 2) (mC (.int 3))) (mC (.int 1)))) (cB (bf dj [(wD (mV 0)),(wD (mV 7))])) [some (W.d (fB names)),some (W.d (cI aj)),some (W.d (.int c)),none,none,none,some (.d (.int at_)),some (.d (cI (pK p aj)))]=.ok (decide (c % 3=1) || Hw names (pK p aj)) :=
   yQ (bR (aB (aB rfl rfl (aq (by decide))) rfl (iU _ _))) fun _=>bR (call2 rfl rfl (GJ hle (by rw[Ku];omega)))
  cases hb:(decide (c % 3=1) || Hw names (pK p aj)) with
  | true =>
   rw[hb] at c2
   obtain⟨ys,y1,y2,y3⟩:=KY (xs:=aj) (lo:=none) (hi:=some at_)
   obtain⟨zs,w1,w2,w3⟩:=KY (xs:=aj) (lo:=some (at_+1)) (hi:=none)
   rw[pX (w:=.d (cI (ys++zs)))]
   ·refine⟨_,rfl,N.rk.sub fun q hq=>?_,fun q hq=>?_⟩
    ·rcases List.mem_append.mp hq with z|z
     ·exact y2 q z
     ·exact w2 q z
    ·rcases List.mem_append.mp hq with z|z
     ·exact N.inn q (y2 q z)
     ·exact N.inn q (w2 q z)
   ·refine(jM c2).trans (eQ (dw ?_))
    refine(aB ((VJ (x:=cI aj) (i:=at_) rfl rfl).trans rfl) ((Cu (x:=cI aj) (i:=at_+1) rfl (aB rfl rfl rfl)).trans rfl) rfl).trans ?_
    show bz (.lst (oX (aj.map pairD) none (some at_))) (.lst (oX (aj.map pairD) (some (at_+1)) none))=_
    rw[y1,w1]
    show aU _ _=_
    rw[aq (by rw[List.length_map,List.length_map];omega)]
    unfold cI;rw[List.map_append]
  | false =>
   rw[hb] at c2
   rw[aH ((jm c2).trans rfl)]
   rw[Bool.or_eq_false_iff] at hb
   have Tt:∀ q∈pK p aj,q.1∈names∧q.2∈names:=fun q hq=>by
    rcases (tX hp).mp hq with z|z
    ·exact N.inn q z.1
    ·rw[z];exact⟨(N.inn _ hp).2,(N.inn _ hp).1⟩
   exact⟨pK p aj,rfl,Fj Tt hb.2,Tt⟩
end Mr
namespace Mr
open PySem Mi
def sq(k:Bool)(ds:List D):D:=if k then .lst ds else .tup ds
theorem z9:∀ xs ys:List Ar,dY (xs.map pairD) (ys.map pairD)=decide (xs=ys)
 | [],[]=>rfl
 | [],y::r=>by simp[dY]
 | x::r,[]=>by simp[dY]
 | x::r,y::t=>by
  rw[List.map_cons,List.map_cons,dY,Ac,z9 r t]
  by_cases h:x=y<;>by_cases k:r=t<;>simp[h,k]
end Mr
namespace Mr
open PySem Mi
theorem tZ:∀ a b:List Int,mO a b=true→mO b a=true→False
 | [],[],h,_=>by cases h
 | [],_::_,_,h=>by cases h
 | _::_,[],h,_=>by cases h
 | a::r,b::t,h,k=>by
  rw[mO] at h k
  by_cases e:a=b
  ·subst e
   rw[if_pos (beq_self_eq_true a)] at h k
   exact tZ r t h k
  ·rw[if_neg (by simpa using e)] at h
   rw[if_neg (by simpa using Ne.symm e)] at k
   simp at h k;omega
theorem IV{a b:Int}{r t:List Int}(h:a < b):mO (a::r) (b::t)=true:=by
 rw[mO,if_neg (by simp;omega)]
 simpa using h
theorem Dm{a:Int}{r t:List Int}:mO (a::r) (a::t)=mO r t:=by
 rw[mO,if_pos (beq_self_eq_true a)]
section
variable{α : Type}(key:α→List Int)
theorem Ae:∀ {a b:List α},(∀ x,x∈a↔x∈b)→a.Pairwise (fun x y=>mO (key x) (key y)=true)→b.Pairwise (fun x y=>mO (key x) (key y)=true)→a=b
 | [],[],_,_,_=>rfl
 | [],y::t,h,_,_=>absurd ((h y).mpr List.mem_cons_self) (by simp)
 | x::r,[],h,_,_=>absurd ((h x).mp List.mem_cons_self) (by simp)
 | x::r,y::t,h,ha,hb=>by
  have ha':=List.pairwise_cons.mp ha
  have hb':=List.pairwise_cons.mp hb
  have e:x=y:=by
   rcases List.mem_cons.mp ((h x).mp List.mem_cons_self) with z|z
   ·exact z
   ·rcases List.mem_cons.mp ((h y).mpr List.mem_cons_self) with z2|z2
    ·exact z2.symm
    ·exact(tZ _ _ (hb'.1 x z) (ha'.1 y z2)).elim
  subst e
  have nr:x∉r:=fun z=>tZ _ _ (ha'.1 x z) (ha'.1 x z)
  have nt:x∉t:=fun z=>tZ _ _ (hb'.1 x z) (hb'.1 x z)
  rw[Ae (a:=r) (b:=t) (fun z=>⟨fun hz=>?_,fun hz=>?_⟩) ha'.2 hb'.2]
  ·rcases List.mem_cons.mp ((h z).mp (List.mem_cons_of_mem _ hz)) with q|q
   ·exact absurd (q ▸ hz) nr
   ·exact q
  ·rcases List.mem_cons.mp ((h z).mpr (List.mem_cons_of_mem _ hz)) with q|q
   ·exact absurd (q ▸ hz) nt
   ·exact q
theorem Ly{kz:List (List Int)}(nd:kz.Nodup):(wI kz kz.length).Perm (List.range kz.length)∧(wI kz kz.length).Pairwise (fun i j=>mO (kz.getD i []) (kz.getD j [])=true):=by
 have O:=So.Dl nd
 have e:wI kz kz.length=sortI (So.S5 kz) (List.range kz.length):=by
  unfold wI So.S5
  congr 1
  funext i j
  exact(So.Dn _ _).symm
 rw[e]
 refine⟨So.m8 _ _,(So.pW O (fun x hx=>by simpa using hx) List.nodup_range).imp fun {i j} h=>?_⟩
 rw[← So.Dn];exact h
theorem Lh[Inhabited α](f:α→D){xs ys:List α}(nd:(xs.map key).Nodup)(hm:∀ a,a∈xs↔a∈ys)(hs:ys.Pairwise fun a b=>mO (key a) (key b)=true):sortBy (xs.map key) (xs.map f)=ys.map f:=by
 obtain⟨h1,h2⟩:=Ly nd
 rw[List.length_map] at h1 h2
 have lt:∀ i∈wI (xs.map key) xs.length,i < xs.length:=fun i hi=>by simpa using h1.mem_iff.mp hi
 have gd:∀ i,i < xs.length→∀ (β : Type) (g:α→β) (d:β),(xs.map g).getD i d=g (xs.getD i default):=fun i hi β g d=>by simp[hi]
 have e:sortBy (xs.map key) (xs.map f)=((wI (xs.map key) xs.length).map fun i=>xs.getD i default).map f:=by
  unfold sortBy
  rw[List.length_map,List.map_map]
  exact List.map_congr_left fun i hi=>gd i (lt i hi) _ f _
 have e2 : ((wI (xs.map key) xs.length).map fun i => xs.getD i default) = ys := by
  refine Ae key (fun a=>?_) ?_ hs
  ·rw[← hm a,List.mem_map]
   constructor
   ·rintro ⟨i,hi,rfl⟩
    have:=lt i hi
    rw[List.getD_eq_getElem?_getD,List.getElem?_eq_getElem this]
    exact List.getElem_mem this
   ·intro ha
    obtain⟨i,hi,rfl⟩:=List.getElem_of_mem ha
    exact⟨i,h1.mem_iff.mpr (List.mem_range.mpr hi),by simp[hi]⟩
  ·rw[List.pairwise_map]
   refine h2.imp_of_mem fun {i j} hi hj h=>?_
   rw[gd i (lt i hi) _ key,gd j (lt j hj) _ key] at h
   exact h
 rw[e,e2]
end
theorem Hf:∀ l:List Int,zb (l.map D.int)=some l
 | []=>rfl
 | i::r=>by rw[List.map_cons,zb,Hf r];rfl
theorem Kh{α : Type}{ρ : List Nat}{kf:E}{e:Mi.Env}(f:α→D)(key:α→List Int):∀ {xs:List α},(∀ x∈xs,kf (Dq ρ e (f x))=.ok (.lst ((key x).map D.int)))→nJ ρ kf e (xs.map f)=.ok (xs.map key)
 | [],_=>rfl
 | x::r,h=>by
  rw[List.map_cons,nJ,h x List.mem_cons_self,aG,Hb,Hf,iJ,aG,Kh f key fun y hy=>h y (List.mem_cons_of_mem _ hy)]
  rfl
def ky(names row:List Str):List Int:=row.map fun x=>((names.idxOf x:Nat):Int)
theorem Ul(names:List Str):Um (fB names)=some names:=uA names
theorem Oq{α : Type}[Inhabited α]{names:List Str}{nx:D}(hq:Um nx=some names)(hn:names.length≤1000)(row:α→List Str){xs ys:List α}(hr:∀ x∈xs,(row x).length≤1000∧∀ y∈row x,y∈names)(h64:xs.length < 64)(nd:(xs.map fun x=>ky names (row x)).Nodup)
 (hm:∀ a,a∈xs↔a∈ys) (hs:ys.Pairwise fun a b=>mO (ky names (row a)) (ky names (row b))=true) :
 fL [.d nx,.d (.lst (xs.map fun x=>.tup ((row x).map D.str)))]=.ok (.d (.lst (ys.map fun x=>.tup ((row x).map D.str)))):=by
 unfold fL rF
 rw[Jh]
 rw[show ([some (W.d nx),some (W.d (.lst (xs.map fun x=>.tup ((row x).map D.str))))]++List.replicate (2 - 2) none)=[some (W.d nx),some (W.d (.lst (xs.map fun x=>.tup ((row x).map D.str))))] from rfl]
 have hk:nJ [0] (bN [some 1,none] (ie (mV 0)) (.n 1) gU (m2 QS (mV 0) (mV 1))) [some (W.d nx),some (W.d (.lst (xs.map fun x=>.tup ((row x).map D.str))))] (xs.map fun x=>.tup ((row x).map D.str))=.ok (xs.map fun x=>ky names (row x)) :=
  Kh (fun x=>.tup ((row x).map D.str)) (fun x=>ky names (row x)) fun x hx=>by
   have hc:dJ (.n 1) gU (m2 QS (mV 0) (mV 1)) [some (W.d nx),none] ((row x).map D.str)=.ok (((row x).filter fun _=>true).map fun y=>D.int ((names.idxOf y:Nat):Int)) :=
    cW D.str (fun y=>D.int ((names.idxOf y:Nat):Int)) (fun _=>true) (row x) fun y hy=>⟨[some (W.d nx),some (W.d (.str y))],rfl,rfl,fun _=>aB (x:=nx) (y:=.str y) rfl rfl (by
     show ((pJ (Um nx)).bind fun ys=>aU (y∈ys∧ys.length≤1000) (Rs.ok (D.int ((ys.idxOf y:Nat):Int))))=_
     rw[hq,iJ,aG]
     exact aq ⟨(hr x hx).2 y hy,hn⟩)⟩
   have hm:=cM (ρ:=[some 1,none]) (e:=Dq [0] [some (W.d nx),some (W.d (.lst (xs.map fun x=>.tup ((row x).map D.str))))] (.tup ((row x).map D.str))) (dg (a:=mV 0) (x:=.tup ((row x).map D.str)) rfl rfl) (by rw[List.length_map];have:=(hr x hx).1;omega) hc
   rw[hm,List.filter_eq_self.mpr (fun _ _=>rfl)]
   show Rs.ok (D.lst _)=Rs.ok (D.lst ((ky names (row x)).map D.int))
   unfold ky
   rw[List.map_map];rfl
 have hS:Dj [0] (mV 1) (bN [some 1,none] (ie (mV 0)) (.n 1) gU (m2 QS (mV 0) (mV 1))) [some (W.d nx),some (W.d (.lst (xs.map fun x=>.tup ((row x).map D.str))))]=.ok (.lst (ys.map fun x=>.tup ((row x).map D.str))):=by
  unfold Dj
  rw[show mV 1 [some (W.d nx),some (W.d (.lst (xs.map fun x=>.tup ((row x).map D.str))))]=.ok (.lst (xs.map fun x=>.tup ((row x).map D.str))) from rfl,aG]
  rw[show Ay (.lst (xs.map fun x=>.tup ((row x).map D.str)))=.ok (xs.map fun x=>.tup ((row x).map D.str)) from rfl,aG,aq (by rw[List.length_map];exact h64),hk,aG,aq nd,Lh (fun x=>ky names (row x)) _ nd hm hs]
 rw[eQ (dw hS)];rfl
theorem RV{α : Type}[Inhabited α]{names:List Str}(hn:names.length≤1000)(row:α→List Str){xs ys:List α}(hr:∀ x∈xs,(row x).length≤1000∧∀ y∈row x,y∈names)(h64:xs.length < 64)(nd:(xs.map fun x=>ky names (row x)).Nodup)
 (hm:∀ a,a∈xs↔a∈ys) (hs:ys.Pairwise fun a b=>mO (ky names (row a)) (ky names (row b))=true) :
 fL [.d (fB names),.d (.lst (xs.map fun x=>.tup ((row x).map D.str)))]=.ok (.d (.lst (ys.map fun x=>.tup ((row x).map D.str)))):=Oq (Ul names) hn row hr h64 nd hm hs
end Mr
namespace Mr
open PySem Mi
def prs(names:List Str):List Ar:=(List.range names.length).flatMap fun k=>(names.drop (k+1)).map fun b=>(nth names k,b)
def Nu(names:List Str)(aj:List Ar)(p:Ar):List Str:=names.filter fun m=>decide ((p.1,m)∈aj) && decide ((p.2,m)∈aj)
def Nv(names:List Str)(aj:List Ar):List JB:=(prs names).flatMap fun p=>if (!tie aj p.1 p.2)=true then (Nu names aj p).map fun m=>(p.1,m,p.2) else []
theorem j9{names:List Str}{a b:Str}:(a,b)∈prs names↔∃ k,k < names.length∧a=nth names k∧b∈names.drop (k+1):=by
 unfold prs
 simp only[List.mem_flatMap,List.mem_map,List.mem_range,Prod.mk.injEq]
 constructor
 ·rintro ⟨k,hk,b',hb,rfl,rfl⟩;exact⟨k,hk,rfl,hb⟩
 ·rintro ⟨k,hk,rfl,hb⟩;exact⟨k,hk,b,hb,rfl,rfl⟩
theorem Ka{names:List Str}{aj:List Ar}(t:JB):t∈Nv names aj↔t∈jH names aj:=by
 obtain⟨a,m,b⟩:=t
 rw[tY]
 unfold Nv Nu tie pM
 simp only[List.mem_flatMap]
 constructor
 ·rintro ⟨⟨a',b'⟩,hp,h⟩
  split at h
  ·rename_i ht
   obtain⟨m',hm,e⟩:=List.mem_map.mp h
   cases e
   obtain⟨hm1,hm2⟩:=List.mem_filter.mp hm
   obtain⟨k,hk,e,hb⟩:=j9.mp hp
   exact⟨k,hk,e,hm1,hb,by rw[hm2,ht];rfl⟩
  ·cases h
 ·rintro ⟨k,hk,e,hm,hb,hc⟩
  have hc':=Bool.and_eq_true_iff.mp hc
  refine⟨(a,b),j9.mpr ⟨k,hk,e,hb⟩,?_⟩
  rw[if_pos hc'.2]
  exact List.mem_map.mpr ⟨m,List.mem_filter.mpr ⟨hm,hc'.1⟩,rfl⟩
theorem t7{names:List Str}(nd:names.Nodup){i:Nat}(hi:i < names.length):names.idxOf (nth names i)=i:=by
 have e:nth names i=names[i]:=by unfold nth;rw[List.getD_eq_getElem?_getD,List.getElem?_eq_getElem hi];rfl
 rw[e];exact nd.idxOf_getElem i hi
theorem cG{names:List Str}{x y:Str}(hx:x∈names)(hy:y∈names)(h:names.idxOf x=names.idxOf y):x=y:=by
 have h1:=List.getElem_idxOf (List.idxOf_lt_length_iff.mpr hx)
 have h2:=List.getElem_idxOf (List.idxOf_lt_length_iff.mpr hy)
 rw[← h1,← h2]
 congr 1
theorem FZ{names:List Str}(nd:names.Nodup):names.Pairwise fun x y=>names.idxOf x < names.idxOf y:=by
 rw[List.pairwise_iff_getElem]
 intro i j hi hj h
 rw[nd.idxOf_getElem i hi,nd.idxOf_getElem j hj];exact h
theorem yK{names:List Str}(nd:names.Nodup){k:Nat}{b:Str}(hb:b∈names.drop (k+1)):k < names.idxOf b∧b∈names:=by
 obtain⟨i,hi,rfl⟩:=List.getElem_of_mem hb
 rw[List.getElem_drop]
 rw[List.length_drop] at hi
 rw[nd.idxOf_getElem (k+1+i) (by omega)]
 exact⟨by omega,List.getElem_mem _⟩
def tr(t:JB):List Str:=[t.1,t.2.1,t.2.2]
theorem GC{names:List Str}(nd:names.Nodup)(aj:List Ar):(jH names aj).Pairwise fun x y=>mO (ky names (tr x)) (ky names (tr y))=true:=by
 unfold jH
 rw[List.pairwise_flatMap]
 refine⟨fun k hk=>?_,List.pairwise_lt_range.imp_of_mem fun {k1 k2} h1 h2 h x hx y hy=>?_⟩
 ·rw[List.pairwise_flatMap]
  refine⟨fun m hm=>?_,(FZ nd).imp fun {m1 m2} h x hx y hy=>?_⟩
  ·rw[List.pairwise_map]
   refine((FZ nd).sublist (List.Sublist.trans List.filter_sublist (List.drop_sublist _ _))).imp fun {b1 b2} h=>?_
   show mO [_,_,_] [_,_,_]=true
   rw[Dm,Dm]
   exact IV (Int.ofNat_lt.mpr h)
  ·obtain⟨b1,_,rfl⟩:=List.mem_map.mp hx
   obtain⟨b2,_,rfl⟩:=List.mem_map.mp hy
   show mO [_,_,_] [_,_,_]=true
   rw[Dm]
   exact IV (Int.ofNat_lt.mpr h)
 ·obtain⟨m1,_,hx⟩:=List.mem_flatMap.mp hx
  obtain⟨m2,_,hy⟩:=List.mem_flatMap.mp hy
  obtain⟨b1,_,rfl⟩:=List.mem_map.mp hx
  obtain⟨b2,_,rfl⟩:=List.mem_map.mp hy
  have e1:=t7 nd (List.mem_range.mp h1)
  have e2:=t7 nd (List.mem_range.mp h2)
  exact IV (by show ((names.idxOf (nth names k1):Nat):Int) < ((names.idxOf (nth names k2):Nat):Int);rw[e1,e2];omega)
theorem O4{names:List Str}(nd:names.Nodup):(prs names).Nodup:=by
 unfold prs
 show List.Pairwise _ _
 rw[List.pairwise_flatMap]
 refine⟨fun k hk=>?_,List.pairwise_lt_range.imp_of_mem fun {k1 k2} h1 h2 h x hx y hy=>?_⟩
 ·rw[List.pairwise_map]
  exact(nd.sublist (List.drop_sublist _ _)).imp fun {b1 b2} h z=>h (by cases z;rfl)
 ·obtain⟨b1,_,rfl⟩:=List.mem_map.mp hx
  obtain⟨b2,_,rfl⟩:=List.mem_map.mp hy
  intro z
  have:=oH nd (List.mem_range.mp h1) (List.mem_range.mp h2) (congrArg Prod.fst z)
  omega
theorem QZ{names:List Str}(nd:names.Nodup)(aj:List Ar):(Nv names aj).Nodup:=by
 unfold Nv
 show List.Pairwise _ _
 rw[List.pairwise_flatMap]
 have inn:∀ {p:Ar} {x:JB},x∈(if (!tie aj p.1 p.2)=true then (Nu names aj p).map fun m=>(p.1,m,p.2) else [])→x.1=p.1∧x.2.2=p.2:=fun {p x} h=>by
  split at h
  ·obtain⟨m,_,rfl⟩:=List.mem_map.mp h;exact⟨rfl,rfl⟩
  ·cases h
 refine⟨fun p hp=>?_,(O4 nd).imp fun {p q} h x hx y hy z=>?_⟩
 ·split
  ·rw[List.pairwise_map]
   exact(nd.sublist List.filter_sublist).imp fun {b1 b2} h z=>h (by cases z;rfl)
  ·exact .nil
 ·subst z
  obtain⟨a1,a2⟩:=inn hx
  obtain⟨b1,b2⟩:=inn hy
  exact h (Prod.ext (a1.symm.trans b1) (a2.symm.trans b2))
theorem FT{α : Type}[DecidableEq α]:∀ {l L:List α},l.Nodup→(∀ x∈l,x∈L)→l.length≤L.length
 | [],_,_,_=>Nat.zero_le _
 | x::r,L,nd,h=>by
  have nd':=List.nodup_cons.mp nd
  have hx:=h x List.mem_cons_self
  have:=FT (l:=r) (L:=L.erase x) nd'.2 fun y hy=>(List.mem_erase_of_ne (fun z:y=x=>nd'.1 (z ▸ hy))).mpr (h y (List.mem_cons_of_mem _ hy))
  rw[List.length_erase_of_mem hx] at this
  have:=List.length_pos_of_mem hx
  rw[List.length_cons];omega
def Xz(names:List Str)(t:JB):Nat :=
 if names.idxOf t.2.1 < names.idxOf t.1 then names.idxOf t.2.1 * 64+names.idxOf t.1 * 8+names.idxOf t.2.2
 else if names.idxOf t.2.1 < names.idxOf t.2.2 then names.idxOf t.1 * 64+names.idxOf t.2.1 * 8+names.idxOf t.2.2
 else names.idxOf t.1 * 64+names.idxOf t.2.2 * 8+names.idxOf t.2.1
structure CF(names:List Str)(aj:List Ar)(t:JB):Prop where
 m1:t.1∈names
 m2:t.2.1∈names
 m3:t.2.2∈names
 l1:names.idxOf t.1 < 8
 l2:names.idxOf t.2.1 < 8
 l3:names.idxOf t.2.2 < 8
 up:names.idxOf t.1 < names.idxOf t.2.2
 n1:names.idxOf t.2.1≠names.idxOf t.1
 n2:names.idxOf t.2.1≠names.idxOf t.2.2
 a1:(t.1,t.2.1)∈aj
 a2:(t.2.2,t.2.1)∈aj
 z1:(t.1,t.2.2)∉aj
 z2:(t.2.2,t.1)∉aj
theorem vq{names:List Str}{aj:List Ar}(N:Nt names aj){t:JB}(h:t∈Nv names aj):CF names aj t:=by
 obtain⟨a,m,b⟩:=t
 obtain⟨k,hk,e,hm,hb,hc⟩:=tY.mp ((Ka _).mp h)
 obtain⟨c1,c2,c3,c4⟩:=qM.mp hc
 obtain⟨d1,d2⟩:=yK N.nd hb
 have ha:a∈names:=by rw[e];exact mq hk
 have ei:names.idxOf a=k:=by rw[e];exact t7 N.nd hk
 have hn:=N.le
 obtain⟨r,hr⟩:=N.rk
 have i1:=List.idxOf_lt_length_iff.mpr hm
 have i2:=List.idxOf_lt_length_iff.mpr d2
 refine⟨ha,hm,d2,?_,?_,?_,?_,fun z=>?_,fun z=>?_,c1,c2,c3,c4⟩
 ·show names.idxOf a < 8;omega
 ·show names.idxOf m < 8;omega
 ·show names.idxOf b < 8;omega
 ·show names.idxOf a < names.idxOf b;omega
 ·have:=cG hm ha z
  have:=hr _ c1
  simp only at *
  subst m;omega
 ·have:=cG hm d2 z
  have:=hr _ c2
  simp only at *
  subst m;omega
theorem Ue{names:List Str}{aj:List Ar}{t u:JB}(T:CF names aj t)(U:CF names aj u)(h:Xz names t=Xz names u):t=u:=by
 obtain⟨a,m,b⟩:=t
 obtain⟨a',m',b'⟩:=u
 obtain⟨m1,m2,m3,l1,l2,l3,up,n1,n2,a1,a2,z1,z2⟩:=T
 obtain⟨m1',m2',m3',l1',l2',l3',up',n1',n2',a1',a2',z1',z2'⟩:=U
 unfold Xz at h
 simp only at *
 split at h
 ·split at h
  ·obtain rfl:=cG m1 m1' (by omega)
   obtain rfl:=cG m2 m2' (by omega)
   obtain rfl:=cG m3 m3' (by omega)
   rfl
  ·split at h
   ·obtain rfl:=cG m2 m1' (by omega)
    obtain rfl:=cG m3 m3' (by omega)
    exact absurd a2 z2'
   ·obtain rfl:=cG m2 m1' (by omega)
    obtain rfl:=cG m1 m3' (by omega)
    exact absurd a1 z2'
 ·split at h
  ·split at h
   ·obtain rfl:=cG m1 m2' (by omega)
    obtain rfl:=cG m3 m3' (by omega)
    exact absurd a2' z2
   ·split at h
    ·obtain rfl:=cG m1 m1' (by omega)
     obtain rfl:=cG m2 m2' (by omega)
     obtain rfl:=cG m3 m3' (by omega)
     rfl
    ·obtain rfl:=cG m1 m1' (by omega)
     obtain rfl:=cG m2 m3' (by omega)
     exact absurd a1 z1'
  ·split at h
   ·obtain rfl:=cG m1 m2' (by omega)
    obtain rfl:=cG m3 m1' (by omega)
    exact absurd a1' z2
   ·split at h
    ·obtain rfl:=cG m1 m1' (by omega)
     obtain rfl:=cG m3 m2' (by omega)
     exact absurd a1' z1
    ·obtain rfl:=cG m1 m1' (by omega)
     obtain rfl:=cG m2 m2' (by omega)
     obtain rfl:=cG m3 m3' (by omega)
     rfl
def Z3:List Nat:=(List.range 512).filter fun n=>decide (n / 64 < n / 8 % 8) && decide (n / 8 % 8 < n % 8)
theorem Ug:Z3.length=56:=by decide +kernel
theorem Ud{names:List Str}{aj:List Ar}{t:JB}(T:CF names aj t):Xz names t∈Z3:=by
 obtain⟨m1,m2,m3,l1,l2,l3,up,n1,n2,a1,a2,z1,z2⟩:=T
 have key:∀ x y z:Nat,x < y→y < z→z < 8→x * 64+y * 8+z∈Z3:=fun x y z h1 h2 h3=>by
  refine List.mem_filter.mpr ⟨List.mem_range.mpr (by omega),?_⟩
  have e1:(x * 64+y * 8+z) / 64=x:=by omega
  have e2:(x * 64+y * 8+z) / 8 % 8=y:=by omega
  have e3:(x * 64+y * 8+z) % 8=z:=by omega
  rw[e1,e2,e3];simp[h1,h2]
 unfold Xz
 split
 ·exact key _ _ _ (by omega) (by omega) (by omega)
 ·split
  ·exact key _ _ _ (by omega) (by omega) (by omega)
  ·exact key _ _ _ (by omega) (by omega) (by omega)
theorem KZ{names:List Str}{aj:List Ar}(N:Nt names aj):(Nv names aj).length≤56:=by
 have h:((Nv names aj).map (Xz names)).Nodup:=by
  show List.Pairwise _ _
  rw[List.pairwise_map]
  exact List.Pairwise.imp_of_mem (fun {x y} hx hy h z=>h (Ue (vq N hx) (vq N hy) z)) (QZ N.nd aj)
 have:=FT h (L:=Z3) fun x hx=>by
  obtain⟨t,ht,rfl⟩:=List.mem_map.mp hx
  exact Ud (vq N ht)
 rw[List.length_map,Ug] at this
 exact this
theorem Te{names:List Str}{aj:List Ar}(N:Nt names aj):((Nv names aj).map fun t=>ky names (tr t)).Nodup:=by
 show List.Pairwise _ _
 rw[List.pairwise_map]
 refine List.Pairwise.imp_of_mem (fun {x y} hx hy h z=>h ?_) (QZ N.nd aj)
 have X:=vq N hx
 have Y:=vq N hy
 obtain⟨a,m,b⟩:=x
 obtain⟨a',m',b'⟩:=y
 simp only[ky,tr,List.map_cons,List.map_nil,List.cons.injEq,and_true] at z
 obtain⟨z1,z2,z3⟩:=z
 obtain rfl:=cG X.m1 Y.m1 (by show names.idxOf a=names.idxOf a';omega)
 obtain rfl:=cG X.m2 Y.m2 (by show names.idxOf m=names.idxOf m';omega)
 obtain rfl:=cG X.m3 Y.m3 (by show names.idxOf b=names.idxOf b';omega)
 rfl
theorem Jo{names:List Str}{aj:List Ar}(N:Nt names aj):fL [.d (fB names),.d (.lst ((Nv names aj).map fu))]=.ok (.d (.lst ((jH names aj).map fu))) :=
 RV (by have:=N.le;omega) tr (fun t ht=>⟨by show 3≤1000;omega,fun y hy=>by
  have T:=vq N ht
  simp only[tr,List.mem_cons,List.not_mem_nil,or_false] at hy
  rcases hy with rfl|rfl|rfl
  ·exact T.m1
  ·exact T.m2
  ·exact T.m3⟩) (by have:=KZ N;omega) (Te N) (fun t=>Ka t) (GC N.nd aj)
end Mr
namespace Mr
open PySem Mi
theorem QC{i:Nat}{a:E}{e:Mi.Env}{ds xs:List D}(ha:a e=.ok (.lst xs))(hg:getL e i=.ok ds)(hl:ds.length+xs.length≤16777216):n6 i a e=.ok (.nx (putL e i (ds++xs))):=by
 unfold n6
 rw[ha,aG,hg,aG]
 exact aq hl
theorem YK{a b:E}{e:Mi.Env}{x y:D}(h:a e=.ok x)(h':b e=.ok y):mN d9 [a,b] e=.ok (.lst [x,y]):=by
 unfold mN;rw[jL,h,aG,jL,h',aG];rfl
theorem QG{a:E}{e:Mi.Env}{x:D}(h:a e=.ok x):Fi a e=.ok (.nx e):=by unfold Fi;rw[h];rfl
theorem wy{names:List Str}{aj:List Ar}{a b:Str}(ha:a∈names)(hb:b∈names):fP [.d (aW names aj),.d (.str a),.d (.str b)]=.ok (.d (.bl (tie aj a b))):=by
 unfold fP yZ
 rw[Tz]
 rw[show ([some (W.d (aW names aj)),some (W.d (.str a)),some (W.d (.str b))]++List.replicate (3 - 3) none)=[some (W.d (aW names aj)),some (W.d (.str a)),some (W.d (.str b))] from rfl]
 have hr:dC [.d (fB names),.d (aL [a,b])]=.ok (.d .non):=Ln fun x hx=>by
  rcases List.mem_cons.mp hx with rfl|hx
  ·exact ha
  ·rw[List.mem_singleton.mp hx];exact hb
 rw[aH (QG (call2 (dw (aB rfl rfl (Kq _ _))) (dw (YK rfl rfl)) hr))]
 have aa:Vj (m2 kO (mN dTup [(mV 1),(mV 2)]) (m2 bH (mV 0) (mC (.int 1)))) (m2 kO (mN dTup [(mV 2),(mV 1)]) (m2 bH (mV 0) (mC (.int 1)))) [some (.d (aW names aj)),some (.d (.str a)),some (.d (.str b))]=.ok (.bl (tie aj a b)) :=
  Wq (aB (lG rfl rfl) (aB rfl rfl (Th names aj)) (kJ aj (a,b))) fun _=>aB (lG rfl rfl) (aB rfl rfl (Th names aj)) (kJ aj (b,a))
 rw[eQ (dw aa)];rfl
theorem CP{names:List Str}(hn:names.length≤8):(prs names).length≤64:=by
 unfold prs
 refine Nat.le_trans (kE (m:=8) fun k _=>?_) (by rw[List.length_range];omega)
 rw[List.length_map,List.length_drop];omega
theorem Cv{names:List Str}{a b:E}{e:Mi.Env}{k:Nat}(hk:k < names.length)(hn:names.length≤8)(ha:a e=.ok (fB names))(hb:b e=.ok (.int (k:Nat))):ie (gR vp a (some (m2 bz b (mC (.int 1)))) none) e=.ok ((names.drop (k+1)).map D.str):=by
 have sl:gR vp a (some (m2 bz b (mC (.int 1)))) none e=.ok (.tup ((names.map D.str).drop (k+1))):=by
  rw[Cu ha (aB (a:=b) (b:=mC (.int 1)) (x:=.int (k:Nat)) (y:=.int 1) hb rfl rfl)]
  show aU _ _=_
  rw[aq (by rw[List.length_map];omega),show ((k:Nat):Int)+1=((k+1:Nat):Int) by omega,Int.toNat_natCast]
 rw[dg sl rfl,List.map_drop]
theorem Ft{names:List Str}(hn:names.length≤8):gC [.d (fB names)]=.ok (.d (cI (prs names))):=by
 unfold gC yU
 rw[MJ]
 have epr:(prs names).map pairD=(List.range names.length).flatMap fun k=>(names.drop (k+1)).map fun b=>pairD (nth names k,b):=by
  unfold prs
  rw[c7]
  refine cz fun k _=>?_
  rw[List.map_map];rfl
 have V4:((prs names).map pairD).length≤64:=by rw[List.length_map];exact CP hn
 rw[epr] at V4
 obtain⟨e',f1,o2,o3,he⟩:=fJ (tg:=.t [2,3]) (body:=(n6 1 (bN [some 3,none] (ie (gR vp (mV 0) (some (m2 bz (mV 2) (mC (.int 1)))) none)) (.n 1) gU (mN dTup [(mV 0),(mV 1)]))))
  (fun k:Nat=>D.tup [.int (k:Nat),.str (nth names k)]) (fun k=>(names.drop (k+1)).map fun b=>pairD (nth names k,b))
  (fun acc e=>∃ o2 o3:Option W,e=[some (.d (fB names)),some (.d (.lst acc)),o2,o3]) (List.range names.length) [] [some (.d (fB names)),some (.d (.lst [])),none,none] (by simp only[List.length_nil];omega) ⟨none,none,rfl⟩
  (fun k hk acc e hl ⟨o2,o3,he⟩=>by
   subst he
   have hk:=List.mem_range.mp hk
   refine⟨[some (.d (fB names)),some (.d (.lst acc)),some (.d (.int (k:Nat))),some (.d (.str (nth names k)))],putL [some (.d (fB names)),some (.d (.lst acc)),some (.d (.int (k:Nat))),some (.d (.str (nth names k)))] 1 (acc++(names.drop (k+1)).map fun b=>pairD (nth names k,b)),rfl,?_,_,_,rfl⟩
   have hc:dJ (.n 1) gU (mN dTup [(mV 0),(mV 1)]) [some (.d (.str (nth names k))),none] ((names.drop (k+1)).map D.str)=.ok (((names.drop (k+1)).filter fun _=>true).map fun b=>pairD (nth names k,b)) :=
    cW D.str (fun b=>pairD (nth names k,b)) (fun _=>true) _ fun b _=>⟨[some (.d (.str (nth names k))),some (.d (.str b))],rfl,rfl,fun _=>lG rfl rfl⟩
   rw[List.filter_eq_self.mpr (fun _ _=>rfl)] at hc
   exact QC (cM (ρ:=[some 3,none]) (Cv hk hn rfl rfl) (by rw[List.length_map,List.length_drop];omega) hc) rfl hl)
 subst he
 rw[show ([some (W.d (fB names))]++List.replicate (4 - 1) none)=[some (W.d (fB names)),none,none,none] from rfl]
 rw[aH (e':=[some (.d (fB names)),some (.d (.lst [])),none,none]) (aV (u9 _))]
 have hit:oO (mV 0) [some (.d (fB names)),some (.d (.lst [])),none,none]=.ok ((List.range names.length).map fun k=>D.tup [.int (k:Nat),.str (nth names k)]):=by
  rw[← sH];rfl
 rw[aH ((cP hit).trans f1)]
 unfold cI
 rw[epr];rfl
theorem mj{names:List Str}{p:Ar}(h:p∈prs names):p.1∈names∧p.2∈names:=by
 obtain⟨k,hk,e,hb⟩:=j9.mp (show (p.1,p.2)∈prs names from h)
 exact⟨by rw[e];exact mq hk,List.mem_of_mem_drop hb⟩
def zG(names:List Str)(aj:List Ar):List Ar:=(prs names).filter fun p=>tie aj p.1 p.2
theorem JH{names:List Str}{aj:List Ar}(hn:names.length≤8):lD [.d (aW names aj)]=.ok (.d (cI (zG names aj))):=by
 unfold lD Bk
 rw[MJ]
 rw[show ([some (W.d (aW names aj))]++List.replicate (1 - 1) none)=[some (W.d (aW names aj))] from rfl]
 have hc:dJ (.t [1,2]) (cB (bf fP [(wD (mV 0)),(wD (mV 1)),(wD (mV 2))])) (mN dTup [(mV 1),(mV 2)]) [some (.d (aW names aj)),none,none] ((prs names).map pairD)=.ok ((zG names aj).map pairD) :=
  cW pairD pairD (fun p=>tie aj p.1 p.2) (prs names) fun p hp=>⟨[some (.d (aW names aj)),some (.d (.str p.1)),some (.d (.str p.2))],rfl,bR (Be rfl rfl rfl (wy (mj hp).1 (mj hp).2)),fun _=>lG rfl rfl⟩
 have hm:=cM (ρ:=[some 0,none,none]) (e:=[some (.d (aW names aj))]) (dg (a:=bf gC [(wD (m2 bH (mV 0) (mC (.int 0))))]) (x:=cI (prs names)) (lR (dw (aB rfl rfl (Kq names aj))) (Ft hn)) rfl) (by rw[List.length_map];have:=CP hn;omega) hc
 rw[eQ (dw hm)];rfl
theorem Aj{names:List Str}{aj:List Ar}(hn:names.length≤8):iK [.d (aW names aj)]=.ok (.d (cI (zG names aj))):=by
 unfold iK GR
 rw[Qy]
 have epr:(zG names aj).map pairD=(List.range names.length).flatMap fun k=>((names.drop (k+1)).filter fun b=>tie aj (nth names k) b).map fun b=>pairD (nth names k,b):=by
  unfold zG prs
  rw[List.filter_flatMap,c7]
  refine cz fun k _=>?_
  rw[List.filter_map,List.map_map];rfl
 have V4:((zG names aj).map pairD).length≤64:=by rw[List.length_map];exact Nat.le_trans (List.length_filter_le _ _) (CP hn)
 rw[epr] at V4
 obtain⟨e',f1,o2,he⟩:=fJ (tg:=.n 2) (body:=(bw 1 (m2 bz (mV 1) (bN [some 2,some 0,none] (ie (gR vp (m2 bH (mV 0) (mC (.int 0))) (some (m2 bz (mV 2) (mC (.int 1)))) none)) (.n 2) (cB (bf gf [(wD (mV 1)),(wD (m2 bH (m2 bH (mV 1) (mC (.int 0))) (mV 0))),(wD (mV 2))])) (mN dTup [(m2 bH (m2 bH (mV 1) (mC (.int 0))) (mV 0)),(mV 2)])))))
  (fun k:Nat=>D.int (0+(k:Nat))) (fun k=>((names.drop (k+1)).filter fun b=>tie aj (nth names k) b).map fun b=>pairD (nth names k,b))
  (fun acc e=>∃ o2:Option W,e=[some (.d (aW names aj)),some (.d (.lst acc)),o2]) (List.range names.length) [] [some (.d (aW names aj)),some (.d (.lst [])),none] (by simp only[List.length_nil];omega) ⟨none,rfl⟩
  (fun k hk acc e hl ⟨o2,he⟩=>by
   subst he
   have hk:=List.mem_range.mp hk
   rw[Int.zero_add]
   refine⟨[some (.d (aW names aj)),some (.d (.lst acc)),some (.d (.int (k:Nat)))],[some (.d (aW names aj)),some (.d (.lst (acc++((names.drop (k+1)).filter fun b=>tie aj (nth names k) b).map fun b=>pairD (nth names k,b)))),some (.d (.int (k:Nat)))],rfl,?_,_,rfl⟩
   have nm:∀ b:Str,m2 bH (m2 bH (mV 1) (mC (.int 0))) (mV 0) [some (.d (.int (k:Nat))),some (.d (aW names aj)),some (.d (.str b))]=.ok (.str (nth names k)):=fun b=>aB (aB rfl rfl (Kq names aj)) rfl (by
    have:=Ql (cs:=names) (i:=(k:Nat)) (by omega) (by omega)
    rw[Int.toNat_natCast] at this;exact this)
   have hc:dJ (.n 2) (cB (bf gf [(wD (mV 1)),(wD (m2 bH (m2 bH (mV 1) (mC (.int 0))) (mV 0))),(wD (mV 2))])) (mN dTup [(m2 bH (m2 bH (mV 1) (mC (.int 0))) (mV 0)),(mV 2)]) [some (.d (.int (k:Nat))),some (.d (aW names aj)),none] ((names.drop (k+1)).map D.str)=.ok (((names.drop (k+1)).filter fun b=>tie aj (nth names k) b).map fun b=>pairD (nth names k,b)) :=
    cW D.str (fun b=>pairD (nth names k,b)) (fun b=>tie aj (nth names k) b) _ fun b _=>⟨[some (.d (.int (k:Nat))),some (.d (aW names aj)),some (.d (.str b))],rfl,bR (Be rfl (dw (nm b)) rfl (JK (nth names k) b)),fun _=>lG (nm b) rfl⟩
   have hm:=cM (ρ:=[some 2,some 0,none]) (e:=[some (.d (aW names aj)),some (.d (.lst acc)),some (.d (.int (k:Nat)))]) (Cv (b:=mV 2) hk hn (aB (a:=mV 0) (b:=mC (.int 0)) rfl rfl (Kq names aj)) rfl) (by rw[List.length_map,List.length_drop];omega) hc
   exact aV (aB (x:=.lst acc) rfl hm (aq hl)))
 subst he
 rw[show ([some (W.d (aW names aj))]++List.replicate (3 - 1) none)=[some (W.d (aW names aj)),none,none] from rfl]
 rw[aH (e':=[some (.d (aW names aj)),some (.d (.lst [])),none]) (aV (u9 _))]
 have hit:bV (mN fV [(m2 bH (mV 0) (mC (.int 0)))]) [some (.d (aW names aj)),some (.d (.lst [])),none]=.ok ((List.range names.length).map fun k:Nat=>D.int (0+(k:Nat))):=by
  unfold bV
  rw[Qh (names:=names) (aj:=aj) rfl,aG,wu,aG,aq (by unfold okR;omega)]
  unfold bQ
  rw[Int.sub_zero,Int.toNat_natCast]
 rw[aH ((cP hit).trans f1)]
 unfold cI
 rw[epr];rfl
theorem T8{names:List Str}{aj:List Ar}:(Nv names aj).map fu=(prs names).flatMap fun p=>if (!tie aj p.1 p.2)=true then (Nu names aj p).map fun m=>fu (p.1,m,p.2) else []:=by
 unfold Nv
 rw[c7]
 refine cz fun p _=>?_
 split
 ·rw[List.map_map];rfl
 ·rfl
theorem yN{names:List Str}{aj:List Ar}(N:Nt names aj):iB [.d (aW names aj)]=.ok (.d (.lst ((jH names aj).map fu))):=by
 have hn:=N.le
 have Jr:((Nv names aj).map fu).length≤56:=by rw[List.length_map];exact KZ N
 have m7:=Jo N
 rw[T8] at Jr m7
 unfold iB uy
 rw[MJ]
 obtain⟨e',f1,o4,o5,o6,he⟩:=fJ (tg:=.t [4,5]) (body:=(jP (pL (cB (bf fP [(wD (mV 0)),(wD (mV 4)),(wD (mV 5))])))
 (aY (bw 6 (bN [some 2,some 4,some 5,none] (ie (mV 1)) (.n 3) (fU (cB (m2 kO (mN dTup [(mV 1),(mV 3)]) (mV 0))) (cB (m2 kO (mN dTup [(mV 2),(mV 3)]) (mV 0)))) (mV 3)))
 (n6 3 (bN [some 4,some 5,none] (ie (mV 6)) (.n 2) gU (mN dTup [(mV 0),(mV 2),(mV 1)]))))
 bT))
  pairD (fun p=>if (!tie aj p.1 p.2)=true then (Nu names aj p).map fun m=>fu (p.1,m,p.2) else [])
  (fun acc e=>∃ o4 o5 o6:Option W,e=[some (.d (aW names aj)),some (.d (fB names)),some (.d (Hy aj)),some (.d (.lst acc)),o4,o5,o6]) (prs names) [] [some (.d (aW names aj)),some (.d (fB names)),some (.d (Hy aj)),some (.d (.lst [])),none,none,none] (by simp only[List.length_nil];omega) ⟨none,none,none,rfl⟩
  (fun p hp acc e hl ⟨o4,o5,o6,he⟩=>by
   subst he
   have hc:=uq (bR (Be (f:=fP) (a:=wD (mV 0)) (b:=wD (mV 4)) (c:=wD (mV 5)) (e:=[some (.d (aW names aj)),some (.d (fB names)),some (.d (Hy aj)),some (.d (.lst acc)),some (.d (.str p.1)),some (.d (.str p.2)),o6]) rfl rfl rfl (wy (aj:=aj) (mj hp).1 (mj hp).2)))
   cases ht:(!tie aj p.1 p.2) with
   | false =>
    rw[ht] at hc
    rw[if_neg Bool.false_ne_true,List.append_nil]
    exact⟨[some (.d (aW names aj)),some (.d (fB names)),some (.d (Hy aj)),some (.d (.lst acc)),some (.d (.str p.1)),some (.d (.str p.2)),o6],_,rfl,(jm hc).trans rfl,_,_,_,rfl⟩
   | true =>
    rw[ht] at hc
    rw[ht,if_pos rfl] at hl
    rw[if_pos rfl]
    have hmc:dJ (.n 3) (fU (cB (m2 kO (mN dTup [(mV 1),(mV 3)]) (mV 0))) (cB (m2 kO (mN dTup [(mV 2),(mV 3)]) (mV 0)))) (mV 3) [some (.d (Hy aj)),some (.d (.str p.1)),some (.d (.str p.2)),none] (names.map D.str)=.ok ((Nu names aj p).map D.str) :=
     cW D.str D.str (fun m=>decide ((p.1,m)∈aj) && decide ((p.2,m)∈aj)) names fun m _=>⟨[some (.d (Hy aj)),some (.d (.str p.1)),some (.d (.str p.2)),some (.d (.str m))],rfl,mF (bR (aB (lG rfl rfl) rfl (kJ aj (p.1,m)))) fun _=>bR (aB (lG rfl rfl) rfl (kJ aj (p.2,m))),fun _=>rfl⟩
    have s1:=aV (i:=6) (cM (ρ:=[some 2,some 4,some 5,none]) (e:=[some (.d (aW names aj)),some (.d (fB names)),some (.d (Hy aj)),some (.d (.lst acc)),some (.d (.str p.1)),some (.d (.str p.2)),o6]) (dg (a:=mV 1) (x:=fB names) rfl rfl) (by rw[List.length_map];omega) hmc)
    have Y5:dJ (.n 2) gU (mN dTup [(mV 0),(mV 2),(mV 1)]) [some (.d (.str p.1)),some (.d (.str p.2)),none] ((Nu names aj p).map D.str)=.ok (((Nu names aj p).filter fun _=>true).map fun m=>fu (p.1,m,p.2)) :=
     cW D.str (fun m=>fu (p.1,m,p.2)) (fun _=>true) _ fun m _=>⟨[some (.d (.str p.1)),some (.d (.str p.2)),some (.d (.str m))],rfl,rfl,fun _=>(Vh rfl rfl rfl).trans (aq (by simp))⟩
    rw[List.filter_eq_self.mpr (fun _ _=>rfl)] at Y5
    have hml:(Nu names aj p).length≤8:=Nat.le_trans (List.length_filter_le _ _) hn
    refine⟨[some (.d (aW names aj)),some (.d (fB names)),some (.d (Hy aj)),some (.d (.lst acc)),some (.d (.str p.1)),some (.d (.str p.2)),o6],putL [some (.d (aW names aj)),some (.d (fB names)),some (.d (Hy aj)),some (.d (.lst acc)),some (.d (.str p.1)),some (.d (.str p.2)),some (.d (.lst ((Nu names aj p).map D.str)))] 3 (acc++(Nu names aj p).map fun m=>fu (p.1,m,p.2)),rfl,?_,_,_,_,rfl⟩
    exact(jM hc).trans ((aH s1).trans (QC (cM (ρ:=[some 4,some 5,none]) (dg (a:=mV 6) (x:=.lst ((Nu names aj p).map D.str)) rfl rfl) (by rw[List.length_map];omega) Y5) rfl hl)))
 subst he
 rw[show ([some (W.d (aW names aj))]++List.replicate (7 - 1) none)=[some (W.d (aW names aj)),none,none,none,none,none,none] from rfl]
 rw[aH (e':=[some (.d (aW names aj)),some (.d (fB names)),some (.d (Hy aj)),none,none,none,none]) rfl]
 rw[aH (e':=[some (.d (aW names aj)),some (.d (fB names)),some (.d (Hy aj)),some (.d (.lst [])),none,none,none]) (aV (u9 _))]
 rw[aH ((cP (dg (a:=bf gC [(wD (mV 1))]) (x:=cI (prs names)) (lR rfl (Ft hn)) rfl)).trans f1)]
 rw[eQ (dw (call2 rfl rfl m7))];rfl
end Mr
namespace Mr
open PySem Mi
open My (words lV bU)
theorem Nk:("abcdefghijklmnopqrstuvwxyz" : Str).cps.toList=(List.range 26).map (· + 97):=by decide +kernel
theorem Q6{a b c:E}{e:Mi.Env}{i j k:Int}(ha:a e=.ok (.int i))(hb:b e=.ok (.int j))(hc:c e=.ok (.int k))(h1:i≤j)(h2:j≤k):Dk Xy Xy a b c e=.ok (.bl true):=by
 unfold Dk
 rw[ha,aG,hb,aG]
 show (Rs.ok (D.bl (decide (i≤j)))).bind _=_
 rw[decide_eq_true h1,aG,Hj,aG,if_pos rfl,hc,aG]
 show Rs.ok (D.bl (decide (j≤k)))=_
 rw[decide_eq_true h2]
theorem RL{l:List Nat}(hw:lV l):jX [.d (.str (S' l))]=.ok (.d (.bl true)):=by
 unfold jX Bt
 rw[Qy]
 rw[show ([some (W.d (.str (S' l)))]++List.replicate (1 - 1) none)=[some (W.d (.str (S' l)))] from rfl]
 obtain⟨h1,h8,hl⟩:=hw
 have hc:dJ (.n 0) gU (m2 kO (mV 0) (mC (.str "abcdefghijklmnopqrstuvwxyz"))) [none] (l.map fun c=>D.str (S' [c]))=.ok ((l.filter fun _=>true).map fun c=>D.bl ((fun _=>true) c)) :=
  cW (fun c=>D.str (S' [c])) (fun c=>D.bl ((fun _=>true) c)) (fun _=>true) l fun c hcl=>⟨[some (.d (.str (S' [c])))],rfl,rfl,fun _=>aB (x:=.str (S' [c])) rfl rfl (by
   show aU ((S' [c]).length=1) (Rs.ok (D.bl (decide ((S' [c]).cps.getD 0 0∈("abcdefghijklmnopqrstuvwxyz" : Str).cps.toList))))=_
   have hm:(S' [c]).cps.getD 0 0∈("abcdefghijklmnopqrstuvwxyz" : Str).cps.toList:=by
    rw[Nk]
    have:=hl c hcl
    exact List.mem_map.mpr ⟨c - 97,List.mem_range.mpr (by omega),by show c - 97+97=c;omega⟩
   rw[aq (by rw[lg];rfl),decide_eq_true hm])⟩
 rw[List.filter_eq_self.mpr (fun _ _=>rfl)] at hc
 have h2:mN Xd [(bN [none] (ie (mV 0)) (.n 0) gU (m2 kO (mV 0) (mC (.str "abcdefghijklmnopqrstuvwxyz"))))] [some (W.d (.str (S' l)))]=.ok (.bl true):=by
  refine(fX (cM (ρ:=[none]) (dg (a:=mV 0) (x:=.str (S' l)) rfl rfl) (by rw[List.length_map,w5];omega) hc)).trans ?_
  rw[Zr,Rm,iJ,aG,List.all_map]
  show Rs.ok (D.bl (l.all fun _=>true))=_
  rw[List.all_eq_true.mpr (fun _ _=>rfl)]
 have h3:Dk Xy Xy (mC (.int 1)) (mN fV [(mV 0)]) (mC (.int 8)) [some (W.d (.str (S' l)))]=.ok (.bl true):=Q6 (j:=((l.length:Nat):Int)) rfl ((fX (x:=.str (S' l)) rfl).trans (by rw[YQ,aq (by rw[lg];omega),lg])) rfl (by omega) (by omega)
 rw[eQ (dw (wR h3 fun _=>h2))];rfl
theorem N7{α : Type}{l:List α}(nd:l.Nodup){i:Nat}{x:α}(hx:l[i]? = some x):x∉l.take i:=fun z=>by
 obtain⟨il,hxe⟩:=List.getElem?_eq_some_iff.mp hx
 obtain⟨j,hj⟩:=List.getElem?_of_mem z
 have hj2:=(List.getElem?_eq_some_iff.mp hj).1
 rw[List.length_take] at hj2
 rw[List.getElem?_take_of_lt (by omega)] at hj
 obtain⟨jl,hje⟩:=List.getElem?_eq_some_iff.mp hj
 have:=(List.getElem_inj nd).mp (hje.trans hxe.symm)
 omega
def both(xs:List Ar):List Ar:=xs.flatMap fun p=>[p,(p.2,p.1)]
end Mr
namespace Mr
open PySem Mi
open My (words lV bU)
end Mr
namespace Mr
open PySem Mi
abbrev nn:D:=.lst [.str "NoName"]
end Mr
namespace Mr
open PySem Mi
open My (words lV bU)
theorem Zj{f:Fn}{a b c g:EW}{e:Mi.Env}{x y z u:W}{d:D}(h:a e=.ok x)(h':b e=.ok y)(h'':c e=.ok z)(h3:g e=.ok u)(hf:f [x,y,z,u]=.ok (.d d)):bf f [a,b,c,g] e=.ok d:=by unfold bf vJ;rw[dR,h,aG,dR,h',aG,dR,h'',aG,dR,h3];simp only[aG,dR,hf,Hg]
theorem vK{α : Type}(f:α→Nat):∀ (l m:List α),l.Pairwise (fun a b=>f a < f b)→m.Pairwise (fun a b=>f a < f b)→(∀ x,x∈l↔x∈m)→l=m
 | [],[],_,_,_=>rfl
 | [],b::t,_,_,h=>nomatch (h b).mpr (List.mem_cons_self ..)
 | a::r,[],_,_,h=>nomatch (h a).mp (List.mem_cons_self ..)
 | a::r,b::t,hl,hm,h=>by
  have l1:=List.pairwise_cons.mp hl
  have m1:=List.pairwise_cons.mp hm
  have e:a=b:=by
   rcases List.mem_cons.mp ((h a).mp (List.mem_cons_self ..)) with z|z
   ·exact z
   ·rcases List.mem_cons.mp ((h b).mpr (List.mem_cons_self ..)) with y|y
    ·exact y.symm
    ·have k1:=m1.1 a z
     have k2:=l1.1 b y
     omega
  subst e
  rw[vK f r t l1.2 m1.2 fun x=>⟨fun hx=>by
   rcases List.mem_cons.mp ((h x).mp (List.mem_cons_of_mem _ hx)) with z|z
   ·have:=l1.1 x hx;rw[z] at this;omega
   ·exact z,fun hx=>by
   rcases List.mem_cons.mp ((h x).mpr (List.mem_cons_of_mem _ hx)) with z|z
   ·have:=m1.1 x hx;rw[z] at this;omega
   ·exact z⟩]
end Mr
namespace Mr
open PySem Mi
open My (words lV bU)
end Mr
namespace Mr
open PySem Mi
open My (words lV bU)
def ixs(names:List Str)(B:List Ar):List Ix:=(List.range names.length).flatMap fun i=>((List.range names.length).filter fun j=>decide ((nth names i,nth names j)∈B)).map fun j=>(i,j)
theorem z8(names:List Str):(List.range names.length).map (nth names)=names:=by
 refine List.ext_getElem (by rw[List.length_map,List.length_range]) fun i h1 h2=>?_
 rw[List.getElem_map,List.getElem_range]
 unfold nth
 rw[List.getD_eq_getElem?_getD,List.getElem?_eq_getElem h2];rfl
theorem Ko(names:List Str)(B:List Ar):(ixs names B).map (arrOf names)=m7 names B:=by
 unfold ixs m7
 rw[c7]
 have e:names.flatMap (fun t=>(names.filter fun h=>decide ((t,h)∈B)).map fun h=>(t,h))=((List.range names.length).map (nth names)).flatMap (fun t=>(names.filter fun h=>decide ((t,h)∈B)).map fun h=>(t,h)):=by rw[z8]
 rw[e,List.flatMap_map]
 refine cz fun i _=>?_
 have e2:names.filter (fun h=>decide ((nth names i,h)∈B))=((List.range names.length).map (nth names)).filter (fun h=>decide ((nth names i,h)∈B)):=by rw[z8]
 rw[e2,List.filter_map,List.map_map,List.map_map]
 rfl
theorem Dg{names:List Str}{B:List Ar}{p:Ix}:p∈ixs names B↔p.1 < names.length∧p.2 < names.length∧(nth names p.1,nth names p.2)∈B:=by
 unfold ixs
 rw[List.mem_flatMap]
 constructor
 ·rintro ⟨i,hi,h⟩
  obtain⟨j,hj,rfl⟩:=List.mem_map.mp h
  obtain⟨h1,h2⟩:=List.mem_filter.mp hj
  exact⟨List.mem_range.mp hi,List.mem_range.mp h1,of_decide_eq_true h2⟩
 ·rintro ⟨h1,h2,h3⟩
  exact⟨p.1,List.mem_range.mpr h1,List.mem_map.mpr ⟨p.2,List.mem_filter.mpr ⟨List.mem_range.mpr h2,decide_eq_true h3⟩,rfl⟩⟩
theorem jU{α : Type}[DecidableEq α]:∀ {l m:List α},l.Nodup→m.Nodup→(∀ x,x∈l↔x∈m)→l.Perm m
 | [],m,_,_,h=>by
  cases m with
  | nil=>exact .nil
  | cons a r=>exact nomatch (h a).mpr (List.mem_cons_self ..)
 | a::r,m,hl,hm,h=>by
  have l1:=List.nodup_cons.mp hl
  have ha:=(h a).mp (List.mem_cons_self ..)
  have p:=List.perm_cons_erase ha
  refine(List.Perm.cons a (jU l1.2 (hm.erase a) fun x=>?_)).trans p.symm
  rw[hm.mem_erase_iff]
  constructor
  ·exact fun hx=>⟨fun z=>l1.1 (z ▸ hx),(h x).mp (List.mem_cons_of_mem _ hx)⟩
  ·rintro ⟨h1,h2⟩
   rcases List.mem_cons.mp ((h x).mpr h2) with z|z
   ·exact absurd z h1
   ·exact z
theorem uL{names:List Str}(nd:names.Nodup)(h8:names.length≤8)(B:List Ar):(m7 names B).Nodup:=by
 rw[← Ko]
 refine List.pairwise_map.mpr (List.Pairwise.imp_of_mem (R:=iC) (fun {p q} hp hq h z=>?_) ?_)
 ·obtain⟨a,b,_⟩:=Dg.mp hp
  obtain⟨c,d,_⟩:=Dg.mp hq
  have e1:=oH nd a c (congrArg Prod.fst z)
  have e2:=oH nd b d (congrArg Prod.snd z)
  rcases h with h|⟨_,h⟩<;>omega
 ·unfold ixs
  rw[List.pairwise_flatMap]
  refine⟨fun i _=>?_,?_⟩
  ·rw[List.pairwise_map]
   exact(List.Pairwise.filter _ List.pairwise_lt_range).imp fun {a b} h=>.inr ⟨rfl,h⟩
  ·refine List.pairwise_lt_range.imp fun {a b} h=>?_
   intro x hx y hy
   obtain⟨j,_,rfl⟩:=List.mem_map.mp hx
   obtain⟨j',_,rfl⟩:=List.mem_map.mp hy
   exact .inl h
structure Gd(names:List Str)(aj:List Ar):Prop where
 nd:names.Nodup
 pos:1≤names.length
 le:names.length≤8
 rk:Rk aj
 m7:m7 names aj=aj
 wd:∀ x∈names,jX [.d (.str x)]=.ok (.d (.bl true))
theorem Gd.inn{names:List Str}{aj:List Ar}(G:Gd names aj):∀ p∈aj,p.1∈names∧p.2∈names:=fun p hp=>by
 rw[← G.m7] at hp
 exact(oJ.mp hp).2
theorem Gd.al{names:List Str}{aj:List Ar}(G:Gd names aj):aj.length≤64:=by
 rw[← G.m7];exact JQ G.le _
theorem Gd.nt{names:List Str}{aj:List Ar}(G:Gd names aj):Nt names aj:=⟨G.nd,G.le,G.al,G.inn,G.rk⟩
theorem Gd.nodup{names:List Str}{aj:List Ar}(G:Gd names aj):aj.Nodup:=by
 rw[← G.m7];exact uL G.nd G.le _
theorem RN{names:List Str}{B:List Ar}:m7 names (m7 names B)=m7 names B:=by
 unfold m7
 refine cz fun t ht=>?_
 congr 1
 refine List.filter_congr fun h hh=>?_
 rw[decide_eq_decide]
 exact⟨fun z=>(oJ.mp z).1,fun z=>oJ.mpr ⟨z,ht,hh⟩⟩
theorem Gd.of{names:List Str}{B:List Ar}(nd:names.Nodup)(h1:1≤names.length)(h8:names.length≤8)(wd:∀ x∈names,jX [.d (.str x)]=.ok (.d (.bl true)))(R:Rk B):Gd names (Mr.m7 names B) :=
 ⟨nd,h1,h8,R.sub fun p hp=>(oJ.mp hp).1,RN,wd⟩
theorem Ld{names:List Str}{A B:List Ar}(h:∀ p,p.1∈names→p.2∈names→(p∈A↔p∈B)):m7 names A=m7 names B:=by
 unfold m7
 refine cz fun t ht=>?_
 congr 1
 refine List.filter_congr fun x hx=>?_
 rw[decide_eq_decide]
 exact h (t,x) ht hx
theorem Gd.Er{names:List Str}{aj:List Ar}(G:Gd names aj){t h:Str}(ha:(t,h)∈aj):(h,t)∉aj:=fun z=>by
 obtain⟨k,hk⟩:=G.rk
 have h1:=hk _ ha
 have h2:=hk _ z
 simp only at h1 h2
 omega
theorem Gd.pK{names:List Str}{aj:List Ar}(G:Gd names aj){t h:Str}(ha:(t,h)∈aj)(hc:cov aj (t,h)=true):Gd names (Mr.m7 names (Mr.pK (t,h) aj)):=by
 refine Gd.of G.nd G.pos G.le G.wd (Fj (names:=names) (fun p hp=>?_) ?_)
 ·rcases (tX ha).mp hp with ⟨h1,_⟩|rfl
  ·exact G.inn p h1
  ·exact⟨(G.inn _ ha).2,(G.inn _ ha).1⟩
 ·have:=xr G.nd G.inn G.rk ha
  rw[show jx (bO aj h) (bO aj t++[t])=true from hc] at this
  have:=this.symm
  rw[Bool.and_eq_true,Bool.not_eq_true'] at this
  exact this.1
end Mr
namespace Mr
open PySem Mi
open My (words lV bU)
theorem vW{aj:List Ar}(hl:aj.length≤64)(x:Str):fO [.d (cI aj),.d (.str x)]=.ok (.d (aL (bO aj x))):=by
 unfold fO yX
 rw[Jh]
 rw[show ([some (W.d (cI aj)),some (W.d (.str x))]++List.replicate (2 - 2) none)=[some (W.d (cI aj)),some (W.d (.str x))] from rfl]
 have hc:dJ (.t [1,2]) (cB (m2 iV (mV 2) (mV 0))) (mV 1) [some (.d (.str x)),none,none] (aj.map pairD)=.ok ((aj.filter fun p=>decide (p.2=x)).map fun p=>D.str p.1) :=
  cW pairD (fun p=>D.str p.1) (fun p=>decide (p.2=x)) aj fun p _=>⟨[some (.d (.str x)),some (.d (.str p.1)),some (.d (.str p.2))],rfl,bR (aB rfl rfl (KQ p.2 x)),fun _=>rfl⟩
 rw[eQ (dw (cM (ρ:=[some 1,none,none]) (dg (a:=mV 0) (x:=cI aj) rfl rfl) (by rw[List.length_map];omega) hc))]
 show Rs.ok (W.d (.lst _))=_
 unfold bO aL
 rw[List.map_map];rfl
structure Lk(names:List Str)(aj:List Ar):Prop where
 nd:names.Nodup
 le:names.length≤8
 al:aj.length≤64
 inn:∀ p∈aj,p.1∈names∧p.2∈names
 rk:Rk aj
 nda:aj.Nodup
theorem Gd.lk{names:List Str}{aj:List Ar}(G:Gd names aj):Lk names aj:=⟨G.nd,G.le,G.al,G.inn,G.rk,G.nodup⟩
theorem Lk.nt{names:List Str}{aj:List Ar}(G:Lk names aj):Nt names aj:=⟨G.nd,G.le,G.al,G.inn,G.rk⟩
theorem Lk.lu{names:List Str}{aj:List Ar}(G:Lk names aj)(x:Str):(bO aj x).Nodup:=by
 unfold bO
 refine List.pairwise_map.mpr ((G.nda.filter _).imp_of_mem fun {p q} hp hq h z=>h ?_)
 have h1:=of_decide_eq_true (List.mem_filter.mp hp).2
 have h2:=of_decide_eq_true (List.mem_filter.mp hq).2
 exact Prod.ext z (h1.trans h2.symm)
theorem Lk.lO{names:List Str}{aj:List Ar}(G:Lk names aj)(x:Str):(bO aj x).length≤8 :=
 Nat.le_trans (dZ (G.lu x) fun y hy=>(G.inn _ (iw.mp hy)).1) G.le
theorem Lk.ZZ{names:List Str}{aj:List Ar}(G:Lk names aj)(x:Str):(x,x)∉aj:=fun h=>by
 obtain⟨k,hk⟩:=G.rk
 have:=hk _ h
 simp only at this
 omega
def DW(aj:List Ar)(p:Ar):Bool:=decide (lY (bO aj p.2)=lY (bO aj p.1++[p.1]))
theorem Lk.DW{names:List Str}{aj:List Ar}(G:Lk names aj)(t h:Str):Mr.DW aj (t,h)=cov aj (t,h):=by
 have n2:(bO aj t++[t]).Nodup:=by
  rw[List.nodup_append]
  refine⟨G.lu t,(by simp),fun a ha b hb z=>?_⟩
  rw[List.mem_singleton.mp hb] at z
  rw[z] at ha
  exact G.ZZ t (iw.mp ha)
 have mem:∀ x,x∈bO aj t++[t]↔(x,t)∈aj∨x=t:=fun x=>by rw[List.mem_append,iw,List.mem_singleton]
 show decide _=jx (bO aj h) (bO aj t++[t])
 cases hs:jx (bO aj h) (bO aj t++[t]) with
 | true =>
  have k:=uo.mp hs
  exact decide_eq_true (Fb.mpr (jU (G.lu h) n2 fun x=>by rw[iw,mem];exact k x))
 | false =>
  refine decide_eq_false fun z=>?_
  have pm:=Fb.mp z
  have:jx (bO aj h) (bO aj t++[t])=true:=uo.mpr fun x=>by rw[← mem,← iw];exact pm.mem_iff
  rw[hs] at this;cases this
theorem QT(xs ys:List Str):iV (aL xs) (aL ys)=.ok (.bl (decide (xs=ys))):=by
 unfold iV aL
 rw[aq (by simp),cU,rT]
theorem Ez{xs:List Str}(h:xs.length < 64):mR [aL xs]=.ok (aL (lY xs)):=by
 show (pJ (nR (xs.map D.str))).bind _=_
 rw[uA,iJ,aG]
 exact aq h
theorem Jp{names:List Str}{aj:List Ar}(G:Lk names aj):iy [.d (cI aj)]=.ok (.d (cI (aj.filter (cov aj)))):=by
 have hal:=G.al
 unfold iy wg
 rw[MJ]
 rw[show ([some (W.d (cI aj))]++List.replicate (4 - 1) none)=[some (W.d (cI aj)),none,none,none] from rfl]
 have efl:(aj.flatMap fun p=>if Mr.DW aj p=true then [pairD p] else [])=(aj.filter (cov aj)).map pairD:=by
  rw[kI (Mr.DW aj) pairD]
  congr 1
  exact List.filter_congr fun p _=>G.DW p.1 p.2
 have hfl:(aj.flatMap fun p=>if Mr.DW aj p=true then [pairD p] else []).length≤64:=by
  rw[efl,List.length_map];exact Nat.le_trans (List.length_filter_le _ _) hal
 obtain⟨e',f1,o2,o3,he⟩:=fJ (tg:=.t [2,3]) (body:=(jP (cB (m2 iV (mN mR [(bf fO [(wD (mV 0)),(wD (mV 3))])]) (mN mR [(m2 bz (bf fO [(wD (mV 0)),(wD (mV 2))]) (mN d9 [(mV 2)]))])))
 (bJ 1 (mN dTup [(mV 2),(mV 3)]))
 bT))
  pairD (fun p=>if Mr.DW aj p=true then [pairD p] else [])
  (fun acc e=>∃ o2 o3:Option W,e=[some (.d (cI aj)),some (.d (.lst acc)),o2,o3]) aj [] [some (.d (cI aj)),some (.d (.lst [])),none,none] (by simp only[List.length_nil];omega) ⟨none,none,rfl⟩
  (fun p hp acc e hl ⟨o2,o3,he⟩=>by
   subst he
   have l2:=G.lO p.2
   have l1:=G.lO p.1
   have hc:cB (m2 iV (mN mR [(bf fO [(wD (mV 0)),(wD (mV 3))])]) (mN mR [(m2 bz (bf fO [(wD (mV 0)),(wD (mV 2))]) (mN d9 [(mV 2)]))])) [some (.d (cI aj)),some (.d (.lst acc)),some (.d (.str p.1)),some (.d (.str p.2))]=.ok (Mr.DW aj p) :=
    bR (aB ((fX (call2 rfl rfl (vW hal p.2))).trans (Ez (by omega)))
     ((fX (x:=aL (bO aj p.1++[p.1])) (aB (call2 rfl rfl (vW hal p.1)) (Qe rfl) ((sO _ _).trans ((aq (by rw[List.length_map];simp only[List.length_cons,List.length_nil];omega)).trans (by unfold aL;rw[List.map_append];rfl))))).trans (Ez (by rw[List.length_append];simp only[List.length_cons,List.length_nil];omega)))
     (QT _ _))
   cases hk:Mr.DW aj p with
   | false =>
    rw[hk] at hc
    rw[if_neg Bool.false_ne_true,List.append_nil]
    exact⟨[some (.d (cI aj)),some (.d (.lst acc)),some (.d (.str p.1)),some (.d (.str p.2))],_,rfl,(jm hc).trans rfl,_,_,rfl⟩
   | true =>
    rw[hk] at hc
    rw[hk,if_pos rfl] at hl
    rw[if_pos rfl]
    refine⟨[some (.d (cI aj)),some (.d (.lst acc)),some (.d (.str p.1)),some (.d (.str p.2))],[some (.d (cI aj)),some (.d (.lst (acc++[pairD p]))),some (.d (.str p.1)),some (.d (.str p.2))],rfl,?_,_,_,rfl⟩
    exact(jM hc).trans (jo (lG rfl rfl) rfl (by simp only[List.length_cons,List.length_nil] at hl;omega)))
 subst he
 rw[aH (e':=[some (.d (cI aj)),some (.d (.lst [])),none,none]) (aV (u9 _))]
 rw[aH ((cP (dg (a:=mV 0) (x:=cI aj) rfl rfl)).trans f1)]
 unfold cI
 rw[← efl];rfl
end Mr
namespace Mr
open PySem Mi
open My (words lV bU)
theorem Di{α : Type}(f:α→Int):∀ (l:List α),l≠[]→∃ x∈l,∀ y∈l,f x≤f y
 | [],h=>absurd rfl h
 | [a],_=>⟨a,List.mem_cons_self ..,fun y hy=>by rw[List.mem_singleton.mp hy];exact Int.le_refl _⟩
 | a::b::r,_=>by
  obtain⟨x,hx,k⟩:=Di f (b::r) (by simp)
  rcases Int.le_total (f a) (f x) with h|h
  ·exact⟨a,List.mem_cons_self ..,fun y hy=>by
    rcases List.mem_cons.mp hy with rfl|hy
    ·exact Int.le_refl _
    ·exact Int.le_trans h (k y hy)⟩
  ·exact⟨x,List.mem_cons_of_mem _ hx,fun y hy=>by
    rcases List.mem_cons.mp hy with rfl|hy
    ·exact h
    ·exact k y hy⟩
theorem Zi{α : Type}{A B:α→α→Prop}{ra rb:α→Int}(ha:∀ x y,A x y→ra x < ra y)(hb:∀ x y,B x y→rb x < rb y)
 (sk:∀ x y,(A x y∨A y x)↔(B x y∨B y x)) (cr:∀ a m b,a≠b→((A a m∧A b m∧¬ A a b∧¬ A b a)↔(B a m∧B b m∧¬ B a b∧¬ B b a)))
 {x y:α} (hA:A x y) (hB:B y x) (YH:∀ u v,A u v→B v u→ra y≤ra v) (aai:∀ u,A u y→B y u→ra u≤ra x):∀ z,A z y↔(A z x∨z=x):=by
 intro z
 constructor
 ·intro zy
  by_cases e:z=x
  ·exact .inr e
  ·refine .inl (Classical.byContradiction fun nzx=>?_)
   by_cases xz:A x z
   ·-- x→z→y
    have h1:=ha _ _ xz
    have h2:=ha _ _ zy
    rcases (sk z y).mp (.inl zy) with bzy|byz
    ·rcases (sk x z).mp (.inl xz) with bxz|bzx
     ·have:=hb _ _ bzy;have:=hb _ _ hB;have:=hb _ _ bxz;omega
     ·have:=YH x z xz bzx;omega
    ·have:=aai z zy byz;omega
   ·have:=(cr x y z (Ne.symm e)).mp ⟨hA,zy,xz,nzx⟩
    have h1:=hb _ _ this.1
    have h2:=hb _ _ hB
    omega
 ·rintro (zx|rfl)
  ·refine Classical.byContradiction fun nzy=>?_
   have h1:=ha _ _ zx
   have h2:=ha _ _ hA
   have nyz:¬ A y z:=fun h=>by have:=ha _ _ h;omega
   have nb:¬ (B z y∨B y z):=fun h=>by
    rcases (sk z y).mpr h with h|h
    ·exact nzy h
    ·exact nyz h
   rcases (sk z x).mp (.inl zx) with bzx|bxz
   ·have ne:z≠y:=fun e=>by rw[e] at h1;omega
    have:=(cr z x y ne).mpr ⟨bzx,hB,fun h=>nb (.inl h),fun h=>nb (.inr h)⟩
    have h3:=ha _ _ this.2.1
    omega
   ·have:=YH z x zx bxz;omega
  ·exact hA
structure Sm(names:List Str)(A B:List Ar):Prop where
 ti:zG names A=zG names B
 cr:jH names A=jH names B
theorem sZ(aj:List Ar)(a b:Str):tie aj a b=tie aj b a:=by unfold tie;rw[Bool.or_comm]
theorem dH{aj:List Ar}{a b:Str}:tie aj a b=true↔(a,b)∈aj∨(b,a)∈aj:=by
 unfold tie
 rw[Bool.or_eq_true,decide_eq_true_iff,decide_eq_true_iff]
theorem oF{names:List Str}{a b:Str}(ha:a∈names)(hb:b∈names)(ne:a≠b):(a,b)∈prs names∨(b,a)∈prs names:=by
 obtain⟨i,hi,rfl⟩:=Df ha
 obtain⟨j,hj,rfl⟩:=Df hb
 rcases Nat.lt_trichotomy i j with h|h|h
 ·exact .inl (j9.mpr ⟨i,hi,rfl,yl h hj⟩)
 ·exact absurd (by rw[h]) ne
 ·exact .inr (j9.mpr ⟨j,hj,rfl,yl h hi⟩)
theorem Sm.tie{names:List Str}{A B:List Ar}(S:Sm names A B){a b:Str}(ha:a∈names)(hb:b∈names)(ne:a≠b):Mr.tie A a b=Mr.tie B a b:=by
 have key:∀ p:Ar,p∈prs names→Mr.tie A p.1 p.2=Mr.tie B p.1 p.2:=fun p hp=>by
  have h:p∈zG names A↔p∈zG names B:=by rw[S.ti]
  unfold zG at h
  rw[List.mem_filter,List.mem_filter] at h
  rw[Bool.eq_iff_iff]
  exact⟨fun z=>(h.mp ⟨hp,z⟩).2,fun z=>(h.mpr ⟨hp,z⟩).2⟩
 rcases oF ha hb ne with h|h
 ·exact key _ h
 ·rw[sZ A,sZ B];exact key _ h
theorem Sm.of{names:List Str}{A B:List Ar}(nd:names.Nodup)(h1:∀ a∈names,∀ b∈names,Mr.tie A a b=Mr.tie B a b)(h2:jH names A=jH names B):Sm names A B :=
 ⟨List.filter_congr fun p hp=>h1 p.1 (mj hp).1 p.2 (mj hp).2,h2⟩
theorem Q0{names:List Str}(nd:names.Nodup){A B:List Ar}(h:∀ p:Ar,p.1∈names→p.2∈names→(p∈A↔p∈B)):jH names A=jH names B :=
 (ug nd).mpr fun a ha m hm b hb _=>by
  unfold pM
  rw[show decide ((a,m)∈A)=decide ((a,m)∈B) from decide_eq_decide.mpr (h _ ha hm),show decide ((b,m)∈A)=decide ((b,m)∈B) from decide_eq_decide.mpr (h _ hb hm),
   show decide ((a,b)∈A)=decide ((a,b)∈B) from decide_eq_decide.mpr (h _ ha hb),show decide ((b,a)∈A)=decide ((b,a)∈B) from decide_eq_decide.mpr (h _ hb ha)]
theorem Gd.tV{names:List Str}{A:List Ar}(G:Gd names A){p:Ar}(hp:p∈A)(q:Ar):q∈Mr.m7 names (Mr.pK p A)↔(q∈A∧q≠p)∨q=(p.2,p.1):=by
 rw[oJ,tX hp]
 constructor
 ·exact fun z=>z.1
 ·rintro (z|rfl)
  ·exact⟨.inl z,G.inn q z.1⟩
  ·exact⟨.inr rfl,(G.inn _ hp).2,(G.inn _ hp).1⟩
theorem Sm.turn{names:List Str}{A B:List Ar}(GA:Gd names A)(S:Sm names A B){p:Ar}(hp:p∈A)(hc:cov A p=true):Sm names (m7 names (pK p A)) B:=by
 refine⟨Eq.trans (List.filter_congr fun q hq=>?_) S.ti,Eq.trans ?_ S.cr⟩
 ·rw[Bool.eq_iff_iff,dH,dH,GA.tV hp,GA.tV hp]
  constructor
  ·rintro ((z|z)|(z|z))
   ·exact .inl z.1
   ·rw[show q.1=p.2 from congrArg Prod.fst z,show q.2=p.1 from congrArg Prod.snd z];exact .inr hp
   ·exact .inr z.1
   ·rw[show q.2=p.2 from congrArg Prod.fst z,show q.1=p.1 from congrArg Prod.snd z];exact .inl hp
  ·rintro (z|z)
   ·by_cases e:(q.1,q.2)=p
    ·exact .inr (.inr (by rw[← e]))
    ·exact .inl (.inl ⟨z,e⟩)
   ·by_cases e:(q.2,q.1)=p
    ·exact .inl (.inr (by rw[← e]))
    ·exact .inr (.inl ⟨z,e⟩)
 ·have h1:=xr GA.nd GA.inn GA.rk (t:=p.1) (h:=p.2) hp
  rw[show jx (bO A p.2) (bO A p.1++[p.1])=true from hc] at h1
  have h1:=h1.symm
  rw[Bool.and_eq_true,decide_eq_true_iff] at h1
  refine Eq.trans (Q0 GA.nd fun q h2 h3=>?_) h1.2
  rw[oJ]
  exact⟨fun z=>z.1,fun z=>⟨z,h2,h3⟩⟩
theorem Sm.inB{names:List Str}{A B:List Ar}(GA:Gd names A)(GB:Gd names B)(S:Sm names A B){p:Ar}(hp:p∈A)(hn:p∉B):(p.2,p.1)∈B:=by
 obtain⟨h1,h2⟩:=GA.inn p hp
 have ne:p.1≠p.2:=fun e=>GA.lk.ZZ p.1 (by rw[show (p.1,p.1)=p from Prod.ext rfl e];exact hp)
 have t:=S.tie h1 h2 ne
 rw[dH.mpr (.inl hp)] at t
 rcases dH.mp t.symm with z|z
 ·exact absurd z hn
 ·exact z
theorem Sm.symm{names:List Str}{A B:List Ar}(S:Sm names A B):Sm names B A:=⟨S.ti.symm,S.cr.symm⟩
theorem Sm.step{names:List Str}{A B:List Ar}(GA:Gd names A)(GB:Gd names B)(S:Sm names A B)(ne:A≠B):∃ p,p∈A∧cov A p=true∧p∉B:=by
 have hq:∃ q,q∈A∧q∉B:=Classical.byContradiction fun hno=>ne (by
  have ab:∀ q,q∈A→q∈B:=fun q hq=>Classical.byContradiction fun z=>hno ⟨q,hq,z⟩
  rw[← GA.m7,← GB.m7]
  refine Ld fun q h1 h2=>⟨ab q,fun hb=>Classical.byContradiction fun z=>?_⟩
  have:=ab _ (S.symm.inB GB GA hb z)
  exact GB.Er (t:=q.1) (h:=q.2) hb this)
 obtain⟨ra,ha⟩:=GA.rk
 obtain⟨rb,hb⟩:=GB.rk
 obtain⟨q,hq1,hq2⟩:=hq
 have inD:∀ u v,(u,v)∈A→(v,u)∈B→(u,v)∈A.filter fun p=>!decide (p∈B):=fun u v h1 h2=>List.mem_filter.mpr ⟨h1,by rw[decide_eq_false (fun z=>GB.Er z h2)];rfl⟩
 obtain⟨p0,m0,k0⟩:=Di (fun p:Ar=>ra p.2) (A.filter fun p=>!decide (p∈B)) (fun z=>by
  have:q∈A.filter fun p=>!decide (p∈B):=List.mem_filter.mpr ⟨hq1,by rw[decide_eq_false hq2];rfl⟩
  rw[z] at this;exact nomatch this)
 obtain⟨p1,m1,k1⟩:=Di (fun p:Ar=>- ra p.1) ((A.filter fun p=>!decide (p∈B)).filter fun p=>decide (p.2=p0.2)) (fun z=>by
  have:p0∈(A.filter fun p=>!decide (p∈B)).filter fun p=>decide (p.2=p0.2):=List.mem_filter.mpr ⟨m0,decide_eq_true rfl⟩
  rw[z] at this;exact nomatch this)
 obtain⟨m1,e1⟩:=List.mem_filter.mp m1
 have e1:p1.2=p0.2:=of_decide_eq_true e1
 obtain⟨mA,nB⟩:=List.mem_filter.mp m1
 have nB:p1∉B:=fun z=>by rw[decide_eq_true z] at nB;cases nB
 have bB:=S.inB GA GB mA nB
 refine⟨p1,mA,?_,nB⟩
 refine uo.mpr (Zi (A:=fun x y=>(x,y)∈A) (B:=fun x y=>(x,y)∈B) (ra:=ra) (rb:=rb) (fun x y h=>ha _ h) (fun x y h=>hb _ h) (fun x y=>?_) (fun a m b nab=>?_) mA bB (fun u v h1 h2=>?_) fun u h1 h2=>?_)
 ·have both:∀ {X Y:List Ar},Gd names X→Sm names X Y→(x,y)∈X∨(y,x)∈X→(x,y)∈Y∨(y,x)∈Y:=fun {X Y} GX SX h=>by
   have hx:x∈names∧y∈names∧x≠y:=by
    rcases h with h|h
    ·exact⟨(GX.inn _ h).1,(GX.inn _ h).2,fun e=>GX.lk.ZZ x (by rw[← e] at h;exact h)⟩
    ·exact⟨(GX.inn _ h).2,(GX.inn _ h).1,fun e=>GX.lk.ZZ x (by rw[← e] at h;exact h)⟩
   have t:=SX.tie hx.1 hx.2.1 hx.2.2
   rw[dH.mpr h] at t
   exact dH.mp t.symm
  exact⟨both GA S,both GB S.symm⟩
 ·have c:=(ug GA.nd).mp S.cr
  have one:∀ {X Y:List Ar},Gd names X→(∀ a∈names,∀ m∈names,∀ b∈names,a≠b→pM X a m b=pM Y a m b)→(a,m)∈X∧(b,m)∈X∧¬ (a,b)∈X∧¬ (b,a)∈X→(a,m)∈Y∧(b,m)∈Y∧¬ (a,b)∈Y∧¬ (b,a)∈Y:=fun {X Y} GX hc h=>by
   have:=hc a (GX.inn _ h.1).1 m (GX.inn _ h.1).2 b (GX.inn _ h.2.1).1 nab
   rw[qM.mpr h] at this
   exact qM.mp this.symm
  exact⟨one GA c,one GB fun a ha m hm b hb nab=>(c a ha m hm b hb nab).symm⟩
 ·have:=k0 _ (inD u v h1 h2)
  simp only at this
  rw[e1];exact this
 ·have h1':(u,p0.2)∈A:=by rw[← e1];exact h1
  have h2':(p0.2,u)∈B:=by rw[← e1];exact h2
  have:=k1 (u,p0.2) (List.mem_filter.mpr ⟨inD u p0.2 h1' h2',decide_eq_true rfl⟩)
  simp only at this
  omega
def W4(A B:List Ar):Nat:=(A.filter fun p=>!decide (p∈B)).length
theorem QQ(A:List Ar):W4 A A=0:=by
 unfold W4
 rw[List.filter_eq_nil_iff.mpr fun p hp=>by rw[decide_eq_true hp];simp];rfl
theorem Sm.Gs{names:List Str}{A B:List Ar}(GA:Gd names A)(GB:Gd names B)(S:Sm names A B){p:Ar}(hp:p∈A)(hn:p∉B):W4 A B=W4 (m7 names (pK p A)) B+1:=by
 unfold W4
 have hb:=S.inB GA GB hp hn
 have mp:p∈A.filter fun q=>!decide (q∈B):=List.mem_filter.mpr ⟨hp,by rw[decide_eq_false hn];rfl⟩
 have nd1:(A.filter fun q=>!decide (q∈B)).Nodup:=GA.nodup.filter _
 have pm:((m7 names (pK p A)).filter fun q=>!decide (q∈B)).Perm ((A.filter fun q=>!decide (q∈B)).erase p):=by
  refine jU ((uL GA.nd GA.le _).filter _) (nd1.erase p) fun q=>?_
  rw[nd1.mem_erase_iff,List.mem_filter,List.mem_filter,GA.tV hp]
  constructor
  ·rintro ⟨(⟨h1,h2⟩|rfl),h3⟩
   ·exact⟨h2,h1,h3⟩
   ·rw[decide_eq_true hb] at h3;cases h3
  ·rintro ⟨h1,h2,h3⟩
   exact⟨.inl ⟨h2,h1⟩,h3⟩
 rw[pm.length_eq,List.length_erase_of_mem mp]
 have:0 < (A.filter fun q=>!decide (q∈B)).length:=List.length_pos_of_mem mp
 omega
theorem Sm.QM{names:List Str}{A B:List Ar}(GA:Gd names A)(GB:Gd names B)(S:Sm names A B)(h:W4 A B=0):A=B:=Classical.byContradiction fun ne=>by
 obtain⟨p,h1,_,h3⟩:=S.step GA GB ne
 rw[S.Gs GA GB h1 h3] at h;omega
end Mr
namespace Mr
open PySem Mi
open My (words lV bU)
theorem T5(xs ys:List Str):vZ (fB xs) (fB ys)=.ok (.bl (!decide (xs=ys))):=by
 unfold vZ fB
 rw[aq (by simp),cU,rT]
theorem KR(xs ys:List Ar):iV (cI xs) (cI ys)=.ok (.bl (decide (xs=ys))):=by
 unfold iV cI
 rw[aq (by rw[DK];have:=nO xs;omega),cU,z9]
def VR(names:List Str)(A B:List Ar):Bool:=decide (zG names A=zG names B) && decide (jH names A=jH names B)
theorem Cz{names:List Str}{A B:List Ar}:VR names A B=true↔Sm names A B:=by
 unfold VR
 rw[Bool.and_eq_true,decide_eq_true_iff,decide_eq_true_iff]
 exact⟨fun h=>⟨h.1,h.2⟩,fun h=>⟨h.ti,h.cr⟩⟩
theorem JT{names:List Str}{A B:List Ar}(GA:Gd names A)(GB:Gd names B):fM [.d (aW names A),.d (aW names B)]=.ok (.d (.bl (VR names A B))):=by
 unfold fM yS
 rw[Ji]
 rw[show ([some (W.d (aW names A)),some (W.d (aW names B))]++List.replicate (2 - 2) none)=[some (W.d (aW names A)),some (W.d (aW names B))] from rfl]
 have hr:dz [.d (aW names A),.d (aW names B)]=.ok (.d .non):=by
  unfold dz jN
  rw[Ji]
  rw[(jm (bR ((aB (aB rfl rfl (Kq names A)) (aB rfl rfl (Kq names B)) (T5 names names)).trans (by rw[decide_eq_true rfl];rfl))))]
  rfl
 rw[aH (QG (call2 rfl rfl hr))]
 rw[eQ (dw (wR (aB (lR rfl (JH GA.le)) (lR rfl (JH GB.le)) (KR _ _)) fun _=>aB (lR rfl (yN GA.nt)) (lR rfl (yN GB.nt)) (Az _ _)))]
 rfl
theorem Lk.pK{names:List Str}{L:List Ar}(G:Lk names L){p:Ar}(hp:p∈L)(hc:cov L p=true):Lk names (Mr.pK p L):=by
 have inn:∀ q∈Mr.pK p L,q.1∈names∧q.2∈names:=fun q hq=>by
  rcases (tX hp).mp hq with ⟨h1,_⟩|rfl
  ·exact G.inn q h1
  ·exact⟨(G.inn _ hp).2,(G.inn _ hp).1⟩
 refine⟨G.nd,G.le,by rw[Ku];exact G.al,inn,Fj (names:=names) inn ?_,?_⟩
 ·have:=xr G.nd G.inn G.rk (t:=p.1) (h:=p.2) hp
  rw[show jx (bO L p.2) (bO L p.1++[p.1])=true from hc] at this
  have:=this.symm
  rw[Bool.and_eq_true,Bool.not_eq_true'] at this
  exact this.1
 ·unfold Mr.pK
  refine List.pairwise_map.mpr (G.nda.imp_of_mem fun {a b} ha hb ne z=>?_)
  have th:∀ q∈L,q≠(p.2,p.1):=fun q hq e=>by
   obtain⟨k,hk⟩:=G.rk
   have h1:=hk _ hp
   have h2:=hk _ hq
   rw[e] at h2
   simp only at h2
   omega
  by_cases e1:a=p<;>by_cases e2:b=p
  ·exact ne (e1.trans e2.symm)
  ·rw[if_pos e1,if_neg e2,e1] at z
   exact th b hb z.symm
  ·rw[if_neg e1,if_pos e2,e2] at z
   exact th a ha z
  ·rw[if_neg e1,if_neg e2] at z
   exact ne z
end Mr
namespace Mr
open PySem Mi
open My (words lV bU)
theorem Bx.gd{names:List Str}{A:List Ix}{r:Nat→Int}(N:Bx names A r)(hw:∀ x∈names,jX [.d (.str x)]=.ok (.d (.bl true))):Gd names (A.map (arrOf names)):=by
 refine⟨N.nd,N.pos,N.le,N.yo.rk,?_,hw⟩
 rw[← Ko]
 congr 1
 refine(vK (fun p:Ix=>p.1 * 8+p.2) _ _ ?_ ?_ fun p=>?_)
 ·unfold ixs
  have h8:=N.le
  rw[List.pairwise_flatMap]
  refine⟨fun i _=>?_,?_⟩
  ·rw[List.pairwise_map]
   refine(List.Pairwise.filter _ List.pairwise_lt_range).imp fun {a b} h=>?_
   show i * 8+a < i * 8+b
   omega
  ·refine List.pairwise_lt_range.imp fun {a b} h=>?_
   intro x hx y hy
   obtain⟨j,hj,rfl⟩:=List.mem_map.mp hx
   obtain⟨j',_,rfl⟩:=List.mem_map.mp hy
   have:=List.mem_range.mp (List.mem_filter.mp hj).1
   show a * 8+j < b * 8+j'
   omega
 ·refine N.m7.imp_of_mem fun {p q} hp hq h=>?_
  have h1:=(N.all p hp).2.1
  have h8:=N.le
  rcases h with h|⟨e,h⟩
  ·show p.1 * 8+p.2 < q.1 * 8+q.2
   omega
  ·show p.1 * 8+p.2 < q.1 * 8+q.2
   omega
 ·rw[Dg]
  constructor
  ·rintro ⟨h1,h2,h3⟩
   obtain⟨q,hq,e⟩:=List.mem_map.mp h3
   have e1:=oH N.nd (N.all q hq).1 h1 (congrArg Prod.fst e)
   have e2:=oH N.nd (N.all q hq).2.1 h2 (congrArg Prod.snd e)
   have:q=p:=Prod.ext e1 e2
   rw[← this];exact hq
  ·exact fun h=>⟨(N.all p h).1,(N.all p h).2.1,List.mem_map.mpr ⟨p,h,rfl⟩⟩
end Mr
namespace Mr
open PySem Mi
open My (words lV bU)
end Mr
namespace Mr
open PySem Mi
def rk(r:List Str):List Ky:=r.map Sum.inr
abbrev Tld:=List (Ar×D)
def Z7(told:Tld):List Ar:=told.map (·.1)
end Mr
namespace Mr
open PySem Mi
structure Dc(names:List Str)(A:List Ar)(KT KC:List (List Str)):Prop where
 kt:∀ a∈names,∀ b∈names,a≠b→([a,b]∈KT↔tie A a b=true)
 ktm:∀ k∈KT,∃ a b,k=[a,b]∧a∈names∧b∈names∧a≠b∧tie A a b=true
 kc:∀ a∈names,∀ m∈names,∀ b∈names,[a,m,b]∈KC↔a≠b∧pM A a m b=true
def rw4(t h s:Str)(x:List Str):D:=.tup [.str t,.str h,.str s,.tup (x.map D.str)]
inductive Rl(names:List Str)(A P:List Ar)(t h:Str):Str→List Str→Prop
 | aaC {z:Str} (zn:z∈names) (ne:t≠z) (c:pM A t h z=true):Rl names A P t h "corner" [z]
 | on {z:Str} (zn:z∈names) (ne:z≠h) (nt:tie A z h=false) (nc:pM A z t h=false) (p:(z,t)∈P):Rl names A P t h "on" [z]
 | over {z:Str} (zn:z∈names) (p:(t,z)∈P) (q:(z,h)∈P):Rl names A P t h "over" [z]
 | both {z w:Str} (zn:z∈names) (wn:w∈names) (ne:z≠w) (nt:tie A z w=false) (nc:pM A z t w=false) (t1:tie A z t=true) (t2:tie A w t=true) (p:(z,h)∈P) (q:(w,h)∈P):Rl names A P t h "both" [z,w]
section
variable{names:List Str}{A:List Ar}{KT KC:List (List Str)}(N:Nt names A)(D':Dc names A KT KC){told:Tld}(ht:∀ p∈Z7 told,p∈A){t h:Str}(tn:t∈names)(hn:h∈names)(th:tie A t h=true)
theorem UW{A:List Ar}(R:Rk A){a b:Str}(h:(a,b)∈A):(b,a)∉A:=fun z=>by
 obtain⟨r,hr⟩:=R
 have h1:=hr _ h
 have h2:=hr _ z
 simp only at h1 h2;omega
include N D' tn hn th in
include N D' ht tn hn th in
include N ht th in
include N D' ht tn hn th in
end
end Mr
namespace Mr
open PySem Mi
end Mr
namespace Mr
open PySem Mi
structure Gt(names:List Str)(A:List Ar)(told:Tld):Prop where
 nd:(Z7 told).Nodup
 sub:∀ p∈Z7 told,p∈A
 ord:∀ i q,told[i]? = some q→∃ s x,q.2=rw4 q.1.1 q.1.2 s x∧Rl names A (Z7 (told.take i)) q.1.1 q.1.2 s x
end Mr
namespace Mr
open PySem Mi
theorem O3{names:List Str}(nd:names.Nodup){a b:Str}(h:(a,b)∈prs names):a∈names∧b∈names∧a≠b:=by
 obtain⟨k,hk,rfl,hb⟩:=j9.mp h
 exact⟨mq hk,(wX nd hk hb).1,(wX nd hk hb).2⟩
theorem tW{names:List Str}{A:List Ar}{p:Ar}:p∈zG names A↔p∈prs names∧tie A p.1 p.2=true:=List.mem_filter
def Wu(T P:List Ar):List Ar:=T.filter fun p=>!decide (p∈P) && !decide ((p.2,p.1)∈P)
end Mr
namespace Mr
open PySem Mi
end Mr
namespace Mr
open PySem Mi
end Mr
namespace Mr
open PySem Mi
def Vf(names:List Str)(p:Ar):Ar:=if p∈prs names then p else (p.2,p.1)
theorem O5{names:List Str}(nd:names.Nodup){a b:Str}(h:(a,b)∈prs names):(b,a)∉prs names:=fun z=>by
 obtain⟨k,hk,rfl,hb⟩:=j9.mp h
 obtain⟨j,hj,rfl,ha⟩:=j9.mp z
 have h1:=(yK nd hb).1
 have h2:=(yK nd ha).1
 rw[t7 nd hj] at h1
 rw[t7 nd hk] at h2
 omega
theorem Sx{names:List Str}{A:List Ar}(R:Rk A){p q:Ar}(hp:p∈A)(hq:q∈A)(h:Vf names p=Vf names q):p=q:=by
 unfold Vf at h
 split at h<;>split at h
 ·exact h
 ·subst h;exact absurd hp (UW R (a:=q.1) (b:=q.2) hq)
 ·subst h;exact absurd hq (UW R (a:=p.1) (b:=p.2) hp)
 ·rw[Prod.ext_iff] at h
  exact Prod.ext h.2 h.1
theorem J6{names:List Str}{A:List Ar}(N:Nt names A){P:List Ar}(sub:∀ p∈P,p∈A)(q:Ar):q∈P.map (Vf names)↔q∈zG names A∧(q∈P∨(q.2,q.1)∈P):=by
 constructor
 ·intro h
  obtain⟨p,hp,rfl⟩:=List.mem_map.mp h
  obtain⟨n1,n2⟩:=N.inn p (sub p hp)
  have ne:p.1≠p.2:=fun z=>by
   obtain⟨r,hr⟩:=N.rk
   have:=hr p (sub p hp)
   rw[z] at this;omega
  unfold Vf
  split
  ·rename_i hm
   exact⟨tW.mpr ⟨hm,dH.mpr (.inl (sub p hp))⟩,.inl hp⟩
  ·rename_i hm
   have:(p.2,p.1)∈prs names:=(oF n1 n2 ne).resolve_left hm
   exact⟨tW.mpr ⟨this,dH.mpr (.inr (sub p hp))⟩,.inr hp⟩
 ·rintro ⟨h1,h2|h2⟩
  ·exact List.mem_map.mpr ⟨q,h2,by unfold Vf;rw[if_pos (tW.mp h1).1]⟩
  ·exact List.mem_map.mpr ⟨(q.2,q.1),h2,by unfold Vf;rw[if_neg (O5 N.nd (a:=q.1) (b:=q.2) (tW.mp h1).1)]⟩
theorem N6{names:List Str}(nd:names.Nodup)(A:List Ar):(zG names A).Nodup:=(O4 nd).filter _
theorem Qa{names:List Str}{A P:List Ar}(R:Rk A)(nd:P.Nodup)(sub:∀ p∈P,p∈A):(P.map (Vf names)).Nodup:=List.pairwise_map.mpr (nd.imp_of_mem fun {p q} hp hq ne e=>ne (Sx R (sub p hp) (sub q hq) e))
theorem HR{names:List Str}{A P:List Ar}(G:Gd names A)(nd:P.Nodup)(sub:∀ p∈P,p∈A):(m7 names P).length=P.length:=(jU (uL G.nd G.le P) nd fun p=>by
 rw[oJ]
 exact⟨fun h=>h.1,fun h=>⟨h,G.inn p (sub p h)⟩⟩).length_eq
theorem GD{names:List Str}{A P:List Ar}(G:Gd names A)(nd:P.Nodup)(sub:∀ p∈P,p∈A):(m7 names P).length+(Wu (zG names A) P).length=A.length:=by
 have a1:A.length=(zG names A).length:=by
  have:=(jU (Qa (names:=names) G.rk G.nodup fun p h=>h) (N6 G.nd A) fun q=>by
   rw[J6 G.nt (fun p h=>h) q]
   exact⟨fun h=>h.1,fun h=>⟨h,dH.mp (tW.mp h).2⟩⟩).length_eq
  rw[List.length_map] at this;exact this
 have a2:P.length=((zG names A).filter fun p=>decide (p∈P) || decide ((p.2,p.1)∈P)).length:=by
  have:=(jU (m:=(zG names A).filter fun p=>decide (p∈P) || decide ((p.2,p.1)∈P)) (Qa (names:=names) G.rk nd sub) ((N6 G.nd A).filter _) fun q=>by
   rw[J6 G.nt sub q,List.mem_filter,Bool.or_eq_true,decide_eq_true_eq,decide_eq_true_eq]).length_eq
  rw[List.length_map] at this;exact this
 have a3:=HR G nd sub
 have a4:∀ T:List Ar,(T.filter fun p=>decide (p∈P) || decide ((p.2,p.1)∈P)).length+(Wu T P).length=T.length:=fun T=>by
  unfold Wu
  induction T with
  | nil=>rfl
  | cons x r ih =>
   rw[List.filter_cons,List.filter_cons]
   by_cases h1:x∈P<;>by_cases h2:(x.2,x.1)∈P<;>simp[h1,h2]<;>omega
 have:=a4 (zG names A)
 omega
end Mr
namespace Mr
open PySem Mi
end Mr
namespace Mr
open PySem Mi
section
variable{names:List Str}{A L:List Ar}{c n:Int}
abbrev inB:S:=(aY (bw 8 (mN mR [(m2 bz (bN [some 6,none,none] (ie (mV 3)) (.t [1,2]) (cB (m2 iV (mV 2) (mV 0))) (mV 1)) (mN d9 [(mV 6)]))]))
 (jP (cB (m2 iV (mV 8) (mN mR [(bN [some 7,none,none] (ie (mV 3)) (.t [1,2]) (cB (m2 iV (mV 2) (mV 0))) (mV 1))])))
 (bJ 5 (mN dTup [(mV 6),(mV 7)]))
 bT))
end
end Mr
namespace Mr
open PySem Mi
open My (words lV bU)
end Mr
namespace Mr
open PySem Mi
open My (words lV bU)
end Mr
namespace Mr
open PySem Mi
end Mr
namespace Mr
open PySem Mi
open My (words lV bU)
end Mr
namespace Mr
open PySem Mi
open PySem.Builtin PySem.Builtin.Str
def cl(x:Str):List Nat:=x.cps.toList
end Mr
namespace Mr
open PySem Mi
open My (words lV bU)
def Wd(x:Str):Prop:=∃ l,x=S' l∧lV l
theorem Wd.ok{x:Str}(h:Wd x):jX [.d (.str x)]=.ok (.d (.bl true)):=by obtain⟨l,rfl,w⟩:=h;exact RL w
def shS(c:Str)(p:Ar):Str:=aaD [p.1,c,p.2]
def pcs(names:List Str)(xs:List Ar):List Str:=names++[(":" : Str)]++xs.map (shS ">")
def tx(names:List Str)(xs:List Ar):Str:=Str.join " " (pcs names xs)
def nt(names:List Str):List Nat:=names.flatMap fun n=>cl n++[32]
theorem q8{α : Type}{l:List α}{i:Nat}{x:α}(h:l[i]? = some x):l.take (i+1)=l.take i++[x]:=by rw[List.take_succ,h];rfl
end Mr
namespace Mr
open PySem Mi
open My (words lV bU)
end Mr
namespace Vp
section
variable{α : Type}
inductive Up(A:α→α→Prop):α→α→Prop
 | refl (x:α):Up A x x
 | step {x y z:α}:A x y→Up A y z→Up A x z
def Hi(A:α→α→Prop)(T:α→Prop)(x:α):Prop:=∃ y,T y∧Up A x y
theorem Hi.of{A:α→α→Prop}{T:α→Prop}{x:α}(h:T x):Hi A T x:=⟨x,h,.refl x⟩
theorem Hi.up{A:α→α→Prop}{T:α→Prop}{x y:α}(a:A x y)(h:Hi A T y):Hi A T x:=let ⟨z,t,u⟩:=h;⟨z,t,.step a u⟩
theorem Hi.ind{A:α→α→Prop}{T P:α→Prop}(h0:∀ x,T x→P x)(h1:∀ x y,A x y→Hi A T y→P y→P x){x:α}(h:Hi A T x):P x:=by
 obtain⟨z,t,u⟩:=h
 induction u with
 | refl x=>exact h0 x t
 | step a u ih=>exact h1 _ _ a ⟨_,t,u⟩ (ih t)
theorem Up.rank{A:α→α→Prop}{r:α→Int}(hr:∀ x y,A x y→r x < r y){x y:α}(h:Up A x y):r x≤r y:=by
 induction h with
 | refl=>exact Int.le_refl _
 | step a _ ih=>have:=hr _ _ a;omega
def fam(A:α→α→Prop)(n u:α):Prop:=u=n∨A u n
def Ry(A:α→α→Prop)(U:α→Prop)(u v:α):Prop:=∃ n,U n∧fam A n u∧fam A n v
inductive Met(adj:α→α→Prop)(S:α→Prop)(i:α):α→Prop
 | base:Met adj S i i
 | step {u v:α}:Met adj S i u→adj u v→¬ S v→Met adj S i v
theorem Met.mono{adj Zt:α→α→Prop}{S:α→Prop}{i j:α}(h:∀ u v,adj u v→Zt u v)(m:Met adj S i j):Met Zt S i j:=by
 induction m with
 | base=>exact .base
 | step _ a s ih=>exact .step ih (h _ _ a) s
def Tg(i j:α)(S:α→Prop)(x:α):Prop:=x=i∨x=j∨S x
def w6(A:α→α→Prop)(i j:α)(S:α→Prop):Prop:=Met (Ry A (Hi A (Tg i j S))) S i j
structure zj(A B:α→α→Prop)(x y:α):Prop where
 ne:x≠y
 a:A x y
 cov:∀ z,A z y↔z=x∨A z x
 nx:¬ A x x
 b:∀ u v,B u v↔(A u v∧¬ (u=x∧v=y))∨(u=y∧v=x)
section
variable{A B:α→α→Prop}{x y:α}(F:zj A B x y){T:α→Prop}
include F
theorem zj.hi{n:α}(h:Hi A T n):Hi B T n∨(n=x∧Hi B T y):=by
 refine h.ind (P:=fun n=>Hi B T n∨(n=x∧Hi B T y)) (fun z t=>.inl (.of t)) fun n m a hm ih=>?_
 by_cases e:n=x∧m=y
 ·obtain⟨rfl,rfl⟩:=e
  rcases ih with z|⟨z,_⟩
  ·exact .inr ⟨rfl,z⟩
  ·exact absurd z.symm F.ne
 ·have b:B n m:=(F.b n m).mpr (.inl ⟨a,e⟩)
  rcases ih with z|⟨z,w⟩
  ·exact .inl (.up b z)
  ·subst z
   have ay:A n y:=(F.cov n).mpr (.inr a)
   refine .inl (.up ((F.b n y).mpr (.inl ⟨ay,fun q=>?_⟩)) w)
   exact F.nx (by rw[q.1] at a;exact a)
theorem zj.TX{n u:α}(h1:n≠x)(h2:n≠y)(h:fam A n u):fam B n u:=by
 rcases h with z|z
 ·exact .inl z
 ·exact .inr ((F.b u n).mpr (.inl ⟨z,fun q=>h2 q.2⟩))
theorem zj.TQ{u:α}:fam A y u↔u=y∨u=x∨A u x:=by
 unfold fam
 rw[F.cov u]
theorem zj.TV{u:α}(h:fam A y u):fam B x u:=by
 rcases F.TQ.mp h with z|z|z
 ·exact .inr ((F.b u x).mpr (.inr ⟨z,rfl⟩))
 ·exact .inl z
 ·exact .inr ((F.b u x).mpr (.inl ⟨z,fun q=>F.nx (by rw[q.1] at z;exact z)⟩))
theorem zj.Kv{u:α}(h:fam A x u):fam A y u:=by
 rcases h with z|z
 ·exact F.TQ.mpr (.inr (.inl z))
 ·exact F.TQ.mpr (.inr (.inr z))
theorem zj.Vq{u:α}(hu:u≠x)(h:fam A y u):fam B y u:=by
 rcases F.TQ.mp h with z|z|z
 ·exact .inl z
 ·exact absurd z hu
 ·exact .inr ((F.b u y).mpr (.inl ⟨(F.cov u).mpr (.inr z),fun q=>hu q.1⟩))
theorem zj.con{i j:α}{S:α→Prop}(h:w6 A i j S):w6 B i j S:=by
 unfold w6 at h ⊢
 obtain⟨T,hT⟩ : ∃ T,T=Tg i j S:=⟨_,rfl⟩
 rw[← hT] at h ⊢
 have hi:Hi B T i:=.of (by rw[hT];exact .inl rfl)
 have hj:Hi B T j:=.of (by rw[hT];exact .inr (.inl rfl))
 have up:∀ {n},n≠x→Hi A T n→Hi B T n:=fun hn h=>(F.hi h).resolve_right fun q=>hn q.1
 by_cases hx:Hi B T x
 ·refine h.mono fun u v ⟨n,hn,f1,f2⟩=>?_
  by_cases e1:n=y
  ·subst e1
   exact⟨x,hx,F.TV f1,F.TV f2⟩
  ·by_cases e2:n=x
   ·subst e2
    exact⟨_,hx,F.TV (F.Kv f1),F.TV (F.Kv f2)⟩
   ·exact⟨n,up e2 hn,F.TX e2 e1 f1,F.TX e2 e1 f2⟩
 ·have key:∀ v,Met (Ry A (Hi A T)) S i v→(v≠x→Met (Ry B (Hi B T)) S i v)∧(v=x→∃ u,fam B y u∧Met (Ry B (Hi B T)) S i u):=fun v m=>by
   induction m with
   | base=>exact⟨fun _=>.base,fun q=>absurd (by rw[← q];exact hi) hx⟩
   | @step u v mu a sv ih =>
    obtain⟨n,hn,f1,f2⟩:=a
    by_cases e:n=x∨n=y
    ·have hy:Hi B T y:=by
      rcases e with rfl|rfl
      ·rcases F.hi hn with z|z
       ·exact absurd z hx
       ·exact z.2
      ·exact up F.ne.symm hn
     have g1:fam A y u:=e.elim (fun z=>F.Kv (z ▸ f1)) fun z=>z ▸ f1
     have g2:fam A y v:=e.elim (fun z=>F.Kv (z ▸ f2)) fun z=>z ▸ f2
     obtain⟨w,fw,mw⟩ : ∃ w,fam B y w∧Met (Ry B (Hi B T)) S i w:=by
      by_cases eu:u=x
      ·exact ih.2 eu
      ·exact⟨u,F.Vq eu g1,ih.1 eu⟩
     refine⟨fun ev=>.step mw ⟨y,hy,fw,F.Vq ev g2⟩ sv,fun _=>⟨w,fw,mw⟩⟩
    ·have e1:n≠x:=fun z=>e (.inl z)
     have e2:n≠y:=fun z=>e (.inr z)
     have hb:=up e1 hn
     have Sy:∀ w,fam A n w→w≠x:=fun w fw q=>by
      subst q
      rcases fw with z|z
      ·exact e1 z.symm
      ·exact hx (.up ((F.b _ n).mpr (.inl ⟨z,fun q=>e2 q.2⟩)) hb)
     exact⟨fun _=>.step (ih.1 (Sy u f1)) ⟨n,hb,F.TX e1 e2 f1,F.TX e1 e2 f2⟩ sv,fun q=>absurd q (Sy v f2)⟩
  exact(key j h).1 fun q=>hx (by rw[← q];exact hj)
theorem zj.back(ny:¬ A y y)(na:¬ A y x):zj B A y x:=by
 refine⟨F.ne.symm,(F.b y x).mpr (.inr ⟨rfl,rfl⟩),fun z=>?_,fun q=>?_,fun u v=>?_⟩
 ·rw[F.b,F.b,F.cov]
  constructor
  ·rintro (⟨h,_⟩|⟨h,_⟩)
   ·exact .inr (.inl ⟨.inr h,fun q=>F.nx (by rw[q.1] at h;exact h)⟩)
   ·exact .inl h
  ·rintro (h|⟨h,k⟩|⟨_,h⟩)
   ·exact .inr ⟨h,rfl⟩
   ·rcases h with h|h
    ·exact absurd ⟨h,rfl⟩ k
    ·exact .inl ⟨h,fun q=>F.ne q.2⟩
   ·exact absurd h.symm F.ne
 ·rcases (F.b y y).mp q with h|h
  ·exact ny h.1
  ·exact F.ne h.2.symm
 ·rw[F.b]
  constructor
  ·intro h
   by_cases e:u=x∧v=y
   ·exact .inr e
   ·exact .inl ⟨.inl ⟨h,e⟩,fun q=>na (by rw[q.1,q.2] at h;exact h)⟩
  ·rintro (⟨h|h,k⟩|⟨h,k⟩)
   ·exact h.1
   ·exact absurd h k
   ·rw[h,k];exact F.a
end
section
variable{A:α→α→Prop}{r:α→Int}(hr:∀ x y,A x y→r x < r y){i j:α}
theorem T9{S:α→Prop}(hj:¬ S j)(h:A i j∨A j i):w6 A i j S:=by
 refine .step .base ?_ hj
 rcases h with h|h
 ·exact⟨j,.of (.inr (.inl rfl)),.inr h,.inl rfl⟩
 ·exact⟨i,.of (.inl rfl),.inl rfl,.inr h⟩
def Ab(A:α→α→Prop)(i j z:α):Prop:=z≠i∧z≠j∧Hi A (fun w=>w=i∨w=j) z
theorem Qu{z:α}(h:Hi A (Tg i j (Ab A i j)) z):Hi A (fun w=>w=i∨w=j) z:=by
 refine h.ind (fun x t=>?_) fun x y a _ k=>.up a k
 rcases t with t|t|t
 ·exact .of (.inl t)
 ·exact .of (.inr t)
 ·exact t.2.2
include hr in
theorem Hk(ij:i≠j)(n1:¬ A i j)(n2:¬ A j i):¬ w6 A i j (Ab A i j):=fun h=>by
 have key:∀ v,Met (Ry A (Hi A (Tg i j (Ab A i j)))) (Ab A i j) i v→v=i:=fun v m=>by
  induction m with
  | base=>rfl
  | @step u v mu a sv ih =>
   subst ih
   obtain⟨n,hn,f1,f2⟩:=a
   have hv:Hi A (fun w=>w=u∨w=j) v:=by
    rcases f2 with z|z
    ·rw[z];exact Qu hn
    ·exact .up z (Qu hn)
   by_cases e1:v=u
   ·exact e1
   ·by_cases e2:v=j
    ·subst e2
     rcases f1 with z|z
     ·rcases f2 with w|w
      ·exact absurd (z.trans w.symm) ij
      ·exact absurd (by rw[z];exact w) n2
     ·rcases f2 with w|w
      ·exact absurd (by rw[w];exact z) n1
      ·obtain⟨q,hq,up⟩:=Qu hn
       have r1:=hr _ _ z
       have r2:=hr _ _ w
       have r3:=up.rank hr
       rcases hq with rfl|rfl<;>omega
    ·exact absurd ⟨e1,e2,hv⟩ sv
 exact ij (key j h).symm
include hr in
theorem Xk{m:α}(h1:A i m)(h2:A j m):¬ Ab A i j m:=fun ⟨_,_,q,hq,up⟩=>by
 have r1:=hr _ _ h1
 have r2:=hr _ _ h2
 have r3:=up.rank hr
 rcases hq with rfl|rfl<;>omega
theorem Ua{S:α→Prop}{m:α}(hm:¬ S m)(hj:¬ S j)(t1:A i m∨A m i)(t2:A j m∨A m j)(h:A m i∨A m j):w6 A i j S:=by
 have um:Hi A (Tg i j S) m:=by
  rcases h with h|h
  ·exact .up h (.of (.inl rfl))
  ·exact .up h (.of (.inr (.inl rfl)))
 have a1:Ry A (Hi A (Tg i j S)) i m:=by
  rcases t1 with t|t
  ·exact⟨m,um,.inr t,.inl rfl⟩
  ·exact⟨i,.of (.inl rfl),.inl rfl,.inr t⟩
 have a2:Ry A (Hi A (Tg i j S)) m j:=by
  rcases t2 with t|t
  ·exact⟨m,um,.inl rfl,.inr t⟩
  ·exact⟨j,.of (.inr (.inl rfl)),.inr t,.inl rfl⟩
 exact .step (.step .base a1 hm) a2 hj
end
end
end Vp
namespace Mr
open PySem Mi
open Vp
def ar(A:List Ar)(u v:Str):Prop:=(u,v)∈A
theorem pq{A:List Ar}(R:Rk A):∃ r:Str→Int,∀ x y,ar A x y→r x < r y:=let ⟨r,h⟩:=R;⟨r,fun x y a=>h (x,y) a⟩
theorem TJ{names:List Str}{A:List Ar}(G:Gd names A){p:Ar}(hp:p∈A)(hc:cov A p=true):zj (ar A) (ar (m7 names (pK p A))) p.1 p.2:=by
 obtain⟨r,hr⟩:=pq G.rk
 have rp:=hr p.1 p.2 hp
 refine⟨fun e=>by rw[e] at rp;omega,hp,fun z=>?_,fun z=>by have:=hr _ _ z;omega,fun u v=>?_⟩
 ·have:=(uo.mp (show jx (bO A p.2) (bO A p.1++[p.1])=true from hc)) z
  unfold ar
  rw[this]
  exact or_comm
 ·unfold ar
  rw[G.tV hp (u,v)]
  constructor
  ·rintro (⟨h,k⟩|h)
   ·exact .inl ⟨h,fun q=>k (Prod.ext q.1 q.2)⟩
   ·exact .inr ⟨congrArg Prod.fst h,congrArg Prod.snd h⟩
  ·rintro (⟨h,k⟩|⟨h,k⟩)
   ·exact .inl ⟨h,fun q=>k ⟨congrArg Prod.fst q,congrArg Prod.snd q⟩⟩
   ·exact .inr (Prod.ext h k)
theorem Q3{names:List Str}{A:List Ar}(G:Gd names A){p:Ar}(hp:p∈A)(hc:cov A p=true){i j:Str}{S:Str→Prop}:w6 (ar A) i j S↔w6 (ar (m7 names (pK p A))) i j S:=by
 have F:=TJ G hp hc
 obtain⟨r,hr⟩:=pq G.rk
 have rp:=hr p.1 p.2 hp
 exact⟨F.con,(F.back (fun z=>by have:=hr _ _ z;omega) (fun z=>by have:=hr _ _ z;omega)).con⟩
theorem Q4{names:List Str}{B:List Ar}(GB:Gd names B){i j:Str}{S:Str→Prop}:∀ (n:Nat) {A:List Ar},Gd names A→Sm names A B→W4 A B=n→(w6 (ar A) i j S↔w6 (ar B) i j S)
 | 0,A,GA,Sa,h=>by rw[Sa.QM GA GB h]
 | n+1,A,GA,Sa,h=>by
  obtain⟨p,hp,hc,hn⟩:=Sa.step GA GB (fun e=>by rw[e,QQ] at h;cases h)
  have hd:=Sa.Gs GA GB hp hn
  rw[Q3 GA hp hc]
  exact Q4 GB n (GA.pK (t:=p.1) (h:=p.2) hp hc) (Sa.turn GA hp hc) (by omega)
def jK:List Str→List (List Str)
 | []=>[[]]
 | x::r=>jK r++(jK r).map (· ++ [x])
theorem lC:∀ {r l:List Str},l∈jK r→∀ z∈l,z∈r
 | [],l,h,z,hz=>by rw[List.mem_singleton.mp h] at hz;cases hz
 | x::r,l,h,z,hz=>by
  rcases List.mem_append.mp h with h|h
  ·exact List.mem_cons_of_mem _ (lC h z hz)
  ·obtain⟨l',hl,rfl⟩:=List.mem_map.mp h
   rcases List.mem_append.mp hz with hz|hz
   ·exact List.mem_cons_of_mem _ (lC hl z hz)
   ·rw[List.mem_singleton.mp hz];exact List.mem_cons_self
theorem xF:∀ {r l:List Str},r.Nodup→l∈jK r→l.Nodup
 | [],l,_,h=>by rw[List.mem_singleton.mp h];exact .nil
 | x::r,l,nd,h=>by
  have nd:=List.nodup_cons.mp nd
  rcases List.mem_append.mp h with h|h
  ·exact xF nd.2 h
  ·obtain⟨l',hl,rfl⟩:=List.mem_map.mp h
   refine List.nodup_append.mpr ⟨xF nd.2 hl,by simp,fun a ha b hb e=>?_⟩
   rw[List.mem_singleton.mp hb] at e
   exact nd.1 (e ▸ lC hl a ha)
theorem tu(p:Str→Bool):∀ r:List Str,r.reverse.filter p∈jK r
 | []=>List.mem_singleton.mpr rfl
 | x::r=>by
  rw[List.reverse_cons,List.filter_append]
  have ih:=tu p r
  cases h:p x with
  | false =>
   rw[List.filter_cons_of_neg (by rw[h];exact Bool.false_ne_true),List.filter_nil,List.append_nil]
   exact List.mem_append_left _ ih
  | true =>
   rw[List.filter_cons_of_pos h,List.filter_nil]
   exact List.mem_append_right _ (List.mem_map_of_mem ih)
theorem qI:∀ r:List Str,(jK r).length=2 ^ r.length
 | []=>rfl
 | x::r=>by rw[jK,List.length_append,List.length_map,qI r,List.length_cons,Nat.pow_succ];omega
theorem pU:∀ {r l:List Str},l∈jK r→l.length≤r.length
 | [],l,h=>by rw[List.mem_singleton.mp h];exact Nat.le_refl _
 | x::r,l,h=>by
  rw[List.length_cons]
  rcases List.mem_append.mp h with h|h
  ·have:=pU h;omega
  ·obtain⟨l',hl,rfl⟩:=List.mem_map.mp h
   have:=pU hl
   rw[List.length_append,List.length_singleton];omega
def rst(names:List Str)(i j:Str):List Str:=names.filter fun n=>!decide (n=i) && !decide (n=j)
def uG(names:List Str)(i j:Str)(held:List Str):Prop:=(i,j)∈prs names∧held∈jK (rst names i j).reverse
theorem VH{names:List Str}{A B:List Ar}(GA:Gd names A)(GB:Gd names B)(h:∀ i j held,uG names i j held→(w6 (ar A) i j (·∈held)↔w6 (ar B) i j (·∈held))):Sm names A B:=by
 obtain⟨ra,hra⟩:=pq GA.rk
 obtain⟨rb,hrb⟩:=pq GB.rk
 have abl:∀ (A:List Ar),Gd names A→∀ i j,(i,j)∈prs names→∃ held,uG names i j held∧(fun z=>z∈held)=Ab (ar A) i j:=fun A G i j hp=>by
  have:=Classical.propDecidable
  have ms:=tu (fun z=>@decide (Ab (ar A) i j z) (this _)) (rst names i j).reverse
  rw[List.reverse_reverse] at ms
  refine⟨_,⟨hp,ms⟩,?_⟩
  funext z
  unfold rst
  rw[List.mem_filter,List.mem_filter,decide_eq_true_iff]
  refine propext ⟨fun q=>q.2,fun q=>⟨⟨?_,?_⟩,q⟩⟩
  ·obtain⟨w,hw,up⟩:=q.2.2
   obtain⟨m1,m2⟩:=mj hp
   cases up with
   | refl=>rcases hw with rfl|rfl;exact m1;exact m2
   | step a _=>exact(G.inn _ a).1
  ·simp[q.1,q.2.1]
 have nin:∀ {i j held},uG names i j held→i∉held∧j∉held:=fun ⟨_,m⟩ =>
  ⟨fun z=>by have:=lC m _ z;simp[rst] at this,fun z=>by have:=lC m _ z;simp[rst] at this⟩
 have ti1:∀ A B:List Ar,Gd names A→Gd names B→(∀ i j held,uG names i j held→(w6 (ar A) i j (·∈held)↔w6 (ar B) i j (·∈held)))→∀ i j,(i,j)∈prs names→tie A i j=true→tie B i j=true:=fun A B GA GB h i j hp t=>by
  obtain⟨rb,hrb⟩:=pq GB.rk
  obtain⟨held,ask,e⟩:=abl B GB i j hp
  refine Classical.byContradiction fun nt=>?_
  rw[dH] at nt t
  have c:=(h i j held ask).mp (T9 (nin ask).2 t)
  rw[e] at c
  exact Hk hrb (O3 GA.nd hp).2.2 (fun z=>nt (.inl z)) (fun z=>nt (.inr z)) c
 have hs:∀ i j held,uG names i j held→(w6 (ar B) i j (·∈held)↔w6 (ar A) i j (·∈held)):=fun i j held a=>(h i j held a).symm
 have ti:∀ a∈names,∀ b∈names,tie A a b=tie B a b:=fun a ha b hb=>by
  by_cases e:a=b
  ·subst e
   have n1:∀ C:List Ar,Gd names C→tie C a a=false:=fun C G=>by
    obtain⟨r,hr⟩:=pq G.rk
    rw[Bool.eq_false_iff,ne_eq,dH]
    rintro (z|z)<;>(have:=hr _ _ z;omega)
   rw[n1 A GA,n1 B GB]
  ·rcases oF ha hb e with hp|hp
   ·exact Bool.eq_iff_iff.mpr ⟨ti1 A B GA GB h a b hp,ti1 B A GB GA hs a b hp⟩
   ·rw[sZ A,sZ B]
    exact Bool.eq_iff_iff.mpr ⟨ti1 A B GA GB h b a hp,ti1 B A GB GA hs b a hp⟩
 have cr1:∀ A B:List Ar,Gd names A→Gd names B→(∀ i j held,uG names i j held→(w6 (ar A) i j (·∈held)↔w6 (ar B) i j (·∈held)))→(∀ a∈names,∀ b∈names,tie A a b=tie B a b)→∀ i m j,(i,j)∈prs names→m∈names→pM A i m j=true→pM B i m j=true:=fun A B GA GB h ti i m j hp hm c=>by
  obtain⟨ra,hra⟩:=pq GA.rk
  obtain⟨m1,m2⟩:=mj hp
  obtain⟨c1,c2,c3,c4⟩:=qM.mp c
  have nt:¬ tie B i j=true:=by
   rw[← ti i m1 j m2,dH]
   rintro (z|z)
   ·exact c3 z
   ·exact c4 z
  have t1:tie B i m=true:=by rw[← ti i m1 m hm,dH];exact .inl c1
  have t2:tie B j m=true:=by rw[← ti j m2 m hm,dH];exact .inl c2
  obtain⟨held,ask,e⟩:=abl A GA i j hp
  refine Classical.byContradiction fun nc=>?_
  have or_:ar B m i∨ar B m j:=by
   rcases dH.mp t1 with z|z
   ·rcases dH.mp t2 with w|w
    ·refine absurd (qM.mpr ⟨z,w,fun q=>nt (dH.mpr (.inl q)),fun q=>nt (dH.mpr (.inr q))⟩) nc
    ·exact .inr w
   ·exact .inl z
  have nm:m∉held:=fun q=>by
   have q:(fun z=>z∈held) m:=q
   rw[e] at q
   exact Xk hra c1 c2 q
  have cb:w6 (ar B) i j (·∈held):=Ua nm (nin ask).2 (dH.mp t1) (dH.mp t2) or_
  have ca:=(h i j held ask).mpr cb
  rw[e] at ca
  exact Hk hra (O3 GA.nd hp).2.2 c3 c4 ca
 refine Sm.of GA.nd ti ((ug GA.nd).mpr fun a ha m hm b hb ne=>?_)
 have ti':∀ a∈names,∀ b∈names,tie B a b=tie A a b:=fun a ha b hb=>(ti a ha b hb).symm
 rcases oF ha hb ne with hp|hp
 ·exact Bool.eq_iff_iff.mpr ⟨cr1 A B GA GB h ti a m b hp hm,cr1 B A GB GA hs ti' a m b hp hm⟩
 ·rw[uh A,uh B]
  exact Bool.eq_iff_iff.mpr ⟨cr1 A B GA GB h ti b m a hp hm,cr1 B A GB GA hs ti' b m a hp hm⟩
theorem VG{names:List Str}{A B:List Ar}(GA:Gd names A)(GB:Gd names B):Sm names A B↔∀ i j held,uG names i j held→(w6 (ar A) i j (·∈held)↔w6 (ar B) i j (·∈held)) :=
 ⟨fun S i j held _=>Q4 GB _ GA S rfl,VH GA GB⟩
end Mr
namespace Mr
open PySem Mi
end Mr
namespace Mr
open PySem Mi
end Mr
namespace Mr
open PySem Mi
open My (bU)
def W3(fs:List Str)(g:Str→D):W:=.dk (fs.map fun y=>((Sum.inr y:Ky),g y))
theorem XH(g:Str→D)(y:Str):∀ {fs:List Str},y∈fs→wG (fs.map fun y=>((Sum.inr y:Ky),g y)) (Sum.inr y)=some (g y)
 | [],h=>nomatch h
 | a::r,h=>by
  unfold wG
  rw[List.map_cons,List.find?_cons]
  by_cases q:a=y
  ·subst q
   rw[decide_eq_true rfl];rfl
  ·rw[decide_eq_false (fun z:(Sum.inr a:Ky)=Sum.inr y=>q (Sum.inr.inj z))]
   have ih:=XH g y (fs:=r) ((List.mem_cons.mp h).resolve_left (Ne.symm q))
   unfold wG at ih
   exact ih
theorem W5{i:Nat}{k:E}{e:Mi.Env}{fs:List Str}{g:Str→D}{y:Str}(hk:k e=.ok (.str y))(hw:wV i e=.ok (W3 fs g))(hy:y∈fs):rB i k e=.ok (g y):=by
 unfold rB;rw[hk,aG,hw,aG]
 show (Rs.ok (wG (fs.map fun y=>((Sum.inr y:Ky),g y)) (Sum.inr y))).bind pJ=_
 rw[XH g y hy];rfl
theorem JL{m:S}{e:Mi.Env}{w:W}(h:m e=.ok (.rt w)):UL m e=.ok (.rt w):=by unfold UL;rw[h]
end Mr
namespace Mr
open PySem Mi
open Vp
structure GoodR(names:List Str)(R:Str→Prop)(met:List Str):Prop where
 nd:met.Nodup
 sub:∀ y∈met,y∈names
 r:∀ y∈met,R y
theorem GoodR.add{names:List Str}{R:Str→Prop}{met more:List Str}(g:GoodR names R met)(nd:more.Nodup)(h:∀ y∈more,y∉met∧y∈names∧R y):GoodR names R (met++more):=by
 refine⟨List.nodup_append.mpr ⟨g.nd,nd,fun a ha b hb e=>(h b hb).1 (e ▸ ha)⟩,fun y hy=>?_,fun y hy=>?_⟩
 ·rcases List.mem_append.mp hy with z|z
  ·exact g.sub y z
  ·exact(h y z).2.1
 ·rcases List.mem_append.mp hy with z|z
  ·exact g.r y z
  ·exact(h y z).2.2
theorem GoodR.len{names:List Str}{R:Str→Prop}{met:List Str}(g:GoodR names R met):met.length≤names.length:=dZ g.nd g.sub
def Xm(A:List Ar)(met:List Str):Prop:=∀ p∈A,p.2∈met→p.1∈met
theorem Tu{names:List Str}{A:List Ar}(N:Nt names A){some_:List Str}(nd:some_.Nodup)(sub:∀ x∈some_,x∈names) :
 ∃ met,qm [.d (aW names A),.d (aL some_)]=.ok (.d (aL met))∧GoodR names (Hi (ar A) (·∈some_)) met∧∀ y,y∈met↔Hi (ar A) (·∈some_) y:=by
 obtain⟨R,hR⟩ : ∃ R,R=Hi (ar A) (·∈some_):=⟨_,rfl⟩
 have n8:=N.le
 have all:∀ met,Xm A met→(∀ y∈some_,y∈met)→∀ y,R y→y∈met:=fun met hc hs y h=>by
  rw[hR] at h
  exact h.ind (fun x t=>hs x t) fun x y a _ ih=>hc (x,y) a ih
 have inner:∀ (met:List Str) (o3 o4 o5:Option W),GoodR names R met→(∀ y∈some_,y∈met)→∃ (gJ:List Str) (p4 p5:Option W),qw (.t [4,5]) (jP (fU (cB (m2 kO (mV 5) (mV 2))) (cB (m2 dF (mV 4) (mV 2)))) (bJ 2 (mV 4)) bT) (A.map pairD)
  [some (.d (aW names A)),some (.d (aL some_)),some (.d (aL met)),o3,o4,o5]=.ok (.nx [some (.d (aW names A)),some (.d (aL some_)),some (.d (aL gJ)),o3,p4,p5])∧GoodR names R gJ∧(∀ y∈some_,y∈gJ)∧(met.length < gJ.length∨(gJ=met∧Xm A met)):=by
  intro met o3 o4 o5 g hs
  obtain⟨e',f1,gJ,p4,p5,he,g',hs',hc⟩:=dW (tg:=.t [4,5]) (body:=(jP (fU (cB (m2 kO (mV 5) (mV 2))) (cB (m2 dF (mV 4) (mV 2)))) (bJ 2 (mV 4)) bT))
   (fun i e=>∃ (gJ:List Str) (o4 o5:Option W),e=[some (.d (aW names A)),some (.d (aL some_)),some (.d (aL gJ)),o3,o4,o5]∧GoodR names R gJ∧(∀ y∈some_,y∈gJ)∧(met.length < gJ.length∨(gJ=met∧∀ j p,j < i→A[j]? = some p→p.2∈met→p.1∈met))) (A.map pairD) 0 (fun i d e hi ⟨m1,o4,o5,he,g1,hs1,hc⟩=>by
    subst he
    rw[Nat.zero_add] at hc ⊢
    rw[List.getElem?_map] at hi
    obtain⟨p,hp,rfl⟩:=Option.map_eq_some_iff.mp hi
    have hpm:=List.mem_of_getElem? hp
    have hl8:=g1.len
    have c1:fU (cB (m2 kO (mV 5) (mV 2))) (cB (m2 dF (mV 4) (mV 2))) [some (.d (aW names A)),some (.d (aL some_)),some (.d (aL m1)),o3,some (.d (.str p.1)),some (.d (.str p.2))]=.ok (decide (p.2∈m1) && !decide (p.1∈m1)):=mF (bR (aB rfl rfl (wY _ _))) fun _=>bR (aB rfl rfl (oW _ _))
    by_cases hb:p.2∈m1∧p.1∉m1
    ·rw[decide_eq_true hb.1,decide_eq_false hb.2] at c1
     refine⟨[some (.d (aW names A)),some (.d (aL some_)),some (.d (aL m1)),o3,some (.d (.str p.1)),some (.d (.str p.2))],[some (.d (aW names A)),some (.d (aL some_)),some (.d (aL (m1++[p.1]))),o3,some (.d (.str p.1)),some (.d (.str p.2))],rfl,?_,m1++[p.1],_,_,rfl,g1.add (by simp) (fun y hy=>?_),fun y hy=>List.mem_append_left _ (hs1 y hy),.inl ?_⟩
     ·rw[jM c1,jo (d:=.str p.1) (ds:=m1.map D.str) rfl rfl (by rw[List.length_map];omega)]
      show Rs.ok (Out.nx [_,_,some (W.d (D.lst (m1.map D.str++[.str p.1]))),_,_,_])=_
      rw[Od]
     ·rw[List.mem_singleton.mp hy]
      refine⟨hb.2,(N.inn p hpm).1,?_⟩
      have:=g1.r _ hb.1
      rw[hR] at this ⊢
      exact .up (show ar A p.1 p.2 from hpm) this
     ·rw[List.length_append]
      rcases hc with h|⟨rfl,_⟩
      ·simp;omega
      ·simp
    ·have cf:(decide (p.2∈m1) && !decide (p.1∈m1))=false:=by
      by_cases h1:p.2∈m1
      ·rw[decide_eq_true (Classical.byContradiction fun z=>hb ⟨h1,z⟩ : p.1∈m1)];simp
      ·rw[decide_eq_false h1];rfl
     rw[cf] at c1
     refine⟨[some (.d (aW names A)),some (.d (aL some_)),some (.d (aL m1)),o3,some (.d (.str p.1)),some (.d (.str p.2))],[some (.d (aW names A)),some (.d (aL some_)),some (.d (aL m1)),o3,some (.d (.str p.1)),some (.d (.str p.2))],rfl,(jm c1).trans rfl,m1,_,_,rfl,g1,hs1,?_⟩
     rcases hc with h|⟨rfl,h⟩
     ·exact .inl h
     ·refine .inr ⟨rfl,fun j q hj hq h1=>?_⟩
      by_cases hji:j=i
      ·subst hji
       rw[hp] at hq;cases hq
       exact Classical.byContradiction fun z=>hb ⟨h1,z⟩
      ·exact h j q (by omega) hq h1) _ ⟨met,o4,o5,rfl,g,hs,.inr ⟨rfl,fun j p h=>absurd h (Nat.not_lt_zero _)⟩⟩
  subst he
  refine⟨gJ,p4,p5,f1,g',hs',?_⟩
  rcases hc with h|⟨h1,h2⟩
  ·exact .inl h
  ·refine .inr ⟨h1,fun p hp h=>?_⟩
   obtain⟨j,hj⟩:=List.getElem?_of_mem hp
   exact h2 j p (by rw[Nat.zero_add,List.length_map];have:=(List.getElem?_eq_some_iff.mp hj).1;omega) hj h
 obtain⟨e',f1,met,o3,o4,o5,he,g,hs,hc⟩:=dW (tg:=.n 3) (body:=(eG (ie (m2 bH (mV 0) (mC (.int 1)))) (.t [4,5]) (jP (fU (cB (m2 kO (mV 5) (mV 2))) (cB (m2 dF (mV 4) (mV 2)))) (bJ 2 (mV 4)) bT)))
  (fun i e=>∃ (met:List Str) (o3 o4 o5:Option W),e=[some (.d (aW names A)),some (.d (aL some_)),some (.d (aL met)),o3,o4,o5]∧GoodR names R met∧(∀ y∈some_,y∈met)∧(i≤met.length∨Xm A met)) (bQ 0 ((names.length:Nat):Int)) 0 (fun i d e hi ⟨met,o3,o4,o5,he,g,hs,hc⟩=>by
   subst he
   rw[Nat.zero_add] at hc ⊢
   obtain⟨gJ,p4,p5,f1,g',hs',hc'⟩:=inner met (some (.d d)) o4 o5 g hs
   refine⟨_,_,rfl,(cP (dg (aB rfl rfl (Th names A)) rfl)).trans f1,gJ,some (.d d),p4,p5,rfl,g',hs',?_⟩
   rcases hc' with h|⟨rfl,h⟩
   ·rcases hc with h1|h1
    ·exact .inl (by omega)
    ·exfalso
     have hxm:∀ y,y∈gJ→y∈met:=fun y hy=>all met h1 hs y (g'.r y hy)
     have:=dZ g'.nd hxm
     omega
   ·exact .inr h) [some (.d (aW names A)),some (.d (aL some_)),some (.d (aL some_)),none,none,none] ⟨some_,none,none,none,rfl,⟨nd,sub,fun y hy=>by rw[hR];exact .of hy⟩,fun y hy=>hy,.inl (Nat.zero_le _)⟩
 subst he
 rw[cF,Nat.zero_add] at hc
 have hcl:Xm A met:=by
  rcases hc with h|h
  ·exact fun p hp _=>Tw g.nd g.sub h _ (N.inn p hp).1
  ·exact h
 refine⟨met,?_,hR ▸ g,fun y=>⟨fun h=>hR ▸ g.r y h,fun h=>all met hcl hs y (hR ▸ h)⟩⟩
 unfold qm G4
 rw[Jh]
 rw[show ([some (W.d (aW names A)),some (W.d (aL some_))]++List.replicate (6 - 2) none)=[some (W.d (aW names A)),some (W.d (aL some_)),none,none,none,none] from rfl]
 rw[aH (e':=[some (W.d (aW names A)),some (W.d (aL some_)),some (W.d (aL some_)),none,none,none]) (aV ((fX (x:=aL some_) rfl).trans rfl))]
 rw[aH ((cP (fY (Qh rfl) (zK names.length n8))).trans f1)]
 rfl
noncomputable def vz (A:List Ar) (i j:Str) (held:List Str):Bool:=@decide (w6 (ar A) i j (·∈held)) (Classical.propDecidable _)
theorem qz{A:List Ar}{i j:Str}{held:List Str}:vz A i j held=true↔w6 (ar A) i j (·∈held):=by unfold vz;exact @decide_eq_true_iff _ (Classical.propDecidable _)
def wW(A:List Ar)(n:Str):List Str:=n::bO A n
theorem wO{A:List Ar}{n u:Str}:u∈wW A n↔fam (ar A) n u:=by
 unfold wW fam ar
 rw[List.mem_cons,iw]
def FmC(A:List Ar)(high held met:List Str):Prop:=∀ n∈high,(∃ u∈wW A n,u∈met)→∀ v∈wW A n,v∉held→v∈met
theorem WX{names:List Str}{A:List Ar}(L:Lk names A)(n:Str):(wW A n).Nodup:=by
 refine List.nodup_cons.mpr ⟨fun z=>?_,L.lu n⟩
 obtain⟨r,hr⟩:=L.rk
 have:=hr _ (iw.mp z)
 simp only at this;omega
theorem W0{i:Nat}{k v:E}{e:Mi.Env}{fs:List Str}{g:Str→D}{y:Str}(hv:v e=.ok (g y))(hk:k e=.ok (.str y))(hw:wV i e=.ok (W3 fs g))(hn:y∉fs)(hl:fs.length≤1000):tQ i k v e=.ok (.nx (e.set i (some (W3 (fs++[y]) g)))):=by
 unfold tQ
 have h1:Zg (W3 fs g) (.str y) (g y)=.ok (W3 (fs++[y]) g):=by
  show aU ((fs.map fun y=>((Sum.inr y:Ky),g y)).length < 16777216) ((pJ (MT (.str y))).bind fun k=>Rs.ok (W.dk (Mi.putK k (g y) (fs.map fun y=>((Sum.inr y:Ky),g y)))))=_
  rw[aq (by rw[List.length_map];omega)]
  show Rs.ok (W.dk (Mi.putK (Sum.inr y:Ky) (g y) (fs.map fun y=>((Sum.inr y:Ky),g y))))=_
  unfold Mi.putK
  rw[if_neg (by
   rw[List.any_map,Bool.not_eq_true,List.any_eq_false]
   intro z hz
   simp only[Function.comp,decide_eq_true_eq]
   exact fun q=>hn (Sum.inr.inj q ▸ hz))]
  unfold W3
  rw[List.map_append];rfl
 rw[hv,aG,hk,aG,hw,aG,h1];rfl
end Mr
namespace Mr
open PySem Mi
open Vp
section
variable{names:List Str}{A:List Ar}{i j:Str}{held high:List Str}
abbrev jY(names:List Str)(A:List Ar)(i j:Str)(held high fs:List Str)(o6 o7 o8 o9:Option W):Mi.Env:=[some (W.d (aW names A)),some (W.d (.str i)),some (W.d (.str j)),some (W.d (aL held)),some (W.d (aL high)),some (W3 fs fun y=>aL (wW A y)),o6,o7,o8,o9]
abbrev R8:S:=(aY (bw 9 (bN [some 7,none] (ie (rB 5 (mV 6))) (.n 1) (cB (m2 kO (mV 1) (mV 0))) (mV 1)))
 (jP (cB (m2 KN (mN fV [(mV 9)]) (mC (.int 0))))
 (bw 7 (m2 bz (mV 7) (bN [some 7,some 3,none] (ie (rB 5 (mV 6))) (.n 2) (fU (cB (m2 dF (mV 2) (mV 0))) (cB (m2 dF (mV 2) (mV 1)))) (mV 2))))
 bT))
theorem QB(L:Lk names A)(nd:high.Nodup)(hl:high.length≤8):∃ o6,qw (.n 6) (tQ 5 (mV 6) (m2 bz (mN d9 [(mV 6)]) (bN [some 6,none,none] (ie (m2 bH (mV 0) (mC (.int 1)))) (.t [1,2]) (cB (m2 iV (mV 2) (mV 0))) (mV 1)))) (high.map D.str) (jY names A i j held high [] none none none none)=.ok (.nx (jY names A i j held high high o6 none none none)):=by
 have al:=L.al
 obtain⟨e',f,o6,he⟩:=dW (tg:=.n 6) (body:=(tQ 5 (mV 6) (m2 bz (mN d9 [(mV 6)]) (bN [some 6,none,none] (ie (m2 bH (mV 0) (mC (.int 1)))) (.t [1,2]) (cB (m2 iV (mV 2) (mV 0))) (mV 1)))))
  (fun n e=>∃ o6:Option W,e=jY names A i j held high (high.take n) o6 none none none) (high.map D.str) 0 (fun n d e hi ⟨o6,he⟩=>by
   subst he
   rw[Nat.zero_add]
   rw[List.getElem?_map] at hi
   obtain⟨x,hx,rfl⟩:=Option.map_eq_some_iff.mp hi
   have cm:dJ (.t [1,2]) (cB (m2 iV (mV 2) (mV 0))) (mV 1) [some (.d (.str x)),none,none] (A.map pairD)=.ok ((A.filter fun p=>decide (p.2=x)).map fun p=>D.str p.1) :=
    cW pairD (fun p=>D.str p.1) (fun p=>decide (p.2=x)) A fun p _=>⟨[some (.d (.str x)),some (.d (.str p.1)),some (.d (.str p.2))],rfl,bR (aB rfl rfl (KQ _ _)),fun _=>rfl⟩
   have ev:m2 bz (mN d9 [(mV 6)]) (bN [some 6,none,none] (ie (m2 bH (mV 0) (mC (.int 1)))) (.t [1,2]) (cB (m2 iV (mV 2) (mV 0))) (mV 1)) (jY names A i j held high (high.take n) (some (.d (.str x))) none none none)=.ok (aL (wW A x)):=by
    refine(aB (x:=aL [x]) (y:=aL (bO A x)) ((fX (x:=.str x) rfl).trans (aq (by show (1:Nat)≤_;decide))) ?_ (sO _ _)).trans ?_
    ·have:=cM (ρ:=[some 6,none,none]) (e:=jY names A i j held high (high.take n) (some (.d (.str x))) none none none) (dg (a:=m2 bH (mV 0) (mC (.int 1))) (aB rfl rfl (Th names A)) rfl) (by rw[List.length_map];omega) cm
     rw[this]
     unfold aL bO
     rw[List.map_map];rfl
    ·have el:=lO (x:=x) al
     rw[aq (by rw[List.length_map,List.length_map];simp only[List.length_singleton];omega)]
     unfold aL wW;rfl
   have pt:=W0 (i:=5) (k:=mV 6) (e:=jY names A i j held high (high.take n) (some (.d (.str x))) none none none) (fs:=high.take n) (g:=fun y=>aL (wW A y)) (y:=x) ev rfl rfl (N7 nd hx) (by rw[List.length_take];omega)
   refine⟨jY names A i j held high (high.take n) (some (.d (.str x))) none none none,jY names A i j held high (high.take (n+1)) (some (.d (.str x))) none none none,rfl,pt.trans ?_,_,rfl⟩
   rw[q8 hx];rfl) (jY names A i j held high [] none none none none) ⟨none,rfl⟩
 subst he
 rw[Nat.zero_add,List.length_map,List.take_length] at f
 exact⟨o6,f⟩
theorem O2(L:Lk names A){R:Str→Prop}(hR:R=Met (Ry (ar A) (·∈high)) (·∈held) i)(hc:Xm A high)(h8:high.length≤8){n:Str}(hn:n∈high){met:List Str}(g:GoodR high R met)(o8 o9:Option W) :
 ∃ gJ o9',R8 (jY names A i j held high high (some (.d (.str n))) (some (.d (aL met))) o8 o9)=.ok (.nx (jY names A i j held high high (some (.d (.str n))) (some (.d (aL gJ))) o8 o9'))∧GoodR high R gJ∧(∀ y∈met,y∈gJ)∧(met.length < gJ.length∨(gJ=met∧((∃ u∈wW A n,u∈met)→∀ v∈wW A n,v∉held→v∈met))):=by
 have al:=L.al
 have fl:(wW A n).length≤100:=by unfold wW;rw[List.length_cons];have:=lO (x:=n) al;omega
 have gl:=g.len
 have it:∀ o9,ie (rB 5 (mV 6)) (jY names A i j held high high (some (.d (.str n))) (some (.d (aL met))) o8 o9)=.ok ((wW A n).map D.str):=fun o9=>dg (x:=aL (wW A n)) (W5 (fs:=high) (g:=fun y=>aL (wW A y)) (y:=n) rfl rfl hn) rfl
 have c1:dJ (.n 1) (cB (m2 kO (mV 1) (mV 0))) (mV 1) [some (.d (aL met)),none] ((wW A n).map D.str)=.ok (((wW A n).filter fun u=>decide (u∈met)).map D.str) :=
  cW D.str D.str _ _ fun u _=>⟨[some (.d (aL met)),some (.d (.str u))],rfl,bR (aB rfl rfl (wY _ _)),fun _=>rfl⟩
 have c2:dJ (.n 2) (fU (cB (m2 dF (mV 2) (mV 0))) (cB (m2 dF (mV 2) (mV 1)))) (mV 2) [some (.d (aL met)),some (.d (aL held)),none] ((wW A n).map D.str)=.ok (((wW A n).filter fun u=>!decide (u∈met) && !decide (u∈held)).map D.str) :=
  cW D.str D.str _ _ fun u _=>⟨[some (.d (aL met)),some (.d (aL held)),some (.d (.str u))],rfl,mF (bR (aB rfl rfl (oW _ _))) fun _=>bR (aB rfl rfl (oW _ _)),fun _=>rfl⟩
 obtain⟨so,hso⟩ : ∃ so,so=(wW A n).filter fun u=>decide (u∈met):=⟨_,rfl⟩
 obtain⟨mo,hmo⟩ : ∃ mo,mo=(wW A n).filter fun u=>!decide (u∈met) && !decide (u∈held):=⟨_,rfl⟩
 rw[← hso] at c1
 rw[← hmo] at c2
 have s9:bw 9 (bN [some 7,none] (ie (rB 5 (mV 6))) (.n 1) (cB (m2 kO (mV 1) (mV 0))) (mV 1)) (jY names A i j held high high (some (.d (.str n))) (some (.d (aL met))) o8 o9)=.ok (.nx (jY names A i j held high high (some (.d (.str n))) (some (.d (aL met))) o8 (some (.d (aL so))))):=aV (cM (ρ:=[some 7,none]) (it o9) (by rw[List.length_map];omega) c1)
 have ct:cB (m2 KN (mN fV [(mV 9)]) (mC (.int 0))) (jY names A i j held high high (some (.d (.str n))) (some (.d (aL met))) o8 (some (.d (aL so))))=.ok (decide ((0:Int) < (so.length:Int))):=bR (aB ((fX (x:=aL so) rfl).trans (by unfold aL;rw[Ag,List.length_map])) rfl (Vn _ 0))
 have mml:mo.length≤100:=by rw[hmo];exact Nat.le_trans (List.length_filter_le _ _) fl
 have s7:bw 7 (m2 bz (mV 7) (bN [some 7,some 3,none] (ie (rB 5 (mV 6))) (.n 2) (fU (cB (m2 dF (mV 2) (mV 0))) (cB (m2 dF (mV 2) (mV 1)))) (mV 2))) (jY names A i j held high high (some (.d (.str n))) (some (.d (aL met))) o8 (some (.d (aL so))))=.ok (.nx (jY names A i j held high high (some (.d (.str n))) (some (.d (aL (met++mo)))) o8 (some (.d (aL so))))):=by
  refine aV ((aB (x:=aL met) (y:=aL mo) rfl (cM (ρ:=[some 7,some 3,none]) (it _) (by rw[List.length_map];omega) c2) (sO _ _)).trans ?_)
  rw[aq (by rw[List.length_map,List.length_map];omega)]
  unfold aL
  rw[List.map_append]
 by_cases h0:(0:Int) < (so.length:Int)
 ·rw[decide_eq_true h0] at ct
  obtain⟨u,hu⟩ : ∃ u,u∈so:=by
   cases so with
   | nil=>simp at h0
   | cons u r=>exact⟨u,List.mem_cons_self⟩
  rw[hso] at hu
  obtain⟨hu1,hu2⟩:=List.mem_filter.mp hu
  have hu2:u∈met:=of_decide_eq_true hu2
  refine⟨met++mo,some (.d (aL so)),(aH s9).trans ((jM ct).trans s7),g.add (by rw[hmo];exact(WX L n).filter _) (fun y hy=>?_),fun y hy=>List.mem_append_left _ hy,?_⟩
  ·rw[hmo] at hy
   obtain⟨y1,y2⟩:=List.mem_filter.mp hy
   simp only[Bool.and_eq_true,Bool.not_eq_true',decide_eq_false_iff_not] at y2
   have fy:=wO.mp y1
   refine⟨y2.1,?_,?_⟩
   ·rcases fy with z|z
    ·rw[z];exact hn
    ·exact hc (y,n) z hn
   ·have:=g.r u hu2
    rw[hR] at this ⊢
    exact .step this ⟨n,hn,wO.mp hu1,fy⟩ y2.2
  ·cases hmo':mo with
   | nil =>
    refine .inr ⟨by simp,fun _ v hv hvh=>Classical.byContradiction fun z=>?_⟩
    have:v∈mo:=by rw[hmo];exact List.mem_filter.mpr ⟨hv,by simp[z,hvh]⟩
    rw[hmo'] at this
    cases this
   | cons a r=>exact .inl (by simp)
 ·rw[decide_eq_false h0] at ct
  refine⟨met,some (.d (aL so)),(aH s9).trans ((jm ct).trans rfl),g,fun y hy=>hy,.inr ⟨rfl,fun ⟨u,hu1,hu2⟩=>?_⟩⟩
  have:u∈so:=by rw[hso];exact List.mem_filter.mpr ⟨hu1,decide_eq_true hu2⟩
  cases so with
  | nil=>cases this
  | cons a r=>simp at h0
theorem Lr(L:Lk names A){R:Str→Prop}(hR:R=Met (Ry (ar A) (·∈high)) (·∈held) i)(hc:Xm A high)(h8:high.length≤8){met:List Str}(g:GoodR high R met)(o6 o8 o9:Option W) :
 ∃ gJ o6' o9',qw (.n 6) R8 (high.map D.str) (jY names A i j held high high o6 (some (.d (aL met))) o8 o9)=.ok (.nx (jY names A i j held high high o6' (some (.d (aL gJ))) o8 o9'))∧GoodR high R gJ∧(∀ y∈met,y∈gJ)∧(met.length < gJ.length∨(gJ=met∧FmC A high held met)):=by
 obtain⟨e',f,gJ,o6',o9',he,g',s',c'⟩:=dW (tg:=.n 6) (body:=R8)
  (fun k e=>∃ (gJ:List Str) (o6 o9:Option W),e=jY names A i j held high high o6 (some (.d (aL gJ))) o8 o9∧GoodR high R gJ∧(∀ y∈met,y∈gJ)∧(met.length < gJ.length∨(gJ=met∧∀ a n,a < k→high[a]? = some n→(∃ u∈wW A n,u∈met)→∀ v∈wW A n,v∉held→v∈met))) (high.map D.str) 0 (fun k d e hi ⟨m1,o6,o9,he,g1,s1,c1⟩=>by
   subst he
   rw[Nat.zero_add] at c1 ⊢
   rw[List.getElem?_map] at hi
   obtain⟨n,hn,rfl⟩:=Option.map_eq_some_iff.mp hi
   obtain⟨m2,o9',st,g2,s2,c2⟩:=O2 (j:=j) L hR hc h8 (List.mem_of_getElem? hn) g1 o8 o9
   refine⟨jY names A i j held high high (some (.d (.str n))) (some (.d (aL m1))) o8 o9,_,rfl,st,m2,_,_,rfl,g2,fun y hy=>s2 y (s1 y hy),?_⟩
   rcases c2 with q|⟨rfl,q⟩
   ·refine .inl ?_
    rcases c1 with z|⟨z,_⟩
    ·omega
    ·rw[← z];exact q
   ·rcases c1 with z|⟨rfl,z⟩
    ·exact .inl z
    ·refine .inr ⟨rfl,fun a n' ha hn'=>?_⟩
     by_cases e:a=k
     ·subst e
      rw[hn] at hn';cases hn'
      exact q
     ·exact z a n' (by omega) hn') (jY names A i j held high high o6 (some (.d (aL met))) o8 o9) ⟨met,o6,o9,rfl,g,fun y hy=>hy,.inr ⟨rfl,fun a n h=>absurd h (Nat.not_lt_zero _)⟩⟩
 subst he
 refine⟨gJ,o6',o9',f,g',s',?_⟩
 rcases c' with z|⟨z,w⟩
 ·exact .inl z
 ·refine .inr ⟨z,fun n hn=>?_⟩
  obtain⟨a,ha⟩:=List.getElem?_of_mem hn
  exact w a n (by rw[Nat.zero_add,List.length_map];exact(List.getElem?_eq_some_iff.mp ha).1) ha
theorem Lx(L:Lk names A)(hi:i∈names)(hj:j∈names)(ij:i≠j)(hs:∀ x∈held,x∈names)(nd:held.Nodup)(ni:i∉held)(nj:j∉held):gF [.d (aW names A),.d (.str i),.d (.str j),.d (aL held)]=.ok (.d (.bl (!vz A i j held))):=by
 have ndS:([i,j]++held).Nodup:=by
  refine List.nodup_append.mpr ⟨by simp[ij],nd,fun a ha b hb e=>?_⟩
  subst e
  rcases List.mem_cons.mp ha with rfl|z
  ·exact ni hb
  ·rw[List.mem_singleton.mp z] at hb;exact nj hb
 have n8:=L.le
 have hl8:held.length≤8:=Nat.le_trans (dZ nd hs) n8
 obtain⟨high,hh,gh,mh⟩:=Tu L.nt (some_:=[i,j]++held) ndS (fun x hx=>by
  rcases List.mem_append.mp hx with z|z
  ·rcases List.mem_cons.mp z with rfl|z
   ·exact hi
   ·rw[List.mem_singleton.mp z];exact hj
  ·exact hs x z)
 have eT:(fun x=>x∈[i,j]++held)=Vp.Tg i j (·∈held):=by
  funext x
  refine propext ?_
  rw[List.mem_append]
  unfold Vp.Tg
  simp only[List.mem_cons,List.not_mem_nil,or_false,or_assoc]
 rw[eT] at mh gh
 have h8:high.length≤8:=Nat.le_trans gh.len n8
 have up:Xm A high:=fun p hp h=>(mh p.1).mpr (.up (show ar A p.1 p.2 from hp) ((mh p.2).mp h))
 have eU:(fun x=>x∈high)=Hi (ar A) (Vp.Tg i j (·∈held)):=by funext x;exact propext (mh x)
 obtain⟨R,hR⟩ : ∃ R,R=Met (Ry (ar A) (·∈high)) (·∈held) i:=⟨_,rfl⟩
 have iR:R i:=by rw[hR];exact .base
 have ih:i∈high:=(mh i).mpr (.of (.inl rfl))
 have all:∀ met,FmC A high held met→i∈met→∀ y,R y→y∈met:=fun met hc hm y h=>by
  rw[hR] at h
  induction h with
  | base=>exact hm
  | step _ a s ih2 =>
   obtain⟨n,hn,f1,f2⟩:=a
   exact hc n hn ⟨_,wO.mpr f1,ih2⟩ _ (wO.mpr f2) s
 obtain⟨o6,ff⟩:=QB (i:=i) (j:=j) (held:=held) L gh.nd h8
 obtain⟨e',f2,met,p6,p8,p9,he,g,hm,hc⟩:=dW (tg:=.n 8) (body:=(eG (ie (mV 4)) (.n 6) R8))
  (fun k e=>∃ (met:List Str) (o6 o8 o9:Option W),e=jY names A i j held high high o6 (some (.d (aL met))) o8 o9∧GoodR high R met∧i∈met∧(k+1≤met.length∨FmC A high held met)) (bQ 0 ((high.length:Nat):Int)) 0 (fun k d e hx ⟨met,o6,o8,o9,he,g,hm,hc⟩=>by
   subst he
   rw[Nat.zero_add] at hc ⊢
   obtain⟨gJ,o6',o9',fr,g',s',c'⟩:=Lr (j:=j) L hR up h8 g o6 (some (.d d)) o9
   refine⟨jY names A i j held high high o6 (some (.d (aL met))) (some (.d d)) o9,_,rfl,(cP (dg (a:=mV 4) (x:=aL high) rfl rfl)).trans fr,gJ,_,_,_,rfl,g',s' i hm,?_⟩
   rcases c' with z|⟨rfl,z⟩
   ·rcases hc with w|w
    ·exact .inl (by omega)
    ·exfalso
     have:=dZ g'.nd (fun y hy=>all met w hm y (g'.r y hy))
     omega
   ·exact .inr z) (jY names A i j held high high o6 (some (.d (aL [i]))) none none) ⟨[i],_,_,_,rfl,⟨by simp,fun y hy=>by rw[List.mem_singleton.mp hy];exact ih,fun y hy=>by rw[List.mem_singleton.mp hy];exact iR⟩,by simp,.inl (by simp)⟩
 subst he
 rw[cF,Nat.zero_add] at hc
 have cl:FmC A high held met:=by
  rcases hc with z|z
  ·have:=g.len;omega
  ·exact z
 have fin:decide (j∈met)=vz A i j held:=by
  rw[Bool.eq_iff_iff,decide_eq_true_iff,qz]
  unfold w6
  rw[← eU,← hR]
  exact⟨g.r j,all met cl hm j⟩
 unfold gF yW
 rw[aaw]
 rw[show ([some (W.d (aW names A)),some (W.d (.str i)),some (W.d (.str j)),some (W.d (aL held))]++List.replicate (10 - 4) none)=[some (W.d (aW names A)),some (W.d (.str i)),some (W.d (.str j)),some (W.d (aL held)),none,none,none,none,none,none] from rfl]
 have l2:m2 bz (mN d9 [(mV 1),(mV 2)]) (mN pH [(mV 3)]) [some (W.d (aW names A)),some (W.d (.str i)),some (W.d (.str j)),some (W.d (aL held)),none,none,none,none,none,none]=.ok (aL ([i,j]++held)):=by
  refine(aB (x:=aL [i,j]) (y:=aL held) (YK rfl rfl) ((fX (x:=aL held) rfl).trans rfl) (sO _ _)).trans ?_
  rw[aq (by rw[List.length_map,List.length_map];simp only[List.length_cons,List.length_nil];omega)]
  rfl
 rw[aH (e':=[some (W.d (aW names A)),some (W.d (.str i)),some (W.d (.str j)),some (W.d (aL held)),some (W.d (aL high)),none,none,none,none,none]) (aV (call2 rfl (dw l2) hh))]
 rw[aH (e':=jY names A i j held high [] none none none none) rfl]
 rw[aH ((cP (dg (a:=mV 4) (x:=aL high) rfl rfl)).trans ff)]
 rw[aH (e':=jY names A i j held high high o6 (some (.d (aL [i]))) none none) (aV (Qe rfl))]
 rw[aH ((cP (fY ((fX (x:=aL high) rfl).trans (by unfold aL;rw[Ag,List.length_map])) (zK high.length h8))).trans f2)]
 rw[eQ (dw (aB rfl rfl (oW met j)))]
 rw[fin];rfl
end
end Mr
namespace Mr
open PySem Mi
open Vp
theorem Qf{rest:List Str}(hl:rest.length≤8):jj [.d (aL rest)]=.ok (.d (.lst ((jK rest.reverse).map aL))):=by
 obtain⟨e',f,o2,he⟩:=dW (tg:=.n 2) (body:=(bw 1 (m2 bz (mV 1) (bN [some 2,none] (ie (mV 1)) (.n 1) gU (m2 bz (mV 1) (mN d9 [(mV 0)]))))))
  (fun n e=>∃ o2:Option W,e=[some (W.d (aL rest)),some (W.d (.lst ((jK (rest.take n).reverse).map aL))),o2]) (rest.map D.str) 0 (fun n d e hi ⟨o2,he⟩=>by
   subst he
   rw[Nat.zero_add]
   rw[List.getElem?_map] at hi
   obtain⟨x,hx,rfl⟩:=Option.map_eq_some_iff.mp hi
   have nl:=(List.getElem?_eq_some_iff.mp hx).1
   obtain⟨F,hF⟩ : ∃ F,F=jK (rest.take n).reverse:=⟨_,rfl⟩
   have fl:F.length≤256:=by
    rw[hF,qI,List.length_reverse,List.length_take]
    have:(2:Nat) ^ min n rest.length≤2 ^ 8:=Nat.pow_le_pow_right (by decide) (by omega)
    exact this
   have sh:∀ l∈F,l.length≤8:=fun l h=>by
    rw[hF] at h
    have:=pU h
    rw[List.length_reverse,List.length_take] at this;omega
   have cm:=cW (tg:=.n 1) (c:=gU) (a:=m2 bz (mV 1) (mN d9 [(mV 0)])) (e:=[some (.d (.str x)),none]) aL (fun l=>aL (l++[x])) (fun _=>true) F fun l hl=>⟨[some (.d (.str x)),some (.d (aL l))],rfl,rfl,fun _=>by
    refine(aB (x:=aL l) (y:=aL [x]) rfl (Qe rfl) (sO _ _)).trans ?_
    have:=sh l hl
    rw[aq (by rw[List.length_map,List.length_map,List.length_singleton];omega)]
    unfold aL
    rw[List.map_append]⟩
   rw[List.filter_eq_self.mpr (fun _ _=>rfl)] at cm
   rw[← hF]
   refine⟨[some (W.d (aL rest)),some (W.d (.lst (F.map aL))),some (W.d (.str x))],[some (W.d (aL rest)),some (W.d (.lst ((jK (rest.take (n+1)).reverse).map aL))),some (W.d (.str x))],rfl,aV ?_,_,rfl⟩
   refine(aB (x:=.lst (F.map aL)) (y:=.lst (F.map fun l=>aL (l++[x]))) rfl (cM (ρ:=[some 2,none]) (dg (a:=mV 1) (x:=.lst (F.map aL)) rfl rfl) (by rw[List.length_map];omega) cm) (sO _ _)).trans ?_
   rw[aq (by rw[List.length_map,List.length_map];omega)]
   rw[q8 hx,List.reverse_append]
   show _=Rs.ok (D.lst ((jK (x::(rest.take n).reverse)).map aL))
   rw[jK,← hF,List.map_append,List.map_map];rfl) [some (W.d (aL rest)),some (W.d (.lst [.lst []])),none] ⟨none,rfl⟩
 subst he
 unfold jj Br
 rw[Qy]
 rw[show ([some (W.d (aL rest))]++List.replicate (3 - 1) none)=[some (W.d (aL rest)),none,none] from rfl]
 rw[aH (e':=[some (W.d (aL rest)),some (W.d (.lst [.lst []])),none]) rfl]
 rw[aH ((cP (dg (a:=mV 0) (x:=aL rest) rfl rfl)).trans f)]
 rw[Nat.zero_add,List.length_map,List.take_length]
 rfl
abbrev Qn:=Str×Str×List Str
def RG(names:List Str)(a b:Str):List Qn:=(jK (rst names a b).reverse).map fun l=>(a,b,l)
def Vb(names:List Str)(k:Nat):List Qn:=(names.drop (k+1)).flatMap fun b=>RG names (nth names k) b
def qs(names:List Str):List Qn:=(List.range names.length).flatMap (Vb names)
theorem PX{names:List Str}{i j:Str}{held:List Str}:(i,j,held)∈qs names↔uG names i j held:=by
 unfold qs uG
 rw[List.mem_flatMap]
 constructor
 ·rintro ⟨k,hk,h⟩
  obtain⟨b,hb,h⟩:=List.mem_flatMap.mp h
  obtain⟨l,hl,e⟩:=List.mem_map.mp h
  cases e
  exact⟨j9.mpr ⟨k,List.mem_range.mp hk,rfl,hb⟩,hl⟩
 ·rintro ⟨h,hl⟩
  obtain⟨k,hk,rfl,hb⟩:=j9.mp h
  exact⟨k,List.mem_range.mpr hk,List.mem_flatMap.mpr ⟨j,hb,List.mem_map.mpr ⟨held,hl,rfl⟩⟩⟩
noncomputable def saD (A:List Ar) (q:Qn):D:=.bl (!vz A q.1 q.2.1 q.2.2)
theorem JV(names:List Str)(a b:Str):(rst names a b).length≤names.length:=List.length_filter_le _ _
theorem R6{names:List Str}(h8:names.length≤8)(a b:Str):(RG names a b).length≤256:=by
 unfold RG
 rw[List.length_map,qI,List.length_reverse]
 have:=JV names a b
 exact Nat.pow_le_pow_right (n:=2) (by decide) (show _≤8 by omega)
theorem JS{names:List Str}{A:List Ar}(L:Lk names A):kj [.d (aW names A)]=.ok (.d (.lst ((qs names).map (saD A)))):=by
 have h8:=L.le
 have x0:∀ o1 o2 o3 o4 o5:Option W,m2 bH (mV 0) (mC (.int 0)) [some (W.d (aW names A)),o1,o2,o3,o4,o5]=.ok (fB names):=fun _ _ _ _ _=>aB rfl rfl (Kq names A)
 have e1:∀ k,(Vb names k).map (saD A)=(names.drop (k+1)).flatMap fun b=>(RG names (nth names k) b).map (saD A):=fun k=>by unfold Vb;rw[c7]
 have e0:(qs names).map (saD A)=(List.range names.length).flatMap fun k=>(Vb names k).map (saD A):=by unfold qs;rw[c7]
 have l1:∀ k,((Vb names k).map (saD A)).length≤2048:=fun k=>by
  rw[e1 k]
  have:=kE (g:=fun b=>(RG names (nth names k) b).map (saD A)) (m:=256) (l:=names.drop (k+1)) fun b _=>by rw[List.length_map];exact R6 h8 _ _
  rw[List.length_drop] at this
  have:(names.length - (k+1)) * 256≤8 * 256:=Nat.mul_le_mul_right _ (by omega)
  omega
 have l0:((List.range names.length).flatMap fun k=>(Vb names k).map (saD A)).length≤16384:=by
  have:=kE (g:=fun k=>(Vb names k).map (saD A)) (m:=2048) (l:=List.range names.length) fun k _=>l1 k
  rw[List.length_range] at this
  have:names.length * 2048≤8 * 2048:=Nat.mul_le_mul_right _ h8
  omega
 obtain⟨e',f,o2,o3,o4,o5,he⟩:=fJ (tg:=.t [2,3]) (body:=(eG (ie (gR vp (m2 bH (mV 0) (mC (.int 0))) (some (m2 bz (mV 2) (mC (.int 1)))) none)) (.n 4)
 (aY (bw 5 (bN [some 3,some 4,none] (ie (m2 bH (mV 0) (mC (.int 0)))) (.n 2) (fU (cB (m2 vZ (mV 2) (mV 0))) (cB (m2 vZ (mV 2) (mV 1)))) (mV 2)))
 (bw 1 (m2 bz (mV 1) (bN [some 0,some 3,some 4,none] (ie (bf jj [(wD (mV 5))])) (.n 3) gU (bf gF [(wD (mV 0)),(wD (mV 1)),(wD (mV 2)),(wD (mV 3))])))))))
  (fun k:Nat=>D.tup [.int (k:Nat),.str (nth names k)]) (fun k=>(Vb names k).map (saD A))
  (fun acc e=>∃ o2 o3 o4 o5:Option W,e=[some (W.d (aW names A)),some (W.d (.lst acc)),o2,o3,o4,o5]) (List.range names.length) [] [some (W.d (aW names A)),some (W.d (.lst [])),none,none,none,none] (by simp only[List.length_nil];omega) ⟨none,none,none,none,rfl⟩
  (fun k hk acc e hl ⟨o2,o3,o4,o5,he⟩=>by
   subst he
   have hk:=List.mem_range.mp hk
   obtain⟨a,ha⟩ : ∃ a,a=nth names k:=⟨_,rfl⟩
   have an:a∈names:=by rw[ha];exact mq hk
   rw[e1 k] at hl ⊢
   obtain⟨e2,f2,o4',o5',he2⟩:=fJ (tg:=.n 4) (body:=(aY (bw 5 (bN [some 3,some 4,none] (ie (m2 bH (mV 0) (mC (.int 0)))) (.n 2) (fU (cB (m2 vZ (mV 2) (mV 0))) (cB (m2 vZ (mV 2) (mV 1)))) (mV 2)))
 (bw 1 (m2 bz (mV 1) (bN [some 0, some 3, some 4, none] (ie (bf jj [(wD (mV 5))])) (.n 3) gU (bf gF [(wD (mV 0)), (wD (mV 1)), (wD (mV 2)), (wD (mV 3))]))))))
    D.str (fun b=>(RG names (nth names k) b).map (saD A))
    (fun acc e=>∃ o4 o5:Option W,e=[some (W.d (aW names A)),some (W.d (.lst acc)),some (W.d (.int (k:Nat))),some (W.d (.str a)),o4,o5]) (names.drop (k+1)) acc [some (W.d (aW names A)),some (W.d (.lst acc)),some (W.d (.int (k:Nat))),some (W.d (.str a)),o4,o5] hl ⟨o4,o5,rfl⟩
    (fun b hb acc e hl ⟨o4,o5,he⟩=>by
     subst he
     obtain⟨bn,ne⟩:=wX L.nd hk hb
     rw[← ha] at ne hl ⊢
     obtain⟨rs,hrs⟩ : ∃ rs,rs=rst names a b:=⟨_,rfl⟩
     have rsl:rs.length≤8:=by rw[hrs];exact Nat.le_trans (JV names a b) h8
     have rin:∀ x∈rs,x∈names∧x≠a∧x≠b:=fun x hx=>by
      rw[hrs] at hx
      unfold rst at hx
      obtain⟨x1,x2⟩:=List.mem_filter.mp hx
      simp only[Bool.and_eq_true,Bool.not_eq_true',decide_eq_false_iff_not] at x2
      exact⟨x1,x2.1,x2.2⟩
     have Hw:rs.Nodup:=by rw[hrs];exact L.nd.filter _
     have c5:dJ (.n 2) (fU (cB (m2 vZ (mV 2) (mV 0))) (cB (m2 vZ (mV 2) (mV 1)))) (mV 2) [some (.d (.str a)),some (.d (.str b)),none] (names.map D.str)=.ok (rs.map D.str):=by
      rw[hrs]
      exact cW D.str D.str _ names fun x _=>⟨[some (.d (.str a)),some (.d (.str b)),some (.d (.str x))],rfl,mF (bR (aB rfl rfl (DP _ _))) fun _=>bR (aB rfl rfl (DP _ _)),fun _=>rfl⟩
     have s5:=aV (i:=5) (cM (ρ:=[some 3,some 4,none]) (e:=[some (W.d (aW names A)),some (W.d (.lst acc)),some (W.d (.int (k:Nat))),some (W.d (.str a)),some (W.d (.str b)),o5]) (dg (x0 _ _ _ _ _) rfl) (by rw[List.length_map];omega) c5)
     have cq:=cW (tg:=.n 3) (c:=gU) (a:=bf gF [(wD (mV 0)),(wD (mV 1)),(wD (mV 2)),(wD (mV 3))]) (e:=[some (W.d (aW names A)),some (W.d (.str a)),some (W.d (.str b)),none]) aL (fun l=>saD A (a,b,l)) (fun _=>true) (jK rs.reverse) fun l hl=>⟨[some (W.d (aW names A)),some (W.d (.str a)),some (W.d (.str b)),some (W.d (aL l))],rfl,rfl,fun _=>by
      have lin:∀ x∈l,x∈rs:=fun x hx=>List.mem_reverse.mp (lC hl x hx)
      exact Zj rfl rfl rfl rfl (Lx L an bn ne (fun x hx=>(rin x (lin x hx)).1) (xF (List.pairwise_reverse.mpr (Hw.imp Ne.symm)) hl) (fun z=>(rin a (lin a z)).2.1 rfl) (fun z=>(rin b (lin b z)).2.2 rfl))⟩
     rw[List.filter_eq_self.mpr (fun _ _=>rfl)] at cq
     have eq2:(RG names a b).map (saD A)=(jK rs.reverse).map fun l=>saD A (a,b,l):=by unfold RG;rw[← hrs,List.map_map];rfl
     have s1:bw 1 (m2 bz (mV 1) (bN [some 0,some 3,some 4,none] (ie (bf jj [(wD (mV 5))])) (.n 3) gU (bf gF [(wD (mV 0)),(wD (mV 1)),(wD (mV 2)),(wD (mV 3))]))) [some (W.d (aW names A)),some (W.d (.lst acc)),some (W.d (.int (k:Nat))),some (W.d (.str a)),some (W.d (.str b)),some (W.d (aL rs))]=.ok (.nx [some (W.d (aW names A)),some (W.d (.lst (acc++(RG names a b).map (saD A)))),some (W.d (.int (k:Nat))),some (W.d (.str a)),some (W.d (.str b)),some (W.d (aL rs))]):=by
      refine aV ((aB (x:=.lst acc) (y:=.lst ((RG names a b).map (saD A))) rfl (by
       rw[eq2]
       exact cM (ρ:=[some 0,some 3,some 4,none]) (dg (lR rfl (Qf rsl)) rfl) (by
        rw[List.length_map,qI,List.length_reverse]
        have:(2:Nat) ^ rs.length≤2 ^ 8:=Nat.pow_le_pow_right (by decide) rsl
        omega) cq) (sO _ _)).trans (aq hl))
     exact⟨[some (W.d (aW names A)),some (W.d (.lst acc)),some (W.d (.int (k:Nat))),some (W.d (.str a)),some (W.d (.str b)),o5],_,rfl,(aH s5).trans s1,_,_,rfl⟩)
   subst he2
   refine⟨[some (W.d (aW names A)),some (W.d (.lst acc)),some (W.d (.int (k:Nat))),some (W.d (.str a)),o4,o5],_,by rw[ha];rfl,(cP (Cv hk h8 (x0 _ _ _ _ _) rfl)).trans f2,_,_,_,_,rfl⟩)
 subst he
 unfold kj G3
 rw[Qy]
 rw[show ([some (W.d (aW names A))]++List.replicate (6 - 1) none)=[some (W.d (aW names A)),none,none,none,none,none] from rfl]
 rw[aH (e':=[some (W.d (aW names A)),some (W.d (.lst [])),none,none,none,none]) (aV (u9 _))]
 have hit:oO (m2 bH (mV 0) (mC (.int 0))) [some (W.d (aW names A)),some (W.d (.lst [])),none,none,none,none]=.ok ((List.range names.length).map fun k=>D.tup [.int (k:Nat),.str (nth names k)]):=by
  rw[← sH]
  unfold oO
  rw[x0];rfl
 rw[aH ((cP hit).trans f)]
 rw[List.nil_append,← e0]
 rfl
theorem Aa{α : Type}(f g:α→Bool):∀ l:List α,dY (l.map fun q=>D.bl (f q)) (l.map fun q=>D.bl (g q))=l.all fun q=>f q == g q
 | []=>rfl
 | x::r=>by
  rw[List.map_cons,List.map_cons,dY,Aa f g r,List.all_cons]
  cases f x<;>cases g x<;>rfl
theorem QV{names:List Str}{A B:List Ar}(GA:Gd names A)(GB:Gd names B):iV (.lst ((qs names).map (saD A))) (.lst ((qs names).map (saD B)))=.ok (.bl (VR names A B)):=by
 unfold iV
 have dp:∀ l:List Qn,cQ (l.map (saD A))≤1:=fun l=>by
  induction l with
  | nil=>rw[List.map_nil,Jk];omega
  | cons x r ih =>
   rw[List.map_cons,mD]
   have:(saD A x).dep=0:=rfl
   omega
 rw[aq (by rw[DK];have:=dp (qs names);omega),cU]
 have:=Aa (fun q:Qn=>!vz A q.1 q.2.1 q.2.2) (fun q=>!vz B q.1 q.2.1 q.2.2) (qs names)
 rw[show (qs names).map (saD A)=(qs names).map fun q=>D.bl (!vz A q.1 q.2.1 q.2.2) from rfl,show (qs names).map (saD B)=(qs names).map fun q=>D.bl (!vz B q.1 q.2.1 q.2.2) from rfl,this]
 congr 2
 rw[Bool.eq_iff_iff,Cz,List.all_eq_true,VG GA GB]
 constructor
 ·intro h i j held a
  have:=h (i,j,held) (PX.mpr a)
  simp only[beq_iff_eq] at this
  rw[← qz,← qz]
  cases hA:vz A i j held<;>cases hB:vz B i j held<;>simp_all
 ·intro h q hq
  obtain⟨i,j,held⟩:=q
  have:=h i j held (PX.mp hq)
  rw[← qz,← qz] at this
  cases hA:vz A i j held<;>cases hB:vz B i j held<;>simp_all
end Mr
namespace Mr
open PySem Mi
theorem VP{t:Int}(h0:0≤t)(h1:t≤28):∃ v,QR (.int 1) (.int t)=.ok (.int v)∧rA v:=by
 refine⟨1 * 2 ^ t.toNat,aq ⟨h0,by omega,by decide⟩,bD ?_ ?_⟩
 ·rw[Int.one_mul];exact Int.pow_pos (by decide)
 ·rw[Int.one_mul]
  have:(2:Nat) ^ t.toNat≤2 ^ 28:=Nat.pow_le_pow_right (by decide) (by omega)
  have e:((2:Int) ^ t.toNat)=(((2:Nat) ^ t.toNat:Nat):Int):=by simp
  rw[e];omega
section
variable{names:List Str}{rs:List Int}{w:Int}
abbrev sG(names:List Str)(rs:List Int)(w:Int)(o4:Option W)(A:List Ix)(o6 o7:Option W):Mi.Env:=[some (.d (aL names)),some (.d (.int w)),some (.d (.int (names.length:Int))),some (.d (.lst (rs.map D.int))),o4,some (.d (ph names A)),o6,o7]
abbrev anyB:S:=(aY (bw 7 (m2 bz (m2 eE (m2 cD (mN nQ [(mV 6),(mV 4)]) (m2 qx (mN nQ [(mV 6),(mV 4)]) (mC (.int 1)))) (mC (.int 2))) (mN wL [(mV 6),(mV 4)])))
 (jP (fU (cB (m2 Ax (m2 bH (mV 3) (mV 6)) (m2 bH (mV 3) (mV 4)))) (cB (m2 iV (m2 cu (m2 eE (mV 1) (m2 QR (mC (.int 1)) (mV 7))) (mC (.int 2))) (mC (.int 1)))))
 (bJ 5 (mN dTup [(m2 bH (mV 0) (mV 6)),(m2 bH (mV 0) (mV 4))]))
 bT))
theorem Ro(h8:names.length≤8)(hrl:rs.length=names.length){j k:Nat}(hj:j < names.length)(hk:k < names.length){A:List Ix}(hg:good names.length (fun i=>rs.getD i 0) A j k)(o7:Option W) :
 ∃ A' o7',anyB (sG names rs w (some (.d (.int (k:Int)))) A (some (.d (.int (j:Int)))) o7)=.ok (.nx (sG names rs w (some (.d (.int (k:Int)))) A' (some (.d (.int (j:Int)))) o7'))∧good names.length (fun i=>rs.getD i 0) A' j (k+1):=by
 have hrx:∀ i:Nat,i < names.length→bH (.lst (rs.map D.int)) (.int (i:Int))=.ok (.int (rs.getD i 0)):=fun i hi=>by
  have:=jD (cs:=rs) (i:=(i:Int)) (by omega) (by omega)
  rwa [Int.toNat_natCast] at this
 have hnx:∀ i:Nat,i < names.length→bH (aL names) (.int (i:Int))=.ok (.str (nth names i)):=fun i hi=>by
  have:=Du (cs:=names) (i:=(i:Int)) (by omega) (by omega)
  rwa [Int.toNat_natCast] at this
 obtain⟨t1,t2,t3,t4⟩:=N5 (a:=max (j:Int) (k:Int)) (by omega) (by omega)
 obtain⟨t,ht⟩ : ∃ t,t=max (j:Int) (k:Int) * (max (j:Int) (k:Int) - 1) / 2+min (j:Int) (k:Int):=⟨_,rfl⟩
 have tb:0≤t∧t≤28:=by omega
 have hx:mN nQ [(mV 6),(mV 4)] (sG names rs w (some (.d (.int (k:Int)))) A (some (.d (.int (j:Int)))) o7)=.ok (.int (max (j:Int) (k:Int))):=(Af rfl rfl).trans (P0 _ _)
 have hn:mN wL [(mV 6),(mV 4)] (sG names rs w (some (.d (.int (k:Int)))) A (some (.d (.int (j:Int)))) o7)=.ok (.int (min (j:Int) (k:Int))):=(Af rfl rfl).trans (PN _ _)
 have s7:bw 7 (m2 bz (m2 eE (m2 cD (mN nQ [(mV 6),(mV 4)]) (m2 qx (mN nQ [(mV 6),(mV 4)]) (mC (.int 1)))) (mC (.int 2))) (mN wL [(mV 6),(mV 4)])) (sG names rs w (some (.d (.int (k:Int)))) A (some (.d (.int (j:Int)))) o7)=.ok (.nx (sG names rs w (some (.d (.int (k:Int)))) A (some (.d (.int (j:Int)))) (some (.d (.int t))))) :=
  aV ((aB (aB (aB hx (aB hx rfl rfl) (aq (jA t1 t2))) rfl (aq (bD (by decide) (by decide)))) hn (vB _ _)).trans (by rw[ht]))
 obtain⟨v,hv,vd⟩:=VP tb.1 tb.2
 have ct:fU (cB (m2 Ax (m2 bH (mV 3) (mV 6)) (m2 bH (mV 3) (mV 4)))) (cB (m2 iV (m2 cu (m2 eE (mV 1) (m2 QR (mC (.int 1)) (mV 7))) (mC (.int 2))) (mC (.int 1)))) (sG names rs w (some (.d (.int (k:Int)))) A (some (.d (.int (j:Int)))) (some (.d (.int t))))=.ok (decide (rs.getD j 0 < rs.getD k 0) && decide (w / v % 2=1)) :=
  mF (bR (aB (aB rfl rfl (hrx j hj)) (aB rfl rfl (hrx k hk)) rfl)) fun _=>bR (aB (aB (aB rfl (aB rfl rfl hv) ((div_ii _ _).trans (aq vd))) rfl ((ql _ _).trans (aq (by decide)))) rfl (iU _ _))
 by_cases hb:rs.getD j 0 < rs.getD k 0∧w / v % 2=1
 ·rw[decide_eq_true hb.1,decide_eq_true hb.2] at ct
  refine⟨A++[(j,k)],some (.d (.int t)),(aH s7).trans ((jM ct).trans ?_),hg.add hj hk hb.1⟩
  rw[jo (d:=pairD (nth names j,nth names k)) (ds:=(A.map (arrOf names)).map pairD) (lG (aB rfl rfl (hnx j hj)) (aB rfl rfl (hnx k hk))) rfl (by rw[List.length_map,List.length_map];have:=hg.2.2;omega)]
  show Rs.ok (Out.nx [_,_,_,_,_,some (W.d (D.lst ((A.map (arrOf names)).map pairD++[pairD (nth names j,nth names k)]))),_,_])=_
  rw[show sG names rs w (some (.d (.int (k:Int)))) (A++[(j,k)]) (some (.d (.int (j:Int)))) (some (.d (.int t)))=[some (.d (aL names)),some (.d (.int w)),some (.d (.int (names.length:Int))),some (.d (.lst (rs.map D.int))),some (.d (.int (k:Int))),some (.d (ph names (A++[(j,k)]))),some (.d (.int (j:Int))),some (.d (.int t))] from rfl]
  rw[ph,List.map_append,List.map_append];rfl
 ·have cf:(decide (rs.getD j 0 < rs.getD k 0) && decide (w / v % 2=1))=false:=by
   by_cases h1:rs.getD j 0 < rs.getD k 0
   ·rw[decide_eq_false (fun z=>hb ⟨h1,z⟩ : ¬ w / v % 2=1),Bool.and_false]
   ·rw[decide_eq_false h1];rfl
  rw[cf] at ct
  exact⟨A,some (.d (.int t)),(aH s7).trans ((jm ct).trans rfl),hg.skip⟩
theorem Xi(nd:names.Nodup)(h1:1≤names.length)(h8:names.length≤8)(d:Int):∃ A r,qK [.d (aL names),.d (.int d)]=.ok (.d (aW names (A.map (arrOf names))))∧Bx names A r:=by
 obtain⟨rs,hr,hrl⟩:=Fl d names.length h8
 obtain⟨e0,f0,w,o4,he0⟩:=dW (tg:=.n 4) (body:=(bw 1 (m2 eE (mV 1) (m2 qx (mV 2) (mV 4)))))
  (fun n e=>∃ (w:Int) (o4:Option W),e=[some (.d (aL names)),some (.d (.int w)),some (.d (.int (names.length:Int))),some (.d (.lst (rs.map D.int))),o4,none,none,none]) (bQ 0 ((names.length:Nat):Int)) 0 (fun k x e hx ⟨w,o4,he⟩=>by
   obtain⟨hk,rfl⟩:=fQ hx
   subst he
   refine⟨[some (.d (aL names)),some (.d (.int w)),some (.d (.int (names.length:Int))),some (.d (.lst (rs.map D.int))),some (.d (.int (k:Int))),none,none,none],_,rfl,aV (aB rfl (aB rfl rfl rfl) ((div_ii _ _).trans (aq (bD (by omega) (by omega))))),_,_,rfl⟩) [some (.d (aL names)),some (.d (.int d)),some (.d (.int (names.length:Int))),some (.d (.lst (rs.map D.int))),none,none,none,none] ⟨d,none,rfl⟩
 subst he0
 obtain⟨e1,f1,A,p4,p6,p7,he1,hg⟩:=dW (tg:=.n 6) (body:=(eG (bV (mV 2)) (.n 4) anyB))
  (fun j e=>∃ (A:List Ix) (o4 o6 o7:Option W),e=sG names rs w o4 A o6 o7∧good names.length (fun i=>rs.getD i 0) A j 0) (bQ 0 ((names.length:Nat):Int)) 0 (fun j x e hx ⟨A,o4,o6,o7,he,hg⟩=>by
   obtain⟨hj,rfl⟩:=fQ hx
   subst he
   rw[Nat.zero_add] at hg ⊢
   obtain⟨e2,f2,A',q4,q7,he2,hg2⟩:=dW (tg:=.n 4) (body:=anyB)
    (fun k e=>∃ (A:List Ix) (o4 o7:Option W),e=sG names rs w o4 A (some (.d (.int (j:Int)))) o7∧good names.length (fun i=>rs.getD i 0) A j k) (bQ 0 ((names.length:Nat):Int)) 0 (fun k x e hx ⟨A,o4,o7,he,hg⟩=>by
     obtain⟨hk,rfl⟩:=fQ hx
     subst he
     rw[Nat.zero_add] at hg ⊢
     obtain⟨A',o7',st,g'⟩:=Ro (w:=w) h8 hrl hj hk hg o7
     exact⟨sG names rs w (some (.d (.int (k:Int)))) A (some (.d (.int (j:Int)))) o7,_,rfl,st,A',_,_,rfl,g'⟩) (sG names rs w o4 A (some (.d (.int (j:Int)))) o7) ⟨A,o4,o7,rfl,hg⟩
   subst he2
   rw[cF,Nat.zero_add] at hg2
   exact⟨sG names rs w o4 A (some (.d (.int (j:Int)))) o7,_,rfl,(cP (fY rfl (zK names.length h8))).trans f2,A',_,_,_,rfl,hg2.next h8⟩) (sG names rs w o4 [] none none) ⟨[],_,_,_,rfl,List.Pairwise.nil,fun p hp=>absurd hp (by simp),Nat.zero_le _⟩
 subst he1
 rw[cF,Nat.zero_add] at hg
 refine⟨A,fun i=>rs.getD i 0,?_,⟨nd,h1,h8,hg.1,fun p hp=>?_,by have:=hg.2.2;omega⟩⟩
 ·unfold qK K5
  rw[Ji]
  rw[show ([some (W.d (aL names)),some (W.d (.int d))]++List.replicate (8 - 2) none)=[some (W.d (aL names)),some (W.d (.int d)),none,none,none,none,none,none] from rfl]
  rw[aH (e':=[some (W.d (aL names)),some (W.d (.int d)),some (.d (.int (names.length:Int))),none,none,none,none,none]) (aV ((fX (x:=aL names) rfl).trans (by unfold aL;rw[Ag,List.length_map])))]
  rw[aH (e':=[some (W.d (aL names)),some (W.d (.int d)),some (.d (.int (names.length:Int))),some (.d (.lst (rs.map D.int))),none,none,none,none]) (aV (call2 rfl rfl hr))]
  rw[aH ((cP (fY rfl (zK names.length h8))).trans f0)]
  rw[aH (e':=sG names rs w o4 [] none none) (aV (u9 _))]
  rw[aH ((cP (fY rfl (zK names.length h8))).trans f1)]
  rw[eQ (dw (lG (x:=fB names) (y:=Hy (A.map (arrOf names))) (fX (x:=aL names) rfl) (fX (x:=ph names A) rfl)))]
  rfl
 ·obtain⟨a,b,c,_⟩:=hg.2.1 p hp
  exact⟨a,b,c⟩
end
end Mr
namespace Mr
open PySem Mi
open My (words lV bU)
theorem HY{names:List Str}{A:List Ar}(G:Gd names A)(d:Int):∃ B,gD [.d (aW names A),.d (.int d)]=.ok (.d (aW names B))∧Gd names B:=by
 unfold gD uw
 rw[Ji]
 rw[show ([some (W.d (aW names A)),some (W.d (.int d))]++List.replicate (7 - 2) none)=[some (W.d (aW names A)),some (W.d (.int d)),none,none,none,none,none] from rfl]
 have ct:cB (m2 iV (m2 cu (mV 1) (mC (.int 3))) (mC (.int 0))) [some (W.d (aW names A)),some (W.d (.int d)),none,none,none,none,none]=.ok (decide (d % 3=0)):=bR (aB (aB rfl rfl ((ql _ _).trans (aq (by decide)))) rfl (iU _ _))
 by_cases h3:d % 3=0
 ·rw[decide_eq_true h3] at ct
  obtain⟨I,r,ha,IN⟩:=Xi G.nd G.pos G.le (d / 3)
  refine⟨_,?_,IN.gd G.wd⟩
  rw[pX ((jM ct).trans (eQ (dw (call2 (f:=qK) (dw ((fX (aB rfl rfl (Kq names A))).trans rfl)) (dw (aB rfl rfl ((div_ii _ _).trans (aq (bD (by decide) (by decide)))))) ha))))]
  rfl
 ·rw[decide_eq_false h3] at ct
  have q0:=Int.emod_nonneg (d / 3) (b:=7) (by decide)
  have q1:=Int.emod_lt_of_pos (d / 3) (b:=7) (by decide)
  obtain⟨n,hn⟩ : ∃ n:Nat,d / 3 % 7=(n:Int):=⟨(d / 3 % 7).toNat,by omega⟩
  obtain⟨bt,hbt⟩ : ∃ bt,bt=d / 21 % 2:=⟨_,rfl⟩
  obtain⟨e',f1,L,w,o5,o6,he,hL⟩:=dW (tg:=.n 5) (body:=(aY (bw 6 (bf iy [(wD (mV 2))]))
 (jP (cB (m2 KN (mN fV [(mV 6)]) (mC (.int 0))))
 (aY (bw 2 (bf gq [(wD (mV 2)),(wD (m2 bH (mV 6) (m2 cu (mV 1) (mN fV [(mV 6)]))))]))
 (bw 1 (m2 eE (mV 1) (mN fV [(mV 6)]))))
 bT)))
   (fun i e=>∃ (L:List Ar) (w:Int) (o5 o6:Option W),e=[some (W.d (aW names A)),some (W.d (.int w)),some (W.d (cI L)),some (W.d (.int (n:Int))),some (W.d (.int bt)),o5,o6]∧Lk names L) (bQ 0 (n:Int)) 0 (fun i x e hx ⟨L,w,o5,o6,he,hL⟩=>by
    subst he
    obtain⟨hi,rfl⟩:=fQ hx
    have cv:=Jp hL
    obtain⟨C,hC⟩ : ∃ C,C=L.filter (cov L):=⟨_,rfl⟩
    rw[← hC] at cv
    have cl:C.length≤64:=by rw[hC];exact Nat.le_trans (List.length_filter_le _ _) hL.al
    have s1:=aV (i:=6) (lR (f:=iy) (a:=wD (mV 2)) (e:=[some (W.d (aW names A)),some (W.d (.int w)),some (W.d (cI L)),some (W.d (.int (n:Int))),some (W.d (.int bt)),some (W.d (.int (i:Int))),o6]) rfl cv)
    have lc:∀ X:D,mN fV [(mV 6)] [some (W.d (aW names A)),some (W.d (.int w)),some (W.d X),some (W.d (.int (n:Int))),some (W.d (.int bt)),some (W.d (.int (i:Int))),some (W.d (cI C))]=.ok (.int (C.length:Int)):=fun X=>(fX (x:=cI C) rfl).trans (by unfold cI;rw[Ag,List.length_map])
    have ct:=bR (aB (b:=mC (.int 0)) (lc (cI L)) rfl (Vn (C.length:Int) 0))
    by_cases h0:(0:Int) < (C.length:Int)
    ·rw[decide_eq_true h0] at ct
     obtain⟨p,hp,hx⟩:=O6 (xs:=C) (Int.emod_nonneg w (b:=(C.length:Int)) (by omega)) (Int.emod_lt_of_pos w h0)
     rw[hC] at hp
     obtain⟨hp1,hp2⟩:=List.mem_filter.mp hp
     refine⟨[some (W.d (aW names A)),some (W.d (.int w)),some (W.d (cI L)),some (W.d (.int (n:Int))),some (W.d (.int bt)),some (W.d (.int (i:Int))),o6],[some (W.d (aW names A)),some (W.d (.int (w / (C.length:Int)))),some (W.d (cI (pK p L))),some (W.d (.int (n:Int))),some (W.d (.int bt)),some (W.d (.int (i:Int))),some (W.d (cI C))],rfl,?_,pK p L,_,_,_,rfl,hL.pK hp1 hp2⟩
     rw[aH s1]
     refine(jM ct).trans ?_
     rw[aH (e':=[some (W.d (aW names A)),some (W.d (.int w)),some (W.d (cI (pK p L))),some (W.d (.int (n:Int))),some (W.d (.int bt)),some (W.d (.int (i:Int))),some (W.d (cI C))]) (aV (call2 (x:=.d (cI L)) (y:=.d (pairD p)) rfl (dw (aB (x:=cI C) rfl (aB rfl (lc (cI L)) ((ql _ _).trans (aq h0))) hx)) (yJ (by have:=hL.al;omega))))]
     exact aV (aB rfl (lc _) ((div_ii _ _).trans (aq (bD h0 (by omega)))))
    ·rw[decide_eq_false h0] at ct
     refine⟨[some (W.d (aW names A)),some (W.d (.int w)),some (W.d (cI L)),some (W.d (.int (n:Int))),some (W.d (.int bt)),some (W.d (.int (i:Int))),o6],[some (W.d (aW names A)),some (W.d (.int w)),some (W.d (cI L)),some (W.d (.int (n:Int))),some (W.d (.int bt)),some (W.d (.int (i:Int))),some (W.d (cI C))],rfl,?_,L,w,_,_,rfl,hL⟩
     rw[aH s1]
     exact(jm ct).trans rfl) [some (W.d (aW names A)),some (W.d (.int (d / 42))),some (W.d (cI A)),some (W.d (.int (n:Int))),some (W.d (.int bt)),none,none] ⟨A,_,none,none,rfl,G.lk⟩
  subst he
  obtain⟨X,RX,hif⟩ : ∃ X,Rk X∧(jP (cB (m2 iV (mV 4) (mC (.int 1))))
 (bw 2 (bf ji [(wD (m2 bH (mV 0) (mC (.int 0)))),(wD (mV 2)),(wD (mV 1))]))
 bT) [some (W.d (aW names A)),some (W.d (.int w)),some (W.d (cI L)),some (W.d (.int (n:Int))),some (W.d (.int bt)),o5,o6]=.ok (.nx [some (W.d (aW names A)),some (W.d (.int w)),some (W.d (cI X)),some (W.d (.int (n:Int))),some (W.d (.int bt)),o5,o6]):=by
   have ct:cB (m2 iV (mV 4) (mC (.int 1))) [some (W.d (aW names A)),some (W.d (.int w)),some (W.d (cI L)),some (W.d (.int (n:Int))),some (W.d (.int bt)),o5,o6]=.ok (decide (bt=1)):=bR (aB rfl rfl (iU bt 1))
   cases hk:decide (bt=1) with
   | false =>
    rw[hk] at ct
    exact⟨L,hL.rk,(jm ct).trans rfl⟩
   | true =>
    rw[hk] at ct
    obtain⟨B,hB,RB,_⟩:=HS hL.nt w
    exact⟨B,RB,(jM ct).trans (aV (Be (dw (aB rfl rfl (Kq names A))) rfl rfl hB))⟩
  refine⟨m7 names X,?_,Gd.of G.nd G.pos G.le G.wd RX⟩
  rw[aH ((jm ct).trans rfl)]
  rw[aH (e':=[some (W.d (aW names A)),some (W.d (.int d)),some (W.d (cI A)),none,none,none,none]) (aV ((fX (aB rfl rfl (Th names A))).trans rfl))]
  rw[aH (e':=[some (W.d (aW names A)),some (W.d (.int d)),some (W.d (cI A)),some (W.d (.int (n:Int))),none,none,none]) (aV (aB (aB rfl rfl ((div_ii _ _).trans (aq (bD (by decide) (by decide))))) rfl ((ql _ _).trans ((aq (by decide)).trans (by rw[hn])))))]
  rw[aH (e':=[some (W.d (aW names A)),some (W.d (.int d)),some (W.d (cI A)),some (W.d (.int (n:Int))),some (W.d (.int bt)),none,none]) (aV (aB (aB rfl rfl ((div_ii _ _).trans (aq (bD (by decide) (by decide))))) rfl ((ql _ _).trans ((aq (by decide)).trans (by rw[hbt])))))]
  rw[aH (e':=[some (W.d (aW names A)),some (W.d (.int (d / 42))),some (W.d (cI A)),some (W.d (.int (n:Int))),some (W.d (.int bt)),none,none]) (aV (aB rfl rfl ((div_ii _ _).trans (aq (bD (by decide) (by decide))))))]
  rw[aH ((cP (fY rfl (jh (by omega) (by omega)))).trans f1),aH hif]
  rw[eQ (dw (call2 (dw (aB rfl rfl (Kq names A))) rfl (Lf (names:=names) (aj:=X) G.le)))]
  rfl
theorem Ol(names:List Str)(A B:List Ar):VR names A B=VR names B A:=by
 rw[Bool.eq_iff_iff,Cz,Cz]
 exact⟨Sm.symm,Sm.symm⟩
theorem DQ(a b:Bool):vZ (.bl a) (.bl b)=.ok (.bl (!(a == b))):=aq (by show (0:Nat)≤16;decide)
theorem rC(ns:List Int)(hl:ns.length≤63):u5 [.d (.lst (ns.map D.int))]=.ok (.d (.bl true)):=by
 obtain⟨ds,hds,hdl⟩:=QH ns
 have h33:bH (.lst (ds.map D.int)) (.int 33)=.ok (.int (ds.getD 33 0)):=jD (by decide) (by omega)
 have r0:=Int.emod_nonneg (ds.getD 33 0) (b:=4) (by decide)
 have r1:=Int.emod_lt_of_pos (ds.getD 33 0) (b:=4) (by decide)
 obtain⟨hi,hi1,hi2,hhi⟩ : ∃ hi:Nat,1≤hi∧hi≤8∧bH (.lst ([4,4,4,5].map D.int)) (.int (ds.getD 33 0 % 4))=.ok (.int (hi:Int)):=by
  obtain⟨z,hz⟩ : ∃ z,z=ds.getD 33 0 % 4:=⟨_,rfl⟩
  rw[← hz] at r0 r1 ⊢
  have:z=0∨z=1∨z=2∨z=3:=by omega
  rcases this with h|h|h|h<;>subst h
  ·exact⟨4,by decide,by decide,rfl⟩
  ·exact⟨4,by decide,by decide,rfl⟩
  ·exact⟨4,by decide,by decide,rfl⟩
  ·exact⟨5,by decide,by decide,rfl⟩
 obtain⟨names,I,r,WN,IN,_,_,hwf⟩:=Wn ds hdl 1 hi (by decide) hi1 hi2
 have hw:∀ x∈names,jX [.d (.str x)]=.ok (.d (.bl true)):=fun x hx=>(Wd.ok ⟨x.cps.toList,Eu rfl,hwf x hx⟩)
 have G:=IN.gd hw
 generalize I.map (arrOf names)=A at WN G
 have sy:=JS G.lk
 obtain⟨Y,hY⟩ : ∃ Y,Y=D.lst ((qs names).map (saD A)):=⟨_,rfl⟩
 rw[← hY] at sy
 obtain⟨qd,hqd⟩ : ∃ qd:List Int,oX (ds.map D.int) (some 39) (some 41)=qd.map D.int:=by
  unfold oX
  exact⟨_,by rw[← List.map_drop,← List.map_take]⟩
 obtain⟨Ls,hLs⟩ : ∃ Ls,Ls=D.lst (ns.map D.int):=⟨_,rfl⟩
 obtain⟨Ds,hDs⟩ : ∃ Ds,Ds=D.lst (ds.map D.int):=⟨_,rfl⟩
 obtain⟨e',f1,o4,o5,o6,o7,o8,he⟩:=dW (tg:=.n 4) (body:=(aY (bw 5 (bf gD [(wD (mV 2)),(wD (mV 4))]))
 (aY (bw 6 (u6 (m2 iV (bf iK [(wD (mV 2))]) (bf iK [(wD (mV 5))])) (m2 iV (bf d8 [(wD (mV 2))]) (bf d8 [(wD (mV 5))]))))
 (aY (jP (cB (m2 vZ (mV 6) (m2 iV (mV 3) (bf kj [(wD (mV 5))]))))
 (fc (wD (mC (.bl false))))
 bT)
 (aY (bw 7 (bf fM [(wD (mV 2)),(wD (mV 5))]))
 (aY (bw 8 (bf fM [(wD (mV 5)),(wD (mV 2))]))
 (jP (Ea (pL (cB (m1 (Xc ["bool"]) (mV 7)))) (Ea (cB (m2 vZ (mV 7) (mV 6))) (Ea (pL (cB (m1 (Xc ["bool"]) (mV 8)))) (cB (m2 vZ (mV 8) (mV 7))))))
 (fc (wD (mC (.bl false))))
 bT)))))))
  (fun i e=>∃ o4 o5 o6 o7 o8:Option W,e=[some (W.d Ls),some (W.d Ds),some (W.d (aW names A)),some (W.d Y),o4,o5,o6,o7,o8]) (qd.map D.int) 0 (fun i x e hx ⟨o4,o5,o6,o7,o8,he⟩=>by
   subst he
   rw[List.getElem?_map] at hx
   obtain⟨d,_,rfl⟩:=Option.map_eq_some_iff.mp hx
   obtain⟨B,hB,GB⟩:=HY G d
   have sB:=JS GB.lk
   have eqs:=QV G GB
   rw[← hY] at eqs
   obtain⟨s,hs⟩ : ∃ s,s=VR names A B:=⟨_,rfl⟩
   have ss:=JT G GB
   have sr:=JT GB G
   rw[Ol names B A] at sr
   rw[← hs] at eqs ss sr
   have s5:=aV (i:=5) (call2 (f:=gD) (a:=wD (mV 2)) (b:=wD (mV 4)) (e:=[some (W.d Ls),some (W.d Ds),some (W.d (aW names A)),some (W.d Y),some (W.d (.int d)),o5,o6,o7,o8]) rfl rfl hB)
   have s6:bw 6 (u6 (m2 iV (bf iK [(wD (mV 2))]) (bf iK [(wD (mV 5))])) (m2 iV (bf d8 [(wD (mV 2))]) (bf d8 [(wD (mV 5))]))) [some (W.d Ls),some (W.d Ds),some (W.d (aW names A)),some (W.d Y),some (W.d (.int d)),some (W.d (aW names B)),o6,o7,o8]=.ok (.nx [some (W.d Ls),some (W.d Ds),some (W.d (aW names A)),some (W.d Y),some (W.d (.int d)),some (W.d (aW names B)),some (W.d (.bl s)),o7,o8]):=by
    rw[hs]
    exact aV (wR (aB (lR rfl (Aj G.le)) (lR rfl (Aj GB.le)) (KR _ _)) fun _=>aB (lR rfl (yO G.le)) (lR rfl (yO GB.le)) (Az _ _))
   have c1:cB (m2 vZ (mV 6) (m2 iV (mV 3) (bf kj [(wD (mV 5))]))) [some (W.d Ls),some (W.d Ds),some (W.d (aW names A)),some (W.d Y),some (W.d (.int d)),some (W.d (aW names B)),some (W.d (.bl s)),o7,o8]=.ok false :=
    bR (aB (x:=.bl s) rfl (aB rfl (lR rfl sB) eqs) ((DQ s s).trans (by simp)))
   have s7:=aV (i:=7) (call2 (f:=fM) (a:=wD (mV 2)) (b:=wD (mV 5)) (e:=[some (W.d Ls),some (W.d Ds),some (W.d (aW names A)),some (W.d Y),some (W.d (.int d)),some (W.d (aW names B)),some (W.d (.bl s)),o7,o8]) rfl rfl ss)
   have s8:=aV (i:=8) (call2 (f:=fM) (a:=wD (mV 5)) (b:=wD (mV 2)) (e:=[some (W.d Ls),some (W.d Ds),some (W.d (aW names A)),some (W.d Y),some (W.d (.int d)),some (W.d (aW names B)),some (W.d (.bl s)),some (W.d (.bl s)),o8]) rfl rfl sr)
   have c2:(Ea (pL (cB (m1 (Xc ["bool"]) (mV 7)))) (Ea (cB (m2 vZ (mV 7) (mV 6))) (Ea (pL (cB (m1 (Xc ["bool"]) (mV 8)))) (cB (m2 vZ (mV 8) (mV 7)))))) [some (W.d Ls),some (W.d Ds),some (W.d (aW names A)),some (W.d Y),some (W.d (.int d)),some (W.d (aW names B)),some (W.d (.bl s)),some (W.d (.bl s)),some (W.d (.bl s))]=.ok false :=
    yQ (p:=false) (q:=false) (uq (p:=true) rfl) fun _=>yQ (p:=false) (q:=false) (bR (aB rfl rfl ((DQ s s).trans (by simp)))) fun _=>yQ (p:=false) (q:=false) (uq (p:=true) rfl) fun _=>bR (aB rfl rfl ((DQ s s).trans (by simp)))
   exact⟨[some (W.d Ls),some (W.d Ds),some (W.d (aW names A)),some (W.d Y),some (W.d (.int d)),o5,o6,o7,o8],_,rfl,(aH s5).trans ((aH s6).trans ((aH ((jm c1).trans rfl)).trans ((aH s7).trans ((aH s8).trans ((jm c2).trans rfl))))),_,_,_,_,_,rfl⟩) [some (W.d Ls),some (W.d Ds),some (W.d (aW names A)),some (W.d Y),none,none,none,none,none] ⟨none,none,none,none,none,rfl⟩
 subst he
 unfold u5 Bm
 rw[Qy,← hLs]
 rw[← hLs,← hDs] at hds
 rw[← hDs] at WN h33
 rw[show ([some (W.d Ls)]++List.replicate (9 - 1) none)=[some (W.d Ls),none,none,none,none,none,none,none,none] from rfl]
 rw[aH (e':=[some (W.d Ls),some (W.d Ds),none,none,none,none,none,none,none]) (aV (lR rfl hds))]
 have h4:m2 bH (mN d9 [(mC (.int 4)),(mC (.int 4)),(mC (.int 4)),(mC (.int 5))]) (m2 cu (m2 bH (mV 1) (mC (.int 33))) (mC (.int 4))) [some (W.d Ls),some (W.d Ds),none,none,none,none,none,none,none]=.ok (.int (hi:Int)) :=
  aB (x:=.lst ([4,4,4,5].map D.int)) (by show aU (([4,4,4,5].map D.int).length≤16777216) _=_;exact aq (by simp)) (aB (aB rfl rfl h33) rfl ((ql _ _).trans (aq (by decide)))) hhi
 rw[aH (e':=[some (W.d Ls),some (W.d Ds),some (W.d (aW names A)),none,none,none,none,none,none]) (aV (Be (f:=qJ) rfl rfl (dw h4) WN))]
 rw[aH (e':=[some (W.d Ls),some (W.d Ds),some (W.d (aW names A)),some (W.d Y),none,none,none,none,none]) (aV (lR rfl sy))]
 have it:ie (gR DN (mV 1) (some (mC (.int 39))) (some (mC (.int 41)))) [some (W.d Ls),some (W.d Ds),some (W.d (aW names A)),some (W.d Y),none,none,none,none,none]=.ok (qd.map D.int):=by
  refine dg (x:=.lst (qd.map D.int)) ?_ rfl
  rw[← hqd,hDs];rfl
 rw[aH ((cP it).trans f1)]
 rfl
end Mr
namespace JD
open PySem L2 PyProof.Rows
abbrev cN:Addr:=64
abbrev tN:Addr:=60
instance aaL:A.gH:=⟨[(tN,Td "sorted_rows")],fun c=>0⟩
theorem walk{l:PySem.W.OpenLaw}{q:Program}{loose:List Str}{XP:(Str→Option Value)→Heap→Prop}{YP:World→Heap→Prop}{d:DefRec}{K:Params→PySem.W.Frag}(hn:l.most=some 63)(hdf:d.params.defaults=[])
 (hY:∀ (w:World) (h:Heap),YP w h→(K w.params).In h) (hL:∀ w:World,Vg (K w.params)=true) (hK:∀ w:World,(K w.params).lookup tN=none) (hrec:∃ d,(recsOf q).find? (fun e=>e.name == ("sorted_rows" : Str))=some d) (htab:∀ w:World,PySem.W.tabIn (K w.params) "sorted_rows" = some (cN,tN))
 (F:∀ (w:World) (mg:Str→Option Value) (fa:Addr) (h:Heap),(K w.params).In h→h.Ns mainGlobals mg→mg d.name=some (.ref fa) →
  ∃ fd:FuncData,(∀ (s:Shared) (u:Value),BindsTo s fd ⟨[u],[]⟩ [("_law_script", u)])∧∀ base:Heap,(K w.params).In base→base.Ns mainGlobals mg→BM mg base→PySem.W.CodeHd base cN tN→eF l.prog w (K w.params) mg base dX 7 fa fd ["_law_script"] A.Ey) :
 PySem.W.WalkO q loose XP YP l.row.toRowW d [] (fun f vs=>PySem.call f vs) :=
 L2.NK (x := "_law_script") (dn := "sorted_rows") (qn:=Td "sorted_rows") (k:=7) rfl hn hdf ⟨rfl,by decide,by decide⟩ hY (fun w a o e c=>Pz (hL w) e c) hK hrec htab F
theorem Vy{K:PySem.W.Frag}{h:Heap}{mg:Str→Option Value}(X:K.In h)(G:h.Ns mainGlobals mg)(Cd:PySem.W.nsIn K mainGlobals "len" = some none)(uI:PySem.W.nsIn K mainGlobals "range" = some none)(Ca:PySem.W.nsIn K mainGlobals "max" = some none)(BZ:PySem.W.nsIn K mainGlobals "min" = some none)(uH:PySem.W.nsIn K mainGlobals "tuple" = some none)(xf:PySem.W.nsIn K mainGlobals "list" = some none)(lF:PySem.W.nsIn K mainGlobals "isinstance" = some none)(Ci:PySem.W.nsIn K mainGlobals "all" = some none)(Cg:PySem.W.nsIn K mainGlobals "any" = some none)(xg:PySem.W.nsIn K mainGlobals "bool" = some none)(BW:PySem.W.nsIn K mainGlobals "str" = some none)(Ce:PySem.W.nsIn K mainGlobals "int" = some none)(BV:PySem.W.nsIn K mainGlobals "zip" = some none)(mJ:PySem.W.nsIn K mainGlobals "enumerate" = some none)(rG:PySem.W.nsIn K mainGlobals "sorted" = some none)(nY:PySem.W.nsIn K mainGlobals "reversed" = some none)(BX:PySem.W.nsIn K mainGlobals "set" = some none)  : Txt mg :=
 ⟨PySem.W.mg_none_of X G Cd,PySem.W.mg_none_of X G uI,PySem.W.mg_none_of X G Ca,PySem.W.mg_none_of X G BZ,PySem.W.mg_none_of X G uH,PySem.W.mg_none_of X G xf,PySem.W.mg_none_of X G lF,PySem.W.mg_none_of X G Ci,PySem.W.mg_none_of X G Cg,PySem.W.mg_none_of X G xg,PySem.W.mg_none_of X G BW,PySem.W.mg_none_of X G Ce,PySem.W.mg_none_of X G BV,PySem.W.mg_none_of X G mJ,PySem.W.mg_none_of X G rG,PySem.W.mg_none_of X G nY,PySem.W.mg_none_of X G BX⟩
theorem Xj{l:PySem.W.OpenLaw}{w:World}{K:PySem.W.Frag}{mg:Str→Option Value}{fa:Addr}(hfa:mg "law" = some (.ref fa))(T:Txt mg)(lW:qR K mg "refuse_strangers" iZ ["names", "asked"])(zA:qR K mg "are_tied" rQ ["net", "one", "other"])(zp:qR K mg "pairs_of" rK ["names"])(By:qR K mg "ties_of" uN ["net"])(mW:Uu K mg "sorted_rows" mK ["names", "rows"] cN)(uD:qR K mg "corners_of" nZ ["net"])(jO:qR K mg "refuse_unlike_names" gQ ["first", "second"])(zm:qR K mg "say_same" rJ ["first", "second"])(BR:qR K mg "_law_draws" uT ["_law_script"])(BJ:qR K mg "_law_words" uO ["_law_cell", "_law_many"])(BL:qR K mg "_law_names" uQ ["_law_draws_here", "_law_many"])(BK:qR K mg "_law_ranks" uP ["_law_draw", "_law_many"])(K9:qR K mg "_law_net" CG ["_law_draws_here", "_law_least", "_law_most"])(La:qR K mg "_law_any" CJ ["_law_names_here", "_law_draw"])(zz:qR K mg "_law_elders" rP ["_law_arrows", "_law_name"])(wC:qR K mg "_law_covered" qe ["_law_arrows"])(wB:qR K mg "_law_flipped" qb ["_law_arrows", "_law_arrow"])(pI:qR K mg "_law_comes_round" kW ["_law_names_here", "_law_arrows"])(wA:qR K mg "_law_spoiled" pZ ["_law_names_here", "_law_arrows", "_law_cell"])(zq:qR K mg "_law_sorted" rM ["_law_names_here", "_law_arrows"])(zr:qR K mg "_law_second" rN ["_law_net_here", "_law_draw"])(Hq:qR K mg "_law_tied" xT ["_law_net_here", "_law_one", "_law_other"])(Ho:qR K mg "_law_ties" xR ["_law_net_here"])(wF:qR K mg "_law_corners" qg ["_law_net_here"])(Hs:qR K mg "_law_high" xV ["_law_net_here", "_law_some"])(zu:qR K mg "_law_parted" rO ["_law_net_here", "_law_one", "_law_other", "_law_held"])(BP:qR K mg "_law_lists" uR ["_law_some"])(Hr:qR K mg "_law_says" xU ["_law_net_here"])(Vu:qR K mg "law" Om ["_law_script"]) :
 ∃ fd:FuncData,(∀ (s:Shared) (u:Value),BindsTo s fd ⟨[u],[]⟩ [("_law_script", u)])∧∀ base:Heap,K.In base→base.Ns mainGlobals mg→BM mg base→PySem.W.CodeHd base cN tN→eF l.prog w K mg base dX 7 fa fd ["_law_script"] A.Ey :=
 qR.aaj Vu hfa fun base kb nb hB hC f fd F=>by
  have jg:=lW.cal (P:=l.prog) (w:=w) (base:=base) (CX:=dX) fun f fd F=>qX F T
  have j7:=zA.cal (P:=l.prog) (w:=w) (base:=base) (CX:=dX) fun f fd F=>FP F T jg
  have j6:=zp.cal (P:=l.prog) (w:=w) (base:=base) (CX:=dX) fun f fd F=>Fx F T
  have qT:=By.cal (P:=l.prog) (w:=w) (base:=base) (CX:=dX) fun f fd F=>Ik F T j7 j6
  have mX:=mW.cal (P:=l.prog) (w:=w) (base:=base) (CX:=dX) fun f fd F=>yj F T hB hC (List.mem_singleton.mpr rfl)
  have lA:=uD.cal (P:=l.prog) (w:=w) (base:=base) (CX:=dX) fun f fd F=>zL F T j7 mX j6
  have gV:=jO.cal (P:=l.prog) (w:=w) (base:=base) (CX:=dX) fun f fd F=>oG F T
  have pA:=zm.cal (P:=l.prog) (w:=w) (base:=base) (CX:=dX) fun f fd F=>Fw F T qT lA gV
  have vI:=BR.cal (P:=l.prog) (w:=w) (base:=base) (CX:=dX) fun f fd F=>Ir F T
  have vD:=BJ.cal (P:=l.prog) (w:=w) (base:=base) (CX:=dX) fun f fd F=>Il F T
  have vG:=BL.cal (P:=l.prog) (w:=w) (base:=base) (CX:=dX) fun f fd F=>Io F T vD
  have lE:=BK.cal (P:=l.prog) (w:=w) (base:=base) (CX:=dX) fun f fd F=>Im F T
  have Ek:=K9.cal (P:=l.prog) (w:=w) (base:=base) (CX:=dX) fun f fd F=>Pk F T vG lE
  have El:=La.cal (P:=l.prog) (w:=w) (base:=base) (CX:=dX) fun f fd F=>Pn F T lE
  have pB:=zz.cal (P:=l.prog) (w:=w) (base:=base) (CX:=dX) fun f fd F=>FN F T
  have qH:=wC.cal (P:=l.prog) (w:=w) (base:=base) (CX:=dX) fun f fd F=>CZ F T pB
  have jr:=wB.cal (P:=l.prog) (w:=w) (base:=base) (CX:=dX) fun f fd F=>CW F T
  have iY:=pI.cal (P:=l.prog) (w:=w) (base:=base) (CX:=dX) fun f fd F=>uZ F T
  have qG:=wA.cal (P:=l.prog) (w:=w) (base:=base) (CX:=dX) fun f fd F=>CV F T jr iY
  have sU:=zq.cal (P:=l.prog) (w:=w) (base:=base) (CX:=dX) fun f fd F=>Fy F T
  have sV:=zr.cal (P:=l.prog) (w:=w) (base:=base) (CX:=dX) fun f fd F=>Fz F T El qH jr qG sU
  have nW:=Hq.cal (P:=l.prog) (w:=w) (base:=base) (CX:=dX) fun f fd F=>LR F T
  have uE:=Ho.cal (P:=l.prog) (w:=w) (base:=base) (CX:=dX) fun f fd F=>LQ F T nW
  have mH:=wF.cal (P:=l.prog) (w:=w) (base:=base) (CX:=dX) fun f fd F=>De F T nW
  have zB:=Hs.cal (P:=l.prog) (w:=w) (base:=base) (CX:=dX) fun f fd F=>Mf F T
  have sW:=zu.cal (P:=l.prog) (w:=w) (base:=base) (CX:=dX) fun f fd F=>FJ F T zB
  have vH:=BP.cal (P:=l.prog) (w:=w) (base:=base) (CX:=dX) fun f fd F=>Ip F T
  have uF:=Hr.cal (P:=l.prog) (w:=w) (base:=base) (CX:=dX) fun f fd F=>Ma F T sW vH
  exact A.Wv (Wh F T pA vI Ek sV uE mH uF) fun ns hl=>by first|exact Mr.rC ns|exact Mr.rC ns hl
end JD
open PySem PySem.W PyProof.Rows
set_option maxRecDepth 100000 in
set_option maxHeartbeats 0 in
theorem PySem.Challenge.cw_arrowfind_k23_whole_say_the_same_holds : PySem.Challenge.rw_arrowfind_k23_whole_say_the_same.Holds := by
 w_on;o_law;k_head;(case hw=>w_witness2)
 k_fill
 refine JD.walk (l:=PySem.Challenge.rw_arrowfind_k23_whole_say_the_same) rfl rfl (fun w h Y=>PySem.W.km_in_of Y) ?L ?K ⟨_,rfl⟩ ?H ?F
 case L =>
  intro w
  kernel_rfl
 case K =>
  intro w
  kernel_rfl
 case H =>
  intro w
  kernel_rfl
 case F =>
  intro w mg fa h KX G hmg
  refine' JD.Xj hmg ?T ?lW ?zA ?zp ?By ?mW ?uD ?jO ?zm ?BR ?BJ ?BL ?BK ?K9 ?La ?zz ?wC ?wB ?pI ?wA ?zq ?zr ?Hq ?Ho ?wF ?Hs ?zu ?BP ?Hr ?Vu
  case T =>
   refine' JD.Vy KX G ?Cd ?uI ?Ca ?BZ ?uH ?xf ?lF ?Ci ?Cg ?xg ?BW ?Ce ?BV ?mJ ?rG ?nY ?BX
   (case Cd=>k_is)
   (case uI=>k_is)
   (case Ca=>k_is)
   (case BZ=>k_is)
   (case uH=>k_is)
   (case xf=>k_is)
   (case lF=>k_is)
   (case Ci=>k_is)
   (case Cg=>k_is)
   (case xg=>k_is)
   (case BW=>k_is)
   (case Ce=>k_is)
   (case BV=>k_is)
   (case mJ=>k_is)
   (case rG=>k_is)
   (case nY=>k_is)
   (case BX=>k_is)
  case mW =>
   refine' L2.TF (c:=JD.cN) KX G (fun _ _ _ _ _ _ us hl=>match us,hl with|[_,_],_=>rfl) ?a ?l ?c ?k
   (case a=>k_is);(case l=>k_is);(case c=>k_is);(case k=>k_is)
  all_goals
   first
    | (refine' L2.DG KX G (fun _ _ _ _ _ _ us hl=>match us,hl with|[_],_=>rfl) ?a ?l ?c ?k;(case a=>k_is);(case l=>k_is);(case c=>k_is);(case k=>k_is))
    | (refine' L2.DG KX G (fun _ _ _ _ _ _ us hl=>match us,hl with|[_,_],_=>rfl) ?a ?l ?c ?k;(case a=>k_is);(case l=>k_is);(case c=>k_is);(case k=>k_is))
    | (refine' L2.DG KX G (fun _ _ _ _ _ _ us hl=>match us,hl with|[_,_,_],_=>rfl) ?a ?l ?c ?k;(case a=>k_is);(case l=>k_is);(case c=>k_is);(case k=>k_is))
    | (refine' L2.DG KX G (fun _ _ _ _ _ _ us hl=>match us,hl with|[_,_,_,_],_=>rfl) ?a ?l ?c ?k;(case a=>k_is);(case l=>k_is);(case c=>k_is);(case k=>k_is))
