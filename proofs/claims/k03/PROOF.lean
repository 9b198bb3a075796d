import PyProof.Rows.All
import Wide.All
import OpenK.AllK
import Wide.FinOn
import Lean
import PyProof.EqAt
import PyProof.EqKinds
import PyProof.TupleCall
import PySem.Str
import PyProof.NeKinds
import PyProof.Draws
import PyProof.EnumMake
import PyProof.ZipIter
import KE.KSortTup
import KE.KLam
import PyProof.Rows.SortStr
import PyProof.Rows.FactsT3
import PyProof.StrOps2
import PyProof.StrLawsRepr
import PyProof.Rows.StrCase
import PySem.Challenge.RW_arrowfind_k03_nets_refused
set_option maxRecDepth 100000
set_option maxHeartbeats 4000000
set_option Elab.async false
set_option linter.all false
namespace L2
open PySem PySem.Spec PyProof.Rows
abbrev Key:=Sum Int Str
def Dq:Key→Value→Bool
 | .inl k,v=>Value.isInt k v
 | .inr x,v=>Value.isStrOf x v
def aco(w:World):Key→Int
 | .inl k=>hashInt k
 | .inr x=>hashStr w x
theorem gO:∀ {k:Key} {v:Value},Dq k v=true→(∃ i t,k=Sum.inl i∧v=Value.int i t)∨(∃ x t,k=Sum.inr x∧v=Value.str x t)
 | .inl i,v,h=>by
  obtain⟨t,e⟩:=Value.isInt_shape (k:=i) (v:=v) h
  exact .inl ⟨i,t,rfl,e⟩
 | .inr x,v,h=>by
  obtain⟨t,e⟩:=Value.isStrOf_shape (x:=x) (v:=v) h
  exact .inr ⟨x,t,rfl,e⟩
theorem O9(i:Int)(t:Tok):Dq (.inl i) (.int i t)=true:=by simp[Dq,Value.isInt]
theorem O8(x:Str)(t:Tok):Dq (.inr x) (.str x t)=true:=by simp[Dq,Value.isStrOf]
theorem Y8(a b:Int):decide ((Sum.inl a:Key)=Sum.inl b)=(a == b):=by
 by_cases e:a=b
 ·subst e;simp
 ·have h:¬ (Sum.inl a:Key)=Sum.inl b:=fun q=>e (Sum.inl.inj q)
  rw[decide_eq_false h]
  exact(beq_eq_false_iff_ne.mpr e).symm
theorem Y5(a b:Str):decide ((Sum.inr a:Key)=Sum.inr b)=decide (a=b):=by
 by_cases e:a=b
 ·subst e;simp
 ·have h:¬ (Sum.inr a:Key)=Sum.inr b:=fun q=>e (Sum.inr.inj q)
  rw[decide_eq_false h,decide_eq_false e]
theorem Y7(a:Int)(b:Str):decide ((Sum.inl a:Key)=Sum.inr b)=false:=decide_eq_false (fun q=>nomatch q)
theorem Y6(a:Str)(b:Int):decide ((Sum.inr a:Key)=Sum.inl b)=false:=decide_eq_false (fun q=>nomatch q)
def ji(prog:Program)(w:World):PySem.KeyKind prog w Key where
 is:=Dq
 hash:=aco w
 inj:=fun v a b ha hb=>by
  rcases gO ha with ⟨i,t,rfl,rfl⟩|⟨x,t,rfl,rfl⟩
  ·rcases gO hb with ⟨j,u,rfl,e⟩|⟨y,u,rfl,e⟩
   ·injection e with e1 _;rw[e1]
   ·exact nomatch e
  ·rcases gO hb with ⟨j,u,rfl,e⟩|⟨y,u,rfl,e⟩
   ·exact nomatch e
   ·injection e with e1 _;rw[e1]
 byValue:=fun k v h=>by
  rcases gO h with ⟨i,t,rfl,rfl⟩|⟨x,t,rfl,rfl⟩<;>rfl
 pyHash:=fun hv h=>by
  rcases gO hv with ⟨i,t,rfl,rfl⟩|⟨x,t,rfl,rfl⟩
  ·exact wpAny_pyHash_int h
  ·exact wpAny_pyHash_str h
 eqBool:=fun hu hv h=>by
  rcases gO hu with ⟨i,t,rfl,rfl⟩|⟨x,t,rfl,rfl⟩
  ·rcases gO hv with ⟨j,u,rfl,rfl⟩|⟨y,u,rfl,rfl⟩
   ·rw[Y8] at h;exact wpAny_eqBool_int h
   ·rw[Y7] at h;exact SeqAt.EqAt.int_str i t y u _ _ _ _ h
  ·rcases gO hv with ⟨j,u,rfl,rfl⟩|⟨y,u,rfl,rfl⟩
   ·rw[Y6] at h;exact SeqAt.EqAt.str_int x t j u _ _ _ _ h
   ·rw[Y5] at h;exact wpAny_eqBool_str h
 «strs»:=fun k x t v h=>by
  rcases gO h with ⟨i,u,rfl,e⟩|⟨y,u,rfl,e⟩
  ·exact nomatch e
  ·injection e with e1 _
   subst e1
   cases v<;>rfl
theorem H9(prog:Program)(w:World)(i:Int)(t:Tok):(ji prog w).is (.inl i) (.int i t)=true:=O9 i t
theorem HY(prog:Program)(w:World)(x:Str)(t:Tok):(ji prog w).is (.inr x) (.str x t)=true:=O8 x t
end L2
namespace L2
open PySem PySem.Spec PyProof.Rows
inductive V where
 | non|bl (b:Bool)|int (i:Int)|str (x:Str)|byt (b:Array UInt8)|flt (b:UInt64)|ref (a:Addr)|ty (n:String)
 deriving DecidableEq
def RelV:V→Value→Prop
 | .non,u=>u=Value.none
 | .bl b,u=>u=Value.bool b
 | .int i,u=>∃ t,u=Value.int i t
 | .str x,u=>∃ t,u=Value.str x t
 | .byt b,u=>∃ t,u=Value.bytes b t
 | .flt b,u=>∃ t,u=Value.float b t
 | .ref a,u=>u=Value.ref a
 | .ty n,u=>u=Value.type n
abbrev Vals:List V→List Value→Prop:=Paired RelV
theorem Vals.length{xs:List V}{us:List Value}(r:Vals xs us):xs.length=us.length:=Paired.length r
theorem Vals.get:∀ {xs:List V} {us:List Value} {i:Nat} {x:V},Vals xs us→xs[i]? = some x→∃ u,us[i]? = some u∧RelV x u
 | _,_,_,_,.nil,e=>by simp at e
 | _,_,0,_,.cons r _,e=>by simp at e;subst e;exact⟨_,rfl,r⟩
 | _,_,i+1,x,.cons _ t,e=>by
  obtain⟨u,h1,h2⟩:=Vals.get (i:=i) (x:=x) t (by simpa using e)
  exact⟨u,by simpa using h1,h2⟩
theorem Vals.set{x:V}{u:Value}(r:RelV x u):∀ {xs:List V} {us:List Value} (i:Nat),Vals xs us→Vals (xs.set i x) (us.set i u)
 | _,_,_,.nil=>.nil
 | _,_,0,.cons _ t=>.cons r t
 | _,_,i+1,.cons q t=>.cons q (Vals.set r i t)
theorem Vals.append:∀ {xs ys:List V} {us ws:List Value},Vals xs us→Vals ys ws→Vals (xs++ys) (us++ws)
 | _,_,_,_,.nil,s=>s
 | _,_,_,_,.cons r t,s=>.cons r (Vals.append t s)
theorem Vals.take:∀ {xs:List V} {us:List Value} (n:Nat),Vals xs us→Vals (xs.take n) (us.take n)
 | _,_,0,_=>.nil
 | _,_,_+1,.nil=>.nil
 | _,_,n+1,.cons r t=>.cons r (Vals.take n t)
theorem Vals.drop:∀ {xs:List V} {us:List Value} (n:Nat),Vals xs us→Vals (xs.drop n) (us.drop n)
 | _,_,0,r=>r
 | _,_,_+1,.nil=>.nil
 | _,_,n+1,.cons _ t=>Vals.drop n t
def Ln:Option V→Option Value→Prop
 | some v,some u=>RelV v u
 | none,none=>True
 | _,_=>False
def KV{κ : Type}:List (κ×V)→List (κ×Value)→Prop:=Paired fun (p:κ×V) (q:κ×Value)=>p.1=q.1∧RelV p.2 q.2
def kV:Key→V
 | .inl i=>.int i
 | .inr x=>.str x
def Qf(h:Heap)(a:Addr)(its:Array Value):Prop:=∃ o,h.get? a=some o∧o.cls=.type "tuple" ∧ o.dict=none∧∃ n,o.data=.seq its n
theorem Qf.tup{h:Heap}{a:Addr}{its:Array Value}(x:Qf h a its):IsTup h a its:=let ⟨o,e,c,_,d⟩:=x;⟨o,e,c,d⟩
theorem Qf.new(h:Heap)(its:Array Value):Qf (h.push { cls:=.type "tuple", data:=.seq its }) h.objs.size its:=⟨_,Heap.get?_push_size _ rfl,rfl,rfl,_,rfl⟩
inductive HO where
 /-- a list -/
 | lst (xs:List V)
 /-- a tuple (never changes) -/
 | tup (xs:List V)
 /-- a dict whose keys are ints and texts;one whose keys are tuples of ints and texts (the empty one is both) -/
 | dK (kvs:List (Key×V))|dT (kvs:List (List Key×V))
 /-- a set of ints: its members,its size -/
 | set (S:Int→Bool) (n:Nat)
 /-- an instance of the class at C,its dict at dx,its attributes -/
 | ins (C dx:Addr) (fs:List (Str×V))
 /-- the dict of the instance at x -/
 | own (x:Addr)
 /-- the dict of an exception -/
 | xd (fs:List (Str×V))
 /-- a bound method,f of x -/
 | met (f x:Addr)
 /-- a range object lo,lo+1,.. below hi -/
 | rng (lo hi:Int)
 /-- a thing that is known to the object (the script;a dict while a loop walks it): read,never written while it is so -/
 | frz (o:Obj) (u:HO)
 /-- a code object's table -/
 | tbl (w:Str) (ps:Array Value)
 /-- any other thing,by what is true of its one object (a def of one's own: ac8 a S n:=HO.ext fun h=>..) -/
 | ext (φ : Heap→Prop)
abbrev Hp:=Addr→Option HO
def upd(H:Hp)(a:Addr)(o:HO):Hp:=fun b=>if b=a then some o else H b
theorem bc{H:Hp}{a:Addr}{o:HO}:upd H a o a=some o:=by unfold upd;rw[if_pos rfl]
theorem aM{H:Hp}{a b:Addr}{o:HO}(h:b≠a):upd H a o b=H b:=by unfold upd;rw[if_neg h]
theorem aa2{H:Hp}{a b:Addr}{o u:HO}(h:H a=some o)(h':H b=some u)(d:o≠u):a≠b:=by
 intro e;subst e;rw[h] at h';exact d (Option.some.inj h')
theorem bf{H:Hp}{a b:Addr}{o:HO}(h:H a=some o)(h':H b=none):a≠b:=by
 intro e;subst e;rw[h] at h';cases h'
section
variable(P:Program)(w:World)
def di(H:Hp)(h:Heap)(a:Addr):HO→Prop
 | .lst xs=>xs.length≤sizeLine∧∃ (its:List Value) (n:Nat),Vals xs its∧h.get? a=some { cls:=.type "list", data:=.seq its.toArray n }
 | .tup xs=>xs.length≤sizeLine∧∃ its:List Value,Vals xs its∧Qf h a its.toArray
 | .dK kvs=>kvs.length≤sizeLine∧(a == sysModules)=false∧∃ vs,KV kvs vs∧h.DictOf (ji P w) a vs
 | .dT kvs=>kvs.length≤sizeLine∧(a == sysModules)=false∧∃ xs:List (List Key×Addr×Value),
  Paired (fun (p:List Key×V) (q:List Key×Addr×Value)=>p.1=q.1∧H q.2.1=some (.tup (p.1.map kV))∧RelV p.2 q.2.2) kvs xs ∧
  ∃ o es ep,h.get? a=some o∧o.ExactDict∧o.data=.dict es ep∧es.toList=xs.map (entryOfKey (tupleKind (ji P w)))∧(xs.map (·.1)).Nodup
 | .set S n=>h.SetOf (intKind P w) a S n
 | .ins C dx fs=>H dx=some (.own a)∧fs.length≤1000∧dx≠a∧h.get? a=some (PySem.W.instObj C dx) ∧
  ∃ mA,h.Ns1 dx mA∧(∀ f,Ln (fs.lookup f) (mA f))∧PySem.Within mA (fs.map (·.1))
 | .own _=>∃ o,h.get? a=some o
 | .xd fs=>∃ mA,h.Ns1 a mA∧∀ f,Ln (fs.lookup f) (mA f)
 | .rng lo hi=>∃ t u v,h.get? a=some { cls:=.type "range", data:=.fields #[.int lo t,.int hi u,.int 1 v] }
 | .frz o u=>h.get? a=some o∧di H h a u
 | .tbl _ ps=>h.get? a=some { cls:=.none,data:=.fields ps }
 | .met f x=>h.get? a=some (PySem.W.methodObj (.ref f) (.ref x))
 | .ext φ=>φ h∧(∃ o,h.get? a=some o)∧∀ h1 h2:Heap,φ h1→(∀ o,h1.get? a=some o→h2.get? a=some o)→φ h2
def qX(H:Hp)(h:Heap):Prop:=∀ a o,H a=some o→di P w H h a o
end
section
variable{P:Program}{w:World}{H H':Hp}{h h':Heap}{a:Addr}{o:HO}
theorem di.lt(x:di P w H h a o):a < h.objs.size:=by
 cases o with
 | lst xs=>obtain⟨_,_,_,_,e⟩:=x;exact Heap.lt_size e
 | tup xs=>obtain⟨_,_,_,p⟩:=x;exact p.tup.lt
 | dK kvs=>obtain⟨_,_,_,_,o,_,_,e,_⟩:=x;exact Heap.lt_size e
 | dT kvs=>obtain⟨_,_,_,_,o,_,_,e,_⟩:=x;exact Heap.lt_size e
 | set S n=>obtain⟨o,_,_,_,e,_⟩:=x;exact Heap.lt_size e
 | ins C dx fs=>obtain⟨_,_,_,e,_⟩:=x;exact Heap.lt_size e
 | own y=>obtain⟨_,e⟩:=x;exact Heap.lt_size e
 | xd fs=>obtain⟨_,⟨_,_,_,e,_⟩,_⟩:=x;exact Heap.lt_size e
 | rng lo hi=>obtain⟨_,_,_,e⟩:=x;exact Heap.lt_size e
 | frz ob u=>obtain⟨e,_⟩:=x;exact Heap.lt_size e
 | tbl w ps=>exact Heap.lt_size (show h.get? a=some _ from x)
 | met f y=>exact Heap.lt_size (show h.get? a=some _ from x)
 | ext φ=>obtain⟨_,⟨_,e⟩,_⟩:=x;exact Heap.lt_size e
theorem Paired.YM{α β : Type}{F G:α→β→Prop}:∀ {l₁:List α} {l₂:List β},Paired F l₁ l₂→(∀ a b,F a b→G a b)→Paired G l₁ l₂
 | _,_,.nil,_=>.nil
 | _,_,.cons r t,f=>.cons (f _ _ r) (Paired.YM t f)
theorem di.stay(x:di P w H h a o)(k:∀ b u,(b=a∨H b=some (.own a))→h.get? b=some u→h'.get? b=some u)
 (ho:∀ b,H b=some (.own a)→H' b=some (.own a)) (ht:∀ b xs,H b=some (.tup xs)→H' b=some (.tup xs)):di P w H' h' a o:=by
 induction o with
 | lst xs=>obtain⟨z,its,n,r,e⟩:=x;exact⟨z,its,n,r,k _ _ (.inl rfl) e⟩
 | tup xs=>obtain⟨z,its,r,ob,e,c⟩:=x;exact⟨z,its,r,ob,k _ _ (.inl rfl) e,c⟩
 | dK kvs=>obtain⟨z,y,vs,r,ob,es,ep,e,c⟩:=x;exact⟨z,y,vs,r,ob,es,ep,k _ _ (.inl rfl) e,c⟩
 | dT kvs =>
  obtain⟨z,y,xs,r,ob,es,ep,e,c⟩:=x
  exact⟨z,y,xs,Paired.YM r fun p q z=>⟨z.1,ht _ _ z.2.1,z.2.2⟩,ob,es,ep,k _ _ (.inl rfl) e,c⟩
 | set S n=>obtain⟨ob,es,ep,t,e,c⟩:=x;exact⟨ob,es,ep,t,k _ _ (.inl rfl) e,c⟩
 | ins C dx fs =>
  obtain⟨d,z,ne,e,mA,⟨od,es,ep,e2,c⟩,r⟩:=x
  exact⟨ho _ d,z,ne,k _ _ (.inl rfl) e,mA,⟨od,es,ep,k _ _ (.inr d) e2,c⟩,r⟩
 | own y=>obtain⟨ob,e⟩:=x;exact⟨ob,k _ _ (.inl rfl) e⟩
 | xd fs=>obtain⟨mA,⟨od,es,ep,e,c⟩,r⟩:=x;exact⟨mA,⟨od,es,ep,k _ _ (.inl rfl) e,c⟩,r⟩
 | rng lo hi=>obtain⟨t,u,v,e⟩:=x;exact⟨t,u,v,k _ _ (.inl rfl) e⟩
 | frz ob u ih=>obtain⟨e,q⟩:=x;exact⟨k _ _ (.inl rfl) e,ih q⟩
 | tbl w ps =>
  have e:h.get? a=some { cls:=.none,data:=.fields ps }:=x
  show h'.get? a=some { cls:=.none,data:=.fields ps }
  exact k a _ (.inl rfl) e
 | met f y =>
  have e:h.get? a=some (PySem.W.methodObj (.ref f) (.ref y)):=x
  show h'.get? a=some (PySem.W.methodObj (.ref f) (.ref y))
  exact k a _ (.inl rfl) e
 | ext φ=>obtain⟨p,⟨o,e⟩,st⟩:=x;exact⟨st _ _ p fun o q=>k _ _ (.inl rfl) q,⟨o,k _ _ (.inl rfl) e⟩,st⟩
theorem qX.lt(x:qX P w H h)(e:H a=some o):a < h.objs.size:=(x a o e).lt
theorem qX.fresh(x:qX P w H h)(e:h.objs.size≤a):H a=none:=by
 cases q:H a with
 | none=>rfl
 | some u=>exact absurd (Nat.lt_of_lt_of_le (x.lt q) e) (Nat.lt_irrefl _)
theorem qX.kept(x:qX P w H h)(k:∀ b u,h.get? b=some u→h'.get? b=some u):qX P w H h':=fun a o e =>
 (x a o e).stay (fun b u _ q=>k b u q) (fun _ q=>q) fun _ _ q=>q
theorem qX.laid(x:qX P w H h)(k:∀ b u,h.get? b=some u→h'.get? b=some u)(hp:h.objs.size≤a)(new:di P w (upd H a o) h' a o):qX P w (upd H a o) h':=fun b u e=>by
 have hn:=x.fresh hp
 by_cases hb:b=a
 ·subst hb;rw[bc] at e;cases e;exact new
 ·rw[aM hb] at e
  exact(x b u e).stay (fun c v _ q=>k c v q) (fun c q=>by rw[aM (bf q hn)];exact q) fun c xs q=>by rw[aM (bf q hn)];exact q
end
def Rd(H:Hp)(a:Addr)(u:HO):Prop:=H a=some u∨∃ o,H a=some (.frz o u)
theorem Rd.ok{P:Program}{w:World}{H:Hp}{h:Heap}{a:Addr}{u:HO}(r:Rd H a u)(x:qX P w H h):di P w H h a u:=by
 rcases r with r|⟨o,r⟩
 ·exact x a u r
 ·obtain⟨_,q⟩:=x a _ r
  exact q
def Mut:Option HO→Prop
 | some (.lst _)=>True
 | some (.dK _)=>True
 | some (.dT _)=>True
 | some (.set _ _)=>True
 | some (.ins _ _ _)=>True
 | some (.ext _)=>True
 | _=>False
section
variable{P:Program}{w:World}{H:Hp}{h h':Heap}{x e:Addr}{o':HO}
theorem qX.write(ok:qX P w H h)(mu:Mut (H x))(he:e=x∨H e=some (.own x))(k:∀ b u,b≠e→h.get? b=some u→h'.get? b=some u)(heo:∃ u,h'.get? e=some u)
 (new:di P w (upd H x o') h' x o'):qX P w (upd H x o') h':=fun b u q=>by
 have aa0:∀ c y,H c=some (.own y)→c≠x:=fun c y r z=>by subst z;rw[r] at mu;exact mu
 have ace:∀ c xs,H c=some (.tup xs)→c≠x:=fun c xs r z=>by subst z;rw[r] at mu;exact mu
 by_cases hb:b=x
 ·subst hb;rw[bc] at q;cases q;exact new
 ·rw[aM hb] at q
  by_cases hbe:b=e
  ·have q':H b=some (.own x):=by
    rcases he with z|z
    ·exact absurd (hbe.trans z) hb
    ·rw[hbe];exact z
   rw[q] at q';cases q'
   obtain⟨v,hv⟩:=heo
   exact⟨v,by rw[hbe];exact hv⟩
  ·refine(ok b u q).stay (fun c v hc r=>k c v ?_ r) (fun c r=>by rw[aM (aa0 c b r)];exact r) fun c xs r=>by rw[aM (ace c xs r)];exact r
   rcases hc with rfl|hc
   ·exact hbe
   ·rintro rfl
    rcases he with z|z
    ·exact aa0 c b hc z
    ·rw[hc] at z;cases z;exact hb rfl
end
structure Un(fs ex:List Addr)(H H':Hp)(h h':Heap):Prop where
 keep:∀ b o,h.get? b=some o→H b=none→b∉fs→b∉ex→h'.get? b=some o
 slot:∀ b o,h.get? b=some o→H b=none→b∈fs→b∉ex→∃ sl,h'.get? b=some { o with slots:=sl }
 free:∀ b o,h.get? b=some o→H b=none→b∉ex→H' b=none
 there:∀ b o,h.get? b=some o→b∉ex→∃ o',h'.get? b=some o'
 tups:∀ b xs,H b=some (.tup xs)→H' b=some (.tup xs)
 ye:∀ b o u,H b=some (.frz o u)→H' b=some (.frz o u)
 xK:∀ b w ps,H b=some (.tbl w ps)→∃ more,H' b=some (.tbl w (ps++more))
section
variable{fs fs' ex ex':List Addr}{H H1 H2:Hp}{h h1 h2 h':Heap}{a x e:Addr}{o:HO}
theorem Un.any(u:Un fs ex H H1 h h1){b:Addr}{ob:Obj}(q:h.get? b=some ob)(n:H b=none)(hx:b∉ex):∃ sl,h1.get? b=some { ob with slots:=sl }:=by
 by_cases hb:b∈fs
 ·exact u.slot b ob q n hb hx
 ·exact⟨ob.slots,u.keep b ob q n hb hx⟩
theorem Un.kept(k:∀ b u,h.get? b=some u→h'.get? b=some u):Un fs ex H H h h' :=
 ⟨fun b ob q _ _ _=>k b ob q,fun b ob q _ _ _=>⟨ob.slots,k b ob q⟩,fun _ _ _ n _=>n,fun b ob q _=>⟨ob,k b ob q⟩,fun _ _ q=>q,fun _ _ _ q=>q,fun _ w ps q=>⟨#[],by rw[q];simp⟩⟩
theorem Un.refl:Un fs ex H H h h:=Un.kept fun _ _ q=>q
theorem Un.laid(k:∀ b u,h.get? b=some u→h'.get? b=some u)(hp:h.objs.size≤a)(hn:H a=none):Un fs ex H (upd H a o) h h' where
 keep:=fun b u q _ _ _=>k b u q
 slot:=fun b u q _ _ _=>⟨u.slots,k b u q⟩
 free:=fun b u q n _=>by rw[aM (Nat.ne_of_lt (Nat.lt_of_lt_of_le (Heap.lt_size q) hp))];exact n
 there:=fun b u q _=>⟨u,k b u q⟩
 tups:=fun b xs q=>by rw[aM (bf q hn)];exact q
 ye:=fun b u xs q=>by rw[aM (bf q hn)];exact q
 xK:=fun b w ps q=>⟨#[],by rw[aM (bf q hn),q];simp⟩
theorem Un.write(mu:Mut (H x))(he:e=x∨H e=some (.own x))(k:∀ b u,b≠e→h.get? b=some u→h'.get? b=some u)(heo:∃ u,h'.get? e=some u):Un fs ex H (upd H x o) h h':=by
 have hx:∀ b,H b=none→b≠x:=fun b n z=>by subst z;rw[n] at mu;exact mu
 have hb:∀ b,H b=none→b≠e:=fun b n z=>by
  subst z
  rcases he with r|r
  ·exact hx b n r
  ·rw[n] at r;cases r
 have hm:∀ b u,H b=some u→¬ Mut (some u)→b≠x:=fun b u q nm z=>by subst z;rw[q] at mu;exact nm mu
 refine⟨fun b u q n _ _=>k b u (hb b n) q,fun b u q n _ _=>⟨u.slots,k b u (hb b n) q⟩,fun b u q n _=>by rw[aM (hx b n)];exact n,fun b u q _=>?_,
  fun b xs q=>by rw[aM (hm b _ q fun z=>z)];exact q,fun b u xs q=>by rw[aM (hm b _ q fun z=>z)];exact q,fun b w ps q=>⟨#[],by rw[aM (hm b _ q fun z=>z),q];simp⟩⟩
 by_cases hbe:b=e
 ·subst hbe;exact heo
 ·exact⟨u,k b u hbe q⟩
end
def trk(h:Heap)(H:Hp):List Addr:=(List.range h.objs.size).filter fun a=>(H a).isSome
def Bt(h:Heap)(H:Hp):Heap:=PySem.W.hideAll h (trk h H)
theorem Ph(h:Heap)(H:Hp):(Bt h H).objs.size=h.objs.size:=PySem.W.hideAll_size _ _
theorem Ti{h:Heap}{H:Hp}{b:Addr}{o:Obj}(e:h.get? b=some o)(n:H b=none):(Bt h H).get? b=some o :=
 PySem.W.hideAll_get _ e fun hm=>by
  have q:(H b).isSome=true:=(List.mem_filter.mp hm).2
  rw[n] at q;simp at q
theorem Vx{h:Heap}{H:Hp}{b:Addr}{o:Obj}(e:(Bt h H).get? b=some o):h.get? b=some o∧H b=none:=by
 have e':h.get? b=some o:=PySem.W.of_hideAll (trk h H) e
 refine⟨e',?_⟩
 cases q:H b with
 | none=>rfl
 | some x =>
  have hm:b∈trk h H:=List.mem_filter.mpr ⟨List.mem_range.mpr (Heap.lt_size e'),by simp[q]⟩
  have z:(Bt h H).get? b=none:=PySem.W.hideAll_none (trk h H) hm
  rw[z] at e;cases e
end L2
namespace L2
open PySem PySem.Spec PyProof.Rows
structure Mod(K:PySem.W.Frag)(mg:Str→Option Value)(base:Heap):Prop where
 kin:K.In base
 glob:base.Ns mainGlobals mg
 blt:∃ mb,base.Ns builtinsNs mb∧∀ x:Str,x ≠ "__name__" → mb x=bootBuiltins x
 nolimit:base.NoLimit
structure Cx where
 prog:Program
 w:World
 K:PySem.W.Frag
 mg:Str→Option Value
 base:Heap
 A:Around
 N:List Str
 s₀:Shared
 H₀:Hp
 env:Env
 outer:List Env
 stack:List Env
 ex:List Addr
 fn:Str→Bool
 calm:Bool
 pn:List (Addr×Obj)
 xe:Value→Shared→Prop
def frs(l:List Env):List Addr:=l.filterMap (·.frame)
abbrev Cx.fs(X:Cx):List Addr:=frs X.outer
def Vis(sc:Scope)(x:Str):Prop:=sc.names.lookup x=some .local∨sc.names.lookup x=some .cell∨sc.names.lookup x=some .free
def Loc(sc:Scope)(x:Str):Prop:=sc.names.lookup x=some .local∨sc.names.lookup x=some .cell
def Look(env:Env)(h:Heap)(m:Str→Option Value)(x:Str)(u:Value):Prop :=
 (env.kindOf x=some .local∧m x=some u)∨((env.kindOf x=some .cell∨env.kindOf x=some .free)∧∃ c,env.cells.lookup x=some c∧h.IsCell c (some u))
structure Cx.Ok(X:Cx):Prop where
 mod:Mod X.K X.mg X.base
 kind:X.env.scope.kind=.function
 glob:X.env.globals=mainGlobals
 blt:X.env.builtins=builtinsNs
 above:X.s₀.heap.objs.size≤X.env.locals
 inj:∀ x y c,X.env.cells.lookup x=some c→X.env.cells.lookup y=some c→x=y
 has:∀ x,(X.env.kindOf x=some .cell∨X.env.kindOf x=some .free)→∃ c,X.env.cells.lookup x=some c
 cab:∀ x c,X.fn x=true→X.env.cells.lookup x=some c→X.s₀.heap.objs.size≤c
 hd:X.calm=true→X.A.handled=none
 frames:X.A.frames=some X.stack
 stk:X.stack=X.outer∨(X.stack=X.env::X.outer∧X.env.frame=some X.env.locals)
 exf:∀ b∈X.ex,b≠X.env.locals∧∀ x c,X.env.cells.lookup x=some c→c≠b
 bs:∀ b o,X.base.get? b=some o→X.s₀.heap.get? b=some o∧X.H₀ b=none
 bsz:X.base.objs.size≤X.s₀.heap.objs.size
 Kl:∀ b o,X.base.get? b=some o→b∉X.ex
 Pk:∀ b∈X.ex,b∉X.fs
 tQ:X.s₀.heap.FunFrames X.base X.outer
 frf:∀ b∈X.fs,X.H₀ b=none
structure Inv(X:Cx)(pins:List (Addr×Obj))(σ : List (Option V))(H:Hp)(s:Shared):Prop where
 ok:X.Ok
 os:s.os=X.s₀.os
 bare:AllBare s.gens
 base:Un X.fs X.ex X.H₀ H X.s₀.heap s.heap
 loc:∃ m,s.heap.Ns X.env.locals m∧∀ (i:Nat) (x:Str) (v:V),X.N[i]? = some x→σ[i]? = some (some v)→Vis X.env.scope x→∃ u,RelV v u∧Look X.env s.heap m x u
 cell:∀ x c,X.env.cells.lookup x=some c→∃ v,s.heap.IsCell c v
 free:H X.env.locals=none
 nP:∀ x c,X.env.cells.lookup x=some c→H c=none
 pin:∀ p∈X.pn++pins,s.heap.get? p.1=some p.2∧H p.1=none∧p.1≠X.env.locals∧p.1∉X.fs∧∀ v,p.2.data≠.cell v
 hok:qX X.prog X.w H s.heap
 len:σ.length=X.N.length
section
variable{X:Cx}{pins:List (Addr×Obj)}{σ : List (Option V)}{H H':Hp}{s:Shared}{h':Heap}
theorem Cx.Ok.acg(ok:X.Ok){b:Addr}{o:Obj}(e:X.base.get? b=some o):b∉X.fs:=fun hb=>by
 have:=(ok.tQ.mem hb).1
 rw[e] at this;cases this
theorem Inv.bs(I:Inv X pins σ H s):∀ b o,X.base.get? b=some o→s.heap.get? b=some o∧H b=none:=fun b o e =>
 ⟨I.base.keep b o (I.ok.bs b o e).1 (I.ok.bs b o e).2 (I.ok.acg e) (I.ok.Kl b o e),I.base.free b o (I.ok.bs b o e).1 (I.ok.bs b o e).2 (I.ok.Kl b o e)⟩
theorem Inv.bk(I:Inv X pins σ H s):∀ b o,X.base.get? b=some o→s.heap.get? b=some o:=fun b o e=>(I.bs b o e).1
theorem Inv.mod(I:Inv X pins σ H s):Mod X.K X.mg X.base:=I.ok.mod
theorem Inv.yX(I:Inv X pins σ H s):X.K.In s.heap:=I.ok.mod.kin.keeps I.bk
theorem Inv.nolimit(I:Inv X pins σ H s):s.heap.NoLimit:=I.ok.mod.nolimit.keeps I.bk
theorem Inv.lt(I:Inv X pins σ H s):X.env.locals < s.heap.objs.size:=let ⟨_,hn,_⟩:=I.loc;hn.lt
theorem Inv.sz(I:Inv X pins σ H s):X.s₀.heap.objs.size≤s.heap.objs.size:=Nat.le_trans I.ok.above (Nat.le_of_lt I.lt)
theorem Inv.acf(I:Inv X pins σ H s){a:Addr}(h:s.heap.objs.size≤a):a∉X.fs:=fun hb=>by
 obtain⟨_,o,ho,_⟩:=I.ok.tQ.mem hb
 exact absurd (Nat.lt_of_lt_of_le (Heap.lt_size ho) (Nat.le_trans I.sz h)) (Nat.lt_irrefl _)
theorem Inv.Wj(I:Inv X pins σ H s):∀ x c,X.env.cells.lookup x=some c→c≠X.env.locals:=fun x c e z=>by
 obtain⟨v,o,ho,hd⟩:=I.cell x c e
 obtain⟨m,⟨o',es,ep,ho',hd',_⟩,_⟩:=I.loc
 rw[z,ho'] at ho;cases ho;rw[hd'] at hd;cases hd
theorem Inv.tQ(I:Inv X pins σ H s):s.heap.FunFrames X.base X.outer:=by
 have all:∀ (l:List Env),(∀ b∈frs l,b∈X.fs)→X.s₀.heap.FunFrames X.base l→s.heap.FunFrames X.base l:=by
  intro l
  induction l with
  | nil=>intro _ _;trivial
  | cons env r ih =>
   intro hs hl
   obtain⟨hk,⟨L,o,hf,hn,ho,hd⟩,hr⟩:=hl
   have hL:L∈X.fs:=hs L (by unfold frs;rw[List.filterMap_cons,hf];exact List.mem_cons_self)
   obtain⟨sl,e⟩:=I.base.slot L o ho (I.ok.frf L hL) hL fun z=>I.ok.Pk L z hL
   exact⟨hk,⟨L,_,hf,hn,e,hd⟩,ih (fun b hb=>hs b (by unfold frs;rw[List.filterMap_cons,hf];exact List.mem_cons_of_mem _ hb)) hr⟩
 exact all X.outer (fun _ hb=>hb) I.ok.tQ
theorem Inv.stack(I:Inv X pins σ H s):s.heap.FunFrames X.base X.stack:=by
 rcases I.ok.stk with e|⟨e,hf⟩
 ·rw[e];exact I.tQ
 ·rw[e]
  obtain⟨m,hn,_⟩:=I.loc
  refine .cons (by rw[I.ok.kind];decide) hf hn ?_ I.tQ
  exact Heap.get?_none_of_le (Nat.le_trans I.ok.bsz I.ok.above)
theorem Inv.Fb(I:Inv X pins σ H s):∀ b∈frs X.stack,b∈X.env.locals::X.fs:=fun b hb=>by
 rcases I.ok.stk with e|⟨e,hf⟩
 ·rw[e] at hb;exact List.mem_cons_of_mem _ hb
 ·rw[e] at hb
  unfold frs at hb
  rw[List.filterMap_cons,hf] at hb
  exact hb
theorem Inv.wB(I:Inv X pins σ H s):∀ b∈frs X.stack,H b=none:=fun b hb=>by
 rcases List.mem_cons.mp (I.Fb b hb) with e|hb
 ·rw[e];exact I.free
 ·obtain⟨_,o,ho,_⟩:=I.ok.tQ.mem hb
  exact I.base.free b o ho (I.ok.frf b hb) fun z=>I.ok.Pk b z hb
theorem Inv.step{g':Array GenState}{t':Nat}{d':Drawn}{ch:List Addr}(I:Inv X pins σ H s)
 (hch:∀ b∈ch,(b∈X.ex∨X.s₀.heap.objs.size≤b)∧b≠X.env.locals∧(∀ x c,X.env.cells.lookup x=some c→c≠b)∧∀ p∈X.pn++pins,p.1≠b)
 (keep:∀ b o,b≠X.env.locals→b∉X.fs→b∉ch→s.heap.get? b=some o→H b=none→h'.get? b=some o)
 (slot:∀ b o,b≠X.env.locals→b∈X.fs→b∉ch→s.heap.get? b=some o→H b=none→∃ sl,h'.get? b=some { o with slots:=sl }) (free:∀ b o,b∉ch→s.heap.get? b=some o→H b=none→H' b=none)
 (there:∀ b o,b∉ch→s.heap.get? b=some o→∃ o',h'.get? b=some o')
 (tups:∀ b xs,H b=some (.tup xs)→H' b=some (.tup xs)) (ye:∀ b o u,H b=some (.frz o u)→H' b=some (.frz o u)) (xK:∀ b w ps,H b=some (.tbl w ps)→∃ more,H' b=some (.tbl w (ps++more)))
 (ns:∀ m,s.heap.Ns X.env.locals m→h'.Ns X.env.locals m) (hok:qX X.prog X.w H' h') (hg:AllBare g') :
 Inv X pins σ H' { s with heap:=h',gens:=g',drawn:=d',toks:=t' }:=by
 have neL:∀ b o,X.s₀.heap.get? b=some o→b≠X.env.locals:=fun b o e=>Nat.ne_of_lt (Nat.lt_of_lt_of_le (Heap.lt_size e) I.ok.above)
 have neC:∀ b o,X.s₀.heap.get? b=some o→b∉X.ex→b∉ch:=fun b o e hx hb=>by
  rcases (hch b hb).1 with z|z
  ·exact hx z
  ·exact absurd (Nat.lt_of_lt_of_le (Heap.lt_size e) z) (Nat.lt_irrefl _)
 have cellK:∀ x c,X.env.cells.lookup x=some c→∀ v,s.heap.IsCell c v→h'.IsCell c v:=fun x c e v ⟨o,ho,hd⟩=>by
  have nch:c∉ch:=fun z=>(hch c z).2.2.1 x c e rfl
  by_cases hc:c∈X.fs
  ·obtain⟨sl,q⟩:=slot c o (I.Wj x c e) hc nch ho (I.nP x c e)
   exact⟨_,q,hd⟩
  ·exact⟨o,keep c o (I.Wj x c e) hc nch ho (I.nP x c e),hd⟩
 refine⟨I.ok,I.os,hg,⟨fun b o e n hb hx=>?_,fun b o e n hb hx=>?_,fun b o e n hx=>?_,fun b o e hx=>?_,fun b xs e=>tups b xs (I.base.tups b xs e),fun b o xs e=>ye b o xs (I.base.ye b o xs e),fun b w ps e=>?_⟩,?_,fun x c e=>?_,?_,fun x c e=>?_,fun p hp=>?_,hok,I.len⟩
 ·exact keep b o (neL b o e) hb (neC b o e hx) (I.base.keep b o e n hb hx) (I.base.free b o e n hx)
 ·obtain⟨sl,e1⟩:=I.base.slot b o e n hb hx
  obtain⟨sl',e2⟩:=slot b _ (neL b o e) hb (neC b o e hx) e1 (I.base.free b o e n hx)
  exact⟨sl',e2⟩
 ·obtain⟨o',e1⟩:=I.base.there b o e hx
  exact free b o' (neC b o e hx) e1 (I.base.free b o e n hx)
 ·obtain⟨o',e1⟩:=I.base.there b o e hx
  exact there b o' (neC b o e hx) e1
 ·obtain⟨m1,e1⟩:=I.base.xK b w ps e
  obtain⟨m2,e2⟩:=xK b w _ e1
  exact⟨m1++m2,by rw[e2,Array.append_assoc]⟩
 ·obtain⟨m,hn,hl⟩:=I.loc
  refine⟨m,ns m hn,fun i x v e1 e2 e3=>?_⟩
  obtain⟨u,r,l⟩:=hl i x v e1 e2 e3
  refine⟨u,r,?_⟩
  rcases l with l|⟨k,c,e,z⟩
  ·exact .inl l
  ·exact .inr ⟨k,c,e,cellK x c e _ z⟩
 ·obtain⟨v,z⟩:=I.cell x c e
  exact⟨v,cellK x c e v z⟩
 ·obtain⟨m,⟨o,_,_,ho,_⟩,_⟩:=I.loc
  exact free _ o (fun z=>(hch _ z).2.1 rfl) ho I.free
 ·obtain⟨v,o,ho,hd⟩:=I.cell x c e
  exact free c o (fun z=>(hch c z).2.2.1 x c e rfl) ho (I.nP x c e)
 ·obtain⟨e,n,ne,nf,d⟩:=I.pin p hp
  have nch:p.1∉ch:=fun z=>(hch p.1 z).2.2.2 p hp rfl
  exact⟨keep p.1 p.2 ne nf nch e n,free p.1 p.2 nch e n,ne,nf,d⟩
theorem Inv.un{t':Nat}(I:Inv X pins σ H s)(u:Un X.fs [] H H' s.heap h')(hok:qX X.prog X.w H' h'):Inv X pins σ H' { s with heap:=h',toks:=t' }:=by
 obtain⟨m,⟨o,es,ep,ho,r⟩,_⟩:=id I.loc
 obtain⟨sl,hL⟩:=u.any ho I.free (by simp)
 exact I.step (g':=s.gens) (d':=s.drawn) (ch:=[]) (fun _ z=>nomatch z) (fun b o _ hb _ e n=>u.keep b o e n hb (by simp)) (fun b o _ hb _ e n=>u.slot b o e n hb (by simp)) (fun b o _ e n=>u.free b o e n (by simp)) (fun b o _ e=>u.there b o e (by simp)) u.tups u.ye u.xK (fun m' hm=>by
  obtain⟨o',es',ep',ho',r'⟩:=hm
  rw[ho] at ho';cases ho'
  exact⟨_,es',ep',hL,r'⟩) hok I.bare
theorem Inv.call{g':Array GenState}{t':Nat}{d':Drawn}{ch:List Addr}(I:Inv X pins σ H s)(u:Un (frs X.stack) ch H H' s.heap h')(hok:qX X.prog X.w H' h')(hg:AllBare g')
 (hch:∀ b∈ch,(b∈X.ex∨X.s₀.heap.objs.size≤b)∧b≠X.env.locals∧(∀ x c,X.env.cells.lookup x=some c→c≠b)∧∀ p∈X.pn++pins,p.1≠b) :
 Inv X pins σ H' { s with heap:=h',gens:=g',drawn:=d',toks:=t' }:=by
 obtain⟨m,⟨o,es,ep,ho,r⟩,_⟩:=id I.loc
 obtain⟨sl,hL⟩:=u.any ho I.free fun z=>(hch _ z).2.1 rfl
 exact I.step (ch:=ch) hch (fun b o hL hb hc e n=>u.keep b o e n (fun z=>(List.mem_cons.mp (I.Fb b z)).elim hL hb) hc) (fun b o _ _ hc e n=>u.any e n hc) (fun b o hc e n=>u.free b o e n hc) (fun b o hc e=>u.there b o e hc) u.tups u.ye u.xK (fun m' hm=>by
  obtain⟨o',es',ep',ho',r'⟩:=hm
  rw[ho] at ho';cases ho'
  exact⟨_,es',ep',hL,r'⟩) hok hg
theorem Inv.turned{t':Nat}{it:Addr}(I:Inv X pins σ H s)(k:∀ b o,b≠it→s.heap.get? b=some o→h'.get? b=some o)(hn:H it=none)(hL:it≠X.env.locals)
 (h1:it∈X.ex∨X.s₀.heap.objs.size≤it) (h2:∀ x c,X.env.cells.lookup x=some c→c≠it) (h3:∀ p∈X.pn++pins,p.1≠it):Inv X pins σ H { s with heap:=h',toks:=t' }:=by
 have nit:∀ b u,H b=some u→b≠it:=fun b u e z=>by rw[z,hn] at e;cases e
 refine I.step (g':=s.gens) (d':=s.drawn) (ch:=[it]) (fun b hb=>?_) (fun b o _ _ hc e _=>k b o (fun z=>hc (by simp[z])) e) (fun b o _ _ hc e _=>⟨o.slots,k b o (fun z=>hc (by simp[z])) e⟩) (fun _ _ _ _ n=>n)
  (fun b o hc e=>⟨o,k b o (fun z=>hc (by simp[z])) e⟩) (fun _ _ e=>e) (fun _ _ _ e=>e) (fun b w ps e=>⟨#[],by rw[e];simp⟩) (fun m hm=>?_) (fun b u e=>?_) I.bare
 ·have e:b=it:=by simpa using hb
  subst e
  exact⟨h1,hL,h2,h3⟩
 ·obtain⟨o,es,ep,ho,r⟩:=hm
  exact⟨o,es,ep,k _ o (Ne.symm hL) ho,r⟩
 ·refine(I.hok b u e).stay (fun c v hc q=>k c v ?_ q) (fun _ q=>q) fun _ _ q=>q
  rcases hc with z|z
  ·rw[z];exact nit b u e
  ·exact nit c _ z
theorem Inv.tok(I:Inv X pins σ H s)(t:Nat):Inv X pins σ H { s with toks:=t }:=I.un (h':=s.heap) (t':=t) Un.refl I.hok
theorem Inv.kept{t':Nat}(I:Inv X pins σ H s)(k:∀ b u,s.heap.get? b=some u→h'.get? b=some u):Inv X pins σ H { s with heap:=h',toks:=t' }:=I.un (Un.kept k) (I.hok.kept k)
theorem Inv.laid{a:Addr}{o:HO}{t':Nat}(I:Inv X pins σ H s)(k:∀ b u,s.heap.get? b=some u→h'.get? b=some u)(hp:s.heap.objs.size≤a)(new:di X.prog X.w (upd H a o) h' a o) :
 Inv X pins σ (upd H a o) { s with heap:=h',toks:=t' }:=I.un (Un.laid k hp (I.hok.fresh hp)) (I.hok.laid k hp new)
theorem Inv.write{x e:Addr}{o:HO}{t':Nat}(I:Inv X pins σ H s)(mu:Mut (H x))(he:e=x∨H e=some (.own x))(k:∀ b u,b≠e→s.heap.get? b=some u→h'.get? b=some u)(heo:∃ u,h'.get? e=some u)
 (new:di X.prog X.w (upd H x o) h' x o):Inv X pins σ (upd H x o) { s with heap:=h',toks:=t' }:=I.un (Un.write mu he k heo) (I.hok.write mu he k heo new)
theorem Inv.weak{σ':List (Option V)}(I:Inv X pins σ H s)(hl:σ'.length = σ.length)(w:∀ (i:Nat) v,σ'[i]? = some (some v)→σ[i]? = some (some v)):Inv X pins σ' H s :=
 ⟨I.ok,I.os,I.bare,I.base,let ⟨m,hn,hl'⟩:=I.loc;⟨m,hn,fun i x v e1 e2 e3=>hl' i x v e1 (w i v e2) e3⟩,I.cell,I.free,I.nP,I.pin,I.hok,hl.trans I.len⟩
theorem Inv.Fp{Dk:List (Addr×Obj)}(I:Inv X pins σ H s)(h:∀ p∈Dk,s.heap.get? p.1=some p.2∧H p.1=none∧p.1≠X.env.locals∧p.1∉X.fs∧∀ v,p.2.data≠.cell v):Inv X Dk σ H s :=
 ⟨I.ok,I.os,I.bare,I.base,I.loc,I.cell,I.free,I.nP,fun p hp=>(List.mem_append.mp hp).elim (fun z=>I.pin p (List.mem_append_left _ z)) (h p),I.hok,I.len⟩
theorem Bf{N:List Str}(hN:N.Nodup){i j:Nat}{x:Str}(a:N[i]? = some x)(b:N[j]? = some x):i=j:=by
 obtain⟨h1,e1⟩:=List.getElem?_eq_some_iff.mp a
 obtain⟨h2,e2⟩:=List.getElem?_eq_some_iff.mp b
 exact(List.getElem_inj hN).mp (e1.trans e2.symm)
theorem Dh{M:Model}{A:Around}{E:Value→Shared→Prop}{i:Nat}{x:Str}{v:V}{u:Value}{Q:Unit→Shared→Prop}(I:Inv X pins σ H s)(hN:X.N.Nodup)(hi:X.N[i]? = some x)(hx:Loc X.env.scope x)(r:RelV v u)
 (h:∀ s',Inv X pins (σ.set i (some v)) H s'→(∃ a,Heap.SameBut a s.heap s'.heap∧(a=X.env.locals∨X.env.cells.lookup x=some a))→Q () s') (hf:X.fn x=true∨X.env.scope.names.lookup x=some .local:=by first|exact .inl rfl|exact .inr rfl|assumption):wpAny M A (storeName X.env x u) Q E s:=by
 obtain⟨m,hn,hl⟩:=id I.loc
 have hcls:(X.env.scope.kind == .class || (X.env.scope.kind == .module && X.env.locals != X.env.globals))=false:=by rw[I.ok.kind];rfl
 have hiσ : i < σ.length:=by rw[I.len];exact(List.getElem?_eq_some_iff.mp hi).1
 have Wj:=I.Wj
 have tracked:∀ {a:Addr} {h':Heap},(∃ o,s.heap.get? a=some o∧H a=none)→Heap.SameBut a s.heap h'→qX X.prog X.w H h':=fun {a h'} ha hs b ob e=>by
  obtain⟨_,_,hfree⟩:=ha
  refine(I.hok b ob e).stay (fun c w' hc q=>(hs.2 c ?_).trans q) (fun _ q=>q) fun _ _ q=>q
  rintro rfl
  rcases hc with rfl|hc
  ·rw[hfree] at e;cases e
  ·rw[hfree] at hc;cases hc
 rcases hx with hk|hk
 ·refine wpAny_storeName_local hk hn (fun h' hn' hs=>?_) hcls
  obtain⟨oL,_,_,hoL,_⟩:=id hn
  refine h _ ⟨I.ok,I.os,I.bare,⟨fun b o e n hb hx=>?_,fun b o e n hb hx=>?_,I.base.free,fun b o e hx=>?_,I.base.tups,I.base.ye,I.base.xK⟩,⟨_,hn',fun j y v' e1 e2 e3=>?_⟩,fun y c e=>?_,I.free,I.nP,fun p hp=>?_,tracked ⟨oL,hoL,I.free⟩ hs,by simpa using I.len⟩ ⟨_,hs,.inl rfl⟩
  ·exact(hs.2 b (Nat.ne_of_lt (Nat.lt_of_lt_of_le (Heap.lt_size e) I.ok.above))).trans (I.base.keep b o e n hb hx)
  ·obtain⟨sl,e1⟩:=I.base.slot b o e n hb hx
   exact⟨sl,(hs.2 b (Nat.ne_of_lt (Nat.lt_of_lt_of_le (Heap.lt_size e) I.ok.above))).trans e1⟩
  ·obtain⟨o',e1⟩:=I.base.there b o e hx
   exact⟨o',(hs.2 b (Nat.ne_of_lt (Nat.lt_of_lt_of_le (Heap.lt_size e) I.ok.above))).trans e1⟩
  ·by_cases hj:j=i
   ·subst hj
    rw[hi] at e1;cases e1
    rw[List.getElem?_set_self hiσ] at e2
    cases e2
    exact⟨u,r,.inl ⟨hk,by simp⟩⟩
   ·rw[List.getElem?_set_ne (Ne.symm hj)] at e2
    obtain⟨u',r',q⟩:=hl j y v' e1 e2 e3
    refine⟨u',r',?_⟩
    rcases q with ⟨k,e⟩|⟨k,c,e,z⟩
    ·refine .inl ⟨k,?_⟩
     have:y≠x:=fun e=>hj (Bf hN e1 (e ▸ hi))
     simp[this,e]
    ·exact .inr ⟨k,c,e,z.sameBut hs (Wj y c e)⟩
  ·obtain⟨w',z⟩:=I.cell y c e
   exact⟨w',z.sameBut hs (Wj y c e)⟩
  ·obtain⟨e,n,ne,nf,d⟩:=I.pin p hp
   exact⟨(hs.2 p.1 ne).trans e,n,ne,nf,d⟩
 ·have hfn:X.fn x=true:=by
   rcases hf with z|z
   ·exact z
   ·rw[z] at hk;cases hk
  obtain⟨c,hc⟩:=I.ok.has x (.inl hk)
  obtain⟨w',z⟩:=I.cell x c hc
  refine wpAny_storeName_cell I.ok.kind hk hc z (fun h' hc' hs=>?_)
  obtain⟨oc,hoc,acw⟩:=id z
  refine h { s with heap:=h' } ⟨I.ok,I.os,I.bare,⟨fun b o e n hb hx=>?_,fun b o e n hb hx=>?_,I.base.free,fun b o e hx=>?_,I.base.tups,I.base.ye,I.base.xK⟩,⟨m,hn.sameBut hs (Ne.symm (Wj x c hc)),fun j y v' e1 e2 e3=>?_⟩,fun y c' e=>?_,I.free,I.nP,fun p hp=>?_,tracked ⟨oc,hoc,I.nP x c hc⟩ hs,by simpa using I.len⟩ ⟨c,hs,.inr hc⟩
  ·exact(hs.2 b (Nat.ne_of_lt (Nat.lt_of_lt_of_le (Heap.lt_size e) (I.ok.cab x c hfn hc)))).trans (I.base.keep b o e n hb hx)
  ·obtain⟨sl,e1⟩:=I.base.slot b o e n hb hx
   exact⟨sl,(hs.2 b (Nat.ne_of_lt (Nat.lt_of_lt_of_le (Heap.lt_size e) (I.ok.cab x c hfn hc)))).trans e1⟩
  ·obtain⟨o',e1⟩:=I.base.there b o e hx
   exact⟨o',(hs.2 b (Nat.ne_of_lt (Nat.lt_of_lt_of_le (Heap.lt_size e) (I.ok.cab x c hfn hc)))).trans e1⟩
  ·by_cases hj:j=i
   ·subst hj
    rw[hi] at e1;cases e1
    rw[List.getElem?_set_self hiσ] at e2
    cases e2
    exact⟨u,r,.inr ⟨.inl hk,c,hc,hc'⟩⟩
   ·rw[List.getElem?_set_ne (Ne.symm hj)] at e2
    obtain⟨u',r',q⟩:=hl j y v' e1 e2 e3
    refine⟨u',r',?_⟩
    rcases q with q|⟨k,c',e,z'⟩
    ·exact .inl q
    ·refine .inr ⟨k,c',e,z'.sameBut hs ?_⟩
     rintro rfl
     exact hj (Bf hN e1 (I.ok.inj _ _ _ e hc ▸ hi))
  ·by_cases hcc:c'=c
   ·subst hcc;exact⟨_,hc'⟩
   ·obtain⟨w2,z2⟩:=I.cell y c' e
    exact⟨w2,z2.sameBut hs hcc⟩
  ·obtain⟨e,n,ne,nf,d⟩:=I.pin p hp
   refine⟨(hs.2 p.1 ?_).trans e,n,ne,nf,d⟩
   intro q
   rw[q,hoc] at e
   have q':oc=p.2:=Option.some.inj e
   exact d w' (by rw[← q'];exact acw)
theorem wA{M:Model}{A:Around}{E:Value→Shared→Prop}{i:Nat}{x:Str}{v:V}{u:Value}{Q:Unit→Shared→Prop}(I:Inv X pins σ H s)(hN:X.N.Nodup)(hi:X.N[i]? = some x)(hx:Loc X.env.scope x)(r:RelV v u)
 (h:∀ s',Inv X pins (σ.set i (some v)) H s'→Q () s') (hf:X.fn x=true∨X.env.scope.names.lookup x=some .local:=by first|exact .inl rfl|exact .inr rfl|assumption):wpAny M A (storeName X.env x u) Q E s :=
 Dh I hN hi hx r (fun s' I' _=>h s' I') hf
theorem Inv.call'{s':Shared}{ch:List Addr}(I:Inv X pins σ H s)(ho:s'.os=s.os)(u:Un (frs X.stack) ch H H' s.heap s'.heap)(hok:qX X.prog X.w H' s'.heap)(hg:AllBare s'.gens)
 (hch:∀ b∈ch,(b∈X.ex∨X.s₀.heap.objs.size≤b)∧b≠X.env.locals∧(∀ x c,X.env.cells.lookup x=some c→c≠b)∧∀ p∈X.pn++pins,p.1≠b):Inv X pins σ H' s':=by
 obtain⟨h',g',d',t',o'⟩:=s'
 have e:o'=s.os:=ho
 subst e
 exact I.call (g':=g') (t':=t') (d':=d') u hok hg hch
end
abbrev XK:=Value→Option Addr→Hp→Prop
abbrev St:=List (Option V)
abbrev VK:=V→Hp→Prop
abbrev TE:=St→Hp→VK→Prop
abbrev TT:=St→Hp→(Bool→Hp→Prop)→Prop
abbrev TA:=St→Hp→(List V→Hp→Prop)→Prop
structure Ends where
 nx:St→Hp→Prop
 rt:VK
 bk:St→Hp→Prop:=fun _ _=>False
 ct:St→Hp→Prop:=fun _ _=>False
abbrev TS:=Ends→St→Hp→Prop
def EP(X:Cx)(pins:List (Addr×Obj))(σ : St)(Q:VK)(u:Value)(s':Shared):Prop:=∃ v H',Inv X pins σ H' s'∧RelV v u∧Q v H'
def TP(X:Cx)(pins:List (Addr×Obj))(σ : St)(Q:Bool→Hp→Prop)(b:Bool)(s':Shared):Prop:=∃ H',Inv X pins σ H' s'∧Q b H'
def AP(X:Cx)(pins:List (Addr×Obj))(σ : St)(Q:List V→Hp→Prop)(us:List Value)(s':Shared):Prop:=∃ vs H',Inv X pins σ H' s'∧Vals vs us∧Q vs H'
def SP(X:Cx)(pins:List (Addr×Obj))(D:Ends)(f:Flow)(s':Shared):Prop :=
 match f with
 | .next=>∃ σ' H',Inv X pins σ' H' s'∧D.nx σ' H'
 | .brk=>∃ σ' H',Inv X pins σ' H' s'∧D.bk σ' H'
 | .cont=>∃ σ' H',Inv X pins σ' H' s'∧D.ct σ' H'
 | .ret u=>∃ v σ' H',Inv X pins σ' H' s'∧RelV v u∧D.rt v H'
def PE(X:Cx)(e:Expr)(t:TE):Prop :=
 ∀ (pins:List (Addr×Obj)) (s:Shared) (σ : St) (H:Hp) (Q:VK),Inv X pins σ H s→t σ H Q→wpAny (model X.prog X.w) X.A (eval e X.env) (EP X pins σ Q) X.xe s
def PT(X:Cx)(e:Expr)(t:TT):Prop :=
 ∀ (pins:List (Addr×Obj)) (s:Shared) (σ : St) (H:Hp) (Q:Bool→Hp→Prop),Inv X pins σ H s→t σ H Q→wpAny (model X.prog X.w) X.A (isTrue e X.env (eval e X.env)) (TP X pins σ Q) X.xe s
def PW(X:Cx)(e:Expr)(t:TT):Prop :=
 ∀ (whole:Sem Value) (pins:List (Addr×Obj)) (s:Shared) (σ : St) (H:Hp) (Q:Bool→Hp→Prop),Inv X pins σ H s→t σ H Q→wpAny (model X.prog X.w) X.A (isTrue e X.env whole) (TP X pins σ Q) X.xe s
theorem PW.pt{X:Cx}{e:Expr}{t:TT}(h:PW X e t):PT X e t:=h _
def PA(X:Cx)(es:List Expr)(t:TA):Prop :=
 ∀ (pos:Pos) (pins:List (Addr×Obj)) (s:Shared) (σ : St) (H:Hp) (Q:List V→Hp→Prop),Inv X pins σ H s→t σ H Q→wpAny (model X.prog X.w) X.A (spliced (backTo pos (starEach es X.env))) (AP X pins σ Q) X.xe s
def PS(X:Cx)(st:Stmt)(t:TS):Prop :=
 ∀ (pins:List (Addr×Obj)) (s:Shared) (σ : St) (H:Hp) (D:Ends),Inv X pins σ H s→t D σ H→wpAny (model X.prog X.w) X.A (exec st X.env) (SP X pins D) X.xe s
def G6(X:Cx)(st:List Stmt)(t:TS):Prop :=
 ∀ (pins:List (Addr×Obj)) (s:Shared) (σ : St) (H:Hp) (D:Ends),Inv X pins σ H s→t D σ H→wpAny (model X.prog X.w) X.A (execs st X.env) (SP X pins D) X.xe s
theorem gf{α : Type}{t:Sem α}{Q Q':α→Shared→Prop}{M:Model}{A:Around}{E:Value→Shared→Prop}{s:Shared}(h:wpAny M A t Q E s)(hQ:∀ a s,Q a s→Q' a s):wpAny M A t Q' E s:=wpAny_mono h hQ fun _ _ x=>x
end L2
namespace L2
open PySem PySem.Spec PyProof.Rows
section
variable{X:Cx}
def vq(i:Nat):TE:=fun σ H Q=>∃ v,σ[i]? = some (some v)∧Q v H
def tC(v:V):TE:=fun _ H Q=>Q v H
theorem Yt{i:Nat}{x:Str}{pos:Pos}(hN:X.N[i]? = some x)(hv:Vis X.env.scope x)(hd:(x == ("__debug__" : Str))=false:=by decide)(hcd:(x == ("__classdict__" : Str))=false:=by decide):PE X (.Name x pos) (vq i):=by
 intro pins s σ H Q I h
 obtain⟨v,e,h⟩:=h
 obtain⟨m,hn,hl⟩:=I.loc
 obtain⟨u,r,l⟩:=hl i x v hN e hv
 have fin:EP X pins σ Q u s:=⟨v,H,I,r,h⟩
 rcases l with ⟨hk,hm⟩|⟨hk,c,hc,hcell⟩
 ·exact wpAny_Name (wpAny_loadName_local I.ok.kind hk hn hm fin) hd
 ·rcases hk with hk|hk
  ·exact wpAny_Name (wpAny_loadName_cell I.ok.kind hk hc hcell fin) hd
  ·exact wpAny_Name (wpAny_loadName_free I.ok.kind hk hc hcell fin hcd) hd
theorem aB{i j pos}:PE X (.Constant (.int i) j pos) (tC (.int i)):=fun _ _ _ H _ I h=>wpAny_Constant_int ⟨.int i,H,I.tok _,⟨_,rfl⟩,h⟩
theorem qt{b j pos}:PE X (.Constant (.bool b) j pos) (tC (.bl b)):=fun _ _ _ H _ I h=>Constant_bool ⟨.bl b,H,I,rfl,h⟩
theorem Ru{j pos}:PE X (.Constant .none j pos) (tC .non):=fun _ _ _ H _ I h=>Constant_none ⟨.non,H,I,rfl,h⟩
theorem eQ{x j pos}:PE X (.Constant (.str x) j pos) (tC (.str x)):=fun _ _ _ H _ I h=>Calls.Constant_str ⟨.str x,H,I.tok _,⟨_,rfl⟩,h⟩
def Gl(X:Cx)(x:Str):Prop:=X.env.kindOf x=some .globalImplicit
theorem uF{E:Value→Shared→Prop}{pins:List (Addr×Obj)}{s:Shared}{σ : St}{H:Hp}{x:Str}{u:Value}{pos:Pos}{Q:Value→Shared→Prop}(I:Inv X pins σ H s)(hg:Gl X x)(hm:X.mg x=some u)(h:Q u s)
 (hd:(x == ("__debug__" : Str))=false:=by decide):wpAny (model X.prog X.w) X.A (eval (.Name x pos) X.env) Q E s :=
 Calls.Name_function_global I.ok.kind hg (Calls.loadGlobal_global (by rw[I.ok.glob];exact I.mod.glob.keeps I.bk) hm h) hd
theorem vJ{E:Value→Shared→Prop}{pins:List (Addr×Obj)}{s:Shared}{σ : St}{H:Hp}{x:Str}{u:Value}{pos:Pos}{Q:Value→Shared→Prop}(I:Inv X pins σ H s)(hg:Gl X x)(hm:X.mg x=none)(hv:bootBuiltins x=some u)(h:Q u s)
 (hn:x ≠ "__name__" := by decide) (hd:(x == ("__debug__" : Str))=false:=by decide):wpAny (model X.prog X.w) X.A (eval (.Name x pos) X.env) Q E s:=by
 obtain⟨mb,h1,h2⟩:=I.mod.blt
 exact Calls.Name_function_global I.ok.kind hg (Calls.loadGlobal_builtin (by rw[I.ok.glob];exact I.mod.glob.keeps I.bk) hm (by rw[I.ok.blt];exact h1.keeps I.bk) ((h2 x hn).trans hv) h) hd
theorem fQ{x:Str}{v:V}{u:Value}{pos:Pos}(hg:Gl X x)(hm:X.mg x=some u)(r:RelV v u)(hd:(x == ("__debug__" : Str))=false:=by decide):PE X (.Name x pos) (tC v) :=
 fun _ _ _ H _ I h=>uF I hg hm ⟨v,H,I,r,h⟩ hd
theorem Vr{x:Str}{v:V}{u:Value}{pos:Pos}(hg:Gl X x)(hm:X.mg x=none)(hv:bootBuiltins x=some u)(r:RelV v u)(hn:x ≠ "__name__" := by decide)(hd:(x == ("__debug__" : Str))=false:=by decide):PE X (.Name x pos) (tC v) :=
 fun _ _ _ H _ I h=>vJ I hg hm hv ⟨v,H,I,r,h⟩ hn hd
variable{a b:Expr}{ta tb:TE}{pos:Pos}
def PC(X:Cx)(op:CmpOp)(a b:Expr)(t:TE):Prop :=
 ∀ (pins:List (Addr×Obj)) (s:Shared) (σ : St) (H:Hp) (Q:VK),Inv X pins σ H s→t σ H Q →
  wpAny (model X.prog X.w) X.A (eval a X.env) (fun v s₁=>wpAny (model X.prog X.w) X.A (eval b X.env) (fun u s₂=>wpAny (model X.prog X.w) X.A (compareOp op v u) (EP X pins σ Q) X.xe s₂) X.xe s₁) X.xe s
def tB(t:TE):TT:=fun σ H Q=>t σ H fun x H1=>∃ c,x=.bl c∧Q c H1
theorem Fl{op:CmpOp}{t:TE}(h:PC X op a b t)(h1:behindInMarks op b=false:=by first|exact aa1 _ (by decide) (by decide)|rfl):PT X (.Compare a [op] [b] pos) (tB t):=by
 intro pins s σ H Q I hw
 refine wpAny_isTrue_Compare1 (gf (h pins s σ H _ I hw) fun v s1 h1=>gf h1 fun u s2 h2=>gf h2 fun c s3 ⟨x,H1,I1,r1,q1⟩=>?_) h1
 obtain⟨d,rfl,q⟩:=q1
 cases r1
 exact wpAny_truthy_bool ⟨H1,I1,q⟩
theorem j5{e:Expr}{t:TE}(h:PE X e t)(he:∀ whole,isTrue e X.env whole=(do let v ← whole;standAt e.pos;holding [v] (truthy v)):=by intro _;rfl):PT X e (tB t):=by
 intro pins s σ H Q I hw
 refine isTrue_plain (gf (h pins s σ H _ I hw) fun v s1 ⟨x,H1,I1,r1,q1⟩=>?_) (he _)
 obtain⟨d,rfl,q⟩:=q1
 cases r1
 exact wpAny_truthy_bool ⟨H1,I1,q⟩
variable{tA tB':TT}{rest:List Expr}
def aay(t u:TT):TT:=fun σ H Q=>t σ H fun c H1=>if c=true then u σ H1 Q else Q false H1
def tOr(t u:TT):TT:=fun σ H Q=>t σ H fun c H1=>if c=true then Q true H1 else u σ H1 Q
def aas(t:TT):TT:=fun σ H Q=>t σ H fun c H1=>Q (!c) H1
theorem pw_and1(ha:PT X a tA):PW X (.BoolOp .And [a] pos) tA:=by
 intro wh pins s σ H Q I h
 refine isTrue_and (gf (ha pins s σ H Q I h) fun c s1 e=>?_)
 cases c with
 | true=>exact isTrue_and_nil e
 | false=>exact e
theorem pw_or1(ha:PT X a tA):PW X (.BoolOp .Or [a] pos) tA:=by
 intro wh pins s σ H Q I h
 refine isTrue_or (gf (ha pins s σ H Q I h) fun c s1 e=>?_)
 cases c with
 | false=>exact isTrue_or_nil e
 | true=>exact e
theorem pw_and(ha:PT X a tA)(hb:PW X (.BoolOp .And (b::rest) pos) tB'):PW X (.BoolOp .And (a::b::rest) pos) (aay tA tB'):=by
 intro wh pins s σ H Q I h
 refine isTrue_and (gf (ha pins s σ H _ I h) fun c s1 ⟨H1,I1,q1⟩=>?_)
 cases c with
 | true=>exact hb wh pins s1 σ H1 Q I1 q1
 | false=>exact⟨H1,I1,q1⟩
theorem pw_or(ha:PT X a tA)(hb:PW X (.BoolOp .Or (b::rest) pos) tB'):PW X (.BoolOp .Or (a::b::rest) pos) (tOr tA tB'):=by
 intro wh pins s σ H Q I h
 refine isTrue_or (gf (ha pins s σ H _ I h) fun c s1 ⟨H1,I1,q1⟩=>?_)
 cases c with
 | true=>exact⟨H1,I1,q1⟩
 | false=>exact hb wh pins s1 σ H1 Q I1 q1
theorem tD(ha:PT X a tA):PT X (.UnaryOp .Not a pos) (aas tA):=by
 intro pins s σ H Q I h
 exact isTrue_not (ha pins s σ H (fun c H1=>Q (!c) H1) I h)
def WR(ta tb:TE):TE:=fun σ H Q=>ta σ H fun x H1=>∃ c,x=.bl c∧if c=true then tb σ H1 Q else Q (.bl false) H1
theorem Rt{op}{t:TE}(h:PE X a t):PE X (.BoolOp op [a] pos) t:=fun pins s σ H Q I hw=>BoolOp_one (h pins s σ H Q I hw)
theorem Rw(ha:PE X a ta)(hb:PE X (.BoolOp .And (b::rest) pos) tb):PE X (.BoolOp .And (a::b::rest) pos) (WR ta tb):=by
 intro pins s σ H Q I h
 refine BoolOp_and (gf (ha pins s σ H _ I h) fun v s1 ⟨x,H1,I1,r1,q1⟩=>?_)
 obtain⟨c,rfl,q1⟩:=q1
 cases r1
 refine wpAny_truthy_bool ?_
 cases c with
 | true=>exact hb pins s1 σ H1 Q I1 q1
 | false=>exact⟨.bl false,H1,I1,rfl,q1⟩
end
end L2
namespace L2
open PySem PySem.Spec PyProof.Rows
def v7(K:PySem.W.Frag)(H:Hp)(a:Addr)(xs:List V):Prop :=
 Rd H a (.lst xs) ∨
  ∃ (o:Obj) (its:Array Value) (n:Nat),K.lookup a=some o∧o.cls=.type "list" ∧ o.dict=none∧o.data=.seq its n∧its.size≤sizeLine∧Vals xs its.toList
def CV(K:PySem.W.Frag)(H:Hp)(a:Addr)(xs:List V):Prop :=
 Rd H a (.tup xs) ∨
  ∃ (o:Obj) (its:Array Value) (n:Nat),K.lookup a=some o∧o.cls=.type "tuple" ∧ o.data=.seq its n∧its.size≤sizeLine∧Vals xs its.toList
def acI:Value→Option V
 | .none=>some .non
 | .bool b=>some (.bl b)
 | .int i _=>some (.int i)
 | .str x _=>some (.str x)
 | .bytes b _=>some (.byt b)
 | .float b _=>some (.flt b)
 | .ref a=>some (.ref a)
 | .type n=>some (.ty n)
 | _=>none
theorem RelV.abs{x:V}{u:Value}(r:RelV x u):acI u=some x:=by
 cases x with
 | non=>cases r;rfl
 | bl _=>cases r;rfl
 | int _=>obtain⟨t,rfl⟩:=r;rfl
 | str _=>obtain⟨t,rfl⟩:=r;rfl
 | byt _=>obtain⟨t,rfl⟩:=r;rfl
 | flt _=>obtain⟨t,rfl⟩:=r;rfl
 | ref _=>cases r;rfl
 | ty _=>cases r;rfl
theorem RelV.inj{x y:V}{u:Value}(r:RelV x u)(q:RelV y u):x=y:=Option.some.inj (r.abs.symm.trans q.abs)
theorem Vals.inj:∀ {xs ys:List V} {us:List Value},Vals xs us→Vals ys us→xs=ys
 | _,_,_,.nil,.nil=>rfl
 | _,_,_,.cons r t,.cons r' t'=>by rw[r.inj r',Vals.inj t t']
section
variable{X:Cx}{pins:List (Addr×Obj)}{σ : St}{H:Hp}{s:Shared}{a:Addr}{xs ys:List V}
theorem Inv.list(I:Inv X pins σ H s)(h:v7 X.K H a xs):∃ its:List Value,Vals xs its∧PlainL s.heap a its.toArray∧xs.length≤sizeLine:=by
 rcases h with h|⟨o,its,n,hk,hc,hd,hs,hz,r⟩
 ·obtain⟨z,its,n,r,e⟩:=h.ok I.hok
  exact⟨its,r,⟨_,n,e,rfl,rfl,rfl⟩,z⟩
 ·refine⟨its.toList,r,⟨o,n,I.yX a o hk,hc,hd,by simpa using hs⟩,?_⟩
  have e:=r.length
  simp only[Array.length_toList] at e
  omega
theorem Inv.tuple(I:Inv X pins σ H s)(h:CV X.K H a xs):∃ its:List Value,Vals xs its∧IsTup s.heap a its.toArray∧xs.length≤sizeLine:=by
 rcases h with h|⟨o,its,n,hk,hc,hs,hz,r⟩
 ·obtain⟨z,its,r,p⟩:=h.ok I.hok
  exact⟨its,r,p.tup,z⟩
 ·refine⟨its.toList,r,⟨o,I.yX a o hk,hc,n,by simpa using hs⟩,?_⟩
  have e:=r.length
  simp only[Array.length_toList] at e
  omega
theorem Inv.wN(I:Inv X pins σ H s)(h:v7 X.K H a xs)(h':v7 X.K H a ys):xs=ys:=by
 obtain⟨its,r,⟨o,n,e,_,_,d⟩,_⟩:=I.list h
 obtain⟨its',r',⟨o',n',e',_,_,d'⟩,_⟩:=I.list h'
 rw[e] at e';cases e'
 rw[d] at d'
 injection d' with d1 _
 have:its=its':=by simpa using congrArg Array.toList d1
 subst this
 exact r.inj r'
theorem Inv.xJ(I:Inv X pins σ H s)(h:CV X.K H a xs)(h':CV X.K H a ys):xs=ys:=by
 obtain⟨its,r,⟨o,e,_,n,d⟩,_⟩:=I.tuple h
 obtain⟨its',r',⟨o',e',_,n',d'⟩,_⟩:=I.tuple h'
 rw[e] at e';cases e'
 rw[d] at d'
 injection d' with d1 _
 have:its=its':=by simpa using congrArg Array.toList d1
 subst this
 exact r.inj r'
end
abbrev Cx.wish(X:Cx)(E:Value→Shared→Prop):Cx:={ X with xe:=E }
abbrev Cx.Z9(X:Cx):Cx:=X.wish fun _ _=>False
theorem Cx.Ok.wish{X:Cx}(ok:X.Ok)(E:Value→Shared→Prop):(X.wish E).Ok :=
 ⟨ok.mod,ok.kind,ok.glob,ok.blt,ok.above,ok.inj,ok.has,ok.cab,ok.hd,ok.frames,ok.stk,ok.exf,ok.bs,ok.bsz,ok.Kl,ok.Pk,ok.tQ,ok.frf⟩
theorem Cx.Ok.sO{X:Cx}{E:Value→Shared→Prop}(ok:(X.wish E).Ok):X.Ok :=
 ⟨ok.mod,ok.kind,ok.glob,ok.blt,ok.above,ok.inj,ok.has,ok.cab,ok.hd,ok.frames,ok.stk,ok.exf,ok.bs,ok.bsz,ok.Kl,ok.Pk,ok.tQ,ok.frf⟩
section
variable{X:Cx}{pins:List (Addr×Obj)}{σ : St}{H:Hp}{s:Shared}{E:Value→Shared→Prop}
theorem Inv.wish(I:Inv X pins σ H s)(E:Value→Shared→Prop):Inv (X.wish E) pins σ H s:=⟨I.ok.wish E,I.os,I.bare,I.base,I.loc,I.cell,I.free,I.nP,I.pin,I.hok,I.len⟩
theorem Inv.sO(I:Inv (X.wish E) pins σ H s):Inv X pins σ H s:=⟨I.ok.sO,I.os,I.bare,I.base,I.loc,I.cell,I.free,I.nP,I.pin,I.hok,I.len⟩
theorem SP.sO{D:Ends}{f:Flow}{s':Shared}(h:SP (X.wish E) pins D f s'):SP X pins D f s':=by
 cases f with
 | next=>obtain⟨σ',H',I,q⟩:=h;exact⟨σ',H',I.sO,q⟩
 | brk=>obtain⟨σ',H',I,q⟩:=h;exact⟨σ',H',I.sO,q⟩
 | cont=>obtain⟨σ',H',I,q⟩:=h;exact⟨σ',H',I.sO,q⟩
 | ret u=>obtain⟨v,σ',H',I,r,q⟩:=h;exact⟨v,σ',H',I.sO,r,q⟩
theorem G6.Z9{st:List Stmt}{t:TS}(h:G6 X.Z9 st t):G6 X st t:=fun pins s σ H D I hw =>
 wpAny_mono (h pins s σ H D (I.wish _) hw) (fun _ _ q=>q.sO) fun _ _ z=>False.elim z
end
section
variable{X:Cx}{st:Stmt}{rest:List Stmt}{t u:TS}{e:Expr}{te:TE}{pos:Pos}
def WQ:TS:=fun D σ H=>D.nx σ H
def Yb(t u:TS):TS:=fun D σ H=>t { D with nx:=u D } σ H
theorem bu:G6 X [] WQ:=fun _ _ σ H _ I h=>wpAny_execs_nil ⟨σ,H,I,h⟩
theorem au(h1:PS X st t)(h2:G6 X rest u):G6 X (st::rest) (Yb t u):=by
 intro pins s σ H D I h
 refine wpAny_execs_cons (gf (h1 pins s σ H { D with nx:=u D } I h) fun f s1 q=>?_)
 cases f with
 | next =>
  obtain⟨σ',H',I',q⟩:=q
  exact h2 pins s1 σ' H' D I' q
 | ret v=>exact q
 | brk=>exact q
 | cont=>exact q
theorem aH(h1:PS X st t):G6 X [st] t:=by
 intro pins s σ H D I h
 refine wpAny_execs_cons (gf (h1 pins s σ H D I h) fun f s1 q=>?_)
 cases f with
 | next=>exact wpAny_execs_nil q
 | ret v=>exact q
 | brk=>exact q
 | cont=>exact q
theorem Inv.quiet{pins:List (Addr×Obj)}{σ : St}{H:Hp}{s:Shared}(I:Inv X pins σ H s):interactive X.env=false:=by simp[interactive,I.ok.kind]
def Hi(te:TE):TS:=fun D σ H=>te σ H fun _ H1=>D.nx σ H1
theorem fc(he:PE X e te)(hs:swapsWith e none pos.line X.env=pure false:=by rfl):PS X (.Expr e pos) (Hi te):=by
 intro pins s σ H D I h
 exact wpAny_Expr_any (gf (he pins s σ H _ I h) fun v s1 ⟨x,H1,I1,r1,q1⟩=>⟨σ,H1,I1,q1⟩) I.quiet hs
def Vc(te:TE):TS:=fun D σ H=>te σ H D.rt
theorem bW(he:PE X e te):PS X (.Return (some e) pos) (Vc te):=by
 intro pins s σ H D I h
 exact wpAny_Return_some (gf (he pins s σ H _ I h) fun v s1 ⟨x,H1,I1,r1,q1⟩=>⟨x,σ,H1,I1,r1,q1⟩)
def Yc(c:TT)(t u:TS):TS:=fun D σ H=>c σ H fun b H1=>if b=true then t D σ H1 else u D σ H1
theorem cD{c:Expr}{a b:List Stmt}{tc:TT}(hc:PT X c tc)(ha:G6 X a t)(hb:G6 X b u):PS X (.If c a b pos) (Yc tc t u):=by
 intro pins s σ H D I h
 refine wpAny_If (gf (hc pins s σ H _ I h) fun d s1 ⟨H1,I1,q1⟩=>?_)
 cases d with
 | true=>exact ha pins s1 σ H1 D I1 q1
 | false=>exact hb pins s1 σ H1 D I1 q1
def QM:TS:=fun _ _ _=>False
theorem mU:PS X st QM:=fun _ _ _ _ _ _ h=>h.elim
end
abbrev TG:=V→St→Hp→(St→Hp→Prop)→Prop
abbrev Qo:=List V→St→Hp→(St→Hp→Prop)→Prop
def PG(X:Cx)(target:Expr)(t:TG):Prop :=
 ∀ (pins:List (Addr×Obj)) (s:Shared) (σ : St) (H:Hp) (v:V) (u:Value) (Q:St→Hp→Prop),Inv X pins σ H s→RelV v u→t v σ H Q →
  wpAny (model X.prog X.w) X.A (assign target X.env u) (fun _ s'=>∃ σ' H',Inv X pins σ' H' s'∧Q σ' H') X.xe s
def Uw(X:Cx)(ts:List Expr)(t:Qo):Prop :=
 ∀ (pins:List (Addr×Obj)) (s:Shared) (σ : St) (H:Hp) (vs:List V) (us:List Value) (Q:St→Hp→Prop),Inv X pins σ H s→Vals vs us→t vs σ H Q →
  wpAny (model X.prog X.w) X.A (assignInOrder ((assignEach ts X.env).map (·.2)) us) (fun _ s'=>∃ σ' H',Inv X pins σ' H' s'∧Q σ' H') X.xe s
abbrev Z1:=V→V→V→Hp→(Hp→Prop)→Prop
def abA(X:Cx)(t:Z1):Prop :=
 ∀ (pins:List (Addr×Obj)) (s:Shared) (σ : St) (H:Hp) (o i v:V) (ov iv u:Value) (Q:Hp→Prop),Inv X pins σ H s→RelV o ov→RelV i iv→RelV v u→t o i v H Q →
  wpAny (model X.prog X.w) X.A (setItem ov iv u) (fun _ s'=>∃ H',Inv X pins σ H' s'∧Q H') X.xe s
section
variable{X:Cx}{pos:Pos}
def rP(i:Nat):TG:=fun v σ H Q=>Q (σ.set i (some v)) H
theorem bL{i:Nat}{x:Str}(hN:X.N.Nodup)(hi:X.N[i]? = some x)(hx:Loc X.env.scope x)(hf:X.fn x=true∨X.env.scope.names.lookup x=some .local:=by first|exact .inl rfl|exact .inr rfl|assumption):PG X (.Name x pos) (rP i):=by
 intro pins s σ H v u Q I r h
 exact wpAny_assign_Name (wA I hN hi hx r (fun s' I'=>⟨_,H,I',h⟩) hf)
def Tq:Qo:=fun vs σ H Q=>vs=[]∧Q σ H
def Iu(t:TG)(u:Qo):Qo:=fun vs σ H Q=>∃ v r,vs=v::r∧t v σ H fun σ' H'=>u r σ' H' Q
theorem oV:Uw X [] Tq:=by
 intro pins s σ H vs us Q I r h
 obtain⟨e,h⟩:=h
 subst e
 cases r
 exact assignInOrder_nil ⟨σ,H,I,h⟩
theorem fO{e:Expr}{es:List Expr}{t:TG}{u:Qo}(h1:PG X e t)(h2:Uw X es u)
 (hs:(assignEach (e::es) X.env).map (·.2)=assign e X.env::(assignEach es X.env).map (·.2):=by rfl):Uw X (e::es) (Iu t u):=by
 intro pins s σ H vs us Q I r h
 obtain⟨v,vr,e1,h⟩:=h
 subst e1
 cases r with
 | cons r rr =>
  rw[hs]
  refine assignInOrder_cons (gf (h1 pins s σ H _ _ _ I r h) fun _ s1 ⟨σ1,H1,I1,q1⟩=>?_)
  exact h2 pins s1 σ1 H1 _ _ Q I1 rr q1
def Zq(K:PySem.W.Frag)(n:Nat)(t:Qo):TG:=fun v σ H Q=>∃ a xs,v=.ref a∧CV K H a xs∧xs.length=n∧t xs σ H Q
theorem tE{es:List Expr}{k:Nat}{t:Qo}{n:Nat}(hc:X.calm=true)(h:Uw X es t)
 (hn:(assignEach es X.env).length=n:=by rfl) (hst:(assignEach es X.env).findIdx? (·.1)=none:=by rfl):PG X (.Tuple es k pos) (Zq X.K n t):=by
 intro pins s σ H v u Q I r hw
 obtain⟨a,xs,e1,hq,hl,hw⟩:=hw
 subst e1
 cases r
 obtain⟨its,rv,ht,hz⟩:=I.tuple hq
 refine assign_Tuple_tuple (I.ok.hd hc) ht (by simp[hn,← hl,rv.length]) hst fun h' hx=>?_
 have I1:Inv X pins σ H { s with heap:=h' }:=I.kept (t':=s.toks) fun b o e=>hx b o (Nat.ne_of_lt (Heap.lt_size e)) e
 exact h pins _ σ H xs _ Q I1 (by simpa using rv) hw
def abm(to ti:TE)(t:Z1):TG:=fun v σ H Q=>to σ H fun o H1=>ti σ H1 fun i H2=>t o i v H2 fun H3=>Q σ H3
theorem Yr{o i:Expr}{to ti:TE}{t:Z1}(ho:PE X o to)(hi:PE X i ti)(hs:abA X t)
 (ha:∀ v,assign (.Subscript o i pos) X.env v=(do
  let ov ← holding [v] (eval o X.env)
  let iv ← holding [v,ov] (eval i X.env)
  standAt pos
  holding [v,ov,iv] (setItem ov iv v)
  release [v,ov,iv] []):=by intro _;rfl):PG X (.Subscript o i pos) (abm to ti t):=by
 intro pins s σ H v u Q I r h
 rw[ha]
 refine wpAny_bind (wpAny_holding (gf (ho pins s σ H _ I h) fun ov s1 ⟨x,H1,I1,r1,q1⟩=>?_))
 refine wpAny_bind (wpAny_holding (gf (hi pins s1 σ H1 _ I1 q1) fun iv s2 ⟨y,H2,I2,r2,q2⟩=>?_))
 refine wpAny_bind (wpAny_standAt (wpAny_bind (wpAny_holding (gf (hs pins s2 σ H2 x y v ov iv u _ I2 r1 r2 r q2) fun _ s3 ⟨H3,I3,q3⟩=>?_))))
 exact wpAny_release ⟨σ,H3,I3,q3⟩
def JX(te:TE)(g:TG):TS:=fun D σ H=>te σ H fun x H1=>g x σ H1 D.nx
theorem Yo{tg e:Expr}{te:TE}{g:TG}(he:PE X e te)(hg:PG X tg g)(hs:swapsWithSole [tg] e pos.line X.env=pure false:=by rfl)(hw:swappedStores [tg] e X.env=pure none:=by rfl)
 (h1:(assignEach [tg] X.env).map (·.2)=[assign tg X.env]:=by rfl):PS X (.Assign [tg] e pos) (JX te g):=by
 intro pins s σ H D I h
 refine wpAny_Assign_stores (gf (he pins s σ H _ I h) fun v s1 ⟨x,H1,I1,r1,q1⟩=>?_) hs hw
 rw[h1]
 exact gf (hg pins s1 σ H1 x v _ I1 r1 q1) fun _ s2 q=>q
theorem bD{i:Nat}{x:Str}{e:Expr}{te:TE}{pos':Pos}(hN:X.N.Nodup)(hi:X.N[i]? = some x)(hx:Loc X.env.scope x)(he:PE X e te)(hs:swapsWith e (some (.Name x pos')) pos.line X.env=pure false:=by rfl)(hf:X.fn x=true∨X.env.scope.names.lookup x=some .local:=by first|exact .inl rfl|exact .inr rfl|assumption) :
 PS X (.Assign [.Name x pos'] e pos) (JX te (rP i)):=by
 intro pins s σ H D I h
 refine wpAny_Assign_Name (gf (he pins s σ H _ I h) fun v s1 ⟨y,H1,I1,r1,q1⟩=>?_) hs
 exact wA I1 hN hi hx r1 (fun s2 I2=>⟨_,H1,I2,q1⟩) hf
end
section
variable{X:Cx}{pos:Pos}
def QH(c:TT)(tb:TS):TS:=fun D σ H=>∃ W:Nat→St→Hp→Prop,(∃ m,W m σ H)∧∀ m σ H,W m σ H →
 c σ H fun b H1=>if b=true then ∃ N:St→Hp→Prop,(∀ σ' H',N σ' H'→∃ m',m' < m∧W m' σ' H')∧tb { D with nx:=N,ct:=N,bk:=D.nx } σ H1 else D.nx σ H1
theorem Rn{c:Expr}{body:List Stmt}{tc:TT}{tb:TS}(hp:PassesOwn (model X.prog X.w) X.A X.env X.xe)(hc:PT X c tc)(hb:G6 X body tb):PS X (.While c body [] pos) (QH tc tb):=by
 intro pins s σ H D I h
 obtain⟨W,⟨m0,w0⟩,turn⟩:=h
 refine wpAny_While (codeAny_whileLoop (fun n s'=>∃ σ' H',Inv X pins σ' H' s'∧W n σ' H') ?_ m0 ⟨σ,H,I,w0⟩)
 rintro n s1 ⟨σ1,H1,I1,w1⟩
 refine wpAny_passesOwn hp (gf (hc pins s1 σ1 H1 _ I1 (turn n σ1 H1 w1)) fun b s2 ⟨H2,I2,q2⟩=>?_)
 cases b with
 | true =>
  obtain⟨N,hN,q2⟩:=q2
  rw[if_pos rfl]
  refine wpAny_passesOwn hp (gf (hb pins s2 σ1 H2 _ I2 q2) fun f s3 q3=>?_)
  cases f with
  | next =>
   obtain⟨σ3,H3,I3,n3⟩:=q3
   obtain⟨m',hm,w3⟩:=hN σ3 H3 n3
   exact⟨m',hm,σ3,H3,I3,w3⟩
  | cont =>
   obtain⟨σ3,H3,I3,n3⟩:=q3
   obtain⟨m',hm,w3⟩:=hN σ3 H3 n3
   exact⟨m',hm,σ3,H3,I3,w3⟩
  | brk=>exact q3
  | ret v=>exact q3
 | false =>
  rw[if_neg Bool.false_ne_true]
  exact wpAny_execs_nil ⟨σ1,H2,I2,q2⟩
end
structure It where
 go:Nat→Hp→Prop
 yld:Nat→Hp→V→Hp→Prop
 stop:Nat→Hp→Prop
def qW(X:Cx)(pins:List (Addr×Obj))(H:Hp)(b:Addr):Prop :=
 H b=none∧b≠X.env.locals∧b∉X.fs∧(b∈X.ex∨X.s₀.heap.objs.size≤b)∧(∀ x c,X.env.cells.lookup x=some c→c≠b)∧∀ p∈X.pn++pins,p.1≠b
theorem Inv.wW{X:Cx}{pins:List (Addr×Obj)}{σ : St}{H H':Hp}{s:Shared}{b:Addr}(I:Inv X pins σ H s)(hb:s.heap.objs.size≤b)(hn:H' b=none):qW X pins H' b:=by
 refine⟨hn,Nat.ne_of_gt (Nat.lt_of_lt_of_le I.lt hb),I.acf hb,.inr (Nat.le_trans I.sz hb),fun x c e z=>?_,fun p hp z=>?_⟩
 ·obtain⟨v,q⟩:=I.cell x c e
  exact absurd (Nat.lt_of_lt_of_le q.lt (by rw[z];exact hb)) (Nat.lt_irrefl _)
 ·exact absurd (Nat.lt_of_lt_of_le (Heap.lt_size (I.pin p hp).1) (by rw[z];exact hb)) (Nat.lt_irrefl _)
structure Turn(P:Program)(w:World)(K:PySem.W.Frag)(tg:Expr)(J:It)(fp:List Addr)(it:Addr)(tn:Nat→Heap→Prop):Prop where
 mem:it∈fp
 obj:∀ i h,tn i h→∀ b∈fp,∃ o,h.get? b=some o∧∀ v,o.data≠.cell v
 keep:∀ i h h',tn i h→(∀ b∈fp,∀ o,h.get? b=some o→h'.get? b=some o)→tn i h'
 item:∀ (X:Cx),X.prog=P→X.w=w→X.K=K→X.calm=true→∀ (i:Nat) (pins:List (Addr×Obj)) (s:Shared) (σ : St) (H:Hp) (E:Value→Shared→Prop),Inv X pins σ H s→(∀ b∈fp,qW X pins H b)→tn i s.heap→J.go i H →
  wpAny (model P w) X.A (pyNext (.ref it)) (fun r s1=>∃ u,r=some u ∧
   wpAny (model P w) X.A (letOwnedTupleGo tg (.ref it) u) (fun _ s2=>∃ x H',Inv X pins σ H' s2∧RelV x u∧J.yld i H x H'∧tn (i+1) s2.heap∧∀ b∈fp,H' b=none) E s1) E s
 done:∀ (X:Cx),X.prog=P→X.w=w→X.K=K→X.calm=true→∀ (i:Nat) (pins:List (Addr×Obj)) (s:Shared) (σ : St) (H:Hp) (E:Value→Shared→Prop),Inv X pins σ H s→(∀ b∈fp,qW X pins H b)→tn i s.heap→J.stop i H →
  wpAny (model P w) X.A (pyNext (.ref it)) (fun r s1=>r=none∧Inv X pins σ H s1) E s
 self:∀ (A:Around) (i:Nat) (s:Shared) (Q:Value→Shared→Prop) (E:Value→Shared→Prop),tn i s.heap→Q (.ref it) s→wpAny (model P w) A (pyIter (.ref it)) Q E s
abbrev TI:=St→Hp→(It→Hp→Prop)→Prop
def PIE(X:Cx)(pins:List (Addr×Obj))(σ : St)(tg:Expr)(R:It→Hp→Prop)(itv:Value)(s2:Shared):Prop :=
 ∃ (it:Addr) (fp:List Addr) (tn:Nat→Heap→Prop) (J:It) (H':Hp),itv=.ref it∧Inv X pins σ H' s2∧Turn X.prog X.w X.K tg J fp it tn∧tn 0 s2.heap∧(∀ b∈fp,qW X pins H' b)∧R J H'
def PI(X:Cx)(tg iter:Expr)(wi:TI):Prop :=
 ∀ (pins:List (Addr×Obj)) (s:Shared) (σ : St) (H:Hp) (R:It→Hp→Prop),Inv X pins σ H s→wi σ H R →
  wpAny (model X.prog X.w) X.A (eval iter X.env) (fun v s1=>wpAny (model X.prog X.w) X.A (pyIter v) (PIE X pins σ tg R) X.xe s1) X.xe s
theorem Nh{M:Model}{A:Around}{E:Value→Shared→Prop}{s:Shared}{tg:Expr}{it:Addr}{u:Value}{o:Obj}{n:String}{vs:Array Value}{Q:Unit→Shared→Prop}(ho:s.heap.get? it=some o)(hc:o.cls=.type n)(hd:o.data=.fields vs)
 (hn:["enumerate", "zip", "dict_itemiterator", "dict_reverseitemiterator", "odict_iterator", "itertools.zip_longest", "itertools.pairwise"].contains n=false) (hQ:Q () s):wpAny M A (letOwnedTupleGo tg (.ref it) u) Q E s:=by
 unfold letOwnedTupleGo
 cases tg<;>first
  | exact wpAny_pure hQ
  | (cases u<;>first
   | exact wpAny_pure hQ
   | (refine wpAny_bind (wpAny_load ho ?_)
      rw[hc,hd]
      show wpAny M A (if (["enumerate", "zip", "dict_itemiterator", "dict_reverseitemiterator", "odict_iterator", "itertools.zip_longest", "itertools.pairwise"].contains n && vs[0]? == some (rawInt _))=true then _ else _) Q E s
      rw[if_neg (by intro h;rw[hn,Bool.false_and] at h;cases h)]
      exact wpAny_pure hQ))
def Itl(K:PySem.W.Frag)(a:Addr):It :=
 ⟨fun i H=>∃ xs x,v7 K H a xs∧xs[i]? = some x,fun i H x H'=>H'=H∧∀ xs,v7 K H a xs→xs[i]? = some x,fun i H=>∃ xs,v7 K H a xs∧xs.length≤i⟩
def Itt(K:PySem.W.Frag)(a:Addr):It :=
 ⟨fun i H=>∃ xs x,CV K H a xs∧xs[i]? = some x,fun i H x H'=>H'=H∧∀ xs,CV K H a xs→xs[i]? = some x,fun i H=>∃ xs,CV K H a xs∧xs.length≤i⟩
def Itr(lo:Int)(n:Nat):It:=⟨fun i _=>i < n,fun i H x H'=>H'=H∧x=.int (lo+i),fun i _=>n≤i⟩
theorem Oa{P:Program}{w:World}{K:PySem.W.Frag}{tg:Expr}(a it:Addr):Turn P w K tg (Itl K a) [it] it (fun i h=>h.IsListIter it a i) where
 mem:=by simp
 obj:=fun i h st b hb=>by
  have e:b=it:=by simpa using hb
  subst e
  obtain⟨o,e,c,d⟩:=st
  exact⟨o,e,fun v z=>by rw[d] at z;cases z⟩
 keep:=fun i h h' st k=>st.at fun o e=>k it (by simp) o e
 item:=by
  intro X hP hw hK hc i pins s σ H E I hf st hg
  subst hP hw hK
  obtain⟨xs,x,hq,hx⟩:=hg
  obtain⟨its,rv,p,hz⟩:=I.list hq
  obtain⟨u,hu,ru⟩:=rv.get hx
  obtain⟨f0,f1,f2,f3,f4,f5⟩:=hf it (by simp)
  refine wpAny_pyNext_list_item st p.isList (x:=u) (by simpa using hu) fun h' st' sb=>?_
  have I1:Inv X pins σ H { s with heap:=h' }:=I.turned (t':=s.toks) (fun b o hb e=>(sb.2 b hb).trans e) f0 f1 f3 f4 f5
  obtain⟨o,e,c,d⟩:=id st'
  exact⟨u,rfl,Nh (s:={ s with heap:=h' }) e c d (by decide) ⟨x,H,I1,ru,⟨rfl,fun ys hy=>by rw[I.wN hy hq];exact hx⟩,st',fun b hb=>(hf b hb).1⟩⟩
 done:=by
  intro X hP hw hK hc i pins s σ H E I hf st hg
  subst hP hw hK
  obtain⟨xs,hq,hx⟩:=hg
  obtain⟨its,rv,p,hz⟩:=I.list hq
  obtain⟨f0,f1,f2,f3,f4,f5⟩:=hf it (by simp)
  have hl:=rv.length
  exact wpAny_pyNext_list_end (I.ok.hd hc) st p.isList (by simp;omega) fun h' eb=>⟨rfl,I.turned (t':=s.toks) (fun b o hb e=>eb b o hb e) f0 f1 f3 f4 f5⟩
 self:=fun _ _ _ _ _ st h=>wpAny_pyIter_listiter st h
theorem JS{P:Program}{w:World}{K:PySem.W.Frag}{tg:Expr}(a it:Addr):Turn P w K tg (Itt K a) [it] it (fun i h=>h.IsTupleIter it a i) where
 mem:=by simp
 obj:=fun i h st b hb=>by
  have e:b=it:=by simpa using hb
  subst e
  obtain⟨o,e,c,d⟩:=st
  exact⟨o,e,fun v z=>by rw[d] at z;cases z⟩
 keep:=fun i h h' st k=>st.at fun o e=>k it (by simp) o e
 item:=by
  intro X hP hw hK hc i pins s σ H E I hf st hg
  subst hP hw hK
  obtain⟨xs,x,hq,hx⟩:=hg
  obtain⟨its,rv,p,hz⟩:=I.tuple hq
  obtain⟨u,hu,ru⟩:=rv.get hx
  obtain⟨f0,f1,f2,f3,f4,f5⟩:=hf it (by simp)
  refine wpAny_pyNext_tuple_item st (show s.heap.IsTuple a its.toArray from p) (x:=u) (by simpa using hu) fun h' st' sb=>?_
  have I1:Inv X pins σ H { s with heap:=h' }:=I.turned (t':=s.toks) (fun b o hb e=>(sb.2 b hb).trans e) f0 f1 f3 f4 f5
  obtain⟨o,e,c,d⟩:=id st'
  exact⟨u,rfl,Nh (s:={ s with heap:=h' }) e c d (by decide) ⟨x,H,I1,ru,⟨rfl,fun ys hy=>by rw[I.xJ hy hq];exact hx⟩,st',fun b hb=>(hf b hb).1⟩⟩
 done:=by
  intro X hP hw hK hc i pins s σ H E I hf st hg
  subst hP hw hK
  obtain⟨xs,hq,hx⟩:=hg
  obtain⟨its,rv,p,hz⟩:=I.tuple hq
  obtain⟨f0,f1,f2,f3,f4,f5⟩:=hf it (by simp)
  have hl:=rv.length
  exact wpAny_pyNext_tuple_end (I.ok.hd hc) st (show s.heap.IsTuple a its.toArray from p) (by simp;omega) fun h' eb=>⟨rfl,I.turned (t':=s.toks) (fun b o hb e=>eb b o hb e) f0 f1 f3 f4 f5⟩
 self:=fun _ _ _ _ _ st h=>wpAny_pyIter_tupleiter st h
theorem JT{P:Program}{w:World}{K:PySem.W.Frag}{tg:Expr}(it:Addr)(lo:Int)(n:Nat):Turn P w K tg (Itr lo n) [it] it (fun i h=>IsRangeIter h it (lo+(i:Nat) * 1) ((n:Int) - (i:Nat)) 1) where
 mem:=by simp
 obj:=fun i h st b hb=>by
  have e:b=it:=by simpa using hb
  subst e
  exact⟨_,st,fun v z=>by
   have z':Data.fields _=Data.cell v:=z
   cases z'⟩
 keep:=fun i h h' st k=>k it (by simp) _ st
 item:=by
  intro X hP hw hK hc i pins s σ H E I hf st hg
  subst hP hw hK
  obtain⟨f0,f1,f2,f3,f4,f5⟩:=hf it (by simp)
  have W:=Walks.range (prog:=X.prog) (w:=X.w) (I.ok.hd hc) it lo 1 n
  refine W.item i s _ _ hg st fun v h' tk hv st' kk=>?_
  obtain⟨t,rfl⟩:=hv
  have I1:Inv X pins σ H { s with heap:=h',toks:=tk }:=I.turned (fun b o hb e=>kk b o (by simpa using hb) e) f0 f1 f3 f4 f5
  refine⟨_,rfl,Nh (s:={ s with heap:=h',toks:=tk }) (n := "range_iterator") st' rfl rfl (by decide) ⟨.int (lo+i),H,I1,⟨t,?_⟩,⟨rfl,rfl⟩,st',fun b hb=>(hf b hb).1⟩⟩
  rw[Int.mul_one]
 done:=by
  intro X hP hw hK hc i pins s σ H E I hf st hg
  subst hP hw hK
  obtain⟨f0,f1,f2,f3,f4,f5⟩:=hf it (by simp)
  exact wpAny_pyNext_range_end (I.ok.hd hc) st (by have:n≤i:=hg;omega) fun h' eb=>⟨rfl,I.turned (t':=s.toks) (fun b o hb e=>eb b o hb e) f0 f1 f3 f4 f5⟩
 self:=fun _ _ _ _ _ st h=>wpAny_pyIter_rangeiter st h
end L2
namespace L2
open PySem PySem.Spec PyProof.Rows
section
variable{X:Cx}{tg:Expr}
def Xf(K:PySem.W.Frag)(tl:TE):TI:=fun σ H R=>tl σ H fun x H1=>∃ a,x=.ref a∧(∃ xs,v7 K H1 a xs)∧R (Itl K a) H1
def abf(K:PySem.W.Frag)(tl:TE):TI:=fun σ H R=>tl σ H fun x H1=>∃ a,x=.ref a∧(∃ xs,CV K H1 a xs)∧R (Itt K a) H1
theorem Vo{l:Expr}{tl:TE}(hl:PE X l tl):PI X tg l (Xf X.K tl):=by
 intro pins s σ H R I h
 refine gf (hl pins s σ H _ I h) fun v s1 ⟨x,H1,I1,r1,q1⟩=>?_
 obtain⟨a,e,⟨xs,hq⟩,q⟩:=q1
 subst e
 cases r1
 obtain⟨its,rv,p,hz⟩:=I1.list hq
 refine wpAny_pyIter_list p.isList ?_
 refine⟨s1.heap.objs.size,[s1.heap.objs.size],_,_,H1,rfl,I1.kept (t':=s1.toks) fun b o e=>Heap.get?_push_of_some _ e,Oa a _,⟨_,Heap.get?_push_size _ rfl,rfl,rfl⟩,fun b hb=>?_,q⟩
 have e:b=s1.heap.objs.size:=by simpa using hb
 subst e
 exact I1.wW (Nat.le_refl _) (I1.hok.fresh (Nat.le_refl _))
theorem Yp{l:Expr}{tl:TE}(hl:PE X l tl):PI X tg l (abf X.K tl):=by
 intro pins s σ H R I h
 refine gf (hl pins s σ H _ I h) fun v s1 ⟨x,H1,I1,r1,q1⟩=>?_
 obtain⟨a,e,⟨xs,hq⟩,q⟩:=q1
 subst e
 cases r1
 obtain⟨its,rv,p,hz⟩:=I1.tuple hq
 refine wpAny_pyIter_tuple (show s1.heap.IsTuple a its.toArray from p) ?_
 refine⟨s1.heap.objs.size,[s1.heap.objs.size],_,_,H1,rfl,I1.kept (t':=s1.toks) fun b o e=>Heap.get?_push_of_some _ e,JS a _,⟨_,Heap.get?_push_size _ rfl,rfl,rfl⟩,fun b hb=>?_,q⟩
 have e:b=s1.heap.objs.size:=by simpa using hb
 subst e
 exact I1.wW (Nat.le_refl _) (I1.hok.fresh (Nat.le_refl _))
theorem Rf{pins:List (Addr×Obj)}{σ : St}{H:Hp}{s:Shared}{R:It→Hp→Prop}{E:Value→Shared→Prop}{lo hi:Int}{t u v:Tok}{tk:Nat}(I:Inv X pins σ H s)(h1:-(2 ^ 62)≤lo)(h2:lo < 2 ^ 62)(h3:-(2 ^ 62)≤hi)(h4:hi < 2 ^ 62)
 (q:R (Itr lo (hi - lo).toNat) H):wpAny (model X.prog X.w) X.A (pyIter (.ref s.heap.objs.size)) (PIE X pins σ tg R) E { s with heap:=s.heap.push { cls:=.type "range", data:=.fields #[.int lo t,.int hi u,.int 1 v] },toks:=tk }:=by
 refine wpAny_pyIter_range (IsRange.new ..) (small_one h1 h2 h3 h4) ?_
 have I1:Inv X pins σ H { s with heap:=s.heap.push { cls:=.type "range", data:=.fields #[.int lo t,.int hi u,.int 1 v] },toks:=tk }:=I.kept fun b o e=>Heap.get?_push_of_some _ e
 refine⟨(s.heap.push { cls:=.type "range", data:=.fields #[.int lo t,.int hi u,.int 1 v] }).objs.size,[(s.heap.push { cls:=.type "range", data:=.fields #[.int lo t,.int hi u,.int 1 v] }).objs.size],_,_,H,rfl,
  I1.kept (t':=tk) fun b o e=>Heap.get?_push_of_some _ e,JT _ lo (hi - lo).toNat,?_,fun b hb=>?_,q⟩
 ·have e1:lo+((0:Nat):Int) * 1=lo:=by simp
  have e2:(((hi - lo).toNat:Nat):Int) - ((0:Nat):Int)=Builtin.Range.rangeSize lo hi 1:=by rw[rangeSize_one];split<;>omega
  show IsRangeIter _ _ (lo+((0:Nat):Int) * 1) ((((hi - lo).toNat:Nat):Int) - ((0:Nat):Int)) 1
  rw[e1,e2]
  exact Heap.get?_push_size _ rfl
 ·have e:b=(s.heap.push { cls:=.type "range", data:=.fields #[.int lo t,.int hi u,.int 1 v] }).objs.size:=by simpa using hb
  subst e
  exact I1.wW (Nat.le_refl _) (I1.hok.fresh (Nat.le_refl _))
def Xe(ta:TA):TI:=fun σ H R=>ta σ H fun vs H1=>∃ j:Int,vs=[.int j]∧-(2 ^ 62)≤j∧j < 2 ^ 62∧R (Itr 0 j.toNat) H1
theorem jE{a:Expr}{ta:TA}{p pos:Pos}(hg:Gl X "range")(hm:X.mg "range" = none)(ha:PA X [a] ta)(hs:starEach [a] X.env=[(false,eval a X.env)]:=by rfl):PI X tg (.Call (.Name "range" p) [a] [] pos) (Xe ta):=by
 intro pins s σ H R I h
 refine Call_ (vJ I hg hm boot_range (PyProof.Rows.callWith_type1 (gf (ha pos pins s σ H _ I h) fun us s1 ⟨vs,H1,I1,r1,q1⟩=>?_) hs rfl))
 obtain⟨j,e,q1,q2,q⟩:=q1
 subst e
 cases r1 with
 | cons r rr =>
  cases rr
  obtain⟨t,rfl⟩:=r
  exact call_range_1 (Rf I1 (by omega) (by omega) q1 q2 (by simpa using q))
def Yd(wi:TI)(g:TG)(tb:TS):TS:=fun D σ H=>wi σ H fun J H1=>∃ W:Nat→Nat→St→Hp→Prop,(∃ m,W 0 m σ H1)∧∀ i m σ H,W i m σ H →
 (J.stop i H∧D.nx σ H)∨(J.go i H∧∃ N:St→Hp→Prop,(∀ σ' H',N σ' H'→∃ m',m' < m∧W (i+1) m' σ' H')∧∀ x H',J.yld i H x H'→g x σ H' fun σ2 H2=>tb { D with nx:=N,ct:=N,bk:=D.nx } σ2 H2)
def Fq(fp:List Addr)(h:Heap):List (Addr×Obj):=fp.filterMap fun b=>(h.get? b).map fun o=>(b,o)
theorem mj{fp:List Addr}{h:Heap}{b:Addr}{o:Obj}(hb:b∈fp)(e:h.get? b=some o):(b,o)∈Fq fp h:=List.mem_filterMap.mpr ⟨b,hb,by rw[e];rfl⟩
theorem O3{fp:List Addr}{h:Heap}{p:Addr×Obj}(hp:p∈Fq fp h):p.1∈fp∧h.get? p.1=some p.2:=by
 obtain⟨b,hb,e⟩:=List.mem_filterMap.mp hp
 cases q:h.get? b with
 | none=>rw[q] at e;cases e
 | some o =>
  rw[q] at e
  have e':(b,o)=p:=Option.some.inj e
  subst e'
  exact⟨hb,q⟩
theorem Inv.pinned{pins:List (Addr×Obj)}{σ : St}{H:Hp}{s:Shared}{fp:List Addr}(I:Inv X pins σ H s)(hf:∀ b∈fp,qW X pins H b)(ho:∀ b∈fp,∃ o,s.heap.get? b=some o∧∀ v,o.data≠.cell v):Inv X (pins++Fq fp s.heap) σ H s :=
 I.Fp fun p hp=>(List.mem_append.mp hp).elim (fun z=>I.pin p (List.mem_append_right _ z)) fun z=>by
  obtain⟨hb,e⟩:=O3 z
  obtain⟨f0,f1,f2,_⟩:=hf p.1 hb
  obtain⟨o,e',d⟩:=ho p.1 hb
  rw[e] at e';cases e'
  exact⟨e,f0,f1,f2,d⟩
theorem Inv.pX{pins pl:List (Addr×Obj)}{σ : St}{H:Hp}{s:Shared}(I:Inv X (pins++pl) σ H s):Inv X pins σ H s:=I.Fp fun p hp=>I.pin p (List.mem_append_right _ (List.mem_append_left _ hp))
theorem lW{iter:Expr}{body:List Stmt}{wi:TI}{g:TG}{tb:TS}{pos:Pos}(hp:PassesOwn (model X.prog X.w) X.A X.env X.xe)(hc:X.calm=true)(hi:PI X tg iter wi)(hg:PG X tg g)(hb:G6 X body tb)
 (hs:∀ x,foldedSetIterable iter X.env x=pure x:=by intro _;rfl):PS X (.For tg iter body [] pos) (Yd wi g tb):=by
 intro pins s σ H D I h
 refine wpAny_For (gf (hi pins s σ H _ I h) fun v s1 h1=>gf h1 fun itv s2 h2=>?_) hs
 obtain⟨it,fp,tn,J,H2,e,I2,T,st2,f2,W,⟨m0,w0⟩,turn⟩:=h2
 subst e
 have stat:∀ {H':Hp},(∀ b∈fp,H' b=none)→∀ b∈fp,qW X pins H' b:=fun hn b hb=>⟨hn b hb,(f2 b hb).2⟩
 refine codeAny_forLoop_any (fun n s'=>∃ i σ' H',Inv X pins σ' H' s'∧tn i s'.heap∧(∀ b∈fp,H' b=none)∧W i n σ' H') ?_ m0 ⟨0,σ,H2,I2,st2,fun b hb=>(f2 b hb).1,w0⟩
 rintro n s3 ⟨i,σ3,H3,I3,st3,fr3,w3⟩
 rcases turn i n σ3 H3 w3 with ⟨stop,qn⟩|⟨go,N,hN,step⟩
 ·refine wpAny_passesOwn hp (gf (T.done X rfl rfl rfl hc i pins s3 σ3 H3 X.xe I3 (stat fr3) st3 stop) fun r s4 ⟨hr,I4⟩=>?_)
  subst hr
  exact wpAny_execs_nil ⟨σ3,H3,I4,qn⟩
 ·refine wpAny_passesOwn hp (gf (T.item X rfl rfl rfl hc i pins s3 σ3 H3 X.xe I3 (stat fr3) st3 go) fun r s4 ⟨u,hr,h4⟩=>?_)
  subst hr
  refine wpAny_passesOwn hp (gf h4 fun _ s5 ⟨x,H5,I5,r5,y5,st5,fr5⟩=>?_)
  have I5':=I5.pinned (stat fr5) (T.obj _ _ st5)
  refine wpAny_passesOwn hp (gf (hg _ s5 σ3 H5 x u _ I5' r5 (step x H5 y5)) fun _ s6 ⟨σ6,H6,I6,q6⟩=>?_)
  refine wpAny_passesOwn hp (gf (hb _ s6 σ6 H6 _ I6 q6) fun f s7 q7=>?_)
  have again:∀ {σ7:St} {H7:Hp},Inv X (pins++Fq fp s5.heap) σ7 H7 s7→N σ7 H7→∃ m,m < n∧∃ i σ' H',Inv X pins σ' H' s7∧tn i s7.heap∧(∀ b∈fp,H' b=none)∧W i m σ' H':=fun {σ7 H7} I7 n7=>by
   obtain⟨m',hm,w7⟩:=hN σ7 H7 n7
   refine⟨m',hm,i+1,σ7,H7,I7.pX,T.keep _ _ _ st5 fun b hb o e=>(I7.pin (b,o) (List.mem_append_right _ (List.mem_append_right _ (mj hb e)))).1,fun b hb=>?_,w7⟩
   obtain⟨o,e,d⟩:=T.obj _ _ st5 b hb
   exact(I7.pin (b,o) (List.mem_append_right _ (List.mem_append_right _ (mj hb e)))).2.1
  cases f with
  | next=>obtain⟨σ7,H7,I7,n7⟩:=q7;exact again I7 n7
  | cont=>obtain⟨σ7,H7,I7,n7⟩:=q7;exact again I7 n7
  | brk=>obtain⟨σ7,H7,I7,q7⟩:=q7;exact⟨σ7,H7,I7.pX,q7⟩
  | ret v=>obtain⟨x7,σ7,H7,I7,r7,q7⟩:=q7;exact⟨x7,σ7,H7,I7.pX,r7,q7⟩
end
end L2
namespace L2
open PySem PySem.Spec PyProof.Rows
abbrev R2:=V→V→Hp→VK→Prop
def qU(X:Cx)(f:Value→Value→Sem Value)(r:R2):Prop :=
 ∀ (pins:List (Addr×Obj)) (s:Shared) (σ : St) (H:Hp) (x y:V) (v u:Value) (Q:VK),Inv X pins σ H s→RelV x v→RelV y u→r x y H Q →
  wpAny (model X.prog X.w) X.A (f v u) (EP X pins σ Q) X.xe s
def UnR(X:Cx)(f:Value→Sem Value)(r:V→Hp→VK→Prop):Prop :=
 ∀ (pins:List (Addr×Obj)) (s:Shared) (σ : St) (H:Hp) (x:V) (v:Value) (Q:VK),Inv X pins σ H s→RelV x v→r x H Q →
  wpAny (model X.prog X.w) X.A (f v) (EP X pins σ Q) X.xe s
def lL(X:Cx)(f:Value)(r:List V→Hp→VK→Prop):Prop :=
 ∀ (pins:List (Addr×Obj)) (s:Shared) (σ : St) (H:Hp) (xs:List V) (us:List Value) (Q:VK),Inv X pins σ H s→Vals xs us→r xs H Q →
  wpAny (model X.prog X.w) X.A (call f us) (EP X pins σ Q) X.xe s
def acL(X:Cx)(r:V→Hp→(Bool→Hp→Prop)→Prop):Prop :=
 ∀ (pins:List (Addr×Obj)) (s:Shared) (σ : St) (H:Hp) (x:V) (v:Value) (Q:Bool→Hp→Prop),Inv X pins σ H s→RelV x v→r x H Q →
  wpAny (model X.prog X.w) X.A (truthy v) (TP X pins σ Q) X.xe s
def tOp(r:R2)(ta tb:TE):TE:=fun σ H Q=>ta σ H fun x H1=>tb σ H1 fun y H2=>r x y H2 Q
def tUn(r:V→Hp→VK→Prop)(ta:TE):TE:=fun σ H Q=>ta σ H fun x H1=>r x H1 Q
def rI(C:Int→Int→Prop)(g:Int→Int→V):R2:=fun x y H Q=>∃ i j,x=.int i∧y=.int j∧C i j∧Q (g i j) H
def Qm(g:Int→Int→V):R2:=fun x y H Q=>∃ i j,x=.int i∧y=.int j∧Q (g i j) H
def rU(g:Int→V):V→Hp→VK→Prop:=fun x H Q=>∃ i,x=.int i∧Q (g i) H
section
variable{X:Cx}{a b c:Expr}{ta tb tc:TE}{pos:Pos}
theorem ZJ(ha:PE X a ta)(hb:PE X b tb){pins:List (Addr×Obj)}{s:Shared}{σ : St}{H:Hp}{R:V→V→Hp→Prop}(I:Inv X pins σ H s)
 (h:ta σ H fun x H1=>tb σ H1 fun y H2=>R x y H2) {Q:Value→Shared→Prop} {f:Value→Value→Sem Value}
 (hf:∀ v u s2 x y H2,Inv X pins σ H2 s2→RelV x v→RelV y u→R x y H2→wpAny (model X.prog X.w) X.A (f v u) Q X.xe s2) :
 wpAny (model X.prog X.w) X.A (eval a X.env) (fun v s₁=>wpAny (model X.prog X.w) X.A (eval b X.env) (fun u s₂=>wpAny (model X.prog X.w) X.A (f v u) Q X.xe s₂) X.xe s₁) X.xe s:=by
 refine gf (ha pins s σ H _ I h) fun v s1 ⟨x,H1,I1,r1,q1⟩=>?_
 refine gf (hb pins s1 σ H1 _ I1 q1) fun u s2 ⟨y,H2,I2,r2,q2⟩=>?_
 exact hf v u s2 x y H2 I2 r1 r2 q2
theorem aQ{op:Operator}{r:R2}(ho:qU X (binaryOp op) r)(ha:PE X a ta)(hb:PE X b tb):PE X (.BinOp a op b pos) (tOp r ta tb):=by
 intro pins s σ H Q I h
 exact wpAny_BinOp (ZJ ha hb I h fun v u s2 x y H2 I2 rx ry q=>ho pins s2 σ H2 x y v u Q I2 rx ry q)
theorem aaU{op:UnaryOp}{r:V→Hp→VK→Prop}(ho:UnR X (unaryOp op) r)(ha:PE X a ta):PE X (.UnaryOp op a pos) (tUn r ta):=by
 intro pins s σ H Q I h
 exact UnaryOp_ (gf (ha pins s σ H _ I h) fun v s1 ⟨x,H1,I1,r1,q1⟩=>ho pins s1 σ H1 x v Q I1 r1 q1)
theorem opI{f:Value→Value→Sem Value}{C:Int→Int→Prop}{g:Int→Int→Int}
 (rule:∀ (i j:Int) (t u:Tok) (s:Shared) (Q:Value→Shared→Prop) (E:Value→Shared→Prop),C i j→Q (.int (g i j) s.toks) { s with toks:=s.toks+1 }→wpAny (model X.prog X.w) X.A (f (.int i t) (.int j u)) Q E s) :
 qU X f (rI C fun i j=>.int (g i j)):=by
 intro pins s σ H x y v u Q I rx ry h
 obtain⟨i,j,rfl,rfl,hc,q⟩:=h
 obtain⟨t,rfl⟩:=rx
 obtain⟨t',rfl⟩:=ry
 exact rule i j t t' s _ _ hc ⟨.int (g i j),H,I.tok _,⟨_,rfl⟩,q⟩
theorem aaX{f:Value→Value→Sem Value}{g:Int→Int→Int}
 (rule:∀ (i j:Int) (t u:Tok) (s:Shared) (Q:Value→Shared→Prop) (E:Value→Shared→Prop),Q (.int (g i j) s.toks) { s with toks:=s.toks+1 }→wpAny (model X.prog X.w) X.A (f (.int i t) (.int j u)) Q E s) :
 qU X f (Qm fun i j=>.int (g i j)):=by
 intro pins s σ H x y v u Q I rx ry h
 obtain⟨i,j,rfl,rfl,q⟩:=h
 obtain⟨t,rfl⟩:=rx
 obtain⟨t',rfl⟩:=ry
 exact rule i j t t' s _ _ ⟨.int (g i j),H,I.tok _,⟨_,rfl⟩,q⟩
theorem YD{f:Value→Value→Sem Value}{g:Int→Int→Bool}
 (rule:∀ (i j:Int) (t u:Tok) (s:Shared) (Q:Value→Shared→Prop) (E:Value→Shared→Prop),Q (.bool (g i j)) s→wpAny (model X.prog X.w) X.A (f (.int i t) (.int j u)) Q E s) :
 qU X f (Qm fun i j=>.bl (g i j)):=by
 intro pins s σ H x y v u Q I rx ry h
 obtain⟨i,j,rfl,rfl,q⟩:=h
 obtain⟨t,rfl⟩:=rx
 obtain⟨t',rfl⟩:=ry
 exact rule i j t t' s _ _ ⟨.bl (g i j),H,I,rfl,q⟩
def abL(i j:Int):Prop:=0≤j∧j≤1000000∧i.natAbs < 2 ^ 64
def WD(i j:Int):Prop:=(-(2 ^ 64) < i∧i < 2 ^ 64)∨(-(2 ^ 64) < j∧j < 2 ^ 64)
theorem WD.ok{i j:Int}(h:WD i j):IntMulOk i j:=by
 rcases h with ⟨h1,h2⟩|⟨h1,h2⟩
 ·exact .of_left (intBits_le_64 h1 h2)
 ·exact .of_right (intBits_le_64 h1 h2)
theorem YC:qU X (binaryOp .Add) (Qm fun i j=>.int (i+j)):=aaX fun _ _ _ _ _ _ _ q=>add_int q
theorem J6:qU X (binaryOp .Sub) (Qm fun i j=>.int (i - j)):=aaX fun _ _ _ _ _ _ _ q=>sub_int q
theorem lz:qU X (binaryOp .Mult) (rI WD fun i j=>.int (i * j)):=opI fun _ _ _ _ _ _ _ hc q=>mul_int q hc.ok
theorem cj:qU X (binaryOp .Mod) (rI (fun _ j=>0 < j) fun i j=>.int (i % j)):=opI fun i j _ _ _ _ _ hc q=>by
 have h1:(0:Int) < j:=hc
 exact mod_int' (by omega) (by rw[Int.fmod_eq_emod_of_nonneg i (by omega)];exact q)
theorem Yy:qU X (binaryOp .Pow) (rI abL fun i j=>.int (i ^ j.toNat)):=opI fun _ _ _ _ _ _ _ hc q=>pow_int_small hc.1 hc.2.1 hc.2.2 q
theorem unI{f:Value→Sem Value}{g:Int→Int}
 (rule:∀ (i:Int) (t:Tok) (s:Shared) (Q:Value→Shared→Prop) (E:Value→Shared→Prop),Q (.int (g i) s.toks) { s with toks:=s.toks+1 }→wpAny (model X.prog X.w) X.A (f (.int i t)) Q E s) :
 UnR X f (rU fun i=>.int (g i)):=by
 intro pins s σ H x v Q I rx h
 obtain⟨i,rfl,q⟩:=h
 obtain⟨t,rfl⟩:=rx
 exact rule i t s _ _ ⟨.int (g i),H,I.tok _,⟨_,rfl⟩,q⟩
theorem XN:UnR X (unaryOp .USub) (rU fun i=>.int (-i)):=unI fun _ _ _ _ _ q=>neg_int q
end
section
variable{X:Cx}{a b c:Expr}{ta tb tc:TE}{pos:Pos}
theorem Gr{pins:List (Addr×Obj)}{σ : St}{H:Hp}{s:Shared}{Q:VK}{k k':Bool}(I:Inv X pins σ H s)(q:Q (.bl k) H)(e:k=k'):EP X pins σ Q (.bool k') s:=by
 subst e
 exact⟨.bl k,H,I,rfl,q⟩
theorem aaV:qU X (compareOp .Lt) (Qm fun i j=>.bl (decide (i < j))):=YD fun _ _ _ _ _ _ _ q=>lt_int q
theorem Dl:qU X (compareOp .LtE) (Qm fun i j=>.bl (decide (i≤j))):=YD fun _ _ _ _ _ _ _ q=>le_int q
theorem aaW:qU X (compareOp .Gt) (Qm fun i j=>.bl (decide (j < i))):=YD fun _ _ _ _ _ _ _ q=>gt_int q
theorem OD:qU X (compareOp .Lt) (fun x y H Q=>∃ i j,x=.str i∧y=.str j∧Q (.bl (decide (i.cps.toList < j.cps.toList))) H):=by
 intro pins s σ H x y v u Q I rx ry h
 obtain⟨i,j,rfl,rfl,q⟩:=h
 obtain⟨t,rfl⟩:=rx
 obtain⟨t',rfl⟩:=ry
 exact lt_str (Gr I q rfl)
theorem OJ:qU X (compareOp .In) (fun x y H Q=>∃ i j,x=.str i∧y=.str j∧Q (.bl (!(Builtin.Str.occurrences j i 0 j.length 1).isEmpty)) H):=by
 intro pins s σ H x y v u Q I rx ry h
 obtain⟨i,j,rfl,rfl,q⟩:=h
 obtain⟨t,rfl⟩:=rx
 obtain⟨t',rfl⟩:=ry
 exact in_str (Gr I q rfl)
theorem Vt:qU X (compareOp .IsNot) (fun x y H Q=>y=.non∧Q (.bl (!decide (x=.non))) H):=by
 intro pins s σ H x y v u Q I rx ry h
 obtain⟨rfl,q⟩:=h
 cases ry
 refine isnot_none_gen (Gr I q ?_)
 cases x<;>first
  | (cases rx;rfl)
  | (obtain⟨t,rfl⟩:=rx;rfl)
theorem qU.or{f:Value→Value→Sem Value}{r r':R2}(h:qU X f r)(h':qU X f r'):qU X f (fun x y H Q=>r x y H Q∨r' x y H Q):=by
 intro pins s σ H x y v u Q I rx ry q
 rcases q with q|q
 ·exact h pins s σ H x y v u Q I rx ry q
 ·exact h' pins s σ H x y v u Q I rx ry q
theorem bY(b:Expr){op:CmpOp}(h:op≠.In:=by decide)(h2:op≠.NotIn:=by decide):behindInMarks op b=false:=by
 have e1:(op == CmpOp.In)=false:=by cases op<;>first|rfl|exact absurd rfl h
 have e2:(op == CmpOp.NotIn)=false:=by cases op<;>first|rfl|exact absurd rfl h2
 cases b<;>simp[behindInMarks,e1,e2]
theorem Ft{op:CmpOp}{r:R2}(ho:qU X (compareOp op) r)(ha:PE X a ta)(hb:PE X b tb)(hm:behindInMarks op b=false):PE X (.Compare a [op] [b] pos) (tOp r ta tb):=by
 intro pins s σ H Q I h
 exact wpAny_Compare1 (ZJ ha hb I h fun v u s2 x y H2 I2 rx ry q=>ho pins s2 σ H2 x y v u Q I2 rx ry q) hm
def QJ(t:TE):TT:=fun σ H Q=>t σ H fun x H'=>∃ k,x=.bl k∧Q k H'
theorem bz{op:CmpOp}{r:R2}(ho:qU X (compareOp op) r)(ha:PE X a ta)(hb:PE X b tb)(hm:behindInMarks op b=false):PT X (.Compare a [op] [b] pos) (QJ (tOp r ta tb)):=by
 intro pins s σ H Q I h
 refine wpAny_isTrue_Compare1 (gf (ha pins s σ H _ I h) fun v s1 ⟨x,H1,I1,r1,q1⟩=>gf (hb pins s1 σ H1 _ I1 q1) fun u s2 ⟨y,H2,I2,r2,q2⟩ =>
  gf (ho pins s2 σ H2 x y v u _ I2 r1 r2 q2) fun c s3 ⟨z,H3,I3,r3,k,e,q3⟩=>?_) hm
 subst e
 cases r3
 exact wpAny_truthy_bool ⟨H3,I3,q3⟩
def JW(r r':R2)(ta tb tc:TE):TE:=fun σ H Q=>ta σ H fun x H1=>tb σ H1 fun y H2=>r x y H2 fun z H3=>∃ k,z=.bl k ∧
 (if k=true then tc σ H3 fun w' H4=>r' y w' H4 Q else Q (.bl false) H3)
theorem Rv{op op':CmpOp}{r r':R2}(ho:qU X (compareOp op) r)(ho':qU X (compareOp op') r')(ha:PE X a ta)(hb:PE X b tb)(hc:PE X c tc)
 (hm:lastMarks [op,op'] [b,c]=false:=by with_unfolding_all rfl):PE X (.Compare a [op,op'] [b,c] pos) (JW r r' ta tb tc):=by
 intro pins s σ H Q I h
 refine Compare_chain (gf (ha pins s σ H _ I h) fun v s1 ⟨x,H1,I1,r1,q1⟩=>chain_link (gf (hb pins s1 σ H1 _ I1 q1) fun u s2 ⟨y,H2,I2,r2,q2⟩ =>
  gf (ho pins s2 σ H2 x y v u _ I2 r1 r2 q2) fun d s3 ⟨z,H3,I3,r3,k,e,q3⟩=>?_)) hm
 subst e
 cases r3
 refine wpAny_truthy_bool ?_
 cases k with
 | false=>exact ite_ff ⟨.bl false,H3,I3,rfl,q3⟩
 | true=>exact ite_tt (chain_last (gf (hc pins s3 σ H3 _ I3 q3) fun w' s4 ⟨z',H4,I4,r4,q4⟩=>ho' pins s4 σ H4 y z' u w' Q I4 r2 r4 q4))
theorem Aw{op op':CmpOp}{r r':R2}(ho:qU X (compareOp op) r)(ho':qU X (compareOp op') r')(ha:PE X a ta)(hb:PE X b tb)(hc:PE X c tc)
 (hm:lastMarks [op,op'] [b,c]=false:=by with_unfolding_all rfl):PT X (.Compare a [op,op'] [b,c] pos) (QJ (JW r r' ta tb tc)):=by
 intro pins s σ H Q I h
 refine isTrue_chain (gf (ha pins s σ H _ I h) fun v s1 ⟨x,H1,I1,r1,q1⟩=>test_link (gf (hb pins s1 σ H1 _ I1 q1) fun u s2 ⟨y,H2,I2,r2,q2⟩ =>
  gf (ho pins s2 σ H2 x y v u _ I2 r1 r2 q2) fun d s3 ⟨z,H3,I3,r3,k,e,q3⟩=>?_)) hm
 subst e
 cases r3
 refine wpAny_truthy_bool ?_
 cases k with
 | false =>
  obtain⟨k',e',q'⟩:=q3
  cases e'
  exact ite_ff ⟨H3,I3,q'⟩
 | true =>
  refine ite_tt (test_last (gf (hc pins s3 σ H3 _ I3 q3) fun w' s4 ⟨z',H4,I4,r4,q4⟩=>gf (ho' pins s4 σ H4 y z' u w' _ I4 r2 r4 q4) fun d' s5 ⟨z2,H5,I5,r5,k2,e2,q5⟩=>?_))
  subst e2
  cases r5
  exact wpAny_truthy_bool ⟨H5,I5,q5⟩
def Z0(K:PySem.W.Frag)(x:V)(H:Hp)(k:Bool):Prop :=
 match x with
 | .non=>k=false
 | .bl b=>k=b
 | .int i=>k=(i != 0)
 | .str y=>y.length≤sizeLine∧k=((y.length:Int) != 0)
 | .byt y=>y.size≤sizeLine∧k=((y.size:Int) != 0)
 | .ref p=>(∃ xs,v7 K H p xs∧k = !xs.isEmpty)∨(∃ xs,CV K H p xs∧k = !xs.isEmpty)∨∃ kvs,H p=some (.dK kvs)∧k = !kvs.isEmpty
 | _=>False
theorem KD{κ : Type}{kvs:List (κ×V)}{vs:List (κ×Value)}(r:KV kvs vs):(!vs.isEmpty) = !kvs.isEmpty:=by
 cases r<;>rfl
theorem Bq{xs:List V}{its:List Value}(r:Vals xs its):(!its.toArray.isEmpty) = !xs.isEmpty:=by
 cases r<;>simp
theorem xZ:(sizeLine:Nat) < 2 ^ 63:=by rw[sizeLine_eq];decide
theorem X6:acL X (fun x H Q=>∃ k,Z0 X.K x H k∧Q k H):=by
 intro pins s σ H x v Q I rx h
 obtain⟨k,e,q⟩:=h
 have hl:=xZ
 have hs:sizeLine=16777216:=sizeLine_eq
 cases x with
 | non =>
  cases rx
  have e':k=false:=e
  subst e'
  exact truthy_none ⟨H,I,q⟩
 | bl b =>
  cases rx
  have e':k=b:=e
  subst e'
  exact wpAny_truthy_bool ⟨H,I,q⟩
 | int i =>
  obtain⟨t,rfl⟩:=rx
  have e':k=(i != 0):=e
  subst e'
  exact PySem.P.truthy_int ⟨H,I,q⟩
 | str y =>
  obtain⟨t,rfl⟩:=rx
  obtain⟨hy,e'⟩ : y.length≤sizeLine∧k=((y.length:Int) != 0):=e
  subst e'
  exact PySem.P.truthy_str (by omega) ⟨H,I.tok _,q⟩
 | byt y =>
  obtain⟨t,rfl⟩:=rx
  obtain⟨hy,e'⟩ : y.size≤sizeLine∧k=((y.size:Int) != 0):=e
  subst e'
  exact PySem.W.truthy_bytes (by omega) ⟨H,I.tok _,q⟩
 | ref p =>
  cases rx
  have e':(∃ xs,v7 X.K H p xs∧k = !xs.isEmpty)∨(∃ xs,CV X.K H p xs∧k = !xs.isEmpty)∨∃ kvs,H p=some (.dK kvs)∧k = !kvs.isEmpty:=e
  rcases e' with ⟨xs,hx,e'⟩|⟨xs,hx,e'⟩|⟨kvs,hx,e'⟩
  ·subst e'
   obtain⟨its,r,pl,hz⟩:=I.list hx
   have hlen:=r.length
   exact wpAny_truthy_list pl.isList (by simp only[List.size_toArray];omega) ⟨H,I.tok _,by rw[Bq r];exact q⟩
  ·subst e'
   obtain⟨its,r,pl,hz⟩:=I.tuple hx
   have hlen:=r.length
   exact truthy_tuple pl (by simp only[List.size_toArray];omega) ⟨H,I.tok _,by rw[Bq r];exact q⟩
  ·subst e'
   obtain⟨hz,hS,vs,r,m⟩ : kvs.length≤sizeLine∧(p == sysModules)=false∧∃ vs,KV kvs vs∧s.heap.DictOf (ji X.prog X.w) p vs:=I.hok p _ hx
   have hlen:kvs.length=vs.length:=Paired.length r
   exact wpAny_truthy_dict hS m (by omega) ⟨H,I.tok _,by rw[KD r];exact q⟩
 | _=>exact(show False from e).elim
theorem Hy(ha:PE X a ta)(he:∀ whole,isTrue a X.env whole=(do let v ← whole;standAt a.pos;holding [v] (truthy v))) :
 PT X a (fun σ H Q=>ta σ H fun x H'=>∃ k,Z0 X.K x H' k∧Q k H'):=by
 intro pins s σ H Q I h
 exact isTrue_plain (gf (ha pins s σ H _ I h) fun v s1 ⟨x,H1,I1,r1,q1⟩=>X6 pins s1 σ H1 x v Q I1 r1 q1) (he _)
theorem J7:qU X (binaryOp .Add) (fun x y H Q=>∃ i j,x=.str i∧y=.str j∧i.length+j.length≤sizeLine∧Q (.str (i++j)) H):=by
 intro pins s σ H x y v u Q I rx ry h
 obtain⟨i,j,rfl,rfl,hz,q⟩:=h
 obtain⟨t,rfl⟩:=rx
 obtain⟨t',rfl⟩:=ry
 exact add_str (fun t' tk=>⟨.str (i++j),H,I.tok _,⟨_,rfl⟩,q⟩) hz
theorem vals1{x:V}{us:List Value}(r:Vals [x] us):∃ u,us=[u]∧RelV x u:=by
 cases r with
 | cons r1 r2=>cases r2;exact⟨_,rfl,r1⟩
theorem vals2{x y:V}{us:List Value}(r:Vals [x,y] us):∃ u w',us=[u,w']∧RelV x u∧RelV y w':=by
 cases r with
 | cons r1 r2 =>
  cases r2 with
  | cons r3 r4=>cases r4;exact⟨_,_,rfl,r1,r3⟩
theorem PK(hc:X.calm=true):lL X (.builtin "max") (fun xs H Q=>∃ i j,xs=[.int i,.int j]∧Q (.int (if j > i then j else i)) H):=by
 intro pins s σ H xs us Q I r h
 obtain⟨i,j,rfl,q⟩:=h
 obtain⟨u,w',rfl,⟨t,rfl⟩,⟨t',rfl⟩⟩:=vals2 r
 refine max_two_ints (I.ok.hd hc) fun h' tk k=>⟨_,H,I.kept k,?_,q⟩
 by_cases hj:j > i
 ·rw[if_pos hj,if_pos hj];exact⟨_,rfl⟩
 ·rw[if_neg hj,if_neg hj];exact⟨_,rfl⟩
theorem PJ(hc:X.calm=true):lL X (.builtin "min") (fun xs H Q=>∃ i j,xs=[.int i,.int j]∧Q (.int (if j < i then j else i)) H):=by
 intro pins s σ H xs us Q I r h
 obtain⟨i,j,rfl,q⟩:=h
 obtain⟨u,w',rfl,⟨t,rfl⟩,⟨t',rfl⟩⟩:=vals2 r
 refine min_two_ints (I.ok.hd hc) fun h' tk k=>⟨_,H,I.kept k,?_,q⟩
 by_cases hj:j < i
 ·rw[if_pos hj,if_pos hj];exact⟨_,rfl⟩
 ·rw[if_neg hj,if_neg hj];exact⟨_,rfl⟩
def abF(K:PySem.W.Frag)(x:V)(H:Hp)(n:Nat):Prop :=
 match x with
 | .str y=>y.length≤sizeLine∧n=y.length
 | .byt y=>y.size≤sizeLine∧n=y.size
 | .ref p=>(∃ xs,v7 K H p xs∧n=xs.length)∨∃ xs,CV K H p xs∧n=xs.length
 | _=>False
theorem Uc:lL X (.builtin "len") (fun xs H Q=>∃ x n,xs=[x]∧abF X.K x H n∧Q (.int n) H):=by
 intro pins s σ H xs us Q I r h
 obtain⟨x,n,rfl,e,q⟩:=h
 obtain⟨u,rfl,rx⟩:=vals1 r
 have hl:=xZ
 have hs:sizeLine=16777216:=sizeLine_eq
 cases x with
 | str y =>
  obtain⟨t,rfl⟩:=rx
  obtain⟨hy,e'⟩ : y.length≤sizeLine∧n=y.length:=e
  subst e'
  exact len_str (by omega) ⟨.int _,H,I.tok _,⟨_,rfl⟩,q⟩
 | byt y =>
  obtain⟨t,rfl⟩:=rx
  obtain⟨hy,e'⟩ : y.size≤sizeLine∧n=y.size:=e
  subst e'
  exact PySem.W.len_bytes (by omega) ⟨.int _,H,I.tok _,⟨_,rfl⟩,q⟩
 | ref p =>
  cases rx
  have e':(∃ xs,v7 X.K H p xs∧n=xs.length)∨∃ xs,CV X.K H p xs∧n=xs.length:=e
  rcases e' with ⟨xs,hx,e'⟩|⟨xs,hx,e'⟩
  ·subst e'
   obtain⟨its,r',pl,hz⟩:=I.list hx
   have hlen:=r'.length
   exact Calls.call_len_list pl.isList (by simp only[List.size_toArray];omega) ⟨.int xs.length,H,I.tok _,⟨_,by simp only[List.size_toArray];rw[hlen]⟩,q⟩
  ·subst e'
   obtain⟨its,r',pl,hz⟩:=I.tuple hx
   have hlen:=r'.length
   exact len_tuple pl (by simp only[List.size_toArray];omega) ⟨.int xs.length,H,I.tok _,⟨_,by simp only[List.size_toArray];rw[hlen]⟩,q⟩
 | _=>exact(show False from e).elim
end
end L2
namespace L2
open PySem PySem.Spec PyProof.Rows
structure Z3(h:Heap)(x dx C:Addr)(mA:Str→Option Value):Prop where
 obj:h.get? x=some (PySem.W.instObj C dx)
 ns:h.Ns1 dx mA
 ne:dx≠x
theorem O6{h:Heap}{dx:Addr}{mA:Str→Option Value}(n:h.Ns1 dx mA):∃ od,h.get? dx=some od∧∀ name,PySem.W.lookIn name od=some (mA name):=by
 obtain⟨o,es,ep,ho,hd,hk,_,hm⟩:=n
 refine⟨o,ho,fun name=>?_⟩
 have e:=hm name
 unfold nsFind findBy at e
 rw[← Array.find?_toList] at e
 unfold PySem.W.lookIn
 rw[hd]
 dsimp only
 split
 ·rename_i y q
  rw[q] at e
  exact congrArg some e
 ·rename_i q
  rw[q] at e
  have a:es.toList.any (·.refKey)=false:=by
   rw[List.any_eq_false]
   intro y hy
   obtain⟨z,t,hkey⟩:=hk y (Array.mem_toList_iff.mp hy)
   simp[DictEntry.refKey,hkey]
  have a':¬ es.toList.any (·.refKey)=true:=by rw[a];exact Bool.false_ne_true
  rw[if_neg a']
  exact congrArg some e
theorem Z3.look{h:Heap}{x dx C:Addr}{mA:Str→Option Value}(I:Z3 h x dx C mA):∃ od,PySem.W.InstAt h x (PySem.W.instObj C dx) C (some od)∧∀ name,PySem.W.lookIn name od=some (mA name) :=
 let ⟨od,ho,hl⟩:=O6 I.ns
 ⟨od,⟨I.obj,rfl,rfl,ho⟩,hl⟩
section
variable{P:Program}{w:World}{H H':Hp}{h h':Heap}{a C dx:Addr}{fs fs':List (Str×V)}
theorem M8(hok:qX P w H h)(e:H a=some (.ins C dx fs)):∃ mA,Z3 h a dx C mA∧(∀ f,Ln (fs.lookup f) (mA f))∧PySem.Within mA (fs.map (·.1))∧fs.length≤1000∧H dx=some (.own a):=by
 obtain⟨d,z,ne,ob,mA,n,r,q⟩:=(show di P w H h a (.ins C dx fs) from hok a _ e)
 exact⟨mA,⟨ob,n,ne⟩,r,q,z,d⟩
end
structure Cls(K:PySem.W.Frag)(C:Addr):Prop where
 pg:PySem.W.plainGet K C Str.empty=true
 hd:PySem.W.hasDictIn K C=true
 po:PySem.W.plainOver K C=true
 sa:PySem.W.findIn K (.ref C) "__setattr__" = some (some (.builtin "object.__setattr__"))
theorem Cls.get{K:PySem.W.Frag}{C:Addr}(c:Cls K C)(f:Str):PySem.W.plainGet K C f=true:=c.pg
section
variable{X:Cx}{pins:List (Addr×Obj)}{σ : St}{H:Hp}{s:Shared}{A:Around}{E:Value→Shared→Prop}{Q:Value→Shared→Prop}{c:Value}{b:Bool}
inductive uR(K:PySem.W.Frag)(H:Hp):V→Value→Prop where
 | non:uR K H .non (.type "NoneType")
 | bl (x:Bool):uR K H (.bl x) (.type "bool")
 | int (i:Int):uR K H (.int i) (.type "int")
 | str (x:Str):uR K H (.str x) (.type "str")
 | flt (x:UInt64):uR K H (.flt x) (.type "float")
 | lst {a:Addr} {xs:List V} (e:H a=some (.lst xs)):uR K H (.ref a) (.type "list")
 | frz {a:Addr} {o:Obj} {xs:List V} (e:H a=some (.frz o (.lst xs))):uR K H (.ref a) (.type "list")
 | tup {a:Addr} {xs:List V} (e:H a=some (.tup xs)):uR K H (.ref a) (.type "tuple")
 | dK {a:Addr} {kvs:List (Key×V)} (e:H a=some (.dK kvs)):uR K H (.ref a) (.type "dict")
 | dT {a:Addr} {kvs:List (List Key×V)} (e:H a=some (.dT kvs)):uR K H (.ref a) (.type "dict")
 | ins {a C dx:Addr} {fs:List (Str×V)} (e:H a=some (.ins C dx fs)) (cl:Cls K C) (ha:PySem.W.findIn K (.ref C) "__class__" = some (some (.builtin "object.__class__")))
  (hn:PySem.W.specialIn K (.builtin "object.__class__") "__get__" = some (some (.builtin "getset_descriptor.__get__"))) (htk:PySem.W.takesIn K (.builtin "object.__class__")=some true)
  (hm:PySem.W.mroIn K C (.type "object")=some true):uR K H (.ref a) (.ref C)
theorem Pg{x:V}{u t:Value}(I:Inv X pins σ H s)(rx:RelV x u)(ty:uR X.K H x t)(e:PySem.W.kitOne X.K t c=some b)(h:∀ tk,Q (.bool b) { s with toks:=tk }) :
 wpAny (model X.prog X.w) A (call (.builtin "isinstance") [u,c]) Q E s:=by
 cases ty with
 | non=>cases (show u=Value.none from rx);exact PySem.W.kia_one PySem.W.kitx_none I.yX True.intro e (fun z=>nomatch z) h
 | bl y=>cases (show u=Value.bool y from rx);exact PySem.W.kia_one PySem.W.kitx_bool I.yX True.intro e (fun z=>nomatch z) h
 | int i=>obtain⟨t,q⟩:=(show ∃ t,u=Value.int i t from rx);cases q;exact PySem.W.kia_one PySem.W.kitx_int I.yX True.intro e (fun z=>nomatch z) h
 | str y=>obtain⟨t,q⟩:=(show ∃ t,u=Value.str y t from rx);cases q;exact PySem.W.kia_one PySem.W.kitx_str I.yX True.intro e (fun z=>nomatch z) h
 | flt y=>obtain⟨t,q⟩:=(show ∃ t,u=Value.float y t from rx);cases q;exact PySem.W.kia_one PySem.W.kitx_float I.yX True.intro e (fun z=>nomatch z) h
 | @lst a xs ea =>
  cases (show u=Value.ref a from rx)
  obtain⟨_,_,n,_,h1⟩:=(show di X.prog X.w H s.heap a (.lst xs) from I.hok a _ ea)
  exact PySem.W.kia_one PySem.W.kitx_list I.yX ⟨_,h1,rfl⟩ e (fun z=>nomatch z) h
 | @frz a ob xs ea =>
  cases (show u=Value.ref a from rx)
  obtain⟨_,_,_,n,_,h1⟩:=(show di X.prog X.w H s.heap a (.frz ob (.lst xs)) from I.hok a _ ea)
  exact PySem.W.kia_one PySem.W.kitx_list I.yX ⟨_,h1,rfl⟩ e (fun z=>nomatch z) h
 | @tup a xs ea =>
  cases (show u=Value.ref a from rx)
  obtain⟨_,_,_,p⟩:=(show di X.prog X.w H s.heap a (.tup xs) from I.hok a _ ea)
  obtain⟨o,h1,h2,_⟩:=p
  exact PySem.W.kia_one PySem.W.kitx_tuple I.yX ⟨o,h1,h2⟩ e (fun z=>nomatch z) h
 | @dK a kvs ea =>
  cases (show u=Value.ref a from rx)
  obtain⟨_,_,vs,_,p⟩:=(show di X.prog X.w H s.heap a (.dK kvs) from I.hok a _ ea)
  obtain⟨o,es,ep,h1,h2,_⟩:=p
  exact PySem.W.kia_one PySem.W.kitx_dict I.yX ⟨o,h1,h2.1⟩ e (fun z=>nomatch z) h
 | @dT a kvs ea =>
  cases (show u=Value.ref a from rx)
  obtain⟨_,_,xs,_,o,es,ep,h1,h2,_⟩:=(show di X.prog X.w H s.heap a (.dT kvs) from I.hok a _ ea)
  exact PySem.W.kia_one PySem.W.kitx_dict I.yX ⟨o,h1,h2.1⟩ e (fun z=>nomatch z) h
 | @ins a C dx fs ea cl ha hn htk hm =>
  cases (show u=Value.ref a from rx)
  obtain⟨mA,O,_⟩:=M8 I.hok ea
  obtain⟨od,J,_⟩:=O.look
  exact PySem.W.kia_one (PySem.W.kitx_own (cl.get _) cl.hd ha hn htk hm) I.yX J e (fun z=>nomatch z) h
end
end L2
namespace L2
open PySem PySem.Spec PyProof.Rows
structure j9(k:Nat)(A:Around):Prop where
 hd:A.handled=none
 dp:A.depth+3 * k+5 < recursionLimit
 un:A.units+16 * k+200 < cLine
theorem j9.mono{j k:Nat}{A:Around}(r:j9 k A)(h:j≤k):j9 j A:=⟨r.hd,by have:=r.dp;omega,by have:=r.un;omega⟩
theorem j9.deeper{k:Nat}{A:Around}(r:j9 (k+1) A)(env:Env):j9 k (A.deeper env) :=
 ⟨r.hd,by have:=r.dp;show A.depth+1+3 * k+5 < _;omega,by have:=r.un;show A.units+3+16 * k+200 < _;omega⟩
theorem j9.in1{k:Nat}{A:Around}(r:j9 (k+1) A):j9 k A.in1 :=
 ⟨r.hd,by have:=r.dp;show A.depth+3 * k+5 < _;omega,by have:=r.un;show A.units+1+16 * k+200 < _;omega⟩
theorem j9.depth{k:Nat}{A:Around}(r:j9 k A):A.depth < recursionLimit:=by have:=r.dp;omega
theorem j9.units{k:Nat}{A:Around}(r:j9 k A):A.units+64 < cLine:=by have:=r.un;omega
def vz:TA:=fun _ H Q=>Q [] H
def lg(ta:TE)(tr:TA):TA:=fun σ H Q=>ta σ H fun x H1=>tr σ H1 fun xs H2=>Q (x::xs) H2
section
variable{X:Cx}{e:Expr}{es:List Expr}{te:TE}{t:TA}{pos:Pos}
theorem aq:PA X [] vz:=fun _ _ _ _ H Q I h=>Calls.spliced_nil ⟨[],H,I,.nil,h⟩
theorem aa(ha:PE X e te)(hr:PA X es t)(hs:starEach (e::es) X.env=(false,eval e X.env)::starEach es X.env:=by rfl):PA X (e::es) (lg te t):=by
 intro pos pins s σ H Q I h
 rw[hs]
 show wpAny _ _ (spliced ((false,eval e X.env)::backTo pos (starEach es X.env))) _ _ s
 refine Calls.spliced_cons (gf (ha pins s σ H _ I h) fun u s1 ⟨x,H1,I1,r1,q1⟩=>?_)
 exact gf (hr pos pins s1 σ H1 _ I1 q1) fun us s2 ⟨xs,H2,I2,r2,q2⟩=>⟨x::xs,H2,I2,.cons r1 r2,q2⟩
def Vb(t:TA):TE:=fun σ H Q=>t σ H fun xs H1=>xs.length≤sizeLine∧∀ p,H1 p=none→Q (.ref p) (upd H1 p (.tup xs))
def aat(t:TA):TE:=fun σ H Q=>t σ H fun xs H1=>xs.length≤sizeLine∧∀ p,H1 p=none→Q (.ref p) (upd H1 p (.lst xs))
theorem gD{x1}(h:PA X es t):PE X (.Tuple es x1 pos) (Vb t):=by
 intro pins s σ H Q I hq
 refine wpAny_Tuple_spliced (gf (h pos pins s σ H _ I hq) fun us s1 ⟨xs,H1,I1,r,z,q⟩=>⟨by rw[← r.length];exact z,?_⟩)
 have hf:H1 s1.heap.objs.size=none:=I1.hok.fresh (Nat.le_refl _)
 refine⟨.ref s1.heap.objs.size,upd H1 s1.heap.objs.size (.tup xs),I1.laid (t':=s1.toks) (fun b u e=>Heap.get?_push_of_some _ e) (Nat.le_refl _) ?_,rfl,q _ hf⟩
 exact⟨z,us,r,⟨_,Heap.get?_push_size _ rfl,rfl,rfl,_,rfl⟩⟩
theorem iZ(h:PA X es t):PE X (.List es pos) (aat t):=by
 intro pins s σ H Q I hq
 refine wpAny_List_spliced (gf (h pos pins s σ H _ I hq) fun us s1 ⟨xs,H1,I1,r,z,q⟩=>⟨by rw[← r.length];exact z,?_⟩)
 have hf:H1 s1.heap.objs.size=none:=I1.hok.fresh (Nat.le_refl _)
 refine⟨.ref s1.heap.objs.size,upd H1 s1.heap.objs.size (.lst xs),I1.laid (t':=s1.toks) (fun b u e=>Heap.get?_push_of_some _ e) (Nat.le_refl _) ?_,rfl,q _ hf⟩
 exact⟨z,us,0,r,Heap.get?_push_size _ rfl⟩
end
abbrev Sp:=List V→Hp→VK→XK→Prop
abbrev G4:=List Env→Hp→Shared→XK→Value→Shared→Prop
structure Qj(P:Program)(w:World)(K:PySem.W.Frag)(mg:Str→Option Value)(base:Heap)(A:Around)(outer:List Env)(s:Shared)(H:Hp):Prop where
 frames:A.frames=some outer
 mod:Mod K mg base
 bs:∀ b o,base.get? b=some o→s.heap.get? b=some o∧H b=none
 bsz:base.objs.size≤s.heap.objs.size
 tQ:s.heap.FunFrames base outer
 frf:∀ b∈frs outer,H b=none
 hok:qX P w H s.heap
 bare:AllBare s.gens
def CE(outer:List Env)(P:Program)(w:World)(H:Hp)(s:Shared)(Q:VK)(u:Value)(s':Shared):Prop :=
 ∃ v H',s'.os=s.os∧AllBare s'.gens∧Un (frs outer) [] H H' s.heap s'.heap∧qX P w H' s'.heap∧RelV v u∧Q v H'
def CR(CX:G4)(outer:List Env)(P:Program)(w:World)(H:Hp)(s:Shared)(Q:VK)(E:XK)(r:Result)(s':Shared):Prop :=
 match r with
 | .ok (.ret u)=>CE outer P w H s Q u s'
 | .ok _=>False
 | .error e=>CX outer H s E e s'
structure eY(P:Program)(w:World)(K:PySem.W.Frag)(mg:Str→Option Value)(base:Heap)(CX:G4)(k:Nat)(f:Addr)(fd:FuncData)(ps:List Str)(sp:Sp):Prop where
 len:∀ vs H Q E,sp vs H Q E→vs.length=ps.length
 run:∀ (A:Around) (outer:List Env) (s:Shared) (H:Hp) (args:Args) (us:List Value) (vs:List V) (Q:VK) (E:XK),j9 k A→Qj P w K mg base A outer s H→BindsTo s fd args (ps.zip us)→Vals vs us→sp vs H Q E →
  codeAny (model P w) A (.call (.ref f) args) (CR CX outer P w H s Q E) s
theorem eY.imp{P:Program}{w:World}{K:PySem.W.Frag}{mg:Str→Option Value}{base:Heap}{CX:G4}{k:Nat}{f:Addr}{fd:FuncData}{ps:List Str}{sp sp':Sp}(F:eY P w K mg base CX k f fd ps sp)
 (h:∀ vs H Q E,sp' vs H Q E→sp vs H Q E):eY P w K mg base CX k f fd ps sp' :=
 ⟨fun vs H Q E q=>F.len vs H Q E (h _ _ _ _ q),fun A outer s H args us vs Q E hr he hb hv hs=>F.run A outer s H args us vs Q E hr he hb hv (h _ _ _ _ hs)⟩
section
variable{X:Cx}{pins:List (Addr×Obj)}{σ : St}{H:Hp}{s s':Shared}
theorem Inv.env0(I:Inv X pins σ H s):Qj X.prog X.w X.K X.mg X.base X.A X.stack s H :=
 ⟨I.ok.frames,I.ok.mod,I.bs,Nat.le_trans I.ok.bsz I.sz,I.stack,I.wB,I.hok,I.bare⟩
theorem Inv.after{Q:VK}{u:Value}(I:Inv X pins σ H s)(h:CE X.stack X.prog X.w H s Q u s'):EP X pins σ Q u s':=by
 obtain⟨v,H',os,bare,un,hok,r,q⟩:=h
 obtain⟨hh,g,d,t,os'⟩:=s'
 obtain rfl:os'=s.os:=os
 exact⟨v,H',I.call (h':=hh) (g':=g) (d':=d) (t':=t) (ch:=[]) un hok bare (fun b z=>absurd z (by simp)),r,q⟩
end
def wu(sp:Sp)(dvs:List V)(E:XK)(t:TA):TE:=fun σ H Q=>t σ H fun vs H1=>sp (vs++dvs) H1 Q E
def Binds(K:PySem.W.Frag)(fd:FuncData)(ps:List Str)(ds:List Value):Prop :=
 ∀ (s:Shared) (us:List Value),K.In s.heap→(us++ds).length=ps.length→BindsTo s fd ⟨us,[]⟩ (ps.zip (us++ds))
theorem Binds.all{K:PySem.W.Frag}{fd:FuncData}{ps:List Str}(h:∀ us:List Value,us.length=ps.length→bindArgs fd ⟨us,[]⟩=pure (ps.zip us)):Binds K fd ps []:=fun s us _ hl=>by
 rw[List.append_nil] at hl ⊢
 exact .of_eq (h us hl)
def Cm(CX:G4)(X:Cx)(E:XK):Prop:=∀ (pins:List (Addr×Obj)) (σ : St) (H:Hp) (s:Shared) (e:Value) (s':Shared),Inv X pins σ H s→CX X.stack H s E e s'→X.xe e s'
section
variable{X:Cx}{CX:G4}{k:Nat}{f C:Addr}{fd:FuncData}{ps:List Str}{sp:Sp}{dvs:List V}{ds:List Value}{E:XK}{x m:Str}{p pos apos:Pos}{e o:Expr}{es:List Expr}{ta:TE}{t:TA}
theorem Yk{pins:List (Addr×Obj)}{σ : St}{H:Hp}{s:Shared}{Q:VK}{us:List Value}{vs:List V}(F:eY X.prog X.w X.K X.mg X.base CX k f fd ps sp)(hr:j9 k X.A)(hb:Binds X.K fd ps ds)(hd:Vals dvs ds)(hx:Cm CX X E)
 (I:Inv X pins σ H s) (r:Vals vs us) (h:sp (vs++dvs) H Q E):wpAny (model X.prog X.w) X.A (call (.ref f) us) (EP X pins σ Q) X.xe s:=by
 have r2:Vals (vs++dvs) (us++ds):=r.append hd
 have hl:(us++ds).length=ps.length:=by rw[← r2.length];exact F.len _ _ _ _ h
 refine wpAny_call (codeAny_mono (F.run X.A X.stack s H ⟨us,[]⟩ (us++ds) (vs++dvs) Q E hr I.env0 (hb s us I.yX hl) r2 h) fun r s' hq=>?_)
 cases r with
 | error e=>exact hx pins σ H s e s' I hq
 | ok fl =>
  cases fl with
  | ret u=>exact I.after hq
  | next=>exact False.elim hq
  | brk=>exact False.elim hq
  | cont=>exact False.elim hq
theorem Vp(F:eY X.prog X.w X.K X.mg X.base CX k f fd ps sp)(hr:j9 k X.A)(hg:Gl X x)(hm:X.mg x=some (.ref f))(hk:PySem.W.keepIn X.K (.ref f)=true)(hb:Binds X.K fd ps ds)(hd:Vals dvs ds)(hx:Cm CX X E)
 (ha:PA X (e::es) t) (hdb:(x == ("__debug__" : Str))=false:=by decide) (he:starEach (e::es) X.env=(false,eval e X.env)::starEach es X.env:=by rfl) (hpl:(backTo pos (starEach es X.env)).any (·.1)=false:=by rfl) :
 PE X (.Call (.Name x p) (e::es) [] pos) (wu sp dvs E t):=by
 intro pins s σ H Q I h
 refine wpAny_Call_Name_kw (uF I hg hm ?_ hdb)
 refine PySem.W.callWith_K (h₀:=X.base) I.ok.mod.kin hk (gf (ha pos pins s σ H _ I h) fun us s1 ⟨vs,H1,I1,r,q⟩=>⟨I1.yX,?_⟩) he hpl
 exact Yk F hr hb hd hx I1 r q
end
structure cH(N P:List Str)(sc:Scope):Prop where
 kind:sc.kind=.function
 co:sc.isCoroutine=false
 gen:sc.isGenerator=false
 nd:N.Nodup
 pre:N.take P.length=P
 par:∀ x∈P,sc.names.lookup x=some .local∨sc.names.lookup x=some .cell
 YJ:∀ y∈sc.names,y.2≠.free
theorem DW{kindOf:Str→Option NameKind}{x:Str}:∀ {binds:List (Str×Value)} {m:Str→Option Value},(∀ v,(x,v)∉binds)→bindL kindOf binds m x=m x
 | [],_,_=>rfl
 | (n,v)::r,m,h=>by
  unfold bindL
  rw[DW fun w hw=>h w (List.mem_cons_of_mem _ hw)]
  split
  ·have:x≠n:=by rintro rfl;exact h v List.mem_cons_self
   simp[this]
  ·rfl
theorem DY{kindOf:Str→Option NameKind}{x:Str}:∀ {binds:List (Str×Value)} {m:Str→Option Value},(∀ v,(x,v)∉binds)→bindC kindOf binds m x=m x
 | [],_,_=>rfl
 | (n,v)::r,m,h=>by
  unfold bindC
  rw[DY fun w hw=>h w (List.mem_cons_of_mem _ hw)]
  split
  ·rfl
  ·have:x≠n:=by rintro rfl;exact h v List.mem_cons_self
   simp[this]
theorem DX{kindOf:Str→Option NameKind}{x:Str}{v:Value}:∀ {P:List Str} {vs:List Value} {i:Nat} {m:Str→Option Value},P.Nodup→P[i]? = some x→vs[i]? = some v→kindOf x=some .local →
 bindL kindOf (P.zip vs) m x=some v
 | [],_,_,_,_,h,_,_=>by simp at h
 | _::_,[],_,_,_,_,h,_=>by simp at h
 | p::P,w::vs,0,m,nd,h1,h2,hk=>by
  simp at h1 h2;subst h1;subst h2
  show bindL kindOf ((p,w)::P.zip vs) m p=_
  unfold bindL
  rw[DW fun v hv=>(List.nodup_cons.mp nd).1 (List.of_mem_zip hv).1,if_pos hk]
  simp
 | p::P,w::vs,i+1,m,nd,h1,h2,hk=>by
  show bindL kindOf ((p,w)::P.zip vs) m x=_
  unfold bindL
  exact DX (i:=i) (List.nodup_cons.mp nd).2 (by simpa using h1) (by simpa using h2) hk
theorem Ea{kindOf:Str→Option NameKind}{x:Str}{v:Value}:∀ {P:List Str} {vs:List Value} {i:Nat} {m:Str→Option Value},P.Nodup→P[i]? = some x→vs[i]? = some v→kindOf x≠some .local →
 bindC kindOf (P.zip vs) m x=some v
 | [],_,_,_,_,h,_,_=>by simp at h
 | _::_,[],_,_,_,_,h,_=>by simp at h
 | p::P,w::vs,0,m,nd,h1,h2,hk=>by
  simp at h1 h2;subst h1;subst h2
  show bindC kindOf ((p,w)::P.zip vs) m p=_
  unfold bindC
  rw[DY fun v hv=>(List.nodup_cons.mp nd).1 (List.of_mem_zip hv).1,if_neg hk]
  simp
 | p::P,w::vs,i+1,m,nd,h1,h2,hk=>by
  show bindC kindOf ((p,w)::P.zip vs) m x=_
  unfold bindC
  exact Ea (i:=i) (List.nodup_cons.mp nd).2 (by simpa using h1) (by simpa using h2) hk
def start(N:List Str)(vs:List V):St:=vs.map some++List.replicate (N.length - vs.length) none
def nZ(CX:G4)(P:Program)(w:World)(K:PySem.W.Frag)(mg:Str→Option Value)(base:Heap)(N:List Str)(qual:Str)(scope:Scope)(f:Addr)(cd:Value)(A:Around)(outer:List Env)(s:Shared)(H:Hp)(E:XK):Cx where
 prog:=P
 w:=w
 K:=K
 mg:=mg
 base:=base
 A:=A.deeper (envOfC qual scope s.heap.objs.size f cd)
 N:=N
 s₀:=s
 H₀:=H
 env:=envOfC qual scope s.heap.objs.size f cd
 outer:=outer
 stack:=envOfC qual scope s.heap.objs.size f cd::outer
 ex:=[]
 calm:=true
 fn:=fun _=>true
 pn:=[]
 xe:=fun e s'=>wpAny (model P w) (A.deeper (envOfC qual scope s.heap.objs.size f cd)) (leaving (envOfC qual scope s.heap.objs.size f cd) e) (fun _ s''=>CX outer H s E e s'') (fun e' s''=>CX outer H s E e' s'') s'
theorem Jd{sc:Scope}{n:Nat}{x:Str}(h:sc.names.lookup x=some .cell):∃ c,(cellsFrom n sc.names []).lookup x=some c:=by
 have q:=PySem.W.cellsFrom_some sc.names n [] (.inl h)
 exact Option.isSome_iff_exists.mp q
theorem Ds{CX:G4}{P:Program}{w:World}{K:PySem.W.Frag}{mg:Str→Option Value}{base:Heap}{N ps:List Str}{qual:Str}{scope:Scope}{f:Addr}{cd:Value}{A:Around}{outer:List Env}{s s1:Shared}{H:Hp}{E:XK}{us:List Value}{vs:List V}
 (S:cH N ps scope) (hd:A.handled=none) (e0:Qj P w K mg base A outer s H) (hl:vs.length=ps.length) (r:Vals vs us)
 (x:InCallC s s.heap.objs.size (bindL (envOfC qual scope s.heap.objs.size f cd).kindOf (ps.zip us) fun _=>none) (cellsFrom (s.heap.objs.size+1) scope.names []) (bindC (envOfC qual scope s.heap.objs.size f cd).kindOf (ps.zip us) fun _=>none) s1) :
 Inv (nZ CX P w K mg base N qual scope f cd A outer s H E) [] (start N vs) H s1:=by
 have hpl:ps.length≤N.length:=by have:=congrArg List.length S.pre;rw[List.length_take] at this;omega
 obtain⟨h1,tk,rfl,hk⟩:=x.done
 have noA:∀ b:Addr,b∉(nZ CX P w K mg base N qual scope f cd A outer s H E).ex:=fun b z=>absurd (show b∈([]:List Addr) from z) (by simp)
 refine⟨⟨e0.mod,S.kind,rfl,rfl,Nat.le_refl _,fun y z c h1 h2=>?_,fun y hy=>?_,fun y c _ h=>?_,fun _=>hd,Around.frames_deeper e0.frames,.inr ⟨rfl,rfl⟩,fun b z=>absurd z (noA b),e0.bs,e0.bsz,fun b _ _=>noA b,fun b z=>absurd z (noA b),e0.tQ,e0.frf⟩,
  rfl,e0.bare,Un.kept hk,⟨_,x.toInCall.ns,fun i y v h1 h2 h3=>?_⟩,fun y c h=>⟨_,x.cell y c h⟩,e0.hok.fresh (Nat.le_refl _),fun y c h=>?_,fun p hp=>absurd (show p∈([]:List (Addr×Obj)) from hp) (by simp),e0.hok.kept hk,?_⟩
 ·exact name_of_addr x.apart (PySem.mem_of_lookup h1) (PySem.mem_of_lookup h2)
 ·have hy:scope.names.lookup y=some .cell∨scope.names.lookup y=some .free:=hy
  rcases hy with hy|hy
  ·exact Jd hy
  ·exact absurd rfl (S.YJ _ (PySem.mem_of_lookup hy))
 ·exact Nat.le_of_lt (x.above y c (PySem.mem_of_lookup h))
 ·have hi:i < vs.length:=by
   unfold start at h2
   by_cases hi:i < vs.length
   ·exact hi
   ·rw[List.getElem?_append_right (by simpa using hi)] at h2
    rw[List.getElem?_replicate] at h2
    split at h2<;>cases h2
  have ha:vs[i]? = some v:=by
   unfold start at h2
   rw[List.getElem?_append_left (by simpa using hi),List.getElem?_map] at h2
   cases e:vs[i]? with
   | none=>rw[e] at h2;cases h2
   | some a=>rw[e] at h2;cases h2;rfl
  obtain⟨u,hu,rv⟩:=r.get ha
  have hp:ps[i]? = some y:=by
   rw[← S.pre,List.getElem?_take_of_lt (by omega)];exact h1
  have ndP:ps.Nodup:=by rw[← S.pre];exact S.nd.sublist (List.take_sublist _ _)
  refine⟨u,rv,?_⟩
  rcases S.par y (List.mem_of_getElem? hp) with k|k
  ·exact .inl ⟨k,DX ndP hp hu k⟩
  ·obtain⟨c,e⟩:=Jd (n:=s.heap.objs.size+1) k
   refine .inr ⟨.inl k,c,e,?_⟩
   have q:=x.cell y c e
   rw[Ea ndP hp hu (by show scope.names.lookup y≠_;rw[k];decide)] at q
   exact q
 ·exact e0.hok.fresh (Nat.le_of_lt (x.above y c (PySem.mem_of_lookup h)))
 ·unfold start
  show _=N.length
  rw[List.length_append,List.length_map,List.length_replicate]
  omega
theorem Tu{CX:G4}{P:Program}{w:World}{K:PySem.W.Frag}{mg:Str→Option Value}{base:Heap}{k:Nat}{f:Addr}{name qual:Str}{params:Arguments}{body:List Stmt}{scope:Scope}{dV kV doc pm cdv ct oc:Value}{an od:Option Addr}
 {osl:Array (Option Value)} {N ps:List Str} {sp:Sp} (lk:K.lookup f=some ⟨oc,od,.func (PySem.W.fnOf name qual params body scope dV kV doc pm an cdv ct),osl⟩) (hcd:PySem.W.codeIn K cdv qual=true) (S:cH N ps scope)
 (len:∀ vs H Q E,sp vs H Q E→vs.length=ps.length)
 (hbody:∀ (A:Around) (outer:List Env) (s:Shared) (H:Hp) (vs:List V) (Q:VK) (E:XK),j9 k (A.deeper (envOfC qual scope s.heap.objs.size f cdv))→sp vs H Q E →
  ∃ t,G6 (nZ CX P w K mg base N qual scope f cdv A outer s H E) body t∧t { nx:=fun _ H'=>Q .non H',rt:=Q } (start N vs) H) :
 eY P w K mg base CX (k+1) f (PySem.W.fnOf name qual params body scope dV kV doc pm an cdv ct) ps sp:=by
 refine⟨len,fun A outer s H args us vs Q E hr e0 hb r hsp=>?_⟩
 have hl:=len _ _ _ _ hsp
 have KX:K.In s.heap:=e0.mod.kin.keeps fun b o e=>(e0.bs b o e).1
 have lim:s.heap.NoLimit:=e0.mod.nolimit.keeps fun b o e=>(e0.bs b o e).1
 have hkind:∀ y∈ps.zip us,scope.names.lookup y.1=some .local∨(scope.names.lookup y.1=some .cell∧((cellsFrom (s.heap.objs.size+1) scope.names []).lookup y.1).isSome=true):=fun ⟨n,v⟩ hy=>by
  rcases S.par n (List.of_mem_zip hy).1 with q|q
  ·exact .inl q
  ·exact .inr ⟨q,PySem.W.cellsFrom_some _ _ _ (.inl q)⟩
 refine codeAny_call_function hr.depth (KX _ _ lk) rfl S.co S.gen rfl (PySem.W.codeRec_of KX hcd) (hb _ _ _ _ ?_)
 refine wpAny_newFunctionEnv_cells S.kind hkind fun env he s1 x=>?_
 subst he
 refine⟨lim.keeps x.toInCall.keep,codeAny_func ?_⟩
 obtain⟨t,ht,hq⟩:=hbody A outer s H vs Q E (hr.deeper _) hsp
 have I:Inv (nZ CX P w K mg base N qual scope f cdv A outer s H E) [] (start N vs) H s1:=Ds S hr.hd e0 hl r x
 refine wpAny_mono (ht [] s1 (start N vs) H _ I hq) (fun fl s' hs=>?_) fun e s' hs=>hs
 have fin:∀ {σ':St} {H':Hp} {v:V} {u:Value},Inv (nZ CX P w K mg base N qual scope f cdv A outer s H E) [] σ' H' s'→RelV v u→Q v H'→CE outer P w H s Q u s' :=
  fun {σ' H' v u} J rv q=>⟨v,H',J.os,J.bare,J.base,J.hok,rv,q⟩
 cases fl with
 | ret u =>
  obtain⟨v,σ',H',J,rv,q⟩:=hs
  exact fin J rv q
 | next =>
  obtain⟨σ',H',J,q⟩:=hs
  exact fin (v:=V.non) (u:=Value.none) J rfl q
 | brk =>
  obtain⟨_,_,_,q⟩:=hs
  exact False.elim q
 | cont =>
  obtain⟨_,_,_,q⟩:=hs
  exact False.elim q
end L2
namespace L2
open PySem PySem.Spec PyProof.Rows
section
variable{X:Cx}{x:Str}{p pos:Pos}{e:Expr}{es:List Expr}{t:TA}{id T:String}{r:List V→Hp→VK→Prop}
def Ye(r:List V→Hp→VK→Prop)(t:TA):TE:=fun σ H Q=>t σ H fun vs H1=>r vs H1 Q
theorem aW(hc:lL X (.builtin id) r)(hg:Gl X x)(hm:X.mg x=none)(hv:bootBuiltins x=some (.builtin id))(ha:PA X (e::es) t)(hn:x ≠ "__name__" := by decide)(hdb:(x == ("__debug__" : Str))=false:=by decide)
 (he:starEach (e::es) X.env=(false,eval e X.env)::starEach es X.env:=by rfl) (hpl:(backTo pos (starEach es X.env)).any (·.1)=false:=by rfl):PE X (.Call (.Name x p) (e::es) [] pos) (Ye r t):=by
 intro pins s σ H Q I h
 refine wpAny_Call_Name_kw (vJ I hg hm hv ?_ hn hdb)
 exact PyProof.Rows.callWith_builtin1 (gf (ha pos pins s σ H _ I h) fun us s1 ⟨vs,H1,I1,r1,q1⟩=>hc pins s1 σ H1 vs us Q I1 r1 q1) he hpl
theorem fX(hc:lL X (.type T) r)(hg:Gl X x)(hm:X.mg x=none)(hv:bootBuiltins x=some (.type T))(ha:PA X (e::es) t)(hn:x ≠ "__name__" := by decide)(hdb:(x == ("__debug__" : Str))=false:=by decide)
 (he:starEach (e::es) X.env=(false,eval e X.env)::starEach es X.env:=by rfl) (hpl:(backTo pos (starEach es X.env)).any (·.1)=false:=by rfl):PE X (.Call (.Name x p) (e::es) [] pos) (Ye r t):=by
 intro pins s σ H Q I h
 refine wpAny_Call_Name_kw (vJ I hg hm hv ?_ hn hdb)
 exact PyProof.Rows.callWith_type1 (gf (ha pos pins s σ H _ I h) fun us s1 ⟨vs,H1,I1,r1,q1⟩=>hc pins s1 σ H1 vs us Q I1 r1 q1) he hpl
end
end L2
namespace HT
open PySem PyProof.Rows
section
variable{prog:Program}{w:World}{A:Around}{E:Value→Shared→Prop}{s:Shared}
def vC(n d:Nat):Option Int→Nat
 | none=>d
 | some v=>if v < 0 then (v+(n:Int)).toNat else min v.toNat n
theorem Q8(n d:Nat)(hd:d≤n)(o:Option Int):vC n d o≤n:=by
 cases o with
 | none=>exact hd
 | some v =>
  show (if v < 0 then (v+(n:Int)).toNat else min v.toNat n)≤n
  by_cases hv:v < 0
  ·rw[if_pos hv];omega
  ·rw[if_neg hv];exact Nat.min_le_right _ _
end
end HT
namespace L2
open PySem PySem.Spec PyProof.Rows
abbrev TO:=St→Hp→(Option Int→Hp→Prop)→Prop
def PO(X:Cx)(e:Option Expr)(t:TO):Prop :=
 ∀ (pins:List (Addr×Obj)) (s:Shared) (σ : St) (H:Hp) (Q:Option Int→Hp→Prop),Inv X pins σ H s→t σ H Q →
  wpAny (model X.prog X.w) X.A (evalPart e X.env) (fun u s'=>∃ o H',Inv X pins σ H' s'∧IsPart u o∧Q o H') X.xe s
def LC:TO:=fun _ H Q=>Q none H
def WN(t:TE):TO:=fun σ H Q=>t σ H fun x H1=>∃ i,x=.int i∧Q (some i) H1
section
variable{X:Cx}{e:Expr}{te:TE}{lo hi:Option Expr}{tl th:TO}{pos p2:Pos}
theorem fu:PO X none LC:=by
 intro pins s σ H Q I h
 rw[evalPart_none]
 exact wpAny_pure ⟨none,H,I,.none,h⟩
theorem fj(h:PE X e te):PO X (some e) (WN te):=by
 intro pins s σ H Q I hw
 rw[evalPart_some]
 refine gf (h pins s σ H _ I hw) fun u s1 ⟨x,H1,I1,r1,q1⟩=>?_
 obtain⟨i,rfl,q⟩:=q1
 obtain⟨t,rfl⟩:=r1
 exact⟨some i,H1,I1,.int i t,q⟩
def Xy(X:Cx)(r:V→Option Int→Option Int→Hp→VK→Prop):Prop :=
 ∀ (pins:List (Addr×Obj)) (s:Shared) (σ : St) (H:Hp) (x:V) (v vl vu:Value) (lo hi:Option Int) (sl:Addr) (Q:VK),Inv X pins σ H s→RelV x v→s.heap.IsSliceOf sl vl vu .none→IsPart vl lo→IsPart vu hi→r x lo hi H Q →
  ∃ T id,typeLookup (.type T) "__getitem__" = pure (some (.builtin id))∧s.TypeIs v T∧wpAny (model X.prog X.w) X.A (getItem v (.ref sl)) (EP X pins σ Q) X.xe s
theorem Xy.or{r r':V→Option Int→Option Int→Hp→VK→Prop}(h:Xy X r)(h':Xy X r'):Xy X (fun x lo hi H Q=>r x lo hi H Q∨r' x lo hi H Q):=by
 intro pins s σ H x v vl vu lo hi sl Q I rx hs pl pu q
 rcases q with q|q
 ·exact h pins s σ H x v vl vu lo hi sl Q I rx hs pl pu q
 ·exact h' pins s σ H x v vl vu lo hi sl Q I rx hs pl pu q
def tSl(r:V→Option Int→Option Int→Hp→VK→Prop)(te:TE)(tl th:TO):TE:=fun σ H Q=>te σ H fun x H1=>tl σ H1 fun l H2=>th σ H2 fun u H3=>r x l u H3 Q
theorem dq{r:V→Option Int→Option Int→Hp→VK→Prop}(hr:Xy X r)(he:PE X e te)(hl:PO X lo tl)(hu:PO X hi th):PE X (.Subscript e (.Slice lo hi none p2) pos) (tSl r te tl th):=by
 intro pins s σ H Q I h
 refine Subscript_ (gf (he pins s σ H _ I h) fun v s1 ⟨x,H1,I1,r1,q1⟩=>?_)
 refine wpAny_Slice (gf (hl pins s1 σ H1 _ I1 q1) fun vl s2 ⟨l,H2,I2,pl,q2⟩=>gf (hu pins s2 σ H2 _ I2 q2) fun vu s3 ⟨u,H3,I3,pu,q3⟩=>?_)
 rw[evalPart_none]
 refine wpAny_pure ?_
 have I4:Inv X pins σ H3 { s3 with heap:=s3.heap.push { cls:=.type "slice", data:=.fields #[vl,vu,.none] } }:=I3.kept (t':=s3.toks) fun b ob q=>Heap.get?_push_of_some _ q
 obtain⟨T,id,hT,ht,hg⟩:=hr pins { s3 with heap:=s3.heap.push { cls:=.type "slice", data:=.fields #[vl,vu,.none] } } σ H3 x v vl vu l u s3.heap.objs.size Q I4 r1 (Heap.IsSliceOf.new ..) pl pu q3
 show wpAny (model X.prog X.w) X.A (subscriptTail e (.Slice lo hi none p2) v (.ref s3.heap.objs.size)) (EP X pins σ Q) X.xe { s3 with heap:=s3.heap.push { cls:=.type "slice", data:=.fields #[vl,vu,.none] } }
 exact tail_any (ops:=[.ref s3.heap.objs.size,v]) ht hT hg (by with_unfolding_all rfl)
def Px(xs:List V)(lo hi:Option Int):List V:=(xs.drop (HT.vC xs.length 0 lo)).take (HT.vC xs.length xs.length hi - HT.vC xs.length 0 lo)
theorem Jb(xs:List V)(lo hi:Option Int):(Px xs lo hi).length≤xs.length:=by
 unfold Px
 rw[List.length_take,List.length_drop]
 omega
end
end L2
namespace L2
open PySem PySem.Spec PyProof.Rows
def Cz(n:Nat)(i:Int):Option Nat:=if 0≤i then (if i < n then some i.toNat else none) else if -(n:Int)≤i then some (i+n).toNat else none
def yN{α : Type}(xs:List α)(i:Int):Option α:=(Cz xs.length i).bind fun j=>xs[j]?
theorem M5{n:Nat}{i:Int}{j:Nat}(h:Cz n i=some j):seqIndex? i n=some j∧j < n∧-(n:Int)≤i∧i < n:=by
 unfold Cz at h
 by_cases h0:0≤i
 ·rw[if_pos h0] at h
  by_cases h1:i < n
  ·rw[if_pos h1] at h
   have e:i.toNat=j:=Option.some.inj h
   exact⟨by rw[seqIndex_of h0 h1,e],by omega,by omega,h1⟩
  ·rw[if_neg h1] at h;cases h
 ·rw[if_neg h0] at h
  by_cases h1:-(n:Int)≤i
  ·rw[if_pos h1] at h
   have e:(i+n).toNat=j:=Option.some.inj h
   exact⟨by rw[seqIndex_neg (by omega) h1,e],by omega,h1,by omega⟩
  ·rw[if_neg h1] at h;cases h
theorem GD{α : Type}{xs:List α}{i:Int}{v:α}(h:yN xs i=some v):∃ j,seqIndex? i xs.length=some j∧xs[j]? = some v∧j < xs.length∧-(xs.length:Int)≤i∧i < xs.length:=by
 unfold yN at h
 cases e:Cz xs.length i with
 | none=>rw[e] at h;cases h
 | some j =>
  rw[e] at h
  obtain⟨h1,h2,h3,h4⟩:=M5 e
  exact⟨j,h1,h,h2,h3,h4⟩
def Wu(b:Expr):Prop:=∀ o i,subscripted b false o i=operate [o,i] (getItem o i)
def Wv(X:Cx)(r:R2):Prop :=
 ∀ (value slice:Expr) (pins:List (Addr×Obj)) (s:Shared) (σ : St) (H:Hp) (x y:V) (v u:Value) (Q:VK),Inv X pins σ H s→RelV x v→RelV y u→r x y H Q →
  subscripted slice false v u=operate [v,u] (getItem v u)→wpAny (model X.prog X.w) X.A (subscriptTail value slice v u) (EP X pins σ Q) X.xe s
def UG(X:Cx)(id:String)(r:V→List V→Hp→VK→Prop):Prop :=
 ∀ (pins:List (Addr×Obj)) (s:Shared) (σ : St) (H:Hp) (x:V) (xs:List V) (v:Value) (us:List Value) (Q:VK),Inv X pins σ H s→RelV x v→Vals xs us→r x xs H Q →
  wpAny (model X.prog X.w) X.A (call (.builtin id) (v::us)) (EP X pins σ Q) X.xe s
section
variable{X:Cx}{a b:Expr}{ta tb:TE}{pos:Pos}
theorem Wv.or{r r':R2}(h:Wv X r)(h':Wv X r'):Wv X (fun x y H Q=>r x y H Q∨r' x y H Q):=by
 intro value slice pins s σ H x y v u Q I rx ry q hs
 rcases q with q|q
 ·exact h value slice pins s σ H x y v u Q I rx ry q hs
 ·exact h' value slice pins s σ H x y v u Q I rx ry q hs
theorem cV{r:R2}(hr:Wv X r)(ha:PE X a ta)(hb:PE X b tb)(hs:Wu b):PE X (.Subscript a b pos) (tOp r ta tb):=by
 intro pins s σ H Q I h
 exact Subscript_ (ZJ ha hb I h fun v u s2 x y H2 I2 rx ry q=>hr a b pins s2 σ H2 x y v u Q I2 rx ry q (hs _ _))
def aaM(K:PySem.W.Frag):R2:=fun x y H Q=>∃ p xs i v,x=.ref p∧y=.int i∧v7 K H p xs∧yN xs i=some v∧Q v H
def aaK(K:PySem.W.Frag):R2:=fun x y H Q=>∃ p xs i v,x=.ref p∧y=.int i∧CV K H p xs∧yN xs i=some v∧Q v H
def aaL:R2:=fun x y H Q=>∃ z i c,x=.str z∧y=.int i∧z.length≤sizeLine∧yN z.cps.toList i=some c∧Q (.str ⟨#[c]⟩) H
theorem VR:Wv X (aaM X.K):=by
 intro value slice pins s σ H x y v u Q I rx ry h hs
 obtain⟨p,xs,i,z,rfl,rfl,hq,he,q⟩:=h
 cases rx
 obtain⟨t,rfl⟩:=ry
 obtain⟨its,r,pl,hz⟩:=I.list hq
 obtain⟨j,h1,h2,h3,h4,h5⟩:=GD he
 obtain⟨w,ew,rw'⟩:=r.get h2
 have hl:=r.length
 have hn:=xZ
 have fin:EP X pins σ Q w s:=⟨z,H,I,rw',q⟩
 by_cases h0:0≤i
 ·have hj:i.toNat=j:=by
   rw[seqIndex_of h0 h5] at h1
   exact Option.some.inj h1
  exact item_listR pl.isList h0 (by omega) (by rw[hj];simpa using ew) fin hs
 ·have hj:(i+(its.toArray.size:Int)).toNat=j:=by
   rw[seqIndex_neg (by omega) h4] at h1
   rw[List.size_toArray,← hl]
   exact Option.some.inj h1
  exact subscriptTail_builtinR (x:=w) pl.isList.typeIs slot_list_getitem.lookup
   (wpAny_getItem_list_neg (Q:=fun r s'=>r=w∧EP X pins σ Q r s') pl.isList (by omega) (by rw[List.size_toArray]<;>omega) (by omega) (by rw[hj];simpa using ew) ⟨rfl,fin⟩) hs
theorem Y9:Wv X (aaK X.K):=by
 intro value slice pins s σ H x y v u Q I rx ry h hs
 obtain⟨p,xs,i,z,rfl,rfl,hq,he,q⟩:=h
 cases rx
 obtain⟨t,rfl⟩:=ry
 obtain⟨its,r,pl,hz⟩:=I.tuple hq
 obtain⟨j,h1,h2,h3,h4,h5⟩:=GD he
 obtain⟨w,ew,rw'⟩:=r.get h2
 have hl:=r.length
 have hn:=xZ
 have fin:EP X pins σ Q w s:=⟨z,H,I,rw',q⟩
 exact subscriptTail_builtinR (x:=w) pl.typeIs slot_tuple_getitem.lookup
  (getItem_tuple (j:=j) (Q:=fun r s'=>r=w∧EP X pins σ Q r s') pl (by omega) (by omega) (by rw[List.size_toArray,← hl];exact h1) (by simpa using ew) ⟨rfl,fin⟩) hs
theorem Za:Wv X aaL:=by
 intro value slice pins s σ H x y v u Q I rx ry h hs
 obtain⟨z,i,c,rfl,rfl,hz,he,q⟩:=h
 obtain⟨t,rfl⟩:=rx
 obtain⟨t',rfl⟩:=ry
 obtain⟨j,h1,h2,h3,h4,h5⟩:=GD he
 have hl:z.cps.toList.length=z.length:=by simp[Str.length]
 rw[hl] at h1 h4 h5
 have hn:=xZ
 exact tail_any (typeIs_str s z t) slot_str_getitem.lookup (getItem_str (c:=c) (by
  have e1:decide (i < -(2 ^ 63:Int))=false:=decide_eq_false (by omega)
  have e2:decide (i ≥ 2 ^ 63)=false:=decide_eq_false (by omega)
  rw[e1,e2,Bool.or_false]) (by rw[h1];simpa using h2) ⟨.str ⟨#[c]⟩,H,I.tok _,⟨_,rfl⟩,q⟩) hs
def rIx(K:PySem.W.Frag):R2:=fun x y H Q=>aaM K x y H Q∨aaK K x y H Q∨aaL x y H Q
theorem bT:Wv X (rIx X.K):=VR.or (Y9.or Za)
theorem Ks(its:List Value)(n j:Nat)(u:Value):Obj.mapSeq (·.setIfInBounds j u) { cls:=.type "list", data:=.seq its.toArray n }={ cls:=.type "list", data:=.seq (its.set j u).toArray n }:=by
 simp[Obj.mapSeq]
theorem Inv.lst{pins:List (Addr×Obj)}{σ : St}{H:Hp}{s:Shared}{p:Addr}{xs:List V}(I:Inv X pins σ H s)(h:H p=some (.lst xs)) :
 ∃ (its:List Value) (n:Nat),Vals xs its∧s.heap.get? p=some { cls:=.type "list", data:=.seq its.toArray n }∧xs.length≤sizeLine:=by
 obtain⟨z,its,n,r,e⟩:=I.hok p _ h
 exact⟨its,n,r,e,z⟩
theorem Inv.YT{pins:List (Addr×Obj)}{σ : St}{H:Hp}{s:Shared}{p:Addr}{xs ys:List V}{its its':List Value}{n n':Nat}{f:Obj→Obj}(I:Inv X pins σ H s)(h:H p=some (.lst xs))
 (ho:s.heap.get? p=some { cls:=.type "list", data:=.seq its.toArray n }) (hf:f { cls:=.type "list", data:=.seq its.toArray n }={ cls:=.type "list", data:=.seq its'.toArray n' }) (r:Vals ys its') (hz:ys.length≤sizeLine) (t:Nat) :
 Inv X pins σ (upd H p (.lst ys)) { s with heap:=s.heap.update p f,toks:=t }:=by
 have e:(s.heap.update p f).get? p=some { cls:=.type "list", data:=.seq its'.toArray n' }:=by
  rw[Heap.get?_update_self f ho (by rw[hf]<;>rfl),hf]
 refine I.write (x:=p) (e:=p) (by rw[h];trivial) (.inl rfl) (fun b u hb q=>(Heap.get?_update_other _ _ (Ne.symm hb)).trans q) ⟨_,e⟩ ?_
 exact⟨hz,its',n',r,e⟩
def WW:V→V→V→Hp→(Hp→Prop)→Prop:=fun o i v H Q=>∃ p xs k j,o=.ref p∧i=.int k∧H p=some (.lst xs)∧Cz xs.length k=some j∧Q (upd H p (.lst (xs.set j v)))
theorem set_list:abA X WW:=by
 intro pins s σ H o i v ov iv u Q I ro ri rv h
 obtain⟨p,xs,k,j,rfl,rfl,hp,hj,q⟩:=h
 cases ro
 obtain⟨t,rfl⟩:=ri
 obtain⟨its,n,r,ho,hz⟩:=I.lst hp
 obtain⟨h1,h2,h3,h4⟩:=M5 hj
 have hl:=r.length
 have hn:=xZ
 have I':Inv X pins σ (upd H p (.lst (xs.set j v))) { s with heap:=s.heap.update p (Obj.mapSeq (·.setIfInBounds j u)) } :=
  I.YT hp ho (Ks its n j u) (r.set rv j) (by rw[List.length_set];exact hz) s.toks
 by_cases h0:0≤k
 ·have hk:k.toNat=j:=by
   rw[seqIndex_of h0 h4] at h1
   exact Option.some.inj h1
  exact PySem.W.ki_setAt ho h0 (by omega) (by rw[List.size_toArray,← hl];exact h4) (by rw[hk];exact⟨_,I',q⟩)
 ·have hk:(k+(its.toArray.size:Int)).toNat=j:=by
   rw[seqIndex_neg (by omega) h3] at h1
   rw[List.size_toArray,← hl]
   exact Option.some.inj h1
  exact PySem.W.ki_setBack ho (by omega) (by rw[List.size_toArray,← hl];exact h3) (by omega) (by rw[hk];exact⟨_,I',q⟩)
theorem Fe(lo hi:Option Int)(n:Nat):(sliceBounds lo hi none n).1=((HT.vC n 0 lo:Nat):Int)∧(sliceBounds lo hi none n).2.1=((HT.vC n n hi:Nat):Int)∧(sliceBounds lo hi none n).2.2=1:=by
 refine⟨?_,?_,rfl⟩
 ·cases lo with
  | none=>simp[sliceBounds,HT.vC]
  | some i =>
   simp only[sliceBounds,HT.vC,Option.getD_none,show (1:Int) > 0 by decide,if_true]
   by_cases h:i < 0
   ·simp only[h,if_true]<;>omega
   ·simp only[h,if_false]<;>omega
 ·cases hi with
  | none=>simp[sliceBounds,HT.vC]
  | some i =>
   simp only[sliceBounds,HT.vC,Option.getD_none,show (1:Int) > 0 by decide,if_true]
   by_cases h:i < 0
   ·simp only[h,if_true]<;>omega
   ·simp only[h,if_false]<;>omega
theorem Cw(its:List Value)(lo hi:Option Int):slicePick its.toArray lo hi none=((its.drop (HT.vC its.length 0 lo)).take (HT.vC its.length its.length hi - HT.vC its.length 0 lo)).toArray:=by
 obtain⟨h1,h2,h3⟩:=Fe lo hi its.toArray.size
 unfold slicePick
 rw[h1,h2,h3]
 simp only[sliceRange_one,pick_run,List.size_toArray]<;>rfl
def aaF(K:PySem.W.Frag):V→Option Int→Option Int→Hp→VK→Prop:=fun x lo hi H Q=>∃ a xs,x=.ref a∧v7 K H a xs∧∀ p,H p=none→Q (.ref p) (upd H p (.lst (Px xs lo hi)))
theorem Ve:Xy X (aaF X.K):=by
 intro pins s σ H x v vl vu lo hi sl Q I rx hs pl pu h
 obtain⟨a,xs,rfl,hx,q⟩:=h
 cases rx
 obtain⟨its,r,ht,hz⟩:=I.list hx
 have hlen:=r.length
 refine⟨"list", _,slot_list_getitem.lookup,ht.isList.typeIs,?_⟩
 refine wpAny_getItem_list_slice ht.isList hs pl pu .none (by simp) ?_ (by rw[List.size_toArray]<;>omega)
 rw[Cw,← hlen]
 refine⟨.ref s.heap.objs.size,_,I.laid (t':=s.toks) (o:=.lst (Px xs lo hi)) (fun b ob q=>Heap.get?_push_of_some _ q) (Nat.le_refl _) ?_,rfl,q _ (I.hok.fresh (Nat.le_refl _))⟩
 exact⟨Nat.le_trans (Jb xs lo hi) hz,_,0,(r.drop (HT.vC xs.length 0 lo)).take (HT.vC xs.length xs.length hi - HT.vC xs.length 0 lo),Heap.get?_push_size _ rfl⟩
def Tw:V→Bool
 | .non=>true
 | .bl _=>true
 | .int _=>true
 | .str _=>true
 | _=>false
def eqV:V→V→Bool
 | .non,.non=>true
 | .bl a,.bl b=>a == b
 | .bl a,.int b=>(if a then 1 else 0) == b
 | .int a,.bl b=>a == (if b then 1 else 0)
 | .int a,.int b=>a == b
 | .str a,.str b=>a == b
 | _,_=>false
theorem Zy{A:Around}{s:Shared}{y x:V}{u v:Value}(ry:RelV y u)(rx:RelV x v)(fy:Tw y=true)(fx:Tw x=true):SeqAt.EqAt A s u v (eqV y x):=by
 cases y with
 | non =>
  cases ry
  cases x with
  | non=>cases rx;exact SeqAt.EqAt.same _
  | bl b=>cases rx;exact SeqAt.EqAt.none_bool b
  | int b=>obtain⟨t,rfl⟩:=rx;exact SeqAt.EqAt.none_int b t
  | str b=>obtain⟨t,rfl⟩:=rx;exact SeqAt.EqAt.none_str b t
  | _=>exact absurd (show false=true from fx) Bool.false_ne_true
 | bl a =>
  cases ry
  cases x with
  | non=>cases rx;exact SeqAt.EqAt.bool_none a
  | bl b=>cases rx;exact SeqAt.EqAt.bool_bool a b
  | int b=>obtain⟨t,rfl⟩:=rx;exact SeqAt.EqAt.bool_int a b t
  | str b=>obtain⟨t,rfl⟩:=rx;exact SeqAt.EqAt.bool_str a b t
  | _=>exact absurd (show false=true from fx) Bool.false_ne_true
 | int a =>
  obtain⟨t',rfl⟩:=ry
  cases x with
  | non=>cases rx;exact SeqAt.EqAt.int_none a t'
  | bl b=>cases rx;exact SeqAt.EqAt.int_bool a t' b
  | int b=>obtain⟨t,rfl⟩:=rx;exact SeqAt.EqAt.int_int a t' b t
  | str b=>obtain⟨t,rfl⟩:=rx;exact SeqAt.EqAt.int_str a t' b t
  | _=>exact absurd (show false=true from fx) Bool.false_ne_true
 | str a =>
  obtain⟨t',rfl⟩:=ry
  cases x with
  | non=>cases rx;exact SeqAt.EqAt.str_none a t'
  | bl b=>cases rx;exact SeqAt.EqAt.str_bool a t' b
  | int b=>obtain⟨t,rfl⟩:=rx;exact SeqAt.EqAt.str_int a t' b t
  | str b=>obtain⟨t,rfl⟩:=rx;exact SeqAt.EqAt.str_str a t' b t
  | _=>exact absurd (show false=true from fx) Bool.false_ne_true
 | _=>exact absurd (show false=true from fy) Bool.false_ne_true
theorem Gy:lL X (.type "list") (fun xs H Q=>∃ p ys,xs=[.ref p]∧(v7 X.K H p ys∨CV X.K H p ys)∧∀ l,H l=none→Q (.ref l) (upd H l (.lst ys))):=by
 intro pins s σ H xs us Q I r h
 obtain⟨p,ys,rfl,hq,q⟩:=h
 obtain⟨u,rfl,rx⟩:=vals1 r
 cases rx
 have fin:∀ (its:List Value),Vals ys its→ys.length≤sizeLine→∀ (h':Heap) (c':Nat),(∀ b o',s.heap.get? b=some o'→h'.get? b=some o') →
  h'.get? s.heap.objs.size=some { cls:=.type "list", dict:=none,data:=.seq its.toArray c',slots:=#[] }→EP X pins σ Q (.ref s.heap.objs.size) { s with heap:=h' }:=fun its r' hz h' c' kp e =>
  ⟨.ref s.heap.objs.size,_,I.laid (t':=s.toks) kp (Nat.le_refl _) (show di X.prog X.w _ h' _ (.lst ys) from ⟨hz,its,c',r',e⟩),rfl,q _ (I.hok.fresh (Nat.le_refl _))⟩
 rcases hq with hq|hq
 ·obtain⟨its,r',pl,hz⟩:=I.list hq
  have hlen:=r'.length
  obtain⟨o,ho,hc,n,hd⟩:=pl.isList
  exact call_list_seq p (.inl rfl) ho hc hd (fun h' c' kp e=>fin its r' hz h' c' kp e) (by simp only[List.size_toArray]<;>omega)
 ·obtain⟨its,r',pl,hz⟩:=I.tuple hq
  have hlen:=r'.length
  obtain⟨o,ho,hc,n,hd⟩:=pl
  exact call_list_seq p (.inr rfl) ho hc hd (fun h' c' kp e=>fin its r' hz h' c' kp e) (by simp only[List.size_toArray]<;>omega)
theorem CK:lL X (.type "tuple") (fun xs H Q=>∃ p ys,xs=[.ref p]∧((v7 X.K H p ys∧∀ l,H l=none→Q (.ref l) (upd H l (.tup ys)))∨(CV X.K H p ys∧Q (.ref p) H))):=by
 intro pins s σ H xs us Q I r h
 obtain⟨p,ys,rfl,h⟩:=h
 obtain⟨u,rfl,rx⟩:=vals1 r
 cases rx
 rcases h with ⟨hq,q⟩|⟨hq,q⟩
 ·obtain⟨its,r',pl,hz⟩:=I.list hq
  have hlen:=r'.length
  refine call_tuple_list pl.isList (fun h' kp=>?_) (by simp only[List.size_toArray]<;>omega)
  have I1:Inv X pins σ H { s with heap:=h' }:=I.kept (t':=s.toks) kp
  have I2:Inv X pins σ (upd H h'.objs.size (.tup ys)) { s with heap:=h'.push { cls:=.type "tuple", data:=.seq its.toArray } } :=
   I1.laid (t':=s.toks) (fun b o e=>Heap.get?_push_of_some _ e) (Nat.le_refl _) (show di X.prog X.w _ _ _ (.tup ys) from ⟨hz,its,r',Qf.new _ _⟩)
  exact⟨.ref h'.objs.size,_,I2,rfl,q _ (I1.hok.fresh (Nat.le_refl _))⟩
 ·obtain⟨its,r',pl,hz⟩:=I.tuple hq
  exact call_tuple_same pl ⟨.ref p,H,I,rfl,q⟩
def tyV(K:PySem.W.Frag)(T:String)(x:V)(H:Hp):Prop:=match x with
 | .str _=>T = "str"
 | .int _=>T = "int"
 | .ref p=>(T = "list" ∧ ∃ xs,v7 K H p xs)∨(T = "tuple" ∧ ∃ o,K.lookup p=some o∧o.cls=.type "tuple" ∧ o.dict=none) ∨
  (T = "dict" ∧ ((∃ kvs,H p=some (.dK kvs))∨∃ kvs,H p=some (.dT kvs)))∨(T = "set" ∧ ∃ S n,H p=some (.set S n))
 | _=>False
theorem JQ{pins:List (Addr×Obj)}{σ : St}{H:Hp}{s:Shared}{T:String}{x:V}{v:Value}(I:Inv X pins σ H s)(r:RelV x v)(ty:tyV X.K T x H) :
 s.TypeIs v T∧∀ a,v=.ref a→∃ ob,s.heap.get? a=some ob∧ob.dict=none:=by
 cases x with
 | str z =>
  obtain⟨t,rfl⟩:=r
  cases (show T = "str" from ty)
  exact⟨typeIs_str s z t,fun _ e=>nomatch e⟩
 | int i =>
  obtain⟨t,rfl⟩:=r
  cases (show T = "int" from ty)
  exact⟨typeIs_int s i t,fun _ e=>nomatch e⟩
 | ref p =>
  cases r
  rcases ty with ⟨rfl,xs,hq⟩|⟨rfl,o,hk,hc,hd⟩|⟨rfl,hk⟩|⟨rfl,S,n,hk⟩
  ·obtain⟨its,_,pl,_⟩:=I.list hq
   refine⟨pl.isList.typeIs,fun a e=>?_⟩
   cases e
   obtain⟨o,n,e,c,hd,_⟩:=pl
   exact⟨o,e,hd⟩
  ·refine⟨⟨o,I.yX p o hk,hc⟩,fun a e=>?_⟩
   cases e
   exact⟨o,I.yX _ o hk,hd⟩
  ·have z:∃ o,s.heap.get? p=some o∧o.ExactDict:=by
    rcases hk with ⟨kvs,hk⟩|⟨kvs,hk⟩
    ·obtain⟨_,_,_,_,o,_,_,e,ex,_⟩:=I.hok p _ hk
     exact⟨o,e,ex⟩
    ·obtain⟨_,_,_,_,o,_,_,e,ex,_⟩:=I.hok p _ hk
     exact⟨o,e,ex⟩
   obtain⟨o,e,ex⟩:=z
   refine⟨⟨o,e,ex.1⟩,fun a e2=>?_⟩
   cases e2
   exact⟨o,e,ex.2.1⟩
  ·obtain⟨o,_,_,_,e,ex,_⟩:=I.hok p _ hk
   refine⟨⟨o,e,ex.1⟩,fun a e2=>?_⟩
   cases e2
   exact⟨o,e,ex.2.1⟩
 | _=>exact False.elim ty
def aaw(K:PySem.W.Frag)(T:String)(r:V→List V→Hp→VK→Prop)(to:TE):TE:=fun σ H Q=>to σ H fun x H1=>tyV K T x H1∧r x [] H1 Q
def tBM(K:PySem.W.Frag)(T:String)(r:V→List V→Hp→VK→Prop)(to:TE)(t:TA):TE:=fun σ H Q=>to σ H fun x H1=>tyV K T x H1∧t σ H1 fun xs H2=>r x xs H2 Q
variable{o e:Expr}{es:List Expr}{to:TE}{t:TA}{name:Str}{apos cpos:Pos}{T id:String}{r:V→List V→Hp→VK→Prop}
theorem Yv(pa:PlainAttrs T)(slot:Slot T name id)(hty:typeOf (.builtin id)=pure (.type "method_descriptor"))(hm:UG X id r)(ho:PE X o to)
 (hbase:attributeBase o name X.env (eval o X.env)=eval o X.env:=by rfl) (hline:(apos.endLine == cpos.line)=true:=by rfl):PE X (.Call (.Attribute o name apos) [] [] cpos) (aaw X.K T r to):=by
 intro pins s σ H Q I h
 refine wpAny_Call_method0_late hbase hline (gf (ho pins s σ H _ I h) fun v s1 ⟨x,H1,I1,r1,ty,q1⟩=>?_)
 obtain⟨h1,h2⟩:=JQ I1 r1 ty
 exact⟨T,id,pa,slot,hty,h1,h2,Calls.callWith_builtin rfl (PySem.evalArgs_none (hm pins s1 σ H1 x [] v [] Q I1 r1 .nil q1))⟩
theorem oW(pa:PlainAttrs T)(slot:Slot T name id)(hty:typeOf (.builtin id)=pure (.type "method_descriptor"))(hm:UG X id r)(ho:PE X o to)(ha:PA X (e::es) t)
 (hbase:attributeBase o name X.env (eval o X.env)=eval o X.env:=by rfl)
 (hfew:((backTo cpos (starEach (e::es) X.env)).all (fun x=>!x.1) && (backToKw cpos (keywordEach [] X.env)).all (fun x=>x.1.isSome)
  && decide ((e::es).length+([]:List Keyword).length+(if ([]:List Keyword).isEmpty then 0 else 1) < 30))=true:=by rfl)
 (hline:(apos.endLine == cpos.line)=true:=by rfl) (hs:starEach (e::es) X.env=(false,eval e X.env)::starEach es X.env:=by rfl) (hplain:(backTo cpos (starEach es X.env)).any (·.1)=false:=by rfl) :
 PE X (.Call (.Attribute o name apos) (e::es) [] cpos) (tBM X.K T r to t):=by
 intro pins s σ H Q I h
 refine wpAny_Call_method_late hbase hfew hline rfl (gf (ho pins s σ H _ I h) fun v s1 ⟨x,H1,I1,r1,ty,q1⟩=>?_)
 obtain⟨h1,h2⟩:=JQ I1 r1 ty
 refine⟨T,id,pa,slot,hty,h1,h2,?_⟩
 have hA:=ha cpos pins s1 σ H1 _ I1 q1
 rw[hs] at hA ⊢
 refine Calls.callWith_builtin (by show (false || (backTo cpos (starEach es X.env)).any (·.1))=false;rw[hplain]<;>rfl) (Calls.evalArgs_plain ?_)
 exact gf hA fun us s2 ⟨vs,H2,I2,r2,q2⟩=>hm pins s2 σ H2 x vs v us Q I2 r1 r2 q2
end
end L2
namespace L2
open PySem PySem.Spec PyProof.Rows
def MtM(X:Cx)(id:String)(r:V→List V→Hp→VK→Prop):Prop :=
 ∀ (pins:List (Addr×Obj)) (s:Shared) (σ : St) (H:Hp) (x:V) (xs:List V) (v:Value) (us:List Value) (Q:VK),Inv X pins σ H s→RelV x v→Vals xs us→r x xs H Q →
  wpAny (model X.prog X.w) X.A (call (.builtin id) (v::us)) (EP X pins σ Q) X.xe s
theorem Vals.one:∀ {x:V} {us:List Value},Vals [x] us→∃ u,us=[u]∧RelV x u
 | _,_,.cons r .nil=>⟨_,rfl,r⟩
theorem Vals.eraseIdx:∀ {xs:List V} {us:List Value} (i:Nat),Vals xs us→Vals (xs.eraseIdx i) (us.eraseIdx i)
 | _,_,_,.nil=>.nil
 | _,_,0,.cons _ t=>t
 | _,_,i+1,.cons r t=>.cons r (Vals.eraseIdx i t)
theorem Dp{α : Type}:∀ (l:List α) (i:Nat),(l.eraseIdx i).length≤l.length
 | [],_=>Nat.le_refl _
 | _::_,0=>Nat.le_succ _
 | _::r,i+1=>Nat.succ_le_succ (Dp r i)
section
variable{X:Cx}{pins:List (Addr×Obj)}{σ : St}{H:Hp}{s:Shared}{l b:Addr}{xs ys zs:List V}
theorem Inv.aa9{its its':List Value}{n:Nat}{f:Array Value→Array Value}{t':Nat}(I:Inv X pins σ H s)(hH:H l=some (.lst xs))
 (e:s.heap.get? l=some { cls:=.type "list", data:=.seq its.toArray n }) (hf:f its.toArray=its'.toArray) (hv:Vals ys its') (hz:ys.length≤sizeLine) :
 Inv X pins σ (upd H l (.lst ys)) { s with heap:=s.heap.update l (Obj.mapSeq f),toks:=t' }:=by
 have q:=PySem.IsL.update e f
 rw[hf] at q
 refine I.write (x:=l) (e:=l) (by rw[hH];exact trivial) (.inl rfl) (fun b' u hb hu=>(Heap.get?_update_other s.heap (Obj.mapSeq f) (Ne.symm hb)).trans hu) ⟨_,q⟩ ?_
 exact⟨hz,its',_,hv,q⟩
theorem Inv.acj{its:List Value}{t':Nat}(I:Inv X pins σ H s)(hv:Vals ys its)(hz:ys.length≤sizeLine) :
 Inv X pins σ (upd H s.heap.objs.size (.lst ys)) { s with heap:=s.heap.push { cls:=.type "list", data:=.seq its.toArray },toks:=t' } :=
 I.laid (fun _ _ q=>Heap.get?_push_of_some _ q) (Nat.le_refl _) ⟨hz,its,0,hv,Heap.get?_push_size _ rfl⟩
theorem Inv.fresh(I:Inv X pins σ H s):H s.heap.objs.size=none:=I.hok.fresh (Nat.le_refl _)
theorem Inv.aa8(I:Inv X pins σ H s)(hH:H l=some (.lst xs)):xs.length≤sizeLine∧∃ (its:List Value) (n:Nat),Vals xs its∧xs.length=its.length∧s.heap.get? l=some { cls:=.type "list", data:=.seq its.toArray n }:=by
 obtain⟨z,its,n,r,e⟩:=I.hok l _ hH
 exact⟨z,its,n,r,r.length,e⟩
end
section
variable{X:Cx}
def Fj:V→List V→Hp→VK→Prop:=fun x vs H Q=>∃ l xs y,x=.ref l∧vs=[y]∧H l=some (.lst xs)∧xs.length < sizeLine∧Q .non (upd H l (.lst (xs++[y])))
theorem iz:MtM X "list.append" Fj:=by
 intro pins s σ H x vs v us Q I rx rv h
 obtain⟨l,xs,y,rfl,rfl,hH,hz,q⟩:=h
 cases rx
 obtain⟨u,rfl,ru⟩:=rv.one
 obtain⟨z,its,n,r,hl,e⟩:=I.aa8 hH
 refine call_meets F.slot_list_append ⟨_,e,rfl⟩ F.entry_list_append (F.args_list_append_2 _ _) (PySem.list_append l its.toArray n u (by rw[List.size_toArray];omega)) ⟨e,?_⟩
 refine⟨.non,_,I.aa9 (its':=its++[u]) hH e (by simp) (r.append (.cons ru .nil)) ?_,rfl,q⟩
 rw[List.length_append,List.length_singleton]
 omega
def Rh:V→List V→Hp→VK→Prop:=fun x vs H Q=>∃ l xs i k y,x=.ref l∧vs=[.int i]∧H l=some (.lst xs)∧-(2 ^ 63)≤i∧i < 2 ^ 63∧seqIndex? i xs.length=some k∧xs[k]? = some y∧Q y (upd H l (.lst (xs.eraseIdx k)))
theorem R6:MtM X "list.pop" Rh:=by
 intro pins s σ H x vs v us Q I rx rv h
 obtain⟨l,xs,i,k,y,rfl,rfl,hH,h1,h2,hk,hy,q⟩:=h
 cases rx
 obtain⟨u,rfl,ru⟩:=rv.one
 obtain⟨t,rfl⟩:=ru
 obtain⟨z,its,n,r,hl,e⟩:=I.aa8 hH
 obtain⟨w,hw,rw'⟩:=r.get hy
 refine call_meets F.slot_list_pop ⟨_,e,rfl⟩ F.entry_list_pop (F.args_list_pop_2 _ _)
  (MeetsSeq.list_pop_at l its.toArray n i t k w (fitsIndex_both h1 h2) (by rw[List.size_toArray,← hl];exact hk) (by rw[← Array.getElem?_toList];exact hw) (by rw[List.size_toArray];omega)) ⟨e,?_⟩
 refine⟨y,_,I.aa9 (its':=its.eraseIdx k) hH e ?_ (r.eraseIdx k) ?_,rw',q⟩
 ·show its.toArray.eraseIdxIfInBounds k=(its.eraseIdx k).toArray
  rw[List.eraseIdxIfInBounds_toArray]
 ·have:=Dp xs k
  omega
end
end L2
namespace L2
open PySem PySem.Spec PyProof.Rows
section
variable{κ : Type}[DecidableEq κ]
def vo(kvs:List (κ×V))(k:κ):Option V:=(kvs.find? fun kv=>decide (kv.1=k)).map (·.2)
def putK(kvs:List (κ×V))(k:κ)(v:V):List (κ×V) :=
 if (kvs.any fun kv=>decide (kv.1=k))=true then kvs.map (fun kv=>if kv.1=k then (kv.1,v) else kv) else kvs++[(k,v)]
theorem zY{p:κ×V}{r:List (κ×V)}{k:κ}(e:p.1=k):vo (p::r) k=some p.2:=by simp[vo,List.find?_cons,e]
theorem zZ{p:κ×V}{r:List (κ×V)}{k:κ}(e:¬ p.1=k):vo (p::r) k=vo r k:=by simp[vo,List.find?_cons,e]
theorem Hb(k:κ):∀ kvs:List (κ×V),(kvs.any fun kv=>decide (kv.1=k))=(vo kvs k).isSome
 | []=>rfl
 | p::r=>by
  rw[List.any_cons]
  by_cases e:p.1=k
  ·simp only[zY e,decide_eq_true e,Bool.true_or,Option.isSome_some]
  ·rw[zZ e,decide_eq_false e,Bool.false_or];exact Hb k r
theorem yF(kvs:List (κ×V))(k:κ)(v:V):(putK kvs k v).length≤kvs.length+1:=by
 unfold putK
 split
 ·rw[List.length_map];omega
 ·rw[List.length_append,List.length_cons,List.length_nil];omega
theorem Ln.yc{o:Option V}{u:Option Value}(r:Ln o u):o.isSome=u.isSome:=by
 cases o with
 | none=>cases u with
  | none=>rfl
  | some _=>exact(show False from r).elim
 | some _=>cases u with
  | none=>exact(show False from r).elim
  | some _=>rfl
theorem KV.val{kvs:List (κ×V)}{vs:List (κ×Value)}(r:KV kvs vs)(k:κ):Ln (vo kvs k) (valueAt vs k):=by
 unfold KV at r
 induction r with
 | nil=>exact True.intro
 | @cons p q ps qs h t ih =>
  obtain⟨h1,h2⟩:=h
  by_cases e:p.1=k
  ·have e':q.1=k:=h1.symm.trans e
   have b:valueAt (q::qs) k=some q.2:=by simp[valueAt,List.find?_cons,e']
   rw[zY e,b];exact h2
  ·have e':¬ q.1=k:=fun z=>e (h1.trans z)
   have b:valueAt (q::qs) k=valueAt qs k:=by simp[valueAt,List.find?_cons,e']
   rw[zZ e,b];exact ih
theorem KV.any{kvs:List (κ×V)}{vs:List (κ×Value)}(r:KV kvs vs)(k:κ):(kvs.any fun kv=>decide (kv.1=k))=vs.any fun kv=>decide (kv.1=k):=by
 unfold KV at r
 induction r with
 | nil=>rfl
 | cons h t ih=>rw[List.any_cons,List.any_cons,ih,h.1]
theorem KV.repl{kvs:List (κ×V)}{vs:List (κ×Value)}(r:KV kvs vs)(k:κ){y:V}{u:Value}(ry:RelV y u) :
 KV (kvs.map fun kv=>if kv.1=k then (kv.1,y) else kv) (vs.map fun kv=>if kv.1=k then (kv.1,u) else kv):=by
 unfold KV at r ⊢
 induction r with
 | nil=>exact .nil
 | @cons p q ps qs h t ih =>
  rw[List.map_cons,List.map_cons]
  refine .cons ?_ ih
  obtain⟨h1,h2⟩:=h
  by_cases e:p.1=k
  ·rw[if_pos e,if_pos (h1.symm.trans e)];exact⟨h1,ry⟩
  ·rw[if_neg e,if_neg (fun z=>e (h1.trans z))];exact⟨h1,h2⟩
theorem KV.put{kvs:List (κ×V)}{vs:List (κ×Value)}(r:KV kvs vs)(k:κ){y:V}{u:Value}(ry:RelV y u):KV (putK kvs k y) (stored vs k u):=by
 unfold putK stored
 rw[r.any k]
 by_cases e:(vs.any fun kv=>decide (kv.1=k))=true
 ·rw[if_pos e,if_pos e];exact r.repl k ry
 ·rw[if_neg e,if_neg e];exact Paired.snoc r ⟨rfl,ry⟩
theorem KV.length{kvs:List (κ×V)}{vs:List (κ×Value)}(r:KV kvs vs):kvs.length=vs.length:=Paired.length r
end
theorem S7{P:Program}{w:World}{k:Key}{u:Value}(r:RelV (kV k) u):(ji P w).is k u=true:=by
 cases k with
 | inl i=>obtain⟨t,e⟩:=(show ∃ t,u=Value.int i t from r);subst e;exact H9 P w i t
 | inr x=>obtain⟨t,e⟩:=(show ∃ t,u=Value.str x t from r);subst e;exact HY P w x t
theorem Dr{P:Program}{w:World}:∀ {ks:List Key} {us:List Value},Vals (ks.map kV) us→ItemsAre (ji P w) ks us
 | [],_,r=>by rw[List.map_nil] at r;cases r;exact .nil
 | k::ks,_,r=>by
  rw[List.map_cons] at r
  cases r with
  | cons h t=>exact .cons (S7 h) (Dr t)
abbrev KT(H:Hp):List (List Key×V)→List (List Key×Addr×Value)→Prop:=Paired fun p q=>p.1=q.1∧H q.2.1=some (.tup (p.1.map kV))∧RelV p.2 q.2.2
theorem KT.val{H:Hp}{kvs:List (List Key×V)}{xs:List (List Key×Addr×Value)}(r:KT H kvs xs)(k:List Key):Ln (vo kvs k) ((atKey xs k).map (·.2)):=by
 induction r with
 | nil=>exact True.intro
 | @cons p q ps qs h t ih =>
  obtain⟨h1,_,h2⟩:=h
  by_cases e:p.1=k
  ·have e':q.1=k:=h1.symm.trans e
   have b:atKey (q::qs) k=some q.2:=by simp[atKey,List.find?_cons,e']
   rw[zY e,b];exact h2
  ·have e':¬ q.1=k:=fun z=>e (h1.trans z)
   have b:atKey (q::qs) k=atKey qs k:=by simp[atKey,List.find?_cons,e']
   rw[zZ e,b];exact ih
theorem KT.repl{H:Hp}{kvs:List (List Key×V)}{xs:List (List Key×Addr×Value)}(r:KT H kvs xs)(k:List Key){y:V}{u:Value}(ry:RelV y u) :
 KT H (kvs.map fun kv=>if kv.1=k then (kv.1,y) else kv) (xs.map (putAt k u)):=by
 induction r with
 | nil=>exact .nil
 | @cons p q ps qs h t ih =>
  rw[List.map_cons,List.map_cons]
  refine .cons ?_ ih
  obtain⟨h1,h2,h3⟩:=h
  unfold putAt
  by_cases e:p.1=k
  ·rw[if_pos e,if_pos (h1.symm.trans e)];exact⟨h1,h2,ry⟩
  ·rw[if_neg e,if_neg (fun z=>e (h1.trans z))];exact⟨h1,h2,h3⟩
theorem KT.put{H:Hp}{kvs:List (List Key×V)}{xs:List (List Key×Addr×Value)}(r:KT H kvs xs)(k:List Key){b:Addr}{y:V}{u:Value}(hb:H b=some (.tup (k.map kV)))(ry:RelV y u) :
 KT H (putK kvs k y) (storedH xs k b u):=by
 have e:(kvs.any fun kv=>decide (kv.1=k))=(atKey xs k).isSome:=by
  rw[Hb,(r.val k).yc,Option.isSome_map]
 unfold putK storedH
 rw[e]
 by_cases q:(atKey xs k).isSome=true
 ·rw[if_pos q,if_pos q];exact r.repl k ry
 ·rw[if_neg q,if_neg q];exact Paired.snoc r ⟨rfl,hb,ry⟩
theorem KT.keeps{H H':Hp}{kvs:List (List Key×V)}{xs:List (List Key×Addr×Value)}(r:KT H kvs xs)(ht:∀ b ys,H b=some (.tup ys)→H' b=some (.tup ys)):KT H' kvs xs :=
 Paired.YM r fun _ _ z=>⟨z.1,ht _ _ z.2.1,z.2.2⟩
section
variable{P:Program}{w:World}{H:Hp}{h:Heap}{a:Addr}
theorem WT{u:HO}(ok:qX P w H h)(e:Rd H a u):di P w H h a u:=e.ok ok
theorem Xh{kvs:List (Key×V)}(ok:qX P w H h)(e:Rd H a (.dK kvs)):kvs.length≤sizeLine∧(a == sysModules)=false∧∃ vs,KV kvs vs∧h.DictOf (ji P w) a vs :=
 show di P w H h a (.dK kvs) from WT ok e
theorem abq{kvs:List (Key×V)}(ok:qX P w H h)(e:H a=some (.dK kvs)):kvs.length≤sizeLine∧(a == sysModules)=false∧∃ vs,KV kvs vs∧h.DictOf (ji P w) a vs:=Xh ok (.inl e)
theorem KC{ks:List Key}(ok:qX P w H h)(e:H a=some (.tup (ks.map kV))):(tupleKind (ji P w)).is h ks a:=by
 obtain⟨_,its,r,o,h1,h2,_,n,h3⟩:=(show di P w H h a (.tup (ks.map kV)) from ok a _ e)
 exact⟨o,its.toArray,n,h1,h2,h3,by simpa using Dr r⟩
theorem Xg{kvs:List (List Key×V)}(ok:qX P w H h)(e:Rd H a (.dT kvs)):kvs.length≤sizeLine∧(a == sysModules)=false ∧
 ∃ xs,KT H kvs xs∧h.DictOfH (tupleKind (ji P w)) a xs:=by
 obtain⟨z,y,xs,r,o,es,ep,h1,h2,h3,h4,h5⟩:=(show di P w H h a (.dT kvs) from WT ok e)
 refine⟨z,y,xs,r,o,es,ep,h1,h2,h3,h4,fun x hx=>?_,h5⟩
 have all:∀ {l:List (List Key×V)} {m:List (List Key×Addr×Value)},KT H l m→∀ x∈m,(tupleKind (ji P w)).is h x.1 x.2.1:=by
  intro l m q
  induction q with
  | nil=>intro x hx;exact nomatch hx
  | @cons p q ps qs hq t ih =>
   intro x hx
   rcases List.mem_cons.mp hx with e|hx
   ·subst e
    exact KC ok (by rw[← hq.1];exact hq.2.1)
   ·exact ih x hx
 exact all r x hx
theorem abp{kvs:List (List Key×V)}(ok:qX P w H h)(e:H a=some (.dT kvs)):kvs.length≤sizeLine∧(a == sysModules)=false ∧
 ∃ xs,KT H kvs xs∧h.DictOfH (tupleKind (ji P w)) a xs:=Xg ok (.inl e)
end
def GZ(H:Hp)(a:Addr)(y:V)(r:Option V):Prop :=
 (∃ kvs k,Rd H a (.dK kvs)∧y=kV k∧r=vo kvs k)∨∃ kvs k b,Rd H a (.dT kvs)∧y=.ref b∧H b=some (.tup (k.map kV))∧r=vo kvs k
def JB(H:Hp)(a:Addr)(y v:V)(H':Hp):Prop :=
 (∃ kvs k,H a=some (.dK kvs)∧y=kV k∧kvs.length < sizeLine∧H'=upd H a (.dK (putK kvs k v))) ∨
 ∃ kvs k b,H a=some (.dT kvs)∧y=.ref b∧H b=some (.tup (k.map kV))∧kvs.length < sizeLine∧H'=upd H a (.dT (putK kvs k v))
theorem GZ.k{H:Hp}{a:Addr}{kvs:List (Key×V)}{k:Key}(e:H a=some (.dK kvs)):GZ H a (kV k) (vo kvs k):=.inl ⟨kvs,k,.inl e,rfl,rfl⟩
theorem GZ.t{H:Hp}{a b:Addr}{kvs:List (List Key×V)}{k:List Key}(e:H a=some (.dT kvs))(eb:H b=some (.tup (k.map kV))):GZ H a (.ref b) (vo kvs k):=.inr ⟨kvs,k,b,.inl e,rfl,eb,rfl⟩
theorem JB.k{H:Hp}{a:Addr}{kvs:List (Key×V)}{k:Key}{v:V}(e:H a=some (.dK kvs))(hl:kvs.length < sizeLine):JB H a (kV k) v (upd H a (.dK (putK kvs k v))):=.inl ⟨kvs,k,e,rfl,hl,rfl⟩
theorem JB.t{H:Hp}{a b:Addr}{kvs:List (List Key×V)}{k:List Key}{v:V}(e:H a=some (.dT kvs))(eb:H b=some (.tup (k.map kV)))(hl:kvs.length < sizeLine) :
 JB H a (.ref b) v (upd H a (.dT (putK kvs k v))):=.inr ⟨kvs,k,b,e,rfl,eb,hl,rfl⟩
section
variable{X:Cx}{pins:List (Addr×Obj)}{σ : St}{H:Hp}{s:Shared}{a:Addr}{y v:V}{u r:Value}{o:Option V}{A:Around}{E:Value→Shared→Prop}
theorem Inv.big(I:Inv X pins σ H s):sysModules < s.heap.objs.size:=by
 have h:mainGlobals < s.heap.objs.size:=(I.mod.glob.keeps I.bk).lt
 exact Nat.lt_trans (by decide) h
theorem acC{Q:Value→Shared→Prop}(hu:A.units+1 < cLine)(I:Inv X pins σ H s)(g:GZ H a y o)(ry:RelV y u)(h:∀ s',Inv X pins σ H s'→Q (.bool o.isSome) s') :
 wpAny (model X.prog X.w) A (compareOp .In u (.ref a)) Q E s:=by
 rcases g with ⟨kvs,k,e,ey,l⟩|⟨kvs,k,b,e,ey,eb,l⟩
 ·subst ey
  obtain⟨z,hd,vs,rel,dd⟩:=Xh I.hok e
  refine wpAny_in_of (S7 ry) hd dd.mapOf ?_
  rw[← (rel.val k).yc,← l]
  exact h _ (I.tok _)
 ·subst ey
  cases (show u=Value.ref b from ry)
  obtain⟨z,hd,xs,rel,dd⟩:=Xg I.hok e
  refine wpAny_in_heap (tupleKind_room_in1 hu) (KC I.hok eb) hd dd ?_
  have q:=(rel.val k).yc
  rw[Option.isSome_map] at q
  rw[← q,← l]
  exact h _ (I.tok _)
theorem Nm{h':Heap}{t':Nat}{ob:HO}(I:Inv X pins σ H s)(mu:Mut (H a))(hs:Heap.SameBut a s.heap h')(he:∃ q,h'.get? a=some q)(new:di X.prog X.w (upd H a ob) h' a ob) :
 Inv X pins σ (upd H a ob) { s with heap:=h',toks:=t' } :=
 I.write (x:=a) (e:=a) mu (.inl rfl) (fun b q hb z=>(hs.2 b hb).trans z) he new
theorem Zz{P:Program}{w:World}{H':Hp}{h':Heap}{kvs:List (Key×V)}{vs:List (Key×Value)}(z:kvs.length≤sizeLine)(hd:(a == sysModules)=false)(rel:KV kvs vs)(dd:h'.DictOf (ji P w) a vs) :
 di P w H' h' a (.dK kvs):=⟨z,hd,vs,rel,dd⟩
theorem Pr{H':Hp}{Q:Unit→Shared→Prop}(hu:A.units+1 < cLine)(I:Inv X pins σ H s)(g:JB H a y v H')(ry:RelV y u)(rv:RelV v r)(h:∀ s',Inv X pins σ H' s'→Q () s') :
 wpAny (model X.prog X.w) A (setItem (.ref a) u r) Q E s:=by
 rcases g with ⟨kvs,k,e,ey,l,eH⟩|⟨kvs,k,b,e,ey,eb,l,eH⟩
 ·subst ey eH
  obtain⟨z,hd,vs,rel,dd⟩:=abq I.hok e
  have hz:vs.length≤sizeLine:=by rw[← rel.length];exact z
  have hl:(putK kvs k v).length≤sizeLine:=by have:=yF kvs k v;omega
  refine wpAny_setItem_pairs (hsz:=hz) (S7 ry) dd fun h' dd' hs=>h _ ?_
  have he:∃ q,h'.get? a=some q:=let ⟨q,_,_,hq,_⟩:=dd';⟨q,hq⟩
  exact Nm I (by rw[e];exact True.intro) hs he (Zz hl hd (rel.put k rv) dd')
 ·subst ey eH
  cases (show u=Value.ref b from ry)
  obtain⟨z,hd,xs,rel,dd⟩:=abp I.hok e
  have hz:xs.length≤sizeLine:=by rw[← Paired.length rel];exact z
  have hl:(putK kvs k v).length≤sizeLine:=by have:=yF kvs k v;omega
  refine wpAny_setItem_heap (hsz:=hz) (tupleKind_room_in1 hu) (KC I.hok eb) dd fun h' dd' hs=>h _ ?_
  obtain⟨q,es,ep,hq,h2,h3,h4,_,h5⟩:=dd'
  refine Nm I (by rw[e];exact True.intro) hs ⟨q,hq⟩ ⟨hl,hd,_,(rel.put k eb rv).keeps fun c ys ec=>?_,q,es,ep,hq,h2,h3,h4,h5⟩
  rw[aM (aa2 ec e (fun z=>nomatch z))]
  exact ec
end
def aau(ty td:TE):TE:=fun σ H Q=>ty σ H fun y H1=>td σ H1 fun x H2=>∃ a o,x=.ref a∧GZ H2 a y o∧Q (.bl o.isSome) H2
def iK(td ty tv:TE):TS:=fun D σ H=>tv σ H fun v H1=>td σ H1 fun x H2=>ty σ H2 fun y H3=>∃ a H4,x=.ref a∧JB H3 a y v H4∧D.nx σ H4
section
variable{X:Cx}{o i e value:Expr}{pos pos' tpos:Pos}{td ty tv:TE}
theorem Fv(hu:X.A.units+1 < cLine)(hi:PE X i ty)(ho:PE X o td):PC X .In i o (aau ty td):=by
 intro pins s σ H Q I h
 refine gf (hi pins s σ H _ I h) fun iv s1 ⟨y,H1,I1,ry,q1⟩=>gf (ho pins s1 σ H1 _ I1 q1) fun u s2 ⟨x,H2,I2,rx,a,ov,ex,g,q2⟩=>?_
 subst ex
 obtain rfl:u=Value.ref a:=rx
 exact acC hu I2 g ry fun s3 I3=>⟨.bl ov.isSome,H2,I3,rfl,q2⟩
theorem uy(hu:X.A.units+1 < cLine)(ho:PE X o td)(hi:PE X i ty)(hv:PE X value tv)(hs:swapsWith value (some (.Subscript o i pos')) pos.line X.env=pure false) :
 PS X (.Assign [.Subscript o i pos'] value pos) (iK td ty tv):=by
 intro pins s σ H D I h
 refine wpAny_Assign_Subscript (gf (hv pins s σ H _ I h) fun r s1 ⟨v,H1,I1,rv,q1⟩=>gf (ho pins s1 σ H1 _ I1 q1) fun u s2 ⟨x,H2,I2,rx,q2⟩=>gf (hi pins s2 σ H2 _ I2 q2) fun iv s3 ⟨y,H3,I3,ry,a,H4,ex,g,q3⟩=>?_) hs
 subst ex
 obtain rfl:u=Value.ref a:=rx
 exact Pr hu I3 g ry rv fun s4 I4=>⟨σ,H4,I4,q3⟩
end
theorem TX{P:Program}{w:World}{H:Hp}(h:Heap)(hb:sysModules < h.objs.size):di P w H (h.push { cls:=.type "dict", data:=.dict #[] }) h.objs.size (.dK []) :=
 ⟨Nat.zero_le _,beq_eq_false_iff_ne.mpr (Ne.symm (Nat.ne_of_lt hb)),[],.nil,Heap.DictOf.new h⟩
theorem TQ{P:Program}{w:World}{H:Hp}(h:Heap)(hb:sysModules < h.objs.size):di P w H (h.push { cls:=.type "dict", data:=.dict #[] }) h.objs.size (.dT []) :=
 ⟨Nat.zero_le _,beq_eq_false_iff_ne.mpr (Ne.symm (Nat.ne_of_lt hb)),[],.nil,_,#[],0,Heap.get?_push_size _ rfl,⟨rfl,rfl,rfl⟩,rfl,rfl,List.nodup_nil⟩
def QR:TE:=fun _ H Q=>∀ p,H p=none→Q (.ref p) (upd H p (.dK []))
def QQ:TE:=fun _ H Q=>∀ p,H p=none→Q (.ref p) (upd H p (.dT []))
section
variable{X:Cx}{pos:Pos}
theorem HF:PE X (.Dict [] [] pos) QR:=fun pins s σ H Q I h =>
 wpAny_Dict_empty ⟨.ref s.heap.objs.size,_,I.laid (a:=s.heap.objs.size) (o:=.dK []) (t':=s.toks) (fun _ _ q=>Heap.get?_push_of_some _ q) (Nat.le_refl _) (TX s.heap I.big),rfl,h _ (I.hok.fresh (Nat.le_refl _))⟩
theorem HD:PE X (.Dict [] [] pos) QQ:=fun pins s σ H Q I h =>
 wpAny_Dict_empty ⟨.ref s.heap.objs.size,_,I.laid (a:=s.heap.objs.size) (o:=.dT []) (t':=s.toks) (fun _ _ q=>Heap.get?_push_of_some _ q) (Nat.le_refl _) (TQ s.heap I.big),rfl,h _ (I.hok.fresh (Nat.le_refl _))⟩
end
end L2
namespace Att
open PySem PySem.W PySem.Calls PyProof.Rows
theorem yZ{P:Params}{h:Heap}:∀ (ns:List Int) (vs:List Value),WellAll P h vs (ns.map WData.int)→IntsAre vs ns:=by
 intro ns
 induction ns with
 | nil =>
  intro vs w
  rw[List.map_nil] at w
  cases w
  exact .nil
 | cons n ns ih =>
  intro vs w
  rw[List.map_cons] at w
  cases w with
  | cons a b =>
   cases a
   exact .cons _ _ (ih _ b)
theorem Oh{l:OpenLaw}{n:Nat}(hn:l.most=some n){P:Params}{h:Heap}{args:List WData}{vals:List Value}
 (hpre:l.row.toRowW.claim.pre args=true) (hwl:WellAll P h vals args) :
 ∃ a vs ns,vals=[Value.ref a]∧args=[WData.list (ns.map WData.int)]∧h.get? a=some { cls:=.type "list", data:=.seq vs.toArray }∧IntsAre vs ns∧ns.length≤n:=by
 have hsh:WShape.hasAll [] args [.list .int]=true:=(pre_splitW hpre).1
 have hc:l.pre.holds [] { args:=args }=true:=(pre_splitW hpre).2
 obtain⟨d,r,rfl,h1,h2⟩:=hasAllW_cons hsh
 obtain rfl:=hasAllW_nil h2
 obtain⟨xs,rfl,h3⟩:=hasW_list h1
 obtain⟨ns,rfl⟩:=items_int h3
 have hlen:ns.length≤n:=by
  unfold OpenLaw.pre at hc
  have h4:(WTm.not (.lt (.lit (.int (n:Int))) (.len (.arg 0)))).holds [] { args:=[.list (ns.map .int)] }=true:=by
   have h4:=(holds_andW hc).1
   rw[hn] at h4
   exact h4
  have h5:=condW_of h4 (w_not (w_lt w_lit (w_len_list (w_arg rfl))))
  rw[List.length_map] at h5
  refine Nat.le_of_not_lt fun q=>?_
  have q':(n:Int) < ((ns.length:Nat):Int):=by omega
  first
   | (rw[decide_eq_true q'] at h5;exact absurd h5 (by decide))
   | (simp at h5;omega)
 cases hwl with
 | cons w1 w2 =>
  cases w2
  cases w1 with
  | list ho hall=>exact⟨_,_,ns,rfl,rfl,ho,yZ ns _ hall,hlen⟩
theorem Ov(l:OpenLaw)(args:List WData):l.row.toRowW.claim.post args (.bool true) args=true :=
 postW_of (r:=l.row.toRowW) (X:=(true == true))
  (show WShape.has [] (.bool true) .bool=true by first|rfl|decide|simp[WShape.has,WShape.arms,WShape.armsAll])
  (show (WTm.eq .res (.lit (.bool true))).value [] { args:=args,res:=some (.bool true),after:=args }=some (.bool (true == true)) from w_eq_bool (w_res rfl) w_lit) rfl
theorem Jm{l:OpenLaw}{n:Nat}{q:Program}{loose:List Str}{XP:(Str→Option Value)→Heap→Prop}{YP:World→Heap→Prop}{d:DefRec}
 (hn:l.most=some n) (hdf:d.params.defaults=[])
 (call:∀ (w:World) (s₀ s₁:Shared) (mg mb:Str→Option Value) (fa:Addr) (o:Obj) (pm cd doc:Value) (a:Addr) (vs:List Value) (ns:List Int),
  Ground q loose [] XP w s₀ mg mb s₁.heap→YP w s₁.heap →
  s₁.heap.get? fa=some o→o.data=.func (docDef d.name d.params d.body d.scope pm cd doc)→s₁.heap.CodeRec cd d.name→mg d.name=some (.ref fa) →
  s₁.heap.get? a=some { cls:=.type "list", data:=.seq vs.toArray }→IntsAre vs ns→ns.length≤n→s₁.gens = #[] →
  codeAny (model l.prog w) callerA (.call (.ref fa) ⟨[.ref a],[]⟩) (fun r s'=>r=.ok (.ret (.bool true))∧OldK s₁.heap s'.heap∧s'.os=s₁.os∧AllBare s'.gens) s₁) :
 WalkO q loose XP YP l.row.toRowW d [] (fun f vs=>PySem.call f vs):=by
 intro w s₀ s₁ mg mb G Y fa o pm cd doc dV kV ho hd hcd hD hmg hg args vals as hpre hlay hrd hwl hlo
 obtain rfl:dV=.none:=Dflts.none hD hdf
 obtain rfl:kV=.none:=Dflts.noKw hD
 obtain⟨a,vs,ns,rfl,rfl,hobj,hints,hlen⟩:=Oh hn hpre hwl
 refine enter_call (codeAny_mono (call w s₀ s₁ mg mb fa o pm cd doc a vs ns G Y ho (fd_plain hd) hcd hmg hobj hints hlen hg) fun r s' hq=>?_)
 obtain⟨rfl,h2,h3,h4⟩:=hq
 exact⟨.inl ⟨.bool true,.bool true,[],rfl,fun _=>rfl,.bool true,Ov l _,fun _=>⟨List.Pairwise.nil,fun _ hm=>(nomatch hm)⟩⟩,h2,h3,h4⟩
end Att
namespace L2
open PySem PySem.Spec PyProof.Rows
theorem Dg:∀ {vs:List Value} {ns:List Int},IntsAre vs ns→Vals (ns.map V.int) vs
 | _,_,.nil=>.nil
 | _,_,.cons n t h=>.cons ⟨t,rfl⟩ (Dg h)
end L2
namespace L2
open PySem PySem.Spec PyProof.Rows
end L2
namespace L2
open PySem PySem.Spec PyProof.Rows
def nY(s:Stmt):Arguments:=match s with
 | .FunctionDef _ a _ _ _ _ _ _ _ _=>a
 | _=>{ posonlyargs:=[],args:=[],vararg:=none,kwonlyargs:=[],kw_defaults:=[],kwarg:=none,defaults:=[] }
def jG(s:Stmt):List Stmt:=match s with
 | .FunctionDef _ _ b _ _ _ _ _ _ _=>b
 | _=>[]
def bj(s:Stmt):Scope:=match s with
 | .FunctionDef _ _ _ _ _ _ sc _ _ _=>sc
 | _=>{ kind:=.function,names:=[],isGenerator:=false,isCoroutine:=false }
abbrev gQ:G4:=fun _ _ _ _ _ _=>False
abbrev E0:XK:=fun _ _ _=>False
theorem dg{X:Cx}:Cm gQ X E0:=fun _ _ _ _ _ _ _ h=>h.elim
structure pR(K:PySem.W.Frag)(x qual:Str)(st:Stmt)(f:Addr)(fd:FuncData):Prop where
 ex:∃ (oc:Value) (od:Option Addr) (kV doc pm:Value) (an:Option Addr) (cdv ct:Value) (osl:Array (Option Value)),
  fd=PySem.W.fnOf x qual (nY st) (jG st) (bj st) .none kV doc pm an cdv ct∧K.lookup f=some ⟨oc,od,.func fd,osl⟩∧PySem.W.codeIn K cdv qual=true
 kp:PySem.W.keepIn K (.ref f)=true
section
variable{P:Program}{w:World}{K:PySem.W.Frag}{mg:Str→Option Value}{base:Heap}
theorem pR.ok{x qual:Str}{st:Stmt}{f:Addr}{fd:FuncData}{N ps:List Str}{k:Nat}{sp:Sp}(F:pR K x qual st f fd)(S:cH N ps (bj st))(len:∀ vs H Q E,sp vs H Q E→vs.length=ps.length)
 (hbody:∀ (cdv:Value) (A:Around) (outer:List Env) (s:Shared) (H:Hp) (vs:List V) (Q:VK) (E:XK),j9 k (A.deeper (envOfC qual (bj st) s.heap.objs.size f cdv))→sp vs H Q E →
  ∃ t,G6 (nZ gQ P w K mg base N qual (bj st) f cdv A outer s H E).Z9 (jG st) t∧t { nx:=fun _ H'=>Q .non H',rt:=Q } (start N vs) H):eY P w K mg base gQ (k+1) f fd ps sp:=by
 obtain⟨oc,od,kV,doc,pm,an,cdv,ct,osl,rfl,lk,hcd⟩:=F.ex
 refine Tu lk hcd S len fun A outer s H vs Q E hr hsp=>?_
 obtain⟨t,h,q⟩:=hbody cdv A outer s H vs Q E hr hsp
 exact⟨t,h.Z9,q⟩
theorem pR.binds{x qual:Str}{st:Stmt}{f:Addr}{fd:FuncData}{ps:List Str}(F:pR K x qual st f fd)
 (h:∀ (kV doc pm:Value) (an:Option Addr) (cdv ct:Value) (us:List Value),us.length=ps.length→bindArgs (PySem.W.fnOf x qual (nY st) (jG st) (bj st) .none kV doc pm an cdv ct) ⟨us,[]⟩=pure (ps.zip us)):Binds K fd ps []:=by
 obtain⟨oc,od,kV,doc,pm,an,cdv,ct,osl,rfl,lk,hcd⟩:=F.ex
 exact .all (h kV doc pm an cdv ct)
theorem Tt{x qual:Str}{st:Stmt}{f:Addr}{oc:Value}{od an:Option Addr}{osl:Array (Option Value)}{kV doc pm cdv ct:Value}(l:K.lookup f=some ⟨oc,od,.func (PySem.W.fnOf x qual (nY st) (jG st) (bj st) .none kV doc pm an cdv ct),osl⟩)
 (c:PySem.W.codeIn K cdv qual=true) (k:PySem.W.keepIn K (.ref f)=true):pR K x qual st f (PySem.W.fnOf x qual (nY st) (jG st) (bj st) .none kV doc pm an cdv ct):=⟨⟨oc,od,kV,doc,pm,an,cdv,ct,osl,rfl,l,c⟩,k⟩
end
theorem gY{A:Around}{k:Nat}(hr:j9 k A):A.units+1 < cLine:=Nat.lt_of_le_of_lt (Nat.add_le_add_left (by decide:1≤64) _) hr.units
section
variable{X:Cx}
theorem pv(i:Nat){x:Str}{pos:Pos}(hN:X.N[i]? = some x:=by rfl)(hv:Vis X.env.scope x:=by first|exact Or.inl rfl|exact Or.inr (Or.inl rfl)|exact Or.inr (Or.inr rfl))(hd:(x == ("__debug__" : Str))=false:=by decide)
 (hcd:(x == ("__classdict__" : Str))=false:=by decide):PE X (.Name x pos) (vq i):=Yt hN hv hd hcd
end
theorem Gn{A B:Prop}(h:B):if false=true then A else B:=by
 rw[if_neg Bool.false_ne_true]
 exact h
theorem Gm{A B:Prop}(h:A):if true=true then A else B:=by
 rw[if_pos rfl]
 exact h
def jg(H H':Hp):Prop:=∀ b o,H b=some o→H' b=some o
theorem jg.refl(H:Hp):jg H H:=fun _ _ h=>h
theorem jg.trans{H H1 H2:Hp}(a:jg H H1)(b:jg H1 H2):jg H H2:=fun c o h=>b c o (a c o h)
theorem jg.free{H H':Hp}(e:jg H H'){l:Addr}(h:H' l=Option.none):H l=Option.none:=by
 cases q:H l with
 | none=>rfl
 | some o =>
  rw[e l o q] at h
  cases h
end L2
namespace L2
open PySem PySem.Spec PyProof.Rows
section
variable{prog:Program}{w:World}{A:Around}{R:Result→Shared→Prop}{s:Shared}
theorem Gx{elt target iter:Expr}{ifs:List Expr}{scope:Scope}{pos:Pos}{it acc:Value}{env:Env}(I:Nat→Shared→Prop)
 (turn:∀ n s,I n s→wpAny (model prog w) A (pyNext it) (fun r s₁=>match r with
  | none=>R (.ok .next) s₁
  | some v=>wpAny (model prog w) A (letOwnedTupleGo target it v) (fun _ s₂=>wpAny (model prog w) A (assign target env v) (fun _ s₃ =>
   wpAny (model prog w) A (forIn ifs true fun c r=>if r=true then do let ok ← isTrue c env (eval c env);pure (ForInStep.yield ok) else pure (ForInStep.yield r)) (fun ok s₄ =>
    if ok=true then wpAny (model prog w) A (eval elt env) (fun x s₅ =>
     wpAny (model prog w) A (call (.builtin "list.append") [acc,x]) (fun _ s₆=>∃ m,m < n∧I m s₆) (fun _ _=>False) s₅) (fun _ _=>False) s₄
    else ∃ m,m < n∧I m s₄) (fun _ _=>False) s₃) (fun _ _=>False) s₂) (fun _ _=>False) s₁) (fun _ _=>False) s)
 (n:Nat) (h:I n s) :
 codeAny (model prog w) A (.compLoop (.ListComp elt [⟨target,iter,ifs,0⟩] scope pos) 0 it acc env) R s:=by
 refine codeAny_loop rfl I (fun n s hI=>?_) n h
 show wpAny _ A ((compTurn (.ListComp elt [⟨target,iter,ifs,0⟩] scope pos) 0 it acc env).onRaise (fun x=>do noteFrame x env;theTreesLotGoes x)) _ _ s
 refine wpAny_noted (wpAny_mono (E:=fun _ _=>False) ?_ (fun _ _ q=>q) fun _ _ q=>q.elim)
 rw[compTurn_list]
 refine wpAny_bind (wpAny_standAt (wpAny_bind (gf (turn n s hI) fun r s₁ h₁=>?_)))
 cases r with
 | none=>exact wpAny_pure h₁
 | some v =>
  refine wpAny_bind (gf h₁ fun _ s₂ h₂=>wpAny_bind (gf h₂ fun _ s₃ h₃=>wpAny_bind (gf h₃ fun ok s₄ h₄=>?_)))
  cases ok with
  | false=>exact wpAny_pure ⟨rfl,h₄⟩
  | true=>exact wpAny_bind (wpAny_bind (gf h₄ fun x s₅ h₅=>wpAny_bind (gf h₅ fun _ s₆ h₆=>wpAny_pure (wpAny_pure ⟨rfl,h₆⟩))))
end
theorem qX.track{P:Program}{w:World}{H:Hp}{h:Heap}{a:Addr}{o:HO}(x:qX P w H h)(hn:H a=none)(new:di P w (upd H a o) h a o):qX P w (upd H a o) h:=fun b u e=>by
 by_cases hb:b=a
 ·subst hb;rw[bc] at e;cases e;exact new
 ·rw[aM hb] at e
  exact(x b u e).stay (fun c v _ q=>q) (fun c q=>by rw[aM (bf q hn)];exact q) fun c xs q=>by rw[aM (bf q hn)];exact q
theorem lookup_mem{α : Type}:∀ {l:List (Str×α)} {x:Str} {k:α},l.lookup x=some k→(x,k)∈l
 | [],_,_,h=>by simp at h
 | (n,k')::r,x,k,h=>by
  rw[List.lookup_cons] at h
  cases hx:x == n with
  | true =>
   rw[hx] at h
   have:x=n:=by simpa using hx
   cases h;subst this;exact List.mem_cons_self
  | false=>rw[hx] at h;exact List.mem_cons_of_mem _ (lookup_mem h)
theorem lB{env:Env}:∀ {names:List (Str×NameKind)} {x:Str} {k:NameKind},
 (names.map fun (n,k)=>if (k == NameKind.free && env.scope.kind == .function && env.kindOf n == some .cell) then (n,NameKind.cell) else (n,k)).lookup x=some k →
 ∃ k',names.lookup x=some k'∧(k=k'∨(k'=.free∧k=.cell))
 | [],_,_,h=>by simp at h
 | (n,k0)::r,x,k,h=>by
  have ih:=@lB env r x k
  have h':List.lookup x ((if (k0 == NameKind.free && env.scope.kind == .function && env.kindOf n == some .cell)=true then (n,NameKind.cell) else (n,k0)) ::
   (r.map fun (n,k)=>if (k == NameKind.free && env.scope.kind == .function && env.kindOf n == some .cell) then (n,NameKind.cell) else (n,k)))=some k:=h
  by_cases hc:(k0 == NameKind.free && env.scope.kind == .function && env.kindOf n == some .cell)=true
  ·rw[if_pos hc,List.lookup_cons] at h'
   rw[List.lookup_cons]
   cases hx:x == n with
   | true =>
    rw[hx] at h';cases h'
    simp only[Bool.and_eq_true] at hc
    exact⟨k0,rfl,.inr ⟨by simpa using hc.1.1,rfl⟩⟩
   | false=>rw[hx] at h';exact ih h'
  ·rw[if_neg hc,List.lookup_cons] at h'
   rw[List.lookup_cons]
   cases hx:x == n with
   | true=>rw[hx] at h';cases h';exact⟨_,rfl,.inl rfl⟩
   | false=>rw[hx] at h';exact ih h'
theorem vM{env:Env}{f:(Str×NameKind)→List (Str×Addr)→Sem (ForInStep (List (Str×Addr)))}
 (hf:∀ n k r,f (n,k) r=if (k == NameKind.free)=true then (cellOf env n >>= fun a=>pure (ForInStep.yield ((n,a)::r))) else pure (ForInStep.yield r)) :
 ∀ (names:List (Str×NameKind)) (acc:List (Str×Addr)),(∀ y∈names,y.2=.free→∃ c,env.cells.lookup y.1=some c)→(∀ x c,acc.lookup x=some c→env.cells.lookup x=some c) →
  ∃ cl,forIn names acc f=pure cl∧(∀ x c,cl.lookup x=some c→env.cells.lookup x=some c)∧(∀ x,(∃ c,acc.lookup x=some c)→∃ c,cl.lookup x=some c)∧∀ x,(x,NameKind.free)∈names→∃ c,cl.lookup x=some c
 | [],acc,_,hacc=>⟨acc,rfl,hacc,fun _ h=>h,fun _ h=>by simp at h⟩
 | (n,k)::r,acc,hn,hacc=>by
  have hr:∀ y∈r,y.2=.free→∃ c,env.cells.lookup y.1=some c:=fun y hy=>hn y (List.mem_cons_of_mem _ hy)
  by_cases hk:(k == NameKind.free)=true
  ·have hk':k=.free:=by simpa using hk
   obtain⟨c,hc⟩:=hn (n,k) List.mem_cons_self hk'
   obtain⟨cl,e,h1,h2,h3⟩:=vM hf r ((n,c)::acc) hr (fun x c' h=>by
    rw[List.lookup_cons] at h
    cases hx:x == n with
    | true => rw [hx] at h; cases h; have : x = n := by simpa using hx
              subst this;exact hc
    | false=>rw[hx] at h;exact hacc x c' h)
   refine⟨cl,?_,h1,fun x ⟨c',hx⟩=>h2 x ?_,fun x hx=>?_⟩
   ·rw[List.forIn_cons,hf,if_pos hk]
    have:cellOf env n=pure c:=by unfold cellOf;rw[hc]
    rw[this]
    exact e
   ·rw[List.lookup_cons]
    cases x == n with
    | true=>exact⟨_,rfl⟩
    | false=>exact⟨c',hx⟩
   ·rcases List.mem_cons.mp hx with e|hx
    ·cases e
     exact h2 _ ⟨c,by rw[List.lookup_cons];simp⟩
    ·exact h3 x hx
  ·obtain⟨cl,e,h1,h2,h3⟩:=vM hf r acc hr hacc
   refine⟨cl,?_,h1,h2,fun x hx=>?_⟩
   ·rw[List.forIn_cons,hf,if_neg hk]
    exact e
   ·rcases List.mem_cons.mp hx with e|hx
    ·cases e
     exact absurd rfl hk
    ·exact h3 x hx
theorem Wk{sc:Scope}{env:Env}(h:∀ y∈sc.names,y.2=.free→∃ c,env.cells.lookup y.1=some c) :
 ∃ cl,closureFor sc env=pure cl∧(∀ x c,cl.lookup x=some c→env.cells.lookup x=some c)∧∀ x,(x,NameKind.free)∈sc.names→∃ c,cl.lookup x=some c:=by
 obtain⟨cl,e,h1,_,h3⟩:=vM (env:=env) (f:=fun x r=>match x with|(name,kind)=>if (kind == NameKind.free)=true then (cellOf env name >>= fun a=>pure (ForInStep.yield ((name,a)::r))) else pure (ForInStep.yield r))
  (fun n k r=>rfl) sc.names [] h (fun _ _ h=>by simp at h)
 refine⟨cl,?_,h1,h3⟩
 unfold closureFor
 refine Eq.trans ?_ e
 exact bind_pure _
def pick(ρ : List (Option Nat))(σ : St):St:=ρ.map fun o=>o.bind fun j=>(σ[j]?).join
def DG(X:Cx)(N':List Str)(sc:Scope)(cl:List (Str×Addr))(C:Addr)(s:Shared)(H:Hp)(fp:List Addr):Cx :=
 { X with N:=N',s₀:=s,H₀:=H,env:=compEnvC sc cl C X.env,outer:=X.stack,ex:=fp,fn:=fun _=>false,xe:=fun _ _=>False }
structure gH(X:Cx)(N':List Str)(ρ : List (Option Nat))(sc:Scope):Prop where
 kind:sc.kind=.function
 Bg:∀ y∈sc.names,y.2≠.cell
 names:∀ y∈sc.names,y.2=.local→sc.names.lookup y.1=some .local
 free:∀ y∈sc.names,y.2=.free→(X.env.kindOf y.1=some .cell∨X.env.kindOf y.1=some .free)
 len:ρ.length=N'.length
 ix:∀ (i j:Nat),ρ[i]? = some (some j)→∃ x,N'[i]? = some x∧X.N[j]? = some x∧sc.names.lookup x=some .free
def PTs(X:Cx)(ifs:List Expr)(t:TT):Prop :=
 ∀ (pins:List (Addr×Obj)) (s:Shared) (σ : St) (H:Hp) (Q:Bool→Hp→Prop),Inv X pins σ H s→t σ H Q →
  wpAny (model X.prog X.w) X.A (forIn ifs true fun c r=>if r=true then do let ok ← isTrue c X.env (eval c X.env);pure (ForInStep.yield ok) else pure (ForInStep.yield r)) (TP X pins σ Q) X.xe s
def aap:TT:=fun _ H Q=>Q true H
theorem jW{X:Cx}:PTs X [] aap:=fun _ _ _ H _ I h=>wpAny_tests_nil ⟨H,I,h⟩
theorem wI{X:Cx}{c:Expr}{t:TT}(h:PT X c t):PTs X [c] t:=fun pins s σ H Q I hw=>wpAny_tests_one (h pins s σ H Q I hw)
def Jx(ρ : List (Option Nat))(g:TG):Prop:=∀ v σ H Q,g v σ H Q→g v σ H fun σ2 H2=>(σ2.length = σ.length∧∀ (i j:Nat),ρ[i]? = some (some j)→σ2[i]? = σ[i]?)∧Q σ2 H2
def GX(ρ : List (Option Nat))(g:Qo):Prop:=∀ v σ H Q,g v σ H Q→g v σ H fun σ2 H2=>(σ2.length = σ.length∧∀ (i j:Nat),ρ[i]? = some (some j)→σ2[i]? = σ[i]?)∧Q σ2 H2
theorem jm{ρ : List (Option Nat)}{i:Nat}(h:ρ[i]? = some none):Jx ρ (rP i):=fun v σ H Q q=>by
 refine⟨⟨List.length_set,fun k j e=>?_⟩,q⟩
 have:i≠k:=by intro z;subst z;rw[h] at e;cases e
 rw[List.getElem?_set_ne this]
theorem KQ{ρ : List (Option Nat)}:GX ρ Tq:=fun v σ H Q ⟨e,q⟩=>⟨e,⟨rfl,fun _ _ _=>rfl⟩,q⟩
theorem qD{ρ : List (Option Nat)}{i:Nat}{u:Qo}(h:ρ[i]? = some none)(hu:GX ρ u)(mu:∀ v σ H Q Q',(∀ a b,Q a b→Q' a b)→u v σ H Q→u v σ H Q'):GX ρ (Iu (rP i) u):=fun vs σ H Q ⟨v,r,e,q⟩=>by
 refine⟨v,r,e,?_⟩
 refine mu _ _ _ _ _ (fun a b ⟨⟨l,k⟩,z⟩=>⟨⟨l.trans List.length_set,fun i' j' e'=>(k i' j' e').trans ?_⟩,z⟩) (hu _ _ _ _ q)
 have:i≠i':=by intro z;subst z;rw[h] at e';cases e'
 rw[List.getElem?_set_ne this]
theorem yd:∀ v σ H Q Q',(∀ a b,Q a b→Q' a b)→Tq v σ H Q→Tq v σ H Q':=fun _ _ _ _ _ m ⟨e,q⟩=>⟨e,m _ _ q⟩
theorem Gq{i:Nat}{u:Qo}(mu:∀ v σ H Q Q',(∀ a b,Q a b→Q' a b)→u v σ H Q→u v σ H Q'):∀ v σ H Q Q',(∀ a b,Q a b→Q' a b)→Iu (rP i) u v σ H Q→Iu (rP i) u v σ H Q' :=
 fun _ _ _ _ _ m ⟨v,r,e,q⟩=>⟨v,r,e,mu _ _ _ _ _ m q⟩
theorem KN{ρ : List (Option Nat)}{K:PySem.W.Frag}{n:Nat}{u:Qo}(hu:GX ρ u):Jx ρ (Zq K n u):=fun v σ H Q ⟨a,xs,e,hq,hl,q⟩=>⟨a,xs,e,hq,hl,hu _ _ _ _ q⟩
def abK(J:It)(ρ : List (Option Nat))(g:TG)(tc:TT)(te:TE)(σ : St)(H1:Hp)(Q:VK):Prop:=∃ W:Nat→Nat→List V→Hp→Prop,(∃ m,W 0 m [] H1)∧∀ i m acc H,W i m acc H →
 (J.stop i H∧∀ p,H p=none→Q (.ref p) (upd H p (.lst acc))) ∨
 (J.go i H∧acc.length < sizeLine∧∃ N:List V→Hp→Prop,(∀ acc' H',N acc' H'→∃ m',m' < m∧W (i+1) m' acc' H') ∧
  ∀ x H',J.yld i H x H'→g x (pick ρ σ) H' fun σ2 H2=>tc σ2 H2 fun b H3=>if b=true then te σ2 H3 fun y H4=>N (acc++[y]) H4 else N acc H3)
def LK(wi:TI)(ρ : List (Option Nat))(g:TG)(tc:TT)(te:TE):TE:=fun σ H Q=>wi σ H fun J H1=>abK J ρ g tc te σ H1 Q
section
variable{X:Cx}{elt tg iter:Expr}{ifs:List Expr}{sc:Scope}{pos cpos:Pos}{N':List Str}{ρ : List (Option Nat)}{wi:TI}{g:TG}{tc:TT}{te:TE}
theorem DK(hcalm:X.calm=true)(S:gH X N' ρ sc)(hi:PI X tg iter wi)
 (hg:∀ cl C s H fp,PG (DG X N' sc cl C s H fp) tg g) (gk:Jx ρ g) (hc:∀ cl C s H fp,PTs (DG X N' sc cl C s H fp) ifs tc) (he:∀ cl C s H fp,PE (DG X N' sc cl C s H fp) elt te)
 (hs:∀ x,foldedSetIterable iter X.env x=pure x)
 (use:Option (Value→Sem Unit)) {R:Value→Shared→Prop} {pins:List (Addr×Obj)} {s:Shared} {σ : St} {H:Hp} {Q:VK} (I:Inv X pins σ H s) (h:LK wi ρ g tc te σ H Q)
 (hR:∀ s' D C H',Inv X pins σ H' s'→Q (.ref D) H'→(∃ m,s'.heap.Ns C m)→qW X pins H' C→compPost (model X.prog X.w) X.A X.xe use R (.ref D) C (.ok .next) s') :
 wpAny (model X.prog X.w) X.A (comprehension (.ListComp elt [⟨tg,iter,ifs,0⟩] sc pos) sc X.env cpos (newList []) false (eval iter X.env) use) R X.xe s:=by
 obtain⟨cl,hcl,hsub,hall⟩:=Wk (sc:=sc) (env:=X.env) fun y hy hf=>I.ok.has y.1 (S.free y hy hf)
 refine wpAny_comprehension_free rfl hs hcl S.kind S.names (gf (hi pins s σ H _ I h) fun v s1 h1=>gf h1 fun itv s2 h2=>?_)
 obtain⟨it,fp,tn,J,H2,e,I2,T,st2,f2,W,⟨m0,w0⟩,turn⟩:=h2
 subst e
 refine wpAny_newList (items:=[]) ?_
 refine wpAny_newFunctionEnv S.Bg (by intro y hy;simp at hy) (fun h₁ hns hsb=>?_) S.kind
 dsimp only at hns hsb ⊢
 generalize hH2:s2.heap.push { cls:=.type "list", data:=.seq ([]:List Value).toArray }=Hh at hns hsb ⊢
 have hCs:Hh.objs.size=s2.heap.objs.size+1:=by rw[← hH2,Heap.size_push]
 generalize hD:s2.heap.objs.size=D at *
 generalize hCC:Hh.objs.size=C at *
 have hDC:D≠C:=by omega
 have ltC:∀ b:Nat,b < s2.heap.objs.size→b≠C∧b≠D∧b < D:=fun b h=>by omega
 have ltD:∀ b:Nat,b < D→b≠C∧b≠D:=fun b h=>by omega
 have old:∀ b o,s2.heap.get? b=some o→h₁.get? b=some o:=fun b o e=>hsb.extBut b o (ltC b (Heap.lt_size e)).1 (Heap.get?_push_of_some _ (by rw[← hH2];exact Heap.get?_push_of_some _ e))
 have newD:h₁.get? D=some { cls:=.type "list", data:=.seq ([]:List Value).toArray }:=hsb.extBut _ _ hDC (Heap.get?_push_of_some _ (by rw[← hH2,← hD];exact Heap.get?_push_size _ rfl))
 have ltb:∀ b∈fp,b < D:=fun b hb=>by
  obtain⟨o,e,_⟩:=T.obj _ _ st2 b hb
  exact(ltC b (Heap.lt_size e)).2.2
 have fD:qW X pins H2 D:=I2.wW (by omega) (I2.hok.fresh (by omega))
 have fC:qW X pins H2 C:=I2.wW (by omega) (I2.hok.fresh (by omega))
 have nst:∀ b,b≠X.env.locals→b∉X.fs→b∉frs X.stack:=fun b h1 h2 hb=>by
  rcases List.mem_cons.mp (I2.Fb b hb) with e|e
  ·exact h1 e
  ·exact h2 e
 have ok':(DG X N' sc cl C s2 H2 fp).Ok:=by
  refine⟨I2.ok.mod,S.kind,I2.ok.glob,I2.ok.blt,(by show s2.heap.objs.size≤C;omega),fun x y c e1 e2=>I2.ok.inj x y c (hsub _ _ e1) (hsub _ _ e2),fun x hx=>?_,fun x c z=>(by cases z),I2.ok.hd,I2.ok.frames,.inl rfl,
   fun b hb=>⟨(ltD b (ltb b hb)).1,fun x c e=>(f2 b hb).2.2.2.2.1 x c (hsub _ _ e)⟩,I2.bs,(by show X.base.objs.size≤s2.heap.objs.size;exact Nat.le_trans I2.ok.bsz I2.sz),fun b o e hb=>?_,fun b hb=>nst b (f2 b hb).2.1 (f2 b hb).2.2.1,I2.stack,I2.wB⟩
  ·have hx':∃ k',sc.names.lookup x=some k'∧(k'=.cell∨k'=.free):=by
    rcases hx with hx|hx
    ·obtain⟨k',e1,e2⟩:=lB (env:=X.env) (names:=sc.names) hx
     rcases e2 with e2|⟨e2,_⟩
     ·exact⟨k',e1,.inl e2.symm⟩
     ·exact⟨k',e1,.inr e2⟩
    ·obtain⟨k',e1,e2⟩:=lB (env:=X.env) (names:=sc.names) hx
     rcases e2 with e2|⟨e2,_⟩
     ·exact⟨k',e1,.inr e2.symm⟩
     ·exact⟨k',e1,.inr e2⟩
   obtain⟨k',e1,e2⟩:=hx'
   have hm:=lookup_mem e1
   rcases e2 with e2|e2
   ·exact absurd e2 (S.Bg _ hm)
   ·subst e2;exact hall x hm
  ·rcases (f2 b hb).2.2.2.1 with z|z
   ·exact I2.ok.Kl b o e z
   ·exact absurd (Nat.lt_of_lt_of_le (Heap.lt_size e) (Nat.le_trans I2.ok.bsz z)) (Nat.lt_irrefl _)
 have Rq:∀ p∈X.pn++pins,p.1 < D:=fun p hp=>(ltC p.1 (Heap.lt_size (I2.pin p hp).1)).2.2
 have ZG:∀ x c,cl.lookup x=some c→c < D:=fun x c e=>by
  obtain⟨v,q⟩:=I2.cell x c (hsub _ _ e)
  exact(ltC c q.lt).2.2
 have I':∀ tk,Inv (DG X N' sc cl C s2 H2 fp) (pins++[(D,{ cls:=.type "list", data:=.seq ([]:List Value).toArray })]) (pick ρ σ) H2 { s2 with heap:=h₁,toks:=tk }:=fun tk=>by
  refine⟨ok',rfl,I2.bare,Un.kept old,⟨_,hns,fun i x v e1 e2 e3=>?_⟩,fun x c e=>?_,fC.1,fun x c e=>I2.nP x c (hsub _ _ e),fun p hp=>?_,I2.hok.kept old,?_⟩
  ·have e2':∃ j,ρ[i]? = some (some j)∧σ[j]? = some (some v):=by
    unfold pick at e2
    rw[List.getElem?_map] at e2
    cases hr:ρ[i]? with
    | none=>rw[hr] at e2;cases e2
    | some o =>
     rw[hr] at e2
     cases o with
     | none=>cases e2
     | some j =>
      refine⟨j,rfl,?_⟩
      have e2:(σ[j]?).join=some v:=Option.some.inj e2
      cases hq:σ[j]? with
      | none=>rw[hq] at e2;cases e2
      | some o' => rw [hq] at e2; have e2 : o' = some v := e2
                   rw[e2]
   obtain⟨j,hj,hv⟩:=e2'
   obtain⟨y,ey,eN,ef⟩:=S.ix i j hj
   have e1':N'[i]? = some x:=e1
   rw[ey] at e1';cases e1'
   obtain⟨m,hn,hl⟩:=I2.loc
   have hm:=lookup_mem ef
   have kX:=S.free _ hm rfl
   obtain⟨u,ru,lk⟩:=hl j x v eN hv (by rcases kX with k|k;exact .inr (.inl k);exact .inr (.inr k))
   refine⟨u,ru,.inr ⟨?_,?_⟩⟩
   ·show (relabel sc X.env).names.lookup x=some .cell∨(relabel sc X.env).names.lookup x=some .free
    rcases e3 with e3|e3|e3
    ·obtain⟨k',q1,q2⟩:=lB (env:=X.env) (names:=sc.names) e3
     rw[ef] at q1;cases q1
     rcases q2 with q2|⟨_,q2⟩<;>cases q2
    ·exact .inl e3
    ·exact .inr e3
   ·obtain⟨c,hc'⟩:=hall x hm
    refine⟨c,hc',?_⟩
    rcases lk with ⟨k,_⟩|⟨_,c',ec,z⟩
    ·rcases kX with k'|k'<;>(rw[k] at k';cases k')
    ·rw[hsub _ _ hc'] at ec;cases ec
     obtain⟨o,ho,hd⟩:=z
     exact⟨o,old _ _ ho,hd⟩
  ·obtain⟨v,o,ho,hd⟩:=I2.cell x c (hsub _ _ e)
   exact⟨v,o,old _ _ ho,hd⟩
  ·have hp':p∈X.pn++pins∨p=(D,{ cls:=.type "list", data:=.seq ([]:List Value).toArray }):=by
    rcases List.mem_append.mp hp with z|z
    ·exact .inl (List.mem_append_left _ z)
    ·rcases List.mem_append.mp z with z|z
     ·exact .inl (List.mem_append_right _ z)
     ·exact .inr (by simpa using z)
   rcases hp' with z|z
   ·obtain⟨q1,q2,q3,q4,q5⟩:=I2.pin p z
    exact⟨old _ _ q1,q2,(ltD p.1 (Rq p z)).1,nst _ q3 q4,q5⟩
   ·subst z
    exact⟨newD,fD.1,hDC,nst _ fD.2.1 fD.2.2.1,fun v z=>by cases z⟩
  ·show (pick ρ σ).length=N'.length
   unfold pick;rw[List.length_map];exact S.len
 have stat:∀ {H':Hp} {o:Obj},(∀ b∈fp,H' b=none)→∀ b∈fp,qW (DG X N' sc cl C s2 H2 fp) (pins++[(D,o)]) H' b:=fun {H' o} hn b hb=>by
  refine⟨hn b hb,(ltD b (ltb b hb)).1,nst b (f2 b hb).2.1 (f2 b hb).2.2.1,.inl hb,fun x c e=>(f2 b hb).2.2.2.2.1 x c (hsub _ _ e),fun p hp=>?_⟩
  rcases List.mem_append.mp hp with z|z
  ·exact(f2 b hb).2.2.2.2.2 p (List.mem_append_left _ z)
  ·rcases List.mem_append.mp z with z|z
   ·exact(f2 b hb).2.2.2.2.2 p (List.mem_append_right _ z)
   ·have e:p=(D,o):=by simpa using z
    subst e
    exact Ne.symm (ltD b (ltb b hb)).2
 have loop:∀ tk,codeAny (model X.prog X.w) X.A (.compLoop (.ListComp elt [⟨tg,iter,ifs,0⟩] sc pos) 0 (.ref it) (.ref D) (compEnvC sc cl C X.env)) (compPost (model X.prog X.w) X.A X.xe use R (.ref D) C) { s2 with heap:=h₁,toks:=tk }:=fun tk=>by
  refine Gx (fun n s'=>∃ (i:Nat) (acc:List V) (its:List Value) (k:Nat) (H':Hp),Inv (DG X N' sc cl C s2 H2 fp) (pins++[(D,{ cls:=.type "list", data:=.seq its.toArray k })]) (pick ρ σ) H' s'∧Vals acc its∧acc.length≤sizeLine∧tn i s'.heap∧(∀ b∈fp,H' b=none)∧W i n acc H')
   ?_ m0 ⟨0,[],[],0,H2,I' tk,.nil,Nat.zero_le _,T.keep _ _ _ st2 fun b hb o e=>old b o e,fun b hb=>(f2 b hb).1,w0⟩
  rintro n s3 ⟨i,acc,its,k,H3,I3,va,hz0,st3,fr3,w3⟩
  rcases turn i n acc H3 w3 with ⟨stop,qn⟩|⟨go,hz,Nn,hN,step⟩
  ·refine gf (T.done (DG X N' sc cl C s2 H2 fp) rfl rfl rfl hcalm i _ s3 _ H3 (fun _ _=>False) I3 (stat fr3) st3 stop) fun r s4 ⟨hr,I4⟩=>?_
   subst hr
   obtain⟨p1,p2,p3,p4,p5⟩:=I4.pin (D,{ cls:=.type "list", data:=.seq its.toArray k }) (by simp)
   have p1:s4.heap.get? D=some { cls:=.type "list", data:=.seq its.toArray k }:=p1
   have p2:H3 D=none:=p2
   have B:=I4.base
   have upn:∀ b o,H3 b=some o→upd H3 D (.lst acc) b=some o:=fun b o e=>by rw[aM (bf e p2)];exact e
   have IX:Inv X pins σ (upd H3 D (.lst acc)) s4:=by
    refine I2.call' (ch:=fp) I4.os ⟨fun b o q1 q2 q3 q4=>B.keep b o q1 q2 q3 q4,fun b o q1 q2 q3 q4=>B.slot b o q1 q2 q3 q4,fun b o q1 q2 q3=>?_,fun b o q1 q2=>B.there b o q1 q2,
     fun b xs q=>upn _ _ (B.tups b xs q),fun b o u q=>upn _ _ (B.ye b o u q),fun b w ps q=>?_⟩ (I4.hok.track p2 ⟨hz0,its,k,va,p1⟩) I4.bare fun b hb=>⟨(f2 b hb).2.2.2.1,(f2 b hb).2.1,(f2 b hb).2.2.2.2.1,(f2 b hb).2.2.2.2.2⟩
    ·rw[aM (ltC b (Heap.lt_size q1)).2.1]
     exact B.free b o q1 q2 q3
    ·obtain⟨more,q'⟩:=B.xK b w ps q
     exact⟨more,upn _ _ q'⟩
   obtain⟨m,hm,_⟩:=I4.loc
   refine hR s4 D C _ IX (qn D p2) ⟨m,hm⟩ (I2.wW (by omega) ?_)
   rw[aM (Ne.symm hDC)]
   exact I4.free
  ·refine gf (T.item (DG X N' sc cl C s2 H2 fp) rfl rfl rfl hcalm i _ s3 _ H3 (fun _ _=>False) I3 (stat fr3) st3 go) fun r s4 ⟨u,hr,h4⟩=>?_
   subst hr
   refine gf h4 fun _ s5 ⟨x,H5,I5,r5,y5,st5,fr5⟩=>?_
   have I5':=I5.pinned (stat fr5) (T.obj _ _ st5)
   refine gf (hg cl C s2 H2 fp _ s5 _ H5 x u _ I5' r5 (gk _ _ _ _ (step x H5 y5))) fun _ s6 ⟨σ6,H6,I6,⟨l6,k6⟩,q6⟩=>?_
   refine gf (hc cl C s2 H2 fp _ s6 σ6 H6 _ I6 q6) fun ok s7 ⟨H7,I7,q7⟩=>?_
   have wk:∀ {Dk:List (Addr×Obj)} {H':Hp} {s':Shared},Inv (DG X N' sc cl C s2 H2 fp) Dk σ6 H' s'→Inv (DG X N' sc cl C s2 H2 fp) Dk (pick ρ σ) H' s':=fun {Dk H' s'} J' =>
    J'.weak l6.symm fun j v e=>by
     have:∃ j',ρ[j]? = some (some j'):=by
      unfold pick at e
      rw[List.getElem?_map] at e
      cases hr:ρ[j]? with
      | none=>rw[hr] at e;cases e
      | some o =>
       rw[hr] at e
       cases o with
       | none=>cases e
       | some j'=>exact⟨j',rfl⟩
     obtain⟨j',hj'⟩:=this
     rw[k6 j j' hj'];exact e
   cases ok with
   | false =>
    have q7:Nn acc H7:=by simpa using q7
    rw[if_neg Bool.false_ne_true]
    obtain⟨m',hm,w7⟩:=hN acc H7 q7
    refine⟨m',hm,i+1,acc,its,k,H7,wk I7.pX,va,hz0,T.keep _ _ _ st5 fun b hb o e=>(I7.pin (b,o) (List.mem_append_right _ (List.mem_append_right _ (mj hb e)))).1,fun b hb=>?_,w7⟩
    obtain⟨o,e,d⟩:=T.obj _ _ st5 b hb
    exact(I7.pin (b,o) (List.mem_append_right _ (List.mem_append_right _ (mj hb e)))).2.1
   | true =>
    have q7:te σ6 H7 fun y H4=>Nn (acc++[y]) H4:=by simpa using q7
    rw[if_pos rfl]
    refine gf (he cl C s2 H2 fp _ s7 σ6 H7 _ I7 q7) fun xv s8 ⟨y,H8,I8,r8,n8⟩=>?_
    obtain⟨p1,p2,p3,p4,p5⟩:=I8.pin (D,{ cls:=.type "list", data:=.seq its.toArray k }) (by simp)
    have p1:s8.heap.get? D=some { cls:=.type "list", data:=.seq its.toArray k }:=p1
    have p2:H8 D=none:=p2
    refine wpAny_list_append_plain ⟨k,p1⟩ (fun h' pl sb=>?_) (by rw[List.size_toArray,← va.length];omega)
    obtain⟨k',pl⟩:=pl
    obtain⟨m',hm,w8⟩:=hN _ _ n8
    have Ia:Inv (DG X N' sc cl C s2 H2 fp) pins σ6 H8 s8:=I8.pX.pX
    have Ib:Inv (DG X N' sc cl C s2 H2 fp) pins σ6 H8 { s8 with heap:=h' }:=Ia.turned (t':=s8.toks) (it:=D) (fun b o hb e=>(sb.2 b hb).trans e) p2 hDC (.inr (by show s2.heap.objs.size≤D;omega)) (fun x c e=>(ltD c (ZG x c e)).2) fun p hp=>(ltD p.1 (Rq p hp)).2
    have pl':h'.get? D=some { cls:=.type "list", data:=.seq (its++[xv]).toArray k' }:=by rw[pl];simp
    have Ic:Inv (DG X N' sc cl C s2 H2 fp) (pins++[(D,{ cls:=.type "list", data:=.seq (its++[xv]).toArray k' })]) σ6 H8 { s8 with heap:=h' }:=Ib.Fp fun p hp=>by
     rcases List.mem_append.mp hp with z|z
     ·exact Ib.pin p (List.mem_append_right _ z)
     ·have e:p=(D,{ cls:=.type "list", data:=.seq (its++[xv]).toArray k' }):=by simpa using z
      subst e
      exact⟨pl',p2,p3,p4,fun v z=>by cases z⟩
    refine⟨m',hm,i+1,acc++[y],its++[xv],k',H8,wk Ic,va.append (.cons r8 .nil),(by rw[List.length_append,List.length_singleton];omega),T.keep _ _ _ st5 fun b hb o e=>?_,fun b hb=>?_,w8⟩
    ·exact(sb.2 b (ltD b (ltb b hb)).2).trans (I8.pin (b,o) (List.mem_append_right _ (List.mem_append_right _ (mj hb e)))).1
    ·obtain⟨o,e,d⟩:=T.obj _ _ st5 b hb
     exact(I8.pin (b,o) (List.mem_append_right _ (List.mem_append_right _ (mj hb e)))).2.1
 refine codeAny_compStart_list (loop _) (T.self X.A 0 _ _ _ (T.keep _ _ _ st2 fun b hb o e=>old b o e) (loop _))
theorem lu(hcalm:X.calm=true)(S:gH X N' ρ sc)(hi:PI X tg iter wi)
 (hg:∀ cl C s H fp,PG (DG X N' sc cl C s H fp) tg g) (gk:Jx ρ g) (hc:∀ cl C s H fp,PTs (DG X N' sc cl C s H fp) ifs tc) (he:∀ cl C s H fp,PE (DG X N' sc cl C s H fp) elt te)
 (hs:∀ x,foldedSetIterable iter X.env x=pure x:=by intro _;rfl) :
 PE X (.ListComp elt [⟨tg,iter,ifs,0⟩] sc pos) (LK wi ρ g tc te):=by
 intro pins s σ H Q I h
 rw[eval_ListComp]
 refine DK hcalm S hi hg gk hc he hs none I h fun s' D C H' I' q ⟨m,hm⟩ f=>⟨m,hm,fun h' sb=>?_⟩
 exact⟨.ref D,H',I'.turned (t':=s'.toks) (it:=C) (fun b o hb e=>(sb.2 b hb).trans e) f.1 f.2.1 f.2.2.2.1 f.2.2.2.2.1 f.2.2.2.2.2,rfl,q⟩
theorem ux{i:Nat}{x:Str}{px:Pos}(hcalm:X.calm=true)(hN:X.N.Nodup)(hix:X.N[i]? = some x)(hx:Loc X.env.scope x)(S:gH X N' ρ sc)(hi:PI X tg iter wi)
 (hg:∀ cl C s H fp,PG (DG X N' sc cl C s H fp) tg g) (gk:Jx ρ g) (hc:∀ cl C s H fp,PTs (DG X N' sc cl C s H fp) ifs tc) (he:∀ cl C s H fp,PE (DG X N' sc cl C s H fp) elt te)
 (hsw:swapsWith (.ListComp elt [⟨tg,iter,ifs,0⟩] sc pos) (some (.Name x px)) cpos.line X.env=pure true:=by rfl)
 (hs:∀ x,foldedSetIterable iter X.env x=pure x:=by intro _;rfl)
 (hf:X.fn x=true∨X.env.scope.names.lookup x=some .local:=by first|exact .inl rfl|exact .inr rfl|assumption) :
 PS X (.Assign [.Name x px] (.ListComp elt [⟨tg,iter,ifs,0⟩] sc pos) cpos) (JX (LK wi ρ g tc te) (rP i)):=by
 intro pins s σ H D I h
 rw[exec_Assign_Name_used _ _ _ _ hsw]
 refine wpAny_bind (wpAny_standAt (wpAny_bind ?_))
 show wpAny _ X.A (do let _ ← comprehension (.ListComp elt [⟨tg,iter,ifs,0⟩] sc pos) sc X.env _ (newList []) false (eval iter X.env) (some (assign (.Name x px) X.env))) _ _ s
 refine wpAny_bind (gf (DK (Q:=fun y H1=>D.nx (σ.set i (some y)) H1) (R:=fun _ s'=>SP X pins D .next s') hcalm S hi hg gk hc he hs (some (assign (.Name x px) X.env)) I h fun s' Da C H' I' q ⟨m,hm⟩ f=>?_) fun _ s' hq=>wpAny_pure (wpAny_pure hq))
 show wpAny _ X.A (assign (.Name x px) X.env (.ref Da)) _ _ _
 refine wpAny_assign_Name (Dh I' hN hix hx (v:=.ref Da) rfl (fun s2 I2 ⟨a,sb,ha⟩=>⟨m,hm.sameBut sb ?_,fun h' sb2=>?_⟩) hf)
 ·rcases ha with e|e
  ·subst e;exact f.2.1
  ·exact fun z=>f.2.2.2.2.1 x a e z.symm
 ·exact⟨_,H',I2.turned (t':=s2.toks) (it:=C) (fun b o hb e=>(sb2.2 b hb).trans e) f.1 f.2.1 f.2.2.2.1 f.2.2.2.2.1 f.2.2.2.2.2,q⟩
end
structure It.Of(J:It)(Ok:Hp→Prop)(xs:List V):Prop where
 go:∀ i H,Ok H→i < xs.length→J.go i H
 yld:∀ i H x H',Ok H→i < xs.length→J.yld i H x H'→H'=H∧xs[i]? = some x
 stop:∀ H,Ok H→J.stop xs.length H
theorem Ms{K:PySem.W.Frag}{a:Addr}{xs:List V}:(Itl K a).Of (fun H=>v7 K H a xs) xs :=
 ⟨fun i H h hi=>⟨xs,xs[i],h,by simp[hi]⟩,fun i H x H' h _ y=>⟨y.1,y.2 xs h⟩,fun H h=>⟨xs,h,Nat.le_refl _⟩⟩
theorem RK{K:PySem.W.Frag}{a:Addr}{xs:List V}:(Itt K a).Of (fun H=>CV K H a xs) xs :=
 ⟨fun i H h hi=>⟨xs,xs[i],h,by simp[hi]⟩,fun i H x H' h _ y=>⟨y.1,y.2 xs h⟩,fun H h=>⟨xs,h,Nat.le_refl _⟩⟩
def J2(lo:Int)(n:Nat):List V:=(List.range n).map fun i=>V.int (lo+(i:Nat))
theorem Ao(lo:Int)(n:Nat):(J2 lo n).length=n:=by simp[J2]
theorem Rb{lo:Int}{n i:Nat}(h:i < n):(J2 lo n)[i]? = some (.int (lo+i)):=by simp[J2,h]
theorem RM{lo:Int}{n:Nat}:(Itr lo n).Of (fun _=>True) (J2 lo n) :=
 ⟨fun i H _ hi=>by rw[Ao] at hi;exact hi,fun i H x H' _ hi y=>⟨y.1,by rw[Ao] at hi;rw[y.2];exact Rb hi⟩,fun H _=>by rw[Ao];exact Nat.le_refl _⟩
end L2
namespace L2
open PySem PySem.Spec PyProof.Rows
def sgn(c:Nat):V:=.str ⟨#[c]⟩
def JZ(x:Str):List V:=x.cps.toList.map sgn
theorem Hq(x:Str):(JZ x).length=x.length:=by simp[JZ,Str.length]
def Z4(x:Str):It:=⟨fun i _=>i < x.length,fun i H y H'=>H'=H∧(JZ x)[i]? = some y,fun i _=>i=x.length⟩
theorem RL{x:Str}:(Z4 x).Of (fun _=>True) (JZ x) :=
 ⟨fun i H _ hi=>by rw[Hq] at hi;exact hi,fun i H y H' _ _ h=>h,fun H _=>Hq x⟩
theorem Hf{P:Program}{w:World}{K:PySem.W.Frag}{tg:Expr}(it:Addr)(x:Str)(t:Tok)(ty:String)
 (hty:["enumerate", "zip", "dict_itemiterator", "dict_reverseitemiterator", "odict_iterator", "itertools.zip_longest", "itertools.pairwise"].contains ty=false)
 (W:∀ A':Around,A'.handled=none→Walks P w A' it [it] [it] x.cps.size (SignAt x) (fun i h=>h.IsStrIter it ty x t i))
 (sf:∀ (A:Around) (i:Nat) (s:Shared) (Q:Value→Shared→Prop) (E:Value→Shared→Prop),s.heap.IsStrIter it ty x t i→Q (.ref it) s→wpAny (model P w) A (pyIter (.ref it)) Q E s) :
 Turn P w K tg (Z4 x) [it] it (fun i h=>h.IsStrIter it ty x t i) where
 mem:=by simp
 obj:=fun i h st b hb=>by
  have e:b=it:=by simpa using hb
  subst e
  obtain⟨o,e,c,d⟩:=st
  exact⟨o,e,fun v z=>by rw[d] at z;cases z⟩
 keep:=fun i h h' st k=>let ⟨o,ho,r⟩:=st;⟨o,k it (by simp) o ho,r⟩
 item:=by
  intro X hP hw hK hc i pins s σ H E I hf st hg
  subst hP hw hK
  obtain⟨f0,f1,f2,f3,f4,f5⟩:=hf it (by simp)
  refine(W X.A (I.ok.hd hc)).item i s _ _ hg st fun v h' tk hv st' kk=>?_
  obtain⟨c,u,e,rfl⟩:=hv
  have I1:Inv X pins σ H { s with heap:=h',toks:=tk }:=I.turned (fun b o hb e=>kk b o (by simpa using hb) e) f0 f1 f3 f4 f5
  obtain⟨o,e',c',d'⟩:=id st'
  refine⟨_,rfl,Nh (s:={ s with heap:=h',toks:=tk }) e' c' d' hty ⟨sgn c,H,I1,⟨u,rfl⟩,⟨rfl,?_⟩,st',fun b hb=>(hf b hb).1⟩⟩
  unfold JZ
  rw[List.getElem?_map,Array.getElem?_toList,e]
  rfl
 done:=by
  intro X hP hw hK hc i pins s σ H E I hf st hg
  subst hP hw hK
  obtain⟨f0,f1,f2,f3,f4,f5⟩:=hf it (by simp)
  have hg:i=x.length:=hg
  subst hg
  exact(W X.A (I.ok.hd hc)).done s _ _ st fun h' tk kk=>⟨rfl,I.turned (fun b o hb e=>kk b o (by simpa using hb) e) f0 f1 f3 f4 f5⟩
 self:=sf
section
variable{X:Cx}{tg:Expr}
def abg(tl:TE):TI:=fun σ H R=>tl σ H fun x H1=>∃ z,x=.str z∧R (Z4 z) H1
theorem Yq{l:Expr}{tl:TE}(hl:PE X l tl):PI X tg l (abg tl):=by
 intro pins s σ H R I h
 refine gf (hl pins s σ H _ I h) fun v s1 ⟨x,H1,I1,r1,q1⟩=>?_
 obtain⟨z,e,q⟩:=q1
 subst e
 obtain⟨t,rfl⟩:=r1
 cases ha:z.cps.all (· < 128)
 ·refine wpAny_pyIter_wide ha ?_
  refine⟨s1.heap.objs.size,[s1.heap.objs.size],_,Z4 z,H1,rfl,I1.kept (t':=s1.toks) fun b o e=>Heap.get?_push_of_some _ e,Hf _ z t "str_iterator" (by decide) (fun A' hA=>Walks.strWide hA _ z t) (fun _ _ _ _ _ st hQ=>wpAny_pyIter_striter_wide st hQ),⟨_,Heap.get?_push_size _ rfl,rfl,rfl⟩,fun b hb=>?_,q⟩
  have e:b=s1.heap.objs.size:=by simpa using hb
  subst e
  exact I1.wW (Nat.le_refl _) (I1.hok.fresh (Nat.le_refl _))
 ·refine wpAny_pyIter_ascii ha ?_
  refine⟨s1.heap.objs.size,[s1.heap.objs.size],_,Z4 z,H1,rfl,I1.kept (t':=s1.toks) fun b o e=>Heap.get?_push_of_some _ e,Hf _ z t "str_ascii_iterator" (by decide) (fun A' hA=>Walks.strAscii hA _ z t) (fun _ _ _ _ _ st hQ=>wpAny_pyIter_striter_ascii st hQ),⟨_,Heap.get?_push_size _ rfl,rfl,rfl⟩,fun b hb=>?_,q⟩
  have e:b=s1.heap.objs.size:=by simpa using hb
  subst e
  exact I1.wW (Nat.le_refl _) (I1.hok.fresh (Nat.le_refl _))
theorem Ly:∀ {bs:List Bool} {us:List Value},Vals (bs.map V.bl) us→us=bs.map Value.bool
 | [],_,.nil=>rfl
 | b::r,_,.cons q t=>by rw[Ly t,show _=Value.bool b from q];rfl
theorem range_all(bs:List Bool):(List.range bs.length).all (fun i=>bs.getD i false)=bs.all id:=by
 induction bs with
 | nil=>rfl
 | cons b r ih =>
  rw[List.length_cons,List.range_succ_eq_map,List.all_cons,List.all_map,List.all_cons]
  congr 1
def aaT(K:PySem.W.Frag)(f:List Bool→Bool):List V→Hp→VK→Prop:=fun xs H Q=>∃ a bs,xs=[.ref a]∧v7 K H a (bs.map V.bl)∧Q (.bl (f bs)) H
theorem QB{P:Program}{w:World}{A:Around}(bs:List Bool):TruthOf P w A (fun i v=>(bs.map Value.bool).toArray[i]? = some v) (fun i=>bs.getD i false):=by
 intro i v s Q E hv hq
 have:v=.bool (bs.getD i false):=by
  rw[List.getElem?_toArray,List.getElem?_map] at hv
  cases hb:bs[i]? with
  | none=>rw[hb] at hv;cases hv
  | some b =>
   rw[hb] at hv
   rw[List.getD_eq_getElem?_getD,hb]
   exact(Option.some.inj hv).symm
 subst this
 exact wpAny_truthy_bool hq
theorem Je(hc:X.calm=true):lL X (.builtin "all") (aaT X.K (·.all id)):=by
 intro pins s σ H xs us Q I r h
 obtain⟨a,bs,rfl,hq,q⟩:=h
 obtain⟨u,rfl,ru⟩:=vals1 r
 cases ru
 obtain⟨its,rv,p,hz⟩:=I.list hq
 have e:=Ly rv
 subst e
 have hlt:a < s.heap.objs.size:=by obtain⟨o,n,e,_⟩:=p;exact Heap.lt_size e
 refine call_all_walk (wpAny_pyIter_list p.isList ⟨_,_,_,_,_,_,fun i=>bs.getD i false,rfl,Walks.list (A:=X.A.in1) (I.ok.hd hc) _ a (Nat.ne_of_lt hlt) (bs.map Value.bool).toArray,⟨⟨_,Heap.get?_push_size _ rfl,rfl,rfl⟩,(p.keeps fun b o e=>Heap.get?_push_of_some _ e).isList⟩,QB bs,fun h' tk kk=>?_⟩)
 refine⟨.bl (bs.all id),H,I.kept fun b o e=>kk b o (by simpa using Nat.ne_of_lt (Heap.lt_size e)) (Heap.get?_push_of_some _ e),?_,q⟩
 show Value.bool _=Value.bool _
 rw[← range_all]
 simp
theorem O1:qU X (compareOp .Gt) (fun x y H Q=>∃ i j,x=.str i∧y=.str j∧Q (.bl (decide (j.cps.toList < i.cps.toList))) H):=by
 intro pins s σ H x y v u Q I rx ry h
 obtain⟨i,j,rfl,rfl,q⟩:=h
 obtain⟨t,rfl⟩:=rx
 obtain⟨t',rfl⟩:=ry
 exact PySem.P.gt_str (Gr I q rfl)
def Py(x:Str)(lo hi:Option Int):Str:=⟨((x.cps.toList.drop (HT.vC x.length 0 lo)).take (HT.vC x.length x.length hi - HT.vC x.length 0 lo)).toArray⟩
theorem QV(lo hi:Option Int)(n:Nat):Builtin.Str.strSliceIndices lo hi 1 n=(List.range (HT.vC n n hi - HT.vC n 0 lo)).map (fun k=>HT.vC n 0 lo+k):=by
 have h1:∀ (v:Option Int) (d:Nat),d≤n→(match v with|none=>(d:Int)|some i=>max 0 (min (if i < 0 then i+(n:Int) else i) (n:Int)))=((HT.vC n d v:Nat):Int):=by
  intro v d hd
  cases v with
  | none=>rfl
  | some i =>
   show max 0 (min (if i < 0 then i+(n:Int) else i) (n:Int))=(((if i < 0 then (i+(n:Int)).toNat else min i.toNat n):Nat):Int)
   by_cases hv:i < 0
   ·simp only[if_pos hv];omega
   ·simp only[if_neg hv];omega
 have fin:∀ (p q:Int) (a b:Nat),p=(a:Int)→q=(b:Int)→sliceRange p q 1=(List.range (b - a)).map (fun k=>a+k):=by
  intro p q a b e1 e2
  subst e1 e2
  unfold sliceRange
  simp only[show ((1:Int) > 0)=True from by simp,if_true]
  by_cases hlt:(a:Int) < b
  ·have e3:(((b:Int) - a+1 - 1) / 1).toNat=b - a:=by first|omega|(simp;done)|(simp;omega)
   simp only[hlt,if_true,e3]
   refine List.map_congr_left fun k _=>?_
   omega
  ·have:b - a=0:=by omega
   simp[hlt,this]
 unfold Builtin.Str.strSliceIndices
 refine fin _ _ _ _ ?_ ?_
 ·have:=h1 lo 0 (Nat.zero_le _)
  cases lo with
  | none=>exact this
  | some i=>exact this
 ·have:=h1 hi n (Nat.le_refl _)
  cases hi with
  | none=>exact this
  | some i=>exact this
theorem Oe(x:Str)(lo hi:Option Int):Txt.slice x lo hi=Py x lo hi:=by
 have hle:HT.vC x.length x.length hi≤x.length:=HT.Q8 _ _ (Nat.le_refl _) hi
 have ha:HT.vC x.length 0 lo≤x.length:=HT.Q8 _ _ (Nat.zero_le _) lo
 unfold Txt.slice Py
 rw[QV]
 generalize HT.vC x.length 0 lo=a at *
 generalize HT.vC x.length x.length hi=b at *
 have hp:((List.range (b - a)).map (fun k=>a+k)).filterMap (fun i=>x.cps[i]?)=(x.cps.toList.drop a).take (b - a):=by
  have h:=StrLaws.picks x.cps.toList (b - a) a (by simp[Str.length] at hle ha ⊢;omega)
  simpa using h
 split
 ·rename_i h
  simp only[List.length_map,List.length_range,beq_self_eq_true,Bool.true_and,beq_iff_eq] at h
  have e:a=0∨x.length=0:=by omega
  have e2:(x.cps.toList.drop a).take (b - a)=x.cps.toList:=by
   rw[h]
   rcases e with e|e
   ·subst e
    rw[List.drop_zero]
    exact List.take_of_length_le (by simp[Str.length])
   ·have:x.cps.toList=[]:=List.eq_nil_of_length_eq_zero (by simpa [Str.length] using e)
    rw[this];simp
  rw[e2]
 ·rw[hp]
def aaE:V→Option Int→Option Int→Hp→VK→Prop:=fun x lo hi H Q=>∃ z,x=.str z∧z.length≤sizeLine∧Q (.str (Py z lo hi)) H
theorem Yg:Xy X aaE:=by
 intro pins s σ H x v vl vu lo hi sl Q I rx hs pl pu h
 obtain⟨z,rfl,hz,q⟩:=h
 obtain⟨t,rfl⟩:=rx
 have fin:∀ (l u:Option (Int×Tok)),vl=partValue l→vu=partValue u→lo=l.map (·.1)→hi=u.map (·.1) →
  wpAny (model X.prog X.w) X.A (getItem (.str z t) (.ref sl)) (EP X pins σ Q) X.xe s:=by
  intro l u e1 e2 e3 e4
  subst e1 e2 e3 e4
  refine wpAny_getItem_str_slice (l:=l) (u:=u) (st:=none) hs rfl ?_
  refine post_val_or_str ⟨Nat.le_trans (Txt.slice_le z _ _) hz,fun t' k=>?_⟩
  refine⟨.str (Py z _ _),H,I.tok k,⟨t',?_⟩,q⟩
  show Value.str (Txt.slice z _ _) t'=_
  rw[Oe]
 refine⟨"str", _,F.slot_str_getitem.lookup,typeIs_str _ _ _,?_⟩
 cases pl with
 | none=>cases pu with
  | none=>exact fin none none rfl rfl rfl rfl
  | int j tj=>exact fin none (some (j,tj)) rfl rfl rfl rfl
 | int i ti=>cases pu with
  | none=>exact fin (some (i,ti)) none rfl rfl rfl rfl
  | int j tj=>exact fin (some (i,ti)) (some (j,tj)) rfl rfl rfl rfl
def aaR(neg:Bool):R2:=fun x y H Q=>∃ c z,x=sgn c∧y=.str z∧Q (.bl (if neg then !decide (c∈z.cps.toList) else decide (c∈z.cps.toList))) H
theorem YB:qU X (compareOp .In) (aaR false):=by
 intro pins s σ H x y v u Q I rx ry h
 obtain⟨c,z,rfl,rfl,q⟩:=h
 refine OJ pins s σ H _ _ v u Q I rx ry ⟨_,z,rfl,rfl,?_⟩
 rw[StrLaws.found_one];exact q
def aaO(K:PySem.W.Frag):List V→Hp→VK→Prop:=fun xs H Q=>∃ x t T b,xs=[x,.ty T]∧uR K H x t∧PySem.W.kitOne K t (.type T)=some b∧Q (.bl b) H
theorem mZ:lL X (.builtin "isinstance") (aaO X.K):=by
 intro pins s σ H xs us Q I r h
 obtain⟨x,t,T,b,rfl,ty,e,q⟩:=h
 obtain⟨u,w',rfl,rx,rt⟩:=vals2 r
 cases (show w'=Value.type T from rt)
 exact Pg I rx ty e fun tk=>⟨.bl b,H,I.tok tk,rfl,q⟩
end
end L2
namespace L2
open PySem PySem.Spec PyProof.Rows
def Ua(osc:Scope)(N N':List Str)(ρ : List (Option Nat))(sc:Scope):Bool :=
 sc.names.all (fun y=>!(decide (y.2=.cell))) && sc.names.all (fun y=>!(decide (y.2=.local)) || decide (sc.names.lookup y.1=some .local)) &&
 sc.names.all (fun y=>!(decide (y.2=.free)) || (decide (osc.names.lookup y.1=some .cell) || decide (osc.names.lookup y.1=some .free))) &&
 decide (ρ.length=N'.length) && (List.range ρ.length).all fun i=>match ρ[i]? with
  | some (some j)=>(match N'[i]? with|some x=>decide (N[j]? = some x) && decide (sc.names.lookup x=some .free)|none=>false)
  | _=>true
theorem gH.of{X:Cx}{N':List Str}{ρ : List (Option Nat)}{sc:Scope}(hk:sc.kind=.function)(h:Ua X.env.scope X.N N' ρ sc=true):gH X N' ρ sc:=by
 unfold Ua at h
 simp only[Bool.and_eq_true,List.all_eq_true,Bool.or_eq_true,Bool.not_eq_true',decide_eq_true_eq,decide_eq_false_iff_not] at h
 obtain⟨⟨⟨⟨h1,h2⟩,h3⟩,h4⟩,h5⟩:=h
 refine⟨hk,fun y hy=>h1 y hy,fun y hy e=>(h2 y hy).resolve_left (fun z=>z e),fun y hy e=>(h3 y hy).resolve_left (fun z=>z e),h4,fun i j e=>?_⟩
 have hi:i < ρ.length:=(List.getElem?_eq_some_iff.mp e).1
 have q:=h5 i (List.mem_range.mpr hi)
 rw[e] at q
 cases hN:N'[i]? with
 | none=>rw[hN] at q;cases q
 | some x =>
  rw[hN] at q
  simp only[Bool.and_eq_true,decide_eq_true_eq] at q
  exact⟨x,rfl,q.1,q.2⟩
structure pQ(P:Program)(w:World)(K:PySem.W.Frag)(mg:Str→Option Value)(base:Heap)(CX:G4)(k:Nat)(x:Str)(ps:List Str)(sp:Sp):Prop where
 ex:∃ (f:Addr) (fd:FuncData),mg x=some (.ref f)∧PySem.W.keepIn K (.ref f)=true∧Binds K fd ps []∧eY P w K mg base CX k f fd ps sp
theorem bO{X:Cx}{CX:G4}{k:Nat}{x:Str}{ps:List Str}{sp:Sp}{E:XK}{e:Expr}{es:List Expr}{t:TA}{p pos:Pos}(C:pQ X.prog X.w X.K X.mg X.base CX k x ps sp)(hr:j9 k X.A)(hg:Gl X x)(hx:Cm CX X E)
 (ha:PA X (e::es) t) (hdb:(x == ("__debug__" : Str))=false:=by decide) (he:starEach (e::es) X.env=(false,eval e X.env)::starEach es X.env:=by rfl) (hpl:(backTo pos (starEach es X.env)).any (·.1)=false:=by rfl) :
 PE X (.Call (.Name x p) (e::es) [] pos) (wu sp [] E t):=by
 obtain⟨f,fd,hm,hk,hb,F⟩:=C.ex
 exact Vp F hr hg hm hk hb .nil hx ha hdb he hpl
theorem qp{X:Cx}{x:Str}{T:String}{pos:Pos}(hg:Gl X x)(hm:X.mg x=none)(hv:bootBuiltins x=some (.type T))(hn:x ≠ "__name__" := by decide)(hd:(x == ("__debug__" : Str))=false:=by decide):PE X (.Name x pos) (tC (.ty T)) :=
 Vr hg hm hv rfl hn hd
structure vd(K:PySem.W.Frag)(mg:Str→Option Value)(x:Str)(st:Stmt)(ps:List Str):Prop where
 ex:∃ (f:Addr) (fd:FuncData),mg x=some (.ref f)∧PySem.W.keepIn K (.ref f)=true∧Binds K fd ps []∧(∀ (s:Shared) (us:List Value),us.length=ps.length→BindsTo s fd ⟨us,[]⟩ (ps.zip us))∧pR K x x st f fd
theorem fY{K:PySem.W.Frag}{h:Heap}{mg:Str→Option Value}{x:Str}{st:Stmt}{ps:List Str}{f:Addr}{oc:Value}{od an:Option Addr}{osl:Array (Option Value)}{kV doc pm cdv ct:Value}(X:K.In h)(G:h.Ns mainGlobals mg)
 (hb:∀ (kV doc pm:Value) (an:Option Addr) (cdv ct:Value) (us:List Value),us.length=ps.length→bindArgs (PySem.W.fnOf x x (nY st) (jG st) (bj st) .none kV doc pm an cdv ct) ⟨us,[]⟩=pure (ps.zip us))
 (a:PySem.W.nsIn K mainGlobals x=some (some (.ref f))) (l:K.lookup f=some ⟨oc,od,.func (PySem.W.fnOf x x (nY st) (jG st) (bj st) .none kV doc pm an cdv ct),osl⟩)
 (c:PySem.W.codeIn K cdv x=true) (k:PySem.W.keepIn K (.ref f)=true):vd K mg x st ps:=by
 have F:=Tt (st:=st) l c k
 exact⟨f,_,PySem.W.mg_of X G a,k,F.binds hb,fun s us hl=>.of_eq (hb kV doc pm an cdv ct us hl),F⟩
theorem vd.cal{P:Program}{w:World}{K:PySem.W.Frag}{mg:Str→Option Value}{base:Heap}{CX:G4}{k:Nat}{x:Str}{st:Stmt}{ps:List Str}{sp:Sp}(F:vd K mg x st ps)(h:∀ f fd,pR K x x st f fd→eY P w K mg base CX k f fd ps sp) :
 pQ P w K mg base CX k x ps sp:=by
 obtain⟨f,fd,h1,h2,h3,_,h4⟩:=F.ex
 exact⟨f,fd,h1,h2,h3,h f fd h4⟩
end L2
namespace Mi
open PySem
inductive D where
 | non|bl (b:Bool)|int (i:Int)|str (x:Str)|lst (ds:List D)|tup (ds:List D)
mutual
def D.dep:D→Nat
 | .lst ds=>dM ds+1
 | .tup ds=>dM ds+1
 | _=>0
def dM:List D→Nat
 | []=>0
 | d::r=>max d.dep (dM r)
end
mutual
/-- Python's == -/
def dH:D→D→Bool
 | .non,.non=>true
 | .bl a,.bl b=>a == b
 | .bl a,.int b=>(if a then 1 else 0) == b
 | .int a,.bl b=>a == (if b then 1 else 0)
 | .int a,.int b=>a == b
 | .str a,.str b=>a == b
 | .lst a,.lst b=>iM a b
 | .tup a,.tup b=>iM a b
 | _,_=>false
def iM:List D→List D→Bool
 | [],[]=>true
 | a::r,b::s=>dH a b && iM r s
 | _,_=>false
end
mutual
/-- no list in it -/
def Xd:D→Bool
 | .lst _=>false
 | .tup ds=>V2 ds
 | _=>true
def V2:List D→Bool
 | []=>true
 | d::r=>Xd d && V2 r
end
def Cz(n:Nat)(i:Int):Option Nat:=if 0≤i then (if i < n then some i.toNat else none) else if -(n:Int)≤i then some (i+n).toNat else none
def yN{α : Type}(xs:List α)(i:Int):Option α:=(Cz xs.length i).bind fun j=>xs[j]?
def vC(n d:Nat):Option Int→Nat
 | none=>d
 | some v=>if v < 0 then (v+(n:Int)).toNat else min v.toNat n
def lM{α : Type}(xs:List α)(lo hi:Option Int):List α:=(xs.drop (vC xs.length 0 lo)).take (vC xs.length xs.length hi - vC xs.length 0 lo)
abbrev Ky:=Sum Int Str
inductive W where
 | d (x:D)|dk (kvs:List (Ky×D))|dt (kvs:List (List Ky×D))|ex (c:String)
abbrev Env:=List (Option W)
structure yR where
 cls:String
 val:List D
inductive Rs(α : Type) where
 | ok (a:α)|ex (x:yR)|no
def Rs.bind{α β : Type}:Rs α→(α→Rs β)→Rs β
 | .ok a,f=>f a
 | .ex x,_=>.ex x
 | .no,_=>.no
@[simp] theorem aA {α β : Type} (a:α) (f:α→Rs β):(Rs.ok a).bind f=f a:=rfl
@[simp] theorem ab0 {α β : Type} (x:yR) (f:α→Rs β):(Rs.ex x).bind f=.ex x:=rfl
@[simp] theorem abZ {α β : Type} (f:α→Rs β):(Rs.no).bind f=.no:=rfl
def Fin{α : Type}(r:Rs α)(k:α→Prop):Prop:=match r with
 | .ok a=>k a
 | _=>False
theorem ao{α β : Type}{r:Rs α}{f:α→Rs β}{k:β→Prop}:Fin (r.bind f) k↔Fin r fun a=>Fin (f a) k:=by cases r<;>exact Iff.rfl
theorem Fin.mono{α : Type}{r:Rs α}{k k':α→Prop}(h:Fin r k)(m:∀ a,k a→k' a):Fin r k':=by
 cases r with
 | ok a=>exact m a h
 | ex x=>exact h
 | no=>exact h
theorem Bx{α : Type}{r s:Rs α}{k:α→Prop}(h:Fin (if true=true then r else s) k):Fin r k:=by simpa using h
theorem By{α : Type}{r s:Rs α}{k:α→Prop}(h:Fin (if false=true then r else s) k):Fin s k:=by simpa using h
theorem jX{α : Type}{a:α}{k:α→Prop}(h:Fin (.ok a) k):k a:=h
def wg{α : Type}:Option α→Rs α
 | some a=>.ok a
 | none=>.no
def aO{α : Type}(c:Prop)[Decidable c](r:Rs α):Rs α:=if c then r else .no
theorem aj{α : Type}{c:Prop}[Decidable c]{r:Rs α}(h:c):aO c r=r:=if_pos h
theorem bx{α : Type}{c:Prop}[Decidable c]{r:Rs α}{k:α→Prop}(h:Fin (aO c r) k):c∧Fin r k:=by
 unfold aO at h
 split at h
 ·exact⟨‹_›,h⟩
 ·exact h.elim
abbrev E:=Env→Rs D
abbrev C:=Env→Rs Bool
def mC(d:D):E:=fun _=>.ok d
def mV(i:Nat):E:=fun e=>match e[i]? with
 | some (some (.d x))=>.ok x
 | _=>.no
def m1(f:D→Rs D)(a:E):E:=fun e=>(a e).bind f
def m2(f:D→D→Rs D)(a b:E):E:=fun e=>(a e).bind fun x=>(b e).bind fun y=>f x y
def jj:List E→Env→Rs (List D)
 | [],_=>.ok []
 | a::r,e=>(a e).bind fun x=>(jj r e).bind fun xs=>.ok (x::xs)
def mN(f:List D→Rs D)(as:List E):E:=fun e=>(jj as e).bind f
def dTup(ds:List D):Rs D:=aO (ds.length≤16777216) (.ok (.tup ds))
def ie(ds:List D):Rs D:=aO (ds.length≤16777216) (.ok (.lst ds))
def ZW:D→Rs Bool
 | .bl b=>.ok b
 | _=>.no
def Ge(a b:E):E:=fun e=>(a e).bind fun x=>(ZW x).bind fun c=>if c=true then b e else .ok (.bl false)
def mOr(a b:E):E:=fun e=>(a e).bind fun x=>(ZW x).bind fun c=>if c=true then .ok (.bl true) else b e
def YQ(a:E):E:=fun e=>(a e).bind fun x=>(ZW x).bind fun c=>.ok (.bl (!c))
def YS(c:C)(a b:E):E:=fun e=>(c e).bind fun k=>if k=true then a e else b e
def iI(f g:D→D→Rs D)(a b c:E):E:=fun e=>(a e).bind fun x=>(b e).bind fun y=>(f x y).bind fun z=>(ZW z).bind fun k=>if k=true then (c e).bind fun w=>g y w else .ok (.bl false)
def Wq:D→Rs Int
 | .int i=>.ok i
 | _=>.no
def nO:Option E→Env→Rs (Option Int)
 | none,_=>.ok none
 | some a,e=>(a e).bind fun x=>(Wq x).bind fun i=>.ok (some i)
def f9(x:Str)(lo hi:Option Int):Str:=⟨(lM x.cps.toList lo hi).toArray⟩
def kY(x:D)(lo hi:Option Int):Rs D:=match x with
 | .lst ds=>.ok (.lst (lM ds lo hi))
 | .str z=>aO (z.length≤16777216) (.ok (.str (f9 z lo hi)))
 | _=>.no
def acD(x:D)(lo hi:Option Int):Rs D:=match x with
 | .lst ds=>.ok (.lst (lM ds lo hi))
 | _=>.no
def dY(f:D→Option Int→Option Int→Rs D)(a:E)(lo hi:Option E):E:=fun e=>(a e).bind fun x=>(nO lo e).bind fun l=>(nO hi e).bind fun h=>f x l h
def cB(a:E):C:=fun e=>(a e).bind ZW
def nF(a b:C):C:=fun e=>(a e).bind fun c=>if c=true then b e else .ok false
def xf(a b:C):C:=fun e=>(a e).bind fun c=>if c=true then .ok true else b e
def mF(a:C):C:=fun e=>(a e).bind fun c=>.ok (!c)
def ZC:D→Rs Bool
 | .non=>.ok false
 | .bl b=>.ok b
 | .int i=>.ok (i != 0)
 | .str y=>aO (y.length≤16777216) (.ok ((y.length:Int) != 0))
 | .lst ds=>.ok (!ds.isEmpty)
 | .tup ds=>.ok (!ds.isEmpty)
def La(a:E):C:=fun e=>(a e).bind ZC
abbrev I:=Env→Rs (List D)
def BL:D→Rs (List D)
 | .lst ds=>.ok ds
 | .tup ds=>.ok ds
 | .str x=>.ok (x.cps.toList.map fun c=>.str ⟨#[c]⟩)
 | _=>.no
def rF(a:E):I:=fun e=>(a e).bind BL
def dD(lo hi:Int):List D:=(List.range (hi - lo).toNat).map fun k=>.int (lo+(k:Nat))
def okR(i:Int):Prop:=-(2 ^ 62)≤i∧i < 2 ^ 62
instance (i:Int):Decidable (okR i):=inferInstanceAs (Decidable (_∧_))
def ik(a:E):I:=fun e=>(a e).bind fun x=>(Wq x).bind fun j=>aO (okR j) (.ok (dD 0 j))
def Gp(a b:E):I:=fun e=>(a e).bind fun x=>(b e).bind fun y=>(Wq x).bind fun i=>(Wq y).bind fun j=>aO (okR i∧okR j) (.ok (dD i j))
def qG(k:Nat):List D→List D
 | []=>[]
 | d::r=>.tup [.int k,d]::qG (k+1) r
def iV:D→Rs (List D)
 | .lst ds=>.ok ds
 | _=>.no
def yH(a:E):I:=fun e=>(a e).bind fun x=>(iV x).bind fun ds=>.ok (qG 0 ds)
def o6:List D→List D→List D
 | a::r,b::s=>.tup [a,b]::o6 r s
 | _,_=>[]
def Tf(a b:E):I:=fun e=>(a e).bind fun x=>(b e).bind fun y=>(iV x).bind fun ds=>(iV y).bind fun es=>.ok (o6 ds es)
def Xk:List D→List D→List D→List D
 | a::r,b::s,c::t=>.tup [a,b,c]::Xk r s t
 | _,_,_=>[]
def Te(a b c:E):I:=fun e=>(a e).bind fun x=>(b e).bind fun y=>(c e).bind fun z=>(iV x).bind fun ds=>(iV y).bind fun es=>(iV z).bind fun fs=>.ok (Xk ds es fs)
inductive Tg where
 | n (i:Nat)|t (is:List Nat)
def qY:List Nat→List D→Env→Rs Env
 | [],[],e=>.ok e
 | i::is,d::ds,e=>qY is ds (e.set i (some (.d d)))
 | _,_,_=>.no
def Tg.put:Tg→D→Env→Rs Env
 | .n i,d,e=>.ok (e.set i (some (.d d)))
 | .t is,.tup ds,e=>qY is ds e
 | _,_,_=>.no
def qm(ρ : List (Option Nat))(e:Env):Env:=ρ.map fun o=>o.bind fun j=>(e[j]?).join
def gC(tg:Tg)(c:C)(a:E)(e:Env):List D→Rs (List D)
 | []=>.ok []
 | x::r=>(tg.put x e).bind fun e1=>(c e1).bind fun k=>if k=true then (a e1).bind fun y=>(gC tg c a e r).bind fun ys=>.ok (y::ys) else gC tg c a e r
def jq:C:=fun _=>.ok true
def gr(ρ : List (Option Nat))(it:I)(tg:Tg)(c:C)(a:E):E:=fun e=>(it e).bind fun xs=>aO (xs.length≤16777216) ((gC tg c a (qm ρ e) xs).bind fun ys=>.ok (.lst ys))
abbrev Fn:=List W→Rs W
abbrev EW:=Env→Rs W
def wD(a:E):EW:=fun e=>(a e).bind fun x=>.ok (.d x)
def wV(i:Nat):EW:=fun e=>match e[i]? with
 | some (some w)=>.ok w
 | _=>.no
def bQ:List EW→Env→Rs (List W)
 | [],_=>.ok []
 | a::r,e=>(a e).bind fun x=>(bQ r e).bind fun xs=>.ok (x::xs)
def nM(f:Fn)(as:List EW):EW:=fun e=>(bQ as e).bind f
def asD:W→Rs D
 | .d x=>.ok x
 | _=>.no
def bh(f:Fn)(as:List EW):E:=fun e=>(nM f as e).bind asD
def Uo:W→Rs D
 | .d x=>aO (Xd x=true) (.ok x)
 | _=>.no
def oG(f:Fn)(as:List EW):E:=fun e=>(nM f as e).bind Uo
inductive Out where
 | nx (e:Env)|rt (w:W)|bk (e:Env)|ct (e:Env)
abbrev S:=Env→Rs Out
def aX:S:=fun e=>.ok (.nx e)
def aV(s t:S):S:=fun e=>(s e).bind fun o=>match o with
 | .nx e'=>t e'
 | o=>.ok o
def yE(i:Nat)(a:EW):S:=fun e=>(a e).bind fun w=>.ok (.nx (e.set i (some w)))
def bV(i:Nat)(a:E):S:=fun e=>(a e).bind fun d=>.ok (.nx (e.set i (some (.d d))))
def Yi(tg:Tg)(a:E):S:=fun e=>(a e).bind fun d=>(tg.put d e).bind fun e'=>.ok (.nx e')
def qe(a:E):S:=fun e=>(a e).bind fun _=>.ok (.nx e)
def cY(a:EW):S:=fun e=>(a e).bind fun w=>.ok (.rt w)
def Q5:S:=fun _=>.ok (.rt (.d .non))
def fL(c:C)(s t:S):S:=fun e=>(c e).bind fun k=>if k=true then s e else t e
def jY:S:=fun _=>.no
def kW(tg:Tg)(body:S):List D→Env→Rs Out
 | [],e=>.ok (.nx e)
 | x::r,e=>(tg.put x e).bind fun e1=>(body e1).bind fun o=>match o with
  | .nx e2=>kW tg body r e2
  | .ct e2=>kW tg body r e2
  | .bk e2=>.ok (.nx e2)
  | .rt w=>.ok (.rt w)
def oA(it:I)(tg:Tg)(body:S):S:=fun e=>(it e).bind fun xs=>kW tg body xs e
def lV(c:C)(body:S):Nat→Env→Rs Out
 | 0,_=>.no
 | n+1,e=>(c e).bind fun k=>if k=true then (body e).bind fun o=>match o with
  | .nx e2=>lV c body n e2
  | .ct e2=>lV c body n e2
  | .bk e2=>.ok (.nx e2)
  | .rt w=>.ok (.rt w)
  else .ok (.nx e)
def xT(n:Nat)(c:C)(body:S):S:=lV c body n
def getL(e:Env)(i:Nat):Rs (List D):=match e[i]? with
 | some (some (.d (.lst ds)))=>.ok ds
 | _=>.no
def putL(e:Env)(i:Nat)(ds:List D):Env:=e.set i (some (.d (.lst ds)))
def dG(i:Nat)(a:E):S:=fun e=>(a e).bind fun d=>(getL e i).bind fun ds=>aO (ds.length < 16777216) (.ok (.nx (putL e i (ds++[d]))))
def Fi(i:Nat)(a:E):S:=fun e=>(a e).bind fun d=>(getL e i).bind fun ds=>match d with
 | .lst xs=>aO (ds.length+xs.length≤16777216) (.ok (.nx (putL e i (ds++xs))))
 | _=>.no
def An(i:Nat):S:=fun e=>(getL e i).bind fun ds=>.ok (.nx (putL e i ds.reverse))
def J1(i:Nat):S:=fun e=>(getL e i).bind fun ds=>.ok (.nx (putL e i []))
def Yj(x y:Nat):S:=fun e=>(getL e y).bind fun ds=>(wg ds[ds.length - 1]?).bind fun d=>.ok (.nx ((putL e y ds.dropLast).set x (some (.d d))))
def Hz(ds:List D)(i:Int):Rs (D×List D):=aO (-(2 ^ 63)≤i∧i < 2 ^ 63) ((wg (Cz ds.length i)).bind fun k=>(wg ds[k]?).bind fun d=>.ok (d,ds.eraseIdx k))
def J0(x y:Nat)(k:E):S:=fun e=>(k e).bind fun z=>(Wq z).bind fun i=>(getL e y).bind fun ds=>(Hz ds i).bind fun p=>.ok (.nx ((putL e y p.2).set x (some (.d p.1))))
def jZ(x y:Nat)(k:E):S:=fun e=>(k e).bind fun z=>(Wq z).bind fun i=>(getL e y).bind fun ds=>(Hz ds i).bind fun p=>(getL (putL e y p.2) x).bind fun es =>
 aO (es.length < 16777216) (.ok (.nx (putL (putL e y p.2) x (es++[p.1]))))
def vB(x:Nat)(k a:E):S:=fun e=>(a e).bind fun d=>(k e).bind fun z=>(Wq z).bind fun i=>(getL e x).bind fun ds=>(wg (Cz ds.length i)).bind fun j=>.ok (.nx (putL e x (ds.set j d)))
def Q7(x y:Nat):S:=fun e=>match e[y]? with
 | some (some w)=>.ok (.nx ((e.set y none).set x (some w)))
 | _=>.no
def Pu:D→Option Ky
 | .int i=>some (.inl i)
 | .str x=>some (.inr x)
 | _=>none
def Dy:List D→Option (List Ky)
 | []=>some []
 | d::r=>match Pu d,Dy r with
  | some k,some ks=>some (k::ks)
  | _,_=>none
def Cv{κ : Type}[DecidableEq κ](kvs:List (κ×D))(k:κ):Option D:=(kvs.find? fun kv=>decide (kv.1=k)).map (·.2)
def Wh(w:W)(k:D):Rs (Option D):=match w with
 | .dk kvs=>(wg (Pu k)).bind fun k=>.ok (Cv kvs k)
 | .dt kvs=>match k with
  | .tup ds=>(wg (Dy ds)).bind fun k=>.ok (Cv kvs k)
  | _=>.no
 | _=>.no
def putK{κ : Type}[DecidableEq κ](k:κ)(v:D)(kvs:List (κ×D)):List (κ×D) :=
 if (kvs.any fun kv=>decide (kv.1=k))=true then kvs.map (fun kv=>if kv.1=k then (kv.1,v) else kv) else kvs++[(k,v)]
def ZD(w:W)(k v:D):Rs W:=match w with
 | .dk kvs=>aO (kvs.length < 16777216) ((wg (Pu k)).bind fun k=>.ok (.dk (putK k v kvs)))
 | .dt kvs=>match k with
  | .tup ds=>aO (kvs.length < 16777216) ((wg (Dy ds)).bind fun k=>.ok (.dt (putK k v kvs)))
  | _=>.no
 | _=>.no
def qy(i:Nat)(k:E):E:=fun e=>(k e).bind fun d=>(wV i e).bind fun w=>(Wh w d).bind fun o=>.ok (.bl o.isSome)
def Gd(i:Nat)(k:E):E:=fun e=>(k e).bind fun d=>(wV i e).bind fun w=>(Wh w d).bind fun o=>.ok (.bl (!o.isSome))
def R8(i:Nat)(k:E):E:=fun e=>(k e).bind fun d=>(wV i e).bind fun w=>(Wh w d).bind wg
def iK(i:Nat)(k v:E):S:=fun e=>(v e).bind fun x=>(k e).bind fun d=>(wV i e).bind fun w=>(ZD w d x).bind fun w'=>.ok (.nx (e.set i (some w')))
def tU:Out→Rs W
 | .rt w=>.ok w
 | .nx _=>.ok (.d .non)
 | _=>.no
def uK(k n:Nat)(body:S):Fn:=fun ws=>aO (ws.length=k) ((body (ws.map some++List.replicate (n - ws.length) none)).bind tU)
def nA:Out→Rs W
 | .rt w=>.ok w
 | _=>.no
def Tv(k n:Nat)(body:S):Fn:=fun ws=>aO (ws.length=k) ((body (ws.map some++List.replicate (n - ws.length) none)).bind nA)
def fnZ:Fn:=fun _=>.no
def uV(i j:Int):Prop:=(-(2 ^ 64) < i∧i < 2 ^ 64)∨(-(2 ^ 64) < j∧j < 2 ^ 64)
instance (i j:Int):Decidable (uV i j):=inferInstanceAs (Decidable (_∨_))
def qu(j:Int):Prop:=0 < j∧j.natAbs.log2 < 9000
instance (j:Int):Decidable (qu j):=inferInstanceAs (Decidable (_∧_))
def W8(i j:Int):Prop:=0≤j∧j≤1000000∧i.natAbs < 2 ^ 64
instance (i j:Int):Decidable (W8 i j):=inferInstanceAs (Decidable (_∧_))
def bU:D→D→Rs D
 | .int i,.int j=>.ok (.int (i+j))
 | .str i,.str j=>aO (i.length+j.length≤16777216) (.ok (.str (i++j)))
 | .lst i,.lst j=>aO (i.length+j.length≤16777216) (.ok (.lst (i++j)))
 | _,_=>.no
def za:D→D→Rs D
 | .int i,.int j=>.ok (.int (i - j))
 | _,_=>.no
def dCat:D→D→Rs D
 | .lst i,.lst j=>aO (i.length+j.length≤16777216) (.ok (.lst (i++j)))
 | _,_=>.no
def dF:D→D→Rs D
 | .int i,.int j=>aO (uV i j) (.ok (.int (i * j)))
 | _,_=>.no
def cJ:D→D→Rs D
 | .int i,.int j=>aO (qu j) (.ok (.int (i / j)))
 | _,_=>.no
def bI:D→D→Rs D
 | .int i,.int j=>aO (0 < j) (.ok (.int (i % j)))
 | _,_=>.no
def T4:D→D→Rs D
 | .int i,.int j=>aO (W8 i j) (.ok (.int (i ^ j.toNat)))
 | _,_=>.no
def We:D→Rs D
 | .int i=>.ok (.int (-i))
 | _=>.no
def sG:D→D→Rs D
 | .int i,.int j=>.ok (.bl (decide (i < j)))
 | .str i,.str j=>.ok (.bl (decide (i.cps.toList < j.cps.toList)))
 | _,_=>.no
def zb:D→D→Rs D
 | .int i,.int j=>.ok (.bl (decide (j < i)))
 | .str i,.str j=>.ok (.bl (decide (j.cps.toList < i.cps.toList)))
 | _,_=>.no
def G5:D→D→Rs D
 | .int i,.int j=>.ok (.bl (decide (i≤j)))
 | _,_=>.no
def dGe:D→D→Rs D
 | .int i,.int j=>.ok (.bl (decide (j≤i)))
 | _,_=>.no
def rQ(x y:D):Rs D:=aO (x.dep≤16) (.ok (.bl (dH x y)))
def BK(x y:D):Rs D:=aO (x.dep≤16) (.ok (.bl (!dH x y)))
def wU:D→Bool
 | .non=>true
 | _=>false
def dIs(x y:D):Rs D:=match y with
 | .non=>.ok (.bl (wU x))
 | _=>.no
def BP(x y:D):Rs D:=match y with
 | .non=>.ok (.bl (!wU x))
 | _=>.no
def Ja(x y:D):Rs D:=match y with
 | .lst ds=>aO (dM ds≤16) (.ok (.bl (ds.any fun e=>dH e x)))
 | .tup ds=>aO (dM ds≤16) (.ok (.bl (ds.any fun e=>dH e x)))
 | .str z=>match x with
  | .str s=>aO (s.length=1) (.ok (.bl (decide (s.cps.getD 0 0∈z.cps.toList))))
  | _=>.no
 | _=>.no
def fZ(x y:D):Rs D:=match y with
 | .lst ds=>aO (dM ds≤16) (.ok (.bl (!ds.any fun e=>dH e x)))
 | .tup ds=>aO (dM ds≤16) (.ok (.bl (!ds.any fun e=>dH e x)))
 | _=>.no
def dU(x y:D):Rs D:=match x,y with
 | .lst ds,.int i=>wg (yN ds i)
 | .tup ds,.int i=>wg (yN ds i)
 | .str z,.int i=>aO (z.length≤16777216) ((wg (yN z.cps.toList i)).bind fun c=>.ok (.str ⟨#[c]⟩))
 | _,_=>.no
def cZ:List D→Rs D
 | [.lst ds]=>.ok (.int ds.length)
 | [.tup ds]=>.ok (.int ds.length)
 | [.str z]=>aO (z.length≤16777216) (.ok (.int z.length))
 | _=>.no
def vR:List D→Rs D
 | [.int i,.int j]=>.ok (.int (max i j))
 | _=>.no
def CQ:List D→Rs D
 | [.int i,.int j]=>.ok (.int (min i j))
 | _=>.no
def Cg:List D→Option (List Bool)
 | []=>some []
 | .bl b::r=>(Cg r).map (b :: ·)
 | _=>none
def Lb:List D→Rs D
 | [.lst ds]=>(wg (Cg ds)).bind fun bs=>.ok (.bl (bs.all id))
 | _=>.no
def acH:List D→Rs D
 | [.lst ds]=>(wg (Cg ds)).bind fun bs=>.ok (.bl (bs.any id))
 | _=>.no
def qK:List D→Rs D
 | [.lst ds]=>.ok (.lst ds)
 | [.tup ds]=>.ok (.lst ds)
 | _=>.no
def pM:List D→Rs D
 | [.lst ds]=>.ok (.tup ds)
 | [.tup ds]=>.ok (.tup ds)
 | _=>.no
def abw:List D→Rs D
 | [.int i]=>.ok (.int i)
 | [.bl k]=>.ok (.int (if k then 1 else 0))
 | _=>.no
def Bp(t:String):D→Bool
 | .non=>false
 | .bl _=>t == "bool" || t == "int"
 | .int _=>t == "int"
 | .str _=>t == "str"
 | .lst _=>t == "list"
 | .tup _=>t == "tuple"
def JR:D→String
 | .non => "NoneType" | .bl _ => "bool" | .int _ => "int" | .str _ => "str" | .lst _ => "list" | .tup _ => "tuple"
def yq(ts:List String)(x:D):Rs D:=.ok (.bl (ts.any fun t=>Bp t x))
def Ca:List D→Option (List Str)
 | []=>some []
 | .str b::r=>(Ca r).map (b :: ·)
 | _=>none
def Nq(x y:D):Rs D:=match x,y with
 | .str sep,.lst ds=>(wg (Ca ds)).bind fun ys=>aO ((ys.map (·.length)).sum+ys.length * sep.length≤16777216) (.ok (.str (Str.join sep ys)))
 | _,_=>.no
def met(val:Nat→Str):Nat→List Str
 | 0=>[]
 | i+1=>if val i∈met val i then met val i else met val i++[val i]
end Mi
namespace L2
open PySem PySem.Spec PyProof.Rows
open Mi (D dM dH iM)
mutual
theorem xV:∀ d:D,dH d d=true
 | .non=>rfl
 | .bl b=>by simp[dH]
 | .int i=>by simp[dH]
 | .str x=>by simp[dH]
 | .lst ds=>by rw[dH];exact vH ds
 | .tup ds=>by rw[dH];exact vH ds
theorem vH:∀ ds:List D,iM ds ds=true
 | []=>rfl
 | d::r=>by rw[iM,xV d,vH r];rfl
end
theorem qi:∀ {ds es:List D},ds.length≠es.length→iM ds es=false
 | [],[],h=>absurd rfl h
 | [],_::_,_=>rfl
 | _::_,[],_=>rfl
 | d::r,e::s,h=>by rw[iM,qi (fun z=>h (by rw[List.length_cons,List.length_cons,z])),Bool.and_false]
theorem qj:∀ {ds es:List D},ds.length=es.length→iM ds es=(List.range ds.length).all fun j=>dH (ds.getD j .non) (es.getD j .non)
 | [],[],_=>rfl
 | [],_::_,h=>by simp at h
 | _::_,[],h=>by simp at h
 | d::r,e::s,h=>by
  rw[iM,qj (by simpa using h),List.length_cons,List.range_succ_eq_map,List.all_cons,List.all_map]
  rfl
mutual
/-- the value v in the heap H is the tree d -/
def Rep(K:PySem.W.Frag)(H:Hp):D→V→Prop
 | .non,v=>v=.non
 | .bl b,v=>v=.bl b
 | .int i,v=>v=.int i
 | .str x,v=>v=.str x
 | .lst ds,v=>∃ a xs,v=.ref a∧v7 K H a xs∧cX K H ds xs
 | .tup ds,v=>∃ a xs,v=.ref a∧CV K H a xs∧cX K H ds xs
def cX(K:PySem.W.Frag)(H:Hp):List D→List V→Prop
 | [],vs=>vs=[]
 | d::ds,vs=>∃ v r,vs=v::r∧Rep K H d v∧cX K H ds r
end
theorem cX.length{K:PySem.W.Frag}{H:Hp}:∀ {ds:List D} {vs:List V},cX K H ds vs→ds.length=vs.length
 | [],vs,h=>by rw[cX] at h;subst h;rfl
 | d::ds,vs,h=>by
  rw[cX] at h
  obtain⟨v,r,rfl,_,q⟩:=h
  rw[List.length_cons,List.length_cons,cX.length q]
theorem cX.get{K:PySem.W.Frag}{H:Hp}:∀ {ds:List D} {vs:List V} {j:Nat} {v:V},cX K H ds vs→vs[j]? = some v→Rep K H (ds.getD j .non) v
 | [],vs,j,v,h,e=>by rw[cX] at h;subst h;simp at e
 | d::ds,vs,0,v,h,e=>by
  rw[cX] at h
  obtain⟨v',r,rfl,p,q⟩:=h
  simp at e;subst e;exact p
 | d::ds,vs,j+1,v,h,e=>by
  rw[cX] at h
  obtain⟨v',r,rfl,p,q⟩:=h
  have:=cX.get (j:=j) (v:=v) q (by simpa using e)
  simpa using this
section
variable{X:Cx}{pins:List (Addr×Obj)}{σ : St}{H:Hp}{s:Shared}
theorem Inv.Ih(I:Inv X pins σ H s){a:Addr}{xs ys:List V}(h:v7 X.K H a xs)(h':CV X.K H a ys):False:=by
 obtain⟨its,_,p,_⟩:=I.list h
 obtain⟨its',_,q,_⟩:=I.tuple h'
 obtain⟨o,n,e,c,_⟩:=p
 obtain⟨o',e',c',_⟩:=q
 rw[e] at e';cases e'
 rw[c] at c'
 exact absurd (Value.type.inj c') (by decide)
mutual
theorem Rep.inj(I:Inv X pins σ H s):∀ {d e:D} {v:V},Rep X.K H d v→Rep X.K H e v→d=e
 | .non,e,v,h,h'=>by
  rw[Rep] at h;subst h
  cases e<;>rw[Rep] at h'<;>first|rfl|(obtain⟨_,_,z,_⟩:=h';cases z)|cases h'
 | .bl b,e,v,h,h'=>by
  rw[Rep] at h;subst h
  cases e<;>rw[Rep] at h'<;>first|(obtain⟨_,_,z,_⟩:=h';cases z)|(cases h';rfl)|cases h'
 | .int b,e,v,h,h'=>by
  rw[Rep] at h;subst h
  cases e<;>rw[Rep] at h'<;>first|(obtain⟨_,_,z,_⟩:=h';cases z)|(cases h';rfl)|cases h'
 | .str b,e,v,h,h'=>by
  rw[Rep] at h;subst h
  cases e<;>rw[Rep] at h'<;>first|(obtain⟨_,_,z,_⟩:=h';cases z)|(cases h';rfl)|cases h'
 | .lst ds,e,v,h,h'=>by
  rw[Rep] at h
  obtain⟨a,xs,rfl,q,r⟩:=h
  cases e with
  | lst es =>
   rw[Rep] at h'
   obtain⟨a',xs',z,q',r'⟩:=h'
   cases z
   rw[I.wN q' q] at r'
   rw[cX.inj I r r']
  | tup es =>
   rw[Rep] at h'
   obtain⟨a',xs',z,q',r'⟩:=h'
   cases z
   exact(I.Ih q q').elim
  | _=>rw[Rep] at h';cases h'
 | .tup ds,e,v,h,h'=>by
  rw[Rep] at h
  obtain⟨a,xs,rfl,q,r⟩:=h
  cases e with
  | tup es =>
   rw[Rep] at h'
   obtain⟨a',xs',z,q',r'⟩:=h'
   cases z
   rw[I.xJ q' q] at r'
   rw[cX.inj I r r']
  | lst es =>
   rw[Rep] at h'
   obtain⟨a',xs',z,q',r'⟩:=h'
   cases z
   exact(I.Ih q' q).elim
  | _=>rw[Rep] at h';cases h'
theorem cX.inj(I:Inv X pins σ H s):∀ {ds es:List D} {vs:List V},cX X.K H ds vs→cX X.K H es vs→ds=es
 | [],es,vs,h,h'=>by
  rw[cX] at h;subst h
  cases es with
  | nil=>rfl
  | cons e es=>rw[cX] at h';obtain⟨_,_,z,_⟩:=h';cases z
 | d::ds,es,vs,h,h'=>by
  rw[cX] at h
  obtain⟨v,r,rfl,p,q⟩:=h
  cases es with
  | nil=>rw[cX] at h';cases h'
  | cons e es =>
   rw[cX] at h'
   obtain⟨v',r',z,p',q'⟩:=h'
   cases z
   rw[Rep.inj I p p',cX.inj I q q']
end
theorem yj:∀ {ds:List D} {j:Nat},(ds.getD j .non).dep≤dM ds
 | [],j=>by simp[D.dep]
 | d::ds,0=>by simp[dM];omega
 | d::ds,j+1=>by
  have:=yj (ds:=ds) (j:=j)
  have e:(d::ds).getD (j+1) .non=ds.getD j .non:=by simp
  rw[e,dM];omega
def _root_.Mi.D.flat:D→Bool
 | .lst _=>false
 | .tup _=>false
 | _=>true
def _root_.Mi.D.toV:D→V
 | .non=>.non|.bl b=>.bl b|.int i=>.int i|.str x=>.str x|.lst _=>.non|.tup _=>.non
theorem Rep.flat{K:PySem.W.Frag}:∀ {d:D} {v:V},d.flat=true→Rep K H d v→v=d.toV∧Tw v=true
 | .non,v,_,h=>by rw[Rep] at h;subst h;exact⟨rfl,rfl⟩
 | .bl b,v,_,h=>by rw[Rep] at h;subst h;exact⟨rfl,rfl⟩
 | .int b,v,_,h=>by rw[Rep] at h;subst h;exact⟨rfl,rfl⟩
 | .str b,v,_,h=>by rw[Rep] at h;subst h;exact⟨rfl,rfl⟩
 | .lst _,v,z,h=>by cases z
 | .tup _,v,z,h=>by cases z
theorem Ou:∀ {d e:D},d.flat=true→e.flat=true→dH d e=eqV d.toV e.toV:=by
 intro d e h1 h2
 cases d<;>cases e<;>first|rfl|exact absurd (show false=true from h1) Bool.false_ne_true|exact absurd (show false=true from h2) Bool.false_ne_true
open SeqAt in
theorem Tz(I:Inv X pins σ H s):∀ (n:Nat) (d e:D) (A:Around) {x y:V} {u u':Value},d.dep≤n→A.units+n < cLine→Rep X.K H d x→Rep X.K H e y→RelV x u→RelV y u'→EqAt A s u u' (dH d e):=by
 intro n
 induction n using Nat.strongRecOn with
 | ind n ih =>
  intro d e A x y u u' hd hu h h' r r'
  have hu0:A.units < cLine:=by omega
  by_cases hdf:d.flat=true
  ·obtain⟨ex,fx⟩:=h.flat hdf
   subst ex
   by_cases hef:e.flat=true
   ·obtain⟨ey,fy⟩:=h'.flat hef
    subst ey
    rw[Ou hdf hef]
    exact Zy r r' fx fy
   ·cases e with
    | lst es =>
     rw[Rep] at h'
     obtain⟨a,xs,rfl,q,_⟩:=h'
     cases r'
     obtain⟨its,_,p,_⟩:=I.list q
     cases d with
     | non=>cases r;exact EqAt.none_list p.isList hu0
     | bl b=>cases r;exact EqAt.bool_list b p.isList hu0
     | int b=>obtain⟨t,rfl⟩:=r;exact EqAt.int_list b t p.isList hu0
     | str b=>obtain⟨t,rfl⟩:=r;exact EqAt.str_list b t p.isList hu0
     | _=>cases hdf
    | tup es =>
     rw[Rep] at h'
     obtain⟨a,xs,rfl,q,_⟩:=h'
     cases r'
     obtain⟨its,_,p,_⟩:=I.tuple q
     cases d with
     | non=>cases r;exact EqAt.none_tuple p hu0
     | bl b=>cases r;exact EqAt.bool_tuple b p hu0
     | int b=>obtain⟨t,rfl⟩:=r;exact EqAt.int_tuple b t p hu0
     | str b=>obtain⟨t,rfl⟩:=r;exact EqAt.str_tuple b t p hu0
     | _=>cases hdf
    | _=>exact absurd rfl hef
  ·by_cases hef:e.flat=true
   ·obtain⟨ey,fy⟩:=h'.flat hef
    subst ey
    cases d with
    | lst ds =>
     rw[Rep] at h
     obtain⟨a,xs,rfl,q,_⟩:=h
     cases r
     obtain⟨its,_,p,_⟩:=I.list q
     cases e with
     | non=>cases r';exact EqAt.list_none p.isList hu0
     | bl b=>cases r';exact EqAt.list_bool b p.isList hu0
     | int b=>obtain⟨t,rfl⟩:=r';exact EqAt.list_int b t p.isList hu0
     | str b=>obtain⟨t,rfl⟩:=r';exact EqAt.list_str b t p.isList hu0
     | _=>cases hef
    | tup ds =>
     rw[Rep] at h
     obtain⟨a,xs,rfl,q,_⟩:=h
     cases r
     obtain⟨its,_,p,_⟩:=I.tuple q
     cases e with
     | non=>cases r';exact EqAt.tuple_none p hu0
     | bl b=>cases r';exact EqAt.tuple_bool b p hu0
     | int b=>obtain⟨t,rfl⟩:=r';exact EqAt.tuple_int b t p hu0
     | str b=>obtain⟨t,rfl⟩:=r';exact EqAt.tuple_str b t p hu0
     | _=>cases hef
    | _=>exact absurd rfl hdf
   ·-- both are lists or tuples
    have item:∀ {ds es:List D} {xs ys:List V} {its its':List Value},dM ds+1≤n→cX X.K H ds xs→cX X.K H es ys→Vals xs its→Vals ys its' →
     ∀ j (h1:j < its.toArray.size) (h2:j < its'.toArray.size),EqAt A.in1 s its.toArray[j] its'.toArray[j] (dH (ds.getD j .non) (es.getD j .non)):=by
     intro ds es xs ys its its' hn q q' v v' j h1 h2
     have h1':j < its.length:=by simpa using h1
     have h2':j < its'.length:=by simpa using h2
     have e1:j < xs.length:=by rw[v.length];exact h1'
     have e2:j < ys.length:=by rw[v'.length];exact h2'
     have g1:xs[j]? = some xs[j]:=by simp[e1]
     have g2:ys[j]? = some ys[j]:=by simp[e2]
     obtain⟨w1,k1,r1⟩:=v.get g1
     obtain⟨w2,k2,r2⟩:=v'.get g2
     have t1:its.toArray[j]=w1:=by obtain⟨_,k1⟩:=List.getElem?_eq_some_iff.mp k1;simpa using k1
     have t2:its'.toArray[j]=w2:=by obtain⟨_,k2⟩:=List.getElem?_eq_some_iff.mp k2;simpa using k2
     rw[t1,t2]
     have:=yj (ds:=ds) (j:=j)
     refine ih (n - 1) (by omega) _ _ A.in1 (by omega) ?_ (q.get g1) (q'.get g2) r1 r2
     show A.units+1+(n - 1) < cLine
     omega
    cases d with
    | lst ds =>
     rw[Rep] at h
     obtain⟨a,xs,rfl,q,rr⟩:=h
     cases r
     obtain⟨its,v,p,_⟩:=I.list q
     have hn:dM ds+1≤n:=by simpa [D.dep] using hd
     cases e with
     | lst es =>
      rw[Rep] at h'
      obtain⟨b,ys,rfl,q',rr'⟩:=h'
      cases r'
      obtain⟨its',v',p',_⟩:=I.list q'
      by_cases hab:a=b
      ·subst hab
       rw[I.wN q' q] at rr'
       rw[cX.inj I rr rr',xV]
       exact EqAt.same _
      ·have l1:=rr.length
       have l2:=rr'.length
       have l3:=v.length
       have l4:=v'.length
       by_cases hl:ds.length=es.length
       ·rw[dH,qj hl]
        have:=RcAt.lists p.isList p'.isList (by simp;omega) hu0 (item hn rr rr' v v')
        have e:its.toArray.size=ds.length:=by simp;omega
        rw[e] at this
        exact .of_refs hab this
       ·rw[dH,qi hl]
        exact .of_refs hab (RcAt.lists_lengths p.isList p'.isList (by simp;omega) hu0)
     | tup es =>
      rw[Rep] at h'
      obtain⟨b,ys,rfl,q',_⟩:=h'
      cases r'
      obtain⟨its',_,p',_⟩:=I.tuple q'
      exact EqAt.list_tuple p.isList p' hu0
     | _=>exact absurd rfl hef
    | tup ds =>
     rw[Rep] at h
     obtain⟨a,xs,rfl,q,rr⟩:=h
     cases r
     obtain⟨its,v,p,_⟩:=I.tuple q
     have hn:dM ds+1≤n:=by simpa [D.dep] using hd
     cases e with
     | tup es =>
      rw[Rep] at h'
      obtain⟨b,ys,rfl,q',rr'⟩:=h'
      cases r'
      obtain⟨its',v',p',_⟩:=I.tuple q'
      by_cases hab:a=b
      ·subst hab
       rw[I.xJ q' q] at rr'
       rw[cX.inj I rr rr',xV]
       exact EqAt.same _
      ·have l1:=rr.length
       have l2:=rr'.length
       have l3:=v.length
       have l4:=v'.length
       have R:=RcAt.tuples p p' hu0 (item hn rr rr' v v')
       have e1:its.toArray.size=ds.length:=by simp;omega
       have e2:its'.toArray.size=es.length:=by simp;omega
       rw[e1,e2] at R
       by_cases hl:ds.length=es.length
       ·rw[dH,qj hl]
        rw[hl,Nat.min_self,beq_self_eq_true,Bool.and_true,← hl] at R
        exact .of_refs hab R
       ·rw[dH,qi hl]
        have:(ds.length == es.length)=false:=by simpa using hl
        rw[this,Bool.and_false] at R
        exact .of_refs hab R
     | lst es =>
      rw[Rep] at h'
      obtain⟨b,ys,rfl,q',_⟩:=h'
      cases r'
      obtain⟨its',_,p',_⟩:=I.list q'
      exact EqAt.tuple_list p p'.isList hu0
     | _=>exact absurd rfl hef
    | _=>exact absurd rfl hdf
def Vk(K:PySem.W.Frag)(neg:Bool):R2:=fun x y H Q=>∃ (p:Addr) (xs:List V) (d:D) (ds:List D),y=.ref p∧(v7 K H p xs∨CV K H p xs)∧Rep K H d x∧cX K H ds xs∧dM ds≤16 ∧
 Q (.bl (if neg then !ds.any (fun e=>dH e d) else ds.any (fun e=>dH e d))) H
theorem cX.main{K:PySem.W.Frag}:∀ {ds:List D} {xs:List V} {us:List Value},cX K H ds xs→Vals xs us→∀ u∈us,∃ b∈ds,∃ y,Rep K H b y∧RelV y u
 | [],xs,us,hr,hv,u,hu=>by
  rw[cX] at hr;subst hr;cases hv;cases hu
 | b::bs,xs,us,hr,hv,u,hu=>by
  rw[cX] at hr
  obtain⟨y,r,rfl,p,q⟩:=hr
  cases hv with
  | cons ry t =>
   rcases List.mem_cons.mp hu with rfl|hu
   ·exact⟨b,List.mem_cons_self,_,p,ry⟩
   ·obtain⟨b',hb',w⟩:=cX.main q t u hu
    exact⟨b',List.mem_cons_of_mem _ hb',w⟩
theorem cX.any{K:PySem.W.Frag}{e:Value→Bool}{f:D→Bool}(key:∀ b y u,Rep K H b y→RelV y u→e u=f b):∀ {ds:List D} {xs:List V} {us:List Value},cX K H ds xs→Vals xs us→us.any e=ds.any f
 | [],xs,us,hr,hv=>by
  rw[cX] at hr;subst hr;cases hv;rfl
 | b::bs,xs,us,hr,hv=>by
  rw[cX] at hr
  obtain⟨y,r,rfl,p,q⟩:=hr
  cases hv with
  | cons ry t=>rw[List.any_cons,List.any_cons,key b y _ p ry,cX.any key q t]
theorem Nk:∀ {ds:List D} {b:D},b∈ds→b.dep≤dM ds
 | d::ds,b,h=>by
  rw[dM]
  rcases List.mem_cons.mp h with rfl|h
  ·omega
  ·have:=Nk h;omega
open Classical in
theorem zx(I:Inv X pins σ H s){A:Around}(hu:A.units+16 < cLine){d:D}{x:V}{v:Value}(hx:Rep X.K H d x)(rx:RelV x v){ds:List D}{xs:List V}{us:List Value}(hd:dM ds≤16)(hr:cX X.K H ds xs)(hv:Vals xs us) :
 ∃ e:Value→Bool,(∀ u∈us,SeqAt.EqAt A s u v (e u))∧us.any e=ds.any (fun b=>dH b d):=by
 have key:∀ b y u,Rep X.K H b y→RelV y u→(fun u=>decide (∃ b y,Rep X.K H b y∧RelV y u∧dH b d=true)) u=dH b d:=by
  intro b y u hb hy
  cases hp:dH b d with
  | true=>exact decide_eq_true ⟨b,y,hb,hy,hp⟩
  | false =>
   refine decide_eq_false ?_
   rintro ⟨b',y',hb',hy',hp'⟩
   have:=hy.inj hy'
   subst this
   rw[Rep.inj I hb hb',hp'] at hp
   cases hp
 refine⟨fun u=>decide (∃ b y,Rep X.K H b y∧RelV y u∧dH b d=true),fun u hu'=>?_,cX.any key hr hv⟩
 obtain⟨b,hb,y,rb,ry⟩:=cX.main hr hv u hu'
 rw[key b y u rb ry]
 exact Tz I 16 b d A (Nat.le_trans (Nk hb) hd) hu rb hx ry rx
theorem Yz(hu:X.A.units+64 < cLine):qU X (compareOp .In) (Vk X.K false):=by
 intro pins s σ H x y v u Q I rx ry h
 obtain⟨p,xs,d,ds,rfl,hq,hx,hr,hd,q⟩:=h
 cases ry
 have hu1:X.A.in1.units+16 < cLine:=by show X.A.units+1+16 < cLine;omega
 rcases hq with hq|hq
 ·obtain⟨its,r,pl,hz⟩:=I.list hq
  obtain⟨e,he,ea⟩:=zx I hu1 hx rx hd hr r
  refine SeqAt.in_listAt e pl.isList (fun w hw=>he w (by simpa using hw)) ⟨.bl _,H,I,rfl,?_⟩
  rw[show its.toArray.any e=its.any e by simp,ea]
  exact q
 ·obtain⟨its,r,pl,hz⟩:=I.tuple hq
  obtain⟨e,he,ea⟩:=zx I hu1 hx rx hd hr r
  refine SeqAt.in_tupleAt e pl (fun w hw=>he w (by simpa using hw)) ⟨.bl _,H,I,rfl,?_⟩
  rw[show its.toArray.any e=its.any e by simp,ea]
  exact q
theorem kE(hu:X.A.units+64 < cLine):qU X (compareOp .NotIn) (Vk X.K true):=by
 intro pins s σ H x y v u Q I rx ry h
 obtain⟨p,xs,d,ds,rfl,hq,hx,hr,hd,q⟩:=h
 cases ry
 have hu1:X.A.in1.units+16 < cLine:=by show X.A.units+1+16 < cLine;omega
 rcases hq with hq|hq
 ·obtain⟨its,r,pl,hz⟩:=I.list hq
  obtain⟨e,he,ea⟩:=zx I hu1 hx rx hd hr r
  refine SeqAt.notIn_listAt e pl.isList (fun w hw=>he w (by simpa using hw)) ⟨.bl _,H,I,rfl,?_⟩
  rw[show its.toArray.any e=its.any e by simp,ea]
  exact q
 ·obtain⟨its,r,pl,hz⟩:=I.tuple hq
  obtain⟨e,he,ea⟩:=zx I hu1 hx rx hd hr r
  refine SeqAt.notIn_tupleAt e pl (fun w hw=>he w (by simpa using hw)) ⟨.bl _,H,I,rfl,?_⟩
  rw[show its.toArray.any e=its.any e by simp,ea]
  exact q
end
end L2
namespace L2
open PySem PySem.Spec PyProof.Rows
theorem wH{H:Hp}{p:Addr}{o:HO}(hp:H p=none):jg H (upd H p o):=fun b u e=>by rw[aM (bf e hp)];exact e
theorem Aa:∀ {ys:List Str} {us:List Value},Vals (ys.map V.str) us→StrsAre us ys
 | [],_,.nil=>.nil
 | y::ys,_,.cons r t=>by
  obtain⟨tk,rfl⟩:=(show ∃ tk,_=Value.str y tk from r)
  exact .cons y tk (Aa t)
section
variable{X:Cx}
def rJoin(K:PySem.W.Frag):V→List V→Hp→VK→Prop:=fun x vs H Q=>∃ (sep:Str) (p:Addr) (ys:List Str),x=.str sep∧vs=[.ref p]∧v7 K H p (ys.map V.str)∧(ys.map (·.length)).sum+ys.length * sep.length≤16777216∧Q (.str (Str.join sep ys)) H
theorem Mw:UG X "str.join" (rJoin X.K):=by
 intro pins s σ H x vs v us Q I rx rv h
 obtain⟨sep,p,ys,rfl,rfl,hq,hz,q⟩:=h
 obtain⟨t,rfl⟩:=rx
 obtain⟨u,rfl,ru⟩:=rv.one
 cases ru
 obtain⟨its,r,pl,_⟩:=I.list hq
 refine join_list pl.isList (by simpa using Aa r) hz fun t' k=>⟨.str (Str.join sep ys),H,I.tok k,⟨t',?_⟩,q⟩
 show Value.str (Builtin.Str.glued sep ys) t'=_
 rw[StrLaws.glued_eq_join]
def XC(i j:Int):Prop:=0 < j∧j.natAbs.log2 < 9000
theorem cg:qU X (binaryOp .FloorDiv) (rI XC fun i j=>.int (i / j)):=opI fun i j _ _ _ _ _ hc q=>by
 refine floordiv_int (by have:=hc.1;omega) ?_ (.inl (PyProof.noPylong_of_log2 hc.2))
 rw[Int.fdiv_eq_ediv_of_nonneg i (by have:=hc.1;omega)]
 exact q
theorem K9(hc:X.calm=true):lL X (.builtin "max") (fun xs H Q=>∃ i j z,xs=[.int i,.int j]∧max i j=z∧Q (.int z) H):=by
 intro pins s σ H xs us Q I r ⟨i,j,z,e1,e2,q⟩
 subst e2
 refine PK hc pins s σ H xs us Q I r ⟨i,j,e1,?_⟩
 rw[show (if j > i then j else i)=max i j by split<;>omega]
 exact q
theorem K8(hc:X.calm=true):lL X (.builtin "min") (fun xs H Q=>∃ i j z,xs=[.int i,.int j]∧min i j=z∧Q (.int z) H):=by
 intro pins s σ H xs us Q I r ⟨i,j,z,e1,e2,q⟩
 subst e2
 refine PJ hc pins s σ H xs us Q I r ⟨i,j,e1,?_⟩
 rw[show (if j < i then j else i)=min i j by split<;>omega]
 exact q
end
end L2
namespace A
open PySem L2 PyProof.Rows
open Mi (D W Rs Fin ao)
inductive P2{α β : Type}(F:α→β→Prop):List α→List β→Prop
 | nil:P2 F [] []
 | cons {a b l m}:F a b→P2 F l m→P2 F (a::l) (b::m)
section
variable{α β : Type}{F G:α→β→Prop}
theorem P2.imp(h:∀ a b,F a b→G a b):∀ {l m},P2 F l m→P2 G l m
 | _,_,.nil=>.nil
 | _,_,.cons x t=>.cons (h _ _ x) (t.imp h)
theorem P2.len:∀ {l m},P2 F l m→l.length=m.length
 | _,_,.nil=>rfl
 | _,_,.cons _ t=>by rw[List.length_cons,List.length_cons,t.len]
theorem P2.append:∀ {l m l' m'},P2 F l m→P2 F l' m'→P2 F (l++l') (m++m')
 | _,_,_,_,.nil,s=>s
 | _,_,_,_,.cons x t,s=>.cons x (t.append s)
theorem P2.get:∀ {l m} {i:Nat} {a b},P2 F l m→l[i]? = some a→m[i]? = some b→F a b
 | _,_,_,_,_,.nil,e,_=>by simp at e
 | _,_,0,_,_,.cons x _,e,e'=>by simp at e e';subst e e';exact x
 | _,_,i+1,a,b,.cons _ t,e,e'=>t.get (i:=i) (by simpa using e) (by simpa using e')
theorem P2.getL{l m}{i:Nat}{a}(t:P2 F l m)(e:l[i]? = some a):∃ b,m[i]? = some b∧F a b:=by
 have h:i < m.length:=by rw[← t.len];exact(List.getElem?_eq_some_iff.mp e).1
 exact⟨m[i],by simp[h],t.get e (by simp[h])⟩
theorem P2.abk{l m}{i:Nat}{b}(t:P2 F l m)(e:m[i]? = some b):∃ a,l[i]? = some a∧F a b:=by
 have h:i < l.length:=by rw[t.len];exact(List.getElem?_eq_some_iff.mp e).1
 exact⟨l[i],by simp[h],t.get (by simp[h]) e⟩
theorem P2.set{a b}(x:F a b):∀ {l m} (i:Nat),P2 F l m→P2 F (l.set i a) (m.set i b)
 | _,_,_,.nil=>.nil
 | _,_,0,.cons _ t=>.cons x t
 | _,_,i+1,.cons y t=>.cons y (t.set x i)
theorem P2.take:∀ {l m} (n:Nat),P2 F l m→P2 F (l.take n) (m.take n)
 | _,_,0,_=>.nil
 | _,_,_+1,.nil=>.nil
 | _,_,n+1,.cons x t=>.cons x (t.take n)
theorem P2.drop:∀ {l m} (n:Nat),P2 F l m→P2 F (l.drop n) (m.drop n)
 | _,_,0,t=>t
 | _,_,_+1,.nil=>.nil
 | _,_,n+1,.cons _ t=>t.drop n
theorem P2.erase:∀ {l m} (n:Nat),P2 F l m→P2 F (l.eraseIdx n) (m.eraseIdx n)
 | _,_,_,.nil=>.nil
 | _,_,0,.cons _ t=>t
 | _,_,n+1,.cons x t=>.cons x (t.erase n)
end
def Lst(H:Hp)(a:Addr)(xs:List V):Prop:=H a=some (.lst xs)∨∃ o,H a=some (.frz o (.lst xs))
mutual
def Rep(H:Hp):D→V→Prop
 | .non,v=>v=.non
 | .bl b,v=>v=.bl b
 | .int i,v=>v=.int i
 | .str x,v=>v=.str x
 | .lst ds,v=>∃ a xs,v=.ref a∧Lst H a xs∧cX H ds xs
 | .tup ds,v=>∃ a xs,v=.ref a∧H a=some (.tup xs)∧cX H ds xs
def cX(H:Hp):List D→List V→Prop
 | [],vs=>vs=[]
 | d::ds,vs=>∃ v r,vs=v::r∧Rep H d v∧cX H ds r
end
theorem oE{H:Hp}:∀ {ds:List D} {vs:List V},cX H ds vs↔P2 (Rep H) ds vs
 | [],vs=>by
  rw[cX]
  exact⟨fun h=>by subst h;exact .nil,fun h=>by cases h;rfl⟩
 | d::ds,vs=>by
  rw[cX]
  constructor
  ·rintro ⟨v,r,rfl,p,q⟩
   exact .cons p (oE.mp q)
  ·intro h
   cases h with
   | cons p q=>exact⟨_,_,rfl,p,oE.mpr q⟩
@[simp] theorem LR {H:Hp} {v:V}:Rep H .non v↔v=.non:=by rw[Rep]
@[simp] theorem Aq {H:Hp} {v:V} {b:Bool}:Rep H (.bl b) v↔v=.bl b:=by rw[Rep]
@[simp] theorem rA {H:Hp} {v:V} {b:Int}:Rep H (.int b) v↔v=.int b:=by rw[Rep]
@[simp] theorem rn {H:Hp} {v:V} {b:Str}:Rep H (.str b) v↔v=.str b:=by rw[Rep]
theorem oU{H:Hp}{v:V}{ds:List D}:Rep H (.lst ds) v↔∃ a xs,v=.ref a∧Lst H a xs∧P2 (Rep H) ds xs:=by
 rw[Rep];exact⟨fun ⟨a,xs,e,l,r⟩=>⟨a,xs,e,l,oE.mp r⟩,fun ⟨a,xs,e,l,r⟩=>⟨a,xs,e,l,oE.mpr r⟩⟩
theorem mO{H:Hp}{v:V}{ds:List D}:Rep H (.tup ds) v↔∃ a xs,v=.ref a∧H a=some (.tup xs)∧P2 (Rep H) ds xs:=by
 rw[Rep];exact⟨fun ⟨a,xs,e,l,r⟩=>⟨a,xs,e,l,oE.mp r⟩,fun ⟨a,xs,e,l,r⟩=>⟨a,xs,e,l,oE.mpr r⟩⟩
theorem Lst.same{H H':Hp}{a:Addr}{xs:List V}(s:jg H H')(h:Lst H a xs):Lst H' a xs:=by
 rcases h with h|⟨o,h⟩
 ·exact .inl (s _ _ h)
 ·exact .inr ⟨o,s _ _ h⟩
theorem Lst.sq{K:PySem.W.Frag}{H:Hp}{a:Addr}{xs:List V}(h:Lst H a xs):v7 K H a xs:=.inl h
mutual
theorem lr{H H':Hp}(s:jg H H'):∀ {d:D} {v:V},Rep H d v→Rep H' d v
 | .non,v,h=>by rw[Rep] at h ⊢;exact h
 | .bl b,v,h=>by rw[Rep] at h ⊢;exact h
 | .int i,v,h=>by rw[Rep] at h ⊢;exact h
 | .str x,v,h=>by rw[Rep] at h ⊢;exact h
 | .lst ds,v,h=>by
  rw[Rep] at h ⊢
  obtain⟨a,xs,e,q,r⟩:=h
  exact⟨a,xs,e,q.same s,xU s r⟩
 | .tup ds,v,h=>by
  rw[Rep] at h ⊢
  obtain⟨a,xs,e,q,r⟩:=h
  exact⟨a,xs,e,s _ _ q,xU s r⟩
theorem xU{H H':Hp}(s:jg H H'):∀ {ds:List D} {vs:List V},cX H ds vs→cX H' ds vs
 | [],vs,h=>by rw[cX] at h ⊢;exact h
 | d::ds,vs,h=>by
  rw[cX] at h ⊢
  obtain⟨v,r,e,p,q⟩:=h
  exact⟨v,r,e,lr s p,xU s q⟩
end
theorem dW{H H':Hp}(s:jg H H'){ds:List D}{vs:List V}(h:P2 (Rep H) ds vs):P2 (Rep H') ds vs:=h.imp fun _ _=>lr s
mutual
theorem rm(K:PySem.W.Frag){H:Hp}:∀ {d:D} {v:V},Rep H d v→L2.Rep K H d v
 | .non,v,h=>by rw[Rep] at h;rw[L2.Rep];exact h
 | .bl b,v,h=>by rw[Rep] at h;rw[L2.Rep];exact h
 | .int i,v,h=>by rw[Rep] at h;rw[L2.Rep];exact h
 | .str x,v,h=>by rw[Rep] at h;rw[L2.Rep];exact h
 | .lst ds,v,h=>by
  rw[Rep] at h
  rw[L2.Rep]
  obtain⟨a,xs,e,q,r⟩:=h
  exact⟨a,xs,e,q.sq,zp K r⟩
 | .tup ds,v,h=>by
  rw[Rep] at h
  rw[L2.Rep]
  obtain⟨a,xs,e,q,r⟩:=h
  exact⟨a,xs,e,.inl (.inl q),zp K r⟩
theorem zp(K:PySem.W.Frag){H:Hp}:∀ {ds:List D} {vs:List V},cX H ds vs→L2.cX K H ds vs
 | [],vs,h=>by rw[cX] at h;rw[L2.cX];exact h
 | d::ds,vs,h=>by
  rw[cX] at h
  rw[L2.cX]
  obtain⟨v,r,e,p,q⟩:=h
  exact⟨v,r,e,rm K p,zp K q⟩
end
def NT:HO→Prop
 | .tbl _ _=>False
 | _=>True
structure Old(H H':Hp):Prop where
 nt:∀ a o,H a=some o→NT o→H' a=some o
 dom:∀ a,H' a=none→H a=none
 tb:∀ a w ps,H a=some (.tbl w ps)→∃ ps',H' a=some (.tbl w ps')
theorem Old.at{H H':Hp}(s:Old H H'){a:Addr}{o:HO}(q:H a=some o)(n:NT o:=by trivial):H' a=some o:=s.nt a o q n
theorem Old.free{H H':Hp}(s:Old H H'){a:Addr}(h:H' a=none):H a=none:=s.dom a h
theorem Old.refl(H:Hp):Old H H:=⟨fun _ _ e _=>e,fun _ e=>e,fun _ _ ps e=>⟨ps,e⟩⟩
theorem Old.trans{H H1 H2:Hp}(a:Old H H1)(b:Old H1 H2):Old H H2:=⟨fun x o e n=>b.nt x o (a.nt x o e n) n,fun x e=>a.dom x (b.dom x e),fun x w ps e=>let ⟨p1,e1⟩:=a.tb x w ps e;b.tb x w p1 e1⟩
theorem Old.of{H H':Hp}(s:jg H H'):Old H H':=⟨fun a o e _=>s a o e,fun a e=>s.free e,fun a w ps e=>⟨ps,s a _ e⟩⟩
theorem Old.tab{H H':Hp}(s:Old H H'){a:Addr}{w:Str}{ps:Array Value}{o:HO}(q:H a=some (.tbl w ps))(n:NT o):¬ H' a=some o:=fun e=>by
 obtain⟨p,z⟩:=s.tb a w ps q
 rw[e] at z;cases z;exact n
theorem Old.put{H0 H:Hp}(s:Old H0 H){p:Addr}{o u:HO}(h0:H0 p=none)(h:H p=some u):Old H0 (upd H p o) :=
 ⟨fun a v e n=>by rw[aM (bf e h0)];exact s.nt a v e n,fun a e=>by
  by_cases hp:a=p
  ·subst hp;exact h0
  ·rw[aM hp] at e;exact s.dom a e,fun a w ps e=>by rw[aM (bf e h0)];exact s.tb a w ps e⟩
def oK(c:Addr)(q:Str):Heap→Prop:=fun h=>∃ o vs t,h.get? c=some o∧o.data=.fields vs∧vs[1]? = some (.str q t)
class jf where
 l:List (Addr×Str)
 cl:String→Addr
variable[Tb:jf]
structure kj(H:Hp):Prop where
 has:∀ p∈Tb.l,∃ ps,H p.1=some (.tbl p.2 ps)
 cd:∀ T q ps,H T=some (.tbl q ps)→TriplesOk ps.toList∧∀ pos v,codeAmong pos ps.toList=some v→∃ c,v=.ref c∧H c=some (.ext (oK c q))
theorem kj.new{H:Hp}(k:kj H){p:Addr}{o:HO}(h:H p=none)(n:NT o):kj (upd H p o):=⟨fun r hr=>let ⟨ps,e⟩:=k.has r hr;⟨ps,by rw[aM (bf e h)];exact e⟩,fun T q ps e=>by
 by_cases hp:T=p
 ·subst hp;rw[bc] at e;cases e;exact n.elim
 ·rw[aM hp] at e
  obtain⟨t,r⟩:=k.cd T q ps e
  refine⟨t,fun pos v z=>?_⟩
  obtain⟨c,e1,e2⟩:=r pos v z
  exact⟨c,e1,by rw[aM (bf e2 h)];exact e2⟩⟩
def Cell:HO→Prop
 | .lst _=>True
 | .dK _=>True
 | .dT _=>True
 | .ext _=>True
 | _=>False
theorem Cell.nt:∀ {o:HO},Cell o→NT o:=fun {o} c=>by cases o<;>first|exact c.elim|trivial
def JC:HO→Prop
 | .lst _=>True
 | .dK _=>True
 | .dT _=>True
 | _=>False
theorem JC.cell:∀ {o:HO},JC o→Cell o:=fun {o} c=>by cases o<;>first|exact c.elim|trivial
theorem kj.put{H:Hp}(k:kj H){p:Addr}{o u:HO}(h:H p=some u)(c:JC u)(n:NT o):kj (upd H p o):=⟨fun r hr=>let ⟨ps,e⟩:=k.has r hr;⟨ps,by rw[aM (fun y=>by rw[y,h] at e;cases e;exact c.elim)];exact e⟩,fun T q ps e=>by
 by_cases hp:T=p
 ·subst hp;rw[bc] at e;cases e;exact n.elim
 ·rw[aM hp] at e
  obtain⟨t,r⟩:=k.cd T q ps e
  refine⟨t,fun pos v z=>?_⟩
  obtain⟨x,e1,e2⟩:=r pos v z
  refine⟨x,e1,?_⟩
  rw[aM (fun y=>by subst y;rw[h] at e2;cases e2;exact c.elim)];exact e2⟩
structure Vw(H Hv:Hp):Prop where
 sub:jg Hv H
 tup:∀ a xs,H a=some (.tup xs)→Hv a=some (.tup xs)
 frz:∀ a o u,H a=some (.frz o u)→Hv a=some (.frz o u)
 cd:kj H
 nv:∀ a o,Hv a=some o→NT o
structure dC(H Hv H' Hv':Hp):Prop where
 old:Old H H'
 vis:jg Hv Hv'
 vw:Vw H' Hv'
 hid:∀ a o,H a=some o→Hv a=none→Hv' a=none
theorem dC.refl{H Hv:Hp}(v:Vw H Hv):dC H Hv H Hv:=⟨Old.refl _,jg.refl _,v,fun _ _ _ e=>e⟩
theorem Old.some{H H':Hp}(s:Old H H'){a:Addr}{o:HO}(q:H a=some o):∃ o',H' a=some o':=by
 cases h:H' a with
 | none=>rw[s.dom a h] at q;cases q
 | some o'=>exact⟨o',rfl⟩
theorem dC.trans{H Hv H1 Hv1 H2 Hv2:Hp}(g:dC H Hv H1 Hv1)(k:dC H1 Hv1 H2 Hv2):dC H Hv H2 Hv2 :=
 ⟨g.old.trans k.old,g.vis.trans k.vis,k.vw,fun a o e n=>let ⟨o',e'⟩:=g.old.some e;k.hid a o' e' (g.hid a o e n)⟩
theorem pW{H Hv:Hp}(v:Vw H Hv){p:Addr}(h:H p=none):Hv p=none:=v.sub.free h
theorem dC.new{H Hv:Hp}(v:Vw H Hv){p:Addr}{o:HO}(h:H p=none)(nt:NT o:=by trivial):dC H Hv (upd H p o) (upd Hv p o):=by
 refine⟨.of (wH h),wH (pW v h),⟨fun b u e=>?_,fun b xs e=>?_,fun b q u e=>?_,v.cd.new h nt,fun b u e=>?_⟩,fun b u e n=>?_⟩
 ·by_cases hb:b=p
  ·subst hb;rw[bc] at e ⊢;exact e
  ·rw[aM hb] at e ⊢;exact v.sub b u e
 ·by_cases hb:b=p
  ·subst hb;rw[bc] at e ⊢;exact e
  ·rw[aM hb] at e ⊢;exact v.tup b xs e
 ·by_cases hb:b=p
  ·subst hb;rw[bc] at e ⊢;exact e
  ·rw[aM hb] at e ⊢;exact v.frz b q u e
 ·by_cases hb:b=p
  ·subst hb;rw[bc] at e;cases e;exact nt
  ·rw[aM hb] at e;exact v.nv b u e
 ·rw[aM (bf e h)];exact n
theorem dC.RZ{H Hv:Hp}(v:Vw H Hv){p:Addr}{o:HO}(c:Cell o)(h:H p=none):dC H Hv (upd H p o) Hv:=by
 refine⟨.of (wH h),jg.refl _,⟨fun b u e=>?_,fun b xs e=>?_,fun b q u e=>?_,v.cd.new h c.nt,v.nv⟩,fun b u e n=>n⟩
 ·rw[aM (bf (v.sub b u e) h)];exact v.sub b u e
 ·by_cases hb:b=p
  ·subst hb;rw[bc] at e;cases e;exact c.elim
  ·rw[aM hb] at e;exact v.tup b xs e
 ·by_cases hb:b=p
  ·subst hb;rw[bc] at e;cases e;exact c.elim
  ·rw[aM hb] at e;exact v.frz b q u e
theorem Vw.show{H Hv:Hp}(v:Vw H Hv){a:Addr}{o:HO}(h:H a=some o)(n:Hv a=none)(nt:NT o):Vw H (upd Hv a o)∧jg Hv (upd Hv a o):=by
 refine⟨⟨fun b u e=>?_,fun b xs e=>?_,fun b q u e=>?_,v.cd,fun b u e=>?_⟩,wH n⟩
 ·by_cases hb:b=a
  ·subst hb;rw[bc] at e;rw[h];exact e
  ·rw[aM hb] at e;exact v.sub b u e
 ·by_cases hb:b=a
  ·subst hb;rw[bc];rw[h] at e;exact e
  ·rw[aM hb];exact v.tup b xs e
 ·by_cases hb:b=a
  ·subst hb;rw[bc];rw[h] at e;exact e
  ·rw[aM hb];exact v.frz b q u e
 ·by_cases hb:b=a
  ·subst hb;rw[bc] at e;cases e;exact nt
  ·rw[aM hb] at e;exact v.nv b u e
theorem Lst.old{H H':Hp}{a:Addr}{xs:List V}(s:Old H H')(h:Lst H a xs):Lst H' a xs:=by
 rcases h with h|⟨o,h⟩
 ·exact .inl (s.at h)
 ·exact .inr ⟨o,s.at h⟩
mutual
theorem Mf{H H':Hp}(t:∀ a xs,H a=some (.tup xs)→H' a=some (.tup xs)):∀ {d:D} {v:V},Mi.Xd d=true→Rep H d v→Rep H' d v
 | .non,v,_,h=>by rw[Rep] at h ⊢;exact h
 | .bl b,v,_,h=>by rw[Rep] at h ⊢;exact h
 | .int i,v,_,h=>by rw[Rep] at h ⊢;exact h
 | .str x,v,_,h=>by rw[Rep] at h ⊢;exact h
 | .lst ds,v,z,h=>by rw[Mi.Xd] at z;cases z
 | .tup ds,v,z,h=>by
  rw[Mi.Xd] at z
  rw[Rep] at h ⊢
  obtain⟨a,xs,e,q,r⟩:=h
  exact⟨a,xs,e,t _ _ q,Hu t z r⟩
theorem Hu{H H':Hp}(t:∀ a xs,H a=some (.tup xs)→H' a=some (.tup xs)):∀ {ds:List D} {vs:List V},Mi.V2 ds=true→cX H ds vs→cX H' ds vs
 | [],vs,_,h=>by rw[cX] at h ⊢;exact h
 | d::ds,vs,z,h=>by
  rw[Mi.V2,Bool.and_eq_true] at z
  rw[cX] at h ⊢
  obtain⟨v,r,e,p,q⟩:=h
  exact⟨v,r,e,Mf t z.1 p,Hu t z.2 q⟩
end
def JL{κ : Type}(H:Hp)(kvs:List (κ×D))(kv:List (κ×V)):Prop:=P2 (fun p q=>p.1=q.1∧Rep H p.2 q.2) kvs kv
theorem JL.same{κ : Type}{H H':Hp}(s:jg H H'){kvs:List (κ×D)}{kv:List (κ×V)}(h:JL H kvs kv):JL H' kvs kv:=P2.imp (fun _ _ z=>⟨z.1,lr s z.2⟩) h
def gV(Hv:Hp):W→HO→Prop
 | .d (.lst ds),.lst xs=>P2 (Rep Hv) ds xs
 | .dk kvs,.dK kv=>JL Hv kvs kv
 | .dt kvs,.dT kv=>JL Hv kvs kv
 | _,_=>False
theorem gV.same{H H':Hp}(s:jg H H'):∀ {w:W} {o:HO},gV H w o→gV H' w o:=fun {w o} h=>by
 cases w with
 | d x =>
  cases x with
  | lst ds=>cases o with
   | lst xs=>exact dW s h
   | _=>exact h.elim
  | _=>cases o<;>exact h.elim
 | dk kvs=>cases o with
  | dK kv=>exact JL.same s h
  | _=>exact h.elim
 | dt kvs=>cases o with
  | dT kv=>exact JL.same s h
  | _=>exact h.elim
 | ex c=>exact h.elim
theorem gV.Xn{H:Hp}{w:W}{o:HO}(h:gV H w o):JC o:=by
 cases w with
 | d x =>
  cases x with
  | lst ds=>cases o with
   | lst xs=>trivial
   | _=>exact h.elim
  | _=>cases o<;>exact h.elim
 | dk kvs=>cases o with
  | dK kv=>trivial
  | _=>exact h.elim
 | dt kvs=>cases o with
  | dT kv=>trivial
  | _=>exact h.elim
 | ex c=>exact h.elim
theorem gV.cell{H:Hp}{w:W}{o:HO}(h:gV H w o):Cell o:=h.Xn.cell
theorem gV.nt{H:Hp}{w:W}{o:HO}(h:gV H w o):NT o:=h.cell.nt
def yf(a C:Addr):Heap→Prop:=fun h=>∃ o,h.get? a=some o∧o.cls=.ref C∧o.dict=none∧∃ vs,o.data=.fields vs
def ug(H:Hp):W→V→Prop
 | .d x,v=>Rep H x v
 | .dk kvs,v=>∃ a kv,v=.ref a∧H a=some (.dK kv)∧JL H kvs kv
 | .dt kvs,v=>∃ a kv,v=.ref a∧H a=some (.dT kv)∧JL H kvs kv
 | .ex c,v=>∃ a,v=.ref a∧H a=some (.ext (yf a (Tb.cl c)))
theorem n6{H H':Hp}(s:jg H H'):∀ {w:W} {v:V},ug H w v→ug H' w v
 | .d x,v,h=>lr (d:=x) s h
 | .dk kvs,v,⟨a,kv,e,q,r⟩=>⟨a,kv,e,s _ _ q,r.same s⟩
 | .dt kvs,v,⟨a,kv,e,q,r⟩=>⟨a,kv,e,s _ _ q,r.same s⟩
 | .ex c,v,⟨a,e,q⟩=>⟨a,e,s _ _ q⟩
theorem uw{H:Hp}{w:W}{a:Addr}{o:HO}(h:H a=some o)(c:gV H w o):ug H w (.ref a):=by
 cases w with
 | d x =>
  cases x with
  | lst ds=>cases o with
   | lst xs=>exact oU.mpr ⟨a,xs,rfl,.inl h,c⟩
   | _=>exact c.elim
  | _=>cases o<;>exact c.elim
 | dk kvs=>cases o with
  | dK kv=>exact⟨a,kv,rfl,h,c⟩
  | _=>exact c.elim
 | dt kvs=>cases o with
  | dT kv=>exact⟨a,kv,rfl,h,c⟩
  | _=>exact c.elim
 | ex z=>exact c.elim
def Own(H Hv:Hp)(w:W)(v:V):Prop:=∃ a o,v=.ref a∧H a=some o∧Hv a=none∧gV Hv w o
def RB(H Hv:Hp)(w:W)(v:V):Prop:=ug Hv w v∨∃ a o,v=.ref a∧H a=some o∧gV Hv w o
theorem RB.grow{H Hv H' Hv':Hp}(g:dC H Hv H' Hv'){w:W}{v:V}(h:RB H Hv w v):RB H' Hv' w v:=by
 rcases h with h|⟨a,o,e,q,c⟩
 ·exact .inl (n6 g.vis h)
 ·exact .inr ⟨a,o,e,g.old.at q c.nt,c.same g.vis⟩
theorem Own.grow{H Hv H' Hv':Hp}(g:dC H Hv H' Hv'){w:W}{v:V}(h:Own H Hv w v):Own H' Hv' w v:=by
 obtain⟨a,o,e,q,n,c⟩:=h
 exact⟨a,o,e,g.old.at q c.nt,g.hid _ _ q n,c.same g.vis⟩
theorem RB.full{H Hv:Hp}(v:Vw H Hv){w:W}{x:V}(h:RB H Hv w x):ug H w x:=by
 rcases h with h|⟨a,o,rfl,q,c⟩
 ·exact n6 v.sub h
 ·exact uw q (c.same v.sub)
abbrev RD(H Hv:Hp)(d:D)(v:V):Prop:=RB H Hv (.d d) v
theorem RD.Oi{H Hv:Hp}{d:D}{v:V}(h:RD H Hv d v)(n:∀ ds,d≠.lst ds):Rep Hv d v:=by
 rcases h with h|⟨a,o,e,q,c⟩
 ·exact h
 ·cases d with
  | lst ds=>exact absurd rfl (n ds)
  | _=>cases o<;>exact c.elim
theorem RD.lst{H Hv:Hp}(w:Vw H Hv){ds:List D}{v:V}(h:RD H Hv (.lst ds) v):∃ a xs,v=.ref a∧Lst H a xs∧P2 (Rep Hv) ds xs:=by
 rcases h with h|⟨a,o,e,q,c⟩
 ·obtain⟨a,xs,e,l,r⟩:=oU.mp h
  exact⟨a,xs,e,l.same w.sub,r⟩
 ·cases o with
  | lst xs=>exact⟨a,xs,e,.inl q,c⟩
  | _=>exact c.elim
theorem RD.tup{H Hv:Hp}(w:Vw H Hv){ds:List D}{v:V}(h:RD H Hv (.tup ds) v):∃ a xs,v=.ref a∧H a=some (.tup xs)∧Hv a=some (.tup xs)∧P2 (Rep Hv) ds xs:=by
 obtain⟨a,xs,e,l,r⟩:=mO.mp (h.Oi fun _ z=>by cases z)
 exact⟨a,xs,e,w.sub _ _ l,l,r⟩
theorem RD.int{H Hv:Hp}{i:Int}{v:V}(h:RD H Hv (.int i) v):v=.int i:=rA.mp (h.Oi fun _ z=>by cases z)
theorem RD.str{H Hv:Hp}{i:Str}{v:V}(h:RD H Hv (.str i) v):v=.str i:=rn.mp (h.Oi fun _ z=>by cases z)
theorem RD.bl{H Hv:Hp}{i:Bool}{v:V}(h:RD H Hv (.bl i) v):v=.bl i:=Aq.mp (h.Oi fun _ z=>by cases z)
theorem RD.non{H Hv:Hp}{v:V}(h:RD H Hv .non v):v=.non:=LR.mp (h.Oi fun _ z=>by cases z)
theorem RD.full{H Hv:Hp}(v:Vw H Hv){d:D}{x:V}(h:RD H Hv d x):Rep H d x:=RB.full v h
abbrev Kd:=Hp→Hp→Hp→W→V→Prop
def qP:Kd:=fun _ H' Hv' w v=>RB H' Hv' w v
def qV:Kd:=fun _ _ Hv' w v=>ug Hv' w v
def qN:Kd:=fun H H' Hv' w v=>∃ a o,v=.ref a∧H a=none∧H' a=some o∧Hv' a=none∧gV Hv' w o
theorem j4{H H' Hv':Hp}{i:Int}:qV H H' Hv' (.d (.int i)) (.int i):=(rA (H:=Hv')).mpr rfl
theorem vD{H H' Hv':Hp}{i:Str}:qV H H' Hv' (.d (.str i)) (.str i):=(rn (H:=Hv')).mpr rfl
theorem jJ{H H' Hv':Hp}{i:Bool}:qV H H' Hv' (.d (.bl i)) (.bl i):=(Aq (H:=Hv')).mpr rfl
theorem J4{H H' Hv':Hp}:qV H H' Hv' (.d .non) .non:=(LR (H:=Hv')).mpr rfl
class KM (κ : Kd):Prop where
 mono:∀ {H H1 H' Hv' w v},Old H H1→κ H1 H' Hv' w v→κ H H' Hv' w v
instance:KM qP:=⟨fun _ h=>h⟩
instance:KM qV:=⟨fun _ h=>h⟩
instance:KM qN:=⟨fun s ⟨a,o,e,n,r⟩=>⟨a,o,e,s.free n,r⟩⟩
structure R0(M:Nat→Bool)(e:Mi.Env)(σ : L2.St)(H Hv:Hp):Prop where
 vw:Vw H Hv
 len:σ.length=e.length
 nob:∀ i w,e[i]? = some (some w)→M i=false→∃ v,σ[i]? = some (some v)∧ug Hv w v
 own:∀ i w,e[i]? = some (some w)→M i=true→∃ v,σ[i]? = some (some v)∧Own H Hv w v
theorem R0.grow{M:Nat→Bool}{e:Mi.Env}{σ : L2.St}{H Hv H' Hv':Hp}(r:R0 M e σ H Hv)(g:dC H Hv H' Hv'):R0 M e σ H' Hv' :=
 ⟨g.vw,r.len,fun i w h m=>let ⟨v,q,z⟩:=r.nob i w h m;⟨v,q,n6 g.vis z⟩,fun i w h m=>let ⟨v,q,z⟩:=r.own i w h m;⟨v,q,z.grow g⟩⟩
structure R1(M:Nat→Bool)(H0 Hv0:Hp)(e:Mi.Env)(σ : L2.St)(H Hv:Hp):Prop extends R0 M e σ H Hv where
 gw:dC H0 Hv0 H Hv
 fresh:∀ i w a,e[i]? = some (some w)→M i=true→σ[i]? = some (some (.ref a))→H0 a=none
 sep:∀ i j w w' a b,i≠j→e[i]? = some (some w)→e[j]? = some (some w')→M i=true→M j=true→σ[i]? = some (some (.ref a))→σ[j]? = some (some (.ref b))→a≠b
theorem R1.grow{M:Nat→Bool}{H0 Hv0:Hp}{e:Mi.Env}{σ : L2.St}{H Hv H' Hv':Hp}(r:R1 M H0 Hv0 e σ H Hv)(g:dC H Hv H' Hv'):R1 M H0 Hv0 e σ H' Hv' :=
 ⟨r.toR0.grow g,r.gw.trans g,r.fresh,r.sep⟩
end A
namespace A
open PySem L2 PyProof.Rows
open Mi (D W Rs Fin ao)
variable[Tb:jf]
abbrev Qh:=Mi.Env
class KG (κ : Kd):Prop where
 go:∀ {H H1 Hv1 H2 Hv2 w v},dC H1 Hv1 H2 Hv2→κ H H1 Hv1 w v→κ H H2 Hv2 w v
instance:KG qP:=⟨fun g h=>h.grow g⟩
instance:KG qV:=⟨fun g h=>n6 g.vis h⟩
instance:KG qN:=⟨fun g ⟨a,o,e,n,q,z,c⟩=>⟨a,o,e,n,g.old.at q c.nt,g.hid _ _ q z,c.same g.vis⟩⟩
def AW(M:Nat→Bool)(κ : Kd)(t:TE)(m:Mi.EW):Prop:=∀ e σ H Hv Q,R0 M e σ H Hv→Fin (m e) (fun w=>∀ v H' Hv',dC H Hv H' Hv'→κ H H' Hv' w v→Q v H')→t σ H Q
def AE(M:Nat→Bool)(κ : Kd)(t:TE)(m:Mi.E):Prop:=∀ e σ H Hv Q,R0 M e σ H Hv→Fin (m e) (fun d=>∀ v H' Hv',dC H Hv H' Hv'→κ H H' Hv' (.d d) v→Q v H')→t σ H Q
def AT(M:Nat→Bool)(t:TT)(m:Mi.C):Prop:=∀ e σ H Hv Q,R0 M e σ H Hv→Fin (m e) (fun b=>∀ H' Hv',dC H Hv H' Hv'→Q b H')→t σ H Q
def AA(M:Nat→Bool)(κ : Kd)(t:TA)(m:Qh→Rs (List D)):Prop:=∀ e σ H Hv Q,R0 M e σ H Hv→Fin (m e) (fun ds=>∀ vs H' Hv',dC H Hv H' Hv'→P2 (fun d v=>κ H H' Hv' (.d d) v) ds vs→Q vs H')→t σ H Q
def AAW(M:Nat→Bool)(κ : Kd)(t:TA)(m:Qh→Rs (List W)):Prop:=∀ e σ H Hv Q,R0 M e σ H Hv→Fin (m e) (fun ws=>∀ vs H' Hv',dC H Hv H' Hv'→P2 (fun w v=>κ H H' Hv' w v) ws vs→Q vs H')→t σ H Q
def AO(M:Nat→Bool)(t:TO)(m:Qh→Rs (Option Int)):Prop:=∀ e σ H Hv Q,R0 M e σ H Hv→Fin (m e) (fun o=>∀ H' Hv',dC H Hv H' Hv'→Q o H')→t σ H Q
section
variable{M:Nat→Bool}{κ : Kd}{t ta tb tc te:TE}{a b c:Mi.E}{r r':R2}{f g:D→D→Rs D}
theorem AE.w(h:AE M κ t a):AW M κ t (Mi.wD a):=fun e σ H Hv Q I q=>h e σ H Hv Q I ((ao.mp q).mono fun d z=>z)
theorem Xb{H H' Hv':Hp}{w:W}{v:V}(h:qV H H' Hv' w v):qP H H' Hv' w v:=.inl h
theorem abb{H H' Hv':Hp}{w:W}{v:V}(h:qN H H' Hv' w v):qP H H' Hv' w v:=by
 obtain⟨a,o,e,_,q,_,c⟩:=h
 exact .inr ⟨a,o,e,q,c⟩
theorem M3{H Hv H' Hv':Hp}(g:dC H Hv H' Hv'){w:W}{v:V}(h:qN H H' Hv' w v):∃ Qi,dC H Hv H' Qi∧ug Qi w v:=by
 obtain⟨a,o,rfl,n,q,z,c⟩:=h
 obtain⟨vw,s⟩:=g.vw.show q z c.nt
 refine⟨upd Hv' a o,⟨g.old,g.vis.trans s,vw,fun b u e m=>?_⟩,uw bc (c.same s)⟩
 rw[aM (bf e n)];exact g.hid b u e m
theorem AW.p(h:AW M qV t m):AW M qP t m:=fun e σ H Hv Q I q=>h e σ H Hv Q I (q.mono fun w z v H' Hv' g k=>z v H' Hv' g (Xb k))
theorem AW.nv(h:AW M qN t m):AW M qV t m:=fun e σ H Hv Q I q=>h e σ H Hv Q I (q.mono fun w z v H' Hv' g k=>let ⟨Qi,g',r⟩:=M3 g k;z v H' Qi g' r)
theorem AE.p(h:AE M qV t a):AE M qP t a:=fun e σ H Hv Q I q=>h e σ H Hv Q I (q.mono fun w z v H' Hv' g k=>z v H' Hv' g (Xb k))
theorem AE.np(h:AE M qN t a):AE M qP t a:=fun e σ H Hv Q I q=>h e σ H Hv Q I (q.mono fun w z v H' Hv' g k=>z v H' Hv' g (abb k))
theorem AE.nv(h:AE M qN t a):AE M qV t a:=fun e σ H Hv Q I q=>h e σ H Hv Q I (q.mono fun w z v H' Hv' g k=>let ⟨Qi,g',r⟩:=M3 g k;z v H' Qi g' r)
theorem aJ{i:Int}:AE M qV (tC (.int i)) (Mi.mC (.int i)):=fun e σ H Hv Q I h=>h _ H Hv (.refl I.vw) j4
theorem iC{i:Str}:AE M qV (tC (.str i)) (Mi.mC (.str i)):=fun e σ H Hv Q I h=>h _ H Hv (.refl I.vw) vD
theorem yw{i:Bool}:AE M qV (tC (.bl i)) (Mi.mC (.bl i)):=fun e σ H Hv Q I h=>h _ H Hv (.refl I.vw) jJ
theorem Xu:AE M qV (tC .non) (Mi.mC .non):=fun e σ H Hv Q I h=>h _ H Hv (.refl I.vw) J4
theorem Xa{e:Qh}{i:Nat}{k:D→Prop}(h:Fin (Mi.mV i e) k):∃ d,e[i]? = some (some (.d d))∧k d:=by
 unfold Mi.mV at h
 split at h
 ·exact⟨_,‹_›,h⟩
 ·exact h.elim
theorem Lw{e:Qh}{i:Nat}{k:W→Prop}(h:Fin (Mi.wV i e) k):∃ w,e[i]? = some (some w)∧k w:=by
 unfold Mi.wV at h
 split at h
 ·exact⟨_,‹_›,h⟩
 ·exact h.elim
theorem ak(i:Nat)(hm:M i=false):AE M qV (vq i) (Mi.mV i):=fun e σ H Hv Q I h=>by
 obtain⟨d,he,k⟩:=Xa h
 obtain⟨v,q,z⟩:=I.nob i _ he hm
 exact⟨v,q,k v H Hv (.refl I.vw) z⟩
theorem Yx{H Hv:Hp}{w:W}{v:V}(h:Own H Hv w v):RB H Hv w v:=by
 obtain⟨a,o,e,q,_,c⟩:=h
 exact .inr ⟨a,o,e,q,c⟩
theorem R0.any{e:Qh}{σ : L2.St}{H Hv:Hp}(I:R0 M e σ H Hv){i:Nat}{w:W}(he:e[i]? = some (some w)):∃ v,σ[i]? = some (some v)∧RB H Hv w v:=by
 cases hm:M i with
 | false =>
  obtain⟨v,q,z⟩:=I.nob i w he hm
  exact⟨v,q,.inl z⟩
 | true =>
  obtain⟨v,q,z⟩:=I.own i w he hm
  exact⟨v,q,Yx z⟩
theorem ue(i:Nat):AE M qP (vq i) (Mi.mV i):=fun e σ H Hv Q I h=>by
 obtain⟨d,he,k⟩:=Xa h
 obtain⟨v,q,z⟩:=I.any he
 exact⟨v,q,k v H Hv (.refl I.vw) z⟩
theorem ZL(i:Nat)(hm:M i=false):AW M qV (vq i) (Mi.wV i):=fun e σ H Hv Q I h=>by
 obtain⟨d,he,k⟩:=Lw h
 obtain⟨v,q,z⟩:=I.nob i _ he hm
 exact⟨v,q,k v H Hv (.refl I.vw) z⟩
def B2(κ : Kd)(r:R2)(f:D→D→Rs D):Prop:=∀ x y v u H Hv Q,Vw H Hv→RD H Hv x v→RD H Hv y u→Fin (f x y) (fun d=>∀ w H' Hv',dC H Hv H' Hv'→κ H H' Hv' (.d d) w→Q w H')→r v u H Q
def B1(κ : Kd)(r:V→Hp→VK→Prop)(f:D→Rs D):Prop:=∀ x v H Hv Q,Vw H Hv→RD H Hv x v→Fin (f x) (fun d=>∀ w H' Hv',dC H Hv H' Hv'→κ H H' Hv' (.d d) w→Q w H')→r v H Q
def BN(κ : Kd)(r:List V→Hp→VK→Prop)(f:List D→Rs D):Prop:=∀ ds vs H Hv Q,Vw H Hv→P2 (RD H Hv) ds vs→Fin (f ds) (fun d=>∀ w H' Hv',dC H Hv H' Hv'→κ H H' Hv' (.d d) w→Q w H')→r vs H Q
theorem az[KM κ](hr:B2 κ r f)(ha:AE M qP ta a)(hb:AE M qP tb b):AE M κ (tOp r ta tb) (Mi.m2 f a b):=fun e σ H Hv Q I h =>
 ha e σ H Hv _ I ((ao.mp h).mono fun x hx v H1 Hv1 g1 rx=>hb e σ H1 Hv1 _ (I.grow g1) ((ao.mp hx).mono fun y hy u H2 Hv2 g2 ry =>
  hr x y v u H2 Hv2 Q g2.vw (RB.grow g2 rx) ry (hy.mono fun d hd w H3 Hv3 g3 rw=>hd w H3 Hv3 (g1.trans (g2.trans g3)) (KM.mono (g1.old.trans g2.old) rw))))
theorem acJ[KM κ]{r:V→Hp→VK→Prop}{f:D→Rs D}(hr:B1 κ r f)(ha:AE M qP ta a):AE M κ (tUn r ta) (Mi.m1 f a):=fun e σ H Hv Q I h =>
 ha e σ H Hv _ I ((ao.mp h).mono fun x hx v H1 Hv1 g1 rx=>hr x v H1 Hv1 Q g1.vw rx (hx.mono fun d hd w H3 Hv3 g3 rw=>hd w H3 Hv3 (g1.trans g3) (KM.mono g1.old rw)))
theorem Le{x:D}{k:Bool→Prop}(h:Fin (Mi.ZW x) k):∃ b,x=.bl b∧k b:=by
 cases x with
 | bl b=>exact⟨b,rfl,h⟩
 | _=>exact h.elim
theorem GK{x:D}{k:Int→Prop}(h:Fin (Mi.Wq x) k):∃ b,x=.int b∧k b:=by
 cases x with
 | int b=>exact⟨b,rfl,h⟩
 | _=>exact h.elim
theorem Xw(ha:AE M qP ta a)(hb:AE M qV tb b):AE M qV (WR ta tb) (Mi.Ge a b):=fun e σ H Hv Q I h =>
 ha e σ H Hv _ I ((ao.mp h).mono fun x hx v H1 Hv1 g1 rx=>by
  obtain⟨k,rfl,hk⟩:=Le (ao.mp hx)
  cases RD.bl rx
  refine⟨k,rfl,?_⟩
  cases k with
  | true=>exact Gm (hb e σ H1 Hv1 Q (I.grow g1) (Fin.mono (Mi.Bx hk) fun d hd w H2 Hv2 g2 rw=>hd w H2 Hv2 (g1.trans g2) rw))
  | false=>exact Gn ((Mi.jX (Mi.By hk)) _ H1 Hv1 g1 jJ))
theorem zP(h1:B2 qV r f)(h2:B2 qV r' g)(ha:AE M qP ta a)(hb:AE M qP tb b)(hc:AE M qP tc c):AE M qV (JW r r' ta tb tc) (Mi.iI f g a b c):=fun e σ H Hv Q I h =>
 ha e σ H Hv _ I ((ao.mp h).mono fun x hx v H1 Hv1 g1 rx=>hb e σ H1 Hv1 _ (I.grow g1) ((ao.mp hx).mono fun y hy u H2 Hv2 g2 ry =>
  h1 x y v u H2 Hv2 _ g2.vw (RB.grow g2 rx) ry ((ao.mp hy).mono fun d hd w H3 Hv3 g3 rw=>by
   obtain⟨k,rfl,hk⟩:=Le (ao.mp hd)
   cases (Aq (H:=Hv3)).mp rw
   refine⟨k,rfl,?_⟩
   cases k with
   | false=>exact Gn ((Mi.jX (Mi.By hk)) _ H3 Hv3 (g1.trans (g2.trans g3)) jJ)
   | true=>exact Gm (hc e σ H3 Hv3 _ (I.grow (g1.trans (g2.trans g3))) ((ao.mp (Mi.Bx hk)).mono fun z hz w4 H4 Hv4 g4 rz =>
    h2 y z u w4 H4 Hv4 Q g4.vw (RB.grow (g3.trans g4) ry) rz (hz.mono fun d hd w5 H5 Hv5 g5 r5=>hd w5 H5 Hv5 (g1.trans (g2.trans (g3.trans (g4.trans g5)))) r5))))))
theorem fH:AO M LC (Mi.nO none):=fun e σ H Hv Q I h=>h H Hv (.refl I.vw)
theorem fG(ha:AE M qP ta a):AO M (WN ta) (Mi.nO (some a)):=fun e σ H Hv Q I h =>
 ha e σ H Hv _ I ((ao.mp h).mono fun x hx v H1 Hv1 g1 rx=>by
  obtain⟨i,rfl,hk⟩:=GK (ao.mp hx)
  exact⟨i,RD.int rx,hk H1 Hv1 g1⟩)
def BS(κ : Kd)(r:V→Option Int→Option Int→Hp→VK→Prop)(f:D→Option Int→Option Int→Rs D):Prop:=∀ x lo hi v H Hv Q,Vw H Hv→RD H Hv x v→Fin (f x lo hi) (fun d=>∀ w H' Hv',dC H Hv H' Hv'→κ H H' Hv' (.d d) w→Q w H')→r v lo hi H Q
theorem qO[KM κ]{r:V→Option Int→Option Int→Hp→VK→Prop}{tl th:TO}{lo hi:Option Mi.E}{f:D→Option Int→Option Int→Rs D}(hr:BS κ r f)(ha:AE M qP ta a)(hl:AO M tl (Mi.nO lo))(hh:AO M th (Mi.nO hi)):AE M κ (tSl r ta tl th) (Mi.dY f a lo hi):=fun e σ H Hv Q I h =>
 ha e σ H Hv _ I ((ao.mp h).mono fun x hx v H1 Hv1 g1 rx=>hl e σ H1 Hv1 _ (I.grow g1) ((ao.mp hx).mono fun l hl H2 Hv2 g2=>hh e σ H2 Hv2 _ (I.grow (g1.trans g2)) ((ao.mp hl).mono fun u hu H3 Hv3 g3 =>
  hr x l u v H3 Hv3 Q g3.vw (RB.grow (g2.trans g3) rx) (hu.mono fun d hd w H4 Hv4 g4 rw=>hd w H4 Hv4 (g1.trans (g2.trans (g3.trans g4))) (KM.mono (g1.old.trans (g2.old.trans g3.old)) rw)))))
theorem qL(ha:AE M qP ta a):AT M (tB ta) (Mi.cB a):=fun e σ H Hv Q I h =>
 ha e σ H Hv _ I ((ao.mp h).mono fun x hx v H1 Hv1 g1 rx=>by
  obtain⟨k,rfl,hk⟩:=Le hx
  exact⟨k,RD.bl rx,hk H1 Hv1 g1⟩)
theorem aZ(ha:AE M qP ta a):AT M (QJ ta) (Mi.cB a):=qL ha
theorem Jo{K:PySem.W.Frag}(ha:AE M qP ta a):AT M (fun σ H Q=>ta σ H fun x H'=>∃ k,Z0 K x H' k∧Q k H') (Mi.La a):=fun e σ H Hv Q I h =>
 ha e σ H Hv _ I ((ao.mp h).mono fun x hx v H1 Hv1 g1 rx=>by
  cases x with
  | non=>cases RD.non rx;exact⟨false,rfl,hx H1 Hv1 g1⟩
  | bl b=>cases RD.bl rx;exact⟨b,rfl,hx H1 Hv1 g1⟩
  | int i=>cases RD.int rx;exact⟨_,rfl,hx H1 Hv1 g1⟩
  | str y =>
   cases RD.str rx
   obtain⟨hz,hq⟩:=Mi.bx hx
   exact⟨_,⟨by rw[sizeLine_eq];exact hz,rfl⟩,hq H1 Hv1 g1⟩
  | lst ds =>
   obtain⟨p,xs,rfl,l,r⟩:=RD.lst g1.vw rx
   refine⟨!xs.isEmpty,.inl ⟨xs,l.sq,rfl⟩,?_⟩
   have:ds.isEmpty=xs.isEmpty:=by cases r<;>rfl
   rw[← this];exact hx H1 Hv1 g1
  | tup ds =>
   obtain⟨p,xs,rfl,l,_,r⟩:=RD.tup g1.vw rx
   refine⟨!xs.isEmpty,.inr (.inl ⟨xs,.inl (.inl l),rfl⟩),?_⟩
   have:ds.isEmpty=xs.isEmpty:=by cases r<;>rfl
   rw[← this];exact hx H1 Hv1 g1)
variable{tt uu:TT}{k l:Mi.C}
theorem vU(ha:AT M tt k)(hb:AT M uu l):AT M (aay tt uu) (Mi.nF k l):=fun e σ H Hv Q I h =>
 ha e σ H Hv _ I ((ao.mp h).mono fun x hx H1 Hv1 g1=>by
  cases x with
  | true=>exact Gm (hb e σ H1 Hv1 Q (I.grow g1) (Fin.mono (Mi.Bx hx) fun b hd H2 Hv2 g2=>hd H2 Hv2 (g1.trans g2)))
  | false=>exact Gn ((Mi.jX (Mi.By hx)) H1 Hv1 g1))
theorem u9(ha:AT M tt k)(hb:AT M uu l):AT M (tOr tt uu) (Mi.xf k l):=fun e σ H Hv Q I h =>
 ha e σ H Hv _ I ((ao.mp h).mono fun x hx H1 Hv1 g1=>by
  cases x with
  | false=>exact Gn (hb e σ H1 Hv1 Q (I.grow g1) (Fin.mono (Mi.By hx) fun b hd H2 Hv2 g2=>hd H2 Hv2 (g1.trans g2)))
  | true=>exact Gm ((Mi.jX (Mi.Bx hx)) H1 Hv1 g1))
theorem t8(ha:AT M tt k):AT M (aas tt) (Mi.mF k):=fun e σ H Hv Q I h =>
 ha e σ H Hv _ I ((ao.mp h).mono fun x hx H1 Hv1 g1=>hx H1 Hv1 g1)
theorem nG:AT M aap Mi.jq:=fun e σ H Hv Q I h=>h H Hv (.refl I.vw)
variable{tr:TA}{as:List Mi.E}{ws:List Mi.EW}
theorem aU:AA M κ vz (Mi.jj []):=fun e σ H Hv Q I h=>h [] H Hv (.refl I.vw) .nil
theorem aD[KM κ][KG κ](ha:AE M κ ta a)(hr:AA M κ tr (Mi.jj as)):AA M κ (lg ta tr) (Mi.jj (a::as)):=fun e σ H Hv Q I h =>
 ha e σ H Hv _ I ((ao.mp h).mono fun x hx v H1 Hv1 g1 rx=>hr e σ H1 Hv1 _ (I.grow g1) ((ao.mp hx).mono fun xs hs vs H2 Hv2 g2 rs =>
  hs (v::vs) H2 Hv2 (g1.trans g2) (.cons (KG.go g2 rx) (rs.imp fun _ _ z=>KM.mono g1.old z))))
theorem bK:AAW M κ vz (Mi.bQ []):=fun e σ H Hv Q I h=>h [] H Hv (.refl I.vw) .nil
theorem aL[KM κ][KG κ]{w:Mi.EW}(ha:AW M κ ta w)(hr:AAW M κ tr (Mi.bQ ws)):AAW M κ (lg ta tr) (Mi.bQ (w::ws)):=fun e σ H Hv Q I h =>
 ha e σ H Hv _ I ((ao.mp h).mono fun x hx v H1 Hv1 g1 rx=>hr e σ H1 Hv1 _ (I.grow g1) ((ao.mp hx).mono fun xs hs vs H2 Hv2 g2 rs =>
  hs (v::vs) H2 Hv2 (g1.trans g2) (.cons (KG.go g2 rx) (rs.imp fun _ _ z=>KM.mono g1.old z))))
theorem gm[KM κ]{r:List V→Hp→VK→Prop}{f:List D→Rs D}(hr:BN κ r f)(ha:AA M qP tr (Mi.jj as)):AE M κ (Ye r tr) (Mi.mN f as):=fun e σ H Hv Q I h =>
 ha e σ H Hv _ I ((ao.mp h).mono fun ds hx vs H1 Hv1 g1 rx=>hr ds vs H1 Hv1 Q g1.vw rx (hx.mono fun d hd w H3 Hv3 g3 rw=>hd w H3 Hv3 (g1.trans g3) (KM.mono g1.old rw)))
theorem lQ(ha:AA M qV tr (Mi.jj as)):AE M qV (Vb tr) (Mi.mN Mi.dTup as):=fun e σ H Hv Q I h =>
 ha e σ H Hv _ I ((ao.mp h).mono fun ds hx vs H1 Hv1 g1 rx=>by
  obtain⟨hz,hq⟩:=Mi.bx hx
  refine⟨by rw[← rx.len,sizeLine_eq];exact hz,fun p hp=>?_⟩
  have g2:dC H1 Hv1 (upd H1 p (.tup vs)) (upd Hv1 p (.tup vs)):=.new g1.vw hp
  exact hq _ _ _ (g1.trans g2) (mO.mpr ⟨p,vs,rfl,bc,dW g2.vis rx⟩))
theorem lU(ha:AA M qV tr (Mi.jj as)):AE M qN (aat tr) (Mi.mN Mi.ie as):=fun e σ H Hv Q I h =>
 ha e σ H Hv _ I ((ao.mp h).mono fun ds hx vs H1 Hv1 g1 rx=>by
  obtain⟨hz,hq⟩:=Mi.bx hx
  refine⟨by rw[← rx.len,sizeLine_eq];exact hz,fun p hp=>?_⟩
  have g2:dC H1 Hv1 (upd H1 p (.lst vs)) Hv1:=.RZ g1.vw trivial hp
  exact hq _ _ _ (g1.trans g2) ⟨p,.lst vs,rfl,g1.old.free hp,bc,pW g1.vw hp,rx⟩)
def m9(f:Mi.Fn):Sp:=fun vs H Q _=>∃ Hv ws,Vw H Hv∧P2 (ug Hv) ws vs∧Fin (f ws) (fun w=>∀ v H' Hv',dC H Hv H' Hv'→qV H H' Hv' w v→Q v H')
def Hl(f:Mi.Fn):Sp:=fun vs H Q _=>∃ Hv ws,Vw H Hv∧P2 (ug Hv) ws vs∧Fin (f ws) (fun w=>∀ v H' Hv',dC H Hv H' Hv'→qN H H' Hv' w v→Q v H')
variable{fn:Mi.Fn}{E:XK}
theorem Wn(ha:AAW M qV tr (Mi.bQ ws)):AW M qV (wu (m9 fn) [] E tr) (Mi.nM fn ws):=fun e σ H Hv Q I h =>
 ha e σ H Hv _ I ((ao.mp h).mono fun ds hx vs H1 Hv1 g1 rx=>by
  rw[List.append_nil]
  exact⟨Hv1,ds,g1.vw,rx,hx.mono fun d hd w H3 Hv3 g3 rw=>hd w H3 Hv3 (g1.trans g3) rw⟩)
theorem Ui(ha:AAW M qV tr (Mi.bQ ws)):AW M qN (wu (Hl fn) [] E tr) (Mi.nM fn ws):=fun e σ H Hv Q I h =>
 ha e σ H Hv _ I ((ao.mp h).mono fun ds hx vs H1 Hv1 g1 rx=>by
  rw[List.append_nil]
  exact⟨Hv1,ds,g1.vw,rx,hx.mono fun d hd w H3 Hv3 g3 rw=>hd w H3 Hv3 (g1.trans g3) (KM.mono (κ:=qN) g1.old rw)⟩)
theorem ZV{w:W}{k:D→Prop}(h:Fin (Mi.asD w) k):∃ d,w=.d d∧k d:=by
 cases w with
 | d x=>exact⟨x,rfl,h⟩
 | _=>exact h.elim
theorem AW.d{w:Mi.EW}(h:AW M κ t w):AE M κ t (fun e=>(w e).bind Mi.asD):=fun e σ H Hv Q I q =>
 h e σ H Hv Q I ((ao.mp q).mono fun w z v H' Hv' g k=>by
  obtain⟨d,rfl,z⟩:=ZV z
  exact z v H' Hv' g k)
theorem cW(ha:AAW M qV tr (Mi.bQ ws)):AE M qV (wu (m9 fn) [] E tr) (Mi.bh fn ws):=(Wn ha).d
theorem pB(ha:AAW M qV tr (Mi.bQ ws)):AE M qN (wu (Hl fn) [] E tr) (Mi.bh fn ws):=(Ui ha).d
def Qn(H:Hp):Hp:=fun a=>match H a with
 | some (.tbl _ _)=>none
 | x=>x
theorem lA{H:Hp}{a:Addr}{o:HO}(h:H a=some o)(n:NT o):Qn H a=some o:=by
 unfold Qn;rw[h];cases o<;>first|rfl|exact n.elim
theorem zu{H:Hp}{a:Addr}{o:HO}(h:Qn H a=some o):H a=some o∧NT o:=by
 unfold Qn at h
 cases q:H a with
 | none=>rw[q] at h;cases h
 | some u =>
  rw[q] at h
  cases u with
  | tbl w ps=>cases h
  | _=>cases h;exact⟨rfl,trivial⟩
theorem Vw.all{H:Hp}(k:kj H):Vw H (Qn H):=⟨fun a o e=>(zu e).1,fun a xs e=>lA e trivial,fun a o u e=>lA e trivial,k,fun a o e=>(zu e).2⟩
theorem RB.abn{H Hv:Hp}(v:Vw H Hv){w:W}{x:V}(h:RB H Hv w x):ug (Qn H) w x:=by
 have s:jg Hv (Qn H):=fun a o e=>lA (v.sub a o e) (v.nv a o e)
 rcases h with h|⟨a,o,rfl,q,c⟩
 ·exact n6 s h
 ·exact uw (lA q c.nt) (c.same s)
def seen(H Hv H':Hp):Hp:=fun a=>match Hv a,H a with
 | none,some _=>none
 | _,_=>Qn H' a
theorem Og{H Hv H':Hp}(v:Vw H Hv)(s:Old H H')(k':kj H'):dC H Hv H' (seen H Hv H'):=by
 have key:∀ a,(∃ o,H a=some o∧Hv a=none∧seen H Hv H' a=none)∨(seen H Hv H' a=Qn H' a∧∀ o,H a=some o→Hv a=some o):=fun a=>by
  cases h1:Hv a with
  | none =>
   cases h2:H a with
   | none=>exact .inr ⟨by unfold seen;rw[h1,h2],fun o e=>by cases e⟩
   | some o=>exact .inl ⟨o,rfl,rfl,by unfold seen;rw[h1,h2]⟩
  | some o =>
   refine .inr ⟨by unfold seen;rw[h1],fun u e=>?_⟩
   rw[v.sub a o h1] at e;exact e
 have back:∀ b o,H' b=some o→NT o→(∃ u,H b=some u)→∃ u,H b=some u:=fun _ _ _ _ z=>z
 refine⟨s,fun b o e=>?_,⟨fun b o e=>?_,fun b xs e=>?_,fun b q u e=>?_,k',fun b o e=>?_⟩,fun b o e n=>?_⟩
 ·rcases key b with ⟨u,_,z,_⟩|⟨z,_⟩
  ·rw[e] at z;cases z
  ·rw[z];exact lA (s.nt b o (v.sub b o e) (v.nv b o e)) (v.nv b o e)
 ·rcases key b with ⟨u,_,_,z⟩|⟨z,_⟩
  ·rw[e] at z;cases z
  ·rw[z] at e;exact(zu e).1
 ·rcases key b with ⟨u,h1,h2,_⟩|⟨z,_⟩
  ·cases u with
   | tbl w ps=>exact absurd e (s.tab h1 trivial)
   | _ =>
    have:=s.nt b _ h1 trivial
    rw[e] at this;cases this
    try (rw[v.tup b xs h1] at h2;cases h2)
  ·rw[z];exact lA e trivial
 ·rcases key b with ⟨w,h1,h2,_⟩|⟨z,_⟩
  ·cases w with
   | tbl w ps=>exact absurd e (s.tab h1 trivial)
   | _ =>
    have:=s.nt b _ h1 trivial
    rw[e] at this;cases this
    try (rw[v.frz b q u h1] at h2;cases h2)
  ·rw[z];exact lA e trivial
 ·rcases key b with ⟨u,_,_,z⟩|⟨z,_⟩
  ·rw[e] at z;cases z
  ·rw[z] at e;exact(zu e).2
 ·rcases key b with ⟨u,h1,h2,z⟩|⟨z,k⟩
  ·exact z
  ·rw[k o e] at n;cases n
theorem NP(ha:AAW M qP tr (Mi.bQ ws)):AE M qV (wu (m9 fn) [] E tr) (Mi.oG fn ws):=fun e σ H Hv Q I h =>
 ha e σ H Hv _ I ((ao.mp (ao.mp h)).mono fun ds hx vs H1 Hv1 g1 rx=>by
  rw[List.append_nil]
  refine⟨Qn H1,ds,.all g1.vw.cd,rx.imp fun w v z=>RB.abn g1.vw z,hx.mono fun w hd v H3 Hv3 g3 rw=>?_⟩
  cases w with
  | d x =>
   obtain⟨hi,hd⟩:=Mi.bx hd
   have g4:=Og g1.vw g3.old g3.vw.cd
   refine hd v H3 _ (g1.trans g4) (Mf g4.vw.tup hi (lr g3.vw.sub rw))
  | _=>exact hd.elim)
end
end A
namespace A
open PySem L2 PyProof.Rows
open Mi (D W Rs Fin ao Out Tg)
variable[Tb:jf]
structure ItD(J:It)(P:Hp→Hp→Prop)(ds:List D):Prop where
 go:∀ i H Hv,P H Hv→Vw H Hv→i < ds.length→J.go i H
 yld:∀ i H Hv x H',P H Hv→Vw H Hv→i < ds.length→J.yld i H x H'→∃ Hv' d,dC H Hv H' Hv'∧ds[i]? = some d∧Rep Hv' d x
 stop:∀ H Hv,P H Hv→Vw H Hv→J.stop ds.length H
def AIc(M:Nat→Bool)(wi:TI)(it:Mi.I):Prop:=∀ e σ H Hv (R:It→Hp→Prop),R0 M e σ H Hv→Fin (it e) (fun ds=>∀ (J:It) H' Hv' (P:Hp→Hp→Prop),dC H Hv H' Hv'→ItD J P ds→P H' Hv'→(∀ H1 Hv1 H2 Hv2,P H1 Hv1→dC H1 Hv1 H2 Hv2→P H2 Hv2)→R J H')→wi σ H R
def N6(M:Nat→Bool)(wi:TI)(it:Mi.I):Prop:=∀ e σ H Hv (R:It→Hp→Prop),R0 M e σ H Hv→Fin (it e) (fun ds=>∀ (J:It) H' Hv' (P:Hp→Hp→Prop),dC H Hv H' Hv'→ItD J P ds→P H' Hv'→(∀ H1 Hv1 H2 Hv2,P H1 Hv1→jg Hv1 Hv2→Vw H2 Hv2→P H2 Hv2)→R J H')→wi σ H R
theorem nC{α : Type}{r:Rs α}{k:α→Prop}(h:Fin r k):∃ x,r=.ok x∧k x:=by
 cases r with
 | ok x=>exact⟨x,rfl,h⟩
 | _=>exact h.elim
section
variable{M:Nat→Bool}{ta tb:TE}{a b:Mi.E}{wi:TI}{it:Mi.I}{tr:TA}{as:List Mi.E}
theorem N6.c(h:N6 M wi it):AIc M wi it:=fun e σ H Hv R I q=>h e σ H Hv R I (q.mono fun ds z J H' Hv' P g o p k=>z J H' Hv' P g o p fun H1 Hv1 H2 Hv2 p g'=>k H1 Hv1 H2 Hv2 p g'.vis g'.vw)
theorem vL{J:It}{Ok:Hp→Prop}{xs:List V}(O:J.Of Ok xs){ds:List D}{P:Hp→Hp→Prop}(ok:∀ H Hv,P H Hv→Vw H Hv→Ok H)(r:∀ H Hv,P H Hv→P2 (Rep Hv) ds xs)(ex:∃ H Hv,P H Hv):ItD J P ds:=by
 have hl:ds.length=xs.length:=by obtain⟨H,Hv,p⟩:=ex;exact(r H Hv p).len
 refine⟨fun i H Hv p v hi=>O.go i H (ok H Hv p v) (by omega),fun i H Hv x H' p v hi y=>?_,fun H Hv p v=>by rw[hl];exact O.stop H (ok H Hv p v)⟩
 obtain⟨rfl,hx⟩:=O.yld i H x H' (ok H Hv p v) (by omega) y
 obtain⟨d,hd,rx⟩:=(r H' Hv p).abk hx
 exact⟨Hv,d,.refl v,hd,rx⟩
def Zc(K:PySem.W.Frag)(tl:TE):TI:=fun σ H R=>Xf K tl σ H R∨abf K tl σ H R∨abg tl σ H R
theorem iY{X:Cx}{tg l:Expr}{tl:TE}(hl:PE X l tl):PI X tg l (Zc X.K tl):=fun pins s σ H R I h=>by
 rcases h with h|h|h
 ·exact Vo hl pins s σ H R I h
 ·exact Yp hl pins s σ H R I h
 ·exact Yq hl pins s σ H R I h
theorem Ho(H:Hp)(z:Str):P2 (Rep H) (z.cps.toList.map fun c=>D.str ⟨#[c]⟩) (JZ z):=by
 unfold JZ
 induction z.cps.toList with
 | nil=>exact .nil
 | cons c r ih=>exact .cons (rn.mpr rfl) ih
theorem lE{K:PySem.W.Frag}(ha:AE M qP ta a):AIc M (Zc K ta) (Mi.rF a):=fun e σ H Hv R I h=>by
 obtain⟨d,hd,h⟩:=nC (ao.mp h)
 have run:∀ Q:VK,(∀ v H' Hv',dC H Hv H' Hv'→RD H' Hv' d v→Q v H')→ta σ H Q:=fun Q q=>ha e σ H Hv Q I (by rw[hd];exact q)
 cases d with
 | lst ds =>
  refine .inl (run _ fun v H' Hv' g r=>?_)
  obtain⟨p,xs,rfl,l,r⟩:=RD.lst g.vw r
  exact⟨p,rfl,⟨xs,l.sq⟩,h (Itl K p) H' Hv' (fun H Hv=>Lst H p xs∧P2 (Rep Hv) ds xs) g (vL Ms (fun H Hv p v=>p.1.sq) (fun H Hv p=>p.2) ⟨H',Hv',l,r⟩) ⟨l,r⟩ fun H1 Hv1 H2 Hv2 z g'=>⟨z.1.old g'.old,dW g'.vis z.2⟩⟩
 | tup ds =>
  refine .inr (.inl (run _ fun v H' Hv' g r=>?_))
  obtain⟨p,xs,rfl,l,_,r⟩:=RD.tup g.vw r
  exact⟨p,rfl,⟨xs,.inl (.inl l)⟩,h (Itt K p) H' Hv' (fun H Hv=>H p=some (.tup xs)∧P2 (Rep Hv) ds xs) g (vL RK (fun H Hv p v=>.inl (.inl p.1)) (fun H Hv p=>p.2) ⟨H',Hv',l,r⟩) ⟨l,r⟩ fun H1 Hv1 H2 Hv2 z g'=>⟨g'.old.at z.1,dW g'.vis z.2⟩⟩
 | str z =>
  refine .inr (.inr (run _ fun v H' Hv' g r=>?_))
  exact⟨z,RD.str r,h (Z4 z) H' Hv' (fun _ _=>True) g (vL RL (fun _ _ _ _=>trivial) (fun H Hv _=>Ho Hv z) ⟨H,Hv,trivial⟩) trivial fun _ _ _ _ _ _=>trivial⟩
 | _=>exact h.elim
theorem vX{K:PySem.W.Frag}(ha:AE M qV ta a):N6 M (Zc K ta) (Mi.rF a):=fun e σ H Hv R I h=>by
 obtain⟨d,hd,h⟩:=nC (ao.mp h)
 have run:∀ Q:VK,(∀ v H' Hv',dC H Hv H' Hv'→Rep Hv' d v→Q v H')→ta σ H Q:=fun Q q=>ha e σ H Hv Q I (by rw[hd];exact q)
 cases d with
 | lst ds =>
  refine .inl (run _ fun v H' Hv' g r=>?_)
  obtain⟨p,xs,rfl,l,r⟩:=oU.mp r
  exact⟨p,rfl,⟨xs,(l.same g.vw.sub).sq⟩,h (Itl K p) H' Hv' (fun H Hv=>Lst Hv p xs∧P2 (Rep Hv) ds xs) g (vL Ms (fun H Hv p v=>(p.1.same v.sub).sq) (fun H Hv p=>p.2) ⟨H',Hv',l,r⟩) ⟨l,r⟩ fun H1 Hv1 H2 Hv2 z s v=>⟨z.1.same s,dW s z.2⟩⟩
 | tup ds =>
  refine .inr (.inl (run _ fun v H' Hv' g r=>?_))
  obtain⟨p,xs,rfl,l,r⟩:=mO.mp r
  exact⟨p,rfl,⟨xs,.inl (.inl (g.vw.sub _ _ l))⟩,h (Itt K p) H' Hv' (fun H Hv=>Hv p=some (.tup xs)∧P2 (Rep Hv) ds xs) g (vL RK (fun H Hv p v=>.inl (.inl (v.sub _ _ p.1))) (fun H Hv p=>p.2) ⟨H',Hv',l,r⟩) ⟨l,r⟩ fun H1 Hv1 H2 Hv2 z s v=>⟨s _ _ z.1,dW s z.2⟩⟩
 | str z =>
  refine .inr (.inr (run _ fun v H' Hv' g r=>?_))
  exact⟨z,rn.mp r,h (Z4 z) H' Hv' (fun _ _=>True) g (vL RL (fun _ _ _ _=>trivial) (fun H Hv _=>Ho Hv z) ⟨H,Hv,trivial⟩) trivial fun _ _ _ _ _ _ _=>trivial⟩
 | _=>exact h.elim
theorem Vg(H:Hp)(lo hi:Int):P2 (Rep H) (Mi.dD lo hi) (J2 lo (hi - lo).toNat):=by
 unfold Mi.dD J2
 induction List.range (hi - lo).toNat with
 | nil=>exact .nil
 | cons c r ih=>exact .cons (rA.mpr rfl) ih
theorem Pa(lo hi:Int)(H Hv:Hp):ItD (Itr lo (hi - lo).toNat) (fun _ _=>True) (Mi.dD lo hi):=vL RM (fun _ _ _ _=>trivial) (fun H Hv _=>Vg Hv lo hi) ⟨H,Hv,trivial⟩
theorem jH(ha:AE M qP ta a):N6 M (Xe (lg ta vz)) (Mi.ik a):=fun e σ H Hv R I h =>
 ha e σ H Hv _ I ((ao.mp h).mono fun x hx v H1 Hv1 g1 rx=>by
  obtain⟨j,rfl,hk⟩:=GK (ao.mp hx)
  obtain⟨hz,hq⟩:=Mi.bx hk
  cases RD.int rx
  refine⟨j,rfl,hz.1,hz.2,?_⟩
  have:=hq (Itr 0 (j - 0).toNat) H1 Hv1 _ g1 (Pa 0 j H Hv) trivial fun _ _ _ _ _ _ _=>trivial
  rw[Int.sub_zero] at this
  exact this)
end
def Zf:List Nat→Qo
 | []=>Tq
 | i::r=>Iu (rP i) (Zf r)
def z7:Tg→List Nat
 | .n i=>[i]
 | .t is=>is
def tgG(K:PySem.W.Frag):Tg→TG
 | .n i=>rP i
 | .t is=>Zq K is.length (Zf is)
section
variable{P:Mi.Env→L2.St→Prop}{H Hv:Hp}
theorem Tj:∀ {is:List Nat} {ds:List D} {xs:List V} {e:Mi.Env} {σ : L2.St} {Q:L2.St→Hp→Prop},(∀ i∈is,∀ e σ d v,P e σ→Rep Hv d v→P (e.set i (some (.d d))) (σ.set i (some v)))→P e σ→P2 (Rep Hv) ds xs →
 Fin (Mi.qY is ds e) (fun e'=>∀ σ',P e' σ'→Q σ' H)→Zf is xs σ H Q
 | [],[],xs,e,σ,Q,cl,p,r,h=>by
  cases r
  exact⟨rfl,h σ p⟩
 | [],_::_,xs,e,σ,Q,cl,p,r,h=>h.elim
 | _::_,[],xs,e,σ,Q,cl,p,r,h=>h.elim
 | i::is,d::ds,xs,e,σ,Q,cl,p,r,h=>by
  cases r with
  | cons x t=>exact⟨_,_,rfl,Tj (fun j hj=>cl j (List.mem_cons_of_mem _ hj)) (cl i List.mem_cons_self _ _ _ _ p x) t h⟩
theorem Af:∀ {is:List Nat} {ds:List D} {e:Mi.Env} {k:Mi.Env→Prop},Fin (Mi.qY is ds e) k→ds.length=is.length
 | [],[],_,_,_=>rfl
 | [],_::_,_,_,h=>h.elim
 | _::_,[],_,_,h=>h.elim
 | i::is,d::ds,e,k,h=>by rw[List.length_cons,List.length_cons,Af (is:=is) (ds:=ds) (k:=k) h]
theorem JV{K:PySem.W.Frag}(vw:Vw H Hv){tg:Tg}{d:D}{v:V}{e:Mi.Env}{σ : L2.St}{Q:L2.St→Hp→Prop}(cl:∀ i∈z7 tg,∀ e σ d v,P e σ→Rep Hv d v→P (e.set i (some (.d d))) (σ.set i (some v)))(p:P e σ)(r:Rep Hv d v)
 (h:Fin (tg.put d e) (fun e'=>∀ σ',P e' σ'→Q σ' H)):tgG K tg v σ H Q:=by
 cases tg with
 | n i=>exact h _ (cl i (by simp[z7]) _ _ _ _ p r)
 | t is =>
  cases d with
  | tup ds =>
   obtain⟨a,xs,e1,l,r⟩:=mO.mp r
   exact⟨a,xs,e1,.inl (.inl (vw.sub _ _ l)),by rw[← r.len];exact Af h,Tj cl p r h⟩
  | _=>exact h.elim
end
theorem jV{α : Type}{l:List α}{i j:Nat}{x y:α}(h:(l.set i x)[j]? = some y):(i=j∧x=y∧i < l.length)∨(i≠j∧l[j]? = some y):=by
 rw[List.getElem?_set] at h
 split at h
 ·split at h
  ·exact .inl ⟨‹_›,Option.some.inj h,by omega⟩
  ·cases h
 ·exact .inr ⟨‹_›,h⟩
theorem R0.set{M:Nat→Bool}{e:Mi.Env}{σ : L2.St}{H Hv:Hp}(I:R0 M e σ H Hv){i:Nat}{w:W}{v:V}(hm:M i=false)(r:ug Hv w v):R0 M (e.set i (some w)) (σ.set i (some v)) H Hv:=by
 refine⟨I.vw,by rw[List.length_set,List.length_set];exact I.len,fun j w' h m=>?_,fun j w' h m=>?_⟩
 ·rcases jV h with ⟨rfl,h,l⟩|⟨n,h⟩
  ·cases h
   exact⟨v,by rw[List.getElem?_set_self (by rw[I.len];exact l)],r⟩
  ·obtain⟨u,q,z⟩:=I.nob j w' h m
   exact⟨u,by rw[List.getElem?_set_ne n];exact q,z⟩
 ·rcases jV h with ⟨rfl,h,l⟩|⟨n,h⟩
  ·rw[hm] at m;cases m
  ·obtain⟨u,q,z⟩:=I.own j w' h m
   exact⟨u,by rw[List.getElem?_set_ne n];exact q,z⟩
theorem R1.set{M:Nat→Bool}{H0 Hv0:Hp}{e:Mi.Env}{σ : L2.St}{H Hv:Hp}(I:R1 M H0 Hv0 e σ H Hv){i:Nat}{w:W}{v:V}(hm:M i=false)(r:ug Hv w v):R1 M H0 Hv0 (e.set i (some w)) (σ.set i (some v)) H Hv:=by
 have nj:∀ {j:Nat} {w':W},(e.set i (some w))[j]? = some (some w')→M j=true→i≠j∧e[j]? = some (some w'):=fun {j w'} h m=>by
  rcases jV h with ⟨rfl,_,_⟩|⟨n,h⟩
  ·rw[hm] at m;cases m
  ·exact⟨n,h⟩
 refine⟨I.toR0.set hm r,I.gw,fun j w' a h m q=>?_,fun j k w1 w2 a b hjk h1 h2 m1 m2 q1 q2=>?_⟩
 ·obtain⟨n,h⟩:=nj h m
  rw[List.getElem?_set_ne n] at q
  exact I.fresh j w' a h m q
 ·obtain⟨n1,h1⟩:=nj h1 m1
  obtain⟨n2,h2⟩:=nj h2 m2
  rw[List.getElem?_set_ne n1] at q1
  rw[List.getElem?_set_ne n2] at q2
  exact I.sep j k w1 w2 a b hjk h1 h2 m1 m2 q1 q2
def Ay(ρ : List (Option Nat))(M:Nat→Bool):Nat→Bool:=fun i=>match ρ[i]? with
 | some (some j)=>M j
 | _=>false
theorem HB{α : Type}{ρ : List (Option Nat)}{e:List (Option α)}{i:Nat}{w:α}(h:(ρ.map fun o=>o.bind fun j=>(e[j]?).join)[i]? = some (some w)):∃ j,ρ[i]? = some (some j)∧e[j]? = some (some w):=by
 rw[List.getElem?_map] at h
 cases hr:ρ[i]? with
 | none=>rw[hr] at h;cases h
 | some o =>
  rw[hr] at h
  cases o with
  | none=>cases h
  | some j =>
   refine⟨j,rfl,?_⟩
   have h:(e[j]?).join=some w:=Option.some.inj h
   cases hq:e[j]? with
   | none=>rw[hq] at h;cases h
   | some o' => rw [hq] at h; have h : o' = some w := h
                rw[h]
theorem Mh{α : Type}{ρ : List (Option Nat)}{e:List (Option α)}{i j:Nat}{w:α}(h1:ρ[i]? = some (some j))(h2:e[j]? = some (some w)):(ρ.map fun o=>o.bind fun j=>(e[j]?).join)[i]? = some (some w):=by
 rw[List.getElem?_map,h1]
 show some ((e[j]?).join)=_
 rw[h2];rfl
theorem R0.pick{M:Nat→Bool}{e:Mi.Env}{σ : L2.St}{H Hv:Hp}(I:R0 M e σ H Hv)(ρ : List (Option Nat)):R0 (Ay ρ M) (Mi.qm ρ e) (L2.pick ρ σ) H Hv:=by
 refine⟨I.vw,by unfold Mi.qm L2.pick;rw[List.length_map,List.length_map],fun i w h m=>?_,fun i w h m=>?_⟩
 ·obtain⟨j,h1,h2⟩:=HB h
  have m:M j=false:=by unfold Ay at m;rw[h1] at m;exact m
  obtain⟨v,q,z⟩:=I.nob j w h2 m
  exact⟨v,Mh h1 q,z⟩
 ·obtain⟨j,h1,h2⟩:=HB h
  have m:M j=true:=by unfold Ay at m;rw[h1] at m;exact m
  obtain⟨v,q,z⟩:=I.own j w h2 m
  exact⟨v,Mh h1 q,z⟩
theorem Pz{tg:Tg}{c:Mi.C}{a:Mi.E}{e:Mi.Env}{x:D}{r:List D}{k:List D→Prop}(h:Fin (Mi.gC tg c a e (x::r)) k) :
 Fin (tg.put x e) fun e1=>Fin (c e1) fun b=>if b=true then Fin (a e1) fun y=>Fin (Mi.gC tg c a e r) fun ys=>k (y::ys) else Fin (Mi.gC tg c a e r) k:=by
 refine(ao.mp h).mono fun e1 h1=>(ao.mp h1).mono fun b h2=>?_
 cases b with
 | true=>exact Gm ((ao.mp (Mi.Bx h2)).mono fun y h3=>(ao.mp h3).mono fun ys h4=>h4)
 | false=>exact Gn (Mi.By h2)
theorem jA{M:Nat→Bool}{K:PySem.W.Frag}{ρ : List (Option Nat)}{wi:TI}{it:Mi.I}{tg:Tg}{tc:TT}{c:Mi.C}{te:TE}{a:Mi.E}(hi:AIc M wi it)(hm:∀ i∈z7 tg,Ay ρ M i=false)(hc:AT (Ay ρ M) tc c)(he:AE (Ay ρ M) qV te a) :
 AE M qN (LK wi ρ (tgG K tg) tc te) (Mi.gr ρ it tg c a):=fun e σ H Hv Q I h =>
 hi e σ H Hv _ I ((ao.mp h).mono fun ds h1 J H1 Hv1 P g1 O p1 per=>by
  obtain⟨hz,h1⟩:=Mi.bx h1
  have h1:=ao.mp h1
  have I1:=I.grow g1
  refine⟨fun i m acc H'=>m=ds.length - i∧i≤ds.length∧∃ Hv',dC H1 Hv1 H' Hv'∧P H' Hv'∧acc.length≤i∧∃ done,P2 (Rep Hv') done acc∧Fin (Mi.gC tg c a (Mi.qm ρ e) (ds.drop i)) fun ys=>∀ v H2 Hv2,dC H Hv H2 Hv2→qN H H2 Hv2 (.d (.lst (done++ys))) v→Q v H2,
   ⟨ds.length,by simp,Nat.zero_le _,Hv1,.refl g1.vw,p1,Nat.le_refl _,[],.nil,by rw[List.drop_zero];exact h1.mono fun ys z=>z⟩,?_⟩
  rintro i m acc H' ⟨rfl,hle,Hv',g,pp,l,done,pd,hf⟩
  by_cases hlt:i < ds.length
  ·refine .inr ⟨O.go i H' Hv' pp g.vw hlt,by rw[sizeLine_eq];omega,fun acc' H2=>∃ Hv2,dC H1 Hv1 H2 Hv2∧P H2 Hv2∧acc'.length≤i+1∧∃ done,P2 (Rep Hv2) done acc'∧Fin (Mi.gC tg c a (Mi.qm ρ e) (ds.drop (i+1))) fun ys=>∀ v H3 Hv3,dC H Hv H3 Hv3→qN H H3 Hv3 (.d (.lst (done++ys))) v→Q v H3,
    fun acc' H2 z=>⟨ds.length - (i+1),by omega,rfl,hlt,z⟩,fun x H2 y=>?_⟩
   obtain⟨Hv2,d,g2,hd,rx⟩:=O.yld i H' Hv' x H2 pp g.vw hlt y
   have g12:=g.trans g2
   have hdr:ds.drop i=d::ds.drop (i+1):=by
    obtain⟨hl,e1⟩:=List.getElem?_eq_some_iff.mp hd
    rw[List.drop_eq_getElem_cons hl,e1]
   rw[hdr] at hf
   have hf:=Pz hf
   refine JV (P:=fun e1 σ1=>R0 (Ay ρ M) e1 σ1 H2 Hv2) g2.vw (fun j hj e1 σ1 d1 v1 r1 z=>r1.set (hm j hj) z) ((I1.grow g12).pick ρ) rx (hf.mono fun e1 hf1 σ1 r1=>?_)
   refine hc e1 σ1 H2 Hv2 _ r1 (hf1.mono fun b hb H3 Hv3 g3=>?_)
   cases b with
   | true =>
    refine Gm (he e1 σ1 H3 Hv3 _ (r1.grow g3) (Fin.mono (by simpa using hb) fun y hy v H4 Hv4 g4 ry=>?_))
    exact⟨Hv4,g12.trans (g3.trans g4),per _ _ _ _ pp (g2.trans (g3.trans g4)),by rw[List.length_append,List.length_singleton];omega,done++[y],(dW (g2.trans (g3.trans g4)).vis pd).append (.cons ry .nil),hy.mono fun ys z v H5 Hv5 g5 k=>z v H5 Hv5 g5 (by rw[List.append_assoc] at k;exact k)⟩
   | false=>exact Gn ⟨Hv3,g12.trans g3,per _ _ _ _ pp (g2.trans g3),by omega,done,dW (g2.trans g3).vis pd,by simpa using hb⟩
  ·have hi:i=ds.length:=by omega
   subst hi
   refine .inl ⟨O.stop H' Hv' pp g.vw,fun p hp=>?_⟩
   rw[List.drop_of_length_le (Nat.le_refl _)] at hf
   have g2:dC H' Hv' (upd H' p (.lst acc)) Hv':=.RZ g.vw trivial hp
   refine hf _ _ _ (g1.trans (g.trans g2)) ⟨p,.lst acc,rfl,(g1.old.trans g.old).free hp,bc,pW g.vw hp,?_⟩
   show P2 (Rep Hv') (done++[]) acc
   rw[List.append_nil];exact pd)
def pC(M:Nat→Bool)(κ : Kd)(H0 Hv0:Hp)(D:Ends)(Hv:Hp):Out→Prop
 | .nx e=>∀ σ H' Hv',R1 M H0 Hv0 e σ H' Hv'→jg Hv Hv'→D.nx σ H'
 | .rt w=>∀ v H' Hv',dC H0 Hv0 H' Hv'→κ H0 H' Hv' w v→D.rt v H'
 | .bk e=>∀ σ H' Hv',R1 M H0 Hv0 e σ H' Hv'→jg Hv Hv'→D.bk σ H'
 | .ct e=>∀ σ H' Hv',R1 M H0 Hv0 e σ H' Hv'→jg Hv Hv'→D.ct σ H'
def AS(M:Nat→Bool)(κ : Kd)(t:TS)(m:Mi.S):Prop:=∀ H0 Hv0 e σ H Hv D,R1 M H0 Hv0 e σ H Hv→Fin (m e) (pC M κ H0 Hv0 D Hv)→t D σ H
section
variable{M:Nat→Bool}{κ : Kd}{t u:TS}{m n:Mi.S}{te:TE}{a b:Mi.E}{w:Mi.EW}
theorem bw:AS M κ WQ Mi.aX:=fun H0 Hv0 e σ H Hv D I h=>h σ H Hv I (jg.refl _)
theorem m8:AS M κ QM Mi.jY:=fun H0 Hv0 e σ H Hv D I h=>h
theorem aN(h1:AS M κ t m)(h2:AS M κ u n):AS M κ (Yb t u) (Mi.aV m n):=fun H0 Hv0 e σ H Hv D I h =>
 h1 H0 Hv0 e σ H Hv _ I ((ao.mp h).mono fun o ho=>by
  cases o with
  | nx e'=>exact fun σ' H' Hv' I' s=>h2 H0 Hv0 e' σ' H' Hv' D I' (Fin.mono ho fun o z=>by
   cases o with
   | nx e2=>exact fun σ2 H2 Hv2 I2 s2=>z σ2 H2 Hv2 I2 (s.trans s2)
   | rt w=>exact z
   | bk e2=>exact fun σ2 H2 Hv2 I2 s2=>z σ2 H2 Hv2 I2 (s.trans s2)
   | ct e2=>exact fun σ2 H2 Hv2 I2 s2=>z σ2 H2 Hv2 I2 (s.trans s2))
  | rt w=>exact ho
  | bk e'=>exact ho
  | ct e'=>exact ho)
theorem xn(ha:AE M qP te a):AS M κ (Hi te) (Mi.qe a):=fun H0 Hv0 e σ H Hv D I h =>
 ha e σ H Hv _ I.toR0 ((ao.mp h).mono fun d hd v H1 Hv1 g1 r=>hd σ H1 Hv1 (I.grow g1) g1.vis)
theorem bF(i:Nat)(hm:M i=false)(ha:AE M qV te a):AS M κ (JX te (rP i)) (Mi.bV i a):=fun H0 Hv0 e σ H Hv D I h =>
 ha e σ H Hv _ I.toR0 ((ao.mp h).mono fun d hd v H1 Hv1 g1 r=>hd _ H1 Hv1 ((I.grow g1).set hm r) g1.vis)
theorem cM(ha:AW M qV te w):AS M qV (Vc te) (Mi.cY w):=fun H0 Hv0 e σ H Hv D I h =>
 ha e σ H Hv _ I.toR0 ((ao.mp h).mono fun d hd v H1 Hv1 g1 r=>hd v H1 Hv1 (I.gw.trans g1) r)
theorem zK(ha:AW M qN te w):AS M qN (Vc te) (Mi.cY w):=fun H0 Hv0 e σ H Hv D I h =>
 ha e σ H Hv _ I.toR0 ((ao.mp h).mono fun d hd v H1 Hv1 g1 r=>hd v H1 Hv1 (I.gw.trans g1) (KM.mono (κ:=qN) I.gw.old r))
theorem cQ{tt:TT}{c:Mi.C}(hc:AT M tt c)(h1:AS M κ t m)(h2:AS M κ u n):AS M κ (Yc tt t u) (Mi.fL c m n):=fun H0 Hv0 e σ H Hv D I h =>
 hc e σ H Hv _ I.toR0 ((ao.mp h).mono fun b hb H1 Hv1 g1=>by
  have up:∀ o,pC M κ H0 Hv0 D Hv o→pC M κ H0 Hv0 D Hv1 o:=fun o z=>by
   cases o with
   | nx e2=>exact fun σ2 H2 Hv2 I2 s2=>z σ2 H2 Hv2 I2 (g1.vis.trans s2)
   | rt w=>exact z
   | bk e2=>exact fun σ2 H2 Hv2 I2 s2=>z σ2 H2 Hv2 I2 (g1.vis.trans s2)
   | ct e2=>exact fun σ2 H2 Hv2 I2 s2=>z σ2 H2 Hv2 I2 (g1.vis.trans s2)
  cases b with
  | true=>exact Gm (h1 H0 Hv0 e σ H1 Hv1 D (I.grow g1) (Fin.mono (Mi.Bx hb) up))
  | false=>exact Gn (h2 H0 Hv0 e σ H1 Hv1 D (I.grow g1) (Fin.mono (Mi.By hb) up)))
theorem pC.up{H0 Hv0 Hv Hv1:Hp}{D:Ends}(s:jg Hv Hv1){o:Out}(z:pC M κ H0 Hv0 D Hv o):pC M κ H0 Hv0 D Hv1 o:=by
 cases o with
 | nx e2=>exact fun σ2 H2 Hv2 I2 s2=>z σ2 H2 Hv2 I2 (s.trans s2)
 | rt w=>exact z
 | bk e2=>exact fun σ2 H2 Hv2 I2 s2=>z σ2 H2 Hv2 I2 (s.trans s2)
 | ct e2=>exact fun σ2 H2 Hv2 I2 s2=>z σ2 H2 Hv2 I2 (s.trans s2)
theorem pN{K:PySem.W.Frag}{wi:TI}{it:Mi.I}{tg:Tg}(hi:N6 M wi it)(hm:∀ i∈z7 tg,M i=false)(hb:AS M κ t m):AS M κ (Yd wi (tgG K tg) t) (Mi.oA it tg m):=fun H0 Hv0 e σ H Hv D I h =>
 hi e σ H Hv _ I.toR0 ((ao.mp h).mono fun ds h1 J H1 Hv1 P g1 O p1 per=>by
  refine⟨fun i k σ' H'=>k=ds.length - i∧i≤ds.length∧∃ e' Hv',R1 M H0 Hv0 e' σ' H' Hv'∧P H' Hv'∧Fin (Mi.kW tg m (ds.drop i) e') (pC M κ H0 Hv0 D Hv'),
   ⟨ds.length,by simp,Nat.zero_le _,e,Hv1,I.grow g1,p1,by rw[List.drop_zero];exact h1.mono fun o z=>z.up g1.vis⟩,?_⟩
  rintro i k σ' H' ⟨rfl,hle,e',Hv',I',pp,hf⟩
  by_cases hlt:i < ds.length
  ·refine .inr ⟨O.go i H' Hv' pp I'.vw hlt,fun σ2 H2=>∃ e2 Hv2,R1 M H0 Hv0 e2 σ2 H2 Hv2∧P H2 Hv2∧Fin (Mi.kW tg m (ds.drop (i+1)) e2) (pC M κ H0 Hv0 D Hv2),
    fun σ2 H2 z=>⟨ds.length - (i+1),by omega,rfl,hlt,z⟩,fun x H2 y=>?_⟩
   obtain⟨Hv2,d,g2,hd,rx⟩:=O.yld i H' Hv' x H2 pp I'.vw hlt y
   have I2:=I'.grow g2
   have hdr:ds.drop i=d::ds.drop (i+1):=by
    obtain⟨hl,e1⟩:=List.getElem?_eq_some_iff.mp hd
    rw[List.drop_eq_getElem_cons hl,e1]
   rw[hdr] at hf
   refine JV (P:=fun e1 σ1=>R1 M H0 Hv0 e1 σ1 H2 Hv2) g2.vw (fun j hj e1 σ1 d1 v1 r1 z=>r1.set (hm j hj) z) I2 rx ((ao.mp hf).mono fun e1 h1 σ1 I1=>?_)
   refine hb H0 Hv0 e1 σ1 H2 Hv2 _ I1 ((ao.mp h1).mono fun o ho=>?_)
   cases o with
   | nx e2=>exact fun σ2 H3 Hv3 I3 s3=>⟨e2,Hv3,I3,per _ _ _ _ pp (g2.vis.trans s3) I3.vw,Fin.mono ho fun o z=>z.up (g2.vis.trans s3)⟩
   | ct e2=>exact fun σ2 H3 Hv3 I3 s3=>⟨e2,Hv3,I3,per _ _ _ _ pp (g2.vis.trans s3) I3.vw,Fin.mono ho fun o z=>z.up (g2.vis.trans s3)⟩
   | bk e2=>exact fun σ2 H3 Hv3 I3 s3=>ho σ2 H3 Hv3 I3 (g2.vis.trans s3)
   | rt w=>exact ho
  ·have hi:i=ds.length:=by omega
   subst hi
   refine .inl ⟨O.stop H' Hv' pp I'.vw,?_⟩
   rw[List.drop_of_length_le (Nat.le_refl _)] at hf
   exact hf σ' H' Hv' I' (jg.refl _))
theorem Ul{tt:TT}{c:Mi.C}(k:Nat)(hc:AT M tt c)(hb:AS M κ t m):AS M κ (QH tt t) (Mi.xT k c m):=fun H0 Hv0 e σ H Hv D I h=>by
 refine⟨fun j σ' H'=>∃ e' Hv',R1 M H0 Hv0 e' σ' H' Hv'∧Fin (Mi.lV c m j e') (pC M κ H0 Hv0 D Hv'),⟨k,e,Hv,I,h⟩,?_⟩
 rintro j σ' H' ⟨e',Hv',I',hf⟩
 cases j with
 | zero=>exact hf.elim
 | succ j =>
  refine hc e' σ' H' Hv' _ I'.toR0 ((ao.mp hf).mono fun b hb' H1 Hv1 g1=>?_)
  cases b with
  | false=>exact Gn ((Mi.jX (Mi.By hb')) σ' H1 Hv1 (I'.grow g1) g1.vis)
  | true =>
   refine Gm ⟨fun σ2 H2=>∃ e2 Hv2,R1 M H0 Hv0 e2 σ2 H2 Hv2∧Fin (Mi.lV c m j e2) (pC M κ H0 Hv0 D Hv2),fun σ2 H2 z=>⟨j,Nat.lt_succ_self j,z⟩,?_⟩
   refine hb H0 Hv0 e' σ' H1 Hv1 _ (I'.grow g1) ((ao.mp (Mi.Bx hb')).mono fun o ho=>?_)
   cases o with
   | nx e2=>exact fun σ2 H2 Hv2 I2 s2=>⟨e2,Hv2,I2,Fin.mono ho fun o z=>z.up (g1.vis.trans s2)⟩
   | ct e2=>exact fun σ2 H2 Hv2 I2 s2=>⟨e2,Hv2,I2,Fin.mono ho fun o z=>z.up (g1.vis.trans s2)⟩
   | bk e2=>exact fun σ2 H2 Hv2 I2 s2=>ho σ2 H2 Hv2 I2 (g1.vis.trans s2)
   | rt w=>exact ho
end
end A
namespace A
open PySem L2 PyProof.Rows
open Mi (D W Rs Fin ao Out Tg)
variable[Tb:jf]
section
variable{M:Nat→Bool}{κ : Kd}{te:TE}{a b:Mi.E}{w:Mi.EW}{K:PySem.W.Frag}
theorem R1.write{H0 Hv0:Hp}{e:Mi.Env}{σ : L2.St}{H Hv:Hp}(I:R1 M H0 Hv0 e σ H Hv){i:Nat}{w w':W}{p:Addr}{o:HO}(hm:M i=true)(he:e[i]? = some (some w))(hs:σ[i]? = some (some (.ref p)))(c:gV Hv w' o):R1 M H0 Hv0 (e.set i (some w')) σ (upd H p o) Hv:=by
 have hp:∃ o',H p=some o'∧Hv p=none∧JC o':=by
  obtain⟨v,q,a,o',e1,q1,n,c'⟩:=I.own i w he hm
  rw[hs] at q;cases q;cases e1
  exact⟨o',q1,n,c'.Xn⟩
 obtain⟨o',hp,hn,hcc⟩:=hp
 have h0:H0 p=none:=I.fresh i w p he hm hs
 have vw:Vw (upd H p o) Hv:=by
  refine⟨fun b u q=>?_,fun b xs q=>?_,fun b z u q=>?_,I.vw.cd.put hp hcc c.nt,I.vw.nv⟩
  ·rw[aM (bf q hn)];exact I.vw.sub b u q
  ·by_cases hb:b=p
   ·subst hb;rw[bc] at q;cases q;exact c.cell.elim
   ·rw[aM hb] at q;exact I.vw.tup b xs q
  ·by_cases hb:b=p
   ·subst hb;rw[bc] at q;cases q;exact c.cell.elim
   ·rw[aM hb] at q;exact I.vw.frz b z u q
 have get:∀ {j:Nat} {w2:W},(e.set i (some w'))[j]? = some (some w2)→(i=j∧w'=w2)∨(i≠j∧e[j]? = some (some w2)):=fun {j w2} h=>by
  rcases jV h with ⟨x,y,_⟩|z
  ·exact .inl ⟨x,Option.some.inj y⟩
  ·exact .inr z
 have get':∀ {j:Nat} {w2:W},(e.set i (some w'))[j]? = some (some w2)→∃ w3,e[j]? = some (some w3):=fun {j w2} h=>by
  rcases get h with ⟨x,_⟩|⟨_,z⟩
  ·subst x;exact⟨w,he⟩
  ·exact⟨w2,z⟩
 refine⟨⟨vw,by rw[List.length_set];exact I.len,fun j w2 h m=>?_,fun j w2 h m=>?_⟩,⟨I.gw.old.put h0 hp,I.gw.vis,vw,I.gw.hid⟩,fun j w2 x h m q=>?_,fun j k w1 w2 x y hjk h1 h2 m1 m2 q1 q2=>?_⟩
 ·rcases get h with ⟨rfl,_⟩|⟨_,z⟩
  ·rw[hm] at m;cases m
  ·exact I.nob j w2 z m
 ·rcases get h with ⟨rfl,rfl⟩|⟨n,z⟩
  ·exact⟨.ref p,hs,p,o,rfl,bc,hn,c⟩
  ·obtain⟨v,q,x,u,e1,q1,n1,c1⟩:=I.own j w2 z m
   subst e1
   have:=I.sep i j w w2 p x n he z hm m hs q
   exact⟨.ref x,q,x,u,rfl,by rw[aM (Ne.symm this)];exact q1,n1,c1⟩
 ·obtain⟨w3,z⟩:=get' h
  exact I.fresh j w3 x z m q
 ·obtain⟨w3,z3⟩:=get' h1
  obtain⟨w4,z4⟩:=get' h2
  exact I.sep j k w3 w4 x y hjk z3 z4 m1 m2 q1 q2
theorem R1.cell{H0 Hv0:Hp}{e:Mi.Env}{σ : L2.St}{H Hv:Hp}(I:R1 M H0 Hv0 e σ H Hv){i:Nat}{w:W}(hm:M i=true)(he:e[i]? = some (some w)):∃ p o,σ[i]? = some (some (.ref p))∧H p=some o∧Hv p=none∧H0 p=none∧gV Hv w o:=by
 obtain⟨v,q,p,o,rfl,q1,n,c⟩:=I.own i w he hm
 exact⟨p,o,q,q1,n,I.fresh i w p he hm q,c⟩
theorem zH{e:Mi.Env}{i:Nat}{k:List D→Prop}(h:Fin (Mi.getL e i) k):∃ ds,e[i]? = some (some (.d (.lst ds)))∧k ds:=by
 unfold Mi.getL at h
 split at h
 ·exact⟨_,‹_›,h⟩
 ·exact h.elim
theorem R1.list{H0 Hv0:Hp}{e:Mi.Env}{σ : L2.St}{H Hv:Hp}(I:R1 M H0 Hv0 e σ H Hv){i:Nat}{ds:List D}(hm:M i=true)(he:e[i]? = some (some (.d (.lst ds)))):∃ p xs,σ[i]? = some (some (.ref p))∧H p=some (.lst xs)∧Hv p=none∧P2 (Rep Hv) ds xs:=by
 obtain⟨p,o,q,q1,n,_,c⟩:=I.cell hm he
 cases o with
 | lst xs=>exact⟨p,xs,q,q1,n,c⟩
 | _=>exact c.elim
theorem R1.name{H0 Hv0:Hp}{e:Mi.Env}{σ : L2.St}{H Hv H1 Hv1:Hp}(I:R1 M H0 Hv0 e σ H Hv)(g:dC H Hv H1 Hv1){i:Nat}{w:W}{v:V}(hm:M i=true)(k:qN H H1 Hv1 w v):R1 M H0 Hv0 (e.set i (some w)) (σ.set i (some v)) H1 Hv1:=by
 obtain⟨p,o,rfl,hf,hp,hn,c⟩:=k
 have I1:=I.grow g
 have other:∀ {j:Nat} {w2:W} {x:Addr},e[j]? = some (some w2)→M j=true→σ[j]? = some (some (.ref x))→x≠p:=fun {j w2 x} h m q=>by
  obtain⟨p',o',q',q1,_⟩:=I.cell m h
  rw[q] at q';cases q'
  exact bf q1 hf
 refine⟨⟨I1.vw,by rw[List.length_set,List.length_set];exact I.len,fun j w2 h m=>?_,fun j w2 h m=>?_⟩,I1.gw,fun j w2 x h m q=>?_,fun j k w1 w2 x y hjk h1 h2 m1 m2 q1 q2=>?_⟩
 ·rcases jV h with ⟨rfl,_⟩|⟨n,z⟩
  ·rw[hm] at m;cases m
  ·obtain⟨u,q,r⟩:=I1.nob j w2 z m
   exact⟨u,by rw[List.getElem?_set_ne n];exact q,r⟩
 ·rcases jV h with ⟨rfl,h,l⟩|⟨n,z⟩
  ·cases h
   exact⟨.ref p,by rw[List.getElem?_set_self (by rw[I.len];exact l)],p,o,rfl,hp,hn,c⟩
  ·obtain⟨u,q,r⟩:=I1.own j w2 z m
   exact⟨u,by rw[List.getElem?_set_ne n];exact q,r⟩
 ·rcases jV h with ⟨rfl,h,l⟩|⟨n,z⟩
  ·rw[List.getElem?_set_self (by rw[I.len];exact l)] at q
   cases q
   exact I.gw.old.free hf
  ·rw[List.getElem?_set_ne n] at q
   exact I.fresh j w2 x z m q
 ·rcases jV h1 with ⟨rfl,_,l⟩|⟨n,z⟩
  ·rw[List.getElem?_set_self (by rw[I.len];exact l)] at q1
   cases q1
   rcases jV h2 with ⟨rfl,_,_⟩|⟨n2,z2⟩
   ·exact absurd rfl hjk
   ·rw[List.getElem?_set_ne n2] at q2
    exact Ne.symm (other z2 m2 q2)
  ·rw[List.getElem?_set_ne n] at q1
   rcases jV h2 with ⟨rfl,_,l⟩|⟨n2,z2⟩
   ·rw[List.getElem?_set_self (by rw[I.len];exact l)] at q2
    cases q2
    exact other z m1 q1
   ·rw[List.getElem?_set_ne n2] at q2
    exact I.sep j k w1 w2 x y hjk z z2 m1 m2 q1 q2
theorem yt(i:Nat)(hm:M i=true)(ha:AE M qN te a):AS M κ (JX te (rP i)) (Mi.bV i a):=fun H0 Hv0 e σ H Hv D I h =>
 ha e σ H Hv _ I.toR0 ((ao.mp h).mono fun d hd v H1 Hv1 g1 r=>hd _ H1 Hv1 (I.name g1 hm r) g1.vis)
theorem zL(i:Nat)(hm:M i=true)(ha:AW M qN te w):AS M κ (JX te (rP i)) (Mi.yE i w):=fun H0 Hv0 e σ H Hv D I h =>
 ha e σ H Hv _ I.toR0 ((ao.mp h).mono fun d hd v H1 Hv1 g1 r=>hd _ H1 Hv1 (I.name g1 hm r) g1.vis)
theorem Jl:AW M qN QR (fun _=>.ok (.dk [])):=fun e σ H Hv Q I h p hp =>
 h _ _ Hv (.RZ I.vw trivial hp) ⟨p,.dK [],rfl,hp,bc,pW I.vw hp,.nil⟩
theorem Jk:AW M qN QQ (fun _=>.ok (.dt [])):=fun e σ H Hv Q I h p hp =>
 h _ _ Hv (.RZ I.vw trivial hp) ⟨p,.dT [],rfl,hp,bc,pW I.vw hp,.nil⟩
theorem iW(i:Nat)(hm:M i=true)(ha:AE M qV te a):AS M κ (Hi (tBM K "list" Fj (vq i) (lg te vz))) (Mi.dG i a):=fun H0 Hv0 e σ H Hv D I h=>by
 obtain⟨d,hd,h⟩:=nC (ao.mp h)
 obtain⟨ds,he,h⟩:=zH (ao.mp h)
 obtain⟨hz,h⟩:=Mi.bx h
 obtain⟨p,xs,q,q1,n,c⟩:=I.list hm he
 refine⟨.ref p,q,.inl ⟨rfl,xs,.inl (.inl q1)⟩,ha e σ H Hv _ I.toR0 (by
  rw[hd]
  intro v H1 Hv1 g1 r
  have I1:=I.grow g1
  refine⟨p,xs,v,rfl,rfl,g1.old.at q1,by rw[← c.len,sizeLine_eq];exact hz,?_⟩
  exact h σ _ Hv1 (I1.write hm he q (show gV Hv1 (.d (.lst (ds++[d]))) (.lst (xs++[v])) from (dW g1.vis c).append (.cons r .nil))) g1.vis)⟩
theorem lZ{α : Type}{o:Option α}{k:α→Prop}(h:Fin (Mi.wg o) k):∃ x,o=some x∧k x:=by
 cases o with
 | some x=>exact⟨x,rfl,h⟩
 | none=>exact h.elim
theorem aaB{n:Nat}{i:Int}{k:Nat}(h:Mi.Cz n i=some k):seqIndex? i n=some k:=by
 unfold Mi.Cz at h
 split at h
 ·split at h
  ·rw[seqIndex_of (by omega) (by omega)];exact h
  ·cases h
 ·split at h
  ·rw[seqIndex_neg (by omega) (by omega)];exact h
  ·cases h
theorem Rp{ds:List D}{i:Int}{k:D×List D→Prop}(h:Fin (Mi.Hz ds i) k):-(2 ^ 63)≤i∧i < 2 ^ 63∧∃ j d,Mi.Cz ds.length i=some j∧ds[j]? = some d∧k (d,ds.eraseIdx j):=by
 obtain⟨⟨h1,h2⟩,h⟩:=Mi.bx h
 obtain⟨j,hj,h⟩:=lZ (ao.mp h)
 obtain⟨d,hd,h⟩:=lZ (ao.mp h)
 exact⟨h1,h2,j,d,hj,hd,h⟩
theorem GJ(x y:Nat)(hxy:x≠y)(hx:M x=true)(hy:M y=true)(ha:AE M qP te a):AS M κ (Hi (tBM K "list" Fj (vq x) (lg (tBM K "list" Rh (vq y) (lg te vz)) vz))) (Mi.jZ x y a):=fun H0 Hv0 e σ H Hv D I h=>by
 obtain⟨z,hz,h⟩:=nC (ao.mp h)
 obtain⟨i,rfl,h⟩:=GK (ao.mp h)
 obtain⟨ds,he,h⟩:=zH (ao.mp h)
 obtain⟨h1,h2,j,d,hj,hd,h⟩:=Rp (ao.mp h)
 obtain⟨es,he2,h⟩:=zH (ao.mp h)
 obtain⟨hsz,h⟩:=Mi.bx h
 have abj:e[x]? = some (some (.d (.lst es))):=by
  have he2:(e.set y (some (.d (.lst (ds.eraseIdx j)))))[x]? = _:=he2
  rwa [List.getElem?_set_ne (Ne.symm hxy)] at he2
 obtain⟨p,xs,q,q1,n,c⟩:=I.list hy he
 obtain⟨p',xs',q',q1',n',c'⟩:=I.list hx abj
 have hpp:p'≠p:=I.sep x y _ _ p' p hxy abj he hx hy q' q
 refine⟨.ref p',q',.inl ⟨rfl,xs',.inl (.inl q1')⟩,.ref p,q,.inl ⟨rfl,xs,.inl (.inl q1)⟩,ha e σ H Hv _ I.toR0 (by
  rw[hz]
  intro v H1 Hv1 g1 r
  have I1:=I.grow g1
  cases RD.int r
  obtain⟨u,hu,ru⟩:=c.getL hd
  rw[c.len] at hj
  refine⟨p,xs,i,j,u,rfl,rfl,g1.old.at q1,h1,h2,aaB hj,hu,?_⟩
  have I2:=I1.write hy he q (show gV Hv1 (.d (.lst (ds.eraseIdx j))) (.lst (xs.eraseIdx j)) from (dW g1.vis c).erase j)
  refine⟨p',xs',u,rfl,rfl,by rw[aM hpp];exact g1.old.at q1',by rw[← c'.len,sizeLine_eq];exact hsz,?_⟩
  exact h σ _ Hv1 (I2.write hx he2 q' (show gV Hv1 (.d (.lst (es++[d]))) (.lst (xs'++[u])) from (dW g1.vis c').append (.cons (lr g1.vis ru) .nil))) g1.vis)⟩
theorem Um{tk:TE}{k:Mi.E}(x:Nat)(hx:M x=true)(ha:AE M qV te a)(hk:AE M qP tk k):AS M κ (JX te (abm (vq x) tk WW)) (Mi.vB x k a):=fun H0 Hv0 e σ H Hv D I h=>by
 obtain⟨d,hd,h⟩:=nC (ao.mp h)
 obtain⟨z,hz,h⟩:=nC (ao.mp h)
 obtain⟨i,rfl,h⟩:=GK (ao.mp h)
 obtain⟨ds,he,h⟩:=zH (ao.mp h)
 obtain⟨j,hj,h⟩:=lZ (ao.mp h)
 obtain⟨p,xs,q,q1,n,c⟩:=I.list hx he
 refine ha e σ H Hv _ I.toR0 (by
  rw[hd]
  intro v H1 Hv1 g1 r
  refine⟨.ref p,q,hk e σ H1 Hv1 _ (I.toR0.grow g1) (by
   rw[hz]
   intro v2 H2 Hv2 g2 r2
   cases RD.int r2
   have I2:=(I.grow g1).grow g2
   rw[c.len] at hj
   refine⟨p,xs,i,j,rfl,rfl,g2.old.at (g1.old.at q1),hj,?_⟩
   exact h σ _ Hv2 (I2.write hx he q (show gV Hv2 (.d (.lst (ds.set j d))) (.lst (xs.set j v)) from P2.set (lr g2.vis r) j (dW (g1.trans g2).vis c))) (g1.trans g2).vis)⟩)
theorem yr(i:Nat)(hm:M i=true):AS M qN (Vc (vq i)) (Mi.cY (Mi.wV i)):=fun H0 Hv0 e σ H Hv D I h=>by
 obtain⟨w,he,h⟩:=Lw (ao.mp h)
 obtain⟨p,o,q,q1,n,h0,c⟩:=I.cell hm he
 exact⟨.ref p,q,h _ H Hv I.gw ⟨p,o,rfl,h0,q1,n,c⟩⟩
theorem R1.Yl{H0 Hv0:Hp}{e:Mi.Env}{σ : L2.St}{H Hv:Hp}(I:R1 M H0 Hv0 e σ H Hv){y:Nat}{w:W}(hy:M y=true)(he:e[y]? = some (some w)):∃ p Hv',σ[y]? = some (some (.ref p))∧R1 M H0 Hv0 (e.set y none) σ H Hv'∧jg Hv Hv'∧ug Hv' w (.ref p):=by
 obtain⟨p,o,q,q1,n,h0,c⟩:=I.cell hy he
 obtain⟨vw,s⟩:=I.vw.show q1 n c.nt
 have nj:∀ {j:Nat} {w':W},(e.set y none)[j]? = some (some w')→y≠j∧e[j]? = some (some w'):=fun {j w'} h=>by
  rcases jV h with ⟨_,h,_⟩|z
  ·cases h
  ·exact z
 refine⟨p,upd Hv p o,q,⟨⟨vw,by rw[List.length_set];exact I.len,fun j w' h m=>?_,fun j w' h m=>?_⟩,⟨I.gw.old,I.gw.vis.trans s,vw,fun b u z1 z2=>?_⟩,fun j w' x h m z=>?_,fun j k w1 w2 x z hjk h1 h2 m1 m2 z1 z2=>?_⟩,s,uw bc (c.same s)⟩
 ·obtain⟨_,h⟩:=nj h
  obtain⟨v,z,r⟩:=I.nob j w' h m
  exact⟨v,z,n6 s r⟩
 ·obtain⟨hne,h⟩:=nj h
  obtain⟨v,z,x,u,e1,q2,n2,c2⟩:=I.own j w' h m
  subst e1
  have:=I.sep y j w w' p x hne he h hy m q z
  exact⟨.ref x,z,x,u,rfl,q2,by rw[aM (Ne.symm this)];exact n2,c2.same s⟩
 ·rw[aM (bf z1 h0)];exact I.gw.hid b u z1 z2
 ·exact I.fresh j w' x (nj h).2 m z
 ·exact I.sep j k w1 w2 x z hjk (nj h1).2 (nj h2).2 m1 m2 z1 z2
theorem MK{κ':Type}[DecidableEq κ']{H:Hp}{k:κ'}{kvs:List (κ'×D)}{kv:List (κ'×V)}(h:JL H kvs kv):match Mi.Cv kvs k with
 | some d=>∃ v,vo kv k=some v∧Rep H d v
 | none=>vo kv k=none:=by
 unfold Mi.Cv vo
 induction h with
 | nil=>rfl
 | @cons p q l m hpq t ih =>
  rw[List.find?_cons,List.find?_cons,hpq.1]
  by_cases hk:q.1=k
  ·rw[decide_eq_true hk]
   exact⟨q.2,rfl,hpq.2⟩
  ·rw[decide_eq_false hk]
   exact ih
theorem MN{κ':Type}[DecidableEq κ']{H:Hp}{k:κ'}{d:D}{v:V}(r:Rep H d v){kvs:List (κ'×D)}{kv:List (κ'×V)}(h:JL H kvs kv):JL H (Mi.putK k d kvs) (L2.putK kv k v):=by
 have e:(kvs.any fun x=>decide (x.1=k))=(kv.any fun x=>decide (x.1=k)):=by
  induction h with
  | nil=>rfl
  | @cons p q l m hpq t ih=>rw[List.any_cons,List.any_cons,ih,hpq.1]
 unfold Mi.putK L2.putK
 rw[e]
 split
 ·rename_i hh
  clear hh e
  induction h with
  | nil=>exact .nil
  | @cons p q l m hpq t ih =>
   rw[List.map_cons,List.map_cons]
   refine .cons ?_ ih
   ·by_cases hk:q.1=k
    ·rw[if_pos hk,if_pos (hpq.1.trans hk)];exact⟨hpq.1,r⟩
    ·rw[if_neg hk,if_neg (fun z=>hk (hpq.1.symm.trans z))];exact hpq
 ·exact P2.append h (.cons ⟨rfl,r⟩ .nil)
end
end A
namespace A
open PySem L2 PyProof.Rows
open Mi (D W Rs Fin ao Out Tg)
variable[Tb:jf]
section
variable{X:Cx}{K:PySem.W.Frag}
def Vj:R2:=fun x y H Q=>∃ i j,x=.str i∧y=.str j∧i.length+j.length≤sizeLine∧Q (.str (i++j)) H
theorem VG{pins:List (Addr×Obj)}{σ : L2.St}{H:Hp}{s:Shared}{a:Addr}{xs:List V}(I:Inv X pins σ H s)(h:Lst H a xs):∃ (its:List Value) (n:Nat),Vals xs its∧xs.length≤sizeLine∧s.heap.get? a=some { cls:=.type "list", data:=.seq its.toArray n }:=by
 rcases h with h|⟨o,h⟩
 ·obtain⟨z,its,n,r,e⟩:=I.hok a _ h
  exact⟨its,n,r,z,e⟩
 ·obtain⟨_,z,its,n,r,e⟩:=I.hok a _ h
  exact⟨its,n,r,z,e⟩
def W5:R2:=fun x y H Q=>∃ l b xs zs,x=.ref l∧y=.ref b∧Lst H l xs∧Lst H b zs∧xs.length+zs.length≤sizeLine∧∀ p,H p=none→Q (.ref p) (upd H p (.lst (xs++zs)))
theorem Vv:qU X (binaryOp .Add) W5:=by
 intro pins s σ H x y v u Q I rx ry h
 obtain⟨l,b,xs,zs,rfl,rfl,hH,hB,hz,q⟩:=h
 cases rx
 cases ry
 obtain⟨its,n,r,z,e⟩:=VG I hH
 obtain⟨its2,n2,r2,z2,e2⟩:=VG I hB
 have hl:=r.length
 have hl2:=r2.length
 refine PySem.P.add_list e e2 ?_ (by rw[List.size_toArray,List.size_toArray];omega)
 have ea:its.toArray++its2.toArray=(its++its2).toArray:=by simp
 rw[ea]
 exact⟨.ref _,_,I.acj (t':=s.toks) (r.append r2) (by rw[List.length_append];omega),rfl,q _ I.fresh⟩
def W6:R2:=fun x y H Q=>Qm (fun i j=>.int (i+j)) x y H Q∨Vj x y H Q∨W5 x y H Q
theorem bH:qU X (binaryOp .Add) W6:=YC.or (qU.or J7 Vv)
theorem Kq{H Hv:Hp}(vw:Vw H Hv){ds:List D}{xs:List V}(r:P2 (Rep Hv) ds xs){p:Addr}(hp:H p=none):dC H Hv (upd H p (.lst xs)) Hv∧qN H (upd H p (.lst xs)) Hv (.d (.lst ds)) (.ref p) :=
 ⟨.RZ vw trivial hp,p,.lst xs,rfl,hp,bc,pW vw hp,r⟩
theorem RX{H Hv:Hp}(vw:Vw H Hv){ds:List D}{xs:List V}(r:P2 (Rep Hv) ds xs){p:Addr}(hp:H p=none):dC H Hv (upd H p (.lst xs)) (upd Hv p (.lst xs))∧qV H (upd H p (.lst xs)) (upd Hv p (.lst xs)) (.d (.lst ds)) (.ref p):=by
 have g:dC H Hv (upd H p (.lst xs)) (upd Hv p (.lst xs)):=.new vw hp
 exact⟨g,oU.mpr ⟨p,xs,rfl,.inl bc,dW g.vis r⟩⟩
theorem Ko{H Hv:Hp}(vw:Vw H Hv){ds:List D}{xs:List V}(r:P2 (Rep Hv) ds xs){p:Addr}(hp:H p=none):dC H Hv (upd H p (.tup xs)) (upd Hv p (.tup xs))∧qV H (upd H p (.tup xs)) (upd Hv p (.tup xs)) (.d (.tup ds)) (.ref p):=by
 have g:dC H Hv (upd H p (.tup xs)) (upd Hv p (.tup xs)):=.new vw hp
 exact⟨g,mO.mpr ⟨p,xs,rfl,bc,dW g.vis r⟩⟩
theorem dN:B2 qV W6 Mi.bU:=fun x y v u H Hv Q vw rx ry h=>by
 cases x with
 | int i=>cases y with
  | int j=>cases RD.int rx;cases RD.int ry;exact .inl ⟨i,j,rfl,rfl,h _ H Hv (.refl vw) j4⟩
  | _=>exact h.elim
 | str i=>cases y with
  | str j =>
   cases RD.str rx;cases RD.str ry
   obtain⟨hz,h⟩:=Mi.bx h
   exact .inr (.inl ⟨i,j,rfl,rfl,by rw[sizeLine_eq];exact hz,h _ H Hv (.refl vw) vD⟩)
  | _=>exact h.elim
 | lst a=>cases y with
  | lst b =>
   obtain⟨hz,h⟩:=Mi.bx h
   obtain⟨p,xs,rfl,l1,r1⟩:=RD.lst vw rx
   obtain⟨q,ys,rfl,l2,r2⟩:=RD.lst vw ry
   refine .inr (.inr ⟨p,q,xs,ys,rfl,rfl,l1,l2,by rw[← r1.len,← r2.len,sizeLine_eq];exact hz,fun a ha=>?_⟩)
   obtain⟨g,k⟩:=RX vw (r1.append r2) ha
   exact h _ _ _ g k
  | _=>exact h.elim
 | _=>cases y<;>exact h.elim
theorem Ug:B2 qV (Qm fun i j=>.int (i - j)) Mi.za:=fun x y v u H Hv Q vw rx ry h=>by
 cases x with
 | int i=>cases y with
  | int j=>cases RD.int rx;cases RD.int ry;exact⟨i,j,rfl,rfl,h _ H Hv (.refl vw) j4⟩
  | _=>exact h.elim
 | _=>cases y<;>exact h.elim
theorem pA:B2 qV (rI WD fun i j=>.int (i * j)) Mi.dF:=fun x y v u H Hv Q vw rx ry h=>by
 cases x with
 | int i=>cases y with
  | int j=>cases RD.int rx;cases RD.int ry;obtain⟨hz,h⟩:=Mi.bx h;exact⟨i,j,rfl,rfl,hz,h _ H Hv (.refl vw) j4⟩
  | _=>exact h.elim
 | _=>cases y<;>exact h.elim
theorem gZ:B2 qV (rI XC fun i j=>.int (i / j)) Mi.cJ:=fun x y v u H Hv Q vw rx ry h=>by
 cases x with
 | int i=>cases y with
  | int j=>cases RD.int rx;cases RD.int ry;obtain⟨hz,h⟩:=Mi.bx h;exact⟨i,j,rfl,rfl,hz,h _ H Hv (.refl vw) j4⟩
  | _=>exact h.elim
 | _=>cases y<;>exact h.elim
theorem dh:B2 qV (rI (fun _ j=>0 < j) fun i j=>.int (i % j)) Mi.bI:=fun x y v u H Hv Q vw rx ry h=>by
 cases x with
 | int i=>cases y with
  | int j=>cases RD.int rx;cases RD.int ry;obtain⟨hz,h⟩:=Mi.bx h;exact⟨i,j,rfl,rfl,hz,h _ H Hv (.refl vw) j4⟩
  | _=>exact h.elim
 | _=>cases y<;>exact h.elim
theorem abu:B2 qV (rI abL fun i j=>.int (i ^ j.toNat)) Mi.T4:=fun x y v u H Hv Q vw rx ry h=>by
 cases x with
 | int i=>cases y with
  | int j=>cases RD.int rx;cases RD.int ry;obtain⟨hz,h⟩:=Mi.bx h;exact⟨i,j,rfl,rfl,hz,h _ H Hv (.refl vw) j4⟩
  | _=>exact h.elim
 | _=>cases y<;>exact h.elim
theorem abv:B1 qV (rU fun i=>.int (-i)) Mi.We:=fun x v H Hv Q vw rx h=>by
 cases x with
 | int i=>cases RD.int rx;exact⟨i,rfl,h _ H Hv (.refl vw) j4⟩
 | _=>exact h.elim
def aaI:R2:=fun x y H Q=>Qm (fun i j=>.bl (decide (i < j))) x y H Q∨∃ i j,x=.str i∧y=.str j∧Q (.bl (decide (i.cps.toList < j.cps.toList))) H
theorem pJ:qU X (compareOp .Lt) aaI:=aaV.or OD
def aaS:R2:=fun x y H Q=>Qm (fun i j=>.bl (decide (j < i))) x y H Q∨∃ i j,x=.str i∧y=.str j∧Q (.bl (decide (j.cps.toList < i.cps.toList))) H
theorem pK:qU X (compareOp .Gt) aaS:=aaW.or O1
theorem CN:B2 qV aaI Mi.sG:=fun x y v u H Hv Q vw rx ry h=>by
 cases x with
 | int i=>cases y with
  | int j=>cases RD.int rx;cases RD.int ry;exact .inl ⟨i,j,rfl,rfl,h _ H Hv (.refl vw) jJ⟩
  | _=>exact h.elim
 | str i=>cases y with
  | str j=>cases RD.str rx;cases RD.str ry;exact .inr ⟨i,j,rfl,rfl,h _ H Hv (.refl vw) jJ⟩
  | _=>exact h.elim
 | _=>cases y<;>exact h.elim
theorem CP:B2 qV aaS Mi.zb:=fun x y v u H Hv Q vw rx ry h=>by
 cases x with
 | int i=>cases y with
  | int j=>cases RD.int rx;cases RD.int ry;exact .inl ⟨i,j,rfl,rfl,h _ H Hv (.refl vw) jJ⟩
  | _=>exact h.elim
 | str i=>cases y with
  | str j=>cases RD.str rx;cases RD.str ry;exact .inr ⟨i,j,rfl,rfl,h _ H Hv (.refl vw) jJ⟩
  | _=>exact h.elim
 | _=>cases y<;>exact h.elim
theorem PN:B2 qV (Qm fun i j=>.bl (decide (i≤j))) Mi.G5:=fun x y v u H Hv Q vw rx ry h=>by
 cases x with
 | int i=>cases y with
  | int j=>cases RD.int rx;cases RD.int ry;exact⟨i,j,rfl,rfl,h _ H Hv (.refl vw) jJ⟩
  | _=>exact h.elim
 | _=>cases y<;>exact h.elim
def Vl(K:PySem.W.Frag)(neg:Bool):R2:=fun x y H Q=>∃ d e,L2.Rep K H d x∧L2.Rep K H e y∧d.dep≤16∧Q (.bl (if neg then !Mi.dH d e else Mi.dH d e)) H
theorem vQ:B2 qV (Vl K false) Mi.rQ:=fun x y v u H Hv Q vw rx ry h=>by
 obtain⟨hz,h⟩:=Mi.bx h
 exact⟨x,y,rm K (RD.full vw rx),rm K (RD.full vw ry),hz,h _ H Hv (.refl vw) jJ⟩
theorem GC:B2 qV (Vl K true) Mi.BK:=fun x y v u H Hv Q vw rx ry h=>by
 obtain⟨hz,h⟩:=Mi.bx h
 exact⟨x,y,rm K (RD.full vw rx),rm K (RD.full vw ry),hz,h _ H Hv (.refl vw) jJ⟩
def aaP(neg:Bool):R2:=fun x y H Q=>y=.non∧Q (.bl (if neg then !decide (x=.non) else decide (x=.non))) H
theorem Rz:qU X (compareOp .IsNot) (aaP true):=Vt
theorem Ym{H Hv:Hp}{d:D}{v:V}(r:RD H Hv d v):decide (v=.non)=Mi.wU d:=by
 cases d with
 | non=>cases RD.non r;rfl
 | bl b=>cases RD.bl r;rfl
 | int b=>cases RD.int r;rfl
 | str b=>cases RD.str r;rfl
 | lst ds =>
  rcases r with r|⟨a,o,e,_⟩
  ·obtain⟨a,xs,e,_⟩:=oU.mp r
   subst e;rfl
  ·subst e;rfl
 | tup ds =>
  obtain⟨a,xs,e,_⟩:=mO.mp (r.Oi fun _ z=>by cases z)
  subst e;rfl
theorem Wl:B2 qV (aaP true) Mi.BP:=fun x y v u H Hv Q vw rx ry h=>by
 cases y with
 | non =>
  cases RD.non ry
  refine⟨rfl,?_⟩
  show Q (.bl (!decide (v=.non))) H
  rw[Ym rx]
  exact h _ H Hv (.refl vw) jJ
 | _=>exact h.elim
def aaQ(K:PySem.W.Frag):R2:=fun x y H Q=>Vk K false x y H Q∨aaR false x y H Q
theorem Az(hu:X.A.units+64 < cLine):qU X (compareOp .In) (aaQ X.K):=(Yz hu).or YB
theorem Mm{H:Hp}{ds:List D}{xs:List V}(h:P2 (Rep H) ds xs):L2.cX K H ds xs:=zp K (oE.mpr h)
theorem Uh:B2 qV (aaQ K) Mi.Ja:=fun x y v u H Hv Q vw rx ry h=>by
 cases y with
 | lst ds =>
  obtain⟨hz,h⟩:=Mi.bx h
  obtain⟨p,xs,rfl,l1,r1⟩:=RD.lst vw ry
  exact .inl ⟨p,xs,x,ds,rfl,.inl l1.sq,rm K (RD.full vw rx),Mm (dW vw.sub r1),hz,h _ H Hv (.refl vw) jJ⟩
 | tup ds =>
  obtain⟨hz,h⟩:=Mi.bx h
  obtain⟨p,xs,rfl,l1,_,r1⟩:=RD.tup vw ry
  exact .inl ⟨p,xs,x,ds,rfl,.inr (.inl (.inl l1)),rm K (RD.full vw rx),Mm (dW vw.sub r1),hz,h _ H Hv (.refl vw) jJ⟩
 | str z=>cases x with
  | str c =>
   obtain⟨hz,h⟩:=Mi.bx h
   cases RD.str rx;cases RD.str ry
   obtain⟨⟨l⟩⟩:=c
   match l,hz with
   | [c],_=>exact .inr ⟨c,z,rfl,rfl,h _ H Hv (.refl vw) jJ⟩
  | _=>exact h.elim
 | _=>exact h.elim
theorem pq:B2 qV (Vk K true) Mi.fZ:=fun x y v u H Hv Q vw rx ry h=>by
 cases y with
 | lst ds =>
  obtain⟨hz,h⟩:=Mi.bx h
  obtain⟨p,xs,rfl,l1,r1⟩:=RD.lst vw ry
  exact⟨p,xs,x,ds,rfl,.inl l1.sq,rm K (RD.full vw rx),Mm (dW vw.sub r1),hz,h _ H Hv (.refl vw) jJ⟩
 | tup ds =>
  obtain⟨hz,h⟩:=Mi.bx h
  obtain⟨p,xs,rfl,l1,_,r1⟩:=RD.tup vw ry
  exact⟨p,xs,x,ds,rfl,.inr (.inl (.inl l1)),rm K (RD.full vw rx),Mm (dW vw.sub r1),hz,h _ H Hv (.refl vw) jJ⟩
 | _=>exact h.elim
theorem ZM{α : Type}(xs:List α)(i:Int):Mi.yN xs i=L2.yN xs i:=rfl
theorem Xr{α β : Type}{F:α→β→Prop}{l:List α}{m:List β}(h:P2 F l m){i:Int}{a:α}(e:Mi.yN l i=some a):∃ b,L2.yN m i=some b∧F a b:=by
 unfold Mi.yN at e
 cases hj:Mi.Cz l.length i with
 | none=>rw[hj] at e;cases e
 | some j =>
  rw[hj] at e
  have e:l[j]? = some a:=e
  obtain⟨b,hb,r⟩:=h.getL e
  refine⟨b,?_,r⟩
  rw[← ZM]
  unfold Mi.yN
  rw[← h.len,hj];exact hb
theorem gG:B2 qV (rIx K) Mi.dU:=fun x y v u H Hv Q vw rx ry h=>by
 cases y with
 | int i =>
  cases RD.int ry
  cases x with
  | lst ds =>
   obtain⟨d,e,h⟩:=lZ h
   obtain⟨p,xs,rfl,l1,r1⟩:=RD.lst vw rx
   obtain⟨z,ez,rz⟩:=Xr r1 e
   exact .inl ⟨p,xs,i,z,rfl,rfl,l1.sq,ez,h z H Hv (.refl vw) rz⟩
  | tup ds =>
   obtain⟨d,e,h⟩:=lZ h
   obtain⟨p,xs,rfl,l1,_,r1⟩:=RD.tup vw rx
   obtain⟨z,ez,rz⟩:=Xr r1 e
   exact .inr (.inl ⟨p,xs,i,z,rfl,rfl,.inl (.inl l1),ez,h z H Hv (.refl vw) rz⟩)
  | str z =>
   cases RD.str rx
   obtain⟨hz,h⟩:=Mi.bx h
   obtain⟨c,e,h⟩:=lZ (ao.mp h)
   exact .inr (.inr ⟨z,i,c,rfl,rfl,by rw[sizeLine_eq];exact hz,e,h _ H Hv (.refl vw) vD⟩)
  | _=>exact h.elim
 | _=>cases x<;>exact h.elim
theorem ZF{F:D→V→Prop}{l:List D}{m:List V}(h:P2 F l m)(lo hi:Option Int):P2 F (Mi.lM l lo hi) (L2.Px m lo hi):=by
 unfold Mi.lM L2.Px
 rw[h.len]
 exact(h.drop _).take _
def aaD(K:PySem.W.Frag):V→Option Int→Option Int→Hp→VK→Prop:=fun x lo hi H Q=>aaF K x lo hi H Q∨aaE x lo hi H Q
theorem qb:Xy X (aaD X.K):=Ve.or Yg
theorem Wi(z:Str)(lo hi:Option Int):Py z lo hi=Mi.f9 z lo hi:=by
 unfold Py Mi.f9 Mi.lM
 have:z.cps.toList.length=z.length:=by simp[Str.length]
 rw[this];rfl
theorem kJ:BS qV (aaD K) Mi.kY:=fun x lo hi v H Hv Q vw rx h=>by
 cases x with
 | lst ds =>
  obtain⟨p,xs,rfl,l1,r1⟩:=RD.lst vw rx
  refine .inl ⟨p,xs,rfl,l1.sq,fun a ha=>?_⟩
  obtain⟨g,k⟩:=RX vw (ZF r1 lo hi) ha
  exact h _ _ _ g k
 | str z =>
  cases RD.str rx
  obtain⟨hz,h⟩:=Mi.bx h
  exact .inr ⟨z,rfl,by rw[sizeLine_eq];exact hz,h _ H Hv (.refl vw) (by rw[Wi];exact vD)⟩
 | _=>exact h.elim
theorem tG{F:D→V→Prop}{d:D}{vs:List V}(h:P2 F [d] vs):∃ v,vs=[v]∧F d v:=by
 cases h with
 | cons r t=>cases t;exact⟨_,rfl,r⟩
theorem Rx{F:D→V→Prop}{d e:D}{vs:List V}(h:P2 F [d,e] vs):∃ v u,vs=[v,u]∧F d v∧F e u:=by
 cases h with
 | cons r t=>cases t with
  | cons r' t=>cases t;exact⟨_,_,rfl,r,r'⟩
def aaJ(K:PySem.W.Frag):List V→Hp→VK→Prop:=fun xs H Q=>∃ x n,xs=[x]∧abF K x H n∧Q (.int n) H
theorem bN:lL X (.builtin "len") (aaJ X.K):=Uc
theorem cG:BN qV (aaJ K) Mi.cZ:=fun ds vs H Hv Q vw r h=>by
 match ds,r,h with
 | [.lst ds],r,h =>
  obtain⟨v,ev,rr⟩:=tG r
  subst ev
  replace r:=rr
  obtain⟨p,xs,rfl,l1,r1⟩:=RD.lst vw r
  refine⟨_,xs.length,rfl,.inl ⟨xs,l1.sq,rfl⟩,?_⟩
  rw[← r1.len]
  exact h _ H Hv (.refl vw) j4
 | [.tup ds],r,h =>
  obtain⟨v,ev,rr⟩:=tG r
  subst ev
  replace r:=rr
  obtain⟨p,xs,rfl,l1,_,r1⟩:=RD.tup vw r
  refine⟨_,xs.length,rfl,.inr ⟨xs,.inl (.inl l1),rfl⟩,?_⟩
  rw[← r1.len]
  exact h _ H Hv (.refl vw) j4
 | [.str z],r,h =>
  obtain⟨v,ev,rr⟩:=tG r
  subst ev
  replace r:=rr
  cases RD.str r
  obtain⟨hz,h⟩:=Mi.bx h
  exact⟨_,z.length,rfl,⟨by rw[sizeLine_eq];exact hz,rfl⟩,h _ H Hv (.refl vw) j4⟩
def aaH:List V→Hp→VK→Prop:=fun xs H Q=>∃ i j z,xs=[.int i,.int j]∧max i j=z∧Q (.int z) H
def aaG:List V→Hp→VK→Prop:=fun xs H Q=>∃ i j z,xs=[.int i,.int j]∧min i j=z∧Q (.int z) H
theorem yl(hc:X.calm=true):lL X (.builtin "max") aaH:=K9 hc
theorem DP(hc:X.calm=true):lL X (.builtin "min") aaG:=K8 hc
theorem BX:BN qV aaH Mi.vR:=fun ds vs H Hv Q vw r h=>by
 match ds,r,h with
 | [.int i,.int j],r,h =>
  obtain⟨v,u,ev,rr,r'⟩:=Rx r
  subst ev
  replace r:=rr
  cases RD.int r;cases RD.int r'
  exact⟨i,j,_,rfl,rfl,h _ H Hv (.refl vw) j4⟩
theorem Jg:BN qV aaG Mi.CQ:=fun ds vs H Hv Q vw r h=>by
 match ds,r,h with
 | [.int i,.int j],r,h =>
  obtain⟨v,u,ev,rr,r'⟩:=Rx r
  subst ev
  replace r:=rr
  cases RD.int r;cases RD.int r'
  exact⟨i,j,_,rfl,rfl,h _ H Hv (.refl vw) j4⟩
theorem Nz{Hv:Hp}:∀ {ds:List D} {xs:List V} {bs:List Bool},Mi.Cg ds=some bs→P2 (Rep Hv) ds xs→xs=bs.map V.bl
 | [],_,bs,e,r=>by cases e;cases r;rfl
 | .bl b::ds,_,bs,e,r=>by
  cases r with
  | cons x t =>
   cases hb:Mi.Cg ds with
   | none=>rw[Mi.Cg,hb] at e;cases e
   | some cs =>
    rw[Mi.Cg,hb] at e
    cases e
    rw[Nz hb t,Aq.mp x];rfl
 | .non::_,_,_,e,_=>by cases e
 | .int _::_,_,_,e,_=>by cases e
 | .str _::_,_,_,e,_=>by cases e
 | .lst _::_,_,_,e,_=>by cases e
 | .tup _::_,_,_,e,_=>by cases e
theorem Jj:BN qV (aaT K (·.all id)) Mi.Lb:=fun ds vs H Hv Q vw r h=>by
 match ds,r,h with
 | [.lst ds],r,h =>
  obtain⟨v,ev,rr⟩:=tG r
  subst ev
  replace r:=rr
  obtain⟨bs,e,h⟩:=lZ (ao.mp h)
  obtain⟨p,xs,rfl,l1,r1⟩:=RD.lst vw r
  have:=Nz e r1
  subst this
  exact⟨p,bs,rfl,l1.sq,h _ H Hv (.refl vw) jJ⟩
def WY(K:PySem.W.Frag):List V→Hp→VK→Prop:=fun xs H Q=>∃ p ys,xs=[.ref p]∧(v7 K H p ys∨CV K H p ys)∧∀ l,H l=none→Q (.ref l) (upd H l (.lst ys))
theorem mD:lL X (.type "list") (WY X.K):=Gy
theorem jM:BN qN (WY K) Mi.qK:=fun ds vs H Hv Q vw r h=>by
 match ds,r,h with
 | [.lst ds],r,h =>
  obtain⟨v,ev,rr⟩:=tG r
  subst ev
  replace r:=rr
  obtain⟨p,xs,rfl,l1,r1⟩:=RD.lst vw r
  refine⟨p,xs,rfl,.inl l1.sq,fun a ha=>?_⟩
  obtain⟨g,k⟩:=Kq vw r1 ha
  exact h _ _ _ g k
 | [.tup ds],r,h =>
  obtain⟨v,ev,rr⟩:=tG r
  subst ev
  replace r:=rr
  obtain⟨p,xs,rfl,l1,_,r1⟩:=RD.tup vw r
  refine⟨p,xs,rfl,.inr (.inl (.inl l1)),fun a ha=>?_⟩
  obtain⟨g,k⟩:=Kq vw r1 ha
  exact h _ _ _ g k
def Rg(K:PySem.W.Frag):List V→Hp→VK→Prop:=fun xs H Q=>∃ p ys,xs=[.ref p]∧((v7 K H p ys∧∀ l,H l=none→Q (.ref l) (upd H l (.tup ys)))∨(CV K H p ys∧Q (.ref p) H))
theorem jy:lL X (.type "tuple") (Rg X.K):=CK
theorem ir:BN qV (Rg K) Mi.pM:=fun ds vs H Hv Q vw r h=>by
 match ds,r,h with
 | [.lst ds],r,h =>
  obtain⟨v,ev,rr⟩:=tG r
  subst ev
  replace r:=rr
  obtain⟨p,xs,rfl,l1,r1⟩:=RD.lst vw r
  refine⟨p,xs,rfl,.inl ⟨l1.sq,fun a ha=>?_⟩⟩
  obtain⟨g,k⟩:=Ko vw r1 ha
  exact h _ _ _ g k
 | [.tup ds],r,h =>
  obtain⟨v,ev,rr⟩:=tG r
  subst ev
  replace r:=rr
  obtain⟨p,xs,rfl,l1,l2,r1⟩:=RD.tup vw r
  exact⟨p,xs,rfl,.inr ⟨.inl (.inl l1),h _ H Hv (.refl vw) (mO.mpr ⟨p,xs,rfl,l2,r1⟩)⟩⟩
end
end A
namespace A
open PySem L2 PyProof.Rows
open Mi (D W Rs Fin ao Out Tg)
variable[Tb:jf]
section
variable{X:Cx}{pins:List (Addr×Obj)}{σ : L2.St}{H:Hp}{s:Shared}
open SeqAt in
theorem Vi:∀ {d e:D} {A:Around} {x y:V} {u u':Value},d.flat=true→e.flat=true→L2.Rep X.K H d x→L2.Rep X.K H e y→RelV x u→RelV y u'→RcAt A s u u' (Mi.dH d e)∧RcNeAt A s u u' (!Mi.dH d e):=by
 intro d e A x y u u' h1 h2 r1 r2 q1 q2
 cases d with
 | non =>
  rw[L2.Rep] at r1;subst r1;cases q1
  cases e with
  | non=>rw[L2.Rep] at r2;subst r2;cases q2;exact⟨RcAt.none_none,RcNeAt.none_none⟩
  | bl b=>rw[L2.Rep] at r2;subst r2;cases q2;exact⟨RcAt.none_bool b,RcNeAt.none_bool b⟩
  | int b=>rw[L2.Rep] at r2;subst r2;obtain⟨t,rfl⟩:=q2;exact⟨RcAt.none_int b t,RcNeAt.none_int b t⟩
  | str b=>rw[L2.Rep] at r2;subst r2;obtain⟨t,rfl⟩:=q2;exact⟨RcAt.none_str b t,RcNeAt.none_str b t⟩
  | _=>cases h2
 | bl a =>
  rw[L2.Rep] at r1;subst r1;cases q1
  cases e with
  | non=>rw[L2.Rep] at r2;subst r2;cases q2;exact⟨RcAt.bool_none a,RcNeAt.bool_none a⟩
  | bl b=>rw[L2.Rep] at r2;subst r2;cases q2;rw[Mi.dH];exact⟨RcAt.bool_bool a b,RcNeAt.bool_bool a b⟩
  | int b=>rw[L2.Rep] at r2;subst r2;obtain⟨t,rfl⟩:=q2;rw[Mi.dH];exact⟨RcAt.bool_int a b t,RcNeAt.bool_int a b t⟩
  | str b=>rw[L2.Rep] at r2;subst r2;obtain⟨t,rfl⟩:=q2;exact⟨RcAt.bool_str a b t,RcNeAt.bool_str a b t⟩
  | _=>cases h2
 | int a =>
  rw[L2.Rep] at r1;subst r1;obtain⟨t1,rfl⟩:=q1
  cases e with
  | non=>rw[L2.Rep] at r2;subst r2;cases q2;exact⟨RcAt.int_none a t1,RcNeAt.int_none a t1⟩
  | bl b=>rw[L2.Rep] at r2;subst r2;cases q2;rw[Mi.dH];exact⟨RcAt.int_bool a t1 b,RcNeAt.int_bool a t1 b⟩
  | int b=>rw[L2.Rep] at r2;subst r2;obtain⟨t,rfl⟩:=q2;rw[Mi.dH];exact⟨RcAt.int_int a t1 b t,RcNeAt.int_int a t1 b t⟩
  | str b=>rw[L2.Rep] at r2;subst r2;obtain⟨t,rfl⟩:=q2;exact⟨RcAt.int_str a t1 b t,RcNeAt.int_str a t1 b t⟩
  | _=>cases h2
 | str a =>
  rw[L2.Rep] at r1;subst r1;obtain⟨t1,rfl⟩:=q1
  cases e with
  | non=>rw[L2.Rep] at r2;subst r2;cases q2;exact⟨RcAt.str_none a t1,RcNeAt.str_none a t1⟩
  | bl b=>rw[L2.Rep] at r2;subst r2;cases q2;exact⟨RcAt.str_bool a t1 b,RcNeAt.str_bool a t1 b⟩
  | int b=>rw[L2.Rep] at r2;subst r2;obtain⟨t,rfl⟩:=q2;exact⟨RcAt.str_int a t1 b t,RcNeAt.str_int a t1 b t⟩
  | str b=>rw[L2.Rep] at r2;subst r2;obtain⟨t,rfl⟩:=q2;rw[Mi.dH];exact⟨RcAt.str_str a t1 b t,RcNeAt.str_str a t1 b t⟩
  | _=>cases h2
 | _=>cases h1
open SeqAt in
theorem aaC(I:Inv X pins σ H s):∀ (d e:D) (A:Around) {x y:V} {u u':Value},d.dep≤16→A.units+17 < cLine→L2.Rep X.K H d x→L2.Rep X.K H e y→RelV x u→RelV y u'→RcAt A s u u' (Mi.dH d e)∧RcNeAt A s u u' (!Mi.dH d e):=by
 intro d e A x y u u' hd hu h h' r r'
 have hu0:A.units < cLine:=by omega
 have item:∀ {ds es:List D} {xs ys:List V} {its its':List Value},Mi.dM ds≤16→L2.cX X.K H ds xs→L2.cX X.K H es ys→Vals xs its→Vals ys its' →
  ∀ j (h1:j < its.toArray.size) (h2:j < its'.toArray.size),EqAt A.in1 s its.toArray[j] its'.toArray[j] (Mi.dH (ds.getD j .non) (es.getD j .non)):=by
  intro ds es xs ys its its' hn q q' v v' j h1 h2
  have h1':j < its.length:=by simpa using h1
  have h2':j < its'.length:=by simpa using h2
  have e1:j < xs.length:=by rw[v.length];exact h1'
  have e2:j < ys.length:=by rw[v'.length];exact h2'
  have g1:xs[j]? = some xs[j]:=by simp[e1]
  have g2:ys[j]? = some ys[j]:=by simp[e2]
  obtain⟨w1,k1,r1⟩:=v.get g1
  obtain⟨w2,k2,r2⟩:=v'.get g2
  have t1:its.toArray[j]=w1:=by obtain⟨_,k1⟩:=List.getElem?_eq_some_iff.mp k1;simpa using k1
  have t2:its'.toArray[j]=w2:=by obtain⟨_,k2⟩:=List.getElem?_eq_some_iff.mp k2;simpa using k2
  rw[t1,t2]
  have:=yj (ds:=ds) (j:=j)
  refine Tz I 16 _ _ A.in1 (by omega) ?_ (q.get g1) (q'.get g2) r1 r2
  show A.units+1+16 < cLine
  omega
 by_cases hdf:d.flat=true
 ·by_cases hef:e.flat=true
  ·exact Vi hdf hef h h' r r'
  ·cases e with
   | lst es =>
    rw[L2.Rep] at h'
    obtain⟨a,xs,rfl,q,_⟩:=h'
    cases r'
    obtain⟨its,_,p,_⟩:=I.list q
    cases d with
    | non=>rw[L2.Rep] at h;subst h;cases r;exact⟨RcAt.none_list p.isList hu0,RcNeAt.none_list p.isList hu0⟩
    | bl b=>rw[L2.Rep] at h;subst h;cases r;exact⟨RcAt.bool_list b p.isList hu0,RcNeAt.bool_list b p.isList hu0⟩
    | int b=>rw[L2.Rep] at h;subst h;obtain⟨t,rfl⟩:=r;exact⟨RcAt.int_list b t p.isList hu0,RcNeAt.int_list b t p.isList hu0⟩
    | str b=>rw[L2.Rep] at h;subst h;obtain⟨t,rfl⟩:=r;exact⟨RcAt.str_list b t p.isList hu0,RcNeAt.str_list b t p.isList hu0⟩
    | _=>cases hdf
   | tup es =>
    rw[L2.Rep] at h'
    obtain⟨a,xs,rfl,q,_⟩:=h'
    cases r'
    obtain⟨its,_,p,_⟩:=I.tuple q
    cases d with
    | non=>rw[L2.Rep] at h;subst h;cases r;exact⟨RcAt.none_tuple p hu0,RcNeAt.none_tuple p hu0⟩
    | bl b=>rw[L2.Rep] at h;subst h;cases r;exact⟨RcAt.bool_tuple b p hu0,RcNeAt.bool_tuple b p hu0⟩
    | int b=>rw[L2.Rep] at h;subst h;obtain⟨t,rfl⟩:=r;exact⟨RcAt.int_tuple b t p hu0,RcNeAt.int_tuple b t p hu0⟩
    | str b=>rw[L2.Rep] at h;subst h;obtain⟨t,rfl⟩:=r;exact⟨RcAt.str_tuple b t p hu0,RcNeAt.str_tuple b t p hu0⟩
    | _=>cases hdf
   | _=>exact absurd rfl hef
 ·cases d with
  | lst ds =>
   rw[L2.Rep] at h
   obtain⟨a,xs,rfl,q,rr⟩:=h
   cases r
   obtain⟨its,v,p,_⟩:=I.list q
   have hn:Mi.dM ds≤16:=by rw[Mi.D.dep] at hd;omega
   cases e with
   | non=>rw[L2.Rep] at h';subst h';cases r';exact⟨RcAt.list_none p.isList hu0,RcNeAt.list_none p.isList hu0⟩
   | bl b=>rw[L2.Rep] at h';subst h';cases r';exact⟨RcAt.list_bool b p.isList hu0,RcNeAt.list_bool b p.isList hu0⟩
   | int b=>rw[L2.Rep] at h';subst h';obtain⟨t,rfl⟩:=r';exact⟨RcAt.list_int b t p.isList hu0,RcNeAt.list_int b t p.isList hu0⟩
   | str b=>rw[L2.Rep] at h';subst h';obtain⟨t,rfl⟩:=r';exact⟨RcAt.list_str b t p.isList hu0,RcNeAt.list_str b t p.isList hu0⟩
   | lst es =>
    rw[L2.Rep] at h'
    obtain⟨b,ys,rfl,q',rr'⟩:=h'
    cases r'
    obtain⟨its',v',p',_⟩:=I.list q'
    have l1:=rr.length
    have l2:=rr'.length
    have l3:=v.length
    have l4:=v'.length
    by_cases hl:ds.length=es.length
    ·rw[Mi.dH,qj hl]
     have e1:its.toArray.size=ds.length:=by simp;omega
     have k1:=RcAt.lists p.isList p'.isList (by simp;omega) hu0 (item hn rr rr' v v')
     have k2:=RcNeAt.lists p.isList p'.isList (by simp;omega) hu0 (item hn rr rr' v v')
     rw[e1] at k1 k2
     exact⟨k1,k2⟩
    ·rw[Mi.dH,qi hl]
     exact⟨RcAt.lists_lengths p.isList p'.isList (by simp;omega) hu0,RcNeAt.lists_lengths p.isList p'.isList (by simp;omega) hu0⟩
   | tup es =>
    rw[L2.Rep] at h'
    obtain⟨b,ys,rfl,q',_⟩:=h'
    cases r'
    obtain⟨its',_,p',_⟩:=I.tuple q'
    exact⟨RcAt.list_tuple p.isList p' hu0,RcNeAt.list_tuple p.isList p' hu0⟩
  | tup ds =>
   rw[L2.Rep] at h
   obtain⟨a,xs,rfl,q,rr⟩:=h
   cases r
   obtain⟨its,v,p,_⟩:=I.tuple q
   have hn:Mi.dM ds≤16:=by rw[Mi.D.dep] at hd;omega
   cases e with
   | non=>rw[L2.Rep] at h';subst h';cases r';exact⟨RcAt.tuple_none p hu0,RcNeAt.tuple_none p hu0⟩
   | bl b=>rw[L2.Rep] at h';subst h';cases r';exact⟨RcAt.tuple_bool b p hu0,RcNeAt.tuple_bool b p hu0⟩
   | int b=>rw[L2.Rep] at h';subst h';obtain⟨t,rfl⟩:=r';exact⟨RcAt.tuple_int b t p hu0,RcNeAt.tuple_int b t p hu0⟩
   | str b=>rw[L2.Rep] at h';subst h';obtain⟨t,rfl⟩:=r';exact⟨RcAt.tuple_str b t p hu0,RcNeAt.tuple_str b t p hu0⟩
   | tup es =>
    rw[L2.Rep] at h'
    obtain⟨b,ys,rfl,q',rr'⟩:=h'
    cases r'
    obtain⟨its',v',p',_⟩:=I.tuple q'
    have l1:=rr.length
    have l2:=rr'.length
    have l3:=v.length
    have l4:=v'.length
    have k1:=RcAt.tuples p p' hu0 (item hn rr rr' v v')
    have k2:=RcNeAt.tuples p p' hu0 (item hn rr rr' v v')
    have e1:its.toArray.size=ds.length:=by simp;omega
    have e2:its'.toArray.size=es.length:=by simp;omega
    rw[e1,e2] at k1 k2
    by_cases hl:ds.length=es.length
    ·rw[Mi.dH,qj hl]
     rw[hl,Nat.min_self,beq_self_eq_true,Bool.and_true,← hl] at k1 k2
     exact⟨k1,k2⟩
    ·rw[Mi.dH,qi hl]
     have:(ds.length == es.length)=false:=by simpa using hl
     rw[this,Bool.and_false] at k1 k2
     exact⟨k1,k2⟩
   | lst es =>
    rw[L2.Rep] at h'
    obtain⟨b,ys,rfl,q',_⟩:=h'
    cases r'
    obtain⟨its',_,p',_⟩:=I.list q'
    exact⟨RcAt.tuple_list p p'.isList hu0,RcNeAt.tuple_list p p'.isList hu0⟩
  | _=>exact absurd rfl hdf
theorem j6(hu:X.A.units+64 < cLine):qU X (compareOp .Eq) (Vl X.K false):=by
 intro pins s σ H x y v u Q I rx ry h
 obtain⟨d,e,r1,r2,hz,q⟩:=h
 exact(aaC I d e X.A hz (by omega) r1 r2 rx ry).1 _ _ _ _ ⟨.bl _,H,I,rfl,q⟩
theorem rB(hu:X.A.units+64 < cLine):qU X (compareOp .NotEq) (Vl X.K true):=by
 intro pins s σ H x y v u Q I rx ry h
 obtain⟨d,e,r1,r2,hz,q⟩:=h
 exact(aaC I d e X.A hz (by omega) r1 r2 rx ry).2 _ _ _ _ ⟨.bl _,H,I,rfl,q⟩
end
section
variable{X:Cx}{K:PySem.W.Frag}{M:Nat→Bool}{κ : Kd}{ta tb te:TE}{a b:Mi.E}
theorem WM{H Hv:Hp}(vw:Vw H Hv){d:D}{v:V}(r:RD H Hv d v):uR K H v (.type (Mi.JR d)):=by
 cases d with
 | non=>cases RD.non r;exact .non
 | bl b=>cases RD.bl r;exact .bl b
 | int b=>cases RD.int r;exact .int b
 | str b=>cases RD.str r;exact .str b
 | lst ds =>
  obtain⟨p,xs,rfl,l,_⟩:=RD.lst vw r
  rcases l with l|⟨o,l⟩
  ·exact .lst l
  ·exact .frz l
 | tup ds =>
  obtain⟨p,xs,rfl,l,_⟩:=RD.tup vw r
  exact .tup l
def Ck(K:PySem.W.Frag)(T:String):Prop:=∀ d:D,PySem.W.kitOne K (.type (Mi.JR d)) (.type T)=some (Mi.Bp T d)
theorem Ju{T:String}(hT:Ck K T)(ha:AE M qP ta a):AE M qV (Ye (aaO K) (lg ta (lg (tC (.ty T)) vz))) (Mi.m1 (Mi.yq [T]) a):=fun e σ H Hv Q I h =>
 ha e σ H Hv _ I ((ao.mp h).mono fun x hx v H1 Hv1 g1 rx=>⟨v,_,T,_,rfl,WM g1.vw rx,hT x,(Mi.jX hx) _ H1 Hv1 g1 (by
  have:([T].any fun t=>Mi.Bp t x)=Mi.Bp T x:=by simp
  rw[this];exact jJ)⟩)
theorem ty_bool(K:PySem.W.Frag):Ck K "bool" := fun d=>by cases d<;>rfl
theorem ty_int(K:PySem.W.Frag):Ck K "int" := fun d=>by cases d<;>rfl
theorem ty_str(K:PySem.W.Frag):Ck K "str" := fun d=>by cases d<;>rfl
theorem ty_list(K:PySem.W.Frag):Ck K "list" := fun d=>by cases d<;>rfl
theorem ty_tuple(K:PySem.W.Frag):Ck K "tuple" := fun d=>by cases d<;>rfl
end
end A
namespace A
open PySem L2 PyProof.Rows
open Mi (D W Rs Fin ao Out Tg)
variable[Tb:jf]
def Mo(l:List Nat):Nat→Bool:=fun i=>l.contains i
theorem Ac{M:Nat→Bool}{N:List Str}{k:Nat}{ws:List W}{vs:List V}{H Hv:Hp}(vw:Vw H Hv)(p:P2 (ug Hv) ws vs)(hk:ws.length=k)(hM:∀ i,i < k→M i=false) :
 R1 M H Hv (ws.map some++List.replicate (N.length - ws.length) none) (start N vs) H Hv:=by
 have get:∀ {i:Nat} {w:W},(ws.map some++List.replicate (N.length - ws.length) none)[i]? = some (some w)→ws[i]? = some w∧i < k:=fun {i w} h=>by
  by_cases hi:i < ws.length
  ·rw[List.getElem?_append_left (by simpa using hi),List.getElem?_map] at h
   cases e:ws[i]? with
   | none=>rw[e] at h;cases h
   | some a=>rw[e] at h;cases h;exact⟨rfl,by omega⟩
  ·rw[List.getElem?_append_right (by simpa using hi),List.getElem?_replicate] at h
   split at h<;>cases h
 have no:∀ {i:Nat} {w:W},(ws.map some++List.replicate (N.length - ws.length) none)[i]? = some (some w)→M i=true→False:=fun {i w} h m=>by
  rw[hM i (get h).2] at m;cases m
 refine⟨⟨vw,?_,fun i w h m=>?_,fun i w h m=>(no h m).elim⟩,.refl vw,fun i w a h m=>(no h m).elim,fun i j w w' a b _ h _ m=>(no h m).elim⟩
 ·unfold L2.start
  rw[List.length_append,List.length_append,List.length_map,List.length_map,List.length_replicate,List.length_replicate,p.len]
 ·obtain⟨hw,hi⟩:=get h
  obtain⟨v,hv,r⟩:=p.getL hw
  refine⟨v,?_,r⟩
  unfold L2.start
  rw[List.getElem?_append_left (by rw[List.length_map,← p.len];omega),List.getElem?_map,hv];rfl
theorem rE{f:Mi.S}{k n:Nat}{vs:List V}{H:Hp}{Q:VK}{E:XK}(h:m9 (Mi.uK k n f) vs H Q E):vs.length=k:=by
 obtain⟨Hv,ws,_,p,q⟩:=h
 rw[← p.len];exact(Mi.bx q).1
theorem SQ{f:Mi.S}{k n:Nat}{vs:List V}{H:Hp}{Q:VK}{E:XK}(h:Hl (Mi.Tv k n f) vs H Q E):vs.length=k:=by
 obtain⟨Hv,ws,_,p,q⟩:=h
 rw[← p.len];exact(Mi.bx q).1
theorem q9{N:List Str}{M:Nat→Bool}{k:Nat}{t:TS}{m:Mi.S}(hA:AS M qV t m)(hM:∀ i,i < k→M i=false){vs:List V}{H:Hp}{Q:VK}{E:XK}(h:m9 (Mi.uK k N.length m) vs H Q E) :
 t { nx:=fun _ H'=>Q .non H',rt:=Q } (start N vs) H:=by
 obtain⟨Hv,ws,vw,p,q⟩:=h
 obtain⟨hk,q⟩:=Mi.bx q
 refine hA H Hv _ _ H Hv _ (Ac vw p hk hM) ((ao.mp q).mono fun o ho=>?_)
 cases o with
 | nx e=>exact fun σ H' Hv' I s=>ho _ H' Hv' I.gw J4
 | rt w=>exact fun v H' Hv' g r=>ho v H' Hv' g r
 | bk e=>exact ho.elim
 | ct e=>exact ho.elim
theorem runN{N:List Str}{M:Nat→Bool}{k:Nat}{t:TS}{m:Mi.S}(hA:AS M qN t m)(hM:∀ i,i < k→M i=false){vs:List V}{H:Hp}{Q:VK}{E:XK}(h:Hl (Mi.Tv k N.length m) vs H Q E) :
 t { nx:=fun _ H'=>Q .non H',rt:=Q } (start N vs) H:=by
 obtain⟨Hv,ws,vw,p,q⟩:=h
 obtain⟨hk,q⟩:=Mi.bx q
 refine hA H Hv _ _ H Hv _ (Ac vw p hk hM) ((ao.mp q).mono fun o ho=>?_)
 cases o with
 | rt w=>exact fun v H' Hv' g r=>ho v H' Hv' g r
 | nx e=>exact ho.elim
 | bk e=>exact ho.elim
 | ct e=>exact ho.elim
theorem Pj{P:Program}{w:World}{K:PySem.W.Frag}{mg:Str→Option Value}{base:Heap}{CX:G4}{k:Nat}{f:Addr}{fd:FuncData}{ps:List Str}:eY P w K mg base CX k f fd ps (m9 Mi.fnZ) :=
 ⟨fun vs H Q E h=>by obtain⟨_,_,_,_,q⟩:=h;exact q.elim,fun A outer s H args us vs Q E _ _ _ _ h=>by obtain⟨_,_,_,_,q⟩:=h;exact q.elim⟩
def Hm:Sp:=fun vs H Q _=>∃ (a:Addr) (ns:List Int),vs=[.ref a]∧Lst H a (ns.map V.int)∧ns.length≤63∧kj H∧∀ H',Q (.bl true) H'
theorem ints_rep(H:Hp):∀ ns:List Int,P2 (Rep H) (ns.map D.int) (ns.map V.int)
 | []=>.nil
 | n::r=>.cons (rA.mpr rfl) (ints_rep H r)
theorem YX{P:Program}{w:World}{K:PySem.W.Frag}{mg:Str→Option Value}{base:Heap}{CX:G4}{k:Nat}{f:Addr}{fd:FuncData}{ps:List Str}{m:Mi.Fn}(F:eY P w K mg base CX k f fd ps (m9 m))
 (h:∀ ns:List Int,ns.length≤63→m [.d (.lst (ns.map D.int))]=.ok (.d (.bl true))):eY P w K mg base CX k f fd ps Hm :=
 F.imp fun vs H Q E ⟨a,ns,e,l,hl,k,q⟩=>by
  subst e
  have l':Lst (Qn H) a (ns.map V.int):=by
   rcases l with l|⟨o,l⟩
   ·exact .inl (lA l trivial)
   ·exact .inr ⟨o,lA l trivial⟩
  refine⟨Qn H,[.d (.lst (ns.map D.int))],.all k,.cons (oU.mpr ⟨a,_,rfl,l',ints_rep _ ns⟩) .nil,?_⟩
  rw[h ns hl]
  intro v H' Hv' g r
  cases (Aq (H:=Hv')).mp r
  exact q H'
def Ite(K:PySem.W.Frag)(a:Addr):It :=
 ⟨fun i H=>∃ xs x,v7 K H a xs∧xs[i]? = some x,fun i H v H'=>∃ p x,(∀ xs,v7 K H a xs→xs[i]? = some x)∧H p=none∧v=.ref p∧H'=upd H p (.tup [.int i,x]),fun i H=>∃ xs,v7 K H a xs∧xs.length=i⟩
theorem z6{X:Cx}{pins:List (Addr×Obj)}{σ : L2.St}{H:Hp}{s:Shared}{fp:List Addr}{T:Addr}{o:HO}{h':Heap}{t':Nat}(I:Inv X pins σ H s)(hf:∀ b∈fp,qW X pins H b)
 (k:∀ b u,b∉fp→s.heap.get? b=some u→h'.get? b=some u) (hT:s.heap.objs.size≤T) (new:di X.prog X.w (upd H T o) h' T o):Inv X pins σ (upd H T o) { s with heap:=h',toks:=t' }:=by
 have hn:H T=none:=I.hok.fresh hT
 have nfp:∀ b u,H b=some u→b∉fp:=fun b u e z=>by rw[(hf b z).1] at e;cases e
 refine I.call' (s':={ s with heap:=h',toks:=t' }) (ch:=fp) rfl ⟨fun b u e _ _ hb=>k b u hb e,fun b u e _ _ hb=>⟨u.slots,k b u hb e⟩,fun b u e hb _=>?_,fun b u e hb=>⟨u,k b u hb e⟩,fun b xs e=>?_,fun b q u e=>?_,fun b w ps e=>⟨#[],?_⟩⟩ ?_ I.bare
  fun b hb=>⟨(hf b hb).2.2.2.1,(hf b hb).2.1,(hf b hb).2.2.2.2.1,(hf b hb).2.2.2.2.2⟩
 ·have:b≠T:=Nat.ne_of_lt (Nat.lt_of_lt_of_le (Heap.lt_size e) hT)
  rw[aM this];exact hb
 ·rw[aM (bf e hn)];exact e
 ·rw[aM (bf e hn)];exact e
 ·rw[aM (bf e hn),e];simp
 ·intro b u e
  by_cases hb:b=T
  ·subst hb;rw[bc] at e;cases e;exact new
  ·rw[aM hb] at e
   refine(I.hok b u e).stay (fun c v hc q=>k c v ?_ q) (fun c q=>by rw[aM (bf q hn)];exact q) fun c xs q=>by rw[aM (bf q hn)];exact q
   rcases hc with z|z
   ·rw[z];exact nfp b u e
   ·exact nfp c _ z
theorem vp{X:Cx}{pins:List (Addr×Obj)}{σ : L2.St}{H:Hp}{s:Shared}{fp:List Addr}{h':Heap}{t':Nat}(I:Inv X pins σ H s)(hf:∀ b∈fp,qW X pins H b)
 (k:∀ b u,b∉fp→s.heap.get? b=some u→h'.get? b=some u):Inv X pins σ H { s with heap:=h',toks:=t' }:=by
 have nfp:∀ b u,H b=some u→b∉fp:=fun b u e z=>by rw[(hf b z).1] at e;cases e
 refine I.call' (s':={ s with heap:=h',toks:=t' }) (ch:=fp) rfl ⟨fun b u e _ _ hb=>k b u hb e,fun b u e _ _ hb=>⟨u.slots,k b u hb e⟩,fun b u e hb _=>hb,fun b u e hb=>⟨u,k b u hb e⟩,fun b xs e=>e,fun b q u e=>e,fun b w ps e=>⟨#[],by rw[e];simp⟩⟩ ?_ I.bare
  fun b hb=>⟨(hf b hb).2.2.2.1,(hf b hb).2.1,(hf b hb).2.2.2.2.1,(hf b hb).2.2.2.2.2⟩
 intro b u e
 refine(I.hok b u e).stay (fun c v hc q=>k c v ?_ q) (fun c q=>q) fun c xs q=>q
 rcases hc with z|z
 ·rw[z];exact nfp b u e
 ·exact nfp c _ z
theorem Ob{P:Program}{w:World}{K:PySem.W.Frag}{elts:List Expr}{k1:Nat}{pos:Pos}(a e it:Addr)(hne:e≠it):Turn P w K (.Tuple elts k1 pos) (Ite K a) [e,it] e (fun i h=>(∃ old,IsEnum h e it i old)∧h.IsListIter it a i) where
 mem:=by simp
 obj:=fun i h st b hb=>by
  obtain⟨⟨old,he⟩,o,ho,c,d⟩:=st
  rcases List.mem_cons.mp hb with rfl|hb
  ·exact⟨_,he,fun v z=>by cases z⟩
  ·have e1:b=it:=by simpa using hb
   subst e1
   exact⟨o,ho,fun v z=>by rw[d] at z;cases z⟩
 keep:=fun i h h' st kk=>⟨let ⟨old,he⟩:=st.1;⟨old,kk e (by simp) _ he⟩,st.2.at fun o q=>kk it (by simp) o q⟩
 item:=by
  intro X hP hw hK hc i pins s σ H E I hf st hg
  subst hP hw hK
  obtain⟨xs,x,hq,hx⟩:=hg
  obtain⟨its,rv,p,hz⟩:=I.list hq
  obtain⟨u,hu,ru⟩:=rv.get hx
  obtain⟨⟨old,he⟩,hli⟩:=st
  have hlt:i < its.toArray.size:=by rw[List.size_toArray];exact(List.getElem?_eq_some_iff.mp hu).1
  have hai:a≠it:=by
   rintro rfl
   obtain⟨o,ho,c,_⟩:=hli
   obtain⟨o',n,ho',c',_⟩:=p
   rw[ho] at ho';cases ho'
   rw[c] at c';exact absurd (Value.type.inj c') (by decide)
  have hea:e≠a:=by
   rintro rfl
   obtain⟨o',n,ho',c',_⟩:=p
   rw[he] at ho';cases ho'
   exact absurd (Value.type.inj c') (by decide)
  refine wpAny_pyNext_enum_itemD (Draws.list (by first|exact I.ok.hd hc|(simp;exact I.ok.hd hc)) it a hai its.toArray) he ⟨hli,p.isList⟩ hlt hne (by simp[hne,hea]) fun y h' tk hy ho hs' hT hsz hk=>?_
  have hy:y=u:=by
   have hu':its.toArray[i]? = some u:=by simpa using hu
   rw[hu'] at hy;exact(Option.some.inj hy).symm
  subst hy
  refine⟨_,rfl,wpAny_letOwnedTupleGo_enum ho fun h2 he2 hs2=>?_⟩
  have kk:∀ b o,b∉[e,it]→s.heap.get? b=some o→h2.get? b=some o:=fun b o hb q=>by
   simp at hb
   exact(hs2.2 b hb.1).trans (hk b o hb.1 hb.2 q)
  have hTn:s.heap.objs.size≠e:=fun z=>absurd (Heap.lt_size he) (by rw[z];exact Nat.lt_irrefl _)
  refine⟨.ref s.heap.objs.size,upd H s.heap.objs.size (.tup [.int i,x]),z6 (s:=s) (t':=tk+1) I hf kk (Nat.le_refl _) ?_,rfl,⟨_,x,fun ys hy=>by rw[I.wN hy hq];exact hx,I.hok.fresh (Nat.le_refl _),rfl,rfl⟩,⟨⟨_,he2⟩,?_⟩,fun b hb=>?_⟩
  ·exact⟨by simp only[List.length_cons,List.length_nil];rw[sizeLine_eq];decide,[.int i tk,y],.cons ⟨_,rfl⟩ (.cons ru .nil),⟨_,(hs2.2 _ hTn).trans hT,rfl,rfl,_,rfl⟩⟩
  ·exact hs'.1.at fun o q=>(hs2.2 it (Ne.symm hne)).trans q
  ·have:b≠s.heap.objs.size:=fun z=>by
    subst z
    rcases List.mem_cons.mp hb with z|z
    ·exact hTn z
    ·have z:s.heap.objs.size=it:=by simpa using z
     obtain⟨o,ho,_⟩:=hli
     exact absurd (Heap.lt_size ho) (by rw[← z];exact Nat.lt_irrefl _)
   rw[aM this];exact(hf b hb).1
 done:=by
  intro X hP hw hK hc i pins s σ H E I hf st hg
  subst hP hw hK
  obtain⟨xs,hq,hx⟩:=hg
  obtain⟨its,rv,p,hz⟩:=I.list hq
  obtain⟨⟨old,he⟩,hli⟩:=st
  have hl:=rv.length
  have hai:a≠it:=by
   rintro rfl
   obtain⟨o,ho,c,_⟩:=hli
   obtain⟨o',n,ho',c',_⟩:=p
   rw[ho] at ho';cases ho'
   rw[c] at c';exact absurd (Value.type.inj c') (by decide)
  subst hx
  have D:=Draws.list (prog:=X.prog) (w:=X.w) (A:=X.A.in1) (by first|exact I.ok.hd hc|(simp;exact I.ok.hd hc)) it a hai its.toArray
  have hn:its.toArray.size=xs.length:=by simp;omega
  rw[hn] at D
  exact wpAny_pyNext_enum_endD D he ⟨hli,p.isList⟩ fun h' hx=>⟨rfl,vp (s:=s) (t':=s.toks) I hf fun b o hb q=>hx b o (fun z=>hb (by simp[z])) q⟩
 self:=fun _ i s Q E st h=>let ⟨⟨old,he⟩,_⟩:=st;wpAny_pyIter_enum he h
section
variable{X:Cx}{elts:List Expr}{k1:Nat}{tpos:Pos}
def Th(K:PySem.W.Frag)(tl:TE):TI:=fun σ H R=>tl σ H fun x H1=>∃ a,[x]=[V.ref a]∧(∃ xs,v7 K H1 a xs)∧R (Ite K a) H1
theorem Mj{a:Expr}{ta:TE}{p pos:Pos}(hg:Gl X "enumerate")(hm:X.mg "enumerate" = none)(ha:PE X a ta)(hs:starEach [a] X.env=[(false,eval a X.env)]:=by rfl)(hs0:starEach [a] X.env=(false,eval a X.env)::starEach [] X.env:=by rfl) :
 PI X (.Tuple elts k1 tpos) (.Call (.Name "enumerate" p) [a] [] pos) (Th X.K ta):=by
 intro pins s σ H R I h
 refine Call_ (vJ I hg hm boot_enumerate (PyProof.Rows.callWith_type1 (gf (aa ha aq hs0 pos pins s σ H (fun vs H1=>∃ l,vs=[.ref l]∧(∃ xs,v7 X.K H1 l xs)∧R (Ite X.K l) H1) I ?_) fun us s1 ⟨vs,H1,I1,r1,q1⟩=>?_) hs rfl))
 ·exact h
 ·obtain⟨l,e,⟨xs,hq⟩,q⟩:=q1
  subst e
  obtain⟨u,rfl,ru⟩:=vals1 r1
  cases ru
  obtain⟨its,rv,pl,hz⟩:=I1.list hq
  refine call_enumerate_list pl.isList fun h' hE hI hsz hk=>?_
  refine wpAny_pyIter_enum hE ?_
  have I2:Inv X pins σ H1 { s1 with heap:=h' }:=I1.kept (t':=s1.toks) fun b o e=>hk b o e
  refine⟨_,[s1.heap.objs.size+1,s1.heap.objs.size],_,_,H1,rfl,I2,Ob l (s1.heap.objs.size+1) s1.heap.objs.size (Nat.ne_of_gt (Nat.lt_succ_self _)),⟨⟨_,hE⟩,hI⟩,fun b hb=>?_,q⟩
  have hb:s1.heap.objs.size≤b:=by
   rcases List.mem_cons.mp hb with z|z
   ·rw[z];exact Nat.le_succ _
   ·have z:b=s1.heap.objs.size:=by simpa using z
    rw[z];exact Nat.le_refl _
  exact I1.wW hb (I1.hok.fresh hb)
theorem Iz:∀ {ds:List D} {k i:Nat} {d:D},ds[i]? = some d→(Mi.qG k ds)[i]? = some (.tup [.int ((k+i:Nat):Int),d])
 | [],_,_,_,h=>by simp at h
 | d::r,k,0,e,h=>by simp at h;subst h;rfl
 | d::r,k,i+1,e,h=>by
  have:=Iz (ds:=r) (k:=k+1) (i:=i) (d:=e) (by simpa using h)
  rw[Mi.qG,List.getElem?_cons_succ,this]
  rw[show k+1+i=k+(i+1) by omega]
theorem wX:∀ (ds:List D) (k:Nat),(Mi.qG k ds).length=ds.length
 | [],_=>rfl
 | d::r,k=>by rw[Mi.qG,List.length_cons,List.length_cons,wX r]
theorem Wg{x:D}{k:List D→Prop}(h:Fin (Mi.iV x) k):∃ ds,x=.lst ds∧k ds:=by
 cases x with
 | lst b=>exact⟨b,rfl,h⟩
 | _=>exact h.elim
theorem S8{K:PySem.W.Frag}{a:Addr}{ds:List D}{P:Hp→Hp→Prop}(ok:∀ H Hv,P H Hv→Vw H Hv→∃ xs,v7 K H a xs∧P2 (Rep Hv) ds xs):ItD (Ite K a) P (Mi.qG 0 ds):=by
 refine⟨fun i H Hv p v hi=>?_,fun i H Hv x H' p v hi y=>?_,fun H Hv p v=>?_⟩
 ·obtain⟨xs,l,r⟩:=ok H Hv p v
  rw[wX] at hi
  obtain⟨x,hx,_⟩:=r.getL (i:=i) (a:=ds[i]) (by simp[hi])
  exact⟨xs,x,l,hx⟩
 ·obtain⟨xs,l,r⟩:=ok H Hv p v
  rw[wX] at hi
  obtain⟨q,z,hz,hq,rfl,rfl⟩:=y
  obtain⟨x,hx,rx⟩:=r.getL (i:=i) (a:=ds[i]) (by simp[hi])
  rw[hz xs l] at hx
  cases hx
  obtain⟨g,k⟩:=Ko v (ds:=[.int i,ds[i]]) (xs:=[.int i,z]) (.cons (rA.mpr rfl) (.cons rx .nil)) hq
  refine⟨_,.tup [.int i,ds[i]],g,?_,k⟩
  rw[Iz (i:=i) (d:=ds[i]) (by simp[hi])]
  simp
 ·obtain⟨xs,l,r⟩:=ok H Hv p v
  exact⟨xs,l,by rw[wX,r.len]⟩
theorem NB{M:Nat→Bool}{K:PySem.W.Frag}{ta:TE}{a:Mi.E}(ha:AE M qV ta a):N6 M (Th K ta) (Mi.yH a):=fun e σ H Hv R I h =>
 ha e σ H Hv _ I ((ao.mp h).mono fun x hx v H1 Hv1 g1 rx=>by
  obtain⟨ds,rfl,hk⟩:=Wg (ao.mp hx)
  obtain⟨p,xs,rfl,l,r⟩:=(oU (H:=Hv1)).mp rx
  exact⟨p,rfl,⟨xs,(l.same g1.vw.sub).sq⟩,hk (Ite K p) H1 Hv1 (fun H Hv=>Lst Hv p xs∧P2 (Rep Hv) ds xs) g1 (S8 fun H Hv z v=>⟨xs,(z.1.same v.sub).sq,z.2⟩) ⟨l,r⟩ fun H1 Hv1 H2 Hv2 z s v=>⟨z.1.same s,dW s z.2⟩⟩)
end
end A
namespace A
open PySem L2 PyProof.Rows
open Mi (D W Rs Fin ao Out Tg)
variable[Tb:jf]
section
variable{X:Cx}{K:PySem.W.Frag}{M:Nat→Bool}{κ : Kd}{ta tb te tk:TE}{a b k:Mi.E}
theorem zM{Hv:Hp}:∀ {ds:List D} {xs:List V} {bs:List Str},Mi.Ca ds=some bs→P2 (Rep Hv) ds xs→xs=bs.map V.str
 | [],_,bs,e,r=>by cases e;cases r;rfl
 | .str b::ds,_,bs,e,r=>by
  cases r with
  | cons x t =>
   cases hb:Mi.Ca ds with
   | none=>rw[Mi.Ca,hb] at e;cases e
   | some cs =>
    rw[Mi.Ca,hb] at e
    cases e
    rw[zM hb t,rn.mp x];rfl
 | .non::_,_,_,e,_=>by cases e
 | .int _::_,_,_,e,_=>by cases e
 | .bl _::_,_,_,e,_=>by cases e
 | .lst _::_,_,_,e,_=>by cases e
 | .tup _::_,_,_,e,_=>by cases e
theorem Us(ha:AE M qP ta a)(hb:AE M qP tb b):AE M qV (tBM K "str" (rJoin K) ta (lg tb vz)) (Mi.m2 Mi.Nq a b):=fun e σ H Hv Q I h=>by
 obtain⟨x,hx,h⟩:=nC (ao.mp h)
 obtain⟨y,hy,h⟩:=nC (ao.mp h)
 cases x with
 | str sep=>cases y with
  | lst ds =>
   obtain⟨ys,hs,h⟩:=lZ (ao.mp h)
   obtain⟨hz,h⟩:=Mi.bx h
   refine ha e σ H Hv _ I (by
    rw[hx]
    intro v H1 Hv1 g1 r1
    cases RD.str r1
    refine⟨rfl,hb e σ H1 Hv1 _ (I.grow g1) (by
     rw[hy]
     intro v2 H2 Hv2 g2 r2
     obtain⟨p,xs,rfl,l,r⟩:=RD.lst g2.vw r2
     have:=zM hs r
     subst this
     exact⟨sep,p,ys,rfl,rfl,l.sq,hz,(Mi.jX h) _ H2 Hv2 (g1.trans g2) vD⟩)⟩)
  | _=>exact h.elim
 | _=>cases y<;>exact h.elim
theorem Gj{H:Hp}{d:D}{v:V}{y:Mi.Ky}(h:Mi.Pu d=some y)(r:Rep H d v):v=kV y:=by
 cases d with
 | int i=>cases h;exact rA.mp r
 | str i=>cases h;exact rn.mp r
 | _=>cases h
theorem Bm{H:Hp}:∀ {ds:List D} {vs:List V} {ys:List Mi.Ky},Mi.Dy ds=some ys→P2 (Rep H) ds vs→vs=ys.map kV
 | [],_,_,h,r=>by cases h;cases r;rfl
 | d::ds,_,ys,h,r=>by
  cases r with
  | cons x t =>
   unfold Mi.Dy at h
   cases h1:Mi.Pu d with
   | none=>rw[h1] at h;cases h
   | some y =>
    cases h2:Mi.Dy ds with
    | none=>rw[h1,h2] at h;cases h
    | some zs =>
     rw[h1,h2] at h
     cases h
     rw[Gj h1 x,Bm h2 t];rfl
theorem Wc{H Hv:Hp}(vw:Vw H Hv){w:W}{x:V}{d:D}{v:V}{q:Option D→Prop}(hw:RB H Hv w x)(r:Rep Hv d v)(h:Fin (Mi.Wh w d) q):∃ a o o',x=.ref a∧GZ H a v o∧q o'∧match o' with
 | some d'=>∃ v',o=some v'∧Rep Hv d' v'
 | none=>o=none:=by
 cases w with
 | d x=>exact h.elim
 | ex z=>exact h.elim
 | dk kvs =>
  obtain⟨y,hy,h⟩:=lZ (ao.mp h)
  have h:q (Mi.Cv kvs y):=h
  have:∃ a kv,x=.ref a∧H a=some (.dK kv)∧JL Hv kvs kv:=by
   rcases hw with ⟨a,kv,e,z,c⟩|⟨a,o,e,z,c⟩
   ·exact⟨a,kv,e,vw.sub _ _ z,c⟩
   ·cases o with
    | dK kv=>exact⟨a,kv,e,z,c⟩
    | _=>exact c.elim
  obtain⟨a,kv,e,z,c⟩:=this
  have hv:=Gj hy r
  subst hv
  exact⟨a,_,_,e,GZ.k z,h,MK c⟩
 | dt kvs =>
  cases d with
  | tup ds =>
   obtain⟨y,hy,h⟩:=lZ (ao.mp h)
   have h:q (Mi.Cv kvs y):=h
   have:∃ a kv,x=.ref a∧H a=some (.dT kv)∧JL Hv kvs kv:=by
    rcases hw with ⟨a,kv,e,z,c⟩|⟨a,o,e,z,c⟩
    ·exact⟨a,kv,e,vw.sub _ _ z,c⟩
    ·cases o with
     | dT kv=>exact⟨a,kv,e,z,c⟩
     | _=>exact c.elim
   obtain⟨a,kv,e,z,c⟩:=this
   obtain⟨b,xs,rfl,l,r⟩:=mO.mp r
   have hv:=Bm hy r
   subst hv
   exact⟨a,_,_,e,GZ.t z (vw.sub _ _ l),h,MK c⟩
  | _=>exact h.elim
theorem NK(i:Nat)(hk:AE M qV tk k):AE M qV (aau tk (vq i)) (Mi.qy i k):=fun e σ H Hv Q I h =>
 hk e σ H Hv _ I ((ao.mp h).mono fun d hd v H1 Hv1 g1 r=>by
  obtain⟨w,he,hd⟩:=Lw (ao.mp hd)
  have I1:=I.grow g1
  obtain⟨x,q,z⟩:=I1.any he
  obtain⟨a,o,o',e1,g,h2,m⟩:=Wc g1.vw z r (ao.mp hd)
  refine⟨x,q,a,o,e1,g,?_⟩
  have:o.isSome=o'.isSome:=by
   cases o' with
   | none=>have m:o=none:=m;rw[m];rfl
   | some d'=>obtain⟨v',m,_⟩:=m;rw[m];rfl
  rw[this]
  exact h2 _ H1 Hv1 g1 jJ)
theorem uL{tv:TE}{v:Mi.E}(i:Nat)(hm:M i=true)(hk:AE M qV tk k)(hv:AE M qV tv v):AS M κ (L2.iK (vq i) tk tv) (Mi.iK i k v):=fun H0 Hv0 e σ H Hv D I h=>by
 obtain⟨d,hd,h⟩:=nC (ao.mp h)
 obtain⟨y,hy,h⟩:=nC (ao.mp h)
 obtain⟨w,he,h⟩:=Lw (ao.mp h)
 refine hv e σ H Hv _ I.toR0 (by
  rw[hd]
  intro x H1 Hv1 g1 rx
  have I1:=I.grow g1
  obtain⟨p,o,q,q1,n,h0,c⟩:=I1.cell hm he
  refine⟨.ref p,q,hk e σ H1 Hv1 _ I1.toR0 (by
   rw[hy]
   intro u H2 Hv2 g2 ru
   have I2:=I1.grow g2
   have c2:=c.same g2.vis
   have q2:=g2.old.at q1 c.nt
   have g12:=g1.trans g2
   have rx2:=lr g2.vis rx
   cases w with
   | d x=>exact(show False from ao.mp h).elim
   | ex z=>exact(show False from ao.mp h).elim
   | dk kvs =>
    obtain⟨hz,h⟩:=Mi.bx (ao.mp h)
    obtain⟨ky,hky,h⟩:=lZ (ao.mp h)
    cases o with
    | dK kv =>
     have c2:JL Hv2 kvs kv:=c2
     have hu:=Gj hky ru
     subst hu
     refine⟨p,_,rfl,JB.k q2 (by rw[← P2.len c2,sizeLine_eq];exact hz),?_⟩
     exact h σ _ Hv2 (I2.write hm he q (show gV Hv2 (.dk (Mi.putK ky d kvs)) (.dK (L2.putK kv ky x)) from MN rx2 c2)) g12.vis
    | _=>exact c2.elim
   | dt kvs =>
    cases y with
    | tup ds =>
     obtain⟨hz,h⟩:=Mi.bx (ao.mp h)
     obtain⟨ky,hky,h⟩:=lZ (ao.mp h)
     cases o with
     | dT kv =>
      have c2:JL Hv2 kvs kv:=c2
      obtain⟨b,xs,rfl,l,r⟩:=(mO (H:=Hv2)).mp ru
      have hu:=Bm hky r
      subst hu
      refine⟨p,_,rfl,JB.t q2 (g2.vw.sub _ _ l) (by rw[← P2.len c2,sizeLine_eq];exact hz),?_⟩
      exact h σ _ Hv2 (I2.write hm he q (show gV Hv2 (.dt (Mi.putK ky d kvs)) (.dT (L2.putK kv ky x)) from MN rx2 c2)) g12.vis
     | _=>exact c2.elim
    | _=>exact(show False from ao.mp h).elim)⟩)
end
end A
namespace Zp
open PySem PySem.Spec PyProof.Rows L2
variable[Tb:A.jf]
section
variable{P:Program}{w:World}{B:Around}{F:Value→Shared→Prop}{z:Shared}
theorem YG{c t:Addr}{i:Nat}{us:Array Value}{u:Value}{R:Value→Shared→Prop}(hc:z.heap.IsTupleIter c t i)(ht:z.heap.IsTuple t us)(hu:us[i]? = some u)
 (hR:∀ h',h'.IsTupleIter c t (i+1)→Heap.SameBut c z.heap h'→R u { z with heap:=h' }):wpAny (model P w) B (Builtin.SmallTypes.nextOf (.ref c)) R F z:=by
 obtain⟨ob,gb,cb,db⟩:=id hc
 obtain⟨ol,gl,_,nl,dl⟩:=ht
 unfold Builtin.SmallTypes.nextOf
 refine wpAny_bind (wpAny_callSpecial?_slot (name:=Str.ofString "__next__") hc.typeIs PySem.F.slot_tuple_iterator_next (wpAny_call_entry PySem.F.slot_tuple_iterator_next hc.typeIs PySem.F.entry_tuple_iterator_next ?_ (PySem.F.args_tuple_iterator_next_1 _)))
 show wpAny _ _ (field (.ref c) 0 >>= _) _ _ z
 refine wpAny_bind (wpAny_field gb db (x:=.ref t) rfl ?_)
 show wpAny _ _ (if (Value.ref t == Value.none)=true then _ else _) _ _ z
 rw[if_neg (fun q:(Value.ref t == Value.none)=true=>nomatch q)]
 show wpAny _ _ (field (.ref c) 1 >>= _) _ _ z
 refine wpAny_bind (wpAny_field gb db (x:=.int i 0) rfl ?_)
 show wpAny _ _ (seqItems? (.ref t) >>= _) _ _ z
 refine wpAny_bind (wpAny_seqItems gl dl ?_)
 simp only[Int.toNat_natCast,hu]
 refine wpAny_bind (wpAny_setField gb db (by simp) (wpAny_pure ⟨u,rfl,wpAny_pure (hR _ ?_ (Heap.SameBut.update ..))⟩))
 refine⟨_,Heap.get?_update_self _ gb (Obj.isFreed_of_fields (Obj.data_mapFields db _)),(Obj.cls_mapFields ..).trans cb,?_⟩
 rw[Obj.data_mapFields db];simp[rawInt]
theorem Kf{c t:Addr}{i:Nat}{us:Array Value}{R:Value→Shared→Prop}(hn:B.handled=none)(hc:z.heap.IsTupleIter c t i)(ht:z.heap.IsTuple t us)(hu:us[i]? = none)
 (hF:∀ h' e,Heap.ExtBut c z.heap h'→(∃ o,h'.get? e=some o∧o.cls=.type "StopIteration")→F (.ref e) { z with heap:=h' }):wpAny (model P w) B (Builtin.SmallTypes.nextOf (.ref c)) R F z:=by
 obtain⟨ob,gb,cb,db⟩:=id hc
 obtain⟨ol,gl,_,nl,dl⟩:=ht
 unfold Builtin.SmallTypes.nextOf
 refine wpAny_bind (wpAny_callSpecial?_slot (name:=Str.ofString "__next__") hc.typeIs PySem.F.slot_tuple_iterator_next (wpAny_call_entry PySem.F.slot_tuple_iterator_next hc.typeIs PySem.F.entry_tuple_iterator_next ?_ (PySem.F.args_tuple_iterator_next_1 _)))
 show wpAny _ _ (field (.ref c) 0 >>= _) _ _ z
 refine wpAny_bind (wpAny_field gb db (x:=.ref t) rfl ?_)
 show wpAny _ _ (if (Value.ref t == Value.none)=true then _ else _) _ _ z
 rw[if_neg (fun q:(Value.ref t == Value.none)=true=>nomatch q)]
 show wpAny _ _ (field (.ref c) 1 >>= _) _ _ z
 refine wpAny_bind (wpAny_field gb db (x:=.int i 0) rfl ?_)
 show wpAny _ _ (seqItems? (.ref t) >>= _) _ _ z
 refine wpAny_bind (wpAny_seqItems gl dl ?_)
 simp only[Int.toNat_natCast,hu]
 refine wpAny_bind (wpAny_rule (wpAny_bind (wpAny_setField gb db (by simp) ?_)))
 show wpAny _ _ (newExc (.type "StopIteration") [] >>= _) _ _ _
 refine wpAny_bind ?_
 simp only[newExc,newTuple]
 refine wpAny_bind (wpAny_newObj_type ?_ (by size_fits))
 refine wpAny_bind (m:=firstArgMember _ _) (wpAny_of_eq (a:=Value.none) (by simp only[firstArgMember];rfl) (wpAny_newObj_type ?_ (by size_fits)))
 simp only[raiseNew]
 refine wpAny_bind (wpAny_handled ?_)
 first|rw[show B.in1.handled=none from hn]|rw[hn]
 exact wpAny_bind (wpAny_pure (wpAny_throw (hF _ _ (((Heap.SameBut.update ..).extBut.push _).push _) ⟨_,Heap.get?_push_size _ rfl,rfl⟩)))
end
def nm:Bool→String|true => "list" | false => "tuple"
def nmI:Bool→String|true => "list_iterator" | false => "tuple_iterator"
def Ls(k:Bool)(h:Heap)(l:Addr)(us:Array Value):Prop:=∃ o,h.get? l=some o∧o.cls=.type (nm k)∧∃ n,o.data=.seq us n
def UJ(k:Bool)(h:Heap)(c l:Addr)(i:Nat):Prop:=∃ o,h.get? c=some o∧o.cls=.type (nmI k)∧o.data=.fields #[.ref l,.int i 0]
theorem Ls.at{k:Bool}{h h':Heap}{l:Addr}{us:Array Value}(x:Ls k h l us)(f:∀ o,h.get? l=some o→h'.get? l=some o):Ls k h' l us:=let ⟨o,e,r⟩:=x;⟨o,f o e,r⟩
theorem UJ.at{k:Bool}{h h':Heap}{c l:Addr}{i:Nat}(x:UJ k h c l i)(f:∀ o,h.get? c=some o→h'.get? c=some o):UJ k h' c l i:=let ⟨o,e,r⟩:=x;⟨o,f o e,r⟩
theorem UJ.cell{k:Bool}{h:Heap}{c l:Addr}{i:Nat}(x:UJ k h c l i):∃ o,h.get? c=some o∧∀ v,o.data≠.cell v:=let ⟨o,e,_,d⟩:=x;⟨o,e,fun v q=>by rw[d] at q;cases q⟩
section
variable{P:Program}{w:World}{B:Around}{F:Value→Shared→Prop}{z:Shared}
theorem nx{k:Bool}{c t:Addr}{i:Nat}{us:Array Value}{u:Value}{R:Value→Shared→Prop}(hc:UJ k z.heap c t i)(ht:Ls k z.heap t us)(hu:us[i]? = some u)
 (hR:∀ h',UJ k h' c t (i+1)→Heap.SameBut c z.heap h'→R u { z with heap:=h' }):wpAny (model P w) B (Builtin.SmallTypes.nextOf (.ref c)) R F z:=by
 cases k
 ·exact YG hc ht hu hR
 ·exact wpAny_nextOf_list_item hc ht hu hR
theorem YH{k:Bool}{c t:Addr}{i:Nat}{us:Array Value}{R:Value→Shared→Prop}(hn:B.handled=none)(hc:UJ k z.heap c t i)(ht:Ls k z.heap t us)(hu:us[i]? = none)
 (hF:∀ h' e,Heap.ExtBut c z.heap h'→(∃ o,h'.get? e=some o∧o.cls=.type "StopIteration")→F (.ref e) { z with heap:=h' }):wpAny (model P w) B (Builtin.SmallTypes.nextOf (.ref c)) R F z:=by
 cases k
 ·exact Kf hn hc ht hu hF
 ·exact wpAny_nextOf_list_end hn hc ht hu hF
abbrev itO(k:Bool)(l:Addr):Obj:={ cls:=.type (nmI k),data:=.fields #[.ref l,.int 0 0] }
theorem Xc{k:Bool}{l:Addr}{us:Array Value}{R:Value→Shared→Prop}(h:Ls k z.heap l us)(hR:R (.ref z.heap.objs.size) { z with heap:=z.heap.push (itO k l) }):wpAny (model P w) B (pyIter (.ref l)) R F z:=by
 cases k
 ·exact wpAny_pyIter_tuple h hR
 ·exact wpAny_pyIter_list h hR
end
end Zp
namespace Zp
open PySem PySem.Spec PyProof.Rows L2
variable[Tb:A.jf]
structure Sr where
 k:Bool
 c:Addr
 l:Addr
 us:Array Value
def On(h:Heap)(i:Nat)(q:Sr):Prop:=UJ q.k h q.c q.l i∧Ls q.k h q.l q.us
theorem On.at{h h':Heap}{i:Nat}{q:Sr}(x:On h i q)(f:∀ b o,b=q.c∨b=q.l→h.get? b=some o→h'.get? b=some o):On h' i q :=
 ⟨x.1.at fun o e=>f _ o (.inl rfl) e,x.2.at fun o e=>f _ o (.inr rfl) e⟩
abbrev TupAt(h:Heap)(T:Addr)(vs:List Value):Prop:=h.get? T=some { cls:=.type "tuple", data:=.seq vs.toArray }
structure Ap(z TI TO:Addr)(L:List Sr):Prop where
 TIz:TI≠z
 TOz:TO≠z
 TITO:TI≠TO
 nd:(L.map (·.c)).Nodup
 c:∀ q∈L,q.c≠z∧q.c≠TI∧q.c≠TO
 l:∀ q∈L,q.l≠z∧q.l≠TO∧∀ r∈L,q.l≠r.c
theorem Dn{M:Model}{B:Around}{α β : Type}{b:β}{f:α→β→Sem (ForInStep β)}{E:Value→Shared→Prop}(I:Nat→Shared→Prop):∀ (xs:List α) (n:Nat) (s:Shared),
 (∀ j x,xs[j]? = some x→∀ s,I (n+j) s→wpAny M B (f x b) (fun r s'=>r=.yield b∧I (n+j+1) s') E s)→I n s→wpAny M B (forIn xs b f) (fun r s'=>r=b∧I (n+xs.length) s') E s
 | [],n,s,_,h=>by
  rw[List.forIn_nil];exact wpAny_pure ⟨rfl,h⟩
 | x::r,n,s,hs,h=>by
  rw[List.forIn_cons]
  refine wpAny_bind (wpAny_mono (hs 0 x rfl s h) (fun y s' hy=>?_) fun _ _ e=>e)
  obtain⟨rfl,hy⟩:=hy
  refine wpAny_mono (Dn I r (n+1) s' (fun j x' e s2 h2=>?_) hy) (fun y s2 h2=>⟨h2.1,?_⟩) fun _ _ e=>e
  ·rw[show n+1+j=n+(j+1) by omega] at h2 ⊢
   exact hs (j+1) x' (by simpa using e) s2 h2
  ·rw[List.length_cons,show n+(r.length+1)=n+1+r.length by omega];exact h2.2
section
variable{P:Program}{w:World}{B:Around}{F:Value→Shared→Prop}{s:Shared}
def Kp(z TO:Addr)(L:List Sr)(h h':Heap):Prop:=∀ b o,b≠z→b≠TO→b∉L.map (·.c)→h.get? b=some o→h'.get? b=some o
structure Mid(s:Shared)(z TI TO:Addr)(L:List Sr)(i n:Nat)(s':Shared):Prop where
 zz:IsZip s'.heap z TI TO .ellipsis
 vs:∃ vs:List Value,vs.length=L.length∧TupAt s'.heap TO vs∧∀ (j:Nat) (q:Sr),j < n→L[j]? = some q→vs[j]? = q.us[i]?∧i < q.us.size
 on:∀ (j:Nat) (q:Sr),L[j]? = some q→On s'.heap (if j < n then i+1 else i) q
 sz:s'.heap.objs.size=s.heap.objs.size
 kp:Kp z TO L s.heap s'.heap
 eq:s'={ s with heap:=s'.heap }
theorem aa3{L:List Sr}(h:(L.map (·.c)).Nodup){i j:Nat}{p q:Sr}(hp:L[i]? = some p)(hq:L[j]? = some q)(hij:i≠j):p.c≠q.c:=by
 intro e
 have h1:(L.map (·.c))[i]? = some p.c:=by rw[List.getElem?_map,hp];rfl
 have h2:(L.map (·.c))[j]? = some q.c:=by rw[List.getElem?_map,hq];rfl
 obtain⟨l1,g1⟩:=List.getElem?_eq_some_iff.mp h1
 obtain⟨l2,g2⟩:=List.getElem?_eq_some_iff.mp h2
 exact hij ((List.getElem_inj h).mp (by rw[g1,g2,e]))
theorem G8{z TI TO:Addr}{L:List Sr}{i:Nat}{vs:List Value}{R:Value→Shared→Prop}(hh:B.handled=none)(D:Ap z TI TO L)(h0:L≠[])
 (hz:IsZip s.heap z TI TO .none) (hI:TupAt s.heap TI (L.map fun q=>.ref q.c)) (hO:TupAt s.heap TO vs) (hl:vs.length=L.length) (hL:L.length≤8) (hon:∀ q∈L,On s.heap i q)
 (hR:∀ (h':Heap) (ws:List Value),IsZip h' z TI TO (rawInt s.heap.objs.size)→ws.length=L.length→(∀ (j:Nat) (q:Sr),L[j]? = some q→ws[j]? = q.us[i]?∧i < q.us.size)→TupAt h' TO ws→TupAt h' s.heap.objs.size ws→(∀ q∈L,On h' (i+1) q) →
  Kp z TO L s.heap h'→R (.ref s.heap.objs.size) { s with heap:=h' })
 (hF:∀ (h':Heap) (e:Addr),Kp z TO L s.heap h'→(∃ o,h'.get? e=some o∧o.cls=.type "StopIteration")→(∃ q∈L,q.us.size≤i)→F (.ref e) { s with heap:=h' }) :
 wpAny (model P w) B (Builtin.«zip.__next__» ⟨[.ref z],[]⟩) (fun fin s'=>∃ v,fin=.done (.ret v)∧R v s') F s:=by
 show wpAny _ _ (field (.ref z) 2 >>= _) _ _ _
 refine wpAny_bind (wpAny_field hz rfl (x:=.bool false) rfl ?_)
 show wpAny _ _ (field (.ref z) 3 >>= _) _ _ _
 refine wpAny_bind (wpAny_field hz rfl (x:=.ref TI) rfl ?_)
 refine wpAny_bind (wpAny_seqItems hI rfl ?_)
 have hne:((L.map fun q=>Value.ref q.c).toArray.isEmpty)=false:=by cases L with|nil=>exact absurd rfl h0|cons q r=>rfl
 simp only[hne,Bool.false_eq_true,if_false]
 show wpAny _ _ (Builtin.SmallTypes.ownedTupleIsFree (.ref z) >>= _) _ _ _
 refine wpAny_bind ?_
 unfold Builtin.SmallTypes.ownedTupleIsFree
 refine wpAny_bind (wpAny_field hz rfl (x:=.none) rfl (wpAny_pure ?_))
 simp only[if_true]
 refine wpAny_bind (wpAny_rule (wpAny_bind (wpAny_field hz rfl (x:=.ref TO) rfl (wpAny_bind (wpAny_setField_rec hz (by simp) fun h1 hz1 hs1=>?_)))))
 replace hz1:IsZip h1 z TI TO .ellipsis:=hz1
 have M0:Mid s z TI TO L i 0 { s with heap:=h1 }:=⟨hz1,⟨vs,hl,hs1.extBut _ _ D.TOz hO,fun j q h _=>absurd h (Nat.not_lt_zero _)⟩,fun j q e=>(hon q (List.mem_of_getElem? e)).at fun b o hb x=>by
  have hq:=List.mem_of_getElem? e
  rcases hb with rfl|rfl
  ·exact hs1.extBut _ _ (D.c q hq).1 x
  ·exact hs1.extBut _ _ (D.l q hq).1 x,hs1.1,fun b o b1 _ _ x=>hs1.extBut _ _ b1 x,rfl⟩
 refine wpAny_bind (wpAny_mono (Dn (Mid s z TI TO L i) _ 0 _ ?_ M0) ?_ fun _ _ e=>e)
 ·intro j x e s2 M
  rw[Nat.zero_add] at M ⊢
  obtain⟨q,hq,rfl⟩ : ∃ q,L[j]? = some q∧x=(Value.ref q.c,j):=by
   simp only[List.getElem?_zipIdx,List.getElem?_map,Option.map_map] at e
   obtain⟨q,hq,e⟩:=Option.map_eq_some_iff.mp e
   exact⟨q,hq,by rw[← e];simp⟩
  have hqm:=List.mem_of_getElem? hq
  have jlt:j < L.length:=(List.getElem?_eq_some_iff.mp hq).1
  have onq:=M.on j q hq
  rw[if_neg (Nat.lt_irrefl j)] at onq
  obtain⟨ws,wl,wO,wv⟩:=M.vs
  refine wpAny_bind (wpAny_onRaise ?_)
  show wpAny _ _ (Builtin.SmallTypes.nextOf (.ref q.c) >>= _) _ _ _
  cases hu:q.us[i]? with
  | none =>
   refine wpAny_bind (YH hh onq.1 onq.2 hu fun h3 e2 x3 he=>?_)
   obtain⟨oe,goe,coe⟩:=he
   have hz3:IsZip h3 z TI TO .ellipsis:=x3 _ _ (D.c q hqm).1.symm M.zz
   have hez:e2≠z:=fun y=>by subst y;rw[hz3] at goe;cases goe;simp at coe
   refine wpAny_setField_rec hz3 (by simp) fun h4 _ x4=>?_
   rw[M.eq]
   exact hF h4 e2 (fun b o b1 b2 b3 y=>x4.extBut _ _ b1 (x3 _ _ (fun q'=>b3 (by rw[q'];exact List.mem_map_of_mem hqm)) (M.kp b o b1 b2 b3 y))) ⟨oe,x4.extBut _ _ hez goe,coe⟩ ⟨q,hqm,by simpa using hu⟩
  | some u =>
   refine wpAny_bind (nx onq.1 onq.2 hu fun h3 a3 x3=>wpAny_pure ?_)
   have hO3:TupAt h3 TO ws:=x3.extBut _ _ (D.c q hqm).2.2.symm wO
   refine wpAny_bind (wpAny_seqItems hO3 rfl (wpAny_bind (wpAny_updateSeq hO3 rfl ?_ (by rw[List.size_toArray,wl,sizeLine_eq];omega) (by simp only[Array.size_setIfInBounds,List.size_toArray];rw[wl,sizeLine_eq];omega))))
   refine wpAny_bind (wpAny_letGo (wpAny_pure ⟨rfl,?_⟩))
   have x4:Heap.SameBut TO h3 (h3.update TO (Obj.mapSeq (·.setIfInBounds j u))):=Heap.SameBut.update ..
   have hu':i < q.us.size:=(Array.getElem?_eq_some_iff.mp hu).1
   have up:∀ b o,b≠q.c→b≠TO→s2.heap.get? b=some o→(h3.update TO (Obj.mapSeq (·.setIfInBounds j u))).get? b=some o:=fun b o b1 b2 y=>x4.extBut _ _ b2 (x3.extBut _ _ b1 y)
   refine⟨up _ _ (D.c q hqm).1.symm D.TOz.symm M.zz,⟨ws.set j u,by rw[List.length_set];exact wl,?_,fun k r hk hr=>?_⟩,fun k r hr=>?_,?_,fun b o b1 b2 b3 y=>up b o (fun q'=>b3 (by rw[q'];exact List.mem_map_of_mem hqm)) b2 (M.kp b o b1 b2 b3 y),?_⟩
   ·show (h3.update TO _).get? TO=_
    rw[Heap.get?_update_self _ hO3 rfl]
    simp[Obj.mapSeq]
   ·by_cases hkj:k=j
    ·subst hkj
     rw[hq] at hr;cases hr
     rw[List.getElem?_set,if_pos rfl,if_pos (by omega),hu]
     exact⟨rfl,hu'⟩
    ·rw[List.getElem?_set,if_neg (fun q=>hkj q.symm)]
     exact wv k r (by omega) hr
   ·have hrm:=List.mem_of_getElem? hr
    by_cases hkj:k=j
    ·subst hkj
     rw[hq] at hr;cases hr
     rw[if_pos (Nat.lt_succ_self _)]
     exact⟨a3.at fun o y=>x4.extBut _ _ (D.c q hqm).2.2 y,onq.2.at fun o y=>up _ o ((D.l q hqm).2.2 q hqm) (D.l q hqm).2.1 y⟩
    ·have:=M.on k r hr
     rw[show (if k < j then i+1 else i)=(if k < j+1 then i+1 else i) from by
      by_cases h:k < j
      ·rw[if_pos h,if_pos (by omega)]
      ·rw[if_neg h,if_neg (by omega)]] at this
     exact this.at fun b o hb y=>by
      rcases hb with rfl|rfl
      ·exact up _ _ (aa3 D.nd hr hq hkj) (D.c r hrm).2.2 y
      ·exact up _ _ ((D.l r hrm).2.2 q hqm) (D.l r hrm).2.1 y
   ·show (h3.update TO _).objs.size=_
    rw[x4.1,x3.1,M.sz]
   ·rw[M.eq]
 ·rintro r s2 ⟨rfl,M⟩
  have hL2:0+((L.map fun q=>Value.ref q.c).toArray.toList.zipIdx).length=L.length:=by simp
  rw[hL2] at M
  obtain⟨ws,wl,wO,wv⟩:=M.vs
  refine wpAny_bind (wpAny_seqItems wO rfl (wpAny_bind (wpAny_newTuple ?_ (by show ws.length≤_;rw[wl,sizeLine_eq];omega))))
  show wpAny _ _ (Builtin.SmallTypes.ownedTupleHandOut (.ref z) (.ref s2.heap.objs.size) >>= _) _ _ _
  refine wpAny_bind ?_
  unfold Builtin.SmallTypes.ownedTupleHandOut
  have hz6:IsZip (s2.heap.push { cls:=.type "tuple", data:=.seq ws.toArray }) z TI TO .ellipsis:=Heap.get?_push_of_some _ M.zz
  refine wpAny_bind (wpAny_setField_rec hz6 (by simp) fun h7 hz7 x7=>?_)
  replace hz7:IsZip h7 z TI TO (rawInt s2.heap.objs.size):=hz7
  refine wpAny_setField_rec hz7 (by simp) fun h8 hz8 x8=>?_
  replace hz8:IsZip h8 z TI TO (rawInt s2.heap.objs.size):=hz8
  have up:∀ b o,b≠z→s2.heap.get? b=some o→h8.get? b=some o:=fun b o b1 y=>x8.extBut _ _ b1 (x7.extBut _ _ b1 (Heap.get?_push_of_some _ y))
  have hzl:z < s2.heap.objs.size:=Heap.lt_size M.zz
  have hT8:TupAt h8 s2.heap.objs.size ws:=x8.extBut _ _ (Nat.ne_of_gt hzl) (x7.extBut _ _ (Nat.ne_of_gt hzl) (Heap.get?_push_size _ rfl))
  refine wpAny_pure ⟨_,rfl,?_⟩
  show R (.ref s2.heap.objs.size) _
  rw[M.sz] at hz8 hT8 ⊢
  have e:=M.eq
  rw[e]
  exact hR h8 ws hz8 wl (fun j q hq=>wv j q (List.getElem?_eq_some_iff.mp hq).1 hq) (up _ _ D.TOz wO) hT8 (fun q hq=>by
   obtain⟨j,hj⟩:=List.getElem?_of_mem hq
   have:=M.on j q hj
   rw[if_pos (List.getElem?_eq_some_iff.mp hj).1] at this
   exact this.at fun b o hb y=>by
    rcases hb with rfl|rfl
    ·exact up _ _ (D.c q hq).1 y
    ·exact up _ _ (D.l q hq).1 y) fun b o b1 b2 b3 y=>up b o b1 (M.kp b o b1 b2 b3 y)
end
end Zp
namespace Zp
open PySem PySem.Spec PyProof.Rows L2
variable[Tb:A.jf]
section
variable{P:Program}{w:World}{B:Around}{F':Value→Shared→Prop}{s:Shared}
abbrev zO(TI TO:Addr):Obj:={ cls:=.type "zip", data:=.fields #[.none,.bool false,.bool false,.ref TI,.ref TO] }
abbrev tO(vs:List Value):Obj:={ cls:=.type "tuple", data:=.seq vs.toArray }
theorem mk2(k1 k2:Bool)(l1 l2:Addr)(xs ys:Array Value) :
 Meets (Builtin.«zip.__new__» ⟨[.type "zip", .ref l1,.ref l2],[]⟩) (fun _ R s=>Ls k1 s.heap l1 xs∧Ls k2 s.heap l2 ys ∧
  ∀ h1 h2 h3 h4:Heap,h1=s.heap.push (itO k1 l1)→h2=h1.push (itO k2 l2)→h3=h2.push (tO [.ref s.heap.objs.size,.ref h1.objs.size])→h4=h3.push (tO [.none,.none]) →
  R (.ok (.ret (.ref h4.objs.size))) { s with heap:=h4.push (zO h2.objs.size h3.objs.size) }) :=
 .of_wp fun prog w A R s h=>by
  obtain⟨hp,g,d,tk,os⟩:=s;obtain⟨a1,a2,h⟩:=h
  have hsub:=sub_zip
  have b1:Ls k1 (Shared.heap ⟨hp,g,d,tk,os⟩) l1 xs:=a1
  have b2:Ls k2 (Shared.heap ⟨hp.push (itO k1 l1),g,d,tk,os⟩) l2 ys:=a2.at fun o e=>Heap.get?_push_of_some _ e
  wp_walk using Xc b1,Xc b2
  exact⟨_,rfl,h _ _ _ _ rfl rfl rfl rfl⟩
abbrev Tr:=Bool×Addr×Addr
structure Zs(h:Heap)(z TI TO:Addr)(T:List Tr)(i:Nat):Prop where
 zz:IsZip h z TI TO .none
 ti:TupAt h TI (T.map fun q=>.ref q.2.1)
 to:∃ vs:List Value,vs.length=T.length∧TupAt h TO vs
 it:∀ q∈T,UJ q.1 h q.2.1 q.2.2 i
theorem call2{k1 k2:Bool}{l1 l2:Addr}{xs ys:Array Value}{R:Value→Shared→Prop}(a1:Ls k1 s.heap l1 xs)(a2:Ls k2 s.heap l2 ys)
 (h:∀ h',Zs h' (s.heap.objs.size+4) (s.heap.objs.size+2) (s.heap.objs.size+3) [(k1,s.heap.objs.size,l1),(k2,s.heap.objs.size+1,l2)] 0→(∀ c o,s.heap.get? c=some o→h'.get? c=some o) →
  R (.ref (s.heap.objs.size+4)) { s with heap:=h' }):wpAny (model P w) B (call (.type "zip") [.ref l1,.ref l2]) R F' s:=by
 refine callType_new F.called_zip (by decide) (F.typeCall_zip_2 _ _) (F.newCall_zip_2 _ _) (fun obj=>F.args_object_init_3 obj _ _) F.entry_zip_new (mk2 k1 k2 l1 l2 xs ys) ⟨a1,a2,?_⟩
 intro h1 h2 h3 h4 e1 e2 e3 e4
 have z1:h1.objs.size=s.heap.objs.size+1:=by rw[e1];exact Heap.size_push ..
 have z2:h2.objs.size=s.heap.objs.size+2:=by rw[e2,Heap.size_push,z1]
 have z3:h3.objs.size=s.heap.objs.size+3:=by rw[e3,Heap.size_push,z2]
 have z4:h4.objs.size=s.heap.objs.size+4:=by rw[e4,Heap.size_push,z3]
 have p1:∀ c o,s.heap.get? c=some o→h1.get? c=some o:=fun c o x=>by rw[e1];exact Heap.get?_push_of_some _ x
 have p2:∀ c o,h1.get? c=some o→h2.get? c=some o:=fun c o x=>by rw[e2];exact Heap.get?_push_of_some _ x
 have p3:∀ c o,h2.get? c=some o→h3.get? c=some o:=fun c o x=>by rw[e3];exact Heap.get?_push_of_some _ x
 have p4:∀ c o,h3.get? c=some o→h4.get? c=some o:=fun c o x=>by rw[e4];exact Heap.get?_push_of_some _ x
 have p5:∀ c o,h4.get? c=some o→(h4.push (zO h2.objs.size h3.objs.size)).get? c=some o:=fun c o x=>Heap.get?_push_of_some _ x
 have g1:h1.get? s.heap.objs.size=some (itO k1 l1):=by rw[e1];exact Heap.get?_push_size _ rfl
 have g2:h2.get? h1.objs.size=some (itO k2 l2):=by rw[e2];exact Heap.get?_push_size _ rfl
 have g3:h3.get? h2.objs.size=some (tO [.ref s.heap.objs.size,.ref h1.objs.size]):=by rw[e3];exact Heap.get?_push_size _ rfl
 have g4:h4.get? h3.objs.size=some (tO [.none,.none]):=by rw[e4];exact Heap.get?_push_size _ rfl
 have g5:(h4.push (zO h2.objs.size h3.objs.size)).get? h4.objs.size=some (zO h2.objs.size h3.objs.size):=Heap.get?_push_size _ rfl
 show _∧_
 refine⟨⟨_,g5,rfl⟩,?_⟩
 rw[z1] at g2 g3
 rw[z2] at g3
 rw[z3] at g4
 rw[z4] at g5 ⊢
 rw[z2,z3] at g5 p5 ⊢
 exact h _ ⟨g5,p5 _ _ (p4 _ _ g3),⟨_,rfl,p5 _ _ g4⟩,fun q hq=>by
  rcases List.mem_cons.mp hq with rfl|hq
  ·exact⟨_,p5 _ _ (p4 _ _ (p3 _ _ (p2 _ _ g1))),rfl,rfl⟩
  ·obtain rfl:=List.mem_singleton.mp hq
   exact⟨_,p5 _ _ (p4 _ _ (p3 _ _ g2)),rfl,rfl⟩⟩ fun c o x=>p5 _ _ (p4 _ _ (p3 _ _ (p2 _ _ (p1 _ _ x))))
end
end Zp
namespace Zp
open PySem PySem.Spec PyProof.Rows L2 A
variable[Tb:A.jf]
def Qp(H:Hp)(s:Bool×Addr)(xs:List V):Prop:=match s.1 with
 | true=>Lst H s.2 xs
 | false=>H s.2=some (.tup xs)
theorem Qp.nn{H:Hp}{s:Bool×Addr}{xs:List V}(h:Qp H s xs):H s.2≠none:=by
 obtain⟨k,a⟩:=s
 cases k
 ·have h:H a=_:=h
  show H a≠none
  rw[h];simp
 ·rcases (show Lst H a xs from h) with h|⟨o,h⟩
  ·show H a≠none
   rw[h];simp
  ·show H a≠none
   rw[h];simp
theorem Qp.inj{H:Hp}{s:Bool×Addr}{xs ys:List V}(h:Qp H s xs)(h':Qp H s ys):xs=ys:=by
 obtain⟨k,a⟩:=s
 cases k
 ·have h:H a=some (.tup xs):=h
  have h':H a=some (.tup ys):=h'
  rw[h] at h';cases h';rfl
 ·rcases (show Lst H a xs from h) with h|⟨o,h⟩<;>rcases (show Lst H a ys from h') with h'|⟨o',h'⟩<;>rw[h] at h'<;>cases h'<;>rfl
theorem Qp.at{X:Cx}{pins:List (Addr×Obj)}{σ : L2.St}{H:Hp}{s:Shared}{k:Bool}{a:Addr}{xs:List V}(I:Inv X pins σ H s)(h:Qp H (k,a) xs):∃ its:List Value,Vals xs its∧Ls k s.heap a its.toArray:=by
 cases k
 ·have h:H a=some (.tup xs):=h
  obtain⟨_,its,rv,o,e,c,_,d⟩:=I.hok a _ h
  exact⟨its,rv,o,e,c,d⟩
 ·have h:Lst H a xs:=h
  obtain⟨its,rv,⟨o,n,e,c,_,d⟩,_⟩:=I.list h.sq
  exact⟨its,rv,o,e,c,n,d⟩
abbrev zf(H:Hp)(S:List (Bool×Addr))(xss:List (List V)):Prop:=P2 (fun s xs=>Qp H s xs) S xss
def Itz(S:List (Bool×Addr)):It :=
 ⟨fun i H => ∃ xss, zf H S xss ∧ ∀ xs ∈ xss, i < xs.length,
  fun i H v H'=>∃ p ws,(∀ xss,zf H S xss→P2 (fun (xs:List V) x=>xs[i]? = some x) xss ws)∧H p=none∧v=.ref p∧H'=upd H p (.tup ws),
  fun i H=>∃ xss,zf H S xss∧∃ xs∈xss,xs.length≤i⟩
theorem Hk{H:Hp}:∀ {S:List (Bool×Addr)} {xss yss:List (List V)},zf H S xss→zf H S yss→xss=yss
 | _,_,_,.nil,.nil=>rfl
 | _,_,_,.cons a r,.cons b t=>by rw[a.inj b,Hk r t]
theorem lie{X:Cx}{pins:List (Addr×Obj)}{σ : L2.St}{H:Hp}{s:Shared}(I:Inv X pins σ H s):∀ {T:List Tr} {xss:List (List V)},zf H (T.map fun q=>(q.1,q.2.2)) xss →
 ∃ L:List Sr,L.map (fun q=>(q.k,q.c,q.l))=T∧(∀ q∈L,Ls q.k s.heap q.l q.us∧H q.l≠none)∧P2 (fun (q:Sr) xs=>Vals xs q.us.toList) L xss
 | [],_,.nil=>⟨[],rfl,fun q h=>absurd h (by simp),.nil⟩
 | (k,c,l)::T,_,.cons a r=>by
  obtain⟨L,e,h,p⟩:=lie I r
  obtain⟨its,rv,q⟩:=a.at I
  refine⟨⟨k,c,l,its.toArray⟩::L,by rw[List.map_cons,e],fun y hy=>?_,.cons rv p⟩
  rcases List.mem_cons.mp hy with rfl|hy
  ·exact⟨q,a.nn⟩
  ·exact h y hy
theorem pick{i:Nat}:∀ {L:List Sr} {xss:List (List V)} {ws:List Value},P2 (fun (q:Sr) xs=>Vals xs q.us.toList) L xss→ws.length=L.length→(∀ (j:Nat) (q:Sr),L[j]? = some q→ws[j]? = q.us[i]?∧i < q.us.size) →
 ∃ vws:List V,Vals vws ws∧P2 (fun (xs:List V) x=>xs[i]? = some x) xss vws
 | _,_,[],.nil,_,_=>⟨[],.nil,.nil⟩
 | _,_,w::ws,.cons (a:=q) (b:=xs) rv t,hl,h=>by
  obtain⟨vws,r,p⟩:=pick t (by simpa using hl) fun j r hr=>by simpa using h (j+1) r (by simpa using hr)
  obtain⟨e,hi⟩:=h 0 q rfl
  have hlen:=rv.length
  have hix:i < xs.length:=by simp at hlen;omega
  obtain⟨u,hu,ru⟩:=rv.get (i:=i) (x:=xs[i]) (by simp[hix])
  have:some w=some u:=by
   have e':some w=q.us[i]?:=e
   rw[e',← hu];simp
  cases this
  exact⟨xs[i]::vws,.cons ru r,.cons (by simp[hix]) p⟩
 | _,_,[],.cons _ _,hl,_=>by simp at hl
 | _,_,w::ws,.nil,hl,_=>by simp at hl
structure Ap0(z TI TO:Addr)(T:List Tr):Prop where
 TIz:TI≠z
 TOz:TO≠z
 TITO:TI≠TO
 nd:(T.map (·.2.1)).Nodup
 c:∀ q∈T,q.2.1≠z∧q.2.1≠TI∧q.2.1≠TO
theorem Qz{P:Program}{w:World}{K:PySem.W.Frag}{elts:List Expr}{k1:Nat}{pos:Pos}{z TI TO:Addr}{T:List Tr}(D0:Ap0 z TI TO T)(hT0:T≠[])(hT8:T.length≤8) :
 Turn P w K (.Tuple elts k1 pos) (Itz (T.map fun q=>(q.1,q.2.2))) (z::TI::TO::T.map (·.2.1)) z (fun i h=>Zs h z TI TO T i) where
 mem:=by simp
 obj:=fun i h st b hb=>by
  rcases List.mem_cons.mp hb with rfl|hb
  ·exact⟨_,st.zz,fun v q=>by cases q⟩
  rcases List.mem_cons.mp hb with rfl|hb
  ·exact⟨_,st.ti,fun v q=>by cases q⟩
  rcases List.mem_cons.mp hb with rfl|hb
  ·obtain⟨vs,_,h⟩:=st.to
   exact⟨_,h,fun v q=>by cases q⟩
  ·obtain⟨q,hq,rfl⟩:=List.mem_map.mp hb
   exact(st.it q hq).cell
 keep:=fun i h h' st kk=>⟨kk z (by simp) _ st.zz,kk TI (by simp) _ st.ti,let ⟨vs,l,e⟩:=st.to;⟨vs,l,kk TO (by simp) _ e⟩,fun q hq=>(st.it q hq).at fun o e=>kk _ (by simp only[List.mem_cons];exact .inr (.inr (.inr (List.mem_map_of_mem (f:=fun q:Tr=>q.2.1) hq)))) o e⟩
 item:=by
  intro X hP hw hK hc i pins s σ H E I hf st hg
  subst hP hw hK
  obtain⟨xss,hq,hx⟩:=hg
  obtain⟨L,eL,at_,rL⟩:=lie I hq
  have eT:T.map (fun q=>(Value.ref q.2.1))=L.map fun q=>.ref q.c:=by rw[← eL,List.map_map];rfl
  have eC:T.map (fun q=>q.2.1)=L.map fun q=>q.c:=by rw[← eL,List.map_map];rfl
  have lT:T.length=L.length:=by rw[← eL,List.length_map]
  have inT:∀ q∈L,(q.k,q.c,q.l)∈T:=fun q h=>by rw[← eL];exact List.mem_map_of_mem (f:=fun q:Sr=>(q.k,q.c,q.l)) h
  have lne:∀ q∈L,∀ b∈z::TI::TO::T.map (·.2.1),q.l≠b:=fun q h b hb e=>(at_ q h).2 (by rw[e];exact(hf b hb).1)
  have D:Ap z TI TO L:=⟨D0.TIz,D0.TOz,D0.TITO,by rw[← eC];exact D0.nd,fun q h=>D0.c _ (inT q h),fun q h=>⟨lne q h z (by simp),lne q h TO (by simp),fun r hr=>lne q h r.c (by rw[eC];simp only[List.mem_cons];exact .inr (.inr (.inr (List.mem_map_of_mem (f:=fun q:Sr=>q.c) hr))))⟩⟩
  have hO:=st.to
  obtain⟨vs,vl,hO⟩:=hO
  have hTI:=st.ti
  rw[eT] at hTI
  have hty:s.TypeIs (.ref z) "zip" := ⟨_,st.zz,rfl⟩
  unfold pyNext
  refine wpAny_bind (wpAny_attempt (wpAny_callSpecial?_slot (name:=Str.ofString "__next__") hty F.slot_zip_next (wpAny_call_entry F.slot_zip_next hty F.entry_zip_next
   (G8 (by first|exact I.ok.hd hc|(simp;exact I.ok.hd hc)) D (fun e=>hT0 (by rw[e] at lT;exact List.eq_nil_of_length_eq_zero lT)) st.zz hTI hO (by rw[vl,lT]) (by omega) (fun q h=>⟨st.it _ (inT q h),(at_ q h).1⟩) (fun h' ws hz' wl wv hO' hN on' kp=>wpAny_pure ?_) (fun h' e kp he hend=>?_)) (F.args_zip_next_1 _))))
  ·refine⟨_,rfl,wpAny_letOwnedTupleGo_zip hz' fun h2 hz2 hs2=>?_⟩
   have kk:∀ b o,b∉z::TI::TO::T.map (·.2.1)→s.heap.get? b=some o→h2.get? b=some o:=fun b o hb q=>by
    simp only[List.mem_cons,not_or] at hb
    exact(hs2.2 b hb.1).trans (kp b o hb.1 hb.2.2.1 (by rw[← eC];exact hb.2.2.2) q)
   have hne:∀ b∈z::TI::TO::T.map (·.2.1),b≠s.heap.objs.size:=fun b hb e=>by
    obtain⟨o,ho,_⟩ : ∃ o,s.heap.get? b=some o∧True:=by
     rcases List.mem_cons.mp hb with rfl|hb
     ·exact⟨_,st.zz,trivial⟩
     rcases List.mem_cons.mp hb with rfl|hb
     ·exact⟨_,st.ti,trivial⟩
     rcases List.mem_cons.mp hb with rfl|hb
     ·exact⟨_,hO,trivial⟩
     ·obtain⟨q,hq,rfl⟩:=List.mem_map.mp hb
      obtain⟨o,ho,_⟩:=st.it q hq
      exact⟨o,ho,trivial⟩
    exact absurd (Heap.lt_size ho) (by rw[e];exact Nat.lt_irrefl _)
   obtain⟨vws,hv,hy⟩ : ∃ vws:List V,Vals vws ws∧P2 (fun (xs:List V) x=>xs[i]? = some x) xss vws:=by
    exact pick rL wl wv
   have hN2:TupAt h2 s.heap.objs.size ws:=(hs2.2 _ (fun e=>hne z (by simp) e.symm)).trans hN
   refine⟨.ref s.heap.objs.size,upd H s.heap.objs.size (.tup vws),z6 (s:=s) (t':=s.toks) I hf kk (Nat.le_refl _) ⟨?_,ws,hv,⟨_,hN2,rfl,rfl,_,rfl⟩⟩,rfl,⟨_,vws,fun yss h=>by rw[Hk h hq];exact hy,I.hok.fresh (Nat.le_refl _),rfl,rfl⟩,?_,fun b hb=>?_⟩
   ·rw[hv.length,wl,sizeLine_eq];omega
   ·refine⟨hz2,(hs2.2 _ D0.TIz).trans ?_,⟨ws,by rw[wl,lT],(hs2.2 _ D0.TOz).trans hO'⟩,fun q hq2=>?_⟩
    ·exact kp _ _ D0.TIz D0.TITO (fun h=>by
      rw[← eC] at h
      obtain⟨q,hq2,e⟩:=List.mem_map.mp h
      exact(D0.c q hq2).2.1 e) st.ti
    ·rw[← eL] at hq2
     obtain⟨r,hr,rfl⟩:=List.mem_map.mp hq2
     exact(on' r hr).1.at fun o q=>(hs2.2 _ (D.c r hr).1).trans q
   ·rw[aM (hne b hb)];exact(hf b hb).1
  ·exfalso
   obtain⟨q,hqm,hle⟩:=hend
   obtain⟨j,hj⟩:=List.getElem?_of_mem hqm
   obtain⟨xs,hxs,rv⟩:=rL.getL hj
   have:=hx xs (List.mem_of_getElem? hxs)
   have:=rv.length
   simp at this
   omega
 done:=by
  intro X hP hw hK hc i pins s σ H E I hf st hg
  subst hP hw hK
  obtain⟨xss,hq,xs0,hx0,hxl⟩:=hg
  obtain⟨L,eL,at_,rL⟩:=lie I hq
  have eT:T.map (fun q=>(Value.ref q.2.1))=L.map fun q=>.ref q.c:=by rw[← eL,List.map_map];rfl
  have eC:T.map (fun q=>q.2.1)=L.map fun q=>q.c:=by rw[← eL,List.map_map];rfl
  have lT:T.length=L.length:=by rw[← eL,List.length_map]
  have inT:∀ q∈L,(q.k,q.c,q.l)∈T:=fun q h=>by rw[← eL];exact List.mem_map_of_mem (f:=fun q:Sr=>(q.k,q.c,q.l)) h
  have lne:∀ q∈L,∀ b∈z::TI::TO::T.map (·.2.1),q.l≠b:=fun q h b hb e=>(at_ q h).2 (by rw[e];exact(hf b hb).1)
  have D:Ap z TI TO L:=⟨D0.TIz,D0.TOz,D0.TITO,by rw[← eC];exact D0.nd,fun q h=>D0.c _ (inT q h),fun q h=>⟨lne q h z (by simp),lne q h TO (by simp),fun r hr=>lne q h r.c (by rw[eC];simp only[List.mem_cons];exact .inr (.inr (.inr (List.mem_map_of_mem (f:=fun q:Sr=>q.c) hr))))⟩⟩
  have hO:=st.to
  obtain⟨vs,vl,hO⟩:=hO
  have hTI:=st.ti
  rw[eT] at hTI
  have hty:s.TypeIs (.ref z) "zip" := ⟨_,st.zz,rfl⟩
  unfold pyNext
  refine wpAny_bind (wpAny_attempt (wpAny_callSpecial?_slot (name:=Str.ofString "__next__") hty F.slot_zip_next (wpAny_call_entry F.slot_zip_next hty F.entry_zip_next
   (G8 (by first|exact I.ok.hd hc|(simp;exact I.ok.hd hc)) D (fun e=>hT0 (by rw[e] at lT;exact List.eq_nil_of_length_eq_zero lT)) st.zz hTI hO (by rw[vl,lT]) (by omega) (fun q h=>⟨st.it _ (inT q h),(at_ q h).1⟩) (fun h' ws hz' wl wv hO' hN on' kp=>?_) (fun h' e kp he hend=>?_)) (F.args_zip_next_1 _))))
  ·exfalso
   obtain⟨j,hj⟩:=List.getElem?_of_mem hx0
   obtain⟨q,hqj,rv⟩:=rL.abk hj
   have:=(wv j q hqj).2
   have:=rv.length
   simp at this
   omega
  ·obtain⟨o,ho,hcl⟩:=he
   refine wpAny_bind (wpAny_isInstance (T := "StopIteration") (b:=true) ⟨o,ho,hcl⟩ isSubtype_stop (wpAny_pure ⟨rfl,?_⟩))
   exact vp (s:=s) (t':=s.toks) I hf fun b o hb q=>by
    simp only[List.mem_cons,not_or] at hb
    exact kp b o hb.1 hb.2.2.1 (by rw[← eC];exact hb.2.2.2) q
 self:=fun _ i s Q E st h=>wpAny_pyIter_zip st.zz h
end Zp
namespace Mi
def Gw:D→Rs (List D)
 | .lst ds=>.ok ds
 | .tup ds=>.ok ds
 | _=>.no
def KJ(a b:E):I:=fun e=>(a e).bind fun x=>(b e).bind fun y=>(Gw x).bind fun ds=>(Gw y).bind fun es=>.ok (o6 ds es)
end Mi
namespace Zp
open PySem PySem.Spec PyProof.Rows L2 A
open Mi (D W Rs Fin ao)
variable[Tb:A.jf]
theorem Qp.same{H H':Hp}{s:Bool×Addr}{xs:List V}(h:jg H H')(q:Qp H s xs):Qp H' s xs:=by
 obtain⟨k,a⟩:=s
 cases k
 ·exact h _ _ q
 ·exact Lst.same (a:=a) h q
theorem pZ{H H':Hp}{S:List (Bool×Addr)}{xss:List (List V)}(h:jg H H')(q:zf H S xss):zf H' S xss:=q.imp fun _ _ x=>x.same h
def aby(dss:List (List D))(dz:List D):Prop:=(∀ i,i < dz.length→∃ us,dz[i]? = some (.tup us)∧P2 (fun (ds:List D) u=>ds[i]? = some u) dss us)∧∃ ds∈dss,ds.length=dz.length
theorem picks{Hv:Hp}{i:Nat}:∀ {dss:List (List D)} {xss:List (List V)} {us:List D} {ws:List V},P2 (P2 (Rep Hv)) dss xss→P2 (fun (ds:List D) u=>ds[i]? = some u) dss us→P2 (fun (xs:List V) x=>xs[i]? = some x) xss ws→P2 (Rep Hv) us ws
 | _,_,_,_,.nil,.nil,.nil=>.nil
 | _,_,_,_,.cons a r,.cons b s,.cons c t=>.cons (a.get b c) (picks r s t)
theorem Ry{α β : Type}{F:α→β→Prop}:∀ {l:List α} {m:List β} {b:β},P2 F l m→b∈m→∃ a∈l,F a b
 | _,_,_,.cons x t,h=>by
  rcases List.mem_cons.mp h with rfl|h
  ·exact⟨_,List.mem_cons_self ..,x⟩
  ·obtain⟨a,ha,q⟩:=Ry t h
   exact⟨a,List.mem_cons_of_mem _ ha,q⟩
theorem Fw{α β : Type}{F:α→β→Prop}:∀ {l:List α} {m:List β} {a:α},P2 F l m→a∈l→∃ b∈m,F a b
 | _,_,_,.cons x t,h=>by
  rcases List.mem_cons.mp h with rfl|h
  ·exact⟨_,List.mem_cons_self ..,x⟩
  ·obtain⟨a,ha,q⟩:=Fw t h
   exact⟨a,List.mem_cons_of_mem _ ha,q⟩
def ZP(S:List (Bool×Addr))(dss:List (List D))(xss:List (List V))(_ Hv:Hp):Prop:=zf Hv S xss∧P2 (P2 (Rep Hv)) dss xss
theorem VV{S:List (Bool×Addr)}{dss:List (List D)}{xss:List (List V)}{dz:List D}(hz:aby dss dz):ItD (Itz S) (ZP S dss xss) dz:=by
 refine⟨fun i H Hv p v hi=>?_,fun i H Hv x H' p v hi y=>?_,fun H Hv p v=>?_⟩
 ·obtain⟨us,_,hu⟩:=hz.1 i hi
  refine⟨xss,pZ v.sub p.1,fun xs hx=>?_⟩
  obtain⟨ds,hd,r⟩:=Ry p.2 hx
  obtain⟨u,_,e⟩:=Fw hu hd
  have:=(List.getElem?_eq_some_iff.mp e).1
  rw[← r.len];exact this
 ·obtain⟨us,hd,hu⟩:=hz.1 i hi
  obtain⟨q,ws,hw,hq,rfl,rfl⟩:=y
  have r:=picks p.2 hu (hw xss (pZ v.sub p.1))
  obtain⟨g,k⟩:=Ko v r hq
  exact⟨_,.tup us,g,hd,k⟩
 ·obtain⟨ds,hd,e⟩:=hz.2
  obtain⟨xs,hx,r⟩:=Fw p.2 hd
  exact⟨xss,pZ v.sub p.1,xs,hx,by rw[← r.len];omega⟩
theorem WK:∀ ds es:List D,aby [ds,es] (Mi.o6 ds es)
 | [],es=>⟨fun i h=>absurd h (by simp[Mi.o6]),[],by simp,by simp[Mi.o6]⟩
 | d::r,[]=>⟨fun i h=>absurd h (by simp[Mi.o6]),[],by simp,by simp[Mi.o6]⟩
 | d::r,e::s=>by
  obtain⟨h1,ds,hd,hl⟩:=WK r s
  refine⟨fun i hi=>?_,?_⟩
  ·cases i with
   | zero=>exact⟨[d,e],rfl,.cons rfl (.cons rfl .nil)⟩
   | succ i =>
    obtain⟨us,a,b⟩:=h1 i (by simpa [Mi.o6] using hi)
    refine⟨us,by simpa [Mi.o6] using a,?_⟩
    cases b with
    | cons x t =>
     cases t with
     | cons y t=>cases t;exact .cons (by simpa using x) (.cons (by simpa using y) .nil)
  ·rcases List.mem_cons.mp hd with rfl|hd
   ·exact⟨d::ds,by simp,by simp[Mi.o6,hl]⟩
   ·obtain rfl:=List.mem_singleton.mp hd
    exact⟨e::ds,by simp,by simp[Mi.o6,hl]⟩
theorem Xl{x:D}{k:List D→Prop}(h:Fin (Mi.Gw x) k):∃ ds,(x=.lst ds∨x=.tup ds)∧k ds:=by
 cases x with
 | lst b=>exact⟨b,.inl rfl,h⟩
 | tup b=>exact⟨b,.inr rfl,h⟩
 | _=>exact h.elim
theorem T3{H:Hp}{x:D}{ds:List D}{v:V}(h:x=.lst ds∨x=.tup ds)(r:Rep H x v):∃ k a xs,v=.ref a∧Qp H (k,a) xs∧P2 (Rep H) ds xs:=by
 rcases h with rfl|rfl
 ·obtain⟨a,xs,e,l,r⟩:=oU.mp r
  exact⟨true,a,xs,e,l,r⟩
 ·obtain⟨a,xs,e,l,r⟩:=mO.mp r
  exact⟨false,a,xs,e,l,r⟩
section
variable{X:Cx}{elts:List Expr}{k1:Nat}{tpos:Pos}{M:Nat→Bool}
theorem Vy{a b:Nat}(h:a≠b):@Ne Addr a b:=h
theorem abl{n:Nat}:∀ {b:Nat},b∈([n+4,n+2,n+3,n,n+1]:List Nat)→n≤b:=fun {b} h=>by simp at h;omega
theorem ap2(n:Nat)(k k':Bool)(l l':Addr):Ap0 (n+4) (n+2) (n+3) [(k,n,l),(k',n+1,l')] :=
 ⟨Vy (by omega),Vy (by omega),Vy (by omega),by show ([n,n+1]:List Nat).Nodup;simp,fun q hq=>by
  rcases List.mem_cons.mp hq with rfl|hq
  ·exact⟨Vy (show n≠n+4 by omega),Vy (show n≠n+2 by omega),Vy (show n≠n+3 by omega)⟩
  ·obtain rfl:=List.mem_singleton.mp hq
   exact⟨Vy (show n+1≠n+4 by omega),Vy (show n+1≠n+2 by omega),Vy (show n+1≠n+3 by omega)⟩⟩
def abe(ta tb:TE):TI:=fun σ H R=>ta σ H fun x H1=>tb σ H1 fun y H2=>∃ S xss,[x,y]=S.map (fun s:Bool×Addr=>V.ref s.2)∧S.length=2∧zf H2 S xss∧R (Itz S) H2
theorem Vn{a b:Expr}{ta tb:TE}{p pos:Pos}(hg:Gl X "zip")(hm:X.mg "zip" = none)(ha:PE X a ta)(hb:PE X b tb)(hs:starEach [a,b] X.env=[(false,eval a X.env),(false,eval b X.env)]:=by rfl)(hs0:starEach [a,b] X.env=(false,eval a X.env)::starEach [b] X.env:=by rfl)(hs1:starEach [b] X.env=(false,eval b X.env)::starEach [] X.env:=by rfl)(hpl:(backTo pos (starEach [b] X.env)).any (·.1)=false:=by rfl) :
 PI X (.Tuple elts k1 tpos) (.Call (.Name "zip" p) [a,b] [] pos) (abe ta tb):=by
 intro pins s σ H R I h
 refine Call_ (vJ I hg hm boot_zip (PyProof.Rows.callWith_type1 (gf (aa ha (aa hb aq hs1) hs0 pos pins s σ H (fun vs H1=>∃ S xss,vs=S.map (fun s:Bool×Addr=>V.ref s.2)∧S.length=2∧zf H1 S xss∧R (Itz S) H1) I ?_) fun us s1 ⟨vs,H1,I1,r1,q1⟩=>?_) hs0 hpl))
 ·exact h
 ·obtain⟨S,xss,e,hl,hS,q⟩:=q1
  obtain⟨⟨k,l⟩,⟨k',l'⟩,rfl⟩ : ∃ x y,S=[x,y]:=by
   match S,hl with
   | [x,y],_=>exact⟨x,y,rfl⟩
  subst e
  have hS0:=hS
  cases hS with
  | cons s1' t =>
  cases t with
  | cons s2' t =>
  cases t
  cases r1 with
  | cons u1 r1 =>
  cases r1 with
  | cons u2 r1 =>
  cases r1
  cases u1;cases u2
  obtain⟨i1,_,a1⟩:=s1'.at I1
  obtain⟨i2,_,a2⟩:=s2'.at I1
  refine call2 a1 a2 fun h' hZ hk=>wpAny_pyIter_zip hZ.zz ?_
  have I2:Inv X pins σ H1 { s1 with heap:=h' }:=I1.kept (t':=s1.toks) fun b o e=>hk b o e
  refine⟨_,_,_,_,H1,rfl,I2,Qz (z:=s1.heap.objs.size+4) (TI:=s1.heap.objs.size+2) (TO:=s1.heap.objs.size+3) (ap2 _ k k' l l') (by simp) (by simp),hZ,fun b hb=>?_,q⟩
  have hb:s1.heap.objs.size≤b:=abl hb
  exact I1.wW hb (I1.hok.fresh hb)
theorem Wr{ta tb:TE}{a b:Mi.E}(ha:AE M qV ta a)(hb:AE M qV tb b):N6 M (abe ta tb) (Mi.KJ a b):=fun e σ H Hv R I h =>
 ha e σ H Hv _ I ((ao.mp h).mono fun x hx v H1 Hv1 g1 rx=>hb e σ H1 Hv1 _ (I.grow g1) ((ao.mp hx).mono fun y hy u H2 Hv2 g2 ry=>by
  obtain⟨ds,hd,hk⟩:=Xl (ao.mp hy)
  obtain⟨es,he,hk⟩:=Xl (ao.mp hk)
  obtain⟨k,a,xs,rfl,s1,r1⟩:=T3 hd (lr g2.vis (show Rep Hv1 x v from rx))
  obtain⟨k',a',ys,rfl,s2,r2⟩:=T3 he (show Rep Hv2 y u from ry)
  have S2:zf Hv2 [(k,a),(k',a')] [xs,ys]:=.cons s1 (.cons s2 .nil)
  exact⟨[(k,a),(k',a')],[xs,ys],rfl,rfl,pZ g2.vw.sub S2,hk (Itz [(k,a),(k',a')]) H2 Hv2 (ZP [(k,a),(k',a')] [ds,es] [xs,ys]) (g1.trans g2) (VV (WK ds es)) ⟨S2,.cons r1 (.cons r2 .nil)⟩ fun _ _ _ _ z s _=>⟨pZ s z.1,z.2.imp fun _ _ q=>dW s q⟩⟩))
end
end Zp
namespace Zp
open PySem PySem.Spec PyProof.Rows L2 A
open Mi (D W Rs Fin ao)
variable[Tb:A.jf]
section
variable{X:Cx}{pins:List (Addr×Obj)}{σ : L2.St}{H:Hp}{s:Shared}{B:Around}{E:Value→Shared→Prop}{Q:Value→Shared→Prop}{b:Bool}
theorem kit_at{x:V}{u t:Value}(I:Inv X pins σ H s)(rx:RelV x u)(ty:uR X.K H x t):∃ P:Heap→Prop,PySem.W.KitX X.K u t P∧P s.heap∧u≠.builtin "__main__.__loader__#opaque" := by
 cases ty with
 | non=>cases (show u=Value.none from rx);exact⟨_,PySem.W.kitx_none,True.intro,fun z=>nomatch z⟩
 | bl y=>cases (show u=Value.bool y from rx);exact⟨_,PySem.W.kitx_bool,True.intro,fun z=>nomatch z⟩
 | int i=>obtain⟨t,q⟩:=(show ∃ t,u=Value.int i t from rx);cases q;exact⟨_,PySem.W.kitx_int,True.intro,fun z=>nomatch z⟩
 | str y=>obtain⟨t,q⟩:=(show ∃ t,u=Value.str y t from rx);cases q;exact⟨_,PySem.W.kitx_str,True.intro,fun z=>nomatch z⟩
 | flt y=>obtain⟨t,q⟩:=(show ∃ t,u=Value.float y t from rx);cases q;exact⟨_,PySem.W.kitx_float,True.intro,fun z=>nomatch z⟩
 | @lst a xs ea =>
  cases (show u=Value.ref a from rx)
  obtain⟨_,_,n,_,h1⟩:=(show di X.prog X.w H s.heap a (.lst xs) from I.hok a _ ea)
  exact⟨_,PySem.W.kitx_list,⟨_,h1,rfl⟩,fun z=>nomatch z⟩
 | @frz a ob xs ea =>
  cases (show u=Value.ref a from rx)
  obtain⟨_,_,_,n,_,h1⟩:=(show di X.prog X.w H s.heap a (.frz ob (.lst xs)) from I.hok a _ ea)
  exact⟨_,PySem.W.kitx_list,⟨_,h1,rfl⟩,fun z=>nomatch z⟩
 | @tup a xs ea =>
  cases (show u=Value.ref a from rx)
  obtain⟨_,_,_,o,h1,h2,_⟩:=(show di X.prog X.w H s.heap a (.tup xs) from I.hok a _ ea)
  exact⟨_,PySem.W.kitx_tuple,⟨o,h1,h2⟩,fun z=>nomatch z⟩
 | @dK a kvs ea =>
  cases (show u=Value.ref a from rx)
  obtain⟨_,_,vs,_,o,es,ep,h1,h2,_⟩:=(show di X.prog X.w H s.heap a (.dK kvs) from I.hok a _ ea)
  exact⟨_,PySem.W.kitx_dict,⟨o,h1,h2.1⟩,fun z=>nomatch z⟩
 | @dT a kvs ea =>
  cases (show u=Value.ref a from rx)
  obtain⟨_,_,xs,_,o,es,ep,h1,h2,_⟩:=(show di X.prog X.w H s.heap a (.dT kvs) from I.hok a _ ea)
  exact⟨_,PySem.W.kitx_dict,⟨o,h1,h2.1⟩,fun z=>nomatch z⟩
 | @ins a C dx fs ea cl ha hn htk hm =>
  cases (show u=Value.ref a from rx)
  obtain⟨mA,O,_⟩:=M8 I.hok ea
  obtain⟨od,J,_⟩:=O.look
  exact⟨_,PySem.W.kitx_own (cl.get _) cl.hd ha hn htk hm,J,fun z=>nomatch z⟩
theorem Lx:∀ {Ts:List String} {us:List Value},Vals (Ts.map V.ty) us→us=Ts.map .type
 | [],_,.nil=>rfl
 | T::r,_,.cons a t=>by
  have a:_=Value.type T:=a
  rw[a,Lx t];rfl
def W2(K:PySem.W.Frag):List V→Hp→VK→Prop:=fun xs H Q=>∃ (x:V) (t:Value) (tp:Addr) (Ts:List String) (b:Bool),xs=[x,.ref tp]∧H tp=some (.tup (Ts.map V.ty))∧uR K H x t∧PySem.W.kitAny K t (Ts.map .type)=some b∧Q (.bl b) H
theorem DR:lL X (.builtin "isinstance") (W2 X.K):=by
 intro pins s σ H xs us Q I r h
 obtain⟨x,t,tp,Ts,b,rfl,ht,ty,e,q⟩:=h
 obtain⟨u,w',rfl,rx,rt⟩:=vals2 r
 cases (show w'=Value.ref tp from rt)
 obtain⟨_,its,rv,o,h1,h2,_,n,h3⟩:=(show di X.prog X.w H s.heap tp (.tup (Ts.map V.ty)) from I.hok tp _ ht)
 obtain rfl:=Lx rv
 obtain⟨c,d,dt,sl⟩:=o
 simp only at h2 h3
 subst h2 h3
 obtain⟨P,kx,p,hn⟩:=kit_at I rx ty
 exact PySem.W.kia_tup kx I.yX p h1 e hn fun tk=>⟨.bl b,H,I.tok tk,rfl,q⟩
end
theorem Uq{K:PySem.W.Frag}{d:D}:∀ {Ts:List String},(∀ T∈Ts,Ck K T)→PySem.W.kitAny K (.type (Mi.JR d)) (Ts.map .type)=some (Ts.any fun t=>Mi.Bp t d)
 | [],_=>rfl
 | T::r,h=>by
  have h1:=h T (List.mem_cons_self ..) d
  have h2:=Uq (d:=d) fun T' hT=>h T' (List.mem_cons_of_mem _ hT)
  rw[List.map_cons,PySem.W.kitAny,h1]
  cases e:Mi.Bp T d
  ·simp only[List.any_cons,e,Bool.false_or]
   exact h2
  ·simp only[List.any_cons,e,Bool.true_or]
theorem aao{K:PySem.W.Frag}{S T:String}(h:Ck K S)(g:Ck K T):∀ U∈[S,T],Ck K U:=fun U hU=>by
 rcases List.mem_cons.mp hU with rfl|hU
 ·exact h
 ·obtain rfl:=List.mem_singleton.mp hU
  exact g
def X8:List String→TA
 | []=>vz
 | T::r=>lg (tC (.ty T)) (X8 r)
theorem Lz:∀ (Ts:List String) (σ : L2.St) (H:Hp) (Q:List V→Hp→Prop),Q (Ts.map V.ty) H→X8 Ts σ H Q
 | [],_,_,_,h=>h
 | T::r,σ,H,Q,h=>Lz r σ H _ h
section
variable{M:Nat→Bool}{K:PySem.W.Frag}{ta:TE}{a:Mi.E}
theorem Xv{Ts:List String}(hT:∀ T∈Ts,Ck K T)(hl:Ts.length≤8)(ha:AE M qP ta a):AE M qV (Ye (W2 K) (lg ta (lg (Vb (X8 Ts)) vz))) (Mi.m1 (Mi.yq Ts) a):=fun e σ H Hv Q I h =>
 ha e σ H Hv _ I ((ao.mp h).mono fun x hx v H1 Hv1 g1 rx=>Lz Ts σ H1 _ ⟨by rw[List.length_map,sizeLine_eq];omega,fun p hp=>by
  have g2:dC H1 Hv1 (upd H1 p (.tup (Ts.map V.ty))) (upd Hv1 p (.tup (Ts.map V.ty))):=.new g1.vw hp
  have g:=g1.trans g2
  exact⟨v,_,p,Ts,_,rfl,bc,WM g.vw (RB.grow g2 rx),Uq hT,(Mi.jX hx) _ _ _ g jJ⟩⟩)
end
end Zp
namespace Mi
end Mi
namespace Zp
open PySem PySem.Spec PyProof.Rows L2 A
open Mi (D W Rs Fin ao)
open AutoSeq1 (wpAny_loadPart')
variable[Tb:A.jf]
end Zp
namespace Mi
end Mi
namespace Zp
open PySem PySem.Spec PyProof.Rows L2 A
open Mi (D W Rs Fin ao)
variable[Tb:A.jf]
end Zp
namespace Mi
abbrev SN:=List D→List D→Env→Rs Out
end Mi
namespace Zp
open PySem PySem.Spec PyProof.Rows L2 A
open Mi (D W Rs Fin ao Out)
variable[Tb:A.jf]
end Zp
namespace A
end A
namespace A
end A
namespace Mi
open PySem
end Mi
namespace A
end A
namespace A
end A
namespace So
open PySem PySem.W PyProof.Rows
def JN{α : Type}(n:Nat)(lt:Nat→Nat→Bool):KasT α→(α→Prop)→Prop
 | .ret a,Q=>Q a
 | .ask i j k,Q=>i < n∧j < n∧JN n lt (k (lt i j)) Q
theorem pU{α β : Type}{n:Nat}{lt:Nat→Nat→Bool}{f:α→KasT β}{Q:β→Prop}:∀ {t:KasT α},JN n lt t (fun a=>JN n lt (f a) Q)→JN n lt (t.bind f) Q
 | .ret _,h=>h
 | .ask _ _ k,h=>⟨h.1,h.2.1,pU (t:=k _) h.2.2⟩
theorem jP{α : Type}{n:Nat}{lt:Nat→Nat→Bool}{Q Q':α→Prop}(m:∀ a,Q a→Q' a):∀ {t:KasT α},JN n lt t Q→JN n lt t Q'
 | .ret _,h=>m _ h
 | .ask _ _ k,h=>⟨h.1,h.2.1,jP m (t:=k _) h.2.2⟩
theorem Qv{α : Type}{n:Nat}{lt:Nat→Nat→Bool}{cmp:Nat→Nat→(Bool→Shared→Prop)→Shared→Prop}{s:Shared}(hc:∀ i j C,i < n→j < n→C (lt i j) s→cmp i j C s){Q:α→Prop}:∀ {t:KasT α},JN n lt t Q→t.kasWp cmp (fun a s'=>s'=s∧Q a) s
 | .ret _,h=>⟨rfl,h⟩
 | .ask i j k,h=>hc i j _ h.1 h.2.1 (Qv hc (t:=k _) h.2.2)
section
variable{n:Nat}{lt:Nat→Nat→Bool}
structure Ord(n:Nat)(lt:Nat→Nat→Bool):Prop where
 tot:∀ i j,i < n→j < n→i≠j→lt i j=true∨lt j i=true
 asy:∀ i j,i < n→j < n→lt i j=true→lt j i=false
 tr:∀ i j k,i < n→j < n→k < n→lt i j=true→lt j k=true→lt i k=true
abbrev at'(p:Array Nat)(i:Nat):Nat:=p.getD i 0
structure Pm(n:Nat)(p:Array Nat):Prop where
 pm:p.Perm (List.toArray (List.range n))
theorem Pm.size{p:Array Nat}(h:Pm n p):p.size=n:=by have:=h.pm.size_eq;simpa using this
theorem Jq{p:Array Nat}{i:Nat}(h:i < p.size):at' p i=p[i]:=by simp[at',Array.getD,h]
theorem Pm.bd{p:Array Nat}(h:Pm n p){i:Nat}(hi:i < n):at' p i < n:=by
 have hs:i < p.size:=by rw[h.size];exact hi
 rw[Jq hs]
 have:p[i]∈(List.toArray (List.range n)).toList:=(Array.perm_iff_toList_perm.mp h.pm).mem_iff.mp (by simp)
 simpa using this
theorem Pm.inj{p:Array Nat}(h:Pm n p){i j:Nat}(hi:i < n)(hj:j < n)(e:at' p i=at' p j):i=j:=by
 have si:i < p.size:=by rw[h.size];exact hi
 have sj:j < p.size:=by rw[h.size];exact hj
 rw[Jq si,Jq sj] at e
 have nd:p.toList.Nodup:=(Array.perm_iff_toList_perm.mp h.pm).nodup_iff.mpr (by simpa using List.nodup_range)
 have e2:p.toList[i]'(by simpa using si)=p.toList[j]'(by simpa using sj):=by simpa using e
 exact(List.getElem_inj nd).mp e2
def Sd(lt:Nat→Nat→Bool)(p:Array Nat)(k:Nat):Prop:=∀ i j,i < j→j < k→lt (at' p i) (at' p j)=true
def Dd(lt:Nat→Nat→Bool)(p:Array Nat)(k:Nat):Prop:=∀ i j,i < j→j < k→lt (at' p j) (at' p i)=true
variable(O:Ord n lt)
include O
theorem not_lt{p:Array Nat}(h:Pm n p){i j:Nat}(hi:i < n)(hj:j < n)(ne:i≠j)(e:lt (at' p i) (at' p j)=false):lt (at' p j) (at' p i)=true:=by
 rcases O.tot _ _ (h.bd hi) (h.bd hj) (fun z=>ne (h.inj hi hj z)) with z|z
 ·rw[e] at z;cases z
 ·exact z
theorem Sd.more{p:Array Nat}(h:Pm n p){k:Nat}(s:Sd lt p k)(hk:1≤k)(hkn:k < n)(e:lt (at' p (k - 1)) (at' p k)=true):Sd lt p (k+1):=fun i j hij hj=>by
 by_cases hjk:j < k
 ·exact s i j hij hjk
 ·obtain rfl:j=k:=by omega
  by_cases hi:i=j - 1
  ·subst hi;exact e
  ·exact O.tr _ _ _ (h.bd (by omega)) (h.bd (by omega)) (h.bd hkn) (s i (j - 1) (by omega) (by omega)) e
theorem Dd.more{p:Array Nat}(h:Pm n p){k:Nat}(s:Dd lt p k)(hk:1≤k)(hkn:k < n)(e:lt (at' p k) (at' p (k - 1))=true):Dd lt p (k+1):=fun i j hij hj=>by
 by_cases hjk:j < k
 ·exact s i j hij hjk
 ·obtain rfl:j=k:=by omega
  by_cases hi:i=j - 1
  ·subst hi;exact e
  ·exact O.tr _ _ _ (h.bd hkn) (h.bd (by omega)) (h.bd (by omega)) e (s i (j - 1) (by omega) (by omega))
theorem Ld{p:Array Nat}(h:Pm n p):∀ (f k:Nat),1≤k→k+f≤n→Sd lt p k→JN n lt (kas_asc p f k) fun m=>k≤m∧m≤k+f∧Sd lt p m∧(m=k+f∨lt (at' p m) (at' p (m - 1))=true)
 | 0,k,_,_,s=>⟨Nat.le_refl _,Nat.le_refl _,s,.inl rfl⟩
 | f+1,k,h1,h2,s=>by
  refine⟨h.bd (by omega),h.bd (by omega),?_⟩
  cases e:lt (p.getD k 0) (p.getD (k - 1) 0) with
  | true=>exact⟨Nat.le_refl _,by omega,s,.inr e⟩
  | false =>
   dsimp only
   rw[if_neg Bool.false_ne_true]
   refine jP (fun m hm=>?_) (Ld h f (k+1) (by omega) (by omega) (Sd.more O h s h1 (by omega) (not_lt O h (by omega) (by omega) (by omega) e)))
   refine⟨by omega,by omega,hm.2.2.1,?_⟩
   rcases hm.2.2.2 with z|z
   ·exact .inl (by omega)
   ·exact .inr z
theorem Nj{p:Array Nat}(h:Pm n p):∀ (f k:Nat),1≤k→k+f≤n→Dd lt p k→JN n lt (kas_desc f p k 0) fun r=>r.1=p∧k≤r.2.1∧r.2.1≤k+f∧r.2.2=0∧Dd lt p r.2.1
 | 0,k,_,_,s=>⟨rfl,Nat.le_refl _,Nat.le_refl _,rfl,s⟩
 | f+1,k,h1,h2,s=>by
  refine⟨h.bd (by omega),h.bd (by omega),?_⟩
  cases e:lt (p.getD k 0) (p.getD (k - 1) 0) with
  | true =>
   dsimp only
   rw[if_pos rfl,if_neg (by omega)]
   refine jP (fun r hr=>⟨hr.1,by omega,by omega,hr.2.2.2⟩) (Nj h f (k+1) (by omega) (by omega) (Dd.more O h s h1 (by omega) e))
  | false =>
   dsimp only
   rw[if_neg Bool.false_ne_true]
   refine⟨h.bd (by omega),h.bd (by omega),?_⟩
   dsimp only
   rw[show lt (p.getD (k - 1) 0) (p.getD k 0)=true from not_lt O h (by omega) (by omega) (by omega) e,if_pos rfl]
   exact⟨rfl,Nat.le_refl _,by show k≤_;omega,rfl,s⟩
theorem Uj{p:Array Nat}{k:Nat}(hk:k≤p.size)(i:Nat):at' (kas_rev p 0 k) i=if i < k then at' p (k - 1 - i) else at' p i:=by
 have e:=getElem?_mirror_all (xs:=p) (i:=0) (j:=k) hk i
 show (kas_rev p 0 k).getD i 0=_
 have g:∀ (q:Array Nat) (j:Nat),q.getD j 0=(q[j]?).getD 0:=fun q j=>by simp
 rw[g]
 unfold kas_rev
 rw[e]
 by_cases hi:i < k
 ·rw[if_pos ⟨Nat.zero_le _,hi⟩,if_pos hi,← g,show 0+k - 1 - i=k - 1 - i by omega]
 ·rw[if_neg (by omega),if_neg hi,← g]
theorem Rc{p:Array Nat}(h:Pm n p)(k:Nat):Pm n (kas_rev p 0 k):=⟨(mirror_perm _ _ _ _).trans h.pm⟩
theorem Va{p:Array Nat}(h:Pm n p){k:Nat}(h1:1≤k)(h2:k≤n)(s:Dd lt p k):JN n lt (kas_tail3 k n p) fun r=>Pm n r.2∧1≤r.1∧r.1≤n∧Sd lt r.2 r.1:=by
 have sz:k≤p.size:=by rw[h.size];exact h2
 have s':Sd lt (kas_rev p 0 k) k:=fun i j hij hj=>by
  rw[Uj O sz,Uj O sz,if_pos (by omega),if_pos hj]
  exact s _ _ (by omega) (by omega)
 refine pU (jP (fun m hm=>?_) (Ld O (Rc O h k) (n - k) k h1 (by omega) s'))
 exact⟨Rc O h k,by omega,by omega,hm.2.2.1⟩
theorem IW{p:Array Nat}(h:Pm n p){k:Nat}(h2:k+1≤n)(s:Dd lt p (k+1)):JN n lt (kas_descPart k n p) fun r=>Pm n r.2∧1≤r.1∧r.1≤n∧Sd lt r.2 r.1:=by
 refine pU (jP (fun r hr=>?_) (Nj O h (n - (k+1)) (k+1) (by omega) (by omega) s))
 obtain⟨e1,l1,l2,e2,d⟩:=hr
 rw[e2,if_neg (by omega),e1]
 exact Va O h (by omega) (by omega) d
theorem T9{p:Array Nat}(h:Pm n p)(h1:1≤n):JN n lt (kas_count n p) fun r=>Pm n r.2∧1≤r.1∧r.1≤n∧Sd lt r.2 r.1:=by
 refine pU (jP (fun m hm=>?_) (Ld O h (n - 1) 1 (Nat.le_refl _) (by omega) (fun i j hij hj=>by omega)))
 obtain⟨m1,m2,s,e⟩:=hm
 by_cases hn:m=n
 ·rw[if_pos (by simpa using hn)]
  exact⟨h,m1,by omega,s⟩
 ·rw[if_neg (by simpa using hn)]
  have e:=e.resolve_left (by omega)
  by_cases hg:m > 1
  ·rw[if_pos hg]
   refine⟨h.bd (by omega),h.bd (by omega),?_⟩
   dsimp only
   rw[show lt (p.getD 0 0) (p.getD (m - 1) 0)=true from s 0 (m - 1) (by omega) (by omega),if_pos rfl]
   exact⟨h,m1,by omega,s⟩
  ·rw[if_neg hg]
   obtain rfl:m=1:=by omega
   refine IW O h (by omega) fun i j hij hj=>?_
   obtain rfl:i=0:=by omega
   obtain rfl:j=1:=by omega
   exact e
theorem Ax{p:Array Nat}(h:Pm n p){k:Nat}(hk:k < n)(s:Sd lt p k):∀ (f l r:Nat),l≤r→r≤k→r - l≤f→(∀ i,i < l→lt (at' p i) (at' p k)=true)→(∀ i,r≤i→i < k→lt (at' p k) (at' p i)=true) →
 JN n lt (kas_place p k f l r) fun m=>m≤k∧(∀ i,i < m→lt (at' p i) (at' p k)=true)∧(∀ i,m≤i→i < k→lt (at' p k) (at' p i)=true)
 | 0,l,r,h1,h2,h3,a,b=>by
  obtain rfl:l=r:=by omega
  exact⟨h2,a,b⟩
 | f+1,l,r,h1,h2,h3,a,b=>by
  unfold kas_place
  by_cases g:l ≥ r
  ·rw[if_pos g]
   obtain rfl:l=r:=by omega
   exact⟨h2,a,b⟩
  ·rw[if_neg g]
   refine⟨h.bd hk,h.bd (by omega),?_⟩
   cases e:lt (p.getD k 0) (p.getD ((l+r) / 2) 0) with
   | true =>
    dsimp only
    rw[if_pos rfl]
    refine Ax h hk s f l ((l+r) / 2) (by omega) (by omega) (by omega) a fun i hi hk'=>?_
    by_cases z:i=(l+r) / 2
    ·subst z;exact e
    ·exact O.tr _ _ _ (h.bd hk) (h.bd (by omega)) (h.bd (by omega)) e (s _ _ (by omega) hk')
   | false =>
    dsimp only
    rw[if_neg Bool.false_ne_true]
    have e':=not_lt O h hk (by omega) (by omega) e
    refine Ax h hk s f ((l+r) / 2+1) r (by omega) h2 (by omega) (fun i hi=>?_) b
    by_cases z:i=(l+r) / 2
    ·subst z;exact e'
    ·exact O.tr _ _ _ (h.bd (by omega)) (h.bd (by omega)) (h.bd hk) (s _ _ (by omega) (by omega)) e'
theorem Uk{p:Array Nat}{k d:Nat}(hk:k < p.size)(hd:d≤k)(i:Nat):at' (bubble p k d) i=if i=k - d then at' p k else if k - d < i∧i≤k then at' p (i - 1) else at' p i:=by
 have e:=getElem?_bubble hk d hd i
 have g:∀ (q:Array Nat) (j:Nat),q.getD j 0=(q[j]?).getD 0:=fun q j=>by simp
 show (bubble p k d).getD i 0=_
 rw[g,e]
 by_cases h1:i=k - d
 ·rw[if_pos h1,if_pos h1,← g]
 ·rw[if_neg h1,if_neg h1]
  by_cases h2:k - d < i∧i≤k
  ·rw[if_pos h2,if_pos h2,← g]
  ·rw[if_neg h2,if_neg h2,← g]
theorem Ue:∀ (f:Nat) (p:Array Nat) (k:Nat),Pm n p→k+f≤n→Sd lt p k→JN n lt (kas_bin f p k) fun q=>Pm n q∧Sd lt q (k+f)
 | 0,p,k,h,_,s=>⟨h,s⟩
 | f+1,p,k,h,hk,s=>by
  have sz:k < p.size:=by rw[h.size];omega
  refine pU (jP (fun l hl=>?_) (Ax O h (by omega) s k 0 k (by omega) (Nat.le_refl _) (by omega) (fun i hi=>by omega) (fun i h1 h2=>by omega)))
  obtain⟨l1,lo,hi⟩:=hl
  have s':Sd lt (bubble p k (k - l)) (k+1):=fun i j hij hj=>by
   rw[Uk O sz (d:=k - l) (by omega),Uk O sz (d:=k - l) (by omega),show k - (k - l)=l by omega]
   by_cases c1:i=l
   ·rw[if_pos c1,if_neg (by omega),if_pos (by omega)]
    exact hi _ (by omega) (by omega)
   ·rw[if_neg c1]
    by_cases c2:l < i∧i≤k
    ·rw[if_pos c2,if_neg (by omega),if_pos (by omega)]
     exact s _ _ (by omega) (by omega)
    ·rw[if_neg c2]
     by_cases c3:j=l
     ·rw[if_pos c3]
      exact lo _ (by omega)
     ·rw[if_neg c3]
      by_cases c4:l < j∧j≤k
      ·rw[if_pos c4]
       exact s _ _ (by omega) (by omega)
      ·rw[if_neg c4]
       exact s _ _ (by omega) (by omega)
  refine jP (fun q hq=>⟨hq.1,?_⟩) (Ue f (bubble p k (k - l)) (k+1) ⟨(bubble_perm _ _ _).trans h.pm⟩ (by omega) s')
  rw[show k+(f+1)=k+1+f by omega];exact hq.2
theorem Vd(h1:1≤n):JN n lt (kas_sort n) fun q=>Pm n q∧Sd lt q n:=by
 refine pU (jP (fun r hr=>?_) (T9 O ⟨Array.Perm.refl _⟩ h1))
 obtain⟨pm,r1,r2,s⟩:=hr
 by_cases hl:r.1 < n
 ·rw[if_pos hl]
  refine jP (fun q hq=>⟨hq.1,?_⟩) (Ue O (n - max r.1 1) r.2 (max r.1 1) pm (by omega) (by rw[show max r.1 1=r.1 by omega];exact s))
  rw[show n=max r.1 1+(n - max r.1 1) by omega];exact hq.2
 ·rw[if_neg hl]
  exact⟨pm,by rw[show n=r.1 by omega];exact s⟩
end
end So
namespace So
open PySem PySem.W PyProof.Rows PySem.MeetsSeq3
def jL:List Int→List Int→Bool
 | [],[]=>false
 | [],_::_=>true
 | _::_,[]=>false
 | a::r,b::t=>if a == b then jL r t else decide (a < b)
section
variable{prog:Program}{w:World}{Ar:Around}
theorem M7{vs:List Value}{ns:List Int}(h:IntsAre vs ns):∀ {i:Nat} {n:Int},ns[i]? = some n→∃ t,vs[i]? = some (.int n t):=by
 induction h with
 | nil=>intro i n e;simp at e
 | cons a t h ih =>
  intro i n e
  cases i with
  | zero=>simp at e;subst e;exact⟨t,rfl⟩
  | succ i=>exact ih (by simpa using e)
theorem aa7{R:Result→Shared→Prop}{s:Shared}{l b:Addr}{us vs:List Value}{xs ys:List Int}{o o2:Obj}{n n2:Nat}(ho:s.heap.get? l=some o)(hd:o.data=.seq us.toArray n)(ho2:s.heap.get? b=some o2)(hd2:o2.data=.seq vs.toArray n2)(hu:IntsAre us xs)(hv:IntsAre vs ys) :
 ∀ (k i:Nat),xs.length - i≤k→i≤xs.length→i≤ys.length→R (.ok (.ret (.bool (jL (xs.drop i) (ys.drop i))))) s→codeAny (model prog w) Ar (.builtin "list.__eq__.loop" ⟨[.ref l,.ref b,rawInt i,rawInt 0],[]⟩) R s:=by
 have l1:=hu.length
 have l2:=hv.length
 have gx:∀ i,i < xs.length→∃ t,us.toArray[i]? = some (.int (xs.getD i 0) t):=fun i hi=>by
  obtain⟨t,e⟩:=M7 hu (i:=i) (n:=xs.getD i 0) (by simp[hi])
  exact⟨t,by simpa using e⟩
 have gy:∀ i,i < ys.length→∃ t,vs.toArray[i]? = some (.int (ys.getD i 0) t):=fun i hi=>by
  obtain⟨t,e⟩:=M7 hv (i:=i) (n:=ys.getD i 0) (by simp[hi])
  exact⟨t,by simpa using e⟩
 have nx:∀ i,¬ i < xs.length→us.toArray[i]? = none:=fun i hi=>by simp;omega
 have ny:∀ i,¬ i < ys.length→vs.toArray[i]? = none:=fun i hi=>by simp;omega
 have abo:∀ i,i=xs.length→i≤ys.length→decide (us.toArray.size < vs.toArray.size)=jL (xs.drop i) (ys.drop i):=fun i hi hj=>by
  rw[List.drop_eq_nil_of_le (by omega:xs.length≤i),List.size_toArray,List.size_toArray,l1,l2]
  by_cases h:i < ys.length
  ·rw[List.drop_eq_getElem_cons h]
   simp[jL];omega
  ·rw[List.drop_eq_nil_of_le (by omega:ys.length≤i)]
   simp[jL];omega
 have acA:∀ i,i < xs.length→i=ys.length→decide (us.toArray.size < vs.toArray.size)=jL (xs.drop i) (ys.drop i):=fun i hi hj=>by
  rw[List.drop_eq_nil_of_le (by omega:ys.length≤i),List.drop_eq_getElem_cons hi,List.size_toArray,List.size_toArray,l1,l2]
  simp[jL];omega
 have fin:∀ (i:Nat),(us.toArray[i]? = none∨vs.toArray[i]? = none)→R (.ok (.ret (.bool (decide (us.toArray.size < vs.toArray.size))))) s→codeAny (model prog w) Ar (.builtin "list.__eq__.loop" ⟨[.ref l,.ref b,rawInt i,rawInt 0],[]⟩) R s:=fun i hn h=>by
  refine codeAny_builtin entry_eq_loop (by
   rw[Around.under_plainId plain_eq_loop _]
   unfold Builtin.«list.__eq__.loop»
   show wpAny _ _ (Builtin.List.listItems (.ref l) >>= _) _ _ _
   refine wpAny_bind (listItems_at ho hd (wpAny_bind (listItems_at ho2 hd2 ?_)))
   simp only[Int.toNat_natCast]
   rcases hn with e|e
   ·rw[e]
    dsimp only
    refine wpAny_bind (listItems_at ho hd (wpAny_bind (listItems_at ho2 hd2 ?_)))
    exact wpAny_pure h
   ·rw[e]
    cases us.toArray[i]? <;>
    ·dsimp only
     refine wpAny_bind (listItems_at ho hd (wpAny_bind (listItems_at ho2 hd2 ?_)))
     exact wpAny_pure h)
 intro k
 induction k with
 | zero =>
  intro i hk h1 h2 h
  refine fin i (.inl (nx i (by omega))) ?_
  rw[abo i (by omega) h2];exact h
 | succ k ih =>
  intro i hk h1 h2 h
  by_cases hi:i < xs.length
  ·by_cases hj:i < ys.length
   ·obtain⟨t,e1⟩:=gx i hi
    obtain⟨u,e2⟩:=gy i hj
    have dx:xs.drop i=xs.getD i 0::xs.drop (i+1):=by rw[List.drop_eq_getElem_cons hi];simp[hi]
    have dy:ys.drop i=ys.getD i 0::ys.drop (i+1):=by rw[List.drop_eq_getElem_cons hj];simp[hj]
    rw[dx,dy] at h
    refine codeAny_builtin entry_eq_loop (by
     rw[Around.under_plainId plain_eq_loop _]
     unfold Builtin.«list.__eq__.loop»
     show wpAny _ _ (Builtin.List.listItems (.ref l) >>= _) _ _ _
     refine wpAny_bind (listItems_at ho hd (wpAny_bind (listItems_at ho2 hd2 ?_)))
     simp only[Int.toNat_natCast]
     rw[e1,e2]
     dsimp only
     refine wpAny_bind (wpAny_eqBool_int ?_)
     cases hb:(xs.getD i 0 == ys.getD i 0) with
     | true =>
      rw[if_pos rfl]
      rw[jL,hb,if_pos rfl] at h
      refine wpAny_pure ⟨plainId_quiet plain_eq_loop _,?_⟩
      have:=ih (i+1) (by omega) hi hj h
      rw[show rawInt ((i+1:Nat):Int)=rawInt ((i:Int)+1) from by rw[show ((i+1:Nat):Int)=(i:Int)+1 by omega]] at this
      exact this
     | false =>
      rw[if_neg Bool.false_ne_true]
      rw[jL,hb,if_neg Bool.false_ne_true] at h
      refine wpAny_bind (listItems_at ho hd (wpAny_bind (listItems_at ho2 hd2 ?_)))
      rw[e1,e2]
      show wpAny _ _ (richCompare .Lt _ _ >>= _) _ _ _
      exact wpAny_bind (show wpAny _ _ (compareOp .Lt _ _) _ _ _ from wpAny_lt_int (wpAny_pure h)))
   ·refine fin i (.inr (ny i hj)) ?_
    rw[acA i hi (by omega)];exact h
  ·refine fin i (.inl (nx i hi)) ?_
   rw[abo i (by omega) h2];exact h
theorem Su{E:Value→Shared→Prop}{s:Shared}{l b:Addr}{us vs:List Value}{xs ys:List Int}{o o2:Obj}{n n2:Nat}{Q:Bool→Shared→Prop}(ho:s.heap.get? l=some o)(hc:o.cls=.type "list")(hd:o.data=.seq us.toArray n)(ho2:s.heap.get? b=some o2)(hc2:o2.cls=.type "list")(hd2:o2.data=.seq vs.toArray n2)(hu:IntsAre us xs)(hv:IntsAre vs ys)
 (hun:Ar.units < cLine) (h:Q (jL xs ys) s):wpAny (model prog w) Ar (keyLt' oneType' (.ref l) (.ref b)) Q E s:=by
 have t1:s.TypeIs (.ref l) "list" := ⟨_,ho,hc⟩
 have t2:s.TypeIs (.ref b) "list" := ⟨_,ho2,hc2⟩
 rw[keyLt'_oneType,oneLt'_eq]
 simp only[if_true]
 refine wpAny_bind (wpAny_cRoomFor hun ?_)
 refine wpAny_bind (wpAny_callSpecialIfBound?_slot t1 PySem.F.slot_list_lt (wpAny_call (codeAny_call_builtin PySem.F.slot_list_lt.plain PySem.F.entry_list_lt (PySem.F.slot_list_lt.check _ _ _ _ _ _ _ _ t1 (PySem.F.args_list_lt_2 _ _) ?_))))
 unfold Builtin.«list.__lt__»
 have sub:isSubtype (.type "list") (.type "list")=pure true:=by rw[isSubtype_type];kernel_rfl
 show wpAny _ _ (isInstance (.ref b) (.type "list") >>= _) _ _ _
 refine wpAny_bind (wpAny_isInstance t2 sub ?_)
 refine wpAny_pure ⟨plainId_quiet plain_eq_loop _,?_⟩
 refine aa7 ho hd ho2 hd2 hu hv xs.length 0 (by omega) (Nat.zero_le _) (Nat.zero_le _) ?_
 exact wpAny_truthy_bool h
end
end So
namespace So
open PySem PySem.W PyProof.Rows
section
variable{prog:Program}{w:World}{A:Around}{E:Value→Shared→Prop}{s:Shared}
def tm(n:Nat):List Addr:=[n,n+1,n+2,n+3]
def v8(lt:Nat→Nat→Bool)(vs out:List Value):Prop:=∃ p:Array Nat,Pm vs.length p∧Sd lt p vs.length∧out=p.toList.map fun i=>vs.getD i Value.none
theorem v8.len{lt:Nat→Nat→Bool}{vs out:List Value}(h:v8 lt vs out):out.length=vs.length:=by
 obtain⟨p,pm,_,rfl⟩:=h
 rw[List.length_map,Array.length_toList,pm.size]
theorem z8{a kS:Addr}{e e1:Nat}{ks out:List Value}{st:SortSt}{P:PySem.Fin→Shared→Prop}(hk:s.heap.get? kS=some (seqObj "list" (List.toArray ks) e))(ha:s.heap.get? a=some (seqObj "list" #[] e1))(ne:a≠kS)
 (hks:ks.length < 64) (ho:out.length < 64) (hout:(arrOf st).map (·.2)=List.toArray out) (hf:failedOf st=none)
 (h:∀ h' c,(∀ b o,b≠a→b≠kS→s.heap.get? b=some o→h'.get? b=some o)→(∃ o,h'.get? kS=some o)→h'.get? a=some (seqObj "list" (List.toArray out) c)→P (.done (.ret .none)) { s with heap:=h' }) :
 wpAny (model prog w) A (ksk_tail a false e1 (.ref kS) st) P E s:=by
 have s1:=Heap.SameBut.update s.heap kS (Obj.mapSeq fun _=>(#[]:Array Value))
 have ha1:=(s1.2 a ne).trans ha
 have s2:=Heap.SameBut.update (s.heap.update kS (Obj.mapSeq fun _=>(#[]:Array Value))) a (Obj.mapSeq fun _=>List.toArray out)
 obtain⟨c,hc⟩ : ∃ c,((s.heap.update kS (Obj.mapSeq fun _=>(#[]:Array Value))).update a (Obj.mapSeq fun _=>List.toArray out)).get? a=some (seqObj "list" (List.toArray out) c):=⟨_,get?_update_seq ha1 fun _=>List.toArray out⟩
 unfold ksk_tail
 dsimp only
 rw[hout]
 refine wpAny_bind (listUpdate_at hk rfl ?_ (by rw[List.size_toArray,sizeLine_eq];omega) (Nat.zero_le _))
 refine wpAny_bind (wpAny_letGo (wpAny_bind (seqEpoch_at ha1 rfl ?_)))
 refine wpAny_bind (listUpdate_at ha1 rfl ?_ (Nat.zero_le _) (by show (List.toArray out).size≤_;rw[List.size_toArray,sizeLine_eq];omega))
 rw[hf]
 simp only[bne_self_eq_false,Bool.false_eq_true,if_false]
 exact wpAny_pure (h _ c (fun b o n1 n2 q=>(s2.2 b n1).trans ((s1.2 b n2).trans q)) ⟨_,(s2.2 kS (Ne.symm ne)).trans (get?_update_seq hk fun _=>#[])⟩ hc)
theorem Kz{a kS f:Addr}{e1:Nat}{P:PySem.Fin→Shared→Prop}(J:List Value→Shared→Prop){vs:List Value}(h64:vs.length < 64)
 (jk:∀ ks s1 h',J ks s1→(∀ b o,b≠kS→s1.heap.get? b=some o→h'.get? b=some o)→(∃ o,h'.get? kS=some o)→J ks { s1 with heap:=h' })
 (jc:∀ i x ks s1,vs[i]? = some x→ks.length=i→J ks s1→wpAny (model prog w) A (call (.ref f) [x]) (fun k s2=>J (ks++[k]) s2∧∀ b o,(b=a∨b=kS)→s1.heap.get? b=some o→s2.heap.get? b=some o) (fun _ _=>False) s1)
 (ne:a≠kS) (hk:s.heap.get? kS=some (seqObj "list" #[] 0)) (ha:s.heap.get? a=some (seqObj "list" #[] e1)) (j0:J [] s)
 (fin:∀ ks e s1,ks.length=vs.length→J ks s1→s1.heap.get? kS=some (seqObj "list" (List.toArray ks) e)→s1.heap.get? a=some (seqObj "list" #[] e1)→wpAny (model prog w) A (ksk_end a false vs.toArray e1 (.ref kS) (List.toArray ks)) P E s1) :
 wpAny (model prog w) A (ksk_rest a (.ref f) false vs.toArray e1 (.ref kS)) P E s:=by
 unfold ksk_rest
 refine wpAny_bind (wpAny_rule ?_)
 rw[List.forIn_toArray]
 refine wpAny_bind (ksk_fold (I:=fun i s1=>∃ ks e,ks.length=i∧J ks s1∧s1.heap.get? kS=some (seqObj "list" (List.toArray ks) e)∧s1.heap.get? a=some (seqObj "list" #[] e1)) vs 0 s ⟨[],0,rfl,j0,hk,ha⟩ (fun j x s1 hx hI=>?_) fun s1 hI=>?_)
 ·obtain⟨ks,e,hl,hJ,hk1,ha1⟩:=hI
  rw[Nat.zero_add] at hl ⊢
  have hlt:j < vs.length:=(List.getElem?_eq_some_iff.mp hx).1
  refine wpAny_bind (wpAny_attempt (wpAny_mono (jc j x ks s1 hx hl hJ) (fun k s2 h2=>?_) fun _ _ z=>z.elim))
  obtain⟨hJ2,kp⟩:=h2
  have hk2:=kp kS _ (.inr rfl) hk1
  have ha2:=kp a _ (.inl rfl) ha1
  have su:=Heap.SameBut.update s2.heap kS (Obj.mapSeq (·.push k))
  have ea:(List.toArray ks).push k=List.toArray (ks++[k]):=by simp
  obtain⟨c2,hc2⟩ : ∃ c2,(s2.heap.update kS (Obj.mapSeq (·.push k))).get? kS=some (seqObj "list" (List.toArray (ks++[k])) c2):=⟨_,by rw[← ea];exact get?_update_seq hk2 (·.push k)⟩
  dsimp only
  refine wpAny_bind (listUpdate_at hk2 rfl ?_ (by rw[List.size_toArray,sizeLine_eq];omega) (Nat.le_trans (Nat.le_of_eq (Array.size_push ..)) (by rw[List.size_toArray,sizeLine_eq];omega)))
  exact wpAny_pure ⟨rfl,ks++[k],c2,by rw[List.length_append,hl];rfl,jk _ _ _ hJ2 (fun b o n q=>(su.2 b n).trans q) ⟨_,hc2⟩,hc2,(su.2 a ne).trans ha2⟩
 ·obtain⟨ks,e,hl,hJ,hk1,ha1⟩:=hI
  refine wpAny_bind (listItems_at hk1 rfl ?_)
  exact fin ks e s1 (by simpa using hl) hJ hk1 ha1
theorem Pn{a kS:Addr}{e e1:Nat}{ks vs:List Value}{lt:Nat→Nat→Bool}{P:PySem.Fin→Shared→Prop}(hl:ks.length=vs.length)(h64:vs.length < 64)(O:Ord vs.length lt)
 (hkk:2≤vs.length→∀ (Q:SortKind→Shared→Prop),Q oneType' s→wpAny (model prog w) A (keyKind' (List.toArray ks)) Q (fun _ _=>False) s)
 (hcmp:∀ i j C,i < vs.length→j < vs.length→C (lt i j) s→kas_ask prog w A oneType' ks i j C s)
 (hk:s.heap.get? kS=some (seqObj "list" (List.toArray ks) e)) (ha:s.heap.get? a=some (seqObj "list" #[] e1)) (ne:a≠kS)
 (h:∀ out h' c,v8 lt vs out→(∀ b o,b≠a→b≠kS→s.heap.get? b=some o→h'.get? b=some o)→(∃ o,h'.get? kS=some o)→h'.get? a=some (seqObj "list" (List.toArray out) c)→P (.done (.ret .none)) { s with heap:=h' }) :
 wpAny (model prog w) A (ksk_end a false vs.toArray e1 (.ref kS) (List.toArray ks)) P E s:=by
 have V5:∀ {n:Nat},Pm n (List.toArray (List.range n)):=⟨Array.Perm.refl _⟩
 unfold ksk_end
 dsimp only
 rw[if_neg Bool.false_ne_true,if_neg Bool.false_ne_true]
 by_cases h2:vs.toArray.size < 2
 ·rw[if_pos h2,if_pos h2]
  rw[List.size_toArray] at h2
  refine wpAny_bind (wpAny_pure ?_)
  rw[StateT.run_pure]
  refine wpAny_bind (wpAny_pure ?_)
  dsimp only
  have hout:v8 lt vs vs:=⟨List.toArray (List.range vs.length),V5,fun i j hij hj=>by omega,by
   apply List.ext_getElem (by simp)
   intro i h1 h2
   simp[h1]⟩
  refine z8 (out:=vs) hk ha ne (by omega) h64 ?_ rfl fun h' c kp ex hc=>h vs h' c hout kp ex hc
  show ((List.toArray ks).zip vs.toArray).map (·.2)=vs.toArray
  apply Array.toList_inj.mp
  rw[Array.toList_map,Array.toList_zip]
  simp only[]
  rw[List.map_snd_zip (by omega)]
 ·rw[if_neg h2,if_neg h2]
  rw[List.size_toArray] at h2
  refine wpAny_bind (wpAny_mono (hkk (by omega) (fun κ s'=>κ = oneType'∧s'=s) ⟨rfl,rfl⟩) (fun κ s' hh=>?_) fun _ _ z=>z.elim)
  obtain⟨rfl,rfl⟩:=hh
  have wp:=Qv (cmp:=kas_ask prog w A oneType' ks) (s:=s') hcmp (Vd O (by omega))
  refine wpAny_bind (wpAny_mono (kat_run (E:=E) (Q:=fun st' s2=>s2=s'∧∃ p:Array Nat,Pm vs.length p∧Sd lt p vs.length∧arrOf st'=p.map (kas_item (ks.toArray.zip vs.toArray))∧failedOf st'=none) hl (by omega) h64 (fun p st' s2 _ a2 a3 a4=>⟨a4.1,p,a4.2.1,a4.2.2,a2,a3⟩) wp) ?_ fun _ _ z=>z)
  rintro ⟨⟨⟩,st'⟩ s2 ⟨rfl,p,pm,sd,har,hf⟩
  dsimp only
  have hout:v8 lt vs (p.toList.map fun i=>vs.getD i Value.none):=⟨p,pm,sd,rfl⟩
  exact z8 hk ha ne (by omega) (by rw[hout.len];exact h64) (kat_snds hl har) hf fun h' c kp ex hc=>h _ h' c hout kp ex hc
theorem Fd{f l:Addr}{vs:List Value}{Q:Value→Shared→Prop}(J:List Value→Shared→Prop)(hl:s.heap.IsList l vs.toArray)(h64:vs.length < 64)
 (j0:∀ h':Heap,(∀ b o,s.heap.get? b=some o→h'.get? b=some o)→(∀ b∈tm s.heap.objs.size,∃ o,h'.get? b=some o)→J [] { s with heap:=h' })
 (jk:∀ ks s1 h',J ks s1→(∀ b o,b∉tm s.heap.objs.size→s1.heap.get? b=some o→h'.get? b=some o)→(∀ b o,s1.heap.get? b=some o→∃ o',h'.get? b=some o')→J ks { s1 with heap:=h' })
 (jc:∀ i x ks s1,vs[i]? = some x→ks.length=i→J ks s1→wpAny (model prog w) A.in1.in1 (call (.ref f) [x]) (fun k s2=>J (ks++[k]) s2∧∀ b o,b∈tm s.heap.objs.size→s1.heap.get? b=some o→s2.heap.get? b=some o) (fun _ _=>False) s1)
 (je:∀ ks s1,ks.length=vs.length→J ks s1→∃ lt,Ord vs.length lt∧(2≤vs.length→∀ (Q:SortKind→Shared→Prop),Q oneType' s1→wpAny (model prog w) A.in1.in1 (keyKind' (List.toArray ks)) Q (fun _ _=>False) s1) ∧
  (∀ i j C,i < vs.length→j < vs.length→C (lt i j) s1→kas_ask prog w A.in1.in1 oneType' ks i j C s1) ∧
  ∀ out h' c,v8 lt vs out→(∀ b o,b∉tm s.heap.objs.size→s1.heap.get? b=some o→h'.get? b=some o)→(∀ b o,s1.heap.get? b=some o→∃ o',h'.get? b=some o')→h'.get? (s.heap.objs.size+1)=some (seqObj "list" (List.toArray out) c)→Q (.ref (s.heap.objs.size+1)) { s1 with heap:=h' }) :
 wpAny (model prog w) A (call (.builtin "sorted") [.ref l] [(Str.ofString "key", .ref f)]) Q E s:=by
 refine call_function_entry_kw kind_sorted plain_sorted entry_sorted (ksk_s1 _ _) ?_
 unfold Builtin.«sorted»
 refine wpAny_bind (m:=checkCount "sorted" 1 1 _) (wpAny_pure ?_)
 refine wpAny_bind (collect_list hl ?_ (by rw[sizeLine_eq];omega))
 refine wpAny_bind (wpAny_newList ?_ (by rw[sizeLine_eq];omega))
 generalize hn:s.heap.objs.size=n at *
 generalize hh1:((s.heap.push (seqObj "list" #[] 0)).update n (Obj.mapSeq (· ++ vs.toArray)))=h1
 have hsz:h1.objs.size=n+1:=by rw[← hh1,Heap.size_update,size_push',hn]
 have k1:∀ b o,s.heap.get? b=some o→h1.get? b=some o:=fun b o q=>by
  have hlt:b < n:=by rw[← hn];exact Heap.lt_size q
  rw[← hh1,Heap.get?_update_ne _ _ _ _ (Nat.ne_of_lt hlt),Heap.get?_push_ne _ _ _ (by rw[hn];exact Nat.ne_of_lt hlt)]
  exact q
 have hoL:(h1.push (seqObj "list" vs.toArray 0)).get? (n+1)=some (seqObj "list" vs.toArray 0):=by rw[← hsz];exact Heap.get?_push_size _ rfl
 show wpAny _ _ _ _ _ { s with heap:=h1.push (seqObj "list" vs.toArray 0) }
 rw[hsz]
 refine wpAny_bind (wpAny_holding (wpAny_call_entry_kw slot_list_sort ⟨_,hoL,rfl⟩ entry_list_sort ?_ (ksk_l1 _ _)))
 show wpAny (model prog w) A.in1.in1 (Builtin.«list.sort» ⟨[.ref (n+1)],[(Str.ofString "key", .ref f)]⟩) _ _ _
 rw[ksk_t1]
 generalize hh2:h1.push (seqObj "list" vs.toArray 0)=h2 at hoL ⊢
 have k2:∀ b o,s.heap.get? b=some o→h2.get? b=some o:=fun b o q=>by rw[← hh2];exact Heap.get?_push_of_some _ (k1 b o q)
 have z2:h2.objs.size=n+2:=by rw[← hh2,Heap.size_push,hsz]
 obtain⟨e1,ho1⟩ : ∃ e1,(h2.update (n+1) (Obj.mapSeq fun _=>(#[]:Array Value))).get? (n+1)=some (seqObj "list" #[] e1):=⟨_,get?_update_seq hoL fun _=>#[]⟩
 have su:=Heap.SameBut.update h2 (n+1) (Obj.mapSeq fun _=>(#[]:Array Value))
 unfold ksk_tree
 refine wpAny_bind (listItems_at (s:={ s with heap:=h2 }) hoL rfl ?_)
 refine wpAny_bind (listUpdate_at (s:={ s with heap:=h2 }) hoL rfl ?_ (by rw[List.size_toArray,sizeLine_eq];omega) (Nat.zero_le _))
 refine wpAny_bind (seqEpoch_at (s:={ s with heap:=h2.update (n+1) (Obj.mapSeq fun _=>(#[]:Array Value)) }) ho1 rfl ?_)
 refine wpAny_bind (wpAny_newTuple ?_ (by show vs.length≤_;rw[sizeLine_eq];omega))
 refine wpAny_bind (wpAny_newList ?_ (Nat.zero_le _))
 refine wpAny_holding ?_
 generalize hh3:h2.update (n+1) (Obj.mapSeq fun _=>(#[]:Array Value))=h3 at ho1 su ⊢
 have z3:h3.objs.size=n+2:=by rw[← hh3,Heap.size_update,z2]
 have z4:(h3.push (seqObj "tuple" vs.toArray 0)).objs.size=n+3:=by rw[Heap.size_push,z3]
 show wpAny (model prog w) A.in1.in1 (ksk_rest (n+1) (.ref f) false vs.toArray e1 (.ref (h3.push (seqObj "tuple" vs.toArray 0)).objs.size)) _ _ { s with heap:=(h3.push (seqObj "tuple" vs.toArray 0)).push (seqObj "list" #[] 0) }
 rw[z4]
 have acp:∀ b o,s.heap.get? b=some o→((h3.push (seqObj "tuple" vs.toArray 0)).push (seqObj "list" #[] 0)).get? b=some o:=fun b o q=>by
  have hlt:b < n:=by rw[← hn];exact Heap.lt_size q
  exact Heap.get?_push_of_some _ (Heap.get?_push_of_some _ ((su.2 b (Nat.ne_of_lt (Nat.lt_succ_of_lt hlt))).trans (k2 b o q)))
 refine Kz (kS:=n+3) (a:=n+1) J h64 (fun ks s1 h' hJ kp ex=>jk ks s1 h' hJ (fun b o hb q=>kp b o (fun z=>hb (by simp[tm,z])) q) fun b o q=>by
  by_cases z:b=n+3
  ·rw[z];exact ex
  ·exact⟨o,kp b o z q⟩)
  (fun i x ks s1 hx hl' hJ=>wpAny_mono (jc i x ks s1 hx hl' hJ) (fun k s2 h2=>⟨h2.1,fun b o hb q=>h2.2 b o (by rcases hb with z|z<;>simp[tm,z]) q⟩) fun _ _ z=>z) (show (n+1:Nat)≠n+3 by omega)
  (by rw[← z4];exact Heap.get?_push_size _ rfl) (Heap.get?_push_of_some _ (Heap.get?_push_of_some _ ho1)) (j0 _ acp fun b hb=>?ex) fun ks e s1 hlk hJ hk1 ha1=>?_
 case ex =>
  have e0:∃ o,h3.get? n=some o:=by
   have q0:(s.heap.push (seqObj "list" #[] 0)).get? n=some (seqObj "list" #[] 0):=by rw[← hn];exact Heap.get?_push_size _ rfl
   obtain⟨o1,q1⟩ : ∃ o1,h1.get? n=some o1:=by rw[← hh1];exact⟨_,get?_update_seq q0 (· ++ vs.toArray)⟩
   exact⟨_,(su.2 n (show (n:Nat)≠n+1 by omega)).trans (by rw[← hh2];exact Heap.get?_push_of_some _ q1)⟩
  simp only[tm,List.mem_cons,List.not_mem_nil,or_false] at hb
  rcases hb with rfl|rfl|rfl|rfl
  ·obtain⟨o,q⟩:=e0
   exact⟨o,Heap.get?_push_of_some _ (Heap.get?_push_of_some _ q)⟩
  ·exact⟨_,Heap.get?_push_of_some _ (Heap.get?_push_of_some _ ho1)⟩
  ·exact⟨_,Heap.get?_push_of_some _ (by rw[← z3];exact Heap.get?_push_size _ rfl)⟩
  ·exact⟨_,by rw[← z4];exact Heap.get?_push_size _ rfl⟩
 obtain⟨lt,O,hkk,hcmp,fin⟩:=je ks s1 hlk hJ
 refine Pn hlk h64 O hkk hcmp hk1 ha1 (show (n+1:Nat)≠n+3 by omega) fun out h' c so kp ex hc=>?_
 exact⟨_,rfl,wpAny_pure ⟨_,rfl,fin out h' c so (fun b o hb q=>kp b o (fun z=>hb (by simp[tm,z])) (fun z=>hb (by simp[tm,z])) q) (fun b o q=>by
  by_cases y1:b=n+1
  ·rw[y1];exact⟨_,hc⟩
  ·by_cases y2:b=n+3
   ·rw[y2];exact ex
   ·exact⟨o,kp b o y1 y2 q⟩) hc⟩⟩
end
end So
namespace L2
open PySem PySem.Spec PyProof.Rows
def cxL(X:Cx)(A:Around)(N':List Str)(env:Env)(s:Shared)(H:Hp):Cx :=
 { X with A:=A.deeper env,N:=N',s₀:=s,H₀:=H,env:=env,outer:=X.stack,stack:=env::X.stack,ex:=[],fn:=fun _=>false,calm:=true,pn:=[],xe:=fun _ _=>False }
abbrev Gh(qual:Str)(scope:Scope)(s:Shared)(f c':Addr)(cl:List (Str×Addr)):Env:=PySem.W.envX qual scope s.heap.objs.size f (.ref c') cl
structure Ei(X:Cx)(x:Str)(ρ : List Nat)(N':List Str)(sc:Scope)(cl:List (Str×Addr)):Prop where
 kind:sc.kind=.function
 co:sc.isCoroutine=false
 gen:sc.isGenerator=false
 Bg:∀ y∈sc.names,y.2≠.cell
 par:sc.names.lookup x=some .local
 clo:∀ y c,cl.lookup y=some c→X.env.cells.lookup y=some c
 has:∀ y,sc.names.lookup y=some .free→∃ c,cl.lookup y=some c
 N:∃ ys,N'=x::ys∧ys.length = ρ.length∧∀ (i j:Nat) y,ρ[i]? = some j→ys[i]? = some y→X.N[j]? = some y∧sc.names.lookup y=some .free∧(X.env.kindOf y=some .cell∨X.env.kindOf y=some .free)
section
variable{X:Cx}{pins:List (Addr×Obj)}{σ : St}{H:Hp}{s:Shared}{A:Around}{k:Nat}{qual x:Str}{ps:Arguments}{body:Expr}{sc:Scope}{cl:List (Str×Addr)}{pm ctv:Value}{f c':Addr}{ρ : List Nat}{N':List Str}
def oY(ρ : List Nat)(σ : St)(v:V):St:=some v :: ρ.map fun j=>(σ[j]?).join
theorem VN{h1:Heap}{tk:Nat}{v:V}{u:Value}(I:Inv X pins σ H s)(hA:A.frames=some X.stack)(hd:A.handled=none)(S:Ei X x ρ N' sc cl)(rv:RelV v u)
 (hns:h1.Ns s.heap.objs.size fun y=>[(x,u)].reverse.lookup y) (hk:∀ b o,s.heap.get? b=some o→h1.get? b=some o) :
 Inv (cxL X A N' (Gh qual sc s f c' cl) s H) [] (oY ρ σ v) H { s with heap:=h1,toks:=tk }:=by
 obtain⟨ys,eN,el,ix⟩:=S.N
 have noA:∀ b:Addr,b∉([]:List Addr):=fun b z=>absurd z (by simp)
 refine⟨⟨I.mod,S.kind,rfl,rfl,Nat.le_refl _,fun y z c h1 h2=>I.ok.inj y z c (S.clo y c h1) (S.clo z c h2),fun y hy=>?_,fun y c z=>(nomatch z),fun _=>hd,Around.frames_deeper hA,.inr ⟨rfl,rfl⟩,fun b z=>absurd z (noA b),I.bs,Nat.le_trans I.ok.bsz I.sz,fun b _ _=>noA b,fun b z=>absurd z (noA b),I.stack,I.wB⟩,
  rfl,I.bare,Un.kept hk,⟨_,hns,fun i y w h2 h3 h4=>?_⟩,fun y c e=>?_,I.hok.fresh (Nat.le_refl _),fun y c e=>I.nP y c (S.clo y c e),fun p hp=>absurd (show p∈([]:List (Addr×Obj)) from hp) (by simp),I.hok.kept hk,?_⟩
 ·have hy:sc.names.lookup y=some .cell∨sc.names.lookup y=some .free:=hy
  rcases hy with hy|hy
  ·exact absurd rfl (S.Bg _ (PySem.mem_of_lookup hy))
  ·exact S.has y hy
 ·have h2:N'[i]? = some y:=h2
  subst eN
  cases i with
  | zero =>
   have e:x=y:=by simpa using h2
   subst e
   have e2:v=w:=by simpa [oY] using h3
   subst e2
   exact⟨u,rv,.inl ⟨S.par,by simp⟩⟩
  | succ i =>
   have hy:ys[i]? = some y:=by simpa using h2
   have h3:(ρ.map fun j=>(σ[j]?).join)[i]? = some (some w):=by simpa [oY] using h3
   rw[List.getElem?_map] at h3
   obtain⟨j,hj,e⟩:=Option.map_eq_some_iff.mp h3
   have e2:σ[j]? = some (some w):=by
    cases q:σ[j]? with
    | none=>rw[q] at e;cases e
    | some z=>rw[q] at e;exact congrArg some e
   obtain⟨n1,n2,n3⟩:=ix i j y hj hy
   obtain⟨m,hm,hl⟩:=I.loc
   have vis:Vis X.env.scope y:=by
    rcases n3 with z|z
    ·exact .inr (.inl z)
    ·exact .inr (.inr z)
   obtain⟨u2,r2,lk⟩:=hl j y w n1 e2 vis
   refine⟨u2,r2,.inr ⟨.inr n2,?_⟩⟩
   obtain⟨c,hc⟩:=S.has y n2
   refine⟨c,hc,?_⟩
   have hX:=S.clo y c hc
   rcases lk with ⟨z,_⟩|⟨_,c2,e3,ic⟩
   ·rcases n3 with y1|y1
    ·rw[z] at y1;cases y1
    ·rw[z] at y1;cases y1
   ·rw[hX] at e3;cases e3
    obtain⟨o,ho,hd⟩:=ic
    exact⟨o,hk _ _ ho,hd⟩
 ·obtain⟨v2,o,ho,hd⟩:=I.cell y c (S.clo y c e)
  exact⟨v2,o,hk _ _ ho,hd⟩
 ·subst eN
  show (oY ρ σ v).length=(x::ys).length
  simp[oY,el]
theorem VM{u:Value}{v:V}{tb:TE}{Q:VK}(I:Inv X pins σ H s)(hA:A.frames=some X.stack)(hr:j9 (k+1) A)(S:Ei X x ρ N' sc cl)
 (ho:s.heap.get? f=some (PySem.W.kla_obj "<lambda>" qual ps body sc cl pm c' ctv)) (hcd:s.heap.CodeRec (.ref c') qual)
 (hbind:bindArgs (PySem.W.kla_fn "<lambda>" qual ps body sc cl pm (.ref c') ctv) ⟨[u],[]⟩=pure [(x,u)]) (rv:RelV v u)
 (hb:∀ env:Env,j9 k (A.deeper env)→env=Gh qual sc s f c' cl→PE (cxL X A N' env s H) body tb) (h:tb (oY ρ σ v) H Q) :
 wpAny (model X.prog X.w) A (call (.ref f) [u]) (CE X.stack X.prog X.w H s Q) (fun _ _=>False) s:=by
 refine wpAny_call (PySem.W.kla_callFunE hr.depth ho rfl S.co S.gen rfl hcd ?_)
 rw[hbind]
 refine wpAny_pure (wpAny_newFunctionEnv S.Bg (fun y hy=>by
  have e:y=(x,u):=by simpa using hy
  rw[e];exact S.par) (fun h1 hns hsb=>⟨(I.nolimit).fresh _ hsb,?_⟩) S.kind)
 show codeAny _ _ (.expr body (Gh qual sc s f c' cl)) _ _
 have hk:∀ b o,s.heap.get? b=some o→h1.get? b=some o:=fun b o e=>hsb.extBut b o (Nat.ne_of_lt (Heap.lt_size e)) (Heap.get?_push_of_some _ e)
 have J:=VN (tk:=s.toks+[(x,u)].length) (qual:=qual) (f:=f) (c':=c') I hA hr.hd S rv hns hk
 refine PySem.W.kla_codeExpr (wpAny_mono (hb _ (hr.deeper _) rfl [] _ (oY ρ σ v) H Q J h) (fun k' s' hq=>?_) fun _ _ z=>z.elim)
 obtain⟨v2,H2,I2,r2,q⟩:=hq
 exact⟨v2,H2,I2.os,I2.bare,I2.base,I2.hok,r2,q⟩
end
end L2
namespace So
theorem Mz:∀ {a b:List Int},a≠b→jL a b=true∨jL b a=true
 | [],[],h=>absurd rfl h
 | [],_::_,_=>.inl rfl
 | _::_,[],_=>.inr rfl
 | a::r,b::t,h=>by
  rw[jL,jL]
  by_cases e:a=b
  ·subst e
   simp only[beq_self_eq_true,if_true]
   exact Mz fun z=>h (by rw[z])
  ·have e':¬ b=a:=fun z=>e z.symm
   simp only[beq_iff_eq,e,e',if_false,decide_eq_true_eq]
   omega
theorem MF:∀ {a b:List Int},jL a b=true→jL b a=false
 | [],[],h=>by simp[jL] at h
 | [],_::_,_=>rfl
 | _::_,[],h=>by simp[jL] at h
 | a::r,b::t,h=>by
  rw[jL] at h ⊢
  by_cases e:a=b
  ·subst e
   simp only[beq_self_eq_true,if_true] at h ⊢
   exact MF h
  ·have e':¬ b=a:=fun z=>e z.symm
   simp only[beq_iff_eq,e,e',if_false,decide_eq_true_eq,decide_eq_false_iff_not] at h ⊢
   omega
theorem Sw:∀ {a b c:List Int},jL a b=true→jL b c=true→jL a c=true
 | [],[],_,h,_=>by simp[jL] at h
 | [],_::_,[],_,h=>by simp[jL] at h
 | [],_::_,_::_,_,_=>rfl
 | _::_,[],_,h,_=>by simp[jL] at h
 | _::_,_::_,[],_,h=>by simp[jL] at h
 | a::r,b::t,c::u,h,k=>by
  rw[jL] at h k ⊢
  by_cases e:a=b
  ·subst e
   simp only[beq_self_eq_true,if_true] at h
   by_cases f:a=c
   ·subst f
    simp only[beq_self_eq_true,if_true] at k ⊢
    exact Sw h k
   ·simp only[beq_iff_eq,f,if_false] at k ⊢
    exact k
  ·simp only[beq_iff_eq,e,if_false,decide_eq_true_eq] at h
   by_cases f:b=c
   ·subst f
    simp only[beq_iff_eq,e,if_false,decide_eq_true_eq]
    exact h
   ·simp only[beq_iff_eq,f,if_false,decide_eq_true_eq] at k
    have:¬ a=c:=by omega
    simp only[beq_iff_eq,this,if_false,decide_eq_true_eq]
    omega
def VF(kz:List (List Int))(i j:Nat):Bool:=jL (kz.getD i []) (kz.getD j [])
theorem Gf{kz:List (List Int)}(nd:kz.Nodup):Ord kz.length (VF kz):=by
 have inj:∀ i j,i < kz.length→j < kz.length→i≠j→kz.getD i []≠kz.getD j []:=fun i j hi hj ne e=>by
  rw[List.getD_eq_getElem?_getD,List.getElem?_eq_getElem hi,List.getD_eq_getElem?_getD,List.getElem?_eq_getElem hj] at e
  exact ne ((List.getElem_inj nd).mp e)
 exact⟨fun i j hi hj ne=>Mz (inj i j hi hj ne),fun i j _ _ h=>MF h,fun i j k _ _ _ h g=>Sw h g⟩
def Lk{α : Type}(d:α)(kz:List (List Int))(xs ys:List α):Prop:=∃ p:Array Nat,Pm xs.length p∧Sd (VF kz) p xs.length∧ys=p.toList.map fun i=>xs.getD i d
end So
namespace L2
open PySem PySem.Spec PyProof.Rows A So
variable[Tb:jf]
def Tab(T:Addr)(q:Str)(H H':Hp):Prop:=H'=H∨∃ ps ps' c,H T=some (.tbl q ps)∧H c=none∧c≠T∧H'=upd (upd H T (.tbl q ps')) c (.ext (oK c q))∧kj H'
theorem EY{c:Value}{p:Pos}:∀ {l:List Value},TriplesOk l→TriplesOk (l++[rawInt p.line,rawInt p.col,c]):=fun {l} h=>by
 fun_induction TriplesOk l with
 | case1=>exact trivial
 | case2 a b c' d e rest ih=>exact ih h
 | case3 _ _=>exact h.elim
theorem Lf{c v:Value}{p p2:Pos}:∀ {l:List Value},TriplesOk l→codeAmong p2 (l++[rawInt p.line,rawInt p.col,c])=some v→codeAmong p2 l=some v∨v=c:=fun {l} h e=>by
 fun_induction TriplesOk l with
 | case1 =>
  simp only[List.nil_append,codeAmong,rawInt] at e
  split at e
  ·exact .inr (by cases e;rfl)
  ·cases e
 | case2 a b c' d e' rest ih =>
  simp only[List.cons_append,codeAmong] at e ⊢
  split at e
  ·rename_i q
   rw[if_pos q];exact .inl e
  ·rename_i q
   rw[if_neg q];exact ih h e
 | case3 _ _=>exact h.elim
def BM(mg:Str→Option Value)(base:Heap):Prop:=∃ bm o,mg "__builtins__" = some (.ref bm)∧bm≠builtinsNs∧bm≠mainGlobals∧base.get? bm=some o∧o.cls=.type "module" ∧ o.dict=some builtinsNs∧o.data=.plain
section
variable{X:Cx}{pins:List (Addr×Obj)}{σ : St}{H:Hp}{s:Shared}{qual x:Str}{ps:Arguments}{body:Expr}{sc:Scope}{cl:List (Str×Addr)}{c T:Addr}{pos:Pos}
theorem K6(c:Addr)(q:Str):∀ h1 h2:Heap,oK c q h1→(∀ o,h1.get? c=some o→h2.get? c=some o)→oK c q h2:=fun h1 h2 ⟨o,vs,t,e,d,r⟩ k=>⟨o,vs,t,k o e,d,r⟩
theorem S5{Q:Value→Shared→Prop}{E:Value→Shared→Prop}(I:Inv X pins σ H s)(hc:X.env.code=.ref c)(C:PySem.W.CodeHd X.base c T)(k:kj H){tps:Array Value}(hT:H T=some (.tbl qual tps))(hB:BM X.mg X.base)
 (hdef:defaultsOf ps X.env=([],[])) (hq:X.env.qual ++ "<lambda>" = qual) (hcl:closureFor sc X.env=pure cl)
 (h:∀ f c' ctv pm s' H',Tab T qual H H'→H' c'=some (.ext (oK c' qual))→s'.heap.get? f=some (PySem.W.kla_obj "<lambda>" qual ps body sc cl pm c' ctv)→Inv X pins σ H' s'→qW X pins H' f→Q (.ref f) s') :
 wpAny (model X.prog X.w) X.A (eval (.Lambda ps body sc pos) X.env) Q E s:=by
 obtain⟨ok1,ok2⟩:=k.cd T qual tps hT
 have hP:s.heap.get? T=some (PySem.W.tabObj tps):=I.hok T _ hT
 have hg:s.heap.Ns mainGlobals X.mg:=I.mod.glob.keeps I.bk
 have C':PySem.W.CodeHd s.heap c T:=C.keeps I.bk
 obtain⟨bm,bo,b1,b2,b3,b4,b5,b6,b7⟩:=hB
 have nT:∀ b o,X.base.get? b=some o→b≠T:=fun b o e z=>by
  have:=(I.bs b o e).2
  rw[z,hT] at this;cases this
 have hb:s.heap.BuiltinsAt X.mg T:=⟨bm,bo,b1,b2,b3,nT _ _ b4,I.bk _ _ b4,b5,b6,b7⟩
 have hgT:mainGlobals≠T:=by
  obtain⟨o,es,ep,e,_⟩:=I.mod.glob
  exact nT _ _ e
 refine PySem.W.kla_eval hdef ?_
 rw[hq]
 cases hf:codeAmong pos tps.toList with
 | some v =>
  obtain⟨c',rfl,hc'⟩:=ok2 pos v hf
  refine PySem.W.kla_makeFunctionHit hcl I.ok.glob hg hc C' hP ok1 hf hb fun ctv h' tk kp sz=>?_
  have I':Inv X pins σ H { s with heap:=h'.push _,toks:=tk }:=I.kept (h':=h'.push (PySem.W.kla_obj "<lambda>" qual ps body sc cl ((X.mg "__name__").getD .none) c' ctv)) fun b o e=>Heap.get?_push_of_some _ (kp b o e)
  exact h _ c' ctv _ _ H (.inl rfl) hc' (Heap.get?_push_size _ rfl) I' (I.wW sz (I.hok.fresh sz))
 | none =>
  refine PySem.W.kla_makeFunction hcl I.ok.glob hg hc C' hP ok1 hf hgT hb fun c' ctv h' tk kp h1 h2 hrec htb=>?_
  have nc:H c'=none:=I.hok.fresh h1
  have cT:c'≠T:=fun z=>by rw[z,hT] at nc;cases nc
  have hx:oK c' qual h':=by
   obtain⟨c2,o,vs,t,e,r⟩:=hrec
   cases e
   exact⟨o,vs,t,r⟩
  obtain⟨oc,hoc⟩ : ∃ o,h'.get? c'=some o:=let ⟨o,_,_,e,_⟩:=hx;⟨o,e⟩
  have u1:Un X.fs [] H (upd H T (.tbl qual (tps ++ #[rawInt pos.line,rawInt pos.col,.ref c']))) s.heap h':=by
   have nn:∀ b,H b=none→b≠T:=fun b n z=>by rw[z,hT] at n;cases n
   refine⟨fun b o e n _ _=>kp b o (nn b n) e,fun b o e n _ _=>⟨o.slots,kp b o (nn b n) e⟩,fun b o e n _=>by rw[aM (nn b n)];exact n,fun b o e _=>?_,fun b xs e=>?_,fun b o u e=>?_,fun b w ps e=>?_⟩
   ·by_cases z:b=T
    ·rw[z];exact⟨_,htb⟩
    ·exact⟨o,kp b o z e⟩
   ·rw[aM (fun z=>by rw[z,hT] at e;cases e)];exact e
   ·rw[aM (fun z=>by rw[z,hT] at e;cases e)];exact e
   ·by_cases z:b=T
    ·subst z
     rw[hT] at e;cases e
     exact⟨_,bc⟩
    ·exact⟨#[],by rw[aM z,e];simp⟩
  have acv:qX X.prog X.w (upd H T (.tbl qual (tps ++ #[rawInt pos.line,rawInt pos.col,.ref c']))) h':=fun b u e=>by
   by_cases z:b=T
   ·subst z;rw[bc] at e;cases e;exact htb
   ·rw[aM z] at e
    refine(I.hok b u e).stay (fun y v hy q=>kp y v ?_ q) (fun y q=>by rw[aM (fun w=>by rw[w,hT] at q;cases q)];exact q) fun y xs q=>by rw[aM (fun w=>by rw[w,hT] at q;cases q)];exact q
    rcases hy with w|w
    ·rw[w];exact z
    ·exact fun w2=>by rw[w2,hT] at w;cases w
  have I1:Inv X pins σ (upd H T (.tbl qual (tps ++ #[rawInt pos.line,rawInt pos.col,.ref c']))) { s with heap:=h',toks:=tk }:=I.un u1 acv
  have nc1:upd H T (.tbl qual (tps ++ #[rawInt pos.line,rawInt pos.col,.ref c'])) c'=none:=by rw[aM cT];exact nc
  have I2:Inv X pins σ (upd (upd H T (.tbl qual (tps ++ #[rawInt pos.line,rawInt pos.col,.ref c']))) c' (.ext (oK c' qual))) { s with heap:=h',toks:=tk }:=by
   have F:qW X pins (upd H T (.tbl qual (tps ++ #[rawInt pos.line,rawInt pos.col,.ref c']))) c':=⟨nc1,(I.wW (H':=H) h1 nc).2⟩
   have RC:∀ b u,(upd H T (.tbl qual (tps ++ #[rawInt pos.line,rawInt pos.col,.ref c']))) b=some u→b≠c':=fun b u e=>bf e nc1
   refine I1.call' (s':={ s with heap:=h',toks:=tk }) (ch:=[c']) rfl ⟨fun b u e _ _ _=>e,fun b u e _ _ _=>⟨u.slots,e⟩,fun b u e n hb=>?_,fun b u e hb=>⟨u,e⟩,fun b xs e=>by rw[aM (RC _ _ e)];exact e,fun b q u e=>by rw[aM (RC _ _ e)];exact e,fun b w ps e=>⟨#[],by rw[aM (RC _ _ e),e];simp⟩⟩ ?_ I.bare
    fun b hb=>by
     obtain rfl:b=c':=by simpa using hb
     exact⟨F.2.2.2.1,F.2.1,F.2.2.2.2.1,F.2.2.2.2.2⟩
   ·rw[aM (fun z=>hb (by simp[z]))];exact n
   ·intro b u e
    by_cases z:b=c'
    ·subst z;rw[bc] at e;cases e
     exact⟨hx,⟨oc,hoc⟩,K6 b qual⟩
    ·rw[aM z] at e
     exact(I1.hok b u e).stay (fun y v hy q=>q) (fun y q=>by rw[aM (RC _ _ q)];exact q) fun y xs q=>by rw[aM (RC _ _ q)];exact q
  have abh:∀ b o,h'.get? b=some o→(h'.push (PySem.W.kla_obj "<lambda>" qual ps body sc cl ((X.mg "__name__").getD .none) c' ctv)).get? b=some o:=fun b o e=>Heap.get?_push_of_some _ e
  have I3:=I2.kept (t':=tk) abh
  have szs:s.heap.objs.size≤h'.objs.size:=Nat.le_trans h1 (Nat.le_of_lt h2)
  have ck:kj (upd (upd H T (.tbl qual (tps ++ #[rawInt pos.line,rawInt pos.col,.ref c']))) c' (.ext (oK c' qual))):=by
   have nT':∀ {b:Addr} {o:HO},H b=some o→NT o→upd (upd H T (.tbl qual (tps ++ #[rawInt pos.line,rawInt pos.col,.ref c']))) c' (.ext (oK c' qual)) b=some o:=fun {b o} e n=>by
    rw[aM (bf e nc),aM (fun z=>by rw[z,hT] at e;cases e;exact n)];exact e
   refine⟨fun r hr=>?_,fun T2 q2 ps2 e=>?_⟩
   ·obtain⟨p0,e0⟩:=k.has r hr
    by_cases z:r.1=T
    ·rw[z,hT] at e0
     have:qual=r.2:=by injection e0 with e0;injection e0
     exact⟨_,by rw[aM (by rw[z];exact Ne.symm cT),z,bc,this]⟩
    ·exact⟨p0,by rw[aM (bf e0 nc),aM z];exact e0⟩
   ·by_cases z:T2=c'
    ·subst z;rw[bc] at e;cases e
    ·rw[aM z] at e
     by_cases z2:T2=T
     ·subst z2
      rw[bc] at e
      have e1:qual=q2:=by injection e with e;injection e
      have e2:tps ++ #[rawInt pos.line,rawInt pos.col,.ref c']=ps2:=by injection e with e;injection e
      subst e1 e2
      refine⟨by rw[Array.toList_append];exact EY ok1,fun p2 v hv=>?_⟩
      rw[Array.toList_append] at hv
      rcases Lf ok1 hv with q|q
      ·obtain⟨y,y1,y2⟩:=ok2 p2 v q
       exact⟨y,y1,nT' y2 trivial⟩
      ·exact⟨c',q,bc⟩
     ·rw[aM z2] at e
      obtain⟨t1,t2⟩:=k.cd T2 q2 ps2 e
      refine⟨t1,fun p2 v hv=>?_⟩
      obtain⟨y,y1,y2⟩:=t2 p2 v hv
      exact⟨y,y1,nT' y2 trivial⟩
  refine h h'.objs.size c' ctv _ _ _ (.inr ⟨tps,_,c',hT,nc,cT,rfl,ck⟩) bc (Heap.get?_push_size _ rfl) I3 ?_
  refine I.wW szs ?_
  rw[aM (Nat.ne_of_gt h2),aM (fun z=>?_)]
  ·exact I.hok.fresh szs
  ·have:=I.hok.fresh szs
   rw[z,hT] at this;cases this
end
end L2
namespace L2
open PySem PySem.Spec PyProof.Rows A So
variable[Tb:jf]
section
variable{X:Cx}{pins:List (Addr×Obj)}{σ : St}{H:Hp}{s:Shared}
theorem adopt{fp:List Addr}{D:Addr}{o:HO}{h':Heap}{t':Nat}(I:Inv X pins σ H s)(hf:∀ b∈fp,qW X pins H b)(hD:D∈fp)(k:∀ b u,b∉fp→s.heap.get? b=some u→h'.get? b=some u)
 (new:di X.prog X.w (upd H D o) h' D o):Inv X pins σ (upd H D o) { s with heap:=h',toks:=t' }:=by
 have hn:H D=none:=(hf D hD).1
 have nfp:∀ b u,H b=some u→b∉fp:=fun b u e z=>by rw[(hf b z).1] at e;cases e
 refine I.call' (s':={ s with heap:=h',toks:=t' }) (ch:=fp) rfl ⟨fun b u e _ _ hb=>k b u hb e,fun b u e _ _ hb=>⟨u.slots,k b u hb e⟩,fun b u e hb hx=>?_,fun b u e hb=>⟨u,k b u hb e⟩,fun b xs e=>?_,fun b q u e=>?_,fun b w ps e=>⟨#[],?_⟩⟩ ?_ I.bare
  fun b hb=>⟨(hf b hb).2.2.2.1,(hf b hb).2.1,(hf b hb).2.2.2.2.1,(hf b hb).2.2.2.2.2⟩
 ·rw[aM (fun z=>hx (by rw[z];exact hD))];exact hb
 ·rw[aM (bf e hn)];exact e
 ·rw[aM (bf e hn)];exact e
 ·rw[aM (bf e hn),e];simp
 ·intro b u e
  by_cases hb:b=D
  ·subst hb;rw[bc] at e;cases e;exact new
  ·rw[aM hb] at e
   refine(I.hok b u e).stay (fun c v hc q=>k c v ?_ q) (fun c q=>by rw[aM (bf q hn)];exact q) fun c xs q=>by rw[aM (bf q hn)];exact q
   rcases hc with z|z
   ·rw[z];exact nfp b u e
   ·exact nfp c _ z
theorem zX:∀ {ns:List Int} {its:List Value},Vals (ns.map V.int) its→IntsAre its ns
 | [],_,.nil=>.nil
 | n::r,_,.cons h t=>by
  obtain⟨t1,rfl⟩:=h
  exact .cons n t1 (zX t)
end
def GR(c':Addr)(q:Str)(tk:V→Hp→VK→Prop):List V→Hp→(List V→Hp→Prop)→Prop
 | [],H,R=>R [] H
 | x::xs,H,R=>tk x H fun k H1=>H1 c'=some (.ext (oK c' q))∧GR c' q tk xs H1 fun ks H2=>R (k::ks) H2
def KeysAre(H:Hp)(kz:List (List Int))(ks:List V):Prop:=P2 (fun z k=>∃ p,k=V.ref p∧H p=some (.lst (z.map V.int))) kz ks
def aaz(T:Addr)(q:Str)(ρ : List Nat)(σ : St)(tb:TE)(Q:VK):VK:=fun x H1=>∃ a xs tps,x=.ref a∧xs.length < 64∧H1 T=some (.tbl q tps)∧kj H1 ∧
 ∀ H2 c',Tab T q H1 H2→H2 c'=some (.ext (oK c' q))→Lst H2 a xs∧GR c' q (fun v H K=>tb (oY ρ σ v) H K) xs H2 fun ks H3=>∃ kz:List (List Int),kz.length=xs.length∧kz.Nodup∧KeysAre H3 kz ks ∧
  ∀ p ys,H3 p=none→Lk .non kz xs ys→Q (.ref p) (upd H3 p (.lst ys))
def QK(T:Addr)(q:Str)(ρ : List Nat)(te tb:TE):TE:=fun σ H Q=>te σ H (aaz T q ρ σ tb Q)
theorem Oc{kz:List (List Int)}{xs:List V}{its out:List Value}(r:Vals xs its)(hz:kz.length=xs.length)(h:v8 (VF kz) its out):∃ ys,Lk .non kz xs ys∧Vals ys out:=by
 obtain⟨p,pm,sd,rfl⟩:=h
 have hl:=r.length
 rw[← hl] at pm sd
 refine⟨p.toList.map fun i=>xs.getD i .non,⟨p,pm,sd,rfl⟩,?_⟩
 have key:∀ l:List Nat,(∀ i∈l,i < xs.length)→Vals (l.map fun i=>xs.getD i .non) (l.map fun i=>its.getD i Value.none):=fun l hl'=>by
  induction l with
  | nil=>exact .nil
  | cons i t ih =>
   have hi:=hl' i List.mem_cons_self
   refine .cons ?_ (ih fun j hj=>hl' j (List.mem_cons_of_mem _ hj))
   have e1:xs[i]? = some (xs.getD i .non):=by simp[hi]
   obtain⟨u,e2,r2⟩:=r.get e1
   have:its.getD i Value.none=u:=by simp[e2]
   show RelV (xs.getD i .non) (its.getD i Value.none)
   rw[this];exact r2
 refine key _ fun i hi=>?_
 have:=(Array.perm_iff_toList_perm.mp pm.pm).mem_iff.mp hi
 simpa using this
section
variable{X:Cx}{x qual:Str}{e:Expr}{ps:Arguments}{body:Expr}{sc:Scope}{cl:List (Str×Addr)}{c T:Addr}{p pos aba acn:Pos}{k:Nat}{ρ : List Nat}{N':List Str}{te tb:TE}
theorem Rr(hg:Gl X "sorted")(hm:X.mg "sorted" = none)(he:PE X e te)(hr:j9 (k+3) X.A)(hc:X.env.code=.ref c)(C:PySem.W.CodeHd X.base c T)(hB:BM X.mg X.base)(hdef:defaultsOf ps X.env=([],[]))(hq:X.env.qual ++ "<lambda>" = qual)(hcl:closureFor sc X.env=pure cl)
 (S:Ei X x ρ N' sc cl) (hbind:∀ (pm:Value) (c':Addr) (ctv u:Value),bindArgs (PySem.W.kla_fn "<lambda>" qual ps body sc cl pm (.ref c') ctv) ⟨[u],[]⟩=pure [(x,u)])
 (hb:∀ (A:Around) (f c':Addr) (s:Shared) (H:Hp) (env:Env),j9 k (A.deeper env)→env=Gh qual sc s f c' cl→PE (cxL X A N' env s H) body tb)
 (hs:starEach [e] X.env=(false,eval e X.env)::starEach [] X.env:=by rfl) (hpl:(backTo pos (starEach [e] X.env)).any (·.1)=false:=by rfl) :
 PE X (.Call (.Name "sorted" p) [e] [⟨some "key", .Lambda ps body sc aba,acn⟩] pos) (QK T qual ρ te tb):=by
 intro pins s σ H Q I h
 have hboot:bootBuiltins "sorted" = some (.builtin "sorted"):=by kernel_rfl
 refine wpAny_Call_Name_kw (vJ I hg hm hboot ?_)
 refine callWith_kw ?_ (by rw[hs];rfl) hpl rfl rfl
 rw[hs]
 show wpAny _ _ (spliced ((false,eval e X.env)::backTo pos (starEach [] X.env))) _ _ s
 refine Calls.spliced_cons (gf (he pins s σ H _ I h) fun u s1 ⟨x1,H1,I1,r1,q1⟩=>Calls.spliced_nil ?_)
 obtain⟨a,xs,tps,rfl,h64,hT,ck,q2⟩:=q1
 cases r1
 show wpAny _ _ (evalAll ((do let v ← eval (.Lambda ps body sc aba) X.env;standAt pos;pure v)::((backToKw pos (keywordEach [] X.env)).map (·.2)))) _ _ s1
 refine wpAny_evalAll_cons (wpAny_bind (S5 I1 hc C ck hT hB hdef hq hcl fun f c' ctv pm s2 H2 tab hc' hf I2 fpf=>wpAny_bind (wpAny_standAt (wpAny_pure (wpAny_evalAll_nil ?_)))))
 obtain⟨hl2,kr⟩:=q2 H2 c' tab hc'
 show wpAny (model X.prog X.w) X.A (call (.builtin "sorted") [.ref a] [(Str.ofString "key", .ref f)]) (EP X pins σ Q) X.xe s2
 obtain⟨its,n0,rv,hz,ho⟩:=VG I2 hl2
 have hli:=rv.length
 let Fn:List V→Hp→Prop:=fun ks H3=>∃ kz:List (List Int),kz.length=xs.length∧kz.Nodup∧KeysAre H3 kz ks∧∀ p ys,H3 p=none→Lk .non kz xs ys→Q (.ref p) (upd H3 p (.lst ys))
 have flt:f < s2.heap.objs.size:=Heap.lt_size hf
 have fnt:f∉tm s2.heap.objs.size:=fun z=>by
  simp only[tm,List.mem_cons,List.not_mem_nil,or_false] at z
  have:(f:Nat) < s2.heap.objs.size:=flt
  rcases z with z|z|z|z
  ·exact absurd this (by rw[z];exact Nat.lt_irrefl _)
  ·exact absurd this (by rw[z];exact Nat.not_lt.mpr (Nat.le_add_right _ _))
  ·exact absurd this (by rw[z];exact Nat.not_lt.mpr (Nat.le_add_right _ _))
  ·exact absurd this (by rw[z];exact Nat.not_lt.mpr (Nat.le_add_right _ _))
 refine Fd (vs:=its) (J:=fun ks s3=>∃ Hc kv,Inv X pins σ Hc s3∧Vals kv ks∧s3.heap.get? f=some (PySem.W.kla_obj "<lambda>" qual ps body sc cl pm c' ctv)∧qW X pins Hc f∧(∀ b∈tm s2.heap.objs.size,qW X pins Hc b∧∃ o,s3.heap.get? b=some o) ∧
  Hc c'=some (.ext (oK c' qual))∧GR c' qual (fun v H K=>tb (oY ρ σ v) H K) (xs.drop ks.length) Hc fun ks' H3=>Fn (kv++ks') H3) ⟨_,ho,rfl,_,rfl⟩ (by omega) ?j0 ?jk ?jc ?je
 case j0 =>
  intro h' kp ex
  refine⟨H2,[],I2.kept kp,.nil,kp _ _ hf,fpf,fun b hb=>⟨I2.wW ?_ (I2.hok.fresh ?_),ex b hb⟩,hc',kr⟩
  all_goals (simp only[tm,List.mem_cons,List.not_mem_nil,or_false] at hb;rcases hb with z|z|z|z<;>rw[z]<;>first|exact Nat.le_refl _|exact Nat.le_add_right _ _)
 case jk =>
  rintro ks s3 h' ⟨Hc,kv,I3,rk,hf3,fp3,tm3,hc3,kr3⟩ kp ex
  refine⟨Hc,kv,vp (t':=s3.toks) I3 (fp:=tm s2.heap.objs.size) (fun b hb=>(tm3 b hb).1) (fun b u hb q=>kp b u hb q),rk,kp _ _ fnt hf3,fp3,fun b hb=>⟨(tm3 b hb).1,?_⟩,hc3,kr3⟩
  obtain⟨o,q⟩:=(tm3 b hb).2
  exact ex b o q
 case jc =>
  rintro i u ks s3 hu hks ⟨Hc,kv,I3,rk,hf3,fp3,tm3,hc3,kr3⟩
  obtain⟨v,hv,ruv⟩ : ∃ v,xs[i]? = some v∧RelV v u:=by
   have hi:i < xs.length:=by rw[hli];exact(List.getElem?_eq_some_iff.mp hu).1
   have e1:xs[i]? = some xs[i]:=by simp[hi]
   obtain⟨u2,e2,r2⟩:=rv.get e1
   rw[hu] at e2;cases e2
   exact⟨_,e1,r2⟩
  have hd:xs.drop ks.length=v::xs.drop (ks.length+1):=by
   obtain⟨hi,e⟩:=List.getElem?_eq_some_iff.mp hv
   rw[hks,List.drop_eq_getElem_cons hi,e]
  rw[hd] at kr3
  have hrec:s3.heap.CodeRec (.ref c') qual:=by
   obtain⟨⟨o,vs,t,e1,e2,e3⟩,_⟩:=I3.hok c' _ hc3
   exact⟨c',o,vs,t,rfl,e1,e2,e3⟩
  have hA:X.A.in1.in1.frames=some X.stack:=I3.ok.frames
  refine wpAny_mono (VM (k:=k) I3 hA hr.in1.in1 S hf3 hrec (hbind pm c' ctv u) ruv (fun env h1 h2=>hb _ f c' s3 Hc env h1 h2) kr3) (fun kk s4 hce=>?_) fun _ _ z=>z
  have ac3:=hce
  obtain⟨kvv,H4,os4,abt,un4,acu,rk4,hc4,kr4⟩:=hce
  have noF:∀ b,qW X pins Hc b→b∉frs X.stack:=fun b hb z=>by
   rcases List.mem_cons.mp (I3.Fb b z) with y|y
   ·exact hb.2.1 y
   ·exact hb.2.2.1 y
  have I4:Inv X pins σ H4 s4:=I3.call' os4 (ch:=[]) un4 acu abt (fun b z=>absurd z (by simp))
  have fpk:∀ b,qW X pins Hc b→(∃ o,s3.heap.get? b=some o)→qW X pins H4 b:=fun b hb ⟨o,q⟩=>⟨un4.free b o q hb.1 (by simp),hb.2⟩
  refine⟨⟨H4,kv++[kvv],I4,rk.append (.cons rk4 .nil),un4.keep _ _ hf3 fp3.1 (noF _ fp3) (by simp),fpk f fp3 ⟨_,hf3⟩,fun b hb=>⟨fpk b (tm3 b hb).1 (tm3 b hb).2,?_⟩,hc4,?_⟩,fun b o hb q=>un4.keep b o q (tm3 b hb).1.1 (noF _ (tm3 b hb).1) (by simp)⟩
  ·obtain⟨o,q⟩:=(tm3 b hb).2
   exact un4.there b o q (by simp)
  ·rw[List.length_append]
   simp only[List.append_assoc,List.singleton_append]
   exact kr4
 case je =>
  rintro ks s3 hks ⟨Hc,kv,I3,rk,hf3,fp3,tm3,hc3,kr3⟩
  rw[List.drop_eq_nil_of_le (by omega)] at kr3
  obtain⟨kz,hz1,nd,ka,fin⟩:=kr3
  rw[List.append_nil] at ka
  have lk:=rk.length
  have at_:∀ i,i < its.length→∃ pp o us nn,ks.getD i Value.none=.ref pp∧s3.heap.get? pp=some o∧o.cls=.type "list" ∧ o.data=.seq (List.toArray us) nn∧IntsAre us (kz.getD i []):=fun i hi=>by
   have hzi:i < kz.length:=by omega
   have e1:kz[i]? = some (kz.getD i []):=by simp[hzi]
   obtain⟨kvi,e2,pp,rfl,hp⟩:=P2.getL ka e1
   obtain⟨u,e3,r3⟩:=rk.get e2
   cases r3
   obtain⟨_,us,nn,vu,ho⟩:=I3.hok pp _ hp
   exact⟨pp,_,us,nn,by simp[e3],ho,rfl,rfl,zX vu⟩
  have hord:=Gf nd
  rw[hz1,hli] at hord
  refine⟨VF kz,hord,fun h2 Q' hq'=>?_,fun i j C hi hj hC=>?_,fun out h' cc so kp ex hD=>?_⟩
  ·refine PySem.W.kas_kind (T:=Value.type "list") (by omega) (fun v hv=>?_) (by decide) (by decide) hq'
   obtain⟨i,hi⟩:=List.getElem?_of_mem hv
   have hil:=(List.getElem?_eq_some_iff.mp hi).1
   obtain⟨pp,o,us,nn,e1,e2,e3,_⟩:=at_ i (by omega)
   have:v=.ref pp:=by
    rw[← e1];simp[hi]
   rw[this,← e3]
   exact(PySem.W.Looks.ld e2).andThen .now
  ·obtain⟨p1,o1,us1,n1,a1,a2,a3,a4,a5⟩:=at_ i hi
   obtain⟨p2,o2,us2,n2,b1,b2,b3,b4,b5⟩:=at_ j hj
   unfold PySem.W.kas_ask
   rw[a1,b1]
   exact Su a2 a3 a4 b2 b3 b4 a5 b5 (by have:=hr.un;show X.A.units+1+1 < cLine;omega) hC
  ·obtain⟨ys,sy,vy⟩:=Oc rv hz1 so
   have hD':s2.heap.objs.size+1∈tm s2.heap.objs.size:=by simp[tm]
   have ly:ys.length=xs.length:=by rw[vy.length,so.len,hli]
   have nD:Hc (s2.heap.objs.size+1)=none:=(tm3 _ hD').1.1
   refine⟨.ref (s2.heap.objs.size+1),_,adopt (t':=s3.toks) (o:=.lst ys) I3 (fun b hb=>(tm3 b hb).1) hD' (fun b u hb q=>kp b u hb q) ⟨by rw[ly];exact hz,out,cc,vy,hD⟩,rfl,fin _ ys nD sy⟩
end
end L2
namespace Mi
open PySem
def ZS:D→Option (List Str)
 | .tup ds=>Ca ds
 | .lst ds=>Ca ds
 | _=>none
def T6(x y:D):Rs D:=match y with
 | .str z=>(wg (ZS x)).bind fun ys=>aO (z∈ys∧ys.length≤1000) (.ok (.int (ys.idxOf z:Nat)))
 | _=>.no
def sE:List Int→List Int→Bool
 | [],[]=>false
 | [],_::_=>true
 | _::_,[]=>false
 | a::r,b::t=>if a == b then sE r t else decide (a < b)
def Cd:List D→Option (List Int)
 | []=>some []
 | .int i::r=>(Cd r).map (i :: ·)
 | _=>none
def Js:D→Rs (List Int)
 | .lst ds=>wg (Cd ds)
 | _=>.no
def insI(lt:Nat→Nat→Bool)(i:Nat):List Nat→List Nat
 | []=>[i]
 | j::r=>if lt i j=true then i::j::r else j::insI lt i r
def sortI(lt:Nat→Nat→Bool):List Nat→List Nat
 | []=>[]
 | i::r=>insI lt i (sortI lt r)
def yS(kz:List (List Int))(n:Nat):List Nat:=sortI (fun i j=>sE (kz.getD i []) (kz.getD j [])) (List.range n)
def sortBy(kz:List (List Int))(ds:List D):List D:=(yS kz ds.length).map fun i=>ds.getD i .non
def Gi(ρ : List Nat)(e:Env)(d:D):Env:=some (.d d) :: ρ.map fun j=>(e[j]?).join
def qC(ρ : List Nat)(kf:E)(e:Env):List D→Rs (List (List Int))
 | []=>.ok []
 | d::r=>(kf (Gi ρ e d)).bind fun k=>(Js k).bind fun z=>(qC ρ kf e r).bind fun zs=>.ok (z::zs)
def Gb(ρ : List Nat)(a kf:E):E:=fun e=>(a e).bind fun x=>(iV x).bind fun ds=>aO (ds.length < 64) ((qC ρ kf e ds).bind fun kz=>aO kz.Nodup (.ok (.lst (sortBy kz ds))))
end Mi
namespace A
open PySem L2 PyProof.Rows
open Mi (D W Rs Fin ao Out Tg)
variable[Tb:jf]
section
variable{prog:Program}{w:World}{Ar:Around}
theorem uo(x y:Str)(t u:Tok):PySem.MeetsSeq.EqGives (.str x t) (.str y u) (x.cps.toList == y.cps.toList):=PySem.SeqRoads2.EqGives.str x y t u
theorem wz{ys:List Str}{us:List Value}(r:Vals (ys.map V.str) us){i:Nat}(h:i < ys.length):∃ t,us[i]? = some (.str (ys.getD i Str.empty) t):=by
 have e:(ys.map V.str)[i]? = some (.str (ys.getD i Str.empty)):=by simp[h]
 obtain⟨u,e2,r2⟩:=r.get e
 obtain⟨t,rfl⟩:=r2
 exact⟨t,e2⟩
theorem Ip{ys:List Str}{z:Str}(h:z∈ys):ys.idxOf z < ys.length∧ys.getD (ys.idxOf z) Str.empty=z∧∀ m,m < ys.idxOf z→ys.getD m Str.empty≠z:=by
 have hl:=List.idxOf_lt_length_of_mem h
 refine⟨hl,by simp[hl],fun m hm e=>?_⟩
 have:m < ys.length:=Nat.lt_trans hm hl
 have e2:ys[m]=z:=by simpa [this] using e
 have:=List.not_of_lt_findIdx (p:=(· == z)) (xs:=ys) (i:=m) hm
 simp[e2] at this
theorem V3{E:Value→Shared→Prop}{s:Shared}{t:Addr}{us:List Value}{ys:List Str}{z:Str}{tz:Tok}{Q:Value→Shared→Prop}(ht:IsTup s.heap t us.toArray)(r:Vals (ys.map V.str) us)(hz:z∈ys)
 (h:Q (.int (ys.idxOf z:Nat) s.toks) { s with toks:=s.toks+1 }):wpAny (model prog w) Ar (call (.builtin "tuple.index") [.ref t,.str z tz]) Q E s:=by
 obtain⟨h1,h2,h3⟩:=Ip hz
 have hl:=r.length
 rw[List.length_map] at hl
 refine wpAny_call_entry PySem.F.slot_tuple_index ht.typeIs PySem.F.entry_tuple_index ?_ (PySem.F.args_tuple_index_2 _ _)
 show wpAny _ _ (Builtin.Tuple.tupleItemsOf (.ref t) >>= _) _ _ s
 refine wpAny_bind (tupleItemsOf_ ht ?_)
 refine wpAny_bind (wpAny_pure (wpAny_bind (wpAny_pure ?_)))
 dsimp only
 rw[Std.Legacy.Range.forIn_eq_forIn_range']
 have hsz:([0:min us.toArray.size us.toArray.size]:Std.Legacy.Range).size=us.length:=by simp[Std.Legacy.Range.size]
 rw[hsz]
 show wpAny _ _ (forIn (List.range' 0 us.length 1) _ _ >>= _) _ _ _
 have go:∀ (k i:Nat),ys.idxOf z=i+k→∀ (G:Option PySem.Fin×Unit→Shared→Prop),G (some (.done (.ret (.int (ys.idxOf z:Nat) s.toks))),()) { s with toks:=s.toks+1 } →
  wpAny (model prog w) Ar.in1 (forIn (List.range' i (us.length - i) 1) ((none, ()) : Option PySem.Fin × Unit) fun (i : Nat) (__s : Option PySem.Fin × Unit) => (match us.toArray[i]? with
          | some y=>do
           let b ← eqBool y (Value.str z tz)
           if b=true then do
            let r ← retInt (i:Int)
            pure (ForInStep.done (some r,()))
            else pure (ForInStep.yield (none,()))
          | x=>pure (ForInStep.yield (none,())):Sem (ForInStep (Option PySem.Fin×Unit)))) G E s:=by
  intro k
  induction k with
  | zero =>
   intro i hi G hG
   have hlt:i < us.length:=by omega
   obtain⟨t1,e1⟩:=wz r (i:=i) (by omega)
   rw[show us.length - i=(us.length - i - 1)+1 by omega,List.range'_succ,List.forIn_cons]
   have e2:us.toArray[i]? = some (.str (ys.getD i Str.empty) t1):=by simpa using e1
   rw[e2]
   have hz2:ys.getD i Str.empty=z:=by rw[← h2,hi];rfl
   rw[hz2]
   refine wpAny_bind (wpAny_bind (uo z z t1 tz prog w _ _ _ _ ?_))
   simp only[beq_self_eq_true,if_true]
   refine wpAny_bind (wpAny_bind (wpAny_mkInt (wpAny_pure (wpAny_pure ?_))))
   rw[show (i:Nat)=ys.idxOf z from hi.symm]
   exact wpAny_pure hG
  | succ k ih =>
   intro i hi G hG
   have hlt:i < us.length:=by omega
   obtain⟨t1,e1⟩:=wz r (i:=i) (by omega)
   rw[show us.length - i=(us.length - (i+1))+1 by omega,List.range'_succ,List.forIn_cons]
   have e2:us.toArray[i]? = some (.str (ys.getD i Str.empty) t1):=by simpa using e1
   rw[e2]
   have hz2:=h3 i (by omega)
   refine wpAny_bind (wpAny_bind (uo _ z t1 tz prog w _ _ _ _ ?_))
   have:((ys.getD i Str.empty).cps.toList == z.cps.toList)=false:=by
    rw[beq_eq_false_iff_ne]
    intro e
    apply hz2
    cases hq:ys.getD i Str.empty with
    | mk c=>cases z with
     | mk d =>
      rw[hq] at e
      have:c=d:=Array.toList_inj.mp e
      rw[this]
   rw[this]
   simp only[Bool.false_eq_true,if_false]
   exact wpAny_pure (ih (i+1) (by omega) G hG)
 refine wpAny_bind (go (ys.idxOf z) 0 (by omega) _ ?_)
 exact wpAny_pure ⟨_,rfl,h⟩
theorem V4{E:Value→Shared→Prop}{s:Shared}{t:Addr}{us:List Value}{ys:List Str}{z:Str}{tz:Tok}{n:Nat}{Q:Value→Shared→Prop}(ht:s.heap.get? t=some { cls:=.type "list", data:=.seq us.toArray n })(r:Vals (ys.map V.str) us)(hz:z∈ys)(hl:ys.length≤1000)
 (h:Q (.int (ys.idxOf z:Nat) s.toks) { s with toks:=s.toks+1 }):wpAny (model prog w) Ar (call (.builtin "list.index") [.ref t,.str z tz]) Q E s:=by
 obtain⟨h1,h2,h3⟩:=Ip hz
 have hlu:=r.length
 rw[List.length_map] at hlu
 let e:Value→Bool:=fun y=>match y with
  | .str a _=>a.cps.toList == z.cps.toList
  | _=>false
 have he:∀ y,y∈us.toArray→PySem.MeetsSeq.EqGives y (.str z tz) (e y):=fun y hy=>by
  obtain⟨i,hi⟩:=List.getElem?_of_mem (by simpa using hy:y∈us)
  have hil:=(List.getElem?_eq_some_iff.mp hi).1
  obtain⟨t1,e1⟩:=wz r (i:=i) (by omega)
  rw[e1] at hi;cases hi
  exact uo _ z t1 tz
 have ei:∀ i (hi:i < us.toArray.size),e us.toArray[i]=decide (ys.getD i Str.empty=z):=fun i hi=>by
  have hi':i < us.length:=by simpa using hi
  obtain⟨t1,e1⟩:=wz r (i:=i) (by omega)
  have:us.toArray[i]=.str (ys.getD i Str.empty) t1:=by
   have:=(List.getElem?_eq_some_iff.mp e1).2
   simpa using this
  rw[this]
  show ((ys.getD i Str.empty).cps.toList == z.cps.toList)=_
  by_cases q:ys.getD i Str.empty=z
  ·rw[q];simp
  ·rw[decide_eq_false q,beq_eq_false_iff_ne]
   intro y
   apply q
   cases hq:ys.getD i Str.empty with
   | mk c=>cases z with
    | mk d =>
     rw[hq] at y
     have:c=d:=Array.toList_inj.mp y
     rw[this]
 refine call_meets PySem.F.slot_list_index ⟨_,ht,rfl⟩ PySem.F.entry_list_index (PySem.F.args_list_index_2 _ _) (PySem.MeetsSeq.list_index t us.toArray n (.str z tz) e he (ys.idxOf z) (by simp;omega) (by omega) (by rw[ei];simp only[h2];simp) (fun m hm hj=>by rw[ei];simp only[h3 m hj];simp)) ⟨ht,h⟩
end
section
variable{X:Cx}{K:PySem.W.Frag}{M:Nat→Bool}{to ta tb:TE}{t:TA}{o e:Expr}{es:List Expr}{apos cpos:Pos}{a b:Mi.E}
theorem Vz:UG X "tuple.index" (fun x xs H Q=>∃ (p:Addr) (ys:List Str) (z:Str),x=.ref p∧xs=[.str z]∧z∈ys∧H p=some (.tup (ys.map V.str))∧Q (.int (ys.idxOf z:Nat)) H):=by
 intro pins s σ H x xs v us Q I rx rv h
 obtain⟨p,ys,z,rfl,rfl,hz,hp,q⟩:=h
 cases rx
 obtain⟨u,rfl,ru⟩:=vals1 rv
 obtain⟨tz,rfl⟩:=ru
 obtain⟨its,r,pt,_⟩:=I.tuple (.inl (.inl hp))
 exact V3 pt r hz ⟨.int _,H,I.tok _,⟨_,rfl⟩,q⟩
theorem VB:UG X "list.index" (fun x xs H Q=>∃ (p:Addr) (ys:List Str) (z:Str),x=.ref p∧xs=[.str z]∧z∈ys∧ys.length≤1000∧Lst H p (ys.map V.str)∧Q (.int (ys.idxOf z:Nat)) H):=by
 intro pins s σ H x xs v us Q I rx rv h
 obtain⟨p,ys,z,rfl,rfl,hz,hl,hp,q⟩:=h
 cases rx
 obtain⟨u,rfl,ru⟩:=vals1 rv
 obtain⟨tz,rfl⟩:=ru
 obtain⟨its,n,r,_,ho⟩:=VG I hp
 exact V4 ho r hz hl ⟨.int _,H,I.tok _,⟨_,rfl⟩,q⟩
def aav(K:PySem.W.Frag)(T2:String)(r1 r2:V→List V→Hp→VK→Prop)(to:TE)(t:TA):TE:=fun σ H Q=>to σ H fun x H1=>((∃ p xs,x=V.ref p∧H1 p=some (.tup xs))∧t σ H1 fun xs H2=>r1 x xs H2 Q)∨(tyV K T2 x H1∧t σ H1 fun xs H2=>r2 x xs H2 Q)
theorem Yu{T2 id1 id2:String}{r1 r2:V→List V→Hp→VK→Prop}{name:Str}(pa1:PlainAttrs "tuple")(slot1:Slot "tuple" name id1)(acs:typeOf (.builtin id1)=pure (.type "method_descriptor"))(hm1:UG X id1 r1)
 (pa2:PlainAttrs T2) (aaA:Slot T2 name id2) (acr:typeOf (.builtin id2)=pure (.type "method_descriptor")) (hm2:UG X id2 r2) (ho:PE X o to) (ha:PA X (e::es) t)
 (hbase:attributeBase o name X.env (eval o X.env)=eval o X.env:=by rfl)
 (hfew:((backTo cpos (starEach (e::es) X.env)).all (fun x=>!x.1) && (backToKw cpos (keywordEach [] X.env)).all (fun x=>x.1.isSome)
  && decide ((e::es).length+([]:List Keyword).length+(if ([]:List Keyword).isEmpty then 0 else 1) < 30))=true:=by rfl)
 (hline:(apos.endLine == cpos.line)=true:=by rfl) (hs:starEach (e::es) X.env=(false,eval e X.env)::starEach es X.env:=by rfl) (hplain:(backTo cpos (starEach es X.env)).any (·.1)=false:=by rfl) :
 PE X (.Call (.Attribute o name apos) (e::es) [] cpos) (aav X.K T2 r1 r2 to t):=by
 intro pins s σ H Q I h
 refine wpAny_Call_method_late hbase hfew hline rfl (gf (ho pins s σ H _ I h) fun v s1 ⟨x,H1,I1,rx,q⟩=>?_)
 rcases q with ⟨ty,q1⟩|⟨ty,q1⟩
 ·obtain⟨p,xs,rfl,hp⟩:=ty
  cases rx
  have h12:s1.TypeIs (.ref p) "tuple" ∧ ∀ a,Value.ref p=.ref a→∃ ob,s1.heap.get? a=some ob∧ob.dict=none:=by
   obtain⟨_,its,_,ob,e1,e2,e3,_⟩:=(show di X.prog X.w H1 s1.heap p (.tup xs) from I1.hok p _ hp)
   exact⟨⟨ob,e1,e2⟩,fun a z=>by cases z;exact⟨ob,e1,e3⟩⟩
  obtain⟨h1,h2⟩:=h12
  have rx:RelV (.ref p) (Value.ref p):=rfl
  refine⟨"tuple", id1,pa1,slot1,acs,h1,h2,?_⟩
  have hA:=ha cpos pins s1 σ H1 _ I1 q1
  rw[hs] at hA ⊢
  refine Calls.callWith_builtin (by show (false || (backTo cpos (starEach es X.env)).any (·.1))=false;rw[hplain]<;>rfl) (Calls.evalArgs_plain ?_)
  exact gf hA fun us s2 ⟨vs,H2,I2,r2',q2⟩=>hm1 pins s2 σ H2 _ vs _ us Q I2 rx r2' q2
 ·obtain⟨h1,h2⟩:=JQ I1 rx ty
  refine⟨T2,id2,pa2,aaA,acr,h1,h2,?_⟩
  have hA:=ha cpos pins s1 σ H1 _ I1 q1
  rw[hs] at hA ⊢
  refine Calls.callWith_builtin (by show (false || (backTo cpos (starEach es X.env)).any (·.1))=false;rw[hplain]<;>rfl) (Calls.evalArgs_plain ?_)
  exact gf hA fun us s2 ⟨vs,H2,I2,r2',q2⟩=>hm2 pins s2 σ H2 x vs v us Q I2 rx r2' q2
end
end A
namespace So
open PySem
theorem Gg:∀ a b:List Int,jL a b=Mi.sE a b
 | [],[]=>rfl
 | [],_::_=>rfl
 | _::_,[]=>rfl
 | a::r,b::t=>by rw[jL,Mi.sE,Gg r t]
theorem Bs(lt:Nat→Nat→Bool)(i:Nat):∀ l:List Nat,(Mi.insI lt i l).Perm (i::l)
 | []=>List.Perm.refl _
 | j::r=>by
  unfold Mi.insI
  split
  ·exact List.Perm.refl _
  ·exact((Bs lt i r).cons j).trans (List.Perm.swap i j r)
theorem p6(lt:Nat→Nat→Bool):∀ l:List Nat,(Mi.sortI lt l).Perm l
 | []=>List.Perm.refl _
 | i::r=>(Bs lt i _).trans ((p6 lt r).cons i)
section
variable{n:Nat}{lt:Nat→Nat→Bool}(O:Ord n lt)
include O
theorem Br{i:Nat}(hi:i < n):∀ {l:List Nat},(∀ x∈l,x < n)→i∉l→l.Pairwise (fun a b=>lt a b=true)→(Mi.insI lt i l).Pairwise (fun a b=>lt a b=true)
 | [],_,_,_=>List.pairwise_singleton _ _
 | j::r,hl,hn,hp=>by
  have hp':=List.pairwise_cons.mp hp
  have hj:=hl j List.mem_cons_self
  unfold Mi.insI
  split
  ·rename_i h
   refine List.pairwise_cons.mpr ⟨fun x hx=>?_,hp⟩
   rcases List.mem_cons.mp hx with rfl|hx
   ·exact h
   ·exact O.tr _ _ _ hi hj (hl x (List.mem_cons_of_mem _ hx)) h (hp'.1 x hx)
  ·rename_i h
   have hji:lt j i=true:=(O.tot i j hi hj fun z=>hn (by rw[z];exact List.mem_cons_self)).resolve_left h
   refine List.pairwise_cons.mpr ⟨fun x hx=>?_,Br hi (fun x hx=>hl x (List.mem_cons_of_mem _ hx)) (fun z=>hn (List.mem_cons_of_mem _ z)) hp'.2⟩
   rcases List.mem_cons.mp ((Bs lt i r).mem_iff.mp hx) with rfl|hx
   ·exact hji
   ·exact hp'.1 x hx
theorem sS:∀ {l:List Nat},(∀ x∈l,x < n)→l.Nodup→(Mi.sortI lt l).Pairwise (fun a b=>lt a b=true)
 | [],_,_=>.nil
 | i::r,hl,nd=>by
  have nd:=List.nodup_cons.mp nd
  have hr:∀ x∈r,x < n:=fun x hx=>hl x (List.mem_cons_of_mem _ hx)
  exact Br O (hl i List.mem_cons_self) (fun x hx=>hr x ((p6 lt r).mem_iff.mp hx)) (fun z=>nd.1 ((p6 lt r).mem_iff.mp z)) (sS hr nd.2)
theorem HJ:∀ {a b:List Nat},(∀ x∈a,x < n)→a.Perm b→a.Pairwise (fun x y=>lt x y=true)→b.Pairwise (fun x y=>lt x y=true)→a=b
 | [],b,_,p,_,_=>p.nil_eq
 | x::r,b,hl,p,ha,hb=>by
  cases b with
  | nil=>exact absurd p.length_eq (by simp)
  | cons y t =>
   have hx:x∈y::t:=p.mem_iff.mp List.mem_cons_self
   have hy:y∈x::r:=p.mem_iff.mpr List.mem_cons_self
   have e:x=y:=by
    rcases List.mem_cons.mp hx with h|h
    ·exact h
    ·rcases List.mem_cons.mp hy with h'|h'
     ·exact h'.symm
     ·have a1:=(List.pairwise_cons.mp ha).1 y h'
      have a2:=(List.pairwise_cons.mp hb).1 x h
      rw[O.asy _ _ (hl x List.mem_cons_self) (hl y hy) a1] at a2;cases a2
   subst e
   rw[HJ (fun z hz=>hl z (List.mem_cons_of_mem _ hz)) (List.Perm.cons_inv p) (List.pairwise_cons.mp ha).2 (List.pairwise_cons.mp hb).2]
end
theorem Vs{kz:List (List Int)}(nd:kz.Nodup){p:Array Nat}(pm:Pm kz.length p)(sd:Sd (VF kz) p kz.length):p.toList=Mi.yS kz kz.length:=by
 have O:=Gf nd
 have e:Mi.yS kz kz.length=Mi.sortI (VF kz) (List.range kz.length):=by
  unfold Mi.yS VF
  congr 1
  funext i j
  exact(Gg _ _).symm
 have hp:p.toList.Perm (List.range kz.length):=by have:=Array.perm_iff_toList_perm.mp pm.pm;simpa using this
 have hb:∀ x∈p.toList,x < kz.length:=fun x hx=>by simpa using hp.mem_iff.mp hx
 rw[e]
 refine HJ O hb (hp.trans (p6 _ _).symm) ?_ (sS O (fun x hx=>by simpa using hx) List.nodup_range)
 rw[List.pairwise_iff_getElem]
 intro i j hi hj hij
 have hi':i < p.size:=by simpa using hi
 have hj':j < p.size:=by simpa using hj
 have:=sd i j hij (by rw[← pm.size];exact hj')
 rw[Jq hi',Jq hj'] at this
 simpa using this
end So
namespace A
open PySem L2 PyProof.Rows So
open Mi (D W Rs Fin ao Out Tg)
variable[Tb:jf]
theorem QG{T:Addr}{q:Str}{H H' Hv:Hp}(v:Vw H Hv)(t:Tab T q H H'):dC H Hv H' Hv:=by
 rcases t with rfl|⟨ps,ps',c,hT,hc,ne,rfl,ck⟩
 ·exact .refl v
 ·have get:∀ {a o},H a=some o→NT o→upd (upd H T (.tbl q ps')) c (.ext (oK c q)) a=some o:=fun {a o} e n=>by
   rw[aM (bf e hc),aM (fun z=>by rw[z,hT] at e;cases e;exact n)];exact e
  have back:∀ {a o},upd (upd H T (.tbl q ps')) c (.ext (oK c q)) a=some o→(∀ w ps,o≠.tbl w ps)→(∀ φ,o≠.ext φ)→H a=some o:=fun {a o} e n1 n2=>by
   by_cases z:a=c
   ·subst z;rw[bc] at e;cases e;exact absurd rfl (n2 _)
   ·rw[aM z] at e
    by_cases z2:a=T
    ·subst z2;rw[bc] at e;cases e;exact absurd rfl (n1 _ _)
    ·rw[aM z2] at e;exact e
  refine⟨⟨fun a o e n=>get e n,fun a e=>?_,fun a w p0 e=>?_⟩,jg.refl _,⟨fun a o e=>get (v.sub a o e) (v.nv a o e),fun a xs e=>v.tup a xs (back e (fun _ _ z=>by cases z) (fun _ z=>by cases z)),fun a o u e=>v.frz a o u (back e (fun _ _ z=>by cases z) (fun _ z=>by cases z)),ck,v.nv⟩,fun _ _ _ n=>n⟩
  ·by_cases z:a=c
   ·subst z;exact hc
   ·rw[aM z] at e
    by_cases z2:a=T
    ·subst z2;rw[bc] at e;cases e
    ·rw[aM z2] at e;exact e
  ·by_cases z2:a=T
   ·subst z2
    rw[hT] at e;cases e
    exact⟨ps',by rw[aM (Ne.symm ne),bc]⟩
   ·exact⟨p0,by rw[aM (bf e hc),aM z2];exact e⟩
theorem Ny{Hv:Hp}:∀ {ds:List D} {xs:List V} {bs:List Int},Mi.Cd ds=some bs→P2 (Rep Hv) ds xs→xs=bs.map V.int
 | [],_,bs,e,r=>by cases e;cases r;rfl
 | .int b::ds,_,bs,e,r=>by
  cases r with
  | cons x t =>
   cases hb:Mi.Cd ds with
   | none=>rw[Mi.Cd,hb] at e;cases e
   | some cs =>
    rw[Mi.Cd,hb] at e
    cases e
    rw[Ny hb t,rA.mp x];rfl
section
variable{X:Cx}{K:PySem.W.Frag}{M:Nat→Bool}{te tb ta:TE}{a b kf:Mi.E}{T:Addr}{q:Str}{ρ : List Nat}
theorem YZ{e:Mi.Env}{σ : L2.St}{H Hv:Hp}(I:R0 M e σ H Hv)(hM:∀ j∈ρ,M j=false){d:D}{v:V}(r:Rep Hv d v):R0 (fun _=>false) (Mi.Gi ρ e d) (oY ρ σ v) H Hv:=by
 refine⟨I.vw,by simp[Mi.Gi,oY],fun i w h _=>?_,fun i w h m=>by cases m⟩
 cases i with
 | zero =>
  have:W.d d=w:=by simpa [Mi.Gi] using h
  subst this
  exact⟨v,rfl,r⟩
 | succ i =>
  have h:(ρ.map fun j=>(e[j]?).join)[i]? = some (some w):=by simpa [Mi.Gi] using h
  rw[List.getElem?_map] at h
  obtain⟨j,hj,e2⟩:=Option.map_eq_some_iff.mp h
  have e3:e[j]? = some (some w):=by
   cases z:e[j]? with
   | none=>rw[z] at e2;cases e2
   | some y=>rw[z] at e2;exact congrArg some e2
  obtain⟨u,hu,ru⟩:=I.nob j w e3 (hM j (List.mem_of_getElem? hj))
  exact⟨u,by simp[oY,List.getElem?_map,hj,hu],ru⟩
theorem MT{c':Addr}(hk:AE (fun _=>false) qN tb kf)(hM:∀ j∈ρ,M j=false){e:Mi.Env}{σ : L2.St}:∀ {ds:List D} {xs:List V} {kz:List (List Int)} {H Hv:Hp} {R:List V→Hp→Prop},R0 M e σ H Hv→P2 (Rep Hv) ds xs→H c'=some (.ext (oK c' q))→Mi.qC ρ kf e ds=.ok kz →
 (∀ ks H3 Hv3,dC H Hv H3 Hv3→KeysAre H3 kz ks→R ks H3)→GR c' q (fun v H K=>tb (oY ρ σ v) H K) xs H R
 | [],_,kz,H,Hv,R,I,.nil,_,hz,h=>by
  have:kz=[]:=by rw[Mi.qC] at hz;cases hz;rfl
  subst this
  exact h [] H Hv (.refl I.vw) .nil
 | d::ds,_,kz,H,Hv,R,I,.cons (b:=v) (m:=xs) r t,hc,hz,h=>by
  rw[Mi.qC] at hz
  show tb (oY ρ σ v) H _
  cases hkd:kf (Mi.Gi ρ e d) with
  | no=>rw[hkd] at hz;cases hz
  | ex z=>rw[hkd] at hz;cases hz
  | ok kd =>
   rw[hkd,Mi.aA] at hz
   cases kd with
   | lst es =>
    cases hes:Mi.Cd es with
    | none=>rw[show Mi.Js (.lst es)=.no from by show Mi.wg (Mi.Cd es)=_;rw[hes];rfl] at hz;cases hz
    | some z =>
     rw[show Mi.Js (.lst es)=.ok z from by show Mi.wg (Mi.Cd es)=_;rw[hes];rfl,Mi.aA] at hz
     cases hzs:Mi.qC ρ kf e ds with
     | no=>rw[hzs] at hz;cases hz
     | ex y=>rw[hzs] at hz;cases hz
     | ok zs =>
      rw[hzs] at hz
      have hz:kz=z::zs:=by cases hz;rfl
      subst hz
      refine hk _ _ H Hv _ (YZ I hM r) ?_
      rw[hkd]
      intro kv H1 Hv1 g1 kq
      obtain⟨p,o,rfl,n0,hp,nv,ci⟩:=kq
      cases o with
      | lst vs =>
       have hv:vs=z.map V.int:=Ny hes ci
       subst hv
       refine⟨g1.old.at hc,MT hk hM (I.grow g1) (dW g1.vis t) (g1.old.at hc) hzs fun ks H3 Hv3 g3 ka=>h _ H3 Hv3 (g1.trans g3) (.cons ⟨p,rfl,g3.old.at hp⟩ ka)⟩
      | _=>exact ci.elim
   | _=>cases hz
theorem Mp{F:D→V→Prop}{ds:List D}{xs:List V}(h:P2 F ds xs):∀ l:List Nat,(∀ i∈l,i < ds.length)→P2 F (l.map fun i=>ds.getD i .non) (l.map fun i=>xs.getD i .non)
 | [],_=>.nil
 | i::r,hl=>by
  have hi:=hl i List.mem_cons_self
  have e1:ds[i]? = some (ds.getD i .non):=by simp[hi]
  obtain⟨y,e2,f⟩:=h.getL e1
  have:xs.getD i .non=y:=by simp[e2]
  refine .cons ?_ (Mp h r fun j hj=>hl j (List.mem_cons_of_mem _ hj))
  show F (ds.getD i .non) (xs.getD i .non)
  rw[this];exact f
theorem Wt(hT:(T,q)∈Tb.l)(hM:∀ j∈ρ,M j=false)(ha:AE M qP te a)(hk:AE (fun _=>false) qN tb kf):AE M qN (QK T q ρ te tb) (Mi.Gb ρ a kf):=fun e σ H Hv Q I h =>
 ha e σ H Hv _ I ((ao.mp h).mono fun x hx v H1 Hv1 g1 rx=>by
  cases x with
  | lst ds =>
   obtain⟨h64,hx⟩:=Mi.bx (show Fin (Mi.aO (ds.length < 64) _) _ from hx)
   obtain⟨kz,hkz,hx⟩:=nC (ao.mp hx)
   obtain⟨nd,hx⟩:=Mi.bx hx
   have hx:=Mi.jX hx
   obtain⟨p,xs,rfl,l,r⟩:=RD.lst g1.vw rx
   have lx:=r.len
   have I1:=I.grow g1
   obtain⟨tps,ht⟩:=g1.vw.cd.has _ hT
   refine⟨p,xs,tps,rfl,by omega,ht,g1.vw.cd,fun H2 c' tab hc'=>?_⟩
   have g2:=QG g1.vw tab
   refine⟨l.old g2.old,MT hk hM (I1.grow g2) r hc' hkz fun ks H3 Hv3 g3 ka=>?_⟩
   have lk:kz.length=ds.length:=by
    have:∀ (ds:List D) (kz:List (List Int)),Mi.qC ρ kf e ds=.ok kz→kz.length=ds.length:=fun ds=>by
     induction ds with
     | nil=>intro kz h;rw[Mi.qC] at h;cases h;rfl
     | cons d ds ih =>
      intro kz h
      rw[Mi.qC] at h
      cases h1:kf (Mi.Gi ρ e d) with
      | no=>rw[h1] at h;cases h
      | ex z=>rw[h1] at h;cases h
      | ok kd =>
       rw[h1,Mi.aA] at h
       cases h2:Mi.Js kd with
       | no=>rw[h2] at h;cases h
       | ex z=>rw[h2] at h;cases h
       | ok z =>
        rw[h2,Mi.aA] at h
        cases h3:Mi.qC ρ kf e ds with
        | no=>rw[h3] at h;cases h
        | ex y=>rw[h3] at h;cases h
        | ok zs=>rw[h3] at h;cases h;rw[List.length_cons,List.length_cons,ih zs h3]
    exact this ds kz hkz
   refine⟨kz,by omega,nd,ka,fun p2 ys hp2 so=>?_⟩
   obtain⟨pa,pm,sd,rfl⟩:=so
   have e0:pa.toList=Mi.yS kz ds.length:=by
    rw[← lk]
    exact Vs nd (by rw[lk,lx];exact pm) (by rw[lk,lx];exact sd)
   have rr:P2 (Rep Hv3) (Mi.sortBy kz ds) (pa.toList.map fun i=>xs.getD i .non):=by
    unfold Mi.sortBy
    rw[← e0]
    refine Mp (dW (g2.vis.trans g3.vis) r) _ fun i hi=>?_
    have:=(Array.perm_iff_toList_perm.mp pm.pm).mem_iff.mp hi
    rw[lx];simpa using this
   obtain⟨g4,kk⟩:=Kq g3.vw rr hp2
   have gg:=g1.trans (g2.trans (g3.trans g4))
   exact hx _ _ _ gg (KM.mono (κ:=qN) (g1.old.trans (g2.old.trans g3.old)) kk)
  | _=>exact hx.elim)
end
end A
namespace L2
open PySem PySem.Spec PyProof.Rows A So
structure Uy(K:PySem.W.Frag)(x qual:Str)(st:Stmt)(c f:Addr)(fd:FuncData):Prop where
 ex:∃ (oc:Value) (od:Option Addr) (kV doc pm:Value) (an:Option Addr) (ct:Value) (osl:Array (Option Value)),
  fd=PySem.W.fnOf x qual (nY st) (jG st) (bj st) .none kV doc pm an (.ref c) ct∧K.lookup f=some ⟨oc,od,.func fd,osl⟩∧PySem.W.codeIn K (.ref c) qual=true
section
variable{P:Program}{w:World}{K:PySem.W.Frag}{mg:Str→Option Value}{base:Heap}
theorem Uy.ok{x qual:Str}{st:Stmt}{c f:Addr}{fd:FuncData}{N ps:List Str}{k:Nat}{sp:Sp}(F:Uy K x qual st c f fd)(S:cH N ps (bj st))(len:∀ vs H Q E,sp vs H Q E→vs.length=ps.length)
 (hbody:∀ (A:Around) (outer:List Env) (s:Shared) (H:Hp) (vs:List V) (Q:VK) (E:XK),j9 k (A.deeper (envOfC qual (bj st) s.heap.objs.size f (.ref c)))→sp vs H Q E →
  ∃ t,G6 (nZ gQ P w K mg base N qual (bj st) f (.ref c) A outer s H E).Z9 (jG st) t∧t { nx:=fun _ H'=>Q .non H',rt:=Q } (start N vs) H):eY P w K mg base gQ (k+1) f fd ps sp:=by
 obtain⟨oc,od,kV,doc,pm,an,ct,osl,rfl,lk,hcd⟩:=F.ex
 refine Tu lk hcd S len fun A outer s H vs Q E hr hsp=>?_
 obtain⟨t,h,q⟩:=hbody A outer s H vs Q E hr hsp
 exact⟨t,h.Z9,q⟩
end
structure Ww(K:PySem.W.Frag)(mg:Str→Option Value)(x:Str)(st:Stmt)(ps:List Str)(c:Addr):Prop where
 ex:∃ (f:Addr) (fd:FuncData),mg x=some (.ref f)∧PySem.W.keepIn K (.ref f)=true∧Binds K fd ps []∧Uy K x x st c f fd
theorem V9{K:PySem.W.Frag}{h:Heap}{mg:Str→Option Value}{x:Str}{st:Stmt}{ps:List Str}{f c:Addr}{oc:Value}{od an:Option Addr}{osl:Array (Option Value)}{kV doc pm ct:Value}(X:K.In h)(G:h.Ns mainGlobals mg)
 (hb:∀ (kV doc pm:Value) (an:Option Addr) (cdv ct:Value) (us:List Value),us.length=ps.length→bindArgs (PySem.W.fnOf x x (nY st) (jG st) (bj st) .none kV doc pm an cdv ct) ⟨us,[]⟩=pure (ps.zip us))
 (a:PySem.W.nsIn K mainGlobals x=some (some (.ref f))) (l:K.lookup f=some ⟨oc,od,.func (PySem.W.fnOf x x (nY st) (jG st) (bj st) .none kV doc pm an (.ref c) ct),osl⟩)
 (cc:PySem.W.codeIn K (.ref c) x=true) (k:PySem.W.keepIn K (.ref f)=true):Ww K mg x st ps c:=by
 have F:=Tt (st:=st) l cc k
 exact⟨f,_,PySem.W.mg_of X G a,k,F.binds hb,⟨oc,od,kV,doc,pm,an,ct,osl,rfl,l,cc⟩⟩
theorem Ww.cal{P:Program}{w:World}{K:PySem.W.Frag}{mg:Str→Option Value}{base:Heap}{CX:G4}{k:Nat}{x:Str}{st:Stmt}{ps:List Str}{c:Addr}{sp:Sp}(F:Ww K mg x st ps c)(h:∀ f fd,Uy K x x st c f fd→eY P w K mg base CX k f fd ps sp) :
 pQ P w K mg base CX k x ps sp:=by
 obtain⟨f,fd,h1,h2,h3,h4⟩:=F.ex
 exact⟨f,fd,h1,h2,h3,h f fd h4⟩
theorem Ei.one{X:Cx}{x y:Str}{j:Nat}{sc:Scope}{c:Addr}(hn:sc.names=[(x,.local),(y,.free)])(hxy:(y == x)=false)(hk:sc.kind=.function)(co:sc.isCoroutine=false)(gen:sc.isGenerator=false)(hc:X.env.cells=[(y,c)])(hN:X.N[j]? = some y)(hy:X.env.kindOf y=some .cell) :
 Ei X x [j] [x,y] sc [(y,c)]:=by
 have hl:sc.names.lookup y=some .free:=by
  rw[hn,List.lookup,hxy]
  show List.lookup y [(y,NameKind.free)]=_
  rw[List.lookup,beq_self_eq_true]
 refine⟨hk,co,gen,fun z hz=>?_,by rw[hn,List.lookup,beq_self_eq_true],fun z d h=>by rw[hc];exact h,fun z h=>?_,[y],rfl,rfl,fun i k z h1 h2=>?_⟩
 ·rw[hn] at hz
  rcases List.mem_cons.mp hz with rfl|hz
  ·exact fun q=>by cases q
  ·rw[List.mem_singleton.mp hz];exact fun q=>by cases q
 ·rw[hn,List.lookup] at h
  split at h
  ·cases h
  ·rw[List.lookup] at h
   split at h
   ·rename_i q
    exact⟨c,by rw[List.lookup,q]⟩
   ·cases h
 ·cases i with
  | zero =>
   have e1:j=k:=by simpa using h1
   have e2:y=z:=by simpa using h2
   subst e1 e2
   exact⟨hN,hl,.inl hy⟩
  | succ i=>simp at h1
section
variable[Tb:jf]
theorem O7{P:Program}{w:World}{K:PySem.W.Frag}{mg mb:Str→Option Value}{k:Nat}{fa a c T:Addr}{q:Str}{fd:FuncData}{x:Str}{s₁:Shared}{vs:List Value}{ns:List Int}(hTb:Tb.l=[(T,q)])
 (KX:K.In s₁.heap) (hns:s₁.heap.Ns mainGlobals mg) (hb:s₁.heap.Ns builtinsNs mb) (hbb:∀ x:Str,x ≠ "__name__" → mb x=bootBuiltins x) (hlim:s₁.heap.NoLimit) (hg:s₁.gens = #[])
 (ha:s₁.heap.get? a=some { cls:=.type "list", data:=.seq vs.toArray }) (hi:IntsAre vs ns) (hl:ns.length≤63) (hr:j9 k callerA)
 (hKa:K.lookup a=none) (hKT:K.lookup T=none) (C:PySem.W.CodeHd s₁.heap c T) (hT:s₁.heap.get? T=some (PySem.W.tabObj #[])) (hB:BM mg s₁.heap)
 (F:∀ base:Heap,K.In base→base.Ns mainGlobals mg→BM mg base→PySem.W.CodeHd base c T→eY P w K mg base gQ k fa fd [x] Hm) (hbind:∀ (s:Shared) (u:Value),BindsTo s fd ⟨[u],[]⟩ [(x,u)]) :
 codeAny (model P w) callerA (.call (.ref fa) ⟨[.ref a],[]⟩) (fun r s'=>r=.ok (.ret (.bool true))∧OldK s₁.heap s'.heap∧s'.os=s₁.os∧AllBare s'.gens) s₁:=by
 have rv:=Dg hi
 have lenV:=hi.length
 have aT:a≠T:=fun z=>by rw[z,hT] at ha;cases ha
 let H:Hp:=fun b=>if b=a then some (.frz { cls:=.type "list", data:=.seq vs.toArray } (.lst (ns.map V.int))) else if b=T then some (.tbl q #[]) else none
 have Ha:H a=some (.frz { cls:=.type "list", data:=.seq vs.toArray } (.lst (ns.map V.int))):=if_pos rfl
 have HT:H T=some (.tbl q #[]):=by show (if T=a then _ else _)=_;rw[if_neg (Ne.symm aT),if_pos rfl]
 have Hn:∀ b,b≠a→b≠T→H b=none:=fun b h1 h2=>by show (if b=a then _ else _)=_;rw[if_neg h1,if_neg h2]
 have Hd:∀ {b u},H b=some u→(b=a∧u=.frz { cls:=.type "list", data:=.seq vs.toArray } (.lst (ns.map V.int)))∨(b=T∧u=.tbl q #[]):=fun {b u} e=>by
  by_cases h1:b=a
  ·subst h1;rw[Ha] at e;cases e;exact .inl ⟨rfl,rfl⟩
  ·by_cases h2:b=T
   ·subst h2;rw[HT] at e;cases e;exact .inr ⟨rfl,rfl⟩
   ·rw[Hn b h1 h2] at e;cases e
 have hok:qX P w H s₁.heap:=fun b u e=>by
  rcases Hd e with ⟨rfl,rfl⟩|⟨rfl,rfl⟩
  ·exact⟨ha,by rw[List.length_map,sizeLine_eq];omega,vs,_,rv,ha⟩
  ·exact hT
 have free:∀ {b:Addr} {o:Obj},s₁.heap.get? b=some o→o.cls≠.type "list" → o≠PySem.W.tabObj #[]→H b=none:=fun {b o} e h1 h2=>by
  refine Hn b (fun z=>?_) fun z=>?_
  ·rw[z,ha] at e;cases e;exact h1 rfl
  ·rw[z,hT] at e;cases e;exact h2 rfl
 have zJ:∀ {b:Addr} {o:Obj},s₁.heap.get? b=some o→H b=none→(Bt s₁.heap H).get? b=some o:=fun e n=>Ti e n
 have nsK:∀ {b:Addr} {m:Str→Option Value},s₁.heap.Ns b m→(Bt s₁.heap H).Ns b m:=fun {b m} ⟨o,es,ep,e,d,r⟩=>⟨o,es,ep,zJ e (Hn b (fun z=>by rw[z,ha] at e;cases e;cases d) fun z=>by rw[z,hT] at e;cases e;cases d),d,r⟩
 have hKb:K.In (Bt s₁.heap H):=fun b o e=>zJ (KX b o e) (Hn b (fun z=>by rw[z,hKa] at e;cases e) fun z=>by rw[z,hKT] at e;cases e)
 have hM:Mod K mg (Bt s₁.heap H):=⟨hKb,nsK hns,⟨mb,nsK hb,hbb⟩,let ⟨mc,h1,h2⟩:=hlim;⟨mc,nsK h1,h2⟩⟩
 have e0:Qj P w K mg (Bt s₁.heap H) callerA [] s₁ H:=⟨rfl,hM,fun b o e=>Vx e,Nat.le_of_eq (Ph _ _),trivial,fun b hb=>absurd (show b∈([]:List Addr) from hb) (by simp),hok,.of_eq hg⟩
 have hB':BM mg (Bt s₁.heap H):=by
  obtain⟨bm,bo,b1,b2,b3,b4,b5,b6,b7⟩:=hB
  exact⟨bm,bo,b1,b2,b3,zJ b4 (free b4 (by rw[b5];decide) (fun z=>by rw[z] at b5;cases b5)),b5,b6,b7⟩
 have C':PySem.W.CodeHd (Bt s₁.heap H) c T:=by
  obtain⟨o,vs2,file,tf,flags,tg,inF,text,tt,e,h1,r⟩:=C
  exact⟨o,vs2,file,tf,flags,tg,inF,text,tt,zJ e (free e (by rw[h1];decide) (fun z=>by rw[z] at h1;cases h1)),h1,r⟩
 have ck:kj H:=⟨fun r hr=>by
  rw[hTb] at hr
  obtain rfl:r=(T,q):=by simpa using hr
  exact⟨#[],HT⟩,fun T2 q2 ps e=>by
  rcases Hd e with ⟨_,z⟩|⟨_,z⟩
  ·cases z
  ·cases z;exact⟨trivial,fun pos v hv=>by cases hv⟩⟩
 refine codeAny_mono ((F _ hKb (nsK hns) hB' C').run callerA [] s₁ H ⟨[.ref a],[]⟩ [.ref a] [.ref a] (fun v _=>v=.bl true) (fun _ _ _=>False) hr e0 (hbind s₁ (.ref a)) (.cons rfl .nil) ⟨a,ns,rfl,.inr ⟨_,Ha⟩,hl,ck,fun _=>rfl⟩) fun r s' h=>?_
 cases r with
 | error e=>exact h.elim
 | ok fl =>
  cases fl with
  | next=>exact False.elim h
  | brk=>exact False.elim h
  | cont=>exact False.elim h
  | ret u =>
   obtain⟨v,H',os,bare,un,hok',r',q'⟩:=h
   have q':v=.bl true:=q'
   subst q'
   obtain rfl:u=Value.bool true:=r'
   have old:∀ b o,s₁.heap.get? b=some o→asItWas s₁.heap s'.heap b o:=fun b o e=>by
    by_cases h1:b=a
    ·subst h1
     have z2:=un.ye b _ _ Ha
     obtain⟨e2,_⟩:=hok' b _ z2
     rw[ha] at e;cases e
     exact .inl e2
    ·by_cases h2:b=T
     ·subst h2
      obtain⟨more,z2⟩:=un.xK b _ _ HT
      have e2:s'.heap.get? b=some (PySem.W.tabObj (#[]++more)):=hok' b _ z2
      rw[hT] at e;cases e
      obtain⟨oc,vs2,_,_,_,_,_,_,_,f1,f2,f3,f4,_⟩:=C
      exact .inr (.inl ⟨⟨c,oc,vs2,f1,f2,f3,f4⟩,rfl,#[],more,rfl,e2⟩)
     ·exact .inl (un.keep b o e (Hn b h1 h2) (by intro z;exact absurd (show b∈([]:List Addr) from z) (by simp)) (by simp))
   exact⟨rfl,⟨old,fun b o e=>un.there b o e (by simp)⟩,os,bare⟩
theorem Qx{l:PySem.W.OpenLaw}{k:Nat}{q:Program}{loose:List Str}{XP:(Str→Option Value)→Heap→Prop}{YP:World→Heap→Prop}{d:DefRec}{K:Params→PySem.W.Frag}{x dn:Str}{c T:Addr}{qn:Str}(hTb:Tb.l=[(T,qn)])
 (hn:l.most=some 63) (hdf:d.params.defaults=[]) (hr:j9 k callerA)
 (hY:∀ (w:World) (h:Heap),YP w h→(K w.params).In h) (hL:∀ w:World,∀ a o,(K w.params).lookup a=some o→o.cls≠.type "list") (hK:∀ w:World,(K w.params).lookup T=none)
 (hrec:∃ d,(recsOf q).find? (fun e=>e.name == dn)=some d) (htab:∀ w:World,PySem.W.tabIn (K w.params) dn=some (c,T))
 (F:∀ (w:World) (mg:Str→Option Value) (fa:Addr) (h:Heap),(K w.params).In h→h.Ns mainGlobals mg→mg d.name=some (.ref fa) →
  ∃ fd:FuncData,(∀ (s:Shared) (u:Value),BindsTo s fd ⟨[u],[]⟩ [(x,u)]) ∧
   ∀ base:Heap,(K w.params).In base→base.Ns mainGlobals mg→BM mg base→PySem.W.CodeHd base c T→eY l.prog w (K w.params) mg base gQ k fa fd [x] Hm) :
 PySem.W.WalkO q loose XP YP l.row.toRowW d [] (fun f vs=>PySem.call f vs):=by
 refine Att.Jm hn hdf fun w s₀ s₁ mg mb fa o pm cd doc a vs ns G Y ho hd hcd hmg hobj hints hlen hg=>?_
 have KX:=hY w _ Y
 obtain⟨fd,hb,hF⟩:=F w mg fa _ KX G.T.g hmg
 obtain⟨dd,hdd⟩:=hrec
 obtain⟨C,hT⟩:=PySem.W.tab_of G.T KX hdd (htab w)
 have hB:BM mg s₁.heap:=by
  obtain⟨bm,ob,b1,b2,b3,b4,b5,b6⟩:=G.T.bmain
  refine⟨bm,ob,b1,b2,fun z=>?_,b3,b4,b5,b6⟩
  obtain⟨o2,es,ep,e,d2,_⟩:=G.T.g
  rw[z,e] at b3;cases b3;rw[d2] at b6;cases b6
 have hKa:(K w.params).lookup a=none:=by
  cases z:(K w.params).lookup a with
  | none=>rfl
  | some o2 =>
   have e:=KX a o2 z
   rw[hobj] at e;cases e
   exact absurd rfl (hL w a _ z)
 exact O7 hTb KX G.T.g G.T.b G.T.builtins G.T.nolimit hg hobj hints hlen hr hKa (hK w) C hT hB hF hb
end
end L2
namespace A
open PySem L2 PyProof.Rows So
open Mi (D W Rs Fin ao Out Tg)
variable[Tb:jf]
section
variable{K:PySem.W.Frag}{M:Nat→Bool}{ta tb:TE}{a b:Mi.E}
def W3:V→List V→Hp→VK→Prop:=fun x xs H Q=>∃ (p:Addr) (ys:List Str) (z:Str),x=.ref p∧xs=[.str z]∧z∈ys∧H p=some (.tup (ys.map V.str))∧Q (.int (ys.idxOf z:Nat)) H
def W4:V→List V→Hp→VK→Prop:=fun x xs H Q=>∃ (p:Addr) (ys:List Str) (z:Str),x=.ref p∧xs=[.str z]∧z∈ys∧ys.length≤1000∧Lst H p (ys.map V.str)∧Q (.int (ys.idxOf z:Nat)) H
theorem aa4{X:Cx}:UG X "tuple.index" W3:=Vz
theorem aa5{X:Cx}:UG X "list.index" W4:=VB
theorem abx(ha:AE M qP ta a)(hb:AE M qP tb b):AE M qV (aav K "list" W3 W4 ta (lg tb vz)) (Mi.m2 Mi.T6 a b):=fun e σ H Hv Q I h =>
 ha e σ H Hv _ I ((ao.mp h).mono fun x hx v H1 Hv1 g1 rx=>by
  obtain⟨y,hy,hk⟩:=nC (ao.mp hx)
  cases y with
  | str z =>
   obtain⟨ys,ey,q1⟩:=lZ (ao.mp hk)
   obtain⟨⟨hz,hl⟩,q2⟩:=Mi.bx q1
   have q3:=Mi.jX q2
   clear hk q1 q2 hx
   cases x with
   | tup ds =>
    obtain⟨p,us,rfl,l,_,r⟩:=RD.tup g1.vw rx
    have:=zM ey r
    subst this
    refine .inl ⟨⟨p,_,rfl,l⟩,hb e σ H1 Hv1 _ (I.grow g1) ?_⟩
    rw[hy]
    intro v2 H2 Hv2 g2 ry
    cases RD.str ry
    exact⟨p,ys,z,rfl,rfl,hz,g2.old.at l,q3 _ _ _ (g1.trans g2) j4⟩
   | lst ds =>
    obtain⟨p,us,rfl,l,r⟩:=RD.lst g1.vw rx
    have:=zM ey r
    subst this
    refine .inr ⟨.inl ⟨rfl,_,l.sq⟩,hb e σ H1 Hv1 _ (I.grow g1) ?_⟩
    rw[hy]
    intro v2 H2 Hv2 g2 ry
    cases RD.str ry
    exact⟨p,ys,z,rfl,rfl,hz,hl,l.old g2.old,q3 _ _ _ (g1.trans g2) j4⟩
   | _=>cases ey
  | _=>exact hk.elim)
end
end A
namespace Mi
end Mi
namespace A
open PySem L2 PyProof.Rows So
open Mi (D W Rs Fin ao Out Tg)
variable[Tb:jf]
end A
namespace L2
open PySem PySem.Spec PyProof.Rows
def ExcAt(h:Heap)(e T:Addr)(cls fl:Value):Prop :=
 ∃ oe vs oT ts,h.get? e=some oe∧(oe.cls=cls∧oe.dict=none)∧oe.data=.fields vs∧vs[1]? = some (.ref T)∧T≠e∧h.get? T=some oT∧oT.data=.fields ts∧ts[3]? = some fl
def ExcNew(h:Heap)(e:Addr)(cls:Value):Prop:=∃ oe vs,h.get? e=some oe∧(oe.cls=cls∧oe.dict=none)∧oe.data=.fields vs∧vs[1]? = some .none
structure iD(fs no:List Addr)(h h':Heap):Prop where
 keep:∀ b o,h.get? b=some o→b∉fs→b∉no→h'.get? b=some o
 slot:∀ b o,h.get? b=some o→b∉no→∃ sl,h'.get? b=some { o with slots:=sl }
 there:∀ b o,h.get? b=some o→∃ o',h'.get? b=some o'
theorem iD.trans{fs no no':List Addr}{h h1 h2:Heap}(a:iD fs no h h1)(b:iD fs no' h1 h2):iD fs (no++no') h h2:=by
 refine⟨fun x o e f n=>?_,fun x o e n=>?_,fun x o e=>?_⟩
 ·have n1:x∉no:=fun z=>n (List.mem_append_left _ z)
  have n2:x∉no':=fun z=>n (List.mem_append_right _ z)
  exact b.keep x o (a.keep x o e f n1) f n2
 ·have n1:x∉no:=fun z=>n (List.mem_append_left _ z)
  have n2:x∉no':=fun z=>n (List.mem_append_right _ z)
  obtain⟨sl,e1⟩:=a.slot x o e n1
  obtain⟨sl2,e2⟩:=b.slot x _ e1 n2
  exact⟨sl2,e2⟩
 ·obtain⟨o1,e1⟩:=a.there x o e
  exact b.there x o1 e1
theorem iD.of_keeps{fs:List Addr}{h h':Heap}(k:∀ b o,h.get? b=some o→h'.get? b=some o):iD fs [] h h' :=
 ⟨fun b o e _ _=>k b o e,fun b o e _=>⟨o.slots,k b o e⟩,fun b o e=>⟨o,k b o e⟩⟩
theorem iD.more{fs no no':List Addr}{h h':Heap}(a:iD fs no h h')(s:∀ b∈no,b∈no'):iD fs no' h h' :=
 ⟨fun x o e f n=>a.keep x o e f fun z=>n (s x z),fun x o e n=>a.slot x o e fun z=>n (s x z),a.there⟩
theorem iD.tQ{fs no:List Addr}{h h' base:Heap}{l:List Env}(a:iD fs no h h')(hl:h.FunFrames base l)(hn:∀ b∈no,∀ o,h.get? b=some o→∃ vs,o.data=.fields vs):h'.FunFrames base l :=
 hl.of_keeps fun b o hb hnf=>by
  obtain⟨sl,e⟩:=a.slot b o hb fun z=>by
   obtain⟨vs,q⟩:=hn b z o hb
   exact hnf vs q
  exact⟨_,e,rfl⟩
theorem TY(f:Array Value→Array Value)(o:Obj):(Obj.mapFields f o).dict=o.dict:=by
 obtain⟨c,d,dt,sl⟩:=o
 cases dt<;>rfl
section
variable{M:Model}{A:Around}{E:Value→Shared→Prop}{s:Shared}
theorem HR{base:Heap}{env:Env}{outer:List Env}{L e:Addr}{oe:Obj}{vs:Array Value}{head:Value}{hadNext:Bool}{Q:Unit→Shared→Prop}
 (hfr:A.frames=some (env::outer)) (hl:s.heap.FunFrames base (env::outer)) (hf:env.frame=some L) (he:s.heap.get? e=some oe) (hdc:oe.dict=none) (hd:oe.data=.fields vs) (hsz:1 < vs.size)
 (h:∀ h' T,s.heap.objs.size≤T→iD (frs (env::outer)) [e] s.heap h'→ExcAt h' e T oe.cls (rawInt L)→Q () { s with heap:=h' }) :
 wpAny M A (do let a ← frameOf env;let pl ← entryPlaceOf L hadNext;let b ← EntryCells.newEntry head a .none (rawInt L) .none pl;setField (.ref e) 1 b) Q E s:=by
 have hene:e∉(env::outer).filterMap (·.frame):=fun hm=>by
  obtain⟨_,o,ho,hnf⟩:=hl.mem hm
  rw[he] at ho;injection ho with ho;subst ho;exact hnf vs hd
 refine wpAny_bind (wpAny_frameOf_fun hfr hl hf fun h₁ hs₁=>?_)
 refine wpAny_bind (wpAny_entryPlaceOf fun pl hpl=>?_)
 unfold EntryCells.newEntry newFields
 refine wpAny_bind (wpAny_newObj_type ?_ (hpl.sizeOk5 _ _ _ _ _))
 have he₁:h₁.get? e=some oe:=(hs₁.2.1 e hene).trans he
 have he₂:=Heap.get?_push_of_some (h:=h₁) { cls:=.type "traceback", dict:=none,data:=.fields ([head,.ref L,.none,rawInt L,.none]++(if pl.isEmpty then List.replicate 6 Value.none else pl)).toArray } he₁
 refine wpAny_setField he₂ hd hsz (h _ h₁.objs.size (Nat.le_of_eq hs₁.1.symm) ?_ ?_)
 ·have keep:∀ b o,b≠e→h₁.get? b=some o →
   ((h₁.push { cls:=.type "traceback", dict:=none,data:=.fields ([head,.ref L,.none,rawInt L,.none]++(if pl.isEmpty then List.replicate 6 Value.none else pl)).toArray }).update e (Obj.mapFields (·.setIfInBounds 1 (Value.ref h₁.objs.size)))).get? b=some o :=
   fun b o hbe hb=>by
    rw[Heap.get?_update_other _ _ (Ne.symm hbe)]
    exact Heap.get?_push_of_some _ hb
  have hd₃:=Obj.data_mapFields hd (·.setIfInBounds 1 (Value.ref h₁.objs.size))
  refine⟨fun b o hb n1 n2=>keep b o (fun z=>n2 (by rw[z];exact List.mem_singleton.mpr rfl)) ((hs₁.2.1 b n1).trans hb),fun b o hb n2=>?_,fun b o hb=>?_⟩
  ·obtain⟨sl,q⟩:=hs₁.2.2 b o hb
   exact⟨sl,keep b _ (fun z=>n2 (by rw[z];exact List.mem_singleton.mpr rfl)) q⟩
  ·by_cases z:b=e
   ·subst z
    exact⟨_,Heap.get?_update_self (Obj.mapFields (·.setIfInBounds 1 (Value.ref h₁.objs.size))) he₂ (Obj.isFreed_of_fields hd₃)⟩
   ·obtain⟨sl,q⟩:=hs₁.2.2 b o hb
    exact⟨_,keep b _ z q⟩
 ·have hTe:h₁.objs.size≠e:=Nat.ne_of_gt (Heap.lt_size he₁)
  have hd₃:=Obj.data_mapFields hd (·.setIfInBounds 1 (Value.ref h₁.objs.size))
  have he₃:=Heap.get?_update_self (Obj.mapFields (·.setIfInBounds 1 (Value.ref h₁.objs.size))) he₂ (Obj.isFreed_of_fields hd₃)
  have hT₃:=(Heap.get?_update_other (h₁.push { cls:=.type "traceback", dict:=none,data:=.fields ([head,.ref L,.none,rawInt L,.none]++(if pl.isEmpty then List.replicate 6 Value.none else pl)).toArray })
   (Obj.mapFields (·.setIfInBounds 1 (Value.ref h₁.objs.size))) (Ne.symm hTe)).trans (Heap.get?_push_size h₁ rfl)
  exact⟨_,_,_,_,he₃,⟨Obj.cls_mapFields _ _,(TY _ _).trans hdc⟩,hd₃,by simp[hsz],hTe,hT₃,rfl,by first|(simp;done)|(rcases hpl with rfl|⟨_,_,_,_,_,_,_,rfl⟩<;>simp)⟩
theorem Kg{base:Heap}{env:Env}{outer:List Env}{L e:Addr}{cls:Value}{Q:Unit→Shared→Prop}
 (hfr:A.frames=some (env::outer)) (hl:s.heap.FunFrames base (env::outer)) (hf:env.frame=some L) (hx:ExcNew s.heap e cls)
 (h:∀ h' T,s.heap.objs.size≤T→iD (frs (env::outer)) [e] s.heap h'→ExcAt h' e T cls (rawInt L)→Q () { s with heap:=h' }):wpAny M A (noteFrame (.ref e) env) Q E s:=by
 obtain⟨oe,vs,he,⟨rfl,hdc⟩,hd,h1⟩:=hx
 unfold noteFrame
 simp only[hf]
 refine wpAny_bind (wpAny_field he hd h1 ?_)
 rw[if_neg (by decide)]
 exact HR hfr hl hf he hdc hd (Array.getElem?_eq_some_iff.mp h1).1 h
theorem Mt{base:Heap}{env:Env}{outer:List Env}{L e T:Addr}{cls:Value}{Q:Unit→Shared→Prop}
 (hfr:A.frames=some (env::outer)) (hl:s.heap.FunFrames base (env::outer)) (hf:env.frame=some L) (hx:ExcAt s.heap e T cls .none)
 (h:∀ h' T',s.heap.objs.size≤T'→iD (frs (env::outer)) [e,T] s.heap h'→ExcAt h' e T' cls (rawInt L)→Q () { s with heap:=h' }):wpAny M A (noteFrame (.ref e) env) Q E s:=by
 obtain⟨oe,vs,oT,ts,he,⟨rfl,hdc⟩,hd,h1,hTe,hT,hdT,h3⟩:=hx
 unfold noteFrame
 simp only[hf]
 refine wpAny_bind (wpAny_field he hd h1 ?_)
 rw[if_pos (show (Value.ref T != Value.none)=true from by simp)]
 refine wpAny_bind (wpAny_field hT hdT h3 ?_)
 rw[if_neg (show ¬ ((Value.none == rawInt L)=true) from by simp[rawInt])]
 refine wpAny_bind (wpAny_setField hT hdT (Array.getElem?_eq_some_iff.mp h3).1 ?_)
 have other:∀ b,b≠T→(s.heap.update T (Obj.mapFields (·.setIfInBounds 3 Value.none))).get? b=s.heap.get? b:=fun b hb=>Heap.get?_update_other _ _ (Ne.symm hb)
 have hself:=Heap.get?_update_self (Obj.mapFields (·.setIfInBounds 3 Value.none)) hT (Obj.isFreed_of_fields (Obj.data_mapFields hdT _))
 have n0:iD (frs (env::outer)) [T] s.heap (s.heap.update T (Obj.mapFields (·.setIfInBounds 3 Value.none))):=by
  refine⟨fun b o q _ n=>(other b fun z=>n (by rw[z];exact List.mem_singleton.mpr rfl)).trans q,fun b o q n=>⟨o.slots,(other b fun z=>n (by rw[z];exact List.mem_singleton.mpr rfl)).trans q⟩,fun b o q=>?_⟩
  by_cases z:b=T
  ·subst z;exact⟨_,hself⟩
  ·exact⟨o,(other b z).trans q⟩
 refine HR hfr (n0.tQ hl fun b z o q=>?_) hf ((other e (Ne.symm hTe)).trans he) hdc hd (Array.getElem?_eq_some_iff.mp h1).1 fun h' T' hT' n x=>h h' T' (Nat.le_trans (Nat.le_of_eq (by simp[Heap.update])) hT') ((n0.trans n).more fun b hb=>?_) x
 ·rw[List.mem_singleton.mp z,hT] at q;cases q;exact⟨ts,hdT⟩
 ·simp only[List.singleton_append,List.mem_cons,List.not_mem_nil,or_false] at hb ⊢
  exact hb.symm
theorem rG{e T:Addr}{cls fl:Value}{Q:Unit→Shared→Prop}(hx:ExcAt s.heap e T cls fl)(h:∀ h',iD [] [T] s.heap h'→s.heap.objs.size=h'.objs.size→ExcAt h' e T cls .none→Q () { s with heap:=h' }):wpAny M A (setFlight (.ref e) none) Q E s:=by
 obtain⟨oe,vs,oT,ts,he,hc,hd,h1,hTe,hT,hdT,h3⟩:=hx
 have hsz3:3 < ts.size:=(Array.getElem?_eq_some_iff.mp h3).1
 have other:∀ b,b≠T→(s.heap.update T (Obj.mapFields (·.setIfInBounds 3 ((none:Option Addr).elim Value.none fun f=>rawInt f)))).get? b=s.heap.get? b:=fun b hb=>Heap.get?_update_other _ _ (Ne.symm hb)
 have hself:=Heap.get?_update_self (Obj.mapFields (·.setIfInBounds 3 ((none:Option Addr).elim Value.none fun f=>rawInt f))) hT (Obj.isFreed_of_fields (Obj.data_mapFields hdT _))
 unfold setFlight
 refine wpAny_bind (wpAny_field he hd h1 ?_)
 rw[if_pos (show (Value.ref T != Value.none)=true from by simp)]
 refine wpAny_setField hT hdT hsz3 (h _ ?_ (by simp[Heap.update]) ?_)
 ·refine⟨fun b o q _ n=>(other b fun z=>n (by rw[z];exact List.mem_singleton.mpr rfl)).trans q,fun b o q n=>⟨o.slots,(other b fun z=>n (by rw[z];exact List.mem_singleton.mpr rfl)).trans q⟩,fun b o q=>?_⟩
  by_cases z:b=T
  ·subst z;exact⟨_,hself⟩
  ·exact⟨o,(other b z).trans q⟩
 ·exact⟨oe,vs,_,_,(other e (Ne.symm hTe)).trans he,hc,hd,h1,hTe,hself,Obj.data_mapFields hdT _,by simp[hsz3]⟩
theorem Ik{base:Heap}{env:Env}{outer:List Env}{L e:Addr}{cls:Value}{Q:Unit→Shared→Prop}
 (hfr:A.frames=some (env::outer)) (hl:s.heap.FunFrames base (env::outer)) (hf:env.frame=some L) (hx:ExcNew s.heap e cls)
 (h:∀ h' T,s.heap.objs.size≤T→iD (frs (env::outer)) [e,T] s.heap h'→ExcAt h' e T cls .none→Q () { s with heap:=h' }):wpAny M A (leaving env (.ref e)) Q E s:=by
 unfold leaving
 refine wpAny_bind (Kg hfr hl hf hx fun h1 T hT n x=>?_)
 refine rG x fun h2 n2 _ x2=>h h2 T hT ((n.trans (no':=[T]) ⟨fun b o q _=>n2.keep b o q (by simp),n2.slot,n2.there⟩).more fun b hb=>by simpa using hb) x2
theorem SX{base:Heap}{env:Env}{outer:List Env}{L e T:Addr}{cls:Value}{Q:Unit→Shared→Prop}
 (hfr:A.frames=some (env::outer)) (hl:s.heap.FunFrames base (env::outer)) (hf:env.frame=some L) (hx:ExcAt s.heap e T cls .none)
 (h:∀ h' T',s.heap.objs.size≤T'→iD (frs (env::outer)) [e,T,T'] s.heap h'→ExcAt h' e T' cls .none→Q () { s with heap:=h' }):wpAny M A (leaving env (.ref e)) Q E s:=by
 unfold leaving
 refine wpAny_bind (Mt hfr hl hf hx fun h1 T' hT n x=>?_)
 refine rG x fun h2 n2 _ x2=>h h2 T' hT ((n.trans (no':=[T']) ⟨fun b o q _=>n2.keep b o q (by simp),n2.slot,n2.there⟩).more fun b hb=>by simpa [or_assoc] using hb) x2
end
end L2
namespace L2
open PySem PySem.Spec PyProof.Rows
def wj(P:Program)(w:World):G4:=fun outer H s E e s' =>
 ∃ ea T C H',e=.ref ea∧s'.os=s.os∧AllBare s'.gens∧Un (frs outer) [] H H' s.heap s'.heap∧qX P w H' s'.heap∧s.heap.get? ea=none∧s.heap.get? T=none∧H' ea=none∧H' T=none∧ExcAt s'.heap ea T (.ref C) .none∧E (.ref C) (some ea) H'
theorem di.there{P:Program}{w:World}{H:Hp}{h:Heap}{a:Addr}{o:HO}(x:di P w H h a o):∃ ob,h.get? a=some ob:=by
 have hlt:=x.stay (h':=h) (H':=H) (fun _ _ _ q=>q) (fun _ q=>q) fun _ _ q=>q
 cases o with
 | lst xs=>obtain⟨z,its,n,r,e⟩:=x;exact⟨_,e⟩
 | tup xs=>obtain⟨z,its,r,ob,e,c⟩:=x;exact⟨_,e⟩
 | dK kvs=>obtain⟨_,_,_,_,ob,es,ep,e,c⟩:=x;exact⟨_,e⟩
 | dT kvs=>obtain⟨_,_,_,_,ob,es,ep,e,c⟩:=x;exact⟨_,e⟩
 | set S n=>obtain⟨ob,es,ep,t,e,c⟩:=x;exact⟨_,e⟩
 | ins C dx fs=>obtain⟨d,z,ne,e,_⟩:=x;exact⟨_,e⟩
 | own y=>exact x
 | xd fs=>obtain⟨mA,⟨od,es,ep,e,c⟩,r⟩:=x;exact⟨_,e⟩
 | rng lo hi=>obtain⟨t,u,v,e⟩:=x;exact⟨_,e⟩
 | frz ob u=>exact⟨_,x.1⟩
 | tbl w ps=>exact⟨_,x⟩
 | met f y=>exact⟨_,x⟩
 | ext φ=>exact x.2.1
theorem qX.none_of{P:Program}{w:World}{H:Hp}{h:Heap}(k:qX P w H h){a:Addr}(e:h.get? a=none):H a=none:=by
 cases q:H a with
 | none=>rfl
 | some o =>
  obtain⟨ob,z⟩:=(k a o q).there
  rw[e] at z;cases z
section
variable{CX:G4}{P:Program}{w:World}{K:PySem.W.Frag}{mg:Str→Option Value}{base:Heap}{N:List Str}{qual:Str}{scope:Scope}{f:Addr}{cd:Value}{A:Around}{outer:List Env}{s:Shared}{H:Hp}{E:XK}
theorem Ni{pins:List (Addr×Obj)}{σ : St}{H1:Hp}{s1:Shared}{h2:Heap}{no:List Addr}(I:Inv (nZ CX P w K mg base N qual scope f cd A outer s H E) pins σ H1 s1)
 (n:iD (frs (envOfC qual scope s.heap.objs.size f cd::outer)) no s1.heap h2) (hn:∀ b∈no,s.heap.get? b=none∧H1 b=none):Un (frs outer) [] H H1 s.heap h2∧qX P w H1 h2:=by
 have B:Un (frs outer) [] H H1 s.heap s1.heap:=I.base
 have hL:∀ b o,s.heap.get? b=some o→b∉frs outer→b∉frs (envOfC qual scope s.heap.objs.size f cd::outer):=fun b o e nf z=>by
  have hz:frs (envOfC qual scope s.heap.objs.size f cd::outer)=s.heap.objs.size::frs outer:=rfl
  rw[hz] at z
  rcases List.mem_cons.mp z with q|q
  ·have:=Heap.lt_size e
   rw[q] at this;exact absurd this (Nat.lt_irrefl _)
  ·exact nf q
 have hno:∀ b o,s.heap.get? b=some o→b∉no:=fun b o e z=>by rw[(hn b z).1] at e;cases e
 refine⟨⟨fun b o e z nf nx=>n.keep b o (B.keep b o e z nf nx) (hL b o e nf) (hno b o e),fun b o e z nf nx=>?_,B.free,fun b o e nx=>?_,B.tups,B.ye,B.xK⟩,fun a o e=>?_⟩
 ·obtain⟨sl,q⟩:=B.slot b o e z nf nx
  obtain⟨sl2,q2⟩:=n.slot b _ q (hno b o e)
  exact⟨sl2,q2⟩
 ·obtain⟨o1,q⟩:=B.there b o e nx
  exact n.there b o1 q
 ·have hok:qX P w H1 s1.heap:=I.hok
  refine(hok a o e).stay (fun b u hb q=>?_) (fun _ q=>q) fun _ _ q=>q
  have tr:∃ ob,H1 b=some ob:=by
   rcases hb with rfl|hb
   ·exact⟨_,e⟩
   ·exact⟨_,hb⟩
  obtain⟨ob,tr⟩:=tr
  refine n.keep b u q (fun z=>?_) fun z=>?_
  ·have:=I.wB b z
   rw[tr] at this;cases this
  ·rw[(hn b z).2] at tr;cases tr
theorem XH{pins:List (Addr×Obj)}{σ : St}{H1:Hp}{s1:Shared}{h1:Heap}{e C:Addr}{vs:List Value}(I:Inv (nZ (wj P w) P w K mg base N qual scope f cd A outer s H E) pins σ H1 s1)
 (m:Heap.MadeExcOf s1.heap h1 e (.ref C) vs) (q:E (.ref C) (some e) H1):(nZ (wj P w) P w K mg base N qual scope f cd A outer s H E).xe (.ref e) { s1 with heap:=h1 }:=by
 have hfr:=I.ok.frames
 have hl:s1.heap.FunFrames base (envOfC qual scope s.heap.objs.size f cd::outer):=I.stack
 have nk:iD (frs (envOfC qual scope s.heap.objs.size f cd::outer)) [] s1.heap h1:=.of_keeps m.keeps
 have x:ExcNew h1 e (.ref C):=by
  obtain⟨t,he,_⟩:=m.there
  exact⟨_,_,he,⟨rfl,rfl⟩,rfl,rfl⟩
 have B:Un (frs outer) [] H H1 s.heap s1.heap:=I.base
 have new:∀ {b:Addr},s1.heap.get? b=none→s.heap.get? b=none∧H1 b=none:=fun {b} z=>by
  refine⟨?_,I.hok.none_of z⟩
  cases q:s.heap.get? b with
  | none=>rfl
  | some o =>
   obtain⟨o',z2⟩:=B.there b o q (by simp)
   rw[z] at z2;cases z2
 refine Ik (base:=base) (s:={ s1 with heap:=h1 }) hfr (nk.tQ hl fun b z=>absurd z (by simp)) rfl x fun h2 T hT n2 x2=>?_
 have hTn:s1.heap.get? T=none:=by
  cases q2:s1.heap.get? T with
  | none=>rfl
  | some o=>exact absurd (Heap.lt_size (m.keeps T o q2)) (Nat.not_lt.mpr hT)
 have nn:∀ b∈[]++[e,T],s.heap.get? b=none∧H1 b=none:=fun b hb=>by
  simp only[List.nil_append,List.mem_cons,List.not_mem_nil,or_false] at hb
  rcases hb with rfl|rfl
  ·exact new m.new
  ·exact new hTn
 obtain⟨u1,u2⟩:=Ni I (nk.trans n2) nn
 exact⟨e,T,C,H1,rfl,I.os,I.bare,u1,u2,(nn e (by simp)).1,(nn T (by simp)).1,(nn e (by simp)).2,(nn T (by simp)).2,x2,q⟩
theorem zq:Cm (wj P w) (nZ (wj P w) P w K mg base N qual scope f cd A outer s H E) E:=by
 rintro pins σ H1 s1 e s2 I ⟨ea,T,C,H2,rfl,os2,Xq,un2,ok2,n1,n2,n3,n4,x,q⟩
 have ab8:Un (frs (envOfC qual scope s.heap.objs.size f cd::outer)) [] H1 H2 s1.heap s2.heap:=un2
 have I2:Inv (nZ (wj P w) P w K mg base N qual scope f cd A outer s H E) pins σ H2 s2:=I.call' os2 (ch:=[]) un2 ok2 Xq (fun b z=>absurd z (by simp))
 have hfr:=I2.ok.frames
 have hl:s2.heap.FunFrames base (envOfC qual scope s.heap.objs.size f cd::outer):=I2.stack
 have B:Un (frs outer) [] H H1 s.heap s1.heap:=I.base
 have old:∀ {b:Addr},s1.heap.get? b=none→s.heap.get? b=none:=fun {b} z=>by
  cases q:s.heap.get? b with
  | none=>rfl
  | some o =>
   obtain⟨o',z2⟩:=B.there b o q (by simp)
   rw[z] at z2;cases z2
 refine SX (base:=base) (s:=s2) hfr hl rfl x fun h3 T' hT' n x3=>?_
 have hTn:s2.heap.get? T'=none:=by
  cases q2:s2.heap.get? T' with
  | none=>rfl
  | some o=>exact absurd (Heap.lt_size q2) (Nat.not_lt.mpr hT')
 have hTs:s1.heap.get? T'=none:=by
  cases q2:s1.heap.get? T' with
  | none=>rfl
  | some o =>
   obtain⟨o',z2⟩:=ab8.there T' o q2 (by simp)
   rw[hTn] at z2;cases z2
 have nn:∀ b∈[ea,T,T'],s.heap.get? b=none∧H2 b=none:=fun b hb=>by
  simp only[List.mem_cons,List.not_mem_nil,or_false] at hb
  rcases hb with rfl|rfl|rfl
  ·exact⟨old n1,n3⟩
  ·exact⟨old n2,n4⟩
  ·exact⟨old hTs,ok2.none_of hTn⟩
 obtain⟨u1,u2⟩:=Ni I2 n nn
 exact⟨ea,T',C,H2,rfl,I2.os,Xq,u1,u2,(nn ea (by simp)).1,(nn T' (by simp)).1,(nn ea (by simp)).2,(nn T' (by simp)).2,x3,q⟩
theorem vI:PassesOwn (model P w) (nZ CX P w K mg base N qual scope f cd A outer s H E).A (nZ CX P w K mg base N qual scope f cd A outer s H E).env (nZ CX P w K mg base N qual scope f cd A outer s H E).xe:=fun e s' h =>
 wpAny_leaving_again (SameStack.refl _) h
end
end L2
namespace L2
open PySem PySem.Spec PyProof.Rows
def FP(X:Cx)(e:Expr)(ok:St→Hp→Prop):Prop:=∀ (pins:List (Addr×Obj)) (s:Shared) (σ : St) (H:Hp),Inv X pins σ H s→ok σ H →
 wpAny (model X.prog X.w) X.A (eval e X.env) (fun v s1=>∃ y t,v=.str y t∧y.length≤100000∧Inv X pins σ H s1) X.xe s
section
variable{X:Cx}
theorem nU{x:Str}{j pos}(h:x.length≤100000):FP X (.Constant (.str x) j pos) fun _ _=>True:=fun pins s σ H I _ =>
 wpAny_mono (eQ (X:=X) pins s σ H (fun v H'=>v=.str x∧H'=H) I ⟨rfl,rfl⟩) (fun v s1 ⟨v',H',I',r,e1,e2⟩=>by
  subst e1 e2
  obtain⟨t,rfl⟩:=r
  exact⟨x,t,rfl,h,I'⟩) fun _ _ z=>z
theorem uI{e:Expr}{te:TE}{pos:Pos}(he:PE X e te):FP X (.FormattedValue e 114 none pos) fun σ H=>te σ H fun v H'=>H'=H∧∃ z:Str,v=.str z∧(PySem.reprText z).length≤100000:=fun pins s σ H I h=>by
 refine wpAny_FormattedValue_repr (gf (he pins s σ H _ I h) fun v s1 ⟨v',H',I',r,e2,z,e1,hz⟩=>?_)
 subst e1 e2
 obtain⟨t,rfl⟩:=r
 have hz':(reprText z).length≤sizeLine:=by rw[sizeLine_eq];omega
 refine wpAny_pyReprObj_str ?_ hz'
 exact wpAny_formatField_str ⟨_,_,rfl,hz,I'.tok _⟩ ⟨_,_,rfl,hz,(I'.tok _).tok _⟩ hz'
theorem Zr{e:Expr}{te:TE}{pos:Pos}(he:PE X e te):FP X (.FormattedValue e (-1) none pos) fun σ H=>te σ H fun v H'=>H'=H∧∃ i:Int,v=.int i∧i.natAbs.log2 < 1920∧(PySem.Str.ofString (toString i)).length≤100000:=fun pins s σ H I h=>by
 refine wpAny_FormattedValue_plain (gf (he pins s σ H _ I h) fun v s1 ⟨v',H',I',r,e2,i,e1,hd,hz⟩=>?_)
 subst e1 e2
 obtain⟨t,rfl⟩:=r
 exact wpAny_formatField_int hd ⟨_,_,rfl,hz,I'.tok _⟩
def FPs(X:Cx):List Expr→List (St→Hp→Prop)→Prop
 | [],[]=>True
 | e::es,p::ps=>FP X e p∧FPs X es ps
 | _,_=>False
theorem Io{pins:List (Addr×Obj)}{σ : St}{H:Hp}{Q:Str→Shared→Prop}:∀ (es:List Expr) (ps:List (St→Hp→Prop)) (acc:Str) (s:Shared),FPs X es ps→(∀ p∈ps,p σ H)→acc.length+100000 * es.length≤sizeLine→Inv X pins σ H s →
 (∀ z s',z.length≤sizeLine→Inv X pins σ H s'→Q z s')→Joins (model X.prog X.w) X.A X.xe (evalEach es X.env) acc Q s
 | [],[],acc,s,_,_,hl,I,q=>q acc s (by simp at hl;exact hl) I
 | [],_::_,_,_,f,_,_,_,_=>f.elim
 | _::_,[],_,_,f,_,_,_,_=>f.elim
 | e::es,p::ps,acc,s,f,hp,hl,I,q=>by
  refine wpAny_mono (f.1 pins s σ H I (hp p List.mem_cons_self)) (fun v s1 ⟨y,t,ev,hy,I1⟩=>?_) fun _ _ z=>z
  rw[List.length_cons] at hl
  have ha:(acc++y).length≤acc.length+100000:=by rw[strLen_append];omega
  exact⟨y,t,ev,by omega,Io es ps (acc++y) s1 f.2 (fun p' h'=>hp p' (List.mem_cons_of_mem _ h')) (by omega) I1 q⟩
theorem uB{e1 e2:Expr}{es:List Expr}{ps:List (St→Hp→Prop)}{pos:Pos}(f:FPs X (e1::e2::es) ps)(hl:(e1::e2::es).length≤100):PE X (.JoinedStr (e1::e2::es) pos) (fun σ H Q=>(∀ p∈ps,p σ H)∧∀ z:Str,z.length≤sizeLine→Q (.str z) H):=fun pins s σ H Q I h =>
 wpAny_JoinedStr (Io _ ps Str.empty s f h.1 (by rw[sizeLine_eq];have:Str.empty.length=0:=rfl;omega) I fun z s' hz I'=>⟨hz,.str z,H,I'.tok _,⟨_,rfl⟩,h.2 z hz⟩)
end
section
variable{P:Program}{w:World}{K:PySem.W.Frag}{mg:Str→Option Value}{base:Heap}{N:List Str}{qual:Str}{scope:Scope}{f:Addr}{cd:Value}{A:Around}{outer:List Env}{s:Shared}{H:Hp}{E:XK}
theorem ql{x:Str}{C:Addr}{bm:List Value}{B newId initId:String}{e:Expr}{te:TE}{np cpos pos:Pos}(FB:ExcBaseFacts B newId initId bm)(O:OwnCls x C bm newId mg base)
 (he:PE (nZ (wj P w) P w K mg base N qual scope f cd A outer s H E) e te) (hg:Gl (nZ (wj P w) P w K mg base N qual scope f cd A outer s H E) x) (hd:(x == ("__debug__" : Str))=false:=by decide)
 (hs:starEach [e] (nZ (wj P w) P w K mg base N qual scope f cd A outer s H E).env=(false,eval e (nZ (wj P w) P w K mg base N qual scope f cd A outer s H E).env)::starEach [] (nZ (wj P w) P w K mg base N qual scope f cd A outer s H E).env:=by rfl) :
 PS (nZ (wj P w) P w K mg base N qual scope f cd A outer s H E) (.Raise (some (.Call (.Name x np) [e] [] cpos)) none pos) (fun _ σ H1=>te σ H1 fun _ H2=>∀ ea,H2 ea=none→E (.ref C) (some ea) H2):=by
 intro pins s1 σ H1 D I h
 obtain⟨tl,N',nm,q,bs,hdct,sn,sub,ab,col,dd,k0,k1,k2,k3,k5,mN,hC,hN,hni,T⟩:=O.obj
 refine wpAny_Raise_call_subT (C:=C) (nm:=nm) (q:=q) (N:=N') (bs:=bs) (bm:=tl) (hdct:=hdct) (sn:=sn) (sub:=sub) (ab:=ab) (col:=col) (dd:=dd) (k0:=k0) (k1:=k1) (k2:=k2) (k3:=k3) (k5:=k5)
  FB (mN:=mN) (T.hasType FB.hasBase) (I.ok.hd rfl) (by rw[hs];rfl) hni (uF I hg O.bound ⟨rfl,?_⟩ hd)
 rw[hs]
 refine Calls.evalArgs_plain (Calls.spliced_cons (gf (he pins s1 σ H1 _ I h) fun v s2 ⟨v',H2,I2,r,q2⟩=>Calls.spliced_nil ?_))
 exact⟨rfl,by rw[sizeLine_eq];simp,I2.bk _ _ hC,hN.keeps I2.bk,T.keeps I2.bk,fun h' e' m=>XH I2 m (q2 e' (I2.hok.none_of m.new))⟩
end
end L2
namespace Mi
open PySem
def mK{α : Type}(r:Rs α)(k:α→Prop)(x:yR→Prop):Prop:=match r with
 | .ok a=>k a
 | .ex z=>x z
 | .no=>False
theorem fB{α β : Type}{r:Rs α}{f:α→Rs β}{k:β→Prop}{x:yR→Prop}:mK (r.bind f) k x↔mK r (fun a=>mK (f a) k x) x:=by cases r<;>exact Iff.rfl
theorem mK.mono{α : Type}{r:Rs α}{k k':α→Prop}{x x':yR→Prop}(h:mK r k x)(m:∀ a,k a→k' a)(n:∀ z,x z→x' z):mK r k' x':=by
 cases r with
 | ok a=>exact m a h
 | ex z=>exact n z h
 | no=>exact h
theorem mK.fin{α : Type}{r:Rs α}{k:α→Prop}{x:yR→Prop}(h:mK r k x)(hn:∀ z,r≠.ex z):Fin r k:=by
 cases r with
 | ok a=>exact h
 | ex z=>exact absurd rfl (hn z)
 | no=>exact h
theorem Bw{α : Type}{c:Prop}[Decidable c]{r:Rs α}{k:α→Prop}{x:yR→Prop}(h:mK (aO c r) k x):c∧mK r k x:=by
 unfold aO at h
 split at h
 ·exact⟨‹_›,h⟩
 ·exact h.elim
theorem Zw{α : Type}{r s:Rs α}{k:α→Prop}{x:yR→Prop}(h:mK (if true=true then r else s) k x):mK r k x:=by simpa using h
theorem Zx{α : Type}{r s:Rs α}{k:α→Prop}{x:yR→Prop}(h:mK (if false=true then r else s) k x):mK s k x:=by simpa using h
def still{α : Type}:Rs α→Rs α
 | .ex _=>.no
 | r=>r
theorem pY{α : Type}{r:Rs α}{k:α→Prop}{x:yR→Prop}(h:mK (still r) k x):Fin r k:=by cases r<;>exact h
theorem Ab{α : Type}{r:Rs α}{a:α}(h:r=.ok a):still r=.ok a:=by rw[h];rfl
def sP(m:S):S:=fun e=>still (m e)
def cP(c:C):C:=fun e=>still (c e)
def iP(it:I):I:=fun e=>still (it e)
theorem Rj:∀ (tg:Tg) (x:D) (e:Env) (z:yR),tg.put x e≠.ex z:=by
 have key:∀ (is:List Nat) (ds:List D) (e:Env) (z:yR),qY is ds e≠.ex z:=fun is=>by
  induction is with
  | nil=>intro ds e z h;cases ds<;>cases h
  | cons i r ih =>
   intro ds e z h
   cases ds with
   | nil=>cases h
   | cons d t=>exact ih t _ z h
 intro tg x e z h
 cases tg with
 | n i=>cases h
 | t is=>cases x with
  | tup ds=>exact key is ds e z h
  | _=>cases h
def iH(cls:String)(gs:List (Env→Bool)):S:=fun e=>if (gs.all fun g=>g e)=true then .ex ⟨cls,[]⟩ else .no
def gR(i:Nat):Env→Bool:=fun e=>match e[i]? with
 | some (some (.d (.str z)))=>decide ((PySem.reprText z).length≤100000)
 | _=>false
def jr(f:Fn)(ws:List EW):S:=fun e=>(still (bQ ws e)).bind fun vs=>(f vs).bind fun _=>.ok (.nx e)
end Mi
namespace A
open PySem L2 PyProof.Rows So
open Mi (D W Rs Fin mK ao fB Out Tg yR)
variable[Tb:jf]
def wish(cl:String→Addr)(E:XK):yR→Hp→Prop:=fun z H'=>∀ ea,H' ea=none→E (.ref (cl z.cls)) (some ea) H'
def Qq(M:Nat→Bool)(κ : Kd)(x:yR→Hp→Prop)(t:TS)(m:Mi.S):Prop:=∀ H0 Hv0 e σ H Hv D,R1 M H0 Hv0 e σ H Hv→mK (m e) (pC M κ H0 Hv0 D Hv) (fun z=>∀ H' Hv',dC H0 Hv0 H' Hv'→x z H')→t D σ H
section
variable{M:Nat→Bool}{κ : Kd}{x:yR→Hp→Prop}{t u:TS}{m n:Mi.S}{cl:String→Addr}{E:XK}
theorem jd(h:AS M κ t m):Qq M κ x t (Mi.sP m):=fun H0 Hv0 e σ H Hv D I f=>h H0 Hv0 e σ H Hv D I (Mi.pY f)
theorem iu(h1:Qq M κ x t m)(h2:Qq M κ x u n):Qq M κ x (Yb t u) (Mi.aV m n):=fun H0 Hv0 e σ H Hv D I h =>
 h1 H0 Hv0 e σ H Hv _ I ((fB.mp h).mono (fun o ho=>by
  cases o with
  | nx e'=>exact fun σ' H' Hv' I' s=>h2 H0 Hv0 e' σ' H' Hv' D I' (mK.mono ho (fun o z=>z.up s) fun _ z=>z)
  | rt w=>exact ho
  | bk e'=>exact ho
  | ct e'=>exact ho) fun _ z=>z)
theorem vV{tt:TT}{c:Mi.C}(hc:AT M tt c)(h1:Qq M κ x t m)(h2:Qq M κ x u n):Qq M κ x (Yc tt t u) (Mi.fL (Mi.cP c) m n):=fun H0 Hv0 e σ H Hv D I h =>
 hc e σ H Hv _ I.toR0 ((Mi.pY (fB.mp h)).mono fun b hb H1 Hv1 g1=>by
  cases b with
  | true=>exact Gm (h1 H0 Hv0 e σ H1 Hv1 D (I.grow g1) ((Mi.Zw hb).mono (fun o z=>z.up g1.vis) fun _ z=>z))
  | false=>exact Gn (h2 H0 Hv0 e σ H1 Hv1 D (I.grow g1) ((Mi.Zx hb).mono (fun o z=>z.up g1.vis) fun _ z=>z)))
theorem GF{K:PySem.W.Frag}{wi:TI}{it:Mi.I}{tg:Tg}(hi:N6 M wi it)(hm:∀ i∈z7 tg,M i=false)(hb:Qq M κ x t m):Qq M κ x (Yd wi (tgG K tg) t) (Mi.oA (Mi.iP it) tg m):=fun H0 Hv0 e σ H Hv D I h =>
 hi e σ H Hv _ I.toR0 ((Mi.pY (fB.mp h)).mono fun ds h1 J H1 Hv1 P g1 O p1 per=>by
  refine⟨fun i k σ' H'=>k=ds.length - i∧i≤ds.length∧∃ e' Hv',R1 M H0 Hv0 e' σ' H' Hv'∧P H' Hv'∧mK (Mi.kW tg m (ds.drop i) e') (pC M κ H0 Hv0 D Hv') (fun z=>∀ H' Hv',dC H0 Hv0 H' Hv'→x z H'),
   ⟨ds.length,by simp,Nat.zero_le _,e,Hv1,I.grow g1,p1,by rw[List.drop_zero];exact h1.mono (fun o z=>z.up g1.vis) fun _ z=>z⟩,?_⟩
  rintro i k σ' H' ⟨rfl,hle,e',Hv',I',pp,hf⟩
  by_cases hlt:i < ds.length
  ·refine .inr ⟨O.go i H' Hv' pp I'.vw hlt,fun σ2 H2=>∃ e2 Hv2,R1 M H0 Hv0 e2 σ2 H2 Hv2∧P H2 Hv2∧mK (Mi.kW tg m (ds.drop (i+1)) e2) (pC M κ H0 Hv0 D Hv2) (fun z=>∀ H' Hv',dC H0 Hv0 H' Hv'→x z H'),
    fun σ2 H2 z=>⟨ds.length - (i+1),by omega,rfl,hlt,z⟩,fun y H2 q=>?_⟩
   obtain⟨Hv2,d,g2,hd,rx⟩:=O.yld i H' Hv' y H2 pp I'.vw hlt q
   have I2:=I'.grow g2
   have hdr:ds.drop i=d::ds.drop (i+1):=by
    obtain⟨hl,e1⟩:=List.getElem?_eq_some_iff.mp hd
    rw[List.drop_eq_getElem_cons hl,e1]
   rw[hdr] at hf
   refine JV (P:=fun e1 σ1=>R1 M H0 Hv0 e1 σ1 H2 Hv2) g2.vw (fun j hj e1 σ1 d1 v1 r1 z=>r1.set (hm j hj) z) I2 rx (((fB.mp hf).fin (Mi.Rj tg d e')).mono fun e1 h1 σ1 I1=>?_)
   refine hb H0 Hv0 e1 σ1 H2 Hv2 _ I1 ((fB.mp h1).mono (fun o ho=>?_) fun _ z=>z)
   cases o with
   | nx e2=>exact fun σ2 H3 Hv3 I3 s3=>⟨e2,Hv3,I3,per _ _ _ _ pp (g2.vis.trans s3) I3.vw,mK.mono ho (fun o z=>z.up (g2.vis.trans s3)) fun _ z=>z⟩
   | ct e2=>exact fun σ2 H3 Hv3 I3 s3=>⟨e2,Hv3,I3,per _ _ _ _ pp (g2.vis.trans s3) I3.vw,mK.mono ho (fun o z=>z.up (g2.vis.trans s3)) fun _ z=>z⟩
   | bk e2=>exact fun σ2 H3 Hv3 I3 s3=>ho σ2 H3 Hv3 I3 (g2.vis.trans s3)
   | rt w=>exact ho
  ·have hi:i=ds.length:=by omega
   subst hi
   refine .inl ⟨O.stop H' Hv' pp I'.vw,?_⟩
   rw[List.drop_of_length_le (Nat.le_refl _)] at hf
   exact hf σ' H' Hv' I' (jg.refl _))
def LQ(cl:String→Addr)(f:Mi.Fn):Sp:=fun vs H Q E=>∃ Hv ws,Vw H Hv∧P2 (ug Hv) ws vs∧mK (f ws) (fun w=>∀ v H' Hv',dC H Hv H' Hv'→qV H H' Hv' w v→Q v H') (fun z=>∀ H' Hv',dC H Hv H' Hv'→wish cl E z H')
theorem xm{f:Mi.Fn}{ws:List Mi.EW}{tr:TA}(ha:AAW M qV tr (Mi.bQ ws)):Qq M κ (wish cl E) (Hi (wu (LQ cl f) [] E tr)) (Mi.jr f ws):=fun H0 Hv0 e σ H Hv D I h =>
 ha e σ H Hv _ I.toR0 ((Mi.pY (fB.mp h)).mono fun ds hx vs H1 Hv1 g1 rx=>by
  rw[List.append_nil]
  refine⟨Hv1,ds,g1.vw,rx,(fB.mp hx).mono (fun w hw v H3 Hv3 g3 r=>?_) fun z hz H3 Hv3 g3=>?_⟩
  ·exact hw σ H3 Hv3 (I.grow (g1.trans g3)) (g1.trans g3).vis
  ·exact hz H3 Hv3 (I.gw.trans (g1.trans g3)))
def PG(M:Nat→Bool)(g:Mi.Env→Bool)(p:L2.St→Hp→Prop):Prop:=∀ e σ H Hv,R0 M e σ H Hv→g e=true→p σ H
theorem nQ:PG M (fun _=>true) (fun _ _=>True):=fun _ _ _ _ _ _=>trivial
theorem uA(i:Nat)(hm:M i=false):PG M (Mi.gR i) (fun σ H=>vq i σ H fun v H'=>H'=H∧∃ z:Str,v=.str z∧(PySem.reprText z).length≤100000):=fun e σ H Hv I h=>by
 unfold Mi.gR at h
 split at h
 ·rename_i z hz
  obtain⟨v,hv,r⟩:=I.nob i _ hz hm
  have r:v=.str z:=(rn (H:=Hv)).mp r
  subst r
  exact⟨_,hv,rfl,z,rfl,of_decide_eq_true h⟩
 ·cases h
def Uw(M:Nat→Bool):List (Mi.Env→Bool)→List (L2.St→Hp→Prop)→Prop
 | [],[]=>True
 | g::gs,p::ps=>PG M g p∧Uw M gs ps
 | _,_=>False
theorem Ml:∀ {gs:List (Mi.Env→Bool)} {ps:List (L2.St→Hp→Prop)},Uw M gs ps→∀ {e σ H Hv},R0 M e σ H Hv→(gs.all fun g=>g e)=true→∀ p∈ps,p σ H
 | [],[],_,_,_,_,_,_,_,p,hp=>by cases hp
 | [],_::_,f,_,_,_,_,_,_,_,_=>f.elim
 | _::_,[],f,_,_,_,_,_,_,_,_=>f.elim
 | g::gs,p::ps,f,e,σ,H,Hv,I,h,q,hq=>by
  rw[List.all_cons,Bool.and_eq_true] at h
  rcases List.mem_cons.mp hq with rfl|hq
  ·exact f.1 e σ H Hv I h.1
  ·exact Ml f.2 I h.2 q hq
theorem oh{cls:String}{gs:List (Mi.Env→Bool)}{ps:List (L2.St→Hp→Prop)}(hp:Uw M gs ps):Qq M κ (wish cl E) (fun _ σ H1=>((∀ p∈ps,p σ H1)∧∀ z:Str,z.length≤sizeLine→∀ ea,H1 ea=none→E (.ref (cl cls)) (some ea) H1)) (Mi.iH cls gs):=fun H0 Hv0 e σ H Hv D I h=>by
 unfold Mi.iH at h
 split at h
 ·rename_i hg
  exact⟨Ml hp I.toR0 hg,fun z _ ea hea=>h H Hv I.gw ea hea⟩
 ·exact h.elim
theorem SJ{f:Mi.S}{k n:Nat}{vs:List V}{H:Hp}{Q:VK}{E:XK}(h:LQ cl (Mi.uK k n f) vs H Q E):vs.length=k:=by
 obtain⟨Hv,ws,_,p,q⟩:=h
 rw[← p.len];exact(Mi.Bw q).1
theorem Q9{N:List Str}{k:Nat}{vs:List V}{H:Hp}{Q:VK}(hA:Qq M qV (wish cl E) t m)(hM:∀ i,i < k→M i=false)(h:LQ cl (Mi.uK k N.length m) vs H Q E):t { nx:=fun _ H'=>Q .non H',rt:=Q } (start N vs) H:=by
 obtain⟨Hv,ws,vw,p,q⟩:=h
 obtain⟨hk,q⟩:=Mi.Bw q
 refine hA H Hv _ _ H Hv _ (Ac vw p hk hM) ((fB.mp q).mono (fun o ho=>?_) fun z hz=>hz)
 cases o with
 | nx e=>exact fun σ H' Hv' I s=>ho _ H' Hv' I.gw J4
 | rt w=>exact fun v H' Hv' g r=>ho v H' Hv' g r
 | bk e=>exact ho.elim
 | ct e=>exact ho.elim
end
theorem _root_.L2.pR.okX{P:Program}{w:World}{K:PySem.W.Frag}{mg:Str→Option Value}{base:Heap}{x qual:Str}{st:Stmt}{f:Addr}{fd:FuncData}{N ps:List Str}{k:Nat}{sp:Sp}(F:pR K x qual st f fd)(S:cH N ps (bj st))(len:∀ vs H Q E,sp vs H Q E→vs.length=ps.length)
 (hbody:∀ (cdv:Value) (A:Around) (outer:List Env) (s:Shared) (H:Hp) (vs:List V) (Q:VK) (E:XK),j9 k (A.deeper (envOfC qual (bj st) s.heap.objs.size f cdv))→sp vs H Q E →
  ∃ t,G6 (nZ (wj P w) P w K mg base N qual (bj st) f cdv A outer s H E) (jG st) t∧t { nx:=fun _ H'=>Q .non H',rt:=Q } (start N vs) H):eY P w K mg base (wj P w) (k+1) f fd ps sp:=by
 obtain⟨oc,od,kV,doc,pm,an,cdv,ct,osl,rfl,lk,hcd⟩:=F.ex
 exact Tu lk hcd S len fun A outer s H vs Q E hr hsp=>hbody cdv A outer s H vs Q E hr hsp
end A
namespace L2
open PySem PySem.Spec PyProof.Rows
abbrev XF:=Addr→Addr→St→Hp→Prop
abbrev Xx:=Ends→XF→St→Hp→Prop
def XP(X:Cx)(pins:List (Addr×Obj))(F:XF)(e:Value)(s':Shared):Prop :=
 ∃ σ H1 s1,Inv X pins σ H1 s1∧wj X.prog X.w X.stack H1 s1 (fun c oa H2=>∃ C ea,c=.ref C∧oa=some ea∧F C ea σ H2) e s'
def PSX(X:Cx)(st:Stmt)(t:Xx):Prop:=∀ (pins:List (Addr×Obj)) (s:Shared) (σ : St) (H:Hp) (D:Ends) (F:XF),Inv X pins σ H s→t D F σ H→wpAny (model X.prog X.w) X.A (exec st X.env) (SP X pins D) (XP X pins F) s
def abB(X:Cx)(st:List Stmt)(t:Xx):Prop:=∀ (pins:List (Addr×Obj)) (s:Shared) (σ : St) (H:Hp) (D:Ends) (F:XF),Inv X pins σ H s→t D F σ H→wpAny (model X.prog X.w) X.A (execs st X.env) (SP X pins D) (XP X pins F) s
section
variable{X:Cx}{st:Stmt}{t u:Xx}
theorem Vm(h:PSX X st t):abB X [st] t:=by
 intro pins s σ H D F I q
 refine wpAny_execs_cons (wpAny_mono (h pins s σ H D F I q) (fun f s1 q=>?_) fun _ _ z=>z)
 cases f with
 | next=>exact wpAny_execs_nil q
 | ret v=>exact q
 | brk=>exact q
 | cont=>exact q
def QS(sp:Sp)(t:TA):Xx:=fun D F σ H=>t σ H fun vs H1=>sp vs H1 (fun _ H2=>D.nx σ H2) (fun c oa H2=>∃ C ea,c=.ref C∧oa=some ea∧F C ea σ H2)
theorem Rm{k:Nat}{x:Str}{ps:List Str}{sp:Sp}{e:Expr}{es:List Expr}{t:TA}{p cpos pos:Pos}(hx:X.xe=fun _ _=>False)(C:pQ X.prog X.w X.K X.mg X.base (wj X.prog X.w) k x ps sp)(hr:j9 k X.A)(hg:Gl X x)
 (ha:PA X (e::es) t) (hdb:(x == ("__debug__" : Str))=false:=by decide) (he:starEach (e::es) X.env=(false,eval e X.env)::starEach es X.env:=by rfl) (hpl:(backTo cpos (starEach es X.env)).any (·.1)=false:=by rfl)
 (hs:swapsWith (.Call (.Name x p) (e::es) [] cpos) none pos.line X.env=pure false:=by rfl):PSX X (.Expr (.Call (.Name x p) (e::es) [] cpos) pos) (QS sp t):=by
 intro pins s σ H D F I h
 obtain⟨f,fd,hm,hk,hb,Fo⟩:=C.ex
 refine wpAny_Expr_any ?_ I.quiet hs
 refine wpAny_Call_Name_kw (uF I hg hm ?_ hdb)
 refine PySem.W.callWith_K (h₀:=X.base) I.ok.mod.kin hk (wpAny_mono (ha cpos pins s σ H _ I h) (fun us s1 ⟨vs,H1,I1,r,q⟩=>⟨I1.yX,?_⟩) fun _ _ z=>by rw[hx] at z;exact z.elim) he hpl
 have hl:us.length=ps.length:=by rw[← r.length];exact Fo.len _ _ _ _ q
 refine wpAny_call (codeAny_mono (Fo.run X.A X.stack s1 H1 ⟨us,[]⟩ us vs _ _ hr I1.env0 (by have:=hb s1 us I1.yX (by rw[List.append_nil];exact hl);rwa [List.append_nil] at this) r q) fun res s' hq=>?_)
 cases res with
 | error e'=>exact⟨σ,H1,s1,I1,hq⟩
 | ok fl =>
  cases fl with
  | ret v =>
   obtain⟨v',H2,I2,_,q2⟩:=I1.after hq
   exact⟨σ,H2,I2,q2⟩
  | next=>exact False.elim hq
  | brk=>exact False.elim hq
  | cont=>exact False.elim hq
end
def Cx.held(X:Cx)(e:Value):Cx:={ X with A:=X.A.mark (some e),calm:=false,xe:=fun _ _=>False }
section
variable{X:Cx}{pins:List (Addr×Obj)}{σ : St}{H:Hp}{s:Shared}
theorem Inv.held(I:Inv X pins σ H s)(e:Value):Inv (X.held e) pins σ H s :=
 ⟨⟨I.ok.mod,I.ok.kind,I.ok.glob,I.ok.blt,I.ok.above,I.ok.inj,I.ok.has,I.ok.cab,fun z=>(nomatch z),I.ok.frames,I.ok.stk,I.ok.exf,I.ok.bs,I.ok.bsz,I.ok.Kl,I.ok.Pk,I.ok.tQ,I.ok.frf⟩,I.os,I.bare,I.base,I.loc,I.cell,I.free,I.nP,I.pin,I.hok,I.len⟩
theorem Inv.Ey{e:Value}(J:X.Ok)(I:Inv (X.held e) pins σ H s):Inv X pins σ H s :=
 ⟨J,I.os,I.bare,I.base,I.loc,I.cell,I.free,I.nP,I.pin,I.hok,I.len⟩
end
end L2
namespace L2
open PySem PySem.Spec PyProof.Rows
open A (yf)
section
variable{X:Cx}{pins:List (Addr×Obj)}{σ : St}{H:Hp}{s:Shared}
theorem wK{M:Model}{A:Around}{E:Value→Shared→Prop}{i:Nat}{n:Str}{pos:Pos}{Q:Unit→Shared→Prop}(I:Inv X pins σ H s)(hN:X.N.Nodup)(hi:X.N[i]? = some n)(hk:X.env.scope.names.lookup n=some .local)
 (h:∀ s',Inv X pins (σ.set i none) H s'→Q () s'):wpAny M A (do bindName X.env n .none;unbindBehindTheSuite X.env n pos) Q E s:=by
 have hcls:(X.env.scope.kind == .class || (X.env.scope.kind == .module && X.env.locals != X.env.globals))=false:=by rw[I.ok.kind];rfl
 have hiσ : i < σ.length:=by rw[I.len];exact(List.getElem?_eq_some_iff.mp hi).1
 refine wpAny_bind (wpAny_bindName (wA (v:=.non) (u:=.none) I hN hi (.inl hk) rfl (fun s1 I1=>?_) (.inr hk)))
 obtain⟨m,hn,hl⟩:=id I1.loc
 have hsome:(m n).isSome=true:=by
  obtain⟨u,_,q⟩:=hl i n .non hi (List.getElem?_set_self hiσ) (.inl hk)
  rcases q with ⟨_,e⟩|⟨k,_⟩
  ·rw[e];rfl
  ·have hk':X.env.kindOf n=some .local:=hk
   rcases k with k|k<;>(rw[hk'] at k;cases k)
 have hk':X.env.kindOf n=some .local:=hk
 unfold unbindBehindTheSuite
 refine wpAny_onRaise ?_
 unfold unbindName
 refine wpAny_bind (wpAny_point (wpAny_bind ?_))
 unfold deleteName
 simp only[hk',hcls]
 rw[if_neg (by decide)]
 refine wpAny_bind (wpAny_nsDel_keeps hn fun h2 v hn2 hs2=>?_)
 rw[hsome]
 simp only[if_true,Bool.not_true,Bool.false_eq_true,if_false]
 refine wpAny_pure (wpAny_point (h _ ?_))
 obtain⟨oL,_,_,hoL,_⟩:=id hn
 have ne:∀ {b o},X.s₀.heap.get? b=some o→b≠X.env.locals:=fun {b o} e=>Nat.ne_of_lt (Nat.lt_of_lt_of_le (Heap.lt_size e) I1.ok.above)
 refine⟨I1.ok,I1.os,I1.bare,⟨fun b o e z hb hx=>(hs2.2 b (ne e)).trans (I1.base.keep b o e z hb hx),fun b o e z hb hx=>?_,I1.base.free,fun b o e hx=>?_,I1.base.tups,I1.base.ye,I1.base.xK⟩,⟨_,hn2,fun j y v' e1 e2 e3=>?_⟩,fun y c e=>?_,I1.free,I1.nP,fun p hp=>?_,?_,by simpa using I1.len⟩
 ·obtain⟨sl,e1⟩:=I1.base.slot b o e z hb hx
  exact⟨sl,(hs2.2 b (ne e)).trans e1⟩
 ·obtain⟨o',e1⟩:=I1.base.there b o e hx
  exact⟨o',(hs2.2 b (ne e)).trans e1⟩
 ·by_cases hj:j=i
  ·subst hj
   rw[List.getElem?_set_self hiσ] at e2;cases e2
  ·have e2':(σ.set i (some V.non))[j]? = some (some v'):=by
    rw[List.getElem?_set_ne (Ne.symm hj)] at e2 ⊢;exact e2
   obtain⟨u',r',q⟩:=hl j y v' e1 e2' e3
   refine⟨u',r',?_⟩
   rcases q with ⟨k,e⟩|⟨k,c,e,z⟩
   ·refine .inl ⟨k,?_⟩
    have:y≠n:=fun e=>hj (Bf hN e1 (e ▸ hi))
    simp[this,e]
   ·refine .inr ⟨k,c,e,?_⟩
    obtain⟨o,ho,hd⟩:=z
    exact⟨o,(hs2.2 c (I1.Wj y c e)).trans ho,hd⟩
 ·obtain⟨v2,o,ho,hd⟩:=I1.cell y c e
  exact⟨v2,o,(hs2.2 c (I1.Wj y c e)).trans ho,hd⟩
 ·obtain⟨q1,q2,q3,q4⟩:=I1.pin p hp
  exact⟨(hs2.2 _ q3).trans q1,q2,q3,q4⟩
 ·intro b ob e
  refine(I1.hok b ob e).stay (fun c w' hc q=>(hs2.2 c ?_).trans q) (fun _ q=>q) fun _ _ q=>q
  rintro rfl
  rcases hc with rfl|hc
  ·rw[I1.free] at e;cases e
  ·rw[I1.free] at hc;cases hc
theorem Inv.caught{H1 H2:Hp}{s1 s':Shared}{h4:Heap}{ea C:Addr}{no:List Addr}{oe:Obj}(I1:Inv X pins σ H1 s1)(os:s'.os=s1.os)(bare:AllBare s'.gens)(un:Un (frs X.stack) [] H1 H2 s1.heap s'.heap)(ok2:qX X.prog X.w H2 s'.heap)
 (n:iD (frs X.stack) no s'.heap h4) (hno:∀ b∈no,s1.heap.get? b=none∧H2 b=none) (he:ea∈no) (hx:h4.get? ea=some oe) (hc:oe.cls=.ref C) (hcd:oe.dict=none) (hcf:∃ vs,oe.data=.fields vs):Inv X pins σ (upd H2 ea (.ext (yf ea C))) { s' with heap:=h4 }:=by
 have I2:Inv X pins σ H2 s':=I1.call' os (ch:=[]) un ok2 bare (fun b z=>absurd z (by simp))
 have old:∀ {b o},s1.heap.get? b=some o→b∉no:=fun {b o} e z=>by rw[(hno b z).1] at e;cases e
 have nee:∀ {b o},H2 b=some o→b≠ea:=fun {b o} e z=>by rw[z,(hno ea he).2] at e;cases e
 refine I1.call' (s':={ s' with heap:=h4 }) os (ch:=[]) ⟨fun b o e z nf nx=>n.keep b o (un.keep b o e z nf nx) nf (old e),fun b o e z nf nx=>?_,fun b o e z nx=>?_,fun b o e nx=>?_,fun b xs e=>?_,fun b o u e=>?_,fun b w ps e=>?_⟩ ?_ bare (fun b z=>absurd z (by simp))
 ·obtain⟨sl,q⟩:=un.slot b o e z nf nx
  obtain⟨sl2,q2⟩:=n.slot b _ q (old e)
  exact⟨sl2,q2⟩
 ·rw[aM (fun y:b=ea=>old e (by rw[y];exact he))]
  exact un.free b o e z nx
 ·obtain⟨o1,q⟩:=un.there b o e nx
  exact n.there b o1 q
 ·have q:=un.tups b xs e
  rw[aM (nee q)];exact q
 ·have q:=un.ye b o u e
  rw[aM (nee q)];exact q
 ·obtain⟨more,q⟩:=un.xK b w ps e
  exact⟨more,by rw[aM (nee q)];exact q⟩
 ·intro a o e
  by_cases ha:a=ea
  ·subst ha
   rw[bc] at e;cases e
   refine⟨⟨oe,hx,hc,hcd,hcf⟩,⟨oe,hx⟩,fun k1 k2 ⟨o,q1,q2⟩ kk=>⟨o,kk o q1,q2⟩⟩
  ·rw[aM ha] at e
   refine(ok2 a o e).stay (fun b u hb q=>?_) (fun b q=>by rw[aM (nee q)];exact q) fun b xs q=>by rw[aM (nee q)];exact q
   have tr:∃ ob,H2 b=some ob:=by
    rcases hb with rfl|hb
    ·exact⟨_,e⟩
    ·exact⟨_,hb⟩
   obtain⟨ob,tr⟩:=tr
   refine n.keep b u q (fun z=>?_) fun z=>?_
   ·have:=I2.wB b z
    rw[tr] at this;cases this
   ·rw[(hno b z).2] at tr;cases tr
def acb(i:Nat)(D:Ends):Ends:={ nx:=fun σ H=>D.nx (σ.set i none) H,rt:=D.rt,bk:=fun σ H=>D.bk (σ.set i none) H,ct:=fun σ H=>D.ct (σ.set i none) H }
def aaq(i:Nat)(okC:Addr→Prop)(tb:Xx)(th:TS):TS:=fun D σ H=>tb D (fun C ea σ' H2=>okC C∧th (acb i D) (σ'.set i (some (.ref ea))) (upd H2 ea (.ext (yf ea C)))) σ H
theorem Yn{body suite:List Stmt}{b0:Stmt}{tb:Xx}{th:TS}{x n:Str}{i:Nat}{C0:Addr}{np hpos pos:Pos}{okC:Addr→Prop}(hx:X.xe=fun _ _=>False)(hst:X.stack=X.env::X.outer)(hfr:X.env.frame=some X.env.locals)
 (hN:X.N.Nodup) (hi:X.N[i]? = some n) (hk:X.env.scope.names.lookup n=some .local) (hg:Gl X x) (hm:X.mg x=some (.ref C0)) (Zd:∀ C,okC C→PySem.W.exmOne X.K (.ref C) (.ref C0)=some true)
 (hb:abB X body tb) (hh:∀ ea,G6 (X.held (.ref ea)) (b0::suite) th) (hdb:(x == ("__debug__" : Str))=false:=by decide) :
 PS X (.Try body [.ExceptHandler (some (.Name x np)) (some n) (b0::suite) hpos] [] [] pos) (aaq i okC tb th):=by
 intro pins s σ0 H0 D I h
 refine wpAny_Try_except (wpAny_mono (hb pins s σ0 H0 D _ I h) (fun f s1 q=>?_) fun e s' xp=>?_)
 ·cases f with
  | next=>exact wpAny_execs_nil q
  | ret v=>exact q
  | brk=>exact q
  | cont=>exact q
 obtain⟨σ,H1,s1,I1,ea,T,C,H2,rfl,os,bare,un,ok2,n1,n2,n3,n4,xx,C',ea',eC,eE,okc,ht⟩:=xp
 cases eC;cases eE
 have I2:Inv X pins σ H2 s':=I1.call' os (ch:=[]) un ok2 bare (fun b z=>absurd z (by simp))
 have acx:X.A.frames=some (X.env::X.outer):=by rw[← hst];exact I2.ok.frames
 have hl:s'.heap.FunFrames X.base (X.env::X.outer):=by rw[← hst];exact I2.stack
 refine Mt (base:=X.base) acx hl hfr xx fun h3 T' hT' n x3=>?_
 refine rG (s:={ s' with heap:=h3 }) x3 fun h4 m4 _ x4=>?_
 have ach:s1.heap.get? T'=none∧H2 T'=none:=by
  have hTn:s'.heap.get? T'=none:=by
   cases q2:s'.heap.get? T' with
   | none=>rfl
   | some o=>exact absurd (Heap.lt_size q2) (Nat.not_lt.mpr hT')
  refine⟨?_,ok2.none_of hTn⟩
  cases q2:s1.heap.get? T' with
  | none=>rfl
  | some o =>
   obtain⟨o',z2⟩:=un.there T' o q2 (by simp)
   rw[hTn] at z2;cases z2
 have nn:∀ b∈[ea,T,T'],s1.heap.get? b=none∧H2 b=none:=fun b hb=>by
  simp only[List.mem_cons,List.not_mem_nil,or_false] at hb
  rcases hb with rfl|rfl|rfl
  ·exact⟨n1,n3⟩
  ·exact⟨n2,n4⟩
  ·exact ach
 have wide:∀ {k k':Heap},iD [] [T'] k k'→iD (frs X.stack) [T'] k k':=fun z=>⟨fun b o q _=>z.keep b o q (by simp),z.slot,z.there⟩
 have n':iD (frs X.stack) [ea,T] s'.heap h3:=by rw[hst];exact n
 have N4:iD (frs X.stack) [ea,T,T'] s'.heap h4:=(n'.trans (wide m4)).more fun b hb=>by simpa [or_assoc] using hb
 have x4':=x4
 obtain⟨oe,vs,oT,ts,he,⟨hc,hcd⟩,hcf,_⟩:=x4'
 have I4:=I1.caught os bare un ok2 N4 nn (by simp) he hc hcd ⟨vs,hcf⟩
 refine wpAny_handleBy_cons (codeAny_handlers_test ?_) (by intro q;cases q)
 refine uF (X:=X.held (.ref ea)) (I4.held _) hg hm ?_ hdb
 have LT:PySem.W.Looks (model X.prog X.w) h4 (typeOf (.ref ea)) (.ref C):=by
  rw[← hc]
  exact(PySem.W.Looks.ld he).andThen .now
 refine PySem.W.exm_one (K:=X.K) I4.yX LT (Zd C okc) _ _ _ { s' with heap:=h4 } (fun _ _ q=>q) ?_
 refine codeAny_handlers_suite_as ?_
 refine rG (s:={ s' with heap:=h4 }) x4 fun h5 m5 _ x5=>?_
 have N5:iD (frs X.stack) [ea,T,T'] s'.heap h5:=(N4.trans (wide m5)).more fun b hb=>by
  simp only[List.cons_append,List.nil_append,List.mem_cons,List.not_mem_nil,or_false] at hb ⊢
  rcases hb with z|z|z|z
  ·exact .inl z
  ·exact .inr (.inl z)
  ·exact .inr (.inr z)
  ·exact .inr (.inr z)
 obtain⟨oe5,vs5,_,_,he5,⟨hc5,acz⟩,acy,_⟩:=x5
 have I5:=I1.caught os bare un ok2 N5 nn (by simp) he5 hc5 acz ⟨vs5,acy⟩
 refine wA (X:=X.held (.ref ea)) (i:=i) (v:=.ref ea) (I5.held _) hN hi (.inl hk) rfl (fun s6 I6=>?_) (.inr hk)
 refine wpAny_mono (hh ea pins s6 _ _ _ I6 ht) (fun f s7 q=>?_) fun _ _ z=>z.elim
 have J:=I.ok
 cases f with
 | next =>
  obtain⟨σ',H',I7,q⟩:=q
  exact wK (I7.Ey J) hN hi hk fun s8 I8=>⟨_,_,I8,q⟩
 | brk =>
  obtain⟨σ',H',I7,q⟩:=q
  exact wK (I7.Ey J) hN hi hk fun s8 I8=>⟨_,_,I8,q⟩
 | cont =>
  obtain⟨σ',H',I7,q⟩:=q
  exact wK (I7.Ey J) hN hi hk fun s8 I8=>⟨_,_,I8,q⟩
 | ret v =>
  obtain⟨v',σ',H',I7,r,q⟩:=q
  exact wK (I7.Ey J) hN hi hk fun s8 I8=>⟨v',_,_,I8,r,q⟩
end
end L2
namespace L2
open PySem PySem.Spec PyProof.Rows
structure rT(k:Nat)(A:Around):Prop where
 dp:A.depth+3 * k+5 < recursionLimit
 un:A.units+16 * k+200 < cLine
theorem j9.abi{k:Nat}{A:Around}(r:j9 k A)(e:Value):rT k (A.mark (some e)):=⟨r.dp,r.un⟩
theorem rT.deeper{k:Nat}{A:Around}(r:rT (k+1) A)(env:Env):rT k (A.deeper env) :=
 ⟨by have:=r.dp;show A.depth+1+3 * k+5 < _;omega,by have:=r.un;show A.units+3+16 * k+200 < _;omega⟩
theorem rT.depth{k:Nat}{A:Around}(r:rT k A):A.depth < recursionLimit:=by have:=r.dp;omega
theorem rT.units{k:Nat}{A:Around}(r:rT k A):A.units+64 < cLine:=by have:=r.un;omega
structure Jy(P:Program)(w:World)(K:PySem.W.Frag)(mg:Str→Option Value)(base:Heap)(k:Nat)(f:Addr)(fd:FuncData)(ps:List Str)(sp:Sp):Prop where
 len:∀ vs H Q E,sp vs H Q E→vs.length=ps.length
 run:∀ (A:Around) (outer:List Env) (s:Shared) (H:Hp) (args:Args) (us:List Value) (vs:List V) (Q:VK) (E:XK),rT k A→Qj P w K mg base A outer s H→BindsTo s fd args (ps.zip us)→Vals vs us→sp vs H Q E →
  codeAny (model P w) A (.call (.ref f) args) (CR gQ outer P w H s Q E) s
def cxH(P:Program)(w:World)(K:PySem.W.Frag)(mg:Str→Option Value)(base:Heap)(N:List Str)(qual:Str)(scope:Scope)(f:Addr)(cd:Value)(A:Around)(outer:List Env)(s:Shared)(H:Hp)(E:XK):Cx :=
 { nZ gQ P w K mg base N qual scope f cd A outer s H E with calm:=false,xe:=fun _ _=>False }
theorem Zv{P:Program}{w:World}{K:PySem.W.Frag}{mg:Str→Option Value}{base:Heap}{k:Nat}{f:Addr}{name qual:Str}{params:Arguments}{body:List Stmt}{scope:Scope}{dV kV doc pm cdv ct oc:Value}{an od:Option Addr}
 {osl:Array (Option Value)} {N ps:List Str} {sp:Sp} (lk:K.lookup f=some ⟨oc,od,.func (PySem.W.fnOf name qual params body scope dV kV doc pm an cdv ct),osl⟩) (hcd:PySem.W.codeIn K cdv qual=true) (S:cH N ps scope)
 (len:∀ vs H Q E,sp vs H Q E→vs.length=ps.length)
 (hbody:∀ (A:Around) (outer:List Env) (s:Shared) (H:Hp) (vs:List V) (Q:VK) (E:XK),rT k (A.deeper (envOfC qual scope s.heap.objs.size f cdv))→sp vs H Q E →
  ∃ t,G6 (cxH P w K mg base N qual scope f cdv A outer s H E) body t∧t { nx:=fun _ H'=>Q .non H',rt:=Q } (start N vs) H) :
 Jy P w K mg base (k+1) f (PySem.W.fnOf name qual params body scope dV kV doc pm an cdv ct) ps sp:=by
 refine⟨len,fun A outer s H args us vs Q E hr e0 hb r hsp=>?_⟩
 have hl:=len _ _ _ _ hsp
 have KX:K.In s.heap:=e0.mod.kin.keeps fun b o e=>(e0.bs b o e).1
 have lim:s.heap.NoLimit:=e0.mod.nolimit.keeps fun b o e=>(e0.bs b o e).1
 have hkind:∀ y∈ps.zip us,scope.names.lookup y.1=some .local∨(scope.names.lookup y.1=some .cell∧((cellsFrom (s.heap.objs.size+1) scope.names []).lookup y.1).isSome=true):=fun ⟨n,v⟩ hy=>by
  rcases S.par n (List.of_mem_zip hy).1 with q|q
  ·exact .inl q
  ·exact .inr ⟨q,PySem.W.cellsFrom_some _ _ _ (.inl q)⟩
 refine codeAny_call_function hr.depth (KX _ _ lk) rfl S.co S.gen rfl (PySem.W.codeRec_of KX hcd) (hb _ _ _ _ ?_)
 refine wpAny_newFunctionEnv_cells S.kind hkind fun env he s1 x=>?_
 subst he
 refine⟨lim.keeps x.toInCall.keep,codeAny_func ?_⟩
 obtain⟨t,ht,hq⟩:=hbody A outer s H vs Q E (hr.deeper _) hsp
 have e1:Qj P w K mg base { A with handled:=none } outer s H:=⟨e0.frames,e0.mod,e0.bs,e0.bsz,e0.tQ,e0.frf,e0.hok,e0.bare⟩
 have I1:Inv (nZ gQ P w K mg base N qual scope f cdv { A with handled:=none } outer s H E) [] (start N vs) H s1:=Ds S rfl e1 hl r x
 have I:Inv (cxH P w K mg base N qual scope f cdv A outer s H E) [] (start N vs) H s1 :=
  ⟨⟨I1.ok.mod,I1.ok.kind,I1.ok.glob,I1.ok.blt,I1.ok.above,I1.ok.inj,I1.ok.has,I1.ok.cab,fun z=>(nomatch z),Around.frames_deeper e0.frames,I1.ok.stk,I1.ok.exf,I1.ok.bs,I1.ok.bsz,I1.ok.Kl,I1.ok.Pk,I1.ok.tQ,I1.ok.frf⟩,I1.os,I1.bare,I1.base,I1.loc,I1.cell,I1.free,I1.nP,I1.pin,I1.hok,I1.len⟩
 refine wpAny_mono (ht [] s1 (start N vs) H _ I hq) (fun fl s' hs=>?_) fun e s' hs=>hs.elim
 have fin:∀ {σ':St} {H':Hp} {v:V} {u:Value},Inv (cxH P w K mg base N qual scope f cdv A outer s H E) [] σ' H' s'→RelV v u→Q v H'→CE outer P w H s Q u s' :=
  fun {σ' H' v u} J rv q=>⟨v,H',J.os,J.bare,J.base,J.hok,rv,q⟩
 cases fl with
 | ret u =>
  obtain⟨v,σ',H',J,rv,q⟩:=hs
  exact fin J rv q
 | next =>
  obtain⟨σ',H',J,q⟩:=hs
  exact fin (v:=V.non) (u:=Value.none) J rfl q
 | brk =>
  obtain⟨_,_,_,q⟩:=hs
  exact False.elim q
 | cont =>
  obtain⟨_,_,_,q⟩:=hs
  exact False.elim q
theorem pR.okH{P:Program}{w:World}{K:PySem.W.Frag}{mg:Str→Option Value}{base:Heap}{x qual:Str}{st:Stmt}{f:Addr}{fd:FuncData}{N ps:List Str}{k:Nat}{sp:Sp}(F:pR K x qual st f fd)(S:cH N ps (bj st))(len:∀ vs H Q E,sp vs H Q E→vs.length=ps.length)
 (hbody:∀ (cdv:Value) (A:Around) (outer:List Env) (s:Shared) (H:Hp) (vs:List V) (Q:VK) (E:XK),rT k (A.deeper (envOfC qual (bj st) s.heap.objs.size f cdv))→sp vs H Q E →
  ∃ t,G6 (cxH P w K mg base N qual (bj st) f cdv A outer s H E) (jG st) t∧t { nx:=fun _ H'=>Q .non H',rt:=Q } (start N vs) H):Jy P w K mg base (k+1) f fd ps sp:=by
 obtain⟨oc,od,kV,doc,pm,an,cdv,ct,osl,rfl,lk,hcd⟩:=F.ex
 exact Zv lk hcd S len fun A outer s H vs Q E hr hsp=>hbody cdv A outer s H vs Q E hr hsp
structure Z5(P:Program)(w:World)(K:PySem.W.Frag)(mg:Str→Option Value)(base:Heap)(k:Nat)(x:Str)(ps:List Str)(sp:Sp):Prop where
 ex:∃ (f:Addr) (fd:FuncData),mg x=some (.ref f)∧PySem.W.keepIn K (.ref f)=true∧Binds K fd ps []∧Jy P w K mg base k f fd ps sp
theorem vd.acG{P:Program}{w:World}{K:PySem.W.Frag}{mg:Str→Option Value}{base:Heap}{k:Nat}{x:Str}{st:Stmt}{ps:List Str}{sp:Sp}(F:vd K mg x st ps)(h:∀ f fd,pR K x x st f fd→Jy P w K mg base k f fd ps sp):Z5 P w K mg base k x ps sp:=by
 obtain⟨f,fd,h1,h2,h3,_,h4⟩:=F.ex
 exact⟨f,fd,h1,h2,h3,h f fd h4⟩
theorem Vq{X:Cx}{k:Nat}{x:Str}{ps:List Str}{sp:Sp}{E:XK}{e:Expr}{es:List Expr}{t:TA}{p pos:Pos}(C:Z5 X.prog X.w X.K X.mg X.base k x ps sp)(hr:rT k X.A)(hg:Gl X x)(ha:PA X (e::es) t)
 (hdb:(x == ("__debug__" : Str))=false:=by decide) (he:starEach (e::es) X.env=(false,eval e X.env)::starEach es X.env:=by rfl) (hpl:(backTo pos (starEach es X.env)).any (·.1)=false:=by rfl) :
 PE X (.Call (.Name x p) (e::es) [] pos) (wu sp [] E t):=by
 obtain⟨f,fd,hm,hk,hb,F⟩:=C.ex
 intro pins s σ H Q I h
 refine wpAny_Call_Name_kw (uF I hg hm ?_ hdb)
 refine PySem.W.callWith_K (h₀:=X.base) I.ok.mod.kin hk (gf (ha pos pins s σ H _ I h) fun us s1 ⟨vs,H1,I1,r,q⟩=>⟨I1.yX,?_⟩) he hpl
 have q:sp (vs++[]) H1 Q E:=q
 rw[List.append_nil] at q
 have hl:us.length=ps.length:=by rw[← r.length];exact F.len _ _ _ _ q
 refine wpAny_call (codeAny_mono (F.run X.A X.stack s1 H1 ⟨us,[]⟩ us vs _ _ hr I1.env0 (by have:=hb s1 us I1.yX (by rw[List.append_nil];exact hl);rwa [List.append_nil] at this) r q) fun res s' hq=>?_)
 cases res with
 | error e'=>exact hq.elim
 | ok fl =>
  cases fl with
  | ret u=>exact I1.after hq
  | next=>exact False.elim hq
  | brk=>exact False.elim hq
  | cont=>exact False.elim hq
end L2
namespace Mi
open PySem
def aaZ(i:Nat):Out→Out
 | .nx e=>.nx (e.set i none)
 | .rt w=>.rt w
 | .bk e=>.bk (e.set i none)
 | .ct e=>.ct (e.set i none)
def Q4(i:Nat)(cs:List String)(body hb:S):S:=fun e=>match body e with
 | .ok o=>.ok o
 | .ex z=>aO (z.cls∈cs) ((still (hb (e.set i (some (.ex z.cls))))).bind fun o=>.ok (aaZ i o))
 | .no=>.no
end Mi
namespace A
open PySem L2 PyProof.Rows So
open Mi (D W Rs Fin mK ao fB Out Tg yR)
variable[Tb:jf]
def AX(M:Nat→Bool)(κ : Kd)(t:Xx)(m:Mi.S):Prop:=∀ H0 Hv0 e σ H Hv D F,R1 M H0 Hv0 e σ H Hv→mK (m e) (pC M κ H0 Hv0 D Hv) (fun z=>∀ ea H' Hv',R1 M H0 Hv0 e σ H' Hv'→jg Hv Hv'→H' ea=none→F (Tb.cl z.cls) ea σ H')→t D F σ H
section
variable{M:Nat→Bool}{κ : Kd}{t u:Xx}{m n:Mi.S}
theorem Wm{f:Mi.Fn}{ws:List Mi.EW}{tr:TA}(ha:AAW M qV tr (Mi.bQ ws)):AX M κ (QS (LQ Tb.cl f) tr) (Mi.jr f ws):=fun H0 Hv0 e σ H Hv D F I h =>
 ha e σ H Hv _ I.toR0 ((Mi.pY (fB.mp h)).mono fun ds hx vs H1 Hv1 g1 rx=>by
  refine⟨Hv1,ds,g1.vw,rx,(fB.mp hx).mono (fun w hw v H3 Hv3 g3 r=>?_) fun z hz H3 Hv3 g3 ea hea=>?_⟩
  ·exact hw σ H3 Hv3 (I.grow (g1.trans g3)) (g1.trans g3).vis
  ·exact⟨_,_,rfl,rfl,hz ea H3 Hv3 (I.grow (g1.trans g3)) (g1.trans g3).vis hea⟩)
theorem R1.off{H0 Hv0:Hp}{e:Mi.Env}{σ : L2.St}{H Hv:Hp}(I:R1 M H0 Hv0 e σ H Hv)(i:Nat):R1 M H0 Hv0 (e.set i none) (σ.set i none) H Hv:=by
 have get:∀ {j:Nat} {w:W},(e.set i none)[j]? = some (some w)→i≠j∧e[j]? = some (some w):=fun {j w} h=>by
  rcases jV h with ⟨_,h,_⟩|z
  ·cases h
  ·exact z
 have st:∀ {j:Nat} {v:V},i≠j→σ[j]? = some (some v)→(σ.set i none)[j]? = some (some v):=fun {j v} n h=>by rw[List.getElem?_set_ne n];exact h
 have ts:∀ {j:Nat} {v:V},i≠j→(σ.set i none)[j]? = some (some v)→σ[j]? = some (some v):=fun {j v} n h=>by rw[List.getElem?_set_ne n] at h;exact h
 refine⟨⟨I.vw,by rw[List.length_set,List.length_set];exact I.len,fun j w h mm=>?_,fun j w h mm=>?_⟩,I.gw,fun j w a h mm q=>?_,fun j k w w' a b hjk h1 h2 m1 m2 q1 q2=>?_⟩
 ·obtain⟨nj,h⟩:=get h
  obtain⟨v,hv,r⟩:=I.nob j w h mm
  exact⟨v,st nj hv,r⟩
 ·obtain⟨nj,h⟩:=get h
  obtain⟨v,hv,r⟩:=I.own j w h mm
  exact⟨v,st nj hv,r⟩
 ·obtain⟨nj,h⟩:=get h
  exact I.fresh j w a h mm (ts nj q)
 ·obtain⟨nj,h1⟩:=get h1
  obtain⟨nk,h2⟩:=get h2
  exact I.sep j k w w' a b hjk h1 h2 m1 m2 (ts nj q1) (ts nk q2)
theorem ZQ{i:Nat}{cs:List String}{th:TS}{hb:Mi.S}(hi:M i=false)(h1:AX M κ t m)(h2:AS M κ th hb):AS M κ (aaq i (fun C=>∃ c∈cs,C=Tb.cl c) t th) (Mi.Q4 i cs m hb):=fun H0 Hv0 e σ H Hv D I h=>by
 refine h1 H0 Hv0 e σ H Hv D _ I ?_
 unfold Mi.Q4 at h
 cases hm:m e with
 | ok o=>rw[hm] at h;exact h
 | no=>rw[hm] at h;exact h.elim
 | ex z =>
  rw[hm] at h
  obtain⟨hz,h⟩:=Mi.bx h
  intro ea H' Hv' I' s' hea
  have g:dC H' Hv' (upd H' ea (.ext (yf ea (Tb.cl z.cls)))) (upd Hv' ea (.ext (yf ea (Tb.cl z.cls)))):=.new I'.vw hea
  have r:ug (upd Hv' ea (.ext (yf ea (Tb.cl z.cls)))) (.ex z.cls) (.ref ea):=⟨ea,rfl,bc⟩
  refine⟨⟨z.cls,hz,rfl⟩,h2 H0 Hv0 _ _ _ _ _ ((I'.grow g).set hi r) ?_⟩
  have h:=ao.mp h
  cases hh:hb (e.set i (some (.ex z.cls))) with
  | no=>rw[hh] at h;exact h.elim
  | ex y=>rw[hh] at h;exact h.elim
  | ok o =>
   rw[hh] at h
   have sm:jg Hv (upd Hv' ea (.ext (yf ea (Tb.cl z.cls)))):=s'.trans g.vis
   cases o with
   | nx e2=>exact fun σ2 H2 Hv2 I2 s2=>h (σ2.set i none) H2 Hv2 (I2.off i) (sm.trans s2)
   | rt w=>exact h
   | bk e2=>exact fun σ2 H2 Hv2 I2 s2=>h (σ2.set i none) H2 Hv2 (I2.off i) (sm.trans s2)
   | ct e2=>exact fun σ2 H2 Hv2 I2 s2=>h (σ2.set i none) H2 Hv2 (I2.off i) (sm.trans s2)
end
end A
namespace PySem.W
open PySem PySem.Spec PySem.Calls PyProof.Rows
section
variable{prog:Program}{w:World}{A:Around}{E:Value→Shared→Prop}{s:Shared}{K:Frag}{x D:Addr}{ox:Obj}
variable(hga:findIn K (.ref D) "__getattribute__" = some (some (.builtin "BaseException.__getattribute__")))(hgt:findIn K (.ref D) "__getattr__" = some none)(hcd:(clsIn K D).isSome=true)
 (ha:findIn K (.ref D) "__class__" = some (some (.builtin "object.__class__"))) (hn:specialIn K (.builtin "object.__class__") "__get__" = some (some (.builtin "getset_descriptor.__get__"))) (htk:takesIn K (.builtin "object.__class__")=some true)
 (hm:mroIn K D (.type "object")=some true) (hb:mroIn K D (.type "BaseException")=some true)
include hga hgt hcd ha hn htk hm hb
theorem Iw{tk:Tok}{R:Result→Shared→Prop}(X:K.In s.heap)(I:InstAt s.heap x ox D none)(h:R (.ok (.ret (.ref D))) s) :
 codeAny (model prog w) A (.call (.builtin "BaseException.__getattribute__") ⟨[.ref x,.str "__class__" tk],[]⟩) R s:=by
 obtain⟨hh,g,d,t,os⟩:=s
 have hf:findObj K D none "__class__" = some (.bind (.builtin "getset_descriptor.__get__") (.builtin "object.__class__")):=by
  obtain⟨cd,hc⟩:=Option.isSome_iff_exists.mp hcd
  unfold findObj
  rw[hc,Option.bind_some,ha,Option.bind_some]
  simp[hn,htk]
 have L0:=I.type (M:=model prog w)
 have L1:=looks_find (M:=model prog w) X I hf
 have L2:=looks_mroIn (M:=model prog w) X hb
 have hk:builtinKind "BaseException.__getattribute__" = some .slot:=by decide +kernel
 have hsplit:splitId "BaseException.__getattribute__" = some ("BaseException", "__getattribute__"):=by decide +kernel
 have hargs:=F.args_bexc_ga (.ref x) (.str "__class__" tk)
 refine codeAny_call_builtin (F.excAttr_ValueError).ga.plain F.entry_bexc_ga ?_
 simp only[checkBuiltinCall,hk,hsplit]
 refine wpAny_bind ?_
 unfold isInstance
 refine wpAny_bind (L0.at ?_)
 refine L2.at ?_
 repeat (any_goals (first|assumption|(refine wpAny_bind (L0.at ?_))|(refine wpAny_bind (L1.at ?_))|wp_step))
 refine class_get (s:=⟨hh,g,d,t,os⟩) X I hm ?_
 exact wpAny_pure h
theorem BJ{Q:Option Value→Shared→Prop}(X:K.In s.heap)(I:InstAt s.heap x ox D none)(h:Q (some (.ref D)) { s with toks:=s.toks+1 }):wpAny (model prog w) A (getAttr? (.ref x) "__class__") Q E s:=by
 obtain⟨hh,g,d,t,os⟩:=s
 have L0:=I.type (M:=model prog w)
 have L1:=looks_findIn (M:=model prog w) X hga
 have L2:=looks_findIn (M:=model prog w) X hgt
 have f3:=(F.excAttr_ValueError).ga.bind (.ref x)
 have hx2:(Value.builtin "BaseException.__getattribute__" == Value.builtin "object.__getattribute__")=false:=by decide +kernel
 have hx1:(onTheHeap (Value.ref D) && Value.builtin "BaseException.__getattribute__" == Value.builtin "object.__getattribute__")=false:=by rw[hx2,Bool.and_false]
 unfold getAttr? getAttrBy? getAttrBy
 refine wpAny_bind (wpAny_mkText (wpAny_bind (wpAny_attempt (wpAny_holding (wpAny_bind (L0.at (wpAny_bind (L1.at ?_))))))))
 dsimp only
 rw[if_neg (by rw[hx1];exact Bool.false_ne_true)]
 unfold getAttrByItsOwn
 repeat (any_goals (first|assumption|(refine wpAny_bind (L2.at ?_))|(refine L2.at ?_)|wp_step))
 refine Iw (s:=⟨hh,g,d,t+1,os⟩) hga hgt hcd ha hn htk hm hb X I ?_
 exact handed_on rfl (wpAny_pure h)
theorem Im:KitX K (.ref x) (.ref D) (fun h=>∃ ox,InstAt h x ox D none) where
 ty:=fun _ _ _ ⟨_,I⟩=>I.type
 it:=fun _ _ X _=>by
  obtain⟨cd,hc⟩:=Option.isSome_iff_exists.mp hcd
  unfold clsIn at hc
  split at hc
  ·rename_i c' d' cd' sl' ho
   intro A' Q' E' s' k q
   unfold isType loadHead
   exact wpAny_bind (wpAny_loadPart (k _ _ (X _ _ ho)) (wpAny_pure q))
  ·cases hc
 ne:=fun h tp dd its n sl X htp=>by
  obtain⟨cd,hc⟩:=Option.isSome_iff_exists.mp hcd
  refine Bool.eq_false_iff.mpr fun q=>?_
  have e:D=tp:=Value.ref.inj (beq_iff_eq.mp q)
  subst e
  unfold clsIn at hc
  split at hc
  ·rename_i c' d' cd' sl' ho
   have z:=(X _ _ ho).symm.trans htp
   cases z
  ·cases hc
 ca:=fun X ⟨_,I⟩ k=>BJ hga hgt hcd ha hn htk hm hb X I k
end
end PySem.W
namespace L2
open PySem PySem.Spec PyProof.Rows
open A (yf)
theorem uH{X:Cx}:FPs X [] []:=trivial
theorem fP{X:Cx}{e:Expr}{es:List Expr}{p:St→Hp→Prop}{ps:List (St→Hp→Prop)}(h:FP X e p)(t:FPs X es ps):FPs X (e::es) (p::ps):=⟨h,t⟩
structure jO(K:PySem.W.Frag)(D:Addr):Prop where
 ga:PySem.W.findIn K (.ref D) "__getattribute__" = some (some (.builtin "BaseException.__getattribute__"))
 gt:PySem.W.findIn K (.ref D) "__getattr__" = some none
 cd:(PySem.W.clsIn K D).isSome=true
 at_:PySem.W.findIn K (.ref D) "__class__" = some (some (.builtin "object.__class__"))
 gn:PySem.W.specialIn K (.builtin "object.__class__") "__get__" = some (some (.builtin "getset_descriptor.__get__"))
 tk:PySem.W.takesIn K (.builtin "object.__class__")=some true
 mo:PySem.W.mroIn K D (.type "object")=some true
 mb:PySem.W.mroIn K D (.type "BaseException")=some true
section
variable{X:Cx}{pins:List (Addr×Obj)}{σ : St}{H:Hp}{s:Shared}
theorem Inv.instX(I:Inv X pins σ H s){ea C:Addr}(h:H ea=some (.ext (yf ea C))):∃ ox,PySem.W.InstAt s.heap ea ox C none:=by
 obtain⟨⟨o,h1,h2,h3,vs,h4⟩,_⟩:=(show di X.prog X.w H s.heap ea (.ext (yf ea C)) from I.hok ea _ h)
 refine⟨o,h1,h2,?_,by rw[h3];trivial⟩
 unfold PySem.W.notCls
 rw[h4]
inductive Wx:V→Value→Prop
 | own (C:Addr):Wx (.ref C) (.ref C)
 | blt (T:String):Wx (.ty T) (.type T)
def aaN(K:PySem.W.Frag):List V→Hp→VK→Prop:=fun xs H Q=>∃ ea C c c' b,xs=[.ref ea,c]∧H ea=some (.ext (yf ea C))∧jO K C∧Wx c c'∧PySem.W.kitOne K (.ref C) c'=some b∧Q (.bl b) H
theorem qI:lL X (.builtin "isinstance") (aaN X.K):=by
 intro pins s σ H xs us Q I r h
 obtain⟨ea,C,c,c',b,rfl,he,k,hc,e,q⟩:=h
 obtain⟨u,w',rfl,rx,rt⟩:=vals2 r
 cases (show u=Value.ref ea from rx)
 have hw:w'=c':=by
  cases hc with
  | own C=>exact(show w'=Value.ref C from rt)
  | blt T=>exact(show w'=Value.type T from rt)
 subst hw
 exact PySem.W.kia_one (PySem.W.Im k.ga k.gt k.cd k.at_ k.gn k.tk k.mo k.mb) I.yX (I.instX he) e (fun z=>nomatch z) fun tk=>⟨.bl b,H,I.tok tk,rfl,q⟩
theorem Df:∀ {Cs:List Addr} {us:List Value},Vals (Cs.map V.ref) us→us=Cs.map .ref
 | [],_,.nil=>rfl
 | T::r,_,.cons a t=>by
  have a:_=Value.ref T:=a
  rw[a,Df t];rfl
def W0(K:PySem.W.Frag):List V→Hp→VK→Prop:=fun xs H Q=>∃ (ea C tp:Addr) (Cs:List Addr) (b:Bool),xs=[.ref ea,.ref tp]∧H tp=some (.tup (Cs.map V.ref))∧H ea=some (.ext (yf ea C))∧jO K C∧PySem.W.kitAny K (.ref C) (Cs.map .ref)=some b∧Q (.bl b) H
theorem DQ:lL X (.builtin "isinstance") (W0 X.K):=by
 intro pins s σ H xs us Q I r h
 obtain⟨ea,C,tp,Cs,b,rfl,ht,he,k,e,q⟩:=h
 obtain⟨u,w',rfl,rx,rt⟩:=vals2 r
 cases (show u=Value.ref ea from rx)
 cases (show w'=Value.ref tp from rt)
 obtain⟨_,its,rv,o,h1,h2,_,n,h3⟩:=(show di X.prog X.w H s.heap tp (.tup (Cs.map V.ref)) from I.hok tp _ ht)
 obtain rfl:=Df rv
 obtain⟨c,d,dt,sl⟩:=o
 simp only at h2 h3
 subst h2 h3
 exact PySem.W.kia_tup (PySem.W.Im k.ga k.gt k.cd k.at_ k.gn k.tk k.mo k.mb) I.yX (I.instX he) h1 e (fun z=>nomatch z) fun tk=>⟨.bl b,H,I.tok tk,rfl,q⟩
end
end L2
namespace Mi
open PySem
def yW(i:Nat)(b:String→Option Bool):E:=fun e=>match e[i]? with
 | some (some (.ex c))=>match b c with
  | some k=>.ok (.bl k)
  | none=>.no
 | _=>.no
end Mi
namespace A
open PySem L2 PyProof.Rows So
open Mi (D W Rs Fin mK ao fB Out Tg yR)
variable[Tb:jf]
section
variable{K:PySem.W.Frag}{M:Nat→Bool}{b:String→Option Bool}
theorem uz:Uw M [] []:=trivial
theorem fM{g:Mi.Env→Bool}{p:L2.St→Hp→Prop}{gs:List (Mi.Env→Bool)}{ps:List (L2.St→Hp→Prop)}(h:PG M g p)(t:Uw M gs ps):Uw M (g::gs) (p::ps):=⟨h,t⟩
theorem S9{i:Nat}{e:Mi.Env}{k:D→Prop}(h:Fin (Mi.yW i b e) k):∃ c q,e[i]? = some (some (.ex c))∧b c=some q∧k (.bl q):=by
 unfold Mi.yW at h
 split at h
 ·rename_i c hc
  split at h
  ·rename_i q hq
   exact⟨c,q,hc,hq,h⟩
  ·exact h.elim
 ·exact h.elim
theorem Eh{i:Nat}{c:V}{c':Value}(hm:M i=false)(hc:Wx c c')(hb:∀ x k,b x=some k→jO K (Tb.cl x)∧PySem.W.kitOne K (.ref (Tb.cl x)) c'=some k):AE M qV (Ye (aaN K) (lg (vq i) (lg (tC c) vz))) (Mi.yW i b):=fun e σ H Hv Q I h=>by
 obtain⟨x,k,he,hk,q⟩:=S9 h
 obtain⟨v,hv,a,rfl,ha⟩:=I.nob i _ he hm
 obtain⟨h1,h2⟩:=hb x k hk
 exact⟨_,hv,a,_,c,c',k,rfl,I.vw.sub _ _ ha,h1,hc,h2,q _ H Hv (.refl I.vw) jJ⟩
def QL:List Addr→TA
 | []=>vz
 | C::r=>lg (tC (.ref C)) (QL r)
theorem Hg:∀ (Cs:List Addr) (σ : L2.St) (H:Hp) (Q:List V→Hp→Prop),Q (Cs.map V.ref) H→QL Cs σ H Q
 | [],_,_,_,h=>h
 | C::r,σ,H,Q,h=>Hg r σ H _ h
theorem Ut{i:Nat}{Cs:List Addr}(hm:M i=false)(hl:Cs.length≤100)(hb:∀ x k,b x=some k→jO K (Tb.cl x)∧PySem.W.kitAny K (.ref (Tb.cl x)) (Cs.map .ref)=some k):AE M qV (Ye (W0 K) (lg (vq i) (lg (Vb (QL Cs)) vz))) (Mi.yW i b):=fun e σ H Hv Q I h=>by
 obtain⟨x,k,he,hk,q⟩:=S9 h
 obtain⟨v,hv,a,rfl,ha⟩:=I.nob i _ he hm
 obtain⟨h1,h2⟩:=hb x k hk
 refine⟨_,hv,Hg Cs σ H _ ⟨by rw[List.length_map,sizeLine_eq];omega,fun p hp=>?_⟩⟩
 have g:dC H Hv (upd H p (.tup (Cs.map V.ref))) (upd Hv p (.tup (Cs.map V.ref))):=.new I.vw hp
 exact⟨a,_,p,Cs,k,rfl,bc,g.old.at (I.vw.sub _ _ ha) trivial,h1,h2,q _ _ _ g jJ⟩
end
end A
namespace Mi
open PySem
def Qy(x:Str):Str:=⟨PySem.placed x fun _ c=>Unicode.upperOf c⟩
def K4:D→Rs D
 | .str x=>aO ((Qy x).length≤16777216) (.ok (.str (Qy x)))
 | _=>.no
end Mi
namespace L2
open PySem PySem.Spec PyProof.Rows
section
variable{X:Cx}
def rUp:V→List V→Hp→VK→Prop:=fun x vs H Q=>∃ y:Str,x=.str y∧vs=[]∧(Mi.Qy y).length≤sizeLine∧Q (.str (Mi.Qy y)) H
theorem R5:UG X "str.upper" rUp:=by
 intro pins s σ H x vs v us Q I rx rv h
 obtain⟨y,rfl,rfl,hz,q⟩:=h
 obtain⟨t,rfl⟩:=rx
 cases rv
 have hl:PySem.Builtin.Str.tooLong (PySem.placed y fun _ c=>Unicode.upperOf c).size=false:=by
  unfold PySem.Builtin.Str.tooLong
  exact decide_eq_false (Nat.not_lt.mpr hz)
 exact call_gives F.slot_str_upper (typeIs_str s y t) F.entry_str_upper (F.args_str_upper_1 _) (gives_str_upper y t hl) ⟨hz,.str (Mi.Qy y),H,I.tok _,⟨_,rfl⟩,q⟩
end
end L2
namespace A
open PySem L2 PyProof.Rows So
open Mi (D W Rs Fin ao)
variable[Tb:jf]
section
variable{K:PySem.W.Frag}{M:Nat→Bool}{ta:TE}{a:Mi.E}
theorem Ws(ha:AE M qP ta a):AE M qV (aaw K "str" rUp ta) (Mi.m1 Mi.K4 a):=fun e σ H Hv Q I h =>
 ha e σ H Hv _ I ((ao.mp h).mono fun x hx v H1 Hv1 g1 rx=>by
  cases x with
  | str y =>
   obtain⟨hz,hk⟩:=Mi.bx (show Fin (Mi.aO ((Mi.Qy y).length≤16777216) _) _ from hx)
   cases RD.str rx
   exact⟨rfl,y,rfl,rfl,by rw[sizeLine_eq];exact hz,(Mi.jX hk) _ H1 Hv1 g1 vD⟩
  | _=>exact hx.elim)
end
end A
namespace Mi
def Ht(m:S):S:=fun e=>match m e with
 | .ok (.rt w)=>.ok (.rt w)
 | _=>.no
end Mi
namespace A
open PySem L2 PyProof.Rows So
open Mi (D W Rs Fin ao Out Tg)
variable[Tb:jf]
section
variable{M:Nat→Bool}{κ : Kd}{t:TS}{m:Mi.S}
theorem ZR(y:Nat)(hy:M y=true)(h:AS (fun j=>M j && !(j == y)) κ t m):AS M κ t (Mi.Ht m):=fun H0 Hv0 e σ H Hv D I f=>by
 have nb:∀ {j:Nat},(M j && !(j == y))=false→M j=false∨j=y:=fun {j} z=>by
  cases q:M j with
  | false=>exact .inl rfl
  | true=>rw[q] at z;exact .inr (by simpa using z)
 have nt:∀ {j:Nat},(M j && !(j == y))=true→M j=true∧j≠y:=fun {j} z=>by simpa using z
 have fin:∀ Hv',dC H0 Hv0 H Hv'→R0 (fun j=>M j && !(j == y)) e σ H Hv'→t D σ H:=fun Hv' gw R=>by
  refine h H0 Hv0 e σ H Hv' D ⟨R,gw,fun i w a q1 q2 q3=>I.fresh i w a q1 (nt q2).1 q3,fun i j w w' a b hij q1 q2 q3 q4 q5 q6=>I.sep i j w w' a b hij q1 q2 (nt q3).1 (nt q4).1 q5 q6⟩ ?_
  unfold Mi.Ht at f
  cases hm:m e with
  | no=>rw[hm] at f;exact f.elim
  | ex z=>rw[hm] at f;exact f.elim
  | ok o =>
   rw[hm] at f
   cases o with
   | rt w=>exact f
   | nx e2=>exact f.elim
   | bk e2=>exact f.elim
   | ct e2=>exact f.elim
 have other:(∀ w0,e[y]?≠some (some w0))→t D σ H:=fun none=>fin Hv I.gw ⟨I.vw,I.len,fun j w' z q=>by
  rcases nb q with q|rfl
  ·exact I.nob j w' z q
  ·exact absurd z (none w'),fun j w' z q=>I.own j w' z (nt q).1⟩
 cases he:e[y]? with
 | none=>exact other fun w0 z=>by rw[he] at z;cases z
 | some ow =>
  cases ow with
  | none=>exact other fun w0 z=>by rw[he] at z;cases z
  | some w0 =>
   obtain⟨p,Hv',q,I',s,r⟩:=I.Yl hy he
   refine fin Hv' I'.gw ⟨I'.vw,I.len,fun j w' z q2=>?_,fun j w' z q2=>?_⟩
   ·by_cases hj:j=y
    ·subst hj
     rw[he] at z;cases z
     exact⟨_,q,r⟩
    ·exact I'.nob j w' (by rw[List.getElem?_set_ne (Ne.symm hj)];exact z) ((nb q2).resolve_right hj)
   ·obtain⟨m1,hj⟩:=nt q2
    exact I'.own j w' (by rw[List.getElem?_set_ne (Ne.symm hj)];exact z) m1
end
end A
namespace Mi
open PySem
end Mi
namespace L2
open PySem PySem.Spec PyProof.Rows
end L2
namespace A
open PySem L2 PyProof.Rows So
open Mi (D W Rs Fin ao)
variable[Tb:jf]
end A
namespace Mi
open PySem
end Mi
namespace A
open PySem L2 PyProof.Rows So
open Mi (D W Rs Fin mK ao fB Out Tg yR)
variable[Tb:jf]
end A
namespace L2
open PySem PySem.Spec PyProof.Rows
end L2
namespace Mi
open PySem
end Mi
namespace A
open PySem L2 PyProof.Rows So
open Mi (D W Rs Fin ao Out Tg)
variable[Tb:jf]
end A
namespace Mi
open PySem
end Mi
namespace L2
open PySem PySem.Spec PyProof.Rows
end L2
namespace A
open PySem L2 PyProof.Rows
open Mi (D W Rs Fin ao)
variable[Tb:jf]
end A
namespace Mi
open PySem
def Av(z:Str)(n:Nat):Str:=⟨(List.replicate n z.cps).foldl (· ++ ·) #[]⟩
def Xm:D→D→Rs D
 | .str z,.int n=>aO (2≤n∧n≤100∧z.length≤1000) (.ok (.str (Av z n.toNat)))
 | _,_=>.no
theorem Bu:∀ n:Nat,(List.replicate n (#[]:Array Nat)).foldl (· ++ ·) #[] = #[]
 | 0=>rfl
 | n+1=>by rw[List.replicate_succ,List.foldl_cons,Array.append_empty,Bu n]
theorem Dv(c:Array Nat):∀ (n:Nat) (acc:Array Nat),((List.replicate n c).foldl (· ++ ·) acc).size=acc.size+n * c.size
 | 0,acc=>by rw[Nat.zero_mul];rfl
 | n+1,acc=>by rw[List.replicate_succ,List.foldl_cons,Dv c n,Array.size_append,Nat.succ_mul];omega
theorem Hw(z:Str)(n:Nat):(Av z n).length=n * z.length:=by
 show ((List.replicate n z.cps).foldl (· ++ ·) #[]).size=_
 rw[Dv];simp;rfl
theorem Om{z:Str}(h:z.length=0)(n:Nat):Av z n=z:=by
 obtain⟨c⟩:=z
 have e:c = #[]:=Array.eq_empty_of_size_eq_zero h
 subst e
 unfold Av
 rw[Bu]
end Mi
namespace L2
open PySem PySem.Spec PyProof.Rows
section
variable{X:Cx}
def WX:R2:=fun x y H Q=>∃ (z:Str) (n:Int),x=.str z∧y=.int n∧2≤n∧n≤100∧z.length≤1000∧Q (.str (Mi.Av z n.toNat)) H
theorem Vu:qU X (binaryOp .Mult) WX:=by
 intro pins s σ H x y v u Q I rx ry h
 obtain⟨z,n,rfl,rfl,h1,h2,h3,q⟩:=h
 obtain⟨t,rfl⟩:=rx
 obtain⟨t',rfl⟩:=ry
 refine P.mul_str (by simp;omega) (fun _ _=>?_) (fun _ _=>?_) ?_
 ·have:(1000:Int)≤(2 ^ 63 - 1) / n:=(Int.le_ediv_iff_mul_le (by omega)).mpr (by omega)
  omega
 ·unfold Builtin.Str.tooLong
  refine decide_eq_false (Nat.not_lt.mpr ?_)
  rw[sizeLine_eq]
  have e:n.toNat≤100:=by omega
  have:=Nat.mul_le_mul h3 e
  omega
 ·rw[if_neg (by omega)]
  split
  ·rename_i w
   have e0:z.length=0:=by
    rw[Bool.or_eq_true] at w
    rcases w with w|w
    ·have:=beq_iff_eq.mp w;omega
    ·exact beq_iff_eq.mp w
   rw[Mi.Om e0] at q
   exact⟨.str z,H,I,⟨t,rfl⟩,q⟩
  ·refine⟨?_,.str (Mi.Av z n.toNat),H,I.tok _,⟨_,rfl⟩,q⟩
   show (Mi.Av z n.toNat).length≤sizeLine
   rw[Mi.Hw,sizeLine_eq]
   have e:n.toNat≤100:=by omega
   have:=Nat.mul_le_mul e h3
   omega
end
end L2
namespace A
open PySem L2 PyProof.Rows
open Mi (D W Rs Fin ao)
variable[Tb:jf]
section
variable{M:Nat→Bool}
theorem ZK:B2 qV WX Mi.Xm:=fun x y v u H Hv Q vw rx ry h=>by
 cases x with
 | str z=>cases y with
  | int n =>
   obtain⟨⟨a,b,c⟩,h⟩:=Mi.bx h
   cases RD.str rx
   cases RD.int ry
   exact⟨z,n,rfl,rfl,a,b,c,(Mi.jX h) _ H Hv (.refl vw) vD⟩
  | _=>exact h.elim
 | _=>exact h.elim
theorem Ys{i:Int}(h1:i.natAbs.log2 < 1920)(h2:(PySem.Str.ofString (toString i)).length≤100000):PG M (fun _=>true) (fun σ H=>tC (.int i) σ H fun v H'=>H'=H∧∃ i:Int,v=.int i∧i.natAbs.log2 < 1920∧(PySem.Str.ofString (toString i)).length≤100000):=fun _ _ _ _ _ _=>⟨rfl,i,rfl,h1,h2⟩
end
end A
namespace Mr
open PySem Mi
def j8:S :=
 (oA (rF (mV 1)) (.n 2)
 (fL (cB (m2 fZ (mV 2) (mV 0)))
 jY
 aX))
def bM:Fn:=uK 2 3 j8
def yL:S :=
 (aV (qe (bh bM [(wD (m2 dU (mV 0) (mC (.int 0)))),(wD (mN ie [(mV 1)]))]))
 (cY (wD (mN pM [(gr [some 1,none,none] (rF (m2 dU (mV 0) (mC (.int 1)))) (.t [1,2]) (cB (m2 rQ (mV 2) (mV 0))) (mV 1))]))))
def kI:Fn:=uK 2 2 yL
def u6:S :=
 (aV (oA (rF (m2 dU (mV 0) (mC (.int 0)))) (.n 2)
 (fL (nF (cB (m2 fZ (mV 2) (mV 1))) (cB (mN Lb [(gr [some 1,none] (rF (bh kI [(wD (mV 0)),(wD (mV 2))])) (.n 1) jq (m2 Ja (mV 1) (mV 0)))])))
 (cY (wD (mV 2)))
 aX))
 (cY (wD (mC .non))))
def eG:Fn:=uK 2 3 u6
def Ed:S :=
 (aV (bV 1 (mN ie []))
 (aV (bV 2 (oG eG [(wD (mV 0)),(wD (mV 1))]))
 (aV (xT 100 (cB (m2 BP (mV 2) (mC .non)))
 (aV (dG 1 (mV 2))
 (bV 2 (oG eG [(wD (mV 0)),(wD (mV 1))]))))
 (cY (wV 1)))))
def mz:Fn:=Tv 1 3 Ed
def yo:S :=
 (aV (bV 2 (mC (.str "etaoinshrdlucmfwypvbgkqjxz")))
 (aV (fL (cB (m2 sG (m2 bI (mV 0) (mC (.int 4))) (mC (.int 2))))
 (aV (bV 3 (m2 Nq (mC (.str "")) (gr [some 2,some 0,none] (ik (mC (.int 8))) (.n 2) jq (m2 dU (mV 0) (m2 bI (m2 cJ (mV 1) (m2 bU (mC (.int 4)) (m2 dF (mC (.int 3)) (mV 2)))) (mC (.int 26)))))))
 (aV (fL (cB (m2 rQ (m2 bI (mV 0) (mC (.int 4))) (mC (.int 0))))
 (cY (wD (gr [some 3,none] (ik (mV 1)) (.n 1) jq (dY kY (mV 0) none (some (m2 bU (mV 1) (mC (.int 1))))))))
 aX)
 (cY (wD (gr [some 3,none] (ik (mV 1)) (.n 1) jq (dY kY (mV 0) (some (m2 za (mC (.int 7)) (mV 1))) none))))))
 aX)
 (aV (bV 4 (m2 bI (m2 cJ (mV 0) (mC (.int 4))) (mC (.int 8))))
 (aV (bV 5 (m2 Nq (mC (.str "")) (gr [some 2,some 0,none] (ik (mV 4)) (.n 2) jq (m2 dU (mV 0) (m2 bI (m2 bU (m2 bU (m2 cJ (mV 1) (mC (.int 32))) (m2 dF (mC (.int 5)) (mV 2))) (m2 dF (mV 2) (mV 2))) (mC (.int 26)))))))
 (aV (bV 6 (m2 bI (m2 cJ (mV 0) (mC (.int 256))) (m2 bU (mV 4) (mC (.int 1)))))
 (cY (wD (gr [some 5,some 2,some 6,some 0,none] (ik (mV 1)) (.n 4) jq (m2 bU (m2 bU (dY kY (mV 0) none (some (mV 2))) (m2 dU (mV 1) (m2 bI (m2 bU (m2 cJ (mV 3) (mC (.int 7))) (m2 dF (mC (.int 5)) (mV 4))) (mC (.int 26))))) (dY kY (mV 0) (some (mV 2)) none))))))))))
def iB:Fn:=Tv 2 7 yo
def Ji:S :=
 (aV (fL (cB (m2 sG (mV 1) (mN cZ [(mV 0)])))
 (cY (wD (m2 dU (mV 0) (mV 1))))
 aX)
 (aV (bV 2 (m2 bU (mC (.int 30011)) (m2 dF (m2 dF (mC (.int 709)) (mV 1)) (mV 1))))
 (aV (fL (cB (m2 zb (mN cZ [(mV 0)]) (mC (.int 0))))
 (bV 2 (m2 bU (mV 2) (m2 dF (m2 bI (m2 dU (mV 0) (mC (.int 0))) (mC (.int 99991))) (m2 bU (m2 bU (m2 dF (mV 1) (mV 1)) (m2 dF (mC (.int 2)) (mV 1))) (mC (.int 5))))))
 aX)
 (cY (wD (mV 2))))))
def cO:Fn:=uK 2 3 Ji
def yJ:S :=
 (aV (bV 2 (gr [none] (ik (mV 1)) (.n 0) jq (mV 0)))
 (aV (bV 3 (mN ie []))
 (aV (bV 4 (m2 bI (mV 0) (mC (.int 2147483647))))
 (aV (oA (ik (mV 1)) (.n 5)
 (aV (bV 4 (m2 bI (m2 bU (m2 bU (m2 dF (mV 4) (mC (.int 48271))) (m2 dF (mC (.int 7)) (mV 5))) (mC (.int 1))) (mC (.int 2147483647))))
 (jZ 3 2 (m2 bI (m2 cJ (mV 4) (mC (.int 32))) (mN cZ [(mV 2)])))))
 (cY (wV 3))))))
def mW:Fn:=Tv 2 6 yJ
def Ec:S :=
 (aV (bV 2 (m2 bU (mC (.int 1)) (m2 bI (bh cO [(wD (mV 0)),(wD (mC (.int 0)))]) (mV 1))))
 (aV (bV 3 (bh iB [(wD (bh cO [(wD (mV 0)),(wD (mC (.int 1)))])),(wD (mV 2))]))
 (aV (bV 4 (bh mW [(wD (bh cO [(wD (mV 0)),(wD (mC (.int 2)))])),(wD (mV 2))]))
 (aV (bV 5 (m2 dU (mN ie [(mC (.int 4)),(mC (.int 1)),(mC (.int 2)),(mC (.int 3)),(mC (.int 2)),(mC (.int 3))]) (m2 bI (bh cO [(wD (mV 0)),(wD (mC (.int 3)))]) (mC (.int 6)))))
 (aV (bV 6 (mN ie []))
 (aV (oA (ik (mV 2)) (.n 7)
 (oA (ik (mV 2)) (.n 8)
 (aV (bV 9 (bh cO [(wD (mV 0)),(wD (m2 bU (m2 bU (mC (.int 4)) (m2 cJ (m2 dF (mN vR [(mV 7),(mV 8)]) (m2 za (mN vR [(mV 7),(mV 8)]) (mC (.int 1)))) (mC (.int 2)))) (mN CQ [(mV 7),(mV 8)])))]))
 (fL (nF (cB (m2 sG (m2 dU (mV 4) (mV 7)) (m2 dU (mV 4) (mV 8)))) (cB (m2 sG (m2 bI (m2 cJ (m2 bI (m2 dF (mV 9) (mC (.int 48271))) (mC (.int 2147483647))) (mC (.int 16))) (mC (.int 4))) (mV 5))))
 (dG 6 (mN dTup [(m2 dU (mV 3) (mV 7)),(m2 dU (mV 3) (mV 8))]))
 aX))))
 (cY (wD (mN dTup [(mN pM [(mV 3)]),(mN pM [(mV 6)])])))))))))
def qx:Fn:=uK 2 10 Ec
def qJ(F:Fn):S :=
 (aV (fL (xf (cB (m1 (yq ["str"]) (mV 1))) (cB (m1 (yq ["int"]) (mV 1))))
 (aV (fL (xf (cB (m2 BK (m1 (yq ["bool"]) (mV 0)) (m1 (yq ["bool"]) (mV 1)))) (cB (m2 BK (m1 (yq ["str"]) (mV 0)) (m1 (yq ["str"]) (mV 1)))))
 (cY (wD (mC (.bl false))))
 aX)
 (cY (wD (Ge (m1 (yq ["int", "str"]) (mV 0)) (m2 rQ (mV 0) (mV 1))))))
 aX)
 (aV (fL (xf (cB (m2 BK (m1 (yq ["list"]) (mV 0)) (m1 (yq ["list"]) (mV 1)))) (mF (cB (m1 (yq ["list", "tuple"]) (mV 0)))))
 (cY (wD (mC (.bl false))))
 aX)
 (aV (fL (cB (m2 BK (mN cZ [(mV 0)]) (mN cZ [(mV 1)])))
 (cY (wD (mC (.bl false))))
 aX)
 (aV (oA (KJ (mV 0) (mV 1)) (.t [2,3])
 (fL (mF (cB (bh F [(wD (mV 2)),(wD (mV 3))])))
 (cY (wD (mC (.bl false))))
 aX))
 (cY (wD (mC (.bl true))))))))
def dw:Nat→Fn
 | 0=>fnZ
 | n+1=>uK 2 4 (qJ (dw n))
def uY:S :=
 (cY (wD (Gb [0] (mV 1) (gr [some 1,none] (rF (mV 0)) (.n 1) jq (m2 T6 (mV 0) (mV 1))))))
def fV:Fn:=Tv 2 2 uY
def yp:S :=
 (cY (wD (Ge (iI G5 G5 (mC (.int 1)) (mN cZ [(mV 0)]) (mC (.int 8))) (mN Lb [(gr [none] (rF (mV 0)) (.n 0) jq (m2 Ja (mV 0) (mC (.str "abcdefghijklmnopqrstuvwxyz"))))]))))
def dB:Fn:=uK 1 1 yp
def m7:S :=
 (aV (fL (mF (cB (iI G5 G5 (mC (.int 1)) (mN cZ [(mV 0)]) (mC (.int 8)))))
 jY
 aX)
 (aV (yE 1 (fun _=>.ok (.dk [])))
 (oA (rF (mV 0)) (.n 2)
 (aV (fL (mF (cB (bh dB [(wD (mV 2))])))
 jY
 aX)
 (aV (fL (cB (qy 1 (mV 2)))
 jY
 aX)
 (iK 1 (mV 2) (mC (.bl true))))))))
def eV:Fn:=uK 1 3 m7
def m6:S :=
 (aV (yE 2 (fun _=>.ok (.dt [])))
 (oA (rF (mV 1)) (.t [3,4])
 (aV (qe (bh bM [(wD (mV 0)),(wD (mN ie [(mV 3),(mV 4)]))]))
 (aV (fL (cB (m2 rQ (mV 3) (mV 4)))
 jY
 aX)
 (aV (fL (cB (qy 2 (mN dTup [(mV 3),(mV 4)])))
 jY
 aX)
 (aV (iK 2 (mN dTup [(mV 3),(mV 4)]) (mC (.bl true)))
 (iK 2 (mN dTup [(mV 4),(mV 3)]) (mC (.bl true)))))))))
def eU:Fn:=uK 2 5 m6
def uZ:S :=
 (aV (bV 1 (bh mz [(wD (mV 0))]))
 (aV (bV 2 (gr [some 1,none] (rF (m2 dU (mV 0) (mC (.int 0)))) (.n 1) (cB (m2 fZ (mV 1) (mV 0))) (mV 1)))
 (fL (La (mV 2))
 jY
 aX)))
def jT:Fn:=uK 1 3 uZ
def BW:S :=
 (aV (qe (bh eV [(wD (mV 0))]))
 (aV (qe (bh eU [(wD (mV 0)),(wD (mV 1))]))
 (aV (bV 2 (gr [none,none] (rF (mV 1)) (.t [0,1]) jq (mN dTup [(mV 0),(mV 1)])))
 (aV (bV 3 (mN dTup [(mN pM [(mV 0)]),(mN pM [(bh fV [(wD (mV 0)),(wD (mV 2))])])]))
 (aV (qe (bh jT [(wD (mV 3))]))
 (cY (wD (mV 3))))))))
def my:Fn:=uK 2 4 BW
def jN:S :=
 (oA (iP (rF (mV 1))) (.n 2)
 (fL (cP (cB (m2 fZ (mV 2) (mV 0))))
 (iH "NoName" [(gR 2),(fun _=>true)])
 (sP aX)))
def cA:Fn:=uK 2 3 jN
def xj:S :=
 (aV (bV 2 (m2 dU (mV 0) (m2 bI (mV 1) (mN cZ [(mV 0)]))))
 (aV (bV 3 (mC (.str "zqxjkvbpygfwmucldrhsnioate")))
 (aV (bV 4 (mN ie [(m2 bU (mV 2) (m2 dU (mV 3) (m2 bI (m2 cJ (mV 1) (mC (.int 8))) (mC (.int 26))))),(dY kY (mV 2) (some (mC (.int 1))) none),(dY kY (mV 2) none (some (m1 We (mC (.int 1))))),(m2 bU (m2 dU (mV 3) (m2 bI (m2 cJ (mV 1) (mC (.int 5))) (mC (.int 26)))) (mV 2)),(m1 K4 (mV 2))]))
 (aV (bV 4 (m2 bU (mV 4) (gr [none] (rF (mV 3)) (.n 0) jq (mV 0))))
 (aV (bV 4 (gr [some 0,none] (rF (mV 4)) (.n 1) (nF (cB (m2 fZ (mV 1) (mV 0))) (cB (m2 BK (mV 1) (mC (.str ""))))) (mV 1)))
 (cY (wD (m2 dU (mV 4) (m2 bI (m2 cJ (mV 1) (mC (.int 3))) (mN CQ [(mC (.int 5)),(mN cZ [(mV 4)])]))))))))))
def dI:Fn:=uK 2 5 xj
def lO:S :=
 (aV (fL (cP (mF (cB (iI G5 G5 (mC (.int 1)) (mN cZ [(mV 0)]) (mC (.int 8))))))
 (iH "WrongSize" [(fun _=>true),(fun _=>true),(fun _=>true)])
 (sP aX))
 (aV (sP (yE 1 (fun _=>.ok (.dk []))))
 (oA (iP (rF (mV 0))) (.n 2)
 (aV (fL (cP (mF (cB (bh dB [(wD (mV 2))]))))
 (iH "NoWord" [(gR 2),(fun _=>true)])
 (sP aX))
 (aV (fL (cP (cB (qy 1 (mV 2))))
 (iH "Twice" [(gR 2),(fun _=>true)])
 (sP aX))
 (sP (iK 1 (mV 2) (mC (.bl true)))))))))
def bB:Fn:=uK 1 3 lO
def lN:S :=
 (aV (sP (yE 2 (fun _=>.ok (.dt []))))
 (oA (iP (rF (mV 1))) (.t [3,4])
 (aV (jr cA [(wD (mV 0)),(wD (mN ie [(mV 3),(mV 4)]))])
 (aV (fL (cP (cB (m2 rQ (mV 3) (mV 4))))
 (iH "Twice" [(fun _=>true),(gR 3),(fun _=>true)])
 (sP aX))
 (aV (fL (cP (cB (qy 2 (mN dTup [(mV 3),(mV 4)]))))
 (iH "Twice" [(fun _=>true),(gR 3),(fun _=>true),(gR 4)])
 (sP aX))
 (aV (sP (iK 2 (mN dTup [(mV 3),(mV 4)]) (mC (.bl true))))
 (sP (iK 2 (mN dTup [(mV 4),(mV 3)]) (mC (.bl true))))))))))
def dX:Fn:=uK 2 5 lN
def BZ:S :=
 (aV (sP (bV 1 (bh mz [(wD (mV 0))])))
 (aV (sP (bV 2 (gr [some 1,none] (rF (m2 dU (mV 0) (mC (.int 0)))) (.n 1) (cB (m2 fZ (mV 1) (mV 0))) (mV 1))))
 (fL (cP (La (mV 2)))
 (sP jY)
 (sP aX))))
def oF:Fn:=uK 1 3 BZ
def yM:S :=
 (aV (jr bB [(wD (mV 0))])
 (aV (jr dX [(wD (mV 0)),(wD (mV 1))])
 (aV (sP (bV 2 (gr [none,none] (rF (mV 1)) (.t [0,1]) jq (mN dTup [(mV 0),(mV 1)]))))
 (aV (sP (bV 3 (mN dTup [(mN pM [(mV 0)]),(mN pM [(bh fV [(wD (mV 0)),(wD (mV 2))])])])))
 (aV (jr oF [(wD (mV 3))])
 (sP (cY (wD (mV 3)))))))))
def mY:Fn:=uK 2 4 yM
def Jh:S :=
 (aV (bV 1 (mN ie []))
 (aV (fL (cB (yW 0 (fun c=>([("NoName", false),("WrongSize", false),("NoWord", false),("Twice", false)]:List (String×Bool)).lookup c)))
 (dG 1 (mC (.str "Locked, NoArrow, NoLabel or NoNet")))
 aX)
 (aV (fL (cB (yW 0 (fun c=>([("NoName", false),("WrongSize", false),("NoWord", false),("Twice", false)]:List (String×Bool)).lookup c)))
 (dG 1 (mC (.str "NoRow, NoSuch, NoText, NoTie or Unlike")))
 aX)
 (aV (fL (cB (yW 0 (fun c=>([("NoName", true),("WrongSize", false),("NoWord", false),("Twice", false)]:List (String×Bool)).lookup c)))
 (dG 1 (mC (.str "NoName")))
 aX)
 (aV (fL (cB (yW 0 (fun c=>([("NoName", false),("WrongSize", false),("NoWord", true),("Twice", false)]:List (String×Bool)).lookup c)))
 (dG 1 (mC (.str "NoWord")))
 aX)
 (aV (fL (cB (yW 0 (fun c=>([("NoName", false),("WrongSize", false),("NoWord", false),("Twice", false)]:List (String×Bool)).lookup c)))
 (dG 1 (mC (.str "Ring")))
 aX)
 (aV (fL (cB (yW 0 (fun c=>([("NoName", false),("WrongSize", false),("NoWord", false),("Twice", true)]:List (String×Bool)).lookup c)))
 (dG 1 (mC (.str "Twice")))
 aX)
 (aV (fL (cB (yW 0 (fun c=>([("NoName", false),("WrongSize", true),("NoWord", false),("Twice", false)]:List (String×Bool)).lookup c)))
 (dG 1 (mC (.str "WrongSize")))
 aX)
 (aV (fL (mF (cB (yW 0 (fun c=>([("NoName", true),("WrongSize", true),("NoWord", true),("Twice", true)]:List (String×Bool)).lookup c))))
 (dG 1 (mC (.str "no ValueError")))
 aX)
 (cY (wV 1)))))))))))
def mX:Fn:=Tv 1 2 Jh
def u0:S :=
 (aV (bV 2 (mN ie []))
 (aV (Q4 3 ["NoName", "WrongSize", "NoWord", "Twice"]
 (jr mY [(wD (mV 0)),(wD (mV 1))])
 (bV 2 (bh mX [(wV 3)])))
 (cY (wD (mV 2)))))
def fW:Fn:=uK 2 4 u0
def yK:S :=
 (aV (bV 2 (mC (.str "ABCXYZ0189 _-.,:>|\n\t")))
 (aV (bV 3 (m2 bI (m2 cJ (mV 1) (mC (.int 4))) (mN vR [(mC (.int 1)),(mN cZ [(mV 0)])])))
 (aV (fL (cB (m2 rQ (m2 bI (mV 1) (mC (.int 4))) (mC (.int 0))))
 (cY (wD (mC (.str ""))))
 aX)
 (aV (fL (cB (m2 rQ (m2 bI (mV 1) (mC (.int 4))) (mC (.int 1))))
 (cY (wD (dY kY (m2 Xm (mV 0) (mC (.int 9))) none (some (mC (.int 9))))))
 aX)
 (cY (wD (m2 bU (m2 bU (dY kY (mV 0) none (some (mV 3))) (m2 dU (mV 2) (m2 bI (m2 cJ (mV 1) (mC (.int 64))) (mN cZ [(mV 2)])))) (dY kY (mV 0) (some (m2 bU (mV 3) (mC (.int 1)))) none))))))))
def jt:Fn:=uK 2 4 yK
def t7:S :=
 (aV (bV 3 (m2 bI (m2 cJ (mV 2) (mC (.int 3))) (mN cZ [(mV 0)])))
 (aV (fL (cB (m2 rQ (mV 1) (mC (.int 1))))
 (cY (wD (mN ie [])))
 aX)
 (aV (fL (cB (m2 rQ (mV 1) (mC (.int 2))))
 (cY (wD (m2 bU (m2 bU (dY kY (mV 0) none (some (mV 3))) (bh iB [(wD (m2 bU (m2 dF (mC (.int 4)) (m2 bI (mV 2) (m2 T4 (mC (.int 10)) (mC (.int 9))))) (mC (.int 2)))),(wD (m2 za (m2 bU (mC (.int 9)) (m2 bI (mV 2) (mC (.int 4)))) (mN cZ [(mV 0)])))])) (dY kY (mV 0) (some (mV 3)) none))))
 aX)
 (aV (fL (cB (m2 rQ (mV 1) (mC (.int 3))))
 (cY (wD (m2 bU (m2 bU (dY kY (mV 0) none (some (mV 3))) (mN ie [(bh jt [(wD (m2 dU (mV 0) (mV 3))),(wD (m2 cJ (mV 2) (mC (.int 24))))])])) (dY kY (mV 0) (some (m2 bU (mV 3) (mC (.int 1)))) none))))
 aX)
 (cY (wD (m2 bU (m2 bU (dY kY (mV 0) none (some (mV 3))) (mN ie [(m2 dU (mV 0) (m2 bI (m2 cJ (mV 2) (mC (.int 24))) (mN cZ [(mV 0)])))])) (dY kY (mV 0) (some (mV 3)) none))))))))
def dJ:Fn:=uK 3 4 t7
def rR:S :=
 (aV (bV 4 (m2 bI (m2 cJ (mV 3) (mC (.int 7))) (m2 bU (mN cZ [(mV 1)]) (mC (.int 1)))))
 (aV (bV 5 (m2 dU (mV 0) (m2 bI (m2 cJ (mV 3) (mC (.int 3))) (mN cZ [(mV 0)]))))
 (aV (bV 6 (m2 dU (mN ie [(mN dTup [(mV 5),(bh dI [(wD (mV 0)),(wD (m2 cJ (mV 3) (mC (.int 64))))])]),(mN dTup [(bh dI [(wD (mV 0)),(wD (m2 cJ (mV 3) (mC (.int 64))))]),(mV 5)])]) (m2 bI (mV 3) (mC (.int 2)))))
 (aV (fL (cB (m2 rQ (mV 2) (mC (.int 2))))
 (bV 6 (mN dTup [(mV 5),(mV 5)]))
 aX)
 (aV (fL (nF (cB (m2 zb (mV 2) (mC (.int 2)))) (cB (m2 zb (mN cZ [(mV 1)]) (mC (.int 0)))))
 (aV (bV 6 (m2 dU (mV 1) (m2 bI (m2 cJ (mV 3) (mC (.int 24))) (mN cZ [(mV 1)]))))
 (fL (cB (m2 rQ (mV 2) (mC (.int 4))))
 (bV 6 (mN dTup [(m2 dU (mV 6) (mC (.int 1))),(m2 dU (mV 6) (mC (.int 0)))]))
 aX))
 aX)
 (cY (wD (m2 bU (m2 bU (dY kY (mV 1) none (some (mV 4))) (mN ie [(mV 6)])) (dY kY (mV 1) (some (mV 4)) none)))))))))
def dO:Fn:=uK 4 7 rR
def u5:S :=
 (aV (fL (xf (cB (m2 sG (mN cZ [(mV 0)]) (mC (.int 1)))) (cB (m2 zb (mN cZ [(mV 0)]) (mC (.int 8)))))
 (cY (wD (mC (.str "WrongSize"))))
 aX)
 (aV (oA (yH (mV 0)) (.t [1,2])
 (aV (fL (xf (mF (cB (iI sG sG (mC (.int 0)) (mN cZ [(mV 2)]) (mC (.int 9))))) (cB (m2 zb (mN cZ [(gr [none] (rF (mV 2)) (.n 0) (xf (cB (m2 sG (mV 0) (mC (.str "a")))) (cB (m2 zb (mV 0) (mC (.str "z"))))) (mV 0))]) (mC (.int 0)))))
 (cY (wD (mC (.str "NoWord"))))
 aX)
 (fL (cB (m2 Ja (mV 2) (dY kY (mV 0) none (some (mV 1)))))
 (cY (wD (mC (.str "Twice"))))
 aX)))
 (cY (wD (mC (.str ""))))))
def jU:Fn:=uK 1 3 u5
def Nx:S :=
 (aV (bV 2 (bh jU [(wD (mV 0))]))
 (aV (fL (cB (m2 BK (mV 2) (mC (.str ""))))
 (cY (wD (mV 2)))
 aX)
 (aV (oA (yH (mV 1)) (.t [3,4])
 (aV (fL (xf (cB (m2 fZ (m2 dU (mV 4) (mC (.int 0))) (mV 0))) (cB (m2 fZ (m2 dU (mV 4) (mC (.int 1))) (mV 0))))
 (cY (wD (mC (.str "NoName"))))
 aX)
 (fL (xf (cB (m2 rQ (m2 dU (mV 4) (mC (.int 0))) (m2 dU (mV 4) (mC (.int 1))))) (xf (cB (m2 Ja (mV 4) (dY kY (mV 1) none (some (mV 3))))) (cB (m2 Ja (mN dTup [(m2 dU (mV 4) (mC (.int 1))),(m2 dU (mV 4) (mC (.int 0)))]) (dY kY (mV 1) none (some (mV 3)))))))
 (cY (wD (mC (.str "Twice"))))
 aX)))
 (cY (wD (mC (.str "")))))))
def uE:Fn:=uK 2 5 Nx
def Eb:S :=
 (aV (bV 1 (bh qx [(wD (mV 0)),(wD (mC (.int 8)))]))
 (aV (bV 2 (bh cO [(wD (mV 0)),(wD (mC (.int 32)))]))
 (aV (bV 3 (mN qK [(m2 dU (mV 1) (mC (.int 0)))]))
 (aV (bV 4 (mN qK [(m2 dU (mV 1) (mC (.int 1)))]))
 (aV (fL (nF (cB (m2 rQ (m2 bI (m2 cJ (mV 2) (mC (.int 300))) (mC (.int 3))) (mC (.int 1)))) (cB (m2 zb (mN cZ [(mV 4)]) (mC (.int 0)))))
 (aV (bV 5 (m2 bI (m2 cJ (mV 2) (mC (.int 1000))) (mN cZ [(mV 4)])))
 (vB 4 (mV 5) (mN dTup [(m2 dU (m2 dU (mV 4) (mV 5)) (mC (.int 1))),(m2 dU (m2 dU (mV 4) (mV 5)) (mC (.int 0)))])))
 aX)
 (Ht (aV (fL (cB (m2 sG (m2 bI (mV 2) (mC (.int 7))) (mC (.int 5))))
 (bV 4 (bh dO [(wD (mV 3)),(wD (mV 4)),(wD (m2 bU (mC (.int 1)) (m2 bI (m2 cJ (mV 2) (mC (.int 7))) (mC (.int 4))))),(wD (bh cO [(wD (mV 0)),(wD (mC (.int 33)))]))]))
 aX)
 (aV (fL (cB (m2 sG (m2 bI (mV 2) (mC (.int 14))) (mC (.int 5))))
 (bV 4 (bh dO [(wD (mV 3)),(wD (mV 4)),(wD (m2 bU (mC (.int 1)) (m2 bI (m2 cJ (mV 2) (mC (.int 56))) (mC (.int 4))))),(wD (bh cO [(wD (mV 0)),(wD (mC (.int 34)))]))]))
 aX)
 (aV (fL (cB (m2 zb (m2 bI (mV 2) (mC (.int 7))) (mC (.int 3))))
 (bV 3 (bh dJ [(wD (mV 3)),(wD (m2 bU (mC (.int 1)) (m2 bI (m2 cJ (mV 2) (mC (.int 7))) (mC (.int 4))))),(wD (bh cO [(wD (mV 0)),(wD (mC (.int 35)))]))]))
 aX)
 (aV (fL (nF (cB (m2 zb (m2 bI (mV 2) (mC (.int 7))) (mC (.int 3)))) (nF (cB (m2 rQ (m2 bI (m2 cJ (mV 2) (mC (.int 28))) (mC (.int 2))) (mC (.int 1)))) (cB (m2 zb (mN cZ [(mV 3)]) (mC (.int 0))))))
 (bV 3 (bh dJ [(wD (mV 3)),(wD (m2 bU (mC (.int 3)) (m2 bI (m2 cJ (mV 2) (mC (.int 56))) (mC (.int 2))))),(wD (bh cO [(wD (mV 0)),(wD (mC (.int 36)))]))]))
 aX)
 (aV (bV 6 (mN ie [(bh uE [(wD (mV 3)),(wD (mV 4))])]))
 (aV (bV 7 (mN ie [(mN qK [(mV 3)]),(mN qK [(mV 4)])]))
 (aV (fL (xf (cB (m2 BK (bh fW [(wD (m2 dU (mV 7) (mC (.int 0)))),(wD (m2 dU (mV 7) (mC (.int 1))))]) (mV 6))) (cB (m2 BK (mV 7) (mN ie [(mV 3),(mV 4)]))))
 (cY (wD (mC (.bl false))))
 aX)
 (aV (fL (cB (m2 BK (bh fW [(wD (m2 dU (mV 7) (mC (.int 0)))),(wD (m2 dU (mV 7) (mC (.int 1))))]) (mV 6)))
 (cY (wD (mC (.bl false))))
 aX)
 (cY (wD (bh (dw 4) [(wD (bh my [(wD (mN qK [(m2 dU (mV 1) (mC (.int 0)))])),(wD (mN qK [(m2 dU (mV 1) (mC (.int 1)))]))])),(wD (mV 1))])))))))))))))))))
def xY:Fn:=uK 1 8 Eb
end Mr
namespace Ux
open PySem L2 PyProof.Rows A
open Mr
def VP(x:Str):Str:=x ++ ".<locals>." ++ "<lambda>"
def top(i:Nat):Stmt:=PySem.Challenge.pw_arrowfind_k03_nets_refused.main.body.getD i (.Pass ⟨0,0,0,0⟩)
structure Txt(mg:Str→Option Value):Prop where
 cG:mg "len" = none
 b_range:mg "range" = none
 BX:mg "max" = none
 Jg:mg "min" = none
 ir:mg "tuple" = none
 jM:mg "list" = none
 b_isinstance:mg "isinstance" = none
 Jj:mg "all" = none
 b_any:mg "any" = none
 b_bool:mg "bool" = none
 b_str:mg "str" = none
 b_int:mg "int" = none
 b_zip:mg "zip" = none
 b_enumerate:mg "enumerate" = none
 b_sorted:mg "sorted" = none
 b_reversed:mg "reversed" = none
 b_set:mg "set" = none
 c_LETTERS:∃ t,mg "LETTERS" = some (.str "abcdefghijklmnopqrstuvwxyz" t)
 c_MOST_LETTERS:∃ t,mg "MOST_LETTERS" = some (.int 8 t)
 c_MOST_NAMES:∃ t,mg "MOST_NAMES" = some (.int 8 t)
section
variable[Tb:jf]
structure Own(mg:Str→Option Value)(base:Heap):Prop where
 o_ArrowError:OwnCls "ArrowError" (Tb.cl "ArrowError") [.type "ValueError", .type "Exception", .type "BaseException", .type "object"] "ValueError.__new__" mg base
 o_WrongSize:OwnCls "WrongSize" (Tb.cl "WrongSize") [.type "ValueError", .type "Exception", .type "BaseException", .type "object"] "ValueError.__new__" mg base
 o_NoWord:OwnCls "NoWord" (Tb.cl "NoWord") [.type "ValueError", .type "Exception", .type "BaseException", .type "object"] "ValueError.__new__" mg base
 o_Twice:OwnCls "Twice" (Tb.cl "Twice") [.type "ValueError", .type "Exception", .type "BaseException", .type "object"] "ValueError.__new__" mg base
 o_NoName:OwnCls "NoName" (Tb.cl "NoName") [.type "ValueError", .type "Exception", .type "BaseException", .type "object"] "ValueError.__new__" mg base
 o_Unlike:OwnCls "Unlike" (Tb.cl "Unlike") [.type "ValueError", .type "Exception", .type "BaseException", .type "object"] "ValueError.__new__" mg base
 o_NoArrow:OwnCls "NoArrow" (Tb.cl "NoArrow") [.type "ValueError", .type "Exception", .type "BaseException", .type "object"] "ValueError.__new__" mg base
 o_Locked:OwnCls "Locked" (Tb.cl "Locked") [.type "ValueError", .type "Exception", .type "BaseException", .type "object"] "ValueError.__new__" mg base
 o_NoTie:OwnCls "NoTie" (Tb.cl "NoTie") [.type "ValueError", .type "Exception", .type "BaseException", .type "object"] "ValueError.__new__" mg base
 o_NoSuch:OwnCls "NoSuch" (Tb.cl "NoSuch") [.type "ValueError", .type "Exception", .type "BaseException", .type "object"] "ValueError.__new__" mg base
 o_NoText:OwnCls "NoText" (Tb.cl "NoText") [.type "ValueError", .type "Exception", .type "BaseException", .type "object"] "ValueError.__new__" mg base
 o_NoRow:OwnCls "NoRow" (Tb.cl "NoRow") [.type "ValueError", .type "Exception", .type "BaseException", .type "object"] "ValueError.__new__" mg base
 o_NoLabel:OwnCls "NoLabel" (Tb.cl "NoLabel") [.type "ValueError", .type "Exception", .type "BaseException", .type "object"] "ValueError.__new__" mg base
 b_ArrowError:mg "ArrowError" = some (.ref (Tb.cl "ArrowError"))
 b_WrongSize:mg "WrongSize" = some (.ref (Tb.cl "WrongSize"))
 b_NoWord:mg "NoWord" = some (.ref (Tb.cl "NoWord"))
 b_Twice:mg "Twice" = some (.ref (Tb.cl "Twice"))
 b_NoName:mg "NoName" = some (.ref (Tb.cl "NoName"))
 b_Ring:mg "Ring" = some (.ref (Tb.cl "Ring"))
 b_Unlike:mg "Unlike" = some (.ref (Tb.cl "Unlike"))
 b_NoArrow:mg "NoArrow" = some (.ref (Tb.cl "NoArrow"))
 b_Locked:mg "Locked" = some (.ref (Tb.cl "Locked"))
 b_NoTie:mg "NoTie" = some (.ref (Tb.cl "NoTie"))
 b_NoSuch:mg "NoSuch" = some (.ref (Tb.cl "NoSuch"))
 b_NoNet:mg "NoNet" = some (.ref (Tb.cl "NoNet"))
 b_NoText:mg "NoText" = some (.ref (Tb.cl "NoText"))
 b_NoRow:mg "NoRow" = some (.ref (Tb.cl "NoRow"))
 b_NoLabel:mg "NoLabel" = some (.ref (Tb.cl "NoLabel"))
 n_ValueError:mg "ValueError" = none
end
section
variable{P:Program}{w:World}{K:PySem.W.Frag}{mg:Str→Option Value}{base:Heap}[Tb:jf]
structure Kit(K:PySem.W.Frag):Prop where
 k_ValueError:∀ x k,(fun c=>([("NoName", true),("WrongSize", true),("NoWord", true),("Twice", true)]:List (String×Bool)).lookup c) x=some k→jO K (Tb.cl x)∧PySem.W.kitOne K (.ref (Tb.cl x)) (.type "ValueError")=some k
 k_WrongSize:∀ x k,(fun c=>([("NoName", false),("WrongSize", true),("NoWord", false),("Twice", false)]:List (String×Bool)).lookup c) x=some k→jO K (Tb.cl x)∧PySem.W.kitOne K (.ref (Tb.cl x)) (.ref (Tb.cl "WrongSize"))=some k
 k_Twice:∀ x k,(fun c=>([("NoName", false),("WrongSize", false),("NoWord", false),("Twice", true)]:List (String×Bool)).lookup c) x=some k→jO K (Tb.cl x)∧PySem.W.kitOne K (.ref (Tb.cl x)) (.ref (Tb.cl "Twice"))=some k
 k_Ring:∀ x k,(fun c=>([("NoName", false),("WrongSize", false),("NoWord", false),("Twice", false)]:List (String×Bool)).lookup c) x=some k→jO K (Tb.cl x)∧PySem.W.kitOne K (.ref (Tb.cl x)) (.ref (Tb.cl "Ring"))=some k
 k_NoWord:∀ x k,(fun c=>([("NoName", false),("WrongSize", false),("NoWord", true),("Twice", false)]:List (String×Bool)).lookup c) x=some k→jO K (Tb.cl x)∧PySem.W.kitOne K (.ref (Tb.cl x)) (.ref (Tb.cl "NoWord"))=some k
 k_NoName:∀ x k,(fun c=>([("NoName", true),("WrongSize", false),("NoWord", false),("Twice", false)]:List (String×Bool)).lookup c) x=some k→jO K (Tb.cl x)∧PySem.W.kitOne K (.ref (Tb.cl x)) (.ref (Tb.cl "NoName"))=some k
 k_NoRow_NoSuch_NoText_NoTie_Unlike:∀ x k,(fun c=>([("NoName", false),("WrongSize", false),("NoWord", false),("Twice", false)]:List (String×Bool)).lookup c) x=some k→jO K (Tb.cl x)∧PySem.W.kitAny K (.ref (Tb.cl x)) (([Tb.cl "NoRow", Tb.cl "NoSuch", Tb.cl "NoText", Tb.cl "NoTie", Tb.cl "Unlike"]:List Addr).map .ref)=some k
 k_Locked_NoArrow_NoLabel_NoNet:∀ x k,(fun c=>([("NoName", false),("WrongSize", false),("NoWord", false),("Twice", false)]:List (String×Bool)).lookup c) x=some k→jO K (Tb.cl x)∧PySem.W.kitAny K (.ref (Tb.cl x)) (([Tb.cl "Locked", Tb.cl "NoArrow", Tb.cl "NoLabel", Tb.cl "NoNet"]:List Addr).map .ref)=some k
 m_ArrowError:∀ C,(∃ c∈(["NoName", "WrongSize", "NoWord", "Twice"]:List String),C=Tb.cl c)→PySem.W.exmOne K (.ref C) (.ref (Tb.cl "ArrowError"))=some true
abbrev pG:Stmt:=top 25
theorem sV:cH ["names", "rows"] ["names", "rows"] (bj pG):=⟨rfl,rfl,rfl,by decide +kernel,rfl,by decide +kernel,by decide +kernel⟩
theorem Ba{f:Addr}{fd:FuncData}{cc TT:Addr}(F:Uy K "sorted_rows" "sorted_rows" pG cc f fd)(T:Txt mg)(hB:BM mg base)(hC:PySem.W.CodeHd base cc TT)(hTb:(TT,VP "sorted_rows")∈Tb.l)  : eY P w K mg base gQ 4 f fd ["names", "rows"] (Hl fV) :=
 F.ok sV (fun vs H Q E h=>SQ h) (fun A outer s H vs Q E hr h=>by
  have nd:=sV.nd
  have hu:=gY hr
  have hu64:=hr.units
  exact⟨_,(aH (bW (Rr (x := "row") (ρ:=[0]) (N':=["row", "names"]) (k:=0) (qual:=VP "sorted_rows") rfl T.b_sorted (pv 1) (hr.mono (by decide)) rfl hC hB rfl rfl rfl (Ei.one rfl rfl rfl rfl rfl rfl rfl rfl) (fun pm c' ctv u=>rfl) (fun A f c' s H env hrl he=>by subst he;exact(lu (N':=["names", "name"]) (ρ:=[some 1,none]) rfl (gH.of rfl (by kernel_rfl)) (iY (pv 0)) (fun _ _ _ _ _=>(bL (i:=1) (by show (["names", "name"]:List Str).Nodup;decide +kernel) rfl (Or.inl rfl))) (jm rfl) (fun _ _ _ _ _=>jW) (fun _ _ _ _ _=>(Yu PySem.F.plainAttrs_tuple PySem.F.slot_tuple_index PySem.F.type_tuple_index aa4 PySem.F.plainAttrs_list PySem.F.slot_list_index PySem.F.type_list_index aa5 (pv 0) (aa (pv 1) aq)))))))),
  _root_.A.runN (N:=["names", "rows"]) (M:=Mo []) (zK (AE.w (Wt hTb (by decide) (AE.p (ak 1 rfl)) (jA (K:=K) (tg:=(.n 1)) (lE (AE.p (ak 0 rfl))) (by decide) nG (abx (AE.p (ak 0 rfl)) (AE.p (ak 1 rfl))))))) (by decide) h⟩)
abbrev xQ:Stmt:=top 21
theorem Ak:cH ["text"] ["text"] (bj xQ):=⟨rfl,rfl,rfl,by decide +kernel,rfl,by decide +kernel,by decide +kernel⟩
theorem Kc{f:Addr}{fd:FuncData}(F:pR K "is_word" "is_word" xQ f fd)(T:Txt mg)  : eY P w K mg base gQ 1 f fd ["text"] (m9 dB) :=
 F.ok Ak (fun vs H Q E h=>rE h) (fun cdv A outer s H vs Q E hr h=>by
  have nd:=Ak.nd
  have hu:=gY hr
  have hu64:=hr.units
  obtain⟨_,g_LETTERS⟩:=T.c_LETTERS
  obtain⟨_,g_MOST_LETTERS⟩:=T.c_MOST_LETTERS
  exact⟨_,(aH (bW (Rw (Rv Dl Dl aB (aW bN rfl T.cG PySem.boot_len (aa (pv 0) aq)) (fQ (v:=(.int 8)) rfl g_MOST_LETTERS ⟨_,rfl⟩)) (Rt (aW (Je rfl) rfl T.Jj boot_all (aa (lu (N':=["sign"]) (ρ:=[none]) rfl (gH.of rfl (by kernel_rfl)) (iY (pv 0)) (fun _ _ _ _ _=>(bL (i:=0) (by show (["sign"]:List Str).Nodup;decide +kernel) rfl (Or.inl rfl))) (jm rfl) (fun _ _ _ _ _=>jW) (fun _ _ _ _ _=>(Ft (Az hu64) (pv 0) (fQ (v:=(.str "abcdefghijklmnopqrstuvwxyz")) rfl g_LETTERS ⟨_,rfl⟩) rfl))) aq)))))),
  _root_.A.q9 (N:=["text"]) (M:=Mo []) (cM (AE.w (Xw (AE.p (zP PN PN (AE.p aJ) (AE.p (gm cG (aD (AE.p (ak 0 rfl)) aU))) (AE.p aJ))) (gm Jj (aD (AE.np (jA (K:=K) (tg:=(.n 0)) (lE (AE.p (ak 0 rfl))) (by decide) nG (az Uh (AE.p (ak 0 rfl)) (AE.p iC)))) aU))))) (by decide) h⟩)
abbrev gK:Stmt:=top 27
theorem gj:cH ["names", "stood", "name"] ["names"] (bj gK):=⟨rfl,rfl,rfl,by decide +kernel,rfl,by decide +kernel,by decide +kernel⟩
theorem sr{f:Addr}{fd:FuncData}(F:pR K "refuse_wrong_names" "refuse_wrong_names" gK f fd)(T:Txt mg)(Er:pQ P w K mg base gQ 1 "is_word" ["text"] (m9 dB)):eY P w K mg base gQ 2 f fd ["names"] (m9 eV) :=
 F.ok gj (fun vs H Q E h=>rE h) (fun cdv A outer s H vs Q E hr h=>by
  have nd:=gj.nd
  have hu:=gY hr
  have hu64:=hr.units
  have hr_is_word:=hr.mono (show 1≤_ by decide)
  obtain⟨_,g_MOST_NAMES⟩:=T.c_MOST_NAMES
  exact⟨_,(au (cD (tD (Aw Dl Dl aB (aW bN rfl T.cG PySem.boot_len (aa (pv 0) aq)) (fQ (v:=(.int 8)) rfl g_MOST_NAMES ⟨_,rfl⟩)))
 (aH mU)
 bu)
 (au (bD (i:=1) nd rfl (Or.inl rfl) HF)
 (aH (lW PassesOwn.never rfl (iY (pv 0)) (bL (i:=2) nd rfl (Or.inl rfl))
 (au (cD (tD (j5 (bO Er hr_is_word rfl dg (aa (pv 2) aq))))
 (aH mU)
 bu)
 (au (cD (Fl (Fv hu (pv 2) (pv 1)) rfl)
 (aH mU)
 bu)
 (aH (uy hu (pv 1) (pv 2) qt rfl)))))))),
  _root_.A.q9 (N:=["names", "stood", "name"]) (M:=Mo [1]) (aN (cQ (t8 (aZ (AE.p (zP PN PN (AE.p aJ) (AE.p (gm cG (aD (AE.p (ak 0 rfl)) aU))) (AE.p aJ)))))
 m8
 bw)
 (aN (zL 1 rfl Jl)
 (pN (K:=K) (tg:=(.n 2)) (vX (ak 0 rfl)) (by decide)
 (aN (cQ (t8 (qL (AE.p (cW (aL (AE.w (ak 2 rfl)) bK)))))
 m8
 bw)
 (aN (cQ (qL (AE.p (NK 1 (ak 2 rfl))))
 m8
 bw)
 (uL 1 rfl (ak 2 rfl) yw)))))) (by decide) h⟩)
theorem rD{f:Addr}{fd:FuncData}(F:pR K "refuse_wrong_names" "refuse_wrong_names" gK f fd)(T:Txt mg)(O:Own mg base)(Er:pQ P w K mg base gQ 1 "is_word" ["text"] (m9 dB))  : eY P w K mg base (wj P w) 2 f fd ["names"] (LQ Tb.cl bB) :=
 F.okX gj (fun vs H Q E h=>SJ h) (fun cdv A outer s H vs Q E hr h=>by
  have nd:=gj.nd
  have hu:=gY hr
  have hu64:=hr.units
  have hr_is_word:=hr.mono (show 1≤_ by decide)
  obtain⟨_,g_MOST_NAMES⟩:=T.c_MOST_NAMES
  exact⟨_,(au (cD (tD (Aw Dl Dl aB (aW bN rfl T.cG PySem.boot_len (aa (pv 0) aq)) (fQ (v:=(.int 8)) rfl g_MOST_NAMES ⟨_,rfl⟩)))
 (aH (ql PySem.F.excBase_ValueError O.o_WrongSize (uB (fP (nU (by decide +kernel)) (fP (Zr (fQ (v:=(.int 8)) rfl g_MOST_NAMES ⟨_,rfl⟩)) (fP (nU (by decide +kernel)) uH))) (by decide)) rfl))
 bu)
 (au (bD (i:=1) nd rfl (Or.inl rfl) HF)
 (aH (lW vI rfl (iY (pv 0)) (bL (i:=2) nd rfl (Or.inl rfl))
 (au (cD (tD (j5 (bO Er hr_is_word rfl dg (aa (pv 2) aq))))
 (aH (ql PySem.F.excBase_ValueError O.o_NoWord (uB (fP (uI (pv 2)) (fP (nU (by decide +kernel)) uH)) (by decide)) rfl))
 bu)
 (au (cD (Fl (Fv hu (pv 2) (pv 1)) rfl)
 (aH (ql PySem.F.excBase_ValueError O.o_Twice (uB (fP (uI (pv 2)) (fP (nU (by decide +kernel)) uH)) (by decide)) rfl))
 bu)
 (aH (uy hu (pv 1) (pv 2) qt rfl)))))))),
  _root_.A.Q9 (N:=["names", "stood", "name"]) (M:=Mo [1]) (iu (vV (t8 (aZ (AE.p (zP PN PN (AE.p aJ) (AE.p (gm cG (aD (AE.p (ak 0 rfl)) aU))) (AE.p aJ)))))
 (oh (fM nQ (fM (Ys (by decide) (by decide +kernel)) (fM nQ uz))))
 (jd bw))
 (iu (jd (zL 1 rfl Jl))
 (GF (K:=K) (tg:=(.n 2)) (vX (ak 0 rfl)) (by decide)
 (iu (vV (t8 (qL (AE.p (cW (aL (AE.w (ak 2 rfl)) bK)))))
 (oh (fM (uA 2 rfl) (fM nQ uz)))
 (jd bw))
 (iu (vV (qL (AE.p (NK 1 (ak 2 rfl))))
 (oh (fM (uA 2 rfl) (fM nQ uz)))
 (jd bw))
 (jd (uL 1 rfl (ak 2 rfl) yw))))))) (by decide) h⟩)
abbrev iG:Stmt:=top 26
theorem ig:cH ["names", "asked", "name"] ["names", "asked"] (bj iG):=⟨rfl,rfl,rfl,by decide +kernel,rfl,by decide +kernel,by decide +kernel⟩
theorem uO{f:Addr}{fd:FuncData}(F:pR K "refuse_strangers" "refuse_strangers" iG f fd)(T:Txt mg)  : eY P w K mg base gQ 1 f fd ["names", "asked"] (m9 bM) :=
 F.ok ig (fun vs H Q E h=>rE h) (fun cdv A outer s H vs Q E hr h=>by
  have nd:=ig.nd
  have hu:=gY hr
  have hu64:=hr.units
  exact⟨_,(aH (lW PassesOwn.never rfl (iY (pv 1)) (bL (i:=2) nd rfl (Or.inl rfl))
 (aH (cD (bz (kE hu64) (pv 2) (pv 0) rfl)
 (aH mU)
 bu)))),
  _root_.A.q9 (N:=["names", "asked", "name"]) (M:=Mo []) (pN (K:=K) (tg:=(.n 2)) (vX (ak 1 rfl)) (by decide)
 (cQ (aZ (AE.p (az pq (AE.p (ak 2 rfl)) (AE.p (ak 0 rfl)))))
 m8
 bw)) (by decide) h⟩)
theorem tH{f:Addr}{fd:FuncData}(F:pR K "refuse_strangers" "refuse_strangers" iG f fd)(T:Txt mg)(O:Own mg base)   : eY P w K mg base (wj P w) 1 f fd ["names", "asked"] (LQ Tb.cl cA) :=
 F.okX ig (fun vs H Q E h=>SJ h) (fun cdv A outer s H vs Q E hr h=>by
  have nd:=ig.nd
  have hu:=gY hr
  have hu64:=hr.units
  exact⟨_,(aH (lW vI rfl (iY (pv 1)) (bL (i:=2) nd rfl (Or.inl rfl))
 (aH (cD (bz (kE hu64) (pv 2) (pv 0) rfl)
 (aH (ql PySem.F.excBase_ValueError O.o_NoName (uB (fP (uI (pv 2)) (fP (nU (by decide +kernel)) uH)) (by decide)) rfl))
 bu)))),
  _root_.A.Q9 (N:=["names", "asked", "name"]) (M:=Mo []) (GF (K:=K) (tg:=(.n 2)) (vX (ak 1 rfl)) (by decide)
 (vV (aZ (AE.p (az pq (AE.p (ak 2 rfl)) (AE.p (ak 0 rfl)))))
 (oh (fM (uA 2 rfl) (fM nQ uz)))
 (jd bw))) (by decide) h⟩)
abbrev gJ:Stmt:=top 28
theorem gh:cH ["names", "arrows", "stood", "tail", "head"] ["names", "arrows"] (bj gJ):=⟨rfl,rfl,rfl,by decide +kernel,rfl,by decide +kernel,by decide +kernel⟩
theorem rZ{f:Addr}{fd:FuncData}(F:pR K "refuse_wrong_pairs" "refuse_wrong_pairs" gJ f fd)(T:Txt mg)(oO:pQ P w K mg base gQ 1 "refuse_strangers" ["names", "asked"] (m9 bM)):eY P w K mg base gQ 2 f fd ["names", "arrows"] (m9 eU) :=
 F.ok gh (fun vs H Q E h=>rE h) (fun cdv A outer s H vs Q E hr h=>by
  have nd:=gh.nd
  have hu:=gY hr
  have hu64:=hr.units
  have hr_refuse_strangers:=hr.mono (show 1≤_ by decide)
  exact⟨_,(au (bD (i:=2) nd rfl (Or.inl rfl) HD)
 (aH (lW PassesOwn.never rfl (iY (pv 1)) (tE rfl (fO (bL (i:=3) nd rfl (Or.inl rfl)) (fO (bL (i:=4) nd rfl (Or.inl rfl)) oV)))
 (au (fc (bO oO hr_refuse_strangers rfl dg (aa (pv 0) (aa (iZ (aa (pv 3) (aa (pv 4) aq))) aq))))
 (au (cD (bz (j6 hu64) (pv 3) (pv 4) (bY _))
 (aH mU)
 bu)
 (au (cD (Fl (Fv hu (gD (aa (pv 3) (aa (pv 4) aq))) (pv 2)) rfl)
 (aH mU)
 bu)
 (au (uy hu (pv 2) (gD (aa (pv 3) (aa (pv 4) aq))) qt rfl)
 (aH (uy hu (pv 2) (gD (aa (pv 4) (aa (pv 3) aq))) qt rfl))))))))),
  _root_.A.q9 (N:=["names", "arrows", "stood", "tail", "head"]) (M:=Mo [2]) (aN (zL 2 rfl Jk)
 (pN (K:=K) (tg:=(.t [3,4])) (vX (ak 1 rfl)) (by decide)
 (aN (xn (AE.p (cW (aL (AE.w (ak 0 rfl)) (aL (AW.nv (AE.w (lU (aD (ak 3 rfl) (aD (ak 4 rfl) aU))))) bK)))))
 (aN (cQ (aZ (AE.p (az vQ (AE.p (ak 3 rfl)) (AE.p (ak 4 rfl)))))
 m8
 bw)
 (aN (cQ (qL (AE.p (NK 2 (lQ (aD (ak 3 rfl) (aD (ak 4 rfl) aU))))))
 m8
 bw)
 (aN (uL 2 rfl (lQ (aD (ak 3 rfl) (aD (ak 4 rfl) aU))) yw)
 (uL 2 rfl (lQ (aD (ak 4 rfl) (aD (ak 3 rfl) aU))) yw))))))) (by decide) h⟩)
theorem rC{f:Addr}{fd:FuncData}(F:pR K "refuse_wrong_pairs" "refuse_wrong_pairs" gJ f fd)(T:Txt mg)(O:Own mg base)  (uT:pQ P w K mg base (wj P w) 1 "refuse_strangers" ["names", "asked"] (LQ Tb.cl cA)):eY P w K mg base (wj P w) 2 f fd ["names", "arrows"] (LQ Tb.cl dX) :=
 F.okX gh (fun vs H Q E h=>SJ h) (fun cdv A outer s H vs Q E hr h=>by
  have nd:=gh.nd
  have hu:=gY hr
  have hu64:=hr.units
  have hrX_refuse_strangers:=hr.mono (show 1≤_ by decide)
  exact⟨_,(au (bD (i:=2) nd rfl (Or.inl rfl) HD)
 (aH (lW vI rfl (iY (pv 1)) (tE rfl (fO (bL (i:=3) nd rfl (Or.inl rfl)) (fO (bL (i:=4) nd rfl (Or.inl rfl)) oV)))
 (au (fc (bO uT hrX_refuse_strangers rfl zq (aa (pv 0) (aa (iZ (aa (pv 3) (aa (pv 4) aq))) aq))))
 (au (cD (bz (j6 hu64) (pv 3) (pv 4) (bY _))
 (aH (ql PySem.F.excBase_ValueError O.o_Twice (uB (fP (nU (by decide +kernel)) (fP (uI (pv 3)) (fP (nU (by decide +kernel)) uH))) (by decide)) rfl))
 bu)
 (au (cD (Fl (Fv hu (gD (aa (pv 3) (aa (pv 4) aq))) (pv 2)) rfl)
 (aH (ql PySem.F.excBase_ValueError O.o_Twice (uB (fP (nU (by decide +kernel)) (fP (uI (pv 3)) (fP (nU (by decide +kernel)) (fP (uI (pv 4)) uH)))) (by decide)) rfl))
 bu)
 (au (uy hu (pv 2) (gD (aa (pv 3) (aa (pv 4) aq))) qt rfl)
 (aH (uy hu (pv 2) (gD (aa (pv 4) (aa (pv 3) aq))) qt rfl))))))))),
  _root_.A.Q9 (N:=["names", "arrows", "stood", "tail", "head"]) (M:=Mo [2]) (iu (jd (zL 2 rfl Jk))
 (GF (K:=K) (tg:=(.t [3,4])) (vX (ak 1 rfl)) (by decide)
 (iu (xm (aL (AE.w (ak 0 rfl)) (aL (AW.nv (AE.w (lU (aD (ak 3 rfl) (aD (ak 4 rfl) aU))))) bK)))
 (iu (vV (aZ (AE.p (az vQ (AE.p (ak 3 rfl)) (AE.p (ak 4 rfl)))))
 (oh (fM nQ (fM (uA 3 rfl) (fM nQ uz))))
 (jd bw))
 (iu (vV (qL (AE.p (NK 2 (lQ (aD (ak 3 rfl) (aD (ak 4 rfl) aU))))))
 (oh (fM nQ (fM (uA 3 rfl) (fM nQ (fM (uA 4 rfl) uz)))))
 (jd bw))
 (iu (jd (uL 2 rfl (lQ (aD (ak 3 rfl) (aD (ak 4 rfl) aU))) yw))
 (jd (uL 2 rfl (lQ (aD (ak 4 rfl) (aD (ak 3 rfl) aU))) yw)))))))) (by decide) h⟩)
abbrev tu:Stmt:=top 23
theorem wG:cH ["net", "name"] ["net", "name"] (bj tu):=⟨rfl,rfl,rfl,by decide +kernel,rfl,by decide +kernel,by decide +kernel⟩
theorem FT{f:Addr}{fd:FuncData}(F:pR K "elders_of" "elders_of" tu f fd)(T:Txt mg)(oO:pQ P w K mg base gQ 1 "refuse_strangers" ["names", "asked"] (m9 bM)):eY P w K mg base gQ 2 f fd ["net", "name"] (m9 kI) :=
 F.ok wG (fun vs H Q E h=>rE h) (fun cdv A outer s H vs Q E hr h=>by
  have nd:=wG.nd
  have hu:=gY hr
  have hu64:=hr.units
  have hr_refuse_strangers:=hr.mono (show 1≤_ by decide)
  exact⟨_,(au (fc (bO oO hr_refuse_strangers rfl dg (aa (cV bT (pv 0) aB (fun _ _=>rfl)) (aa (iZ (aa (pv 1) aq)) aq))))
 (aH (bW (fX jy rfl T.ir boot_tuple (aa (lu (N':=["name", "tail", "head"]) (ρ:=[some 1,none,none]) rfl (gH.of rfl (by kernel_rfl)) (iY (cV bT (pv 0) aB (fun _ _=>rfl))) (fun _ _ _ _ _=>(tE rfl (fO (bL (i:=1) (by show (["name", "tail", "head"]:List Str).Nodup;decide +kernel) rfl (Or.inl rfl)) (fO (bL (i:=2) (by show (["name", "tail", "head"]:List Str).Nodup;decide +kernel) rfl (Or.inl rfl)) oV)))) (KN (qD rfl (qD rfl KQ yd) (Gq yd))) (fun _ _ _ _ _=>(wI (bz (j6 hu64) (pv 2) (pv 0) (bY _)))) (fun _ _ _ _ _=>(pv 1))) aq))))),
  _root_.A.q9 (N:=["net", "name"]) (M:=Mo []) (aN (xn (AE.p (cW (aL (AE.w (az gG (AE.p (ak 0 rfl)) (AE.p aJ))) (aL (AW.nv (AE.w (lU (aD (ak 1 rfl) aU)))) bK)))))
 (cM (AE.w (gm ir (aD (AE.np (jA (K:=K) (tg:=(.t [1,2])) (lE (AE.p (az gG (AE.p (ak 0 rfl)) (AE.p aJ)))) (by decide) (aZ (AE.p (az vQ (AE.p (ak 2 rfl)) (AE.p (ak 0 rfl))))) (ak 1 rfl))) aU))))) (by decide) h⟩)
abbrev pI:Stmt:=top 31
theorem sX:cH ["net", "told", "name"] ["net", "told"] (bj pI):=⟨rfl,rfl,rfl,by decide +kernel,rfl,by decide +kernel,by decide +kernel⟩
theorem Be{f:Addr}{fd:FuncData}(F:pR K "first_ready" "first_ready" pI f fd)(T:Txt mg)(JH:pQ P w K mg base gQ 2 "elders_of" ["net", "name"] (m9 kI)):eY P w K mg base gQ 3 f fd ["net", "told"] (m9 eG) :=
 F.ok sX (fun vs H Q E h=>rE h) (fun cdv A outer s H vs Q E hr h=>by
  have nd:=sX.nd
  have hu:=gY hr
  have hu64:=hr.units
  have hr_elders_of:=hr.mono (show 2≤_ by decide)
  exact⟨_,(au (lW PassesOwn.never rfl (iY (cV bT (pv 0) aB (fun _ _=>rfl))) (bL (i:=2) nd rfl (Or.inl rfl))
 (aH (cD (PW.pt (pw_and (bz (kE hu64) (pv 2) (pv 1) rfl) (pw_and1 (j5 (aW (Je rfl) rfl T.Jj boot_all (aa (lu (N':=["told", "elder"]) (ρ:=[some 1,none]) rfl (gH.of rfl (by kernel_rfl)) (iY (bO JH hr_elders_of rfl dg (aa (pv 0) (aa (pv 2) aq)))) (fun _ _ _ _ _=>(bL (i:=1) (by show (["told", "elder"]:List Str).Nodup;decide +kernel) rfl (Or.inl rfl))) (jm rfl) (fun _ _ _ _ _=>jW) (fun _ _ _ _ _=>(Ft (Az hu64) (pv 1) (pv 0) rfl))) aq))))))
 (aH (bW (pv 2)))
 bu)))
 (aH (bW Ru))),
  _root_.A.q9 (N:=["net", "told", "name"]) (M:=Mo []) (aN (pN (K:=K) (tg:=(.n 2)) (vX (az gG (AE.p (ak 0 rfl)) (AE.p aJ))) (by decide)
 (cQ (vU (aZ (AE.p (az pq (AE.p (ak 2 rfl)) (AE.p (ak 1 rfl))))) (qL (AE.p (gm Jj (aD (AE.np (jA (K:=K) (tg:=(.n 1)) (lE (AE.p (cW (aL (AE.w (ak 0 rfl)) (aL (AE.w (ak 2 rfl)) bK))))) (by decide) nG (az Uh (AE.p (ak 1 rfl)) (AE.p (ak 0 rfl))))) aU)))))
 (cM (AE.w (ak 2 rfl)))
 bw))
 (cM (AE.w Xu))) (by decide) h⟩)
abbrev xR:Stmt:=top 24
theorem Al:cH ["net", "told", "name"] ["net"] (bj xR):=⟨rfl,rfl,rfl,by decide +kernel,rfl,by decide +kernel,by decide +kernel⟩
theorem Ke{f:Addr}{fd:FuncData}(F:pR K "in_turn" "in_turn" xR f fd)(T:Txt mg)(Dc:pQ P w K mg base gQ 3 "first_ready" ["net", "told"] (m9 eG)):eY P w K mg base gQ 4 f fd ["net"] (Hl mz) :=
 F.ok Al (fun vs H Q E h=>SQ h) (fun cdv A outer s H vs Q E hr h=>by
  have nd:=Al.nd
  have hu:=gY hr
  have hu64:=hr.units
  have hr_first_ready:=hr.mono (show 3≤_ by decide)
  exact⟨_,(au (bD (i:=1) nd rfl (Or.inl rfl) (iZ aq))
 (au (bD (i:=2) nd rfl (Or.inl rfl) (bO Dc hr_first_ready rfl dg (aa (pv 0) (aa (pv 1) aq))))
 (au (Rn PassesOwn.never (bz Rz (pv 2) Ru (bY _))
 (au (fc (oW PySem.F.plainAttrs_list PySem.F.slot_list_append PySem.F.type_list_append iz (pv 1) (aa (pv 2) aq)))
 (aH (bD (i:=2) nd rfl (Or.inl rfl) (bO Dc hr_first_ready rfl dg (aa (pv 0) (aa (pv 1) aq)))))))
 (aH (bW (pv 1)))))),
  _root_.A.runN (N:=["net", "told", "name"]) (M:=Mo [1]) (aN (yt 1 rfl (lU aU))
 (aN (bF 2 rfl (NP (aL (AW.p (AE.w (ak 0 rfl))) (aL (AE.w (ue 1)) bK))))
 (aN (Ul 100 (aZ (AE.p (az Wl (AE.p (ak 2 rfl)) (AE.p Xu))))
 (aN (iW 1 rfl (ak 2 rfl))
 (bF 2 rfl (NP (aL (AW.p (AE.w (ak 0 rfl))) (aL (AE.w (ue 1)) bK))))))
 (yr 1 rfl)))) (by decide) h⟩)
abbrev mL:Stmt:=top 29
theorem lq:cH ["net", "told", "left"] ["net"] (bj mL):=⟨rfl,rfl,rfl,by decide +kernel,rfl,by decide +kernel,by decide +kernel⟩
theorem Bb{f:Addr}{fd:FuncData}(F:pR K "refuse_ring" "refuse_ring" mL f fd)(T:Txt mg)(Es:pQ P w K mg base gQ 4 "in_turn" ["net"] (Hl mz)):eY P w K mg base gQ 5 f fd ["net"] (m9 jT) :=
 F.ok lq (fun vs H Q E h=>rE h) (fun cdv A outer s H vs Q E hr h=>by
  have nd:=lq.nd
  have hu:=gY hr
  have hu64:=hr.units
  have hr_in_turn:=hr.mono (show 4≤_ by decide)
  exact⟨_,(au (bD (i:=1) nd rfl (Or.inr rfl) (bO Es hr_in_turn rfl dg (aa (pv 0) aq)))
 (au (ux (i:=2) (N':=["told", "name"]) (ρ:=[some 1,none]) rfl nd rfl (Or.inl rfl) (gH.of rfl (by kernel_rfl)) (iY (cV bT (pv 0) aB (fun _ _=>rfl))) (fun _ _ _ _ _=>(bL (i:=1) (by show (["told", "name"]:List Str).Nodup;decide +kernel) rfl (Or.inl rfl))) (jm rfl) (fun _ _ _ _ _=>(wI (bz (kE hu64) (pv 1) (pv 0) rfl))) (fun _ _ _ _ _=>(pv 1)))
 (aH (cD (Hy (pv 2) (by intro _;rfl))
 (aH mU)
 bu)))),
  _root_.A.q9 (N:=["net", "told", "left"]) (M:=Mo []) (aN (bF 1 rfl (AE.nv (pB (aL (AE.w (ak 0 rfl)) bK))))
 (aN (bF 2 rfl (AE.nv (jA (K:=K) (tg:=(.n 1)) (lE (AE.p (az gG (AE.p (ak 0 rfl)) (AE.p aJ)))) (by decide) (aZ (AE.p (az pq (AE.p (ak 1 rfl)) (AE.p (ak 0 rfl))))) (ak 1 rfl))))
 (cQ (Jo (AE.p (ak 2 rfl)))
 m8
 bw))) (by decide) h⟩)
theorem yV{f:Addr}{fd:FuncData}(F:pR K "refuse_ring" "refuse_ring" mL f fd)(T:Txt mg)(O:Own mg base)(Es:pQ P w K mg base gQ 4 "in_turn" ["net"] (Hl mz))  : eY P w K mg base (wj P w) 5 f fd ["net"] (LQ Tb.cl oF) :=
 F.okX lq (fun vs H Q E h=>SJ h) (fun cdv A outer s H vs Q E hr h=>by
  have nd:=lq.nd
  have hu:=gY hr
  have hu64:=hr.units
  have hr_in_turn:=hr.mono (show 4≤_ by decide)
  exact⟨_,(au (bD (i:=1) nd rfl (Or.inr rfl) (bO Es hr_in_turn rfl dg (aa (pv 0) aq)))
 (au (ux (i:=2) (N':=["told", "name"]) (ρ:=[some 1,none]) rfl nd rfl (Or.inl rfl) (gH.of rfl (by kernel_rfl)) (iY (cV bT (pv 0) aB (fun _ _=>rfl))) (fun _ _ _ _ _=>(bL (i:=1) (by show (["told", "name"]:List Str).Nodup;decide +kernel) rfl (Or.inl rfl))) (jm rfl) (fun _ _ _ _ _=>(wI (bz (kE hu64) (pv 1) (pv 0) rfl))) (fun _ _ _ _ _=>(pv 1)))
 (aH (cD (Hy (pv 2) (by intro _;rfl))
 (aH mU)
 bu)))),
  _root_.A.Q9 (N:=["net", "told", "left"]) (M:=Mo []) (iu (jd (bF 1 rfl (AE.nv (pB (aL (AE.w (ak 0 rfl)) bK)))))
 (iu (jd (bF 2 rfl (AE.nv (jA (K:=K) (tg:=(.n 1)) (lE (AE.p (az gG (AE.p (ak 0 rfl)) (AE.p aJ)))) (by decide) (aZ (AE.p (az pq (AE.p (ak 1 rfl)) (AE.p (ak 0 rfl))))) (ak 1 rfl)))))
 (vV (Jo (AE.p (ak 2 rfl)))
 (jd m8)
 (jd bw)))) (by decide) h⟩)
abbrev qZ:Stmt:=top 22
theorem oR:cH ["names", "arrows", "pairs", "net"] ["names", "arrows"] (bj qZ):=⟨rfl,rfl,rfl,by decide +kernel,rfl,by decide +kernel,by decide +kernel⟩
theorem HN{f:Addr}{fd:FuncData}(F:pR K "net_made" "net_made" qZ f fd)(T:Txt mg)(vm:pQ P w K mg base gQ 4 "sorted_rows" ["names", "rows"] (Hl fV))(ur:pQ P w K mg base gQ 2 "refuse_wrong_names" ["names"] (m9 eV))(uq:pQ P w K mg base gQ 2 "refuse_wrong_pairs" ["names", "arrows"] (m9 eU))(CW:pQ P w K mg base gQ 5 "refuse_ring" ["net"] (m9 jT)):eY P w K mg base gQ 6 f fd ["names", "arrows"] (m9 my) :=
 F.ok oR (fun vs H Q E h=>rE h) (fun cdv A outer s H vs Q E hr h=>by
  have nd:=oR.nd
  have hu:=gY hr
  have hu64:=hr.units
  have hr_sorted_rows:=hr.mono (show 4≤_ by decide)
  have hr_refuse_wrong_names:=hr.mono (show 2≤_ by decide)
  have hr_refuse_wrong_pairs:=hr.mono (show 2≤_ by decide)
  have hr_refuse_ring:=hr.mono (show 5≤_ by decide)
  exact⟨_,(au (fc (bO ur hr_refuse_wrong_names rfl dg (aa (pv 0) aq)))
 (au (fc (bO uq hr_refuse_wrong_pairs rfl dg (aa (pv 0) (aa (pv 1) aq))))
 (au (ux (i:=2) (N':=["tail", "head"]) (ρ:=[none,none]) rfl nd rfl (Or.inl rfl) (gH.of rfl (by kernel_rfl)) (iY (pv 1)) (fun _ _ _ _ _=>(tE rfl (fO (bL (i:=0) (by show (["tail", "head"]:List Str).Nodup;decide +kernel) rfl (Or.inl rfl)) (fO (bL (i:=1) (by show (["tail", "head"]:List Str).Nodup;decide +kernel) rfl (Or.inl rfl)) oV)))) (KN (qD rfl (qD rfl KQ yd) (Gq yd))) (fun _ _ _ _ _=>jW) (fun _ _ _ _ _=>(gD (aa (pv 0) (aa (pv 1) aq)))))
 (au (bD (i:=3) nd rfl (Or.inl rfl) (gD (aa (fX jy rfl T.ir boot_tuple (aa (pv 0) aq)) (aa (fX jy rfl T.ir boot_tuple (aa (bO vm hr_sorted_rows rfl dg (aa (pv 0) (aa (pv 2) aq))) aq)) aq))))
 (au (fc (bO CW hr_refuse_ring rfl dg (aa (pv 3) aq)))
 (aH (bW (pv 3)))))))),
  _root_.A.q9 (N:=["names", "arrows", "pairs", "net"]) (M:=Mo []) (aN (xn (AE.p (cW (aL (AE.w (ak 0 rfl)) bK))))
 (aN (xn (AE.p (cW (aL (AE.w (ak 0 rfl)) (aL (AE.w (ak 1 rfl)) bK)))))
 (aN (bF 2 rfl (AE.nv (jA (K:=K) (tg:=(.t [0,1])) (lE (AE.p (ak 1 rfl))) (by decide) nG (lQ (aD (ak 0 rfl) (aD (ak 1 rfl) aU))))))
 (aN (bF 3 rfl (lQ (aD (gm ir (aD (AE.p (ak 0 rfl)) aU)) (aD (gm ir (aD (AE.np (pB (aL (AE.w (ak 0 rfl)) (aL (AE.w (ak 2 rfl)) bK)))) aU)) aU))))
 (aN (xn (AE.p (cW (aL (AE.w (ak 3 rfl)) bK))))
 (cM (AE.w (ak 3 rfl)))))))) (by decide) h⟩)
theorem FW{f:Addr}{fd:FuncData}(F:pR K "net_made" "net_made" qZ f fd)(T:Txt mg)(O:Own mg base)(vm:pQ P w K mg base gQ 4 "sorted_rows" ["names", "rows"] (Hl fV))(sI:pQ P w K mg base (wj P w) 2 "refuse_wrong_names" ["names"] (LQ Tb.cl bB))(sH:pQ P w K mg base (wj P w) 2 "refuse_wrong_pairs" ["names", "arrows"] (LQ Tb.cl dX))(Cq:pQ P w K mg base (wj P w) 5 "refuse_ring" ["net"] (LQ Tb.cl oF)):eY P w K mg base (wj P w) 6 f fd ["names", "arrows"] (LQ Tb.cl mY) :=
 F.okX oR (fun vs H Q E h=>SJ h) (fun cdv A outer s H vs Q E hr h=>by
  have nd:=oR.nd
  have hu:=gY hr
  have hu64:=hr.units
  have hr_sorted_rows:=hr.mono (show 4≤_ by decide)
  have hrX_refuse_wrong_names:=hr.mono (show 2≤_ by decide)
  have hrX_refuse_wrong_pairs:=hr.mono (show 2≤_ by decide)
  have hrX_refuse_ring:=hr.mono (show 5≤_ by decide)
  exact⟨_,(au (fc (bO sI hrX_refuse_wrong_names rfl zq (aa (pv 0) aq)))
 (au (fc (bO sH hrX_refuse_wrong_pairs rfl zq (aa (pv 0) (aa (pv 1) aq))))
 (au (ux (i:=2) (N':=["tail", "head"]) (ρ:=[none,none]) rfl nd rfl (Or.inl rfl) (gH.of rfl (by kernel_rfl)) (iY (pv 1)) (fun _ _ _ _ _=>(tE rfl (fO (bL (i:=0) (by show (["tail", "head"]:List Str).Nodup;decide +kernel) rfl (Or.inl rfl)) (fO (bL (i:=1) (by show (["tail", "head"]:List Str).Nodup;decide +kernel) rfl (Or.inl rfl)) oV)))) (KN (qD rfl (qD rfl KQ yd) (Gq yd))) (fun _ _ _ _ _=>jW) (fun _ _ _ _ _=>(gD (aa (pv 0) (aa (pv 1) aq)))))
 (au (bD (i:=3) nd rfl (Or.inl rfl) (gD (aa (fX jy rfl T.ir boot_tuple (aa (pv 0) aq)) (aa (fX jy rfl T.ir boot_tuple (aa (bO vm hr_sorted_rows rfl dg (aa (pv 0) (aa (pv 2) aq))) aq)) aq))))
 (au (fc (bO Cq hrX_refuse_ring rfl zq (aa (pv 3) aq)))
 (aH (bW (pv 3)))))))),
  _root_.A.Q9 (N:=["names", "arrows", "pairs", "net"]) (M:=Mo []) (iu (xm (aL (AE.w (ak 0 rfl)) bK))
 (iu (xm (aL (AE.w (ak 0 rfl)) (aL (AE.w (ak 1 rfl)) bK)))
 (iu (jd (bF 2 rfl (AE.nv (jA (K:=K) (tg:=(.t [0,1])) (lE (AE.p (ak 1 rfl))) (by decide) nG (lQ (aD (ak 0 rfl) (aD (ak 1 rfl) aU)))))))
 (iu (jd (bF 3 rfl (lQ (aD (gm ir (aD (AE.p (ak 0 rfl)) aU)) (aD (gm ir (aD (AE.np (pB (aL (AE.w (ak 0 rfl)) (aL (AE.w (ak 2 rfl)) bK)))) aU)) aU)))))
 (iu (xm (aL (AE.w (ak 3 rfl)) bK))
 (jd (cM (AE.w (ak 3 rfl))))))))) (by decide) h⟩)
abbrev Am:Stmt:=top 33
theorem Di:cH ["_law_script", "_law_k", "_law_spare"] ["_law_script", "_law_k"] (bj Am):=⟨rfl,rfl,rfl,by decide +kernel,rfl,by decide +kernel,by decide +kernel⟩
theorem O2{f:Addr}{fd:FuncData}(F:pR K "_law_cell" "_law_cell" Am f fd)(T:Txt mg)  : eY P w K mg base gQ 1 f fd ["_law_script", "_law_k"] (m9 cO) :=
 F.ok Di (fun vs H Q E h=>rE h) (fun cdv A outer s H vs Q E hr h=>by
  have nd:=Di.nd
  have hu:=gY hr
  have hu64:=hr.units
  exact⟨_,(au (cD (bz pJ (pv 1) (aW bN rfl T.cG PySem.boot_len (aa (pv 0) aq)) (bY _))
 (aH (bW (cV bT (pv 0) (pv 1) (fun _ _=>rfl))))
 bu)
 (au (bD (i:=2) nd rfl (Or.inl rfl) (aQ bH aB (aQ lz (aQ lz aB (pv 1)) (pv 1))))
 (au (cD (bz pK (aW bN rfl T.cG PySem.boot_len (aa (pv 0) aq)) aB (bY _))
 (aH (bD (i:=2) nd rfl (Or.inl rfl) (aQ bH (pv 2) (aQ lz (aQ cj (cV bT (pv 0) aB (fun _ _=>rfl)) aB) (aQ bH (aQ bH (aQ lz (pv 1) (pv 1)) (aQ lz aB (pv 1))) aB)))))
 bu)
 (aH (bW (pv 2)))))),
  _root_.A.q9 (N:=["_law_script", "_law_k", "_law_spare"]) (M:=Mo []) (aN (cQ (aZ (AE.p (az CN (AE.p (ak 1 rfl)) (AE.p (gm cG (aD (AE.p (ak 0 rfl)) aU))))))
 (cM (AE.w (az gG (AE.p (ak 0 rfl)) (AE.p (ak 1 rfl)))))
 bw)
 (aN (bF 2 rfl (az dN (AE.p aJ) (AE.p (az pA (AE.p (az pA (AE.p aJ) (AE.p (ak 1 rfl)))) (AE.p (ak 1 rfl))))))
 (aN (cQ (aZ (AE.p (az CP (AE.p (gm cG (aD (AE.p (ak 0 rfl)) aU))) (AE.p aJ))))
 (bF 2 rfl (az dN (AE.p (ak 2 rfl)) (AE.p (az pA (AE.p (az dh (AE.p (az gG (AE.p (ak 0 rfl)) (AE.p aJ))) (AE.p aJ))) (AE.p (az dN (AE.p (az dN (AE.p (az pA (AE.p (ak 1 rfl)) (AE.p (ak 1 rfl)))) (AE.p (az pA (AE.p aJ) (AE.p (ak 1 rfl)))))) (AE.p aJ)))))))
 bw)
 (cM (AE.w (ak 2 rfl)))))) (by decide) h⟩)
abbrev xM:Stmt:=top 34
theorem Ag:cH ["_law_cell_here", "_law_many", "_law_letters", "_law_long", "_law_size", "_law_stem", "_law_at"] ["_law_cell_here", "_law_many"] (bj xM):=⟨rfl,rfl,rfl,by decide +kernel,rfl,by decide +kernel,by decide +kernel⟩
theorem J8{f:Addr}{fd:FuncData}(F:pR K "_law_words" "_law_words" xM f fd)(T:Txt mg)  : eY P w K mg base gQ 1 f fd ["_law_cell_here", "_law_many"] (Hl iB) :=
 F.ok Ag (fun vs H Q E h=>SQ h) (fun cdv A outer s H vs Q E hr h=>by
  have nd:=Ag.nd
  have hu:=gY hr
  have hu64:=hr.units
  exact⟨_,(au (bD (i:=2) nd rfl (Or.inr rfl) eQ)
 (au (cD (bz pJ (aQ cj (pv 0) aB) aB (bY _))
 (au (bD (i:=3) nd rfl (Or.inr rfl) (oW PySem.F.plainAttrs_str PySem.F.slot_str_join PySem.F.type_str_join Mw eQ (aa (lu (N':=["_law_letters", "_law_cell_here", "_law_k"]) (ρ:=[some 2,some 0,none]) rfl (gH.of rfl (by kernel_rfl)) (jE rfl T.b_range (aa aB aq)) (fun _ _ _ _ _=>(bL (i:=2) (by show (["_law_letters", "_law_cell_here", "_law_k"]:List Str).Nodup;decide +kernel) rfl (Or.inl rfl))) (jm rfl) (fun _ _ _ _ _=>jW) (fun _ _ _ _ _=>(cV bT (pv 0) (aQ cj (aQ cg (pv 1) (aQ bH aB (aQ lz aB (pv 2)))) aB) (fun _ _=>rfl)))) aq)))
 (au (cD (bz (j6 hu64) (aQ cj (pv 0) aB) aB (bY _))
 (aH (bW (lu (N':=["_law_long", "_law_k"]) (ρ:=[some 3,none]) rfl (gH.of rfl (by kernel_rfl)) (jE rfl T.b_range (aa (pv 1) aq)) (fun _ _ _ _ _=>(bL (i:=1) (by show (["_law_long", "_law_k"]:List Str).Nodup;decide +kernel) rfl (Or.inl rfl))) (jm rfl) (fun _ _ _ _ _=>jW) (fun _ _ _ _ _=>(dq qb (pv 0) fu (fj (aQ bH (pv 1) aB)))))))
 bu)
 (aH (bW (lu (N':=["_law_long", "_law_k"]) (ρ:=[some 3,none]) rfl (gH.of rfl (by kernel_rfl)) (jE rfl T.b_range (aa (pv 1) aq)) (fun _ _ _ _ _=>(bL (i:=1) (by show (["_law_long", "_law_k"]:List Str).Nodup;decide +kernel) rfl (Or.inl rfl))) (jm rfl) (fun _ _ _ _ _=>jW) (fun _ _ _ _ _=>(dq qb (pv 0) (fj (aQ J6 aB (pv 1))) fu)))))))
 bu)
 (au (bD (i:=4) nd rfl (Or.inl rfl) (aQ cj (aQ cg (pv 0) aB) aB))
 (au (bD (i:=5) nd rfl (Or.inr rfl) (oW PySem.F.plainAttrs_str PySem.F.slot_str_join PySem.F.type_str_join Mw eQ (aa (lu (N':=["_law_letters", "_law_cell_here", "_law_k"]) (ρ:=[some 2,some 0,none]) rfl (gH.of rfl (by kernel_rfl)) (jE rfl T.b_range (aa (pv 4) aq)) (fun _ _ _ _ _=>(bL (i:=2) (by show (["_law_letters", "_law_cell_here", "_law_k"]:List Str).Nodup;decide +kernel) rfl (Or.inl rfl))) (jm rfl) (fun _ _ _ _ _=>jW) (fun _ _ _ _ _=>(cV bT (pv 0) (aQ cj (aQ bH (aQ bH (aQ cg (pv 1) aB) (aQ lz aB (pv 2))) (aQ lz (pv 2) (pv 2))) aB) (fun _ _=>rfl)))) aq)))
 (au (bD (i:=6) nd rfl (Or.inr rfl) (aQ cj (aQ cg (pv 0) aB) (aQ bH (pv 4) aB)))
 (aH (bW (lu (N':=["_law_stem", "_law_letters", "_law_at", "_law_cell_here", "_law_k"]) (ρ:=[some 5,some 2,some 6,some 0,none]) rfl (gH.of rfl (by kernel_rfl)) (jE rfl T.b_range (aa (pv 1) aq)) (fun _ _ _ _ _=>(bL (i:=4) (by show (["_law_stem", "_law_letters", "_law_at", "_law_cell_here", "_law_k"]:List Str).Nodup;decide +kernel) rfl (Or.inl rfl))) (jm rfl) (fun _ _ _ _ _=>jW) (fun _ _ _ _ _=>(aQ bH (aQ bH (dq qb (pv 0) fu (fj (pv 2))) (cV bT (pv 1) (aQ cj (aQ bH (aQ cg (pv 3) aB) (aQ lz aB (pv 4))) aB) (fun _ _=>rfl))) (dq qb (pv 0) (fj (pv 2)) fu))))))))))),
  _root_.A.runN (N:=["_law_cell_here", "_law_many", "_law_letters", "_law_long", "_law_size", "_law_stem", "_law_at"]) (M:=Mo []) (aN (bF 2 rfl iC)
 (aN (cQ (aZ (AE.p (az CN (AE.p (az dh (AE.p (ak 0 rfl)) (AE.p aJ))) (AE.p aJ))))
 (aN (bF 3 rfl (Us (AE.p iC) (AE.np (jA (K:=K) (tg:=(.n 2)) (N6.c (jH (AE.p aJ))) (by decide) nG (az gG (AE.p (ak 0 rfl)) (AE.p (az dh (AE.p (az gZ (AE.p (ak 1 rfl)) (AE.p (az dN (AE.p aJ) (AE.p (az pA (AE.p aJ) (AE.p (ak 2 rfl)))))))) (AE.p aJ))))))))
 (aN (cQ (aZ (AE.p (az vQ (AE.p (az dh (AE.p (ak 0 rfl)) (AE.p aJ))) (AE.p aJ))))
 (zK (AE.w (jA (K:=K) (tg:=(.n 1)) (N6.c (jH (AE.p (ak 1 rfl)))) (by decide) nG (qO kJ (AE.p (ak 0 rfl)) fH (fG (AE.p (az dN (AE.p (ak 1 rfl)) (AE.p aJ))))))))
 bw)
 (zK (AE.w (jA (K:=K) (tg:=(.n 1)) (N6.c (jH (AE.p (ak 1 rfl)))) (by decide) nG (qO kJ (AE.p (ak 0 rfl)) (fG (AE.p (az Ug (AE.p aJ) (AE.p (ak 1 rfl))))) fH))))))
 bw)
 (aN (bF 4 rfl (az dh (AE.p (az gZ (AE.p (ak 0 rfl)) (AE.p aJ))) (AE.p aJ)))
 (aN (bF 5 rfl (Us (AE.p iC) (AE.np (jA (K:=K) (tg:=(.n 2)) (N6.c (jH (AE.p (ak 4 rfl)))) (by decide) nG (az gG (AE.p (ak 0 rfl)) (AE.p (az dh (AE.p (az dN (AE.p (az dN (AE.p (az gZ (AE.p (ak 1 rfl)) (AE.p aJ))) (AE.p (az pA (AE.p aJ) (AE.p (ak 2 rfl)))))) (AE.p (az pA (AE.p (ak 2 rfl)) (AE.p (ak 2 rfl)))))) (AE.p aJ))))))))
 (aN (bF 6 rfl (az dh (AE.p (az gZ (AE.p (ak 0 rfl)) (AE.p aJ))) (AE.p (az dN (AE.p (ak 4 rfl)) (AE.p aJ)))))
 (zK (AE.w (jA (K:=K) (tg:=(.n 4)) (N6.c (jH (AE.p (ak 1 rfl)))) (by decide) nG (az dN (AE.p (az dN (AE.p (qO kJ (AE.p (ak 0 rfl)) fH (fG (AE.p (ak 2 rfl))))) (AE.p (az gG (AE.p (ak 1 rfl)) (AE.p (az dh (AE.p (az dN (AE.p (az gZ (AE.p (ak 3 rfl)) (AE.p aJ))) (AE.p (az pA (AE.p aJ) (AE.p (ak 4 rfl)))))) (AE.p aJ))))))) (AE.p (qO kJ (AE.p (ak 0 rfl)) (fG (AE.p (ak 2 rfl))) fH))))))))))) (by decide) h⟩)
abbrev xN:Stmt:=top 35
theorem Ah:cH ["_law_cell_here", "_law_many", "_law_left", "_law_ranks_here", "_law_draw", "_law_k"] ["_law_cell_here", "_law_many"] (bj xN):=⟨rfl,rfl,rfl,by decide +kernel,rfl,by decide +kernel,by decide +kernel⟩
theorem J9{f:Addr}{fd:FuncData}(F:pR K "_law_ranks" "_law_ranks" xN f fd)(T:Txt mg)  : eY P w K mg base gQ 1 f fd ["_law_cell_here", "_law_many"] (Hl mW) :=
 F.ok Ah (fun vs H Q E h=>SQ h) (fun cdv A outer s H vs Q E hr h=>by
  have nd:=Ah.nd
  have hu:=gY hr
  have hu64:=hr.units
  exact⟨_,(au (ux (i:=2) (N':=["_law_k"]) (ρ:=[none]) rfl nd rfl (Or.inl rfl) (gH.of rfl (by kernel_rfl)) (jE rfl T.b_range (aa (pv 1) aq)) (fun _ _ _ _ _=>(bL (i:=0) (by show (["_law_k"]:List Str).Nodup;decide +kernel) rfl (Or.inl rfl))) (jm rfl) (fun _ _ _ _ _=>jW) (fun _ _ _ _ _=>(pv 0)))
 (au (bD (i:=3) nd rfl (Or.inl rfl) (iZ aq))
 (au (bD (i:=4) nd rfl (Or.inl rfl) (aQ cj (pv 0) aB))
 (au (lW PassesOwn.never rfl (jE rfl T.b_range (aa (pv 1) aq)) (bL (i:=5) nd rfl (Or.inl rfl))
 (au (bD (i:=4) nd rfl (Or.inl rfl) (aQ cj (aQ bH (aQ bH (aQ lz (pv 4) aB) (aQ lz aB (pv 5))) aB) aB))
 (aH (fc (oW PySem.F.plainAttrs_list PySem.F.slot_list_append PySem.F.type_list_append iz (pv 3) (aa (oW PySem.F.plainAttrs_list PySem.F.slot_list_pop PySem.F.type_list_pop R6 (pv 2) (aa (aQ cj (aQ cg (pv 4) aB) (aW bN rfl T.cG PySem.boot_len (aa (pv 2) aq))) aq)) aq))))))
 (aH (bW (pv 3))))))),
  _root_.A.runN (N:=["_law_cell_here", "_law_many", "_law_left", "_law_ranks_here", "_law_draw", "_law_k"]) (M:=Mo [2,3]) (aN (yt 2 rfl (jA (K:=K) (tg:=(.n 0)) (N6.c (jH (AE.p (ak 1 rfl)))) (by decide) nG (ak 0 rfl)))
 (aN (yt 3 rfl (lU aU))
 (aN (bF 4 rfl (az dh (AE.p (ak 0 rfl)) (AE.p aJ)))
 (aN (pN (K:=K) (tg:=(.n 5)) (jH (AE.p (ak 1 rfl))) (by decide)
 (aN (bF 4 rfl (az dh (AE.p (az dN (AE.p (az dN (AE.p (az pA (AE.p (ak 4 rfl)) (AE.p aJ))) (AE.p (az pA (AE.p aJ) (AE.p (ak 5 rfl)))))) (AE.p aJ))) (AE.p aJ)))
 (GJ 3 2 (by decide) rfl rfl (AE.p (az dh (AE.p (az gZ (AE.p (ak 4 rfl)) (AE.p aJ))) (AE.p (gm cG (aD (ue 2) aU))))))))
 (yr 3 rfl))))) (by decide) h⟩)
abbrev Ff:Stmt:=top 36
theorem Hr:cH ["_law_script", "_law_most", "_law_many", "_law_names", "_law_ranks_here", "_law_thick", "_law_arrows", "_law_j", "_law_k", "_law_cell_here"] ["_law_script", "_law_most"] (bj Ff):=⟨rfl,rfl,rfl,by decide +kernel,rfl,by decide +kernel,by decide +kernel⟩
theorem RG{f:Addr}{fd:FuncData}(F:pR K "_law_net" "_law_net" Ff f fd)(T:Txt mg)(JG:pQ P w K mg base gQ 1 "_law_cell" ["_law_script", "_law_k"] (m9 cO))(Ep:pQ P w K mg base gQ 1 "_law_words" ["_law_cell_here", "_law_many"] (Hl iB))(Qk:pQ P w K mg base gQ 1 "_law_ranks" ["_law_cell_here", "_law_many"] (Hl mW)):eY P w K mg base gQ 2 f fd ["_law_script", "_law_most"] (m9 qx) :=
 F.ok Hr (fun vs H Q E h=>rE h) (fun cdv A outer s H vs Q E hr h=>by
  have nd:=Hr.nd
  have hu:=gY hr
  have hu64:=hr.units
  have hr_l_cell:=hr.mono (show 1≤_ by decide)
  have hr_l_words:=hr.mono (show 1≤_ by decide)
  have hr_l_ranks:=hr.mono (show 1≤_ by decide)
  exact⟨_,(au (bD (i:=2) nd rfl (Or.inl rfl) (aQ bH aB (aQ cj (bO JG hr_l_cell rfl dg (aa (pv 0) (aa aB aq))) (pv 1))))
 (au (bD (i:=3) nd rfl (Or.inl rfl) (bO Ep hr_l_words rfl dg (aa (bO JG hr_l_cell rfl dg (aa (pv 0) (aa aB aq))) (aa (pv 2) aq))))
 (au (bD (i:=4) nd rfl (Or.inl rfl) (bO Qk hr_l_ranks rfl dg (aa (bO JG hr_l_cell rfl dg (aa (pv 0) (aa aB aq))) (aa (pv 2) aq))))
 (au (bD (i:=5) nd rfl (Or.inl rfl) (cV bT (iZ (aa aB (aa aB (aa aB (aa aB (aa aB (aa aB aq))))))) (aQ cj (bO JG hr_l_cell rfl dg (aa (pv 0) (aa aB aq))) aB) (fun _ _=>rfl)))
 (au (bD (i:=6) nd rfl (Or.inl rfl) (iZ aq))
 (au (lW PassesOwn.never rfl (jE rfl T.b_range (aa (pv 2) aq)) (bL (i:=7) nd rfl (Or.inl rfl))
 (aH (lW PassesOwn.never rfl (jE rfl T.b_range (aa (pv 2) aq)) (bL (i:=8) nd rfl (Or.inl rfl))
 (au (bD (i:=9) nd rfl (Or.inl rfl) (bO JG hr_l_cell rfl dg (aa (pv 0) (aa (aQ bH (aQ bH aB (aQ cg (aQ lz (aW (yl rfl) rfl T.BX boot_max (aa (pv 7) (aa (pv 8) aq))) (aQ J6 (aW (yl rfl) rfl T.BX boot_max (aa (pv 7) (aa (pv 8) aq))) aB)) aB)) (aW (DP rfl) rfl T.Jg boot_min (aa (pv 7) (aa (pv 8) aq)))) aq))))
 (aH (cD (PW.pt (pw_and (bz pJ (cV bT (pv 4) (pv 7) (fun _ _=>rfl)) (cV bT (pv 4) (pv 8) (fun _ _=>rfl)) (bY _)) (pw_and1 (bz pJ (aQ cj (aQ cg (aQ cj (aQ lz (pv 9) aB) aB) aB) aB) (pv 5) (bY _)))))
 (aH (fc (oW PySem.F.plainAttrs_list PySem.F.slot_list_append PySem.F.type_list_append iz (pv 6) (aa (gD (aa (cV bT (pv 3) (pv 7) (fun _ _=>rfl)) (aa (cV bT (pv 3) (pv 8) (fun _ _=>rfl)) aq))) aq))))
 bu))))))
 (aH (bW (gD (aa (fX jy rfl T.ir boot_tuple (aa (pv 3) aq)) (aa (fX jy rfl T.ir boot_tuple (aa (pv 6) aq)) aq))))))))))),
  _root_.A.q9 (N:=["_law_script", "_law_most", "_law_many", "_law_names", "_law_ranks_here", "_law_thick", "_law_arrows", "_law_j", "_law_k", "_law_cell_here"]) (M:=Mo [6]) (aN (bF 2 rfl (az dN (AE.p aJ) (AE.p (az dh (AE.p (cW (aL (AE.w (ak 0 rfl)) (aL (AE.w aJ) bK)))) (AE.p (ak 1 rfl))))))
 (aN (bF 3 rfl (AE.nv (pB (aL (AE.w (cW (aL (AE.w (ak 0 rfl)) (aL (AE.w aJ) bK)))) (aL (AE.w (ak 2 rfl)) bK)))))
 (aN (bF 4 rfl (AE.nv (pB (aL (AE.w (cW (aL (AE.w (ak 0 rfl)) (aL (AE.w aJ) bK)))) (aL (AE.w (ak 2 rfl)) bK)))))
 (aN (bF 5 rfl (az gG (AE.np (lU (aD aJ (aD aJ (aD aJ (aD aJ (aD aJ (aD aJ aU)))))))) (AE.p (az dh (AE.p (cW (aL (AE.w (ak 0 rfl)) (aL (AE.w aJ) bK)))) (AE.p aJ)))))
 (aN (yt 6 rfl (lU aU))
 (aN (pN (K:=K) (tg:=(.n 7)) (jH (AE.p (ak 2 rfl))) (by decide)
 (pN (K:=K) (tg:=(.n 8)) (jH (AE.p (ak 2 rfl))) (by decide)
 (aN (bF 9 rfl (cW (aL (AE.w (ak 0 rfl)) (aL (AE.w (az dN (AE.p (az dN (AE.p aJ) (AE.p (az gZ (AE.p (az pA (AE.p (gm BX (aD (AE.p (ak 7 rfl)) (aD (AE.p (ak 8 rfl)) aU)))) (AE.p (az Ug (AE.p (gm BX (aD (AE.p (ak 7 rfl)) (aD (AE.p (ak 8 rfl)) aU)))) (AE.p aJ))))) (AE.p aJ))))) (AE.p (gm Jg (aD (AE.p (ak 7 rfl)) (aD (AE.p (ak 8 rfl)) aU)))))) bK))))
 (cQ (vU (aZ (AE.p (az CN (AE.p (az gG (AE.p (ak 4 rfl)) (AE.p (ak 7 rfl)))) (AE.p (az gG (AE.p (ak 4 rfl)) (AE.p (ak 8 rfl))))))) (aZ (AE.p (az CN (AE.p (az dh (AE.p (az gZ (AE.p (az dh (AE.p (az pA (AE.p (ak 9 rfl)) (AE.p aJ))) (AE.p aJ))) (AE.p aJ))) (AE.p aJ))) (AE.p (ak 5 rfl))))))
 (iW 6 rfl (lQ (aD (az gG (AE.p (ak 3 rfl)) (AE.p (ak 7 rfl))) (aD (az gG (AE.p (ak 3 rfl)) (AE.p (ak 8 rfl))) aU))))
 bw))))
 (cM (AE.w (lQ (aD (gm ir (aD (AE.p (ak 3 rfl)) aU)) (aD (gm ir (aD (ue 6) aU)) aU))))))))))) (by decide) h⟩)
abbrev xP:Stmt:=top 37
theorem Aj:cH ["_law_found", "_law_due_here", "_law_one", "_law_other"] ["_law_found", "_law_due_here"] (bj xP):=⟨rfl,rfl,rfl,by decide +kernel,rfl,by decide +kernel,by decide +kernel⟩
theorem Bd{f:Addr}{fd:FuncData}(F:pR K "_law_alike" "_law_alike" xP f fd)(T:Txt mg)  (self:∀ n,eY P w K mg base gQ (n+1) f fd ["_law_found", "_law_due_here"] (m9 (dw n))→pQ P w K mg base gQ (n+1) "_law_alike" ["_law_found", "_law_due_here"] (m9 (dw n))):∀ n,eY P w K mg base gQ (n+1) f fd ["_law_found", "_law_due_here"] (m9 (dw n))
 | 0=>Pj
 | n+1=>F.ok Aj (fun vs H Q E h=>rE h) (fun cdv A outer s H vs Q E hr h=>by
  have Ql:∀ m:Nat,m=n→pQ P w K mg base gQ (m+1) "_law_alike" ["_law_found", "_law_due_here"] (m9 (dw m)):=fun m e=>by subst e;exact self m (Bd F T  self m)
  have Ql:=fun m:Nat=>(Ql n rfl:pQ P w K mg base gQ (n+1) "_law_alike" ["_law_found", "_law_due_here"] (m9 (dw n)))
  have nd:=Aj.nd
  have hu:=gY hr
  have hu64:=hr.units
  have hr_l_alike:=hr.mono (show (n+1)≤_ by omega)
  exact⟨_,(au (cD (PW.pt (pw_or (j5 (aW mZ rfl T.b_isinstance boot_isinstance (aa (pv 1) (aa (qp rfl T.b_str boot_str) aq)))) (pw_or1 (j5 (aW mZ rfl T.b_isinstance boot_isinstance (aa (pv 1) (aa (qp rfl T.b_int boot_int) aq)))))))
 (au (cD (PW.pt (pw_or (bz (rB hu64) (aW mZ rfl T.b_isinstance boot_isinstance (aa (pv 0) (aa (qp rfl T.b_bool boot_bool) aq))) (aW mZ rfl T.b_isinstance boot_isinstance (aa (pv 1) (aa (qp rfl T.b_bool boot_bool) aq))) (bY _)) (pw_or1 (bz (rB hu64) (aW mZ rfl T.b_isinstance boot_isinstance (aa (pv 0) (aa (qp rfl T.b_str boot_str) aq))) (aW mZ rfl T.b_isinstance boot_isinstance (aa (pv 1) (aa (qp rfl T.b_str boot_str) aq))) (bY _)))))
 (aH (bW qt))
 bu)
 (aH (bW (Rw (aW Zp.DR rfl T.b_isinstance boot_isinstance (aa (pv 0) (aa (gD (aa (qp rfl T.b_int boot_int) (aa (qp rfl T.b_str boot_str) aq))) aq))) (Rt (Ft (j6 hu64) (pv 0) (pv 1) (bY _)))))))
 bu)
 (au (cD (PW.pt (pw_or (bz (rB hu64) (aW mZ rfl T.b_isinstance boot_isinstance (aa (pv 0) (aa (qp rfl T.jM boot_list) aq))) (aW mZ rfl T.b_isinstance boot_isinstance (aa (pv 1) (aa (qp rfl T.jM boot_list) aq))) (bY _)) (pw_or1 (tD (j5 (aW Zp.DR rfl T.b_isinstance boot_isinstance (aa (pv 0) (aa (gD (aa (qp rfl T.jM boot_list) (aa (qp rfl T.ir boot_tuple) aq))) aq))))))))
 (aH (bW qt))
 bu)
 (au (cD (bz (rB hu64) (aW bN rfl T.cG PySem.boot_len (aa (pv 0) aq)) (aW bN rfl T.cG PySem.boot_len (aa (pv 1) aq)) (bY _))
 (aH (bW qt))
 bu)
 (au (lW PassesOwn.never rfl (Zp.Vn rfl T.b_zip (pv 0) (pv 1)) (tE rfl (fO (bL (i:=2) nd rfl (Or.inl rfl)) (fO (bL (i:=3) nd rfl (Or.inl rfl)) oV)))
 (aH (cD (tD (j5 (bO (Ql n) hr_l_alike rfl dg (aa (pv 2) (aa (pv 3) aq)))))
 (aH (bW qt))
 bu)))
 (aH (bW qt)))))),
  _root_.A.q9 (N:=["_law_found", "_law_due_here", "_law_one", "_law_other"]) (M:=Mo []) (aN (cQ (u9 (qL (AE.p (Ju (ty_str K) (AE.p (ak 1 rfl))))) (qL (AE.p (Ju (ty_int K) (AE.p (ak 1 rfl))))))
 (aN (cQ (u9 (aZ (AE.p (az GC (AE.p (Ju (ty_bool K) (AE.p (ak 0 rfl)))) (AE.p (Ju (ty_bool K) (AE.p (ak 1 rfl))))))) (aZ (AE.p (az GC (AE.p (Ju (ty_str K) (AE.p (ak 0 rfl)))) (AE.p (Ju (ty_str K) (AE.p (ak 1 rfl))))))))
 (cM (AE.w yw))
 bw)
 (cM (AE.w (Xw (AE.p (Zp.Xv (Zp.aao (ty_int K) (ty_str K)) (by decide) (AE.p (ak 0 rfl)))) (az vQ (AE.p (ak 0 rfl)) (AE.p (ak 1 rfl)))))))
 bw)
 (aN (cQ (u9 (aZ (AE.p (az GC (AE.p (Ju (ty_list K) (AE.p (ak 0 rfl)))) (AE.p (Ju (ty_list K) (AE.p (ak 1 rfl))))))) (t8 (qL (AE.p (Zp.Xv (Zp.aao (ty_list K) (ty_tuple K)) (by decide) (AE.p (ak 0 rfl)))))))
 (cM (AE.w yw))
 bw)
 (aN (cQ (aZ (AE.p (az GC (AE.p (gm cG (aD (AE.p (ak 0 rfl)) aU))) (AE.p (gm cG (aD (AE.p (ak 1 rfl)) aU))))))
 (cM (AE.w yw))
 bw)
 (aN (pN (K:=K) (tg:=(.t [2,3])) (Zp.Wr (ak 0 rfl) (ak 1 rfl)) (by decide)
 (cQ (t8 (qL (AE.p (cW (aL (AE.w (ak 2 rfl)) (aL (AE.w (ak 3 rfl)) bK))))))
 (cM (AE.w yw))
 bw))
 (cM (AE.w yw)))))) (by decide) h⟩)
abbrev xO:Stmt:=top 39
theorem Ai:cH ["_law_e", "_law_some"] ["_law_e"] (bj xO):=⟨rfl,rfl,rfl,by decide +kernel,rfl,by decide +kernel,by decide +kernel⟩
theorem Ka{f:Addr}{fd:FuncData}(F:pR K "_law_kinds" "_law_kinds" xO f fd)(T:Txt mg)(O:Own mg base)(Kt:Kit K):Jy P w K mg base 1 f fd ["_law_e"] (Hl mX) :=
 F.okH Ai (fun vs H Q E h=>SQ h) (fun cdv A outer s H vs Q E hr h=>by
  have nd:=Ai.nd
  have hu64:=hr.units
  exact⟨_,(au (bD (i:=1) nd rfl (Or.inl rfl) (iZ aq))
 (au (cD (j5 (aW DQ rfl T.b_isinstance boot_isinstance (aa (pv 0) (aa (gD (aa (fQ (v:=.ref (Tb.cl "Locked")) rfl O.b_Locked rfl) (aa (fQ (v:=.ref (Tb.cl "NoArrow")) rfl O.b_NoArrow rfl) (aa (fQ (v:=.ref (Tb.cl "NoLabel")) rfl O.b_NoLabel rfl) (aa (fQ (v:=.ref (Tb.cl "NoNet")) rfl O.b_NoNet rfl) aq))))) aq))))
 (aH (fc (oW PySem.F.plainAttrs_list PySem.F.slot_list_append PySem.F.type_list_append iz (pv 1) (aa eQ aq))))
 bu)
 (au (cD (j5 (aW DQ rfl T.b_isinstance boot_isinstance (aa (pv 0) (aa (gD (aa (fQ (v:=.ref (Tb.cl "NoRow")) rfl O.b_NoRow rfl) (aa (fQ (v:=.ref (Tb.cl "NoSuch")) rfl O.b_NoSuch rfl) (aa (fQ (v:=.ref (Tb.cl "NoText")) rfl O.b_NoText rfl) (aa (fQ (v:=.ref (Tb.cl "NoTie")) rfl O.b_NoTie rfl) (aa (fQ (v:=.ref (Tb.cl "Unlike")) rfl O.b_Unlike rfl) aq)))))) aq))))
 (aH (fc (oW PySem.F.plainAttrs_list PySem.F.slot_list_append PySem.F.type_list_append iz (pv 1) (aa eQ aq))))
 bu)
 (au (cD (j5 (aW qI rfl T.b_isinstance boot_isinstance (aa (pv 0) (aa (fQ (v:=.ref (Tb.cl "NoName")) rfl O.b_NoName rfl) aq))))
 (aH (fc (oW PySem.F.plainAttrs_list PySem.F.slot_list_append PySem.F.type_list_append iz (pv 1) (aa eQ aq))))
 bu)
 (au (cD (j5 (aW qI rfl T.b_isinstance boot_isinstance (aa (pv 0) (aa (fQ (v:=.ref (Tb.cl "NoWord")) rfl O.b_NoWord rfl) aq))))
 (aH (fc (oW PySem.F.plainAttrs_list PySem.F.slot_list_append PySem.F.type_list_append iz (pv 1) (aa eQ aq))))
 bu)
 (au (cD (j5 (aW qI rfl T.b_isinstance boot_isinstance (aa (pv 0) (aa (fQ (v:=.ref (Tb.cl "Ring")) rfl O.b_Ring rfl) aq))))
 (aH (fc (oW PySem.F.plainAttrs_list PySem.F.slot_list_append PySem.F.type_list_append iz (pv 1) (aa eQ aq))))
 bu)
 (au (cD (j5 (aW qI rfl T.b_isinstance boot_isinstance (aa (pv 0) (aa (fQ (v:=.ref (Tb.cl "Twice")) rfl O.b_Twice rfl) aq))))
 (aH (fc (oW PySem.F.plainAttrs_list PySem.F.slot_list_append PySem.F.type_list_append iz (pv 1) (aa eQ aq))))
 bu)
 (au (cD (j5 (aW qI rfl T.b_isinstance boot_isinstance (aa (pv 0) (aa (fQ (v:=.ref (Tb.cl "WrongSize")) rfl O.b_WrongSize rfl) aq))))
 (aH (fc (oW PySem.F.plainAttrs_list PySem.F.slot_list_append PySem.F.type_list_append iz (pv 1) (aa eQ aq))))
 bu)
 (au (cD (tD (j5 (aW qI rfl T.b_isinstance boot_isinstance (aa (pv 0) (aa (qp rfl O.n_ValueError (by kernel_rfl)) aq)))))
 (aH (fc (oW PySem.F.plainAttrs_list PySem.F.slot_list_append PySem.F.type_list_append iz (pv 1) (aa eQ aq))))
 bu)
 (aH (bW (pv 1)))))))))))),
  _root_.A.runN (N:=["_law_e", "_law_some"]) (M:=Mo [1]) (aN (yt 1 rfl (lU aU))
 (aN (cQ (qL (AE.p (Ut (Cs:=[Tb.cl "Locked", Tb.cl "NoArrow", Tb.cl "NoLabel", Tb.cl "NoNet"]) rfl (by simp) Kt.k_Locked_NoArrow_NoLabel_NoNet)))
 (iW 1 rfl iC)
 bw)
 (aN (cQ (qL (AE.p (Ut (Cs:=[Tb.cl "NoRow", Tb.cl "NoSuch", Tb.cl "NoText", Tb.cl "NoTie", Tb.cl "Unlike"]) rfl (by simp) Kt.k_NoRow_NoSuch_NoText_NoTie_Unlike)))
 (iW 1 rfl iC)
 bw)
 (aN (cQ (qL (AE.p (Eh rfl (.own _) Kt.k_NoName)))
 (iW 1 rfl iC)
 bw)
 (aN (cQ (qL (AE.p (Eh rfl (.own _) Kt.k_NoWord)))
 (iW 1 rfl iC)
 bw)
 (aN (cQ (qL (AE.p (Eh rfl (.own _) Kt.k_Ring)))
 (iW 1 rfl iC)
 bw)
 (aN (cQ (qL (AE.p (Eh rfl (.own _) Kt.k_Twice)))
 (iW 1 rfl iC)
 bw)
 (aN (cQ (qL (AE.p (Eh rfl (.own _) Kt.k_WrongSize)))
 (iW 1 rfl iC)
 bw)
 (aN (cQ (t8 (qL (AE.p (Eh rfl (.blt _) Kt.k_ValueError))))
 (iW 1 rfl iC)
 bw)
 (yr 1 rfl)))))))))) (by decide) h⟩)
abbrev sY:Stmt:=top 40
theorem wC:cH ["_law_names", "_law_arrows", "_law_kinds_here", "_law_e"] ["_law_names", "_law_arrows"] (bj sY):=⟨rfl,rfl,rfl,by decide +kernel,rfl,by decide +kernel,by decide +kernel⟩
theorem FN{f:Addr}{fd:FuncData}(F:pR K "_law_refused" "_law_refused" sY f fd)(T:Txt mg)(O:Own mg base)(Kt:Kit K)  (JK:pQ P w K mg base (wj P w) 6 "net_made" ["names", "arrows"] (LQ Tb.cl mY))(Lr:Z5 P w K mg base 1 "_law_kinds" ["_law_e"] (Hl mX)):eY P w K mg base gQ 7 f fd ["_law_names", "_law_arrows"] (m9 fW) :=
 F.ok wC (fun vs H Q E h=>rE h) (fun cdv A outer s H vs Q E hr h=>by
  have nd:=wC.nd
  have hu:=gY hr
  have hu64:=hr.units
  have hrX_net_made:=hr.mono (show 6≤_ by decide)
  have hrH_l_kinds:=fun ea:Addr=>(hr.mono (show 1≤_ by decide)).abi (.ref ea)
  exact⟨_,(au (bD (i:=2) nd rfl (Or.inl rfl) (iZ aq))
 (au (Yn (i:=3) rfl rfl rfl nd rfl rfl rfl O.b_ArrowError Kt.m_ArrowError
 (Vm (Rm rfl JK hrX_net_made rfl (aa (pv 0) (aa (pv 1) aq))))
 (fun ea=>(aH (bD (i:=2) nd rfl (Or.inl rfl) (Vq (E:=fun _ _ _=>False) Lr (hrH_l_kinds ea) rfl (aa (pv 3) aq))))))
 (aH (bW (pv 2))))),
  _root_.A.q9 (N:=["_law_names", "_law_arrows", "_law_kinds_here", "_law_e"]) (M:=Mo []) (aN (bF 2 rfl (AE.nv (lU aU)))
 (aN (ZQ (cs:=["NoName", "WrongSize", "NoWord", "Twice"]) rfl
 (Wm (aL (AE.w (ak 0 rfl)) (aL (AE.w (ak 1 rfl)) bK)))
 (bF 2 rfl (AE.nv (pB (aL (ZL 3 rfl) bK)))))
 (cM (AE.w (ak 2 rfl))))) (by decide) h⟩)
abbrev sZ:Stmt:=top 41
theorem wF:cH ["_law_name", "_law_cell_here", "_law_odd", "_law_at"] ["_law_name", "_law_cell_here"] (bj sZ):=⟨rfl,rfl,rfl,by decide +kernel,rfl,by decide +kernel,by decide +kernel⟩
theorem FQ{f:Addr}{fd:FuncData}(F:pR K "_law_no_word" "_law_no_word" sZ f fd)(T:Txt mg)  : eY P w K mg base gQ 1 f fd ["_law_name", "_law_cell_here"] (m9 jt) :=
 F.ok wF (fun vs H Q E h=>rE h) (fun cdv A outer s H vs Q E hr h=>by
  have nd:=wF.nd
  have hu:=gY hr
  have hu64:=hr.units
  exact⟨_,(au (bD (i:=2) nd rfl (Or.inl rfl) eQ)
 (au (bD (i:=3) nd rfl (Or.inl rfl) (aQ cj (aQ cg (pv 1) aB) (aW (yl rfl) rfl T.BX boot_max (aa aB (aa (aW bN rfl T.cG PySem.boot_len (aa (pv 0) aq)) aq)))))
 (au (cD (bz (j6 hu64) (aQ cj (pv 1) aB) aB (bY _))
 (aH (bW eQ))
 bu)
 (au (cD (bz (j6 hu64) (aQ cj (pv 1) aB) aB (bY _))
 (aH (bW (dq qb (aQ Vu (pv 0) aB) fu (fj aB))))
 bu)
 (aH (bW (aQ bH (aQ bH (dq qb (pv 0) fu (fj (pv 3))) (cV bT (pv 2) (aQ cj (aQ cg (pv 1) aB) (aW bN rfl T.cG PySem.boot_len (aa (pv 2) aq))) (fun _ _=>rfl))) (dq qb (pv 0) (fj (aQ bH (pv 3) aB)) fu)))))))),
  _root_.A.q9 (N:=["_law_name", "_law_cell_here", "_law_odd", "_law_at"]) (M:=Mo []) (aN (bF 2 rfl iC)
 (aN (bF 3 rfl (az dh (AE.p (az gZ (AE.p (ak 1 rfl)) (AE.p aJ))) (AE.p (gm BX (aD (AE.p aJ) (aD (AE.p (gm cG (aD (AE.p (ak 0 rfl)) aU))) aU))))))
 (aN (cQ (aZ (AE.p (az vQ (AE.p (az dh (AE.p (ak 1 rfl)) (AE.p aJ))) (AE.p aJ))))
 (cM (AE.w iC))
 bw)
 (aN (cQ (aZ (AE.p (az vQ (AE.p (az dh (AE.p (ak 1 rfl)) (AE.p aJ))) (AE.p aJ))))
 (cM (AE.w (qO kJ (AE.p (az ZK (AE.p (ak 0 rfl)) (AE.p aJ))) fH (fG (AE.p aJ)))))
 bw)
 (cM (AE.w (az dN (AE.p (az dN (AE.p (qO kJ (AE.p (ak 0 rfl)) fH (fG (AE.p (ak 3 rfl))))) (AE.p (az gG (AE.p (ak 2 rfl)) (AE.p (az dh (AE.p (az gZ (AE.p (ak 1 rfl)) (AE.p aJ))) (AE.p (gm cG (aD (AE.p (ak 2 rfl)) aU))))))))) (AE.p (qO kJ (AE.p (ak 0 rfl)) (fG (AE.p (az dN (AE.p (ak 3 rfl)) (AE.p aJ)))) fH))))))))) (by decide) h⟩)
abbrev ou:Stmt:=top 42
theorem rN:cH ["_law_names", "_law_way", "_law_cell_here", "_law_at"] ["_law_names", "_law_way", "_law_cell_here"] (bj ou):=⟨rfl,rfl,rfl,by decide +kernel,rfl,by decide +kernel,by decide +kernel⟩
theorem yU{f:Addr}{fd:FuncData}(F:pR K "_law_names_done" "_law_names_done" ou f fd)(T:Txt mg)(Ep:pQ P w K mg base gQ 1 "_law_words" ["_law_cell_here", "_law_many"] (Hl iB))(JF:pQ P w K mg base gQ 1 "_law_no_word" ["_law_name", "_law_cell_here"] (m9 jt)):eY P w K mg base gQ 2 f fd ["_law_names", "_law_way", "_law_cell_here"] (m9 dJ) :=
 F.ok rN (fun vs H Q E h=>rE h) (fun cdv A outer s H vs Q E hr h=>by
  have nd:=rN.nd
  have hu:=gY hr
  have hu64:=hr.units
  have hr_l_words:=hr.mono (show 1≤_ by decide)
  have hr_l_no_word:=hr.mono (show 1≤_ by decide)
  exact⟨_,(au (bD (i:=3) nd rfl (Or.inl rfl) (aQ cj (aQ cg (pv 2) aB) (aW bN rfl T.cG PySem.boot_len (aa (pv 0) aq))))
 (au (cD (bz (j6 hu64) (pv 1) aB (bY _))
 (aH (bW (iZ aq)))
 bu)
 (au (cD (bz (j6 hu64) (pv 1) aB (bY _))
 (aH (bW (aQ bH (aQ bH (dq qb (pv 0) fu (fj (pv 3))) (bO Ep hr_l_words rfl dg (aa (aQ bH (aQ lz aB (aQ cj (pv 2) (aQ Yy aB aB))) aB) (aa (aQ J6 (aQ bH aB (aQ cj (pv 2) aB)) (aW bN rfl T.cG PySem.boot_len (aa (pv 0) aq))) aq)))) (dq qb (pv 0) (fj (pv 3)) fu))))
 bu)
 (au (cD (bz (j6 hu64) (pv 1) aB (bY _))
 (aH (bW (aQ bH (aQ bH (dq qb (pv 0) fu (fj (pv 3))) (iZ (aa (bO JF hr_l_no_word rfl dg (aa (cV bT (pv 0) (pv 3) (fun _ _=>rfl)) (aa (aQ cg (pv 2) aB) aq))) aq))) (dq qb (pv 0) (fj (aQ bH (pv 3) aB)) fu))))
 bu)
 (aH (bW (aQ bH (aQ bH (dq qb (pv 0) fu (fj (pv 3))) (iZ (aa (cV bT (pv 0) (aQ cj (aQ cg (pv 2) aB) (aW bN rfl T.cG PySem.boot_len (aa (pv 0) aq))) (fun _ _=>rfl)) aq))) (dq qb (pv 0) (fj (pv 3)) fu)))))))),
  _root_.A.q9 (N:=["_law_names", "_law_way", "_law_cell_here", "_law_at"]) (M:=Mo []) (aN (bF 3 rfl (az dh (AE.p (az gZ (AE.p (ak 2 rfl)) (AE.p aJ))) (AE.p (gm cG (aD (AE.p (ak 0 rfl)) aU)))))
 (aN (cQ (aZ (AE.p (az vQ (AE.p (ak 1 rfl)) (AE.p aJ))))
 (cM (AW.nv (AE.w (lU aU))))
 bw)
 (aN (cQ (aZ (AE.p (az vQ (AE.p (ak 1 rfl)) (AE.p aJ))))
 (cM (AE.w (az dN (AE.p (az dN (AE.p (qO kJ (AE.p (ak 0 rfl)) fH (fG (AE.p (ak 3 rfl))))) (AE.np (pB (aL (AE.w (az dN (AE.p (az pA (AE.p aJ) (AE.p (az dh (AE.p (ak 2 rfl)) (AE.p (az abu (AE.p aJ) (AE.p aJ))))))) (AE.p aJ))) (aL (AE.w (az Ug (AE.p (az dN (AE.p aJ) (AE.p (az dh (AE.p (ak 2 rfl)) (AE.p aJ))))) (AE.p (gm cG (aD (AE.p (ak 0 rfl)) aU))))) bK)))))) (AE.p (qO kJ (AE.p (ak 0 rfl)) (fG (AE.p (ak 3 rfl))) fH)))))
 bw)
 (aN (cQ (aZ (AE.p (az vQ (AE.p (ak 1 rfl)) (AE.p aJ))))
 (cM (AE.w (az dN (AE.p (az dN (AE.p (qO kJ (AE.p (ak 0 rfl)) fH (fG (AE.p (ak 3 rfl))))) (AE.np (lU (aD (cW (aL (AE.w (az gG (AE.p (ak 0 rfl)) (AE.p (ak 3 rfl)))) (aL (AE.w (az gZ (AE.p (ak 2 rfl)) (AE.p aJ))) bK))) aU))))) (AE.p (qO kJ (AE.p (ak 0 rfl)) (fG (AE.p (az dN (AE.p (ak 3 rfl)) (AE.p aJ)))) fH)))))
 bw)
 (cM (AE.w (az dN (AE.p (az dN (AE.p (qO kJ (AE.p (ak 0 rfl)) fH (fG (AE.p (ak 3 rfl))))) (AE.np (lU (aD (az gG (AE.p (ak 0 rfl)) (AE.p (az dh (AE.p (az gZ (AE.p (ak 2 rfl)) (AE.p aJ))) (AE.p (gm cG (aD (AE.p (ak 0 rfl)) aU)))))) aU))))) (AE.p (qO kJ (AE.p (ak 0 rfl)) (fG (AE.p (ak 3 rfl))) fH))))))))) (by decide) h⟩)
abbrev q8:Stmt:=top 38
theorem uU:cH ["_law_names", "_law_cell_here", "_law_one", "_law_letters", "_law_some"] ["_law_names", "_law_cell_here"] (bj q8):=⟨rfl,rfl,rfl,by decide +kernel,rfl,by decide +kernel,by decide +kernel⟩
theorem Cy{f:Addr}{fd:FuncData}(F:pR K "_law_stranger" "_law_stranger" q8 f fd)(T:Txt mg)  : eY P w K mg base gQ 1 f fd ["_law_names", "_law_cell_here"] (m9 dI) :=
 F.ok uU (fun vs H Q E h=>rE h) (fun cdv A outer s H vs Q E hr h=>by
  have nd:=uU.nd
  have hu:=gY hr
  have hu64:=hr.units
  exact⟨_,(au (bD (i:=2) nd rfl (Or.inl rfl) (cV bT (pv 0) (aQ cj (pv 1) (aW bN rfl T.cG PySem.boot_len (aa (pv 0) aq))) (fun _ _=>rfl)))
 (au (bD (i:=3) nd rfl (Or.inl rfl) eQ)
 (au (bD (i:=4) nd rfl (Or.inl rfl) (iZ (aa (aQ bH (pv 2) (cV bT (pv 3) (aQ cj (aQ cg (pv 1) aB) aB) (fun _ _=>rfl))) (aa (dq qb (pv 2) (fj aB) fu) (aa (dq qb (pv 2) fu (fj (aaU XN aB))) (aa (aQ bH (cV bT (pv 3) (aQ cj (aQ cg (pv 1) aB) aB) (fun _ _=>rfl)) (pv 2)) (aa (Yv PySem.F.plainAttrs_str PySem.F.slot_str_upper PySem.F.type_str_upper R5 (pv 2)) aq)))))))
 (au (bD (i:=4) nd rfl (Or.inl rfl) (aQ bH (pv 4) (lu (N':=["_law_sign"]) (ρ:=[none]) rfl (gH.of rfl (by kernel_rfl)) (iY (pv 3)) (fun _ _ _ _ _=>(bL (i:=0) (by show (["_law_sign"]:List Str).Nodup;decide +kernel) rfl (Or.inl rfl))) (jm rfl) (fun _ _ _ _ _=>jW) (fun _ _ _ _ _=>(pv 0)))))
 (au (ux (i:=4) (N':=["_law_names", "_law_text"]) (ρ:=[some 0,none]) rfl nd rfl (Or.inl rfl) (gH.of rfl (by kernel_rfl)) (iY (pv 4)) (fun _ _ _ _ _=>(bL (i:=1) (by show (["_law_names", "_law_text"]:List Str).Nodup;decide +kernel) rfl (Or.inl rfl))) (jm rfl) (fun _ _ _ _ _=>(wI (PW.pt (pw_and (bz (kE hu64) (pv 1) (pv 0) rfl) (pw_and1 (bz (rB hu64) (pv 1) eQ (bY _))))))) (fun _ _ _ _ _=>(pv 1)))
 (aH (bW (cV bT (pv 4) (aQ cj (aQ cg (pv 1) aB) (aW (DP rfl) rfl T.Jg boot_min (aa aB (aa (aW bN rfl T.cG PySem.boot_len (aa (pv 4) aq)) aq)))) (fun _ _=>rfl))))))))),
  _root_.A.q9 (N:=["_law_names", "_law_cell_here", "_law_one", "_law_letters", "_law_some"]) (M:=Mo []) (aN (bF 2 rfl (az gG (AE.p (ak 0 rfl)) (AE.p (az dh (AE.p (ak 1 rfl)) (AE.p (gm cG (aD (AE.p (ak 0 rfl)) aU)))))))
 (aN (bF 3 rfl iC)
 (aN (bF 4 rfl (AE.nv (lU (aD (az dN (AE.p (ak 2 rfl)) (AE.p (az gG (AE.p (ak 3 rfl)) (AE.p (az dh (AE.p (az gZ (AE.p (ak 1 rfl)) (AE.p aJ))) (AE.p aJ)))))) (aD (qO kJ (AE.p (ak 2 rfl)) (fG (AE.p aJ)) fH) (aD (qO kJ (AE.p (ak 2 rfl)) fH (fG (AE.p (acJ abv (AE.p aJ))))) (aD (az dN (AE.p (az gG (AE.p (ak 3 rfl)) (AE.p (az dh (AE.p (az gZ (AE.p (ak 1 rfl)) (AE.p aJ))) (AE.p aJ))))) (AE.p (ak 2 rfl))) (aD (Ws (AE.p (ak 2 rfl))) aU))))))))
 (aN (bF 4 rfl (az dN (AE.p (ak 4 rfl)) (AE.np (jA (K:=K) (tg:=(.n 0)) (lE (AE.p (ak 3 rfl))) (by decide) nG (ak 0 rfl)))))
 (aN (bF 4 rfl (AE.nv (jA (K:=K) (tg:=(.n 1)) (lE (AE.p (ak 4 rfl))) (by decide) (vU (aZ (AE.p (az pq (AE.p (ak 1 rfl)) (AE.p (ak 0 rfl))))) (aZ (AE.p (az GC (AE.p (ak 1 rfl)) (AE.p iC))))) (ak 1 rfl))))
 (cM (AE.w (az gG (AE.p (ak 4 rfl)) (AE.p (az dh (AE.p (az gZ (AE.p (ak 1 rfl)) (AE.p aJ))) (AE.p (gm Jg (aD (AE.p aJ) (aD (AE.p (gm cG (aD (AE.p (ak 4 rfl)) aU))) aU)))))))))))))) (by decide) h⟩)
abbrev ni:Stmt:=top 43
theorem qd:cH ["_law_names", "_law_arrows", "_law_way", "_law_cell_here", "_law_at", "_law_one", "_law_some"] ["_law_names", "_law_arrows", "_law_way", "_law_cell_here"] (bj ni):=⟨rfl,rfl,rfl,by decide +kernel,rfl,by decide +kernel,by decide +kernel⟩
theorem xW{f:Addr}{fd:FuncData}(F:pR K "_law_arrows_done" "_law_arrows_done" ni f fd)(T:Txt mg)(G3:pQ P w K mg base gQ 1 "_law_stranger" ["_law_names", "_law_cell_here"] (m9 dI)):eY P w K mg base gQ 2 f fd ["_law_names", "_law_arrows", "_law_way", "_law_cell_here"] (m9 dO) :=
 F.ok qd (fun vs H Q E h=>rE h) (fun cdv A outer s H vs Q E hr h=>by
  have nd:=qd.nd
  have hu:=gY hr
  have hu64:=hr.units
  have hr_l_stranger:=hr.mono (show 1≤_ by decide)
  exact⟨_,(au (bD (i:=4) nd rfl (Or.inl rfl) (aQ cj (aQ cg (pv 3) aB) (aQ bH (aW bN rfl T.cG PySem.boot_len (aa (pv 1) aq)) aB)))
 (au (bD (i:=5) nd rfl (Or.inl rfl) (cV bT (pv 0) (aQ cj (aQ cg (pv 3) aB) (aW bN rfl T.cG PySem.boot_len (aa (pv 0) aq))) (fun _ _=>rfl)))
 (au (bD (i:=6) nd rfl (Or.inl rfl) (cV bT (iZ (aa (gD (aa (pv 5) (aa (bO G3 hr_l_stranger rfl dg (aa (pv 0) (aa (aQ cg (pv 3) aB) aq))) aq))) (aa (gD (aa (bO G3 hr_l_stranger rfl dg (aa (pv 0) (aa (aQ cg (pv 3) aB) aq))) (aa (pv 5) aq))) aq))) (aQ cj (pv 3) aB) (fun _ _=>rfl)))
 (au (cD (bz (j6 hu64) (pv 2) aB (bY _))
 (aH (bD (i:=6) nd rfl (Or.inl rfl) (gD (aa (pv 5) (aa (pv 5) aq)))))
 bu)
 (au (cD (PW.pt (pw_and (bz pK (pv 2) aB (bY _)) (pw_and1 (bz pK (aW bN rfl T.cG PySem.boot_len (aa (pv 1) aq)) aB (bY _)))))
 (au (bD (i:=6) nd rfl (Or.inl rfl) (cV bT (pv 1) (aQ cj (aQ cg (pv 3) aB) (aW bN rfl T.cG PySem.boot_len (aa (pv 1) aq))) (fun _ _=>rfl)))
 (aH (cD (bz (j6 hu64) (pv 2) aB (bY _))
 (aH (bD (i:=6) nd rfl (Or.inl rfl) (gD (aa (cV bT (pv 6) aB (fun _ _=>rfl)) (aa (cV bT (pv 6) aB (fun _ _=>rfl)) aq)))))
 bu)))
 bu)
 (aH (bW (aQ bH (aQ bH (dq qb (pv 1) fu (fj (pv 4))) (iZ (aa (pv 6) aq))) (dq qb (pv 1) (fj (pv 4)) fu))))))))),
  _root_.A.q9 (N:=["_law_names", "_law_arrows", "_law_way", "_law_cell_here", "_law_at", "_law_one", "_law_some"]) (M:=Mo []) (aN (bF 4 rfl (az dh (AE.p (az gZ (AE.p (ak 3 rfl)) (AE.p aJ))) (AE.p (az dN (AE.p (gm cG (aD (AE.p (ak 1 rfl)) aU))) (AE.p aJ)))))
 (aN (bF 5 rfl (az gG (AE.p (ak 0 rfl)) (AE.p (az dh (AE.p (az gZ (AE.p (ak 3 rfl)) (AE.p aJ))) (AE.p (gm cG (aD (AE.p (ak 0 rfl)) aU)))))))
 (aN (bF 6 rfl (az gG (AE.np (lU (aD (lQ (aD (ak 5 rfl) (aD (cW (aL (AE.w (ak 0 rfl)) (aL (AE.w (az gZ (AE.p (ak 3 rfl)) (AE.p aJ))) bK))) aU))) (aD (lQ (aD (cW (aL (AE.w (ak 0 rfl)) (aL (AE.w (az gZ (AE.p (ak 3 rfl)) (AE.p aJ))) bK))) (aD (ak 5 rfl) aU))) aU)))) (AE.p (az dh (AE.p (ak 3 rfl)) (AE.p aJ)))))
 (aN (cQ (aZ (AE.p (az vQ (AE.p (ak 2 rfl)) (AE.p aJ))))
 (bF 6 rfl (lQ (aD (ak 5 rfl) (aD (ak 5 rfl) aU))))
 bw)
 (aN (cQ (vU (aZ (AE.p (az CP (AE.p (ak 2 rfl)) (AE.p aJ)))) (aZ (AE.p (az CP (AE.p (gm cG (aD (AE.p (ak 1 rfl)) aU))) (AE.p aJ)))))
 (aN (bF 6 rfl (az gG (AE.p (ak 1 rfl)) (AE.p (az dh (AE.p (az gZ (AE.p (ak 3 rfl)) (AE.p aJ))) (AE.p (gm cG (aD (AE.p (ak 1 rfl)) aU)))))))
 (cQ (aZ (AE.p (az vQ (AE.p (ak 2 rfl)) (AE.p aJ))))
 (bF 6 rfl (lQ (aD (az gG (AE.p (ak 6 rfl)) (AE.p aJ)) (aD (az gG (AE.p (ak 6 rfl)) (AE.p aJ)) aU))))
 bw))
 bw)
 (cM (AE.w (az dN (AE.p (az dN (AE.p (qO kJ (AE.p (ak 1 rfl)) fH (fG (AE.p (ak 4 rfl))))) (AE.np (lU (aD (ak 6 rfl) aU))))) (AE.p (qO kJ (AE.p (ak 1 rfl)) (fG (AE.p (ak 4 rfl))) fH)))))))))) (by decide) h⟩)
abbrev pH:Stmt:=top 44
theorem sW:cH ["_law_names", "_law_k", "_law_name"] ["_law_names"] (bj pH):=⟨rfl,rfl,rfl,by decide +kernel,rfl,by decide +kernel,by decide +kernel⟩
theorem Bc{f:Addr}{fd:FuncData}(F:pR K "_law_names_due" "_law_names_due" pH f fd)(T:Txt mg)  : eY P w K mg base gQ 1 f fd ["_law_names"] (m9 jU) :=
 F.ok sW (fun vs H Q E h=>rE h) (fun cdv A outer s H vs Q E hr h=>by
  have nd:=sW.nd
  have hu:=gY hr
  have hu64:=hr.units
  exact⟨_,(au (cD (PW.pt (pw_or (bz pJ (aW bN rfl T.cG PySem.boot_len (aa (pv 0) aq)) aB (bY _)) (pw_or1 (bz pK (aW bN rfl T.cG PySem.boot_len (aa (pv 0) aq)) aB (bY _)))))
 (aH (bW eQ))
 bu)
 (au (lW PassesOwn.never rfl (Mj rfl T.b_enumerate (pv 0)) (tE rfl (fO (bL (i:=1) nd rfl (Or.inl rfl)) (fO (bL (i:=2) nd rfl (Or.inl rfl)) oV)))
 (au (cD (PW.pt (pw_or (tD (Aw pJ pJ aB (aW bN rfl T.cG PySem.boot_len (aa (pv 2) aq)) aB)) (pw_or1 (bz pK (aW bN rfl T.cG PySem.boot_len (aa (lu (N':=["_law_sign"]) (ρ:=[none]) rfl (gH.of rfl (by kernel_rfl)) (iY (pv 2)) (fun _ _ _ _ _=>(bL (i:=0) (by show (["_law_sign"]:List Str).Nodup;decide +kernel) rfl (Or.inl rfl))) (jm rfl) (fun _ _ _ _ _=>(wI (PW.pt (pw_or (bz pJ (pv 0) eQ (bY _)) (pw_or1 (bz pK (pv 0) eQ (bY _))))))) (fun _ _ _ _ _=>(pv 0))) aq)) aB (bY _)))))
 (aH (bW eQ))
 bu)
 (aH (cD (bz (Az hu64) (pv 2) (dq qb (pv 0) fu (fj (pv 1))) rfl)
 (aH (bW eQ))
 bu))))
 (aH (bW eQ)))),
  _root_.A.q9 (N:=["_law_names", "_law_k", "_law_name"]) (M:=Mo []) (aN (cQ (u9 (aZ (AE.p (az CN (AE.p (gm cG (aD (AE.p (ak 0 rfl)) aU))) (AE.p aJ)))) (aZ (AE.p (az CP (AE.p (gm cG (aD (AE.p (ak 0 rfl)) aU))) (AE.p aJ)))))
 (cM (AE.w iC))
 bw)
 (aN (pN (K:=K) (tg:=(.t [1,2])) (NB (ak 0 rfl)) (by decide)
 (aN (cQ (u9 (t8 (aZ (AE.p (zP CN CN (AE.p aJ) (AE.p (gm cG (aD (AE.p (ak 2 rfl)) aU))) (AE.p aJ))))) (aZ (AE.p (az CP (AE.p (gm cG (aD (AE.np (jA (K:=K) (tg:=(.n 0)) (lE (AE.p (ak 2 rfl))) (by decide) (u9 (aZ (AE.p (az CN (AE.p (ak 0 rfl)) (AE.p iC)))) (aZ (AE.p (az CP (AE.p (ak 0 rfl)) (AE.p iC))))) (ak 0 rfl))) aU))) (AE.p aJ)))))
 (cM (AE.w iC))
 bw)
 (cQ (aZ (AE.p (az Uh (AE.p (ak 2 rfl)) (AE.p (qO kJ (AE.p (ak 0 rfl)) fH (fG (AE.p (ak 1 rfl))))))))
 (cM (AE.w iC))
 bw)))
 (cM (AE.w iC)))) (by decide) h⟩)
abbrev Fg:Stmt:=top 45
theorem Hs:cH ["_law_names", "_law_arrows", "_law_due_here", "_law_k", "_law_pair"] ["_law_names", "_law_arrows"] (bj Fg):=⟨rfl,rfl,rfl,by decide +kernel,rfl,by decide +kernel,by decide +kernel⟩
theorem RJ{f:Addr}{fd:FuncData}(F:pR K "_law_due" "_law_due" Fg f fd)(T:Txt mg)(CZ:pQ P w K mg base gQ 1 "_law_names_due" ["_law_names"] (m9 jU)):eY P w K mg base gQ 2 f fd ["_law_names", "_law_arrows"] (m9 uE) :=
 F.ok Hs (fun vs H Q E h=>rE h) (fun cdv A outer s H vs Q E hr h=>by
  have nd:=Hs.nd
  have hu:=gY hr
  have hu64:=hr.units
  have hr_l_names_due:=hr.mono (show 1≤_ by decide)
  exact⟨_,(au (bD (i:=2) nd rfl (Or.inl rfl) (bO CZ hr_l_names_due rfl dg (aa (pv 0) aq)))
 (au (cD (bz (rB hu64) (pv 2) eQ (bY _))
 (aH (bW (pv 2)))
 bu)
 (au (lW PassesOwn.never rfl (Mj rfl T.b_enumerate (pv 1)) (tE rfl (fO (bL (i:=3) nd rfl (Or.inl rfl)) (fO (bL (i:=4) nd rfl (Or.inl rfl)) oV)))
 (au (cD (PW.pt (pw_or (bz (kE hu64) (cV bT (pv 4) aB (fun _ _=>rfl)) (pv 0) rfl) (pw_or1 (bz (kE hu64) (cV bT (pv 4) aB (fun _ _=>rfl)) (pv 0) rfl))))
 (aH (bW eQ))
 bu)
 (aH (cD (PW.pt (pw_or (bz (j6 hu64) (cV bT (pv 4) aB (fun _ _=>rfl)) (cV bT (pv 4) aB (fun _ _=>rfl)) (bY _)) (pw_or (bz (Az hu64) (pv 4) (dq qb (pv 1) fu (fj (pv 3))) rfl) (pw_or1 (bz (Az hu64) (gD (aa (cV bT (pv 4) aB (fun _ _=>rfl)) (aa (cV bT (pv 4) aB (fun _ _=>rfl)) aq))) (dq qb (pv 1) fu (fj (pv 3))) rfl)))))
 (aH (bW eQ))
 bu))))
 (aH (bW eQ))))),
  _root_.A.q9 (N:=["_law_names", "_law_arrows", "_law_due_here", "_law_k", "_law_pair"]) (M:=Mo []) (aN (bF 2 rfl (cW (aL (AE.w (ak 0 rfl)) bK)))
 (aN (cQ (aZ (AE.p (az GC (AE.p (ak 2 rfl)) (AE.p iC))))
 (cM (AE.w (ak 2 rfl)))
 bw)
 (aN (pN (K:=K) (tg:=(.t [3,4])) (NB (ak 1 rfl)) (by decide)
 (aN (cQ (u9 (aZ (AE.p (az pq (AE.p (az gG (AE.p (ak 4 rfl)) (AE.p aJ))) (AE.p (ak 0 rfl))))) (aZ (AE.p (az pq (AE.p (az gG (AE.p (ak 4 rfl)) (AE.p aJ))) (AE.p (ak 0 rfl))))))
 (cM (AE.w iC))
 bw)
 (cQ (u9 (aZ (AE.p (az vQ (AE.p (az gG (AE.p (ak 4 rfl)) (AE.p aJ))) (AE.p (az gG (AE.p (ak 4 rfl)) (AE.p aJ)))))) (u9 (aZ (AE.p (az Uh (AE.p (ak 4 rfl)) (AE.p (qO kJ (AE.p (ak 1 rfl)) fH (fG (AE.p (ak 3 rfl)))))))) (aZ (AE.p (az Uh (AE.p (lQ (aD (az gG (AE.p (ak 4 rfl)) (AE.p aJ)) (aD (az gG (AE.p (ak 4 rfl)) (AE.p aJ)) aU)))) (AE.p (qO kJ (AE.p (ak 1 rfl)) fH (fG (AE.p (ak 3 rfl))))))))))
 (cM (AE.w iC))
 bw)))
 (cM (AE.w iC))))) (by decide) h⟩)
abbrev Q3:Stmt:=top 46
theorem QX:cH ["_law_script", "_law_net_here", "_law_cell_here", "_law_names", "_law_arrows", "_law_at", "_law_due_here", "_law_handed"] ["_law_script"] (bj Q3):=⟨rfl,rfl,rfl,by decide +kernel,rfl,by decide +kernel,by decide +kernel⟩
theorem YF{f:Addr}{fd:FuncData}(F:pR K "law" "law" Q3 f fd)(T:Txt mg)(Lq:pQ P w K mg base gQ 6 "net_made" ["names", "arrows"] (m9 my))(JG:pQ P w K mg base gQ 1 "_law_cell" ["_law_script", "_law_k"] (m9 cO))(Wy:pQ P w K mg base gQ 2 "_law_net" ["_law_script", "_law_most"] (m9 qx))(Ql:∀ n,pQ P w K mg base gQ (n+1) "_law_alike" ["_law_found", "_law_due_here"] (m9 (dw n)))(JD:pQ P w K mg base gQ 7 "_law_refused" ["_law_names", "_law_arrows"] (m9 fW))(Cp:pQ P w K mg base gQ 2 "_law_names_done" ["_law_names", "_law_way", "_law_cell_here"] (m9 dJ))(zg:pQ P w K mg base gQ 2 "_law_arrows_done" ["_law_names", "_law_arrows", "_law_way", "_law_cell_here"] (m9 dO))(Wz:pQ P w K mg base gQ 2 "_law_due" ["_law_names", "_law_arrows"] (m9 uE)):eY P w K mg base gQ 8 f fd ["_law_script"] (m9 xY) :=
 F.ok QX (fun vs H Q E h=>rE h) (fun cdv A outer s H vs Q E hr h=>by
  have nd:=QX.nd
  have hu:=gY hr
  have hu64:=hr.units
  have hr_net_made:=hr.mono (show 6≤_ by decide)
  have hr_l_cell:=hr.mono (show 1≤_ by decide)
  have hr_l_net:=hr.mono (show 2≤_ by decide)
  have hr_l_alike:=hr.mono (show (4+1)≤_ by decide)
  have hr_l_refused:=hr.mono (show 7≤_ by decide)
  have hr_l_names_done:=hr.mono (show 2≤_ by decide)
  have hr_l_arrows_done:=hr.mono (show 2≤_ by decide)
  have hr_l_due:=hr.mono (show 2≤_ by decide)
  exact⟨_,(au (bD (i:=1) nd rfl (Or.inl rfl) (bO Wy hr_l_net rfl dg (aa (pv 0) (aa aB aq))))
 (au (bD (i:=2) nd rfl (Or.inl rfl) (bO JG hr_l_cell rfl dg (aa (pv 0) (aa aB aq))))
 (au (bD (i:=3) nd rfl (Or.inl rfl) (fX mD rfl T.jM boot_list (aa (cV bT (pv 1) aB (fun _ _=>rfl)) aq)))
 (au (bD (i:=4) nd rfl (Or.inl rfl) (fX mD rfl T.jM boot_list (aa (cV bT (pv 1) aB (fun _ _=>rfl)) aq)))
 (au (cD (PW.pt (pw_and (bz (j6 hu64) (aQ cj (aQ cg (pv 2) aB) aB) aB (bY _)) (pw_and1 (bz pK (aW bN rfl T.cG PySem.boot_len (aa (pv 4) aq)) aB (bY _)))))
 (au (bD (i:=5) nd rfl (Or.inl rfl) (aQ cj (aQ cg (pv 2) aB) (aW bN rfl T.cG PySem.boot_len (aa (pv 4) aq))))
 (aH (Yo (gD (aa (cV bT (cV bT (pv 4) (pv 5) (fun _ _=>rfl)) aB (fun _ _=>rfl)) (aa (cV bT (cV bT (pv 4) (pv 5) (fun _ _=>rfl)) aB (fun _ _=>rfl)) aq))) (Yr (pv 4) (pv 5) set_list))))
 bu)
 (au (cD (bz pJ (aQ cj (pv 2) aB) aB (bY _))
 (aH (bD (i:=4) nd rfl (Or.inl rfl) (bO zg hr_l_arrows_done rfl dg (aa (pv 3) (aa (pv 4) (aa (aQ bH aB (aQ cj (aQ cg (pv 2) aB) aB)) (aa (bO JG hr_l_cell rfl dg (aa (pv 0) (aa aB aq))) aq)))))))
 bu)
 (au (cD (bz pJ (aQ cj (pv 2) aB) aB (bY _))
 (aH (bD (i:=4) nd rfl (Or.inl rfl) (bO zg hr_l_arrows_done rfl dg (aa (pv 3) (aa (pv 4) (aa (aQ bH aB (aQ cj (aQ cg (pv 2) aB) aB)) (aa (bO JG hr_l_cell rfl dg (aa (pv 0) (aa aB aq))) aq)))))))
 bu)
 (au (cD (bz pK (aQ cj (pv 2) aB) aB (bY _))
 (aH (bD (i:=3) nd rfl (Or.inl rfl) (bO Cp hr_l_names_done rfl dg (aa (pv 3) (aa (aQ bH aB (aQ cj (aQ cg (pv 2) aB) aB)) (aa (bO JG hr_l_cell rfl dg (aa (pv 0) (aa aB aq))) aq))))))
 bu)
 (au (cD (PW.pt (pw_and (bz pK (aQ cj (pv 2) aB) aB (bY _)) (pw_and (bz (j6 hu64) (aQ cj (aQ cg (pv 2) aB) aB) aB (bY _)) (pw_and1 (bz pK (aW bN rfl T.cG PySem.boot_len (aa (pv 3) aq)) aB (bY _))))))
 (aH (bD (i:=3) nd rfl (Or.inl rfl) (bO Cp hr_l_names_done rfl dg (aa (pv 3) (aa (aQ bH aB (aQ cj (aQ cg (pv 2) aB) aB)) (aa (bO JG hr_l_cell rfl dg (aa (pv 0) (aa aB aq))) aq))))))
 bu)
 (au (bD (i:=6) nd rfl (Or.inl rfl) (iZ (aa (bO Wz hr_l_due rfl dg (aa (pv 3) (aa (pv 4) aq))) aq)))
 (au (bD (i:=7) nd rfl (Or.inl rfl) (iZ (aa (fX mD rfl T.jM boot_list (aa (pv 3) aq)) (aa (fX mD rfl T.jM boot_list (aa (pv 4) aq)) aq))))
 (au (cD (PW.pt (pw_or (bz (rB hu64) (bO JD hr_l_refused rfl dg (aa (cV bT (pv 7) aB (fun _ _=>rfl)) (aa (cV bT (pv 7) aB (fun _ _=>rfl)) aq))) (pv 6) (bY _)) (pw_or1 (bz (rB hu64) (pv 7) (iZ (aa (pv 3) (aa (pv 4) aq))) (bY _)))))
 (aH (bW qt))
 bu)
 (au (cD (bz (rB hu64) (bO JD hr_l_refused rfl dg (aa (cV bT (pv 7) aB (fun _ _=>rfl)) (aa (cV bT (pv 7) aB (fun _ _=>rfl)) aq))) (pv 6) (bY _))
 (aH (bW qt))
 bu)
 (aH (bW (bO (Ql 4) hr_l_alike rfl dg (aa (bO Lq hr_net_made rfl dg (aa (fX mD rfl T.jM boot_list (aa (cV bT (pv 1) aB (fun _ _=>rfl)) aq)) (aa (fX mD rfl T.jM boot_list (aa (cV bT (pv 1) aB (fun _ _=>rfl)) aq)) aq))) (aa (pv 1) aq)))))))))))))))))),
  _root_.A.q9 (N:=["_law_script", "_law_net_here", "_law_cell_here", "_law_names", "_law_arrows", "_law_at", "_law_due_here", "_law_handed"]) (M:=Mo [4]) (aN (bF 1 rfl (cW (aL (AE.w (ak 0 rfl)) (aL (AE.w aJ) bK))))
 (aN (bF 2 rfl (cW (aL (AE.w (ak 0 rfl)) (aL (AE.w aJ) bK))))
 (aN (bF 3 rfl (AE.nv (gm jM (aD (AE.p (az gG (AE.p (ak 1 rfl)) (AE.p aJ))) aU))))
 (aN (yt 4 rfl (gm jM (aD (AE.p (az gG (AE.p (ak 1 rfl)) (AE.p aJ))) aU)))
 (aN (cQ (vU (aZ (AE.p (az vQ (AE.p (az dh (AE.p (az gZ (AE.p (ak 2 rfl)) (AE.p aJ))) (AE.p aJ))) (AE.p aJ)))) (aZ (AE.p (az CP (AE.p (gm cG (aD (ue 4) aU))) (AE.p aJ)))))
 (aN (bF 5 rfl (az dh (AE.p (az gZ (AE.p (ak 2 rfl)) (AE.p aJ))) (AE.p (gm cG (aD (ue 4) aU)))))
 (Um 4 rfl (lQ (aD (az gG (AE.p (az gG (ue 4) (AE.p (ak 5 rfl)))) (AE.p aJ)) (aD (az gG (AE.p (az gG (ue 4) (AE.p (ak 5 rfl)))) (AE.p aJ)) aU))) (AE.p (ak 5 rfl))))
 bw)
 (ZR 4 rfl (aN (cQ (aZ (AE.p (az CN (AE.p (az dh (AE.p (ak 2 rfl)) (AE.p aJ))) (AE.p aJ))))
 (bF 4 rfl (cW (aL (AE.w (ak 3 rfl)) (aL (AE.w (ak 4 rfl)) (aL (AE.w (az dN (AE.p aJ) (AE.p (az dh (AE.p (az gZ (AE.p (ak 2 rfl)) (AE.p aJ))) (AE.p aJ))))) (aL (AE.w (cW (aL (AE.w (ak 0 rfl)) (aL (AE.w aJ) bK)))) bK))))))
 bw)
 (aN (cQ (aZ (AE.p (az CN (AE.p (az dh (AE.p (ak 2 rfl)) (AE.p aJ))) (AE.p aJ))))
 (bF 4 rfl (cW (aL (AE.w (ak 3 rfl)) (aL (AE.w (ak 4 rfl)) (aL (AE.w (az dN (AE.p aJ) (AE.p (az dh (AE.p (az gZ (AE.p (ak 2 rfl)) (AE.p aJ))) (AE.p aJ))))) (aL (AE.w (cW (aL (AE.w (ak 0 rfl)) (aL (AE.w aJ) bK)))) bK))))))
 bw)
 (aN (cQ (aZ (AE.p (az CP (AE.p (az dh (AE.p (ak 2 rfl)) (AE.p aJ))) (AE.p aJ))))
 (bF 3 rfl (cW (aL (AE.w (ak 3 rfl)) (aL (AE.w (az dN (AE.p aJ) (AE.p (az dh (AE.p (az gZ (AE.p (ak 2 rfl)) (AE.p aJ))) (AE.p aJ))))) (aL (AE.w (cW (aL (AE.w (ak 0 rfl)) (aL (AE.w aJ) bK)))) bK)))))
 bw)
 (aN (cQ (vU (aZ (AE.p (az CP (AE.p (az dh (AE.p (ak 2 rfl)) (AE.p aJ))) (AE.p aJ)))) (vU (aZ (AE.p (az vQ (AE.p (az dh (AE.p (az gZ (AE.p (ak 2 rfl)) (AE.p aJ))) (AE.p aJ))) (AE.p aJ)))) (aZ (AE.p (az CP (AE.p (gm cG (aD (AE.p (ak 3 rfl)) aU))) (AE.p aJ))))))
 (bF 3 rfl (cW (aL (AE.w (ak 3 rfl)) (aL (AE.w (az dN (AE.p aJ) (AE.p (az dh (AE.p (az gZ (AE.p (ak 2 rfl)) (AE.p aJ))) (AE.p aJ))))) (aL (AE.w (cW (aL (AE.w (ak 0 rfl)) (aL (AE.w aJ) bK)))) bK)))))
 bw)
 (aN (bF 6 rfl (AE.nv (lU (aD (cW (aL (AE.w (ak 3 rfl)) (aL (AE.w (ak 4 rfl)) bK))) aU))))
 (aN (bF 7 rfl (AE.nv (lU (aD (AE.nv (gm jM (aD (AE.p (ak 3 rfl)) aU))) (aD (AE.nv (gm jM (aD (AE.p (ak 4 rfl)) aU))) aU)))))
 (aN (cQ (u9 (aZ (AE.p (az GC (AE.p (cW (aL (AE.w (az gG (AE.p (ak 7 rfl)) (AE.p aJ))) (aL (AE.w (az gG (AE.p (ak 7 rfl)) (AE.p aJ))) bK)))) (AE.p (ak 6 rfl))))) (aZ (AE.p (az GC (AE.p (ak 7 rfl)) (AE.np (lU (aD (ak 3 rfl) (aD (ak 4 rfl) aU))))))))
 (cM (AE.w yw))
 bw)
 (aN (cQ (aZ (AE.p (az GC (AE.p (cW (aL (AE.w (az gG (AE.p (ak 7 rfl)) (AE.p aJ))) (aL (AE.w (az gG (AE.p (ak 7 rfl)) (AE.p aJ))) bK)))) (AE.p (ak 6 rfl)))))
 (cM (AE.w yw))
 bw)
 (cM (AE.w (cW (aL (AE.w (cW (aL (AW.nv (AE.w (gm jM (aD (AE.p (az gG (AE.p (ak 1 rfl)) (AE.p aJ))) aU)))) (aL (AW.nv (AE.w (gm jM (aD (AE.p (az gG (AE.p (ak 1 rfl)) (AE.p aJ))) aU)))) bK)))) (aL (AE.w (ak 1 rfl)) bK))))))))))))))))))) (by decide) h⟩)
end
end Ux
namespace L2
open PySem PySem.Spec PyProof.Rows
theorem lX{K:PySem.W.Frag}{h:Heap}{mg:Str→Option Value}{y:Str}{D:Addr}{bb:List Value}{nw:String}(X:K.In h)(G:h.Ns mainGlobals mg)(a:PySem.W.nsIn K mainGlobals y=some (some (.ref D)))(t:PySem.W.excIn K D bb nw=true):OwnCls y D bb nw mg h:=by
 refine⟨PySem.W.mg_of X G a,?_⟩
 simp only[PySem.W.excIn] at t
 split at t
 case h_2=>cases t
 case h_1 d1 c1 s1 e1 =>
  split at t
  case h_2=>cases t
  case h_1 D' m1 p0 p1 p2 p3 b1 p5 em es =>
   obtain⟨n1,bs,mr,N1,qn,hd,sn,sb,ab,co,de⟩:=c1
   obtain⟨l1⟩:=s1
   dsimp only at em es t
   subst em
   subst es
   have t1:=Bool.and_eq_true_iff.mp t
   have t2:=Bool.and_eq_true_iff.mp t1.1
   have t3:=Bool.and_eq_true_iff.mp t2.1
   have t4:=Bool.and_eq_true_iff.mp t3.1
   have t5:=Bool.and_eq_true_iff.mp t4.1
   have u1:=beq_iff_eq.mp t5.1
   have u2:=beq_iff_eq.mp t5.2
   have u3:de=false:=by simpa using t4.2
   subst u1 u2 u3
   exact⟨m1,N1,n1,qn,bs,hd,sn,sb,ab,co,d1,p0,p1,p2,p3,p5,h.nsMap N1,X _ _ e1,.of_isNs (PySem.W.isNs_of_in X t2.2),PySem.W.nsMap_none_of_in X t2.2 (beq_iff_eq.mp t1.2),PySem.W.tail_of_in X t3.2⟩
theorem tL{R:String→Bool→Prop}:∀ x k,(fun c=>([]:List (String×Bool)).lookup c) x=some k→R x k:=fun _ _ h=>nomatch h
theorem cF{n:String}{b:Bool}{l:List (String×Bool)}{R:String→Bool→Prop}(h:R n b)(t:∀ x k,(fun c=>l.lookup c) x=some k→R x k):∀ x k,(fun c=>((n,b)::l).lookup c) x=some k→R x k:=by
 intro x k e
 simp only[List.lookup] at e
 split at e
 ·rename_i q
  cases e
  rw[beq_iff_eq.mp q];exact h
 ·exact t x k e
theorem YL{R:Addr→Prop}{cl:String→Addr}:∀ C,(∃ c∈([]:List String),C=cl c)→R C:=fun C ⟨c,h,_⟩=>nomatch h
theorem zy{n:String}{l:List String}{R:Addr→Prop}{cl:String→Addr}(h:R (cl n))(t:∀ C,(∃ c∈l,C=cl c)→R C):∀ C,(∃ c∈n::l,C=cl c)→R C:=fun C ⟨c,hc,e⟩=>by
 cases hc with
 | head=>rw[e];exact h
 | tail _ k=>exact t C ⟨c,k,e⟩
theorem vd.ack{P:Program}{w:World}{K:PySem.W.Frag}{mg:Str→Option Value}{CX:G4}{k:Nat}{x p:Str}{st:Stmt}{sp:Sp}{fa c T:Addr}(F:vd K mg x st [p])(hm:mg x=some (.ref fa))(h:∀ base,K.In base→base.Ns mainGlobals mg→BM mg base→PySem.W.CodeHd base c T→∀ f fd,pR K x x st f fd→eY P w K mg base CX k f fd [p] sp) :
 ∃ fd:FuncData,(∀ (s:Shared) (u:Value),BindsTo s fd ⟨[u],[]⟩ [(p,u)])∧∀ base:Heap,K.In base→base.Ns mainGlobals mg→BM mg base→PySem.W.CodeHd base c T→eY P w K mg base CX k fa fd [p] sp:=by
 obtain⟨f,fd,h1,h2,h3,h5,h4⟩:=F.ex
 rw[h1] at hm;cases hm
 exact⟨fd,fun s u=>h5 s [u] rfl,fun base kb nb b1 b2=>h base kb nb b1 b2 _ fd h4⟩
theorem acF{P:Program}{w:World}{K:PySem.W.Frag}{mg:Str→Option Value}{base:Heap}{CX:G4}{lv:Nat→Nat}{x:Str}{st:Stmt}{ps:List Str}{sp:Nat→Sp}(F:vd K mg x st ps)
 (h:∀ f fd,pR K x x st f fd→(∀ n,eY P w K mg base CX (lv n) f fd ps (sp n)→pQ P w K mg base CX (lv n) x ps (sp n))→∀ n,eY P w K mg base CX (lv n) f fd ps (sp n)) (n:Nat):pQ P w K mg base CX (lv n) x ps (sp n):=by
 obtain⟨f,fd,h1,h2,h3,_,h4⟩:=F.ex
 have self:∀ n,eY P w K mg base CX (lv n) f fd ps (sp n)→pQ P w K mg base CX (lv n) x ps (sp n):=fun n k=>⟨f,fd,h1,h2,h3,k⟩
 exact self n (h f fd h4 self n)
def W9(K:PySem.W.Frag):Bool:=K.all fun p=>match p.2.cls with|.type "list" => false|_=>true
theorem RW{K:PySem.W.Frag}(h:W9 K=true){a:Addr}{o:Obj}(e:K.lookup a=some o)(c:o.cls=.type "list"):False:=by
 have hm:(a,o)∈K:=by
  clear h
  induction K with
  | nil=>cases e
  | cons p r ih =>
   obtain⟨b,x⟩:=p
   simp only[List.lookup] at e
   split at e
   ·rename_i q;cases e;rw[beq_iff_eq.mp q];exact List.Mem.head _
   ·exact List.Mem.tail _ (ih e)
 have h2:=List.all_eq_true.mp h _ hm
 simp only[c] at h2
 cases h2
end L2
namespace Mi
open PySem
@[simp] theorem iy {α : Type} (a:α):wg (some a)=.ok a:=rfl
@[simp] theorem Ze {α : Type} {c:Prop} [Decidable c] (h:c) (r:Rs α):aO c r=r:=if_pos h
@[simp] theorem mR (a b:Str):dH (.str a) (.str b)=decide (a=b):=by rw[dH];by_cases h:a=b<;>simp[h]
@[simp] theorem Hx (a b:Int):dH (.int a) (.int b)=decide (a=b):=by rw[dH];by_cases h:a=b<;>simp[h]
@[simp] theorem Wd (x:Str):(D.str x).dep=0:=by simp[D.dep]
@[simp] theorem abX (x:Int):(D.int x).dep=0:=by simp[D.dep]
@[simp] theorem acB (x:Bool):(D.bl x).dep=0:=by simp[D.dep]
@[simp] theorem abW:D.non.dep=0:=by simp[D.dep]
@[simp] theorem Gv (ds:List D):(D.lst ds).dep=dM ds+1:=by simp[D.dep]
@[simp] theorem abV (ds:List D):(D.tup ds).dep=dM ds+1:=by simp[D.dep]
@[simp] theorem K3:dM []=0:=rfl
@[simp] theorem oZ (d:D) (r:List D):dM (d::r)=max d.dep (dM r):=by rw[dM]
@[simp] theorem oJ:∀ xs:List Str,dM (xs.map D.str)=0
 | []=>rfl
 | x::r=>by rw[List.map_cons,oZ,Wd,oJ r];rfl
theorem GP(xs:List Str)(x:Str):((xs.map D.str).any fun e=>dH e (.str x))=decide (x∈xs):=by
 induction xs with
 | nil=>rfl
 | cons y r ih =>
  rw[List.map_cons,List.any_cons,ih,mR]
  by_cases h:y=x
  ·simp[h]
  ·have h2:¬ x=y:=fun z=>h z.symm
   simp[h,h2]
theorem Nr(xs:List Str)(x:Str):Ja (.str x) (.lst (xs.map D.str))=.ok (.bl (decide (x∈xs))):=by
 show aO _ _=_
 rw[aj (by rw[oJ];omega),GP]
theorem jw(xs:List Str)(x:Str):fZ (.str x) (.lst (xs.map D.str))=.ok (.bl (!decide (x∈xs))):=by
 show aO _ _=_
 rw[aj (by rw[oJ];omega),GP]
theorem I9(xs:List Str)(x:Str):fZ (.str x) (.tup (xs.map D.str))=.ok (.bl (!decide (x∈xs))):=by
 show aO _ _=_
 rw[aj (by rw[oJ];omega),GP]
theorem wZ(x y:Str):rQ (.str x) (.str y)=.ok (.bl (decide (x=y))):=by
 show aO _ _=_
 rw[aj (by simp),mR]
theorem Np(x y:Str):BK (.str x) (.str y)=.ok (.bl (!decide (x=y))):=by
 show aO _ _=_
 rw[aj (by simp),mR]
theorem ph(x y:Int):rQ (.int x) (.int y)=.ok (.bl (decide (x=y))):=by
 show aO _ _=_
 rw[aj (by simp),Hx]
theorem Wf(x y:Int):BK (.int x) (.int y)=.ok (.bl (!decide (x=y))):=by
 show aO _ _=_
 rw[aj (by simp),Hx]
theorem Ce{α : Type}(f:α→Bool)(xs:List α):Cg (xs.map fun x=>D.bl (f x))=some (xs.map f):=by
 induction xs with
 | nil=>rfl
 | cons a r ih=>rw[List.map_cons,Cg,ih];rfl
theorem Jr(xs:List Str):Ca (xs.map D.str)=some xs:=by
 induction xs with
 | nil=>rfl
 | cons a r ih=>rw[List.map_cons,Ca,ih];rfl
theorem CG(n:Nat)(b:S)(a0:W):uK 1 n b [a0]=(b ([some a0]++List.replicate (n - 1) none)).bind tU:=aj rfl
theorem pL(n:Nat)(b:S)(a0 a1:W):uK 2 n b [a0,a1]=(b ([some a0,some a1]++List.replicate (n - 2) none)).bind tU:=aj rfl
theorem V8(n:Nat)(b:S)(a0 a1 a2:W):uK 3 n b [a0,a1,a2]=(b ([some a0,some a1,some a2]++List.replicate (n - 3) none)).bind tU:=aj rfl
theorem V7(n:Nat)(b:S)(a0 a1 a2 a3:W):uK 4 n b [a0,a1,a2,a3]=(b ([some a0,some a1,some a2,some a3]++List.replicate (n - 4) none)).bind tU:=aj rfl
theorem V6(n:Nat)(b:S)(a0:W):Tv 1 n b [a0]=(b ([some a0]++List.replicate (n - 1) none)).bind nA:=aj rfl
theorem KR(n:Nat)(b:S)(a0 a1:W):Tv 2 n b [a0,a1]=(b ([some a0,some a1]++List.replicate (n - 2) none)).bind nA:=aj rfl
theorem Zu(n:Nat)(b:S)(a0 a1 a2:W):Tv 3 n b [a0,a1,a2]=(b ([some a0,some a1,some a2]++List.replicate (n - 3) none)).bind nA:=aj rfl
theorem Zt(n:Nat)(b:S)(a0 a1 a2 a3:W):Tv 4 n b [a0,a1,a2,a3]=(b ([some a0,some a1,some a2,some a3]++List.replicate (n - 4) none)).bind nA:=aj rfl
theorem Zo{α : Type}(r:Rs α):aO (0≤16777216) r=r:=aj (by decide)
theorem Tn{α : Type}(r:Rs α):aO (1≤16777216) r=r:=aj (by decide)
theorem Zn{α : Type}(r:Rs α):aO (2≤16777216) r=r:=aj (by decide)
theorem Zm{α : Type}(r:Rs α):aO (3≤16777216) r=r:=aj (by decide)
theorem Zk{α : Type}(r:Rs α):aO (4≤16777216) r=r:=aj (by decide)
theorem Zj{α : Type}(r:Rs α):aO (5≤16777216) r=r:=aj (by decide)
theorem Zi{α : Type}(r:Rs α):aO (6≤16777216) r=r:=aj (by decide)
theorem Zh{α : Type}(r:Rs α):aO (7≤16777216) r=r:=aj (by decide)
theorem Zg{α : Type}(r:Rs α):aO (8≤16777216) r=r:=aj (by decide)
theorem oM(i j:Int):bU (.int i) (.int j)=.ok (.int (i+j)):=rfl
theorem rH(i j:Str):bU (.str i) (.str j)=aO (i.length+j.length≤16777216) (.ok (.str (i++j))):=rfl
theorem ud(i j:List D):bU (.lst i) (.lst j)=aO (i.length+j.length≤16777216) (.ok (.lst (i++j))):=rfl
theorem K7(i j:List D):dCat (.lst i) (.lst j)=aO (i.length+j.length≤16777216) (.ok (.lst (i++j))):=rfl
theorem z9(i j:Int):za (.int i) (.int j)=.ok (.int (i - j)):=rfl
theorem xX(i j:Int):dF (.int i) (.int j)=aO (uV i j) (.ok (.int (i * j))):=rfl
theorem div_ii(i j:Int):cJ (.int i) (.int j)=aO (qu j) (.ok (.int (i / j))):=rfl
theorem gF(i j:Int):bI (.int i) (.int j)=aO (0 < j) (.ok (.int (i % j))):=rfl
theorem rO(i j:Int):sG (.int i) (.int j)=.ok (.bl (decide (i < j))):=rfl
theorem tM(i j:Int):zb (.int i) (.int j)=.ok (.bl (decide (j < i))):=rfl
theorem Il(i j:Int):G5 (.int i) (.int j)=.ok (.bl (decide (i≤j))):=rfl
theorem Tp(i j:Int):dGe (.int i) (.int j)=.ok (.bl (decide (j≤i))):=rfl
theorem R4(i:Int):We (.int i)=.ok (.int (-i)):=rfl
theorem Zb(x:D):dIs x .non=.ok (.bl (wU x)):=rfl
theorem wR(x:D):BP x .non=.ok (.bl (!wU x)):=rfl
theorem Mv:wU .non=true:=rfl
theorem Mu(x:Str):wU (.str x)=false:=rfl
theorem RV(x:List D):wU (.lst x)=false:=rfl
theorem RT(x:List D):wU (.tup x)=false:=rfl
theorem yG(ds:List D):cZ [.lst ds]=.ok (.int ds.length):=rfl
theorem Sy(ds:List D):cZ [.tup ds]=.ok (.int ds.length):=rfl
theorem Ii(z:Str):cZ [.str z]=aO (z.length≤16777216) (.ok (.int z.length)):=rfl
theorem Bk(i j:Int):vR [.int i,.int j]=.ok (.int (max i j)):=rfl
theorem Bj(i j:Int):CQ [.int i,.int j]=.ok (.int (min i j)):=rfl
theorem Ef(ds:List D):Lb [.lst ds]=(wg (Cg ds)).bind fun bs=>.ok (.bl (bs.all id)):=rfl
theorem Ur(ds:List D):acH [.lst ds]=(wg (Cg ds)).bind fun bs=>.ok (.bl (bs.any id)):=rfl
theorem Kw(ds:List D):qK [.lst ds]=.ok (.lst ds):=rfl
theorem Kv(ds:List D):qK [.tup ds]=.ok (.lst ds):=rfl
theorem zj(ds:List D):pM [.lst ds]=.ok (.tup ds):=rfl
theorem Ez(ds:List D):pM [.tup ds]=.ok (.tup ds):=rfl
theorem Tc(i:Int):abw [.int i]=.ok (.int i):=rfl
theorem Td(k:Bool):abw [.bl k]=.ok (.int (if k then 1 else 0)):=rfl
theorem Yh(ds:List D)(lo hi:Option Int):kY (.lst ds) lo hi=.ok (.lst (lM ds lo hi)):=rfl
theorem Ae(z:Str)(lo hi:Option Int):kY (.str z) lo hi=aO (z.length≤16777216) (.ok (.str (f9 z lo hi))):=rfl
theorem QW(ds:List D)(lo hi:Option Int):acD (.lst ds) lo hi=.ok (.lst (lM ds lo hi)):=rfl
theorem zE(ds:List D):BL (.lst ds)=.ok ds:=rfl
theorem uG(ds:List D):BL (.tup ds)=.ok ds:=rfl
theorem Bl(ds:List D):iV (.lst ds)=.ok ds:=rfl
theorem qM(b:Bool):ZW (.bl b)=.ok b:=rfl
theorem xq(b:Int):Wq (.int b)=.ok b:=rfl
theorem xr(x:D):asD (.d x)=.ok x:=rfl
theorem zN(x:D):Uo (.d x)=aO (Xd x=true) (.ok x):=rfl
theorem QD(ds:List D):ZC (.lst ds)=.ok (!ds.isEmpty):=rfl
theorem QC(ds:List D):ZC (.tup ds)=.ok (!ds.isEmpty):=rfl
theorem Mg(i:Nat)(d:D)(e:Mi.Env):(Tg.n i).put d e=.ok (e.set i (some (.d d))):=rfl
theorem Ri(is:List Nat)(ds:List D)(e:Mi.Env):(Tg.t is).put (.tup ds) e=qY is ds e:=rfl
theorem all_nil(e:Mi.Env):qY [] [] e=.ok e:=rfl
theorem all_cons(i:Nat)(is:List Nat)(d:D)(ds:List D)(e:Mi.Env):qY (i::is) (d::ds) e=qY is ds (e.set i (some (.d d))):=rfl
theorem Fx(w:W):tU (.rt w)=.ok w:=rfl
theorem Fy(e:Mi.Env):tU (.nx e)=.ok (.d .non):=rfl
theorem zr(w:W):nA (.rt w)=.ok w:=rfl
theorem XS(t:String)(x:List D):Bp t (.lst x)=(t == "list"):=rfl
theorem XR(t:String)(x:Str):Bp t (.str x)=(t == "str"):=rfl
theorem XQ(t:String)(x:List D):Bp t (.tup x)=(t == "tuple"):=rfl
theorem XX(t:String)(x:Int):Bp t (.int x)=(t == "int"):=rfl
theorem X3(t:String)(x:Bool):Bp t (.bl x)=(t == "bool" || t == "int"):=rfl
theorem aG{f:D→D→Rs D}{a b:E}{e:Mi.Env}{x y:D}{z:Rs D}(ha:a e=.ok x)(hb:b e=.ok y)(h:f x y=z):m2 f a b e=z:=by
 unfold m2;rw[ha,aA,hb,aA,h]
theorem aK{s t:S}{e e':Mi.Env}(h:s e=.ok (.nx e')):aV s t e=t e':=by unfold aV;rw[h];rfl
theorem jK{s t:S}{e:Mi.Env}{w:W}(h:s e=.ok (.rt w)):aV s t e=.ok (.rt w):=by unfold aV;rw[h];rfl
theorem bC{i:Nat}{a:E}{e:Mi.Env}{d:D}(h:a e=.ok d):bV i a e=.ok (.nx (e.set i (some (.d d)))):=by unfold bV;rw[h];rfl
theorem dj{a:EW}{e:Mi.Env}{w:W}(h:a e=.ok w):cY a e=.ok (.rt w):=by unfold cY;rw[h];rfl
theorem b8{a:E}{e:Mi.Env}{d:D}(h:a e=.ok d):wD a e=.ok (.d d):=by unfold wD;rw[h];rfl
theorem gW{c:C}{s t:S}{e:Mi.Env}(h:c e=.ok true):fL c s t e=s e:=by unfold fL;rw[h];rfl
theorem cI{c:C}{s t:S}{e:Mi.Env}(h:c e=.ok false):fL c s t e=t e:=by unfold fL;rw[h];rfl
theorem cC{a:E}{e:Mi.Env}{b:Bool}(h:a e=.ok (.bl b)):cB a e=.ok b:=by unfold cB;rw[h];rfl
theorem gP{ρ : List (Option Nat)}{it:I}{tg:Tg}{c:C}{a:E}{e:Mi.Env}{xs ys:List D}(h:it e=.ok xs)(hl:xs.length≤16777216)(hc:gC tg c a (qm ρ e) xs=.ok ys):gr ρ it tg c a e=.ok (.lst ys):=by
 unfold gr;rw[h,aA,aj hl,hc,aA]
theorem nq{a:E}{e:Mi.Env}{n:Int}(h:a e=.ok (.int n))(hr:okR n):ik a e=.ok (dD 0 n):=by
 unfold ik;rw[h,aA,xq,aA,aj hr]
theorem lC{it:I}{tg:Tg}{b:S}{e:Mi.Env}{xs:List D}(h:it e=.ok xs):oA it tg b e=kW tg b xs e:=by unfold oA;rw[h];rfl
theorem j7{a:E}{e:Mi.Env}{x:D}{xs:List D}(h:a e=.ok x)(hx:BL x=.ok xs):rF a e=.ok xs:=by unfold rF;rw[h,aA,hx]
theorem PQ{i:Nat}{a:E}{e:Mi.Env}{d:D}{ds:List D}(h:a e=.ok d)(hg:getL e i=.ok ds)(hl:ds.length < 16777216):dG i a e=.ok (.nx (putL e i (ds++[d]))):=by
 unfold dG;rw[h,aA,hg,aA,aj hl]
theorem jR{f:List D→Rs D}{a:E}{e:Mi.Env}{x:D}(h:a e=.ok x):mN f [a] e=f [x]:=by unfold mN;rw[jj,h];rfl
theorem HX{f:List D→Rs D}{a b:E}{e:Mi.Env}{x y:D}(h:a e=.ok x)(h':b e=.ok y):mN f [a,b] e=f [x,y]:=by unfold mN;rw[jj,h,aA,jj,h'];rfl
theorem VH{a:E}{e:Mi.Env}{x:D}(h:a e=.ok x):mN ie [a] e=.ok (.lst [x]):=by
 rw[jR h]
 exact aj (by simp)
theorem uN{a b:E}{e:Mi.Env}{x y:D}(h:a e=.ok x)(h':b e=.ok y):mN dTup [a,b] e=.ok (.tup [x,y]):=by
 rw[HX h h']
 exact aj (by simp)
theorem BR{f:Fn}{a:EW}{e:Mi.Env}{x:W}{d:D}(h:a e=.ok x)(hf:f [x]=.ok (.d d)):bh f [a] e=.ok d:=by unfold bh nM;rw[bQ,h];simp only[aA,bQ,hf,xr]
theorem call2{f:Fn}{a b:EW}{e:Mi.Env}{x y:W}{d:D}(h:a e=.ok x)(h':b e=.ok y)(hf:f [x,y]=.ok (.d d)):bh f [a,b] e=.ok d:=by unfold bh nM;rw[bQ,h,aA,bQ,h'];simp only[aA,bQ,hf,xr]
theorem Xp{f:Fn}{a b c:EW}{e:Mi.Env}{x y z:W}{d:D}(h:a e=.ok x)(h':b e=.ok y)(h'':c e=.ok z)(hf:f [x,y,z]=.ok (.d d)):bh f [a,b,c] e=.ok d:=by unfold bh nM;rw[bQ,h,aA,bQ,h',aA,bQ,h''];simp only[aA,bQ,hf,xr]
theorem iQ{α : Type}{tg:Tg}{c:C}{a:E}{e:Mi.Env}(f g:α→D)(p:α→Bool):∀ (xs:List α),(∀ x∈xs,∃ e1,tg.put (f x) e=.ok e1∧c e1=.ok (p x)∧(p x=true→a e1=.ok (g x)))→gC tg c a e (xs.map f)=.ok ((xs.filter p).map g)
 | [],_=>rfl
 | x::r,h=>by
  obtain⟨e1,h1,h2,h3⟩:=h x List.mem_cons_self
  have ih:=iQ (tg:=tg) (c:=c) (a:=a) (e:=e) f g p r fun y hy=>h y (List.mem_cons_of_mem _ hy)
  rw[List.map_cons,gC,h1,aA,h2,aA]
  cases hp:p x with
  | true=>rw[if_pos rfl,h3 hp,aA,ih,aA,List.filter_cons_of_pos hp];rfl
  | false=>rw[if_neg Bool.false_ne_true,ih,List.filter_cons_of_neg (by rw[hp];exact Bool.false_ne_true)]
theorem nW{tg:Tg}{body:S}(Inv:Nat→Mi.Env→Prop):∀ (xs:List D) (k:Nat),(∀ i x e,xs[i]? = some x→Inv (k+i) e→∃ e1 e2,tg.put x e=.ok e1∧body e1=.ok (.nx e2)∧Inv (k+i+1) e2)→∀ e,Inv k e→∃ e',kW tg body xs e=.ok (.nx e')∧Inv (k+xs.length) e'
 | [],k,_,e,h=>⟨e,rfl,h⟩
 | x::r,k,hs,e,h=>by
  obtain⟨e1,e2,h1,h2,h3⟩:=hs 0 x e rfl h
  obtain⟨e',h4,h5⟩:=nW Inv r (k+1) (fun i y e hy hi=>by
   have:=hs (i+1) y e (by simpa using hy) (by rw[show k+(i+1)=k+1+i by omega];exact hi)
   rw[show k+(i+1)+1=k+1+i+1 by omega] at this
   exact this) e2 h3
  refine⟨e',?_,by rw[List.length_cons,show k+(r.length+1)=k+1+r.length by omega];exact h5⟩
  rw[kW,h1,aA,h2,aA]
  exact h4
theorem Iv{α : Type}{tg:Tg}{body:S}{e:Mi.Env}{w:Out}(f:α→D)(st:Option α→Mi.Env)(p:α→Bool)(out:α→Out):∀ (xs:List α) (o:Option α),
 (∀ x∈xs,∀ o,∃ e1,tg.put (f x) (st o)=.ok e1∧body e1=.ok (if p x=true then out x else .nx (st (some x)))) →
 (∀ x∈xs,p x=true→∃ w,out x=.rt w) →
 kW tg body (xs.map f) (st o)=.ok (match xs.find? p with|some x=>out x|none=>.nx (st (xs.getLast?.or o)))
 | [],o,_,_=>by cases o<;>rfl
 | x::r,o,h,ho=>by
  obtain⟨e1,h1,h2⟩:=h x List.mem_cons_self o
  rw[List.map_cons,kW,h1,aA,h2,aA]
  cases hp:p x with
  | true =>
   obtain⟨w,hw⟩:=ho x List.mem_cons_self hp
   rw[List.find?_cons_of_pos hp]
   simp only[if_true,hw]
  | false =>
   rw[List.find?_cons_of_neg (by rw[hp];exact Bool.false_ne_true)]
   have ih:=Iv (e:=e) (w:=w) f st p out r (some x) (fun y hy=>h y (List.mem_cons_of_mem _ hy)) fun y hy=>ho y (List.mem_cons_of_mem _ hy)
   simp only[Bool.false_eq_true,if_false]
   rw[ih]
   have:(r.getLast?.or (some x))=((x::r).getLast?.or o):=by
    cases r with
    | nil=>rfl
    | cons y t=>simp[List.getLast?_cons]
   rw[this]
end Mi
namespace Mr
open PySem Mi
abbrev Ar:=Str×Str
def pairD(p:Ar):D:=.tup [.str p.1,.str p.2]
def Uz(names:List Str):D:=.tup (names.map D.str)
def arD(jz:List Ar):D:=.tup (jz.map pairD)
def kO(names:List Str)(jz:List Ar):D:=.tup [Uz names,arD jz]
def aC(xs:List Str):D:=.lst (xs.map D.str)
theorem at0{α : Type}(a:α)(r:List α):yN (a::r) 0=some a:=by simp[yN,Cz]
theorem at1{α : Type}(a b:α)(r:List α):yN (a::b::r) 1=some b:=by
 unfold yN Cz
 rw[if_pos (by decide),if_pos (by simp only[List.length_cons];omega)];rfl
theorem ix0(names:List Str)(jz:List Ar):dU (kO names jz) (.int 0)=.ok (Uz names):=by
 unfold kO dU
 simp[at0]
theorem ix1(names:List Str)(jz:List Ar):dU (kO names jz) (.int 1)=.ok (arD jz):=by
 unfold kO dU
 simp[at1]
theorem Oo{names asked:List Str}(h:∀ x∈asked,x∈names):bM [.d (Uz names),.d (aC asked)]=.ok (.d .non):=by
 have key:∀ (xs:List Str) (o:Option W),(∀ x∈xs,x∈names)→∃ o',kW (.n 2) (fL (cB (m2 fZ (mV 2) (mV 0))) jY aX) (xs.map D.str) [some (.d (Uz names)),some (.d (aC asked)),o]=.ok (.nx [some (.d (Uz names)),some (.d (aC asked)),o']):=by
  intro xs
  induction xs with
  | nil=>exact fun o _=>⟨o,rfl⟩
  | cons x r ih =>
   intro o hx
   obtain⟨o',e⟩:=ih (some (.d (.str x))) fun y hy=>hx y (List.mem_cons_of_mem _ hy)
   refine⟨o',?_⟩
   rw[List.map_cons,kW]
   have:x∈names:=hx x List.mem_cons_self
   simp only[Uz,Mg,List.set_cons_succ,List.set_cons_zero,fL,cB,m2,mV,aX,aA,List.getElem?_cons_succ,List.getElem?_cons_zero,I9,this,decide_true,Bool.not_true,qM,Bool.false_eq_true,if_false]
   exact e
 obtain⟨o',e⟩:=key asked none h
 unfold aC at e
 unfold bM j8
 rw[pL]
 simp only[oA,rF,mV,aC,Nat.reduceSub,List.replicate_succ,List.replicate_zero,List.cons_append,List.nil_append,List.getElem?_cons_succ,List.getElem?_cons_zero,aA,zE,e,Fy]
def lD(jz:List Ar)(x:Str):List Str:=(jz.filter fun p=>decide (p.2=x)).map (·.1)
theorem Pq{names:List Str}{jz:List Ar}{x:Str}(hx:x∈names)(hl:jz.length≤64):kI [.d (kO names jz),.d (.str x)]=.ok (.d (.tup ((lD jz x).map D.str))):=by
 have hr:=Oo (names:=names) (asked:=[x]) (by simpa using hx)
 unfold kI yL
 rw[pL]
 have hc:gC (.t [1,2]) (cB (m2 rQ (mV 2) (mV 0))) (mV 1) [some (.d (.str x)),none,none] (jz.map pairD)=.ok ((jz.filter fun p=>decide (p.2=x)).map fun p=>D.str p.1) :=
  iQ pairD (fun p=>D.str p.1) (fun p=>decide (p.2=x)) jz fun p _=>⟨[some (.d (.str x)),some (.d (.str p.1)),some (.d (.str p.2))],rfl,by simp only[cB,m2,mV,List.getElem?_cons_succ,List.getElem?_cons_zero,aA,wZ,qM],fun _=>by simp only[mV,List.getElem?_cons_succ,List.getElem?_cons_zero]⟩
 have hg:aO (([D.str x]:List D).length≤16777216) (Rs.ok (D.lst [D.str x]))=.ok (.lst [.str x]):=aj (by simp)
 unfold aC at hr
 have hp:qm [some 1,none,none] [some (W.d (kO names jz)),some (W.d (D.str x))]=[some (.d (.str x)),none,none]:=rfl
 simp only[List.length_cons,List.length_nil,Nat.zero_add,Tn] at hg
 simp only[List.map_cons,List.map_nil,aV,qe,bh,nM,bQ,wD,m2,mV,Nat.reduceSub,List.replicate_zero,List.cons_append,List.nil_append,List.getElem?_cons_zero,mC,aA,ix0,mN,jj,List.getElem?_cons_succ,ie,List.length_cons,List.length_nil,Nat.zero_add,Tn,cY] at hr ⊢
 rw[hr]
 simp only[aA,xr,gr,rF,m2,mV,mC,List.getElem?_cons_zero,ix1,arD,uG,hp]
 rw[aj (by rw[List.length_map];omega),hc]
 simp only[aA,zj,Fx,lD,List.map_map]
 rfl
def ready(jz:List Ar)(told:List Str)(x:Str):Bool:=!decide (x∈told) && (lD jz x).all fun y=>decide (y∈told)
def nxt(names:List Str)(jz:List Ar)(told:List Str):Option Str:=names.find? (ready jz told)
def HH:Option Str→D
 | some x=>.str x
 | none=>.non
theorem Ox(x:Str):HH (some x)=.str x:=rfl
theorem Oz:HH none=.non:=rfl
theorem KY{jz:List Ar}{x:Str}(hl:jz.length≤64):(lD jz x).length≤64:=by
 unfold lD
 rw[List.length_map]
 exact Nat.le_trans (List.length_filter_le _ _) hl
theorem Bv{names:List Str}{jz:List Ar}(hl:jz.length≤64)(told:List Str):eG [.d (kO names jz),.d (aC told)]=.ok (.d (HH (nxt names jz told))):=by
 unfold eG u6
 rw[pL]
 have step:∀ x∈names,∀ o:Option Str,∃ e1,(Tg.n 2).put (D.str x) [some (.d (kO names jz)),some (.d (aC told)),o.map fun y=>W.d (.str y)]=.ok e1 ∧
  (fL (nF (cB (m2 fZ (mV 2) (mV 1))) (cB (mN Lb [(gr [some 1,none] (rF (bh kI [(wD (mV 0)),(wD (mV 2))])) (.n 1) jq (m2 Ja (mV 1) (mV 0)))]))) (cY (wD (mV 2))) aX) e1 =
   .ok (if ready jz told x=true then .rt (.d (.str x)) else .nx [some (.d (kO names jz)),some (.d (aC told)),(some x).map fun y=>W.d (.str y)]):=by
  intro x hx o
  refine⟨[some (.d (kO names jz)),some (.d (aC told)),some (.d (.str x))],rfl,?_⟩
  have hc:gC (.n 1) jq (m2 Ja (mV 1) (mV 0)) [some (.d (aC told)),none] ((lD jz x).map D.str)=.ok (((lD jz x).filter fun _=>true).map fun y=>D.bl (decide (y∈told))) :=
   iQ D.str (fun y=>D.bl (decide (y∈told))) (fun _=>true) _ fun y _=>⟨[some (.d (aC told)),some (.d (.str y))],rfl,rfl,fun _=>by simp only[m2,mV,aC,List.getElem?_cons_succ,List.getElem?_cons_zero,aA,Nr]⟩
  have hf:((lD jz x).filter fun _=>true)=lD jz x:=List.filter_eq_self.mpr fun _ _=>rfl
  rw[hf] at hc
  have hp:qm [some 1,none] [some (W.d (kO names jz)),some (W.d (aC told)),some (W.d (D.str x))]=[some (.d (aC told)),none]:=rfl
  have hn:fZ (.str x) (aC told)=.ok (.bl (!decide (x∈told))):=jw told x
  simp only[fL,nF,cB,m2,mV,List.getElem?_cons_succ,List.getElem?_cons_zero,aA,hn,qM,mN,jj,cY,wD,aX]
  unfold ready
  cases hm:decide (x∈told) with
  | true=>rfl
  | false =>
   simp only[Bool.not_false,gr,rF,bh,nM,bQ,wD,mV,List.getElem?_cons_zero,aA,List.getElem?_cons_succ,Pq hx hl,xr,uG,hp,if_true]
   rw[aj (by rw[List.length_map];have:=KY (x:=x) hl;omega),hc]
   simp only[aA,Ef,Ce,iy,List.all_map,qM,Bool.true_and]
   have:(List.all (lD jz x) (id ∘ fun y=>decide (y∈told)))=(lD jz x).all fun y=>decide (y∈told):=rfl
   rw[this]
   cases (lD jz x).all fun y=>decide (y∈told)<;>rfl
 have hf:=Iv (e:=[]) (w:=.rt (.d .non)) D.str (fun o=>[some (.d (kO names jz)),some (.d (aC told)),o.map fun y=>W.d (.str y)]) (ready jz told) (fun x=>.rt (.d (.str x))) names none step fun x _ _=>⟨_,rfl⟩
 simp only[Option.map_none] at hf
 simp only[aV,oA,rF,m2,mV,Nat.reduceSub,List.replicate_succ,List.replicate_zero,List.cons_append,List.nil_append,List.getElem?_cons_zero,mC,aA,ix0,Uz,uG,hf,cY,wD]
 unfold nxt
 cases names.find? (ready jz told) with
 | none=>rfl
 | some x=>rfl
structure Qg(names:List Str)(jz:List Ar):Prop where
 nd:names.Nodup
 pos:1≤names.length
 le:names.length≤8
 al:jz.length≤64
 tl:∀ p∈jz,p.1∈names
 rk:∃ r:Str→Int,∀ p∈jz,r p.1 < r p.2
theorem Kr{jz:List Ar}{x y:Str}:y∈lD jz x↔(y,x)∈jz:=by
 unfold lD
 constructor
 ·intro h
  obtain⟨p,hp,rfl⟩:=List.mem_map.mp h
  obtain⟨h1,h2⟩:=List.mem_filter.mp hp
  have:p.2=x:=by simpa using h2
  rw[← this];exact h1
 ·intro h
  exact List.mem_map.mpr ⟨(y,x),List.mem_filter.mpr ⟨h,by simp⟩,rfl⟩
theorem R7{α : Type}(f:α→Int):∀ (l:List α),l≠[]→∃ x∈l,∀ y∈l,f x≤f y
 | [],h=>absurd rfl h
 | [a],_=>⟨a,by simp,by simp⟩
 | a::b::r,_=>by
  obtain⟨x,hx,hm⟩:=R7 f (b::r) (by simp)
  by_cases h:f a≤f x
  ·refine⟨a,List.mem_cons_self,fun y hy=>?_⟩
   rcases List.mem_cons.mp hy with rfl|hy
   ·exact Int.le_refl _
   ·exact Int.le_trans h (hm y hy)
  ·refine⟨x,List.mem_cons_of_mem _ hx,fun y hy=>?_⟩
   rcases List.mem_cons.mp hy with rfl|hy
   ·omega
   ·exact hm y hy
theorem Qg.next{names:List Str}{jz:List Ar}(N:Qg names jz){told:List Str}(h:∃ x∈names,x∉told):∃ x,nxt names jz told=some x∧x∈names∧x∉told:=by
 obtain⟨r,hr⟩:=N.rk
 obtain⟨x0,h1,h2⟩:=h
 obtain⟨x,hx,hm⟩:=R7 r (names.filter fun x=>!decide (x∈told)) (fun z=>by
  have:x0∈names.filter fun x=>!decide (x∈told):=List.mem_filter.mpr ⟨h1,by simpa using h2⟩
  rw[z] at this;cases this)
 obtain⟨hx1,hx2⟩:=List.mem_filter.mp hx
 have hx2:x∉told:=by simpa using hx2
 have rd:ready jz told x=true:=by
  unfold ready
  rw[Bool.and_eq_true]
  refine⟨by simpa using hx2,List.all_eq_true.mpr fun y hy=>?_⟩
  have hy:=Kr.mp hy
  by_cases hyt:y∈told
  ·simpa using hyt
  ·have:=hm y (List.mem_filter.mpr ⟨N.tl _ hy,by simpa using hyt⟩)
   have:=hr _ hy
   have:r y < r x:=this
   omega
 unfold nxt
 cases hf:names.find? (ready jz told) with
 | none=>exact absurd rd (by simpa using List.find?_eq_none.mp hf x hx1)
 | some z =>
  have hz:=List.find?_some hf
  refine⟨z,rfl,List.mem_of_find?_eq_some hf,fun hzt=>?_⟩
  unfold ready at hz
  rw[Bool.and_eq_true] at hz
  simp[hzt] at hz
def ord(names:List Str)(jz:List Ar):Nat→List Str
 | 0=>[]
 | k+1=>match nxt names jz (ord names jz k) with
  | some x=>ord names jz k++[x]
  | none=>ord names jz k
theorem jQ{α : Type}[DecidableEq α]:∀ {l m:List α},l.Nodup→(∀ x∈l,x∈m)→l.length≤m.length
 | [],_,_,_=>Nat.zero_le _
 | a::l,m,nd,h=>by
  have nd:=List.nodup_cons.mp nd
  have:l.length≤(m.erase a).length:=jQ nd.2 fun x hx=>(List.mem_erase_of_ne (fun z:x=a=>nd.1 (z ▸ hx))).mpr (h x (List.mem_cons_of_mem _ hx))
  have hm:=h a List.mem_cons_self
  rw[List.length_erase_of_mem hm] at this
  have:0 < m.length:=List.length_pos_of_mem hm
  rw[List.length_cons];omega
theorem Qg.Fz{names:List Str}{jz:List Ar}(N:Qg names jz):∀ k,k≤names.length→(ord names jz k).length=k∧(ord names jz k).Nodup∧(∀ x∈ord names jz k,x∈names)
 | 0,_=>⟨rfl,List.nodup_nil,by simp[ord]⟩
 | k+1,h=>by
  obtain⟨h1,h2,h3⟩:=N.Fz k (by omega)
  have ex:∃ x∈names,x∉ord names jz k:=by
   refine Classical.byContradiction fun z=>?_
   have hall:∀ x∈names,x∈ord names jz k:=fun x hx=>Classical.byContradiction fun y=>z ⟨x,hx,y⟩
   have:=jQ N.nd hall
   omega
  obtain⟨x,hx,hm,hn⟩:=N.next ex
  rw[ord,hx]
  refine⟨by simp[h1],?_,fun y hy=>?_⟩
  ·rw[List.nodup_append]
   refine⟨h2,by simp,fun a ha b hb=>?_⟩
   have:b=x:=by simpa using hb
   subst this
   exact fun z=>hn (z ▸ ha)
  ·rcases List.mem_append.mp hy with hy|hy
   ·exact h3 y hy
   ·have:y=x:=by simpa using hy
    rw[this];exact hm
theorem Qg.RP{names:List Str}{jz:List Ar}(N:Qg names jz){k:Nat}(h:k < names.length):∃ x,nxt names jz (ord names jz k)=some x∧ord names jz (k+1)=ord names jz k++[x]:=by
 obtain⟨h1,h2,h3⟩:=N.Fz k (by omega)
 have ex:∃ x∈names,x∉ord names jz k:=by
  refine Classical.byContradiction fun z=>?_
  have hall:∀ x∈names,x∈ord names jz k:=fun x hx=>Classical.byContradiction fun y=>z ⟨x,hx,y⟩
  have:=jQ N.nd hall
  omega
 obtain⟨x,hx,_⟩:=N.next ex
 exact⟨x,hx,by rw[ord,hx]⟩
theorem Qg.Mq{names:List Str}{jz:List Ar}(N:Qg names jz):∀ x∈names,x∈ord names jz names.length:=fun x hx=>by
 obtain⟨h1,h2,h3⟩:=N.Fz names.length (Nat.le_refl _)
 refine Classical.byContradiction fun z=>?_
 have:(x::ord names jz names.length).length≤names.length:=jQ (List.nodup_cons.mpr ⟨z,h2⟩) fun y hy=>by
  rcases List.mem_cons.mp hy with rfl|hy
  ·exact hx
  ·exact h3 y hy
 rw[List.length_cons] at this
 omega
theorem Qg.RQ{names:List Str}{jz:List Ar}(N:Qg names jz):nxt names jz (ord names jz names.length)=none:=by
 unfold nxt
 refine List.find?_eq_none.mpr fun x hx=>?_
 unfold ready
 simp[N.Mq x hx]
theorem M9(o:Option Str):Xd (HH o)=true:=by cases o<;>simp[HH,Xd]
theorem KH{names:List Str}{jz:List Ar}(N:Qg names jz):mz [.d (kO names jz)]=.ok (.d (aC (ord names jz names.length))):=by
 have fr:=fun told=>Bv (names:=names) N.al told
 have fr':∀ told:List Str,eG [.d (kO names jz),.d (.lst (told.map D.str))]=.ok (.d (HH (nxt names jz told))):=fr
 have key:∀ (j k:Nat),k+j=names.length→∃ o,lV (cB (m2 BP (mV 2) (mC .non))) (aV (dG 1 (mV 2)) (bV 2 (oG eG [(wD (mV 0)),(wD (mV 1))]))) (j+92)
  [some (.d (kO names jz)),some (.d (aC (ord names jz k))),some (.d (HH (nxt names jz (ord names jz k))))]=.ok (.nx [some (.d (kO names jz)),some (.d (aC (ord names jz names.length))),o]):=by
  intro j
  induction j with
  | zero =>
   intro k hk
   obtain rfl:k=names.length:=by omega
   refine⟨some (.d .non),?_⟩
   rw[lV,N.RQ]
   simp only[cB,m2,mV,Oz,List.getElem?_cons_succ,List.getElem?_cons_zero,mC,aA,wR,Mv,Bool.not_true,qM,aV,dG,getL,putL,List.set_cons_succ,List.set_cons_zero,bV,oG,nM,bQ,wD,Bool.false_eq_true,if_false]
  | succ j ih =>
   intro k hk
   obtain⟨x,hx,e⟩:=N.RP (k:=k) (by omega)
   obtain⟨o,ho⟩:=ih (k+1) (by omega)
   refine⟨o,?_⟩
   have hl:=(N.Fz k (by omega)).1
   have hg:((ord names jz k).map D.str).length < 16777216:=by rw[List.length_map,hl];have:=N.le;omega
   have hs:D.lst ((ord names jz k).map D.str++[D.str x])=aC (ord names jz (k+1)):=by rw[e,aC,List.map_append];rfl
   rw[show j+1+92=(j+92)+1 by omega,lV,hx]
   simp only[cB,m2,mV,aC,Ox,List.getElem?_cons_succ,List.getElem?_cons_zero,mC,aA,wR,Mu,Bool.not_false,qM,aV,dG,getL,putL,List.set_cons_succ,List.set_cons_zero,aj hg,hs,bV,oG,nM,bQ,wD,fr',zN,aj (M9 _),if_true]
   exact ho
 obtain⟨o,ho⟩:=key names.length 0 (by omega)
 unfold mz Ed
 rw[V6]
 have hw:∀ (c:C) (b:S) (e e':Mi.Env) (n m:Nat),lV c b n e=.ok (.nx e')→lV c b (n+m) e=.ok (.nx e'):=by
  intro c b e e' n m
  induction n generalizing e with
  | zero=>intro h;cases h
  | succ n ih =>
   intro h
   rw[show n+1+m=(n+m)+1 by omega,lV]
   rw[lV] at h
   revert h
   cases c e with
   | ok k =>
    cases k with
    | false=>exact id
    | true =>
     simp only[aA,if_true]
     cases b e with
     | ok o' =>
      cases o' with
      | nx e2=>exact ih _
      | ct e2=>exact ih _
      | bk e2=>exact id
      | rt w=>exact id
     | ex x=>exact id
     | no=>exact id
   | ex x=>exact id
   | no=>exact id
 have ho:=hw _ _ _ _ _ (8 - names.length) ho
 rw[show names.length+92+(8 - names.length)=100 by have:=N.le;omega] at ho
 have f0:=fr []
 have h0:aC []=D.lst []:=rfl
 rw[h0] at f0
 have hg0:aO (([]:List D).length≤16777216) (Rs.ok (D.lst []))=.ok (.lst []):=aj (by simp)
 simp only[List.length_nil] at hg0
 have ho:lV (cB (m2 BP (mV 2) (mC .non))) (aV (dG 1 (mV 2)) (bV 2 (oG eG [(wD (mV 0)),(wD (mV 1))]))) 100 [some (.d (kO names jz)),some (.d (.lst [])),some (.d (HH (nxt names jz [])))]=.ok (.nx [some (.d (kO names jz)),some (.d (aC (ord names jz names.length))),o]):=ho
 simp only[aV,bV,xT,mN,jj,ie,aA,hg0,List.length_nil,List.cons_append,List.nil_append,List.replicate_succ,List.replicate_zero,Nat.reduceSub,List.set_cons_zero,List.set_cons_succ,oG,nM,bQ,wD,mV,List.getElem?_cons_zero,List.getElem?_cons_succ,f0,Uo,aj (M9 _),List.map_cons,List.map_nil]
 rw[ho]
 rfl
end Mr
namespace Mr
open PySem Mi
theorem vG:∀ xs ys:List Str,iM (xs.map D.str) (ys.map D.str)=decide (xs=ys)
 | [],[]=>rfl
 | [],_::_=>rfl
 | _::_,[]=>rfl
 | x::xs,y::ys=>by
  rw[List.map_cons,List.map_cons,iM,mR,vG xs ys]
  by_cases h1:x=y<;>by_cases h2:xs=ys<;>simp[h1,h2]
theorem T5(xs ys:List Str):BK (aC xs) (aC ys)=.ok (.bl (!decide (xs=ys))):=by
 unfold BK aC
 rw[aj (by simp),dH,vG]
end Mr
namespace My
def wl:List Nat:=[101,116,97,111,105,110,115,104,114,100,108,117,99,109,102,119,121,112,118,98,103,107,113,106,120,122]
def oH(n:Int):Nat:=wl.getD (n % 26).toNat 0
def kZ(c:Int):List Nat:=(List.range 8).map fun (k:Nat)=>oH (c / (4+3 * (k:Int)))
def gq(c:Int)(n:Nat):List Nat:=(List.range n).map fun (k:Nat)=>oH (c / 32+5 * (k:Int)+(k:Int) * (k:Int))
def words(c:Int)(many:Nat):List (List Nat) :=
 if c % 4 < 2 then
  if c % 4=0 then (List.range many).map fun (k:Nat)=>(kZ c).take (k+1)
  else (List.range many).map fun (k:Nat)=>(kZ c).drop (7 - k)
 else
  (List.range many).map fun (k:Nat)=>(gq c (c / 4 % 8).toNat).take (c / 256 % (c / 4 % 8+1)).toNat++[oH (c / 7+5 * (k:Int))]++(gq c (c / 4 % 8).toNat).drop (c / 256 % (c / 4 % 8+1)).toNat
def xF(x:List Nat):Prop:=1≤x.length∧x.length≤8∧∀ c∈x,97≤c∧c≤122
theorem Ew:∀ c∈wl,97≤c∧c≤122:=by decide
theorem aan:wl.Nodup:=by decide
theorem Ex:wl.length=26:=by decide
theorem wM(n:Int):oH n∈wl:=by
 unfold oH
 have h1:=Int.emod_nonneg n (b:=26) (by decide)
 have h2:=Int.emod_lt_of_pos n (b:=26) (by decide)
 have h3:(n % 26).toNat < wl.length:=by rw[Ex];omega
 rw[List.getD_eq_getElem?_getD,List.getElem?_eq_getElem h3]
 exact List.getElem_mem h3
theorem Sv{n m:Int}(h:oH n=oH m):n % 26=m % 26:=by
 unfold oH at h
 have h1:=Int.emod_nonneg n (b:=26) (by decide)
 have h2:=Int.emod_lt_of_pos n (b:=26) (by decide)
 have h3:(n % 26).toNat < wl.length:=by rw[Ex];omega
 have h1':=Int.emod_nonneg m (b:=26) (by decide)
 have h2':=Int.emod_lt_of_pos m (b:=26) (by decide)
 have h3':(m % 26).toNat < wl.length:=by rw[Ex];omega
 rw[List.getD_eq_getElem?_getD,List.getElem?_eq_getElem h3,List.getD_eq_getElem?_getD,List.getElem?_eq_getElem h3'] at h
 have:=(List.getElem_inj aan).mp h
 omega
theorem iU(c:Int):(kZ c).length=8:=by simp[kZ]
theorem iw(c:Int)(n:Nat):(gq c n).length=n:=by simp[gq]
theorem De(c:Int):∀ x∈kZ c,97≤x∧x≤122:=fun x hx=>by
 obtain⟨k,_,rfl⟩:=List.mem_map.mp hx
 exact Ew _ (wM _)
theorem uv(c:Int)(n:Nat):∀ x∈gq c n,97≤x∧x≤122:=fun x hx=>by
 obtain⟨k,_,rfl⟩:=List.mem_map.mp hx
 exact Ew _ (wM _)
theorem iT(c:Int)(many:Nat):(words c many).length=many:=by
 unfold words;split<;>(try split)<;>simp
theorem nu{α : Type}(f:Nat→α)(n:Nat)(h:∀ i j,i < n→j < n→f i=f j→i=j):((List.range n).map f).Nodup:=by
 induction n with
 | zero=>simp
 | succ n ih =>
  rw[List.range_succ,List.map_append,List.map_singleton]
  rw[List.nodup_append]
  refine⟨ih fun i j hi hj=>h i j (by omega) (by omega),by simp,fun a ha b hb=>?_⟩
  obtain⟨i,hi,rfl⟩:=List.mem_map.mp ha
  have hi:=List.mem_range.mp hi
  have hb:b=f n:=by simpa using hb
  subst hb
  intro e
  have:=h i n (by omega) (by omega) e
  omega
theorem sJ(c:Int)(many:Nat)(hm:many≤8):(words c many).Nodup:=by
 unfold words
 split
 ·split
  ·refine nu _ _ fun i j hi hj e=>?_
   have:=congrArg List.length e
   rw[List.length_take,List.length_take,iU] at this
   omega
  ·refine nu _ _ fun i j hi hj e=>?_
   have:=congrArg List.length e
   rw[List.length_drop,List.length_drop,iU] at this
   omega
 ·refine nu _ _ fun i j hi hj e=>?_
  rw[List.append_assoc,List.append_assoc] at e
  have e1:=List.append_cancel_left e
  have e2:=List.append_cancel_right e1
  have e3:oH (c / 7+5 * (i:Int))=oH (c / 7+5 * (j:Int)):=by simpa using e2
  have:=Sv e3
  omega
theorem dZ(c:Int)(many:Nat)(hm:many≤8):∀ x∈words c many,xF x:=by
 unfold words
 split
 ·split
  ·intro x hx
   obtain⟨k,hk,rfl⟩:=List.mem_map.mp hx
   have hk:=List.mem_range.mp hk
   refine⟨by rw[List.length_take,iU];omega,by rw[List.length_take,iU];omega,fun y hy=>De c y (List.mem_of_mem_take hy)⟩
  ·intro x hx
   obtain⟨k,hk,rfl⟩:=List.mem_map.mp hx
   have hk:=List.mem_range.mp hk
   refine⟨by rw[List.length_drop,iU];omega,by rw[List.length_drop,iU];omega,fun y hy=>De c y (List.mem_of_mem_drop hy)⟩
 ·intro x hx
  obtain⟨k,hk,rfl⟩:=List.mem_map.mp hx
  have h1:=Int.emod_nonneg (c / 4) (b:=8) (by decide)
  have h2:=Int.emod_lt_of_pos (c / 4) (b:=8) (by decide)
  have h3:=Int.emod_nonneg (c / 256) (b:=c / 4 % 8+1) (by omega)
  have h4:=Int.emod_lt_of_pos (c / 256) (b:=c / 4 % 8+1) (by omega)
  have hl:((gq c (c / 4 % 8).toNat).take (c / 256 % (c / 4 % 8+1)).toNat++[oH (c / 7+5 * (k:Int))]++(gq c (c / 4 % 8).toNat).drop (c / 256 % (c / 4 % 8+1)).toNat).length=(c / 4 % 8).toNat+1:=by
   rw[List.length_append,List.length_append,List.length_take,List.length_drop,iw];simp;omega
  refine⟨by rw[hl];omega,by rw[hl];omega,fun y hy=>?_⟩
  rcases List.mem_append.mp hy with hy|hy
  ·rcases List.mem_append.mp hy with hy|hy
   ·exact uv c _ y (List.mem_of_mem_take hy)
   ·have:y=oH (c / 7+5 * (k:Int)):=by simpa using hy
    subst this;exact Ew _ (wM _)
  ·exact uv c _ y (List.mem_of_mem_drop hy)
end My
namespace Mi
open PySem
def S'(l:List Nat):Str:=⟨l.toArray⟩
theorem zQ(l:List Nat):(S' l).cps.toList=l:=rfl
theorem jh(l:List Nat):(S' l).length=l.length:=by simp[S',Str.length]
theorem QT{x y:Str}(h:x.cps.toList=y.cps.toList):x=y:=by
 obtain⟨a⟩:=x
 obtain⟨b⟩:=y
 have h:a.toList=b.toList:=h
 rw[Array.toList_inj.mp h]
theorem Z2{l m:List Nat}(h:S' l=S' m):l=m:=by
 have:=congrArg (fun x:Str=>x.cps.toList) h
 simpa [S'] using this
theorem Uv(l m:List Nat):S' l++S' m=S' (l++m):=by
 show (⟨l.toArray++m.toArray⟩ : Str)=⟨(l++m).toArray⟩
 simp
theorem Bo:∀ l:List Str,(Str.join "" l).cps.toList=l.flatMap (·.cps.toList)
 | []=>by simp[Str.join,Str.empty]
 | [x]=>by simp[Str.join]
 | x::y::r=>by
  have ih:=Bo (y::r)
  have e:Str.join "" (x::y::r)=x ++ "" ++ Str.join "" (y::r):=rfl
  have e2:("" : Str).cps.toList=[]:=by decide +kernel
  rw[e]
  show ((x.cps++("" : Str).cps)++(Str.join "" (y::r)).cps).toList=_
  rw[Array.toList_append,Array.toList_append,e2,ih]
  simp
theorem join_ones(l:List Nat):Str.join "" (l.map fun x=>S' [x])=S' l:=by
 refine QT ?_
 rw[Bo,zQ]
 induction l with
 | nil=>rfl
 | cons a r ih=>rw[List.map_cons,List.flatMap_cons,ih];rfl
theorem qH{α : Type}(xs:List α)(k:Nat):lM xs none (some (k:Int))=xs.take k:=by
 show (xs.drop 0).take ((if (k:Int) < 0 then ((k:Int)+(xs.length:Int)).toNat else min (k:Int).toNat xs.length) - 0)=_
 rw[if_neg (by omega),List.drop_zero,Nat.sub_zero,Int.toNat_natCast]
 rcases Nat.le_total k xs.length with h|h
 ·rw[Nat.min_eq_left h]
 ·rw[Nat.min_eq_right h,List.take_of_length_le (Nat.le_refl _),List.take_of_length_le h]
theorem tW{α : Type}(xs:List α)(k:Nat):lM xs (some (k:Int)) none=xs.drop k:=by
 show (xs.drop (if (k:Int) < 0 then ((k:Int)+(xs.length:Int)).toNat else min (k:Int).toNat xs.length)).take (xs.length - (if (k:Int) < 0 then ((k:Int)+(xs.length:Int)).toNat else min (k:Int).toNat xs.length))=_
 rw[if_neg (by omega),Int.toNat_natCast]
 rcases Nat.le_total k xs.length with h|h
 ·rw[Nat.min_eq_left h]
  exact List.take_of_length_le (by rw[List.length_drop];exact Nat.le_refl _)
 ·rw[Nat.min_eq_right h,List.drop_of_length_le (Nat.le_refl _),List.drop_of_length_le h];simp
theorem tZ(l:List Nat)(k:Nat):f9 (S' l) none (some (k:Int))=S' (l.take k):=by
 unfold f9;rw[zQ,qH];rfl
theorem tX(l:List Nat)(k:Nat):f9 (S' l) (some (k:Int)) none=S' (l.drop k):=by
 unfold f9;rw[zQ,tW];rfl
def cU:Str := "etaoinshrdlucmfwypvbgkqjxz"
theorem Ku:cU.cps.toList=My.wl:=by decide +kernel
theorem O4:cU.length≤16777216:=by decide +kernel
theorem Jp{α : Type}{xs:List α}{i:Int}(h0:0≤i)(h1:i < xs.length)(d:α):yN xs i=some (xs.getD i.toNat d):=by
 unfold yN Cz
 rw[if_pos h0,if_pos h1]
 have h3:i.toNat < xs.length:=by omega
 show xs[i.toNat]? = _
 rw[List.getD_eq_getElem?_getD,List.getElem?_eq_getElem h3];rfl
theorem Wo(n:Int):yN cU.cps.toList (n % 26)=some (My.oH n):=by
 rw[Ku]
 have h1:=Int.emod_nonneg n (b:=26) (by decide)
 have h2:=Int.emod_lt_of_pos n (b:=26) (by decide)
 exact Jp h1 (by rw[My.Ex];omega) 0
theorem zB{cs:List Int}{i:Int}(h0:0≤i)(h1:i < cs.length):dU (.lst (cs.map D.int)) (.int i)=.ok (.int (cs.getD i.toNat 0)):=by
 show wg (yN (cs.map D.int) i)=_
 rw[Jp h0 (by rw[List.length_map];exact h1) (.int 0),iy]
 have h3:i.toNat < cs.length:=by omega
 rw[List.getD_eq_getElem?_getD,List.getElem?_map,List.getD_eq_getElem?_getD,List.getElem?_eq_getElem h3];rfl
theorem zA{cs:List Str}{i:Int}(h0:0≤i)(h1:i < cs.length):dU (.lst (cs.map D.str)) (.int i)=.ok (.str (cs.getD i.toNat Str.empty)):=by
 show wg (yN (cs.map D.str) i)=_
 rw[Jp h0 (by rw[List.length_map];exact h1) (.str Str.empty),iy]
 have h3:i.toNat < cs.length:=by omega
 rw[List.getD_eq_getElem?_getD,List.getElem?_map,List.getD_eq_getElem?_getD,List.getElem?_eq_getElem h3];rfl
theorem vN(n:Nat):dD 0 (n:Int)=(List.range n).map fun (k:Nat)=>D.int (k:Int):=by
 unfold dD
 rw[show ((n:Int) - 0).toNat=n by omega]
 exact List.map_congr_left fun k _=>by rw[Int.zero_add]
theorem gU(n:Nat):(dD 0 (n:Int)).length=n:=by rw[vN];simp
theorem vO{n i:Nat}{x:D}(h:(dD 0 (n:Int))[i]? = some x):i < n∧x=.int (i:Int):=by
 rw[vN,List.getElem?_map] at h
 cases hr:(List.range n)[i]? with
 | none=>rw[hr] at h;cases h
 | some k =>
  rw[hr] at h
  obtain⟨h1,h2⟩:=List.getElem?_eq_some_iff.mp hr
  rw[List.getElem_range] at h2
  subst h2
  rw[List.length_range] at h1
  exact⟨h1,(Option.some.inj h).symm⟩
theorem jx{tg:Tg}{a:E}{e:Mi.Env}(g:Nat→D)(n:Nat)(h:∀ k < n,∃ e1,tg.put (.int (k:Int)) e=.ok e1∧a e1=.ok (g k)):gC tg jq a e (dD 0 (n:Int))=.ok ((List.range n).map g):=by
 rw[vN,iQ (fun (k:Nat)=>D.int (k:Int)) g (fun _=>true) (List.range n) fun k hk=>?_]
 ·rw[List.filter_eq_self.mpr fun _ _=>rfl]
 ·obtain⟨e1,h1,h2⟩:=h k (List.mem_range.mp hk)
  exact⟨e1,h1,rfl,fun _=>h2⟩
theorem lY{i:Int}(h0:-1000≤i)(h1:i≤1000):okR i:=by unfold okR;omega
theorem jF{i j:Int}(h0:-(2 ^ 64) < i)(h1:i < 2 ^ 64):uV i j:=.inl ⟨h0,h1⟩
theorem FZ{i j:Int}(h0:-(2 ^ 64) < j)(h1:j < 2 ^ 64):uV i j:=.inr ⟨h0,h1⟩
theorem cz{j:Int}(h0:0 < j)(h1:j < 2 ^ 64):qu j:=by
 refine⟨h0,?_⟩
 have h2:j.natAbs < 2 ^ 64:=by omega
 have h3:j.natAbs≠0:=by omega
 have:=(Nat.log2_lt h3).mpr h2
 omega
end Mi
namespace Mr
open PySem Mi
open My (words kZ gq oH iU iw iT sJ)
theorem wY(n:Int):dU (.str cU) (.int (n % 26))=.ok (.str (S' [oH n])):=by
 show aO _ _=_
 rw[aj O4,Wo];rfl
theorem vK(l:List Nat)(h:l.length≤8):Nq (.str "") (.lst (l.map fun x=>D.str (S' [x])))=.ok (.str (S' l)):=by
 show (wg (Ca (l.map fun x=>D.str (S' [x])))).bind _=_
 have e:l.map (fun x=>D.str (S' [x]))=(l.map fun x=>S' [x]).map D.str:=by rw[List.map_map];rfl
 rw[e,Jr,iy,aA,aj ?_,join_ones]
 have h1:((l.map fun x=>S' [x]).map (·.length)).sum=l.length:=by
  clear h e
  induction l with
  | nil=>rfl
  | cons a r ih=>rw[List.map_cons,List.map_cons,List.sum_cons,ih,jh,List.length_cons];simp;omega
 have h2:("" : Str).length=0:=by decide +kernel
 rw[h1,h2];omega
theorem st1(c:Int)(k:Nat)(d32:qu 32)(m5:uV 5 (k:Int))(mk:uV (k:Int) k):(m2 bU (m2 bU (m2 cJ (mV 1) (mC (.int 32))) (m2 dF (mC (.int 5)) (mV 2))) (m2 dF (mV 2) (mV 2))) [some (.d (.str cU)),some (.d (.int c)),some (.d (.int k))]=.ok (.int (c / 32+5 * (k:Int)+(k:Int) * (k:Int))) :=
 (aG (aG (aG rfl rfl (aj d32)) (aG rfl rfl (aj m5)) rfl) (aG rfl rfl (aj mk)) rfl)
theorem st2(c:Int)(e:Mi.Env)(a:E)(h:a e=.ok (.int c))(h0:e[0]? = some (some (.d (.str cU)))):m2 dU (mV 0) (m2 bI a (mC (.int 26))) e=.ok (.str (S' [oH c])) :=
 aG (x:=.str cU) (by unfold mV;rw[h0]) (aG h rfl (aj (by decide))) (wY _)
theorem HQ{k n:Nat}(h:k < n)(h8:n < 8):uV (k:Int) k:=jF (by omega) (by omega)
theorem size_of(c:Int):∃ n:Nat,c / 4 % 8=(n:Int)∧n < 8:=by
 have z1:=Int.emod_nonneg (c / 4) (b:=8) (by decide)
 have z2:=Int.emod_lt_of_pos (c / 4) (b:=8) (by decide)
 exact⟨(c / 4 % 8).toNat,by omega,by omega⟩
theorem at_of(c:Int)(n:Nat):∃ t:Nat,c / 256 % ((n:Int)+1)=(t:Int)∧t≤n:=by
 have z3:=Int.emod_nonneg (c / 256) (b:=(n:Int)+1) (by omega)
 have z4:=Int.emod_lt_of_pos (c / 256) (b:=(n:Int)+1) (by omega)
 exact⟨(c / 256 % ((n:Int)+1)).toNat,by omega,by omega⟩
theorem Qw(c:Int)(m:Nat)(hm:m≤8):iB [.d (.int c),.d (.int (m:Int))]=.ok (.d (aC ((words c m).map S'))):=by
 unfold iB yo
 rw[KR]
 have hr8:okR 8:=lY (by decide) (by decide)
 have hrm:okR (m:Int):=lY (by omega) (by omega)
 have hl0:(PySem.Str.ofString "etaoinshrdlucmfwypvbgkqjxz")=cU:=rfl
 have g4:∀ r:Rs D,aO ((0:Int) < 4) r=r:=fun r=>aj (by decide)
 have g26:∀ r:Rs D,aO ((0:Int) < 26) r=r:=fun r=>aj (by decide)
 have g8:∀ r:Rs D,aO ((0:Int) < 8) r=r:=fun r=>aj (by decide)
 by_cases c1:c % 4 < 2
 ·have hlong:gC (.n 2) jq (m2 dU (mV 0) (m2 bI (m2 cJ (mV 1) (m2 bU (mC (.int 4)) (m2 dF (mC (.int 3)) (mV 2)))) (mC (.int 26)))) [some (.d (.str cU)),some (.d (.int c)),none] (dD 0 8)=.ok ((kZ c).map fun x=>D.str (S' [x])):=by
   have:=jx (tg:=.n 2) (a:=m2 dU (mV 0) (m2 bI (m2 cJ (mV 1) (m2 bU (mC (.int 4)) (m2 dF (mC (.int 3)) (mV 2)))) (mC (.int 26)))) (e:=[some (.d (.str cU)),some (.d (.int c)),none]) (fun k=>D.str (S' [oH (c / (4+3 * (k:Int)))])) 8 fun k hk=>⟨[some (.d (.str cU)),some (.d (.int c)),some (.d (.int k))],rfl,by
    simp only[m2,mV,List.getElem?_cons_zero,List.getElem?_cons_succ,mC,aA,xX]
    rw[aj (jF (by decide) (by decide))]
    simp only[aA,oM,div_ii]
    rw[aj (cz (by omega) (by omega))]
    simp only[aA,gF,g26,wY]⟩
   rw[show ((8:Nat):Int)=8 from rfl] at this
   rw[this]
   unfold kZ
   rw[List.map_map];rfl
  have hp:qm [some 2,some 0,none] [some (.d (.int c)),some (.d (.int (m:Int))),some (.d (.str cU)),none,none,none,none]=[some (.d (.str cU)),some (.d (.int c)),none]:=rfl
  have hj:=vK (kZ c) (by rw[iU];omega)
  have hw8:(dD 0 8).length≤16777216:=by rw[show (8:Int)=((8:Nat):Int) from rfl,gU];omega
  have hwm:(dD 0 (m:Int)).length≤16777216:=by rw[gU];omega
  by_cases c2:c % 4=0
  ·have hc:gC (.n 1) jq (dY kY (mV 0) none (some (m2 bU (mV 1) (mC (.int 1))))) [some (.d (.str (S' (kZ c)))),none] (dD 0 (m:Int))=.ok ((words c m).map fun l=>D.str (S' l)):=by
    rw[jx (fun k=>D.str (S' ((kZ c).take (k+1)))) m fun k hk=>⟨[some (.d (.str (S' (kZ c)))),some (.d (.int k))],rfl,by
     simp only[dY,mV,List.getElem?_cons_zero,nO,m2,List.getElem?_cons_succ,mC,aA,oM,xq,Ae]
     rw[aj (by rw[jh,iU];omega),show (k:Int)+1=((k+1:Nat):Int) by omega,tZ]⟩]
    unfold words
    rw[if_pos c1,if_pos c2,List.map_map];rfl
   have hp2:∀ z,qm [some 3,none] [some (.d (.int c)),some (.d (.int (m:Int))),some (.d (.str cU)),some z,none,none,none]=[some z,none]:=fun _=>rfl
   have hmod:cB (m2 sG (m2 bI (mV 0) (mC (.int 4))) (mC (.int 2))) [some (.d (.int c)),some (.d (.int (m:Int))),some (.d (.str cU)),none,none,none,none]=.ok true :=
    cC ((aG (aG rfl rfl (g4 _)) rfl rfl).trans (by rw[rO,decide_eq_true c1]))
   have hmod2:cB (m2 rQ (m2 bI (mV 0) (mC (.int 4))) (mC (.int 0))) [some (.d (.int c)),some (.d (.int (m:Int))),some (.d (.str cU)),some (.d (.str (S' (kZ c)))),none,none,none]=.ok true :=
    cC ((aG (aG rfl rfl (g4 _)) rfl rfl).trans (by rw[ph,decide_eq_true c2]))
   show Rs.bind _ nA=_
   rw[aK (e':=[some (.d (.int c)),some (.d (.int (m:Int))),some (.d (.str cU)),none,none,none,none]) (bC rfl)]
   refine(congrArg (fun r=>Rs.bind r nA) (jK (w:=.d (aC ((words c m).map S'))) ?_)).trans rfl
   rw[gW hmod,aK (e':=[some (.d (.int c)),some (.d (.int (m:Int))),some (.d (.str cU)),some (.d (.str (S' (kZ c)))),none,none,none]) (bC (aG rfl (gP (nq rfl hr8) hw8 hlong) hj))]
   rw[jK ((gW hmod2).trans (dj (b8 (gP (nq rfl hrm) hwm hc))))]
   rw[aC,List.map_map]
   rfl
  ·have hc:gC (.n 1) jq (dY kY (mV 0) (some (m2 za (mC (.int 7)) (mV 1))) none) [some (.d (.str (S' (kZ c)))),none] (dD 0 (m:Int))=.ok ((words c m).map fun l=>D.str (S' l)):=by
    rw[jx (fun k=>D.str (S' ((kZ c).drop (7 - k)))) m fun k hk=>⟨[some (.d (.str (S' (kZ c)))),some (.d (.int k))],rfl,by
     simp only[dY,mV,List.getElem?_cons_zero,nO,m2,mC,List.getElem?_cons_succ,aA,z9,xq,Ae]
     rw[aj (by rw[jh,iU];omega),show (7:Int) - (k:Int)=((7 - k:Nat):Int) by omega,tX]⟩]
    unfold words
    rw[if_pos c1,if_neg c2,List.map_map];rfl
   have hp2:∀ z,qm [some 3,none] [some (.d (.int c)),some (.d (.int (m:Int))),some (.d (.str cU)),some z,none,none,none]=[some z,none]:=fun _=>rfl
   have hmod:cB (m2 sG (m2 bI (mV 0) (mC (.int 4))) (mC (.int 2))) [some (.d (.int c)),some (.d (.int (m:Int))),some (.d (.str cU)),none,none,none,none]=.ok true :=
    cC ((aG (aG rfl rfl (g4 _)) rfl rfl).trans (by rw[rO,decide_eq_true c1]))
   have hmod2:cB (m2 rQ (m2 bI (mV 0) (mC (.int 4))) (mC (.int 0))) [some (.d (.int c)),some (.d (.int (m:Int))),some (.d (.str cU)),some (.d (.str (S' (kZ c)))),none,none,none]=.ok false :=
    cC ((aG (aG rfl rfl (g4 _)) rfl rfl).trans (by rw[ph,decide_eq_false c2]))
   show Rs.bind _ nA=_
   rw[aK (e':=[some (.d (.int c)),some (.d (.int (m:Int))),some (.d (.str cU)),none,none,none,none]) (bC rfl)]
   refine(congrArg (fun r=>Rs.bind r nA) (jK (w:=.d (aC ((words c m).map S'))) ?_)).trans rfl
   rw[gW hmod,aK (e':=[some (.d (.int c)),some (.d (.int (m:Int))),some (.d (.str cU)),some (.d (.str (S' (kZ c)))),none,none,none]) (bC (aG rfl (gP (nq rfl hr8) hw8 hlong) hj))]
   rw[aK (cI hmod2),dj (b8 (gP (nq rfl hrm) hwm hc))]
   rw[aC,List.map_map]
   rfl
 ·obtain⟨n,hn,hn8⟩:=size_of c
  obtain⟨t,ht,ht8⟩:=at_of c n
  have hrn:okR (n:Int):=lY (by omega) (by omega)
  have d4:qu 4:=cz (by decide) (by decide)
  have d32:qu 32:=cz (by decide) (by decide)
  have d256:qu 256:=cz (by decide) (by decide)
  have d7:qu 7:=cz (by decide) (by decide)
  have hstem:gC (.n 2) jq (m2 dU (mV 0) (m2 bI (m2 bU (m2 bU (m2 cJ (mV 1) (mC (.int 32))) (m2 dF (mC (.int 5)) (mV 2))) (m2 dF (mV 2) (mV 2))) (mC (.int 26)))) [some (.d (.str cU)),some (.d (.int c)),none] (dD 0 (n:Int))=.ok ((gq c n).map fun x=>D.str (S' [x])):=by
   rw[jx (fun k=>D.str (S' [oH (c / 32+5 * (k:Int)+(k:Int) * (k:Int))])) n fun k hk=>⟨[some (.d (.str cU)),some (.d (.int c)),some (.d (.int k))],rfl,by
    exact st2 _ _ _ (st1 c k d32 (jF (by decide) (by decide)) (HQ hk hn8)) rfl⟩]
   unfold gq
   rw[List.map_map];rfl
  have hp:qm [some 2,some 0,none] [some (.d (.int c)),some (.d (.int (m:Int))),some (.d (.str cU)),none,some (.d (.int (n:Int))),none,none]=[some (.d (.str cU)),some (.d (.int c)),none]:=rfl
  have hj:=vK (gq c n) (by rw[iw];omega)
  have hwn:(dD 0 (n:Int)).length≤16777216:=by rw[gU];omega
  have hwm:(dD 0 (m:Int)).length≤16777216:=by rw[gU];omega
  have hc:gC (.n 4) jq (m2 bU (m2 bU (dY kY (mV 0) none (some (mV 2))) (m2 dU (mV 1) (m2 bI (m2 bU (m2 cJ (mV 3) (mC (.int 7))) (m2 dF (mC (.int 5)) (mV 4))) (mC (.int 26))))) (dY kY (mV 0) (some (mV 2)) none))
   [some (.d (.str (S' (gq c n)))),some (.d (.str cU)),some (.d (.int (t:Int))),some (.d (.int c)),none] (dD 0 (m:Int))=.ok ((words c m).map fun l=>D.str (S' l)):=by
   rw[jx (fun k=>D.str (S' ((gq c n).take t++[oH (c / 7+5 * (k:Int))]++(gq c n).drop t))) m fun k hk=>⟨[some (.d (.str (S' (gq c n)))),some (.d (.str cU)),some (.d (.int (t:Int))),some (.d (.int c)),some (.d (.int k))],rfl,by
    have gS:∀ r:Rs D,aO ((S' (gq c n)).length≤16777216) r=r:=fun r=>aj (by rw[jh,iw];omega)
    have gM:∀ r:Rs D,aO (uV 5 (k:Int)) r=r:=fun r=>aj (jF (by decide) (by decide))
    simp only[m2,dY,mV,List.getElem?_cons_zero,nO,List.getElem?_cons_succ,aA,xq,Ae,tZ,gS,mC,div_ii,aj d7,xX,gM,oM,gF,g26,wY,rH,tX]
    rw[aj (by rw[jh,jh,List.length_take,iw];simp;omega)]
    simp only[Uv,aA,rH]
    rw[aj (by rw[jh,jh,List.length_append,List.length_take,List.length_drop,iw];simp;omega)]⟩]
   unfold words
   rw[if_neg c1,List.map_map,hn,ht]
   rfl
  have hmod:cB (m2 sG (m2 bI (mV 0) (mC (.int 4))) (mC (.int 2))) [some (.d (.int c)),some (.d (.int (m:Int))),some (.d (.str cU)),none,none,none,none]=.ok false :=
   cC ((aG (aG rfl rfl (g4 _)) rfl rfl).trans (by rw[rO,decide_eq_false c1]))
  show Rs.bind _ nA=_
  rw[aK (e':=[some (.d (.int c)),some (.d (.int (m:Int))),some (.d (.str cU)),none,none,none,none]) (bC rfl)]
  rw[aK (cI hmod)]
  rw[aK (e':=[some (.d (.int c)),some (.d (.int (m:Int))),some (.d (.str cU)),none,some (.d (.int (n:Int))),none,none]) (bC (d:=.int (n:Int)) ((aG (aG rfl rfl (aj d4)) rfl (g8 _)).trans (by rw[hn])))]
  rw[aK (e':=[some (.d (.int c)),some (.d (.int (m:Int))),some (.d (.str cU)),none,some (.d (.int (n:Int))),some (.d (.str (S' (gq c n)))),none]) (bC (aG rfl (gP (nq rfl hrn) hwn hstem) hj))]
  rw[aK (e':=[some (.d (.int c)),some (.d (.int (m:Int))),some (.d (.str cU)),none,some (.d (.int (n:Int))),some (.d (.str (S' (gq c n)))),some (.d (.int (t:Int)))]) (bC (d:=.int (t:Int)) ((aG (aG rfl rfl (aj d256)) (aG rfl rfl rfl) (aj (by omega))).trans (by rw[ht])))]
  rw[dj (b8 (gP (nq rfl hrm) hwm hc))]
  simp only[aA,zr,aC,List.map_map]
  rfl
end Mr
namespace Mr
open PySem Mi
open My (words iT sJ)
theorem Vf(n:Nat)(h:n≤8):okR (n:Int):=lY (by omega) (by omega)
theorem J5{ls:List Int}{z:Int}(h0:0≤z)(h1:z < ls.length)(hl:ls.length≤100):Hz (ls.map D.int) z=.ok (.int (ls.getD z.toNat 0),(ls.eraseIdx z.toNat).map D.int):=by
 have h3:z.toNat < ls.length:=by omega
 unfold Hz
 rw[aj (by omega),show Cz (ls.map D.int).length z=some z.toNat by
  unfold Cz
  rw[if_pos h0,if_pos (by rw[List.length_map];exact h1)],iy,aA,List.getElem?_map,List.getElem?_eq_getElem h3,List.getD_eq_getElem?_getD,List.getElem?_eq_getElem h3]
 show Rs.ok (D.int ls[z.toNat],(ls.map D.int).eraseIdx z.toNat)=_
 have:∀ (l:List Int) (k:Nat),(l.map D.int).eraseIdx k=(l.eraseIdx k).map D.int:=by
  intro l
  induction l with
  | nil=>intro k;rfl
  | cons a r ih =>
   intro k
   cases k with
   | zero=>rfl
   | succ k=>rw[List.map_cons,List.eraseIdx_cons_succ,ih k];rfl
 rw[this];rfl
theorem VJ(e:Mi.Env):mN ie [] e=.ok (.lst []):=by
 show aO (([]:List D).length≤16777216) (Rs.ok (D.lst []))=_
 exact aj (by simp)
end Mr
namespace Mr
open PySem Mi
end Mr
namespace Mr
open PySem Mi
abbrev Ix:=Nat×Nat
def jL(p q:Ix):Prop:=p.1 < q.1∨(p.1=q.1∧p.2 < q.2)
def nth(names:List Str)(i:Nat):Str:=names.getD i Str.empty
def arrOf(names:List Str)(p:Ix):Ar:=(nth names p.1,nth names p.2)
structure rW(names:List Str)(A:List Ix)(r:Nat→Int):Prop where
 nd:names.Nodup
 pos:1≤names.length
 le:names.length≤8
 srt:A.Pairwise jL
 all:∀ p∈A,p.1 < names.length∧p.2 < names.length∧r p.1 < r p.2
 al:A.length≤64
theorem nR{names:List Str}{i:Nat}(h:i < names.length):nth names i∈names:=by
 unfold nth
 rw[List.getD_eq_getElem?_getD,List.getElem?_eq_getElem h]
 exact List.getElem_mem h
theorem uC{names:List Str}(nd:names.Nodup){i j:Nat}(hi:i < names.length)(hj:j < names.length)(h:nth names i=nth names j):i=j:=by
 unfold nth at h
 rw[List.getD_eq_getElem?_getD,List.getElem?_eq_getElem hi,List.getD_eq_getElem?_getD,List.getElem?_eq_getElem hj] at h
 exact(List.getElem_inj nd).mp h
theorem rW.uD{names:List Str}{A:List Ix}{r:Nat→Int}(N:rW names A r):Qg names (A.map (arrOf names)):=by
 refine⟨N.nd,N.pos,N.le,by rw[List.length_map];exact N.al,fun p hp=>?_,fun x=>r (names.idxOf x),fun p hp=>?_⟩
 ·obtain⟨q,hq,rfl⟩:=List.mem_map.mp hp
  exact nR (N.all q hq).1
 ·obtain⟨q,hq,rfl⟩:=List.mem_map.mp hp
  obtain⟨h1,h2,h3⟩:=N.all q hq
  have key:∀ i,i < names.length→names.idxOf (nth names i)=i:=fun i hi=>by
   have hm:=nR hi
   have hl:names.idxOf (nth names i) < names.length:=List.idxOf_lt_length_of_mem hm
   refine uC N.nd hl hi ?_
   have h4:names[names.idxOf (nth names i)]=nth names i:=List.getElem_idxOf hl
   show names.getD (names.idxOf (nth names i)) Str.empty=_
   rw[List.getD_eq_getElem?_getD,List.getElem?_eq_getElem hl]
   exact h4
  show r (names.idxOf (nth names q.1)) < r (names.idxOf (nth names q.2))
  rw[key _ h1,key _ h2];exact h3
def good(m:Nat)(r:Nat→Int)(A:List Ix)(j k:Nat):Prop:=A.Pairwise jL∧(∀ p∈A,p.1 < m∧p.2 < m∧r p.1 < r p.2∧(p.1 < j∨(p.1=j∧p.2 < k)))∧A.length≤8 * j+k
theorem good.skip{m:Nat}{r:Nat→Int}{A:List Ix}{j k:Nat}(h:good m r A j k):good m r A j (k+1) :=
 ⟨h.1,fun p hp=>⟨(h.2.1 p hp).1,(h.2.1 p hp).2.1,(h.2.1 p hp).2.2.1,by have:=(h.2.1 p hp).2.2.2;omega⟩,by have:=h.2.2;omega⟩
theorem good.add{m:Nat}{r:Nat→Int}{A:List Ix}{j k:Nat}(h:good m r A j k)(hj:j < m)(hk:k < m)(hr:r j < r k):good m r (A++[(j,k)]) j (k+1):=by
 refine⟨List.pairwise_append.mpr ⟨h.1,List.pairwise_singleton _ _,fun p hp q hq=>?_⟩,fun p hp=>?_,by rw[List.length_append];have:=h.2.2;simp;omega⟩
 ·have:q=(j,k):=by simpa using hq
  subst this
  have:=(h.2.1 p hp).2.2.2
  exact this
 ·rcases List.mem_append.mp hp with hp|hp
  ·exact(h.skip.2.1 p hp)
  ·have:p=(j,k):=by simpa using hp
   subst this
   exact⟨hj,hk,hr,.inr ⟨rfl,by omega⟩⟩
theorem good.next{m:Nat}{r:Nat→Int}{A:List Ix}{j k:Nat}(h:good m r A j k)(hk:k≤8):good m r A (j+1) 0 :=
 ⟨h.1,fun p hp=>⟨(h.2.1 p hp).1,(h.2.1 p hp).2.1,(h.2.1 p hp).2.2.1,by have:=(h.2.1 p hp).2.2.2;omega⟩,by have:=h.2.2;omega⟩
def vW(names:List Str)(A:List Ix):D:=.lst ((A.map (arrOf names)).map pairD)
theorem X7{a:Int}(h0:0≤a)(h1:a < 8):-(2 ^ 64) < a∧a < 2 ^ 64∧0≤a * (a - 1) / 2∧a * (a - 1) / 2≤21:=by
 have:a=0∨a=1∨a=2∨a=3∨a=4∨a=5∨a=6∨a=7:=by omega
 rcases this with h|h|h|h|h|h|h|h<;>subst h<;>decide
end Mr
namespace Mr
open PySem Mi
open My (words iT sJ)
theorem mQ(ns:List Int)(k:Nat)(hk:k≤100):∃ c:Int,cO [.d (.lst (ns.map D.int)),.d (.int (k:Int))]=.ok (.d (.int c)):=by
 unfold cO Ji
 rw[pL]
 have hl:mN cZ [mV 0] [some (.d (.lst (ns.map D.int))),some (.d (.int (k:Int))),none]=.ok (.int (ns.length:Int)):=by show Rs.ok (D.int ((ns.map D.int).length:Int))=_;rw[List.length_map]
 have c1:cB (m2 sG (mV 1) (mN cZ [(mV 0)])) [some (.d (.lst (ns.map D.int))),some (.d (.int (k:Int))),none]=.ok (decide ((k:Int) < (ns.length:Int))):=cC (aG rfl hl rfl)
 by_cases h:(k:Int) < (ns.length:Int)
 ·rw[decide_eq_true h] at c1
  exact⟨_,by
   rw[show ([some (W.d (.lst (ns.map D.int))),some (.d (.int (k:Int)))]++List.replicate (3 - 2) none)=[some (.d (.lst (ns.map D.int))),some (.d (.int (k:Int))),none] from rfl]
   rw[jK ((gW c1).trans (dj (b8 (aG rfl rfl (zB (by omega) h)))))];rfl⟩
 ·rw[decide_eq_false h] at c1
  have s1:bV 2 (m2 bU (mC (.int 30011)) (m2 dF (m2 dF (mC (.int 709)) (mV 1)) (mV 1))) [some (.d (.lst (ns.map D.int))),some (.d (.int (k:Int))),none]=.ok (.nx [some (.d (.lst (ns.map D.int))),some (.d (.int (k:Int))),some (.d (.int (30011+709 * (k:Int) * (k:Int))))]) :=
   bC (aG rfl (aG (aG rfl rfl (aj (jF (by decide) (by decide)))) rfl (aj (FZ (by omega) (by omega)))) rfl)
  have hl2:mN cZ [mV 0] [some (.d (.lst (ns.map D.int))),some (.d (.int (k:Int))),some (.d (.int (30011+709 * (k:Int) * (k:Int))))]=.ok (.int (ns.length:Int)):=by show Rs.ok (D.int ((ns.map D.int).length:Int))=_;rw[List.length_map]
  have c2:cB (m2 zb (mN cZ [(mV 0)]) (mC (.int 0))) [some (.d (.lst (ns.map D.int))),some (.d (.int (k:Int))),some (.d (.int (30011+709 * (k:Int) * (k:Int))))]=.ok (decide ((0:Int) < (ns.length:Int))):=cC (aG hl2 rfl rfl)
  by_cases h0:(0:Int) < (ns.length:Int)
  ·rw[decide_eq_true h0] at c2
   refine⟨_,by
    rw[show ([some (W.d (.lst (ns.map D.int))),some (.d (.int (k:Int)))]++List.replicate (3 - 2) none)=[some (.d (.lst (ns.map D.int))),some (.d (.int (k:Int))),none] from rfl]
    rw[aK ((cI c1).trans rfl),aK s1,aK ((gW c2).trans (bC (aG rfl (aG (aG (aG rfl rfl (zB (by decide) h0)) rfl (aj (by decide))) (aG (aG (aG rfl rfl (aj (jF (by omega) (by omega)))) (aG rfl rfl (aj (jF (by decide) (by decide)))) rfl) rfl rfl) (aj (jF ?_ ?_))) rfl)))]
    rfl⟩
   ·have:=Int.emod_nonneg (ns.getD (0:Int).toNat 0) (b:=99991) (by decide);omega
   ·have:=Int.emod_lt_of_pos (ns.getD (0:Int).toNat 0) (b:=99991) (by decide);omega
  ·rw[decide_eq_false h0] at c2
   exact⟨_,by
    rw[show ([some (W.d (.lst (ns.map D.int))),some (.d (.int (k:Int)))]++List.replicate (3 - 2) none)=[some (.d (.lst (ns.map D.int))),some (.d (.int (k:Int))),none] from rfl]
    rw[aK ((cI c1).trans rfl),aK s1,aK ((cI c2).trans rfl)]
    rfl⟩
theorem Oq(d:Int)(m:Nat)(hm:m≤8):∃ rs:List Int,mW [.d (.int d),.d (.int (m:Int))]=.ok (.d (.lst (rs.map D.int)))∧rs.length=m:=by
 unfold mW yJ
 rw[KR]
 have hw:(dD 0 (m:Int)).length≤16777216:=by rw[gU];omega
 have hc:gC (.n 0) jq (mV 0) [none] (dD 0 (m:Int))=.ok ((List.range m).map fun (k:Nat)=>D.int (k:Int)) :=
  jx (fun k=>D.int (k:Int)) m fun k _=>⟨[some (.d (.int k))],rfl,rfl⟩
 have hr:((List.range m).map fun (k:Nat)=>D.int (k:Int))=((List.range m).map fun (k:Nat)=>(k:Int)).map D.int:=by rw[List.map_map];rfl
 rw[hr] at hc
 obtain⟨e',h1,h2⟩:=nW (tg:=.n 5) (body:=aV (bV 4 (m2 bI (m2 bU (m2 bU (m2 dF (mV 4) (mC (.int 48271))) (m2 dF (mC (.int 7)) (mV 5))) (mC (.int 1))) (mC (.int 2147483647)))) (jZ 3 2 (m2 bI (m2 cJ (mV 4) (mC (.int 32))) (mN cZ [(mV 2)]))))
  (fun i e=>∃ (x:Int) (ls rs:List Int) (o:Option W),e=[some (.d (.int d)),some (.d (.int (m:Int))),some (.d (.lst (ls.map D.int))),some (.d (.lst (rs.map D.int))),some (.d (.int x)),o]∧ls.length+i=m∧rs.length=i) (dD 0 (m:Int)) 0 (fun i x e hx ⟨x0,ls,rs,o,he,hl,hrs⟩=>by
   obtain⟨hi,rfl⟩:=vO hx
   subst he
   rw[Nat.zero_add] at hl hrs
   have hpos:(0:Int) < (ls.length:Int):=by omega
   obtain⟨y,hy⟩ : ∃ y,y=(x0 * 48271+7 * (i:Int)+1) % 2147483647:=⟨_,rfl⟩
   have z1:=Int.emod_nonneg (y / 32) (b:=(ls.length:Int)) (by omega)
   have z2:=Int.emod_lt_of_pos (y / 32) hpos
   refine⟨[some (.d (.int d)),some (.d (.int (m:Int))),some (.d (.lst (ls.map D.int))),some (.d (.lst (rs.map D.int))),some (.d (.int x0)),some (.d (.int (i:Int)))],[some (.d (.int d)),some (.d (.int (m:Int))),some (.d (.lst ((ls.eraseIdx (y / 32 % (ls.length:Int)).toNat).map D.int))),some (.d (.lst ((rs++[ls.getD (y / 32 % (ls.length:Int)).toNat 0]).map D.int))),some (.d (.int y)),some (.d (.int (i:Int)))],rfl,?_,y,ls.eraseIdx (y / 32 % (ls.length:Int)).toNat,rs++[ls.getD (y / 32 % (ls.length:Int)).toNat 0],some (.d (.int (i:Int))),rfl,?_,?_⟩
   ·have h0:m2 bI (m2 cJ (mV 4) (mC (.int 32))) (mN cZ [(mV 2)]) [some (.d (.int d)),some (.d (.int (m:Int))),some (.d (.lst (ls.map D.int))),some (.d (.lst (rs.map D.int))),some (.d (.int y)),some (.d (.int (i:Int)))]=.ok (.int (y / 32 % (ls.length:Int))) :=
     aG (x:=.int (y / 32)) (y:=.int (ls.length:Int)) (aG rfl rfl (aj (cz (by decide) (by decide)))) (by show Rs.ok (D.int ((ls.map D.int).length:Int))=_;rw[List.length_map]) (aj hpos)
    rw[aK (e':=[some (.d (.int d)),some (.d (.int (m:Int))),some (.d (.lst (ls.map D.int))),some (.d (.lst (rs.map D.int))),some (.d (.int y)),some (.d (.int (i:Int)))])]
    ·unfold jZ
     rw[h0]
     simp only[aA,xq,getL,List.getElem?_cons_succ,List.getElem?_cons_zero,J5 z1 z2 (by omega),putL,List.set_cons_succ,List.set_cons_zero]
     rw[aj (by rw[List.length_map];omega),List.map_append]
     rfl
    ·rw[hy]
     exact bC (aG (aG (aG (aG rfl rfl (aj (FZ (by decide) (by decide)))) (aG rfl rfl (aj (jF (by decide) (by decide)))) rfl) rfl rfl) rfl (aj (by decide)))
   ·rw[List.length_eraseIdx_of_lt (by omega)];omega
   ·rw[List.length_append,hrs];simp) [some (.d (.int d)),some (.d (.int (m:Int))),some (.d (.lst (((List.range m).map fun (k:Nat)=>(k:Int)).map D.int))),some (.d (.lst [])),some (.d (.int (d % 2147483647))),none] ⟨_,_,[],none,rfl,by simp,rfl⟩
 obtain⟨d2,ls,rs,o,he,hl,hrs⟩:=h2
 subst he
 rw[gU,Nat.zero_add] at hl hrs
 refine⟨rs,?_,hrs⟩
 rw[aK (e':=[some (.d (.int d)),some (.d (.int (m:Int))),some (.d (.lst (((List.range m).map fun (k:Nat)=>(k:Int)).map D.int))),none,none,none]) (bC (gP (nq rfl (Vf m hm)) hw hc))]
 rw[aK (e':=[some (.d (.int d)),some (.d (.int (m:Int))),some (.d (.lst (((List.range m).map fun (k:Nat)=>(k:Int)).map D.int))),some (.d (.lst [])),none,none]) (bC (VJ _))]
 rw[aK (e':=[some (.d (.int d)),some (.d (.int (m:Int))),some (.d (.lst (((List.range m).map fun (k:Nat)=>(k:Int)).map D.int))),some (.d (.lst [])),some (.d (.int (d % 2147483647))),none]) (bC (aG rfl rfl (aj (by decide))))]
 rw[aK ((lC (nq rfl (Vf m hm))).trans h1)]
 rfl
end Mr
namespace Mr
open PySem Mi
open My (words iT sJ)
theorem Ub(ns:List Int){e:Mi.Env}{j k:Nat}(hj:j < 8)(hk:k < 8)(e0:mV 0 e=.ok (.lst (ns.map D.int)))(e7:mV 7 e=.ok (.int (j:Int)))(e8:mV 8 e=.ok (.int (k:Int))):∃ c:Int,(bh cO [(wD (mV 0)),(wD (m2 bU (m2 bU (mC (.int 4)) (m2 cJ (m2 dF (mN vR [(mV 7),(mV 8)]) (m2 za (mN vR [(mV 7),(mV 8)]) (mC (.int 1)))) (mC (.int 2)))) (mN CQ [(mV 7),(mV 8)])))]) e=.ok (.int c):=by
 have hx:mN vR [(mV 7),(mV 8)] e=.ok (.int (max (j:Int) (k:Int))):=(HX e7 e8).trans (Bk _ _)
 have hn:mN CQ [(mV 7),(mV 8)] e=.ok (.int (min (j:Int) (k:Int))):=(HX e7 e8).trans (Bj _ _)
 obtain⟨t1,t2,t3,t4⟩:=X7 (a:=max (j:Int) (k:Int)) (by omega) (by omega)
 obtain⟨z,hz⟩ : ∃ z:Nat,4+max (j:Int) (k:Int) * (max (j:Int) (k:Int) - 1) / 2+min (j:Int) (k:Int)=(z:Int):=⟨(4+max (j:Int) (k:Int) * (max (j:Int) (k:Int) - 1) / 2+min (j:Int) (k:Int)).toNat,by omega⟩
 obtain⟨c,hc⟩:=mQ ns z (by omega)
 refine⟨c,call2 (b8 e0) (b8 (aG (aG rfl (aG (aG hx (aG hx rfl rfl) (aj (jF t1 t2))) rfl (aj (cz (by decide) (by decide)))) rfl) hn rfl)) ?_⟩
 rw[hz];exact hc
theorem R3(ns:List Int)(hi:Nat)(h0:1≤hi)(h2:hi≤8) :
 ∃ names A r,qx [.d (.lst (ns.map D.int)),.d (.int (hi:Int))]=.ok (.d (kO names (A.map (arrOf names))))∧rW names A r∧∃ (c:Int) (m:Nat),m≤8∧names=(words c m).map S':=by
 obtain⟨c0,hc0⟩:=mQ ns 0 (by decide)
 obtain⟨c1,hc1⟩:=mQ ns 1 (by decide)
 obtain⟨c2,hc2⟩:=mQ ns 2 (by decide)
 obtain⟨c3,hc3⟩:=mQ ns 3 (by decide)
 have hw:(0:Int) < (hi:Int):=by omega
 have q1:=Int.emod_nonneg c0 (b:=(hi:Int)) (by omega)
 have q2:=Int.emod_lt_of_pos c0 hw
 obtain⟨m,hm⟩ : ∃ m:Nat,1+c0 % (hi:Int)=(m:Int):=⟨(1+c0 % (hi:Int)).toNat,by omega⟩
 have hm1:1≤m:=by omega
 have hm2:m≤hi:=by omega
 have hm8:m≤8:=by omega
 obtain⟨names,hnm⟩ : ∃ names,names=(words c1 m).map S':=⟨_,rfl⟩
 have hn:=Qw c1 m hm8
 rw[← hnm] at hn
 have hnl:names.length=m:=by rw[hnm,List.length_map];exact iT c1 m
 have hnd:names.Nodup:=by rw[hnm];exact List.Pairwise.map _ (fun a b h z=>h (Z2 z)) (sJ _ _ hm8)
 obtain⟨rs,hr,hrl⟩:=Oq c2 m hm8
 have q3:=Int.emod_nonneg c3 (b:=6) (by decide)
 have q4:=Int.emod_lt_of_pos c3 (b:=6) (by decide)
 obtain⟨th,hth⟩ : ∃ th,dU (.lst ([4,1,2,3,2,3].map D.int)) (.int (c3 % 6))=.ok (.int th):=⟨_,zB q3 (by simp;omega)⟩
 have hrx:∀ i:Nat,i < m→dU (.lst (rs.map D.int)) (.int (i:Int))=.ok (.int (rs.getD i 0)):=fun i hi=>by
  have:=zB (cs:=rs) (i:=(i:Int)) (by omega) (by omega)
  rwa [Int.toNat_natCast] at this
 have hnx:∀ i:Nat,i < m→dU (aC names) (.int (i:Int))=.ok (.str (nth names i)):=fun i hi=>by
  have:=zA (cs:=names) (i:=(i:Int)) (by omega) (by omega)
  rwa [Int.toNat_natCast] at this
 have inner:∀ (j:Nat) (A:List Ix) (o8 o9:Option W),j < m→good m (fun i=>rs.getD i 0) A j 0→∃ (A':List Ix) (p8 p9:Option W),kW (.n 8) (aV (bV 9 (bh cO [(wD (mV 0)),(wD (m2 bU (m2 bU (mC (.int 4)) (m2 cJ (m2 dF (mN vR [(mV 7),(mV 8)]) (m2 za (mN vR [(mV 7),(mV 8)]) (mC (.int 1)))) (mC (.int 2)))) (mN CQ [(mV 7),(mV 8)])))])) (fL (nF (cB (m2 sG (m2 dU (mV 4) (mV 7)) (m2 dU (mV 4) (mV 8)))) (cB (m2 sG (m2 bI (m2 cJ (m2 bI (m2 dF (mV 9) (mC (.int 48271))) (mC (.int 2147483647))) (mC (.int 16))) (mC (.int 4))) (mV 5)))) (dG 6 (mN dTup [(m2 dU (mV 3) (mV 7)),(m2 dU (mV 3) (mV 8))])) aX)) (dD 0 (m:Int)) [some (.d (.lst (ns.map D.int))),some (.d (.int (hi:Int))),some (.d (.int (m:Int))),some (.d (aC names)),some (.d (.lst (rs.map D.int))),some (.d (.int th)),some (.d (vW names A)),some (.d (.int (j:Int))),o8,o9]=.ok (.nx [some (.d (.lst (ns.map D.int))),some (.d (.int (hi:Int))),some (.d (.int (m:Int))),some (.d (aC names)),some (.d (.lst (rs.map D.int))),some (.d (.int th)),some (.d (vW names A')),some (.d (.int (j:Int))),p8,p9])∧good m (fun i=>rs.getD i 0) A' (j+1) 0:=by
  intro j A o8 o9 hj hg
  obtain⟨e',f1,A',p8,p9,he,hg'⟩:=nW (tg:=.n 8) (body:=(aV (bV 9 (bh cO [(wD (mV 0)),(wD (m2 bU (m2 bU (mC (.int 4)) (m2 cJ (m2 dF (mN vR [(mV 7),(mV 8)]) (m2 za (mN vR [(mV 7),(mV 8)]) (mC (.int 1)))) (mC (.int 2)))) (mN CQ [(mV 7),(mV 8)])))])) (fL (nF (cB (m2 sG (m2 dU (mV 4) (mV 7)) (m2 dU (mV 4) (mV 8)))) (cB (m2 sG (m2 bI (m2 cJ (m2 bI (m2 dF (mV 9) (mC (.int 48271))) (mC (.int 2147483647))) (mC (.int 16))) (mC (.int 4))) (mV 5)))) (dG 6 (mN dTup [(m2 dU (mV 3) (mV 7)),(m2 dU (mV 3) (mV 8))])) aX))) (fun k e=>∃ (A:List Ix) (o8 o9:Option W),e=[some (.d (.lst (ns.map D.int))),some (.d (.int (hi:Int))),some (.d (.int (m:Int))),some (.d (aC names)),some (.d (.lst (rs.map D.int))),some (.d (.int th)),some (.d (vW names A)),some (.d (.int (j:Int))),o8,o9]∧good m (fun i=>rs.getD i 0) A j k)
   (dD 0 (m:Int)) 0 (fun k x e hx ⟨A,o8,o9,he,hg⟩=>by
    obtain⟨hk,rfl⟩:=vO hx
    subst he
    rw[Nat.zero_add] at hg
    obtain⟨c,hc⟩:=Ub ns (e:=[some (.d (.lst (ns.map D.int))),some (.d (.int (hi:Int))),some (.d (.int (m:Int))),some (.d (aC names)),some (.d (.lst (rs.map D.int))),some (.d (.int th)),some (.d (vW names A)),some (.d (.int (j:Int))),some (.d (.int (k:Int))),o9]) (j:=j) (k:=k) (by omega) (by omega) rfl rfl rfl
    have c1:cB (m2 sG (m2 dU (mV 4) (mV 7)) (m2 dU (mV 4) (mV 8))) [some (.d (.lst (ns.map D.int))),some (.d (.int (hi:Int))),some (.d (.int (m:Int))),some (.d (aC names)),some (.d (.lst (rs.map D.int))),some (.d (.int th)),some (.d (vW names A)),some (.d (.int (j:Int))),some (.d (.int (k:Int))),some (.d (.int c))]=.ok (decide (rs.getD j 0 < rs.getD k 0)):=cC (aG (aG rfl rfl (hrx j hj)) (aG rfl rfl (hrx k hk)) rfl)
    have c2:cB (m2 sG (m2 bI (m2 cJ (m2 bI (m2 dF (mV 9) (mC (.int 48271))) (mC (.int 2147483647))) (mC (.int 16))) (mC (.int 4))) (mV 5)) [some (.d (.lst (ns.map D.int))),some (.d (.int (hi:Int))),some (.d (.int (m:Int))),some (.d (aC names)),some (.d (.lst (rs.map D.int))),some (.d (.int th)),some (.d (vW names A)),some (.d (.int (j:Int))),some (.d (.int (k:Int))),some (.d (.int c))]=.ok (decide (c * 48271 % 2147483647 / 16 % 4 < th)):=cC (aG (aG (aG (aG (aG rfl rfl (aj (FZ (by decide) (by decide)))) rfl (aj (by decide))) rfl (aj (cz (by decide) (by decide)))) rfl (aj (by decide))) rfl rfl)
    by_cases hb:rs.getD j 0 < rs.getD k 0∧c * 48271 % 2147483647 / 16 % 4 < th
    ·refine⟨[some (.d (.lst (ns.map D.int))),some (.d (.int (hi:Int))),some (.d (.int (m:Int))),some (.d (aC names)),some (.d (.lst (rs.map D.int))),some (.d (.int th)),some (.d (vW names A)),some (.d (.int (j:Int))),some (.d (.int (k:Int))),o9],[some (.d (.lst (ns.map D.int))),some (.d (.int (hi:Int))),some (.d (.int (m:Int))),some (.d (aC names)),some (.d (.lst (rs.map D.int))),some (.d (.int th)),some (.d (vW names (A++[(j,k)]))),some (.d (.int (j:Int))),some (.d (.int (k:Int))),some (.d (.int c))],rfl,?_,A++[(j,k)],some (.d (.int (k:Int))),some (.d (.int c)),rfl,by rw[Nat.zero_add];exact hg.add hj hk hb.1⟩
     rw[aK (e':=[some (.d (.lst (ns.map D.int))),some (.d (.int (hi:Int))),some (.d (.int (m:Int))),some (.d (aC names)),some (.d (.lst (rs.map D.int))),some (.d (.int th)),some (.d (vW names A)),some (.d (.int (j:Int))),some (.d (.int (k:Int))),some (.d (.int c))]) (bC hc)]
     rw[gW (by unfold nF;rw[c1,aA,decide_eq_true hb.1,if_pos rfl,c2,decide_eq_true hb.2])]
     rw[PQ (d:=pairD (nth names j,nth names k)) (ds:=(A.map (arrOf names)).map pairD) (uN (aG rfl rfl (hnx j hj)) (aG rfl rfl (hnx k hk))) rfl (by rw[List.length_map,List.length_map];have:=hg.2.2;omega)]
     show Rs.ok (Out.nx [_,_,_,_,_,_,some (W.d (D.lst ((A.map (arrOf names)).map pairD++[pairD (nth names j,nth names k)]))),_,_,_])=_
     rw[vW,List.map_append,List.map_append];rfl
    ·refine⟨[some (.d (.lst (ns.map D.int))),some (.d (.int (hi:Int))),some (.d (.int (m:Int))),some (.d (aC names)),some (.d (.lst (rs.map D.int))),some (.d (.int th)),some (.d (vW names A)),some (.d (.int (j:Int))),some (.d (.int (k:Int))),o9],[some (.d (.lst (ns.map D.int))),some (.d (.int (hi:Int))),some (.d (.int (m:Int))),some (.d (aC names)),some (.d (.lst (rs.map D.int))),some (.d (.int th)),some (.d (vW names A)),some (.d (.int (j:Int))),some (.d (.int (k:Int))),some (.d (.int c))],rfl,?_,A,some (.d (.int (k:Int))),some (.d (.int c)),rfl,by rw[Nat.zero_add];exact hg.skip⟩
     rw[aK (e':=[some (.d (.lst (ns.map D.int))),some (.d (.int (hi:Int))),some (.d (.int (m:Int))),some (.d (aC names)),some (.d (.lst (rs.map D.int))),some (.d (.int th)),some (.d (vW names A)),some (.d (.int (j:Int))),some (.d (.int (k:Int))),some (.d (.int c))]) (bC hc)]
     rw[cI (by
      unfold nF
      rw[c1,aA]
      by_cases hb1:rs.getD j 0 < rs.getD k 0
      ·rw[decide_eq_true hb1,if_pos rfl,c2,decide_eq_false fun z=>hb ⟨hb1,z⟩]
      ·rw[decide_eq_false hb1,if_neg Bool.false_ne_true])]
     rfl) _ ⟨A,o8,o9,rfl,hg⟩
  subst he
  rw[gU,Nat.zero_add] at hg'
  exact⟨A',p8,p9,f1,hg'.next hm8⟩
 obtain⟨e',f1,A,p7,p8,p9,he,hg⟩:=nW (tg:=.n 7) (body:=(oA (ik (mV 2)) (.n 8) (aV (bV 9 (bh cO [(wD (mV 0)),(wD (m2 bU (m2 bU (mC (.int 4)) (m2 cJ (m2 dF (mN vR [(mV 7),(mV 8)]) (m2 za (mN vR [(mV 7),(mV 8)]) (mC (.int 1)))) (mC (.int 2)))) (mN CQ [(mV 7),(mV 8)])))])) (fL (nF (cB (m2 sG (m2 dU (mV 4) (mV 7)) (m2 dU (mV 4) (mV 8)))) (cB (m2 sG (m2 bI (m2 cJ (m2 bI (m2 dF (mV 9) (mC (.int 48271))) (mC (.int 2147483647))) (mC (.int 16))) (mC (.int 4))) (mV 5)))) (dG 6 (mN dTup [(m2 dU (mV 3) (mV 7)),(m2 dU (mV 3) (mV 8))])) aX)))) (fun j e=>∃ (A:List Ix) (o7 o8 o9:Option W),e=[some (.d (.lst (ns.map D.int))),some (.d (.int (hi:Int))),some (.d (.int (m:Int))),some (.d (aC names)),some (.d (.lst (rs.map D.int))),some (.d (.int th)),some (.d (vW names A)),o7,o8,o9]∧good m (fun i=>rs.getD i 0) A j 0)
  (dD 0 (m:Int)) 0 (fun j x e hx ⟨A,o7,o8,o9,he,hg⟩=>by
   obtain⟨hj,rfl⟩:=vO hx
   subst he
   rw[Nat.zero_add] at hg
   obtain⟨A',p8,p9,f1,hg'⟩:=inner j A o8 o9 hj hg
   exact⟨_,_,rfl,(lC (nq rfl (Vf m hm8))).trans f1,A',_,p8,p9,rfl,by rw[Nat.zero_add];exact hg'⟩)
  [some (.d (.lst (ns.map D.int))),some (.d (.int (hi:Int))),some (.d (.int (m:Int))),some (.d (aC names)),some (.d (.lst (rs.map D.int))),some (.d (.int th)),some (.d (.lst [])),none,none,none] ⟨[],none,none,none,rfl,List.Pairwise.nil,fun p hp=>absurd hp (by simp),Nat.zero_le _⟩
 subst he
 rw[gU,Nat.zero_add] at hg
 refine⟨names,A,fun i=>rs.getD i 0,?_,⟨hnd,by omega,by omega,hg.1,fun p hp=>?_,by have:=hg.2.2;omega⟩,c1,m,hm8,hnm⟩
 ·unfold qx Ec
  rw[pL]
  rw[show ((0:Nat):Int)=0 from rfl] at hc0
  rw[show ((1:Nat):Int)=1 from rfl] at hc1
  rw[show ((2:Nat):Int)=2 from rfl] at hc2
  rw[show ((3:Nat):Int)=3 from rfl] at hc3
  rw[aK (e':=[some (.d (.lst (ns.map D.int))),some (.d (.int (hi:Int))),some (.d (.int (m:Int))),none,none,none,none,none,none,none]) (bC (d:=.int (m:Int)) ((aG rfl (aG (call2 rfl rfl hc0) rfl (aj hw)) rfl).trans (by rw[oM,hm])))]
  rw[aK (e':=[some (.d (.lst (ns.map D.int))),some (.d (.int (hi:Int))),some (.d (.int (m:Int))),some (.d (aC names)),none,none,none,none,none,none]) (bC (call2 (b8 (call2 rfl rfl hc1)) rfl hn))]
  rw[aK (e':=[some (.d (.lst (ns.map D.int))),some (.d (.int (hi:Int))),some (.d (.int (m:Int))),some (.d (aC names)),some (.d (.lst (rs.map D.int))),none,none,none,none,none]) (bC (call2 (b8 (call2 rfl rfl hc2)) rfl hr))]
  have hl6:mN ie [(mC (.int 4)),(mC (.int 1)),(mC (.int 2)),(mC (.int 3)),(mC (.int 2)),(mC (.int 3))] [some (.d (.lst (ns.map D.int))),some (.d (.int (hi:Int))),some (.d (.int (m:Int))),some (.d (aC names)),some (.d (.lst (rs.map D.int))),none,none,none,none,none]=.ok (.lst ([4,1,2,3,2,3].map D.int)):=by
   show aO (([4,1,2,3,2,3].map D.int).length≤16777216) _=_
   exact aj (by simp)
  rw[aK (e':=[some (.d (.lst (ns.map D.int))),some (.d (.int (hi:Int))),some (.d (.int (m:Int))),some (.d (aC names)),some (.d (.lst (rs.map D.int))),some (.d (.int th)),none,none,none,none]) (bC (aG hl6 (aG (call2 rfl rfl hc3) rfl (aj (by decide))) hth))]
  rw[aK (e':=[some (.d (.lst (ns.map D.int))),some (.d (.int (hi:Int))),some (.d (.int (m:Int))),some (.d (aC names)),some (.d (.lst (rs.map D.int))),some (.d (.int th)),some (.d (.lst [])),none,none,none]) (bC (VJ _))]
  rw[aK ((lC (nq rfl (Vf m hm8))).trans f1)]
  rw[dj (b8 (uN (x:=Uz names) (y:=arD (A.map (arrOf names))) (jR (x:=aC names) rfl) (jR (x:=vW names A) rfl)))]
  rfl
 ·obtain⟨a,b,c,_⟩:=hg.2.1 p hp
  exact⟨by omega,by omega,c⟩
end Mr
namespace Mr
open PySem Mi
end Mr
namespace Mr
open PySem Mi
inductive Rch(jz:List Ar)(x:Str):Str→Prop
 | refl:Rch jz x x
 | step {y z:Str}:Rch jz x y→(y,z)∈jz→Rch jz x z
end Mr
namespace Mr
open PySem Mi
noncomputable def rch (jz:List Ar) (x y:Str):Bool:=@decide (Rch jz x y) (Classical.propDecidable _)
noncomputable def belw (names:List Str) (jz:List Ar) (x:Str):List Str:=names.filter (rch jz x)
def yI(fs:List Str):W:=.dk (fs.map fun y=>((Sum.inr y:Ky),D.bl true))
theorem ab7(fs:List Str)(y:Str):(Cv (fs.map fun y=>((Sum.inr y:Ky),D.bl true)) (Sum.inr y)).isSome=decide (y∈fs):=by
 unfold Cv
 induction fs with
 | nil=>rfl
 | cons a r ih =>
  rw[List.map_cons,List.find?_cons]
  by_cases h:a=y
  ·subst h;simp
  ·rw[decide_eq_false (fun z:(Sum.inr a:Ky)=Sum.inr y=>h (Sum.inr.inj z))]
   simp only[ih]
   rw[decide_eq_decide]
   exact⟨fun z=>List.mem_cons_of_mem _ z,fun z=>by
    rcases List.mem_cons.mp z with z|z
    ·exact absurd z.symm h
    ·exact z⟩
theorem Xj{i:Nat}{k:E}{e:Mi.Env}{fs:List Str}{y:Str}(hk:k e=.ok (.str y))(hw:wV i e=.ok (yI fs)):qy i k e=.ok (.bl (decide (y∈fs))):=by
 unfold qy;rw[hk,aA,hw,aA,← ab7];rfl
theorem TV{i:Nat}{k:E}{e:Mi.Env}{fs:List Str}{y:Str}(hk:k e=.ok (.str y))(hw:wV i e=.ok (yI fs))(hn:y∉fs)(hl:fs.length≤1000):iK i k (mC (.bl true)) e=.ok (.nx (e.set i (some (yI (fs++[y]))))):=by
 unfold iK
 have h1:ZD (yI fs) (.str y) (.bl true)=.ok (yI (fs++[y])):=by
  show aO ((fs.map fun y=>((Sum.inr y:Ky),D.bl true)).length < 16777216) ((wg (Pu (.str y))).bind fun k=>Rs.ok (W.dk (Mi.putK k (.bl true) (fs.map fun y=>((Sum.inr y:Ky),D.bl true)))))=_
  rw[aj (by rw[List.length_map];omega)]
  show Rs.ok (W.dk (Mi.putK (Sum.inr y:Ky) (.bl true) (fs.map fun y=>((Sum.inr y:Ky),D.bl true))))=_
  unfold Mi.putK
  rw[if_neg (by
   rw[List.any_map,Bool.not_eq_true,List.any_eq_false]
   intro z hz
   simp only[Function.comp,decide_eq_true_eq]
   exact fun q=>hn (Sum.inr.inj q ▸ hz))]
  unfold yI
  rw[List.map_append];rfl
 show (k e).bind _=_
 rw[hk,aA,hw,aA,h1];rfl
end Mr
namespace Mr
open PySem Mi
noncomputable def hb (names:List Str) (jz:List Ar) (held:List Str) (x:Str):Bool:=(belw names jz x).any fun y=>decide (y∈held)
end Mr
namespace Mr
open PySem Mi
abbrev Tr3:=Str×Str×Str
theorem Up(jz:List Ar)(p:Ar):((jz.map pairD).any fun e=>dH e (pairD p))=decide (p∈jz):=by
 induction jz with
 | nil=>rfl
 | cons q r ih =>
  rw[List.map_cons,List.any_cons,ih]
  have:dH (pairD q) (pairD p)=decide (q=p):=by
   unfold pairD
   rw[dH,iM,iM,iM,mR,mR]
   obtain⟨a,b⟩:=q
   obtain⟨c,d⟩:=p
   by_cases h1:a=c<;>by_cases h2:b=d<;>simp[h1,h2]
  rw[this]
  by_cases h:q=p
  ·simp[h]
  ·have h2:¬ p=q:=fun z=>h z.symm
   simp[h,h2]
theorem yh:∀ jz:List Ar,dM (jz.map pairD)≤1
 | []=>by simp
 | p::r=>by
  have:=yh r
  rw[List.map_cons,oZ]
  have h:(pairD p).dep=1:=by simp[pairD]
  omega
end Mr
namespace Mr
open PySem Mi
def Rk(jz:List Ar):Prop:=∃ r:Str→Int,∀ p∈jz,r p.1 < r p.2
end Mr
namespace Mr
open PySem Mi
end Mr
namespace Mr
open PySem Mi
end Mr
namespace Mr
open PySem Mi
end Mr
namespace Mr
open PySem Mi
end Mr
namespace Mr
open PySem Mi
theorem yu(n:Nat)(x:Str):dw (n+1) [.d (.str x),.d (.str x)]=.ok (.d (.bl true)):=by
 show uK 2 4 (qJ (dw n)) _=_
 unfold qJ
 rw[pL]
 have c0:xf (cB (m1 (yq ["str"]) (mV 1))) (cB (m1 (yq ["int"]) (mV 1))) [some (.d (.str x)),some (.d (.str x)),none,none]=.ok true:=rfl
 have c1:xf (cB (m2 BK (m1 (yq ["bool"]) (mV 0)) (m1 (yq ["bool"]) (mV 1)))) (cB (m2 BK (m1 (yq ["str"]) (mV 0)) (m1 (yq ["str"]) (mV 1)))) [some (.d (.str x)),some (.d (.str x)),none,none]=.ok false:=rfl
 have c2:Ge (m1 (yq ["int", "str"]) (mV 0)) (m2 rQ (mV 0) (mV 1)) [some (.d (.str x)),some (.d (.str x)),none,none]=.ok (.bl true):=by
  show m2 rQ (mV 0) (mV 1) [some (.d (.str x)),some (.d (.str x)),none,none]=_
  exact(aG rfl rfl rfl).trans ((wZ x x).trans (by rw[decide_eq_true rfl]))
 exact(congrArg (fun r=>Rs.bind r tU) (jK ((gW c0).trans ((aK ((cI c1).trans rfl)).trans (dj (b8 c2)))))).trans rfl
theorem Kh{a:E}{e:Mi.Env}(h:a e=.ok (.bl true)):mF (cB a) e=.ok false:=by unfold mF;rw[cC h];rfl
end Mr
namespace Mr
open PySem Mi
theorem xg{a b:C}{e:Mi.Env}{p q:Bool}(ha:a e=.ok p)(hb:p=true→b e=.ok q):nF a b e=.ok (p && q):=by
 unfold nF;rw[ha,aA]
 cases p with
 | true=>rw[if_pos rfl,hb rfl];rfl
 | false=>rfl
theorem vP{a b:C}{e:Mi.Env}{p q:Bool}(ha:a e=.ok p)(hb:p=false→b e=.ok q):xf a b e=.ok (p || q):=by
 unfold xf;rw[ha,aA]
 cases p with
 | true=>rfl
 | false=>rw[if_neg Bool.false_ne_true,hb rfl];rfl
theorem Gz{a:C}{e:Mi.Env}{p:Bool}(ha:a e=.ok p):mF a e=.ok (!p):=by unfold mF;rw[ha];rfl
theorem Mx{a b:E}{e:Mi.Env}{p q:Bool}(ha:a e=.ok (.bl p))(hb:p=true→b e=.ok (.bl q)):Ge a b e=.ok (.bl (p && q)):=by
 unfold Ge;rw[ha,aA,qM,aA]
 cases p with
 | true=>rw[if_pos rfl,hb rfl];rfl
 | false=>rfl
theorem Ad{f:D→Option Int→Option Int→Rs D}{a b:E}{e:Mi.Env}{x:D}{i:Int}(h:a e=.ok x)(h':b e=.ok (.int i)):dY f a (some b) none e=f x (some i) none:=by unfold dY;rw[h,aA,show nO (some b) e=.ok (some i) from by rw[nO,h'];rfl];rfl
theorem vA{f:D→Option Int→Option Int→Rs D}{a b:E}{e:Mi.Env}{x:D}{i:Int}(h:a e=.ok x)(h':b e=.ok (.int i)):dY f a none (some b) e=f x none (some i):=by unfold dY;rw[h,aA,show nO (some b) e=.ok (some i) from by rw[nO,h'];rfl];rfl
theorem Ot(p q:Ar):dH (pairD p) (pairD q)=decide (p=q):=by
 obtain⟨a,b⟩:=p
 obtain⟨c,d⟩:=q
 unfold pairD
 rw[dH,iM,iM,iM,mR,mR]
 by_cases h:a=c<;>by_cases k:b=d<;>simp[h,k]
def eZ(jz:List Ar):D:=.lst (jz.map pairD)
theorem Dz(jz:List Ar)(p:Ar):Ja (pairD p) (eZ jz)=.ok (.bl (decide (p∈jz))):=by
 show aO _ _=_
 rw[aj (Nat.le_trans (yh jz) (by decide)),Up]
end Mr
namespace Mr
open PySem Mi
structure Nt(names:List Str)(jz:List Ar):Prop where
 nd:names.Nodup
 le:names.length≤8
 al:jz.length≤64
 inn:∀ p∈jz,p.1∈names∧p.2∈names
 rk:Rk jz
end Mr
namespace Mr
open PySem Mi
def srt(names:List Str)(jz:List Ar):List Ar:=names.flatMap fun t=>(names.filter fun h=>decide ((t,h)∈jz)).map fun h=>(t,h)
theorem Ro{xs:List Ar}{i:Int}(h0:0≤i)(h1:i < xs.length):∃ p,p∈xs∧dU (eZ xs) (.int i)=.ok (pairD p):=by
 have hk:i.toNat < xs.length:=by omega
 refine⟨xs[i.toNat],List.getElem_mem hk,?_⟩
 show wg (yN (xs.map pairD) i)=_
 unfold yN Cz
 rw[if_pos h0,List.length_map,if_pos h1]
 show wg ((xs.map pairD)[i.toNat]?)=_
 rw[List.getElem?_map,List.getElem?_eq_getElem hk];rfl
end Mr
namespace Mr
open PySem Mi
theorem G7:∀ ds:List D,o6 ds ds=ds.map fun d=>D.tup [d,d]
 | []=>rfl
 | d::r=>by rw[o6,G7 r];rfl
def sq(k:Bool)(ds:List D):D:=if k then .lst ds else .tup ds
theorem xu{F:Fn}(k:Bool)(ds:List D)(h:∀ d∈ds,F [.d d,.d d]=.ok (.d (.bl true))):uK 2 4 (qJ F) [.d (sq k ds),.d (sq k ds)]=.ok (.d (.bl true)):=by
 unfold qJ
 rw[pL]
 have c0:xf (cB (m1 (yq ["str"]) (mV 1))) (cB (m1 (yq ["int"]) (mV 1))) [some (.d (sq k ds)),some (.d (sq k ds)),none,none]=.ok false:=by cases k<;>rfl
 have c1:xf (cB (m2 BK (m1 (yq ["list"]) (mV 0)) (m1 (yq ["list"]) (mV 1)))) (mF (cB (m1 (yq ["list", "tuple"]) (mV 0)))) [some (.d (sq k ds)),some (.d (sq k ds)),none,none]=.ok false:=by cases k<;>rfl
 have c2:cB (m2 BK (mN cZ [(mV 0)]) (mN cZ [(mV 1)])) [some (.d (sq k ds)),some (.d (sq k ds)),none,none]=.ok false:=by
  cases k<;>exact cC ((aG rfl rfl rfl).trans ((Wf _ _).trans (by rw[decide_eq_true rfl];rfl)))
 obtain⟨e',f1,o2,o3,he⟩:=nW (tg:=.t [2,3]) (body:=(fL (mF (cB (bh F [(wD (mV 2)),(wD (mV 3))]))) (cY (wD (mC (.bl false)))) aX))
  (fun i e=>∃ o2 o3:Option W,e=[some (.d (sq k ds)),some (.d (sq k ds)),o2,o3]) (ds.map fun d=>D.tup [d,d]) 0 (fun i d e hi ⟨o2,o3,he⟩=>by
   subst he
   rw[List.getElem?_map] at hi
   obtain⟨x,hx,rfl⟩:=Option.map_eq_some_iff.mp hi
   have ct:mF (cB (bh F [(wD (mV 2)),(wD (mV 3))])) [some (.d (sq k ds)),some (.d (sq k ds)),some (.d x),some (.d x)]=.ok false:=Kh (call2 rfl rfl (h x (List.mem_of_getElem? hx)))
   exact⟨[some (.d (sq k ds)),some (.d (sq k ds)),some (.d x),some (.d x)],_,rfl,(cI ct).trans rfl,_,_,rfl⟩) [some (.d (sq k ds)),some (.d (sq k ds)),none,none] ⟨none,none,rfl⟩
 subst he
 have hit:KJ (mV 0) (mV 1) [some (.d (sq k ds)),some (.d (sq k ds)),none,none]=.ok (ds.map fun d=>D.tup [d,d]):=by rw[← G7];cases k<;>rfl
 exact(congrArg (fun r=>Rs.bind r tU) ((aK ((cI c0).trans rfl)).trans ((aK ((cI c1).trans rfl)).trans ((aK ((cI c2).trans rfl)).trans ((aK ((lC hit).trans f1)).trans (dj (b8 rfl))))))).trans rfl
theorem Lg(n:Nat)(p:Ar):dw (n+2) [.d (pairD p),.d (pairD p)]=.ok (.d (.bl true)) :=
 xu (F:=dw (n+1)) false [.str p.1,.str p.2] fun d hd=>by
  rcases List.mem_cons.mp hd with rfl|hd
  ·exact yu n _
  ·rw[List.mem_singleton.mp hd];exact yu n _
theorem Dj:∀ xs ys:List Ar,iM (xs.map pairD) (ys.map pairD)=decide (xs=ys)
 | [],[]=>rfl
 | [],y::r=>by simp[iM]
 | x::r,[]=>by simp[iM]
 | x::r,y::t=>by
  rw[List.map_cons,List.map_cons,iM,Ot,Dj r t]
  by_cases h:x=y<;>by_cases k:r=t<;>simp[h,k]
theorem rW.nt{names:List Str}{A:List Ix}{r:Nat→Int}(N:rW names A r):Nt names (A.map (arrOf names)) :=
 ⟨N.nd,N.le,N.uD.al,fun p hp=>by
  obtain⟨q,hq,rfl⟩:=List.mem_map.mp hp
  exact⟨nR (N.all q hq).1,nR (N.all q hq).2.1⟩,N.uD.rk⟩
end Mr
namespace Mr
open PySem Mi
theorem wQ:∀ a b:List Int,sE a b=true→sE b a=true→False
 | [],[],h,_=>by cases h
 | [],_::_,_,h=>by cases h
 | _::_,[],h,_=>by cases h
 | a::r,b::t,h,k=>by
  rw[sE] at h k
  by_cases e:a=b
  ·subst e
   rw[if_pos (beq_self_eq_true a)] at h k
   exact wQ r t h k
  ·rw[if_neg (by simpa using e)] at h
   rw[if_neg (by simpa using Ne.symm e)] at k
   simp at h k;omega
theorem Sx{a b:Int}{r t:List Int}(h:a < b):sE (a::r) (b::t)=true:=by
 rw[sE,if_neg (by simp;omega)]
 simpa using h
theorem VL{a:Int}{r t:List Int}:sE (a::r) (a::t)=sE r t:=by
 rw[sE,if_pos (beq_self_eq_true a)]
section
variable{α : Type}(key:α→List Int)
theorem Dm:∀ {a b:List α},(∀ x,x∈a↔x∈b)→a.Pairwise (fun x y=>sE (key x) (key y)=true)→b.Pairwise (fun x y=>sE (key x) (key y)=true)→a=b
 | [],[],_,_,_=>rfl
 | [],y::t,h,_,_=>absurd ((h y).mpr List.mem_cons_self) (by simp)
 | x::r,[],h,_,_=>absurd ((h x).mp List.mem_cons_self) (by simp)
 | x::r,y::t,h,ha,hb=>by
  have ha':=List.pairwise_cons.mp ha
  have hb':=List.pairwise_cons.mp hb
  have e:x=y:=by
   rcases List.mem_cons.mp ((h x).mp List.mem_cons_self) with z|z
   ·exact z
   ·rcases List.mem_cons.mp ((h y).mpr List.mem_cons_self) with z2|z2
    ·exact z2.symm
    ·exact(wQ _ _ (hb'.1 x z) (ha'.1 y z2)).elim
  subst e
  have nr:x∉r:=fun z=>wQ _ _ (ha'.1 x z) (ha'.1 x z)
  have nt:x∉t:=fun z=>wQ _ _ (hb'.1 x z) (hb'.1 x z)
  rw[Dm (a:=r) (b:=t) (fun z=>⟨fun hz=>?_,fun hz=>?_⟩) ha'.2 hb'.2]
  ·rcases List.mem_cons.mp ((h z).mp (List.mem_cons_of_mem _ hz)) with q|q
   ·exact absurd (q ▸ hz) nr
   ·exact q
  ·rcases List.mem_cons.mp ((h z).mpr (List.mem_cons_of_mem _ hz)) with q|q
   ·exact absurd (q ▸ hz) nt
   ·exact q
theorem Ow{kz:List (List Int)}(nd:kz.Nodup):(yS kz kz.length).Perm (List.range kz.length)∧(yS kz kz.length).Pairwise (fun i j=>sE (kz.getD i []) (kz.getD j [])=true):=by
 have O:=So.Gf nd
 have e:yS kz kz.length=sortI (So.VF kz) (List.range kz.length):=by
  unfold yS So.VF
  congr 1
  funext i j
  exact(So.Gg _ _).symm
 rw[e]
 refine⟨So.p6 _ _,(So.sS O (fun x hx=>by simpa using hx) List.nodup_range).imp fun {i j} h=>?_⟩
 rw[← So.Gg];exact h
theorem Od[Inhabited α](f:α→D){xs ys:List α}(nd:(xs.map key).Nodup)(hm:∀ a,a∈xs↔a∈ys)(hs:ys.Pairwise fun a b=>sE (key a) (key b)=true):sortBy (xs.map key) (xs.map f)=ys.map f:=by
 obtain⟨h1,h2⟩:=Ow nd
 rw[List.length_map] at h1 h2
 have lt:∀ i∈yS (xs.map key) xs.length,i < xs.length:=fun i hi=>by simpa using h1.mem_iff.mp hi
 have gd:∀ i,i < xs.length→∀ (β : Type) (g:α→β) (d:β),(xs.map g).getD i d=g (xs.getD i default):=fun i hi β g d=>by simp[hi]
 have e:sortBy (xs.map key) (xs.map f)=((yS (xs.map key) xs.length).map fun i=>xs.getD i default).map f:=by
  unfold sortBy
  rw[List.length_map,List.map_map]
  exact List.map_congr_left fun i hi=>gd i (lt i hi) _ f _
 have e2 : ((yS (xs.map key) xs.length).map fun i => xs.getD i default) = ys := by
  refine Dm key (fun a=>?_) ?_ hs
  ·rw[← hm a,List.mem_map]
   constructor
   ·rintro ⟨i,hi,rfl⟩
    have:=lt i hi
    rw[List.getD_eq_getElem?_getD,List.getElem?_eq_getElem this]
    exact List.getElem_mem this
   ·intro ha
    obtain⟨i,hi,rfl⟩:=List.getElem_of_mem ha
    exact⟨i,h1.mem_iff.mpr (List.mem_range.mpr hi),by simp[hi]⟩
  ·rw[List.pairwise_map]
   refine h2.imp_of_mem fun {i j} hi hj h=>?_
   rw[gd i (lt i hi) _ key,gd j (lt j hj) _ key] at h
   exact h
 rw[e,e2]
end
theorem Jt:∀ l:List Int,Cd (l.map D.int)=some l
 | []=>rfl
 | i::r=>by rw[List.map_cons,Cd,Jt r];rfl
theorem MP{α : Type}{ρ : List Nat}{kf:E}{e:Mi.Env}(f:α→D)(key:α→List Int):∀ {xs:List α},(∀ x∈xs,kf (Gi ρ e (f x))=.ok (.lst ((key x).map D.int)))→qC ρ kf e (xs.map f)=.ok (xs.map key)
 | [],_=>rfl
 | x::r,h=>by
  rw[List.map_cons,qC,h x List.mem_cons_self,aA,Js,Jt,iy,aA,MP f key fun y hy=>h y (List.mem_cons_of_mem _ hy)]
  rfl
def ky(names row:List Str):List Int:=row.map fun x=>((names.idxOf x:Nat):Int)
theorem Ra{α : Type}[Inhabited α]{names:List Str}{nx:D}(hq:ZS nx=some names)(hn:names.length≤1000)(row:α→List Str){xs ys:List α}(hr:∀ x∈xs,(row x).length≤1000∧∀ y∈row x,y∈names)(h64:xs.length < 64)(nd:(xs.map fun x=>ky names (row x)).Nodup)
 (hm:∀ a,a∈xs↔a∈ys) (hs:ys.Pairwise fun a b=>sE (ky names (row a)) (ky names (row b))=true) :
 fV [.d nx,.d (.lst (xs.map fun x=>.tup ((row x).map D.str)))]=.ok (.d (.lst (ys.map fun x=>.tup ((row x).map D.str)))):=by
 unfold fV uY
 rw[KR]
 rw[show ([some (W.d nx),some (W.d (.lst (xs.map fun x=>.tup ((row x).map D.str))))]++List.replicate (2 - 2) none)=[some (W.d nx),some (W.d (.lst (xs.map fun x=>.tup ((row x).map D.str))))] from rfl]
 have hk:qC [0] (gr [some 1,none] (rF (mV 0)) (.n 1) jq (m2 T6 (mV 0) (mV 1))) [some (W.d nx),some (W.d (.lst (xs.map fun x=>.tup ((row x).map D.str))))] (xs.map fun x=>.tup ((row x).map D.str))=.ok (xs.map fun x=>ky names (row x)) :=
  MP (fun x=>.tup ((row x).map D.str)) (fun x=>ky names (row x)) fun x hx=>by
   have hc:gC (.n 1) jq (m2 T6 (mV 0) (mV 1)) [some (W.d nx),none] ((row x).map D.str)=.ok (((row x).filter fun _=>true).map fun y=>D.int ((names.idxOf y:Nat):Int)) :=
    iQ D.str (fun y=>D.int ((names.idxOf y:Nat):Int)) (fun _=>true) (row x) fun y hy=>⟨[some (W.d nx),some (W.d (.str y))],rfl,rfl,fun _=>aG (x:=nx) (y:=.str y) rfl rfl (by
     show ((wg (ZS nx)).bind fun ys=>aO (y∈ys∧ys.length≤1000) (Rs.ok (D.int ((ys.idxOf y:Nat):Int))))=_
     rw[hq,iy,aA]
     exact aj ⟨(hr x hx).2 y hy,hn⟩)⟩
   have hm:=gP (ρ:=[some 1,none]) (e:=Gi [0] [some (W.d nx),some (W.d (.lst (xs.map fun x=>.tup ((row x).map D.str))))] (.tup ((row x).map D.str))) (j7 (a:=mV 0) (x:=.tup ((row x).map D.str)) rfl rfl) (by rw[List.length_map];have:=(hr x hx).1;omega) hc
   rw[hm,List.filter_eq_self.mpr (fun _ _=>rfl)]
   show Rs.ok (D.lst _)=Rs.ok (D.lst ((ky names (row x)).map D.int))
   unfold ky
   rw[List.map_map];rfl
 have hS:Gb [0] (mV 1) (gr [some 1,none] (rF (mV 0)) (.n 1) jq (m2 T6 (mV 0) (mV 1))) [some (W.d nx),some (W.d (.lst (xs.map fun x=>.tup ((row x).map D.str))))]=.ok (.lst (ys.map fun x=>.tup ((row x).map D.str))):=by
  unfold Gb
  rw[show mV 1 [some (W.d nx),some (W.d (.lst (xs.map fun x=>.tup ((row x).map D.str))))]=.ok (.lst (xs.map fun x=>.tup ((row x).map D.str))) from rfl,aA]
  rw[show iV (.lst (xs.map fun x=>.tup ((row x).map D.str)))=.ok (xs.map fun x=>.tup ((row x).map D.str)) from rfl,aA,aj (by rw[List.length_map];exact h64),hk,aA,aj nd,Od (fun x=>ky names (row x)) _ nd hm hs]
 rw[dj (b8 hS)];rfl
end Mr
namespace Mr
open PySem Mi
theorem Nb{names:List Str}(nd:names.Nodup){i:Nat}(hi:i < names.length):names.idxOf (nth names i)=i:=by
 have e:nth names i=names[i]:=by unfold nth;rw[List.getD_eq_getElem?_getD,List.getElem?_eq_getElem hi];rfl
 rw[e];exact nd.idxOf_getElem i hi
theorem Nf{names:List Str}{x y:Str}(hx:x∈names)(hy:y∈names)(h:names.idxOf x=names.idxOf y):x=y:=by
 have h1:=List.getElem_idxOf (List.idxOf_lt_length_iff.mpr hx)
 have h2:=List.getElem_idxOf (List.idxOf_lt_length_iff.mpr hy)
 rw[← h1,← h2]
 congr 1
def tr(t:Tr3):List Str:=[t.1,t.2.1,t.2.2]
theorem HW{α : Type}[DecidableEq α]:∀ {l L:List α},l.Nodup→(∀ x∈l,x∈L)→l.length≤L.length
 | [],_,_,_=>Nat.zero_le _
 | x::r,L,nd,h=>by
  have nd':=List.nodup_cons.mp nd
  have hx:=h x List.mem_cons_self
  have:=HW (l:=r) (L:=L.erase x) nd'.2 fun y hy=>(List.mem_erase_of_ne (fun z:y=x=>nd'.1 (z ▸ hy))).mpr (h y (List.mem_cons_of_mem _ hy))
  rw[List.length_erase_of_mem hx] at this
  have:=List.length_pos_of_mem hx
  rw[List.length_cons];omega
end Mr
namespace Mr
open PySem Mi
theorem O5{a b:E}{e:Mi.Env}{x y:D}(h:a e=.ok x)(h':b e=.ok y):mN ie [a,b] e=.ok (.lst [x,y]):=by
 unfold mN;rw[jj,h,aA,jj,h',aA];rfl
theorem Gs{a:E}{e:Mi.Env}{x:D}(h:a e=.ok x):qe a e=.ok (.nx e):=by unfold qe;rw[h];rfl
end Mr
namespace Mr
open PySem Mi
open My (words xF dZ)
theorem Eg:("abcdefghijklmnopqrstuvwxyz" : Str).cps.toList=(List.range 26).map (· + 97):=by decide +kernel
theorem Jc{a b c:E}{e:Mi.Env}{i j k:Int}(ha:a e=.ok (.int i))(hb:b e=.ok (.int j))(hc:c e=.ok (.int k))(h1:i≤j)(h2:j≤k):iI G5 G5 a b c e=.ok (.bl true):=by
 unfold iI
 rw[ha,aA,hb,aA]
 show (Rs.ok (D.bl (decide (i≤j)))).bind _=_
 rw[decide_eq_true h1,aA,qM,aA,if_pos rfl,hc,aA]
 show Rs.ok (D.bl (decide (j≤k)))=_
 rw[decide_eq_true h2]
theorem U9{l:List Nat}(hw:xF l):dB [.d (.str (S' l))]=.ok (.d (.bl true)):=by
 unfold dB yp
 rw[CG]
 rw[show ([some (W.d (.str (S' l)))]++List.replicate (1 - 1) none)=[some (W.d (.str (S' l)))] from rfl]
 obtain⟨h1,h8,hl⟩:=hw
 have hc:gC (.n 0) jq (m2 Ja (mV 0) (mC (.str "abcdefghijklmnopqrstuvwxyz"))) [none] (l.map fun c=>D.str (S' [c]))=.ok ((l.filter fun _=>true).map fun c=>D.bl ((fun _=>true) c)) :=
  iQ (fun c=>D.str (S' [c])) (fun c=>D.bl ((fun _=>true) c)) (fun _=>true) l fun c hcl=>⟨[some (.d (.str (S' [c])))],rfl,rfl,fun _=>aG (x:=.str (S' [c])) rfl rfl (by
   show aO ((S' [c]).length=1) (Rs.ok (D.bl (decide ((S' [c]).cps.getD 0 0∈("abcdefghijklmnopqrstuvwxyz" : Str).cps.toList))))=_
   have hm:(S' [c]).cps.getD 0 0∈("abcdefghijklmnopqrstuvwxyz" : Str).cps.toList:=by
    rw[Eg]
    have:=hl c hcl
    exact List.mem_map.mpr ⟨c - 97,List.mem_range.mpr (by omega),by show c - 97+97=c;omega⟩
   rw[aj (by rw[jh];rfl),decide_eq_true hm])⟩
 rw[List.filter_eq_self.mpr (fun _ _=>rfl)] at hc
 have h2:mN Lb [(gr [none] (rF (mV 0)) (.n 0) jq (m2 Ja (mV 0) (mC (.str "abcdefghijklmnopqrstuvwxyz"))))] [some (W.d (.str (S' l)))]=.ok (.bl true):=by
  refine(jR (gP (ρ:=[none]) (j7 (a:=mV 0) (x:=.str (S' l)) rfl rfl) (by rw[List.length_map,zQ];omega) hc)).trans ?_
  rw[Ef,Ce,iy,aA,List.all_map]
  show Rs.ok (D.bl (l.all fun _=>true))=_
  rw[List.all_eq_true.mpr (fun _ _=>rfl)]
 have h3:iI G5 G5 (mC (.int 1)) (mN cZ [(mV 0)]) (mC (.int 8)) [some (W.d (.str (S' l)))]=.ok (.bl true):=Jc (j:=((l.length:Nat):Int)) rfl ((jR (x:=.str (S' l)) rfl).trans (by rw[Ii,aj (by rw[jh];omega),jh])) rfl (by omega) (by omega)
 rw[dj (b8 (Mx h3 fun _=>h2))];rfl
theorem J3{names asked:List Str}(h:∀ x∈asked,x∈names):bM [.d (aC names),.d (aC asked)]=.ok (.d .non):=by
 unfold bM j8
 rw[pL]
 obtain⟨e',f1,o2,he⟩:=nW (tg:=.n 2) (body:=(fL (cB (m2 fZ (mV 2) (mV 0))) jY aX))
  (fun i e=>∃ o2:Option W,e=[some (.d (aC names)),some (.d (aC asked)),o2]) (asked.map D.str) 0 (fun i d e hi ⟨o2,he⟩=>by
   subst he
   rw[List.getElem?_map] at hi
   obtain⟨x,hx,rfl⟩:=Option.map_eq_some_iff.mp hi
   refine⟨[some (.d (aC names)),some (.d (aC asked)),some (.d (.str x))],[some (.d (aC names)),some (.d (aC asked)),some (.d (.str x))],rfl,?_,_,rfl⟩
   exact(cI (cC (aG rfl rfl ((jw names x).trans (by rw[decide_eq_true (h x (List.mem_of_getElem? hx))];rfl))))).trans rfl) [some (.d (aC names)),some (.d (aC asked)),none] ⟨none,rfl⟩
 subst he
 rw[show ([some (W.d (aC names)),some (W.d (aC asked))]++List.replicate (3 - 2) none)=[some (W.d (aC names)),some (W.d (aC asked)),none] from rfl]
 rw[lC (j7 (x:=aC asked) rfl rfl),f1]
 rfl
theorem QF{α : Type}{l:List α}(nd:l.Nodup){i:Nat}{x:α}(hx:l[i]? = some x):x∉l.take i:=fun z=>by
 obtain⟨il,hxe⟩:=List.getElem?_eq_some_iff.mp hx
 obtain⟨j,hj⟩:=List.getElem?_of_mem z
 have hj2:=(List.getElem?_eq_some_iff.mp hj).1
 rw[List.length_take] at hj2
 rw[List.getElem?_take_of_lt (by omega)] at hj
 obtain⟨jl,hje⟩:=List.getElem?_eq_some_iff.mp hj
 have:=(List.getElem_inj nd).mp (hje.trans hxe.symm)
 omega
theorem zW{names:List Str}(h1:1≤names.length)(h8:names.length≤8)(nd:names.Nodup)(hw:∀ x∈names,dB [.d (.str x)]=.ok (.d (.bl true))):eV [.d (aC names)]=.ok (.d .non):=by
 unfold eV m7
 rw[CG]
 obtain⟨e',f1,o2,he⟩:=nW (tg:=.n 2) (body:=(aV (fL (mF (cB (bh dB [(wD (mV 2))])))
 jY
 aX)
 (aV (fL (cB (qy 1 (mV 2)))
 jY
 aX)
 (iK 1 (mV 2) (mC (.bl true))))))
  (fun i e=>∃ o2:Option W,e=[some (.d (aC names)),some (yI (names.take i)),o2]) (names.map D.str) 0 (fun i d e hi ⟨o2,he⟩=>by
   subst he
   rw[Nat.zero_add]
   rw[List.getElem?_map] at hi
   obtain⟨x,hx,rfl⟩:=Option.map_eq_some_iff.mp hi
   have hn:=QF nd hx
   refine⟨[some (.d (aC names)),some (yI (names.take i)),some (.d (.str x))],[some (.d (aC names)),some (yI (names.take (i+1))),some (.d (.str x))],rfl,?_,_,rfl⟩
   rw[aK (e':=[some (.d (aC names)),some (yI (names.take i)),some (.d (.str x))]) ((cI (Kh (BR rfl (hw x (List.mem_of_getElem? hx))))).trans rfl)]
   rw[aK (e':=[some (.d (aC names)),some (yI (names.take i)),some (.d (.str x))]) ((cI (cC ((Xj (y:=x) (fs:=names.take i) rfl rfl).trans (by rw[decide_eq_false hn])))).trans rfl)]
   rw[TV (y:=x) (fs:=names.take i) rfl rfl hn (by rw[List.length_take];omega)]
   rw[List.take_succ,hx];rfl) [some (.d (aC names)),some (yI []),none] ⟨none,rfl⟩
 subst he
 rw[show ([some (W.d (aC names))]++List.replicate (3 - 1) none)=[some (W.d (aC names)),none,none] from rfl]
 have hl:mN cZ [(mV 0)] [some (W.d (aC names)),none,none]=.ok (.int ((names.length:Nat):Int)):=(jR (x:=aC names) rfl).trans (by show Rs.ok (D.int (((names.map D.str).length:Nat):Int))=_;rw[List.length_map])
 rw[aK ((cI (Kh (Jc (i:=1) (k:=8) rfl hl rfl (by omega) (by omega)))).trans rfl)]
 rw[aK (e':=[some (.d (aC names)),some (yI []),none]) rfl]
 rw[lC (j7 (x:=aC names) rfl rfl),f1]
 rfl
def S6(p:Ar):List Ky:=[.inr p.1,.inr p.2]
theorem MJ{p q:Ar}(h:S6 p=S6 q):p=q:=by
 obtain⟨a,b⟩:=p
 obtain⟨c,d⟩:=q
 simp only[S6,List.cons.injEq,Sum.inr.injEq,and_true] at h
 rw[h.1,h.2]
def K1(ps:List Ar):W:=.dt (ps.map fun p=>(S6 p,D.bl true))
theorem ab6(ps:List Ar)(p:Ar):(Cv (ps.map fun p=>(S6 p,D.bl true)) (S6 p)).isSome=decide (p∈ps):=by
 unfold Cv
 induction ps with
 | nil=>rfl
 | cons a r ih =>
  rw[List.map_cons,List.find?_cons]
  by_cases h:a=p
  ·subst h;simp
  ·rw[decide_eq_false (fun z:S6 a=S6 p=>h (MJ z))]
   simp only[ih]
   simp[Ne.symm h]
theorem Xi{i:Nat}{k:E}{e:Mi.Env}{ps:List Ar}{p:Ar}(hk:k e=.ok (pairD p))(hw:wV i e=.ok (K1 ps)):qy i k e=.ok (.bl (decide (p∈ps))):=by
 unfold qy;rw[hk,aA,hw,aA,← ab6];rfl
theorem Gu{i:Nat}{k:E}{e:Mi.Env}{ps:List Ar}{p:Ar}(hk:k e=.ok (pairD p))(hw:wV i e=.ok (K1 ps))(hn:p∉ps)(hl:ps.length≤1000):iK i k (mC (.bl true)) e=.ok (.nx (e.set i (some (K1 (ps++[p]))))):=by
 unfold iK
 have h1:ZD (K1 ps) (pairD p) (.bl true)=.ok (K1 (ps++[p])):=by
  show aO ((ps.map fun p=>(S6 p,D.bl true)).length < 16777216) (Rs.ok (W.dt (Mi.putK (S6 p) (.bl true) (ps.map fun p=>(S6 p,D.bl true)))))=_
  rw[aj (by rw[List.length_map];omega)]
  unfold Mi.putK
  rw[if_neg (by
   rw[List.any_map,Bool.not_eq_true,List.any_eq_false]
   intro z hz
   simp only[Function.comp,decide_eq_true_eq]
   exact fun q=>hn (MJ q ▸ hz))]
  unfold K1
  rw[List.map_append];rfl
 rw[show mC (.bl true) e=.ok (.bl true) from rfl,aA,hk,aA,hw,aA,h1];rfl
def both(xs:List Ar):List Ar:=xs.flatMap fun p=>[p,(p.2,p.1)]
theorem wL{xs:List Ar}{q:Ar}:q∈both xs↔∃ p∈xs,q=p∨q=(p.2,p.1):=by
 unfold both
 simp[List.mem_flatMap]
theorem Jf(xs:List Ar):(both xs).length=2 * xs.length:=by
 induction xs with
 | nil=>rfl
 | cons a r ih=>unfold both at *;rw[List.flatMap_cons,List.length_append,ih];simp;omega
structure Apart(names:List Str)(xs:List Ar):Prop where
 inn:∀ p∈xs,p.1∈names∧p.2∈names
 irr:∀ p∈xs,p.1≠p.2
 pw:xs.Pairwise fun p q=>p≠q∧p≠(q.2,q.1)
theorem zV{names:List Str}{xs:List Ar}(P:Apart names xs)(hl:xs.length≤64):eU [.d (aC names),.d (eZ xs)]=.ok (.d .non):=by
 unfold eU m6
 rw[pL]
 obtain⟨e',f1,o3,o4,he⟩:=nW (tg:=.t [3,4]) (body:=(aV (qe (bh bM [(wD (mV 0)),(wD (mN ie [(mV 3),(mV 4)]))]))
 (aV (fL (cB (m2 rQ (mV 3) (mV 4)))
 jY
 aX)
 (aV (fL (cB (qy 2 (mN dTup [(mV 3),(mV 4)])))
 jY
 aX)
 (aV (iK 2 (mN dTup [(mV 3),(mV 4)]) (mC (.bl true)))
 (iK 2 (mN dTup [(mV 4),(mV 3)]) (mC (.bl true))))))))
  (fun i e=>∃ o3 o4:Option W,e=[some (.d (aC names)),some (.d (eZ xs)),some (K1 (both (xs.take i))),o3,o4]) (xs.map pairD) 0 (fun i d e hi ⟨o3,o4,he⟩=>by
   subst he
   rw[Nat.zero_add]
   rw[List.getElem?_map] at hi
   obtain⟨p,hp,rfl⟩:=Option.map_eq_some_iff.mp hi
   have hpm:=List.mem_of_getElem? hp
   have il:=(List.getElem?_eq_some_iff.mp hp).1
   have before:∀ q∈xs.take i,q≠p∧q≠(p.2,p.1):=fun q hq=>by
    obtain⟨j,hj⟩:=List.getElem?_of_mem hq
    have hj2:=(List.getElem?_eq_some_iff.mp hj).1
    rw[List.length_take] at hj2
    rw[List.getElem?_take_of_lt (by omega)] at hj
    obtain⟨jl,hje⟩:=List.getElem?_eq_some_iff.mp hj
    obtain⟨_,hpe⟩:=List.getElem?_eq_some_iff.mp hp
    have:=List.pairwise_iff_getElem.mp P.pw j i jl il (by omega)
    rw[hje,hpe] at this;exact this
   have n1:p∉both (xs.take i):=fun z=>by
    obtain⟨q,hq,e|e⟩:=wL.mp z
    ·exact(before q hq).1 e.symm
    ·exact(before q hq).2 (by rw[e])
   have n2:(p.2,p.1)∉both (xs.take i)++[p]:=fun z=>by
    rcases List.mem_append.mp z with z|z
    ·obtain⟨q,hq,e|e⟩:=wL.mp z
     ·exact(before q hq).2 e.symm
     ·exact(before q hq).1 (by rw[Prod.ext_iff] at e;simp at e;exact Prod.ext e.2.symm e.1.symm)
    ·have:=List.mem_singleton.mp z
     exact P.irr p hpm (congrArg Prod.snd this)
   have hb:(both (xs.take i)).length≤200:=by rw[Jf,List.length_take];omega
   have hst:bM [.d (aC names),.d (aC [p.1,p.2])]=.ok (.d .non):=J3 fun x hx=>by
    rcases List.mem_cons.mp hx with rfl|hx
    ·exact(P.inn p hpm).1
    ·rw[List.mem_singleton.mp hx];exact(P.inn p hpm).2
   refine⟨[some (.d (aC names)),some (.d (eZ xs)),some (K1 (both (xs.take i))),some (.d (.str p.1)),some (.d (.str p.2))],[some (.d (aC names)),some (.d (eZ xs)),some (K1 (both (xs.take (i+1)))),some (.d (.str p.1)),some (.d (.str p.2))],rfl,?_,_,_,rfl⟩
   rw[aK (Gs (call2 rfl (b8 (O5 rfl rfl)) hst))]
   rw[aK ((cI (cC (aG rfl rfl ((wZ p.1 p.2).trans (by rw[decide_eq_false (P.irr p hpm)]))))).trans rfl)]
   rw[aK ((cI (cC ((Xi (p:=p) (ps:=both (xs.take i)) (uN rfl rfl) rfl).trans (by rw[decide_eq_false n1])))).trans rfl)]
   rw[aK (Gu (p:=p) (ps:=both (xs.take i)) (uN rfl rfl) rfl n1 (by omega))]
   rw[Gu (p:=(p.2,p.1)) (ps:=both (xs.take i)++[p]) (uN rfl rfl) rfl n2 (by rw[List.length_append];simp;omega)]
   rw[List.take_succ,hp]
   unfold both
   rw[List.flatMap_append,List.append_assoc];rfl) [some (.d (aC names)),some (.d (eZ xs)),some (K1 (both [])),none,none] ⟨none,none,rfl⟩
 subst he
 rw[show ([some (W.d (aC names)),some (W.d (eZ xs))]++List.replicate (5 - 2) none)=[some (W.d (aC names)),some (W.d (eZ xs)),none,none,none] from rfl]
 rw[aK (e':=[some (.d (aC names)),some (.d (eZ xs)),some (K1 (both [])),none,none]) rfl]
 rw[lC (j7 (x:=eZ xs) rfl rfl),f1]
 rfl
theorem Vh{names:List Str}{jz:List Ar}(N:Qg names jz):jT [.d (kO names jz)]=.ok (.d .non):=by
 unfold jT uZ
 rw[CG]
 rw[show ([some (W.d (kO names jz))]++List.replicate (3 - 1) none)=[some (W.d (kO names jz)),none,none] from rfl]
 rw[aK (e':=[some (.d (kO names jz)),some (.d (aC (ord names jz names.length))),none]) (bC (BR rfl (KH N)))]
 have hc:gC (.n 1) (cB (m2 fZ (mV 1) (mV 0))) (mV 1) [some (.d (aC (ord names jz names.length))),none] (names.map D.str)=.ok ((names.filter fun x=>!decide (x∈ord names jz names.length)).map D.str) :=
  iQ D.str D.str (fun x=>!decide (x∈ord names jz names.length)) names fun x _=>⟨[some (.d (aC (ord names jz names.length))),some (.d (.str x))],rfl,cC (aG rfl rfl (jw _ x)),fun _=>rfl⟩
 rw[List.filter_eq_nil_iff.mpr (fun x hx=>by rw[decide_eq_true (N.Mq x hx)];simp)] at hc
 rw[aK (bC (gP (ρ:=[some 1,none]) (j7 (aG (a:=mV 0) (b:=mC (.int 0)) rfl rfl (ix0 names jz)) rfl) (by rw[List.length_map];have:=N.le;omega) hc))]
 rw[cI (c:=La (mV 2)) rfl]
 rfl
end Mr
namespace Mr
open PySem Mi
open My (words xF dZ)
def Z8(p:Ar):List Str:=[p.1,p.2]
theorem rW.sorted{names:List Str}{A:List Ix}{r:Nat→Int}(N:rW names A r):(A.map (arrOf names)).Pairwise fun p q=>sE (ky names (Z8 p)) (ky names (Z8 q))=true:=by
 rw[List.pairwise_map]
 refine List.Pairwise.imp_of_mem (fun {p q} hp hq h=>?_) N.srt
 have k:∀ x:Ix,x∈A→ky names (Z8 (arrOf names x))=[((x.1:Nat):Int),((x.2:Nat):Int)]:=fun x hx=>by
  obtain⟨h1,h2,_⟩:=N.all x hx
  show [((names.idxOf (nth names x.1):Nat):Int),((names.idxOf (nth names x.2):Nat):Int)]=_
  rw[Nb N.nd h1,Nb N.nd h2]
 rw[k p hp,k q hq]
 rcases h with h|⟨h1,h2⟩
 ·exact Sx (Int.ofNat_lt.mpr h)
 ·rw[h1,VL];exact Sx (Int.ofNat_lt.mpr h2)
theorem rW.apart{names:List Str}{A:List Ix}{r:Nat→Int}(N:rW names A r):Apart names (A.map (arrOf names)):=by
 refine⟨fun p hp=>?_,fun p hp=>?_,?_⟩
 ·obtain⟨q,hq,rfl⟩:=List.mem_map.mp hp
  exact⟨nR (N.all q hq).1,nR (N.all q hq).2.1⟩
 ·obtain⟨q,hq,rfl⟩:=List.mem_map.mp hp
  obtain⟨h1,h2,h3⟩:=N.all q hq
  intro z
  have:=uC N.nd h1 h2 z
  rw[this] at h3;omega
 ·rw[List.pairwise_map]
  refine List.Pairwise.imp_of_mem (fun {p q} hp hq h=>?_) N.srt
  obtain⟨h1,h2,h3⟩:=N.all p hp
  obtain⟨k1,k2,k3⟩:=N.all q hq
  refine⟨fun z=>?_,fun z=>?_⟩
  ·have e1:=uC N.nd h1 k1 (congrArg Prod.fst z)
   have e2:=uC N.nd h2 k2 (congrArg Prod.snd z)
   rcases h with h|⟨_,h⟩<;>omega
  ·have e1:=uC N.nd h1 k2 (congrArg Prod.fst z)
   have e2:=uC N.nd h2 k1 (congrArg Prod.snd z)
   rw[e1,e2] at h3;omega
theorem Apart.perm{names:List Str}{xs ys:List Ar}(P:Apart names ys)(h:xs.Perm ys):Apart names xs :=
 ⟨fun p hp=>P.inn p (h.mem_iff.mp hp),fun p hp=>P.irr p (h.mem_iff.mp hp),(h.pairwise_iff (fun {p q} z=>⟨z.1.symm,fun e=>z.2 (by rw[e])⟩)).mpr P.pw⟩
def abr:List Ix:=((List.range 64).map fun n=>(n / 8,n % 8)).filter fun p=>decide (p.1≠p.2)
theorem Ud:abr.length=56:=by decide +kernel
theorem rW.few{names:List Str}{A:List Ix}{r:Nat→Int}(N:rW names A r):A.length≤56:=by
 have nd:A.Nodup:=N.srt.imp fun {p q} h z=>by subst z;rcases h with h|⟨_,h⟩<;>omega
 have:=HW nd (L:=abr) fun p hp=>by
  obtain⟨h1,h2,h3⟩:=N.all p hp
  have hn:=N.le
  refine List.mem_filter.mpr ⟨List.mem_map.mpr ⟨p.1 * 8+p.2,List.mem_range.mpr (by omega),Prod.ext (by show (p.1 * 8+p.2) / 8=p.1;omega) (by show (p.1 * 8+p.2) % 8=p.2;omega)⟩,?_⟩
  exact decide_eq_true fun z=>by rw[z] at h3;omega
 rw[Ud] at this;exact this
theorem VD{names:List Str}{A:List Ix}{r:Nat→Int}(N:rW names A r)(hw:∀ x∈names,dB [.d (.str x)]=.ok (.d (.bl true))){xs:List Ar}(hp:xs.Perm (A.map (arrOf names))) :
 my [.d (aC names),.d (eZ xs)]=.ok (.d (kO names (A.map (arrOf names)))):=by
 have P:=N.apart.perm hp
 have hl:xs.length≤56:=by rw[hp.length_eq,List.length_map];exact N.few
 unfold my BW
 rw[pL]
 rw[show ([some (W.d (aC names)),some (W.d (eZ xs))]++List.replicate (4 - 2) none)=[some (W.d (aC names)),some (W.d (eZ xs)),none,none] from rfl]
 rw[aK (Gs (BR rfl (zW N.pos N.le N.nd hw)))]
 rw[aK (Gs (call2 rfl rfl (zV P (by omega))))]
 have hc:gC (.t [0,1]) jq (mN dTup [(mV 0),(mV 1)]) [none,none] (xs.map pairD)=.ok ((xs.filter fun _=>true).map pairD) :=
  iQ pairD pairD (fun _=>true) xs fun p _=>⟨[some (.d (.str p.1)),some (.d (.str p.2))],rfl,rfl,fun _=>uN rfl rfl⟩
 rw[List.filter_eq_self.mpr (fun _ _=>rfl)] at hc
 rw[aK (e':=[some (W.d (aC names)),some (W.d (eZ xs)),some (W.d (eZ xs)),none]) (bC (gP (ρ:=[none,none]) (j7 (x:=eZ xs) rfl rfl) (by rw[List.length_map];omega) hc))]
 have hs:fV [.d (aC names),.d (eZ xs)]=.ok (.d (eZ (A.map (arrOf names)))) :=
  Ra (nx:=aC names) (Jr names) (by have:=N.le;omega) Z8 (fun p hpx=>⟨by show 2≤1000;omega,fun y hy=>by
   simp only[Z8,List.mem_cons,List.not_mem_nil,or_false] at hy
   rcases hy with rfl|rfl
   ·exact(P.inn p hpx).1
   ·exact(P.inn p hpx).2⟩) (by omega) (by
    show List.Pairwise _ _
    rw[List.pairwise_map]
    refine List.Pairwise.imp_of_mem (fun {p q} hpx hqx h z=>h.1 ?_) P.pw
    simp only[ky,Z8,List.map_cons,List.map_nil,List.cons.injEq,and_true] at z
    exact Prod.ext (Nf (P.inn p hpx).1 (P.inn q hqx).1 (by omega)) (Nf (P.inn p hpx).2 (P.inn q hqx).2 (by omega))) (fun p=>hp.mem_iff) N.sorted
 rw[aK (e':=[some (W.d (aC names)),some (W.d (eZ xs)),some (W.d (eZ xs)),some (W.d (kO names (A.map (arrOf names))))])
  (bC (uN (x:=Uz names) (y:=arD (A.map (arrOf names))) ((jR (x:=aC names) rfl).trans rfl) ((jR (call2 rfl rfl hs)).trans rfl)))]
 rw[aK (Gs (BR rfl (Vh N.uD)))]
 rw[dj (b8 rfl)]
 rfl
theorem PX(names:List Str)(jz:List Ar):dw 4 [.d (kO names jz),.d (kO names jz)]=.ok (.d (.bl true)) :=
 xu (F:=dw 3) false [Uz names,arD jz] fun d hd=>by
  rcases List.mem_cons.mp hd with rfl|hd
  ·exact xu (F:=dw 2) false (names.map D.str) fun d hd=>by
    obtain⟨x,_,rfl⟩:=List.mem_map.mp hd
    exact yu 1 x
  ·rw[List.mem_singleton.mp hd]
   exact xu (F:=dw 2) false (jz.map pairD) fun d hd=>by
    obtain⟨p,_,rfl⟩:=List.mem_map.mp hd
    exact Lg 0 p
theorem K5(names:List Str)(xs:List Ar):BK (.lst [.lst (names.map D.str),.lst (xs.map pairD)]) (.lst [.lst (names.map D.str),.lst (xs.map pairD)])=.ok (.bl false):=by
 unfold BK
 rw[aj (by
  rw[Gv]
  have h1:=yh xs
  rw[oZ,oZ,Gv,Gv,K3,oJ];omega),dH,iM,iM,iM]
 rw[dH,dH,Dj,vG,decide_eq_true rfl,decide_eq_true rfl];rfl
end Mr
namespace Mr
open PySem Mi
def Sh(x:Str):Prop:=x.length≤100∧∀ c∈x.cps.toList,c < 128
theorem Sh.rep{x:Str}(h:Sh x):(PySem.reprText x).length≤100000:=by
 have h1:=PySem.StrLaws.reprText_len x fun c hc=>Nat.lt_trans (h.2 c hc) (by decide)
 have h2:=h.1
 omega
theorem BV{c:C}{e:Mi.Env}{b:Bool}(h:c e=.ok b):cP c e=.ok b:=Ab h
theorem Q6{m:S}{e:Mi.Env}{o:Out}(h:m e=.ok o):sP m e=.ok o:=Ab h
theorem Ng{m:I}{e:Mi.Env}{o:List D}(h:m e=.ok o):iP m e=.ok o:=Ab h
theorem qg{c:String}{gs:List (Mi.Env→Bool)}{e:Mi.Env}(h:(gs.all fun g=>g e)=true):iH c gs e=.ex ⟨c,[]⟩:=if_pos h
theorem sU{s t:S}{e:Mi.Env}{z:yR}(h:s e=.ex z):aV s t e=.ex z:=by unfold aV;rw[h];rfl
theorem ym{f:Fn}{a b:EW}{e:Mi.Env}{x y:W}{z:yR}(h:a e=.ok x)(h':b e=.ok y)(hf:f [x,y]=.ex z):jr f [a,b] e=.ex z:=by
 unfold jr
 rw[bQ,h,aA,bQ,h',aA,bQ,aA]
 show ((f [x,y]).bind fun _=>_)=_
 rw[hf];rfl
theorem Ir{i:Nat}{e:Mi.Env}{x:Str}(h:e[i]? = some (some (.d (.str x))))(s:Sh x):gR i e=true:=by
 unfold gR
 rw[h]
 exact decide_eq_true s.rep
abbrev xNo:yR:=⟨"NoName", []⟩
abbrev nn:D:=.lst [.str "NoName"]
theorem X5{i:Nat}{cs:List String}{b h:S}{e:Mi.Env}{z:yR}{o:Out}(hb:b e=.ex z)(hc:z.cls∈cs)(hh:h (e.set i (some (.ex z.cls)))=.ok o):Q4 i cs b h e=.ok (aaZ i o):=by
 unfold Q4
 rw[hb]
 show aO _ _=_
 rw[aj hc,hh];rfl
def uQ:Str := "zqxjkvbpygfwmucldrhsnioate"
theorem Ig:uQ.length=26:=by decide +kernel
theorem Ie:∀ c∈uQ.cps.toList,c < 128:=by decide +kernel
def jb(c:Nat):Str:=⟨#[c]⟩
def oX:List Str:=uQ.cps.toList.map jb
theorem qz:oX.length=26:=by decide +kernel
theorem Sq:oX.Nodup:=by decide +kernel
theorem Sg:∀ x∈oX,x≠Str.empty:=by decide +kernel
theorem FJ{c:Nat}(h:c < 128):Sh (jb c):=⟨by show 1≤100;omega,fun d hd=>by
 have:d∈[c]:=hd
 rw[List.mem_singleton.mp this];exact h⟩
theorem R9:∀ x∈oX,Sh x:=fun x hx=>by
 obtain⟨c,hc,rfl⟩:=List.mem_map.mp hx
 exact FJ (Ie c hc)
theorem Sh.cat{x y:Str}{k:Nat}(hx:x.length≤50)(hy:y.length≤50)(ax:∀ c∈x.cps.toList,c < 128)(ay:∀ c∈y.cps.toList,c < 128):Sh (x++y):=by
 have e:(x++y).cps.toList=x.cps.toList++y.cps.toList:=by show (x.cps++y.cps).toList=_;rw[Array.toList_append]
 refine⟨?_,fun c hc=>?_⟩
 ·show (x++y).cps.size≤100
  rw[← Array.length_toList,e,List.length_append,Array.length_toList,Array.length_toList]
  have h1:x.cps.size≤50:=hx
  have h2:y.cps.size≤50:=hy
  omega
 ·rw[e] at hc
  rcases List.mem_append.mp hc with h|h
  ·exact ax c h
  ·exact ay c h
theorem T8{α : Type}(xs:List α)(lo hi:Option Int):(lM xs lo hi).length≤xs.length:=by
 unfold lM
 rw[List.length_take,List.length_drop];omega
theorem w6{α : Type}{xs:List α}{lo hi:Option Int}{x:α}(h:x∈lM xs lo hi):x∈xs:=List.mem_of_mem_drop (List.mem_of_mem_take h)
theorem Sh.cut{x:Str}(h:Sh x)(lo hi:Option Int):Sh (f9 x lo hi):=by
 refine⟨?_,fun c hc=>h.2 c (w6 (show c∈lM x.cps.toList lo hi from hc))⟩
 show (lM x.cps.toList lo hi).toArray.size≤100
 rw[List.size_toArray]
 have h1:=T8 x.cps.toList lo hi
 have h3:x.cps.toList.length=x.cps.size:=Array.length_toList
 have h2:x.cps.size≤100:=h.1
 omega
theorem XM:∀ c,c < 128→∀ d∈Unicode.upperOf c,d < 128:=by decide +kernel
theorem Sh.up{x:Str}(h:x.length≤30)(a:∀ c∈x.cps.toList,c < 128):Sh (Qy x):=by
 have hl:(Qy x).length≤3 * x.length:=PyProof.Rows.len_upper x
 refine⟨by omega,fun c hc=>?_⟩
 have hc:c∈(PySem.placed x fun _ c=>Unicode.upperOf c).toList:=hc
 unfold PySem.placed at hc
 rw[Array.mem_toList_iff,Array.mem_flatten] at hc
 obtain⟨b,hb,hcb⟩:=hc
 obtain⟨i,hi,rfl⟩:=Array.mem_mapIdx.mp hb
 exact XM _ (a _ (by rw[Array.mem_toList_iff];exact Array.getElem_mem hi)) c (by simpa using hcb)
end Mr
namespace Mr
open PySem Mi
open My (words xF dZ)
theorem YK{a b c d g:E}{e:Mi.Env}{x y z u v:D}(h1:a e=.ok x)(h2:b e=.ok y)(h3:c e=.ok z)(h4:d e=.ok u)(h5:g e=.ok v):mN ie [a,b,c,d,g] e=.ok (.lst [x,y,z,u,v]):=by
 unfold mN
 rw[jj,h1,aA,jj,h2,aA,jj,h3,aA,jj,h4,aA,jj,h5,aA];rfl
theorem Xo{f:Fn}{a b c g:EW}{e:Mi.Env}{x y z u:W}{d:D}(h:a e=.ok x)(h':b e=.ok y)(h'':c e=.ok z)(h3:g e=.ok u)(hf:f [x,y,z,u]=.ok (.d d)):bh f [a,b,c,g] e=.ok d:=by unfold bh nM;rw[bQ,h,aA,bQ,h',aA,bQ,h'',aA,bQ,h3];simp only[aA,bQ,hf,xr]
theorem qF{tg:Tg}{b:S}{d:D}{r:List D}{e e0 e1:Mi.Env}{o:Rs Out}(hp:tg.put d e=.ok e0)(hb:b e0=.ok (.nx e1))(t:kW tg b r e1=o):kW tg b (d::r) e=o:=by
 rw[kW,hp,aA,hb,aA];exact t
theorem aa6{f:D→Rs D}{a:E}{e:Mi.Env}{x:D}(h:a e=.ok x):m1 f a e=f x:=by unfold m1;rw[h];rfl
theorem M4{i:Int}(h0:0≤i)(h1:i < 26):∃ c,c < 128∧dU (.str uQ) (.int i)=.ok (.str (jb c)):=by
 have hl:(uQ.cps.toList.length:Int)=26:=by
  have:=Ig
  rw[Array.length_toList]
  exact congrArg Int.ofNat this
 have hi:i < (uQ.cps.toList.length:Int):=by rw[hl];exact h1
 have ha:=Jp (xs:=uQ.cps.toList) h0 hi 0
 refine⟨uQ.cps.toList.getD i.toNat 0,Ie _ ?_,?_⟩
 ·have hn:i.toNat < uQ.cps.toList.length:=by omega
  rw[List.getD_eq_getElem?_getD,List.getElem?_eq_getElem hn]
  exact List.getElem_mem hn
 ·show aO _ _=_
  rw[aj (by rw[Ig];decide),ha];rfl
theorem Hj{names:List Str}(hp:1≤names.length)(h8:names.length≤8)(hs:∀ x∈names,x.length≤8∧∀ c∈x.cps.toList,c < 128)(d:Int):∃ x,dI [.d (aC names),.d (.int d)]=.ok (.d (.str x))∧x∉names∧Sh x:=by
 have q0:=Int.emod_nonneg d (b:=(names.length:Int)) (by omega)
 have q1:=Int.emod_lt_of_pos d (b:=(names.length:Int)) (by omega)
 have hone:=zA (cs:=names) q0 q1
 obtain⟨one,e1⟩ : ∃ one,one=names.getD (d % (names.length:Int)).toNat Str.empty:=⟨_,rfl⟩
 have mo1:one∈names:=by rw[e1];exact nR (by omega)
 rw[← e1] at hone
 obtain⟨l1,a1⟩:=hs one mo1
 have s1:Sh one:=⟨by omega,a1⟩
 obtain⟨ca,va,xa⟩:=M4 (Int.emod_nonneg (d / 8) (b:=26) (by decide)) (Int.emod_lt_of_pos (d / 8) (b:=26) (by decide))
 obtain⟨cb,vb,xb⟩:=M4 (Int.emod_nonneg (d / 5) (b:=26) (by decide)) (Int.emod_lt_of_pos (d / 5) (b:=26) (by decide))
 have pa:=(FJ va).2
 have pb:=(FJ vb).2
 have l1':one.length≤50:=by omega
 have o50:∀ c,(jb c).length≤50:=fun c=>by show 1≤50;omega
 obtain⟨ts,ets⟩ : ∃ ts:List Str,ts=[one++jb ca,f9 one (some 1) none,f9 one none (some (-1)),jb cb++one,Qy one]:=⟨_,rfl⟩
 have tsh:∀ x∈ts,Sh x:=fun x hx=>by
  rw[ets] at hx
  simp only[List.mem_cons,List.not_mem_nil,or_false] at hx
  rcases hx with rfl|rfl|rfl|rfl|rfl
  ·exact Sh.cat (k:=0) l1' (o50 _) a1 pa
  ·exact s1.cut _ _
  ·exact s1.cut _ _
  ·exact Sh.cat (k:=0) (o50 _) l1' pb a1
  ·exact Sh.up (by omega) a1
 have ts5:ts.length=5:=by rw[ets];rfl
 obtain⟨fs,efs⟩ : ∃ fs:List Str,fs=(ts++oX).filter fun t=>!decide (t∈names) && !decide (t=("" : Str)):=⟨_,rfl⟩
 have fin:∀ x∈fs,x∉names∧Sh x:=fun x hx=>by
  rw[efs] at hx
  obtain⟨h1,h2⟩:=List.mem_filter.mp hx
  rw[Bool.and_eq_true,Bool.not_eq_true',Bool.not_eq_true'] at h2
  refine⟨of_decide_eq_false h2.1,?_⟩
  rcases List.mem_append.mp h1 with h|h
  ·exact tsh x h
  ·exact R9 x h
 have fpos:1≤fs.length:=by
  rcases Nat.eq_zero_or_pos fs.length with h|h
  ·exfalso
   have all:∀ x∈oX,x∈names:=fun x hx=>by
    by_cases hn:x∈names
    ·exact hn
    ·have:x∈fs:=by
      rw[efs]
      refine List.mem_filter.mpr ⟨List.mem_append_right _ hx,?_⟩
      rw[decide_eq_false hn,decide_eq_false (show x≠("" : Str) from Sg x hx)];rfl
     rw[List.length_eq_zero_iff.mp h] at this
     exact nomatch this
   have:=jQ Sq all
   rw[qz] at this;omega
  ·exact h
 have flen:fs.length≤31:=by
  rw[efs]
  refine Nat.le_trans (List.length_filter_le _ _) ?_
  rw[List.length_append,ts5,qz];decide
 have mpos:0 < min (5:Int) (fs.length:Int):=by omega
 have z0:=Int.emod_nonneg (d / 3) (b:=min (5:Int) (fs.length:Int)) (by omega)
 have z1:=Int.emod_lt_of_pos (d / 3) (b:=min (5:Int) (fs.length:Int)) (by omega)
 have zix:=zA (cs:=fs) z0 (by omega)
 have zm:fs.getD (d / 3 % min (5:Int) (fs.length:Int)).toNat Str.empty∈fs:=nR (by omega)
 refine⟨fs.getD (d / 3 % min (5:Int) (fs.length:Int)).toNat Str.empty,?_,(fin _ zm).1,(fin _ zm).2⟩
 unfold dI xj
 rw[pL]
 rw[show ([some (W.d (aC names)),some (W.d (.int d))]++List.replicate (5 - 2) none)=[some (W.d (aC names)),some (W.d (.int d)),none,none,none] from rfl]
 have hlen:∀ e:Mi.Env,mV 0 e=.ok (aC names)→mN cZ [(mV 0)] e=.ok (.int (names.length:Int)):=fun e h=>(jR h).trans (by unfold aC;rw[yG,List.length_map])
 rw[aK (e':=[some (W.d (aC names)),some (W.d (.int d)),some (W.d (.str one)),none,none]) (bC (aG rfl (aG rfl (hlen _ rfl) ((gF _ _).trans (aj (by omega)))) hone))]
 rw[aK (e':=[some (W.d (aC names)),some (W.d (.int d)),some (W.d (.str one)),some (W.d (.str uQ)),none]) (bC rfl)]
 have dv:∀ (k:Int) (e:Mi.Env),0 < k→k < 2 ^ 64→mV 1 e=.ok (.int d)→m2 bI (m2 cJ (mV 1) (mC (.int k))) (mC (.int 26)) e=.ok (.int (d / k % 26)):=fun k e k0 k1 h=>aG (aG h rfl ((div_ii _ _).trans (aj (cz k0 k1)))) rfl ((gF _ _).trans (aj (by decide)))
 have five:=YK (e:=[some (W.d (aC names)),some (W.d (.int d)),some (W.d (.str one)),some (W.d (.str uQ)),none])
  (aG (a:=mV 2) (b:=m2 dU (mV 3) (m2 bI (m2 cJ (mV 1) (mC (.int 8))) (mC (.int 26)))) rfl (aG rfl (dv 8 _ (by decide) (by decide) rfl) xa) ((rH _ _).trans (aj (by have:=o50 ca;omega))))
  ((Ad (f:=kY) (a:=mV 2) (b:=mC (.int 1)) rfl rfl).trans ((Ae _ _ _).trans (aj (by omega))))
  ((vA (f:=kY) (a:=mV 2) (b:=m1 We (mC (.int 1))) rfl rfl).trans ((Ae _ _ _).trans (aj (by omega))))
  (aG (a:=m2 dU (mV 3) (m2 bI (m2 cJ (mV 1) (mC (.int 5))) (mC (.int 26)))) (b:=mV 2) (aG rfl (dv 5 _ (by decide) (by decide) rfl) xb) rfl ((rH _ _).trans (aj (by have:=o50 cb;omega))))
  ((aa6 (f:=K4) (a:=mV 2) (x:=.str one) rfl).trans (aj (by have:(Qy one).length≤3 * one.length:=PyProof.Rows.len_upper one;omega)))
 rw[show ([D.str (one++jb ca),.str (f9 one (some 1) none),.str (f9 one none (some (-1))),.str (jb cb++one),.str (Qy one)]:List D)=ts.map D.str from by rw[ets];rfl] at five
 rw[aK (e':=[some (W.d (aC names)),some (W.d (.int d)),some (W.d (.str one)),some (W.d (.str uQ)),some (W.d (aC ts))]) (bC five)]
 have cl:gC (.n 0) jq (mV 0) [none] (oX.map D.str)=.ok ((oX.filter fun _=>true).map D.str):=iQ D.str D.str (fun _=>true) _ fun t _=>⟨[some (.d (.str t))],rfl,rfl,fun _=>rfl⟩
 rw[List.filter_eq_self.mpr (fun _ _=>rfl)] at cl
 have hl5:=gP (ρ:=[none]) (e:=[some (W.d (aC names)),some (W.d (.int d)),some (W.d (.str one)),some (W.d (.str uQ)),some (W.d (aC ts))]) (it:=rF (mV 3)) (xs:=oX.map D.str) (j7 (a:=mV 3) (x:=.str uQ) rfl (by show Rs.ok _=_;unfold oX;rw[List.map_map];rfl)) (by rw[List.length_map,qz];decide) cl
 rw[aK (e':=[some (W.d (aC names)),some (W.d (.int d)),some (W.d (.str one)),some (W.d (.str uQ)),some (W.d (aC (ts++oX)))])
  (bC (aG (x:=aC ts) rfl hl5 ((ud _ _).trans ((aj (by rw[List.length_map,List.length_map,ts5,qz];decide)).trans (by unfold aC;rw[List.map_append])))))]
 have cf:gC (.n 1) (nF (cB (m2 fZ (mV 1) (mV 0))) (cB (m2 BK (mV 1) (mC (.str ""))))) (mV 1) [some (.d (aC names)),none] ((ts++oX).map D.str)=.ok (((ts++oX).filter fun t=>!decide (t∈names) && !decide (t=("" : Str))).map D.str) :=
  iQ D.str D.str _ _ fun t _=>⟨[some (.d (aC names)),some (.d (.str t))],rfl,xg (cC (aG rfl rfl (jw names t))) fun _=>cC (aG rfl rfl (Np t "")),fun _=>rfl⟩
 rw[← efs] at cf
 rw[aK (e':=[some (W.d (aC names)),some (W.d (.int d)),some (W.d (.str one)),some (W.d (.str uQ)),some (W.d (aC fs))])
  (bC (gP (ρ:=[some 0,none]) (j7 (a:=mV 4) (x:=aC (ts++oX)) rfl rfl) (by rw[List.length_map,List.length_append,ts5,qz];decide) cf))]
 have hln:∀ e:Mi.Env,mV 4 e=.ok (aC fs)→mN CQ [(mC (.int 5)),(mN cZ [(mV 4)])] e=.ok (.int (min (5:Int) (fs.length:Int))):=fun e h=>(HX rfl ((jR h).trans (by unfold aC;rw[yG,List.length_map]))).trans (Bj _ _)
 rw[dj (b8 (aG (x:=aC fs) rfl (aG (aG rfl rfl ((div_ii _ _).trans (aj (cz (by decide) (by decide))))) (hln _ rfl) ((gF _ _).trans (aj mpos))) zix))]
 rfl
end Mr
namespace Mr
open PySem Mi
open My (words xF dZ)
end Mr
namespace Mr
open PySem Mi
open My (words xF dZ)
theorem PL{f:Fn}{a b:EW}{e:Mi.Env}{x y w:W}(h:a e=.ok x)(h':b e=.ok y)(hf:f [x,y]=.ok w):jr f [a,b] e=.ok (.nx e):=by
 unfold jr
 rw[bQ,h,aA,bQ,h',aA,bQ,aA]
 show ((f [x,y]).bind fun _=>_)=_
 rw[hf];rfl
end Mr
namespace Mr
open PySem Mi
open My (words xF dZ)
end Mr
namespace Mr
open PySem Mi
open My (words xF dZ)
end Mr
namespace Mr
open PySem Mi
open My
theorem JP(c:Int)(m:Nat)(hm:m≤16)(c1:¬ c % 4 < 2):iB [.d (.int c),.d (.int (m:Int))]=.ok (.d (aC ((words c m).map S'))):=by
 unfold iB yo
 rw[KR]
 have hr8:okR 8:=lY (by decide) (by decide)
 have hrm:okR (m:Int):=lY (by omega) (by omega)
 have hl0:(PySem.Str.ofString "etaoinshrdlucmfwypvbgkqjxz")=cU:=rfl
 have g4:∀ r:Rs D,aO ((0:Int) < 4) r=r:=fun r=>aj (by decide)
 have g26:∀ r:Rs D,aO ((0:Int) < 26) r=r:=fun r=>aj (by decide)
 have g8:∀ r:Rs D,aO ((0:Int) < 8) r=r:=fun r=>aj (by decide)
 obtain⟨n,hn,hn8⟩:=size_of c
 obtain⟨t,ht,ht8⟩:=at_of c n
 have hrn:okR (n:Int):=lY (by omega) (by omega)
 have d4:qu 4:=cz (by decide) (by decide)
 have d32:qu 32:=cz (by decide) (by decide)
 have d256:qu 256:=cz (by decide) (by decide)
 have d7:qu 7:=cz (by decide) (by decide)
 have hstem:gC (.n 2) jq (m2 dU (mV 0) (m2 bI (m2 bU (m2 bU (m2 cJ (mV 1) (mC (.int 32))) (m2 dF (mC (.int 5)) (mV 2))) (m2 dF (mV 2) (mV 2))) (mC (.int 26)))) [some (.d (.str cU)),some (.d (.int c)),none] (dD 0 (n:Int))=.ok ((gq c n).map fun x=>D.str (S' [x])):=by
  rw[jx (fun k=>D.str (S' [oH (c / 32+5 * (k:Int)+(k:Int) * (k:Int))])) n fun k hk=>⟨[some (.d (.str cU)),some (.d (.int c)),some (.d (.int k))],rfl,by
   exact st2 _ _ _ (st1 c k d32 (jF (by decide) (by decide)) (HQ hk hn8)) rfl⟩]
  unfold gq
  rw[List.map_map];rfl
 have hp:qm [some 2,some 0,none] [some (.d (.int c)),some (.d (.int (m:Int))),some (.d (.str cU)),none,some (.d (.int (n:Int))),none,none]=[some (.d (.str cU)),some (.d (.int c)),none]:=rfl
 have hj:=vK (gq c n) (by rw[iw];omega)
 have hwn:(dD 0 (n:Int)).length≤16777216:=by rw[gU];omega
 have hwm:(dD 0 (m:Int)).length≤16777216:=by rw[gU];omega
 have hc:gC (.n 4) jq (m2 bU (m2 bU (dY kY (mV 0) none (some (mV 2))) (m2 dU (mV 1) (m2 bI (m2 bU (m2 cJ (mV 3) (mC (.int 7))) (m2 dF (mC (.int 5)) (mV 4))) (mC (.int 26))))) (dY kY (mV 0) (some (mV 2)) none))
  [some (.d (.str (S' (gq c n)))),some (.d (.str cU)),some (.d (.int (t:Int))),some (.d (.int c)),none] (dD 0 (m:Int))=.ok ((words c m).map fun l=>D.str (S' l)):=by
  rw[jx (fun k=>D.str (S' ((gq c n).take t++[oH (c / 7+5 * (k:Int))]++(gq c n).drop t))) m fun k hk=>⟨[some (.d (.str (S' (gq c n)))),some (.d (.str cU)),some (.d (.int (t:Int))),some (.d (.int c)),some (.d (.int k))],rfl,by
   have gS:∀ r:Rs D,aO ((S' (gq c n)).length≤16777216) r=r:=fun r=>aj (by rw[jh,iw];omega)
   have gM:∀ r:Rs D,aO (uV 5 (k:Int)) r=r:=fun r=>aj (jF (by decide) (by decide))
   simp only[Zo,Tn,Zn,Zm,Zk,Zj,Zi,Zh,Zg,mV,m1,m2,mN,jj,mC,Ge,mOr,YQ,YS,iI,nO,dY,cB,nF,xf,mF,La,jq,rF,ik,Gp,yH,Tf,Te,aV,bV,yE,Yi,qe,cY,Q5,fL,oA,xT,aX,dG,Fi,An,J1,Yj,J0,jZ,vB,Q7,iK,qy,Gd,R8,wD,wV,bQ,nM,bh,oG,dTup,ie,oM,rH,ud,K7,z9,xX,div_ii,gF,rO,tM,Il,Tp,R4,Zb,wR,Mv,Mu,RV,RT,yG,Sy,Ii,Bk,Bj,Ef,Ur,Kw,Kv,zj,Ez,Tc,Td,Yh,Ae,QW,zE,uG,Bl,qM,xq,xr,zN,QD,QC,Mg,Ri,all_nil,all_cons,Fx,Fy,zr,XS,XR,XQ,XX,X3,yq,getL,putL,aA,iy,CG,pL,V8,V7,V6,KR,Zu,Zt,List.map_cons,List.map_nil,List.length_cons,List.length_nil,List.cons_append,List.nil_append,List.replicate_succ,List.replicate_zero,List.getElem?_cons_zero,List.getElem?_cons_succ,List.set_cons_zero,List.set_cons_succ,Nat.reduceSub,Nat.reduceAdd,Nat.zero_add,aj d7,gS,gM,g26,wY,tZ,tX]
   rw[aj (by rw[jh,jh,List.length_take,iw];simp;omega)]
   simp only[Zo,Tn,Zn,Zm,Zk,Zj,Zi,Zh,Zg,mV,m1,m2,mN,jj,mC,Ge,mOr,YQ,YS,iI,nO,dY,cB,nF,xf,mF,La,jq,rF,ik,Gp,yH,Tf,Te,aV,bV,yE,Yi,qe,cY,Q5,fL,oA,xT,aX,dG,Fi,An,J1,Yj,J0,jZ,vB,Q7,iK,qy,Gd,R8,wD,wV,bQ,nM,bh,oG,dTup,ie,oM,rH,ud,K7,z9,xX,div_ii,gF,rO,tM,Il,Tp,R4,Zb,wR,Mv,Mu,RV,RT,yG,Sy,Ii,Bk,Bj,Ef,Ur,Kw,Kv,zj,Ez,Tc,Td,Yh,Ae,QW,zE,uG,Bl,qM,xq,xr,zN,QD,QC,Mg,Ri,all_nil,all_cons,Fx,Fy,zr,XS,XR,XQ,XX,X3,yq,getL,putL,aA,iy,CG,pL,V8,V7,V6,KR,Zu,Zt,List.map_cons,List.map_nil,List.length_cons,List.length_nil,List.cons_append,List.nil_append,List.replicate_succ,List.replicate_zero,List.getElem?_cons_zero,List.getElem?_cons_succ,List.set_cons_zero,List.set_cons_succ,Nat.reduceSub,Nat.reduceAdd,Nat.zero_add,Uv]
   rw[aj (by rw[jh,jh,List.length_append,List.length_take,List.length_drop,iw];simp;omega)]⟩]
  unfold words
  rw[if_neg c1,List.map_map,hn,ht]
  rfl
 have hmod:cB (m2 sG (m2 bI (mV 0) (mC (.int 4))) (mC (.int 2))) [some (.d (.int c)),some (.d (.int (m:Int))),some (.d (.str cU)),none,none,none,none]=.ok false :=
  cC ((aG (aG rfl rfl (g4 _)) rfl rfl).trans (by rw[rO,decide_eq_false c1]))
 show Rs.bind _ nA=_
 rw[aK (e':=[some (.d (.int c)),some (.d (.int (m:Int))),some (.d (.str cU)),none,none,none,none]) (bC rfl)]
 rw[aK (cI hmod)]
 rw[aK (e':=[some (.d (.int c)),some (.d (.int (m:Int))),some (.d (.str cU)),none,some (.d (.int (n:Int))),none,none]) (bC (d:=.int (n:Int)) ((aG (aG rfl rfl (aj d4)) rfl (g8 _)).trans (by rw[hn])))]
 rw[aK (e':=[some (.d (.int c)),some (.d (.int (m:Int))),some (.d (.str cU)),none,some (.d (.int (n:Int))),some (.d (.str (S' (gq c n)))),none]) (bC (aG rfl (gP (nq rfl hrn) hwn hstem) hj))]
 rw[aK (e':=[some (.d (.int c)),some (.d (.int (m:Int))),some (.d (.str cU)),none,some (.d (.int (n:Int))),some (.d (.str (S' (gq c n)))),some (.d (.int (t:Int)))]) (bC (d:=.int (t:Int)) ((aG (aG rfl rfl (aj d256)) (aG rfl rfl rfl) (aj (by omega))).trans (by rw[ht])))]
 rw[dj (b8 (gP (nq rfl hrm) hwm hc))]
 simp only[Zo,Tn,Zn,Zm,Zk,Zj,Zi,Zh,Zg,mV,m1,m2,mN,jj,mC,Ge,mOr,YQ,YS,iI,nO,dY,cB,nF,xf,mF,La,jq,rF,ik,Gp,yH,Tf,Te,aV,bV,yE,Yi,qe,cY,Q5,fL,oA,xT,aX,dG,Fi,An,J1,Yj,J0,jZ,vB,Q7,iK,qy,Gd,R8,wD,wV,bQ,nM,bh,oG,dTup,ie,oM,rH,ud,K7,z9,xX,div_ii,gF,rO,tM,Il,Tp,R4,Zb,wR,Mv,Mu,RV,RT,yG,Sy,Ii,Bk,Bj,Ef,Ur,Kw,Kv,zj,Ez,Tc,Td,Yh,Ae,QW,zE,uG,Bl,qM,xq,xr,zN,QD,QC,Mg,Ri,all_nil,all_cons,Fx,Fy,zr,XS,XR,XQ,XX,X3,yq,getL,putL,aA,iy,CG,pL,V8,V7,V6,KR,Zu,Zt,List.map_cons,List.map_nil,List.length_cons,List.length_nil,List.cons_append,List.nil_append,List.replicate_succ,List.replicate_zero,List.getElem?_cons_zero,List.getElem?_cons_succ,List.set_cons_zero,List.set_cons_succ,Nat.reduceSub,Nat.reduceAdd,Nat.zero_add,aC,List.map_map]
 rfl
end Mr
namespace Mr
open PySem Mi
open My (words xF dZ iT)
def low(c:Nat):Bool:=decide (97≤c) && decide (c≤122)
def isW(x:Str):Bool:=(decide (1≤x.length) && decide (x.length≤8)) && x.cps.toList.all low
theorem DN{a b c:E}{e:Mi.Env}{i j k:Int}(ha:a e=.ok (.int i))(hb:b e=.ok (.int j))(hc:c e=.ok (.int k)):iI G5 G5 a b c e=.ok (.bl (decide (i≤j) && decide (j≤k))):=by
 unfold iI
 rw[ha,aA,hb,aA,Il,aA,qM,aA]
 cases decide (i≤j) with
 | true=>rw[if_pos rfl,hc,aA,Il,Bool.true_and]
 | false=>rw[if_neg Bool.false_ne_true,Bool.false_and]
theorem PB{a b c:E}{e:Mi.Env}{i j k:Int}(ha:a e=.ok (.int i))(hb:b e=.ok (.int j))(hc:c e=.ok (.int k)):iI sG sG a b c e=.ok (.bl (decide (i < j) && decide (j < k))):=by
 unfold iI
 rw[ha,aA,hb,aA,rO,aA,qM,aA]
 cases decide (i < j) with
 | true=>rw[if_pos rfl,hc,aA,rO,Bool.true_and]
 | false=>rw[if_neg Bool.false_ne_true,Bool.false_and]
theorem len_str{a:E}{e:Mi.Env}{x:Str}(h:a e=.ok (.str x))(hx:x.length≤1000):mN cZ [a] e=.ok (.int (x.length:Int)):=(jR h).trans ((Ii x).trans (aj (by omega)))
theorem M6(x:Str):BL (.str x)=.ok (x.cps.toList.map fun c=>D.str (jb c)):=rfl
theorem len_list(x:Str):x.cps.toList.length=x.length:=Array.length_toList
theorem YW(c:Nat):decide (c∈("abcdefghijklmnopqrstuvwxyz" : Str).cps.toList)=low c:=by
 unfold low
 rw[← Bool.decide_and]
 refine decide_eq_decide.mpr ?_
 rw[Eg]
 constructor
 ·intro h
  obtain⟨k,hk,rfl⟩:=List.mem_map.mp h
  have:=List.mem_range.mp hk
  omega
 ·exact fun h=>List.mem_map.mpr ⟨c - 97,List.mem_range.mpr (by omega),by show c - 97+97=c;omega⟩
theorem Pb{x:Str}(hx:x.length≤1000):dB [.d (.str x)]=.ok (.d (.bl (isW x))):=by
 unfold dB yp
 rw[CG]
 rw[show ([some (W.d (.str x))]++List.replicate (1 - 1) none)=[some (W.d (.str x))] from rfl]
 have hc:gC (.n 0) jq (m2 Ja (mV 0) (mC (.str "abcdefghijklmnopqrstuvwxyz"))) [none] (x.cps.toList.map fun c=>D.str (jb c))=.ok ((x.cps.toList.filter fun _=>true).map fun c=>D.bl (low c)) :=
  iQ (fun c=>D.str (jb c)) (fun c=>D.bl (low c)) (fun _=>true) _ fun c _=>⟨[some (.d (.str (jb c)))],rfl,rfl,fun _=>aG (x:=.str (jb c)) rfl rfl (by
   show aO ((jb c).length=1) (Rs.ok (D.bl (decide ((jb c).cps.getD 0 0∈("abcdefghijklmnopqrstuvwxyz" : Str).cps.toList))))=_
   rw[aj (show (jb c).length=1 from rfl),show (jb c).cps.getD 0 0=c from rfl,YW])⟩
 rw[List.filter_eq_self.mpr (fun _ _=>rfl)] at hc
 have h2:mN Lb [(gr [none] (rF (mV 0)) (.n 0) jq (m2 Ja (mV 0) (mC (.str "abcdefghijklmnopqrstuvwxyz"))))] [some (W.d (.str x))]=.ok (.bl (x.cps.toList.all low)):=by
  refine(jR (gP (ρ:=[none]) (j7 (a:=mV 0) (x:=.str x) rfl (M6 x)) (by rw[List.length_map,len_list];omega) hc)).trans ?_
  rw[Ef,Ce,iy,aA,List.all_map];rfl
 have h3:iI G5 G5 (mC (.int 1)) (mN cZ [(mV 0)]) (mC (.int 8)) [some (W.d (.str x))]=.ok (.bl (decide (1≤x.length) && decide (x.length≤8))):=by
  refine(DN rfl (len_str rfl hx) rfl).trans ?_
  rw[show decide ((1:Int)≤(x.length:Int))=decide (1≤x.length) from decide_eq_decide.mpr (by omega),show decide ((x.length:Int)≤8)=decide (x.length≤8) from decide_eq_decide.mpr (by omega)]
 rw[dj (b8 (Mx h3 fun _=>h2))];rfl
theorem Ss(c d:Nat):decide ((jb c).cps.toList < (jb d).cps.toList)=decide (c < d):=by
 refine decide_eq_decide.mpr ?_
 show List.Lex (· < ·) [c] [d]↔c < d
 refine⟨fun h=>?_,fun h=>List.Lex.rel h⟩
 cases h with
 | rel h=>exact h
 | cons h=>cases h
theorem acd{x:Str}(hx:x.length≤1000){e:Mi.Env}(h2:mV 2 e=.ok (.str x)):xf (mF (cB (iI sG sG (mC (.int 0)) (mN cZ [(mV 2)]) (mC (.int 9))))) (cB (m2 zb (mN cZ [(gr [none] (rF (mV 2)) (.n 0) (xf (cB (m2 sG (mV 0) (mC (.str "a")))) (cB (m2 zb (mV 0) (mC (.str "z"))))) (mV 0))]) (mC (.int 0)))) e=.ok (!isW x):=by
 have hc:gC (.n 0) (xf (cB (m2 sG (mV 0) (mC (.str "a")))) (cB (m2 zb (mV 0) (mC (.str "z"))))) (mV 0) [none] (x.cps.toList.map fun c=>D.str (jb c))=.ok ((x.cps.toList.filter fun c=>!low c).map fun c=>D.str (jb c)) :=
  iQ (fun c=>D.str (jb c)) (fun c=>D.str (jb c)) (fun c=>!low c) _ fun c _=>⟨[some (.d (.str (jb c)))],rfl,by
   refine(vP (p:=decide (c < 97)) (q:=decide (122 < c)) (cC (aG (x:=.str (jb c)) (y:=.str (jb 97)) rfl rfl ?_)) fun _=>cC (aG (x:=.str (jb c)) (y:=.str (jb 122)) rfl rfl ?_)).trans ?_
   ·show Rs.ok (D.bl (decide ((jb c).cps.toList < (jb 97).cps.toList)))=_
    rw[Ss]
   ·show Rs.ok (D.bl (decide ((jb 122).cps.toList < (jb c).cps.toList)))=_
    rw[Ss]
   ·unfold low
    congr 1
    by_cases h1:97≤c<;>by_cases h2:c≤122<;>simp[h1,h2]<;>omega,fun _=>rfl⟩
 have hl:mN cZ [(gr [none] (rF (mV 2)) (.n 0) (xf (cB (m2 sG (mV 0) (mC (.str "a")))) (cB (m2 zb (mV 0) (mC (.str "z"))))) (mV 0))] e=.ok (.int ((x.cps.toList.filter fun c=>!low c).length:Nat)) :=
  (jR (gP (ρ:=[none]) (j7 (a:=mV 2) (x:=.str x) h2 (M6 x)) (by rw[List.length_map,len_list];omega) hc)).trans (by rw[yG,List.length_map])
 refine(vP (Gz (cC (PB rfl (len_str h2 hx) rfl))) fun _=>cC (aG (b:=mC (.int 0)) hl rfl (tM _ _))).trans ?_
 congr 1
 unfold isW
 have a:x.cps.toList.all low=decide ((x.cps.toList.filter fun c=>!low c).length=0):=by
  rw[Bool.eq_iff_iff,List.all_eq_true,decide_eq_true_iff,List.length_eq_zero_iff,List.filter_eq_nil_iff]
  exact⟨fun h c hc=>by rw[h c hc];simp,fun h c hc=>by have:=h c hc;simpa using this⟩
 rw[a]
 generalize (x.cps.toList.filter fun c=>!low c).length=n
 rw[Bool.eq_iff_iff]
 simp only[Bool.or_eq_true,Bool.not_eq_true',Bool.and_eq_false_iff,decide_eq_true_iff,decide_eq_false_iff_not]
 omega
inductive Du where
 | ok|ws|nw|tw|nn
 deriving DecidableEq
def Du.s:Du→Str
 | .ok => "" | .ws => "WrongSize" | .nw => "NoWord" | .tw => "Twice" | .nn => "NoName"
def Du.c:Du→String
 | .ok => "" | .ws => "WrongSize" | .nw => "NoWord" | .tw => "Twice" | .nn => "NoName"
theorem Du.ab9{d:Du}(h:d≠.ok):d.s≠("" : Str):=by cases d<;>first|exact absurd rfl h|decide +kernel
def Ol(pre:List Str):List Str→Du
 | []=>.ok
 | x::r=>if isW x=false then .nw else if x∈pre then .tw else Ol (pre++[x]) r
def CJ(names:List Str):Du:=if 1≤names.length∧names.length≤8 then Ol [] names else .ws
theorem Q0:∀ (r pre:List Str),Ol pre r=.ok→(∀ x∈r,isW x=true)∧(∀ x∈r,x∉pre)∧r.Nodup
 | [],pre,_=>⟨fun _ h=>(nomatch h),fun _ h=>(nomatch h),List.nodup_nil⟩
 | x::r,pre,h=>by
  rw[Ol] at h
  split at h
  ·cases h
  ·rename_i h1
   split at h
   ·cases h
   ·rename_i h2
    obtain⟨a,b,c⟩:=Q0 r _ h
    refine⟨fun y hy=>?_,fun y hy=>?_,List.nodup_cons.mpr ⟨fun z=>b x z (by simp),c⟩⟩
    ·rcases List.mem_cons.mp hy with rfl|hy
     ·cases z:isW y with
      | true=>rfl
      | false=>exact absurd z h1
     ·exact a y hy
    ·rcases List.mem_cons.mp hy with rfl|hy
     ·exact h2
     ·exact fun z=>b y hy (List.mem_append_left _ z)
theorem KZ{names:List Str}(h:CJ names=.ok):(1≤names.length∧names.length≤8)∧(∀ x∈names,isW x=true)∧names.Nodup:=by
 unfold CJ at h
 split at h
 ·obtain⟨a,_,c⟩:=Q0 names [] h
  exact⟨‹_›,a,c⟩
 ·cases h
theorem Dw(k:Nat)(d:D)(r:List D):qG k (d::r)=.tup [.int (k:Nat),d]::qG (k+1) r:=rfl
theorem Nu{α : Type}(pre r:List α):lM (pre++r) none (some (pre.length:Int))=pre:=by rw[qH,List.take_left'];rfl
theorem Bh{names:List Str}(hs:∀ x∈names,x.length≤1000)(hl:names.length≤100):∀ (r pre:List Str) (o1 o2:Option W),names=pre++r→∃ o,kW (.t [1,2]) (aV (fL (xf (mF (cB (iI sG sG (mC (.int 0)) (mN cZ [(mV 2)]) (mC (.int 9))))) (cB (m2 zb (mN cZ [(gr [none] (rF (mV 2)) (.n 0) (xf (cB (m2 sG (mV 0) (mC (.str "a")))) (cB (m2 zb (mV 0) (mC (.str "z"))))) (mV 0))]) (mC (.int 0)))))
 (cY (wD (mC (.str "NoWord"))))
 aX)
 (fL (cB (m2 Ja (mV 2) (dY kY (mV 0) none (some (mV 1)))))
 (cY (wD (mC (.str "Twice"))))
 aX)) (qG pre.length (r.map D.str)) [some (W.d (aC names)),o1,o2]=.ok o∧(Ol pre r=.ok→∃ p1 p2,o=.nx [some (W.d (aC names)),p1,p2])∧(Ol pre r≠.ok→o=.rt (.d (.str (Ol pre r).s)))
 | [],pre,o1,o2,_=>⟨_,rfl,fun _=>⟨o1,o2,rfl⟩,fun h=>absurd rfl h⟩
 | x::r,pre,o1,o2,he=>by
  have mx:x∈names:=by rw[he];simp
  have ct:=acd (hs x mx) (e:=[some (W.d (aC names)),some (W.d (.int (pre.length:Nat))),some (W.d (.str x))]) rfl
  rw[List.map_cons,Dw]
  rw[Ol]
  cases hw:isW x with
  | false =>
   rw[hw] at ct
   refine⟨.rt (.d (.str "NoWord")),?_,fun h=>(by rw[if_pos rfl] at h;cases h),fun _=>by rw[if_pos rfl];rfl⟩
   rw[kW,show (Tg.t [1,2]).put (.tup [.int (pre.length:Nat),.str x]) [some (W.d (aC names)),o1,o2]=.ok [some (W.d (aC names)),some (W.d (.int (pre.length:Nat))),some (W.d (.str x))] from rfl,aA,jK ((gW ct).trans (dj (b8 rfl))),aA]
  | true =>
   rw[hw] at ct
   rw[if_neg (fun h=>by cases h)]
   have sl:dY kY (mV 0) none (some (mV 1)) [some (W.d (aC names)),some (W.d (.int (pre.length:Nat))),some (W.d (.str x))]=.ok (aC pre) :=
    (vA (f:=kY) (a:=mV 0) (b:=mV 1) (x:=aC names) (i:=(pre.length:Nat)) rfl rfl).trans (by
     show Rs.ok (D.lst (lM (names.map D.str) none (some ((pre.length:Nat):Int))))=_
     rw[he,List.map_append]
     have:=Nu (pre.map D.str) ((x::r).map D.str)
     rw[List.length_map] at this
     rw[this];rfl)
   have c2:=cC (aG (a:=mV 2) (b:=dY kY (mV 0) none (some (mV 1))) (x:=.str x) rfl sl (Nr pre x))
   by_cases hp:x∈pre
   ·rw[decide_eq_true hp] at c2
    refine⟨.rt (.d (.str "Twice")),?_,fun h=>(by rw[if_pos hp] at h;cases h),fun _=>by rw[if_pos hp];rfl⟩
    rw[kW,show (Tg.t [1,2]).put (.tup [.int (pre.length:Nat),.str x]) [some (W.d (aC names)),o1,o2]=.ok [some (W.d (aC names)),some (W.d (.int (pre.length:Nat))),some (W.d (.str x))] from rfl,aA,aK ((cI ct).trans rfl),gW c2,dj (b8 rfl),aA]
   ·rw[decide_eq_false hp] at c2
    rw[if_neg hp]
    obtain⟨o,ih,i1,i2⟩:=Bh hs hl r (pre++[x]) (some (W.d (.int (pre.length:Nat)))) (some (W.d (.str x))) (by rw[he];simp)
    rw[show (pre++[x]).length=pre.length+1 by simp] at ih
    refine⟨o,?_,i1,i2⟩
    exact qF rfl ((aK ((cI ct).trans rfl)).trans ((cI c2).trans rfl)) ih
theorem Ij{xs:List Str}{a:E}{e:Mi.Env}(h:a e=.ok (aC xs)):mN cZ [a] e=.ok (.int (xs.length:Int)):=(jR h).trans (by unfold aC;rw[yG,List.length_map])
theorem SM{xs:List Ar}{a:E}{e:Mi.Env}(h:a e=.ok (eZ xs)):mN cZ [a] e=.ok (.int (xs.length:Int)):=(jR h).trans (by unfold eZ;rw[yG,List.length_map])
theorem Ga{names:List Str}(hs:∀ x∈names,x.length≤1000)(hl:names.length≤100):jU [.d (aC names)]=.ok (.d (.str (CJ names).s)):=by
 unfold jU u5
 rw[CG]
 rw[show ([some (W.d (aC names))]++List.replicate (3 - 1) none)=[some (W.d (aC names)),none,none] from rfl]
 have ct:=vP (cC (aG (b:=mC (.int 1)) (Ij (xs:=names) (a:=mV 0) (e:=[some (W.d (aC names)),none,none]) rfl) rfl (rO _ _))) fun _=>cC (aG (b:=mC (.int 8)) (Ij (xs:=names) (a:=mV 0) rfl) rfl (tM _ _))
 unfold CJ
 by_cases h:1≤names.length∧names.length≤8
 ·rw[if_pos h]
  rw[decide_eq_false (by omega),decide_eq_false (by omega)] at ct
  rw[aK ((cI ct).trans rfl)]
  obtain⟨o,lp,h1,h2⟩:=Bh hs hl names [] none none rfl
  have lp2:=(lC (it:=yH (mV 0)) (e:=[some (W.d (aC names)),none,none]) (xs:=qG 0 (names.map D.str)) rfl).trans lp
  by_cases hk:Ol [] names=.ok
  ·obtain⟨p1,p2,rfl⟩:=h1 hk
   rw[aK lp2,hk,dj (b8 rfl)];rfl
  ·rw[h2 hk] at lp2
   rw[jK lp2];rfl
 ·rw[if_neg h]
  have e:((decide ((names.length:Int) < 1)) || (decide ((8:Int) < (names.length:Int))))=true:=by
   rw[Bool.or_eq_true,decide_eq_true_iff,decide_eq_true_iff];omega
  rw[e] at ct
  rw[jK ((gW ct).trans (dj (b8 rfl)))];rfl
theorem Dt{c:C}{s t:S}{e:Mi.Env}{z:yR}(h:c e=.ok true)(hs:s e=.ex z):fL c s t e=.ex z:=(gW h).trans hs
theorem uJ{tg:Tg}{b:S}{d:D}{r:List D}{e e0:Mi.Env}{z:yR}(hp:tg.put d e=.ok e0)(hb:b e0=.ex z):kW tg b (d::r) e=.ex z:=by
 rw[kW,hp,aA,hb];rfl
theorem yD{names:List Str}(hs:∀ x∈names,Sh x)(hl:names.length≤100):∀ (r pre:List Str) (o2:Option W),names=pre++r →
 (Ol pre r=.ok→∃ p2 ks,kW (.n 2) (aV (fL (cP (mF (cB (bh dB [(wD (mV 2))]))))
 (iH "NoWord" [(gR 2),(fun _=>true)])
 (sP aX))
 (aV (fL (cP (cB (qy 1 (mV 2))))
 (iH "Twice" [(gR 2),(fun _=>true)])
 (sP aX))
 (sP (iK 1 (mV 2) (mC (.bl true)))))) (r.map D.str) [some (W.d (aC names)),some (yI pre),o2]=.ok (.nx [some (W.d (aC names)),some (yI ks),p2])) ∧
 (Ol pre r≠.ok→kW (.n 2) (aV (fL (cP (mF (cB (bh dB [(wD (mV 2))]))))
 (iH "NoWord" [(gR 2),(fun _=>true)])
 (sP aX))
 (aV (fL (cP (cB (qy 1 (mV 2))))
 (iH "Twice" [(gR 2),(fun _=>true)])
 (sP aX))
 (sP (iK 1 (mV 2) (mC (.bl true)))))) (r.map D.str) [some (W.d (aC names)),some (yI pre),o2]=.ex ⟨(Ol pre r).c,[]⟩)
 | [],pre,o2,_=>⟨fun _=>⟨o2,pre,rfl⟩,fun h=>absurd rfl h⟩
 | x::r,pre,o2,he=>by
  have mx:x∈names:=by rw[he];simp
  have sx:=hs x mx
  have c1:cP (mF (cB (bh dB [(wD (mV 2))]))) [some (W.d (aC names)),some (yI pre),some (W.d (.str x))]=.ok (!isW x):=BV (Gz (cC (BR rfl (Pb (by have:=sx.1;omega)))))
  have c2:cP (cB (qy 1 (mV 2))) [some (W.d (aC names)),some (yI pre),some (W.d (.str x))]=.ok (decide (x∈pre)):=BV (cC (Xj (y:=x) (fs:=pre) rfl rfl))
  have gg:(([(gR 2),(fun _=>true)]:List (Mi.Env→Bool)).all fun g=>g [some (W.d (aC names)),some (yI pre),some (W.d (.str x))])=true:=by
   show (gR 2 _ && (true && true))=true
   rw[Ir (x:=x) rfl sx];rfl
  rw[List.map_cons,Ol]
  cases hw:isW x with
  | false =>
   rw[hw] at c1
   refine⟨fun h=>(by rw[if_pos rfl] at h;cases h),fun _=>?_⟩
   rw[if_pos rfl]
   exact uJ (e0:=[some (W.d (aC names)),some (yI pre),some (W.d (.str x))]) rfl (sU (Dt c1 (qg gg)))
  | true =>
   rw[hw] at c1
   rw[if_neg (fun h=>by cases h)]
   by_cases hp:x∈pre
   ·rw[decide_eq_true hp] at c2
    refine⟨fun h=>(by rw[if_pos hp] at h;cases h),fun _=>?_⟩
    rw[if_pos hp]
    exact uJ (e0:=[some (W.d (aC names)),some (yI pre),some (W.d (.str x))]) rfl ((aK ((cI c1).trans rfl)).trans (sU (Dt c2 (qg gg))))
   ·rw[decide_eq_false hp] at c2
    rw[if_neg hp]
    have hpre:pre.length≤1000:=by
     have:pre.length≤names.length:=by rw[he];simp
     omega
    have st:(aV (fL (cP (mF (cB (bh dB [(wD (mV 2))])))) (iH "NoWord" [(gR 2),(fun _=>true)]) (sP aX)) (aV (fL (cP (cB (qy 1 (mV 2)))) (iH "Twice" [(gR 2),(fun _=>true)]) (sP aX)) (sP (iK 1 (mV 2) (mC (.bl true)))))) [some (W.d (aC names)),some (yI pre),some (W.d (.str x))]=.ok (.nx [some (W.d (aC names)),some (yI (pre++[x])),some (W.d (.str x))]) :=
     (aK ((cI c1).trans rfl)).trans ((aK ((cI c2).trans rfl)).trans (Q6 (TV (y:=x) (fs:=pre) rfl rfl hp hpre)))
    obtain⟨i1,i2⟩:=yD hs hl r (pre++[x]) (some (W.d (.str x))) (by rw[he];simp)
    exact⟨fun h=>by obtain⟨p2,ks,ih⟩:=i1 h;exact⟨p2,ks,qF rfl st ih⟩,fun h=>qF rfl st (i2 h)⟩
theorem XD{names:List Str}(hs:∀ x∈names,Sh x)(hl:names.length≤100):(CJ names=.ok→bB [.d (aC names)]=.ok (.d .non))∧(CJ names≠.ok→bB [.d (aC names)]=.ex ⟨(CJ names).c,[]⟩):=by
 unfold bB lO
 rw[CG]
 rw[show ([some (W.d (aC names))]++List.replicate (3 - 1) none)=[some (W.d (aC names)),none,none] from rfl]
 have ct:cP (mF (cB (iI G5 G5 (mC (.int 1)) (mN cZ [(mV 0)]) (mC (.int 8))))) [some (W.d (aC names)),none,none]=.ok (!(decide ((1:Int)≤(names.length:Int)) && decide ((names.length:Int)≤8))):=BV (Gz (cC (DN rfl (Ij rfl) rfl)))
 unfold CJ
 by_cases h:1≤names.length∧names.length≤8
 ·rw[if_pos h]
  rw[decide_eq_true (by omega),decide_eq_true (by omega)] at ct
  obtain⟨i1,i2⟩:=yD hs hl names [] none rfl
  have hit:iP (rF (mV 0)) [some (W.d (aC names)),some (yI []),none]=.ok (names.map D.str):=Ng (j7 (a:=mV 0) (x:=aC names) rfl rfl)
  refine⟨fun hk=>?_,fun hk=>?_⟩
  ·obtain⟨p2,ks,lp⟩:=i1 hk
   rw[aK ((cI ct).trans rfl),aK (e':=[some (W.d (aC names)),some (yI []),none]) rfl,lC hit,lp];rfl
  ·rw[aK ((cI ct).trans rfl),aK (e':=[some (W.d (aC names)),some (yI []),none]) rfl,lC hit,i2 hk];rfl
 ·rw[if_neg h]
  have e:(!(decide ((1:Int)≤(names.length:Int)) && decide ((names.length:Int)≤8)))=true:=by
   rw[Bool.not_eq_true',Bool.and_eq_false_iff,decide_eq_false_iff_not,decide_eq_false_iff_not];omega
  rw[e] at ct
  refine⟨fun hk=>(nomatch hk),fun _=>?_⟩
  rw[sU (Dt ct (qg rfl))];rfl
end Mr
namespace Mr
open PySem Mi
open My (words xF dZ iT)
def Oj(names:List Str)(pre:List Ar):List Ar→Du
 | []=>.ok
 | p::r=>if p.1∉names∨p.2∉names then .nn else if p.1=p.2∨p∈pre∨(p.2,p.1)∈pre then .tw else Oj names (pre++[p]) r
def due(names:List Str)(jz:List Ar):Du:=if CJ names=.ok then Oj names [] jz else CJ names
structure Jw(names:List Str)(r:List Ar):Prop where
 inn:∀ p∈r,p.1∈names∧p.2∈names∧p.1≠p.2
 pw:r.Pairwise fun p q=>p≠q∧(p.2,p.1)≠q
theorem QZ{names:List Str}:∀ (r pre:List Ar),Oj names pre r=.ok→Jw names r∧∀ p∈r,p∉pre∧(p.2,p.1)∉pre
 | [],pre,_=>⟨⟨fun _ h=>(nomatch h),List.Pairwise.nil⟩,fun _ h=>(nomatch h)⟩
 | p::r,pre,h=>by
  rw[Oj] at h
  split at h
  ·cases h
  ·rename_i h1
   split at h
   ·cases h
   ·rename_i h2
    obtain⟨G,b⟩:=QZ r _ h
    have i1:p.1∈names:=Classical.byContradiction fun z=>h1 (.inl z)
    have i2:p.2∈names:=Classical.byContradiction fun z=>h1 (.inr z)
    refine⟨⟨fun q hq=>?_,List.pairwise_cons.mpr ⟨fun q hq=>?_,G.pw⟩⟩,fun q hq=>?_⟩
    ·rcases List.mem_cons.mp hq with rfl|hq
     ·exact⟨i1,i2,fun z=>h2 (.inl z)⟩
     ·exact G.inn q hq
    ·obtain⟨b1,b2⟩:=b q hq
     refine⟨fun z=>b1 (by rw[← z];simp),fun z=>b2 (by rw[← z];simp)⟩
    ·rcases List.mem_cons.mp hq with rfl|hq
     ·exact⟨fun z=>h2 (.inr (.inl z)),fun z=>h2 (.inr (.inr z))⟩
     ·obtain⟨b1,b2⟩:=b q hq
      exact⟨fun z=>b1 (List.mem_append_left _ z),fun z=>b2 (List.mem_append_left _ z)⟩
theorem T7(pre r:List Ar):lM ((pre++r).map pairD) none (some ((pre.length:Nat):Int))=pre.map pairD:=by
 rw[List.map_append]
 have:=Nu (pre.map pairD) (r.map pairD)
 rw[List.length_map] at this
 exact this
theorem IV{names:List Str}{jz:List Ar}{v2:W}:∀ (r pre:List Ar) (o3 o4:Option W),jz=pre++r→∃ o,kW (.t [3,4]) (aV (fL (xf (cB (m2 fZ (m2 dU (mV 4) (mC (.int 0))) (mV 0))) (cB (m2 fZ (m2 dU (mV 4) (mC (.int 1))) (mV 0))))
 (cY (wD (mC (.str "NoName"))))
 aX)
 (fL (xf (cB (m2 rQ (m2 dU (mV 4) (mC (.int 0))) (m2 dU (mV 4) (mC (.int 1))))) (xf (cB (m2 Ja (mV 4) (dY kY (mV 1) none (some (mV 3))))) (cB (m2 Ja (mN dTup [(m2 dU (mV 4) (mC (.int 1))),(m2 dU (mV 4) (mC (.int 0)))]) (dY kY (mV 1) none (some (mV 3)))))))
 (cY (wD (mC (.str "Twice"))))
 aX)) (qG pre.length (r.map pairD)) [some (W.d (aC names)),some (W.d (eZ jz)),some v2,o3,o4]=.ok o∧(Oj names pre r=.ok→∃ p3 p4,o=.nx [some (W.d (aC names)),some (W.d (eZ jz)),some v2,p3,p4])∧(Oj names pre r≠.ok→o=.rt (.d (.str (Oj names pre r).s)))
 | [],pre,o3,o4,_=>⟨_,rfl,fun _=>⟨o3,o4,rfl⟩,fun h=>absurd rfl h⟩
 | p::r,pre,o3,o4,he=>by
  let e0:Mi.Env:=[some (W.d (aC names)),some (W.d (eZ jz)),some v2,some (W.d (.int (pre.length:Nat))),some (W.d (pairD p))]
  have a0:m2 dU (mV 4) (mC (.int 0)) e0=.ok (.str p.1):=aG (x:=pairD p) rfl rfl rfl
  have a1:m2 dU (mV 4) (mC (.int 1)) e0=.ok (.str p.2):=aG (x:=pairD p) rfl rfl rfl
  have c1:=vP (cC (aG (b:=mV 0) (y:=aC names) a0 rfl (jw names p.1))) fun _=>cC (aG (b:=mV 0) (y:=aC names) a1 rfl (jw names p.2))
  have sl:dY kY (mV 1) none (some (mV 3)) e0=.ok (eZ pre) :=
   (vA (f:=kY) (a:=mV 1) (b:=mV 3) (x:=eZ jz) (i:=(pre.length:Nat)) rfl rfl).trans (by
    show Rs.ok (D.lst (lM (jz.map pairD) none (some ((pre.length:Nat):Int))))=_
    rw[he,T7];rfl)
  have c2:=vP (cC (aG a0 a1 (wZ p.1 p.2))) fun _=>vP (cC (aG (a:=mV 4) (x:=pairD p) rfl sl (Dz pre p))) fun _=>cC (aG (x:=pairD (p.2,p.1)) (uN a1 a0) sl (Dz pre (p.2,p.1)))
  rw[List.map_cons,Dw]
  rw[Oj]
  by_cases h1:p.1∉names∨p.2∉names
  ·have e:((!decide (p.1∈names)) || (!decide (p.2∈names)))=true:=by
    rcases h1 with z|z
    ·rw[decide_eq_false z];rfl
    ·rw[decide_eq_false z];simp
   rw[e] at c1
   refine⟨.rt (.d (.str "NoName")),?_,fun h=>(by rw[if_pos h1] at h;cases h),fun _=>by rw[if_pos h1];rfl⟩
   rw[kW,show (Tg.t [3,4]).put (.tup [.int (pre.length:Nat),pairD p]) [some (W.d (aC names)),some (W.d (eZ jz)),some v2,o3,o4]=.ok e0 from rfl,aA,jK ((gW c1).trans (dj (b8 rfl))),aA]
  ·have i1:p.1∈names:=Classical.byContradiction fun z=>h1 (.inl z)
   have i2:p.2∈names:=Classical.byContradiction fun z=>h1 (.inr z)
   rw[decide_eq_true i1,decide_eq_true i2] at c1
   rw[if_neg h1]
   by_cases h2:p.1=p.2∨p∈pre∨(p.2,p.1)∈pre
   ·have e:(decide (p.1=p.2) || (decide (p∈pre) || decide ((p.2,p.1)∈pre)))=true:=by
     rw[Bool.or_eq_true,Bool.or_eq_true,decide_eq_true_iff,decide_eq_true_iff,decide_eq_true_iff];exact h2
    rw[e] at c2
    refine⟨.rt (.d (.str "Twice")),?_,fun h=>(by rw[if_pos h2] at h;cases h),fun _=>by rw[if_pos h2];rfl⟩
    rw[kW,show (Tg.t [3,4]).put (.tup [.int (pre.length:Nat),pairD p]) [some (W.d (aC names)),some (W.d (eZ jz)),some v2,o3,o4]=.ok e0 from rfl,aA,aK ((cI c1).trans rfl),gW c2,dj (b8 rfl),aA]
   ·have e:(decide (p.1=p.2) || (decide (p∈pre) || decide ((p.2,p.1)∈pre)))=false:=by
     rw[decide_eq_false (fun z=>h2 (.inl z)),decide_eq_false (fun z=>h2 (.inr (.inl z))),decide_eq_false (fun z=>h2 (.inr (.inr z)))];rfl
    rw[e] at c2
    rw[if_neg h2]
    obtain⟨o,ih,i1,i2⟩:=IV (jz:=jz) (v2:=v2) r (pre++[p]) (some (W.d (.int (pre.length:Nat)))) (some (W.d (pairD p))) (by rw[he];simp)
    rw[show (pre++[p]).length=pre.length+1 by simp] at ih
    exact⟨o,qF (e0:=e0) rfl ((aK ((cI c1).trans rfl)).trans ((cI c2).trans rfl)) ih,i1,i2⟩
theorem Wb{names:List Str}{jz:List Ar}(hs:∀ x∈names,x.length≤1000)(hl:names.length≤100):uE [.d (aC names),.d (eZ jz)]=.ok (.d (.str (due names jz).s)):=by
 unfold uE Nx
 rw[pL]
 rw[show ([some (W.d (aC names)),some (W.d (eZ jz))]++List.replicate (5 - 2) none)=[some (W.d (aC names)),some (W.d (eZ jz)),none,none,none] from rfl]
 rw[aK (e':=[some (W.d (aC names)),some (W.d (eZ jz)),some (W.d (.str (CJ names).s)),none,none]) (bC (BR rfl (Ga hs hl)))]
 have ct:=cC (aG (a:=mV 2) (b:=mC (.str "")) (e:=[some (W.d (aC names)),some (W.d (eZ jz)),some (W.d (.str (CJ names).s)),none,none]) rfl rfl (Np (CJ names).s ""))
 unfold due
 by_cases hk:CJ names=.ok
 ·rw[if_pos hk]
  rw[show decide ((CJ names).s=("" : Str))=true by rw[hk];rfl] at ct
  rw[aK ((cI ct).trans rfl)]
  obtain⟨o,lp,h1,h2⟩:=IV (names:=names) (jz:=jz) (v2:=W.d (.str (CJ names).s)) jz [] none none rfl
  have lp2:=(lC (it:=yH (mV 1)) (e:=[some (W.d (aC names)),some (W.d (eZ jz)),some (W.d (.str (CJ names).s)),none,none]) (xs:=qG 0 (jz.map pairD)) rfl).trans lp
  by_cases hp:Oj names [] jz=.ok
  ·obtain⟨p1,p2,rfl⟩:=h1 hp
   rw[aK lp2,hp,dj (b8 rfl)];rfl
  ·rw[h2 hp] at lp2
   rw[jK lp2];rfl
 ·rw[if_neg hk]
  rw[decide_eq_false (Du.ab9 hk)] at ct
  rw[jK ((gW ct).trans (dj (b8 rfl)))];rfl
theorem aal{names asked:List Str}(h:∃ x∈asked,x∉names)(hs:∀ x∈asked,Sh x):cA [.d (aC names),.d (aC asked)]=.ex xNo:=by
 unfold cA jN
 rw[pL]
 rw[show ([some (W.d (aC names)),some (W.d (aC asked))]++List.replicate (3 - 2) none)=[some (W.d (aC names)),some (W.d (aC asked)),none] from rfl]
 have key:∀ (l:List Str) (o:Option W),(∃ x∈l,x∉names)→(∀ x∈l,Sh x)→kW (.n 2) (fL (cP (cB (m2 fZ (mV 2) (mV 0)))) (iH "NoName" [(gR 2),(fun _=>true)]) (sP aX)) (l.map D.str) [some (W.d (aC names)),some (W.d (aC asked)),o]=.ex xNo:=by
  intro l
  induction l with
  | nil=>intro o hx;obtain⟨x,hx,_⟩:=hx;exact nomatch hx
  | cons a r ih =>
   intro o hx hsh
   have ct:cP (cB (m2 fZ (mV 2) (mV 0))) [some (W.d (aC names)),some (W.d (aC asked)),some (.d (.str a))]=.ok (!decide (a∈names)):=BV (cC (aG rfl rfl (jw names a)))
   rw[List.map_cons]
   by_cases ha:a∈names
   ·rw[decide_eq_true ha] at ct
    obtain⟨x,hx,hn⟩:=hx
    rcases List.mem_cons.mp hx with rfl|hx
    ·exact absurd ha hn
    ·exact qF rfl ((cI ct).trans rfl) (ih _ ⟨x,hx,hn⟩ fun y hy=>hsh y (List.mem_cons_of_mem _ hy))
   ·rw[decide_eq_false ha] at ct
    exact uJ (e0:=[some (W.d (aC names)),some (W.d (aC asked)),some (.d (.str a))]) rfl (Dt ct (qg (by
     show (gR 2 [some (W.d (aC names)),some (W.d (aC asked)),some (.d (.str a))] && (true && true))=true
     rw[Ir rfl (hsh a (List.mem_cons_self ..))];rfl)))
 rw[lC (Ng (j7 (a:=mV 1) (x:=aC asked) rfl rfl)),key asked none h hs]
 rfl
theorem Qu{names asked:List Str}(h:∀ x∈asked,x∈names):cA [.d (aC names),.d (aC asked)]=.ok (.d .non):=by
 unfold cA jN
 rw[pL]
 rw[show ([some (W.d (aC names)),some (W.d (aC asked))]++List.replicate (3 - 2) none)=[some (W.d (aC names)),some (W.d (aC asked)),none] from rfl]
 obtain⟨e',f1,o,he⟩:=nW (tg:=.n 2) (body:=(fL (cP (cB (m2 fZ (mV 2) (mV 0)))) (iH "NoName" [(gR 2),(fun _=>true)]) (sP aX)))
  (fun i e=>∃ o:Option W,e=[some (W.d (aC names)),some (W.d (aC asked)),o]) (asked.map D.str) 0 (fun i d e hi ⟨o,he⟩=>by
   subst he
   rw[List.getElem?_map] at hi
   obtain⟨x,hx,rfl⟩:=Option.map_eq_some_iff.mp hi
   have ct:cP (cB (m2 fZ (mV 2) (mV 0))) [some (W.d (aC names)),some (W.d (aC asked)),some (.d (.str x))]=.ok (!decide (x∈names)):=BV (cC (aG rfl rfl (jw names x)))
   rw[decide_eq_true (h x (List.mem_of_getElem? hx))] at ct
   exact⟨[some (W.d (aC names)),some (W.d (aC asked)),some (.d (.str x))],_,rfl,(cI ct).trans rfl,_,rfl⟩) [some (W.d (aC names)),some (W.d (aC asked)),none] ⟨none,rfl⟩
 subst he
 rw[lC (Ng (j7 (a:=mV 1) (x:=aC asked) rfl rfl)),f1]
 rfl
abbrev W7:S:=(aV (jr cA [(wD (mV 0)),(wD (mN ie [(mV 3),(mV 4)]))])
 (aV (fL (cP (cB (m2 rQ (mV 3) (mV 4))))
 (iH "Twice" [(fun _=>true),(gR 3),(fun _=>true)])
 (sP aX))
 (aV (fL (cP (cB (qy 2 (mN dTup [(mV 3),(mV 4)]))))
 (iH "Twice" [(fun _=>true),(gR 3),(fun _=>true),(gR 4)])
 (sP aX))
 (aV (sP (iK 2 (mN dTup [(mV 3),(mV 4)]) (mC (.bl true))))
 (sP (iK 2 (mN dTup [(mV 4),(mV 3)]) (mC (.bl true))))))))
theorem yC{names:List Str}{v1:W}:∀ (r pre:List Ar) (o3 o4:Option W),(∀ p∈r,Sh p.1∧Sh p.2)→pre.length+r.length≤100→Oj names pre r≠.ok→kW (.t [3,4]) W7 (r.map pairD) [some (W.d (aC names)),some v1,some (K1 (both pre)),o3,o4]=.ex ⟨(Oj names pre r).c,[]⟩
 | [],pre,o3,o4,_,_,h=>absurd rfl h
 | p::r,pre,o3,o4,hs,hl,hk=>by
  obtain⟨s1,s2⟩:=hs p (List.mem_cons_self ..)
  let e0:Mi.Env:=[some (W.d (aC names)),some v1,some (K1 (both pre)),some (W.d (.str p.1)),some (W.d (.str p.2))]
  rw[Oj] at hk ⊢
  rw[List.map_cons]
  by_cases h1:p.1∉names∨p.2∉names
  ·rw[if_pos h1]
   refine uJ (e0:=e0) rfl (sU (ym (x:=.d (aC names)) (y:=.d (aC [p.1,p.2])) rfl (b8 (O5 rfl rfl)) (aal ?_ fun z hz=>?_)))
   ·rcases h1 with z|z
    ·exact⟨p.1,List.mem_cons_self ..,z⟩
    ·exact⟨p.2,by simp,z⟩
   ·rcases List.mem_cons.mp hz with rfl|hz
    ·exact s1
    ·rw[List.mem_singleton.mp hz];exact s2
  ·rw[if_neg h1] at hk ⊢
   have i1:p.1∈names:=Classical.byContradiction fun z=>h1 (.inl z)
   have i2:p.2∈names:=Classical.byContradiction fun z=>h1 (.inr z)
   have q1:jr cA [(wD (mV 0)),(wD (mN ie [(mV 3),(mV 4)]))] e0=.ok (.nx e0):=PL (x:=.d (aC names)) (y:=.d (aC [p.1,p.2])) rfl (b8 (O5 rfl rfl)) (Qu fun z hz=>by
    rcases List.mem_cons.mp hz with rfl|hz
    ·exact i1
    ·rw[List.mem_singleton.mp hz];exact i2)
   have c1:cP (cB (m2 rQ (mV 3) (mV 4))) e0=.ok (decide (p.1=p.2)):=BV (cC (aG rfl rfl (wZ p.1 p.2)))
   have c2:cP (cB (qy 2 (mN dTup [(mV 3),(mV 4)]))) e0=.ok (decide (p∈both pre)):=BV (cC (Xi (p:=p) (ps:=both pre) (uN rfl rfl) rfl))
   have gA:(([(fun _=>true),(gR 3),(fun _=>true)]:List (Mi.Env→Bool)).all fun g=>g e0)=true:=by
    show (true && (gR 3 e0 && (true && true)))=true
    rw[Ir (x:=p.1) rfl s1];rfl
   have gB:(([(fun _=>true),(gR 3),(fun _=>true),(gR 4)]:List (Mi.Env→Bool)).all fun g=>g e0)=true:=by
    show (true && (gR 3 e0 && (true && (gR 4 e0 && true))))=true
    rw[Ir (x:=p.1) rfl s1,Ir (x:=p.2) rfl s2];rfl
   by_cases h2:p.1=p.2
   ·rw[if_pos (.inl h2)]
    rw[decide_eq_true h2] at c1
    exact uJ (e0:=e0) rfl ((aK q1).trans (sU (Dt c1 (qg gA))))
   ·rw[decide_eq_false h2] at c1
    have mb:p∈both pre↔p∈pre∨(p.2,p.1)∈pre:=by
     rw[wL]
     constructor
     ·rintro ⟨q,hq,rfl|e⟩
      ·exact .inl hq
      ·right;rw[e];exact hq
     ·rintro (h|h)
      ·exact⟨p,h,.inl rfl⟩
      ·exact⟨(p.2,p.1),h,.inr rfl⟩
    by_cases h3:p∈pre∨(p.2,p.1)∈pre
    ·rw[if_pos (.inr h3)]
     rw[decide_eq_true (mb.mpr h3)] at c2
     exact uJ (e0:=e0) rfl ((aK q1).trans ((aK ((cI c1).trans rfl)).trans (sU (Dt c2 (qg gB)))))
    ·have h23:¬ (p.1=p.2∨p∈pre∨(p.2,p.1)∈pre):=fun z=>z.elim h2 h3
     rw[if_neg h23] at hk ⊢
     have n1:p∉both pre:=fun z=>h3 (mb.mp z)
     rw[decide_eq_false n1] at c2
     have n2:(p.2,p.1)∉both pre++[p]:=fun z=>by
      rcases List.mem_append.mp z with z|z
      ·obtain⟨q,hq,e|e⟩:=wL.mp z
       ·exact h3 (.inr (by rw[e];exact hq))
       ·exact h3 (.inl (by rw[Prod.ext_iff] at e;simp at e;rw[show p=q from Prod.ext e.2 e.1];exact hq))
      ·have:=List.mem_singleton.mp z
       exact h2 (congrArg Prod.snd this)
     have hb:(both pre).length≤200:=by rw[Jf];simp only[List.length_cons] at hl;omega
     have st:W7 e0=.ok (.nx [some (W.d (aC names)),some v1,some (K1 (both (pre++[p]))),some (W.d (.str p.1)),some (W.d (.str p.2))]):=by
      refine(aK q1).trans ((aK ((cI c1).trans rfl)).trans ((aK ((cI c2).trans rfl)).trans ?_))
      rw[aK (Q6 (Gu (p:=p) (ps:=both pre) (uN rfl rfl) rfl n1 (by omega)))]
      rw[Q6 (Gu (p:=(p.2,p.1)) (ps:=both pre++[p]) (uN rfl rfl) rfl n2 (by rw[List.length_append];simp;omega))]
      unfold both
      rw[List.flatMap_append,List.append_assoc];rfl
     exact qF (e0:=e0) rfl st (yC r (pre++[p]) _ _ (fun q hq=>hs q (List.mem_cons_of_mem _ hq)) (by rw[List.length_append];simp only[List.length_cons,List.length_nil] at hl ⊢;omega) hk)
theorem aam{names:List Str}{jz:List Ar}(hs:∀ x∈names,Sh x)(hl:names.length≤100)(hp:∀ p∈jz,Sh p.1∧Sh p.2)(hq:jz.length≤100)(h:due names jz≠.ok):mY [.d (aC names),.d (eZ jz)]=.ex ⟨(due names jz).c,[]⟩:=by
 obtain⟨x1,x2⟩:=XD hs hl
 unfold mY yM
 rw[pL]
 rw[show ([some (W.d (aC names)),some (W.d (eZ jz))]++List.replicate (4 - 2) none)=[some (W.d (aC names)),some (W.d (eZ jz)),none,none] from rfl]
 have cx1:∀ {z:yR},bB [.d (aC names)]=.ex z→jr bB [(wD (mV 0))] [some (W.d (aC names)),some (W.d (eZ jz)),none,none]=.ex z:=fun {z} hz=>by
  unfold jr
  rw[bQ,show wD (mV 0) [some (W.d (aC names)),some (W.d (eZ jz)),none,none]=.ok (.d (aC names)) from rfl,aA,bQ,aA]
  show ((bB [.d (aC names)]).bind fun _=>_)=_
  rw[hz];rfl
 have cx2:bB [.d (aC names)]=.ok (.d .non)→jr bB [(wD (mV 0))] [some (W.d (aC names)),some (W.d (eZ jz)),none,none]=.ok (.nx [some (W.d (aC names)),some (W.d (eZ jz)),none,none]):=fun hz=>by
  unfold jr
  rw[bQ,show wD (mV 0) [some (W.d (aC names)),some (W.d (eZ jz)),none,none]=.ok (.d (aC names)) from rfl,aA,bQ,aA]
  show ((bB [.d (aC names)]).bind fun _=>_)=_
  rw[hz];rfl
 unfold due at h ⊢
 by_cases hk:CJ names=.ok
 ·rw[if_pos hk] at h ⊢
  rw[aK (cx2 (x1 hk))]
  have px:dX [.d (aC names),.d (eZ jz)]=.ex ⟨(Oj names [] jz).c,[]⟩:=by
   unfold dX lN
   rw[pL]
   rw[show ([some (W.d (aC names)),some (W.d (eZ jz))]++List.replicate (5 - 2) none)=[some (W.d (aC names)),some (W.d (eZ jz)),none,none,none] from rfl]
   rw[aK (e':=[some (W.d (aC names)),some (W.d (eZ jz)),some (K1 (both [])),none,none]) rfl]
   rw[lC (Ng (j7 (a:=mV 1) (x:=eZ jz) rfl rfl))]
   rw[show _=_ from yC (names:=names) (v1:=W.d (eZ jz)) jz [] none none hp (by simp only[List.length_nil];omega) h]
   rfl
  rw[sU (ym rfl rfl px)];rfl
 ·rw[if_neg hk] at h ⊢
  rw[sU (cx1 (x2 hk))];rfl
theorem Y4{d:Du}(h:d≠.ok):mX [.ex d.c]=.ok (.d (.lst [.str d.s])):=by
 cases d with
 | ok=>exact absurd rfl h
 | ws=>rfl
 | nw=>rfl
 | tw=>rfl
 | nn=>rfl
theorem aca{names:List Str}{jz:List Ar}(hs:∀ x∈names,Sh x)(hl:names.length≤100)(hp:∀ p∈jz,Sh p.1∧Sh p.2)(hq:jz.length≤100)(h:due names jz≠.ok):fW [.d (aC names),.d (eZ jz)]=.ok (.d (.lst [.str (due names jz).s])):=by
 have hb:=aam hs hl hp hq h
 have hc:(due names jz).c∈["NoName", "WrongSize", "NoWord", "Twice"]:=by
  cases z:due names jz with
  | ok=>exact absurd z h
  | ws=>simp[Du.c]
  | nw=>simp[Du.c]
  | tw=>simp[Du.c]
  | nn=>simp[Du.c]
 have hk:=Y4 h
 generalize due names jz=d at hb hc hk
 unfold fW u0
 rw[pL]
 rw[show ([some (W.d (aC names)),some (W.d (eZ jz))]++List.replicate (4 - 2) none)=[some (W.d (aC names)),some (W.d (eZ jz)),none,none] from rfl]
 rw[aK (e':=[some (W.d (aC names)),some (W.d (eZ jz)),some (W.d (.lst [])),none]) (bC (VJ _))]
 have hh:=bC (i:=2) (BR (f:=mX) (a:=wV 3) (e:=[some (W.d (aC names)),some (W.d (eZ jz)),some (W.d (.lst [])),some (.ex d.c)]) rfl hk)
 rw[aK (e':=[some (W.d (aC names)),some (W.d (eZ jz)),some (W.d (.lst [.str d.s])),none]) (X5 (z:=⟨d.c,[]⟩) (o:=.nx [some (W.d (aC names)),some (W.d (eZ jz)),some (W.d (.lst [.str d.s])),some (.ex d.c)]) (ym rfl rfl hb) hc hh)]
 rw[dj (b8 rfl)]
 rfl
end Mr
namespace Mr
end Mr
namespace My
theorem Eu(c:Int)(many:Nat)(c1:¬ c % 4 < 2):∀ x∈words c many,xF x:=by
 unfold words
 rw[if_neg c1]
 intro x hx
 obtain⟨k,hk,rfl⟩:=List.mem_map.mp hx
 have h1:=Int.emod_nonneg (c / 4) (b:=8) (by decide)
 have h2:=Int.emod_lt_of_pos (c / 4) (b:=8) (by decide)
 have h3:=Int.emod_nonneg (c / 256) (b:=c / 4 % 8+1) (by omega)
 have h4:=Int.emod_lt_of_pos (c / 256) (b:=c / 4 % 8+1) (by omega)
 have hl:((gq c (c / 4 % 8).toNat).take (c / 256 % (c / 4 % 8+1)).toNat++[oH (c / 7+5 * (k:Int))]++(gq c (c / 4 % 8).toNat).drop (c / 256 % (c / 4 % 8+1)).toNat).length=(c / 4 % 8).toNat+1:=by
  rw[List.length_append,List.length_append,List.length_take,List.length_drop,iw];simp;omega
 refine⟨by rw[hl];omega,by rw[hl];omega,fun y hy=>?_⟩
 rcases List.mem_append.mp hy with hy|hy
 ·rcases List.mem_append.mp hy with hy|hy
  ·exact uv c _ y (List.mem_of_mem_take hy)
  ·have:y=oH (c / 7+5 * (k:Int)):=by simpa using hy
   subst this;exact Ew _ (wM _)
 ·exact uv c _ y (List.mem_of_mem_drop hy)
end My
namespace Mr
open PySem Mi
open My (words xF dZ iT)
def Tx(x:Str):Prop:=x.length≤20∧∀ c∈x.cps.toList,c < 128
theorem Tx.sh{x:Str}(h:Tx x):Sh x:=⟨by have:=h.1;omega,h.2⟩
def uP:Str := "ABCXYZ0189 _-.,:>|\n\t"
theorem tK:uP.length=20:=by decide +kernel
theorem RN:∀ c∈uP.cps.toList,c < 128∧low c=false:=by decide +kernel
theorem t6(x y:Str):(x++y).cps.toList=x.cps.toList++y.cps.toList:=by show (x.cps++y.cps).toList=_;rw[Array.toList_append]
theorem Nv(x y:Str):(x++y).length=x.length+y.length:=by rw[← len_list,t6,List.length_append,len_list,len_list]
theorem tY(x:Str)(lo hi:Option Int):(f9 x lo hi).cps.toList=lM x.cps.toList lo hi:=rfl
theorem Ma{z:Str}:∀ {n:Nat} {acc:Array Nat} {c:Nat},c∈((List.replicate n z.cps).foldl (· ++ ·) acc).toList→c∈acc.toList∨c∈z.cps.toList
 | 0,acc,c,h=>.inl h
 | n+1,acc,c,h=>by
  rw[List.replicate_succ,List.foldl_cons] at h
  rcases Ma h with h|h
  ·rw[Array.toList_append] at h
   rcases List.mem_append.mp h with h|h
   ·exact .inl h
   ·exact .inr h
  ·exact .inr h
theorem HS{x:Str}{c:Nat}(hc:c∈x.cps.toList)(hl:low c=false):isW x=false:=by
 unfold isW
 have:x.cps.toList.all low=false:=by
  rw[Bool.eq_false_iff]
  intro h
  have:=List.all_eq_true.mp h c hc
  rw[hl] at this;cases this
 rw[this,Bool.and_false]
theorem wJ{x:Str}(h:x.length=0∨9≤x.length):isW x=false:=by
 unfold isW
 have:(decide (1≤x.length) && decide (x.length≤8))=false:=by
  rw[Bool.and_eq_false_iff,decide_eq_false_iff_not,decide_eq_false_iff_not];omega
 rw[this,Bool.false_and]
theorem Km{x:Str}(hx:Tx x)(d:Int):∃ y,jt [.d (.str x),.d (.int d)]=.ok (.d (.str y))∧isW y=false∧Tx y:=by
 obtain⟨lx,ax⟩:=hx
 have mp:(0:Int) < max 1 (x.length:Int):=by omega
 have q0:=Int.emod_nonneg (d / 4) (b:=max 1 (x.length:Int)) (by omega)
 have q1:=Int.emod_lt_of_pos (d / 4) mp
 obtain⟨k,hk⟩ : ∃ k:Nat,d / 4 % max 1 (x.length:Int)=(k:Int):=⟨(d / 4 % max 1 (x.length:Int)).toNat,by omega⟩
 have dv:∀ (j:Int) (e:Mi.Env),0 < j→j < 2 ^ 64→mV 1 e=.ok (.int d)→m2 cJ (mV 1) (mC (.int j)) e=.ok (.int (d / j)):=fun j e k0 k1 h=>aG h rfl ((div_ii _ _).trans (aj (cz k0 k1)))
 have pre:∀ rest:S,aV (bV 2 (mC (.str "ABCXYZ0189 _-.,:>|\n\t"))) (aV (bV 3 (m2 bI (m2 cJ (mV 1) (mC (.int 4))) (mN vR [(mC (.int 1)),(mN cZ [(mV 0)])]))) rest) [some (W.d (.str x)),some (W.d (.int d)),none,none]=rest [some (W.d (.str x)),some (W.d (.int d)),some (W.d (.str uP)),some (W.d (.int (k:Int)))]:=fun rest=>by
  rw[aK (e':=[some (W.d (.str x)),some (W.d (.int d)),some (W.d (.str uP)),none]) (bC rfl)]
  exact aK (bC (aG (dv 4 _ (by decide) (by decide) rfl) ((HX rfl (len_str rfl (by omega))).trans (Bk _ _)) ((gF _ _).trans ((aj mp).trans (by rw[hk])))))
 have cm:∀ (j:Int) (e:Mi.Env),mV 1 e=.ok (.int d)→cB (m2 rQ (m2 bI (mV 1) (mC (.int 4))) (mC (.int j))) e=.ok (decide (d % 4=j)):=fun j e h=>cC (aG (aG h rfl ((gF _ _).trans (aj (by decide)))) rfl (ph _ _))
 unfold jt yK
 rw[pL]
 rw[show ([some (W.d (.str x)),some (W.d (.int d))]++List.replicate (4 - 2) none)=[some (W.d (.str x)),some (W.d (.int d)),none,none] from rfl]
 rw[pre]
 have c0:=cm 0 [some (W.d (.str x)),some (W.d (.int d)),some (W.d (.str uP)),some (W.d (.int (k:Int)))] rfl
 have c1:=cm 1 [some (W.d (.str x)),some (W.d (.int d)),some (W.d (.str uP)),some (W.d (.int (k:Int)))] rfl
 by_cases h0:d % 4=0
 ·rw[decide_eq_true h0] at c0
  refine⟨"", ?_,wJ (.inl rfl),by show 0≤20;omega,fun c hc=>(nomatch hc)⟩
  rw[jK ((gW c0).trans (dj (b8 rfl)))];rfl
 ·rw[decide_eq_false h0] at c0
  rw[aK ((cI c0).trans rfl)]
  by_cases h1:d % 4=1
  ·rw[decide_eq_true h1] at c1
   have rl:=Hw x 9
   have cl:(f9 (Av x 9) none (some 9)).length=min 9 (9 * x.length):=by
    rw[← len_list,tY]
    have:=qH (Av x 9).cps.toList 9
    rw[show ((9:Nat):Int)=9 from rfl] at this
    rw[this,List.length_take,len_list,rl]
   refine⟨f9 (Av x 9) none (some 9),?_,wJ (by rw[cl];omega),by rw[cl];omega,fun c hc=>?_⟩
   ·rw[jK ((gW c1).trans (dj (b8 ((vA (f:=kY) (b:=mC (.int 9)) (aG (a:=mV 0) (b:=mC (.int 9)) (x:=.str x) rfl rfl (aj ⟨by decide,by decide,by omega⟩)) rfl).trans ((Ae _ _ _).trans (aj (by rw[show ((9:Int).toNat)=9 from rfl,rl];omega)))))))]
    rfl
   ·have:=w6 (show c∈lM (Av x 9).cps.toList none (some 9) from hc)
    rcases Ma (show c∈((List.replicate 9 x.cps).foldl (· ++ ·) #[]).toList from this) with h|h
    ·exact nomatch h
    ·exact ax c h
  ·rw[decide_eq_false h1] at c1
   rw[aK ((cI c1).trans rfl)]
   have z0:=Int.emod_nonneg (d / 64) (b:=20) (by decide)
   have z1:=Int.emod_lt_of_pos (d / 64) (b:=20) (by decide)
   have ol:uP.cps.toList.length=20:=by rw[len_list,tK]
   have ha:=Jp (xs:=uP.cps.toList) (i:=d / 64 % 20) z0 (by rw[ol];exact z1) 0
   obtain⟨c,hc⟩ : ∃ c,c=uP.cps.toList.getD (d / 64 % 20).toNat 0:=⟨_,rfl⟩
   have cm:c∈uP.cps.toList:=by
    have hn:(d / 64 % 20).toNat < uP.cps.toList.length:=by rw[ol];omega
    rw[hc,List.getD_eq_getElem?_getD,List.getElem?_eq_getElem hn]
    exact List.getElem_mem hn
   obtain⟨c128,clow⟩:=RN c cm
   rw[← hc] at ha
   have ix:dU (.str uP) (.int (d / 64 % 20))=.ok (.str (jb c)):=by
    show aO _ _=_
    rw[aj (by rw[tK];decide),ha];rfl
   have h1l:(f9 x none (some (k:Int))).length≤k:=by
    rw[← len_list,tY,qH,List.length_take];omega
   have h2l:(f9 x (some ((k:Int)+1)) none).length=x.length - (k+1):=by
    rw[← len_list,tY,show (k:Int)+1=((k+1:Nat):Int) by omega,tW,List.length_drop,len_list]
   have h3l:(f9 x none (some (k:Int))++jb c).length≤k+1:=by rw[Nv];show _+1≤_;omega
   refine⟨f9 x none (some (k:Int))++jb c++f9 x (some ((k:Int)+1)) none,?_,HS (c:=c) (by rw[t6,t6];simp[jb]) clow,?_,fun e he=>?_⟩
   ·have g1:m2 dU (mV 2) (m2 bI (m2 cJ (mV 1) (mC (.int 64))) (mN cZ [(mV 2)])) [some (W.d (.str x)),some (W.d (.int d)),some (W.d (.str uP)),some (W.d (.int (k:Int)))]=.ok (.str (jb c)) :=
     aG (x:=.str uP) rfl (aG (dv 64 _ (by decide) (by decide) rfl) (len_str rfl (by rw[tK];decide)) ((gF _ _).trans ((aj (by rw[tK];decide)).trans (by rw[tK];rfl)))) ix
    have g2:dY kY (mV 0) none (some (mV 3)) [some (W.d (.str x)),some (W.d (.int d)),some (W.d (.str uP)),some (W.d (.int (k:Int)))]=.ok (.str (f9 x none (some (k:Int)))):=(vA (f:=kY) (a:=mV 0) (b:=mV 3) rfl rfl).trans ((Ae _ _ _).trans (aj (by omega)))
    have g3:dY kY (mV 0) (some (m2 bU (mV 3) (mC (.int 1)))) none [some (W.d (.str x)),some (W.d (.int d)),some (W.d (.str uP)),some (W.d (.int (k:Int)))]=.ok (.str (f9 x (some ((k:Int)+1)) none)):=(Ad (f:=kY) (a:=mV 0) (b:=m2 bU (mV 3) (mC (.int 1))) rfl (aG rfl rfl rfl)).trans ((Ae _ _ _).trans (aj (by omega)))
    rw[dj (b8 (aG (aG g2 g1 ((rH _ _).trans (aj (by show _+1≤_;omega)))) g3 ((rH _ _).trans (aj (by omega)))))]
    rfl
   ·rw[Nv,h2l];omega
   ·rw[t6,t6] at he
    rcases List.mem_append.mp he with he|he
    ·rcases List.mem_append.mp he with he|he
     ·exact ax e (w6 (show e∈lM x.cps.toList none (some (k:Int)) from he))
     ·rw[List.mem_singleton.mp (show e∈[c] from he)];exact c128
    ·exact ax e (w6 (show e∈lM x.cps.toList (some ((k:Int)+1)) none from he))
theorem XJ(v:Int)(m:Nat)(h:¬ v % 4 < 2)(l:List Nat)(hl:l∈words v m):Tx (S' l):=by
 obtain⟨h1,h2,h3⟩:=My.Eu v m h l hl
 exact⟨by rw[jh];omega,fun c hc=>by have:=h3 c hc;omega⟩
theorem Gk{N:List Str}(hp:1≤N.length)(i:Int):∃ x,x∈N∧dU (aC N) (.int (i % (N.length:Int)))=.ok (.str x):=by
 have q0:=Int.emod_nonneg i (b:=(N.length:Int)) (by omega)
 have q1:=Int.emod_lt_of_pos i (b:=(N.length:Int)) (by omega)
 exact⟨_,nR (names:=N) (i:=(i % (N.length:Int)).toNat) (by omega),zA (cs:=N) q0 q1⟩
theorem V0{x:Str}{N:List Str}(h:x∈N)(k:Nat):¬ (N.take k++[x]++N.drop k).Nodup:=fun nd=>by
 have h2:=h
 rw[← List.take_append_drop k N] at h2
 rw[List.nodup_append,List.nodup_append] at nd
 rcases List.mem_append.mp h2 with z|z
 ·exact nd.1.2.2 x z x (by simp) rfl
 ·exact nd.2.2 x (by simp) x z rfl
theorem uW{N:List Str}(hp:1≤N.length)(h12:N.length≤12)(ht:∀ x∈N,Tx x){w:Int}(hw:w=2→N.length≤8)(d:Int):∃ R,dJ [.d (aC N),.d (.int w),.d (.int d)]=.ok (.d (aC R))∧(∀ x∈R,Tx x)∧R.length≤13∧CJ R≠.ok∧(w=2∨w=3∨w=4→1≤R.length∧R.length≤13)∧(N.length≤8→R.length≤12):=by
 have q0:=Int.emod_nonneg (d / 3) (b:=(N.length:Int)) (by omega)
 have q1:=Int.emod_lt_of_pos (d / 3) (b:=(N.length:Int)) (by omega)
 obtain⟨k,hk⟩ : ∃ k:Nat,d / 3 % (N.length:Int)=(k:Int):=⟨(d / 3 % (N.length:Int)).toNat,by omega⟩
 have kl:k < N.length:=by omega
 let e0:Mi.Env:=[some (W.d (aC N)),some (W.d (.int w)),some (W.d (.int d)),some (W.d (.int (k:Int)))]
 have dv:∀ (j:Int) (e:Mi.Env),0 < j→j < 2 ^ 64→mV 2 e=.ok (.int d)→m2 cJ (mV 2) (mC (.int j)) e=.ok (.int (d / j)):=fun j e k0 k1 h=>aG h rfl ((div_ii _ _).trans (aj (cz k0 k1)))
 have cw:∀ j:Int,cB (m2 rQ (mV 1) (mC (.int j))) e0=.ok (decide (w=j)):=fun j=>cC (aG rfl rfl (ph w j))
 have s1:dY kY (mV 0) none (some (mV 3)) e0=.ok (aC (N.take k)):=(vA (f:=kY) (a:=mV 0) (b:=mV 3) (x:=aC N) (i:=(k:Int)) rfl rfl).trans (by
  show Rs.ok (D.lst (lM (N.map D.str) none (some (k:Int))))=_
  rw[qH,← List.map_take];rfl)
 have s2:dY kY (mV 0) (some (mV 3)) none e0=.ok (aC (N.drop k)):=(Ad (f:=kY) (a:=mV 0) (b:=mV 3) (x:=aC N) (i:=(k:Int)) rfl rfl).trans (by
  show Rs.ok (D.lst (lM (N.map D.str) (some (k:Int)) none))=_
  rw[tW,← List.map_drop];rfl)
 have s3:dY kY (mV 0) (some (m2 bU (mV 3) (mC (.int 1)))) none e0=.ok (aC (N.drop (k+1))):=(Ad (f:=kY) (a:=mV 0) (b:=m2 bU (mV 3) (mC (.int 1))) (x:=aC N) (i:=((k:Int)+1)) rfl (aG rfl rfl rfl)).trans (by
  show Rs.ok (D.lst (lM (N.map D.str) (some ((k:Int)+1)) none))=_
  rw[show (k:Int)+1=((k+1:Nat):Int) by omega,tW,← List.map_drop];rfl)
 have cat:∀ {A B C:List Str} {a b c:E},a e0=.ok (aC A)→b e0=.ok (aC B)→c e0=.ok (aC C)→A.length+B.length+C.length≤100→m2 bU (m2 bU a b) c e0=.ok (aC (A++B++C)):=fun {A B C a b c} ha hb hc hl =>
  aG (aG ha hb ((ud _ _).trans ((aj (by rw[List.length_map,List.length_map];omega)).trans (by rw[← List.map_append])))) hc ((ud _ _).trans ((aj (by rw[List.length_map,List.length_map,List.length_append];omega)).trans (by rw[← List.map_append];rfl)))
 have tk:(N.take k).length=k:=by rw[List.length_take];omega
 have dk:(N.drop k).length=N.length - k:=List.length_drop
 have dk1:(N.drop (k+1)).length=N.length - (k+1):=List.length_drop
 have head:dJ [.d (aC N),.d (.int w),.d (.int d)]=Rs.bind ((aV (fL (cB (m2 rQ (mV 1) (mC (.int 1)))) (cY (wD (mN ie []))) aX)
 (aV (fL (cB (m2 rQ (mV 1) (mC (.int 2))))
 (cY (wD (m2 bU (m2 bU (dY kY (mV 0) none (some (mV 3))) (bh iB [(wD (m2 bU (m2 dF (mC (.int 4)) (m2 bI (mV 2) (m2 T4 (mC (.int 10)) (mC (.int 9))))) (mC (.int 2)))),(wD (m2 za (m2 bU (mC (.int 9)) (m2 bI (mV 2) (mC (.int 4)))) (mN cZ [(mV 0)])))])) (dY kY (mV 0) (some (mV 3)) none))))
 aX)
 (aV (fL (cB (m2 rQ (mV 1) (mC (.int 3))))
 (cY (wD (m2 bU (m2 bU (dY kY (mV 0) none (some (mV 3))) (mN ie [(bh jt [(wD (m2 dU (mV 0) (mV 3))),(wD (m2 cJ (mV 2) (mC (.int 24))))])])) (dY kY (mV 0) (some (m2 bU (mV 3) (mC (.int 1)))) none))))
 aX)
 (cY (wD (m2 bU (m2 bU (dY kY (mV 0) none (some (mV 3))) (mN ie [(m2 dU (mV 0) (m2 bI (m2 cJ (mV 2) (mC (.int 24))) (mN cZ [(mV 0)])))])) (dY kY (mV 0) (some (mV 3)) none))))))) e0) tU:=by
  unfold dJ t7
  rw[V8]
  rw[show ([some (W.d (aC N)),some (W.d (.int w)),some (W.d (.int d))]++List.replicate (4 - 3) none)=[some (W.d (aC N)),some (W.d (.int w)),some (W.d (.int d)),none] from rfl]
  rw[aK (e':=e0) (bC (aG (dv 3 _ (by decide) (by decide) rfl) (Ij rfl) ((gF _ _).trans ((aj (by omega)).trans (by rw[hk])))))]
 rw[head]
 by_cases w1:w=1
 ·have c:=cw 1
  rw[decide_eq_true w1] at c
  refine⟨[],?_,fun x hx=>(nomatch hx),by show 0≤13;omega,by decide,fun h=>by omega,fun _=>by show 0≤12;omega⟩
  rw[jK ((gW c).trans (dj (b8 (VJ _))))];rfl
 ·have c:=cw 1
  rw[decide_eq_false w1] at c
  rw[aK ((cI c).trans rfl)]
  by_cases w2:w=2
  ·have c:=cw 2
   rw[decide_eq_true w2] at c
   have n8:=hw w2
   have z0:=Int.emod_nonneg d (b:=4) (by decide)
   have z1:=Int.emod_lt_of_pos d (b:=4) (by decide)
   obtain⟨m,hm⟩ : ∃ m:Nat,9+d % 4 - (N.length:Int)=(m:Int):=⟨(9+d % 4 - (N.length:Int)).toNat,by omega⟩
   have y0:=Int.emod_nonneg d (b:=10 ^ (9:Int).toNat) (by decide)
   have y1:=Int.emod_lt_of_pos d (b:=10 ^ (9:Int).toNat) (by decide)
   obtain⟨v,hv⟩ : ∃ v:Int,v=4 * (d % 10 ^ (9:Int).toNat)+2:=⟨_,rfl⟩
   have v4:¬ v % 4 < 2:=by rw[hv];omega
   have ws:=JP v m (by omega) v4
   have wl:=iT v m
   have hp9:m2 T4 (mC (.int 10)) (mC (.int 9)) e0=.ok (.int (10 ^ (9:Int).toNat)):=aG rfl rfl (aj (by decide))
   have cl:bh iB [(wD (m2 bU (m2 dF (mC (.int 4)) (m2 bI (mV 2) (m2 T4 (mC (.int 10)) (mC (.int 9))))) (mC (.int 2)))),(wD (m2 za (m2 bU (mC (.int 9)) (m2 bI (mV 2) (mC (.int 4)))) (mN cZ [(mV 0)])))] e0=.ok (aC ((words v m).map S')) :=
    call2 (x:=.d (.int v)) (y:=.d (.int (m:Int))) (b8 ((aG (aG rfl (aG rfl hp9 ((gF _ _).trans (aj (by decide)))) ((xX _ _).trans (aj (jF (by decide) (by decide))))) rfl (oM _ _)).trans (by rw[hv])))
     (b8 ((aG (aG rfl (aG rfl rfl ((gF _ _).trans (aj (by decide)))) (oM _ _)) (Ij rfl) (z9 _ _)).trans (by rw[hm]))) ws
   have lw:((words v m).map S').length=m:=by rw[List.length_map,wl]
   refine⟨N.take k++(words v m).map S'++N.drop k,?_,fun x hx=>?_,?_,fun h=>?_,fun _=>?_,fun _=>?_⟩
   ·rw[jK ((gW c).trans (dj (b8 (cat s1 cl s2 (by omega)))))];rfl
   ·rcases List.mem_append.mp hx with hx|hx
    ·rcases List.mem_append.mp hx with hx|hx
     ·exact ht x (List.mem_of_mem_take hx)
     ·obtain⟨l,hl,rfl⟩:=List.mem_map.mp hx
      exact XJ v m v4 l hl
    ·exact ht x (List.mem_of_mem_drop hx)
   ·rw[List.length_append,List.length_append,lw,tk,dk];omega
   ·have:=(KZ h).1
    rw[List.length_append,List.length_append,lw,tk,dk] at this;omega
   ·rw[List.length_append,List.length_append,lw,tk,dk];omega
   ·rw[List.length_append,List.length_append,lw,tk,dk];omega
  ·have c:=cw 2
   rw[decide_eq_false w2] at c
   rw[aK ((cI c).trans rfl)]
   by_cases w3:w=3
   ·have c:=cw 3
    rw[decide_eq_true w3] at c
    obtain⟨x,mx,ix⟩:=Gk hp (d / 3)
    rw[hk] at ix
    obtain⟨y,hy,nw,ty⟩:=Km (ht x mx) (d / 24)
    have cl:mN ie [(bh jt [(wD (m2 dU (mV 0) (mV 3))),(wD (m2 cJ (mV 2) (mC (.int 24))))])] e0=.ok (aC [y]):=VH (call2 (x:=.d (.str x)) (b8 (aG (x:=aC N) rfl rfl ix)) (b8 (dv 24 _ (by decide) (by decide) rfl)) hy)
    refine⟨N.take k++[y]++N.drop (k+1),?_,fun z hz=>?_,?_,fun h=>?_,fun _=>?_,fun _=>?_⟩
    ·rw[jK ((gW c).trans (dj (b8 (cat s1 cl s3 (by simp only[List.length_cons,List.length_nil];omega)))))];rfl
    ·rcases List.mem_append.mp hz with hz|hz
     ·rcases List.mem_append.mp hz with hz|hz
      ·exact ht z (List.mem_of_mem_take hz)
      ·rw[List.mem_singleton.mp hz];exact ty
     ·exact ht z (List.mem_of_mem_drop hz)
    ·rw[List.length_append,List.length_append,tk,dk1];simp only[List.length_cons,List.length_nil];omega
    ·have:=(KZ h).2.1 y (by simp)
     rw[nw] at this;cases this
    ·rw[List.length_append,List.length_append,tk,dk1];simp only[List.length_cons,List.length_nil];omega
    ·rw[List.length_append,List.length_append,tk,dk1];simp only[List.length_cons,List.length_nil];omega
   ·have c:=cw 3
    rw[decide_eq_false w3] at c
    rw[aK ((cI c).trans rfl)]
    obtain⟨x,mx,ix⟩:=Gk hp (d / 24)
    have cl:mN ie [(m2 dU (mV 0) (m2 bI (m2 cJ (mV 2) (mC (.int 24))) (mN cZ [(mV 0)])))] e0=.ok (aC [x]):=VH (aG (x:=aC N) rfl (aG (dv 24 _ (by decide) (by decide) rfl) (Ij rfl) ((gF _ _).trans (aj (by omega)))) ix)
    refine⟨N.take k++[x]++N.drop k,?_,fun z hz=>?_,?_,fun h=>V0 mx k (KZ h).2.2,fun _=>?_,fun _=>?_⟩
    ·rw[dj (b8 (cat s1 cl s2 (by simp only[List.length_cons,List.length_nil];omega)))];rfl
    ·rcases List.mem_append.mp hz with hz|hz
     ·rcases List.mem_append.mp hz with hz|hz
      ·exact ht z (List.mem_of_mem_take hz)
      ·rw[List.mem_singleton.mp hz];exact ht x mx
     ·exact ht z (List.mem_of_mem_drop hz)
    ·rw[List.length_append,List.length_append,tk,dk];simp only[List.length_cons,List.length_nil];omega
    ·rw[List.length_append,List.length_append,tk,dk];simp only[List.length_cons,List.length_nil];omega
    ·rw[List.length_append,List.length_append,tk,dk];simp only[List.length_cons,List.length_nil];omega
end Mr
namespace Mr
open PySem Mi
open My (words xF dZ iT)
theorem V1{names:List Str}{L:List Ar}{q:Ar}(k:Nat)(h:(q.1∉names∨q.2∉names∨q.1=q.2)∨q∈L∨(q.2,q.1)∈L):¬ Jw names (L.take k++[q]++L.drop k):=fun G=>by
 have mq:q∈L.take k++[q]++L.drop k:=by simp
 obtain⟨g1,g2,g3⟩:=G.inn q mq
 have pw:=G.pw
 rw[List.pairwise_append,List.pairwise_append] at pw
 have sp:∀ {p:Ar},p∈L→p∈L.take k∨p∈L.drop k:=fun {p} h=>List.mem_append.mp (by rw[List.take_append_drop];exact h)
 rcases h with (z|z|z)|z|z
 ·exact z g1
 ·exact z g2
 ·exact g3 z
 ·rcases sp z with y|y
  ·exact(pw.1.2.2 q y q (by simp)).1 rfl
  ·exact(pw.2.2 q (by simp) q y).1 rfl
 ·rcases sp z with y|y
  ·exact(pw.1.2.2 _ y q (by simp)).2 rfl
  ·exact(pw.2.2 q (by simp) _ y).2 rfl
theorem uc{names:List Str}(hp:1≤names.length)(h8:names.length≤8)(hs:∀ x∈names,x.length≤8∧∀ c∈x.cps.toList,c < 128){L:List Ar}(hL:∀ p∈L,Sh p.1∧Sh p.2)(hl:L.length≤90)(w d:Int)(hw:1≤w∧w≤4) :
 ∃ R,dO [.d (aC names),.d (eZ L),.d (.int w),.d (.int d)]=.ok (.d (eZ R))∧(∀ p∈R,Sh p.1∧Sh p.2)∧R.length=L.length+1∧L.Sublist R∧¬ Jw names R:=by
 have shn:∀ x∈names,Sh x:=fun x hx=>⟨by have:=(hs x hx).1;omega,(hs x hx).2⟩
 have q0:=Int.emod_nonneg (d / 7) (b:=(L.length:Int)+1) (by omega)
 have q1:=Int.emod_lt_of_pos (d / 7) (b:=(L.length:Int)+1) (by omega)
 obtain⟨k,hk⟩ : ∃ k:Nat,d / 7 % ((L.length:Int)+1)=(k:Int):=⟨(d / 7 % ((L.length:Int)+1)).toNat,by omega⟩
 obtain⟨one,mo,ho⟩:=Gk hp (d / 3)
 obtain⟨st,hst,nst,sst⟩:=Hj hp h8 hs (d / 64)
 have dv:∀ (j:Int) (e:Mi.Env),0 < j→j < 2 ^ 64→mV 3 e=.ok (.int d)→m2 cJ (mV 3) (mC (.int j)) e=.ok (.int (d / j)):=fun j e k0 k1 h=>aG h rfl ((div_ii _ _).trans (aj (cz k0 k1)))
 have hcall:∀ (e:Mi.Env),mV 0 e=.ok (aC names)→mV 3 e=.ok (.int d)→bh dI [(wD (mV 0)),(wD (m2 cJ (mV 3) (mC (.int 64))))] e=.ok (.str st):=fun e h0 h3=>call2 (x:=.d (aC names)) (b8 h0) (b8 (dv 64 e (by decide) (by decide) h3)) hst
 obtain⟨q,bq,sq1,sq2,hq⟩ : ∃ q:Ar,(q.1∉names∨q.2∉names)∧Sh q.1∧Sh q.2∧bV 6 (m2 dU (mN ie [(mN dTup [(mV 5),(bh dI [(wD (mV 0)),(wD (m2 cJ (mV 3) (mC (.int 64))))])]),(mN dTup [(bh dI [(wD (mV 0)),(wD (m2 cJ (mV 3) (mC (.int 64))))]),(mV 5)])]) (m2 bI (mV 3) (mC (.int 2)))) [some (W.d (aC names)),some (W.d (eZ L)),some (W.d (.int w)),some (W.d (.int d)),some (W.d (.int (k:Int))),some (W.d (.str one)),none] =
  .ok (.nx [some (W.d (aC names)),some (W.d (eZ L)),some (W.d (.int w)),some (W.d (.int d)),some (W.d (.int (k:Int))),some (W.d (.str one)),some (W.d (pairD q))]):=by
  have z0:=Int.emod_nonneg d (b:=2) (by decide)
  have z1:=Int.emod_lt_of_pos d (b:=2) (by decide)
  have l2:mN ie [(mN dTup [(mV 5),(bh dI [(wD (mV 0)),(wD (m2 cJ (mV 3) (mC (.int 64))))])]),(mN dTup [(bh dI [(wD (mV 0)),(wD (m2 cJ (mV 3) (mC (.int 64))))]),(mV 5)])] [some (W.d (aC names)),some (W.d (eZ L)),some (W.d (.int w)),some (W.d (.int d)),some (W.d (.int (k:Int))),some (W.d (.str one)),none]=.ok (.lst [pairD (one,st),pairD (st,one)]):=O5 (uN rfl (hcall _ rfl rfl)) (uN (hcall _ rfl rfl) rfl)
  have md:m2 bI (mV 3) (mC (.int 2)) [some (W.d (aC names)),some (W.d (eZ L)),some (W.d (.int w)),some (W.d (.int d)),some (W.d (.int (k:Int))),some (W.d (.str one)),none]=.ok (.int (d % 2)):=aG rfl rfl ((gF _ _).trans (aj (by decide)))
  rcases (by omega:d % 2=0∨d % 2=1) with z|z
  ·rw[z] at md
   exact⟨(one,st),.inr nst,shn one mo,sst,bC (aG l2 md rfl)⟩
  ·rw[z] at md
   exact⟨(st,one),.inl nst,sst,shn one mo,bC (aG l2 md rfl)⟩
 let E:Ar→Mi.Env:=fun q=>[some (W.d (aC names)),some (W.d (eZ L)),some (W.d (.int w)),some (W.d (.int d)),some (W.d (.int (k:Int))),some (W.d (.str one)),some (W.d (pairD q))]
 obtain⟨q2,bq2,t1,t2,hq2⟩ : ∃ q2:Ar,(q2.1∉names∨q2.2∉names∨q2.1=q2.2)∧Sh q2.1∧Sh q2.2∧(fL (cB (m2 rQ (mV 2) (mC (.int 2)))) (bV 6 (mN dTup [(mV 5),(mV 5)])) aX) (E q)=.ok (.nx (E q2)):=by
  have c:cB (m2 rQ (mV 2) (mC (.int 2))) (E q)=.ok (decide (w=2)):=cC (aG rfl rfl (ph w 2))
  by_cases h:w=2
  ·rw[decide_eq_true h] at c
   exact⟨(one,one),.inr (.inr rfl),shn one mo,shn one mo,(gW c).trans (bC (uN rfl rfl))⟩
  ·rw[decide_eq_false h] at c
   exact⟨q,bq.elim .inl (fun z=>.inr (.inl z)),sq1,sq2,(cI c).trans rfl⟩
 obtain⟨q3,bq3,u1,u2,hq3⟩ : ∃ q3:Ar,((q3.1∉names∨q3.2∉names∨q3.1=q3.2)∨q3∈L∨(q3.2,q3.1)∈L)∧Sh q3.1∧Sh q3.2∧(fL (nF (cB (m2 zb (mV 2) (mC (.int 2)))) (cB (m2 zb (mN cZ [(mV 1)]) (mC (.int 0)))))
 (aV (bV 6 (m2 dU (mV 1) (m2 bI (m2 cJ (mV 3) (mC (.int 24))) (mN cZ [(mV 1)]))))
 (fL (cB (m2 rQ (mV 2) (mC (.int 4))))
 (bV 6 (mN dTup [(m2 dU (mV 6) (mC (.int 1))),(m2 dU (mV 6) (mC (.int 0)))]))
 aX))
 aX) (E q2)=.ok (.nx (E q3)):=by
  have c:=xg (q:=decide ((0:Int) < (L.length:Int))) (cC (aG (a:=mV 2) (b:=mC (.int 2)) (e:=E q2) rfl rfl (tM w 2))) fun _=>cC (aG (b:=mC (.int 0)) (SM (xs:=L) (a:=mV 1) rfl) rfl (tM _ _))
  cases hc:(decide (2 < w) && decide ((0:Int) < (L.length:Int))) with
  | false =>
   rw[hc] at c
   exact⟨q2,.inl bq2,t1,t2,(cI c).trans rfl⟩
  | true =>
   rw[hc] at c
   have hpos:(0:Int) < (L.length:Int):=of_decide_eq_true (Bool.and_eq_true_iff.mp hc).2
   obtain⟨p,mp,hx⟩:=Ro (xs:=L) (Int.emod_nonneg (d / 24) (b:=(L.length:Int)) (by omega)) (Int.emod_lt_of_pos (d / 24) hpos)
   have s6:bV 6 (m2 dU (mV 1) (m2 bI (m2 cJ (mV 3) (mC (.int 24))) (mN cZ [(mV 1)]))) (E q2)=.ok (.nx (E p)):=bC (aG (x:=eZ L) rfl (aG (dv 24 _ (by decide) (by decide) rfl) (SM rfl) ((gF _ _).trans (aj hpos))) hx)
   have c4:cB (m2 rQ (mV 2) (mC (.int 4))) (E p)=.ok (decide (w=4)):=cC (aG rfl rfl (ph w 4))
   by_cases h:w=4
   ·rw[decide_eq_true h] at c4
    exact⟨(p.2,p.1),.inr (.inr mp),(hL p mp).2,(hL p mp).1,(gW c).trans ((aK s6).trans ((gW c4).trans (bC (uN (aG (x:=pairD p) rfl rfl rfl) (aG (x:=pairD p) rfl rfl rfl)))))⟩
   ·rw[decide_eq_false h] at c4
    exact⟨p,.inr (.inl mp),(hL p mp).1,(hL p mp).2,(gW c).trans ((aK s6).trans ((cI c4).trans rfl))⟩
 have s1:dY kY (mV 1) none (some (mV 4)) (E q3)=.ok (eZ (L.take k)):=(vA (f:=kY) (a:=mV 1) (b:=mV 4) (x:=eZ L) (i:=(k:Int)) rfl rfl).trans (by
  show Rs.ok (D.lst (lM (L.map pairD) none (some (k:Int))))=_
  rw[qH,← List.map_take];rfl)
 have s2:dY kY (mV 1) (some (mV 4)) none (E q3)=.ok (eZ (L.drop k)):=(Ad (f:=kY) (a:=mV 1) (b:=mV 4) (x:=eZ L) (i:=(k:Int)) rfl rfl).trans (by
  show Rs.ok (D.lst (lM (L.map pairD) (some (k:Int)) none))=_
  rw[tW,← List.map_drop];rfl)
 have tk:(L.take k).length=min k L.length:=List.length_take
 have dk:(L.drop k).length=L.length - k:=List.length_drop
 refine⟨L.take k++[q3]++L.drop k,?_,fun p hp=>?_,?_,?_,V1 k bq3⟩
 ·unfold dO rR
  rw[V7]
  rw[show ([some (W.d (aC names)),some (W.d (eZ L)),some (W.d (.int w)),some (W.d (.int d))]++List.replicate (7 - 4) none)=[some (W.d (aC names)),some (W.d (eZ L)),some (W.d (.int w)),some (W.d (.int d)),none,none,none] from rfl]
  rw[aK (e':=[some (W.d (aC names)),some (W.d (eZ L)),some (W.d (.int w)),some (W.d (.int d)),some (W.d (.int (k:Int))),none,none]) (bC (aG (dv 7 _ (by decide) (by decide) rfl) (aG (SM rfl) rfl (oM _ _)) ((gF _ _).trans ((aj (by omega)).trans (by rw[hk])))))]
  rw[aK (e':=[some (W.d (aC names)),some (W.d (eZ L)),some (W.d (.int w)),some (W.d (.int d)),some (W.d (.int (k:Int))),some (W.d (.str one)),none]) (bC (aG (x:=aC names) rfl (aG (dv 3 _ (by decide) (by decide) rfl) (Ij rfl) ((gF _ _).trans (aj (by omega)))) ho))]
  rw[aK hq]
  rw[show ([some (W.d (aC names)),some (W.d (eZ L)),some (W.d (.int w)),some (W.d (.int d)),some (W.d (.int (k:Int))),some (W.d (.str one)),some (W.d (pairD q))]:Mi.Env)=E q from rfl]
  rw[aK hq2,aK hq3]
  rw[dj (b8 (aG (aG s1 (VH (x:=pairD q3) rfl) ((ud _ _).trans ((aj (by rw[List.length_map,tk];simp only[List.length_cons,List.length_nil];omega)).trans rfl))) s2 ((ud _ _).trans ((aj (by rw[List.length_append,List.length_map,List.length_map,tk,dk];simp only[List.length_cons,List.length_nil];omega)).trans rfl))))]
  show Rs.ok (W.d (.lst ((L.take k).map pairD++[pairD q3]++(L.drop k).map pairD)))=_
  unfold eZ
  rw[List.map_append,List.map_append];rfl
 ·rcases List.mem_append.mp hp with hp|hp
  ·rcases List.mem_append.mp hp with hp|hp
   ·exact hL p (List.mem_of_mem_take hp)
   ·rw[List.mem_singleton.mp hp];exact⟨u1,u2⟩
  ·exact hL p (List.mem_of_mem_drop hp)
 ·rw[List.length_append,List.length_append,tk,dk];simp only[List.length_cons,List.length_nil];omega
 ·have:(L.take k++L.drop k).Sublist (L.take k++[q3]++L.drop k):=List.Sublist.append (List.sublist_append_left _ _) (List.Sublist.refl _)
  rw[List.take_append_drop] at this;exact this
theorem uX(ns:List Int)(hl:ns.length≤63):xY [.d (.lst (ns.map D.int))]=.ok (.d (.bl true)):=by
 obtain⟨names,A0,r,hnet,IN,cw,mw,hm8,hnm⟩:=R3 ns 8 (by decide) (by decide)
 rw[show ((8:Nat):Int)=8 from rfl] at hnet
 have hs:∀ x∈names,x.length≤8∧∀ c∈x.cps.toList,c < 128:=fun x hx=>by
  rw[hnm] at hx
  obtain⟨l,hl,rfl⟩:=List.mem_map.mp hx
  obtain⟨h1,h2,h3⟩:=dZ cw mw hm8 l hl
  exact⟨by rw[jh];exact h2,fun c hc=>by have:=h3 c hc;omega⟩
 have hw:∀ x∈names,dB [.d (.str x)]=.ok (.d (.bl true)):=fun x hx=>by
  rw[hnm] at hx
  obtain⟨l,hl,rfl⟩:=List.mem_map.mp hx
  exact U9 (dZ cw mw hm8 l hl)
 have shn:∀ x∈names,Sh x:=fun x hx=>⟨by have:=(hs x hx).1;omega,(hs x hx).2⟩
 have txn:∀ x∈names,Tx x:=fun x hx=>⟨by have:=(hs x hx).1;omega,(hs x hx).2⟩
 have made:=VD IN hw (List.Perm.refl _)
 have inn:∀ p∈A0.map (arrOf names),Sh p.1∧Sh p.2:=fun p hp=>by
  obtain⟨h1,h2⟩:=IN.nt.inn p hp
  exact⟨shn _ h1,shn _ h2⟩
 have al:(A0.map (arrOf names)).length≤56:=by rw[List.length_map];exact IN.few
 have hp:=IN.pos
 have h8:=IN.le
 generalize A0.map (arrOf names)=A at hnet made inn al
 obtain⟨c,hc⟩:=mQ ns 32 (by decide)
 obtain⟨c33,hc33⟩:=mQ ns 33 (by decide)
 obtain⟨c34,hc34⟩:=mQ ns 34 (by decide)
 obtain⟨c35,hc35⟩:=mQ ns 35 (by decide)
 obtain⟨c36,hc36⟩:=mQ ns 36 (by decide)
 rw[show ((32:Nat):Int)=32 from rfl] at hc
 rw[show ((33:Nat):Int)=33 from rfl] at hc33
 rw[show ((34:Nat):Int)=34 from rfl] at hc34
 rw[show ((35:Nat):Int)=35 from rfl] at hc35
 rw[show ((36:Nat):Int)=36 from rfl] at hc36
 have dv:∀ (j:Int) (e:Mi.Env),0 < j→j < 2 ^ 64→mV 2 e=.ok (.int c)→m2 cJ (mV 2) (mC (.int j)) e=.ok (.int (c / j)):=fun j e k0 k1 h=>aG h rfl ((div_ii _ _).trans (aj (cz k0 k1)))
 have md:∀ (j:Int) (e:Mi.Env),0 < j→mV 2 e=.ok (.int c)→m2 bI (mV 2) (mC (.int j)) e=.ok (.int (c % j)):=fun j e k0 h=>aG h rfl ((gF _ _).trans (aj k0))
 have dm:∀ (i j:Int) (e:Mi.Env),0 < i→i < 2 ^ 64→0 < j→mV 2 e=.ok (.int c)→m2 bI (m2 cJ (mV 2) (mC (.int i))) (mC (.int j)) e=.ok (.int (c / i % j)):=fun i j e i0 i1 j0 h=>aG (dv i e i0 i1 h) rfl ((gF _ _).trans (aj j0))
 let v0:W:=.d (.lst (ns.map D.int))
 let v1:W:=.d (kO names A)
 let v2:W:=.d (.int c)
 obtain⟨L0,o5,i0,l0,h0⟩ : ∃ (L0:List Ar) (o5:Option W),(∀ p∈L0,Sh p.1∧Sh p.2)∧L0.length≤56∧(fL (nF (cB (m2 rQ (m2 bI (m2 cJ (mV 2) (mC (.int 300))) (mC (.int 3))) (mC (.int 1)))) (cB (m2 zb (mN cZ [(mV 4)]) (mC (.int 0)))))
 (aV (bV 5 (m2 bI (m2 cJ (mV 2) (mC (.int 1000))) (mN cZ [(mV 4)])))
 (vB 4 (mV 5) (mN dTup [(m2 dU (m2 dU (mV 4) (mV 5)) (mC (.int 1))),(m2 dU (m2 dU (mV 4) (mV 5)) (mC (.int 0)))])))
 aX) [some v0,some v1,some v2,some (.d (aC names)),some (.d (eZ A)),none,none,none]=.ok (.nx [some v0,some v1,some v2,some (.d (aC names)),some (.d (eZ L0)),o5,none,none]):=by
  have ct:=xg (q:=decide ((0:Int) < (A.length:Int))) (cC (aG (b:=mC (.int 1)) (dm 300 3 [some v0,some v1,some v2,some (.d (aC names)),some (.d (eZ A)),none,none,none] (by decide) (by decide) (by decide) rfl) rfl (ph (c / 300 % 3) 1))) fun _=>cC (aG (b:=mC (.int 0)) (SM (xs:=A) (a:=mV 4) rfl) rfl (tM _ _))
  cases hk:(decide (c / 300 % 3=1) && decide ((0:Int) < (A.length:Int))) with
  | false =>
   rw[hk] at ct
   exact⟨A,none,inn,al,(cI ct).trans rfl⟩
  | true =>
   rw[hk] at ct
   have hpos:(0:Int) < (A.length:Int):=of_decide_eq_true (Bool.and_eq_true_iff.mp hk).2
   have y0:=Int.emod_nonneg (c / 1000) (b:=(A.length:Int)) (by omega)
   have y1:=Int.emod_lt_of_pos (c / 1000) hpos
   obtain⟨k,hk2⟩ : ∃ k:Nat,c / 1000 % (A.length:Int)=(k:Int):=⟨(c / 1000 % (A.length:Int)).toNat,by omega⟩
   have kl:k < A.length:=by omega
   obtain⟨p,mp,hx⟩:=Ro (xs:=A) (i:=(k:Int)) (by omega) (by omega)
   refine⟨A.set k (p.2,p.1),some (.d (.int (k:Int))),fun q hq=>?_,by rw[List.length_set];exact al,(gW ct).trans ?_⟩
   ·rcases List.mem_or_eq_of_mem_set hq with z|z
    ·exact inn q z
    ·rw[z];exact⟨(inn p mp).2,(inn p mp).1⟩
   ·rw[aK (e':=[some v0,some v1,some v2,some (.d (aC names)),some (.d (eZ A)),some (.d (.int (k:Int))),none,none]) (bC (aG (dv 1000 _ (by decide) (by decide) rfl) (SM rfl) ((gF _ _).trans ((aj hpos).trans (by rw[hk2])))))]
    have tv:mN dTup [(m2 dU (m2 dU (mV 4) (mV 5)) (mC (.int 1))),(m2 dU (m2 dU (mV 4) (mV 5)) (mC (.int 0)))] [some v0,some v1,some v2,some (.d (aC names)),some (.d (eZ A)),some (.d (.int (k:Int))),none,none]=.ok (pairD (p.2,p.1)):=uN (aG (x:=pairD p) (aG (x:=eZ A) rfl rfl hx) rfl rfl) (aG (x:=pairD p) (aG (x:=eZ A) rfl rfl hx) rfl rfl)
    unfold vB
    rw[tv,aA,show mV 5 [some v0,some v1,some v2,some (.d (aC names)),some (.d (eZ A)),some (.d (.int (k:Int))),none,none]=.ok (.int (k:Int)) from rfl,aA,xq,aA,show getL [some v0,some v1,some v2,some (.d (aC names)),some (.d (eZ A)),some (.d (.int (k:Int))),none,none] 4=.ok (A.map pairD) from rfl,aA]
    rw[show Cz (A.map pairD).length (k:Int)=some k by unfold Cz;rw[if_pos (by omega),if_pos (by rw[List.length_map];omega),Int.toNat_natCast],iy,aA]
    rw[← List.map_set];rfl
 have wy:∀ j:Int,1≤1+c / j % 4∧1+c / j % 4≤4:=fun j=>by
  have a:=Int.emod_nonneg (c / j) (b:=4) (by decide)
  have b:=Int.emod_lt_of_pos (c / j) (b:=4) (by decide)
  omega
 have E:True:=trivial
 have way:∀ (b i j:Int) (e:Mi.Env),0 < i→i < 2 ^ 64→0 < j→mV 2 e=.ok (.int c)→m2 bU (mC (.int b)) (m2 bI (m2 cJ (mV 2) (mC (.int i))) (mC (.int j))) e=.ok (.int (b+c / i % j)):=fun b i j e i0 i1 j0 h=>aG rfl (dm i j e i0 i1 j0 h) (oM _ _)
 obtain⟨L1,i1,l1,b1,h1⟩ : ∃ L1:List Ar,(∀ p∈L1,Sh p.1∧Sh p.2)∧L1.length≤57∧(c % 7 < 5→¬ Jw names L1)∧(fL (cB (m2 sG (m2 bI (mV 2) (mC (.int 7))) (mC (.int 5))))
 (bV 4 (bh dO [(wD (mV 3)),(wD (mV 4)),(wD (m2 bU (mC (.int 1)) (m2 bI (m2 cJ (mV 2) (mC (.int 7))) (mC (.int 4))))),(wD (bh cO [(wD (mV 0)),(wD (mC (.int 33)))]))]))
 aX) [some v0,some v1,some v2,some (.d (aC names)),some (.d (eZ L0)),o5,none,none]=.ok (.nx [some v0,some v1,some v2,some (.d (aC names)),some (.d (eZ L1)),o5,none,none]):=by
  have ct:=cC (aG (b:=mC (.int 5)) (md 7 [some v0,some v1,some v2,some (.d (aC names)),some (.d (eZ L0)),o5,none,none] (by decide) rfl) rfl (rO _ _))
  by_cases h:c % 7 < 5
  ·rw[decide_eq_true h] at ct
   obtain⟨R,hR,iR,lR,_,bR⟩:=uc hp h8 hs i0 (by omega) (1+c / 7 % 4) c33 (wy 7)
   exact⟨R,iR,by omega,fun _=>bR,(gW ct).trans (bC (Xo rfl rfl (b8 (way 1 7 4 _ (by decide) (by decide) (by decide) rfl)) (b8 (call2 rfl rfl hc33)) hR))⟩
  ·rw[decide_eq_false h] at ct
   exact⟨L0,i0,by omega,fun z=>absurd z h,(cI ct).trans rfl⟩
 obtain⟨L2,i2,l2,b2,h2⟩ : ∃ L2:List Ar,(∀ p∈L2,Sh p.1∧Sh p.2)∧L2.length≤58∧(c % 7 < 5→¬ Jw names L2)∧(fL (cB (m2 sG (m2 bI (mV 2) (mC (.int 14))) (mC (.int 5))))
 (bV 4 (bh dO [(wD (mV 3)),(wD (mV 4)),(wD (m2 bU (mC (.int 1)) (m2 bI (m2 cJ (mV 2) (mC (.int 56))) (mC (.int 4))))),(wD (bh cO [(wD (mV 0)),(wD (mC (.int 34)))]))]))
 aX) [some v0,some v1,some v2,some (.d (aC names)),some (.d (eZ L1)),o5,none,none]=.ok (.nx [some v0,some v1,some v2,some (.d (aC names)),some (.d (eZ L2)),o5,none,none]):=by
  have ct:=cC (aG (b:=mC (.int 5)) (md 14 [some v0,some v1,some v2,some (.d (aC names)),some (.d (eZ L1)),o5,none,none] (by decide) rfl) rfl (rO _ _))
  by_cases h:c % 14 < 5
  ·rw[decide_eq_true h] at ct
   obtain⟨R,hR,iR,lR,sub,bR⟩:=uc hp h8 hs i1 (by omega) (1+c / 56 % 4) c34 (wy 56)
   exact⟨R,iR,by omega,fun _=>bR,(gW ct).trans (bC (Xo rfl rfl (b8 (way 1 56 4 _ (by decide) (by decide) (by decide) rfl)) (b8 (call2 rfl rfl hc34)) hR))⟩
  ·rw[decide_eq_false h] at ct
   exact⟨L1,i1,by omega,b1,(cI ct).trans rfl⟩
 obtain⟨N1,t1,n1,d1,s1,h3⟩ : ∃ N1:List Str,(∀ x∈N1,Tx x)∧N1.length≤12∧(3 < c % 7→CJ N1≠.ok)∧(¬ 3 < c % 7→N1=names)∧(fL (cB (m2 zb (m2 bI (mV 2) (mC (.int 7))) (mC (.int 3))))
 (bV 3 (bh dJ [(wD (mV 3)),(wD (m2 bU (mC (.int 1)) (m2 bI (m2 cJ (mV 2) (mC (.int 7))) (mC (.int 4))))),(wD (bh cO [(wD (mV 0)),(wD (mC (.int 35)))]))]))
 aX) [some v0,some v1,some v2,some (.d (aC names)),some (.d (eZ L2)),o5,none,none]=.ok (.nx [some v0,some v1,some v2,some (.d (aC N1)),some (.d (eZ L2)),o5,none,none]):=by
  have ct:=cC (aG (b:=mC (.int 3)) (md 7 [some v0,some v1,some v2,some (.d (aC names)),some (.d (eZ L2)),o5,none,none] (by decide) rfl) rfl (tM _ _))
  by_cases h:3 < c % 7
  ·rw[decide_eq_true h] at ct
   obtain⟨R,hR,tR,lR,dR,_,l12⟩:=uW hp (by omega) txn (w:=1+c / 7 % 4) (fun _=>h8) c35
   have l12:=l12 h8
   exact⟨R,tR,l12,fun _=>dR,fun z=>absurd h z,(gW ct).trans (bC (Xp rfl (b8 (way 1 7 4 _ (by decide) (by decide) (by decide) rfl)) (b8 (call2 rfl rfl hc35)) hR))⟩
  ·rw[decide_eq_false h] at ct
   exact⟨names,txn,by omega,fun z=>absurd z h,fun _=>rfl,(cI ct).trans rfl⟩
 obtain⟨N2,t2,n2,d2,s2,h4⟩ : ∃ N2:List Str,(∀ x∈N2,Tx x)∧N2.length≤13∧(3 < c % 7→CJ N2≠.ok)∧(¬ 3 < c % 7→N2=names)∧(fL (nF (cB (m2 zb (m2 bI (mV 2) (mC (.int 7))) (mC (.int 3)))) (nF (cB (m2 rQ (m2 bI (m2 cJ (mV 2) (mC (.int 28))) (mC (.int 2))) (mC (.int 1)))) (cB (m2 zb (mN cZ [(mV 3)]) (mC (.int 0))))))
 (bV 3 (bh dJ [(wD (mV 3)),(wD (m2 bU (mC (.int 3)) (m2 bI (m2 cJ (mV 2) (mC (.int 56))) (mC (.int 2))))),(wD (bh cO [(wD (mV 0)),(wD (mC (.int 36)))]))]))
 aX) [some v0,some v1,some v2,some (.d (aC N1)),some (.d (eZ L2)),o5,none,none]=.ok (.nx [some v0,some v1,some v2,some (.d (aC N2)),some (.d (eZ L2)),o5,none,none]):=by
  have ct:=xg (q:=decide (c / 28 % 2=1) && decide ((0:Int) < (N1.length:Int))) (cC (aG (b:=mC (.int 3)) (md 7 [some v0,some v1,some v2,some (.d (aC N1)),some (.d (eZ L2)),o5,none,none] (by decide) rfl) rfl (tM _ _))) fun _=>xg (cC (aG (b:=mC (.int 1)) (dm 28 2 _ (by decide) (by decide) (by decide) rfl) rfl (ph _ _))) fun _=>cC (aG (b:=mC (.int 0)) (Ij (xs:=N1) (a:=mV 3) rfl) rfl (tM _ _))
  cases hk:(decide (3 < c % 7) && (decide (c / 28 % 2=1) && decide ((0:Int) < (N1.length:Int)))) with
  | false =>
   rw[hk] at ct
   exact⟨N1,t1,by omega,d1,s1,(cI ct).trans rfl⟩
  | true =>
   rw[hk] at ct
   have a:=Bool.and_eq_true_iff.mp hk
   have a1:3 < c % 7:=of_decide_eq_true a.1
   have a2:(0:Int) < (N1.length:Int):=of_decide_eq_true (Bool.and_eq_true_iff.mp a.2).2
   have y0:=Int.emod_nonneg (c / 56) (b:=2) (by decide)
   have y1:=Int.emod_lt_of_pos (c / 56) (b:=2) (by decide)
   obtain⟨R,hR,tR,lR,dR,_,_⟩:=uW (N:=N1) (by omega) (by omega) t1 (w:=3+c / 56 % 2) (fun z=>by omega) c36
   exact⟨R,tR,lR,fun _=>dR,fun z=>absurd a1 z,(gW ct).trans (bC (Xp rfl (b8 (way 3 56 2 _ (by decide) (by decide) (by decide) rfl)) (b8 (call2 rfl rfl hc36)) hR))⟩
 have bad:due N2 L2≠.ok:=fun z=>by
  unfold due at z
  by_cases h:3 < c % 7
  ·rw[if_neg (d2 h)] at z
   exact d2 h z
  ·have e:=s2 h
   subst e
   split at z
   ·exact b2 (by omega) (QZ L2 [] z).1
   ·rename_i w;exact w z
 have sh2:∀ x∈N2,Sh x:=fun x hx=>(t2 x hx).sh
 have hdue:=Wb (names:=N2) (jz:=L2) (fun x hx=>by have:=(t2 x hx).1;omega) (by omega)
 have href:=aca sh2 (by omega) i2 (by omega) bad
 generalize due N2 L2=du at hdue href
 unfold xY Eb
 rw[CG]
 rw[show ([some (W.d (.lst (ns.map D.int)))]++List.replicate (8 - 1) none)=[some v0,none,none,none,none,none,none,none] from rfl]
 rw[aK (e':=[some v0,some v1,none,none,none,none,none,none]) (bC (call2 rfl rfl hnet))]
 rw[aK (e':=[some v0,some v1,some v2,none,none,none,none,none]) (bC (call2 rfl rfl hc))]
 rw[aK (e':=[some v0,some v1,some v2,some (.d (aC names)),none,none,none,none]) (bC ((jR (aG rfl rfl (ix0 names A))).trans rfl))]
 rw[aK (e':=[some v0,some v1,some v2,some (.d (aC names)),some (.d (eZ A)),none,none,none]) (bC ((jR (aG rfl rfl (ix1 names A))).trans rfl))]
 rw[aK h0]
 have tl:∀ {m:S} {e:Mi.Env} {w:W},m e=.ok (.rt w)→Ht m e=.ok (.rt w):=fun {m e w} h=>by unfold Ht;rw[h]
 let e6:Mi.Env:=[some v0,some v1,some v2,some (.d (aC N2)),some (.d (eZ L2)),o5,some (.d (.lst [.str du.s])),none]
 let e7:Mi.Env:=[some v0,some v1,some v2,some (.d (aC N2)),some (.d (eZ L2)),o5,some (.d (.lst [.str du.s])),some (.d (.lst [aC N2,eZ L2]))]
 have g6:bV 6 (mN ie [(bh uE [(wD (mV 3)),(wD (mV 4))])]) [some v0,some v1,some v2,some (.d (aC N2)),some (.d (eZ L2)),o5,none,none]=.ok (.nx e6):=bC (VH (call2 rfl rfl hdue))
 have g7:bV 7 (mN ie [(mN qK [(mV 3)]),(mN qK [(mV 4)])]) e6=.ok (.nx e7):=bC (O5 ((jR (x:=aC N2) rfl).trans rfl) ((jR (x:=eZ L2) rfl).trans rfl))
 have x7:bh fW [(wD (m2 dU (mV 7) (mC (.int 0)))),(wD (m2 dU (mV 7) (mC (.int 1))))] e7=.ok (.lst [.str du.s]):=call2 (x:=.d (aC N2)) (y:=.d (eZ L2)) (b8 (aG (x:=.lst [aC N2,eZ L2]) rfl rfl rfl)) (b8 (aG (x:=.lst [aC N2,eZ L2]) rfl rfl rfl)) href
 have c7:cB (m2 BK (bh fW [(wD (m2 dU (mV 7) (mC (.int 0)))),(wD (m2 dU (mV 7) (mC (.int 1))))]) (mV 6)) e7=.ok false:=cC ((aG x7 rfl (T5 [du.s] [du.s])).trans (by rw[decide_eq_true rfl];rfl))
 have c8:cB (m2 BK (mV 7) (mN ie [(mV 3),(mV 4)])) e7=.ok false:=cC (aG (x:=.lst [.lst (N2.map D.str),.lst (L2.map pairD)]) rfl (O5 rfl rfl) (K5 N2 L2))
 have fin:(cY (wD (bh (dw 4) [(wD (bh my [(wD (mN qK [(m2 dU (mV 1) (mC (.int 0)))])),(wD (mN qK [(m2 dU (mV 1) (mC (.int 1)))]))])),(wD (mV 1))]))) e7=.ok (.rt (.d (.bl true))) :=
  dj (b8 (call2 (x:=.d (kO names A)) (y:=.d (kO names A)) (b8 (call2 (x:=.d (aC names)) (y:=.d (eZ A)) (b8 ((jR (aG rfl rfl (ix0 names A))).trans rfl)) (b8 ((jR (aG rfl rfl (ix1 names A))).trans rfl)) made)) rfl (PX names A)))
 refine(congrArg (fun r=>Rs.bind r tU) (tl (w:=.d (.bl true)) ?_)).trans rfl
 rw[aK h1,aK h2,aK h3,aK h4,aK g6,aK g7]
 rw[aK ((cI (vP c7 fun _=>c8)).trans rfl)]
 rw[aK ((cI c7).trans rfl)]
 exact fin
end Mr
namespace Ux
open PySem L2 PyProof.Rows
abbrev cN:Addr:=242
abbrev tN:Addr:=238
instance aP:A.jf:=⟨[(tN,VP "sorted_rows")],fun c=>if c = "ArrowError" then 29 else if c = "WrongSize" then 42 else if c = "NoWord" then 54 else if c = "Twice" then 66 else if c = "NoName" then 78 else if c = "Ring" then 97 else if c = "Unlike" then 109 else if c = "NoArrow" then 121 else if c = "Locked" then 133 else if c = "NoTie" then 145 else if c = "NoSuch" then 157 else if c = "NoNet" then 176 else if c = "NoText" then 188 else if c = "NoRow" then 200 else if c = "NoLabel" then 212 else 0⟩
theorem walk{l:PySem.W.OpenLaw}{q:Program}{loose:List Str}{XP:(Str→Option Value)→Heap→Prop}{YP:World→Heap→Prop}{d:DefRec}{K:Params→PySem.W.Frag}(hn:l.most=some 63)(hdf:d.params.defaults=[])
 (hY:∀ (w:World) (h:Heap),YP w h→(K w.params).In h) (hL:∀ w:World,W9 (K w.params)=true) (hK:∀ w:World,(K w.params).lookup tN=none) (hrec:∃ d,(recsOf q).find? (fun e=>e.name == ("sorted_rows" : Str))=some d) (htab:∀ w:World,PySem.W.tabIn (K w.params) "sorted_rows" = some (cN,tN))
 (F:∀ (w:World) (mg:Str→Option Value) (fa:Addr) (h:Heap),(K w.params).In h→h.Ns mainGlobals mg→mg d.name=some (.ref fa) →
  ∃ fd:FuncData,(∀ (s:Shared) (u:Value),BindsTo s fd ⟨[u],[]⟩ [("_law_script", u)])∧∀ base:Heap,(K w.params).In base→base.Ns mainGlobals mg→BM mg base→PySem.W.CodeHd base cN tN→eY l.prog w (K w.params) mg base gQ 8 fa fd ["_law_script"] A.Hm) :
 PySem.W.WalkO q loose XP YP l.row.toRowW d [] (fun f vs=>PySem.call f vs) :=
 L2.Qx (x := "_law_script") (dn := "sorted_rows") (qn:=VP "sorted_rows") (k:=8) rfl hn hdf ⟨rfl,by decide,by decide⟩ hY (fun w a o e c=>RW (hL w) e c) hK hrec htab F
theorem X4{K:PySem.W.Frag}{h:Heap}{mg:Str→Option Value}(X:K.In h)(G:h.Ns mainGlobals mg)(U4:PySem.W.nsIn K mainGlobals "len" = some none)(N8:PySem.W.nsIn K mainGlobals "range" = some none)(U3:PySem.W.nsIn K mainGlobals "max" = some none)(U0:PySem.W.nsIn K mainGlobals "min" = some none)(N7:PySem.W.nsIn K mainGlobals "tuple" = some none)(Qs:PySem.W.nsIn K mainGlobals "list" = some none)(zU:PySem.W.nsIn K mainGlobals "isinstance" = some none)(U7:PySem.W.nsIn K mainGlobals "all" = some none)(U6:PySem.W.nsIn K mainGlobals "any" = some none)(Qt:PySem.W.nsIn K mainGlobals "bool" = some none)(UT:PySem.W.nsIn K mainGlobals "str" = some none)(U5:PySem.W.nsIn K mainGlobals "int" = some none)(UL:PySem.W.nsIn K mainGlobals "zip" = some none)(Cu:PySem.W.nsIn K mainGlobals "enumerate" = some none)(JM:PySem.W.nsIn K mainGlobals "sorted" = some none)(Et:PySem.W.nsIn K mainGlobals "reversed" = some none)(UW:PySem.W.nsIn K mainGlobals "set" = some none){t_c_LETTERS:Tok}(G9:PySem.W.nsIn K mainGlobals "LETTERS" = some (some (.str "abcdefghijklmnopqrstuvwxyz" t_c_LETTERS))){t_c_MOST_LETTERS:Tok}(xH:PySem.W.nsIn K mainGlobals "MOST_LETTERS" = some (some (.int 8 t_c_MOST_LETTERS))){t_c_MOST_NAMES:Tok}(zT:PySem.W.nsIn K mainGlobals "MOST_NAMES" = some (some (.int 8 t_c_MOST_NAMES))):Txt mg :=
 ⟨PySem.W.mg_none_of X G U4,PySem.W.mg_none_of X G N8,PySem.W.mg_none_of X G U3,PySem.W.mg_none_of X G U0,PySem.W.mg_none_of X G N7,PySem.W.mg_none_of X G Qs,PySem.W.mg_none_of X G zU,PySem.W.mg_none_of X G U7,PySem.W.mg_none_of X G U6,PySem.W.mg_none_of X G Qt,PySem.W.mg_none_of X G UT,PySem.W.mg_none_of X G U5,PySem.W.mg_none_of X G UL,PySem.W.mg_none_of X G Cu,PySem.W.mg_none_of X G JM,PySem.W.mg_none_of X G Et,PySem.W.mg_none_of X G UW,⟨t_c_LETTERS,PySem.W.mg_of X G G9⟩,⟨t_c_MOST_LETTERS,PySem.W.mg_of X G xH⟩,⟨t_c_MOST_NAMES,PySem.W.mg_of X G zT⟩⟩
structure abC(K:PySem.W.Frag):Prop where
 U8:PySem.W.nsIn K mainGlobals "ArrowError" = some (some (.ref (aP.cl "ArrowError")))
 WL:PySem.W.nsIn K mainGlobals "WrongSize" = some (some (.ref (aP.cl "WrongSize")))
 aag:PySem.W.nsIn K mainGlobals "NoWord" = some (some (.ref (aP.cl "NoWord")))
 abM:PySem.W.nsIn K mainGlobals "Twice" = some (some (.ref (aP.cl "Twice")))
 aaj:PySem.W.nsIn K mainGlobals "NoName" = some (some (.ref (aP.cl "NoName")))
 ab5:PySem.W.nsIn K mainGlobals "Ring" = some (some (.ref (aP.cl "Ring")))
 aaf:PySem.W.nsIn K mainGlobals "Unlike" = some (some (.ref (aP.cl "Unlike")))
 Z7:PySem.W.nsIn K mainGlobals "NoArrow" = some (some (.ref (aP.cl "NoArrow")))
 aak:PySem.W.nsIn K mainGlobals "Locked" = some (some (.ref (aP.cl "Locked")))
 abN:PySem.W.nsIn K mainGlobals "NoTie" = some (some (.ref (aP.cl "NoTie")))
 aai:PySem.W.nsIn K mainGlobals "NoSuch" = some (some (.ref (aP.cl "NoSuch")))
 abP:PySem.W.nsIn K mainGlobals "NoNet" = some (some (.ref (aP.cl "NoNet")))
 aah:PySem.W.nsIn K mainGlobals "NoText" = some (some (.ref (aP.cl "NoText")))
 abO:PySem.W.nsIn K mainGlobals "NoRow" = some (some (.ref (aP.cl "NoRow")))
 Z6:PySem.W.nsIn K mainGlobals "NoLabel" = some (some (.ref (aP.cl "NoLabel")))
 x_ArrowError:PySem.W.excIn K (aP.cl "ArrowError") [.type "ValueError", .type "Exception", .type "BaseException", .type "object"] "ValueError.__new__" = true
 x_WrongSize:PySem.W.excIn K (aP.cl "WrongSize") [.type "ValueError", .type "Exception", .type "BaseException", .type "object"] "ValueError.__new__" = true
 x_NoWord:PySem.W.excIn K (aP.cl "NoWord") [.type "ValueError", .type "Exception", .type "BaseException", .type "object"] "ValueError.__new__" = true
 x_Twice:PySem.W.excIn K (aP.cl "Twice") [.type "ValueError", .type "Exception", .type "BaseException", .type "object"] "ValueError.__new__" = true
 x_NoName:PySem.W.excIn K (aP.cl "NoName") [.type "ValueError", .type "Exception", .type "BaseException", .type "object"] "ValueError.__new__" = true
 x_Unlike:PySem.W.excIn K (aP.cl "Unlike") [.type "ValueError", .type "Exception", .type "BaseException", .type "object"] "ValueError.__new__" = true
 x_NoArrow:PySem.W.excIn K (aP.cl "NoArrow") [.type "ValueError", .type "Exception", .type "BaseException", .type "object"] "ValueError.__new__" = true
 x_Locked:PySem.W.excIn K (aP.cl "Locked") [.type "ValueError", .type "Exception", .type "BaseException", .type "object"] "ValueError.__new__" = true
 x_NoTie:PySem.W.excIn K (aP.cl "NoTie") [.type "ValueError", .type "Exception", .type "BaseException", .type "object"] "ValueError.__new__" = true
 x_NoSuch:PySem.W.excIn K (aP.cl "NoSuch") [.type "ValueError", .type "Exception", .type "BaseException", .type "object"] "ValueError.__new__" = true
 x_NoText:PySem.W.excIn K (aP.cl "NoText") [.type "ValueError", .type "Exception", .type "BaseException", .type "object"] "ValueError.__new__" = true
 x_NoRow:PySem.W.excIn K (aP.cl "NoRow") [.type "ValueError", .type "Exception", .type "BaseException", .type "object"] "ValueError.__new__" = true
 x_NoLabel:PySem.W.excIn K (aP.cl "NoLabel") [.type "ValueError", .type "Exception", .type "BaseException", .type "object"] "ValueError.__new__" = true
 v_:PySem.W.nsIn K mainGlobals "ValueError" = some none
theorem Yw{K:PySem.W.Frag}{h:Heap}{mg:Str→Option Value}(X:K.In h)(G:h.Ns mainGlobals mg)(z:abC K):Own mg h :=
 ⟨lX X G z.U8 z.x_ArrowError,lX X G z.WL z.x_WrongSize,lX X G z.aag z.x_NoWord,lX X G z.abM z.x_Twice,lX X G z.aaj z.x_NoName,lX X G z.aaf z.x_Unlike,lX X G z.Z7 z.x_NoArrow,lX X G z.aak z.x_Locked,lX X G z.abN z.x_NoTie,lX X G z.aai z.x_NoSuch,lX X G z.aah z.x_NoText,lX X G z.abO z.x_NoRow,lX X G z.Z6 z.x_NoLabel,PySem.W.mg_of X G z.U8,PySem.W.mg_of X G z.WL,PySem.W.mg_of X G z.aag,PySem.W.mg_of X G z.abM,PySem.W.mg_of X G z.aaj,PySem.W.mg_of X G z.ab5,PySem.W.mg_of X G z.aaf,PySem.W.mg_of X G z.Z7,PySem.W.mg_of X G z.aak,PySem.W.mg_of X G z.abN,PySem.W.mg_of X G z.aai,PySem.W.mg_of X G z.abP,PySem.W.mg_of X G z.aah,PySem.W.mg_of X G z.abO,PySem.W.mg_of X G z.Z6,PySem.W.mg_none_of X G z.v_⟩
structure acM(K:PySem.W.Frag):Prop where
 h0:PySem.W.kitOne K (.ref (aP.cl "Twice")) (.type "ValueError")=some true
 h1:PySem.W.kitOne K (.ref (aP.cl "NoWord")) (.type "ValueError")=some true
 h2:PySem.W.kitOne K (.ref (aP.cl "WrongSize")) (.type "ValueError")=some true
 h3:PySem.W.kitOne K (.ref (aP.cl "NoName")) (.type "ValueError")=some true
 h4:PySem.W.kitOne K (.ref (aP.cl "Twice")) (.ref (aP.cl "WrongSize"))=some false
 h5:PySem.W.kitOne K (.ref (aP.cl "NoWord")) (.ref (aP.cl "WrongSize"))=some false
 h6:PySem.W.kitOne K (.ref (aP.cl "WrongSize")) (.ref (aP.cl "WrongSize"))=some true
 h7:PySem.W.kitOne K (.ref (aP.cl "NoName")) (.ref (aP.cl "WrongSize"))=some false
 h8:PySem.W.kitOne K (.ref (aP.cl "Twice")) (.ref (aP.cl "Twice"))=some true
 h9:PySem.W.kitOne K (.ref (aP.cl "NoWord")) (.ref (aP.cl "Twice"))=some false
 h10:PySem.W.kitOne K (.ref (aP.cl "WrongSize")) (.ref (aP.cl "Twice"))=some false
 h11:PySem.W.kitOne K (.ref (aP.cl "NoName")) (.ref (aP.cl "Twice"))=some false
 h12:PySem.W.kitOne K (.ref (aP.cl "Twice")) (.ref (aP.cl "Ring"))=some false
 h13:PySem.W.kitOne K (.ref (aP.cl "NoWord")) (.ref (aP.cl "Ring"))=some false
 h14:PySem.W.kitOne K (.ref (aP.cl "WrongSize")) (.ref (aP.cl "Ring"))=some false
 h15:PySem.W.kitOne K (.ref (aP.cl "NoName")) (.ref (aP.cl "Ring"))=some false
 h16:PySem.W.kitOne K (.ref (aP.cl "Twice")) (.ref (aP.cl "NoWord"))=some false
 h17:PySem.W.kitOne K (.ref (aP.cl "NoWord")) (.ref (aP.cl "NoWord"))=some true
 h18:PySem.W.kitOne K (.ref (aP.cl "WrongSize")) (.ref (aP.cl "NoWord"))=some false
 h19:PySem.W.kitOne K (.ref (aP.cl "NoName")) (.ref (aP.cl "NoWord"))=some false
 h20:PySem.W.kitOne K (.ref (aP.cl "Twice")) (.ref (aP.cl "NoName"))=some false
 h21:PySem.W.kitOne K (.ref (aP.cl "NoWord")) (.ref (aP.cl "NoName"))=some false
 h22:PySem.W.kitOne K (.ref (aP.cl "WrongSize")) (.ref (aP.cl "NoName"))=some false
 h23:PySem.W.kitOne K (.ref (aP.cl "NoName")) (.ref (aP.cl "NoName"))=some true
 h24:PySem.W.kitAny K (.ref (aP.cl "Twice")) (([aP.cl "NoRow", aP.cl "NoSuch", aP.cl "NoText", aP.cl "NoTie", aP.cl "Unlike"]:List Addr).map .ref)=some false
 h25:PySem.W.kitAny K (.ref (aP.cl "NoWord")) (([aP.cl "NoRow", aP.cl "NoSuch", aP.cl "NoText", aP.cl "NoTie", aP.cl "Unlike"]:List Addr).map .ref)=some false
 h26:PySem.W.kitAny K (.ref (aP.cl "WrongSize")) (([aP.cl "NoRow", aP.cl "NoSuch", aP.cl "NoText", aP.cl "NoTie", aP.cl "Unlike"]:List Addr).map .ref)=some false
 h27:PySem.W.kitAny K (.ref (aP.cl "NoName")) (([aP.cl "NoRow", aP.cl "NoSuch", aP.cl "NoText", aP.cl "NoTie", aP.cl "Unlike"]:List Addr).map .ref)=some false
 h28:PySem.W.kitAny K (.ref (aP.cl "Twice")) (([aP.cl "Locked", aP.cl "NoArrow", aP.cl "NoLabel", aP.cl "NoNet"]:List Addr).map .ref)=some false
 h29:PySem.W.kitAny K (.ref (aP.cl "NoWord")) (([aP.cl "Locked", aP.cl "NoArrow", aP.cl "NoLabel", aP.cl "NoNet"]:List Addr).map .ref)=some false
 h30:PySem.W.kitAny K (.ref (aP.cl "WrongSize")) (([aP.cl "Locked", aP.cl "NoArrow", aP.cl "NoLabel", aP.cl "NoNet"]:List Addr).map .ref)=some false
 h31:PySem.W.kitAny K (.ref (aP.cl "NoName")) (([aP.cl "Locked", aP.cl "NoArrow", aP.cl "NoLabel", aP.cl "NoNet"]:List Addr).map .ref)=some false
 h32:PySem.W.exmOne K (.ref (aP.cl "Twice")) (.ref (aP.cl "ArrowError"))=some true
 h33:PySem.W.exmOne K (.ref (aP.cl "NoWord")) (.ref (aP.cl "ArrowError"))=some true
 h34:PySem.W.exmOne K (.ref (aP.cl "WrongSize")) (.ref (aP.cl "ArrowError"))=some true
 h35:PySem.W.exmOne K (.ref (aP.cl "NoName")) (.ref (aP.cl "ArrowError"))=some true
theorem Y0{K:PySem.W.Frag}(Wa:jO K (aP.cl "Twice"))(TF:jO K (aP.cl "NoWord"))(IK:jO K (aP.cl "WrongSize"))(TJ:jO K (aP.cl "NoName"))(z:acM K):Kit K :=
 ⟨(cF ⟨TJ,z.h3⟩ (cF ⟨IK,z.h2⟩ (cF ⟨TF,z.h1⟩ (cF ⟨Wa,z.h0⟩ tL)))),(cF ⟨TJ,z.h7⟩ (cF ⟨IK,z.h6⟩ (cF ⟨TF,z.h5⟩ (cF ⟨Wa,z.h4⟩ tL)))),(cF ⟨TJ,z.h11⟩ (cF ⟨IK,z.h10⟩ (cF ⟨TF,z.h9⟩ (cF ⟨Wa,z.h8⟩ tL)))),(cF ⟨TJ,z.h15⟩ (cF ⟨IK,z.h14⟩ (cF ⟨TF,z.h13⟩ (cF ⟨Wa,z.h12⟩ tL)))),(cF ⟨TJ,z.h19⟩ (cF ⟨IK,z.h18⟩ (cF ⟨TF,z.h17⟩ (cF ⟨Wa,z.h16⟩ tL)))),(cF ⟨TJ,z.h23⟩ (cF ⟨IK,z.h22⟩ (cF ⟨TF,z.h21⟩ (cF ⟨Wa,z.h20⟩ tL)))),(cF ⟨TJ,z.h27⟩ (cF ⟨IK,z.h26⟩ (cF ⟨TF,z.h25⟩ (cF ⟨Wa,z.h24⟩ tL)))),(cF ⟨TJ,z.h31⟩ (cF ⟨IK,z.h30⟩ (cF ⟨TF,z.h29⟩ (cF ⟨Wa,z.h28⟩ tL)))),(zy z.h35 (zy z.h34 (zy z.h33 (zy z.h32 YL))))⟩
theorem ZX{l:PySem.W.OpenLaw}{w:World}{K:PySem.W.Frag}{mg:Str→Option Value}{fa:Addr}(hfa:mg "law" = some (.ref fa))(T:Txt mg)(OK:abC K)(Kt:Kit K)(vf:Ww K mg "sorted_rows" pG ["names", "rows"] cN)(En:vd K mg "is_word" xQ ["text"])(jD:vd K mg "refuse_wrong_names" gK ["names"])(kh:vd K mg "refuse_strangers" iG ["names", "asked"])(jC:vd K mg "refuse_wrong_pairs" gJ ["names", "arrows"])(yQ:vd K mg "elders_of" tu ["net", "name"])(vh:vd K mg "first_ready" pI ["net", "told"])(Eo:vd K mg "in_turn" xR ["net"])(pP:vd K mg "refuse_ring" mL ["net"])(v9:vd K mg "net_made" qZ ["names", "arrows"])(Jz:vd K mg "_law_cell" Am ["_law_script", "_law_k"])(Ej:vd K mg "_law_words" xM ["_law_cell_here", "_law_many"])(Ek:vd K mg "_law_ranks" xN ["_law_cell_here", "_law_many"])(NQ:vd K mg "_law_net" Ff ["_law_script", "_law_most"])(Em:vd K mg "_law_alike" xP ["_law_found", "_law_due_here"])(El:vd K mg "_law_kinds" xO ["_law_e"])(yO:vd K mg "_law_refused" sY ["_law_names", "_law_arrows"])(yP:vd K mg "_law_no_word" sZ ["_law_name", "_law_cell_here"])(um:vd K mg "_law_names_done" ou ["_law_names", "_law_way", "_law_cell_here"])(xG:vd K mg "_law_stranger" q8 ["_law_names", "_law_cell_here"])(rY:vd K mg "_law_arrows_done" ni ["_law_names", "_law_arrows", "_law_way", "_law_cell_here"])(vg:vd K mg "_law_names_due" pH ["_law_names"])(NZ:vd K mg "_law_due" Fg ["_law_names", "_law_arrows"])(Xz:vd K mg "law" Q3 ["_law_script"]) :
 ∃ fd:FuncData,(∀ (s:Shared) (u:Value),BindsTo s fd ⟨[u],[]⟩ [("_law_script", u)])∧∀ base:Heap,K.In base→base.Ns mainGlobals mg→BM mg base→PySem.W.CodeHd base cN tN→eY l.prog w K mg base gQ 8 fa fd ["_law_script"] A.Hm :=
 vd.ack Xz hfa fun base kb nb hB hC f fd F=>by
  have O:Own mg base:=Yw kb nb OK
  have vm:=vf.cal (P:=l.prog) (w:=w) (base:=base) (CX:=gQ) fun f fd F=>Ba F T hB hC (List.mem_singleton.mpr rfl)
  have Er:=En.cal (P:=l.prog) (w:=w) (base:=base) (CX:=gQ) fun f fd F=>Kc F T
  have ur:=jD.cal (P:=l.prog) (w:=w) (base:=base) (CX:=gQ) fun f fd F=>sr F T Er
  have sI:=jD.cal (P:=l.prog) (w:=w) (base:=base) (CX:=wj l.prog w) fun f fd F=>rD F T O Er
  have oO:=kh.cal (P:=l.prog) (w:=w) (base:=base) (CX:=gQ) fun f fd F=>uO F T
  have uT:=kh.cal (P:=l.prog) (w:=w) (base:=base) (CX:=wj l.prog w) fun f fd F=>tH F T O
  have uq:=jC.cal (P:=l.prog) (w:=w) (base:=base) (CX:=gQ) fun f fd F=>rZ F T oO
  have sH:=jC.cal (P:=l.prog) (w:=w) (base:=base) (CX:=wj l.prog w) fun f fd F=>rC F T O uT
  have JH:=yQ.cal (P:=l.prog) (w:=w) (base:=base) (CX:=gQ) fun f fd F=>FT F T oO
  have Dc:=vh.cal (P:=l.prog) (w:=w) (base:=base) (CX:=gQ) fun f fd F=>Be F T JH
  have Es:=Eo.cal (P:=l.prog) (w:=w) (base:=base) (CX:=gQ) fun f fd F=>Ke F T Dc
  have CW:=pP.cal (P:=l.prog) (w:=w) (base:=base) (CX:=gQ) fun f fd F=>Bb F T Es
  have Cq:=pP.cal (P:=l.prog) (w:=w) (base:=base) (CX:=wj l.prog w) fun f fd F=>yV F T O Es
  have Lq:=v9.cal (P:=l.prog) (w:=w) (base:=base) (CX:=gQ) fun f fd F=>HN F T vm ur uq CW
  have JK:=v9.cal (P:=l.prog) (w:=w) (base:=base) (CX:=wj l.prog w) fun f fd F=>FW F T O vm sI sH Cq
  have JG:=Jz.cal (P:=l.prog) (w:=w) (base:=base) (CX:=gQ) fun f fd F=>O2 F T
  have Ep:=Ej.cal (P:=l.prog) (w:=w) (base:=base) (CX:=gQ) fun f fd F=>J8 F T
  have Qk:=Ek.cal (P:=l.prog) (w:=w) (base:=base) (CX:=gQ) fun f fd F=>J9 F T
  have Wy:=NQ.cal (P:=l.prog) (w:=w) (base:=base) (CX:=gQ) fun f fd F=>RG F T JG Ep Qk
  have Ql:=acF (P:=l.prog) (w:=w) (base:=base) (CX:=gQ) Em fun f fd F self=>Bd F T self
  have Lr:=El.acG (P:=l.prog) (w:=w) (base:=base) fun f fd F=>Ka F T O Kt
  have JD:=yO.cal (P:=l.prog) (w:=w) (base:=base) (CX:=gQ) fun f fd F=>FN F T O Kt JK Lr
  have JF:=yP.cal (P:=l.prog) (w:=w) (base:=base) (CX:=gQ) fun f fd F=>FQ F T
  have Cp:=um.cal (P:=l.prog) (w:=w) (base:=base) (CX:=gQ) fun f fd F=>yU F T Ep JF
  have G3:=xG.cal (P:=l.prog) (w:=w) (base:=base) (CX:=gQ) fun f fd F=>Cy F T
  have zg:=rY.cal (P:=l.prog) (w:=w) (base:=base) (CX:=gQ) fun f fd F=>xW F T G3
  have CZ:=vg.cal (P:=l.prog) (w:=w) (base:=base) (CX:=gQ) fun f fd F=>Bc F T
  have Wz:=NZ.cal (P:=l.prog) (w:=w) (base:=base) (CX:=gQ) fun f fd F=>RJ F T CZ
  exact A.YX (YF F T Lq JG Wy Ql JD Cp zg Wz) fun ns hl=>by first|exact Mr.uX ns|exact Mr.uX ns hl
end Ux
namespace PySem.W.Fast
def tw8155436888583180448 := 0
def tw8506705285671550656 := 0
def tw14559315814954330016 := 0
def tw17728572566042614945 := 0
def tw8813187106251870497 := 0
def tw11042660377651949889 := 0
def tw17653151090200639873 := 0
def tw9599863572831018689 := 0
def tw12984970361372822241 := 0
def tw8867403533058765633 := 0
def tw4953018510532139905 := 0
def tw9885484073693421441 := 0
def tw3328369639101922209 := 0
def tw6229417202769811490 := 0
def tw14846193431053655106 := 0
def tw6606550948797672770 := 0
def tw6060237466651817602 := 0
def tw15152925902293604066 := 0
def tw10481066500891684323 := 0
def tw8308672581146669827 := 0
def tw3319660935603228483 := 0
def tw14332230943928419876 := 0
def tw3674467708698449476 := 0
def tw4071553038285015748 := 0
def tw17679412265683737380 := 0
def tw886826349244420197 := 0
def tw15289050132126009509 := 0
def tw1883289840605868325 := 0
def tw17343544831621477 := 0
def tw13910915499709527429 := 0
def tw1375097969266505125 := 0
def tw1163021856342782437 := 0
def tw9907049066187209221 := 0
def tw16284545894410797765 := 0
def tw6909830869760835814 := 0
def tw1814588200321408326 := 0
def tw17642328580980151686 := 0
def tw869606470523259366 := 0
def tw2600014912974047750 := 0
def tw7765514296480193094 := 0
def tw11682073521729370790 := 0
def tw12223546044255109830 := 0
def tw1846636956294521606 := 0
def tw3905229927042497446 := 0
def tw12207382278829682695 := 0
def tw12761561905145591911 := 0
def tw16360167076872252839 := 0
def tw11328289463371474375 := 0
def tw11024524684668454407 := 0
def tw4331526347779651207 := 0
def tw7040950345473494855 := 0
def tw15127373236170046760 := 0
def tw14971726238778773832 := 0
def tw597047433381702984 := 0
def tw7399263469186783592 := 0
def tw4274739639843884712 := 0
def tw12582000303628620456 := 0
def tw15311692756253722440 := 0
def tw1723054296369403816 := 0
def tw6248688040570932136 := 0
def tw12569876155912509352 := 0
def tw3174512405236747401 := 0
def tw5932811406795738345 := 0
def tw17645985441804118313 := 0
def tw14062787100262852041 := 0
def tw7065151158875898377 := 0
def tw17312036064948434505 := 0
def tw16974220668107169449 := 0
def tw17087215165061484233 := 0
def tw427592837225795561 := 0
def tw15159779505783058442 := 0
def tw8355604150600408170 := 0
def tw15431640726552187274 := 0
def tw15392986179253810602 := 0
def tw12082869185266723274 := 0
def tw12324097767981762026 := 0
def tw15295379860814936618 := 0
def tw3845051360246593066 := 0
def tw3299296239991300682 := 0
def tw17937151898192807562 := 0
def tw6730052994390480586 := 0
def tw17687092375608695626 := 0
def tw17809750022194598987 := 0
def tw16103082109722580171 := 0
def tw9892100478873005355 := 0
def tw13547212263396699851 := 0
def tw11841873113682710507 := 0
def tw3825845522591648844 := 0
def tw11448841736928304300 := 0
def tw9177698970143567372 := 0
def tw9742816206336767628 := 0
def tw3048672363484647116 := 0
def tw15723253225428007660 := 0
def tw3036027812502968108 := 0
def tw805506574672269260 := 0
def tw9231614983890517005 := 0
def tw10014080930896893965 := 0
def tw10363465147822662701 := 0
def tw11508847941629999245 := 0
def tw16681717024124587213 := 0
def tw14840484459725359693 := 0
def tw17998581267406720589 := 0
def tw13752527665935481485 := 0
def tw10420413546093633261 := 0
def tw14169628866810174253 := 0
def tw14023957680709500781 := 0
def tw16749472491394069421 := 0
def tw5853218224187963694 := 0
def tw3540980622680311342 := 0
def tw2679071423876043310 := 0
def tw3842640084264244814 := 0
def tw15395810227999593134 := 0
def tw17293887936051352270 := 0
def tw14226841023694865134 := 0
def tw8858249131546111854 := 0
def tw11958138569316213678 := 0
def tw18029399220610835503 := 0
def tw1676096816216860911 := 0
def tw7904937168926840303 := 0
def tw480884530708159023 := 0
def tw5497776832851541807 := 0
def tw18270642212919849008 := 0
def tw12741684586132308240 := 0
def tw144714975199315376 := 0
def tw15994102634959881680 := 0
def tw8527627740096755408 := 0
def tw5315160172930454384 := 0
def tw1389149511452922768 := 0
def tw18353696063607990353 := 0
def tw13702463527979597169 := 0
def tw8784093586317532593 := 0
def tw4894222846907839506 := 0
def tw14814494704570972242 := 0
def tw15550346639875276914 := 0
def tw7334342892188503186 := 0
def tw3855043116782638610 := 0
def tw8298836306554140178 := 0
def tw16432215972321865330 := 0
def tw1705599729270284018 := 0
def tw17886069129761341330 := 0
def tw14495151753676964786 := 0
def tw6757910030441517010 := 0
def tw219557848561298483 := 0
def tw8952468587753091123 := 0
def tw3787040333346012211 := 0
def tw17129936741772731475 := 0
def tw1275891303652690003 := 0
def tw7685414899494355123 := 0
def tw18396244932212899059 := 0
def tw1681634467093035443 := 0
def tw17871755484767944115 := 0
def tw9097526441291027027 := 0
def tw8608423027617082995 := 0
def tw16182078445431933587 := 0
def tw10701400206530120595 := 0
def tw1012584597594987443 := 0
def tw10996540752190037204 := 0
def tw6944312685646279988 := 0
def tw12614649909725507156 := 0
def tw13460447564539487924 := 0
def tw274154605394109108 := 0
def tw8643097993813336820 := 0
def tw9503986772895536948 := 0
def tw1986376638354614164 := 0
def tw16662170348618708916 := 0
def tw5216292019708246004 := 0
def tw10569547875158357109 := 0
def tw1249264680981654005 := 0
def tw11894002864802016053 := 0
def tw18393420523951824950 := 0
def tw15245961572664465462 := 0
def tw10804695419091565750 := 0
def tw1702374401278123446 := 0
def tw597386194051702262 := 0
def tw4254134028960846390 := 0
def tw16062483251778457142 := 0
def tw8067549611437724310 := 0
def tw14037610712063143606 := 0
def tw13869598404146286294 := 0
def tw5534849831932890934 := 0
def tw14137987451871511799 := 0
def tw8777692573725104407 := 0
def tw7941157787410378039 := 0
def tw9430051339887740503 := 0
def tw4787762538447986263 := 0
def tw2245492321965250167 := 0
def tw10535700664098093719 := 0
def tw9216947991471964823 := 0
def tw7066631507286274775 := 0
def tw4801446125510883127 := 0
def tw5804404837396461367 := 0
def tw5052904671217652631 := 0
def tw18003716322988134456 := 0
def tw3753384998406450264 := 0
def tw433762796625721624 := 0
def tw16952472203740612920 := 0
def tw13057676603243545976 := 0
def tw10328333728950258040 := 0
def tw14759647792829319608 := 0
def tw18269121109430742680 := 0
def tw9358253152480141112 := 0
def tw5452327215339504504 := 0
def tw16837728377138909112 := 0
def tw15660081294745688089 := 0
def tw705032665242176665 := 0
def tw15647179527083169977 := 0
def tw16439622625903154393 := 0
def tw1574419803587378521 := 0
def tw16239694116954697177 := 0
def tw1347176384546037337 := 0
def tw16593718749052243737 := 0
def tw3634136109347867545 := 0
def tw16023020326956873657 := 0
def tw1545494544052069402 := 0
def tw14503931106545965146 := 0
def tw3681469235111037178 := 0
def tw10629433427767440666 := 0
def tw15864936867194955226 := 0
def tw12953802429957055290 := 0
def tw7710360132693446458 := 0
def tw15145187783278417850 := 0
def tw7143759925665580443 := 0
def tw17728582092110950875 := 0
def tw16913187163830971995 := 0
def tw9760712175628155803 := 0
def tw5371844775517075387 := 0
def tw5872008406060714012 := 0
def tw5643389527154938972 := 0
def tw11567803766626100444 := 0
def tw12562568480518413756 := 0
def tw2781952651103111900 := 0
def tw3016093662504045308 := 0
def tw10744257334146239356 := 0
def tw14911564584055878556 := 0
def tw8287888573687617565 := 0
def tw1805826853610383389 := 0
def tw3720164260699953213 := 0
def tw4629405646249263389 := 0
def tw10530207434384547261 := 0
def tw9406703557028399549 := 0
def tw249597275590132189 := 0
def tw16037088992000700061 := 0
def tw107154547701119070 := 0
def tw4184577627375840510 := 0
def tw316340165141954878 := 0
def tw4707497873018069374 := 0
def tw4777640034730150398 := 0
def tw15184993428878555646 := 0
def tw7919430988141409886 := 0
def tw785246024135520894 := 0
def tw3743493392199446238 := 0
def tw16714605893053145822 := 0
def tw4588930016115609342 := 0
def tw6576060960189217758 := 0
def tw49824550151257086 := 0
def tw14526440705528416287 := 0
def tw2516629596497145215 := 0
def tw10866659080065532287 := 0
def tw10884796818707615135 := 0
def tw11355926332503005599 := 0
def tw14374344586978124191 := 0
def tw15419493726395086271 := 0
def tw6986640875959835071 := 0
def tw4231993633392952831 := 0
def tw8979716671848726047 := 0
def tw6712764772761103199 := 0
def tw3006672936627138431 := 0
def tw13862268533425172415 := 0
def tw13422102388020879327 := 0
def tw15894690290763017183 := 0
end PySem.W.Fast
open PySem PySem.W PyProof.Rows
set_option maxRecDepth 100000 in
set_option maxHeartbeats 0 in
theorem PySem.Challenge.cw_arrowfind_k03_nets_refused_holds : PySem.Challenge.rw_arrowfind_k03_nets_refused.Holds := by
 w_on;o_law;k_head;(case hw=>w_witness2)
 k_fill
 refine Ux.walk (l:=PySem.Challenge.rw_arrowfind_k03_nets_refused) rfl rfl (fun w h Y=>PySem.W.km_in_of Y) ?L ?K ⟨_,rfl⟩ ?H ?F
 case L =>
  intro w
  kernel_rfl
 case K =>
  intro w
  kernel_rfl
 case H =>
  intro w
  kernel_rfl
 case F =>
  intro w mg fa h KX G hmg
  refine' Ux.ZX hmg ?T ?O ?Kt ?vf ?En ?jD ?kh ?jC ?yQ ?vh ?Eo ?pP ?v9 ?Jz ?Ej ?Ek ?NQ ?Em ?El ?yO ?yP ?um ?xG ?rY ?vg ?NZ ?Xz
  case T =>
   refine' Ux.X4 KX G ?U4 ?N8 ?U3 ?U0 ?N7 ?Qs ?zU ?U7 ?U6 ?Qt ?UT ?U5 ?UL ?Cu ?JM ?Et ?UW ?G9 ?xH ?zT
   (case U4=>k_is)
   (case N8=>k_is)
   (case U3=>k_is)
   (case U0=>k_is)
   (case N7=>k_is)
   (case Qs=>k_is)
   (case zU=>k_is)
   (case U7=>k_is)
   (case U6=>k_is)
   (case Qt=>k_is)
   (case UT=>k_is)
   (case U5=>k_is)
   (case UL=>k_is)
   (case Cu=>k_is)
   (case JM=>k_is)
   (case Et=>k_is)
   (case UW=>k_is)
   (case G9=>k_is)
   (case xH=>k_is)
   (case zT=>k_is)
  case O =>
   constructor
   (case U8=>kernel_rfl)
   (case WL=>kernel_rfl)
   (case aag=>kernel_rfl)
   (case abM=>kernel_rfl)
   (case aaj=>kernel_rfl)
   (case ab5=>kernel_rfl)
   (case aaf=>kernel_rfl)
   (case Z7=>kernel_rfl)
   (case aak=>kernel_rfl)
   (case abN=>kernel_rfl)
   (case aai=>kernel_rfl)
   (case abP=>kernel_rfl)
   (case aah=>kernel_rfl)
   (case abO=>kernel_rfl)
   (case Z6=>kernel_rfl)
   all_goals kernel_rfl
  case Kt =>
   refine' Ux.Y0 ?Wa ?TF ?IK ?TJ ?z
   (case Wa=>constructor<;>kernel_rfl)
   (case TF=>constructor<;>kernel_rfl)
   (case IK=>constructor<;>kernel_rfl)
   (case TJ=>constructor<;>kernel_rfl)
   (case z=>constructor<;>kernel_rfl)
  case vf =>
   refine' L2.V9 (c:=Ux.cN) KX G (fun _ _ _ _ _ _ us hl=>match us,hl with|[_,_],_=>rfl) ?a ?l ?c ?k
   (case a=>k_is);(case l=>k_is);(case c=>k_is);(case k=>k_is)
  case En =>
   refine' L2.fY KX G (fun _ _ _ _ _ _ us hl=>match us,hl with|[_],_=>rfl) ?a ?l ?c ?k
   (case a=>k_is);(case l=>k_is);(case c=>k_is);(case k=>k_is)
  case jD =>
   refine' L2.fY KX G (fun _ _ _ _ _ _ us hl=>match us,hl with|[_],_=>rfl) ?a ?l ?c ?k
   (case a=>k_is);(case l=>k_is);(case c=>k_is);(case k=>k_is)
  case kh =>
   refine' L2.fY KX G (fun _ _ _ _ _ _ us hl=>match us,hl with|[_,_],_=>rfl) ?a ?l ?c ?k
   (case a=>k_is);(case l=>k_is);(case c=>k_is);(case k=>k_is)
  case jC =>
   refine' L2.fY KX G (fun _ _ _ _ _ _ us hl=>match us,hl with|[_,_],_=>rfl) ?a ?l ?c ?k
   (case a=>k_is);(case l=>k_is);(case c=>k_is);(case k=>k_is)
  case yQ =>
   refine' L2.fY KX G (fun _ _ _ _ _ _ us hl=>match us,hl with|[_,_],_=>rfl) ?a ?l ?c ?k
   (case a=>k_is);(case l=>k_is);(case c=>k_is);(case k=>k_is)
  case vh =>
   refine' L2.fY KX G (fun _ _ _ _ _ _ us hl=>match us,hl with|[_,_],_=>rfl) ?a ?l ?c ?k
   (case a=>k_is);(case l=>k_is);(case c=>k_is);(case k=>k_is)
  case Eo =>
   refine' L2.fY KX G (fun _ _ _ _ _ _ us hl=>match us,hl with|[_],_=>rfl) ?a ?l ?c ?k
   (case a=>k_is);(case l=>k_is);(case c=>k_is);(case k=>k_is)
  case pP =>
   refine' L2.fY KX G (fun _ _ _ _ _ _ us hl=>match us,hl with|[_],_=>rfl) ?a ?l ?c ?k
   (case a=>k_is);(case l=>k_is);(case c=>k_is);(case k=>k_is)
  case v9 =>
   refine' L2.fY KX G (fun _ _ _ _ _ _ us hl=>match us,hl with|[_,_],_=>rfl) ?a ?l ?c ?k
   (case a=>k_is);(case l=>k_is);(case c=>k_is);(case k=>k_is)
  case Jz =>
   refine' L2.fY KX G (fun _ _ _ _ _ _ us hl=>match us,hl with|[_,_],_=>rfl) ?a ?l ?c ?k
   (case a=>k_is);(case l=>k_is);(case c=>k_is);(case k=>k_is)
  case Ej =>
   refine' L2.fY KX G (fun _ _ _ _ _ _ us hl=>match us,hl with|[_,_],_=>rfl) ?a ?l ?c ?k
   (case a=>k_is);(case l=>k_is);(case c=>k_is);(case k=>k_is)
  case Ek =>
   refine' L2.fY KX G (fun _ _ _ _ _ _ us hl=>match us,hl with|[_,_],_=>rfl) ?a ?l ?c ?k
   (case a=>k_is);(case l=>k_is);(case c=>k_is);(case k=>k_is)
  case NQ =>
   refine' L2.fY KX G (fun _ _ _ _ _ _ us hl=>match us,hl with|[_,_],_=>rfl) ?a ?l ?c ?k
   (case a=>k_is);(case l=>k_is);(case c=>k_is);(case k=>k_is)
  case Em =>
   refine' L2.fY KX G (fun _ _ _ _ _ _ us hl=>match us,hl with|[_,_],_=>rfl) ?a ?l ?c ?k
   (case a=>k_is);(case l=>k_is);(case c=>k_is);(case k=>k_is)
  case El =>
   refine' L2.fY KX G (fun _ _ _ _ _ _ us hl=>match us,hl with|[_],_=>rfl) ?a ?l ?c ?k
   (case a=>k_is);(case l=>k_is);(case c=>k_is);(case k=>k_is)
  case yO =>
   refine' L2.fY KX G (fun _ _ _ _ _ _ us hl=>match us,hl with|[_,_],_=>rfl) ?a ?l ?c ?k
   (case a=>k_is);(case l=>k_is);(case c=>k_is);(case k=>k_is)
  case yP =>
   refine' L2.fY KX G (fun _ _ _ _ _ _ us hl=>match us,hl with|[_,_],_=>rfl) ?a ?l ?c ?k
   (case a=>k_is);(case l=>k_is);(case c=>k_is);(case k=>k_is)
  case um =>
   refine' L2.fY KX G (fun _ _ _ _ _ _ us hl=>match us,hl with|[_,_,_],_=>rfl) ?a ?l ?c ?k
   (case a=>k_is);(case l=>k_is);(case c=>k_is);(case k=>k_is)
  case xG =>
   refine' L2.fY KX G (fun _ _ _ _ _ _ us hl=>match us,hl with|[_,_],_=>rfl) ?a ?l ?c ?k
   (case a=>k_is);(case l=>k_is);(case c=>k_is);(case k=>k_is)
  case rY =>
   refine' L2.fY KX G (fun _ _ _ _ _ _ us hl=>match us,hl with|[_,_,_,_],_=>rfl) ?a ?l ?c ?k
   (case a=>k_is);(case l=>k_is);(case c=>k_is);(case k=>k_is)
  case vg =>
   refine' L2.fY KX G (fun _ _ _ _ _ _ us hl=>match us,hl with|[_],_=>rfl) ?a ?l ?c ?k
   (case a=>k_is);(case l=>k_is);(case c=>k_is);(case k=>k_is)
  case NZ =>
   refine' L2.fY KX G (fun _ _ _ _ _ _ us hl=>match us,hl with|[_,_],_=>rfl) ?a ?l ?c ?k
   (case a=>k_is);(case l=>k_is);(case c=>k_is);(case k=>k_is)
  case Xz =>
   refine' L2.fY KX G (fun _ _ _ _ _ _ us hl=>match us,hl with|[_],_=>rfl) ?a ?l ?c ?k
   (case a=>k_is);(case l=>k_is);(case c=>k_is);(case k=>k_is)
