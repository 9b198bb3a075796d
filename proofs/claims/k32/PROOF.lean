import PyProof.Rows.All
import Wide.All
import OpenK.AllK
import Wide.FinOn
import Lean
import PyProof.EqAt
import PyProof.EqKinds
import PyProof.TupleCall
import PySem.Str
import PyProof.NeKinds
import PyProof.Draws
import PyProof.EnumMake
import PyProof.ZipIter
import KE.KSortTup
import KE.KLam
import PyProof.Rows.SortStr
import PyProof.Rows.FactsT3
import PyProof.StrOps2
import PyProof.StrLawsRepr
import PyProof.Rows.StrCase
import PySem.Challenge.RW_arrowfind_k32_chains_walked
set_option maxRecDepth 100000
set_option maxHeartbeats 4000000
set_option Elab.async false
set_option linter.all false
namespace L2
open PySem PySem.Spec PyProof.Rows
abbrev Key:=Sum Int Str
def Gh:Key→Value→Bool
 | .inl k,v=>Value.isInt k v
 | .inr x,v=>Value.isStrOf x v
def aez(w:World):Key→Int
 | .inl k=>hashInt k
 | .inr x=>hashStr w x
theorem gP:∀ {k:Key} {v:Value},Gh k v=true→(∃ i t,k=Sum.inl i∧v=Value.int i t)∨(∃ x t,k=Sum.inr x∧v=Value.str x t)
 | .inl i,v,h=>by
  obtain⟨t,e⟩:=Value.isInt_shape (k:=i) (v:=v) h
  exact .inl ⟨i,t,rfl,e⟩
 | .inr x,v,h=>by
  obtain⟨t,e⟩:=Value.isStrOf_shape (x:=x) (v:=v) h
  exact .inr ⟨x,t,rfl,e⟩
theorem Tc(i:Int)(t:Tok):Gh (.inl i) (.int i t)=true:=by simp[Gh,Value.isInt]
theorem S9(x:Str)(t:Tok):Gh (.inr x) (.str x t)=true:=by simp[Gh,Value.isStrOf]
theorem abE(a b:Int):decide ((Sum.inl a:Key)=Sum.inl b)=(a == b):=by
 by_cases e:a=b
 ·subst e;simp
 ·have h:¬ (Sum.inl a:Key)=Sum.inl b:=fun q=>e (Sum.inl.inj q)
  rw[decide_eq_false h]
  exact(beq_eq_false_iff_ne.mpr e).symm
theorem abB(a b:Str):decide ((Sum.inr a:Key)=Sum.inr b)=decide (a=b):=by
 by_cases e:a=b
 ·subst e;simp
 ·have h:¬ (Sum.inr a:Key)=Sum.inr b:=fun q=>e (Sum.inr.inj q)
  rw[decide_eq_false h,decide_eq_false e]
theorem abD(a:Int)(b:Str):decide ((Sum.inl a:Key)=Sum.inr b)=false:=decide_eq_false (fun q=>nomatch q)
theorem abC(a:Str)(b:Int):decide ((Sum.inr a:Key)=Sum.inl b)=false:=decide_eq_false (fun q=>nomatch q)
def jq(prog:Program)(w:World):PySem.KeyKind prog w Key where
 is:=Gh
 hash:=aez w
 inj:=fun v a b ha hb=>by
  rcases gP ha with ⟨i,t,rfl,rfl⟩|⟨x,t,rfl,rfl⟩
  ·rcases gP hb with ⟨j,u,rfl,e⟩|⟨y,u,rfl,e⟩
   ·injection e with e1 _;rw[e1]
   ·exact nomatch e
  ·rcases gP hb with ⟨j,u,rfl,e⟩|⟨y,u,rfl,e⟩
   ·exact nomatch e
   ·injection e with e1 _;rw[e1]
 byValue:=fun k v h=>by
  rcases gP h with ⟨i,t,rfl,rfl⟩|⟨x,t,rfl,rfl⟩<;>rfl
 pyHash:=fun hv h=>by
  rcases gP hv with ⟨i,t,rfl,rfl⟩|⟨x,t,rfl,rfl⟩
  ·exact wpAny_pyHash_int h
  ·exact wpAny_pyHash_str h
 eqBool:=fun hu hv h=>by
  rcases gP hu with ⟨i,t,rfl,rfl⟩|⟨x,t,rfl,rfl⟩
  ·rcases gP hv with ⟨j,u,rfl,rfl⟩|⟨y,u,rfl,rfl⟩
   ·rw[abE] at h;exact wpAny_eqBool_int h
   ·rw[abD] at h;exact SeqAt.EqAt.int_str i t y u _ _ _ _ h
  ·rcases gP hv with ⟨j,u,rfl,rfl⟩|⟨y,u,rfl,rfl⟩
   ·rw[abC] at h;exact SeqAt.EqAt.str_int x t j u _ _ _ _ h
   ·rw[abB] at h;exact wpAny_eqBool_str h
 «strs»:=fun k x t v h=>by
  rcases gP h with ⟨i,u,rfl,e⟩|⟨y,u,rfl,e⟩
  ·exact nomatch e
  ·injection e with e1 _
   subst e1
   cases v<;>rfl
theorem Ln(prog:Program)(w:World)(i:Int)(t:Tok):(jq prog w).is (.inl i) (.int i t)=true:=Tc i t
theorem Lj(prog:Program)(w:World)(x:Str)(t:Tok):(jq prog w).is (.inr x) (.str x t)=true:=S9 x t
end L2
namespace L2
open PySem PySem.Spec PyProof.Rows
inductive V where
 | non|bl (b:Bool)|int (i:Int)|str (x:Str)|byt (b:Array UInt8)|flt (b:UInt64)|ref (a:Addr)|ty (n:String)
 deriving DecidableEq
def RelV:V→Value→Prop
 | .non,u=>u=Value.none
 | .bl b,u=>u=Value.bool b
 | .int i,u=>∃ t,u=Value.int i t
 | .str x,u=>∃ t,u=Value.str x t
 | .byt b,u=>∃ t,u=Value.bytes b t
 | .flt b,u=>∃ t,u=Value.float b t
 | .ref a,u=>u=Value.ref a
 | .ty n,u=>u=Value.type n
abbrev Vals:List V→List Value→Prop:=Paired RelV
theorem Vals.length{xs:List V}{us:List Value}(r:Vals xs us):xs.length=us.length:=Paired.length r
theorem Vals.get:∀ {xs:List V} {us:List Value} {i:Nat} {x:V},Vals xs us→xs[i]? = some x→∃ u,us[i]? = some u∧RelV x u
 | _,_,_,_,.nil,e=>by simp at e
 | _,_,0,_,.cons r _,e=>by simp at e;subst e;exact⟨_,rfl,r⟩
 | _,_,i+1,x,.cons _ t,e=>by
  obtain⟨u,h1,h2⟩:=Vals.get (i:=i) (x:=x) t (by simpa using e)
  exact⟨u,by simpa using h1,h2⟩
theorem Vals.append:∀ {xs ys:List V} {us ws:List Value},Vals xs us→Vals ys ws→Vals (xs++ys) (us++ws)
 | _,_,_,_,.nil,s=>s
 | _,_,_,_,.cons r t,s=>.cons r (Vals.append t s)
theorem Vals.take:∀ {xs:List V} {us:List Value} (n:Nat),Vals xs us→Vals (xs.take n) (us.take n)
 | _,_,0,_=>.nil
 | _,_,_+1,.nil=>.nil
 | _,_,n+1,.cons r t=>.cons r (Vals.take n t)
theorem Vals.drop:∀ {xs:List V} {us:List Value} (n:Nat),Vals xs us→Vals (xs.drop n) (us.drop n)
 | _,_,0,r=>r
 | _,_,_+1,.nil=>.nil
 | _,_,n+1,.cons _ t=>Vals.drop n t
def Qg:Option V→Option Value→Prop
 | some v,some u=>RelV v u
 | none,none=>True
 | _,_=>False
def KV{κ : Type}:List (κ×V)→List (κ×Value)→Prop:=Paired fun (p:κ×V) (q:κ×Value)=>p.1=q.1∧RelV p.2 q.2
def kV:Key→V
 | .inl i=>.int i
 | .inr x=>.str x
def Ud(h:Heap)(a:Addr)(its:Array Value):Prop:=∃ o,h.get? a=some o∧o.cls=.type "tuple" ∧ o.dict=none∧∃ n,o.data=.seq its n
theorem Ud.tup{h:Heap}{a:Addr}{its:Array Value}(x:Ud h a its):IsTup h a its:=let ⟨o,e,c,_,d⟩:=x;⟨o,e,c,d⟩
theorem Ud.new(h:Heap)(its:Array Value):Ud (h.push { cls:=.type "tuple", data:=.seq its }) h.objs.size its:=⟨_,Heap.get?_push_size _ rfl,rfl,rfl,_,rfl⟩
inductive HO where
 /-- a list -/
 | lst (xs:List V)
 /-- a tuple (never changes) -/
 | tup (xs:List V)
 /-- a dict whose keys are ints and texts;one whose keys are tuples of ints and texts (the empty one is both) -/
 | dK (kvs:List (Key×V))|dT (kvs:List (List Key×V))
 /-- a set of ints: its members,its size -/
 | set (S:Int→Bool) (n:Nat)
 /-- an instance of the class at C,its dict at dx,its attributes -/
 | ins (C dx:Addr) (fs:List (Str×V))
 /-- the dict of the instance at x -/
 | own (x:Addr)
 /-- the dict of an exception -/
 | xd (fs:List (Str×V))
 /-- a bound method,f of x -/
 | met (f x:Addr)
 /-- a range object lo,lo+1,.. below hi -/
 | rng (lo hi:Int)
 /-- a thing that is known to the object (the script;a dict while a loop walks it): read,never written while it is so -/
 | frz (o:Obj) (u:HO)
 /-- a code object's table -/
 | tbl (w:Str) (ps:Array Value)
 /-- any other thing,by what is true of its one object (a def of one's own: afd a S n:=HO.ext fun h=>..) -/
 | ext (φ : Heap→Prop)
abbrev Hp:=Addr→Option HO
def upd(H:Hp)(a:Addr)(o:HO):Hp:=fun b=>if b=a then some o else H b
theorem bc{H:Hp}{a:Addr}{o:HO}:upd H a o a=some o:=by unfold upd;rw[if_pos rfl]
theorem aN{H:Hp}{a b:Addr}{o:HO}(h:b≠a):upd H a o b=H b:=by unfold upd;rw[if_neg h]
theorem ade{H:Hp}{a b:Addr}{o u:HO}(h:H a=some o)(h':H b=some u)(d:o≠u):a≠b:=by
 intro e;subst e;rw[h] at h';exact d (Option.some.inj h')
theorem bh{H:Hp}{a b:Addr}{o:HO}(h:H a=some o)(h':H b=none):a≠b:=by
 intro e;subst e;rw[h] at h';cases h'
section
variable(P:Program)(w:World)
def dZ(H:Hp)(h:Heap)(a:Addr):HO→Prop
 | .lst xs=>xs.length≤sizeLine∧∃ (its:List Value) (n:Nat),Vals xs its∧h.get? a=some { cls:=.type "list", data:=.seq its.toArray n }
 | .tup xs=>xs.length≤sizeLine∧∃ its:List Value,Vals xs its∧Ud h a its.toArray
 | .dK kvs=>kvs.length≤sizeLine∧(a == sysModules)=false∧∃ vs,KV kvs vs∧h.DictOf (jq P w) a vs
 | .dT kvs=>kvs.length≤sizeLine∧(a == sysModules)=false∧∃ xs:List (List Key×Addr×Value),
  Paired (fun (p:List Key×V) (q:List Key×Addr×Value)=>p.1=q.1∧H q.2.1=some (.tup (p.1.map kV))∧RelV p.2 q.2.2) kvs xs ∧
  ∃ o es ep,h.get? a=some o∧o.ExactDict∧o.data=.dict es ep∧es.toList=xs.map (entryOfKey (tupleKind (jq P w)))∧(xs.map (·.1)).Nodup
 | .set S n=>h.SetOf (intKind P w) a S n
 | .ins C dx fs=>H dx=some (.own a)∧fs.length≤1000∧dx≠a∧h.get? a=some (W.instObj C dx) ∧
  ∃ mA,h.Ns1 dx mA∧(∀ f,Qg (fs.lookup f) (mA f))∧PySem.Within mA (fs.map (·.1))
 | .own _=>∃ o,h.get? a=some o
 | .xd fs=>∃ mA,h.Ns1 a mA∧∀ f,Qg (fs.lookup f) (mA f)
 | .rng lo hi=>∃ t u v,h.get? a=some { cls:=.type "range", data:=.fields #[.int lo t,.int hi u,.int 1 v] }
 | .frz o u=>h.get? a=some o∧dZ H h a u
 | .tbl _ ps=>h.get? a=some { cls:=.none,data:=.fields ps }
 | .met f x=>h.get? a=some (W.methodObj (.ref f) (.ref x))
 | .ext φ=>φ h∧(∃ o,h.get? a=some o)∧∀ h1 h2:Heap,φ h1→(∀ o,h1.get? a=some o→h2.get? a=some o)→φ h2
def rN(H:Hp)(h:Heap):Prop:=∀ a o,H a=some o→dZ P w H h a o
end
section
variable{P:Program}{w:World}{H H':Hp}{h h':Heap}{a:Addr}{o:HO}
theorem dZ.lt(x:dZ P w H h a o):a < h.objs.size:=by
 cases o with
 | lst xs=>obtain⟨_,_,_,_,e⟩:=x;exact Heap.lt_size e
 | tup xs=>obtain⟨_,_,_,p⟩:=x;exact p.tup.lt
 | dK kvs=>obtain⟨_,_,_,_,o,_,_,e,_⟩:=x;exact Heap.lt_size e
 | dT kvs=>obtain⟨_,_,_,_,o,_,_,e,_⟩:=x;exact Heap.lt_size e
 | set S n=>obtain⟨o,_,_,_,e,_⟩:=x;exact Heap.lt_size e
 | ins C dx fs=>obtain⟨_,_,_,e,_⟩:=x;exact Heap.lt_size e
 | own y=>obtain⟨_,e⟩:=x;exact Heap.lt_size e
 | xd fs=>obtain⟨_,⟨_,_,_,e,_⟩,_⟩:=x;exact Heap.lt_size e
 | rng lo hi=>obtain⟨_,_,_,e⟩:=x;exact Heap.lt_size e
 | frz ob u=>obtain⟨e,_⟩:=x;exact Heap.lt_size e
 | tbl w ps=>exact Heap.lt_size (show h.get? a=some _ from x)
 | met f y=>exact Heap.lt_size (show h.get? a=some _ from x)
 | ext φ=>obtain⟨_,⟨_,e⟩,_⟩:=x;exact Heap.lt_size e
theorem Paired.abq{α β : Type}{F G:α→β→Prop}:∀ {l₁:List α} {l₂:List β},Paired F l₁ l₂→(∀ a b,F a b→G a b)→Paired G l₁ l₂
 | _,_,.nil,_=>.nil
 | _,_,.cons r t,f=>.cons (f _ _ r) (Paired.abq t f)
theorem dZ.stay(x:dZ P w H h a o)(k:∀ b u,(b=a∨H b=some (.own a))→h.get? b=some u→h'.get? b=some u)
 (ho:∀ b,H b=some (.own a)→H' b=some (.own a)) (ht:∀ b xs,H b=some (.tup xs)→H' b=some (.tup xs)):dZ P w H' h' a o:=by
 induction o with
 | lst xs=>obtain⟨z,its,n,r,e⟩:=x;exact⟨z,its,n,r,k _ _ (.inl rfl) e⟩
 | tup xs=>obtain⟨z,its,r,ob,e,c⟩:=x;exact⟨z,its,r,ob,k _ _ (.inl rfl) e,c⟩
 | dK kvs=>obtain⟨z,y,vs,r,ob,es,ep,e,c⟩:=x;exact⟨z,y,vs,r,ob,es,ep,k _ _ (.inl rfl) e,c⟩
 | dT kvs =>
  obtain⟨z,y,xs,r,ob,es,ep,e,c⟩:=x
  exact⟨z,y,xs,Paired.abq r fun p q z=>⟨z.1,ht _ _ z.2.1,z.2.2⟩,ob,es,ep,k _ _ (.inl rfl) e,c⟩
 | set S n=>obtain⟨ob,es,ep,t,e,c⟩:=x;exact⟨ob,es,ep,t,k _ _ (.inl rfl) e,c⟩
 | ins C dx fs =>
  obtain⟨d,z,ne,e,mA,⟨od,es,ep,e2,c⟩,r⟩:=x
  exact⟨ho _ d,z,ne,k _ _ (.inl rfl) e,mA,⟨od,es,ep,k _ _ (.inr d) e2,c⟩,r⟩
 | own y=>obtain⟨ob,e⟩:=x;exact⟨ob,k _ _ (.inl rfl) e⟩
 | xd fs=>obtain⟨mA,⟨od,es,ep,e,c⟩,r⟩:=x;exact⟨mA,⟨od,es,ep,k _ _ (.inl rfl) e,c⟩,r⟩
 | rng lo hi=>obtain⟨t,u,v,e⟩:=x;exact⟨t,u,v,k _ _ (.inl rfl) e⟩
 | frz ob u ih=>obtain⟨e,q⟩:=x;exact⟨k _ _ (.inl rfl) e,ih q⟩
 | tbl w ps =>
  have e:h.get? a=some { cls:=.none,data:=.fields ps }:=x
  show h'.get? a=some { cls:=.none,data:=.fields ps }
  exact k a _ (.inl rfl) e
 | met f y =>
  have e:h.get? a=some (W.methodObj (.ref f) (.ref y)):=x
  show h'.get? a=some (W.methodObj (.ref f) (.ref y))
  exact k a _ (.inl rfl) e
 | ext φ=>obtain⟨p,⟨o,e⟩,st⟩:=x;exact⟨st _ _ p fun o q=>k _ _ (.inl rfl) q,⟨o,k _ _ (.inl rfl) e⟩,st⟩
theorem rN.lt(x:rN P w H h)(e:H a=some o):a < h.objs.size:=(x a o e).lt
theorem rN.fresh(x:rN P w H h)(e:h.objs.size≤a):H a=none:=by
 cases q:H a with
 | none=>rfl
 | some u=>exact absurd (Nat.lt_of_lt_of_le (x.lt q) e) (Nat.lt_irrefl _)
theorem rN.kept(x:rN P w H h)(k:∀ b u,h.get? b=some u→h'.get? b=some u):rN P w H h':=fun a o e =>
 (x a o e).stay (fun b u _ q=>k b u q) (fun _ q=>q) fun _ _ q=>q
theorem rN.laid(x:rN P w H h)(k:∀ b u,h.get? b=some u→h'.get? b=some u)(hp:h.objs.size≤a)(new:dZ P w (upd H a o) h' a o):rN P w (upd H a o) h':=fun b u e=>by
 have hn:=x.fresh hp
 by_cases hb:b=a
 ·subst hb;rw[bc] at e;cases e;exact new
 ·rw[aN hb] at e
  exact(x b u e).stay (fun c v _ q=>k c v q) (fun c q=>by rw[aN (bh q hn)];exact q) fun c xs q=>by rw[aN (bh q hn)];exact q
end
def Rd(H:Hp)(a:Addr)(u:HO):Prop:=H a=some u∨∃ o,H a=some (.frz o u)
theorem Rd.ok{P:Program}{w:World}{H:Hp}{h:Heap}{a:Addr}{u:HO}(r:Rd H a u)(x:rN P w H h):dZ P w H h a u:=by
 rcases r with r|⟨o,r⟩
 ·exact x a u r
 ·obtain⟨_,q⟩:=x a _ r
  exact q
def Mut:Option HO→Prop
 | some (.lst _)=>True
 | some (.dK _)=>True
 | some (.dT _)=>True
 | some (.set _ _)=>True
 | some (.ins _ _ _)=>True
 | some (.ext _)=>True
 | _=>False
section
variable{P:Program}{w:World}{H:Hp}{h h':Heap}{x e:Addr}{o':HO}
theorem rN.write(ok:rN P w H h)(mu:Mut (H x))(he:e=x∨H e=some (.own x))(k:∀ b u,b≠e→h.get? b=some u→h'.get? b=some u)(heo:∃ u,h'.get? e=some u)
 (new:dZ P w (upd H x o') h' x o'):rN P w (upd H x o') h':=fun b u q=>by
 have ac7:∀ c y,H c=some (.own y)→c≠x:=fun c y r z=>by subst z;rw[r] at mu;exact mu
 have aer:∀ c xs,H c=some (.tup xs)→c≠x:=fun c xs r z=>by subst z;rw[r] at mu;exact mu
 by_cases hb:b=x
 ·subst hb;rw[bc] at q;cases q;exact new
 ·rw[aN hb] at q
  by_cases hbe:b=e
  ·have q':H b=some (.own x):=by
    rcases he with z|z
    ·exact absurd (hbe.trans z) hb
    ·rw[hbe];exact z
   rw[q] at q';cases q'
   obtain⟨v,hv⟩:=heo
   exact⟨v,by rw[hbe];exact hv⟩
  ·refine(ok b u q).stay (fun c v hc r=>k c v ?_ r) (fun c r=>by rw[aN (ac7 c b r)];exact r) fun c xs r=>by rw[aN (aer c xs r)];exact r
   rcases hc with rfl|hc
   ·exact hbe
   ·rintro rfl
    rcases he with z|z
    ·exact ac7 c b hc z
    ·rw[hc] at z;cases z;exact hb rfl
end
structure Un(fs ex:List Addr)(H H':Hp)(h h':Heap):Prop where
 keep:∀ b o,h.get? b=some o→H b=none→b∉fs→b∉ex→h'.get? b=some o
 slot:∀ b o,h.get? b=some o→H b=none→b∈fs→b∉ex→∃ sl,h'.get? b=some { o with slots:=sl }
 free:∀ b o,h.get? b=some o→H b=none→b∉ex→H' b=none
 there:∀ b o,h.get? b=some o→b∉ex→∃ o',h'.get? b=some o'
 tups:∀ b xs,H b=some (.tup xs)→H' b=some (.tup xs)
 yU:∀ b o u,H b=some (.frz o u)→H' b=some (.frz o u)
 yl:∀ b w ps,H b=some (.tbl w ps)→∃ more,H' b=some (.tbl w (ps++more))
section
variable{fs fs' ex ex':List Addr}{H H1 H2:Hp}{h h1 h2 h':Heap}{a x e:Addr}{o:HO}
theorem Un.any(u:Un fs ex H H1 h h1){b:Addr}{ob:Obj}(q:h.get? b=some ob)(n:H b=none)(hx:b∉ex):∃ sl,h1.get? b=some { ob with slots:=sl }:=by
 by_cases hb:b∈fs
 ·exact u.slot b ob q n hb hx
 ·exact⟨ob.slots,u.keep b ob q n hb hx⟩
theorem Un.kept(k:∀ b u,h.get? b=some u→h'.get? b=some u):Un fs ex H H h h' :=
 ⟨fun b ob q _ _ _=>k b ob q,fun b ob q _ _ _=>⟨ob.slots,k b ob q⟩,fun _ _ _ n _=>n,fun b ob q _=>⟨ob,k b ob q⟩,fun _ _ q=>q,fun _ _ _ q=>q,fun _ w ps q=>⟨#[],by rw[q];simp⟩⟩
theorem Un.refl:Un fs ex H H h h:=Un.kept fun _ _ q=>q
theorem Un.laid(k:∀ b u,h.get? b=some u→h'.get? b=some u)(hp:h.objs.size≤a)(hn:H a=none):Un fs ex H (upd H a o) h h' where
 keep:=fun b u q _ _ _=>k b u q
 slot:=fun b u q _ _ _=>⟨u.slots,k b u q⟩
 free:=fun b u q n _=>by rw[aN (Nat.ne_of_lt (Nat.lt_of_lt_of_le (Heap.lt_size q) hp))];exact n
 there:=fun b u q _=>⟨u,k b u q⟩
 tups:=fun b xs q=>by rw[aN (bh q hn)];exact q
 yU:=fun b u xs q=>by rw[aN (bh q hn)];exact q
 yl:=fun b w ps q=>⟨#[],by rw[aN (bh q hn),q];simp⟩
theorem Un.write(mu:Mut (H x))(he:e=x∨H e=some (.own x))(k:∀ b u,b≠e→h.get? b=some u→h'.get? b=some u)(heo:∃ u,h'.get? e=some u):Un fs ex H (upd H x o) h h':=by
 have hx:∀ b,H b=none→b≠x:=fun b n z=>by subst z;rw[n] at mu;exact mu
 have hb:∀ b,H b=none→b≠e:=fun b n z=>by
  subst z
  rcases he with r|r
  ·exact hx b n r
  ·rw[n] at r;cases r
 have hm:∀ b u,H b=some u→¬ Mut (some u)→b≠x:=fun b u q nm z=>by subst z;rw[q] at mu;exact nm mu
 refine⟨fun b u q n _ _=>k b u (hb b n) q,fun b u q n _ _=>⟨u.slots,k b u (hb b n) q⟩,fun b u q n _=>by rw[aN (hx b n)];exact n,fun b u q _=>?_,
  fun b xs q=>by rw[aN (hm b _ q fun z=>z)];exact q,fun b u xs q=>by rw[aN (hm b _ q fun z=>z)];exact q,fun b w ps q=>⟨#[],by rw[aN (hm b _ q fun z=>z),q];simp⟩⟩
 by_cases hbe:b=e
 ·subst hbe;exact heo
 ·exact⟨u,k b u hbe q⟩
end
def trk(h:Heap)(H:Hp):List Addr:=(List.range h.objs.size).filter fun a=>(H a).isSome
def Dp(h:Heap)(H:Hp):Heap:=W.hideAll h (trk h H)
theorem Th(h:Heap)(H:Hp):(Dp h H).objs.size=h.objs.size:=W.hideAll_size _ _
theorem Ws{h:Heap}{H:Hp}{b:Addr}{o:Obj}(e:h.get? b=some o)(n:H b=none):(Dp h H).get? b=some o :=
 W.hideAll_get _ e fun hm=>by
  have q:(H b).isSome=true:=(List.mem_filter.mp hm).2
  rw[n] at q;simp at q
theorem Yz{h:Heap}{H:Hp}{b:Addr}{o:Obj}(e:(Dp h H).get? b=some o):h.get? b=some o∧H b=none:=by
 have e':h.get? b=some o:=W.of_hideAll (trk h H) e
 refine⟨e',?_⟩
 cases q:H b with
 | none=>rfl
 | some x =>
  have hm:b∈trk h H:=List.mem_filter.mpr ⟨List.mem_range.mpr (Heap.lt_size e'),by simp[q]⟩
  have z:(Dp h H).get? b=none:=W.hideAll_none (trk h H) hm
  rw[z] at e;cases e
end L2
namespace L2
open PySem PySem.Spec PyProof.Rows
structure Mod(K:W.Frag)(mg:Str→Option Value)(base:Heap):Prop where
 kin:K.In base
 glob:base.Ns mainGlobals mg
 blt:∃ mb,base.Ns builtinsNs mb∧∀ x:Str,x ≠ "__name__" → mb x=bootBuiltins x
 nolimit:base.NoLimit
structure Cx where
 prog:Program
 w:World
 K:W.Frag
 mg:Str→Option Value
 base:Heap
 A:Around
 N:List Str
 s₀:Shared
 H₀:Hp
 env:Env
 outer:List Env
 stack:List Env
 ex:List Addr
 fn:Str→Bool
 calm:Bool
 pn:List (Addr×Obj)
 xe:Value→Shared→Prop
def frs(l:List Env):List Addr:=l.filterMap (·.frame)
abbrev Cx.fs(X:Cx):List Addr:=frs X.outer
def Vis(sc:Scope)(x:Str):Prop:=sc.names.lookup x=some .local∨sc.names.lookup x=some .cell∨sc.names.lookup x=some .free
def Loc(sc:Scope)(x:Str):Prop:=sc.names.lookup x=some .local∨sc.names.lookup x=some .cell
def Look(env:Env)(h:Heap)(m:Str→Option Value)(x:Str)(u:Value):Prop :=
 (env.kindOf x=some .local∧m x=some u)∨((env.kindOf x=some .cell∨env.kindOf x=some .free)∧∃ c,env.cells.lookup x=some c∧h.IsCell c (some u))
structure Cx.Ok(X:Cx):Prop where
 mod:Mod X.K X.mg X.base
 kind:X.env.scope.kind=.function
 glob:X.env.globals=mainGlobals
 blt:X.env.builtins=builtinsNs
 above:X.s₀.heap.objs.size≤X.env.locals
 inj:∀ x y c,X.env.cells.lookup x=some c→X.env.cells.lookup y=some c→x=y
 has:∀ x,(X.env.kindOf x=some .cell∨X.env.kindOf x=some .free)→∃ c,X.env.cells.lookup x=some c
 cab:∀ x c,X.fn x=true→X.env.cells.lookup x=some c→X.s₀.heap.objs.size≤c
 hd:X.calm=true→X.A.handled=none
 frames:X.A.frames=some X.stack
 stk:X.stack=X.outer∨(X.stack=X.env::X.outer∧X.env.frame=some X.env.locals)
 exf:∀ b∈X.ex,b≠X.env.locals∧∀ x c,X.env.cells.lookup x=some c→c≠b
 bs:∀ b o,X.base.get? b=some o→X.s₀.heap.get? b=some o∧X.H₀ b=none
 bsz:X.base.objs.size≤X.s₀.heap.objs.size
 O5:∀ b o,X.base.get? b=some o→b∉X.ex
 Tp:∀ b∈X.ex,b∉X.fs
 uK:X.s₀.heap.FunFrames X.base X.outer
 frf:∀ b∈X.fs,X.H₀ b=none
structure Inv(X:Cx)(pins:List (Addr×Obj))(σ : List (Option V))(H:Hp)(s:Shared):Prop where
 ok:X.Ok
 os:s.os=X.s₀.os
 bare:AllBare s.gens
 base:Un X.fs X.ex X.H₀ H X.s₀.heap s.heap
 loc:∃ m,s.heap.Ns X.env.locals m∧∀ (i:Nat) (x:Str) (v:V),X.N[i]? = some x→σ[i]? = some (some v)→Vis X.env.scope x→∃ u,RelV v u∧Look X.env s.heap m x u
 cell:∀ x c,X.env.cells.lookup x=some c→∃ v,s.heap.IsCell c v
 free:H X.env.locals=none
 nZ:∀ x c,X.env.cells.lookup x=some c→H c=none
 pin:∀ p∈X.pn++pins,s.heap.get? p.1=some p.2∧H p.1=none∧p.1≠X.env.locals∧p.1∉X.fs∧∀ v,p.2.data≠.cell v
 hok:rN X.prog X.w H s.heap
 len:σ.length=X.N.length
section
variable{X:Cx}{pins:List (Addr×Obj)}{σ : List (Option V)}{H H':Hp}{s:Shared}{h':Heap}
theorem Cx.Ok.aet(ok:X.Ok){b:Addr}{o:Obj}(e:X.base.get? b=some o):b∉X.fs:=fun hb=>by
 have:=(ok.uK.mem hb).1
 rw[e] at this;cases this
theorem Inv.bs(I:Inv X pins σ H s):∀ b o,X.base.get? b=some o→s.heap.get? b=some o∧H b=none:=fun b o e =>
 ⟨I.base.keep b o (I.ok.bs b o e).1 (I.ok.bs b o e).2 (I.ok.aet e) (I.ok.O5 b o e),I.base.free b o (I.ok.bs b o e).1 (I.ok.bs b o e).2 (I.ok.O5 b o e)⟩
theorem Inv.bk(I:Inv X pins σ H s):∀ b o,X.base.get? b=some o→s.heap.get? b=some o:=fun b o e=>(I.bs b o e).1
theorem Inv.mod(I:Inv X pins σ H s):Mod X.K X.mg X.base:=I.ok.mod
theorem Inv.Bg(I:Inv X pins σ H s):X.K.In s.heap:=I.ok.mod.kin.keeps I.bk
theorem Inv.nolimit(I:Inv X pins σ H s):s.heap.NoLimit:=I.ok.mod.nolimit.keeps I.bk
theorem Inv.lt(I:Inv X pins σ H s):X.env.locals < s.heap.objs.size:=let ⟨_,hn,_⟩:=I.loc;hn.lt
theorem Inv.sz(I:Inv X pins σ H s):X.s₀.heap.objs.size≤s.heap.objs.size:=Nat.le_trans I.ok.above (Nat.le_of_lt I.lt)
theorem Inv.aes(I:Inv X pins σ H s){a:Addr}(h:s.heap.objs.size≤a):a∉X.fs:=fun hb=>by
 obtain⟨_,o,ho,_⟩:=I.ok.uK.mem hb
 exact absurd (Nat.lt_of_lt_of_le (Heap.lt_size ho) (Nat.le_trans I.sz h)) (Nat.lt_irrefl _)
theorem Inv.Zi(I:Inv X pins σ H s):∀ x c,X.env.cells.lookup x=some c→c≠X.env.locals:=fun x c e z=>by
 obtain⟨v,o,ho,hd⟩:=I.cell x c e
 obtain⟨m,⟨o',es,ep,ho',hd',_⟩,_⟩:=I.loc
 rw[z,ho'] at ho;cases ho;rw[hd'] at hd;cases hd
theorem Inv.uK(I:Inv X pins σ H s):s.heap.FunFrames X.base X.outer:=by
 have all:∀ (l:List Env),(∀ b∈frs l,b∈X.fs)→X.s₀.heap.FunFrames X.base l→s.heap.FunFrames X.base l:=by
  intro l
  induction l with
  | nil=>intro _ _;trivial
  | cons env r ih =>
   intro hs hl
   obtain⟨hk,⟨L,o,hf,hn,ho,hd⟩,hr⟩:=hl
   have hL:L∈X.fs:=hs L (by unfold frs;rw[List.filterMap_cons,hf];exact List.mem_cons_self)
   obtain⟨sl,e⟩:=I.base.slot L o ho (I.ok.frf L hL) hL fun z=>I.ok.Tp L z hL
   exact⟨hk,⟨L,_,hf,hn,e,hd⟩,ih (fun b hb=>hs b (by unfold frs;rw[List.filterMap_cons,hf];exact List.mem_cons_of_mem _ hb)) hr⟩
 exact all X.outer (fun _ hb=>hb) I.ok.uK
theorem Inv.stack(I:Inv X pins σ H s):s.heap.FunFrames X.base X.stack:=by
 rcases I.ok.stk with e|⟨e,hf⟩
 ·rw[e];exact I.uK
 ·rw[e]
  obtain⟨m,hn,_⟩:=I.loc
  refine .cons (by rw[I.ok.kind];decide) hf hn ?_ I.uK
  exact Heap.get?_none_of_le (Nat.le_trans I.ok.bsz I.ok.above)
theorem Inv.Hy(I:Inv X pins σ H s):∀ b∈frs X.stack,b∈X.env.locals::X.fs:=fun b hb=>by
 rcases I.ok.stk with e|⟨e,hf⟩
 ·rw[e] at hb;exact List.mem_cons_of_mem _ hb
 ·rw[e] at hb
  unfold frs at hb
  rw[List.filterMap_cons,hf] at hb
  exact hb
theorem Inv.w6(I:Inv X pins σ H s):∀ b∈frs X.stack,H b=none:=fun b hb=>by
 rcases List.mem_cons.mp (I.Hy b hb) with e|hb
 ·rw[e];exact I.free
 ·obtain⟨_,o,ho,_⟩:=I.ok.uK.mem hb
  exact I.base.free b o ho (I.ok.frf b hb) fun z=>I.ok.Tp b z hb
theorem Inv.step{g':Array GenState}{t':Nat}{d':Drawn}{ch:List Addr}(I:Inv X pins σ H s)
 (hch:∀ b∈ch,(b∈X.ex∨X.s₀.heap.objs.size≤b)∧b≠X.env.locals∧(∀ x c,X.env.cells.lookup x=some c→c≠b)∧∀ p∈X.pn++pins,p.1≠b)
 (keep:∀ b o,b≠X.env.locals→b∉X.fs→b∉ch→s.heap.get? b=some o→H b=none→h'.get? b=some o)
 (slot:∀ b o,b≠X.env.locals→b∈X.fs→b∉ch→s.heap.get? b=some o→H b=none→∃ sl,h'.get? b=some { o with slots:=sl }) (free:∀ b o,b∉ch→s.heap.get? b=some o→H b=none→H' b=none)
 (there:∀ b o,b∉ch→s.heap.get? b=some o→∃ o',h'.get? b=some o')
 (tups:∀ b xs,H b=some (.tup xs)→H' b=some (.tup xs)) (yU:∀ b o u,H b=some (.frz o u)→H' b=some (.frz o u)) (yl:∀ b w ps,H b=some (.tbl w ps)→∃ more,H' b=some (.tbl w (ps++more)))
 (ns:∀ m,s.heap.Ns X.env.locals m→h'.Ns X.env.locals m) (hok:rN X.prog X.w H' h') (hg:AllBare g') :
 Inv X pins σ H' { s with heap:=h',gens:=g',drawn:=d',toks:=t' }:=by
 have neL:∀ b o,X.s₀.heap.get? b=some o→b≠X.env.locals:=fun b o e=>Nat.ne_of_lt (Nat.lt_of_lt_of_le (Heap.lt_size e) I.ok.above)
 have neC:∀ b o,X.s₀.heap.get? b=some o→b∉X.ex→b∉ch:=fun b o e hx hb=>by
  rcases (hch b hb).1 with z|z
  ·exact hx z
  ·exact absurd (Nat.lt_of_lt_of_le (Heap.lt_size e) z) (Nat.lt_irrefl _)
 have cellK:∀ x c,X.env.cells.lookup x=some c→∀ v,s.heap.IsCell c v→h'.IsCell c v:=fun x c e v ⟨o,ho,hd⟩=>by
  have nch:c∉ch:=fun z=>(hch c z).2.2.1 x c e rfl
  by_cases hc:c∈X.fs
  ·obtain⟨sl,q⟩:=slot c o (I.Zi x c e) hc nch ho (I.nZ x c e)
   exact⟨_,q,hd⟩
  ·exact⟨o,keep c o (I.Zi x c e) hc nch ho (I.nZ x c e),hd⟩
 refine⟨I.ok,I.os,hg,⟨fun b o e n hb hx=>?_,fun b o e n hb hx=>?_,fun b o e n hx=>?_,fun b o e hx=>?_,fun b xs e=>tups b xs (I.base.tups b xs e),fun b o xs e=>yU b o xs (I.base.yU b o xs e),fun b w ps e=>?_⟩,?_,fun x c e=>?_,?_,fun x c e=>?_,fun p hp=>?_,hok,I.len⟩
 ·exact keep b o (neL b o e) hb (neC b o e hx) (I.base.keep b o e n hb hx) (I.base.free b o e n hx)
 ·obtain⟨sl,e1⟩:=I.base.slot b o e n hb hx
  obtain⟨sl',e2⟩:=slot b _ (neL b o e) hb (neC b o e hx) e1 (I.base.free b o e n hx)
  exact⟨sl',e2⟩
 ·obtain⟨o',e1⟩:=I.base.there b o e hx
  exact free b o' (neC b o e hx) e1 (I.base.free b o e n hx)
 ·obtain⟨o',e1⟩:=I.base.there b o e hx
  exact there b o' (neC b o e hx) e1
 ·obtain⟨m1,e1⟩:=I.base.yl b w ps e
  obtain⟨m2,e2⟩:=yl b w _ e1
  exact⟨m1++m2,by rw[e2,Array.append_assoc]⟩
 ·obtain⟨m,hn,hl⟩:=I.loc
  refine⟨m,ns m hn,fun i x v e1 e2 e3=>?_⟩
  obtain⟨u,r,l⟩:=hl i x v e1 e2 e3
  refine⟨u,r,?_⟩
  rcases l with l|⟨k,c,e,z⟩
  ·exact .inl l
  ·exact .inr ⟨k,c,e,cellK x c e _ z⟩
 ·obtain⟨v,z⟩:=I.cell x c e
  exact⟨v,cellK x c e v z⟩
 ·obtain⟨m,⟨o,_,_,ho,_⟩,_⟩:=I.loc
  exact free _ o (fun z=>(hch _ z).2.1 rfl) ho I.free
 ·obtain⟨v,o,ho,hd⟩:=I.cell x c e
  exact free c o (fun z=>(hch c z).2.2.1 x c e rfl) ho (I.nZ x c e)
 ·obtain⟨e,n,ne,nf,d⟩:=I.pin p hp
  have nch:p.1∉ch:=fun z=>(hch p.1 z).2.2.2 p hp rfl
  exact⟨keep p.1 p.2 ne nf nch e n,free p.1 p.2 nch e n,ne,nf,d⟩
theorem Inv.un{t':Nat}(I:Inv X pins σ H s)(u:Un X.fs [] H H' s.heap h')(hok:rN X.prog X.w H' h'):Inv X pins σ H' { s with heap:=h',toks:=t' }:=by
 obtain⟨m,⟨o,es,ep,ho,r⟩,_⟩:=id I.loc
 obtain⟨sl,hL⟩:=u.any ho I.free (by simp)
 exact I.step (g':=s.gens) (d':=s.drawn) (ch:=[]) (fun _ z=>nomatch z) (fun b o _ hb _ e n=>u.keep b o e n hb (by simp)) (fun b o _ hb _ e n=>u.slot b o e n hb (by simp)) (fun b o _ e n=>u.free b o e n (by simp)) (fun b o _ e=>u.there b o e (by simp)) u.tups u.yU u.yl (fun m' hm=>by
  obtain⟨o',es',ep',ho',r'⟩:=hm
  rw[ho] at ho';cases ho'
  exact⟨_,es',ep',hL,r'⟩) hok I.bare
theorem Inv.call{g':Array GenState}{t':Nat}{d':Drawn}{ch:List Addr}(I:Inv X pins σ H s)(u:Un (frs X.stack) ch H H' s.heap h')(hok:rN X.prog X.w H' h')(hg:AllBare g')
 (hch:∀ b∈ch,(b∈X.ex∨X.s₀.heap.objs.size≤b)∧b≠X.env.locals∧(∀ x c,X.env.cells.lookup x=some c→c≠b)∧∀ p∈X.pn++pins,p.1≠b) :
 Inv X pins σ H' { s with heap:=h',gens:=g',drawn:=d',toks:=t' }:=by
 obtain⟨m,⟨o,es,ep,ho,r⟩,_⟩:=id I.loc
 obtain⟨sl,hL⟩:=u.any ho I.free fun z=>(hch _ z).2.1 rfl
 exact I.step (ch:=ch) hch (fun b o hL hb hc e n=>u.keep b o e n (fun z=>(List.mem_cons.mp (I.Hy b z)).elim hL hb) hc) (fun b o _ _ hc e n=>u.any e n hc) (fun b o hc e n=>u.free b o e n hc) (fun b o hc e=>u.there b o e hc) u.tups u.yU u.yl (fun m' hm=>by
  obtain⟨o',es',ep',ho',r'⟩:=hm
  rw[ho] at ho';cases ho'
  exact⟨_,es',ep',hL,r'⟩) hok hg
theorem Inv.turned{t':Nat}{it:Addr}(I:Inv X pins σ H s)(k:∀ b o,b≠it→s.heap.get? b=some o→h'.get? b=some o)(hn:H it=none)(hL:it≠X.env.locals)
 (h1:it∈X.ex∨X.s₀.heap.objs.size≤it) (h2:∀ x c,X.env.cells.lookup x=some c→c≠it) (h3:∀ p∈X.pn++pins,p.1≠it):Inv X pins σ H { s with heap:=h',toks:=t' }:=by
 have nit:∀ b u,H b=some u→b≠it:=fun b u e z=>by rw[z,hn] at e;cases e
 refine I.step (g':=s.gens) (d':=s.drawn) (ch:=[it]) (fun b hb=>?_) (fun b o _ _ hc e _=>k b o (fun z=>hc (by simp[z])) e) (fun b o _ _ hc e _=>⟨o.slots,k b o (fun z=>hc (by simp[z])) e⟩) (fun _ _ _ _ n=>n)
  (fun b o hc e=>⟨o,k b o (fun z=>hc (by simp[z])) e⟩) (fun _ _ e=>e) (fun _ _ _ e=>e) (fun b w ps e=>⟨#[],by rw[e];simp⟩) (fun m hm=>?_) (fun b u e=>?_) I.bare
 ·have e:b=it:=by simpa using hb
  subst e
  exact⟨h1,hL,h2,h3⟩
 ·obtain⟨o,es,ep,ho,r⟩:=hm
  exact⟨o,es,ep,k _ o (Ne.symm hL) ho,r⟩
 ·refine(I.hok b u e).stay (fun c v hc q=>k c v ?_ q) (fun _ q=>q) fun _ _ q=>q
  rcases hc with z|z
  ·rw[z];exact nit b u e
  ·exact nit c _ z
theorem Inv.tok(I:Inv X pins σ H s)(t:Nat):Inv X pins σ H { s with toks:=t }:=I.un (h':=s.heap) (t':=t) Un.refl I.hok
theorem Inv.kept{t':Nat}(I:Inv X pins σ H s)(k:∀ b u,s.heap.get? b=some u→h'.get? b=some u):Inv X pins σ H { s with heap:=h',toks:=t' }:=I.un (Un.kept k) (I.hok.kept k)
theorem Inv.laid{a:Addr}{o:HO}{t':Nat}(I:Inv X pins σ H s)(k:∀ b u,s.heap.get? b=some u→h'.get? b=some u)(hp:s.heap.objs.size≤a)(new:dZ X.prog X.w (upd H a o) h' a o) :
 Inv X pins σ (upd H a o) { s with heap:=h',toks:=t' }:=I.un (Un.laid k hp (I.hok.fresh hp)) (I.hok.laid k hp new)
theorem Inv.write{x e:Addr}{o:HO}{t':Nat}(I:Inv X pins σ H s)(mu:Mut (H x))(he:e=x∨H e=some (.own x))(k:∀ b u,b≠e→s.heap.get? b=some u→h'.get? b=some u)(heo:∃ u,h'.get? e=some u)
 (new:dZ X.prog X.w (upd H x o) h' x o):Inv X pins σ (upd H x o) { s with heap:=h',toks:=t' }:=I.un (Un.write mu he k heo) (I.hok.write mu he k heo new)
theorem Inv.weak{σ':List (Option V)}(I:Inv X pins σ H s)(hl:σ'.length = σ.length)(w:∀ (i:Nat) v,σ'[i]? = some (some v)→σ[i]? = some (some v)):Inv X pins σ' H s :=
 ⟨I.ok,I.os,I.bare,I.base,let ⟨m,hn,hl'⟩:=I.loc;⟨m,hn,fun i x v e1 e2 e3=>hl' i x v e1 (w i v e2) e3⟩,I.cell,I.free,I.nZ,I.pin,I.hok,hl.trans I.len⟩
theorem Inv.HW{Ga:List (Addr×Obj)}(I:Inv X pins σ H s)(h:∀ p∈Ga,s.heap.get? p.1=some p.2∧H p.1=none∧p.1≠X.env.locals∧p.1∉X.fs∧∀ v,p.2.data≠.cell v):Inv X Ga σ H s :=
 ⟨I.ok,I.os,I.bare,I.base,I.loc,I.cell,I.free,I.nZ,fun p hp=>(List.mem_append.mp hp).elim (fun z=>I.pin p (List.mem_append_left _ z)) (h p),I.hok,I.len⟩
theorem CP{N:List Str}(hN:N.Nodup){i j:Nat}{x:Str}(a:N[i]? = some x)(b:N[j]? = some x):i=j:=by
 obtain⟨h1,e1⟩:=List.getElem?_eq_some_iff.mp a
 obtain⟨h2,e2⟩:=List.getElem?_eq_some_iff.mp b
 exact(List.getElem_inj hN).mp (e1.trans e2.symm)
theorem Fz{M:Model}{A:Around}{E:Value→Shared→Prop}{i:Nat}{x:Str}{v:V}{u:Value}{Q:Unit→Shared→Prop}(I:Inv X pins σ H s)(hN:X.N.Nodup)(hi:X.N[i]? = some x)(hx:Loc X.env.scope x)(r:RelV v u)
 (h:∀ s',Inv X pins (σ.set i (some v)) H s'→(∃ a,Heap.SameBut a s.heap s'.heap∧(a=X.env.locals∨X.env.cells.lookup x=some a))→Q () s') (hf:X.fn x=true∨X.env.scope.names.lookup x=some .local:=by first|exact .inl rfl|exact .inr rfl|assumption):wpAny M A (storeName X.env x u) Q E s:=by
 obtain⟨m,hn,hl⟩:=id I.loc
 have hcls:(X.env.scope.kind == .class || (X.env.scope.kind == .module && X.env.locals != X.env.globals))=false:=by rw[I.ok.kind];rfl
 have hiσ : i < σ.length:=by rw[I.len];exact(List.getElem?_eq_some_iff.mp hi).1
 have Zi:=I.Zi
 have tracked:∀ {a:Addr} {h':Heap},(∃ o,s.heap.get? a=some o∧H a=none)→Heap.SameBut a s.heap h'→rN X.prog X.w H h':=fun {a h'} ha hs b ob e=>by
  obtain⟨_,_,hfree⟩:=ha
  refine(I.hok b ob e).stay (fun c w' hc q=>(hs.2 c ?_).trans q) (fun _ q=>q) fun _ _ q=>q
  rintro rfl
  rcases hc with rfl|hc
  ·rw[hfree] at e;cases e
  ·rw[hfree] at hc;cases hc
 rcases hx with hk|hk
 ·refine wpAny_storeName_local hk hn (fun h' hn' hs=>?_) hcls
  obtain⟨oL,_,_,hoL,_⟩:=id hn
  refine h _ ⟨I.ok,I.os,I.bare,⟨fun b o e n hb hx=>?_,fun b o e n hb hx=>?_,I.base.free,fun b o e hx=>?_,I.base.tups,I.base.yU,I.base.yl⟩,⟨_,hn',fun j y v' e1 e2 e3=>?_⟩,fun y c e=>?_,I.free,I.nZ,fun p hp=>?_,tracked ⟨oL,hoL,I.free⟩ hs,by simpa using I.len⟩ ⟨_,hs,.inl rfl⟩
  ·exact(hs.2 b (Nat.ne_of_lt (Nat.lt_of_lt_of_le (Heap.lt_size e) I.ok.above))).trans (I.base.keep b o e n hb hx)
  ·obtain⟨sl,e1⟩:=I.base.slot b o e n hb hx
   exact⟨sl,(hs.2 b (Nat.ne_of_lt (Nat.lt_of_lt_of_le (Heap.lt_size e) I.ok.above))).trans e1⟩
  ·obtain⟨o',e1⟩:=I.base.there b o e hx
   exact⟨o',(hs.2 b (Nat.ne_of_lt (Nat.lt_of_lt_of_le (Heap.lt_size e) I.ok.above))).trans e1⟩
  ·by_cases hj:j=i
   ·subst hj
    rw[hi] at e1;cases e1
    rw[List.getElem?_set_self hiσ] at e2
    cases e2
    exact⟨u,r,.inl ⟨hk,by simp⟩⟩
   ·rw[List.getElem?_set_ne (Ne.symm hj)] at e2
    obtain⟨u',r',q⟩:=hl j y v' e1 e2 e3
    refine⟨u',r',?_⟩
    rcases q with ⟨k,e⟩|⟨k,c,e,z⟩
    ·refine .inl ⟨k,?_⟩
     have:y≠x:=fun e=>hj (CP hN e1 (e ▸ hi))
     simp[this,e]
    ·exact .inr ⟨k,c,e,z.sameBut hs (Zi y c e)⟩
  ·obtain⟨w',z⟩:=I.cell y c e
   exact⟨w',z.sameBut hs (Zi y c e)⟩
  ·obtain⟨e,n,ne,nf,d⟩:=I.pin p hp
   exact⟨(hs.2 p.1 ne).trans e,n,ne,nf,d⟩
 ·have hfn:X.fn x=true:=by
   rcases hf with z|z
   ·exact z
   ·rw[z] at hk;cases hk
  obtain⟨c,hc⟩:=I.ok.has x (.inl hk)
  obtain⟨w',z⟩:=I.cell x c hc
  refine wpAny_storeName_cell I.ok.kind hk hc z (fun h' hc' hs=>?_)
  obtain⟨oc,hoc,aeG⟩:=id z
  refine h { s with heap:=h' } ⟨I.ok,I.os,I.bare,⟨fun b o e n hb hx=>?_,fun b o e n hb hx=>?_,I.base.free,fun b o e hx=>?_,I.base.tups,I.base.yU,I.base.yl⟩,⟨m,hn.sameBut hs (Ne.symm (Zi x c hc)),fun j y v' e1 e2 e3=>?_⟩,fun y c' e=>?_,I.free,I.nZ,fun p hp=>?_,tracked ⟨oc,hoc,I.nZ x c hc⟩ hs,by simpa using I.len⟩ ⟨c,hs,.inr hc⟩
  ·exact(hs.2 b (Nat.ne_of_lt (Nat.lt_of_lt_of_le (Heap.lt_size e) (I.ok.cab x c hfn hc)))).trans (I.base.keep b o e n hb hx)
  ·obtain⟨sl,e1⟩:=I.base.slot b o e n hb hx
   exact⟨sl,(hs.2 b (Nat.ne_of_lt (Nat.lt_of_lt_of_le (Heap.lt_size e) (I.ok.cab x c hfn hc)))).trans e1⟩
  ·obtain⟨o',e1⟩:=I.base.there b o e hx
   exact⟨o',(hs.2 b (Nat.ne_of_lt (Nat.lt_of_lt_of_le (Heap.lt_size e) (I.ok.cab x c hfn hc)))).trans e1⟩
  ·by_cases hj:j=i
   ·subst hj
    rw[hi] at e1;cases e1
    rw[List.getElem?_set_self hiσ] at e2
    cases e2
    exact⟨u,r,.inr ⟨.inl hk,c,hc,hc'⟩⟩
   ·rw[List.getElem?_set_ne (Ne.symm hj)] at e2
    obtain⟨u',r',q⟩:=hl j y v' e1 e2 e3
    refine⟨u',r',?_⟩
    rcases q with q|⟨k,c',e,z'⟩
    ·exact .inl q
    ·refine .inr ⟨k,c',e,z'.sameBut hs ?_⟩
     rintro rfl
     exact hj (CP hN e1 (I.ok.inj _ _ _ e hc ▸ hi))
  ·by_cases hcc:c'=c
   ·subst hcc;exact⟨_,hc'⟩
   ·obtain⟨w2,z2⟩:=I.cell y c' e
    exact⟨w2,z2.sameBut hs hcc⟩
  ·obtain⟨e,n,ne,nf,d⟩:=I.pin p hp
   refine⟨(hs.2 p.1 ?_).trans e,n,ne,nf,d⟩
   intro q
   rw[q,hoc] at e
   have q':oc=p.2:=Option.some.inj e
   exact d w' (by rw[← q'];exact aeG)
theorem wZ{M:Model}{A:Around}{E:Value→Shared→Prop}{i:Nat}{x:Str}{v:V}{u:Value}{Q:Unit→Shared→Prop}(I:Inv X pins σ H s)(hN:X.N.Nodup)(hi:X.N[i]? = some x)(hx:Loc X.env.scope x)(r:RelV v u)
 (h:∀ s',Inv X pins (σ.set i (some v)) H s'→Q () s') (hf:X.fn x=true∨X.env.scope.names.lookup x=some .local:=by first|exact .inl rfl|exact .inr rfl|assumption):wpAny M A (storeName X.env x u) Q E s :=
 Fz I hN hi hx r (fun s' I' _=>h s' I') hf
theorem Inv.call'{s':Shared}{ch:List Addr}(I:Inv X pins σ H s)(ho:s'.os=s.os)(u:Un (frs X.stack) ch H H' s.heap s'.heap)(hok:rN X.prog X.w H' s'.heap)(hg:AllBare s'.gens)
 (hch:∀ b∈ch,(b∈X.ex∨X.s₀.heap.objs.size≤b)∧b≠X.env.locals∧(∀ x c,X.env.cells.lookup x=some c→c≠b)∧∀ p∈X.pn++pins,p.1≠b):Inv X pins σ H' s':=by
 obtain⟨h',g',d',t',o'⟩:=s'
 have e:o'=s.os:=ho
 subst e
 exact I.call (g':=g') (t':=t') (d':=d') u hok hg hch
end
abbrev XK:=Value→Option Addr→Hp→Prop
abbrev St:=List (Option V)
abbrev VK:=V→Hp→Prop
abbrev TE:=St→Hp→VK→Prop
abbrev TT:=St→Hp→(Bool→Hp→Prop)→Prop
abbrev TA:=St→Hp→(List V→Hp→Prop)→Prop
structure Ends where
 nx:St→Hp→Prop
 rt:VK
 bk:St→Hp→Prop:=fun _ _=>False
 ct:St→Hp→Prop:=fun _ _=>False
abbrev TS:=Ends→St→Hp→Prop
def EP(X:Cx)(pins:List (Addr×Obj))(σ : St)(Q:VK)(u:Value)(s':Shared):Prop:=∃ v H',Inv X pins σ H' s'∧RelV v u∧Q v H'
def TP(X:Cx)(pins:List (Addr×Obj))(σ : St)(Q:Bool→Hp→Prop)(b:Bool)(s':Shared):Prop:=∃ H',Inv X pins σ H' s'∧Q b H'
def AP(X:Cx)(pins:List (Addr×Obj))(σ : St)(Q:List V→Hp→Prop)(us:List Value)(s':Shared):Prop:=∃ vs H',Inv X pins σ H' s'∧Vals vs us∧Q vs H'
def SP(X:Cx)(pins:List (Addr×Obj))(D:Ends)(f:Flow)(s':Shared):Prop :=
 match f with
 | .next=>∃ σ' H',Inv X pins σ' H' s'∧D.nx σ' H'
 | .brk=>∃ σ' H',Inv X pins σ' H' s'∧D.bk σ' H'
 | .cont=>∃ σ' H',Inv X pins σ' H' s'∧D.ct σ' H'
 | .ret u=>∃ v σ' H',Inv X pins σ' H' s'∧RelV v u∧D.rt v H'
def PE(X:Cx)(e:Expr)(t:TE):Prop :=
 ∀ (pins:List (Addr×Obj)) (s:Shared) (σ : St) (H:Hp) (Q:VK),Inv X pins σ H s→t σ H Q→wpAny (model X.prog X.w) X.A (eval e X.env) (EP X pins σ Q) X.xe s
def PT(X:Cx)(e:Expr)(t:TT):Prop :=
 ∀ (pins:List (Addr×Obj)) (s:Shared) (σ : St) (H:Hp) (Q:Bool→Hp→Prop),Inv X pins σ H s→t σ H Q→wpAny (model X.prog X.w) X.A (isTrue e X.env (eval e X.env)) (TP X pins σ Q) X.xe s
def PW(X:Cx)(e:Expr)(t:TT):Prop :=
 ∀ (whole:Sem Value) (pins:List (Addr×Obj)) (s:Shared) (σ : St) (H:Hp) (Q:Bool→Hp→Prop),Inv X pins σ H s→t σ H Q→wpAny (model X.prog X.w) X.A (isTrue e X.env whole) (TP X pins σ Q) X.xe s
theorem PW.pt{X:Cx}{e:Expr}{t:TT}(h:PW X e t):PT X e t:=h _
def PA(X:Cx)(es:List Expr)(t:TA):Prop :=
 ∀ (pos:Pos) (pins:List (Addr×Obj)) (s:Shared) (σ : St) (H:Hp) (Q:List V→Hp→Prop),Inv X pins σ H s→t σ H Q→wpAny (model X.prog X.w) X.A (spliced (backTo pos (starEach es X.env))) (AP X pins σ Q) X.xe s
def PS(X:Cx)(st:Stmt)(t:TS):Prop :=
 ∀ (pins:List (Addr×Obj)) (s:Shared) (σ : St) (H:Hp) (D:Ends),Inv X pins σ H s→t D σ H→wpAny (model X.prog X.w) X.A (exec st X.env) (SP X pins D) X.xe s
def J5(X:Cx)(st:List Stmt)(t:TS):Prop :=
 ∀ (pins:List (Addr×Obj)) (s:Shared) (σ : St) (H:Hp) (D:Ends),Inv X pins σ H s→t D σ H→wpAny (model X.prog X.w) X.A (execs st X.env) (SP X pins D) X.xe s
theorem gW{α : Type}{t:Sem α}{Q Q':α→Shared→Prop}{M:Model}{A:Around}{E:Value→Shared→Prop}{s:Shared}(h:wpAny M A t Q E s)(hQ:∀ a s,Q a s→Q' a s):wpAny M A t Q' E s:=wpAny_mono h hQ fun _ _ x=>x
end L2
namespace L2
open PySem PySem.Spec PyProof.Rows
section
variable{X:Cx}
def wW(i:Nat):TE:=fun σ H Q=>∃ v,σ[i]? = some (some v)∧Q v H
def tC(v:V):TE:=fun _ H Q=>Q v H
theorem aa5{i:Nat}{x:Str}{pos:Pos}(hN:X.N[i]? = some x)(hv:Vis X.env.scope x)(hd:(x == ("__debug__" : Str))=false:=by decide)(hcd:(x == ("__classdict__" : Str))=false:=by decide):PE X (.Name x pos) (wW i):=by
 intro pins s σ H Q I h
 obtain⟨v,e,h⟩:=h
 obtain⟨m,hn,hl⟩:=I.loc
 obtain⟨u,r,l⟩:=hl i x v hN e hv
 have fin:EP X pins σ Q u s:=⟨v,H,I,r,h⟩
 rcases l with ⟨hk,hm⟩|⟨hk,c,hc,hcell⟩
 ·exact wpAny_Name (wpAny_loadName_local I.ok.kind hk hn hm fin) hd
 ·rcases hk with hk|hk
  ·exact wpAny_Name (wpAny_loadName_cell I.ok.kind hk hc hcell fin) hd
  ·exact wpAny_Name (wpAny_loadName_free I.ok.kind hk hc hcell fin hcd) hd
theorem aJ{i j pos}:PE X (.Constant (.int i) j pos) (tC (.int i)):=fun _ _ _ H _ I h=>wpAny_Constant_int ⟨.int i,H,I.tok _,⟨_,rfl⟩,h⟩
theorem zL{b j pos}:PE X (.Constant (.bool b) j pos) (tC (.bl b)):=fun _ _ _ H _ I h=>Constant_bool ⟨.bl b,H,I,rfl,h⟩
theorem Vy{j pos}:PE X (.Constant .none j pos) (tC .non):=fun _ _ _ H _ I h=>Constant_none ⟨.non,H,I,rfl,h⟩
theorem nO{x j pos}:PE X (.Constant (.str x) j pos) (tC (.str x)):=fun _ _ _ H _ I h=>Calls.Constant_str ⟨.str x,H,I.tok _,⟨_,rfl⟩,h⟩
def Gl(X:Cx)(x:Str):Prop:=X.env.kindOf x=some .globalImplicit
theorem vd{E:Value→Shared→Prop}{pins:List (Addr×Obj)}{s:Shared}{σ : St}{H:Hp}{x:Str}{u:Value}{pos:Pos}{Q:Value→Shared→Prop}(I:Inv X pins σ H s)(hg:Gl X x)(hm:X.mg x=some u)(h:Q u s)
 (hd:(x == ("__debug__" : Str))=false:=by decide):wpAny (model X.prog X.w) X.A (eval (.Name x pos) X.env) Q E s :=
 Calls.Name_function_global I.ok.kind hg (Calls.loadGlobal_global (by rw[I.ok.glob];exact I.mod.glob.keeps I.bk) hm h) hd
theorem yN{E:Value→Shared→Prop}{pins:List (Addr×Obj)}{s:Shared}{σ : St}{H:Hp}{x:Str}{u:Value}{pos:Pos}{Q:Value→Shared→Prop}(I:Inv X pins σ H s)(hg:Gl X x)(hm:X.mg x=none)(hv:bootBuiltins x=some u)(h:Q u s)
 (hn:x ≠ "__name__" := by decide) (hd:(x == ("__debug__" : Str))=false:=by decide):wpAny (model X.prog X.w) X.A (eval (.Name x pos) X.env) Q E s:=by
 obtain⟨mb,h1,h2⟩:=I.mod.blt
 exact Calls.Name_function_global I.ok.kind hg (Calls.loadGlobal_builtin (by rw[I.ok.glob];exact I.mod.glob.keeps I.bk) hm (by rw[I.ok.blt];exact h1.keeps I.bk) ((h2 x hn).trans hv) h) hd
theorem gJ{x:Str}{v:V}{u:Value}{pos:Pos}(hg:Gl X x)(hm:X.mg x=some u)(r:RelV v u)(hd:(x == ("__debug__" : Str))=false:=by decide):PE X (.Name x pos) (tC v) :=
 fun _ _ _ H _ I h=>vd I hg hm ⟨v,H,I,r,h⟩ hd
theorem Yu{x:Str}{v:V}{u:Value}{pos:Pos}(hg:Gl X x)(hm:X.mg x=none)(hv:bootBuiltins x=some u)(r:RelV v u)(hn:x ≠ "__name__" := by decide)(hd:(x == ("__debug__" : Str))=false:=by decide):PE X (.Name x pos) (tC v) :=
 fun _ _ _ H _ I h=>yN I hg hm hv ⟨v,H,I,r,h⟩ hn hd
variable{a b:Expr}{ta tb:TE}{pos:Pos}
def PC(X:Cx)(op:CmpOp)(a b:Expr)(t:TE):Prop :=
 ∀ (pins:List (Addr×Obj)) (s:Shared) (σ : St) (H:Hp) (Q:VK),Inv X pins σ H s→t σ H Q →
  wpAny (model X.prog X.w) X.A (eval a X.env) (fun v s₁=>wpAny (model X.prog X.w) X.A (eval b X.env) (fun u s₂=>wpAny (model X.prog X.w) X.A (compareOp op v u) (EP X pins σ Q) X.xe s₂) X.xe s₁) X.xe s
def tB(t:TE):TT:=fun σ H Q=>t σ H fun x H1=>∃ c,x=.bl c∧Q c H1
theorem Vp{op:CmpOp}{t:TE}(h:PC X op a b t)(h1:behindInMarks op b=false:=by first|exact adb _ (by decide) (by decide)|rfl):PT X (.Compare a [op] [b] pos) (tB t):=by
 intro pins s σ H Q I hw
 refine wpAny_isTrue_Compare1 (gW (h pins s σ H _ I hw) fun v s1 h1=>gW h1 fun u s2 h2=>gW h2 fun c s3 ⟨x,H1,I1,r1,q1⟩=>?_) h1
 obtain⟨d,rfl,q⟩:=q1
 cases r1
 exact wpAny_truthy_bool ⟨H1,I1,q⟩
theorem iz{e:Expr}{t:TE}(h:PE X e t)(he:∀ whole,isTrue e X.env whole=(do let v ← whole;standAt e.pos;holding [v] (truthy v)):=by intro _;rfl):PT X e (tB t):=by
 intro pins s σ H Q I hw
 refine isTrue_plain (gW (h pins s σ H _ I hw) fun v s1 ⟨x,H1,I1,r1,q1⟩=>?_) (he _)
 obtain⟨d,rfl,q⟩:=q1
 cases r1
 exact wpAny_truthy_bool ⟨H1,I1,q⟩
variable{tA tB':TT}{rest:List Expr}
def acz(t u:TT):TT:=fun σ H Q=>t σ H fun c H1=>if c=true then u σ H1 Q else Q false H1
def tOr(t u:TT):TT:=fun σ H Q=>t σ H fun c H1=>if c=true then Q true H1 else u σ H1 Q
def aaK(t:TT):TT:=fun σ H Q=>t σ H fun c H1=>Q (!c) H1
theorem pw_and1(ha:PT X a tA):PW X (.BoolOp .And [a] pos) tA:=by
 intro wh pins s σ H Q I h
 refine isTrue_and (gW (ha pins s σ H Q I h) fun c s1 e=>?_)
 cases c with
 | true=>exact isTrue_and_nil e
 | false=>exact e
theorem pw_or1(ha:PT X a tA):PW X (.BoolOp .Or [a] pos) tA:=by
 intro wh pins s σ H Q I h
 refine isTrue_or (gW (ha pins s σ H Q I h) fun c s1 e=>?_)
 cases c with
 | false=>exact isTrue_or_nil e
 | true=>exact e
theorem pw_and(ha:PT X a tA)(hb:PW X (.BoolOp .And (b::rest) pos) tB'):PW X (.BoolOp .And (a::b::rest) pos) (acz tA tB'):=by
 intro wh pins s σ H Q I h
 refine isTrue_and (gW (ha pins s σ H _ I h) fun c s1 ⟨H1,I1,q1⟩=>?_)
 cases c with
 | true=>exact hb wh pins s1 σ H1 Q I1 q1
 | false=>exact⟨H1,I1,q1⟩
theorem pw_or(ha:PT X a tA)(hb:PW X (.BoolOp .Or (b::rest) pos) tB'):PW X (.BoolOp .Or (a::b::rest) pos) (tOr tA tB'):=by
 intro wh pins s σ H Q I h
 refine isTrue_or (gW (ha pins s σ H _ I h) fun c s1 ⟨H1,I1,q1⟩=>?_)
 cases c with
 | true=>exact⟨H1,I1,q1⟩
 | false=>exact hb wh pins s1 σ H1 Q I1 q1
theorem nM(ha:PT X a tA):PT X (.UnaryOp .Not a pos) (aaK tA):=by
 intro pins s σ H Q I h
 exact isTrue_not (ha pins s σ H (fun c H1=>Q (!c) H1) I h)
def ZZ(ta tb:TE):TE:=fun σ H Q=>ta σ H fun x H1=>∃ c,x=.bl c∧if c=true then tb σ H1 Q else Q (.bl false) H1
def acs(ta tb:TE):TE:=fun σ H Q=>ta σ H fun x H1=>∃ c,x=.bl c∧if c=true then Q (.bl true) H1 else tb σ H1 Q
theorem uE{op}{t:TE}(h:PE X a t):PE X (.BoolOp op [a] pos) t:=fun pins s σ H Q I hw=>BoolOp_one (h pins s σ H Q I hw)
theorem yF(ha:PE X a ta)(hb:PE X (.BoolOp .And (b::rest) pos) tb):PE X (.BoolOp .And (a::b::rest) pos) (ZZ ta tb):=by
 intro pins s σ H Q I h
 refine BoolOp_and (gW (ha pins s σ H _ I h) fun v s1 ⟨x,H1,I1,r1,q1⟩=>?_)
 obtain⟨c,rfl,q1⟩:=q1
 cases r1
 refine wpAny_truthy_bool ?_
 cases c with
 | true=>exact hb pins s1 σ H1 Q I1 q1
 | false=>exact⟨.bl false,H1,I1,rfl,q1⟩
theorem Z8(ha:PE X a ta)(hb:PE X (.BoolOp .Or (b::rest) pos) tb):PE X (.BoolOp .Or (a::b::rest) pos) (acs ta tb):=by
 intro pins s σ H Q I h
 refine BoolOp_or (gW (ha pins s σ H _ I h) fun v s1 ⟨x,H1,I1,r1,q1⟩=>?_)
 obtain⟨c,rfl,q1⟩:=q1
 cases r1
 refine wpAny_truthy_bool ?_
 cases c with
 | false=>exact hb pins s1 σ H1 Q I1 q1
 | true=>exact⟨.bl true,H1,I1,rfl,q1⟩
end
end L2
namespace L2
open PySem PySem.Spec PyProof.Rows
def Aw(K:W.Frag)(H:Hp)(a:Addr)(xs:List V):Prop :=
 Rd H a (.lst xs) ∨
  ∃ (o:Obj) (its:Array Value) (n:Nat),K.lookup a=some o∧o.cls=.type "list" ∧ o.dict=none∧o.data=.seq its n∧its.size≤sizeLine∧Vals xs its.toList
def Ab(K:W.Frag)(H:Hp)(a:Addr)(xs:List V):Prop :=
 Rd H a (.tup xs) ∨
  ∃ (o:Obj) (its:Array Value) (n:Nat),K.lookup a=some o∧o.cls=.type "tuple" ∧ o.data=.seq its n∧its.size≤sizeLine∧Vals xs its.toList
def aeU:Value→Option V
 | .none=>some .non
 | .bool b=>some (.bl b)
 | .int i _=>some (.int i)
 | .str x _=>some (.str x)
 | .bytes b _=>some (.byt b)
 | .float b _=>some (.flt b)
 | .ref a=>some (.ref a)
 | .type n=>some (.ty n)
 | _=>none
theorem RelV.abs{x:V}{u:Value}(r:RelV x u):aeU u=some x:=by
 cases x with
 | non=>cases r;rfl
 | bl _=>cases r;rfl
 | int _=>obtain⟨t,rfl⟩:=r;rfl
 | str _=>obtain⟨t,rfl⟩:=r;rfl
 | byt _=>obtain⟨t,rfl⟩:=r;rfl
 | flt _=>obtain⟨t,rfl⟩:=r;rfl
 | ref _=>cases r;rfl
 | ty _=>cases r;rfl
theorem RelV.inj{x y:V}{u:Value}(r:RelV x u)(q:RelV y u):x=y:=Option.some.inj (r.abs.symm.trans q.abs)
theorem Vals.inj:∀ {xs ys:List V} {us:List Value},Vals xs us→Vals ys us→xs=ys
 | _,_,_,.nil,.nil=>rfl
 | _,_,_,.cons r t,.cons r' t'=>by rw[r.inj r',Vals.inj t t']
section
variable{X:Cx}{pins:List (Addr×Obj)}{σ : St}{H:Hp}{s:Shared}{a:Addr}{xs ys:List V}
theorem Inv.list(I:Inv X pins σ H s)(h:Aw X.K H a xs):∃ its:List Value,Vals xs its∧PlainL s.heap a its.toArray∧xs.length≤sizeLine:=by
 rcases h with h|⟨o,its,n,hk,hc,hd,hs,hz,r⟩
 ·obtain⟨z,its,n,r,e⟩:=h.ok I.hok
  exact⟨its,r,⟨_,n,e,rfl,rfl,rfl⟩,z⟩
 ·refine⟨its.toList,r,⟨o,n,I.Bg a o hk,hc,hd,by simpa using hs⟩,?_⟩
  have e:=r.length
  simp only[Array.length_toList] at e
  omega
theorem Inv.tuple(I:Inv X pins σ H s)(h:Ab X.K H a xs):∃ its:List Value,Vals xs its∧IsTup s.heap a its.toArray∧xs.length≤sizeLine:=by
 rcases h with h|⟨o,its,n,hk,hc,hs,hz,r⟩
 ·obtain⟨z,its,r,p⟩:=h.ok I.hok
  exact⟨its,r,p.tup,z⟩
 ·refine⟨its.toList,r,⟨o,I.Bg a o hk,hc,n,by simpa using hs⟩,?_⟩
  have e:=r.length
  simp only[Array.length_toList] at e
  omega
theorem Inv.CW(I:Inv X pins σ H s)(h:Aw X.K H a xs)(h':Aw X.K H a ys):xs=ys:=by
 obtain⟨its,r,⟨o,n,e,_,_,d⟩,_⟩:=I.list h
 obtain⟨its',r',⟨o',n',e',_,_,d'⟩,_⟩:=I.list h'
 rw[e] at e';cases e'
 rw[d] at d'
 injection d' with d1 _
 have:its=its':=by simpa using congrArg Array.toList d1
 subst this
 exact r.inj r'
theorem Inv.yj(I:Inv X pins σ H s)(h:Ab X.K H a xs)(h':Ab X.K H a ys):xs=ys:=by
 obtain⟨its,r,⟨o,e,_,n,d⟩,_⟩:=I.tuple h
 obtain⟨its',r',⟨o',e',_,n',d'⟩,_⟩:=I.tuple h'
 rw[e] at e';cases e'
 rw[d] at d'
 injection d' with d1 _
 have:its=its':=by simpa using congrArg Array.toList d1
 subst this
 exact r.inj r'
end
abbrev Cx.wish(X:Cx)(E:Value→Shared→Prop):Cx:={ X with xe:=E }
abbrev Cx.nox(X:Cx):Cx:=X.wish fun _ _=>False
theorem Cx.Ok.wish{X:Cx}(ok:X.Ok)(E:Value→Shared→Prop):(X.wish E).Ok :=
 ⟨ok.mod,ok.kind,ok.glob,ok.blt,ok.above,ok.inj,ok.has,ok.cab,ok.hd,ok.frames,ok.stk,ok.exf,ok.bs,ok.bsz,ok.O5,ok.Tp,ok.uK,ok.frf⟩
theorem Cx.Ok.ue{X:Cx}{E:Value→Shared→Prop}(ok:(X.wish E).Ok):X.Ok :=
 ⟨ok.mod,ok.kind,ok.glob,ok.blt,ok.above,ok.inj,ok.has,ok.cab,ok.hd,ok.frames,ok.stk,ok.exf,ok.bs,ok.bsz,ok.O5,ok.Tp,ok.uK,ok.frf⟩
section
variable{X:Cx}{pins:List (Addr×Obj)}{σ : St}{H:Hp}{s:Shared}{E:Value→Shared→Prop}
theorem Inv.wish(I:Inv X pins σ H s)(E:Value→Shared→Prop):Inv (X.wish E) pins σ H s:=⟨I.ok.wish E,I.os,I.bare,I.base,I.loc,I.cell,I.free,I.nZ,I.pin,I.hok,I.len⟩
theorem Inv.ue(I:Inv (X.wish E) pins σ H s):Inv X pins σ H s:=⟨I.ok.ue,I.os,I.bare,I.base,I.loc,I.cell,I.free,I.nZ,I.pin,I.hok,I.len⟩
theorem SP.ue{D:Ends}{f:Flow}{s':Shared}(h:SP (X.wish E) pins D f s'):SP X pins D f s':=by
 cases f with
 | next=>obtain⟨σ',H',I,q⟩:=h;exact⟨σ',H',I.ue,q⟩
 | brk=>obtain⟨σ',H',I,q⟩:=h;exact⟨σ',H',I.ue,q⟩
 | cont=>obtain⟨σ',H',I,q⟩:=h;exact⟨σ',H',I.ue,q⟩
 | ret u=>obtain⟨v,σ',H',I,r,q⟩:=h;exact⟨v,σ',H',I.ue,r,q⟩
theorem J5.nox{st:List Stmt}{t:TS}(h:J5 X.nox st t):J5 X st t:=fun pins s σ H D I hw =>
 wpAny_mono (h pins s σ H D (I.wish _) hw) (fun _ _ q=>q.ue) fun _ _ z=>False.elim z
end
section
variable{X:Cx}{st:Stmt}{rest:List Stmt}{t u:TS}{e:Expr}{te:TE}{pos:Pos}
def ZW:TS:=fun D σ H=>D.nx σ H
def aaJ(t u:TS):TS:=fun D σ H=>t { D with nx:=u D } σ H
theorem bJ:J5 X [] ZW:=fun _ _ σ H _ I h=>wpAny_execs_nil ⟨σ,H,I,h⟩
theorem aA(h1:PS X st t)(h2:J5 X rest u):J5 X (st::rest) (aaJ t u):=by
 intro pins s σ H D I h
 refine wpAny_execs_cons (gW (h1 pins s σ H { D with nx:=u D } I h) fun f s1 q=>?_)
 cases f with
 | next =>
  obtain⟨σ',H',I',q⟩:=q
  exact h2 pins s1 σ' H' D I' q
 | ret v=>exact q
 | brk=>exact q
 | cont=>exact q
theorem aK(h1:PS X st t):J5 X [st] t:=by
 intro pins s σ H D I h
 refine wpAny_execs_cons (gW (h1 pins s σ H D I h) fun f s1 q=>?_)
 cases f with
 | next=>exact wpAny_execs_nil q
 | ret v=>exact q
 | brk=>exact q
 | cont=>exact q
theorem Inv.quiet{pins:List (Addr×Obj)}{σ : St}{H:Hp}{s:Shared}(I:Inv X pins σ H s):interactive X.env=false:=by simp[interactive,I.ok.kind]
def Fy(te:TE):TS:=fun D σ H=>te σ H fun _ H1=>D.nx σ H1
theorem dj(he:PE X e te)(hs:swapsWith e none pos.line X.env=pure false:=by rfl):PS X (.Expr e pos) (Fy te):=by
 intro pins s σ H D I h
 exact wpAny_Expr_any (gW (he pins s σ H _ I h) fun v s1 ⟨x,H1,I1,r1,q1⟩=>⟨σ,H1,I1,q1⟩) I.quiet hs
def Og(te:TE):TS:=fun D σ H=>te σ H D.rt
theorem bM(he:PE X e te):PS X (.Return (some e) pos) (Og te):=by
 intro pins s σ H D I h
 exact wpAny_Return_some (gW (he pins s σ H _ I h) fun v s1 ⟨x,H1,I1,r1,q1⟩=>⟨x,σ,H1,I1,r1,q1⟩)
def Yb(c:TT)(t u:TS):TS:=fun D σ H=>c σ H fun b H1=>if b=true then t D σ H1 else u D σ H1
theorem dh{c:Expr}{a b:List Stmt}{tc:TT}(hc:PT X c tc)(ha:J5 X a t)(hb:J5 X b u):PS X (.If c a b pos) (Yb tc t u):=by
 intro pins s σ H D I h
 refine wpAny_If (gW (hc pins s σ H _ I h) fun d s1 ⟨H1,I1,q1⟩=>?_)
 cases d with
 | true=>exact ha pins s1 σ H1 D I1 q1
 | false=>exact hb pins s1 σ H1 D I1 q1
def UW:TS:=fun _ _ _=>False
theorem gf:PS X st UW:=fun _ _ _ _ _ _ h=>h.elim
end
abbrev TG:=V→St→Hp→(St→Hp→Prop)→Prop
abbrev RJ:=List V→St→Hp→(St→Hp→Prop)→Prop
def PG(X:Cx)(target:Expr)(t:TG):Prop :=
 ∀ (pins:List (Addr×Obj)) (s:Shared) (σ : St) (H:Hp) (v:V) (u:Value) (Q:St→Hp→Prop),Inv X pins σ H s→RelV v u→t v σ H Q →
  wpAny (model X.prog X.w) X.A (assign target X.env u) (fun _ s'=>∃ σ' H',Inv X pins σ' H' s'∧Q σ' H') X.xe s
def PGs(X:Cx)(ts:List Expr)(t:RJ):Prop :=
 ∀ (pins:List (Addr×Obj)) (s:Shared) (σ : St) (H:Hp) (vs:List V) (us:List Value) (Q:St→Hp→Prop),Inv X pins σ H s→Vals vs us→t vs σ H Q →
  wpAny (model X.prog X.w) X.A (assignInOrder ((assignEach ts X.env).map (·.2)) us) (fun _ s'=>∃ σ' H',Inv X pins σ' H' s'∧Q σ' H') X.xe s
section
variable{X:Cx}{pos:Pos}
def tO(i:Nat):TG:=fun v σ H Q=>Q (σ.set i (some v)) H
theorem aV{i:Nat}{x:Str}(hN:X.N.Nodup)(hi:X.N[i]? = some x)(hx:Loc X.env.scope x)(hf:X.fn x=true∨X.env.scope.names.lookup x=some .local:=by first|exact .inl rfl|exact .inr rfl|assumption):PG X (.Name x pos) (tO i):=by
 intro pins s σ H v u Q I r h
 exact wpAny_assign_Name (wZ I hN hi hx r (fun s' I'=>⟨_,H,I',h⟩) hf)
def Wt:RJ:=fun vs σ H Q=>vs=[]∧Q σ H
def Mg(t:TG)(u:RJ):RJ:=fun vs σ H Q=>∃ v r,vs=v::r∧t v σ H fun σ' H'=>u r σ' H' Q
theorem jo:PGs X [] Wt:=by
 intro pins s σ H vs us Q I r h
 obtain⟨e,h⟩:=h
 subst e
 cases r
 exact assignInOrder_nil ⟨σ,H,I,h⟩
theorem bV{e:Expr}{es:List Expr}{t:TG}{u:RJ}(h1:PG X e t)(h2:PGs X es u)
 (hs:(assignEach (e::es) X.env).map (·.2)=assign e X.env::(assignEach es X.env).map (·.2):=by rfl):PGs X (e::es) (Mg t u):=by
 intro pins s σ H vs us Q I r h
 obtain⟨v,vr,e1,h⟩:=h
 subst e1
 cases r with
 | cons r rr =>
  rw[hs]
  refine assignInOrder_cons (gW (h1 pins s σ H _ _ _ I r h) fun _ s1 ⟨σ1,H1,I1,q1⟩=>?_)
  exact h2 pins s1 σ1 H1 _ _ Q I1 rr q1
def abL(K:W.Frag)(n:Nat)(t:RJ):TG:=fun v σ H Q=>∃ a xs,v=.ref a∧Ab K H a xs∧xs.length=n∧t xs σ H Q
theorem lY{es:List Expr}{k:Nat}{t:RJ}{n:Nat}(hc:X.calm=true)(h:PGs X es t)
 (hn:(assignEach es X.env).length=n:=by rfl) (hst:(assignEach es X.env).findIdx? (·.1)=none:=by rfl):PG X (.Tuple es k pos) (abL X.K n t):=by
 intro pins s σ H v u Q I r hw
 obtain⟨a,xs,e1,hq,hl,hw⟩:=hw
 subst e1
 cases r
 obtain⟨its,rv,ht,hz⟩:=I.tuple hq
 refine assign_Tuple_tuple (I.ok.hd hc) ht (by simp[hn,← hl,rv.length]) hst fun h' hx=>?_
 have I1:Inv X pins σ H { s with heap:=h' }:=I.kept (t':=s.toks) fun b o e=>hx b o (Nat.ne_of_lt (Heap.lt_size e)) e
 exact h pins _ σ H xs _ Q I1 (by simpa using rv) hw
def Kl(te:TE)(g:TG):TS:=fun D σ H=>te σ H fun x H1=>g x σ H1 D.nx
theorem Ot{tg e:Expr}{te:TE}{g:TG}(he:PE X e te)(hg:PG X tg g)(hs:swapsWithSole [tg] e pos.line X.env=pure false:=by rfl)(hw:swappedStores [tg] e X.env=pure none:=by rfl)
 (h1:(assignEach [tg] X.env).map (·.2)=[assign tg X.env]:=by rfl):PS X (.Assign [tg] e pos) (Kl te g):=by
 intro pins s σ H D I h
 refine wpAny_Assign_stores (gW (he pins s σ H _ I h) fun v s1 ⟨x,H1,I1,r1,q1⟩=>?_) hs hw
 rw[h1]
 exact gW (hg pins s1 σ H1 x v _ I1 r1 q1) fun _ s2 q=>q
theorem bw{i:Nat}{x:Str}{e:Expr}{te:TE}{pos':Pos}(hN:X.N.Nodup)(hi:X.N[i]? = some x)(hx:Loc X.env.scope x)(he:PE X e te)(hs:swapsWith e (some (.Name x pos')) pos.line X.env=pure false:=by rfl)(hf:X.fn x=true∨X.env.scope.names.lookup x=some .local:=by first|exact .inl rfl|exact .inr rfl|assumption) :
 PS X (.Assign [.Name x pos'] e pos) (Kl te (tO i)):=by
 intro pins s σ H D I h
 refine wpAny_Assign_Name (gW (he pins s σ H _ I h) fun v s1 ⟨y,H1,I1,r1,q1⟩=>?_) hs
 exact wZ I1 hN hi hx r1 (fun s2 I2=>⟨_,H1,I2,q1⟩) hf
end
section
variable{X:Cx}{pos:Pos}
def UG(c:TT)(tb:TS):TS:=fun D σ H=>∃ W:Nat→St→Hp→Prop,(∃ m,W m σ H)∧∀ m σ H,W m σ H →
 c σ H fun b H1=>if b=true then ∃ N:St→Hp→Prop,(∀ σ' H',N σ' H'→∃ m',m' < m∧W m' σ' H')∧tb { D with nx:=N,ct:=N,bk:=D.nx } σ H1 else D.nx σ H1
theorem KR{c:Expr}{body:List Stmt}{tc:TT}{tb:TS}(hp:PassesOwn (model X.prog X.w) X.A X.env X.xe)(hc:PT X c tc)(hb:J5 X body tb):PS X (.While c body [] pos) (UG tc tb):=by
 intro pins s σ H D I h
 obtain⟨W,⟨m0,w0⟩,turn⟩:=h
 refine wpAny_While (codeAny_whileLoop (fun n s'=>∃ σ' H',Inv X pins σ' H' s'∧W n σ' H') ?_ m0 ⟨σ,H,I,w0⟩)
 rintro n s1 ⟨σ1,H1,I1,w1⟩
 refine wpAny_passesOwn hp (gW (hc pins s1 σ1 H1 _ I1 (turn n σ1 H1 w1)) fun b s2 ⟨H2,I2,q2⟩=>?_)
 cases b with
 | true =>
  obtain⟨N,hN,q2⟩:=q2
  rw[if_pos rfl]
  refine wpAny_passesOwn hp (gW (hb pins s2 σ1 H2 _ I2 q2) fun f s3 q3=>?_)
  cases f with
  | next =>
   obtain⟨σ3,H3,I3,n3⟩:=q3
   obtain⟨m',hm,w3⟩:=hN σ3 H3 n3
   exact⟨m',hm,σ3,H3,I3,w3⟩
  | cont =>
   obtain⟨σ3,H3,I3,n3⟩:=q3
   obtain⟨m',hm,w3⟩:=hN σ3 H3 n3
   exact⟨m',hm,σ3,H3,I3,w3⟩
  | brk=>exact q3
  | ret v=>exact q3
 | false =>
  rw[if_neg Bool.false_ne_true]
  exact wpAny_execs_nil ⟨σ1,H2,I2,q2⟩
end
structure It where
 go:Nat→Hp→Prop
 yld:Nat→Hp→V→Hp→Prop
 stop:Nat→Hp→Prop
def rJ(X:Cx)(pins:List (Addr×Obj))(H:Hp)(b:Addr):Prop :=
 H b=none∧b≠X.env.locals∧b∉X.fs∧(b∈X.ex∨X.s₀.heap.objs.size≤b)∧(∀ x c,X.env.cells.lookup x=some c→c≠b)∧∀ p∈X.pn++pins,p.1≠b
theorem Inv.xT{X:Cx}{pins:List (Addr×Obj)}{σ : St}{H H':Hp}{s:Shared}{b:Addr}(I:Inv X pins σ H s)(hb:s.heap.objs.size≤b)(hn:H' b=none):rJ X pins H' b:=by
 refine⟨hn,Nat.ne_of_gt (Nat.lt_of_lt_of_le I.lt hb),I.aes hb,.inr (Nat.le_trans I.sz hb),fun x c e z=>?_,fun p hp z=>?_⟩
 ·obtain⟨v,q⟩:=I.cell x c e
  exact absurd (Nat.lt_of_lt_of_le q.lt (by rw[z];exact hb)) (Nat.lt_irrefl _)
 ·exact absurd (Nat.lt_of_lt_of_le (Heap.lt_size (I.pin p hp).1) (by rw[z];exact hb)) (Nat.lt_irrefl _)
structure Turn(P:Program)(w:World)(K:W.Frag)(tg:Expr)(J:It)(fp:List Addr)(it:Addr)(tn:Nat→Heap→Prop):Prop where
 mem:it∈fp
 obj:∀ i h,tn i h→∀ b∈fp,∃ o,h.get? b=some o∧∀ v,o.data≠.cell v
 keep:∀ i h h',tn i h→(∀ b∈fp,∀ o,h.get? b=some o→h'.get? b=some o)→tn i h'
 item:∀ (X:Cx),X.prog=P→X.w=w→X.K=K→X.calm=true→∀ (i:Nat) (pins:List (Addr×Obj)) (s:Shared) (σ : St) (H:Hp) (E:Value→Shared→Prop),Inv X pins σ H s→(∀ b∈fp,rJ X pins H b)→tn i s.heap→J.go i H →
  wpAny (model P w) X.A (pyNext (.ref it)) (fun r s1=>∃ u,r=some u ∧
   wpAny (model P w) X.A (letOwnedTupleGo tg (.ref it) u) (fun _ s2=>∃ x H',Inv X pins σ H' s2∧RelV x u∧J.yld i H x H'∧tn (i+1) s2.heap∧∀ b∈fp,H' b=none) E s1) E s
 done:∀ (X:Cx),X.prog=P→X.w=w→X.K=K→X.calm=true→∀ (i:Nat) (pins:List (Addr×Obj)) (s:Shared) (σ : St) (H:Hp) (E:Value→Shared→Prop),Inv X pins σ H s→(∀ b∈fp,rJ X pins H b)→tn i s.heap→J.stop i H →
  wpAny (model P w) X.A (pyNext (.ref it)) (fun r s1=>r=none∧Inv X pins σ H s1) E s
 self:∀ (A:Around) (i:Nat) (s:Shared) (Q:Value→Shared→Prop) (E:Value→Shared→Prop),tn i s.heap→Q (.ref it) s→wpAny (model P w) A (pyIter (.ref it)) Q E s
abbrev TI:=St→Hp→(It→Hp→Prop)→Prop
def PIE(X:Cx)(pins:List (Addr×Obj))(σ : St)(tg:Expr)(R:It→Hp→Prop)(itv:Value)(s2:Shared):Prop :=
 ∃ (it:Addr) (fp:List Addr) (tn:Nat→Heap→Prop) (J:It) (H':Hp),itv=.ref it∧Inv X pins σ H' s2∧Turn X.prog X.w X.K tg J fp it tn∧tn 0 s2.heap∧(∀ b∈fp,rJ X pins H' b)∧R J H'
def PI(X:Cx)(tg iter:Expr)(wi:TI):Prop :=
 ∀ (pins:List (Addr×Obj)) (s:Shared) (σ : St) (H:Hp) (R:It→Hp→Prop),Inv X pins σ H s→wi σ H R →
  wpAny (model X.prog X.w) X.A (eval iter X.env) (fun v s1=>wpAny (model X.prog X.w) X.A (pyIter v) (PIE X pins σ tg R) X.xe s1) X.xe s
theorem Rf{M:Model}{A:Around}{E:Value→Shared→Prop}{s:Shared}{tg:Expr}{it:Addr}{u:Value}{o:Obj}{n:String}{vs:Array Value}{Q:Unit→Shared→Prop}(ho:s.heap.get? it=some o)(hc:o.cls=.type n)(hd:o.data=.fields vs)
 (hn:["enumerate", "zip", "dict_itemiterator", "dict_reverseitemiterator", "odict_iterator", "itertools.zip_longest", "itertools.pairwise"].contains n=false) (hQ:Q () s):wpAny M A (letOwnedTupleGo tg (.ref it) u) Q E s:=by
 unfold letOwnedTupleGo
 cases tg<;>first
  | exact wpAny_pure hQ
  | (cases u<;>first
   | exact wpAny_pure hQ
   | (refine wpAny_bind (wpAny_load ho ?_)
      rw[hc,hd]
      show wpAny M A (if (["enumerate", "zip", "dict_itemiterator", "dict_reverseitemiterator", "odict_iterator", "itertools.zip_longest", "itertools.pairwise"].contains n && vs[0]? == some (rawInt _))=true then _ else _) Q E s
      rw[if_neg (by intro h;rw[hn,Bool.false_and] at h;cases h)]
      exact wpAny_pure hQ))
def Itl(K:W.Frag)(a:Addr):It :=
 ⟨fun i H=>∃ xs x,Aw K H a xs∧xs[i]? = some x,fun i H x H'=>H'=H∧∀ xs,Aw K H a xs→xs[i]? = some x,fun i H=>∃ xs,Aw K H a xs∧xs.length≤i⟩
def Itt(K:W.Frag)(a:Addr):It :=
 ⟨fun i H=>∃ xs x,Ab K H a xs∧xs[i]? = some x,fun i H x H'=>H'=H∧∀ xs,Ab K H a xs→xs[i]? = some x,fun i H=>∃ xs,Ab K H a xs∧xs.length≤i⟩
def Itr(lo:Int)(n:Nat):It:=⟨fun i _=>i < n,fun i H x H'=>H'=H∧x=.int (lo+i),fun i _=>n≤i⟩
theorem RN{P:Program}{w:World}{K:W.Frag}{tg:Expr}(a it:Addr):Turn P w K tg (Itl K a) [it] it (fun i h=>h.IsListIter it a i) where
 mem:=by simp
 obj:=fun i h st b hb=>by
  have e:b=it:=by simpa using hb
  subst e
  obtain⟨o,e,c,d⟩:=st
  exact⟨o,e,fun v z=>by rw[d] at z;cases z⟩
 keep:=fun i h h' st k=>st.at fun o e=>k it (by simp) o e
 item:=by
  intro X hP hw hK hc i pins s σ H E I hf st hg
  subst hP hw hK
  obtain⟨xs,x,hq,hx⟩:=hg
  obtain⟨its,rv,p,hz⟩:=I.list hq
  obtain⟨u,hu,ru⟩:=rv.get hx
  obtain⟨f0,f1,f2,f3,f4,f5⟩:=hf it (by simp)
  refine wpAny_pyNext_list_item st p.isList (x:=u) (by simpa using hu) fun h' st' sb=>?_
  have I1:Inv X pins σ H { s with heap:=h' }:=I.turned (t':=s.toks) (fun b o hb e=>(sb.2 b hb).trans e) f0 f1 f3 f4 f5
  obtain⟨o,e,c,d⟩:=id st'
  exact⟨u,rfl,Rf (s:={ s with heap:=h' }) e c d (by decide) ⟨x,H,I1,ru,⟨rfl,fun ys hy=>by rw[I.CW hy hq];exact hx⟩,st',fun b hb=>(hf b hb).1⟩⟩
 done:=by
  intro X hP hw hK hc i pins s σ H E I hf st hg
  subst hP hw hK
  obtain⟨xs,hq,hx⟩:=hg
  obtain⟨its,rv,p,hz⟩:=I.list hq
  obtain⟨f0,f1,f2,f3,f4,f5⟩:=hf it (by simp)
  have hl:=rv.length
  exact wpAny_pyNext_list_end (I.ok.hd hc) st p.isList (by simp;omega) fun h' eb=>⟨rfl,I.turned (t':=s.toks) (fun b o hb e=>eb b o hb e) f0 f1 f3 f4 f5⟩
 self:=fun _ _ _ _ _ st h=>wpAny_pyIter_listiter st h
theorem Ob{P:Program}{w:World}{K:W.Frag}{tg:Expr}(a it:Addr):Turn P w K tg (Itt K a) [it] it (fun i h=>h.IsTupleIter it a i) where
 mem:=by simp
 obj:=fun i h st b hb=>by
  have e:b=it:=by simpa using hb
  subst e
  obtain⟨o,e,c,d⟩:=st
  exact⟨o,e,fun v z=>by rw[d] at z;cases z⟩
 keep:=fun i h h' st k=>st.at fun o e=>k it (by simp) o e
 item:=by
  intro X hP hw hK hc i pins s σ H E I hf st hg
  subst hP hw hK
  obtain⟨xs,x,hq,hx⟩:=hg
  obtain⟨its,rv,p,hz⟩:=I.tuple hq
  obtain⟨u,hu,ru⟩:=rv.get hx
  obtain⟨f0,f1,f2,f3,f4,f5⟩:=hf it (by simp)
  refine wpAny_pyNext_tuple_item st (show s.heap.IsTuple a its.toArray from p) (x:=u) (by simpa using hu) fun h' st' sb=>?_
  have I1:Inv X pins σ H { s with heap:=h' }:=I.turned (t':=s.toks) (fun b o hb e=>(sb.2 b hb).trans e) f0 f1 f3 f4 f5
  obtain⟨o,e,c,d⟩:=id st'
  exact⟨u,rfl,Rf (s:={ s with heap:=h' }) e c d (by decide) ⟨x,H,I1,ru,⟨rfl,fun ys hy=>by rw[I.yj hy hq];exact hx⟩,st',fun b hb=>(hf b hb).1⟩⟩
 done:=by
  intro X hP hw hK hc i pins s σ H E I hf st hg
  subst hP hw hK
  obtain⟨xs,hq,hx⟩:=hg
  obtain⟨its,rv,p,hz⟩:=I.tuple hq
  obtain⟨f0,f1,f2,f3,f4,f5⟩:=hf it (by simp)
  have hl:=rv.length
  exact wpAny_pyNext_tuple_end (I.ok.hd hc) st (show s.heap.IsTuple a its.toArray from p) (by simp;omega) fun h' eb=>⟨rfl,I.turned (t':=s.toks) (fun b o hb e=>eb b o hb e) f0 f1 f3 f4 f5⟩
 self:=fun _ _ _ _ _ st h=>wpAny_pyIter_tupleiter st h
theorem Oc{P:Program}{w:World}{K:W.Frag}{tg:Expr}(it:Addr)(lo:Int)(n:Nat):Turn P w K tg (Itr lo n) [it] it (fun i h=>IsRangeIter h it (lo+(i:Nat) * 1) ((n:Int) - (i:Nat)) 1) where
 mem:=by simp
 obj:=fun i h st b hb=>by
  have e:b=it:=by simpa using hb
  subst e
  exact⟨_,st,fun v z=>by
   have z':Data.fields _=Data.cell v:=z
   cases z'⟩
 keep:=fun i h h' st k=>k it (by simp) _ st
 item:=by
  intro X hP hw hK hc i pins s σ H E I hf st hg
  subst hP hw hK
  obtain⟨f0,f1,f2,f3,f4,f5⟩:=hf it (by simp)
  have W:=Walks.range (prog:=X.prog) (w:=X.w) (I.ok.hd hc) it lo 1 n
  refine W.item i s _ _ hg st fun v h' tk hv st' kk=>?_
  obtain⟨t,rfl⟩:=hv
  have I1:Inv X pins σ H { s with heap:=h',toks:=tk }:=I.turned (fun b o hb e=>kk b o (by simpa using hb) e) f0 f1 f3 f4 f5
  refine⟨_,rfl,Rf (s:={ s with heap:=h',toks:=tk }) (n := "range_iterator") st' rfl rfl (by decide) ⟨.int (lo+i),H,I1,⟨t,?_⟩,⟨rfl,rfl⟩,st',fun b hb=>(hf b hb).1⟩⟩
  rw[Int.mul_one]
 done:=by
  intro X hP hw hK hc i pins s σ H E I hf st hg
  subst hP hw hK
  obtain⟨f0,f1,f2,f3,f4,f5⟩:=hf it (by simp)
  exact wpAny_pyNext_range_end (I.ok.hd hc) st (by have:n≤i:=hg;omega) fun h' eb=>⟨rfl,I.turned (t':=s.toks) (fun b o hb e=>eb b o hb e) f0 f1 f3 f4 f5⟩
 self:=fun _ _ _ _ _ st h=>wpAny_pyIter_rangeiter st h
end L2
namespace L2
open PySem PySem.Spec PyProof.Rows
section
variable{X:Cx}{tg:Expr}
def aag(K:W.Frag)(tl:TE):TI:=fun σ H R=>tl σ H fun x H1=>∃ a,x=.ref a∧(∃ xs,Aw K H1 a xs)∧R (Itl K a) H1
def adn(K:W.Frag)(tl:TE):TI:=fun σ H R=>tl σ H fun x H1=>∃ a,x=.ref a∧(∃ xs,Ab K H1 a xs)∧R (Itt K a) H1
theorem Yr{l:Expr}{tl:TE}(hl:PE X l tl):PI X tg l (aag X.K tl):=by
 intro pins s σ H R I h
 refine gW (hl pins s σ H _ I h) fun v s1 ⟨x,H1,I1,r1,q1⟩=>?_
 obtain⟨a,e,⟨xs,hq⟩,q⟩:=q1
 subst e
 cases r1
 obtain⟨its,rv,p,hz⟩:=I1.list hq
 refine wpAny_pyIter_list p.isList ?_
 refine⟨s1.heap.objs.size,[s1.heap.objs.size],_,_,H1,rfl,I1.kept (t':=s1.toks) fun b o e=>Heap.get?_push_of_some _ e,RN a _,⟨_,Heap.get?_push_size _ rfl,rfl,rfl⟩,fun b hb=>?_,q⟩
 have e:b=s1.heap.objs.size:=by simpa using hb
 subst e
 exact I1.xT (Nat.le_refl _) (I1.hok.fresh (Nat.le_refl _))
theorem aa2{l:Expr}{tl:TE}(hl:PE X l tl):PI X tg l (adn X.K tl):=by
 intro pins s σ H R I h
 refine gW (hl pins s σ H _ I h) fun v s1 ⟨x,H1,I1,r1,q1⟩=>?_
 obtain⟨a,e,⟨xs,hq⟩,q⟩:=q1
 subst e
 cases r1
 obtain⟨its,rv,p,hz⟩:=I1.tuple hq
 refine wpAny_pyIter_tuple (show s1.heap.IsTuple a its.toArray from p) ?_
 refine⟨s1.heap.objs.size,[s1.heap.objs.size],_,_,H1,rfl,I1.kept (t':=s1.toks) fun b o e=>Heap.get?_push_of_some _ e,Ob a _,⟨_,Heap.get?_push_size _ rfl,rfl,rfl⟩,fun b hb=>?_,q⟩
 have e:b=s1.heap.objs.size:=by simpa using hb
 subst e
 exact I1.xT (Nat.le_refl _) (I1.hok.fresh (Nat.le_refl _))
theorem Vj{pins:List (Addr×Obj)}{σ : St}{H:Hp}{s:Shared}{R:It→Hp→Prop}{E:Value→Shared→Prop}{lo hi:Int}{t u v:Tok}{tk:Nat}(I:Inv X pins σ H s)(h1:-(2 ^ 62)≤lo)(h2:lo < 2 ^ 62)(h3:-(2 ^ 62)≤hi)(h4:hi < 2 ^ 62)
 (q:R (Itr lo (hi - lo).toNat) H):wpAny (model X.prog X.w) X.A (pyIter (.ref s.heap.objs.size)) (PIE X pins σ tg R) E { s with heap:=s.heap.push { cls:=.type "range", data:=.fields #[.int lo t,.int hi u,.int 1 v] },toks:=tk }:=by
 refine wpAny_pyIter_range (IsRange.new ..) (small_one h1 h2 h3 h4) ?_
 have I1:Inv X pins σ H { s with heap:=s.heap.push { cls:=.type "range", data:=.fields #[.int lo t,.int hi u,.int 1 v] },toks:=tk }:=I.kept fun b o e=>Heap.get?_push_of_some _ e
 refine⟨(s.heap.push { cls:=.type "range", data:=.fields #[.int lo t,.int hi u,.int 1 v] }).objs.size,[(s.heap.push { cls:=.type "range", data:=.fields #[.int lo t,.int hi u,.int 1 v] }).objs.size],_,_,H,rfl,
  I1.kept (t':=tk) fun b o e=>Heap.get?_push_of_some _ e,Oc _ lo (hi - lo).toNat,?_,fun b hb=>?_,q⟩
 ·have e1:lo+((0:Nat):Int) * 1=lo:=by simp
  have e2:(((hi - lo).toNat:Nat):Int) - ((0:Nat):Int)=Builtin.Range.rangeSize lo hi 1:=by rw[rangeSize_one];split<;>omega
  show IsRangeIter _ _ (lo+((0:Nat):Int) * 1) ((((hi - lo).toNat:Nat):Int) - ((0:Nat):Int)) 1
  rw[e1,e2]
  exact Heap.get?_push_size _ rfl
 ·have e:b=(s.heap.push { cls:=.type "range", data:=.fields #[.int lo t,.int hi u,.int 1 v] }).objs.size:=by simpa using hb
  subst e
  exact I1.xT (Nat.le_refl _) (I1.hok.fresh (Nat.le_refl _))
def aaf(ta:TA):TI:=fun σ H R=>ta σ H fun vs H1=>∃ j:Int,vs=[.int j]∧-(2 ^ 62)≤j∧j < 2 ^ 62∧R (Itr 0 j.toNat) H1
theorem fW{a:Expr}{ta:TA}{p pos:Pos}(hg:Gl X "range")(hm:X.mg "range" = none)(ha:PA X [a] ta)(hs:starEach [a] X.env=[(false,eval a X.env)]:=by rfl):PI X tg (.Call (.Name "range" p) [a] [] pos) (aaf ta):=by
 intro pins s σ H R I h
 refine Call_ (yN I hg hm boot_range (PyProof.Rows.callWith_type1 (gW (ha pos pins s σ H _ I h) fun us s1 ⟨vs,H1,I1,r1,q1⟩=>?_) hs rfl))
 obtain⟨j,e,q1,q2,q⟩:=q1
 subst e
 cases r1 with
 | cons r rr =>
  cases rr
  obtain⟨t,rfl⟩:=r
  exact call_range_1 (Vj I1 (by omega) (by omega) q1 q2 (by simpa using q))
def acv(wi:TI)(g:TG)(tb:TS):TS:=fun D σ H=>wi σ H fun J H1=>∃ W:Nat→Nat→St→Hp→Prop,(∃ m,W 0 m σ H1)∧∀ i m σ H,W i m σ H →
 (J.stop i H∧D.nx σ H)∨(J.go i H∧∃ N:St→Hp→Prop,(∀ σ' H',N σ' H'→∃ m',m' < m∧W (i+1) m' σ' H')∧∀ x H',J.yld i H x H'→g x σ H' fun σ2 H2=>tb { D with nx:=N,ct:=N,bk:=D.nx } σ2 H2)
def HX(fp:List Addr)(h:Heap):List (Addr×Obj):=fp.filterMap fun b=>(h.get? b).map fun o=>(b,o)
theorem mq{fp:List Addr}{h:Heap}{b:Addr}{o:Obj}(hb:b∈fp)(e:h.get? b=some o):(b,o)∈HX fp h:=List.mem_filterMap.mpr ⟨b,hb,by rw[e];rfl⟩
theorem SM{fp:List Addr}{h:Heap}{p:Addr×Obj}(hp:p∈HX fp h):p.1∈fp∧h.get? p.1=some p.2:=by
 obtain⟨b,hb,e⟩:=List.mem_filterMap.mp hp
 cases q:h.get? b with
 | none=>rw[q] at e;cases e
 | some o =>
  rw[q] at e
  have e':(b,o)=p:=Option.some.inj e
  subst e'
  exact⟨hb,q⟩
theorem Inv.pinned{pins:List (Addr×Obj)}{σ : St}{H:Hp}{s:Shared}{fp:List Addr}(I:Inv X pins σ H s)(hf:∀ b∈fp,rJ X pins H b)(ho:∀ b∈fp,∃ o,s.heap.get? b=some o∧∀ v,o.data≠.cell v):Inv X (pins++HX fp s.heap) σ H s :=
 I.HW fun p hp=>(List.mem_append.mp hp).elim (fun z=>I.pin p (List.mem_append_right _ z)) fun z=>by
  obtain⟨hb,e⟩:=SM z
  obtain⟨f0,f1,f2,_⟩:=hf p.1 hb
  obtain⟨o,e',d⟩:=ho p.1 hb
  rw[e] at e';cases e'
  exact⟨e,f0,f1,f2,d⟩
theorem Inv.qI{pins pl:List (Addr×Obj)}{σ : St}{H:Hp}{s:Shared}(I:Inv X (pins++pl) σ H s):Inv X pins σ H s:=I.HW fun p hp=>I.pin p (List.mem_append_right _ (List.mem_append_left _ hp))
theorem gA{iter:Expr}{body:List Stmt}{wi:TI}{g:TG}{tb:TS}{pos:Pos}(hp:PassesOwn (model X.prog X.w) X.A X.env X.xe)(hc:X.calm=true)(hi:PI X tg iter wi)(hg:PG X tg g)(hb:J5 X body tb)
 (hs:∀ x,foldedSetIterable iter X.env x=pure x:=by intro _;rfl):PS X (.For tg iter body [] pos) (acv wi g tb):=by
 intro pins s σ H D I h
 refine wpAny_For (gW (hi pins s σ H _ I h) fun v s1 h1=>gW h1 fun itv s2 h2=>?_) hs
 obtain⟨it,fp,tn,J,H2,e,I2,T,st2,f2,W,⟨m0,w0⟩,turn⟩:=h2
 subst e
 have stat:∀ {H':Hp},(∀ b∈fp,H' b=none)→∀ b∈fp,rJ X pins H' b:=fun hn b hb=>⟨hn b hb,(f2 b hb).2⟩
 refine codeAny_forLoop_any (fun n s'=>∃ i σ' H',Inv X pins σ' H' s'∧tn i s'.heap∧(∀ b∈fp,H' b=none)∧W i n σ' H') ?_ m0 ⟨0,σ,H2,I2,st2,fun b hb=>(f2 b hb).1,w0⟩
 rintro n s3 ⟨i,σ3,H3,I3,st3,fr3,w3⟩
 rcases turn i n σ3 H3 w3 with ⟨stop,qn⟩|⟨go,N,hN,step⟩
 ·refine wpAny_passesOwn hp (gW (T.done X rfl rfl rfl hc i pins s3 σ3 H3 X.xe I3 (stat fr3) st3 stop) fun r s4 ⟨hr,I4⟩=>?_)
  subst hr
  exact wpAny_execs_nil ⟨σ3,H3,I4,qn⟩
 ·refine wpAny_passesOwn hp (gW (T.item X rfl rfl rfl hc i pins s3 σ3 H3 X.xe I3 (stat fr3) st3 go) fun r s4 ⟨u,hr,h4⟩=>?_)
  subst hr
  refine wpAny_passesOwn hp (gW h4 fun _ s5 ⟨x,H5,I5,r5,y5,st5,fr5⟩=>?_)
  have I5':=I5.pinned (stat fr5) (T.obj _ _ st5)
  refine wpAny_passesOwn hp (gW (hg _ s5 σ3 H5 x u _ I5' r5 (step x H5 y5)) fun _ s6 ⟨σ6,H6,I6,q6⟩=>?_)
  refine wpAny_passesOwn hp (gW (hb _ s6 σ6 H6 _ I6 q6) fun f s7 q7=>?_)
  have again:∀ {σ7:St} {H7:Hp},Inv X (pins++HX fp s5.heap) σ7 H7 s7→N σ7 H7→∃ m,m < n∧∃ i σ' H',Inv X pins σ' H' s7∧tn i s7.heap∧(∀ b∈fp,H' b=none)∧W i m σ' H':=fun {σ7 H7} I7 n7=>by
   obtain⟨m',hm,w7⟩:=hN σ7 H7 n7
   refine⟨m',hm,i+1,σ7,H7,I7.qI,T.keep _ _ _ st5 fun b hb o e=>(I7.pin (b,o) (List.mem_append_right _ (List.mem_append_right _ (mq hb e)))).1,fun b hb=>?_,w7⟩
   obtain⟨o,e,d⟩:=T.obj _ _ st5 b hb
   exact(I7.pin (b,o) (List.mem_append_right _ (List.mem_append_right _ (mq hb e)))).2.1
  cases f with
  | next=>obtain⟨σ7,H7,I7,n7⟩:=q7;exact again I7 n7
  | cont=>obtain⟨σ7,H7,I7,n7⟩:=q7;exact again I7 n7
  | brk=>obtain⟨σ7,H7,I7,q7⟩:=q7;exact⟨σ7,H7,I7.qI,q7⟩
  | ret v=>obtain⟨x7,σ7,H7,I7,r7,q7⟩:=q7;exact⟨x7,σ7,H7,I7.qI,r7,q7⟩
end
end L2
namespace L2
open PySem PySem.Spec PyProof.Rows
abbrev R2:=V→V→Hp→VK→Prop
def rH(X:Cx)(f:Value→Value→Sem Value)(r:R2):Prop :=
 ∀ (pins:List (Addr×Obj)) (s:Shared) (σ : St) (H:Hp) (x y:V) (v u:Value) (Q:VK),Inv X pins σ H s→RelV x v→RelV y u→r x y H Q →
  wpAny (model X.prog X.w) X.A (f v u) (EP X pins σ Q) X.xe s
def jQ(X:Cx)(f:Value)(r:List V→Hp→VK→Prop):Prop :=
 ∀ (pins:List (Addr×Obj)) (s:Shared) (σ : St) (H:Hp) (xs:List V) (us:List Value) (Q:VK),Inv X pins σ H s→Vals xs us→r xs H Q →
  wpAny (model X.prog X.w) X.A (call f us) (EP X pins σ Q) X.xe s
def aeV(X:Cx)(r:V→Hp→(Bool→Hp→Prop)→Prop):Prop :=
 ∀ (pins:List (Addr×Obj)) (s:Shared) (σ : St) (H:Hp) (x:V) (v:Value) (Q:Bool→Hp→Prop),Inv X pins σ H s→RelV x v→r x H Q →
  wpAny (model X.prog X.w) X.A (truthy v) (TP X pins σ Q) X.xe s
def tOp(r:R2)(ta tb:TE):TE:=fun σ H Q=>ta σ H fun x H1=>tb σ H1 fun y H2=>r x y H2 Q
def rI(C:Int→Int→Prop)(g:Int→Int→V):R2:=fun x y H Q=>∃ i j,x=.int i∧y=.int j∧C i j∧Q (g i j) H
def Uk(g:Int→Int→V):R2:=fun x y H Q=>∃ i j,x=.int i∧y=.int j∧Q (g i j) H
section
variable{X:Cx}{a b c:Expr}{ta tb tc:TE}{pos:Pos}
theorem abX(ha:PE X a ta)(hb:PE X b tb){pins:List (Addr×Obj)}{s:Shared}{σ : St}{H:Hp}{R:V→V→Hp→Prop}(I:Inv X pins σ H s)
 (h:ta σ H fun x H1=>tb σ H1 fun y H2=>R x y H2) {Q:Value→Shared→Prop} {f:Value→Value→Sem Value}
 (hf:∀ v u s2 x y H2,Inv X pins σ H2 s2→RelV x v→RelV y u→R x y H2→wpAny (model X.prog X.w) X.A (f v u) Q X.xe s2) :
 wpAny (model X.prog X.w) X.A (eval a X.env) (fun v s₁=>wpAny (model X.prog X.w) X.A (eval b X.env) (fun u s₂=>wpAny (model X.prog X.w) X.A (f v u) Q X.xe s₂) X.xe s₁) X.xe s:=by
 refine gW (ha pins s σ H _ I h) fun v s1 ⟨x,H1,I1,r1,q1⟩=>?_
 refine gW (hb pins s1 σ H1 _ I1 q1) fun u s2 ⟨y,H2,I2,r2,q2⟩=>?_
 exact hf v u s2 x y H2 I2 r1 r2 q2
theorem bf{op:Operator}{r:R2}(ho:rH X (binaryOp op) r)(ha:PE X a ta)(hb:PE X b tb):PE X (.BinOp a op b pos) (tOp r ta tb):=by
 intro pins s σ H Q I h
 exact wpAny_BinOp (abX ha hb I h fun v u s2 x y H2 I2 rx ry q=>ho pins s2 σ H2 x y v u Q I2 rx ry q)
theorem opI{f:Value→Value→Sem Value}{C:Int→Int→Prop}{g:Int→Int→Int}
 (rule:∀ (i j:Int) (t u:Tok) (s:Shared) (Q:Value→Shared→Prop) (E:Value→Shared→Prop),C i j→Q (.int (g i j) s.toks) { s with toks:=s.toks+1 }→wpAny (model X.prog X.w) X.A (f (.int i t) (.int j u)) Q E s) :
 rH X f (rI C fun i j=>.int (g i j)):=by
 intro pins s σ H x y v u Q I rx ry h
 obtain⟨i,j,rfl,rfl,hc,q⟩:=h
 obtain⟨t,rfl⟩:=rx
 obtain⟨t',rfl⟩:=ry
 exact rule i j t t' s _ _ hc ⟨.int (g i j),H,I.tok _,⟨_,rfl⟩,q⟩
theorem ac4{f:Value→Value→Sem Value}{g:Int→Int→Int}
 (rule:∀ (i j:Int) (t u:Tok) (s:Shared) (Q:Value→Shared→Prop) (E:Value→Shared→Prop),Q (.int (g i j) s.toks) { s with toks:=s.toks+1 }→wpAny (model X.prog X.w) X.A (f (.int i t) (.int j u)) Q E s) :
 rH X f (Uk fun i j=>.int (g i j)):=by
 intro pins s σ H x y v u Q I rx ry h
 obtain⟨i,j,rfl,rfl,q⟩:=h
 obtain⟨t,rfl⟩:=rx
 obtain⟨t',rfl⟩:=ry
 exact rule i j t t' s _ _ ⟨.int (g i j),H,I.tok _,⟨_,rfl⟩,q⟩
theorem abg{f:Value→Value→Sem Value}{g:Int→Int→Bool}
 (rule:∀ (i j:Int) (t u:Tok) (s:Shared) (Q:Value→Shared→Prop) (E:Value→Shared→Prop),Q (.bool (g i j)) s→wpAny (model X.prog X.w) X.A (f (.int i t) (.int j u)) Q E s) :
 rH X f (Uk fun i j=>.bl (g i j)):=by
 intro pins s σ H x y v u Q I rx ry h
 obtain⟨i,j,rfl,rfl,q⟩:=h
 obtain⟨t,rfl⟩:=rx
 obtain⟨t',rfl⟩:=ry
 exact rule i j t t' s _ _ ⟨.bl (g i j),H,I,rfl,q⟩
def ZS(i j:Int):Prop:=(-(2 ^ 64) < i∧i < 2 ^ 64)∨(-(2 ^ 64) < j∧j < 2 ^ 64)
theorem ZS.ok{i j:Int}(h:ZS i j):IntMulOk i j:=by
 rcases h with ⟨h1,h2⟩|⟨h1,h2⟩
 ·exact .of_left (intBits_le_64 h1 h2)
 ·exact .of_right (intBits_le_64 h1 h2)
theorem abf:rH X (binaryOp .Add) (Uk fun i j=>.int (i+j)):=ac4 fun _ _ _ _ _ _ _ q=>add_int q
theorem VH:rH X (binaryOp .Sub) (Uk fun i j=>.int (i - j)):=ac4 fun _ _ _ _ _ _ _ q=>sub_int q
theorem kI:rH X (binaryOp .Mult) (rI ZS fun i j=>.int (i * j)):=opI fun _ _ _ _ _ _ _ hc q=>mul_int q hc.ok
theorem dF:rH X (binaryOp .Mod) (rI (fun _ j=>0 < j) fun i j=>.int (i % j)):=opI fun i j _ _ _ _ _ hc q=>by
 have h1:(0:Int) < j:=hc
 exact mod_int' (by omega) (by rw[Int.fmod_eq_emod_of_nonneg i (by omega)];exact q)
end
section
variable{X:Cx}{a b c:Expr}{ta tb tc:TE}{pos:Pos}
theorem Jp{pins:List (Addr×Obj)}{σ : St}{H:Hp}{s:Shared}{Q:VK}{k k':Bool}(I:Inv X pins σ H s)(q:Q (.bl k) H)(e:k=k'):EP X pins σ Q (.bool k') s:=by
 subst e
 exact⟨.bl k,H,I,rfl,q⟩
theorem ac2:rH X (compareOp .Lt) (Uk fun i j=>.bl (decide (i < j))):=abg fun _ _ _ _ _ _ _ q=>lt_int q
theorem QG:rH X (compareOp .LtE) (Uk fun i j=>.bl (decide (i≤j))):=abg fun _ _ _ _ _ _ _ q=>le_int q
theorem ac3:rH X (compareOp .Gt) (Uk fun i j=>.bl (decide (j < i))):=abg fun _ _ _ _ _ _ _ q=>gt_int q
theorem Su:rH X (compareOp .Lt) (fun x y H Q=>∃ i j,x=.str i∧y=.str j∧Q (.bl (decide (i.cps.toList < j.cps.toList))) H):=by
 intro pins s σ H x y v u Q I rx ry h
 obtain⟨i,j,rfl,rfl,q⟩:=h
 obtain⟨t,rfl⟩:=rx
 obtain⟨t',rfl⟩:=ry
 exact lt_str (Jp I q rfl)
theorem Sv:rH X (compareOp .In) (fun x y H Q=>∃ i j,x=.str i∧y=.str j∧Q (.bl (!(Builtin.Str.occurrences j i 0 j.length 1).isEmpty)) H):=by
 intro pins s σ H x y v u Q I rx ry h
 obtain⟨i,j,rfl,rfl,q⟩:=h
 obtain⟨t,rfl⟩:=rx
 obtain⟨t',rfl⟩:=ry
 exact in_str (Jp I q rfl)
theorem Yx:rH X (compareOp .IsNot) (fun x y H Q=>y=.non∧Q (.bl (!decide (x=.non))) H):=by
 intro pins s σ H x y v u Q I rx ry h
 obtain⟨rfl,q⟩:=h
 cases ry
 refine isnot_none_gen (Jp I q ?_)
 cases x<;>first
  | (cases rx;rfl)
  | (obtain⟨t,rfl⟩:=rx;rfl)
theorem rH.or{f:Value→Value→Sem Value}{r r':R2}(h:rH X f r)(h':rH X f r'):rH X f (fun x y H Q=>r x y H Q∨r' x y H Q):=by
 intro pins s σ H x y v u Q I rx ry q
 rcases q with q|q
 ·exact h pins s σ H x y v u Q I rx ry q
 ·exact h' pins s σ H x y v u Q I rx ry q
theorem bY(b:Expr){op:CmpOp}(h:op≠.In:=by decide)(h2:op≠.NotIn:=by decide):behindInMarks op b=false:=by
 have e1:(op == CmpOp.In)=false:=by cases op<;>first|rfl|exact absurd rfl h
 have e2:(op == CmpOp.NotIn)=false:=by cases op<;>first|rfl|exact absurd rfl h2
 cases b<;>simp[behindInMarks,e1,e2]
theorem fu{op:CmpOp}{r:R2}(ho:rH X (compareOp op) r)(ha:PE X a ta)(hb:PE X b tb)(hm:behindInMarks op b=false):PE X (.Compare a [op] [b] pos) (tOp r ta tb):=by
 intro pins s σ H Q I h
 exact wpAny_Compare1 (abX ha hb I h fun v u s2 x y H2 I2 rx ry q=>ho pins s2 σ H2 x y v u Q I2 rx ry q) hm
def UJ(t:TE):TT:=fun σ H Q=>t σ H fun x H'=>∃ k,x=.bl k∧Q k H'
theorem bF{op:CmpOp}{r:R2}(ho:rH X (compareOp op) r)(ha:PE X a ta)(hb:PE X b tb)(hm:behindInMarks op b=false):PT X (.Compare a [op] [b] pos) (UJ (tOp r ta tb)):=by
 intro pins s σ H Q I h
 refine wpAny_isTrue_Compare1 (gW (ha pins s σ H _ I h) fun v s1 ⟨x,H1,I1,r1,q1⟩=>gW (hb pins s1 σ H1 _ I1 q1) fun u s2 ⟨y,H2,I2,r2,q2⟩ =>
  gW (ho pins s2 σ H2 x y v u _ I2 r1 r2 q2) fun c s3 ⟨z,H3,I3,r3,k,e,q3⟩=>?_) hm
 subst e
 cases r3
 exact wpAny_truthy_bool ⟨H3,I3,q3⟩
def Oh(r r':R2)(ta tb tc:TE):TE:=fun σ H Q=>ta σ H fun x H1=>tb σ H1 fun y H2=>r x y H2 fun z H3=>∃ k,z=.bl k ∧
 (if k=true then tc σ H3 fun w' H4=>r' y w' H4 Q else Q (.bl false) H3)
theorem VD{op op':CmpOp}{r r':R2}(ho:rH X (compareOp op) r)(ho':rH X (compareOp op') r')(ha:PE X a ta)(hb:PE X b tb)(hc:PE X c tc)
 (hm:lastMarks [op,op'] [b,c]=false:=by with_unfolding_all rfl):PE X (.Compare a [op,op'] [b,c] pos) (Oh r r' ta tb tc):=by
 intro pins s σ H Q I h
 refine Compare_chain (gW (ha pins s σ H _ I h) fun v s1 ⟨x,H1,I1,r1,q1⟩=>chain_link (gW (hb pins s1 σ H1 _ I1 q1) fun u s2 ⟨y,H2,I2,r2,q2⟩ =>
  gW (ho pins s2 σ H2 x y v u _ I2 r1 r2 q2) fun d s3 ⟨z,H3,I3,r3,k,e,q3⟩=>?_)) hm
 subst e
 cases r3
 refine wpAny_truthy_bool ?_
 cases k with
 | false=>exact ite_ff ⟨.bl false,H3,I3,rfl,q3⟩
 | true=>exact ite_tt (chain_last (gW (hc pins s3 σ H3 _ I3 q3) fun w' s4 ⟨z',H4,I4,r4,q4⟩=>ho' pins s4 σ H4 y z' u w' Q I4 r2 r4 q4))
theorem Vq{op op':CmpOp}{r r':R2}(ho:rH X (compareOp op) r)(ho':rH X (compareOp op') r')(ha:PE X a ta)(hb:PE X b tb)(hc:PE X c tc)
 (hm:lastMarks [op,op'] [b,c]=false:=by with_unfolding_all rfl):PT X (.Compare a [op,op'] [b,c] pos) (UJ (Oh r r' ta tb tc)):=by
 intro pins s σ H Q I h
 refine isTrue_chain (gW (ha pins s σ H _ I h) fun v s1 ⟨x,H1,I1,r1,q1⟩=>test_link (gW (hb pins s1 σ H1 _ I1 q1) fun u s2 ⟨y,H2,I2,r2,q2⟩ =>
  gW (ho pins s2 σ H2 x y v u _ I2 r1 r2 q2) fun d s3 ⟨z,H3,I3,r3,k,e,q3⟩=>?_)) hm
 subst e
 cases r3
 refine wpAny_truthy_bool ?_
 cases k with
 | false =>
  obtain⟨k',e',q'⟩:=q3
  cases e'
  exact ite_ff ⟨H3,I3,q'⟩
 | true =>
  refine ite_tt (test_last (gW (hc pins s3 σ H3 _ I3 q3) fun w' s4 ⟨z',H4,I4,r4,q4⟩=>gW (ho' pins s4 σ H4 y z' u w' _ I4 r2 r4 q4) fun d' s5 ⟨z2,H5,I5,r5,k2,e2,q5⟩=>?_))
  subst e2
  cases r5
  exact wpAny_truthy_bool ⟨H5,I5,q5⟩
def ab8(K:W.Frag)(x:V)(H:Hp)(k:Bool):Prop :=
 match x with
 | .non=>k=false
 | .bl b=>k=b
 | .int i=>k=(i != 0)
 | .str y=>y.length≤sizeLine∧k=((y.length:Int) != 0)
 | .byt y=>y.size≤sizeLine∧k=((y.size:Int) != 0)
 | .ref p=>(∃ xs,Aw K H p xs∧k = !xs.isEmpty)∨(∃ xs,Ab K H p xs∧k = !xs.isEmpty)∨∃ kvs,H p=some (.dK kvs)∧k = !kvs.isEmpty
 | _=>False
theorem Pj{κ : Type}{kvs:List (κ×V)}{vs:List (κ×Value)}(r:KV kvs vs):(!vs.isEmpty) = !kvs.isEmpty:=by
 cases r<;>rfl
theorem Dk{xs:List V}{its:List Value}(r:Vals xs its):(!its.toArray.isEmpty) = !xs.isEmpty:=by
 cases r<;>simp
theorem CZ:(sizeLine:Nat) < 2 ^ 63:=by rw[sizeLine_eq];decide
theorem aaG:aeV X (fun x H Q=>∃ k,ab8 X.K x H k∧Q k H):=by
 intro pins s σ H x v Q I rx h
 obtain⟨k,e,q⟩:=h
 have hl:=CZ
 have hs:sizeLine=16777216:=sizeLine_eq
 cases x with
 | non =>
  cases rx
  have e':k=false:=e
  subst e'
  exact truthy_none ⟨H,I,q⟩
 | bl b =>
  cases rx
  have e':k=b:=e
  subst e'
  exact wpAny_truthy_bool ⟨H,I,q⟩
 | int i =>
  obtain⟨t,rfl⟩:=rx
  have e':k=(i != 0):=e
  subst e'
  exact PySem.P.truthy_int ⟨H,I,q⟩
 | str y =>
  obtain⟨t,rfl⟩:=rx
  obtain⟨hy,e'⟩ : y.length≤sizeLine∧k=((y.length:Int) != 0):=e
  subst e'
  exact PySem.P.truthy_str (by omega) ⟨H,I.tok _,q⟩
 | byt y =>
  obtain⟨t,rfl⟩:=rx
  obtain⟨hy,e'⟩ : y.size≤sizeLine∧k=((y.size:Int) != 0):=e
  subst e'
  exact W.truthy_bytes (by omega) ⟨H,I.tok _,q⟩
 | ref p =>
  cases rx
  have e':(∃ xs,Aw X.K H p xs∧k = !xs.isEmpty)∨(∃ xs,Ab X.K H p xs∧k = !xs.isEmpty)∨∃ kvs,H p=some (.dK kvs)∧k = !kvs.isEmpty:=e
  rcases e' with ⟨xs,hx,e'⟩|⟨xs,hx,e'⟩|⟨kvs,hx,e'⟩
  ·subst e'
   obtain⟨its,r,pl,hz⟩:=I.list hx
   have hlen:=r.length
   exact wpAny_truthy_list pl.isList (by simp only[List.size_toArray];omega) ⟨H,I.tok _,by rw[Dk r];exact q⟩
  ·subst e'
   obtain⟨its,r,pl,hz⟩:=I.tuple hx
   have hlen:=r.length
   exact truthy_tuple pl (by simp only[List.size_toArray];omega) ⟨H,I.tok _,by rw[Dk r];exact q⟩
  ·subst e'
   obtain⟨hz,hS,vs,r,m⟩ : kvs.length≤sizeLine∧(p == sysModules)=false∧∃ vs,KV kvs vs∧s.heap.DictOf (jq X.prog X.w) p vs:=I.hok p _ hx
   have hlen:kvs.length=vs.length:=Paired.length r
   exact wpAny_truthy_dict hS m (by omega) ⟨H,I.tok _,by rw[Pj r];exact q⟩
 | _=>exact(show False from e).elim
theorem KQ(ha:PE X a ta)(he:∀ whole,isTrue a X.env whole=(do let v ← whole;standAt a.pos;holding [v] (truthy v))) :
 PT X a (fun σ H Q=>ta σ H fun x H'=>∃ k,ab8 X.K x H' k∧Q k H'):=by
 intro pins s σ H Q I h
 exact isTrue_plain (gW (ha pins s σ H _ I h) fun v s1 ⟨x,H1,I1,r1,q1⟩=>aaG pins s1 σ H1 x v Q I1 r1 q1) (he _)
theorem Ow:rH X (binaryOp .Add) (fun x y H Q=>∃ i j,x=.str i∧y=.str j∧i.length+j.length≤sizeLine∧Q (.str (i++j)) H):=by
 intro pins s σ H x y v u Q I rx ry h
 obtain⟨i,j,rfl,rfl,hz,q⟩:=h
 obtain⟨t,rfl⟩:=rx
 obtain⟨t',rfl⟩:=ry
 exact add_str (fun t' tk=>⟨.str (i++j),H,I.tok _,⟨_,rfl⟩,q⟩) hz
theorem vals1{x:V}{us:List Value}(r:Vals [x] us):∃ u,us=[u]∧RelV x u:=by
 cases r with
 | cons r1 r2=>cases r2;exact⟨_,rfl,r1⟩
theorem vals2{x y:V}{us:List Value}(r:Vals [x,y] us):∃ u w',us=[u,w']∧RelV x u∧RelV y w':=by
 cases r with
 | cons r1 r2 =>
  cases r2 with
  | cons r3 r4=>cases r4;exact⟨_,_,rfl,r1,r3⟩
theorem TY(hc:X.calm=true):jQ X (.builtin "max") (fun xs H Q=>∃ i j,xs=[.int i,.int j]∧Q (.int (if j > i then j else i)) H):=by
 intro pins s σ H xs us Q I r h
 obtain⟨i,j,rfl,q⟩:=h
 obtain⟨u,w',rfl,⟨t,rfl⟩,⟨t',rfl⟩⟩:=vals2 r
 refine max_two_ints (I.ok.hd hc) fun h' tk k=>⟨_,H,I.kept k,?_,q⟩
 by_cases hj:j > i
 ·rw[if_pos hj,if_pos hj];exact⟨_,rfl⟩
 ·rw[if_neg hj,if_neg hj];exact⟨_,rfl⟩
theorem TX(hc:X.calm=true):jQ X (.builtin "min") (fun xs H Q=>∃ i j,xs=[.int i,.int j]∧Q (.int (if j < i then j else i)) H):=by
 intro pins s σ H xs us Q I r h
 obtain⟨i,j,rfl,q⟩:=h
 obtain⟨u,w',rfl,⟨t,rfl⟩,⟨t',rfl⟩⟩:=vals2 r
 refine min_two_ints (I.ok.hd hc) fun h' tk k=>⟨_,H,I.kept k,?_,q⟩
 by_cases hj:j < i
 ·rw[if_pos hj,if_pos hj];exact⟨_,rfl⟩
 ·rw[if_neg hj,if_neg hj];exact⟨_,rfl⟩
theorem T4:jQ X (.type "int") (fun xs H Q=>(∃ i,xs=[.int i]∧Q (.int i) H)∨∃ k,xs=[.bl k]∧Q (.int (if k then 1 else 0)) H):=by
 intro pins s σ H xs us Q I r h
 rcases h with ⟨i,rfl,q⟩|⟨k,rfl,q⟩
 ·obtain⟨u,rfl,t,rfl⟩:=vals1 r
  exact call_int_int ⟨.int i,H,I,⟨_,rfl⟩,q⟩
 ·obtain⟨u,rfl,r1⟩:=vals1 r
  cases r1
  exact call_int_bool ⟨.int (if k then 1 else 0),H,I.tok _,⟨_,rfl⟩,q⟩
def ad1(K:W.Frag)(x:V)(H:Hp)(n:Nat):Prop :=
 match x with
 | .str y=>y.length≤sizeLine∧n=y.length
 | .byt y=>y.size≤sizeLine∧n=y.size
 | .ref p=>(∃ xs,Aw K H p xs∧n=xs.length)∨∃ xs,Ab K H p xs∧n=xs.length
 | _=>False
theorem Xd:jQ X (.builtin "len") (fun xs H Q=>∃ x n,xs=[x]∧ad1 X.K x H n∧Q (.int n) H):=by
 intro pins s σ H xs us Q I r h
 obtain⟨x,n,rfl,e,q⟩:=h
 obtain⟨u,rfl,rx⟩:=vals1 r
 have hl:=CZ
 have hs:sizeLine=16777216:=sizeLine_eq
 cases x with
 | str y =>
  obtain⟨t,rfl⟩:=rx
  obtain⟨hy,e'⟩ : y.length≤sizeLine∧n=y.length:=e
  subst e'
  exact len_str (by omega) ⟨.int _,H,I.tok _,⟨_,rfl⟩,q⟩
 | byt y =>
  obtain⟨t,rfl⟩:=rx
  obtain⟨hy,e'⟩ : y.size≤sizeLine∧n=y.size:=e
  subst e'
  exact W.len_bytes (by omega) ⟨.int _,H,I.tok _,⟨_,rfl⟩,q⟩
 | ref p =>
  cases rx
  have e':(∃ xs,Aw X.K H p xs∧n=xs.length)∨∃ xs,Ab X.K H p xs∧n=xs.length:=e
  rcases e' with ⟨xs,hx,e'⟩|⟨xs,hx,e'⟩
  ·subst e'
   obtain⟨its,r',pl,hz⟩:=I.list hx
   have hlen:=r'.length
   exact Calls.call_len_list pl.isList (by simp only[List.size_toArray];omega) ⟨.int xs.length,H,I.tok _,⟨_,by simp only[List.size_toArray];rw[hlen]⟩,q⟩
  ·subst e'
   obtain⟨its,r',pl,hz⟩:=I.tuple hx
   have hlen:=r'.length
   exact len_tuple pl (by simp only[List.size_toArray];omega) ⟨.int xs.length,H,I.tok _,⟨_,by simp only[List.size_toArray];rw[hlen]⟩,q⟩
 | _=>exact(show False from e).elim
end
end L2
namespace L2
open PySem PySem.Spec PyProof.Rows
structure acb(h:Heap)(x dx C:Addr)(mA:Str→Option Value):Prop where
 obj:h.get? x=some (W.instObj C dx)
 ns:h.Ns1 dx mA
 ne:dx≠x
theorem S6{h:Heap}{dx:Addr}{mA:Str→Option Value}(n:h.Ns1 dx mA):∃ od,h.get? dx=some od∧∀ name,W.lookIn name od=some (mA name):=by
 obtain⟨o,es,ep,ho,hd,hk,_,hm⟩:=n
 refine⟨o,ho,fun name=>?_⟩
 have e:=hm name
 unfold nsFind findBy at e
 rw[← Array.find?_toList] at e
 unfold W.lookIn
 rw[hd]
 dsimp only
 split
 ·rename_i y q
  rw[q] at e
  exact congrArg some e
 ·rename_i q
  rw[q] at e
  have a:es.toList.any (·.refKey)=false:=by
   rw[List.any_eq_false]
   intro y hy
   obtain⟨z,t,hkey⟩:=hk y (Array.mem_toList_iff.mp hy)
   simp[DictEntry.refKey,hkey]
  have a':¬ es.toList.any (·.refKey)=true:=by rw[a];exact Bool.false_ne_true
  rw[if_neg a']
  exact congrArg some e
theorem acb.look{h:Heap}{x dx C:Addr}{mA:Str→Option Value}(I:acb h x dx C mA):∃ od,W.InstAt h x (W.instObj C dx) C (some od)∧∀ name,W.lookIn name od=some (mA name) :=
 let ⟨od,ho,hl⟩:=S6 I.ns
 ⟨od,⟨I.obj,rfl,rfl,ho⟩,hl⟩
section
variable{P:Program}{w:World}{H H':Hp}{h h':Heap}{a C dx:Addr}{fs fs':List (Str×V)}
theorem YW(hok:rN P w H h)(e:H a=some (.ins C dx fs)):∃ mA,acb h a dx C mA∧(∀ f,Qg (fs.lookup f) (mA f))∧PySem.Within mA (fs.map (·.1))∧fs.length≤1000∧H dx=some (.own a):=by
 obtain⟨d,z,ne,ob,mA,n,r,q⟩:=(show dZ P w H h a (.ins C dx fs) from hok a _ e)
 exact⟨mA,⟨ob,n,ne⟩,r,q,z,d⟩
end
structure Cls(K:W.Frag)(C:Addr):Prop where
 pg:W.plainGet K C Str.empty=true
 hd:W.hasDictIn K C=true
 po:W.plainOver K C=true
 sa:W.findIn K (.ref C) "__setattr__" = some (some (.builtin "object.__setattr__"))
theorem Cls.get{K:W.Frag}{C:Addr}(c:Cls K C)(f:Str):W.plainGet K C f=true:=c.pg
section
variable{X:Cx}{pins:List (Addr×Obj)}{σ : St}{H:Hp}{s:Shared}{A:Around}{E:Value→Shared→Prop}{Q:Value→Shared→Prop}{c:Value}{b:Bool}
inductive yc(K:W.Frag)(H:Hp):V→Value→Prop where
 | non:yc K H .non (.type "NoneType")
 | bl (x:Bool):yc K H (.bl x) (.type "bool")
 | int (i:Int):yc K H (.int i) (.type "int")
 | str (x:Str):yc K H (.str x) (.type "str")
 | flt (x:UInt64):yc K H (.flt x) (.type "float")
 | lst {a:Addr} {xs:List V} (e:H a=some (.lst xs)):yc K H (.ref a) (.type "list")
 | frz {a:Addr} {o:Obj} {xs:List V} (e:H a=some (.frz o (.lst xs))):yc K H (.ref a) (.type "list")
 | tup {a:Addr} {xs:List V} (e:H a=some (.tup xs)):yc K H (.ref a) (.type "tuple")
 | dK {a:Addr} {kvs:List (Key×V)} (e:H a=some (.dK kvs)):yc K H (.ref a) (.type "dict")
 | dT {a:Addr} {kvs:List (List Key×V)} (e:H a=some (.dT kvs)):yc K H (.ref a) (.type "dict")
 | ins {a C dx:Addr} {fs:List (Str×V)} (e:H a=some (.ins C dx fs)) (cl:Cls K C) (ha:W.findIn K (.ref C) "__class__" = some (some (.builtin "object.__class__")))
  (hn:W.specialIn K (.builtin "object.__class__") "__get__" = some (some (.builtin "getset_descriptor.__get__"))) (htk:W.takesIn K (.builtin "object.__class__")=some true)
  (hm:W.mroIn K C (.type "object")=some true):yc K H (.ref a) (.ref C)
theorem Tf{x:V}{u t:Value}(I:Inv X pins σ H s)(rx:RelV x u)(ty:yc X.K H x t)(e:W.kitOne X.K t c=some b)(h:∀ tk,Q (.bool b) { s with toks:=tk }) :
 wpAny (model X.prog X.w) A (call (.builtin "isinstance") [u,c]) Q E s:=by
 cases ty with
 | non=>cases (show u=Value.none from rx);exact W.kia_one W.kitx_none I.Bg True.intro e (fun z=>nomatch z) h
 | bl y=>cases (show u=Value.bool y from rx);exact W.kia_one W.kitx_bool I.Bg True.intro e (fun z=>nomatch z) h
 | int i=>obtain⟨t,q⟩:=(show ∃ t,u=Value.int i t from rx);cases q;exact W.kia_one W.kitx_int I.Bg True.intro e (fun z=>nomatch z) h
 | str y=>obtain⟨t,q⟩:=(show ∃ t,u=Value.str y t from rx);cases q;exact W.kia_one W.kitx_str I.Bg True.intro e (fun z=>nomatch z) h
 | flt y=>obtain⟨t,q⟩:=(show ∃ t,u=Value.float y t from rx);cases q;exact W.kia_one W.kitx_float I.Bg True.intro e (fun z=>nomatch z) h
 | @lst a xs ea =>
  cases (show u=Value.ref a from rx)
  obtain⟨_,_,n,_,h1⟩:=(show dZ X.prog X.w H s.heap a (.lst xs) from I.hok a _ ea)
  exact W.kia_one W.kitx_list I.Bg ⟨_,h1,rfl⟩ e (fun z=>nomatch z) h
 | @frz a ob xs ea =>
  cases (show u=Value.ref a from rx)
  obtain⟨_,_,_,n,_,h1⟩:=(show dZ X.prog X.w H s.heap a (.frz ob (.lst xs)) from I.hok a _ ea)
  exact W.kia_one W.kitx_list I.Bg ⟨_,h1,rfl⟩ e (fun z=>nomatch z) h
 | @tup a xs ea =>
  cases (show u=Value.ref a from rx)
  obtain⟨_,_,_,p⟩:=(show dZ X.prog X.w H s.heap a (.tup xs) from I.hok a _ ea)
  obtain⟨o,h1,h2,_⟩:=p
  exact W.kia_one W.kitx_tuple I.Bg ⟨o,h1,h2⟩ e (fun z=>nomatch z) h
 | @dK a kvs ea =>
  cases (show u=Value.ref a from rx)
  obtain⟨_,_,vs,_,p⟩:=(show dZ X.prog X.w H s.heap a (.dK kvs) from I.hok a _ ea)
  obtain⟨o,es,ep,h1,h2,_⟩:=p
  exact W.kia_one W.kitx_dict I.Bg ⟨o,h1,h2.1⟩ e (fun z=>nomatch z) h
 | @dT a kvs ea =>
  cases (show u=Value.ref a from rx)
  obtain⟨_,_,xs,_,o,es,ep,h1,h2,_⟩:=(show dZ X.prog X.w H s.heap a (.dT kvs) from I.hok a _ ea)
  exact W.kia_one W.kitx_dict I.Bg ⟨o,h1,h2.1⟩ e (fun z=>nomatch z) h
 | @ins a C dx fs ea cl ha hn htk hm =>
  cases (show u=Value.ref a from rx)
  obtain⟨mA,O,_⟩:=YW I.hok ea
  obtain⟨od,J,_⟩:=O.look
  exact W.kia_one (W.kitx_own (cl.get _) cl.hd ha hn htk hm) I.Bg J e (fun z=>nomatch z) h
end
end L2
namespace L2
open PySem PySem.Spec PyProof.Rows
structure kW(k:Nat)(A:Around):Prop where
 hd:A.handled=none
 dp:A.depth+3 * k+5 < recursionLimit
 un:A.units+16 * k+200 < cLine
theorem kW.mono{j k:Nat}{A:Around}(r:kW k A)(h:j≤k):kW j A:=⟨r.hd,by have:=r.dp;omega,by have:=r.un;omega⟩
theorem kW.deeper{k:Nat}{A:Around}(r:kW (k+1) A)(env:Env):kW k (A.deeper env) :=
 ⟨r.hd,by have:=r.dp;show A.depth+1+3 * k+5 < _;omega,by have:=r.un;show A.units+3+16 * k+200 < _;omega⟩
theorem kW.in1{k:Nat}{A:Around}(r:kW (k+1) A):kW k A.in1 :=
 ⟨r.hd,by have:=r.dp;show A.depth+3 * k+5 < _;omega,by have:=r.un;show A.units+1+16 * k+200 < _;omega⟩
theorem kW.depth{k:Nat}{A:Around}(r:kW k A):A.depth < recursionLimit:=by have:=r.dp;omega
theorem kW.units{k:Nat}{A:Around}(r:kW k A):A.units+64 < cLine:=by have:=r.un;omega
def vo:TA:=fun _ H Q=>Q [] H
def lC(ta:TE)(tr:TA):TA:=fun σ H Q=>ta σ H fun x H1=>tr σ H1 fun xs H2=>Q (x::xs) H2
section
variable{X:Cx}{e:Expr}{es:List Expr}{te:TE}{t:TA}{pos:Pos}
theorem au:PA X [] vo:=fun _ _ _ _ H Q I h=>Calls.spliced_nil ⟨[],H,I,.nil,h⟩
theorem ak(ha:PE X e te)(hr:PA X es t)(hs:starEach (e::es) X.env=(false,eval e X.env)::starEach es X.env:=by rfl):PA X (e::es) (lC te t):=by
 intro pos pins s σ H Q I h
 rw[hs]
 show wpAny _ _ (spliced ((false,eval e X.env)::backTo pos (starEach es X.env))) _ _ s
 refine Calls.spliced_cons (gW (ha pins s σ H _ I h) fun u s1 ⟨x,H1,I1,r1,q1⟩=>?_)
 exact gW (hr pos pins s1 σ H1 _ I1 q1) fun us s2 ⟨xs,H2,I2,r2,q2⟩=>⟨x::xs,H2,I2,.cons r1 r2,q2⟩
def aaI(t:TA):TE:=fun σ H Q=>t σ H fun xs H1=>xs.length≤sizeLine∧∀ p,H1 p=none→Q (.ref p) (upd H1 p (.tup xs))
def acu(t:TA):TE:=fun σ H Q=>t σ H fun xs H1=>xs.length≤sizeLine∧∀ p,H1 p=none→Q (.ref p) (upd H1 p (.lst xs))
theorem cD{x1}(h:PA X es t):PE X (.Tuple es x1 pos) (aaI t):=by
 intro pins s σ H Q I hq
 refine wpAny_Tuple_spliced (gW (h pos pins s σ H _ I hq) fun us s1 ⟨xs,H1,I1,r,z,q⟩=>⟨by rw[← r.length];exact z,?_⟩)
 have hf:H1 s1.heap.objs.size=none:=I1.hok.fresh (Nat.le_refl _)
 refine⟨.ref s1.heap.objs.size,upd H1 s1.heap.objs.size (.tup xs),I1.laid (t':=s1.toks) (fun b u e=>Heap.get?_push_of_some _ e) (Nat.le_refl _) ?_,rfl,q _ hf⟩
 exact⟨z,us,r,⟨_,Heap.get?_push_size _ rfl,rfl,rfl,_,rfl⟩⟩
theorem dD(h:PA X es t):PE X (.List es pos) (acu t):=by
 intro pins s σ H Q I hq
 refine wpAny_List_spliced (gW (h pos pins s σ H _ I hq) fun us s1 ⟨xs,H1,I1,r,z,q⟩=>⟨by rw[← r.length];exact z,?_⟩)
 have hf:H1 s1.heap.objs.size=none:=I1.hok.fresh (Nat.le_refl _)
 refine⟨.ref s1.heap.objs.size,upd H1 s1.heap.objs.size (.lst xs),I1.laid (t':=s1.toks) (fun b u e=>Heap.get?_push_of_some _ e) (Nat.le_refl _) ?_,rfl,q _ hf⟩
 exact⟨z,us,0,r,Heap.get?_push_size _ rfl⟩
end
abbrev Sp:=List V→Hp→VK→XK→Prop
abbrev NQ:=List Env→Hp→Shared→XK→Value→Shared→Prop
structure Ui(P:Program)(w:World)(K:W.Frag)(mg:Str→Option Value)(base:Heap)(A:Around)(outer:List Env)(s:Shared)(H:Hp):Prop where
 frames:A.frames=some outer
 mod:Mod K mg base
 bs:∀ b o,base.get? b=some o→s.heap.get? b=some o∧H b=none
 bsz:base.objs.size≤s.heap.objs.size
 uK:s.heap.FunFrames base outer
 frf:∀ b∈frs outer,H b=none
 hok:rN P w H s.heap
 bare:AllBare s.gens
def CE(outer:List Env)(P:Program)(w:World)(H:Hp)(s:Shared)(Q:VK)(u:Value)(s':Shared):Prop :=
 ∃ v H',s'.os=s.os∧AllBare s'.gens∧Un (frs outer) [] H H' s.heap s'.heap∧rN P w H' s'.heap∧RelV v u∧Q v H'
def CR(CX:NQ)(outer:List Env)(P:Program)(w:World)(H:Hp)(s:Shared)(Q:VK)(E:XK)(r:Result)(s':Shared):Prop :=
 match r with
 | .ok (.ret u)=>CE outer P w H s Q u s'
 | .ok _=>False
 | .error e=>CX outer H s E e s'
structure dz(P:Program)(w:World)(K:W.Frag)(mg:Str→Option Value)(base:Heap)(CX:NQ)(k:Nat)(f:Addr)(fd:FuncData)(ps:List Str)(sp:Sp):Prop where
 len:∀ vs H Q E,sp vs H Q E→vs.length=ps.length
 run:∀ (A:Around) (outer:List Env) (s:Shared) (H:Hp) (args:Args) (us:List Value) (vs:List V) (Q:VK) (E:XK),kW k A→Ui P w K mg base A outer s H→BindsTo s fd args (ps.zip us)→Vals vs us→sp vs H Q E →
  codeAny (model P w) A (.call (.ref f) args) (CR CX outer P w H s Q E) s
theorem dz.imp{P:Program}{w:World}{K:W.Frag}{mg:Str→Option Value}{base:Heap}{CX:NQ}{k:Nat}{f:Addr}{fd:FuncData}{ps:List Str}{sp sp':Sp}(F:dz P w K mg base CX k f fd ps sp)
 (h:∀ vs H Q E,sp' vs H Q E→sp vs H Q E):dz P w K mg base CX k f fd ps sp' :=
 ⟨fun vs H Q E q=>F.len vs H Q E (h _ _ _ _ q),fun A outer s H args us vs Q E hr he hb hv hs=>F.run A outer s H args us vs Q E hr he hb hv (h _ _ _ _ hs)⟩
section
variable{X:Cx}{pins:List (Addr×Obj)}{σ : St}{H:Hp}{s s':Shared}
theorem Inv.env0(I:Inv X pins σ H s):Ui X.prog X.w X.K X.mg X.base X.A X.stack s H :=
 ⟨I.ok.frames,I.ok.mod,I.bs,Nat.le_trans I.ok.bsz I.sz,I.stack,I.w6,I.hok,I.bare⟩
theorem Inv.after{Q:VK}{u:Value}(I:Inv X pins σ H s)(h:CE X.stack X.prog X.w H s Q u s'):EP X pins σ Q u s':=by
 obtain⟨v,H',os,bare,un,hok,r,q⟩:=h
 obtain⟨hh,g,d,t,os'⟩:=s'
 obtain rfl:os'=s.os:=os
 exact⟨v,H',I.call (h':=hh) (g':=g) (d':=d) (t':=t) (ch:=[]) un hok bare (fun b z=>absurd z (by simp)),r,q⟩
end
def vz(sp:Sp)(dvs:List V)(E:XK)(t:TA):TE:=fun σ H Q=>t σ H fun vs H1=>sp (vs++dvs) H1 Q E
def Binds(K:W.Frag)(fd:FuncData)(ps:List Str)(ds:List Value):Prop :=
 ∀ (s:Shared) (us:List Value),K.In s.heap→(us++ds).length=ps.length→BindsTo s fd ⟨us,[]⟩ (ps.zip (us++ds))
theorem Binds.all{K:W.Frag}{fd:FuncData}{ps:List Str}(h:∀ us:List Value,us.length=ps.length→bindArgs fd ⟨us,[]⟩=pure (ps.zip us)):Binds K fd ps []:=fun s us _ hl=>by
 rw[List.append_nil] at hl ⊢
 exact .of_eq (h us hl)
def Et(CX:NQ)(X:Cx)(E:XK):Prop:=∀ (pins:List (Addr×Obj)) (σ : St) (H:Hp) (s:Shared) (e:Value) (s':Shared),Inv X pins σ H s→CX X.stack H s E e s'→X.xe e s'
section
variable{X:Cx}{CX:NQ}{k:Nat}{f C:Addr}{fd:FuncData}{ps:List Str}{sp:Sp}{dvs:List V}{ds:List Value}{E:XK}{x m:Str}{p pos apos:Pos}{e o:Expr}{es:List Expr}{ta:TE}{t:TA}
theorem aaT{pins:List (Addr×Obj)}{σ : St}{H:Hp}{s:Shared}{Q:VK}{us:List Value}{vs:List V}(F:dz X.prog X.w X.K X.mg X.base CX k f fd ps sp)(hr:kW k X.A)(hb:Binds X.K fd ps ds)(hd:Vals dvs ds)(hx:Et CX X E)
 (I:Inv X pins σ H s) (r:Vals vs us) (h:sp (vs++dvs) H Q E):wpAny (model X.prog X.w) X.A (call (.ref f) us) (EP X pins σ Q) X.xe s:=by
 have r2:Vals (vs++dvs) (us++ds):=r.append hd
 have hl:(us++ds).length=ps.length:=by rw[← r2.length];exact F.len _ _ _ _ h
 refine wpAny_call (codeAny_mono (F.run X.A X.stack s H ⟨us,[]⟩ (us++ds) (vs++dvs) Q E hr I.env0 (hb s us I.Bg hl) r2 h) fun r s' hq=>?_)
 cases r with
 | error e=>exact hx pins σ H s e s' I hq
 | ok fl =>
  cases fl with
  | ret u=>exact I.after hq
  | next=>exact False.elim hq
  | brk=>exact False.elim hq
  | cont=>exact False.elim hq
theorem Ys(F:dz X.prog X.w X.K X.mg X.base CX k f fd ps sp)(hr:kW k X.A)(hg:Gl X x)(hm:X.mg x=some (.ref f))(hk:W.keepIn X.K (.ref f)=true)(hb:Binds X.K fd ps ds)(hd:Vals dvs ds)(hx:Et CX X E)
 (ha:PA X (e::es) t) (hdb:(x == ("__debug__" : Str))=false:=by decide) (he:starEach (e::es) X.env=(false,eval e X.env)::starEach es X.env:=by rfl) (hpl:(backTo pos (starEach es X.env)).any (·.1)=false:=by rfl) :
 PE X (.Call (.Name x p) (e::es) [] pos) (vz sp dvs E t):=by
 intro pins s σ H Q I h
 refine wpAny_Call_Name_kw (vd I hg hm ?_ hdb)
 refine W.callWith_K (h₀:=X.base) I.ok.mod.kin hk (gW (ha pos pins s σ H _ I h) fun us s1 ⟨vs,H1,I1,r,q⟩=>⟨I1.Bg,?_⟩) he hpl
 exact aaT F hr hb hd hx I1 r q
end
structure bz(N P:List Str)(sc:Scope):Prop where
 kind:sc.kind=.function
 co:sc.isCoroutine=false
 gen:sc.isGenerator=false
 nd:N.Nodup
 pre:N.take P.length=P
 par:∀ x∈P,sc.names.lookup x=some .local∨sc.names.lookup x=some .cell
 abm:∀ y∈sc.names,y.2≠.free
theorem Gy{kindOf:Str→Option NameKind}{x:Str}:∀ {binds:List (Str×Value)} {m:Str→Option Value},(∀ v,(x,v)∉binds)→bindL kindOf binds m x=m x
 | [],_,_=>rfl
 | (n,v)::r,m,h=>by
  unfold bindL
  rw[Gy fun w hw=>h w (List.mem_cons_of_mem _ hw)]
  split
  ·have:x≠n:=by rintro rfl;exact h v List.mem_cons_self
   simp[this]
  ·rfl
theorem GC{kindOf:Str→Option NameKind}{x:Str}:∀ {binds:List (Str×Value)} {m:Str→Option Value},(∀ v,(x,v)∉binds)→bindC kindOf binds m x=m x
 | [],_,_=>rfl
 | (n,v)::r,m,h=>by
  unfold bindC
  rw[GC fun w hw=>h w (List.mem_cons_of_mem _ hw)]
  split
  ·rfl
  ·have:x≠n:=by rintro rfl;exact h v List.mem_cons_self
   simp[this]
theorem Gz{kindOf:Str→Option NameKind}{x:Str}{v:Value}:∀ {P:List Str} {vs:List Value} {i:Nat} {m:Str→Option Value},P.Nodup→P[i]? = some x→vs[i]? = some v→kindOf x=some .local →
 bindL kindOf (P.zip vs) m x=some v
 | [],_,_,_,_,h,_,_=>by simp at h
 | _::_,[],_,_,_,_,h,_=>by simp at h
 | p::P,w::vs,0,m,nd,h1,h2,hk=>by
  simp at h1 h2;subst h1;subst h2
  show bindL kindOf ((p,w)::P.zip vs) m p=_
  unfold bindL
  rw[Gy fun v hv=>(List.nodup_cons.mp nd).1 (List.of_mem_zip hv).1,if_pos hk]
  simp
 | p::P,w::vs,i+1,m,nd,h1,h2,hk=>by
  show bindL kindOf ((p,w)::P.zip vs) m x=_
  unfold bindL
  exact Gz (i:=i) (List.nodup_cons.mp nd).2 (by simpa using h1) (by simpa using h2) hk
theorem GD{kindOf:Str→Option NameKind}{x:Str}{v:Value}:∀ {P:List Str} {vs:List Value} {i:Nat} {m:Str→Option Value},P.Nodup→P[i]? = some x→vs[i]? = some v→kindOf x≠some .local →
 bindC kindOf (P.zip vs) m x=some v
 | [],_,_,_,_,h,_,_=>by simp at h
 | _::_,[],_,_,_,_,h,_=>by simp at h
 | p::P,w::vs,0,m,nd,h1,h2,hk=>by
  simp at h1 h2;subst h1;subst h2
  show bindC kindOf ((p,w)::P.zip vs) m p=_
  unfold bindC
  rw[GC fun v hv=>(List.nodup_cons.mp nd).1 (List.of_mem_zip hv).1,if_neg hk]
  simp
 | p::P,w::vs,i+1,m,nd,h1,h2,hk=>by
  show bindC kindOf ((p,w)::P.zip vs) m x=_
  unfold bindC
  exact GD (i:=i) (List.nodup_cons.mp nd).2 (by simpa using h1) (by simpa using h2) hk
def start(N:List Str)(vs:List V):St:=vs.map some++List.replicate (N.length - vs.length) none
def qu(CX:NQ)(P:Program)(w:World)(K:W.Frag)(mg:Str→Option Value)(base:Heap)(N:List Str)(qual:Str)(scope:Scope)(f:Addr)(cd:Value)(A:Around)(outer:List Env)(s:Shared)(H:Hp)(E:XK):Cx where
 prog:=P
 w:=w
 K:=K
 mg:=mg
 base:=base
 A:=A.deeper (envOfC qual scope s.heap.objs.size f cd)
 N:=N
 s₀:=s
 H₀:=H
 env:=envOfC qual scope s.heap.objs.size f cd
 outer:=outer
 stack:=envOfC qual scope s.heap.objs.size f cd::outer
 ex:=[]
 calm:=true
 fn:=fun _=>true
 pn:=[]
 xe:=fun e s'=>wpAny (model P w) (A.deeper (envOfC qual scope s.heap.objs.size f cd)) (leaving (envOfC qual scope s.heap.objs.size f cd) e) (fun _ s''=>CX outer H s E e s'') (fun e' s''=>CX outer H s E e' s'') s'
theorem MF{sc:Scope}{n:Nat}{x:Str}(h:sc.names.lookup x=some .cell):∃ c,(cellsFrom n sc.names []).lookup x=some c:=by
 have q:=W.cellsFrom_some sc.names n [] (.inl h)
 exact Option.isSome_iff_exists.mp q
theorem Gj{CX:NQ}{P:Program}{w:World}{K:W.Frag}{mg:Str→Option Value}{base:Heap}{N ps:List Str}{qual:Str}{scope:Scope}{f:Addr}{cd:Value}{A:Around}{outer:List Env}{s s1:Shared}{H:Hp}{E:XK}{us:List Value}{vs:List V}
 (S:bz N ps scope) (hd:A.handled=none) (e0:Ui P w K mg base A outer s H) (hl:vs.length=ps.length) (r:Vals vs us)
 (x:InCallC s s.heap.objs.size (bindL (envOfC qual scope s.heap.objs.size f cd).kindOf (ps.zip us) fun _=>none) (cellsFrom (s.heap.objs.size+1) scope.names []) (bindC (envOfC qual scope s.heap.objs.size f cd).kindOf (ps.zip us) fun _=>none) s1) :
 Inv (qu CX P w K mg base N qual scope f cd A outer s H E) [] (start N vs) H s1:=by
 have hpl:ps.length≤N.length:=by have:=congrArg List.length S.pre;rw[List.length_take] at this;omega
 obtain⟨h1,tk,rfl,hk⟩:=x.done
 have noA:∀ b:Addr,b∉(qu CX P w K mg base N qual scope f cd A outer s H E).ex:=fun b z=>absurd (show b∈([]:List Addr) from z) (by simp)
 refine⟨⟨e0.mod,S.kind,rfl,rfl,Nat.le_refl _,fun y z c h1 h2=>?_,fun y hy=>?_,fun y c _ h=>?_,fun _=>hd,Around.frames_deeper e0.frames,.inr ⟨rfl,rfl⟩,fun b z=>absurd z (noA b),e0.bs,e0.bsz,fun b _ _=>noA b,fun b z=>absurd z (noA b),e0.uK,e0.frf⟩,
  rfl,e0.bare,Un.kept hk,⟨_,x.toInCall.ns,fun i y v h1 h2 h3=>?_⟩,fun y c h=>⟨_,x.cell y c h⟩,e0.hok.fresh (Nat.le_refl _),fun y c h=>?_,fun p hp=>absurd (show p∈([]:List (Addr×Obj)) from hp) (by simp),e0.hok.kept hk,?_⟩
 ·exact name_of_addr x.apart (PySem.mem_of_lookup h1) (PySem.mem_of_lookup h2)
 ·have hy:scope.names.lookup y=some .cell∨scope.names.lookup y=some .free:=hy
  rcases hy with hy|hy
  ·exact MF hy
  ·exact absurd rfl (S.abm _ (PySem.mem_of_lookup hy))
 ·exact Nat.le_of_lt (x.above y c (PySem.mem_of_lookup h))
 ·have hi:i < vs.length:=by
   unfold start at h2
   by_cases hi:i < vs.length
   ·exact hi
   ·rw[List.getElem?_append_right (by simpa using hi)] at h2
    rw[List.getElem?_replicate] at h2
    split at h2<;>cases h2
  have ha:vs[i]? = some v:=by
   unfold start at h2
   rw[List.getElem?_append_left (by simpa using hi),List.getElem?_map] at h2
   cases e:vs[i]? with
   | none=>rw[e] at h2;cases h2
   | some a=>rw[e] at h2;cases h2;rfl
  obtain⟨u,hu,rv⟩:=r.get ha
  have hp:ps[i]? = some y:=by
   rw[← S.pre,List.getElem?_take_of_lt (by omega)];exact h1
  have ndP:ps.Nodup:=by rw[← S.pre];exact S.nd.sublist (List.take_sublist _ _)
  refine⟨u,rv,?_⟩
  rcases S.par y (List.mem_of_getElem? hp) with k|k
  ·exact .inl ⟨k,Gz ndP hp hu k⟩
  ·obtain⟨c,e⟩:=MF (n:=s.heap.objs.size+1) k
   refine .inr ⟨.inl k,c,e,?_⟩
   have q:=x.cell y c e
   rw[GD ndP hp hu (by show scope.names.lookup y≠_;rw[k];decide)] at q
   exact q
 ·exact e0.hok.fresh (Nat.le_of_lt (x.above y c (PySem.mem_of_lookup h)))
 ·unfold start
  show _=N.length
  rw[List.length_append,List.length_map,List.length_replicate]
  omega
theorem Wv{CX:NQ}{P:Program}{w:World}{K:W.Frag}{mg:Str→Option Value}{base:Heap}{k:Nat}{f:Addr}{name qual:Str}{params:Arguments}{body:List Stmt}{scope:Scope}{dV kV doc pm cdv ct oc:Value}{an od:Option Addr}
 {osl:Array (Option Value)} {N ps:List Str} {sp:Sp} (lk:K.lookup f=some ⟨oc,od,.func (W.fnOf name qual params body scope dV kV doc pm an cdv ct),osl⟩) (hcd:W.codeIn K cdv qual=true) (S:bz N ps scope)
 (len:∀ vs H Q E,sp vs H Q E→vs.length=ps.length)
 (hbody:∀ (A:Around) (outer:List Env) (s:Shared) (H:Hp) (vs:List V) (Q:VK) (E:XK),kW k (A.deeper (envOfC qual scope s.heap.objs.size f cdv))→sp vs H Q E →
  ∃ t,J5 (qu CX P w K mg base N qual scope f cdv A outer s H E) body t∧t { nx:=fun _ H'=>Q .non H',rt:=Q } (start N vs) H) :
 dz P w K mg base CX (k+1) f (W.fnOf name qual params body scope dV kV doc pm an cdv ct) ps sp:=by
 refine⟨len,fun A outer s H args us vs Q E hr e0 hb r hsp=>?_⟩
 have hl:=len _ _ _ _ hsp
 have KX:K.In s.heap:=e0.mod.kin.keeps fun b o e=>(e0.bs b o e).1
 have lim:s.heap.NoLimit:=e0.mod.nolimit.keeps fun b o e=>(e0.bs b o e).1
 have hkind:∀ y∈ps.zip us,scope.names.lookup y.1=some .local∨(scope.names.lookup y.1=some .cell∧((cellsFrom (s.heap.objs.size+1) scope.names []).lookup y.1).isSome=true):=fun ⟨n,v⟩ hy=>by
  rcases S.par n (List.of_mem_zip hy).1 with q|q
  ·exact .inl q
  ·exact .inr ⟨q,W.cellsFrom_some _ _ _ (.inl q)⟩
 refine codeAny_call_function hr.depth (KX _ _ lk) rfl S.co S.gen rfl (W.codeRec_of KX hcd) (hb _ _ _ _ ?_)
 refine wpAny_newFunctionEnv_cells S.kind hkind fun env he s1 x=>?_
 subst he
 refine⟨lim.keeps x.toInCall.keep,codeAny_func ?_⟩
 obtain⟨t,ht,hq⟩:=hbody A outer s H vs Q E (hr.deeper _) hsp
 have I:Inv (qu CX P w K mg base N qual scope f cdv A outer s H E) [] (start N vs) H s1:=Gj S hr.hd e0 hl r x
 refine wpAny_mono (ht [] s1 (start N vs) H _ I hq) (fun fl s' hs=>?_) fun e s' hs=>hs
 have fin:∀ {σ':St} {H':Hp} {v:V} {u:Value},Inv (qu CX P w K mg base N qual scope f cdv A outer s H E) [] σ' H' s'→RelV v u→Q v H'→CE outer P w H s Q u s' :=
  fun {σ' H' v u} J rv q=>⟨v,H',J.os,J.bare,J.base,J.hok,rv,q⟩
 cases fl with
 | ret u =>
  obtain⟨v,σ',H',J,rv,q⟩:=hs
  exact fin J rv q
 | next =>
  obtain⟨σ',H',J,q⟩:=hs
  exact fin (v:=V.non) (u:=Value.none) J rfl q
 | brk =>
  obtain⟨_,_,_,q⟩:=hs
  exact False.elim q
 | cont =>
  obtain⟨_,_,_,q⟩:=hs
  exact False.elim q
end L2
namespace L2
open PySem PySem.Spec PyProof.Rows
section
variable{X:Cx}{x:Str}{p pos:Pos}{e:Expr}{es:List Expr}{t:TA}{id T:String}{r:List V→Hp→VK→Prop}
def ZX(r:List V→Hp→VK→Prop)(t:TA):TE:=fun σ H Q=>t σ H fun vs H1=>r vs H1 Q
theorem bN(hc:jQ X (.builtin id) r)(hg:Gl X x)(hm:X.mg x=none)(hv:bootBuiltins x=some (.builtin id))(ha:PA X (e::es) t)(hn:x ≠ "__name__" := by decide)(hdb:(x == ("__debug__" : Str))=false:=by decide)
 (he:starEach (e::es) X.env=(false,eval e X.env)::starEach es X.env:=by rfl) (hpl:(backTo pos (starEach es X.env)).any (·.1)=false:=by rfl):PE X (.Call (.Name x p) (e::es) [] pos) (ZX r t):=by
 intro pins s σ H Q I h
 refine wpAny_Call_Name_kw (yN I hg hm hv ?_ hn hdb)
 exact PyProof.Rows.callWith_builtin1 (gW (ha pos pins s σ H _ I h) fun us s1 ⟨vs,H1,I1,r1,q1⟩=>hc pins s1 σ H1 vs us Q I1 r1 q1) he hpl
theorem fB(hc:jQ X (.type T) r)(hg:Gl X x)(hm:X.mg x=none)(hv:bootBuiltins x=some (.type T))(ha:PA X (e::es) t)(hn:x ≠ "__name__" := by decide)(hdb:(x == ("__debug__" : Str))=false:=by decide)
 (he:starEach (e::es) X.env=(false,eval e X.env)::starEach es X.env:=by rfl) (hpl:(backTo pos (starEach es X.env)).any (·.1)=false:=by rfl):PE X (.Call (.Name x p) (e::es) [] pos) (ZX r t):=by
 intro pins s σ H Q I h
 refine wpAny_Call_Name_kw (yN I hg hm hv ?_ hn hdb)
 exact PyProof.Rows.callWith_type1 (gW (ha pos pins s σ H _ I h) fun us s1 ⟨vs,H1,I1,r1,q1⟩=>hc pins s1 σ H1 vs us Q I1 r1 q1) he hpl
end
end L2
namespace HT
open PySem PyProof.Rows
section
variable{prog:Program}{w:World}{A:Around}{E:Value→Shared→Prop}{s:Shared}
def v8(n d:Nat):Option Int→Nat
 | none=>d
 | some v=>if v < 0 then (v+(n:Int)).toNat else min v.toNat n
theorem Vg(n d:Nat)(hd:d≤n)(o:Option Int):v8 n d o≤n:=by
 cases o with
 | none=>exact hd
 | some v =>
  show (if v < 0 then (v+(n:Int)).toNat else min v.toNat n)≤n
  by_cases hv:v < 0
  ·rw[if_pos hv];omega
  ·rw[if_neg hv];exact Nat.min_le_right _ _
end
end HT
namespace L2
open PySem PySem.Spec PyProof.Rows
abbrev TO:=St→Hp→(Option Int→Hp→Prop)→Prop
def PO(X:Cx)(e:Option Expr)(t:TO):Prop :=
 ∀ (pins:List (Addr×Obj)) (s:Shared) (σ : St) (H:Hp) (Q:Option Int→Hp→Prop),Inv X pins σ H s→t σ H Q →
  wpAny (model X.prog X.w) X.A (evalPart e X.env) (fun u s'=>∃ o H',Inv X pins σ H' s'∧IsPart u o∧Q o H') X.xe s
def Qo:TO:=fun _ H Q=>Q none H
def ZV(t:TE):TO:=fun σ H Q=>t σ H fun x H1=>∃ i,x=.int i∧Q (some i) H1
section
variable{X:Cx}{e:Expr}{te:TE}{lo hi:Option Expr}{tl th:TO}{pos p2:Pos}
theorem j5:PO X none Qo:=by
 intro pins s σ H Q I h
 rw[evalPart_none]
 exact wpAny_pure ⟨none,H,I,.none,h⟩
theorem j4(h:PE X e te):PO X (some e) (ZV te):=by
 intro pins s σ H Q I hw
 rw[evalPart_some]
 refine gW (h pins s σ H _ I hw) fun u s1 ⟨x,H1,I1,r1,q1⟩=>?_
 obtain⟨i,rfl,q⟩:=q1
 obtain⟨t,rfl⟩:=r1
 exact⟨some i,H1,I1,.int i t,q⟩
def XQ(X:Cx)(r:V→Option Int→Option Int→Hp→VK→Prop):Prop :=
 ∀ (pins:List (Addr×Obj)) (s:Shared) (σ : St) (H:Hp) (x:V) (v vl vu:Value) (lo hi:Option Int) (sl:Addr) (Q:VK),Inv X pins σ H s→RelV x v→s.heap.IsSliceOf sl vl vu .none→IsPart vl lo→IsPart vu hi→r x lo hi H Q →
  ∃ T id,typeLookup (.type T) "__getitem__" = pure (some (.builtin id))∧s.TypeIs v T∧wpAny (model X.prog X.w) X.A (getItem v (.ref sl)) (EP X pins σ Q) X.xe s
theorem XQ.or{r r':V→Option Int→Option Int→Hp→VK→Prop}(h:XQ X r)(h':XQ X r'):XQ X (fun x lo hi H Q=>r x lo hi H Q∨r' x lo hi H Q):=by
 intro pins s σ H x v vl vu lo hi sl Q I rx hs pl pu q
 rcases q with q|q
 ·exact h pins s σ H x v vl vu lo hi sl Q I rx hs pl pu q
 ·exact h' pins s σ H x v vl vu lo hi sl Q I rx hs pl pu q
def tSl(r:V→Option Int→Option Int→Hp→VK→Prop)(te:TE)(tl th:TO):TE:=fun σ H Q=>te σ H fun x H1=>tl σ H1 fun l H2=>th σ H2 fun u H3=>r x l u H3 Q
theorem iV{r:V→Option Int→Option Int→Hp→VK→Prop}(hr:XQ X r)(he:PE X e te)(hl:PO X lo tl)(hu:PO X hi th):PE X (.Subscript e (.Slice lo hi none p2) pos) (tSl r te tl th):=by
 intro pins s σ H Q I h
 refine Subscript_ (gW (he pins s σ H _ I h) fun v s1 ⟨x,H1,I1,r1,q1⟩=>?_)
 refine wpAny_Slice (gW (hl pins s1 σ H1 _ I1 q1) fun vl s2 ⟨l,H2,I2,pl,q2⟩=>gW (hu pins s2 σ H2 _ I2 q2) fun vu s3 ⟨u,H3,I3,pu,q3⟩=>?_)
 rw[evalPart_none]
 refine wpAny_pure ?_
 have I4:Inv X pins σ H3 { s3 with heap:=s3.heap.push { cls:=.type "slice", data:=.fields #[vl,vu,.none] } }:=I3.kept (t':=s3.toks) fun b ob q=>Heap.get?_push_of_some _ q
 obtain⟨T,id,hT,ht,hg⟩:=hr pins { s3 with heap:=s3.heap.push { cls:=.type "slice", data:=.fields #[vl,vu,.none] } } σ H3 x v vl vu l u s3.heap.objs.size Q I4 r1 (Heap.IsSliceOf.new ..) pl pu q3
 show wpAny (model X.prog X.w) X.A (subscriptTail e (.Slice lo hi none p2) v (.ref s3.heap.objs.size)) (EP X pins σ Q) X.xe { s3 with heap:=s3.heap.push { cls:=.type "slice", data:=.fields #[vl,vu,.none] } }
 exact tail_any (ops:=[.ref s3.heap.objs.size,v]) ht hT hg (by with_unfolding_all rfl)
def Tz(xs:List V)(lo hi:Option Int):List V:=(xs.drop (HT.v8 xs.length 0 lo)).take (HT.v8 xs.length xs.length hi - HT.v8 xs.length 0 lo)
theorem Mt(xs:List V)(lo hi:Option Int):(Tz xs lo hi).length≤xs.length:=by
 unfold Tz
 rw[List.length_take,List.length_drop]
 omega
end
end L2
namespace L2
open PySem PySem.Spec PyProof.Rows
def J0(n:Nat)(i:Int):Option Nat:=if 0≤i then (if i < n then some i.toNat else none) else if -(n:Int)≤i then some (i+n).toNat else none
def wB{α : Type}(xs:List α)(i:Int):Option α:=(J0 xs.length i).bind fun j=>xs[j]?
theorem YQ{n:Nat}{i:Int}{j:Nat}(h:J0 n i=some j):seqIndex? i n=some j∧j < n∧-(n:Int)≤i∧i < n:=by
 unfold J0 at h
 by_cases h0:0≤i
 ·rw[if_pos h0] at h
  by_cases h1:i < n
  ·rw[if_pos h1] at h
   have e:i.toNat=j:=Option.some.inj h
   exact⟨by rw[seqIndex_of h0 h1,e],by omega,by omega,h1⟩
  ·rw[if_neg h1] at h;cases h
 ·rw[if_neg h0] at h
  by_cases h1:-(n:Int)≤i
  ·rw[if_pos h1] at h
   have e:(i+n).toNat=j:=Option.some.inj h
   exact⟨by rw[seqIndex_neg (by omega) h1,e],by omega,h1,by omega⟩
  ·rw[if_neg h1] at h;cases h
theorem JK{α : Type}{xs:List α}{i:Int}{v:α}(h:wB xs i=some v):∃ j,seqIndex? i xs.length=some j∧xs[j]? = some v∧j < xs.length∧-(xs.length:Int)≤i∧i < xs.length:=by
 unfold wB at h
 cases e:J0 xs.length i with
 | none=>rw[e] at h;cases h
 | some j =>
  rw[e] at h
  obtain⟨h1,h2,h3,h4⟩:=YQ e
  exact⟨j,h1,h,h2,h3,h4⟩
def ZM(b:Expr):Prop:=∀ o i,subscripted b false o i=operate [o,i] (getItem o i)
def ZP(X:Cx)(r:R2):Prop :=
 ∀ (value slice:Expr) (pins:List (Addr×Obj)) (s:Shared) (σ : St) (H:Hp) (x y:V) (v u:Value) (Q:VK),Inv X pins σ H s→RelV x v→RelV y u→r x y H Q →
  subscripted slice false v u=operate [v,u] (getItem v u)→wpAny (model X.prog X.w) X.A (subscriptTail value slice v u) (EP X pins σ Q) X.xe s
def MtR(X:Cx)(id:String)(r:V→List V→Hp→VK→Prop):Prop :=
 ∀ (pins:List (Addr×Obj)) (s:Shared) (σ : St) (H:Hp) (x:V) (xs:List V) (v:Value) (us:List Value) (Q:VK),Inv X pins σ H s→RelV x v→Vals xs us→r x xs H Q →
  wpAny (model X.prog X.w) X.A (call (.builtin id) (v::us)) (EP X pins σ Q) X.xe s
section
variable{X:Cx}{a b:Expr}{ta tb:TE}{pos:Pos}
theorem ZP.or{r r':R2}(h:ZP X r)(h':ZP X r'):ZP X (fun x y H Q=>r x y H Q∨r' x y H Q):=by
 intro value slice pins s σ H x y v u Q I rx ry q hs
 rcases q with q|q
 ·exact h value slice pins s σ H x y v u Q I rx ry q hs
 ·exact h' value slice pins s σ H x y v u Q I rx ry q hs
theorem bR{r:R2}(hr:ZP X r)(ha:PE X a ta)(hb:PE X b tb)(hs:ZM b):PE X (.Subscript a b pos) (tOp r ta tb):=by
 intro pins s σ H Q I h
 exact Subscript_ (abX ha hb I h fun v u s2 x y H2 I2 rx ry q=>hr a b pins s2 σ H2 x y v u Q I2 rx ry q (hs _ _))
def acR(K:W.Frag):R2:=fun x y H Q=>∃ p xs i v,x=.ref p∧y=.int i∧Aw K H p xs∧wB xs i=some v∧Q v H
def acP(K:W.Frag):R2:=fun x y H Q=>∃ p xs i v,x=.ref p∧y=.int i∧Ab K H p xs∧wB xs i=some v∧Q v H
def acQ:R2:=fun x y H Q=>∃ z i c,x=.str z∧y=.int i∧z.length≤sizeLine∧wB z.cps.toList i=some c∧Q (.str ⟨#[c]⟩) H
theorem YM:ZP X (acR X.K):=by
 intro value slice pins s σ H x y v u Q I rx ry h hs
 obtain⟨p,xs,i,z,rfl,rfl,hq,he,q⟩:=h
 cases rx
 obtain⟨t,rfl⟩:=ry
 obtain⟨its,r,pl,hz⟩:=I.list hq
 obtain⟨j,h1,h2,h3,h4,h5⟩:=JK he
 obtain⟨w,ew,rw'⟩:=r.get h2
 have hl:=r.length
 have hn:=CZ
 have fin:EP X pins σ Q w s:=⟨z,H,I,rw',q⟩
 by_cases h0:0≤i
 ·have hj:i.toNat=j:=by
   rw[seqIndex_of h0 h5] at h1
   exact Option.some.inj h1
  exact item_listR pl.isList h0 (by omega) (by rw[hj];simpa using ew) fin hs
 ·have hj:(i+(its.toArray.size:Int)).toNat=j:=by
   rw[seqIndex_neg (by omega) h4] at h1
   rw[List.size_toArray,← hl]
   exact Option.some.inj h1
  exact subscriptTail_builtinR (x:=w) pl.isList.typeIs slot_list_getitem.lookup
   (wpAny_getItem_list_neg (Q:=fun r s'=>r=w∧EP X pins σ Q r s') pl.isList (by omega) (by rw[List.size_toArray]<;>omega) (by omega) (by rw[hj];simpa using ew) ⟨rfl,fin⟩) hs
theorem abF:ZP X (acP X.K):=by
 intro value slice pins s σ H x y v u Q I rx ry h hs
 obtain⟨p,xs,i,z,rfl,rfl,hq,he,q⟩:=h
 cases rx
 obtain⟨t,rfl⟩:=ry
 obtain⟨its,r,pl,hz⟩:=I.tuple hq
 obtain⟨j,h1,h2,h3,h4,h5⟩:=JK he
 obtain⟨w,ew,rw'⟩:=r.get h2
 have hl:=r.length
 have hn:=CZ
 have fin:EP X pins σ Q w s:=⟨z,H,I,rw',q⟩
 exact subscriptTail_builtinR (x:=w) pl.typeIs slot_tuple_getitem.lookup
  (getItem_tuple (j:=j) (Q:=fun r s'=>r=w∧EP X pins σ Q r s') pl (by omega) (by omega) (by rw[List.size_toArray,← hl];exact h1) (by simpa using ew) ⟨rfl,fin⟩) hs
theorem abG:ZP X acQ:=by
 intro value slice pins s σ H x y v u Q I rx ry h hs
 obtain⟨z,i,c,rfl,rfl,hz,he,q⟩:=h
 obtain⟨t,rfl⟩:=rx
 obtain⟨t',rfl⟩:=ry
 obtain⟨j,h1,h2,h3,h4,h5⟩:=JK he
 have hl:z.cps.toList.length=z.length:=by simp[Str.length]
 rw[hl] at h1 h4 h5
 have hn:=CZ
 exact tail_any (typeIs_str s z t) slot_str_getitem.lookup (getItem_str (c:=c) (by
  have e1:decide (i < -(2 ^ 63:Int))=false:=decide_eq_false (by omega)
  have e2:decide (i ≥ 2 ^ 63)=false:=decide_eq_false (by omega)
  rw[e1,e2,Bool.or_false]) (by rw[h1];simpa using h2) ⟨.str ⟨#[c]⟩,H,I.tok _,⟨_,rfl⟩,q⟩) hs
def rIx(K:W.Frag):R2:=fun x y H Q=>acR K x y H Q∨acP K x y H Q∨acQ x y H Q
theorem bx:ZP X (rIx X.K):=YM.or (abF.or abG)
theorem HD(lo hi:Option Int)(n:Nat):(sliceBounds lo hi none n).1=((HT.v8 n 0 lo:Nat):Int)∧(sliceBounds lo hi none n).2.1=((HT.v8 n n hi:Nat):Int)∧(sliceBounds lo hi none n).2.2=1:=by
 refine⟨?_,?_,rfl⟩
 ·cases lo with
  | none=>simp[sliceBounds,HT.v8]
  | some i =>
   simp only[sliceBounds,HT.v8,Option.getD_none,show (1:Int) > 0 by decide,if_true]
   by_cases h:i < 0
   ·simp only[h,if_true]<;>omega
   ·simp only[h,if_false]<;>omega
 ·cases hi with
  | none=>simp[sliceBounds,HT.v8]
  | some i =>
   simp only[sliceBounds,HT.v8,Option.getD_none,show (1:Int) > 0 by decide,if_true]
   by_cases h:i < 0
   ·simp only[h,if_true]<;>omega
   ·simp only[h,if_false]<;>omega
theorem Ff(its:List Value)(lo hi:Option Int):slicePick its.toArray lo hi none=((its.drop (HT.v8 its.length 0 lo)).take (HT.v8 its.length its.length hi - HT.v8 its.length 0 lo)).toArray:=by
 obtain⟨h1,h2,h3⟩:=HD lo hi its.toArray.size
 unfold slicePick
 rw[h1,h2,h3]
 simp only[sliceRange_one,pick_run,List.size_toArray]<;>rfl
def aaY(K:W.Frag):V→Option Int→Option Int→Hp→VK→Prop:=fun x lo hi H Q=>∃ a xs,x=.ref a∧Aw K H a xs∧∀ p,H p=none→Q (.ref p) (upd H p (.lst (Tz xs lo hi)))
theorem Qs:XQ X (aaY X.K):=by
 intro pins s σ H x v vl vu lo hi sl Q I rx hs pl pu h
 obtain⟨a,xs,rfl,hx,q⟩:=h
 cases rx
 obtain⟨its,r,ht,hz⟩:=I.list hx
 have hlen:=r.length
 refine⟨"list", _,slot_list_getitem.lookup,ht.isList.typeIs,?_⟩
 refine wpAny_getItem_list_slice ht.isList hs pl pu .none (by simp) ?_ (by rw[List.size_toArray]<;>omega)
 rw[Ff,← hlen]
 refine⟨.ref s.heap.objs.size,_,I.laid (t':=s.toks) (o:=.lst (Tz xs lo hi)) (fun b ob q=>Heap.get?_push_of_some _ q) (Nat.le_refl _) ?_,rfl,q _ (I.hok.fresh (Nat.le_refl _))⟩
 exact⟨Nat.le_trans (Mt xs lo hi) hz,_,0,(r.drop (HT.v8 xs.length 0 lo)).take (HT.v8 xs.length xs.length hi - HT.v8 xs.length 0 lo),Heap.get?_push_size _ rfl⟩
def Wx:V→Bool
 | .non=>true
 | .bl _=>true
 | .int _=>true
 | .str _=>true
 | _=>false
def eqV:V→V→Bool
 | .non,.non=>true
 | .bl a,.bl b=>a == b
 | .bl a,.int b=>(if a then 1 else 0) == b
 | .int a,.bl b=>a == (if b then 1 else 0)
 | .int a,.int b=>a == b
 | .str a,.str b=>a == b
 | _,_=>false
theorem abQ{A:Around}{s:Shared}{y x:V}{u v:Value}(ry:RelV y u)(rx:RelV x v)(fy:Wx y=true)(fx:Wx x=true):SeqAt.EqAt A s u v (eqV y x):=by
 cases y with
 | non =>
  cases ry
  cases x with
  | non=>cases rx;exact SeqAt.EqAt.same _
  | bl b=>cases rx;exact SeqAt.EqAt.none_bool b
  | int b=>obtain⟨t,rfl⟩:=rx;exact SeqAt.EqAt.none_int b t
  | str b=>obtain⟨t,rfl⟩:=rx;exact SeqAt.EqAt.none_str b t
  | _=>exact absurd (show false=true from fx) Bool.false_ne_true
 | bl a =>
  cases ry
  cases x with
  | non=>cases rx;exact SeqAt.EqAt.bool_none a
  | bl b=>cases rx;exact SeqAt.EqAt.bool_bool a b
  | int b=>obtain⟨t,rfl⟩:=rx;exact SeqAt.EqAt.bool_int a b t
  | str b=>obtain⟨t,rfl⟩:=rx;exact SeqAt.EqAt.bool_str a b t
  | _=>exact absurd (show false=true from fx) Bool.false_ne_true
 | int a =>
  obtain⟨t',rfl⟩:=ry
  cases x with
  | non=>cases rx;exact SeqAt.EqAt.int_none a t'
  | bl b=>cases rx;exact SeqAt.EqAt.int_bool a t' b
  | int b=>obtain⟨t,rfl⟩:=rx;exact SeqAt.EqAt.int_int a t' b t
  | str b=>obtain⟨t,rfl⟩:=rx;exact SeqAt.EqAt.int_str a t' b t
  | _=>exact absurd (show false=true from fx) Bool.false_ne_true
 | str a =>
  obtain⟨t',rfl⟩:=ry
  cases x with
  | non=>cases rx;exact SeqAt.EqAt.str_none a t'
  | bl b=>cases rx;exact SeqAt.EqAt.str_bool a t' b
  | int b=>obtain⟨t,rfl⟩:=rx;exact SeqAt.EqAt.str_int a t' b t
  | str b=>obtain⟨t,rfl⟩:=rx;exact SeqAt.EqAt.str_str a t' b t
  | _=>exact absurd (show false=true from fx) Bool.false_ne_true
 | _=>exact absurd (show false=true from fy) Bool.false_ne_true
theorem JC:jQ X (.type "list") (fun xs H Q=>∃ p ys,xs=[.ref p]∧(Aw X.K H p ys∨Ab X.K H p ys)∧∀ l,H l=none→Q (.ref l) (upd H l (.lst ys))):=by
 intro pins s σ H xs us Q I r h
 obtain⟨p,ys,rfl,hq,q⟩:=h
 obtain⟨u,rfl,rx⟩:=vals1 r
 cases rx
 have fin:∀ (its:List Value),Vals ys its→ys.length≤sizeLine→∀ (h':Heap) (c':Nat),(∀ b o',s.heap.get? b=some o'→h'.get? b=some o') →
  h'.get? s.heap.objs.size=some { cls:=.type "list", dict:=none,data:=.seq its.toArray c',slots:=#[] }→EP X pins σ Q (.ref s.heap.objs.size) { s with heap:=h' }:=fun its r' hz h' c' kp e =>
  ⟨.ref s.heap.objs.size,_,I.laid (t':=s.toks) kp (Nat.le_refl _) (show dZ X.prog X.w _ h' _ (.lst ys) from ⟨hz,its,c',r',e⟩),rfl,q _ (I.hok.fresh (Nat.le_refl _))⟩
 rcases hq with hq|hq
 ·obtain⟨its,r',pl,hz⟩:=I.list hq
  have hlen:=r'.length
  obtain⟨o,ho,hc,n,hd⟩:=pl.isList
  exact call_list_seq p (.inl rfl) ho hc hd (fun h' c' kp e=>fin its r' hz h' c' kp e) (by simp only[List.size_toArray]<;>omega)
 ·obtain⟨its,r',pl,hz⟩:=I.tuple hq
  have hlen:=r'.length
  obtain⟨o,ho,hc,n,hd⟩:=pl
  exact call_list_seq p (.inr rfl) ho hc hd (fun h' c' kp e=>fin its r' hz h' c' kp e) (by simp only[List.size_toArray]<;>omega)
theorem Fj:jQ X (.type "tuple") (fun xs H Q=>∃ p ys,xs=[.ref p]∧((Aw X.K H p ys∧∀ l,H l=none→Q (.ref l) (upd H l (.tup ys)))∨(Ab X.K H p ys∧Q (.ref p) H))):=by
 intro pins s σ H xs us Q I r h
 obtain⟨p,ys,rfl,h⟩:=h
 obtain⟨u,rfl,rx⟩:=vals1 r
 cases rx
 rcases h with ⟨hq,q⟩|⟨hq,q⟩
 ·obtain⟨its,r',pl,hz⟩:=I.list hq
  have hlen:=r'.length
  refine call_tuple_list pl.isList (fun h' kp=>?_) (by simp only[List.size_toArray]<;>omega)
  have I1:Inv X pins σ H { s with heap:=h' }:=I.kept (t':=s.toks) kp
  have I2:Inv X pins σ (upd H h'.objs.size (.tup ys)) { s with heap:=h'.push { cls:=.type "tuple", data:=.seq its.toArray } } :=
   I1.laid (t':=s.toks) (fun b o e=>Heap.get?_push_of_some _ e) (Nat.le_refl _) (show dZ X.prog X.w _ _ _ (.tup ys) from ⟨hz,its,r',Ud.new _ _⟩)
  exact⟨.ref h'.objs.size,_,I2,rfl,q _ (I1.hok.fresh (Nat.le_refl _))⟩
 ·obtain⟨its,r',pl,hz⟩:=I.tuple hq
  exact call_tuple_same pl ⟨.ref p,H,I,rfl,q⟩
def tyV(K:W.Frag)(T:String)(x:V)(H:Hp):Prop:=match x with
 | .str _=>T = "str"
 | .int _=>T = "int"
 | .ref p=>(T = "list" ∧ ∃ xs,Aw K H p xs)∨(T = "tuple" ∧ ∃ o,K.lookup p=some o∧o.cls=.type "tuple" ∧ o.dict=none) ∨
  (T = "dict" ∧ ((∃ kvs,H p=some (.dK kvs))∨∃ kvs,H p=some (.dT kvs)))∨(T = "set" ∧ ∃ S n,H p=some (.set S n))
 | _=>False
theorem Uv{pins:List (Addr×Obj)}{σ : St}{H:Hp}{s:Shared}{T:String}{x:V}{v:Value}(I:Inv X pins σ H s)(r:RelV x v)(ty:tyV X.K T x H) :
 s.TypeIs v T∧∀ a,v=.ref a→∃ ob,s.heap.get? a=some ob∧ob.dict=none:=by
 cases x with
 | str z =>
  obtain⟨t,rfl⟩:=r
  cases (show T = "str" from ty)
  exact⟨typeIs_str s z t,fun _ e=>nomatch e⟩
 | int i =>
  obtain⟨t,rfl⟩:=r
  cases (show T = "int" from ty)
  exact⟨typeIs_int s i t,fun _ e=>nomatch e⟩
 | ref p =>
  cases r
  rcases ty with ⟨rfl,xs,hq⟩|⟨rfl,o,hk,hc,hd⟩|⟨rfl,hk⟩|⟨rfl,S,n,hk⟩
  ·obtain⟨its,_,pl,_⟩:=I.list hq
   refine⟨pl.isList.typeIs,fun a e=>?_⟩
   cases e
   obtain⟨o,n,e,c,hd,_⟩:=pl
   exact⟨o,e,hd⟩
  ·refine⟨⟨o,I.Bg p o hk,hc⟩,fun a e=>?_⟩
   cases e
   exact⟨o,I.Bg _ o hk,hd⟩
  ·have z:∃ o,s.heap.get? p=some o∧o.ExactDict:=by
    rcases hk with ⟨kvs,hk⟩|⟨kvs,hk⟩
    ·obtain⟨_,_,_,_,o,_,_,e,ex,_⟩:=I.hok p _ hk
     exact⟨o,e,ex⟩
    ·obtain⟨_,_,_,_,o,_,_,e,ex,_⟩:=I.hok p _ hk
     exact⟨o,e,ex⟩
   obtain⟨o,e,ex⟩:=z
   refine⟨⟨o,e,ex.1⟩,fun a e2=>?_⟩
   cases e2
   exact⟨o,e,ex.2.1⟩
  ·obtain⟨o,_,_,_,e,ex,_⟩:=I.hok p _ hk
   refine⟨⟨o,e,ex.1⟩,fun a e2=>?_⟩
   cases e2
   exact⟨o,e,ex.2.1⟩
 | _=>exact False.elim ty
def tBM(K:W.Frag)(T:String)(r:V→List V→Hp→VK→Prop)(to:TE)(t:TA):TE:=fun σ H Q=>to σ H fun x H1=>tyV K T x H1∧t σ H1 fun xs H2=>r x xs H2 Q
variable{o e:Expr}{es:List Expr}{to:TE}{t:TA}{name:Str}{apos cpos:Pos}{T id:String}{r:V→List V→Hp→VK→Prop}
theorem lU(pa:PlainAttrs T)(slot:Slot T name id)(hty:typeOf (.builtin id)=pure (.type "method_descriptor"))(hm:MtR X id r)(ho:PE X o to)(ha:PA X (e::es) t)
 (hbase:attributeBase o name X.env (eval o X.env)=eval o X.env:=by rfl)
 (hfew:((backTo cpos (starEach (e::es) X.env)).all (fun x=>!x.1) && (backToKw cpos (keywordEach [] X.env)).all (fun x=>x.1.isSome)
  && decide ((e::es).length+([]:List Keyword).length+(if ([]:List Keyword).isEmpty then 0 else 1) < 30))=true:=by rfl)
 (hline:(apos.endLine == cpos.line)=true:=by rfl) (hs:starEach (e::es) X.env=(false,eval e X.env)::starEach es X.env:=by rfl) (hplain:(backTo cpos (starEach es X.env)).any (·.1)=false:=by rfl) :
 PE X (.Call (.Attribute o name apos) (e::es) [] cpos) (tBM X.K T r to t):=by
 intro pins s σ H Q I h
 refine wpAny_Call_method_late hbase hfew hline rfl (gW (ho pins s σ H _ I h) fun v s1 ⟨x,H1,I1,r1,ty,q1⟩=>?_)
 obtain⟨h1,h2⟩:=Uv I1 r1 ty
 refine⟨T,id,pa,slot,hty,h1,h2,?_⟩
 have hA:=ha cpos pins s1 σ H1 _ I1 q1
 rw[hs] at hA ⊢
 refine Calls.callWith_builtin (by show (false || (backTo cpos (starEach es X.env)).any (·.1))=false;rw[hplain]<;>rfl) (Calls.evalArgs_plain ?_)
 exact gW hA fun us s2 ⟨vs,H2,I2,r2,q2⟩=>hm pins s2 σ H2 x vs v us Q I2 r1 r2 q2
end
end L2
namespace L2
open PySem PySem.Spec PyProof.Rows
def MtM(X:Cx)(id:String)(r:V→List V→Hp→VK→Prop):Prop :=
 ∀ (pins:List (Addr×Obj)) (s:Shared) (σ : St) (H:Hp) (x:V) (xs:List V) (v:Value) (us:List Value) (Q:VK),Inv X pins σ H s→RelV x v→Vals xs us→r x xs H Q →
  wpAny (model X.prog X.w) X.A (call (.builtin id) (v::us)) (EP X pins σ Q) X.xe s
theorem Vals.one:∀ {x:V} {us:List Value},Vals [x] us→∃ u,us=[u]∧RelV x u
 | _,_,.cons r .nil=>⟨_,rfl,r⟩
theorem Vals.eraseIdx:∀ {xs:List V} {us:List Value} (i:Nat),Vals xs us→Vals (xs.eraseIdx i) (us.eraseIdx i)
 | _,_,_,.nil=>.nil
 | _,_,0,.cons _ t=>t
 | _,_,i+1,.cons r t=>.cons r (Vals.eraseIdx i t)
theorem Ge{α : Type}:∀ (l:List α) (i:Nat),(l.eraseIdx i).length≤l.length
 | [],_=>Nat.le_refl _
 | _::_,0=>Nat.le_succ _
 | _::r,i+1=>Nat.succ_le_succ (Ge r i)
section
variable{X:Cx}{pins:List (Addr×Obj)}{σ : St}{H:Hp}{s:Shared}{l b:Addr}{xs ys zs:List V}
theorem Inv.abu{its its':List Value}{n:Nat}{f:Array Value→Array Value}{t':Nat}(I:Inv X pins σ H s)(hH:H l=some (.lst xs))
 (e:s.heap.get? l=some { cls:=.type "list", data:=.seq its.toArray n }) (hf:f its.toArray=its'.toArray) (hv:Vals ys its') (hz:ys.length≤sizeLine) :
 Inv X pins σ (upd H l (.lst ys)) { s with heap:=s.heap.update l (Obj.mapSeq f),toks:=t' }:=by
 have q:=PySem.IsL.update e f
 rw[hf] at q
 refine I.write (x:=l) (e:=l) (by rw[hH];exact trivial) (.inl rfl) (fun b' u hb hu=>(Heap.get?_update_other s.heap (Obj.mapSeq f) (Ne.symm hb)).trans hu) ⟨_,q⟩ ?_
 exact⟨hz,its',_,hv,q⟩
theorem Inv.aew{its:List Value}{t':Nat}(I:Inv X pins σ H s)(hv:Vals ys its)(hz:ys.length≤sizeLine) :
 Inv X pins σ (upd H s.heap.objs.size (.lst ys)) { s with heap:=s.heap.push { cls:=.type "list", data:=.seq its.toArray },toks:=t' } :=
 I.laid (fun _ _ q=>Heap.get?_push_of_some _ q) (Nat.le_refl _) ⟨hz,its,0,hv,Heap.get?_push_size _ rfl⟩
theorem Inv.fresh(I:Inv X pins σ H s):H s.heap.objs.size=none:=I.hok.fresh (Nat.le_refl _)
theorem Inv.abt(I:Inv X pins σ H s)(hH:H l=some (.lst xs)):xs.length≤sizeLine∧∃ (its:List Value) (n:Nat),Vals xs its∧xs.length=its.length∧s.heap.get? l=some { cls:=.type "list", data:=.seq its.toArray n }:=by
 obtain⟨z,its,n,r,e⟩:=I.hok l _ hH
 exact⟨z,its,n,r,r.length,e⟩
theorem V3{n:Nat}(h:n≤sizeLine):Builtin.List.listTooLong n=false:=by
 unfold Builtin.List.listTooLong
 exact decide_eq_false (by omega)
end
section
variable{X:Cx}
def HQ:V→List V→Hp→VK→Prop:=fun x vs H Q=>∃ l xs y,x=.ref l∧vs=[y]∧H l=some (.lst xs)∧xs.length < sizeLine∧Q .non (upd H l (.lst (xs++[y])))
theorem fX:MtM X "list.append" HQ:=by
 intro pins s σ H x vs v us Q I rx rv h
 obtain⟨l,xs,y,rfl,rfl,hH,hz,q⟩:=h
 cases rx
 obtain⟨u,rfl,ru⟩:=rv.one
 obtain⟨z,its,n,r,hl,e⟩:=I.abt hH
 refine call_meets F.slot_list_append ⟨_,e,rfl⟩ F.entry_list_append (F.args_list_append_2 _ _) (PySem.list_append l its.toArray n u (by rw[List.size_toArray];omega)) ⟨e,?_⟩
 refine⟨.non,_,I.abu (its':=its++[u]) hH e (by simp) (r.append (.cons ru .nil)) ?_,rfl,q⟩
 rw[List.length_append,List.length_singleton]
 omega
def Vn:V→List V→Hp→VK→Prop:=fun x vs H Q=>∃ l xs i k y,x=.ref l∧vs=[.int i]∧H l=some (.lst xs)∧-(2 ^ 63)≤i∧i < 2 ^ 63∧seqIndex? i xs.length=some k∧xs[k]? = some y∧Q y (upd H l (.lst (xs.eraseIdx k)))
theorem V6:MtM X "list.pop" Vn:=by
 intro pins s σ H x vs v us Q I rx rv h
 obtain⟨l,xs,i,k,y,rfl,rfl,hH,h1,h2,hk,hy,q⟩:=h
 cases rx
 obtain⟨u,rfl,ru⟩:=rv.one
 obtain⟨t,rfl⟩:=ru
 obtain⟨z,its,n,r,hl,e⟩:=I.abt hH
 obtain⟨w,hw,rw'⟩:=r.get hy
 refine call_meets F.slot_list_pop ⟨_,e,rfl⟩ F.entry_list_pop (F.args_list_pop_2 _ _)
  (MeetsSeq.list_pop_at l its.toArray n i t k w (fitsIndex_both h1 h2) (by rw[List.size_toArray,← hl];exact hk) (by rw[← Array.getElem?_toList];exact hw) (by rw[List.size_toArray];omega)) ⟨e,?_⟩
 refine⟨y,_,I.abu (its':=its.eraseIdx k) hH e ?_ (r.eraseIdx k) ?_,rw',q⟩
 ·show its.toArray.eraseIdxIfInBounds k=(its.eraseIdx k).toArray
  rw[List.eraseIdxIfInBounds_toArray]
 ·have:=Ge xs k
  omega
end
end L2
namespace L2
open PySem PySem.Spec PyProof.Rows
section
variable{κ : Type}[DecidableEq κ]
def vR(kvs:List (κ×V))(k:κ):Option V:=(kvs.find? fun kv=>decide (kv.1=k)).map (·.2)
def putK(kvs:List (κ×V))(k:κ)(v:V):List (κ×V) :=
 if (kvs.any fun kv=>decide (kv.1=k))=true then kvs.map (fun kv=>if kv.1=k then (kv.1,v) else kv) else kvs++[(k,v)]
theorem Bw{p:κ×V}{r:List (κ×V)}{k:κ}(e:p.1=k):vR (p::r) k=some p.2:=by simp[vR,List.find?_cons,e]
theorem Bx{p:κ×V}{r:List (κ×V)}{k:κ}(e:¬ p.1=k):vR (p::r) k=vR r k:=by simp[vR,List.find?_cons,e]
theorem Kc(k:κ):∀ kvs:List (κ×V),(kvs.any fun kv=>decide (kv.1=k))=(vR kvs k).isSome
 | []=>rfl
 | p::r=>by
  rw[List.any_cons]
  by_cases e:p.1=k
  ·simp only[Bw e,decide_eq_true e,Bool.true_or,Option.isSome_some]
  ·rw[Bx e,decide_eq_false e,Bool.false_or];exact Kc k r
theorem zM(kvs:List (κ×V))(k:κ)(v:V):(putK kvs k v).length≤kvs.length+1:=by
 unfold putK
 split
 ·rw[List.length_map];omega
 ·rw[List.length_append,List.length_cons,List.length_nil];omega
theorem Qg.yO{o:Option V}{u:Option Value}(r:Qg o u):o.isSome=u.isSome:=by
 cases o with
 | none=>cases u with
  | none=>rfl
  | some _=>exact(show False from r).elim
 | some _=>cases u with
  | none=>exact(show False from r).elim
  | some _=>rfl
theorem KV.val{kvs:List (κ×V)}{vs:List (κ×Value)}(r:KV kvs vs)(k:κ):Qg (vR kvs k) (valueAt vs k):=by
 unfold KV at r
 induction r with
 | nil=>exact True.intro
 | @cons p q ps qs h t ih =>
  obtain⟨h1,h2⟩:=h
  by_cases e:p.1=k
  ·have e':q.1=k:=h1.symm.trans e
   have b:valueAt (q::qs) k=some q.2:=by simp[valueAt,List.find?_cons,e']
   rw[Bw e,b];exact h2
  ·have e':¬ q.1=k:=fun z=>e (h1.trans z)
   have b:valueAt (q::qs) k=valueAt qs k:=by simp[valueAt,List.find?_cons,e']
   rw[Bx e,b];exact ih
theorem KV.any{kvs:List (κ×V)}{vs:List (κ×Value)}(r:KV kvs vs)(k:κ):(kvs.any fun kv=>decide (kv.1=k))=vs.any fun kv=>decide (kv.1=k):=by
 unfold KV at r
 induction r with
 | nil=>rfl
 | cons h t ih=>rw[List.any_cons,List.any_cons,ih,h.1]
theorem KV.repl{kvs:List (κ×V)}{vs:List (κ×Value)}(r:KV kvs vs)(k:κ){y:V}{u:Value}(ry:RelV y u) :
 KV (kvs.map fun kv=>if kv.1=k then (kv.1,y) else kv) (vs.map fun kv=>if kv.1=k then (kv.1,u) else kv):=by
 unfold KV at r ⊢
 induction r with
 | nil=>exact .nil
 | @cons p q ps qs h t ih =>
  rw[List.map_cons,List.map_cons]
  refine .cons ?_ ih
  obtain⟨h1,h2⟩:=h
  by_cases e:p.1=k
  ·rw[if_pos e,if_pos (h1.symm.trans e)];exact⟨h1,ry⟩
  ·rw[if_neg e,if_neg (fun z=>e (h1.trans z))];exact⟨h1,h2⟩
theorem KV.put{kvs:List (κ×V)}{vs:List (κ×Value)}(r:KV kvs vs)(k:κ){y:V}{u:Value}(ry:RelV y u):KV (putK kvs k y) (stored vs k u):=by
 unfold putK stored
 rw[r.any k]
 by_cases e:(vs.any fun kv=>decide (kv.1=k))=true
 ·rw[if_pos e,if_pos e];exact r.repl k ry
 ·rw[if_neg e,if_neg e];exact Paired.snoc r ⟨rfl,ry⟩
theorem KV.length{kvs:List (κ×V)}{vs:List (κ×Value)}(r:KV kvs vs):kvs.length=vs.length:=Paired.length r
end
theorem Wj{P:Program}{w:World}{k:Key}{u:Value}(r:RelV (kV k) u):(jq P w).is k u=true:=by
 cases k with
 | inl i=>obtain⟨t,e⟩:=(show ∃ t,u=Value.int i t from r);subst e;exact Ln P w i t
 | inr x=>obtain⟨t,e⟩:=(show ∃ t,u=Value.str x t from r);subst e;exact Lj P w x t
theorem Gi{P:Program}{w:World}:∀ {ks:List Key} {us:List Value},Vals (ks.map kV) us→ItemsAre (jq P w) ks us
 | [],_,r=>by rw[List.map_nil] at r;cases r;exact .nil
 | k::ks,_,r=>by
  rw[List.map_cons] at r
  cases r with
  | cons h t=>exact .cons (Wj h) (Gi t)
abbrev KT(H:Hp):List (List Key×V)→List (List Key×Addr×Value)→Prop:=Paired fun p q=>p.1=q.1∧H q.2.1=some (.tup (p.1.map kV))∧RelV p.2 q.2.2
theorem KT.val{H:Hp}{kvs:List (List Key×V)}{xs:List (List Key×Addr×Value)}(r:KT H kvs xs)(k:List Key):Qg (vR kvs k) ((atKey xs k).map (·.2)):=by
 induction r with
 | nil=>exact True.intro
 | @cons p q ps qs h t ih =>
  obtain⟨h1,_,h2⟩:=h
  by_cases e:p.1=k
  ·have e':q.1=k:=h1.symm.trans e
   have b:atKey (q::qs) k=some q.2:=by simp[atKey,List.find?_cons,e']
   rw[Bw e,b];exact h2
  ·have e':¬ q.1=k:=fun z=>e (h1.trans z)
   have b:atKey (q::qs) k=atKey qs k:=by simp[atKey,List.find?_cons,e']
   rw[Bx e,b];exact ih
theorem KT.repl{H:Hp}{kvs:List (List Key×V)}{xs:List (List Key×Addr×Value)}(r:KT H kvs xs)(k:List Key){y:V}{u:Value}(ry:RelV y u) :
 KT H (kvs.map fun kv=>if kv.1=k then (kv.1,y) else kv) (xs.map (putAt k u)):=by
 induction r with
 | nil=>exact .nil
 | @cons p q ps qs h t ih =>
  rw[List.map_cons,List.map_cons]
  refine .cons ?_ ih
  obtain⟨h1,h2,h3⟩:=h
  unfold putAt
  by_cases e:p.1=k
  ·rw[if_pos e,if_pos (h1.symm.trans e)];exact⟨h1,h2,ry⟩
  ·rw[if_neg e,if_neg (fun z=>e (h1.trans z))];exact⟨h1,h2,h3⟩
theorem KT.put{H:Hp}{kvs:List (List Key×V)}{xs:List (List Key×Addr×Value)}(r:KT H kvs xs)(k:List Key){b:Addr}{y:V}{u:Value}(hb:H b=some (.tup (k.map kV)))(ry:RelV y u) :
 KT H (putK kvs k y) (storedH xs k b u):=by
 have e:(kvs.any fun kv=>decide (kv.1=k))=(atKey xs k).isSome:=by
  rw[Kc,(r.val k).yO,Option.isSome_map]
 unfold putK storedH
 rw[e]
 by_cases q:(atKey xs k).isSome=true
 ·rw[if_pos q,if_pos q];exact r.repl k ry
 ·rw[if_neg q,if_neg q];exact Paired.snoc r ⟨rfl,hb,ry⟩
theorem KT.keeps{H H':Hp}{kvs:List (List Key×V)}{xs:List (List Key×Addr×Value)}(r:KT H kvs xs)(ht:∀ b ys,H b=some (.tup ys)→H' b=some (.tup ys)):KT H' kvs xs :=
 Paired.abq r fun _ _ z=>⟨z.1,ht _ _ z.2.1,z.2.2⟩
section
variable{P:Program}{w:World}{H:Hp}{h:Heap}{a:Addr}
theorem Z0{u:HO}(ok:rN P w H h)(e:Rd H a u):dZ P w H h a u:=e.ok ok
theorem aaj{kvs:List (Key×V)}(ok:rN P w H h)(e:Rd H a (.dK kvs)):kvs.length≤sizeLine∧(a == sysModules)=false∧∃ vs,KV kvs vs∧h.DictOf (jq P w) a vs :=
 show dZ P w H h a (.dK kvs) from Z0 ok e
theorem adF{kvs:List (Key×V)}(ok:rN P w H h)(e:H a=some (.dK kvs)):kvs.length≤sizeLine∧(a == sysModules)=false∧∃ vs,KV kvs vs∧h.DictOf (jq P w) a vs:=aaj ok (.inl e)
theorem Ph{ks:List Key}(ok:rN P w H h)(e:H a=some (.tup (ks.map kV))):(tupleKind (jq P w)).is h ks a:=by
 obtain⟨_,its,r,o,h1,h2,_,n,h3⟩:=(show dZ P w H h a (.tup (ks.map kV)) from ok a _ e)
 exact⟨o,its.toArray,n,h1,h2,h3,by simpa using Gi r⟩
theorem aah{kvs:List (List Key×V)}(ok:rN P w H h)(e:Rd H a (.dT kvs)):kvs.length≤sizeLine∧(a == sysModules)=false ∧
 ∃ xs,KT H kvs xs∧h.DictOfH (tupleKind (jq P w)) a xs:=by
 obtain⟨z,y,xs,r,o,es,ep,h1,h2,h3,h4,h5⟩:=(show dZ P w H h a (.dT kvs) from Z0 ok e)
 refine⟨z,y,xs,r,o,es,ep,h1,h2,h3,h4,fun x hx=>?_,h5⟩
 have all:∀ {l:List (List Key×V)} {m:List (List Key×Addr×Value)},KT H l m→∀ x∈m,(tupleKind (jq P w)).is h x.1 x.2.1:=by
  intro l m q
  induction q with
  | nil=>intro x hx;exact nomatch hx
  | @cons p q ps qs hq t ih =>
   intro x hx
   rcases List.mem_cons.mp hx with e|hx
   ·subst e
    exact Ph ok (by rw[← hq.1];exact hq.2.1)
   ·exact ih x hx
 exact all r x hx
theorem adE{kvs:List (List Key×V)}(ok:rN P w H h)(e:H a=some (.dT kvs)):kvs.length≤sizeLine∧(a == sysModules)=false ∧
 ∃ xs,KT H kvs xs∧h.DictOfH (tupleKind (jq P w)) a xs:=aah ok (.inl e)
end
def JX(H:Hp)(a:Addr)(y:V)(r:Option V):Prop :=
 (∃ kvs k,Rd H a (.dK kvs)∧y=kV k∧r=vR kvs k)∨∃ kvs k b,Rd H a (.dT kvs)∧y=.ref b∧H b=some (.tup (k.map kV))∧r=vR kvs k
def NK(H:Hp)(a:Addr)(y v:V)(H':Hp):Prop :=
 (∃ kvs k,H a=some (.dK kvs)∧y=kV k∧kvs.length < sizeLine∧H'=upd H a (.dK (putK kvs k v))) ∨
 ∃ kvs k b,H a=some (.dT kvs)∧y=.ref b∧H b=some (.tup (k.map kV))∧kvs.length < sizeLine∧H'=upd H a (.dT (putK kvs k v))
theorem JX.k{H:Hp}{a:Addr}{kvs:List (Key×V)}{k:Key}(e:H a=some (.dK kvs)):JX H a (kV k) (vR kvs k):=.inl ⟨kvs,k,.inl e,rfl,rfl⟩
theorem JX.t{H:Hp}{a b:Addr}{kvs:List (List Key×V)}{k:List Key}(e:H a=some (.dT kvs))(eb:H b=some (.tup (k.map kV))):JX H a (.ref b) (vR kvs k):=.inr ⟨kvs,k,b,.inl e,rfl,eb,rfl⟩
theorem NK.k{H:Hp}{a:Addr}{kvs:List (Key×V)}{k:Key}{v:V}(e:H a=some (.dK kvs))(hl:kvs.length < sizeLine):NK H a (kV k) v (upd H a (.dK (putK kvs k v))):=.inl ⟨kvs,k,e,rfl,hl,rfl⟩
theorem NK.t{H:Hp}{a b:Addr}{kvs:List (List Key×V)}{k:List Key}{v:V}(e:H a=some (.dT kvs))(eb:H b=some (.tup (k.map kV)))(hl:kvs.length < sizeLine) :
 NK H a (.ref b) v (upd H a (.dT (putK kvs k v))):=.inr ⟨kvs,k,b,e,rfl,eb,hl,rfl⟩
section
variable{X:Cx}{pins:List (Addr×Obj)}{σ : St}{H:Hp}{s:Shared}{a:Addr}{y v:V}{u r:Value}{o:Option V}{A:Around}{E:Value→Shared→Prop}
theorem Inv.big(I:Inv X pins σ H s):sysModules < s.heap.objs.size:=by
 have h:mainGlobals < s.heap.objs.size:=(I.mod.glob.keeps I.bk).lt
 exact Nat.lt_trans (by decide) h
theorem aeN{Q:Value→Shared→Prop}(hu:A.units+1 < cLine)(I:Inv X pins σ H s)(g:JX H a y o)(ry:RelV y u)(h:∀ s',Inv X pins σ H s'→Q (.bool o.isSome) s') :
 wpAny (model X.prog X.w) A (compareOp .In u (.ref a)) Q E s:=by
 rcases g with ⟨kvs,k,e,ey,l⟩|⟨kvs,k,b,e,ey,eb,l⟩
 ·subst ey
  obtain⟨z,hd,vs,rel,dd⟩:=aaj I.hok e
  refine wpAny_in_of (Wj ry) hd dd.mapOf ?_
  rw[← (rel.val k).yO,← l]
  exact h _ (I.tok _)
 ·subst ey
  cases (show u=Value.ref b from ry)
  obtain⟨z,hd,xs,rel,dd⟩:=aah I.hok e
  refine wpAny_in_heap (tupleKind_room_in1 hu) (Ph I.hok eb) hd dd ?_
  have q:=(rel.val k).yO
  rw[Option.isSome_map] at q
  rw[← q,← l]
  exact h _ (I.tok _)
theorem Ro{h':Heap}{t':Nat}{ob:HO}(I:Inv X pins σ H s)(mu:Mut (H a))(hs:Heap.SameBut a s.heap h')(he:∃ q,h'.get? a=some q)(new:dZ X.prog X.w (upd H a ob) h' a ob) :
 Inv X pins σ (upd H a ob) { s with heap:=h',toks:=t' } :=
 I.write (x:=a) (e:=a) mu (.inl rfl) (fun b q hb z=>(hs.2 b hb).trans z) he new
theorem abS{P:Program}{w:World}{H':Hp}{h':Heap}{kvs:List (Key×V)}{vs:List (Key×Value)}(z:kvs.length≤sizeLine)(hd:(a == sysModules)=false)(rel:KV kvs vs)(dd:h'.DictOf (jq P w) a vs) :
 dZ P w H' h' a (.dK kvs):=⟨z,hd,vs,rel,dd⟩
theorem Tt{H':Hp}{Q:Unit→Shared→Prop}(hu:A.units+1 < cLine)(I:Inv X pins σ H s)(g:NK H a y v H')(ry:RelV y u)(rv:RelV v r)(h:∀ s',Inv X pins σ H' s'→Q () s') :
 wpAny (model X.prog X.w) A (setItem (.ref a) u r) Q E s:=by
 rcases g with ⟨kvs,k,e,ey,l,eH⟩|⟨kvs,k,b,e,ey,eb,l,eH⟩
 ·subst ey eH
  obtain⟨z,hd,vs,rel,dd⟩:=adF I.hok e
  have hz:vs.length≤sizeLine:=by rw[← rel.length];exact z
  have hl:(putK kvs k v).length≤sizeLine:=by have:=zM kvs k v;omega
  refine wpAny_setItem_pairs (hsz:=hz) (Wj ry) dd fun h' dd' hs=>h _ ?_
  have he:∃ q,h'.get? a=some q:=let ⟨q,_,_,hq,_⟩:=dd';⟨q,hq⟩
  exact Ro I (by rw[e];exact True.intro) hs he (abS hl hd (rel.put k rv) dd')
 ·subst ey eH
  cases (show u=Value.ref b from ry)
  obtain⟨z,hd,xs,rel,dd⟩:=adE I.hok e
  have hz:xs.length≤sizeLine:=by rw[← Paired.length rel];exact z
  have hl:(putK kvs k v).length≤sizeLine:=by have:=zM kvs k v;omega
  refine wpAny_setItem_heap (hsz:=hz) (tupleKind_room_in1 hu) (Ph I.hok eb) dd fun h' dd' hs=>h _ ?_
  obtain⟨q,es,ep,hq,h2,h3,h4,_,h5⟩:=dd'
  refine Ro I (by rw[e];exact True.intro) hs ⟨q,hq⟩ ⟨hl,hd,_,(rel.put k eb rv).keeps fun c ys ec=>?_,q,es,ep,hq,h2,h3,h4,h5⟩
  rw[aN (ade ec e (fun z=>nomatch z))]
  exact ec
end
def acw(ty td:TE):TE:=fun σ H Q=>ty σ H fun y H1=>td σ H1 fun x H2=>∃ a o,x=.ref a∧JX H2 a y o∧Q (.bl o.isSome) H2
def pX(td ty tv:TE):TS:=fun D σ H=>tv σ H fun v H1=>td σ H1 fun x H2=>ty σ H2 fun y H3=>∃ a H4,x=.ref a∧NK H3 a y v H4∧D.nx σ H4
section
variable{X:Cx}{o i e value:Expr}{pos pos' tpos:Pos}{td ty tv:TE}
theorem VF(hu:X.A.units+1 < cLine)(hi:PE X i ty)(ho:PE X o td):PC X .In i o (acw ty td):=by
 intro pins s σ H Q I h
 refine gW (hi pins s σ H _ I h) fun iv s1 ⟨y,H1,I1,ry,q1⟩=>gW (ho pins s1 σ H1 _ I1 q1) fun u s2 ⟨x,H2,I2,rx,a,ov,ex,g,q2⟩=>?_
 subst ex
 obtain rfl:u=Value.ref a:=rx
 exact aeN hu I2 g ry fun s3 I3=>⟨.bl ov.isSome,H2,I3,rfl,q2⟩
theorem HR(hu:X.A.units+1 < cLine)(ho:PE X o td)(hi:PE X i ty)(hv:PE X value tv)(hs:swapsWith value (some (.Subscript o i pos')) pos.line X.env=pure false) :
 PS X (.Assign [.Subscript o i pos'] value pos) (pX td ty tv):=by
 intro pins s σ H D I h
 refine wpAny_Assign_Subscript (gW (hv pins s σ H _ I h) fun r s1 ⟨v,H1,I1,rv,q1⟩=>gW (ho pins s1 σ H1 _ I1 q1) fun u s2 ⟨x,H2,I2,rx,q2⟩=>gW (hi pins s2 σ H2 _ I2 q2) fun iv s3 ⟨y,H3,I3,ry,a,H4,ex,g,q3⟩=>?_) hs
 subst ex
 obtain rfl:u=Value.ref a:=rx
 exact Tt hu I3 g ry rv fun s4 I4=>⟨σ,H4,I4,q3⟩
end
theorem WR{P:Program}{w:World}{H:Hp}(h:Heap)(hb:sysModules < h.objs.size):dZ P w H (h.push { cls:=.type "dict", data:=.dict #[] }) h.objs.size (.dK []) :=
 ⟨Nat.zero_le _,beq_eq_false_iff_ne.mpr (Ne.symm (Nat.ne_of_lt hb)),[],.nil,Heap.DictOf.new h⟩
theorem WK{P:Program}{w:World}{H:Hp}(h:Heap)(hb:sysModules < h.objs.size):dZ P w H (h.push { cls:=.type "dict", data:=.dict #[] }) h.objs.size (.dT []) :=
 ⟨Nat.zero_le _,beq_eq_false_iff_ne.mpr (Ne.symm (Nat.ne_of_lt hb)),[],.nil,_,#[],0,Heap.get?_push_size _ rfl,⟨rfl,rfl,rfl⟩,rfl,rfl,List.nodup_nil⟩
def U3:TE:=fun _ H Q=>∀ p,H p=none→Q (.ref p) (upd H p (.dK []))
def U0:TE:=fun _ H Q=>∀ p,H p=none→Q (.ref p) (upd H p (.dT []))
section
variable{X:Cx}{pos:Pos}
theorem VB:PE X (.Dict [] [] pos) U3:=fun pins s σ H Q I h =>
 wpAny_Dict_empty ⟨.ref s.heap.objs.size,_,I.laid (a:=s.heap.objs.size) (o:=.dK []) (t':=s.toks) (fun _ _ q=>Heap.get?_push_of_some _ q) (Nat.le_refl _) (WR s.heap I.big),rfl,h _ (I.hok.fresh (Nat.le_refl _))⟩
theorem Vz:PE X (.Dict [] [] pos) U0:=fun pins s σ H Q I h =>
 wpAny_Dict_empty ⟨.ref s.heap.objs.size,_,I.laid (a:=s.heap.objs.size) (o:=.dT []) (t':=s.toks) (fun _ _ q=>Heap.get?_push_of_some _ q) (Nat.le_refl _) (WK s.heap I.big),rfl,h _ (I.hok.fresh (Nat.le_refl _))⟩
end
end L2
namespace Att
open PySem PySem.W PySem.Calls PyProof.Rows
theorem An{P:Params}{h:Heap}:∀ (ns:List Int) (vs:List Value),WellAll P h vs (ns.map WData.int)→IntsAre vs ns:=by
 intro ns
 induction ns with
 | nil =>
  intro vs w
  rw[List.map_nil] at w
  cases w
  exact .nil
 | cons n ns ih =>
  intro vs w
  rw[List.map_cons] at w
  cases w with
  | cons a b =>
   cases a
   exact .cons _ _ (ih _ b)
theorem R5{l:OpenLaw}{n:Nat}(hn:l.most=some n){P:Params}{h:Heap}{args:List WData}{vals:List Value}
 (hpre:l.row.toRowW.claim.pre args=true) (hwl:WellAll P h vals args) :
 ∃ a vs ns,vals=[Value.ref a]∧args=[WData.list (ns.map WData.int)]∧h.get? a=some { cls:=.type "list", data:=.seq vs.toArray }∧IntsAre vs ns∧ns.length≤n:=by
 have hsh:WShape.hasAll [] args [.list .int]=true:=(pre_splitW hpre).1
 have hc:l.pre.holds [] { args:=args }=true:=(pre_splitW hpre).2
 obtain⟨d,r,rfl,h1,h2⟩:=hasAllW_cons hsh
 obtain rfl:=hasAllW_nil h2
 obtain⟨xs,rfl,h3⟩:=hasW_list h1
 obtain⟨ns,rfl⟩:=items_int h3
 have hlen:ns.length≤n:=by
  unfold OpenLaw.pre at hc
  have h4:(WTm.not (.lt (.lit (.int (n:Int))) (.len (.arg 0)))).holds [] { args:=[.list (ns.map .int)] }=true:=by
   have h4:=(holds_andW hc).1
   rw[hn] at h4
   exact h4
  have h5:=condW_of h4 (w_not (w_lt w_lit (w_len_list (w_arg rfl))))
  rw[List.length_map] at h5
  refine Nat.le_of_not_lt fun q=>?_
  have q':(n:Int) < ((ns.length:Nat):Int):=by omega
  first
   | (rw[decide_eq_true q'] at h5;exact absurd h5 (by decide))
   | (simp at h5;omega)
 cases hwl with
 | cons w1 w2 =>
  cases w2
  cases w1 with
  | list ho hall=>exact⟨_,_,ns,rfl,rfl,ho,An ns _ hall,hlen⟩
theorem Sg(l:OpenLaw)(args:List WData):l.row.toRowW.claim.post args (.bool true) args=true :=
 postW_of (r:=l.row.toRowW) (X:=(true == true))
  (show WShape.has [] (.bool true) .bool=true by first|rfl|decide|simp[WShape.has,WShape.arms,WShape.armsAll])
  (show (WTm.eq .res (.lit (.bool true))).value [] { args:=args,res:=some (.bool true),after:=args }=some (.bool (true == true)) from w_eq_bool (w_res rfl) w_lit) rfl
theorem Nb{l:OpenLaw}{n:Nat}{q:Program}{loose:List Str}{XP:(Str→Option Value)→Heap→Prop}{YP:World→Heap→Prop}{d:DefRec}
 (hn:l.most=some n) (hdf:d.params.defaults=[])
 (call:∀ (w:World) (s₀ s₁:Shared) (mg mb:Str→Option Value) (fa:Addr) (o:Obj) (pm cd doc:Value) (a:Addr) (vs:List Value) (ns:List Int),
  Ground q loose [] XP w s₀ mg mb s₁.heap→YP w s₁.heap →
  s₁.heap.get? fa=some o→o.data=.func (docDef d.name d.params d.body d.scope pm cd doc)→s₁.heap.CodeRec cd d.name→mg d.name=some (.ref fa) →
  s₁.heap.get? a=some { cls:=.type "list", data:=.seq vs.toArray }→IntsAre vs ns→ns.length≤n→s₁.gens = #[] →
  codeAny (model l.prog w) callerA (.call (.ref fa) ⟨[.ref a],[]⟩) (fun r s'=>r=.ok (.ret (.bool true))∧OldK s₁.heap s'.heap∧s'.os=s₁.os∧AllBare s'.gens) s₁) :
 WalkO q loose XP YP l.row.toRowW d [] (fun f vs=>PySem.call f vs):=by
 intro w s₀ s₁ mg mb G Y fa o pm cd doc dV kV ho hd hcd hD hmg hg args vals as hpre hlay hrd hwl hlo
 obtain rfl:dV=.none:=Dflts.none hD hdf
 obtain rfl:kV=.none:=Dflts.noKw hD
 obtain⟨a,vs,ns,rfl,rfl,hobj,hints,hlen⟩:=R5 hn hpre hwl
 refine enter_call (codeAny_mono (call w s₀ s₁ mg mb fa o pm cd doc a vs ns G Y ho (fd_plain hd) hcd hmg hobj hints hlen hg) fun r s' hq=>?_)
 obtain⟨rfl,h2,h3,h4⟩:=hq
 exact⟨.inl ⟨.bool true,.bool true,[],rfl,fun _=>rfl,.bool true,Sg l _,fun _=>⟨List.Pairwise.nil,fun _ hm=>(nomatch hm)⟩⟩,h2,h3,h4⟩
end Att
namespace L2
open PySem PySem.Spec PyProof.Rows
theorem Fx:∀ {vs:List Value} {ns:List Int},IntsAre vs ns→Vals (ns.map V.int) vs
 | _,_,.nil=>.nil
 | _,_,.cons n t h=>.cons ⟨t,rfl⟩ (Fx h)
end L2
namespace L2
open PySem PySem.Spec PyProof.Rows
end L2
namespace L2
open PySem PySem.Spec PyProof.Rows
def oA(s:Stmt):Arguments:=match s with
 | .FunctionDef _ a _ _ _ _ _ _ _ _=>a
 | _=>{ posonlyargs:=[],args:=[],vararg:=none,kwonlyargs:=[],kw_defaults:=[],kwarg:=none,defaults:=[] }
def jL(s:Stmt):List Stmt:=match s with
 | .FunctionDef _ _ b _ _ _ _ _ _ _=>b
 | _=>[]
def aQ(s:Stmt):Scope:=match s with
 | .FunctionDef _ _ _ _ _ _ sc _ _ _=>sc
 | _=>{ kind:=.function,names:=[],isGenerator:=false,isCoroutine:=false }
abbrev cH:NQ:=fun _ _ _ _ _ _=>False
abbrev E0:XK:=fun _ _ _=>False
theorem bG{X:Cx}:Et cH X E0:=fun _ _ _ _ _ _ _ h=>h.elim
structure mX(K:W.Frag)(x qual:Str)(st:Stmt)(f:Addr)(fd:FuncData):Prop where
 ex:∃ (oc:Value) (od:Option Addr) (kV doc pm:Value) (an:Option Addr) (cdv ct:Value) (osl:Array (Option Value)),
  fd=W.fnOf x qual (oA st) (jL st) (aQ st) .none kV doc pm an cdv ct∧K.lookup f=some ⟨oc,od,.func fd,osl⟩∧W.codeIn K cdv qual=true
 kp:W.keepIn K (.ref f)=true
section
variable{P:Program}{w:World}{K:W.Frag}{mg:Str→Option Value}{base:Heap}
theorem mX.ok{x qual:Str}{st:Stmt}{f:Addr}{fd:FuncData}{N ps:List Str}{k:Nat}{sp:Sp}(F:mX K x qual st f fd)(S:bz N ps (aQ st))(len:∀ vs H Q E,sp vs H Q E→vs.length=ps.length)
 (hbody:∀ (cdv:Value) (A:Around) (outer:List Env) (s:Shared) (H:Hp) (vs:List V) (Q:VK) (E:XK),kW k (A.deeper (envOfC qual (aQ st) s.heap.objs.size f cdv))→sp vs H Q E →
  ∃ t,J5 (qu cH P w K mg base N qual (aQ st) f cdv A outer s H E).nox (jL st) t∧t { nx:=fun _ H'=>Q .non H',rt:=Q } (start N vs) H):dz P w K mg base cH (k+1) f fd ps sp:=by
 obtain⟨oc,od,kV,doc,pm,an,cdv,ct,osl,rfl,lk,hcd⟩:=F.ex
 refine Wv lk hcd S len fun A outer s H vs Q E hr hsp=>?_
 obtain⟨t,h,q⟩:=hbody cdv A outer s H vs Q E hr hsp
 exact⟨t,h.nox,q⟩
theorem mX.binds{x qual:Str}{st:Stmt}{f:Addr}{fd:FuncData}{ps:List Str}(F:mX K x qual st f fd)
 (h:∀ (kV doc pm:Value) (an:Option Addr) (cdv ct:Value) (us:List Value),us.length=ps.length→bindArgs (W.fnOf x qual (oA st) (jL st) (aQ st) .none kV doc pm an cdv ct) ⟨us,[]⟩=pure (ps.zip us)):Binds K fd ps []:=by
 obtain⟨oc,od,kV,doc,pm,an,cdv,ct,osl,rfl,lk,hcd⟩:=F.ex
 exact .all (h kV doc pm an cdv ct)
theorem Wu{x qual:Str}{st:Stmt}{f:Addr}{oc:Value}{od an:Option Addr}{osl:Array (Option Value)}{kV doc pm cdv ct:Value}(l:K.lookup f=some ⟨oc,od,.func (W.fnOf x qual (oA st) (jL st) (aQ st) .none kV doc pm an cdv ct),osl⟩)
 (c:W.codeIn K cdv qual=true) (k:W.keepIn K (.ref f)=true):mX K x qual st f (W.fnOf x qual (oA st) (jL st) (aQ st) .none kV doc pm an cdv ct):=⟨⟨oc,od,kV,doc,pm,an,cdv,ct,osl,rfl,l,c⟩,k⟩
end
theorem di{A:Around}{k:Nat}(hr:kW k A):A.units+1 < cLine:=Nat.lt_of_le_of_lt (Nat.add_le_add_left (by decide:1≤64) _) hr.units
section
variable{X:Cx}
theorem pv(i:Nat){x:Str}{pos:Pos}(hN:X.N[i]? = some x:=by rfl)(hv:Vis X.env.scope x:=by first|exact Or.inl rfl|exact Or.inr (Or.inl rfl)|exact Or.inr (Or.inr rfl))(hd:(x == ("__debug__" : Str))=false:=by decide)
 (hcd:(x == ("__classdict__" : Str))=false:=by decide):PE X (.Name x pos) (wW i):=aa5 hN hv hd hcd
end
theorem Dj{A B:Prop}(h:B):if false=true then A else B:=by
 rw[if_neg Bool.false_ne_true]
 exact h
theorem Di{A B:Prop}(h:A):if true=true then A else B:=by
 rw[if_pos rfl]
 exact h
def jA(H H':Hp):Prop:=∀ b o,H b=some o→H' b=some o
theorem jA.refl(H:Hp):jA H H:=fun _ _ h=>h
theorem jA.trans{H H1 H2:Hp}(a:jA H H1)(b:jA H1 H2):jA H H2:=fun c o h=>b c o (a c o h)
theorem jA.free{H H':Hp}(e:jA H H'){l:Addr}(h:H' l=Option.none):H l=Option.none:=by
 cases q:H l with
 | none=>rfl
 | some o =>
  rw[e l o q] at h
  cases h
end L2
namespace L2
open PySem PySem.Spec PyProof.Rows
section
variable{prog:Program}{w:World}{A:Around}{R:Result→Shared→Prop}{s:Shared}
theorem Jz{elt target iter:Expr}{ifs:List Expr}{scope:Scope}{pos:Pos}{it acc:Value}{env:Env}(I:Nat→Shared→Prop)
 (turn:∀ n s,I n s→wpAny (model prog w) A (pyNext it) (fun r s₁=>match r with
  | none=>R (.ok .next) s₁
  | some v=>wpAny (model prog w) A (letOwnedTupleGo target it v) (fun _ s₂=>wpAny (model prog w) A (assign target env v) (fun _ s₃ =>
   wpAny (model prog w) A (forIn ifs true fun c r=>if r=true then do let ok ← isTrue c env (eval c env);pure (ForInStep.yield ok) else pure (ForInStep.yield r)) (fun ok s₄ =>
    if ok=true then wpAny (model prog w) A (eval elt env) (fun x s₅ =>
     wpAny (model prog w) A (call (.builtin "list.append") [acc,x]) (fun _ s₆=>∃ m,m < n∧I m s₆) (fun _ _=>False) s₅) (fun _ _=>False) s₄
    else ∃ m,m < n∧I m s₄) (fun _ _=>False) s₃) (fun _ _=>False) s₂) (fun _ _=>False) s₁) (fun _ _=>False) s)
 (n:Nat) (h:I n s) :
 codeAny (model prog w) A (.compLoop (.ListComp elt [⟨target,iter,ifs,0⟩] scope pos) 0 it acc env) R s:=by
 refine codeAny_loop rfl I (fun n s hI=>?_) n h
 show wpAny _ A ((compTurn (.ListComp elt [⟨target,iter,ifs,0⟩] scope pos) 0 it acc env).onRaise (fun x=>do noteFrame x env;theTreesLotGoes x)) _ _ s
 refine wpAny_noted (wpAny_mono (E:=fun _ _=>False) ?_ (fun _ _ q=>q) fun _ _ q=>q.elim)
 rw[compTurn_list]
 refine wpAny_bind (wpAny_standAt (wpAny_bind (gW (turn n s hI) fun r s₁ h₁=>?_)))
 cases r with
 | none=>exact wpAny_pure h₁
 | some v =>
  refine wpAny_bind (gW h₁ fun _ s₂ h₂=>wpAny_bind (gW h₂ fun _ s₃ h₃=>wpAny_bind (gW h₃ fun ok s₄ h₄=>?_)))
  cases ok with
  | false=>exact wpAny_pure ⟨rfl,h₄⟩
  | true=>exact wpAny_bind (wpAny_bind (gW h₄ fun x s₅ h₅=>wpAny_bind (gW h₅ fun _ s₆ h₆=>wpAny_pure (wpAny_pure ⟨rfl,h₆⟩))))
end
theorem rN.track{P:Program}{w:World}{H:Hp}{h:Heap}{a:Addr}{o:HO}(x:rN P w H h)(hn:H a=none)(new:dZ P w (upd H a o) h a o):rN P w (upd H a o) h:=fun b u e=>by
 by_cases hb:b=a
 ·subst hb;rw[bc] at e;cases e;exact new
 ·rw[aN hb] at e
  exact(x b u e).stay (fun c v _ q=>q) (fun c q=>by rw[aN (bh q hn)];exact q) fun c xs q=>by rw[aN (bh q hn)];exact q
theorem lookup_mem{α : Type}:∀ {l:List (Str×α)} {x:Str} {k:α},l.lookup x=some k→(x,k)∈l
 | [],_,_,h=>by simp at h
 | (n,k')::r,x,k,h=>by
  rw[List.lookup_cons] at h
  cases hx:x == n with
  | true =>
   rw[hx] at h
   have:x=n:=by simpa using hx
   cases h;subst this;exact List.mem_cons_self
  | false=>rw[hx] at h;exact List.mem_cons_of_mem _ (lookup_mem h)
theorem lG{env:Env}:∀ {names:List (Str×NameKind)} {x:Str} {k:NameKind},
 (names.map fun (n,k)=>if (k == NameKind.free && env.scope.kind == .function && env.kindOf n == some .cell) then (n,NameKind.cell) else (n,k)).lookup x=some k →
 ∃ k',names.lookup x=some k'∧(k=k'∨(k'=.free∧k=.cell))
 | [],_,_,h=>by simp at h
 | (n,k0)::r,x,k,h=>by
  have ih:=@lG env r x k
  have h':List.lookup x ((if (k0 == NameKind.free && env.scope.kind == .function && env.kindOf n == some .cell)=true then (n,NameKind.cell) else (n,k0)) ::
   (r.map fun (n,k)=>if (k == NameKind.free && env.scope.kind == .function && env.kindOf n == some .cell) then (n,NameKind.cell) else (n,k)))=some k:=h
  by_cases hc:(k0 == NameKind.free && env.scope.kind == .function && env.kindOf n == some .cell)=true
  ·rw[if_pos hc,List.lookup_cons] at h'
   rw[List.lookup_cons]
   cases hx:x == n with
   | true =>
    rw[hx] at h';cases h'
    simp only[Bool.and_eq_true] at hc
    exact⟨k0,rfl,.inr ⟨by simpa using hc.1.1,rfl⟩⟩
   | false=>rw[hx] at h';exact ih h'
  ·rw[if_neg hc,List.lookup_cons] at h'
   rw[List.lookup_cons]
   cases hx:x == n with
   | true=>rw[hx] at h';cases h';exact⟨_,rfl,.inl rfl⟩
   | false=>rw[hx] at h';exact ih h'
theorem wj{env:Env}{f:(Str×NameKind)→List (Str×Addr)→Sem (ForInStep (List (Str×Addr)))}
 (hf:∀ n k r,f (n,k) r=if (k == NameKind.free)=true then (cellOf env n >>= fun a=>pure (ForInStep.yield ((n,a)::r))) else pure (ForInStep.yield r)) :
 ∀ (names:List (Str×NameKind)) (acc:List (Str×Addr)),(∀ y∈names,y.2=.free→∃ c,env.cells.lookup y.1=some c)→(∀ x c,acc.lookup x=some c→env.cells.lookup x=some c) →
  ∃ cl,forIn names acc f=pure cl∧(∀ x c,cl.lookup x=some c→env.cells.lookup x=some c)∧(∀ x,(∃ c,acc.lookup x=some c)→∃ c,cl.lookup x=some c)∧∀ x,(x,NameKind.free)∈names→∃ c,cl.lookup x=some c
 | [],acc,_,hacc=>⟨acc,rfl,hacc,fun _ h=>h,fun _ h=>by simp at h⟩
 | (n,k)::r,acc,hn,hacc=>by
  have hr:∀ y∈r,y.2=.free→∃ c,env.cells.lookup y.1=some c:=fun y hy=>hn y (List.mem_cons_of_mem _ hy)
  by_cases hk:(k == NameKind.free)=true
  ·have hk':k=.free:=by simpa using hk
   obtain⟨c,hc⟩:=hn (n,k) List.mem_cons_self hk'
   obtain⟨cl,e,h1,h2,h3⟩:=wj hf r ((n,c)::acc) hr (fun x c' h=>by
    rw[List.lookup_cons] at h
    cases hx:x == n with
    | true => rw [hx] at h; cases h; have : x = n := by simpa using hx
              subst this;exact hc
    | false=>rw[hx] at h;exact hacc x c' h)
   refine⟨cl,?_,h1,fun x ⟨c',hx⟩=>h2 x ?_,fun x hx=>?_⟩
   ·rw[List.forIn_cons,hf,if_pos hk]
    have:cellOf env n=pure c:=by unfold cellOf;rw[hc]
    rw[this]
    exact e
   ·rw[List.lookup_cons]
    cases x == n with
    | true=>exact⟨_,rfl⟩
    | false=>exact⟨c',hx⟩
   ·rcases List.mem_cons.mp hx with e|hx
    ·cases e
     exact h2 _ ⟨c,by rw[List.lookup_cons];simp⟩
    ·exact h3 x hx
  ·obtain⟨cl,e,h1,h2,h3⟩:=wj hf r acc hr hacc
   refine⟨cl,?_,h1,h2,fun x hx=>?_⟩
   ·rw[List.forIn_cons,hf,if_neg hk]
    exact e
   ·rcases List.mem_cons.mp hx with e|hx
    ·cases e
     exact absurd rfl hk
    ·exact h3 x hx
theorem Zj{sc:Scope}{env:Env}(h:∀ y∈sc.names,y.2=.free→∃ c,env.cells.lookup y.1=some c) :
 ∃ cl,closureFor sc env=pure cl∧(∀ x c,cl.lookup x=some c→env.cells.lookup x=some c)∧∀ x,(x,NameKind.free)∈sc.names→∃ c,cl.lookup x=some c:=by
 obtain⟨cl,e,h1,_,h3⟩:=wj (env:=env) (f:=fun x r=>match x with|(name,kind)=>if (kind == NameKind.free)=true then (cellOf env name >>= fun a=>pure (ForInStep.yield ((name,a)::r))) else pure (ForInStep.yield r))
  (fun n k r=>rfl) sc.names [] h (fun _ _ h=>by simp at h)
 refine⟨cl,?_,h1,h3⟩
 unfold closureFor
 refine Eq.trans ?_ e
 exact bind_pure _
def pick(ρ : List (Option Nat))(σ : St):St:=ρ.map fun o=>o.bind fun j=>(σ[j]?).join
def Gr(X:Cx)(N':List Str)(sc:Scope)(cl:List (Str×Addr))(C:Addr)(s:Shared)(H:Hp)(fp:List Addr):Cx :=
 { X with N:=N',s₀:=s,H₀:=H,env:=compEnvC sc cl C X.env,outer:=X.stack,ex:=fp,fn:=fun _=>false,xe:=fun _ _=>False }
structure c7(X:Cx)(N':List Str)(ρ : List (Option Nat))(sc:Scope):Prop where
 kind:sc.kind=.function
 CQ:∀ y∈sc.names,y.2≠.cell
 names:∀ y∈sc.names,y.2=.local→sc.names.lookup y.1=some .local
 free:∀ y∈sc.names,y.2=.free→(X.env.kindOf y.1=some .cell∨X.env.kindOf y.1=some .free)
 len:ρ.length=N'.length
 ix:∀ (i j:Nat),ρ[i]? = some (some j)→∃ x,N'[i]? = some x∧X.N[j]? = some x∧sc.names.lookup x=some .free
def PTs(X:Cx)(ifs:List Expr)(t:TT):Prop :=
 ∀ (pins:List (Addr×Obj)) (s:Shared) (σ : St) (H:Hp) (Q:Bool→Hp→Prop),Inv X pins σ H s→t σ H Q →
  wpAny (model X.prog X.w) X.A (forIn ifs true fun c r=>if r=true then do let ok ← isTrue c X.env (eval c X.env);pure (ForInStep.yield ok) else pure (ForInStep.yield r)) (TP X pins σ Q) X.xe s
def acq:TT:=fun _ H Q=>Q true H
theorem jF{X:Cx}:PTs X [] acq:=fun _ _ _ H _ I h=>wpAny_tests_nil ⟨H,I,h⟩
theorem jE{X:Cx}{c:Expr}{t:TT}(h:PT X c t):PTs X [c] t:=fun pins s σ H Q I hw=>wpAny_tests_one (h pins s σ H Q I hw)
def Nv(ρ : List (Option Nat))(g:TG):Prop:=∀ v σ H Q,g v σ H Q→g v σ H fun σ2 H2=>(σ2.length = σ.length∧∀ (i j:Nat),ρ[i]? = some (some j)→σ2[i]? = σ[i]?)∧Q σ2 H2
def JV(ρ : List (Option Nat))(g:RJ):Prop:=∀ v σ H Q,g v σ H Q→g v σ H fun σ2 H2=>(σ2.length = σ.length∧∀ (i j:Nat),ρ[i]? = some (some j)→σ2[i]? = σ[i]?)∧Q σ2 H2
theorem fH{ρ : List (Option Nat)}{i:Nat}(h:ρ[i]? = some none):Nv ρ (tO i):=fun v σ H Q q=>by
 refine⟨⟨List.length_set,fun k j e=>?_⟩,q⟩
 have:i≠k:=by intro z;subst z;rw[h] at e;cases e
 rw[List.getElem?_set_ne this]
theorem yS{ρ : List (Option Nat)}:JV ρ Wt:=fun v σ H Q ⟨e,q⟩=>⟨e,⟨rfl,fun _ _ _=>rfl⟩,q⟩
theorem iW{ρ : List (Option Nat)}{i:Nat}{u:RJ}(h:ρ[i]? = some none)(hu:JV ρ u)(mu:∀ v σ H Q Q',(∀ a b,Q a b→Q' a b)→u v σ H Q→u v σ H Q'):JV ρ (Mg (tO i) u):=fun vs σ H Q ⟨v,r,e,q⟩=>by
 refine⟨v,r,e,?_⟩
 refine mu _ _ _ _ _ (fun a b ⟨⟨l,k⟩,z⟩=>⟨⟨l.trans List.length_set,fun i' j' e'=>(k i' j' e').trans ?_⟩,z⟩) (hu _ _ _ _ q)
 have:i≠i':=by intro z;subst z;rw[h] at e';cases e'
 rw[List.getElem?_set_ne this]
theorem nU:∀ v σ H Q Q',(∀ a b,Q a b→Q' a b)→Wt v σ H Q→Wt v σ H Q':=fun _ _ _ _ _ m ⟨e,q⟩=>⟨e,m _ _ q⟩
theorem vf{i:Nat}{u:RJ}(mu:∀ v σ H Q Q',(∀ a b,Q a b→Q' a b)→u v σ H Q→u v σ H Q'):∀ v σ H Q Q',(∀ a b,Q a b→Q' a b)→Mg (tO i) u v σ H Q→Mg (tO i) u v σ H Q' :=
 fun _ _ _ _ _ m ⟨v,r,e,q⟩=>⟨v,r,e,mu _ _ _ _ _ m q⟩
theorem yR{ρ : List (Option Nat)}{K:W.Frag}{n:Nat}{u:RJ}(hu:JV ρ u):Nv ρ (abL K n u):=fun v σ H Q ⟨a,xs,e,hq,hl,q⟩=>⟨a,xs,e,hq,hl,hu _ _ _ _ q⟩
def ad6(J:It)(ρ : List (Option Nat))(g:TG)(tc:TT)(te:TE)(σ : St)(H1:Hp)(Q:VK):Prop:=∃ W:Nat→Nat→List V→Hp→Prop,(∃ m,W 0 m [] H1)∧∀ i m acc H,W i m acc H →
 (J.stop i H∧∀ p,H p=none→Q (.ref p) (upd H p (.lst acc))) ∨
 (J.go i H∧acc.length < sizeLine∧∃ N:List V→Hp→Prop,(∀ acc' H',N acc' H'→∃ m',m' < m∧W (i+1) m' acc' H') ∧
  ∀ x H',J.yld i H x H'→g x (pick ρ σ) H' fun σ2 H2=>tc σ2 H2 fun b H3=>if b=true then te σ2 H3 fun y H4=>N (acc++[y]) H4 else N acc H3)
def Qp(wi:TI)(ρ : List (Option Nat))(g:TG)(tc:TT)(te:TE):TE:=fun σ H Q=>wi σ H fun J H1=>ad6 J ρ g tc te σ H1 Q
section
variable{X:Cx}{elt tg iter:Expr}{ifs:List Expr}{sc:Scope}{pos cpos:Pos}{N':List Str}{ρ : List (Option Nat)}{wi:TI}{g:TG}{tc:TT}{te:TE}
theorem Gs(hcalm:X.calm=true)(S:c7 X N' ρ sc)(hi:PI X tg iter wi)
 (hg:∀ cl C s H fp,PG (Gr X N' sc cl C s H fp) tg g) (gk:Nv ρ g) (hc:∀ cl C s H fp,PTs (Gr X N' sc cl C s H fp) ifs tc) (he:∀ cl C s H fp,PE (Gr X N' sc cl C s H fp) elt te)
 (hs:∀ x,foldedSetIterable iter X.env x=pure x)
 (use:Option (Value→Sem Unit)) {R:Value→Shared→Prop} {pins:List (Addr×Obj)} {s:Shared} {σ : St} {H:Hp} {Q:VK} (I:Inv X pins σ H s) (h:Qp wi ρ g tc te σ H Q)
 (hR:∀ s' D C H',Inv X pins σ H' s'→Q (.ref D) H'→(∃ m,s'.heap.Ns C m)→rJ X pins H' C→compPost (model X.prog X.w) X.A X.xe use R (.ref D) C (.ok .next) s') :
 wpAny (model X.prog X.w) X.A (comprehension (.ListComp elt [⟨tg,iter,ifs,0⟩] sc pos) sc X.env cpos (newList []) false (eval iter X.env) use) R X.xe s:=by
 obtain⟨cl,hcl,hsub,hall⟩:=Zj (sc:=sc) (env:=X.env) fun y hy hf=>I.ok.has y.1 (S.free y hy hf)
 refine wpAny_comprehension_free rfl hs hcl S.kind S.names (gW (hi pins s σ H _ I h) fun v s1 h1=>gW h1 fun itv s2 h2=>?_)
 obtain⟨it,fp,tn,J,H2,e,I2,T,st2,f2,W,⟨m0,w0⟩,turn⟩:=h2
 subst e
 refine wpAny_newList (items:=[]) ?_
 refine wpAny_newFunctionEnv S.CQ (by intro y hy;simp at hy) (fun h₁ hns hsb=>?_) S.kind
 dsimp only at hns hsb ⊢
 generalize hH2:s2.heap.push { cls:=.type "list", data:=.seq ([]:List Value).toArray }=Hh at hns hsb ⊢
 have hCs:Hh.objs.size=s2.heap.objs.size+1:=by rw[← hH2,Heap.size_push]
 generalize hD:s2.heap.objs.size=D at *
 generalize hCC:Hh.objs.size=C at *
 have hDC:D≠C:=by omega
 have ltC:∀ b:Nat,b < s2.heap.objs.size→b≠C∧b≠D∧b < D:=fun b h=>by omega
 have ltD:∀ b:Nat,b < D→b≠C∧b≠D:=fun b h=>by omega
 have old:∀ b o,s2.heap.get? b=some o→h₁.get? b=some o:=fun b o e=>hsb.extBut b o (ltC b (Heap.lt_size e)).1 (Heap.get?_push_of_some _ (by rw[← hH2];exact Heap.get?_push_of_some _ e))
 have newD:h₁.get? D=some { cls:=.type "list", data:=.seq ([]:List Value).toArray }:=hsb.extBut _ _ hDC (Heap.get?_push_of_some _ (by rw[← hH2,← hD];exact Heap.get?_push_size _ rfl))
 have ltb:∀ b∈fp,b < D:=fun b hb=>by
  obtain⟨o,e,_⟩:=T.obj _ _ st2 b hb
  exact(ltC b (Heap.lt_size e)).2.2
 have fD:rJ X pins H2 D:=I2.xT (by omega) (I2.hok.fresh (by omega))
 have fC:rJ X pins H2 C:=I2.xT (by omega) (I2.hok.fresh (by omega))
 have nst:∀ b,b≠X.env.locals→b∉X.fs→b∉frs X.stack:=fun b h1 h2 hb=>by
  rcases List.mem_cons.mp (I2.Hy b hb) with e|e
  ·exact h1 e
  ·exact h2 e
 have ok':(Gr X N' sc cl C s2 H2 fp).Ok:=by
  refine⟨I2.ok.mod,S.kind,I2.ok.glob,I2.ok.blt,(by show s2.heap.objs.size≤C;omega),fun x y c e1 e2=>I2.ok.inj x y c (hsub _ _ e1) (hsub _ _ e2),fun x hx=>?_,fun x c z=>(by cases z),I2.ok.hd,I2.ok.frames,.inl rfl,
   fun b hb=>⟨(ltD b (ltb b hb)).1,fun x c e=>(f2 b hb).2.2.2.2.1 x c (hsub _ _ e)⟩,I2.bs,(by show X.base.objs.size≤s2.heap.objs.size;exact Nat.le_trans I2.ok.bsz I2.sz),fun b o e hb=>?_,fun b hb=>nst b (f2 b hb).2.1 (f2 b hb).2.2.1,I2.stack,I2.w6⟩
  ·have hx':∃ k',sc.names.lookup x=some k'∧(k'=.cell∨k'=.free):=by
    rcases hx with hx|hx
    ·obtain⟨k',e1,e2⟩:=lG (env:=X.env) (names:=sc.names) hx
     rcases e2 with e2|⟨e2,_⟩
     ·exact⟨k',e1,.inl e2.symm⟩
     ·exact⟨k',e1,.inr e2⟩
    ·obtain⟨k',e1,e2⟩:=lG (env:=X.env) (names:=sc.names) hx
     rcases e2 with e2|⟨e2,_⟩
     ·exact⟨k',e1,.inr e2.symm⟩
     ·exact⟨k',e1,.inr e2⟩
   obtain⟨k',e1,e2⟩:=hx'
   have hm:=lookup_mem e1
   rcases e2 with e2|e2
   ·exact absurd e2 (S.CQ _ hm)
   ·subst e2;exact hall x hm
  ·rcases (f2 b hb).2.2.2.1 with z|z
   ·exact I2.ok.O5 b o e z
   ·exact absurd (Nat.lt_of_lt_of_le (Heap.lt_size e) (Nat.le_trans I2.ok.bsz z)) (Nat.lt_irrefl _)
 have Vu:∀ p∈X.pn++pins,p.1 < D:=fun p hp=>(ltC p.1 (Heap.lt_size (I2.pin p hp).1)).2.2
 have abV:∀ x c,cl.lookup x=some c→c < D:=fun x c e=>by
  obtain⟨v,q⟩:=I2.cell x c (hsub _ _ e)
  exact(ltC c q.lt).2.2
 have I':∀ tk,Inv (Gr X N' sc cl C s2 H2 fp) (pins++[(D,{ cls:=.type "list", data:=.seq ([]:List Value).toArray })]) (pick ρ σ) H2 { s2 with heap:=h₁,toks:=tk }:=fun tk=>by
  refine⟨ok',rfl,I2.bare,Un.kept old,⟨_,hns,fun i x v e1 e2 e3=>?_⟩,fun x c e=>?_,fC.1,fun x c e=>I2.nZ x c (hsub _ _ e),fun p hp=>?_,I2.hok.kept old,?_⟩
  ·have e2':∃ j,ρ[i]? = some (some j)∧σ[j]? = some (some v):=by
    unfold pick at e2
    rw[List.getElem?_map] at e2
    cases hr:ρ[i]? with
    | none=>rw[hr] at e2;cases e2
    | some o =>
     rw[hr] at e2
     cases o with
     | none=>cases e2
     | some j =>
      refine⟨j,rfl,?_⟩
      have e2:(σ[j]?).join=some v:=Option.some.inj e2
      cases hq:σ[j]? with
      | none=>rw[hq] at e2;cases e2
      | some o' => rw [hq] at e2; have e2 : o' = some v := e2
                   rw[e2]
   obtain⟨j,hj,hv⟩:=e2'
   obtain⟨y,ey,eN,ef⟩:=S.ix i j hj
   have e1':N'[i]? = some x:=e1
   rw[ey] at e1';cases e1'
   obtain⟨m,hn,hl⟩:=I2.loc
   have hm:=lookup_mem ef
   have kX:=S.free _ hm rfl
   obtain⟨u,ru,lk⟩:=hl j x v eN hv (by rcases kX with k|k;exact .inr (.inl k);exact .inr (.inr k))
   refine⟨u,ru,.inr ⟨?_,?_⟩⟩
   ·show (relabel sc X.env).names.lookup x=some .cell∨(relabel sc X.env).names.lookup x=some .free
    rcases e3 with e3|e3|e3
    ·obtain⟨k',q1,q2⟩:=lG (env:=X.env) (names:=sc.names) e3
     rw[ef] at q1;cases q1
     rcases q2 with q2|⟨_,q2⟩<;>cases q2
    ·exact .inl e3
    ·exact .inr e3
   ·obtain⟨c,hc'⟩:=hall x hm
    refine⟨c,hc',?_⟩
    rcases lk with ⟨k,_⟩|⟨_,c',ec,z⟩
    ·rcases kX with k'|k'<;>(rw[k] at k';cases k')
    ·rw[hsub _ _ hc'] at ec;cases ec
     obtain⟨o,ho,hd⟩:=z
     exact⟨o,old _ _ ho,hd⟩
  ·obtain⟨v,o,ho,hd⟩:=I2.cell x c (hsub _ _ e)
   exact⟨v,o,old _ _ ho,hd⟩
  ·have hp':p∈X.pn++pins∨p=(D,{ cls:=.type "list", data:=.seq ([]:List Value).toArray }):=by
    rcases List.mem_append.mp hp with z|z
    ·exact .inl (List.mem_append_left _ z)
    ·rcases List.mem_append.mp z with z|z
     ·exact .inl (List.mem_append_right _ z)
     ·exact .inr (by simpa using z)
   rcases hp' with z|z
   ·obtain⟨q1,q2,q3,q4,q5⟩:=I2.pin p z
    exact⟨old _ _ q1,q2,(ltD p.1 (Vu p z)).1,nst _ q3 q4,q5⟩
   ·subst z
    exact⟨newD,fD.1,hDC,nst _ fD.2.1 fD.2.2.1,fun v z=>by cases z⟩
  ·show (pick ρ σ).length=N'.length
   unfold pick;rw[List.length_map];exact S.len
 have stat:∀ {H':Hp} {o:Obj},(∀ b∈fp,H' b=none)→∀ b∈fp,rJ (Gr X N' sc cl C s2 H2 fp) (pins++[(D,o)]) H' b:=fun {H' o} hn b hb=>by
  refine⟨hn b hb,(ltD b (ltb b hb)).1,nst b (f2 b hb).2.1 (f2 b hb).2.2.1,.inl hb,fun x c e=>(f2 b hb).2.2.2.2.1 x c (hsub _ _ e),fun p hp=>?_⟩
  rcases List.mem_append.mp hp with z|z
  ·exact(f2 b hb).2.2.2.2.2 p (List.mem_append_left _ z)
  ·rcases List.mem_append.mp z with z|z
   ·exact(f2 b hb).2.2.2.2.2 p (List.mem_append_right _ z)
   ·have e:p=(D,o):=by simpa using z
    subst e
    exact Ne.symm (ltD b (ltb b hb)).2
 have loop:∀ tk,codeAny (model X.prog X.w) X.A (.compLoop (.ListComp elt [⟨tg,iter,ifs,0⟩] sc pos) 0 (.ref it) (.ref D) (compEnvC sc cl C X.env)) (compPost (model X.prog X.w) X.A X.xe use R (.ref D) C) { s2 with heap:=h₁,toks:=tk }:=fun tk=>by
  refine Jz (fun n s'=>∃ (i:Nat) (acc:List V) (its:List Value) (k:Nat) (H':Hp),Inv (Gr X N' sc cl C s2 H2 fp) (pins++[(D,{ cls:=.type "list", data:=.seq its.toArray k })]) (pick ρ σ) H' s'∧Vals acc its∧acc.length≤sizeLine∧tn i s'.heap∧(∀ b∈fp,H' b=none)∧W i n acc H')
   ?_ m0 ⟨0,[],[],0,H2,I' tk,.nil,Nat.zero_le _,T.keep _ _ _ st2 fun b hb o e=>old b o e,fun b hb=>(f2 b hb).1,w0⟩
  rintro n s3 ⟨i,acc,its,k,H3,I3,va,hz0,st3,fr3,w3⟩
  rcases turn i n acc H3 w3 with ⟨stop,qn⟩|⟨go,hz,Nn,hN,step⟩
  ·refine gW (T.done (Gr X N' sc cl C s2 H2 fp) rfl rfl rfl hcalm i _ s3 _ H3 (fun _ _=>False) I3 (stat fr3) st3 stop) fun r s4 ⟨hr,I4⟩=>?_
   subst hr
   obtain⟨p1,p2,p3,p4,p5⟩:=I4.pin (D,{ cls:=.type "list", data:=.seq its.toArray k }) (by simp)
   have p1:s4.heap.get? D=some { cls:=.type "list", data:=.seq its.toArray k }:=p1
   have p2:H3 D=none:=p2
   have B:=I4.base
   have upn:∀ b o,H3 b=some o→upd H3 D (.lst acc) b=some o:=fun b o e=>by rw[aN (bh e p2)];exact e
   have IX:Inv X pins σ (upd H3 D (.lst acc)) s4:=by
    refine I2.call' (ch:=fp) I4.os ⟨fun b o q1 q2 q3 q4=>B.keep b o q1 q2 q3 q4,fun b o q1 q2 q3 q4=>B.slot b o q1 q2 q3 q4,fun b o q1 q2 q3=>?_,fun b o q1 q2=>B.there b o q1 q2,
     fun b xs q=>upn _ _ (B.tups b xs q),fun b o u q=>upn _ _ (B.yU b o u q),fun b w ps q=>?_⟩ (I4.hok.track p2 ⟨hz0,its,k,va,p1⟩) I4.bare fun b hb=>⟨(f2 b hb).2.2.2.1,(f2 b hb).2.1,(f2 b hb).2.2.2.2.1,(f2 b hb).2.2.2.2.2⟩
    ·rw[aN (ltC b (Heap.lt_size q1)).2.1]
     exact B.free b o q1 q2 q3
    ·obtain⟨more,q'⟩:=B.yl b w ps q
     exact⟨more,upn _ _ q'⟩
   obtain⟨m,hm,_⟩:=I4.loc
   refine hR s4 D C _ IX (qn D p2) ⟨m,hm⟩ (I2.xT (by omega) ?_)
   rw[aN (Ne.symm hDC)]
   exact I4.free
  ·refine gW (T.item (Gr X N' sc cl C s2 H2 fp) rfl rfl rfl hcalm i _ s3 _ H3 (fun _ _=>False) I3 (stat fr3) st3 go) fun r s4 ⟨u,hr,h4⟩=>?_
   subst hr
   refine gW h4 fun _ s5 ⟨x,H5,I5,r5,y5,st5,fr5⟩=>?_
   have I5':=I5.pinned (stat fr5) (T.obj _ _ st5)
   refine gW (hg cl C s2 H2 fp _ s5 _ H5 x u _ I5' r5 (gk _ _ _ _ (step x H5 y5))) fun _ s6 ⟨σ6,H6,I6,⟨l6,k6⟩,q6⟩=>?_
   refine gW (hc cl C s2 H2 fp _ s6 σ6 H6 _ I6 q6) fun ok s7 ⟨H7,I7,q7⟩=>?_
   have wk:∀ {Ga:List (Addr×Obj)} {H':Hp} {s':Shared},Inv (Gr X N' sc cl C s2 H2 fp) Ga σ6 H' s'→Inv (Gr X N' sc cl C s2 H2 fp) Ga (pick ρ σ) H' s':=fun {Ga H' s'} J' =>
    J'.weak l6.symm fun j v e=>by
     have:∃ j',ρ[j]? = some (some j'):=by
      unfold pick at e
      rw[List.getElem?_map] at e
      cases hr:ρ[j]? with
      | none=>rw[hr] at e;cases e
      | some o =>
       rw[hr] at e
       cases o with
       | none=>cases e
       | some j'=>exact⟨j',rfl⟩
     obtain⟨j',hj'⟩:=this
     rw[k6 j j' hj'];exact e
   cases ok with
   | false =>
    have q7:Nn acc H7:=by simpa using q7
    rw[if_neg Bool.false_ne_true]
    obtain⟨m',hm,w7⟩:=hN acc H7 q7
    refine⟨m',hm,i+1,acc,its,k,H7,wk I7.qI,va,hz0,T.keep _ _ _ st5 fun b hb o e=>(I7.pin (b,o) (List.mem_append_right _ (List.mem_append_right _ (mq hb e)))).1,fun b hb=>?_,w7⟩
    obtain⟨o,e,d⟩:=T.obj _ _ st5 b hb
    exact(I7.pin (b,o) (List.mem_append_right _ (List.mem_append_right _ (mq hb e)))).2.1
   | true =>
    have q7:te σ6 H7 fun y H4=>Nn (acc++[y]) H4:=by simpa using q7
    rw[if_pos rfl]
    refine gW (he cl C s2 H2 fp _ s7 σ6 H7 _ I7 q7) fun xv s8 ⟨y,H8,I8,r8,n8⟩=>?_
    obtain⟨p1,p2,p3,p4,p5⟩:=I8.pin (D,{ cls:=.type "list", data:=.seq its.toArray k }) (by simp)
    have p1:s8.heap.get? D=some { cls:=.type "list", data:=.seq its.toArray k }:=p1
    have p2:H8 D=none:=p2
    refine wpAny_list_append_plain ⟨k,p1⟩ (fun h' pl sb=>?_) (by rw[List.size_toArray,← va.length];omega)
    obtain⟨k',pl⟩:=pl
    obtain⟨m',hm,w8⟩:=hN _ _ n8
    have Ia:Inv (Gr X N' sc cl C s2 H2 fp) pins σ6 H8 s8:=I8.qI.qI
    have Ib:Inv (Gr X N' sc cl C s2 H2 fp) pins σ6 H8 { s8 with heap:=h' }:=Ia.turned (t':=s8.toks) (it:=D) (fun b o hb e=>(sb.2 b hb).trans e) p2 hDC (.inr (by show s2.heap.objs.size≤D;omega)) (fun x c e=>(ltD c (abV x c e)).2) fun p hp=>(ltD p.1 (Vu p hp)).2
    have pl':h'.get? D=some { cls:=.type "list", data:=.seq (its++[xv]).toArray k' }:=by rw[pl];simp
    have Ic:Inv (Gr X N' sc cl C s2 H2 fp) (pins++[(D,{ cls:=.type "list", data:=.seq (its++[xv]).toArray k' })]) σ6 H8 { s8 with heap:=h' }:=Ib.HW fun p hp=>by
     rcases List.mem_append.mp hp with z|z
     ·exact Ib.pin p (List.mem_append_right _ z)
     ·have e:p=(D,{ cls:=.type "list", data:=.seq (its++[xv]).toArray k' }):=by simpa using z
      subst e
      exact⟨pl',p2,p3,p4,fun v z=>by cases z⟩
    refine⟨m',hm,i+1,acc++[y],its++[xv],k',H8,wk Ic,va.append (.cons r8 .nil),(by rw[List.length_append,List.length_singleton];omega),T.keep _ _ _ st5 fun b hb o e=>?_,fun b hb=>?_,w8⟩
    ·exact(sb.2 b (ltD b (ltb b hb)).2).trans (I8.pin (b,o) (List.mem_append_right _ (List.mem_append_right _ (mq hb e)))).1
    ·obtain⟨o,e,d⟩:=T.obj _ _ st5 b hb
     exact(I8.pin (b,o) (List.mem_append_right _ (List.mem_append_right _ (mq hb e)))).2.1
 refine codeAny_compStart_list (loop _) (T.self X.A 0 _ _ _ (T.keep _ _ _ st2 fun b hb o e=>old b o e) (loop _))
theorem fj(hcalm:X.calm=true)(S:c7 X N' ρ sc)(hi:PI X tg iter wi)
 (hg:∀ cl C s H fp,PG (Gr X N' sc cl C s H fp) tg g) (gk:Nv ρ g) (hc:∀ cl C s H fp,PTs (Gr X N' sc cl C s H fp) ifs tc) (he:∀ cl C s H fp,PE (Gr X N' sc cl C s H fp) elt te)
 (hs:∀ x,foldedSetIterable iter X.env x=pure x:=by intro _;rfl) :
 PE X (.ListComp elt [⟨tg,iter,ifs,0⟩] sc pos) (Qp wi ρ g tc te):=by
 intro pins s σ H Q I h
 rw[eval_ListComp]
 refine Gs hcalm S hi hg gk hc he hs none I h fun s' D C H' I' q ⟨m,hm⟩ f=>⟨m,hm,fun h' sb=>?_⟩
 exact⟨.ref D,H',I'.turned (t':=s'.toks) (it:=C) (fun b o hb e=>(sb.2 b hb).trans e) f.1 f.2.1 f.2.2.2.1 f.2.2.2.2.1 f.2.2.2.2.2,rfl,q⟩
theorem u6{i:Nat}{x:Str}{px:Pos}(hcalm:X.calm=true)(hN:X.N.Nodup)(hix:X.N[i]? = some x)(hx:Loc X.env.scope x)(S:c7 X N' ρ sc)(hi:PI X tg iter wi)
 (hg:∀ cl C s H fp,PG (Gr X N' sc cl C s H fp) tg g) (gk:Nv ρ g) (hc:∀ cl C s H fp,PTs (Gr X N' sc cl C s H fp) ifs tc) (he:∀ cl C s H fp,PE (Gr X N' sc cl C s H fp) elt te)
 (hsw:swapsWith (.ListComp elt [⟨tg,iter,ifs,0⟩] sc pos) (some (.Name x px)) cpos.line X.env=pure true:=by rfl)
 (hs:∀ x,foldedSetIterable iter X.env x=pure x:=by intro _;rfl)
 (hf:X.fn x=true∨X.env.scope.names.lookup x=some .local:=by first|exact .inl rfl|exact .inr rfl|assumption) :
 PS X (.Assign [.Name x px] (.ListComp elt [⟨tg,iter,ifs,0⟩] sc pos) cpos) (Kl (Qp wi ρ g tc te) (tO i)):=by
 intro pins s σ H D I h
 rw[exec_Assign_Name_used _ _ _ _ hsw]
 refine wpAny_bind (wpAny_standAt (wpAny_bind ?_))
 show wpAny _ X.A (do let _ ← comprehension (.ListComp elt [⟨tg,iter,ifs,0⟩] sc pos) sc X.env _ (newList []) false (eval iter X.env) (some (assign (.Name x px) X.env))) _ _ s
 refine wpAny_bind (gW (Gs (Q:=fun y H1=>D.nx (σ.set i (some y)) H1) (R:=fun _ s'=>SP X pins D .next s') hcalm S hi hg gk hc he hs (some (assign (.Name x px) X.env)) I h fun s' Da C H' I' q ⟨m,hm⟩ f=>?_) fun _ s' hq=>wpAny_pure (wpAny_pure hq))
 show wpAny _ X.A (assign (.Name x px) X.env (.ref Da)) _ _ _
 refine wpAny_assign_Name (Fz I' hN hix hx (v:=.ref Da) rfl (fun s2 I2 ⟨a,sb,ha⟩=>⟨m,hm.sameBut sb ?_,fun h' sb2=>?_⟩) hf)
 ·rcases ha with e|e
  ·subst e;exact f.2.1
  ·exact fun z=>f.2.2.2.2.1 x a e z.symm
 ·exact⟨_,H',I2.turned (t':=s2.toks) (it:=C) (fun b o hb e=>(sb2.2 b hb).trans e) f.1 f.2.1 f.2.2.2.1 f.2.2.2.2.1 f.2.2.2.2.2,q⟩
end
structure It.Of(J:It)(Ok:Hp→Prop)(xs:List V):Prop where
 go:∀ i H,Ok H→i < xs.length→J.go i H
 yld:∀ i H x H',Ok H→i < xs.length→J.yld i H x H'→H'=H∧xs[i]? = some x
 stop:∀ H,Ok H→J.stop xs.length H
theorem QJ{K:W.Frag}{a:Addr}{xs:List V}:(Itl K a).Of (fun H=>Aw K H a xs) xs :=
 ⟨fun i H h hi=>⟨xs,xs[i],h,by simp[hi]⟩,fun i H x H' h _ y=>⟨y.1,y.2 xs h⟩,fun H h=>⟨xs,h,Nat.le_refl _⟩⟩
theorem VR{K:W.Frag}{a:Addr}{xs:List V}:(Itt K a).Of (fun H=>Ab K H a xs) xs :=
 ⟨fun i H h hi=>⟨xs,xs[i],h,by simp[hi]⟩,fun i H x H' h _ y=>⟨y.1,y.2 xs h⟩,fun H h=>⟨xs,h,Nat.le_refl _⟩⟩
def Oo(lo:Int)(n:Nat):List V:=(List.range n).map fun i=>V.int (lo+(i:Nat))
theorem Cq(lo:Int)(n:Nat):(Oo lo n).length=n:=by simp[Oo]
theorem Vh{lo:Int}{n i:Nat}(h:i < n):(Oo lo n)[i]? = some (.int (lo+i)):=by simp[Oo,h]
theorem V0{lo:Int}{n:Nat}:(Itr lo n).Of (fun _=>True) (Oo lo n) :=
 ⟨fun i H _ hi=>by rw[Cq] at hi;exact hi,fun i H x H' _ hi y=>⟨y.1,by rw[Cq] at hi;rw[y.2];exact Vh hi⟩,fun H _=>by rw[Cq];exact Nat.le_refl _⟩
end L2
namespace L2
open PySem PySem.Spec PyProof.Rows
def sgn(c:Nat):V:=.str ⟨#[c]⟩
def Ol(x:Str):List V:=x.cps.toList.map sgn
theorem Ku(x:Str):(Ol x).length=x.length:=by simp[Ol,Str.length]
def Its(x:Str):It:=⟨fun i _=>i < x.length,fun i H y H'=>H'=H∧(Ol x)[i]? = some y,fun i _=>i=x.length⟩
theorem VV{x:Str}:(Its x).Of (fun _=>True) (Ol x) :=
 ⟨fun i H _ hi=>by rw[Ku] at hi;exact hi,fun i H y H' _ _ h=>h,fun H _=>Ku x⟩
theorem Kf{P:Program}{w:World}{K:W.Frag}{tg:Expr}(it:Addr)(x:Str)(t:Tok)(ty:String)
 (hty:["enumerate", "zip", "dict_itemiterator", "dict_reverseitemiterator", "odict_iterator", "itertools.zip_longest", "itertools.pairwise"].contains ty=false)
 (W:∀ A':Around,A'.handled=none→Walks P w A' it [it] [it] x.cps.size (SignAt x) (fun i h=>h.IsStrIter it ty x t i))
 (sf:∀ (A:Around) (i:Nat) (s:Shared) (Q:Value→Shared→Prop) (E:Value→Shared→Prop),s.heap.IsStrIter it ty x t i→Q (.ref it) s→wpAny (model P w) A (pyIter (.ref it)) Q E s) :
 Turn P w K tg (Its x) [it] it (fun i h=>h.IsStrIter it ty x t i) where
 mem:=by simp
 obj:=fun i h st b hb=>by
  have e:b=it:=by simpa using hb
  subst e
  obtain⟨o,e,c,d⟩:=st
  exact⟨o,e,fun v z=>by rw[d] at z;cases z⟩
 keep:=fun i h h' st k=>let ⟨o,ho,r⟩:=st;⟨o,k it (by simp) o ho,r⟩
 item:=by
  intro X hP hw hK hc i pins s σ H E I hf st hg
  subst hP hw hK
  obtain⟨f0,f1,f2,f3,f4,f5⟩:=hf it (by simp)
  refine(W X.A (I.ok.hd hc)).item i s _ _ hg st fun v h' tk hv st' kk=>?_
  obtain⟨c,u,e,rfl⟩:=hv
  have I1:Inv X pins σ H { s with heap:=h',toks:=tk }:=I.turned (fun b o hb e=>kk b o (by simpa using hb) e) f0 f1 f3 f4 f5
  obtain⟨o,e',c',d'⟩:=id st'
  refine⟨_,rfl,Rf (s:={ s with heap:=h',toks:=tk }) e' c' d' hty ⟨sgn c,H,I1,⟨u,rfl⟩,⟨rfl,?_⟩,st',fun b hb=>(hf b hb).1⟩⟩
  unfold Ol
  rw[List.getElem?_map,Array.getElem?_toList,e]
  rfl
 done:=by
  intro X hP hw hK hc i pins s σ H E I hf st hg
  subst hP hw hK
  obtain⟨f0,f1,f2,f3,f4,f5⟩:=hf it (by simp)
  have hg:i=x.length:=hg
  subst hg
  exact(W X.A (I.ok.hd hc)).done s _ _ st fun h' tk kk=>⟨rfl,I.turned (fun b o hb e=>kk b o (by simpa using hb) e) f0 f1 f3 f4 f5⟩
 self:=sf
section
variable{X:Cx}{tg:Expr}
def ado(tl:TE):TI:=fun σ H R=>tl σ H fun x H1=>∃ z,x=.str z∧R (Its z) H1
theorem aa3{l:Expr}{tl:TE}(hl:PE X l tl):PI X tg l (ado tl):=by
 intro pins s σ H R I h
 refine gW (hl pins s σ H _ I h) fun v s1 ⟨x,H1,I1,r1,q1⟩=>?_
 obtain⟨z,e,q⟩:=q1
 subst e
 obtain⟨t,rfl⟩:=r1
 cases ha:z.cps.all (· < 128)
 ·refine wpAny_pyIter_wide ha ?_
  refine⟨s1.heap.objs.size,[s1.heap.objs.size],_,Its z,H1,rfl,I1.kept (t':=s1.toks) fun b o e=>Heap.get?_push_of_some _ e,Kf _ z t "str_iterator" (by decide) (fun A' hA=>Walks.strWide hA _ z t) (fun _ _ _ _ _ st hQ=>wpAny_pyIter_striter_wide st hQ),⟨_,Heap.get?_push_size _ rfl,rfl,rfl⟩,fun b hb=>?_,q⟩
  have e:b=s1.heap.objs.size:=by simpa using hb
  subst e
  exact I1.xT (Nat.le_refl _) (I1.hok.fresh (Nat.le_refl _))
 ·refine wpAny_pyIter_ascii ha ?_
  refine⟨s1.heap.objs.size,[s1.heap.objs.size],_,Its z,H1,rfl,I1.kept (t':=s1.toks) fun b o e=>Heap.get?_push_of_some _ e,Kf _ z t "str_ascii_iterator" (by decide) (fun A' hA=>Walks.strAscii hA _ z t) (fun _ _ _ _ _ st hQ=>wpAny_pyIter_striter_ascii st hQ),⟨_,Heap.get?_push_size _ rfl,rfl,rfl⟩,fun b hb=>?_,q⟩
  have e:b=s1.heap.objs.size:=by simpa using hb
  subst e
  exact I1.xT (Nat.le_refl _) (I1.hok.fresh (Nat.le_refl _))
theorem Qm:∀ {bs:List Bool} {us:List Value},Vals (bs.map V.bl) us→us=bs.map Value.bool
 | [],_,.nil=>rfl
 | b::r,_,.cons q t=>by rw[Qm t,show _=Value.bool b from q];rfl
theorem range_all(bs:List Bool):(List.range bs.length).all (fun i=>bs.getD i false)=bs.all id:=by
 induction bs with
 | nil=>rfl
 | cons b r ih =>
  rw[List.length_cons,List.range_succ_eq_map,List.all_cons,List.all_map,List.all_cons]
  congr 1
def acZ(K:W.Frag)(f:List Bool→Bool):List V→Hp→VK→Prop:=fun xs H Q=>∃ a bs,xs=[.ref a]∧Aw K H a (bs.map V.bl)∧Q (.bl (f bs)) H
theorem Ux{P:Program}{w:World}{A:Around}(bs:List Bool):TruthOf P w A (fun i v=>(bs.map Value.bool).toArray[i]? = some v) (fun i=>bs.getD i false):=by
 intro i v s Q E hv hq
 have:v=.bool (bs.getD i false):=by
  rw[List.getElem?_toArray,List.getElem?_map] at hv
  cases hb:bs[i]? with
  | none=>rw[hb] at hv;cases hv
  | some b =>
   rw[hb] at hv
   rw[List.getD_eq_getElem?_getD,hb]
   exact(Option.some.inj hv).symm
 subst this
 exact wpAny_truthy_bool hq
theorem MN(hc:X.calm=true):jQ X (.builtin "all") (acZ X.K (·.all id)):=by
 intro pins s σ H xs us Q I r h
 obtain⟨a,bs,rfl,hq,q⟩:=h
 obtain⟨u,rfl,ru⟩:=vals1 r
 cases ru
 obtain⟨its,rv,p,hz⟩:=I.list hq
 have e:=Qm rv
 subst e
 have hlt:a < s.heap.objs.size:=by obtain⟨o,n,e,_⟩:=p;exact Heap.lt_size e
 refine call_all_walk (wpAny_pyIter_list p.isList ⟨_,_,_,_,_,_,fun i=>bs.getD i false,rfl,Walks.list (A:=X.A.in1) (I.ok.hd hc) _ a (Nat.ne_of_lt hlt) (bs.map Value.bool).toArray,⟨⟨_,Heap.get?_push_size _ rfl,rfl,rfl⟩,(p.keeps fun b o e=>Heap.get?_push_of_some _ e).isList⟩,Ux bs,fun h' tk kk=>?_⟩)
 refine⟨.bl (bs.all id),H,I.kept fun b o e=>kk b o (by simpa using Nat.ne_of_lt (Heap.lt_size e)) (Heap.get?_push_of_some _ e),?_,q⟩
 show Value.bool _=Value.bool _
 rw[← range_all]
 simp
theorem Sw:rH X (compareOp .Gt) (fun x y H Q=>∃ i j,x=.str i∧y=.str j∧Q (.bl (decide (j.cps.toList < i.cps.toList))) H):=by
 intro pins s σ H x y v u Q I rx ry h
 obtain⟨i,j,rfl,rfl,q⟩:=h
 obtain⟨t,rfl⟩:=rx
 obtain⟨t',rfl⟩:=ry
 exact PySem.P.gt_str (Jp I q rfl)
def TF(x:Str)(lo hi:Option Int):Str:=⟨((x.cps.toList.drop (HT.v8 x.length 0 lo)).take (HT.v8 x.length x.length hi - HT.v8 x.length 0 lo)).toArray⟩
theorem U9(lo hi:Option Int)(n:Nat):Builtin.Str.strSliceIndices lo hi 1 n=(List.range (HT.v8 n n hi - HT.v8 n 0 lo)).map (fun k=>HT.v8 n 0 lo+k):=by
 have h1:∀ (v:Option Int) (d:Nat),d≤n→(match v with|none=>(d:Int)|some i=>max 0 (min (if i < 0 then i+(n:Int) else i) (n:Int)))=((HT.v8 n d v:Nat):Int):=by
  intro v d hd
  cases v with
  | none=>rfl
  | some i =>
   show max 0 (min (if i < 0 then i+(n:Int) else i) (n:Int))=(((if i < 0 then (i+(n:Int)).toNat else min i.toNat n):Nat):Int)
   by_cases hv:i < 0
   ·simp only[if_pos hv];omega
   ·simp only[if_neg hv];omega
 have fin:∀ (p q:Int) (a b:Nat),p=(a:Int)→q=(b:Int)→sliceRange p q 1=(List.range (b - a)).map (fun k=>a+k):=by
  intro p q a b e1 e2
  subst e1 e2
  unfold sliceRange
  simp only[show ((1:Int) > 0)=True from by simp,if_true]
  by_cases hlt:(a:Int) < b
  ·have e3:(((b:Int) - a+1 - 1) / 1).toNat=b - a:=by first|omega|(simp;done)|(simp;omega)
   simp only[hlt,if_true,e3]
   refine List.map_congr_left fun k _=>?_
   omega
  ·have:b - a=0:=by omega
   simp[hlt,this]
 unfold Builtin.Str.strSliceIndices
 refine fin _ _ _ _ ?_ ?_
 ·have:=h1 lo 0 (Nat.zero_le _)
  cases lo with
  | none=>exact this
  | some i=>exact this
 ·have:=h1 hi n (Nat.le_refl _)
  cases hi with
  | none=>exact this
  | some i=>exact this
theorem RW(x:Str)(lo hi:Option Int):Txt.slice x lo hi=TF x lo hi:=by
 have hle:HT.v8 x.length x.length hi≤x.length:=HT.Vg _ _ (Nat.le_refl _) hi
 have ha:HT.v8 x.length 0 lo≤x.length:=HT.Vg _ _ (Nat.zero_le _) lo
 unfold Txt.slice TF
 rw[U9]
 generalize HT.v8 x.length 0 lo=a at *
 generalize HT.v8 x.length x.length hi=b at *
 have hp:((List.range (b - a)).map (fun k=>a+k)).filterMap (fun i=>x.cps[i]?)=(x.cps.toList.drop a).take (b - a):=by
  have h:=StrLaws.picks x.cps.toList (b - a) a (by simp[Str.length] at hle ha ⊢;omega)
  simpa using h
 split
 ·rename_i h
  simp only[List.length_map,List.length_range,beq_self_eq_true,Bool.true_and,beq_iff_eq] at h
  have e:a=0∨x.length=0:=by omega
  have e2:(x.cps.toList.drop a).take (b - a)=x.cps.toList:=by
   rw[h]
   rcases e with e|e
   ·subst e
    rw[List.drop_zero]
    exact List.take_of_length_le (by simp[Str.length])
   ·have:x.cps.toList=[]:=List.eq_nil_of_length_eq_zero (by simpa [Str.length] using e)
    rw[this];simp
  rw[e2]
 ·rw[hp]
def acI:V→Option Int→Option Int→Hp→VK→Prop:=fun x lo hi H Q=>∃ z,x=.str z∧z.length≤sizeLine∧Q (.str (TF z lo hi)) H
theorem aaO:XQ X acI:=by
 intro pins s σ H x v vl vu lo hi sl Q I rx hs pl pu h
 obtain⟨z,rfl,hz,q⟩:=h
 obtain⟨t,rfl⟩:=rx
 have fin:∀ (l u:Option (Int×Tok)),vl=partValue l→vu=partValue u→lo=l.map (·.1)→hi=u.map (·.1) →
  wpAny (model X.prog X.w) X.A (getItem (.str z t) (.ref sl)) (EP X pins σ Q) X.xe s:=by
  intro l u e1 e2 e3 e4
  subst e1 e2 e3 e4
  refine wpAny_getItem_str_slice (l:=l) (u:=u) (st:=none) hs rfl ?_
  refine post_val_or_str ⟨Nat.le_trans (Txt.slice_le z _ _) hz,fun t' k=>?_⟩
  refine⟨.str (TF z _ _),H,I.tok k,⟨t',?_⟩,q⟩
  show Value.str (Txt.slice z _ _) t'=_
  rw[RW]
 refine⟨"str", _,F.slot_str_getitem.lookup,typeIs_str _ _ _,?_⟩
 cases pl with
 | none=>cases pu with
  | none=>exact fin none none rfl rfl rfl rfl
  | int j tj=>exact fin none (some (j,tj)) rfl rfl rfl rfl
 | int i ti=>cases pu with
  | none=>exact fin (some (i,ti)) none rfl rfl rfl rfl
  | int j tj=>exact fin (some (i,ti)) (some (j,tj)) rfl rfl rfl rfl
def acX(neg:Bool):R2:=fun x y H Q=>∃ c z,x=sgn c∧y=.str z∧Q (.bl (if neg then !decide (c∈z.cps.toList) else decide (c∈z.cps.toList))) H
theorem abe:rH X (compareOp .In) (acX false):=by
 intro pins s σ H x y v u Q I rx ry h
 obtain⟨c,z,rfl,rfl,q⟩:=h
 refine Sv pins s σ H _ _ v u Q I rx ry ⟨_,z,rfl,rfl,?_⟩
 rw[StrLaws.found_one];exact q
def acT(K:W.Frag):List V→Hp→VK→Prop:=fun xs H Q=>∃ x t T b,xs=[x,.ty T]∧yc K H x t∧W.kitOne K t (.type T)=some b∧Q (.bl b) H
theorem MK:jQ X (.builtin "isinstance") (acT X.K):=by
 intro pins s σ H xs us Q I r h
 obtain⟨x,t,T,b,rfl,ty,e,q⟩:=h
 obtain⟨u,w',rfl,rx,rt⟩:=vals2 r
 cases (show w'=Value.type T from rt)
 exact Tf I rx ty e fun tk=>⟨.bl b,H,I.tok tk,rfl,q⟩
end
end L2
namespace L2
open PySem PySem.Spec PyProof.Rows
def Xa(osc:Scope)(N N':List Str)(ρ : List (Option Nat))(sc:Scope):Bool :=
 sc.names.all (fun y=>!(decide (y.2=.cell))) && sc.names.all (fun y=>!(decide (y.2=.local)) || decide (sc.names.lookup y.1=some .local)) &&
 sc.names.all (fun y=>!(decide (y.2=.free)) || (decide (osc.names.lookup y.1=some .cell) || decide (osc.names.lookup y.1=some .free))) &&
 decide (ρ.length=N'.length) && (List.range ρ.length).all fun i=>match ρ[i]? with
  | some (some j)=>(match N'[i]? with|some x=>decide (N[j]? = some x) && decide (sc.names.lookup x=some .free)|none=>false)
  | _=>true
theorem c7.of{X:Cx}{N':List Str}{ρ : List (Option Nat)}{sc:Scope}(hk:sc.kind=.function)(h:Xa X.env.scope X.N N' ρ sc=true):c7 X N' ρ sc:=by
 unfold Xa at h
 simp only[Bool.and_eq_true,List.all_eq_true,Bool.or_eq_true,Bool.not_eq_true',decide_eq_true_eq,decide_eq_false_iff_not] at h
 obtain⟨⟨⟨⟨h1,h2⟩,h3⟩,h4⟩,h5⟩:=h
 refine⟨hk,fun y hy=>h1 y hy,fun y hy e=>(h2 y hy).resolve_left (fun z=>z e),fun y hy e=>(h3 y hy).resolve_left (fun z=>z e),h4,fun i j e=>?_⟩
 have hi:i < ρ.length:=(List.getElem?_eq_some_iff.mp e).1
 have q:=h5 i (List.mem_range.mpr hi)
 rw[e] at q
 cases hN:N'[i]? with
 | none=>rw[hN] at q;cases q
 | some x =>
  rw[hN] at q
  simp only[Bool.and_eq_true,decide_eq_true_eq] at q
  exact⟨x,rfl,q.1,q.2⟩
structure kZ(P:Program)(w:World)(K:W.Frag)(mg:Str→Option Value)(base:Heap)(CX:NQ)(k:Nat)(x:Str)(ps:List Str)(sp:Sp):Prop where
 ex:∃ (f:Addr) (fd:FuncData),mg x=some (.ref f)∧W.keepIn K (.ref f)=true∧Binds K fd ps []∧dz P w K mg base CX k f fd ps sp
theorem aZ{X:Cx}{CX:NQ}{k:Nat}{x:Str}{ps:List Str}{sp:Sp}{E:XK}{e:Expr}{es:List Expr}{t:TA}{p pos:Pos}(C:kZ X.prog X.w X.K X.mg X.base CX k x ps sp)(hr:kW k X.A)(hg:Gl X x)(hx:Et CX X E)
 (ha:PA X (e::es) t) (hdb:(x == ("__debug__" : Str))=false:=by decide) (he:starEach (e::es) X.env=(false,eval e X.env)::starEach es X.env:=by rfl) (hpl:(backTo pos (starEach es X.env)).any (·.1)=false:=by rfl) :
 PE X (.Call (.Name x p) (e::es) [] pos) (vz sp [] E t):=by
 obtain⟨f,fd,hm,hk,hb,F⟩:=C.ex
 exact Ys F hr hg hm hk hb .nil hx ha hdb he hpl
theorem Vv{X:Cx}{x:Str}{T:String}{pos:Pos}(hg:Gl X x)(hm:X.mg x=none)(hv:bootBuiltins x=some (.type T))(hn:x ≠ "__name__" := by decide)(hd:(x == ("__debug__" : Str))=false:=by decide):PE X (.Name x pos) (tC (.ty T)) :=
 Yu hg hm hv rfl hn hd
structure pO(K:W.Frag)(mg:Str→Option Value)(x:Str)(st:Stmt)(ps:List Str):Prop where
 ex:∃ (f:Addr) (fd:FuncData),mg x=some (.ref f)∧W.keepIn K (.ref f)=true∧Binds K fd ps []∧(∀ (s:Shared) (us:List Value),us.length=ps.length→BindsTo s fd ⟨us,[]⟩ (ps.zip us))∧mX K x x st f fd
theorem Pz{K:W.Frag}{h:Heap}{mg:Str→Option Value}{x:Str}{st:Stmt}{ps:List Str}{f:Addr}{oc:Value}{od an:Option Addr}{osl:Array (Option Value)}{kV doc pm cdv ct:Value}(X:K.In h)(G:h.Ns mainGlobals mg)
 (hb:∀ (kV doc pm:Value) (an:Option Addr) (cdv ct:Value) (us:List Value),us.length=ps.length→bindArgs (W.fnOf x x (oA st) (jL st) (aQ st) .none kV doc pm an cdv ct) ⟨us,[]⟩=pure (ps.zip us))
 (a:W.nsIn K mainGlobals x=some (some (.ref f))) (l:K.lookup f=some ⟨oc,od,.func (W.fnOf x x (oA st) (jL st) (aQ st) .none kV doc pm an cdv ct),osl⟩)
 (c:W.codeIn K cdv x=true) (k:W.keepIn K (.ref f)=true):pO K mg x st ps:=by
 have F:=Wu (st:=st) l c k
 exact⟨f,_,W.mg_of X G a,k,F.binds hb,fun s us hl=>.of_eq (hb kV doc pm an cdv ct us hl),F⟩
theorem pO.cal{P:Program}{w:World}{K:W.Frag}{mg:Str→Option Value}{base:Heap}{CX:NQ}{k:Nat}{x:Str}{st:Stmt}{ps:List Str}{sp:Sp}(F:pO K mg x st ps)(h:∀ f fd,mX K x x st f fd→dz P w K mg base CX k f fd ps sp) :
 kZ P w K mg base CX k x ps sp:=by
 obtain⟨f,fd,h1,h2,h3,_,h4⟩:=F.ex
 exact⟨f,fd,h1,h2,h3,h f fd h4⟩
end L2
namespace Mi
open PySem
inductive D where
 | non|bl (b:Bool)|int (i:Int)|str (x:Str)|lst (ds:List D)|tup (ds:List D)
mutual
def D.dep:D→Nat
 | .lst ds=>dq ds+1
 | .tup ds=>dq ds+1
 | _=>0
def dq:List D→Nat
 | []=>0
 | d::r=>max d.dep (dq r)
end
mutual
/-- Python's == -/
def cR:D→D→Bool
 | .non,.non=>true
 | .bl a,.bl b=>a == b
 | .bl a,.int b=>(if a then 1 else 0) == b
 | .int a,.bl b=>a == (if b then 1 else 0)
 | .int a,.int b=>a == b
 | .str a,.str b=>a == b
 | .lst a,.lst b=>fL a b
 | .tup a,.tup b=>fL a b
 | _,_=>false
def fL:List D→List D→Bool
 | [],[]=>true
 | a::r,b::s=>cR a b && fL r s
 | _,_=>false
end
mutual
/-- no list in it -/
def YZ:D→Bool
 | .lst _=>false
 | .tup ds=>YX ds
 | _=>true
def YX:List D→Bool
 | []=>true
 | d::r=>YZ d && YX r
end
def J0(n:Nat)(i:Int):Option Nat:=if 0≤i then (if i < n then some i.toNat else none) else if -(n:Int)≤i then some (i+n).toNat else none
def wB{α : Type}(xs:List α)(i:Int):Option α:=(J0 xs.length i).bind fun j=>xs[j]?
def v8(n d:Nat):Option Int→Nat
 | none=>d
 | some v=>if v < 0 then (v+(n:Int)).toNat else min v.toNat n
def vq{α : Type}(xs:List α)(lo hi:Option Int):List α:=(xs.drop (v8 xs.length 0 lo)).take (v8 xs.length xs.length hi - v8 xs.length 0 lo)
abbrev Ky:=Sum Int Str
inductive W where
 | d (x:D)|dk (kvs:List (Ky×D))|dt (kvs:List (List Ky×D))|ex (c:String)
abbrev Env:=List (Option W)
structure JW where
 cls:String
 val:List D
inductive Rs(α : Type) where
 | ok (a:α)|ex (x:JW)|no
def Rs.bind{α β : Type}:Rs α→(α→Rs β)→Rs β
 | .ok a,f=>f a
 | .ex x,_=>.ex x
 | .no,_=>.no
@[simp] theorem aG {α β : Type} (a:α) (f:α→Rs β):(Rs.ok a).bind f=f a:=rfl
@[simp] theorem aef {α β : Type} (x:JW) (f:α→Rs β):(Rs.ex x).bind f=.ex x:=rfl
@[simp] theorem aee {α β : Type} (f:α→Rs β):(Rs.no).bind f=.no:=rfl
theorem bind_assoc{α β γ : Type}(r:Rs α)(f:α→Rs β)(g:β→Rs γ):(r.bind f).bind g=r.bind fun a=>(f a).bind g:=by cases r<;>rfl
def Fin{α : Type}(r:Rs α)(k:α→Prop):Prop:=match r with
 | .ok a=>k a
 | _=>False
theorem az{α β : Type}{r:Rs α}{f:α→Rs β}{k:β→Prop}:Fin (r.bind f) k↔Fin r fun a=>Fin (f a) k:=by cases r<;>exact Iff.rfl
theorem Fin.mono{α : Type}{r:Rs α}{k k':α→Prop}(h:Fin r k)(m:∀ a,k a→k' a):Fin r k':=by
 cases r with
 | ok a=>exact m a h
 | ex x=>exact h
 | no=>exact h
theorem zP{α : Type}{r s:Rs α}{k:α→Prop}(h:Fin (if true=true then r else s) k):Fin r k:=by simpa using h
theorem zQ{α : Type}{r s:Rs α}{k:α→Prop}(h:Fin (if false=true then r else s) k):Fin s k:=by simpa using h
theorem jK{α : Type}{a:α}{k:α→Prop}(h:Fin (.ok a) k):k a:=h
def t8{α : Type}:Option α→Rs α
 | some a=>.ok a
 | none=>.no
def aU{α : Type}(c:Prop)[Decidable c](r:Rs α):Rs α:=if c then r else .no
theorem aq{α : Type}{c:Prop}[Decidable c]{r:Rs α}(h:c):aU c r=r:=if_pos h
theorem aX{α : Type}{c:Prop}[Decidable c]{r:Rs α}{k:α→Prop}(h:Fin (aU c r) k):c∧Fin r k:=by
 unfold aU at h
 split at h
 ·exact⟨‹_›,h⟩
 ·exact h.elim
abbrev E:=Env→Rs D
abbrev C:=Env→Rs Bool
def mC(d:D):E:=fun _=>.ok d
def mV(i:Nat):E:=fun e=>match e[i]? with
 | some (some (.d x))=>.ok x
 | _=>.no
def m1(f:D→Rs D)(a:E):E:=fun e=>(a e).bind f
def m2(f:D→D→Rs D)(a b:E):E:=fun e=>(a e).bind fun x=>(b e).bind fun y=>f x y
def lF:List E→Env→Rs (List D)
 | [],_=>.ok []
 | a::r,e=>(a e).bind fun x=>(lF r e).bind fun xs=>.ok (x::xs)
def mN(f:List D→Rs D)(as:List E):E:=fun e=>(lF as e).bind f
def dTup(ds:List D):Rs D:=aU (ds.length≤16777216) (.ok (.tup ds))
def fP(ds:List D):Rs D:=aU (ds.length≤16777216) (.ok (.lst ds))
def asB:D→Rs Bool
 | .bl b=>.ok b
 | _=>.no
def yL(a b:E):E:=fun e=>(a e).bind fun x=>(asB x).bind fun c=>if c=true then b e else .ok (.bl false)
def mOr(a b:E):E:=fun e=>(a e).bind fun x=>(asB x).bind fun c=>if c=true then .ok (.bl true) else b e
def yK(f g:D→D→Rs D)(a b c:E):E:=fun e=>(a e).bind fun x=>(b e).bind fun y=>(f x y).bind fun z=>(asB z).bind fun k=>if k=true then (c e).bind fun w=>g y w else .ok (.bl false)
def asI:D→Rs Int
 | .int i=>.ok i
 | _=>.no
def q8:Option E→Env→Rs (Option Int)
 | none,_=>.ok none
 | some a,e=>(a e).bind fun x=>(asI x).bind fun i=>.ok (some i)
def uM(x:Str)(lo hi:Option Int):Str:=⟨(vq x.cps.toList lo hi).toArray⟩
def Tu(x:D)(lo hi:Option Int):Rs D:=match x with
 | .lst ds=>.ok (.lst (vq ds lo hi))
 | .str z=>aU (z.length≤16777216) (.ok (.str (uM z lo hi)))
 | _=>.no
def jh(f:D→Option Int→Option Int→Rs D)(a:E)(lo hi:Option E):E:=fun e=>(a e).bind fun x=>(q8 lo e).bind fun l=>(q8 hi e).bind fun h=>f x l h
def cB(a:E):C:=fun e=>(a e).bind asB
def nq(a b:C):C:=fun e=>(a e).bind fun c=>if c=true then b e else .ok false
def T7(a b:C):C:=fun e=>(a e).bind fun c=>if c=true then .ok true else b e
def lN(a:C):C:=fun e=>(a e).bind fun c=>.ok (!c)
def aeO:D→Rs Bool
 | .non=>.ok false
 | .bl b=>.ok b
 | .int i=>.ok (i != 0)
 | .str y=>aU (y.length≤16777216) (.ok ((y.length:Int) != 0))
 | .lst ds=>.ok (!ds.isEmpty)
 | .tup ds=>.ok (!ds.isEmpty)
def MP(a:E):C:=fun e=>(a e).bind aeO
abbrev I:=Env→Rs (List D)
def Ju:D→Rs (List D)
 | .lst ds=>.ok ds
 | .tup ds=>.ok ds
 | .str x=>.ok (x.cps.toList.map fun c=>.str ⟨#[c]⟩)
 | _=>.no
def lJ(a:E):I:=fun e=>(a e).bind Ju
def du(lo hi:Int):List D:=(List.range (hi - lo).toNat).map fun k=>.int (lo+(k:Nat))
def okR(i:Int):Prop:=-(2 ^ 62)≤i∧i < 2 ^ 62
instance (i:Int):Decidable (okR i):=inferInstanceAs (Decidable (_∧_))
def eQ(a:E):I:=fun e=>(a e).bind fun x=>(asI x).bind fun j=>aU (okR j) (.ok (du 0 j))
def vG(k:Nat):List D→List D
 | []=>[]
 | d::r=>.tup [.int k,d]::vG (k+1) r
def Gn:D→Rs (List D)
 | .lst ds=>.ok ds
 | _=>.no
inductive Tg where
 | n (i:Nat)|t (is:List Nat)
def uh:List Nat→List D→Env→Rs Env
 | [],[],e=>.ok e
 | i::is,d::ds,e=>uh is ds (e.set i (some (.d d)))
 | _,_,_=>.no
def Tg.put:Tg→D→Env→Rs Env
 | .n i,d,e=>.ok (e.set i (some (.d d)))
 | .t is,.tup ds,e=>uh is ds e
 | _,_,_=>.no
def tM(ρ : List (Option Nat))(e:Env):Env:=ρ.map fun o=>o.bind fun j=>(e[j]?).join
def dN(tg:Tg)(c:C)(a:E)(e:Env):List D→Rs (List D)
 | []=>.ok []
 | x::r=>(tg.put x e).bind fun e1=>(c e1).bind fun k=>if k=true then (a e1).bind fun y=>(dN tg c a e r).bind fun ys=>.ok (y::ys) else dN tg c a e r
def jM:C:=fun _=>.ok true
def cW(ρ : List (Option Nat))(it:I)(tg:Tg)(c:C)(a:E):E:=fun e=>(it e).bind fun xs=>aU (xs.length≤16777216) ((dN tg c a (tM ρ e) xs).bind fun ys=>.ok (.lst ys))
abbrev Fn:=List W→Rs W
abbrev EW:=Env→Rs W
def wD(a:E):EW:=fun e=>(a e).bind fun x=>.ok (.d x)
def wV(i:Nat):EW:=fun e=>match e[i]? with
 | some (some w)=>.ok w
 | _=>.no
def bW:List EW→Env→Rs (List W)
 | [],_=>.ok []
 | a::r,e=>(a e).bind fun x=>(bW r e).bind fun xs=>.ok (x::xs)
def qG(f:Fn)(as:List EW):EW:=fun e=>(bW as e).bind f
def asD:W→Rs D
 | .d x=>.ok x
 | _=>.no
def aR(f:Fn)(as:List EW):E:=fun e=>(qG f as e).bind asD
def XD:W→Rs D
 | .d x=>aU (YZ x=true) (.ok x)
 | _=>.no
def mz(f:Fn)(as:List EW):E:=fun e=>(qG f as e).bind XD
inductive Out where
 | nx (e:Env)|rt (w:W)|bk (e:Env)|ct (e:Env)
abbrev S:=Env→Rs Out
def bA:S:=fun e=>.ok (.nx e)
def aW(s t:S):S:=fun e=>(s e).bind fun o=>match o with
 | .nx e'=>t e'
 | o=>.ok o
def Vf(i:Nat)(a:EW):S:=fun e=>(a e).bind fun w=>.ok (.nx (e.set i (some w)))
def bL(i:Nat)(a:E):S:=fun e=>(a e).bind fun d=>.ok (.nx (e.set i (some (.d d))))
def aaS(tg:Tg)(a:E):S:=fun e=>(a e).bind fun d=>(tg.put d e).bind fun e'=>.ok (.nx e')
def qQ(a:E):S:=fun e=>(a e).bind fun _=>.ok (.nx e)
def dg(a:EW):S:=fun e=>(a e).bind fun w=>.ok (.rt w)
def iI(c:C)(s t:S):S:=fun e=>(c e).bind fun k=>if k=true then s e else t e
def gY:S:=fun _=>.no
def rC(tg:Tg)(body:S):List D→Env→Rs Out
 | [],e=>.ok (.nx e)
 | x::r,e=>(tg.put x e).bind fun e1=>(body e1).bind fun o=>match o with
  | .nx e2=>rC tg body r e2
  | .ct e2=>rC tg body r e2
  | .bk e2=>.ok (.nx e2)
  | .rt w=>.ok (.rt w)
def jR(it:I)(tg:Tg)(body:S):S:=fun e=>(it e).bind fun xs=>rC tg body xs e
def jr(c:C)(body:S):Nat→Env→Rs Out
 | 0,_=>.no
 | n+1,e=>(c e).bind fun k=>if k=true then (body e).bind fun o=>match o with
  | .nx e2=>jr c body n e2
  | .ct e2=>jr c body n e2
  | .bk e2=>.ok (.nx e2)
  | .rt w=>.ok (.rt w)
  else .ok (.nx e)
def Cp(n:Nat)(c:C)(body:S):S:=jr c body n
def getL(e:Env)(i:Nat):Rs (List D):=match e[i]? with
 | some (some (.d (.lst ds)))=>.ok ds
 | _=>.no
def putL(e:Env)(i:Nat)(ds:List D):Env:=e.set i (some (.d (.lst ds)))
def bU(i:Nat)(a:E):S:=fun e=>(a e).bind fun d=>(getL e i).bind fun ds=>aU (ds.length < 16777216) (.ok (.nx (putL e i (ds++[d]))))
def rU(i:Nat)(a:E):S:=fun e=>(a e).bind fun d=>(getL e i).bind fun ds=>match d with
 | .lst xs=>aU (ds.length+xs.length≤16777216) (.ok (.nx (putL e i (ds++xs))))
 | _=>.no
def Qy(ds:List D)(i:Int):Rs (D×List D):=aU (-(2 ^ 63)≤i∧i < 2 ^ 63) ((t8 (J0 ds.length i)).bind fun k=>(t8 ds[k]?).bind fun d=>.ok (d,ds.eraseIdx k))
def rW(x y:Nat)(k:E):S:=fun e=>(k e).bind fun z=>(asI z).bind fun i=>(getL e y).bind fun ds=>(Qy ds i).bind fun p=>(getL (putL e y p.2) x).bind fun es =>
 aU (es.length < 16777216) (.ok (.nx (putL (putL e y p.2) x (es++[p.1]))))
def Tv:D→Option Ky
 | .int i=>some (.inl i)
 | .str x=>some (.inr x)
 | _=>none
def Gp:List D→Option (List Ky)
 | []=>some []
 | d::r=>match Tv d,Gp r with
  | some k,some ks=>some (k::ks)
  | _,_=>none
def Fe{κ : Type}[DecidableEq κ](kvs:List (κ×D))(k:κ):Option D:=(kvs.find? fun kv=>decide (kv.1=k)).map (·.2)
def adJ(w:W)(k:D):Rs (Option D):=match w with
 | .dk kvs=>(t8 (Tv k)).bind fun k=>.ok (Fe kvs k)
 | .dt kvs=>match k with
  | .tup ds=>(t8 (Gp ds)).bind fun k=>.ok (Fe kvs k)
  | _=>.no
 | _=>.no
def putK{κ : Type}[DecidableEq κ](k:κ)(v:D)(kvs:List (κ×D)):List (κ×D) :=
 if (kvs.any fun kv=>decide (kv.1=k))=true then kvs.map (fun kv=>if kv.1=k then (kv.1,v) else kv) else kvs++[(k,v)]
def abU(w:W)(k v:D):Rs W:=match w with
 | .dk kvs=>aU (kvs.length < 16777216) ((t8 (Tv k)).bind fun k=>.ok (.dk (putK k v kvs)))
 | .dt kvs=>match k with
  | .tup ds=>aU (kvs.length < 16777216) ((t8 (Gp ds)).bind fun k=>.ok (.dt (putK k v kvs)))
  | _=>.no
 | _=>.no
def I9(i:Nat)(k:E):E:=fun e=>(k e).bind fun d=>(wV i e).bind fun w=>(adJ w d).bind fun o=>.ok (.bl o.isSome)
def pX(i:Nat)(k v:E):S:=fun e=>(v e).bind fun x=>(k e).bind fun d=>(wV i e).bind fun w=>(abU w d x).bind fun w'=>.ok (.nx (e.set i (some w')))
def Dr:Out→Rs W
 | .rt w=>.ok w
 | .nx _=>.ok (.d .non)
 | _=>.no
def uL(k n:Nat)(body:S):Fn:=fun ws=>aU (ws.length=k) ((body (ws.map some++List.replicate (n - ws.length) none)).bind Dr)
def sV:Out→Rs W
 | .rt w=>.ok w
 | _=>.no
def J1(k n:Nat)(body:S):Fn:=fun ws=>aU (ws.length=k) ((body (ws.map some++List.replicate (n - ws.length) none)).bind sV)
def xG(i j:Int):Prop:=(-(2 ^ 64) < i∧i < 2 ^ 64)∨(-(2 ^ 64) < j∧j < 2 ^ 64)
instance (i j:Int):Decidable (xG i j):=inferInstanceAs (Decidable (_∨_))
def xH(j:Int):Prop:=0 < j∧j.natAbs.log2 < 9000
instance (j:Int):Decidable (xH j):=inferInstanceAs (Decidable (_∧_))
def ac5(i j:Int):Prop:=0≤j∧j≤1000000∧i.natAbs < 2 ^ 64
instance (i j:Int):Decidable (ac5 i j):=inferInstanceAs (Decidable (_∧_))
def cG:D→D→Rs D
 | .int i,.int j=>.ok (.int (i+j))
 | .str i,.str j=>aU (i.length+j.length≤16777216) (.ok (.str (i++j)))
 | .lst i,.lst j=>aU (i.length+j.length≤16777216) (.ok (.lst (i++j)))
 | _,_=>.no
def Js:D→D→Rs D
 | .int i,.int j=>.ok (.int (i - j))
 | _,_=>.no
def dM:D→D→Rs D
 | .int i,.int j=>aU (xG i j) (.ok (.int (i * j)))
 | _,_=>.no
def iZ:D→D→Rs D
 | .int i,.int j=>aU (xH j) (.ok (.int (i / j)))
 | _,_=>.no
def cX:D→D→Rs D
 | .int i,.int j=>aU (0 < j) (.ok (.int (i % j)))
 | _,_=>.no
def J2:D→D→Rs D
 | .int i,.int j=>.ok (.bl (decide (i < j)))
 | .str i,.str j=>.ok (.bl (decide (i.cps.toList < j.cps.toList)))
 | _,_=>.no
def XX:D→D→Rs D
 | .int i,.int j=>.ok (.bl (decide (j < i)))
 | .str i,.str j=>.ok (.bl (decide (j.cps.toList < i.cps.toList)))
 | _,_=>.no
def Zd:D→D→Rs D
 | .int i,.int j=>.ok (.bl (decide (i≤j)))
 | _,_=>.no
def oK(x y:D):Rs D:=aU (x.dep≤16) (.ok (.bl (cR x y)))
def wA(x y:D):Rs D:=aU (x.dep≤16) (.ok (.bl (!cR x y)))
def Lz:D→Bool
 | .non=>true
 | _=>false
def DP(x y:D):Rs D:=match y with
 | .non=>.ok (.bl (!Lz x))
 | _=>.no
def pN(x y:D):Rs D:=match y with
 | .lst ds=>aU (dq ds≤16) (.ok (.bl (ds.any fun e=>cR e x)))
 | .tup ds=>aU (dq ds≤16) (.ok (.bl (ds.any fun e=>cR e x)))
 | .str z=>match x with
  | .str s=>aU (s.length=1) (.ok (.bl (decide (s.cps.getD 0 0∈z.cps.toList))))
  | _=>.no
 | _=>.no
def dY(x y:D):Rs D:=match y with
 | .lst ds=>aU (dq ds≤16) (.ok (.bl (!ds.any fun e=>cR e x)))
 | .tup ds=>aU (dq ds≤16) (.ok (.bl (!ds.any fun e=>cR e x)))
 | _=>.no
def cz(x y:D):Rs D:=match x,y with
 | .lst ds,.int i=>t8 (wB ds i)
 | .tup ds,.int i=>t8 (wB ds i)
 | .str z,.int i=>aU (z.length≤16777216) ((t8 (wB z.cps.toList i)).bind fun c=>.ok (.str ⟨#[c]⟩))
 | _,_=>.no
def gB:List D→Rs D
 | [.lst ds]=>.ok (.int ds.length)
 | [.tup ds]=>.ok (.int ds.length)
 | [.str z]=>aU (z.length≤16777216) (.ok (.int z.length))
 | _=>.no
def zf:List D→Rs D
 | [.int i,.int j]=>.ok (.int (max i j))
 | _=>.no
def M9:List D→Rs D
 | [.int i,.int j]=>.ok (.int (min i j))
 | _=>.no
def JN:List D→Option (List Bool)
 | []=>some []
 | .bl b::r=>(JN r).map (b :: ·)
 | _=>none
def Ua:List D→Rs D
 | [.lst ds]=>(t8 (JN ds)).bind fun bs=>.ok (.bl (bs.all id))
 | _=>.no
def GZ:List D→Rs D
 | [.lst ds]=>.ok (.lst ds)
 | [.tup ds]=>.ok (.lst ds)
 | _=>.no
def tG:List D→Rs D
 | [.lst ds]=>.ok (.tup ds)
 | [.tup ds]=>.ok (.tup ds)
 | _=>.no
def ab0:List D→Rs D
 | [.int i]=>.ok (.int i)
 | [.bl k]=>.ok (.int (if k then 1 else 0))
 | _=>.no
def YT(t:String):D→Bool
 | .non=>false
 | .bl _=>t == "bool" || t == "int"
 | .int _=>t == "int"
 | .str _=>t == "str"
 | .lst _=>t == "list"
 | .tup _=>t == "tuple"
def Uw:D→String
 | .non => "NoneType" | .bl _ => "bool" | .int _ => "int" | .str _ => "str" | .lst _ => "list" | .tup _ => "tuple"
def bIs(ts:List String)(x:D):Rs D:=.ok (.bl (ts.any fun t=>YT t x))
def pH:List D→Option (List Str)
 | []=>some []
 | .str b::r=>(pH r).map (b :: ·)
 | _=>none
def Rt(x y:D):Rs D:=match x,y with
 | .str sep,.lst ds=>(t8 (pH ds)).bind fun ys=>aU ((ys.map (·.length)).sum+ys.length * sep.length≤16777216) (.ok (.str (Str.join sep ys)))
 | _,_=>.no
def met(val:Nat→Str):Nat→List Str
 | 0=>[]
 | i+1=>if val i∈met val i then met val i else met val i++[val i]
def Jd(ys:List Str):Nat:=(met (fun i=>ys.getD i Str.empty) ys.length).length
end Mi
namespace L2
open PySem PySem.Spec PyProof.Rows
open Mi (D dq cR fL)
mutual
theorem yD:∀ d:D,cR d d=true
 | .non=>rfl
 | .bl b=>by simp[cR]
 | .int i=>by simp[cR]
 | .str x=>by simp[cR]
 | .lst ds=>by rw[cR];exact v9 ds
 | .tup ds=>by rw[cR];exact v9 ds
theorem v9:∀ ds:List D,fL ds ds=true
 | []=>rfl
 | d::r=>by rw[fL,yD d,v9 r];rfl
end
theorem qR:∀ {ds es:List D},ds.length≠es.length→fL ds es=false
 | [],[],h=>absurd rfl h
 | [],_::_,_=>rfl
 | _::_,[],_=>rfl
 | d::r,e::s,h=>by rw[fL,qR (fun z=>h (by rw[List.length_cons,List.length_cons,z])),Bool.and_false]
theorem qT:∀ {ds es:List D},ds.length=es.length→fL ds es=(List.range ds.length).all fun j=>cR (ds.getD j .non) (es.getD j .non)
 | [],[],_=>rfl
 | [],_::_,h=>by simp at h
 | _::_,[],h=>by simp at h
 | d::r,e::s,h=>by
  rw[fL,qT (by simpa using h),List.length_cons,List.range_succ_eq_map,List.all_cons,List.all_map]
  rfl
mutual
/-- the value v in the heap H is the tree d -/
def Rep(K:W.Frag)(H:Hp):D→V→Prop
 | .non,v=>v=.non
 | .bl b,v=>v=.bl b
 | .int i,v=>v=.int i
 | .str x,v=>v=.str x
 | .lst ds,v=>∃ a xs,v=.ref a∧Aw K H a xs∧cO K H ds xs
 | .tup ds,v=>∃ a xs,v=.ref a∧Ab K H a xs∧cO K H ds xs
def cO(K:W.Frag)(H:Hp):List D→List V→Prop
 | [],vs=>vs=[]
 | d::ds,vs=>∃ v r,vs=v::r∧Rep K H d v∧cO K H ds r
end
theorem cO.length{K:W.Frag}{H:Hp}:∀ {ds:List D} {vs:List V},cO K H ds vs→ds.length=vs.length
 | [],vs,h=>by rw[cO] at h;subst h;rfl
 | d::ds,vs,h=>by
  rw[cO] at h
  obtain⟨v,r,rfl,_,q⟩:=h
  rw[List.length_cons,List.length_cons,cO.length q]
theorem cO.get{K:W.Frag}{H:Hp}:∀ {ds:List D} {vs:List V} {j:Nat} {v:V},cO K H ds vs→vs[j]? = some v→Rep K H (ds.getD j .non) v
 | [],vs,j,v,h,e=>by rw[cO] at h;subst h;simp at e
 | d::ds,vs,0,v,h,e=>by
  rw[cO] at h
  obtain⟨v',r,rfl,p,q⟩:=h
  simp at e;subst e;exact p
 | d::ds,vs,j+1,v,h,e=>by
  rw[cO] at h
  obtain⟨v',r,rfl,p,q⟩:=h
  have:=cO.get (j:=j) (v:=v) q (by simpa using e)
  simpa using this
section
variable{X:Cx}{pins:List (Addr×Obj)}{σ : St}{H:Hp}{s:Shared}
theorem Inv.Lr(I:Inv X pins σ H s){a:Addr}{xs ys:List V}(h:Aw X.K H a xs)(h':Ab X.K H a ys):False:=by
 obtain⟨its,_,p,_⟩:=I.list h
 obtain⟨its',_,q,_⟩:=I.tuple h'
 obtain⟨o,n,e,c,_⟩:=p
 obtain⟨o',e',c',_⟩:=q
 rw[e] at e';cases e'
 rw[c] at c'
 exact absurd (Value.type.inj c') (by decide)
mutual
theorem Rep.inj(I:Inv X pins σ H s):∀ {d e:D} {v:V},Rep X.K H d v→Rep X.K H e v→d=e
 | .non,e,v,h,h'=>by
  rw[Rep] at h;subst h
  cases e<;>rw[Rep] at h'<;>first|rfl|(obtain⟨_,_,z,_⟩:=h';cases z)|cases h'
 | .bl b,e,v,h,h'=>by
  rw[Rep] at h;subst h
  cases e<;>rw[Rep] at h'<;>first|(obtain⟨_,_,z,_⟩:=h';cases z)|(cases h';rfl)|cases h'
 | .int b,e,v,h,h'=>by
  rw[Rep] at h;subst h
  cases e<;>rw[Rep] at h'<;>first|(obtain⟨_,_,z,_⟩:=h';cases z)|(cases h';rfl)|cases h'
 | .str b,e,v,h,h'=>by
  rw[Rep] at h;subst h
  cases e<;>rw[Rep] at h'<;>first|(obtain⟨_,_,z,_⟩:=h';cases z)|(cases h';rfl)|cases h'
 | .lst ds,e,v,h,h'=>by
  rw[Rep] at h
  obtain⟨a,xs,rfl,q,r⟩:=h
  cases e with
  | lst es =>
   rw[Rep] at h'
   obtain⟨a',xs',z,q',r'⟩:=h'
   cases z
   rw[I.CW q' q] at r'
   rw[cO.inj I r r']
  | tup es =>
   rw[Rep] at h'
   obtain⟨a',xs',z,q',r'⟩:=h'
   cases z
   exact(I.Lr q q').elim
  | _=>rw[Rep] at h';cases h'
 | .tup ds,e,v,h,h'=>by
  rw[Rep] at h
  obtain⟨a,xs,rfl,q,r⟩:=h
  cases e with
  | tup es =>
   rw[Rep] at h'
   obtain⟨a',xs',z,q',r'⟩:=h'
   cases z
   rw[I.yj q' q] at r'
   rw[cO.inj I r r']
  | lst es =>
   rw[Rep] at h'
   obtain⟨a',xs',z,q',r'⟩:=h'
   cases z
   exact(I.Lr q' q).elim
  | _=>rw[Rep] at h';cases h'
theorem cO.inj(I:Inv X pins σ H s):∀ {ds es:List D} {vs:List V},cO X.K H ds vs→cO X.K H es vs→ds=es
 | [],es,vs,h,h'=>by
  rw[cO] at h;subst h
  cases es with
  | nil=>rfl
  | cons e es=>rw[cO] at h';obtain⟨_,_,z,_⟩:=h';cases z
 | d::ds,es,vs,h,h'=>by
  rw[cO] at h
  obtain⟨v,r,rfl,p,q⟩:=h
  cases es with
  | nil=>rw[cO] at h';cases h'
  | cons e es =>
   rw[cO] at h'
   obtain⟨v',r',z,p',q'⟩:=h'
   cases z
   rw[Rep.inj I p p',cO.inj I q q']
end
theorem yX:∀ {ds:List D} {j:Nat},(ds.getD j .non).dep≤dq ds
 | [],j=>by simp[D.dep]
 | d::ds,0=>by simp[dq];omega
 | d::ds,j+1=>by
  have:=yX (ds:=ds) (j:=j)
  have e:(d::ds).getD (j+1) .non=ds.getD j .non:=by simp
  rw[e,dq];omega
def _root_.Mi.D.flat:D→Bool
 | .lst _=>false
 | .tup _=>false
 | _=>true
def _root_.Mi.D.toV:D→V
 | .non=>.non|.bl b=>.bl b|.int i=>.int i|.str x=>.str x|.lst _=>.non|.tup _=>.non
theorem Rep.flat{K:W.Frag}:∀ {d:D} {v:V},d.flat=true→Rep K H d v→v=d.toV∧Wx v=true
 | .non,v,_,h=>by rw[Rep] at h;subst h;exact⟨rfl,rfl⟩
 | .bl b,v,_,h=>by rw[Rep] at h;subst h;exact⟨rfl,rfl⟩
 | .int b,v,_,h=>by rw[Rep] at h;subst h;exact⟨rfl,rfl⟩
 | .str b,v,_,h=>by rw[Rep] at h;subst h;exact⟨rfl,rfl⟩
 | .lst _,v,z,h=>by cases z
 | .tup _,v,z,h=>by cases z
theorem R9:∀ {d e:D},d.flat=true→e.flat=true→cR d e=eqV d.toV e.toV:=by
 intro d e h1 h2
 cases d<;>cases e<;>first|rfl|exact absurd (show false=true from h1) Bool.false_ne_true|exact absurd (show false=true from h2) Bool.false_ne_true
open SeqAt in
theorem WD(I:Inv X pins σ H s):∀ (n:Nat) (d e:D) (A:Around) {x y:V} {u u':Value},d.dep≤n→A.units+n < cLine→Rep X.K H d x→Rep X.K H e y→RelV x u→RelV y u'→EqAt A s u u' (cR d e):=by
 intro n
 induction n using Nat.strongRecOn with
 | ind n ih =>
  intro d e A x y u u' hd hu h h' r r'
  have hu0:A.units < cLine:=by omega
  by_cases hdf:d.flat=true
  ·obtain⟨ex,fx⟩:=h.flat hdf
   subst ex
   by_cases hef:e.flat=true
   ·obtain⟨ey,fy⟩:=h'.flat hef
    subst ey
    rw[R9 hdf hef]
    exact abQ r r' fx fy
   ·cases e with
    | lst es =>
     rw[Rep] at h'
     obtain⟨a,xs,rfl,q,_⟩:=h'
     cases r'
     obtain⟨its,_,p,_⟩:=I.list q
     cases d with
     | non=>cases r;exact EqAt.none_list p.isList hu0
     | bl b=>cases r;exact EqAt.bool_list b p.isList hu0
     | int b=>obtain⟨t,rfl⟩:=r;exact EqAt.int_list b t p.isList hu0
     | str b=>obtain⟨t,rfl⟩:=r;exact EqAt.str_list b t p.isList hu0
     | _=>cases hdf
    | tup es =>
     rw[Rep] at h'
     obtain⟨a,xs,rfl,q,_⟩:=h'
     cases r'
     obtain⟨its,_,p,_⟩:=I.tuple q
     cases d with
     | non=>cases r;exact EqAt.none_tuple p hu0
     | bl b=>cases r;exact EqAt.bool_tuple b p hu0
     | int b=>obtain⟨t,rfl⟩:=r;exact EqAt.int_tuple b t p hu0
     | str b=>obtain⟨t,rfl⟩:=r;exact EqAt.str_tuple b t p hu0
     | _=>cases hdf
    | _=>exact absurd rfl hef
  ·by_cases hef:e.flat=true
   ·obtain⟨ey,fy⟩:=h'.flat hef
    subst ey
    cases d with
    | lst ds =>
     rw[Rep] at h
     obtain⟨a,xs,rfl,q,_⟩:=h
     cases r
     obtain⟨its,_,p,_⟩:=I.list q
     cases e with
     | non=>cases r';exact EqAt.list_none p.isList hu0
     | bl b=>cases r';exact EqAt.list_bool b p.isList hu0
     | int b=>obtain⟨t,rfl⟩:=r';exact EqAt.list_int b t p.isList hu0
     | str b=>obtain⟨t,rfl⟩:=r';exact EqAt.list_str b t p.isList hu0
     | _=>cases hef
    | tup ds =>
     rw[Rep] at h
     obtain⟨a,xs,rfl,q,_⟩:=h
     cases r
     obtain⟨its,_,p,_⟩:=I.tuple q
     cases e with
     | non=>cases r';exact EqAt.tuple_none p hu0
     | bl b=>cases r';exact EqAt.tuple_bool b p hu0
     | int b=>obtain⟨t,rfl⟩:=r';exact EqAt.tuple_int b t p hu0
     | str b=>obtain⟨t,rfl⟩:=r';exact EqAt.tuple_str b t p hu0
     | _=>cases hef
    | _=>exact absurd rfl hdf
   ·-- both are lists or tuples
    have item:∀ {ds es:List D} {xs ys:List V} {its its':List Value},dq ds+1≤n→cO X.K H ds xs→cO X.K H es ys→Vals xs its→Vals ys its' →
     ∀ j (h1:j < its.toArray.size) (h2:j < its'.toArray.size),EqAt A.in1 s its.toArray[j] its'.toArray[j] (cR (ds.getD j .non) (es.getD j .non)):=by
     intro ds es xs ys its its' hn q q' v v' j h1 h2
     have h1':j < its.length:=by simpa using h1
     have h2':j < its'.length:=by simpa using h2
     have e1:j < xs.length:=by rw[v.length];exact h1'
     have e2:j < ys.length:=by rw[v'.length];exact h2'
     have g1:xs[j]? = some xs[j]:=by simp[e1]
     have g2:ys[j]? = some ys[j]:=by simp[e2]
     obtain⟨w1,k1,r1⟩:=v.get g1
     obtain⟨w2,k2,r2⟩:=v'.get g2
     have t1:its.toArray[j]=w1:=by obtain⟨_,k1⟩:=List.getElem?_eq_some_iff.mp k1;simpa using k1
     have t2:its'.toArray[j]=w2:=by obtain⟨_,k2⟩:=List.getElem?_eq_some_iff.mp k2;simpa using k2
     rw[t1,t2]
     have:=yX (ds:=ds) (j:=j)
     refine ih (n - 1) (by omega) _ _ A.in1 (by omega) ?_ (q.get g1) (q'.get g2) r1 r2
     show A.units+1+(n - 1) < cLine
     omega
    cases d with
    | lst ds =>
     rw[Rep] at h
     obtain⟨a,xs,rfl,q,rr⟩:=h
     cases r
     obtain⟨its,v,p,_⟩:=I.list q
     have hn:dq ds+1≤n:=by simpa [D.dep] using hd
     cases e with
     | lst es =>
      rw[Rep] at h'
      obtain⟨b,ys,rfl,q',rr'⟩:=h'
      cases r'
      obtain⟨its',v',p',_⟩:=I.list q'
      by_cases hab:a=b
      ·subst hab
       rw[I.CW q' q] at rr'
       rw[cO.inj I rr rr',yD]
       exact EqAt.same _
      ·have l1:=rr.length
       have l2:=rr'.length
       have l3:=v.length
       have l4:=v'.length
       by_cases hl:ds.length=es.length
       ·rw[cR,qT hl]
        have:=RcAt.lists p.isList p'.isList (by simp;omega) hu0 (item hn rr rr' v v')
        have e:its.toArray.size=ds.length:=by simp;omega
        rw[e] at this
        exact .of_refs hab this
       ·rw[cR,qR hl]
        exact .of_refs hab (RcAt.lists_lengths p.isList p'.isList (by simp;omega) hu0)
     | tup es =>
      rw[Rep] at h'
      obtain⟨b,ys,rfl,q',_⟩:=h'
      cases r'
      obtain⟨its',_,p',_⟩:=I.tuple q'
      exact EqAt.list_tuple p.isList p' hu0
     | _=>exact absurd rfl hef
    | tup ds =>
     rw[Rep] at h
     obtain⟨a,xs,rfl,q,rr⟩:=h
     cases r
     obtain⟨its,v,p,_⟩:=I.tuple q
     have hn:dq ds+1≤n:=by simpa [D.dep] using hd
     cases e with
     | tup es =>
      rw[Rep] at h'
      obtain⟨b,ys,rfl,q',rr'⟩:=h'
      cases r'
      obtain⟨its',v',p',_⟩:=I.tuple q'
      by_cases hab:a=b
      ·subst hab
       rw[I.yj q' q] at rr'
       rw[cO.inj I rr rr',yD]
       exact EqAt.same _
      ·have l1:=rr.length
       have l2:=rr'.length
       have l3:=v.length
       have l4:=v'.length
       have R:=RcAt.tuples p p' hu0 (item hn rr rr' v v')
       have e1:its.toArray.size=ds.length:=by simp;omega
       have e2:its'.toArray.size=es.length:=by simp;omega
       rw[e1,e2] at R
       by_cases hl:ds.length=es.length
       ·rw[cR,qT hl]
        rw[hl,Nat.min_self,beq_self_eq_true,Bool.and_true,← hl] at R
        exact .of_refs hab R
       ·rw[cR,qR hl]
        have:(ds.length == es.length)=false:=by simpa using hl
        rw[this,Bool.and_false] at R
        exact .of_refs hab R
     | lst es =>
      rw[Rep] at h'
      obtain⟨b,ys,rfl,q',_⟩:=h'
      cases r'
      obtain⟨its',_,p',_⟩:=I.list q'
      exact EqAt.tuple_list p p'.isList hu0
     | _=>exact absurd rfl hef
    | _=>exact absurd rfl hdf
def Yo(K:W.Frag)(neg:Bool):R2:=fun x y H Q=>∃ (p:Addr) (xs:List V) (d:D) (ds:List D),y=.ref p∧(Aw K H p xs∨Ab K H p xs)∧Rep K H d x∧cO K H ds xs∧dq ds≤16 ∧
 Q (.bl (if neg then !ds.any (fun e=>cR e d) else ds.any (fun e=>cR e d))) H
theorem cO.main{K:W.Frag}:∀ {ds:List D} {xs:List V} {us:List Value},cO K H ds xs→Vals xs us→∀ u∈us,∃ b∈ds,∃ y,Rep K H b y∧RelV y u
 | [],xs,us,hr,hv,u,hu=>by
  rw[cO] at hr;subst hr;cases hv;cases hu
 | b::bs,xs,us,hr,hv,u,hu=>by
  rw[cO] at hr
  obtain⟨y,r,rfl,p,q⟩:=hr
  cases hv with
  | cons ry t =>
   rcases List.mem_cons.mp hu with rfl|hu
   ·exact⟨b,List.mem_cons_self,_,p,ry⟩
   ·obtain⟨b',hb',w⟩:=cO.main q t u hu
    exact⟨b',List.mem_cons_of_mem _ hb',w⟩
theorem cO.any{K:W.Frag}{e:Value→Bool}{f:D→Bool}(key:∀ b y u,Rep K H b y→RelV y u→e u=f b):∀ {ds:List D} {xs:List V} {us:List Value},cO K H ds xs→Vals xs us→us.any e=ds.any f
 | [],xs,us,hr,hv=>by
  rw[cO] at hr;subst hr;cases hv;rfl
 | b::bs,xs,us,hr,hv=>by
  rw[cO] at hr
  obtain⟨y,r,rfl,p,q⟩:=hr
  cases hv with
  | cons ry t=>rw[List.any_cons,List.any_cons,key b y _ p ry,cO.any key q t]
theorem Rm:∀ {ds:List D} {b:D},b∈ds→b.dep≤dq ds
 | d::ds,b,h=>by
  rw[dq]
  rcases List.mem_cons.mp h with rfl|h
  ·omega
  ·have:=Rm h;omega
open Classical in
theorem Bd(I:Inv X pins σ H s){A:Around}(hu:A.units+16 < cLine){d:D}{x:V}{v:Value}(hx:Rep X.K H d x)(rx:RelV x v){ds:List D}{xs:List V}{us:List Value}(hd:dq ds≤16)(hr:cO X.K H ds xs)(hv:Vals xs us) :
 ∃ e:Value→Bool,(∀ u∈us,SeqAt.EqAt A s u v (e u))∧us.any e=ds.any (fun b=>cR b d):=by
 have key:∀ b y u,Rep X.K H b y→RelV y u→(fun u=>decide (∃ b y,Rep X.K H b y∧RelV y u∧cR b d=true)) u=cR b d:=by
  intro b y u hb hy
  cases hp:cR b d with
  | true=>exact decide_eq_true ⟨b,y,hb,hy,hp⟩
  | false =>
   refine decide_eq_false ?_
   rintro ⟨b',y',hb',hy',hp'⟩
   have:=hy.inj hy'
   subst this
   rw[Rep.inj I hb hb',hp'] at hp
   cases hp
 refine⟨fun u=>decide (∃ b y,Rep X.K H b y∧RelV y u∧cR b d=true),fun u hu'=>?_,cO.any key hr hv⟩
 obtain⟨b,hb,y,rb,ry⟩:=cO.main hr hv u hu'
 rw[key b y u rb ry]
 exact WD I 16 b d A (Nat.le_trans (Rm hb) hd) hu rb hx ry rx
theorem abd(hu:X.A.units+64 < cLine):rH X (compareOp .In) (Yo X.K false):=by
 intro pins s σ H x y v u Q I rx ry h
 obtain⟨p,xs,d,ds,rfl,hq,hx,hr,hd,q⟩:=h
 cases ry
 have hu1:X.A.in1.units+16 < cLine:=by show X.A.units+1+16 < cLine;omega
 rcases hq with hq|hq
 ·obtain⟨its,r,pl,hz⟩:=I.list hq
  obtain⟨e,he,ea⟩:=Bd I hu1 hx rx hd hr r
  refine SeqAt.in_listAt e pl.isList (fun w hw=>he w (by simpa using hw)) ⟨.bl _,H,I,rfl,?_⟩
  rw[show its.toArray.any e=its.any e by simp,ea]
  exact q
 ·obtain⟨its,r,pl,hz⟩:=I.tuple hq
  obtain⟨e,he,ea⟩:=Bd I hu1 hx rx hd hr r
  refine SeqAt.in_tupleAt e pl (fun w hw=>he w (by simpa using hw)) ⟨.bl _,H,I,rfl,?_⟩
  rw[show its.toArray.any e=its.any e by simp,ea]
  exact q
theorem jG(hu:X.A.units+64 < cLine):rH X (compareOp .NotIn) (Yo X.K true):=by
 intro pins s σ H x y v u Q I rx ry h
 obtain⟨p,xs,d,ds,rfl,hq,hx,hr,hd,q⟩:=h
 cases ry
 have hu1:X.A.in1.units+16 < cLine:=by show X.A.units+1+16 < cLine;omega
 rcases hq with hq|hq
 ·obtain⟨its,r,pl,hz⟩:=I.list hq
  obtain⟨e,he,ea⟩:=Bd I hu1 hx rx hd hr r
  refine SeqAt.notIn_listAt e pl.isList (fun w hw=>he w (by simpa using hw)) ⟨.bl _,H,I,rfl,?_⟩
  rw[show its.toArray.any e=its.any e by simp,ea]
  exact q
 ·obtain⟨its,r,pl,hz⟩:=I.tuple hq
  obtain⟨e,he,ea⟩:=Bd I hu1 hx rx hd hr r
  refine SeqAt.notIn_tupleAt e pl (fun w hw=>he w (by simpa using hw)) ⟨.bl _,H,I,rfl,?_⟩
  rw[show its.toArray.any e=its.any e by simp,ea]
  exact q
end
end L2
namespace L2
open PySem PySem.Spec PyProof.Rows
theorem xu{H:Hp}{p:Addr}{o:HO}(hp:H p=none):jA H (upd H p o):=fun b u e=>by rw[aN (bh e hp)];exact e
theorem BR:∀ {ys:List Str} {us:List Value},Vals (ys.map V.str) us→StrsAre us ys
 | [],_,.nil=>.nil
 | y::ys,_,.cons r t=>by
  obtain⟨tk,rfl⟩:=(show ∃ tk,_=Value.str y tk from r)
  exact .cons y tk (BR t)
section
variable{X:Cx}
def rJoin(K:W.Frag):V→List V→Hp→VK→Prop:=fun x vs H Q=>∃ (sep:Str) (p:Addr) (ys:List Str),x=.str sep∧vs=[.ref p]∧Aw K H p (ys.map V.str)∧(ys.map (·.length)).sum+ys.length * sep.length≤16777216∧Q (.str (Str.join sep ys)) H
theorem QM:MtR X "str.join" (rJoin X.K):=by
 intro pins s σ H x vs v us Q I rx rv h
 obtain⟨sep,p,ys,rfl,rfl,hq,hz,q⟩:=h
 obtain⟨t,rfl⟩:=rx
 obtain⟨u,rfl,ru⟩:=rv.one
 cases ru
 obtain⟨its,r,pl,_⟩:=I.list hq
 refine join_list pl.isList (by simpa using BR r) hz fun t' k=>⟨.str (Str.join sep ys),H,I.tok k,⟨t',?_⟩,q⟩
 show Value.str (Builtin.Str.glued sep ys) t'=_
 rw[StrLaws.glued_eq_join]
def aay(i j:Int):Prop:=0 < j∧j.natAbs.log2 < 9000
theorem fM:rH X (binaryOp .FloorDiv) (rI aay fun i j=>.int (i / j)):=opI fun i j _ _ _ _ _ hc q=>by
 refine floordiv_int (by have:=hc.1;omega) ?_ (.inl (PyProof.noPylong_of_log2 hc.2))
 rw[Int.fdiv_eq_ediv_of_nonneg i (by have:=hc.1;omega)]
 exact q
theorem PX(hc:X.calm=true):jQ X (.builtin "max") (fun xs H Q=>∃ i j z,xs=[.int i,.int j]∧max i j=z∧Q (.int z) H):=by
 intro pins s σ H xs us Q I r ⟨i,j,z,e1,e2,q⟩
 subst e2
 refine TY hc pins s σ H xs us Q I r ⟨i,j,e1,?_⟩
 rw[show (if j > i then j else i)=max i j by split<;>omega]
 exact q
theorem PQ(hc:X.calm=true):jQ X (.builtin "min") (fun xs H Q=>∃ i j z,xs=[.int i,.int j]∧min i j=z∧Q (.int z) H):=by
 intro pins s σ H xs us Q I r ⟨i,j,z,e1,e2,q⟩
 subst e2
 refine TX hc pins s σ H xs us Q I r ⟨i,j,e1,?_⟩
 rw[show (if j < i then j else i)=min i j by split<;>omega]
 exact q
end
end L2
namespace A
open PySem L2 PyProof.Rows
open Mi (D W Rs Fin az)
inductive P2{α β : Type}(F:α→β→Prop):List α→List β→Prop
 | nil:P2 F [] []
 | cons {a b l m}:F a b→P2 F l m→P2 F (a::l) (b::m)
section
variable{α β : Type}{F G:α→β→Prop}
theorem P2.imp(h:∀ a b,F a b→G a b):∀ {l m},P2 F l m→P2 G l m
 | _,_,.nil=>.nil
 | _,_,.cons x t=>.cons (h _ _ x) (t.imp h)
theorem P2.len:∀ {l m},P2 F l m→l.length=m.length
 | _,_,.nil=>rfl
 | _,_,.cons _ t=>by rw[List.length_cons,List.length_cons,t.len]
theorem P2.append:∀ {l m l' m'},P2 F l m→P2 F l' m'→P2 F (l++l') (m++m')
 | _,_,_,_,.nil,s=>s
 | _,_,_,_,.cons x t,s=>.cons x (t.append s)
theorem P2.get:∀ {l m} {i:Nat} {a b},P2 F l m→l[i]? = some a→m[i]? = some b→F a b
 | _,_,_,_,_,.nil,e,_=>by simp at e
 | _,_,0,_,_,.cons x _,e,e'=>by simp at e e';subst e e';exact x
 | _,_,i+1,a,b,.cons _ t,e,e'=>t.get (i:=i) (by simpa using e) (by simpa using e')
theorem P2.getL{l m}{i:Nat}{a}(t:P2 F l m)(e:l[i]? = some a):∃ b,m[i]? = some b∧F a b:=by
 have h:i < m.length:=by rw[← t.len];exact(List.getElem?_eq_some_iff.mp e).1
 exact⟨m[i],by simp[h],t.get e (by simp[h])⟩
theorem P2.aeK{l m}{i:Nat}{b}(t:P2 F l m)(e:m[i]? = some b):∃ a,l[i]? = some a∧F a b:=by
 have h:i < l.length:=by rw[t.len];exact(List.getElem?_eq_some_iff.mp e).1
 exact⟨l[i],by simp[h],t.get (by simp[h]) e⟩
theorem P2.take:∀ {l m} (n:Nat),P2 F l m→P2 F (l.take n) (m.take n)
 | _,_,0,_=>.nil
 | _,_,_+1,.nil=>.nil
 | _,_,n+1,.cons x t=>.cons x (t.take n)
theorem P2.drop:∀ {l m} (n:Nat),P2 F l m→P2 F (l.drop n) (m.drop n)
 | _,_,0,t=>t
 | _,_,_+1,.nil=>.nil
 | _,_,n+1,.cons _ t=>t.drop n
theorem P2.erase:∀ {l m} (n:Nat),P2 F l m→P2 F (l.eraseIdx n) (m.eraseIdx n)
 | _,_,_,.nil=>.nil
 | _,_,0,.cons _ t=>t
 | _,_,n+1,.cons x t=>.cons x (t.erase n)
end
def Lst(H:Hp)(a:Addr)(xs:List V):Prop:=H a=some (.lst xs)∨∃ o,H a=some (.frz o (.lst xs))
mutual
def Rep(H:Hp):D→V→Prop
 | .non,v=>v=.non
 | .bl b,v=>v=.bl b
 | .int i,v=>v=.int i
 | .str x,v=>v=.str x
 | .lst ds,v=>∃ a xs,v=.ref a∧Lst H a xs∧cO H ds xs
 | .tup ds,v=>∃ a xs,v=.ref a∧H a=some (.tup xs)∧cO H ds xs
def cO(H:Hp):List D→List V→Prop
 | [],vs=>vs=[]
 | d::ds,vs=>∃ v r,vs=v::r∧Rep H d v∧cO H ds r
end
theorem oU{H:Hp}:∀ {ds:List D} {vs:List V},cO H ds vs↔P2 (Rep H) ds vs
 | [],vs=>by
  rw[cO]
  exact⟨fun h=>by subst h;exact .nil,fun h=>by cases h;rfl⟩
 | d::ds,vs=>by
  rw[cO]
  constructor
  ·rintro ⟨v,r,rfl,p,q⟩
   exact .cons p (oU.mp q)
  ·intro h
   cases h with
   | cons p q=>exact⟨_,_,rfl,p,oU.mpr q⟩
@[simp] theorem Qw {H:Hp} {v:V}:Rep H .non v↔v=.non:=by rw[Rep]
@[simp] theorem yz {H:Hp} {v:V} {b:Bool}:Rep H (.bl b) v↔v=.bl b:=by rw[Rep]
@[simp] theorem rZ {H:Hp} {v:V} {b:Int}:Rep H (.int b) v↔v=.int b:=by rw[Rep]
@[simp] theorem pY {H:Hp} {v:V} {b:Str}:Rep H (.str b) v↔v=.str b:=by rw[Rep]
theorem oh{H:Hp}{v:V}{ds:List D}:Rep H (.lst ds) v↔∃ a xs,v=.ref a∧Lst H a xs∧P2 (Rep H) ds xs:=by
 rw[Rep];exact⟨fun ⟨a,xs,e,l,r⟩=>⟨a,xs,e,l,oU.mp r⟩,fun ⟨a,xs,e,l,r⟩=>⟨a,xs,e,l,oU.mpr r⟩⟩
theorem jn{H:Hp}{v:V}{ds:List D}:Rep H (.tup ds) v↔∃ a xs,v=.ref a∧H a=some (.tup xs)∧P2 (Rep H) ds xs:=by
 rw[Rep];exact⟨fun ⟨a,xs,e,l,r⟩=>⟨a,xs,e,l,oU.mp r⟩,fun ⟨a,xs,e,l,r⟩=>⟨a,xs,e,l,oU.mpr r⟩⟩
theorem Lst.same{H H':Hp}{a:Addr}{xs:List V}(s:jA H H')(h:Lst H a xs):Lst H' a xs:=by
 rcases h with h|⟨o,h⟩
 ·exact .inl (s _ _ h)
 ·exact .inr ⟨o,s _ _ h⟩
theorem Lst.sq{K:W.Frag}{H:Hp}{a:Addr}{xs:List V}(h:Lst H a xs):Aw K H a xs:=.inl h
mutual
theorem oV{H H':Hp}(s:jA H H'):∀ {d:D} {v:V},Rep H d v→Rep H' d v
 | .non,v,h=>by rw[Rep] at h ⊢;exact h
 | .bl b,v,h=>by rw[Rep] at h ⊢;exact h
 | .int i,v,h=>by rw[Rep] at h ⊢;exact h
 | .str x,v,h=>by rw[Rep] at h ⊢;exact h
 | .lst ds,v,h=>by
  rw[Rep] at h ⊢
  obtain⟨a,xs,e,q,r⟩:=h
  exact⟨a,xs,e,q.same s,yx s r⟩
 | .tup ds,v,h=>by
  rw[Rep] at h ⊢
  obtain⟨a,xs,e,q,r⟩:=h
  exact⟨a,xs,e,s _ _ q,yx s r⟩
theorem yx{H H':Hp}(s:jA H H'):∀ {ds:List D} {vs:List V},cO H ds vs→cO H' ds vs
 | [],vs,h=>by rw[cO] at h ⊢;exact h
 | d::ds,vs,h=>by
  rw[cO] at h ⊢
  obtain⟨v,r,e,p,q⟩:=h
  exact⟨v,r,e,oV s p,yx s q⟩
end
theorem d8{H H':Hp}(s:jA H H'){ds:List D}{vs:List V}(h:P2 (Rep H) ds vs):P2 (Rep H') ds vs:=h.imp fun _ _=>oV s
mutual
theorem rY(K:W.Frag){H:Hp}:∀ {d:D} {v:V},Rep H d v→L2.Rep K H d v
 | .non,v,h=>by rw[Rep] at h;rw[L2.Rep];exact h
 | .bl b,v,h=>by rw[Rep] at h;rw[L2.Rep];exact h
 | .int i,v,h=>by rw[Rep] at h;rw[L2.Rep];exact h
 | .str x,v,h=>by rw[Rep] at h;rw[L2.Rep];exact h
 | .lst ds,v,h=>by
  rw[Rep] at h
  rw[L2.Rep]
  obtain⟨a,xs,e,q,r⟩:=h
  exact⟨a,xs,e,q.sq,Az K r⟩
 | .tup ds,v,h=>by
  rw[Rep] at h
  rw[L2.Rep]
  obtain⟨a,xs,e,q,r⟩:=h
  exact⟨a,xs,e,.inl (.inl q),Az K r⟩
theorem Az(K:W.Frag){H:Hp}:∀ {ds:List D} {vs:List V},cO H ds vs→L2.cO K H ds vs
 | [],vs,h=>by rw[cO] at h;rw[L2.cO];exact h
 | d::ds,vs,h=>by
  rw[cO] at h
  rw[L2.cO]
  obtain⟨v,r,e,p,q⟩:=h
  exact⟨v,r,e,rY K p,Az K q⟩
end
def NT:HO→Prop
 | .tbl _ _=>False
 | _=>True
structure Old(H H':Hp):Prop where
 nt:∀ a o,H a=some o→NT o→H' a=some o
 dom:∀ a,H' a=none→H a=none
 tb:∀ a w ps,H a=some (.tbl w ps)→∃ ps',H' a=some (.tbl w ps')
theorem Old.at{H H':Hp}(s:Old H H'){a:Addr}{o:HO}(q:H a=some o)(n:NT o:=by trivial):H' a=some o:=s.nt a o q n
theorem Old.free{H H':Hp}(s:Old H H'){a:Addr}(h:H' a=none):H a=none:=s.dom a h
theorem Old.refl(H:Hp):Old H H:=⟨fun _ _ e _=>e,fun _ e=>e,fun _ _ ps e=>⟨ps,e⟩⟩
theorem Old.trans{H H1 H2:Hp}(a:Old H H1)(b:Old H1 H2):Old H H2:=⟨fun x o e n=>b.nt x o (a.nt x o e n) n,fun x e=>a.dom x (b.dom x e),fun x w ps e=>let ⟨p1,e1⟩:=a.tb x w ps e;b.tb x w p1 e1⟩
theorem Old.of{H H':Hp}(s:jA H H'):Old H H':=⟨fun a o e _=>s a o e,fun a e=>s.free e,fun a w ps e=>⟨ps,s a _ e⟩⟩
theorem Old.tab{H H':Hp}(s:Old H H'){a:Addr}{w:Str}{ps:Array Value}{o:HO}(q:H a=some (.tbl w ps))(n:NT o):¬ H' a=some o:=fun e=>by
 obtain⟨p,z⟩:=s.tb a w ps q
 rw[e] at z;cases z;exact n
theorem Old.put{H0 H:Hp}(s:Old H0 H){p:Addr}{o u:HO}(h0:H0 p=none)(h:H p=some u):Old H0 (upd H p o) :=
 ⟨fun a v e n=>by rw[aN (bh e h0)];exact s.nt a v e n,fun a e=>by
  by_cases hp:a=p
  ·subst hp;exact h0
  ·rw[aN hp] at e;exact s.dom a e,fun a w ps e=>by rw[aN (bh e h0)];exact s.tb a w ps e⟩
def pC(c:Addr)(q:Str):Heap→Prop:=fun h=>∃ o vs t,h.get? c=some o∧o.data=.fields vs∧vs[1]? = some (.str q t)
class jb where
 l:List (Addr×Str)
 cl:String→Addr
variable[Tb:jb]
structure kY(H:Hp):Prop where
 has:∀ p∈Tb.l,∃ ps,H p.1=some (.tbl p.2 ps)
 cd:∀ T q ps,H T=some (.tbl q ps)→TriplesOk ps.toList∧∀ pos v,codeAmong pos ps.toList=some v→∃ c,v=.ref c∧H c=some (.ext (pC c q))
theorem kY.new{H:Hp}(k:kY H){p:Addr}{o:HO}(h:H p=none)(n:NT o):kY (upd H p o):=⟨fun r hr=>let ⟨ps,e⟩:=k.has r hr;⟨ps,by rw[aN (bh e h)];exact e⟩,fun T q ps e=>by
 by_cases hp:T=p
 ·subst hp;rw[bc] at e;cases e;exact n.elim
 ·rw[aN hp] at e
  obtain⟨t,r⟩:=k.cd T q ps e
  refine⟨t,fun pos v z=>?_⟩
  obtain⟨c,e1,e2⟩:=r pos v z
  exact⟨c,e1,by rw[aN (bh e2 h)];exact e2⟩⟩
def Cell:HO→Prop
 | .lst _=>True
 | .dK _=>True
 | .dT _=>True
 | .ext _=>True
 | _=>False
theorem Cell.nt:∀ {o:HO},Cell o→NT o:=fun {o} c=>by cases o<;>first|exact c.elim|trivial
def NP:HO→Prop
 | .lst _=>True
 | .dK _=>True
 | .dT _=>True
 | _=>False
theorem NP.cell:∀ {o:HO},NP o→Cell o:=fun {o} c=>by cases o<;>first|exact c.elim|trivial
theorem kY.put{H:Hp}(k:kY H){p:Addr}{o u:HO}(h:H p=some u)(c:NP u)(n:NT o):kY (upd H p o):=⟨fun r hr=>let ⟨ps,e⟩:=k.has r hr;⟨ps,by rw[aN (fun y=>by rw[y,h] at e;cases e;exact c.elim)];exact e⟩,fun T q ps e=>by
 by_cases hp:T=p
 ·subst hp;rw[bc] at e;cases e;exact n.elim
 ·rw[aN hp] at e
  obtain⟨t,r⟩:=k.cd T q ps e
  refine⟨t,fun pos v z=>?_⟩
  obtain⟨x,e1,e2⟩:=r pos v z
  refine⟨x,e1,?_⟩
  rw[aN (fun y=>by subst y;rw[h] at e2;cases e2;exact c.elim)];exact e2⟩
structure Vw(H Hv:Hp):Prop where
 sub:jA Hv H
 tup:∀ a xs,H a=some (.tup xs)→Hv a=some (.tup xs)
 frz:∀ a o u,H a=some (.frz o u)→Hv a=some (.frz o u)
 cd:kY H
 nv:∀ a o,Hv a=some o→NT o
structure dw(H Hv H' Hv':Hp):Prop where
 old:Old H H'
 vis:jA Hv Hv'
 vw:Vw H' Hv'
 hid:∀ a o,H a=some o→Hv a=none→Hv' a=none
theorem dw.refl{H Hv:Hp}(v:Vw H Hv):dw H Hv H Hv:=⟨Old.refl _,jA.refl _,v,fun _ _ _ e=>e⟩
theorem Old.some{H H':Hp}(s:Old H H'){a:Addr}{o:HO}(q:H a=some o):∃ o',H' a=some o':=by
 cases h:H' a with
 | none=>rw[s.dom a h] at q;cases q
 | some o'=>exact⟨o',rfl⟩
theorem dw.trans{H Hv H1 Hv1 H2 Hv2:Hp}(g:dw H Hv H1 Hv1)(k:dw H1 Hv1 H2 Hv2):dw H Hv H2 Hv2 :=
 ⟨g.old.trans k.old,g.vis.trans k.vis,k.vw,fun a o e n=>let ⟨o',e'⟩:=g.old.some e;k.hid a o' e' (g.hid a o e n)⟩
theorem qH{H Hv:Hp}(v:Vw H Hv){p:Addr}(h:H p=none):Hv p=none:=v.sub.free h
theorem dw.new{H Hv:Hp}(v:Vw H Hv){p:Addr}{o:HO}(h:H p=none)(nt:NT o:=by trivial):dw H Hv (upd H p o) (upd Hv p o):=by
 refine⟨.of (xu h),xu (qH v h),⟨fun b u e=>?_,fun b xs e=>?_,fun b q u e=>?_,v.cd.new h nt,fun b u e=>?_⟩,fun b u e n=>?_⟩
 ·by_cases hb:b=p
  ·subst hb;rw[bc] at e ⊢;exact e
  ·rw[aN hb] at e ⊢;exact v.sub b u e
 ·by_cases hb:b=p
  ·subst hb;rw[bc] at e ⊢;exact e
  ·rw[aN hb] at e ⊢;exact v.tup b xs e
 ·by_cases hb:b=p
  ·subst hb;rw[bc] at e ⊢;exact e
  ·rw[aN hb] at e ⊢;exact v.frz b q u e
 ·by_cases hb:b=p
  ·subst hb;rw[bc] at e;cases e;exact nt
  ·rw[aN hb] at e;exact v.nv b u e
 ·rw[aN (bh e h)];exact n
theorem dw.O7{H Hv:Hp}(v:Vw H Hv){p:Addr}{o:HO}(c:Cell o)(h:H p=none):dw H Hv (upd H p o) Hv:=by
 refine⟨.of (xu h),jA.refl _,⟨fun b u e=>?_,fun b xs e=>?_,fun b q u e=>?_,v.cd.new h c.nt,v.nv⟩,fun b u e n=>n⟩
 ·rw[aN (bh (v.sub b u e) h)];exact v.sub b u e
 ·by_cases hb:b=p
  ·subst hb;rw[bc] at e;cases e;exact c.elim
  ·rw[aN hb] at e;exact v.tup b xs e
 ·by_cases hb:b=p
  ·subst hb;rw[bc] at e;cases e;exact c.elim
  ·rw[aN hb] at e;exact v.frz b q u e
theorem Vw.show{H Hv:Hp}(v:Vw H Hv){a:Addr}{o:HO}(h:H a=some o)(n:Hv a=none)(nt:NT o):Vw H (upd Hv a o)∧jA Hv (upd Hv a o):=by
 refine⟨⟨fun b u e=>?_,fun b xs e=>?_,fun b q u e=>?_,v.cd,fun b u e=>?_⟩,xu n⟩
 ·by_cases hb:b=a
  ·subst hb;rw[bc] at e;rw[h];exact e
  ·rw[aN hb] at e;exact v.sub b u e
 ·by_cases hb:b=a
  ·subst hb;rw[bc];rw[h] at e;exact e
  ·rw[aN hb];exact v.tup b xs e
 ·by_cases hb:b=a
  ·subst hb;rw[bc];rw[h] at e;exact e
  ·rw[aN hb];exact v.frz b q u e
 ·by_cases hb:b=a
  ·subst hb;rw[bc] at e;cases e;exact nt
  ·rw[aN hb] at e;exact v.nv b u e
theorem Lst.old{H H':Hp}{a:Addr}{xs:List V}(s:Old H H')(h:Lst H a xs):Lst H' a xs:=by
 rcases h with h|⟨o,h⟩
 ·exact .inl (s.at h)
 ·exact .inr ⟨o,s.at h⟩
mutual
theorem Qx{H H':Hp}(t:∀ a xs,H a=some (.tup xs)→H' a=some (.tup xs)):∀ {d:D} {v:V},Mi.YZ d=true→Rep H d v→Rep H' d v
 | .non,v,_,h=>by rw[Rep] at h ⊢;exact h
 | .bl b,v,_,h=>by rw[Rep] at h ⊢;exact h
 | .int i,v,_,h=>by rw[Rep] at h ⊢;exact h
 | .str x,v,_,h=>by rw[Rep] at h ⊢;exact h
 | .lst ds,v,z,h=>by rw[Mi.YZ] at z;cases z
 | .tup ds,v,z,h=>by
  rw[Mi.YZ] at z
  rw[Rep] at h ⊢
  obtain⟨a,xs,e,q,r⟩:=h
  exact⟨a,xs,e,t _ _ q,KD t z r⟩
theorem KD{H H':Hp}(t:∀ a xs,H a=some (.tup xs)→H' a=some (.tup xs)):∀ {ds:List D} {vs:List V},Mi.YX ds=true→cO H ds vs→cO H' ds vs
 | [],vs,_,h=>by rw[cO] at h ⊢;exact h
 | d::ds,vs,z,h=>by
  rw[Mi.YX,Bool.and_eq_true] at z
  rw[cO] at h ⊢
  obtain⟨v,r,e,p,q⟩:=h
  exact⟨v,r,e,Qx t z.1 p,KD t z.2 q⟩
end
def N6{κ : Type}(H:Hp)(kvs:List (κ×D))(kv:List (κ×V)):Prop:=P2 (fun p q=>p.1=q.1∧Rep H p.2 q.2) kvs kv
theorem N6.same{κ : Type}{H H':Hp}(s:jA H H'){kvs:List (κ×D)}{kv:List (κ×V)}(h:N6 H kvs kv):N6 H' kvs kv:=P2.imp (fun _ _ z=>⟨z.1,oV s z.2⟩) h
def iw(Hv:Hp):W→HO→Prop
 | .d (.lst ds),.lst xs=>P2 (Rep Hv) ds xs
 | .dk kvs,.dK kv=>N6 Hv kvs kv
 | .dt kvs,.dT kv=>N6 Hv kvs kv
 | _,_=>False
theorem iw.same{H H':Hp}(s:jA H H'):∀ {w:W} {o:HO},iw H w o→iw H' w o:=fun {w o} h=>by
 cases w with
 | d x =>
  cases x with
  | lst ds=>cases o with
   | lst xs=>exact d8 s h
   | _=>exact h.elim
  | _=>cases o<;>exact h.elim
 | dk kvs=>cases o with
  | dK kv=>exact N6.same s h
  | _=>exact h.elim
 | dt kvs=>cases o with
  | dT kv=>exact N6.same s h
  | _=>exact h.elim
 | ex c=>exact h.elim
theorem iw.aak{H:Hp}{w:W}{o:HO}(h:iw H w o):NP o:=by
 cases w with
 | d x =>
  cases x with
  | lst ds=>cases o with
   | lst xs=>trivial
   | _=>exact h.elim
  | _=>cases o<;>exact h.elim
 | dk kvs=>cases o with
  | dK kv=>trivial
  | _=>exact h.elim
 | dt kvs=>cases o with
  | dT kv=>trivial
  | _=>exact h.elim
 | ex c=>exact h.elim
theorem iw.cell{H:Hp}{w:W}{o:HO}(h:iw H w o):Cell o:=h.aak.cell
theorem iw.nt{H:Hp}{w:W}{o:HO}(h:iw H w o):NT o:=h.cell.nt
def yV(a C:Addr):Heap→Prop:=fun h=>∃ o,h.get? a=some o∧o.cls=.ref C∧o.dict=none∧∃ vs,o.data=.fields vs
def uR(H:Hp):W→V→Prop
 | .d x,v=>Rep H x v
 | .dk kvs,v=>∃ a kv,v=.ref a∧H a=some (.dK kv)∧N6 H kvs kv
 | .dt kvs,v=>∃ a kv,v=.ref a∧H a=some (.dT kv)∧N6 H kvs kv
 | .ex c,v=>∃ a,v=.ref a∧H a=some (.ext (yV a (Tb.cl c)))
theorem oJ{H H':Hp}(s:jA H H'):∀ {w:W} {v:V},uR H w v→uR H' w v
 | .d x,v,h=>oV (d:=x) s h
 | .dk kvs,v,⟨a,kv,e,q,r⟩=>⟨a,kv,e,s _ _ q,r.same s⟩
 | .dt kvs,v,⟨a,kv,e,q,r⟩=>⟨a,kv,e,s _ _ q,r.same s⟩
 | .ex c,v,⟨a,e,q⟩=>⟨a,e,s _ _ q⟩
theorem u0{H:Hp}{w:W}{a:Addr}{o:HO}(h:H a=some o)(c:iw H w o):uR H w (.ref a):=by
 cases w with
 | d x =>
  cases x with
  | lst ds=>cases o with
   | lst xs=>exact oh.mpr ⟨a,xs,rfl,.inl h,c⟩
   | _=>exact c.elim
  | _=>cases o<;>exact c.elim
 | dk kvs=>cases o with
  | dK kv=>exact⟨a,kv,rfl,h,c⟩
  | _=>exact c.elim
 | dt kvs=>cases o with
  | dT kv=>exact⟨a,kv,rfl,h,c⟩
  | _=>exact c.elim
 | ex z=>exact c.elim
def Own(H Hv:Hp)(w:W)(v:V):Prop:=∃ a o,v=.ref a∧H a=some o∧Hv a=none∧iw Hv w o
def RB(H Hv:Hp)(w:W)(v:V):Prop:=uR Hv w v∨∃ a o,v=.ref a∧H a=some o∧iw Hv w o
theorem RB.grow{H Hv H' Hv':Hp}(g:dw H Hv H' Hv'){w:W}{v:V}(h:RB H Hv w v):RB H' Hv' w v:=by
 rcases h with h|⟨a,o,e,q,c⟩
 ·exact .inl (oJ g.vis h)
 ·exact .inr ⟨a,o,e,g.old.at q c.nt,c.same g.vis⟩
theorem Own.grow{H Hv H' Hv':Hp}(g:dw H Hv H' Hv'){w:W}{v:V}(h:Own H Hv w v):Own H' Hv' w v:=by
 obtain⟨a,o,e,q,n,c⟩:=h
 exact⟨a,o,e,g.old.at q c.nt,g.hid _ _ q n,c.same g.vis⟩
theorem RB.full{H Hv:Hp}(v:Vw H Hv){w:W}{x:V}(h:RB H Hv w x):uR H w x:=by
 rcases h with h|⟨a,o,rfl,q,c⟩
 ·exact oJ v.sub h
 ·exact u0 q (c.same v.sub)
abbrev RD(H Hv:Hp)(d:D)(v:V):Prop:=RB H Hv (.d d) v
theorem RD.R6{H Hv:Hp}{d:D}{v:V}(h:RD H Hv d v)(n:∀ ds,d≠.lst ds):Rep Hv d v:=by
 rcases h with h|⟨a,o,e,q,c⟩
 ·exact h
 ·cases d with
  | lst ds=>exact absurd rfl (n ds)
  | _=>cases o<;>exact c.elim
theorem RD.lst{H Hv:Hp}(w:Vw H Hv){ds:List D}{v:V}(h:RD H Hv (.lst ds) v):∃ a xs,v=.ref a∧Lst H a xs∧P2 (Rep Hv) ds xs:=by
 rcases h with h|⟨a,o,e,q,c⟩
 ·obtain⟨a,xs,e,l,r⟩:=oh.mp h
  exact⟨a,xs,e,l.same w.sub,r⟩
 ·cases o with
  | lst xs=>exact⟨a,xs,e,.inl q,c⟩
  | _=>exact c.elim
theorem RD.tup{H Hv:Hp}(w:Vw H Hv){ds:List D}{v:V}(h:RD H Hv (.tup ds) v):∃ a xs,v=.ref a∧H a=some (.tup xs)∧Hv a=some (.tup xs)∧P2 (Rep Hv) ds xs:=by
 obtain⟨a,xs,e,l,r⟩:=jn.mp (h.R6 fun _ z=>by cases z)
 exact⟨a,xs,e,w.sub _ _ l,l,r⟩
theorem RD.int{H Hv:Hp}{i:Int}{v:V}(h:RD H Hv (.int i) v):v=.int i:=rZ.mp (h.R6 fun _ z=>by cases z)
theorem RD.str{H Hv:Hp}{i:Str}{v:V}(h:RD H Hv (.str i) v):v=.str i:=pY.mp (h.R6 fun _ z=>by cases z)
theorem RD.bl{H Hv:Hp}{i:Bool}{v:V}(h:RD H Hv (.bl i) v):v=.bl i:=yz.mp (h.R6 fun _ z=>by cases z)
theorem RD.non{H Hv:Hp}{v:V}(h:RD H Hv .non v):v=.non:=Qw.mp (h.R6 fun _ z=>by cases z)
theorem RD.full{H Hv:Hp}(v:Vw H Hv){d:D}{x:V}(h:RD H Hv d x):Rep H d x:=RB.full v h
abbrev Kd:=Hp→Hp→Hp→W→V→Prop
def qP:Kd:=fun _ H' Hv' w v=>RB H' Hv' w v
def qV:Kd:=fun _ _ Hv' w v=>uR Hv' w v
def qN:Kd:=fun H H' Hv' w v=>∃ a o,v=.ref a∧H a=none∧H' a=some o∧Hv' a=none∧iw Hv' w o
theorem kE{H H' Hv':Hp}{i:Int}:qV H H' Hv' (.d (.int i)) (.int i):=(rZ (H:=Hv')).mpr rfl
theorem Cr{H H' Hv':Hp}{i:Str}:qV H H' Hv' (.d (.str i)) (.str i):=(pY (H:=Hv')).mpr rfl
theorem jw{H H' Hv':Hp}{i:Bool}:qV H H' Hv' (.d (.bl i)) (.bl i):=(yz (H:=Hv')).mpr rfl
theorem Oq{H H' Hv':Hp}:qV H H' Hv' (.d .non) .non:=(Qw (H:=Hv')).mpr rfl
class KM (κ : Kd):Prop where
 mono:∀ {H H1 H' Hv' w v},Old H H1→κ H1 H' Hv' w v→κ H H' Hv' w v
instance:KM qP:=⟨fun _ h=>h⟩
instance:KM qV:=⟨fun _ h=>h⟩
instance:KM qN:=⟨fun s ⟨a,o,e,n,r⟩=>⟨a,o,e,s.free n,r⟩⟩
structure R0(M:Nat→Bool)(e:Mi.Env)(σ : L2.St)(H Hv:Hp):Prop where
 vw:Vw H Hv
 len:σ.length=e.length
 nob:∀ i w,e[i]? = some (some w)→M i=false→∃ v,σ[i]? = some (some v)∧uR Hv w v
 own:∀ i w,e[i]? = some (some w)→M i=true→∃ v,σ[i]? = some (some v)∧Own H Hv w v
theorem R0.grow{M:Nat→Bool}{e:Mi.Env}{σ : L2.St}{H Hv H' Hv':Hp}(r:R0 M e σ H Hv)(g:dw H Hv H' Hv'):R0 M e σ H' Hv' :=
 ⟨g.vw,r.len,fun i w h m=>let ⟨v,q,z⟩:=r.nob i w h m;⟨v,q,oJ g.vis z⟩,fun i w h m=>let ⟨v,q,z⟩:=r.own i w h m;⟨v,q,z.grow g⟩⟩
structure R1(M:Nat→Bool)(H0 Hv0:Hp)(e:Mi.Env)(σ : L2.St)(H Hv:Hp):Prop extends R0 M e σ H Hv where
 gw:dw H0 Hv0 H Hv
 fresh:∀ i w a,e[i]? = some (some w)→M i=true→σ[i]? = some (some (.ref a))→H0 a=none
 sep:∀ i j w w' a b,i≠j→e[i]? = some (some w)→e[j]? = some (some w')→M i=true→M j=true→σ[i]? = some (some (.ref a))→σ[j]? = some (some (.ref b))→a≠b
theorem R1.grow{M:Nat→Bool}{H0 Hv0:Hp}{e:Mi.Env}{σ : L2.St}{H Hv H' Hv':Hp}(r:R1 M H0 Hv0 e σ H Hv)(g:dw H Hv H' Hv'):R1 M H0 Hv0 e σ H' Hv' :=
 ⟨r.toR0.grow g,r.gw.trans g,r.fresh,r.sep⟩
end A
namespace A
open PySem L2 PyProof.Rows
open Mi (D W Rs Fin az)
variable[Tb:jb]
abbrev Ug:=Mi.Env
class KG (κ : Kd):Prop where
 go:∀ {H H1 Hv1 H2 Hv2 w v},dw H1 Hv1 H2 Hv2→κ H H1 Hv1 w v→κ H H2 Hv2 w v
instance:KG qP:=⟨fun g h=>h.grow g⟩
instance:KG qV:=⟨fun g h=>oJ g.vis h⟩
instance:KG qN:=⟨fun g ⟨a,o,e,n,q,z,c⟩=>⟨a,o,e,n,g.old.at q c.nt,g.hid _ _ q z,c.same g.vis⟩⟩
def AW(M:Nat→Bool)(κ : Kd)(t:TE)(m:Mi.EW):Prop:=∀ e σ H Hv Q,R0 M e σ H Hv→Fin (m e) (fun w=>∀ v H' Hv',dw H Hv H' Hv'→κ H H' Hv' w v→Q v H')→t σ H Q
def AE(M:Nat→Bool)(κ : Kd)(t:TE)(m:Mi.E):Prop:=∀ e σ H Hv Q,R0 M e σ H Hv→Fin (m e) (fun d=>∀ v H' Hv',dw H Hv H' Hv'→κ H H' Hv' (.d d) v→Q v H')→t σ H Q
def AT(M:Nat→Bool)(t:TT)(m:Mi.C):Prop:=∀ e σ H Hv Q,R0 M e σ H Hv→Fin (m e) (fun b=>∀ H' Hv',dw H Hv H' Hv'→Q b H')→t σ H Q
def AA(M:Nat→Bool)(κ : Kd)(t:TA)(m:Ug→Rs (List D)):Prop:=∀ e σ H Hv Q,R0 M e σ H Hv→Fin (m e) (fun ds=>∀ vs H' Hv',dw H Hv H' Hv'→P2 (fun d v=>κ H H' Hv' (.d d) v) ds vs→Q vs H')→t σ H Q
def AAW(M:Nat→Bool)(κ : Kd)(t:TA)(m:Ug→Rs (List W)):Prop:=∀ e σ H Hv Q,R0 M e σ H Hv→Fin (m e) (fun ws=>∀ vs H' Hv',dw H Hv H' Hv'→P2 (fun w v=>κ H H' Hv' w v) ws vs→Q vs H')→t σ H Q
def AO(M:Nat→Bool)(t:TO)(m:Ug→Rs (Option Int)):Prop:=∀ e σ H Hv Q,R0 M e σ H Hv→Fin (m e) (fun o=>∀ H' Hv',dw H Hv H' Hv'→Q o H')→t σ H Q
section
variable{M:Nat→Bool}{κ : Kd}{t ta tb tc te:TE}{a b c:Mi.E}{r r':R2}{f g:D→D→Rs D}
theorem AE.w(h:AE M κ t a):AW M κ t (Mi.wD a):=fun e σ H Hv Q I q=>h e σ H Hv Q I ((az.mp q).mono fun d z=>z)
theorem aad{H H' Hv':Hp}{w:W}{v:V}(h:qV H H' Hv' w v):qP H H' Hv' w v:=.inl h
theorem adm{H H' Hv':Hp}{w:W}{v:V}(h:qN H H' Hv' w v):qP H H' Hv' w v:=by
 obtain⟨a,o,e,_,q,_,c⟩:=h
 exact .inr ⟨a,o,e,q,c⟩
theorem Q6{H Hv H' Hv':Hp}(g:dw H Hv H' Hv'){w:W}{v:V}(h:qN H H' Hv' w v):∃ Uh,dw H Hv H' Uh∧uR Uh w v:=by
 obtain⟨a,o,rfl,n,q,z,c⟩:=h
 obtain⟨vw,s⟩:=g.vw.show q z c.nt
 refine⟨upd Hv' a o,⟨g.old,g.vis.trans s,vw,fun b u e m=>?_⟩,u0 bc (c.same s)⟩
 rw[aN (bh e n)];exact g.hid b u e m
theorem AW.p(h:AW M qV t m):AW M qP t m:=fun e σ H Hv Q I q=>h e σ H Hv Q I (q.mono fun w z v H' Hv' g k=>z v H' Hv' g (aad k))
theorem AW.nv(h:AW M qN t m):AW M qV t m:=fun e σ H Hv Q I q=>h e σ H Hv Q I (q.mono fun w z v H' Hv' g k=>let ⟨Uh,g',r⟩:=Q6 g k;z v H' Uh g' r)
theorem AE.p(h:AE M qV t a):AE M qP t a:=fun e σ H Hv Q I q=>h e σ H Hv Q I (q.mono fun w z v H' Hv' g k=>z v H' Hv' g (aad k))
theorem AE.np(h:AE M qN t a):AE M qP t a:=fun e σ H Hv Q I q=>h e σ H Hv Q I (q.mono fun w z v H' Hv' g k=>z v H' Hv' g (adm k))
theorem AE.nv(h:AE M qN t a):AE M qV t a:=fun e σ H Hv Q I q=>h e σ H Hv Q I (q.mono fun w z v H' Hv' g k=>let ⟨Uh,g',r⟩:=Q6 g k;z v H' Uh g' r)
theorem aO{i:Int}:AE M qV (tC (.int i)) (Mi.mC (.int i)):=fun e σ H Hv Q I h=>h _ H Hv (.refl I.vw) kE
theorem uQ{i:Str}:AE M qV (tC (.str i)) (Mi.mC (.str i)):=fun e σ H Hv Q I h=>h _ H Hv (.refl I.vw) Cr
theorem Nr{i:Bool}:AE M qV (tC (.bl i)) (Mi.mC (.bl i)):=fun e σ H Hv Q I h=>h _ H Hv (.refl I.vw) jw
theorem aas:AE M qV (tC .non) (Mi.mC .non):=fun e σ H Hv Q I h=>h _ H Hv (.refl I.vw) Oq
theorem aab{e:Ug}{i:Nat}{k:D→Prop}(h:Fin (Mi.mV i e) k):∃ d,e[i]? = some (some (.d d))∧k d:=by
 unfold Mi.mV at h
 split at h
 ·exact⟨_,‹_›,h⟩
 ·exact h.elim
theorem Ql{e:Ug}{i:Nat}{k:W→Prop}(h:Fin (Mi.wV i e) k):∃ w,e[i]? = some (some w)∧k w:=by
 unfold Mi.wV at h
 split at h
 ·exact⟨_,‹_›,h⟩
 ·exact h.elim
theorem ao(i:Nat)(hm:M i=false):AE M qV (wW i) (Mi.mV i):=fun e σ H Hv Q I h=>by
 obtain⟨d,he,k⟩:=aab h
 obtain⟨v,q,z⟩:=I.nob i _ he hm
 exact⟨v,q,k v H Hv (.refl I.vw) z⟩
theorem aa8{H Hv:Hp}{w:W}{v:V}(h:Own H Hv w v):RB H Hv w v:=by
 obtain⟨a,o,e,q,_,c⟩:=h
 exact .inr ⟨a,o,e,q,c⟩
theorem R0.any{e:Ug}{σ : L2.St}{H Hv:Hp}(I:R0 M e σ H Hv){i:Nat}{w:W}(he:e[i]? = some (some w)):∃ v,σ[i]? = some (some v)∧RB H Hv w v:=by
 cases hm:M i with
 | false =>
  obtain⟨v,q,z⟩:=I.nob i w he hm
  exact⟨v,q,.inl z⟩
 | true =>
  obtain⟨v,q,z⟩:=I.own i w he hm
  exact⟨v,q,aa8 z⟩
theorem qy(i:Nat):AE M qP (wW i) (Mi.mV i):=fun e σ H Hv Q I h=>by
 obtain⟨d,he,k⟩:=aab h
 obtain⟨v,q,z⟩:=I.any he
 exact⟨v,q,k v H Hv (.refl I.vw) z⟩
theorem ab1(i:Nat)(hm:M i=false):AW M qV (wW i) (Mi.wV i):=fun e σ H Hv Q I h=>by
 obtain⟨d,he,k⟩:=Ql h
 obtain⟨v,q,z⟩:=I.nob i _ he hm
 exact⟨v,q,k v H Hv (.refl I.vw) z⟩
def B2(κ : Kd)(r:R2)(f:D→D→Rs D):Prop:=∀ x y v u H Hv Q,Vw H Hv→RD H Hv x v→RD H Hv y u→Fin (f x y) (fun d=>∀ w H' Hv',dw H Hv H' Hv'→κ H H' Hv' (.d d) w→Q w H')→r v u H Q
def BN(κ : Kd)(r:List V→Hp→VK→Prop)(f:List D→Rs D):Prop:=∀ ds vs H Hv Q,Vw H Hv→P2 (RD H Hv) ds vs→Fin (f ds) (fun d=>∀ w H' Hv',dw H Hv H' Hv'→κ H H' Hv' (.d d) w→Q w H')→r vs H Q
theorem aD[KM κ](hr:B2 κ r f)(ha:AE M qP ta a)(hb:AE M qP tb b):AE M κ (tOp r ta tb) (Mi.m2 f a b):=fun e σ H Hv Q I h =>
 ha e σ H Hv _ I ((az.mp h).mono fun x hx v H1 Hv1 g1 rx=>hb e σ H1 Hv1 _ (I.grow g1) ((az.mp hx).mono fun y hy u H2 Hv2 g2 ry =>
  hr x y v u H2 Hv2 Q g2.vw (RB.grow g2 rx) ry (hy.mono fun d hd w H3 Hv3 g3 rw=>hd w H3 Hv3 (g1.trans (g2.trans g3)) (KM.mono (g1.old.trans g2.old) rw))))
theorem JP{x:D}{k:Bool→Prop}(h:Fin (Mi.asB x) k):∃ b,x=.bl b∧k b:=by
 cases x with
 | bl b=>exact⟨b,rfl,h⟩
 | _=>exact h.elim
theorem Qa{x:D}{k:Int→Prop}(h:Fin (Mi.asI x) k):∃ b,x=.int b∧k b:=by
 cases x with
 | int b=>exact⟨b,rfl,h⟩
 | _=>exact h.elim
theorem G5(ha:AE M qP ta a)(hb:AE M qV tb b):AE M qV (ZZ ta tb) (Mi.yL a b):=fun e σ H Hv Q I h =>
 ha e σ H Hv _ I ((az.mp h).mono fun x hx v H1 Hv1 g1 rx=>by
  obtain⟨k,rfl,hk⟩:=JP (az.mp hx)
  cases RD.bl rx
  refine⟨k,rfl,?_⟩
  cases k with
  | true=>exact Di (hb e σ H1 Hv1 Q (I.grow g1) (Fin.mono (Mi.zP hk) fun d hd w H2 Hv2 g2 rw=>hd w H2 Hv2 (g1.trans g2) rw))
  | false=>exact Dj ((Mi.jK (Mi.zQ hk)) _ H1 Hv1 g1 jw))
theorem adS(ha:AE M qP ta a)(hb:AE M qV tb b):AE M qV (acs ta tb) (Mi.mOr a b):=fun e σ H Hv Q I h =>
 ha e σ H Hv _ I ((az.mp h).mono fun x hx v H1 Hv1 g1 rx=>by
  obtain⟨k,rfl,hk⟩:=JP (az.mp hx)
  cases RD.bl rx
  refine⟨k,rfl,?_⟩
  cases k with
  | false=>exact Dj (hb e σ H1 Hv1 Q (I.grow g1) (Fin.mono (Mi.zQ hk) fun d hd w H2 Hv2 g2 rw=>hd w H2 Hv2 (g1.trans g2) rw))
  | true=>exact Di ((Mi.jK (Mi.zP hk)) _ H1 Hv1 g1 jw))
theorem RG(h1:B2 qV r f)(h2:B2 qV r' g)(ha:AE M qP ta a)(hb:AE M qP tb b)(hc:AE M qP tc c):AE M qV (Oh r r' ta tb tc) (Mi.yK f g a b c):=fun e σ H Hv Q I h =>
 ha e σ H Hv _ I ((az.mp h).mono fun x hx v H1 Hv1 g1 rx=>hb e σ H1 Hv1 _ (I.grow g1) ((az.mp hx).mono fun y hy u H2 Hv2 g2 ry =>
  h1 x y v u H2 Hv2 _ g2.vw (RB.grow g2 rx) ry ((az.mp hy).mono fun d hd w H3 Hv3 g3 rw=>by
   obtain⟨k,rfl,hk⟩:=JP (az.mp hd)
   cases (yz (H:=Hv3)).mp rw
   refine⟨k,rfl,?_⟩
   cases k with
   | false=>exact Dj ((Mi.jK (Mi.zQ hk)) _ H3 Hv3 (g1.trans (g2.trans g3)) jw)
   | true=>exact Di (hc e σ H3 Hv3 _ (I.grow (g1.trans (g2.trans g3))) ((az.mp (Mi.zP hk)).mono fun z hz w4 H4 Hv4 g4 rz =>
    h2 y z u w4 H4 Hv4 Q g4.vw (RB.grow (g3.trans g4) ry) rz (hz.mono fun d hd w5 H5 Hv5 g5 r5=>hd w5 H5 Hv5 (g1.trans (g2.trans (g3.trans (g4.trans g5)))) r5))))))
theorem j8:AO M Qo (Mi.q8 none):=fun e σ H Hv Q I h=>h H Hv (.refl I.vw)
theorem j7(ha:AE M qP ta a):AO M (ZV ta) (Mi.q8 (some a)):=fun e σ H Hv Q I h =>
 ha e σ H Hv _ I ((az.mp h).mono fun x hx v H1 Hv1 g1 rx=>by
  obtain⟨i,rfl,hk⟩:=Qa (az.mp hx)
  exact⟨i,RD.int rx,hk H1 Hv1 g1⟩)
def BS(κ : Kd)(r:V→Option Int→Option Int→Hp→VK→Prop)(f:D→Option Int→Option Int→Rs D):Prop:=∀ x lo hi v H Hv Q,Vw H Hv→RD H Hv x v→Fin (f x lo hi) (fun d=>∀ w H' Hv',dw H Hv H' Hv'→κ H H' Hv' (.d d) w→Q w H')→r v lo hi H Q
theorem Aq[KM κ]{r:V→Option Int→Option Int→Hp→VK→Prop}{tl th:TO}{lo hi:Option Mi.E}{f:D→Option Int→Option Int→Rs D}(hr:BS κ r f)(ha:AE M qP ta a)(hl:AO M tl (Mi.q8 lo))(hh:AO M th (Mi.q8 hi)):AE M κ (tSl r ta tl th) (Mi.jh f a lo hi):=fun e σ H Hv Q I h =>
 ha e σ H Hv _ I ((az.mp h).mono fun x hx v H1 Hv1 g1 rx=>hl e σ H1 Hv1 _ (I.grow g1) ((az.mp hx).mono fun l hl H2 Hv2 g2=>hh e σ H2 Hv2 _ (I.grow (g1.trans g2)) ((az.mp hl).mono fun u hu H3 Hv3 g3 =>
  hr x l u v H3 Hv3 Q g3.vw (RB.grow (g2.trans g3) rx) (hu.mono fun d hd w H4 Hv4 g4 rw=>hd w H4 Hv4 (g1.trans (g2.trans (g3.trans g4))) (KM.mono (g1.old.trans (g2.old.trans g3.old)) rw)))))
theorem pQ(ha:AE M qP ta a):AT M (tB ta) (Mi.cB a):=fun e σ H Hv Q I h =>
 ha e σ H Hv _ I ((az.mp h).mono fun x hx v H1 Hv1 g1 rx=>by
  obtain⟨k,rfl,hk⟩:=JP hx
  exact⟨k,RD.bl rx,hk H1 Hv1 g1⟩)
theorem bC(ha:AE M qP ta a):AT M (UJ ta) (Mi.cB a):=pQ ha
theorem Nf{K:W.Frag}(ha:AE M qP ta a):AT M (fun σ H Q=>ta σ H fun x H'=>∃ k,ab8 K x H' k∧Q k H') (Mi.MP a):=fun e σ H Hv Q I h =>
 ha e σ H Hv _ I ((az.mp h).mono fun x hx v H1 Hv1 g1 rx=>by
  cases x with
  | non=>cases RD.non rx;exact⟨false,rfl,hx H1 Hv1 g1⟩
  | bl b=>cases RD.bl rx;exact⟨b,rfl,hx H1 Hv1 g1⟩
  | int i=>cases RD.int rx;exact⟨_,rfl,hx H1 Hv1 g1⟩
  | str y =>
   cases RD.str rx
   obtain⟨hz,hq⟩:=Mi.aX hx
   exact⟨_,⟨by rw[sizeLine_eq];exact hz,rfl⟩,hq H1 Hv1 g1⟩
  | lst ds =>
   obtain⟨p,xs,rfl,l,r⟩:=RD.lst g1.vw rx
   refine⟨!xs.isEmpty,.inl ⟨xs,l.sq,rfl⟩,?_⟩
   have:ds.isEmpty=xs.isEmpty:=by cases r<;>rfl
   rw[← this];exact hx H1 Hv1 g1
  | tup ds =>
   obtain⟨p,xs,rfl,l,_,r⟩:=RD.tup g1.vw rx
   refine⟨!xs.isEmpty,.inr (.inl ⟨xs,.inl (.inl l),rfl⟩),?_⟩
   have:ds.isEmpty=xs.isEmpty:=by cases r<;>rfl
   rw[← this];exact hx H1 Hv1 g1)
variable{tt uu:TT}{k l:Mi.C}
theorem zg(ha:AT M tt k)(hb:AT M uu l):AT M (acz tt uu) (Mi.nq k l):=fun e σ H Hv Q I h =>
 ha e σ H Hv _ I ((az.mp h).mono fun x hx H1 Hv1 g1=>by
  cases x with
  | true=>exact Di (hb e σ H1 Hv1 Q (I.grow g1) (Fin.mono (Mi.zP hx) fun b hd H2 Hv2 g2=>hd H2 Hv2 (g1.trans g2)))
  | false=>exact Dj ((Mi.jK (Mi.zQ hx)) H1 Hv1 g1))
theorem Ng(ha:AT M tt k)(hb:AT M uu l):AT M (tOr tt uu) (Mi.T7 k l):=fun e σ H Hv Q I h =>
 ha e σ H Hv _ I ((az.mp h).mono fun x hx H1 Hv1 g1=>by
  cases x with
  | false=>exact Dj (hb e σ H1 Hv1 Q (I.grow g1) (Fin.mono (Mi.zQ hx) fun b hd H2 Hv2 g2=>hd H2 Hv2 (g1.trans g2)))
  | true=>exact Di ((Mi.jK (Mi.zP hx)) H1 Hv1 g1))
theorem pG(ha:AT M tt k):AT M (aaK tt) (Mi.lN k):=fun e σ H Hv Q I h =>
 ha e σ H Hv _ I ((az.mp h).mono fun x hx H1 Hv1 g1=>hx H1 Hv1 g1)
theorem mK:AT M acq Mi.jM:=fun e σ H Hv Q I h=>h H Hv (.refl I.vw)
variable{tr:TA}{as:List Mi.E}{ws:List Mi.EW}
theorem aP:AA M κ vo (Mi.lF []):=fun e σ H Hv Q I h=>h [] H Hv (.refl I.vw) .nil
theorem aC[KM κ][KG κ](ha:AE M κ ta a)(hr:AA M κ tr (Mi.lF as)):AA M κ (lC ta tr) (Mi.lF (a::as)):=fun e σ H Hv Q I h =>
 ha e σ H Hv _ I ((az.mp h).mono fun x hx v H1 Hv1 g1 rx=>hr e σ H1 Hv1 _ (I.grow g1) ((az.mp hx).mono fun xs hs vs H2 Hv2 g2 rs =>
  hs (v::vs) H2 Hv2 (g1.trans g2) (.cons (KG.go g2 rx) (rs.imp fun _ _ z=>KM.mono g1.old z))))
theorem aY:AAW M κ vo (Mi.bW []):=fun e σ H Hv Q I h=>h [] H Hv (.refl I.vw) .nil
theorem aB[KM κ][KG κ]{w:Mi.EW}(ha:AW M κ ta w)(hr:AAW M κ tr (Mi.bW ws)):AAW M κ (lC ta tr) (Mi.bW (w::ws)):=fun e σ H Hv Q I h =>
 ha e σ H Hv _ I ((az.mp h).mono fun x hx v H1 Hv1 g1 rx=>hr e σ H1 Hv1 _ (I.grow g1) ((az.mp hx).mono fun xs hs vs H2 Hv2 g2 rs =>
  hs (v::vs) H2 Hv2 (g1.trans g2) (.cons (KG.go g2 rx) (rs.imp fun _ _ z=>KM.mono g1.old z))))
theorem ji[KM κ]{r:List V→Hp→VK→Prop}{f:List D→Rs D}(hr:BN κ r f)(ha:AA M qP tr (Mi.lF as)):AE M κ (ZX r tr) (Mi.mN f as):=fun e σ H Hv Q I h =>
 ha e σ H Hv _ I ((az.mp h).mono fun ds hx vs H1 Hv1 g1 rx=>hr ds vs H1 Hv1 Q g1.vw rx (hx.mono fun d hd w H3 Hv3 g3 rw=>hd w H3 Hv3 (g1.trans g3) (KM.mono g1.old rw)))
theorem fK(ha:AA M qV tr (Mi.lF as)):AE M qV (aaI tr) (Mi.mN Mi.dTup as):=fun e σ H Hv Q I h =>
 ha e σ H Hv _ I ((az.mp h).mono fun ds hx vs H1 Hv1 g1 rx=>by
  obtain⟨hz,hq⟩:=Mi.aX hx
  refine⟨by rw[← rx.len,sizeLine_eq];exact hz,fun p hp=>?_⟩
  have g2:dw H1 Hv1 (upd H1 p (.tup vs)) (upd Hv1 p (.tup vs)):=.new g1.vw hp
  exact hq _ _ _ (g1.trans g2) (jn.mpr ⟨p,vs,rfl,bc,d8 g2.vis rx⟩))
theorem gR(ha:AA M qV tr (Mi.lF as)):AE M qN (acu tr) (Mi.mN Mi.fP as):=fun e σ H Hv Q I h =>
 ha e σ H Hv _ I ((az.mp h).mono fun ds hx vs H1 Hv1 g1 rx=>by
  obtain⟨hz,hq⟩:=Mi.aX hx
  refine⟨by rw[← rx.len,sizeLine_eq];exact hz,fun p hp=>?_⟩
  have g2:dw H1 Hv1 (upd H1 p (.lst vs)) Hv1:=.O7 g1.vw trivial hp
  exact hq _ _ _ (g1.trans g2) ⟨p,.lst vs,rfl,g1.old.free hp,bc,qH g1.vw hp,rx⟩)
def jT(f:Mi.Fn):Sp:=fun vs H Q _=>∃ Hv ws,Vw H Hv∧P2 (uR Hv) ws vs∧Fin (f ws) (fun w=>∀ v H' Hv',dw H Hv H' Hv'→qV H H' Hv' w v→Q v H')
def rM(f:Mi.Fn):Sp:=fun vs H Q _=>∃ Hv ws,Vw H Hv∧P2 (uR Hv) ws vs∧Fin (f ws) (fun w=>∀ v H' Hv',dw H Hv H' Hv'→qN H H' Hv' w v→Q v H')
variable{fn:Mi.Fn}{E:XK}
theorem Zz(ha:AAW M qV tr (Mi.bW ws)):AW M qV (vz (jT fn) [] E tr) (Mi.qG fn ws):=fun e σ H Hv Q I h =>
 ha e σ H Hv _ I ((az.mp h).mono fun ds hx vs H1 Hv1 g1 rx=>by
  rw[List.append_nil]
  exact⟨Hv1,ds,g1.vw,rx,hx.mono fun d hd w H3 Hv3 g3 rw=>hd w H3 Hv3 (g1.trans g3) rw⟩)
theorem Xv(ha:AAW M qV tr (Mi.bW ws)):AW M qN (vz (rM fn) [] E tr) (Mi.qG fn ws):=fun e σ H Hv Q I h =>
 ha e σ H Hv _ I ((az.mp h).mono fun ds hx vs H1 Hv1 g1 rx=>by
  rw[List.append_nil]
  exact⟨Hv1,ds,g1.vw,rx,hx.mono fun d hd w H3 Hv3 g3 rw=>hd w H3 Hv3 (g1.trans g3) (KM.mono (κ:=qN) g1.old rw)⟩)
theorem ab5{w:W}{k:D→Prop}(h:Fin (Mi.asD w) k):∃ d,w=.d d∧k d:=by
 cases w with
 | d x=>exact⟨x,rfl,h⟩
 | _=>exact h.elim
theorem AW.d{w:Mi.EW}(h:AW M κ t w):AE M κ t (fun e=>(w e).bind Mi.asD):=fun e σ H Hv Q I q =>
 h e σ H Hv Q I ((az.mp q).mono fun w z v H' Hv' g k=>by
  obtain⟨d,rfl,z⟩:=ab5 z
  exact z v H' Hv' g k)
theorem cj(ha:AAW M qV tr (Mi.bW ws)):AE M qV (vz (jT fn) [] E tr) (Mi.aR fn ws):=(Zz ha).d
theorem cC(ha:AAW M qV tr (Mi.bW ws)):AE M qN (vz (rM fn) [] E tr) (Mi.aR fn ws):=(Xv ha).d
def Ul(H:Hp):Hp:=fun a=>match H a with
 | some (.tbl _ _)=>none
 | x=>x
theorem lE{H:Hp}{a:Addr}{o:HO}(h:H a=some o)(n:NT o):Ul H a=some o:=by
 unfold Ul;rw[h];cases o<;>first|rfl|exact n.elim
theorem Bb{H:Hp}{a:Addr}{o:HO}(h:Ul H a=some o):H a=some o∧NT o:=by
 unfold Ul at h
 cases q:H a with
 | none=>rw[q] at h;cases h
 | some u =>
  rw[q] at h
  cases u with
  | tbl w ps=>cases h
  | _=>cases h;exact⟨rfl,trivial⟩
theorem Vw.all{H:Hp}(k:kY H):Vw H (Ul H):=⟨fun a o e=>(Bb e).1,fun a xs e=>lE e trivial,fun a o u e=>lE e trivial,k,fun a o e=>(Bb e).2⟩
theorem RB.adB{H Hv:Hp}(v:Vw H Hv){w:W}{x:V}(h:RB H Hv w x):uR (Ul H) w x:=by
 have s:jA Hv (Ul H):=fun a o e=>lE (v.sub a o e) (v.nv a o e)
 rcases h with h|⟨a,o,rfl,q,c⟩
 ·exact oJ s h
 ·exact u0 (lE q c.nt) (c.same s)
def seen(H Hv H':Hp):Hp:=fun a=>match Hv a,H a with
 | none,some _=>none
 | _,_=>Ul H' a
theorem R3{H Hv H':Hp}(v:Vw H Hv)(s:Old H H')(k':kY H'):dw H Hv H' (seen H Hv H'):=by
 have key:∀ a,(∃ o,H a=some o∧Hv a=none∧seen H Hv H' a=none)∨(seen H Hv H' a=Ul H' a∧∀ o,H a=some o→Hv a=some o):=fun a=>by
  cases h1:Hv a with
  | none =>
   cases h2:H a with
   | none=>exact .inr ⟨by unfold seen;rw[h1,h2],fun o e=>by cases e⟩
   | some o=>exact .inl ⟨o,rfl,rfl,by unfold seen;rw[h1,h2]⟩
  | some o =>
   refine .inr ⟨by unfold seen;rw[h1],fun u e=>?_⟩
   rw[v.sub a o h1] at e;exact e
 have back:∀ b o,H' b=some o→NT o→(∃ u,H b=some u)→∃ u,H b=some u:=fun _ _ _ _ z=>z
 refine⟨s,fun b o e=>?_,⟨fun b o e=>?_,fun b xs e=>?_,fun b q u e=>?_,k',fun b o e=>?_⟩,fun b o e n=>?_⟩
 ·rcases key b with ⟨u,_,z,_⟩|⟨z,_⟩
  ·rw[e] at z;cases z
  ·rw[z];exact lE (s.nt b o (v.sub b o e) (v.nv b o e)) (v.nv b o e)
 ·rcases key b with ⟨u,_,_,z⟩|⟨z,_⟩
  ·rw[e] at z;cases z
  ·rw[z] at e;exact(Bb e).1
 ·rcases key b with ⟨u,h1,h2,_⟩|⟨z,_⟩
  ·cases u with
   | tbl w ps=>exact absurd e (s.tab h1 trivial)
   | _ =>
    have:=s.nt b _ h1 trivial
    rw[e] at this;cases this
    try (rw[v.tup b xs h1] at h2;cases h2)
  ·rw[z];exact lE e trivial
 ·rcases key b with ⟨w,h1,h2,_⟩|⟨z,_⟩
  ·cases w with
   | tbl w ps=>exact absurd e (s.tab h1 trivial)
   | _ =>
    have:=s.nt b _ h1 trivial
    rw[e] at this;cases this
    try (rw[v.frz b q u h1] at h2;cases h2)
  ·rw[z];exact lE e trivial
 ·rcases key b with ⟨u,_,_,z⟩|⟨z,_⟩
  ·rw[e] at z;cases z
  ·rw[z] at e;exact(Bb e).2
 ·rcases key b with ⟨u,h1,h2,z⟩|⟨z,k⟩
  ·exact z
  ·rw[k o e] at n;cases n
theorem JR(ha:AAW M qP tr (Mi.bW ws)):AE M qV (vz (jT fn) [] E tr) (Mi.mz fn ws):=fun e σ H Hv Q I h =>
 ha e σ H Hv _ I ((az.mp (az.mp h)).mono fun ds hx vs H1 Hv1 g1 rx=>by
  rw[List.append_nil]
  refine⟨Ul H1,ds,.all g1.vw.cd,rx.imp fun w v z=>RB.adB g1.vw z,hx.mono fun w hd v H3 Hv3 g3 rw=>?_⟩
  cases w with
  | d x =>
   obtain⟨hi,hd⟩:=Mi.aX hd
   have g4:=R3 g1.vw g3.old g3.vw.cd
   refine hd v H3 _ (g1.trans g4) (Qx g4.vw.tup hi (oV g3.vw.sub rw))
  | _=>exact hd.elim)
end
end A
namespace A
open PySem L2 PyProof.Rows
open Mi (D W Rs Fin az Out Tg)
variable[Tb:jb]
structure ItD(J:It)(P:Hp→Hp→Prop)(ds:List D):Prop where
 go:∀ i H Hv,P H Hv→Vw H Hv→i < ds.length→J.go i H
 yld:∀ i H Hv x H',P H Hv→Vw H Hv→i < ds.length→J.yld i H x H'→∃ Hv' d,dw H Hv H' Hv'∧ds[i]? = some d∧Rep Hv' d x
 stop:∀ H Hv,P H Hv→Vw H Hv→J.stop ds.length H
def AIc(M:Nat→Bool)(wi:TI)(it:Mi.I):Prop:=∀ e σ H Hv (R:It→Hp→Prop),R0 M e σ H Hv→Fin (it e) (fun ds=>∀ (J:It) H' Hv' (P:Hp→Hp→Prop),dw H Hv H' Hv'→ItD J P ds→P H' Hv'→(∀ H1 Hv1 H2 Hv2,P H1 Hv1→dw H1 Hv1 H2 Hv2→P H2 Hv2)→R J H')→wi σ H R
def Up(M:Nat→Bool)(wi:TI)(it:Mi.I):Prop:=∀ e σ H Hv (R:It→Hp→Prop),R0 M e σ H Hv→Fin (it e) (fun ds=>∀ (J:It) H' Hv' (P:Hp→Hp→Prop),dw H Hv H' Hv'→ItD J P ds→P H' Hv'→(∀ H1 Hv1 H2 Hv2,P H1 Hv1→jA Hv1 Hv2→Vw H2 Hv2→P H2 Hv2)→R J H')→wi σ H R
theorem pA{α : Type}{r:Rs α}{k:α→Prop}(h:Fin r k):∃ x,r=.ok x∧k x:=by
 cases r with
 | ok x=>exact⟨x,rfl,h⟩
 | _=>exact h.elim
section
variable{M:Nat→Bool}{ta tb:TE}{a b:Mi.E}{wi:TI}{it:Mi.I}{tr:TA}{as:List Mi.E}
theorem Up.c(h:Up M wi it):AIc M wi it:=fun e σ H Hv R I q=>h e σ H Hv R I (q.mono fun ds z J H' Hv' P g o p k=>z J H' Hv' P g o p fun H1 Hv1 H2 Hv2 p g'=>k H1 Hv1 H2 Hv2 p g'.vis g'.vw)
theorem wg{J:It}{Ok:Hp→Prop}{xs:List V}(O:J.Of Ok xs){ds:List D}{P:Hp→Hp→Prop}(ok:∀ H Hv,P H Hv→Vw H Hv→Ok H)(r:∀ H Hv,P H Hv→P2 (Rep Hv) ds xs)(ex:∃ H Hv,P H Hv):ItD J P ds:=by
 have hl:ds.length=xs.length:=by obtain⟨H,Hv,p⟩:=ex;exact(r H Hv p).len
 refine⟨fun i H Hv p v hi=>O.go i H (ok H Hv p v) (by omega),fun i H Hv x H' p v hi y=>?_,fun H Hv p v=>by rw[hl];exact O.stop H (ok H Hv p v)⟩
 obtain⟨rfl,hx⟩:=O.yld i H x H' (ok H Hv p v) (by omega) y
 obtain⟨d,hd,rx⟩:=(r H' Hv p).aeK hx
 exact⟨Hv,d,.refl v,hd,rx⟩
def abH(K:W.Frag)(tl:TE):TI:=fun σ H R=>aag K tl σ H R∨adn K tl σ H R∨ado tl σ H R
theorem cL{X:Cx}{tg l:Expr}{tl:TE}(hl:PE X l tl):PI X tg l (abH X.K tl):=fun pins s σ H R I h=>by
 rcases h with h|h|h
 ·exact Yr hl pins s σ H R I h
 ·exact aa2 hl pins s σ H R I h
 ·exact aa3 hl pins s σ H R I h
theorem Ks(H:Hp)(z:Str):P2 (Rep H) (z.cps.toList.map fun c=>D.str ⟨#[c]⟩) (Ol z):=by
 unfold Ol
 induction z.cps.toList with
 | nil=>exact .nil
 | cons c r ih=>exact .cons (pY.mpr rfl) ih
theorem fJ{K:W.Frag}(ha:AE M qP ta a):AIc M (abH K ta) (Mi.lJ a):=fun e σ H Hv R I h=>by
 obtain⟨d,hd,h⟩:=pA (az.mp h)
 have run:∀ Q:VK,(∀ v H' Hv',dw H Hv H' Hv'→RD H' Hv' d v→Q v H')→ta σ H Q:=fun Q q=>ha e σ H Hv Q I (by rw[hd];exact q)
 cases d with
 | lst ds =>
  refine .inl (run _ fun v H' Hv' g r=>?_)
  obtain⟨p,xs,rfl,l,r⟩:=RD.lst g.vw r
  exact⟨p,rfl,⟨xs,l.sq⟩,h (Itl K p) H' Hv' (fun H Hv=>Lst H p xs∧P2 (Rep Hv) ds xs) g (wg QJ (fun H Hv p v=>p.1.sq) (fun H Hv p=>p.2) ⟨H',Hv',l,r⟩) ⟨l,r⟩ fun H1 Hv1 H2 Hv2 z g'=>⟨z.1.old g'.old,d8 g'.vis z.2⟩⟩
 | tup ds =>
  refine .inr (.inl (run _ fun v H' Hv' g r=>?_))
  obtain⟨p,xs,rfl,l,_,r⟩:=RD.tup g.vw r
  exact⟨p,rfl,⟨xs,.inl (.inl l)⟩,h (Itt K p) H' Hv' (fun H Hv=>H p=some (.tup xs)∧P2 (Rep Hv) ds xs) g (wg VR (fun H Hv p v=>.inl (.inl p.1)) (fun H Hv p=>p.2) ⟨H',Hv',l,r⟩) ⟨l,r⟩ fun H1 Hv1 H2 Hv2 z g'=>⟨g'.old.at z.1,d8 g'.vis z.2⟩⟩
 | str z =>
  refine .inr (.inr (run _ fun v H' Hv' g r=>?_))
  exact⟨z,RD.str r,h (Its z) H' Hv' (fun _ _=>True) g (wg VV (fun _ _ _ _=>trivial) (fun H Hv _=>Ks Hv z) ⟨H,Hv,trivial⟩) trivial fun _ _ _ _ _ _=>trivial⟩
 | _=>exact h.elim
theorem mQ{K:W.Frag}(ha:AE M qV ta a):Up M (abH K ta) (Mi.lJ a):=fun e σ H Hv R I h=>by
 obtain⟨d,hd,h⟩:=pA (az.mp h)
 have run:∀ Q:VK,(∀ v H' Hv',dw H Hv H' Hv'→Rep Hv' d v→Q v H')→ta σ H Q:=fun Q q=>ha e σ H Hv Q I (by rw[hd];exact q)
 cases d with
 | lst ds =>
  refine .inl (run _ fun v H' Hv' g r=>?_)
  obtain⟨p,xs,rfl,l,r⟩:=oh.mp r
  exact⟨p,rfl,⟨xs,(l.same g.vw.sub).sq⟩,h (Itl K p) H' Hv' (fun H Hv=>Lst Hv p xs∧P2 (Rep Hv) ds xs) g (wg QJ (fun H Hv p v=>(p.1.same v.sub).sq) (fun H Hv p=>p.2) ⟨H',Hv',l,r⟩) ⟨l,r⟩ fun H1 Hv1 H2 Hv2 z s v=>⟨z.1.same s,d8 s z.2⟩⟩
 | tup ds =>
  refine .inr (.inl (run _ fun v H' Hv' g r=>?_))
  obtain⟨p,xs,rfl,l,r⟩:=jn.mp r
  exact⟨p,rfl,⟨xs,.inl (.inl (g.vw.sub _ _ l))⟩,h (Itt K p) H' Hv' (fun H Hv=>Hv p=some (.tup xs)∧P2 (Rep Hv) ds xs) g (wg VR (fun H Hv p v=>.inl (.inl (v.sub _ _ p.1))) (fun H Hv p=>p.2) ⟨H',Hv',l,r⟩) ⟨l,r⟩ fun H1 Hv1 H2 Hv2 z s v=>⟨s _ _ z.1,d8 s z.2⟩⟩
 | str z =>
  refine .inr (.inr (run _ fun v H' Hv' g r=>?_))
  exact⟨z,pY.mp r,h (Its z) H' Hv' (fun _ _=>True) g (wg VV (fun _ _ _ _=>trivial) (fun H Hv _=>Ks Hv z) ⟨H,Hv,trivial⟩) trivial fun _ _ _ _ _ _ _=>trivial⟩
 | _=>exact h.elim
theorem Yk(H:Hp)(lo hi:Int):P2 (Rep H) (Mi.du lo hi) (Oo lo (hi - lo).toNat):=by
 unfold Mi.du Oo
 induction List.range (hi - lo).toNat with
 | nil=>exact .nil
 | cons c r ih=>exact .cons (rZ.mpr rfl) ih
theorem Td(lo hi:Int)(H Hv:Hp):ItD (Itr lo (hi - lo).toNat) (fun _ _=>True) (Mi.du lo hi):=wg V0 (fun _ _ _ _=>trivial) (fun H Hv _=>Yk Hv lo hi) ⟨H,Hv,trivial⟩
theorem fZ(ha:AE M qP ta a):Up M (aaf (lC ta vo)) (Mi.eQ a):=fun e σ H Hv R I h =>
 ha e σ H Hv _ I ((az.mp h).mono fun x hx v H1 Hv1 g1 rx=>by
  obtain⟨j,rfl,hk⟩:=Qa (az.mp hx)
  obtain⟨hz,hq⟩:=Mi.aX hk
  cases RD.int rx
  refine⟨j,rfl,hz.1,hz.2,?_⟩
  have:=hq (Itr 0 (j - 0).toNat) H1 Hv1 _ g1 (Td 0 j H Hv) trivial fun _ _ _ _ _ _ _=>trivial
  rw[Int.sub_zero] at this
  exact this)
end
def Y6:List Nat→RJ
 | []=>Wt
 | i::r=>Mg (tO i) (Y6 r)
def BK:Tg→List Nat
 | .n i=>[i]
 | .t is=>is
def tgG(K:W.Frag):Tg→TG
 | .n i=>tO i
 | .t is=>abL K is.length (Y6 is)
section
variable{P:Mi.Env→L2.St→Prop}{H Hv:Hp}
theorem Px:∀ {is:List Nat} {ds:List D} {xs:List V} {e:Mi.Env} {σ : L2.St} {Q:L2.St→Hp→Prop},(∀ i∈is,∀ e σ d v,P e σ→Rep Hv d v→P (e.set i (some (.d d))) (σ.set i (some v)))→P e σ→P2 (Rep Hv) ds xs →
 Fin (Mi.uh is ds e) (fun e'=>∀ σ',P e' σ'→Q σ' H)→Y6 is xs σ H Q
 | [],[],xs,e,σ,Q,cl,p,r,h=>by
  cases r
  exact⟨rfl,h σ p⟩
 | [],_::_,xs,e,σ,Q,cl,p,r,h=>h.elim
 | _::_,[],xs,e,σ,Q,cl,p,r,h=>h.elim
 | i::is,d::ds,xs,e,σ,Q,cl,p,r,h=>by
  cases r with
  | cons x t=>exact⟨_,_,rfl,Px (fun j hj=>cl j (List.mem_cons_of_mem _ hj)) (cl i List.mem_cons_self _ _ _ _ p x) t h⟩
theorem vU:∀ {is:List Nat} {ds:List D} {e:Mi.Env} {k:Mi.Env→Prop},Fin (Mi.uh is ds e) k→ds.length=is.length
 | [],[],_,_,_=>rfl
 | [],_::_,_,_,h=>h.elim
 | _::_,[],_,_,h=>h.elim
 | i::is,d::ds,e,k,h=>by rw[List.length_cons,List.length_cons,vU (is:=is) (ds:=ds) (k:=k) h]
theorem Oe{K:W.Frag}(vw:Vw H Hv){tg:Tg}{d:D}{v:V}{e:Mi.Env}{σ : L2.St}{Q:L2.St→Hp→Prop}(cl:∀ i∈BK tg,∀ e σ d v,P e σ→Rep Hv d v→P (e.set i (some (.d d))) (σ.set i (some v)))(p:P e σ)(r:Rep Hv d v)
 (h:Fin (tg.put d e) (fun e'=>∀ σ',P e' σ'→Q σ' H)):tgG K tg v σ H Q:=by
 cases tg with
 | n i=>exact h _ (cl i (by simp[BK]) _ _ _ _ p r)
 | t is =>
  cases d with
  | tup ds =>
   obtain⟨a,xs,e1,l,r⟩:=jn.mp r
   exact⟨a,xs,e1,.inl (.inl (vw.sub _ _ l)),by rw[← r.len];exact vU h,Px cl p r h⟩
  | _=>exact h.elim
end
theorem jZ{α : Type}{l:List α}{i j:Nat}{x y:α}(h:(l.set i x)[j]? = some y):(i=j∧x=y∧i < l.length)∨(i≠j∧l[j]? = some y):=by
 rw[List.getElem?_set] at h
 split at h
 ·split at h
  ·exact .inl ⟨‹_›,Option.some.inj h,by omega⟩
  ·cases h
 ·exact .inr ⟨‹_›,h⟩
theorem R0.set{M:Nat→Bool}{e:Mi.Env}{σ : L2.St}{H Hv:Hp}(I:R0 M e σ H Hv){i:Nat}{w:W}{v:V}(hm:M i=false)(r:uR Hv w v):R0 M (e.set i (some w)) (σ.set i (some v)) H Hv:=by
 refine⟨I.vw,by rw[List.length_set,List.length_set];exact I.len,fun j w' h m=>?_,fun j w' h m=>?_⟩
 ·rcases jZ h with ⟨rfl,h,l⟩|⟨n,h⟩
  ·cases h
   exact⟨v,by rw[List.getElem?_set_self (by rw[I.len];exact l)],r⟩
  ·obtain⟨u,q,z⟩:=I.nob j w' h m
   exact⟨u,by rw[List.getElem?_set_ne n];exact q,z⟩
 ·rcases jZ h with ⟨rfl,h,l⟩|⟨n,h⟩
  ·rw[hm] at m;cases m
  ·obtain⟨u,q,z⟩:=I.own j w' h m
   exact⟨u,by rw[List.getElem?_set_ne n];exact q,z⟩
theorem R1.set{M:Nat→Bool}{H0 Hv0:Hp}{e:Mi.Env}{σ : L2.St}{H Hv:Hp}(I:R1 M H0 Hv0 e σ H Hv){i:Nat}{w:W}{v:V}(hm:M i=false)(r:uR Hv w v):R1 M H0 Hv0 (e.set i (some w)) (σ.set i (some v)) H Hv:=by
 have nj:∀ {j:Nat} {w':W},(e.set i (some w))[j]? = some (some w')→M j=true→i≠j∧e[j]? = some (some w'):=fun {j w'} h m=>by
  rcases jZ h with ⟨rfl,_,_⟩|⟨n,h⟩
  ·rw[hm] at m;cases m
  ·exact⟨n,h⟩
 refine⟨I.toR0.set hm r,I.gw,fun j w' a h m q=>?_,fun j k w1 w2 a b hjk h1 h2 m1 m2 q1 q2=>?_⟩
 ·obtain⟨n,h⟩:=nj h m
  rw[List.getElem?_set_ne n] at q
  exact I.fresh j w' a h m q
 ·obtain⟨n1,h1⟩:=nj h1 m1
  obtain⟨n2,h2⟩:=nj h2 m2
  rw[List.getElem?_set_ne n1] at q1
  rw[List.getElem?_set_ne n2] at q2
  exact I.sep j k w1 w2 a b hjk h1 h2 m1 m2 q1 q2
def Cv(ρ : List (Option Nat))(M:Nat→Bool):Nat→Bool:=fun i=>match ρ[i]? with
 | some (some j)=>M j
 | _=>false
theorem KZ{α : Type}{ρ : List (Option Nat)}{e:List (Option α)}{i:Nat}{w:α}(h:(ρ.map fun o=>o.bind fun j=>(e[j]?).join)[i]? = some (some w)):∃ j,ρ[i]? = some (some j)∧e[j]? = some (some w):=by
 rw[List.getElem?_map] at h
 cases hr:ρ[i]? with
 | none=>rw[hr] at h;cases h
 | some o =>
  rw[hr] at h
  cases o with
  | none=>cases h
  | some j =>
   refine⟨j,rfl,?_⟩
   have h:(e[j]?).join=some w:=Option.some.inj h
   cases hq:e[j]? with
   | none=>rw[hq] at h;cases h
   | some o' => rw [hq] at h; have h : o' = some w := h
                rw[h]
theorem Qz{α : Type}{ρ : List (Option Nat)}{e:List (Option α)}{i j:Nat}{w:α}(h1:ρ[i]? = some (some j))(h2:e[j]? = some (some w)):(ρ.map fun o=>o.bind fun j=>(e[j]?).join)[i]? = some (some w):=by
 rw[List.getElem?_map,h1]
 show some ((e[j]?).join)=_
 rw[h2];rfl
theorem R0.pick{M:Nat→Bool}{e:Mi.Env}{σ : L2.St}{H Hv:Hp}(I:R0 M e σ H Hv)(ρ : List (Option Nat)):R0 (Cv ρ M) (Mi.tM ρ e) (L2.pick ρ σ) H Hv:=by
 refine⟨I.vw,by unfold Mi.tM L2.pick;rw[List.length_map,List.length_map],fun i w h m=>?_,fun i w h m=>?_⟩
 ·obtain⟨j,h1,h2⟩:=KZ h
  have m:M j=false:=by unfold Cv at m;rw[h1] at m;exact m
  obtain⟨v,q,z⟩:=I.nob j w h2 m
  exact⟨v,Qz h1 q,z⟩
 ·obtain⟨j,h1,h2⟩:=KZ h
  have m:M j=true:=by unfold Cv at m;rw[h1] at m;exact m
  obtain⟨v,q,z⟩:=I.own j w h2 m
  exact⟨v,Qz h1 q,z⟩
theorem TQ{tg:Tg}{c:Mi.C}{a:Mi.E}{e:Mi.Env}{x:D}{r:List D}{k:List D→Prop}(h:Fin (Mi.dN tg c a e (x::r)) k) :
 Fin (tg.put x e) fun e1=>Fin (c e1) fun b=>if b=true then Fin (a e1) fun y=>Fin (Mi.dN tg c a e r) fun ys=>k (y::ys) else Fin (Mi.dN tg c a e r) k:=by
 refine(az.mp h).mono fun e1 h1=>(az.mp h1).mono fun b h2=>?_
 cases b with
 | true=>exact Di ((az.mp (Mi.zP h2)).mono fun y h3=>(az.mp h3).mono fun ys h4=>h4)
 | false=>exact Dj (Mi.zQ h2)
theorem fc{M:Nat→Bool}{K:W.Frag}{ρ : List (Option Nat)}{wi:TI}{it:Mi.I}{tg:Tg}{tc:TT}{c:Mi.C}{te:TE}{a:Mi.E}(hi:AIc M wi it)(hm:∀ i∈BK tg,Cv ρ M i=false)(hc:AT (Cv ρ M) tc c)(he:AE (Cv ρ M) qV te a) :
 AE M qN (Qp wi ρ (tgG K tg) tc te) (Mi.cW ρ it tg c a):=fun e σ H Hv Q I h =>
 hi e σ H Hv _ I ((az.mp h).mono fun ds h1 J H1 Hv1 P g1 O p1 per=>by
  obtain⟨hz,h1⟩:=Mi.aX h1
  have h1:=az.mp h1
  have I1:=I.grow g1
  refine⟨fun i m acc H'=>m=ds.length - i∧i≤ds.length∧∃ Hv',dw H1 Hv1 H' Hv'∧P H' Hv'∧acc.length≤i∧∃ done,P2 (Rep Hv') done acc∧Fin (Mi.dN tg c a (Mi.tM ρ e) (ds.drop i)) fun ys=>∀ v H2 Hv2,dw H Hv H2 Hv2→qN H H2 Hv2 (.d (.lst (done++ys))) v→Q v H2,
   ⟨ds.length,by simp,Nat.zero_le _,Hv1,.refl g1.vw,p1,Nat.le_refl _,[],.nil,by rw[List.drop_zero];exact h1.mono fun ys z=>z⟩,?_⟩
  rintro i m acc H' ⟨rfl,hle,Hv',g,pp,l,done,pd,hf⟩
  by_cases hlt:i < ds.length
  ·refine .inr ⟨O.go i H' Hv' pp g.vw hlt,by rw[sizeLine_eq];omega,fun acc' H2=>∃ Hv2,dw H1 Hv1 H2 Hv2∧P H2 Hv2∧acc'.length≤i+1∧∃ done,P2 (Rep Hv2) done acc'∧Fin (Mi.dN tg c a (Mi.tM ρ e) (ds.drop (i+1))) fun ys=>∀ v H3 Hv3,dw H Hv H3 Hv3→qN H H3 Hv3 (.d (.lst (done++ys))) v→Q v H3,
    fun acc' H2 z=>⟨ds.length - (i+1),by omega,rfl,hlt,z⟩,fun x H2 y=>?_⟩
   obtain⟨Hv2,d,g2,hd,rx⟩:=O.yld i H' Hv' x H2 pp g.vw hlt y
   have g12:=g.trans g2
   have hdr:ds.drop i=d::ds.drop (i+1):=by
    obtain⟨hl,e1⟩:=List.getElem?_eq_some_iff.mp hd
    rw[List.drop_eq_getElem_cons hl,e1]
   rw[hdr] at hf
   have hf:=TQ hf
   refine Oe (P:=fun e1 σ1=>R0 (Cv ρ M) e1 σ1 H2 Hv2) g2.vw (fun j hj e1 σ1 d1 v1 r1 z=>r1.set (hm j hj) z) ((I1.grow g12).pick ρ) rx (hf.mono fun e1 hf1 σ1 r1=>?_)
   refine hc e1 σ1 H2 Hv2 _ r1 (hf1.mono fun b hb H3 Hv3 g3=>?_)
   cases b with
   | true =>
    refine Di (he e1 σ1 H3 Hv3 _ (r1.grow g3) (Fin.mono (by simpa using hb) fun y hy v H4 Hv4 g4 ry=>?_))
    exact⟨Hv4,g12.trans (g3.trans g4),per _ _ _ _ pp (g2.trans (g3.trans g4)),by rw[List.length_append,List.length_singleton];omega,done++[y],(d8 (g2.trans (g3.trans g4)).vis pd).append (.cons ry .nil),hy.mono fun ys z v H5 Hv5 g5 k=>z v H5 Hv5 g5 (by rw[List.append_assoc] at k;exact k)⟩
   | false=>exact Dj ⟨Hv3,g12.trans g3,per _ _ _ _ pp (g2.trans g3),by omega,done,d8 (g2.trans g3).vis pd,by simpa using hb⟩
  ·have hi:i=ds.length:=by omega
   subst hi
   refine .inl ⟨O.stop H' Hv' pp g.vw,fun p hp=>?_⟩
   rw[List.drop_of_length_le (Nat.le_refl _)] at hf
   have g2:dw H' Hv' (upd H' p (.lst acc)) Hv':=.O7 g.vw trivial hp
   refine hf _ _ _ (g1.trans (g.trans g2)) ⟨p,.lst acc,rfl,(g1.old.trans g.old).free hp,bc,qH g.vw hp,?_⟩
   show P2 (Rep Hv') (done++[]) acc
   rw[List.append_nil];exact pd)
def tV(M:Nat→Bool)(κ : Kd)(H0 Hv0:Hp)(D:Ends)(Hv:Hp):Out→Prop
 | .nx e=>∀ σ H' Hv',R1 M H0 Hv0 e σ H' Hv'→jA Hv Hv'→D.nx σ H'
 | .rt w=>∀ v H' Hv',dw H0 Hv0 H' Hv'→κ H0 H' Hv' w v→D.rt v H'
 | .bk e=>∀ σ H' Hv',R1 M H0 Hv0 e σ H' Hv'→jA Hv Hv'→D.bk σ H'
 | .ct e=>∀ σ H' Hv',R1 M H0 Hv0 e σ H' Hv'→jA Hv Hv'→D.ct σ H'
def AS(M:Nat→Bool)(κ : Kd)(t:TS)(m:Mi.S):Prop:=∀ H0 Hv0 e σ H Hv D,R1 M H0 Hv0 e σ H Hv→Fin (m e) (tV M κ H0 Hv0 D Hv)→t D σ H
section
variable{M:Nat→Bool}{κ : Kd}{t u:TS}{m n:Mi.S}{te:TE}{a b:Mi.E}{w:Mi.EW}
theorem bK:AS M κ ZW Mi.bA:=fun H0 Hv0 e σ H Hv D I h=>h σ H Hv I (jA.refl _)
theorem gj:AS M κ UW Mi.gY:=fun H0 Hv0 e σ H Hv D I h=>h
theorem aM(h1:AS M κ t m)(h2:AS M κ u n):AS M κ (aaJ t u) (Mi.aW m n):=fun H0 Hv0 e σ H Hv D I h =>
 h1 H0 Hv0 e σ H Hv _ I ((az.mp h).mono fun o ho=>by
  cases o with
  | nx e'=>exact fun σ' H' Hv' I' s=>h2 H0 Hv0 e' σ' H' Hv' D I' (Fin.mono ho fun o z=>by
   cases o with
   | nx e2=>exact fun σ2 H2 Hv2 I2 s2=>z σ2 H2 Hv2 I2 (s.trans s2)
   | rt w=>exact z
   | bk e2=>exact fun σ2 H2 Hv2 I2 s2=>z σ2 H2 Hv2 I2 (s.trans s2)
   | ct e2=>exact fun σ2 H2 Hv2 I2 s2=>z σ2 H2 Hv2 I2 (s.trans s2))
  | rt w=>exact ho
  | bk e'=>exact ho
  | ct e'=>exact ho)
theorem qg(ha:AE M qP te a):AS M κ (Fy te) (Mi.qQ a):=fun H0 Hv0 e σ H Hv D I h =>
 ha e σ H Hv _ I.toR0 ((az.mp h).mono fun d hd v H1 Hv1 g1 r=>hd σ H1 Hv1 (I.grow g1) g1.vis)
theorem bH(i:Nat)(hm:M i=false)(ha:AE M qV te a):AS M κ (Kl te (tO i)) (Mi.bL i a):=fun H0 Hv0 e σ H Hv D I h =>
 ha e σ H Hv _ I.toR0 ((az.mp h).mono fun d hd v H1 Hv1 g1 r=>hd _ H1 Hv1 ((I.grow g1).set hm r) g1.vis)
theorem XC{K:W.Frag}(tg:Tg)(hm:∀ i∈BK tg,M i=false)(ha:AE M qV te a):AS M κ (Kl te (tgG K tg)) (Mi.aaS tg a):=fun H0 Hv0 e σ H Hv D I h =>
 ha e σ H Hv _ I.toR0 ((az.mp h).mono fun d hd v H1 Hv1 g1 r =>
  Oe (P:=fun e1 σ1=>R1 M H0 Hv0 e1 σ1 H1 Hv1) g1.vw (fun j hj e1 σ1 d1 v1 r1 z=>r1.set (hm j hj) z) (I.grow g1) r ((az.mp hd).mono fun e1 h1 σ1 I1=>h1 σ1 H1 Hv1 I1 g1.vis))
theorem cZ(ha:AW M qV te w):AS M qV (Og te) (Mi.dg w):=fun H0 Hv0 e σ H Hv D I h =>
 ha e σ H Hv _ I.toR0 ((az.mp h).mono fun d hd v H1 Hv1 g1 r=>hd v H1 Hv1 (I.gw.trans g1) r)
theorem qe(ha:AW M qN te w):AS M qN (Og te) (Mi.dg w):=fun H0 Hv0 e σ H Hv D I h =>
 ha e σ H Hv _ I.toR0 ((az.mp h).mono fun d hd v H1 Hv1 g1 r=>hd v H1 Hv1 (I.gw.trans g1) (KM.mono (κ:=qN) I.gw.old r))
theorem dG{tt:TT}{c:Mi.C}(hc:AT M tt c)(h1:AS M κ t m)(h2:AS M κ u n):AS M κ (Yb tt t u) (Mi.iI c m n):=fun H0 Hv0 e σ H Hv D I h =>
 hc e σ H Hv _ I.toR0 ((az.mp h).mono fun b hb H1 Hv1 g1=>by
  have up:∀ o,tV M κ H0 Hv0 D Hv o→tV M κ H0 Hv0 D Hv1 o:=fun o z=>by
   cases o with
   | nx e2=>exact fun σ2 H2 Hv2 I2 s2=>z σ2 H2 Hv2 I2 (g1.vis.trans s2)
   | rt w=>exact z
   | bk e2=>exact fun σ2 H2 Hv2 I2 s2=>z σ2 H2 Hv2 I2 (g1.vis.trans s2)
   | ct e2=>exact fun σ2 H2 Hv2 I2 s2=>z σ2 H2 Hv2 I2 (g1.vis.trans s2)
  cases b with
  | true=>exact Di (h1 H0 Hv0 e σ H1 Hv1 D (I.grow g1) (Fin.mono (Mi.zP hb) up))
  | false=>exact Dj (h2 H0 Hv0 e σ H1 Hv1 D (I.grow g1) (Fin.mono (Mi.zQ hb) up)))
theorem tV.up{H0 Hv0 Hv Hv1:Hp}{D:Ends}(s:jA Hv Hv1){o:Out}(z:tV M κ H0 Hv0 D Hv o):tV M κ H0 Hv0 D Hv1 o:=by
 cases o with
 | nx e2=>exact fun σ2 H2 Hv2 I2 s2=>z σ2 H2 Hv2 I2 (s.trans s2)
 | rt w=>exact z
 | bk e2=>exact fun σ2 H2 Hv2 I2 s2=>z σ2 H2 Hv2 I2 (s.trans s2)
 | ct e2=>exact fun σ2 H2 Hv2 I2 s2=>z σ2 H2 Hv2 I2 (s.trans s2)
theorem gC{K:W.Frag}{wi:TI}{it:Mi.I}{tg:Tg}(hi:Up M wi it)(hm:∀ i∈BK tg,M i=false)(hb:AS M κ t m):AS M κ (acv wi (tgG K tg) t) (Mi.jR it tg m):=fun H0 Hv0 e σ H Hv D I h =>
 hi e σ H Hv _ I.toR0 ((az.mp h).mono fun ds h1 J H1 Hv1 P g1 O p1 per=>by
  refine⟨fun i k σ' H'=>k=ds.length - i∧i≤ds.length∧∃ e' Hv',R1 M H0 Hv0 e' σ' H' Hv'∧P H' Hv'∧Fin (Mi.rC tg m (ds.drop i) e') (tV M κ H0 Hv0 D Hv'),
   ⟨ds.length,by simp,Nat.zero_le _,e,Hv1,I.grow g1,p1,by rw[List.drop_zero];exact h1.mono fun o z=>z.up g1.vis⟩,?_⟩
  rintro i k σ' H' ⟨rfl,hle,e',Hv',I',pp,hf⟩
  by_cases hlt:i < ds.length
  ·refine .inr ⟨O.go i H' Hv' pp I'.vw hlt,fun σ2 H2=>∃ e2 Hv2,R1 M H0 Hv0 e2 σ2 H2 Hv2∧P H2 Hv2∧Fin (Mi.rC tg m (ds.drop (i+1)) e2) (tV M κ H0 Hv0 D Hv2),
    fun σ2 H2 z=>⟨ds.length - (i+1),by omega,rfl,hlt,z⟩,fun x H2 y=>?_⟩
   obtain⟨Hv2,d,g2,hd,rx⟩:=O.yld i H' Hv' x H2 pp I'.vw hlt y
   have I2:=I'.grow g2
   have hdr:ds.drop i=d::ds.drop (i+1):=by
    obtain⟨hl,e1⟩:=List.getElem?_eq_some_iff.mp hd
    rw[List.drop_eq_getElem_cons hl,e1]
   rw[hdr] at hf
   refine Oe (P:=fun e1 σ1=>R1 M H0 Hv0 e1 σ1 H2 Hv2) g2.vw (fun j hj e1 σ1 d1 v1 r1 z=>r1.set (hm j hj) z) I2 rx ((az.mp hf).mono fun e1 h1 σ1 I1=>?_)
   refine hb H0 Hv0 e1 σ1 H2 Hv2 _ I1 ((az.mp h1).mono fun o ho=>?_)
   cases o with
   | nx e2=>exact fun σ2 H3 Hv3 I3 s3=>⟨e2,Hv3,I3,per _ _ _ _ pp (g2.vis.trans s3) I3.vw,Fin.mono ho fun o z=>z.up (g2.vis.trans s3)⟩
   | ct e2=>exact fun σ2 H3 Hv3 I3 s3=>⟨e2,Hv3,I3,per _ _ _ _ pp (g2.vis.trans s3) I3.vw,Fin.mono ho fun o z=>z.up (g2.vis.trans s3)⟩
   | bk e2=>exact fun σ2 H3 Hv3 I3 s3=>ho σ2 H3 Hv3 I3 (g2.vis.trans s3)
   | rt w=>exact ho
  ·have hi:i=ds.length:=by omega
   subst hi
   refine .inl ⟨O.stop H' Hv' pp I'.vw,?_⟩
   rw[List.drop_of_length_le (Nat.le_refl _)] at hf
   exact hf σ' H' Hv' I' (jA.refl _))
theorem Ni{tt:TT}{c:Mi.C}(k:Nat)(hc:AT M tt c)(hb:AS M κ t m):AS M κ (UG tt t) (Mi.Cp k c m):=fun H0 Hv0 e σ H Hv D I h=>by
 refine⟨fun j σ' H'=>∃ e' Hv',R1 M H0 Hv0 e' σ' H' Hv'∧Fin (Mi.jr c m j e') (tV M κ H0 Hv0 D Hv'),⟨k,e,Hv,I,h⟩,?_⟩
 rintro j σ' H' ⟨e',Hv',I',hf⟩
 cases j with
 | zero=>exact hf.elim
 | succ j =>
  refine hc e' σ' H' Hv' _ I'.toR0 ((az.mp hf).mono fun b hb' H1 Hv1 g1=>?_)
  cases b with
  | false=>exact Dj ((Mi.jK (Mi.zQ hb')) σ' H1 Hv1 (I'.grow g1) g1.vis)
  | true =>
   refine Di ⟨fun σ2 H2=>∃ e2 Hv2,R1 M H0 Hv0 e2 σ2 H2 Hv2∧Fin (Mi.jr c m j e2) (tV M κ H0 Hv0 D Hv2),fun σ2 H2 z=>⟨j,Nat.lt_succ_self j,z⟩,?_⟩
   refine hb H0 Hv0 e' σ' H1 Hv1 _ (I'.grow g1) ((az.mp (Mi.zP hb')).mono fun o ho=>?_)
   cases o with
   | nx e2=>exact fun σ2 H2 Hv2 I2 s2=>⟨e2,Hv2,I2,Fin.mono ho fun o z=>z.up (g1.vis.trans s2)⟩
   | ct e2=>exact fun σ2 H2 Hv2 I2 s2=>⟨e2,Hv2,I2,Fin.mono ho fun o z=>z.up (g1.vis.trans s2)⟩
   | bk e2=>exact fun σ2 H2 Hv2 I2 s2=>ho σ2 H2 Hv2 I2 (g1.vis.trans s2)
   | rt w=>exact ho
end
end A
namespace A
open PySem L2 PyProof.Rows
open Mi (D W Rs Fin az Out Tg)
variable[Tb:jb]
section
variable{M:Nat→Bool}{κ : Kd}{te:TE}{a b:Mi.E}{w:Mi.EW}{K:W.Frag}
theorem R1.write{H0 Hv0:Hp}{e:Mi.Env}{σ : L2.St}{H Hv:Hp}(I:R1 M H0 Hv0 e σ H Hv){i:Nat}{w w':W}{p:Addr}{o:HO}(hm:M i=true)(he:e[i]? = some (some w))(hs:σ[i]? = some (some (.ref p)))(c:iw Hv w' o):R1 M H0 Hv0 (e.set i (some w')) σ (upd H p o) Hv:=by
 have hp:∃ o',H p=some o'∧Hv p=none∧NP o':=by
  obtain⟨v,q,a,o',e1,q1,n,c'⟩:=I.own i w he hm
  rw[hs] at q;cases q;cases e1
  exact⟨o',q1,n,c'.aak⟩
 obtain⟨o',hp,hn,hcc⟩:=hp
 have h0:H0 p=none:=I.fresh i w p he hm hs
 have vw:Vw (upd H p o) Hv:=by
  refine⟨fun b u q=>?_,fun b xs q=>?_,fun b z u q=>?_,I.vw.cd.put hp hcc c.nt,I.vw.nv⟩
  ·rw[aN (bh q hn)];exact I.vw.sub b u q
  ·by_cases hb:b=p
   ·subst hb;rw[bc] at q;cases q;exact c.cell.elim
   ·rw[aN hb] at q;exact I.vw.tup b xs q
  ·by_cases hb:b=p
   ·subst hb;rw[bc] at q;cases q;exact c.cell.elim
   ·rw[aN hb] at q;exact I.vw.frz b z u q
 have get:∀ {j:Nat} {w2:W},(e.set i (some w'))[j]? = some (some w2)→(i=j∧w'=w2)∨(i≠j∧e[j]? = some (some w2)):=fun {j w2} h=>by
  rcases jZ h with ⟨x,y,_⟩|z
  ·exact .inl ⟨x,Option.some.inj y⟩
  ·exact .inr z
 have get':∀ {j:Nat} {w2:W},(e.set i (some w'))[j]? = some (some w2)→∃ w3,e[j]? = some (some w3):=fun {j w2} h=>by
  rcases get h with ⟨x,_⟩|⟨_,z⟩
  ·subst x;exact⟨w,he⟩
  ·exact⟨w2,z⟩
 refine⟨⟨vw,by rw[List.length_set];exact I.len,fun j w2 h m=>?_,fun j w2 h m=>?_⟩,⟨I.gw.old.put h0 hp,I.gw.vis,vw,I.gw.hid⟩,fun j w2 x h m q=>?_,fun j k w1 w2 x y hjk h1 h2 m1 m2 q1 q2=>?_⟩
 ·rcases get h with ⟨rfl,_⟩|⟨_,z⟩
  ·rw[hm] at m;cases m
  ·exact I.nob j w2 z m
 ·rcases get h with ⟨rfl,rfl⟩|⟨n,z⟩
  ·exact⟨.ref p,hs,p,o,rfl,bc,hn,c⟩
  ·obtain⟨v,q,x,u,e1,q1,n1,c1⟩:=I.own j w2 z m
   subst e1
   have:=I.sep i j w w2 p x n he z hm m hs q
   exact⟨.ref x,q,x,u,rfl,by rw[aN (Ne.symm this)];exact q1,n1,c1⟩
 ·obtain⟨w3,z⟩:=get' h
  exact I.fresh j w3 x z m q
 ·obtain⟨w3,z3⟩:=get' h1
  obtain⟨w4,z4⟩:=get' h2
  exact I.sep j k w3 w4 x y hjk z3 z4 m1 m2 q1 q2
theorem R1.cell{H0 Hv0:Hp}{e:Mi.Env}{σ : L2.St}{H Hv:Hp}(I:R1 M H0 Hv0 e σ H Hv){i:Nat}{w:W}(hm:M i=true)(he:e[i]? = some (some w)):∃ p o,σ[i]? = some (some (.ref p))∧H p=some o∧Hv p=none∧H0 p=none∧iw Hv w o:=by
 obtain⟨v,q,p,o,rfl,q1,n,c⟩:=I.own i w he hm
 exact⟨p,o,q,q1,n,I.fresh i w p he hm q,c⟩
theorem Bk{e:Mi.Env}{i:Nat}{k:List D→Prop}(h:Fin (Mi.getL e i) k):∃ ds,e[i]? = some (some (.d (.lst ds)))∧k ds:=by
 unfold Mi.getL at h
 split at h
 ·exact⟨_,‹_›,h⟩
 ·exact h.elim
theorem R1.list{H0 Hv0:Hp}{e:Mi.Env}{σ : L2.St}{H Hv:Hp}(I:R1 M H0 Hv0 e σ H Hv){i:Nat}{ds:List D}(hm:M i=true)(he:e[i]? = some (some (.d (.lst ds)))):∃ p xs,σ[i]? = some (some (.ref p))∧H p=some (.lst xs)∧Hv p=none∧P2 (Rep Hv) ds xs:=by
 obtain⟨p,o,q,q1,n,_,c⟩:=I.cell hm he
 cases o with
 | lst xs=>exact⟨p,xs,q,q1,n,c⟩
 | _=>exact c.elim
theorem R1.name{H0 Hv0:Hp}{e:Mi.Env}{σ : L2.St}{H Hv H1 Hv1:Hp}(I:R1 M H0 Hv0 e σ H Hv)(g:dw H Hv H1 Hv1){i:Nat}{w:W}{v:V}(hm:M i=true)(k:qN H H1 Hv1 w v):R1 M H0 Hv0 (e.set i (some w)) (σ.set i (some v)) H1 Hv1:=by
 obtain⟨p,o,rfl,hf,hp,hn,c⟩:=k
 have I1:=I.grow g
 have other:∀ {j:Nat} {w2:W} {x:Addr},e[j]? = some (some w2)→M j=true→σ[j]? = some (some (.ref x))→x≠p:=fun {j w2 x} h m q=>by
  obtain⟨p',o',q',q1,_⟩:=I.cell m h
  rw[q] at q';cases q'
  exact bh q1 hf
 refine⟨⟨I1.vw,by rw[List.length_set,List.length_set];exact I.len,fun j w2 h m=>?_,fun j w2 h m=>?_⟩,I1.gw,fun j w2 x h m q=>?_,fun j k w1 w2 x y hjk h1 h2 m1 m2 q1 q2=>?_⟩
 ·rcases jZ h with ⟨rfl,_⟩|⟨n,z⟩
  ·rw[hm] at m;cases m
  ·obtain⟨u,q,r⟩:=I1.nob j w2 z m
   exact⟨u,by rw[List.getElem?_set_ne n];exact q,r⟩
 ·rcases jZ h with ⟨rfl,h,l⟩|⟨n,z⟩
  ·cases h
   exact⟨.ref p,by rw[List.getElem?_set_self (by rw[I.len];exact l)],p,o,rfl,hp,hn,c⟩
  ·obtain⟨u,q,r⟩:=I1.own j w2 z m
   exact⟨u,by rw[List.getElem?_set_ne n];exact q,r⟩
 ·rcases jZ h with ⟨rfl,h,l⟩|⟨n,z⟩
  ·rw[List.getElem?_set_self (by rw[I.len];exact l)] at q
   cases q
   exact I.gw.old.free hf
  ·rw[List.getElem?_set_ne n] at q
   exact I.fresh j w2 x z m q
 ·rcases jZ h1 with ⟨rfl,_,l⟩|⟨n,z⟩
  ·rw[List.getElem?_set_self (by rw[I.len];exact l)] at q1
   cases q1
   rcases jZ h2 with ⟨rfl,_,_⟩|⟨n2,z2⟩
   ·exact absurd rfl hjk
   ·rw[List.getElem?_set_ne n2] at q2
    exact Ne.symm (other z2 m2 q2)
  ·rw[List.getElem?_set_ne n] at q1
   rcases jZ h2 with ⟨rfl,_,l⟩|⟨n2,z2⟩
   ·rw[List.getElem?_set_self (by rw[I.len];exact l)] at q2
    cases q2
    exact other z m1 q1
   ·rw[List.getElem?_set_ne n2] at q2
    exact I.sep j k w1 w2 x y hjk z z2 m1 m2 q1 q2
theorem lL(i:Nat)(hm:M i=true)(ha:AE M qN te a):AS M κ (Kl te (tO i)) (Mi.bL i a):=fun H0 Hv0 e σ H Hv D I h =>
 ha e σ H Hv _ I.toR0 ((az.mp h).mono fun d hd v H1 Hv1 g1 r=>hd _ H1 Hv1 (I.name g1 hm r) g1.vis)
theorem Rx(i:Nat)(hm:M i=true)(ha:AW M qN te w):AS M κ (Kl te (tO i)) (Mi.Vf i w):=fun H0 Hv0 e σ H Hv D I h =>
 ha e σ H Hv _ I.toR0 ((az.mp h).mono fun d hd v H1 Hv1 g1 r=>hd _ H1 Hv1 (I.name g1 hm r) g1.vis)
theorem Xu:AW M qN U3 (fun _=>.ok (.dk [])):=fun e σ H Hv Q I h p hp =>
 h _ _ Hv (.O7 I.vw trivial hp) ⟨p,.dK [],rfl,hp,bc,qH I.vw hp,.nil⟩
theorem Xr:AW M qN U0 (fun _=>.ok (.dt [])):=fun e σ H Hv Q I h p hp =>
 h _ _ Hv (.O7 I.vw trivial hp) ⟨p,.dT [],rfl,hp,bc,qH I.vw hp,.nil⟩
theorem gF(i:Nat)(hm:M i=true)(ha:AE M qV te a):AS M κ (Fy (tBM K "list" HQ (wW i) (lC te vo))) (Mi.bU i a):=fun H0 Hv0 e σ H Hv D I h=>by
 obtain⟨d,hd,h⟩:=pA (az.mp h)
 obtain⟨ds,he,h⟩:=Bk (az.mp h)
 obtain⟨hz,h⟩:=Mi.aX h
 obtain⟨p,xs,q,q1,n,c⟩:=I.list hm he
 refine⟨.ref p,q,.inl ⟨rfl,xs,.inl (.inl q1)⟩,ha e σ H Hv _ I.toR0 (by
  rw[hd]
  intro v H1 Hv1 g1 r
  have I1:=I.grow g1
  refine⟨p,xs,v,rfl,rfl,g1.old.at q1,by rw[← c.len,sizeLine_eq];exact hz,?_⟩
  exact h σ _ Hv1 (I1.write hm he q (show iw Hv1 (.d (.lst (ds++[d]))) (.lst (xs++[v])) from (d8 g1.vis c).append (.cons r .nil))) g1.vis)⟩
theorem lD{α : Type}{o:Option α}{k:α→Prop}(h:Fin (Mi.t8 o) k):∃ x,o=some x∧k x:=by
 cases o with
 | some x=>exact⟨x,rfl,h⟩
 | none=>exact h.elim
theorem acD{n:Nat}{i:Int}{k:Nat}(h:Mi.J0 n i=some k):seqIndex? i n=some k:=by
 unfold Mi.J0 at h
 split at h
 ·split at h
  ·rw[seqIndex_of (by omega) (by omega)];exact h
  ·cases h
 ·split at h
  ·rw[seqIndex_neg (by omega) (by omega)];exact h
  ·cases h
theorem Vt{ds:List D}{i:Int}{k:D×List D→Prop}(h:Fin (Mi.Qy ds i) k):-(2 ^ 63)≤i∧i < 2 ^ 63∧∃ j d,Mi.J0 ds.length i=some j∧ds[j]? = some d∧k (d,ds.eraseIdx j):=by
 obtain⟨⟨h1,h2⟩,h⟩:=Mi.aX h
 obtain⟨j,hj,h⟩:=lD (az.mp h)
 obtain⟨d,hd,h⟩:=lD (az.mp h)
 exact⟨h1,h2,j,d,hj,hd,h⟩
theorem JM(x y:Nat)(hxy:x≠y)(hx:M x=true)(hy:M y=true)(ha:AE M qP te a):AS M κ (Fy (tBM K "list" HQ (wW x) (lC (tBM K "list" Vn (wW y) (lC te vo)) vo))) (Mi.rW x y a):=fun H0 Hv0 e σ H Hv D I h=>by
 obtain⟨z,hz,h⟩:=pA (az.mp h)
 obtain⟨i,rfl,h⟩:=Qa (az.mp h)
 obtain⟨ds,he,h⟩:=Bk (az.mp h)
 obtain⟨h1,h2,j,d,hj,hd,h⟩:=Vt (az.mp h)
 obtain⟨es,he2,h⟩:=Bk (az.mp h)
 obtain⟨hsz,h⟩:=Mi.aX h
 have adw:e[x]? = some (some (.d (.lst es))):=by
  have he2:(e.set y (some (.d (.lst (ds.eraseIdx j)))))[x]? = _:=he2
  rwa [List.getElem?_set_ne (Ne.symm hxy)] at he2
 obtain⟨p,xs,q,q1,n,c⟩:=I.list hy he
 obtain⟨p',xs',q',q1',n',c'⟩:=I.list hx adw
 have hpp:p'≠p:=I.sep x y _ _ p' p hxy adw he hx hy q' q
 refine⟨.ref p',q',.inl ⟨rfl,xs',.inl (.inl q1')⟩,.ref p,q,.inl ⟨rfl,xs,.inl (.inl q1)⟩,ha e σ H Hv _ I.toR0 (by
  rw[hz]
  intro v H1 Hv1 g1 r
  have I1:=I.grow g1
  cases RD.int r
  obtain⟨u,hu,ru⟩:=c.getL hd
  rw[c.len] at hj
  refine⟨p,xs,i,j,u,rfl,rfl,g1.old.at q1,h1,h2,acD hj,hu,?_⟩
  have I2:=I1.write hy he q (show iw Hv1 (.d (.lst (ds.eraseIdx j))) (.lst (xs.eraseIdx j)) from (d8 g1.vis c).erase j)
  refine⟨p',xs',u,rfl,rfl,by rw[aN hpp];exact g1.old.at q1',by rw[← c'.len,sizeLine_eq];exact hsz,?_⟩
  exact h σ _ Hv1 (I2.write hx he2 q' (show iw Hv1 (.d (.lst (es++[d]))) (.lst (xs'++[u])) from (d8 g1.vis c').append (.cons (oV g1.vis ru) .nil))) g1.vis)⟩
theorem mO(i:Nat)(hm:M i=true):AS M qN (Og (wW i)) (Mi.dg (Mi.wV i)):=fun H0 Hv0 e σ H Hv D I h=>by
 obtain⟨w,he,h⟩:=Ql (az.mp h)
 obtain⟨p,o,q,q1,n,h0,c⟩:=I.cell hm he
 exact⟨.ref p,q,h _ H Hv I.gw ⟨p,o,rfl,h0,q1,n,c⟩⟩
theorem R1.aaW{H0 Hv0:Hp}{e:Mi.Env}{σ : L2.St}{H Hv:Hp}(I:R1 M H0 Hv0 e σ H Hv){y:Nat}{w:W}(hy:M y=true)(he:e[y]? = some (some w)):∃ p Hv',σ[y]? = some (some (.ref p))∧R1 M H0 Hv0 (e.set y none) σ H Hv'∧jA Hv Hv'∧uR Hv' w (.ref p):=by
 obtain⟨p,o,q,q1,n,h0,c⟩:=I.cell hy he
 obtain⟨vw,s⟩:=I.vw.show q1 n c.nt
 have nj:∀ {j:Nat} {w':W},(e.set y none)[j]? = some (some w')→y≠j∧e[j]? = some (some w'):=fun {j w'} h=>by
  rcases jZ h with ⟨_,h,_⟩|z
  ·cases h
  ·exact z
 refine⟨p,upd Hv p o,q,⟨⟨vw,by rw[List.length_set];exact I.len,fun j w' h m=>?_,fun j w' h m=>?_⟩,⟨I.gw.old,I.gw.vis.trans s,vw,fun b u z1 z2=>?_⟩,fun j w' x h m z=>?_,fun j k w1 w2 x z hjk h1 h2 m1 m2 z1 z2=>?_⟩,s,u0 bc (c.same s)⟩
 ·obtain⟨_,h⟩:=nj h
  obtain⟨v,z,r⟩:=I.nob j w' h m
  exact⟨v,z,oJ s r⟩
 ·obtain⟨hne,h⟩:=nj h
  obtain⟨v,z,x,u,e1,q2,n2,c2⟩:=I.own j w' h m
  subst e1
  have:=I.sep y j w w' p x hne he h hy m q z
  exact⟨.ref x,z,x,u,rfl,q2,by rw[aN (Ne.symm this)];exact n2,c2.same s⟩
 ·rw[aN (bh z1 h0)];exact I.gw.hid b u z1 z2
 ·exact I.fresh j w' x (nj h).2 m z
 ·exact I.sep j k w1 w2 x z hjk (nj h1).2 (nj h2).2 m1 m2 z1 z2
theorem Q0{κ':Type}[DecidableEq κ']{H:Hp}{k:κ'}{kvs:List (κ'×D)}{kv:List (κ'×V)}(h:N6 H kvs kv):match Mi.Fe kvs k with
 | some d=>∃ v,vR kv k=some v∧Rep H d v
 | none=>vR kv k=none:=by
 unfold Mi.Fe vR
 induction h with
 | nil=>rfl
 | @cons p q l m hpq t ih =>
  rw[List.find?_cons,List.find?_cons,hpq.1]
  by_cases hk:q.1=k
  ·rw[decide_eq_true hk]
   exact⟨q.2,rfl,hpq.2⟩
  ·rw[decide_eq_false hk]
   exact ih
theorem Q3{κ':Type}[DecidableEq κ']{H:Hp}{k:κ'}{d:D}{v:V}(r:Rep H d v){kvs:List (κ'×D)}{kv:List (κ'×V)}(h:N6 H kvs kv):N6 H (Mi.putK k d kvs) (L2.putK kv k v):=by
 have e:(kvs.any fun x=>decide (x.1=k))=(kv.any fun x=>decide (x.1=k)):=by
  induction h with
  | nil=>rfl
  | @cons p q l m hpq t ih=>rw[List.any_cons,List.any_cons,ih,hpq.1]
 unfold Mi.putK L2.putK
 rw[e]
 split
 ·rename_i hh
  clear hh e
  induction h with
  | nil=>exact .nil
  | @cons p q l m hpq t ih =>
   rw[List.map_cons,List.map_cons]
   refine .cons ?_ ih
   ·by_cases hk:q.1=k
    ·rw[if_pos hk,if_pos (hpq.1.trans hk)];exact⟨hpq.1,r⟩
    ·rw[if_neg hk,if_neg (fun z=>hk (hpq.1.symm.trans z))];exact hpq
 ·exact P2.append h (.cons ⟨rfl,r⟩ .nil)
end
end A
namespace A
open PySem L2 PyProof.Rows
open Mi (D W Rs Fin az Out Tg)
variable[Tb:jb]
section
variable{X:Cx}{K:W.Frag}
def Yn:R2:=fun x y H Q=>∃ i j,x=.str i∧y=.str j∧i.length+j.length≤sizeLine∧Q (.str (i++j)) H
theorem Pb{pins:List (Addr×Obj)}{σ : L2.St}{H:Hp}{s:Shared}{a:Addr}{xs:List V}(I:Inv X pins σ H s)(h:Lst H a xs):∃ (its:List Value) (n:Nat),Vals xs its∧xs.length≤sizeLine∧s.heap.get? a=some { cls:=.type "list", data:=.seq its.toArray n }:=by
 rcases h with h|⟨o,h⟩
 ·obtain⟨z,its,n,r,e⟩:=I.hok a _ h
  exact⟨its,n,r,z,e⟩
 ·obtain⟨_,z,its,n,r,e⟩:=I.hok a _ h
  exact⟨its,n,r,z,e⟩
def Z5:R2:=fun x y H Q=>∃ l b xs zs,x=.ref l∧y=.ref b∧Lst H l xs∧Lst H b zs∧xs.length+zs.length≤sizeLine∧∀ p,H p=none→Q (.ref p) (upd H p (.lst (xs++zs)))
theorem Yy:rH X (binaryOp .Add) Z5:=by
 intro pins s σ H x y v u Q I rx ry h
 obtain⟨l,b,xs,zs,rfl,rfl,hH,hB,hz,q⟩:=h
 cases rx
 cases ry
 obtain⟨its,n,r,z,e⟩:=Pb I hH
 obtain⟨its2,n2,r2,z2,e2⟩:=Pb I hB
 have hl:=r.length
 have hl2:=r2.length
 refine PySem.P.add_list e e2 ?_ (by rw[List.size_toArray,List.size_toArray];omega)
 have ea:its.toArray++its2.toArray=(its++its2).toArray:=by simp
 rw[ea]
 exact⟨.ref _,_,I.aew (t':=s.toks) (r.append r2) (by rw[List.length_append];omega),rfl,q _ I.fresh⟩
def Z6:R2:=fun x y H Q=>Uk (fun i j=>.int (i+j)) x y H Q∨Yn x y H Q∨Z5 x y H Q
theorem cA:rH X (binaryOp .Add) Z6:=abf.or (rH.or Ow Yy)
theorem Ir{H Hv:Hp}(vw:Vw H Hv){ds:List D}{xs:List V}(r:P2 (Rep Hv) ds xs){p:Addr}(hp:H p=none):dw H Hv (upd H p (.lst xs)) Hv∧qN H (upd H p (.lst xs)) Hv (.d (.lst ds)) (.ref p) :=
 ⟨.O7 vw trivial hp,p,.lst xs,rfl,hp,bc,qH vw hp,r⟩
theorem O6{H Hv:Hp}(vw:Vw H Hv){ds:List D}{xs:List V}(r:P2 (Rep Hv) ds xs){p:Addr}(hp:H p=none):dw H Hv (upd H p (.lst xs)) (upd Hv p (.lst xs))∧qV H (upd H p (.lst xs)) (upd Hv p (.lst xs)) (.d (.lst ds)) (.ref p):=by
 have g:dw H Hv (upd H p (.lst xs)) (upd Hv p (.lst xs)):=.new vw hp
 exact⟨g,oh.mpr ⟨p,xs,rfl,.inl bc,d8 g.vis r⟩⟩
theorem yI{H Hv:Hp}(vw:Vw H Hv){ds:List D}{xs:List V}(r:P2 (Rep Hv) ds xs){p:Addr}(hp:H p=none):dw H Hv (upd H p (.tup xs)) (upd Hv p (.tup xs))∧qV H (upd H p (.tup xs)) (upd Hv p (.tup xs)) (.d (.tup ds)) (.ref p):=by
 have g:dw H Hv (upd H p (.tup xs)) (upd Hv p (.tup xs)):=.new vw hp
 exact⟨g,jn.mpr ⟨p,xs,rfl,bc,d8 g.vis r⟩⟩
theorem gr:B2 qV Z6 Mi.cG:=fun x y v u H Hv Q vw rx ry h=>by
 cases x with
 | int i=>cases y with
  | int j=>cases RD.int rx;cases RD.int ry;exact .inl ⟨i,j,rfl,rfl,h _ H Hv (.refl vw) kE⟩
  | _=>exact h.elim
 | str i=>cases y with
  | str j =>
   cases RD.str rx;cases RD.str ry
   obtain⟨hz,h⟩:=Mi.aX h
   exact .inr (.inl ⟨i,j,rfl,rfl,by rw[sizeLine_eq];exact hz,h _ H Hv (.refl vw) Cr⟩)
  | _=>exact h.elim
 | lst a=>cases y with
  | lst b =>
   obtain⟨hz,h⟩:=Mi.aX h
   obtain⟨p,xs,rfl,l1,r1⟩:=RD.lst vw rx
   obtain⟨q,ys,rfl,l2,r2⟩:=RD.lst vw ry
   refine .inr (.inr ⟨p,q,xs,ys,rfl,rfl,l1,l2,by rw[← r1.len,← r2.len,sizeLine_eq];exact hz,fun a ha=>?_⟩)
   obtain⟨g,k⟩:=O6 vw (r1.append r2) ha
   exact h _ _ _ g k
  | _=>exact h.elim
 | _=>cases y<;>exact h.elim
theorem aam:B2 qV (Uk fun i j=>.int (i - j)) Mi.Js:=fun x y v u H Hv Q vw rx ry h=>by
 cases x with
 | int i=>cases y with
  | int j=>cases RD.int rx;cases RD.int ry;exact⟨i,j,rfl,rfl,h _ H Hv (.refl vw) kE⟩
  | _=>exact h.elim
 | _=>cases y<;>exact h.elim
theorem pF:B2 qV (rI ZS fun i j=>.int (i * j)) Mi.dM:=fun x y v u H Hv Q vw rx ry h=>by
 cases x with
 | int i=>cases y with
  | int j=>cases RD.int rx;cases RD.int ry;obtain⟨hz,h⟩:=Mi.aX h;exact⟨i,j,rfl,rfl,hz,h _ H Hv (.refl vw) kE⟩
  | _=>exact h.elim
 | _=>cases y<;>exact h.elim
theorem n6:B2 qV (rI aay fun i j=>.int (i / j)) Mi.iZ:=fun x y v u H Hv Q vw rx ry h=>by
 cases x with
 | int i=>cases y with
  | int j=>cases RD.int rx;cases RD.int ry;obtain⟨hz,h⟩:=Mi.aX h;exact⟨i,j,rfl,rfl,hz,h _ H Hv (.refl vw) kE⟩
  | _=>exact h.elim
 | _=>cases y<;>exact h.elim
theorem gQ:B2 qV (rI (fun _ j=>0 < j) fun i j=>.int (i % j)) Mi.cX:=fun x y v u H Hv Q vw rx ry h=>by
 cases x with
 | int i=>cases y with
  | int j=>cases RD.int rx;cases RD.int ry;obtain⟨hz,h⟩:=Mi.aX h;exact⟨i,j,rfl,rfl,hz,h _ H Hv (.refl vw) kE⟩
  | _=>exact h.elim
 | _=>cases y<;>exact h.elim
def acN:R2:=fun x y H Q=>Uk (fun i j=>.bl (decide (i < j))) x y H Q∨∃ i j,x=.str i∧y=.str j∧Q (.bl (decide (i.cps.toList < j.cps.toList))) H
theorem H9:rH X (compareOp .Lt) acN:=ac2.or Su
def acY:R2:=fun x y H Q=>Uk (fun i j=>.bl (decide (j < i))) x y H Q∨∃ i j,x=.str i∧y=.str j∧Q (.bl (decide (j.cps.toList < i.cps.toList))) H
theorem Ie:rH X (compareOp .Gt) acY:=ac3.or Sw
theorem Zo:B2 qV acN Mi.J2:=fun x y v u H Hv Q vw rx ry h=>by
 cases x with
 | int i=>cases y with
  | int j=>cases RD.int rx;cases RD.int ry;exact .inl ⟨i,j,rfl,rfl,h _ H Hv (.refl vw) jw⟩
  | _=>exact h.elim
 | str i=>cases y with
  | str j=>cases RD.str rx;cases RD.str ry;exact .inr ⟨i,j,rfl,rfl,h _ H Hv (.refl vw) jw⟩
  | _=>exact h.elim
 | _=>cases y<;>exact h.elim
theorem Zt:B2 qV acY Mi.XX:=fun x y v u H Hv Q vw rx ry h=>by
 cases x with
 | int i=>cases y with
  | int j=>cases RD.int rx;cases RD.int ry;exact .inl ⟨i,j,rfl,rfl,h _ H Hv (.refl vw) jw⟩
  | _=>exact h.elim
 | str i=>cases y with
  | str j=>cases RD.str rx;cases RD.str ry;exact .inr ⟨i,j,rfl,rfl,h _ H Hv (.refl vw) jw⟩
  | _=>exact h.elim
 | _=>cases y<;>exact h.elim
theorem Zq:B2 qV (Uk fun i j=>.bl (decide (i≤j))) Mi.Zd:=fun x y v u H Hv Q vw rx ry h=>by
 cases x with
 | int i=>cases y with
  | int j=>cases RD.int rx;cases RD.int ry;exact⟨i,j,rfl,rfl,h _ H Hv (.refl vw) jw⟩
  | _=>exact h.elim
 | _=>cases y<;>exact h.elim
def Yp(K:W.Frag)(neg:Bool):R2:=fun x y H Q=>∃ d e,L2.Rep K H d x∧L2.Rep K H e y∧d.dep≤16∧Q (.bl (if neg then !Mi.cR d e else Mi.cR d e)) H
theorem qx:B2 qV (Yp K false) Mi.oK:=fun x y v u H Hv Q vw rx ry h=>by
 obtain⟨hz,h⟩:=Mi.aX h
 exact⟨x,y,rY K (RD.full vw rx),rY K (RD.full vw ry),hz,h _ H Hv (.refl vw) jw⟩
theorem JG:B2 qV (Yp K true) Mi.wA:=fun x y v u H Hv Q vw rx ry h=>by
 obtain⟨hz,h⟩:=Mi.aX h
 exact⟨x,y,rY K (RD.full vw rx),rY K (RD.full vw ry),hz,h _ H Hv (.refl vw) jw⟩
def acU(neg:Bool):R2:=fun x y H Q=>y=.non∧Q (.bl (if neg then !decide (x=.non) else decide (x=.non))) H
theorem VJ:rH X (compareOp .IsNot) (acU true):=Yx
theorem aaX{H Hv:Hp}{d:D}{v:V}(r:RD H Hv d v):decide (v=.non)=Mi.Lz d:=by
 cases d with
 | non=>cases RD.non r;rfl
 | bl b=>cases RD.bl r;rfl
 | int b=>cases RD.int r;rfl
 | str b=>cases RD.str r;rfl
 | lst ds =>
  rcases r with r|⟨a,o,e,_⟩
  ·obtain⟨a,xs,e,_⟩:=oh.mp r
   subst e;rfl
  ·subst e;rfl
 | tup ds =>
  obtain⟨a,xs,e,_⟩:=jn.mp (r.R6 fun _ z=>by cases z)
  subst e;rfl
theorem Zr:B2 qV (acU true) Mi.DP:=fun x y v u H Hv Q vw rx ry h=>by
 cases y with
 | non =>
  cases RD.non ry
  refine⟨rfl,?_⟩
  show Q (.bl (!decide (v=.non))) H
  rw[aaX rx]
  exact h _ H Hv (.refl vw) jw
 | _=>exact h.elim
def acW(K:W.Frag):R2:=fun x y H Q=>Yo K false x y H Q∨acX false x y H Q
theorem lZ(hu:X.A.units+64 < cLine):rH X (compareOp .In) (acW X.K):=(abd hu).or abe
theorem QC{H:Hp}{ds:List D}{xs:List V}(h:P2 (Rep H) ds xs):L2.cO K H ds xs:=Az K (oU.mpr h)
theorem zc:B2 qV (acW K) Mi.pN:=fun x y v u H Hv Q vw rx ry h=>by
 cases y with
 | lst ds =>
  obtain⟨hz,h⟩:=Mi.aX h
  obtain⟨p,xs,rfl,l1,r1⟩:=RD.lst vw ry
  exact .inl ⟨p,xs,x,ds,rfl,.inl l1.sq,rY K (RD.full vw rx),QC (d8 vw.sub r1),hz,h _ H Hv (.refl vw) jw⟩
 | tup ds =>
  obtain⟨hz,h⟩:=Mi.aX h
  obtain⟨p,xs,rfl,l1,_,r1⟩:=RD.tup vw ry
  exact .inl ⟨p,xs,x,ds,rfl,.inr (.inl (.inl l1)),rY K (RD.full vw rx),QC (d8 vw.sub r1),hz,h _ H Hv (.refl vw) jw⟩
 | str z=>cases x with
  | str c =>
   obtain⟨hz,h⟩:=Mi.aX h
   cases RD.str rx;cases RD.str ry
   obtain⟨⟨l⟩⟩:=c
   match l,hz with
   | [c],_=>exact .inr ⟨c,z,rfl,rfl,h _ H Hv (.refl vw) jw⟩
  | _=>exact h.elim
 | _=>exact h.elim
theorem oF:B2 qV (Yo K true) Mi.dY:=fun x y v u H Hv Q vw rx ry h=>by
 cases y with
 | lst ds =>
  obtain⟨hz,h⟩:=Mi.aX h
  obtain⟨p,xs,rfl,l1,r1⟩:=RD.lst vw ry
  exact⟨p,xs,x,ds,rfl,.inl l1.sq,rY K (RD.full vw rx),QC (d8 vw.sub r1),hz,h _ H Hv (.refl vw) jw⟩
 | tup ds =>
  obtain⟨hz,h⟩:=Mi.aX h
  obtain⟨p,xs,rfl,l1,_,r1⟩:=RD.tup vw ry
  exact⟨p,xs,x,ds,rfl,.inr (.inl (.inl l1)),rY K (RD.full vw rx),QC (d8 vw.sub r1),hz,h _ H Hv (.refl vw) jw⟩
 | _=>exact h.elim
theorem ab2{α : Type}(xs:List α)(i:Int):Mi.wB xs i=L2.wB xs i:=rfl
theorem aap{α β : Type}{F:α→β→Prop}{l:List α}{m:List β}(h:P2 F l m){i:Int}{a:α}(e:Mi.wB l i=some a):∃ b,L2.wB m i=some b∧F a b:=by
 unfold Mi.wB at e
 cases hj:Mi.J0 l.length i with
 | none=>rw[hj] at e;cases e
 | some j =>
  rw[hj] at e
  have e:l[j]? = some a:=e
  obtain⟨b,hb,r⟩:=h.getL e
  refine⟨b,?_,r⟩
  rw[← ab2]
  unfold Mi.wB
  rw[← h.len,hj];exact hb
theorem dB:B2 qV (rIx K) Mi.cz:=fun x y v u H Hv Q vw rx ry h=>by
 cases y with
 | int i =>
  cases RD.int ry
  cases x with
  | lst ds =>
   obtain⟨d,e,h⟩:=lD h
   obtain⟨p,xs,rfl,l1,r1⟩:=RD.lst vw rx
   obtain⟨z,ez,rz⟩:=aap r1 e
   exact .inl ⟨p,xs,i,z,rfl,rfl,l1.sq,ez,h z H Hv (.refl vw) rz⟩
  | tup ds =>
   obtain⟨d,e,h⟩:=lD h
   obtain⟨p,xs,rfl,l1,_,r1⟩:=RD.tup vw rx
   obtain⟨z,ez,rz⟩:=aap r1 e
   exact .inr (.inl ⟨p,xs,i,z,rfl,rfl,.inl (.inl l1),ez,h z H Hv (.refl vw) rz⟩)
  | str z =>
   cases RD.str rx
   obtain⟨hz,h⟩:=Mi.aX h
   obtain⟨c,e,h⟩:=lD (az.mp h)
   exact .inr (.inr ⟨z,i,c,rfl,rfl,by rw[sizeLine_eq];exact hz,e,h _ H Hv (.refl vw) Cr⟩)
  | _=>exact h.elim
 | _=>cases x<;>exact h.elim
theorem W5{F:D→V→Prop}{l:List D}{m:List V}(h:P2 F l m)(lo hi:Option Int):P2 F (Mi.vq l lo hi) (L2.Tz m lo hi):=by
 unfold Mi.vq L2.Tz
 rw[h.len]
 exact(h.drop _).take _
def acG(K:W.Frag):V→Option Int→Option Int→Hp→VK→Prop:=fun x lo hi H Q=>aaY K x lo hi H Q∨acI x lo hi H Q
theorem Oj:XQ X (acG X.K):=Qs.or aaO
theorem Zf(z:Str)(lo hi:Option Int):TF z lo hi=Mi.uM z lo hi:=by
 unfold TF Mi.uM Mi.vq
 have:z.cps.toList.length=z.length:=by simp[Str.length]
 rw[this];rfl
theorem Ef:BS qV (acG K) Mi.Tu:=fun x lo hi v H Hv Q vw rx h=>by
 cases x with
 | lst ds =>
  obtain⟨p,xs,rfl,l1,r1⟩:=RD.lst vw rx
  refine .inl ⟨p,xs,rfl,l1.sq,fun a ha=>?_⟩
  obtain⟨g,k⟩:=O6 vw (W5 r1 lo hi) ha
  exact h _ _ _ g k
 | str z =>
  cases RD.str rx
  obtain⟨hz,h⟩:=Mi.aX h
  exact .inr ⟨z,rfl,by rw[sizeLine_eq];exact hz,h _ H Hv (.refl vw) (by rw[Zf];exact Cr)⟩
 | _=>exact h.elim
theorem oX{F:D→V→Prop}{d:D}{vs:List V}(h:P2 F [d] vs):∃ v,vs=[v]∧F d v:=by
 cases h with
 | cons r t=>cases t;exact⟨_,rfl,r⟩
theorem VG{F:D→V→Prop}{d e:D}{vs:List V}(h:P2 F [d,e] vs):∃ v u,vs=[v,u]∧F d v∧F e u:=by
 cases h with
 | cons r t=>cases t with
  | cons r' t=>cases t;exact⟨_,_,rfl,r,r'⟩
def acO(K:W.Frag):List V→Hp→VK→Prop:=fun xs H Q=>∃ x n,xs=[x]∧ad1 K x H n∧Q (.int n) H
theorem cV:jQ X (.builtin "len") (acO X.K):=Xd
theorem dX:BN qV (acO K) Mi.gB:=fun ds vs H Hv Q vw r h=>by
 match ds,r,h with
 | [.lst ds],r,h =>
  obtain⟨v,ev,rr⟩:=oX r
  subst ev
  replace r:=rr
  obtain⟨p,xs,rfl,l1,r1⟩:=RD.lst vw r
  refine⟨_,xs.length,rfl,.inl ⟨xs,l1.sq,rfl⟩,?_⟩
  rw[← r1.len]
  exact h _ H Hv (.refl vw) kE
 | [.tup ds],r,h =>
  obtain⟨v,ev,rr⟩:=oX r
  subst ev
  replace r:=rr
  obtain⟨p,xs,rfl,l1,_,r1⟩:=RD.tup vw r
  refine⟨_,xs.length,rfl,.inr ⟨xs,.inl (.inl l1),rfl⟩,?_⟩
  rw[← r1.len]
  exact h _ H Hv (.refl vw) kE
 | [.str z],r,h =>
  obtain⟨v,ev,rr⟩:=oX r
  subst ev
  replace r:=rr
  cases RD.str r
  obtain⟨hz,h⟩:=Mi.aX h
  exact⟨_,z.length,rfl,⟨by rw[sizeLine_eq];exact hz,rfl⟩,h _ H Hv (.refl vw) kE⟩
def acM:List V→Hp→VK→Prop:=fun xs H Q=>∃ i j z,xs=[.int i,.int j]∧max i j=z∧Q (.int z) H
def acL:List V→Hp→VK→Prop:=fun xs H Q=>∃ i j z,xs=[.int i,.int j]∧min i j=z∧Q (.int z) H
theorem Gv(hc:X.calm=true):jQ X (.builtin "max") acM:=PX hc
theorem TV(hc:X.calm=true):jQ X (.builtin "min") acL:=PQ hc
theorem MT:BN qV acM Mi.zf:=fun ds vs H Hv Q vw r h=>by
 match ds,r,h with
 | [.int i,.int j],r,h =>
  obtain⟨v,u,ev,rr,r'⟩:=VG r
  subst ev
  replace r:=rr
  cases RD.int r;cases RD.int r'
  exact⟨i,j,_,rfl,rfl,h _ H Hv (.refl vw) kE⟩
theorem Xi:BN qV acL Mi.M9:=fun ds vs H Hv Q vw r h=>by
 match ds,r,h with
 | [.int i,.int j],r,h =>
  obtain⟨v,u,ev,rr,r'⟩:=VG r
  subst ev
  replace r:=rr
  cases RD.int r;cases RD.int r'
  exact⟨i,j,_,rfl,rfl,h _ H Hv (.refl vw) kE⟩
theorem RC{Hv:Hp}:∀ {ds:List D} {xs:List V} {bs:List Bool},Mi.JN ds=some bs→P2 (Rep Hv) ds xs→xs=bs.map V.bl
 | [],_,bs,e,r=>by cases e;cases r;rfl
 | .bl b::ds,_,bs,e,r=>by
  cases r with
  | cons x t =>
   cases hb:Mi.JN ds with
   | none=>rw[Mi.JN,hb] at e;cases e
   | some cs =>
    rw[Mi.JN,hb] at e
    cases e
    rw[RC hb t,yz.mp x];rfl
 | .non::_,_,_,e,_=>by cases e
 | .int _::_,_,_,e,_=>by cases e
 | .str _::_,_,_,e,_=>by cases e
 | .lst _::_,_,_,e,_=>by cases e
 | .tup _::_,_,_,e,_=>by cases e
theorem M7:BN qV (acZ K (·.all id)) Mi.Ua:=fun ds vs H Hv Q vw r h=>by
 match ds,r,h with
 | [.lst ds],r,h =>
  obtain⟨v,ev,rr⟩:=oX r
  subst ev
  replace r:=rr
  obtain⟨bs,e,h⟩:=lD (az.mp h)
  obtain⟨p,xs,rfl,l1,r1⟩:=RD.lst vw r
  have:=RC e r1
  subst this
  exact⟨p,bs,rfl,l1.sq,h _ H Hv (.refl vw) jw⟩
def Z1(K:W.Frag):List V→Hp→VK→Prop:=fun xs H Q=>∃ p ys,xs=[.ref p]∧(Aw K H p ys∨Ab K H p ys)∧∀ l,H l=none→Q (.ref l) (upd H l (.lst ys))
theorem tE:jQ X (.type "list") (Z1 X.K):=JC
theorem qw:BN qN (Z1 K) Mi.GZ:=fun ds vs H Hv Q vw r h=>by
 match ds,r,h with
 | [.lst ds],r,h =>
  obtain⟨v,ev,rr⟩:=oX r
  subst ev
  replace r:=rr
  obtain⟨p,xs,rfl,l1,r1⟩:=RD.lst vw r
  refine⟨p,xs,rfl,.inl l1.sq,fun a ha=>?_⟩
  obtain⟨g,k⟩:=Ir vw r1 ha
  exact h _ _ _ g k
 | [.tup ds],r,h =>
  obtain⟨v,ev,rr⟩:=oX r
  subst ev
  replace r:=rr
  obtain⟨p,xs,rfl,l1,_,r1⟩:=RD.tup vw r
  refine⟨p,xs,rfl,.inr (.inl (.inl l1)),fun a ha=>?_⟩
  obtain⟨g,k⟩:=Ir vw r1 ha
  exact h _ _ _ g k
def Vk(K:W.Frag):List V→Hp→VK→Prop:=fun xs H Q=>∃ p ys,xs=[.ref p]∧((Aw K H p ys∧∀ l,H l=none→Q (.ref l) (upd H l (.tup ys)))∨(Ab K H p ys∧Q (.ref p) H))
theorem jz:jQ X (.type "tuple") (Vk X.K):=Fj
theorem iy:BN qV (Vk K) Mi.tG:=fun ds vs H Hv Q vw r h=>by
 match ds,r,h with
 | [.lst ds],r,h =>
  obtain⟨v,ev,rr⟩:=oX r
  subst ev
  replace r:=rr
  obtain⟨p,xs,rfl,l1,r1⟩:=RD.lst vw r
  refine⟨p,xs,rfl,.inl ⟨l1.sq,fun a ha=>?_⟩⟩
  obtain⟨g,k⟩:=yI vw r1 ha
  exact h _ _ _ g k
 | [.tup ds],r,h =>
  obtain⟨v,ev,rr⟩:=oX r
  subst ev
  replace r:=rr
  obtain⟨p,xs,rfl,l1,l2,r1⟩:=RD.tup vw r
  exact⟨p,xs,rfl,.inr ⟨.inl (.inl l1),h _ H Hv (.refl vw) (jn.mpr ⟨p,xs,rfl,l2,r1⟩)⟩⟩
def acV:List V→Hp→VK→Prop:=fun xs H Q=>(∃ i,xs=[.int i]∧Q (.int i) H)∨∃ k,xs=[.bl k]∧Q (.int (if k then 1 else 0)) H
theorem T3:jQ X (.type "int") acV:=T4
theorem Xj:BN qV acV Mi.ab0:=fun ds vs H Hv Q vw r h=>by
 match ds,r,h with
 | [.int i],r,h =>
  obtain⟨v,ev,rr⟩:=oX r
  subst ev
  replace r:=rr
  cases RD.int r
  exact .inl ⟨i,rfl,h _ H Hv (.refl vw) kE⟩
 | [.bl k],r,h =>
  obtain⟨v,ev,rr⟩:=oX r
  subst ev
  replace r:=rr
  cases RD.bl r
  exact .inr ⟨k,rfl,h _ H Hv (.refl vw) kE⟩
end
end A
namespace A
open PySem L2 PyProof.Rows
open Mi (D W Rs Fin az Out Tg)
variable[Tb:jb]
section
variable{X:Cx}{pins:List (Addr×Obj)}{σ : L2.St}{H:Hp}{s:Shared}
open SeqAt in
theorem Ym:∀ {d e:D} {A:Around} {x y:V} {u u':Value},d.flat=true→e.flat=true→L2.Rep X.K H d x→L2.Rep X.K H e y→RelV x u→RelV y u'→RcAt A s u u' (Mi.cR d e)∧RcNeAt A s u u' (!Mi.cR d e):=by
 intro d e A x y u u' h1 h2 r1 r2 q1 q2
 cases d with
 | non =>
  rw[L2.Rep] at r1;subst r1;cases q1
  cases e with
  | non=>rw[L2.Rep] at r2;subst r2;cases q2;exact⟨RcAt.none_none,RcNeAt.none_none⟩
  | bl b=>rw[L2.Rep] at r2;subst r2;cases q2;exact⟨RcAt.none_bool b,RcNeAt.none_bool b⟩
  | int b=>rw[L2.Rep] at r2;subst r2;obtain⟨t,rfl⟩:=q2;exact⟨RcAt.none_int b t,RcNeAt.none_int b t⟩
  | str b=>rw[L2.Rep] at r2;subst r2;obtain⟨t,rfl⟩:=q2;exact⟨RcAt.none_str b t,RcNeAt.none_str b t⟩
  | _=>cases h2
 | bl a =>
  rw[L2.Rep] at r1;subst r1;cases q1
  cases e with
  | non=>rw[L2.Rep] at r2;subst r2;cases q2;exact⟨RcAt.bool_none a,RcNeAt.bool_none a⟩
  | bl b=>rw[L2.Rep] at r2;subst r2;cases q2;rw[Mi.cR];exact⟨RcAt.bool_bool a b,RcNeAt.bool_bool a b⟩
  | int b=>rw[L2.Rep] at r2;subst r2;obtain⟨t,rfl⟩:=q2;rw[Mi.cR];exact⟨RcAt.bool_int a b t,RcNeAt.bool_int a b t⟩
  | str b=>rw[L2.Rep] at r2;subst r2;obtain⟨t,rfl⟩:=q2;exact⟨RcAt.bool_str a b t,RcNeAt.bool_str a b t⟩
  | _=>cases h2
 | int a =>
  rw[L2.Rep] at r1;subst r1;obtain⟨t1,rfl⟩:=q1
  cases e with
  | non=>rw[L2.Rep] at r2;subst r2;cases q2;exact⟨RcAt.int_none a t1,RcNeAt.int_none a t1⟩
  | bl b=>rw[L2.Rep] at r2;subst r2;cases q2;rw[Mi.cR];exact⟨RcAt.int_bool a t1 b,RcNeAt.int_bool a t1 b⟩
  | int b=>rw[L2.Rep] at r2;subst r2;obtain⟨t,rfl⟩:=q2;rw[Mi.cR];exact⟨RcAt.int_int a t1 b t,RcNeAt.int_int a t1 b t⟩
  | str b=>rw[L2.Rep] at r2;subst r2;obtain⟨t,rfl⟩:=q2;exact⟨RcAt.int_str a t1 b t,RcNeAt.int_str a t1 b t⟩
  | _=>cases h2
 | str a =>
  rw[L2.Rep] at r1;subst r1;obtain⟨t1,rfl⟩:=q1
  cases e with
  | non=>rw[L2.Rep] at r2;subst r2;cases q2;exact⟨RcAt.str_none a t1,RcNeAt.str_none a t1⟩
  | bl b=>rw[L2.Rep] at r2;subst r2;cases q2;exact⟨RcAt.str_bool a t1 b,RcNeAt.str_bool a t1 b⟩
  | int b=>rw[L2.Rep] at r2;subst r2;obtain⟨t,rfl⟩:=q2;exact⟨RcAt.str_int a t1 b t,RcNeAt.str_int a t1 b t⟩
  | str b=>rw[L2.Rep] at r2;subst r2;obtain⟨t,rfl⟩:=q2;rw[Mi.cR];exact⟨RcAt.str_str a t1 b t,RcNeAt.str_str a t1 b t⟩
  | _=>cases h2
 | _=>cases h1
open SeqAt in
theorem acF(I:Inv X pins σ H s):∀ (d e:D) (A:Around) {x y:V} {u u':Value},d.dep≤16→A.units+17 < cLine→L2.Rep X.K H d x→L2.Rep X.K H e y→RelV x u→RelV y u'→RcAt A s u u' (Mi.cR d e)∧RcNeAt A s u u' (!Mi.cR d e):=by
 intro d e A x y u u' hd hu h h' r r'
 have hu0:A.units < cLine:=by omega
 have item:∀ {ds es:List D} {xs ys:List V} {its its':List Value},Mi.dq ds≤16→L2.cO X.K H ds xs→L2.cO X.K H es ys→Vals xs its→Vals ys its' →
  ∀ j (h1:j < its.toArray.size) (h2:j < its'.toArray.size),EqAt A.in1 s its.toArray[j] its'.toArray[j] (Mi.cR (ds.getD j .non) (es.getD j .non)):=by
  intro ds es xs ys its its' hn q q' v v' j h1 h2
  have h1':j < its.length:=by simpa using h1
  have h2':j < its'.length:=by simpa using h2
  have e1:j < xs.length:=by rw[v.length];exact h1'
  have e2:j < ys.length:=by rw[v'.length];exact h2'
  have g1:xs[j]? = some xs[j]:=by simp[e1]
  have g2:ys[j]? = some ys[j]:=by simp[e2]
  obtain⟨w1,k1,r1⟩:=v.get g1
  obtain⟨w2,k2,r2⟩:=v'.get g2
  have t1:its.toArray[j]=w1:=by obtain⟨_,k1⟩:=List.getElem?_eq_some_iff.mp k1;simpa using k1
  have t2:its'.toArray[j]=w2:=by obtain⟨_,k2⟩:=List.getElem?_eq_some_iff.mp k2;simpa using k2
  rw[t1,t2]
  have:=yX (ds:=ds) (j:=j)
  refine WD I 16 _ _ A.in1 (by omega) ?_ (q.get g1) (q'.get g2) r1 r2
  show A.units+1+16 < cLine
  omega
 by_cases hdf:d.flat=true
 ·by_cases hef:e.flat=true
  ·exact Ym hdf hef h h' r r'
  ·cases e with
   | lst es =>
    rw[L2.Rep] at h'
    obtain⟨a,xs,rfl,q,_⟩:=h'
    cases r'
    obtain⟨its,_,p,_⟩:=I.list q
    cases d with
    | non=>rw[L2.Rep] at h;subst h;cases r;exact⟨RcAt.none_list p.isList hu0,RcNeAt.none_list p.isList hu0⟩
    | bl b=>rw[L2.Rep] at h;subst h;cases r;exact⟨RcAt.bool_list b p.isList hu0,RcNeAt.bool_list b p.isList hu0⟩
    | int b=>rw[L2.Rep] at h;subst h;obtain⟨t,rfl⟩:=r;exact⟨RcAt.int_list b t p.isList hu0,RcNeAt.int_list b t p.isList hu0⟩
    | str b=>rw[L2.Rep] at h;subst h;obtain⟨t,rfl⟩:=r;exact⟨RcAt.str_list b t p.isList hu0,RcNeAt.str_list b t p.isList hu0⟩
    | _=>cases hdf
   | tup es =>
    rw[L2.Rep] at h'
    obtain⟨a,xs,rfl,q,_⟩:=h'
    cases r'
    obtain⟨its,_,p,_⟩:=I.tuple q
    cases d with
    | non=>rw[L2.Rep] at h;subst h;cases r;exact⟨RcAt.none_tuple p hu0,RcNeAt.none_tuple p hu0⟩
    | bl b=>rw[L2.Rep] at h;subst h;cases r;exact⟨RcAt.bool_tuple b p hu0,RcNeAt.bool_tuple b p hu0⟩
    | int b=>rw[L2.Rep] at h;subst h;obtain⟨t,rfl⟩:=r;exact⟨RcAt.int_tuple b t p hu0,RcNeAt.int_tuple b t p hu0⟩
    | str b=>rw[L2.Rep] at h;subst h;obtain⟨t,rfl⟩:=r;exact⟨RcAt.str_tuple b t p hu0,RcNeAt.str_tuple b t p hu0⟩
    | _=>cases hdf
   | _=>exact absurd rfl hef
 ·cases d with
  | lst ds =>
   rw[L2.Rep] at h
   obtain⟨a,xs,rfl,q,rr⟩:=h
   cases r
   obtain⟨its,v,p,_⟩:=I.list q
   have hn:Mi.dq ds≤16:=by rw[Mi.D.dep] at hd;omega
   cases e with
   | non=>rw[L2.Rep] at h';subst h';cases r';exact⟨RcAt.list_none p.isList hu0,RcNeAt.list_none p.isList hu0⟩
   | bl b=>rw[L2.Rep] at h';subst h';cases r';exact⟨RcAt.list_bool b p.isList hu0,RcNeAt.list_bool b p.isList hu0⟩
   | int b=>rw[L2.Rep] at h';subst h';obtain⟨t,rfl⟩:=r';exact⟨RcAt.list_int b t p.isList hu0,RcNeAt.list_int b t p.isList hu0⟩
   | str b=>rw[L2.Rep] at h';subst h';obtain⟨t,rfl⟩:=r';exact⟨RcAt.list_str b t p.isList hu0,RcNeAt.list_str b t p.isList hu0⟩
   | lst es =>
    rw[L2.Rep] at h'
    obtain⟨b,ys,rfl,q',rr'⟩:=h'
    cases r'
    obtain⟨its',v',p',_⟩:=I.list q'
    have l1:=rr.length
    have l2:=rr'.length
    have l3:=v.length
    have l4:=v'.length
    by_cases hl:ds.length=es.length
    ·rw[Mi.cR,qT hl]
     have e1:its.toArray.size=ds.length:=by simp;omega
     have k1:=RcAt.lists p.isList p'.isList (by simp;omega) hu0 (item hn rr rr' v v')
     have k2:=RcNeAt.lists p.isList p'.isList (by simp;omega) hu0 (item hn rr rr' v v')
     rw[e1] at k1 k2
     exact⟨k1,k2⟩
    ·rw[Mi.cR,qR hl]
     exact⟨RcAt.lists_lengths p.isList p'.isList (by simp;omega) hu0,RcNeAt.lists_lengths p.isList p'.isList (by simp;omega) hu0⟩
   | tup es =>
    rw[L2.Rep] at h'
    obtain⟨b,ys,rfl,q',_⟩:=h'
    cases r'
    obtain⟨its',_,p',_⟩:=I.tuple q'
    exact⟨RcAt.list_tuple p.isList p' hu0,RcNeAt.list_tuple p.isList p' hu0⟩
  | tup ds =>
   rw[L2.Rep] at h
   obtain⟨a,xs,rfl,q,rr⟩:=h
   cases r
   obtain⟨its,v,p,_⟩:=I.tuple q
   have hn:Mi.dq ds≤16:=by rw[Mi.D.dep] at hd;omega
   cases e with
   | non=>rw[L2.Rep] at h';subst h';cases r';exact⟨RcAt.tuple_none p hu0,RcNeAt.tuple_none p hu0⟩
   | bl b=>rw[L2.Rep] at h';subst h';cases r';exact⟨RcAt.tuple_bool b p hu0,RcNeAt.tuple_bool b p hu0⟩
   | int b=>rw[L2.Rep] at h';subst h';obtain⟨t,rfl⟩:=r';exact⟨RcAt.tuple_int b t p hu0,RcNeAt.tuple_int b t p hu0⟩
   | str b=>rw[L2.Rep] at h';subst h';obtain⟨t,rfl⟩:=r';exact⟨RcAt.tuple_str b t p hu0,RcNeAt.tuple_str b t p hu0⟩
   | tup es =>
    rw[L2.Rep] at h'
    obtain⟨b,ys,rfl,q',rr'⟩:=h'
    cases r'
    obtain⟨its',v',p',_⟩:=I.tuple q'
    have l1:=rr.length
    have l2:=rr'.length
    have l3:=v.length
    have l4:=v'.length
    have k1:=RcAt.tuples p p' hu0 (item hn rr rr' v v')
    have k2:=RcNeAt.tuples p p' hu0 (item hn rr rr' v v')
    have e1:its.toArray.size=ds.length:=by simp;omega
    have e2:its'.toArray.size=es.length:=by simp;omega
    rw[e1,e2] at k1 k2
    by_cases hl:ds.length=es.length
    ·rw[Mi.cR,qT hl]
     rw[hl,Nat.min_self,beq_self_eq_true,Bool.and_true,← hl] at k1 k2
     exact⟨k1,k2⟩
    ·rw[Mi.cR,qR hl]
     have:(ds.length == es.length)=false:=by simpa using hl
     rw[this,Bool.and_false] at k1 k2
     exact⟨k1,k2⟩
   | lst es =>
    rw[L2.Rep] at h'
    obtain⟨b,ys,rfl,q',_⟩:=h'
    cases r'
    obtain⟨its',_,p',_⟩:=I.list q'
    exact⟨RcAt.tuple_list p p'.isList hu0,RcNeAt.tuple_list p p'.isList hu0⟩
  | _=>exact absurd rfl hdf
theorem gZ(hu:X.A.units+64 < cLine):rH X (compareOp .Eq) (Yp X.K false):=by
 intro pins s σ H x y v u Q I rx ry h
 obtain⟨d,e,r1,r2,hz,q⟩:=h
 exact(acF I d e X.A hz (by omega) r1 r2 rx ry).1 _ _ _ _ ⟨.bl _,H,I,rfl,q⟩
theorem sr(hu:X.A.units+64 < cLine):rH X (compareOp .NotEq) (Yp X.K true):=by
 intro pins s σ H x y v u Q I rx ry h
 obtain⟨d,e,r1,r2,hz,q⟩:=h
 exact(acF I d e X.A hz (by omega) r1 r2 rx ry).2 _ _ _ _ ⟨.bl _,H,I,rfl,q⟩
end
section
variable{X:Cx}{K:W.Frag}{M:Nat→Bool}{κ : Kd}{ta tb te:TE}{a b:Mi.E}
theorem acp{H Hv:Hp}(vw:Vw H Hv){d:D}{v:V}(r:RD H Hv d v):yc K H v (.type (Mi.Uw d)):=by
 cases d with
 | non=>cases RD.non r;exact .non
 | bl b=>cases RD.bl r;exact .bl b
 | int b=>cases RD.int r;exact .int b
 | str b=>cases RD.str r;exact .str b
 | lst ds =>
  obtain⟨p,xs,rfl,l,_⟩:=RD.lst vw r
  rcases l with l|⟨o,l⟩
  ·exact .lst l
  ·exact .frz l
 | tup ds =>
  obtain⟨p,xs,rfl,l,_⟩:=RD.tup vw r
  exact .tup l
def ab7(K:W.Frag)(T:String):Prop:=∀ d:D,W.kitOne K (.type (Mi.Uw d)) (.type T)=some (Mi.YT T d)
theorem adT{T:String}(hT:ab7 K T)(ha:AE M qP ta a):AE M qV (ZX (acT K) (lC ta (lC (tC (.ty T)) vo))) (Mi.m1 (Mi.bIs [T]) a):=fun e σ H Hv Q I h =>
 ha e σ H Hv _ I ((az.mp h).mono fun x hx v H1 Hv1 g1 rx=>⟨v,_,T,_,rfl,acp g1.vw rx,hT x,(Mi.jK hx) _ H1 Hv1 g1 (by
  have:([T].any fun t=>Mi.YT t x)=Mi.YT T x:=by simp
  rw[this];exact jw)⟩)
theorem ty_list(K:W.Frag):ab7 K "list" := fun d=>by cases d<;>rfl
theorem ty_tuple(K:W.Frag):ab7 K "tuple" := fun d=>by cases d<;>rfl
end
end A
namespace A
open PySem L2 PyProof.Rows
open Mi (D W Rs Fin az Out Tg)
variable[Tb:jb]
def Mo(l:List Nat):Nat→Bool:=fun i=>l.contains i
theorem BV{M:Nat→Bool}{N:List Str}{k:Nat}{ws:List W}{vs:List V}{H Hv:Hp}(vw:Vw H Hv)(p:P2 (uR Hv) ws vs)(hk:ws.length=k)(hM:∀ i,i < k→M i=false) :
 R1 M H Hv (ws.map some++List.replicate (N.length - ws.length) none) (start N vs) H Hv:=by
 have get:∀ {i:Nat} {w:W},(ws.map some++List.replicate (N.length - ws.length) none)[i]? = some (some w)→ws[i]? = some w∧i < k:=fun {i w} h=>by
  by_cases hi:i < ws.length
  ·rw[List.getElem?_append_left (by simpa using hi),List.getElem?_map] at h
   cases e:ws[i]? with
   | none=>rw[e] at h;cases h
   | some a=>rw[e] at h;cases h;exact⟨rfl,by omega⟩
  ·rw[List.getElem?_append_right (by simpa using hi),List.getElem?_replicate] at h
   split at h<;>cases h
 have no:∀ {i:Nat} {w:W},(ws.map some++List.replicate (N.length - ws.length) none)[i]? = some (some w)→M i=true→False:=fun {i w} h m=>by
  rw[hM i (get h).2] at m;cases m
 refine⟨⟨vw,?_,fun i w h m=>?_,fun i w h m=>(no h m).elim⟩,.refl vw,fun i w a h m=>(no h m).elim,fun i j w w' a b _ h _ m=>(no h m).elim⟩
 ·unfold L2.start
  rw[List.length_append,List.length_append,List.length_map,List.length_map,List.length_replicate,List.length_replicate,p.len]
 ·obtain⟨hw,hi⟩:=get h
  obtain⟨v,hv,r⟩:=p.getL hw
  refine⟨v,?_,r⟩
  unfold L2.start
  rw[List.getElem?_append_left (by rw[List.length_map,← p.len];omega),List.getElem?_map,hv];rfl
theorem nR{f:Mi.S}{k n:Nat}{vs:List V}{H:Hp}{Q:VK}{E:XK}(h:jT (Mi.uL k n f) vs H Q E):vs.length=k:=by
 obtain⟨Hv,ws,_,p,q⟩:=h
 rw[← p.len];exact(Mi.aX q).1
theorem xP{f:Mi.S}{k n:Nat}{vs:List V}{H:Hp}{Q:VK}{E:XK}(h:rM (Mi.J1 k n f) vs H Q E):vs.length=k:=by
 obtain⟨Hv,ws,_,p,q⟩:=h
 rw[← p.len];exact(Mi.aX q).1
theorem nJ{N:List Str}{M:Nat→Bool}{k:Nat}{t:TS}{m:Mi.S}(hA:AS M qV t m)(hM:∀ i,i < k→M i=false){vs:List V}{H:Hp}{Q:VK}{E:XK}(h:jT (Mi.uL k N.length m) vs H Q E) :
 t { nx:=fun _ H'=>Q .non H',rt:=Q } (start N vs) H:=by
 obtain⟨Hv,ws,vw,p,q⟩:=h
 obtain⟨hk,q⟩:=Mi.aX q
 refine hA H Hv _ _ H Hv _ (BV vw p hk hM) ((az.mp q).mono fun o ho=>?_)
 cases o with
 | nx e=>exact fun σ H' Hv' I s=>ho _ H' Hv' I.gw Oq
 | rt w=>exact fun v H' Hv' g r=>ho v H' Hv' g r
 | bk e=>exact ho.elim
 | ct e=>exact ho.elim
theorem runN{N:List Str}{M:Nat→Bool}{k:Nat}{t:TS}{m:Mi.S}(hA:AS M qN t m)(hM:∀ i,i < k→M i=false){vs:List V}{H:Hp}{Q:VK}{E:XK}(h:rM (Mi.J1 k N.length m) vs H Q E) :
 t { nx:=fun _ H'=>Q .non H',rt:=Q } (start N vs) H:=by
 obtain⟨Hv,ws,vw,p,q⟩:=h
 obtain⟨hk,q⟩:=Mi.aX q
 refine hA H Hv _ _ H Hv _ (BV vw p hk hM) ((az.mp q).mono fun o ho=>?_)
 cases o with
 | rt w=>exact fun v H' Hv' g r=>ho v H' Hv' g r
 | nx e=>exact ho.elim
 | bk e=>exact ho.elim
 | ct e=>exact ho.elim
def Ko:Sp:=fun vs H Q _=>∃ (a:Addr) (ns:List Int),vs=[.ref a]∧Lst H a (ns.map V.int)∧ns.length≤63∧kY H∧∀ H',Q (.bl true) H'
theorem ints_rep(H:Hp):∀ ns:List Int,P2 (Rep H) (ns.map D.int) (ns.map V.int)
 | []=>.nil
 | n::r=>.cons (rZ.mpr rfl) (ints_rep H r)
theorem abx{P:Program}{w:World}{K:W.Frag}{mg:Str→Option Value}{base:Heap}{CX:NQ}{k:Nat}{f:Addr}{fd:FuncData}{ps:List Str}{m:Mi.Fn}(F:dz P w K mg base CX k f fd ps (jT m))
 (h:∀ ns:List Int,ns.length≤63→m [.d (.lst (ns.map D.int))]=.ok (.d (.bl true))):dz P w K mg base CX k f fd ps Ko :=
 F.imp fun vs H Q E ⟨a,ns,e,l,hl,k,q⟩=>by
  subst e
  have l':Lst (Ul H) a (ns.map V.int):=by
   rcases l with l|⟨o,l⟩
   ·exact .inl (lE l trivial)
   ·exact .inr ⟨o,lE l trivial⟩
  refine⟨Ul H,[.d (.lst (ns.map D.int))],.all k,.cons (oh.mpr ⟨a,_,rfl,l',ints_rep _ ns⟩) .nil,?_⟩
  rw[h ns hl]
  intro v H' Hv' g r
  cases (yz (H:=Hv')).mp r
  exact q H'
theorem Oa{X:Cx}{pins:List (Addr×Obj)}{σ : L2.St}{H:Hp}{s:Shared}{fp:List Addr}{T:Addr}{o:HO}{h':Heap}{t':Nat}(I:Inv X pins σ H s)(hf:∀ b∈fp,rJ X pins H b)
 (k:∀ b u,b∉fp→s.heap.get? b=some u→h'.get? b=some u) (hT:s.heap.objs.size≤T) (new:dZ X.prog X.w (upd H T o) h' T o):Inv X pins σ (upd H T o) { s with heap:=h',toks:=t' }:=by
 have hn:H T=none:=I.hok.fresh hT
 have nfp:∀ b u,H b=some u→b∉fp:=fun b u e z=>by rw[(hf b z).1] at e;cases e
 refine I.call' (s':={ s with heap:=h',toks:=t' }) (ch:=fp) rfl ⟨fun b u e _ _ hb=>k b u hb e,fun b u e _ _ hb=>⟨u.slots,k b u hb e⟩,fun b u e hb _=>?_,fun b u e hb=>⟨u,k b u hb e⟩,fun b xs e=>?_,fun b q u e=>?_,fun b w ps e=>⟨#[],?_⟩⟩ ?_ I.bare
  fun b hb=>⟨(hf b hb).2.2.2.1,(hf b hb).2.1,(hf b hb).2.2.2.2.1,(hf b hb).2.2.2.2.2⟩
 ·have:b≠T:=Nat.ne_of_lt (Nat.lt_of_lt_of_le (Heap.lt_size e) hT)
  rw[aN this];exact hb
 ·rw[aN (bh e hn)];exact e
 ·rw[aN (bh e hn)];exact e
 ·rw[aN (bh e hn),e];simp
 ·intro b u e
  by_cases hb:b=T
  ·subst hb;rw[bc] at e;cases e;exact new
  ·rw[aN hb] at e
   refine(I.hok b u e).stay (fun c v hc q=>k c v ?_ q) (fun c q=>by rw[aN (bh q hn)];exact q) fun c xs q=>by rw[aN (bh q hn)];exact q
   rcases hc with z|z
   ·rw[z];exact nfp b u e
   ·exact nfp c _ z
theorem By{X:Cx}{pins:List (Addr×Obj)}{σ : L2.St}{H:Hp}{s:Shared}{fp:List Addr}{h':Heap}{t':Nat}(I:Inv X pins σ H s)(hf:∀ b∈fp,rJ X pins H b)
 (k:∀ b u,b∉fp→s.heap.get? b=some u→h'.get? b=some u):Inv X pins σ H { s with heap:=h',toks:=t' }:=by
 have nfp:∀ b u,H b=some u→b∉fp:=fun b u e z=>by rw[(hf b z).1] at e;cases e
 refine I.call' (s':={ s with heap:=h',toks:=t' }) (ch:=fp) rfl ⟨fun b u e _ _ hb=>k b u hb e,fun b u e _ _ hb=>⟨u.slots,k b u hb e⟩,fun b u e hb _=>hb,fun b u e hb=>⟨u,k b u hb e⟩,fun b xs e=>e,fun b q u e=>e,fun b w ps e=>⟨#[],by rw[e];simp⟩⟩ ?_ I.bare
  fun b hb=>⟨(hf b hb).2.2.2.1,(hf b hb).2.1,(hf b hb).2.2.2.2.1,(hf b hb).2.2.2.2.2⟩
 intro b u e
 refine(I.hok b u e).stay (fun c v hc q=>k c v ?_ q) (fun c q=>q) fun c xs q=>q
 rcases hc with z|z
 ·rw[z];exact nfp b u e
 ·exact nfp c _ z
section
variable{X:Cx}{elts:List Expr}{k1:Nat}{tpos:Pos}
theorem Ml:∀ {ds:List D} {k i:Nat} {d:D},ds[i]? = some d→(Mi.vG k ds)[i]? = some (.tup [.int ((k+i:Nat):Int),d])
 | [],_,_,_,h=>by simp at h
 | d::r,k,0,e,h=>by simp at h;subst h;rfl
 | d::r,k,i+1,e,h=>by
  have:=Ml (ds:=r) (k:=k+1) (i:=i) (d:=e) (by simpa using h)
  rw[Mi.vG,List.getElem?_cons_succ,this]
  rw[show k+1+i=k+(i+1) by omega]
theorem xV:∀ (ds:List D) (k:Nat),(Mi.vG k ds).length=ds.length
 | [],_=>rfl
 | d::r,k=>by rw[Mi.vG,List.length_cons,List.length_cons,xV r]
end
end A
namespace A
open PySem L2 PyProof.Rows
open Mi (D W Rs Fin az Out Tg)
variable[Tb:jb]
section
variable{X:Cx}{K:W.Frag}{M:Nat→Bool}{κ : Kd}{ta tb te tk:TE}{a b k:Mi.E}
theorem vm{Hv:Hp}:∀ {ds:List D} {xs:List V} {bs:List Str},Mi.pH ds=some bs→P2 (Rep Hv) ds xs→xs=bs.map V.str
 | [],_,bs,e,r=>by cases e;cases r;rfl
 | .str b::ds,_,bs,e,r=>by
  cases r with
  | cons x t =>
   cases hb:Mi.pH ds with
   | none=>rw[Mi.pH,hb] at e;cases e
   | some cs =>
    rw[Mi.pH,hb] at e
    cases e
    rw[vm hb t,pY.mp x];rfl
 | .non::_,_,_,e,_=>by cases e
 | .int _::_,_,_,e,_=>by cases e
 | .bl _::_,_,_,e,_=>by cases e
 | .lst _::_,_,_,e,_=>by cases e
 | .tup _::_,_,_,e,_=>by cases e
theorem XM(ha:AE M qP ta a)(hb:AE M qP tb b):AE M qV (tBM K "str" (rJoin K) ta (lC tb vo)) (Mi.m2 Mi.Rt a b):=fun e σ H Hv Q I h=>by
 obtain⟨x,hx,h⟩:=pA (az.mp h)
 obtain⟨y,hy,h⟩:=pA (az.mp h)
 cases x with
 | str sep=>cases y with
  | lst ds =>
   obtain⟨ys,hs,h⟩:=lD (az.mp h)
   obtain⟨hz,h⟩:=Mi.aX h
   refine ha e σ H Hv _ I (by
    rw[hx]
    intro v H1 Hv1 g1 r1
    cases RD.str r1
    refine⟨rfl,hb e σ H1 Hv1 _ (I.grow g1) (by
     rw[hy]
     intro v2 H2 Hv2 g2 r2
     obtain⟨p,xs,rfl,l,r⟩:=RD.lst g2.vw r2
     have:=vm hs r
     subst this
     exact⟨sep,p,ys,rfl,rfl,l.sq,hz,(Mi.jK h) _ H2 Hv2 (g1.trans g2) Cr⟩)⟩)
  | _=>exact h.elim
 | _=>cases y<;>exact h.elim
def KH:V→List V→Hp→VK→Prop:=fun x vs H Q=>∃ l b xs zs,x=.ref l∧vs=[.ref b]∧H l=some (.lst xs)∧Lst H b zs∧xs.length+zs.length≤sizeLine∧Q .non (upd H l (.lst (xs++zs)))
theorem CT:MtM X "list.extend" KH:=by
 intro pins s σ H x vs v us Q I rx rv h
 obtain⟨l,b,xs,zs,rfl,rfl,hH,hB,hz,q⟩:=h
 cases rx
 obtain⟨u,rfl,ru⟩:=rv.one
 cases ru
 obtain⟨z,its,n,r,hl,e⟩:=I.abt hH
 obtain⟨its2,n2,r2,z2,e2⟩:=Pb I hB
 have hl2:=r2.length
 have hsz:its.toArray.size+its2.toArray.size≤sizeLine:=by rw[List.size_toArray,List.size_toArray];omega
 have Rc:¬ (!its.toArray.isEmpty && Builtin.List.listTooLong (its.toArray.size+its2.toArray.size))=true:=by
  rw[V3 hsz,Bool.and_false]
  exact Bool.false_ne_true
 refine call_meets F.slot_list_extend ⟨_,e,rfl⟩ F.entry_list_extend (F.args_list_extend_2 _ _)
  (AutoSeq1.list_extend_list_list_0 l its.toArray n b its2.toArray n2 Rc (by rw[List.size_toArray];omega) (by omega)) ⟨e,e2,?_⟩
 refine⟨.non,_,I.abu (its':=its++its2) hH e (by simp) (r.append r2) ?_,rfl,q⟩
 rw[List.length_append]
 omega
theorem G3(i:Nat)(hm:M i=true)(ha:AE M qV te a):AS M κ (Fy (tBM K "list" KH (wW i) (lC te vo))) (Mi.rU i a):=fun H0 Hv0 e σ H Hv D I h=>by
 obtain⟨d,hd,h⟩:=pA (az.mp h)
 obtain⟨ds,he,h⟩:=Bk (az.mp h)
 cases d with
 | lst es =>
  obtain⟨hz,h⟩:=Mi.aX h
  obtain⟨p,xs,q,q1,n,c⟩:=I.list hm he
  refine⟨.ref p,q,.inl ⟨rfl,xs,.inl (.inl q1)⟩,ha e σ H Hv _ I.toR0 (by
   rw[hd]
   intro v H1 Hv1 g1 r
   have I1:=I.grow g1
   obtain⟨b,ys,rfl,l,r⟩:=(oh (H:=Hv1)).mp r
   refine⟨p,b,xs,ys,rfl,rfl,g1.old.at q1,l.same g1.vw.sub,by rw[← c.len,← r.len,sizeLine_eq];exact hz,?_⟩
   exact h σ _ Hv1 (I1.write hm he q (show iw Hv1 (.d (.lst (ds++es))) (.lst (xs++ys)) from (d8 g1.vis c).append r)) g1.vis)⟩
 | _=>exact h.elim
theorem Jg{H:Hp}{d:D}{v:V}{y:Mi.Ky}(h:Mi.Tv d=some y)(r:Rep H d v):v=kV y:=by
 cases d with
 | int i=>cases h;exact rZ.mp r
 | str i=>cases h;exact pY.mp r
 | _=>cases h
theorem De{H:Hp}:∀ {ds:List D} {vs:List V} {ys:List Mi.Ky},Mi.Gp ds=some ys→P2 (Rep H) ds vs→vs=ys.map kV
 | [],_,_,h,r=>by cases h;cases r;rfl
 | d::ds,_,ys,h,r=>by
  cases r with
  | cons x t =>
   unfold Mi.Gp at h
   cases h1:Mi.Tv d with
   | none=>rw[h1] at h;cases h
   | some y =>
    cases h2:Mi.Gp ds with
    | none=>rw[h1,h2] at h;cases h
    | some zs =>
     rw[h1,h2] at h
     cases h
     rw[Jg h1 x,De h2 t];rfl
theorem Za{H Hv:Hp}(vw:Vw H Hv){w:W}{x:V}{d:D}{v:V}{q:Option D→Prop}(hw:RB H Hv w x)(r:Rep Hv d v)(h:Fin (Mi.adJ w d) q):∃ a o o',x=.ref a∧JX H a v o∧q o'∧match o' with
 | some d'=>∃ v',o=some v'∧Rep Hv d' v'
 | none=>o=none:=by
 cases w with
 | d x=>exact h.elim
 | ex z=>exact h.elim
 | dk kvs =>
  obtain⟨y,hy,h⟩:=lD (az.mp h)
  have h:q (Mi.Fe kvs y):=h
  have:∃ a kv,x=.ref a∧H a=some (.dK kv)∧N6 Hv kvs kv:=by
   rcases hw with ⟨a,kv,e,z,c⟩|⟨a,o,e,z,c⟩
   ·exact⟨a,kv,e,vw.sub _ _ z,c⟩
   ·cases o with
    | dK kv=>exact⟨a,kv,e,z,c⟩
    | _=>exact c.elim
  obtain⟨a,kv,e,z,c⟩:=this
  have hv:=Jg hy r
  subst hv
  exact⟨a,_,_,e,JX.k z,h,Q0 c⟩
 | dt kvs =>
  cases d with
  | tup ds =>
   obtain⟨y,hy,h⟩:=lD (az.mp h)
   have h:q (Mi.Fe kvs y):=h
   have:∃ a kv,x=.ref a∧H a=some (.dT kv)∧N6 Hv kvs kv:=by
    rcases hw with ⟨a,kv,e,z,c⟩|⟨a,o,e,z,c⟩
    ·exact⟨a,kv,e,vw.sub _ _ z,c⟩
    ·cases o with
     | dT kv=>exact⟨a,kv,e,z,c⟩
     | _=>exact c.elim
   obtain⟨a,kv,e,z,c⟩:=this
   obtain⟨b,xs,rfl,l,r⟩:=jn.mp r
   have hv:=De hy r
   subst hv
   exact⟨a,_,_,e,JX.t z (vw.sub _ _ l),h,Q0 c⟩
  | _=>exact h.elim
theorem aau(i:Nat)(hk:AE M qV tk k):AE M qV (acw tk (wW i)) (Mi.I9 i k):=fun e σ H Hv Q I h =>
 hk e σ H Hv _ I ((az.mp h).mono fun d hd v H1 Hv1 g1 r=>by
  obtain⟨w,he,hd⟩:=Ql (az.mp hd)
  have I1:=I.grow g1
  obtain⟨x,q,z⟩:=I1.any he
  obtain⟨a,o,o',e1,g,h2,m⟩:=Za g1.vw z r (az.mp hd)
  refine⟨x,q,a,o,e1,g,?_⟩
  have:o.isSome=o'.isSome:=by
   cases o' with
   | none=>have m:o=none:=m;rw[m];rfl
   | some d'=>obtain⟨v',m,_⟩:=m;rw[m];rfl
  rw[this]
  exact h2 _ H1 Hv1 g1 jw)
theorem JL{tv:TE}{v:Mi.E}(i:Nat)(hm:M i=true)(hk:AE M qV tk k)(hv:AE M qV tv v):AS M κ (L2.pX (wW i) tk tv) (Mi.pX i k v):=fun H0 Hv0 e σ H Hv D I h=>by
 obtain⟨d,hd,h⟩:=pA (az.mp h)
 obtain⟨y,hy,h⟩:=pA (az.mp h)
 obtain⟨w,he,h⟩:=Ql (az.mp h)
 refine hv e σ H Hv _ I.toR0 (by
  rw[hd]
  intro x H1 Hv1 g1 rx
  have I1:=I.grow g1
  obtain⟨p,o,q,q1,n,h0,c⟩:=I1.cell hm he
  refine⟨.ref p,q,hk e σ H1 Hv1 _ I1.toR0 (by
   rw[hy]
   intro u H2 Hv2 g2 ru
   have I2:=I1.grow g2
   have c2:=c.same g2.vis
   have q2:=g2.old.at q1 c.nt
   have g12:=g1.trans g2
   have rx2:=oV g2.vis rx
   cases w with
   | d x=>exact(show False from az.mp h).elim
   | ex z=>exact(show False from az.mp h).elim
   | dk kvs =>
    obtain⟨hz,h⟩:=Mi.aX (az.mp h)
    obtain⟨ky,hky,h⟩:=lD (az.mp h)
    cases o with
    | dK kv =>
     have c2:N6 Hv2 kvs kv:=c2
     have hu:=Jg hky ru
     subst hu
     refine⟨p,_,rfl,NK.k q2 (by rw[← P2.len c2,sizeLine_eq];exact hz),?_⟩
     exact h σ _ Hv2 (I2.write hm he q (show iw Hv2 (.dk (Mi.putK ky d kvs)) (.dK (L2.putK kv ky x)) from Q3 rx2 c2)) g12.vis
    | _=>exact c2.elim
   | dt kvs =>
    cases y with
    | tup ds =>
     obtain⟨hz,h⟩:=Mi.aX (az.mp h)
     obtain⟨ky,hky,h⟩:=lD (az.mp h)
     cases o with
     | dT kv =>
      have c2:N6 Hv2 kvs kv:=c2
      obtain⟨b,xs,rfl,l,r⟩:=(jn (H:=Hv2)).mp ru
      have hu:=De hky r
      subst hu
      refine⟨p,_,rfl,NK.t q2 (g2.vw.sub _ _ l) (by rw[← P2.len c2,sizeLine_eq];exact hz),?_⟩
      exact h σ _ Hv2 (I2.write hm he q (show iw Hv2 (.dt (Mi.putK ky d kvs)) (.dT (L2.putK kv ky x)) from Q3 rx2 c2)) g12.vis
     | _=>exact c2.elim
    | _=>exact(show False from az.mp h).elim)⟩)
end
end A
namespace Zp
open PySem PySem.Spec PyProof.Rows L2
variable[Tb:A.jb]
section
variable{P:Program}{w:World}{B:Around}{F:Value→Shared→Prop}{z:Shared}
theorem abk{c t:Addr}{i:Nat}{us:Array Value}{u:Value}{R:Value→Shared→Prop}(hc:z.heap.IsTupleIter c t i)(ht:z.heap.IsTuple t us)(hu:us[i]? = some u)
 (hR:∀ h',h'.IsTupleIter c t (i+1)→Heap.SameBut c z.heap h'→R u { z with heap:=h' }):wpAny (model P w) B (Builtin.SmallTypes.nextOf (.ref c)) R F z:=by
 obtain⟨ob,gb,cb,db⟩:=id hc
 obtain⟨ol,gl,_,nl,dl⟩:=ht
 unfold Builtin.SmallTypes.nextOf
 refine wpAny_bind (wpAny_callSpecial?_slot (name:=Str.ofString "__next__") hc.typeIs PySem.F.slot_tuple_iterator_next (wpAny_call_entry PySem.F.slot_tuple_iterator_next hc.typeIs PySem.F.entry_tuple_iterator_next ?_ (PySem.F.args_tuple_iterator_next_1 _)))
 show wpAny _ _ (field (.ref c) 0 >>= _) _ _ z
 refine wpAny_bind (wpAny_field gb db (x:=.ref t) rfl ?_)
 show wpAny _ _ (if (Value.ref t == Value.none)=true then _ else _) _ _ z
 rw[if_neg (fun q:(Value.ref t == Value.none)=true=>nomatch q)]
 show wpAny _ _ (field (.ref c) 1 >>= _) _ _ z
 refine wpAny_bind (wpAny_field gb db (x:=.int i 0) rfl ?_)
 show wpAny _ _ (seqItems? (.ref t) >>= _) _ _ z
 refine wpAny_bind (wpAny_seqItems gl dl ?_)
 simp only[Int.toNat_natCast,hu]
 refine wpAny_bind (wpAny_setField gb db (by simp) (wpAny_pure ⟨u,rfl,wpAny_pure (hR _ ?_ (Heap.SameBut.update ..))⟩))
 refine⟨_,Heap.get?_update_self _ gb (Obj.isFreed_of_fields (Obj.data_mapFields db _)),(Obj.cls_mapFields ..).trans cb,?_⟩
 rw[Obj.data_mapFields db];simp[rawInt]
theorem O3{c t:Addr}{i:Nat}{us:Array Value}{R:Value→Shared→Prop}(hn:B.handled=none)(hc:z.heap.IsTupleIter c t i)(ht:z.heap.IsTuple t us)(hu:us[i]? = none)
 (hF:∀ h' e,Heap.ExtBut c z.heap h'→(∃ o,h'.get? e=some o∧o.cls=.type "StopIteration")→F (.ref e) { z with heap:=h' }):wpAny (model P w) B (Builtin.SmallTypes.nextOf (.ref c)) R F z:=by
 obtain⟨ob,gb,cb,db⟩:=id hc
 obtain⟨ol,gl,_,nl,dl⟩:=ht
 unfold Builtin.SmallTypes.nextOf
 refine wpAny_bind (wpAny_callSpecial?_slot (name:=Str.ofString "__next__") hc.typeIs PySem.F.slot_tuple_iterator_next (wpAny_call_entry PySem.F.slot_tuple_iterator_next hc.typeIs PySem.F.entry_tuple_iterator_next ?_ (PySem.F.args_tuple_iterator_next_1 _)))
 show wpAny _ _ (field (.ref c) 0 >>= _) _ _ z
 refine wpAny_bind (wpAny_field gb db (x:=.ref t) rfl ?_)
 show wpAny _ _ (if (Value.ref t == Value.none)=true then _ else _) _ _ z
 rw[if_neg (fun q:(Value.ref t == Value.none)=true=>nomatch q)]
 show wpAny _ _ (field (.ref c) 1 >>= _) _ _ z
 refine wpAny_bind (wpAny_field gb db (x:=.int i 0) rfl ?_)
 show wpAny _ _ (seqItems? (.ref t) >>= _) _ _ z
 refine wpAny_bind (wpAny_seqItems gl dl ?_)
 simp only[Int.toNat_natCast,hu]
 refine wpAny_bind (wpAny_rule (wpAny_bind (wpAny_setField gb db (by simp) ?_)))
 show wpAny _ _ (newExc (.type "StopIteration") [] >>= _) _ _ _
 refine wpAny_bind ?_
 simp only[newExc,newTuple]
 refine wpAny_bind (wpAny_newObj_type ?_ (by size_fits))
 refine wpAny_bind (m:=firstArgMember _ _) (wpAny_of_eq (a:=Value.none) (by simp only[firstArgMember];rfl) (wpAny_newObj_type ?_ (by size_fits)))
 simp only[raiseNew]
 refine wpAny_bind (wpAny_handled ?_)
 first|rw[show B.in1.handled=none from hn]|rw[hn]
 exact wpAny_bind (wpAny_pure (wpAny_throw (hF _ _ (((Heap.SameBut.update ..).extBut.push _).push _) ⟨_,Heap.get?_push_size _ rfl,rfl⟩)))
end
def nm:Bool→String|true => "list" | false => "tuple"
def nmI:Bool→String|true => "list_iterator" | false => "tuple_iterator"
def X3(k:Bool)(h:Heap)(l:Addr)(us:Array Value):Prop:=∃ o,h.get? l=some o∧o.cls=.type (nm k)∧∃ n,o.data=.seq us n
def XS(k:Bool)(h:Heap)(c l:Addr)(i:Nat):Prop:=∃ o,h.get? c=some o∧o.cls=.type (nmI k)∧o.data=.fields #[.ref l,.int i 0]
theorem X3.at{k:Bool}{h h':Heap}{l:Addr}{us:Array Value}(x:X3 k h l us)(f:∀ o,h.get? l=some o→h'.get? l=some o):X3 k h' l us:=let ⟨o,e,r⟩:=x;⟨o,f o e,r⟩
theorem XS.at{k:Bool}{h h':Heap}{c l:Addr}{i:Nat}(x:XS k h c l i)(f:∀ o,h.get? c=some o→h'.get? c=some o):XS k h' c l i:=let ⟨o,e,r⟩:=x;⟨o,f o e,r⟩
theorem XS.cell{k:Bool}{h:Heap}{c l:Addr}{i:Nat}(x:XS k h c l i):∃ o,h.get? c=some o∧∀ v,o.data≠.cell v:=let ⟨o,e,_,d⟩:=x;⟨o,e,fun v q=>by rw[d] at q;cases q⟩
section
variable{P:Program}{w:World}{B:Around}{F:Value→Shared→Prop}{z:Shared}
theorem nx{k:Bool}{c t:Addr}{i:Nat}{us:Array Value}{u:Value}{R:Value→Shared→Prop}(hc:XS k z.heap c t i)(ht:X3 k z.heap t us)(hu:us[i]? = some u)
 (hR:∀ h',XS k h' c t (i+1)→Heap.SameBut c z.heap h'→R u { z with heap:=h' }):wpAny (model P w) B (Builtin.SmallTypes.nextOf (.ref c)) R F z:=by
 cases k
 ·exact abk hc ht hu hR
 ·exact wpAny_nextOf_list_item hc ht hu hR
theorem abl{k:Bool}{c t:Addr}{i:Nat}{us:Array Value}{R:Value→Shared→Prop}(hn:B.handled=none)(hc:XS k z.heap c t i)(ht:X3 k z.heap t us)(hu:us[i]? = none)
 (hF:∀ h' e,Heap.ExtBut c z.heap h'→(∃ o,h'.get? e=some o∧o.cls=.type "StopIteration")→F (.ref e) { z with heap:=h' }):wpAny (model P w) B (Builtin.SmallTypes.nextOf (.ref c)) R F z:=by
 cases k
 ·exact O3 hn hc ht hu hF
 ·exact wpAny_nextOf_list_end hn hc ht hu hF
abbrev itO(k:Bool)(l:Addr):Obj:={ cls:=.type (nmI k),data:=.fields #[.ref l,.int 0 0] }
theorem Wm{k:Bool}{l:Addr}{us:Array Value}{R:Value→Shared→Prop}(h:X3 k z.heap l us)(hR:R (.ref z.heap.objs.size) { z with heap:=z.heap.push (itO k l) }):wpAny (model P w) B (pyIter (.ref l)) R F z:=by
 cases k
 ·exact wpAny_pyIter_tuple h hR
 ·exact wpAny_pyIter_list h hR
end
theorem WN{P:Program}{w:World}{B:Around}(hn:B.handled=none)(k:Bool)(c l:Addr)(hne:l≠c)(us:Array Value) :
 Draws P w B c [c,l] us.size (fun i v=>us[i]? = some v) (fun i h=>XS k h c l i∧X3 k h l us) where
 live:=fun _ _ st=>let ⟨o,ho,_⟩:=st.1;⟨o,ho⟩
 frame:=fun _ _ _ st f=>⟨st.1.at fun o e=>f c (by simp) o e,st.2.at fun o e=>f l (by simp) o e⟩
 item:=fun i s Q E hi st hQ=>nx st.1 st.2 (u:=us[i]) (by simp[hi]) fun h' a b=>hQ _ h' s.toks (by simp[hi]) ⟨a,st.2.at fun o e=>b.extBut _ _ hne e⟩ b
 done:=fun s Q E st hE=>abl hn st.1 st.2 (by simp) hE
end Zp
namespace Zp
end Zp
namespace Zp
end Zp
namespace Zp
open PySem PySem.Spec PyProof.Rows L2 A
variable[Tb:A.jb]
def J4(H:Hp)(s:Bool×Addr)(xs:List V):Prop:=match s.1 with
 | true=>Lst H s.2 xs
 | false=>H s.2=some (.tup xs)
theorem J4.nn{H:Hp}{s:Bool×Addr}{xs:List V}(h:J4 H s xs):H s.2≠none:=by
 obtain⟨k,a⟩:=s
 cases k
 ·have h:H a=_:=h
  show H a≠none
  rw[h];simp
 ·rcases (show Lst H a xs from h) with h|⟨o,h⟩
  ·show H a≠none
   rw[h];simp
  ·show H a≠none
   rw[h];simp
theorem J4.inj{H:Hp}{s:Bool×Addr}{xs ys:List V}(h:J4 H s xs)(h':J4 H s ys):xs=ys:=by
 obtain⟨k,a⟩:=s
 cases k
 ·have h:H a=some (.tup xs):=h
  have h':H a=some (.tup ys):=h'
  rw[h] at h';cases h';rfl
 ·rcases (show Lst H a xs from h) with h|⟨o,h⟩<;>rcases (show Lst H a ys from h') with h'|⟨o',h'⟩<;>rw[h] at h'<;>cases h'<;>rfl
theorem J4.at{X:Cx}{pins:List (Addr×Obj)}{σ : L2.St}{H:Hp}{s:Shared}{k:Bool}{a:Addr}{xs:List V}(I:Inv X pins σ H s)(h:J4 H (k,a) xs):∃ its:List Value,Vals xs its∧X3 k s.heap a its.toArray:=by
 cases k
 ·have h:H a=some (.tup xs):=h
  obtain⟨_,its,rv,o,e,c,_,d⟩:=I.hok a _ h
  exact⟨its,rv,o,e,c,d⟩
 ·have h:Lst H a xs:=h
  obtain⟨its,rv,⟨o,n,e,c,_,d⟩,_⟩:=I.list h.sq
  exact⟨its,rv,o,e,c,n,d⟩
end Zp
namespace Mi
def Rp:D→Rs (List D)
 | .lst ds=>.ok ds
 | .tup ds=>.ok ds
 | _=>.no
end Mi
namespace Zp
open PySem PySem.Spec PyProof.Rows L2 A
open Mi (D W Rs Fin az)
variable[Tb:A.jb]
theorem J4.same{H H':Hp}{s:Bool×Addr}{xs:List V}(h:jA H H')(q:J4 H s xs):J4 H' s xs:=by
 obtain⟨k,a⟩:=s
 cases k
 ·exact h _ _ q
 ·exact Lst.same (a:=a) h q
theorem adI{x:D}{k:List D→Prop}(h:Fin (Mi.Rp x) k):∃ ds,(x=.lst ds∨x=.tup ds)∧k ds:=by
 cases x with
 | lst b=>exact⟨b,.inl rfl,h⟩
 | tup b=>exact⟨b,.inr rfl,h⟩
 | _=>exact h.elim
theorem abT{H:Hp}{x:D}{ds:List D}{v:V}(h:x=.lst ds∨x=.tup ds)(r:Rep H x v):∃ k a xs,v=.ref a∧J4 H (k,a) xs∧P2 (Rep H) ds xs:=by
 rcases h with rfl|rfl
 ·obtain⟨a,xs,e,l,r⟩:=oh.mp r
  exact⟨true,a,xs,e,l,r⟩
 ·obtain⟨a,xs,e,l,r⟩:=jn.mp r
  exact⟨false,a,xs,e,l,r⟩
end Zp
namespace Zp
end Zp
namespace Mi
def yP(a:E):I:=fun e=>(a e).bind fun x=>(Rp x).bind fun ds=>.ok (vG 0 ds)
end Mi
namespace Zp
open PySem PySem.Spec PyProof.Rows L2 A
open Mi (D W Rs Fin az)
open AutoSeq1 (wpAny_loadPart')
variable[Tb:A.jb]
abbrev eO(c:Addr):Obj:={ cls:=.type "enumerate", data:=.fields #[.none,.bool false,.ref c,rawInt 0,.none,.none] }
theorem mkE(l:Addr)(us:Array Value)(n:Nat)(dd:Option Addr)(sl:Array (Option Value)) :
 Meets (Builtin.«enumerate.__new__» ⟨[.type "enumerate", .ref l],[]⟩) (fun _ R s=>s.heap.get? l=some { cls:=.type "tuple", dict:=dd,data:=.seq us n,slots:=sl } ∧
  ∀ h1:Heap,h1=s.heap.push (itO false l)→R (.ok (.ret (.ref h1.objs.size))) { s with heap:=h1.push (eO s.heap.objs.size) }) :=
 .of_wp fun prog w A R s h=>by
  obtain⟨hp,g,d,tk,os⟩:=s;obtain⟨ht,h⟩:=h
  have hsub:=sub_enumerate
  have hQ:X3 false (Shared.heap ⟨hp,g,d,tk,os⟩) l us:=⟨_,ht,rfl,n,rfl⟩
  wp_walk using wpAny_loadPart' ht
  refine wpAny_stack_any fun st=>wpAny_pure ?_
  split
  ·rename_i c _ _ _ _ _
   cases (c == Value.type "enumerate")
   ·wp_walk using wpAny_loadPart' ht,Wm hQ
    exact⟨_,rfl,h _ rfl⟩
   ·wp_walk using wpAny_loadPart' ht,Wm hQ
    exact⟨_,rfl,h _ rfl⟩
  ·wp_walk using wpAny_loadPart' ht,Wm hQ
   exact⟨_,rfl,h _ rfl⟩
theorem PN{P:Program}{w:World}{B:Around}{E':Value→Shared→Prop}{s:Shared}{k:Bool}{l:Addr}{us:Array Value}{R:Value→Shared→Prop}(hQ:X3 k s.heap l us)
 (h:∀ h',IsEnum h' (s.heap.objs.size+1) s.heap.objs.size 0 .none→XS k h' s.heap.objs.size l 0→(∀ b o,s.heap.get? b=some o→h'.get? b=some o)→R (.ref (s.heap.objs.size+1)) { s with heap:=h' }) :
 wpAny (model P w) B (call (.type "enumerate") [.ref l]) R E' s:=by
 cases k
 ·obtain⟨⟨c,dd,dt,sl⟩,hl,hc,n,hd⟩:=hQ
  replace hc:c=.type "tuple" := hc
  replace hd:dt=.seq us n:=hd
  subst hc hd
  refine callType_new F.called_enumerate (by decide) (F.typeCall_enumerate_1 _) (F.newCall_enumerate_1 _) (fun obj=>F.args_object_init_2 obj _) F.entry_enumerate_new (mkE l us n dd sl) ⟨hl,?_⟩
  intro h1 e1
  have z1:h1.objs.size=s.heap.objs.size+1:=by rw[e1];exact Heap.size_push ..
  have g1:h1.get? s.heap.objs.size=some (itO false l):=by rw[e1];exact Heap.get?_push_size _ rfl
  have g2:(h1.push (eO s.heap.objs.size)).get? h1.objs.size=some (eO s.heap.objs.size):=Heap.get?_push_size _ rfl
  show _∧_
  refine⟨⟨_,g2,rfl⟩,?_⟩
  rw[z1] at g2 ⊢
  exact h _ g2 ⟨_,Heap.get?_push_of_some _ g1,rfl,rfl⟩ fun b o x=>Heap.get?_push_of_some _ (by rw[e1];exact Heap.get?_push_of_some _ x)
 ·exact call_enumerate_list hQ fun h' a b _ d=>h h' a b d
def Itq(q:Bool×Addr):It :=
 ⟨fun i H=>∃ xs x,J4 H q xs∧xs[i]? = some x,fun i H v H'=>∃ p x,(∀ xs,J4 H q xs→xs[i]? = some x)∧H p=none∧v=.ref p∧H'=upd H p (.tup [.int i,x]),fun i H=>∃ xs,J4 H q xs∧xs.length=i⟩
theorem Od{P:Program}{w:World}{K:W.Frag}{elts:List Expr}{k1:Nat}{pos:Pos}(k:Bool)(a e it:Addr)(hne:e≠it):Turn P w K (.Tuple elts k1 pos) (Itq (k,a)) [e,it] e (fun i h=>(∃ old,IsEnum h e it i old)∧XS k h it a i) where
 mem:=by simp
 obj:=fun i h st b hb=>by
  obtain⟨⟨old,he⟩,hi⟩:=st
  rcases List.mem_cons.mp hb with rfl|hb
  ·exact⟨_,he,fun v z=>by cases z⟩
  ·have e1:b=it:=by simpa using hb
   subst e1
   exact hi.cell
 keep:=fun i h h' st kk=>⟨let ⟨old,he⟩:=st.1;⟨old,kk e (by simp) _ he⟩,st.2.at fun o q=>kk it (by simp) o q⟩
 item:=by
  intro X hP hw hK hc i pins s σ H E I hf st hg
  subst hP hw hK
  obtain⟨xs,x,hq,hx⟩:=hg
  obtain⟨its,rv,p⟩:=hq.at I
  obtain⟨u,hu,ru⟩:=rv.get hx
  obtain⟨⟨old,he⟩,hli⟩:=st
  have hlt:i < its.toArray.size:=by rw[List.size_toArray];exact(List.getElem?_eq_some_iff.mp hu).1
  have hai:a≠it:=fun z=>hq.nn (by show H a=none;rw[z];exact(hf it (by simp)).1)
  have hea:e≠a:=fun z=>hq.nn (by show H a=none;rw[← z];exact(hf e (by simp)).1)
  refine wpAny_pyNext_enum_itemD (WN (by first|exact I.ok.hd hc|(simp;exact I.ok.hd hc)) k it a hai its.toArray) he ⟨hli,p⟩ hlt hne (by simp[hne,hea]) fun y h' tk hy ho hs' hT hsz hk=>?_
  have hy:y=u:=by
   have hu':its.toArray[i]? = some u:=by simpa using hu
   rw[hu'] at hy;exact(Option.some.inj hy).symm
  subst hy
  refine⟨_,rfl,wpAny_letOwnedTupleGo_enum ho fun h2 he2 hs2=>?_⟩
  have kk:∀ b o,b∉[e,it]→s.heap.get? b=some o→h2.get? b=some o:=fun b o hb q=>by
   simp at hb
   exact(hs2.2 b hb.1).trans (hk b o hb.1 hb.2 q)
  have hTn:s.heap.objs.size≠e:=fun z=>absurd (Heap.lt_size he) (by rw[z];exact Nat.lt_irrefl _)
  refine⟨.ref s.heap.objs.size,upd H s.heap.objs.size (.tup [.int i,x]),Oa (s:=s) (t':=tk+1) I hf kk (Nat.le_refl _) ?_,rfl,⟨_,x,fun ys hy=>by rw[hy.inj hq];exact hx,I.hok.fresh (Nat.le_refl _),rfl,rfl⟩,⟨⟨_,he2⟩,?_⟩,fun b hb=>?_⟩
  ·exact⟨by simp only[List.length_cons,List.length_nil];rw[sizeLine_eq];decide,[.int i tk,y],.cons ⟨_,rfl⟩ (.cons ru .nil),⟨_,(hs2.2 _ hTn).trans hT,rfl,rfl,_,rfl⟩⟩
  ·exact hs'.1.at fun o q=>(hs2.2 it (Ne.symm hne)).trans q
  ·have:b≠s.heap.objs.size:=fun z=>by
    subst z
    rcases List.mem_cons.mp hb with z|z
    ·exact hTn z
    ·have z:s.heap.objs.size=it:=by simpa using z
     obtain⟨o,ho,_⟩:=hli
     exact absurd (Heap.lt_size ho) (by rw[← z];exact Nat.lt_irrefl _)
   rw[aN this];exact(hf b hb).1
 done:=by
  intro X hP hw hK hc i pins s σ H E I hf st hg
  subst hP hw hK
  obtain⟨xs,hq,hx⟩:=hg
  obtain⟨its,rv,p⟩:=hq.at I
  obtain⟨⟨old,he⟩,hli⟩:=st
  have hl:=rv.length
  have hai:a≠it:=fun z=>hq.nn (by show H a=none;rw[z];exact(hf it (by simp)).1)
  subst hx
  have D:=WN (P:=X.prog) (w:=X.w) (B:=X.A.in1) (by first|exact I.ok.hd hc|(simp;exact I.ok.hd hc)) k it a hai its.toArray
  have hn:its.toArray.size=xs.length:=by simp;omega
  rw[hn] at D
  exact wpAny_pyNext_enum_endD D he ⟨hli,p⟩ fun h' hx=>⟨rfl,By (s:=s) (t':=s.toks) I hf fun b o hb q=>hx b o (fun z=>hb (by simp[z])) q⟩
 self:=fun _ i s Q E st h=>let ⟨⟨old,he⟩,_⟩:=st;wpAny_pyIter_enum he h
section
variable{X:Cx}{elts:List Expr}{k1:Nat}{tpos:Pos}{M:Nat→Bool}
def Wo(tl:TE):TI:=fun σ H R=>tl σ H fun x H1=>∃ k a,[x]=[V.ref a]∧(∃ xs,J4 H1 (k,a) xs)∧R (Itq (k,a)) H1
theorem K1{a:Expr}{ta:TE}{p pos:Pos}(hg:Gl X "enumerate")(hm:X.mg "enumerate" = none)(ha:PE X a ta)(hs:starEach [a] X.env=[(false,eval a X.env)]:=by rfl)(hs0:starEach [a] X.env=(false,eval a X.env)::starEach [] X.env:=by rfl) :
 PI X (.Tuple elts k1 tpos) (.Call (.Name "enumerate" p) [a] [] pos) (Wo ta):=by
 intro pins s σ H R I h
 refine Call_ (yN I hg hm boot_enumerate (PyProof.Rows.callWith_type1 (gW (ak ha au hs0 pos pins s σ H (fun vs H1=>∃ k l,vs=[.ref l]∧(∃ xs,J4 H1 (k,l) xs)∧R (Itq (k,l)) H1) I ?_) fun us s1 ⟨vs,H1,I1,r1,q1⟩=>?_) hs rfl))
 ·exact h
 ·obtain⟨k,l,e,⟨xs,hq⟩,q⟩:=q1
  subst e
  obtain⟨u,rfl,ru⟩:=vals1 r1
  cases ru
  obtain⟨its,rv,pl⟩:=hq.at I1
  refine PN pl fun h' hE hI hk=>?_
  refine wpAny_pyIter_enum hE ?_
  have I2:Inv X pins σ H1 { s1 with heap:=h' }:=I1.kept (t':=s1.toks) fun b o e=>hk b o e
  refine⟨_,[s1.heap.objs.size+1,s1.heap.objs.size],_,_,H1,rfl,I2,Od k l (s1.heap.objs.size+1) s1.heap.objs.size (Nat.ne_of_gt (Nat.lt_succ_self _)),⟨⟨_,hE⟩,hI⟩,fun b hb=>?_,q⟩
  have hb:s1.heap.objs.size≤b:=by
   rcases List.mem_cons.mp hb with z|z
   ·rw[z];exact Nat.le_succ _
   ·have z:b=s1.heap.objs.size:=by simpa using z
    rw[z];exact Nat.le_refl _
  exact I1.xT hb (I1.hok.fresh hb)
theorem Te{q:Bool×Addr}{ds:List D}{P:Hp→Hp→Prop}(ok:∀ H Hv,P H Hv→Vw H Hv→∃ xs,J4 H q xs∧P2 (Rep Hv) ds xs):ItD (Itq q) P (Mi.vG 0 ds):=by
 refine⟨fun i H Hv p v hi=>?_,fun i H Hv x H' p v hi y=>?_,fun H Hv p v=>?_⟩
 ·obtain⟨xs,l,r⟩:=ok H Hv p v
  rw[xV] at hi
  obtain⟨x,hx,_⟩:=r.getL (i:=i) (a:=ds[i]) (by simp[hi])
  exact⟨xs,x,l,hx⟩
 ·obtain⟨xs,l,r⟩:=ok H Hv p v
  rw[xV] at hi
  obtain⟨q,z,hz,hq,rfl,rfl⟩:=y
  obtain⟨x,hx,rx⟩:=r.getL (i:=i) (a:=ds[i]) (by simp[hi])
  rw[hz xs l] at hx
  cases hx
  obtain⟨g,k⟩:=yI v (ds:=[.int i,ds[i]]) (xs:=[.int i,z]) (.cons (rZ.mpr rfl) (.cons rx .nil)) hq
  refine⟨_,.tup [.int i,ds[i]],g,?_,k⟩
  rw[Ml (i:=i) (d:=ds[i]) (by simp[hi])]
  simp
 ·obtain⟨xs,l,r⟩:=ok H Hv p v
  exact⟨xs,l,by rw[xV,r.len]⟩
theorem Nq{ta:TE}{a:Mi.E}(ha:AE M qV ta a):Up M (Wo ta) (Mi.yP a):=fun e σ H Hv R I h =>
 ha e σ H Hv _ I ((az.mp h).mono fun x hx v H1 Hv1 g1 rx=>by
  obtain⟨ds,hd,hk⟩:=adI (az.mp hx)
  obtain⟨k,p,xs,rfl,l,r⟩:=abT hd (show Rep Hv1 x v from rx)
  exact⟨k,p,rfl,⟨xs,l.same g1.vw.sub⟩,hk (Itq (k,p)) H1 Hv1 (fun H Hv=>J4 Hv (k,p) xs∧P2 (Rep Hv) ds xs) g1 (Te fun H Hv z v=>⟨xs,z.1.same v.sub,z.2⟩) ⟨l,r⟩ fun H1 Hv1 H2 Hv2 z s v=>⟨z.1.same s,d8 s z.2⟩⟩)
end
end Zp
namespace Mi
end Mi
namespace Zp
open PySem PySem.Spec PyProof.Rows L2 A
open Mi (D W Rs Fin az)
variable[Tb:A.jb]
end Zp
namespace Mi
abbrev SN:=List D→List D→Env→Rs Out
end Mi
namespace Zp
open PySem PySem.Spec PyProof.Rows L2 A
open Mi (D W Rs Fin az Out)
variable[Tb:A.jb]
end Zp
namespace A
open PySem L2 PyProof.Rows
open Mi (D W Rs Fin az Out Tg)
variable[Tb:jb]
open Mi (met)
theorem QR(val:Nat→Str):∀ i,(met val i).length≤i
 | 0=>Nat.le_refl _
 | i+1=>by
  have ih:=QR val i
  unfold met
  split
  ·omega
  ·rw[List.length_append,List.length_singleton];omega
theorem QQ(val:Nat→Str)(i:Nat)(x:Str):decide (x∈met val (i+1))=(decide (x∈met val i) || decide (x=val i)):=by
 rw[met]
 split
 ·rename_i h
  by_cases e:x=val i
  ·subst e;simp[h]
  ·simp[e]
 ·rw[show decide (x∈met val i++[val i])=(decide (x∈met val i) || decide (x=val i)) from by simp]
section
variable{prog:Program}{w:World}{Ar:Around}{R:Result→Shared→Prop}{I S:Addr}{fp wr:List Addr}{n:Nat}{P:Nat→Value→Prop}{St:Nat→Heap→Prop}
theorem set_same{h:Heap}{a:Addr}{F G:Str→Bool}{n m:Nat}(hS:h.SetOf (PySem.strKind prog w) a F n)(e:∀ k,F k=G k)(en:n=m):h.SetOf (PySem.strKind prog w) a G m:=by
 rw[← funext e,← en];exact hS
theorem BX{h h':Heap}{a:Addr}{F:Str→Bool}{n:Nat}(hS:h.SetOf (PySem.strKind prog w) a F n)(k:∀ o,h.get? a=some o→h'.get? a=some o):h'.SetOf (PySem.strKind prog w) a F n :=
 let ⟨o,es,ep,t,ho,r⟩:=hS;⟨o,es,ep,t,k o ho,r⟩
theorem Va(W:Walks prog w Ar.in1 I fp wr n P St)(hSf:S∉fp)(val:Nat→Str)(hv:∀ i v,P i v→∃ t,v=.str (val i) t)(hb:n+1 < scanBound) :
 ∀ (k i:Nat) (s:Shared),n=i+k→St i s.heap→s.heap.SetOf (PySem.strKind prog w) S (fun x=>decide (x∈met val i)) (met val i).length →
  (∀ h' tk,(∀ b o,b≠S→b∉wr→s.heap.get? b=some o→h'.get? b=some o)→h'.SetOf (PySem.strKind prog w) S (fun x=>decide (x∈met val n)) (met val n).length→R (.ok (.ret .none)) { s with heap:=h',toks:=tk }) →
  codeAny (model prog w) Ar (.builtin "set.update.loop" ⟨[.ref S,.ref I],[]⟩) R s:=by
 have hSw:S∉wr:=fun z=>hSf (W.sub _ z)
 intro k
 induction k with
 | zero =>
  intro i s hk st hS hR
  obtain rfl:n=i:=hk
  refine codeAny_builtin PyProof.Rows.F.entry_set_update_loop (by
   rw[Around.under_plainId PyProof.Rows.F.plain_set_update_loop _]
   show wpAny _ Ar.in1 (pyNext (.ref I) >>= _) _ _ s
   refine wpAny_bind (W.done s _ _ st fun h' tk hm=>?_)
   exact wpAny_pure (hR h' tk (fun b o _ hw e=>hm b o hw e) (BX hS fun o e=>hm S o hSw e)))
 | succ k ih =>
  intro i s hk st hS hR
  have hlt:i < n:=by omega
  refine codeAny_builtin PyProof.Rows.F.entry_set_update_loop (by
   rw[Around.under_plainId PyProof.Rows.F.plain_set_update_loop _]
   show wpAny _ Ar.in1 (pyNext (.ref I) >>= _) _ _ s
   refine wpAny_bind (W.item i s _ _ hlt st fun v h1 tk hP st1 hm=>?_)
   obtain⟨t,rfl⟩:=hv i v hP
   have hS1:=BX hS fun o e=>hm S o hSw e
   show wpAny _ Ar.in1 (holding [Value.str (val i) t] (setAdd S (.str (val i) t)) >>= _) _ _ _
   refine wpAny_bind (wpAny_holding ?_)
   unfold setAdd
   refine wpAny_holding (wpAny_bind ((PySem.strKind prog w).pyHash (k:=val i) (strKind_is _ _ _ _) ?_))
   have room:(met val i).length+1 < scanBound:=by have:=QR val i;omega
   refine wpAny_setAddHashed_of (knd:=PySem.strKind prog w) (strKind_is _ _ _ _) rfl hS1 room fun h2 sb hS2=>?_
   have hS3:h2.SetOf (PySem.strKind prog w) S (fun x=>decide (x∈met val (i+1))) (met val (i+1)).length:=by
    refine set_same hS2 (fun x=>(QQ val i x).symm) ?_
    rw[met]
    by_cases hm:val i∈met val i
    ·simp[hm]
    ·simp[hm]
   refine wpAny_pure ⟨plainId_quiet PyProof.Rows.F.plain_set_update_loop _,ih (i+1) _ (by omega) (W.frame _ _ _ st1 fun b hb o e=>(sb.2 b fun z=>hSf (z ▸ hb)).trans e) hS3 fun h3 tk3 hm3 hS4=>?_⟩
   exact hR h3 tk3 (fun b o hbS hw e=>hm3 b o hbS hw ((sb.2 b hbS).trans (hm b o hw e))) hS4)
abbrev HH(led:Bool):Obj:={ cls:=.type "set", dict:=none,data:=.set #[] 0 (.fresh 0 0 led) }
end
section
variable{X:Cx}{M:Nat→Bool}{te:TE}{a:Mi.E}
theorem Qq:∀ {ys:List Str} {us:List Value} (i:Nat) (v:Value),Vals (ys.map V.str) us→us[i]? = some v→∃ t,v=Value.str (ys.getD i Str.empty) t
 | [],_,i,v,.nil,h=>by simp at h
 | y::ys,_,0,v,.cons r _,h=>by
  simp at h
  subst h
  exact r
 | y::ys,_,i+1,v,.cons _ t,h=>by
  have:=Qq (ys:=ys) i v t (by simpa using h)
  simpa using this
end
end A
namespace A
open PySem L2 PyProof.Rows
open Mi (D W Rs Fin az Out Tg)
variable[Tb:jb]
section
variable{prog:Program}{w:World}{Ar:Around}
theorem Jq:entryFor table "set.__eq__" = some Builtin.«frozenset.__eq__» :=
 entryFor_alias (id' := "frozenset.__eq__") (by kernel_rfl) rfl (by decide +kernel) (by kernel_rfl)
theorem HF{E:Value→Shared→Prop}{s:Shared}{x:Addr}{o:Obj}{es:Array (Int×Value)}{ep:Nat}{t:SetTable}{Q:Nat→Shared→Prop}(ho:s.heap.get? x=some o)(hd:o.data=.set es ep t)(hf:t.fits es.size=true)(h:Q es.size s):wpAny (model prog w) Ar (Builtin.Frozenset.sizeOf x) Q E s:=by
 unfold Builtin.Frozenset.sizeOf setEntries
 refine wpAny_bind (wpAny_bind (wpAny_setState_of ho hd hf (wpAny_pure ?_)))
 exact wpAny_pure h
theorem aaD{E:Value→Shared→Prop}{s:Shared}{x:Addr}{o:Obj}{es:Array (Int×Value)}{ep:Nat}{t:SetTable}{id:String}{Q:Unit→Shared→Prop}(ho:s.heap.get? x=some o)(hd:o.data=.set es ep t)(hf:t.fits es.size=true)(h:Q () s):wpAny (model prog w) Ar (Builtin.Frozenset.unchanged id x ep) Q E s:=by
 unfold Builtin.Frozenset.unchanged
 refine wpAny_bind (wpAny_setEpoch_of ho hd hf ?_)
 rw[if_neg (by simp)]
 exact wpAny_pure h
theorem Om{x:Value}(h:x.scannable=true):Builtin.Frozenset.quietEq x=pure true:=by
 cases x<;>first|rfl|(simp[Value.scannable] at h)
def allIn(G:Str→Bool)(knd:PySem.KeyKind prog w Str)(es:List (Int×Value)):Prop:=∀ e∈es,∀ k,knd.is k e.2=true→G k=true
theorem aaC{E:Value→Shared→Prop}{s:Shared}{x y:Addr}{ox oy:Obj}{es fs:Array (Int×Value)}{ep ep2:Nat}{t t2:SetTable}{Q:List (Int×Value)→Shared→Prop}(ho:s.heap.get? x=some ox)(hd:ox.data=.set es ep t)(hf:t.fits es.size=true)(ho2:s.heap.get? y=some oy)(hd2:oy.data=.set fs ep2 t2)(hf2:t2.fits fs.size=true)
 (he:ElemsOf (PySem.strKind prog w) es.toList) (he2:ElemsOf (PySem.strKind prog w) fs.toList) (h:Q es.toList s):wpAny (model prog w) Ar (Builtin.Frozenset.walkUnseen x y) Q E s:=by
 unfold Builtin.Frozenset.walkUnseen setEntries
 refine wpAny_bind (wpAny_bind (wpAny_setState_of ho hd hf (wpAny_pure ?_)))
 refine wpAny_bind (wpAny_bind (wpAny_setState_of ho2 hd2 hf2 (wpAny_pure ?_)))
 dsimp only
 have hs:∀ e∈es.toList++fs.toList,e.2.scannable=true:=fun e he'=>by
  rcases List.mem_append.mp he' with z|z
  ·exact(he e z).2
  ·exact(he2 e z).2
 revert hs
 generalize es.toList++fs.toList=l
 intro hs
 induction l with
 | nil=>exact wpAny_bind (wpAny_pure (wpAny_pure h))
 | cons e r ih =>
  rw[List.forIn_cons,Om (hs e (.head _))]
  simp only[pure_bind,Bool.not_true,Bool.false_eq_true,if_false]
  exact ih fun e he=>hs e (.tail _ he)
theorem U5{E:Value→Shared→Prop}{s:Shared}{x y:Addr}{ox oy:Obj}{es fs:Array (Int×Value)}{ep ep2:Nat}{t t2:SetTable}{G:Str→Bool}{m:Nat}{id:String}{Q:Bool→Shared→Prop}(ho:s.heap.get? x=some ox)(hd:ox.data=.set es ep t)(hf:t.fits es.size=true)(ho2:s.heap.get? y=some oy)(hd2:oy.data=.set fs ep2 t2)(hf2:t2.fits fs.size=true)
 (he:ElemsOf (PySem.strKind prog w) es.toList) (he2:ElemsOf (PySem.strKind prog w) fs.toList) (hy:s.heap.SetOf (PySem.strKind prog w) y G m) (hs:es.size=fs.size)
 (h:∀ b:Bool,(b=true↔allIn G (PySem.strKind prog w) es.toList)→Q b s):wpAny (model prog w) Ar (Builtin.Frozenset.subsetOf id x y) Q E s:=by
 unfold Builtin.Frozenset.subsetOf
 refine wpAny_bind (HF ho hd hf ?_)
 refine wpAny_bind (HF ho2 hd2 hf2 ?_)
 rw[if_neg (by omega)]
 refine wpAny_bind (wpAny_setEpoch_of ho hd hf ?_)
 refine wpAny_bind (aaC ho hd hf ho2 hd2 hf2 he he2 ?_)
 revert he h
 generalize es.toList=l
 intro he h
 induction l generalizing Q with
 | nil=>exact wpAny_bind (wpAny_pure (wpAny_pure (h true ⟨fun _ e z=>(List.not_mem_nil z).elim,fun _=>rfl⟩)))
 | cons e r ih =>
  rw[List.forIn_cons]
  obtain⟨⟨k,hk,hh⟩,hsc⟩:=he.head
  obtain⟨hh0,xe⟩:=e
  dsimp only at hk hh hsc
  subst hh
  dsimp only
  simp only[bind_assoc]
  refine wpAny_bind (wpAny_holding (wpAny_setFind_of hk hsc hy fun r hr=>?_))
  have key:∀ r',allIn G (PySem.strKind prog w) (((PySem.strKind prog w).hash k,xe)::r')↔G k=true∧allIn G (PySem.strKind prog w) r':=fun r'=>by
   constructor
   ·intro z
    exact⟨z _ (.head _) k hk,fun e he=>z e (.tail _ he)⟩
   ·rintro ⟨z1,z2⟩ e he k' hk'
    rcases List.mem_cons.mp he with rfl|he
    ·have:=PySem.KeyKind.is_eq_decide hk k'
     rw[hk'] at this
     have e:k'=k:=by simpa using this.symm
     rw[e];exact z1
    ·exact z2 e he k' hk'
  cases hg:G k with
  | false =>
   rw[hg] at hr
   have:r.isNone=true:=by cases r<;>simp_all
   rw[if_pos this]
   simp only[pure_bind]
   refine wpAny_pure (h false ⟨fun z=>(Bool.noConfusion z),fun z=>?_⟩)
   rw[((key _).mp z).1] at hg
   exact hg.symm ▸ rfl
  | true =>
   rw[hg] at hr
   have:¬ r.isNone=true:=by cases r<;>simp_all
   rw[if_neg this]
   simp only[bind_assoc]
   refine wpAny_bind (aaD ho hd hf ?_)
   simp only[pure_bind]
   exact ih he.tail fun b hb=>h b (hb.trans ⟨fun z=>(key _).mpr ⟨hg,z⟩,fun z=>((key _).mp z).2⟩)
theorem Yg{E:Value→Shared→Prop}{s:Shared}{x y:Addr}{F G:Str→Bool}{n m:Nat}{Q:Value→Shared→Prop}(hx:s.heap.SetOf (PySem.strKind prog w) x F n)(hy:s.heap.SetOf (PySem.strKind prog w) y G m)(hu:Ar.units < cLine)
 (h:∀ b:Bool,(b=true↔n=m∧∀ k,F k=true→G k=true)→Q (.bool b) s):wpAny (model prog w) Ar (compareOp .Eq (.ref x) (.ref y)) Q E s:=by
 obtain⟨ox,es,ep,t,hox,hex,hdx,hel,hmem,hb,hf,hn⟩:=id hx
 obtain⟨oy,fs,ep2,t2,hoy,hey,hdy,hel2,hmem2,hb2,hf2,hm⟩:=id hy
 have tx:s.TypeIs (.ref x) "set" := ⟨_,hox,hex.1⟩
 have ty:s.TypeIs (.ref y) "set" := ⟨_,hoy,hey.1⟩
 show wpAny _ _ (richCompare .Eq (.ref x) (.ref y)) Q E s
 refine wpAny_richCompare_same_room (op:=.Eq) tx ty PySem.F.slot_set_eq (wpAny_call_entry PySem.F.slot_set_eq tx Jq ?_ (PySem.F.args_set_eq_2 _ _)) hu
 have g1:isSubtype (.type "set") (.type "set")=pure true:=by rw[isSubtype_type];kernel_rfl
 have g2:isSubtype (.type "set") (.type "frozenset")=pure false:=by rw[isSubtype_type];kernel_rfl
 unfold Builtin.«frozenset.__eq__»
 show wpAny _ _ (Builtin.Frozenset.slot1 "__eq__" _ >>= _) _ _ _
 refine wpAny_bind (m:=Builtin.Frozenset.slot1 "__eq__" _) (wpAny_pure ?_)
 dsimp only
 have any:∀ {Q':Bool→Shared→Prop} {A':Around},Q' true s→wpAny (model prog w) A' (Builtin.Frozenset.isAnySet (.ref y)) Q' E s:=fun h'=>by
  unfold Builtin.Frozenset.isAnySet
  exact wpAny_bind (wpAny_isInstance ty g1 (wpAny_pure h'))
 refine wpAny_bind (any ?_)
 rw[if_neg (by simp)]
 refine wpAny_bind (m:=Builtin.Frozenset.addrOf (.ref x)) (wpAny_pure ?_)
 refine wpAny_bind (m:=Builtin.Frozenset.addrOf (.ref y)) (wpAny_pure ?_)
 refine wpAny_bind (HF hox hdx hf ?_)
 refine wpAny_bind (HF hoy hdy hf2 ?_)
 by_cases hs:es.size=fs.size
 ·rw[if_neg (by simpa using hs)]
  refine wpAny_bind (wpAny_bind (wpAny_bind (m:=isInstance (.ref x) (.type "frozenset")) (wpAny_isInstance tx g2 (wpAny_pure ?_))))
  rw[if_neg (by simp)]
  refine U5 hox hdx hf hoy hdy hf2 hel hel2 hy hs fun b hb=>?_
  refine wpAny_pure ⟨_,rfl,(fun z=>nomatch z),h b (hb.trans ?_)⟩
  constructor
  ·intro z
   refine⟨by omega,fun k hk=>?_⟩
   obtain⟨e,he,hk'⟩:=(hmem k).mp hk
   exact z e he k hk'
  ·rintro ⟨_,z⟩ e he k hk
   exact z k ((hmem k).mpr ⟨e,he,hk⟩)
 ·rw[if_pos (by simpa using hs)]
  refine wpAny_bind (wpAny_pure (wpAny_pure ⟨_,rfl,(fun z=>nomatch z),h false ⟨fun z=>Bool.noConfusion z,fun z=>?_⟩⟩))
  exact absurd (hn.trans (z.1.trans hm.symm)) hs
end
end A
namespace Mi
open PySem
def Dz(x:D)(lo hi:Option Int):Rs D:=match x with
 | .lst ds=>.ok (.lst (vq ds lo hi))
 | .tup ds=>match lo,hi with
  | some a,none=>aU (1≤a∧a≤(ds.length:Int)∧ds.length≤16777216) (.ok (.tup (ds.drop a.toNat)))
  | _,_=>.no
 | _=>.no
def Gq:D→D→Rs D
 | .tup i,.tup j=>aU (i.length+j.length≤16777216) (.ok (.tup (i++j)))
 | _,_=>.no
def dR(xs ys:List Str):Bool:=xs.all (fun x=>decide (x∈ys)) && ys.all (fun y=>decide (y∈xs))
def adO:D→Option (List Str)
 | .tup ds=>pH ds
 | _=>none
def Jx(x y:D):Rs D:=(t8 (adO x)).bind fun xs=>(t8 (adO y)).bind fun ys=>aU (xs.length+1 < 4096∧ys.length+1 < 4096) (.ok (.bl (dR xs ys)))
end Mi
namespace A
open PySem L2 PyProof.Rows
open Mi (D W Rs Fin az Out Tg)
open Mi (met)
variable[Tb:jb]
section
variable{prog:Program}{w:World}{Ar:Around}{R:Result→Shared→Prop}{I S:Addr}{fp wr:List Addr}{n:Nat}{P:Nat→Value→Prop}{St:Nat→Heap→Prop}
theorem aaB{B:Around}(hh:B.handled=none)(c l:Addr)(hne:l≠c)(us:Array Value) :
 Walks prog w B c [c,l] [c] us.size (fun i v=>us[i]? = some v) (fun i h=>h.IsTupleIter c l i∧h.IsTuple l us) where
 sub:=fun b hb=>by simp at hb;simp[hb]
 frame:=fun _ _ _ st f=>⟨let ⟨o,e,r⟩:=st.1;⟨o,f c (by simp) o e,r⟩,let ⟨o,e,r⟩:=st.2;⟨o,f l (by simp) o e,r⟩⟩
 item:=fun i s Q E hi st hQ=>wpAny_pyNext_tuple_item st.1 st.2 (x:=us[i]) (by simp[hi]) fun h' a b =>
  hQ _ h' s.toks (by simp[hi]) ⟨a,let ⟨o,e,r⟩:=st.2;⟨o,b.extBut _ _ hne e,r⟩⟩ fun z o hz e=>b.extBut z o (fun q=>hz (by simp[q])) e
 done:=fun s Q E st hQ=>wpAny_pyNext_tuple_end hh st.1 st.2 (by simp) fun h' a=>hQ h' s.toks fun z o hz e=>a z o (fun q=>hz (by simp[q])) e
 self:=fun _ _ _ _ st hQ=>wpAny_pyIter_tupleiter st.1 hQ
theorem JT{h:Heap}{l:Addr}{us:Array Value}(x:h.IsTuple l us)(o:Obj):(h.push o).IsTuple l us:=let ⟨q,e,r⟩:=x;⟨q,Heap.get?_push_of_some _ e,r⟩
set_option maxHeartbeats 8000000 in
theorem JB{E:Value→Shared→Prop}{s:Shared}{l:Addr}{items:Array Value}{xs:List Str}{Q:Value→Shared→Prop}(hh:Ar.handled=none)(hl:s.heap.IsTuple l items)(hx:∀ i v,items[i]? = some v→∃ t,v=Value.str (xs.getD i Str.empty) t)(hb:items.size+1 < scanBound)
 (h:∀ h' tk,h'.SetOf (PySem.strKind prog w) s.heap.objs.size (fun x=>decide (x∈met (fun i=>xs.getD i Str.empty) items.size)) (met (fun i=>xs.getD i Str.empty) items.size).length →
  (∀ b o,b < s.heap.objs.size→s.heap.get? b=some o→h'.get? b=some o)→Q (.ref s.heap.objs.size) { s with heap:=h',toks:=tk }):wpAny (model prog w) Ar (call (.type "set") [.ref l]) Q E s:=by
 obtain⟨c0,tl0,hmro⟩:=PySem.F.called_set.mro
 have mk1:=PySem.F.called_set.made
 have mk2:=PySem.F.called_set.sub
 refine wpAny_call (codeAny_of_tree (by
  show wpAny _ _ (callAny (.type "set") _) _ _ _
  refine wpAny_pure ⟨Code.quiet_builtin _ (by decide +kernel),codeAny_builtin PySem.F.entry_type_call (by
   rw[Around.under_plain (weight_type_call_type "set" [.ref l] []) rfl]
   have mk3:=PySem.F.called_set.notType
   have mk4:=PySem.F.called_set.canCreate
   have mk5:=PySem.F.typeCall_set_1 (.ref l)
   repeat (any_goals (first|assumption|wp_step))
   refine codeAny_mono (code_set_new_1 (.ref l) (E:=E) (Q₁:=fun obj s1=>∃ led:Bool,obj=.ref s.heap.objs.size∧s1={ s with heap:=s.heap.push { cls:=.type "set", dict:=none,data:=.set #[] 0 (.fresh 0 0 led) } }) fun led=>⟨led,rfl,rfl⟩) fun r s1 hr=>?_
   cases r with
   | error e=>exact hr
   | ok fl =>
    cases fl with
    | ret obj =>
     obtain⟨led,rfl,rfl⟩:=hr
     have gS:(s.heap.push (HH led)).get? s.heap.objs.size=some (HH led):=Heap.get?_push_size _ rfl
     have tS:Shared.TypeIs { s with heap:=s.heap.push (HH led) } (.ref s.heap.objs.size) "set" := ⟨_,gS,rfl⟩
     have mk6:=PySem.F.called_set.init.lookup
     have mk7:=PySem.F.called_set.init.bind (.ref s.heap.objs.size)
     repeat (any_goals (first|assumption|wp_step))
     refine codeAny_mono (codeAny_call_builtin (R:=wants (fun v s2=>v=.none∧∃ h' tk,s2={ s with heap:=h',toks:=tk }∧h'.SetOf (PySem.strKind prog w) s.heap.objs.size (fun x=>decide (x∈met (fun i=>xs.getD i Str.empty) items.size)) (met (fun i=>xs.getD i Str.empty) items.size).length ∧
      ∀ b o,b < s.heap.objs.size→s.heap.get? b=some o→h'.get? b=some o) E) PySem.F.called_set.init.plain PySem.F.entry_set_init (check_set_init_1 tS (by
      obtain⟨⟨oc,od,oda,osl⟩,hol,hcl,nl,hdl⟩:=hl
      obtain rfl:oc=.type "tuple" := hcl
      obtain rfl:oda=.seq items nl:=hdl
      have lS:l < s.heap.objs.size:=Heap.lt_size hol
      have gl:(s.heap.push (HH led)).get? l=some ⟨.type "tuple", od,.seq items nl,osl⟩:=Heap.get?_push_of_some _ hol
      have n1:=PySem.F.sub_tuple_set
      have n2:=PySem.F.sub_tuple_frozenset
      have n3:(Value.type "tuple" == Value.type "dict")=false:=by decide
      have li:(s.heap.push (HH led)).IsTuple l items:=⟨_,gl,rfl,nl,rfl⟩
      unfold Builtin.«set.__init__» noKeywords Builtin.Frozenset.updateFrom
      generalize gp:pyIter=PI
      wp_walk
      subst gp
      refine wpAny_pyIter_tuple li (wpAny_bind (wpAny_runValue ?_))
      have sz:(s.heap.push (HH led)).objs.size=s.heap.objs.size+1:=Heap.size_push ..
      have nI:l≠(s.heap.push (HH led)).objs.size:=by rw[sz];exact Nat.ne_of_lt (Nat.lt_succ_of_lt lS)
      have nS:s.heap.objs.size∉[(s.heap.push (HH led)).objs.size,l]:=by
       rw[sz]
       intro z
       rcases List.mem_cons.mp z with z|z
       ·exact Nat.ne_of_lt (Nat.lt_succ_self _) z
       ·exact Nat.ne_of_gt lS (by simpa using z)
      refine Va (aaB (by simp[hh]) _ l nI items) nS (fun i=>xs.getD i Str.empty) hx hb items.size 0 _ (by omega) ⟨⟨_,Heap.get?_push_size _ rfl,rfl,rfl⟩,JT li _⟩ ?_ ?_
      ·exact set_same ((setObjOf_fresh (knd:=PySem.strKind prog w) led).setOf (Heap.get?_push_of_some _ gS) (by unfold scanBound;omega)) (fun _=>rfl) rfl
      ·intro h' tk hk hS
       show wpAny _ _ _ _ _ _
       refine wpAny_pure ?_
       show wpAny _ _ (ret Value.none) _ _ _
       refine wpAny_pure ⟨rfl,h',tk,rfl,hS,fun b o hb e=>?_⟩
       refine hk b o (Nat.ne_of_lt hb) (fun z=>?_) (Heap.get?_push_of_some _ (Heap.get?_push_of_some _ e))
       have z:b=(s.heap.push (HH led)).objs.size:=by simpa using z
       rw[sz] at z
       exact absurd hb (by rw[z];exact Nat.not_lt.mpr (Nat.le_succ _))))) fun r2 s2 h2=>?_
     cases r2 with
     | error e=>exact h2
     | ok fl2 =>
      cases fl2 with
      | ret v =>
       obtain⟨rfl,h',tk,rfl,hS,hk⟩:=h2
       repeat (any_goals (first|assumption|wp_step))
       exact h _ _ hS hk
      | _=>exact h2.elim
    | _=>exact hr.elim)⟩))
end
end A
namespace A
open PySem L2 PyProof.Rows
open Mi (D W Rs Fin az Out Tg met)
variable[Tb:jb]
theorem QS(val:Nat→Str):∀ (i:Nat) (x:Str),x∈met val i↔∃ j,j < i∧val j=x
 | 0,x=>by simp[met]
 | i+1,x=>by
  have ih:=QS val i x
  have h:=QQ val i x
  have:x∈met val (i+1)↔x∈met val i∨x=val i:=by
   constructor
   ·intro z
    have:=h.symm.trans (decide_eq_true z)
    simpa using this
   ·intro z
    have:=h.trans (by simpa using z:(decide (x∈met val i) || decide (x=val i))=true)
    simpa using this
  rw[this,ih]
  constructor
  ·rintro (⟨j,hj,e⟩|e)
   ·exact⟨j,by omega,e⟩
   ·exact⟨i,by omega,e.symm⟩
  ·rintro ⟨j,hj,e⟩
   by_cases q:j=i
   ·subst q;exact .inr e.symm
   ·exact .inl ⟨j,by omega,e⟩
theorem O9(val:Nat→Str):∀ i,(met val i).Nodup
 | 0=>by simp[met]
 | i+1=>by
  have ih:=O9 val i
  unfold met
  split
  ·exact ih
  ·rename_i h
   rw[List.nodup_append]
   exact⟨ih,by simp,fun a ha b hb e=>h (by simp at hb;rw[← hb,← e];exact ha)⟩
theorem Iw(ys:List Str)(x:Str):x∈met (fun i=>ys.getD i Str.empty) ys.length↔x∈ys:=by
 rw[QS]
 constructor
 ·rintro ⟨j,hj,e⟩
  rw[← e]
  simp only[List.getD_eq_getElem?_getD,List.getElem?_eq_getElem hj,Option.getD_some]
  exact List.getElem_mem hj
 ·intro h
  obtain⟨j,hj,e⟩:=List.getElem_of_mem h
  exact⟨j,hj,by simp[List.getElem?_eq_getElem hj,e]⟩
theorem sub_len{α : Type}[DecidableEq α]:∀ {l m:List α},l.Nodup→(∀ x∈l,x∈m)→l.length≤m.length
 | [],m,_,_=>Nat.zero_le _
 | a::l,m,nd,h=>by
  have nd:=List.nodup_cons.mp nd
  have h1:∀ x∈l,x∈m.erase a:=fun x hx=>(List.mem_erase_of_ne (fun e:x=a=>nd.1 (by rw[← e];exact hx))).mpr (h x (.tail _ hx))
  have:=sub_len nd.2 h1
  rw[List.length_erase_of_mem (h a (.head _))] at this
  have:0 < m.length:=List.length_pos_of_mem (h a (.head _))
  simp only[List.length_cons];omega
theorem Yc{α : Type}[DecidableEq α]{l m:List α}(nd:l.Nodup)(h:∀ x∈l,x∈m)(e:m.length≤l.length):∀ x∈m,x∈l:=fun x hx=>by
 by_cases q:x∈l
 ·exact q
 ·have:∀ y∈x::l,y∈m:=fun y hy=>by
   rcases List.mem_cons.mp hy with rfl|hy
   ·exact hx
   ·exact h y hy
  have:=sub_len (List.nodup_cons.mpr ⟨q,nd⟩) this
  simp only[List.length_cons] at this;omega
theorem same_iff(xs ys:List Str):Mi.dR xs ys=true↔Mi.Jd xs=Mi.Jd ys∧∀ k,k∈xs→k∈ys:=by
 have e:Mi.dR xs ys=true↔(∀ k∈xs,k∈ys)∧(∀ k∈ys,k∈xs):=by
  simp[Mi.dR,List.all_eq_true]
 rw[e]
 unfold Mi.Jd
 have ax:=Iw xs
 have ay:=Iw ys
 have nx:=O9 (fun i=>xs.getD i Str.empty) xs.length
 have ny:=O9 (fun i=>ys.getD i Str.empty) ys.length
 constructor
 ·rintro ⟨h1,h2⟩
  exact⟨Nat.le_antisymm (sub_len nx fun k hk=>(ay k).mpr (h1 k ((ax k).mp hk))) (sub_len ny fun k hk=>(ax k).mpr (h2 k ((ay k).mp hk))),h1⟩
 ·rintro ⟨h1,h2⟩
  exact⟨h2,fun k hk=>(ax k).mp (Yc nx (fun z hz=>(ay z).mpr (h2 z ((ax z).mp hz))) (Nat.le_of_eq h1.symm) k ((ay k).mpr hk))⟩
section
variable{X:Cx}{K:W.Frag}{M:Nat→Bool}{te ta tb:TE}{a b:Mi.E}
def RZ(X:Cx)(a:Addr)(ys:List Str):HO:=.ext fun h=>∃ F,h.SetOf (PySem.strKind X.prog X.w) a F (Mi.Jd ys)∧∀ k,F k=true↔k∈ys
def Vm(X:Cx):List V→Hp→VK→Prop:=fun xs H Q=>∃ p ys,xs=[.ref p]∧Ab X.K H p (ys.map V.str)∧ys.length+1 < 4096∧∀ l,H l=none→Q (.ref l) (upd H l (RZ X l ys))
theorem Gu(hc:X.calm=true):jQ X (.type "set") (Vm X):=by
 intro pins s σ H xs us Q I r h
 obtain⟨p,ys,rfl,hq,hz,q⟩:=h
 obtain⟨u,rfl,ru⟩:=vals1 r
 cases ru
 obtain⟨its,rv,pl,_⟩:=I.tuple hq
 have hl:=rv.length
 have e:its.toArray.size=ys.length:=by rw[List.size_toArray,← hl,List.length_map]
 refine JB (xs:=ys) (I.ok.hd hc) pl (fun i v hv=>Qq i v rv (by simpa using hv)) (by rw[e];exact hz) fun h' tk hS hk=>?_
 rw[e] at hS
 refine⟨.ref s.heap.objs.size,upd H s.heap.objs.size (RZ X s.heap.objs.size ys),I.laid (fun b o q=>hk b o (Heap.lt_size q) q) (Nat.le_refl _) ⟨⟨_,hS,fun k=>?_⟩,?_,fun h1 h2 ⟨F,z,y⟩ k=>⟨F,BX z k,y⟩⟩,rfl,q _ (I.hok.fresh (Nat.le_refl _))⟩
 ·have:=Iw ys k
  simpa using this
 ·obtain⟨o,_,_,_,ho,_⟩:=hS
  exact⟨o,ho⟩
def Vo(X:Cx):R2:=fun x y H Q=>∃ a b xs ys,x=.ref a∧y=.ref b∧H a=some (RZ X a xs)∧H b=some (RZ X b ys)∧Q (.bl (Mi.dR xs ys)) H
theorem VL(hu:X.A.units+64 < cLine):rH X (compareOp .Eq) (Vo X):=by
 intro pins s σ H x y v u Q I rx ry h
 obtain⟨a,b,xs,ys,rfl,rfl,ha,hb,q⟩:=h
 cases rx
 cases ry
 obtain⟨⟨F,hF,eF⟩,_⟩:=I.hok a _ ha
 obtain⟨⟨G,hG,eG⟩,_⟩:=I.hok b _ hb
 refine Yg hF hG (by omega) fun k hk=>?_
 have:k=Mi.dR xs ys:=by
  have e:k=true↔Mi.dR xs ys=true:=hk.trans ((same_iff xs ys).trans ⟨fun z=>⟨z.1,fun x hx=>(eG x).mpr (z.2 x ((eF x).mp hx))⟩,fun z=>⟨z.1,fun x hx=>(eG x).mp (z.2 x ((eF x).mpr hx))⟩⟩).symm
  cases k<;>cases hs:Mi.dR xs ys<;>simp_all
 subst this
 exact⟨.bl _,H,I,rfl,q⟩
theorem abP{α : Type}{r:Rs α}{k:α→Prop}(h:Fin r k):∃ a,r=.ok a∧k a:=by
 cases r with
 | ok a=>exact⟨a,rfl,h⟩
 | ex x=>exact h.elim
 | no=>exact h.elim
theorem Wz{x y:D}{k:D→Prop}(h:Fin (Mi.Jx x y) k):∃ ds es xs ys,x=.tup ds∧y=.tup es∧Mi.pH ds=some xs∧Mi.pH es=some ys∧xs.length+1 < 4096∧ys.length+1 < 4096∧k (.bl (Mi.dR xs ys)):=by
 obtain⟨xs,ex,q1⟩:=lD (az.mp h)
 obtain⟨ys,ey,q2⟩:=lD (az.mp q1)
 obtain⟨⟨h1,h2⟩,q3⟩:=Mi.aX q2
 cases x with
 | tup ds=>cases y with
  | tup es=>exact⟨ds,es,xs,ys,rfl,rfl,ex,ey,h1,h2,Mi.jK q3⟩
  | _=>cases ey
 | _=>cases ex
theorem ZL(ha:AE M qP ta a)(hb:AE M qP tb b):AE M qV (tOp (Vo X) (ZX (Vm X) (lC ta vo)) (ZX (Vm X) (lC tb vo))) (Mi.m2 Mi.Jx a b):=fun e σ H Hv Q I h =>
 ha e σ H Hv _ I ((az.mp h).mono fun x hx v H1 Hv1 g1 rx=>by
  obtain⟨y,hy,hk⟩:=abP (az.mp hx)
  obtain⟨ds,es,xs,ys,rfl,rfl,ex,ey,h1,h2,hk⟩:=Wz hk
  obtain⟨p,us,rfl,l,_,r⟩:=RD.tup g1.vw rx
  have:=vm ex r
  subst this
  refine⟨p,xs,rfl,.inl (.inl l),h1,fun c hc=>?_⟩
  have g2:dw H1 Hv1 (upd H1 c (RZ X c xs)) Hv1:=.O7 g1.vw trivial hc
  refine hb e σ _ Hv1 _ ((I.grow g1).grow g2) ?_
  rw[hy]
  intro v2 H2 Hv2 g3 ry
  obtain⟨p2,us2,rfl,l2,_,r2⟩:=RD.tup g3.vw ry
  have:=vm ey r2
  subst this
  refine⟨p2,ys,rfl,.inl (.inl l2),h2,fun c2 hc2=>?_⟩
  have g4:dw H2 Hv2 (upd H2 c2 (RZ X c2 ys)) Hv2:=.O7 g3.vw trivial hc2
  refine⟨c,c2,xs,ys,rfl,rfl,?_,bc,hk _ _ _ (g1.trans (g2.trans (g3.trans g4))) jw⟩
  exact(g3.trans g4).old.at bc)
def acH(K:W.Frag):V→Option Int→Option Int→Hp→VK→Prop:=fun x lo hi H Q=>∃ p xs a,x=.ref p∧Ab K H p xs∧lo=some a∧hi=none∧1≤a∧a≤(xs.length:Int)∧xs.length≤sizeLine∧∀ q,H q=none→Q (.ref q) (upd H q (.tup (xs.drop a.toNat)))
theorem aaN:XQ X (acH X.K):=by
 intro pins s σ H x v vl vu lo hi sl Q I rx hs pl pu h
 obtain⟨p,xs,a,rfl,hx,rfl,rfl,h1,h2,hz,q⟩:=h
 cases rx
 obtain⟨its,r,ht,_⟩:=I.tuple hx
 have hl:=r.length
 refine⟨"tuple", _,slot_tuple_getitem.lookup,ht.typeIs,?_⟩
 cases pl with
 | int _ t =>
 cases pu
 obtain⟨n,rfl⟩ : ∃ n:Nat,a=n:=⟨a.toNat,by omega⟩
 refine getItem_tuple_from ht hs (by omega) (by rw[List.size_toArray];omega) ?_ (by rw[List.size_toArray];omega)
 rw[show (its.toArray.toList.drop n)=its.drop n by simp]
 have q:=q _ (I.hok.fresh (Nat.le_refl _))
 rw[Int.toNat_natCast] at q
 exact⟨.ref s.heap.objs.size,_,I.laid (t':=s.toks) (o:=.tup (xs.drop n)) (fun b ob q=>Heap.get?_push_of_some _ q) (Nat.le_refl _) ⟨by rw[List.length_drop];omega,_,r.drop n,⟨_,Heap.get?_push_size _ rfl,rfl,rfl,0,rfl⟩⟩,rfl,q⟩
def acJ(K:W.Frag):V→Option Int→Option Int→Hp→VK→Prop:=fun x lo hi H Q=>aaY K x lo hi H Q∨acH K x lo hi H Q
theorem aaQ:XQ X (acJ X.K):=Qs.or aaN
theorem Xh:BS qV (acJ K) Mi.Dz:=fun x lo hi v H Hv Q vw rx h=>by
 cases x with
 | lst ds =>
  obtain⟨p,xs,rfl,l1,r1⟩:=RD.lst vw rx
  refine .inl ⟨p,xs,rfl,l1.sq,fun a ha=>?_⟩
  obtain⟨g,k⟩:=O6 vw (W5 r1 lo hi) ha
  exact h _ _ _ g k
 | tup ds =>
  obtain⟨p,xs,rfl,l1,_,r1⟩:=RD.tup vw rx
  cases lo with
  | none=>exact h.elim
  | some a=>cases hi with
   | some c=>exact h.elim
   | none =>
    obtain⟨⟨z1,z2,z3⟩,h⟩:=Mi.aX h
    refine .inr ⟨p,xs,a,rfl,.inl (.inl l1),rfl,rfl,z1,by rw[← r1.len];exact z2,by rw[← r1.len,sizeLine_eq];exact z3,fun c hc=>?_⟩
    obtain⟨g,k⟩:=yI vw (r1.drop a.toNat) hc
    exact h _ _ _ g k
 | _=>exact h.elim
def Z7(K:W.Frag):R2:=fun x y H Q=>∃ l b xs zs,x=.ref l∧y=.ref b∧Ab K H l xs∧Ab K H b zs∧xs.length+zs.length≤sizeLine ∧
 (xs=[]→Q (.ref b) H)∧(xs≠[]→zs=[]→Q (.ref l) H)∧∀ p,H p=none→Q (.ref p) (upd H p (.tup (xs++zs)))
theorem QH:rH X (binaryOp .Add) (Z7 X.K):=by
 intro pins s σ H x y v u Q I rx ry h
 obtain⟨l,b,xs,zs,rfl,rfl,hx,hy,hz,q1,q2,q3⟩:=h
 cases rx
 cases ry
 obtain⟨its,r,t1,_⟩:=I.tuple hx
 obtain⟨its2,r2,t2,_⟩:=I.tuple hy
 have hl:=r.length
 have hl2:=r2.length
 have ty1:=t1.typeIs (s:=s)
 have ty2:=t2.typeIs (s:=s)
 obtain⟨⟨cls,dd,data,sl⟩,ho,hc,n,hd⟩:=id t1
 obtain⟨⟨cls2,dd2,data2,sl2⟩,ho2,hc2,n2,hd2⟩:=id t2
 simp only at hc hd hc2 hd2
 subst hc hd hc2 hd2
 by_cases e1:xs=[]
 ·subst e1
  have:its=[]:=by cases its<;>simp_all
  subst this
  exact concat_meets ty1 ty2 noFill_tuple_add seq_tuple_add PySem.F.slot_tuple_add PySem.F.entry_tuple_add (PySem.F.args_tuple_add_2 _ _) (tuple_addW0 l b _ _ n n2 dd dd2 sl sl2 rfl) ⟨ho,ho2,⟨.ref b,H,I,rfl,q1 rfl⟩⟩
 ·have i1:¬ its.toArray.isEmpty=true:=by
   intro z
   have:its=[]:=by simpa using z
   subst this
   cases xs with
   | nil=>exact e1 rfl
   | cons _ _=>simp at hl
  by_cases e2:zs=[]
  ·subst e2
   have:its2=[]:=by cases its2<;>simp_all
   subst this
   exact concat_meets ty1 ty2 noFill_tuple_add seq_tuple_add PySem.F.slot_tuple_add PySem.F.entry_tuple_add (PySem.F.args_tuple_add_2 _ _) (tuple_addW1 l b _ _ n n2 dd dd2 sl sl2 i1 rfl) ⟨ho,ho2,⟨.ref l,H,I,rfl,q2 e1 rfl⟩⟩
  ·have i2:¬ its2.toArray.isEmpty=true:=by
    intro z
    have:its2=[]:=by simpa using z
    subst this
    cases zs with
    | nil=>exact e2 rfl
    | cons _ _=>simp at hl2
   have q:=q3 _ (I.hok.fresh (Nat.le_refl _))
   refine concat_meets ty1 ty2 noFill_tuple_add seq_tuple_add PySem.F.slot_tuple_add PySem.F.entry_tuple_add (PySem.F.args_tuple_add_2 _ _) (tuple_addW2 l b _ _ n n2 dd dd2 sl sl2 i1 i2 (by rw[List.size_toArray,List.size_toArray];omega)) ⟨ho,ho2,?_⟩
   rw[show its.toArray++its2.toArray=(its++its2).toArray by simp]
   exact⟨.ref s.heap.objs.size,_,I.laid (t':=s.toks) (o:=.tup (xs++zs)) (fun b ob q=>Heap.get?_push_of_some _ q) (Nat.le_refl _) ⟨by rw[List.length_append];omega,_,r.append r2,⟨_,Heap.get?_push_size _ rfl,rfl,rfl,0,rfl⟩⟩,rfl,q⟩
theorem Xk:B2 qV (Z7 K) Mi.Gq:=fun x y v u H Hv Q vw rx ry h=>by
 cases x with
 | tup i=>cases y with
  | tup j =>
   obtain⟨hz,h⟩:=Mi.aX h
   have h:=Mi.jK h
   obtain⟨p,xs,rfl,l1,_,r1⟩:=RD.tup vw rx
   obtain⟨p2,ys,rfl,l2,v2,r2⟩:=RD.tup vw ry
   refine⟨p,p2,xs,ys,rfl,rfl,.inl (.inl l1),.inl (.inl l2),by rw[← r1.len,← r2.len,sizeLine_eq];exact hz,fun e=>?_,fun e e2=>?_,fun q hq=>?_⟩
   ·subst e
    cases r1
    refine h _ H Hv (.refl vw) ?_
    exact jn.mpr ⟨p2,ys,rfl,v2,r2⟩
   ·subst e2
    cases r2
    rw[List.append_nil] at h
    obtain⟨p,xs,z,l1,v1,r1⟩:=RD.tup vw rx
    cases z
    exact h _ H Hv (.refl vw) (jn.mpr ⟨_,xs,rfl,v1,r1⟩)
   ·obtain⟨g,k⟩:=yI vw (r1.append r2) hq
    exact h _ _ _ g k
  | _=>exact h.elim
 | _=>exact h.elim
end
end A
namespace So
open PySem PySem.W PyProof.Rows
def N7{α : Type}(n:Nat)(lt:Nat→Nat→Bool):KasT α→(α→Prop)→Prop
 | .ret a,Q=>Q a
 | .ask i j k,Q=>i < n∧j < n∧N7 n lt (k (lt i j)) Q
theorem qD{α β : Type}{n:Nat}{lt:Nat→Nat→Bool}{f:α→KasT β}{Q:β→Prop}:∀ {t:KasT α},N7 n lt t (fun a=>N7 n lt (f a) Q)→N7 n lt (t.bind f) Q
 | .ret _,h=>h
 | .ask _ _ k,h=>⟨h.1,h.2.1,qD (t:=k _) h.2.2⟩
theorem jU{α : Type}{n:Nat}{lt:Nat→Nat→Bool}{Q Q':α→Prop}(m:∀ a,Q a→Q' a):∀ {t:KasT α},N7 n lt t Q→N7 n lt t Q'
 | .ret _,h=>m _ h
 | .ask _ _ k,h=>⟨h.1,h.2.1,jU m (t:=k _) h.2.2⟩
theorem Us{α : Type}{n:Nat}{lt:Nat→Nat→Bool}{cmp:Nat→Nat→(Bool→Shared→Prop)→Shared→Prop}{s:Shared}(hc:∀ i j C,i < n→j < n→C (lt i j) s→cmp i j C s){Q:α→Prop}:∀ {t:KasT α},N7 n lt t Q→t.kasWp cmp (fun a s'=>s'=s∧Q a) s
 | .ret _,h=>⟨rfl,h⟩
 | .ask i j k,h=>hc i j _ h.1 h.2.1 (Us hc (t:=k _) h.2.2)
section
variable{n:Nat}{lt:Nat→Nat→Bool}
structure Ord(n:Nat)(lt:Nat→Nat→Bool):Prop where
 tot:∀ i j,i < n→j < n→i≠j→lt i j=true∨lt j i=true
 asy:∀ i j,i < n→j < n→lt i j=true→lt j i=false
 tr:∀ i j k,i < n→j < n→k < n→lt i j=true→lt j k=true→lt i k=true
abbrev at'(p:Array Nat)(i:Nat):Nat:=p.getD i 0
structure Pm(n:Nat)(p:Array Nat):Prop where
 pm:p.Perm (List.toArray (List.range n))
theorem Pm.size{p:Array Nat}(h:Pm n p):p.size=n:=by have:=h.pm.size_eq;simpa using this
theorem Nh{p:Array Nat}{i:Nat}(h:i < p.size):at' p i=p[i]:=by simp[at',Array.getD,h]
theorem Pm.bd{p:Array Nat}(h:Pm n p){i:Nat}(hi:i < n):at' p i < n:=by
 have hs:i < p.size:=by rw[h.size];exact hi
 rw[Nh hs]
 have:p[i]∈(List.toArray (List.range n)).toList:=(Array.perm_iff_toList_perm.mp h.pm).mem_iff.mp (by simp)
 simpa using this
theorem Pm.inj{p:Array Nat}(h:Pm n p){i j:Nat}(hi:i < n)(hj:j < n)(e:at' p i=at' p j):i=j:=by
 have si:i < p.size:=by rw[h.size];exact hi
 have sj:j < p.size:=by rw[h.size];exact hj
 rw[Nh si,Nh sj] at e
 have nd:p.toList.Nodup:=(Array.perm_iff_toList_perm.mp h.pm).nodup_iff.mpr (by simpa using List.nodup_range)
 have e2:p.toList[i]'(by simpa using si)=p.toList[j]'(by simpa using sj):=by simpa using e
 exact(List.getElem_inj nd).mp e2
def Sd(lt:Nat→Nat→Bool)(p:Array Nat)(k:Nat):Prop:=∀ i j,i < j→j < k→lt (at' p i) (at' p j)=true
def Dd(lt:Nat→Nat→Bool)(p:Array Nat)(k:Nat):Prop:=∀ i j,i < j→j < k→lt (at' p j) (at' p i)=true
variable(O:Ord n lt)
include O
theorem not_lt{p:Array Nat}(h:Pm n p){i j:Nat}(hi:i < n)(hj:j < n)(ne:i≠j)(e:lt (at' p i) (at' p j)=false):lt (at' p j) (at' p i)=true:=by
 rcases O.tot _ _ (h.bd hi) (h.bd hj) (fun z=>ne (h.inj hi hj z)) with z|z
 ·rw[e] at z;cases z
 ·exact z
theorem Sd.more{p:Array Nat}(h:Pm n p){k:Nat}(s:Sd lt p k)(hk:1≤k)(hkn:k < n)(e:lt (at' p (k - 1)) (at' p k)=true):Sd lt p (k+1):=fun i j hij hj=>by
 by_cases hjk:j < k
 ·exact s i j hij hjk
 ·obtain rfl:j=k:=by omega
  by_cases hi:i=j - 1
  ·subst hi;exact e
  ·exact O.tr _ _ _ (h.bd (by omega)) (h.bd (by omega)) (h.bd hkn) (s i (j - 1) (by omega) (by omega)) e
theorem Dd.more{p:Array Nat}(h:Pm n p){k:Nat}(s:Dd lt p k)(hk:1≤k)(hkn:k < n)(e:lt (at' p k) (at' p (k - 1))=true):Dd lt p (k+1):=fun i j hij hj=>by
 by_cases hjk:j < k
 ·exact s i j hij hjk
 ·obtain rfl:j=k:=by omega
  by_cases hi:i=j - 1
  ·subst hi;exact e
  ·exact O.tr _ _ _ (h.bd hkn) (h.bd (by omega)) (h.bd (by omega)) e (s i (j - 1) (by omega) (by omega))
theorem P0{p:Array Nat}(h:Pm n p):∀ (f k:Nat),1≤k→k+f≤n→Sd lt p k→N7 n lt (kas_asc p f k) fun m=>k≤m∧m≤k+f∧Sd lt p m∧(m=k+f∨lt (at' p m) (at' p (m - 1))=true)
 | 0,k,_,_,s=>⟨Nat.le_refl _,Nat.le_refl _,s,.inl rfl⟩
 | f+1,k,h1,h2,s=>by
  refine⟨h.bd (by omega),h.bd (by omega),?_⟩
  cases e:lt (p.getD k 0) (p.getD (k - 1) 0) with
  | true=>exact⟨Nat.le_refl _,by omega,s,.inr e⟩
  | false =>
   dsimp only
   rw[if_neg Bool.false_ne_true]
   refine jU (fun m hm=>?_) (P0 h f (k+1) (by omega) (by omega) (Sd.more O h s h1 (by omega) (not_lt O h (by omega) (by omega) (by omega) e)))
   refine⟨by omega,by omega,hm.2.2.1,?_⟩
   rcases hm.2.2.2 with z|z
   ·exact .inl (by omega)
   ·exact .inr z
theorem Ri{p:Array Nat}(h:Pm n p):∀ (f k:Nat),1≤k→k+f≤n→Dd lt p k→N7 n lt (kas_desc f p k 0) fun r=>r.1=p∧k≤r.2.1∧r.2.1≤k+f∧r.2.2=0∧Dd lt p r.2.1
 | 0,k,_,_,s=>⟨rfl,Nat.le_refl _,Nat.le_refl _,rfl,s⟩
 | f+1,k,h1,h2,s=>by
  refine⟨h.bd (by omega),h.bd (by omega),?_⟩
  cases e:lt (p.getD k 0) (p.getD (k - 1) 0) with
  | true =>
   dsimp only
   rw[if_pos rfl,if_neg (by omega)]
   refine jU (fun r hr=>⟨hr.1,by omega,by omega,hr.2.2.2⟩) (Ri h f (k+1) (by omega) (by omega) (Dd.more O h s h1 (by omega) e))
  | false =>
   dsimp only
   rw[if_neg Bool.false_ne_true]
   refine⟨h.bd (by omega),h.bd (by omega),?_⟩
   dsimp only
   rw[show lt (p.getD (k - 1) 0) (p.getD k 0)=true from not_lt O h (by omega) (by omega) (by omega) e,if_pos rfl]
   exact⟨rfl,Nat.le_refl _,by show k≤_;omega,rfl,s⟩
theorem Xw{p:Array Nat}{k:Nat}(hk:k≤p.size)(i:Nat):at' (kas_rev p 0 k) i=if i < k then at' p (k - 1 - i) else at' p i:=by
 have e:=getElem?_mirror_all (xs:=p) (i:=0) (j:=k) hk i
 show (kas_rev p 0 k).getD i 0=_
 have g:∀ (q:Array Nat) (j:Nat),q.getD j 0=(q[j]?).getD 0:=fun q j=>by simp
 rw[g]
 unfold kas_rev
 rw[e]
 by_cases hi:i < k
 ·rw[if_pos ⟨Nat.zero_le _,hi⟩,if_pos hi,← g,show 0+k - 1 - i=k - 1 - i by omega]
 ·rw[if_neg (by omega),if_neg hi,← g]
theorem Vi{p:Array Nat}(h:Pm n p)(k:Nat):Pm n (kas_rev p 0 k):=⟨(mirror_perm _ _ _ _).trans h.pm⟩
theorem X8{p:Array Nat}(h:Pm n p){k:Nat}(h1:1≤k)(h2:k≤n)(s:Dd lt p k):N7 n lt (kas_tail3 k n p) fun r=>Pm n r.2∧1≤r.1∧r.1≤n∧Sd lt r.2 r.1:=by
 have sz:k≤p.size:=by rw[h.size];exact h2
 have s':Sd lt (kas_rev p 0 k) k:=fun i j hij hj=>by
  rw[Xw O sz,Xw O sz,if_pos (by omega),if_pos hj]
  exact s _ _ (by omega) (by omega)
 refine qD (jU (fun m hm=>?_) (P0 O (Vi O h k) (n - k) k h1 (by omega) s'))
 exact⟨Vi O h k,by omega,by omega,hm.2.2.1⟩
theorem Mp{p:Array Nat}(h:Pm n p){k:Nat}(h2:k+1≤n)(s:Dd lt p (k+1)):N7 n lt (kas_descPart k n p) fun r=>Pm n r.2∧1≤r.1∧r.1≤n∧Sd lt r.2 r.1:=by
 refine qD (jU (fun r hr=>?_) (Ri O h (n - (k+1)) (k+1) (by omega) (by omega) s))
 obtain⟨e1,l1,l2,e2,d⟩:=hr
 rw[e2,if_neg (by omega),e1]
 exact X8 O h (by omega) (by omega) d
theorem W9{p:Array Nat}(h:Pm n p)(h1:1≤n):N7 n lt (kas_count n p) fun r=>Pm n r.2∧1≤r.1∧r.1≤n∧Sd lt r.2 r.1:=by
 refine qD (jU (fun m hm=>?_) (P0 O h (n - 1) 1 (Nat.le_refl _) (by omega) (fun i j hij hj=>by omega)))
 obtain⟨m1,m2,s,e⟩:=hm
 by_cases hn:m=n
 ·rw[if_pos (by simpa using hn)]
  exact⟨h,m1,by omega,s⟩
 ·rw[if_neg (by simpa using hn)]
  have e:=e.resolve_left (by omega)
  by_cases hg:m > 1
  ·rw[if_pos hg]
   refine⟨h.bd (by omega),h.bd (by omega),?_⟩
   dsimp only
   rw[show lt (p.getD 0 0) (p.getD (m - 1) 0)=true from s 0 (m - 1) (by omega) (by omega),if_pos rfl]
   exact⟨h,m1,by omega,s⟩
  ·rw[if_neg hg]
   obtain rfl:m=1:=by omega
   refine Mp O h (by omega) fun i j hij hj=>?_
   obtain rfl:i=0:=by omega
   obtain rfl:j=1:=by omega
   exact e
theorem Cu{p:Array Nat}(h:Pm n p){k:Nat}(hk:k < n)(s:Sd lt p k):∀ (f l r:Nat),l≤r→r≤k→r - l≤f→(∀ i,i < l→lt (at' p i) (at' p k)=true)→(∀ i,r≤i→i < k→lt (at' p k) (at' p i)=true) →
 N7 n lt (kas_place p k f l r) fun m=>m≤k∧(∀ i,i < m→lt (at' p i) (at' p k)=true)∧(∀ i,m≤i→i < k→lt (at' p k) (at' p i)=true)
 | 0,l,r,h1,h2,h3,a,b=>by
  obtain rfl:l=r:=by omega
  exact⟨h2,a,b⟩
 | f+1,l,r,h1,h2,h3,a,b=>by
  unfold kas_place
  by_cases g:l ≥ r
  ·rw[if_pos g]
   obtain rfl:l=r:=by omega
   exact⟨h2,a,b⟩
  ·rw[if_neg g]
   refine⟨h.bd hk,h.bd (by omega),?_⟩
   cases e:lt (p.getD k 0) (p.getD ((l+r) / 2) 0) with
   | true =>
    dsimp only
    rw[if_pos rfl]
    refine Cu h hk s f l ((l+r) / 2) (by omega) (by omega) (by omega) a fun i hi hk'=>?_
    by_cases z:i=(l+r) / 2
    ·subst z;exact e
    ·exact O.tr _ _ _ (h.bd hk) (h.bd (by omega)) (h.bd (by omega)) e (s _ _ (by omega) hk')
   | false =>
    dsimp only
    rw[if_neg Bool.false_ne_true]
    have e':=not_lt O h hk (by omega) (by omega) e
    refine Cu h hk s f ((l+r) / 2+1) r (by omega) h2 (by omega) (fun i hi=>?_) b
    by_cases z:i=(l+r) / 2
    ·subst z;exact e'
    ·exact O.tr _ _ _ (h.bd (by omega)) (h.bd (by omega)) (h.bd hk) (s _ _ (by omega) (by omega)) e'
theorem Xy{p:Array Nat}{k d:Nat}(hk:k < p.size)(hd:d≤k)(i:Nat):at' (bubble p k d) i=if i=k - d then at' p k else if k - d < i∧i≤k then at' p (i - 1) else at' p i:=by
 have e:=getElem?_bubble hk d hd i
 have g:∀ (q:Array Nat) (j:Nat),q.getD j 0=(q[j]?).getD 0:=fun q j=>by simp
 show (bubble p k d).getD i 0=_
 rw[g,e]
 by_cases h1:i=k - d
 ·rw[if_pos h1,if_pos h1,← g]
 ·rw[if_neg h1,if_neg h1]
  by_cases h2:k - d < i∧i≤k
  ·rw[if_pos h2,if_pos h2,← g]
  ·rw[if_neg h2,if_neg h2,← g]
theorem Xg:∀ (f:Nat) (p:Array Nat) (k:Nat),Pm n p→k+f≤n→Sd lt p k→N7 n lt (kas_bin f p k) fun q=>Pm n q∧Sd lt q (k+f)
 | 0,p,k,h,_,s=>⟨h,s⟩
 | f+1,p,k,h,hk,s=>by
  have sz:k < p.size:=by rw[h.size];omega
  refine qD (jU (fun l hl=>?_) (Cu O h (by omega) s k 0 k (by omega) (Nat.le_refl _) (by omega) (fun i hi=>by omega) (fun i h1 h2=>by omega)))
  obtain⟨l1,lo,hi⟩:=hl
  have s':Sd lt (bubble p k (k - l)) (k+1):=fun i j hij hj=>by
   rw[Xy O sz (d:=k - l) (by omega),Xy O sz (d:=k - l) (by omega),show k - (k - l)=l by omega]
   by_cases c1:i=l
   ·rw[if_pos c1,if_neg (by omega),if_pos (by omega)]
    exact hi _ (by omega) (by omega)
   ·rw[if_neg c1]
    by_cases c2:l < i∧i≤k
    ·rw[if_pos c2,if_neg (by omega),if_pos (by omega)]
     exact s _ _ (by omega) (by omega)
    ·rw[if_neg c2]
     by_cases c3:j=l
     ·rw[if_pos c3]
      exact lo _ (by omega)
     ·rw[if_neg c3]
      by_cases c4:l < j∧j≤k
      ·rw[if_pos c4]
       exact s _ _ (by omega) (by omega)
      ·rw[if_neg c4]
       exact s _ _ (by omega) (by omega)
  refine jU (fun q hq=>⟨hq.1,?_⟩) (Xg f (bubble p k (k - l)) (k+1) ⟨(bubble_perm _ _ _).trans h.pm⟩ (by omega) s')
  rw[show k+(f+1)=k+1+f by omega];exact hq.2
theorem Ye(h1:1≤n):N7 n lt (kas_sort n) fun q=>Pm n q∧Sd lt q n:=by
 refine qD (jU (fun r hr=>?_) (W9 O ⟨Array.Perm.refl _⟩ h1))
 obtain⟨pm,r1,r2,s⟩:=hr
 by_cases hl:r.1 < n
 ·rw[if_pos hl]
  refine jU (fun q hq=>⟨hq.1,?_⟩) (Xg O (n - max r.1 1) r.2 (max r.1 1) pm (by omega) (by rw[show max r.1 1=r.1 by omega];exact s))
  rw[show n=max r.1 1+(n - max r.1 1) by omega];exact hq.2
 ·rw[if_neg hl]
  exact⟨pm,by rw[show n=r.1 by omega];exact s⟩
end
end So
namespace So
open PySem PySem.W PyProof.Rows PySem.MeetsSeq3
def jJ:List Int→List Int→Bool
 | [],[]=>false
 | [],_::_=>true
 | _::_,[]=>false
 | a::r,b::t=>if a == b then jJ r t else decide (a < b)
section
variable{prog:Program}{w:World}{Ar:Around}
theorem Ra{vs:List Value}{ns:List Int}(h:IntsAre vs ns):∀ {i:Nat} {n:Int},ns[i]? = some n→∃ t,vs[i]? = some (.int n t):=by
 induction h with
 | nil=>intro i n e;simp at e
 | cons a t h ih =>
  intro i n e
  cases i with
  | zero=>simp at e;subst e;exact⟨t,rfl⟩
  | succ i=>exact ih (by simpa using e)
theorem adi{R:Result→Shared→Prop}{s:Shared}{l b:Addr}{us vs:List Value}{xs ys:List Int}{o o2:Obj}{n n2:Nat}(ho:s.heap.get? l=some o)(hd:o.data=.seq us.toArray n)(ho2:s.heap.get? b=some o2)(hd2:o2.data=.seq vs.toArray n2)(hu:IntsAre us xs)(hv:IntsAre vs ys) :
 ∀ (k i:Nat),xs.length - i≤k→i≤xs.length→i≤ys.length→R (.ok (.ret (.bool (jJ (xs.drop i) (ys.drop i))))) s→codeAny (model prog w) Ar (.builtin "list.__eq__.loop" ⟨[.ref l,.ref b,rawInt i,rawInt 0],[]⟩) R s:=by
 have l1:=hu.length
 have l2:=hv.length
 have gx:∀ i,i < xs.length→∃ t,us.toArray[i]? = some (.int (xs.getD i 0) t):=fun i hi=>by
  obtain⟨t,e⟩:=Ra hu (i:=i) (n:=xs.getD i 0) (by simp[hi])
  exact⟨t,by simpa using e⟩
 have gy:∀ i,i < ys.length→∃ t,vs.toArray[i]? = some (.int (ys.getD i 0) t):=fun i hi=>by
  obtain⟨t,e⟩:=Ra hv (i:=i) (n:=ys.getD i 0) (by simp[hi])
  exact⟨t,by simpa using e⟩
 have nx:∀ i,¬ i < xs.length→us.toArray[i]? = none:=fun i hi=>by simp;omega
 have ny:∀ i,¬ i < ys.length→vs.toArray[i]? = none:=fun i hi=>by simp;omega
 have adD:∀ i,i=xs.length→i≤ys.length→decide (us.toArray.size < vs.toArray.size)=jJ (xs.drop i) (ys.drop i):=fun i hi hj=>by
  rw[List.drop_eq_nil_of_le (by omega:xs.length≤i),List.size_toArray,List.size_toArray,l1,l2]
  by_cases h:i < ys.length
  ·rw[List.drop_eq_getElem_cons h]
   simp[jJ];omega
  ·rw[List.drop_eq_nil_of_le (by omega:ys.length≤i)]
   simp[jJ];omega
 have aeL:∀ i,i < xs.length→i=ys.length→decide (us.toArray.size < vs.toArray.size)=jJ (xs.drop i) (ys.drop i):=fun i hi hj=>by
  rw[List.drop_eq_nil_of_le (by omega:ys.length≤i),List.drop_eq_getElem_cons hi,List.size_toArray,List.size_toArray,l1,l2]
  simp[jJ];omega
 have fin:∀ (i:Nat),(us.toArray[i]? = none∨vs.toArray[i]? = none)→R (.ok (.ret (.bool (decide (us.toArray.size < vs.toArray.size))))) s→codeAny (model prog w) Ar (.builtin "list.__eq__.loop" ⟨[.ref l,.ref b,rawInt i,rawInt 0],[]⟩) R s:=fun i hn h=>by
  refine codeAny_builtin entry_eq_loop (by
   rw[Around.under_plainId plain_eq_loop _]
   unfold Builtin.«list.__eq__.loop»
   show wpAny _ _ (Builtin.List.listItems (.ref l) >>= _) _ _ _
   refine wpAny_bind (listItems_at ho hd (wpAny_bind (listItems_at ho2 hd2 ?_)))
   simp only[Int.toNat_natCast]
   rcases hn with e|e
   ·rw[e]
    dsimp only
    refine wpAny_bind (listItems_at ho hd (wpAny_bind (listItems_at ho2 hd2 ?_)))
    exact wpAny_pure h
   ·rw[e]
    cases us.toArray[i]? <;>
    ·dsimp only
     refine wpAny_bind (listItems_at ho hd (wpAny_bind (listItems_at ho2 hd2 ?_)))
     exact wpAny_pure h)
 intro k
 induction k with
 | zero =>
  intro i hk h1 h2 h
  refine fin i (.inl (nx i (by omega))) ?_
  rw[adD i (by omega) h2];exact h
 | succ k ih =>
  intro i hk h1 h2 h
  by_cases hi:i < xs.length
  ·by_cases hj:i < ys.length
   ·obtain⟨t,e1⟩:=gx i hi
    obtain⟨u,e2⟩:=gy i hj
    have dx:xs.drop i=xs.getD i 0::xs.drop (i+1):=by rw[List.drop_eq_getElem_cons hi];simp[hi]
    have dy:ys.drop i=ys.getD i 0::ys.drop (i+1):=by rw[List.drop_eq_getElem_cons hj];simp[hj]
    rw[dx,dy] at h
    refine codeAny_builtin entry_eq_loop (by
     rw[Around.under_plainId plain_eq_loop _]
     unfold Builtin.«list.__eq__.loop»
     show wpAny _ _ (Builtin.List.listItems (.ref l) >>= _) _ _ _
     refine wpAny_bind (listItems_at ho hd (wpAny_bind (listItems_at ho2 hd2 ?_)))
     simp only[Int.toNat_natCast]
     rw[e1,e2]
     dsimp only
     refine wpAny_bind (wpAny_eqBool_int ?_)
     cases hb:(xs.getD i 0 == ys.getD i 0) with
     | true =>
      rw[if_pos rfl]
      rw[jJ,hb,if_pos rfl] at h
      refine wpAny_pure ⟨plainId_quiet plain_eq_loop _,?_⟩
      have:=ih (i+1) (by omega) hi hj h
      rw[show rawInt ((i+1:Nat):Int)=rawInt ((i:Int)+1) from by rw[show ((i+1:Nat):Int)=(i:Int)+1 by omega]] at this
      exact this
     | false =>
      rw[if_neg Bool.false_ne_true]
      rw[jJ,hb,if_neg Bool.false_ne_true] at h
      refine wpAny_bind (listItems_at ho hd (wpAny_bind (listItems_at ho2 hd2 ?_)))
      rw[e1,e2]
      show wpAny _ _ (richCompare .Lt _ _ >>= _) _ _ _
      exact wpAny_bind (show wpAny _ _ (compareOp .Lt _ _) _ _ _ from wpAny_lt_int (wpAny_pure h)))
   ·refine fin i (.inr (ny i hj)) ?_
    rw[aeL i hi (by omega)];exact h
  ·refine fin i (.inl (nx i hi)) ?_
   rw[adD i (by omega) h2];exact h
theorem V8{E:Value→Shared→Prop}{s:Shared}{l b:Addr}{us vs:List Value}{xs ys:List Int}{o o2:Obj}{n n2:Nat}{Q:Bool→Shared→Prop}(ho:s.heap.get? l=some o)(hc:o.cls=.type "list")(hd:o.data=.seq us.toArray n)(ho2:s.heap.get? b=some o2)(hc2:o2.cls=.type "list")(hd2:o2.data=.seq vs.toArray n2)(hu:IntsAre us xs)(hv:IntsAre vs ys)
 (hun:Ar.units < cLine) (h:Q (jJ xs ys) s):wpAny (model prog w) Ar (keyLt' oneType' (.ref l) (.ref b)) Q E s:=by
 have t1:s.TypeIs (.ref l) "list" := ⟨_,ho,hc⟩
 have t2:s.TypeIs (.ref b) "list" := ⟨_,ho2,hc2⟩
 rw[keyLt'_oneType,oneLt'_eq]
 simp only[if_true]
 refine wpAny_bind (wpAny_cRoomFor hun ?_)
 refine wpAny_bind (wpAny_callSpecialIfBound?_slot t1 PySem.F.slot_list_lt (wpAny_call (codeAny_call_builtin PySem.F.slot_list_lt.plain PySem.F.entry_list_lt (PySem.F.slot_list_lt.check _ _ _ _ _ _ _ _ t1 (PySem.F.args_list_lt_2 _ _) ?_))))
 unfold Builtin.«list.__lt__»
 have sub:isSubtype (.type "list") (.type "list")=pure true:=by rw[isSubtype_type];kernel_rfl
 show wpAny _ _ (isInstance (.ref b) (.type "list") >>= _) _ _ _
 refine wpAny_bind (wpAny_isInstance t2 sub ?_)
 refine wpAny_pure ⟨plainId_quiet plain_eq_loop _,?_⟩
 refine adi ho hd ho2 hd2 hu hv xs.length 0 (by omega) (Nat.zero_le _) (Nat.zero_le _) ?_
 exact wpAny_truthy_bool h
end
end So
namespace So
open PySem PySem.W PyProof.Rows
section
variable{prog:Program}{w:World}{A:Around}{E:Value→Shared→Prop}{s:Shared}
def tm(n:Nat):List Addr:=[n,n+1,n+2,n+3]
def wH(lt:Nat→Nat→Bool)(vs out:List Value):Prop:=∃ p:Array Nat,Pm vs.length p∧Sd lt p vs.length∧out=p.toList.map fun i=>vs.getD i Value.none
theorem wH.len{lt:Nat→Nat→Bool}{vs out:List Value}(h:wH lt vs out):out.length=vs.length:=by
 obtain⟨p,pm,_,rfl⟩:=h
 rw[List.length_map,Array.length_toList,pm.size]
theorem BL{a kS:Addr}{e e1:Nat}{ks out:List Value}{st:SortSt}{P:PySem.Fin→Shared→Prop}(hk:s.heap.get? kS=some (seqObj "list" (List.toArray ks) e))(ha:s.heap.get? a=some (seqObj "list" #[] e1))(ne:a≠kS)
 (hks:ks.length < 64) (ho:out.length < 64) (hout:(arrOf st).map (·.2)=List.toArray out) (hf:failedOf st=none)
 (h:∀ h' c,(∀ b o,b≠a→b≠kS→s.heap.get? b=some o→h'.get? b=some o)→(∃ o,h'.get? kS=some o)→h'.get? a=some (seqObj "list" (List.toArray out) c)→P (.done (.ret .none)) { s with heap:=h' }) :
 wpAny (model prog w) A (ksk_tail a false e1 (.ref kS) st) P E s:=by
 have s1:=Heap.SameBut.update s.heap kS (Obj.mapSeq fun _=>(#[]:Array Value))
 have ha1:=(s1.2 a ne).trans ha
 have s2:=Heap.SameBut.update (s.heap.update kS (Obj.mapSeq fun _=>(#[]:Array Value))) a (Obj.mapSeq fun _=>List.toArray out)
 obtain⟨c,hc⟩ : ∃ c,((s.heap.update kS (Obj.mapSeq fun _=>(#[]:Array Value))).update a (Obj.mapSeq fun _=>List.toArray out)).get? a=some (seqObj "list" (List.toArray out) c):=⟨_,get?_update_seq ha1 fun _=>List.toArray out⟩
 unfold ksk_tail
 dsimp only
 rw[hout]
 refine wpAny_bind (listUpdate_at hk rfl ?_ (by rw[List.size_toArray,sizeLine_eq];omega) (Nat.zero_le _))
 refine wpAny_bind (wpAny_letGo (wpAny_bind (seqEpoch_at ha1 rfl ?_)))
 refine wpAny_bind (listUpdate_at ha1 rfl ?_ (Nat.zero_le _) (by show (List.toArray out).size≤_;rw[List.size_toArray,sizeLine_eq];omega))
 rw[hf]
 simp only[bne_self_eq_false,Bool.false_eq_true,if_false]
 exact wpAny_pure (h _ c (fun b o n1 n2 q=>(s2.2 b n1).trans ((s1.2 b n2).trans q)) ⟨_,(s2.2 kS (Ne.symm ne)).trans (get?_update_seq hk fun _=>#[])⟩ hc)
theorem Pg{a kS f:Addr}{e1:Nat}{P:PySem.Fin→Shared→Prop}(J:List Value→Shared→Prop){vs:List Value}(h64:vs.length < 64)
 (jk:∀ ks s1 h',J ks s1→(∀ b o,b≠kS→s1.heap.get? b=some o→h'.get? b=some o)→(∃ o,h'.get? kS=some o)→J ks { s1 with heap:=h' })
 (jc:∀ i x ks s1,vs[i]? = some x→ks.length=i→J ks s1→wpAny (model prog w) A (call (.ref f) [x]) (fun k s2=>J (ks++[k]) s2∧∀ b o,(b=a∨b=kS)→s1.heap.get? b=some o→s2.heap.get? b=some o) (fun _ _=>False) s1)
 (ne:a≠kS) (hk:s.heap.get? kS=some (seqObj "list" #[] 0)) (ha:s.heap.get? a=some (seqObj "list" #[] e1)) (j0:J [] s)
 (fin:∀ ks e s1,ks.length=vs.length→J ks s1→s1.heap.get? kS=some (seqObj "list" (List.toArray ks) e)→s1.heap.get? a=some (seqObj "list" #[] e1)→wpAny (model prog w) A (ksk_end a false vs.toArray e1 (.ref kS) (List.toArray ks)) P E s1) :
 wpAny (model prog w) A (ksk_rest a (.ref f) false vs.toArray e1 (.ref kS)) P E s:=by
 unfold ksk_rest
 refine wpAny_bind (wpAny_rule ?_)
 rw[List.forIn_toArray]
 refine wpAny_bind (ksk_fold (I:=fun i s1=>∃ ks e,ks.length=i∧J ks s1∧s1.heap.get? kS=some (seqObj "list" (List.toArray ks) e)∧s1.heap.get? a=some (seqObj "list" #[] e1)) vs 0 s ⟨[],0,rfl,j0,hk,ha⟩ (fun j x s1 hx hI=>?_) fun s1 hI=>?_)
 ·obtain⟨ks,e,hl,hJ,hk1,ha1⟩:=hI
  rw[Nat.zero_add] at hl ⊢
  have hlt:j < vs.length:=(List.getElem?_eq_some_iff.mp hx).1
  refine wpAny_bind (wpAny_attempt (wpAny_mono (jc j x ks s1 hx hl hJ) (fun k s2 h2=>?_) fun _ _ z=>z.elim))
  obtain⟨hJ2,kp⟩:=h2
  have hk2:=kp kS _ (.inr rfl) hk1
  have ha2:=kp a _ (.inl rfl) ha1
  have su:=Heap.SameBut.update s2.heap kS (Obj.mapSeq (·.push k))
  have ea:(List.toArray ks).push k=List.toArray (ks++[k]):=by simp
  obtain⟨c2,hc2⟩ : ∃ c2,(s2.heap.update kS (Obj.mapSeq (·.push k))).get? kS=some (seqObj "list" (List.toArray (ks++[k])) c2):=⟨_,by rw[← ea];exact get?_update_seq hk2 (·.push k)⟩
  dsimp only
  refine wpAny_bind (listUpdate_at hk2 rfl ?_ (by rw[List.size_toArray,sizeLine_eq];omega) (Nat.le_trans (Nat.le_of_eq (Array.size_push ..)) (by rw[List.size_toArray,sizeLine_eq];omega)))
  exact wpAny_pure ⟨rfl,ks++[k],c2,by rw[List.length_append,hl];rfl,jk _ _ _ hJ2 (fun b o n q=>(su.2 b n).trans q) ⟨_,hc2⟩,hc2,(su.2 a ne).trans ha2⟩
 ·obtain⟨ks,e,hl,hJ,hk1,ha1⟩:=hI
  refine wpAny_bind (listItems_at hk1 rfl ?_)
  exact fin ks e s1 (by simpa using hl) hJ hk1 ha1
theorem Tq{a kS:Addr}{e e1:Nat}{ks vs:List Value}{lt:Nat→Nat→Bool}{P:PySem.Fin→Shared→Prop}(hl:ks.length=vs.length)(h64:vs.length < 64)(O:Ord vs.length lt)
 (hkk:2≤vs.length→∀ (Q:SortKind→Shared→Prop),Q oneType' s→wpAny (model prog w) A (keyKind' (List.toArray ks)) Q (fun _ _=>False) s)
 (hcmp:∀ i j C,i < vs.length→j < vs.length→C (lt i j) s→kas_ask prog w A oneType' ks i j C s)
 (hk:s.heap.get? kS=some (seqObj "list" (List.toArray ks) e)) (ha:s.heap.get? a=some (seqObj "list" #[] e1)) (ne:a≠kS)
 (h:∀ out h' c,wH lt vs out→(∀ b o,b≠a→b≠kS→s.heap.get? b=some o→h'.get? b=some o)→(∃ o,h'.get? kS=some o)→h'.get? a=some (seqObj "list" (List.toArray out) c)→P (.done (.ret .none)) { s with heap:=h' }) :
 wpAny (model prog w) A (ksk_end a false vs.toArray e1 (.ref kS) (List.toArray ks)) P E s:=by
 have Y7:∀ {n:Nat},Pm n (List.toArray (List.range n)):=⟨Array.Perm.refl _⟩
 unfold ksk_end
 dsimp only
 rw[if_neg Bool.false_ne_true,if_neg Bool.false_ne_true]
 by_cases h2:vs.toArray.size < 2
 ·rw[if_pos h2,if_pos h2]
  rw[List.size_toArray] at h2
  refine wpAny_bind (wpAny_pure ?_)
  rw[StateT.run_pure]
  refine wpAny_bind (wpAny_pure ?_)
  dsimp only
  have hout:wH lt vs vs:=⟨List.toArray (List.range vs.length),Y7,fun i j hij hj=>by omega,by
   apply List.ext_getElem (by simp)
   intro i h1 h2
   simp[h1]⟩
  refine BL (out:=vs) hk ha ne (by omega) h64 ?_ rfl fun h' c kp ex hc=>h vs h' c hout kp ex hc
  show ((List.toArray ks).zip vs.toArray).map (·.2)=vs.toArray
  apply Array.toList_inj.mp
  rw[Array.toList_map,Array.toList_zip]
  simp only[]
  rw[List.map_snd_zip (by omega)]
 ·rw[if_neg h2,if_neg h2]
  rw[List.size_toArray] at h2
  refine wpAny_bind (wpAny_mono (hkk (by omega) (fun κ s'=>κ = oneType'∧s'=s) ⟨rfl,rfl⟩) (fun κ s' hh=>?_) fun _ _ z=>z.elim)
  obtain⟨rfl,rfl⟩:=hh
  have wp:=Us (cmp:=kas_ask prog w A oneType' ks) (s:=s') hcmp (Ye O (by omega))
  refine wpAny_bind (wpAny_mono (kat_run (E:=E) (Q:=fun st' s2=>s2=s'∧∃ p:Array Nat,Pm vs.length p∧Sd lt p vs.length∧arrOf st'=p.map (kas_item (ks.toArray.zip vs.toArray))∧failedOf st'=none) hl (by omega) h64 (fun p st' s2 _ a2 a3 a4=>⟨a4.1,p,a4.2.1,a4.2.2,a2,a3⟩) wp) ?_ fun _ _ z=>z)
  rintro ⟨⟨⟩,st'⟩ s2 ⟨rfl,p,pm,sd,har,hf⟩
  dsimp only
  have hout:wH lt vs (p.toList.map fun i=>vs.getD i Value.none):=⟨p,pm,sd,rfl⟩
  exact BL hk ha ne (by omega) (by rw[hout.len];exact h64) (kat_snds hl har) hf fun h' c kp ex hc=>h _ h' c hout kp ex hc
theorem HB{f l:Addr}{vs:List Value}{Q:Value→Shared→Prop}(J:List Value→Shared→Prop)(hl:s.heap.IsList l vs.toArray)(h64:vs.length < 64)
 (j0:∀ h':Heap,(∀ b o,s.heap.get? b=some o→h'.get? b=some o)→(∀ b∈tm s.heap.objs.size,∃ o,h'.get? b=some o)→J [] { s with heap:=h' })
 (jk:∀ ks s1 h',J ks s1→(∀ b o,b∉tm s.heap.objs.size→s1.heap.get? b=some o→h'.get? b=some o)→(∀ b o,s1.heap.get? b=some o→∃ o',h'.get? b=some o')→J ks { s1 with heap:=h' })
 (jc:∀ i x ks s1,vs[i]? = some x→ks.length=i→J ks s1→wpAny (model prog w) A.in1.in1 (call (.ref f) [x]) (fun k s2=>J (ks++[k]) s2∧∀ b o,b∈tm s.heap.objs.size→s1.heap.get? b=some o→s2.heap.get? b=some o) (fun _ _=>False) s1)
 (je:∀ ks s1,ks.length=vs.length→J ks s1→∃ lt,Ord vs.length lt∧(2≤vs.length→∀ (Q:SortKind→Shared→Prop),Q oneType' s1→wpAny (model prog w) A.in1.in1 (keyKind' (List.toArray ks)) Q (fun _ _=>False) s1) ∧
  (∀ i j C,i < vs.length→j < vs.length→C (lt i j) s1→kas_ask prog w A.in1.in1 oneType' ks i j C s1) ∧
  ∀ out h' c,wH lt vs out→(∀ b o,b∉tm s.heap.objs.size→s1.heap.get? b=some o→h'.get? b=some o)→(∀ b o,s1.heap.get? b=some o→∃ o',h'.get? b=some o')→h'.get? (s.heap.objs.size+1)=some (seqObj "list" (List.toArray out) c)→Q (.ref (s.heap.objs.size+1)) { s1 with heap:=h' }) :
 wpAny (model prog w) A (call (.builtin "sorted") [.ref l] [(Str.ofString "key", .ref f)]) Q E s:=by
 refine call_function_entry_kw kind_sorted plain_sorted entry_sorted (ksk_s1 _ _) ?_
 unfold Builtin.«sorted»
 refine wpAny_bind (m:=checkCount "sorted" 1 1 _) (wpAny_pure ?_)
 refine wpAny_bind (collect_list hl ?_ (by rw[sizeLine_eq];omega))
 refine wpAny_bind (wpAny_newList ?_ (by rw[sizeLine_eq];omega))
 generalize hn:s.heap.objs.size=n at *
 generalize hh1:((s.heap.push (seqObj "list" #[] 0)).update n (Obj.mapSeq (· ++ vs.toArray)))=h1
 have hsz:h1.objs.size=n+1:=by rw[← hh1,Heap.size_update,size_push',hn]
 have k1:∀ b o,s.heap.get? b=some o→h1.get? b=some o:=fun b o q=>by
  have hlt:b < n:=by rw[← hn];exact Heap.lt_size q
  rw[← hh1,Heap.get?_update_ne _ _ _ _ (Nat.ne_of_lt hlt),Heap.get?_push_ne _ _ _ (by rw[hn];exact Nat.ne_of_lt hlt)]
  exact q
 have hoL:(h1.push (seqObj "list" vs.toArray 0)).get? (n+1)=some (seqObj "list" vs.toArray 0):=by rw[← hsz];exact Heap.get?_push_size _ rfl
 show wpAny _ _ _ _ _ { s with heap:=h1.push (seqObj "list" vs.toArray 0) }
 rw[hsz]
 refine wpAny_bind (wpAny_holding (wpAny_call_entry_kw slot_list_sort ⟨_,hoL,rfl⟩ entry_list_sort ?_ (ksk_l1 _ _)))
 show wpAny (model prog w) A.in1.in1 (Builtin.«list.sort» ⟨[.ref (n+1)],[(Str.ofString "key", .ref f)]⟩) _ _ _
 rw[ksk_t1]
 generalize hh2:h1.push (seqObj "list" vs.toArray 0)=h2 at hoL ⊢
 have k2:∀ b o,s.heap.get? b=some o→h2.get? b=some o:=fun b o q=>by rw[← hh2];exact Heap.get?_push_of_some _ (k1 b o q)
 have z2:h2.objs.size=n+2:=by rw[← hh2,Heap.size_push,hsz]
 obtain⟨e1,ho1⟩ : ∃ e1,(h2.update (n+1) (Obj.mapSeq fun _=>(#[]:Array Value))).get? (n+1)=some (seqObj "list" #[] e1):=⟨_,get?_update_seq hoL fun _=>#[]⟩
 have su:=Heap.SameBut.update h2 (n+1) (Obj.mapSeq fun _=>(#[]:Array Value))
 unfold ksk_tree
 refine wpAny_bind (listItems_at (s:={ s with heap:=h2 }) hoL rfl ?_)
 refine wpAny_bind (listUpdate_at (s:={ s with heap:=h2 }) hoL rfl ?_ (by rw[List.size_toArray,sizeLine_eq];omega) (Nat.zero_le _))
 refine wpAny_bind (seqEpoch_at (s:={ s with heap:=h2.update (n+1) (Obj.mapSeq fun _=>(#[]:Array Value)) }) ho1 rfl ?_)
 refine wpAny_bind (wpAny_newTuple ?_ (by show vs.length≤_;rw[sizeLine_eq];omega))
 refine wpAny_bind (wpAny_newList ?_ (Nat.zero_le _))
 refine wpAny_holding ?_
 generalize hh3:h2.update (n+1) (Obj.mapSeq fun _=>(#[]:Array Value))=h3 at ho1 su ⊢
 have z3:h3.objs.size=n+2:=by rw[← hh3,Heap.size_update,z2]
 have z4:(h3.push (seqObj "tuple" vs.toArray 0)).objs.size=n+3:=by rw[Heap.size_push,z3]
 show wpAny (model prog w) A.in1.in1 (ksk_rest (n+1) (.ref f) false vs.toArray e1 (.ref (h3.push (seqObj "tuple" vs.toArray 0)).objs.size)) _ _ { s with heap:=(h3.push (seqObj "tuple" vs.toArray 0)).push (seqObj "list" #[] 0) }
 rw[z4]
 have aeA:∀ b o,s.heap.get? b=some o→((h3.push (seqObj "tuple" vs.toArray 0)).push (seqObj "list" #[] 0)).get? b=some o:=fun b o q=>by
  have hlt:b < n:=by rw[← hn];exact Heap.lt_size q
  exact Heap.get?_push_of_some _ (Heap.get?_push_of_some _ ((su.2 b (Nat.ne_of_lt (Nat.lt_succ_of_lt hlt))).trans (k2 b o q)))
 refine Pg (kS:=n+3) (a:=n+1) J h64 (fun ks s1 h' hJ kp ex=>jk ks s1 h' hJ (fun b o hb q=>kp b o (fun z=>hb (by simp[tm,z])) q) fun b o q=>by
  by_cases z:b=n+3
  ·rw[z];exact ex
  ·exact⟨o,kp b o z q⟩)
  (fun i x ks s1 hx hl' hJ=>wpAny_mono (jc i x ks s1 hx hl' hJ) (fun k s2 h2=>⟨h2.1,fun b o hb q=>h2.2 b o (by rcases hb with z|z<;>simp[tm,z]) q⟩) fun _ _ z=>z) (show (n+1:Nat)≠n+3 by omega)
  (by rw[← z4];exact Heap.get?_push_size _ rfl) (Heap.get?_push_of_some _ (Heap.get?_push_of_some _ ho1)) (j0 _ aeA fun b hb=>?ex) fun ks e s1 hlk hJ hk1 ha1=>?_
 case ex =>
  have e0:∃ o,h3.get? n=some o:=by
   have q0:(s.heap.push (seqObj "list" #[] 0)).get? n=some (seqObj "list" #[] 0):=by rw[← hn];exact Heap.get?_push_size _ rfl
   obtain⟨o1,q1⟩ : ∃ o1,h1.get? n=some o1:=by rw[← hh1];exact⟨_,get?_update_seq q0 (· ++ vs.toArray)⟩
   exact⟨_,(su.2 n (show (n:Nat)≠n+1 by omega)).trans (by rw[← hh2];exact Heap.get?_push_of_some _ q1)⟩
  simp only[tm,List.mem_cons,List.not_mem_nil,or_false] at hb
  rcases hb with rfl|rfl|rfl|rfl
  ·obtain⟨o,q⟩:=e0
   exact⟨o,Heap.get?_push_of_some _ (Heap.get?_push_of_some _ q)⟩
  ·exact⟨_,Heap.get?_push_of_some _ (Heap.get?_push_of_some _ ho1)⟩
  ·exact⟨_,Heap.get?_push_of_some _ (by rw[← z3];exact Heap.get?_push_size _ rfl)⟩
  ·exact⟨_,by rw[← z4];exact Heap.get?_push_size _ rfl⟩
 obtain⟨lt,O,hkk,hcmp,fin⟩:=je ks s1 hlk hJ
 refine Tq hlk h64 O hkk hcmp hk1 ha1 (show (n+1:Nat)≠n+3 by omega) fun out h' c so kp ex hc=>?_
 exact⟨_,rfl,wpAny_pure ⟨_,rfl,fin out h' c so (fun b o hb q=>kp b o (fun z=>hb (by simp[tm,z])) (fun z=>hb (by simp[tm,z])) q) (fun b o q=>by
  by_cases y1:b=n+1
  ·rw[y1];exact⟨_,hc⟩
  ·by_cases y2:b=n+3
   ·rw[y2];exact ex
   ·exact⟨o,kp b o y1 y2 q⟩) hc⟩⟩
end
end So
namespace L2
open PySem PySem.Spec PyProof.Rows
def cxL(X:Cx)(A:Around)(N':List Str)(env:Env)(s:Shared)(H:Hp):Cx :=
 { X with A:=A.deeper env,N:=N',s₀:=s,H₀:=H,env:=env,outer:=X.stack,stack:=env::X.stack,ex:=[],fn:=fun _=>false,calm:=true,pn:=[],xe:=fun _ _=>False }
abbrev Je(qual:Str)(scope:Scope)(s:Shared)(f c':Addr)(cl:List (Str×Addr)):Env:=W.envX qual scope s.heap.objs.size f (.ref c') cl
structure G6(X:Cx)(x:Str)(ρ : List Nat)(N':List Str)(sc:Scope)(cl:List (Str×Addr)):Prop where
 kind:sc.kind=.function
 co:sc.isCoroutine=false
 gen:sc.isGenerator=false
 CQ:∀ y∈sc.names,y.2≠.cell
 par:sc.names.lookup x=some .local
 clo:∀ y c,cl.lookup y=some c→X.env.cells.lookup y=some c
 has:∀ y,sc.names.lookup y=some .free→∃ c,cl.lookup y=some c
 N:∃ ys,N'=x::ys∧ys.length = ρ.length∧∀ (i j:Nat) y,ρ[i]? = some j→ys[i]? = some y→X.N[j]? = some y∧sc.names.lookup y=some .free∧(X.env.kindOf y=some .cell∨X.env.kindOf y=some .free)
section
variable{X:Cx}{pins:List (Addr×Obj)}{σ : St}{H:Hp}{s:Shared}{A:Around}{k:Nat}{qual x:Str}{ps:Arguments}{body:Expr}{sc:Scope}{cl:List (Str×Addr)}{pm ctv:Value}{f c':Addr}{ρ : List Nat}{N':List Str}
def p6(ρ : List Nat)(σ : St)(v:V):St:=some v :: ρ.map fun j=>(σ[j]?).join
theorem YJ{h1:Heap}{tk:Nat}{v:V}{u:Value}(I:Inv X pins σ H s)(hA:A.frames=some X.stack)(hd:A.handled=none)(S:G6 X x ρ N' sc cl)(rv:RelV v u)
 (hns:h1.Ns s.heap.objs.size fun y=>[(x,u)].reverse.lookup y) (hk:∀ b o,s.heap.get? b=some o→h1.get? b=some o) :
 Inv (cxL X A N' (Je qual sc s f c' cl) s H) [] (p6 ρ σ v) H { s with heap:=h1,toks:=tk }:=by
 obtain⟨ys,eN,el,ix⟩:=S.N
 have noA:∀ b:Addr,b∉([]:List Addr):=fun b z=>absurd z (by simp)
 refine⟨⟨I.mod,S.kind,rfl,rfl,Nat.le_refl _,fun y z c h1 h2=>I.ok.inj y z c (S.clo y c h1) (S.clo z c h2),fun y hy=>?_,fun y c z=>(nomatch z),fun _=>hd,Around.frames_deeper hA,.inr ⟨rfl,rfl⟩,fun b z=>absurd z (noA b),I.bs,Nat.le_trans I.ok.bsz I.sz,fun b _ _=>noA b,fun b z=>absurd z (noA b),I.stack,I.w6⟩,
  rfl,I.bare,Un.kept hk,⟨_,hns,fun i y w h2 h3 h4=>?_⟩,fun y c e=>?_,I.hok.fresh (Nat.le_refl _),fun y c e=>I.nZ y c (S.clo y c e),fun p hp=>absurd (show p∈([]:List (Addr×Obj)) from hp) (by simp),I.hok.kept hk,?_⟩
 ·have hy:sc.names.lookup y=some .cell∨sc.names.lookup y=some .free:=hy
  rcases hy with hy|hy
  ·exact absurd rfl (S.CQ _ (PySem.mem_of_lookup hy))
  ·exact S.has y hy
 ·have h2:N'[i]? = some y:=h2
  subst eN
  cases i with
  | zero =>
   have e:x=y:=by simpa using h2
   subst e
   have e2:v=w:=by simpa [p6] using h3
   subst e2
   exact⟨u,rv,.inl ⟨S.par,by simp⟩⟩
  | succ i =>
   have hy:ys[i]? = some y:=by simpa using h2
   have h3:(ρ.map fun j=>(σ[j]?).join)[i]? = some (some w):=by simpa [p6] using h3
   rw[List.getElem?_map] at h3
   obtain⟨j,hj,e⟩:=Option.map_eq_some_iff.mp h3
   have e2:σ[j]? = some (some w):=by
    cases q:σ[j]? with
    | none=>rw[q] at e;cases e
    | some z=>rw[q] at e;exact congrArg some e
   obtain⟨n1,n2,n3⟩:=ix i j y hj hy
   obtain⟨m,hm,hl⟩:=I.loc
   have vis:Vis X.env.scope y:=by
    rcases n3 with z|z
    ·exact .inr (.inl z)
    ·exact .inr (.inr z)
   obtain⟨u2,r2,lk⟩:=hl j y w n1 e2 vis
   refine⟨u2,r2,.inr ⟨.inr n2,?_⟩⟩
   obtain⟨c,hc⟩:=S.has y n2
   refine⟨c,hc,?_⟩
   have hX:=S.clo y c hc
   rcases lk with ⟨z,_⟩|⟨_,c2,e3,ic⟩
   ·rcases n3 with y1|y1
    ·rw[z] at y1;cases y1
    ·rw[z] at y1;cases y1
   ·rw[hX] at e3;cases e3
    obtain⟨o,ho,hd⟩:=ic
    exact⟨o,hk _ _ ho,hd⟩
 ·obtain⟨v2,o,ho,hd⟩:=I.cell y c (S.clo y c e)
  exact⟨v2,o,hk _ _ ho,hd⟩
 ·subst eN
  show (p6 ρ σ v).length=(x::ys).length
  simp[p6,el]
theorem YH{u:Value}{v:V}{tb:TE}{Q:VK}(I:Inv X pins σ H s)(hA:A.frames=some X.stack)(hr:kW (k+1) A)(S:G6 X x ρ N' sc cl)
 (ho:s.heap.get? f=some (W.kla_obj "<lambda>" qual ps body sc cl pm c' ctv)) (hcd:s.heap.CodeRec (.ref c') qual)
 (hbind:bindArgs (W.kla_fn "<lambda>" qual ps body sc cl pm (.ref c') ctv) ⟨[u],[]⟩=pure [(x,u)]) (rv:RelV v u)
 (hb:∀ env:Env,kW k (A.deeper env)→env=Je qual sc s f c' cl→PE (cxL X A N' env s H) body tb) (h:tb (p6 ρ σ v) H Q) :
 wpAny (model X.prog X.w) A (call (.ref f) [u]) (CE X.stack X.prog X.w H s Q) (fun _ _=>False) s:=by
 refine wpAny_call (W.kla_callFunE hr.depth ho rfl S.co S.gen rfl hcd ?_)
 rw[hbind]
 refine wpAny_pure (wpAny_newFunctionEnv S.CQ (fun y hy=>by
  have e:y=(x,u):=by simpa using hy
  rw[e];exact S.par) (fun h1 hns hsb=>⟨(I.nolimit).fresh _ hsb,?_⟩) S.kind)
 show codeAny _ _ (.expr body (Je qual sc s f c' cl)) _ _
 have hk:∀ b o,s.heap.get? b=some o→h1.get? b=some o:=fun b o e=>hsb.extBut b o (Nat.ne_of_lt (Heap.lt_size e)) (Heap.get?_push_of_some _ e)
 have J:=YJ (tk:=s.toks+[(x,u)].length) (qual:=qual) (f:=f) (c':=c') I hA hr.hd S rv hns hk
 refine W.kla_codeExpr (wpAny_mono (hb _ (hr.deeper _) rfl [] _ (p6 ρ σ v) H Q J h) (fun k' s' hq=>?_) fun _ _ z=>z.elim)
 obtain⟨v2,H2,I2,r2,q⟩:=hq
 exact⟨v2,H2,I2.os,I2.bare,I2.base,I2.hok,r2,q⟩
end
end L2
namespace So
theorem QW:∀ {a b:List Int},a≠b→jJ a b=true∨jJ b a=true
 | [],[],h=>absurd rfl h
 | [],_::_,_=>.inl rfl
 | _::_,[],_=>.inr rfl
 | a::r,b::t,h=>by
  rw[jJ,jJ]
  by_cases e:a=b
  ·subst e
   simp only[beq_self_eq_true,if_true]
   exact QW fun z=>h (by rw[z])
  ·have e':¬ b=a:=fun z=>e z.symm
   simp only[beq_iff_eq,e,e',if_false,decide_eq_true_eq]
   omega
theorem QX:∀ {a b:List Int},jJ a b=true→jJ b a=false
 | [],[],h=>by simp[jJ] at h
 | [],_::_,_=>rfl
 | _::_,[],h=>by simp[jJ] at h
 | a::r,b::t,h=>by
  rw[jJ] at h ⊢
  by_cases e:a=b
  ·subst e
   simp only[beq_self_eq_true,if_true] at h ⊢
   exact QX h
  ·have e':¬ b=a:=fun z=>e z.symm
   simp only[beq_iff_eq,e,e',if_false,decide_eq_true_eq,decide_eq_false_iff_not] at h ⊢
   omega
theorem Wc:∀ {a b c:List Int},jJ a b=true→jJ b c=true→jJ a c=true
 | [],[],_,h,_=>by simp[jJ] at h
 | [],_::_,[],_,h=>by simp[jJ] at h
 | [],_::_,_::_,_,_=>rfl
 | _::_,[],_,h,_=>by simp[jJ] at h
 | _::_,_::_,[],_,h=>by simp[jJ] at h
 | a::r,b::t,c::u,h,k=>by
  rw[jJ] at h k ⊢
  by_cases e:a=b
  ·subst e
   simp only[beq_self_eq_true,if_true] at h
   by_cases f:a=c
   ·subst f
    simp only[beq_self_eq_true,if_true] at k ⊢
    exact Wc h k
   ·simp only[beq_iff_eq,f,if_false] at k ⊢
    exact k
  ·simp only[beq_iff_eq,e,if_false,decide_eq_true_eq] at h
   by_cases f:b=c
   ·subst f
    simp only[beq_iff_eq,e,if_false,decide_eq_true_eq]
    exact h
   ·simp only[beq_iff_eq,f,if_false,decide_eq_true_eq] at k
    have:¬ a=c:=by omega
    simp only[beq_iff_eq,this,if_false,decide_eq_true_eq]
    omega
def YF(kz:List (List Int))(i j:Nat):Bool:=jJ (kz.getD i []) (kz.getD j [])
theorem Ja{kz:List (List Int)}(nd:kz.Nodup):Ord kz.length (YF kz):=by
 have inj:∀ i j,i < kz.length→j < kz.length→i≠j→kz.getD i []≠kz.getD j []:=fun i j hi hj ne e=>by
  rw[List.getD_eq_getElem?_getD,List.getElem?_eq_getElem hi,List.getD_eq_getElem?_getD,List.getElem?_eq_getElem hj] at e
  exact ne ((List.getElem_inj nd).mp e)
 exact⟨fun i j hi hj ne=>QW (inj i j hi hj ne),fun i j _ _ h=>QX h,fun i j k _ _ _ h g=>Wc h g⟩
def Qf{α : Type}(d:α)(kz:List (List Int))(xs ys:List α):Prop:=∃ p:Array Nat,Pm xs.length p∧Sd (YF kz) p xs.length∧ys=p.toList.map fun i=>xs.getD i d
end So
namespace L2
open PySem PySem.Spec PyProof.Rows A So
variable[Tb:jb]
def Tab(T:Addr)(q:Str)(H H':Hp):Prop:=H'=H∨∃ ps ps' c,H T=some (.tbl q ps)∧H c=none∧c≠T∧H'=upd (upd H T (.tbl q ps')) c (.ext (pC c q))∧kY H'
theorem Hx{c:Value}{p:Pos}:∀ {l:List Value},TriplesOk l→TriplesOk (l++[rawInt p.line,rawInt p.col,c]):=fun {l} h=>by
 fun_induction TriplesOk l with
 | case1=>exact trivial
 | case2 a b c' d e rest ih=>exact ih h
 | case3 _ _=>exact h.elim
theorem Qd{c v:Value}{p p2:Pos}:∀ {l:List Value},TriplesOk l→codeAmong p2 (l++[rawInt p.line,rawInt p.col,c])=some v→codeAmong p2 l=some v∨v=c:=fun {l} h e=>by
 fun_induction TriplesOk l with
 | case1 =>
  simp only[List.nil_append,codeAmong,rawInt] at e
  split at e
  ·exact .inr (by cases e;rfl)
  ·cases e
 | case2 a b c' d e' rest ih =>
  simp only[List.cons_append,codeAmong] at e ⊢
  split at e
  ·rename_i q
   rw[if_pos q];exact .inl e
  ·rename_i q
   rw[if_neg q];exact ih h e
 | case3 _ _=>exact h.elim
def BM(mg:Str→Option Value)(base:Heap):Prop:=∃ bm o,mg "__builtins__" = some (.ref bm)∧bm≠builtinsNs∧bm≠mainGlobals∧base.get? bm=some o∧o.cls=.type "module" ∧ o.dict=some builtinsNs∧o.data=.plain
section
variable{X:Cx}{pins:List (Addr×Obj)}{σ : St}{H:Hp}{s:Shared}{qual x:Str}{ps:Arguments}{body:Expr}{sc:Scope}{cl:List (Str×Addr)}{c T:Addr}{pos:Pos}
theorem PK(c:Addr)(q:Str):∀ h1 h2:Heap,pC c q h1→(∀ o,h1.get? c=some o→h2.get? c=some o)→pC c q h2:=fun h1 h2 ⟨o,vs,t,e,d,r⟩ k=>⟨o,vs,t,k o e,d,r⟩
theorem Wg{Q:Value→Shared→Prop}{E:Value→Shared→Prop}(I:Inv X pins σ H s)(hc:X.env.code=.ref c)(C:W.CodeHd X.base c T)(k:kY H){tps:Array Value}(hT:H T=some (.tbl qual tps))(hB:BM X.mg X.base)
 (hdef:defaultsOf ps X.env=([],[])) (hq:X.env.qual ++ "<lambda>" = qual) (hcl:closureFor sc X.env=pure cl)
 (h:∀ f c' ctv pm s' H',Tab T qual H H'→H' c'=some (.ext (pC c' qual))→s'.heap.get? f=some (W.kla_obj "<lambda>" qual ps body sc cl pm c' ctv)→Inv X pins σ H' s'→rJ X pins H' f→Q (.ref f) s') :
 wpAny (model X.prog X.w) X.A (eval (.Lambda ps body sc pos) X.env) Q E s:=by
 obtain⟨ok1,ok2⟩:=k.cd T qual tps hT
 have hP:s.heap.get? T=some (W.tabObj tps):=I.hok T _ hT
 have hg:s.heap.Ns mainGlobals X.mg:=I.mod.glob.keeps I.bk
 have C':W.CodeHd s.heap c T:=C.keeps I.bk
 obtain⟨bm,bo,b1,b2,b3,b4,b5,b6,b7⟩:=hB
 have nT:∀ b o,X.base.get? b=some o→b≠T:=fun b o e z=>by
  have:=(I.bs b o e).2
  rw[z,hT] at this;cases this
 have hb:s.heap.BuiltinsAt X.mg T:=⟨bm,bo,b1,b2,b3,nT _ _ b4,I.bk _ _ b4,b5,b6,b7⟩
 have hgT:mainGlobals≠T:=by
  obtain⟨o,es,ep,e,_⟩:=I.mod.glob
  exact nT _ _ e
 refine W.kla_eval hdef ?_
 rw[hq]
 cases hf:codeAmong pos tps.toList with
 | some v =>
  obtain⟨c',rfl,hc'⟩:=ok2 pos v hf
  refine W.kla_makeFunctionHit hcl I.ok.glob hg hc C' hP ok1 hf hb fun ctv h' tk kp sz=>?_
  have I':Inv X pins σ H { s with heap:=h'.push _,toks:=tk }:=I.kept (h':=h'.push (W.kla_obj "<lambda>" qual ps body sc cl ((X.mg "__name__").getD .none) c' ctv)) fun b o e=>Heap.get?_push_of_some _ (kp b o e)
  exact h _ c' ctv _ _ H (.inl rfl) hc' (Heap.get?_push_size _ rfl) I' (I.xT sz (I.hok.fresh sz))
 | none =>
  refine W.kla_makeFunction hcl I.ok.glob hg hc C' hP ok1 hf hgT hb fun c' ctv h' tk kp h1 h2 hrec htb=>?_
  have nc:H c'=none:=I.hok.fresh h1
  have cT:c'≠T:=fun z=>by rw[z,hT] at nc;cases nc
  have hx:pC c' qual h':=by
   obtain⟨c2,o,vs,t,e,r⟩:=hrec
   cases e
   exact⟨o,vs,t,r⟩
  obtain⟨oc,hoc⟩ : ∃ o,h'.get? c'=some o:=let ⟨o,_,_,e,_⟩:=hx;⟨o,e⟩
  have u1:Un X.fs [] H (upd H T (.tbl qual (tps ++ #[rawInt pos.line,rawInt pos.col,.ref c']))) s.heap h':=by
   have nn:∀ b,H b=none→b≠T:=fun b n z=>by rw[z,hT] at n;cases n
   refine⟨fun b o e n _ _=>kp b o (nn b n) e,fun b o e n _ _=>⟨o.slots,kp b o (nn b n) e⟩,fun b o e n _=>by rw[aN (nn b n)];exact n,fun b o e _=>?_,fun b xs e=>?_,fun b o u e=>?_,fun b w ps e=>?_⟩
   ·by_cases z:b=T
    ·rw[z];exact⟨_,htb⟩
    ·exact⟨o,kp b o z e⟩
   ·rw[aN (fun z=>by rw[z,hT] at e;cases e)];exact e
   ·rw[aN (fun z=>by rw[z,hT] at e;cases e)];exact e
   ·by_cases z:b=T
    ·subst z
     rw[hT] at e;cases e
     exact⟨_,bc⟩
    ·exact⟨#[],by rw[aN z,e];simp⟩
  have aeF:rN X.prog X.w (upd H T (.tbl qual (tps ++ #[rawInt pos.line,rawInt pos.col,.ref c']))) h':=fun b u e=>by
   by_cases z:b=T
   ·subst z;rw[bc] at e;cases e;exact htb
   ·rw[aN z] at e
    refine(I.hok b u e).stay (fun y v hy q=>kp y v ?_ q) (fun y q=>by rw[aN (fun w=>by rw[w,hT] at q;cases q)];exact q) fun y xs q=>by rw[aN (fun w=>by rw[w,hT] at q;cases q)];exact q
    rcases hy with w|w
    ·rw[w];exact z
    ·exact fun w2=>by rw[w2,hT] at w;cases w
  have I1:Inv X pins σ (upd H T (.tbl qual (tps ++ #[rawInt pos.line,rawInt pos.col,.ref c']))) { s with heap:=h',toks:=tk }:=I.un u1 aeF
  have nc1:upd H T (.tbl qual (tps ++ #[rawInt pos.line,rawInt pos.col,.ref c'])) c'=none:=by rw[aN cT];exact nc
  have I2:Inv X pins σ (upd (upd H T (.tbl qual (tps ++ #[rawInt pos.line,rawInt pos.col,.ref c']))) c' (.ext (pC c' qual))) { s with heap:=h',toks:=tk }:=by
   have F:rJ X pins (upd H T (.tbl qual (tps ++ #[rawInt pos.line,rawInt pos.col,.ref c']))) c':=⟨nc1,(I.xT (H':=H) h1 nc).2⟩
   have VM:∀ b u,(upd H T (.tbl qual (tps ++ #[rawInt pos.line,rawInt pos.col,.ref c']))) b=some u→b≠c':=fun b u e=>bh e nc1
   refine I1.call' (s':={ s with heap:=h',toks:=tk }) (ch:=[c']) rfl ⟨fun b u e _ _ _=>e,fun b u e _ _ _=>⟨u.slots,e⟩,fun b u e n hb=>?_,fun b u e hb=>⟨u,e⟩,fun b xs e=>by rw[aN (VM _ _ e)];exact e,fun b q u e=>by rw[aN (VM _ _ e)];exact e,fun b w ps e=>⟨#[],by rw[aN (VM _ _ e),e];simp⟩⟩ ?_ I.bare
    fun b hb=>by
     obtain rfl:b=c':=by simpa using hb
     exact⟨F.2.2.2.1,F.2.1,F.2.2.2.2.1,F.2.2.2.2.2⟩
   ·rw[aN (fun z=>hb (by simp[z]))];exact n
   ·intro b u e
    by_cases z:b=c'
    ·subst z;rw[bc] at e;cases e
     exact⟨hx,⟨oc,hoc⟩,PK b qual⟩
    ·rw[aN z] at e
     exact(I1.hok b u e).stay (fun y v hy q=>q) (fun y q=>by rw[aN (VM _ _ q)];exact q) fun y xs q=>by rw[aN (VM _ _ q)];exact q
  have adq:∀ b o,h'.get? b=some o→(h'.push (W.kla_obj "<lambda>" qual ps body sc cl ((X.mg "__name__").getD .none) c' ctv)).get? b=some o:=fun b o e=>Heap.get?_push_of_some _ e
  have I3:=I2.kept (t':=tk) adq
  have szs:s.heap.objs.size≤h'.objs.size:=Nat.le_trans h1 (Nat.le_of_lt h2)
  have ck:kY (upd (upd H T (.tbl qual (tps ++ #[rawInt pos.line,rawInt pos.col,.ref c']))) c' (.ext (pC c' qual))):=by
   have nT':∀ {b:Addr} {o:HO},H b=some o→NT o→upd (upd H T (.tbl qual (tps ++ #[rawInt pos.line,rawInt pos.col,.ref c']))) c' (.ext (pC c' qual)) b=some o:=fun {b o} e n=>by
    rw[aN (bh e nc),aN (fun z=>by rw[z,hT] at e;cases e;exact n)];exact e
   refine⟨fun r hr=>?_,fun T2 q2 ps2 e=>?_⟩
   ·obtain⟨p0,e0⟩:=k.has r hr
    by_cases z:r.1=T
    ·rw[z,hT] at e0
     have:qual=r.2:=by injection e0 with e0;injection e0
     exact⟨_,by rw[aN (by rw[z];exact Ne.symm cT),z,bc,this]⟩
    ·exact⟨p0,by rw[aN (bh e0 nc),aN z];exact e0⟩
   ·by_cases z:T2=c'
    ·subst z;rw[bc] at e;cases e
    ·rw[aN z] at e
     by_cases z2:T2=T
     ·subst z2
      rw[bc] at e
      have e1:qual=q2:=by injection e with e;injection e
      have e2:tps ++ #[rawInt pos.line,rawInt pos.col,.ref c']=ps2:=by injection e with e;injection e
      subst e1 e2
      refine⟨by rw[Array.toList_append];exact Hx ok1,fun p2 v hv=>?_⟩
      rw[Array.toList_append] at hv
      rcases Qd ok1 hv with q|q
      ·obtain⟨y,y1,y2⟩:=ok2 p2 v q
       exact⟨y,y1,nT' y2 trivial⟩
      ·exact⟨c',q,bc⟩
     ·rw[aN z2] at e
      obtain⟨t1,t2⟩:=k.cd T2 q2 ps2 e
      refine⟨t1,fun p2 v hv=>?_⟩
      obtain⟨y,y1,y2⟩:=t2 p2 v hv
      exact⟨y,y1,nT' y2 trivial⟩
  refine h h'.objs.size c' ctv _ _ _ (.inr ⟨tps,_,c',hT,nc,cT,rfl,ck⟩) bc (Heap.get?_push_size _ rfl) I3 ?_
  refine I.xT szs ?_
  rw[aN (Nat.ne_of_gt h2),aN (fun z=>?_)]
  ·exact I.hok.fresh szs
  ·have:=I.hok.fresh szs
   rw[z,hT] at this;cases this
end
end L2
namespace L2
open PySem PySem.Spec PyProof.Rows A So
variable[Tb:jb]
section
variable{X:Cx}{pins:List (Addr×Obj)}{σ : St}{H:Hp}{s:Shared}
theorem adopt{fp:List Addr}{D:Addr}{o:HO}{h':Heap}{t':Nat}(I:Inv X pins σ H s)(hf:∀ b∈fp,rJ X pins H b)(hD:D∈fp)(k:∀ b u,b∉fp→s.heap.get? b=some u→h'.get? b=some u)
 (new:dZ X.prog X.w (upd H D o) h' D o):Inv X pins σ (upd H D o) { s with heap:=h',toks:=t' }:=by
 have hn:H D=none:=(hf D hD).1
 have nfp:∀ b u,H b=some u→b∉fp:=fun b u e z=>by rw[(hf b z).1] at e;cases e
 refine I.call' (s':={ s with heap:=h',toks:=t' }) (ch:=fp) rfl ⟨fun b u e _ _ hb=>k b u hb e,fun b u e _ _ hb=>⟨u.slots,k b u hb e⟩,fun b u e hb hx=>?_,fun b u e hb=>⟨u,k b u hb e⟩,fun b xs e=>?_,fun b q u e=>?_,fun b w ps e=>⟨#[],?_⟩⟩ ?_ I.bare
  fun b hb=>⟨(hf b hb).2.2.2.1,(hf b hb).2.1,(hf b hb).2.2.2.2.1,(hf b hb).2.2.2.2.2⟩
 ·rw[aN (fun z=>hx (by rw[z];exact hD))];exact hb
 ·rw[aN (bh e hn)];exact e
 ·rw[aN (bh e hn)];exact e
 ·rw[aN (bh e hn),e];simp
 ·intro b u e
  by_cases hb:b=D
  ·subst hb;rw[bc] at e;cases e;exact new
  ·rw[aN hb] at e
   refine(I.hok b u e).stay (fun c v hc q=>k c v ?_ q) (fun c q=>by rw[aN (bh q hn)];exact q) fun c xs q=>by rw[aN (bh q hn)];exact q
   rcases hc with z|z
   ·rw[z];exact nfp b u e
   ·exact nfp c _ z
theorem Bv:∀ {ns:List Int} {its:List Value},Vals (ns.map V.int) its→IntsAre its ns
 | [],_,.nil=>.nil
 | n::r,_,.cons h t=>by
  obtain⟨t1,rfl⟩:=h
  exact .cons n t1 (Bv t)
end
def JS(c':Addr)(q:Str)(tk:V→Hp→VK→Prop):List V→Hp→(List V→Hp→Prop)→Prop
 | [],H,R=>R [] H
 | x::xs,H,R=>tk x H fun k H1=>H1 c'=some (.ext (pC c' q))∧JS c' q tk xs H1 fun ks H2=>R (k::ks) H2
def KeysAre(H:Hp)(kz:List (List Int))(ks:List V):Prop:=P2 (fun z k=>∃ p,k=V.ref p∧H p=some (.lst (z.map V.int))) kz ks
def acA(T:Addr)(q:Str)(ρ : List Nat)(σ : St)(tb:TE)(Q:VK):VK:=fun x H1=>∃ a xs tps,x=.ref a∧xs.length < 64∧H1 T=some (.tbl q tps)∧kY H1 ∧
 ∀ H2 c',Tab T q H1 H2→H2 c'=some (.ext (pC c' q))→Lst H2 a xs∧JS c' q (fun v H K=>tb (p6 ρ σ v) H K) xs H2 fun ks H3=>∃ kz:List (List Int),kz.length=xs.length∧kz.Nodup∧KeysAre H3 kz ks ∧
  ∀ p ys,H3 p=none→Qf .non kz xs ys→Q (.ref p) (upd H3 p (.lst ys))
def UL(T:Addr)(q:Str)(ρ : List Nat)(te tb:TE):TE:=fun σ H Q=>te σ H (acA T q ρ σ tb Q)
theorem RT{kz:List (List Int)}{xs:List V}{its out:List Value}(r:Vals xs its)(hz:kz.length=xs.length)(h:wH (YF kz) its out):∃ ys,Qf .non kz xs ys∧Vals ys out:=by
 obtain⟨p,pm,sd,rfl⟩:=h
 have hl:=r.length
 rw[← hl] at pm sd
 refine⟨p.toList.map fun i=>xs.getD i .non,⟨p,pm,sd,rfl⟩,?_⟩
 have key:∀ l:List Nat,(∀ i∈l,i < xs.length)→Vals (l.map fun i=>xs.getD i .non) (l.map fun i=>its.getD i Value.none):=fun l hl'=>by
  induction l with
  | nil=>exact .nil
  | cons i t ih =>
   have hi:=hl' i List.mem_cons_self
   refine .cons ?_ (ih fun j hj=>hl' j (List.mem_cons_of_mem _ hj))
   have e1:xs[i]? = some (xs.getD i .non):=by simp[hi]
   obtain⟨u,e2,r2⟩:=r.get e1
   have:its.getD i Value.none=u:=by simp[e2]
   show RelV (xs.getD i .non) (its.getD i Value.none)
   rw[this];exact r2
 refine key _ fun i hi=>?_
 have:=(Array.perm_iff_toList_perm.mp pm.pm).mem_iff.mp hi
 simpa using this
section
variable{X:Cx}{x qual:Str}{e:Expr}{ps:Arguments}{body:Expr}{sc:Scope}{cl:List (Str×Addr)}{c T:Addr}{p pos adk aey:Pos}{k:Nat}{ρ : List Nat}{N':List Str}{te tb:TE}
theorem Vx(hg:Gl X "sorted")(hm:X.mg "sorted" = none)(he:PE X e te)(hr:kW (k+3) X.A)(hc:X.env.code=.ref c)(C:W.CodeHd X.base c T)(hB:BM X.mg X.base)(hdef:defaultsOf ps X.env=([],[]))(hq:X.env.qual ++ "<lambda>" = qual)(hcl:closureFor sc X.env=pure cl)
 (S:G6 X x ρ N' sc cl) (hbind:∀ (pm:Value) (c':Addr) (ctv u:Value),bindArgs (W.kla_fn "<lambda>" qual ps body sc cl pm (.ref c') ctv) ⟨[u],[]⟩=pure [(x,u)])
 (hb:∀ (A:Around) (f c':Addr) (s:Shared) (H:Hp) (env:Env),kW k (A.deeper env)→env=Je qual sc s f c' cl→PE (cxL X A N' env s H) body tb)
 (hs:starEach [e] X.env=(false,eval e X.env)::starEach [] X.env:=by rfl) (hpl:(backTo pos (starEach [e] X.env)).any (·.1)=false:=by rfl) :
 PE X (.Call (.Name "sorted" p) [e] [⟨some "key", .Lambda ps body sc adk,aey⟩] pos) (UL T qual ρ te tb):=by
 intro pins s σ H Q I h
 have hboot:bootBuiltins "sorted" = some (.builtin "sorted"):=by kernel_rfl
 refine wpAny_Call_Name_kw (yN I hg hm hboot ?_)
 refine callWith_kw ?_ (by rw[hs];rfl) hpl rfl rfl
 rw[hs]
 show wpAny _ _ (spliced ((false,eval e X.env)::backTo pos (starEach [] X.env))) _ _ s
 refine Calls.spliced_cons (gW (he pins s σ H _ I h) fun u s1 ⟨x1,H1,I1,r1,q1⟩=>Calls.spliced_nil ?_)
 obtain⟨a,xs,tps,rfl,h64,hT,ck,q2⟩:=q1
 cases r1
 show wpAny _ _ (evalAll ((do let v ← eval (.Lambda ps body sc adk) X.env;standAt pos;pure v)::((backToKw pos (keywordEach [] X.env)).map (·.2)))) _ _ s1
 refine wpAny_evalAll_cons (wpAny_bind (Wg I1 hc C ck hT hB hdef hq hcl fun f c' ctv pm s2 H2 tab hc' hf I2 fpf=>wpAny_bind (wpAny_standAt (wpAny_pure (wpAny_evalAll_nil ?_)))))
 obtain⟨hl2,kr⟩:=q2 H2 c' tab hc'
 show wpAny (model X.prog X.w) X.A (call (.builtin "sorted") [.ref a] [(Str.ofString "key", .ref f)]) (EP X pins σ Q) X.xe s2
 obtain⟨its,n0,rv,hz,ho⟩:=Pb I2 hl2
 have hli:=rv.length
 let Fn:List V→Hp→Prop:=fun ks H3=>∃ kz:List (List Int),kz.length=xs.length∧kz.Nodup∧KeysAre H3 kz ks∧∀ p ys,H3 p=none→Qf .non kz xs ys→Q (.ref p) (upd H3 p (.lst ys))
 have flt:f < s2.heap.objs.size:=Heap.lt_size hf
 have fnt:f∉tm s2.heap.objs.size:=fun z=>by
  simp only[tm,List.mem_cons,List.not_mem_nil,or_false] at z
  have:(f:Nat) < s2.heap.objs.size:=flt
  rcases z with z|z|z|z
  ·exact absurd this (by rw[z];exact Nat.lt_irrefl _)
  ·exact absurd this (by rw[z];exact Nat.not_lt.mpr (Nat.le_add_right _ _))
  ·exact absurd this (by rw[z];exact Nat.not_lt.mpr (Nat.le_add_right _ _))
  ·exact absurd this (by rw[z];exact Nat.not_lt.mpr (Nat.le_add_right _ _))
 refine HB (vs:=its) (J:=fun ks s3=>∃ Hc kv,Inv X pins σ Hc s3∧Vals kv ks∧s3.heap.get? f=some (W.kla_obj "<lambda>" qual ps body sc cl pm c' ctv)∧rJ X pins Hc f∧(∀ b∈tm s2.heap.objs.size,rJ X pins Hc b∧∃ o,s3.heap.get? b=some o) ∧
  Hc c'=some (.ext (pC c' qual))∧JS c' qual (fun v H K=>tb (p6 ρ σ v) H K) (xs.drop ks.length) Hc fun ks' H3=>Fn (kv++ks') H3) ⟨_,ho,rfl,_,rfl⟩ (by omega) ?j0 ?jk ?jc ?je
 case j0 =>
  intro h' kp ex
  refine⟨H2,[],I2.kept kp,.nil,kp _ _ hf,fpf,fun b hb=>⟨I2.xT ?_ (I2.hok.fresh ?_),ex b hb⟩,hc',kr⟩
  all_goals (simp only[tm,List.mem_cons,List.not_mem_nil,or_false] at hb;rcases hb with z|z|z|z<;>rw[z]<;>first|exact Nat.le_refl _|exact Nat.le_add_right _ _)
 case jk =>
  rintro ks s3 h' ⟨Hc,kv,I3,rk,hf3,fp3,tm3,hc3,kr3⟩ kp ex
  refine⟨Hc,kv,By (t':=s3.toks) I3 (fp:=tm s2.heap.objs.size) (fun b hb=>(tm3 b hb).1) (fun b u hb q=>kp b u hb q),rk,kp _ _ fnt hf3,fp3,fun b hb=>⟨(tm3 b hb).1,?_⟩,hc3,kr3⟩
  obtain⟨o,q⟩:=(tm3 b hb).2
  exact ex b o q
 case jc =>
  rintro i u ks s3 hu hks ⟨Hc,kv,I3,rk,hf3,fp3,tm3,hc3,kr3⟩
  obtain⟨v,hv,ruv⟩ : ∃ v,xs[i]? = some v∧RelV v u:=by
   have hi:i < xs.length:=by rw[hli];exact(List.getElem?_eq_some_iff.mp hu).1
   have e1:xs[i]? = some xs[i]:=by simp[hi]
   obtain⟨u2,e2,r2⟩:=rv.get e1
   rw[hu] at e2;cases e2
   exact⟨_,e1,r2⟩
  have hd:xs.drop ks.length=v::xs.drop (ks.length+1):=by
   obtain⟨hi,e⟩:=List.getElem?_eq_some_iff.mp hv
   rw[hks,List.drop_eq_getElem_cons hi,e]
  rw[hd] at kr3
  have hrec:s3.heap.CodeRec (.ref c') qual:=by
   obtain⟨⟨o,vs,t,e1,e2,e3⟩,_⟩:=I3.hok c' _ hc3
   exact⟨c',o,vs,t,rfl,e1,e2,e3⟩
  have hA:X.A.in1.in1.frames=some X.stack:=I3.ok.frames
  refine wpAny_mono (YH (k:=k) I3 hA hr.in1.in1 S hf3 hrec (hbind pm c' ctv u) ruv (fun env h1 h2=>hb _ f c' s3 Hc env h1 h2) kr3) (fun kk s4 hce=>?_) fun _ _ z=>z
  have afb:=hce
  obtain⟨kvv,H4,os4,adN,un4,aeE,rk4,hc4,kr4⟩:=hce
  have noF:∀ b,rJ X pins Hc b→b∉frs X.stack:=fun b hb z=>by
   rcases List.mem_cons.mp (I3.Hy b z) with y|y
   ·exact hb.2.1 y
   ·exact hb.2.2.1 y
  have I4:Inv X pins σ H4 s4:=I3.call' os4 (ch:=[]) un4 aeE adN (fun b z=>absurd z (by simp))
  have fpk:∀ b,rJ X pins Hc b→(∃ o,s3.heap.get? b=some o)→rJ X pins H4 b:=fun b hb ⟨o,q⟩=>⟨un4.free b o q hb.1 (by simp),hb.2⟩
  refine⟨⟨H4,kv++[kvv],I4,rk.append (.cons rk4 .nil),un4.keep _ _ hf3 fp3.1 (noF _ fp3) (by simp),fpk f fp3 ⟨_,hf3⟩,fun b hb=>⟨fpk b (tm3 b hb).1 (tm3 b hb).2,?_⟩,hc4,?_⟩,fun b o hb q=>un4.keep b o q (tm3 b hb).1.1 (noF _ (tm3 b hb).1) (by simp)⟩
  ·obtain⟨o,q⟩:=(tm3 b hb).2
   exact un4.there b o q (by simp)
  ·rw[List.length_append]
   simp only[List.append_assoc,List.singleton_append]
   exact kr4
 case je =>
  rintro ks s3 hks ⟨Hc,kv,I3,rk,hf3,fp3,tm3,hc3,kr3⟩
  rw[List.drop_eq_nil_of_le (by omega)] at kr3
  obtain⟨kz,hz1,nd,ka,fin⟩:=kr3
  rw[List.append_nil] at ka
  have lk:=rk.length
  have at_:∀ i,i < its.length→∃ pp o us nn,ks.getD i Value.none=.ref pp∧s3.heap.get? pp=some o∧o.cls=.type "list" ∧ o.data=.seq (List.toArray us) nn∧IntsAre us (kz.getD i []):=fun i hi=>by
   have hzi:i < kz.length:=by omega
   have e1:kz[i]? = some (kz.getD i []):=by simp[hzi]
   obtain⟨kvi,e2,pp,rfl,hp⟩:=P2.getL ka e1
   obtain⟨u,e3,r3⟩:=rk.get e2
   cases r3
   obtain⟨_,us,nn,vu,ho⟩:=I3.hok pp _ hp
   exact⟨pp,_,us,nn,by simp[e3],ho,rfl,rfl,Bv vu⟩
  have hord:=Ja nd
  rw[hz1,hli] at hord
  refine⟨YF kz,hord,fun h2 Q' hq'=>?_,fun i j C hi hj hC=>?_,fun out h' cc so kp ex hD=>?_⟩
  ·refine W.kas_kind (T:=Value.type "list") (by omega) (fun v hv=>?_) (by decide) (by decide) hq'
   obtain⟨i,hi⟩:=List.getElem?_of_mem hv
   have hil:=(List.getElem?_eq_some_iff.mp hi).1
   obtain⟨pp,o,us,nn,e1,e2,e3,_⟩:=at_ i (by omega)
   have:v=.ref pp:=by
    rw[← e1];simp[hi]
   rw[this,← e3]
   exact(W.Looks.ld e2).andThen .now
  ·obtain⟨p1,o1,us1,n1,a1,a2,a3,a4,a5⟩:=at_ i hi
   obtain⟨p2,o2,us2,n2,b1,b2,b3,b4,b5⟩:=at_ j hj
   unfold W.kas_ask
   rw[a1,b1]
   exact V8 a2 a3 a4 b2 b3 b4 a5 b5 (by have:=hr.un;show X.A.units+1+1 < cLine;omega) hC
  ·obtain⟨ys,sy,vy⟩:=RT rv hz1 so
   have hD':s2.heap.objs.size+1∈tm s2.heap.objs.size:=by simp[tm]
   have ly:ys.length=xs.length:=by rw[vy.length,so.len,hli]
   have nD:Hc (s2.heap.objs.size+1)=none:=(tm3 _ hD').1.1
   refine⟨.ref (s2.heap.objs.size+1),_,adopt (t':=s3.toks) (o:=.lst ys) I3 (fun b hb=>(tm3 b hb).1) hD' (fun b u hb q=>kp b u hb q) ⟨by rw[ly];exact hz,out,cc,vy,hD⟩,rfl,fin _ ys nD sy⟩
end
end L2
namespace Mi
open PySem
def ZJ:D→Option (List Str)
 | .tup ds=>pH ds
 | .lst ds=>pH ds
 | _=>none
def W0(x y:D):Rs D:=match y with
 | .str z=>(t8 (ZJ x)).bind fun ys=>aU (z∈ys∧ys.length≤1000) (.ok (.int (ys.idxOf z:Nat)))
 | _=>.no
def pP:List Int→List Int→Bool
 | [],[]=>false
 | [],_::_=>true
 | _::_,[]=>false
 | a::r,b::t=>if a == b then pP r t else decide (a < b)
def Er:List D→Option (List Int)
 | []=>some []
 | .int i::r=>(Er r).map (i :: ·)
 | _=>none
def Nj:D→Rs (List Int)
 | .lst ds=>t8 (Er ds)
 | _=>.no
def insI(lt:Nat→Nat→Bool)(i:Nat):List Nat→List Nat
 | []=>[i]
 | j::r=>if lt i j=true then i::j::r else j::insI lt i r
def sortI(lt:Nat→Nat→Bool):List Nat→List Nat
 | []=>[]
 | i::r=>insI lt i (sortI lt r)
def Ak(kz:List (List Int))(n:Nat):List Nat:=sortI (fun i j=>pP (kz.getD i []) (kz.getD j [])) (List.range n)
def sortBy(kz:List (List Int))(ds:List D):List D:=(Ak kz ds.length).map fun i=>ds.getD i .non
def Jf(ρ : List Nat)(e:Env)(d:D):Env:=some (.d d) :: ρ.map fun j=>(e[j]?).join
def rn(ρ : List Nat)(kf:E)(e:Env):List D→Rs (List (List Int))
 | []=>.ok []
 | d::r=>(kf (Jf ρ e d)).bind fun k=>(Nj k).bind fun z=>(rn ρ kf e r).bind fun zs=>.ok (z::zs)
def IW(ρ : List Nat)(a kf:E):E:=fun e=>(a e).bind fun x=>(Gn x).bind fun ds=>aU (ds.length < 64) ((rn ρ kf e ds).bind fun kz=>aU kz.Nodup (.ok (.lst (sortBy kz ds))))
end Mi
namespace A
open PySem L2 PyProof.Rows
open Mi (D W Rs Fin az Out Tg)
variable[Tb:jb]
section
variable{prog:Program}{w:World}{Ar:Around}
theorem uU(x y:Str)(t u:Tok):PySem.MeetsSeq.EqGives (.str x t) (.str y u) (x.cps.toList == y.cps.toList):=PySem.SeqRoads2.EqGives.str x y t u
theorem wX{ys:List Str}{us:List Value}(r:Vals (ys.map V.str) us){i:Nat}(h:i < ys.length):∃ t,us[i]? = some (.str (ys.getD i Str.empty) t):=by
 have e:(ys.map V.str)[i]? = some (.str (ys.getD i Str.empty)):=by simp[h]
 obtain⟨u,e2,r2⟩:=r.get e
 obtain⟨t,rfl⟩:=r2
 exact⟨t,e2⟩
theorem LC{ys:List Str}{z:Str}(h:z∈ys):ys.idxOf z < ys.length∧ys.getD (ys.idxOf z) Str.empty=z∧∀ m,m < ys.idxOf z→ys.getD m Str.empty≠z:=by
 have hl:=List.idxOf_lt_length_of_mem h
 refine⟨hl,by simp[hl],fun m hm e=>?_⟩
 have:m < ys.length:=Nat.lt_trans hm hl
 have e2:ys[m]=z:=by simpa [this] using e
 have:=List.not_of_lt_findIdx (p:=(· == z)) (xs:=ys) (i:=m) hm
 simp[e2] at this
theorem Y0{E:Value→Shared→Prop}{s:Shared}{t:Addr}{us:List Value}{ys:List Str}{z:Str}{tz:Tok}{Q:Value→Shared→Prop}(ht:IsTup s.heap t us.toArray)(r:Vals (ys.map V.str) us)(hz:z∈ys)
 (h:Q (.int (ys.idxOf z:Nat) s.toks) { s with toks:=s.toks+1 }):wpAny (model prog w) Ar (call (.builtin "tuple.index") [.ref t,.str z tz]) Q E s:=by
 obtain⟨h1,h2,h3⟩:=LC hz
 have hl:=r.length
 rw[List.length_map] at hl
 refine wpAny_call_entry PySem.F.slot_tuple_index ht.typeIs PySem.F.entry_tuple_index ?_ (PySem.F.args_tuple_index_2 _ _)
 show wpAny _ _ (Builtin.Tuple.tupleItemsOf (.ref t) >>= _) _ _ s
 refine wpAny_bind (tupleItemsOf_ ht ?_)
 refine wpAny_bind (wpAny_pure (wpAny_bind (wpAny_pure ?_)))
 dsimp only
 rw[Std.Legacy.Range.forIn_eq_forIn_range']
 have hsz:([0:min us.toArray.size us.toArray.size]:Std.Legacy.Range).size=us.length:=by simp[Std.Legacy.Range.size]
 rw[hsz]
 show wpAny _ _ (forIn (List.range' 0 us.length 1) _ _ >>= _) _ _ _
 have go:∀ (k i:Nat),ys.idxOf z=i+k→∀ (G:Option PySem.Fin×Unit→Shared→Prop),G (some (.done (.ret (.int (ys.idxOf z:Nat) s.toks))),()) { s with toks:=s.toks+1 } →
  wpAny (model prog w) Ar.in1 (forIn (List.range' i (us.length - i) 1) ((none, ()) : Option PySem.Fin × Unit) fun (i : Nat) (__s : Option PySem.Fin × Unit) => (match us.toArray[i]? with
          | some y=>do
           let b ← eqBool y (Value.str z tz)
           if b=true then do
            let r ← retInt (i:Int)
            pure (ForInStep.done (some r,()))
            else pure (ForInStep.yield (none,()))
          | x=>pure (ForInStep.yield (none,())):Sem (ForInStep (Option PySem.Fin×Unit)))) G E s:=by
  intro k
  induction k with
  | zero =>
   intro i hi G hG
   have hlt:i < us.length:=by omega
   obtain⟨t1,e1⟩:=wX r (i:=i) (by omega)
   rw[show us.length - i=(us.length - i - 1)+1 by omega,List.range'_succ,List.forIn_cons]
   have e2:us.toArray[i]? = some (.str (ys.getD i Str.empty) t1):=by simpa using e1
   rw[e2]
   have hz2:ys.getD i Str.empty=z:=by rw[← h2,hi];rfl
   rw[hz2]
   refine wpAny_bind (wpAny_bind (uU z z t1 tz prog w _ _ _ _ ?_))
   simp only[beq_self_eq_true,if_true]
   refine wpAny_bind (wpAny_bind (wpAny_mkInt (wpAny_pure (wpAny_pure ?_))))
   rw[show (i:Nat)=ys.idxOf z from hi.symm]
   exact wpAny_pure hG
  | succ k ih =>
   intro i hi G hG
   have hlt:i < us.length:=by omega
   obtain⟨t1,e1⟩:=wX r (i:=i) (by omega)
   rw[show us.length - i=(us.length - (i+1))+1 by omega,List.range'_succ,List.forIn_cons]
   have e2:us.toArray[i]? = some (.str (ys.getD i Str.empty) t1):=by simpa using e1
   rw[e2]
   have hz2:=h3 i (by omega)
   refine wpAny_bind (wpAny_bind (uU _ z t1 tz prog w _ _ _ _ ?_))
   have:((ys.getD i Str.empty).cps.toList == z.cps.toList)=false:=by
    rw[beq_eq_false_iff_ne]
    intro e
    apply hz2
    cases hq:ys.getD i Str.empty with
    | mk c=>cases z with
     | mk d =>
      rw[hq] at e
      have:c=d:=Array.toList_inj.mp e
      rw[this]
   rw[this]
   simp only[Bool.false_eq_true,if_false]
   exact wpAny_pure (ih (i+1) (by omega) G hG)
 refine wpAny_bind (go (ys.idxOf z) 0 (by omega) _ ?_)
 exact wpAny_pure ⟨_,rfl,h⟩
theorem Y4{E:Value→Shared→Prop}{s:Shared}{t:Addr}{us:List Value}{ys:List Str}{z:Str}{tz:Tok}{n:Nat}{Q:Value→Shared→Prop}(ht:s.heap.get? t=some { cls:=.type "list", data:=.seq us.toArray n })(r:Vals (ys.map V.str) us)(hz:z∈ys)(hl:ys.length≤1000)
 (h:Q (.int (ys.idxOf z:Nat) s.toks) { s with toks:=s.toks+1 }):wpAny (model prog w) Ar (call (.builtin "list.index") [.ref t,.str z tz]) Q E s:=by
 obtain⟨h1,h2,h3⟩:=LC hz
 have hlu:=r.length
 rw[List.length_map] at hlu
 let e:Value→Bool:=fun y=>match y with
  | .str a _=>a.cps.toList == z.cps.toList
  | _=>false
 have he:∀ y,y∈us.toArray→PySem.MeetsSeq.EqGives y (.str z tz) (e y):=fun y hy=>by
  obtain⟨i,hi⟩:=List.getElem?_of_mem (by simpa using hy:y∈us)
  have hil:=(List.getElem?_eq_some_iff.mp hi).1
  obtain⟨t1,e1⟩:=wX r (i:=i) (by omega)
  rw[e1] at hi;cases hi
  exact uU _ z t1 tz
 have ei:∀ i (hi:i < us.toArray.size),e us.toArray[i]=decide (ys.getD i Str.empty=z):=fun i hi=>by
  have hi':i < us.length:=by simpa using hi
  obtain⟨t1,e1⟩:=wX r (i:=i) (by omega)
  have:us.toArray[i]=.str (ys.getD i Str.empty) t1:=by
   have:=(List.getElem?_eq_some_iff.mp e1).2
   simpa using this
  rw[this]
  show ((ys.getD i Str.empty).cps.toList == z.cps.toList)=_
  by_cases q:ys.getD i Str.empty=z
  ·rw[q];simp
  ·rw[decide_eq_false q,beq_eq_false_iff_ne]
   intro y
   apply q
   cases hq:ys.getD i Str.empty with
   | mk c=>cases z with
    | mk d =>
     rw[hq] at y
     have:c=d:=Array.toList_inj.mp y
     rw[this]
 refine call_meets PySem.F.slot_list_index ⟨_,ht,rfl⟩ PySem.F.entry_list_index (PySem.F.args_list_index_2 _ _) (PySem.MeetsSeq.list_index t us.toArray n (.str z tz) e he (ys.idxOf z) (by simp;omega) (by omega) (by rw[ei];simp only[h2];simp) (fun m hm hj=>by rw[ei];simp only[h3 m hj];simp)) ⟨ht,h⟩
end
section
variable{X:Cx}{K:W.Frag}{M:Nat→Bool}{to ta tb:TE}{t:TA}{o e:Expr}{es:List Expr}{apos cpos:Pos}{a b:Mi.E}
theorem YB:MtR X "tuple.index" (fun x xs H Q=>∃ (p:Addr) (ys:List Str) (z:Str),x=.ref p∧xs=[.str z]∧z∈ys∧H p=some (.tup (ys.map V.str))∧Q (.int (ys.idxOf z:Nat)) H):=by
 intro pins s σ H x xs v us Q I rx rv h
 obtain⟨p,ys,z,rfl,rfl,hz,hp,q⟩:=h
 cases rx
 obtain⟨u,rfl,ru⟩:=vals1 rv
 obtain⟨tz,rfl⟩:=ru
 obtain⟨its,r,pt,_⟩:=I.tuple (.inl (.inl hp))
 exact Y0 pt r hz ⟨.int _,H,I.tok _,⟨_,rfl⟩,q⟩
theorem YC:MtR X "list.index" (fun x xs H Q=>∃ (p:Addr) (ys:List Str) (z:Str),x=.ref p∧xs=[.str z]∧z∈ys∧ys.length≤1000∧Lst H p (ys.map V.str)∧Q (.int (ys.idxOf z:Nat)) H):=by
 intro pins s σ H x xs v us Q I rx rv h
 obtain⟨p,ys,z,rfl,rfl,hz,hl,hp,q⟩:=h
 cases rx
 obtain⟨u,rfl,ru⟩:=vals1 rv
 obtain⟨tz,rfl⟩:=ru
 obtain⟨its,n,r,_,ho⟩:=Pb I hp
 exact Y4 ho r hz hl ⟨.int _,H,I.tok _,⟨_,rfl⟩,q⟩
def acx(K:W.Frag)(T2:String)(r1 r2:V→List V→Hp→VK→Prop)(to:TE)(t:TA):TE:=fun σ H Q=>to σ H fun x H1=>((∃ p xs,x=V.ref p∧H1 p=some (.tup xs))∧t σ H1 fun xs H2=>r1 x xs H2 Q)∨(tyV K T2 x H1∧t σ H1 fun xs H2=>r2 x xs H2 Q)
theorem aa6{T2 id1 id2:String}{r1 r2:V→List V→Hp→VK→Prop}{name:Str}(pa1:PlainAttrs "tuple")(slot1:Slot "tuple" name id1)(aeD:typeOf (.builtin id1)=pure (.type "method_descriptor"))(hm1:MtR X id1 r1)
 (pa2:PlainAttrs T2) (acB:Slot T2 name id2) (aeC:typeOf (.builtin id2)=pure (.type "method_descriptor")) (hm2:MtR X id2 r2) (ho:PE X o to) (ha:PA X (e::es) t)
 (hbase:attributeBase o name X.env (eval o X.env)=eval o X.env:=by rfl)
 (hfew:((backTo cpos (starEach (e::es) X.env)).all (fun x=>!x.1) && (backToKw cpos (keywordEach [] X.env)).all (fun x=>x.1.isSome)
  && decide ((e::es).length+([]:List Keyword).length+(if ([]:List Keyword).isEmpty then 0 else 1) < 30))=true:=by rfl)
 (hline:(apos.endLine == cpos.line)=true:=by rfl) (hs:starEach (e::es) X.env=(false,eval e X.env)::starEach es X.env:=by rfl) (hplain:(backTo cpos (starEach es X.env)).any (·.1)=false:=by rfl) :
 PE X (.Call (.Attribute o name apos) (e::es) [] cpos) (acx X.K T2 r1 r2 to t):=by
 intro pins s σ H Q I h
 refine wpAny_Call_method_late hbase hfew hline rfl (gW (ho pins s σ H _ I h) fun v s1 ⟨x,H1,I1,rx,q⟩=>?_)
 rcases q with ⟨ty,q1⟩|⟨ty,q1⟩
 ·obtain⟨p,xs,rfl,hp⟩:=ty
  cases rx
  have h12:s1.TypeIs (.ref p) "tuple" ∧ ∀ a,Value.ref p=.ref a→∃ ob,s1.heap.get? a=some ob∧ob.dict=none:=by
   obtain⟨_,its,_,ob,e1,e2,e3,_⟩:=(show dZ X.prog X.w H1 s1.heap p (.tup xs) from I1.hok p _ hp)
   exact⟨⟨ob,e1,e2⟩,fun a z=>by cases z;exact⟨ob,e1,e3⟩⟩
  obtain⟨h1,h2⟩:=h12
  have rx:RelV (.ref p) (Value.ref p):=rfl
  refine⟨"tuple", id1,pa1,slot1,aeD,h1,h2,?_⟩
  have hA:=ha cpos pins s1 σ H1 _ I1 q1
  rw[hs] at hA ⊢
  refine Calls.callWith_builtin (by show (false || (backTo cpos (starEach es X.env)).any (·.1))=false;rw[hplain]<;>rfl) (Calls.evalArgs_plain ?_)
  exact gW hA fun us s2 ⟨vs,H2,I2,r2',q2⟩=>hm1 pins s2 σ H2 _ vs _ us Q I2 rx r2' q2
 ·obtain⟨h1,h2⟩:=Uv I1 rx ty
  refine⟨T2,id2,pa2,acB,aeC,h1,h2,?_⟩
  have hA:=ha cpos pins s1 σ H1 _ I1 q1
  rw[hs] at hA ⊢
  refine Calls.callWith_builtin (by show (false || (backTo cpos (starEach es X.env)).any (·.1))=false;rw[hplain]<;>rfl) (Calls.evalArgs_plain ?_)
  exact gW hA fun us s2 ⟨vs,H2,I2,r2',q2⟩=>hm2 pins s2 σ H2 x vs v us Q I2 rx r2' q2
end
end A
namespace So
open PySem
theorem Jc:∀ a b:List Int,jJ a b=Mi.pP a b
 | [],[]=>rfl
 | [],_::_=>rfl
 | _::_,[]=>rfl
 | a::r,b::t=>by rw[jJ,Mi.pP,Jc r t]
theorem Dm(lt:Nat→Nat→Bool)(i:Nat):∀ l:List Nat,(Mi.insI lt i l).Perm (i::l)
 | []=>List.Perm.refl _
 | j::r=>by
  unfold Mi.insI
  split
  ·exact List.Perm.refl _
  ·exact((Dm lt i r).cons j).trans (List.Perm.swap i j r)
theorem qL(lt:Nat→Nat→Bool):∀ l:List Nat,(Mi.sortI lt l).Perm l
 | []=>List.Perm.refl _
 | i::r=>(Dm lt i _).trans ((qL lt r).cons i)
section
variable{n:Nat}{lt:Nat→Nat→Bool}(O:Ord n lt)
include O
theorem Dl{i:Nat}(hi:i < n):∀ {l:List Nat},(∀ x∈l,x < n)→i∉l→l.Pairwise (fun a b=>lt a b=true)→(Mi.insI lt i l).Pairwise (fun a b=>lt a b=true)
 | [],_,_,_=>List.pairwise_singleton _ _
 | j::r,hl,hn,hp=>by
  have hp':=List.pairwise_cons.mp hp
  have hj:=hl j List.mem_cons_self
  unfold Mi.insI
  split
  ·rename_i h
   refine List.pairwise_cons.mpr ⟨fun x hx=>?_,hp⟩
   rcases List.mem_cons.mp hx with rfl|hx
   ·exact h
   ·exact O.tr _ _ _ hi hj (hl x (List.mem_cons_of_mem _ hx)) h (hp'.1 x hx)
  ·rename_i h
   have hji:lt j i=true:=(O.tot i j hi hj fun z=>hn (by rw[z];exact List.mem_cons_self)).resolve_left h
   refine List.pairwise_cons.mpr ⟨fun x hx=>?_,Dl hi (fun x hx=>hl x (List.mem_cons_of_mem _ hx)) (fun z=>hn (List.mem_cons_of_mem _ z)) hp'.2⟩
   rcases List.mem_cons.mp ((Dm lt i r).mem_iff.mp hx) with rfl|hx
   ·exact hji
   ·exact hp'.1 x hx
theorem ug:∀ {l:List Nat},(∀ x∈l,x < n)→l.Nodup→(Mi.sortI lt l).Pairwise (fun a b=>lt a b=true)
 | [],_,_=>.nil
 | i::r,hl,nd=>by
  have nd:=List.nodup_cons.mp nd
  have hr:∀ x∈r,x < n:=fun x hx=>hl x (List.mem_cons_of_mem _ hx)
  exact Dl O (hl i List.mem_cons_self) (fun x hx=>hr x ((qL lt r).mem_iff.mp hx)) (fun z=>nd.1 ((qL lt r).mem_iff.mp z)) (ug hr nd.2)
theorem K5:∀ {a b:List Nat},(∀ x∈a,x < n)→a.Perm b→a.Pairwise (fun x y=>lt x y=true)→b.Pairwise (fun x y=>lt x y=true)→a=b
 | [],b,_,p,_,_=>p.nil_eq
 | x::r,b,hl,p,ha,hb=>by
  cases b with
  | nil=>exact absurd p.length_eq (by simp)
  | cons y t =>
   have hx:x∈y::t:=p.mem_iff.mp List.mem_cons_self
   have hy:y∈x::r:=p.mem_iff.mpr List.mem_cons_self
   have e:x=y:=by
    rcases List.mem_cons.mp hx with h|h
    ·exact h
    ·rcases List.mem_cons.mp hy with h'|h'
     ·exact h'.symm
     ·have a1:=(List.pairwise_cons.mp ha).1 y h'
      have a2:=(List.pairwise_cons.mp hb).1 x h
      rw[O.asy _ _ (hl x List.mem_cons_self) (hl y hy) a1] at a2;cases a2
   subst e
   rw[K5 (fun z hz=>hl z (List.mem_cons_of_mem _ hz)) (List.Perm.cons_inv p) (List.pairwise_cons.mp ha).2 (List.pairwise_cons.mp hb).2]
end
theorem Yw{kz:List (List Int)}(nd:kz.Nodup){p:Array Nat}(pm:Pm kz.length p)(sd:Sd (YF kz) p kz.length):p.toList=Mi.Ak kz kz.length:=by
 have O:=Ja nd
 have e:Mi.Ak kz kz.length=Mi.sortI (YF kz) (List.range kz.length):=by
  unfold Mi.Ak YF
  congr 1
  funext i j
  exact(Jc _ _).symm
 have hp:p.toList.Perm (List.range kz.length):=by have:=Array.perm_iff_toList_perm.mp pm.pm;simpa using this
 have hb:∀ x∈p.toList,x < kz.length:=fun x hx=>by simpa using hp.mem_iff.mp hx
 rw[e]
 refine K5 O hb (hp.trans (qL _ _).symm) ?_ (ug O (fun x hx=>by simpa using hx) List.nodup_range)
 rw[List.pairwise_iff_getElem]
 intro i j hi hj hij
 have hi':i < p.size:=by simpa using hi
 have hj':j < p.size:=by simpa using hj
 have:=sd i j hij (by rw[← pm.size];exact hj')
 rw[Nh hi',Nh hj'] at this
 simpa using this
end So
namespace A
open PySem L2 PyProof.Rows So
open Mi (D W Rs Fin az Out Tg)
variable[Tb:jb]
theorem Uz{T:Addr}{q:Str}{H H' Hv:Hp}(v:Vw H Hv)(t:Tab T q H H'):dw H Hv H' Hv:=by
 rcases t with rfl|⟨ps,ps',c,hT,hc,ne,rfl,ck⟩
 ·exact .refl v
 ·have get:∀ {a o},H a=some o→NT o→upd (upd H T (.tbl q ps')) c (.ext (pC c q)) a=some o:=fun {a o} e n=>by
   rw[aN (bh e hc),aN (fun z=>by rw[z,hT] at e;cases e;exact n)];exact e
  have back:∀ {a o},upd (upd H T (.tbl q ps')) c (.ext (pC c q)) a=some o→(∀ w ps,o≠.tbl w ps)→(∀ φ,o≠.ext φ)→H a=some o:=fun {a o} e n1 n2=>by
   by_cases z:a=c
   ·subst z;rw[bc] at e;cases e;exact absurd rfl (n2 _)
   ·rw[aN z] at e
    by_cases z2:a=T
    ·subst z2;rw[bc] at e;cases e;exact absurd rfl (n1 _ _)
    ·rw[aN z2] at e;exact e
  refine⟨⟨fun a o e n=>get e n,fun a e=>?_,fun a w p0 e=>?_⟩,jA.refl _,⟨fun a o e=>get (v.sub a o e) (v.nv a o e),fun a xs e=>v.tup a xs (back e (fun _ _ z=>by cases z) (fun _ z=>by cases z)),fun a o u e=>v.frz a o u (back e (fun _ _ z=>by cases z) (fun _ z=>by cases z)),ck,v.nv⟩,fun _ _ _ n=>n⟩
  ·by_cases z:a=c
   ·subst z;exact hc
   ·rw[aN z] at e
    by_cases z2:a=T
    ·subst z2;rw[bc] at e;cases e
    ·rw[aN z2] at e;exact e
  ·by_cases z2:a=T
   ·subst z2
    rw[hT] at e;cases e
    exact⟨ps',by rw[aN (Ne.symm ne),bc]⟩
   ·exact⟨p0,by rw[aN (bh e hc),aN z2];exact e⟩
theorem Ry{Hv:Hp}:∀ {ds:List D} {xs:List V} {bs:List Int},Mi.Er ds=some bs→P2 (Rep Hv) ds xs→xs=bs.map V.int
 | [],_,bs,e,r=>by cases e;cases r;rfl
 | .int b::ds,_,bs,e,r=>by
  cases r with
  | cons x t =>
   cases hb:Mi.Er ds with
   | none=>rw[Mi.Er,hb] at e;cases e
   | some cs =>
    rw[Mi.Er,hb] at e
    cases e
    rw[Ry hb t,rZ.mp x];rfl
section
variable{X:Cx}{K:W.Frag}{M:Nat→Bool}{te tb ta:TE}{a b kf:Mi.E}{T:Addr}{q:Str}{ρ : List Nat}
theorem aby{e:Mi.Env}{σ : L2.St}{H Hv:Hp}(I:R0 M e σ H Hv)(hM:∀ j∈ρ,M j=false){d:D}{v:V}(r:Rep Hv d v):R0 (fun _=>false) (Mi.Jf ρ e d) (p6 ρ σ v) H Hv:=by
 refine⟨I.vw,by simp[Mi.Jf,p6],fun i w h _=>?_,fun i w h m=>by cases m⟩
 cases i with
 | zero =>
  have:W.d d=w:=by simpa [Mi.Jf] using h
  subst this
  exact⟨v,rfl,r⟩
 | succ i =>
  have h:(ρ.map fun j=>(e[j]?).join)[i]? = some (some w):=by simpa [Mi.Jf] using h
  rw[List.getElem?_map] at h
  obtain⟨j,hj,e2⟩:=Option.map_eq_some_iff.mp h
  have e3:e[j]? = some (some w):=by
   cases z:e[j]? with
   | none=>rw[z] at e2;cases e2
   | some y=>rw[z] at e2;exact congrArg some e2
  obtain⟨u,hu,ru⟩:=I.nob j w e3 (hM j (List.mem_of_getElem? hj))
  exact⟨u,by simp[p6,List.getElem?_map,hj,hu],ru⟩
theorem Q5{c':Addr}(hk:AE (fun _=>false) qN tb kf)(hM:∀ j∈ρ,M j=false){e:Mi.Env}{σ : L2.St}:∀ {ds:List D} {xs:List V} {kz:List (List Int)} {H Hv:Hp} {R:List V→Hp→Prop},R0 M e σ H Hv→P2 (Rep Hv) ds xs→H c'=some (.ext (pC c' q))→Mi.rn ρ kf e ds=.ok kz →
 (∀ ks H3 Hv3,dw H Hv H3 Hv3→KeysAre H3 kz ks→R ks H3)→JS c' q (fun v H K=>tb (p6 ρ σ v) H K) xs H R
 | [],_,kz,H,Hv,R,I,.nil,_,hz,h=>by
  have:kz=[]:=by rw[Mi.rn] at hz;cases hz;rfl
  subst this
  exact h [] H Hv (.refl I.vw) .nil
 | d::ds,_,kz,H,Hv,R,I,.cons (b:=v) (m:=xs) r t,hc,hz,h=>by
  rw[Mi.rn] at hz
  show tb (p6 ρ σ v) H _
  cases hkd:kf (Mi.Jf ρ e d) with
  | no=>rw[hkd] at hz;cases hz
  | ex z=>rw[hkd] at hz;cases hz
  | ok kd =>
   rw[hkd,Mi.aG] at hz
   cases kd with
   | lst es =>
    cases hes:Mi.Er es with
    | none=>rw[show Mi.Nj (.lst es)=.no from by show Mi.t8 (Mi.Er es)=_;rw[hes];rfl] at hz;cases hz
    | some z =>
     rw[show Mi.Nj (.lst es)=.ok z from by show Mi.t8 (Mi.Er es)=_;rw[hes];rfl,Mi.aG] at hz
     cases hzs:Mi.rn ρ kf e ds with
     | no=>rw[hzs] at hz;cases hz
     | ex y=>rw[hzs] at hz;cases hz
     | ok zs =>
      rw[hzs] at hz
      have hz:kz=z::zs:=by cases hz;rfl
      subst hz
      refine hk _ _ H Hv _ (aby I hM r) ?_
      rw[hkd]
      intro kv H1 Hv1 g1 kq
      obtain⟨p,o,rfl,n0,hp,nv,ci⟩:=kq
      cases o with
      | lst vs =>
       have hv:vs=z.map V.int:=Ry hes ci
       subst hv
       refine⟨g1.old.at hc,Q5 hk hM (I.grow g1) (d8 g1.vis t) (g1.old.at hc) hzs fun ks H3 Hv3 g3 ka=>h _ H3 Hv3 (g1.trans g3) (.cons ⟨p,rfl,g3.old.at hp⟩ ka)⟩
      | _=>exact ci.elim
   | _=>cases hz
theorem QD{F:D→V→Prop}{ds:List D}{xs:List V}(h:P2 F ds xs):∀ l:List Nat,(∀ i∈l,i < ds.length)→P2 F (l.map fun i=>ds.getD i .non) (l.map fun i=>xs.getD i .non)
 | [],_=>.nil
 | i::r,hl=>by
  have hi:=hl i List.mem_cons_self
  have e1:ds[i]? = some (ds.getD i .non):=by simp[hi]
  obtain⟨y,e2,f⟩:=h.getL e1
  have:xs.getD i .non=y:=by simp[e2]
  refine .cons ?_ (QD h r fun j hj=>hl j (List.mem_cons_of_mem _ hj))
  show F (ds.getD i .non) (xs.getD i .non)
  rw[this];exact f
theorem ZK(hT:(T,q)∈Tb.l)(hM:∀ j∈ρ,M j=false)(ha:AE M qP te a)(hk:AE (fun _=>false) qN tb kf):AE M qN (UL T q ρ te tb) (Mi.IW ρ a kf):=fun e σ H Hv Q I h =>
 ha e σ H Hv _ I ((az.mp h).mono fun x hx v H1 Hv1 g1 rx=>by
  cases x with
  | lst ds =>
   obtain⟨h64,hx⟩:=Mi.aX (show Fin (Mi.aU (ds.length < 64) _) _ from hx)
   obtain⟨kz,hkz,hx⟩:=pA (az.mp hx)
   obtain⟨nd,hx⟩:=Mi.aX hx
   have hx:=Mi.jK hx
   obtain⟨p,xs,rfl,l,r⟩:=RD.lst g1.vw rx
   have lx:=r.len
   have I1:=I.grow g1
   obtain⟨tps,ht⟩:=g1.vw.cd.has _ hT
   refine⟨p,xs,tps,rfl,by omega,ht,g1.vw.cd,fun H2 c' tab hc'=>?_⟩
   have g2:=Uz g1.vw tab
   refine⟨l.old g2.old,Q5 hk hM (I1.grow g2) r hc' hkz fun ks H3 Hv3 g3 ka=>?_⟩
   have lk:kz.length=ds.length:=by
    have:∀ (ds:List D) (kz:List (List Int)),Mi.rn ρ kf e ds=.ok kz→kz.length=ds.length:=fun ds=>by
     induction ds with
     | nil=>intro kz h;rw[Mi.rn] at h;cases h;rfl
     | cons d ds ih =>
      intro kz h
      rw[Mi.rn] at h
      cases h1:kf (Mi.Jf ρ e d) with
      | no=>rw[h1] at h;cases h
      | ex z=>rw[h1] at h;cases h
      | ok kd =>
       rw[h1,Mi.aG] at h
       cases h2:Mi.Nj kd with
       | no=>rw[h2] at h;cases h
       | ex z=>rw[h2] at h;cases h
       | ok z =>
        rw[h2,Mi.aG] at h
        cases h3:Mi.rn ρ kf e ds with
        | no=>rw[h3] at h;cases h
        | ex y=>rw[h3] at h;cases h
        | ok zs=>rw[h3] at h;cases h;rw[List.length_cons,List.length_cons,ih zs h3]
    exact this ds kz hkz
   refine⟨kz,by omega,nd,ka,fun p2 ys hp2 so=>?_⟩
   obtain⟨pa,pm,sd,rfl⟩:=so
   have e0:pa.toList=Mi.Ak kz ds.length:=by
    rw[← lk]
    exact Yw nd (by rw[lk,lx];exact pm) (by rw[lk,lx];exact sd)
   have rr:P2 (Rep Hv3) (Mi.sortBy kz ds) (pa.toList.map fun i=>xs.getD i .non):=by
    unfold Mi.sortBy
    rw[← e0]
    refine QD (d8 (g2.vis.trans g3.vis) r) _ fun i hi=>?_
    have:=(Array.perm_iff_toList_perm.mp pm.pm).mem_iff.mp hi
    rw[lx];simpa using this
   obtain⟨g4,kk⟩:=Ir g3.vw rr hp2
   have gg:=g1.trans (g2.trans (g3.trans g4))
   exact hx _ _ _ gg (KM.mono (κ:=qN) (g1.old.trans (g2.old.trans g3.old)) kk)
  | _=>exact hx.elim)
end
end A
namespace L2
open PySem PySem.Spec PyProof.Rows A So
structure XR(K:W.Frag)(x qual:Str)(st:Stmt)(c f:Addr)(fd:FuncData):Prop where
 ex:∃ (oc:Value) (od:Option Addr) (kV doc pm:Value) (an:Option Addr) (ct:Value) (osl:Array (Option Value)),
  fd=W.fnOf x qual (oA st) (jL st) (aQ st) .none kV doc pm an (.ref c) ct∧K.lookup f=some ⟨oc,od,.func fd,osl⟩∧W.codeIn K (.ref c) qual=true
section
variable{P:Program}{w:World}{K:W.Frag}{mg:Str→Option Value}{base:Heap}
theorem XR.ok{x qual:Str}{st:Stmt}{c f:Addr}{fd:FuncData}{N ps:List Str}{k:Nat}{sp:Sp}(F:XR K x qual st c f fd)(S:bz N ps (aQ st))(len:∀ vs H Q E,sp vs H Q E→vs.length=ps.length)
 (hbody:∀ (A:Around) (outer:List Env) (s:Shared) (H:Hp) (vs:List V) (Q:VK) (E:XK),kW k (A.deeper (envOfC qual (aQ st) s.heap.objs.size f (.ref c)))→sp vs H Q E →
  ∃ t,J5 (qu cH P w K mg base N qual (aQ st) f (.ref c) A outer s H E).nox (jL st) t∧t { nx:=fun _ H'=>Q .non H',rt:=Q } (start N vs) H):dz P w K mg base cH (k+1) f fd ps sp:=by
 obtain⟨oc,od,kV,doc,pm,an,ct,osl,rfl,lk,hcd⟩:=F.ex
 refine Wv lk hcd S len fun A outer s H vs Q E hr hsp=>?_
 obtain⟨t,h,q⟩:=hbody A outer s H vs Q E hr hsp
 exact⟨t,h.nox,q⟩
end
structure ZQ(K:W.Frag)(mg:Str→Option Value)(x:Str)(st:Stmt)(ps:List Str)(c:Addr):Prop where
 ex:∃ (f:Addr) (fd:FuncData),mg x=some (.ref f)∧W.keepIn K (.ref f)=true∧Binds K fd ps []∧XR K x x st c f fd
theorem Y8{K:W.Frag}{h:Heap}{mg:Str→Option Value}{x:Str}{st:Stmt}{ps:List Str}{f c:Addr}{oc:Value}{od an:Option Addr}{osl:Array (Option Value)}{kV doc pm ct:Value}(X:K.In h)(G:h.Ns mainGlobals mg)
 (hb:∀ (kV doc pm:Value) (an:Option Addr) (cdv ct:Value) (us:List Value),us.length=ps.length→bindArgs (W.fnOf x x (oA st) (jL st) (aQ st) .none kV doc pm an cdv ct) ⟨us,[]⟩=pure (ps.zip us))
 (a:W.nsIn K mainGlobals x=some (some (.ref f))) (l:K.lookup f=some ⟨oc,od,.func (W.fnOf x x (oA st) (jL st) (aQ st) .none kV doc pm an (.ref c) ct),osl⟩)
 (cc:W.codeIn K (.ref c) x=true) (k:W.keepIn K (.ref f)=true):ZQ K mg x st ps c:=by
 have F:=Wu (st:=st) l cc k
 exact⟨f,_,W.mg_of X G a,k,F.binds hb,⟨oc,od,kV,doc,pm,an,ct,osl,rfl,l,cc⟩⟩
theorem ZQ.cal{P:Program}{w:World}{K:W.Frag}{mg:Str→Option Value}{base:Heap}{CX:NQ}{k:Nat}{x:Str}{st:Stmt}{ps:List Str}{c:Addr}{sp:Sp}(F:ZQ K mg x st ps c)(h:∀ f fd,XR K x x st c f fd→dz P w K mg base CX k f fd ps sp) :
 kZ P w K mg base CX k x ps sp:=by
 obtain⟨f,fd,h1,h2,h3,h4⟩:=F.ex
 exact⟨f,fd,h1,h2,h3,h f fd h4⟩
theorem G6.one{X:Cx}{x y:Str}{j:Nat}{sc:Scope}{c:Addr}(hn:sc.names=[(x,.local),(y,.free)])(hxy:(y == x)=false)(hk:sc.kind=.function)(co:sc.isCoroutine=false)(gen:sc.isGenerator=false)(hc:X.env.cells=[(y,c)])(hN:X.N[j]? = some y)(hy:X.env.kindOf y=some .cell) :
 G6 X x [j] [x,y] sc [(y,c)]:=by
 have hl:sc.names.lookup y=some .free:=by
  rw[hn,List.lookup,hxy]
  show List.lookup y [(y,NameKind.free)]=_
  rw[List.lookup,beq_self_eq_true]
 refine⟨hk,co,gen,fun z hz=>?_,by rw[hn,List.lookup,beq_self_eq_true],fun z d h=>by rw[hc];exact h,fun z h=>?_,[y],rfl,rfl,fun i k z h1 h2=>?_⟩
 ·rw[hn] at hz
  rcases List.mem_cons.mp hz with rfl|hz
  ·exact fun q=>by cases q
  ·rw[List.mem_singleton.mp hz];exact fun q=>by cases q
 ·rw[hn,List.lookup] at h
  split at h
  ·cases h
  ·rw[List.lookup] at h
   split at h
   ·rename_i q
    exact⟨c,by rw[List.lookup,q]⟩
   ·cases h
 ·cases i with
  | zero =>
   have e1:j=k:=by simpa using h1
   have e2:y=z:=by simpa using h2
   subst e1 e2
   exact⟨hN,hl,.inl hy⟩
  | succ i=>simp at h1
section
variable[Tb:jb]
theorem S8{P:Program}{w:World}{K:W.Frag}{mg mb:Str→Option Value}{k:Nat}{fa a c T:Addr}{q:Str}{fd:FuncData}{x:Str}{s₁:Shared}{vs:List Value}{ns:List Int}(hTb:Tb.l=[(T,q)])
 (KX:K.In s₁.heap) (hns:s₁.heap.Ns mainGlobals mg) (hb:s₁.heap.Ns builtinsNs mb) (hbb:∀ x:Str,x ≠ "__name__" → mb x=bootBuiltins x) (hlim:s₁.heap.NoLimit) (hg:s₁.gens = #[])
 (ha:s₁.heap.get? a=some { cls:=.type "list", data:=.seq vs.toArray }) (hi:IntsAre vs ns) (hl:ns.length≤63) (hr:kW k callerA)
 (hKa:K.lookup a=none) (hKT:K.lookup T=none) (C:W.CodeHd s₁.heap c T) (hT:s₁.heap.get? T=some (W.tabObj #[])) (hB:BM mg s₁.heap)
 (F:∀ base:Heap,K.In base→base.Ns mainGlobals mg→BM mg base→W.CodeHd base c T→dz P w K mg base cH k fa fd [x] Ko) (hbind:∀ (s:Shared) (u:Value),BindsTo s fd ⟨[u],[]⟩ [(x,u)]) :
 codeAny (model P w) callerA (.call (.ref fa) ⟨[.ref a],[]⟩) (fun r s'=>r=.ok (.ret (.bool true))∧OldK s₁.heap s'.heap∧s'.os=s₁.os∧AllBare s'.gens) s₁:=by
 have rv:=Fx hi
 have lenV:=hi.length
 have aT:a≠T:=fun z=>by rw[z,hT] at ha;cases ha
 let H:Hp:=fun b=>if b=a then some (.frz { cls:=.type "list", data:=.seq vs.toArray } (.lst (ns.map V.int))) else if b=T then some (.tbl q #[]) else none
 have Ha:H a=some (.frz { cls:=.type "list", data:=.seq vs.toArray } (.lst (ns.map V.int))):=if_pos rfl
 have HT:H T=some (.tbl q #[]):=by show (if T=a then _ else _)=_;rw[if_neg (Ne.symm aT),if_pos rfl]
 have Hn:∀ b,b≠a→b≠T→H b=none:=fun b h1 h2=>by show (if b=a then _ else _)=_;rw[if_neg h1,if_neg h2]
 have Hd:∀ {b u},H b=some u→(b=a∧u=.frz { cls:=.type "list", data:=.seq vs.toArray } (.lst (ns.map V.int)))∨(b=T∧u=.tbl q #[]):=fun {b u} e=>by
  by_cases h1:b=a
  ·subst h1;rw[Ha] at e;cases e;exact .inl ⟨rfl,rfl⟩
  ·by_cases h2:b=T
   ·subst h2;rw[HT] at e;cases e;exact .inr ⟨rfl,rfl⟩
   ·rw[Hn b h1 h2] at e;cases e
 have hok:rN P w H s₁.heap:=fun b u e=>by
  rcases Hd e with ⟨rfl,rfl⟩|⟨rfl,rfl⟩
  ·exact⟨ha,by rw[List.length_map,sizeLine_eq];omega,vs,_,rv,ha⟩
  ·exact hT
 have free:∀ {b:Addr} {o:Obj},s₁.heap.get? b=some o→o.cls≠.type "list" → o≠W.tabObj #[]→H b=none:=fun {b o} e h1 h2=>by
  refine Hn b (fun z=>?_) fun z=>?_
  ·rw[z,ha] at e;cases e;exact h1 rfl
  ·rw[z,hT] at e;cases e;exact h2 rfl
 have Bo:∀ {b:Addr} {o:Obj},s₁.heap.get? b=some o→H b=none→(Dp s₁.heap H).get? b=some o:=fun e n=>Ws e n
 have nsK:∀ {b:Addr} {m:Str→Option Value},s₁.heap.Ns b m→(Dp s₁.heap H).Ns b m:=fun {b m} ⟨o,es,ep,e,d,r⟩=>⟨o,es,ep,Bo e (Hn b (fun z=>by rw[z,ha] at e;cases e;cases d) fun z=>by rw[z,hT] at e;cases e;cases d),d,r⟩
 have hKb:K.In (Dp s₁.heap H):=fun b o e=>Bo (KX b o e) (Hn b (fun z=>by rw[z,hKa] at e;cases e) fun z=>by rw[z,hKT] at e;cases e)
 have hM:Mod K mg (Dp s₁.heap H):=⟨hKb,nsK hns,⟨mb,nsK hb,hbb⟩,let ⟨mc,h1,h2⟩:=hlim;⟨mc,nsK h1,h2⟩⟩
 have e0:Ui P w K mg (Dp s₁.heap H) callerA [] s₁ H:=⟨rfl,hM,fun b o e=>Yz e,Nat.le_of_eq (Th _ _),trivial,fun b hb=>absurd (show b∈([]:List Addr) from hb) (by simp),hok,.of_eq hg⟩
 have hB':BM mg (Dp s₁.heap H):=by
  obtain⟨bm,bo,b1,b2,b3,b4,b5,b6,b7⟩:=hB
  exact⟨bm,bo,b1,b2,b3,Bo b4 (free b4 (by rw[b5];decide) (fun z=>by rw[z] at b5;cases b5)),b5,b6,b7⟩
 have C':W.CodeHd (Dp s₁.heap H) c T:=by
  obtain⟨o,vs2,file,tf,flags,tg,inF,text,tt,e,h1,r⟩:=C
  exact⟨o,vs2,file,tf,flags,tg,inF,text,tt,Bo e (free e (by rw[h1];decide) (fun z=>by rw[z] at h1;cases h1)),h1,r⟩
 have ck:kY H:=⟨fun r hr=>by
  rw[hTb] at hr
  obtain rfl:r=(T,q):=by simpa using hr
  exact⟨#[],HT⟩,fun T2 q2 ps e=>by
  rcases Hd e with ⟨_,z⟩|⟨_,z⟩
  ·cases z
  ·cases z;exact⟨trivial,fun pos v hv=>by cases hv⟩⟩
 refine codeAny_mono ((F _ hKb (nsK hns) hB' C').run callerA [] s₁ H ⟨[.ref a],[]⟩ [.ref a] [.ref a] (fun v _=>v=.bl true) (fun _ _ _=>False) hr e0 (hbind s₁ (.ref a)) (.cons rfl .nil) ⟨a,ns,rfl,.inr ⟨_,Ha⟩,hl,ck,fun _=>rfl⟩) fun r s' h=>?_
 cases r with
 | error e=>exact h.elim
 | ok fl =>
  cases fl with
  | next=>exact False.elim h
  | brk=>exact False.elim h
  | cont=>exact False.elim h
  | ret u =>
   obtain⟨v,H',os,bare,un,hok',r',q'⟩:=h
   have q':v=.bl true:=q'
   subst q'
   obtain rfl:u=Value.bool true:=r'
   have old:∀ b o,s₁.heap.get? b=some o→asItWas s₁.heap s'.heap b o:=fun b o e=>by
    by_cases h1:b=a
    ·subst h1
     have z2:=un.yU b _ _ Ha
     obtain⟨e2,_⟩:=hok' b _ z2
     rw[ha] at e;cases e
     exact .inl e2
    ·by_cases h2:b=T
     ·subst h2
      obtain⟨more,z2⟩:=un.yl b _ _ HT
      have e2:s'.heap.get? b=some (W.tabObj (#[]++more)):=hok' b _ z2
      rw[hT] at e;cases e
      obtain⟨oc,vs2,_,_,_,_,_,_,_,f1,f2,f3,f4,_⟩:=C
      exact .inr (.inl ⟨⟨c,oc,vs2,f1,f2,f3,f4⟩,rfl,#[],more,rfl,e2⟩)
     ·exact .inl (un.keep b o e (Hn b h1 h2) (by intro z;exact absurd (show b∈([]:List Addr) from z) (by simp)) (by simp))
   exact⟨rfl,⟨old,fun b o e=>un.there b o e (by simp)⟩,os,bare⟩
theorem Uu{l:W.OpenLaw}{k:Nat}{q:Program}{loose:List Str}{XP:(Str→Option Value)→Heap→Prop}{YP:World→Heap→Prop}{d:DefRec}{K:Params→W.Frag}{x dn:Str}{c T:Addr}{qn:Str}(hTb:Tb.l=[(T,qn)])
 (hn:l.most=some 63) (hdf:d.params.defaults=[]) (hr:kW k callerA)
 (hY:∀ (w:World) (h:Heap),YP w h→(K w.params).In h) (hL:∀ w:World,∀ a o,(K w.params).lookup a=some o→o.cls≠.type "list") (hK:∀ w:World,(K w.params).lookup T=none)
 (hrec:∃ d,(recsOf q).find? (fun e=>e.name == dn)=some d) (htab:∀ w:World,W.tabIn (K w.params) dn=some (c,T))
 (F:∀ (w:World) (mg:Str→Option Value) (fa:Addr) (h:Heap),(K w.params).In h→h.Ns mainGlobals mg→mg d.name=some (.ref fa) →
  ∃ fd:FuncData,(∀ (s:Shared) (u:Value),BindsTo s fd ⟨[u],[]⟩ [(x,u)]) ∧
   ∀ base:Heap,(K w.params).In base→base.Ns mainGlobals mg→BM mg base→W.CodeHd base c T→dz l.prog w (K w.params) mg base cH k fa fd [x] Ko) :
 W.WalkO q loose XP YP l.row.toRowW d [] (fun f vs=>PySem.call f vs):=by
 refine Att.Nb hn hdf fun w s₀ s₁ mg mb fa o pm cd doc a vs ns G Y ho hd hcd hmg hobj hints hlen hg=>?_
 have KX:=hY w _ Y
 obtain⟨fd,hb,hF⟩:=F w mg fa _ KX G.T.g hmg
 obtain⟨dd,hdd⟩:=hrec
 obtain⟨C,hT⟩:=W.tab_of G.T KX hdd (htab w)
 have hB:BM mg s₁.heap:=by
  obtain⟨bm,ob,b1,b2,b3,b4,b5,b6⟩:=G.T.bmain
  refine⟨bm,ob,b1,b2,fun z=>?_,b3,b4,b5,b6⟩
  obtain⟨o2,es,ep,e,d2,_⟩:=G.T.g
  rw[z,e] at b3;cases b3;rw[d2] at b6;cases b6
 have hKa:(K w.params).lookup a=none:=by
  cases z:(K w.params).lookup a with
  | none=>rfl
  | some o2 =>
   have e:=KX a o2 z
   rw[hobj] at e;cases e
   exact absurd rfl (hL w a _ z)
 exact S8 hTb KX G.T.g G.T.b G.T.builtins G.T.nolimit hg hobj hints hlen hr hKa (hK w) C hT hB hF hb
end
end L2
namespace A
open PySem L2 PyProof.Rows So
open Mi (D W Rs Fin az Out Tg)
variable[Tb:jb]
section
variable{K:W.Frag}{M:Nat→Bool}{ta tb:TE}{a b:Mi.E}
def Z3:V→List V→Hp→VK→Prop:=fun x xs H Q=>∃ (p:Addr) (ys:List Str) (z:Str),x=.ref p∧xs=[.str z]∧z∈ys∧H p=some (.tup (ys.map V.str))∧Q (.int (ys.idxOf z:Nat)) H
def Z4:V→List V→Hp→VK→Prop:=fun x xs H Q=>∃ (p:Addr) (ys:List Str) (z:Str),x=.ref p∧xs=[.str z]∧z∈ys∧ys.length≤1000∧Lst H p (ys.map V.str)∧Q (.int (ys.idxOf z:Nat)) H
theorem adf{X:Cx}:MtR X "tuple.index" Z3:=YB
theorem adg{X:Cx}:MtR X "list.index" Z4:=YC
theorem adU(ha:AE M qP ta a)(hb:AE M qP tb b):AE M qV (acx K "list" Z3 Z4 ta (lC tb vo)) (Mi.m2 Mi.W0 a b):=fun e σ H Hv Q I h =>
 ha e σ H Hv _ I ((az.mp h).mono fun x hx v H1 Hv1 g1 rx=>by
  obtain⟨y,hy,hk⟩:=pA (az.mp hx)
  cases y with
  | str z =>
   obtain⟨ys,ey,q1⟩:=lD (az.mp hk)
   obtain⟨⟨hz,hl⟩,q2⟩:=Mi.aX q1
   have q3:=Mi.jK q2
   clear hk q1 q2 hx
   cases x with
   | tup ds =>
    obtain⟨p,us,rfl,l,_,r⟩:=RD.tup g1.vw rx
    have:=vm ey r
    subst this
    refine .inl ⟨⟨p,_,rfl,l⟩,hb e σ H1 Hv1 _ (I.grow g1) ?_⟩
    rw[hy]
    intro v2 H2 Hv2 g2 ry
    cases RD.str ry
    exact⟨p,ys,z,rfl,rfl,hz,g2.old.at l,q3 _ _ _ (g1.trans g2) kE⟩
   | lst ds =>
    obtain⟨p,us,rfl,l,r⟩:=RD.lst g1.vw rx
    have:=vm ey r
    subst this
    refine .inr ⟨.inl ⟨rfl,_,l.sq⟩,hb e σ H1 Hv1 _ (I.grow g1) ?_⟩
    rw[hy]
    intro v2 H2 Hv2 g2 ry
    cases RD.str ry
    exact⟨p,ys,z,rfl,rfl,hz,hl,l.old g2.old,q3 _ _ _ (g1.trans g2) kE⟩
   | _=>cases ey
  | _=>exact hk.elim)
end
end A
namespace Mi
end Mi
namespace A
open PySem L2 PyProof.Rows So
open Mi (D W Rs Fin az Out Tg)
variable[Tb:jb]
section
variable{K:W.Frag}{M:Nat→Bool}{t:TE}{m:Mi.E}{w:Mi.EW}
theorem Ub(y:Nat)(hy:M y=true)(ha:AW (fun j=>M j && !(j == y)) qN t w):AS M qN (Og t) (Mi.dg w):=fun H0 Hv0 e σ H Hv D I h=>by
 have nb:∀ {j:Nat},(M j && !(j == y))=false→M j=false∨j=y:=fun {j} z=>by
  cases q:M j with
  | false=>exact .inl rfl
  | true=>rw[q] at z;exact .inr (by simpa using z)
 have nt:∀ {j:Nat},(M j && !(j == y))=true→M j=true∧j≠y:=fun {j} z=>by simpa using z
 have fin:∀ Hv',dw H0 Hv0 H Hv'→R0 (fun j=>M j && !(j == y)) e σ H Hv'→Og t D σ H:=fun Hv' gw R =>
  ha e σ H Hv' _ R ((az.mp h).mono fun d hd v H1 Hv1 g1 r=>hd v H1 Hv1 (gw.trans g1) (KM.mono (κ:=qN) gw.old r))
 have other:(∀ w0,e[y]?≠some (some w0))→Og t D σ H:=fun none=>fin Hv I.gw ⟨I.vw,I.len,fun j w' z q=>by
  rcases nb q with q|rfl
  ·exact I.nob j w' z q
  ·exact absurd z (none w'),fun j w' z q=>I.own j w' z (nt q).1⟩
 cases he:e[y]? with
 | none=>exact other fun w0 z=>by rw[he] at z;cases z
 | some ow =>
  cases ow with
  | none=>exact other fun w0 z=>by rw[he] at z;cases z
  | some w0 =>
   obtain⟨p,Hv',q,I',s,r⟩:=I.aaW hy he
   refine fin Hv' I'.gw ⟨I'.vw,I.len,fun j w' z q2=>?_,fun j w' z q2=>?_⟩
   ·by_cases hj:j=y
    ·subst hj
     rw[he] at z;cases z
     exact⟨_,q,r⟩
    ·exact I'.nob j w' (by rw[List.getElem?_set_ne (Ne.symm hj)];exact z) ((nb q2).resolve_right hj)
   ·obtain⟨m1,hj⟩:=nt q2
    exact I'.own j w' (by rw[List.getElem?_set_ne (Ne.symm hj)];exact z) m1
end
end A
namespace L2
open PySem PySem.Spec PyProof.Rows
def ExcAt(h:Heap)(e T:Addr)(cls fl:Value):Prop :=
 ∃ oe vs oT ts,h.get? e=some oe∧(oe.cls=cls∧oe.dict=none)∧oe.data=.fields vs∧vs[1]? = some (.ref T)∧T≠e∧h.get? T=some oT∧oT.data=.fields ts∧ts[3]? = some fl
def ExcNew(h:Heap)(e:Addr)(cls:Value):Prop:=∃ oe vs,h.get? e=some oe∧(oe.cls=cls∧oe.dict=none)∧oe.data=.fields vs∧vs[1]? = some .none
structure iH(fs no:List Addr)(h h':Heap):Prop where
 keep:∀ b o,h.get? b=some o→b∉fs→b∉no→h'.get? b=some o
 slot:∀ b o,h.get? b=some o→b∉no→∃ sl,h'.get? b=some { o with slots:=sl }
 there:∀ b o,h.get? b=some o→∃ o',h'.get? b=some o'
theorem iH.trans{fs no no':List Addr}{h h1 h2:Heap}(a:iH fs no h h1)(b:iH fs no' h1 h2):iH fs (no++no') h h2:=by
 refine⟨fun x o e f n=>?_,fun x o e n=>?_,fun x o e=>?_⟩
 ·have n1:x∉no:=fun z=>n (List.mem_append_left _ z)
  have n2:x∉no':=fun z=>n (List.mem_append_right _ z)
  exact b.keep x o (a.keep x o e f n1) f n2
 ·have n1:x∉no:=fun z=>n (List.mem_append_left _ z)
  have n2:x∉no':=fun z=>n (List.mem_append_right _ z)
  obtain⟨sl,e1⟩:=a.slot x o e n1
  obtain⟨sl2,e2⟩:=b.slot x _ e1 n2
  exact⟨sl2,e2⟩
 ·obtain⟨o1,e1⟩:=a.there x o e
  exact b.there x o1 e1
theorem iH.of_keeps{fs:List Addr}{h h':Heap}(k:∀ b o,h.get? b=some o→h'.get? b=some o):iH fs [] h h' :=
 ⟨fun b o e _ _=>k b o e,fun b o e _=>⟨o.slots,k b o e⟩,fun b o e=>⟨o,k b o e⟩⟩
theorem iH.more{fs no no':List Addr}{h h':Heap}(a:iH fs no h h')(s:∀ b∈no,b∈no'):iH fs no' h h' :=
 ⟨fun x o e f n=>a.keep x o e f fun z=>n (s x z),fun x o e n=>a.slot x o e fun z=>n (s x z),a.there⟩
theorem iH.uK{fs no:List Addr}{h h' base:Heap}{l:List Env}(a:iH fs no h h')(hl:h.FunFrames base l)(hn:∀ b∈no,∀ o,h.get? b=some o→∃ vs,o.data=.fields vs):h'.FunFrames base l :=
 hl.of_keeps fun b o hb hnf=>by
  obtain⟨sl,e⟩:=a.slot b o hb fun z=>by
   obtain⟨vs,q⟩:=hn b z o hb
   exact hnf vs q
  exact⟨_,e,rfl⟩
theorem WW(f:Array Value→Array Value)(o:Obj):(Obj.mapFields f o).dict=o.dict:=by
 obtain⟨c,d,dt,sl⟩:=o
 cases dt<;>rfl
section
variable{M:Model}{A:Around}{E:Value→Shared→Prop}{s:Shared}
theorem Lh{base:Heap}{env:Env}{outer:List Env}{L e:Addr}{oe:Obj}{vs:Array Value}{head:Value}{hadNext:Bool}{Q:Unit→Shared→Prop}
 (hfr:A.frames=some (env::outer)) (hl:s.heap.FunFrames base (env::outer)) (hf:env.frame=some L) (he:s.heap.get? e=some oe) (hdc:oe.dict=none) (hd:oe.data=.fields vs) (hsz:1 < vs.size)
 (h:∀ h' T,s.heap.objs.size≤T→iH (frs (env::outer)) [e] s.heap h'→ExcAt h' e T oe.cls (rawInt L)→Q () { s with heap:=h' }) :
 wpAny M A (do let a ← frameOf env;let pl ← entryPlaceOf L hadNext;let b ← EntryCells.newEntry head a .none (rawInt L) .none pl;setField (.ref e) 1 b) Q E s:=by
 have hene:e∉(env::outer).filterMap (·.frame):=fun hm=>by
  obtain⟨_,o,ho,hnf⟩:=hl.mem hm
  rw[he] at ho;injection ho with ho;subst ho;exact hnf vs hd
 refine wpAny_bind (wpAny_frameOf_fun hfr hl hf fun h₁ hs₁=>?_)
 refine wpAny_bind (wpAny_entryPlaceOf fun pl hpl=>?_)
 unfold EntryCells.newEntry newFields
 refine wpAny_bind (wpAny_newObj_type ?_ (hpl.sizeOk5 _ _ _ _ _))
 have he₁:h₁.get? e=some oe:=(hs₁.2.1 e hene).trans he
 have he₂:=Heap.get?_push_of_some (h:=h₁) { cls:=.type "traceback", dict:=none,data:=.fields ([head,.ref L,.none,rawInt L,.none]++(if pl.isEmpty then List.replicate 6 Value.none else pl)).toArray } he₁
 refine wpAny_setField he₂ hd hsz (h _ h₁.objs.size (Nat.le_of_eq hs₁.1.symm) ?_ ?_)
 ·have keep:∀ b o,b≠e→h₁.get? b=some o →
   ((h₁.push { cls:=.type "traceback", dict:=none,data:=.fields ([head,.ref L,.none,rawInt L,.none]++(if pl.isEmpty then List.replicate 6 Value.none else pl)).toArray }).update e (Obj.mapFields (·.setIfInBounds 1 (Value.ref h₁.objs.size)))).get? b=some o :=
   fun b o hbe hb=>by
    rw[Heap.get?_update_other _ _ (Ne.symm hbe)]
    exact Heap.get?_push_of_some _ hb
  have hd₃:=Obj.data_mapFields hd (·.setIfInBounds 1 (Value.ref h₁.objs.size))
  refine⟨fun b o hb n1 n2=>keep b o (fun z=>n2 (by rw[z];exact List.mem_singleton.mpr rfl)) ((hs₁.2.1 b n1).trans hb),fun b o hb n2=>?_,fun b o hb=>?_⟩
  ·obtain⟨sl,q⟩:=hs₁.2.2 b o hb
   exact⟨sl,keep b _ (fun z=>n2 (by rw[z];exact List.mem_singleton.mpr rfl)) q⟩
  ·by_cases z:b=e
   ·subst z
    exact⟨_,Heap.get?_update_self (Obj.mapFields (·.setIfInBounds 1 (Value.ref h₁.objs.size))) he₂ (Obj.isFreed_of_fields hd₃)⟩
   ·obtain⟨sl,q⟩:=hs₁.2.2 b o hb
    exact⟨_,keep b _ z q⟩
 ·have hTe:h₁.objs.size≠e:=Nat.ne_of_gt (Heap.lt_size he₁)
  have hd₃:=Obj.data_mapFields hd (·.setIfInBounds 1 (Value.ref h₁.objs.size))
  have he₃:=Heap.get?_update_self (Obj.mapFields (·.setIfInBounds 1 (Value.ref h₁.objs.size))) he₂ (Obj.isFreed_of_fields hd₃)
  have hT₃:=(Heap.get?_update_other (h₁.push { cls:=.type "traceback", dict:=none,data:=.fields ([head,.ref L,.none,rawInt L,.none]++(if pl.isEmpty then List.replicate 6 Value.none else pl)).toArray })
   (Obj.mapFields (·.setIfInBounds 1 (Value.ref h₁.objs.size))) (Ne.symm hTe)).trans (Heap.get?_push_size h₁ rfl)
  exact⟨_,_,_,_,he₃,⟨Obj.cls_mapFields _ _,(WW _ _).trans hdc⟩,hd₃,by simp[hsz],hTe,hT₃,rfl,by first|(simp;done)|(rcases hpl with rfl|⟨_,_,_,_,_,_,_,rfl⟩<;>simp)⟩
theorem O4{base:Heap}{env:Env}{outer:List Env}{L e:Addr}{cls:Value}{Q:Unit→Shared→Prop}
 (hfr:A.frames=some (env::outer)) (hl:s.heap.FunFrames base (env::outer)) (hf:env.frame=some L) (hx:ExcNew s.heap e cls)
 (h:∀ h' T,s.heap.objs.size≤T→iH (frs (env::outer)) [e] s.heap h'→ExcAt h' e T cls (rawInt L)→Q () { s with heap:=h' }):wpAny M A (noteFrame (.ref e) env) Q E s:=by
 obtain⟨oe,vs,he,⟨rfl,hdc⟩,hd,h1⟩:=hx
 unfold noteFrame
 simp only[hf]
 refine wpAny_bind (wpAny_field he hd h1 ?_)
 rw[if_neg (by decide)]
 exact Lh hfr hl hf he hdc hd (Array.getElem?_eq_some_iff.mp h1).1 h
theorem QK{base:Heap}{env:Env}{outer:List Env}{L e T:Addr}{cls:Value}{Q:Unit→Shared→Prop}
 (hfr:A.frames=some (env::outer)) (hl:s.heap.FunFrames base (env::outer)) (hf:env.frame=some L) (hx:ExcAt s.heap e T cls .none)
 (h:∀ h' T',s.heap.objs.size≤T'→iH (frs (env::outer)) [e,T] s.heap h'→ExcAt h' e T' cls (rawInt L)→Q () { s with heap:=h' }):wpAny M A (noteFrame (.ref e) env) Q E s:=by
 obtain⟨oe,vs,oT,ts,he,⟨rfl,hdc⟩,hd,h1,hTe,hT,hdT,h3⟩:=hx
 unfold noteFrame
 simp only[hf]
 refine wpAny_bind (wpAny_field he hd h1 ?_)
 rw[if_pos (show (Value.ref T != Value.none)=true from by simp)]
 refine wpAny_bind (wpAny_field hT hdT h3 ?_)
 rw[if_neg (show ¬ ((Value.none == rawInt L)=true) from by simp[rawInt])]
 refine wpAny_bind (wpAny_setField hT hdT (Array.getElem?_eq_some_iff.mp h3).1 ?_)
 have other:∀ b,b≠T→(s.heap.update T (Obj.mapFields (·.setIfInBounds 3 Value.none))).get? b=s.heap.get? b:=fun b hb=>Heap.get?_update_other _ _ (Ne.symm hb)
 have hself:=Heap.get?_update_self (Obj.mapFields (·.setIfInBounds 3 Value.none)) hT (Obj.isFreed_of_fields (Obj.data_mapFields hdT _))
 have n0:iH (frs (env::outer)) [T] s.heap (s.heap.update T (Obj.mapFields (·.setIfInBounds 3 Value.none))):=by
  refine⟨fun b o q _ n=>(other b fun z=>n (by rw[z];exact List.mem_singleton.mpr rfl)).trans q,fun b o q n=>⟨o.slots,(other b fun z=>n (by rw[z];exact List.mem_singleton.mpr rfl)).trans q⟩,fun b o q=>?_⟩
  by_cases z:b=T
  ·subst z;exact⟨_,hself⟩
  ·exact⟨o,(other b z).trans q⟩
 refine Lh hfr (n0.uK hl fun b z o q=>?_) hf ((other e (Ne.symm hTe)).trans he) hdc hd (Array.getElem?_eq_some_iff.mp h1).1 fun h' T' hT' n x=>h h' T' (Nat.le_trans (Nat.le_of_eq (by simp[Heap.update])) hT') ((n0.trans n).more fun b hb=>?_) x
 ·rw[List.mem_singleton.mp z,hT] at q;cases q;exact⟨ts,hdT⟩
 ·simp only[List.singleton_append,List.mem_cons,List.not_mem_nil,or_false] at hb ⊢
  exact hb.symm
theorem sX{e T:Addr}{cls fl:Value}{Q:Unit→Shared→Prop}(hx:ExcAt s.heap e T cls fl)(h:∀ h',iH [] [T] s.heap h'→s.heap.objs.size=h'.objs.size→ExcAt h' e T cls .none→Q () { s with heap:=h' }):wpAny M A (setFlight (.ref e) none) Q E s:=by
 obtain⟨oe,vs,oT,ts,he,hc,hd,h1,hTe,hT,hdT,h3⟩:=hx
 have hsz3:3 < ts.size:=(Array.getElem?_eq_some_iff.mp h3).1
 have other:∀ b,b≠T→(s.heap.update T (Obj.mapFields (·.setIfInBounds 3 ((none:Option Addr).elim Value.none fun f=>rawInt f)))).get? b=s.heap.get? b:=fun b hb=>Heap.get?_update_other _ _ (Ne.symm hb)
 have hself:=Heap.get?_update_self (Obj.mapFields (·.setIfInBounds 3 ((none:Option Addr).elim Value.none fun f=>rawInt f))) hT (Obj.isFreed_of_fields (Obj.data_mapFields hdT _))
 unfold setFlight
 refine wpAny_bind (wpAny_field he hd h1 ?_)
 rw[if_pos (show (Value.ref T != Value.none)=true from by simp)]
 refine wpAny_setField hT hdT hsz3 (h _ ?_ (by simp[Heap.update]) ?_)
 ·refine⟨fun b o q _ n=>(other b fun z=>n (by rw[z];exact List.mem_singleton.mpr rfl)).trans q,fun b o q n=>⟨o.slots,(other b fun z=>n (by rw[z];exact List.mem_singleton.mpr rfl)).trans q⟩,fun b o q=>?_⟩
  by_cases z:b=T
  ·subst z;exact⟨_,hself⟩
  ·exact⟨o,(other b z).trans q⟩
 ·exact⟨oe,vs,_,_,(other e (Ne.symm hTe)).trans he,hc,hd,h1,hTe,hself,Obj.data_mapFields hdT _,by simp[hsz3]⟩
theorem Lx{base:Heap}{env:Env}{outer:List Env}{L e:Addr}{cls:Value}{Q:Unit→Shared→Prop}
 (hfr:A.frames=some (env::outer)) (hl:s.heap.FunFrames base (env::outer)) (hf:env.frame=some L) (hx:ExcNew s.heap e cls)
 (h:∀ h' T,s.heap.objs.size≤T→iH (frs (env::outer)) [e,T] s.heap h'→ExcAt h' e T cls .none→Q () { s with heap:=h' }):wpAny M A (leaving env (.ref e)) Q E s:=by
 unfold leaving
 refine wpAny_bind (O4 hfr hl hf hx fun h1 T hT n x=>?_)
 refine sX x fun h2 n2 _ x2=>h h2 T hT ((n.trans (no':=[T]) ⟨fun b o q _=>n2.keep b o q (by simp),n2.slot,n2.there⟩).more fun b hb=>by simpa using hb) x2
theorem We{base:Heap}{env:Env}{outer:List Env}{L e T:Addr}{cls:Value}{Q:Unit→Shared→Prop}
 (hfr:A.frames=some (env::outer)) (hl:s.heap.FunFrames base (env::outer)) (hf:env.frame=some L) (hx:ExcAt s.heap e T cls .none)
 (h:∀ h' T',s.heap.objs.size≤T'→iH (frs (env::outer)) [e,T,T'] s.heap h'→ExcAt h' e T' cls .none→Q () { s with heap:=h' }):wpAny M A (leaving env (.ref e)) Q E s:=by
 unfold leaving
 refine wpAny_bind (QK hfr hl hf hx fun h1 T' hT n x=>?_)
 refine sX x fun h2 n2 _ x2=>h h2 T' hT ((n.trans (no':=[T']) ⟨fun b o q _=>n2.keep b o q (by simp),n2.slot,n2.there⟩).more fun b hb=>by simpa [or_assoc] using hb) x2
end
end L2
namespace L2
open PySem PySem.Spec PyProof.Rows
def Br(P:Program)(w:World):NQ:=fun outer H s E e s' =>
 ∃ ea T C H',e=.ref ea∧s'.os=s.os∧AllBare s'.gens∧Un (frs outer) [] H H' s.heap s'.heap∧rN P w H' s'.heap∧s.heap.get? ea=none∧s.heap.get? T=none∧H' ea=none∧H' T=none∧ExcAt s'.heap ea T (.ref C) .none∧E (.ref C) (some ea) H'
theorem dZ.there{P:Program}{w:World}{H:Hp}{h:Heap}{a:Addr}{o:HO}(x:dZ P w H h a o):∃ ob,h.get? a=some ob:=by
 have hlt:=x.stay (h':=h) (H':=H) (fun _ _ _ q=>q) (fun _ q=>q) fun _ _ q=>q
 cases o with
 | lst xs=>obtain⟨z,its,n,r,e⟩:=x;exact⟨_,e⟩
 | tup xs=>obtain⟨z,its,r,ob,e,c⟩:=x;exact⟨_,e⟩
 | dK kvs=>obtain⟨_,_,_,_,ob,es,ep,e,c⟩:=x;exact⟨_,e⟩
 | dT kvs=>obtain⟨_,_,_,_,ob,es,ep,e,c⟩:=x;exact⟨_,e⟩
 | set S n=>obtain⟨ob,es,ep,t,e,c⟩:=x;exact⟨_,e⟩
 | ins C dx fs=>obtain⟨d,z,ne,e,_⟩:=x;exact⟨_,e⟩
 | own y=>exact x
 | xd fs=>obtain⟨mA,⟨od,es,ep,e,c⟩,r⟩:=x;exact⟨_,e⟩
 | rng lo hi=>obtain⟨t,u,v,e⟩:=x;exact⟨_,e⟩
 | frz ob u=>exact⟨_,x.1⟩
 | tbl w ps=>exact⟨_,x⟩
 | met f y=>exact⟨_,x⟩
 | ext φ=>exact x.2.1
theorem rN.none_of{P:Program}{w:World}{H:Hp}{h:Heap}(k:rN P w H h){a:Addr}(e:h.get? a=none):H a=none:=by
 cases q:H a with
 | none=>rfl
 | some o =>
  obtain⟨ob,z⟩:=(k a o q).there
  rw[e] at z;cases z
section
variable{CX:NQ}{P:Program}{w:World}{K:W.Frag}{mg:Str→Option Value}{base:Heap}{N:List Str}{qual:Str}{scope:Scope}{f:Addr}{cd:Value}{A:Around}{outer:List Env}{s:Shared}{H:Hp}{E:XK}
theorem Rh{pins:List (Addr×Obj)}{σ : St}{H1:Hp}{s1:Shared}{h2:Heap}{no:List Addr}(I:Inv (qu CX P w K mg base N qual scope f cd A outer s H E) pins σ H1 s1)
 (n:iH (frs (envOfC qual scope s.heap.objs.size f cd::outer)) no s1.heap h2) (hn:∀ b∈no,s.heap.get? b=none∧H1 b=none):Un (frs outer) [] H H1 s.heap h2∧rN P w H1 h2:=by
 have B:Un (frs outer) [] H H1 s.heap s1.heap:=I.base
 have hL:∀ b o,s.heap.get? b=some o→b∉frs outer→b∉frs (envOfC qual scope s.heap.objs.size f cd::outer):=fun b o e nf z=>by
  have hz:frs (envOfC qual scope s.heap.objs.size f cd::outer)=s.heap.objs.size::frs outer:=rfl
  rw[hz] at z
  rcases List.mem_cons.mp z with q|q
  ·have:=Heap.lt_size e
   rw[q] at this;exact absurd this (Nat.lt_irrefl _)
  ·exact nf q
 have hno:∀ b o,s.heap.get? b=some o→b∉no:=fun b o e z=>by rw[(hn b z).1] at e;cases e
 refine⟨⟨fun b o e z nf nx=>n.keep b o (B.keep b o e z nf nx) (hL b o e nf) (hno b o e),fun b o e z nf nx=>?_,B.free,fun b o e nx=>?_,B.tups,B.yU,B.yl⟩,fun a o e=>?_⟩
 ·obtain⟨sl,q⟩:=B.slot b o e z nf nx
  obtain⟨sl2,q2⟩:=n.slot b _ q (hno b o e)
  exact⟨sl2,q2⟩
 ·obtain⟨o1,q⟩:=B.there b o e nx
  exact n.there b o1 q
 ·have hok:rN P w H1 s1.heap:=I.hok
  refine(hok a o e).stay (fun b u hb q=>?_) (fun _ q=>q) fun _ _ q=>q
  have tr:∃ ob,H1 b=some ob:=by
   rcases hb with rfl|hb
   ·exact⟨_,e⟩
   ·exact⟨_,hb⟩
  obtain⟨ob,tr⟩:=tr
  refine n.keep b u q (fun z=>?_) fun z=>?_
  ·have:=I.w6 b z
   rw[tr] at this;cases this
  ·rw[(hn b z).2] at tr;cases tr
theorem aaz{pins:List (Addr×Obj)}{σ : St}{H1:Hp}{s1:Shared}{h1:Heap}{e C:Addr}{vs:List Value}(I:Inv (qu (Br P w) P w K mg base N qual scope f cd A outer s H E) pins σ H1 s1)
 (m:Heap.MadeExcOf s1.heap h1 e (.ref C) vs) (q:E (.ref C) (some e) H1):(qu (Br P w) P w K mg base N qual scope f cd A outer s H E).xe (.ref e) { s1 with heap:=h1 }:=by
 have hfr:=I.ok.frames
 have hl:s1.heap.FunFrames base (envOfC qual scope s.heap.objs.size f cd::outer):=I.stack
 have nk:iH (frs (envOfC qual scope s.heap.objs.size f cd::outer)) [] s1.heap h1:=.of_keeps m.keeps
 have x:ExcNew h1 e (.ref C):=by
  obtain⟨t,he,_⟩:=m.there
  exact⟨_,_,he,⟨rfl,rfl⟩,rfl,rfl⟩
 have B:Un (frs outer) [] H H1 s.heap s1.heap:=I.base
 have new:∀ {b:Addr},s1.heap.get? b=none→s.heap.get? b=none∧H1 b=none:=fun {b} z=>by
  refine⟨?_,I.hok.none_of z⟩
  cases q:s.heap.get? b with
  | none=>rfl
  | some o =>
   obtain⟨o',z2⟩:=B.there b o q (by simp)
   rw[z] at z2;cases z2
 refine Lx (base:=base) (s:={ s1 with heap:=h1 }) hfr (nk.uK hl fun b z=>absurd z (by simp)) rfl x fun h2 T hT n2 x2=>?_
 have hTn:s1.heap.get? T=none:=by
  cases q2:s1.heap.get? T with
  | none=>rfl
  | some o=>exact absurd (Heap.lt_size (m.keeps T o q2)) (Nat.not_lt.mpr hT)
 have nn:∀ b∈[]++[e,T],s.heap.get? b=none∧H1 b=none:=fun b hb=>by
  simp only[List.nil_append,List.mem_cons,List.not_mem_nil,or_false] at hb
  rcases hb with rfl|rfl
  ·exact new m.new
  ·exact new hTn
 obtain⟨u1,u2⟩:=Rh I (nk.trans n2) nn
 exact⟨e,T,C,H1,rfl,I.os,I.bare,u1,u2,(nn e (by simp)).1,(nn T (by simp)).1,(nn e (by simp)).2,(nn T (by simp)).2,x2,q⟩
theorem QB:Et (Br P w) (qu (Br P w) P w K mg base N qual scope f cd A outer s H E) E:=by
 rintro pins σ H1 s1 e s2 I ⟨ea,T,C,H2,rfl,os2,aal,un2,ok2,n1,n2,n3,n4,x,q⟩
 have ael:Un (frs (envOfC qual scope s.heap.objs.size f cd::outer)) [] H1 H2 s1.heap s2.heap:=un2
 have I2:Inv (qu (Br P w) P w K mg base N qual scope f cd A outer s H E) pins σ H2 s2:=I.call' os2 (ch:=[]) un2 ok2 aal (fun b z=>absurd z (by simp))
 have hfr:=I2.ok.frames
 have hl:s2.heap.FunFrames base (envOfC qual scope s.heap.objs.size f cd::outer):=I2.stack
 have B:Un (frs outer) [] H H1 s.heap s1.heap:=I.base
 have old:∀ {b:Addr},s1.heap.get? b=none→s.heap.get? b=none:=fun {b} z=>by
  cases q:s.heap.get? b with
  | none=>rfl
  | some o =>
   obtain⟨o',z2⟩:=B.there b o q (by simp)
   rw[z] at z2;cases z2
 refine We (base:=base) (s:=s2) hfr hl rfl x fun h3 T' hT' n x3=>?_
 have hTn:s2.heap.get? T'=none:=by
  cases q2:s2.heap.get? T' with
  | none=>rfl
  | some o=>exact absurd (Heap.lt_size q2) (Nat.not_lt.mpr hT')
 have hTs:s1.heap.get? T'=none:=by
  cases q2:s1.heap.get? T' with
  | none=>rfl
  | some o =>
   obtain⟨o',z2⟩:=ael.there T' o q2 (by simp)
   rw[hTn] at z2;cases z2
 have nn:∀ b∈[ea,T,T'],s.heap.get? b=none∧H2 b=none:=fun b hb=>by
  simp only[List.mem_cons,List.not_mem_nil,or_false] at hb
  rcases hb with rfl|rfl|rfl
  ·exact⟨old n1,n3⟩
  ·exact⟨old n2,n4⟩
  ·exact⟨old hTs,ok2.none_of hTn⟩
 obtain⟨u1,u2⟩:=Rh I2 n nn
 exact⟨ea,T',C,H2,rfl,I2.os,aal,u1,u2,(nn ea (by simp)).1,(nn T' (by simp)).1,(nn ea (by simp)).2,(nn T' (by simp)).2,x3,q⟩
end
end L2
namespace L2
open PySem PySem.Spec PyProof.Rows
section
variable{P:Program}{w:World}{K:W.Frag}{mg:Str→Option Value}{base:Heap}{N:List Str}{qual:Str}{scope:Scope}{f:Addr}{cd:Value}{A:Around}{outer:List Env}{s:Shared}{H:Hp}{E:XK}
theorem KY{x:Str}{C:Addr}{bm:List Value}{B newId initId:String}{e:Expr}{te:TE}{np cpos pos:Pos}(FB:ExcBaseFacts B newId initId bm)(O:OwnCls x C bm newId mg base)
 (he:PE (qu (Br P w) P w K mg base N qual scope f cd A outer s H E) e te) (hg:Gl (qu (Br P w) P w K mg base N qual scope f cd A outer s H E) x) (hd:(x == ("__debug__" : Str))=false:=by decide)
 (hs:starEach [e] (qu (Br P w) P w K mg base N qual scope f cd A outer s H E).env=(false,eval e (qu (Br P w) P w K mg base N qual scope f cd A outer s H E).env)::starEach [] (qu (Br P w) P w K mg base N qual scope f cd A outer s H E).env:=by rfl) :
 PS (qu (Br P w) P w K mg base N qual scope f cd A outer s H E) (.Raise (some (.Call (.Name x np) [e] [] cpos)) none pos) (fun _ σ H1=>te σ H1 fun _ H2=>∀ ea,H2 ea=none→E (.ref C) (some ea) H2):=by
 intro pins s1 σ H1 D I h
 obtain⟨tl,N',nm,q,bs,hdct,sn,sub,ab,col,dd,k0,k1,k2,k3,k5,mN,hC,hN,hni,T⟩:=O.obj
 refine wpAny_Raise_call_subT (C:=C) (nm:=nm) (q:=q) (N:=N') (bs:=bs) (bm:=tl) (hdct:=hdct) (sn:=sn) (sub:=sub) (ab:=ab) (col:=col) (dd:=dd) (k0:=k0) (k1:=k1) (k2:=k2) (k3:=k3) (k5:=k5)
  FB (mN:=mN) (T.hasType FB.hasBase) (I.ok.hd rfl) (by rw[hs];rfl) hni (vd I hg O.bound ⟨rfl,?_⟩ hd)
 rw[hs]
 refine Calls.evalArgs_plain (Calls.spliced_cons (gW (he pins s1 σ H1 _ I h) fun v s2 ⟨v',H2,I2,r,q2⟩=>Calls.spliced_nil ?_))
 exact⟨rfl,by rw[sizeLine_eq];simp,I2.bk _ _ hC,hN.keeps I2.bk,T.keeps I2.bk,fun h' e' m=>aaz I2 m (q2 e' (I2.hok.none_of m.new))⟩
end
end L2
namespace Mi
open PySem
def oG{α : Type}(r:Rs α)(k:α→Prop)(x:JW→Prop):Prop:=match r with
 | .ok a=>k a
 | .ex z=>x z
 | .no=>False
theorem fY{α β : Type}{r:Rs α}{f:α→Rs β}{k:β→Prop}{x:JW→Prop}:oG (r.bind f) k x↔oG r (fun a=>oG (f a) k x) x:=by cases r<;>exact Iff.rfl
theorem oG.mono{α : Type}{r:Rs α}{k k':α→Prop}{x x':JW→Prop}(h:oG r k x)(m:∀ a,k a→k' a)(n:∀ z,x z→x' z):oG r k' x':=by
 cases r with
 | ok a=>exact m a h
 | ex z=>exact n z h
 | no=>exact h
theorem Dt{α : Type}{c:Prop}[Decidable c]{r:Rs α}{k:α→Prop}{x:JW→Prop}(h:oG (aU c r) k x):c∧oG r k x:=by
 unfold aU at h
 split at h
 ·exact⟨‹_›,h⟩
 ·exact h.elim
theorem abN{α : Type}{r s:Rs α}{k:α→Prop}{x:JW→Prop}(h:oG (if true=true then r else s) k x):oG r k x:=by simpa using h
theorem abO{α : Type}{r s:Rs α}{k:α→Prop}{x:JW→Prop}(h:oG (if false=true then r else s) k x):oG s k x:=by simpa using h
def still{α : Type}:Rs α→Rs α
 | .ex _=>.no
 | r=>r
theorem qK{α : Type}{r:Rs α}{k:α→Prop}{x:JW→Prop}(h:oG (still r) k x):Fin r k:=by cases r<;>exact h
theorem Km{α : Type}{r:Rs α}{a:α}(h:r=.ok a):still r=.ok a:=by rw[h];rfl
def sP(m:S):S:=fun e=>still (m e)
def cP(c:C):C:=fun e=>still (c e)
def uC(f:Fn)(ws:List EW):S:=fun e=>(still (bW ws e)).bind fun vs=>(f vs).bind fun _=>.ok (.nx e)
end Mi
namespace A
open PySem L2 PyProof.Rows So
open Mi (D W Rs Fin oG az fY Out Tg JW)
variable[Tb:jb]
def wish(cl:String→Addr)(E:XK):JW→Hp→Prop:=fun z H'=>∀ ea,H' ea=none→E (.ref (cl z.cls)) (some ea) H'
def Uj(M:Nat→Bool)(κ : Kd)(x:JW→Hp→Prop)(t:TS)(m:Mi.S):Prop:=∀ H0 Hv0 e σ H Hv D,R1 M H0 Hv0 e σ H Hv→oG (m e) (tV M κ H0 Hv0 D Hv) (fun z=>∀ H' Hv',dw H0 Hv0 H' Hv'→x z H')→t D σ H
section
variable{M:Nat→Bool}{κ : Kd}{x:JW→Hp→Prop}{t u:TS}{m n:Mi.S}{cl:String→Addr}{E:XK}
theorem wC(h:AS M κ t m):Uj M κ x t (Mi.sP m):=fun H0 Hv0 e σ H Hv D I f=>h H0 Hv0 e σ H Hv D I (Mi.qK f)
theorem xZ(h1:Uj M κ x t m)(h2:Uj M κ x u n):Uj M κ x (aaJ t u) (Mi.aW m n):=fun H0 Hv0 e σ H Hv D I h =>
 h1 H0 Hv0 e σ H Hv _ I ((fY.mp h).mono (fun o ho=>by
  cases o with
  | nx e'=>exact fun σ' H' Hv' I' s=>h2 H0 Hv0 e' σ' H' Hv' D I' (oG.mono ho (fun o z=>z.up s) fun _ z=>z)
  | rt w=>exact ho
  | bk e'=>exact ho
  | ct e'=>exact ho) fun _ z=>z)
theorem ab3{tt:TT}{c:Mi.C}(hc:AT M tt c)(h1:Uj M κ x t m)(h2:Uj M κ x u n):Uj M κ x (Yb tt t u) (Mi.iI (Mi.cP c) m n):=fun H0 Hv0 e σ H Hv D I h =>
 hc e σ H Hv _ I.toR0 ((Mi.qK (fY.mp h)).mono fun b hb H1 Hv1 g1=>by
  cases b with
  | true=>exact Di (h1 H0 Hv0 e σ H1 Hv1 D (I.grow g1) ((Mi.abN hb).mono (fun o z=>z.up g1.vis) fun _ z=>z))
  | false=>exact Dj (h2 H0 Hv0 e σ H1 Hv1 D (I.grow g1) ((Mi.abO hb).mono (fun o z=>z.up g1.vis) fun _ z=>z)))
def U7(cl:String→Addr)(f:Mi.Fn):Sp:=fun vs H Q E=>∃ Hv ws,Vw H Hv∧P2 (uR Hv) ws vs∧oG (f ws) (fun w=>∀ v H' Hv',dw H Hv H' Hv'→qV H H' Hv' w v→Q v H') (fun z=>∀ H' Hv',dw H Hv H' Hv'→wish cl E z H')
theorem Xz{f:Mi.Fn}{ws:List Mi.EW}{tr:TA}(ha:AAW M qV tr (Mi.bW ws)):Uj M κ (wish cl E) (Fy (vz (U7 cl f) [] E tr)) (Mi.uC f ws):=fun H0 Hv0 e σ H Hv D I h =>
 ha e σ H Hv _ I.toR0 ((Mi.qK (fY.mp h)).mono fun ds hx vs H1 Hv1 g1 rx=>by
  rw[List.append_nil]
  refine⟨Hv1,ds,g1.vw,rx,(fY.mp hx).mono (fun w hw v H3 Hv3 g3 r=>?_) fun z hz H3 Hv3 g3=>?_⟩
  ·exact hw σ H3 Hv3 (I.grow (g1.trans g3)) (g1.trans g3).vis
  ·exact hz H3 Hv3 (I.gw.trans (g1.trans g3)))
theorem abw{f:Mi.S}{k n:Nat}{vs:List V}{H:Hp}{Q:VK}{E:XK}(h:U7 cl (Mi.uL k n f) vs H Q E):vs.length=k:=by
 obtain⟨Hv,ws,_,p,q⟩:=h
 rw[← p.len];exact(Mi.Dt q).1
theorem aaU{N:List Str}{k:Nat}{vs:List V}{H:Hp}{Q:VK}(hA:Uj M qV (wish cl E) t m)(hM:∀ i,i < k→M i=false)(h:U7 cl (Mi.uL k N.length m) vs H Q E):t { nx:=fun _ H'=>Q .non H',rt:=Q } (start N vs) H:=by
 obtain⟨Hv,ws,vw,p,q⟩:=h
 obtain⟨hk,q⟩:=Mi.Dt q
 refine hA H Hv _ _ H Hv _ (BV vw p hk hM) ((fY.mp q).mono (fun o ho=>?_) fun z hz=>hz)
 cases o with
 | nx e=>exact fun σ H' Hv' I s=>ho _ H' Hv' I.gw Oq
 | rt w=>exact fun v H' Hv' g r=>ho v H' Hv' g r
 | bk e=>exact ho.elim
 | ct e=>exact ho.elim
end
theorem _root_.L2.mX.okX{P:Program}{w:World}{K:W.Frag}{mg:Str→Option Value}{base:Heap}{x qual:Str}{st:Stmt}{f:Addr}{fd:FuncData}{N ps:List Str}{k:Nat}{sp:Sp}(F:mX K x qual st f fd)(S:bz N ps (aQ st))(len:∀ vs H Q E,sp vs H Q E→vs.length=ps.length)
 (hbody:∀ (cdv:Value) (A:Around) (outer:List Env) (s:Shared) (H:Hp) (vs:List V) (Q:VK) (E:XK),kW k (A.deeper (envOfC qual (aQ st) s.heap.objs.size f cdv))→sp vs H Q E →
  ∃ t,J5 (qu (Br P w) P w K mg base N qual (aQ st) f cdv A outer s H E) (jL st) t∧t { nx:=fun _ H'=>Q .non H',rt:=Q } (start N vs) H):dz P w K mg base (Br P w) (k+1) f fd ps sp:=by
 obtain⟨oc,od,kV,doc,pm,an,cdv,ct,osl,rfl,lk,hcd⟩:=F.ex
 exact Wv lk hcd S len fun A outer s H vs Q E hr hsp=>hbody cdv A outer s H vs Q E hr hsp
end A
namespace L2
open PySem PySem.Spec PyProof.Rows
abbrev XF:=Addr→Addr→St→Hp→Prop
abbrev TSX:=Ends→XF→St→Hp→Prop
def XP(X:Cx)(pins:List (Addr×Obj))(F:XF)(e:Value)(s':Shared):Prop :=
 ∃ σ H1 s1,Inv X pins σ H1 s1∧Br X.prog X.w X.stack H1 s1 (fun c oa H2=>∃ C ea,c=.ref C∧oa=some ea∧F C ea σ H2) e s'
def PSX(X:Cx)(st:Stmt)(t:TSX):Prop:=∀ (pins:List (Addr×Obj)) (s:Shared) (σ : St) (H:Hp) (D:Ends) (F:XF),Inv X pins σ H s→t D F σ H→wpAny (model X.prog X.w) X.A (exec st X.env) (SP X pins D) (XP X pins F) s
def adW(X:Cx)(st:List Stmt)(t:TSX):Prop:=∀ (pins:List (Addr×Obj)) (s:Shared) (σ : St) (H:Hp) (D:Ends) (F:XF),Inv X pins σ H s→t D F σ H→wpAny (model X.prog X.w) X.A (execs st X.env) (SP X pins D) (XP X pins F) s
section
variable{X:Cx}{st:Stmt}{t u:TSX}
theorem Yq(h:PSX X st t):adW X [st] t:=by
 intro pins s σ H D F I q
 refine wpAny_execs_cons (wpAny_mono (h pins s σ H D F I q) (fun f s1 q=>?_) fun _ _ z=>z)
 cases f with
 | next=>exact wpAny_execs_nil q
 | ret v=>exact q
 | brk=>exact q
 | cont=>exact q
def U4(sp:Sp)(t:TA):TSX:=fun D F σ H=>t σ H fun vs H1=>sp vs H1 (fun _ H2=>D.nx σ H2) (fun c oa H2=>∃ C ea,c=.ref C∧oa=some ea∧F C ea σ H2)
theorem Vr{k:Nat}{x:Str}{ps:List Str}{sp:Sp}{e:Expr}{es:List Expr}{t:TA}{p cpos pos:Pos}(hx:X.xe=fun _ _=>False)(C:kZ X.prog X.w X.K X.mg X.base (Br X.prog X.w) k x ps sp)(hr:kW k X.A)(hg:Gl X x)
 (ha:PA X (e::es) t) (hdb:(x == ("__debug__" : Str))=false:=by decide) (he:starEach (e::es) X.env=(false,eval e X.env)::starEach es X.env:=by rfl) (hpl:(backTo cpos (starEach es X.env)).any (·.1)=false:=by rfl)
 (hs:swapsWith (.Call (.Name x p) (e::es) [] cpos) none pos.line X.env=pure false:=by rfl):PSX X (.Expr (.Call (.Name x p) (e::es) [] cpos) pos) (U4 sp t):=by
 intro pins s σ H D F I h
 obtain⟨f,fd,hm,hk,hb,Fo⟩:=C.ex
 refine wpAny_Expr_any ?_ I.quiet hs
 refine wpAny_Call_Name_kw (vd I hg hm ?_ hdb)
 refine W.callWith_K (h₀:=X.base) I.ok.mod.kin hk (wpAny_mono (ha cpos pins s σ H _ I h) (fun us s1 ⟨vs,H1,I1,r,q⟩=>⟨I1.Bg,?_⟩) fun _ _ z=>by rw[hx] at z;exact z.elim) he hpl
 have hl:us.length=ps.length:=by rw[← r.length];exact Fo.len _ _ _ _ q
 refine wpAny_call (codeAny_mono (Fo.run X.A X.stack s1 H1 ⟨us,[]⟩ us vs _ _ hr I1.env0 (by have:=hb s1 us I1.Bg (by rw[List.append_nil];exact hl);rwa [List.append_nil] at this) r q) fun res s' hq=>?_)
 cases res with
 | error e'=>exact⟨σ,H1,s1,I1,hq⟩
 | ok fl =>
  cases fl with
  | ret v =>
   obtain⟨v',H2,I2,_,q2⟩:=I1.after hq
   exact⟨σ,H2,I2,q2⟩
  | next=>exact False.elim hq
  | brk=>exact False.elim hq
  | cont=>exact False.elim hq
end
def Cx.held(X:Cx)(e:Value):Cx:={ X with A:=X.A.mark (some e),calm:=false,xe:=fun _ _=>False }
section
variable{X:Cx}{pins:List (Addr×Obj)}{σ : St}{H:Hp}{s:Shared}
theorem Inv.held(I:Inv X pins σ H s)(e:Value):Inv (X.held e) pins σ H s :=
 ⟨⟨I.ok.mod,I.ok.kind,I.ok.glob,I.ok.blt,I.ok.above,I.ok.inj,I.ok.has,I.ok.cab,fun z=>(nomatch z),I.ok.frames,I.ok.stk,I.ok.exf,I.ok.bs,I.ok.bsz,I.ok.O5,I.ok.Tp,I.ok.uK,I.ok.frf⟩,I.os,I.bare,I.base,I.loc,I.cell,I.free,I.nZ,I.pin,I.hok,I.len⟩
theorem Inv.Hu{e:Value}(J:X.Ok)(I:Inv (X.held e) pins σ H s):Inv X pins σ H s :=
 ⟨J,I.os,I.bare,I.base,I.loc,I.cell,I.free,I.nZ,I.pin,I.hok,I.len⟩
end
end L2
namespace L2
open PySem PySem.Spec PyProof.Rows
open A (yV)
section
variable{X:Cx}{pins:List (Addr×Obj)}{σ : St}{H:Hp}{s:Shared}
theorem xJ{M:Model}{A:Around}{E:Value→Shared→Prop}{i:Nat}{n:Str}{pos:Pos}{Q:Unit→Shared→Prop}(I:Inv X pins σ H s)(hN:X.N.Nodup)(hi:X.N[i]? = some n)(hk:X.env.scope.names.lookup n=some .local)
 (h:∀ s',Inv X pins (σ.set i none) H s'→Q () s'):wpAny M A (do bindName X.env n .none;unbindBehindTheSuite X.env n pos) Q E s:=by
 have hcls:(X.env.scope.kind == .class || (X.env.scope.kind == .module && X.env.locals != X.env.globals))=false:=by rw[I.ok.kind];rfl
 have hiσ : i < σ.length:=by rw[I.len];exact(List.getElem?_eq_some_iff.mp hi).1
 refine wpAny_bind (wpAny_bindName (wZ (v:=.non) (u:=.none) I hN hi (.inl hk) rfl (fun s1 I1=>?_) (.inr hk)))
 obtain⟨m,hn,hl⟩:=id I1.loc
 have hsome:(m n).isSome=true:=by
  obtain⟨u,_,q⟩:=hl i n .non hi (List.getElem?_set_self hiσ) (.inl hk)
  rcases q with ⟨_,e⟩|⟨k,_⟩
  ·rw[e];rfl
  ·have hk':X.env.kindOf n=some .local:=hk
   rcases k with k|k<;>(rw[hk'] at k;cases k)
 have hk':X.env.kindOf n=some .local:=hk
 unfold unbindBehindTheSuite
 refine wpAny_onRaise ?_
 unfold unbindName
 refine wpAny_bind (wpAny_point (wpAny_bind ?_))
 unfold deleteName
 simp only[hk',hcls]
 rw[if_neg (by decide)]
 refine wpAny_bind (wpAny_nsDel_keeps hn fun h2 v hn2 hs2=>?_)
 rw[hsome]
 simp only[if_true,Bool.not_true,Bool.false_eq_true,if_false]
 refine wpAny_pure (wpAny_point (h _ ?_))
 obtain⟨oL,_,_,hoL,_⟩:=id hn
 have ne:∀ {b o},X.s₀.heap.get? b=some o→b≠X.env.locals:=fun {b o} e=>Nat.ne_of_lt (Nat.lt_of_lt_of_le (Heap.lt_size e) I1.ok.above)
 refine⟨I1.ok,I1.os,I1.bare,⟨fun b o e z hb hx=>(hs2.2 b (ne e)).trans (I1.base.keep b o e z hb hx),fun b o e z hb hx=>?_,I1.base.free,fun b o e hx=>?_,I1.base.tups,I1.base.yU,I1.base.yl⟩,⟨_,hn2,fun j y v' e1 e2 e3=>?_⟩,fun y c e=>?_,I1.free,I1.nZ,fun p hp=>?_,?_,by simpa using I1.len⟩
 ·obtain⟨sl,e1⟩:=I1.base.slot b o e z hb hx
  exact⟨sl,(hs2.2 b (ne e)).trans e1⟩
 ·obtain⟨o',e1⟩:=I1.base.there b o e hx
  exact⟨o',(hs2.2 b (ne e)).trans e1⟩
 ·by_cases hj:j=i
  ·subst hj
   rw[List.getElem?_set_self hiσ] at e2;cases e2
  ·have e2':(σ.set i (some V.non))[j]? = some (some v'):=by
    rw[List.getElem?_set_ne (Ne.symm hj)] at e2 ⊢;exact e2
   obtain⟨u',r',q⟩:=hl j y v' e1 e2' e3
   refine⟨u',r',?_⟩
   rcases q with ⟨k,e⟩|⟨k,c,e,z⟩
   ·refine .inl ⟨k,?_⟩
    have:y≠n:=fun e=>hj (CP hN e1 (e ▸ hi))
    simp[this,e]
   ·refine .inr ⟨k,c,e,?_⟩
    obtain⟨o,ho,hd⟩:=z
    exact⟨o,(hs2.2 c (I1.Zi y c e)).trans ho,hd⟩
 ·obtain⟨v2,o,ho,hd⟩:=I1.cell y c e
  exact⟨v2,o,(hs2.2 c (I1.Zi y c e)).trans ho,hd⟩
 ·obtain⟨q1,q2,q3,q4⟩:=I1.pin p hp
  exact⟨(hs2.2 _ q3).trans q1,q2,q3,q4⟩
 ·intro b ob e
  refine(I1.hok b ob e).stay (fun c w' hc q=>(hs2.2 c ?_).trans q) (fun _ q=>q) fun _ _ q=>q
  rintro rfl
  rcases hc with rfl|hc
  ·rw[I1.free] at e;cases e
  ·rw[I1.free] at hc;cases hc
theorem Inv.caught{H1 H2:Hp}{s1 s':Shared}{h4:Heap}{ea C:Addr}{no:List Addr}{oe:Obj}(I1:Inv X pins σ H1 s1)(os:s'.os=s1.os)(bare:AllBare s'.gens)(un:Un (frs X.stack) [] H1 H2 s1.heap s'.heap)(ok2:rN X.prog X.w H2 s'.heap)
 (n:iH (frs X.stack) no s'.heap h4) (hno:∀ b∈no,s1.heap.get? b=none∧H2 b=none) (he:ea∈no) (hx:h4.get? ea=some oe) (hc:oe.cls=.ref C) (hcd:oe.dict=none) (hcf:∃ vs,oe.data=.fields vs):Inv X pins σ (upd H2 ea (.ext (yV ea C))) { s' with heap:=h4 }:=by
 have I2:Inv X pins σ H2 s':=I1.call' os (ch:=[]) un ok2 bare (fun b z=>absurd z (by simp))
 have old:∀ {b o},s1.heap.get? b=some o→b∉no:=fun {b o} e z=>by rw[(hno b z).1] at e;cases e
 have nee:∀ {b o},H2 b=some o→b≠ea:=fun {b o} e z=>by rw[z,(hno ea he).2] at e;cases e
 refine I1.call' (s':={ s' with heap:=h4 }) os (ch:=[]) ⟨fun b o e z nf nx=>n.keep b o (un.keep b o e z nf nx) nf (old e),fun b o e z nf nx=>?_,fun b o e z nx=>?_,fun b o e nx=>?_,fun b xs e=>?_,fun b o u e=>?_,fun b w ps e=>?_⟩ ?_ bare (fun b z=>absurd z (by simp))
 ·obtain⟨sl,q⟩:=un.slot b o e z nf nx
  obtain⟨sl2,q2⟩:=n.slot b _ q (old e)
  exact⟨sl2,q2⟩
 ·rw[aN (fun y:b=ea=>old e (by rw[y];exact he))]
  exact un.free b o e z nx
 ·obtain⟨o1,q⟩:=un.there b o e nx
  exact n.there b o1 q
 ·have q:=un.tups b xs e
  rw[aN (nee q)];exact q
 ·have q:=un.yU b o u e
  rw[aN (nee q)];exact q
 ·obtain⟨more,q⟩:=un.yl b w ps e
  exact⟨more,by rw[aN (nee q)];exact q⟩
 ·intro a o e
  by_cases ha:a=ea
  ·subst ha
   rw[bc] at e;cases e
   refine⟨⟨oe,hx,hc,hcd,hcf⟩,⟨oe,hx⟩,fun k1 k2 ⟨o,q1,q2⟩ kk=>⟨o,kk o q1,q2⟩⟩
  ·rw[aN ha] at e
   refine(ok2 a o e).stay (fun b u hb q=>?_) (fun b q=>by rw[aN (nee q)];exact q) fun b xs q=>by rw[aN (nee q)];exact q
   have tr:∃ ob,H2 b=some ob:=by
    rcases hb with rfl|hb
    ·exact⟨_,e⟩
    ·exact⟨_,hb⟩
   obtain⟨ob,tr⟩:=tr
   refine n.keep b u q (fun z=>?_) fun z=>?_
   ·have:=I2.w6 b z
    rw[tr] at this;cases this
   ·rw[(hno b z).2] at tr;cases tr
def aeq(i:Nat)(D:Ends):Ends:={ nx:=fun σ H=>D.nx (σ.set i none) H,rt:=D.rt,bk:=fun σ H=>D.bk (σ.set i none) H,ct:=fun σ H=>D.ct (σ.set i none) H }
def acr(i:Nat)(okC:Addr→Prop)(tb:TSX)(th:TS):TS:=fun D σ H=>tb D (fun C ea σ' H2=>okC C∧th (aeq i D) (σ'.set i (some (.ref ea))) (upd H2 ea (.ext (yV ea C)))) σ H
theorem aaZ{body suite:List Stmt}{b0:Stmt}{tb:TSX}{th:TS}{x n:Str}{i:Nat}{C0:Addr}{np hpos pos:Pos}{okC:Addr→Prop}(hx:X.xe=fun _ _=>False)(hst:X.stack=X.env::X.outer)(hfr:X.env.frame=some X.env.locals)
 (hN:X.N.Nodup) (hi:X.N[i]? = some n) (hk:X.env.scope.names.lookup n=some .local) (hg:Gl X x) (hm:X.mg x=some (.ref C0)) (abJ:∀ C,okC C→W.exmOne X.K (.ref C) (.ref C0)=some true)
 (hb:adW X body tb) (hh:∀ ea,J5 (X.held (.ref ea)) (b0::suite) th) (hdb:(x == ("__debug__" : Str))=false:=by decide) :
 PS X (.Try body [.ExceptHandler (some (.Name x np)) (some n) (b0::suite) hpos] [] [] pos) (acr i okC tb th):=by
 intro pins s σ0 H0 D I h
 refine wpAny_Try_except (wpAny_mono (hb pins s σ0 H0 D _ I h) (fun f s1 q=>?_) fun e s' xp=>?_)
 ·cases f with
  | next=>exact wpAny_execs_nil q
  | ret v=>exact q
  | brk=>exact q
  | cont=>exact q
 obtain⟨σ,H1,s1,I1,ea,T,C,H2,rfl,os,bare,un,ok2,n1,n2,n3,n4,xx,C',ea',eC,eE,okc,ht⟩:=xp
 cases eC;cases eE
 have I2:Inv X pins σ H2 s':=I1.call' os (ch:=[]) un ok2 bare (fun b z=>absurd z (by simp))
 have aeH:X.A.frames=some (X.env::X.outer):=by rw[← hst];exact I2.ok.frames
 have hl:s'.heap.FunFrames X.base (X.env::X.outer):=by rw[← hst];exact I2.stack
 refine QK (base:=X.base) aeH hl hfr xx fun h3 T' hT' n x3=>?_
 refine sX (s:={ s' with heap:=h3 }) x3 fun h4 m4 _ x4=>?_
 have aeu:s1.heap.get? T'=none∧H2 T'=none:=by
  have hTn:s'.heap.get? T'=none:=by
   cases q2:s'.heap.get? T' with
   | none=>rfl
   | some o=>exact absurd (Heap.lt_size q2) (Nat.not_lt.mpr hT')
  refine⟨?_,ok2.none_of hTn⟩
  cases q2:s1.heap.get? T' with
  | none=>rfl
  | some o =>
   obtain⟨o',z2⟩:=un.there T' o q2 (by simp)
   rw[hTn] at z2;cases z2
 have nn:∀ b∈[ea,T,T'],s1.heap.get? b=none∧H2 b=none:=fun b hb=>by
  simp only[List.mem_cons,List.not_mem_nil,or_false] at hb
  rcases hb with rfl|rfl|rfl
  ·exact⟨n1,n3⟩
  ·exact⟨n2,n4⟩
  ·exact aeu
 have wide:∀ {k k':Heap},iH [] [T'] k k'→iH (frs X.stack) [T'] k k':=fun z=>⟨fun b o q _=>z.keep b o q (by simp),z.slot,z.there⟩
 have n':iH (frs X.stack) [ea,T] s'.heap h3:=by rw[hst];exact n
 have N4:iH (frs X.stack) [ea,T,T'] s'.heap h4:=(n'.trans (wide m4)).more fun b hb=>by simpa [or_assoc] using hb
 have x4':=x4
 obtain⟨oe,vs,oT,ts,he,⟨hc,hcd⟩,hcf,_⟩:=x4'
 have I4:=I1.caught os bare un ok2 N4 nn (by simp) he hc hcd ⟨vs,hcf⟩
 refine wpAny_handleBy_cons (codeAny_handlers_test ?_) (by intro q;cases q)
 refine vd (X:=X.held (.ref ea)) (I4.held _) hg hm ?_ hdb
 have LT:W.Looks (model X.prog X.w) h4 (typeOf (.ref ea)) (.ref C):=by
  rw[← hc]
  exact(W.Looks.ld he).andThen .now
 refine W.exm_one (K:=X.K) I4.Bg LT (abJ C okc) _ _ _ { s' with heap:=h4 } (fun _ _ q=>q) ?_
 refine codeAny_handlers_suite_as ?_
 refine sX (s:={ s' with heap:=h4 }) x4 fun h5 m5 _ x5=>?_
 have N5:iH (frs X.stack) [ea,T,T'] s'.heap h5:=(N4.trans (wide m5)).more fun b hb=>by
  simp only[List.cons_append,List.nil_append,List.mem_cons,List.not_mem_nil,or_false] at hb ⊢
  rcases hb with z|z|z|z
  ·exact .inl z
  ·exact .inr (.inl z)
  ·exact .inr (.inr z)
  ·exact .inr (.inr z)
 obtain⟨oe5,vs5,_,_,he5,⟨hc5,aeJ⟩,aeI,_⟩:=x5
 have I5:=I1.caught os bare un ok2 N5 nn (by simp) he5 hc5 aeJ ⟨vs5,aeI⟩
 refine wZ (X:=X.held (.ref ea)) (i:=i) (v:=.ref ea) (I5.held _) hN hi (.inl hk) rfl (fun s6 I6=>?_) (.inr hk)
 refine wpAny_mono (hh ea pins s6 _ _ _ I6 ht) (fun f s7 q=>?_) fun _ _ z=>z.elim
 have J:=I.ok
 cases f with
 | next =>
  obtain⟨σ',H',I7,q⟩:=q
  exact xJ (I7.Hu J) hN hi hk fun s8 I8=>⟨_,_,I8,q⟩
 | brk =>
  obtain⟨σ',H',I7,q⟩:=q
  exact xJ (I7.Hu J) hN hi hk fun s8 I8=>⟨_,_,I8,q⟩
 | cont =>
  obtain⟨σ',H',I7,q⟩:=q
  exact xJ (I7.Hu J) hN hi hk fun s8 I8=>⟨_,_,I8,q⟩
 | ret v =>
  obtain⟨v',σ',H',I7,r,q⟩:=q
  exact xJ (I7.Hu J) hN hi hk fun s8 I8=>⟨v',_,_,I8,r,q⟩
end
end L2
namespace L2
open PySem PySem.Spec PyProof.Rows
structure tU(k:Nat)(A:Around):Prop where
 dp:A.depth+3 * k+5 < recursionLimit
 un:A.units+16 * k+200 < cLine
theorem kW.adv{k:Nat}{A:Around}(r:kW k A)(e:Value):tU k (A.mark (some e)):=⟨r.dp,r.un⟩
theorem tU.deeper{k:Nat}{A:Around}(r:tU (k+1) A)(env:Env):tU k (A.deeper env) :=
 ⟨by have:=r.dp;show A.depth+1+3 * k+5 < _;omega,by have:=r.un;show A.units+3+16 * k+200 < _;omega⟩
theorem tU.depth{k:Nat}{A:Around}(r:tU k A):A.depth < recursionLimit:=by have:=r.dp;omega
theorem tU.units{k:Nat}{A:Around}(r:tU k A):A.units+64 < cLine:=by have:=r.un;omega
structure Nx(P:Program)(w:World)(K:W.Frag)(mg:Str→Option Value)(base:Heap)(k:Nat)(f:Addr)(fd:FuncData)(ps:List Str)(sp:Sp):Prop where
 len:∀ vs H Q E,sp vs H Q E→vs.length=ps.length
 run:∀ (A:Around) (outer:List Env) (s:Shared) (H:Hp) (args:Args) (us:List Value) (vs:List V) (Q:VK) (E:XK),tU k A→Ui P w K mg base A outer s H→BindsTo s fd args (ps.zip us)→Vals vs us→sp vs H Q E →
  codeAny (model P w) A (.call (.ref f) args) (CR cH outer P w H s Q E) s
def cxH(P:Program)(w:World)(K:W.Frag)(mg:Str→Option Value)(base:Heap)(N:List Str)(qual:Str)(scope:Scope)(f:Addr)(cd:Value)(A:Around)(outer:List Env)(s:Shared)(H:Hp)(E:XK):Cx :=
 { qu cH P w K mg base N qual scope f cd A outer s H E with calm:=false,xe:=fun _ _=>False }
theorem abM{P:Program}{w:World}{K:W.Frag}{mg:Str→Option Value}{base:Heap}{k:Nat}{f:Addr}{name qual:Str}{params:Arguments}{body:List Stmt}{scope:Scope}{dV kV doc pm cdv ct oc:Value}{an od:Option Addr}
 {osl:Array (Option Value)} {N ps:List Str} {sp:Sp} (lk:K.lookup f=some ⟨oc,od,.func (W.fnOf name qual params body scope dV kV doc pm an cdv ct),osl⟩) (hcd:W.codeIn K cdv qual=true) (S:bz N ps scope)
 (len:∀ vs H Q E,sp vs H Q E→vs.length=ps.length)
 (hbody:∀ (A:Around) (outer:List Env) (s:Shared) (H:Hp) (vs:List V) (Q:VK) (E:XK),tU k (A.deeper (envOfC qual scope s.heap.objs.size f cdv))→sp vs H Q E →
  ∃ t,J5 (cxH P w K mg base N qual scope f cdv A outer s H E) body t∧t { nx:=fun _ H'=>Q .non H',rt:=Q } (start N vs) H) :
 Nx P w K mg base (k+1) f (W.fnOf name qual params body scope dV kV doc pm an cdv ct) ps sp:=by
 refine⟨len,fun A outer s H args us vs Q E hr e0 hb r hsp=>?_⟩
 have hl:=len _ _ _ _ hsp
 have KX:K.In s.heap:=e0.mod.kin.keeps fun b o e=>(e0.bs b o e).1
 have lim:s.heap.NoLimit:=e0.mod.nolimit.keeps fun b o e=>(e0.bs b o e).1
 have hkind:∀ y∈ps.zip us,scope.names.lookup y.1=some .local∨(scope.names.lookup y.1=some .cell∧((cellsFrom (s.heap.objs.size+1) scope.names []).lookup y.1).isSome=true):=fun ⟨n,v⟩ hy=>by
  rcases S.par n (List.of_mem_zip hy).1 with q|q
  ·exact .inl q
  ·exact .inr ⟨q,W.cellsFrom_some _ _ _ (.inl q)⟩
 refine codeAny_call_function hr.depth (KX _ _ lk) rfl S.co S.gen rfl (W.codeRec_of KX hcd) (hb _ _ _ _ ?_)
 refine wpAny_newFunctionEnv_cells S.kind hkind fun env he s1 x=>?_
 subst he
 refine⟨lim.keeps x.toInCall.keep,codeAny_func ?_⟩
 obtain⟨t,ht,hq⟩:=hbody A outer s H vs Q E (hr.deeper _) hsp
 have e1:Ui P w K mg base { A with handled:=none } outer s H:=⟨e0.frames,e0.mod,e0.bs,e0.bsz,e0.uK,e0.frf,e0.hok,e0.bare⟩
 have I1:Inv (qu cH P w K mg base N qual scope f cdv { A with handled:=none } outer s H E) [] (start N vs) H s1:=Gj S rfl e1 hl r x
 have I:Inv (cxH P w K mg base N qual scope f cdv A outer s H E) [] (start N vs) H s1 :=
  ⟨⟨I1.ok.mod,I1.ok.kind,I1.ok.glob,I1.ok.blt,I1.ok.above,I1.ok.inj,I1.ok.has,I1.ok.cab,fun z=>(nomatch z),Around.frames_deeper e0.frames,I1.ok.stk,I1.ok.exf,I1.ok.bs,I1.ok.bsz,I1.ok.O5,I1.ok.Tp,I1.ok.uK,I1.ok.frf⟩,I1.os,I1.bare,I1.base,I1.loc,I1.cell,I1.free,I1.nZ,I1.pin,I1.hok,I1.len⟩
 refine wpAny_mono (ht [] s1 (start N vs) H _ I hq) (fun fl s' hs=>?_) fun e s' hs=>hs.elim
 have fin:∀ {σ':St} {H':Hp} {v:V} {u:Value},Inv (cxH P w K mg base N qual scope f cdv A outer s H E) [] σ' H' s'→RelV v u→Q v H'→CE outer P w H s Q u s' :=
  fun {σ' H' v u} J rv q=>⟨v,H',J.os,J.bare,J.base,J.hok,rv,q⟩
 cases fl with
 | ret u =>
  obtain⟨v,σ',H',J,rv,q⟩:=hs
  exact fin J rv q
 | next =>
  obtain⟨σ',H',J,q⟩:=hs
  exact fin (v:=V.non) (u:=Value.none) J rfl q
 | brk =>
  obtain⟨_,_,_,q⟩:=hs
  exact False.elim q
 | cont =>
  obtain⟨_,_,_,q⟩:=hs
  exact False.elim q
theorem mX.okH{P:Program}{w:World}{K:W.Frag}{mg:Str→Option Value}{base:Heap}{x qual:Str}{st:Stmt}{f:Addr}{fd:FuncData}{N ps:List Str}{k:Nat}{sp:Sp}(F:mX K x qual st f fd)(S:bz N ps (aQ st))(len:∀ vs H Q E,sp vs H Q E→vs.length=ps.length)
 (hbody:∀ (cdv:Value) (A:Around) (outer:List Env) (s:Shared) (H:Hp) (vs:List V) (Q:VK) (E:XK),tU k (A.deeper (envOfC qual (aQ st) s.heap.objs.size f cdv))→sp vs H Q E →
  ∃ t,J5 (cxH P w K mg base N qual (aQ st) f cdv A outer s H E) (jL st) t∧t { nx:=fun _ H'=>Q .non H',rt:=Q } (start N vs) H):Nx P w K mg base (k+1) f fd ps sp:=by
 obtain⟨oc,od,kV,doc,pm,an,cdv,ct,osl,rfl,lk,hcd⟩:=F.ex
 exact abM lk hcd S len fun A outer s H vs Q E hr hsp=>hbody cdv A outer s H vs Q E hr hsp
structure ace(P:Program)(w:World)(K:W.Frag)(mg:Str→Option Value)(base:Heap)(k:Nat)(x:Str)(ps:List Str)(sp:Sp):Prop where
 ex:∃ (f:Addr) (fd:FuncData),mg x=some (.ref f)∧W.keepIn K (.ref f)=true∧Binds K fd ps []∧Nx P w K mg base k f fd ps sp
theorem pO.aeR{P:Program}{w:World}{K:W.Frag}{mg:Str→Option Value}{base:Heap}{k:Nat}{x:Str}{st:Stmt}{ps:List Str}{sp:Sp}(F:pO K mg x st ps)(h:∀ f fd,mX K x x st f fd→Nx P w K mg base k f fd ps sp):ace P w K mg base k x ps sp:=by
 obtain⟨f,fd,h1,h2,h3,_,h4⟩:=F.ex
 exact⟨f,fd,h1,h2,h3,h f fd h4⟩
theorem Yt{X:Cx}{k:Nat}{x:Str}{ps:List Str}{sp:Sp}{E:XK}{e:Expr}{es:List Expr}{t:TA}{p pos:Pos}(C:ace X.prog X.w X.K X.mg X.base k x ps sp)(hr:tU k X.A)(hg:Gl X x)(ha:PA X (e::es) t)
 (hdb:(x == ("__debug__" : Str))=false:=by decide) (he:starEach (e::es) X.env=(false,eval e X.env)::starEach es X.env:=by rfl) (hpl:(backTo pos (starEach es X.env)).any (·.1)=false:=by rfl) :
 PE X (.Call (.Name x p) (e::es) [] pos) (vz sp [] E t):=by
 obtain⟨f,fd,hm,hk,hb,F⟩:=C.ex
 intro pins s σ H Q I h
 refine wpAny_Call_Name_kw (vd I hg hm ?_ hdb)
 refine W.callWith_K (h₀:=X.base) I.ok.mod.kin hk (gW (ha pos pins s σ H _ I h) fun us s1 ⟨vs,H1,I1,r,q⟩=>⟨I1.Bg,?_⟩) he hpl
 have q:sp (vs++[]) H1 Q E:=q
 rw[List.append_nil] at q
 have hl:us.length=ps.length:=by rw[← r.length];exact F.len _ _ _ _ q
 refine wpAny_call (codeAny_mono (F.run X.A X.stack s1 H1 ⟨us,[]⟩ us vs _ _ hr I1.env0 (by have:=hb s1 us I1.Bg (by rw[List.append_nil];exact hl);rwa [List.append_nil] at this) r q) fun res s' hq=>?_)
 cases res with
 | error e'=>exact hq.elim
 | ok fl =>
  cases fl with
  | ret u=>exact I1.after hq
  | next=>exact False.elim hq
  | brk=>exact False.elim hq
  | cont=>exact False.elim hq
end L2
namespace Mi
open PySem
def ac6(i:Nat):Out→Out
 | .nx e=>.nx (e.set i none)
 | .rt w=>.rt w
 | .bk e=>.bk (e.set i none)
 | .ct e=>.ct (e.set i none)
def Ve(i:Nat)(cs:List String)(body hb:S):S:=fun e=>match body e with
 | .ok o=>.ok o
 | .ex z=>aU (z.cls∈cs) ((still (hb (e.set i (some (.ex z.cls))))).bind fun o=>.ok (ac6 i o))
 | .no=>.no
end Mi
namespace A
open PySem L2 PyProof.Rows So
open Mi (D W Rs Fin oG az fY Out Tg JW)
variable[Tb:jb]
def AX(M:Nat→Bool)(κ : Kd)(t:TSX)(m:Mi.S):Prop:=∀ H0 Hv0 e σ H Hv D F,R1 M H0 Hv0 e σ H Hv→oG (m e) (tV M κ H0 Hv0 D Hv) (fun z=>∀ ea H' Hv',R1 M H0 Hv0 e σ H' Hv'→jA Hv Hv'→H' ea=none→F (Tb.cl z.cls) ea σ H')→t D F σ H
section
variable{M:Nat→Bool}{κ : Kd}{t u:TSX}{m n:Mi.S}
theorem Zy{f:Mi.Fn}{ws:List Mi.EW}{tr:TA}(ha:AAW M qV tr (Mi.bW ws)):AX M κ (U4 (U7 Tb.cl f) tr) (Mi.uC f ws):=fun H0 Hv0 e σ H Hv D F I h =>
 ha e σ H Hv _ I.toR0 ((Mi.qK (fY.mp h)).mono fun ds hx vs H1 Hv1 g1 rx=>by
  refine⟨Hv1,ds,g1.vw,rx,(fY.mp hx).mono (fun w hw v H3 Hv3 g3 r=>?_) fun z hz H3 Hv3 g3 ea hea=>?_⟩
  ·exact hw σ H3 Hv3 (I.grow (g1.trans g3)) (g1.trans g3).vis
  ·exact⟨_,_,rfl,rfl,hz ea H3 Hv3 (I.grow (g1.trans g3)) (g1.trans g3).vis hea⟩)
theorem R1.off{H0 Hv0:Hp}{e:Mi.Env}{σ : L2.St}{H Hv:Hp}(I:R1 M H0 Hv0 e σ H Hv)(i:Nat):R1 M H0 Hv0 (e.set i none) (σ.set i none) H Hv:=by
 have get:∀ {j:Nat} {w:W},(e.set i none)[j]? = some (some w)→i≠j∧e[j]? = some (some w):=fun {j w} h=>by
  rcases jZ h with ⟨_,h,_⟩|z
  ·cases h
  ·exact z
 have st:∀ {j:Nat} {v:V},i≠j→σ[j]? = some (some v)→(σ.set i none)[j]? = some (some v):=fun {j v} n h=>by rw[List.getElem?_set_ne n];exact h
 have ts:∀ {j:Nat} {v:V},i≠j→(σ.set i none)[j]? = some (some v)→σ[j]? = some (some v):=fun {j v} n h=>by rw[List.getElem?_set_ne n] at h;exact h
 refine⟨⟨I.vw,by rw[List.length_set,List.length_set];exact I.len,fun j w h mm=>?_,fun j w h mm=>?_⟩,I.gw,fun j w a h mm q=>?_,fun j k w w' a b hjk h1 h2 m1 m2 q1 q2=>?_⟩
 ·obtain⟨nj,h⟩:=get h
  obtain⟨v,hv,r⟩:=I.nob j w h mm
  exact⟨v,st nj hv,r⟩
 ·obtain⟨nj,h⟩:=get h
  obtain⟨v,hv,r⟩:=I.own j w h mm
  exact⟨v,st nj hv,r⟩
 ·obtain⟨nj,h⟩:=get h
  exact I.fresh j w a h mm (ts nj q)
 ·obtain⟨nj,h1⟩:=get h1
  obtain⟨nk,h2⟩:=get h2
  exact I.sep j k w w' a b hjk h1 h2 m1 m2 (ts nj q1) (ts nk q2)
theorem ab4{i:Nat}{cs:List String}{th:TS}{hb:Mi.S}(hi:M i=false)(h1:AX M κ t m)(h2:AS M κ th hb):AS M κ (acr i (fun C=>∃ c∈cs,C=Tb.cl c) t th) (Mi.Ve i cs m hb):=fun H0 Hv0 e σ H Hv D I h=>by
 refine h1 H0 Hv0 e σ H Hv D _ I ?_
 unfold Mi.Ve at h
 cases hm:m e with
 | ok o=>rw[hm] at h;exact h
 | no=>rw[hm] at h;exact h.elim
 | ex z =>
  rw[hm] at h
  obtain⟨hz,h⟩:=Mi.aX h
  intro ea H' Hv' I' s' hea
  have g:dw H' Hv' (upd H' ea (.ext (yV ea (Tb.cl z.cls)))) (upd Hv' ea (.ext (yV ea (Tb.cl z.cls)))):=.new I'.vw hea
  have r:uR (upd Hv' ea (.ext (yV ea (Tb.cl z.cls)))) (.ex z.cls) (.ref ea):=⟨ea,rfl,bc⟩
  refine⟨⟨z.cls,hz,rfl⟩,h2 H0 Hv0 _ _ _ _ _ ((I'.grow g).set hi r) ?_⟩
  have h:=az.mp h
  cases hh:hb (e.set i (some (.ex z.cls))) with
  | no=>rw[hh] at h;exact h.elim
  | ex y=>rw[hh] at h;exact h.elim
  | ok o =>
   rw[hh] at h
   have sm:jA Hv (upd Hv' ea (.ext (yV ea (Tb.cl z.cls)))):=s'.trans g.vis
   cases o with
   | nx e2=>exact fun σ2 H2 Hv2 I2 s2=>h (σ2.set i none) H2 Hv2 (I2.off i) (sm.trans s2)
   | rt w=>exact h
   | bk e2=>exact fun σ2 H2 Hv2 I2 s2=>h (σ2.set i none) H2 Hv2 (I2.off i) (sm.trans s2)
   | ct e2=>exact fun σ2 H2 Hv2 I2 s2=>h (σ2.set i none) H2 Hv2 (I2.off i) (sm.trans s2)
end
end A
namespace PySem.W
open PySem PySem.Spec PySem.Calls PyProof.Rows
section
variable{prog:Program}{w:World}{A:Around}{E:Value→Shared→Prop}{s:Shared}{K:Frag}{x D:Addr}{ox:Obj}
variable(hga:findIn K (.ref D) "__getattribute__" = some (some (.builtin "BaseException.__getattribute__")))(hgt:findIn K (.ref D) "__getattr__" = some none)(hcd:(clsIn K D).isSome=true)
 (ha:findIn K (.ref D) "__class__" = some (some (.builtin "object.__class__"))) (hn:specialIn K (.builtin "object.__class__") "__get__" = some (some (.builtin "getset_descriptor.__get__"))) (htk:takesIn K (.builtin "object.__class__")=some true)
 (hm:mroIn K D (.type "object")=some true) (hb:mroIn K D (.type "BaseException")=some true)
include hga hgt hcd ha hn htk hm hb
theorem Mj{tk:Tok}{R:Result→Shared→Prop}(X:K.In s.heap)(I:InstAt s.heap x ox D none)(h:R (.ok (.ret (.ref D))) s) :
 codeAny (model prog w) A (.call (.builtin "BaseException.__getattribute__") ⟨[.ref x,.str "__class__" tk],[]⟩) R s:=by
 obtain⟨hh,g,d,t,os⟩:=s
 have hf:findObj K D none "__class__" = some (.bind (.builtin "getset_descriptor.__get__") (.builtin "object.__class__")):=by
  obtain⟨cd,hc⟩:=Option.isSome_iff_exists.mp hcd
  unfold findObj
  rw[hc,Option.bind_some,ha,Option.bind_some]
  simp[hn,htk]
 have L0:=I.type (M:=model prog w)
 have L1:=looks_find (M:=model prog w) X I hf
 have L2:=looks_mroIn (M:=model prog w) X hb
 have hk:builtinKind "BaseException.__getattribute__" = some .slot:=by decide +kernel
 have hsplit:splitId "BaseException.__getattribute__" = some ("BaseException", "__getattribute__"):=by decide +kernel
 have hargs:=F.args_bexc_ga (.ref x) (.str "__class__" tk)
 refine codeAny_call_builtin (F.excAttr_ValueError).ga.plain F.entry_bexc_ga ?_
 simp only[checkBuiltinCall,hk,hsplit]
 refine wpAny_bind ?_
 unfold isInstance
 refine wpAny_bind (L0.at ?_)
 refine L2.at ?_
 repeat (any_goals (first|assumption|(refine wpAny_bind (L0.at ?_))|(refine wpAny_bind (L1.at ?_))|wp_step))
 refine class_get (s:=⟨hh,g,d,t,os⟩) X I hm ?_
 exact wpAny_pure h
theorem Du{Q:Option Value→Shared→Prop}(X:K.In s.heap)(I:InstAt s.heap x ox D none)(h:Q (some (.ref D)) { s with toks:=s.toks+1 }):wpAny (model prog w) A (getAttr? (.ref x) "__class__") Q E s:=by
 obtain⟨hh,g,d,t,os⟩:=s
 have L0:=I.type (M:=model prog w)
 have L1:=looks_findIn (M:=model prog w) X hga
 have L2:=looks_findIn (M:=model prog w) X hgt
 have f3:=(F.excAttr_ValueError).ga.bind (.ref x)
 have hx2:(Value.builtin "BaseException.__getattribute__" == Value.builtin "object.__getattribute__")=false:=by decide +kernel
 have hx1:(onTheHeap (Value.ref D) && Value.builtin "BaseException.__getattribute__" == Value.builtin "object.__getattribute__")=false:=by rw[hx2,Bool.and_false]
 unfold getAttr? getAttrBy? getAttrBy
 refine wpAny_bind (wpAny_mkText (wpAny_bind (wpAny_attempt (wpAny_holding (wpAny_bind (L0.at (wpAny_bind (L1.at ?_))))))))
 dsimp only
 rw[if_neg (by rw[hx1];exact Bool.false_ne_true)]
 unfold getAttrByItsOwn
 repeat (any_goals (first|assumption|(refine wpAny_bind (L2.at ?_))|(refine L2.at ?_)|wp_step))
 refine Mj (s:=⟨hh,g,d,t+1,os⟩) hga hgt hcd ha hn htk hm hb X I ?_
 exact handed_on rfl (wpAny_pure h)
theorem Ly:KitX K (.ref x) (.ref D) (fun h=>∃ ox,InstAt h x ox D none) where
 ty:=fun _ _ _ ⟨_,I⟩=>I.type
 it:=fun _ _ X _=>by
  obtain⟨cd,hc⟩:=Option.isSome_iff_exists.mp hcd
  unfold clsIn at hc
  split at hc
  ·rename_i c' d' cd' sl' ho
   intro A' Q' E' s' k q
   unfold isType loadHead
   exact wpAny_bind (wpAny_loadPart (k _ _ (X _ _ ho)) (wpAny_pure q))
  ·cases hc
 ne:=fun h tp dd its n sl X htp=>by
  obtain⟨cd,hc⟩:=Option.isSome_iff_exists.mp hcd
  refine Bool.eq_false_iff.mpr fun q=>?_
  have e:D=tp:=Value.ref.inj (beq_iff_eq.mp q)
  subst e
  unfold clsIn at hc
  split at hc
  ·rename_i c' d' cd' sl' ho
   have z:=(X _ _ ho).symm.trans htp
   cases z
  ·cases hc
 ca:=fun X ⟨_,I⟩ k=>Du hga hgt hcd ha hn htk hm hb X I k
end
end PySem.W
namespace L2
open PySem PySem.Spec PyProof.Rows
open A (yV)
structure tH(K:W.Frag)(D:Addr):Prop where
 ga:W.findIn K (.ref D) "__getattribute__" = some (some (.builtin "BaseException.__getattribute__"))
 gt:W.findIn K (.ref D) "__getattr__" = some none
 cd:(W.clsIn K D).isSome=true
 at_:W.findIn K (.ref D) "__class__" = some (some (.builtin "object.__class__"))
 gn:W.specialIn K (.builtin "object.__class__") "__get__" = some (some (.builtin "getset_descriptor.__get__"))
 tk:W.takesIn K (.builtin "object.__class__")=some true
 mo:W.mroIn K D (.type "object")=some true
 mb:W.mroIn K D (.type "BaseException")=some true
section
variable{X:Cx}{pins:List (Addr×Obj)}{σ : St}{H:Hp}{s:Shared}
theorem Inv.instX(I:Inv X pins σ H s){ea C:Addr}(h:H ea=some (.ext (yV ea C))):∃ ox,W.InstAt s.heap ea ox C none:=by
 obtain⟨⟨o,h1,h2,h3,vs,h4⟩,_⟩:=(show dZ X.prog X.w H s.heap ea (.ext (yV ea C)) from I.hok ea _ h)
 refine⟨o,h1,h2,?_,by rw[h3];trivial⟩
 unfold W.notCls
 rw[h4]
inductive ZR:V→Value→Prop
 | own (C:Addr):ZR (.ref C) (.ref C)
 | blt (T:String):ZR (.ty T) (.type T)
def acS(K:W.Frag):List V→Hp→VK→Prop:=fun xs H Q=>∃ ea C c c' b,xs=[.ref ea,c]∧H ea=some (.ext (yV ea C))∧tH K C∧ZR c c'∧W.kitOne K (.ref C) c'=some b∧Q (.bl b) H
theorem MJ:jQ X (.builtin "isinstance") (acS X.K):=by
 intro pins s σ H xs us Q I r h
 obtain⟨ea,C,c,c',b,rfl,he,k,hc,e,q⟩:=h
 obtain⟨u,w',rfl,rx,rt⟩:=vals2 r
 cases (show u=Value.ref ea from rx)
 have hw:w'=c':=by
  cases hc with
  | own C=>exact(show w'=Value.ref C from rt)
  | blt T=>exact(show w'=Value.type T from rt)
 subst hw
 exact W.kia_one (W.Ly k.ga k.gt k.cd k.at_ k.gn k.tk k.mo k.mb) I.Bg (I.instX he) e (fun z=>nomatch z) fun tk=>⟨.bl b,H,I.tok tk,rfl,q⟩
theorem Fw:∀ {Cs:List Addr} {us:List Value},Vals (Cs.map V.ref) us→us=Cs.map .ref
 | [],_,.nil=>rfl
 | T::r,_,.cons a t=>by
  have a:_=Value.ref T:=a
  rw[a,Fw t];rfl
def Z2(K:W.Frag):List V→Hp→VK→Prop:=fun xs H Q=>∃ (ea C tp:Addr) (Cs:List Addr) (b:Bool),xs=[.ref ea,.ref tp]∧H tp=some (.tup (Cs.map V.ref))∧H ea=some (.ext (yV ea C))∧tH K C∧W.kitAny K (.ref C) (Cs.map .ref)=some b∧Q (.bl b) H
theorem Gw:jQ X (.builtin "isinstance") (Z2 X.K):=by
 intro pins s σ H xs us Q I r h
 obtain⟨ea,C,tp,Cs,b,rfl,ht,he,k,e,q⟩:=h
 obtain⟨u,w',rfl,rx,rt⟩:=vals2 r
 cases (show u=Value.ref ea from rx)
 cases (show w'=Value.ref tp from rt)
 obtain⟨_,its,rv,o,h1,h2,_,n,h3⟩:=(show dZ X.prog X.w H s.heap tp (.tup (Cs.map V.ref)) from I.hok tp _ ht)
 obtain rfl:=Fw rv
 obtain⟨c,d,dt,sl⟩:=o
 simp only at h2 h3
 subst h2 h3
 exact W.kia_tup (W.Ly k.ga k.gt k.cd k.at_ k.gn k.tk k.mo k.mb) I.Bg (I.instX he) h1 e (fun z=>nomatch z) fun tk=>⟨.bl b,H,I.tok tk,rfl,q⟩
end
end L2
namespace Mi
open PySem
def Lq(i:Nat)(b:String→Option Bool):E:=fun e=>match e[i]? with
 | some (some (.ex c))=>match b c with
  | some k=>.ok (.bl k)
  | none=>.no
 | _=>.no
end Mi
namespace A
open PySem L2 PyProof.Rows So
open Mi (D W Rs Fin oG az fY Out Tg JW)
variable[Tb:jb]
section
variable{K:W.Frag}{M:Nat→Bool}{b:String→Option Bool}
theorem Wn{i:Nat}{e:Mi.Env}{k:D→Prop}(h:Fin (Mi.Lq i b e) k):∃ c q,e[i]? = some (some (.ex c))∧b c=some q∧k (.bl q):=by
 unfold Mi.Lq at h
 split at h
 ·rename_i c hc
  split at h
  ·rename_i q hq
   exact⟨c,q,hc,hq,h⟩
  ·exact h.elim
 ·exact h.elim
theorem aat{i:Nat}{c:V}{c':Value}(hm:M i=false)(hc:ZR c c')(hb:∀ x k,b x=some k→tH K (Tb.cl x)∧W.kitOne K (.ref (Tb.cl x)) c'=some k):AE M qV (ZX (acS K) (lC (wW i) (lC (tC c) vo))) (Mi.Lq i b):=fun e σ H Hv Q I h=>by
 obtain⟨x,k,he,hk,q⟩:=Wn h
 obtain⟨v,hv,a,rfl,ha⟩:=I.nob i _ he hm
 obtain⟨h1,h2⟩:=hb x k hk
 exact⟨_,hv,a,_,c,c',k,rfl,I.vw.sub _ _ ha,h1,hc,h2,q _ H Hv (.refl I.vw) jw⟩
def UT:List Addr→TA
 | []=>vo
 | C::r=>lC (tC (.ref C)) (UT r)
theorem Kh:∀ (Cs:List Addr) (σ : L2.St) (H:Hp) (Q:List V→Hp→Prop),Q (Cs.map V.ref) H→UT Cs σ H Q
 | [],_,_,_,h=>h
 | C::r,σ,H,Q,h=>Kh r σ H _ h
theorem XN{i:Nat}{Cs:List Addr}(hm:M i=false)(hl:Cs.length≤100)(hb:∀ x k,b x=some k→tH K (Tb.cl x)∧W.kitAny K (.ref (Tb.cl x)) (Cs.map .ref)=some k):AE M qV (ZX (Z2 K) (lC (wW i) (lC (aaI (UT Cs)) vo))) (Mi.Lq i b):=fun e σ H Hv Q I h=>by
 obtain⟨x,k,he,hk,q⟩:=Wn h
 obtain⟨v,hv,a,rfl,ha⟩:=I.nob i _ he hm
 obtain⟨h1,h2⟩:=hb x k hk
 refine⟨_,hv,Kh Cs σ H _ ⟨by rw[List.length_map,sizeLine_eq];omega,fun p hp=>?_⟩⟩
 have g:dw H Hv (upd H p (.tup (Cs.map V.ref))) (upd Hv p (.tup (Cs.map V.ref))):=.new I.vw hp
 exact⟨a,_,p,Cs,k,rfl,bc,g.old.at (I.vw.sub _ _ ha) trivial,h1,h2,q _ _ _ g jw⟩
end
end A
namespace Mi
open PySem
end Mi
namespace L2
open PySem PySem.Spec PyProof.Rows
end L2
namespace A
open PySem L2 PyProof.Rows So
open Mi (D W Rs Fin az)
variable[Tb:jb]
end A
namespace Mi
end Mi
namespace A
open PySem L2 PyProof.Rows So
open Mi (D W Rs Fin az Out Tg)
variable[Tb:jb]
end A
namespace Mi
open PySem
def NZ(a b:Str):Bool:=decide (¬ b.cps.toList < a.cps.toList)
def pR(xs:List Str):List Str:=xs.mergeSort NZ
def uP:List D→Rs D
 | [.lst ds]=>(t8 (pH ds)).bind fun ss=>aU (ss.length < 64) (.ok (.lst ((pR ss).map D.str)))
 | _=>.no
theorem uD{α : Type}{le:α→α→Prop}(adR:∀ a b,le a b→le b a→a=b):∀ (l m:List α),l.Perm m→l.Pairwise le→m.Pairwise le→l=m
 | [],m,h,_,_=>h.symm.eq_nil.symm
 | a::r,[],h,_,_=>nomatch h.eq_nil
 | a::r,b::t,h,hl,hm=>by
  have l1:=List.pairwise_cons.mp hl
  have m1:=List.pairwise_cons.mp hm
  have e:a=b:=by
   rcases List.mem_cons.mp (h.mem_iff.mp (List.mem_cons_self ..)) with z|z
   ·exact z
   ·rcases List.mem_cons.mp (h.mem_iff.mpr (List.mem_cons_self ..)) with y|y
    ·exact y.symm
    ·exact adR _ _ (l1.1 b y) (m1.1 a z)
  subst e
  rw[uD adR r t ((List.perm_cons a).mp h) l1.2 m1.2]
theorem sO{a b:Str}:NZ a b=true↔a.cps.toList≤b.cps.toList:=by
 unfold NZ
 rw[decide_eq_true_iff];exact Iff.rfl
theorem aaM{x y:Str}(h:x.cps.toList=y.cps.toList):x=y:=by
 obtain⟨x⟩:=x
 obtain⟨y⟩:=y
 exact congrArg Str.mk (Array.toList_inj.mp h)
theorem Wf(a b:Str)(h:NZ a b=true)(k:NZ b a=true):a=b:=aaM (List.le_antisymm (sO.mp h) (sO.mp k))
theorem Gf(a b c:Str)(h:NZ a b=true)(k:NZ b c=true):NZ a c=true:=sO.mpr (List.le_trans (sO.mp h) (sO.mp k))
theorem S7(a b:Str):(NZ a b || NZ b a)=true:=by
 rw[Bool.or_eq_true,sO,sO];exact List.le_total _ _
theorem oO(xs:List Str):(pR xs).Perm xs:=List.mergeSort_perm xs _
theorem xf(xs:List Str):(pR xs).Pairwise fun a b=>NZ a b=true:=List.pairwise_mergeSort (fun a b c=>Gf a b c) (fun a b=>S7 a b) xs
theorem Kq{xs ys:List Str}(hp:ys.Perm xs)(hs:ys.Pairwise fun a b=>NZ a b=true):ys=pR xs:=uD Wf _ _ (hp.trans (oO xs).symm) hs (xf xs)
theorem Kr{xs ys:List Str}:pR xs=pR ys↔xs.Perm ys:=⟨fun h=>(oO xs).symm.trans (h ▸ oO ys),fun h=>Kq ((oO xs).trans h) (xf xs)⟩
theorem FT:∀ (l:List Str) (x:Str),PyProof.Rows.risingS x l=true→(x::l).Pairwise fun a b=>NZ a b=true
 | [],x,_=>List.pairwise_singleton ..
 | y::r,x,h=>by
  have h:(!PySem.Spec.ltCps y.cps.toList x.cps.toList && PyProof.Rows.risingS y r)=true:=h
  rw[Bool.and_eq_true,PyProof.Rows.ltCps_eq] at h
  have k:NZ x y=true:=by
   unfold NZ
   have:=h.1
   simpa using this
  have t:=FT r y h.2
  refine List.pairwise_cons.mpr ⟨fun z hz=>?_,t⟩
  rcases List.mem_cons.mp hz with rfl|hz
  ·exact k
  ·exact Gf _ _ _ k ((List.pairwise_cons.mp t).1 z hz)
theorem RQ:∀ l:List Str,PyProof.Rows.sortedS l=true→l.Pairwise fun a b=>NZ a b=true
 | [],_=>List.Pairwise.nil
 | x::r,h=>FT r x h
end Mi
namespace L2
open PySem PySem.Spec PyProof.Rows
section
variable{X:Cx}
theorem wU:∀ {ss:List Str} {its:List Value},Vals (ss.map V.str) its→StrsAre its ss
 | [],_,.nil=>.nil
 | n::r,_,.cons h t=>by
  obtain⟨t1,rfl⟩:=h
  exact .cons n t1 (wU t)
theorem wY:∀ {ss:List Str} {its:List Value},StrsAre its ss→Vals (ss.map V.str) its
 | [],_,.nil=>.nil
 | _::_,_,.cons y t r=>.cons ⟨t,rfl⟩ (wY r)
end
end L2
namespace A
open PySem L2 PyProof.Rows So
open Mi (D W Rs Fin az)
variable[Tb:jb]
section
variable{X:Cx}
def Vl:List V→Hp→VK→Prop:=fun vs H Q=>∃ (a:Addr) (ss:List Str),vs=[.ref a]∧Lst H a (ss.map V.str)∧ss.length < 64∧∀ p,H p=none→Q (.ref p) (upd H p (.lst ((Mi.pR ss).map V.str)))
theorem Ea:jQ X (.builtin "sorted") Vl:=by
 intro pins s σ H xs us Q I r h
 obtain⟨a,ss,rfl,hl,h64,q⟩:=h
 obtain⟨u,rfl,ru⟩:=vals1 r
 cases (show u=Value.ref a from ru)
 obtain⟨its,n0,rv,hz,ho⟩:=Pb I hl
 have hli:=rv.length
 rw[List.length_map] at hli
 refine sorted_strs (vs:=its) (ss:=ss) ⟨_,ho,rfl,_,rfl⟩ (wU rv) (by omega) fun out ss' a1 a2 a3=>?_
 obtain⟨e1,he⟩:=sortedAll_at s.heap its out
 have e:=Mi.Kq a2 (Mi.RQ ss' a3)
 subst e
 have fr:H (s.heap.objs.size+1)=none:=I.hok.fresh (Nat.le_succ _)
 refine⟨.ref (s.heap.objs.size+1),_,adopt (fp:=[s.heap.objs.size+1]) (D:=s.heap.objs.size+1) (o:=.lst ((Mi.pR ss).map V.str)) (t':=s.toks) I (fun b hb=>?_) (List.mem_singleton.mpr rfl) (fun b u _ q=>sortedAll_old q) ⟨?_,out.toList,e1,wY a1,he⟩,rfl,q _ fr⟩
 ·rw[List.mem_singleton.mp hb]
  exact I.xT (Nat.le_succ _) fr
 ·rw[List.length_map,(Mi.oO ss).length_eq,sizeLine_eq];omega
end
theorem FW{Hv:Hp}:∀ {ds:List D} {ss:List Str} {xs:List V},Mi.pH ds=some ss→P2 (Rep Hv) ds xs→ds=ss.map D.str∧xs=ss.map V.str
 | [],ss,_,h,.nil=>by cases h;exact⟨rfl,rfl⟩
 | d::r,ss,_,h,.cons k t=>by
  cases d with
  | str z =>
   rw[Mi.pH] at h
   cases e:Mi.pH r with
   | none=>rw[e] at h;cases h
   | some q =>
    rw[e] at h
    cases h
    obtain⟨h1,h2⟩:=FW e t
    rw[pY.mp k,h1,h2];exact⟨rfl,rfl⟩
  | _=>simp[Mi.pH] at h
theorem Rw:BN qN Vl Mi.uP:=fun ds vs H Hv Q vw r h=>by
 match ds,r,h with
 | [.lst ds],r,h =>
  obtain⟨v,ev,rr⟩:=oX r
  subst ev
  obtain⟨p,xs,rfl,l1,r1⟩:=RD.lst vw rr
  have h:=az.mp h
  cases e:Mi.pH ds with
  | none=>rw[e] at h;exact h.elim
  | some ss =>
   rw[e] at h
   obtain⟨h64,h⟩:=Mi.aX (show Fin (Mi.aU (ss.length < 64) _) _ from h)
   obtain⟨e1,e2⟩:=FW e r1
   subst e2
   refine⟨p,ss,rfl,l1,h64,fun a ha=>?_⟩
   have r2:P2 (Rep Hv) ((Mi.pR ss).map D.str) ((Mi.pR ss).map V.str):=by
    generalize Mi.pR ss=l
    induction l with
    | nil=>exact .nil
    | cons a r ih=>exact .cons (pY.mpr rfl) ih
   obtain⟨g,k⟩:=Ir vw r2 ha
   exact(Mi.jK h) _ _ _ g k
 | [],_,h=>exact h.elim
 | [.non],_,h=>exact h.elim
 | [.bl _],_,h=>exact h.elim
 | [.int _],_,h=>exact h.elim
 | [.str _],_,h=>exact h.elim
 | [.tup _],_,h=>exact h.elim
 | d::_::_,_,h=>cases d<;>exact(show False from h).elim
end A
namespace Mi
open PySem
def Ay(cls:String):S:=fun _=>.ex ⟨cls,[]⟩
def Qu(f:Fn)(ws:List EW)(m n:S):S:=fun e=>(still (bW ws e)).bind fun vs=>(f vs).bind fun w=>(asD w).bind fun d=>(asB d).bind fun b=>if (!b)=true then m e else n e
end Mi
namespace A
open PySem L2 PyProof.Rows So
open Mi (D W Rs Fin oG az fY Out Tg JW)
variable[Tb:jb]
section
variable{M:Nat→Bool}{κ : Kd}{t u:TS}{m n:Mi.S}{cl:String→Addr}{E:XK}
theorem Ep{cls:String}{z:Str}:Uj M κ (wish cl E) (fun _ σ H1=>tC (.str z) σ H1 fun _ H2=>∀ ea,H2 ea=none→E (.ref (cl cls)) (some ea) H2) (Mi.Ay cls):=fun H0 Hv0 e σ H Hv D I h =>
 fun ea hea=>(show ∀ H' Hv',dw H0 Hv0 H' Hv'→wish cl E ⟨cls,[]⟩ H' from h) H Hv I.gw ea hea
theorem ZD{f:Mi.Fn}{ws:List Mi.EW}{tr:TA}(ha:AAW M qV tr (Mi.bW ws))(h1:Uj M κ (wish cl E) t m)(h2:Uj M κ (wish cl E) u n):Uj M κ (wish cl E) (Yb (aaK (tB (vz (U7 cl f) [] E tr))) t u) (Mi.Qu f ws m n):=fun H0 Hv0 e σ H Hv D I h =>
 ha e σ H Hv _ I.toR0 ((Mi.qK (fY.mp h)).mono fun ds hx vs H1 Hv1 g1 rx=>by
  rw[List.append_nil]
  refine⟨Hv1,ds,g1.vw,rx,oG.mono (fY.mp hx) (fun w hw v H3 Hv3 g3 r=>?_) fun z hz H3 Hv3 g3=>hz H3 Hv3 (I.gw.trans (g1.trans g3))⟩
  have gg:=g1.trans g3
  cases w with
  | d x =>
   cases x with
   | bl b =>
    have ev:v=.bl b:=(yz (H:=Hv3)).mp r
    subst ev
    refine⟨b,rfl,?_⟩
    cases b with
    | false=>exact Di (h1 H0 Hv0 e σ H3 Hv3 D (I.grow gg) (oG.mono hw (fun o z=>z.up gg.vis) fun _ z=>z))
    | true=>exact Dj (h2 H0 Hv0 e σ H3 Hv3 D (I.grow gg) (oG.mono hw (fun o z=>z.up gg.vis) fun _ z=>z))
   | _=>exact hw.elim
  | _=>exact hw.elim)
end
end A
namespace L2
open PySem PySem.Spec PyProof.Rows
section
variable{pr:Program}{wo:World}{Ar:Around}{Ex:Value→Shared→Prop}
theorem aai{it l:Addr}{zs:Array Value}(ne:l≠it):∀ (k j:Nat) (z:Shared) (R:List Value→Shared→Prop),z.heap.IsListIter it l j→z.heap.IsList l zs→j+k≤zs.size →
 (∀ g,g.IsListIter it l (j+k)→Heap.SameBut it z.heap g→R ((zs.toList.drop j).take k) { z with heap:=g })→wpAny (model pr wo) Ar (draw (.ref it) k) R Ex z
 | 0,j,z,R,a,_,_,q=>by
  show wpAny _ _ (pure []) R Ex z
  refine wpAny_pure ?_
  have:=q z.heap a (Heap.SameBut.refl ..)
  simpa using this
 | k+1,j,z,R,a,b,c,q=>by
  have lt:j < zs.size:=by omega
  show wpAny _ _ (pyNext (.ref it) >>= _) R Ex z
  refine wpAny_bind (wpAny_pyNext_list_item a b (x:=zs[j]) (by simp[lt]) fun g1 a1 b1=>wpAny_bind (wpAny_holding ?_))
  refine aai ne k (j+1) _ _ a1 (b.extBut b1.extBut ne) (by omega) fun g2 a2 b2=>wpAny_pure ?_
  have e:zs.toList.drop j=zs[j]::zs.toList.drop (j+1):=by simp[List.drop_eq_getElem_cons,lt]
  have r:=q g2 (by rw[show j+(k+1)=j+1+k by omega];exact a2) (b1.trans b2)
  rw[e,List.take_succ_cons] at r
  exact r
theorem X5{l:Addr}{zs:Array Value}{z:Shared}{R:List Value→Shared→Prop}(h0:Ar.handled=none)(b:z.heap.IsList l zs)(q:∀ g,Heap.ExtBut z.heap.objs.size z.heap g→R zs.toList { z with heap:=g }) :
 wpAny (model pr wo) Ar (unpackItems (.ref l) zs.size none) R Ex z:=by
 have ne:l≠z.heap.objs.size:=by obtain⟨o,ho,_⟩:=b;exact Nat.ne_of_lt (Heap.lt_size ho)
 unfold unpackItems notIterableAtAll
 refine wpAny_bind (wpAny_bind (wpAny_specialOf b.typeIs PySem.F.slot_list_iter.lookup (wpAny_pure ?_)))
 simp only[Bool.false_eq_true,if_false]
 refine wpAny_bind (wpAny_holding (wpAny_pyIter_list b ?_))
 refine wpAny_bind (wpAny_holding (aai ne zs.size 0 _ _ ⟨_,Heap.get?_push_size _ rfl,rfl,rfl⟩ (b.push _) (by omega) fun g1 a1 b1=>?_))
 rw[show List.take zs.size (List.drop 0 zs.toList)=zs.toList by rw[List.drop_zero];exact List.take_of_length_le (by simp),if_neg (by simp)]
 have c1:g1.IsList l zs:=(b.push _).extBut b1.extBut ne
 refine wpAny_bind (wpAny_holding (wpAny_pyNext_list_end h0 a1 c1 (by simp) fun g2 b2=>?_))
 simp only[Option.isSome_none,Bool.false_eq_true,if_false]
 exact wpAny_pure (q g2 fun d o hd e=>b2 d o hd (b1.extBut d o hd (Heap.get?_push_of_some _ e)))
end
end L2
namespace Mi
open PySem
def Kw(is:List Nat)(a:E):S:=fun e=>(a e).bind fun d=>match d with
 | .lst ds=>(uh is ds e).bind fun e'=>.ok (.nx e')
 | _=>.no
end Mi
namespace A
open PySem L2 PyProof.Rows So
open Mi (D W Rs Fin az Out Tg)
variable[Tb:jb]
section
variable{X:Cx}{pos:Pos}
def adA(n:Nat)(t:RJ):TG:=fun v σ H Q=>∃ a xs,v=.ref a∧Lst H a xs∧xs.length=n∧t xs σ H Q
theorem aa4{es:List Expr}{k:Nat}{t:RJ}{n:Nat}(hc:X.calm=true)(h:PGs X es t)(hn:(assignEach es X.env).length=n:=by rfl)(hst:(assignEach es X.env).findIdx? (·.1)=none:=by rfl):PG X (.Tuple es k pos) (adA n t):=by
 intro pins s σ H v u Q I r hw
 obtain⟨a,xs,e1,hq,hl,hw⟩:=hw
 subst e1
 cases r
 obtain⟨its,n0,rv,hz,ho⟩:=Pb I hq
 have hli:=rv.length
 rw[assign_Tuple]
 refine wpAny_bind (wpAny_standAt ?_)
 unfold unpack
 rw[hn,hst]
 have sz:n=its.toArray.size:=by rw[List.size_toArray];omega
 rw[sz]
 refine wpAny_bind (wpAny_holding (X5 (I.ok.hd hc) ⟨_,ho,rfl,_,rfl⟩ fun g hx=>?_))
 have I1:Inv X pins σ H { s with heap:=g }:=I.kept (t':=s.toks) fun b o e=>hx b o (Nat.ne_of_lt (Heap.lt_size e)) e
 exact h pins _ σ H xs _ Q I1 (by simpa using rv) hw
end
section
variable{M:Nat→Bool}{κ : Kd}{te:TE}{a:Mi.E}
theorem ZF(is:List Nat)(hm:∀ i∈is,M i=false)(ha:AE M qV te a):AS M κ (Kl te (adA is.length (Y6 is))) (Mi.Kw is a):=fun H0 Hv0 e σ H Hv D I h =>
 ha e σ H Hv _ I.toR0 ((az.mp h).mono fun d hd v H1 Hv1 g1 r=>by
  cases d with
  | lst ds =>
   obtain⟨p,xs,rfl,l,rr⟩:=oh.mp r
   have hd:=az.mp (show Fin (Rs.bind (Mi.uh is ds e) _) _ from hd)
   have I2:=I.grow g1
   refine⟨p,xs,rfl,l.same g1.vw.sub,by rw[← rr.len];exact vU hd,?_⟩
   exact Px (P:=fun e1 σ1=>R1 M H0 Hv0 e1 σ1 H1 Hv1) (fun i hi e1 σ1 d1 v1 p1 r1=>p1.set (hm i hi) r1) I2 rr (hd.mono fun e' h' σ' p'=>h' σ' H1 Hv1 p' g1.vis)
  | _=>exact hd.elim)
end
end A
namespace Mi
open PySem
def DG(x:D)(lo hi:Option Int):Rs D:=match x,lo,hi with
 | .tup ds,some a,none=>aU (0≤a∧a≤(ds.length:Int)∧ds.length≤16777216) (.ok (.tup (ds.drop a.toNat)))
 | .tup ds,none,some b=>aU (0≤b∧b≤(ds.length:Int)∧ds.length≤16777216) (.ok (.tup (ds.take b.toNat)))
 | _,_,_=>.no
end Mi
namespace L2
open PySem PySem.Spec PyProof.Rows
section
variable{pr:Program}{wo:World}{Ar:Around}{Ex:Value→Shared→Prop}{z:Shared}
theorem W4{sl:Addr}{b n:Nat}{u:Tok}{R:Int×Int×Nat→Shared→Prop}(hs:z.heap.IsSliceOf sl .none (.int b u) .none)(hb:b≤n)(h:R (((0:Nat):Int),1,b) z) :
 wpAny (model pr wo) Ar (Builtin.Slice.sliceApplied (.ref sl) (pure (n:Int))) R Ex z:=by
 obtain⟨o,ho,hc,hd⟩:=id hs
 unfold Builtin.Slice.sliceApplied Builtin.Slice.sliceFields
 refine wpAny_bind (wpAny_bind (wpAny_field ho hd (x:=.none) rfl (wpAny_bind (wpAny_field ho hd (x:=.int b u) rfl (wpAny_bind (wpAny_field ho hd (x:=.none) rfl (wpAny_pure ?_)))))))
 refine wpAny_bind (slicePart_none ?_)
 show wpAny _ _ (if ((1:Int) == 0)=true then _ else _) _ _ z
 rw[if_neg (show ¬ ((1:Int) == 0)=true by decide)]
 refine wpAny_bind (slicePart_none (wpAny_bind (slicePart_int (wpAny_bind (wpAny_pure ?_)))))
 have e1:Builtin.Slice.sliceAdjust none (some (b:Int)) 1 (n:Int)=((0:Int),(b:Int)):=by
  unfold Builtin.Slice.sliceAdjust
  have a1:¬ ((1:Int) < 0):=by omega
  have a2:¬ ((b:Int) < 0):=by omega
  simp only[a1,a2,if_false]
  congr 1
  omega
 have e2:Builtin.Slice.slicePlaces (0:Int) (b:Int) 1=b:=by
  unfold Builtin.Slice.slicePlaces
  simp only[show (1:Int) > 0 by omega,if_true,Int.ediv_one]
  split<;>omega
 show wpAny _ _ (match Builtin.Slice.sliceAdjust none (some (b:Int)) 1 (n:Int) with|(p,q)=>pure (p,(1:Int),Builtin.Slice.slicePlaces p q 1)) _ _ z
 rw[e1]
 show wpAny _ _ (pure ((0:Int),(1:Int),Builtin.Slice.slicePlaces (0:Int) (b:Int) 1)) _ _ z
 rw[e2]
 exact wpAny_pure h
theorem X7{t sl:Addr}{zs:Array Value}{lo k:Nat}{vl vu:Value}{Q:Value→Shared→Prop}(ht:IsTup z.heap t zs)(hs:z.heap.IsSliceOf sl vl vu .none)(hk:lo+k≤zs.size)
 (ap:∀ (B:Around) (F:Value→Shared→Prop) (R:Int×Int×Nat→Shared→Prop),R ((lo:Int),1,k) z→wpAny (model pr wo) B (Builtin.Slice.sliceApplied (.ref sl) (pure (zs.size:Int))) R F z)
 (h1:lo=0→k=zs.size→Q (.ref t) z) (h2:¬ (lo=0∧k=zs.size)→Q (.ref z.heap.objs.size) { z with heap:=z.heap.push { cls:=.type "tuple", data:=.seq ((zs.toList.drop lo).take k).toArray } }) (hz:zs.size≤sizeLine) :
 wpAny (model pr wo) Ar (getItem (.ref t) (.ref sl)) Q Ex z:=by
 have big:sizeOk (.seq ((zs.toList.drop lo).take k).toArray):=by
  show ((zs.toList.drop lo).take k).toArray.size≤sizeLine
  rw[List.size_toArray,List.length_take,List.length_drop,Array.length_toList];omega
 obtain⟨o,ho,hc,hd⟩:=id hs
 have ty:z.TypeIs (.ref sl) "slice" := ⟨o,ho,hc⟩
 unfold getItem
 try with_reducible refine wpAny_holding ?_
 first|refine wpAny_bind (wpAny_pure ?_)|skip
 refine wpAny_bind (wpAny_sequenceKey ht.typeIs (by decide) ?_)
 refine wpAny_bind (wpAny_callSpecial?_slot (name:=Str.ofString "__getitem__") ht.typeIs slot_tuple_getitem (wpAny_call_entry slot_tuple_getitem ht.typeIs entry_tuple_getitem ?_ (args_tuple_getitem _ _)))
 show wpAny _ _ (Builtin.Tuple.tupleItemsOf (.ref t) >>= _) _ _ z
 refine wpAny_bind (tupleItemsOf_ ht (wpAny_bind (wpAny_typeOf ty ?_)))
 rw[if_pos (by decide)]
 refine wpAny_bind (ap _ _ _ ?_)
 show wpAny _ _ (if ((lo:Int) == 0 && (1:Int) == 1 && k == zs.size)=true then _ else _) _ _ z
 by_cases w:lo=0∧k=zs.size
 ·rw[if_pos (by simp[w.1,w.2])]
  refine wpAny_bind (wpAny_bind (wpAny_typeOf ht.typeIs (wpAny_pure ?_)))
  rw[if_pos (by decide)]
  refine wpAny_bind (wpAny_rule ?_)
  first
   | exact wpAny_bind (wpAny_pure (wpAny_pure ⟨_,rfl,wpAny_pure (h1 w.1 w.2)⟩))
   | exact wpAny_pure ⟨_,rfl,wpAny_pure (h1 w.1 w.2)⟩
 ·have no:¬ (((lo:Int) == 0 && (1:Int) == 1 && k == zs.size)=true):=fun y=>by
   simp only[Bool.and_eq_true,beq_iff_eq] at y
   exact w ⟨by omega,y.2⟩
  rw[if_neg no]
  have e:((List.range k).filterMap fun (j:Nat)=>zs[((lo:Int)+(j:Int) * 1).toNat]?)=(zs.toList.drop lo).take k:=by
   have f:(fun (j:Nat)=>zs[((lo:Int)+(j:Int) * 1).toNat]?)=fun j=>zs[lo+j]?:=by
    funext j
    rw[show ((lo:Int)+(j:Int) * 1).toNat=lo+j by omega]
   have g:=pick_run zs lo k
   rw[List.filterMap_map] at g
   rw[f];exact g
  rw[e]
  have h2:=h2 w
  first
   | exact wpAny_bind (m:=Builtin.Tuple.tupleExact _) (wpAny_newObj_type (wpAny_pure ⟨_,rfl,wpAny_pure h2⟩) big)
   | exact wpAny_bind (m:=Builtin.Tuple.tupleExact _) (wpAny_newObj_type (wpAny_bind (wpAny_pure (wpAny_pure ⟨_,rfl,wpAny_pure h2⟩))) big)
   | exact wpAny_bind (wpAny_bind (m:=Builtin.Tuple.tupleExact _) (wpAny_newObj_type (wpAny_pure (wpAny_pure ⟨_,rfl,wpAny_pure h2⟩)) big))
   | exact wpAny_bind (wpAny_bind (m:=Builtin.Tuple.tupleExact _) (wpAny_newObj_type (wpAny_pure ⟨_,rfl,wpAny_pure h2⟩) big))
end
end L2
namespace A
open PySem L2 PyProof.Rows
open Mi (D W Rs Fin az)
variable[Tb:jb]
section
variable{X:Cx}{K:W.Frag}
def acK(K:W.Frag):V→Option Int→Option Int→Hp→VK→Prop:=fun x lo hi H Q=>∃ p xs i k,x=.ref p∧Ab K H p xs∧xs.length≤sizeLine∧i+k≤xs.length∧((lo=some (i:Int)∧hi=none∧i+k=xs.length)∨(lo=none∧hi=some (k:Int)∧i=0)) ∧
 (i=0→k=xs.length→Q (.ref p) H)∧∀ q,H q=none→Q (.ref q) (upd H q (.tup ((xs.drop i).take k)))
theorem acC:XQ X (acK X.K):=by
 intro pins s σ H x v vl vu lo hi sl Q I rx hs pl pu h
 obtain⟨p,xs,i,k,rfl,hx,hz,hk,hc,q1,q2⟩:=h
 cases rx
 obtain⟨its,r,ht,_⟩:=I.tuple hx
 have hl:=r.length
 refine⟨"tuple", _,slot_tuple_getitem.lookup,ht.typeIs,?_⟩
 have q2:=q2 _ (I.hok.fresh (Nat.le_refl _))
 have sz:its.toArray.size=xs.length:=by rw[List.size_toArray];omega
 refine X7 (zs:=its.toArray) (lo:=i) (k:=k) ht hs (by rw[sz];exact hk) (fun B F R hr=>?_) (fun e1 e2=>⟨.ref p,H,I,rfl,q1 e1 (by rw[e2,sz])⟩) (fun _=>?_) (by rw[sz];exact hz)
 ·rcases hc with ⟨rfl,rfl,e⟩|⟨rfl,rfl,e⟩
  ·cases pl with
   | int _ t =>
   cases pu
   rw[sz]
   refine sliceApplied_from hs (by omega) ?_
   rw[show xs.length - i=k by omega];exact hr
  ·cases pu with
   | int _ t =>
   cases pl
   subst e
   rw[sz]
   exact W4 hs (by omega) hr
 ·rw[show its.toArray.toList=its from rfl]
  exact⟨.ref s.heap.objs.size,_,I.laid (t':=s.toks) (o:=.tup ((xs.drop i).take k)) (fun b ob q=>Heap.get?_push_of_some _ q) (Nat.le_refl _) ⟨by rw[List.length_take,List.length_drop];omega,_,(r.drop i).take k,⟨_,Heap.get?_push_size _ rfl,rfl,rfl,0,rfl⟩⟩,rfl,q2⟩
theorem aan:BS qV (acK K) Mi.DG:=fun x lo hi v H Hv Q vw rx h=>by
 cases x with
 | tup ds =>
  obtain⟨p,xs,rfl,l1,v1,r1⟩:=RD.tup vw rx
  have hl:=r1.len
  cases lo with
  | some a=>cases hi with
   | some c=>exact h.elim
   | none =>
    obtain⟨⟨z1,z2,z3⟩,h⟩:=Mi.aX h
    obtain⟨i,rfl⟩ : ∃ i:Nat,a=i:=⟨a.toNat,by omega⟩
    rw[Int.toNat_natCast] at h
    refine⟨p,xs,i,xs.length - i,rfl,.inl (.inl l1),by rw[← hl,sizeLine_eq];exact z3,by omega,.inl ⟨rfl,rfl,by omega⟩,fun e1 _=>?_,fun c hc=>?_⟩
    ·subst e1
     exact h _ H Hv (.refl vw) (jn.mpr ⟨p,xs,rfl,v1,r1⟩)
    ·obtain⟨g,k⟩:=yI vw (r1.drop i) hc
     rw[List.take_of_length_le (by rw[List.length_drop];exact Nat.le_refl _)]
     exact h _ _ _ g k
  | none=>cases hi with
   | none=>exact h.elim
   | some c =>
    obtain⟨⟨z1,z2,z3⟩,h⟩:=Mi.aX h
    obtain⟨k,rfl⟩ : ∃ k:Nat,c=k:=⟨c.toNat,by omega⟩
    rw[Int.toNat_natCast] at h
    refine⟨p,xs,0,k,rfl,.inl (.inl l1),by rw[← hl,sizeLine_eq];exact z3,by omega,.inr ⟨rfl,rfl,rfl⟩,fun _ e2=>?_,fun c hc=>?_⟩
    ·have h:=h (.ref p) H Hv (.refl vw)
     rw[List.take_of_length_le (by omega)] at h
     exact h (jn.mpr ⟨p,xs,rfl,v1,r1⟩)
    ·obtain⟨g,kk⟩:=yI vw (r1.take k) hc
     rw[List.drop_zero]
     exact h _ _ _ g kk
 | _=>exact h.elim
end
end A
namespace Mi
open PySem
end Mi
namespace L2
open PySem PySem.Spec PyProof.Rows
end L2
namespace A
open PySem L2 PyProof.Rows
open Mi (D W Rs Fin az)
variable[Tb:jb]
end A
namespace Mr
open PySem Mi
def pD:S :=
 (jR (lJ (mV 1)) (.n 2)
 (iI (cB (m2 dY (mV 2) (mV 0)))
 gY
 bA))
def bu:Fn:=uL 2 3 pD
def z8:S :=
 (aW (qQ (aR bu [(wD (m2 cz (mV 0) (mC (.int 0)))),(wD (mN fP [(mV 1)]))]))
 (dg (wD (mN tG [(cW [some 1,none,none] (lJ (m2 cz (mV 0) (mC (.int 1)))) (.t [1,2]) (cB (m2 oK (mV 2) (mV 0))) (mV 1))]))))
def dI:Fn:=uL 2 2 z8
def vL:S :=
 (aW (jR (lJ (m2 cz (mV 0) (mC (.int 0)))) (.n 2)
 (iI (nq (cB (m2 dY (mV 2) (mV 1))) (cB (mN Ua [(cW [some 1,none] (lJ (aR dI [(wD (mV 0)),(wD (mV 2))])) (.n 1) jM (m2 pN (mV 1) (mV 0)))])))
 (dg (wD (mV 2)))
 bA))
 (dg (wD (mC .non))))
def d9:Fn:=uL 2 3 vL
def GR:S :=
 (aW (bL 1 (mN fP []))
 (aW (bL 2 (mz d9 [(wD (mV 0)),(wD (mV 1))]))
 (aW (Cp 100 (cB (m2 DP (mV 2) (mC .non)))
 (aW (bU 1 (mV 2))
 (bL 2 (mz d9 [(wD (mV 0)),(wD (mV 1))]))))
 (dg (wV 1)))))
def qZ:Fn:=J1 1 3 GR
def GK:S :=
 (aW (bL 2 (mC (.str "etaoinshrdlucmfwypvbgkqjxz")))
 (aW (iI (cB (m2 J2 (m2 cX (mV 0) (mC (.int 4))) (mC (.int 2))))
 (aW (bL 3 (m2 Rt (mC (.str "")) (cW [some 2,some 0,none] (eQ (mC (.int 8))) (.n 2) jM (m2 cz (mV 0) (m2 cX (m2 iZ (mV 1) (m2 cG (mC (.int 4)) (m2 dM (mC (.int 3)) (mV 2)))) (mC (.int 26)))))))
 (aW (iI (cB (m2 oK (m2 cX (mV 0) (mC (.int 4))) (mC (.int 0))))
 (dg (wD (cW [some 3,none] (eQ (mV 1)) (.n 1) jM (jh Tu (mV 0) none (some (m2 cG (mV 1) (mC (.int 1))))))))
 bA)
 (dg (wD (cW [some 3,none] (eQ (mV 1)) (.n 1) jM (jh Tu (mV 0) (some (m2 Js (mC (.int 7)) (mV 1))) none))))))
 bA)
 (aW (bL 4 (m2 cX (m2 iZ (mV 0) (mC (.int 4))) (mC (.int 8))))
 (aW (bL 5 (m2 Rt (mC (.str "")) (cW [some 2,some 0,none] (eQ (mV 4)) (.n 2) jM (m2 cz (mV 0) (m2 cX (m2 cG (m2 cG (m2 iZ (mV 1) (mC (.int 32))) (m2 dM (mC (.int 5)) (mV 2))) (m2 dM (mV 2) (mV 2))) (mC (.int 26)))))))
 (aW (bL 6 (m2 cX (m2 iZ (mV 0) (mC (.int 256))) (m2 cG (mV 4) (mC (.int 1)))))
 (dg (wD (cW [some 5,some 2,some 6,some 0,none] (eQ (mV 1)) (.n 4) jM (m2 cG (m2 cG (jh Tu (mV 0) none (some (mV 2))) (m2 cz (mV 1) (m2 cX (m2 cG (m2 iZ (mV 3) (mC (.int 7))) (m2 dM (mC (.int 5)) (mV 4))) (mC (.int 26))))) (jh Tu (mV 0) (some (mV 2)) none))))))))))
def qW:Fn:=J1 2 7 GK
def M6:S :=
 (aW (iI (cB (m2 J2 (mV 1) (mN gB [(mV 0)])))
 (dg (wD (m2 cz (mV 0) (mV 1))))
 bA)
 (aW (bL 2 (m2 cG (mC (.int 30011)) (m2 dM (m2 dM (mC (.int 709)) (mV 1)) (mV 1))))
 (aW (iI (cB (m2 XX (mN gB [(mV 0)]) (mC (.int 0))))
 (bL 2 (m2 cG (mV 2) (m2 dM (m2 cX (m2 cz (mV 0) (mC (.int 0))) (mC (.int 99991))) (m2 cG (m2 cG (m2 dM (mV 1) (mV 1)) (m2 dM (mC (.int 2)) (mV 1))) (mC (.int 5))))))
 bA)
 (dg (wD (mV 2))))))
def gh:Fn:=uL 2 3 M6
def zX:S :=
 (aW (bL 2 (cW [none] (eQ (mV 1)) (.n 0) jM (mV 0)))
 (aW (bL 3 (mN fP []))
 (aW (bL 4 (m2 cX (mV 0) (mC (.int 2147483647))))
 (aW (jR (eQ (mV 1)) (.n 5)
 (aW (bL 4 (m2 cX (m2 cG (m2 cG (m2 dM (mV 4) (mC (.int 48271))) (m2 dM (mC (.int 7)) (mV 5))) (mC (.int 1))) (mC (.int 2147483647))))
 (rW 3 2 (m2 cX (m2 iZ (mV 4) (mC (.int 32))) (mN gB [(mV 2)])))))
 (dg (wV 3))))))
def mZ:Fn:=J1 2 6 zX
def GP:S :=
 (aW (bL 2 (m2 cG (mC (.int 1)) (m2 cX (aR gh [(wD (mV 0)),(wD (mC (.int 0)))]) (mV 1))))
 (aW (bL 3 (aR qW [(wD (aR gh [(wD (mV 0)),(wD (mC (.int 1)))])),(wD (mV 2))]))
 (aW (bL 4 (aR mZ [(wD (aR gh [(wD (mV 0)),(wD (mC (.int 2)))])),(wD (mV 2))]))
 (aW (bL 5 (m2 cz (mN fP [(mC (.int 4)),(mC (.int 1)),(mC (.int 2)),(mC (.int 3)),(mC (.int 2)),(mC (.int 3))]) (m2 cX (aR gh [(wD (mV 0)),(wD (mC (.int 3)))]) (mC (.int 6)))))
 (aW (bL 6 (mN fP []))
 (aW (jR (eQ (mV 2)) (.n 7)
 (jR (eQ (mV 2)) (.n 8)
 (aW (bL 9 (aR gh [(wD (mV 0)),(wD (m2 cG (m2 cG (mC (.int 4)) (m2 iZ (m2 dM (mN zf [(mV 7),(mV 8)]) (m2 Js (mN zf [(mV 7),(mV 8)]) (mC (.int 1)))) (mC (.int 2)))) (mN M9 [(mV 7),(mV 8)])))]))
 (iI (nq (cB (m2 J2 (m2 cz (mV 4) (mV 7)) (m2 cz (mV 4) (mV 8)))) (cB (m2 J2 (m2 cX (m2 iZ (m2 cX (m2 dM (mV 9) (mC (.int 48271))) (mC (.int 2147483647))) (mC (.int 16))) (mC (.int 4))) (mV 5))))
 (bU 6 (mN dTup [(m2 cz (mV 3) (mV 7)),(m2 cz (mV 3) (mV 8))]))
 bA))))
 (dg (wD (mN dTup [(mN tG [(mV 3)]),(mN tG [(mV 6)])])))))))))
def qY:Fn:=uL 2 10 GP
def M4:S :=
 (dg (wD (mOr (m2 pN (mN dTup [(mV 1),(mV 2)]) (m2 cz (mV 0) (mC (.int 1)))) (m2 pN (mN dTup [(mV 2),(mV 1)]) (m2 cz (mV 0) (mC (.int 1)))))))
def iC:Fn:=uL 3 3 M4
def tR:S :=
 (dg (wD (m2 Jx (aR dI [(wD (mV 0)),(wD (mV 2))]) (m2 Gq (aR dI [(wD (mV 0)),(wD (mV 1))]) (mN dTup [(mV 1)])))))
def dJ:Fn:=uL 3 3 tR
def vH:S :=
 (dg (wD (cW [some 0,none,none] (lJ (m2 cz (mV 0) (mC (.int 1)))) (.t [1,2]) (cB (aR dJ [(wD (mV 0)),(wD (mV 1)),(wD (mV 2))])) (mN dTup [(mV 1),(mV 2)]))))
def ie:Fn:=J1 1 1 vH
def zY:S :=
 (dg (wD (cW [some 1,none] (lJ (mV 0)) (.n 1) jM (m2 cz (mN fP [(mV 1),(mN dTup [(m2 cz (mV 1) (mC (.int 1))),(m2 cz (mV 1) (mC (.int 0)))])]) (mN ab0 [(m2 oK (mV 1) (mV 0))])))))
def eX:Fn:=J1 2 2 zY
def tQ:S :=
 (aW (bL 2 (mN GZ [(mV 0)]))
 (aW (jR (eQ (mN gB [(mV 0)])) (.n 3)
 (aW (bL 4 (cW [some 2,none,none] (lJ (mV 1)) (.t [1,2]) (cB (m2 pN (mV 1) (mV 0))) (mV 2)))
 (bL 2 (cW [some 4,none] (lJ (mV 2)) (.n 1) (cB (m2 pN (mV 1) (mV 0))) (mV 1)))))
 (dg (wD (m2 XX (mN gB [(mV 2)]) (mC (.int 0)))))))
def dH:Fn:=uL 2 5 tQ
def zW:S :=
 (aW (iI (T7 (cB (m2 oK (m2 cX (mV 2) (mC (.int 3))) (mC (.int 0)))) (cB (m2 oK (mN gB [(mV 1)]) (mC (.int 0)))))
 (aW (bL 3 (mN fP []))
 (aW (jR (lJ (mV 0)) (.n 4)
 (jR (lJ (mV 0)) (.n 5)
 (iI (nq (cB (m2 wA (mV 4) (mV 5))) (nq (cB (m2 dY (mN dTup [(mV 4),(mV 5)]) (mV 1))) (cB (m2 dY (mN dTup [(mV 5),(mV 4)]) (mV 1)))))
 (bU 3 (mN dTup [(mV 4),(mV 5)]))
 bA)))
 (aW (bL 3 (cW [some 0,some 1,none] (lJ (mV 3)) (.n 2) (lN (cB (aR dH [(wD (mV 0)),(wD (m2 cG (mV 1) (mN fP [(mV 2)])))]))) (mV 2)))
 (aW (iI (cB (m2 XX (mN gB [(mV 3)]) (mC (.int 0))))
 (dg (wD (m2 cG (mV 1) (mN fP [(m2 cz (mV 3) (m2 cX (m2 iZ (mV 2) (mC (.int 3))) (mN gB [(mV 3)])))]))))
 bA)
 (dg (wD (jh Tu (mV 1) (some (mC (.int 1))) none)))))))
 bA)
 (aW (bL 6 (m2 cX (m2 iZ (mV 2) (mC (.int 3))) (mN gB [(mV 1)])))
 (aW (bL 7 (aR eX [(wD (mV 1)),(wD (m2 cz (mV 1) (mV 6)))]))
 (aW (iI (T7 (cB (m2 oK (m2 cX (mV 2) (mC (.int 3))) (mC (.int 1)))) (cB (aR dH [(wD (mV 0)),(wD (mV 7))])))
 (dg (wD (m2 cG (jh Tu (mV 1) none (some (mV 6))) (jh Tu (mV 1) (some (m2 cG (mV 6) (mC (.int 1)))) none))))
 bA)
 (dg (wD (mV 7)))))))
def lg:Fn:=uL 3 8 zW
def Ek:S :=
 (aW (bL 2 (mN fP []))
 (aW (jR (lJ (mV 0)) (.n 3)
 (jR (lJ (mV 0)) (.n 4)
 (iI (cB (m2 pN (mN dTup [(mV 3),(mV 4)]) (mV 1)))
 (bU 2 (mN dTup [(mV 3),(mV 4)]))
 bA)))
 (dg (wD (mN dTup [(mN tG [(mV 0)]),(mN tG [(mV 2)])])))))
def ig:Fn:=uL 2 5 Ek
def z6:S :=
 (aW (bL 1 (mN fP []))
 (aW (jR (yP (m2 cz (mV 0) (mC (.int 0)))) (.t [2,3])
 (jR (lJ (m2 cz (mV 0) (mC (.int 0)))) (.n 4)
 (jR (lJ (jh Dz (m2 cz (mV 0) (mC (.int 0))) (some (m2 cG (mV 2) (mC (.int 1)))) none)) (.n 5)
 (aW (bL 6 (yL (m2 pN (mN dTup [(mV 3),(mV 4)]) (m2 cz (mV 0) (mC (.int 1)))) (m2 pN (mN dTup [(mV 5),(mV 4)]) (m2 cz (mV 0) (mC (.int 1))))))
 (iI (nq (MP (mV 6)) (lN (cB (aR iC [(wD (mV 0)),(wD (mV 3)),(wD (mV 5))]))))
 (bU 1 (mN dTup [(mV 3),(mV 4),(mV 5)]))
 bA)))))
 (dg (wV 1))))
def lq:Fn:=J1 1 7 z6
def Eo:S :=
 (aW (qQ (aR bu [(wD (m2 cz (mV 0) (mC (.int 0)))),(wD (mN fP [(mV 1),(mV 2)]))]))
 (dg (wD (mOr (m2 pN (mN dTup [(mV 1),(mV 2)]) (m2 cz (mV 0) (mC (.int 1)))) (m2 pN (mN dTup [(mV 2),(mV 1)]) (m2 cz (mV 0) (mC (.int 1))))))))
def iu:Fn:=uL 3 3 Eo
def vI:S :=
 (dg (wD (IW [0] (mV 1) (cW [some 1,none] (lJ (mV 0)) (.n 1) jM (m2 W0 (mV 0) (mV 1))))))
def dC:Fn:=J1 2 2 vI
def Eh:S :=
 (aW (bL 1 (mN fP []))
 (aW (jR (yP (mV 0)) (.t [2,3])
 (rU 1 (cW [some 3,none] (lJ (jh Dz (mV 0) (some (m2 cG (mV 2) (mC (.int 1)))) none)) (.n 1) jM (mN dTup [(mV 0),(mV 1)]))))
 (dg (wV 1))))
def iJ:Fn:=J1 1 4 Eh
def GF:S :=
 (dg (wD (cW [some 0,none,none] (lJ (aR iJ [(wD (m2 cz (mV 0) (mC (.int 0))))])) (.t [1,2]) (cB (aR iu [(wD (mV 0)),(wD (mV 1)),(wD (mV 2))])) (mN dTup [(mV 1),(mV 2)]))))
def jH:Fn:=J1 1 1 GF
def xY:S :=
 (aW (aaS (.t [1,2]) (mV 0))
 (aW (bL 3 (mN fP []))
 (aW (jR (lJ (aR iJ [(wD (mV 1))])) (.t [4,5])
 (iI (lN (cB (aR iu [(wD (mV 0)),(wD (mV 4)),(wD (mV 5))])))
 (aW (bL 6 (cW [some 2,some 4,some 5,none] (lJ (mV 1)) (.n 3) (nq (cB (m2 pN (mN dTup [(mV 1),(mV 3)]) (mV 0))) (cB (m2 pN (mN dTup [(mV 2),(mV 3)]) (mV 0)))) (mV 3)))
 (rU 3 (cW [some 4,some 5,none] (lJ (mV 6)) (.n 2) jM (mN dTup [(mV 0),(mV 2),(mV 1)]))))
 bA))
 (dg (wD (aR dC [(wD (mV 1)),(wD (mV 3))]))))))
def fV:Fn:=J1 1 7 xY
def M3:S :=
 (aW (bL 1 (mN fP []))
 (aW (jR (eQ (mN gB [(m2 cz (mV 0) (mC (.int 0)))])) (.n 2)
 (bL 1 (m2 cG (mV 1) (cW [some 2,some 0,none] (lJ (jh Dz (m2 cz (mV 0) (mC (.int 0))) (some (m2 cG (mV 2) (mC (.int 1)))) none)) (.n 2) (cB (aR iC [(wD (mV 1)),(wD (m2 cz (m2 cz (mV 1) (mC (.int 0))) (mV 0))),(wD (mV 2))])) (mN dTup [(m2 cz (m2 cz (mV 1) (mC (.int 0))) (mV 0)),(mV 2)])))))
 (dg (wD (mV 1)))))
def qX:Fn:=uL 1 3 M3
def GQ:S :=
 (dg (wD (yL (yK Zd Zd (mC (.int 1)) (mN gB [(mV 0)]) (mC (.int 8))) (mN Ua [(cW [none] (lJ (mV 0)) (.n 0) jM (m2 pN (mV 0) (mC (.str "abcdefghijklmnopqrstuvwxyz"))))]))))
def gD:Fn:=uL 1 1 GQ
def nA:S :=
 (aW (iI (lN (cB (yK Zd Zd (mC (.int 1)) (mN gB [(mV 0)]) (mC (.int 8)))))
 gY
 bA)
 (aW (Vf 1 (fun _=>.ok (.dk [])))
 (jR (lJ (mV 0)) (.n 2)
 (aW (iI (lN (cB (aR gD [(wD (mV 2))])))
 gY
 bA)
 (aW (iI (cB (I9 1 (mV 2)))
 gY
 bA)
 (pX 1 (mV 2) (mC (.bl true))))))))
def eV:Fn:=uL 1 3 nA
def nu:S :=
 (aW (Vf 2 (fun _=>.ok (.dt [])))
 (jR (lJ (mV 1)) (.t [3,4])
 (aW (qQ (aR bu [(wD (mV 0)),(wD (mN fP [(mV 3),(mV 4)]))]))
 (aW (iI (cB (m2 oK (mV 3) (mV 4)))
 gY
 bA)
 (aW (iI (cB (I9 2 (mN dTup [(mV 3),(mV 4)])))
 gY
 bA)
 (aW (pX 2 (mN dTup [(mV 3),(mV 4)]) (mC (.bl true)))
 (pX 2 (mN dTup [(mV 4),(mV 3)]) (mC (.bl true)))))))))
def eU:Fn:=uL 2 5 nu
def vJ:S :=
 (aW (bL 1 (aR qZ [(wD (mV 0))]))
 (aW (bL 2 (cW [some 1,none] (lJ (m2 cz (mV 0) (mC (.int 0)))) (.n 1) (cB (m2 dY (mV 1) (mV 0))) (mV 1)))
 (iI (MP (mV 2))
 gY
 bA)))
def jV:Fn:=uL 1 3 vJ
def Ei:S :=
 (aW (qQ (aR eV [(wD (mV 0))]))
 (aW (qQ (aR eU [(wD (mV 0)),(wD (mV 1))]))
 (aW (bL 2 (cW [none,none] (lJ (mV 1)) (.t [0,1]) jM (mN dTup [(mV 0),(mV 1)])))
 (aW (bL 3 (mN dTup [(mN tG [(mV 0)]),(mN tG [(aR dC [(wD (mV 0)),(wD (mV 2))])])]))
 (aW (qQ (aR jV [(wD (mV 3))]))
 (dg (wD (mV 3))))))))
def my:Fn:=uL 2 4 Ei
def xX:S :=
 (aW (aaS (.t [3,4]) (mV 0))
 (aW (qQ (aR bu [(wD (mV 3)),(wD (mN fP [(mV 1),(mV 2)]))]))
 (aW (iI (cB (m2 dY (mN dTup [(mV 1),(mV 2)]) (mV 4)))
 gY
 bA)
 (aW (iI (lN (cB (aR dJ [(wD (mV 0)),(wD (mV 1)),(wD (mV 2))])))
 gY
 bA)
 (aW (bL 5 (cW [some 1,some 2,none] (lJ (mV 4)) (.n 2) (cB (m2 wA (mV 2) (mN dTup [(mV 0),(mV 1)]))) (mV 2)))
 (dg (wD (aR my [(wD (mV 3)),(wD (m2 cG (mV 5) (mN fP [(mN dTup [(mV 2),(mV 1)])])))]))))))))
def iK:Fn:=uL 3 6 xX
def Em:S :=
 (dg (wD (cW [some 1,none,none] (lJ (mV 0)) (.t [1,2]) (cB (m2 oK (mV 2) (mV 0))) (mV 1))))
def ir:Fn:=J1 2 2 Em
def zZ:S :=
 (aW (bL 1 (mN fP []))
 (aW (jR (lJ (mV 0)) (.t [2,3])
 (iI (cB (m2 oK (mN uP [(aR ir [(wD (mV 0)),(wD (mV 3))])]) (mN uP [(m2 cG (aR ir [(wD (mV 0)),(wD (mV 2))]) (mN fP [(mV 2)]))])))
 (bU 1 (mN dTup [(mV 2),(mV 3)]))
 bA))
 (dg (wV 1))))
def eY:Fn:=J1 1 4 zZ
def lV:S :=
 (iI (cB (m2 wA (m2 cz (mV 0) (mC (.int 0))) (m2 cz (mV 1) (mC (.int 0)))))
 gY
 bA)
def dW:Fn:=uL 2 2 lV
def iR:S :=
 (iI (cP (cB (m2 wA (m2 cz (mV 0) (mC (.int 0))) (m2 cz (mV 1) (mC (.int 0))))))
 (Ay "Unlike")
 (sP bA))
def b8:Fn:=uL 2 2 iR
def Eg:S :=
 (aW (qQ (aR dW [(wD (mV 0)),(wD (mV 1))]))
 (dg (wD (yL (m2 oK (aR jH [(wD (mV 0))]) (aR jH [(wD (mV 1))])) (m2 oK (aR fV [(wD (mV 0))]) (aR fV [(wD (mV 1))]))))))
def oY:Fn:=uL 2 2 Eg
def uO:S :=
 (aW (uC b8 [(wD (mV 0)),(wD (mV 1))])
 (sP (dg (wD (yL (m2 oK (aR jH [(wD (mV 0))]) (aR jH [(wD (mV 1))])) (m2 oK (aR fV [(wD (mV 0))]) (aR fV [(wD (mV 1))])))))))
def gO:Fn:=uL 2 2 uO
def En:S :=
 (aW (iI (lN (cB (aR oY [(wD (mV 0)),(wD (mV 1))])))
 gY
 bA)
 (aW (bL 2 (mN fP []))
 (aW (bL 3 (mV 0))
 (aW (Cp 100 (cB (m2 wA (mV 3) (mV 1)))
 (aW (bL 4 (m2 cz (cW [some 1,none] (lJ (aR ie [(wD (mV 3))])) (.n 1) (cB (m2 dY (mV 1) (m2 cz (mV 0) (mC (.int 1))))) (mV 1)) (mC (.int 0))))
 (aW (bU 2 (mV 4))
 (bL 3 (aR iK [(wD (mV 3)),(wD (m2 cz (mV 4) (mC (.int 0)))),(wD (m2 cz (mV 4) (mC (.int 1))))])))))
 (dg (wV 2))))))
def iM:Fn:=J1 2 5 En
def z9:S :=
 (aW (Qu gO [(wD (mV 0)),(wD (mV 1))]
 (Ay "Unlike")
 (sP bA))
 (aW (sP gY)
 (aW (sP gY)
 (aW (sP gY)
 (sP gY)))))
def lr:Fn:=uL 2 5 z9
def El:S :=
 (aW (bL 2 (mN GZ [(m2 cz (mV 0) (mC (.int 1)))]))
 (aW (bL 3 (m2 cX (mV 1) (mC (.int 2147483647))))
 (aW (jR (eQ (m2 cX (mV 1) (mC (.int 7)))) (.n 4)
 (aW (bL 5 (aR eY [(wD (mV 2))]))
 (aW (bL 3 (m2 cX (m2 cG (m2 dM (mV 3) (mC (.int 48271))) (mC (.int 11))) (mC (.int 2147483647))))
 (iI (cB (m2 XX (mN gB [(mV 5)]) (mC (.int 0))))
 (bL 2 (aR eX [(wD (mV 2)),(wD (m2 cz (mV 5) (m2 cX (m2 iZ (mV 3) (mC (.int 16))) (mN gB [(mV 5)]))))]))
 bA))))
 (aW (iI (cB (m2 oK (m2 cX (m2 iZ (mV 1) (mC (.int 7))) (mC (.int 2))) (mC (.int 1))))
 (bL 2 (aR lg [(wD (m2 cz (mV 0) (mC (.int 0)))),(wD (mV 2)),(wD (m2 iZ (mV 3) (mC (.int 8))))]))
 bA)
 (dg (wD (aR ig [(wD (m2 cz (mV 0) (mC (.int 0)))),(wD (mV 2))])))))))
def oZ:Fn:=uL 2 6 El
def Ej:S :=
 (aW (bL 3 (mN gB [(cW [some 2,none] (lJ (m2 cz (mV 1) (mC (.int 1)))) (.n 1) (cB (m2 dY (mV 1) (m2 cz (mV 0) (mC (.int 1))))) (mV 1))]))
 (aW (iI (T7 (lN (cB (m1 (bIs ["list"]) (mV 0)))) (cB (m2 wA (mN gB [(mV 0)]) (mV 3))))
 (dg (wD (mC (.bl false))))
 bA)
 (aW (bL 4 (mN GZ [(m2 cz (mV 1) (mC (.int 1)))]))
 (aW (jR (lJ (mV 0)) (.n 5)
 (aW (iI (T7 (lN (cB (m1 (bIs ["tuple"]) (mV 5)))) (T7 (cB (m2 wA (mN gB [(mV 5)]) (mC (.int 2)))) (cB (m2 dY (mV 5) (aR eY [(wD (mV 4))])))))
 (dg (wD (mC (.bl false))))
 bA)
 (bL 4 (aR eX [(wD (mV 4)),(wD (mV 5))]))))
 (dg (wD (m2 oK (aR ig [(wD (m2 cz (mV 1) (mC (.int 0)))),(wD (mV 4))]) (mV 2))))))))
def kO:Fn:=uL 3 6 Ej
def M5:S :=
 (aW (bL 1 (mN fP []))
 (aW (iI (cB (Lq 0 (fun c=>([("Unlike", false)]:List (String×Bool)).lookup c)))
 (bU 1 (mC (.str "one of the others")))
 bA)
 (aW (iI (cB (Lq 0 (fun c=>([("Unlike", false)]:List (String×Bool)).lookup c)))
 (bU 1 (mC (.str "one of the others")))
 bA)
 (aW (iI (cB (Lq 0 (fun c=>([("Unlike", true)]:List (String×Bool)).lookup c)))
 (bU 1 (mC (.str "Unlike")))
 bA)
 (aW (iI (lN (cB (Lq 0 (fun c=>([("Unlike", true)]:List (String×Bool)).lookup c))))
 (bU 1 (mC (.str "no ValueError")))
 bA)
 (dg (wV 1)))))))
def m6:Fn:=J1 1 2 M5
def vK:S :=
 (aW (bL 2 (mN fP []))
 (aW (Ve 3 ["Unlike"]
 (uC lr [(wD (mV 0)),(wD (mV 1))])
 (bL 2 (aR m6 [(wV 3)])))
 (dg (wD (mV 2)))))
def ik:Fn:=uL 2 4 vK
def uN:S :=
 (aW (iI (cB (m2 wA (m2 cz (mV 0) (mC (.int 0))) (m2 cz (mV 1) (mC (.int 0)))))
 (dg (wD (mC (.bl false))))
 bA)
 (dg (wD (yL (m2 oK (aR qX [(wD (mV 0))]) (aR qX [(wD (mV 1))])) (m2 oK (aR lq [(wD (mV 0))]) (aR lq [(wD (mV 1))]))))))
def eZ:Fn:=uL 2 2 uN
def GJ:S :=
 (aW (bL 1 (aR qY [(wD (mV 0)),(wD (mC (.int 8)))]))
 (aW (bL 2 (aR gh [(wD (mV 0)),(wD (mC (.int 32)))]))
 (aW (bL 3 (m2 cG (m2 dM (m2 iZ (mV 2) (mC (.int 4))) (mC (.int 14))) (m2 cX (m2 iZ (mV 2) (mC (.int 8))) (mC (.int 7)))))
 (aW (iI (cB (m2 oK (m2 cX (mV 2) (mC (.int 4))) (mC (.int 1))))
 (bL 3 (m2 cG (mV 3) (mC (.int 7))))
 bA)
 (aW (bL 4 (aR oZ [(wD (mV 1)),(wD (mV 3))]))
 (aW (iI (cB (m2 oK (m2 cX (mV 2) (mC (.int 8))) (mC (.int 2))))
 (aW (bL 5 (m2 cX (m2 iZ (mV 2) (mC (.int 8))) (mN gB [(m2 cz (mV 1) (mC (.int 0)))])))
 (bL 4 (aR ig [(wD (m2 Gq (jh DG (m2 cz (mV 1) (mC (.int 0))) (some (mV 5)) none) (jh DG (m2 cz (mV 1) (mC (.int 0))) none (some (mV 5))))),(wD (mN GZ [(m2 cz (mV 1) (mC (.int 1)))]))])))
 bA)
 (aW (jR (eQ (mC (.int 3))) (.n 6)
 (aW (Kw [7,8] (m2 cz (mN fP [(mN fP [(mV 1),(mV 4)]),(mN fP [(mV 4),(mV 1)])]) (m2 cX (mV 6) (mC (.int 2)))))
 (iI (cB (aR eZ [(wD (mV 7)),(wD (mV 8))]))
 (aW (bL 9 (aR iM [(wD (mV 7)),(wD (mV 8))]))
 (aW (iI (lN (cB (mz kO [(wD (mV 9)),(wD (mV 7)),(wD (mV 8))])))
 (dg (wD (mC (.bl false))))
 bA)
 (bU 9 (mN dTup [(mC (.str "a")),(mC (.str "b"))]))))
 (iI (cB (m2 wA (aR ik [(wD (mV 7)),(wD (mV 8))]) (mN fP [(mC (.str "Unlike"))])))
 (dg (wD (mC (.bl false))))
 bA))))
 (dg (wD (yL (m2 oK (aR iM [(wD (mV 1)),(wD (mV 1))]) (mN fP [])) (m2 oK (aR iM [(wD (mV 4)),(wD (mV 4))]) (mN fP []))))))))))))
def yJ:Fn:=uL 1 10 GJ
end Mr
namespace Nu
open PySem L2 PyProof.Rows A
open Mr
def YK(x:Str):Str:=x ++ ".<locals>." ++ "<lambda>"
def top(i:Nat):Stmt:=PySem.Challenge.pw_arrowfind_k32_chains_walked.main.body.getD i (.Pass ⟨0,0,0,0⟩)
structure Txt(mg:Str→Option Value):Prop where
 dX:mg "len" = none
 jN:mg "range" = none
 MT:mg "max" = none
 Xi:mg "min" = none
 iy:mg "tuple" = none
 qw:mg "list" = none
 jO:mg "isinstance" = none
 M7:mg "all" = none
 ae7:mg "any" = none
 aeT:mg "bool" = none
 ae6:mg "str" = none
 Xj:mg "int" = none
 ae5:mg "zip" = none
 z7:mg "enumerate" = none
 Ed:mg "sorted" = none
 abY:mg "reversed" = none
 aao:mg "set" = none
 T6:∃ t,mg "LETTERS" = some (.str "abcdefghijklmnopqrstuvwxyz" t)
 Eb:∃ t,mg "MOST_LETTERS" = some (.int 8 t)
 JD:∃ t,mg "MOST_NAMES" = some (.int 8 t)
section
variable[Tb:jb]
structure Own(mg:Str→Option Value)(base:Heap):Prop where
 Lg:OwnCls "Unlike" (Tb.cl "Unlike") [.type "ValueError", .type "Exception", .type "BaseException", .type "object"] "ValueError.__new__" mg base
 JH:mg "ArrowError" = some (.ref (Tb.cl "ArrowError"))
 M8:mg "WrongSize" = some (.ref (Tb.cl "WrongSize"))
 Xm:mg "NoWord" = some (.ref (Tb.cl "NoWord"))
 Zu:mg "Twice" = some (.ref (Tb.cl "Twice"))
 Xp:mg "NoName" = some (.ref (Tb.cl "NoName"))
 abZ:mg "Ring" = some (.ref (Tb.cl "Ring"))
 Xl:mg "Unlike" = some (.ref (Tb.cl "Unlike"))
 T9:mg "NoArrow" = some (.ref (Tb.cl "NoArrow"))
 Xq:mg "Locked" = some (.ref (Tb.cl "Locked"))
 Zv:mg "NoTie" = some (.ref (Tb.cl "NoTie"))
 Xo:mg "NoSuch" = some (.ref (Tb.cl "NoSuch"))
 Zx:mg "NoNet" = some (.ref (Tb.cl "NoNet"))
 Xn:mg "NoText" = some (.ref (Tb.cl "NoText"))
 Zw:mg "NoRow" = some (.ref (Tb.cl "NoRow"))
 T8:mg "NoLabel" = some (.ref (Tb.cl "NoLabel"))
 Iu:mg "ValueError" = none
end
section
variable{P:Program}{w:World}{K:W.Frag}{mg:Str→Option Value}{base:Heap}[Tb:jb]
structure Kit(K:W.Frag):Prop where
 Jh:∀ x k,(fun c=>([("Unlike", true)]:List (String×Bool)).lookup c) x=some k→tH K (Tb.cl x)∧W.kitOne K (.ref (Tb.cl x)) (.type "ValueError")=some k
 Wi:∀ x k,(fun c=>([("Unlike", true)]:List (String×Bool)).lookup c) x=some k→tH K (Tb.cl x)∧W.kitOne K (.ref (Tb.cl x)) (.ref (Tb.cl "Unlike"))=some k
 gq:∀ x k,(fun c=>([("Unlike", false)]:List (String×Bool)).lookup c) x=some k→tH K (Tb.cl x)∧W.kitAny K (.ref (Tb.cl x)) (([Tb.cl "NoSuch", Tb.cl "NoText", Tb.cl "NoTie", Tb.cl "NoWord", Tb.cl "Ring", Tb.cl "Twice", Tb.cl "WrongSize"]:List Addr).map .ref)=some k
 iG:∀ x k,(fun c=>([("Unlike", false)]:List (String×Bool)).lookup c) x=some k→tH K (Tb.cl x)∧W.kitAny K (.ref (Tb.cl x)) (([Tb.cl "Locked", Tb.cl "NoArrow", Tb.cl "NoLabel", Tb.cl "NoName", Tb.cl "NoNet", Tb.cl "NoRow"]:List Addr).map .ref)=some k
 IV:∀ C,(∃ c∈(["Unlike"]:List String),C=Tb.cl c)→W.exmOne K (.ref C) (.ref (Tb.cl "ArrowError"))=some true
abbrev km:Stmt:=top 27
theorem nY:bz ["names", "asked", "name"] ["names", "asked"] (aQ km):=⟨rfl,rfl,rfl,by decide +kernel,rfl,by decide +kernel,by decide +kernel⟩
theorem vp{f:Addr}{fd:FuncData}(F:mX K "refuse_strangers" "refuse_strangers" km f fd)(T:Txt mg)  : dz P w K mg base cH 1 f fd ["names", "asked"] (jT bu) :=
 F.ok nY (fun vs H Q E h=>nR h) (fun cdv A outer s H vs Q E hr h=>by
  have nd:=nY.nd
  have hu:=di hr
  have bO:=hr.units
  exact⟨_,(aK (gA PassesOwn.never rfl (cL (pv 1)) (aV (i:=2) nd rfl (Or.inl rfl))
 (aK (dh (bF (jG bO) (pv 2) (pv 0) rfl)
 (aK gf)
 bJ)))),
  _root_.A.nJ (N:=["names", "asked", "name"]) (M:=Mo []) (gC (K:=K) (tg:=(.n 2)) (mQ (ao 1 rfl)) (by decide)
 (dG (bC (AE.p (aD oF (AE.p (ao 2 rfl)) (AE.p (ao 0 rfl)))))
 gj
 bK)) (by decide) h⟩)
abbrev v7:Stmt:=top 24
theorem zJ:bz ["net", "one", "other"] ["net", "one", "other"] (aQ v7):=⟨rfl,rfl,rfl,by decide +kernel,rfl,by decide +kernel,by decide +kernel⟩
theorem Lf{f:Addr}{fd:FuncData}(F:mX K "are_tied" "are_tied" v7 f fd)(T:Txt mg)(bI:kZ P w K mg base cH 1 "refuse_strangers" ["names", "asked"] (jT bu)):dz P w K mg base cH 2 f fd ["net", "one", "other"] (jT iu) :=
 F.ok zJ (fun vs H Q E h=>nR h) (fun cdv A outer s H vs Q E hr h=>by
  have nd:=zJ.nd
  have hu:=di hr
  have bO:=hr.units
  have cM:=hr.mono (show 1≤_ by decide)
  exact⟨_,(aA (dj (aZ bI cM rfl bG (ak (bR bx (pv 0) aJ (fun _ _=>rfl)) (ak (dD (ak (pv 1) (ak (pv 2) au))) au))))
 (aK (bM (Z8 (fu (lZ bO) (cD (ak (pv 1) (ak (pv 2) au))) (bR bx (pv 0) aJ (fun _ _=>rfl)) rfl) (uE (fu (lZ bO) (cD (ak (pv 2) (ak (pv 1) au))) (bR bx (pv 0) aJ (fun _ _=>rfl)) rfl)))))),
  _root_.A.nJ (N:=["net", "one", "other"]) (M:=Mo []) (aM (qg (AE.p (cj (aB (AE.w (aD dB (AE.p (ao 0 rfl)) (AE.p aO))) (aB (AW.nv (AE.w (gR (aC (ao 1 rfl) (aC (ao 2 rfl) aP))))) aY)))))
 (cZ (AE.w (adS (AE.p (aD zc (AE.p (fK (aC (ao 1 rfl) (aC (ao 2 rfl) aP)))) (AE.p (aD dB (AE.p (ao 0 rfl)) (AE.p aO))))) (aD zc (AE.p (fK (aC (ao 2 rfl) (aC (ao 1 rfl) aP)))) (AE.p (aD dB (AE.p (ao 0 rfl)) (AE.p aO)))))))) (by decide) h⟩)
abbrev vV:Stmt:=top 38
theorem zA:bz ["names", "pairs", "place", "one"] ["names"] (aQ vV):=⟨rfl,rfl,rfl,by decide +kernel,rfl,by decide +kernel,by decide +kernel⟩
theorem K7{f:Addr}{fd:FuncData}(F:mX K "pairs_of" "pairs_of" vV f fd)(T:Txt mg)  : dz P w K mg base cH 1 f fd ["names"] (rM iJ) :=
 F.ok zA (fun vs H Q E h=>xP h) (fun cdv A outer s H vs Q E hr h=>by
  have nd:=zA.nd
  have hu:=di hr
  have bO:=hr.units
  exact⟨_,(aA (bw (i:=1) nd rfl (Or.inl rfl) (dD au))
 (aA (gA PassesOwn.never rfl (Zp.K1 rfl T.z7 (pv 0)) (lY rfl (bV (aV (i:=2) nd rfl (Or.inl rfl)) (bV (aV (i:=3) nd rfl (Or.inr rfl)) jo)))
 (aK (dj (lU PySem.F.plainAttrs_list PySem.F.slot_list_extend PySem.F.type_list_extend CT (pv 1) (ak (fj (N':=["one", "other"]) (ρ:=[some 3,none]) rfl (c7.of rfl (by kernel_rfl)) (cL (iV aaQ (pv 0) (j4 (bf cA (pv 2) aJ)) j5)) (fun _ _ _ _ _=>(aV (i:=1) (by show (["one", "other"]:List Str).Nodup;decide +kernel) rfl (Or.inl rfl))) (fH rfl) (fun _ _ _ _ _=>jF) (fun _ _ _ _ _=>(cD (ak (pv 0) (ak (pv 1) au))))) au)))))
 (aK (bM (pv 1))))),
  _root_.A.runN (N:=["names", "pairs", "place", "one"]) (M:=Mo [1]) (aM (lL 1 rfl (gR aP))
 (aM (gC (K:=K) (tg:=(.t [2,3])) (Zp.Nq (ao 0 rfl)) (by decide)
 (G3 1 rfl (AE.nv (fc (K:=K) (tg:=(.n 1)) (fJ (AE.p (Aq Xh (AE.p (ao 0 rfl)) (j7 (AE.p (aD gr (AE.p (ao 2 rfl)) (AE.p aO)))) j8))) (by decide) mK (fK (aC (ao 0 rfl) (aC (ao 1 rfl) aP)))))))
 (mO 1 rfl))) (by decide) h⟩)
abbrev yp:Stmt:=top 34
theorem BZ:bz ["net"] ["net"] (aQ yp):=⟨rfl,rfl,rfl,by decide +kernel,rfl,by decide +kernel,by decide +kernel⟩
theorem Ox{f:Addr}{fd:FuncData}(F:mX K "ties_of" "ties_of" yp f fd)(T:Txt mg)(mU:kZ P w K mg base cH 2 "are_tied" ["net", "one", "other"] (jT iu))(mR:kZ P w K mg base cH 1 "pairs_of" ["names"] (rM iJ)):dz P w K mg base cH 3 f fd ["net"] (rM jH) :=
 F.ok BZ (fun vs H Q E h=>xP h) (fun cdv A outer s H vs Q E hr h=>by
  have nd:=BZ.nd
  have hu:=di hr
  have bO:=hr.units
  have uJ:=hr.mono (show 2≤_ by decide)
  have uG:=hr.mono (show 1≤_ by decide)
  exact⟨_,(aK (bM (fj (N':=["net", "one", "other"]) (ρ:=[some 0,none,none]) rfl (c7.of rfl (by kernel_rfl)) (cL (aZ mR uG rfl bG (ak (bR bx (pv 0) aJ (fun _ _=>rfl)) au))) (fun _ _ _ _ _=>(lY rfl (bV (aV (i:=1) (by show (["net", "one", "other"]:List Str).Nodup;decide +kernel) rfl (Or.inl rfl)) (bV (aV (i:=2) (by show (["net", "one", "other"]:List Str).Nodup;decide +kernel) rfl (Or.inl rfl)) jo)))) (yR (iW rfl (iW rfl yS nU) (vf nU))) (fun _ _ _ _ _=>(jE (iz (aZ mU uJ rfl bG (ak (pv 0) (ak (pv 1) (ak (pv 2) au))))))) (fun _ _ _ _ _=>(cD (ak (pv 1) (ak (pv 2) au))))))),
  _root_.A.runN (N:=["net"]) (M:=Mo []) (qe (AE.w (fc (K:=K) (tg:=(.t [1,2])) (fJ (AE.np (cC (aB (AE.w (aD dB (AE.p (ao 0 rfl)) (AE.p aO))) aY)))) (by decide) (pQ (AE.p (cj (aB (AE.w (ao 0 rfl)) (aB (AE.w (ao 1 rfl)) (aB (AE.w (ao 2 rfl)) aY)))))) (fK (aC (ao 1 rfl) (aC (ao 2 rfl) aP)))))) (by decide) h⟩)
abbrev qm:Stmt:=top 26
theorem uq:bz ["names", "rows"] ["names", "rows"] (aQ qm):=⟨rfl,rfl,rfl,by decide +kernel,rfl,by decide +kernel,by decide +kernel⟩
theorem Cy{f:Addr}{fd:FuncData}{cc TT:Addr}(F:XR K "sorted_rows" "sorted_rows" qm cc f fd)(T:Txt mg)(hB:BM mg base)(hC:W.CodeHd base cc TT)(hTb:(TT,YK "sorted_rows")∈Tb.l)  : dz P w K mg base cH 4 f fd ["names", "rows"] (rM dC) :=
 F.ok uq (fun vs H Q E h=>xP h) (fun A outer s H vs Q E hr h=>by
  have nd:=uq.nd
  have hu:=di hr
  have bO:=hr.units
  exact⟨_,(aK (bM (Vx (x := "row") (ρ:=[0]) (N':=["row", "names"]) (k:=0) (qual:=YK "sorted_rows") rfl T.Ed (pv 1) (hr.mono (by decide)) rfl hC hB rfl rfl rfl (G6.one rfl rfl rfl rfl rfl rfl rfl rfl) (fun pm c' ctv u=>rfl) (fun A f c' s H env hrl he=>by subst he;exact(fj (N':=["names", "name"]) (ρ:=[some 1,none]) rfl (c7.of rfl (by kernel_rfl)) (cL (pv 0)) (fun _ _ _ _ _=>(aV (i:=1) (by show (["names", "name"]:List Str).Nodup;decide +kernel) rfl (Or.inl rfl))) (fH rfl) (fun _ _ _ _ _=>jF) (fun _ _ _ _ _=>(aa6 PySem.F.plainAttrs_tuple PySem.F.slot_tuple_index PySem.F.type_tuple_index adf PySem.F.plainAttrs_list PySem.F.slot_list_index PySem.F.type_list_index adg (pv 0) (ak (pv 1) au)))))))),
  _root_.A.runN (N:=["names", "rows"]) (M:=Mo []) (qe (AE.w (ZK hTb (by decide) (AE.p (ao 1 rfl)) (fc (K:=K) (tg:=(.n 1)) (fJ (AE.p (ao 0 rfl))) (by decide) mK (adU (AE.p (ao 0 rfl)) (AE.p (ao 1 rfl))))))) (by decide) h⟩)
abbrev rR:Stmt:=top 35
theorem vB:bz ["net", "names", "arrows", "corners", "one", "other", "middles"] ["net"] (aQ rR):=⟨rfl,rfl,rfl,by decide +kernel,rfl,by decide +kernel,by decide +kernel⟩
theorem Fi{f:Addr}{fd:FuncData}(F:mX K "corners_of" "corners_of" rR f fd)(T:Txt mg)(mU:kZ P w K mg base cH 2 "are_tied" ["net", "one", "other"] (jT iu))(jg:kZ P w K mg base cH 4 "sorted_rows" ["names", "rows"] (rM dC))(mR:kZ P w K mg base cH 1 "pairs_of" ["names"] (rM iJ)):dz P w K mg base cH 5 f fd ["net"] (rM fV) :=
 F.ok vB (fun vs H Q E h=>xP h) (fun cdv A outer s H vs Q E hr h=>by
  have nd:=vB.nd
  have hu:=di hr
  have bO:=hr.units
  have uJ:=hr.mono (show 2≤_ by decide)
  have pq:=hr.mono (show 4≤_ by decide)
  have uG:=hr.mono (show 1≤_ by decide)
  exact⟨_,(aA (Ot (pv 0) (lY rfl (bV (aV (i:=1) nd rfl (Or.inl rfl)) (bV (aV (i:=2) nd rfl (Or.inr rfl)) jo))))
 (aA (bw (i:=3) nd rfl (Or.inl rfl) (dD au))
 (aA (gA PassesOwn.never rfl (cL (aZ mR uG rfl bG (ak (pv 1) au))) (lY rfl (bV (aV (i:=4) nd rfl (Or.inr rfl)) (bV (aV (i:=5) nd rfl (Or.inr rfl)) jo)))
 (aK (dh (nM (iz (aZ mU uJ rfl bG (ak (pv 0) (ak (pv 4) (ak (pv 5) au))))))
 (aA (u6 (i:=6) (N':=["arrows", "one", "other", "name"]) (ρ:=[some 2,some 4,some 5,none]) rfl nd rfl (Or.inl rfl) (c7.of rfl (by kernel_rfl)) (cL (pv 1)) (fun _ _ _ _ _=>(aV (i:=3) (by show (["arrows", "one", "other", "name"]:List Str).Nodup;decide +kernel) rfl (Or.inl rfl))) (fH rfl) (fun _ _ _ _ _=>(jE (PW.pt (pw_and (bF (lZ bO) (cD (ak (pv 1) (ak (pv 3) au))) (pv 0) rfl) (pw_and1 (bF (lZ bO) (cD (ak (pv 2) (ak (pv 3) au))) (pv 0) rfl)))))) (fun _ _ _ _ _=>(pv 3)))
 (aK (dj (lU PySem.F.plainAttrs_list PySem.F.slot_list_extend PySem.F.type_list_extend CT (pv 3) (ak (fj (N':=["one", "other", "middle"]) (ρ:=[some 4,some 5,none]) rfl (c7.of rfl (by kernel_rfl)) (cL (pv 6)) (fun _ _ _ _ _=>(aV (i:=2) (by show (["one", "other", "middle"]:List Str).Nodup;decide +kernel) rfl (Or.inl rfl))) (fH rfl) (fun _ _ _ _ _=>jF) (fun _ _ _ _ _=>(cD (ak (pv 0) (ak (pv 2) (ak (pv 1) au)))))) au)))))
 bJ)))
 (aK (bM (aZ jg pq rfl bG (ak (pv 1) (ak (pv 3) au)))))))),
  _root_.A.runN (N:=["net", "names", "arrows", "corners", "one", "other", "middles"]) (M:=Mo [3]) (aM (XC (K:=K) (.t [1,2]) (by decide) (ao 0 rfl))
 (aM (lL 3 rfl (gR aP))
 (aM (gC (K:=K) (tg:=(.t [4,5])) (mQ (AE.nv (cC (aB (AE.w (ao 1 rfl)) aY)))) (by decide)
 (dG (pG (pQ (AE.p (cj (aB (AE.w (ao 0 rfl)) (aB (AE.w (ao 4 rfl)) (aB (AE.w (ao 5 rfl)) aY)))))))
 (aM (bH 6 rfl (AE.nv (fc (K:=K) (tg:=(.n 3)) (fJ (AE.p (ao 1 rfl))) (by decide) (zg (bC (AE.p (aD zc (AE.p (fK (aC (ao 1 rfl) (aC (ao 3 rfl) aP)))) (AE.p (ao 0 rfl))))) (bC (AE.p (aD zc (AE.p (fK (aC (ao 2 rfl) (aC (ao 3 rfl) aP)))) (AE.p (ao 0 rfl)))))) (ao 3 rfl))))
 (G3 3 rfl (AE.nv (fc (K:=K) (tg:=(.n 2)) (fJ (AE.p (ao 6 rfl))) (by decide) mK (fK (aC (ao 0 rfl) (aC (ao 2 rfl) (aC (ao 1 rfl) aP))))))))
 bK))
 (Ub 3 rfl (AE.w (cC (aB (AE.w (ao 1 rfl)) (aB (AE.w (ao 3 rfl)) aY)))))))) (by decide) h⟩)
abbrev gm:Stmt:=top 37
theorem fQ:bz ["first", "second"] ["first", "second"] (aQ gm):=⟨rfl,rfl,rfl,by decide +kernel,rfl,by decide +kernel,by decide +kernel⟩
theorem sE{f:Addr}{fd:FuncData}(F:mX K "refuse_unlike_names" "refuse_unlike_names" gm f fd)(T:Txt mg)  : dz P w K mg base cH 1 f fd ["first", "second"] (jT dW) :=
 F.ok fQ (fun vs H Q E h=>nR h) (fun cdv A outer s H vs Q E hr h=>by
  have nd:=fQ.nd
  have hu:=di hr
  have bO:=hr.units
  exact⟨_,(aK (dh (bF (sr bO) (bR bx (pv 0) aJ (fun _ _=>rfl)) (bR bx (pv 1) aJ (fun _ _=>rfl)) (bY _))
 (aK gf)
 bJ)),
  _root_.A.nJ (N:=["first", "second"]) (M:=Mo []) (dG (bC (AE.p (aD JG (AE.p (aD dB (AE.p (ao 0 rfl)) (AE.p aO))) (AE.p (aD dB (AE.p (ao 1 rfl)) (AE.p aO))))))
 gj
 bK) (by decide) h⟩)
theorem qU{f:Addr}{fd:FuncData}(F:mX K "refuse_unlike_names" "refuse_unlike_names" gm f fd)(T:Txt mg)(O:Own mg base)   : dz P w K mg base (Br P w) 1 f fd ["first", "second"] (U7 Tb.cl b8) :=
 F.okX fQ (fun vs H Q E h=>abw h) (fun cdv A outer s H vs Q E hr h=>by
  have nd:=fQ.nd
  have hu:=di hr
  have bO:=hr.units
  exact⟨_,(aK (dh (bF (sr bO) (bR bx (pv 0) aJ (fun _ _=>rfl)) (bR bx (pv 1) aJ (fun _ _=>rfl)) (bY _))
 (aK (KY PySem.F.excBase_ValueError O.Lg nO rfl))
 bJ)),
  _root_.A.aaU (N:=["first", "second"]) (M:=Mo []) (ab3 (bC (AE.p (aD JG (AE.p (aD dB (AE.p (ao 0 rfl)) (AE.p aO))) (AE.p (aD dB (AE.p (ao 1 rfl)) (AE.p aO))))))
 Ep
 (wC bK)) (by decide) h⟩)
abbrev rP:Stmt:=top 36
theorem pU:bz ["first", "second"] ["first", "second"] (aQ rP):=⟨rfl,rfl,rfl,by decide +kernel,rfl,by decide +kernel,by decide +kernel⟩
theorem K6{f:Addr}{fd:FuncData}(F:mX K "say_same" "say_same" rP f fd)(T:Txt mg)(lz:kZ P w K mg base cH 3 "ties_of" ["net"] (rM jH))(gV:kZ P w K mg base cH 5 "corners_of" ["net"] (rM fV))(jm:kZ P w K mg base cH 1 "refuse_unlike_names" ["first", "second"] (jT dW)):dz P w K mg base cH 6 f fd ["first", "second"] (jT oY) :=
 F.ok pU (fun vs H Q E h=>nR h) (fun cdv A outer s H vs Q E hr h=>by
  have nd:=pU.nd
  have hu:=di hr
  have bO:=hr.units
  have ph:=hr.mono (show 3≤_ by decide)
  have jW:=hr.mono (show 5≤_ by decide)
  have sS:=hr.mono (show 1≤_ by decide)
  exact⟨_,(aA (dj (aZ jm sS rfl bG (ak (pv 0) (ak (pv 1) au))))
 (aK (bM (yF (fu (gZ bO) (aZ lz ph rfl bG (ak (pv 0) au)) (aZ lz ph rfl bG (ak (pv 1) au)) (bY _)) (uE (fu (gZ bO) (aZ gV jW rfl bG (ak (pv 0) au)) (aZ gV jW rfl bG (ak (pv 1) au)) (bY _))))))),
  _root_.A.nJ (N:=["first", "second"]) (M:=Mo []) (aM (qg (AE.p (cj (aB (AE.w (ao 0 rfl)) (aB (AE.w (ao 1 rfl)) aY)))))
 (cZ (AE.w (G5 (AE.p (aD qx (AE.np (cC (aB (AE.w (ao 0 rfl)) aY))) (AE.np (cC (aB (AE.w (ao 1 rfl)) aY))))) (aD qx (AE.np (cC (aB (AE.w (ao 0 rfl)) aY))) (AE.np (cC (aB (AE.w (ao 1 rfl)) aY)))))))) (by decide) h⟩)
theorem Im{f:Addr}{fd:FuncData}(F:mX K "say_same" "say_same" rP f fd)(T:Txt mg)(O:Own mg base)(lz:kZ P w K mg base cH 3 "ties_of" ["net"] (rM jH))(gV:kZ P w K mg base cH 5 "corners_of" ["net"] (rM fV))(iU:kZ P w K mg base (Br P w) 1 "refuse_unlike_names" ["first", "second"] (U7 Tb.cl b8)):dz P w K mg base (Br P w) 6 f fd ["first", "second"] (U7 Tb.cl gO) :=
 F.okX pU (fun vs H Q E h=>abw h) (fun cdv A outer s H vs Q E hr h=>by
  have nd:=pU.nd
  have hu:=di hr
  have bO:=hr.units
  have ph:=hr.mono (show 3≤_ by decide)
  have jW:=hr.mono (show 5≤_ by decide)
  have rB:=hr.mono (show 1≤_ by decide)
  exact⟨_,(aA (dj (aZ iU rB rfl QB (ak (pv 0) (ak (pv 1) au))))
 (aK (bM (yF (fu (gZ bO) (aZ lz ph rfl bG (ak (pv 0) au)) (aZ lz ph rfl bG (ak (pv 1) au)) (bY _)) (uE (fu (gZ bO) (aZ gV jW rfl bG (ak (pv 0) au)) (aZ gV jW rfl bG (ak (pv 1) au)) (bY _))))))),
  _root_.A.aaU (N:=["first", "second"]) (M:=Mo []) (xZ (Xz (aB (AE.w (ao 0 rfl)) (aB (AE.w (ao 1 rfl)) aY)))
 (wC (cZ (AE.w (G5 (AE.p (aD qx (AE.np (cC (aB (AE.w (ao 0 rfl)) aY))) (AE.np (cC (aB (AE.w (ao 1 rfl)) aY))))) (aD qx (AE.np (cC (aB (AE.w (ao 0 rfl)) aY))) (AE.np (cC (aB (AE.w (ao 1 rfl)) aY))))))))) (by decide) h⟩)
abbrev uB:Stmt:=top 23
theorem xr:bz ["net", "name"] ["net", "name"] (aQ uB):=⟨rfl,rfl,rfl,by decide +kernel,rfl,by decide +kernel,by decide +kernel⟩
theorem Il{f:Addr}{fd:FuncData}(F:mX K "elders_of" "elders_of" uB f fd)(T:Txt mg)(bI:kZ P w K mg base cH 1 "refuse_strangers" ["names", "asked"] (jT bu)):dz P w K mg base cH 2 f fd ["net", "name"] (jT dI) :=
 F.ok xr (fun vs H Q E h=>nR h) (fun cdv A outer s H vs Q E hr h=>by
  have nd:=xr.nd
  have hu:=di hr
  have bO:=hr.units
  have cM:=hr.mono (show 1≤_ by decide)
  exact⟨_,(aA (dj (aZ bI cM rfl bG (ak (bR bx (pv 0) aJ (fun _ _=>rfl)) (ak (dD (ak (pv 1) au)) au))))
 (aK (bM (fB jz rfl T.iy boot_tuple (ak (fj (N':=["name", "tail", "head"]) (ρ:=[some 1,none,none]) rfl (c7.of rfl (by kernel_rfl)) (cL (bR bx (pv 0) aJ (fun _ _=>rfl))) (fun _ _ _ _ _=>(lY rfl (bV (aV (i:=1) (by show (["name", "tail", "head"]:List Str).Nodup;decide +kernel) rfl (Or.inl rfl)) (bV (aV (i:=2) (by show (["name", "tail", "head"]:List Str).Nodup;decide +kernel) rfl (Or.inl rfl)) jo)))) (yR (iW rfl (iW rfl yS nU) (vf nU))) (fun _ _ _ _ _=>(jE (bF (gZ bO) (pv 2) (pv 0) (bY _)))) (fun _ _ _ _ _=>(pv 1))) au))))),
  _root_.A.nJ (N:=["net", "name"]) (M:=Mo []) (aM (qg (AE.p (cj (aB (AE.w (aD dB (AE.p (ao 0 rfl)) (AE.p aO))) (aB (AW.nv (AE.w (gR (aC (ao 1 rfl) aP)))) aY)))))
 (cZ (AE.w (ji iy (aC (AE.np (fc (K:=K) (tg:=(.t [1,2])) (fJ (AE.p (aD dB (AE.p (ao 0 rfl)) (AE.p aO)))) (by decide) (bC (AE.p (aD qx (AE.p (ao 2 rfl)) (AE.p (ao 0 rfl))))) (ao 1 rfl))) aP))))) (by decide) h⟩)
abbrev nH:Stmt:=top 43
theorem qO:bz ["net", "tail", "head"] ["net", "tail", "head"] (aQ nH):=⟨rfl,rfl,rfl,by decide +kernel,rfl,by decide +kernel,by decide +kernel⟩
theorem yH{f:Addr}{fd:FuncData}(F:mX K "can_be_turned" "can_be_turned" nH f fd)(T:Txt mg)(jD:kZ P w K mg base cH 2 "elders_of" ["net", "name"] (jT dI)):dz P w K mg base cH 3 f fd ["net", "tail", "head"] (jT dJ) :=
 F.ok qO (fun vs H Q E h=>nR h) (fun cdv A outer s H vs Q E hr h=>by
  have nd:=qO.nd
  have hu:=di hr
  have bO:=hr.units
  have ou:=hr.mono (show 2≤_ by decide)
  exact⟨_,(aK (bM (fu (VL bO) (fB (Gu rfl) rfl T.aao boot_set (ak (aZ jD ou rfl bG (ak (pv 0) (ak (pv 2) au))) au)) (fB (Gu rfl) rfl T.aao boot_set (ak (bf QH (aZ jD ou rfl bG (ak (pv 0) (ak (pv 1) au))) (cD (ak (pv 1) au))) au)) (bY _)))),
  _root_.A.nJ (N:=["net", "tail", "head"]) (M:=Mo []) (cZ (AE.w (ZL (AE.p (cj (aB (AE.w (ao 0 rfl)) (aB (AE.w (ao 2 rfl)) aY)))) (AE.p (aD Xk (AE.p (cj (aB (AE.w (ao 0 rfl)) (aB (AE.w (ao 1 rfl)) aY)))) (AE.p (fK (aC (ao 1 rfl) aP)))))))) (by decide) h⟩)
abbrev ql:Stmt:=top 40
theorem uo:bz ["net"] ["net"] (aQ ql):=⟨rfl,rfl,rfl,by decide +kernel,rfl,by decide +kernel,by decide +kernel⟩
theorem Cw{f:Addr}{fd:FuncData}(F:mX K "turnable_in" "turnable_in" ql f fd)(T:Txt mg)(gG:kZ P w K mg base cH 3 "can_be_turned" ["net", "tail", "head"] (jT dJ)):dz P w K mg base cH 4 f fd ["net"] (rM ie) :=
 F.ok uo (fun vs H Q E h=>xP h) (fun cdv A outer s H vs Q E hr h=>by
  have nd:=uo.nd
  have hu:=di hr
  have bO:=hr.units
  have mF:=hr.mono (show 3≤_ by decide)
  exact⟨_,(aK (bM (fj (N':=["net", "tail", "head"]) (ρ:=[some 0,none,none]) rfl (c7.of rfl (by kernel_rfl)) (cL (bR bx (pv 0) aJ (fun _ _=>rfl))) (fun _ _ _ _ _=>(lY rfl (bV (aV (i:=1) (by show (["net", "tail", "head"]:List Str).Nodup;decide +kernel) rfl (Or.inl rfl)) (bV (aV (i:=2) (by show (["net", "tail", "head"]:List Str).Nodup;decide +kernel) rfl (Or.inl rfl)) jo)))) (yR (iW rfl (iW rfl yS nU) (vf nU))) (fun _ _ _ _ _=>(jE (iz (aZ gG mF rfl bG (ak (pv 0) (ak (pv 1) (ak (pv 2) au))))))) (fun _ _ _ _ _=>(cD (ak (pv 1) (ak (pv 2) au))))))),
  _root_.A.runN (N:=["net"]) (M:=Mo []) (qe (AE.w (fc (K:=K) (tg:=(.t [1,2])) (fJ (AE.p (aD dB (AE.p (ao 0 rfl)) (AE.p aO)))) (by decide) (pQ (AE.p (cj (aB (AE.w (ao 0 rfl)) (aB (AE.w (ao 1 rfl)) (aB (AE.w (ao 2 rfl)) aY)))))) (fK (aC (ao 1 rfl) (aC (ao 2 rfl) aP)))))) (by decide) h⟩)
abbrev yu:Stmt:=top 21
theorem Cg:bz ["text"] ["text"] (aQ yu):=⟨rfl,rfl,rfl,by decide +kernel,rfl,by decide +kernel,by decide +kernel⟩
theorem O1{f:Addr}{fd:FuncData}(F:mX K "is_word" "is_word" yu f fd)(T:Txt mg)  : dz P w K mg base cH 1 f fd ["text"] (jT gD) :=
 F.ok Cg (fun vs H Q E h=>nR h) (fun cdv A outer s H vs Q E hr h=>by
  have nd:=Cg.nd
  have hu:=di hr
  have bO:=hr.units
  obtain⟨_,Ti⟩:=T.T6
  obtain⟨_,Dq⟩:=T.Eb
  exact⟨_,(aK (bM (yF (VD QG QG aJ (bN cV rfl T.dX PySem.boot_len (ak (pv 0) au)) (gJ (v:=(.int 8)) rfl Dq ⟨_,rfl⟩)) (uE (bN (MN rfl) rfl T.M7 boot_all (ak (fj (N':=["sign"]) (ρ:=[none]) rfl (c7.of rfl (by kernel_rfl)) (cL (pv 0)) (fun _ _ _ _ _=>(aV (i:=0) (by show (["sign"]:List Str).Nodup;decide +kernel) rfl (Or.inl rfl))) (fH rfl) (fun _ _ _ _ _=>jF) (fun _ _ _ _ _=>(fu (lZ bO) (pv 0) (gJ (v:=(.str "abcdefghijklmnopqrstuvwxyz")) rfl Ti ⟨_,rfl⟩) rfl))) au)))))),
  _root_.A.nJ (N:=["text"]) (M:=Mo []) (cZ (AE.w (G5 (AE.p (RG Zq Zq (AE.p aO) (AE.p (ji dX (aC (AE.p (ao 0 rfl)) aP))) (AE.p aO))) (ji M7 (aC (AE.np (fc (K:=K) (tg:=(.n 0)) (fJ (AE.p (ao 0 rfl))) (by decide) mK (aD zc (AE.p (ao 0 rfl)) (AE.p uQ)))) aP))))) (by decide) h⟩)
abbrev ju:Stmt:=top 28
theorem lR:bz ["names", "stood", "name"] ["names"] (aQ ju):=⟨rfl,rfl,rfl,by decide +kernel,rfl,by decide +kernel,by decide +kernel⟩
theorem tZ{f:Addr}{fd:FuncData}(F:mX K "refuse_wrong_names" "refuse_wrong_names" ju f fd)(T:Txt mg)(zp:kZ P w K mg base cH 1 "is_word" ["text"] (jT gD)):dz P w K mg base cH 2 f fd ["names"] (jT eV) :=
 F.ok lR (fun vs H Q E h=>nR h) (fun cdv A outer s H vs Q E hr h=>by
  have nd:=lR.nd
  have hu:=di hr
  have bO:=hr.units
  have Pr:=hr.mono (show 1≤_ by decide)
  obtain⟨_,Jo⟩:=T.JD
  exact⟨_,(aA (dh (nM (Vq QG QG aJ (bN cV rfl T.dX PySem.boot_len (ak (pv 0) au)) (gJ (v:=(.int 8)) rfl Jo ⟨_,rfl⟩)))
 (aK gf)
 bJ)
 (aA (bw (i:=1) nd rfl (Or.inl rfl) VB)
 (aK (gA PassesOwn.never rfl (cL (pv 0)) (aV (i:=2) nd rfl (Or.inl rfl))
 (aA (dh (nM (iz (aZ zp Pr rfl bG (ak (pv 2) au))))
 (aK gf)
 bJ)
 (aA (dh (Vp (VF hu (pv 2) (pv 1)) rfl)
 (aK gf)
 bJ)
 (aK (HR hu (pv 1) (pv 2) zL rfl)))))))),
  _root_.A.nJ (N:=["names", "stood", "name"]) (M:=Mo [1]) (aM (dG (pG (bC (AE.p (RG Zq Zq (AE.p aO) (AE.p (ji dX (aC (AE.p (ao 0 rfl)) aP))) (AE.p aO)))))
 gj
 bK)
 (aM (Rx 1 rfl Xu)
 (gC (K:=K) (tg:=(.n 2)) (mQ (ao 0 rfl)) (by decide)
 (aM (dG (pG (pQ (AE.p (cj (aB (AE.w (ao 2 rfl)) aY)))))
 gj
 bK)
 (aM (dG (pQ (AE.p (aau 1 (ao 2 rfl))))
 gj
 bK)
 (JL 1 rfl (ao 2 rfl) Nr)))))) (by decide) h⟩)
abbrev jt:Stmt:=top 29
theorem lQ:bz ["names", "arrows", "stood", "tail", "head"] ["names", "arrows"] (aQ jt):=⟨rfl,rfl,rfl,by decide +kernel,rfl,by decide +kernel,by decide +kernel⟩
theorem tY{f:Addr}{fd:FuncData}(F:mX K "refuse_wrong_pairs" "refuse_wrong_pairs" jt f fd)(T:Txt mg)(bI:kZ P w K mg base cH 1 "refuse_strangers" ["names", "asked"] (jT bu)):dz P w K mg base cH 2 f fd ["names", "arrows"] (jT eU) :=
 F.ok lQ (fun vs H Q E h=>nR h) (fun cdv A outer s H vs Q E hr h=>by
  have nd:=lQ.nd
  have hu:=di hr
  have bO:=hr.units
  have cM:=hr.mono (show 1≤_ by decide)
  exact⟨_,(aA (bw (i:=2) nd rfl (Or.inl rfl) Vz)
 (aK (gA PassesOwn.never rfl (cL (pv 1)) (lY rfl (bV (aV (i:=3) nd rfl (Or.inl rfl)) (bV (aV (i:=4) nd rfl (Or.inl rfl)) jo)))
 (aA (dj (aZ bI cM rfl bG (ak (pv 0) (ak (dD (ak (pv 3) (ak (pv 4) au))) au))))
 (aA (dh (bF (gZ bO) (pv 3) (pv 4) (bY _))
 (aK gf)
 bJ)
 (aA (dh (Vp (VF hu (cD (ak (pv 3) (ak (pv 4) au))) (pv 2)) rfl)
 (aK gf)
 bJ)
 (aA (HR hu (pv 2) (cD (ak (pv 3) (ak (pv 4) au))) zL rfl)
 (aK (HR hu (pv 2) (cD (ak (pv 4) (ak (pv 3) au))) zL rfl))))))))),
  _root_.A.nJ (N:=["names", "arrows", "stood", "tail", "head"]) (M:=Mo [2]) (aM (Rx 2 rfl Xr)
 (gC (K:=K) (tg:=(.t [3,4])) (mQ (ao 1 rfl)) (by decide)
 (aM (qg (AE.p (cj (aB (AE.w (ao 0 rfl)) (aB (AW.nv (AE.w (gR (aC (ao 3 rfl) (aC (ao 4 rfl) aP))))) aY)))))
 (aM (dG (bC (AE.p (aD qx (AE.p (ao 3 rfl)) (AE.p (ao 4 rfl)))))
 gj
 bK)
 (aM (dG (pQ (AE.p (aau 2 (fK (aC (ao 3 rfl) (aC (ao 4 rfl) aP))))))
 gj
 bK)
 (aM (JL 2 rfl (fK (aC (ao 3 rfl) (aC (ao 4 rfl) aP))) Nr)
 (JL 2 rfl (fK (aC (ao 4 rfl) (aC (ao 3 rfl) aP))) Nr))))))) (by decide) h⟩)
abbrev qt:Stmt:=top 32
theorem uv:bz ["net", "told", "name"] ["net", "told"] (aQ qt):=⟨rfl,rfl,rfl,by decide +kernel,rfl,by decide +kernel,by decide +kernel⟩
theorem CG{f:Addr}{fd:FuncData}(F:mX K "first_ready" "first_ready" qt f fd)(T:Txt mg)(jD:kZ P w K mg base cH 2 "elders_of" ["net", "name"] (jT dI)):dz P w K mg base cH 3 f fd ["net", "told"] (jT d9) :=
 F.ok uv (fun vs H Q E h=>nR h) (fun cdv A outer s H vs Q E hr h=>by
  have nd:=uv.nd
  have hu:=di hr
  have bO:=hr.units
  have ou:=hr.mono (show 2≤_ by decide)
  exact⟨_,(aA (gA PassesOwn.never rfl (cL (bR bx (pv 0) aJ (fun _ _=>rfl))) (aV (i:=2) nd rfl (Or.inl rfl))
 (aK (dh (PW.pt (pw_and (bF (jG bO) (pv 2) (pv 1) rfl) (pw_and1 (iz (bN (MN rfl) rfl T.M7 boot_all (ak (fj (N':=["told", "elder"]) (ρ:=[some 1,none]) rfl (c7.of rfl (by kernel_rfl)) (cL (aZ jD ou rfl bG (ak (pv 0) (ak (pv 2) au)))) (fun _ _ _ _ _=>(aV (i:=1) (by show (["told", "elder"]:List Str).Nodup;decide +kernel) rfl (Or.inl rfl))) (fH rfl) (fun _ _ _ _ _=>jF) (fun _ _ _ _ _=>(fu (lZ bO) (pv 1) (pv 0) rfl))) au))))))
 (aK (bM (pv 2)))
 bJ)))
 (aK (bM Vy))),
  _root_.A.nJ (N:=["net", "told", "name"]) (M:=Mo []) (aM (gC (K:=K) (tg:=(.n 2)) (mQ (aD dB (AE.p (ao 0 rfl)) (AE.p aO))) (by decide)
 (dG (zg (bC (AE.p (aD oF (AE.p (ao 2 rfl)) (AE.p (ao 1 rfl))))) (pQ (AE.p (ji M7 (aC (AE.np (fc (K:=K) (tg:=(.n 1)) (fJ (AE.p (cj (aB (AE.w (ao 0 rfl)) (aB (AE.w (ao 2 rfl)) aY))))) (by decide) mK (aD zc (AE.p (ao 1 rfl)) (AE.p (ao 0 rfl))))) aP)))))
 (cZ (AE.w (ao 2 rfl)))
 bK))
 (cZ (AE.w aas))) (by decide) h⟩)
abbrev yw:Stmt:=top 25
theorem Ci:bz ["net", "told", "name"] ["net"] (aQ yw):=⟨rfl,rfl,rfl,by decide +kernel,rfl,by decide +kernel,by decide +kernel⟩
theorem O2{f:Addr}{fd:FuncData}(F:mX K "in_turn" "in_turn" yw f fd)(T:Txt mg)(mY:kZ P w K mg base cH 3 "first_ready" ["net", "told"] (jT d9)):dz P w K mg base cH 4 f fd ["net"] (rM qZ) :=
 F.ok Ci (fun vs H Q E h=>xP h) (fun cdv A outer s H vs Q E hr h=>by
  have nd:=Ci.nd
  have hu:=di hr
  have bO:=hr.units
  have uH:=hr.mono (show 3≤_ by decide)
  exact⟨_,(aA (bw (i:=1) nd rfl (Or.inl rfl) (dD au))
 (aA (bw (i:=2) nd rfl (Or.inl rfl) (aZ mY uH rfl bG (ak (pv 0) (ak (pv 1) au))))
 (aA (KR PassesOwn.never (bF VJ (pv 2) Vy (bY _))
 (aA (dj (lU PySem.F.plainAttrs_list PySem.F.slot_list_append PySem.F.type_list_append fX (pv 1) (ak (pv 2) au)))
 (aK (bw (i:=2) nd rfl (Or.inl rfl) (aZ mY uH rfl bG (ak (pv 0) (ak (pv 1) au)))))))
 (aK (bM (pv 1)))))),
  _root_.A.runN (N:=["net", "told", "name"]) (M:=Mo [1]) (aM (lL 1 rfl (gR aP))
 (aM (bH 2 rfl (JR (aB (AW.p (AE.w (ao 0 rfl))) (aB (AE.w (qy 1)) aY))))
 (aM (Ni 100 (bC (AE.p (aD Zr (AE.p (ao 2 rfl)) (AE.p aas))))
 (aM (gF 1 rfl (ao 2 rfl))
 (bH 2 rfl (JR (aB (AW.p (AE.w (ao 0 rfl))) (aB (AE.w (qy 1)) aY))))))
 (mO 1 rfl)))) (by decide) h⟩)
abbrev qp:Stmt:=top 30
theorem ur:bz ["net", "told", "left"] ["net"] (aQ qp):=⟨rfl,rfl,rfl,by decide +kernel,rfl,by decide +kernel,by decide +kernel⟩
theorem Cz{f:Addr}{fd:FuncData}(F:mX K "refuse_ring" "refuse_ring" qp f fd)(T:Txt mg)(zq:kZ P w K mg base cH 4 "in_turn" ["net"] (rM qZ)):dz P w K mg base cH 5 f fd ["net"] (jT jV) :=
 F.ok ur (fun vs H Q E h=>nR h) (fun cdv A outer s H vs Q E hr h=>by
  have nd:=ur.nd
  have hu:=di hr
  have bO:=hr.units
  have Pu:=hr.mono (show 4≤_ by decide)
  exact⟨_,(aA (bw (i:=1) nd rfl (Or.inr rfl) (aZ zq Pu rfl bG (ak (pv 0) au)))
 (aA (u6 (i:=2) (N':=["told", "name"]) (ρ:=[some 1,none]) rfl nd rfl (Or.inl rfl) (c7.of rfl (by kernel_rfl)) (cL (bR bx (pv 0) aJ (fun _ _=>rfl))) (fun _ _ _ _ _=>(aV (i:=1) (by show (["told", "name"]:List Str).Nodup;decide +kernel) rfl (Or.inl rfl))) (fH rfl) (fun _ _ _ _ _=>(jE (bF (jG bO) (pv 1) (pv 0) rfl))) (fun _ _ _ _ _=>(pv 1)))
 (aK (dh (KQ (pv 2) (by intro _;rfl))
 (aK gf)
 bJ)))),
  _root_.A.nJ (N:=["net", "told", "left"]) (M:=Mo []) (aM (bH 1 rfl (AE.nv (cC (aB (AE.w (ao 0 rfl)) aY))))
 (aM (bH 2 rfl (AE.nv (fc (K:=K) (tg:=(.n 1)) (fJ (AE.p (aD dB (AE.p (ao 0 rfl)) (AE.p aO)))) (by decide) (bC (AE.p (aD oF (AE.p (ao 1 rfl)) (AE.p (ao 0 rfl))))) (ao 1 rfl))))
 (dG (Nf (AE.p (ao 2 rfl)))
 gj
 bK))) (by decide) h⟩)
abbrev vW:Stmt:=top 22
theorem zB:bz ["names", "arrows", "pairs", "net"] ["names", "arrows"] (aQ vW):=⟨rfl,rfl,rfl,by decide +kernel,rfl,by decide +kernel,by decide +kernel⟩
theorem K8{f:Addr}{fd:FuncData}(F:mX K "net_made" "net_made" vW f fd)(T:Txt mg)(jg:kZ P w K mg base cH 4 "sorted_rows" ["names", "rows"] (rM dC))(jC:kZ P w K mg base cH 2 "refuse_wrong_names" ["names"] (jT eV))(jB:kZ P w K mg base cH 2 "refuse_wrong_pairs" ["names", "arrows"] (jT eU))(qC:kZ P w K mg base cH 5 "refuse_ring" ["net"] (jT jV)):dz P w K mg base cH 6 f fd ["names", "arrows"] (jT my) :=
 F.ok zB (fun vs H Q E h=>nR h) (fun cdv A outer s H vs Q E hr h=>by
  have nd:=zB.nd
  have hu:=di hr
  have bO:=hr.units
  have pq:=hr.mono (show 4≤_ by decide)
  have t7:=hr.mono (show 2≤_ by decide)
  have t6:=hr.mono (show 2≤_ by decide)
  have Dn:=hr.mono (show 5≤_ by decide)
  exact⟨_,(aA (dj (aZ jC t7 rfl bG (ak (pv 0) au)))
 (aA (dj (aZ jB t6 rfl bG (ak (pv 0) (ak (pv 1) au))))
 (aA (u6 (i:=2) (N':=["tail", "head"]) (ρ:=[none,none]) rfl nd rfl (Or.inl rfl) (c7.of rfl (by kernel_rfl)) (cL (pv 1)) (fun _ _ _ _ _=>(lY rfl (bV (aV (i:=0) (by show (["tail", "head"]:List Str).Nodup;decide +kernel) rfl (Or.inl rfl)) (bV (aV (i:=1) (by show (["tail", "head"]:List Str).Nodup;decide +kernel) rfl (Or.inl rfl)) jo)))) (yR (iW rfl (iW rfl yS nU) (vf nU))) (fun _ _ _ _ _=>jF) (fun _ _ _ _ _=>(cD (ak (pv 0) (ak (pv 1) au)))))
 (aA (bw (i:=3) nd rfl (Or.inl rfl) (cD (ak (fB jz rfl T.iy boot_tuple (ak (pv 0) au)) (ak (fB jz rfl T.iy boot_tuple (ak (aZ jg pq rfl bG (ak (pv 0) (ak (pv 2) au))) au)) au))))
 (aA (dj (aZ qC Dn rfl bG (ak (pv 3) au)))
 (aK (bM (pv 3)))))))),
  _root_.A.nJ (N:=["names", "arrows", "pairs", "net"]) (M:=Mo []) (aM (qg (AE.p (cj (aB (AE.w (ao 0 rfl)) aY))))
 (aM (qg (AE.p (cj (aB (AE.w (ao 0 rfl)) (aB (AE.w (ao 1 rfl)) aY)))))
 (aM (bH 2 rfl (AE.nv (fc (K:=K) (tg:=(.t [0,1])) (fJ (AE.p (ao 1 rfl))) (by decide) mK (fK (aC (ao 0 rfl) (aC (ao 1 rfl) aP))))))
 (aM (bH 3 rfl (fK (aC (ji iy (aC (AE.p (ao 0 rfl)) aP)) (aC (ji iy (aC (AE.np (cC (aB (AE.w (ao 0 rfl)) (aB (AE.w (ao 2 rfl)) aY)))) aP)) aP))))
 (aM (qg (AE.p (cj (aB (AE.w (ao 3 rfl)) aY))))
 (cZ (AE.w (ao 3 rfl)))))))) (by decide) h⟩)
abbrev rQ:Stmt:=top 41
theorem vA:bz ["net", "tail", "head", "names", "arrows", "others"] ["net", "tail", "head"] (aQ rQ):=⟨rfl,rfl,rfl,by decide +kernel,rfl,by decide +kernel,by decide +kernel⟩
theorem Fg{f:Addr}{fd:FuncData}(F:mX K "net_turned" "net_turned" rQ f fd)(T:Txt mg)(wL:kZ P w K mg base cH 6 "net_made" ["names", "arrows"] (jT my))(bI:kZ P w K mg base cH 1 "refuse_strangers" ["names", "asked"] (jT bu))(gG:kZ P w K mg base cH 3 "can_be_turned" ["net", "tail", "head"] (jT dJ)):dz P w K mg base cH 7 f fd ["net", "tail", "head"] (jT iK) :=
 F.ok vA (fun vs H Q E h=>nR h) (fun cdv A outer s H vs Q E hr h=>by
  have nd:=vA.nd
  have hu:=di hr
  have bO:=hr.units
  have LQ:=hr.mono (show 6≤_ by decide)
  have cM:=hr.mono (show 1≤_ by decide)
  have mF:=hr.mono (show 3≤_ by decide)
  exact⟨_,(aA (Ot (pv 0) (lY rfl (bV (aV (i:=3) nd rfl (Or.inl rfl)) (bV (aV (i:=4) nd rfl (Or.inl rfl)) jo))))
 (aA (dj (aZ bI cM rfl bG (ak (pv 3) (ak (dD (ak (pv 1) (ak (pv 2) au))) au))))
 (aA (dh (bF (jG bO) (cD (ak (pv 1) (ak (pv 2) au))) (pv 4) rfl)
 (aK gf)
 bJ)
 (aA (dh (nM (iz (aZ gG mF rfl bG (ak (pv 0) (ak (pv 1) (ak (pv 2) au))))))
 (aK gf)
 bJ)
 (aA (u6 (i:=5) (N':=["tail", "head", "arrow"]) (ρ:=[some 1,some 2,none]) rfl nd rfl (Or.inl rfl) (c7.of rfl (by kernel_rfl)) (cL (pv 4)) (fun _ _ _ _ _=>(aV (i:=2) (by show (["tail", "head", "arrow"]:List Str).Nodup;decide +kernel) rfl (Or.inl rfl))) (fH rfl) (fun _ _ _ _ _=>(jE (bF (sr bO) (pv 2) (cD (ak (pv 0) (ak (pv 1) au))) (bY _)))) (fun _ _ _ _ _=>(pv 2)))
 (aK (bM (aZ wL LQ rfl bG (ak (pv 3) (ak (bf cA (pv 5) (dD (ak (cD (ak (pv 2) (ak (pv 1) au))) au))) au)))))))))),
  _root_.A.nJ (N:=["net", "tail", "head", "names", "arrows", "others"]) (M:=Mo []) (aM (XC (K:=K) (.t [3,4]) (by decide) (ao 0 rfl))
 (aM (qg (AE.p (cj (aB (AE.w (ao 3 rfl)) (aB (AW.nv (AE.w (gR (aC (ao 1 rfl) (aC (ao 2 rfl) aP))))) aY)))))
 (aM (dG (bC (AE.p (aD oF (AE.p (fK (aC (ao 1 rfl) (aC (ao 2 rfl) aP)))) (AE.p (ao 4 rfl)))))
 gj
 bK)
 (aM (dG (pG (pQ (AE.p (cj (aB (AE.w (ao 0 rfl)) (aB (AE.w (ao 1 rfl)) (aB (AE.w (ao 2 rfl)) aY)))))))
 gj
 bK)
 (aM (bH 5 rfl (AE.nv (fc (K:=K) (tg:=(.n 2)) (fJ (AE.p (ao 4 rfl))) (by decide) (bC (AE.p (aD JG (AE.p (ao 2 rfl)) (AE.p (fK (aC (ao 0 rfl) (aC (ao 1 rfl) aP))))))) (ao 2 rfl))))
 (cZ (AE.w (cj (aB (AE.w (ao 3 rfl)) (aB (AE.w (aD gr (AE.p (ao 5 rfl)) (AE.np (gR (aC (fK (aC (ao 2 rfl) (aC (ao 1 rfl) aP))) aP))))) aY)))))))))) (by decide) h⟩)
abbrev rT:Stmt:=top 42
theorem pW:bz ["first", "second", "chain", "net", "arrow"] ["first", "second"] (aQ rT):=⟨rfl,rfl,rfl,by decide +kernel,rfl,by decide +kernel,by decide +kernel⟩
theorem Le{f:Addr}{fd:FuncData}(F:mX K "chain_to" "chain_to" rT f fd)(T:Txt mg)(wK:kZ P w K mg base cH 6 "say_same" ["first", "second"] (jT oY))(jX:kZ P w K mg base cH 4 "turnable_in" ["net"] (rM ie))(lM:kZ P w K mg base cH 7 "net_turned" ["net", "tail", "head"] (jT iK)):dz P w K mg base cH 8 f fd ["first", "second"] (rM iM) :=
 F.ok pW (fun vs H Q E h=>xP h) (fun cdv A outer s H vs Q E hr h=>by
  have nd:=pW.nd
  have hu:=di hr
  have bO:=hr.units
  have LK:=hr.mono (show 6≤_ by decide)
  have uF:=hr.mono (show 4≤_ by decide)
  have vD:=hr.mono (show 7≤_ by decide)
  exact⟨_,(aA (dh (nM (iz (aZ wK LK rfl bG (ak (pv 0) (ak (pv 1) au)))))
 (aK gf)
 bJ)
 (aA (bw (i:=2) nd rfl (Or.inl rfl) (dD au))
 (aA (bw (i:=3) nd rfl (Or.inl rfl) (pv 0))
 (aA (KR PassesOwn.never (bF (sr bO) (pv 3) (pv 1) (bY _))
 (aA (bw (i:=4) nd rfl (Or.inl rfl) (bR bx (fj (N':=["second", "each"]) (ρ:=[some 1,none]) rfl (c7.of rfl (by kernel_rfl)) (cL (aZ jX uF rfl bG (ak (pv 3) au))) (fun _ _ _ _ _=>(aV (i:=1) (by show (["second", "each"]:List Str).Nodup;decide +kernel) rfl (Or.inl rfl))) (fH rfl) (fun _ _ _ _ _=>(jE (bF (jG bO) (pv 1) (bR bx (pv 0) aJ (fun _ _=>rfl)) rfl))) (fun _ _ _ _ _=>(pv 1))) aJ (fun _ _=>rfl)))
 (aA (dj (lU PySem.F.plainAttrs_list PySem.F.slot_list_append PySem.F.type_list_append fX (pv 2) (ak (pv 4) au)))
 (aK (bw (i:=3) nd rfl (Or.inl rfl) (aZ lM vD rfl bG (ak (pv 3) (ak (bR bx (pv 4) aJ (fun _ _=>rfl)) (ak (bR bx (pv 4) aJ (fun _ _=>rfl)) au)))))))))
 (aK (bM (pv 2))))))),
  _root_.A.runN (N:=["first", "second", "chain", "net", "arrow"]) (M:=Mo [2]) (aM (dG (pG (pQ (AE.p (cj (aB (AE.w (ao 0 rfl)) (aB (AE.w (ao 1 rfl)) aY))))))
 gj
 bK)
 (aM (lL 2 rfl (gR aP))
 (aM (bH 3 rfl (ao 0 rfl))
 (aM (Ni 100 (bC (AE.p (aD JG (AE.p (ao 3 rfl)) (AE.p (ao 1 rfl)))))
 (aM (bH 4 rfl (aD dB (AE.np (fc (K:=K) (tg:=(.n 1)) (fJ (AE.np (cC (aB (AE.w (ao 3 rfl)) aY)))) (by decide) (bC (AE.p (aD oF (AE.p (ao 1 rfl)) (AE.p (aD dB (AE.p (ao 0 rfl)) (AE.p aO)))))) (ao 1 rfl))) (AE.p aO)))
 (aM (gF 2 rfl (ao 4 rfl))
 (bH 3 rfl (cj (aB (AE.w (ao 3 rfl)) (aB (AE.w (aD dB (AE.p (ao 4 rfl)) (AE.p aO))) (aB (AE.w (aD dB (AE.p (ao 4 rfl)) (AE.p aO))) aY))))))))
 (mO 2 rfl))))) (by decide) h⟩)
theorem Io{f:Addr}{fd:FuncData}(F:mX K "chain_to" "chain_to" rT f fd)(T:Txt mg)(O:Own mg base)(jX:kZ P w K mg base cH 4 "turnable_in" ["net"] (rM ie))(lM:kZ P w K mg base cH 7 "net_turned" ["net", "tail", "head"] (jT iK))(uX:kZ P w K mg base (Br P w) 6 "say_same" ["first", "second"] (U7 Tb.cl gO)):dz P w K mg base (Br P w) 8 f fd ["first", "second"] (U7 Tb.cl lr) :=
 F.okX pW (fun vs H Q E h=>abw h) (fun cdv A outer s H vs Q E hr h=>by
  have nd:=pW.nd
  have hu:=di hr
  have bO:=hr.units
  have Jl:=hr.mono (show 6≤_ by decide)
  have uF:=hr.mono (show 4≤_ by decide)
  have vD:=hr.mono (show 7≤_ by decide)
  exact⟨_,(aA (dh (nM (iz (aZ uX Jl rfl QB (ak (pv 0) (ak (pv 1) au)))))
 (aK (KY PySem.F.excBase_ValueError O.Lg nO rfl))
 bJ)
 (aA gf
 (aA gf
 (aA gf
 (aK gf))))),
  _root_.A.aaU (N:=["first", "second", "chain", "net", "arrow"]) (M:=Mo [2]) (xZ (ZD (aB (AE.w (ao 0 rfl)) (aB (AE.w (ao 1 rfl)) aY))
 Ep
 (wC bK))
 (xZ (wC gj)
 (xZ (wC gj)
 (xZ (wC gj)
 (wC gj))))) (by decide) h⟩)
abbrev Cm:Stmt:=top 45
theorem FQ:bz ["_law_script", "_law_k", "_law_spare"] ["_law_script", "_law_k"] (aQ Cm):=⟨rfl,rfl,rfl,by decide +kernel,rfl,by decide +kernel,by decide +kernel⟩
theorem SJ{f:Addr}{fd:FuncData}(F:mX K "_law_cell" "_law_cell" Cm f fd)(T:Txt mg)  : dz P w K mg base cH 1 f fd ["_law_script", "_law_k"] (jT gh) :=
 F.ok FQ (fun vs H Q E h=>nR h) (fun cdv A outer s H vs Q E hr h=>by
  have nd:=FQ.nd
  have hu:=di hr
  have bO:=hr.units
  exact⟨_,(aA (dh (bF H9 (pv 1) (bN cV rfl T.dX PySem.boot_len (ak (pv 0) au)) (bY _))
 (aK (bM (bR bx (pv 0) (pv 1) (fun _ _=>rfl))))
 bJ)
 (aA (bw (i:=2) nd rfl (Or.inl rfl) (bf cA aJ (bf kI (bf kI aJ (pv 1)) (pv 1))))
 (aA (dh (bF Ie (bN cV rfl T.dX PySem.boot_len (ak (pv 0) au)) aJ (bY _))
 (aK (bw (i:=2) nd rfl (Or.inl rfl) (bf cA (pv 2) (bf kI (bf dF (bR bx (pv 0) aJ (fun _ _=>rfl)) aJ) (bf cA (bf cA (bf kI (pv 1) (pv 1)) (bf kI aJ (pv 1))) aJ)))))
 bJ)
 (aK (bM (pv 2)))))),
  _root_.A.nJ (N:=["_law_script", "_law_k", "_law_spare"]) (M:=Mo []) (aM (dG (bC (AE.p (aD Zo (AE.p (ao 1 rfl)) (AE.p (ji dX (aC (AE.p (ao 0 rfl)) aP))))))
 (cZ (AE.w (aD dB (AE.p (ao 0 rfl)) (AE.p (ao 1 rfl)))))
 bK)
 (aM (bH 2 rfl (aD gr (AE.p aO) (AE.p (aD pF (AE.p (aD pF (AE.p aO) (AE.p (ao 1 rfl)))) (AE.p (ao 1 rfl))))))
 (aM (dG (bC (AE.p (aD Zt (AE.p (ji dX (aC (AE.p (ao 0 rfl)) aP))) (AE.p aO))))
 (bH 2 rfl (aD gr (AE.p (ao 2 rfl)) (AE.p (aD pF (AE.p (aD gQ (AE.p (aD dB (AE.p (ao 0 rfl)) (AE.p aO))) (AE.p aO))) (AE.p (aD gr (AE.p (aD gr (AE.p (aD pF (AE.p (ao 1 rfl)) (AE.p (ao 1 rfl)))) (AE.p (aD pF (AE.p aO) (AE.p (ao 1 rfl)))))) (AE.p aO)))))))
 bK)
 (cZ (AE.w (ao 2 rfl)))))) (by decide) h⟩)
abbrev yq:Stmt:=top 46
theorem Ca:bz ["_law_cell_here", "_law_many", "_law_letters", "_law_long", "_law_size", "_law_stem", "_law_at"] ["_law_cell_here", "_law_many"] (aQ yq):=⟨rfl,rfl,rfl,by decide +kernel,rfl,by decide +kernel,by decide +kernel⟩
theorem Oz{f:Addr}{fd:FuncData}(F:mX K "_law_words" "_law_words" yq f fd)(T:Txt mg)  : dz P w K mg base cH 1 f fd ["_law_cell_here", "_law_many"] (rM qW) :=
 F.ok Ca (fun vs H Q E h=>xP h) (fun cdv A outer s H vs Q E hr h=>by
  have nd:=Ca.nd
  have hu:=di hr
  have bO:=hr.units
  exact⟨_,(aA (bw (i:=2) nd rfl (Or.inr rfl) nO)
 (aA (dh (bF H9 (bf dF (pv 0) aJ) aJ (bY _))
 (aA (bw (i:=3) nd rfl (Or.inr rfl) (lU PySem.F.plainAttrs_str PySem.F.slot_str_join PySem.F.type_str_join QM nO (ak (fj (N':=["_law_letters", "_law_cell_here", "_law_k"]) (ρ:=[some 2,some 0,none]) rfl (c7.of rfl (by kernel_rfl)) (fW rfl T.jN (ak aJ au)) (fun _ _ _ _ _=>(aV (i:=2) (by show (["_law_letters", "_law_cell_here", "_law_k"]:List Str).Nodup;decide +kernel) rfl (Or.inl rfl))) (fH rfl) (fun _ _ _ _ _=>jF) (fun _ _ _ _ _=>(bR bx (pv 0) (bf dF (bf fM (pv 1) (bf cA aJ (bf kI aJ (pv 2)))) aJ) (fun _ _=>rfl)))) au)))
 (aA (dh (bF (gZ bO) (bf dF (pv 0) aJ) aJ (bY _))
 (aK (bM (fj (N':=["_law_long", "_law_k"]) (ρ:=[some 3,none]) rfl (c7.of rfl (by kernel_rfl)) (fW rfl T.jN (ak (pv 1) au)) (fun _ _ _ _ _=>(aV (i:=1) (by show (["_law_long", "_law_k"]:List Str).Nodup;decide +kernel) rfl (Or.inl rfl))) (fH rfl) (fun _ _ _ _ _=>jF) (fun _ _ _ _ _=>(iV Oj (pv 0) j5 (j4 (bf cA (pv 1) aJ)))))))
 bJ)
 (aK (bM (fj (N':=["_law_long", "_law_k"]) (ρ:=[some 3,none]) rfl (c7.of rfl (by kernel_rfl)) (fW rfl T.jN (ak (pv 1) au)) (fun _ _ _ _ _=>(aV (i:=1) (by show (["_law_long", "_law_k"]:List Str).Nodup;decide +kernel) rfl (Or.inl rfl))) (fH rfl) (fun _ _ _ _ _=>jF) (fun _ _ _ _ _=>(iV Oj (pv 0) (j4 (bf VH aJ (pv 1))) j5)))))))
 bJ)
 (aA (bw (i:=4) nd rfl (Or.inl rfl) (bf dF (bf fM (pv 0) aJ) aJ))
 (aA (bw (i:=5) nd rfl (Or.inr rfl) (lU PySem.F.plainAttrs_str PySem.F.slot_str_join PySem.F.type_str_join QM nO (ak (fj (N':=["_law_letters", "_law_cell_here", "_law_k"]) (ρ:=[some 2,some 0,none]) rfl (c7.of rfl (by kernel_rfl)) (fW rfl T.jN (ak (pv 4) au)) (fun _ _ _ _ _=>(aV (i:=2) (by show (["_law_letters", "_law_cell_here", "_law_k"]:List Str).Nodup;decide +kernel) rfl (Or.inl rfl))) (fH rfl) (fun _ _ _ _ _=>jF) (fun _ _ _ _ _=>(bR bx (pv 0) (bf dF (bf cA (bf cA (bf fM (pv 1) aJ) (bf kI aJ (pv 2))) (bf kI (pv 2) (pv 2))) aJ) (fun _ _=>rfl)))) au)))
 (aA (bw (i:=6) nd rfl (Or.inr rfl) (bf dF (bf fM (pv 0) aJ) (bf cA (pv 4) aJ)))
 (aK (bM (fj (N':=["_law_stem", "_law_letters", "_law_at", "_law_cell_here", "_law_k"]) (ρ:=[some 5,some 2,some 6,some 0,none]) rfl (c7.of rfl (by kernel_rfl)) (fW rfl T.jN (ak (pv 1) au)) (fun _ _ _ _ _=>(aV (i:=4) (by show (["_law_stem", "_law_letters", "_law_at", "_law_cell_here", "_law_k"]:List Str).Nodup;decide +kernel) rfl (Or.inl rfl))) (fH rfl) (fun _ _ _ _ _=>jF) (fun _ _ _ _ _=>(bf cA (bf cA (iV Oj (pv 0) j5 (j4 (pv 2))) (bR bx (pv 1) (bf dF (bf cA (bf fM (pv 3) aJ) (bf kI aJ (pv 4))) aJ) (fun _ _=>rfl))) (iV Oj (pv 0) (j4 (pv 2)) j5))))))))))),
  _root_.A.runN (N:=["_law_cell_here", "_law_many", "_law_letters", "_law_long", "_law_size", "_law_stem", "_law_at"]) (M:=Mo []) (aM (bH 2 rfl uQ)
 (aM (dG (bC (AE.p (aD Zo (AE.p (aD gQ (AE.p (ao 0 rfl)) (AE.p aO))) (AE.p aO))))
 (aM (bH 3 rfl (XM (AE.p uQ) (AE.np (fc (K:=K) (tg:=(.n 2)) (Up.c (fZ (AE.p aO))) (by decide) mK (aD dB (AE.p (ao 0 rfl)) (AE.p (aD gQ (AE.p (aD n6 (AE.p (ao 1 rfl)) (AE.p (aD gr (AE.p aO) (AE.p (aD pF (AE.p aO) (AE.p (ao 2 rfl)))))))) (AE.p aO))))))))
 (aM (dG (bC (AE.p (aD qx (AE.p (aD gQ (AE.p (ao 0 rfl)) (AE.p aO))) (AE.p aO))))
 (qe (AE.w (fc (K:=K) (tg:=(.n 1)) (Up.c (fZ (AE.p (ao 1 rfl)))) (by decide) mK (Aq Ef (AE.p (ao 0 rfl)) j8 (j7 (AE.p (aD gr (AE.p (ao 1 rfl)) (AE.p aO))))))))
 bK)
 (qe (AE.w (fc (K:=K) (tg:=(.n 1)) (Up.c (fZ (AE.p (ao 1 rfl)))) (by decide) mK (Aq Ef (AE.p (ao 0 rfl)) (j7 (AE.p (aD aam (AE.p aO) (AE.p (ao 1 rfl))))) j8))))))
 bK)
 (aM (bH 4 rfl (aD gQ (AE.p (aD n6 (AE.p (ao 0 rfl)) (AE.p aO))) (AE.p aO)))
 (aM (bH 5 rfl (XM (AE.p uQ) (AE.np (fc (K:=K) (tg:=(.n 2)) (Up.c (fZ (AE.p (ao 4 rfl)))) (by decide) mK (aD dB (AE.p (ao 0 rfl)) (AE.p (aD gQ (AE.p (aD gr (AE.p (aD gr (AE.p (aD n6 (AE.p (ao 1 rfl)) (AE.p aO))) (AE.p (aD pF (AE.p aO) (AE.p (ao 2 rfl)))))) (AE.p (aD pF (AE.p (ao 2 rfl)) (AE.p (ao 2 rfl)))))) (AE.p aO))))))))
 (aM (bH 6 rfl (aD gQ (AE.p (aD n6 (AE.p (ao 0 rfl)) (AE.p aO))) (AE.p (aD gr (AE.p (ao 4 rfl)) (AE.p aO)))))
 (qe (AE.w (fc (K:=K) (tg:=(.n 4)) (Up.c (fZ (AE.p (ao 1 rfl)))) (by decide) mK (aD gr (AE.p (aD gr (AE.p (Aq Ef (AE.p (ao 0 rfl)) j8 (j7 (AE.p (ao 2 rfl))))) (AE.p (aD dB (AE.p (ao 1 rfl)) (AE.p (aD gQ (AE.p (aD gr (AE.p (aD n6 (AE.p (ao 3 rfl)) (AE.p aO))) (AE.p (aD pF (AE.p aO) (AE.p (ao 4 rfl)))))) (AE.p aO))))))) (AE.p (Aq Ef (AE.p (ao 0 rfl)) (j7 (AE.p (ao 2 rfl))) j8))))))))))) (by decide) h⟩)
abbrev yr:Stmt:=top 47
theorem Cd:bz ["_law_cell_here", "_law_many", "_law_left", "_law_ranks_here", "_law_draw", "_law_k"] ["_law_cell_here", "_law_many"] (aQ yr):=⟨rfl,rfl,rfl,by decide +kernel,rfl,by decide +kernel,by decide +kernel⟩
theorem OD{f:Addr}{fd:FuncData}(F:mX K "_law_ranks" "_law_ranks" yr f fd)(T:Txt mg)  : dz P w K mg base cH 1 f fd ["_law_cell_here", "_law_many"] (rM mZ) :=
 F.ok Cd (fun vs H Q E h=>xP h) (fun cdv A outer s H vs Q E hr h=>by
  have nd:=Cd.nd
  have hu:=di hr
  have bO:=hr.units
  exact⟨_,(aA (u6 (i:=2) (N':=["_law_k"]) (ρ:=[none]) rfl nd rfl (Or.inl rfl) (c7.of rfl (by kernel_rfl)) (fW rfl T.jN (ak (pv 1) au)) (fun _ _ _ _ _=>(aV (i:=0) (by show (["_law_k"]:List Str).Nodup;decide +kernel) rfl (Or.inl rfl))) (fH rfl) (fun _ _ _ _ _=>jF) (fun _ _ _ _ _=>(pv 0)))
 (aA (bw (i:=3) nd rfl (Or.inl rfl) (dD au))
 (aA (bw (i:=4) nd rfl (Or.inl rfl) (bf dF (pv 0) aJ))
 (aA (gA PassesOwn.never rfl (fW rfl T.jN (ak (pv 1) au)) (aV (i:=5) nd rfl (Or.inl rfl))
 (aA (bw (i:=4) nd rfl (Or.inl rfl) (bf dF (bf cA (bf cA (bf kI (pv 4) aJ) (bf kI aJ (pv 5))) aJ) aJ))
 (aK (dj (lU PySem.F.plainAttrs_list PySem.F.slot_list_append PySem.F.type_list_append fX (pv 3) (ak (lU PySem.F.plainAttrs_list PySem.F.slot_list_pop PySem.F.type_list_pop V6 (pv 2) (ak (bf dF (bf fM (pv 4) aJ) (bN cV rfl T.dX PySem.boot_len (ak (pv 2) au))) au)) au))))))
 (aK (bM (pv 3))))))),
  _root_.A.runN (N:=["_law_cell_here", "_law_many", "_law_left", "_law_ranks_here", "_law_draw", "_law_k"]) (M:=Mo [2,3]) (aM (lL 2 rfl (fc (K:=K) (tg:=(.n 0)) (Up.c (fZ (AE.p (ao 1 rfl)))) (by decide) mK (ao 0 rfl)))
 (aM (lL 3 rfl (gR aP))
 (aM (bH 4 rfl (aD gQ (AE.p (ao 0 rfl)) (AE.p aO)))
 (aM (gC (K:=K) (tg:=(.n 5)) (fZ (AE.p (ao 1 rfl))) (by decide)
 (aM (bH 4 rfl (aD gQ (AE.p (aD gr (AE.p (aD gr (AE.p (aD pF (AE.p (ao 4 rfl)) (AE.p aO))) (AE.p (aD pF (AE.p aO) (AE.p (ao 5 rfl)))))) (AE.p aO))) (AE.p aO)))
 (JM 3 2 (by decide) rfl rfl (AE.p (aD gQ (AE.p (aD n6 (AE.p (ao 4 rfl)) (AE.p aO))) (AE.p (ji dX (aC (qy 2) aP))))))))
 (mO 3 rfl))))) (by decide) h⟩)
abbrev HN:Stmt:=top 48
theorem Kv:bz ["_law_script", "_law_most", "_law_many", "_law_names", "_law_ranks_here", "_law_thick", "_law_arrows", "_law_j", "_law_k", "_law_cell_here"] ["_law_script", "_law_most"] (aQ HN):=⟨rfl,rfl,rfl,by decide +kernel,rfl,by decide +kernel,by decide +kernel⟩
theorem VN{f:Addr}{fd:FuncData}(F:mX K "_law_net" "_law_net" HN f fd)(T:Txt mg)(jY:kZ P w K mg base cH 1 "_law_cell" ["_law_script", "_law_k"] (jT gh))(zj:kZ P w K mg base cH 1 "_law_words" ["_law_cell_here", "_law_many"] (rM qW))(zm:kZ P w K mg base cH 1 "_law_ranks" ["_law_cell_here", "_law_many"] (rM mZ)):dz P w K mg base cH 2 f fd ["_law_script", "_law_most"] (jT qY) :=
 F.ok Kv (fun vs H Q E h=>nR h) (fun cdv A outer s H vs Q E hr h=>by
  have nd:=Kv.nd
  have hu:=di hr
  have bO:=hr.units
  have mD:=hr.mono (show 1≤_ by decide)
  have Pn:=hr.mono (show 1≤_ by decide)
  have Pq:=hr.mono (show 1≤_ by decide)
  exact⟨_,(aA (bw (i:=2) nd rfl (Or.inl rfl) (bf cA aJ (bf dF (aZ jY mD rfl bG (ak (pv 0) (ak aJ au))) (pv 1))))
 (aA (bw (i:=3) nd rfl (Or.inl rfl) (aZ zj Pn rfl bG (ak (aZ jY mD rfl bG (ak (pv 0) (ak aJ au))) (ak (pv 2) au))))
 (aA (bw (i:=4) nd rfl (Or.inl rfl) (aZ zm Pq rfl bG (ak (aZ jY mD rfl bG (ak (pv 0) (ak aJ au))) (ak (pv 2) au))))
 (aA (bw (i:=5) nd rfl (Or.inl rfl) (bR bx (dD (ak aJ (ak aJ (ak aJ (ak aJ (ak aJ (ak aJ au))))))) (bf dF (aZ jY mD rfl bG (ak (pv 0) (ak aJ au))) aJ) (fun _ _=>rfl)))
 (aA (bw (i:=6) nd rfl (Or.inl rfl) (dD au))
 (aA (gA PassesOwn.never rfl (fW rfl T.jN (ak (pv 2) au)) (aV (i:=7) nd rfl (Or.inl rfl))
 (aK (gA PassesOwn.never rfl (fW rfl T.jN (ak (pv 2) au)) (aV (i:=8) nd rfl (Or.inl rfl))
 (aA (bw (i:=9) nd rfl (Or.inl rfl) (aZ jY mD rfl bG (ak (pv 0) (ak (bf cA (bf cA aJ (bf fM (bf kI (bN (Gv rfl) rfl T.MT boot_max (ak (pv 7) (ak (pv 8) au))) (bf VH (bN (Gv rfl) rfl T.MT boot_max (ak (pv 7) (ak (pv 8) au))) aJ)) aJ)) (bN (TV rfl) rfl T.Xi boot_min (ak (pv 7) (ak (pv 8) au)))) au))))
 (aK (dh (PW.pt (pw_and (bF H9 (bR bx (pv 4) (pv 7) (fun _ _=>rfl)) (bR bx (pv 4) (pv 8) (fun _ _=>rfl)) (bY _)) (pw_and1 (bF H9 (bf dF (bf fM (bf dF (bf kI (pv 9) aJ) aJ) aJ) aJ) (pv 5) (bY _)))))
 (aK (dj (lU PySem.F.plainAttrs_list PySem.F.slot_list_append PySem.F.type_list_append fX (pv 6) (ak (cD (ak (bR bx (pv 3) (pv 7) (fun _ _=>rfl)) (ak (bR bx (pv 3) (pv 8) (fun _ _=>rfl)) au))) au))))
 bJ))))))
 (aK (bM (cD (ak (fB jz rfl T.iy boot_tuple (ak (pv 3) au)) (ak (fB jz rfl T.iy boot_tuple (ak (pv 6) au)) au))))))))))),
  _root_.A.nJ (N:=["_law_script", "_law_most", "_law_many", "_law_names", "_law_ranks_here", "_law_thick", "_law_arrows", "_law_j", "_law_k", "_law_cell_here"]) (M:=Mo [6]) (aM (bH 2 rfl (aD gr (AE.p aO) (AE.p (aD gQ (AE.p (cj (aB (AE.w (ao 0 rfl)) (aB (AE.w aO) aY)))) (AE.p (ao 1 rfl))))))
 (aM (bH 3 rfl (AE.nv (cC (aB (AE.w (cj (aB (AE.w (ao 0 rfl)) (aB (AE.w aO) aY)))) (aB (AE.w (ao 2 rfl)) aY)))))
 (aM (bH 4 rfl (AE.nv (cC (aB (AE.w (cj (aB (AE.w (ao 0 rfl)) (aB (AE.w aO) aY)))) (aB (AE.w (ao 2 rfl)) aY)))))
 (aM (bH 5 rfl (aD dB (AE.np (gR (aC aO (aC aO (aC aO (aC aO (aC aO (aC aO aP)))))))) (AE.p (aD gQ (AE.p (cj (aB (AE.w (ao 0 rfl)) (aB (AE.w aO) aY)))) (AE.p aO)))))
 (aM (lL 6 rfl (gR aP))
 (aM (gC (K:=K) (tg:=(.n 7)) (fZ (AE.p (ao 2 rfl))) (by decide)
 (gC (K:=K) (tg:=(.n 8)) (fZ (AE.p (ao 2 rfl))) (by decide)
 (aM (bH 9 rfl (cj (aB (AE.w (ao 0 rfl)) (aB (AE.w (aD gr (AE.p (aD gr (AE.p aO) (AE.p (aD n6 (AE.p (aD pF (AE.p (ji MT (aC (AE.p (ao 7 rfl)) (aC (AE.p (ao 8 rfl)) aP)))) (AE.p (aD aam (AE.p (ji MT (aC (AE.p (ao 7 rfl)) (aC (AE.p (ao 8 rfl)) aP)))) (AE.p aO))))) (AE.p aO))))) (AE.p (ji Xi (aC (AE.p (ao 7 rfl)) (aC (AE.p (ao 8 rfl)) aP)))))) aY))))
 (dG (zg (bC (AE.p (aD Zo (AE.p (aD dB (AE.p (ao 4 rfl)) (AE.p (ao 7 rfl)))) (AE.p (aD dB (AE.p (ao 4 rfl)) (AE.p (ao 8 rfl))))))) (bC (AE.p (aD Zo (AE.p (aD gQ (AE.p (aD n6 (AE.p (aD gQ (AE.p (aD pF (AE.p (ao 9 rfl)) (AE.p aO))) (AE.p aO))) (AE.p aO))) (AE.p aO))) (AE.p (ao 5 rfl))))))
 (gF 6 rfl (fK (aC (aD dB (AE.p (ao 3 rfl)) (AE.p (ao 7 rfl))) (aC (aD dB (AE.p (ao 3 rfl)) (AE.p (ao 8 rfl))) aP))))
 bK))))
 (cZ (AE.w (fK (aC (ji iy (aC (AE.p (ao 3 rfl)) aP)) (aC (ji iy (aC (qy 6) aP)) aP))))))))))) (by decide) h⟩)
abbrev vY:Stmt:=top 55
theorem zF:bz ["_law_names", "_law_arrows", "_law_told", "_law_tail", "_law_head"] ["_law_names", "_law_arrows"] (aQ vY):=⟨rfl,rfl,rfl,by decide +kernel,rfl,by decide +kernel,by decide +kernel⟩
theorem La{f:Addr}{fd:FuncData}(F:mX K "_law_sorted" "_law_sorted" vY f fd)(T:Txt mg)  : dz P w K mg base cH 1 f fd ["_law_names", "_law_arrows"] (jT ig) :=
 F.ok zF (fun vs H Q E h=>nR h) (fun cdv A outer s H vs Q E hr h=>by
  have nd:=zF.nd
  have hu:=di hr
  have bO:=hr.units
  exact⟨_,(aA (bw (i:=2) nd rfl (Or.inl rfl) (dD au))
 (aA (gA PassesOwn.never rfl (cL (pv 0)) (aV (i:=3) nd rfl (Or.inl rfl))
 (aK (gA PassesOwn.never rfl (cL (pv 0)) (aV (i:=4) nd rfl (Or.inl rfl))
 (aK (dh (bF (lZ bO) (cD (ak (pv 3) (ak (pv 4) au))) (pv 1) rfl)
 (aK (dj (lU PySem.F.plainAttrs_list PySem.F.slot_list_append PySem.F.type_list_append fX (pv 2) (ak (cD (ak (pv 3) (ak (pv 4) au))) au))))
 bJ)))))
 (aK (bM (cD (ak (fB jz rfl T.iy boot_tuple (ak (pv 0) au)) (ak (fB jz rfl T.iy boot_tuple (ak (pv 2) au)) au))))))),
  _root_.A.nJ (N:=["_law_names", "_law_arrows", "_law_told", "_law_tail", "_law_head"]) (M:=Mo [2]) (aM (lL 2 rfl (gR aP))
 (aM (gC (K:=K) (tg:=(.n 3)) (mQ (ao 0 rfl)) (by decide)
 (gC (K:=K) (tg:=(.n 4)) (mQ (ao 0 rfl)) (by decide)
 (dG (bC (AE.p (aD zc (AE.p (fK (aC (ao 3 rfl) (aC (ao 4 rfl) aP)))) (AE.p (ao 1 rfl)))))
 (gF 2 rfl (fK (aC (ao 3 rfl) (aC (ao 4 rfl) aP))))
 bK)))
 (cZ (AE.w (fK (aC (ji iy (aC (AE.p (ao 0 rfl)) aP)) (aC (ji iy (aC (qy 2) aP)) aP))))))) (by decide) h⟩)
abbrev v5:Stmt:=top 50
theorem zH:bz ["_law_arrows", "_law_name"] ["_law_arrows", "_law_name"] (aQ v5):=⟨rfl,rfl,rfl,by decide +kernel,rfl,by decide +kernel,by decide +kernel⟩
theorem Ld{f:Addr}{fd:FuncData}(F:mX K "_law_elders" "_law_elders" v5 f fd)(T:Txt mg)  : dz P w K mg base cH 1 f fd ["_law_arrows", "_law_name"] (rM ir) :=
 F.ok zH (fun vs H Q E h=>xP h) (fun cdv A outer s H vs Q E hr h=>by
  have nd:=zH.nd
  have hu:=di hr
  have bO:=hr.units
  exact⟨_,(aK (bM (fj (N':=["_law_name", "_law_tail", "_law_head"]) (ρ:=[some 1,none,none]) rfl (c7.of rfl (by kernel_rfl)) (cL (pv 0)) (fun _ _ _ _ _=>(lY rfl (bV (aV (i:=1) (by show (["_law_name", "_law_tail", "_law_head"]:List Str).Nodup;decide +kernel) rfl (Or.inl rfl)) (bV (aV (i:=2) (by show (["_law_name", "_law_tail", "_law_head"]:List Str).Nodup;decide +kernel) rfl (Or.inl rfl)) jo)))) (yR (iW rfl (iW rfl yS nU) (vf nU))) (fun _ _ _ _ _=>(jE (bF (gZ bO) (pv 2) (pv 0) (bY _)))) (fun _ _ _ _ _=>(pv 1))))),
  _root_.A.runN (N:=["_law_arrows", "_law_name"]) (M:=Mo []) (qe (AE.w (fc (K:=K) (tg:=(.t [1,2])) (fJ (AE.p (ao 0 rfl))) (by decide) (bC (AE.p (aD qx (AE.p (ao 2 rfl)) (AE.p (ao 0 rfl))))) (ao 1 rfl)))) (by decide) h⟩)
abbrev uz:Stmt:=top 51
theorem xn:bz ["_law_arrows", "_law_found", "_law_tail", "_law_head"] ["_law_arrows"] (aQ uz):=⟨rfl,rfl,rfl,by decide +kernel,rfl,by decide +kernel,by decide +kernel⟩
theorem Ij{f:Addr}{fd:FuncData}(F:mX K "_law_covered" "_law_covered" uz f fd)(T:Txt mg)(tK:kZ P w K mg base cH 1 "_law_elders" ["_law_arrows", "_law_name"] (rM ir)):dz P w K mg base cH 2 f fd ["_law_arrows"] (rM eY) :=
 F.ok xn (fun vs H Q E h=>xP h) (fun cdv A outer s H vs Q E hr h=>by
  have nd:=xn.nd
  have hu:=di hr
  have bO:=hr.units
  have zO:=hr.mono (show 1≤_ by decide)
  exact⟨_,(aA (bw (i:=1) nd rfl (Or.inl rfl) (dD au))
 (aA (gA PassesOwn.never rfl (cL (pv 0)) (lY rfl (bV (aV (i:=2) nd rfl (Or.inl rfl)) (bV (aV (i:=3) nd rfl (Or.inl rfl)) jo)))
 (aK (dh (bF (gZ bO) (bN Ea rfl T.Ed boot_sorted (ak (aZ tK zO rfl bG (ak (pv 0) (ak (pv 3) au))) au)) (bN Ea rfl T.Ed boot_sorted (ak (bf cA (aZ tK zO rfl bG (ak (pv 0) (ak (pv 2) au))) (dD (ak (pv 2) au))) au)) (bY _))
 (aK (dj (lU PySem.F.plainAttrs_list PySem.F.slot_list_append PySem.F.type_list_append fX (pv 1) (ak (cD (ak (pv 2) (ak (pv 3) au))) au))))
 bJ)))
 (aK (bM (pv 1))))),
  _root_.A.runN (N:=["_law_arrows", "_law_found", "_law_tail", "_law_head"]) (M:=Mo [1]) (aM (lL 1 rfl (gR aP))
 (aM (gC (K:=K) (tg:=(.t [2,3])) (mQ (ao 0 rfl)) (by decide)
 (dG (bC (AE.p (aD qx (AE.np (ji Rw (aC (AE.np (cC (aB (AE.w (ao 0 rfl)) (aB (AE.w (ao 3 rfl)) aY)))) aP))) (AE.np (ji Rw (aC (AE.p (aD gr (AE.np (cC (aB (AE.w (ao 0 rfl)) (aB (AE.w (ao 2 rfl)) aY)))) (AE.np (gR (aC (ao 2 rfl) aP))))) aP))))))
 (gF 1 rfl (fK (aC (ao 2 rfl) (aC (ao 3 rfl) aP))))
 bK))
 (mO 1 rfl))) (by decide) h⟩)
abbrev uy:Stmt:=top 52
theorem xm:bz ["_law_arrows", "_law_arrow"] ["_law_arrows", "_law_arrow"] (aQ uy):=⟨rfl,rfl,rfl,by decide +kernel,rfl,by decide +kernel,by decide +kernel⟩
theorem Ii{f:Addr}{fd:FuncData}(F:mX K "_law_flipped" "_law_flipped" uy f fd)(T:Txt mg)  : dz P w K mg base cH 1 f fd ["_law_arrows", "_law_arrow"] (rM eX) :=
 F.ok xm (fun vs H Q E h=>xP h) (fun cdv A outer s H vs Q E hr h=>by
  have nd:=xm.nd
  have hu:=di hr
  have bO:=hr.units
  exact⟨_,(aK (bM (fj (N':=["_law_arrow", "_law_one"]) (ρ:=[some 1,none]) rfl (c7.of rfl (by kernel_rfl)) (cL (pv 0)) (fun _ _ _ _ _=>(aV (i:=1) (by show (["_law_arrow", "_law_one"]:List Str).Nodup;decide +kernel) rfl (Or.inl rfl))) (fH rfl) (fun _ _ _ _ _=>jF) (fun _ _ _ _ _=>(bR bx (dD (ak (pv 1) (ak (cD (ak (bR bx (pv 1) aJ (fun _ _=>rfl)) (ak (bR bx (pv 1) aJ (fun _ _=>rfl)) au))) au))) (fB T3 rfl T.Xj boot_int (ak (fu (gZ bO) (pv 1) (pv 0) (bY _)) au)) (fun _ _=>rfl)))))),
  _root_.A.runN (N:=["_law_arrows", "_law_arrow"]) (M:=Mo []) (qe (AE.w (fc (K:=K) (tg:=(.n 1)) (fJ (AE.p (ao 0 rfl))) (by decide) mK (aD dB (AE.np (gR (aC (ao 1 rfl) (aC (fK (aC (aD dB (AE.p (ao 1 rfl)) (AE.p aO)) (aC (aD dB (AE.p (ao 1 rfl)) (AE.p aO)) aP))) aP)))) (AE.p (ji Xj (aC (AE.p (aD qx (AE.p (ao 1 rfl)) (AE.p (ao 0 rfl)))) aP))))))) (by decide) h⟩)
abbrev nG:Stmt:=top 53
theorem qM:bz ["_law_names", "_law_arrows", "_law_left", "_law_turn", "_law_heads"] ["_law_names", "_law_arrows"] (aQ nG):=⟨rfl,rfl,rfl,by decide +kernel,rfl,by decide +kernel,by decide +kernel⟩
theorem yG{f:Addr}{fd:FuncData}(F:mX K "_law_comes_round" "_law_comes_round" nG f fd)(T:Txt mg)  : dz P w K mg base cH 1 f fd ["_law_names", "_law_arrows"] (jT dH) :=
 F.ok qM (fun vs H Q E h=>nR h) (fun cdv A outer s H vs Q E hr h=>by
  have nd:=qM.nd
  have hu:=di hr
  have bO:=hr.units
  exact⟨_,(aA (bw (i:=2) nd rfl (Or.inr rfl) (fB tE rfl T.qw boot_list (ak (pv 0) au)))
 (aA (gA PassesOwn.never rfl (fW rfl T.jN (ak (bN cV rfl T.dX PySem.boot_len (ak (pv 0) au)) au)) (aV (i:=3) nd rfl (Or.inl rfl))
 (aA (bw (i:=4) nd rfl (Or.inr rfl) (fj (N':=["_law_left", "_law_tail", "_law_head"]) (ρ:=[some 2,none,none]) rfl (c7.of rfl (by kernel_rfl)) (cL (pv 1)) (fun _ _ _ _ _=>(lY rfl (bV (aV (i:=1) (by show (["_law_left", "_law_tail", "_law_head"]:List Str).Nodup;decide +kernel) rfl (Or.inl rfl)) (bV (aV (i:=2) (by show (["_law_left", "_law_tail", "_law_head"]:List Str).Nodup;decide +kernel) rfl (Or.inl rfl)) jo)))) (yR (iW rfl (iW rfl yS nU) (vf nU))) (fun _ _ _ _ _=>(jE (bF (lZ bO) (pv 1) (pv 0) rfl))) (fun _ _ _ _ _=>(pv 2))))
 (aK (bw (i:=2) nd rfl (Or.inr rfl) (fj (N':=["_law_heads", "_law_name"]) (ρ:=[some 4,none]) rfl (c7.of rfl (by kernel_rfl)) (cL (pv 2)) (fun _ _ _ _ _=>(aV (i:=1) (by show (["_law_heads", "_law_name"]:List Str).Nodup;decide +kernel) rfl (Or.inl rfl))) (fH rfl) (fun _ _ _ _ _=>(jE (bF (lZ bO) (pv 1) (pv 0) rfl))) (fun _ _ _ _ _=>(pv 1)))))))
 (aK (bM (fu Ie (bN cV rfl T.dX PySem.boot_len (ak (pv 2) au)) aJ (bY _)))))),
  _root_.A.nJ (N:=["_law_names", "_law_arrows", "_law_left", "_law_turn", "_law_heads"]) (M:=Mo []) (aM (bH 2 rfl (AE.nv (ji qw (aC (AE.p (ao 0 rfl)) aP))))
 (aM (gC (K:=K) (tg:=(.n 3)) (fZ (AE.p (ji dX (aC (AE.p (ao 0 rfl)) aP)))) (by decide)
 (aM (bH 4 rfl (AE.nv (fc (K:=K) (tg:=(.t [1,2])) (fJ (AE.p (ao 1 rfl))) (by decide) (bC (AE.p (aD zc (AE.p (ao 1 rfl)) (AE.p (ao 0 rfl))))) (ao 2 rfl))))
 (bH 2 rfl (AE.nv (fc (K:=K) (tg:=(.n 1)) (fJ (AE.p (ao 2 rfl))) (by decide) (bC (AE.p (aD zc (AE.p (ao 1 rfl)) (AE.p (ao 0 rfl))))) (ao 1 rfl))))))
 (cZ (AE.w (aD Zt (AE.p (ji dX (aC (AE.p (ao 2 rfl)) aP))) (AE.p aO)))))) (by decide) h⟩)
abbrev uw:Stmt:=top 54
theorem xg:bz ["_law_names", "_law_arrows", "_law_cell_here", "_law_pairs", "_law_one", "_law_other", "_law_at", "_law_turned"] ["_law_names", "_law_arrows", "_law_cell_here"] (aQ uw):=⟨rfl,rfl,rfl,by decide +kernel,rfl,by decide +kernel,by decide +kernel⟩
theorem Ig{f:Addr}{fd:FuncData}(F:mX K "_law_spoiled" "_law_spoiled" uw f fd)(T:Txt mg)(gU:kZ P w K mg base cH 1 "_law_flipped" ["_law_arrows", "_law_arrow"] (rM eX))(j9:kZ P w K mg base cH 1 "_law_comes_round" ["_law_names", "_law_arrows"] (jT dH)):dz P w K mg base cH 2 f fd ["_law_names", "_law_arrows", "_law_cell_here"] (jT lg) :=
 F.ok xg (fun vs H Q E h=>nR h) (fun cdv A outer s H vs Q E hr h=>by
  have nd:=xg.nd
  have hu:=di hr
  have bO:=hr.units
  have lK:=hr.mono (show 1≤_ by decide)
  have rA:=hr.mono (show 1≤_ by decide)
  exact⟨_,(aA (dh (PW.pt (pw_or (bF (gZ bO) (bf dF (pv 2) aJ) aJ (bY _)) (pw_or1 (bF (gZ bO) (bN cV rfl T.dX PySem.boot_len (ak (pv 1) au)) aJ (bY _)))))
 (aA (bw (i:=3) nd rfl (Or.inl rfl) (dD au))
 (aA (gA PassesOwn.never rfl (cL (pv 0)) (aV (i:=4) nd rfl (Or.inl rfl))
 (aK (gA PassesOwn.never rfl (cL (pv 0)) (aV (i:=5) nd rfl (Or.inl rfl))
 (aK (dh (PW.pt (pw_and (bF (sr bO) (pv 4) (pv 5) (bY _)) (pw_and (bF (jG bO) (cD (ak (pv 4) (ak (pv 5) au))) (pv 1) rfl) (pw_and1 (bF (jG bO) (cD (ak (pv 5) (ak (pv 4) au))) (pv 1) rfl)))))
 (aK (dj (lU PySem.F.plainAttrs_list PySem.F.slot_list_append PySem.F.type_list_append fX (pv 3) (ak (cD (ak (pv 4) (ak (pv 5) au))) au))))
 bJ)))))
 (aA (u6 (i:=3) (N':=["_law_names", "_law_arrows", "_law_pair"]) (ρ:=[some 0,some 1,none]) rfl nd rfl (Or.inl rfl) (c7.of rfl (by kernel_rfl)) (cL (pv 3)) (fun _ _ _ _ _=>(aV (i:=2) (by show (["_law_names", "_law_arrows", "_law_pair"]:List Str).Nodup;decide +kernel) rfl (Or.inl rfl))) (fH rfl) (fun _ _ _ _ _=>(jE (nM (iz (aZ j9 rA rfl bG (ak (pv 0) (ak (bf cA (pv 1) (dD (ak (pv 2) au))) au))))))) (fun _ _ _ _ _=>(pv 2)))
 (aA (dh (bF Ie (bN cV rfl T.dX PySem.boot_len (ak (pv 3) au)) aJ (bY _))
 (aK (bM (bf cA (pv 1) (dD (ak (bR bx (pv 3) (bf dF (bf fM (pv 2) aJ) (bN cV rfl T.dX PySem.boot_len (ak (pv 3) au))) (fun _ _=>rfl)) au)))))
 bJ)
 (aK (bM (iV Oj (pv 1) (j4 aJ) j5)))))))
 bJ)
 (aA (bw (i:=6) nd rfl (Or.inl rfl) (bf dF (bf fM (pv 2) aJ) (bN cV rfl T.dX PySem.boot_len (ak (pv 1) au))))
 (aA (bw (i:=7) nd rfl (Or.inl rfl) (aZ gU lK rfl bG (ak (pv 1) (ak (bR bx (pv 1) (pv 6) (fun _ _=>rfl)) au))))
 (aA (dh (PW.pt (pw_or (bF (gZ bO) (bf dF (pv 2) aJ) aJ (bY _)) (pw_or1 (iz (aZ j9 rA rfl bG (ak (pv 0) (ak (pv 7) au)))))))
 (aK (bM (bf cA (iV Oj (pv 1) j5 (j4 (pv 6))) (iV Oj (pv 1) (j4 (bf cA (pv 6) aJ)) j5))))
 bJ)
 (aK (bM (pv 7))))))),
  _root_.A.nJ (N:=["_law_names", "_law_arrows", "_law_cell_here", "_law_pairs", "_law_one", "_law_other", "_law_at", "_law_turned"]) (M:=Mo [3]) (aM (dG (Ng (bC (AE.p (aD qx (AE.p (aD gQ (AE.p (ao 2 rfl)) (AE.p aO))) (AE.p aO)))) (bC (AE.p (aD qx (AE.p (ji dX (aC (AE.p (ao 1 rfl)) aP))) (AE.p aO)))))
 (aM (lL 3 rfl (gR aP))
 (aM (gC (K:=K) (tg:=(.n 4)) (mQ (ao 0 rfl)) (by decide)
 (gC (K:=K) (tg:=(.n 5)) (mQ (ao 0 rfl)) (by decide)
 (dG (zg (bC (AE.p (aD JG (AE.p (ao 4 rfl)) (AE.p (ao 5 rfl))))) (zg (bC (AE.p (aD oF (AE.p (fK (aC (ao 4 rfl) (aC (ao 5 rfl) aP)))) (AE.p (ao 1 rfl))))) (bC (AE.p (aD oF (AE.p (fK (aC (ao 5 rfl) (aC (ao 4 rfl) aP)))) (AE.p (ao 1 rfl)))))))
 (gF 3 rfl (fK (aC (ao 4 rfl) (aC (ao 5 rfl) aP))))
 bK)))
 (aM (lL 3 rfl (fc (K:=K) (tg:=(.n 2)) (fJ (qy 3)) (by decide) (pG (pQ (AE.p (cj (aB (AE.w (ao 0 rfl)) (aB (AE.w (aD gr (AE.p (ao 1 rfl)) (AE.np (gR (aC (ao 2 rfl) aP))))) aY)))))) (ao 2 rfl)))
 (aM (dG (bC (AE.p (aD Zt (AE.p (ji dX (aC (qy 3) aP))) (AE.p aO))))
 (cZ (AE.w (aD gr (AE.p (ao 1 rfl)) (AE.np (gR (aC (aD dB (qy 3) (AE.p (aD gQ (AE.p (aD n6 (AE.p (ao 2 rfl)) (AE.p aO))) (AE.p (ji dX (aC (qy 3) aP)))))) aP))))))
 bK)
 (cZ (AE.w (Aq Ef (AE.p (ao 1 rfl)) (j7 (AE.p aO)) j8)))))))
 bK)
 (aM (bH 6 rfl (aD gQ (AE.p (aD n6 (AE.p (ao 2 rfl)) (AE.p aO))) (AE.p (ji dX (aC (AE.p (ao 1 rfl)) aP)))))
 (aM (bH 7 rfl (AE.nv (cC (aB (AE.w (ao 1 rfl)) (aB (AE.w (aD dB (AE.p (ao 1 rfl)) (AE.p (ao 6 rfl)))) aY)))))
 (aM (dG (Ng (bC (AE.p (aD qx (AE.p (aD gQ (AE.p (ao 2 rfl)) (AE.p aO))) (AE.p aO)))) (pQ (AE.p (cj (aB (AE.w (ao 0 rfl)) (aB (AE.w (ao 7 rfl)) aY))))))
 (cZ (AE.w (aD gr (AE.p (Aq Ef (AE.p (ao 1 rfl)) j8 (j7 (AE.p (ao 6 rfl))))) (AE.p (Aq Ef (AE.p (ao 1 rfl)) (j7 (AE.p (aD gr (AE.p (ao 6 rfl)) (AE.p aO)))) j8)))))
 bK)
 (cZ (AE.w (ao 7 rfl))))))) (by decide) h⟩)
abbrev vZ:Stmt:=top 56
theorem zG:bz ["_law_net_here", "_law_cell_here", "_law_arrows", "_law_draw", "_law_k", "_law_some"] ["_law_net_here", "_law_cell_here"] (aQ vZ):=⟨rfl,rfl,rfl,by decide +kernel,rfl,by decide +kernel,by decide +kernel⟩
theorem Lb{f:Addr}{fd:FuncData}(F:mX K "_law_second" "_law_second" vZ f fd)(T:Txt mg)(lA:kZ P w K mg base cH 2 "_law_covered" ["_law_arrows"] (rM eY))(gU:kZ P w K mg base cH 1 "_law_flipped" ["_law_arrows", "_law_arrow"] (rM eX))(uV:kZ P w K mg base cH 2 "_law_spoiled" ["_law_names", "_law_arrows", "_law_cell_here"] (jT lg))(iT:kZ P w K mg base cH 1 "_law_sorted" ["_law_names", "_law_arrows"] (jT ig)):dz P w K mg base cH 3 f fd ["_law_net_here", "_law_cell_here"] (jT oZ) :=
 F.ok zG (fun vs H Q E h=>nR h) (fun cdv A outer s H vs Q E hr h=>by
  have nd:=zG.nd
  have hu:=di hr
  have bO:=hr.units
  have sU:=hr.mono (show 2≤_ by decide)
  have lK:=hr.mono (show 1≤_ by decide)
  have Jj:=hr.mono (show 2≤_ by decide)
  have m7:=hr.mono (show 1≤_ by decide)
  exact⟨_,(aA (bw (i:=2) nd rfl (Or.inl rfl) (fB tE rfl T.qw boot_list (ak (bR bx (pv 0) aJ (fun _ _=>rfl)) au)))
 (aA (bw (i:=3) nd rfl (Or.inl rfl) (bf dF (pv 1) aJ))
 (aA (gA PassesOwn.never rfl (fW rfl T.jN (ak (bf dF (pv 1) aJ) au)) (aV (i:=4) nd rfl (Or.inl rfl))
 (aA (bw (i:=5) nd rfl (Or.inl rfl) (aZ lA sU rfl bG (ak (pv 2) au)))
 (aA (bw (i:=3) nd rfl (Or.inl rfl) (bf dF (bf cA (bf kI (pv 3) aJ) aJ) aJ))
 (aK (dh (bF Ie (bN cV rfl T.dX PySem.boot_len (ak (pv 5) au)) aJ (bY _))
 (aK (bw (i:=2) nd rfl (Or.inl rfl) (aZ gU lK rfl bG (ak (pv 2) (ak (bR bx (pv 5) (bf dF (bf fM (pv 3) aJ) (bN cV rfl T.dX PySem.boot_len (ak (pv 5) au))) (fun _ _=>rfl)) au)))))
 bJ)))))
 (aA (dh (bF (gZ bO) (bf dF (bf fM (pv 1) aJ) aJ) aJ (bY _))
 (aK (bw (i:=2) nd rfl (Or.inl rfl) (aZ uV Jj rfl bG (ak (bR bx (pv 0) aJ (fun _ _=>rfl)) (ak (pv 2) (ak (bf fM (pv 3) aJ) au))))))
 bJ)
 (aK (bM (aZ iT m7 rfl bG (ak (bR bx (pv 0) aJ (fun _ _=>rfl)) (ak (pv 2) au))))))))),
  _root_.A.nJ (N:=["_law_net_here", "_law_cell_here", "_law_arrows", "_law_draw", "_law_k", "_law_some"]) (M:=Mo []) (aM (bH 2 rfl (AE.nv (ji qw (aC (AE.p (aD dB (AE.p (ao 0 rfl)) (AE.p aO))) aP))))
 (aM (bH 3 rfl (aD gQ (AE.p (ao 1 rfl)) (AE.p aO)))
 (aM (gC (K:=K) (tg:=(.n 4)) (fZ (AE.p (aD gQ (AE.p (ao 1 rfl)) (AE.p aO)))) (by decide)
 (aM (bH 5 rfl (AE.nv (cC (aB (AE.w (ao 2 rfl)) aY))))
 (aM (bH 3 rfl (aD gQ (AE.p (aD gr (AE.p (aD pF (AE.p (ao 3 rfl)) (AE.p aO))) (AE.p aO))) (AE.p aO)))
 (dG (bC (AE.p (aD Zt (AE.p (ji dX (aC (AE.p (ao 5 rfl)) aP))) (AE.p aO))))
 (bH 2 rfl (AE.nv (cC (aB (AE.w (ao 2 rfl)) (aB (AE.w (aD dB (AE.p (ao 5 rfl)) (AE.p (aD gQ (AE.p (aD n6 (AE.p (ao 3 rfl)) (AE.p aO))) (AE.p (ji dX (aC (AE.p (ao 5 rfl)) aP))))))) aY)))))
 bK))))
 (aM (dG (bC (AE.p (aD qx (AE.p (aD gQ (AE.p (aD n6 (AE.p (ao 1 rfl)) (AE.p aO))) (AE.p aO))) (AE.p aO))))
 (bH 2 rfl (cj (aB (AE.w (aD dB (AE.p (ao 0 rfl)) (AE.p aO))) (aB (AE.w (ao 2 rfl)) (aB (AE.w (aD n6 (AE.p (ao 3 rfl)) (AE.p aO))) aY)))))
 bK)
 (cZ (AE.w (cj (aB (AE.w (aD dB (AE.p (ao 0 rfl)) (AE.p aO))) (aB (AE.w (ao 2 rfl)) aY))))))))) (by decide) h⟩)
abbrev vX:Stmt:=top 60
theorem zE:bz ["_law_told", "_law_first", "_law_second_here", "_law_many", "_law_arrows", "_law_arrow"] ["_law_told", "_law_first", "_law_second_here"] (aQ vX):=⟨rfl,rfl,rfl,by decide +kernel,rfl,by decide +kernel,by decide +kernel⟩
theorem K9{f:Addr}{fd:FuncData}(F:mX K "_law_walked" "_law_walked" vX f fd)(T:Txt mg)(lA:kZ P w K mg base cH 2 "_law_covered" ["_law_arrows"] (rM eY))(gU:kZ P w K mg base cH 1 "_law_flipped" ["_law_arrows", "_law_arrow"] (rM eX))(iT:kZ P w K mg base cH 1 "_law_sorted" ["_law_names", "_law_arrows"] (jT ig)):dz P w K mg base cH 3 f fd ["_law_told", "_law_first", "_law_second_here"] (jT kO) :=
 F.ok zE (fun vs H Q E h=>nR h) (fun cdv A outer s H vs Q E hr h=>by
  have nd:=zE.nd
  have hu:=di hr
  have bO:=hr.units
  have sU:=hr.mono (show 2≤_ by decide)
  have lK:=hr.mono (show 1≤_ by decide)
  have m7:=hr.mono (show 1≤_ by decide)
  exact⟨_,(aA (bw (i:=3) nd rfl (Or.inl rfl) (bN cV rfl T.dX PySem.boot_len (ak (fj (N':=["_law_second_here", "_law_arrow"]) (ρ:=[some 2,none]) rfl (c7.of rfl (by kernel_rfl)) (cL (bR bx (pv 1) aJ (fun _ _=>rfl))) (fun _ _ _ _ _=>(aV (i:=1) (by show (["_law_second_here", "_law_arrow"]:List Str).Nodup;decide +kernel) rfl (Or.inl rfl))) (fH rfl) (fun _ _ _ _ _=>(jE (bF (jG bO) (pv 1) (bR bx (pv 0) aJ (fun _ _=>rfl)) rfl))) (fun _ _ _ _ _=>(pv 1))) au)))
 (aA (dh (PW.pt (pw_or (nM (iz (bN MK rfl T.jO boot_isinstance (ak (pv 0) (ak (Vv rfl T.qw boot_list) au))))) (pw_or1 (bF (sr bO) (bN cV rfl T.dX PySem.boot_len (ak (pv 0) au)) (pv 3) (bY _)))))
 (aK (bM zL))
 bJ)
 (aA (bw (i:=4) nd rfl (Or.inl rfl) (fB tE rfl T.qw boot_list (ak (bR bx (pv 1) aJ (fun _ _=>rfl)) au)))
 (aA (gA PassesOwn.never rfl (cL (pv 0)) (aV (i:=5) nd rfl (Or.inl rfl))
 (aA (dh (PW.pt (pw_or (nM (iz (bN MK rfl T.jO boot_isinstance (ak (pv 5) (ak (Vv rfl T.iy boot_tuple) au))))) (pw_or (bF (sr bO) (bN cV rfl T.dX PySem.boot_len (ak (pv 5) au)) aJ (bY _)) (pw_or1 (bF (jG bO) (pv 5) (aZ lA sU rfl bG (ak (pv 4) au)) rfl)))))
 (aK (bM zL))
 bJ)
 (aK (bw (i:=4) nd rfl (Or.inl rfl) (aZ gU lK rfl bG (ak (pv 4) (ak (pv 5) au)))))))
 (aK (bM (fu (gZ bO) (aZ iT m7 rfl bG (ak (bR bx (pv 1) aJ (fun _ _=>rfl)) (ak (pv 4) au))) (pv 2) (bY _)))))))),
  _root_.A.nJ (N:=["_law_told", "_law_first", "_law_second_here", "_law_many", "_law_arrows", "_law_arrow"]) (M:=Mo []) (aM (bH 3 rfl (ji dX (aC (AE.np (fc (K:=K) (tg:=(.n 1)) (fJ (AE.p (aD dB (AE.p (ao 1 rfl)) (AE.p aO)))) (by decide) (bC (AE.p (aD oF (AE.p (ao 1 rfl)) (AE.p (aD dB (AE.p (ao 0 rfl)) (AE.p aO)))))) (ao 1 rfl))) aP)))
 (aM (dG (Ng (pG (pQ (AE.p (adT (ty_list K) (AE.p (ao 0 rfl)))))) (bC (AE.p (aD JG (AE.p (ji dX (aC (AE.p (ao 0 rfl)) aP))) (AE.p (ao 3 rfl))))))
 (cZ (AE.w Nr))
 bK)
 (aM (bH 4 rfl (AE.nv (ji qw (aC (AE.p (aD dB (AE.p (ao 1 rfl)) (AE.p aO))) aP))))
 (aM (gC (K:=K) (tg:=(.n 5)) (mQ (ao 0 rfl)) (by decide)
 (aM (dG (Ng (pG (pQ (AE.p (adT (ty_tuple K) (AE.p (ao 5 rfl)))))) (Ng (bC (AE.p (aD JG (AE.p (ji dX (aC (AE.p (ao 5 rfl)) aP))) (AE.p aO)))) (bC (AE.p (aD oF (AE.p (ao 5 rfl)) (AE.np (cC (aB (AE.w (ao 4 rfl)) aY))))))))
 (cZ (AE.w Nr))
 bK)
 (bH 4 rfl (AE.nv (cC (aB (AE.w (ao 4 rfl)) (aB (AE.w (ao 5 rfl)) aY)))))))
 (cZ (AE.w (aD qx (AE.p (cj (aB (AE.w (aD dB (AE.p (ao 1 rfl)) (AE.p aO))) (aB (AE.w (ao 4 rfl)) aY)))) (AE.p (ao 2 rfl))))))))) (by decide) h⟩)
abbrev yt:Stmt:=top 49
theorem Ce:bz ["_law_e", "_law_some"] ["_law_e"] (aQ yt):=⟨rfl,rfl,rfl,by decide +kernel,rfl,by decide +kernel,by decide +kernel⟩
theorem OJ{f:Addr}{fd:FuncData}(F:mX K "_law_kinds" "_law_kinds" yt f fd)(T:Txt mg)(O:Own mg base)(Kt:Kit K):Nx P w K mg base 1 f fd ["_law_e"] (rM m6) :=
 F.okH Ce (fun vs H Q E h=>xP h) (fun cdv A outer s H vs Q E hr h=>by
  have nd:=Ce.nd
  have bO:=hr.units
  exact⟨_,(aA (bw (i:=1) nd rfl (Or.inl rfl) (dD au))
 (aA (dh (iz (bN Gw rfl T.jO boot_isinstance (ak (pv 0) (ak (cD (ak (gJ (v:=.ref (Tb.cl "Locked")) rfl O.Xq rfl) (ak (gJ (v:=.ref (Tb.cl "NoArrow")) rfl O.T9 rfl) (ak (gJ (v:=.ref (Tb.cl "NoLabel")) rfl O.T8 rfl) (ak (gJ (v:=.ref (Tb.cl "NoName")) rfl O.Xp rfl) (ak (gJ (v:=.ref (Tb.cl "NoNet")) rfl O.Zx rfl) (ak (gJ (v:=.ref (Tb.cl "NoRow")) rfl O.Zw rfl) au))))))) au))))
 (aK (dj (lU PySem.F.plainAttrs_list PySem.F.slot_list_append PySem.F.type_list_append fX (pv 1) (ak nO au))))
 bJ)
 (aA (dh (iz (bN Gw rfl T.jO boot_isinstance (ak (pv 0) (ak (cD (ak (gJ (v:=.ref (Tb.cl "NoSuch")) rfl O.Xo rfl) (ak (gJ (v:=.ref (Tb.cl "NoText")) rfl O.Xn rfl) (ak (gJ (v:=.ref (Tb.cl "NoTie")) rfl O.Zv rfl) (ak (gJ (v:=.ref (Tb.cl "NoWord")) rfl O.Xm rfl) (ak (gJ (v:=.ref (Tb.cl "Ring")) rfl O.abZ rfl) (ak (gJ (v:=.ref (Tb.cl "Twice")) rfl O.Zu rfl) (ak (gJ (v:=.ref (Tb.cl "WrongSize")) rfl O.M8 rfl) au)))))))) au))))
 (aK (dj (lU PySem.F.plainAttrs_list PySem.F.slot_list_append PySem.F.type_list_append fX (pv 1) (ak nO au))))
 bJ)
 (aA (dh (iz (bN MJ rfl T.jO boot_isinstance (ak (pv 0) (ak (gJ (v:=.ref (Tb.cl "Unlike")) rfl O.Xl rfl) au))))
 (aK (dj (lU PySem.F.plainAttrs_list PySem.F.slot_list_append PySem.F.type_list_append fX (pv 1) (ak nO au))))
 bJ)
 (aA (dh (nM (iz (bN MJ rfl T.jO boot_isinstance (ak (pv 0) (ak (Vv rfl O.Iu (by kernel_rfl)) au)))))
 (aK (dj (lU PySem.F.plainAttrs_list PySem.F.slot_list_append PySem.F.type_list_append fX (pv 1) (ak nO au))))
 bJ)
 (aK (bM (pv 1)))))))),
  _root_.A.runN (N:=["_law_e", "_law_some"]) (M:=Mo [1]) (aM (lL 1 rfl (gR aP))
 (aM (dG (pQ (AE.p (XN (Cs:=[Tb.cl "Locked", Tb.cl "NoArrow", Tb.cl "NoLabel", Tb.cl "NoName", Tb.cl "NoNet", Tb.cl "NoRow"]) rfl (by simp) Kt.iG)))
 (gF 1 rfl uQ)
 bK)
 (aM (dG (pQ (AE.p (XN (Cs:=[Tb.cl "NoSuch", Tb.cl "NoText", Tb.cl "NoTie", Tb.cl "NoWord", Tb.cl "Ring", Tb.cl "Twice", Tb.cl "WrongSize"]) rfl (by simp) Kt.gq)))
 (gF 1 rfl uQ)
 bK)
 (aM (dG (pQ (AE.p (aat rfl (.own _) Kt.Wi)))
 (gF 1 rfl uQ)
 bK)
 (aM (dG (pG (pQ (AE.p (aat rfl (.blt _) Kt.Jh))))
 (gF 1 rfl uQ)
 bK)
 (mO 1 rfl)))))) (by decide) h⟩)
abbrev ux:Stmt:=top 61
theorem xj:bz ["_law_first", "_law_second_here", "_law_kinds_here", "_law_e"] ["_law_first", "_law_second_here"] (aQ ux):=⟨rfl,rfl,rfl,by decide +kernel,rfl,by decide +kernel,by decide +kernel⟩
theorem Ih{f:Addr}{fd:FuncData}(F:mX K "_law_refused" "_law_refused" ux f fd)(T:Txt mg)(O:Own mg base)(Kt:Kit K)  (uY:kZ P w K mg base (Br P w) 8 "chain_to" ["first", "second"] (U7 Tb.cl lr))(wO:ace P w K mg base 1 "_law_kinds" ["_law_e"] (rM m6)):dz P w K mg base cH 9 f fd ["_law_first", "_law_second_here"] (jT ik) :=
 F.ok xj (fun vs H Q E h=>nR h) (fun cdv A outer s H vs Q E hr h=>by
  have nd:=xj.nd
  have hu:=di hr
  have bO:=hr.units
  have Jm:=hr.mono (show 8≤_ by decide)
  have Mf:=fun ea:Addr=>(hr.mono (show 1≤_ by decide)).adv (.ref ea)
  exact⟨_,(aA (bw (i:=2) nd rfl (Or.inl rfl) (dD au))
 (aA (aaZ (i:=3) rfl rfl rfl nd rfl rfl rfl O.JH Kt.IV
 (Yq (Vr rfl uY Jm rfl (ak (pv 0) (ak (pv 1) au))))
 (fun ea=>(aK (bw (i:=2) nd rfl (Or.inl rfl) (Yt (E:=fun _ _ _=>False) wO (Mf ea) rfl (ak (pv 3) au))))))
 (aK (bM (pv 2))))),
  _root_.A.nJ (N:=["_law_first", "_law_second_here", "_law_kinds_here", "_law_e"]) (M:=Mo []) (aM (bH 2 rfl (AE.nv (gR aP)))
 (aM (ab4 (cs:=["Unlike"]) rfl
 (Zy (aB (AE.w (ao 0 rfl)) (aB (AE.w (ao 1 rfl)) aY)))
 (bH 2 rfl (AE.nv (cC (aB (ab1 3 rfl) aY)))))
 (cZ (AE.w (ao 2 rfl))))) (by decide) h⟩)
abbrev Ck:Stmt:=top 57
theorem FP:bz ["_law_net_here", "_law_one", "_law_other"] ["_law_net_here", "_law_one", "_law_other"] (aQ Ck):=⟨rfl,rfl,rfl,by decide +kernel,rfl,by decide +kernel,by decide +kernel⟩
theorem Sy{f:Addr}{fd:FuncData}(F:mX K "_law_tied" "_law_tied" Ck f fd)(T:Txt mg)  : dz P w K mg base cH 1 f fd ["_law_net_here", "_law_one", "_law_other"] (jT iC) :=
 F.ok FP (fun vs H Q E h=>nR h) (fun cdv A outer s H vs Q E hr h=>by
  have nd:=FP.nd
  have hu:=di hr
  have bO:=hr.units
  exact⟨_,(aK (bM (Z8 (fu (lZ bO) (cD (ak (pv 1) (ak (pv 2) au))) (bR bx (pv 0) aJ (fun _ _=>rfl)) rfl) (uE (fu (lZ bO) (cD (ak (pv 2) (ak (pv 1) au))) (bR bx (pv 0) aJ (fun _ _=>rfl)) rfl))))),
  _root_.A.nJ (N:=["_law_net_here", "_law_one", "_law_other"]) (M:=Mo []) (cZ (AE.w (adS (AE.p (aD zc (AE.p (fK (aC (ao 1 rfl) (aC (ao 2 rfl) aP)))) (AE.p (aD dB (AE.p (ao 0 rfl)) (AE.p aO))))) (aD zc (AE.p (fK (aC (ao 2 rfl) (aC (ao 1 rfl) aP)))) (AE.p (aD dB (AE.p (ao 0 rfl)) (AE.p aO))))))) (by decide) h⟩)
abbrev Cj:Stmt:=top 58
theorem FN:bz ["_law_net_here", "_law_found", "_law_k"] ["_law_net_here"] (aQ Cj):=⟨rfl,rfl,rfl,by decide +kernel,rfl,by decide +kernel,by decide +kernel⟩
theorem Sx{f:Addr}{fd:FuncData}(F:mX K "_law_ties" "_law_ties" Cj f fd)(T:Txt mg)(rK:kZ P w K mg base cH 1 "_law_tied" ["_law_net_here", "_law_one", "_law_other"] (jT iC)):dz P w K mg base cH 2 f fd ["_law_net_here"] (jT qX) :=
 F.ok FN (fun vs H Q E h=>nR h) (fun cdv A outer s H vs Q E hr h=>by
  have nd:=FN.nd
  have hu:=di hr
  have bO:=hr.units
  have yQ:=hr.mono (show 1≤_ by decide)
  exact⟨_,(aA (bw (i:=1) nd rfl (Or.inl rfl) (dD au))
 (aA (gA PassesOwn.never rfl (fW rfl T.jN (ak (bN cV rfl T.dX PySem.boot_len (ak (bR bx (pv 0) aJ (fun _ _=>rfl)) au)) au)) (aV (i:=2) nd rfl (Or.inr rfl))
 (aK (bw (i:=1) nd rfl (Or.inl rfl) (bf cA (pv 1) (fj (N':=["_law_k", "_law_net_here", "_law_other"]) (ρ:=[some 2,some 0,none]) rfl (c7.of rfl (by kernel_rfl)) (cL (iV aaQ (bR bx (pv 0) aJ (fun _ _=>rfl)) (j4 (bf cA (pv 2) aJ)) j5)) (fun _ _ _ _ _=>(aV (i:=2) (by show (["_law_k", "_law_net_here", "_law_other"]:List Str).Nodup;decide +kernel) rfl (Or.inl rfl))) (fH rfl) (fun _ _ _ _ _=>(jE (iz (aZ rK yQ rfl bG (ak (pv 1) (ak (bR bx (bR bx (pv 1) aJ (fun _ _=>rfl)) (pv 0) (fun _ _=>rfl)) (ak (pv 2) au))))))) (fun _ _ _ _ _=>(cD (ak (bR bx (bR bx (pv 1) aJ (fun _ _=>rfl)) (pv 0) (fun _ _=>rfl)) (ak (pv 2) au)))))))))
 (aK (bM (pv 1))))),
  _root_.A.nJ (N:=["_law_net_here", "_law_found", "_law_k"]) (M:=Mo []) (aM (bH 1 rfl (AE.nv (gR aP)))
 (aM (gC (K:=K) (tg:=(.n 2)) (fZ (AE.p (ji dX (aC (AE.p (aD dB (AE.p (ao 0 rfl)) (AE.p aO))) aP)))) (by decide)
 (bH 1 rfl (aD gr (AE.p (ao 1 rfl)) (AE.np (fc (K:=K) (tg:=(.n 2)) (fJ (AE.p (Aq Xh (AE.p (aD dB (AE.p (ao 0 rfl)) (AE.p aO))) (j7 (AE.p (aD gr (AE.p (ao 2 rfl)) (AE.p aO)))) j8))) (by decide) (pQ (AE.p (cj (aB (AE.w (ao 1 rfl)) (aB (AE.w (aD dB (AE.p (aD dB (AE.p (ao 1 rfl)) (AE.p aO))) (AE.p (ao 0 rfl)))) (aB (AE.w (ao 2 rfl)) aY)))))) (fK (aC (aD dB (AE.p (aD dB (AE.p (ao 1 rfl)) (AE.p aO))) (AE.p (ao 0 rfl))) (aC (ao 2 rfl) aP))))))))
 (cZ (AE.w (ao 1 rfl))))) (by decide) h⟩)
abbrev uA:Stmt:=top 59
theorem xq:bz ["_law_net_here", "_law_found", "_law_k", "_law_one", "_law_middle", "_law_other", "_law_meet"] ["_law_net_here"] (aQ uA):=⟨rfl,rfl,rfl,by decide +kernel,rfl,by decide +kernel,by decide +kernel⟩
theorem Ik{f:Addr}{fd:FuncData}(F:mX K "_law_corners" "_law_corners" uA f fd)(T:Txt mg)(rK:kZ P w K mg base cH 1 "_law_tied" ["_law_net_here", "_law_one", "_law_other"] (jT iC)):dz P w K mg base cH 2 f fd ["_law_net_here"] (rM lq) :=
 F.ok xq (fun vs H Q E h=>xP h) (fun cdv A outer s H vs Q E hr h=>by
  have nd:=xq.nd
  have hu:=di hr
  have bO:=hr.units
  have yQ:=hr.mono (show 1≤_ by decide)
  exact⟨_,(aA (bw (i:=1) nd rfl (Or.inl rfl) (dD au))
 (aA (gA PassesOwn.never rfl (Zp.K1 rfl T.z7 (bR bx (pv 0) aJ (fun _ _=>rfl))) (lY rfl (bV (aV (i:=2) nd rfl (Or.inl rfl)) (bV (aV (i:=3) nd rfl (Or.inl rfl)) jo)))
 (aK (gA PassesOwn.never rfl (cL (bR bx (pv 0) aJ (fun _ _=>rfl))) (aV (i:=4) nd rfl (Or.inl rfl))
 (aK (gA PassesOwn.never rfl (cL (iV aaQ (bR bx (pv 0) aJ (fun _ _=>rfl)) (j4 (bf cA (pv 2) aJ)) j5)) (aV (i:=5) nd rfl (Or.inl rfl))
 (aA (bw (i:=6) nd rfl (Or.inl rfl) (yF (fu (lZ bO) (cD (ak (pv 3) (ak (pv 4) au))) (bR bx (pv 0) aJ (fun _ _=>rfl)) rfl) (uE (fu (lZ bO) (cD (ak (pv 5) (ak (pv 4) au))) (bR bx (pv 0) aJ (fun _ _=>rfl)) rfl))))
 (aK (dh (PW.pt (pw_and (KQ (pv 6) (by intro _;rfl)) (pw_and1 (nM (iz (aZ rK yQ rfl bG (ak (pv 0) (ak (pv 3) (ak (pv 5) au)))))))))
 (aK (dj (lU PySem.F.plainAttrs_list PySem.F.slot_list_append PySem.F.type_list_append fX (pv 1) (ak (cD (ak (pv 3) (ak (pv 4) (ak (pv 5) au)))) au))))
 bJ))))))))
 (aK (bM (pv 1))))),
  _root_.A.runN (N:=["_law_net_here", "_law_found", "_law_k", "_law_one", "_law_middle", "_law_other", "_law_meet"]) (M:=Mo [1]) (aM (lL 1 rfl (gR aP))
 (aM (gC (K:=K) (tg:=(.t [2,3])) (Zp.Nq (aD dB (AE.p (ao 0 rfl)) (AE.p aO))) (by decide)
 (gC (K:=K) (tg:=(.n 4)) (mQ (aD dB (AE.p (ao 0 rfl)) (AE.p aO))) (by decide)
 (gC (K:=K) (tg:=(.n 5)) (mQ (Aq Xh (AE.p (aD dB (AE.p (ao 0 rfl)) (AE.p aO))) (j7 (AE.p (aD gr (AE.p (ao 2 rfl)) (AE.p aO)))) j8)) (by decide)
 (aM (bH 6 rfl (G5 (AE.p (aD zc (AE.p (fK (aC (ao 3 rfl) (aC (ao 4 rfl) aP)))) (AE.p (aD dB (AE.p (ao 0 rfl)) (AE.p aO))))) (aD zc (AE.p (fK (aC (ao 5 rfl) (aC (ao 4 rfl) aP)))) (AE.p (aD dB (AE.p (ao 0 rfl)) (AE.p aO))))))
 (dG (zg (Nf (AE.p (ao 6 rfl))) (pG (pQ (AE.p (cj (aB (AE.w (ao 0 rfl)) (aB (AE.w (ao 3 rfl)) (aB (AE.w (ao 5 rfl)) aY))))))))
 (gF 1 rfl (fK (aC (ao 3 rfl) (aC (ao 4 rfl) (aC (ao 5 rfl) aP)))))
 bK)))))
 (mO 1 rfl))) (by decide) h⟩)
abbrev oR:Stmt:=top 62
theorem tL:bz ["_law_first", "_law_second_here"] ["_law_first", "_law_second_here"] (aQ oR):=⟨rfl,rfl,rfl,by decide +kernel,rfl,by decide +kernel,by decide +kernel⟩
theorem Al{f:Addr}{fd:FuncData}(F:mX K "_law_alike_nets" "_law_alike_nets" oR f fd)(T:Txt mg)(yf:kZ P w K mg base cH 2 "_law_ties" ["_law_net_here"] (jT qX))(qi:kZ P w K mg base cH 2 "_law_corners" ["_law_net_here"] (rM lq)):dz P w K mg base cH 3 f fd ["_law_first", "_law_second_here"] (jT eZ) :=
 F.ok tL (fun vs H Q E h=>nR h) (fun cdv A outer s H vs Q E hr h=>by
  have nd:=tL.nd
  have hu:=di hr
  have bO:=hr.units
  have Gk:=hr.mono (show 2≤_ by decide)
  have xR:=hr.mono (show 2≤_ by decide)
  exact⟨_,(aA (dh (bF (sr bO) (bR bx (pv 0) aJ (fun _ _=>rfl)) (bR bx (pv 1) aJ (fun _ _=>rfl)) (bY _))
 (aK (bM zL))
 bJ)
 (aK (bM (yF (fu (gZ bO) (aZ yf Gk rfl bG (ak (pv 0) au)) (aZ yf Gk rfl bG (ak (pv 1) au)) (bY _)) (uE (fu (gZ bO) (aZ qi xR rfl bG (ak (pv 0) au)) (aZ qi xR rfl bG (ak (pv 1) au)) (bY _))))))),
  _root_.A.nJ (N:=["_law_first", "_law_second_here"]) (M:=Mo []) (aM (dG (bC (AE.p (aD JG (AE.p (aD dB (AE.p (ao 0 rfl)) (AE.p aO))) (AE.p (aD dB (AE.p (ao 1 rfl)) (AE.p aO))))))
 (cZ (AE.w Nr))
 bK)
 (cZ (AE.w (G5 (AE.p (aD qx (AE.p (cj (aB (AE.w (ao 0 rfl)) aY))) (AE.p (cj (aB (AE.w (ao 1 rfl)) aY))))) (aD qx (AE.np (cC (aB (AE.w (ao 0 rfl)) aY))) (AE.np (cC (aB (AE.w (ao 1 rfl)) aY)))))))) (by decide) h⟩)
abbrev Vd:Stmt:=top 63
theorem Vc:bz ["_law_script", "_law_net_here", "_law_cell_here", "_law_draw", "_law_other", "_law_by", "_law_k", "_law_first", "_law_second_here", "_law_told"] ["_law_script"] (aQ Vd):=⟨rfl,rfl,rfl,by decide +kernel,rfl,by decide +kernel,by decide +kernel⟩
theorem abh{f:Addr}{fd:FuncData}(F:mX K "law" "law" Vd f fd)(T:Txt mg)(pM:kZ P w K mg base cH 8 "chain_to" ["first", "second"] (rM iM))(jY:kZ P w K mg base cH 1 "_law_cell" ["_law_script", "_law_k"] (jT gh))(JZ:kZ P w K mg base cH 2 "_law_net" ["_law_script", "_law_most"] (jT qY))(iT:kZ P w K mg base cH 1 "_law_sorted" ["_law_names", "_law_arrows"] (jT ig))(wN:kZ P w K mg base cH 3 "_law_second" ["_law_net_here", "_law_cell_here"] (jT oZ))(wM:kZ P w K mg base cH 3 "_law_walked" ["_law_told", "_law_first", "_law_second_here"] (jT kO))(uW:kZ P w K mg base cH 9 "_law_refused" ["_law_first", "_law_second_here"] (jT ik))(pL:kZ P w K mg base cH 3 "_law_alike_nets" ["_law_first", "_law_second_here"] (jT eZ)):dz P w K mg base cH 10 f fd ["_law_script"] (jT yJ) :=
 F.ok Vc (fun vs H Q E h=>nR h) (fun cdv A outer s H vs Q E hr h=>by
  have nd:=Vc.nd
  have hu:=di hr
  have bO:=hr.units
  have uI:=hr.mono (show 8≤_ by decide)
  have mD:=hr.mono (show 1≤_ by decide)
  have Wq:=hr.mono (show 2≤_ by decide)
  have m7:=hr.mono (show 1≤_ by decide)
  have Ma:=hr.mono (show 3≤_ by decide)
  have LR:=hr.mono (show 3≤_ by decide)
  have Jk:=hr.mono (show 9≤_ by decide)
  have Ao:=hr.mono (show 3≤_ by decide)
  exact⟨_,(aA (bw (i:=1) nd rfl (Or.inl rfl) (aZ JZ Wq rfl bG (ak (pv 0) (ak aJ au))))
 (aA (bw (i:=2) nd rfl (Or.inl rfl) (aZ jY mD rfl bG (ak (pv 0) (ak aJ au))))
 (aA (bw (i:=3) nd rfl (Or.inl rfl) (bf cA (bf kI (bf fM (pv 2) aJ) aJ) (bf dF (bf fM (pv 2) aJ) aJ)))
 (aA (dh (bF (gZ bO) (bf dF (pv 2) aJ) aJ (bY _))
 (aK (bw (i:=3) nd rfl (Or.inl rfl) (bf cA (pv 3) aJ)))
 bJ)
 (aA (bw (i:=4) nd rfl (Or.inl rfl) (aZ wN Ma rfl bG (ak (pv 1) (ak (pv 3) au))))
 (aA (dh (bF (gZ bO) (bf dF (pv 2) aJ) aJ (bY _))
 (aA (bw (i:=5) nd rfl (Or.inl rfl) (bf dF (bf fM (pv 2) aJ) (bN cV rfl T.dX PySem.boot_len (ak (bR bx (pv 1) aJ (fun _ _=>rfl)) au))))
 (aK (bw (i:=4) nd rfl (Or.inl rfl) (aZ iT m7 rfl bG (ak (bf QH (iV acC (bR bx (pv 1) aJ (fun _ _=>rfl)) (j4 (pv 5)) j5) (iV acC (bR bx (pv 1) aJ (fun _ _=>rfl)) j5 (j4 (pv 5)))) (ak (fB tE rfl T.qw boot_list (ak (bR bx (pv 1) aJ (fun _ _=>rfl)) au)) au))))))
 bJ)
 (aA (gA PassesOwn.never rfl (fW rfl T.jN (ak aJ au)) (aV (i:=6) nd rfl (Or.inl rfl))
 (aA (Ot (bR bx (dD (ak (dD (ak (pv 1) (ak (pv 4) au))) (ak (dD (ak (pv 4) (ak (pv 1) au))) au))) (bf dF (pv 6) aJ) (fun _ _=>rfl)) (aa4 rfl (bV (aV (i:=7) nd rfl (Or.inl rfl)) (bV (aV (i:=8) nd rfl (Or.inl rfl)) jo))))
 (aK (dh (iz (aZ pL Ao rfl bG (ak (pv 7) (ak (pv 8) au))))
 (aA (bw (i:=9) nd rfl (Or.inl rfl) (aZ pM uI rfl bG (ak (pv 7) (ak (pv 8) au))))
 (aA (dh (nM (iz (aZ wM LR rfl bG (ak (pv 9) (ak (pv 7) (ak (pv 8) au))))))
 (aK (bM zL))
 bJ)
 (aK (dj (lU PySem.F.plainAttrs_list PySem.F.slot_list_append PySem.F.type_list_append fX (pv 9) (ak (cD (ak nO (ak nO au))) au))))))
 (aK (dh (bF (sr bO) (aZ uW Jk rfl bG (ak (pv 7) (ak (pv 8) au))) (dD (ak nO au)) (bY _))
 (aK (bM zL))
 bJ))))))
 (aK (bM (yF (fu (gZ bO) (aZ pM uI rfl bG (ak (pv 1) (ak (pv 1) au))) (dD au) (bY _)) (uE (fu (gZ bO) (aZ pM uI rfl bG (ak (pv 4) (ak (pv 4) au))) (dD au) (bY _))))))))))))),
  _root_.A.nJ (N:=["_law_script", "_law_net_here", "_law_cell_here", "_law_draw", "_law_other", "_law_by", "_law_k", "_law_first", "_law_second_here", "_law_told"]) (M:=Mo [9]) (aM (bH 1 rfl (cj (aB (AE.w (ao 0 rfl)) (aB (AE.w aO) aY))))
 (aM (bH 2 rfl (cj (aB (AE.w (ao 0 rfl)) (aB (AE.w aO) aY))))
 (aM (bH 3 rfl (aD gr (AE.p (aD pF (AE.p (aD n6 (AE.p (ao 2 rfl)) (AE.p aO))) (AE.p aO))) (AE.p (aD gQ (AE.p (aD n6 (AE.p (ao 2 rfl)) (AE.p aO))) (AE.p aO)))))
 (aM (dG (bC (AE.p (aD qx (AE.p (aD gQ (AE.p (ao 2 rfl)) (AE.p aO))) (AE.p aO))))
 (bH 3 rfl (aD gr (AE.p (ao 3 rfl)) (AE.p aO)))
 bK)
 (aM (bH 4 rfl (cj (aB (AE.w (ao 1 rfl)) (aB (AE.w (ao 3 rfl)) aY))))
 (aM (dG (bC (AE.p (aD qx (AE.p (aD gQ (AE.p (ao 2 rfl)) (AE.p aO))) (AE.p aO))))
 (aM (bH 5 rfl (aD gQ (AE.p (aD n6 (AE.p (ao 2 rfl)) (AE.p aO))) (AE.p (ji dX (aC (AE.p (aD dB (AE.p (ao 1 rfl)) (AE.p aO))) aP)))))
 (bH 4 rfl (cj (aB (AE.w (aD Xk (AE.p (Aq aan (AE.p (aD dB (AE.p (ao 1 rfl)) (AE.p aO))) (j7 (AE.p (ao 5 rfl))) j8)) (AE.p (Aq aan (AE.p (aD dB (AE.p (ao 1 rfl)) (AE.p aO))) j8 (j7 (AE.p (ao 5 rfl))))))) (aB (AW.nv (AE.w (ji qw (aC (AE.p (aD dB (AE.p (ao 1 rfl)) (AE.p aO))) aP)))) aY)))))
 bK)
 (aM (gC (K:=K) (tg:=(.n 6)) (fZ (AE.p aO)) (by decide)
 (aM (ZF [7,8] (by decide) (aD dB (AE.np (gR (aC (AE.nv (gR (aC (ao 1 rfl) (aC (ao 4 rfl) aP)))) (aC (AE.nv (gR (aC (ao 4 rfl) (aC (ao 1 rfl) aP)))) aP)))) (AE.p (aD gQ (AE.p (ao 6 rfl)) (AE.p aO)))))
 (dG (pQ (AE.p (cj (aB (AE.w (ao 7 rfl)) (aB (AE.w (ao 8 rfl)) aY)))))
 (aM (lL 9 rfl (cC (aB (AE.w (ao 7 rfl)) (aB (AE.w (ao 8 rfl)) aY))))
 (aM (dG (pG (pQ (AE.p (JR (aB (AE.w (qy 9)) (aB (AW.p (AE.w (ao 7 rfl))) (aB (AW.p (AE.w (ao 8 rfl))) aY)))))))
 (cZ (AE.w Nr))
 bK)
 (gF 9 rfl (fK (aC uQ (aC uQ aP))))))
 (dG (bC (AE.p (aD JG (AE.p (cj (aB (AE.w (ao 7 rfl)) (aB (AE.w (ao 8 rfl)) aY)))) (AE.np (gR (aC uQ aP))))))
 (cZ (AE.w Nr))
 bK))))
 (cZ (AE.w (G5 (AE.p (aD qx (AE.np (cC (aB (AE.w (ao 1 rfl)) (aB (AE.w (ao 1 rfl)) aY)))) (AE.np (gR aP)))) (aD qx (AE.np (cC (aB (AE.w (ao 4 rfl)) (aB (AE.w (ao 4 rfl)) aY)))) (AE.np (gR aP))))))))))))) (by decide) h⟩)
end
end Nu
namespace L2
open PySem PySem.Spec PyProof.Rows
theorem aa9{K:W.Frag}{h:Heap}{mg:Str→Option Value}{y:Str}{D:Addr}{bb:List Value}{nw:String}(X:K.In h)(G:h.Ns mainGlobals mg)(a:W.nsIn K mainGlobals y=some (some (.ref D)))(t:W.excIn K D bb nw=true):OwnCls y D bb nw mg h:=by
 refine⟨W.mg_of X G a,?_⟩
 simp only[W.excIn] at t
 split at t
 case h_2=>cases t
 case h_1 d1 c1 s1 e1 =>
  split at t
  case h_2=>cases t
  case h_1 D' m1 p0 p1 p2 p3 b1 p5 em es =>
   obtain⟨n1,bs,mr,N1,qn,hd,sn,sb,ab,co,de⟩:=c1
   obtain⟨l1⟩:=s1
   dsimp only at em es t
   subst em
   subst es
   have t1:=Bool.and_eq_true_iff.mp t
   have t2:=Bool.and_eq_true_iff.mp t1.1
   have t3:=Bool.and_eq_true_iff.mp t2.1
   have t4:=Bool.and_eq_true_iff.mp t3.1
   have t5:=Bool.and_eq_true_iff.mp t4.1
   have u1:=beq_iff_eq.mp t5.1
   have u2:=beq_iff_eq.mp t5.2
   have u3:de=false:=by simpa using t4.2
   subst u1 u2 u3
   exact⟨m1,N1,n1,qn,bs,hd,sn,sb,ab,co,d1,p0,p1,p2,p3,p5,h.nsMap N1,X _ _ e1,.of_isNs (W.isNs_of_in X t2.2),W.nsMap_none_of_in X t2.2 (beq_iff_eq.mp t1.2),W.tail_of_in X t3.2⟩
theorem Jb{R:String→Bool→Prop}:∀ x k,(fun c=>([]:List (String×Bool)).lookup c) x=some k→R x k:=fun _ _ h=>nomatch h
theorem Be{n:String}{b:Bool}{l:List (String×Bool)}{R:String→Bool→Prop}(h:R n b)(t:∀ x k,(fun c=>l.lookup c) x=some k→R x k):∀ x k,(fun c=>((n,b)::l).lookup c) x=some k→R x k:=by
 intro x k e
 simp only[List.lookup] at e
 split at e
 ·rename_i q
  cases e
  rw[beq_iff_eq.mp q];exact h
 ·exact t x k e
theorem abo{R:Addr→Prop}{cl:String→Addr}:∀ C,(∃ c∈([]:List String),C=cl c)→R C:=fun C ⟨c,h,_⟩=>nomatch h
theorem YD{n:String}{l:List String}{R:Addr→Prop}{cl:String→Addr}(h:R (cl n))(t:∀ C,(∃ c∈l,C=cl c)→R C):∀ C,(∃ c∈n::l,C=cl c)→R C:=fun C ⟨c,hc,e⟩=>by
 cases hc with
 | head=>rw[e];exact h
 | tail _ k=>exact t C ⟨c,k,e⟩
theorem pO.aex{P:Program}{w:World}{K:W.Frag}{mg:Str→Option Value}{CX:NQ}{k:Nat}{x p:Str}{st:Stmt}{sp:Sp}{fa c T:Addr}(F:pO K mg x st [p])(hm:mg x=some (.ref fa))(h:∀ base,K.In base→base.Ns mainGlobals mg→BM mg base→W.CodeHd base c T→∀ f fd,mX K x x st f fd→dz P w K mg base CX k f fd [p] sp) :
 ∃ fd:FuncData,(∀ (s:Shared) (u:Value),BindsTo s fd ⟨[u],[]⟩ [(p,u)])∧∀ base:Heap,K.In base→base.Ns mainGlobals mg→BM mg base→W.CodeHd base c T→dz P w K mg base CX k fa fd [p] sp:=by
 obtain⟨f,fd,h1,h2,h3,h5,h4⟩:=F.ex
 rw[h1] at hm;cases hm
 exact⟨fd,fun s u=>h5 s [u] rfl,fun base kb nb b1 b2=>h base kb nb b1 b2 _ fd h4⟩
def Z9(K:W.Frag):Bool:=K.all fun p=>match p.2.cls with|.type "list" => false|_=>true
theorem V4{K:W.Frag}(h:Z9 K=true){a:Addr}{o:Obj}(e:K.lookup a=some o)(c:o.cls=.type "list"):False:=by
 have hm:(a,o)∈K:=by
  clear h
  induction K with
  | nil=>cases e
  | cons p r ih =>
   obtain⟨b,x⟩:=p
   simp only[List.lookup] at e
   split at e
   ·rename_i q;cases e;rw[beq_iff_eq.mp q];exact List.Mem.head _
   ·exact List.Mem.tail _ (ih e)
 have h2:=List.all_eq_true.mp h _ hm
 simp only[c] at h2
 cases h2
end L2
namespace Mi
open PySem
@[simp] theorem jy {α : Type} (a:α):t8 (some a)=.ok a:=rfl
@[simp] theorem abK {α : Type} {c:Prop} [Decidable c] (h:c) (r:Rs α):aU c r=r:=if_pos h
@[simp] theorem jx (a b:Str):cR (.str a) (.str b)=decide (a=b):=by rw[cR];by_cases h:a=b<;>simp[h]
@[simp] theorem KN (a b:Int):cR (.int a) (.int b)=decide (a=b):=by rw[cR];by_cases h:a=b<;>simp[h]
@[simp] theorem Zb (x:Str):(D.str x).dep=0:=by simp[D.dep]
@[simp] theorem aeb (x:Int):(D.int x).dep=0:=by simp[D.dep]
@[simp] theorem aeM (x:Bool):(D.bl x).dep=0:=by simp[D.dep]
@[simp] theorem aea:D.non.dep=0:=by simp[D.dep]
@[simp] theorem Rn (ds:List D):(D.lst ds).dep=dq ds+1:=by simp[D.dep]
@[simp] theorem Jr (ds:List D):(D.tup ds).dep=dq ds+1:=by simp[D.dep]
@[simp] theorem PB:dq []=0:=rfl
@[simp] theorem lu (d:D) (r:List D):dq (d::r)=max d.dep (dq r):=by rw[dq]
@[simp] theorem pB:∀ xs:List Str,dq (xs.map D.str)=0
 | []=>rfl
 | x::r=>by rw[List.map_cons,lu,Zb,pB r];rfl
theorem JQ(xs:List Str)(x:Str):((xs.map D.str).any fun e=>cR e (.str x))=decide (x∈xs):=by
 induction xs with
 | nil=>rfl
 | cons y r ih =>
  rw[List.map_cons,List.any_cons,ih,jx]
  by_cases h:y=x
  ·simp[h]
  ·have h2:¬ x=y:=fun z=>h z.symm
   simp[h,h2]
theorem Jv(xs:List Str)(x:Str):pN (.str x) (.lst (xs.map D.str))=.ok (.bl (decide (x∈xs))):=by
 show aU _ _=_
 rw[aq (by rw[pB];omega),JQ]
theorem DK(xs:List Str)(x:Str):dY (.str x) (.lst (xs.map D.str))=.ok (.bl (!decide (x∈xs))):=by
 show aU _ _=_
 rw[aq (by rw[pB];omega),JQ]
theorem Mq(xs:List Str)(x:Str):dY (.str x) (.tup (xs.map D.str))=.ok (.bl (!decide (x∈xs))):=by
 show aU _ _=_
 rw[aq (by rw[pB];omega),JQ]
theorem Jw(x y:Str):oK (.str x) (.str y)=.ok (.bl (decide (x=y))):=by
 show aU _ _=_
 rw[aq (by simp),jx]
theorem Zc(x y:Str):wA (.str x) (.str y)=.ok (.bl (!decide (x=y))):=by
 show aU _ _=_
 rw[aq (by simp),jx]
theorem qd(x y:Int):oK (.int x) (.int y)=.ok (.bl (decide (x=y))):=by
 show aU _ _=_
 rw[aq (by simp),KN]
theorem Rr(x y:Int):wA (.int x) (.int y)=.ok (.bl (!decide (x=y))):=by
 show aU _ _=_
 rw[aq (by simp),KN]
theorem Np{α : Type}(f:α→Bool)(xs:List α):JN (xs.map fun x=>D.bl (f x))=some (xs.map f):=by
 induction xs with
 | nil=>rfl
 | cons a r ih=>rw[List.map_cons,JN,ih];rfl
theorem rF(xs:List Str):pH (xs.map D.str)=some xs:=by
 induction xs with
 | nil=>rfl
 | cons a r ih=>rw[List.map_cons,pH,ih];rfl
theorem Ww(n:Nat)(b:S)(a0:W):uL 1 n b [a0]=(b ([some a0]++List.replicate (n - 1) none)).bind Dr:=aq rfl
theorem sW(n:Nat)(b:S)(a0 a1:W):uL 2 n b [a0,a1]=(b ([some a0,some a1]++List.replicate (n - 2) none)).bind Dr:=aq rfl
theorem Tn(n:Nat)(b:S)(a0 a1 a2:W):uL 3 n b [a0,a1,a2]=(b ([some a0,some a1,some a2]++List.replicate (n - 3) none)).bind Dr:=aq rfl
theorem Py(n:Nat)(b:S)(a0:W):J1 1 n b [a0]=(b ([some a0]++List.replicate (n - 1) none)).bind sV:=aq rfl
theorem Tj(n:Nat)(b:S)(a0 a1:W):J1 2 n b [a0,a1]=(b ([some a0,some a1]++List.replicate (n - 2) none)).bind sV:=aq rfl
theorem adz{α : Type}(r:Rs α):aU (1≤16777216) r=r:=aq (by decide)
theorem wG(i j:Int):cG (.int i) (.int j)=.ok (.int (i+j)):=rfl
theorem XH(i j:Str):cG (.str i) (.str j)=aU (i.length+j.length≤16777216) (.ok (.str (i++j))):=rfl
theorem XJ(i j:List D):cG (.lst i) (.lst j)=aU (i.length+j.length≤16777216) (.ok (.lst (i++j))):=rfl
theorem aaL(i j:Int):Js (.int i) (.int j)=.ok (.int (i - j)):=rfl
theorem Iv(i j:Int):dM (.int i) (.int j)=aU (xG i j) (.ok (.int (i * j))):=rfl
theorem div_ii(i j:Int):iZ (.int i) (.int j)=aU (xH j) (.ok (.int (i / j))):=rfl
theorem nQ(i j:Int):cX (.int i) (.int j)=aU (0 < j) (.ok (.int (i % j))):=rfl
theorem V9(i j:Int):J2 (.int i) (.int j)=.ok (.bl (decide (i < j))):=rfl
theorem ady(i j:Int):XX (.int i) (.int j)=.ok (.bl (decide (j < i))):=rfl
theorem Q9(x:D):DP x .non=.ok (.bl (!Lz x)):=rfl
theorem ac9:Lz .non=true:=rfl
theorem ac8(x:Str):Lz (.str x)=false:=rfl
theorem Lw(ds:List D):gB [.lst ds]=.ok (.int ds.length):=rfl
theorem Wd(ds:List D):gB [.tup ds]=.ok (.int ds.length):=rfl
theorem adl(z:Str):gB [.str z]=aU (z.length≤16777216) (.ok (.int z.length)):=rfl
theorem abp(i j:Int):zf [.int i,.int j]=.ok (.int (max i j)):=rfl
theorem abn(i j:Int):M9 [.int i,.int j]=.ok (.int (min i j)):=rfl
theorem aar(ds:List D):Ua [.lst ds]=(t8 (JN ds)).bind fun bs=>.ok (.bl (bs.all id)):=rfl
theorem X6(ds:List D):tG [.lst ds]=.ok (.tup ds):=rfl
theorem aaP(z:Str)(lo hi:Option Int):Tu (.str z) lo hi=aU (z.length≤16777216) (.ok (.str (uM z lo hi))):=rfl
theorem YS(ds:List D):Ju (.lst ds)=.ok ds:=rfl
theorem Ji(ds:List D):Ju (.tup ds)=.ok ds:=rfl
theorem vM(b:Bool):asB (.bl b)=.ok b:=rfl
theorem G4(b:Int):asI (.int b)=.ok b:=rfl
theorem Nm(x:D):asD (.d x)=.ok x:=rfl
theorem Rz(x:D):XD (.d x)=aU (YZ x=true) (.ok x):=rfl
theorem ac0(i:Nat)(d:D)(e:Mi.Env):(Tg.n i).put d e=.ok (e.set i (some (.d d))):=rfl
theorem all_cons(i:Nat)(is:List Nat)(d:D)(ds:List D)(e:Mi.Env):uh (i::is) (d::ds) e=uh is ds (e.set i (some (.d d))):=rfl
theorem aba(w:W):Dr (.rt w)=.ok w:=rfl
theorem abb(e:Mi.Env):Dr (.nx e)=.ok (.d .non):=rfl
theorem Yv(w:W):sV (.rt w)=.ok w:=rfl
theorem aF{f:D→D→Rs D}{a b:E}{e:Mi.Env}{x y:D}{z:Rs D}(ha:a e=.ok x)(hb:b e=.ok y)(h:f x y=z):m2 f a b e=z:=by
 unfold m2;rw[ha,aG,hb,aG,h]
theorem aL{s t:S}{e e':Mi.Env}(h:s e=.ok (.nx e')):aW s t e=t e':=by unfold aW;rw[h];rfl
theorem um{s t:S}{e:Mi.Env}{w:W}(h:s e=.ok (.rt w)):aW s t e=.ok (.rt w):=by unfold aW;rw[h];rfl
theorem bj{i:Nat}{a:E}{e:Mi.Env}{d:D}(h:a e=.ok d):bL i a e=.ok (.nx (e.set i (some (.d d)))):=by unfold bL;rw[h];rfl
theorem dm{a:EW}{e:Mi.Env}{w:W}(h:a e=.ok w):dg a e=.ok (.rt w):=by unfold dg;rw[h];rfl
theorem cu{a:E}{e:Mi.Env}{d:D}(h:a e=.ok d):wD a e=.ok (.d d):=by unfold wD;rw[h];rfl
theorem lH{c:C}{s t:S}{e:Mi.Env}(h:c e=.ok true):iI c s t e=s e:=by unfold iI;rw[h];rfl
theorem fO{c:C}{s t:S}{e:Mi.Env}(h:c e=.ok false):iI c s t e=t e:=by unfold iI;rw[h];rfl
theorem bZ{a:E}{e:Mi.Env}{b:Bool}(h:a e=.ok (.bl b)):cB a e=.ok b:=by unfold cB;rw[h];rfl
theorem cY{ρ : List (Option Nat)}{it:I}{tg:Tg}{c:C}{a:E}{e:Mi.Env}{xs ys:List D}(h:it e=.ok xs)(hl:xs.length≤16777216)(hc:dN tg c a (tM ρ e) xs=.ok ys):cW ρ it tg c a e=.ok (.lst ys):=by
 unfold cW;rw[h,aG,aq hl,hc,aG]
theorem lX{a:E}{e:Mi.Env}{n:Int}(h:a e=.ok (.int n))(hr:okR n):eQ a e=.ok (du 0 n):=by
 unfold eQ;rw[h,aG,G4,aG,aq hr]
theorem iD{it:I}{tg:Tg}{b:S}{e:Mi.Env}{xs:List D}(h:it e=.ok xs):jR it tg b e=rC tg b xs e:=by unfold jR;rw[h];rfl
theorem dO{a:E}{e:Mi.Env}{x:D}{xs:List D}(h:a e=.ok x)(hx:Ju x=.ok xs):lJ a e=.ok xs:=by unfold lJ;rw[h,aG,hx]
theorem rG{i:Nat}{a:E}{e:Mi.Env}{d:D}{ds:List D}(h:a e=.ok d)(hg:getL e i=.ok ds)(hl:ds.length < 16777216):bU i a e=.ok (.nx (putL e i (ds++[d]))):=by
 unfold bU;rw[h,aG,hg,aG,aq hl]
theorem iB{f:List D→Rs D}{a:E}{e:Mi.Env}{x:D}(h:a e=.ok x):mN f [a] e=f [x]:=by unfold mN;rw[lF,h];rfl
theorem QL{f:List D→Rs D}{a b:E}{e:Mi.Env}{x y:D}(h:a e=.ok x)(h':b e=.ok y):mN f [a,b] e=f [x,y]:=by unfold mN;rw[lF,h,aG,lF,h'];rfl
theorem Wb{a:E}{e:Mi.Env}{x:D}(h:a e=.ok x):mN fP [a] e=.ok (.lst [x]):=by
 rw[iB h]
 exact aq (by simp)
theorem kh{a b:E}{e:Mi.Env}{x y:D}(h:a e=.ok x)(h':b e=.ok y):mN dTup [a,b] e=.ok (.tup [x,y]):=by
 rw[QL h h']
 exact aq (by simp)
theorem jP{f:Fn}{a:EW}{e:Mi.Env}{x:W}{d:D}(h:a e=.ok x)(hf:f [x]=.ok (.d d)):aR f [a] e=.ok d:=by unfold aR qG;rw[bW,h];simp only[aG,bW,hf,Nm]
theorem call2{f:Fn}{a b:EW}{e:Mi.Env}{x y:W}{d:D}(h:a e=.ok x)(h':b e=.ok y)(hf:f [x,y]=.ok (.d d)):aR f [a,b] e=.ok d:=by unfold aR qG;rw[bW,h,aG,bW,h'];simp only[aG,bW,hf,Nm]
theorem zV{f:Fn}{a b c:EW}{e:Mi.Env}{x y z:W}{d:D}(h:a e=.ok x)(h':b e=.ok y)(h'':c e=.ok z)(hf:f [x,y,z]=.ok (.d d)):aR f [a,b,c] e=.ok d:=by unfold aR qG;rw[bW,h,aG,bW,h',aG,bW,h''];simp only[aG,bW,hf,Nm]
theorem cJ{α : Type}{tg:Tg}{c:C}{a:E}{e:Mi.Env}(f g:α→D)(p:α→Bool):∀ (xs:List α),(∀ x∈xs,∃ e1,tg.put (f x) e=.ok e1∧c e1=.ok (p x)∧(p x=true→a e1=.ok (g x)))→dN tg c a e (xs.map f)=.ok ((xs.filter p).map g)
 | [],_=>rfl
 | x::r,h=>by
  obtain⟨e1,h1,h2,h3⟩:=h x List.mem_cons_self
  have ih:=cJ (tg:=tg) (c:=c) (a:=a) (e:=e) f g p r fun y hy=>h y (List.mem_cons_of_mem _ hy)
  rw[List.map_cons,dN,h1,aG,h2,aG]
  cases hp:p x with
  | true=>rw[if_pos rfl,h3 hp,aG,ih,aG,List.filter_cons_of_pos hp];rfl
  | false=>rw[if_neg Bool.false_ne_true,ih,List.filter_cons_of_neg (by rw[hp];exact Bool.false_ne_true)]
theorem qb{tg:Tg}{body:S}(Inv:Nat→Mi.Env→Prop):∀ (xs:List D) (k:Nat),(∀ i x e,xs[i]? = some x→Inv (k+i) e→∃ e1 e2,tg.put x e=.ok e1∧body e1=.ok (.nx e2)∧Inv (k+i+1) e2)→∀ e,Inv k e→∃ e',rC tg body xs e=.ok (.nx e')∧Inv (k+xs.length) e'
 | [],k,_,e,h=>⟨e,rfl,h⟩
 | x::r,k,hs,e,h=>by
  obtain⟨e1,e2,h1,h2,h3⟩:=hs 0 x e rfl h
  obtain⟨e',h4,h5⟩:=qb Inv r (k+1) (fun i y e hy hi=>by
   have:=hs (i+1) y e (by simpa using hy) (by rw[show k+(i+1)=k+1+i by omega];exact hi)
   rw[show k+(i+1)+1=k+1+i+1 by omega] at this
   exact this) e2 h3
  refine⟨e',?_,by rw[List.length_cons,show k+(r.length+1)=k+1+r.length by omega];exact h5⟩
  rw[rC,h1,aG,h2,aG]
  exact h4
theorem Mh{α : Type}{tg:Tg}{body:S}{e:Mi.Env}{w:Out}(f:α→D)(st:Option α→Mi.Env)(p:α→Bool)(out:α→Out):∀ (xs:List α) (o:Option α),
 (∀ x∈xs,∀ o,∃ e1,tg.put (f x) (st o)=.ok e1∧body e1=.ok (if p x=true then out x else .nx (st (some x)))) →
 (∀ x∈xs,p x=true→∃ w,out x=.rt w) →
 rC tg body (xs.map f) (st o)=.ok (match xs.find? p with|some x=>out x|none=>.nx (st (xs.getLast?.or o)))
 | [],o,_,_=>by cases o<;>rfl
 | x::r,o,h,ho=>by
  obtain⟨e1,h1,h2⟩:=h x List.mem_cons_self o
  rw[List.map_cons,rC,h1,aG,h2,aG]
  cases hp:p x with
  | true =>
   obtain⟨w,hw⟩:=ho x List.mem_cons_self hp
   rw[List.find?_cons_of_pos hp]
   simp only[if_true,hw]
  | false =>
   rw[List.find?_cons_of_neg (by rw[hp];exact Bool.false_ne_true)]
   have ih:=Mh (e:=e) (w:=w) f st p out r (some x) (fun y hy=>h y (List.mem_cons_of_mem _ hy)) fun y hy=>ho y (List.mem_cons_of_mem _ hy)
   simp only[Bool.false_eq_true,if_false]
   rw[ih]
   have:(r.getLast?.or (some x))=((x::r).getLast?.or o):=by
    cases r with
    | nil=>rfl
    | cons y t=>simp[List.getLast?_cons]
   rw[this]
end Mi
namespace Mr
open PySem Mi
abbrev Ar:=Str×Str
def pairD(p:Ar):D:=.tup [.str p.1,.str p.2]
def cU(names:List Str):D:=.tup (names.map D.str)
def Bp(aj:List Ar):D:=.tup (aj.map pairD)
def aH(names:List Str)(aj:List Ar):D:=.tup [cU names,Bp aj]
def bT(xs:List Str):D:=.lst (xs.map D.str)
theorem at0{α : Type}(a:α)(r:List α):wB (a::r) 0=some a:=by simp[wB,J0]
theorem at1{α : Type}(a b:α)(r:List α):wB (a::b::r) 1=some b:=by
 unfold wB J0
 rw[if_pos (by decide),if_pos (by simp only[List.length_cons];omega)];rfl
theorem Dh(names:List Str)(aj:List Ar):cz (aH names aj) (.int 0)=.ok (cU names):=by
 unfold aH cz
 simp[at0]
theorem Q8(names:List Str)(aj:List Ar):cz (aH names aj) (.int 1)=.ok (Bp aj):=by
 unfold aH cz
 simp[at1]
theorem u5{names asked:List Str}(h:∀ x∈asked,x∈names):bu [.d (cU names),.d (bT asked)]=.ok (.d .non):=by
 have key:∀ (xs:List Str) (o:Option W),(∀ x∈xs,x∈names)→∃ o',rC (.n 2) (iI (cB (m2 dY (mV 2) (mV 0))) gY bA) (xs.map D.str) [some (.d (cU names)),some (.d (bT asked)),o]=.ok (.nx [some (.d (cU names)),some (.d (bT asked)),o']):=by
  intro xs
  induction xs with
  | nil=>exact fun o _=>⟨o,rfl⟩
  | cons x r ih =>
   intro o hx
   obtain⟨o',e⟩:=ih (some (.d (.str x))) fun y hy=>hx y (List.mem_cons_of_mem _ hy)
   refine⟨o',?_⟩
   rw[List.map_cons,rC]
   have:x∈names:=hx x List.mem_cons_self
   simp only[cU,ac0,List.set_cons_succ,List.set_cons_zero,iI,cB,m2,mV,bA,aG,List.getElem?_cons_succ,List.getElem?_cons_zero,Mq,this,decide_true,Bool.not_true,vM,Bool.false_eq_true,if_false]
   exact e
 obtain⟨o',e⟩:=key asked none h
 unfold bT at e
 unfold bu pD
 rw[sW]
 simp only[jR,lJ,mV,bT,Nat.reduceSub,List.replicate_succ,List.replicate_zero,List.cons_append,List.nil_append,List.getElem?_cons_succ,List.getElem?_cons_zero,aG,YS,e,abb]
def bD(aj:List Ar)(x:Str):List Str:=(aj.filter fun p=>decide (p.2=x)).map (·.1)
theorem yW{names:List Str}{aj:List Ar}{x:Str}(hx:x∈names)(hl:aj.length≤64):dI [.d (aH names aj),.d (.str x)]=.ok (.d (.tup ((bD aj x).map D.str))):=by
 have hr:=u5 (names:=names) (asked:=[x]) (by simpa using hx)
 unfold dI z8
 rw[sW]
 have hc:dN (.t [1,2]) (cB (m2 oK (mV 2) (mV 0))) (mV 1) [some (.d (.str x)),none,none] (aj.map pairD)=.ok ((aj.filter fun p=>decide (p.2=x)).map fun p=>D.str p.1) :=
  cJ pairD (fun p=>D.str p.1) (fun p=>decide (p.2=x)) aj fun p _=>⟨[some (.d (.str x)),some (.d (.str p.1)),some (.d (.str p.2))],rfl,by simp only[cB,m2,mV,List.getElem?_cons_succ,List.getElem?_cons_zero,aG,Jw,vM],fun _=>by simp only[mV,List.getElem?_cons_succ,List.getElem?_cons_zero]⟩
 have hg:aU (([D.str x]:List D).length≤16777216) (Rs.ok (D.lst [D.str x]))=.ok (.lst [.str x]):=aq (by simp)
 unfold bT at hr
 have hp:tM [some 1,none,none] [some (W.d (aH names aj)),some (W.d (D.str x))]=[some (.d (.str x)),none,none]:=rfl
 simp only[List.length_cons,List.length_nil,Nat.zero_add,adz] at hg
 simp only[List.map_cons,List.map_nil,aW,qQ,aR,qG,bW,wD,m2,mV,Nat.reduceSub,List.replicate_zero,List.cons_append,List.nil_append,List.getElem?_cons_zero,mC,aG,Dh,mN,lF,List.getElem?_cons_succ,fP,List.length_cons,List.length_nil,Nat.zero_add,adz,dg] at hr ⊢
 rw[hr]
 simp only[aG,Nm,cW,lJ,m2,mV,mC,List.getElem?_cons_zero,Q8,Bp,Ji,hp]
 rw[aq (by rw[List.length_map];omega),hc]
 simp only[aG,X6,aba,bD,List.map_map]
 rfl
def ready(aj:List Ar)(told:List Str)(x:Str):Bool:=!decide (x∈told) && (bD aj x).all fun y=>decide (y∈told)
def nxt(names:List Str)(aj:List Ar)(told:List Str):Option Str:=names.find? (ready aj told)
def K4:Option Str→D
 | some x=>.str x
 | none=>.non
theorem Sq(x:Str):K4 (some x)=.str x:=rfl
theorem Ss:K4 none=.non:=rfl
theorem mG{aj:List Ar}{x:Str}(hl:aj.length≤64):(bD aj x).length≤64:=by
 unfold bD
 rw[List.length_map]
 exact Nat.le_trans (List.length_filter_le _ _) hl
theorem Ds{names:List Str}{aj:List Ar}(hl:aj.length≤64)(told:List Str):d9 [.d (aH names aj),.d (bT told)]=.ok (.d (K4 (nxt names aj told))):=by
 unfold d9 vL
 rw[sW]
 have step:∀ x∈names,∀ o:Option Str,∃ e1,(Tg.n 2).put (D.str x) [some (.d (aH names aj)),some (.d (bT told)),o.map fun y=>W.d (.str y)]=.ok e1 ∧
  (iI (nq (cB (m2 dY (mV 2) (mV 1))) (cB (mN Ua [(cW [some 1,none] (lJ (aR dI [(wD (mV 0)),(wD (mV 2))])) (.n 1) jM (m2 pN (mV 1) (mV 0)))]))) (dg (wD (mV 2))) bA) e1 =
   .ok (if ready aj told x=true then .rt (.d (.str x)) else .nx [some (.d (aH names aj)),some (.d (bT told)),(some x).map fun y=>W.d (.str y)]):=by
  intro x hx o
  refine⟨[some (.d (aH names aj)),some (.d (bT told)),some (.d (.str x))],rfl,?_⟩
  have hc:dN (.n 1) jM (m2 pN (mV 1) (mV 0)) [some (.d (bT told)),none] ((bD aj x).map D.str)=.ok (((bD aj x).filter fun _=>true).map fun y=>D.bl (decide (y∈told))) :=
   cJ D.str (fun y=>D.bl (decide (y∈told))) (fun _=>true) _ fun y _=>⟨[some (.d (bT told)),some (.d (.str y))],rfl,rfl,fun _=>by simp only[m2,mV,bT,List.getElem?_cons_succ,List.getElem?_cons_zero,aG,Jv]⟩
  have hf:((bD aj x).filter fun _=>true)=bD aj x:=List.filter_eq_self.mpr fun _ _=>rfl
  rw[hf] at hc
  have hp:tM [some 1,none] [some (W.d (aH names aj)),some (W.d (bT told)),some (W.d (D.str x))]=[some (.d (bT told)),none]:=rfl
  have hn:dY (.str x) (bT told)=.ok (.bl (!decide (x∈told))):=DK told x
  simp only[iI,nq,cB,m2,mV,List.getElem?_cons_succ,List.getElem?_cons_zero,aG,hn,vM,mN,lF,dg,wD,bA]
  unfold ready
  cases hm:decide (x∈told) with
  | true=>rfl
  | false =>
   simp only[Bool.not_false,cW,lJ,aR,qG,bW,wD,mV,List.getElem?_cons_zero,aG,List.getElem?_cons_succ,yW hx hl,Nm,Ji,hp,if_true]
   rw[aq (by rw[List.length_map];have:=mG (x:=x) hl;omega),hc]
   simp only[aG,aar,Np,jy,List.all_map,vM,Bool.true_and]
   have:(List.all (bD aj x) (id ∘ fun y=>decide (y∈told)))=(bD aj x).all fun y=>decide (y∈told):=rfl
   rw[this]
   cases (bD aj x).all fun y=>decide (y∈told)<;>rfl
 have hf:=Mh (e:=[]) (w:=.rt (.d .non)) D.str (fun o=>[some (.d (aH names aj)),some (.d (bT told)),o.map fun y=>W.d (.str y)]) (ready aj told) (fun x=>.rt (.d (.str x))) names none step fun x _ _=>⟨_,rfl⟩
 simp only[Option.map_none] at hf
 simp only[aW,jR,lJ,m2,mV,Nat.reduceSub,List.replicate_succ,List.replicate_zero,List.cons_append,List.nil_append,List.getElem?_cons_zero,mC,aG,Dh,cU,Ji,hf,dg,wD]
 unfold nxt
 cases names.find? (ready aj told) with
 | none=>rfl
 | some x=>rfl
structure Ue(names:List Str)(aj:List Ar):Prop where
 nd:names.Nodup
 pos:1≤names.length
 le:names.length≤8
 al:aj.length≤64
 tl:∀ p∈aj,p.1∈names
 rk:∃ r:Str→Int,∀ p∈aj,r p.1 < r p.2
theorem kJ{aj:List Ar}{x y:Str}:y∈bD aj x↔(y,x)∈aj:=by
 unfold bD
 constructor
 ·intro h
  obtain⟨p,hp,rfl⟩:=List.mem_map.mp h
  obtain⟨h1,h2⟩:=List.mem_filter.mp hp
  have:p.2=x:=by simpa using h2
  rw[← this];exact h1
 ·intro h
  exact List.mem_map.mpr ⟨(y,x),List.mem_filter.mpr ⟨h,by simp⟩,rfl⟩
theorem O8{α : Type}(f:α→Int):∀ (l:List α),l≠[]→∃ x∈l,∀ y∈l,f x≤f y
 | [],h=>absurd rfl h
 | [a],_=>⟨a,by simp,by simp⟩
 | a::b::r,_=>by
  obtain⟨x,hx,hm⟩:=O8 f (b::r) (by simp)
  by_cases h:f a≤f x
  ·refine⟨a,List.mem_cons_self,fun y hy=>?_⟩
   rcases List.mem_cons.mp hy with rfl|hy
   ·exact Int.le_refl _
   ·exact Int.le_trans h (hm y hy)
  ·refine⟨x,List.mem_cons_of_mem _ hx,fun y hy=>?_⟩
   rcases List.mem_cons.mp hy with rfl|hy
   ·omega
   ·exact hm y hy
theorem Ue.next{names:List Str}{aj:List Ar}(N:Ue names aj){told:List Str}(h:∃ x∈names,x∉told):∃ x,nxt names aj told=some x∧x∈names∧x∉told:=by
 obtain⟨r,hr⟩:=N.rk
 obtain⟨x0,h1,h2⟩:=h
 obtain⟨x,hx,hm⟩:=O8 r (names.filter fun x=>!decide (x∈told)) (fun z=>by
  have:x0∈names.filter fun x=>!decide (x∈told):=List.mem_filter.mpr ⟨h1,by simpa using h2⟩
  rw[z] at this;cases this)
 obtain⟨hx1,hx2⟩:=List.mem_filter.mp hx
 have hx2:x∉told:=by simpa using hx2
 have rd:ready aj told x=true:=by
  unfold ready
  rw[Bool.and_eq_true]
  refine⟨by simpa using hx2,List.all_eq_true.mpr fun y hy=>?_⟩
  have hy:=kJ.mp hy
  by_cases hyt:y∈told
  ·simpa using hyt
  ·have:=hm y (List.mem_filter.mpr ⟨N.tl _ hy,by simpa using hyt⟩)
   have:=hr _ hy
   have:r y < r x:=this
   omega
 unfold nxt
 cases hf:names.find? (ready aj told) with
 | none=>exact absurd rd (by simpa using List.find?_eq_none.mp hf x hx1)
 | some z =>
  have hz:=List.find?_some hf
  refine⟨z,rfl,List.mem_of_find?_eq_some hf,fun hzt=>?_⟩
  unfold ready at hz
  rw[Bool.and_eq_true] at hz
  simp[hzt] at hz
def ord(names:List Str)(aj:List Ar):Nat→List Str
 | 0=>[]
 | k+1=>match nxt names aj (ord names aj k) with
  | some x=>ord names aj k++[x]
  | none=>ord names aj k
theorem jf{α : Type}[DecidableEq α]:∀ {l m:List α},l.Nodup→(∀ x∈l,x∈m)→l.length≤m.length
 | [],_,_,_=>Nat.zero_le _
 | a::l,m,nd,h=>by
  have nd:=List.nodup_cons.mp nd
  have:l.length≤(m.erase a).length:=jf nd.2 fun x hx=>(List.mem_erase_of_ne (fun z:x=a=>nd.1 (z ▸ hx))).mpr (h x (List.mem_cons_of_mem _ hx))
  have hm:=h a List.mem_cons_self
  rw[List.length_erase_of_mem hm] at this
  have:0 < m.length:=List.length_pos_of_mem hm
  rw[List.length_cons];omega
theorem Ue.HY{names:List Str}{aj:List Ar}(N:Ue names aj):∀ k,k≤names.length→(ord names aj k).length=k∧(ord names aj k).Nodup∧(∀ x∈ord names aj k,x∈names)
 | 0,_=>⟨rfl,List.nodup_nil,by simp[ord]⟩
 | k+1,h=>by
  obtain⟨h1,h2,h3⟩:=N.HY k (by omega)
  have ex:∃ x∈names,x∉ord names aj k:=by
   refine Classical.byContradiction fun z=>?_
   have hall:∀ x∈names,x∈ord names aj k:=fun x hx=>Classical.byContradiction fun y=>z ⟨x,hx,y⟩
   have:=jf N.nd hall
   omega
  obtain⟨x,hx,hm,hn⟩:=N.next ex
  rw[ord,hx]
  refine⟨by simp[h1],?_,fun y hy=>?_⟩
  ·rw[List.nodup_append]
   refine⟨h2,by simp,fun a ha b hb=>?_⟩
   have:b=x:=by simpa using hb
   subst this
   exact fun z=>hn (z ▸ ha)
  ·rcases List.mem_append.mp hy with hy|hy
   ·exact h3 y hy
   ·have:y=x:=by simpa using hy
    rw[this];exact hm
theorem Ue.V1{names:List Str}{aj:List Ar}(N:Ue names aj){k:Nat}(h:k < names.length):∃ x,nxt names aj (ord names aj k)=some x∧ord names aj (k+1)=ord names aj k++[x]:=by
 obtain⟨h1,h2,h3⟩:=N.HY k (by omega)
 have ex:∃ x∈names,x∉ord names aj k:=by
  refine Classical.byContradiction fun z=>?_
  have hall:∀ x∈names,x∈ord names aj k:=fun x hx=>Classical.byContradiction fun y=>z ⟨x,hx,y⟩
  have:=jf N.nd hall
  omega
 obtain⟨x,hx,_⟩:=N.next ex
 exact⟨x,hx,by rw[ord,hx]⟩
theorem Ue.QF{names:List Str}{aj:List Ar}(N:Ue names aj):∀ x∈names,x∈ord names aj names.length:=fun x hx=>by
 obtain⟨h1,h2,h3⟩:=N.HY names.length (Nat.le_refl _)
 refine Classical.byContradiction fun z=>?_
 have:(x::ord names aj names.length).length≤names.length:=jf (List.nodup_cons.mpr ⟨z,h2⟩) fun y hy=>by
  rcases List.mem_cons.mp hy with rfl|hy
  ·exact hx
  ·exact h3 y hy
 rw[List.length_cons] at this
 omega
theorem Ue.V2{names:List Str}{aj:List Ar}(N:Ue names aj):nxt names aj (ord names aj names.length)=none:=by
 unfold nxt
 refine List.find?_eq_none.mpr fun x hx=>?_
 unfold ready
 simp[N.QF x hx]
theorem Rb(o:Option Str):YZ (K4 o)=true:=by cases o<;>simp[K4,YZ]
theorem Pk{names:List Str}{aj:List Ar}(N:Ue names aj):qZ [.d (aH names aj)]=.ok (.d (bT (ord names aj names.length))):=by
 have fr:=fun told=>Ds (names:=names) N.al told
 have fr':∀ told:List Str,d9 [.d (aH names aj),.d (.lst (told.map D.str))]=.ok (.d (K4 (nxt names aj told))):=fr
 have key:∀ (j k:Nat),k+j=names.length→∃ o,jr (cB (m2 DP (mV 2) (mC .non))) (aW (bU 1 (mV 2)) (bL 2 (mz d9 [(wD (mV 0)),(wD (mV 1))]))) (j+92)
  [some (.d (aH names aj)),some (.d (bT (ord names aj k))),some (.d (K4 (nxt names aj (ord names aj k))))]=.ok (.nx [some (.d (aH names aj)),some (.d (bT (ord names aj names.length))),o]):=by
  intro j
  induction j with
  | zero =>
   intro k hk
   obtain rfl:k=names.length:=by omega
   refine⟨some (.d .non),?_⟩
   rw[jr,N.V2]
   simp only[cB,m2,mV,Ss,List.getElem?_cons_succ,List.getElem?_cons_zero,mC,aG,Q9,ac9,Bool.not_true,vM,aW,bU,getL,putL,List.set_cons_succ,List.set_cons_zero,bL,mz,qG,bW,wD,Bool.false_eq_true,if_false]
  | succ j ih =>
   intro k hk
   obtain⟨x,hx,e⟩:=N.V1 (k:=k) (by omega)
   obtain⟨o,ho⟩:=ih (k+1) (by omega)
   refine⟨o,?_⟩
   have hl:=(N.HY k (by omega)).1
   have hg:((ord names aj k).map D.str).length < 16777216:=by rw[List.length_map,hl];have:=N.le;omega
   have hs:D.lst ((ord names aj k).map D.str++[D.str x])=bT (ord names aj (k+1)):=by rw[e,bT,List.map_append];rfl
   rw[show j+1+92=(j+92)+1 by omega,jr,hx]
   simp only[cB,m2,mV,bT,Sq,List.getElem?_cons_succ,List.getElem?_cons_zero,mC,aG,Q9,ac8,Bool.not_false,vM,aW,bU,getL,putL,List.set_cons_succ,List.set_cons_zero,aq hg,hs,bL,mz,qG,bW,wD,fr',Rz,aq (Rb _),if_true]
   exact ho
 obtain⟨o,ho⟩:=key names.length 0 (by omega)
 unfold qZ GR
 rw[Py]
 have hw:∀ (c:C) (b:S) (e e':Mi.Env) (n m:Nat),jr c b n e=.ok (.nx e')→jr c b (n+m) e=.ok (.nx e'):=by
  intro c b e e' n m
  induction n generalizing e with
  | zero=>intro h;cases h
  | succ n ih =>
   intro h
   rw[show n+1+m=(n+m)+1 by omega,jr]
   rw[jr] at h
   revert h
   cases c e with
   | ok k =>
    cases k with
    | false=>exact id
    | true =>
     simp only[aG,if_true]
     cases b e with
     | ok o' =>
      cases o' with
      | nx e2=>exact ih _
      | ct e2=>exact ih _
      | bk e2=>exact id
      | rt w=>exact id
     | ex x=>exact id
     | no=>exact id
   | ex x=>exact id
   | no=>exact id
 have ho:=hw _ _ _ _ _ (8 - names.length) ho
 rw[show names.length+92+(8 - names.length)=100 by have:=N.le;omega] at ho
 have f0:=fr []
 have h0:bT []=D.lst []:=rfl
 rw[h0] at f0
 have hg0:aU (([]:List D).length≤16777216) (Rs.ok (D.lst []))=.ok (.lst []):=aq (by simp)
 simp only[List.length_nil] at hg0
 have ho:jr (cB (m2 DP (mV 2) (mC .non))) (aW (bU 1 (mV 2)) (bL 2 (mz d9 [(wD (mV 0)),(wD (mV 1))]))) 100 [some (.d (aH names aj)),some (.d (.lst [])),some (.d (K4 (nxt names aj [])))]=.ok (.nx [some (.d (aH names aj)),some (.d (bT (ord names aj names.length))),o]):=ho
 simp only[aW,bL,Cp,mN,lF,fP,aG,hg0,List.length_nil,List.cons_append,List.nil_append,List.replicate_succ,List.replicate_zero,Nat.reduceSub,List.set_cons_zero,List.set_cons_succ,mz,qG,bW,wD,mV,List.getElem?_cons_zero,List.getElem?_cons_succ,f0,XD,aq (Rb _),List.map_cons,List.map_nil]
 rw[ho]
 rfl
end Mr
namespace Mr
open PySem Mi
theorem oW:∀ xs ys:List Str,fL (xs.map D.str) (ys.map D.str)=decide (xs=ys)
 | [],[]=>rfl
 | [],_::_=>rfl
 | _::_,[]=>rfl
 | x::xs,y::ys=>by
  rw[List.map_cons,List.map_cons,fL,jx,oW xs ys]
  by_cases h1:x=y<;>by_cases h2:xs=ys<;>simp[h1,h2]
theorem WX(xs ys:List Str):wA (bT xs) (bT ys)=.ok (.bl (!decide (xs=ys))):=by
 unfold wA bT
 rw[aq (by simp),cR,oW]
end Mr
namespace My
def wl:List Nat:=[101,116,97,111,105,110,115,104,114,100,108,117,99,109,102,119,121,112,118,98,103,107,113,106,120,122]
def sJ(n:Int):Nat:=wl.getD (n % 26).toNat 0
def lB(c:Int):List Nat:=(List.range 8).map fun (k:Nat)=>sJ (c / (4+3 * (k:Int)))
def lO(c:Int)(n:Nat):List Nat:=(List.range n).map fun (k:Nat)=>sJ (c / 32+5 * (k:Int)+(k:Int) * (k:Int))
def words(c:Int)(many:Nat):List (List Nat) :=
 if c % 4 < 2 then
  if c % 4=0 then (List.range many).map fun (k:Nat)=>(lB c).take (k+1)
  else (List.range many).map fun (k:Nat)=>(lB c).drop (7 - k)
 else
  (List.range many).map fun (k:Nat)=>(lO c (c / 4 % 8).toNat).take (c / 256 % (c / 4 % 8+1)).toNat++[sJ (c / 7+5 * (k:Int))]++(lO c (c / 4 % 8).toNat).drop (c / 256 % (c / 4 % 8+1)).toNat
def Av(x:List Nat):Prop:=1≤x.length∧x.length≤8∧∀ c∈x,97≤c∧c≤122
theorem N8:∀ c∈wl,97≤c∧c≤122:=by decide
theorem aco:wl.Nodup:=by decide
theorem Ht:wl.length=26:=by decide
theorem CV(n:Int):sJ n∈wl:=by
 unfold sJ
 have h1:=Int.emod_nonneg n (b:=26) (by decide)
 have h2:=Int.emod_lt_of_pos n (b:=26) (by decide)
 have h3:(n % 26).toNat < wl.length:=by rw[Ht];omega
 rw[List.getD_eq_getElem?_getD,List.getElem?_eq_getElem h3]
 exact List.getElem_mem h3
theorem Wa{n m:Int}(h:sJ n=sJ m):n % 26=m % 26:=by
 unfold sJ at h
 have h1:=Int.emod_nonneg n (b:=26) (by decide)
 have h2:=Int.emod_lt_of_pos n (b:=26) (by decide)
 have h3:(n % 26).toNat < wl.length:=by rw[Ht];omega
 have h1':=Int.emod_nonneg m (b:=26) (by decide)
 have h2':=Int.emod_lt_of_pos m (b:=26) (by decide)
 have h3':(m % 26).toNat < wl.length:=by rw[Ht];omega
 rw[List.getD_eq_getElem?_getD,List.getElem?_eq_getElem h3,List.getD_eq_getElem?_getD,List.getElem?_eq_getElem h3'] at h
 have:=(List.getElem_inj aco).mp h
 omega
theorem jd(c:Int):(lB c).length=8:=by simp[lB]
theorem oH(c:Int)(n:Nat):(lO c n).length=n:=by simp[lO]
theorem Ft(c:Int):∀ x∈lB c,97≤x∧x≤122:=fun x hx=>by
 obtain⟨k,_,rfl⟩:=List.mem_map.mp hx
 exact N8 _ (CV _)
theorem Fq(c:Int)(n:Nat):∀ x∈lO c n,97≤x∧x≤122:=fun x hx=>by
 obtain⟨k,_,rfl⟩:=List.mem_map.mp hx
 exact N8 _ (CV _)
theorem qF(c:Int)(many:Nat):(words c many).length=many:=by
 unfold words;split<;>(try split)<;>simp
theorem nP{α : Type}(f:Nat→α)(n:Nat)(h:∀ i j,i < n→j < n→f i=f j→i=j):((List.range n).map f).Nodup:=by
 induction n with
 | zero=>simp
 | succ n ih =>
  rw[List.range_succ,List.map_append,List.map_singleton]
  rw[List.nodup_append]
  refine⟨ih fun i j hi hj=>h i j (by omega) (by omega),by simp,fun a ha b hb=>?_⟩
  obtain⟨i,hi,rfl⟩:=List.mem_map.mp ha
  have hi:=List.mem_range.mp hi
  have hb:b=f n:=by simpa using hb
  subst hb
  intro e
  have:=h i n (by omega) (by omega) e
  omega
theorem ud(c:Int)(many:Nat)(hm:many≤8):(words c many).Nodup:=by
 unfold words
 split
 ·split
  ·refine nP _ _ fun i j hi hj e=>?_
   have:=congrArg List.length e
   rw[List.length_take,List.length_take,jd] at this
   omega
  ·refine nP _ _ fun i j hi hj e=>?_
   have:=congrArg List.length e
   rw[List.length_drop,List.length_drop,jd] at this
   omega
 ·refine nP _ _ fun i j hi hj e=>?_
  rw[List.append_assoc,List.append_assoc] at e
  have e1:=List.append_cancel_left e
  have e2:=List.append_cancel_right e1
  have e3:sJ (c / 7+5 * (i:Int))=sJ (c / 7+5 * (j:Int)):=by simpa using e2
  have:=Wa e3
  omega
theorem f9(c:Int)(many:Nat)(hm:many≤8):∀ x∈words c many,Av x:=by
 unfold words
 split
 ·split
  ·intro x hx
   obtain⟨k,hk,rfl⟩:=List.mem_map.mp hx
   have hk:=List.mem_range.mp hk
   refine⟨by rw[List.length_take,jd];omega,by rw[List.length_take,jd];omega,fun y hy=>Ft c y (List.mem_of_mem_take hy)⟩
  ·intro x hx
   obtain⟨k,hk,rfl⟩:=List.mem_map.mp hx
   have hk:=List.mem_range.mp hk
   refine⟨by rw[List.length_drop,jd];omega,by rw[List.length_drop,jd];omega,fun y hy=>Ft c y (List.mem_of_mem_drop hy)⟩
 ·intro x hx
  obtain⟨k,hk,rfl⟩:=List.mem_map.mp hx
  have h1:=Int.emod_nonneg (c / 4) (b:=8) (by decide)
  have h2:=Int.emod_lt_of_pos (c / 4) (b:=8) (by decide)
  have h3:=Int.emod_nonneg (c / 256) (b:=c / 4 % 8+1) (by omega)
  have h4:=Int.emod_lt_of_pos (c / 256) (b:=c / 4 % 8+1) (by omega)
  have hl:((lO c (c / 4 % 8).toNat).take (c / 256 % (c / 4 % 8+1)).toNat++[sJ (c / 7+5 * (k:Int))]++(lO c (c / 4 % 8).toNat).drop (c / 256 % (c / 4 % 8+1)).toNat).length=(c / 4 % 8).toNat+1:=by
   rw[List.length_append,List.length_append,List.length_take,List.length_drop,oH];simp;omega
  refine⟨by rw[hl];omega,by rw[hl];omega,fun y hy=>?_⟩
  rcases List.mem_append.mp hy with hy|hy
  ·rcases List.mem_append.mp hy with hy|hy
   ·exact Fq c _ y (List.mem_of_mem_take hy)
   ·have:y=sJ (c / 7+5 * (k:Int)):=by simpa using hy
    subst this;exact N8 _ (CV _)
  ·exact Fq c _ y (List.mem_of_mem_drop hy)
end My
namespace Mi
open PySem
def S'(l:List Nat):Str:=⟨l.toArray⟩
theorem Bq(l:List Nat):(S' l).cps.toList=l:=rfl
theorem pI(l:List Nat):(S' l).length=l.length:=by simp[S',Str.length]
theorem U6{x y:Str}(h:x.cps.toList=y.cps.toList):x=y:=by
 obtain⟨a⟩:=x
 obtain⟨b⟩:=y
 have h:a.toList=b.toList:=h
 rw[Array.toList_inj.mp h]
theorem ab9{l m:List Nat}(h:S' l=S' m):l=m:=by
 have:=congrArg (fun x:Str=>x.cps.toList) h
 simpa [S'] using this
theorem aca(l m:List Nat):S' l++S' m=S' (l++m):=by
 show (⟨l.toArray++m.toArray⟩ : Str)=⟨(l++m).toArray⟩
 simp
theorem Df:∀ l:List Str,(Str.join "" l).cps.toList=l.flatMap (·.cps.toList)
 | []=>by simp[Str.join,Str.empty]
 | [x]=>by simp[Str.join]
 | x::y::r=>by
  have ih:=Df (y::r)
  have e:Str.join "" (x::y::r)=x ++ "" ++ Str.join "" (y::r):=rfl
  have e2:("" : Str).cps.toList=[]:=by decide +kernel
  rw[e]
  show ((x.cps++("" : Str).cps)++(Str.join "" (y::r)).cps).toList=_
  rw[Array.toList_append,Array.toList_append,e2,ih]
  simp
theorem join_ones(l:List Nat):Str.join "" (l.map fun x=>S' [x])=S' l:=by
 refine U6 ?_
 rw[Df,Bq]
 induction l with
 | nil=>rfl
 | cons a r ih=>rw[List.map_cons,List.flatMap_cons,ih];rfl
theorem W6{α : Type}(xs:List α)(k:Nat):vq xs none (some (k:Int))=xs.take k:=by
 show (xs.drop 0).take ((if (k:Int) < 0 then ((k:Int)+(xs.length:Int)).toNat else min (k:Int).toNat xs.length) - 0)=_
 rw[if_neg (by omega),List.drop_zero,Nat.sub_zero,Int.toNat_natCast]
 rcases Nat.le_total k xs.length with h|h
 ·rw[Nat.min_eq_left h]
 ·rw[Nat.min_eq_right h,List.take_of_length_le (Nat.le_refl _),List.take_of_length_le h]
theorem Ms{α : Type}(xs:List α)(k:Nat):vq xs (some (k:Int)) none=xs.drop k:=by
 show (xs.drop (if (k:Int) < 0 then ((k:Int)+(xs.length:Int)).toNat else min (k:Int).toNat xs.length)).take (xs.length - (if (k:Int) < 0 then ((k:Int)+(xs.length:Int)).toNat else min (k:Int).toNat xs.length))=_
 rw[if_neg (by omega),Int.toNat_natCast]
 rcases Nat.le_total k xs.length with h|h
 ·rw[Nat.min_eq_left h]
  exact List.take_of_length_le (by rw[List.length_drop];exact Nat.le_refl _)
 ·rw[Nat.min_eq_right h,List.drop_of_length_le (Nat.le_refl _),List.drop_of_length_le h];simp
theorem zU(l:List Nat)(k:Nat):uM (S' l) none (some (k:Int))=S' (l.take k):=by
 unfold uM;rw[Bq,W6];rfl
theorem zT(l:List Nat)(k:Nat):uM (S' l) (some (k:Int)) none=S' (l.drop k):=by
 unfold uM;rw[Bq,Ms];rfl
def fG:Str := "etaoinshrdlucmfwypvbgkqjxz"
theorem Pa:fG.cps.toList=My.wl:=by decide +kernel
theorem SQ:fG.length≤16777216:=by decide +kernel
theorem Xx{α : Type}{xs:List α}{i:Int}(h0:0≤i)(h1:i < xs.length)(d:α):wB xs i=some (xs.getD i.toNat d):=by
 unfold wB J0
 rw[if_pos h0,if_pos h1]
 have h3:i.toNat < xs.length:=by omega
 show xs[i.toNat]? = _
 rw[List.getD_eq_getElem?_getD,List.getElem?_eq_getElem h3];rfl
theorem ZC(n:Int):wB fG.cps.toList (n % 26)=some (My.sJ n):=by
 rw[Pa]
 have h1:=Int.emod_nonneg n (b:=26) (by decide)
 have h2:=Int.emod_lt_of_pos n (b:=26) (by decide)
 exact Xx h1 (by rw[My.Ht];omega) 0
theorem Bj{cs:List Int}{i:Int}(h0:0≤i)(h1:i < cs.length):cz (.lst (cs.map D.int)) (.int i)=.ok (.int (cs.getD i.toNat 0)):=by
 show t8 (wB (cs.map D.int) i)=_
 rw[Xx h0 (by rw[List.length_map];exact h1) (.int 0),jy]
 have h3:i.toNat < cs.length:=by omega
 rw[List.getD_eq_getElem?_getD,List.getElem?_map,List.getD_eq_getElem?_getD,List.getElem?_eq_getElem h3];rfl
theorem Q7{cs:List Str}{i:Int}(h0:0≤i)(h1:i < cs.length):cz (.lst (cs.map D.str)) (.int i)=.ok (.str (cs.getD i.toNat Str.empty)):=by
 show t8 (wB (cs.map D.str) i)=_
 rw[Xx h0 (by rw[List.length_map];exact h1) (.str Str.empty),jy]
 have h3:i.toNat < cs.length:=by omega
 rw[List.getD_eq_getElem?_getD,List.getElem?_map,List.getD_eq_getElem?_getD,List.getElem?_eq_getElem h3];rfl
theorem wz(n:Nat):du 0 (n:Int)=(List.range n).map fun (k:Nat)=>D.int (k:Int):=by
 unfold du
 rw[show ((n:Int) - 0).toNat=n by omega]
 exact List.map_congr_left fun k _=>by rw[Int.zero_add]
theorem iQ(n:Nat):(du 0 (n:Int)).length=n:=by rw[wz];simp
theorem sZ{n i:Nat}{x:D}(h:(du 0 (n:Int))[i]? = some x):i < n∧x=.int (i:Int):=by
 rw[wz,List.getElem?_map] at h
 cases hr:(List.range n)[i]? with
 | none=>rw[hr] at h;cases h
 | some k =>
  rw[hr] at h
  obtain⟨h1,h2⟩:=List.getElem?_eq_some_iff.mp hr
  rw[List.getElem_range] at h2
  subst h2
  rw[List.length_range] at h1
  exact⟨h1,(Option.some.inj h).symm⟩
theorem mJ{tg:Tg}{a:E}{e:Mi.Env}(g:Nat→D)(n:Nat)(h:∀ k < n,∃ e1,tg.put (.int (k:Int)) e=.ok e1∧a e1=.ok (g k)):dN tg jM a e (du 0 (n:Int))=.ok ((List.range n).map g):=by
 rw[wz,cJ (fun (k:Nat)=>D.int (k:Int)) g (fun _=>true) (List.range n) fun k hk=>?_]
 ·rw[List.filter_eq_self.mpr fun _ _=>rfl]
 ·obtain⟨e1,h1,h2⟩:=h k (List.mem_range.mp hk)
  exact⟨e1,h1,rfl,fun _=>h2⟩
theorem mj{i:Int}(h0:-1000≤i)(h1:i≤1000):okR i:=by unfold okR;omega
theorem mW{i j:Int}(h0:-(2 ^ 64) < i)(h1:i < 2 ^ 64):xG i j:=.inl ⟨h0,h1⟩
theorem xF{i j:Int}(h0:-(2 ^ 64) < j)(h1:j < 2 ^ 64):xG i j:=.inr ⟨h0,h1⟩
theorem cQ{j:Int}(h0:0 < j)(h1:j < 2 ^ 64):xH j:=by
 refine⟨h0,?_⟩
 have h2:j.natAbs < 2 ^ 64:=by omega
 have h3:j.natAbs≠0:=by omega
 have:=(Nat.log2_lt h3).mpr h2
 omega
end Mi
namespace Mr
open PySem Mi
open My (words lB lO sJ jd oH qF ud)
theorem DN(n:Int):cz (.str fG) (.int (n % 26))=.ok (.str (S' [sJ n])):=by
 show aU _ _=_
 rw[aq SQ,ZC];rfl
theorem Dg(l:List Nat)(h:l.length≤8):Rt (.str "") (.lst (l.map fun x=>D.str (S' [x])))=.ok (.str (S' l)):=by
 show (t8 (pH (l.map fun x=>D.str (S' [x])))).bind _=_
 have e:l.map (fun x=>D.str (S' [x]))=(l.map fun x=>S' [x]).map D.str:=by rw[List.map_map];rfl
 rw[e,rF,jy,aG,aq ?_,join_ones]
 have h1:((l.map fun x=>S' [x]).map (·.length)).sum=l.length:=by
  clear h e
  induction l with
  | nil=>rfl
  | cons a r ih=>rw[List.map_cons,List.map_cons,List.sum_cons,ih,pI,List.length_cons];simp;omega
 have h2:("" : Str).length=0:=by decide +kernel
 rw[h1,h2];omega
theorem st1(c:Int)(k:Nat)(d32:xH 32)(m5:xG 5 (k:Int))(mk:xG (k:Int) k):(m2 cG (m2 cG (m2 iZ (mV 1) (mC (.int 32))) (m2 dM (mC (.int 5)) (mV 2))) (m2 dM (mV 2) (mV 2))) [some (.d (.str fG)),some (.d (.int c)),some (.d (.int k))]=.ok (.int (c / 32+5 * (k:Int)+(k:Int) * (k:Int))) :=
 (aF (aF (aF rfl rfl (aq d32)) (aF rfl rfl (aq m5)) rfl) (aF rfl rfl (aq mk)) rfl)
theorem st2(c:Int)(e:Mi.Env)(a:E)(h:a e=.ok (.int c))(h0:e[0]? = some (some (.d (.str fG)))):m2 cz (mV 0) (m2 cX a (mC (.int 26))) e=.ok (.str (S' [sJ c])) :=
 aF (x:=.str fG) (by unfold mV;rw[h0]) (aF h rfl (aq (by decide))) (DN _)
theorem VP{k n:Nat}(h:k < n)(h8:n < 8):xG (k:Int) k:=mW (by omega) (by omega)
theorem size_of(c:Int):∃ n:Nat,c / 4 % 8=(n:Int)∧n < 8:=by
 have z1:=Int.emod_nonneg (c / 4) (b:=8) (by decide)
 have z2:=Int.emod_lt_of_pos (c / 4) (b:=8) (by decide)
 exact⟨(c / 4 % 8).toNat,by omega,by omega⟩
theorem at_of(c:Int)(n:Nat):∃ t:Nat,c / 256 % ((n:Int)+1)=(t:Int)∧t≤n:=by
 have z3:=Int.emod_nonneg (c / 256) (b:=(n:Int)+1) (by omega)
 have z4:=Int.emod_lt_of_pos (c / 256) (b:=(n:Int)+1) (by omega)
 exact⟨(c / 256 % ((n:Int)+1)).toNat,by omega,by omega⟩
theorem Ut(c:Int)(m:Nat)(hm:m≤8):qW [.d (.int c),.d (.int (m:Int))]=.ok (.d (bT ((words c m).map S'))):=by
 unfold qW GK
 rw[Tj]
 have hr8:okR 8:=mj (by decide) (by decide)
 have hrm:okR (m:Int):=mj (by omega) (by omega)
 have hl0:(PySem.Str.ofString "etaoinshrdlucmfwypvbgkqjxz")=fG:=rfl
 have g4:∀ r:Rs D,aU ((0:Int) < 4) r=r:=fun r=>aq (by decide)
 have g26:∀ r:Rs D,aU ((0:Int) < 26) r=r:=fun r=>aq (by decide)
 have g8:∀ r:Rs D,aU ((0:Int) < 8) r=r:=fun r=>aq (by decide)
 by_cases c1:c % 4 < 2
 ·have Rc:dN (.n 2) jM (m2 cz (mV 0) (m2 cX (m2 iZ (mV 1) (m2 cG (mC (.int 4)) (m2 dM (mC (.int 3)) (mV 2)))) (mC (.int 26)))) [some (.d (.str fG)),some (.d (.int c)),none] (du 0 8)=.ok ((lB c).map fun x=>D.str (S' [x])):=by
   have:=mJ (tg:=.n 2) (a:=m2 cz (mV 0) (m2 cX (m2 iZ (mV 1) (m2 cG (mC (.int 4)) (m2 dM (mC (.int 3)) (mV 2)))) (mC (.int 26)))) (e:=[some (.d (.str fG)),some (.d (.int c)),none]) (fun k=>D.str (S' [sJ (c / (4+3 * (k:Int)))])) 8 fun k hk=>⟨[some (.d (.str fG)),some (.d (.int c)),some (.d (.int k))],rfl,by
    simp only[m2,mV,List.getElem?_cons_zero,List.getElem?_cons_succ,mC,aG,Iv]
    rw[aq (mW (by decide) (by decide))]
    simp only[aG,wG,div_ii]
    rw[aq (cQ (by omega) (by omega))]
    simp only[aG,nQ,g26,DN]⟩
   rw[show ((8:Nat):Int)=8 from rfl] at this
   rw[this]
   unfold lB
   rw[List.map_map];rfl
  have hp:tM [some 2,some 0,none] [some (.d (.int c)),some (.d (.int (m:Int))),some (.d (.str fG)),none,none,none,none]=[some (.d (.str fG)),some (.d (.int c)),none]:=rfl
  have hj:=Dg (lB c) (by rw[jd];omega)
  have hw8:(du 0 8).length≤16777216:=by rw[show (8:Int)=((8:Nat):Int) from rfl,iQ];omega
  have hwm:(du 0 (m:Int)).length≤16777216:=by rw[iQ];omega
  by_cases c2:c % 4=0
  ·have hc:dN (.n 1) jM (jh Tu (mV 0) none (some (m2 cG (mV 1) (mC (.int 1))))) [some (.d (.str (S' (lB c)))),none] (du 0 (m:Int))=.ok ((words c m).map fun l=>D.str (S' l)):=by
    rw[mJ (fun k=>D.str (S' ((lB c).take (k+1)))) m fun k hk=>⟨[some (.d (.str (S' (lB c)))),some (.d (.int k))],rfl,by
     simp only[jh,mV,List.getElem?_cons_zero,q8,m2,List.getElem?_cons_succ,mC,aG,wG,G4,aaP]
     rw[aq (by rw[pI,jd];omega),show (k:Int)+1=((k+1:Nat):Int) by omega,zU]⟩]
    unfold words
    rw[if_pos c1,if_pos c2,List.map_map];rfl
   have hp2:∀ z,tM [some 3,none] [some (.d (.int c)),some (.d (.int (m:Int))),some (.d (.str fG)),some z,none,none,none]=[some z,none]:=fun _=>rfl
   have hmod:cB (m2 J2 (m2 cX (mV 0) (mC (.int 4))) (mC (.int 2))) [some (.d (.int c)),some (.d (.int (m:Int))),some (.d (.str fG)),none,none,none,none]=.ok true :=
    bZ ((aF (aF rfl rfl (g4 _)) rfl rfl).trans (by rw[V9,decide_eq_true c1]))
   have Wr:cB (m2 oK (m2 cX (mV 0) (mC (.int 4))) (mC (.int 0))) [some (.d (.int c)),some (.d (.int (m:Int))),some (.d (.str fG)),some (.d (.str (S' (lB c)))),none,none,none]=.ok true :=
    bZ ((aF (aF rfl rfl (g4 _)) rfl rfl).trans (by rw[qd,decide_eq_true c2]))
   show Rs.bind _ sV=_
   rw[aL (e':=[some (.d (.int c)),some (.d (.int (m:Int))),some (.d (.str fG)),none,none,none,none]) (bj rfl)]
   refine(congrArg (fun r=>Rs.bind r sV) (um (w:=.d (bT ((words c m).map S'))) ?_)).trans rfl
   rw[lH hmod,aL (e':=[some (.d (.int c)),some (.d (.int (m:Int))),some (.d (.str fG)),some (.d (.str (S' (lB c)))),none,none,none]) (bj (aF rfl (cY (lX rfl hr8) hw8 Rc) hj))]
   rw[um ((lH Wr).trans (dm (cu (cY (lX rfl hrm) hwm hc))))]
   rw[bT,List.map_map]
   rfl
  ·have hc:dN (.n 1) jM (jh Tu (mV 0) (some (m2 Js (mC (.int 7)) (mV 1))) none) [some (.d (.str (S' (lB c)))),none] (du 0 (m:Int))=.ok ((words c m).map fun l=>D.str (S' l)):=by
    rw[mJ (fun k=>D.str (S' ((lB c).drop (7 - k)))) m fun k hk=>⟨[some (.d (.str (S' (lB c)))),some (.d (.int k))],rfl,by
     simp only[jh,mV,List.getElem?_cons_zero,q8,m2,mC,List.getElem?_cons_succ,aG,aaL,G4,aaP]
     rw[aq (by rw[pI,jd];omega),show (7:Int) - (k:Int)=((7 - k:Nat):Int) by omega,zT]⟩]
    unfold words
    rw[if_pos c1,if_neg c2,List.map_map];rfl
   have hp2:∀ z,tM [some 3,none] [some (.d (.int c)),some (.d (.int (m:Int))),some (.d (.str fG)),some z,none,none,none]=[some z,none]:=fun _=>rfl
   have hmod:cB (m2 J2 (m2 cX (mV 0) (mC (.int 4))) (mC (.int 2))) [some (.d (.int c)),some (.d (.int (m:Int))),some (.d (.str fG)),none,none,none,none]=.ok true :=
    bZ ((aF (aF rfl rfl (g4 _)) rfl rfl).trans (by rw[V9,decide_eq_true c1]))
   have Wr:cB (m2 oK (m2 cX (mV 0) (mC (.int 4))) (mC (.int 0))) [some (.d (.int c)),some (.d (.int (m:Int))),some (.d (.str fG)),some (.d (.str (S' (lB c)))),none,none,none]=.ok false :=
    bZ ((aF (aF rfl rfl (g4 _)) rfl rfl).trans (by rw[qd,decide_eq_false c2]))
   show Rs.bind _ sV=_
   rw[aL (e':=[some (.d (.int c)),some (.d (.int (m:Int))),some (.d (.str fG)),none,none,none,none]) (bj rfl)]
   refine(congrArg (fun r=>Rs.bind r sV) (um (w:=.d (bT ((words c m).map S'))) ?_)).trans rfl
   rw[lH hmod,aL (e':=[some (.d (.int c)),some (.d (.int (m:Int))),some (.d (.str fG)),some (.d (.str (S' (lB c)))),none,none,none]) (bj (aF rfl (cY (lX rfl hr8) hw8 Rc) hj))]
   rw[aL (fO Wr),dm (cu (cY (lX rfl hrm) hwm hc))]
   rw[bT,List.map_map]
   rfl
 ·obtain⟨n,hn,hn8⟩:=size_of c
  obtain⟨t,ht,ht8⟩:=at_of c n
  have hrn:okR (n:Int):=mj (by omega) (by omega)
  have d4:xH 4:=cQ (by decide) (by decide)
  have d32:xH 32:=cQ (by decide) (by decide)
  have aeP:xH 256:=cQ (by decide) (by decide)
  have d7:xH 7:=cQ (by decide) (by decide)
  have adp:dN (.n 2) jM (m2 cz (mV 0) (m2 cX (m2 cG (m2 cG (m2 iZ (mV 1) (mC (.int 32))) (m2 dM (mC (.int 5)) (mV 2))) (m2 dM (mV 2) (mV 2))) (mC (.int 26)))) [some (.d (.str fG)),some (.d (.int c)),none] (du 0 (n:Int))=.ok ((lO c n).map fun x=>D.str (S' [x])):=by
   rw[mJ (fun k=>D.str (S' [sJ (c / 32+5 * (k:Int)+(k:Int) * (k:Int))])) n fun k hk=>⟨[some (.d (.str fG)),some (.d (.int c)),some (.d (.int k))],rfl,by
    exact st2 _ _ _ (st1 c k d32 (mW (by decide) (by decide)) (VP hk hn8)) rfl⟩]
   unfold lO
   rw[List.map_map];rfl
  have hp:tM [some 2,some 0,none] [some (.d (.int c)),some (.d (.int (m:Int))),some (.d (.str fG)),none,some (.d (.int (n:Int))),none,none]=[some (.d (.str fG)),some (.d (.int c)),none]:=rfl
  have hj:=Dg (lO c n) (by rw[oH];omega)
  have hwn:(du 0 (n:Int)).length≤16777216:=by rw[iQ];omega
  have hwm:(du 0 (m:Int)).length≤16777216:=by rw[iQ];omega
  have hc:dN (.n 4) jM (m2 cG (m2 cG (jh Tu (mV 0) none (some (mV 2))) (m2 cz (mV 1) (m2 cX (m2 cG (m2 iZ (mV 3) (mC (.int 7))) (m2 dM (mC (.int 5)) (mV 4))) (mC (.int 26))))) (jh Tu (mV 0) (some (mV 2)) none))
   [some (.d (.str (S' (lO c n)))),some (.d (.str fG)),some (.d (.int (t:Int))),some (.d (.int c)),none] (du 0 (m:Int))=.ok ((words c m).map fun l=>D.str (S' l)):=by
   rw[mJ (fun k=>D.str (S' ((lO c n).take t++[sJ (c / 7+5 * (k:Int))]++(lO c n).drop t))) m fun k hk=>⟨[some (.d (.str (S' (lO c n)))),some (.d (.str fG)),some (.d (.int (t:Int))),some (.d (.int c)),some (.d (.int k))],rfl,by
    have gS:∀ r:Rs D,aU ((S' (lO c n)).length≤16777216) r=r:=fun r=>aq (by rw[pI,oH];omega)
    have gM:∀ r:Rs D,aU (xG 5 (k:Int)) r=r:=fun r=>aq (mW (by decide) (by decide))
    simp only[m2,jh,mV,List.getElem?_cons_zero,q8,List.getElem?_cons_succ,aG,G4,aaP,zU,gS,mC,div_ii,aq d7,Iv,gM,wG,nQ,g26,DN,XH,zT]
    rw[aq (by rw[pI,pI,List.length_take,oH];simp;omega)]
    simp only[aca,aG,XH]
    rw[aq (by rw[pI,pI,List.length_append,List.length_take,List.length_drop,oH];simp;omega)]⟩]
   unfold words
   rw[if_neg c1,List.map_map,hn,ht]
   rfl
  have hmod:cB (m2 J2 (m2 cX (mV 0) (mC (.int 4))) (mC (.int 2))) [some (.d (.int c)),some (.d (.int (m:Int))),some (.d (.str fG)),none,none,none,none]=.ok false :=
   bZ ((aF (aF rfl rfl (g4 _)) rfl rfl).trans (by rw[V9,decide_eq_false c1]))
  show Rs.bind _ sV=_
  rw[aL (e':=[some (.d (.int c)),some (.d (.int (m:Int))),some (.d (.str fG)),none,none,none,none]) (bj rfl)]
  rw[aL (fO hmod)]
  rw[aL (e':=[some (.d (.int c)),some (.d (.int (m:Int))),some (.d (.str fG)),none,some (.d (.int (n:Int))),none,none]) (bj (d:=.int (n:Int)) ((aF (aF rfl rfl (aq d4)) rfl (g8 _)).trans (by rw[hn])))]
  rw[aL (e':=[some (.d (.int c)),some (.d (.int (m:Int))),some (.d (.str fG)),none,some (.d (.int (n:Int))),some (.d (.str (S' (lO c n)))),none]) (bj (aF rfl (cY (lX rfl hrn) hwn adp) hj))]
  rw[aL (e':=[some (.d (.int c)),some (.d (.int (m:Int))),some (.d (.str fG)),none,some (.d (.int (n:Int))),some (.d (.str (S' (lO c n)))),some (.d (.int (t:Int)))]) (bj (d:=.int (t:Int)) ((aF (aF rfl rfl (aq aeP)) (aF rfl rfl rfl) (aq (by omega))).trans (by rw[ht])))]
  rw[dm (cu (cY (lX rfl hrm) hwm hc))]
  simp only[aG,Yv,bT,List.map_map]
  rfl
end Mr
namespace Mr
open PySem Mi
open My (words qF ud)
theorem Yh(n:Nat)(h:n≤8):okR (n:Int):=mj (by omega) (by omega)
theorem Ov{ls:List Int}{z:Int}(h0:0≤z)(h1:z < ls.length)(hl:ls.length≤100):Qy (ls.map D.int) z=.ok (.int (ls.getD z.toNat 0),(ls.eraseIdx z.toNat).map D.int):=by
 have h3:z.toNat < ls.length:=by omega
 unfold Qy
 rw[aq (by omega),show J0 (ls.map D.int).length z=some z.toNat by
  unfold J0
  rw[if_pos h0,if_pos (by rw[List.length_map];exact h1)],jy,aG,List.getElem?_map,List.getElem?_eq_getElem h3,List.getD_eq_getElem?_getD,List.getElem?_eq_getElem h3]
 show Rs.ok (D.int ls[z.toNat],(ls.map D.int).eraseIdx z.toNat)=_
 have:∀ (l:List Int) (k:Nat),(l.map D.int).eraseIdx k=(l.eraseIdx k).map D.int:=by
  intro l
  induction l with
  | nil=>intro k;rfl
  | cons a r ih =>
   intro k
   cases k with
   | zero=>rfl
   | succ k=>rw[List.map_cons,List.eraseIdx_cons_succ,ih k];rfl
 rw[this];rfl
theorem yM(e:Mi.Env):mN fP [] e=.ok (.lst []):=by
 show aU (([]:List D).length≤16777216) (Rs.ok (D.lst []))=_
 exact aq (by simp)
end Mr
namespace Mr
open PySem Mi
end Mr
namespace Mr
open PySem Mi
abbrev Ix:=Nat×Nat
def jJ(p q:Ix):Prop:=p.1 < q.1∨(p.1=q.1∧p.2 < q.2)
def nth(names:List Str)(i:Nat):Str:=names.getD i Str.empty
def arrOf(names:List Str)(p:Ix):Ar:=(nth names p.1,nth names p.2)
structure pJ(names:List Str)(A:List Ix)(r:Nat→Int):Prop where
 nd:names.Nodup
 pos:1≤names.length
 le:names.length≤8
 kj:A.Pairwise jJ
 all:∀ p∈A,p.1 < names.length∧p.2 < names.length∧r p.1 < r p.2
 al:A.length≤64
theorem pZ{names:List Str}{i:Nat}(h:i < names.length):nth names i∈names:=by
 unfold nth
 rw[List.getD_eq_getElem?_getD,List.getElem?_eq_getElem h]
 exact List.getElem_mem h
theorem j6{names:List Str}(nd:names.Nodup){i j:Nat}(hi:i < names.length)(hj:j < names.length)(h:nth names i=nth names j):i=j:=by
 unfold nth at h
 rw[List.getD_eq_getElem?_getD,List.getElem?_eq_getElem hi,List.getD_eq_getElem?_getD,List.getElem?_eq_getElem hj] at h
 exact(List.getElem_inj nd).mp h
theorem Ip{names:List Str}{x:Str}(h:x∈names):∃ i,i < names.length∧nth names i=x:=by
 obtain⟨i,hi,e⟩:=List.getElem_of_mem h
 refine⟨i,hi,?_⟩
 unfold nth
 rw[List.getD_eq_getElem?_getD,List.getElem?_eq_getElem hi];exact e
theorem pJ.gK{names:List Str}{A:List Ix}{r:Nat→Int}(N:pJ names A r):Ue names (A.map (arrOf names)):=by
 refine⟨N.nd,N.pos,N.le,by rw[List.length_map];exact N.al,fun p hp=>?_,fun x=>r (names.idxOf x),fun p hp=>?_⟩
 ·obtain⟨q,hq,rfl⟩:=List.mem_map.mp hp
  exact pZ (N.all q hq).1
 ·obtain⟨q,hq,rfl⟩:=List.mem_map.mp hp
  obtain⟨h1,h2,h3⟩:=N.all q hq
  have key:∀ i,i < names.length→names.idxOf (nth names i)=i:=fun i hi=>by
   have hm:=pZ hi
   have hl:names.idxOf (nth names i) < names.length:=List.idxOf_lt_length_of_mem hm
   refine j6 N.nd hl hi ?_
   have h4:names[names.idxOf (nth names i)]=nth names i:=List.getElem_idxOf hl
   show names.getD (names.idxOf (nth names i)) Str.empty=_
   rw[List.getD_eq_getElem?_getD,List.getElem?_eq_getElem hl]
   exact h4
  show r (names.idxOf (nth names q.1)) < r (names.idxOf (nth names q.2))
  rw[key _ h1,key _ h2];exact h3
def good(m:Nat)(r:Nat→Int)(A:List Ix)(j k:Nat):Prop:=A.Pairwise jJ∧(∀ p∈A,p.1 < m∧p.2 < m∧r p.1 < r p.2∧(p.1 < j∨(p.1=j∧p.2 < k)))∧A.length≤8 * j+k
theorem good.skip{m:Nat}{r:Nat→Int}{A:List Ix}{j k:Nat}(h:good m r A j k):good m r A j (k+1) :=
 ⟨h.1,fun p hp=>⟨(h.2.1 p hp).1,(h.2.1 p hp).2.1,(h.2.1 p hp).2.2.1,by have:=(h.2.1 p hp).2.2.2;omega⟩,by have:=h.2.2;omega⟩
theorem good.add{m:Nat}{r:Nat→Int}{A:List Ix}{j k:Nat}(h:good m r A j k)(hj:j < m)(hk:k < m)(hr:r j < r k):good m r (A++[(j,k)]) j (k+1):=by
 refine⟨List.pairwise_append.mpr ⟨h.1,List.pairwise_singleton _ _,fun p hp q hq=>?_⟩,fun p hp=>?_,by rw[List.length_append];have:=h.2.2;simp;omega⟩
 ·have:q=(j,k):=by simpa using hq
  subst this
  have:=(h.2.1 p hp).2.2.2
  exact this
 ·rcases List.mem_append.mp hp with hp|hp
  ·exact(h.skip.2.1 p hp)
  ·have:p=(j,k):=by simpa using hp
   subst this
   exact⟨hj,hk,hr,.inr ⟨rfl,by omega⟩⟩
theorem good.next{m:Nat}{r:Nat→Int}{A:List Ix}{j k:Nat}(h:good m r A j k)(hk:k≤8):good m r A (j+1) 0 :=
 ⟨h.1,fun p hp=>⟨(h.2.1 p hp).1,(h.2.1 p hp).2.1,(h.2.1 p hp).2.2.1,by have:=(h.2.1 p hp).2.2.2;omega⟩,by have:=h.2.2;omega⟩
def wF(names:List Str)(A:List Ix):D:=.lst ((A.map (arrOf names)).map pairD)
theorem aaH{a:Int}(h0:0≤a)(h1:a < 8):-(2 ^ 64) < a∧a < 2 ^ 64∧0≤a * (a - 1) / 2∧a * (a - 1) / 2≤21:=by
 have:a=0∨a=1∨a=2∨a=3∨a=4∨a=5∨a=6∨a=7:=by omega
 rcases this with h|h|h|h|h|h|h|h<;>subst h<;>decide
end Mr
namespace Mr
open PySem Mi
open My (words qF ud)
theorem vh(ns:List Int)(k:Nat)(hk:k≤100):∃ c:Int,gh [.d (.lst (ns.map D.int)),.d (.int (k:Int))]=.ok (.d (.int c)):=by
 unfold gh M6
 rw[sW]
 have hl:mN gB [mV 0] [some (.d (.lst (ns.map D.int))),some (.d (.int (k:Int))),none]=.ok (.int (ns.length:Int)):=by show Rs.ok (D.int ((ns.map D.int).length:Int))=_;rw[List.length_map]
 have c1:cB (m2 J2 (mV 1) (mN gB [(mV 0)])) [some (.d (.lst (ns.map D.int))),some (.d (.int (k:Int))),none]=.ok (decide ((k:Int) < (ns.length:Int))):=bZ (aF rfl hl rfl)
 by_cases h:(k:Int) < (ns.length:Int)
 ·rw[decide_eq_true h] at c1
  exact⟨_,by
   rw[show ([some (W.d (.lst (ns.map D.int))),some (.d (.int (k:Int)))]++List.replicate (3 - 2) none)=[some (.d (.lst (ns.map D.int))),some (.d (.int (k:Int))),none] from rfl]
   rw[um ((lH c1).trans (dm (cu (aF rfl rfl (Bj (by omega) h)))))];rfl⟩
 ·rw[decide_eq_false h] at c1
  have s1:bL 2 (m2 cG (mC (.int 30011)) (m2 dM (m2 dM (mC (.int 709)) (mV 1)) (mV 1))) [some (.d (.lst (ns.map D.int))),some (.d (.int (k:Int))),none]=.ok (.nx [some (.d (.lst (ns.map D.int))),some (.d (.int (k:Int))),some (.d (.int (30011+709 * (k:Int) * (k:Int))))]) :=
   bj (aF rfl (aF (aF rfl rfl (aq (mW (by decide) (by decide)))) rfl (aq (xF (by omega) (by omega)))) rfl)
  have hl2:mN gB [mV 0] [some (.d (.lst (ns.map D.int))),some (.d (.int (k:Int))),some (.d (.int (30011+709 * (k:Int) * (k:Int))))]=.ok (.int (ns.length:Int)):=by show Rs.ok (D.int ((ns.map D.int).length:Int))=_;rw[List.length_map]
  have c2:cB (m2 XX (mN gB [(mV 0)]) (mC (.int 0))) [some (.d (.lst (ns.map D.int))),some (.d (.int (k:Int))),some (.d (.int (30011+709 * (k:Int) * (k:Int))))]=.ok (decide ((0:Int) < (ns.length:Int))):=bZ (aF hl2 rfl rfl)
  by_cases h0:(0:Int) < (ns.length:Int)
  ·rw[decide_eq_true h0] at c2
   refine⟨_,by
    rw[show ([some (W.d (.lst (ns.map D.int))),some (.d (.int (k:Int)))]++List.replicate (3 - 2) none)=[some (.d (.lst (ns.map D.int))),some (.d (.int (k:Int))),none] from rfl]
    rw[aL ((fO c1).trans rfl),aL s1,aL ((lH c2).trans (bj (aF rfl (aF (aF (aF rfl rfl (Bj (by decide) h0)) rfl (aq (by decide))) (aF (aF (aF rfl rfl (aq (mW (by omega) (by omega)))) (aF rfl rfl (aq (mW (by decide) (by decide)))) rfl) rfl rfl) (aq (mW ?_ ?_))) rfl)))]
    rfl⟩
   ·have:=Int.emod_nonneg (ns.getD (0:Int).toNat 0) (b:=99991) (by decide);omega
   ·have:=Int.emod_lt_of_pos (ns.getD (0:Int).toNat 0) (b:=99991) (by decide);omega
  ·rw[decide_eq_false h0] at c2
   exact⟨_,by
    rw[show ([some (W.d (.lst (ns.map D.int))),some (.d (.int (k:Int)))]++List.replicate (3 - 2) none)=[some (.d (.lst (ns.map D.int))),some (.d (.int (k:Int))),none] from rfl]
    rw[aL ((fO c1).trans rfl),aL s1,aL ((fO c2).trans rfl)]
    rfl⟩
theorem R7(d:Int)(m:Nat)(hm:m≤8):∃ rs:List Int,mZ [.d (.int d),.d (.int (m:Int))]=.ok (.d (.lst (rs.map D.int)))∧rs.length=m:=by
 unfold mZ zX
 rw[Tj]
 have hw:(du 0 (m:Int)).length≤16777216:=by rw[iQ];omega
 have hc:dN (.n 0) jM (mV 0) [none] (du 0 (m:Int))=.ok ((List.range m).map fun (k:Nat)=>D.int (k:Int)) :=
  mJ (fun k=>D.int (k:Int)) m fun k _=>⟨[some (.d (.int k))],rfl,rfl⟩
 have hr:((List.range m).map fun (k:Nat)=>D.int (k:Int))=((List.range m).map fun (k:Nat)=>(k:Int)).map D.int:=by rw[List.map_map];rfl
 rw[hr] at hc
 obtain⟨e',h1,h2⟩:=qb (tg:=.n 5) (body:=aW (bL 4 (m2 cX (m2 cG (m2 cG (m2 dM (mV 4) (mC (.int 48271))) (m2 dM (mC (.int 7)) (mV 5))) (mC (.int 1))) (mC (.int 2147483647)))) (rW 3 2 (m2 cX (m2 iZ (mV 4) (mC (.int 32))) (mN gB [(mV 2)]))))
  (fun i e=>∃ (x:Int) (ls rs:List Int) (o:Option W),e=[some (.d (.int d)),some (.d (.int (m:Int))),some (.d (.lst (ls.map D.int))),some (.d (.lst (rs.map D.int))),some (.d (.int x)),o]∧ls.length+i=m∧rs.length=i) (du 0 (m:Int)) 0 (fun i x e hx ⟨x0,ls,rs,o,he,hl,hrs⟩=>by
   obtain⟨hi,rfl⟩:=sZ hx
   subst he
   rw[Nat.zero_add] at hl hrs
   have hpos:(0:Int) < (ls.length:Int):=by omega
   obtain⟨y,hy⟩ : ∃ y,y=(x0 * 48271+7 * (i:Int)+1) % 2147483647:=⟨_,rfl⟩
   have z1:=Int.emod_nonneg (y / 32) (b:=(ls.length:Int)) (by omega)
   have z2:=Int.emod_lt_of_pos (y / 32) hpos
   refine⟨[some (.d (.int d)),some (.d (.int (m:Int))),some (.d (.lst (ls.map D.int))),some (.d (.lst (rs.map D.int))),some (.d (.int x0)),some (.d (.int (i:Int)))],[some (.d (.int d)),some (.d (.int (m:Int))),some (.d (.lst ((ls.eraseIdx (y / 32 % (ls.length:Int)).toNat).map D.int))),some (.d (.lst ((rs++[ls.getD (y / 32 % (ls.length:Int)).toNat 0]).map D.int))),some (.d (.int y)),some (.d (.int (i:Int)))],rfl,?_,y,ls.eraseIdx (y / 32 % (ls.length:Int)).toNat,rs++[ls.getD (y / 32 % (ls.length:Int)).toNat 0],some (.d (.int (i:Int))),rfl,?_,?_⟩
   ·have h0:m2 cX (m2 iZ (mV 4) (mC (.int 32))) (mN gB [(mV 2)]) [some (.d (.int d)),some (.d (.int (m:Int))),some (.d (.lst (ls.map D.int))),some (.d (.lst (rs.map D.int))),some (.d (.int y)),some (.d (.int (i:Int)))]=.ok (.int (y / 32 % (ls.length:Int))) :=
     aF (x:=.int (y / 32)) (y:=.int (ls.length:Int)) (aF rfl rfl (aq (cQ (by decide) (by decide)))) (by show Rs.ok (D.int ((ls.map D.int).length:Int))=_;rw[List.length_map]) (aq hpos)
    rw[aL (e':=[some (.d (.int d)),some (.d (.int (m:Int))),some (.d (.lst (ls.map D.int))),some (.d (.lst (rs.map D.int))),some (.d (.int y)),some (.d (.int (i:Int)))])]
    ·unfold rW
     rw[h0]
     simp only[aG,G4,getL,List.getElem?_cons_succ,List.getElem?_cons_zero,Ov z1 z2 (by omega),putL,List.set_cons_succ,List.set_cons_zero]
     rw[aq (by rw[List.length_map];omega),List.map_append]
     rfl
    ·rw[hy]
     exact bj (aF (aF (aF (aF rfl rfl (aq (xF (by decide) (by decide)))) (aF rfl rfl (aq (mW (by decide) (by decide)))) rfl) rfl rfl) rfl (aq (by decide)))
   ·rw[List.length_eraseIdx_of_lt (by omega)];omega
   ·rw[List.length_append,hrs];simp) [some (.d (.int d)),some (.d (.int (m:Int))),some (.d (.lst (((List.range m).map fun (k:Nat)=>(k:Int)).map D.int))),some (.d (.lst [])),some (.d (.int (d % 2147483647))),none] ⟨_,_,[],none,rfl,by simp,rfl⟩
 obtain⟨d2,ls,rs,o,he,hl,hrs⟩:=h2
 subst he
 rw[iQ,Nat.zero_add] at hl hrs
 refine⟨rs,?_,hrs⟩
 rw[aL (e':=[some (.d (.int d)),some (.d (.int (m:Int))),some (.d (.lst (((List.range m).map fun (k:Nat)=>(k:Int)).map D.int))),none,none,none]) (bj (cY (lX rfl (Yh m hm)) hw hc))]
 rw[aL (e':=[some (.d (.int d)),some (.d (.int (m:Int))),some (.d (.lst (((List.range m).map fun (k:Nat)=>(k:Int)).map D.int))),some (.d (.lst [])),none,none]) (bj (yM _))]
 rw[aL (e':=[some (.d (.int d)),some (.d (.int (m:Int))),some (.d (.lst (((List.range m).map fun (k:Nat)=>(k:Int)).map D.int))),some (.d (.lst [])),some (.d (.int (d % 2147483647))),none]) (bj (aF rfl rfl (aq (by decide))))]
 rw[aL ((iD (lX rfl (Yh m hm))).trans h1)]
 rfl
end Mr
namespace Mr
open PySem Mi
open My (words qF ud)
theorem Xb(ns:List Int){e:Mi.Env}{j k:Nat}(hj:j < 8)(hk:k < 8)(e0:mV 0 e=.ok (.lst (ns.map D.int)))(e7:mV 7 e=.ok (.int (j:Int)))(e8:mV 8 e=.ok (.int (k:Int))):∃ c:Int,(aR gh [(wD (mV 0)),(wD (m2 cG (m2 cG (mC (.int 4)) (m2 iZ (m2 dM (mN zf [(mV 7),(mV 8)]) (m2 Js (mN zf [(mV 7),(mV 8)]) (mC (.int 1)))) (mC (.int 2)))) (mN M9 [(mV 7),(mV 8)])))]) e=.ok (.int c):=by
 have hx:mN zf [(mV 7),(mV 8)] e=.ok (.int (max (j:Int) (k:Int))):=(QL e7 e8).trans (abp _ _)
 have hn:mN M9 [(mV 7),(mV 8)] e=.ok (.int (min (j:Int) (k:Int))):=(QL e7 e8).trans (abn _ _)
 obtain⟨t1,t2,t3,t4⟩:=aaH (a:=max (j:Int) (k:Int)) (by omega) (by omega)
 obtain⟨z,hz⟩ : ∃ z:Nat,4+max (j:Int) (k:Int) * (max (j:Int) (k:Int) - 1) / 2+min (j:Int) (k:Int)=(z:Int):=⟨(4+max (j:Int) (k:Int) * (max (j:Int) (k:Int) - 1) / 2+min (j:Int) (k:Int)).toNat,by omega⟩
 obtain⟨c,hc⟩:=vh ns z (by omega)
 refine⟨c,call2 (cu e0) (cu (aF (aF rfl (aF (aF hx (aF hx rfl rfl) (aq (mW t1 t2))) rfl (aq (cQ (by decide) (by decide)))) rfl) hn rfl)) ?_⟩
 rw[hz];exact hc
theorem V5(ns:List Int)(hi:Nat)(h0:1≤hi)(h2:hi≤8) :
 ∃ names A r,qY [.d (.lst (ns.map D.int)),.d (.int (hi:Int))]=.ok (.d (aH names (A.map (arrOf names))))∧pJ names A r∧∃ (c:Int) (m:Nat),m≤8∧names=(words c m).map S':=by
 obtain⟨c0,hc0⟩:=vh ns 0 (by decide)
 obtain⟨c1,hc1⟩:=vh ns 1 (by decide)
 obtain⟨c2,hc2⟩:=vh ns 2 (by decide)
 obtain⟨c3,hc3⟩:=vh ns 3 (by decide)
 have hw:(0:Int) < (hi:Int):=by omega
 have q1:=Int.emod_nonneg c0 (b:=(hi:Int)) (by omega)
 have q2:=Int.emod_lt_of_pos c0 hw
 obtain⟨m,hm⟩ : ∃ m:Nat,1+c0 % (hi:Int)=(m:Int):=⟨(1+c0 % (hi:Int)).toNat,by omega⟩
 have hm1:1≤m:=by omega
 have hm2:m≤hi:=by omega
 have hm8:m≤8:=by omega
 obtain⟨names,hnm⟩ : ∃ names,names=(words c1 m).map S':=⟨_,rfl⟩
 have hn:=Ut c1 m hm8
 rw[← hnm] at hn
 have hnl:names.length=m:=by rw[hnm,List.length_map];exact qF c1 m
 have hnd:names.Nodup:=by rw[hnm];exact List.Pairwise.map _ (fun a b h z=>h (ab9 z)) (ud _ _ hm8)
 obtain⟨rs,hr,hrl⟩:=R7 c2 m hm8
 have q3:=Int.emod_nonneg c3 (b:=6) (by decide)
 have q4:=Int.emod_lt_of_pos c3 (b:=6) (by decide)
 obtain⟨th,hth⟩ : ∃ th,cz (.lst ([4,1,2,3,2,3].map D.int)) (.int (c3 % 6))=.ok (.int th):=⟨_,Bj q3 (by simp;omega)⟩
 have hrx:∀ i:Nat,i < m→cz (.lst (rs.map D.int)) (.int (i:Int))=.ok (.int (rs.getD i 0)):=fun i hi=>by
  have:=Bj (cs:=rs) (i:=(i:Int)) (by omega) (by omega)
  rwa [Int.toNat_natCast] at this
 have hnx:∀ i:Nat,i < m→cz (bT names) (.int (i:Int))=.ok (.str (nth names i)):=fun i hi=>by
  have:=Q7 (cs:=names) (i:=(i:Int)) (by omega) (by omega)
  rwa [Int.toNat_natCast] at this
 have inner:∀ (j:Nat) (A:List Ix) (o8 o9:Option W),j < m→good m (fun i=>rs.getD i 0) A j 0→∃ (A':List Ix) (p8 p9:Option W),rC (.n 8) (aW (bL 9 (aR gh [(wD (mV 0)),(wD (m2 cG (m2 cG (mC (.int 4)) (m2 iZ (m2 dM (mN zf [(mV 7),(mV 8)]) (m2 Js (mN zf [(mV 7),(mV 8)]) (mC (.int 1)))) (mC (.int 2)))) (mN M9 [(mV 7),(mV 8)])))])) (iI (nq (cB (m2 J2 (m2 cz (mV 4) (mV 7)) (m2 cz (mV 4) (mV 8)))) (cB (m2 J2 (m2 cX (m2 iZ (m2 cX (m2 dM (mV 9) (mC (.int 48271))) (mC (.int 2147483647))) (mC (.int 16))) (mC (.int 4))) (mV 5)))) (bU 6 (mN dTup [(m2 cz (mV 3) (mV 7)),(m2 cz (mV 3) (mV 8))])) bA)) (du 0 (m:Int)) [some (.d (.lst (ns.map D.int))),some (.d (.int (hi:Int))),some (.d (.int (m:Int))),some (.d (bT names)),some (.d (.lst (rs.map D.int))),some (.d (.int th)),some (.d (wF names A)),some (.d (.int (j:Int))),o8,o9]=.ok (.nx [some (.d (.lst (ns.map D.int))),some (.d (.int (hi:Int))),some (.d (.int (m:Int))),some (.d (bT names)),some (.d (.lst (rs.map D.int))),some (.d (.int th)),some (.d (wF names A')),some (.d (.int (j:Int))),p8,p9])∧good m (fun i=>rs.getD i 0) A' (j+1) 0:=by
  intro j A o8 o9 hj hg
  obtain⟨e',f1,A',p8,p9,he,hg'⟩:=qb (tg:=.n 8) (body:=(aW (bL 9 (aR gh [(wD (mV 0)),(wD (m2 cG (m2 cG (mC (.int 4)) (m2 iZ (m2 dM (mN zf [(mV 7),(mV 8)]) (m2 Js (mN zf [(mV 7),(mV 8)]) (mC (.int 1)))) (mC (.int 2)))) (mN M9 [(mV 7),(mV 8)])))])) (iI (nq (cB (m2 J2 (m2 cz (mV 4) (mV 7)) (m2 cz (mV 4) (mV 8)))) (cB (m2 J2 (m2 cX (m2 iZ (m2 cX (m2 dM (mV 9) (mC (.int 48271))) (mC (.int 2147483647))) (mC (.int 16))) (mC (.int 4))) (mV 5)))) (bU 6 (mN dTup [(m2 cz (mV 3) (mV 7)),(m2 cz (mV 3) (mV 8))])) bA))) (fun k e=>∃ (A:List Ix) (o8 o9:Option W),e=[some (.d (.lst (ns.map D.int))),some (.d (.int (hi:Int))),some (.d (.int (m:Int))),some (.d (bT names)),some (.d (.lst (rs.map D.int))),some (.d (.int th)),some (.d (wF names A)),some (.d (.int (j:Int))),o8,o9]∧good m (fun i=>rs.getD i 0) A j k)
   (du 0 (m:Int)) 0 (fun k x e hx ⟨A,o8,o9,he,hg⟩=>by
    obtain⟨hk,rfl⟩:=sZ hx
    subst he
    rw[Nat.zero_add] at hg
    obtain⟨c,hc⟩:=Xb ns (e:=[some (.d (.lst (ns.map D.int))),some (.d (.int (hi:Int))),some (.d (.int (m:Int))),some (.d (bT names)),some (.d (.lst (rs.map D.int))),some (.d (.int th)),some (.d (wF names A)),some (.d (.int (j:Int))),some (.d (.int (k:Int))),o9]) (j:=j) (k:=k) (by omega) (by omega) rfl rfl rfl
    have c1:cB (m2 J2 (m2 cz (mV 4) (mV 7)) (m2 cz (mV 4) (mV 8))) [some (.d (.lst (ns.map D.int))),some (.d (.int (hi:Int))),some (.d (.int (m:Int))),some (.d (bT names)),some (.d (.lst (rs.map D.int))),some (.d (.int th)),some (.d (wF names A)),some (.d (.int (j:Int))),some (.d (.int (k:Int))),some (.d (.int c))]=.ok (decide (rs.getD j 0 < rs.getD k 0)):=bZ (aF (aF rfl rfl (hrx j hj)) (aF rfl rfl (hrx k hk)) rfl)
    have c2:cB (m2 J2 (m2 cX (m2 iZ (m2 cX (m2 dM (mV 9) (mC (.int 48271))) (mC (.int 2147483647))) (mC (.int 16))) (mC (.int 4))) (mV 5)) [some (.d (.lst (ns.map D.int))),some (.d (.int (hi:Int))),some (.d (.int (m:Int))),some (.d (bT names)),some (.d (.lst (rs.map D.int))),some (.d (.int th)),some (.d (wF names A)),some (.d (.int (j:Int))),some (.d (.int (k:Int))),some (.d (.int c))]=.ok (decide (c * 48271 % 2147483647 / 16 % 4 < th)):=bZ (aF (aF (aF (aF (aF rfl rfl (aq (xF (by decide) (by decide)))) rfl (aq (by decide))) rfl (aq (cQ (by decide) (by decide)))) rfl (aq (by decide))) rfl rfl)
    by_cases hb:rs.getD j 0 < rs.getD k 0∧c * 48271 % 2147483647 / 16 % 4 < th
    ·refine⟨[some (.d (.lst (ns.map D.int))),some (.d (.int (hi:Int))),some (.d (.int (m:Int))),some (.d (bT names)),some (.d (.lst (rs.map D.int))),some (.d (.int th)),some (.d (wF names A)),some (.d (.int (j:Int))),some (.d (.int (k:Int))),o9],[some (.d (.lst (ns.map D.int))),some (.d (.int (hi:Int))),some (.d (.int (m:Int))),some (.d (bT names)),some (.d (.lst (rs.map D.int))),some (.d (.int th)),some (.d (wF names (A++[(j,k)]))),some (.d (.int (j:Int))),some (.d (.int (k:Int))),some (.d (.int c))],rfl,?_,A++[(j,k)],some (.d (.int (k:Int))),some (.d (.int c)),rfl,by rw[Nat.zero_add];exact hg.add hj hk hb.1⟩
     rw[aL (e':=[some (.d (.lst (ns.map D.int))),some (.d (.int (hi:Int))),some (.d (.int (m:Int))),some (.d (bT names)),some (.d (.lst (rs.map D.int))),some (.d (.int th)),some (.d (wF names A)),some (.d (.int (j:Int))),some (.d (.int (k:Int))),some (.d (.int c))]) (bj hc)]
     rw[lH (by unfold nq;rw[c1,aG,decide_eq_true hb.1,if_pos rfl,c2,decide_eq_true hb.2])]
     rw[rG (d:=pairD (nth names j,nth names k)) (ds:=(A.map (arrOf names)).map pairD) (kh (aF rfl rfl (hnx j hj)) (aF rfl rfl (hnx k hk))) rfl (by rw[List.length_map,List.length_map];have:=hg.2.2;omega)]
     show Rs.ok (Out.nx [_,_,_,_,_,_,some (W.d (D.lst ((A.map (arrOf names)).map pairD++[pairD (nth names j,nth names k)]))),_,_,_])=_
     rw[wF,List.map_append,List.map_append];rfl
    ·refine⟨[some (.d (.lst (ns.map D.int))),some (.d (.int (hi:Int))),some (.d (.int (m:Int))),some (.d (bT names)),some (.d (.lst (rs.map D.int))),some (.d (.int th)),some (.d (wF names A)),some (.d (.int (j:Int))),some (.d (.int (k:Int))),o9],[some (.d (.lst (ns.map D.int))),some (.d (.int (hi:Int))),some (.d (.int (m:Int))),some (.d (bT names)),some (.d (.lst (rs.map D.int))),some (.d (.int th)),some (.d (wF names A)),some (.d (.int (j:Int))),some (.d (.int (k:Int))),some (.d (.int c))],rfl,?_,A,some (.d (.int (k:Int))),some (.d (.int c)),rfl,by rw[Nat.zero_add];exact hg.skip⟩
     rw[aL (e':=[some (.d (.lst (ns.map D.int))),some (.d (.int (hi:Int))),some (.d (.int (m:Int))),some (.d (bT names)),some (.d (.lst (rs.map D.int))),some (.d (.int th)),some (.d (wF names A)),some (.d (.int (j:Int))),some (.d (.int (k:Int))),some (.d (.int c))]) (bj hc)]
     rw[fO (by
      unfold nq
      rw[c1,aG]
      by_cases hb1:rs.getD j 0 < rs.getD k 0
      ·rw[decide_eq_true hb1,if_pos rfl,c2,decide_eq_false fun z=>hb ⟨hb1,z⟩]
      ·rw[decide_eq_false hb1,if_neg Bool.false_ne_true])]
     rfl) _ ⟨A,o8,o9,rfl,hg⟩
  subst he
  rw[iQ,Nat.zero_add] at hg'
  exact⟨A',p8,p9,f1,hg'.next hm8⟩
 obtain⟨e',f1,A,p7,p8,p9,he,hg⟩:=qb (tg:=.n 7) (body:=(jR (eQ (mV 2)) (.n 8) (aW (bL 9 (aR gh [(wD (mV 0)),(wD (m2 cG (m2 cG (mC (.int 4)) (m2 iZ (m2 dM (mN zf [(mV 7),(mV 8)]) (m2 Js (mN zf [(mV 7),(mV 8)]) (mC (.int 1)))) (mC (.int 2)))) (mN M9 [(mV 7),(mV 8)])))])) (iI (nq (cB (m2 J2 (m2 cz (mV 4) (mV 7)) (m2 cz (mV 4) (mV 8)))) (cB (m2 J2 (m2 cX (m2 iZ (m2 cX (m2 dM (mV 9) (mC (.int 48271))) (mC (.int 2147483647))) (mC (.int 16))) (mC (.int 4))) (mV 5)))) (bU 6 (mN dTup [(m2 cz (mV 3) (mV 7)),(m2 cz (mV 3) (mV 8))])) bA)))) (fun j e=>∃ (A:List Ix) (o7 o8 o9:Option W),e=[some (.d (.lst (ns.map D.int))),some (.d (.int (hi:Int))),some (.d (.int (m:Int))),some (.d (bT names)),some (.d (.lst (rs.map D.int))),some (.d (.int th)),some (.d (wF names A)),o7,o8,o9]∧good m (fun i=>rs.getD i 0) A j 0)
  (du 0 (m:Int)) 0 (fun j x e hx ⟨A,o7,o8,o9,he,hg⟩=>by
   obtain⟨hj,rfl⟩:=sZ hx
   subst he
   rw[Nat.zero_add] at hg
   obtain⟨A',p8,p9,f1,hg'⟩:=inner j A o8 o9 hj hg
   exact⟨_,_,rfl,(iD (lX rfl (Yh m hm8))).trans f1,A',_,p8,p9,rfl,by rw[Nat.zero_add];exact hg'⟩)
  [some (.d (.lst (ns.map D.int))),some (.d (.int (hi:Int))),some (.d (.int (m:Int))),some (.d (bT names)),some (.d (.lst (rs.map D.int))),some (.d (.int th)),some (.d (.lst [])),none,none,none] ⟨[],none,none,none,rfl,List.Pairwise.nil,fun p hp=>absurd hp (by simp),Nat.zero_le _⟩
 subst he
 rw[iQ,Nat.zero_add] at hg
 refine⟨names,A,fun i=>rs.getD i 0,?_,⟨hnd,by omega,by omega,hg.1,fun p hp=>?_,by have:=hg.2.2;omega⟩,c1,m,hm8,hnm⟩
 ·unfold qY GP
  rw[sW]
  rw[show ((0:Nat):Int)=0 from rfl] at hc0
  rw[show ((1:Nat):Int)=1 from rfl] at hc1
  rw[show ((2:Nat):Int)=2 from rfl] at hc2
  rw[show ((3:Nat):Int)=3 from rfl] at hc3
  rw[aL (e':=[some (.d (.lst (ns.map D.int))),some (.d (.int (hi:Int))),some (.d (.int (m:Int))),none,none,none,none,none,none,none]) (bj (d:=.int (m:Int)) ((aF rfl (aF (call2 rfl rfl hc0) rfl (aq hw)) rfl).trans (by rw[wG,hm])))]
  rw[aL (e':=[some (.d (.lst (ns.map D.int))),some (.d (.int (hi:Int))),some (.d (.int (m:Int))),some (.d (bT names)),none,none,none,none,none,none]) (bj (call2 (cu (call2 rfl rfl hc1)) rfl hn))]
  rw[aL (e':=[some (.d (.lst (ns.map D.int))),some (.d (.int (hi:Int))),some (.d (.int (m:Int))),some (.d (bT names)),some (.d (.lst (rs.map D.int))),none,none,none,none,none]) (bj (call2 (cu (call2 rfl rfl hc2)) rfl hr))]
  have hl6:mN fP [(mC (.int 4)),(mC (.int 1)),(mC (.int 2)),(mC (.int 3)),(mC (.int 2)),(mC (.int 3))] [some (.d (.lst (ns.map D.int))),some (.d (.int (hi:Int))),some (.d (.int (m:Int))),some (.d (bT names)),some (.d (.lst (rs.map D.int))),none,none,none,none,none]=.ok (.lst ([4,1,2,3,2,3].map D.int)):=by
   show aU (([4,1,2,3,2,3].map D.int).length≤16777216) _=_
   exact aq (by simp)
  rw[aL (e':=[some (.d (.lst (ns.map D.int))),some (.d (.int (hi:Int))),some (.d (.int (m:Int))),some (.d (bT names)),some (.d (.lst (rs.map D.int))),some (.d (.int th)),none,none,none,none]) (bj (aF hl6 (aF (call2 rfl rfl hc3) rfl (aq (by decide))) hth))]
  rw[aL (e':=[some (.d (.lst (ns.map D.int))),some (.d (.int (hi:Int))),some (.d (.int (m:Int))),some (.d (bT names)),some (.d (.lst (rs.map D.int))),some (.d (.int th)),some (.d (.lst [])),none,none,none]) (bj (yM _))]
  rw[aL ((iD (lX rfl (Yh m hm8))).trans f1)]
  rw[dm (cu (kh (x:=cU names) (y:=Bp (A.map (arrOf names))) (iB (x:=bT names) rfl) (iB (x:=wF names A) rfl)))]
  rfl
 ·obtain⟨a,b,c,_⟩:=hg.2.1 p hp
  exact⟨by omega,by omega,c⟩
end Mr
namespace Mr
open PySem Mi
end Mr
namespace Mr
open PySem Mi
inductive Rch(aj:List Ar)(x:Str):Str→Prop
 | refl:Rch aj x x
 | step {y z:Str}:Rch aj x y→(y,z)∈aj→Rch aj x z
end Mr
namespace Mr
open PySem Mi
noncomputable def rch (aj:List Ar) (x y:Str):Bool:=@decide (Rch aj x y) (Classical.propDecidable _)
noncomputable def aeS (names:List Str) (aj:List Ar) (x:Str):List Str:=names.filter (rch aj x)
def Tr(fs:List Str):W:=.dk (fs.map fun y=>((Sum.inr y:Ky),D.bl true))
theorem aek(fs:List Str)(y:Str):(Fe (fs.map fun y=>((Sum.inr y:Ky),D.bl true)) (Sum.inr y)).isSome=decide (y∈fs):=by
 unfold Fe
 induction fs with
 | nil=>rfl
 | cons a r ih =>
  rw[List.map_cons,List.find?_cons]
  by_cases h:a=y
  ·subst h;simp
  ·rw[decide_eq_false (fun z:(Sum.inr a:Ky)=Sum.inr y=>h (Sum.inr.inj z))]
   simp only[ih]
   rw[decide_eq_decide]
   exact⟨fun z=>List.mem_cons_of_mem _ z,fun z=>by
    rcases List.mem_cons.mp z with z|z
    ·exact absurd z.symm h
    ·exact z⟩
theorem adH{i:Nat}{k:E}{e:Mi.Env}{fs:List Str}{y:Str}(hk:k e=.ok (.str y))(hw:wV i e=.ok (Tr fs)):I9 i k e=.ok (.bl (decide (y∈fs))):=by
 unfold I9;rw[hk,aG,hw,aG,← aek];rfl
theorem abR{i:Nat}{k:E}{e:Mi.Env}{fs:List Str}{y:Str}(hk:k e=.ok (.str y))(hw:wV i e=.ok (Tr fs))(hn:y∉fs)(hl:fs.length≤1000):pX i k (mC (.bl true)) e=.ok (.nx (e.set i (some (Tr (fs++[y]))))):=by
 unfold pX
 have h1:abU (Tr fs) (.str y) (.bl true)=.ok (Tr (fs++[y])):=by
  show aU ((fs.map fun y=>((Sum.inr y:Ky),D.bl true)).length < 16777216) ((t8 (Tv (.str y))).bind fun k=>Rs.ok (W.dk (Mi.putK k (.bl true) (fs.map fun y=>((Sum.inr y:Ky),D.bl true)))))=_
  rw[aq (by rw[List.length_map];omega)]
  show Rs.ok (W.dk (Mi.putK (Sum.inr y:Ky) (.bl true) (fs.map fun y=>((Sum.inr y:Ky),D.bl true))))=_
  unfold Mi.putK
  rw[if_neg (by
   rw[List.any_map,Bool.not_eq_true,List.any_eq_false]
   intro z hz
   simp only[Function.comp,decide_eq_true_eq]
   exact fun q=>hn (Sum.inr.inj q ▸ hz))]
  unfold Tr
  rw[List.map_append];rfl
 show (k e).bind _=_
 rw[hk,aG,hw,aG,h1];rfl
end Mr
namespace Mr
open PySem Mi
noncomputable def hb (names:List Str) (aj:List Ar) (held:List Str) (x:Str):Bool:=(aeS names aj x).any fun y=>decide (y∈held)
end Mr
namespace Mr
open PySem Mi
abbrev Qe:=Str×Str×Str
def gH(t:Qe):D:=.tup [.str t.1,.str t.2.1,.str t.2.2]
theorem Es(aj:List Ar)(p:Ar):((aj.map pairD).any fun e=>cR e (pairD p))=decide (p∈aj):=by
 induction aj with
 | nil=>rfl
 | cons q r ih =>
  rw[List.map_cons,List.any_cons,ih]
  have:cR (pairD q) (pairD p)=decide (q=p):=by
   unfold pairD
   rw[cR,fL,fL,fL,jx,jx]
   obtain⟨a,b⟩:=q
   obtain⟨c,d⟩:=p
   by_cases h1:a=c<;>by_cases h2:b=d<;>simp[h1,h2]
  rw[this]
  by_cases h:q=p
  ·simp[h]
  ·have h2:¬ p=q:=fun z=>h z.symm
   simp[h,h2]
theorem mH:∀ aj:List Ar,dq (aj.map pairD)≤1
 | []=>by simp
 | p::r=>by
  have:=mH r
  rw[List.map_cons,lu]
  have h:(pairD p).dep=1:=by simp[pairD]
  omega
theorem m9(aj:List Ar)(p:Ar):pN (pairD p) (Bp aj)=.ok (.bl (decide (p∈aj))):=by
 show aU _ _=_
 rw[aq (by have:=mH aj;omega),Es]
end Mr
namespace Mr
open PySem Mi
def nW(a:Ar)(aj:List Ar):List Ar:=aj.map fun p=>if p=a then (p.2,p.1) else p
theorem sI{aj:List Ar}{a p:Ar}(ha:a∈aj):p∈nW a aj↔(p∈aj∧p≠a)∨p=(a.2,a.1):=by
 unfold nW
 rw[List.mem_map]
 constructor
 ·rintro ⟨q,hq,e⟩
  by_cases z:q=a
  ·rw[if_pos z] at e;exact .inr (by rw[← e,z])
  ·rw[if_neg z] at e;exact .inl ⟨e ▸ hq,e ▸ z⟩
 ·rintro (⟨h1,h2⟩|e)
  ·exact⟨p,h1,if_neg h2⟩
  ·exact⟨a,ha,by rw[if_pos rfl,e]⟩
def hds(aj:List Ar)(l:List Str):List Str:=(aj.filter fun p=>decide (p.1∈l)).map (·.2)
theorem Iz{aj:List Ar}{l:List Str}{x:Str}:x∈hds aj l↔∃ t,(t,x)∈aj∧t∈l:=by
 unfold hds
 rw[List.mem_map]
 constructor
 ·rintro ⟨⟨t,h⟩,hq,rfl⟩
  obtain⟨h1,h2⟩:=List.mem_filter.mp hq
  exact⟨t,h1,by simpa using h2⟩
 ·rintro ⟨t,h1,h2⟩
  exact⟨(t,x),List.mem_filter.mpr ⟨h1,by simpa using h2⟩,rfl⟩
def nxl(aj:List Ar)(l:List Str):List Str:=l.filter fun x=>decide (x∈hds aj l)
def rm(names:List Str)(aj:List Ar):Nat→List Str
 | 0=>names
 | k+1=>nxl aj (rm names aj k)
def Qv(names:List Str)(aj:List Ar):Bool:=decide (0 < (rm names aj names.length).length)
def Rk(aj:List Ar):Prop:=∃ r:Str→Int,∀ p∈aj,r p.1 < r p.2
theorem abj{aj:List Ar}(R:Rk aj){l:List Str}(h:l≠[]):(nxl aj l).length < l.length:=by
 obtain⟨r,hr⟩:=R
 obtain⟨x,hx,hm⟩:=O8 r l h
 have hn:x∉hds aj l:=fun z=>by
  obtain⟨t,h1,h2⟩:=Iz.mp z
  have:=hr _ h1
  have:=hm t h2
  simp only at *
  omega
 exact List.length_filter_lt_length_iff_exists.mpr ⟨x,hx,by simpa using hn⟩
theorem QV{names:List Str}{aj:List Ar}(R:Rk aj):∀ k,(rm names aj k).length≤names.length - k
 | 0=>Nat.le_refl _
 | k+1=>by
  have ih:=QV (names:=names) R k
  by_cases h:rm names aj k=[]
  ·rw[rm,h];simp[nxl]
  ·have:=abj R h
   rw[rm];omega
theorem aaV{names:List Str}{aj:List Ar}(R:Rk aj):Qv names aj=false:=by
 have:=QV (names:=names) R names.length
 unfold Qv
 rw[decide_eq_false_iff_not];omega
theorem YG{names:List Str}{aj:List Ar}{k:Nat}{x:Str}(h:x∈rm names aj (k+1)):x∈rm names aj k:=(List.mem_filter.mp h).1
theorem Ls{names:List Str}{aj:List Ar}(hin:∀ p∈aj,p.1∈names∧p.2∈names){t h:Str}(a:(t,h)∈aj):∀ k,t∈rm names aj k→h∈rm names aj k∧h∈rm names aj (k+1)
 | 0,ht=>by
  have h0:h∈rm names aj 0:=(hin _ a).2
  exact⟨h0,List.mem_filter.mpr ⟨h0,by simpa using Iz.mpr ⟨t,a,ht⟩⟩⟩
 | k+1,ht=>by
  have ih:=(Ls hin a k (YG ht)).2
  exact⟨ih,List.mem_filter.mpr ⟨ih,by simpa using Iz.mpr ⟨t,a,ht⟩⟩⟩
theorem KC{names:List Str}{aj:List Ar}(hin:∀ p∈aj,p.1∈names∧p.2∈names)(h:Qv names aj=false):Rk aj:=by
 have he:∀ x,x∉rm names aj names.length:=fun x hx=>by
  have:=List.length_pos_of_mem hx
  unfold Qv at h
  rw[decide_eq_false_iff_not] at h
  exact h this
 refine⟨fun x=>(((List.range names.length).filter fun k=>decide (x∈rm names aj k)).length:Nat),fun p hp=>?_⟩
 obtain⟨t,b⟩:=p
 have key:(0::((List.range names.length).filter fun k=>decide (t∈rm names aj k)).map (· + 1)).length≤((List.range names.length).filter fun k=>decide (b∈rm names aj k)).length:=by
  refine jf ?_ ?_
  ·refine List.nodup_cons.mpr ⟨fun z=>by obtain⟨y,_,e⟩:=List.mem_map.mp z;omega,?_⟩
   have nd:=(List.nodup_range (n:=names.length)).filter (p:=fun k=>decide (t∈rm names aj k))
   refine List.pairwise_map.mpr (nd.imp fun z e=>z (by omega))
  ·intro y hy
   have hb:b∈names:=(hin _ hp).2
   have pos:=List.length_pos_of_mem hb
   rcases List.mem_cons.mp hy with rfl|hy
   ·exact List.mem_filter.mpr ⟨List.mem_range.mpr pos,decide_eq_true (show b∈rm names aj 0 from hb)⟩
   ·obtain⟨k,hk,rfl⟩:=List.mem_map.mp hy
    obtain⟨k1,k2⟩:=List.mem_filter.mp hk
    have k2:t∈rm names aj k:=by simpa using k2
    have k3:=(Ls hin hp k k2).2
    have k1:=List.mem_range.mp k1
    have:k+1≠names.length:=fun e=>he b (e ▸ k3)
    exact List.mem_filter.mpr ⟨List.mem_range.mpr (by omega),by simpa using k3⟩
 simp only[List.length_cons,List.length_map] at key ⊢
 omega
def wQ(aj:List Ar)(a m b:Str):Bool:=(decide ((a,m)∈aj) && decide ((b,m)∈aj)) && !(decide ((a,b)∈aj) || decide ((b,a)∈aj))
theorem Mv(aj:List Ar)(a m b:Str):wQ aj a m b=wQ aj b m a:=by
 unfold wQ
 rw[Bool.and_comm (decide ((a,m)∈aj)),Bool.or_comm (decide ((a,b)∈aj))]
theorem Bl{aj:List Ar}{a m b:Str}:wQ aj a m b=true↔(a,m)∈aj∧(b,m)∈aj∧¬ (a,b)∈aj∧¬ (b,a)∈aj:=by
 unfold wQ
 simp[and_assoc]
def ni(names:List Str)(aj:List Ar):List Qe :=
 (List.range names.length).flatMap fun k=>names.flatMap fun m=>((names.drop (k+1)).filter fun b=>wQ aj (nth names k) m b).map fun b=>(nth names k,m,b)
theorem xN{names:List Str}{aj:List Ar}{a m b:Str}:(a,m,b)∈ni names aj↔∃ k,k < names.length∧a=nth names k∧m∈names∧b∈names.drop (k+1)∧wQ aj a m b=true:=by
 unfold ni
 simp only[List.mem_flatMap,List.mem_map,List.mem_filter,List.mem_range,Prod.mk.injEq]
 constructor
 ·rintro ⟨k,hk,m',hm,b',⟨hb,hc⟩,rfl,rfl,rfl⟩
  exact⟨k,hk,rfl,hm,hb,hc⟩
 ·rintro ⟨k,hk,rfl,hm,hb,hc⟩
  exact⟨k,hk,m,hm,b,⟨hb,hc⟩,rfl,rfl,rfl⟩
theorem cI{α β : Type}{f g:α→List β}:∀ {l:List α},(∀ x∈l,f x=g x)→l.flatMap f=l.flatMap g
 | [],_=>rfl
 | x::r,h=>by rw[List.flatMap_cons,List.flatMap_cons,h x List.mem_cons_self,cI fun y hy=>h y (List.mem_cons_of_mem _ hy)]
theorem CJ{names:List Str}{i j:Nat}(h:i < j)(hj:j < names.length):nth names j∈names.drop (i+1):=by
 refine List.mem_iff_getElem?.mpr ⟨j - (i+1),?_⟩
 rw[List.getElem?_drop,show i+1+(j - (i+1))=j by omega]
 unfold nth
 rw[List.getD_eq_getElem?_getD,List.getElem?_eq_getElem hj];rfl
theorem Y9{names:List Str}(nd:names.Nodup){k:Nat}(hk:k < names.length){b:Str}(hb:b∈names.drop (k+1)):b∈names∧nth names k≠b:=by
 obtain⟨i,hi⟩:=List.mem_iff_getElem?.mp hb
 rw[List.getElem?_drop] at hi
 have hl:k+1+i < names.length:=by
  rcases Nat.lt_or_ge (k+1+i) names.length with z|z
  ·exact z
  ·rw[List.getElem?_eq_none z] at hi;cases hi
 have e:b=nth names (k+1+i):=by
  unfold nth
  rw[List.getD_eq_getElem?_getD,hi];rfl
 rw[e]
 exact⟨pZ hl,fun z=>by have:=j6 nd hk hl z;omega⟩
theorem DQ{names:List Str}(nd:names.Nodup){A B:List Ar}:ni names A=ni names B↔∀ a∈names,∀ m∈names,∀ b∈names,a≠b→wQ A a m b=wQ B a m b:=by
 constructor
 ·intro e
  have key:∀ i j m,i < j→j < names.length→m∈names→wQ A (nth names i) m (nth names j)=wQ B (nth names i) m (nth names j):=fun i j m hij hj hm=>by
   have one:∀ {A B:List Ar},ni names A=ni names B→wQ A (nth names i) m (nth names j)=true→wQ B (nth names i) m (nth names j)=true:=fun e h=>by
    have:=xN.mpr ⟨i,by omega,rfl,hm,CJ hij hj,h⟩
    rw[e] at this
    obtain⟨_,_,_,_,_,h⟩:=xN.mp this
    exact h
   cases ha:wQ A (nth names i) m (nth names j) with
   | true=>exact(one e ha).symm
   | false=>cases hb:wQ B (nth names i) m (nth names j) with
    | true=>exact absurd (one e.symm hb) (by rw[ha];exact Bool.false_ne_true)
    | false=>rfl
  intro a ha m hm b hb hne
  obtain⟨i,hi,rfl⟩:=Ip ha
  obtain⟨j,hj,rfl⟩:=Ip hb
  rcases Nat.lt_trichotomy i j with z|z|z
  ·exact key i j m z hj hm
  ·exact absurd (by rw[z]) hne
  ·rw[Mv,Mv B];exact key j i m z hi hm
 ·intro h
  unfold ni
  refine cI fun k hk=>cI fun m hm=>?_
  have hk:=List.mem_range.mp hk
  congr 1
  refine List.filter_congr fun b hb=>?_
  obtain⟨h1,h2⟩:=Y9 nd hk hb
  exact h _ (pZ hk) m hm b h1 h2
theorem vg{aj:List Ar}{t h:Str}:dR (bD aj h) (bD aj t++[t])=true↔∀ x,(x,h)∈aj↔(x,t)∈aj∨x=t:=by
 unfold dR
 simp only[Bool.and_eq_true,List.all_eq_true,decide_eq_true_eq,List.mem_append,List.mem_singleton,kJ]
 constructor
 ·rintro ⟨h1,h2⟩ x
  exact⟨h1 x,h2 x⟩
 ·intro z
  exact⟨fun x=>(z x).mp,fun x=>(z x).mpr⟩
theorem BJ{names:List Str}{aj:List Ar}(nd:names.Nodup)(hin:∀ p∈aj,p.1∈names∧p.2∈names)(R:Rk aj){t h:Str}(ha:(t,h)∈aj) :
 dR (bD aj h) (bD aj t++[t])=(!Qv names (nW (t,h) aj) && decide (ni names (nW (t,h) aj)=ni names aj)):=by
 obtain⟨r,hr⟩:=id R
 have hth:t≠h:=fun e=>by have:=hr _ ha;simp only[e] at this;omega
 have mf:∀ p:Ar,p∈nW (t,h) aj↔(p∈aj∧p≠(t,h))∨p=(h,t):=fun p=>sI ha
 have Y5:∀ p∈nW (t,h) aj,p.1∈names∧p.2∈names:=fun p hp=>by
  rcases (mf p).mp hp with z|z
  ·exact hin p z.1
  ·rw[z];exact⟨(hin _ ha).2,(hin _ ha).1⟩
 have ada:(h,t)∉aj:=fun z=>by have:=hr _ z;have:=hr _ ha;simp only at *;omega
 have tn:=(hin _ ha).1
 have hn:=(hin _ ha).2
 have tie:∀ a b,((a,b)∈nW (t,h) aj∨(b,a)∈nW (t,h) aj)↔((a,b)∈aj∨(b,a)∈aj):=fun a b=>by
  rw[mf,mf]
  constructor
  ·rintro ((⟨z,_⟩|z)|(⟨z,_⟩|z))
   ·exact .inl z
   ·cases z;exact .inr ha
   ·exact .inr z
   ·cases z;exact .inl ha
  ·rintro (z|z)
   ·by_cases e:(a,b)=(t,h)
    ·cases e;exact .inr (.inr rfl)
    ·exact .inl (.inl ⟨z,e⟩)
   ·by_cases e:(b,a)=(t,h)
    ·cases e;exact .inl (.inr rfl)
    ·exact .inr (.inl ⟨z,e⟩)
 have TJ:∀ A a m b,wQ A a m b=true↔((a,m)∈A∧(b,m)∈A)∧¬ ((a,b)∈A∨(b,a)∈A):=fun A a m b=>by
  rw[Bl,not_or,and_assoc]
 apply Bool.eq_iff_iff.mpr
 rw[vg,Bool.and_eq_true,Bool.not_eq_true',decide_eq_true_eq,DQ nd]
 constructor
 ·intro cov
  constructor
  ·refine aaV ⟨fun x=>if x=h then 2 * r t - 1 else 2 * r x,fun p hp=>?_⟩
   obtain⟨a,b⟩:=p
   rcases (mf _).mp hp with ⟨z1,z2⟩|z
   ·have ab:=hr _ z1
    simp only at ab ⊢
    by_cases e1:a=h
    ·subst e1
     have e2:b≠a:=fun e=>by rw[e] at ab;omega
     rw[if_pos rfl,if_neg e2]
     have:=hr _ ha;simp only at this;omega
    ·rw[if_neg e1]
     by_cases e2:b=h
     ·subst e2
      rw[if_pos rfl]
      rcases (cov a).mp z1 with y|y
      ·have:=hr _ y;simp only at this;omega
      ·subst y;exact absurd rfl z2
     ·rw[if_neg e2];omega
   ·cases z
    show (if h=h then 2 * r t - 1 else 2 * r h) < (if t=h then 2 * r t - 1 else 2 * r t)
    rw[if_pos rfl,if_neg hth];omega
  ·intro a _ m _ b _ hab
   apply Bool.eq_iff_iff.mpr
   rw[TJ,TJ,tie a b]
   constructor
   ·rintro ⟨⟨z1,z2⟩,z3⟩
    refine⟨?_,z3⟩
    rcases (mf _).mp z1 with ⟨y1,_⟩|y
    ·rcases (mf _).mp z2 with ⟨y2,_⟩|y
     ·exact⟨y1,y2⟩
     ·cases y
      exact absurd (.inl ((cov a).mpr (.inl y1))) z3
    ·cases y
     rcases (mf _).mp z2 with ⟨y2,_⟩|y
     ·exact absurd (.inr ((cov b).mpr (.inl y2))) z3
     ·cases y;exact absurd rfl hab
   ·rintro ⟨⟨z1,z2⟩,z3⟩
    refine⟨⟨?_,?_⟩,z3⟩
    ·rw[mf]
     by_cases e:(a,m)=(t,h)
     ·cases e
      rcases (cov b).mp z2 with y|y
      ·exact absurd (.inr y) z3
      ·exact absurd y.symm hab
     ·exact .inl ⟨z1,e⟩
    ·rw[mf]
     by_cases e:(b,m)=(t,h)
     ·cases e
      rcases (cov a).mp z1 with y|y
      ·exact absurd (.inl y) z3
      ·exact absurd y hab
     ·exact .inl ⟨z2,e⟩
 ·rintro ⟨acy,same⟩ x
  obtain⟨r',hr'⟩:=KC Y5 acy
  constructor
  ·intro z
   by_cases e:x=t
   ·exact .inr e
   ·refine .inl ?_
    by_cases q:(x,t)∈aj
    ·exact q
    ·exfalso
     by_cases q2:(t,x)∈aj
     ·have z1:=hr' (x,h) ((mf _).mpr (.inl ⟨z,fun y=>by cases y;exact e rfl⟩))
      have z2:=hr' (h,t) ((mf _).mpr (.inr rfl))
      have hx:x≠h:=fun y=>by subst y;have:=hr _ z;simp only at this;omega
      have z3:=hr' (t,x) ((mf _).mpr (.inl ⟨q2,fun y=>by cases y;exact hx rfl⟩))
      simp only at *;omega
     ·have c1:wQ aj x h t=true:=(TJ _ _ _ _).mpr ⟨⟨z,ha⟩,fun y=>y.elim q q2⟩
      rw[← same x (hin _ z).1 h hn t tn e] at c1
      have c2:=((TJ _ _ _ _).mp c1).1.2
      rcases (mf _).mp c2 with ⟨_,y⟩|y
      ·exact y rfl
      ·cases y;exact hth rfl
  ·rintro (z|rfl)
   ·by_cases q:(x,h)∈aj
    ·exact q
    ·exfalso
     have hx:x≠h:=fun y=>by subst y;exact ada z
     by_cases q2:(h,x)∈aj
     ·have:=hr _ z;have:=hr _ ha;have:=hr _ q2
      simp only at *;omega
     ·have zt:(x,t)∈nW (t,h) aj:=(mf _).mpr (.inl ⟨z,fun y=>by cases y;exact hth rfl⟩)
      have c1:wQ (nW (t,h) aj) x t h=true:=(TJ _ _ _ _).mpr ⟨⟨zt,(mf _).mpr (.inr rfl)⟩,fun y=>((tie x h).mp y).elim q q2⟩
      rw[same x (hin _ z).1 t tn h hn hx] at c1
      exact ada ((TJ _ _ _ _).mp c1).1.2
   ·exact ha
end Mr
namespace Mr
open PySem Mi
end Mr
namespace Mr
open PySem Mi
end Mr
namespace Mr
open PySem Mi
theorem Wl{cs:List Str}{i:Int}(h0:0≤i)(h1:i < cs.length):cz (cU cs) (.int i)=.ok (.str (nth cs i.toNat)):=Q7 (cs:=cs) h0 h1
def tie(aj:List Ar)(a b:Str):Bool:=decide ((a,b)∈aj) || decide ((b,a)∈aj)
theorem Qn{names:List Str}{aj:List Ar}(a b:Str):iC [.d (aH names aj),.d (.str a),.d (.str b)]=.ok (.d (.bl (tie aj a b))):=by
 unfold iC M4
 rw[Tn]
 have a1:m2 pN (mN dTup [(mV 1),(mV 2)]) (m2 cz (mV 0) (mC (.int 1))) [some (.d (aH names aj)),some (.d (.str a)),some (.d (.str b))]=.ok (.bl (decide ((a,b)∈aj))):=(aF (kh rfl rfl) (aF rfl rfl (Q8 _ _)) rfl).trans (m9 aj (a,b))
 have a2:m2 pN (mN dTup [(mV 2),(mV 1)]) (m2 cz (mV 0) (mC (.int 1))) [some (.d (aH names aj)),some (.d (.str a)),some (.d (.str b))]=.ok (.bl (decide ((b,a)∈aj))):=(aF (kh rfl rfl) (aF rfl rfl (Q8 _ _)) rfl).trans (m9 aj (b,a))
 have aa:mOr (m2 pN (mN dTup [(mV 1),(mV 2)]) (m2 cz (mV 0) (mC (.int 1)))) (m2 pN (mN dTup [(mV 2),(mV 1)]) (m2 cz (mV 0) (mC (.int 1)))) [some (.d (aH names aj)),some (.d (.str a)),some (.d (.str b))]=.ok (.bl (tie aj a b)):=by
  unfold mOr
  rw[a1,aG]
  show (asB (.bl _)).bind _=_
  rw[vM,aG]
  unfold tie
  by_cases h:(a,b)∈aj
  ·rw[decide_eq_true h,if_pos rfl,Bool.true_or]
  ·rw[decide_eq_false h,if_neg Bool.false_ne_true,a2,Bool.false_or]
 exact(congrArg (fun r=>Rs.bind r Dr) (dm (cu aa))).trans rfl
theorem abv{names:List Str}{aj:List Ar}{e:Mi.Env}(e0:mV 0 e=.ok (aH names aj)):mN gB [(m2 cz (mV 0) (mC (.int 0)))] e=.ok (.int (names.length:Int)):=(iB (aF e0 rfl (Dh _ _))).trans (by unfold cU;rw[Wd,List.length_map])
end Mr
namespace Mr
open PySem Mi
end Mr
namespace Mr
open PySem Mi
theorem CK{a:E}{e:Mi.Env}(h:a e=.ok (.bl true)):lN (cB a) e=.ok false:=by unfold lN;rw[bZ h];rfl
end Mr
namespace Mr
open PySem Mi
theorem Bm{a b:C}{e:Mi.Env}{p q:Bool}(ha:a e=.ok p)(hb:p=true→b e=.ok q):nq a b e=.ok (p && q):=by
 unfold nq;rw[ha,aG]
 cases p with
 | true=>rw[if_pos rfl,hb rfl];rfl
 | false=>rfl
theorem Ec{a b:C}{e:Mi.Env}{p q:Bool}(ha:a e=.ok p)(hb:p=false→b e=.ok q):T7 a b e=.ok (p || q):=by
 unfold T7;rw[ha,aG]
 cases p with
 | true=>rfl
 | false=>rw[if_neg Bool.false_ne_true,hb rfl];rfl
theorem JF{a:C}{e:Mi.Env}{p:Bool}(ha:a e=.ok p):lN a e=.ok (!p):=by unfold lN;rw[ha];rfl
theorem u9{a b:E}{e:Mi.Env}{p q:Bool}(ha:a e=.ok (.bl p))(hb:p=true→b e=.ok (.bl q)):yL a b e=.ok (.bl (p && q)):=by
 unfold yL;rw[ha,aG,vM,aG]
 cases p with
 | true=>rw[if_pos rfl,hb rfl];rfl
 | false=>rfl
theorem abr{a b:E}{e:Mi.Env}{p q:Bool}(ha:a e=.ok (.bl p))(hb:p=false→b e=.ok (.bl q)):mOr a b e=.ok (.bl (p || q)):=by
 unfold mOr;rw[ha,aG,vM,aG]
 cases p with
 | true=>rfl
 | false=>rw[if_neg Bool.false_ne_true,hb rfl];rfl
theorem Qc{i:Nat}{c:C}{a:E}{e:Mi.Env}{ds:List D}{d:D}{p:Bool}(hc:c e=.ok p)(ha:p=true→a e=.ok d)(hg:getL e i=.ok ds)(hl:ds.length+(if p then [d] else []).length≤16777216)(hs:e.set i (some (.d (.lst ds)))=e) :
 iI c (bU i a) bA e=.ok (.nx (putL e i (ds++if p then [d] else []))):=by
 cases p with
 | true=>rw[lH hc,rG (ha rfl) hg (by simp at hl;omega)];rfl
 | false =>
  rw[fO hc]
  simp only[Bool.false_eq_true,if_false,List.append_nil,putL]
  rw[hs];rfl
theorem aaa{f:List D→Rs D}{a b c:E}{e:Mi.Env}{x y z:D}(h:a e=.ok x)(h':b e=.ok y)(h'':c e=.ok z):mN f [a,b,c] e=f [x,y,z]:=by unfold mN;rw[lF,h,aG,lF,h',aG,lF,h''];rfl
theorem BW{f:D→Option Int→Option Int→Rs D}{a b:E}{e:Mi.Env}{x:D}{i:Int}(h:a e=.ok x)(h':b e=.ok (.int i)):jh f a (some b) none e=f x (some i) none:=by unfold jh;rw[h,aG,show q8 (some b) e=.ok (some i) from by rw[q8,h'];rfl];rfl
theorem U8{f:D→Option Int→Option Int→Rs D}{a b:E}{e:Mi.Env}{x:D}{i:Int}(h:a e=.ok x)(h':b e=.ok (.int i)):jh f a none (some b) e=f x none (some i):=by unfold jh;rw[h,aG,show q8 (some b) e=.ok (some i) from by rw[q8,h'];rfl];rfl
theorem iY{α : Type}{tg:Tg}{body:S}(f:α→D)(g:α→List D)(St:List D→Mi.Env→Prop):∀ (xs:List α) (acc:List D) (e:Mi.Env),acc.length+(xs.flatMap g).length≤16777216→St acc e →
 (∀ x∈xs,∀ acc e,acc.length+(g x).length≤16777216→St acc e→∃ e1 e2,tg.put (f x) e=.ok e1∧body e1=.ok (.nx e2)∧St (acc++g x) e2) →
 ∃ e',rC tg body (xs.map f) e=.ok (.nx e')∧St (acc++xs.flatMap g) e'
 | [],acc,e,_,h,_=>⟨e,rfl,by simpa using h⟩
 | x::r,acc,e,hl,h,hs=>by
  rw[List.flatMap_cons,List.length_append] at hl
  obtain⟨e1,e2,h1,h2,h3⟩:=hs x List.mem_cons_self acc e (by omega) h
  obtain⟨e',h4,h5⟩:=iY f g St r (acc++g x) e2 (by rw[List.length_append];omega) h3 fun y hy=>hs y (List.mem_cons_of_mem _ hy)
  refine⟨e',?_,by rw[List.flatMap_cons,← List.append_assoc];exact h5⟩
  rw[List.map_cons,rC,h1,aG,h2,aG]
  exact h4
theorem m8{α β : Type}(p:α→Bool)(f:α→β):∀ l:List α,(l.flatMap fun x=>if p x then [f x] else [])=(l.filter p).map f
 | []=>rfl
 | x::r=>by
  rw[List.flatMap_cons,m8 p f r]
  cases h:p x with
  | true=>rw[List.filter_cons_of_pos h];rfl
  | false=>rw[List.filter_cons_of_neg (by rw[h];exact Bool.false_ne_true)];rfl
theorem fU{α β γ : Type}(f:β→γ)(g:α→List β):∀ l:List α,(l.flatMap g).map f=l.flatMap fun x=>(g x).map f
 | []=>rfl
 | x::r=>by rw[List.flatMap_cons,List.map_append,fU f g r,List.flatMap_cons]
theorem rD{α β : Type}{g:α→List β}{m:Nat}:∀ {l:List α},(∀ x∈l,(g x).length≤m)→(l.flatMap g).length≤l.length * m
 | [],_=>by simp
 | x::r,h=>by
  have ih:=rD (l:=r) fun y hy=>h y (List.mem_cons_of_mem _ hy)
  have h1:=h x List.mem_cons_self
  rw[List.flatMap_cons,List.length_append,List.length_cons,Nat.add_mul]
  omega
theorem yE(p q:Ar):cR (pairD p) (pairD q)=decide (p=q):=by
 obtain⟨a,b⟩:=p
 obtain⟨c,d⟩:=q
 unfold pairD
 rw[cR,fL,fL,fL,jx,jx]
 by_cases h:a=c<;>by_cases k:b=d<;>simp[h,k]
theorem W3(p q:Ar):oK (pairD p) (pairD q)=.ok (.bl (decide (p=q))):=by
 unfold oK
 rw[aq (by simp[pairD]),yE]
def bQ(aj:List Ar):D:=.lst (aj.map pairD)
theorem Tw(aj:List Ar)(p:Ar):pN (pairD p) (bQ aj)=.ok (.bl (decide (p∈aj))):=by
 show aU _ _=_
 rw[aq (Nat.le_trans (mH aj) (by decide)),Es]
theorem oE(aj:List Ar)(p:Ar):dY (pairD p) (bQ aj)=.ok (.bl (!decide (p∈aj))):=by
 show aU _ _=_
 rw[aq (Nat.le_trans (mH aj) (by decide)),Es]
theorem ac1(x y:D)(k:Bool):cz (.lst [x,y]) (.int (if k then 1 else 0))=.ok (if k then y else x):=by
 cases k
 ·show t8 (wB [x,y] 0)=_
  rw[at0];rfl
 ·show t8 (wB [x,y] 1)=_
  rw[at1];rfl
theorem wu{aj:List Ar}{a:Ar}(hl:aj.length≤100):eX [.d (bQ aj),.d (pairD a)]=.ok (.d (bQ (nW a aj))):=by
 unfold eX zY
 rw[Tj]
 have hc:dN (.n 1) jM (m2 cz (mN fP [(mV 1),(mN dTup [(m2 cz (mV 1) (mC (.int 1))),(m2 cz (mV 1) (mC (.int 0)))])]) (mN ab0 [(m2 oK (mV 1) (mV 0))])) [some (.d (pairD a)),none] (aj.map pairD)=.ok ((aj.filter fun _=>true).map fun p=>pairD (if p=a then (p.2,p.1) else p)) :=
  cJ pairD (fun p=>pairD (if p=a then (p.2,p.1) else p)) (fun _=>true) aj fun p _=>⟨[some (.d (pairD a)),some (.d (pairD p))],rfl,rfl,fun _=>by
   have i0:cz (pairD p) (.int 0)=.ok (.str p.1):=by unfold pairD cz;simp only[at0];rfl
   have i1:cz (pairD p) (.int 1)=.ok (.str p.2):=by unfold pairD cz;simp only[at1];rfl
   refine(aF ((QL rfl (kh (aF rfl rfl i1) (aF rfl rfl i0))).trans (aq (by simp))) ((iB (aF rfl rfl (W3 p a))).trans rfl) (ac1 _ _ (decide (p=a)))).trans ?_
   by_cases h:p=a<;>simp[h,pairD]⟩
 have hm:=cY (ρ:=[some 1,none]) (e:=[some (.d (bQ aj)),some (.d (pairD a))]) (dO (a:=mV 0) (x:=bQ aj) rfl rfl) (by rw[List.length_map];omega) hc
 rw[show ([some (W.d (bQ aj)),some (W.d (pairD a))]++List.replicate (2 - 2) none)=[some (W.d (bQ aj)),some (W.d (pairD a))] from rfl]
 rw[dm (cu hm)]
 show Rs.ok (W.d (.lst _))=_
 unfold bQ nW
 rw[List.filter_eq_self.mpr (fun _ _=>rfl),List.map_map];rfl
theorem Mx{names:List Str}{aj:List Ar}(hn:names.length≤8)(hl:aj.length≤100):dH [.d (cU names),.d (bQ aj)]=.ok (.d (.bl (Qv names aj))):=by
 unfold dH tQ
 rw[sW]
 have lle:∀ k,(rm names aj k).length≤8:=fun k=>by
  induction k with
  | zero=>exact hn
  | succ k ih=>exact Nat.le_trans (List.length_filter_le _ _) ih
 obtain⟨e',f1,o3,o4,he⟩:=qb (tg:=.n 3) (body:=(aW (bL 4 (cW [some 2,none,none] (lJ (mV 1)) (.t [1,2]) (cB (m2 pN (mV 1) (mV 0))) (mV 2)))
 (bL 2 (cW [some 4,none] (lJ (mV 2)) (.n 1) (cB (m2 pN (mV 1) (mV 0))) (mV 1)))))
  (fun i e=>∃ o3 o4:Option W,e=[some (.d (cU names)),some (.d (bQ aj)),some (.d (bT (rm names aj i))),o3,o4]) (du 0 (names.length:Int)) 0 (fun i x e hx ⟨o3,o4,he⟩=>by
   subst he
   rw[Nat.zero_add]
   have h1:dN (.t [1,2]) (cB (m2 pN (mV 1) (mV 0))) (mV 2) [some (.d (bT (rm names aj i))),none,none] (aj.map pairD)=.ok ((aj.filter fun p=>decide (p.1∈rm names aj i)).map fun p=>D.str p.2) :=
    cJ pairD (fun p=>D.str p.2) (fun p=>decide (p.1∈rm names aj i)) aj fun p _=>⟨[some (.d (bT (rm names aj i))),some (.d (.str p.1)),some (.d (.str p.2))],rfl,bZ (aF rfl rfl (Jv _ _)),fun _=>rfl⟩
   have h2:dN (.n 1) (cB (m2 pN (mV 1) (mV 0))) (mV 1) [some (.d (bT (hds aj (rm names aj i)))),none] ((rm names aj i).map D.str)=.ok ((nxl aj (rm names aj i)).map D.str) :=
    cJ D.str D.str (fun x=>decide (x∈hds aj (rm names aj i))) (rm names aj i) fun y _=>⟨[some (.d (bT (hds aj (rm names aj i)))),some (.d (.str y))],rfl,bZ (aF rfl rfl (Jv _ _)),fun _=>rfl⟩
   refine⟨[some (.d (cU names)),some (.d (bQ aj)),some (.d (bT (rm names aj i))),some (.d x),o4],[some (.d (cU names)),some (.d (bQ aj)),some (.d (bT (rm names aj (i+1)))),some (.d x),some (.d (bT (hds aj (rm names aj i))))],rfl,?_,_,_,rfl⟩
   have s1:bL 4 (cW [some 2,none,none] (lJ (mV 1)) (.t [1,2]) (cB (m2 pN (mV 1) (mV 0))) (mV 2)) [some (.d (cU names)),some (.d (bQ aj)),some (.d (bT (rm names aj i))),some (.d x),o4]=.ok (.nx [some (.d (cU names)),some (.d (bQ aj)),some (.d (bT (rm names aj i))),some (.d x),some (.d (bT (hds aj (rm names aj i))))]):=by
    rw[bj (cY (dO (x:=bQ aj) rfl rfl) (by rw[List.length_map];omega) h1)]
    unfold bT hds
    rw[List.map_map];rfl
   rw[aL s1]
   rw[bj (cY (dO (x:=bT (rm names aj i)) rfl rfl) (by rw[List.length_map];have:=lle i;omega) h2)]
   rfl) [some (.d (cU names)),some (.d (bQ aj)),some (.d (bT names)),none,none] ⟨none,none,rfl⟩
 subst he
 rw[aL (e':=[some (.d (cU names)),some (.d (bQ aj)),some (.d (bT names)),none,none]) (bj ((iB (x:=cU names) rfl).trans rfl))]
 have hit:eQ (mN gB [(mV 0)]) [some (.d (cU names)),some (.d (bQ aj)),some (.d (bT names)),none,none]=.ok (du 0 (names.length:Int)) :=
  lX ((iB (x:=cU names) rfl).trans (by unfold cU;rw[Wd,List.length_map])) (mj (by omega) (by omega))
 rw[aL ((iD hit).trans f1)]
 rw[iQ,Nat.zero_add]
 have hret:m2 XX (mN gB [(mV 2)]) (mC (.int 0)) [some (.d (cU names)),some (.d (bQ aj)),some (.d (bT (rm names aj names.length))),o3,o4]=.ok (.bl (Qv names aj)):=by
  refine(aF ((iB (x:=bT (rm names aj names.length)) rfl).trans rfl) rfl rfl).trans ?_
  show Rs.ok (D.bl (decide ((0:Int) < (((rm names aj names.length).map D.str).length:Nat))))=_
  unfold Qv
  rw[List.length_map]
  exact congrArg (fun b=>Rs.ok (D.bl b)) (decide_eq_decide.mpr (by omega))
 rw[dm (cu hret)];rfl
theorem Dv(names:List Str):vG 0 (names.map D.str)=(List.range names.length).map fun k=>D.tup [.int (k:Nat),.str (nth names k)]:=by
 have key:∀ (ns:List Str) (j:Nat),vG j (ns.map D.str)=(List.range ns.length).map fun k=>D.tup [.int ((j+k:Nat):Int),.str (nth ns k)]:=fun ns=>by
  induction ns with
  | nil=>exact fun _=>rfl
  | cons x r ih =>
   intro j
   rw[List.map_cons,vG,ih,List.length_cons,List.range_succ_eq_map,List.map_cons,List.map_map]
   congr 1
   refine List.map_congr_left fun k _=>?_
   show D.tup [.int ((j+1+k:Nat):Int),_]=D.tup [.int ((j+(k+1):Nat):Int),_]
   rw[show j+1+k=j+(k+1) by omega];rfl
 rw[key names 0]
 refine List.map_congr_left fun k _=>?_
 rw[Nat.zero_add]
theorem Mw{names:List Str}(hn:names.length≤8)(aj:List Ar):(ni names aj).length≤512:=by
 unfold ni
 refine Nat.le_trans (rD (m:=64) fun k _=>?_) (by rw[List.length_range];omega)
 refine Nat.le_trans (rD (m:=8) fun m _=>?_) (by omega)
 rw[List.length_map]
 refine Nat.le_trans (List.length_filter_le _ _) ?_
 rw[List.length_drop];omega
theorem DW{names:List Str}{aj:List Ar}(hn:names.length≤8):lq [.d (aH names aj)]=.ok (.d (.lst ((ni names aj).map gH))):=by
 unfold lq z6
 rw[Py]
 have ecr:(ni names aj).map gH=(List.range names.length).flatMap fun k=>names.flatMap fun m=>(names.drop (k+1)).flatMap fun b=>if wQ aj (nth names k) m b then [gH (nth names k,m,b)] else []:=by
  unfold ni
  rw[fU]
  refine cI fun k _=>?_
  rw[fU]
  refine cI fun m _=>?_
  rw[List.map_map,m8 (fun b=>wQ aj (nth names k) m b) (fun b=>gH (nth names k,m,b))];rfl
 have PL:((ni names aj).map gH).length≤512:=by rw[List.length_map];exact Mw hn aj
 rw[ecr] at PL ⊢
 obtain⟨e',f1,o2,o3,o4,o5,o6,he⟩:=iY (tg:=.t [2,3]) (body:=(jR (lJ (m2 cz (mV 0) (mC (.int 0)))) (.n 4)
 (jR (lJ (jh Dz (m2 cz (mV 0) (mC (.int 0))) (some (m2 cG (mV 2) (mC (.int 1)))) none)) (.n 5)
 (aW (bL 6 (yL (m2 pN (mN dTup [(mV 3),(mV 4)]) (m2 cz (mV 0) (mC (.int 1)))) (m2 pN (mN dTup [(mV 5),(mV 4)]) (m2 cz (mV 0) (mC (.int 1))))))
 (iI (nq (MP (mV 6)) (lN (cB (aR iC [(wD (mV 0)),(wD (mV 3)),(wD (mV 5))]))))
 (bU 1 (mN dTup [(mV 3),(mV 4),(mV 5)]))
 bA)))))
  (fun k:Nat=>D.tup [.int (k:Nat),.str (nth names k)]) (fun k=>names.flatMap fun m=>(names.drop (k+1)).flatMap fun b=>if wQ aj (nth names k) m b then [gH (nth names k,m,b)] else [])
  (fun acc e=>∃ o2 o3 o4 o5 o6:Option W,e=[some (.d (aH names aj)),some (.d (.lst acc)),o2,o3,o4,o5,o6]) (List.range names.length) [] [some (.d (aH names aj)),some (.d (.lst [])),none,none,none,none,none] (by simp only[List.length_nil];omega) ⟨none,none,none,none,none,rfl⟩
  (fun k hk acc e hl ⟨o2,o3,o4,o5,o6,he⟩=>by
   subst he
   have hk:=List.mem_range.mp hk
   obtain⟨e',g1,o4',o5',o6',he'⟩:=iY (tg:=.n 4) (body:=(jR (lJ (jh Dz (m2 cz (mV 0) (mC (.int 0))) (some (m2 cG (mV 2) (mC (.int 1)))) none)) (.n 5)
 (aW (bL 6 (yL (m2 pN (mN dTup [(mV 3),(mV 4)]) (m2 cz (mV 0) (mC (.int 1)))) (m2 pN (mN dTup [(mV 5),(mV 4)]) (m2 cz (mV 0) (mC (.int 1))))))
 (iI (nq (MP (mV 6)) (lN (cB (aR iC [(wD (mV 0)),(wD (mV 3)),(wD (mV 5))]))))
 (bU 1 (mN dTup [(mV 3),(mV 4),(mV 5)]))
 bA))))
    D.str (fun m=>(names.drop (k+1)).flatMap fun b=>if wQ aj (nth names k) m b then [gH (nth names k,m,b)] else [])
    (fun acc e=>∃ o4 o5 o6:Option W,e=[some (.d (aH names aj)),some (.d (.lst acc)),some (.d (.int (k:Nat))),some (.d (.str (nth names k))),o4,o5,o6]) names acc [some (.d (aH names aj)),some (.d (.lst acc)),some (.d (.int (k:Nat))),some (.d (.str (nth names k))),o4,o5,o6] hl ⟨_,_,_,rfl⟩
    (fun m hm acc e hl ⟨o4,o5,o6,he⟩=>by
     subst he
     obtain⟨e',g1,o5',o6',he'⟩:=iY (tg:=.n 5) (body:=(aW (bL 6 (yL (m2 pN (mN dTup [(mV 3),(mV 4)]) (m2 cz (mV 0) (mC (.int 1)))) (m2 pN (mN dTup [(mV 5),(mV 4)]) (m2 cz (mV 0) (mC (.int 1))))))
 (iI (nq (MP (mV 6)) (lN (cB (aR iC [(wD (mV 0)),(wD (mV 3)),(wD (mV 5))]))))
 (bU 1 (mN dTup [(mV 3),(mV 4),(mV 5)]))
 bA)))
      D.str (fun b=>if wQ aj (nth names k) m b then [gH (nth names k,m,b)] else [])
      (fun acc e=>∃ o5 o6:Option W,e=[some (.d (aH names aj)),some (.d (.lst acc)),some (.d (.int (k:Nat))),some (.d (.str (nth names k))),some (.d (.str m)),o5,o6]) (names.drop (k+1)) acc [some (.d (aH names aj)),some (.d (.lst acc)),some (.d (.int (k:Nat))),some (.d (.str (nth names k))),some (.d (.str m)),o5,o6] hl ⟨_,_,rfl⟩
      (fun b hb acc e hl ⟨o5,o6,he⟩=>by
       subst he
       obtain⟨q,hq⟩ : ∃ q,q=(decide ((nth names k,m)∈aj) && decide ((b,m)∈aj)):=⟨_,rfl⟩
       refine⟨[some (.d (aH names aj)),some (.d (.lst acc)),some (.d (.int (k:Nat))),some (.d (.str (nth names k))),some (.d (.str m)),some (.d (.str b)),o6],putL [some (.d (aH names aj)),some (.d (.lst acc)),some (.d (.int (k:Nat))),some (.d (.str (nth names k))),some (.d (.str m)),some (.d (.str b)),some (.d (.bl q))] 1 (acc++if wQ aj (nth names k) m b then [gH (nth names k,m,b)] else []),rfl,?_,_,_,rfl⟩
       have s1:bL 6 (yL (m2 pN (mN dTup [(mV 3),(mV 4)]) (m2 cz (mV 0) (mC (.int 1)))) (m2 pN (mN dTup [(mV 5),(mV 4)]) (m2 cz (mV 0) (mC (.int 1))))) [some (.d (aH names aj)),some (.d (.lst acc)),some (.d (.int (k:Nat))),some (.d (.str (nth names k))),some (.d (.str m)),some (.d (.str b)),o6]=.ok (.nx [some (.d (aH names aj)),some (.d (.lst acc)),some (.d (.int (k:Nat))),some (.d (.str (nth names k))),some (.d (.str m)),some (.d (.str b)),some (.d (.bl q))]):=by
        rw[hq]
        exact bj (u9 (aF (kh rfl rfl) (aF rfl rfl (Q8 names aj)) (m9 aj (nth names k,m))) fun _=>aF (kh rfl rfl) (aF rfl rfl (Q8 names aj)) (m9 aj (b,m)))
       rw[aL s1]
       have ct:nq (MP (mV 6)) (lN (cB (aR iC [(wD (mV 0)),(wD (mV 3)),(wD (mV 5))]))) [some (.d (aH names aj)),some (.d (.lst acc)),some (.d (.int (k:Nat))),some (.d (.str (nth names k))),some (.d (.str m)),some (.d (.str b)),some (.d (.bl q))]=.ok (wQ aj (nth names k) m b):=by
        unfold wQ
        rw[← hq]
        exact Bm rfl fun _=>JF (bZ (zV rfl rfl rfl (Qn (nth names k) b)))
       exact Qc ct (fun _=>(aaa rfl rfl rfl).trans (aq (by simp))) rfl hl rfl)
     subst he'
     refine⟨[some (.d (aH names aj)),some (.d (.lst acc)),some (.d (.int (k:Nat))),some (.d (.str (nth names k))),some (.d (.str m)),o5,o6],_,rfl,(iD ?_).trans g1,_,_,_,rfl⟩
     have sl:jh Dz (m2 cz (mV 0) (mC (.int 0))) (some (m2 cG (mV 2) (mC (.int 1)))) none [some (.d (aH names aj)),some (.d (.lst acc)),some (.d (.int (k:Nat))),some (.d (.str (nth names k))),some (.d (.str m)),o5,o6]=.ok (.tup ((names.map D.str).drop (k+1))):=by
      rw[BW (aF (a:=mV 0) (b:=mC (.int 0)) rfl rfl (Dh names aj)) (aF (a:=mV 2) (b:=mC (.int 1)) (x:=.int (k:Nat)) (y:=.int 1) rfl rfl rfl)]
      show aU _ _=_
      rw[aq (by rw[List.length_map];omega),show ((k:Nat):Int)+1=((k+1:Nat):Int) by omega,Int.toNat_natCast]
     rw[dO sl rfl,List.map_drop])
   subst he'
   exact⟨[some (.d (aH names aj)),some (.d (.lst acc)),some (.d (.int (k:Nat))),some (.d (.str (nth names k))),o4,o5,o6],_,rfl,(iD (dO (aF rfl rfl (Dh names aj)) rfl)).trans g1,_,_,_,_,_,rfl⟩)
 subst he
 rw[aL (e':=[some (.d (aH names aj)),some (.d (.lst [])),none,none,none,none,none]) (bj (yM _))]
 have hit:yP (m2 cz (mV 0) (mC (.int 0))) [some (.d (aH names aj)),some (.d (.lst [])),none,none,none,none,none]=.ok ((List.range names.length).map fun k=>D.tup [.int (k:Nat),.str (nth names k)]):=by
  rw[← Dv]
  unfold yP
  rw[aF (a:=mV 0) (b:=mC (.int 0)) rfl rfl (Dh names aj)];rfl
 rw[aL ((iD hit).trans f1)]
 rfl
end Mr
namespace Mr
open PySem Mi
structure Nt(names:List Str)(aj:List Ar):Prop where
 nd:names.Nodup
 le:names.length≤8
 al:aj.length≤64
 inn:∀ p∈aj,p.1∈names∧p.2∈names
 rk:Rk aj
def cov(aj:List Ar)(p:Ar):Bool:=dR (bD aj p.2) (bD aj p.1++[p.1])
theorem Xc{names:List Str}{aj:List Ar}(hl:aj.length≤64){p:Ar}(h1:p.1∈names)(h2:p.2∈names):dJ [.d (aH names aj),.d (.str p.1),.d (.str p.2)]=.ok (.d (.bl (cov aj p))):=by
 unfold dJ tR
 rw[Tn]
 have l1:=mG (x:=p.1) hl
 have l2:=mG (x:=p.2) hl
 have e1:aR dI [(wD (mV 0)),(wD (mV 2))] [some (.d (aH names aj)),some (.d (.str p.1)),some (.d (.str p.2))]=.ok (.tup ((bD aj p.2).map D.str)):=call2 rfl rfl (yW h2 hl)
 have e2:aR dI [(wD (mV 0)),(wD (mV 1))] [some (.d (aH names aj)),some (.d (.str p.1)),some (.d (.str p.2))]=.ok (.tup ((bD aj p.1).map D.str)):=call2 rfl rfl (yW h1 hl)
 have t1:mN dTup [(mV 1)] [some (.d (aH names aj)),some (.d (.str p.1)),some (.d (.str p.2))]=.ok (.tup [.str p.1]):=(iB rfl).trans (aq (by simp))
 have e3:m2 Gq (aR dI [(wD (mV 0)),(wD (mV 1))]) (mN dTup [(mV 1)]) [some (.d (aH names aj)),some (.d (.str p.1)),some (.d (.str p.2))]=.ok (.tup ((bD aj p.1++[p.1]).map D.str)):=by
  refine(aF e2 t1 (aq (by simp only[List.length_map,List.length_cons,List.length_nil];omega))).trans ?_
  rw[List.map_append];rfl
 have e4:Jx (.tup ((bD aj p.2).map D.str)) (.tup ((bD aj p.1++[p.1]).map D.str))=.ok (.bl (cov aj p)):=by
  show ((t8 (pH ((bD aj p.2).map D.str))).bind fun xs=>(t8 (pH ((bD aj p.1++[p.1]).map D.str))).bind fun ys=>aU (xs.length+1 < 4096∧ys.length+1 < 4096) (Rs.ok (D.bl (dR xs ys))))=_
  rw[rF,rF,jy,aG,jy,aG]
  exact aq ⟨by omega,by rw[List.length_append];simp;omega⟩
 rw[show ([some (W.d (aH names aj)),some (W.d (.str p.1)),some (W.d (.str p.2))]++List.replicate (3 - 3) none)=[some (W.d (aH names aj)),some (W.d (.str p.1)),some (W.d (.str p.2))] from rfl]
 rw[dm (cu (aF e1 e3 e4))];rfl
theorem Ke{names:List Str}{aj:List Ar}(N:Nt names aj):ie [.d (aH names aj)]=.ok (.d (bQ (aj.filter (cov aj)))):=by
 unfold ie vH
 rw[Py]
 have hc:dN (.t [1,2]) (cB (aR dJ [(wD (mV 0)),(wD (mV 1)),(wD (mV 2))])) (mN dTup [(mV 1),(mV 2)]) [some (.d (aH names aj)),none,none] (aj.map pairD)=.ok ((aj.filter (cov aj)).map pairD) :=
  cJ pairD pairD (cov aj) aj fun p hp=>⟨[some (.d (aH names aj)),some (.d (.str p.1)),some (.d (.str p.2))],rfl,bZ (zV rfl rfl rfl (Xc N.al (N.inn p hp).1 (N.inn p hp).2)),fun _=>kh rfl rfl⟩
 have hm:=cY (ρ:=[some 0,none,none]) (e:=[some (.d (aH names aj))]) (dO (a:=m2 cz (mV 0) (mC (.int 1))) (x:=Bp aj) (aF rfl rfl (Q8 names aj)) rfl) (by rw[List.length_map];have:=N.al;omega) hc
 rw[show ([some (W.d (aH names aj))]++List.replicate (1 - 1) none)=[some (W.d (aH names aj))] from rfl]
 rw[dm (cu hm)];rfl
theorem Rg(a:Ar)(aj:List Ar):(nW a aj).length=aj.length:=by unfold nW;rw[List.length_map]
theorem R8(p q:Qe):cR (gH p) (gH q)=decide (p=q):=by
 obtain⟨a,b,c⟩:=p
 obtain⟨a',b',c'⟩:=q
 unfold gH
 rw[cR,fL,fL,fL,fL,jx,jx,jx]
 by_cases h:a=a'<;>by_cases k:b=b'<;>by_cases l:c=c'<;>simp[h,k,l]
theorem zK:∀ xs ys:List Qe,fL (xs.map gH) (ys.map gH)=decide (xs=ys)
 | [],[]=>rfl
 | [],y::r=>by simp[fL]
 | x::r,[]=>by simp[fL]
 | x::r,y::t=>by
  rw[List.map_cons,List.map_cons,fL,R8,zK r t]
  by_cases h:x=y<;>by_cases k:r=t<;>simp[h,k]
theorem Gm:∀ xs:List Qe,dq (xs.map gH)≤1
 | []=>by simp
 | x::r=>by
  have:=Gm r
  rw[List.map_cons,lu]
  have h1:(gH x).dep=1:=by simp[gH]
  rw[h1];omega
theorem yZ(xs ys:List Qe):oK (.lst (xs.map gH)) (.lst (ys.map gH))=.ok (.bl (decide (xs=ys))):=by
 unfold oK
 rw[aq (by rw[Rn];have:=Gm xs;omega),cR,zK]
end Mr
namespace Mr
open PySem Mi
def kj(names:List Str)(aj:List Ar):List Ar:=names.flatMap fun t=>(names.filter fun h=>decide ((t,h)∈aj)).map fun h=>(t,h)
theorem sH{names:List Str}{aj:List Ar}{p:Ar}:p∈kj names aj↔p∈aj∧p.1∈names∧p.2∈names:=by
 obtain⟨a,b⟩:=p
 unfold kj
 simp only[List.mem_flatMap,List.mem_map,List.mem_filter,decide_eq_true_eq,Prod.mk.injEq]
 constructor
 ·rintro ⟨t,ht,h,⟨h1,h2⟩,rfl,rfl⟩
  exact⟨h2,ht,h1⟩
 ·rintro ⟨h1,h2,h3⟩
  exact⟨a,h2,b,⟨h3,h1⟩,rfl,rfl⟩
theorem Hz{names:List Str}(hn:names.length≤8)(aj:List Ar):(kj names aj).length≤64:=by
 unfold kj
 refine Nat.le_trans (rD (m:=8) fun t _=>?_) (by omega)
 rw[List.length_map]
 exact Nat.le_trans (List.length_filter_le _ _) hn
theorem yo{names:List Str}{aj:List Ar}(hn:names.length≤8):ig [.d (cU names),.d (bQ aj)]=.ok (.d (aH names (kj names aj))):=by
 unfold ig Ek
 rw[sW]
 have ecr:(kj names aj).map pairD=names.flatMap fun t=>names.flatMap fun h=>if decide ((t,h)∈aj) then [pairD (t,h)] else []:=by
  unfold kj
  rw[fU]
  refine cI fun t _=>?_
  rw[List.map_map,m8 (fun h=>decide ((t,h)∈aj)) (fun h=>pairD (t,h))];rfl
 have PL:((kj names aj).map pairD).length≤64:=by rw[List.length_map];exact Hz hn aj
 rw[ecr] at PL
 obtain⟨e',f1,o3,o4,he⟩:=iY (tg:=.n 3) (body:=(jR (lJ (mV 0)) (.n 4)
 (iI (cB (m2 pN (mN dTup [(mV 3),(mV 4)]) (mV 1)))
 (bU 2 (mN dTup [(mV 3),(mV 4)]))
 bA)))
  D.str (fun t=>names.flatMap fun h=>if decide ((t,h)∈aj) then [pairD (t,h)] else [])
  (fun acc e=>∃ o3 o4:Option W,e=[some (.d (cU names)),some (.d (bQ aj)),some (.d (.lst acc)),o3,o4]) names [] [some (.d (cU names)),some (.d (bQ aj)),some (.d (.lst [])),none,none] (by simp only[List.length_nil];omega) ⟨none,none,rfl⟩
  (fun t ht acc e hl ⟨o3,o4,he⟩=>by
   subst he
   obtain⟨e',g1,o4',he'⟩:=iY (tg:=.n 4) (body:=(iI (cB (m2 pN (mN dTup [(mV 3),(mV 4)]) (mV 1)))
 (bU 2 (mN dTup [(mV 3),(mV 4)]))
 bA))
    D.str (fun h=>if decide ((t,h)∈aj) then [pairD (t,h)] else [])
    (fun acc e=>∃ o4:Option W,e=[some (.d (cU names)),some (.d (bQ aj)),some (.d (.lst acc)),some (.d (.str t)),o4]) names acc [some (.d (cU names)),some (.d (bQ aj)),some (.d (.lst acc)),some (.d (.str t)),o4] hl ⟨_,rfl⟩
    (fun h hh acc e hl ⟨o4,he⟩=>by
     subst he
     exact⟨[some (.d (cU names)),some (.d (bQ aj)),some (.d (.lst acc)),some (.d (.str t)),some (.d (.str h))],putL [some (.d (cU names)),some (.d (bQ aj)),some (.d (.lst acc)),some (.d (.str t)),some (.d (.str h))] 2 (acc++if decide ((t,h)∈aj) then [pairD (t,h)] else []),rfl,Qc (bZ (aF (kh rfl rfl) rfl (Tw aj (t,h)))) (fun _=>kh rfl rfl) rfl hl rfl,_,rfl⟩)
   subst he'
   exact⟨[some (.d (cU names)),some (.d (bQ aj)),some (.d (.lst acc)),some (.d (.str t)),o4],_,rfl,(iD (dO (x:=cU names) rfl rfl)).trans g1,_,_,rfl⟩)
 subst he
 rw[aL (e':=[some (.d (cU names)),some (.d (bQ aj)),some (.d (.lst [])),none,none]) (bj (yM _))]
 rw[aL ((iD (dO (x:=cU names) rfl rfl)).trans f1)]
 rw[dm (cu (kh ((iB (x:=cU names) rfl).trans rfl) ((iB rfl).trans rfl)))]
 rw[List.nil_append,← ecr];rfl
theorem Rk.sub{A B:List Ar}(R:Rk A)(h:∀ p∈B,p∈A):Rk B:=let ⟨r,k⟩:=R;⟨r,fun p hp=>k p (h p hp)⟩
def frees(names:List Str)(aj:List Ar):List Ar:=names.flatMap fun a=>(names.filter fun b=>!decide (a=b) && (!decide ((a,b)∈aj) && !decide ((b,a)∈aj))).map fun b=>(a,b)
theorem Vs{xs:List Ar}{i:Int}(h0:0≤i)(h1:i < xs.length):∃ p,p∈xs∧cz (bQ xs) (.int i)=.ok (pairD p):=by
 have hk:i.toNat < xs.length:=by omega
 refine⟨xs[i.toNat],List.getElem_mem hk,?_⟩
 show t8 (wB (xs.map pairD) i)=_
 unfold wB J0
 rw[if_pos h0,List.length_map,if_pos h1]
 show t8 ((xs.map pairD)[i.toNat]?)=_
 rw[List.getElem?_map,List.getElem?_eq_getElem hk];rfl
theorem Ru{xs:List Ar}{lo hi:Option Int}:∃ ys:List Ar,vq (xs.map pairD) lo hi=ys.map pairD∧(∀ p∈ys,p∈xs)∧ys.length≤xs.length:=by
 refine⟨vq xs lo hi,?_,fun p hp=>?_,?_⟩
 ·unfold vq;simp only[List.length_map,List.map_drop,List.map_take]
 ·unfold vq at hp;exact List.mem_of_mem_drop (List.mem_of_mem_take hp)
 ·unfold vq;rw[List.length_take,List.length_drop];omega
theorem Oi{names:List Str}{aj:List Ar}(N:Nt names aj)(c:Int):∃ B:List Ar,lg [.d (cU names),.d (bQ aj),.d (.int c)]=.ok (.d (bQ B))∧Rk B∧(∀ p∈B,p.1∈names∧p.2∈names):=by
 have hal:=N.al
 have hle:=N.le
 unfold lg zW
 rw[Tn]
 have hlen:mN gB [(mV 1)] [some (.d (cU names)),some (.d (bQ aj)),some (.d (.int c)),none,none,none,none,none]=.ok (.int (aj.length:Int)):=(iB (x:=bQ aj) rfl).trans (by unfold bQ;rw[Lw,List.length_map])
 have ct:T7 (cB (m2 oK (m2 cX (mV 2) (mC (.int 3))) (mC (.int 0)))) (cB (m2 oK (mN gB [(mV 1)]) (mC (.int 0)))) [some (.d (cU names)),some (.d (bQ aj)),some (.d (.int c)),none,none,none,none,none]=.ok (decide (c % 3=0) || decide ((aj.length:Int)=0)) :=
  Ec (bZ (aF (aF rfl rfl (aq (by decide))) rfl (qd _ _))) fun _=>bZ (aF hlen rfl (qd _ _))
 by_cases hc:(decide (c % 3=0) || decide ((aj.length:Int)=0))=true
 ·rw[hc] at ct
  have ecr:(frees names aj).map pairD=names.flatMap fun a=>names.flatMap fun b=>if (!decide (a=b) && (!decide ((a,b)∈aj) && !decide ((b,a)∈aj))) then [pairD (a,b)] else []:=by
   unfold frees
   rw[fU]
   refine cI fun t _=>?_
   rw[List.map_map,m8 (fun b=>!decide (t=b) && (!decide ((t,b)∈aj) && !decide ((b,t)∈aj))) (fun b=>pairD (t,b))];rfl
  have adC:(frees names aj).length≤64:=by
   unfold frees
   refine Nat.le_trans (rD (m:=8) fun t _=>?_) (by omega)
   rw[List.length_map]
   exact Nat.le_trans (List.length_filter_le _ _) hle
  have PL:((frees names aj).map pairD).length≤64:=by rw[List.length_map];exact adC
  have fin:∀ p∈frees names aj,p.1∈names∧p.2∈names:=fun p hp=>by
   unfold frees at hp
   obtain⟨a,ha,hp⟩:=List.mem_flatMap.mp hp
   obtain⟨b,hb,rfl⟩:=List.mem_map.mp hp
   exact⟨ha,(List.mem_filter.mp hb).1⟩
  rw[ecr] at PL
  obtain⟨e',f1,o4,o5,he⟩:=iY (tg:=.n 4) (body:=(jR (lJ (mV 0)) (.n 5)
 (iI (nq (cB (m2 wA (mV 4) (mV 5))) (nq (cB (m2 dY (mN dTup [(mV 4),(mV 5)]) (mV 1))) (cB (m2 dY (mN dTup [(mV 5),(mV 4)]) (mV 1)))))
 (bU 3 (mN dTup [(mV 4),(mV 5)]))
 bA)))
   D.str (fun a=>names.flatMap fun b=>if (!decide (a=b) && (!decide ((a,b)∈aj) && !decide ((b,a)∈aj))) then [pairD (a,b)] else [])
   (fun acc e=>∃ o4 o5:Option W,e=[some (.d (cU names)),some (.d (bQ aj)),some (.d (.int c)),some (.d (.lst acc)),o4,o5,none,none]) names [] [some (.d (cU names)),some (.d (bQ aj)),some (.d (.int c)),some (.d (.lst [])),none,none,none,none] (by simp only[List.length_nil];omega) ⟨none,none,rfl⟩
   (fun a ha acc e hl ⟨o4,o5,he⟩=>by
    subst he
    obtain⟨e',g1,o5',he'⟩:=iY (tg:=.n 5) (body:=(iI (nq (cB (m2 wA (mV 4) (mV 5))) (nq (cB (m2 dY (mN dTup [(mV 4),(mV 5)]) (mV 1))) (cB (m2 dY (mN dTup [(mV 5),(mV 4)]) (mV 1)))))
 (bU 3 (mN dTup [(mV 4),(mV 5)]))
 bA))
     D.str (fun b=>if (!decide (a=b) && (!decide ((a,b)∈aj) && !decide ((b,a)∈aj))) then [pairD (a,b)] else [])
     (fun acc e=>∃ o5:Option W,e=[some (.d (cU names)),some (.d (bQ aj)),some (.d (.int c)),some (.d (.lst acc)),some (.d (.str a)),o5,none,none]) names acc [some (.d (cU names)),some (.d (bQ aj)),some (.d (.int c)),some (.d (.lst acc)),some (.d (.str a)),o5,none,none] hl ⟨_,rfl⟩
     (fun b hb acc e hl ⟨o5,he⟩=>by
      subst he
      exact⟨[some (.d (cU names)),some (.d (bQ aj)),some (.d (.int c)),some (.d (.lst acc)),some (.d (.str a)),some (.d (.str b)),none,none],putL [some (.d (cU names)),some (.d (bQ aj)),some (.d (.int c)),some (.d (.lst acc)),some (.d (.str a)),some (.d (.str b)),none,none] 3 (acc++if (!decide (a=b) && (!decide ((a,b)∈aj) && !decide ((b,a)∈aj))) then [pairD (a,b)] else []),rfl,
       Qc (Bm (bZ (aF rfl rfl (Zc a b))) fun _=>Bm (bZ (aF (kh rfl rfl) rfl (oE aj (a,b)))) fun _=>bZ (aF (kh rfl rfl) rfl (oE aj (b,a)))) (fun _=>kh rfl rfl) rfl hl rfl,_,rfl⟩)
    subst he'
    exact⟨[some (.d (cU names)),some (.d (bQ aj)),some (.d (.int c)),some (.d (.lst acc)),some (.d (.str a)),o5,none,none],_,rfl,(iD (dO (x:=cU names) rfl rfl)).trans g1,_,_,rfl⟩)
  subst he
  rw[List.nil_append,← ecr] at f1
  obtain⟨good,hgood⟩ : ∃ good,good=(frees names aj).filter fun p=>!Qv names (aj++[p]):=⟨_,rfl⟩
  have afc:good.length≤64:=by rw[hgood];exact Nat.le_trans (List.length_filter_le _ _) adC
  have adx:dN (.n 2) (lN (cB (aR dH [(wD (mV 0)),(wD (m2 cG (mV 1) (mN fP [(mV 2)])))]))) (mV 2) [some (.d (cU names)),some (.d (bQ aj)),none] ((frees names aj).map pairD)=.ok (good.map pairD):=by
   rw[hgood]
   exact cJ pairD pairD (fun p=>!Qv names (aj++[p])) (frees names aj) fun p _=>⟨[some (.d (cU names)),some (.d (bQ aj)),some (.d (pairD p))],rfl,by
    have ha:m2 cG (mV 1) (mN fP [(mV 2)]) [some (.d (cU names)),some (.d (bQ aj)),some (.d (pairD p))]=.ok (bQ (aj++[p])):=by
     refine(aF rfl (Wb rfl) (aq (by rw[List.length_map];simp;omega))).trans ?_
     unfold bQ;rw[List.map_append];rfl
    exact JF (bZ (call2 rfl (cu ha) (Mx hle (by rw[List.length_append];simp;omega)))),fun _=>rfl⟩
  rw[um (s:=iI _ _ _) (w:=.d (bQ (if 0 < good.length then aj++[good.getD (c / 3 % (good.length:Int)).toNat (Str.empty,Str.empty)] else aj.drop 1)))]
  ·refine⟨_,rfl,?_,?_⟩
   ·by_cases h:0 < good.length
    ·rw[if_pos h]
     have z0:=Int.emod_nonneg (c / 3) (b:=(good.length:Int)) (by omega)
     have z1:=Int.emod_lt_of_pos (c / 3) (b:=(good.length:Int)) (by omega)
     have hk:(c / 3 % (good.length:Int)).toNat < good.length:=by omega
     rw[List.getD_eq_getElem?_getD,List.getElem?_eq_getElem hk,Option.getD_some]
     have hm:good[(c / 3 % (good.length:Int)).toNat]∈(frees names aj).filter fun p=>!Qv names (aj++[p]):=by rw[← hgood];exact List.getElem_mem hk
     obtain⟨h1,h2⟩:=List.mem_filter.mp hm
     exact KC (names:=names) (fun p hp=>by
      rcases List.mem_append.mp hp with z|z
      ·exact N.inn p z
      ·rw[List.mem_singleton.mp z];exact fin _ h1) (by simpa using h2)
    ·rw[if_neg h];exact N.rk.sub fun p hp=>List.mem_of_mem_drop hp
   ·intro p hp
    by_cases h:0 < good.length
    ·rw[if_pos h] at hp
     rcases List.mem_append.mp hp with z|z
     ·exact N.inn p z
     ·have z0:=Int.emod_nonneg (c / 3) (b:=(good.length:Int)) (by omega)
      have z1:=Int.emod_lt_of_pos (c / 3) (b:=(good.length:Int)) (by omega)
      have hk:(c / 3 % (good.length:Int)).toNat < good.length:=by omega
      rw[List.getD_eq_getElem?_getD,List.getElem?_eq_getElem hk,Option.getD_some] at z
      have hm:good[(c / 3 % (good.length:Int)).toNat]∈(frees names aj).filter fun p=>!Qv names (aj++[p]):=by rw[← hgood];exact List.getElem_mem hk
      rw[List.mem_singleton.mp z]
      exact fin _ (List.mem_filter.mp hm).1
    ·rw[if_neg h] at hp;exact N.inn p (List.mem_of_mem_drop hp)
  ·rw[show ([some (W.d (cU names)),some (W.d (bQ aj)),some (W.d (.int c))]++List.replicate (8 - 3) none)=[some (W.d (cU names)),some (W.d (bQ aj)),some (W.d (.int c)),none,none,none,none,none] from rfl]
   rw[lH ct]
   rw[aL (e':=[some (.d (cU names)),some (.d (bQ aj)),some (.d (.int c)),some (.d (.lst [])),none,none,none,none]) (bj (yM _))]
   rw[aL ((iD (dO (x:=cU names) rfl rfl)).trans f1)]
   rw[aL (e':=[some (.d (cU names)),some (.d (bQ aj)),some (.d (.int c)),some (.d (bQ good)),o4,o5,none,none]) (bj (cY (dO (x:=.lst ((frees names aj).map pairD)) rfl rfl) (by rw[List.length_map];omega) adx))]
   have hgl:mN gB [(mV 3)] [some (.d (cU names)),some (.d (bQ aj)),some (.d (.int c)),some (.d (bQ good)),o4,o5,none,none]=.ok (.int (good.length:Int)):=(iB (x:=bQ good) rfl).trans (by unfold bQ;rw[Lw,List.length_map])
   have cg:cB (m2 XX (mN gB [(mV 3)]) (mC (.int 0))) [some (.d (cU names)),some (.d (bQ aj)),some (.d (.int c)),some (.d (bQ good)),o4,o5,none,none]=.ok (decide ((0:Int) < (good.length:Int))):=bZ (aF hgl rfl rfl)
   by_cases h:0 < good.length
   ·rw[decide_eq_true (by omega)] at cg
    have z0:=Int.emod_nonneg (c / 3) (b:=(good.length:Int)) (by omega)
    have z1:=Int.emod_lt_of_pos (c / 3) (b:=(good.length:Int)) (by omega)
    have hk:(c / 3 % (good.length:Int)).toNat < good.length:=by omega
    have hix:cz (bQ good) (.int (c / 3 % (good.length:Int)))=.ok (pairD (good.getD (c / 3 % (good.length:Int)).toNat (Str.empty,Str.empty))):=by
     show t8 (wB (good.map pairD) _)=_
     unfold wB J0
     rw[if_pos z0,List.length_map,if_pos z1]
     show t8 ((good.map pairD)[(c / 3 % (good.length:Int)).toNat]?)=_
     rw[List.getElem?_map,List.getElem?_eq_getElem hk,List.getD_eq_getElem?_getD,List.getElem?_eq_getElem hk];rfl
    rw[um (w:=.d (bQ (aj++[good.getD (c / 3 % (good.length:Int)).toNat (Str.empty,Str.empty)]))),if_pos h]
    refine(lH cg).trans (dm (cu ?_))
    refine(aF (x:=bQ aj) rfl (Wb (aF (x:=bQ good) rfl (aF (aF rfl rfl (aq (cQ (by decide) (by decide)))) hgl (aq (by omega))) hix)) (aq (by rw[List.length_map];simp;omega))).trans ?_
    unfold bQ;rw[List.map_append];rfl
   ·rw[decide_eq_false (by omega)] at cg
    rw[aL ((fO cg).trans rfl),if_neg h]
    refine dm (cu ?_)
    rw[BW (x:=bQ aj) (i:=1) rfl rfl]
    show Rs.ok (D.lst (vq (aj.map pairD) (some 1) none))=_
    rw[show (1:Int)=((1:Nat):Int) from rfl,Ms,← List.map_drop];rfl
 ·rw[Bool.not_eq_true] at hc
  rw[hc] at ct
  rw[Bool.or_eq_false_iff] at hc
  have hc2:¬ (aj.length:Int)=0:=by simpa using hc.2
  have z0:=Int.emod_nonneg (c / 3) (b:=(aj.length:Int)) (by omega)
  have z1:=Int.emod_lt_of_pos (c / 3) (b:=(aj.length:Int)) (by omega)
  obtain⟨at_,hat⟩ : ∃ a:Int,a=c / 3 % (aj.length:Int):=⟨_,rfl⟩
  rw[← hat] at z0 z1
  obtain⟨p,hp,hix⟩:=Vs (xs:=aj) z0 z1
  have start:∀ t:S,((aW t bA) []=(aW t bA) []):=fun _=>rfl
  rw[show ([some (W.d (cU names)),some (W.d (bQ aj)),some (W.d (.int c))]++List.replicate (8 - 3) none)=[some (W.d (cU names)),some (W.d (bQ aj)),some (W.d (.int c)),none,none,none,none,none] from rfl]
  rw[aL ((fO ct).trans rfl)]
  rw[aL (e':=[some (W.d (cU names)),some (W.d (bQ aj)),some (W.d (.int c)),none,none,none,some (.d (.int at_)),none]) (bj ((aF (aF rfl rfl (aq (cQ (by decide) (by decide)))) hlen (aq (by omega))).trans (by rw[hat])))]
  rw[aL (e':=[some (W.d (cU names)),some (W.d (bQ aj)),some (W.d (.int c)),none,none,none,some (.d (.int at_)),some (.d (bQ (nW p aj)))]) (bj (call2 (x:=.d (bQ aj)) rfl (cu (aF (x:=bQ aj) rfl rfl hix)) (wu (by omega))))]
  have c2:T7 (cB (m2 oK (m2 cX (mV 2) (mC (.int 3))) (mC (.int 1)))) (cB (aR dH [(wD (mV 0)),(wD (mV 7))])) [some (W.d (cU names)),some (W.d (bQ aj)),some (W.d (.int c)),none,none,none,some (.d (.int at_)),some (.d (bQ (nW p aj)))]=.ok (decide (c % 3=1) || Qv names (nW p aj)) :=
   Ec (bZ (aF (aF rfl rfl (aq (by decide))) rfl (qd _ _))) fun _=>bZ (call2 rfl rfl (Mx hle (by rw[Rg];omega)))
  cases hb:(decide (c % 3=1) || Qv names (nW p aj)) with
  | true =>
   rw[hb] at c2
   obtain⟨ys,y1,y2,y3⟩:=Ru (xs:=aj) (lo:=none) (hi:=some at_)
   obtain⟨zs,w1,w2,w3⟩:=Ru (xs:=aj) (lo:=some (at_+1)) (hi:=none)
   rw[um (w:=.d (bQ (ys++zs)))]
   ·refine⟨_,rfl,N.rk.sub fun q hq=>?_,fun q hq=>?_⟩
    ·rcases List.mem_append.mp hq with z|z
     ·exact y2 q z
     ·exact w2 q z
    ·rcases List.mem_append.mp hq with z|z
     ·exact N.inn q (y2 q z)
     ·exact N.inn q (w2 q z)
   ·refine(lH c2).trans (dm (cu ?_))
    refine(aF ((U8 (x:=bQ aj) (i:=at_) rfl rfl).trans rfl) ((BW (x:=bQ aj) (i:=at_+1) rfl (aF rfl rfl rfl)).trans rfl) rfl).trans ?_
    show cG (.lst (vq (aj.map pairD) none (some at_))) (.lst (vq (aj.map pairD) (some (at_+1)) none))=_
    rw[y1,w1]
    show aU _ _=_
    rw[aq (by rw[List.length_map,List.length_map];omega)]
    unfold bQ;rw[List.map_append]
  | false =>
   rw[hb] at c2
   rw[aL ((fO c2).trans rfl)]
   rw[Bool.or_eq_false_iff] at hb
   have Y5:∀ q∈nW p aj,q.1∈names∧q.2∈names:=fun q hq=>by
    rcases (sI hp).mp hq with z|z
    ·exact N.inn q z.1
    ·rw[z];exact⟨(N.inn _ hp).2,(N.inn _ hp).1⟩
   exact⟨nW p aj,rfl,KC Y5 hb.2,Y5⟩
end Mr
namespace Mr
open PySem Mi
def sq(k:Bool)(ds:List D):D:=if k then .lst ds else .tup ds
theorem yC:∀ xs ys:List Ar,fL (xs.map pairD) (ys.map pairD)=decide (xs=ys)
 | [],[]=>rfl
 | [],y::r=>by simp[fL]
 | x::r,[]=>by simp[fL]
 | x::r,y::t=>by
  rw[List.map_cons,List.map_cons,fL,yE,yC r t]
  by_cases h:x=y<;>by_cases k:r=t<;>simp[h,k]
end Mr
namespace Mr
open PySem Mi
theorem xO:∀ a b:List Int,pP a b=true→pP b a=true→False
 | [],[],h,_=>by cases h
 | [],_::_,_,h=>by cases h
 | _::_,[],h,_=>by cases h
 | a::r,b::t,h,k=>by
  rw[pP] at h k
  by_cases e:a=b
  ·subst e
   rw[if_pos (beq_self_eq_true a)] at h k
   exact xO r t h k
  ·rw[if_neg (by simpa using e)] at h
   rw[if_neg (by simpa using Ne.symm e)] at k
   simp at h k;omega
theorem Dc{a b:Int}{r t:List Int}(h:a < b):pP (a::r) (b::t)=true:=by
 rw[pP,if_neg (by simp;omega)]
 simpa using h
theorem Bf{a:Int}{r t:List Int}:pP (a::r) (a::t)=pP r t:=by
 rw[pP,if_pos (beq_self_eq_true a)]
section
variable{α : Type}(key:α→List Int)
theorem Gb:∀ {a b:List α},(∀ x,x∈a↔x∈b)→a.Pairwise (fun x y=>pP (key x) (key y)=true)→b.Pairwise (fun x y=>pP (key x) (key y)=true)→a=b
 | [],[],_,_,_=>rfl
 | [],y::t,h,_,_=>absurd ((h y).mpr List.mem_cons_self) (by simp)
 | x::r,[],h,_,_=>absurd ((h x).mp List.mem_cons_self) (by simp)
 | x::r,y::t,h,ha,hb=>by
  have ha':=List.pairwise_cons.mp ha
  have hb':=List.pairwise_cons.mp hb
  have e:x=y:=by
   rcases List.mem_cons.mp ((h x).mp List.mem_cons_self) with z|z
   ·exact z
   ·rcases List.mem_cons.mp ((h y).mpr List.mem_cons_self) with z2|z2
    ·exact z2.symm
    ·exact(xO _ _ (hb'.1 x z) (ha'.1 y z2)).elim
  subst e
  have nr:x∉r:=fun z=>xO _ _ (ha'.1 x z) (ha'.1 x z)
  have nt:x∉t:=fun z=>xO _ _ (hb'.1 x z) (hb'.1 x z)
  rw[Gb (a:=r) (b:=t) (fun z=>⟨fun hz=>?_,fun hz=>?_⟩) ha'.2 hb'.2]
  ·rcases List.mem_cons.mp ((h z).mp (List.mem_cons_of_mem _ hz)) with q|q
   ·exact absurd (q ▸ hz) nr
   ·exact q
  ·rcases List.mem_cons.mp ((h z).mpr (List.mem_cons_of_mem _ hz)) with q|q
   ·exact absurd (q ▸ hz) nt
   ·exact q
theorem Sh{kz:List (List Int)}(nd:kz.Nodup):(Ak kz kz.length).Perm (List.range kz.length)∧(Ak kz kz.length).Pairwise (fun i j=>pP (kz.getD i []) (kz.getD j [])=true):=by
 have O:=So.Ja nd
 have e:Ak kz kz.length=sortI (So.YF kz) (List.range kz.length):=by
  unfold Ak So.YF
  congr 1
  funext i j
  exact(So.Jc _ _).symm
 rw[e]
 refine⟨So.qL _ _,(So.ug O (fun x hx=>by simpa using hx) List.nodup_range).imp fun {i j} h=>?_⟩
 rw[← So.Jc];exact h
theorem RV[Inhabited α](f:α→D){xs ys:List α}(nd:(xs.map key).Nodup)(hm:∀ a,a∈xs↔a∈ys)(hs:ys.Pairwise fun a b=>pP (key a) (key b)=true):sortBy (xs.map key) (xs.map f)=ys.map f:=by
 obtain⟨h1,h2⟩:=Sh nd
 rw[List.length_map] at h1 h2
 have lt:∀ i∈Ak (xs.map key) xs.length,i < xs.length:=fun i hi=>by simpa using h1.mem_iff.mp hi
 have gd:∀ i,i < xs.length→∀ (β : Type) (g:α→β) (d:β),(xs.map g).getD i d=g (xs.getD i default):=fun i hi β g d=>by simp[hi]
 have e:sortBy (xs.map key) (xs.map f)=((Ak (xs.map key) xs.length).map fun i=>xs.getD i default).map f:=by
  unfold sortBy
  rw[List.length_map,List.map_map]
  exact List.map_congr_left fun i hi=>gd i (lt i hi) _ f _
 have e2 : ((Ak (xs.map key) xs.length).map fun i => xs.getD i default) = ys := by
  refine Gb key (fun a=>?_) ?_ hs
  ·rw[← hm a,List.mem_map]
   constructor
   ·rintro ⟨i,hi,rfl⟩
    have:=lt i hi
    rw[List.getD_eq_getElem?_getD,List.getElem?_eq_getElem this]
    exact List.getElem_mem this
   ·intro ha
    obtain⟨i,hi,rfl⟩:=List.getElem_of_mem ha
    exact⟨i,h1.mem_iff.mpr (List.mem_range.mpr hi),by simp[hi]⟩
  ·rw[List.pairwise_map]
   refine h2.imp_of_mem fun {i j} hi hj h=>?_
   rw[gd i (lt i hi) _ key,gd j (lt j hj) _ key] at h
   exact h
 rw[e,e2]
end
theorem Nk:∀ l:List Int,Er (l.map D.int)=some l
 | []=>rfl
 | i::r=>by rw[List.map_cons,Er,Nk r];rfl
theorem Q4{α : Type}{ρ : List Nat}{kf:E}{e:Mi.Env}(f:α→D)(key:α→List Int):∀ {xs:List α},(∀ x∈xs,kf (Jf ρ e (f x))=.ok (.lst ((key x).map D.int)))→rn ρ kf e (xs.map f)=.ok (xs.map key)
 | [],_=>rfl
 | x::r,h=>by
  rw[List.map_cons,rn,h x List.mem_cons_self,aG,Nj,Nk,jy,aG,Q4 f key fun y hy=>h y (List.mem_cons_of_mem _ hy)]
  rfl
def ky(names row:List Str):List Int:=row.map fun x=>((names.idxOf x:Nat):Int)
theorem ZG(names:List Str):ZJ (cU names)=some names:=rF names
theorem Kz{α : Type}[Inhabited α]{names:List Str}{nx:D}(hq:ZJ nx=some names)(hn:names.length≤1000)(row:α→List Str){xs ys:List α}(hr:∀ x∈xs,(row x).length≤1000∧∀ y∈row x,y∈names)(h64:xs.length < 64)(nd:(xs.map fun x=>ky names (row x)).Nodup)
 (hm:∀ a,a∈xs↔a∈ys) (hs:ys.Pairwise fun a b=>pP (ky names (row a)) (ky names (row b))=true) :
 dC [.d nx,.d (.lst (xs.map fun x=>.tup ((row x).map D.str)))]=.ok (.d (.lst (ys.map fun x=>.tup ((row x).map D.str)))):=by
 unfold dC vI
 rw[Tj]
 rw[show ([some (W.d nx),some (W.d (.lst (xs.map fun x=>.tup ((row x).map D.str))))]++List.replicate (2 - 2) none)=[some (W.d nx),some (W.d (.lst (xs.map fun x=>.tup ((row x).map D.str))))] from rfl]
 have hk:rn [0] (cW [some 1,none] (lJ (mV 0)) (.n 1) jM (m2 W0 (mV 0) (mV 1))) [some (W.d nx),some (W.d (.lst (xs.map fun x=>.tup ((row x).map D.str))))] (xs.map fun x=>.tup ((row x).map D.str))=.ok (xs.map fun x=>ky names (row x)) :=
  Q4 (fun x=>.tup ((row x).map D.str)) (fun x=>ky names (row x)) fun x hx=>by
   have hc:dN (.n 1) jM (m2 W0 (mV 0) (mV 1)) [some (W.d nx),none] ((row x).map D.str)=.ok (((row x).filter fun _=>true).map fun y=>D.int ((names.idxOf y:Nat):Int)) :=
    cJ D.str (fun y=>D.int ((names.idxOf y:Nat):Int)) (fun _=>true) (row x) fun y hy=>⟨[some (W.d nx),some (W.d (.str y))],rfl,rfl,fun _=>aF (x:=nx) (y:=.str y) rfl rfl (by
     show ((t8 (ZJ nx)).bind fun ys=>aU (y∈ys∧ys.length≤1000) (Rs.ok (D.int ((ys.idxOf y:Nat):Int))))=_
     rw[hq,jy,aG]
     exact aq ⟨(hr x hx).2 y hy,hn⟩)⟩
   have hm:=cY (ρ:=[some 1,none]) (e:=Jf [0] [some (W.d nx),some (W.d (.lst (xs.map fun x=>.tup ((row x).map D.str))))] (.tup ((row x).map D.str))) (dO (a:=mV 0) (x:=.tup ((row x).map D.str)) rfl rfl) (by rw[List.length_map];have:=(hr x hx).1;omega) hc
   rw[hm,List.filter_eq_self.mpr (fun _ _=>rfl)]
   show Rs.ok (D.lst _)=Rs.ok (D.lst ((ky names (row x)).map D.int))
   unfold ky
   rw[List.map_map];rfl
 have hS:IW [0] (mV 1) (cW [some 1,none] (lJ (mV 0)) (.n 1) jM (m2 W0 (mV 0) (mV 1))) [some (W.d nx),some (W.d (.lst (xs.map fun x=>.tup ((row x).map D.str))))]=.ok (.lst (ys.map fun x=>.tup ((row x).map D.str))):=by
  unfold IW
  rw[show mV 1 [some (W.d nx),some (W.d (.lst (xs.map fun x=>.tup ((row x).map D.str))))]=.ok (.lst (xs.map fun x=>.tup ((row x).map D.str))) from rfl,aG]
  rw[show Gn (.lst (xs.map fun x=>.tup ((row x).map D.str)))=.ok (xs.map fun x=>.tup ((row x).map D.str)) from rfl,aG,aq (by rw[List.length_map];exact h64),hk,aG,aq nd,RV (fun x=>ky names (row x)) _ nd hm hs]
 rw[dm (cu hS)];rfl
theorem Yj{α : Type}[Inhabited α]{names:List Str}(hn:names.length≤1000)(row:α→List Str){xs ys:List α}(hr:∀ x∈xs,(row x).length≤1000∧∀ y∈row x,y∈names)(h64:xs.length < 64)(nd:(xs.map fun x=>ky names (row x)).Nodup)
 (hm:∀ a,a∈xs↔a∈ys) (hs:ys.Pairwise fun a b=>pP (ky names (row a)) (ky names (row b))=true) :
 dC [.d (cU names),.d (.lst (xs.map fun x=>.tup ((row x).map D.str)))]=.ok (.d (.lst (ys.map fun x=>.tup ((row x).map D.str)))):=Kz (ZG names) hn row hr h64 nd hm hs
end Mr
namespace Mr
open PySem Mi
def prs(names:List Str):List Ar:=(List.range names.length).flatMap fun k=>(names.drop (k+1)).map fun b=>(nth names k,b)
def Um(names:List Str)(aj:List Ar)(p:Ar):List Str:=names.filter fun m=>decide ((p.1,m)∈aj) && decide ((p.2,m)∈aj)
def Uo(names:List Str)(aj:List Ar):List Qe:=(prs names).flatMap fun p=>if (!tie aj p.1 p.2)=true then (Um names aj p).map fun m=>(p.1,m,p.2) else []
theorem xM{names:List Str}{a b:Str}:(a,b)∈prs names↔∃ k,k < names.length∧a=nth names k∧b∈names.drop (k+1):=by
 unfold prs
 simp only[List.mem_flatMap,List.mem_map,List.mem_range,Prod.mk.injEq]
 constructor
 ·rintro ⟨k,hk,b',hb,rfl,rfl⟩;exact⟨k,hk,rfl,hb⟩
 ·rintro ⟨k,hk,rfl,hb⟩;exact⟨k,hk,b,hb,rfl,rfl⟩
theorem QT{names:List Str}{aj:List Ar}(t:Qe):t∈Uo names aj↔t∈ni names aj:=by
 obtain⟨a,m,b⟩:=t
 rw[xN]
 unfold Uo Um tie wQ
 simp only[List.mem_flatMap]
 constructor
 ·rintro ⟨⟨a',b'⟩,hp,h⟩
  split at h
  ·rename_i ht
   obtain⟨m',hm,e⟩:=List.mem_map.mp h
   cases e
   obtain⟨hm1,hm2⟩:=List.mem_filter.mp hm
   obtain⟨k,hk,e,hb⟩:=xM.mp hp
   exact⟨k,hk,e,hm1,hb,by rw[hm2,ht];rfl⟩
  ·cases h
 ·rintro ⟨k,hk,e,hm,hb,hc⟩
  have hc':=Bool.and_eq_true_iff.mp hc
  refine⟨(a,b),xM.mpr ⟨k,hk,e,hb⟩,?_⟩
  rw[if_pos hc'.2]
  exact List.mem_map.mpr ⟨m,List.mem_filter.mpr ⟨hm,hc'.1⟩,rfl⟩
theorem xQ{names:List Str}(nd:names.Nodup){i:Nat}(hi:i < names.length):names.idxOf (nth names i)=i:=by
 have e:nth names i=names[i]:=by unfold nth;rw[List.getD_eq_getElem?_getD,List.getElem?_eq_getElem hi];rfl
 rw[e];exact nd.idxOf_getElem i hi
theorem cF{names:List Str}{x y:Str}(hx:x∈names)(hy:y∈names)(h:names.idxOf x=names.idxOf y):x=y:=by
 have h1:=List.getElem_idxOf (List.idxOf_lt_length_iff.mpr hx)
 have h2:=List.getElem_idxOf (List.idxOf_lt_length_iff.mpr hy)
 rw[← h1,← h2]
 congr 1
theorem Li{names:List Str}(nd:names.Nodup):names.Pairwise fun x y=>names.idxOf x < names.idxOf y:=by
 rw[List.pairwise_iff_getElem]
 intro i j hi hj h
 rw[nd.idxOf_getElem i hi,nd.idxOf_getElem j hj];exact h
theorem WM{names:List Str}(nd:names.Nodup){k:Nat}{b:Str}(hb:b∈names.drop (k+1)):k < names.idxOf b∧b∈names:=by
 obtain⟨i,hi,rfl⟩:=List.getElem_of_mem hb
 rw[List.getElem_drop]
 rw[List.length_drop] at hi
 rw[nd.idxOf_getElem (k+1+i) (by omega)]
 exact⟨by omega,List.getElem_mem _⟩
def tr(t:Qe):List Str:=[t.1,t.2.1,t.2.2]
theorem Mu{names:List Str}(nd:names.Nodup)(aj:List Ar):(ni names aj).Pairwise fun x y=>pP (ky names (tr x)) (ky names (tr y))=true:=by
 unfold ni
 rw[List.pairwise_flatMap]
 refine⟨fun k hk=>?_,List.pairwise_lt_range.imp_of_mem fun {k1 k2} h1 h2 h x hx y hy=>?_⟩
 ·rw[List.pairwise_flatMap]
  refine⟨fun m hm=>?_,(Li nd).imp fun {m1 m2} h x hx y hy=>?_⟩
  ·rw[List.pairwise_map]
   refine((Li nd).sublist (List.Sublist.trans List.filter_sublist (List.drop_sublist _ _))).imp fun {b1 b2} h=>?_
   show pP [_,_,_] [_,_,_]=true
   rw[Bf,Bf]
   exact Dc (Int.ofNat_lt.mpr h)
  ·obtain⟨b1,_,rfl⟩:=List.mem_map.mp hx
   obtain⟨b2,_,rfl⟩:=List.mem_map.mp hy
   show pP [_,_,_] [_,_,_]=true
   rw[Bf]
   exact Dc (Int.ofNat_lt.mpr h)
 ·obtain⟨m1,_,hx⟩:=List.mem_flatMap.mp hx
  obtain⟨m2,_,hy⟩:=List.mem_flatMap.mp hy
  obtain⟨b1,_,rfl⟩:=List.mem_map.mp hx
  obtain⟨b2,_,rfl⟩:=List.mem_map.mp hy
  have e1:=xQ nd (List.mem_range.mp h1)
  have e2:=xQ nd (List.mem_range.mp h2)
  exact Dc (by show ((names.idxOf (nth names k1):Nat):Int) < ((names.idxOf (nth names k2):Nat):Int);rw[e1,e2];omega)
theorem aa0{names:List Str}(nd:names.Nodup):(prs names).Nodup:=by
 unfold prs
 show List.Pairwise _ _
 rw[List.pairwise_flatMap]
 refine⟨fun k hk=>?_,List.pairwise_lt_range.imp_of_mem fun {k1 k2} h1 h2 h x hx y hy=>?_⟩
 ·rw[List.pairwise_map]
  exact(nd.sublist (List.drop_sublist _ _)).imp fun {b1 b2} h z=>h (by cases z;rfl)
 ·obtain⟨b1,_,rfl⟩:=List.mem_map.mp hx
  obtain⟨b2,_,rfl⟩:=List.mem_map.mp hy
  intro z
  have:=j6 nd (List.mem_range.mp h1) (List.mem_range.mp h2) (congrArg Prod.fst z)
  omega
theorem W7{names:List Str}(nd:names.Nodup)(aj:List Ar):(Uo names aj).Nodup:=by
 unfold Uo
 show List.Pairwise _ _
 rw[List.pairwise_flatMap]
 have inn:∀ {p:Ar} {x:Qe},x∈(if (!tie aj p.1 p.2)=true then (Um names aj p).map fun m=>(p.1,m,p.2) else [])→x.1=p.1∧x.2.2=p.2:=fun {p x} h=>by
  split at h
  ·obtain⟨m,_,rfl⟩:=List.mem_map.mp h;exact⟨rfl,rfl⟩
  ·cases h
 refine⟨fun p hp=>?_,(aa0 nd).imp fun {p q} h x hx y hy z=>?_⟩
 ·split
  ·rw[List.pairwise_map]
   exact(nd.sublist List.filter_sublist).imp fun {b1 b2} h z=>h (by cases z;rfl)
  ·exact .nil
 ·subst z
  obtain⟨a1,a2⟩:=inn hx
  obtain⟨b1,b2⟩:=inn hy
  exact h (Prod.ext (a1.symm.trans b1) (a2.symm.trans b2))
theorem CN{α : Type}[DecidableEq α]:∀ {l L:List α},l.Nodup→(∀ x∈l,x∈L)→l.length≤L.length
 | [],_,_,_=>Nat.zero_le _
 | x::r,L,nd,h=>by
  have nd':=List.nodup_cons.mp nd
  have hx:=h x List.mem_cons_self
  have:=CN (l:=r) (L:=L.erase x) nd'.2 fun y hy=>(List.mem_erase_of_ne (fun z:y=x=>nd'.1 (z ▸ hy))).mpr (h y (List.mem_cons_of_mem _ hy))
  rw[List.length_erase_of_mem hx] at this
  have:=List.length_pos_of_mem hx
  rw[List.length_cons];omega
def cde(names:List Str)(t:Qe):Nat :=
 if names.idxOf t.2.1 < names.idxOf t.1 then names.idxOf t.2.1 * 64+names.idxOf t.1 * 8+names.idxOf t.2.2
 else if names.idxOf t.2.1 < names.idxOf t.2.2 then names.idxOf t.1 * 64+names.idxOf t.2.1 * 8+names.idxOf t.2.2
 else names.idxOf t.1 * 64+names.idxOf t.2.2 * 8+names.idxOf t.2.1
structure CF(names:List Str)(aj:List Ar)(t:Qe):Prop where
 m1:t.1∈names
 m2:t.2.1∈names
 m3:t.2.2∈names
 l1:names.idxOf t.1 < 8
 l2:names.idxOf t.2.1 < 8
 l3:names.idxOf t.2.2 < 8
 up:names.idxOf t.1 < names.idxOf t.2.2
 n1:names.idxOf t.2.1≠names.idxOf t.1
 n2:names.idxOf t.2.1≠names.idxOf t.2.2
 a1:(t.1,t.2.1)∈aj
 a2:(t.2.2,t.2.1)∈aj
 z1:(t.1,t.2.2)∉aj
 z2:(t.2.2,t.1)∉aj
theorem za{names:List Str}{aj:List Ar}(N:Nt names aj){t:Qe}(h:t∈Uo names aj):CF names aj t:=by
 obtain⟨a,m,b⟩:=t
 obtain⟨k,hk,e,hm,hb,hc⟩:=xN.mp ((QT _).mp h)
 obtain⟨c1,c2,c3,c4⟩:=Bl.mp hc
 obtain⟨d1,d2⟩:=WM N.nd hb
 have ha:a∈names:=by rw[e];exact pZ hk
 have ei:names.idxOf a=k:=by rw[e];exact xQ N.nd hk
 have hn:=N.le
 obtain⟨r,hr⟩:=N.rk
 have i1:=List.idxOf_lt_length_iff.mpr hm
 have i2:=List.idxOf_lt_length_iff.mpr d2
 refine⟨ha,hm,d2,?_,?_,?_,?_,fun z=>?_,fun z=>?_,c1,c2,c3,c4⟩
 ·show names.idxOf a < 8;omega
 ·show names.idxOf m < 8;omega
 ·show names.idxOf b < 8;omega
 ·show names.idxOf a < names.idxOf b;omega
 ·have:=cF hm ha z
  have:=hr _ c1
  simp only at *
  subst m;omega
 ·have:=cF hm d2 z
  have:=hr _ c2
  simp only at *
  subst m;omega
theorem Zm{names:List Str}{aj:List Ar}{t u:Qe}(T:CF names aj t)(U:CF names aj u)(h:cde names t=cde names u):t=u:=by
 obtain⟨a,m,b⟩:=t
 obtain⟨a',m',b'⟩:=u
 obtain⟨m1,m2,m3,l1,l2,l3,up,n1,n2,a1,a2,z1,z2⟩:=T
 obtain⟨m1',m2',m3',l1',l2',l3',up',n1',n2',a1',a2',z1',z2'⟩:=U
 unfold cde at h
 simp only at *
 split at h
 ·split at h
  ·obtain rfl:=cF m1 m1' (by omega)
   obtain rfl:=cF m2 m2' (by omega)
   obtain rfl:=cF m3 m3' (by omega)
   rfl
  ·split at h
   ·obtain rfl:=cF m2 m1' (by omega)
    obtain rfl:=cF m3 m3' (by omega)
    exact absurd a2 z2'
   ·obtain rfl:=cF m2 m1' (by omega)
    obtain rfl:=cF m1 m3' (by omega)
    exact absurd a1 z2'
 ·split at h
  ·split at h
   ·obtain rfl:=cF m1 m2' (by omega)
    obtain rfl:=cF m3 m3' (by omega)
    exact absurd a2' z2
   ·split at h
    ·obtain rfl:=cF m1 m1' (by omega)
     obtain rfl:=cF m2 m2' (by omega)
     obtain rfl:=cF m3 m3' (by omega)
     rfl
    ·obtain rfl:=cF m1 m1' (by omega)
     obtain rfl:=cF m2 m3' (by omega)
     exact absurd a1 z1'
  ·split at h
   ·obtain rfl:=cF m1 m2' (by omega)
    obtain rfl:=cF m3 m1' (by omega)
    exact absurd a1' z2
   ·split at h
    ·obtain rfl:=cF m1 m1' (by omega)
     obtain rfl:=cF m3 m2' (by omega)
     exact absurd a1' z1
    ·obtain rfl:=cF m1 m1' (by omega)
     obtain rfl:=cF m2 m2' (by omega)
     obtain rfl:=cF m3 m3' (by omega)
     rfl
def c56:List Nat:=(List.range 512).filter fun n=>decide (n / 64 < n / 8 % 8) && decide (n / 8 % 8 < n % 8)
theorem Zn:c56.length=56:=by decide +kernel
theorem Zk{names:List Str}{aj:List Ar}{t:Qe}(T:CF names aj t):cde names t∈c56:=by
 obtain⟨m1,m2,m3,l1,l2,l3,up,n1,n2,a1,a2,z1,z2⟩:=T
 have key:∀ x y z:Nat,x < y→y < z→z < 8→x * 64+y * 8+z∈c56:=fun x y z h1 h2 h3=>by
  refine List.mem_filter.mpr ⟨List.mem_range.mpr (by omega),?_⟩
  have e1:(x * 64+y * 8+z) / 64=x:=by omega
  have e2:(x * 64+y * 8+z) / 8 % 8=y:=by omega
  have e3:(x * 64+y * 8+z) % 8=z:=by omega
  rw[e1,e2,e3];simp[h1,h2]
 unfold cde
 split
 ·exact key _ _ _ (by omega) (by omega) (by omega)
 ·split
  ·exact key _ _ _ (by omega) (by omega) (by omega)
  ·exact key _ _ _ (by omega) (by omega) (by omega)
theorem Rv{names:List Str}{aj:List Ar}(N:Nt names aj):(Uo names aj).length≤56:=by
 have h:((Uo names aj).map (cde names)).Nodup:=by
  show List.Pairwise _ _
  rw[List.pairwise_map]
  exact List.Pairwise.imp_of_mem (fun {x y} hx hy h z=>h (Zm (za N hx) (za N hy) z)) (W7 N.nd aj)
 have:=CN h (L:=c56) fun x hx=>by
  obtain⟨t,ht,rfl⟩:=List.mem_map.mp hx
  exact Zk (za N ht)
 rw[List.length_map,Zn] at this
 exact this
theorem YL{names:List Str}{aj:List Ar}(N:Nt names aj):((Uo names aj).map fun t=>ky names (tr t)).Nodup:=by
 show List.Pairwise _ _
 rw[List.pairwise_map]
 refine List.Pairwise.imp_of_mem (fun {x y} hx hy h z=>h ?_) (W7 N.nd aj)
 have X:=za N hx
 have Y:=za N hy
 obtain⟨a,m,b⟩:=x
 obtain⟨a',m',b'⟩:=y
 simp only[ky,tr,List.map_cons,List.map_nil,List.cons.injEq,and_true] at z
 obtain⟨z1,z2,z3⟩:=z
 obtain rfl:=cF X.m1 Y.m1 (by show names.idxOf a=names.idxOf a';omega)
 obtain rfl:=cF X.m2 Y.m2 (by show names.idxOf m=names.idxOf m';omega)
 obtain rfl:=cF X.m3 Y.m3 (by show names.idxOf b=names.idxOf b';omega)
 rfl
theorem PJ{names:List Str}{aj:List Ar}(N:Nt names aj):dC [.d (cU names),.d (.lst ((Uo names aj).map gH))]=.ok (.d (.lst ((ni names aj).map gH))) :=
 Yj (by have:=N.le;omega) tr (fun t ht=>⟨by show 3≤1000;omega,fun y hy=>by
  have T:=za N ht
  simp only[tr,List.mem_cons,List.not_mem_nil,or_false] at hy
  rcases hy with rfl|rfl|rfl
  ·exact T.m1
  ·exact T.m2
  ·exact T.m3⟩) (by have:=Rv N;omega) (YL N) (fun t=>QT t) (Mu N.nd aj)
end Mr
namespace Mr
open PySem Mi
theorem Wy{i:Nat}{a:E}{e:Mi.Env}{ds xs:List D}(ha:a e=.ok (.lst xs))(hg:getL e i=.ok ds)(hl:ds.length+xs.length≤16777216):rU i a e=.ok (.nx (putL e i (ds++xs))):=by
 unfold rU
 rw[ha,aG,hg,aG]
 exact aq hl
theorem S5{a b:E}{e:Mi.Env}{x y:D}(h:a e=.ok x)(h':b e=.ok y):mN fP [a,b] e=.ok (.lst [x,y]):=by
 unfold mN;rw[lF,h,aG,lF,h',aG];rfl
theorem wy{a:E}{e:Mi.Env}{x:D}(h:a e=.ok x):qQ a e=.ok (.nx e):=by unfold qQ;rw[h];rfl
theorem Aa{names:List Str}{aj:List Ar}{a b:Str}(ha:a∈names)(hb:b∈names):iu [.d (aH names aj),.d (.str a),.d (.str b)]=.ok (.d (.bl (tie aj a b))):=by
 unfold iu Eo
 rw[Tn]
 rw[show ([some (W.d (aH names aj)),some (W.d (.str a)),some (W.d (.str b))]++List.replicate (3 - 3) none)=[some (W.d (aH names aj)),some (W.d (.str a)),some (W.d (.str b))] from rfl]
 have hr:bu [.d (cU names),.d (bT [a,b])]=.ok (.d .non):=u5 fun x hx=>by
  rcases List.mem_cons.mp hx with rfl|hx
  ·exact ha
  ·rw[List.mem_singleton.mp hx];exact hb
 rw[aL (wy (call2 (cu (aF rfl rfl (Dh _ _))) (cu (S5 rfl rfl)) hr))]
 have aa:mOr (m2 pN (mN dTup [(mV 1),(mV 2)]) (m2 cz (mV 0) (mC (.int 1)))) (m2 pN (mN dTup [(mV 2),(mV 1)]) (m2 cz (mV 0) (mC (.int 1)))) [some (.d (aH names aj)),some (.d (.str a)),some (.d (.str b))]=.ok (.bl (tie aj a b)) :=
  abr (aF (kh rfl rfl) (aF rfl rfl (Q8 names aj)) (m9 aj (a,b))) fun _=>aF (kh rfl rfl) (aF rfl rfl (Q8 names aj)) (m9 aj (b,a))
 rw[dm (cu aa)];rfl
theorem HS{names:List Str}(hn:names.length≤8):(prs names).length≤64:=by
 unfold prs
 refine Nat.le_trans (rD (m:=8) fun k _=>?_) (by rw[List.length_range];omega)
 rw[List.length_map,List.length_drop];omega
theorem Qt{names:List Str}{a b:E}{e:Mi.Env}{k:Nat}(hk:k < names.length)(hn:names.length≤8)(ha:a e=.ok (cU names))(hb:b e=.ok (.int (k:Nat))):lJ (jh Dz a (some (m2 cG b (mC (.int 1)))) none) e=.ok ((names.drop (k+1)).map D.str):=by
 have sl:jh Dz a (some (m2 cG b (mC (.int 1)))) none e=.ok (.tup ((names.map D.str).drop (k+1))):=by
  rw[BW ha (aF (a:=b) (b:=mC (.int 1)) (x:=.int (k:Nat)) (y:=.int 1) hb rfl rfl)]
  show aU _ _=_
  rw[aq (by rw[List.length_map];omega),show ((k:Nat):Int)+1=((k+1:Nat):Int) by omega,Int.toNat_natCast]
 rw[dO sl rfl,List.map_drop]
theorem K3{names:List Str}(hn:names.length≤8):iJ [.d (cU names)]=.ok (.d (bQ (prs names))):=by
 unfold iJ Eh
 rw[Py]
 have epr:(prs names).map pairD=(List.range names.length).flatMap fun k=>(names.drop (k+1)).map fun b=>pairD (nth names k,b):=by
  unfold prs
  rw[fU]
  refine cI fun k _=>?_
  rw[List.map_map];rfl
 have aa1:((prs names).map pairD).length≤64:=by rw[List.length_map];exact HS hn
 rw[epr] at aa1
 obtain⟨e',f1,o2,o3,he⟩:=iY (tg:=.t [2,3]) (body:=(rU 1 (cW [some 3,none] (lJ (jh Dz (mV 0) (some (m2 cG (mV 2) (mC (.int 1)))) none)) (.n 1) jM (mN dTup [(mV 0),(mV 1)]))))
  (fun k:Nat=>D.tup [.int (k:Nat),.str (nth names k)]) (fun k=>(names.drop (k+1)).map fun b=>pairD (nth names k,b))
  (fun acc e=>∃ o2 o3:Option W,e=[some (.d (cU names)),some (.d (.lst acc)),o2,o3]) (List.range names.length) [] [some (.d (cU names)),some (.d (.lst [])),none,none] (by simp only[List.length_nil];omega) ⟨none,none,rfl⟩
  (fun k hk acc e hl ⟨o2,o3,he⟩=>by
   subst he
   have hk:=List.mem_range.mp hk
   refine⟨[some (.d (cU names)),some (.d (.lst acc)),some (.d (.int (k:Nat))),some (.d (.str (nth names k)))],putL [some (.d (cU names)),some (.d (.lst acc)),some (.d (.int (k:Nat))),some (.d (.str (nth names k)))] 1 (acc++(names.drop (k+1)).map fun b=>pairD (nth names k,b)),rfl,?_,_,_,rfl⟩
   have hc:dN (.n 1) jM (mN dTup [(mV 0),(mV 1)]) [some (.d (.str (nth names k))),none] ((names.drop (k+1)).map D.str)=.ok (((names.drop (k+1)).filter fun _=>true).map fun b=>pairD (nth names k,b)) :=
    cJ D.str (fun b=>pairD (nth names k,b)) (fun _=>true) _ fun b _=>⟨[some (.d (.str (nth names k))),some (.d (.str b))],rfl,rfl,fun _=>kh rfl rfl⟩
   rw[List.filter_eq_self.mpr (fun _ _=>rfl)] at hc
   exact Wy (cY (ρ:=[some 3,none]) (Qt hk hn rfl rfl) (by rw[List.length_map,List.length_drop];omega) hc) rfl hl)
 subst he
 rw[show ([some (W.d (cU names))]++List.replicate (4 - 1) none)=[some (W.d (cU names)),none,none,none] from rfl]
 rw[aL (e':=[some (.d (cU names)),some (.d (.lst [])),none,none]) (bj (yM _))]
 have hit:yP (mV 0) [some (.d (cU names)),some (.d (.lst [])),none,none]=.ok ((List.range names.length).map fun k=>D.tup [.int (k:Nat),.str (nth names k)]):=by
  rw[← Dv];rfl
 rw[aL ((iD hit).trans f1)]
 unfold bQ
 rw[epr];rfl
theorem Ba{names:List Str}{p:Ar}(h:p∈prs names):p.1∈names∧p.2∈names:=by
 obtain⟨k,hk,e,hb⟩:=xM.mp (show (p.1,p.2)∈prs names from h)
 exact⟨by rw[e];exact pZ hk,List.mem_of_mem_drop hb⟩
def RP(names:List Str)(aj:List Ar):List Ar:=(prs names).filter fun p=>tie aj p.1 p.2
theorem Ax{names:List Str}{aj:List Ar}(hn:names.length≤8):jH [.d (aH names aj)]=.ok (.d (bQ (RP names aj))):=by
 unfold jH GF
 rw[Py]
 rw[show ([some (W.d (aH names aj))]++List.replicate (1 - 1) none)=[some (W.d (aH names aj))] from rfl]
 have hc:dN (.t [1,2]) (cB (aR iu [(wD (mV 0)),(wD (mV 1)),(wD (mV 2))])) (mN dTup [(mV 1),(mV 2)]) [some (.d (aH names aj)),none,none] ((prs names).map pairD)=.ok ((RP names aj).map pairD) :=
  cJ pairD pairD (fun p=>tie aj p.1 p.2) (prs names) fun p hp=>⟨[some (.d (aH names aj)),some (.d (.str p.1)),some (.d (.str p.2))],rfl,bZ (zV rfl rfl rfl (Aa (Ba hp).1 (Ba hp).2)),fun _=>kh rfl rfl⟩
 have hm:=cY (ρ:=[some 0,none,none]) (e:=[some (.d (aH names aj))]) (dO (a:=aR iJ [(wD (m2 cz (mV 0) (mC (.int 0))))]) (x:=bQ (prs names)) (jP (cu (aF rfl rfl (Dh names aj))) (K3 hn)) rfl) (by rw[List.length_map];have:=HS hn;omega) hc
 rw[dm (cu hm)];rfl
theorem Gg{names:List Str}{aj:List Ar}(hn:names.length≤8):qX [.d (aH names aj)]=.ok (.d (bQ (RP names aj))):=by
 unfold qX M3
 rw[Ww]
 have epr:(RP names aj).map pairD=(List.range names.length).flatMap fun k=>((names.drop (k+1)).filter fun b=>tie aj (nth names k) b).map fun b=>pairD (nth names k,b):=by
  unfold RP prs
  rw[List.filter_flatMap,fU]
  refine cI fun k _=>?_
  rw[List.filter_map,List.map_map];rfl
 have aa1:((RP names aj).map pairD).length≤64:=by rw[List.length_map];exact Nat.le_trans (List.length_filter_le _ _) (HS hn)
 rw[epr] at aa1
 obtain⟨e',f1,o2,he⟩:=iY (tg:=.n 2) (body:=(bL 1 (m2 cG (mV 1) (cW [some 2,some 0,none] (lJ (jh Dz (m2 cz (mV 0) (mC (.int 0))) (some (m2 cG (mV 2) (mC (.int 1)))) none)) (.n 2) (cB (aR iC [(wD (mV 1)),(wD (m2 cz (m2 cz (mV 1) (mC (.int 0))) (mV 0))),(wD (mV 2))])) (mN dTup [(m2 cz (m2 cz (mV 1) (mC (.int 0))) (mV 0)),(mV 2)])))))
  (fun k:Nat=>D.int (0+(k:Nat))) (fun k=>((names.drop (k+1)).filter fun b=>tie aj (nth names k) b).map fun b=>pairD (nth names k,b))
  (fun acc e=>∃ o2:Option W,e=[some (.d (aH names aj)),some (.d (.lst acc)),o2]) (List.range names.length) [] [some (.d (aH names aj)),some (.d (.lst [])),none] (by simp only[List.length_nil];omega) ⟨none,rfl⟩
  (fun k hk acc e hl ⟨o2,he⟩=>by
   subst he
   have hk:=List.mem_range.mp hk
   rw[Int.zero_add]
   refine⟨[some (.d (aH names aj)),some (.d (.lst acc)),some (.d (.int (k:Nat)))],[some (.d (aH names aj)),some (.d (.lst (acc++((names.drop (k+1)).filter fun b=>tie aj (nth names k) b).map fun b=>pairD (nth names k,b)))),some (.d (.int (k:Nat)))],rfl,?_,_,rfl⟩
   have nm:∀ b:Str,m2 cz (m2 cz (mV 1) (mC (.int 0))) (mV 0) [some (.d (.int (k:Nat))),some (.d (aH names aj)),some (.d (.str b))]=.ok (.str (nth names k)):=fun b=>aF (aF rfl rfl (Dh names aj)) rfl (by
    have:=Wl (cs:=names) (i:=(k:Nat)) (by omega) (by omega)
    rw[Int.toNat_natCast] at this;exact this)
   have hc:dN (.n 2) (cB (aR iC [(wD (mV 1)),(wD (m2 cz (m2 cz (mV 1) (mC (.int 0))) (mV 0))),(wD (mV 2))])) (mN dTup [(m2 cz (m2 cz (mV 1) (mC (.int 0))) (mV 0)),(mV 2)]) [some (.d (.int (k:Nat))),some (.d (aH names aj)),none] ((names.drop (k+1)).map D.str)=.ok (((names.drop (k+1)).filter fun b=>tie aj (nth names k) b).map fun b=>pairD (nth names k,b)) :=
    cJ D.str (fun b=>pairD (nth names k,b)) (fun b=>tie aj (nth names k) b) _ fun b _=>⟨[some (.d (.int (k:Nat))),some (.d (aH names aj)),some (.d (.str b))],rfl,bZ (zV rfl (cu (nm b)) rfl (Qn (nth names k) b)),fun _=>kh (nm b) rfl⟩
   have hm:=cY (ρ:=[some 2,some 0,none]) (e:=[some (.d (aH names aj)),some (.d (.lst acc)),some (.d (.int (k:Nat)))]) (Qt (b:=mV 2) hk hn (aF (a:=mV 0) (b:=mC (.int 0)) rfl rfl (Dh names aj)) rfl) (by rw[List.length_map,List.length_drop];omega) hc
   exact bj (aF (x:=.lst acc) rfl hm (aq hl)))
 subst he
 rw[show ([some (W.d (aH names aj))]++List.replicate (3 - 1) none)=[some (W.d (aH names aj)),none,none] from rfl]
 rw[aL (e':=[some (.d (aH names aj)),some (.d (.lst [])),none]) (bj (yM _))]
 have hit:eQ (mN gB [(m2 cz (mV 0) (mC (.int 0)))]) [some (.d (aH names aj)),some (.d (.lst [])),none]=.ok ((List.range names.length).map fun k:Nat=>D.int (0+(k:Nat))):=by
  unfold eQ
  rw[abv (names:=names) (aj:=aj) rfl,aG,G4,aG,aq (by unfold okR;omega)]
  unfold du
  rw[Int.sub_zero,Int.toNat_natCast]
 rw[aL ((iD hit).trans f1)]
 unfold bQ
 rw[epr];rfl
theorem Zg{names:List Str}{aj:List Ar}:(Uo names aj).map gH=(prs names).flatMap fun p=>if (!tie aj p.1 p.2)=true then (Um names aj p).map fun m=>gH (p.1,m,p.2) else []:=by
 unfold Uo
 rw[fU]
 refine cI fun p _=>?_
 split
 ·rw[List.map_map];rfl
 ·rfl
theorem tD{names:List Str}{aj:List Ar}(N:Nt names aj):fV [.d (aH names aj)]=.ok (.d (.lst ((ni names aj).map gH))):=by
 have hn:=N.le
 have PL:((Uo names aj).map gH).length≤56:=by rw[List.length_map];exact Rv N
 have kj:=PJ N
 rw[Zg] at PL kj
 unfold fV xY
 rw[Py]
 obtain⟨e',f1,o4,o5,o6,he⟩:=iY (tg:=.t [4,5]) (body:=(iI (lN (cB (aR iu [(wD (mV 0)),(wD (mV 4)),(wD (mV 5))])))
 (aW (bL 6 (cW [some 2,some 4,some 5,none] (lJ (mV 1)) (.n 3) (nq (cB (m2 pN (mN dTup [(mV 1),(mV 3)]) (mV 0))) (cB (m2 pN (mN dTup [(mV 2),(mV 3)]) (mV 0)))) (mV 3)))
 (rU 3 (cW [some 4,some 5,none] (lJ (mV 6)) (.n 2) jM (mN dTup [(mV 0),(mV 2),(mV 1)]))))
 bA))
  pairD (fun p=>if (!tie aj p.1 p.2)=true then (Um names aj p).map fun m=>gH (p.1,m,p.2) else [])
  (fun acc e=>∃ o4 o5 o6:Option W,e=[some (.d (aH names aj)),some (.d (cU names)),some (.d (Bp aj)),some (.d (.lst acc)),o4,o5,o6]) (prs names) [] [some (.d (aH names aj)),some (.d (cU names)),some (.d (Bp aj)),some (.d (.lst [])),none,none,none] (by simp only[List.length_nil];omega) ⟨none,none,none,rfl⟩
  (fun p hp acc e hl ⟨o4,o5,o6,he⟩=>by
   subst he
   have hc:=JF (bZ (zV (f:=iu) (a:=wD (mV 0)) (b:=wD (mV 4)) (c:=wD (mV 5)) (e:=[some (.d (aH names aj)),some (.d (cU names)),some (.d (Bp aj)),some (.d (.lst acc)),some (.d (.str p.1)),some (.d (.str p.2)),o6]) rfl rfl rfl (Aa (aj:=aj) (Ba hp).1 (Ba hp).2)))
   cases ht:(!tie aj p.1 p.2) with
   | false =>
    rw[ht] at hc
    rw[if_neg Bool.false_ne_true,List.append_nil]
    exact⟨[some (.d (aH names aj)),some (.d (cU names)),some (.d (Bp aj)),some (.d (.lst acc)),some (.d (.str p.1)),some (.d (.str p.2)),o6],_,rfl,(fO hc).trans rfl,_,_,_,rfl⟩
   | true =>
    rw[ht] at hc
    rw[ht,if_pos rfl] at hl
    rw[if_pos rfl]
    have hmc:dN (.n 3) (nq (cB (m2 pN (mN dTup [(mV 1),(mV 3)]) (mV 0))) (cB (m2 pN (mN dTup [(mV 2),(mV 3)]) (mV 0)))) (mV 3) [some (.d (Bp aj)),some (.d (.str p.1)),some (.d (.str p.2)),none] (names.map D.str)=.ok ((Um names aj p).map D.str) :=
     cJ D.str D.str (fun m=>decide ((p.1,m)∈aj) && decide ((p.2,m)∈aj)) names fun m _=>⟨[some (.d (Bp aj)),some (.d (.str p.1)),some (.d (.str p.2)),some (.d (.str m))],rfl,Bm (bZ (aF (kh rfl rfl) rfl (m9 aj (p.1,m)))) fun _=>bZ (aF (kh rfl rfl) rfl (m9 aj (p.2,m))),fun _=>rfl⟩
    have s1:=bj (i:=6) (cY (ρ:=[some 2,some 4,some 5,none]) (e:=[some (.d (aH names aj)),some (.d (cU names)),some (.d (Bp aj)),some (.d (.lst acc)),some (.d (.str p.1)),some (.d (.str p.2)),o6]) (dO (a:=mV 1) (x:=cU names) rfl rfl) (by rw[List.length_map];omega) hmc)
    have adt:dN (.n 2) jM (mN dTup [(mV 0),(mV 2),(mV 1)]) [some (.d (.str p.1)),some (.d (.str p.2)),none] ((Um names aj p).map D.str)=.ok (((Um names aj p).filter fun _=>true).map fun m=>gH (p.1,m,p.2)) :=
     cJ D.str (fun m=>gH (p.1,m,p.2)) (fun _=>true) _ fun m _=>⟨[some (.d (.str p.1)),some (.d (.str p.2)),some (.d (.str m))],rfl,rfl,fun _=>(aaa rfl rfl rfl).trans (aq (by simp))⟩
    rw[List.filter_eq_self.mpr (fun _ _=>rfl)] at adt
    have hml:(Um names aj p).length≤8:=Nat.le_trans (List.length_filter_le _ _) hn
    refine⟨[some (.d (aH names aj)),some (.d (cU names)),some (.d (Bp aj)),some (.d (.lst acc)),some (.d (.str p.1)),some (.d (.str p.2)),o6],putL [some (.d (aH names aj)),some (.d (cU names)),some (.d (Bp aj)),some (.d (.lst acc)),some (.d (.str p.1)),some (.d (.str p.2)),some (.d (.lst ((Um names aj p).map D.str)))] 3 (acc++(Um names aj p).map fun m=>gH (p.1,m,p.2)),rfl,?_,_,_,_,rfl⟩
    exact(lH hc).trans ((aL s1).trans (Wy (cY (ρ:=[some 4,some 5,none]) (dO (a:=mV 6) (x:=.lst ((Um names aj p).map D.str)) rfl rfl) (by rw[List.length_map];omega) adt) rfl hl)))
 subst he
 rw[show ([some (W.d (aH names aj))]++List.replicate (7 - 1) none)=[some (W.d (aH names aj)),none,none,none,none,none,none] from rfl]
 rw[aL (e':=[some (.d (aH names aj)),some (.d (cU names)),some (.d (Bp aj)),none,none,none,none]) rfl]
 rw[aL (e':=[some (.d (aH names aj)),some (.d (cU names)),some (.d (Bp aj)),some (.d (.lst [])),none,none,none]) (bj (yM _))]
 rw[aL ((iD (dO (a:=aR iJ [(wD (mV 1))]) (x:=bQ (prs names)) (jP rfl (K3 hn)) rfl)).trans f1)]
 rw[dm (cu (call2 rfl rfl kj))];rfl
end Mr
namespace Mr
open PySem Mi
open My (words Av f9)
theorem Uc:("abcdefghijklmnopqrstuvwxyz" : Str).cps.toList=(List.range 26).map (· + 97):=by decide +kernel
theorem Mz{a b c:E}{e:Mi.Env}{i j k:Int}(ha:a e=.ok (.int i))(hb:b e=.ok (.int j))(hc:c e=.ok (.int k))(h1:i≤j)(h2:j≤k):yK Zd Zd a b c e=.ok (.bl true):=by
 unfold yK
 rw[ha,aG,hb,aG]
 show (Rs.ok (D.bl (decide (i≤j)))).bind _=_
 rw[decide_eq_true h1,aG,vM,aG,if_pos rfl,hc,aG]
 show Rs.ok (D.bl (decide (j≤k)))=_
 rw[decide_eq_true h2]
theorem X4{l:List Nat}(hw:Av l):gD [.d (.str (S' l))]=.ok (.d (.bl true)):=by
 unfold gD GQ
 rw[Ww]
 rw[show ([some (W.d (.str (S' l)))]++List.replicate (1 - 1) none)=[some (W.d (.str (S' l)))] from rfl]
 obtain⟨h1,h8,hl⟩:=hw
 have hc:dN (.n 0) jM (m2 pN (mV 0) (mC (.str "abcdefghijklmnopqrstuvwxyz"))) [none] (l.map fun c=>D.str (S' [c]))=.ok ((l.filter fun _=>true).map fun c=>D.bl ((fun _=>true) c)) :=
  cJ (fun c=>D.str (S' [c])) (fun c=>D.bl ((fun _=>true) c)) (fun _=>true) l fun c hcl=>⟨[some (.d (.str (S' [c])))],rfl,rfl,fun _=>aF (x:=.str (S' [c])) rfl rfl (by
   show aU ((S' [c]).length=1) (Rs.ok (D.bl (decide ((S' [c]).cps.getD 0 0∈("abcdefghijklmnopqrstuvwxyz" : Str).cps.toList))))=_
   have hm:(S' [c]).cps.getD 0 0∈("abcdefghijklmnopqrstuvwxyz" : Str).cps.toList:=by
    rw[Uc]
    have:=hl c hcl
    exact List.mem_map.mpr ⟨c - 97,List.mem_range.mpr (by omega),by show c - 97+97=c;omega⟩
   rw[aq (by rw[pI];rfl),decide_eq_true hm])⟩
 rw[List.filter_eq_self.mpr (fun _ _=>rfl)] at hc
 have h2:mN Ua [(cW [none] (lJ (mV 0)) (.n 0) jM (m2 pN (mV 0) (mC (.str "abcdefghijklmnopqrstuvwxyz"))))] [some (W.d (.str (S' l)))]=.ok (.bl true):=by
  refine(iB (cY (ρ:=[none]) (dO (a:=mV 0) (x:=.str (S' l)) rfl rfl) (by rw[List.length_map,Bq];omega) hc)).trans ?_
  rw[aar,Np,jy,aG,List.all_map]
  show Rs.ok (D.bl (l.all fun _=>true))=_
  rw[List.all_eq_true.mpr (fun _ _=>rfl)]
 have h3:yK Zd Zd (mC (.int 1)) (mN gB [(mV 0)]) (mC (.int 8)) [some (W.d (.str (S' l)))]=.ok (.bl true):=Mz (j:=((l.length:Nat):Int)) rfl ((iB (x:=.str (S' l)) rfl).trans (by rw[adl,aq (by rw[pI];omega),pI])) rfl (by omega) (by omega)
 rw[dm (cu (u9 h3 fun _=>h2))];rfl
theorem Uy{α : Type}{l:List α}(nd:l.Nodup){i:Nat}{x:α}(hx:l[i]? = some x):x∉l.take i:=fun z=>by
 obtain⟨il,hxe⟩:=List.getElem?_eq_some_iff.mp hx
 obtain⟨j,hj⟩:=List.getElem?_of_mem z
 have hj2:=(List.getElem?_eq_some_iff.mp hj).1
 rw[List.length_take] at hj2
 rw[List.getElem?_take_of_lt (by omega)] at hj
 obtain⟨jl,hje⟩:=List.getElem?_eq_some_iff.mp hj
 have:=(List.getElem_inj nd).mp (hje.trans hxe.symm)
 omega
def Wh(p:Ar):List Ky:=[.inr p.1,.inr p.2]
theorem QZ{p q:Ar}(h:Wh p=Wh q):p=q:=by
 obtain⟨a,b⟩:=p
 obtain⟨c,d⟩:=q
 simp only[Wh,List.cons.injEq,Sum.inr.injEq,and_true] at h
 rw[h.1,h.2]
def WL(ps:List Ar):W:=.dt (ps.map fun p=>(Wh p,D.bl true))
theorem aej(ps:List Ar)(p:Ar):(Fe (ps.map fun p=>(Wh p,D.bl true)) (Wh p)).isSome=decide (p∈ps):=by
 unfold Fe
 induction ps with
 | nil=>rfl
 | cons a r ih =>
  rw[List.map_cons,List.find?_cons]
  by_cases h:a=p
  ·subst h;simp
  ·rw[decide_eq_false (fun z:Wh a=Wh p=>h (QZ z))]
   simp only[ih]
   simp[Ne.symm h]
theorem adG{i:Nat}{k:E}{e:Mi.Env}{ps:List Ar}{p:Ar}(hk:k e=.ok (pairD p))(hw:wV i e=.ok (WL ps)):I9 i k e=.ok (.bl (decide (p∈ps))):=by
 unfold I9;rw[hk,aG,hw,aG,← aej];rfl
theorem WQ{i:Nat}{k:E}{e:Mi.Env}{ps:List Ar}{p:Ar}(hk:k e=.ok (pairD p))(hw:wV i e=.ok (WL ps))(hn:p∉ps)(hl:ps.length≤1000):pX i k (mC (.bl true)) e=.ok (.nx (e.set i (some (WL (ps++[p]))))):=by
 unfold pX
 have h1:abU (WL ps) (pairD p) (.bl true)=.ok (WL (ps++[p])):=by
  show aU ((ps.map fun p=>(Wh p,D.bl true)).length < 16777216) (Rs.ok (W.dt (Mi.putK (Wh p) (.bl true) (ps.map fun p=>(Wh p,D.bl true)))))=_
  rw[aq (by rw[List.length_map];omega)]
  unfold Mi.putK
  rw[if_neg (by
   rw[List.any_map,Bool.not_eq_true,List.any_eq_false]
   intro z hz
   simp only[Function.comp,decide_eq_true_eq]
   exact fun q=>hn (QZ q ▸ hz))]
  unfold WL
  rw[List.map_append];rfl
 rw[show mC (.bl true) e=.ok (.bl true) from rfl,aG,hk,aG,hw,aG,h1];rfl
def both(xs:List Ar):List Ar:=xs.flatMap fun p=>[p,(p.2,p.1)]
theorem Lp{xs:List Ar}{q:Ar}:q∈both xs↔∃ p∈xs,q=p∨q=(p.2,p.1):=by
 unfold both
 simp[List.mem_flatMap]
theorem Xf(xs:List Ar):(both xs).length=2 * xs.length:=by
 induction xs with
 | nil=>rfl
 | cons a r ih=>unfold both at *;rw[List.flatMap_cons,List.length_append,ih];simp;omega
structure Apart(names:List Str)(xs:List Ar):Prop where
 inn:∀ p∈xs,p.1∈names∧p.2∈names
 irr:∀ p∈xs,p.1≠p.2
 pw:xs.Pairwise fun p q=>p≠q∧p≠(q.2,q.1)
theorem Yl{names:List Str}{aj:List Ar}(N:Ue names aj):jV [.d (aH names aj)]=.ok (.d .non):=by
 unfold jV vJ
 rw[Ww]
 rw[show ([some (W.d (aH names aj))]++List.replicate (3 - 1) none)=[some (W.d (aH names aj)),none,none] from rfl]
 rw[aL (e':=[some (.d (aH names aj)),some (.d (bT (ord names aj names.length))),none]) (bj (jP rfl (Pk N)))]
 have hc:dN (.n 1) (cB (m2 dY (mV 1) (mV 0))) (mV 1) [some (.d (bT (ord names aj names.length))),none] (names.map D.str)=.ok ((names.filter fun x=>!decide (x∈ord names aj names.length)).map D.str) :=
  cJ D.str D.str (fun x=>!decide (x∈ord names aj names.length)) names fun x _=>⟨[some (.d (bT (ord names aj names.length))),some (.d (.str x))],rfl,bZ (aF rfl rfl (DK _ x)),fun _=>rfl⟩
 rw[List.filter_eq_nil_iff.mpr (fun x hx=>by rw[decide_eq_true (N.QF x hx)];simp)] at hc
 rw[aL (bj (cY (ρ:=[some 1,none]) (dO (aF (a:=mV 0) (b:=mC (.int 0)) rfl rfl (Dh names aj)) rfl) (by rw[List.length_map];have:=N.le;omega) hc))]
 rw[fO (c:=MP (mV 2)) rfl]
 rfl
end Mr
namespace Mr
open PySem Mi
open My (words Av f9)
def rw2(p:Ar):List Str:=[p.1,p.2]
theorem pJ.sorted{names:List Str}{A:List Ix}{r:Nat→Int}(N:pJ names A r):(A.map (arrOf names)).Pairwise fun p q=>pP (ky names (rw2 p)) (ky names (rw2 q))=true:=by
 rw[List.pairwise_map]
 refine List.Pairwise.imp_of_mem (fun {p q} hp hq h=>?_) N.kj
 have k:∀ x:Ix,x∈A→ky names (rw2 (arrOf names x))=[((x.1:Nat):Int),((x.2:Nat):Int)]:=fun x hx=>by
  obtain⟨h1,h2,_⟩:=N.all x hx
  show [((names.idxOf (nth names x.1):Nat):Int),((names.idxOf (nth names x.2):Nat):Int)]=_
  rw[xQ N.nd h1,xQ N.nd h2]
 rw[k p hp,k q hq]
 rcases h with h|⟨h1,h2⟩
 ·exact Dc (Int.ofNat_lt.mpr h)
 ·rw[h1,Bf];exact Dc (Int.ofNat_lt.mpr h2)
theorem pJ.apart{names:List Str}{A:List Ix}{r:Nat→Int}(N:pJ names A r):Apart names (A.map (arrOf names)):=by
 refine⟨fun p hp=>?_,fun p hp=>?_,?_⟩
 ·obtain⟨q,hq,rfl⟩:=List.mem_map.mp hp
  exact⟨pZ (N.all q hq).1,pZ (N.all q hq).2.1⟩
 ·obtain⟨q,hq,rfl⟩:=List.mem_map.mp hp
  obtain⟨h1,h2,h3⟩:=N.all q hq
  intro z
  have:=j6 N.nd h1 h2 z
  rw[this] at h3;omega
 ·rw[List.pairwise_map]
  refine List.Pairwise.imp_of_mem (fun {p q} hp hq h=>?_) N.kj
  obtain⟨h1,h2,h3⟩:=N.all p hp
  obtain⟨k1,k2,k3⟩:=N.all q hq
  refine⟨fun z=>?_,fun z=>?_⟩
  ·have e1:=j6 N.nd h1 k1 (congrArg Prod.fst z)
   have e2:=j6 N.nd h2 k2 (congrArg Prod.snd z)
   rcases h with h|⟨_,h⟩<;>omega
  ·have e1:=j6 N.nd h1 k2 (congrArg Prod.fst z)
   have e2:=j6 N.nd h2 k1 (congrArg Prod.snd z)
   rw[e1,e2] at h3;omega
theorem Apart.perm{names:List Str}{xs ys:List Ar}(P:Apart names ys)(h:xs.Perm ys):Apart names xs :=
 ⟨fun p hp=>P.inn p (h.mem_iff.mp hp),fun p hp=>P.irr p (h.mem_iff.mp hp),(h.pairwise_iff (fun {p q} z=>⟨z.1.symm,fun e=>z.2 (by rw[e])⟩)).mpr P.pw⟩
def adM:List Ix:=((List.range 64).map fun n=>(n / 8,n % 8)).filter fun p=>decide (p.1≠p.2)
theorem Xe:adM.length=56:=by decide +kernel
theorem pJ.few{names:List Str}{A:List Ix}{r:Nat→Int}(N:pJ names A r):A.length≤56:=by
 have nd:A.Nodup:=N.kj.imp fun {p q} h z=>by subst z;rcases h with h|⟨_,h⟩<;>omega
 have:=CN nd (L:=adM) fun p hp=>by
  obtain⟨h1,h2,h3⟩:=N.all p hp
  have hn:=N.le
  refine List.mem_filter.mpr ⟨List.mem_map.mpr ⟨p.1 * 8+p.2,List.mem_range.mpr (by omega),Prod.ext (by show (p.1 * 8+p.2) / 8=p.1;omega) (by show (p.1 * 8+p.2) % 8=p.2;omega)⟩,?_⟩
  exact decide_eq_true fun z=>by rw[z] at h3;omega
 rw[Xe] at this;exact this
end Mr
namespace Mr
open PySem Mi
theorem adL{c:C}{e:Mi.Env}{b:Bool}(h:c e=.ok b):cP c e=.ok b:=Km h
theorem acE{m:S}{e:Mi.Env}{o:Out}(h:m e=.ok o):sP m e=.ok o:=Km h
theorem Vb{s t:S}{e:Mi.Env}{z:JW}(h:s e=.ex z):aW s t e=.ex z:=by unfold aW;rw[h];rfl
theorem Gx{f:Fn}{a b:EW}{e:Mi.Env}{x y:W}{z:JW}(h:a e=.ok x)(h':b e=.ok y)(hf:f [x,y]=.ex z):uC f [a,b] e=.ex z:=by
 unfold uC
 rw[bW,h,aG,bW,h',aG,bW,aG]
 show ((f [x,y]).bind fun _=>_)=_
 rw[hf];rfl
abbrev nn:D:=.lst [.str "NoName"]
theorem aaF{i:Nat}{cs:List String}{b h:S}{e:Mi.Env}{z:JW}{o:Out}(hb:b e=.ex z)(hc:z.cls∈cs)(hh:h (e.set i (some (.ex z.cls)))=.ok o):Ve i cs b h e=.ok (ac6 i o):=by
 unfold Ve
 rw[hb]
 show aU _ _=_
 rw[aq hc,hh];rfl
end Mr
namespace Mr
open PySem Mi
open My (words Av f9)
theorem xU{tg:Tg}{b:S}{d:D}{r:List D}{e e0 e1:Mi.Env}{o:Rs Out}(hp:tg.put d e=.ok e0)(hb:b e0=.ok (.nx e1))(t:rC tg b r e1=o):rC tg b (d::r) e=o:=by
 rw[rC,hp,aG,hb,aG];exact t
theorem zu{α : Type}(f:α→Nat):∀ (l m:List α),l.Pairwise (fun a b=>f a < f b)→m.Pairwise (fun a b=>f a < f b)→(∀ x,x∈l↔x∈m)→l=m
 | [],[],_,_,_=>rfl
 | [],b::t,_,_,h=>nomatch (h b).mpr (List.mem_cons_self ..)
 | a::r,[],_,_,h=>nomatch (h a).mp (List.mem_cons_self ..)
 | a::r,b::t,hl,hm,h=>by
  have l1:=List.pairwise_cons.mp hl
  have m1:=List.pairwise_cons.mp hm
  have e:a=b:=by
   rcases List.mem_cons.mp ((h a).mp (List.mem_cons_self ..)) with z|z
   ·exact z
   ·rcases List.mem_cons.mp ((h b).mpr (List.mem_cons_self ..)) with y|y
    ·exact y.symm
    ·have k1:=m1.1 a z
     have k2:=l1.1 b y
     omega
  subst e
  rw[zu f r t l1.2 m1.2 fun x=>⟨fun hx=>by
   rcases List.mem_cons.mp ((h x).mp (List.mem_cons_of_mem _ hx)) with z|z
   ·have:=l1.1 x hx;rw[z] at this;omega
   ·exact z,fun hx=>by
   rcases List.mem_cons.mp ((h x).mpr (List.mem_cons_of_mem _ hx)) with z|z
   ·have:=m1.1 x hx;rw[z] at this;omega
   ·exact z⟩]
end Mr
namespace Mr
open PySem Mi
open My (words Av f9)
theorem Aj{names:List Str}(h1:1≤names.length)(h8:names.length≤8)(nd:names.Nodup)(hw:∀ x∈names,gD [.d (.str x)]=.ok (.d (.bl true))):eV [.d (cU names)]=.ok (.d .non):=by
 unfold eV nA
 rw[Ww]
 obtain⟨e',f1,o2,he⟩:=qb (tg:=.n 2) (body:=(aW (iI (lN (cB (aR gD [(wD (mV 2))])))
 gY
 bA)
 (aW (iI (cB (I9 1 (mV 2)))
 gY
 bA)
 (pX 1 (mV 2) (mC (.bl true))))))
  (fun i e=>∃ o2:Option W,e=[some (.d (cU names)),some (Tr (names.take i)),o2]) (names.map D.str) 0 (fun i d e hi ⟨o2,he⟩=>by
   subst he
   rw[Nat.zero_add]
   rw[List.getElem?_map] at hi
   obtain⟨x,hx,rfl⟩:=Option.map_eq_some_iff.mp hi
   have hn:=Uy nd hx
   refine⟨[some (.d (cU names)),some (Tr (names.take i)),some (.d (.str x))],[some (.d (cU names)),some (Tr (names.take (i+1))),some (.d (.str x))],rfl,?_,_,rfl⟩
   rw[aL (e':=[some (.d (cU names)),some (Tr (names.take i)),some (.d (.str x))]) ((fO (CK (jP rfl (hw x (List.mem_of_getElem? hx))))).trans rfl)]
   rw[aL (e':=[some (.d (cU names)),some (Tr (names.take i)),some (.d (.str x))]) ((fO (bZ ((adH (y:=x) (fs:=names.take i) rfl rfl).trans (by rw[decide_eq_false hn])))).trans rfl)]
   rw[abR (y:=x) (fs:=names.take i) rfl rfl hn (by rw[List.length_take];omega)]
   rw[List.take_succ,hx];rfl) [some (.d (cU names)),some (Tr []),none] ⟨none,rfl⟩
 subst he
 rw[show ([some (W.d (cU names))]++List.replicate (3 - 1) none)=[some (W.d (cU names)),none,none] from rfl]
 have hl:mN gB [(mV 0)] [some (W.d (cU names)),none,none]=.ok (.int ((names.length:Nat):Int)):=(iB (x:=cU names) rfl).trans (by show Rs.ok (D.int (((names.map D.str).length:Nat):Int))=_;rw[List.length_map])
 rw[aL ((fO (CK (Mz (i:=1) (k:=8) rfl hl rfl (by omega) (by omega)))).trans rfl)]
 rw[aL (e':=[some (.d (cU names)),some (Tr []),none]) rfl]
 rw[iD (dO (x:=cU names) rfl rfl),f1]
 rfl
theorem Ai{names:List Str}{xs:List Ar}(P:Apart names xs)(hl:xs.length≤64):eU [.d (cU names),.d (bQ xs)]=.ok (.d .non):=by
 unfold eU nu
 rw[sW]
 obtain⟨e',f1,o3,o4,he⟩:=qb (tg:=.t [3,4]) (body:=(aW (qQ (aR bu [(wD (mV 0)),(wD (mN fP [(mV 3),(mV 4)]))]))
 (aW (iI (cB (m2 oK (mV 3) (mV 4)))
 gY
 bA)
 (aW (iI (cB (I9 2 (mN dTup [(mV 3),(mV 4)])))
 gY
 bA)
 (aW (pX 2 (mN dTup [(mV 3),(mV 4)]) (mC (.bl true)))
 (pX 2 (mN dTup [(mV 4),(mV 3)]) (mC (.bl true))))))))
  (fun i e=>∃ o3 o4:Option W,e=[some (.d (cU names)),some (.d (bQ xs)),some (WL (both (xs.take i))),o3,o4]) (xs.map pairD) 0 (fun i d e hi ⟨o3,o4,he⟩=>by
   subst he
   rw[Nat.zero_add]
   rw[List.getElem?_map] at hi
   obtain⟨p,hp,rfl⟩:=Option.map_eq_some_iff.mp hi
   have hpm:=List.mem_of_getElem? hp
   have il:=(List.getElem?_eq_some_iff.mp hp).1
   have before:∀ q∈xs.take i,q≠p∧q≠(p.2,p.1):=fun q hq=>by
    obtain⟨j,hj⟩:=List.getElem?_of_mem hq
    have hj2:=(List.getElem?_eq_some_iff.mp hj).1
    rw[List.length_take] at hj2
    rw[List.getElem?_take_of_lt (by omega)] at hj
    obtain⟨jl,hje⟩:=List.getElem?_eq_some_iff.mp hj
    obtain⟨_,hpe⟩:=List.getElem?_eq_some_iff.mp hp
    have:=List.pairwise_iff_getElem.mp P.pw j i jl il (by omega)
    rw[hje,hpe] at this;exact this
   have n1:p∉both (xs.take i):=fun z=>by
    obtain⟨q,hq,e|e⟩:=Lp.mp z
    ·exact(before q hq).1 e.symm
    ·exact(before q hq).2 (by rw[e])
   have n2:(p.2,p.1)∉both (xs.take i)++[p]:=fun z=>by
    rcases List.mem_append.mp z with z|z
    ·obtain⟨q,hq,e|e⟩:=Lp.mp z
     ·exact(before q hq).2 e.symm
     ·exact(before q hq).1 (by rw[Prod.ext_iff] at e;simp at e;exact Prod.ext e.2.symm e.1.symm)
    ·have:=List.mem_singleton.mp z
     exact P.irr p hpm (congrArg Prod.snd this)
   have hb:(both (xs.take i)).length≤200:=by rw[Xf,List.length_take];omega
   have hst:bu [.d (cU names),.d (bT [p.1,p.2])]=.ok (.d .non):=u5 fun x hx=>by
    rcases List.mem_cons.mp hx with rfl|hx
    ·exact(P.inn p hpm).1
    ·rw[List.mem_singleton.mp hx];exact(P.inn p hpm).2
   refine⟨[some (.d (cU names)),some (.d (bQ xs)),some (WL (both (xs.take i))),some (.d (.str p.1)),some (.d (.str p.2))],[some (.d (cU names)),some (.d (bQ xs)),some (WL (both (xs.take (i+1)))),some (.d (.str p.1)),some (.d (.str p.2))],rfl,?_,_,_,rfl⟩
   rw[aL (wy (call2 rfl (cu (S5 rfl rfl)) hst))]
   rw[aL ((fO (bZ (aF rfl rfl ((Jw p.1 p.2).trans (by rw[decide_eq_false (P.irr p hpm)]))))).trans rfl)]
   rw[aL ((fO (bZ ((adG (p:=p) (ps:=both (xs.take i)) (kh rfl rfl) rfl).trans (by rw[decide_eq_false n1])))).trans rfl)]
   rw[aL (WQ (p:=p) (ps:=both (xs.take i)) (kh rfl rfl) rfl n1 (by omega))]
   rw[WQ (p:=(p.2,p.1)) (ps:=both (xs.take i)++[p]) (kh rfl rfl) rfl n2 (by rw[List.length_append];simp;omega)]
   rw[List.take_succ,hp]
   unfold both
   rw[List.flatMap_append,List.append_assoc];rfl) [some (.d (cU names)),some (.d (bQ xs)),some (WL (both [])),none,none] ⟨none,none,rfl⟩
 subst he
 rw[show ([some (W.d (cU names)),some (W.d (bQ xs))]++List.replicate (5 - 2) none)=[some (W.d (cU names)),some (W.d (bQ xs)),none,none,none] from rfl]
 rw[aL (e':=[some (.d (cU names)),some (.d (bQ xs)),some (WL (both [])),none,none]) rfl]
 rw[iD (dO (x:=bQ xs) rfl rfl),f1]
 rfl
theorem V7{names:List Str}{A:List Ix}{r:Nat→Int}(N:pJ names A r)(hw:∀ x∈names,gD [.d (.str x)]=.ok (.d (.bl true))){xs:List Ar}(hp:xs.Perm (A.map (arrOf names))) :
 my [.d (cU names),.d (bQ xs)]=.ok (.d (aH names (A.map (arrOf names)))):=by
 have P:=N.apart.perm hp
 have hl:xs.length≤56:=by rw[hp.length_eq,List.length_map];exact N.few
 unfold my Ei
 rw[sW]
 rw[show ([some (W.d (cU names)),some (W.d (bQ xs))]++List.replicate (4 - 2) none)=[some (W.d (cU names)),some (W.d (bQ xs)),none,none] from rfl]
 rw[aL (wy (jP rfl (Aj N.pos N.le N.nd hw)))]
 rw[aL (wy (call2 rfl rfl (Ai P (by omega))))]
 have hc:dN (.t [0,1]) jM (mN dTup [(mV 0),(mV 1)]) [none,none] (xs.map pairD)=.ok ((xs.filter fun _=>true).map pairD) :=
  cJ pairD pairD (fun _=>true) xs fun p _=>⟨[some (.d (.str p.1)),some (.d (.str p.2))],rfl,rfl,fun _=>kh rfl rfl⟩
 rw[List.filter_eq_self.mpr (fun _ _=>rfl)] at hc
 rw[aL (e':=[some (W.d (cU names)),some (W.d (bQ xs)),some (W.d (bQ xs)),none]) (bj (cY (ρ:=[none,none]) (dO (x:=bQ xs) rfl rfl) (by rw[List.length_map];omega) hc))]
 have hs:dC [.d (cU names),.d (bQ xs)]=.ok (.d (bQ (A.map (arrOf names)))) :=
  Kz (nx:=cU names) (rF names) (by have:=N.le;omega) rw2 (fun p hpx=>⟨by show 2≤1000;omega,fun y hy=>by
   simp only[rw2,List.mem_cons,List.not_mem_nil,or_false] at hy
   rcases hy with rfl|rfl
   ·exact(P.inn p hpx).1
   ·exact(P.inn p hpx).2⟩) (by omega) (by
    show List.Pairwise _ _
    rw[List.pairwise_map]
    refine List.Pairwise.imp_of_mem (fun {p q} hpx hqx h z=>h.1 ?_) P.pw
    simp only[ky,rw2,List.map_cons,List.map_nil,List.cons.injEq,and_true] at z
    exact Prod.ext (cF (P.inn p hpx).1 (P.inn q hqx).1 (by omega)) (cF (P.inn p hpx).2 (P.inn q hqx).2 (by omega))) (fun p=>hp.mem_iff) N.sorted
 rw[aL (e':=[some (W.d (cU names)),some (W.d (bQ xs)),some (W.d (bQ xs)),some (W.d (aH names (A.map (arrOf names))))])
  (bj (kh (x:=cU names) (y:=Bp (A.map (arrOf names))) ((iB (x:=cU names) rfl).trans rfl) ((iB (call2 rfl rfl hs)).trans rfl)))]
 rw[aL (wy (jP rfl (Yl N.gK)))]
 rw[dm (cu rfl)]
 rfl
end Mr
namespace Mr
open PySem Mi
open My (words Av f9)
def ixs(names:List Str)(B:List Ar):List Ix:=(List.range names.length).flatMap fun i=>((List.range names.length).filter fun j=>decide ((nth names i,nth names j)∈B)).map fun j=>(i,j)
theorem FZ(names:List Str):(List.range names.length).map (nth names)=names:=by
 refine List.ext_getElem (by rw[List.length_map,List.length_range]) fun i h1 h2=>?_
 rw[List.getElem_map,List.getElem_range]
 unfold nth
 rw[List.getD_eq_getElem?_getD,List.getElem?_eq_getElem h2];rfl
theorem Bh(names:List Str)(B:List Ar):(ixs names B).map (arrOf names)=kj names B:=by
 unfold ixs kj
 rw[fU]
 have e:names.flatMap (fun t=>(names.filter fun h=>decide ((t,h)∈B)).map fun h=>(t,h))=((List.range names.length).map (nth names)).flatMap (fun t=>(names.filter fun h=>decide ((t,h)∈B)).map fun h=>(t,h)):=by rw[FZ]
 rw[e,List.flatMap_map]
 refine cI fun i _=>?_
 have e2:names.filter (fun h=>decide ((nth names i,h)∈B))=((List.range names.length).map (nth names)).filter (fun h=>decide ((nth names i,h)∈B)):=by rw[FZ]
 rw[e2,List.filter_map,List.map_map,List.map_map]
 rfl
theorem Bc{names:List Str}{B:List Ar}{p:Ix}:p∈ixs names B↔p.1 < names.length∧p.2 < names.length∧(nth names p.1,nth names p.2)∈B:=by
 unfold ixs
 rw[List.mem_flatMap]
 constructor
 ·rintro ⟨i,hi,h⟩
  obtain⟨j,hj,rfl⟩:=List.mem_map.mp h
  obtain⟨h1,h2⟩:=List.mem_filter.mp hj
  exact⟨List.mem_range.mp hi,List.mem_range.mp h1,of_decide_eq_true h2⟩
 ·rintro ⟨h1,h2,h3⟩
  exact⟨p.1,List.mem_range.mpr h1,List.mem_map.mpr ⟨p.2,List.mem_filter.mpr ⟨List.mem_range.mpr h2,decide_eq_true h3⟩,rfl⟩⟩
theorem pJ.abi{names:List Str}{B:List Ar}(nd:names.Nodup)(h1:1≤names.length)(h8:names.length≤8)(R:Rk B):∃ r,pJ names (ixs names B) r:=by
 obtain⟨k,hk⟩:=R
 refine⟨fun i=>k (nth names i),nd,h1,h8,?_,fun p hp=>?_,?_⟩
 ·unfold ixs
  rw[List.pairwise_flatMap]
  refine⟨fun i _=>?_,?_⟩
  ·rw[List.pairwise_map]
   refine(List.Pairwise.filter _ List.pairwise_lt_range).imp fun {a b} h=>?_
   exact .inr ⟨rfl,h⟩
  ·refine List.pairwise_lt_range.imp fun {a b} h=>?_
   intro x hx y hy
   obtain⟨j,_,rfl⟩:=List.mem_map.mp hx
   obtain⟨j',_,rfl⟩:=List.mem_map.mp hy
   exact .inl h
 ·obtain⟨a,b,c⟩:=Bc.mp hp
  exact⟨a,b,hk _ c⟩
 ·have:=Hz h8 B
  rw[← Bh,List.length_map] at this
  exact this
theorem sG{α : Type}[DecidableEq α]:∀ {l m:List α},l.Nodup→m.Nodup→(∀ x,x∈l↔x∈m)→l.Perm m
 | [],m,_,_,h=>by
  cases m with
  | nil=>exact .nil
  | cons a r=>exact nomatch (h a).mpr (List.mem_cons_self ..)
 | a::r,m,hl,hm,h=>by
  have l1:=List.nodup_cons.mp hl
  have ha:=(h a).mp (List.mem_cons_self ..)
  have p:=List.perm_cons_erase ha
  refine(List.Perm.cons a (sG l1.2 (hm.erase a) fun x=>?_)).trans p.symm
  rw[hm.mem_erase_iff]
  constructor
  ·exact fun hx=>⟨fun z=>l1.1 (z ▸ hx),(h x).mp (List.mem_cons_of_mem _ hx)⟩
  ·rintro ⟨h1,h2⟩
   rcases List.mem_cons.mp ((h x).mpr h2) with z|z
   ·exact absurd z h1
   ·exact z
theorem ym{names:List Str}(nd:names.Nodup)(h8:names.length≤8)(B:List Ar):(kj names B).Nodup:=by
 rw[← Bh]
 refine List.pairwise_map.mpr (List.Pairwise.imp_of_mem (R:=jJ) (fun {p q} hp hq h z=>?_) ?_)
 ·obtain⟨a,b,_⟩:=Bc.mp hp
  obtain⟨c,d,_⟩:=Bc.mp hq
  have e1:=j6 nd a c (congrArg Prod.fst z)
  have e2:=j6 nd b d (congrArg Prod.snd z)
  rcases h with h|⟨_,h⟩<;>omega
 ·unfold ixs
  rw[List.pairwise_flatMap]
  refine⟨fun i _=>?_,?_⟩
  ·rw[List.pairwise_map]
   exact(List.Pairwise.filter _ List.pairwise_lt_range).imp fun {a b} h=>.inr ⟨rfl,h⟩
  ·refine List.pairwise_lt_range.imp fun {a b} h=>?_
   intro x hx y hy
   obtain⟨j,_,rfl⟩:=List.mem_map.mp hx
   obtain⟨j',_,rfl⟩:=List.mem_map.mp hy
   exact .inl h
structure Gd(names:List Str)(aj:List Ar):Prop where
 nd:names.Nodup
 pos:1≤names.length
 le:names.length≤8
 rk:Rk aj
 kj:kj names aj=aj
 wd:∀ x∈names,gD [.d (.str x)]=.ok (.d (.bl true))
theorem Gd.inn{names:List Str}{aj:List Ar}(G:Gd names aj):∀ p∈aj,p.1∈names∧p.2∈names:=fun p hp=>by
 rw[← G.kj] at hp
 exact(sH.mp hp).2
theorem Gd.al{names:List Str}{aj:List Ar}(G:Gd names aj):aj.length≤64:=by
 rw[← G.kj];exact Hz G.le _
theorem Gd.nt{names:List Str}{aj:List Ar}(G:Gd names aj):Nt names aj:=⟨G.nd,G.le,G.al,G.inn,G.rk⟩
theorem Gd.nodup{names:List Str}{aj:List Ar}(G:Gd names aj):aj.Nodup:=by
 rw[← G.kj];exact ym G.nd G.le _
theorem Yd{names:List Str}{B:List Ar}:kj names (kj names B)=kj names B:=by
 unfold kj
 refine cI fun t ht=>?_
 congr 1
 refine List.filter_congr fun h hh=>?_
 rw[decide_eq_decide]
 exact⟨fun z=>(sH.mp z).1,fun z=>sH.mpr ⟨z,ht,hh⟩⟩
theorem Gd.of{names:List Str}{B:List Ar}(nd:names.Nodup)(h1:1≤names.length)(h8:names.length≤8)(wd:∀ x∈names,gD [.d (.str x)]=.ok (.d (.bl true)))(R:Rk B):Gd names (Mr.kj names B) :=
 ⟨nd,h1,h8,R.sub fun p hp=>(sH.mp hp).1,Yd,wd⟩
theorem FJ{names:List Str}{A B:List Ar}(h:∀ p,p.1∈names→p.2∈names→(p∈A↔p∈B)):kj names A=kj names B:=by
 unfold kj
 refine cI fun t ht=>?_
 congr 1
 refine List.filter_congr fun x hx=>?_
 rw[decide_eq_decide]
 exact h (t,x) ht hx
theorem Gd.made{names:List Str}{aj:List Ar}(G:Gd names aj){xs:List Ar}(hp:xs.Perm aj):my [.d (cU names),.d (bQ xs)]=.ok (.d (aH names aj)):=by
 obtain⟨r,N⟩:=pJ.abi G.nd G.pos G.le G.rk
 have e:(ixs names aj).map (arrOf names)=aj:=by rw[Bh,G.kj]
 have:=V7 N G.wd (xs:=xs) (by rw[e];exact hp)
 rw[e] at this
 exact this
theorem Gd.BP{names:List Str}{aj:List Ar}(G:Gd names aj){t h:Str}(ha:(t,h)∈aj):(h,t)∉aj:=fun z=>by
 obtain⟨k,hk⟩:=G.rk
 have h1:=hk _ ha
 have h2:=hk _ z
 simp only at h1 h2
 omega
theorem Gd.nW{names:List Str}{aj:List Ar}(G:Gd names aj){t h:Str}(ha:(t,h)∈aj)(hc:cov aj (t,h)=true):Gd names (Mr.kj names (Mr.nW (t,h) aj)):=by
 refine Gd.of G.nd G.pos G.le G.wd (KC (names:=names) (fun p hp=>?_) ?_)
 ·rcases (sI ha).mp hp with ⟨h1,_⟩|rfl
  ·exact G.inn p h1
  ·exact⟨(G.inn _ ha).2,(G.inn _ ha).1⟩
 ·have:=BJ G.nd G.inn G.rk ha
  rw[show dR (bD aj h) (bD aj t++[t])=true from hc] at this
  have:=this.symm
  rw[Bool.and_eq_true,Bool.not_eq_true'] at this
  exact this.1
theorem Gd.others{names:List Str}{aj:List Ar}(G:Gd names aj){t h:Str}(ha:(t,h)∈aj):((aj.filter fun p=>!decide (p=(t,h)))++[(h,t)]).Perm (Mr.kj names (Mr.nW (t,h) aj)):=by
 refine sG ?_ (ym G.nd G.le _) fun p=>?_
 ·rw[List.nodup_append]
  refine⟨G.nodup.filter _,(by simp),fun p hp q hq z=>?_⟩
  rw[List.mem_singleton.mp hq] at z
  rw[z] at hp
  exact G.BP ha (List.mem_filter.mp hp).1
 ·rw[sH,sI ha,List.mem_append,List.mem_filter,List.mem_singleton]
  constructor
  ·rintro (⟨h1,h2⟩|rfl)
   ·exact⟨.inl ⟨h1,fun z=>by rw[decide_eq_true z] at h2;cases h2⟩,G.inn p h1⟩
   ·exact⟨.inr rfl,(G.inn _ ha).2,(G.inn _ ha).1⟩
  ·rintro ⟨⟨h1,h2⟩|rfl,_⟩
   ·exact .inl ⟨h1,by rw[decide_eq_false h2];rfl⟩
   ·exact .inr rfl
theorem WY(p q:Ar):wA (pairD p) (pairD q)=.ok (.bl (!decide (p=q))):=by
 unfold wA
 rw[aq (by have:=mH [p];simp only[List.map_cons,List.map_nil,lu] at this;omega),yE]
theorem tu(aj:List Ar)(p:Ar):dY (pairD p) (Bp aj)=.ok (.bl (!decide (p∈aj))):=by
 have h:=oE aj p
 exact h
theorem RM{names:List Str}{aj:List Ar}(G:Gd names aj){t h:Str}(ha:(t,h)∈aj)(hc:cov aj (t,h)=true):iK [.d (aH names aj),.d (.str t),.d (.str h)]=.ok (.d (aH names (kj names (nW (t,h) aj)))):=by
 have hal:=G.al
 obtain⟨ht,hh⟩:=G.inn _ ha
 unfold iK xX
 rw[Tn]
 rw[show ([some (W.d (aH names aj)),some (W.d (.str t)),some (W.d (.str h))]++List.replicate (6 - 3) none)=[some (W.d (aH names aj)),some (W.d (.str t)),some (W.d (.str h)),none,none,none] from rfl]
 rw[aL (e':=[some (W.d (aH names aj)),some (W.d (.str t)),some (W.d (.str h)),some (W.d (cU names)),some (W.d (Bp aj)),none]) rfl]
 have hr:bu [.d (cU names),.d (bT [t,h])]=.ok (.d .non):=u5 fun x hx=>by
  rcases List.mem_cons.mp hx with rfl|hx
  ·exact ht
  ·rw[List.mem_singleton.mp hx];exact hh
 rw[aL (wy (call2 rfl (cu (S5 rfl rfl)) hr))]
 rw[aL ((fO (bZ ((aF (kh rfl rfl) rfl (tu aj (t,h))).trans (by rw[decide_eq_true ha];rfl)))).trans rfl)]
 rw[aL ((fO (CK ((zV rfl rfl rfl (Xc hal ht hh)).trans (by rw[hc])))).trans rfl)]
 have cm:dN (.n 2) (cB (m2 wA (mV 2) (mN dTup [(mV 0),(mV 1)]))) (mV 2) [some (.d (.str t)),some (.d (.str h)),none] (aj.map pairD)=.ok ((aj.filter fun p=>!decide (p=(t,h))).map pairD) :=
  cJ pairD pairD (fun p=>!decide (p=(t,h))) aj fun p _=>⟨[some (.d (.str t)),some (.d (.str h)),some (.d (pairD p))],rfl,bZ (aF rfl (kh rfl rfl) (WY p (t,h))),fun _=>rfl⟩
 rw[aL (e':=[some (W.d (aH names aj)),some (W.d (.str t)),some (W.d (.str h)),some (W.d (cU names)),some (W.d (Bp aj)),some (W.d (bQ (aj.filter fun p=>!decide (p=(t,h)))))])
  (bj (cY (ρ:=[some 1,some 2,none]) (dO (a:=mV 4) (x:=Bp aj) rfl rfl) (by rw[List.length_map];omega) cm))]
 have hl:(aj.filter fun p=>!decide (p=(t,h))).length≤64:=Nat.le_trans (List.length_filter_le _ _) hal
 rw[dm (cu (call2 (x:=.d (cU names)) (y:=.d (bQ ((aj.filter fun p=>!decide (p=(t,h)))++[(h,t)]))) rfl (cu (aF (x:=bQ (aj.filter fun p=>!decide (p=(t,h)))) rfl (Wb (kh rfl rfl)) ((XJ _ _).trans ((aq (by rw[List.length_map];exact Nat.le_trans (Nat.add_le_add_right (Nat.le_trans (List.length_filter_le _ _) hal) _) (by show 64+1≤16777216;decide))).trans (by unfold bQ;rw[List.map_append];rfl))))) ((G.nW ha hc).made (G.others ha))))]
 rfl
theorem T5{f:Fn}{a b:EW}{e:Mi.Env}{x y w:W}(h:a e=.ok x)(h':b e=.ok y)(hf:f [x,y]=.ok w):uC f [a,b] e=.ok (.nx e):=by
 unfold uC
 rw[bW,h,aG,bW,h',aG,bW,aG]
 show ((f [x,y]).bind fun _=>_)=_
 rw[hf];rfl
end Mr
namespace Mr
open PySem Mi
open My (words Av f9)
theorem zN{aj:List Ar}(hl:aj.length≤64)(x:Str):ir [.d (bQ aj),.d (.str x)]=.ok (.d (bT (bD aj x))):=by
 unfold ir Em
 rw[Tj]
 rw[show ([some (W.d (bQ aj)),some (W.d (.str x))]++List.replicate (2 - 2) none)=[some (W.d (bQ aj)),some (W.d (.str x))] from rfl]
 have hc:dN (.t [1,2]) (cB (m2 oK (mV 2) (mV 0))) (mV 1) [some (.d (.str x)),none,none] (aj.map pairD)=.ok ((aj.filter fun p=>decide (p.2=x)).map fun p=>D.str p.1) :=
  cJ pairD (fun p=>D.str p.1) (fun p=>decide (p.2=x)) aj fun p _=>⟨[some (.d (.str x)),some (.d (.str p.1)),some (.d (.str p.2))],rfl,bZ (aF rfl rfl (Jw p.2 x)),fun _=>rfl⟩
 rw[dm (cu (cY (ρ:=[some 1,none,none]) (dO (a:=mV 0) (x:=bQ aj) rfl rfl) (by rw[List.length_map];omega) hc))]
 show Rs.ok (W.d (.lst _))=_
 unfold bD bT
 rw[List.map_map];rfl
structure Lk(names:List Str)(aj:List Ar):Prop where
 nd:names.Nodup
 le:names.length≤8
 al:aj.length≤64
 inn:∀ p∈aj,p.1∈names∧p.2∈names
 rk:Rk aj
 nda:aj.Nodup
theorem Gd.lk{names:List Str}{aj:List Ar}(G:Gd names aj):Lk names aj:=⟨G.nd,G.le,G.al,G.inn,G.rk,G.nodup⟩
theorem Lk.nt{names:List Str}{aj:List Ar}(G:Lk names aj):Nt names aj:=⟨G.nd,G.le,G.al,G.inn,G.rk⟩
theorem Lk.sY{names:List Str}{aj:List Ar}(G:Lk names aj)(x:Str):(bD aj x).Nodup:=by
 unfold bD
 refine List.pairwise_map.mpr ((G.nda.filter _).imp_of_mem fun {p q} hp hq h z=>h ?_)
 have h1:=of_decide_eq_true (List.mem_filter.mp hp).2
 have h2:=of_decide_eq_true (List.mem_filter.mp hq).2
 exact Prod.ext z (h1.trans h2.symm)
theorem Lk.mG{names:List Str}{aj:List Ar}(G:Lk names aj)(x:Str):(bD aj x).length≤8 :=
 Nat.le_trans (jf (G.sY x) fun y hy=>(G.inn _ (kJ.mp hy)).1) G.le
theorem Lk.irr{names:List Str}{aj:List Ar}(G:Lk names aj)(x:Str):(x,x)∉aj:=fun h=>by
 obtain⟨k,hk⟩:=G.rk
 have:=hk _ h
 simp only at this
 omega
def Jy(aj:List Ar)(p:Ar):Bool:=decide (pR (bD aj p.2)=pR (bD aj p.1++[p.1]))
theorem Lk.Jy{names:List Str}{aj:List Ar}(G:Lk names aj)(t h:Str):Mr.Jy aj (t,h)=cov aj (t,h):=by
 have n2:(bD aj t++[t]).Nodup:=by
  rw[List.nodup_append]
  refine⟨G.sY t,(by simp),fun a ha b hb z=>?_⟩
  rw[List.mem_singleton.mp hb] at z
  rw[z] at ha
  exact G.irr t (kJ.mp ha)
 have mem:∀ x,x∈bD aj t++[t]↔(x,t)∈aj∨x=t:=fun x=>by rw[List.mem_append,kJ,List.mem_singleton]
 show decide _=dR (bD aj h) (bD aj t++[t])
 cases hs:dR (bD aj h) (bD aj t++[t]) with
 | true =>
  have k:=vg.mp hs
  exact decide_eq_true (Kr.mpr (sG (G.sY h) n2 fun x=>by rw[kJ,mem];exact k x))
 | false =>
  refine decide_eq_false fun z=>?_
  have pm:=Kr.mp z
  have:dR (bD aj h) (bD aj t++[t])=true:=vg.mpr fun x=>by rw[← mem,← kJ];exact pm.mem_iff
  rw[hs] at this;cases this
theorem W2(xs ys:List Str):oK (bT xs) (bT ys)=.ok (.bl (decide (xs=ys))):=by
 unfold oK bT
 rw[aq (by simp),cR,oW]
theorem Kp{xs:List Str}(h:xs.length < 64):uP [bT xs]=.ok (bT (pR xs)):=by
 show (t8 (pH (xs.map D.str))).bind _=_
 rw[rF,jy,aG]
 exact aq h
theorem DR{names:List Str}{aj:List Ar}(G:Lk names aj):eY [.d (bQ aj)]=.ok (.d (bQ (aj.filter (cov aj)))):=by
 have hal:=G.al
 unfold eY zZ
 rw[Py]
 rw[show ([some (W.d (bQ aj))]++List.replicate (4 - 1) none)=[some (W.d (bQ aj)),none,none,none] from rfl]
 have efl:(aj.flatMap fun p=>if Mr.Jy aj p=true then [pairD p] else [])=(aj.filter (cov aj)).map pairD:=by
  rw[m8 (Mr.Jy aj) pairD]
  congr 1
  exact List.filter_congr fun p _=>G.Jy p.1 p.2
 have hfl:(aj.flatMap fun p=>if Mr.Jy aj p=true then [pairD p] else []).length≤64:=by
  rw[efl,List.length_map];exact Nat.le_trans (List.length_filter_le _ _) hal
 obtain⟨e',f1,o2,o3,he⟩:=iY (tg:=.t [2,3]) (body:=(iI (cB (m2 oK (mN uP [(aR ir [(wD (mV 0)),(wD (mV 3))])]) (mN uP [(m2 cG (aR ir [(wD (mV 0)),(wD (mV 2))]) (mN fP [(mV 2)]))])))
 (bU 1 (mN dTup [(mV 2),(mV 3)]))
 bA))
  pairD (fun p=>if Mr.Jy aj p=true then [pairD p] else [])
  (fun acc e=>∃ o2 o3:Option W,e=[some (.d (bQ aj)),some (.d (.lst acc)),o2,o3]) aj [] [some (.d (bQ aj)),some (.d (.lst [])),none,none] (by simp only[List.length_nil];omega) ⟨none,none,rfl⟩
  (fun p hp acc e hl ⟨o2,o3,he⟩=>by
   subst he
   have l2:=G.mG p.2
   have l1:=G.mG p.1
   have hc:cB (m2 oK (mN uP [(aR ir [(wD (mV 0)),(wD (mV 3))])]) (mN uP [(m2 cG (aR ir [(wD (mV 0)),(wD (mV 2))]) (mN fP [(mV 2)]))])) [some (.d (bQ aj)),some (.d (.lst acc)),some (.d (.str p.1)),some (.d (.str p.2))]=.ok (Mr.Jy aj p) :=
    bZ (aF ((iB (call2 rfl rfl (zN hal p.2))).trans (Kp (by omega)))
     ((iB (x:=bT (bD aj p.1++[p.1])) (aF (call2 rfl rfl (zN hal p.1)) (Wb rfl) ((XJ _ _).trans ((aq (by rw[List.length_map];simp only[List.length_cons,List.length_nil];omega)).trans (by unfold bT;rw[List.map_append];rfl))))).trans (Kp (by rw[List.length_append];simp only[List.length_cons,List.length_nil];omega)))
     (W2 _ _))
   cases hk:Mr.Jy aj p with
   | false =>
    rw[hk] at hc
    rw[if_neg Bool.false_ne_true,List.append_nil]
    exact⟨[some (.d (bQ aj)),some (.d (.lst acc)),some (.d (.str p.1)),some (.d (.str p.2))],_,rfl,(fO hc).trans rfl,_,_,rfl⟩
   | true =>
    rw[hk] at hc
    rw[hk,if_pos rfl] at hl
    rw[if_pos rfl]
    refine⟨[some (.d (bQ aj)),some (.d (.lst acc)),some (.d (.str p.1)),some (.d (.str p.2))],[some (.d (bQ aj)),some (.d (.lst (acc++[pairD p]))),some (.d (.str p.1)),some (.d (.str p.2))],rfl,?_,_,_,rfl⟩
    exact(lH hc).trans (rG (kh rfl rfl) rfl (by simp only[List.length_cons,List.length_nil] at hl;omega)))
 subst he
 rw[aL (e':=[some (.d (bQ aj)),some (.d (.lst [])),none,none]) (bj (yM _))]
 rw[aL ((iD (dO (a:=mV 0) (x:=bQ aj) rfl rfl)).trans f1)]
 unfold bQ
 rw[← efl];rfl
end Mr
namespace Mr
open PySem Mi
open My (words Av f9)
theorem IK{α : Type}(f:α→Int):∀ (l:List α),l≠[]→∃ x∈l,∀ y∈l,f x≤f y
 | [],h=>absurd rfl h
 | [a],_=>⟨a,List.mem_cons_self ..,fun y hy=>by rw[List.mem_singleton.mp hy];exact Int.le_refl _⟩
 | a::b::r,_=>by
  obtain⟨x,hx,k⟩:=IK f (b::r) (by simp)
  rcases Int.le_total (f a) (f x) with h|h
  ·exact⟨a,List.mem_cons_self ..,fun y hy=>by
    rcases List.mem_cons.mp hy with rfl|hy
    ·exact Int.le_refl _
    ·exact Int.le_trans h (k y hy)⟩
  ·exact⟨x,List.mem_cons_of_mem _ hx,fun y hy=>by
    rcases List.mem_cons.mp hy with rfl|hy
    ·exact h
    ·exact k y hy⟩
theorem adK{α : Type}{A B:α→α→Prop}{ra rb:α→Int}(ha:∀ x y,A x y→ra x < ra y)(hb:∀ x y,B x y→rb x < rb y)
 (sk:∀ x y,(A x y∨A y x)↔(B x y∨B y x)) (cr:∀ a m b,a≠b→((A a m∧A b m∧¬ A a b∧¬ A b a)↔(B a m∧B b m∧¬ B a b∧¬ B b a)))
 {x y:α} (hA:A x y) (hB:B y x) (adh:∀ u v,A u v→B v u→ra y≤ra v) (aev:∀ u,A u y→B y u→ra u≤ra x):∀ z,A z y↔(A z x∨z=x):=by
 intro z
 constructor
 ·intro zy
  by_cases e:z=x
  ·exact .inr e
  ·refine .inl (Classical.byContradiction fun nzx=>?_)
   by_cases xz:A x z
   ·-- x→z→y
    have h1:=ha _ _ xz
    have h2:=ha _ _ zy
    rcases (sk z y).mp (.inl zy) with bzy|byz
    ·rcases (sk x z).mp (.inl xz) with bxz|bzx
     ·have:=hb _ _ bzy;have:=hb _ _ hB;have:=hb _ _ bxz;omega
     ·have:=adh x z xz bzx;omega
    ·have:=aev z zy byz;omega
   ·have:=(cr x y z (Ne.symm e)).mp ⟨hA,zy,xz,nzx⟩
    have h1:=hb _ _ this.1
    have h2:=hb _ _ hB
    omega
 ·rintro (zx|rfl)
  ·refine Classical.byContradiction fun nzy=>?_
   have h1:=ha _ _ zx
   have h2:=ha _ _ hA
   have nyz:¬ A y z:=fun h=>by have:=ha _ _ h;omega
   have nb:¬ (B z y∨B y z):=fun h=>by
    rcases (sk z y).mpr h with h|h
    ·exact nzy h
    ·exact nyz h
   rcases (sk z x).mp (.inl zx) with bzx|bxz
   ·have ne:z≠y:=fun e=>by rw[e] at h1;omega
    have:=(cr z x y ne).mpr ⟨bzx,hB,fun h=>nb (.inl h),fun h=>nb (.inr h)⟩
    have h3:=ha _ _ this.2.1
    omega
   ·have:=adh z x zx bxz;omega
  ·exact hA
structure Sm(names:List Str)(A B:List Ar):Prop where
 ti:RP names A=RP names B
 cr:ni names A=ni names B
theorem Kg(aj:List Ar)(a b:Str):tie aj a b=tie aj b a:=by unfold tie;rw[Bool.or_comm]
theorem uZ{aj:List Ar}{a b:Str}:tie aj a b=true↔(a,b)∈aj∨(b,a)∈aj:=by
 unfold tie
 rw[Bool.or_eq_true,decide_eq_true_iff,decide_eq_true_iff]
theorem Ou{names:List Str}{a b:Str}(ha:a∈names)(hb:b∈names)(ne:a≠b):(a,b)∈prs names∨(b,a)∈prs names:=by
 obtain⟨i,hi,rfl⟩:=Ip ha
 obtain⟨j,hj,rfl⟩:=Ip hb
 rcases Nat.lt_trichotomy i j with h|h|h
 ·exact .inl (xM.mpr ⟨i,hi,rfl,CJ h hj⟩)
 ·exact absurd (by rw[h]) ne
 ·exact .inr (xM.mpr ⟨j,hj,rfl,CJ h hi⟩)
theorem Sm.tie{names:List Str}{A B:List Ar}(S:Sm names A B){a b:Str}(ha:a∈names)(hb:b∈names)(ne:a≠b):Mr.tie A a b=Mr.tie B a b:=by
 have key:∀ p:Ar,p∈prs names→Mr.tie A p.1 p.2=Mr.tie B p.1 p.2:=fun p hp=>by
  have h:p∈RP names A↔p∈RP names B:=by rw[S.ti]
  unfold RP at h
  rw[List.mem_filter,List.mem_filter] at h
  rw[Bool.eq_iff_iff]
  exact⟨fun z=>(h.mp ⟨hp,z⟩).2,fun z=>(h.mpr ⟨hp,z⟩).2⟩
 rcases Ou ha hb ne with h|h
 ·exact key _ h
 ·rw[Kg A,Kg B];exact key _ h
theorem W8{names:List Str}(nd:names.Nodup){A B:List Ar}(h:∀ p:Ar,p.1∈names→p.2∈names→(p∈A↔p∈B)):ni names A=ni names B :=
 (DQ nd).mpr fun a ha m hm b hb _=>by
  unfold wQ
  rw[show decide ((a,m)∈A)=decide ((a,m)∈B) from decide_eq_decide.mpr (h _ ha hm),show decide ((b,m)∈A)=decide ((b,m)∈B) from decide_eq_decide.mpr (h _ hb hm),
   show decide ((a,b)∈A)=decide ((a,b)∈B) from decide_eq_decide.mpr (h _ ha hb),show decide ((b,a)∈A)=decide ((b,a)∈B) from decide_eq_decide.mpr (h _ hb ha)]
theorem Gd.xK{names:List Str}{A:List Ar}(G:Gd names A){p:Ar}(hp:p∈A)(q:Ar):q∈Mr.kj names (Mr.nW p A)↔(q∈A∧q≠p)∨q=(p.2,p.1):=by
 rw[sH,sI hp]
 constructor
 ·exact fun z=>z.1
 ·rintro (z|rfl)
  ·exact⟨.inl z,G.inn q z.1⟩
  ·exact⟨.inr rfl,(G.inn _ hp).2,(G.inn _ hp).1⟩
theorem Sm.turn{names:List Str}{A B:List Ar}(GA:Gd names A)(S:Sm names A B){p:Ar}(hp:p∈A)(hc:cov A p=true):Sm names (kj names (nW p A)) B:=by
 refine⟨Eq.trans (List.filter_congr fun q hq=>?_) S.ti,Eq.trans ?_ S.cr⟩
 ·rw[Bool.eq_iff_iff,uZ,uZ,GA.xK hp,GA.xK hp]
  constructor
  ·rintro ((z|z)|(z|z))
   ·exact .inl z.1
   ·rw[show q.1=p.2 from congrArg Prod.fst z,show q.2=p.1 from congrArg Prod.snd z];exact .inr hp
   ·exact .inr z.1
   ·rw[show q.2=p.2 from congrArg Prod.fst z,show q.1=p.1 from congrArg Prod.snd z];exact .inl hp
  ·rintro (z|z)
   ·by_cases e:(q.1,q.2)=p
    ·exact .inr (.inr (by rw[← e]))
    ·exact .inl (.inl ⟨z,e⟩)
   ·by_cases e:(q.2,q.1)=p
    ·exact .inl (.inr (by rw[← e]))
    ·exact .inr (.inl ⟨z,e⟩)
 ·have h1:=BJ GA.nd GA.inn GA.rk (t:=p.1) (h:=p.2) hp
  rw[show dR (bD A p.2) (bD A p.1++[p.1])=true from hc] at h1
  have h1:=h1.symm
  rw[Bool.and_eq_true,decide_eq_true_iff] at h1
  refine Eq.trans (W8 GA.nd fun q h2 h3=>?_) h1.2
  rw[sH]
  exact⟨fun z=>z.1,fun z=>⟨z,h2,h3⟩⟩
theorem Sm.inB{names:List Str}{A B:List Ar}(GA:Gd names A)(GB:Gd names B)(S:Sm names A B){p:Ar}(hp:p∈A)(hn:p∉B):(p.2,p.1)∈B:=by
 obtain⟨h1,h2⟩:=GA.inn p hp
 have ne:p.1≠p.2:=fun e=>GA.lk.irr p.1 (by rw[show (p.1,p.1)=p from Prod.ext rfl e];exact hp)
 have t:=S.tie h1 h2 ne
 rw[uZ.mpr (.inl hp)] at t
 rcases uZ.mp t.symm with z|z
 ·exact absurd z hn
 ·exact z
theorem Sm.symm{names:List Str}{A B:List Ar}(S:Sm names A B):Sm names B A:=⟨S.ti.symm,S.cr.symm⟩
theorem Sm.step{names:List Str}{A B:List Ar}(GA:Gd names A)(GB:Gd names B)(S:Sm names A B)(ne:A≠B):∃ p,p∈A∧cov A p=true∧p∉B:=by
 have hq:∃ q,q∈A∧q∉B:=Classical.byContradiction fun hno=>ne (by
  have ab:∀ q,q∈A→q∈B:=fun q hq=>Classical.byContradiction fun z=>hno ⟨q,hq,z⟩
  rw[← GA.kj,← GB.kj]
  refine FJ fun q h1 h2=>⟨ab q,fun hb=>Classical.byContradiction fun z=>?_⟩
  have:=ab _ (S.symm.inB GB GA hb z)
  exact GB.BP (t:=q.1) (h:=q.2) hb this)
 obtain⟨ra,ha⟩:=GA.rk
 obtain⟨rb,hb⟩:=GB.rk
 obtain⟨q,hq1,hq2⟩:=hq
 have inD:∀ u v,(u,v)∈A→(v,u)∈B→(u,v)∈A.filter fun p=>!decide (p∈B):=fun u v h1 h2=>List.mem_filter.mpr ⟨h1,by rw[decide_eq_false (fun z=>GB.BP z h2)];rfl⟩
 obtain⟨p0,m0,k0⟩:=IK (fun p:Ar=>ra p.2) (A.filter fun p=>!decide (p∈B)) (fun z=>by
  have:q∈A.filter fun p=>!decide (p∈B):=List.mem_filter.mpr ⟨hq1,by rw[decide_eq_false hq2];rfl⟩
  rw[z] at this;exact nomatch this)
 obtain⟨p1,m1,k1⟩:=IK (fun p:Ar=>- ra p.1) ((A.filter fun p=>!decide (p∈B)).filter fun p=>decide (p.2=p0.2)) (fun z=>by
  have:p0∈(A.filter fun p=>!decide (p∈B)).filter fun p=>decide (p.2=p0.2):=List.mem_filter.mpr ⟨m0,decide_eq_true rfl⟩
  rw[z] at this;exact nomatch this)
 obtain⟨m1,e1⟩:=List.mem_filter.mp m1
 have e1:p1.2=p0.2:=of_decide_eq_true e1
 obtain⟨mA,nB⟩:=List.mem_filter.mp m1
 have nB:p1∉B:=fun z=>by rw[decide_eq_true z] at nB;cases nB
 have bB:=S.inB GA GB mA nB
 refine⟨p1,mA,?_,nB⟩
 refine vg.mpr (adK (A:=fun x y=>(x,y)∈A) (B:=fun x y=>(x,y)∈B) (ra:=ra) (rb:=rb) (fun x y h=>ha _ h) (fun x y h=>hb _ h) (fun x y=>?_) (fun a m b nab=>?_) mA bB (fun u v h1 h2=>?_) fun u h1 h2=>?_)
 ·have both:∀ {X Y:List Ar},Gd names X→Sm names X Y→(x,y)∈X∨(y,x)∈X→(x,y)∈Y∨(y,x)∈Y:=fun {X Y} GX SX h=>by
   have hx:x∈names∧y∈names∧x≠y:=by
    rcases h with h|h
    ·exact⟨(GX.inn _ h).1,(GX.inn _ h).2,fun e=>GX.lk.irr x (by rw[← e] at h;exact h)⟩
    ·exact⟨(GX.inn _ h).2,(GX.inn _ h).1,fun e=>GX.lk.irr x (by rw[← e] at h;exact h)⟩
   have t:=SX.tie hx.1 hx.2.1 hx.2.2
   rw[uZ.mpr h] at t
   exact uZ.mp t.symm
  exact⟨both GA S,both GB S.symm⟩
 ·have c:=(DQ GA.nd).mp S.cr
  have one:∀ {X Y:List Ar},Gd names X→(∀ a∈names,∀ m∈names,∀ b∈names,a≠b→wQ X a m b=wQ Y a m b)→(a,m)∈X∧(b,m)∈X∧¬ (a,b)∈X∧¬ (b,a)∈X→(a,m)∈Y∧(b,m)∈Y∧¬ (a,b)∈Y∧¬ (b,a)∈Y:=fun {X Y} GX hc h=>by
   have:=hc a (GX.inn _ h.1).1 m (GX.inn _ h.1).2 b (GX.inn _ h.2.1).1 nab
   rw[Bl.mpr h] at this
   exact Bl.mp this.symm
  exact⟨one GA c,one GB fun a ha m hm b hb nab=>(c a ha m hm b hb nab).symm⟩
 ·have:=k0 _ (inD u v h1 h2)
  simp only at this
  rw[e1];exact this
 ·have h1':(u,p0.2)∈A:=by rw[← e1];exact h1
  have h2':(p0.2,u)∈B:=by rw[← e1];exact h2
  have:=k1 (u,p0.2) (List.mem_filter.mpr ⟨inD u p0.2 h1' h2',decide_eq_true rfl⟩)
  simp only at this
  omega
def zR(A B:List Ar):Nat:=(A.filter fun p=>!decide (p∈B)).length
theorem Dy(A:List Ar):zR A A=0:=by
 unfold zR
 rw[List.filter_eq_nil_iff.mpr fun p hp=>by rw[decide_eq_true hp];simp];rfl
theorem Sm.Dw{names:List Str}{A B:List Ar}(GA:Gd names A)(GB:Gd names B)(S:Sm names A B){p:Ar}(hp:p∈A)(hn:p∉B):zR A B=zR (kj names (nW p A)) B+1:=by
 unfold zR
 have hb:=S.inB GA GB hp hn
 have mp:p∈A.filter fun q=>!decide (q∈B):=List.mem_filter.mpr ⟨hp,by rw[decide_eq_false hn];rfl⟩
 have nd1:(A.filter fun q=>!decide (q∈B)).Nodup:=GA.nodup.filter _
 have pm:((kj names (nW p A)).filter fun q=>!decide (q∈B)).Perm ((A.filter fun q=>!decide (q∈B)).erase p):=by
  refine sG ((ym GA.nd GA.le _).filter _) (nd1.erase p) fun q=>?_
  rw[nd1.mem_erase_iff,List.mem_filter,List.mem_filter,GA.xK hp]
  constructor
  ·rintro ⟨(⟨h1,h2⟩|rfl),h3⟩
   ·exact⟨h2,h1,h3⟩
   ·rw[decide_eq_true hb] at h3;cases h3
  ·rintro ⟨h1,h2,h3⟩
   exact⟨.inl ⟨h2,h1⟩,h3⟩
 rw[pm.length_eq,List.length_erase_of_mem mp]
 have:0 < (A.filter fun q=>!decide (q∈B)).length:=List.length_pos_of_mem mp
 omega
theorem Sm.Mm{names:List Str}{A B:List Ar}(GA:Gd names A)(GB:Gd names B)(S:Sm names A B)(h:zR A B=0):A=B:=Classical.byContradiction fun ne=>by
 obtain⟨p,h1,_,h3⟩:=S.step GA GB ne
 rw[S.Dw GA GB h1 h3] at h;omega
def J3(names:List Str)(B:List Ar):Nat→List Ar→List Ar
 | 0,_=>[]
 | n+1,A=>match (A.filter (cov A)).filter (fun p=>!decide (p∈B)) with
  | []=>[]
  | p::_=>p::J3 names B n (kj names (nW p A))
theorem Sm.pick{names:List Str}{A B:List Ar}(GA:Gd names A)(GB:Gd names B)(S:Sm names A B){n:Nat}(h:zR A B=n+1):∃ p r,(A.filter (cov A)).filter (fun p=>!decide (p∈B))=p::r∧p∈A∧cov A p=true∧p∉B:=by
 have ne:A≠B:=fun e=>by rw[e,Dy] at h;omega
 obtain⟨p,h1,h2,h3⟩:=S.step GA GB ne
 have mp:p∈(A.filter (cov A)).filter fun p=>!decide (p∈B):=List.mem_filter.mpr ⟨List.mem_filter.mpr ⟨h1,h2⟩,by rw[decide_eq_false h3];rfl⟩
 cases hl:(A.filter (cov A)).filter fun p=>!decide (p∈B) with
 | nil=>rw[hl] at mp;exact nomatch mp
 | cons p' r =>
  have m':p'∈(A.filter (cov A)).filter fun p=>!decide (p∈B):=by rw[hl];exact List.mem_cons_self ..
  obtain⟨a,b⟩:=List.mem_filter.mp m'
  obtain⟨c,d⟩:=List.mem_filter.mp a
  exact⟨p',r,rfl,c,d,fun z=>by rw[decide_eq_true z] at b;cases b⟩
end Mr
namespace Mr
open PySem Mi
open My (words Av f9)
theorem Rj(names:List Str)(aj:List Ar):(aH names aj).dep≤16:=by
 unfold aH cU Bp
 rw[Jr,lu,lu,Jr,Jr,PB,pB]
 have:=mH aj
 omega
theorem KJ(names:List Str)(A B:List Ar):cR (aH names A) (aH names B)=decide (A=B):=by
 unfold aH cU Bp
 rw[cR,fL,fL,fL,cR,cR,oW,yC,decide_eq_true rfl];simp
theorem Rq(names:List Str)(A B:List Ar):wA (aH names A) (aH names B)=.ok (.bl (!decide (A=B))):=by
 unfold wA
 rw[aq (Rj names A),KJ]
theorem Ze(names:List Str)(A B:List Ar):oK (aH names A) (aH names B)=.ok (.bl (decide (A=B))):=by
 unfold oK
 rw[aq (Rj names A),KJ]
theorem Jt(xs ys:List Str):wA (cU xs) (cU ys)=.ok (.bl (!decide (xs=ys))):=by
 unfold wA cU
 rw[aq (by simp),cR,oW]
theorem xW(xs ys:List Ar):oK (bQ xs) (bQ ys)=.ok (.bl (decide (xs=ys))):=by
 unfold oK bQ
 rw[aq (by rw[Rn];have:=mH xs;omega),cR,yC]
def sam(names:List Str)(A B:List Ar):Bool:=decide (RP names A=RP names B) && decide (ni names A=ni names B)
theorem HJ{names:List Str}{A B:List Ar}:sam names A B=true↔Sm names A B:=by
 unfold sam
 rw[Bool.and_eq_true,decide_eq_true_iff,decide_eq_true_iff]
 exact⟨fun h=>⟨h.1,h.2⟩,fun h=>⟨h.ti,h.cr⟩⟩
theorem Yi{names:List Str}{A B:List Ar}(GA:Gd names A)(GB:Gd names B):oY [.d (aH names A),.d (aH names B)]=.ok (.d (.bl (sam names A B))):=by
 unfold oY Eg
 rw[sW]
 rw[show ([some (W.d (aH names A)),some (W.d (aH names B))]++List.replicate (2 - 2) none)=[some (W.d (aH names A)),some (W.d (aH names B))] from rfl]
 have hr:dW [.d (aH names A),.d (aH names B)]=.ok (.d .non):=by
  unfold dW lV
  rw[sW]
  rw[(fO (bZ ((aF (aF rfl rfl (Dh names A)) (aF rfl rfl (Dh names B)) (Jt names names)).trans (by rw[decide_eq_true rfl];rfl))))]
  rfl
 rw[aL (wy (call2 rfl rfl hr))]
 rw[dm (cu (u9 (aF (jP rfl (Ax GA.le)) (jP rfl (Ax GB.le)) (xW _ _)) fun _=>aF (jP rfl (tD GA.nt)) (jP rfl (tD GB.nt)) (yZ _ _)))]
 rfl
theorem Am{n1 n2:List Str}{A B:List Ar}(GA:Gd n1 A)(GB:Gd n2 B):∃ b,eZ [.d (aH n1 A),.d (aH n2 B)]=.ok (.d (.bl b))∧(b=true↔n1=n2∧Sm n1 A B):=by
 unfold eZ uN
 rw[sW]
 rw[show ([some (W.d (aH n1 A)),some (W.d (aH n2 B))]++List.replicate (2 - 2) none)=[some (W.d (aH n1 A)),some (W.d (aH n2 B))] from rfl]
 have ct:=bZ (aF (a:=m2 cz (mV 0) (mC (.int 0))) (b:=m2 cz (mV 1) (mC (.int 0))) (e:=[some (W.d (aH n1 A)),some (W.d (aH n2 B))]) (aF rfl rfl (Dh n1 A)) (aF rfl rfl (Dh n2 B)) (Jt n1 n2))
 by_cases e:n1=n2
 ·subst e
  rw[decide_eq_true rfl] at ct
  refine⟨sam n1 A B,?_,by rw[HJ];exact⟨fun h=>⟨rfl,h⟩,fun h=>h.2⟩⟩
  rw[aL ((fO ct).trans rfl)]
  rw[dm (cu (u9 (aF (jP rfl (Gg GA.le)) (jP rfl (Gg GB.le)) (xW _ _)) fun _=>aF (jP rfl (DW GA.le)) (jP rfl (DW GB.le)) (yZ _ _)))]
  rfl
 ·rw[decide_eq_false e] at ct
  refine⟨false,?_,(fun h=>(nomatch h)),fun h=>absurd h.1 e⟩
  rw[um ((lH ct).trans (dm (cu rfl)))]
  rfl
theorem DY{names:List Str}{B:List Ar}(GB:Gd names B)(F:D):∀ (n:Nat) (A acc:List Ar) (o4:Option W) (fuel:Nat),Gd names A→Sm names A B→zR A B=n→n < fuel→acc.length+n≤1000 →
 ∃ o4',jr (cB (m2 wA (mV 3) (mV 1))) (aW (bL 4 (m2 cz (cW [some 1,none] (lJ (aR ie [(wD (mV 3))])) (.n 1) (cB (m2 dY (mV 1) (m2 cz (mV 0) (mC (.int 1))))) (mV 1)) (mC (.int 0))))
 (aW (bU 2 (mV 4))
 (bL 3 (aR iK [(wD (mV 3)),(wD (m2 cz (mV 4) (mC (.int 0)))),(wD (m2 cz (mV 4) (mC (.int 1))))])))) fuel [some (W.d F),some (W.d (aH names B)),some (W.d (bQ acc)),some (W.d (aH names A)),o4] =
  .ok (.nx [some (W.d F),some (W.d (aH names B)),some (W.d (bQ (acc++J3 names B n A))),some (W.d (aH names B)),o4'])
 | n,A,acc,o4,0,_,_,_,h,_=>absurd h (Nat.not_lt_zero _)
 | 0,A,acc,o4,fuel+1,GA,S,hd,_,_=>by
  obtain rfl:=S.Mm GA GB hd
  have ct:cB (m2 wA (mV 3) (mV 1)) [some (W.d F),some (W.d (aH names A)),some (W.d (bQ acc)),some (W.d (aH names A)),o4]=.ok false:=bZ ((aF rfl rfl (Rq names A A)).trans (by rw[decide_eq_true rfl];rfl))
  refine⟨o4,?_⟩
  rw[jr,ct,aG,if_neg Bool.false_ne_true,show J3 names A 0 A=[] from rfl,List.append_nil]
 | n+1,A,acc,o4,fuel+1,GA,S,hd,hf,hl=>by
  have ne:A≠B:=fun e=>by rw[e,Dy] at hd;omega
  obtain⟨p,r,hp,m1,m2',m3⟩:=S.pick GA GB hd
  have ct:cB (m2 wA (mV 3) (mV 1)) [some (W.d F),some (W.d (aH names B)),some (W.d (bQ acc)),some (W.d (aH names A)),o4]=.ok true:=bZ ((aF rfl rfl (Rq names A B)).trans (by rw[decide_eq_false ne];rfl))
  have S':=S.turn GA m1 m2'
  have G':=GA.nW (t:=p.1) (h:=p.2) m1 m2'
  have hd':zR (kj names (nW p A)) B=n:=by have:=S.Dw GA GB m1 m3;omega
  obtain⟨o',ih⟩:=DY GB F n (kj names (nW p A)) (acc++[p]) (some (W.d (pairD p))) fuel G' S' hd' (by omega) (by rw[List.length_append];simp only[List.length_cons,List.length_nil];omega)
  refine⟨o',?_⟩
  rw[jr,ct,aG,if_pos rfl]
  have cm:dN (.n 1) (cB (m2 dY (mV 1) (m2 cz (mV 0) (mC (.int 1))))) (mV 1) [some (.d (aH names B)),none] ((A.filter (cov A)).map pairD)=.ok (((A.filter (cov A)).filter fun p=>!decide (p∈B)).map pairD) :=
   cJ pairD pairD (fun p=>!decide (p∈B)) _ fun q _=>⟨[some (.d (aH names B)),some (.d (pairD q))],rfl,bZ (aF rfl (aF rfl rfl (Q8 names B)) (tu B q)),fun _=>rfl⟩
  rw[hp] at cm
  have fl:((A.filter (cov A)).map pairD).length≤16777216:=by
   rw[List.length_map]
   have:=List.length_filter_le (cov A) A
   have:=GA.al
   omega
  rw[aL (e':=[some (W.d F),some (W.d (aH names B)),some (W.d (bQ acc)),some (W.d (aH names A)),some (W.d (pairD p))])
   (bj (aF (x:=.lst ((p::r).map pairD)) (cY (ρ:=[some 1,none]) (dO (jP rfl (Ke GA.nt)) rfl) fl cm) rfl (by show t8 (wB (pairD p::r.map pairD) 0)=_;rw[at0];rfl)))]
  rw[aL (e':=[some (W.d F),some (W.d (aH names B)),some (W.d (bQ (acc++[p]))),some (W.d (aH names A)),some (W.d (pairD p))])
   ((rG (ds:=acc.map pairD) rfl rfl (by rw[List.length_map];omega)).trans (by unfold bQ;rw[List.map_append];rfl))]
  rw[bj (zV (x:=.d (aH names A)) (y:=.d (.str p.1)) (z:=.d (.str p.2)) rfl (cu (aF (x:=pairD p) rfl rfl rfl)) (cu (aF (x:=pairD p) rfl rfl rfl)) (RM GA (t:=p.1) (h:=p.2) m1 m2'))]
  rw[aG]
  show jr _ _ fuel [some (W.d F),some (W.d (aH names B)),some (W.d (bQ (acc++[p]))),some (W.d (aH names (kj names (nW p A)))),some (W.d (pairD p))]=_
  rw[ih,show J3 names B (n+1) A=p::J3 names B n (kj names (nW p A)) by rw[J3,hp],List.append_assoc];rfl
theorem WT{names:List Str}{A B:List Ar}(GA:Gd names A):zR A B≤64:=Nat.le_trans (List.length_filter_le _ _) GA.al
theorem zb{names:List Str}{A B:List Ar}(GA:Gd names A)(GB:Gd names B)(S:Sm names A B):iM [.d (aH names A),.d (aH names B)]=.ok (.d (bQ (J3 names B (zR A B) A))):=by
 have hd:=WT (B:=B) GA
 obtain⟨o4,lp⟩:=DY GB (aH names A) (zR A B) A [] none 100 GA S rfl (by omega) (by simp only[List.length_nil];omega)
 unfold iM En
 rw[Tj]
 rw[show ([some (W.d (aH names A)),some (W.d (aH names B))]++List.replicate (5 - 2) none)=[some (W.d (aH names A)),some (W.d (aH names B)),none,none,none] from rfl]
 rw[aL ((fO (CK ((call2 rfl rfl (Yi GA GB)).trans (by rw[HJ.mpr S])))).trans rfl)]
 rw[aL (e':=[some (W.d (aH names A)),some (W.d (aH names B)),some (W.d (bQ [])),none,none]) (bj (yM _))]
 rw[aL (e':=[some (W.d (aH names A)),some (W.d (aH names B)),some (W.d (bQ [])),some (W.d (aH names A)),none]) (bj rfl)]
 unfold Cp
 rw[aL lp]
 rfl
theorem aaA{n1 n2:List Str}{A B:List Ar}(GA:Gd n1 A)(GB:Gd n2 B)(h:¬ (n1=n2∧Sm n1 A B)):lr [.d (aH n1 A),.d (aH n2 B)]=.ex ⟨"Unlike", []⟩:=by
 unfold lr z9
 rw[sW]
 rw[show ([some (W.d (aH n1 A)),some (W.d (aH n2 B))]++List.replicate (5 - 2) none)=[some (W.d (aH n1 A)),some (W.d (aH n2 B)),none,none,none] from rfl]
 have ct:=adL (bZ (aF (a:=m2 cz (mV 0) (mC (.int 0))) (b:=m2 cz (mV 1) (mC (.int 0))) (e:=[some (W.d (aH n1 A)),some (W.d (aH n2 B))]) (aF rfl rfl (Dh n1 A)) (aF rfl rfl (Dh n2 B)) (Jt n1 n2)))
 have hs:Qu gO [(wD (mV 0)),(wD (mV 1))] (Ay "Unlike") (sP bA) [some (W.d (aH n1 A)),some (W.d (aH n2 B)),none,none,none]=.ex ⟨"Unlike", []⟩:=by
  unfold Qu
  rw[bW,show wD (mV 0) [some (W.d (aH n1 A)),some (W.d (aH n2 B)),none,none,none]=.ok (.d (aH n1 A)) from rfl,aG,bW,show wD (mV 1) [some (W.d (aH n1 A)),some (W.d (aH n2 B)),none,none,none]=.ok (.d (aH n2 B)) from rfl,aG,bW,aG]
  show ((gO [.d (aH n1 A),.d (aH n2 B)]).bind _)=_
  by_cases e:n1=n2
  ·subst e
   rw[decide_eq_true rfl] at ct
   have hx:gO [.d (aH n1 A),.d (aH n1 B)]=.ok (.d (.bl (sam n1 A B))):=by
    unfold gO uO
    rw[sW]
    rw[show ([some (W.d (aH n1 A)),some (W.d (aH n1 B))]++List.replicate (2 - 2) none)=[some (W.d (aH n1 A)),some (W.d (aH n1 B))] from rfl]
    have hr:b8 [.d (aH n1 A),.d (aH n1 B)]=.ok (.d .non):=by
     unfold b8 iR
     rw[sW]
     rw[show ([some (W.d (aH n1 A)),some (W.d (aH n1 B))]++List.replicate (2 - 2) none)=[some (W.d (aH n1 A)),some (W.d (aH n1 B))] from rfl]
     rw[fO ct];rfl
    rw[aL (T5 rfl rfl hr)]
    rw[acE (dm (cu (u9 (aF (jP rfl (Ax GA.le)) (jP rfl (Ax GB.le)) (xW _ _)) fun _=>aF (jP rfl (tD GA.nt)) (jP rfl (tD GB.nt)) (yZ _ _))))]
    rfl
   have hb:sam n1 A B=false:=by
    cases z:sam n1 A B with
    | false=>rfl
    | true=>exact absurd ⟨rfl,HJ.mp z⟩ h
   rw[hx,hb];rfl
  ·rw[decide_eq_false e] at ct
   have hx:gO [.d (aH n1 A),.d (aH n2 B)]=.ex ⟨"Unlike", []⟩:=by
    unfold gO uO
    rw[sW]
    rw[show ([some (W.d (aH n1 A)),some (W.d (aH n2 B))]++List.replicate (2 - 2) none)=[some (W.d (aH n1 A)),some (W.d (aH n2 B))] from rfl]
    have hr:b8 [.d (aH n1 A),.d (aH n2 B)]=.ex ⟨"Unlike", []⟩:=by
     unfold b8 iR
     rw[sW]
     rw[show ([some (W.d (aH n1 A)),some (W.d (aH n2 B))]++List.replicate (2 - 2) none)=[some (W.d (aH n1 A)),some (W.d (aH n2 B))] from rfl]
     rw[lH ct];rfl
    rw[Vb (Gx rfl rfl hr)];rfl
   rw[hx];rfl
 rw[Vb hs];rfl
theorem abA:m6 [.ex "Unlike"]=.ok (.d (.lst [.str "Unlike"])):=by rfl
theorem aen{gK other:D}(hb:lr [.d gK,.d other]=.ex ⟨"Unlike", []⟩):ik [.d gK,.d other]=.ok (.d (.lst [.str "Unlike"])):=by
 unfold ik vK
 rw[sW]
 rw[show ([some (W.d gK),some (W.d other)]++List.replicate (4 - 2) none)=[some (W.d gK),some (W.d other),none,none] from rfl]
 rw[aL (e':=[some (W.d gK),some (W.d other),some (W.d (.lst [])),none]) (bj (yM _))]
 have hh:=bj (i:=2) (jP (f:=m6) (a:=wV 3) (e:=[some (W.d gK),some (W.d other),some (W.d (.lst [])),some (.ex "Unlike")]) rfl abA)
 rw[aL (e':=[some (W.d gK),some (W.d other),some (W.d (.lst [.str "Unlike"])),none]) (aaF (z:=⟨"Unlike", []⟩) (o:=.nx [some (W.d gK),some (W.d other),some (W.d (.lst [.str "Unlike"])),some (.ex "Unlike")]) (Gx rfl rfl hb) (List.mem_cons_self ..) hh)]
 rw[dm (cu rfl)]
 rfl
def Wk(names:List Str)(B:List Ar):List Ar→List Ar→Prop
 | [],L=>kj names L=B
 | p::r,L=>p∈L∧cov L p=true∧Wk names B r (nW p L)
theorem Zh{A L:List Ar}(h:∀ q,q∈L↔q∈A)(p:Ar):cov L p=cov A p:=by
 rw[Bool.eq_iff_iff]
 show dR (bD L p.2) (bD L p.1++[p.1])=true↔dR (bD A p.2) (bD A p.1++[p.1])=true
 rw[vg,vg]
 exact⟨fun k x=>by rw[← h,← h];exact k x,fun k x=>by rw[h,h];exact k x⟩
theorem DX{names:List Str}{B:List Ar}(GB:Gd names B):∀ (n:Nat) (A L:List Ar),Gd names A→Sm names A B→zR A B=n→(∀ q,q∈L↔q∈A)→Wk names B (J3 names B n A) L∧(J3 names B n A).length=n
 | 0,A,L,GA,S,hd,hm=>by
  obtain rfl:=S.Mm GA GB hd
  refine⟨?_,rfl⟩
  show kj names L=A
  exact(FJ fun q _ _=>hm q).trans GA.kj
 | n+1,A,L,GA,S,hd,hm=>by
  obtain⟨p,r,hp,m1,m2',m3⟩:=S.pick GA GB hd
  have hd':zR (kj names (nW p A)) B=n:=by have:=S.Dw GA GB m1 m3;omega
  have mL:=(hm p).mpr m1
  obtain⟨w,l⟩:=DX GB n (kj names (nW p A)) (nW p L) (GA.nW (t:=p.1) (h:=p.2) m1 m2') (S.turn GA m1 m2') hd' fun q=>by
   rw[GA.xK m1,sI mL,hm]
  rw[show J3 names B (n+1) A=p::J3 names B n (kj names (nW p A)) by rw[J3,hp]]
  exact⟨⟨mL,(Zh hm p).trans m2',w⟩,by rw[List.length_cons,l]⟩
theorem Lk.nW{names:List Str}{L:List Ar}(G:Lk names L){p:Ar}(hp:p∈L)(hc:cov L p=true):Lk names (Mr.nW p L):=by
 have inn:∀ q∈Mr.nW p L,q.1∈names∧q.2∈names:=fun q hq=>by
  rcases (sI hp).mp hq with ⟨h1,_⟩|rfl
  ·exact G.inn q h1
  ·exact⟨(G.inn _ hp).2,(G.inn _ hp).1⟩
 refine⟨G.nd,G.le,by rw[Rg];exact G.al,inn,KC (names:=names) inn ?_,?_⟩
 ·have:=BJ G.nd G.inn G.rk (t:=p.1) (h:=p.2) hp
  rw[show dR (bD L p.2) (bD L p.1++[p.1])=true from hc] at this
  have:=this.symm
  rw[Bool.and_eq_true,Bool.not_eq_true'] at this
  exact this.1
 ·unfold Mr.nW
  refine List.pairwise_map.mpr (G.nda.imp_of_mem fun {a b} ha hb ne z=>?_)
  have th:∀ q∈L,q≠(p.2,p.1):=fun q hq e=>by
   obtain⟨k,hk⟩:=G.rk
   have h1:=hk _ hp
   have h2:=hk _ hq
   rw[e] at h2
   simp only at h2
   omega
  by_cases e1:a=p<;>by_cases e2:b=p
  ·exact ne (e1.trans e2.symm)
  ·rw[if_pos e1,if_neg e2,e1] at z
   exact th b hb z.symm
  ·rw[if_neg e1,if_pos e2,e2] at z
   exact th a ha z
  ·rw[if_neg e1,if_neg e2] at z
   exact ne z
theorem Fv{names:List Str}{B:List Ar}{v0 v1 v2 v3:W}:∀ (ch L:List Ar) (o5:Option W),Lk names L→Wk names B ch L→∃ L' o5',rC (.n 5) (aW (iI (T7 (lN (cB (m1 (bIs ["tuple"]) (mV 5)))) (T7 (cB (m2 wA (mN gB [(mV 5)]) (mC (.int 2)))) (cB (m2 dY (mV 5) (aR eY [(wD (mV 4))])))))
 (dg (wD (mC (.bl false))))
 bA)
 (bL 4 (aR eX [(wD (mV 4)),(wD (mV 5))]))) (ch.map pairD) [some v0,some v1,some v2,some v3,some (W.d (bQ L)),o5]=.ok (.nx [some v0,some v1,some v2,some v3,some (W.d (bQ L')),o5'])∧kj names L'=B
 | [],L,o5,G,w=>⟨L,o5,rfl,w⟩
 | p::r,L,o5,G,w=>by
  obtain⟨h1,h2,h3⟩:=w
  obtain⟨L',o',ih,e⟩:=Fv (v0:=v0) (v1:=v1) (v2:=v2) (v3:=v3) r (nW p L) (some (W.d (pairD p))) (G.nW h1 h2) h3
  refine⟨L',o',?_,e⟩
  rw[List.map_cons]
  refine xU (e0:=[some v0,some v1,some v2,some v3,some (W.d (bQ L)),some (W.d (pairD p))]) (e1:=[some v0,some v1,some v2,some v3,some (W.d (bQ (nW p L))),some (W.d (pairD p))]) rfl ?_ ih
  have ct:=Ec (a:=lN (cB (m1 (bIs ["tuple"]) (mV 5)))) (b:=T7 (cB (m2 wA (mN gB [(mV 5)]) (mC (.int 2)))) (cB (m2 dY (mV 5) (aR eY [(wD (mV 4))])))) (e:=[some v0,some v1,some v2,some v3,some (W.d (bQ L)),some (W.d (pairD p))]) (p:=false) (q:=false || !true) rfl fun _ =>
   Ec (p:=false) (q:=!true) (bZ ((aF (x:=.int 2) (y:=.int 2) rfl rfl (Rr 2 2)).trans rfl)) fun _=>bZ ((aF (x:=pairD p) rfl (jP rfl (DR G)) (oE _ p)).trans (by rw[decide_eq_true (List.mem_filter.mpr ⟨h1,h2⟩)]))
  rw[aL ((fO ct).trans rfl)]
  exact bj (call2 rfl rfl (wu (by have:=G.al;omega)))
theorem RL{names:List Str}{A B:List Ar}(GA:Gd names A)(GB:Gd names B)(S:Sm names A B):kO [.d (bQ (J3 names B (zR A B) A)),.d (aH names A),.d (aH names B)]=.ok (.d (.bl true)):=by
 obtain⟨w,hlen⟩:=DX GB (zR A B) A A GA S rfl fun q=>Iff.rfl
 obtain⟨ch,hch⟩ : ∃ ch,ch=J3 names B (zR A B) A:=⟨_,rfl⟩
 rw[← hch] at w hlen ⊢
 unfold kO Ej
 rw[Tn]
 rw[show ([some (W.d (bQ ch)),some (W.d (aH names A)),some (W.d (aH names B))]++List.replicate (6 - 3) none)=[some (W.d (bQ ch)),some (W.d (aH names A)),some (W.d (aH names B)),none,none,none] from rfl]
 have cm:dN (.n 1) (cB (m2 dY (mV 1) (m2 cz (mV 0) (mC (.int 1))))) (mV 1) [some (.d (aH names B)),none] (A.map pairD)=.ok ((A.filter fun p=>!decide (p∈B)).map pairD) :=
  cJ pairD pairD (fun p=>!decide (p∈B)) _ fun q _=>⟨[some (.d (aH names B)),some (.d (pairD q))],rfl,bZ (aF rfl (aF rfl rfl (Q8 names B)) (tu B q)),fun _=>rfl⟩
 have al:=GA.al
 rw[aL (e':=[some (W.d (bQ ch)),some (W.d (aH names A)),some (W.d (aH names B)),some (W.d (.int (zR A B:Nat))),none,none])
  (bj ((iB (cY (ρ:=[some 2,none]) (dO (aF rfl rfl (Q8 names A)) rfl) (by rw[List.length_map];omega) cm)).trans (by rw[Lw,List.length_map];rfl)))]
 have ct:=Ec (a:=lN (cB (m1 (bIs ["list"]) (mV 0)))) (b:=cB (m2 wA (mN gB [(mV 0)]) (mV 3))) (e:=[some (W.d (bQ ch)),some (W.d (aH names A)),some (W.d (aH names B)),some (W.d (.int (zR A B:Nat))),none,none]) (p:=false) (q:=!true) rfl fun _ =>
  bZ ((aF ((iB (x:=bQ ch) rfl).trans (by unfold bQ;rw[Lw,List.length_map,hlen])) rfl (Rr _ _)).trans (by rw[decide_eq_true rfl]))
 rw[aL ((fO ct).trans rfl)]
 rw[aL (e':=[some (W.d (bQ ch)),some (W.d (aH names A)),some (W.d (aH names B)),some (W.d (.int (zR A B:Nat))),some (W.d (bQ A)),none]) (bj ((iB (aF rfl rfl (Q8 names A))).trans rfl))]
 obtain⟨L',o5,lp,e⟩:=Fv (v0:=W.d (bQ ch)) (v1:=W.d (aH names A)) (v2:=W.d (aH names B)) (v3:=W.d (.int (zR A B:Nat))) ch A none GA.lk w
 rw[aL ((iD (dO (a:=mV 0) (x:=bQ ch) rfl rfl)).trans lp)]
 have hs:=yo (names:=names) (aj:=L') GA.le
 rw[e] at hs
 rw[dm (cu ((aF (call2 (cu (aF rfl rfl (Dh names A))) rfl hs) rfl (Ze names B B)).trans (by rw[decide_eq_true rfl])))]
 rfl
end Mr
namespace Mr
open PySem Mi
open My (words Av f9)
theorem pJ.gd{names:List Str}{A:List Ix}{r:Nat→Int}(N:pJ names A r)(hw:∀ x∈names,gD [.d (.str x)]=.ok (.d (.bl true))):Gd names (A.map (arrOf names)):=by
 refine⟨N.nd,N.pos,N.le,N.gK.rk,?_,hw⟩
 rw[← Bh]
 congr 1
 refine(zu (fun p:Ix=>p.1 * 8+p.2) _ _ ?_ ?_ fun p=>?_)
 ·unfold ixs
  have h8:=N.le
  rw[List.pairwise_flatMap]
  refine⟨fun i _=>?_,?_⟩
  ·rw[List.pairwise_map]
   refine(List.Pairwise.filter _ List.pairwise_lt_range).imp fun {a b} h=>?_
   show i * 8+a < i * 8+b
   omega
  ·refine List.pairwise_lt_range.imp fun {a b} h=>?_
   intro x hx y hy
   obtain⟨j,hj,rfl⟩:=List.mem_map.mp hx
   obtain⟨j',_,rfl⟩:=List.mem_map.mp hy
   have:=List.mem_range.mp (List.mem_filter.mp hj).1
   show a * 8+j < b * 8+j'
   omega
 ·refine N.kj.imp_of_mem fun {p q} hp hq h=>?_
  have h1:=(N.all p hp).2.1
  have h8:=N.le
  rcases h with h|⟨e,h⟩
  ·show p.1 * 8+p.2 < q.1 * 8+q.2
   omega
  ·show p.1 * 8+p.2 < q.1 * 8+q.2
   omega
 ·rw[Bc]
  constructor
  ·rintro ⟨h1,h2,h3⟩
   obtain⟨q,hq,e⟩:=List.mem_map.mp h3
   have e1:=j6 N.nd (N.all q hq).1 h1 (congrArg Prod.fst e)
   have e2:=j6 N.nd (N.all q hq).2.1 h2 (congrArg Prod.snd e)
   have:q=p:=Prod.ext e1 e2
   rw[← this];exact hq
  ·exact fun h=>⟨(N.all p h).1,(N.all p h).2.1,List.mem_map.mpr ⟨p,h,rfl⟩⟩
end Mr
namespace Mr
open PySem Mi
open My (words Av f9)
theorem R4{names:List Str}{A:List Ar}(G:Gd names A)(d:Int):∃ X,oZ [.d (aH names A),.d (.int d)]=.ok (.d (aH names (kj names X)))∧Rk X:=by
 have q0:=Int.emod_nonneg d (b:=7) (by decide)
 have q1:=Int.emod_lt_of_pos d (b:=7) (by decide)
 obtain⟨n,hn⟩ : ∃ n:Nat,d % 7=(n:Int):=⟨(d % 7).toNat,by omega⟩
 obtain⟨e',f1,L,w,o4,o5,he,hL⟩:=qb (tg:=.n 4) (body:=(aW (bL 5 (aR eY [(wD (mV 2))]))
 (aW (bL 3 (m2 cX (m2 cG (m2 dM (mV 3) (mC (.int 48271))) (mC (.int 11))) (mC (.int 2147483647))))
 (iI (cB (m2 XX (mN gB [(mV 5)]) (mC (.int 0))))
 (bL 2 (aR eX [(wD (mV 2)),(wD (m2 cz (mV 5) (m2 cX (m2 iZ (mV 3) (mC (.int 16))) (mN gB [(mV 5)]))))]))
 bA))))
  (fun i e=>∃ (L:List Ar) (w:Int) (o4 o5:Option W),e=[some (W.d (aH names A)),some (W.d (.int d)),some (W.d (bQ L)),some (W.d (.int w)),o4,o5]∧Lk names L) (du 0 (n:Int)) 0 (fun i x e hx ⟨L,w,o4,o5,he,hL⟩=>by
   subst he
   obtain⟨hi,rfl⟩:=sZ hx
   obtain⟨w',hw'⟩ : ∃ w',w'=(w * 48271+11) % 2147483647:=⟨_,rfl⟩
   have cv:=DR hL
   obtain⟨C,hC⟩ : ∃ C,C=L.filter (cov L):=⟨_,rfl⟩
   rw[← hC] at cv
   have s1:=bj (i:=5) (jP (f:=eY) (a:=wD (mV 2)) (e:=[some (W.d (aH names A)),some (W.d (.int d)),some (W.d (bQ L)),some (W.d (.int w)),some (W.d (.int (i:Int))),o5]) rfl cv)
   have s2:bL 3 (m2 cX (m2 cG (m2 dM (mV 3) (mC (.int 48271))) (mC (.int 11))) (mC (.int 2147483647))) [some (W.d (aH names A)),some (W.d (.int d)),some (W.d (bQ L)),some (W.d (.int w)),some (W.d (.int (i:Int))),some (W.d (bQ C))]=.ok (.nx [some (W.d (aH names A)),some (W.d (.int d)),some (W.d (bQ L)),some (W.d (.int w')),some (W.d (.int (i:Int))),some (W.d (bQ C))]) :=
    bj (aF (aF (aF rfl rfl ((Iv _ _).trans (aq (xF (by decide) (by decide))))) rfl (wG _ _)) rfl ((nQ _ _).trans ((aq (by decide)).trans (by rw[hw']))))
   have lc:mN gB [(mV 5)] [some (W.d (aH names A)),some (W.d (.int d)),some (W.d (bQ L)),some (W.d (.int w')),some (W.d (.int (i:Int))),some (W.d (bQ C))]=.ok (.int (C.length:Int)):=(iB (x:=bQ C) rfl).trans (by unfold bQ;rw[Lw,List.length_map])
   have ct:=bZ (aF (b:=mC (.int 0)) lc rfl (ady (C.length:Int) 0))
   by_cases h0:(0:Int) < (C.length:Int)
   ·rw[decide_eq_true h0] at ct
    obtain⟨p,hp,hx⟩:=Vs (xs:=C) (Int.emod_nonneg (w' / 16) (b:=(C.length:Int)) (by omega)) (Int.emod_lt_of_pos (w' / 16) h0)
    rw[hC] at hp
    obtain⟨hp1,hp2⟩:=List.mem_filter.mp hp
    refine⟨[some (W.d (aH names A)),some (W.d (.int d)),some (W.d (bQ L)),some (W.d (.int w)),some (W.d (.int (i:Int))),o5],[some (W.d (aH names A)),some (W.d (.int d)),some (W.d (bQ (nW p L))),some (W.d (.int w')),some (W.d (.int (i:Int))),some (W.d (bQ C))],rfl,?_,nW p L,w',_,_,rfl,hL.nW hp1 hp2⟩
    rw[aL s1]
    refine(aL s2).trans ((lH ct).trans (bj (call2 (x:=.d (bQ L)) (y:=.d (pairD p)) rfl (cu (aF (x:=bQ C) rfl (aF (aF rfl rfl ((div_ii _ _).trans (aq (cQ (by decide) (by decide))))) lc ((nQ _ _).trans (aq h0))) hx)) (wu (by have:=hL.al;omega)))))
   ·rw[decide_eq_false h0] at ct
    refine⟨[some (W.d (aH names A)),some (W.d (.int d)),some (W.d (bQ L)),some (W.d (.int w)),some (W.d (.int (i:Int))),o5],[some (W.d (aH names A)),some (W.d (.int d)),some (W.d (bQ L)),some (W.d (.int w')),some (W.d (.int (i:Int))),some (W.d (bQ C))],rfl,?_,L,w',_,_,rfl,hL⟩
    rw[aL s1]
    exact(aL s2).trans ((fO ct).trans rfl)) [some (W.d (aH names A)),some (W.d (.int d)),some (W.d (bQ A)),some (W.d (.int (d % 2147483647))),none,none] ⟨A,_,none,none,rfl,G.lk⟩
 subst he
 have rg:eQ (m2 cX (mV 1) (mC (.int 7))) [some (W.d (aH names A)),some (W.d (.int d)),some (W.d (bQ A)),some (W.d (.int (d % 2147483647))),none,none]=.ok (du 0 (n:Int)) :=
  lX (aF rfl rfl ((nQ _ _).trans ((aq (by decide)).trans (by rw[hn])))) (mj (by omega) (by omega))
 obtain⟨X,RX,hif⟩ : ∃ X,Rk X∧(iI (cB (m2 oK (m2 cX (m2 iZ (mV 1) (mC (.int 7))) (mC (.int 2))) (mC (.int 1))))
 (bL 2 (aR lg [(wD (m2 cz (mV 0) (mC (.int 0)))),(wD (mV 2)),(wD (m2 iZ (mV 3) (mC (.int 8))))]))
 bA) [some (W.d (aH names A)),some (W.d (.int d)),some (W.d (bQ L)),some (W.d (.int w)),o4,o5]=.ok (.nx [some (W.d (aH names A)),some (W.d (.int d)),some (W.d (bQ X)),some (W.d (.int w)),o4,o5]):=by
  have ct:=bZ (aF (b:=mC (.int 1)) (aF (b:=mC (.int 2)) (aF (a:=mV 1) (b:=mC (.int 7)) (e:=[some (W.d (aH names A)),some (W.d (.int d)),some (W.d (bQ L)),some (W.d (.int w)),o4,o5]) rfl rfl ((div_ii _ _).trans (aq (cQ (by decide) (by decide))))) rfl ((nQ _ _).trans (aq (by decide)))) rfl (qd (d / 7 % 2) 1))
  cases hk:decide (d / 7 % 2=1) with
  | false =>
   rw[hk] at ct
   exact⟨L,hL.rk,(fO ct).trans rfl⟩
  | true =>
   rw[hk] at ct
   obtain⟨B,hB,RB,_⟩:=Oi hL.nt (w / 8)
   exact⟨B,RB,(lH ct).trans (bj (zV (cu (aF rfl rfl (Dh names A))) rfl (cu (aF rfl rfl ((div_ii _ _).trans (aq (cQ (by decide) (by decide)))))) hB))⟩
 refine⟨X,?_,RX⟩
 unfold oZ El
 rw[sW]
 rw[show ([some (W.d (aH names A)),some (W.d (.int d))]++List.replicate (6 - 2) none)=[some (W.d (aH names A)),some (W.d (.int d)),none,none,none,none] from rfl]
 rw[aL (e':=[some (W.d (aH names A)),some (W.d (.int d)),some (W.d (bQ A)),none,none,none]) (bj ((iB (aF rfl rfl (Q8 names A))).trans rfl))]
 rw[aL (e':=[some (W.d (aH names A)),some (W.d (.int d)),some (W.d (bQ A)),some (W.d (.int (d % 2147483647))),none,none]) (bj (aF rfl rfl ((nQ _ _).trans (aq (by decide)))))]
 rw[aL ((iD rg).trans f1),aL hif]
 rw[dm (cu (call2 (cu (aF rfl rfl (Dh names A))) rfl (yo (names:=names) (aj:=X) G.le)))]
 rfl
theorem abW{f:Fn}{a b c:EW}{e:Mi.Env}{x y z:W}{d:D}(h:a e=.ok x)(h':b e=.ok y)(h'':c e=.ok z)(hf:f [x,y,z]=.ok (.d d))(hi:YZ d=true):mz f [a,b,c] e=.ok d:=by
 unfold mz qG;rw[bW,h,aG,bW,h',aG,bW,h''];simp only[aG,bW,hf,Rz,aq hi]
theorem Sm.refl(names:List Str)(A:List Ar):Sm names A A:=⟨rfl,rfl⟩
theorem Hw{v0 v1 v2 v3 v4 v6:W}{o5:Option W}{n1 n2:List Str}{A B:List Ar}(GA:Gd n1 A)(GB:Gd n2 B)(o9:Option W):∃ o9',(iI (cB (aR eZ [(wD (mV 7)),(wD (mV 8))]))
 (aW (bL 9 (aR iM [(wD (mV 7)),(wD (mV 8))]))
 (aW (iI (lN (cB (mz kO [(wD (mV 9)),(wD (mV 7)),(wD (mV 8))])))
 (dg (wD (mC (.bl false))))
 bA)
 (bU 9 (mN dTup [(mC (.str "a")),(mC (.str "b"))]))))
 (iI (cB (m2 wA (aR ik [(wD (mV 7)),(wD (mV 8))]) (mN fP [(mC (.str "Unlike"))])))
 (dg (wD (mC (.bl false))))
 bA)) [some v0,some v1,some v2,some v3,some v4,o5,some v6,some (W.d (aH n1 A)),some (W.d (aH n2 B)),o9]=.ok (.nx [some v0,some v1,some v2,some v3,some v4,o5,some v6,some (W.d (aH n1 A)),some (W.d (aH n2 B)),o9']):=by
 obtain⟨b,hb,adu⟩:=Am GA GB
 have ct:=bZ (call2 (f:=eZ) (a:=wD (mV 7)) (b:=wD (mV 8)) (e:=[some v0,some v1,some v2,some v3,some v4,o5,some v6,some (W.d (aH n1 A)),some (W.d (aH n2 B)),o9]) rfl rfl hb)
 cases b with
 | true =>
  obtain⟨e,S⟩:=adu.mp rfl
  subst e
  refine⟨some (W.d (.lst ((J3 n1 B (zR A B) A).map pairD++[.tup [.str "a", .str "b"]]))),(lH ct).trans ?_⟩
  rw[aL (e':=[some v0,some v1,some v2,some v3,some v4,o5,some v6,some (W.d (aH n1 A)),some (W.d (aH n1 B)),some (W.d (bQ (J3 n1 B (zR A B) A)))]) (bj (call2 rfl rfl (zb GA GB S)))]
  rw[aL ((fO (CK (abW (x:=.d (bQ (J3 n1 B (zR A B) A))) (y:=.d (aH n1 A)) (z:=.d (aH n1 B)) rfl rfl rfl (RL GA GB S) rfl))).trans rfl)]
  obtain⟨_,hlen⟩:=DX GB (zR A B) A A GA S rfl fun q=>Iff.rfl
  exact rG (ds:=(J3 n1 B (zR A B) A).map pairD) (kh rfl rfl) rfl (by rw[List.length_map,hlen];have:=WT (B:=B) GA;omega)
 | false =>
  have hx:=aaA GA GB fun h=>by have:=adu.mpr h;cases this
  refine⟨o9,(fO ct).trans ((fO (bZ ((aF (call2 rfl rfl (aen hx)) (Wb rfl) (WX ["Unlike"] ["Unlike"])).trans (by rw[decide_eq_true rfl];rfl)))).trans rfl)⟩
theorem vC(ns:List Int)(hl:ns.length≤63):yJ [.d (.lst (ns.map D.int))]=.ok (.d (.bl true)):=by
 obtain⟨names,A0,r,abI,IN,cw,mw,hm8,hnm⟩:=V5 ns 8 (by decide) (by decide)
 rw[show ((8:Nat):Int)=8 from rfl] at abI
 have hw:∀ x∈names,gD [.d (.str x)]=.ok (.d (.bl true)):=fun x hx=>by
  rw[hnm] at hx
  obtain⟨l,hl,rfl⟩:=List.mem_map.mp hx
  exact X4 (f9 cw mw hm8 l hl)
 have G:=IN.gd hw
 generalize A0.map (arrOf names)=A at abI G
 obtain⟨c,hc⟩:=vh ns 32 (by decide)
 rw[show ((32:Nat):Int)=32 from rfl] at hc
 have dvc:∀ (k:Int) (e:Mi.Env),0 < k→k < 2 ^ 64→mV 2 e=.ok (.int c)→m2 iZ (mV 2) (mC (.int k)) e=.ok (.int (c / k)):=fun k e k0 k1 h=>aF h rfl ((div_ii _ _).trans (aq (cQ k0 k1)))
 unfold yJ GJ
 rw[Ww]
 rw[show ([some (W.d (.lst (ns.map D.int)))]++List.replicate (10 - 1) none)=[some (W.d (.lst (ns.map D.int))),none,none,none,none,none,none,none,none,none] from rfl]
 rw[aL (e':=[some (W.d (.lst (ns.map D.int))),some (W.d (aH names A)),none,none,none,none,none,none,none,none]) (bj (call2 rfl rfl abI))]
 rw[aL (e':=[some (W.d (.lst (ns.map D.int))),some (W.d (aH names A)),some (W.d (.int c)),none,none,none,none,none,none,none]) (bj (call2 rfl rfl hc))]
 rw[aL (e':=[some (W.d (.lst (ns.map D.int))),some (W.d (aH names A)),some (W.d (.int c)),some (W.d (.int (c / 4 * 14+c / 8 % 7))),none,none,none,none,none,none])
  (bj (aF (aF (dvc 4 _ (by decide) (by decide) rfl) rfl ((Iv _ _).trans (aq (xF (by decide) (by decide))))) (aF (dvc 8 _ (by decide) (by decide) rfl) rfl ((nQ _ _).trans (aq (by decide)))) (wG _ _)))]
 obtain⟨d,hd⟩ : ∃ d:Int,(iI (cB (m2 oK (m2 cX (mV 2) (mC (.int 4))) (mC (.int 1))))
 (bL 3 (m2 cG (mV 3) (mC (.int 7))))
 bA) [some (W.d (.lst (ns.map D.int))),some (W.d (aH names A)),some (W.d (.int c)),some (W.d (.int (c / 4 * 14+c / 8 % 7))),none,none,none,none,none,none]=.ok (.nx [some (W.d (.lst (ns.map D.int))),some (W.d (aH names A)),some (W.d (.int c)),some (W.d (.int d)),none,none,none,none,none,none]):=by
  have ct:=bZ (aF (b:=mC (.int 1)) (aF (a:=mV 2) (b:=mC (.int 4)) (e:=[some (W.d (.lst (ns.map D.int))),some (W.d (aH names A)),some (W.d (.int c)),some (W.d (.int (c / 4 * 14+c / 8 % 7))),none,none,none,none,none,none]) rfl rfl ((nQ _ _).trans (aq (by decide)))) rfl (qd (c % 4) 1))
  cases hk:decide (c % 4=1) with
  | false=>rw[hk] at ct;exact⟨_,(fO ct).trans rfl⟩
  | true=>rw[hk] at ct;exact⟨_,(lH ct).trans (bj (aF rfl rfl (wG _ _)))⟩
 rw[aL hd]
 obtain⟨X,hX,RX⟩:=R4 G d
 have G2:=Gd.of G.nd G.pos G.le G.wd RX
 rw[aL (e':=[some (W.d (.lst (ns.map D.int))),some (W.d (aH names A)),some (W.d (.int c)),some (W.d (.int d)),some (W.d (aH names (kj names X))),none,none,none,none,none]) (bj (call2 rfl rfl hX))]
 obtain⟨n2,B,o5,GB,hif⟩ : ∃ (n2:List Str) (B:List Ar) (o5:Option W),Gd n2 B∧(iI (cB (m2 oK (m2 cX (mV 2) (mC (.int 8))) (mC (.int 2))))
 (aW (bL 5 (m2 cX (m2 iZ (mV 2) (mC (.int 8))) (mN gB [(m2 cz (mV 1) (mC (.int 0)))])))
 (bL 4 (aR ig [(wD (m2 Gq (jh DG (m2 cz (mV 1) (mC (.int 0))) (some (mV 5)) none) (jh DG (m2 cz (mV 1) (mC (.int 0))) none (some (mV 5))))),(wD (mN GZ [(m2 cz (mV 1) (mC (.int 1)))]))])))
 bA) [some (W.d (.lst (ns.map D.int))),some (W.d (aH names A)),some (W.d (.int c)),some (W.d (.int d)),some (W.d (aH names (kj names X))),none,none,none,none,none]=.ok (.nx [some (W.d (.lst (ns.map D.int))),some (W.d (aH names A)),some (W.d (.int c)),some (W.d (.int d)),some (W.d (aH n2 B)),o5,none,none,none,none]):=by
  have ct:=bZ (aF (b:=mC (.int 2)) (aF (a:=mV 2) (b:=mC (.int 8)) (e:=[some (W.d (.lst (ns.map D.int))),some (W.d (aH names A)),some (W.d (.int c)),some (W.d (.int d)),some (W.d (aH names (kj names X))),none,none,none,none,none]) rfl rfl ((nQ _ _).trans (aq (by decide)))) rfl (qd (c % 8) 2))
  cases hk:decide (c % 8=2) with
  | false =>
   rw[hk] at ct
   exact⟨names,_,none,G2,(fO ct).trans rfl⟩
  | true =>
   rw[hk] at ct
   have hp:=G.pos
   have h8:=G.le
   have q0:=Int.emod_nonneg (c / 8) (b:=(names.length:Int)) (by omega)
   have q1:=Int.emod_lt_of_pos (c / 8) (b:=(names.length:Int)) (by omega)
   obtain⟨k,hk2⟩ : ∃ k:Nat,c / 8 % (names.length:Int)=(k:Int):=⟨(c / 8 % (names.length:Int)).toNat,by omega⟩
   have kl:k < names.length:=by omega
   have pm:(names.drop k++names.take k).Perm names:=by
    have:=List.perm_append_comm (l₁:=names.drop k) (l₂:=names.take k)
    rw[List.take_append_drop] at this;exact this
   have lp:(names.drop k++names.take k).length=names.length:=pm.length_eq
   refine⟨names.drop k++names.take k,kj (names.drop k++names.take k) A,some (W.d (.int (k:Int))),Gd.of (pm.nodup_iff.mpr G.nd) (by omega) (by omega) (fun x hx=>G.wd x (pm.mem_iff.mp hx)) G.rk,(lH ct).trans ?_⟩
   rw[aL (e':=[some (W.d (.lst (ns.map D.int))),some (W.d (aH names A)),some (W.d (.int c)),some (W.d (.int d)),some (W.d (aH names (kj names X))),some (W.d (.int (k:Int))),none,none,none,none])
    (bj (aF (dvc 8 _ (by decide) (by decide) rfl) ((iB (aF rfl rfl (Dh names A))).trans (by unfold cU;rw[Wd,List.length_map])) ((nQ _ _).trans ((aq (by omega)).trans (by rw[hk2])))))]
   have s1:jh DG (m2 cz (mV 1) (mC (.int 0))) (some (mV 5)) none [some (W.d (.lst (ns.map D.int))),some (W.d (aH names A)),some (W.d (.int c)),some (W.d (.int d)),some (W.d (aH names (kj names X))),some (W.d (.int (k:Int))),none,none,none,none]=.ok (cU (names.drop k)) :=
    (BW (f:=DG) (aF rfl rfl (Dh names A)) (i:=(k:Int)) rfl).trans ((aq (by rw[List.length_map];omega)).trans (by rw[Int.toNat_natCast];unfold cU;rw[List.map_drop]))
   have s2:jh DG (m2 cz (mV 1) (mC (.int 0))) none (some (mV 5)) [some (W.d (.lst (ns.map D.int))),some (W.d (aH names A)),some (W.d (.int c)),some (W.d (.int d)),some (W.d (aH names (kj names X))),some (W.d (.int (k:Int))),none,none,none,none]=.ok (cU (names.take k)) :=
    (U8 (f:=DG) (aF rfl rfl (Dh names A)) (i:=(k:Int)) rfl).trans ((aq (by rw[List.length_map];omega)).trans (by rw[Int.toNat_natCast];unfold cU;rw[List.map_take]))
   have s3:m2 Gq (jh DG (m2 cz (mV 1) (mC (.int 0))) (some (mV 5)) none) (jh DG (m2 cz (mV 1) (mC (.int 0))) none (some (mV 5))) [some (W.d (.lst (ns.map D.int))),some (W.d (aH names A)),some (W.d (.int c)),some (W.d (.int d)),some (W.d (aH names (kj names X))),some (W.d (.int (k:Int))),none,none,none,none]=.ok (cU (names.drop k++names.take k)) :=
    (aF s1 s2 rfl).trans ((aq (by rw[List.length_map,List.length_map,List.length_drop,List.length_take];omega)).trans (by unfold cU;rw[List.map_append]))
   exact bj (call2 (cu s3) (cu ((iB (aF rfl rfl (Q8 names A))).trans rfl)) (yo (names:=names.drop k++names.take k) (aj:=A) (by omega)))
 rw[aL hif]
 have stp:∀ (w:Int) (F S:D),cz (.lst [.lst [aH names A,aH n2 B],.lst [aH n2 B,aH names A]]) (.int (w % 2))=.ok (.lst [F,S])→∀ o7 o8 o9:Option W,
  Kw [7,8] (m2 cz (mN fP [(mN fP [(mV 1),(mV 4)]),(mN fP [(mV 4),(mV 1)])]) (m2 cX (mV 6) (mC (.int 2)))) [some (W.d (.lst (ns.map D.int))),some (W.d (aH names A)),some (W.d (.int c)),some (W.d (.int d)),some (W.d (aH n2 B)),o5,some (W.d (.int w)),o7,o8,o9] =
   .ok (.nx [some (W.d (.lst (ns.map D.int))),some (W.d (aH names A)),some (W.d (.int c)),some (W.d (.int d)),some (W.d (aH n2 B)),o5,some (W.d (.int w)),some (W.d F),some (W.d S),o9]):=fun w F S h o7 o8 o9=>by
  unfold Kw
  rw[aF (S5 (S5 rfl rfl) (S5 rfl rfl)) (aF rfl rfl ((nQ w 2).trans (aq (by decide)))) h,aG]
  rfl
 obtain⟨p9,t0⟩:=Hw (v0:=W.d (.lst (ns.map D.int))) (v1:=W.d (aH names A)) (v2:=W.d (.int c)) (v3:=W.d (.int d)) (v4:=W.d (aH n2 B)) (v6:=W.d (.int 0)) (o5:=o5) G GB none
 obtain⟨q9,t1⟩:=Hw (v0:=W.d (.lst (ns.map D.int))) (v1:=W.d (aH names A)) (v2:=W.d (.int c)) (v3:=W.d (.int d)) (v4:=W.d (aH n2 B)) (v6:=W.d (.int 1)) (o5:=o5) GB G p9
 obtain⟨r9,t2⟩:=Hw (v0:=W.d (.lst (ns.map D.int))) (v1:=W.d (aH names A)) (v2:=W.d (.int c)) (v3:=W.d (.int d)) (v4:=W.d (aH n2 B)) (v6:=W.d (.int 2)) (o5:=o5) G GB q9
 have lp:rC (.n 6) (aW (Kw [7,8] (m2 cz (mN fP [(mN fP [(mV 1),(mV 4)]),(mN fP [(mV 4),(mV 1)])]) (m2 cX (mV 6) (mC (.int 2)))))
 (iI (cB (aR eZ [(wD (mV 7)),(wD (mV 8))]))
 (aW (bL 9 (aR iM [(wD (mV 7)),(wD (mV 8))]))
 (aW (iI (lN (cB (mz kO [(wD (mV 9)),(wD (mV 7)),(wD (mV 8))])))
 (dg (wD (mC (.bl false))))
 bA)
 (bU 9 (mN dTup [(mC (.str "a")),(mC (.str "b"))]))))
 (iI (cB (m2 wA (aR ik [(wD (mV 7)),(wD (mV 8))]) (mN fP [(mC (.str "Unlike"))])))
 (dg (wD (mC (.bl false))))
 bA))) [.int 0,.int 1,.int 2] [some (W.d (.lst (ns.map D.int))),some (W.d (aH names A)),some (W.d (.int c)),some (W.d (.int d)),some (W.d (aH n2 B)),o5,none,none,none,none] =
  .ok (.nx [some (W.d (.lst (ns.map D.int))),some (W.d (aH names A)),some (W.d (.int c)),some (W.d (.int d)),some (W.d (aH n2 B)),o5,some (W.d (.int 2)),some (W.d (aH names A)),some (W.d (aH n2 B)),r9]) :=
  xU rfl ((aL (stp 0 _ _ rfl _ _ _)).trans t0) (xU rfl ((aL (stp 1 _ _ rfl _ _ _)).trans t1) (xU rfl ((aL (stp 2 _ _ rfl _ _ _)).trans t2) rfl))
 rw[aL ((iD (lX (n:=3) rfl (mj (by decide) (by decide)))).trans lp)]
 have c1:=zb G G (Sm.refl names A)
 have c2:=zb GB GB (Sm.refl n2 B)
 rw[Dy] at c1 c2
 rw[dm (cu (u9 ((aF (call2 rfl rfl c1) (yM _) (xW [] [])).trans (by rw[decide_eq_true rfl])) fun _=>(aF (call2 rfl rfl c2) (yM _) (xW [] [])).trans (by rw[decide_eq_true rfl])))]
 rfl
end Mr
namespace Nu
open PySem L2 PyProof.Rows
abbrev cN:Addr:=249
abbrev tN:Addr:=245
instance dU:A.jb:=⟨[(tN,YK "sorted_rows")],fun c=>if c = "ArrowError" then 29 else if c = "WrongSize" then 42 else if c = "NoWord" then 54 else if c = "Twice" then 66 else if c = "NoName" then 78 else if c = "Ring" then 97 else if c = "Unlike" then 109 else if c = "NoArrow" then 121 else if c = "Locked" then 133 else if c = "NoTie" then 145 else if c = "NoSuch" then 157 else if c = "NoNet" then 176 else if c = "NoText" then 188 else if c = "NoRow" then 200 else if c = "NoLabel" then 212 else 0⟩
theorem walk{l:W.OpenLaw}{q:Program}{loose:List Str}{XP:(Str→Option Value)→Heap→Prop}{YP:World→Heap→Prop}{d:DefRec}{K:Params→W.Frag}(hn:l.most=some 63)(hdf:d.params.defaults=[])
 (hY:∀ (w:World) (h:Heap),YP w h→(K w.params).In h) (hL:∀ w:World,Z9 (K w.params)=true) (hK:∀ w:World,(K w.params).lookup tN=none) (hrec:∃ d,(recsOf q).find? (fun e=>e.name == ("sorted_rows" : Str))=some d) (htab:∀ w:World,W.tabIn (K w.params) "sorted_rows" = some (cN,tN))
 (F:∀ (w:World) (mg:Str→Option Value) (fa:Addr) (h:Heap),(K w.params).In h→h.Ns mainGlobals mg→mg d.name=some (.ref fa) →
  ∃ fd:FuncData,(∀ (s:Shared) (u:Value),BindsTo s fd ⟨[u],[]⟩ [("_law_script", u)])∧∀ base:Heap,(K w.params).In base→base.Ns mainGlobals mg→BM mg base→W.CodeHd base cN tN→dz l.prog w (K w.params) mg base cH 10 fa fd ["_law_script"] A.Ko) :
 W.WalkO q loose XP YP l.row.toRowW d [] (fun f vs=>PySem.call f vs) :=
 L2.Uu (x := "_law_script") (dn := "sorted_rows") (qn:=YK "sorted_rows") (k:=10) rfl hn hdf ⟨rfl,by decide,by decide⟩ hY (fun w a o e c=>V4 (hL w) e c) hK hrec htab F
theorem aaE{K:W.Frag}{h:Heap}{mg:Str→Option Value}(X:K.In h)(G:h.Ns mainGlobals mg)(Ho:W.nsIn K mainGlobals "len" = some none)(yh:W.nsIn K mainGlobals "range" = some none)(Hm:W.nsIn K mainGlobals "max" = some none)(Hl:W.nsIn K mainGlobals "min" = some none)(yg:W.nsIn K mainGlobals "tuple" = some none)(Bs:W.nsIn K mainGlobals "list" = some none)(oN:W.nsIn K mainGlobals "isinstance" = some none)(Hs:W.nsIn K mainGlobals "all" = some none)(Hr:W.nsIn K mainGlobals "any" = some none)(Bt:W.nsIn K mainGlobals "bool" = some none)(Hj:W.nsIn K mainGlobals "str" = some none)(Hq:W.nsIn K mainGlobals "int" = some none)(Hi:W.nsIn K mainGlobals "zip" = some none)(qj:W.nsIn K mainGlobals "enumerate" = some none)(vQ:W.nsIn K mainGlobals "sorted" = some none)(rO:W.nsIn K mainGlobals "reversed" = some none)(Hk:W.nsIn K mainGlobals "set" = some none){zz:Tok}(uc:W.nsIn K mainGlobals "LETTERS" = some (some (.str "abcdefghijklmnopqrstuvwxyz" zz))){qJ:Tok}(lW:W.nsIn K mainGlobals "MOST_LETTERS" = some (some (.int 8 qJ))){uf:Tok}(oM:W.nsIn K mainGlobals "MOST_NAMES" = some (some (.int 8 uf))):Txt mg :=
 ⟨W.mg_none_of X G Ho,W.mg_none_of X G yh,W.mg_none_of X G Hm,W.mg_none_of X G Hl,W.mg_none_of X G yg,W.mg_none_of X G Bs,W.mg_none_of X G oN,W.mg_none_of X G Hs,W.mg_none_of X G Hr,W.mg_none_of X G Bt,W.mg_none_of X G Hj,W.mg_none_of X G Hq,W.mg_none_of X G Hi,W.mg_none_of X G qj,W.mg_none_of X G vQ,W.mg_none_of X G rO,W.mg_none_of X G Hk,⟨zz,W.mg_of X G uc⟩,⟨qJ,W.mg_of X G lW⟩,⟨uf,W.mg_of X G oM⟩⟩
structure adY(K:W.Frag):Prop where
 wR:W.nsIn K mainGlobals "ArrowError" = some (some (.ref (dU.cl "ArrowError")))
 zr:W.nsIn K mainGlobals "WrongSize" = some (some (.ref (dU.cl "WrongSize")))
 J6:W.nsIn K mainGlobals "NoWord" = some (some (.ref (dU.cl "NoWord")))
 Qh:W.nsIn K mainGlobals "Twice" = some (some (.ref (dU.cl "Twice")))
 J9:W.nsIn K mainGlobals "NoName" = some (some (.ref (dU.cl "NoName")))
 Uq:W.nsIn K mainGlobals "Ring" = some (some (.ref (dU.cl "Ring")))
 Bu:W.nsIn K mainGlobals "Unlike" = some (some (.ref (dU.cl "Unlike")))
 Fp:W.nsIn K mainGlobals "NoArrow" = some (some (.ref (dU.cl "NoArrow")))
 Ka:W.nsIn K mainGlobals "Locked" = some (some (.ref (dU.cl "Locked")))
 Qi:W.nsIn K mainGlobals "NoTie" = some (some (.ref (dU.cl "NoTie")))
 J8:W.nsIn K mainGlobals "NoSuch" = some (some (.ref (dU.cl "NoSuch")))
 Qk:W.nsIn K mainGlobals "NoNet" = some (some (.ref (dU.cl "NoNet")))
 J7:W.nsIn K mainGlobals "NoText" = some (some (.ref (dU.cl "NoText")))
 Qj:W.nsIn K mainGlobals "NoRow" = some (some (.ref (dU.cl "NoRow")))
 Fl:W.nsIn K mainGlobals "NoLabel" = some (some (.ref (dU.cl "NoLabel")))
 Ur:W.excIn K (dU.cl "Unlike") [.type "ValueError", .type "Exception", .type "BaseException", .type "object"] "ValueError.__new__" = true
 v_:W.nsIn K mainGlobals "ValueError" = some none
theorem aa7{K:W.Frag}{h:Heap}{mg:Str→Option Value}(X:K.In h)(G:h.Ns mainGlobals mg)(z:adY K):Own mg h :=
 ⟨aa9 X G z.Bu z.Ur,W.mg_of X G z.wR,W.mg_of X G z.zr,W.mg_of X G z.J6,W.mg_of X G z.Qh,W.mg_of X G z.J9,W.mg_of X G z.Uq,W.mg_of X G z.Bu,W.mg_of X G z.Fp,W.mg_of X G z.Ka,W.mg_of X G z.Qi,W.mg_of X G z.J8,W.mg_of X G z.Qk,W.mg_of X G z.J7,W.mg_of X G z.Qj,W.mg_of X G z.Fl,W.mg_none_of X G z.v_⟩
structure aeX(K:W.Frag):Prop where
 h0:W.kitOne K (.ref (dU.cl "Unlike")) (.type "ValueError")=some true
 h1:W.kitOne K (.ref (dU.cl "Unlike")) (.ref (dU.cl "Unlike"))=some true
 h2:W.kitAny K (.ref (dU.cl "Unlike")) (([dU.cl "NoSuch", dU.cl "NoText", dU.cl "NoTie", dU.cl "NoWord", dU.cl "Ring", dU.cl "Twice", dU.cl "WrongSize"]:List Addr).map .ref)=some false
 h3:W.kitAny K (.ref (dU.cl "Unlike")) (([dU.cl "Locked", dU.cl "NoArrow", dU.cl "NoLabel", dU.cl "NoName", dU.cl "NoNet", dU.cl "NoRow"]:List Addr).map .ref)=some false
 h4:W.exmOne K (.ref (dU.cl "Unlike")) (.ref (dU.cl "ArrowError"))=some true
theorem abz{K:W.Frag}(rE:tH K (dU.cl "Unlike"))(z:aeX K):Kit K :=
 ⟨(Be ⟨rE,z.h0⟩ Jb),(Be ⟨rE,z.h1⟩ Jb),(Be ⟨rE,z.h2⟩ Jb),(Be ⟨rE,z.h3⟩ Jb),(YD z.h4 abo)⟩
theorem ab6{l:W.OpenLaw}{w:World}{K:W.Frag}{mg:Str→Option Value}{fa:Addr}(hfa:mg "law" = some (.ref fa))(T:Txt mg)(OK:adY K)(Kt:Kit K)(pK:pO K mg "refuse_strangers" km ["names", "asked"])(Fd:pO K mg "are_tied" v7 ["net", "one", "other"])(Eu:pO K mg "pairs_of" vV ["names"])(G7:pO K mg "ties_of" yp ["net"])(qz:ZQ K mg "sorted_rows" qm ["names", "rows"] cN)(ye:pO K mg "corners_of" rR ["net"])(jj:pO K mg "refuse_unlike_names" gm ["first", "second"])(wI:pO K mg "say_same" rP ["first", "second"])(Ah:pO K mg "elders_of" uB ["net", "name"])(tX:pO K mg "can_be_turned" nH ["net", "tail", "head"])(vN:pO K mg "turnable_in" ql ["net"])(Hf:pO K mg "is_word" yu ["text"])(nF:pO K mg "refuse_wrong_names" ju ["names"])(nC:pO K mg "refuse_wrong_pairs" jt ["names", "arrows"])(vP:pO K mg "first_ready" qt ["net", "told"])(Hg:pO K mg "in_turn" yw ["net"])(vO:pO K mg "refuse_ring" qp ["net"])(Ew:pO K mg "net_made" vW ["names", "arrows"])(yd:pO K mg "net_turned" rQ ["net", "tail", "head"])(wJ:pO K mg "chain_to" rT ["first", "second"])(NB:pO K mg "_law_cell" Cm ["_law_script", "_law_k"])(G8:pO K mg "_law_words" yq ["_law_cell_here", "_law_many"])(G9:pO K mg "_law_ranks" yr ["_law_cell_here", "_law_many"])(RK:pO K mg "_law_net" HN ["_law_script", "_law_most"])(Ez:pO K mg "_law_sorted" vY ["_law_names", "_law_arrows"])(Fb:pO K mg "_law_elders" v5 ["_law_arrows", "_law_name"])(Af:pO K mg "_law_covered" uz ["_law_arrows"])(Ae:pO K mg "_law_flipped" uy ["_law_arrows", "_law_arrow"])(tW:pO K mg "_law_comes_round" nG ["_law_names", "_law_arrows"])(Ac:pO K mg "_law_spoiled" uw ["_law_names", "_law_arrows", "_law_cell_here"])(EY:pO K mg "_law_second" vZ ["_law_net_here", "_law_cell_here"])(Ey:pO K mg "_law_walked" vX ["_law_told", "_law_first", "_law_second_here"])(Hb:pO K mg "_law_kinds" yt ["_law_e"])(Ad:pO K mg "_law_refused" ux ["_law_first", "_law_second_here"])(Nz:pO K mg "_law_tied" Ck ["_law_net_here", "_law_one", "_law_other"])(Ny:pO K mg "_law_ties" Cj ["_law_net_here"])(Ag:pO K mg "_law_corners" uA ["_law_net_here"])(uT:pO K mg "_law_alike_nets" oR ["_law_first", "_law_second_here"])(aax:pO K mg "law" Vd ["_law_script"]) :
 ∃ fd:FuncData,(∀ (s:Shared) (u:Value),BindsTo s fd ⟨[u],[]⟩ [("_law_script", u)])∧∀ base:Heap,K.In base→base.Ns mainGlobals mg→BM mg base→W.CodeHd base cN tN→dz l.prog w K mg base cH 10 fa fd ["_law_script"] A.Ko :=
 pO.aex aax hfa fun base kb nb hB hC f fd F=>by
  have O:Own mg base:=aa7 kb nb OK
  have q0:=@pO.cal l.prog w K mg base cH
  have bI:=q0 pK fun _ _ F=>vp F T
  have mU:=q0 Fd fun _ _ F=>Lf F T bI
  have mR:=q0 Eu fun _ _ F=>K7 F T
  have lz:=q0 G7 fun _ _ F=>Ox F T mU mR
  have jg:=qz.cal (P:=l.prog) (w:=w) (base:=base) (CX:=cH) fun f fd F=>Cy F T hB hC (List.mem_singleton.mpr rfl)
  have gV:=q0 ye fun _ _ F=>Fi F T mU jg mR
  have jm:=q0 jj fun _ _ F=>sE F T
  have iU:=jj.cal (P:=l.prog) (w:=w) (base:=base) (CX:=Br l.prog w) fun f fd F=>qU F T O
  have wK:=q0 wI fun _ _ F=>K6 F T lz gV jm
  have uX:=wI.cal (P:=l.prog) (w:=w) (base:=base) (CX:=Br l.prog w) fun f fd F=>Im F T O lz gV iU
  have jD:=q0 Ah fun _ _ F=>Il F T bI
  have gG:=q0 tX fun _ _ F=>yH F T jD
  have jX:=q0 vN fun _ _ F=>Cw F T gG
  have zp:=q0 Hf fun _ _ F=>O1 F T
  have jC:=q0 nF fun _ _ F=>tZ F T zp
  have jB:=q0 nC fun _ _ F=>tY F T bI
  have mY:=q0 vP fun _ _ F=>CG F T jD
  have zq:=q0 Hg fun _ _ F=>O2 F T mY
  have qC:=q0 vO fun _ _ F=>Cz F T zq
  have wL:=q0 Ew fun _ _ F=>K8 F T jg jC jB qC
  have lM:=q0 yd fun _ _ F=>Fg F T wL bI gG
  have pM:=q0 wJ fun _ _ F=>Le F T wK jX lM
  have uY:=wJ.cal (P:=l.prog) (w:=w) (base:=base) (CX:=Br l.prog w) fun f fd F=>Io F T O jX lM uX
  have jY:=q0 NB fun _ _ F=>SJ F T
  have zj:=q0 G8 fun _ _ F=>Oz F T
  have zm:=q0 G9 fun _ _ F=>OD F T
  have JZ:=q0 RK fun _ _ F=>VN F T jY zj zm
  have iT:=q0 Ez fun _ _ F=>La F T
  have tK:=q0 Fb fun _ _ F=>Ld F T
  have lA:=q0 Af fun _ _ F=>Ij F T tK
  have gU:=q0 Ae fun _ _ F=>Ii F T
  have j9:=q0 tW fun _ _ F=>yG F T
  have uV:=q0 Ac fun _ _ F=>Ig F T gU j9
  have wN:=q0 EY fun _ _ F=>Lb F T lA gU uV iT
  have wM:=q0 Ey fun _ _ F=>K9 F T lA gU iT
  have wO:=Hb.aeR (P:=l.prog) (w:=w) (base:=base) fun f fd F=>OJ F T O Kt
  have uW:=q0 Ad fun _ _ F=>Ih F T O Kt uY wO
  have rK:=q0 Nz fun _ _ F=>Sy F T
  have yf:=q0 Ny fun _ _ F=>Sx F T rK
  have qi:=q0 Ag fun _ _ F=>Ik F T rK
  have pL:=q0 uT fun _ _ F=>Al F T yf qi
  exact A.abx (abh F T pM jY JZ iT wN wM uW pL) fun ns hl=>by first|exact Mr.vC ns|exact Mr.vC ns hl
end Nu
namespace PySem.W.Fast
def tw13218495561234348707:=0
def tw16390518136217619294:=0
def tw14908310573716535164:=0
def tw13820543452991875208:=0
def tw6359514443697816156:=0
def tw292966223421757603:=0
def tw12593400862039593963:=0
def tw14682196613373941711:=0
def tw15471359565569762432:=0
def tw13027210498181092619:=0
def tw13323684547088363100:=0
def tw7976771953542381990:=0
def tw6740349525653294070:=0
def tw5279061437929350883:=0
def tw2325485140104642945:=0
def tw8107384334512372073:=0
def tw12093135712248211390:=0
def tw11220000065849304879:=0
def tw14531751878271114317:=0
def tw3967214420290046060:=0
def tw17100202593911488993:=0
def tw1629940505055322112:=0
def tw9495868602527766965:=0
def tw7088247036735266595:=0
def tw13310325499862919936:=0
def tw17809365361033074480:=0
def tw16244766613170193589:=0
def tw13196418798183259782:=0
def tw7747107363024089294:=0
def tw10187328207573819767:=0
def tw1961090233424104965:=0
def tw11508137001321673647:=0
def tw16821821564888966966:=0
def tw6083237942055721254:=0
def tw13386129592779592367:=0
def tw13921136925366738455:=0
def tw3422292905908790504:=0
def tw16287479886693016000:=0
def tw6978140474384359111:=0
def tw7736626565127690286:=0
def tw14929542544526955068:=0
def tw13004976221767263864:=0
def tw11028984478692299343:=0
def tw1052625589979232429:=0
def tw12584632744463697675:=0
def tw14219765884221133367:=0
def tw18373286791965649734:=0
def tw7301359723994512880:=0
def tw1405049622517439846:=0
def tw15686932398226261878:=0
def tw6729326665452451969:=0
def tw18335436603107692115:=0
def tw4466141295382996685:=0
def tw6074203787597287155:=0
def tw14583883710416830437:=0
def tw1763175102041498865:=0
def tw3676196962398617985:=0
def tw16600694399571416468:=0
def tw7766923425324227659:=0
def tw2298832558316733556:=0
def tw14948566476040487068:=0
def tw2572404736402512499:=0
def tw18110350328135396843:=0
def tw17695110010727755323:=0
def tw6080727640385864814:=0
def tw17660512104957157345:=0
def tw13906903230927269541:=0
def tw15954648398943435362:=0
def tw1239925548732377926:=0
def tw11052962970997918315:=0
def tw912967338088981815:=0
def tw599701535297075874:=0
def tw9846712874545721033:=0
def tw6676629446606565820:=0
def tw15258202325908122481:=0
def tw5571519192807550157:=0
def tw4715282026898770132:=0
def tw3115541851774350112:=0
def tw8889706384127936810:=0
def tw5797143882535775322:=0
def tw546608506650484913:=0
def tw16692494810052065082:=0
def tw17631323826423737415:=0
def tw732871016300675706:=0
def tw12554524388852611248:=0
def tw17531630082256664036:=0
def tw13417059021574154981:=0
def tw15057619525498071619:=0
def tw3652534819732647092:=0
def tw9036545814479510955:=0
def tw2501885589366416794:=0
def tw5953384728075462810:=0
def tw4015045458069717644:=0
def tw9721843723541127045:=0
def tw920873678489605133:=0
def tw12008561279782150015:=0
def tw14918041455708806934:=0
def tw17582088107594803952:=0
def tw5754049778692891217:=0
def tw1030175373612598840:=0
def tw1029435769016827664:=0
def tw11240438837807325948:=0
def tw12017337788004453449:=0
def tw1151883513228668463:=0
def tw893484755228686489:=0
def tw14484059446558169619:=0
def tw14821237058858800755:=0
def tw14218538233544188543:=0
def tw8795812082355452973:=0
def tw9386489690523857268:=0
def tw5129259617407693605:=0
def tw216053884281733006:=0
def tw17900228985842357870:=0
def tw121747203449245809:=0
def tw759545760762563783:=0
def tw1828024798487294588:=0
def tw14884392436624433164:=0
def tw16942829842027554775:=0
def tw9473316301900630705:=0
def tw1555102495089035463:=0
def tw12799834901990009981:=0
def tw1480378203169879019:=0
def tw15318681537952781344:=0
def tw6314678736772940378:=0
def tw12913220673472799502:=0
def tw6349306316077061678:=0
def tw7491859578163419869:=0
def tw9834526092083166093:=0
def tw11678437788553272988:=0
def tw1383281623276640231:=0
def tw14997906443051302851:=0
def tw9270134044043797817:=0
def tw9408994862992316631:=0
def tw3181749130689556204:=0
def tw2947485132760514734:=0
def tw8495464155334457299:=0
def tw15167885016201525498:=0
def tw15832362345487074495:=0
def tw16304018296042543500:=0
def tw5354195369823904186:=0
def tw7413857239769280591:=0
def tw15526842754354011986:=0
def tw14618038559668938088:=0
def tw18271319944519450359:=0
def tw9423011571670707044:=0
def tw12984332239611138824:=0
def tw12441496012509275313:=0
def tw16935051776425857081:=0
def tw1050790781180034313:=0
def tw9618611785187026420:=0
def tw17536204104538390579:=0
def tw11705379291002627450:=0
def tw9172033926687367189:=0
def tw9282950425180391547:=0
def tw10917160963222693575:=0
def tw15128156691669681526:=0
def tw10616367631037067022:=0
def tw4438905444288976980:=0
def tw2829739996928982952:=0
def tw7282231465873311592:=0
def tw8227355500809236590:=0
def tw3151395488271012370:=0
def tw2339318943887679459:=0
def tw13768253907172088005:=0
def tw10544830255962810695:=0
def tw10441102568811459183:=0
def tw5103590205408622287:=0
def tw1529303233111626432:=0
def tw17994025528442347871:=0
def tw17614560571380808305:=0
def tw12887042969855212806:=0
def tw17090414524818977277:=0
def tw18070435433863218963:=0
def tw2081462914944726650:=0
def tw3327476721959677231:=0
def tw8200327137977330981:=0
def tw13978231168854474874:=0
def tw11408959973803492460:=0
def tw15206528349545130930:=0
def tw18194750836876776035:=0
def tw13493005409992648894:=0
def tw10845751812563581767:=0
def tw5091969423275352092:=0
def tw17361242566503153557:=0
def tw15406335044257042752:=0
def tw11393545239333721591:=0
def tw17603785495415534842:=0
def tw6474877792616775164:=0
def tw16942222073029548095:=0
def tw1659928869265664895:=0
def tw11524258748711590272:=0
def tw8870351143446313709:=0
def tw18057387826538768780:=0
def tw18057394557032665270:=0
def tw17528206103975254366:=0
def tw9467758191433681591:=0
def tw1353244162174473277:=0
def tw6133050206385728511:=0
def tw11107556710669959146:=0
def tw9071195620183760296:=0
def tw6472040112316658219:=0
def tw14508340829472099677:=0
def tw5364792750625616784:=0
def tw11929195784239068926:=0
def tw16458649161692181830:=0
def tw2072325866317149192:=0
def tw13980835727821712519:=0
def tw17837830498205457863:=0
def tw14176120523913370319:=0
def tw13460816876688740905:=0
def tw9260649629157144154:=0
def tw6413854586532219932:=0
def tw7779145182652065831:=0
def tw14603074251407214130:=0
def tw4808511727117823140:=0
def tw12895282833369272744:=0
def tw16614182646760432523:=0
def tw3422520610757926747:=0
def tw155262955891885386:=0
def tw5342307093146288178:=0
def tw9218752593771256464:=0
def tw10669366678829574821:=0
def tw4465686216001204096:=0
def tw12523403706961436187:=0
def tw13727673490809863689:=0
def tw13263741626796747823:=0
def tw5768338707652453626:=0
def tw13501755115448600152:=0
def tw14740518493109879906:=0
def tw1002475757031007455:=0
def tw12420872796333305699:=0
def tw501668633351325660:=0
def tw9136146869525823824:=0
def tw10408943088917476378:=0
def tw9237701353743606787:=0
def tw10544751675770405158:=0
def tw14296876391148447657:=0
def tw10594710680610996133:=0
def tw12932122680797706548:=0
def tw11078832441127495553:=0
def tw4607304832936920648:=0
def tw5968459405950423374:=0
def tw5319119982202387430:=0
def tw10467224649046847491:=0
def tw7048604110052363031:=0
def tw608206742589830795:=0
def tw14647332229705479782:=0
def tw2556477994785641558:=0
def tw15376408346990680318:=0
def tw13577484195085801201:=0
def tw15029914354094759517:=0
def tw6537752511229555022:=0
def tw8819167357481670476:=0
def tw4288208086223055395:=0
def tw6996940204027281211:=0
def tw10892022775338329857:=0
def tw17652780074794686689:=0
def tw17733916267426482752:=0
def tw18372607256162576142:=0
def tw10732317536139542890:=0
def tw5151837801571963790:=0
def tw5468964268044473794:=0
def tw16500898501397644508:=0
def tw10187687701977461635:=0
def tw3344629662331159837:=0
def tw15609590465194629277:=0
def tw6263504785660763359:=0
def tw14018322605286821119:=0
def tw14897562326456237185:=0
def tw6171004041123023568:=0
def tw10624886782050783742:=0
end PySem.W.Fast
open PySem PySem.W PyProof.Rows
set_option maxRecDepth 100000 in
set_option maxHeartbeats 0 in
theorem PySem.Challenge.cw_arrowfind_k32_chains_walked_holds : PySem.Challenge.rw_arrowfind_k32_chains_walked.Holds := by
 w_on;o_law;k_head;(case hw=>w_witness2)
 k_fill
 refine Nu.walk (l:=PySem.Challenge.rw_arrowfind_k32_chains_walked) rfl rfl (fun w h Y=>PySem.W.km_in_of Y) ?L ?K ⟨_,rfl⟩ ?H ?F
 case L =>
  intro w
  kernel_rfl
 case K =>
  intro w
  kernel_rfl
 case H =>
  intro w
  kernel_rfl
 case F =>
  intro w mg fa h KX G hmg
  refine' Nu.ab6 hmg ?T ?O ?Kt ?pK ?Fd ?Eu ?G7 ?qz ?ye ?jj ?wI ?Ah ?tX ?vN ?Hf ?nF ?nC ?vP ?Hg ?vO ?Ew ?yd ?wJ ?NB ?G8 ?G9 ?RK ?Ez ?Fb ?Af ?Ae ?tW ?Ac ?EY ?Ey ?Hb ?Ad ?Nz ?Ny ?Ag ?uT ?aax
  case T =>
   refine' Nu.aaE KX G ?Ho ?yh ?Hm ?Hl ?yg ?Bs ?oN ?Hs ?Hr ?Bt ?Hj ?Hq ?Hi ?qj ?vQ ?rO ?Hk ?uc ?lW ?oM
   (case Ho=>k_is)
   (case yh=>k_is)
   (case Hm=>k_is)
   (case Hl=>k_is)
   (case yg=>k_is)
   (case Bs=>k_is)
   (case oN=>k_is)
   (case Hs=>k_is)
   (case Hr=>k_is)
   (case Bt=>k_is)
   (case Hj=>k_is)
   (case Hq=>k_is)
   (case Hi=>k_is)
   (case qj=>k_is)
   (case vQ=>k_is)
   (case rO=>k_is)
   (case Hk=>k_is)
   (case uc=>k_is)
   (case lW=>k_is)
   (case oM=>k_is)
  case O =>
   constructor
   all_goals kernel_rfl
  case Kt =>
   refine' Nu.abz ?rE ?z
   (case rE=>constructor<;>kernel_rfl)
   (case z=>constructor<;>kernel_rfl)
  case qz =>
   refine' L2.Y8 (c:=Nu.cN) KX G (fun _ _ _ _ _ _ us hl=>match us,hl with|[_,_],_=>rfl) ?a ?l ?c ?k
   (case a=>k_is);(case l=>k_is);(case c=>k_is);(case k=>k_is)
  all_goals
   first
    | (refine' L2.Pz KX G (fun _ _ _ _ _ _ us hl=>match us,hl with|[_],_=>rfl) ?a ?l ?c ?k;(case a=>k_is);(case l=>k_is);(case c=>k_is);(case k=>k_is))
    | (refine' L2.Pz KX G (fun _ _ _ _ _ _ us hl=>match us,hl with|[_,_],_=>rfl) ?a ?l ?c ?k;(case a=>k_is);(case l=>k_is);(case c=>k_is);(case k=>k_is))
    | (refine' L2.Pz KX G (fun _ _ _ _ _ _ us hl=>match us,hl with|[_,_,_],_=>rfl) ?a ?l ?c ?k;(case a=>k_is);(case l=>k_is);(case c=>k_is);(case k=>k_is))
