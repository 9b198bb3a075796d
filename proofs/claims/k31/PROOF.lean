import PyProof.Rows.All
import Wide.All
import OpenK.AllK
import Wide.FinOn
import Lean
import PyProof.EqAt
import PyProof.EqKinds
import PyProof.TupleCall
import PySem.Str
import PyProof.NeKinds
import PyProof.Draws
import PyProof.EnumMake
import PyProof.ZipIter
import KE.KSortTup
import KE.KLam
import PyProof.Rows.SortStr
import PyProof.Rows.FactsT3
import PyProof.StrLawsRepr
import PyProof.Rows.StrCase
import PySem.Challenge.RW_arrowfind_k31_turned_and_refused
set_option maxRecDepth 100000
set_option maxHeartbeats 4000000
macro "ω" : term=>`(by omega)
macro "δ" : term=>`(by decide)
macro "Ξ" : term=>`(⟨rfl,rfl,rfl,by decide +kernel,rfl,by decide +kernel,by decide +kernel⟩)
macro "Ζa" : term=>`(fun _ _ _ _ _ _ us hl=>match us,hl with | [_],_=>rfl)
macro "Ζb" : term=>`(fun _ _ _ _ _ _ us hl=>match us,hl with | [_,_],_=>rfl)
macro "Ζc" : term=>`(fun _ _ _ _ _ _ us hl=>match us,hl with | [_,_,_],_=>rfl)
macro "Θ" : term=>`([.type "ValueError", .type "Exception", .type "BaseException", .type "object"])
macro "Υ" : term=>`(Or.inl rfl)
macro "Φ" : term=>`(PySem.W.Frag)
macro "xt " e:term:tactic=>`(tactic| exact $e)
macro "rf " e:term:tactic=>`(tactic| refine $e)
open Lean.Parser.Tactic in
macro "ob " p:rcasesPatMed " := " e:term:tactic=>`(tactic| obtain $p:rcasesPatMed:=$e)
set_option Elab.async false
set_option linter.all false
namespace L2
open PySem PySem.Spec PyProof.Rows
abbrev Key:=Sum Int Str
def CK:Key→Value→Bool
 | .inl k,v=>Value.isInt k v
 | .inr x,v=>Value.isStrOf x v
def adQ (w:World):Key→Int
 | .inl k=>hashInt k
 | .inr x=>hashStr w x
theorem eU:∀ {k:Key} {v:Value},CK k v = true→(∃ i t,k = Sum.inl i∧v = Value.int i t)∨(∃ x t,k = Sum.inr x∧v = Value.str x t)
 | .inl i,v,h=>by
  ob ⟨t,e⟩:=Value.isInt_shape (k:=i) (v:=v) h
  xt .inl ⟨i,t,rfl,e⟩
 | .inr x,v,h=>by
  ob ⟨t,e⟩:=Value.isStrOf_shape (x:=x) (v:=v) h
  xt .inr ⟨x,t,rfl,e⟩
theorem Pr (i:Int) (t:Tok):CK (.inl i) (.int i t) = true:=by simp [CK,Value.isInt]
theorem Pq (x:Str) (t:Tok):CK (.inr x) (.str x t) = true:=by simp [CK,Value.isStrOf]
theorem aaa (a b:Int):decide ((Sum.inl a:Key) = Sum.inl b) = (a == b):=by
 by_cases e:a = b
 ·subst e; simp
 ·have h:¬ (Sum.inl a:Key) = Sum.inl b:=fun q=>e (Sum.inl.inj q)
  rw [decide_eq_false h]
  xt (beq_eq_false_iff_ne.mpr e).symm
theorem Z7 (a b:Str):decide ((Sum.inr a:Key) = Sum.inr b) = decide (a = b):=by
 by_cases e:a = b
 ·subst e; simp
 ·have h:¬ (Sum.inr a:Key) = Sum.inr b:=fun q=>e (Sum.inr.inj q)
  rw [decide_eq_false h,decide_eq_false e]
theorem Z9 (a:Int) (b:Str):decide ((Sum.inl a:Key) = Sum.inr b) = false:=decide_eq_false (fun q=>nomatch q)
theorem Z8 (a:Str) (b:Int):decide ((Sum.inr a:Key) = Sum.inl b) = false:=decide_eq_false (fun q=>nomatch q)
def gD (prog:Program) (w:World):PySem.KeyKind prog w Key where
 is:=CK
 hash:=adQ w
 inj:=fun v a b ha hb=>by
  rcases eU ha with ⟨i,t,rfl,rfl⟩ | ⟨x,t,rfl,rfl⟩
  ·rcases eU hb with ⟨j,u,rfl,e⟩ | ⟨y,u,rfl,e⟩
   ·injection e with e1 _; rw [e1]
   ·xt nomatch e
  ·rcases eU hb with ⟨j,u,rfl,e⟩ | ⟨y,u,rfl,e⟩
   ·xt nomatch e
   ·injection e with e1 _; rw [e1]
 byValue:=fun k v h=>by
  rcases eU h with ⟨i,t,rfl,rfl⟩ | ⟨x,t,rfl,rfl⟩ <;> rfl
 pyHash:=fun hv h=>by
  rcases eU hv with ⟨i,t,rfl,rfl⟩ | ⟨x,t,rfl,rfl⟩
  ·xt wpAny_pyHash_int h
  ·xt wpAny_pyHash_str h
 eqBool:=fun hu hv h=>by
  rcases eU hu with ⟨i,t,rfl,rfl⟩ | ⟨x,t,rfl,rfl⟩
  ·rcases eU hv with ⟨j,u,rfl,rfl⟩ | ⟨y,u,rfl,rfl⟩
   ·rw [aaa] at h; xt wpAny_eqBool_int h
   ·rw [Z9] at h; xt SeqAt.EqAt.int_str i t y u _ _ _ _ h
  ·rcases eU hv with ⟨j,u,rfl,rfl⟩ | ⟨y,u,rfl,rfl⟩
   ·rw [Z8] at h; xt SeqAt.EqAt.str_int x t j u _ _ _ _ h
   ·rw [Z7] at h; xt wpAny_eqBool_str h
 «strs»:=fun k x t v h=>by
  rcases eU h with ⟨i,u,rfl,e⟩ | ⟨y,u,rfl,e⟩
  ·xt nomatch e
  ·injection e with e1 _
   subst e1
   cases v <;> rfl
theorem HQ (prog:Program) (w:World) (i:Int) (t:Tok):(gD prog w).is (.inl i) (.int i t) = true:=Pr i t
theorem HN (prog:Program) (w:World) (x:Str) (t:Tok):(gD prog w).is (.inr x) (.str x t) = true:=Pq x t
end L2
namespace L2
open PySem PySem.Spec PyProof.Rows
inductive V where
 | non | bl (b:Bool) | int (i:Int) | str (x:Str) | byt (b:Array UInt8) | flt (b:UInt64) | ref (a:Addr) | ty (n:String)
 deriving DecidableEq
def RelV:V→Value→Prop
 | .non,u=>u = Value.none
 | .bl b,u=>u = Value.bool b
 | .int i,u=>∃ t,u = Value.int i t
 | .str x,u=>∃ t,u = Value.str x t
 | .byt b,u=>∃ t,u = Value.bytes b t
 | .flt b,u=>∃ t,u = Value.float b t
 | .ref a,u=>u = Value.ref a
 | .ty n,u=>u = Value.type n
abbrev Vals:List V→List Value→Prop:=Paired RelV
theorem Vals.length {xs:List V} {us:List Value} (r:Vals xs us):xs.length = us.length:=Paired.length r
theorem Vals.get:∀ {xs:List V} {us:List Value} {i:Nat} {x:V},Vals xs us→xs[i]? = some x→∃ u,us[i]? = some u∧RelV x u
 | _,_,_,_,.nil,e=>by simp at e
 | _,_,0,_,.cons r _,e=>by simp at e; subst e; xt ⟨_,rfl,r⟩
 | _,_,i + 1,x,.cons _ t,e=>by
  ob ⟨u,h1,h2⟩:=Vals.get (i:=i) (x:=x) t (by simpa using e)
  xt ⟨u,by simpa using h1,h2⟩
theorem Vals.set {x:V} {u:Value} (r:RelV x u):∀ {xs:List V} {us:List Value} (i:Nat),Vals xs us→Vals (xs.set i x) (us.set i u)
 | _,_,_,.nil=>.nil
 | _,_,0,.cons _ t=>.cons r t
 | _,_,i + 1,.cons q t=>.cons q (Vals.set r i t)
theorem Vals.append:∀ {xs ys:List V} {us ws:List Value},Vals xs us→Vals ys ws→Vals (xs ++ ys) (us ++ ws)
 | _,_,_,_,.nil,s=>s
 | _,_,_,_,.cons r t,s=>.cons r (Vals.append t s)
theorem Vals.take:∀ {xs:List V} {us:List Value} (n:Nat),Vals xs us→Vals (xs.take n) (us.take n)
 | _,_,0,_=>.nil
 | _,_,_ + 1,.nil=>.nil
 | _,_,n + 1,.cons r t=>.cons r (Vals.take n t)
theorem Vals.drop:∀ {xs:List V} {us:List Value} (n:Nat),Vals xs us→Vals (xs.drop n) (us.drop n)
 | _,_,0,r=>r
 | _,_,_ + 1,.nil=>.nil
 | _,_,n + 1,.cons _ t=>Vals.drop n t
def Ln:Option V→Option Value→Prop
 | some v,some u=>RelV v u
 | none,none=>True
 | _,_=>False
def KV {κ : Type}:List (κ×V)→List (κ×Value)→Prop:=Paired fun (p:κ×V) (q:κ×Value)=>p.1 = q.1∧RelV p.2 q.2
def kV:Key→V
 | .inl i=>.int i
 | .inr x=>.str x
def Qu (h:Heap) (a:Addr) (its:Array Value):Prop:=∃ o,h.get? a = some o∧o.cls = .type "tuple" ∧ o.dict = none∧∃ n,o.data = .seq its n
theorem Qu.tup {h:Heap} {a:Addr} {its:Array Value} (x:Qu h a its):IsTup h a its:=let ⟨o,e,c,_,d⟩:=x; ⟨o,e,c,d⟩
theorem Qu.new (h:Heap) (its:Array Value):Qu (h.push { cls:=.type "tuple", data:=.seq its }) h.objs.size its:=⟨_,Heap.get?_push_size _ rfl,rfl,rfl,_,rfl⟩
inductive HO where
 /-- a list -/
 | lst (xs:List V)
 /-- a tuple (never changes) -/
 | tup (xs:List V)
 /-- a dict whose keys are ints and texts; one whose keys are tuples of ints and texts (the empty one is both) -/
 | dK (kvs:List (Key×V)) | dT (kvs:List (List Key×V))
 /-- a set of ints: its members,its size -/
 | set (S:Int→Bool) (n:Nat)
 /-- an instance of the class at C,its dict at dx,its attributes -/
 | ins (C dx:Addr) (fs:List (Str×V))
 /-- the dict of the instance at x -/
 | own (x:Addr)
 /-- the dict of an exception -/
 | xd (fs:List (Str×V))
 /-- a bound method,f of x -/
 | met (f x:Addr)
 /-- a range object lo,lo + 1,.. below hi -/
 | rng (lo hi:Int)
 /-- a thing that is known to the object (the script; a dict while a loop walks it): read,never written while it is so -/
 | frz (o:Obj) (u:HO)
 /-- a code object's table -/
 | tbl (w:Str) (ps:Array Value)
 /-- any other thing,by what is true of its one object (a def of one's own: ae7 a S n:=HO.ext fun h=>..) -/
 | ext (φ : Heap→Prop)
abbrev Hp:=Addr→Option HO
def upd (H:Hp) (a:Addr) (o:HO):Hp:=fun b=>if b = a then some o else H b
theorem aU {H:Hp} {a:Addr} {o:HO}:upd H a o a = some o:=by unfold upd; rw [if_pos rfl]
theorem aJ {H:Hp} {a b:Addr} {o:HO} (h:b≠a):upd H a o b = H b:=by unfold upd; rw [if_neg h]
theorem ab6 {H:Hp} {a b:Addr} {o u:HO} (h:H a = some o) (h':H b = some u) (d:o≠u):a≠b:=by
 intro e; subst e; rw [h] at h'; xt d (Option.some.inj h')
theorem aX {H:Hp} {a b:Addr} {o:HO} (h:H a = some o) (h':H b = none):a≠b:=by
 intro e; subst e; rw [h] at h'; cases h'
section
variable (P:Program) (w:World)
def bY (H:Hp) (h:Heap) (a:Addr):HO→Prop
 | .lst xs=>xs.length≤sizeLine∧∃ (its:List Value) (n:Nat),Vals xs its∧h.get? a = some { cls:=.type "list", data:=.seq its.toArray n }
 | .tup xs=>xs.length≤sizeLine∧∃ its:List Value,Vals xs its∧Qu h a its.toArray
 | .dK kvs=>kvs.length≤sizeLine∧(a == sysModules) = false∧∃ vs,KV kvs vs∧h.DictOf (gD P w) a vs
 | .dT kvs=>kvs.length≤sizeLine∧(a == sysModules) = false∧∃ xs:List (List Key×Addr×Value),
  Paired (fun (p:List Key×V) (q:List Key×Addr×Value)=>p.1 = q.1∧H q.2.1 = some (.tup (p.1.map kV))∧RelV p.2 q.2.2) kvs xs ∧
  ∃ o es ep,h.get? a = some o∧o.ExactDict∧o.data = .dict es ep∧es.toList = xs.map (entryOfKey (tupleKind (gD P w)))∧(xs.map (·.1)).Nodup
 | .set S n=>h.SetOf (intKind P w) a S n
 | .ins C dx fs=>H dx = some (.own a)∧fs.length≤1000∧dx≠a∧h.get? a = some (PySem.W.instObj C dx) ∧
  ∃ mA,h.Ns1 dx mA∧(∀ f,Ln (fs.lookup f) (mA f))∧PySem.Within mA (fs.map (·.1))
 | .own _=>∃ o,h.get? a = some o
 | .xd fs=>∃ mA,h.Ns1 a mA∧∀ f,Ln (fs.lookup f) (mA f)
 | .rng lo hi=>∃ t u v,h.get? a = some { cls:=.type "range", data:=.fields #[.int lo t,.int hi u,.int 1 v] }
 | .frz o u=>h.get? a = some o∧bY H h a u
 | .tbl _ ps=>h.get? a = some { cls:=.none,data:=.fields ps }
 | .met f x=>h.get? a = some (PySem.W.methodObj (.ref f) (.ref x))
 | .ext φ=>φ h∧(∃ o,h.get? a = some o)∧∀ h1 h2:Heap,φ h1→(∀ o,h1.get? a = some o→h2.get? a = some o)→φ h2
def pW (H:Hp) (h:Heap):Prop:=∀ a o,H a = some o→bY P w H h a o
end
section
variable {P:Program} {w:World} {H H':Hp} {h h':Heap} {a:Addr} {o:HO}
theorem bY.lt (x:bY P w H h a o):a < h.objs.size:=by
 cases o with
 | lst xs=>ob ⟨_,_,_,_,e⟩:=x; xt Heap.lt_size e
 | tup xs=>ob ⟨_,_,_,p⟩:=x; xt p.tup.lt
 | dK kvs=>ob ⟨_,_,_,_,o,_,_,e,_⟩:=x; xt Heap.lt_size e
 | dT kvs=>ob ⟨_,_,_,_,o,_,_,e,_⟩:=x; xt Heap.lt_size e
 | set S n=>ob ⟨o,_,_,_,e,_⟩:=x; xt Heap.lt_size e
 | ins C dx fs=>ob ⟨_,_,_,e,_⟩:=x; xt Heap.lt_size e
 | own y=>ob ⟨_,e⟩:=x; xt Heap.lt_size e
 | xd fs=>ob ⟨_,⟨_,_,_,e,_⟩,_⟩:=x; xt Heap.lt_size e
 | rng lo hi=>ob ⟨_,_,_,e⟩:=x; xt Heap.lt_size e
 | frz ob u=>ob ⟨e,_⟩:=x; xt Heap.lt_size e
 | tbl w ps=>xt Heap.lt_size (show h.get? a = some _ from x)
 | met f y=>xt Heap.lt_size (show h.get? a = some _ from x)
 | ext φ=>ob ⟨_,⟨_,e⟩,_⟩:=x; xt Heap.lt_size e
theorem Paired.Z0 {α β : Type} {F G:α→β→Prop}:∀ {l₁:List α} {l₂:List β},Paired F l₁ l₂→(∀ a b,F a b→G a b)→Paired G l₁ l₂
 | _,_,.nil,_=>.nil
 | _,_,.cons r t,f=>.cons (f _ _ r) (Paired.Z0 t f)
theorem bY.stay (x:bY P w H h a o) (k:∀ b u,(b = a∨H b = some (.own a))→h.get? b = some u→h'.get? b = some u)
 (ho:∀ b,H b = some (.own a)→H' b = some (.own a)) (ht:∀ b xs,H b = some (.tup xs)→H' b = some (.tup xs)):bY P w H' h' a o:=by
 induction o with
 | lst xs=>ob ⟨z,its,n,r,e⟩:=x; xt ⟨z,its,n,r,k _ _ (.inl rfl) e⟩
 | tup xs=>ob ⟨z,its,r,ob,e,c⟩:=x; xt ⟨z,its,r,ob,k _ _ (.inl rfl) e,c⟩
 | dK kvs=>ob ⟨z,y,vs,r,ob,es,ep,e,c⟩:=x; xt ⟨z,y,vs,r,ob,es,ep,k _ _ (.inl rfl) e,c⟩
 | dT kvs =>
  ob ⟨z,y,xs,r,ob,es,ep,e,c⟩:=x
  xt ⟨z,y,xs,Paired.Z0 r fun p q z=>⟨z.1,ht _ _ z.2.1,z.2.2⟩,ob,es,ep,k _ _ (.inl rfl) e,c⟩
 | set S n=>ob ⟨ob,es,ep,t,e,c⟩:=x; xt ⟨ob,es,ep,t,k _ _ (.inl rfl) e,c⟩
 | ins C dx fs =>
  ob ⟨d,z,ne,e,mA,⟨od,es,ep,e2,c⟩,r⟩:=x
  xt ⟨ho _ d,z,ne,k _ _ (.inl rfl) e,mA,⟨od,es,ep,k _ _ (.inr d) e2,c⟩,r⟩
 | own y=>ob ⟨ob,e⟩:=x; xt ⟨ob,k _ _ (.inl rfl) e⟩
 | xd fs=>ob ⟨mA,⟨od,es,ep,e,c⟩,r⟩:=x; xt ⟨mA,⟨od,es,ep,k _ _ (.inl rfl) e,c⟩,r⟩
 | rng lo hi=>ob ⟨t,u,v,e⟩:=x; xt ⟨t,u,v,k _ _ (.inl rfl) e⟩
 | frz ob u ih=>ob ⟨e,q⟩:=x; xt ⟨k _ _ (.inl rfl) e,ih q⟩
 | tbl w ps =>
  have e:h.get? a = some { cls:=.none,data:=.fields ps }:=x
  show h'.get? a = some { cls:=.none,data:=.fields ps }
  xt k a _ (.inl rfl) e
 | met f y =>
  have e:h.get? a = some (PySem.W.methodObj (.ref f) (.ref y)):=x
  show h'.get? a = some (PySem.W.methodObj (.ref f) (.ref y))
  xt k a _ (.inl rfl) e
 | ext φ=>ob ⟨p,⟨o,e⟩,st⟩:=x; xt ⟨st _ _ p fun o q=>k _ _ (.inl rfl) q,⟨o,k _ _ (.inl rfl) e⟩,st⟩
theorem pW.lt (x:pW P w H h) (e:H a = some o):a < h.objs.size:=(x a o e).lt
theorem pW.fresh (x:pW P w H h) (e:h.objs.size≤a):H a = none:=by
 cases q:H a with
 | none=>rfl
 | some u=>xt absurd (Nat.lt_of_lt_of_le (x.lt q) e) (Nat.lt_irrefl _)
theorem pW.kept (x:pW P w H h) (k:∀ b u,h.get? b = some u→h'.get? b = some u):pW P w H h':=fun a o e =>
 (x a o e).stay (fun b u _ q=>k b u q) (fun _ q=>q) fun _ _ q=>q
theorem pW.laid (x:pW P w H h) (k:∀ b u,h.get? b = some u→h'.get? b = some u) (hp:h.objs.size≤a) (new:bY P w (upd H a o) h' a o):pW P w (upd H a o) h':=fun b u e=>by
 have hn:=x.fresh hp
 by_cases hb:b = a
 ·subst hb; rw [aU] at e; cases e; xt new
 ·rw [aJ hb] at e
  xt (x b u e).stay (fun c v _ q=>k c v q) (fun c q=>by rw [aJ (aX q hn)]; xt q) fun c xs q=>by rw [aJ (aX q hn)]; xt q
end
def Rd (H:Hp) (a:Addr) (u:HO):Prop:=H a = some u∨∃ o,H a = some (.frz o u)
theorem Rd.ok {P:Program} {w:World} {H:Hp} {h:Heap} {a:Addr} {u:HO} (r:Rd H a u) (x:pW P w H h):bY P w H h a u:=by
 rcases r with r | ⟨o,r⟩
 ·xt x a u r
 ·ob ⟨_,q⟩:=x a _ r
  xt q
def Mut:Option HO→Prop
 | some (.lst _)=>True
 | some (.dK _)=>True
 | some (.dT _)=>True
 | some (.set _ _)=>True
 | some (.ins _ _ _)=>True
 | some (.ext _)=>True
 | _=>False
section
variable {P:Program} {w:World} {H:Hp} {h h':Heap} {x e:Addr} {o':HO}
theorem pW.write (ok:pW P w H h) (mu:Mut (H x)) (he:e = x∨H e = some (.own x)) (k:∀ b u,b≠e→h.get? b = some u→h'.get? b = some u) (heo:∃ u,h'.get? e = some u)
 (new:bY P w (upd H x o') h' x o'):pW P w (upd H x o') h':=fun b u q=>by
 have abY:∀ c y,H c = some (.own y)→c≠x:=fun c y r z=>by subst z; rw [r] at mu; xt mu
 have adG:∀ c xs,H c = some (.tup xs)→c≠x:=fun c xs r z=>by subst z; rw [r] at mu; xt mu
 by_cases hb:b = x
 ·subst hb; rw [aU] at q; cases q; xt new
 ·rw [aJ hb] at q
  by_cases hbe:b = e
  ·have q':H b = some (.own x):=by
    rcases he with z | z
    ·xt absurd (hbe.trans z) hb
    ·rw [hbe]; xt z
   rw [q] at q'; cases q'
   ob ⟨v,hv⟩:=heo
   xt ⟨v,by rw [hbe]; xt hv⟩
  ·rf (ok b u q).stay (fun c v hc r=>k c v ?_ r) (fun c r=>by rw [aJ (abY c b r)]; xt r) fun c xs r=>by rw [aJ (adG c xs r)]; xt r
   rcases hc with rfl | hc
   ·xt hbe
   ·rintro rfl
    rcases he with z | z
    ·xt abY c b hc z
    ·rw [hc] at z; cases z; xt hb rfl
end
structure Un (fs ex:List Addr) (H H':Hp) (h h':Heap):Prop where
 keep:∀ b o,h.get? b = some o→H b = none→b∉fs→b∉ex→h'.get? b = some o
 slot:∀ b o,h.get? b = some o→H b = none→b∈fs→b∉ex→∃ sl,h'.get? b = some { o with slots:=sl }
 free:∀ b o,h.get? b = some o→H b = none→b∉ex→H' b = none
 there:∀ b o,h.get? b = some o→b∉ex→∃ o',h'.get? b = some o'
 tups:∀ b xs,H b = some (.tup xs)→H' b = some (.tup xs)
 xm:∀ b o u,H b = some (.frz o u)→H' b = some (.frz o u)
 wH:∀ b w ps,H b = some (.tbl w ps)→∃ more,H' b = some (.tbl w (ps ++ more))
section
variable {fs fs' ex ex':List Addr} {H H1 H2:Hp} {h h1 h2 h':Heap} {a x e:Addr} {o:HO}
theorem Un.any (u:Un fs ex H H1 h h1) {b:Addr} {ob:Obj} (q:h.get? b = some ob) (n:H b = none) (hx:b∉ex):∃ sl,h1.get? b = some { ob with slots:=sl }:=by
 by_cases hb:b∈fs
 ·xt u.slot b ob q n hb hx
 ·xt ⟨ob.slots,u.keep b ob q n hb hx⟩
theorem Un.kept (k:∀ b u,h.get? b = some u→h'.get? b = some u):Un fs ex H H h h' :=
 ⟨fun b ob q _ _ _=>k b ob q,fun b ob q _ _ _=>⟨ob.slots,k b ob q⟩,fun _ _ _ n _=>n,fun b ob q _=>⟨ob,k b ob q⟩,fun _ _ q=>q,fun _ _ _ q=>q,fun _ w ps q=>⟨#[],by rw [q]; simp⟩⟩
theorem Un.refl:Un fs ex H H h h:=Un.kept fun _ _ q=>q
theorem Un.laid (k:∀ b u,h.get? b = some u→h'.get? b = some u) (hp:h.objs.size≤a) (hn:H a = none):Un fs ex H (upd H a o) h h' where
 keep:=fun b u q _ _ _=>k b u q
 slot:=fun b u q _ _ _=>⟨u.slots,k b u q⟩
 free:=fun b u q n _=>by rw [aJ (Nat.ne_of_lt (Nat.lt_of_lt_of_le (Heap.lt_size q) hp))]; xt n
 there:=fun b u q _=>⟨u,k b u q⟩
 tups:=fun b xs q=>by rw [aJ (aX q hn)]; xt q
 xm:=fun b u xs q=>by rw [aJ (aX q hn)]; xt q
 wH:=fun b w ps q=>⟨#[],by rw [aJ (aX q hn),q]; simp⟩
theorem Un.write (mu:Mut (H x)) (he:e = x∨H e = some (.own x)) (k:∀ b u,b≠e→h.get? b = some u→h'.get? b = some u) (heo:∃ u,h'.get? e = some u):Un fs ex H (upd H x o) h h':=by
 have hx:∀ b,H b = none→b≠x:=fun b n z=>by subst z; rw [n] at mu; xt mu
 have hb:∀ b,H b = none→b≠e:=fun b n z=>by
  subst z
  rcases he with r | r
  ·xt hx b n r
  ·rw [n] at r; cases r
 have hm:∀ b u,H b = some u→¬ Mut (some u)→b≠x:=fun b u q nm z=>by subst z; rw [q] at mu; xt nm mu
 rf ⟨fun b u q n _ _=>k b u (hb b n) q,fun b u q n _ _=>⟨u.slots,k b u (hb b n) q⟩,fun b u q n _=>by rw [aJ (hx b n)]; xt n,fun b u q _=>?_,
  fun b xs q=>by rw [aJ (hm b _ q fun z=>z)]; xt q,fun b u xs q=>by rw [aJ (hm b _ q fun z=>z)]; xt q,fun b w ps q=>⟨#[],by rw [aJ (hm b _ q fun z=>z),q]; simp⟩⟩
 by_cases hbe:b = e
 ·subst hbe; xt heo
 ·xt ⟨u,k b u hbe q⟩
end
def trk (h:Heap) (H:Hp):List Addr:=(List.range h.objs.size).filter fun a=>(H a).isSome
def An (h:Heap) (H:Hp):Heap:=PySem.W.hideAll h (trk h H)
theorem PB (h:Heap) (H:Hp):(An h H).objs.size = h.objs.size:=PySem.W.hideAll_size _ _
theorem T5 {h:Heap} {H:Hp} {b:Addr} {o:Obj} (e:h.get? b = some o) (n:H b = none):(An h H).get? b = some o :=
 PySem.W.hideAll_get _ e fun hm=>by
  have q:(H b).isSome = true:=(List.mem_filter.mp hm).2
  rw [n] at q; simp at q
theorem Wq {h:Heap} {H:Hp} {b:Addr} {o:Obj} (e:(An h H).get? b = some o):h.get? b = some o∧H b = none:=by
 have e':h.get? b = some o:=PySem.W.of_hideAll (trk h H) e
 rf ⟨e',?_⟩
 cases q:H b with
 | none=>rfl
 | some x =>
  have hm:b∈trk h H:=List.mem_filter.mpr ⟨List.mem_range.mpr (Heap.lt_size e'),by simp [q]⟩
  have z:(An h H).get? b = none:=PySem.W.hideAll_none (trk h H) hm
  rw [z] at e; cases e
end L2
namespace L2
open PySem PySem.Spec PyProof.Rows
structure Mod (K:Φ) (mg:Str→Option Value) (base:Heap):Prop where
 kin:K.In base
 glob:base.Ns mainGlobals mg
 blt:∃ mb,base.Ns builtinsNs mb∧∀ x:Str,x ≠ "__name__" → mb x = bootBuiltins x
 nolimit:base.NoLimit
structure Cx where
 prog:Program
 w:World
 K:Φ
 mg:Str→Option Value
 base:Heap
 A:Around
 N:List Str
 s₀:Shared
 H₀:Hp
 env:Env
 outer:List Env
 stack:List Env
 ex:List Addr
 fn:Str→Bool
 calm:Bool
 pn:List (Addr×Obj)
 xe:Value→Shared→Prop
def frs (l:List Env):List Addr:=l.filterMap (·.frame)
abbrev Cx.fs (X:Cx):List Addr:=frs X.outer
def Vis (sc:Scope) (x:Str):Prop:=sc.names.lookup x = some .local∨sc.names.lookup x = some .cell∨sc.names.lookup x = some .free
def Loc (sc:Scope) (x:Str):Prop:=sc.names.lookup x = some .local∨sc.names.lookup x = some .cell
def Look (env:Env) (h:Heap) (m:Str→Option Value) (x:Str) (u:Value):Prop :=
 (env.kindOf x = some .local∧m x = some u)∨((env.kindOf x = some .cell∨env.kindOf x = some .free)∧∃ c,env.cells.lookup x = some c∧h.IsCell c (some u))
structure Cx.Ok (X:Cx):Prop where
 mod:Mod X.K X.mg X.base
 kind:X.env.scope.kind = .function
 glob:X.env.globals = mainGlobals
 blt:X.env.builtins = builtinsNs
 above:X.s₀.heap.objs.size≤X.env.locals
 inj:∀ x y c,X.env.cells.lookup x = some c→X.env.cells.lookup y = some c→x = y
 has:∀ x,(X.env.kindOf x = some .cell∨X.env.kindOf x = some .free)→∃ c,X.env.cells.lookup x = some c
 cab:∀ x c,X.fn x = true→X.env.cells.lookup x = some c→X.s₀.heap.objs.size≤c
 hd:X.calm = true→X.A.handled = none
 frames:X.A.frames = some X.stack
 stk:X.stack = X.outer∨(X.stack = X.env :: X.outer∧X.env.frame = some X.env.locals)
 exf:∀ b∈X.ex,b≠X.env.locals∧∀ x c,X.env.cells.lookup x = some c→c≠b
 bs:∀ b o,X.base.get? b = some o→X.s₀.heap.get? b = some o∧X.H₀ b = none
 bsz:X.base.objs.size≤X.s₀.heap.objs.size
 Ko:∀ b o,X.base.get? b = some o→b∉X.ex
 PL:∀ b∈X.ex,b∉X.fs
 sI:X.s₀.heap.FunFrames X.base X.outer
 frf:∀ b∈X.fs,X.H₀ b = none
structure Inv (X:Cx) (pins:List (Addr×Obj)) (σ : List (Option V)) (H:Hp) (s:Shared):Prop where
 ok:X.Ok
 os:s.os = X.s₀.os
 bare:AllBare s.gens
 base:Un X.fs X.ex X.H₀ H X.s₀.heap s.heap
 loc:∃ m,s.heap.Ns X.env.locals m∧∀ (i:Nat) (x:Str) (v:V),X.N[i]? = some x→σ[i]? = some (some v)→Vis X.env.scope x→∃ u,RelV v u∧Look X.env s.heap m x u
 cell:∀ x c,X.env.cells.lookup x = some c→∃ v,s.heap.IsCell c v
 free:H X.env.locals = none
 lQ:∀ x c,X.env.cells.lookup x = some c→H c = none
 pin:∀ p∈X.pn ++ pins,s.heap.get? p.1 = some p.2∧H p.1 = none∧p.1≠X.env.locals∧p.1∉X.fs∧∀ v,p.2.data≠.cell v
 hok:pW X.prog X.w H s.heap
 len:σ.length = X.N.length
section
variable {X:Cx} {pins:List (Addr×Obj)} {σ : List (Option V)} {H H':Hp} {s:Shared} {h':Heap}
theorem Cx.Ok.adI (ok:X.Ok) {b:Addr} {o:Obj} (e:X.base.get? b = some o):b∉X.fs:=fun hb=>by
 have:=(ok.sI.mem hb).1
 rw [e] at this; cases this
theorem Inv.bs (I:Inv X pins σ H s):∀ b o,X.base.get? b = some o→s.heap.get? b = some o∧H b = none:=fun b o e =>
 ⟨I.base.keep b o (I.ok.bs b o e).1 (I.ok.bs b o e).2 (I.ok.adI e) (I.ok.Ko b o e),I.base.free b o (I.ok.bs b o e).1 (I.ok.bs b o e).2 (I.ok.Ko b o e)⟩
theorem Inv.bk (I:Inv X pins σ H s):∀ b o,X.base.get? b = some o→s.heap.get? b = some o:=fun b o e=>(I.bs b o e).1
theorem Inv.mod (I:Inv X pins σ H s):Mod X.K X.mg X.base:=I.ok.mod
theorem Inv.yw (I:Inv X pins σ H s):X.K.In s.heap:=I.ok.mod.kin.keeps I.bk
theorem Inv.nolimit (I:Inv X pins σ H s):s.heap.NoLimit:=I.ok.mod.nolimit.keeps I.bk
theorem Inv.lt (I:Inv X pins σ H s):X.env.locals < s.heap.objs.size:=let ⟨_,hn,_⟩:=I.loc; hn.lt
theorem Inv.sz (I:Inv X pins σ H s):X.s₀.heap.objs.size≤s.heap.objs.size:=Nat.le_trans I.ok.above (Nat.le_of_lt I.lt)
theorem Inv.adH (I:Inv X pins σ H s) {a:Addr} (h:s.heap.objs.size≤a):a∉X.fs:=fun hb=>by
 ob ⟨_,o,ho,_⟩:=I.ok.sI.mem hb
 xt absurd (Nat.lt_of_lt_of_le (Heap.lt_size ho) (Nat.le_trans I.sz h)) (Nat.lt_irrefl _)
theorem Inv.Xf (I:Inv X pins σ H s):∀ x c,X.env.cells.lookup x = some c→c≠X.env.locals:=fun x c e z=>by
 ob ⟨v,o,ho,hd⟩:=I.cell x c e
 ob ⟨m,⟨o',es,ep,ho',hd',_⟩,_⟩:=I.loc
 rw [z,ho'] at ho; cases ho; rw [hd'] at hd; cases hd
theorem Inv.sI (I:Inv X pins σ H s):s.heap.FunFrames X.base X.outer:=by
 have all:∀ (l:List Env),(∀ b∈frs l,b∈X.fs)→X.s₀.heap.FunFrames X.base l→s.heap.FunFrames X.base l:=by
  intro l
  induction l with
  | nil=>intro _ _; trivial
  | cons env r ih =>
   intro hs hl
   ob ⟨hk,⟨L,o,hf,hn,ho,hd⟩,hr⟩:=hl
   have hL:L∈X.fs:=hs L (by unfold frs; rw [List.filterMap_cons,hf]; xt List.mem_cons_self)
   ob ⟨sl,e⟩:=I.base.slot L o ho (I.ok.frf L hL) hL fun z=>I.ok.PL L z hL
   xt ⟨hk,⟨L,_,hf,hn,e,hd⟩,ih (fun b hb=>hs b (by unfold frs; rw [List.filterMap_cons,hf]; xt List.mem_cons_of_mem _ hb)) hr⟩
 xt all X.outer (fun _ hb=>hb) I.ok.sI
theorem Inv.stack (I:Inv X pins σ H s):s.heap.FunFrames X.base X.stack:=by
 rcases I.ok.stk with e | ⟨e,hf⟩
 ·rw [e]; xt I.sI
 ·rw [e]
  ob ⟨m,hn,_⟩:=I.loc
  rf .cons (by rw [I.ok.kind]; decide) hf hn ?_ I.sI
  xt Heap.get?_none_of_le (Nat.le_trans I.ok.bsz I.ok.above)
theorem Inv.Ed (I:Inv X pins σ H s):∀ b∈frs X.stack,b∈X.env.locals :: X.fs:=fun b hb=>by
 rcases I.ok.stk with e | ⟨e,hf⟩
 ·rw [e] at hb; xt List.mem_cons_of_mem _ hb
 ·rw [e] at hb
  unfold frs at hb
  rw [List.filterMap_cons,hf] at hb
  xt hb
theorem Inv.vz (I:Inv X pins σ H s):∀ b∈frs X.stack,H b = none:=fun b hb=>by
 rcases List.mem_cons.mp (I.Ed b hb) with e | hb
 ·rw [e]; xt I.free
 ·ob ⟨_,o,ho,_⟩:=I.ok.sI.mem hb
  xt I.base.free b o ho (I.ok.frf b hb) fun z=>I.ok.PL b z hb
theorem Inv.step {g':Array GenState} {t':Nat} {d':Drawn} {ch:List Addr} (I:Inv X pins σ H s)
 (hch:∀ b∈ch,(b∈X.ex∨X.s₀.heap.objs.size≤b)∧b≠X.env.locals∧(∀ x c,X.env.cells.lookup x = some c→c≠b)∧∀ p∈X.pn ++ pins,p.1≠b)
 (keep:∀ b o,b≠X.env.locals→b∉X.fs→b∉ch→s.heap.get? b = some o→H b = none→h'.get? b = some o)
 (slot:∀ b o,b≠X.env.locals→b∈X.fs→b∉ch→s.heap.get? b = some o→H b = none→∃ sl,h'.get? b = some { o with slots:=sl }) (free:∀ b o,b∉ch→s.heap.get? b = some o→H b = none→H' b = none)
 (there:∀ b o,b∉ch→s.heap.get? b = some o→∃ o',h'.get? b = some o')
 (tups:∀ b xs,H b = some (.tup xs)→H' b = some (.tup xs)) (xm:∀ b o u,H b = some (.frz o u)→H' b = some (.frz o u)) (wH:∀ b w ps,H b = some (.tbl w ps)→∃ more,H' b = some (.tbl w (ps ++ more)))
 (ns:∀ m,s.heap.Ns X.env.locals m→h'.Ns X.env.locals m) (hok:pW X.prog X.w H' h') (hg:AllBare g') :
 Inv X pins σ H' { s with heap:=h',gens:=g',drawn:=d',toks:=t' }:=by
 have neL:∀ b o,X.s₀.heap.get? b = some o→b≠X.env.locals:=fun b o e=>Nat.ne_of_lt (Nat.lt_of_lt_of_le (Heap.lt_size e) I.ok.above)
 have neC:∀ b o,X.s₀.heap.get? b = some o→b∉X.ex→b∉ch:=fun b o e hx hb=>by
  rcases (hch b hb).1 with z | z
  ·xt hx z
  ·xt absurd (Nat.lt_of_lt_of_le (Heap.lt_size e) z) (Nat.lt_irrefl _)
 have cellK:∀ x c,X.env.cells.lookup x = some c→∀ v,s.heap.IsCell c v→h'.IsCell c v:=fun x c e v ⟨o,ho,hd⟩=>by
  have nch:c∉ch:=fun z=>(hch c z).2.2.1 x c e rfl
  by_cases hc:c∈X.fs
  ·ob ⟨sl,q⟩:=slot c o (I.Xf x c e) hc nch ho (I.lQ x c e)
   xt ⟨_,q,hd⟩
  ·xt ⟨o,keep c o (I.Xf x c e) hc nch ho (I.lQ x c e),hd⟩
 rf ⟨I.ok,I.os,hg,⟨fun b o e n hb hx=>?_,fun b o e n hb hx=>?_,fun b o e n hx=>?_,fun b o e hx=>?_,fun b xs e=>tups b xs (I.base.tups b xs e),fun b o xs e=>xm b o xs (I.base.xm b o xs e),fun b w ps e=>?_⟩,?_,fun x c e=>?_,?_,fun x c e=>?_,fun p hp=>?_,hok,I.len⟩
 ·xt keep b o (neL b o e) hb (neC b o e hx) (I.base.keep b o e n hb hx) (I.base.free b o e n hx)
 ·ob ⟨sl,e1⟩:=I.base.slot b o e n hb hx
  ob ⟨sl',e2⟩:=slot b _ (neL b o e) hb (neC b o e hx) e1 (I.base.free b o e n hx)
  xt ⟨sl',e2⟩
 ·ob ⟨o',e1⟩:=I.base.there b o e hx
  xt free b o' (neC b o e hx) e1 (I.base.free b o e n hx)
 ·ob ⟨o',e1⟩:=I.base.there b o e hx
  xt there b o' (neC b o e hx) e1
 ·ob ⟨m1,e1⟩:=I.base.wH b w ps e
  ob ⟨m2,e2⟩:=wH b w _ e1
  xt ⟨m1 ++ m2,by rw [e2,Array.append_assoc]⟩
 ·ob ⟨m,hn,hl⟩:=I.loc
  rf ⟨m,ns m hn,fun i x v e1 e2 e3=>?_⟩
  ob ⟨u,r,l⟩:=hl i x v e1 e2 e3
  rf ⟨u,r,?_⟩
  rcases l with l | ⟨k,c,e,z⟩
  ·xt .inl l
  ·xt .inr ⟨k,c,e,cellK x c e _ z⟩
 ·ob ⟨v,z⟩:=I.cell x c e
  xt ⟨v,cellK x c e v z⟩
 ·ob ⟨m,⟨o,_,_,ho,_⟩,_⟩:=I.loc
  xt free _ o (fun z=>(hch _ z).2.1 rfl) ho I.free
 ·ob ⟨v,o,ho,hd⟩:=I.cell x c e
  xt free c o (fun z=>(hch c z).2.2.1 x c e rfl) ho (I.lQ x c e)
 ·ob ⟨e,n,ne,nf,d⟩:=I.pin p hp
  have nch:p.1∉ch:=fun z=>(hch p.1 z).2.2.2 p hp rfl
  xt ⟨keep p.1 p.2 ne nf nch e n,free p.1 p.2 nch e n,ne,nf,d⟩
theorem Inv.un {t':Nat} (I:Inv X pins σ H s) (u:Un X.fs [] H H' s.heap h') (hok:pW X.prog X.w H' h'):Inv X pins σ H' { s with heap:=h',toks:=t' }:=by
 ob ⟨m,⟨o,es,ep,ho,r⟩,_⟩:=id I.loc
 ob ⟨sl,hL⟩:=u.any ho I.free (by simp)
 xt I.step (g':=s.gens) (d':=s.drawn) (ch:=[]) (fun _ z=>nomatch z) (fun b o _ hb _ e n=>u.keep b o e n hb (by simp)) (fun b o _ hb _ e n=>u.slot b o e n hb (by simp)) (fun b o _ e n=>u.free b o e n (by simp)) (fun b o _ e=>u.there b o e (by simp)) u.tups u.xm u.wH (fun m' hm=>by
  ob ⟨o',es',ep',ho',r'⟩:=hm
  rw [ho] at ho'; cases ho'
  xt ⟨_,es',ep',hL,r'⟩) hok I.bare
theorem Inv.call {g':Array GenState} {t':Nat} {d':Drawn} {ch:List Addr} (I:Inv X pins σ H s) (u:Un (frs X.stack) ch H H' s.heap h') (hok:pW X.prog X.w H' h') (hg:AllBare g')
 (hch:∀ b∈ch,(b∈X.ex∨X.s₀.heap.objs.size≤b)∧b≠X.env.locals∧(∀ x c,X.env.cells.lookup x = some c→c≠b)∧∀ p∈X.pn ++ pins,p.1≠b) :
 Inv X pins σ H' { s with heap:=h',gens:=g',drawn:=d',toks:=t' }:=by
 ob ⟨m,⟨o,es,ep,ho,r⟩,_⟩:=id I.loc
 ob ⟨sl,hL⟩:=u.any ho I.free fun z=>(hch _ z).2.1 rfl
 xt I.step (ch:=ch) hch (fun b o hL hb hc e n=>u.keep b o e n (fun z=>(List.mem_cons.mp (I.Ed b z)).elim hL hb) hc) (fun b o _ _ hc e n=>u.any e n hc) (fun b o hc e n=>u.free b o e n hc) (fun b o hc e=>u.there b o e hc) u.tups u.xm u.wH (fun m' hm=>by
  ob ⟨o',es',ep',ho',r'⟩:=hm
  rw [ho] at ho'; cases ho'
  xt ⟨_,es',ep',hL,r'⟩) hok hg
theorem Inv.turned {t':Nat} {it:Addr} (I:Inv X pins σ H s) (k:∀ b o,b≠it→s.heap.get? b = some o→h'.get? b = some o) (hn:H it = none) (hL:it≠X.env.locals)
 (h1:it∈X.ex∨X.s₀.heap.objs.size≤it) (h2:∀ x c,X.env.cells.lookup x = some c→c≠it) (h3:∀ p∈X.pn ++ pins,p.1≠it):Inv X pins σ H { s with heap:=h',toks:=t' }:=by
 have nit:∀ b u,H b = some u→b≠it:=fun b u e z=>by rw [z,hn] at e; cases e
 rf I.step (g':=s.gens) (d':=s.drawn) (ch:=[it]) (fun b hb=>?_) (fun b o _ _ hc e _=>k b o (fun z=>hc (by simp [z])) e) (fun b o _ _ hc e _=>⟨o.slots,k b o (fun z=>hc (by simp [z])) e⟩) (fun _ _ _ _ n=>n)
  (fun b o hc e=>⟨o,k b o (fun z=>hc (by simp [z])) e⟩) (fun _ _ e=>e) (fun _ _ _ e=>e) (fun b w ps e=>⟨#[],by rw [e]; simp⟩) (fun m hm=>?_) (fun b u e=>?_) I.bare
 ·have e:b = it:=by simpa using hb
  subst e
  xt ⟨h1,hL,h2,h3⟩
 ·ob ⟨o,es,ep,ho,r⟩:=hm
  xt ⟨o,es,ep,k _ o (Ne.symm hL) ho,r⟩
 ·rf (I.hok b u e).stay (fun c v hc q=>k c v ?_ q) (fun _ q=>q) fun _ _ q=>q
  rcases hc with z | z
  ·rw [z]; xt nit b u e
  ·xt nit c _ z
theorem Inv.tok (I:Inv X pins σ H s) (t:Nat):Inv X pins σ H { s with toks:=t }:=I.un (h':=s.heap) (t':=t) Un.refl I.hok
theorem Inv.kept {t':Nat} (I:Inv X pins σ H s) (k:∀ b u,s.heap.get? b = some u→h'.get? b = some u):Inv X pins σ H { s with heap:=h',toks:=t' }:=I.un (Un.kept k) (I.hok.kept k)
theorem Inv.laid {a:Addr} {o:HO} {t':Nat} (I:Inv X pins σ H s) (k:∀ b u,s.heap.get? b = some u→h'.get? b = some u) (hp:s.heap.objs.size≤a) (new:bY X.prog X.w (upd H a o) h' a o) :
 Inv X pins σ (upd H a o) { s with heap:=h',toks:=t' }:=I.un (Un.laid k hp (I.hok.fresh hp)) (I.hok.laid k hp new)
theorem Inv.write {x e:Addr} {o:HO} {t':Nat} (I:Inv X pins σ H s) (mu:Mut (H x)) (he:e = x∨H e = some (.own x)) (k:∀ b u,b≠e→s.heap.get? b = some u→h'.get? b = some u) (heo:∃ u,h'.get? e = some u)
 (new:bY X.prog X.w (upd H x o) h' x o):Inv X pins σ (upd H x o) { s with heap:=h',toks:=t' }:=I.un (Un.write mu he k heo) (I.hok.write mu he k heo new)
theorem Inv.weak {σ':List (Option V)} (I:Inv X pins σ H s) (hl:σ'.length = σ.length) (w:∀ (i:Nat) v,σ'[i]? = some (some v)→σ[i]? = some (some v)):Inv X pins σ' H s :=
 ⟨I.ok,I.os,I.bare,I.base,let ⟨m,hn,hl'⟩:=I.loc; ⟨m,hn,fun i x v e1 e2 e3=>hl' i x v e1 (w i v e2) e3⟩,I.cell,I.free,I.lQ,I.pin,I.hok,hl.trans I.len⟩
theorem Inv.Er {Cw:List (Addr×Obj)} (I:Inv X pins σ H s) (h:∀ p∈Cw,s.heap.get? p.1 = some p.2∧H p.1 = none∧p.1≠X.env.locals∧p.1∉X.fs∧∀ v,p.2.data≠.cell v):Inv X Cw σ H s :=
 ⟨I.ok,I.os,I.bare,I.base,I.loc,I.cell,I.free,I.lQ,fun p hp=>(List.mem_append.mp hp).elim (fun z=>I.pin p (List.mem_append_left _ z)) (h p),I.hok,I.len⟩
theorem z8 {N:List Str} (hN:N.Nodup) {i j:Nat} {x:Str} (a:N[i]? = some x) (b:N[j]? = some x):i = j:=by
 ob ⟨h1,e1⟩:=List.getElem?_eq_some_iff.mp a
 ob ⟨h2,e2⟩:=List.getElem?_eq_some_iff.mp b
 xt (List.getElem_inj hN).mp (e1.trans e2.symm)
theorem Cj {M:Model} {A:Around} {E:Value→Shared→Prop} {i:Nat} {x:Str} {v:V} {u:Value} {Q:Unit→Shared→Prop} (I:Inv X pins σ H s) (hN:X.N.Nodup) (hi:X.N[i]? = some x) (hx:Loc X.env.scope x) (r:RelV v u)
 (h:∀ s',Inv X pins (σ.set i (some v)) H s'→(∃ a,Heap.SameBut a s.heap s'.heap∧(a = X.env.locals∨X.env.cells.lookup x = some a))→Q () s') (hf:X.fn x = true∨X.env.scope.names.lookup x = some .local:=by first | xt .inl rfl | xt .inr rfl | assumption):wpAny M A (storeName X.env x u) Q E s:=by
 ob ⟨m,hn,hl⟩:=id I.loc
 have hcls:(X.env.scope.kind == .class || (X.env.scope.kind == .module && X.env.locals != X.env.globals)) = false:=by rw [I.ok.kind]; rfl
 have hiσ : i < σ.length:=by rw [I.len]; xt (List.getElem?_eq_some_iff.mp hi).1
 have Xf:=I.Xf
 have tracked:∀ {a:Addr} {h':Heap},(∃ o,s.heap.get? a = some o∧H a = none)→Heap.SameBut a s.heap h'→pW X.prog X.w H h':=fun {a h'} ha hs b ob e=>by
  ob ⟨_,_,hfree⟩:=ha
  rf (I.hok b ob e).stay (fun c w' hc q=>(hs.2 c ?_).trans q) (fun _ q=>q) fun _ _ q=>q
  rintro rfl
  rcases hc with rfl | hc
  ·rw [hfree] at e; cases e
  ·rw [hfree] at hc; cases hc
 rcases hx with hk | hk
 ·rf wpAny_storeName_local hk hn (fun h' hn' hs=>?_) hcls
  ob ⟨oL,_,_,hoL,_⟩:=id hn
  rf h _ ⟨I.ok,I.os,I.bare,⟨fun b o e n hb hx=>?_,fun b o e n hb hx=>?_,I.base.free,fun b o e hx=>?_,I.base.tups,I.base.xm,I.base.wH⟩,⟨_,hn',fun j y v' e1 e2 e3=>?_⟩,fun y c e=>?_,I.free,I.lQ,fun p hp=>?_,tracked ⟨oL,hoL,I.free⟩ hs,by simpa using I.len⟩ ⟨_,hs,.inl rfl⟩
  ·xt (hs.2 b (Nat.ne_of_lt (Nat.lt_of_lt_of_le (Heap.lt_size e) I.ok.above))).trans (I.base.keep b o e n hb hx)
  ·ob ⟨sl,e1⟩:=I.base.slot b o e n hb hx
   xt ⟨sl,(hs.2 b (Nat.ne_of_lt (Nat.lt_of_lt_of_le (Heap.lt_size e) I.ok.above))).trans e1⟩
  ·ob ⟨o',e1⟩:=I.base.there b o e hx
   xt ⟨o',(hs.2 b (Nat.ne_of_lt (Nat.lt_of_lt_of_le (Heap.lt_size e) I.ok.above))).trans e1⟩
  ·by_cases hj:j = i
   ·subst hj
    rw [hi] at e1; cases e1
    rw [List.getElem?_set_self hiσ] at e2
    cases e2
    xt ⟨u,r,.inl ⟨hk,by simp⟩⟩
   ·rw [List.getElem?_set_ne (Ne.symm hj)] at e2
    ob ⟨u',r',q⟩:=hl j y v' e1 e2 e3
    rf ⟨u',r',?_⟩
    rcases q with ⟨k,e⟩ | ⟨k,c,e,z⟩
    ·rf .inl ⟨k,?_⟩
     have:y≠x:=fun e=>hj (z8 hN e1 (e ▸ hi))
     simp [this,e]
    ·xt .inr ⟨k,c,e,z.sameBut hs (Xf y c e)⟩
  ·ob ⟨w',z⟩:=I.cell y c e
   xt ⟨w',z.sameBut hs (Xf y c e)⟩
  ·ob ⟨e,n,ne,nf,d⟩:=I.pin p hp
   xt ⟨(hs.2 p.1 ne).trans e,n,ne,nf,d⟩
 ·have hfn:X.fn x = true:=by
   rcases hf with z | z
   ·xt z
   ·rw [z] at hk; cases hk
  ob ⟨c,hc⟩:=I.ok.has x (.inl hk)
  ob ⟨w',z⟩:=I.cell x c hc
  rf wpAny_storeName_cell I.ok.kind hk hc z (fun h' hc' hs=>?_)
  ob ⟨oc,hoc,adZ⟩:=id z
  rf h { s with heap:=h' } ⟨I.ok,I.os,I.bare,⟨fun b o e n hb hx=>?_,fun b o e n hb hx=>?_,I.base.free,fun b o e hx=>?_,I.base.tups,I.base.xm,I.base.wH⟩,⟨m,hn.sameBut hs (Ne.symm (Xf x c hc)),fun j y v' e1 e2 e3=>?_⟩,fun y c' e=>?_,I.free,I.lQ,fun p hp=>?_,tracked ⟨oc,hoc,I.lQ x c hc⟩ hs,by simpa using I.len⟩ ⟨c,hs,.inr hc⟩
  ·xt (hs.2 b (Nat.ne_of_lt (Nat.lt_of_lt_of_le (Heap.lt_size e) (I.ok.cab x c hfn hc)))).trans (I.base.keep b o e n hb hx)
  ·ob ⟨sl,e1⟩:=I.base.slot b o e n hb hx
   xt ⟨sl,(hs.2 b (Nat.ne_of_lt (Nat.lt_of_lt_of_le (Heap.lt_size e) (I.ok.cab x c hfn hc)))).trans e1⟩
  ·ob ⟨o',e1⟩:=I.base.there b o e hx
   xt ⟨o',(hs.2 b (Nat.ne_of_lt (Nat.lt_of_lt_of_le (Heap.lt_size e) (I.ok.cab x c hfn hc)))).trans e1⟩
  ·by_cases hj:j = i
   ·subst hj
    rw [hi] at e1; cases e1
    rw [List.getElem?_set_self hiσ] at e2
    cases e2
    xt ⟨u,r,.inr ⟨.inl hk,c,hc,hc'⟩⟩
   ·rw [List.getElem?_set_ne (Ne.symm hj)] at e2
    ob ⟨u',r',q⟩:=hl j y v' e1 e2 e3
    rf ⟨u',r',?_⟩
    rcases q with q | ⟨k,c',e,z'⟩
    ·xt .inl q
    ·rf .inr ⟨k,c',e,z'.sameBut hs ?_⟩
     rintro rfl
     xt hj (z8 hN e1 (I.ok.inj _ _ _ e hc ▸ hi))
  ·by_cases hcc:c' = c
   ·subst hcc; xt ⟨_,hc'⟩
   ·ob ⟨w2,z2⟩:=I.cell y c' e
    xt ⟨w2,z2.sameBut hs hcc⟩
  ·ob ⟨e,n,ne,nf,d⟩:=I.pin p hp
   rf ⟨(hs.2 p.1 ?_).trans e,n,ne,nf,d⟩
   intro q
   rw [q,hoc] at e
   have q':oc = p.2:=Option.some.inj e
   xt d w' (by rw [← q']; xt adZ)
theorem vq {M:Model} {A:Around} {E:Value→Shared→Prop} {i:Nat} {x:Str} {v:V} {u:Value} {Q:Unit→Shared→Prop} (I:Inv X pins σ H s) (hN:X.N.Nodup) (hi:X.N[i]? = some x) (hx:Loc X.env.scope x) (r:RelV v u)
 (h:∀ s',Inv X pins (σ.set i (some v)) H s'→Q () s') (hf:X.fn x = true∨X.env.scope.names.lookup x = some .local:=by first | xt .inl rfl | xt .inr rfl | assumption):wpAny M A (storeName X.env x u) Q E s :=
 Cj I hN hi hx r (fun s' I' _=>h s' I') hf
theorem Inv.call' {s':Shared} {ch:List Addr} (I:Inv X pins σ H s) (ho:s'.os = s.os) (u:Un (frs X.stack) ch H H' s.heap s'.heap) (hok:pW X.prog X.w H' s'.heap) (hg:AllBare s'.gens)
 (hch:∀ b∈ch,(b∈X.ex∨X.s₀.heap.objs.size≤b)∧b≠X.env.locals∧(∀ x c,X.env.cells.lookup x = some c→c≠b)∧∀ p∈X.pn ++ pins,p.1≠b):Inv X pins σ H' s':=by
 ob ⟨h',g',d',t',o'⟩:=s'
 have e:o' = s.os:=ho
 subst e
 xt I.call (g':=g') (t':=t') (d':=d') u hok hg hch
end
abbrev XK:=Value→Option Addr→Hp→Prop
abbrev St:=List (Option V)
abbrev VK:=V→Hp→Prop
abbrev TE:=St→Hp→VK→Prop
abbrev TT:=St→Hp→(Bool→Hp→Prop)→Prop
abbrev TA:=St→Hp→(List V→Hp→Prop)→Prop
structure Ends where
 nx:St→Hp→Prop
 rt:VK
 bk:St→Hp→Prop:=fun _ _=>False
 ct:St→Hp→Prop:=fun _ _=>False
abbrev TS:=Ends→St→Hp→Prop
def EP (X:Cx) (pins:List (Addr×Obj)) (σ : St) (Q:VK) (u:Value) (s':Shared):Prop:=∃ v H',Inv X pins σ H' s'∧RelV v u∧Q v H'
def TP (X:Cx) (pins:List (Addr×Obj)) (σ : St) (Q:Bool→Hp→Prop) (b:Bool) (s':Shared):Prop:=∃ H',Inv X pins σ H' s'∧Q b H'
def AP (X:Cx) (pins:List (Addr×Obj)) (σ : St) (Q:List V→Hp→Prop) (us:List Value) (s':Shared):Prop:=∃ vs H',Inv X pins σ H' s'∧Vals vs us∧Q vs H'
def SP (X:Cx) (pins:List (Addr×Obj)) (D:Ends) (f:Flow) (s':Shared):Prop :=
 match f with
 | .next=>∃ σ' H',Inv X pins σ' H' s'∧D.nx σ' H'
 | .brk=>∃ σ' H',Inv X pins σ' H' s'∧D.bk σ' H'
 | .cont=>∃ σ' H',Inv X pins σ' H' s'∧D.ct σ' H'
 | .ret u=>∃ v σ' H',Inv X pins σ' H' s'∧RelV v u∧D.rt v H'
def PE (X:Cx) (e:Expr) (t:TE):Prop :=
 ∀ (pins:List (Addr×Obj)) (s:Shared) (σ : St) (H:Hp) (Q:VK),Inv X pins σ H s→t σ H Q→wpAny (model X.prog X.w) X.A (eval e X.env) (EP X pins σ Q) X.xe s
def PT (X:Cx) (e:Expr) (t:TT):Prop :=
 ∀ (pins:List (Addr×Obj)) (s:Shared) (σ : St) (H:Hp) (Q:Bool→Hp→Prop),Inv X pins σ H s→t σ H Q→wpAny (model X.prog X.w) X.A (isTrue e X.env (eval e X.env)) (TP X pins σ Q) X.xe s
def PW (X:Cx) (e:Expr) (t:TT):Prop :=
 ∀ (whole:Sem Value) (pins:List (Addr×Obj)) (s:Shared) (σ : St) (H:Hp) (Q:Bool→Hp→Prop),Inv X pins σ H s→t σ H Q→wpAny (model X.prog X.w) X.A (isTrue e X.env whole) (TP X pins σ Q) X.xe s
theorem PW.pt {X:Cx} {e:Expr} {t:TT} (h:PW X e t):PT X e t:=h _
def PA (X:Cx) (es:List Expr) (t:TA):Prop :=
 ∀ (pos:Pos) (pins:List (Addr×Obj)) (s:Shared) (σ : St) (H:Hp) (Q:List V→Hp→Prop),Inv X pins σ H s→t σ H Q→wpAny (model X.prog X.w) X.A (spliced (backTo pos (starEach es X.env))) (AP X pins σ Q) X.xe s
def PS (X:Cx) (st:Stmt) (t:TS):Prop :=
 ∀ (pins:List (Addr×Obj)) (s:Shared) (σ : St) (H:Hp) (D:Ends),Inv X pins σ H s→t D σ H→wpAny (model X.prog X.w) X.A (exec st X.env) (SP X pins D) X.xe s
def GX (X:Cx) (st:List Stmt) (t:TS):Prop :=
 ∀ (pins:List (Addr×Obj)) (s:Shared) (σ : St) (H:Hp) (D:Ends),Inv X pins σ H s→t D σ H→wpAny (model X.prog X.w) X.A (execs st X.env) (SP X pins D) X.xe s
theorem dY {α : Type} {t:Sem α} {Q Q':α→Shared→Prop} {M:Model} {A:Around} {E:Value→Shared→Prop} {s:Shared} (h:wpAny M A t Q E s) (hQ:∀ a s,Q a s→Q' a s):wpAny M A t Q' E s:=wpAny_mono h hQ fun _ _ x=>x
end L2
namespace L2
open PySem PySem.Spec PyProof.Rows
section
variable {X:Cx}
def uG (i:Nat):TE:=fun σ H Q=>∃ v,σ[i]? = some (some v)∧Q v H
def tC (v:V):TE:=fun _ H Q=>Q v H
theorem Zv {i:Nat} {x:Str} {pos:Pos} (hN:X.N[i]? = some x) (hv:Vis X.env.scope x) (hd:(x == ("__debug__" : Str)) = false:=by decide) (hcd:(x == ("__classdict__" : Str)) = false:=by decide):PE X (.Name x pos) (uG i):=by
 intro pins s σ H Q I h
 ob ⟨v,e,h⟩:=h
 ob ⟨m,hn,hl⟩:=I.loc
 ob ⟨u,r,l⟩:=hl i x v hN e hv
 have fin:EP X pins σ Q u s:=⟨v,H,I,r,h⟩
 rcases l with ⟨hk,hm⟩ | ⟨hk,c,hc,hcell⟩
 ·xt wpAny_Name (wpAny_loadName_local I.ok.kind hk hn hm fin) hd
 ·rcases hk with hk | hk
  ·xt wpAny_Name (wpAny_loadName_cell I.ok.kind hk hc hcell fin) hd
  ·xt wpAny_Name (wpAny_loadName_free I.ok.kind hk hc hcell fin hcd) hd
theorem aH {i j pos}:PE X (.Constant (.int i) j pos) (tC (.int i)):=fun _ _ _ H _ I h=>wpAny_Constant_int ⟨.int i,H,I.tok _,⟨_,rfl⟩,h⟩
theorem uw {b j pos}:PE X (.Constant (.bool b) j pos) (tC (.bl b)):=fun _ _ _ H _ I h=>Constant_bool ⟨.bl b,H,I,rfl,h⟩
theorem RW {j pos}:PE X (.Constant .none j pos) (tC .non):=fun _ _ _ H _ I h=>Constant_none ⟨.non,H,I,rfl,h⟩
theorem jm {x j pos}:PE X (.Constant (.str x) j pos) (tC (.str x)):=fun _ _ _ H _ I h=>Calls.Constant_str ⟨.str x,H,I.tok _,⟨_,rfl⟩,h⟩
def Gl (X:Cx) (x:Str):Prop:=X.env.kindOf x = some .globalImplicit
theorem tW {E:Value→Shared→Prop} {pins:List (Addr×Obj)} {s:Shared} {σ : St} {H:Hp} {x:Str} {u:Value} {pos:Pos} {Q:Value→Shared→Prop} (I:Inv X pins σ H s) (hg:Gl X x) (hm:X.mg x = some u) (h:Q u s)
 (hd:(x == ("__debug__" : Str)) = false:=by decide):wpAny (model X.prog X.w) X.A (eval (.Name x pos) X.env) Q E s :=
 Calls.Name_function_global I.ok.kind hg (Calls.loadGlobal_global (by rw [I.ok.glob]; xt I.mod.glob.keeps I.bk) hm h) hd
theorem uP {E:Value→Shared→Prop} {pins:List (Addr×Obj)} {s:Shared} {σ : St} {H:Hp} {x:Str} {u:Value} {pos:Pos} {Q:Value→Shared→Prop} (I:Inv X pins σ H s) (hg:Gl X x) (hm:X.mg x = none) (hv:bootBuiltins x = some u) (h:Q u s)
 (hn:x ≠ "__name__" := by decide) (hd:(x == ("__debug__" : Str)) = false:=by decide):wpAny (model X.prog X.w) X.A (eval (.Name x pos) X.env) Q E s:=by
 ob ⟨mb,h1,h2⟩:=I.mod.blt
 xt Calls.Name_function_global I.ok.kind hg (Calls.loadGlobal_builtin (by rw [I.ok.glob]; xt I.mod.glob.keeps I.bk) hm (by rw [I.ok.blt]; xt h1.keeps I.bk) ((h2 x hn).trans hv) h) hd
theorem eQ {x:Str} {v:V} {u:Value} {pos:Pos} (hg:Gl X x) (hm:X.mg x = some u) (r:RelV v u) (hd:(x == ("__debug__" : Str)) = false:=by decide):PE X (.Name x pos) (tC v) :=
 fun _ _ _ H _ I h=>tW I hg hm ⟨v,H,I,r,h⟩ hd
theorem Wh {x:Str} {v:V} {u:Value} {pos:Pos} (hg:Gl X x) (hm:X.mg x = none) (hv:bootBuiltins x = some u) (r:RelV v u) (hn:x ≠ "__name__" := by decide) (hd:(x == ("__debug__" : Str)) = false:=by decide):PE X (.Name x pos) (tC v) :=
 fun _ _ _ H _ I h=>uP I hg hm hv ⟨v,H,I,r,h⟩ hn hd
variable {a b:Expr} {ta tb:TE} {pos:Pos}
def PC (X:Cx) (op:CmpOp) (a b:Expr) (t:TE):Prop :=
 ∀ (pins:List (Addr×Obj)) (s:Shared) (σ : St) (H:Hp) (Q:VK),Inv X pins σ H s→t σ H Q →
  wpAny (model X.prog X.w) X.A (eval a X.env) (fun v s₁=>wpAny (model X.prog X.w) X.A (eval b X.env) (fun u s₂=>wpAny (model X.prog X.w) X.A (compareOp op v u) (EP X pins σ Q) X.xe s₂) X.xe s₁) X.xe s
def tB (t:TE):TT:=fun σ H Q=>t σ H fun x H1=>∃ c,x = .bl c∧Q c H1
theorem RK {op:CmpOp} {t:TE} (h:PC X op a b t) (h1:behindInMarks op b = false:=by first | xt ab4 _ δ δ | rfl):PT X (.Compare a [op] [b] pos) (tB t):=by
 intro pins s σ H Q I hw
 rf wpAny_isTrue_Compare1 (dY (h pins s σ H _ I hw) fun v s1 h1=>dY h1 fun u s2 h2=>dY h2 fun c s3 ⟨x,H1,I1,r1,q1⟩=>?_) h1
 ob ⟨d,rfl,q⟩:=q1
 cases r1
 xt wpAny_truthy_bool ⟨H1,I1,q⟩
theorem jj {e:Expr} {t:TE} (h:PE X e t) (he:∀ whole,isTrue e X.env whole = (do let v ← whole; standAt e.pos; holding [v] (truthy v)):=by intro _; rfl):PT X e (tB t):=by
 intro pins s σ H Q I hw
 rf isTrue_plain (dY (h pins s σ H _ I hw) fun v s1 ⟨x,H1,I1,r1,q1⟩=>?_) (he _)
 ob ⟨d,rfl,q⟩:=q1
 cases r1
 xt wpAny_truthy_bool ⟨H1,I1,q⟩
variable {tA tB':TT} {rest:List Expr}
def abi (t u:TT):TT:=fun σ H Q=>t σ H fun c H1=>if c = true then u σ H1 Q else Q false H1
def tOr (t u:TT):TT:=fun σ H Q=>t σ H fun c H1=>if c = true then Q true H1 else u σ H1 Q
def abb (t:TT):TT:=fun σ H Q=>t σ H fun c H1=>Q (!c) H1
theorem pw_and1 (ha:PT X a tA):PW X (.BoolOp .And [a] pos) tA:=by
 intro wh pins s σ H Q I h
 rf isTrue_and (dY (ha pins s σ H Q I h) fun c s1 e=>?_)
 cases c with
 | true=>xt isTrue_and_nil e
 | false=>xt e
theorem pw_or1 (ha:PT X a tA):PW X (.BoolOp .Or [a] pos) tA:=by
 intro wh pins s σ H Q I h
 rf isTrue_or (dY (ha pins s σ H Q I h) fun c s1 e=>?_)
 cases c with
 | false=>xt isTrue_or_nil e
 | true=>xt e
theorem pw_and (ha:PT X a tA) (hb:PW X (.BoolOp .And (b :: rest) pos) tB'):PW X (.BoolOp .And (a :: b :: rest) pos) (abi tA tB'):=by
 intro wh pins s σ H Q I h
 rf isTrue_and (dY (ha pins s σ H _ I h) fun c s1 ⟨H1,I1,q1⟩=>?_)
 cases c with
 | true=>xt hb wh pins s1 σ H1 Q I1 q1
 | false=>xt ⟨H1,I1,q1⟩
theorem pw_or (ha:PT X a tA) (hb:PW X (.BoolOp .Or (b :: rest) pos) tB'):PW X (.BoolOp .Or (a :: b :: rest) pos) (tOr tA tB'):=by
 intro wh pins s σ H Q I h
 rf isTrue_or (dY (ha pins s σ H _ I h) fun c s1 ⟨H1,I1,q1⟩=>?_)
 cases c with
 | true=>xt ⟨H1,I1,q1⟩
 | false=>xt hb wh pins s1 σ H1 Q I1 q1
theorem rW (ha:PT X a tA):PT X (.UnaryOp .Not a pos) (abb tA):=by
 intro pins s σ H Q I h
 xt isTrue_not (ha pins s σ H (fun c H1=>Q (!c) H1) I h)
def X3 (ta tb:TE):TE:=fun σ H Q=>ta σ H fun x H1=>∃ c,x = .bl c∧if c = true then tb σ H1 Q else Q (.bl false) H1
theorem J5 {op} {t:TE} (h:PE X a t):PE X (.BoolOp op [a] pos) t:=fun pins s σ H Q I hw=>BoolOp_one (h pins s σ H Q I hw)
theorem J6 (ha:PE X a ta) (hb:PE X (.BoolOp .And (b :: rest) pos) tb):PE X (.BoolOp .And (a :: b :: rest) pos) (X3 ta tb):=by
 intro pins s σ H Q I h
 rf BoolOp_and (dY (ha pins s σ H _ I h) fun v s1 ⟨x,H1,I1,r1,q1⟩=>?_)
 ob ⟨c,rfl,q1⟩:=q1
 cases r1
 rf wpAny_truthy_bool ?_
 cases c with
 | true=>xt hb pins s1 σ H1 Q I1 q1
 | false=>xt ⟨.bl false,H1,I1,rfl,q1⟩
end
end L2
namespace L2
open PySem PySem.Spec PyProof.Rows
def uY (K:Φ) (H:Hp) (a:Addr) (xs:List V):Prop :=
 Rd H a (.lst xs) ∨
  ∃ (o:Obj) (its:Array Value) (n:Nat),K.lookup a = some o∧o.cls = .type "list" ∧ o.dict = none∧o.data = .seq its n∧its.size≤sizeLine∧Vals xs its.toList
def yR (K:Φ) (H:Hp) (a:Addr) (xs:List V):Prop :=
 Rd H a (.tup xs) ∨
  ∃ (o:Obj) (its:Array Value) (n:Nat),K.lookup a = some o∧o.cls = .type "tuple" ∧ o.data = .seq its n∧its.size≤sizeLine∧Vals xs its.toList
def aes:Value→Option V
 | .none=>some .non
 | .bool b=>some (.bl b)
 | .int i _=>some (.int i)
 | .str x _=>some (.str x)
 | .bytes b _=>some (.byt b)
 | .float b _=>some (.flt b)
 | .ref a=>some (.ref a)
 | .type n=>some (.ty n)
 | _=>none
theorem RelV.abs {x:V} {u:Value} (r:RelV x u):aes u = some x:=by
 cases x with
 | non=>cases r; rfl
 | bl _=>cases r; rfl
 | int _=>ob ⟨t,rfl⟩:=r; rfl
 | str _=>ob ⟨t,rfl⟩:=r; rfl
 | byt _=>ob ⟨t,rfl⟩:=r; rfl
 | flt _=>ob ⟨t,rfl⟩:=r; rfl
 | ref _=>cases r; rfl
 | ty _=>cases r; rfl
theorem RelV.inj {x y:V} {u:Value} (r:RelV x u) (q:RelV y u):x = y:=Option.some.inj (r.abs.symm.trans q.abs)
theorem Vals.inj:∀ {xs ys:List V} {us:List Value},Vals xs us→Vals ys us→xs = ys
 | _,_,_,.nil,.nil=>rfl
 | _,_,_,.cons r t,.cons r' t'=>by rw [r.inj r',Vals.inj t t']
section
variable {X:Cx} {pins:List (Addr×Obj)} {σ : St} {H:Hp} {s:Shared} {a:Addr} {xs ys:List V}
theorem Inv.list (I:Inv X pins σ H s) (h:uY X.K H a xs):∃ its:List Value,Vals xs its∧PlainL s.heap a its.toArray∧xs.length≤sizeLine:=by
 rcases h with h | ⟨o,its,n,hk,hc,hd,hs,hz,r⟩
 ·ob ⟨z,its,n,r,e⟩:=h.ok I.hok
  xt ⟨its,r,⟨_,n,e,rfl,rfl,rfl⟩,z⟩
 ·rf ⟨its.toList,r,⟨o,n,I.yw a o hk,hc,hd,by simpa using hs⟩,?_⟩
  have e:=r.length
  simp only [Array.length_toList] at e
  omega
theorem Inv.tuple (I:Inv X pins σ H s) (h:yR X.K H a xs):∃ its:List Value,Vals xs its∧IsTup s.heap a its.toArray∧xs.length≤sizeLine:=by
 rcases h with h | ⟨o,its,n,hk,hc,hs,hz,r⟩
 ·ob ⟨z,its,r,p⟩:=h.ok I.hok
  xt ⟨its,r,p.tup,z⟩
 ·rf ⟨its.toList,r,⟨o,I.yw a o hk,hc,n,by simpa using hs⟩,?_⟩
  have e:=r.length
  simp only [Array.length_toList] at e
  omega
theorem Inv.vN (I:Inv X pins σ H s) (h:uY X.K H a xs) (h':uY X.K H a ys):xs = ys:=by
 ob ⟨its,r,⟨o,n,e,_,_,d⟩,_⟩:=I.list h
 ob ⟨its',r',⟨o',n',e',_,_,d'⟩,_⟩:=I.list h'
 rw [e] at e'; cases e'
 rw [d] at d'
 injection d' with d1 _
 have:its = its':=by simpa using congrArg Array.toList d1
 subst this
 xt r.inj r'
theorem Inv.wF (I:Inv X pins σ H s) (h:yR X.K H a xs) (h':yR X.K H a ys):xs = ys:=by
 ob ⟨its,r,⟨o,e,_,n,d⟩,_⟩:=I.tuple h
 ob ⟨its',r',⟨o',e',_,n',d'⟩,_⟩:=I.tuple h'
 rw [e] at e'; cases e'
 rw [d] at d'
 injection d' with d1 _
 have:its = its':=by simpa using congrArg Array.toList d1
 subst this
 xt r.inj r'
end
abbrev Cx.wish (X:Cx) (E:Value→Shared→Prop):Cx:={ X with xe:=E }
abbrev Cx.nox (X:Cx):Cx:=X.wish fun _ _=>False
theorem Cx.Ok.wish {X:Cx} (ok:X.Ok) (E:Value→Shared→Prop):(X.wish E).Ok :=
 ⟨ok.mod,ok.kind,ok.glob,ok.blt,ok.above,ok.inj,ok.has,ok.cab,ok.hd,ok.frames,ok.stk,ok.exf,ok.bs,ok.bsz,ok.Ko,ok.PL,ok.sI,ok.frf⟩
theorem Cx.Ok.rB {X:Cx} {E:Value→Shared→Prop} (ok:(X.wish E).Ok):X.Ok :=
 ⟨ok.mod,ok.kind,ok.glob,ok.blt,ok.above,ok.inj,ok.has,ok.cab,ok.hd,ok.frames,ok.stk,ok.exf,ok.bs,ok.bsz,ok.Ko,ok.PL,ok.sI,ok.frf⟩
section
variable {X:Cx} {pins:List (Addr×Obj)} {σ : St} {H:Hp} {s:Shared} {E:Value→Shared→Prop}
theorem Inv.wish (I:Inv X pins σ H s) (E:Value→Shared→Prop):Inv (X.wish E) pins σ H s:=⟨I.ok.wish E,I.os,I.bare,I.base,I.loc,I.cell,I.free,I.lQ,I.pin,I.hok,I.len⟩
theorem Inv.rB (I:Inv (X.wish E) pins σ H s):Inv X pins σ H s:=⟨I.ok.rB,I.os,I.bare,I.base,I.loc,I.cell,I.free,I.lQ,I.pin,I.hok,I.len⟩
theorem SP.rB {D:Ends} {f:Flow} {s':Shared} (h:SP (X.wish E) pins D f s'):SP X pins D f s':=by
 cases f with
 | next=>ob ⟨σ',H',I,q⟩:=h; xt ⟨σ',H',I.rB,q⟩
 | brk=>ob ⟨σ',H',I,q⟩:=h; xt ⟨σ',H',I.rB,q⟩
 | cont=>ob ⟨σ',H',I,q⟩:=h; xt ⟨σ',H',I.rB,q⟩
 | ret u=>ob ⟨v,σ',H',I,r,q⟩:=h; xt ⟨v,σ',H',I.rB,r,q⟩
theorem GX.nox {st:List Stmt} {t:TS} (h:GX X.nox st t):GX X st t:=fun pins s σ H D I hw =>
 wpAny_mono (h pins s σ H D (I.wish _) hw) (fun _ _ q=>q.rB) fun _ _ z=>False.elim z
end
section
variable {X:Cx} {st:Stmt} {rest:List Stmt} {t u:TS} {e:Expr} {te:TE} {pos:Pos}
def XX:TS:=fun D σ H=>D.nx σ H
def Y8 (t u:TS):TS:=fun D σ H=>t { D with nx:=u D } σ H
theorem bu:GX X [] XX:=fun _ _ σ H _ I h=>wpAny_execs_nil ⟨σ,H,I,h⟩
theorem az (h1:PS X st t) (h2:GX X rest u):GX X (st :: rest) (Y8 t u):=by
 intro pins s σ H D I h
 rf wpAny_execs_cons (dY (h1 pins s σ H { D with nx:=u D } I h) fun f s1 q=>?_)
 cases f with
 | next =>
  ob ⟨σ',H',I',q⟩:=q
  xt h2 pins s1 σ' H' D I' q
 | ret v=>xt q
 | brk=>xt q
 | cont=>xt q
theorem aF (h1:PS X st t):GX X [st] t:=by
 intro pins s σ H D I h
 rf wpAny_execs_cons (dY (h1 pins s σ H D I h) fun f s1 q=>?_)
 cases f with
 | next=>xt wpAny_execs_nil q
 | ret v=>xt q
 | brk=>xt q
 | cont=>xt q
theorem Inv.quiet {pins:List (Addr×Obj)} {σ : St} {H:Hp} {s:Shared} (I:Inv X pins σ H s):interactive X.env = false:=by simp [interactive,I.ok.kind]
def G9 (te:TE):TS:=fun D σ H=>te σ H fun _ H1=>D.nx σ H1
theorem dH (he:PE X e te) (hs:swapsWith e none pos.line X.env = pure false:=by rfl):PS X (.Expr e pos) (G9 te):=by
 intro pins s σ H D I h
 xt wpAny_Expr_any (dY (he pins s σ H _ I h) fun v s1 ⟨x,H1,I1,r1,q1⟩=>⟨σ,H1,I1,q1⟩) I.quiet hs
def VN (te:TE):TS:=fun D σ H=>te σ H D.rt
theorem bK (he:PE X e te):PS X (.Return (some e) pos) (VN te):=by
 intro pins s σ H D I h
 xt wpAny_Return_some (dY (he pins s σ H _ I h) fun v s1 ⟨x,H1,I1,r1,q1⟩=>⟨x,σ,H1,I1,r1,q1⟩)
def Y9 (c:TT) (t u:TS):TS:=fun D σ H=>c σ H fun b H1=>if b = true then t D σ H1 else u D σ H1
theorem cF {c:Expr} {a b:List Stmt} {tc:TT} (hc:PT X c tc) (ha:GX X a t) (hb:GX X b u):PS X (.If c a b pos) (Y9 tc t u):=by
 intro pins s σ H D I h
 rf wpAny_If (dY (hc pins s σ H _ I h) fun d s1 ⟨H1,I1,q1⟩=>?_)
 cases d with
 | true=>xt ha pins s1 σ H1 D I1 q1
 | false=>xt hb pins s1 σ H1 D I1 q1
def Q9:TS:=fun _ _ _=>False
theorem jF:PS X st Q9:=fun _ _ _ _ _ _ h=>h.elim
end
abbrev TG:=V→St→Hp→(St→Hp→Prop)→Prop
abbrev QD:=List V→St→Hp→(St→Hp→Prop)→Prop
def PG (X:Cx) (target:Expr) (t:TG):Prop :=
 ∀ (pins:List (Addr×Obj)) (s:Shared) (σ : St) (H:Hp) (v:V) (u:Value) (Q:St→Hp→Prop),Inv X pins σ H s→RelV v u→t v σ H Q →
  wpAny (model X.prog X.w) X.A (assign target X.env u) (fun _ s'=>∃ σ' H',Inv X pins σ' H' s'∧Q σ' H') X.xe s
def Vs (X:Cx) (ts:List Expr) (t:QD):Prop :=
 ∀ (pins:List (Addr×Obj)) (s:Shared) (σ : St) (H:Hp) (vs:List V) (us:List Value) (Q:St→Hp→Prop),Inv X pins σ H s→Vals vs us→t vs σ H Q →
  wpAny (model X.prog X.w) X.A (assignInOrder ((assignEach ts X.env).map (·.2)) us) (fun _ s'=>∃ σ' H',Inv X pins σ' H' s'∧Q σ' H') X.xe s
abbrev aaP:=V→V→V→Hp→(Hp→Prop)→Prop
def acV (X:Cx) (t:aaP):Prop :=
 ∀ (pins:List (Addr×Obj)) (s:Shared) (σ : St) (H:Hp) (o i v:V) (ov iv u:Value) (Q:Hp→Prop),Inv X pins σ H s→RelV o ov→RelV i iv→RelV v u→t o i v H Q →
  wpAny (model X.prog X.w) X.A (setItem ov iv u) (fun _ s'=>∃ H',Inv X pins σ H' s'∧Q H') X.xe s
section
variable {X:Cx} {pos:Pos}
def qK (i:Nat):TG:=fun v σ H Q=>Q (σ.set i (some v)) H
theorem bf {i:Nat} {x:Str} (hN:X.N.Nodup) (hi:X.N[i]? = some x) (hx:Loc X.env.scope x) (hf:X.fn x = true∨X.env.scope.names.lookup x = some .local:=by first | xt .inl rfl | xt .inr rfl | assumption):PG X (.Name x pos) (qK i):=by
 intro pins s σ H v u Q I r h
 xt wpAny_assign_Name (vq I hN hi hx r (fun s' I'=>⟨_,H,I',h⟩) hf)
def T7:QD:=fun vs σ H Q=>vs = []∧Q σ H
def Io (t:TG) (u:QD):QD:=fun vs σ H Q=>∃ v r,vs = v :: r∧t v σ H fun σ' H'=>u r σ' H' Q
theorem lV:Vs X [] T7:=by
 intro pins s σ H vs us Q I r h
 ob ⟨e,h⟩:=h
 subst e
 cases r
 xt assignInOrder_nil ⟨σ,H,I,h⟩
theorem cM {e:Expr} {es:List Expr} {t:TG} {u:QD} (h1:PG X e t) (h2:Vs X es u)
 (hs:(assignEach (e :: es) X.env).map (·.2) = assign e X.env :: (assignEach es X.env).map (·.2):=by rfl):Vs X (e :: es) (Io t u):=by
 intro pins s σ H vs us Q I r h
 ob ⟨v,vr,e1,h⟩:=h
 subst e1
 cases r with
 | cons r rr =>
  rw [hs]
  rf assignInOrder_cons (dY (h1 pins s σ H _ _ _ I r h) fun _ s1 ⟨σ1,H1,I1,q1⟩=>?_)
  xt h2 pins s1 σ1 H1 _ _ Q I1 rr q1
def aal (K:Φ) (n:Nat) (t:QD):TG:=fun v σ H Q=>∃ a xs,v = .ref a∧yR K H a xs∧xs.length = n∧t xs σ H Q
theorem qg {es:List Expr} {k:Nat} {t:QD} {n:Nat} (hc:X.calm = true) (h:Vs X es t)
 (hn:(assignEach es X.env).length = n:=by rfl) (hst:(assignEach es X.env).findIdx? (·.1) = none:=by rfl):PG X (.Tuple es k pos) (aal X.K n t):=by
 intro pins s σ H v u Q I r hw
 ob ⟨a,xs,e1,hq,hl,hw⟩:=hw
 subst e1
 cases r
 ob ⟨its,rv,ht,hz⟩:=I.tuple hq
 rf assign_Tuple_tuple (I.ok.hd hc) ht (by simp [hn,← hl,rv.length]) hst fun h' hx=>?_
 have I1:Inv X pins σ H { s with heap:=h' }:=I.kept (t':=s.toks) fun b o e=>hx b o (Nat.ne_of_lt (Heap.lt_size e)) e
 xt h pins _ σ H xs _ Q I1 (by simpa using rv) hw
def acC (to ti:TE) (t:aaP):TG:=fun v σ H Q=>to σ H fun o H1=>ti σ H1 fun i H2=>t o i v H2 fun H3=>Q σ H3
theorem RT {o i:Expr} {to ti:TE} {t:aaP} (ho:PE X o to) (hi:PE X i ti) (hs:acV X t)
 (ha:∀ v,assign (.Subscript o i pos) X.env v = (do
  let ov ← holding [v] (eval o X.env)
  let iv ← holding [v,ov] (eval i X.env)
  standAt pos
  holding [v,ov,iv] (setItem ov iv v)
  release [v,ov,iv] []):=by intro _; rfl):PG X (.Subscript o i pos) (acC to ti t):=by
 intro pins s σ H v u Q I r h
 rw [ha]
 rf wpAny_bind (wpAny_holding (dY (ho pins s σ H _ I h) fun ov s1 ⟨x,H1,I1,r1,q1⟩=>?_))
 rf wpAny_bind (wpAny_holding (dY (hi pins s1 σ H1 _ I1 q1) fun iv s2 ⟨y,H2,I2,r2,q2⟩=>?_))
 rf wpAny_bind (wpAny_standAt (wpAny_bind (wpAny_holding (dY (hs pins s2 σ H2 x y v ov iv u _ I2 r1 r2 r q2) fun _ s3 ⟨H3,I3,q3⟩=>?_))))
 xt wpAny_release ⟨σ,H3,I3,q3⟩
def Hb (te:TE) (g:TG):TS:=fun D σ H=>te σ H fun x H1=>g x σ H1 D.nx
theorem Ep {tg e:Expr} {te:TE} {g:TG} (he:PE X e te) (hg:PG X tg g) (hs:swapsWithSole [tg] e pos.line X.env = pure false:=by rfl) (hw:swappedStores [tg] e X.env = pure none:=by rfl)
 (h1:(assignEach [tg] X.env).map (·.2) = [assign tg X.env]:=by rfl):PS X (.Assign [tg] e pos) (Hb te g):=by
 intro pins s σ H D I h
 rf wpAny_Assign_stores (dY (he pins s σ H _ I h) fun v s1 ⟨x,H1,I1,r1,q1⟩=>?_) hs hw
 rw [h1]
 xt dY (hg pins s1 σ H1 x v _ I1 r1 q1) fun _ s2 q=>q
theorem bH {i:Nat} {x:Str} {e:Expr} {te:TE} {pos':Pos} (hN:X.N.Nodup) (hi:X.N[i]? = some x) (hx:Loc X.env.scope x) (he:PE X e te) (hs:swapsWith e (some (.Name x pos')) pos.line X.env = pure false:=by rfl) (hf:X.fn x = true∨X.env.scope.names.lookup x = some .local:=by first | xt .inl rfl | xt .inr rfl | assumption) :
 PS X (.Assign [.Name x pos'] e pos) (Hb te (qK i)):=by
 intro pins s σ H D I h
 rf wpAny_Assign_Name (dY (he pins s σ H _ I h) fun v s1 ⟨y,H1,I1,r1,q1⟩=>?_) hs
 xt vq I1 hN hi hx r1 (fun s2 I2=>⟨_,H1,I2,q1⟩) hf
end
section
variable {X:Cx} {pos:Pos}
def Q5 (c:TT) (tb:TS):TS:=fun D σ H=>∃ W:Nat→St→Hp→Prop,(∃ m,W m σ H)∧∀ m σ H,W m σ H →
 c σ H fun b H1=>if b = true then ∃ N:St→Hp→Prop,(∀ σ' H',N σ' H'→∃ m',m' < m∧W m' σ' H')∧tb { D with nx:=N,ct:=N,bk:=D.nx } σ H1 else D.nx σ H1
theorem RN {c:Expr} {body:List Stmt} {tc:TT} {tb:TS} (hp:PassesOwn (model X.prog X.w) X.A X.env X.xe) (hc:PT X c tc) (hb:GX X body tb):PS X (.While c body [] pos) (Q5 tc tb):=by
 intro pins s σ H D I h
 ob ⟨W,⟨m0,w0⟩,turn⟩:=h
 rf wpAny_While (codeAny_whileLoop (fun n s'=>∃ σ' H',Inv X pins σ' H' s'∧W n σ' H') ?_ m0 ⟨σ,H,I,w0⟩)
 rintro n s1 ⟨σ1,H1,I1,w1⟩
 rf wpAny_passesOwn hp (dY (hc pins s1 σ1 H1 _ I1 (turn n σ1 H1 w1)) fun b s2 ⟨H2,I2,q2⟩=>?_)
 cases b with
 | true =>
  ob ⟨N,hN,q2⟩:=q2
  rw [if_pos rfl]
  rf wpAny_passesOwn hp (dY (hb pins s2 σ1 H2 _ I2 q2) fun f s3 q3=>?_)
  cases f with
  | next =>
   ob ⟨σ3,H3,I3,n3⟩:=q3
   ob ⟨m',hm,w3⟩:=hN σ3 H3 n3
   xt ⟨m',hm,σ3,H3,I3,w3⟩
  | cont =>
   ob ⟨σ3,H3,I3,n3⟩:=q3
   ob ⟨m',hm,w3⟩:=hN σ3 H3 n3
   xt ⟨m',hm,σ3,H3,I3,w3⟩
  | brk=>xt q3
  | ret v=>xt q3
 | false =>
  rw [if_neg Bool.false_ne_true]
  xt wpAny_execs_nil ⟨σ1,H2,I2,q2⟩
end
structure It where
 go:Nat→Hp→Prop
 yld:Nat→Hp→V→Hp→Prop
 stop:Nat→Hp→Prop
def pU (X:Cx) (pins:List (Addr×Obj)) (H:Hp) (b:Addr):Prop :=
 H b = none∧b≠X.env.locals∧b∉X.fs∧(b∈X.ex∨X.s₀.heap.objs.size≤b)∧(∀ x c,X.env.cells.lookup x = some c→c≠b)∧∀ p∈X.pn ++ pins,p.1≠b
theorem Inv.uR {X:Cx} {pins:List (Addr×Obj)} {σ : St} {H H':Hp} {s:Shared} {b:Addr} (I:Inv X pins σ H s) (hb:s.heap.objs.size≤b) (hn:H' b = none):pU X pins H' b:=by
 rf ⟨hn,Nat.ne_of_gt (Nat.lt_of_lt_of_le I.lt hb),I.adH hb,.inr (Nat.le_trans I.sz hb),fun x c e z=>?_,fun p hp z=>?_⟩
 ·ob ⟨v,q⟩:=I.cell x c e
  xt absurd (Nat.lt_of_lt_of_le q.lt (by rw [z]; xt hb)) (Nat.lt_irrefl _)
 ·xt absurd (Nat.lt_of_lt_of_le (Heap.lt_size (I.pin p hp).1) (by rw [z]; xt hb)) (Nat.lt_irrefl _)
structure Turn (P:Program) (w:World) (K:Φ) (tg:Expr) (J:It) (fp:List Addr) (it:Addr) (tn:Nat→Heap→Prop):Prop where
 mem:it∈fp
 obj:∀ i h,tn i h→∀ b∈fp,∃ o,h.get? b = some o∧∀ v,o.data≠.cell v
 keep:∀ i h h',tn i h→(∀ b∈fp,∀ o,h.get? b = some o→h'.get? b = some o)→tn i h'
 item:∀ (X:Cx),X.prog = P→X.w = w→X.K = K→X.calm = true→∀ (i:Nat) (pins:List (Addr×Obj)) (s:Shared) (σ : St) (H:Hp) (E:Value→Shared→Prop),Inv X pins σ H s→(∀ b∈fp,pU X pins H b)→tn i s.heap→J.go i H →
  wpAny (model P w) X.A (pyNext (.ref it)) (fun r s1=>∃ u,r = some u ∧
   wpAny (model P w) X.A (letOwnedTupleGo tg (.ref it) u) (fun _ s2=>∃ x H',Inv X pins σ H' s2∧RelV x u∧J.yld i H x H'∧tn (i + 1) s2.heap∧∀ b∈fp,H' b = none) E s1) E s
 done:∀ (X:Cx),X.prog = P→X.w = w→X.K = K→X.calm = true→∀ (i:Nat) (pins:List (Addr×Obj)) (s:Shared) (σ : St) (H:Hp) (E:Value→Shared→Prop),Inv X pins σ H s→(∀ b∈fp,pU X pins H b)→tn i s.heap→J.stop i H →
  wpAny (model P w) X.A (pyNext (.ref it)) (fun r s1=>r = none∧Inv X pins σ H s1) E s
 self:∀ (A:Around) (i:Nat) (s:Shared) (Q:Value→Shared→Prop) (E:Value→Shared→Prop),tn i s.heap→Q (.ref it) s→wpAny (model P w) A (pyIter (.ref it)) Q E s
abbrev TI:=St→Hp→(It→Hp→Prop)→Prop
def PIE (X:Cx) (pins:List (Addr×Obj)) (σ : St) (tg:Expr) (R:It→Hp→Prop) (itv:Value) (s2:Shared):Prop :=
 ∃ (it:Addr) (fp:List Addr) (tn:Nat→Heap→Prop) (J:It) (H':Hp),itv = .ref it∧Inv X pins σ H' s2∧Turn X.prog X.w X.K tg J fp it tn∧tn 0 s2.heap∧(∀ b∈fp,pU X pins H' b)∧R J H'
def PI (X:Cx) (tg iter:Expr) (wi:TI):Prop :=
 ∀ (pins:List (Addr×Obj)) (s:Shared) (σ : St) (H:Hp) (R:It→Hp→Prop),Inv X pins σ H s→wi σ H R →
  wpAny (model X.prog X.w) X.A (eval iter X.env) (fun v s1=>wpAny (model X.prog X.w) X.A (pyIter v) (PIE X pins σ tg R) X.xe s1) X.xe s
theorem Ni {M:Model} {A:Around} {E:Value→Shared→Prop} {s:Shared} {tg:Expr} {it:Addr} {u:Value} {o:Obj} {n:String} {vs:Array Value} {Q:Unit→Shared→Prop} (ho:s.heap.get? it = some o) (hc:o.cls = .type n) (hd:o.data = .fields vs)
 (hn:["enumerate", "zip", "dict_itemiterator", "dict_reverseitemiterator", "odict_iterator", "itertools.zip_longest", "itertools.pairwise"].contains n = false) (hQ:Q () s):wpAny M A (letOwnedTupleGo tg (.ref it) u) Q E s:=by
 unfold letOwnedTupleGo
 cases tg <;> first
  | xt wpAny_pure hQ
  | (cases u <;> first
   | xt wpAny_pure hQ
   | (rf wpAny_bind (wpAny_load ho ?_)
      rw [hc,hd]
      show wpAny M A (if (["enumerate", "zip", "dict_itemiterator", "dict_reverseitemiterator", "odict_iterator", "itertools.zip_longest", "itertools.pairwise"].contains n && vs[0]? == some (rawInt _)) = true then _ else _) Q E s
      rw [if_neg (by intro h; rw [hn,Bool.false_and] at h; cases h)]
      xt wpAny_pure hQ))
def Itl (K:Φ) (a:Addr):It :=
 ⟨fun i H=>∃ xs x,uY K H a xs∧xs[i]? = some x,fun i H x H'=>H' = H∧∀ xs,uY K H a xs→xs[i]? = some x,fun i H=>∃ xs,uY K H a xs∧xs.length≤i⟩
def Itt (K:Φ) (a:Addr):It :=
 ⟨fun i H=>∃ xs x,yR K H a xs∧xs[i]? = some x,fun i H x H'=>H' = H∧∀ xs,yR K H a xs→xs[i]? = some x,fun i H=>∃ xs,yR K H a xs∧xs.length≤i⟩
def Itr (lo:Int) (n:Nat):It:=⟨fun i _=>i < n,fun i H x H'=>H' = H∧x = .int (lo + i),fun i _=>n≤i⟩
theorem Oe {P:Program} {w:World} {K:Φ} {tg:Expr} (a it:Addr):Turn P w K tg (Itl K a) [it] it (fun i h=>h.IsListIter it a i) where
 mem:=by simp
 obj:=fun i h st b hb=>by
  have e:b = it:=by simpa using hb
  subst e
  ob ⟨o,e,c,d⟩:=st
  xt ⟨o,e,fun v z=>by rw [d] at z; cases z⟩
 keep:=fun i h h' st k=>st.at fun o e=>k it (by simp) o e
 item:=by
  intro X hP hw hK hc i pins s σ H E I hf st hg
  subst hP hw hK
  ob ⟨xs,x,hq,hx⟩:=hg
  ob ⟨its,rv,p,hz⟩:=I.list hq
  ob ⟨u,hu,ru⟩:=rv.get hx
  ob ⟨f0,f1,f2,f3,f4,f5⟩:=hf it (by simp)
  rf wpAny_pyNext_list_item st p.isList (x:=u) (by simpa using hu) fun h' st' sb=>?_
  have I1:Inv X pins σ H { s with heap:=h' }:=I.turned (t':=s.toks) (fun b o hb e=>(sb.2 b hb).trans e) f0 f1 f3 f4 f5
  ob ⟨o,e,c,d⟩:=id st'
  xt ⟨u,rfl,Ni (s:={ s with heap:=h' }) e c d δ ⟨x,H,I1,ru,⟨rfl,fun ys hy=>by rw [I.vN hy hq]; xt hx⟩,st',fun b hb=>(hf b hb).1⟩⟩
 done:=by
  intro X hP hw hK hc i pins s σ H E I hf st hg
  subst hP hw hK
  ob ⟨xs,hq,hx⟩:=hg
  ob ⟨its,rv,p,hz⟩:=I.list hq
  ob ⟨f0,f1,f2,f3,f4,f5⟩:=hf it (by simp)
  have hl:=rv.length
  xt wpAny_pyNext_list_end (I.ok.hd hc) st p.isList (by simp; omega) fun h' eb=>⟨rfl,I.turned (t':=s.toks) (fun b o hb e=>eb b o hb e) f0 f1 f3 f4 f5⟩
 self:=fun _ _ _ _ _ st h=>wpAny_pyIter_listiter st h
theorem JS {P:Program} {w:World} {K:Φ} {tg:Expr} (a it:Addr):Turn P w K tg (Itt K a) [it] it (fun i h=>h.IsTupleIter it a i) where
 mem:=by simp
 obj:=fun i h st b hb=>by
  have e:b = it:=by simpa using hb
  subst e
  ob ⟨o,e,c,d⟩:=st
  xt ⟨o,e,fun v z=>by rw [d] at z; cases z⟩
 keep:=fun i h h' st k=>st.at fun o e=>k it (by simp) o e
 item:=by
  intro X hP hw hK hc i pins s σ H E I hf st hg
  subst hP hw hK
  ob ⟨xs,x,hq,hx⟩:=hg
  ob ⟨its,rv,p,hz⟩:=I.tuple hq
  ob ⟨u,hu,ru⟩:=rv.get hx
  ob ⟨f0,f1,f2,f3,f4,f5⟩:=hf it (by simp)
  rf wpAny_pyNext_tuple_item st (show s.heap.IsTuple a its.toArray from p) (x:=u) (by simpa using hu) fun h' st' sb=>?_
  have I1:Inv X pins σ H { s with heap:=h' }:=I.turned (t':=s.toks) (fun b o hb e=>(sb.2 b hb).trans e) f0 f1 f3 f4 f5
  ob ⟨o,e,c,d⟩:=id st'
  xt ⟨u,rfl,Ni (s:={ s with heap:=h' }) e c d δ ⟨x,H,I1,ru,⟨rfl,fun ys hy=>by rw [I.wF hy hq]; xt hx⟩,st',fun b hb=>(hf b hb).1⟩⟩
 done:=by
  intro X hP hw hK hc i pins s σ H E I hf st hg
  subst hP hw hK
  ob ⟨xs,hq,hx⟩:=hg
  ob ⟨its,rv,p,hz⟩:=I.tuple hq
  ob ⟨f0,f1,f2,f3,f4,f5⟩:=hf it (by simp)
  have hl:=rv.length
  xt wpAny_pyNext_tuple_end (I.ok.hd hc) st (show s.heap.IsTuple a its.toArray from p) (by simp; omega) fun h' eb=>⟨rfl,I.turned (t':=s.toks) (fun b o hb e=>eb b o hb e) f0 f1 f3 f4 f5⟩
 self:=fun _ _ _ _ _ st h=>wpAny_pyIter_tupleiter st h
theorem JT {P:Program} {w:World} {K:Φ} {tg:Expr} (it:Addr) (lo:Int) (n:Nat):Turn P w K tg (Itr lo n) [it] it (fun i h=>IsRangeIter h it (lo + (i:Nat) * 1) ((n:Int) - (i:Nat)) 1) where
 mem:=by simp
 obj:=fun i h st b hb=>by
  have e:b = it:=by simpa using hb
  subst e
  xt ⟨_,st,fun v z=>by
   have z':Data.fields _ = Data.cell v:=z
   cases z'⟩
 keep:=fun i h h' st k=>k it (by simp) _ st
 item:=by
  intro X hP hw hK hc i pins s σ H E I hf st hg
  subst hP hw hK
  ob ⟨f0,f1,f2,f3,f4,f5⟩:=hf it (by simp)
  have W:=Walks.range (prog:=X.prog) (w:=X.w) (I.ok.hd hc) it lo 1 n
  rf W.item i s _ _ hg st fun v h' tk hv st' kk=>?_
  ob ⟨t,rfl⟩:=hv
  have I1:Inv X pins σ H { s with heap:=h',toks:=tk }:=I.turned (fun b o hb e=>kk b o (by simpa using hb) e) f0 f1 f3 f4 f5
  rf ⟨_,rfl,Ni (s:={ s with heap:=h',toks:=tk }) (n := "range_iterator") st' rfl rfl δ ⟨.int (lo + i),H,I1,⟨t,?_⟩,⟨rfl,rfl⟩,st',fun b hb=>(hf b hb).1⟩⟩
  rw [Int.mul_one]
 done:=by
  intro X hP hw hK hc i pins s σ H E I hf st hg
  subst hP hw hK
  ob ⟨f0,f1,f2,f3,f4,f5⟩:=hf it (by simp)
  xt wpAny_pyNext_range_end (I.ok.hd hc) st (by have:n≤i:=hg; omega) fun h' eb=>⟨rfl,I.turned (t':=s.toks) (fun b o hb e=>eb b o hb e) f0 f1 f3 f4 f5⟩
 self:=fun _ _ _ _ _ st h=>wpAny_pyIter_rangeiter st h
end L2
namespace L2
open PySem PySem.Spec PyProof.Rows
section
variable {X:Cx} {tg:Expr}
def Yt (K:Φ) (tl:TE):TI:=fun σ H R=>tl σ H fun x H1=>∃ a,x = .ref a∧(∃ xs,uY K H1 a xs)∧R (Itl K a) H1
def acr (K:Φ) (tl:TE):TI:=fun σ H R=>tl σ H fun x H1=>∃ a,x = .ref a∧(∃ xs,yR K H1 a xs)∧R (Itt K a) H1
theorem Wd {l:Expr} {tl:TE} (hl:PE X l tl):PI X tg l (Yt X.K tl):=by
 intro pins s σ H R I h
 rf dY (hl pins s σ H _ I h) fun v s1 ⟨x,H1,I1,r1,q1⟩=>?_
 ob ⟨a,e,⟨xs,hq⟩,q⟩:=q1
 subst e
 cases r1
 ob ⟨its,rv,p,hz⟩:=I1.list hq
 rf wpAny_pyIter_list p.isList ?_
 rf ⟨s1.heap.objs.size,[s1.heap.objs.size],_,_,H1,rfl,I1.kept (t':=s1.toks) fun b o e=>Heap.get?_push_of_some _ e,Oe a _,⟨_,Heap.get?_push_size _ rfl,rfl,rfl⟩,fun b hb=>?_,q⟩
 have e:b = s1.heap.objs.size:=by simpa using hb
 subst e
 xt I1.uR (Nat.le_refl _) (I1.hok.fresh (Nat.le_refl _))
theorem Zt {l:Expr} {tl:TE} (hl:PE X l tl):PI X tg l (acr X.K tl):=by
 intro pins s σ H R I h
 rf dY (hl pins s σ H _ I h) fun v s1 ⟨x,H1,I1,r1,q1⟩=>?_
 ob ⟨a,e,⟨xs,hq⟩,q⟩:=q1
 subst e
 cases r1
 ob ⟨its,rv,p,hz⟩:=I1.tuple hq
 rf wpAny_pyIter_tuple (show s1.heap.IsTuple a its.toArray from p) ?_
 rf ⟨s1.heap.objs.size,[s1.heap.objs.size],_,_,H1,rfl,I1.kept (t':=s1.toks) fun b o e=>Heap.get?_push_of_some _ e,JS a _,⟨_,Heap.get?_push_size _ rfl,rfl,rfl⟩,fun b hb=>?_,q⟩
 have e:b = s1.heap.objs.size:=by simpa using hb
 subst e
 xt I1.uR (Nat.le_refl _) (I1.hok.fresh (Nat.le_refl _))
theorem Rv {pins:List (Addr×Obj)} {σ : St} {H:Hp} {s:Shared} {R:It→Hp→Prop} {E:Value→Shared→Prop} {lo hi:Int} {t u v:Tok} {tk:Nat} (I:Inv X pins σ H s) (h1:-(2 ^ 62)≤lo) (h2:lo < 2 ^ 62) (h3:-(2 ^ 62)≤hi) (h4:hi < 2 ^ 62)
 (q:R (Itr lo (hi - lo).toNat) H):wpAny (model X.prog X.w) X.A (pyIter (.ref s.heap.objs.size)) (PIE X pins σ tg R) E { s with heap:=s.heap.push { cls:=.type "range", data:=.fields #[.int lo t,.int hi u,.int 1 v] },toks:=tk }:=by
 rf wpAny_pyIter_range (IsRange.new ..) (small_one h1 h2 h3 h4) ?_
 have I1:Inv X pins σ H { s with heap:=s.heap.push { cls:=.type "range", data:=.fields #[.int lo t,.int hi u,.int 1 v] },toks:=tk }:=I.kept fun b o e=>Heap.get?_push_of_some _ e
 rf ⟨(s.heap.push { cls:=.type "range", data:=.fields #[.int lo t,.int hi u,.int 1 v] }).objs.size,[(s.heap.push { cls:=.type "range", data:=.fields #[.int lo t,.int hi u,.int 1 v] }).objs.size],_,_,H,rfl,
  I1.kept (t':=tk) fun b o e=>Heap.get?_push_of_some _ e,JT _ lo (hi - lo).toNat,?_,fun b hb=>?_,q⟩
 ·have e1:lo + ((0:Nat):Int) * 1 = lo:=by simp
  have e2:(((hi - lo).toNat:Nat):Int) - ((0:Nat):Int) = Builtin.Range.rangeSize lo hi 1:=by rw [rangeSize_one]; split <;> omega
  show IsRangeIter _ _ (lo + ((0:Nat):Int) * 1) ((((hi - lo).toNat:Nat):Int) - ((0:Nat):Int)) 1
  rw [e1,e2]
  xt Heap.get?_push_size _ rfl
 ·have e:b = (s.heap.push { cls:=.type "range", data:=.fields #[.int lo t,.int hi u,.int 1 v] }).objs.size:=by simpa using hb
  subst e
  xt I1.uR (Nat.le_refl _) (I1.hok.fresh (Nat.le_refl _))
def Yr (ta:TA):TI:=fun σ H R=>ta σ H fun vs H1=>∃ j:Int,vs = [.int j]∧-(2 ^ 62)≤j∧j < 2 ^ 62∧R (Itr 0 j.toNat) H1
theorem iB {a:Expr} {ta:TA} {p pos:Pos} (hg:Gl X "range") (hm:X.mg "range" = none) (ha:PA X [a] ta) (hs:starEach [a] X.env = [(false,eval a X.env)]:=by rfl):PI X tg (.Call (.Name "range" p) [a] [] pos) (Yr ta):=by
 intro pins s σ H R I h
 rf Call_ (uP I hg hm boot_range (PyProof.Rows.callWith_type1 (dY (ha pos pins s σ H _ I h) fun us s1 ⟨vs,H1,I1,r1,q1⟩=>?_) hs rfl))
 ob ⟨j,e,q1,q2,q⟩:=q1
 subst e
 cases r1 with
 | cons r rr =>
  cases rr
  ob ⟨t,rfl⟩:=r
  xt call_range_1 (Rv I1 ω ω q1 q2 (by simpa using q))
def Za (wi:TI) (g:TG) (tb:TS):TS:=fun D σ H=>wi σ H fun J H1=>∃ W:Nat→Nat→St→Hp→Prop,(∃ m,W 0 m σ H1)∧∀ i m σ H,W i m σ H →
 (J.stop i H∧D.nx σ H)∨(J.go i H∧∃ N:St→Hp→Prop,(∀ σ' H',N σ' H'→∃ m',m' < m∧W (i + 1) m' σ' H')∧∀ x H',J.yld i H x H'→g x σ H' fun σ2 H2=>tb { D with nx:=N,ct:=N,bk:=D.nx } σ2 H2)
def Es (fp:List Addr) (h:Heap):List (Addr×Obj):=fp.filterMap fun b=>(h.get? b).map fun o=>(b,o)
theorem jZ {fp:List Addr} {h:Heap} {b:Addr} {o:Obj} (hb:b∈fp) (e:h.get? b = some o):(b,o)∈Es fp h:=List.mem_filterMap.mpr ⟨b,hb,by rw [e]; rfl⟩
theorem O7 {fp:List Addr} {h:Heap} {p:Addr×Obj} (hp:p∈Es fp h):p.1∈fp∧h.get? p.1 = some p.2:=by
 ob ⟨b,hb,e⟩:=List.mem_filterMap.mp hp
 cases q:h.get? b with
 | none=>rw [q] at e; cases e
 | some o =>
  rw [q] at e
  have e':(b,o) = p:=Option.some.inj e
  subst e'
  xt ⟨hb,q⟩
theorem Inv.pinned {pins:List (Addr×Obj)} {σ : St} {H:Hp} {s:Shared} {fp:List Addr} (I:Inv X pins σ H s) (hf:∀ b∈fp,pU X pins H b) (ho:∀ b∈fp,∃ o,s.heap.get? b = some o∧∀ v,o.data≠.cell v):Inv X (pins ++ Es fp s.heap) σ H s :=
 I.Er fun p hp=>(List.mem_append.mp hp).elim (fun z=>I.pin p (List.mem_append_right _ z)) fun z=>by
  ob ⟨hb,e⟩:=O7 z
  ob ⟨f0,f1,f2,_⟩:=hf p.1 hb
  ob ⟨o,e',d⟩:=ho p.1 hb
  rw [e] at e'; cases e'
  xt ⟨e,f0,f1,f2,d⟩
theorem Inv.oY {pins pl:List (Addr×Obj)} {σ : St} {H:Hp} {s:Shared} (I:Inv X (pins ++ pl) σ H s):Inv X pins σ H s:=I.Er fun p hp=>I.pin p (List.mem_append_right _ (List.mem_append_left _ hp))
theorem jG {iter:Expr} {body:List Stmt} {wi:TI} {g:TG} {tb:TS} {pos:Pos} (hp:PassesOwn (model X.prog X.w) X.A X.env X.xe) (hc:X.calm = true) (hi:PI X tg iter wi) (hg:PG X tg g) (hb:GX X body tb)
 (hs:∀ x,foldedSetIterable iter X.env x = pure x:=by intro _; rfl):PS X (.For tg iter body [] pos) (Za wi g tb):=by
 intro pins s σ H D I h
 rf wpAny_For (dY (hi pins s σ H _ I h) fun v s1 h1=>dY h1 fun itv s2 h2=>?_) hs
 ob ⟨it,fp,tn,J,H2,e,I2,T,st2,f2,W,⟨m0,w0⟩,turn⟩:=h2
 subst e
 have stat:∀ {H':Hp},(∀ b∈fp,H' b = none)→∀ b∈fp,pU X pins H' b:=fun hn b hb=>⟨hn b hb,(f2 b hb).2⟩
 rf codeAny_forLoop_any (fun n s'=>∃ i σ' H',Inv X pins σ' H' s'∧tn i s'.heap∧(∀ b∈fp,H' b = none)∧W i n σ' H') ?_ m0 ⟨0,σ,H2,I2,st2,fun b hb=>(f2 b hb).1,w0⟩
 rintro n s3 ⟨i,σ3,H3,I3,st3,fr3,w3⟩
 rcases turn i n σ3 H3 w3 with ⟨stop,qn⟩ | ⟨go,N,hN,step⟩
 ·rf wpAny_passesOwn hp (dY (T.done X rfl rfl rfl hc i pins s3 σ3 H3 X.xe I3 (stat fr3) st3 stop) fun r s4 ⟨hr,I4⟩=>?_)
  subst hr
  xt wpAny_execs_nil ⟨σ3,H3,I4,qn⟩
 ·rf wpAny_passesOwn hp (dY (T.item X rfl rfl rfl hc i pins s3 σ3 H3 X.xe I3 (stat fr3) st3 go) fun r s4 ⟨u,hr,h4⟩=>?_)
  subst hr
  rf wpAny_passesOwn hp (dY h4 fun _ s5 ⟨x,H5,I5,r5,y5,st5,fr5⟩=>?_)
  have I5':=I5.pinned (stat fr5) (T.obj _ _ st5)
  rf wpAny_passesOwn hp (dY (hg _ s5 σ3 H5 x u _ I5' r5 (step x H5 y5)) fun _ s6 ⟨σ6,H6,I6,q6⟩=>?_)
  rf wpAny_passesOwn hp (dY (hb _ s6 σ6 H6 _ I6 q6) fun f s7 q7=>?_)
  have again:∀ {σ7:St} {H7:Hp},Inv X (pins ++ Es fp s5.heap) σ7 H7 s7→N σ7 H7→∃ m,m < n∧∃ i σ' H',Inv X pins σ' H' s7∧tn i s7.heap∧(∀ b∈fp,H' b = none)∧W i m σ' H':=fun {σ7 H7} I7 n7=>by
   ob ⟨m',hm,w7⟩:=hN σ7 H7 n7
   rf ⟨m',hm,i + 1,σ7,H7,I7.oY,T.keep _ _ _ st5 fun b hb o e=>(I7.pin (b,o) (List.mem_append_right _ (List.mem_append_right _ (jZ hb e)))).1,fun b hb=>?_,w7⟩
   ob ⟨o,e,d⟩:=T.obj _ _ st5 b hb
   xt (I7.pin (b,o) (List.mem_append_right _ (List.mem_append_right _ (jZ hb e)))).2.1
  cases f with
  | next=>ob ⟨σ7,H7,I7,n7⟩:=q7; xt again I7 n7
  | cont=>ob ⟨σ7,H7,I7,n7⟩:=q7; xt again I7 n7
  | brk=>ob ⟨σ7,H7,I7,q7⟩:=q7; xt ⟨σ7,H7,I7.oY,q7⟩
  | ret v=>ob ⟨x7,σ7,H7,I7,r7,q7⟩:=q7; xt ⟨x7,σ7,H7,I7.oY,r7,q7⟩
end
end L2
namespace L2
open PySem PySem.Spec PyProof.Rows
abbrev R2:=V→V→Hp→VK→Prop
def pR (X:Cx) (f:Value→Value→Sem Value) (r:R2):Prop :=
 ∀ (pins:List (Addr×Obj)) (s:Shared) (σ : St) (H:Hp) (x y:V) (v u:Value) (Q:VK),Inv X pins σ H s→RelV x v→RelV y u→r x y H Q →
  wpAny (model X.prog X.w) X.A (f v u) (EP X pins σ Q) X.xe s
def UnR (X:Cx) (f:Value→Sem Value) (r:V→Hp→VK→Prop):Prop :=
 ∀ (pins:List (Addr×Obj)) (s:Shared) (σ : St) (H:Hp) (x:V) (v:Value) (Q:VK),Inv X pins σ H s→RelV x v→r x H Q →
  wpAny (model X.prog X.w) X.A (f v) (EP X pins σ Q) X.xe s
def ir (X:Cx) (f:Value) (r:List V→Hp→VK→Prop):Prop :=
 ∀ (pins:List (Addr×Obj)) (s:Shared) (σ : St) (H:Hp) (xs:List V) (us:List Value) (Q:VK),Inv X pins σ H s→Vals xs us→r xs H Q →
  wpAny (model X.prog X.w) X.A (call f us) (EP X pins σ Q) X.xe s
def aev (X:Cx) (r:V→Hp→(Bool→Hp→Prop)→Prop):Prop :=
 ∀ (pins:List (Addr×Obj)) (s:Shared) (σ : St) (H:Hp) (x:V) (v:Value) (Q:Bool→Hp→Prop),Inv X pins σ H s→RelV x v→r x H Q →
  wpAny (model X.prog X.w) X.A (truthy v) (TP X pins σ Q) X.xe s
def tOp (r:R2) (ta tb:TE):TE:=fun σ H Q=>ta σ H fun x H1=>tb σ H1 fun y H2=>r x y H2 Q
def tUn (r:V→Hp→VK→Prop) (ta:TE):TE:=fun σ H Q=>ta σ H fun x H1=>r x H1 Q
def rI (C:Int→Int→Prop) (g:Int→Int→V):R2:=fun x y H Q=>∃ i j,x = .int i∧y = .int j∧C i j∧Q (g i j) H
def Qz (g:Int→Int→V):R2:=fun x y H Q=>∃ i j,x = .int i∧y = .int j∧Q (g i j) H
def rU (g:Int→V):V→Hp→VK→Prop:=fun x H Q=>∃ i,x = .int i∧Q (g i) H
section
variable {X:Cx} {a b c:Expr} {ta tb tc:TE} {pos:Pos}
theorem aaB (ha:PE X a ta) (hb:PE X b tb) {pins:List (Addr×Obj)} {s:Shared} {σ : St} {H:Hp} {R:V→V→Hp→Prop} (I:Inv X pins σ H s)
 (h:ta σ H fun x H1=>tb σ H1 fun y H2=>R x y H2) {Q:Value→Shared→Prop} {f:Value→Value→Sem Value}
 (hf:∀ v u s2 x y H2,Inv X pins σ H2 s2→RelV x v→RelV y u→R x y H2→wpAny (model X.prog X.w) X.A (f v u) Q X.xe s2) :
 wpAny (model X.prog X.w) X.A (eval a X.env) (fun v s₁=>wpAny (model X.prog X.w) X.A (eval b X.env) (fun u s₂=>wpAny (model X.prog X.w) X.A (f v u) Q X.xe s₂) X.xe s₁) X.xe s:=by
 rf dY (ha pins s σ H _ I h) fun v s1 ⟨x,H1,I1,r1,q1⟩=>?_
 rf dY (hb pins s1 σ H1 _ I1 q1) fun u s2 ⟨y,H2,I2,r2,q2⟩=>?_
 xt hf v u s2 x y H2 I2 r1 r2 q2
theorem aW {op:Operator} {r:R2} (ho:pR X (binaryOp op) r) (ha:PE X a ta) (hb:PE X b tb):PE X (.BinOp a op b pos) (tOp r ta tb):=by
 intro pins s σ H Q I h
 xt wpAny_BinOp (aaB ha hb I h fun v u s2 x y H2 I2 rx ry q=>ho pins s2 σ H2 x y v u Q I2 rx ry q)
theorem abP {op:UnaryOp} {r:V→Hp→VK→Prop} (ho:UnR X (unaryOp op) r) (ha:PE X a ta):PE X (.UnaryOp op a pos) (tUn r ta):=by
 intro pins s σ H Q I h
 xt UnaryOp_ (dY (ha pins s σ H _ I h) fun v s1 ⟨x,H1,I1,r1,q1⟩=>ho pins s1 σ H1 x v Q I1 r1 q1)
theorem opI {f:Value→Value→Sem Value} {C:Int→Int→Prop} {g:Int→Int→Int}
 (rule:∀ (i j:Int) (t u:Tok) (s:Shared) (Q:Value→Shared→Prop) (E:Value→Shared→Prop),C i j→Q (.int (g i j) s.toks) { s with toks:=s.toks + 1 }→wpAny (model X.prog X.w) X.A (f (.int i t) (.int j u)) Q E s) :
 pR X f (rI C fun i j=>.int (g i j)):=by
 intro pins s σ H x y v u Q I rx ry h
 ob ⟨i,j,rfl,rfl,hc,q⟩:=h
 ob ⟨t,rfl⟩:=rx
 ob ⟨t',rfl⟩:=ry
 xt rule i j t t' s _ _ hc ⟨.int (g i j),H,I.tok _,⟨_,rfl⟩,q⟩
theorem abS {f:Value→Value→Sem Value} {g:Int→Int→Int}
 (rule:∀ (i j:Int) (t u:Tok) (s:Shared) (Q:Value→Shared→Prop) (E:Value→Shared→Prop),Q (.int (g i j) s.toks) { s with toks:=s.toks + 1 }→wpAny (model X.prog X.w) X.A (f (.int i t) (.int j u)) Q E s) :
 pR X f (Qz fun i j=>.int (g i j)):=by
 intro pins s σ H x y v u Q I rx ry h
 ob ⟨i,j,rfl,rfl,q⟩:=h
 ob ⟨t,rfl⟩:=rx
 ob ⟨t',rfl⟩:=ry
 xt rule i j t t' s _ _ ⟨.int (g i j),H,I.tok _,⟨_,rfl⟩,q⟩
theorem ZK {f:Value→Value→Sem Value} {g:Int→Int→Bool}
 (rule:∀ (i j:Int) (t u:Tok) (s:Shared) (Q:Value→Shared→Prop) (E:Value→Shared→Prop),Q (.bool (g i j)) s→wpAny (model X.prog X.w) X.A (f (.int i t) (.int j u)) Q E s) :
 pR X f (Qz fun i j=>.bl (g i j)):=by
 intro pins s σ H x y v u Q I rx ry h
 ob ⟨i,j,rfl,rfl,q⟩:=h
 ob ⟨t,rfl⟩:=rx
 ob ⟨t',rfl⟩:=ry
 xt rule i j t t' s _ _ ⟨.bl (g i j),H,I,rfl,q⟩
def XN (i j:Int):Prop:=(-(2 ^ 64) < i∧i < 2 ^ 64)∨(-(2 ^ 64) < j∧j < 2 ^ 64)
theorem XN.ok {i j:Int} (h:XN i j):IntMulOk i j:=by
 rcases h with ⟨h1,h2⟩ | ⟨h1,h2⟩
 ·xt .of_left (intBits_le_64 h1 h2)
 ·xt .of_right (intBits_le_64 h1 h2)
theorem ZJ:pR X (binaryOp .Add) (Qz fun i j=>.int (i + j)):=abS fun _ _ _ _ _ _ _ q=>add_int q
theorem J8:pR X (binaryOp .Sub) (Qz fun i j=>.int (i - j)):=abS fun _ _ _ _ _ _ _ q=>sub_int q
theorem jH:pR X (binaryOp .Mult) (rI XN fun i j=>.int (i * j)):=opI fun _ _ _ _ _ _ _ hc q=>mul_int q hc.ok
theorem cA:pR X (binaryOp .Mod) (rI (fun _ j=>0 < j) fun i j=>.int (i % j)):=opI fun i j _ _ _ _ _ hc q=>by
 have h1:(0:Int) < j:=hc
 xt mod_int' ω (by rw [Int.fmod_eq_emod_of_nonneg i ω]; xt q)
theorem unI {f:Value→Sem Value} {g:Int→Int}
 (rule:∀ (i:Int) (t:Tok) (s:Shared) (Q:Value→Shared→Prop) (E:Value→Shared→Prop),Q (.int (g i) s.toks) { s with toks:=s.toks + 1 }→wpAny (model X.prog X.w) X.A (f (.int i t)) Q E s) :
 UnR X f (rU fun i=>.int (g i)):=by
 intro pins s σ H x v Q I rx h
 ob ⟨i,rfl,q⟩:=h
 ob ⟨t,rfl⟩:=rx
 xt rule i t s _ _ ⟨.int (g i),H,I.tok _,⟨_,rfl⟩,q⟩
theorem YZ:UnR X (unaryOp .USub) (rU fun i=>.int (-i)):=unI fun _ _ _ _ _ q=>neg_int q
end
section
variable {X:Cx} {a b c:Expr} {ta tb tc:TE} {pos:Pos}
theorem Ge {pins:List (Addr×Obj)} {σ : St} {H:Hp} {s:Shared} {Q:VK} {k k':Bool} (I:Inv X pins σ H s) (q:Q (.bl k) H) (e:k = k'):EP X pins σ Q (.bool k') s:=by
 subst e
 xt ⟨.bl k,H,I,rfl,q⟩
theorem abQ:pR X (compareOp .Lt) (Qz fun i j=>.bl (decide (i < j))):=ZK fun _ _ _ _ _ _ _ q=>lt_int q
theorem Ml:pR X (compareOp .LtE) (Qz fun i j=>.bl (decide (i≤j))):=ZK fun _ _ _ _ _ _ _ q=>le_int q
theorem abR:pR X (compareOp .Gt) (Qz fun i j=>.bl (decide (j < i))):=ZK fun _ _ _ _ _ _ _ q=>gt_int q
theorem O2:pR X (compareOp .Lt) (fun x y H Q=>∃ i j,x = .str i∧y = .str j∧Q (.bl (decide (i.cps.toList < j.cps.toList))) H):=by
 intro pins s σ H x y v u Q I rx ry h
 ob ⟨i,j,rfl,rfl,q⟩:=h
 ob ⟨t,rfl⟩:=rx
 ob ⟨t',rfl⟩:=ry
 xt lt_str (Ge I q rfl)
theorem O3:pR X (compareOp .In) (fun x y H Q=>∃ i j,x = .str i∧y = .str j∧Q (.bl (!(Builtin.Str.occurrences j i 0 j.length 1).isEmpty)) H):=by
 intro pins s σ H x y v u Q I rx ry h
 ob ⟨i,j,rfl,rfl,q⟩:=h
 ob ⟨t,rfl⟩:=rx
 ob ⟨t',rfl⟩:=ry
 xt in_str (Ge I q rfl)
theorem Wm:pR X (compareOp .IsNot) (fun x y H Q=>y = .non∧Q (.bl (!decide (x = .non))) H):=by
 intro pins s σ H x y v u Q I rx ry h
 ob ⟨rfl,q⟩:=h
 cases ry
 rf isnot_none_gen (Ge I q ?_)
 cases x <;> first
  | (cases rx; rfl)
  | (ob ⟨t,rfl⟩:=rx; rfl)
theorem pR.or {f:Value→Value→Sem Value} {r r':R2} (h:pR X f r) (h':pR X f r'):pR X f (fun x y H Q=>r x y H Q∨r' x y H Q):=by
 intro pins s σ H x y v u Q I rx ry q
 rcases q with q | q
 ·xt h pins s σ H x y v u Q I rx ry q
 ·xt h' pins s σ H x y v u Q I rx ry q
theorem cG (b:Expr) {op:CmpOp} (h:op≠.In:=by decide) (h2:op≠.NotIn:=by decide):behindInMarks op b = false:=by
 have e1:(op == CmpOp.In) = false:=by cases op <;> first | rfl | xt absurd rfl h
 have e2:(op == CmpOp.NotIn) = false:=by cases op <;> first | rfl | xt absurd rfl h2
 cases b <;> simp [behindInMarks,e1,e2]
theorem nH {op:CmpOp} {r:R2} (ho:pR X (compareOp op) r) (ha:PE X a ta) (hb:PE X b tb) (hm:behindInMarks op b = false):PE X (.Compare a [op] [b] pos) (tOp r ta tb):=by
 intro pins s σ H Q I h
 xt wpAny_Compare1 (aaB ha hb I h fun v u s2 x y H2 I2 rx ry q=>ho pins s2 σ H2 x y v u Q I2 rx ry q) hm
def Q6 (t:TE):TT:=fun σ H Q=>t σ H fun x H'=>∃ k,x = .bl k∧Q k H'
theorem bF {op:CmpOp} {r:R2} (ho:pR X (compareOp op) r) (ha:PE X a ta) (hb:PE X b tb) (hm:behindInMarks op b = false):PT X (.Compare a [op] [b] pos) (Q6 (tOp r ta tb)):=by
 intro pins s σ H Q I h
 rf wpAny_isTrue_Compare1 (dY (ha pins s σ H _ I h) fun v s1 ⟨x,H1,I1,r1,q1⟩=>dY (hb pins s1 σ H1 _ I1 q1) fun u s2 ⟨y,H2,I2,r2,q2⟩ =>
  dY (ho pins s2 σ H2 x y v u _ I2 r1 r2 q2) fun c s3 ⟨z,H3,I3,r3,k,e,q3⟩=>?_) hm
 subst e
 cases r3
 xt wpAny_truthy_bool ⟨H3,I3,q3⟩
def JV (r r':R2) (ta tb tc:TE):TE:=fun σ H Q=>ta σ H fun x H1=>tb σ H1 fun y H2=>r x y H2 fun z H3=>∃ k,z = .bl k ∧
 (if k = true then tc σ H3 fun w' H4=>r' y w' H4 Q else Q (.bl false) H3)
theorem R3 {op op':CmpOp} {r r':R2} (ho:pR X (compareOp op) r) (ho':pR X (compareOp op') r') (ha:PE X a ta) (hb:PE X b tb) (hc:PE X c tc)
 (hm:lastMarks [op,op'] [b,c] = false:=by with_unfolding_all rfl):PE X (.Compare a [op,op'] [b,c] pos) (JV r r' ta tb tc):=by
 intro pins s σ H Q I h
 rf Compare_chain (dY (ha pins s σ H _ I h) fun v s1 ⟨x,H1,I1,r1,q1⟩=>chain_link (dY (hb pins s1 σ H1 _ I1 q1) fun u s2 ⟨y,H2,I2,r2,q2⟩ =>
  dY (ho pins s2 σ H2 x y v u _ I2 r1 r2 q2) fun d s3 ⟨z,H3,I3,r3,k,e,q3⟩=>?_)) hm
 subst e
 cases r3
 rf wpAny_truthy_bool ?_
 cases k with
 | false=>xt ite_ff ⟨.bl false,H3,I3,rfl,q3⟩
 | true=>xt ite_tt (chain_last (dY (hc pins s3 σ H3 _ I3 q3) fun w' s4 ⟨z',H4,I4,r4,q4⟩=>ho' pins s4 σ H4 y z' u w' Q I4 r2 r4 q4))
theorem RL {op op':CmpOp} {r r':R2} (ho:pR X (compareOp op) r) (ho':pR X (compareOp op') r') (ha:PE X a ta) (hb:PE X b tb) (hc:PE X c tc)
 (hm:lastMarks [op,op'] [b,c] = false:=by with_unfolding_all rfl):PT X (.Compare a [op,op'] [b,c] pos) (Q6 (JV r r' ta tb tc)):=by
 intro pins s σ H Q I h
 rf isTrue_chain (dY (ha pins s σ H _ I h) fun v s1 ⟨x,H1,I1,r1,q1⟩=>test_link (dY (hb pins s1 σ H1 _ I1 q1) fun u s2 ⟨y,H2,I2,r2,q2⟩ =>
  dY (ho pins s2 σ H2 x y v u _ I2 r1 r2 q2) fun d s3 ⟨z,H3,I3,r3,k,e,q3⟩=>?_)) hm
 subst e
 cases r3
 rf wpAny_truthy_bool ?_
 cases k with
 | false =>
  ob ⟨k',e',q'⟩:=q3
  cases e'
  xt ite_ff ⟨H3,I3,q'⟩
 | true =>
  rf ite_tt (test_last (dY (hc pins s3 σ H3 _ I3 q3) fun w' s4 ⟨z',H4,I4,r4,q4⟩=>dY (ho' pins s4 σ H4 y z' u w' _ I4 r2 r4 q4) fun d' s5 ⟨z2,H5,I5,r5,k2,e2,q5⟩=>?_))
  subst e2
  cases r5
  xt wpAny_truthy_bool ⟨H5,I5,q5⟩
def aaO (K:Φ) (x:V) (H:Hp) (k:Bool):Prop :=
 match x with
 | .non=>k = false
 | .bl b=>k = b
 | .int i=>k = (i != 0)
 | .str y=>y.length≤sizeLine∧k = ((y.length:Int) != 0)
 | .byt y=>y.size≤sizeLine∧k = ((y.size:Int) != 0)
 | .ref p=>(∃ xs,uY K H p xs∧k = !xs.isEmpty)∨(∃ xs,yR K H p xs∧k = !xs.isEmpty)∨∃ kvs,H p = some (.dK kvs)∧k = !kvs.isEmpty
 | _=>False
theorem KD {κ : Type} {kvs:List (κ×V)} {vs:List (κ×Value)} (r:KV kvs vs):(!vs.isEmpty) = !kvs.isEmpty:=by
 cases r <;> rfl
theorem Ag {xs:List V} {its:List Value} (r:Vals xs its):(!its.toArray.isEmpty) = !xs.isEmpty:=by
 cases r <;> simp
theorem xf:(sizeLine:Nat) < 2 ^ 63:=by rw [sizeLine_eq]; decide
theorem Y5:aev X (fun x H Q=>∃ k,aaO X.K x H k∧Q k H):=by
 intro pins s σ H x v Q I rx h
 ob ⟨k,e,q⟩:=h
 have hl:=xf
 have hs:sizeLine = 16777216:=sizeLine_eq
 cases x with
 | non =>
  cases rx
  have e':k = false:=e
  subst e'
  xt truthy_none ⟨H,I,q⟩
 | bl b =>
  cases rx
  have e':k = b:=e
  subst e'
  xt wpAny_truthy_bool ⟨H,I,q⟩
 | int i =>
  ob ⟨t,rfl⟩:=rx
  have e':k = (i != 0):=e
  subst e'
  xt PySem.P.truthy_int ⟨H,I,q⟩
 | str y =>
  ob ⟨t,rfl⟩:=rx
  obtain ⟨hy,e'⟩ : y.length≤sizeLine∧k = ((y.length:Int) != 0):=e
  subst e'
  xt PySem.P.truthy_str ω ⟨H,I.tok _,q⟩
 | byt y =>
  ob ⟨t,rfl⟩:=rx
  obtain ⟨hy,e'⟩ : y.size≤sizeLine∧k = ((y.size:Int) != 0):=e
  subst e'
  xt PySem.W.truthy_bytes ω ⟨H,I.tok _,q⟩
 | ref p =>
  cases rx
  have e':(∃ xs,uY X.K H p xs∧k = !xs.isEmpty)∨(∃ xs,yR X.K H p xs∧k = !xs.isEmpty)∨∃ kvs,H p = some (.dK kvs)∧k = !kvs.isEmpty:=e
  rcases e' with ⟨xs,hx,e'⟩ | ⟨xs,hx,e'⟩ | ⟨kvs,hx,e'⟩
  ·subst e'
   ob ⟨its,r,pl,hz⟩:=I.list hx
   have hlen:=r.length
   xt wpAny_truthy_list pl.isList (by simp only [List.size_toArray]; omega) ⟨H,I.tok _,by rw [Ag r]; xt q⟩
  ·subst e'
   ob ⟨its,r,pl,hz⟩:=I.tuple hx
   have hlen:=r.length
   xt truthy_tuple pl (by simp only [List.size_toArray]; omega) ⟨H,I.tok _,by rw [Ag r]; xt q⟩
  ·subst e'
   obtain ⟨hz,hS,vs,r,m⟩ : kvs.length≤sizeLine∧(p == sysModules) = false∧∃ vs,KV kvs vs∧s.heap.DictOf (gD X.prog X.w) p vs:=I.hok p _ hx
   have hlen:kvs.length = vs.length:=Paired.length r
   xt wpAny_truthy_dict hS m ω ⟨H,I.tok _,by rw [KD r]; xt q⟩
 | _=>xt (show False from e).elim
theorem RJ (ha:PE X a ta) (he:∀ whole,isTrue a X.env whole = (do let v ← whole; standAt a.pos; holding [v] (truthy v))) :
 PT X a (fun σ H Q=>ta σ H fun x H'=>∃ k,aaO X.K x H' k∧Q k H'):=by
 intro pins s σ H Q I h
 xt isTrue_plain (dY (ha pins s σ H _ I h) fun v s1 ⟨x,H1,I1,r1,q1⟩=>Y5 pins s1 σ H1 x v Q I1 r1 q1) (he _)
theorem Ka:pR X (binaryOp .Add) (fun x y H Q=>∃ i j,x = .str i∧y = .str j∧i.length + j.length≤sizeLine∧Q (.str (i ++ j)) H):=by
 intro pins s σ H x y v u Q I rx ry h
 ob ⟨i,j,rfl,rfl,hz,q⟩:=h
 ob ⟨t,rfl⟩:=rx
 ob ⟨t',rfl⟩:=ry
 xt add_str (fun t' tk=>⟨.str (i ++ j),H,I.tok _,⟨_,rfl⟩,q⟩) hz
theorem vals1 {x:V} {us:List Value} (r:Vals [x] us):∃ u,us = [u]∧RelV x u:=by
 cases r with
 | cons r1 r2=>cases r2; xt ⟨_,rfl,r1⟩
theorem vals2 {x y:V} {us:List Value} (r:Vals [x,y] us):∃ u w',us = [u,w']∧RelV x u∧RelV y w':=by
 cases r with
 | cons r1 r2 =>
  cases r2 with
  | cons r3 r4=>cases r4; xt ⟨_,_,rfl,r1,r3⟩
theorem Qi (hc:X.calm = true):ir X (.builtin "max") (fun xs H Q=>∃ i j,xs = [.int i,.int j]∧Q (.int (if j > i then j else i)) H):=by
 intro pins s σ H xs us Q I r h
 ob ⟨i,j,rfl,q⟩:=h
 ob ⟨u,w',rfl,⟨t,rfl⟩,⟨t',rfl⟩⟩:=vals2 r
 rf max_two_ints (I.ok.hd hc) fun h' tk k=>⟨_,H,I.kept k,?_,q⟩
 by_cases hj:j > i
 ·rw [if_pos hj,if_pos hj]; xt ⟨_,rfl⟩
 ·rw [if_neg hj,if_neg hj]; xt ⟨_,rfl⟩
theorem Qh (hc:X.calm = true):ir X (.builtin "min") (fun xs H Q=>∃ i j,xs = [.int i,.int j]∧Q (.int (if j < i then j else i)) H):=by
 intro pins s σ H xs us Q I r h
 ob ⟨i,j,rfl,q⟩:=h
 ob ⟨u,w',rfl,⟨t,rfl⟩,⟨t',rfl⟩⟩:=vals2 r
 rf min_two_ints (I.ok.hd hc) fun h' tk k=>⟨_,H,I.kept k,?_,q⟩
 by_cases hj:j < i
 ·rw [if_pos hj,if_pos hj]; xt ⟨_,rfl⟩
 ·rw [if_neg hj,if_neg hj]; xt ⟨_,rfl⟩
theorem Qk:ir X (.type "int") (fun xs H Q=>(∃ i,xs = [.int i]∧Q (.int i) H)∨∃ k,xs = [.bl k]∧Q (.int (if k then 1 else 0)) H):=by
 intro pins s σ H xs us Q I r h
 rcases h with ⟨i,rfl,q⟩ | ⟨k,rfl,q⟩
 ·ob ⟨u,rfl,t,rfl⟩:=vals1 r
  xt call_int_int ⟨.int i,H,I,⟨_,rfl⟩,q⟩
 ·ob ⟨u,rfl,r1⟩:=vals1 r
  cases r1
  xt call_int_bool ⟨.int (if k then 1 else 0),H,I.tok _,⟨_,rfl⟩,q⟩
def ac0 (K:Φ) (x:V) (H:Hp) (n:Nat):Prop :=
 match x with
 | .str y=>y.length≤sizeLine∧n = y.length
 | .byt y=>y.size≤sizeLine∧n = y.size
 | .ref p=>(∃ xs,uY K H p xs∧n = xs.length)∨∃ xs,yR K H p xs∧n = xs.length
 | _=>False
theorem UG:ir X (.builtin "len") (fun xs H Q=>∃ x n,xs = [x]∧ac0 X.K x H n∧Q (.int n) H):=by
 intro pins s σ H xs us Q I r h
 ob ⟨x,n,rfl,e,q⟩:=h
 ob ⟨u,rfl,rx⟩:=vals1 r
 have hl:=xf
 have hs:sizeLine = 16777216:=sizeLine_eq
 cases x with
 | str y =>
  ob ⟨t,rfl⟩:=rx
  obtain ⟨hy,e'⟩ : y.length≤sizeLine∧n = y.length:=e
  subst e'
  xt len_str ω ⟨.int _,H,I.tok _,⟨_,rfl⟩,q⟩
 | byt y =>
  ob ⟨t,rfl⟩:=rx
  obtain ⟨hy,e'⟩ : y.size≤sizeLine∧n = y.size:=e
  subst e'
  xt PySem.W.len_bytes ω ⟨.int _,H,I.tok _,⟨_,rfl⟩,q⟩
 | ref p =>
  cases rx
  have e':(∃ xs,uY X.K H p xs∧n = xs.length)∨∃ xs,yR X.K H p xs∧n = xs.length:=e
  rcases e' with ⟨xs,hx,e'⟩ | ⟨xs,hx,e'⟩
  ·subst e'
   ob ⟨its,r',pl,hz⟩:=I.list hx
   have hlen:=r'.length
   xt Calls.call_len_list pl.isList (by simp only [List.size_toArray]; omega) ⟨.int xs.length,H,I.tok _,⟨_,by simp only [List.size_toArray]; rw [hlen]⟩,q⟩
  ·subst e'
   ob ⟨its,r',pl,hz⟩:=I.tuple hx
   have hlen:=r'.length
   xt len_tuple pl (by simp only [List.size_toArray]; omega) ⟨.int xs.length,H,I.tok _,⟨_,by simp only [List.size_toArray]; rw [hlen]⟩,q⟩
 | _=>xt (show False from e).elim
end
end L2
namespace L2
open PySem PySem.Spec PyProof.Rows
structure aaS (h:Heap) (x dx C:Addr) (mA:Str→Option Value):Prop where
 obj:h.get? x = some (PySem.W.instObj C dx)
 ns:h.Ns1 dx mA
 ne:dx≠x
theorem Pb {h:Heap} {dx:Addr} {mA:Str→Option Value} (n:h.Ns1 dx mA):∃ od,h.get? dx = some od∧∀ name,PySem.W.lookIn name od = some (mA name):=by
 ob ⟨o,es,ep,ho,hd,hk,_,hm⟩:=n
 rf ⟨o,ho,fun name=>?_⟩
 have e:=hm name
 unfold nsFind findBy at e
 rw [← Array.find?_toList] at e
 unfold PySem.W.lookIn
 rw [hd]
 dsimp only
 split
 ·rename_i y q
  rw [q] at e
  xt congrArg some e
 ·rename_i q
  rw [q] at e
  have a:es.toList.any (·.refKey) = false:=by
   rw [List.any_eq_false]
   intro y hy
   ob ⟨z,t,hkey⟩:=hk y (Array.mem_toList_iff.mp hy)
   simp [DictEntry.refKey,hkey]
  have a':¬ es.toList.any (·.refKey) = true:=by rw [a]; xt Bool.false_ne_true
  rw [if_neg a']
  xt congrArg some e
theorem aaS.look {h:Heap} {x dx C:Addr} {mA:Str→Option Value} (I:aaS h x dx C mA):∃ od,PySem.W.InstAt h x (PySem.W.instObj C dx) C (some od)∧∀ name,PySem.W.lookIn name od = some (mA name) :=
 let ⟨od,ho,hl⟩:=Pb I.ns
 ⟨od,⟨I.obj,rfl,rfl,ho⟩,hl⟩
section
variable {P:Program} {w:World} {H H':Hp} {h h':Heap} {a C dx:Addr} {fs fs':List (Str×V)}
theorem M9 (hok:pW P w H h) (e:H a = some (.ins C dx fs)):∃ mA,aaS h a dx C mA∧(∀ f,Ln (fs.lookup f) (mA f))∧PySem.Within mA (fs.map (·.1))∧fs.length≤1000∧H dx = some (.own a):=by
 ob ⟨d,z,ne,ob,mA,n,r,q⟩:=(show bY P w H h a (.ins C dx fs) from hok a _ e)
 xt ⟨mA,⟨ob,n,ne⟩,r,q,z,d⟩
end
structure Cls (K:Φ) (C:Addr):Prop where
 pg:PySem.W.plainGet K C Str.empty = true
 hd:PySem.W.hasDictIn K C = true
 po:PySem.W.plainOver K C = true
 sa:PySem.W.findIn K (.ref C) "__setattr__" = some (some (.builtin "object.__setattr__"))
theorem Cls.get {K:Φ} {C:Addr} (c:Cls K C) (f:Str):PySem.W.plainGet K C f = true:=c.pg
section
variable {X:Cx} {pins:List (Addr×Obj)} {σ : St} {H:Hp} {s:Shared} {A:Around} {E:Value→Shared→Prop} {Q:Value→Shared→Prop} {c:Value} {b:Bool}
inductive um (K:Φ) (H:Hp):V→Value→Prop where
 | non:um K H .non (.type "NoneType")
 | bl (x:Bool):um K H (.bl x) (.type "bool")
 | int (i:Int):um K H (.int i) (.type "int")
 | str (x:Str):um K H (.str x) (.type "str")
 | flt (x:UInt64):um K H (.flt x) (.type "float")
 | lst {a:Addr} {xs:List V} (e:H a = some (.lst xs)):um K H (.ref a) (.type "list")
 | frz {a:Addr} {o:Obj} {xs:List V} (e:H a = some (.frz o (.lst xs))):um K H (.ref a) (.type "list")
 | tup {a:Addr} {xs:List V} (e:H a = some (.tup xs)):um K H (.ref a) (.type "tuple")
 | dK {a:Addr} {kvs:List (Key×V)} (e:H a = some (.dK kvs)):um K H (.ref a) (.type "dict")
 | dT {a:Addr} {kvs:List (List Key×V)} (e:H a = some (.dT kvs)):um K H (.ref a) (.type "dict")
 | ins {a C dx:Addr} {fs:List (Str×V)} (e:H a = some (.ins C dx fs)) (cl:Cls K C) (ha:PySem.W.findIn K (.ref C) "__class__" = some (some (.builtin "object.__class__")))
  (hn:PySem.W.specialIn K (.builtin "object.__class__") "__get__" = some (some (.builtin "getset_descriptor.__get__"))) (htk:PySem.W.takesIn K (.builtin "object.__class__") = some true)
  (hm:PySem.W.mroIn K C (.type "object") = some true):um K H (.ref a) (.ref C)
theorem Py {x:V} {u t:Value} (I:Inv X pins σ H s) (rx:RelV x u) (ty:um X.K H x t) (e:PySem.W.kitOne X.K t c = some b) (h:∀ tk,Q (.bool b) { s with toks:=tk }) :
 wpAny (model X.prog X.w) A (call (.builtin "isinstance") [u,c]) Q E s:=by
 cases ty with
 | non=>cases (show u = Value.none from rx); xt PySem.W.kia_one PySem.W.kitx_none I.yw True.intro e (fun z=>nomatch z) h
 | bl y=>cases (show u = Value.bool y from rx); xt PySem.W.kia_one PySem.W.kitx_bool I.yw True.intro e (fun z=>nomatch z) h
 | int i=>ob ⟨t,q⟩:=(show ∃ t,u = Value.int i t from rx); cases q; xt PySem.W.kia_one PySem.W.kitx_int I.yw True.intro e (fun z=>nomatch z) h
 | str y=>ob ⟨t,q⟩:=(show ∃ t,u = Value.str y t from rx); cases q; xt PySem.W.kia_one PySem.W.kitx_str I.yw True.intro e (fun z=>nomatch z) h
 | flt y=>ob ⟨t,q⟩:=(show ∃ t,u = Value.float y t from rx); cases q; xt PySem.W.kia_one PySem.W.kitx_float I.yw True.intro e (fun z=>nomatch z) h
 | @lst a xs ea =>
  cases (show u = Value.ref a from rx)
  ob ⟨_,_,n,_,h1⟩:=(show bY X.prog X.w H s.heap a (.lst xs) from I.hok a _ ea)
  xt PySem.W.kia_one PySem.W.kitx_list I.yw ⟨_,h1,rfl⟩ e (fun z=>nomatch z) h
 | @frz a ob xs ea =>
  cases (show u = Value.ref a from rx)
  ob ⟨_,_,_,n,_,h1⟩:=(show bY X.prog X.w H s.heap a (.frz ob (.lst xs)) from I.hok a _ ea)
  xt PySem.W.kia_one PySem.W.kitx_list I.yw ⟨_,h1,rfl⟩ e (fun z=>nomatch z) h
 | @tup a xs ea =>
  cases (show u = Value.ref a from rx)
  ob ⟨_,_,_,p⟩:=(show bY X.prog X.w H s.heap a (.tup xs) from I.hok a _ ea)
  ob ⟨o,h1,h2,_⟩:=p
  xt PySem.W.kia_one PySem.W.kitx_tuple I.yw ⟨o,h1,h2⟩ e (fun z=>nomatch z) h
 | @dK a kvs ea =>
  cases (show u = Value.ref a from rx)
  ob ⟨_,_,vs,_,p⟩:=(show bY X.prog X.w H s.heap a (.dK kvs) from I.hok a _ ea)
  ob ⟨o,es,ep,h1,h2,_⟩:=p
  xt PySem.W.kia_one PySem.W.kitx_dict I.yw ⟨o,h1,h2.1⟩ e (fun z=>nomatch z) h
 | @dT a kvs ea =>
  cases (show u = Value.ref a from rx)
  ob ⟨_,_,xs,_,o,es,ep,h1,h2,_⟩:=(show bY X.prog X.w H s.heap a (.dT kvs) from I.hok a _ ea)
  xt PySem.W.kia_one PySem.W.kitx_dict I.yw ⟨o,h1,h2.1⟩ e (fun z=>nomatch z) h
 | @ins a C dx fs ea cl ha hn htk hm =>
  cases (show u = Value.ref a from rx)
  ob ⟨mA,O,_⟩:=M9 I.hok ea
  ob ⟨od,J,_⟩:=O.look
  xt PySem.W.kia_one (PySem.W.kitx_own (cl.get _) cl.hd ha hn htk hm) I.yw J e (fun z=>nomatch z) h
end
end L2
namespace L2
open PySem PySem.Spec PyProof.Rows
structure jr (k:Nat) (A:Around):Prop where
 hd:A.handled = none
 dp:A.depth + 3 * k + 5 < recursionLimit
 un:A.units + 16 * k + 200 < cLine
theorem jr.mono {j k:Nat} {A:Around} (r:jr k A) (h:j≤k):jr j A:=⟨r.hd,by have:=r.dp; omega,by have:=r.un; omega⟩
theorem jr.deeper {k:Nat} {A:Around} (r:jr (k + 1) A) (env:Env):jr k (A.deeper env) :=
 ⟨r.hd,by have:=r.dp; show A.depth + 1 + 3 * k + 5 < _; omega,by have:=r.un; show A.units + 3 + 16 * k + 200 < _; omega⟩
theorem jr.in1 {k:Nat} {A:Around} (r:jr (k + 1) A):jr k A.in1 :=
 ⟨r.hd,by have:=r.dp; show A.depth + 3 * k + 5 < _; omega,by have:=r.un; show A.units + 1 + 16 * k + 200 < _; omega⟩
theorem jr.depth {k:Nat} {A:Around} (r:jr k A):A.depth < recursionLimit:=by have:=r.dp; omega
theorem jr.units {k:Nat} {A:Around} (r:jr k A):A.units + 64 < cLine:=by have:=r.un; omega
def rD:TA:=fun _ H Q=>Q [] H
def iW (ta:TE) (tr:TA):TA:=fun σ H Q=>ta σ H fun x H1=>tr σ H1 fun xs H2=>Q (x :: xs) H2
section
variable {X:Cx} {e:Expr} {es:List Expr} {te:TE} {t:TA} {pos:Pos}
theorem au:PA X [] rD:=fun _ _ _ _ H Q I h=>Calls.spliced_nil ⟨[],H,I,.nil,h⟩
theorem aj (ha:PE X e te) (hr:PA X es t) (hs:starEach (e :: es) X.env = (false,eval e X.env) :: starEach es X.env:=by rfl):PA X (e :: es) (iW te t):=by
 intro pos pins s σ H Q I h
 rw [hs]
 show wpAny _ _ (spliced ((false,eval e X.env) :: backTo pos (starEach es X.env))) _ _ s
 rf Calls.spliced_cons (dY (ha pins s σ H _ I h) fun u s1 ⟨x,H1,I1,r1,q1⟩=>?_)
 xt dY (hr pos pins s1 σ H1 _ I1 q1) fun us s2 ⟨xs,H2,I2,r2,q2⟩=>⟨x :: xs,H2,I2,.cons r1 r2,q2⟩
def VM (t:TA):TE:=fun σ H Q=>t σ H fun xs H1=>xs.length≤sizeLine∧∀ p,H1 p = none→Q (.ref p) (upd H1 p (.tup xs))
def abd (t:TA):TE:=fun σ H Q=>t σ H fun xs H1=>xs.length≤sizeLine∧∀ p,H1 p = none→Q (.ref p) (upd H1 p (.lst xs))
theorem cZ {x1} (h:PA X es t):PE X (.Tuple es x1 pos) (VM t):=by
 intro pins s σ H Q I hq
 rf wpAny_Tuple_spliced (dY (h pos pins s σ H _ I hq) fun us s1 ⟨xs,H1,I1,r,z,q⟩=>⟨by rw [← r.length]; xt z,?_⟩)
 have hf:H1 s1.heap.objs.size = none:=I1.hok.fresh (Nat.le_refl _)
 rf ⟨.ref s1.heap.objs.size,upd H1 s1.heap.objs.size (.tup xs),I1.laid (t':=s1.toks) (fun b u e=>Heap.get?_push_of_some _ e) (Nat.le_refl _) ?_,rfl,q _ hf⟩
 xt ⟨z,us,r,⟨_,Heap.get?_push_size _ rfl,rfl,rfl,_,rfl⟩⟩
theorem dO (h:PA X es t):PE X (.List es pos) (abd t):=by
 intro pins s σ H Q I hq
 rf wpAny_List_spliced (dY (h pos pins s σ H _ I hq) fun us s1 ⟨xs,H1,I1,r,z,q⟩=>⟨by rw [← r.length]; xt z,?_⟩)
 have hf:H1 s1.heap.objs.size = none:=I1.hok.fresh (Nat.le_refl _)
 rf ⟨.ref s1.heap.objs.size,upd H1 s1.heap.objs.size (.lst xs),I1.laid (t':=s1.toks) (fun b u e=>Heap.get?_push_of_some _ e) (Nat.le_refl _) ?_,rfl,q _ hf⟩
 xt ⟨z,us,0,r,Heap.get?_push_size _ rfl⟩
end
abbrev Sp:=List V→Hp→VK→XK→Prop
abbrev GP:=List Env→Hp→Shared→XK→Value→Shared→Prop
structure Qy (P:Program) (w:World) (K:Φ) (mg:Str→Option Value) (base:Heap) (A:Around) (outer:List Env) (s:Shared) (H:Hp):Prop where
 frames:A.frames = some outer
 mod:Mod K mg base
 bs:∀ b o,base.get? b = some o→s.heap.get? b = some o∧H b = none
 bsz:base.objs.size≤s.heap.objs.size
 sI:s.heap.FunFrames base outer
 frf:∀ b∈frs outer,H b = none
 hok:pW P w H s.heap
 bare:AllBare s.gens
def CE (outer:List Env) (P:Program) (w:World) (H:Hp) (s:Shared) (Q:VK) (u:Value) (s':Shared):Prop :=
 ∃ v H',s'.os = s.os∧AllBare s'.gens∧Un (frs outer) [] H H' s.heap s'.heap∧pW P w H' s'.heap∧RelV v u∧Q v H'
def CR (CX:GP) (outer:List Env) (P:Program) (w:World) (H:Hp) (s:Shared) (Q:VK) (E:XK) (r:Result) (s':Shared):Prop :=
 match r with
 | .ok (.ret u)=>CE outer P w H s Q u s'
 | .ok _=>False
 | .error e=>CX outer H s E e s'
structure cY (P:Program) (w:World) (K:Φ) (mg:Str→Option Value) (base:Heap) (CX:GP) (k:Nat) (f:Addr) (fd:FuncData) (ps:List Str) (sp:Sp):Prop where
 len:∀ vs H Q E,sp vs H Q E→vs.length = ps.length
 run:∀ (A:Around) (outer:List Env) (s:Shared) (H:Hp) (args:Args) (us:List Value) (vs:List V) (Q:VK) (E:XK),jr k A→Qy P w K mg base A outer s H→BindsTo s fd args (ps.zip us)→Vals vs us→sp vs H Q E →
  codeAny (model P w) A (.call (.ref f) args) (CR CX outer P w H s Q E) s
theorem cY.imp {P:Program} {w:World} {K:Φ} {mg:Str→Option Value} {base:Heap} {CX:GP} {k:Nat} {f:Addr} {fd:FuncData} {ps:List Str} {sp sp':Sp} (F:cY P w K mg base CX k f fd ps sp)
 (h:∀ vs H Q E,sp' vs H Q E→sp vs H Q E):cY P w K mg base CX k f fd ps sp' :=
 ⟨fun vs H Q E q=>F.len vs H Q E (h _ _ _ _ q),fun A outer s H args us vs Q E hr he hb hv hs=>F.run A outer s H args us vs Q E hr he hb hv (h _ _ _ _ hs)⟩
section
variable {X:Cx} {pins:List (Addr×Obj)} {σ : St} {H:Hp} {s s':Shared}
theorem Inv.env0 (I:Inv X pins σ H s):Qy X.prog X.w X.K X.mg X.base X.A X.stack s H :=
 ⟨I.ok.frames,I.ok.mod,I.bs,Nat.le_trans I.ok.bsz I.sz,I.stack,I.vz,I.hok,I.bare⟩
theorem Inv.after {Q:VK} {u:Value} (I:Inv X pins σ H s) (h:CE X.stack X.prog X.w H s Q u s'):EP X pins σ Q u s':=by
 ob ⟨v,H',os,bare,un,hok,r,q⟩:=h
 ob ⟨hh,g,d,t,os'⟩:=s'
 obtain rfl:os' = s.os:=os
 xt ⟨v,H',I.call (h':=hh) (g':=g) (d':=d) (t':=t) (ch:=[]) un hok bare (fun b z=>absurd z (by simp)),r,q⟩
end
def vm (sp:Sp) (dvs:List V) (E:XK) (t:TA):TE:=fun σ H Q=>t σ H fun vs H1=>sp (vs ++ dvs) H1 Q E
def Binds (K:Φ) (fd:FuncData) (ps:List Str) (ds:List Value):Prop :=
 ∀ (s:Shared) (us:List Value),K.In s.heap→(us ++ ds).length = ps.length→BindsTo s fd ⟨us,[]⟩ (ps.zip (us ++ ds))
theorem Binds.all {K:Φ} {fd:FuncData} {ps:List Str} (h:∀ us:List Value,us.length = ps.length→bindArgs fd ⟨us,[]⟩ = pure (ps.zip us)):Binds K fd ps []:=fun s us _ hl=>by
 rw [List.append_nil] at hl ⊢
 xt .of_eq (h us hl)
def Bo (CX:GP) (X:Cx) (E:XK):Prop:=∀ (pins:List (Addr×Obj)) (σ : St) (H:Hp) (s:Shared) (e:Value) (s':Shared),Inv X pins σ H s→CX X.stack H s E e s'→X.xe e s'
section
variable {X:Cx} {CX:GP} {k:Nat} {f C:Addr} {fd:FuncData} {ps:List Str} {sp:Sp} {dvs:List V} {ds:List Value} {E:XK} {x m:Str} {p pos apos:Pos} {e o:Expr} {es:List Expr} {ta:TE} {t:TA}
theorem Zk {pins:List (Addr×Obj)} {σ : St} {H:Hp} {s:Shared} {Q:VK} {us:List Value} {vs:List V} (F:cY X.prog X.w X.K X.mg X.base CX k f fd ps sp) (hr:jr k X.A) (hb:Binds X.K fd ps ds) (hd:Vals dvs ds) (hx:Bo CX X E)
 (I:Inv X pins σ H s) (r:Vals vs us) (h:sp (vs ++ dvs) H Q E):wpAny (model X.prog X.w) X.A (call (.ref f) us) (EP X pins σ Q) X.xe s:=by
 have r2:Vals (vs ++ dvs) (us ++ ds):=r.append hd
 have hl:(us ++ ds).length = ps.length:=by rw [← r2.length]; xt F.len _ _ _ _ h
 rf wpAny_call (codeAny_mono (F.run X.A X.stack s H ⟨us,[]⟩ (us ++ ds) (vs ++ dvs) Q E hr I.env0 (hb s us I.yw hl) r2 h) fun r s' hq=>?_)
 cases r with
 | error e=>xt hx pins σ H s e s' I hq
 | ok fl =>
  cases fl with
  | ret u=>xt I.after hq
  | next=>xt False.elim hq
  | brk=>xt False.elim hq
  | cont=>xt False.elim hq
theorem Wf (F:cY X.prog X.w X.K X.mg X.base CX k f fd ps sp) (hr:jr k X.A) (hg:Gl X x) (hm:X.mg x = some (.ref f)) (hk:PySem.W.keepIn X.K (.ref f) = true) (hb:Binds X.K fd ps ds) (hd:Vals dvs ds) (hx:Bo CX X E)
 (ha:PA X (e :: es) t) (hdb:(x == ("__debug__" : Str)) = false:=by decide) (he:starEach (e :: es) X.env = (false,eval e X.env) :: starEach es X.env:=by rfl) (hpl:(backTo pos (starEach es X.env)).any (·.1) = false:=by rfl) :
 PE X (.Call (.Name x p) (e :: es) [] pos) (vm sp dvs E t):=by
 intro pins s σ H Q I h
 rf wpAny_Call_Name_kw (tW I hg hm ?_ hdb)
 rf PySem.W.callWith_K (h₀:=X.base) I.ok.mod.kin hk (dY (ha pos pins s σ H _ I h) fun us s1 ⟨vs,H1,I1,r,q⟩=>⟨I1.yw,?_⟩) he hpl
 xt Zk F hr hb hd hx I1 r q
end
structure bG (N P:List Str) (sc:Scope):Prop where
 kind:sc.kind = .function
 co:sc.isCoroutine = false
 gen:sc.isGenerator = false
 nd:N.Nodup
 pre:N.take P.length = P
 par:∀ x∈P,sc.names.lookup x = some .local∨sc.names.lookup x = some .cell
 ZV:∀ y∈sc.names,y.2≠.free
theorem Di {kindOf:Str→Option NameKind} {x:Str}:∀ {binds:List (Str×Value)} {m:Str→Option Value},(∀ v,(x,v)∉binds)→bindL kindOf binds m x = m x
 | [],_,_=>rfl
 | (n,v) :: r,m,h=>by
  unfold bindL
  rw [Di fun w hw=>h w (List.mem_cons_of_mem _ hw)]
  split
  ·have:x≠n:=by rintro rfl; xt h v List.mem_cons_self
   simp [this]
  ·rfl
theorem Dk {kindOf:Str→Option NameKind} {x:Str}:∀ {binds:List (Str×Value)} {m:Str→Option Value},(∀ v,(x,v)∉binds)→bindC kindOf binds m x = m x
 | [],_,_=>rfl
 | (n,v) :: r,m,h=>by
  unfold bindC
  rw [Dk fun w hw=>h w (List.mem_cons_of_mem _ hw)]
  split
  ·rfl
  ·have:x≠n:=by rintro rfl; xt h v List.mem_cons_self
   simp [this]
theorem Dj {kindOf:Str→Option NameKind} {x:Str} {v:Value}:∀ {P:List Str} {vs:List Value} {i:Nat} {m:Str→Option Value},P.Nodup→P[i]? = some x→vs[i]? = some v→kindOf x = some .local →
 bindL kindOf (P.zip vs) m x = some v
 | [],_,_,_,_,h,_,_=>by simp at h
 | _ :: _,[],_,_,_,_,h,_=>by simp at h
 | p :: P,w :: vs,0,m,nd,h1,h2,hk=>by
  simp at h1 h2; subst h1; subst h2
  show bindL kindOf ((p,w) :: P.zip vs) m p = _
  unfold bindL
  rw [Di fun v hv=>(List.nodup_cons.mp nd).1 (List.of_mem_zip hv).1,if_pos hk]
  simp
 | p :: P,w :: vs,i + 1,m,nd,h1,h2,hk=>by
  show bindL kindOf ((p,w) :: P.zip vs) m x = _
  unfold bindL
  xt Dj (i:=i) (List.nodup_cons.mp nd).2 (by simpa using h1) (by simpa using h2) hk
theorem Dl {kindOf:Str→Option NameKind} {x:Str} {v:Value}:∀ {P:List Str} {vs:List Value} {i:Nat} {m:Str→Option Value},P.Nodup→P[i]? = some x→vs[i]? = some v→kindOf x≠some .local →
 bindC kindOf (P.zip vs) m x = some v
 | [],_,_,_,_,h,_,_=>by simp at h
 | _ :: _,[],_,_,_,_,h,_=>by simp at h
 | p :: P,w :: vs,0,m,nd,h1,h2,hk=>by
  simp at h1 h2; subst h1; subst h2
  show bindC kindOf ((p,w) :: P.zip vs) m p = _
  unfold bindC
  rw [Dk fun v hv=>(List.nodup_cons.mp nd).1 (List.of_mem_zip hv).1,if_neg hk]
  simp
 | p :: P,w :: vs,i + 1,m,nd,h1,h2,hk=>by
  show bindC kindOf ((p,w) :: P.zip vs) m x = _
  unfold bindC
  xt Dl (i:=i) (List.nodup_cons.mp nd).2 (by simpa using h1) (by simpa using h2) hk
def start (N:List Str) (vs:List V):St:=vs.map some ++ List.replicate (N.length - vs.length) none
def mj (CX:GP) (P:Program) (w:World) (K:Φ) (mg:Str→Option Value) (base:Heap) (N:List Str) (qual:Str) (scope:Scope) (f:Addr) (cd:Value) (A:Around) (outer:List Env) (s:Shared) (H:Hp) (E:XK):Cx where
 prog:=P
 w:=w
 K:=K
 mg:=mg
 base:=base
 A:=A.deeper (envOfC qual scope s.heap.objs.size f cd)
 N:=N
 s₀:=s
 H₀:=H
 env:=envOfC qual scope s.heap.objs.size f cd
 outer:=outer
 stack:=envOfC qual scope s.heap.objs.size f cd :: outer
 ex:=[]
 calm:=true
 fn:=fun _=>true
 pn:=[]
 xe:=fun e s'=>wpAny (model P w) (A.deeper (envOfC qual scope s.heap.objs.size f cd)) (leaving (envOfC qual scope s.heap.objs.size f cd) e) (fun _ s''=>CX outer H s E e s'') (fun e' s''=>CX outer H s E e' s'') s'
theorem Jc {sc:Scope} {n:Nat} {x:Str} (h:sc.names.lookup x = some .cell):∃ c,(cellsFrom n sc.names []).lookup x = some c:=by
 have q:=PySem.W.cellsFrom_some sc.names n [] (.inl h)
 xt Option.isSome_iff_exists.mp q
theorem CP {CX:GP} {P:Program} {w:World} {K:Φ} {mg:Str→Option Value} {base:Heap} {N ps:List Str} {qual:Str} {scope:Scope} {f:Addr} {cd:Value} {A:Around} {outer:List Env} {s s1:Shared} {H:Hp} {E:XK} {us:List Value} {vs:List V}
 (S:bG N ps scope) (hd:A.handled = none) (e0:Qy P w K mg base A outer s H) (hl:vs.length = ps.length) (r:Vals vs us)
 (x:InCallC s s.heap.objs.size (bindL (envOfC qual scope s.heap.objs.size f cd).kindOf (ps.zip us) fun _=>none) (cellsFrom (s.heap.objs.size + 1) scope.names []) (bindC (envOfC qual scope s.heap.objs.size f cd).kindOf (ps.zip us) fun _=>none) s1) :
 Inv (mj CX P w K mg base N qual scope f cd A outer s H E) [] (start N vs) H s1:=by
 have hpl:ps.length≤N.length:=by have:=congrArg List.length S.pre; rw [List.length_take] at this; omega
 ob ⟨h1,tk,rfl,hk⟩:=x.done
 have noA:∀ b:Addr,b∉(mj CX P w K mg base N qual scope f cd A outer s H E).ex:=fun b z=>absurd (show b∈([]:List Addr) from z) (by simp)
 rf ⟨⟨e0.mod,S.kind,rfl,rfl,Nat.le_refl _,fun y z c h1 h2=>?_,fun y hy=>?_,fun y c _ h=>?_,fun _=>hd,Around.frames_deeper e0.frames,.inr ⟨rfl,rfl⟩,fun b z=>absurd z (noA b),e0.bs,e0.bsz,fun b _ _=>noA b,fun b z=>absurd z (noA b),e0.sI,e0.frf⟩,
  rfl,e0.bare,Un.kept hk,⟨_,x.toInCall.ns,fun i y v h1 h2 h3=>?_⟩,fun y c h=>⟨_,x.cell y c h⟩,e0.hok.fresh (Nat.le_refl _),fun y c h=>?_,fun p hp=>absurd (show p∈([]:List (Addr×Obj)) from hp) (by simp),e0.hok.kept hk,?_⟩
 ·xt name_of_addr x.apart (PySem.mem_of_lookup h1) (PySem.mem_of_lookup h2)
 ·have hy:scope.names.lookup y = some .cell∨scope.names.lookup y = some .free:=hy
  rcases hy with hy | hy
  ·xt Jc hy
  ·xt absurd rfl (S.ZV _ (PySem.mem_of_lookup hy))
 ·xt Nat.le_of_lt (x.above y c (PySem.mem_of_lookup h))
 ·have hi:i < vs.length:=by
   unfold start at h2
   by_cases hi:i < vs.length
   ·xt hi
   ·rw [List.getElem?_append_right (by simpa using hi)] at h2
    rw [List.getElem?_replicate] at h2
    split at h2 <;> cases h2
  have ha:vs[i]? = some v:=by
   unfold start at h2
   rw [List.getElem?_append_left (by simpa using hi),List.getElem?_map] at h2
   cases e:vs[i]? with
   | none=>rw [e] at h2; cases h2
   | some a=>rw [e] at h2; cases h2; rfl
  ob ⟨u,hu,rv⟩:=r.get ha
  have hp:ps[i]? = some y:=by
   rw [← S.pre,List.getElem?_take_of_lt ω]; xt h1
  have ndP:ps.Nodup:=by rw [← S.pre]; xt S.nd.sublist (List.take_sublist _ _)
  rf ⟨u,rv,?_⟩
  rcases S.par y (List.mem_of_getElem? hp) with k | k
  ·xt .inl ⟨k,Dj ndP hp hu k⟩
  ·ob ⟨c,e⟩:=Jc (n:=s.heap.objs.size + 1) k
   rf .inr ⟨.inl k,c,e,?_⟩
   have q:=x.cell y c e
   rw [Dl ndP hp hu (by show scope.names.lookup y≠_; rw [k]; decide)] at q
   xt q
 ·xt e0.hok.fresh (Nat.le_of_lt (x.above y c (PySem.mem_of_lookup h)))
 ·unfold start
  show _ = N.length
  rw [List.length_append,List.length_map,List.length_replicate]
  omega
theorem T9 {CX:GP} {P:Program} {w:World} {K:Φ} {mg:Str→Option Value} {base:Heap} {k:Nat} {f:Addr} {name qual:Str} {params:Arguments} {body:List Stmt} {scope:Scope} {dV kV doc pm cdv ct oc:Value} {an od:Option Addr}
 {osl:Array (Option Value)} {N ps:List Str} {sp:Sp} (lk:K.lookup f = some ⟨oc,od,.func (PySem.W.fnOf name qual params body scope dV kV doc pm an cdv ct),osl⟩) (hcd:PySem.W.codeIn K cdv qual = true) (S:bG N ps scope)
 (len:∀ vs H Q E,sp vs H Q E→vs.length = ps.length)
 (hbody:∀ (A:Around) (outer:List Env) (s:Shared) (H:Hp) (vs:List V) (Q:VK) (E:XK),jr k (A.deeper (envOfC qual scope s.heap.objs.size f cdv))→sp vs H Q E →
  ∃ t,GX (mj CX P w K mg base N qual scope f cdv A outer s H E) body t∧t { nx:=fun _ H'=>Q .non H',rt:=Q } (start N vs) H) :
 cY P w K mg base CX (k + 1) f (PySem.W.fnOf name qual params body scope dV kV doc pm an cdv ct) ps sp:=by
 rf ⟨len,fun A outer s H args us vs Q E hr e0 hb r hsp=>?_⟩
 have hl:=len _ _ _ _ hsp
 have KX:K.In s.heap:=e0.mod.kin.keeps fun b o e=>(e0.bs b o e).1
 have lim:s.heap.NoLimit:=e0.mod.nolimit.keeps fun b o e=>(e0.bs b o e).1
 have hkind:∀ y∈ps.zip us,scope.names.lookup y.1 = some .local∨(scope.names.lookup y.1 = some .cell∧((cellsFrom (s.heap.objs.size + 1) scope.names []).lookup y.1).isSome = true):=fun ⟨n,v⟩ hy=>by
  rcases S.par n (List.of_mem_zip hy).1 with q | q
  ·xt .inl q
  ·xt .inr ⟨q,PySem.W.cellsFrom_some _ _ _ (.inl q)⟩
 rf codeAny_call_function hr.depth (KX _ _ lk) rfl S.co S.gen rfl (PySem.W.codeRec_of KX hcd) (hb _ _ _ _ ?_)
 rf wpAny_newFunctionEnv_cells S.kind hkind fun env he s1 x=>?_
 subst he
 rf ⟨lim.keeps x.toInCall.keep,codeAny_func ?_⟩
 ob ⟨t,ht,hq⟩:=hbody A outer s H vs Q E (hr.deeper _) hsp
 have I:Inv (mj CX P w K mg base N qual scope f cdv A outer s H E) [] (start N vs) H s1:=CP S hr.hd e0 hl r x
 rf wpAny_mono (ht [] s1 (start N vs) H _ I hq) (fun fl s' hs=>?_) fun e s' hs=>hs
 have fin:∀ {σ':St} {H':Hp} {v:V} {u:Value},Inv (mj CX P w K mg base N qual scope f cdv A outer s H E) [] σ' H' s'→RelV v u→Q v H'→CE outer P w H s Q u s' :=
  fun {σ' H' v u} J rv q=>⟨v,H',J.os,J.bare,J.base,J.hok,rv,q⟩
 cases fl with
 | ret u =>
  ob ⟨v,σ',H',J,rv,q⟩:=hs
  xt fin J rv q
 | next =>
  ob ⟨σ',H',J,q⟩:=hs
  xt fin (v:=V.non) (u:=Value.none) J rfl q
 | brk =>
  ob ⟨_,_,_,q⟩:=hs
  xt False.elim q
 | cont =>
  ob ⟨_,_,_,q⟩:=hs
  xt False.elim q
end L2
namespace L2
open PySem PySem.Spec PyProof.Rows
section
variable {X:Cx} {x:Str} {p pos:Pos} {e:Expr} {es:List Expr} {t:TA} {id T:String} {r:List V→Hp→VK→Prop}
def VP (r:List V→Hp→VK→Prop) (t:TA):TE:=fun σ H Q=>t σ H fun vs H1=>r vs H1 Q
theorem bc (hc:ir X (.builtin id) r) (hg:Gl X x) (hm:X.mg x = none) (hv:bootBuiltins x = some (.builtin id)) (ha:PA X (e :: es) t) (hn:x ≠ "__name__" := by decide) (hdb:(x == ("__debug__" : Str)) = false:=by decide)
 (he:starEach (e :: es) X.env = (false,eval e X.env) :: starEach es X.env:=by rfl) (hpl:(backTo pos (starEach es X.env)).any (·.1) = false:=by rfl):PE X (.Call (.Name x p) (e :: es) [] pos) (VP r t):=by
 intro pins s σ H Q I h
 rf wpAny_Call_Name_kw (uP I hg hm hv ?_ hn hdb)
 xt PyProof.Rows.callWith_builtin1 (dY (ha pos pins s σ H _ I h) fun us s1 ⟨vs,H1,I1,r1,q1⟩=>hc pins s1 σ H1 vs us Q I1 r1 q1) he hpl
theorem dq (hc:ir X (.type T) r) (hg:Gl X x) (hm:X.mg x = none) (hv:bootBuiltins x = some (.type T)) (ha:PA X (e :: es) t) (hn:x ≠ "__name__" := by decide) (hdb:(x == ("__debug__" : Str)) = false:=by decide)
 (he:starEach (e :: es) X.env = (false,eval e X.env) :: starEach es X.env:=by rfl) (hpl:(backTo pos (starEach es X.env)).any (·.1) = false:=by rfl):PE X (.Call (.Name x p) (e :: es) [] pos) (VP r t):=by
 intro pins s σ H Q I h
 rf wpAny_Call_Name_kw (uP I hg hm hv ?_ hn hdb)
 xt PyProof.Rows.callWith_type1 (dY (ha pos pins s σ H _ I h) fun us s1 ⟨vs,H1,I1,r1,q1⟩=>hc pins s1 σ H1 vs us Q I1 r1 q1) he hpl
end
end L2
namespace HT
open PySem PyProof.Rows
section
variable {prog:Program} {w:World} {A:Around} {E:Value→Shared→Prop} {s:Shared}
def uK (n d:Nat):Option Int→Nat
 | none=>d
 | some v=>if v < 0 then (v + (n:Int)).toNat else min v.toNat n
theorem Rq (n d:Nat) (hd:d≤n) (o:Option Int):uK n d o≤n:=by
 cases o with
 | none=>xt hd
 | some v =>
  show (if v < 0 then (v + (n:Int)).toNat else min v.toNat n)≤n
  by_cases hv:v < 0
  ·rw [if_pos hv]; omega
  ·rw [if_neg hv]; xt Nat.min_le_right _ _
end
end HT
namespace L2
open PySem PySem.Spec PyProof.Rows
abbrev TO:=St→Hp→(Option Int→Hp→Prop)→Prop
def PO (X:Cx) (e:Option Expr) (t:TO):Prop :=
 ∀ (pins:List (Addr×Obj)) (s:Shared) (σ : St) (H:Hp) (Q:Option Int→Hp→Prop),Inv X pins σ H s→t σ H Q →
  wpAny (model X.prog X.w) X.A (evalPart e X.env) (fun u s'=>∃ o H',Inv X pins σ H' s'∧IsPart u o∧Q o H') X.xe s
def Ly:TO:=fun _ H Q=>Q none H
def XS (t:TE):TO:=fun σ H Q=>t σ H fun x H1=>∃ i,x = .int i∧Q (some i) H1
section
variable {X:Cx} {e:Expr} {te:TE} {lo hi:Option Expr} {tl th:TO} {pos p2:Pos}
theorem tQ:PO X none Ly:=by
 intro pins s σ H Q I h
 rw [evalPart_none]
 xt wpAny_pure ⟨none,H,I,.none,h⟩
theorem nG (h:PE X e te):PO X (some e) (XS te):=by
 intro pins s σ H Q I hw
 rw [evalPart_some]
 rf dY (h pins s σ H _ I hw) fun u s1 ⟨x,H1,I1,r1,q1⟩=>?_
 ob ⟨i,rfl,q⟩:=q1
 ob ⟨t,rfl⟩:=r1
 xt ⟨some i,H1,I1,.int i t,q⟩
def YL (X:Cx) (r:V→Option Int→Option Int→Hp→VK→Prop):Prop :=
 ∀ (pins:List (Addr×Obj)) (s:Shared) (σ : St) (H:Hp) (x:V) (v vl vu:Value) (lo hi:Option Int) (sl:Addr) (Q:VK),Inv X pins σ H s→RelV x v→s.heap.IsSliceOf sl vl vu .none→IsPart vl lo→IsPart vu hi→r x lo hi H Q →
  ∃ T id,typeLookup (.type T) "__getitem__" = pure (some (.builtin id))∧s.TypeIs v T∧wpAny (model X.prog X.w) X.A (getItem v (.ref sl)) (EP X pins σ Q) X.xe s
theorem YL.or {r r':V→Option Int→Option Int→Hp→VK→Prop} (h:YL X r) (h':YL X r'):YL X (fun x lo hi H Q=>r x lo hi H Q∨r' x lo hi H Q):=by
 intro pins s σ H x v vl vu lo hi sl Q I rx hs pl pu q
 rcases q with q | q
 ·xt h pins s σ H x v vl vu lo hi sl Q I rx hs pl pu q
 ·xt h' pins s σ H x v vl vu lo hi sl Q I rx hs pl pu q
def tSl (r:V→Option Int→Option Int→Hp→VK→Prop) (te:TE) (tl th:TO):TE:=fun σ H Q=>te σ H fun x H1=>tl σ H1 fun l H2=>th σ H2 fun u H3=>r x l u H3 Q
theorem mR {r:V→Option Int→Option Int→Hp→VK→Prop} (hr:YL X r) (he:PE X e te) (hl:PO X lo tl) (hu:PO X hi th):PE X (.Subscript e (.Slice lo hi none p2) pos) (tSl r te tl th):=by
 intro pins s σ H Q I h
 rf Subscript_ (dY (he pins s σ H _ I h) fun v s1 ⟨x,H1,I1,r1,q1⟩=>?_)
 rf wpAny_Slice (dY (hl pins s1 σ H1 _ I1 q1) fun vl s2 ⟨l,H2,I2,pl,q2⟩=>dY (hu pins s2 σ H2 _ I2 q2) fun vu s3 ⟨u,H3,I3,pu,q3⟩=>?_)
 rw [evalPart_none]
 rf wpAny_pure ?_
 have I4:Inv X pins σ H3 { s3 with heap:=s3.heap.push { cls:=.type "slice", data:=.fields #[vl,vu,.none] } }:=I3.kept (t':=s3.toks) fun b ob q=>Heap.get?_push_of_some _ q
 ob ⟨T,id,hT,ht,hg⟩:=hr pins { s3 with heap:=s3.heap.push { cls:=.type "slice", data:=.fields #[vl,vu,.none] } } σ H3 x v vl vu l u s3.heap.objs.size Q I4 r1 (Heap.IsSliceOf.new ..) pl pu q3
 show wpAny (model X.prog X.w) X.A (subscriptTail e (.Slice lo hi none p2) v (.ref s3.heap.objs.size)) (EP X pins σ Q) X.xe { s3 with heap:=s3.heap.push { cls:=.type "slice", data:=.fields #[vl,vu,.none] } }
 xt tail_any (ops:=[.ref s3.heap.objs.size,v]) ht hT hg (by with_unfolding_all rfl)
def Qd (xs:List V) (lo hi:Option Int):List V:=(xs.drop (HT.uK xs.length 0 lo)).take (HT.uK xs.length xs.length hi - HT.uK xs.length 0 lo)
theorem I9 (xs:List V) (lo hi:Option Int):(Qd xs lo hi).length≤xs.length:=by
 unfold Qd
 rw [List.length_take,List.length_drop]
 omega
end
end L2
namespace L2
open PySem PySem.Spec PyProof.Rows
def BL (n:Nat) (i:Int):Option Nat:=if 0≤i then (if i < n then some i.toNat else none) else if -(n:Int)≤i then some (i + n).toNat else none
def wy {α : Type} (xs:List α) (i:Int):Option α:=(BL xs.length i).bind fun j=>xs[j]?
theorem M7 {n:Nat} {i:Int} {j:Nat} (h:BL n i = some j):seqIndex? i n = some j∧j < n∧-(n:Int)≤i∧i < n:=by
 unfold BL at h
 by_cases h0:0≤i
 ·rw [if_pos h0] at h
  by_cases h1:i < n
  ·rw [if_pos h1] at h
   have e:i.toNat = j:=Option.some.inj h
   xt ⟨by rw [seqIndex_of h0 h1,e],by omega,by omega,h1⟩
  ·rw [if_neg h1] at h; cases h
 ·rw [if_neg h0] at h
  by_cases h1:-(n:Int)≤i
  ·rw [if_pos h1] at h
   have e:(i + n).toNat = j:=Option.some.inj h
   xt ⟨by rw [seqIndex_neg ω h1,e],by omega,h1,by omega⟩
  ·rw [if_neg h1] at h; cases h
theorem Gs {α : Type} {xs:List α} {i:Int} {v:α} (h:wy xs i = some v):∃ j,seqIndex? i xs.length = some j∧xs[j]? = some v∧j < xs.length∧-(xs.length:Int)≤i∧i < xs.length:=by
 unfold wy at h
 cases e:BL xs.length i with
 | none=>rw [e] at h; cases h
 | some j =>
  rw [e] at h
  ob ⟨h1,h2,h3,h4⟩:=M7 e
  xt ⟨j,h1,h,h2,h3,h4⟩
def XD (b:Expr):Prop:=∀ o i,subscripted b false o i = operate [o,i] (getItem o i)
def XH (X:Cx) (r:R2):Prop :=
 ∀ (value slice:Expr) (pins:List (Addr×Obj)) (s:Shared) (σ : St) (H:Hp) (x y:V) (v u:Value) (Q:VK),Inv X pins σ H s→RelV x v→RelV y u→r x y H Q →
  subscripted slice false v u = operate [v,u] (getItem v u)→wpAny (model X.prog X.w) X.A (subscriptTail value slice v u) (EP X pins σ Q) X.xe s
def Vx (X:Cx) (id:String) (r:V→List V→Hp→VK→Prop):Prop :=
 ∀ (pins:List (Addr×Obj)) (s:Shared) (σ : St) (H:Hp) (x:V) (xs:List V) (v:Value) (us:List Value) (Q:VK),Inv X pins σ H s→RelV x v→Vals xs us→r x xs H Q →
  wpAny (model X.prog X.w) X.A (call (.builtin id) (v :: us)) (EP X pins σ Q) X.xe s
section
variable {X:Cx} {a b:Expr} {ta tb:TE} {pos:Pos}
theorem XH.or {r r':R2} (h:XH X r) (h':XH X r'):XH X (fun x y H Q=>r x y H Q∨r' x y H Q):=by
 intro value slice pins s σ H x y v u Q I rx ry q hs
 rcases q with q | q
 ·xt h value slice pins s σ H x y v u Q I rx ry q hs
 ·xt h' value slice pins s σ H x y v u Q I rx ry q hs
theorem cO {r:R2} (hr:XH X r) (ha:PE X a ta) (hb:PE X b tb) (hs:XD b):PE X (.Subscript a b pos) (tOp r ta tb):=by
 intro pins s σ H Q I h
 xt Subscript_ (aaB ha hb I h fun v u s2 x y H2 I2 rx ry q=>hr a b pins s2 σ H2 x y v u Q I2 rx ry q (hs _ _))
def abD (K:Φ):R2:=fun x y H Q=>∃ p xs i v,x = .ref p∧y = .int i∧uY K H p xs∧wy xs i = some v∧Q v H
def abB (K:Φ):R2:=fun x y H Q=>∃ p xs i v,x = .ref p∧y = .int i∧yR K H p xs∧wy xs i = some v∧Q v H
def abC:R2:=fun x y H Q=>∃ z i c,x = .str z∧y = .int i∧z.length≤sizeLine∧wy z.cps.toList i = some c∧Q (.str ⟨#[c]⟩) H
theorem WL:XH X (abD X.K):=by
 intro value slice pins s σ H x y v u Q I rx ry h hs
 ob ⟨p,xs,i,z,rfl,rfl,hq,he,q⟩:=h
 cases rx
 ob ⟨t,rfl⟩:=ry
 ob ⟨its,r,pl,hz⟩:=I.list hq
 ob ⟨j,h1,h2,h3,h4,h5⟩:=Gs he
 ob ⟨w,ew,rw'⟩:=r.get h2
 have hl:=r.length
 have hn:=xf
 have fin:EP X pins σ Q w s:=⟨z,H,I,rw',q⟩
 by_cases h0:0≤i
 ·have hj:i.toNat = j:=by
   rw [seqIndex_of h0 h5] at h1
   xt Option.some.inj h1
  xt item_listR pl.isList h0 ω (by rw [hj]; simpa using ew) fin hs
 ·have hj:(i + (its.toArray.size:Int)).toNat = j:=by
   rw [seqIndex_neg ω h4] at h1
   rw [List.size_toArray,← hl]
   xt Option.some.inj h1
  xt subscriptTail_builtinR (x:=w) pl.isList.typeIs slot_list_getitem.lookup
   (wpAny_getItem_list_neg (Q:=fun r s'=>r = w∧EP X pins σ Q r s') pl.isList ω (by rw [List.size_toArray] <;> omega) ω (by rw [hj]; simpa using ew) ⟨rfl,fin⟩) hs
theorem aab:XH X (abB X.K):=by
 intro value slice pins s σ H x y v u Q I rx ry h hs
 ob ⟨p,xs,i,z,rfl,rfl,hq,he,q⟩:=h
 cases rx
 ob ⟨t,rfl⟩:=ry
 ob ⟨its,r,pl,hz⟩:=I.tuple hq
 ob ⟨j,h1,h2,h3,h4,h5⟩:=Gs he
 ob ⟨w,ew,rw'⟩:=r.get h2
 have hl:=r.length
 have hn:=xf
 have fin:EP X pins σ Q w s:=⟨z,H,I,rw',q⟩
 xt subscriptTail_builtinR (x:=w) pl.typeIs slot_tuple_getitem.lookup
  (getItem_tuple (j:=j) (Q:=fun r s'=>r = w∧EP X pins σ Q r s') pl ω ω (by rw [List.size_toArray,← hl]; xt h1) (by simpa using ew) ⟨rfl,fin⟩) hs
theorem aac:XH X abC:=by
 intro value slice pins s σ H x y v u Q I rx ry h hs
 ob ⟨z,i,c,rfl,rfl,hz,he,q⟩:=h
 ob ⟨t,rfl⟩:=rx
 ob ⟨t',rfl⟩:=ry
 ob ⟨j,h1,h2,h3,h4,h5⟩:=Gs he
 have hl:z.cps.toList.length = z.length:=by simp [Str.length]
 rw [hl] at h1 h4 h5
 have hn:=xf
 xt tail_any (typeIs_str s z t) slot_str_getitem.lookup (getItem_str (c:=c) (by
  have e1:decide (i < -(2 ^ 63:Int)) = false:=decide_eq_false ω
  have e2:decide (i ≥ 2 ^ 63) = false:=decide_eq_false ω
  rw [e1,e2,Bool.or_false]) (by rw [h1]; simpa using h2) ⟨.str ⟨#[c]⟩,H,I.tok _,⟨_,rfl⟩,q⟩) hs
def rIx (K:Φ):R2:=fun x y H Q=>abD K x y H Q∨abB K x y H Q∨abC x y H Q
theorem bN:XH X (rIx X.K):=WL.or (aab.or aac)
theorem Kv (its:List Value) (n j:Nat) (u:Value):Obj.mapSeq (·.setIfInBounds j u) { cls:=.type "list", data:=.seq its.toArray n } = { cls:=.type "list", data:=.seq (its.set j u).toArray n }:=by
 simp [Obj.mapSeq]
theorem Inv.lst {pins:List (Addr×Obj)} {σ : St} {H:Hp} {s:Shared} {p:Addr} {xs:List V} (I:Inv X pins σ H s) (h:H p = some (.lst xs)) :
 ∃ (its:List Value) (n:Nat),Vals xs its∧s.heap.get? p = some { cls:=.type "list", data:=.seq its.toArray n }∧xs.length≤sizeLine:=by
 ob ⟨z,its,n,r,e⟩:=I.hok p _ h
 xt ⟨its,n,r,e,z⟩
theorem Inv.Z1 {pins:List (Addr×Obj)} {σ : St} {H:Hp} {s:Shared} {p:Addr} {xs ys:List V} {its its':List Value} {n n':Nat} {f:Obj→Obj} (I:Inv X pins σ H s) (h:H p = some (.lst xs))
 (ho:s.heap.get? p = some { cls:=.type "list", data:=.seq its.toArray n }) (hf:f { cls:=.type "list", data:=.seq its.toArray n } = { cls:=.type "list", data:=.seq its'.toArray n' }) (r:Vals ys its') (hz:ys.length≤sizeLine) (t:Nat) :
 Inv X pins σ (upd H p (.lst ys)) { s with heap:=s.heap.update p f,toks:=t }:=by
 have e:(s.heap.update p f).get? p = some { cls:=.type "list", data:=.seq its'.toArray n' }:=by
  rw [Heap.get?_update_self f ho (by rw [hf] <;> rfl),hf]
 rf I.write (x:=p) (e:=p) (by rw [h]; trivial) (.inl rfl) (fun b u hb q=>(Heap.get?_update_other _ _ (Ne.symm hb)).trans q) ⟨_,e⟩ ?_
 xt ⟨hz,its',n',r,e⟩
def X7:V→V→V→Hp→(Hp→Prop)→Prop:=fun o i v H Q=>∃ p xs k j,o = .ref p∧i = .int k∧H p = some (.lst xs)∧BL xs.length k = some j∧Q (upd H p (.lst (xs.set j v)))
theorem set_list:acV X X7:=by
 intro pins s σ H o i v ov iv u Q I ro ri rv h
 ob ⟨p,xs,k,j,rfl,rfl,hp,hj,q⟩:=h
 cases ro
 ob ⟨t,rfl⟩:=ri
 ob ⟨its,n,r,ho,hz⟩:=I.lst hp
 ob ⟨h1,h2,h3,h4⟩:=M7 hj
 have hl:=r.length
 have hn:=xf
 have I':Inv X pins σ (upd H p (.lst (xs.set j v))) { s with heap:=s.heap.update p (Obj.mapSeq (·.setIfInBounds j u)) } :=
  I.Z1 hp ho (Kv its n j u) (r.set rv j) (by rw [List.length_set]; xt hz) s.toks
 by_cases h0:0≤k
 ·have hk:k.toNat = j:=by
   rw [seqIndex_of h0 h4] at h1
   xt Option.some.inj h1
  xt PySem.W.ki_setAt ho h0 ω (by rw [List.size_toArray,← hl]; xt h4) (by rw [hk]; xt ⟨_,I',q⟩)
 ·have hk:(k + (its.toArray.size:Int)).toNat = j:=by
   rw [seqIndex_neg ω h3] at h1
   rw [List.size_toArray,← hl]
   xt Option.some.inj h1
  xt PySem.W.ki_setBack ho ω (by rw [List.size_toArray,← hl]; xt h3) ω (by rw [hk]; xt ⟨_,I',q⟩)
theorem Eh (lo hi:Option Int) (n:Nat):(sliceBounds lo hi none n).1 = ((HT.uK n 0 lo:Nat):Int)∧(sliceBounds lo hi none n).2.1 = ((HT.uK n n hi:Nat):Int)∧(sliceBounds lo hi none n).2.2 = 1:=by
 rf ⟨?_,?_,rfl⟩
 ·cases lo with
  | none=>simp [sliceBounds,HT.uK]
  | some i =>
   simp only [sliceBounds,HT.uK,Option.getD_none,show (1:Int) > 0 by decide,if_true]
   by_cases h:i < 0
   ·simp only [h,if_true] <;> omega
   ·simp only [h,if_false] <;> omega
 ·cases hi with
  | none=>simp [sliceBounds,HT.uK]
  | some i =>
   simp only [sliceBounds,HT.uK,Option.getD_none,show (1:Int) > 0 by decide,if_true]
   by_cases h:i < 0
   ·simp only [h,if_true] <;> omega
   ·simp only [h,if_false] <;> omega
theorem Bt (its:List Value) (lo hi:Option Int):slicePick its.toArray lo hi none = ((its.drop (HT.uK its.length 0 lo)).take (HT.uK its.length its.length hi - HT.uK its.length 0 lo)).toArray:=by
 ob ⟨h1,h2,h3⟩:=Eh lo hi its.toArray.size
 unfold slicePick
 rw [h1,h2,h3]
 simp only [sliceRange_one,pick_run,List.size_toArray] <;> rfl
def abw (K:Φ):V→Option Int→Option Int→Hp→VK→Prop:=fun x lo hi H Q=>∃ a xs,x = .ref a∧uY K H a xs∧∀ p,H p = none→Q (.ref p) (upd H p (.lst (Qd xs lo hi)))
theorem V1:YL X (abw X.K):=by
 intro pins s σ H x v vl vu lo hi sl Q I rx hs pl pu h
 ob ⟨a,xs,rfl,hx,q⟩:=h
 cases rx
 ob ⟨its,r,ht,hz⟩:=I.list hx
 have hlen:=r.length
 rf ⟨"list", _,slot_list_getitem.lookup,ht.isList.typeIs,?_⟩
 rf wpAny_getItem_list_slice ht.isList hs pl pu .none (by simp) ?_ (by rw [List.size_toArray] <;> omega)
 rw [Bt,← hlen]
 rf ⟨.ref s.heap.objs.size,_,I.laid (t':=s.toks) (o:=.lst (Qd xs lo hi)) (fun b ob q=>Heap.get?_push_of_some _ q) (Nat.le_refl _) ?_,rfl,q _ (I.hok.fresh (Nat.le_refl _))⟩
 xt ⟨Nat.le_trans (I9 xs lo hi) hz,_,0,(r.drop (HT.uK xs.length 0 lo)).take (HT.uK xs.length xs.length hi - HT.uK xs.length 0 lo),Heap.get?_push_size _ rfl⟩
def Ub:V→Bool
 | .non=>true
 | .bl _=>true
 | .int _=>true
 | .str _=>true
 | _=>false
def eqV:V→V→Bool
 | .non,.non=>true
 | .bl a,.bl b=>a == b
 | .bl a,.int b=>(if a then 1 else 0) == b
 | .int a,.bl b=>a == (if b then 1 else 0)
 | .int a,.int b=>a == b
 | .str a,.str b=>a == b
 | _,_=>false
theorem aar {A:Around} {s:Shared} {y x:V} {u v:Value} (ry:RelV y u) (rx:RelV x v) (fy:Ub y = true) (fx:Ub x = true):SeqAt.EqAt A s u v (eqV y x):=by
 cases y with
 | non =>
  cases ry
  cases x with
  | non=>cases rx; xt SeqAt.EqAt.same _
  | bl b=>cases rx; xt SeqAt.EqAt.none_bool b
  | int b=>ob ⟨t,rfl⟩:=rx; xt SeqAt.EqAt.none_int b t
  | str b=>ob ⟨t,rfl⟩:=rx; xt SeqAt.EqAt.none_str b t
  | _=>xt absurd (show false = true from fx) Bool.false_ne_true
 | bl a =>
  cases ry
  cases x with
  | non=>cases rx; xt SeqAt.EqAt.bool_none a
  | bl b=>cases rx; xt SeqAt.EqAt.bool_bool a b
  | int b=>ob ⟨t,rfl⟩:=rx; xt SeqAt.EqAt.bool_int a b t
  | str b=>ob ⟨t,rfl⟩:=rx; xt SeqAt.EqAt.bool_str a b t
  | _=>xt absurd (show false = true from fx) Bool.false_ne_true
 | int a =>
  ob ⟨t',rfl⟩:=ry
  cases x with
  | non=>cases rx; xt SeqAt.EqAt.int_none a t'
  | bl b=>cases rx; xt SeqAt.EqAt.int_bool a t' b
  | int b=>ob ⟨t,rfl⟩:=rx; xt SeqAt.EqAt.int_int a t' b t
  | str b=>ob ⟨t,rfl⟩:=rx; xt SeqAt.EqAt.int_str a t' b t
  | _=>xt absurd (show false = true from fx) Bool.false_ne_true
 | str a =>
  ob ⟨t',rfl⟩:=ry
  cases x with
  | non=>cases rx; xt SeqAt.EqAt.str_none a t'
  | bl b=>cases rx; xt SeqAt.EqAt.str_bool a t' b
  | int b=>ob ⟨t,rfl⟩:=rx; xt SeqAt.EqAt.str_int a t' b t
  | str b=>ob ⟨t,rfl⟩:=rx; xt SeqAt.EqAt.str_str a t' b t
  | _=>xt absurd (show false = true from fx) Bool.false_ne_true
 | _=>xt absurd (show false = true from fy) Bool.false_ne_true
theorem Gn:ir X (.type "list") (fun xs H Q=>∃ p ys,xs = [.ref p]∧(uY X.K H p ys∨yR X.K H p ys)∧∀ l,H l = none→Q (.ref l) (upd H l (.lst ys))):=by
 intro pins s σ H xs us Q I r h
 ob ⟨p,ys,rfl,hq,q⟩:=h
 ob ⟨u,rfl,rx⟩:=vals1 r
 cases rx
 have fin:∀ (its:List Value),Vals ys its→ys.length≤sizeLine→∀ (h':Heap) (c':Nat),(∀ b o',s.heap.get? b = some o'→h'.get? b = some o') →
  h'.get? s.heap.objs.size = some { cls:=.type "list", dict:=none,data:=.seq its.toArray c',slots:=#[] }→EP X pins σ Q (.ref s.heap.objs.size) { s with heap:=h' }:=fun its r' hz h' c' kp e =>
  ⟨.ref s.heap.objs.size,_,I.laid (t':=s.toks) kp (Nat.le_refl _) (show bY X.prog X.w _ h' _ (.lst ys) from ⟨hz,its,c',r',e⟩),rfl,q _ (I.hok.fresh (Nat.le_refl _))⟩
 rcases hq with hq | hq
 ·ob ⟨its,r',pl,hz⟩:=I.list hq
  have hlen:=r'.length
  ob ⟨o,ho,hc,n,hd⟩:=pl.isList
  xt call_list_seq p (.inl rfl) ho hc hd (fun h' c' kp e=>fin its r' hz h' c' kp e) (by simp only [List.size_toArray] <;> omega)
 ·ob ⟨its,r',pl,hz⟩:=I.tuple hq
  have hlen:=r'.length
  ob ⟨o,ho,hc,n,hd⟩:=pl
  xt call_list_seq p (.inr rfl) ho hc hd (fun h' c' kp e=>fin its r' hz h' c' kp e) (by simp only [List.size_toArray] <;> omega)
theorem BV:ir X (.type "tuple") (fun xs H Q=>∃ p ys,xs = [.ref p]∧((uY X.K H p ys∧∀ l,H l = none→Q (.ref l) (upd H l (.tup ys)))∨(yR X.K H p ys∧Q (.ref p) H))):=by
 intro pins s σ H xs us Q I r h
 ob ⟨p,ys,rfl,h⟩:=h
 ob ⟨u,rfl,rx⟩:=vals1 r
 cases rx
 rcases h with ⟨hq,q⟩ | ⟨hq,q⟩
 ·ob ⟨its,r',pl,hz⟩:=I.list hq
  have hlen:=r'.length
  rf call_tuple_list pl.isList (fun h' kp=>?_) (by simp only [List.size_toArray] <;> omega)
  have I1:Inv X pins σ H { s with heap:=h' }:=I.kept (t':=s.toks) kp
  have I2:Inv X pins σ (upd H h'.objs.size (.tup ys)) { s with heap:=h'.push { cls:=.type "tuple", data:=.seq its.toArray } } :=
   I1.laid (t':=s.toks) (fun b o e=>Heap.get?_push_of_some _ e) (Nat.le_refl _) (show bY X.prog X.w _ _ _ (.tup ys) from ⟨hz,its,r',Qu.new _ _⟩)
  xt ⟨.ref h'.objs.size,_,I2,rfl,q _ (I1.hok.fresh (Nat.le_refl _))⟩
 ·ob ⟨its,r',pl,hz⟩:=I.tuple hq
  xt call_tuple_same pl ⟨.ref p,H,I,rfl,q⟩
def tyV (K:Φ) (T:String) (x:V) (H:Hp):Prop:=match x with
 | .str _=>T = "str"
 | .int _=>T = "int"
 | .ref p=>(T = "list" ∧ ∃ xs,uY K H p xs)∨(T = "tuple" ∧ ∃ o,K.lookup p = some o∧o.cls = .type "tuple" ∧ o.dict = none) ∨
  (T = "dict" ∧ ((∃ kvs,H p = some (.dK kvs))∨∃ kvs,H p = some (.dT kvs)))∨(T = "set" ∧ ∃ S n,H p = some (.set S n))
 | _=>False
theorem JQ {pins:List (Addr×Obj)} {σ : St} {H:Hp} {s:Shared} {T:String} {x:V} {v:Value} (I:Inv X pins σ H s) (r:RelV x v) (ty:tyV X.K T x H) :
 s.TypeIs v T∧∀ a,v = .ref a→∃ ob,s.heap.get? a = some ob∧ob.dict = none:=by
 cases x with
 | str z =>
  ob ⟨t,rfl⟩:=r
  cases (show T = "str" from ty)
  xt ⟨typeIs_str s z t,fun _ e=>nomatch e⟩
 | int i =>
  ob ⟨t,rfl⟩:=r
  cases (show T = "int" from ty)
  xt ⟨typeIs_int s i t,fun _ e=>nomatch e⟩
 | ref p =>
  cases r
  rcases ty with ⟨rfl,xs,hq⟩ | ⟨rfl,o,hk,hc,hd⟩ | ⟨rfl,hk⟩ | ⟨rfl,S,n,hk⟩
  ·ob ⟨its,_,pl,_⟩:=I.list hq
   rf ⟨pl.isList.typeIs,fun a e=>?_⟩
   cases e
   ob ⟨o,n,e,c,hd,_⟩:=pl
   xt ⟨o,e,hd⟩
  ·rf ⟨⟨o,I.yw p o hk,hc⟩,fun a e=>?_⟩
   cases e
   xt ⟨o,I.yw _ o hk,hd⟩
  ·have z:∃ o,s.heap.get? p = some o∧o.ExactDict:=by
    rcases hk with ⟨kvs,hk⟩ | ⟨kvs,hk⟩
    ·ob ⟨_,_,_,_,o,_,_,e,ex,_⟩:=I.hok p _ hk
     xt ⟨o,e,ex⟩
    ·ob ⟨_,_,_,_,o,_,_,e,ex,_⟩:=I.hok p _ hk
     xt ⟨o,e,ex⟩
   ob ⟨o,e,ex⟩:=z
   rf ⟨⟨o,e,ex.1⟩,fun a e2=>?_⟩
   cases e2
   xt ⟨o,e,ex.2.1⟩
  ·ob ⟨o,_,_,_,e,ex,_⟩:=I.hok p _ hk
   rf ⟨⟨o,e,ex.1⟩,fun a e2=>?_⟩
   cases e2
   xt ⟨o,e,ex.2.1⟩
 | _=>xt False.elim ty
def abg (K:Φ) (T:String) (r:V→List V→Hp→VK→Prop) (to:TE):TE:=fun σ H Q=>to σ H fun x H1=>tyV K T x H1∧r x [] H1 Q
def tBM (K:Φ) (T:String) (r:V→List V→Hp→VK→Prop) (to:TE) (t:TA):TE:=fun σ H Q=>to σ H fun x H1=>tyV K T x H1∧t σ H1 fun xs H2=>r x xs H2 Q
variable {o e:Expr} {es:List Expr} {to:TE} {t:TA} {name:Str} {apos cpos:Pos} {T id:String} {r:V→List V→Hp→VK→Prop}
theorem Zx (pa:PlainAttrs T) (slot:Slot T name id) (hty:typeOf (.builtin id) = pure (.type "method_descriptor")) (hm:Vx X id r) (ho:PE X o to)
 (hbase:attributeBase o name X.env (eval o X.env) = eval o X.env:=by rfl) (hline:(apos.endLine == cpos.line) = true:=by rfl):PE X (.Call (.Attribute o name apos) [] [] cpos) (abg X.K T r to):=by
 intro pins s σ H Q I h
 rf wpAny_Call_method0_late hbase hline (dY (ho pins s σ H _ I h) fun v s1 ⟨x,H1,I1,r1,ty,q1⟩=>?_)
 ob ⟨h1,h2⟩:=JQ I1 r1 ty
 xt ⟨T,id,pa,slot,hty,h1,h2,Calls.callWith_builtin rfl (PySem.evalArgs_none (hm pins s1 σ H1 x [] v [] Q I1 r1 .nil q1))⟩
theorem mU (pa:PlainAttrs T) (slot:Slot T name id) (hty:typeOf (.builtin id) = pure (.type "method_descriptor")) (hm:Vx X id r) (ho:PE X o to) (ha:PA X (e :: es) t)
 (hbase:attributeBase o name X.env (eval o X.env) = eval o X.env:=by rfl)
 (hfew:((backTo cpos (starEach (e :: es) X.env)).all (fun x=>!x.1) && (backToKw cpos (keywordEach [] X.env)).all (fun x=>x.1.isSome)
  && decide ((e :: es).length + ([]:List Keyword).length + (if ([]:List Keyword).isEmpty then 0 else 1) < 30)) = true:=by rfl)
 (hline:(apos.endLine == cpos.line) = true:=by rfl) (hs:starEach (e :: es) X.env = (false,eval e X.env) :: starEach es X.env:=by rfl) (hplain:(backTo cpos (starEach es X.env)).any (·.1) = false:=by rfl) :
 PE X (.Call (.Attribute o name apos) (e :: es) [] cpos) (tBM X.K T r to t):=by
 intro pins s σ H Q I h
 rf wpAny_Call_method_late hbase hfew hline rfl (dY (ho pins s σ H _ I h) fun v s1 ⟨x,H1,I1,r1,ty,q1⟩=>?_)
 ob ⟨h1,h2⟩:=JQ I1 r1 ty
 rf ⟨T,id,pa,slot,hty,h1,h2,?_⟩
 have hA:=ha cpos pins s1 σ H1 _ I1 q1
 rw [hs] at hA ⊢
 rf Calls.callWith_builtin (by show (false || (backTo cpos (starEach es X.env)).any (·.1)) = false; rw [hplain] <;> rfl) (Calls.evalArgs_plain ?_)
 xt dY hA fun us s2 ⟨vs,H2,I2,r2,q2⟩=>hm pins s2 σ H2 x vs v us Q I2 r1 r2 q2
end
end L2
namespace L2
open PySem PySem.Spec PyProof.Rows
def MtM (X:Cx) (id:String) (r:V→List V→Hp→VK→Prop):Prop :=
 ∀ (pins:List (Addr×Obj)) (s:Shared) (σ : St) (H:Hp) (x:V) (xs:List V) (v:Value) (us:List Value) (Q:VK),Inv X pins σ H s→RelV x v→Vals xs us→r x xs H Q →
  wpAny (model X.prog X.w) X.A (call (.builtin id) (v :: us)) (EP X pins σ Q) X.xe s
theorem Vals.one:∀ {x:V} {us:List Value},Vals [x] us→∃ u,us = [u]∧RelV x u
 | _,_,.cons r .nil=>⟨_,rfl,r⟩
theorem Vals.eraseIdx:∀ {xs:List V} {us:List Value} (i:Nat),Vals xs us→Vals (xs.eraseIdx i) (us.eraseIdx i)
 | _,_,_,.nil=>.nil
 | _,_,0,.cons _ t=>t
 | _,_,i + 1,.cons r t=>.cons r (Vals.eraseIdx i t)
theorem CG {α : Type}:∀ (l:List α) (i:Nat),(l.eraseIdx i).length≤l.length
 | [],_=>Nat.le_refl _
 | _ :: _,0=>Nat.le_succ _
 | _ :: r,i + 1=>Nat.succ_le_succ (CG r i)
section
variable {X:Cx} {pins:List (Addr×Obj)} {σ : St} {H:Hp} {s:Shared} {l b:Addr} {xs ys zs:List V}
theorem Inv.acf {its its':List Value} {n:Nat} {f:Array Value→Array Value} {t':Nat} (I:Inv X pins σ H s) (hH:H l = some (.lst xs))
 (e:s.heap.get? l = some { cls:=.type "list", data:=.seq its.toArray n }) (hf:f its.toArray = its'.toArray) (hv:Vals ys its') (hz:ys.length≤sizeLine) :
 Inv X pins σ (upd H l (.lst ys)) { s with heap:=s.heap.update l (Obj.mapSeq f),toks:=t' }:=by
 have q:=PySem.IsL.update e f
 rw [hf] at q
 rf I.write (x:=l) (e:=l) (by rw [hH]; xt trivial) (.inl rfl) (fun b' u hb hu=>(Heap.get?_update_other s.heap (Obj.mapSeq f) (Ne.symm hb)).trans hu) ⟨_,q⟩ ?_
 xt ⟨hz,its',_,hv,q⟩
theorem Inv.adN {its:List Value} {t':Nat} (I:Inv X pins σ H s) (hv:Vals ys its) (hz:ys.length≤sizeLine) :
 Inv X pins σ (upd H s.heap.objs.size (.lst ys)) { s with heap:=s.heap.push { cls:=.type "list", data:=.seq its.toArray },toks:=t' } :=
 I.laid (fun _ _ q=>Heap.get?_push_of_some _ q) (Nat.le_refl _) ⟨hz,its,0,hv,Heap.get?_push_size _ rfl⟩
theorem Inv.fresh (I:Inv X pins σ H s):H s.heap.objs.size = none:=I.hok.fresh (Nat.le_refl _)
theorem Inv.ace (I:Inv X pins σ H s) (hH:H l = some (.lst xs)):xs.length≤sizeLine∧∃ (its:List Value) (n:Nat),Vals xs its∧xs.length = its.length∧s.heap.get? l = some { cls:=.type "list", data:=.seq its.toArray n }:=by
 ob ⟨z,its,n,r,e⟩:=I.hok l _ hH
 xt ⟨z,its,n,r,r.length,e⟩
end
section
variable {X:Cx}
def Em:V→List V→Hp→VK→Prop:=fun x vs H Q=>∃ l xs y,x = .ref l∧vs = [y]∧H l = some (.lst xs)∧xs.length < sizeLine∧Q .non (upd H l (.lst (xs ++ [y])))
theorem d8:MtM X "list.append" Em:=by
 intro pins s σ H x vs v us Q I rx rv h
 ob ⟨l,xs,y,rfl,rfl,hH,hz,q⟩:=h
 cases rx
 ob ⟨u,rfl,ru⟩:=rv.one
 ob ⟨z,its,n,r,hl,e⟩:=I.ace hH
 rf call_meets F.slot_list_append ⟨_,e,rfl⟩ F.entry_list_append (F.args_list_append_2 _ _) (PySem.list_append l its.toArray n u (by rw [List.size_toArray]; omega)) ⟨e,?_⟩
 rf ⟨.non,_,I.acf (its':=its ++ [u]) hH e (by simp) (r.append (.cons ru .nil)) ?_,rfl,q⟩
 rw [List.length_append,List.length_singleton]
 omega
def Rz:V→List V→Hp→VK→Prop:=fun x vs H Q=>∃ l xs i k y,x = .ref l∧vs = [.int i]∧H l = some (.lst xs)∧-(2 ^ 63)≤i∧i < 2 ^ 63∧seqIndex? i xs.length = some k∧xs[k]? = some y∧Q y (upd H l (.lst (xs.eraseIdx k)))
theorem S8:MtM X "list.pop" Rz:=by
 intro pins s σ H x vs v us Q I rx rv h
 ob ⟨l,xs,i,k,y,rfl,rfl,hH,h1,h2,hk,hy,q⟩:=h
 cases rx
 ob ⟨u,rfl,ru⟩:=rv.one
 ob ⟨t,rfl⟩:=ru
 ob ⟨z,its,n,r,hl,e⟩:=I.ace hH
 ob ⟨w,hw,rw'⟩:=r.get hy
 rf call_meets F.slot_list_pop ⟨_,e,rfl⟩ F.entry_list_pop (F.args_list_pop_2 _ _)
  (MeetsSeq.list_pop_at l its.toArray n i t k w (fitsIndex_both h1 h2) (by rw [List.size_toArray,← hl]; xt hk) (by rw [← Array.getElem?_toList]; xt hw) (by rw [List.size_toArray]; omega)) ⟨e,?_⟩
 rf ⟨y,_,I.acf (its':=its.eraseIdx k) hH e ?_ (r.eraseIdx k) ?_,rw',q⟩
 ·show its.toArray.eraseIdxIfInBounds k = (its.eraseIdx k).toArray
  rw [List.eraseIdxIfInBounds_toArray]
 ·have:=CG xs k
  omega
end
end L2
namespace L2
open PySem PySem.Spec PyProof.Rows
section
variable {κ : Type} [DecidableEq κ]
def uE (kvs:List (κ×V)) (k:κ):Option V:=(kvs.find? fun kv=>decide (kv.1 = k)).map (·.2)
def putK (kvs:List (κ×V)) (k:κ) (v:V):List (κ×V) :=
 if (kvs.any fun kv=>decide (kv.1 = k)) = true then kvs.map (fun kv=>if kv.1 = k then (kv.1,v) else kv) else kvs ++ [(k,v)]
theorem zg {p:κ×V} {r:List (κ×V)} {k:κ} (e:p.1 = k):uE (p :: r) k = some p.2:=by simp [uE,List.find?_cons,e]
theorem zj {p:κ×V} {r:List (κ×V)} {k:κ} (e:¬ p.1 = k):uE (p :: r) k = uE r k:=by simp [uE,List.find?_cons,e]
theorem G5 (k:κ):∀ kvs:List (κ×V),(kvs.any fun kv=>decide (kv.1 = k)) = (uE kvs k).isSome
 | []=>rfl
 | p :: r=>by
  rw [List.any_cons]
  by_cases e:p.1 = k
  ·simp only [zg e,decide_eq_true e,Bool.true_or,Option.isSome_some]
  ·rw [zj e,decide_eq_false e,Bool.false_or]; xt G5 k r
theorem ye (kvs:List (κ×V)) (k:κ) (v:V):(putK kvs k v).length≤kvs.length + 1:=by
 unfold putK
 split
 ·rw [List.length_map]; omega
 ·rw [List.length_append,List.length_cons,List.length_nil]; omega
theorem Ln.xg {o:Option V} {u:Option Value} (r:Ln o u):o.isSome = u.isSome:=by
 cases o with
 | none=>cases u with
  | none=>rfl
  | some _=>xt (show False from r).elim
 | some _=>cases u with
  | none=>xt (show False from r).elim
  | some _=>rfl
theorem KV.val {kvs:List (κ×V)} {vs:List (κ×Value)} (r:KV kvs vs) (k:κ):Ln (uE kvs k) (valueAt vs k):=by
 unfold KV at r
 induction r with
 | nil=>xt True.intro
 | @cons p q ps qs h t ih =>
  ob ⟨h1,h2⟩:=h
  by_cases e:p.1 = k
  ·have e':q.1 = k:=h1.symm.trans e
   have b:valueAt (q :: qs) k = some q.2:=by simp [valueAt,List.find?_cons,e']
   rw [zg e,b]; xt h2
  ·have e':¬ q.1 = k:=fun z=>e (h1.trans z)
   have b:valueAt (q :: qs) k = valueAt qs k:=by simp [valueAt,List.find?_cons,e']
   rw [zj e,b]; xt ih
theorem KV.any {kvs:List (κ×V)} {vs:List (κ×Value)} (r:KV kvs vs) (k:κ):(kvs.any fun kv=>decide (kv.1 = k)) = vs.any fun kv=>decide (kv.1 = k):=by
 unfold KV at r
 induction r with
 | nil=>rfl
 | cons h t ih=>rw [List.any_cons,List.any_cons,ih,h.1]
theorem KV.repl {kvs:List (κ×V)} {vs:List (κ×Value)} (r:KV kvs vs) (k:κ) {y:V} {u:Value} (ry:RelV y u) :
 KV (kvs.map fun kv=>if kv.1 = k then (kv.1,y) else kv) (vs.map fun kv=>if kv.1 = k then (kv.1,u) else kv):=by
 unfold KV at r ⊢
 induction r with
 | nil=>xt .nil
 | @cons p q ps qs h t ih =>
  rw [List.map_cons,List.map_cons]
  rf .cons ?_ ih
  ob ⟨h1,h2⟩:=h
  by_cases e:p.1 = k
  ·rw [if_pos e,if_pos (h1.symm.trans e)]; xt ⟨h1,ry⟩
  ·rw [if_neg e,if_neg (fun z=>e (h1.trans z))]; xt ⟨h1,h2⟩
theorem KV.put {kvs:List (κ×V)} {vs:List (κ×Value)} (r:KV kvs vs) (k:κ) {y:V} {u:Value} (ry:RelV y u):KV (putK kvs k y) (stored vs k u):=by
 unfold putK stored
 rw [r.any k]
 by_cases e:(vs.any fun kv=>decide (kv.1 = k)) = true
 ·rw [if_pos e,if_pos e]; xt r.repl k ry
 ·rw [if_neg e,if_neg e]; xt Paired.snoc r ⟨rfl,ry⟩
theorem KV.length {kvs:List (κ×V)} {vs:List (κ×Value)} (r:KV kvs vs):kvs.length = vs.length:=Paired.length r
end
theorem TQ {P:Program} {w:World} {k:Key} {u:Value} (r:RelV (kV k) u):(gD P w).is k u = true:=by
 cases k with
 | inl i=>ob ⟨t,e⟩:=(show ∃ t,u = Value.int i t from r); subst e; xt HQ P w i t
 | inr x=>ob ⟨t,e⟩:=(show ∃ t,u = Value.str x t from r); subst e; xt HN P w x t
theorem CN {P:Program} {w:World}:∀ {ks:List Key} {us:List Value},Vals (ks.map kV) us→ItemsAre (gD P w) ks us
 | [],_,r=>by rw [List.map_nil] at r; cases r; xt .nil
 | k :: ks,_,r=>by
  rw [List.map_cons] at r
  cases r with
  | cons h t=>xt .cons (TQ h) (CN t)
abbrev KT (H:Hp):List (List Key×V)→List (List Key×Addr×Value)→Prop:=Paired fun p q=>p.1 = q.1∧H q.2.1 = some (.tup (p.1.map kV))∧RelV p.2 q.2.2
theorem KT.val {H:Hp} {kvs:List (List Key×V)} {xs:List (List Key×Addr×Value)} (r:KT H kvs xs) (k:List Key):Ln (uE kvs k) ((atKey xs k).map (·.2)):=by
 induction r with
 | nil=>xt True.intro
 | @cons p q ps qs h t ih =>
  ob ⟨h1,_,h2⟩:=h
  by_cases e:p.1 = k
  ·have e':q.1 = k:=h1.symm.trans e
   have b:atKey (q :: qs) k = some q.2:=by simp [atKey,List.find?_cons,e']
   rw [zg e,b]; xt h2
  ·have e':¬ q.1 = k:=fun z=>e (h1.trans z)
   have b:atKey (q :: qs) k = atKey qs k:=by simp [atKey,List.find?_cons,e']
   rw [zj e,b]; xt ih
theorem KT.repl {H:Hp} {kvs:List (List Key×V)} {xs:List (List Key×Addr×Value)} (r:KT H kvs xs) (k:List Key) {y:V} {u:Value} (ry:RelV y u) :
 KT H (kvs.map fun kv=>if kv.1 = k then (kv.1,y) else kv) (xs.map (putAt k u)):=by
 induction r with
 | nil=>xt .nil
 | @cons p q ps qs h t ih =>
  rw [List.map_cons,List.map_cons]
  rf .cons ?_ ih
  ob ⟨h1,h2,h3⟩:=h
  unfold putAt
  by_cases e:p.1 = k
  ·rw [if_pos e,if_pos (h1.symm.trans e)]; xt ⟨h1,h2,ry⟩
  ·rw [if_neg e,if_neg (fun z=>e (h1.trans z))]; xt ⟨h1,h2,h3⟩
theorem KT.put {H:Hp} {kvs:List (List Key×V)} {xs:List (List Key×Addr×Value)} (r:KT H kvs xs) (k:List Key) {b:Addr} {y:V} {u:Value} (hb:H b = some (.tup (k.map kV))) (ry:RelV y u) :
 KT H (putK kvs k y) (storedH xs k b u):=by
 have e:(kvs.any fun kv=>decide (kv.1 = k)) = (atKey xs k).isSome:=by
  rw [G5,(r.val k).xg,Option.isSome_map]
 unfold putK storedH
 rw [e]
 by_cases q:(atKey xs k).isSome = true
 ·rw [if_pos q,if_pos q]; xt r.repl k ry
 ·rw [if_neg q,if_neg q]; xt Paired.snoc r ⟨rfl,hb,ry⟩
theorem KT.keeps {H H':Hp} {kvs:List (List Key×V)} {xs:List (List Key×Addr×Value)} (r:KT H kvs xs) (ht:∀ b ys,H b = some (.tup ys)→H' b = some (.tup ys)):KT H' kvs xs :=
 Paired.Z0 r fun _ _ z=>⟨z.1,ht _ _ z.2.1,z.2.2⟩
section
variable {P:Program} {w:World} {H:Hp} {h:Heap} {a:Addr}
theorem X6 {u:HO} (ok:pW P w H h) (e:Rd H a u):bY P w H h a u:=e.ok ok
theorem Yx {kvs:List (Key×V)} (ok:pW P w H h) (e:Rd H a (.dK kvs)):kvs.length≤sizeLine∧(a == sysModules) = false∧∃ vs,KV kvs vs∧h.DictOf (gD P w) a vs :=
 show bY P w H h a (.dK kvs) from X6 ok e
theorem acG {kvs:List (Key×V)} (ok:pW P w H h) (e:H a = some (.dK kvs)):kvs.length≤sizeLine∧(a == sysModules) = false∧∃ vs,KV kvs vs∧h.DictOf (gD P w) a vs:=Yx ok (.inl e)
theorem KC {ks:List Key} (ok:pW P w H h) (e:H a = some (.tup (ks.map kV))):(tupleKind (gD P w)).is h ks a:=by
 ob ⟨_,its,r,o,h1,h2,_,n,h3⟩:=(show bY P w H h a (.tup (ks.map kV)) from ok a _ e)
 xt ⟨o,its.toArray,n,h1,h2,h3,by simpa using CN r⟩
theorem Yw {kvs:List (List Key×V)} (ok:pW P w H h) (e:Rd H a (.dT kvs)):kvs.length≤sizeLine∧(a == sysModules) = false ∧
 ∃ xs,KT H kvs xs∧h.DictOfH (tupleKind (gD P w)) a xs:=by
 ob ⟨z,y,xs,r,o,es,ep,h1,h2,h3,h4,h5⟩:=(show bY P w H h a (.dT kvs) from X6 ok e)
 rf ⟨z,y,xs,r,o,es,ep,h1,h2,h3,h4,fun x hx=>?_,h5⟩
 have all:∀ {l:List (List Key×V)} {m:List (List Key×Addr×Value)},KT H l m→∀ x∈m,(tupleKind (gD P w)).is h x.1 x.2.1:=by
  intro l m q
  induction q with
  | nil=>intro x hx; xt nomatch hx
  | @cons p q ps qs hq t ih =>
   intro x hx
   rcases List.mem_cons.mp hx with e | hx
   ·subst e
    xt KC ok (by rw [← hq.1]; xt hq.2.1)
   ·xt ih x hx
 xt all r x hx
theorem acF {kvs:List (List Key×V)} (ok:pW P w H h) (e:H a = some (.dT kvs)):kvs.length≤sizeLine∧(a == sysModules) = false ∧
 ∃ xs,KT H kvs xs∧h.DictOfH (tupleKind (gD P w)) a xs:=Yw ok (.inl e)
end
def GJ (H:Hp) (a:Addr) (y:V) (r:Option V):Prop :=
 (∃ kvs k,Rd H a (.dK kvs)∧y = kV k∧r = uE kvs k)∨∃ kvs k b,Rd H a (.dT kvs)∧y = .ref b∧H b = some (.tup (k.map kV))∧r = uE kvs k
def JB (H:Hp) (a:Addr) (y v:V) (H':Hp):Prop :=
 (∃ kvs k,H a = some (.dK kvs)∧y = kV k∧kvs.length < sizeLine∧H' = upd H a (.dK (putK kvs k v))) ∨
 ∃ kvs k b,H a = some (.dT kvs)∧y = .ref b∧H b = some (.tup (k.map kV))∧kvs.length < sizeLine∧H' = upd H a (.dT (putK kvs k v))
theorem GJ.k {H:Hp} {a:Addr} {kvs:List (Key×V)} {k:Key} (e:H a = some (.dK kvs)):GJ H a (kV k) (uE kvs k):=.inl ⟨kvs,k,.inl e,rfl,rfl⟩
theorem GJ.t {H:Hp} {a b:Addr} {kvs:List (List Key×V)} {k:List Key} (e:H a = some (.dT kvs)) (eb:H b = some (.tup (k.map kV))):GJ H a (.ref b) (uE kvs k):=.inr ⟨kvs,k,b,.inl e,rfl,eb,rfl⟩
theorem JB.k {H:Hp} {a:Addr} {kvs:List (Key×V)} {k:Key} {v:V} (e:H a = some (.dK kvs)) (hl:kvs.length < sizeLine):JB H a (kV k) v (upd H a (.dK (putK kvs k v))):=.inl ⟨kvs,k,e,rfl,hl,rfl⟩
theorem JB.t {H:Hp} {a b:Addr} {kvs:List (List Key×V)} {k:List Key} {v:V} (e:H a = some (.dT kvs)) (eb:H b = some (.tup (k.map kV))) (hl:kvs.length < sizeLine) :
 JB H a (.ref b) v (upd H a (.dT (putK kvs k v))):=.inr ⟨kvs,k,b,e,rfl,eb,hl,rfl⟩
section
variable {X:Cx} {pins:List (Addr×Obj)} {σ : St} {H:Hp} {s:Shared} {a:Addr} {y v:V} {u r:Value} {o:Option V} {A:Around} {E:Value→Shared→Prop}
theorem Inv.big (I:Inv X pins σ H s):sysModules < s.heap.objs.size:=by
 have h:mainGlobals < s.heap.objs.size:=(I.mod.glob.keeps I.bk).lt
 xt Nat.lt_trans δ h
theorem aei {Q:Value→Shared→Prop} (hu:A.units + 1 < cLine) (I:Inv X pins σ H s) (g:GJ H a y o) (ry:RelV y u) (h:∀ s',Inv X pins σ H s'→Q (.bool o.isSome) s') :
 wpAny (model X.prog X.w) A (compareOp .In u (.ref a)) Q E s:=by
 rcases g with ⟨kvs,k,e,ey,l⟩ | ⟨kvs,k,b,e,ey,eb,l⟩
 ·subst ey
  ob ⟨z,hd,vs,rel,dd⟩:=Yx I.hok e
  rf wpAny_in_of (TQ ry) hd dd.mapOf ?_
  rw [← (rel.val k).xg,← l]
  xt h _ (I.tok _)
 ·subst ey
  cases (show u = Value.ref b from ry)
  ob ⟨z,hd,xs,rel,dd⟩:=Yw I.hok e
  rf wpAny_in_heap (tupleKind_room_in1 hu) (KC I.hok eb) hd dd ?_
  have q:=(rel.val k).xg
  rw [Option.isSome_map] at q
  rw [← q,← l]
  xt h _ (I.tok _)
theorem Nq {h':Heap} {t':Nat} {ob:HO} (I:Inv X pins σ H s) (mu:Mut (H a)) (hs:Heap.SameBut a s.heap h') (he:∃ q,h'.get? a = some q) (new:bY X.prog X.w (upd H a ob) h' a ob) :
 Inv X pins σ (upd H a ob) { s with heap:=h',toks:=t' } :=
 I.write (x:=a) (e:=a) mu (.inl rfl) (fun b q hb z=>(hs.2 b hb).trans z) he new
theorem aat {P:Program} {w:World} {H':Hp} {h':Heap} {kvs:List (Key×V)} {vs:List (Key×Value)} (z:kvs.length≤sizeLine) (hd:(a == sysModules) = false) (rel:KV kvs vs) (dd:h'.DictOf (gD P w) a vs) :
 bY P w H' h' a (.dK kvs):=⟨z,hd,vs,rel,dd⟩
theorem PX {H':Hp} {Q:Unit→Shared→Prop} (hu:A.units + 1 < cLine) (I:Inv X pins σ H s) (g:JB H a y v H') (ry:RelV y u) (rv:RelV v r) (h:∀ s',Inv X pins σ H' s'→Q () s') :
 wpAny (model X.prog X.w) A (setItem (.ref a) u r) Q E s:=by
 rcases g with ⟨kvs,k,e,ey,l,eH⟩ | ⟨kvs,k,b,e,ey,eb,l,eH⟩
 ·subst ey eH
  ob ⟨z,hd,vs,rel,dd⟩:=acG I.hok e
  have hz:vs.length≤sizeLine:=by rw [← rel.length]; xt z
  have hl:(putK kvs k v).length≤sizeLine:=by have:=ye kvs k v; omega
  rf wpAny_setItem_pairs (hsz:=hz) (TQ ry) dd fun h' dd' hs=>h _ ?_
  have he:∃ q,h'.get? a = some q:=let ⟨q,_,_,hq,_⟩:=dd'; ⟨q,hq⟩
  xt Nq I (by rw [e]; xt True.intro) hs he (aat hl hd (rel.put k rv) dd')
 ·subst ey eH
  cases (show u = Value.ref b from ry)
  ob ⟨z,hd,xs,rel,dd⟩:=acF I.hok e
  have hz:xs.length≤sizeLine:=by rw [← Paired.length rel]; xt z
  have hl:(putK kvs k v).length≤sizeLine:=by have:=ye kvs k v; omega
  rf wpAny_setItem_heap (hsz:=hz) (tupleKind_room_in1 hu) (KC I.hok eb) dd fun h' dd' hs=>h _ ?_
  ob ⟨q,es,ep,hq,h2,h3,h4,_,h5⟩:=dd'
  rf Nq I (by rw [e]; xt True.intro) hs ⟨q,hq⟩ ⟨hl,hd,_,(rel.put k eb rv).keeps fun c ys ec=>?_,q,es,ep,hq,h2,h3,h4,h5⟩
  rw [aJ (ab6 ec e (fun z=>nomatch z))]
  xt ec
end
def abe (ty td:TE):TE:=fun σ H Q=>ty σ H fun y H1=>td σ H1 fun x H2=>∃ a o,x = .ref a∧GJ H2 a y o∧Q (.bl o.isSome) H2
def lO (td ty tv:TE):TS:=fun D σ H=>tv σ H fun v H1=>td σ H1 fun x H2=>ty σ H2 fun y H3=>∃ a H4,x = .ref a∧JB H3 a y v H4∧D.nx σ H4
section
variable {X:Cx} {o i e value:Expr} {pos pos' tpos:Pos} {td ty tv:TE}
theorem R4 (hu:X.A.units + 1 < cLine) (hi:PE X i ty) (ho:PE X o td):PC X .In i o (abe ty td):=by
 intro pins s σ H Q I h
 rf dY (hi pins s σ H _ I h) fun iv s1 ⟨y,H1,I1,ry,q1⟩=>dY (ho pins s1 σ H1 _ I1 q1) fun u s2 ⟨x,H2,I2,rx,a,ov,ex,g,q2⟩=>?_
 subst ex
 obtain rfl:u = Value.ref a:=rx
 xt aei hu I2 g ry fun s3 I3=>⟨.bl ov.isSome,H2,I3,rfl,q2⟩
theorem Eo (hu:X.A.units + 1 < cLine) (ho:PE X o td) (hi:PE X i ty) (hv:PE X value tv) (hs:swapsWith value (some (.Subscript o i pos')) pos.line X.env = pure false) :
 PS X (.Assign [.Subscript o i pos'] value pos) (lO td ty tv):=by
 intro pins s σ H D I h
 rf wpAny_Assign_Subscript (dY (hv pins s σ H _ I h) fun r s1 ⟨v,H1,I1,rv,q1⟩=>dY (ho pins s1 σ H1 _ I1 q1) fun u s2 ⟨x,H2,I2,rx,q2⟩=>dY (hi pins s2 σ H2 _ I2 q2) fun iv s3 ⟨y,H3,I3,ry,a,H4,ex,g,q3⟩=>?_) hs
 subst ex
 obtain rfl:u = Value.ref a:=rx
 xt PX hu I3 g ry rv fun s4 I4=>⟨σ,H4,I4,q3⟩
end
theorem Ui {P:Program} {w:World} {H:Hp} (h:Heap) (hb:sysModules < h.objs.size):bY P w H (h.push { cls:=.type "dict", data:=.dict #[] }) h.objs.size (.dK []) :=
 ⟨Nat.zero_le _,beq_eq_false_iff_ne.mpr (Ne.symm (Nat.ne_of_lt hb)),[],.nil,Heap.DictOf.new h⟩
theorem Ue {P:Program} {w:World} {H:Hp} (h:Heap) (hb:sysModules < h.objs.size):bY P w H (h.push { cls:=.type "dict", data:=.dict #[] }) h.objs.size (.dT []) :=
 ⟨Nat.zero_le _,beq_eq_false_iff_ne.mpr (Ne.symm (Nat.ne_of_lt hb)),[],.nil,_,#[],0,Heap.get?_push_size _ rfl,⟨rfl,rfl,rfl⟩,rfl,rfl,List.nodup_nil⟩
def Rb:TE:=fun _ H Q=>∀ p,H p = none→Q (.ref p) (upd H p (.dK []))
def Ra:TE:=fun _ H Q=>∀ p,H p = none→Q (.ref p) (upd H p (.dT []))
section
variable {X:Cx} {pos:Pos}
theorem RZ:PE X (.Dict [] [] pos) Rb:=fun pins s σ H Q I h =>
 wpAny_Dict_empty ⟨.ref s.heap.objs.size,_,I.laid (a:=s.heap.objs.size) (o:=.dK []) (t':=s.toks) (fun _ _ q=>Heap.get?_push_of_some _ q) (Nat.le_refl _) (Ui s.heap I.big),rfl,h _ (I.hok.fresh (Nat.le_refl _))⟩
theorem RX:PE X (.Dict [] [] pos) Ra:=fun pins s σ H Q I h =>
 wpAny_Dict_empty ⟨.ref s.heap.objs.size,_,I.laid (a:=s.heap.objs.size) (o:=.dT []) (t':=s.toks) (fun _ _ q=>Heap.get?_push_of_some _ q) (Nat.le_refl _) (Ue s.heap I.big),rfl,h _ (I.hok.fresh (Nat.le_refl _))⟩
end
end L2
namespace Att
open PySem PySem.W PySem.Calls PyProof.Rows
theorem yx {P:Params} {h:Heap}:∀ (ns:List Int) (vs:List Value),WellAll P h vs (ns.map WData.int)→IntsAre vs ns:=by
 intro ns
 induction ns with
 | nil =>
  intro vs w
  rw [List.map_nil] at w
  cases w
  xt .nil
 | cons n ns ih =>
  intro vs w
  rw [List.map_cons] at w
  cases w with
  | cons a b =>
   cases a
   xt .cons _ _ (ih _ b)
theorem Ou {l:OpenLaw} {n:Nat} (hn:l.most = some n) {P:Params} {h:Heap} {args:List WData} {vals:List Value}
 (hpre:l.row.toRowW.claim.pre args = true) (hwl:WellAll P h vals args) :
 ∃ a vs ns,vals = [Value.ref a]∧args = [WData.list (ns.map WData.int)]∧h.get? a = some { cls:=.type "list", data:=.seq vs.toArray }∧IntsAre vs ns∧ns.length≤n:=by
 have hsh:WShape.hasAll [] args [.list .int] = true:=(pre_splitW hpre).1
 have hc:l.pre.holds [] { args:=args } = true:=(pre_splitW hpre).2
 ob ⟨d,r,rfl,h1,h2⟩:=hasAllW_cons hsh
 ob rfl:=hasAllW_nil h2
 ob ⟨xs,rfl,h3⟩:=hasW_list h1
 ob ⟨ns,rfl⟩:=items_int h3
 have hlen:ns.length≤n:=by
  unfold OpenLaw.pre at hc
  have h4:(WTm.not (.lt (.lit (.int (n:Int))) (.len (.arg 0)))).holds [] { args:=[.list (ns.map .int)] } = true:=by
   have h4:=(holds_andW hc).1
   rw [hn] at h4
   xt h4
  have h5:=condW_of h4 (w_not (w_lt w_lit (w_len_list (w_arg rfl))))
  rw [List.length_map] at h5
  rf Nat.le_of_not_lt fun q=>?_
  have q':(n:Int) < ((ns.length:Nat):Int):=by omega
  first
   | (rw [decide_eq_true q'] at h5; xt absurd h5 δ)
   | (simp at h5; omega)
 cases hwl with
 | cons w1 w2 =>
  cases w2
  cases w1 with
  | list ho hall=>xt ⟨_,_,ns,rfl,rfl,ho,yx ns _ hall,hlen⟩
theorem Oz (l:OpenLaw) (args:List WData):l.row.toRowW.claim.post args (.bool true) args = true :=
 postW_of (r:=l.row.toRowW) (X:=(true == true))
  (show WShape.has [] (.bool true) .bool = true by first | rfl | decide | simp [WShape.has,WShape.arms,WShape.armsAll])
  (show (WTm.eq .res (.lit (.bool true))).value [] { args:=args,res:=some (.bool true),after:=args } = some (.bool (true == true)) from w_eq_bool (w_res rfl) w_lit) rfl
theorem Jp {l:OpenLaw} {n:Nat} {q:Program} {loose:List Str} {XP:(Str→Option Value)→Heap→Prop} {YP:World→Heap→Prop} {d:DefRec}
 (hn:l.most = some n) (hdf:d.params.defaults = [])
 (call:∀ (w:World) (s₀ s₁:Shared) (mg mb:Str→Option Value) (fa:Addr) (o:Obj) (pm cd doc:Value) (a:Addr) (vs:List Value) (ns:List Int),
  Ground q loose [] XP w s₀ mg mb s₁.heap→YP w s₁.heap →
  s₁.heap.get? fa = some o→o.data = .func (docDef d.name d.params d.body d.scope pm cd doc)→s₁.heap.CodeRec cd d.name→mg d.name = some (.ref fa) →
  s₁.heap.get? a = some { cls:=.type "list", data:=.seq vs.toArray }→IntsAre vs ns→ns.length≤n→s₁.gens = #[] →
  codeAny (model l.prog w) callerA (.call (.ref fa) ⟨[.ref a],[]⟩) (fun r s'=>r = .ok (.ret (.bool true))∧OldK s₁.heap s'.heap∧s'.os = s₁.os∧AllBare s'.gens) s₁) :
 WalkO q loose XP YP l.row.toRowW d [] (fun f vs=>PySem.call f vs):=by
 intro w s₀ s₁ mg mb G Y fa o pm cd doc dV kV ho hd hcd hD hmg hg args vals as hpre hlay hrd hwl hlo
 obtain rfl:dV = .none:=Dflts.none hD hdf
 obtain rfl:kV = .none:=Dflts.noKw hD
 ob ⟨a,vs,ns,rfl,rfl,hobj,hints,hlen⟩:=Ou hn hpre hwl
 rf enter_call (codeAny_mono (call w s₀ s₁ mg mb fa o pm cd doc a vs ns G Y ho (fd_plain hd) hcd hmg hobj hints hlen hg) fun r s' hq=>?_)
 ob ⟨rfl,h2,h3,h4⟩:=hq
 xt ⟨.inl ⟨.bool true,.bool true,[],rfl,fun _=>rfl,.bool true,Oz l _,fun _=>⟨List.Pairwise.nil,fun _ hm=>(nomatch hm)⟩⟩,h2,h3,h4⟩
end Att
namespace L2
open PySem PySem.Spec PyProof.Rows
theorem Cg:∀ {vs:List Value} {ns:List Int},IntsAre vs ns→Vals (ns.map V.int) vs
 | _,_,.nil=>.nil
 | _,_,.cons n t h=>.cons ⟨t,rfl⟩ (Cg h)
end L2
namespace L2
open PySem PySem.Spec PyProof.Rows
end L2
namespace L2
open PySem PySem.Spec PyProof.Rows
def lY (s:Stmt):Arguments:=match s with
 | .FunctionDef _ a _ _ _ _ _ _ _ _=>a
 | _=>{ posonlyargs:=[],args:=[],vararg:=none,kwonlyargs:=[],kw_defaults:=[],kwarg:=none,defaults:=[] }
def iG (s:Stmt):List Stmt:=match s with
 | .FunctionDef _ _ b _ _ _ _ _ _ _=>b
 | _=>[]
def aQ (s:Stmt):Scope:=match s with
 | .FunctionDef _ _ _ _ _ _ sc _ _ _=>sc
 | _=>{ kind:=.function,names:=[],isGenerator:=false,isCoroutine:=false }
abbrev dF:GP:=fun _ _ _ _ _ _=>False
abbrev E0:XK:=fun _ _ _=>False
theorem bQ {X:Cx}:Bo dF X E0:=fun _ _ _ _ _ _ _ h=>h.elim
structure oG (K:Φ) (x qual:Str) (st:Stmt) (f:Addr) (fd:FuncData):Prop where
 ex:∃ (oc:Value) (od:Option Addr) (kV doc pm:Value) (an:Option Addr) (cdv ct:Value) (osl:Array (Option Value)),
  fd = PySem.W.fnOf x qual (lY st) (iG st) (aQ st) .none kV doc pm an cdv ct∧K.lookup f = some ⟨oc,od,.func fd,osl⟩∧PySem.W.codeIn K cdv qual = true
 kp:PySem.W.keepIn K (.ref f) = true
section
variable {P:Program} {w:World} {K:Φ} {mg:Str→Option Value} {base:Heap}
theorem oG.ok {x qual:Str} {st:Stmt} {f:Addr} {fd:FuncData} {N ps:List Str} {k:Nat} {sp:Sp} (F:oG K x qual st f fd) (S:bG N ps (aQ st)) (len:∀ vs H Q E,sp vs H Q E→vs.length = ps.length)
 (hbody:∀ (cdv:Value) (A:Around) (outer:List Env) (s:Shared) (H:Hp) (vs:List V) (Q:VK) (E:XK),jr k (A.deeper (envOfC qual (aQ st) s.heap.objs.size f cdv))→sp vs H Q E →
  ∃ t,GX (mj dF P w K mg base N qual (aQ st) f cdv A outer s H E).nox (iG st) t∧t { nx:=fun _ H'=>Q .non H',rt:=Q } (start N vs) H):cY P w K mg base dF (k + 1) f fd ps sp:=by
 ob ⟨oc,od,kV,doc,pm,an,cdv,ct,osl,rfl,lk,hcd⟩:=F.ex
 rf T9 lk hcd S len fun A outer s H vs Q E hr hsp=>?_
 ob ⟨t,h,q⟩:=hbody cdv A outer s H vs Q E hr hsp
 xt ⟨t,h.nox,q⟩
theorem oG.binds {x qual:Str} {st:Stmt} {f:Addr} {fd:FuncData} {ps:List Str} (F:oG K x qual st f fd)
 (h:∀ (kV doc pm:Value) (an:Option Addr) (cdv ct:Value) (us:List Value),us.length = ps.length→bindArgs (PySem.W.fnOf x qual (lY st) (iG st) (aQ st) .none kV doc pm an cdv ct) ⟨us,[]⟩ = pure (ps.zip us)):Binds K fd ps []:=by
 ob ⟨oc,od,kV,doc,pm,an,cdv,ct,osl,rfl,lk,hcd⟩:=F.ex
 xt .all (h kV doc pm an cdv ct)
theorem T8 {x qual:Str} {st:Stmt} {f:Addr} {oc:Value} {od an:Option Addr} {osl:Array (Option Value)} {kV doc pm cdv ct:Value} (l:K.lookup f = some ⟨oc,od,.func (PySem.W.fnOf x qual (lY st) (iG st) (aQ st) .none kV doc pm an cdv ct),osl⟩)
 (c:PySem.W.codeIn K cdv qual = true) (k:PySem.W.keepIn K (.ref f) = true):oG K x qual st f (PySem.W.fnOf x qual (lY st) (iG st) (aQ st) .none kV doc pm an cdv ct):=⟨⟨oc,od,kV,doc,pm,an,cdv,ct,osl,rfl,l,c⟩,k⟩
end
theorem eV {A:Around} {k:Nat} (hr:jr k A):A.units + 1 < cLine:=Nat.lt_of_le_of_lt (Nat.add_le_add_left (by decide:1≤64) _) hr.units
section
variable {X:Cx}
theorem pv (i:Nat) {x:Str} {pos:Pos} (hN:X.N[i]? = some x:=by rfl) (hv:Vis X.env.scope x:=by first | xt Or.inl rfl | xt Or.inr Υ | xt Or.inr (Or.inr rfl)) (hd:(x == ("__debug__" : Str)) = false:=by decide)
 (hcd:(x == ("__classdict__" : Str)) = false:=by decide):PE X (.Name x pos) (uG i):=Zv hN hv hd hcd
end
theorem FQ {A B:Prop} (h:B):if false = true then A else B:=by
 rw [if_neg Bool.false_ne_true]
 xt h
theorem FN {A B:Prop} (h:A):if true = true then A else B:=by
 rw [if_pos rfl]
 xt h
def gJ (H H':Hp):Prop:=∀ b o,H b = some o→H' b = some o
theorem gJ.refl (H:Hp):gJ H H:=fun _ _ h=>h
theorem gJ.trans {H H1 H2:Hp} (a:gJ H H1) (b:gJ H1 H2):gJ H H2:=fun c o h=>b c o (a c o h)
theorem gJ.free {H H':Hp} (e:gJ H H') {l:Addr} (h:H' l = Option.none):H l = Option.none:=by
 cases q:H l with
 | none=>rfl
 | some o =>
  rw [e l o q] at h
  cases h
end L2
namespace L2
open PySem PySem.Spec PyProof.Rows
section
variable {prog:Program} {w:World} {A:Around} {R:Result→Shared→Prop} {s:Shared}
theorem Gk {elt target iter:Expr} {ifs:List Expr} {scope:Scope} {pos:Pos} {it acc:Value} {env:Env} (I:Nat→Shared→Prop)
 (turn:∀ n s,I n s→wpAny (model prog w) A (pyNext it) (fun r s₁=>match r with
  | none=>R (.ok .next) s₁
  | some v=>wpAny (model prog w) A (letOwnedTupleGo target it v) (fun _ s₂=>wpAny (model prog w) A (assign target env v) (fun _ s₃ =>
   wpAny (model prog w) A (forIn ifs true fun c r=>if r = true then do let ok ← isTrue c env (eval c env); pure (ForInStep.yield ok) else pure (ForInStep.yield r)) (fun ok s₄ =>
    if ok = true then wpAny (model prog w) A (eval elt env) (fun x s₅ =>
     wpAny (model prog w) A (call (.builtin "list.append") [acc,x]) (fun _ s₆=>∃ m,m < n∧I m s₆) (fun _ _=>False) s₅) (fun _ _=>False) s₄
    else ∃ m,m < n∧I m s₄) (fun _ _=>False) s₃) (fun _ _=>False) s₂) (fun _ _=>False) s₁) (fun _ _=>False) s)
 (n:Nat) (h:I n s) :
 codeAny (model prog w) A (.compLoop (.ListComp elt [⟨target,iter,ifs,0⟩] scope pos) 0 it acc env) R s:=by
 rf codeAny_loop rfl I (fun n s hI=>?_) n h
 show wpAny _ A ((compTurn (.ListComp elt [⟨target,iter,ifs,0⟩] scope pos) 0 it acc env).onRaise (fun x=>do noteFrame x env; theTreesLotGoes x)) _ _ s
 rf wpAny_noted (wpAny_mono (E:=fun _ _=>False) ?_ (fun _ _ q=>q) fun _ _ q=>q.elim)
 rw [compTurn_list]
 rf wpAny_bind (wpAny_standAt (wpAny_bind (dY (turn n s hI) fun r s₁ h₁=>?_)))
 cases r with
 | none=>xt wpAny_pure h₁
 | some v =>
  rf wpAny_bind (dY h₁ fun _ s₂ h₂=>wpAny_bind (dY h₂ fun _ s₃ h₃=>wpAny_bind (dY h₃ fun ok s₄ h₄=>?_)))
  cases ok with
  | false=>xt wpAny_pure ⟨rfl,h₄⟩
  | true=>xt wpAny_bind (wpAny_bind (dY h₄ fun x s₅ h₅=>wpAny_bind (dY h₅ fun _ s₆ h₆=>wpAny_pure (wpAny_pure ⟨rfl,h₆⟩))))
end
theorem pW.track {P:Program} {w:World} {H:Hp} {h:Heap} {a:Addr} {o:HO} (x:pW P w H h) (hn:H a = none) (new:bY P w (upd H a o) h a o):pW P w (upd H a o) h:=fun b u e=>by
 by_cases hb:b = a
 ·subst hb; rw [aU] at e; cases e; xt new
 ·rw [aJ hb] at e
  xt (x b u e).stay (fun c v _ q=>q) (fun c q=>by rw [aJ (aX q hn)]; xt q) fun c xs q=>by rw [aJ (aX q hn)]; xt q
theorem lookup_mem {α : Type}:∀ {l:List (Str×α)} {x:Str} {k:α},l.lookup x = some k→(x,k)∈l
 | [],_,_,h=>by simp at h
 | (n,k') :: r,x,k,h=>by
  rw [List.lookup_cons] at h
  cases hx:x == n with
  | true =>
   rw [hx] at h
   have:x = n:=by simpa using hx
   cases h; subst this; xt List.mem_cons_self
  | false=>rw [hx] at h; xt List.mem_cons_of_mem _ (lookup_mem h)
theorem jL {env:Env}:∀ {names:List (Str×NameKind)} {x:Str} {k:NameKind},
 (names.map fun (n,k)=>if (k == NameKind.free && env.scope.kind == .function && env.kindOf n == some .cell) then (n,NameKind.cell) else (n,k)).lookup x = some k →
 ∃ k',names.lookup x = some k'∧(k = k'∨(k' = .free∧k = .cell))
 | [],_,_,h=>by simp at h
 | (n,k0) :: r,x,k,h=>by
  have ih:=@jL env r x k
  have h':List.lookup x ((if (k0 == NameKind.free && env.scope.kind == .function && env.kindOf n == some .cell) = true then (n,NameKind.cell) else (n,k0)) ::
   (r.map fun (n,k)=>if (k == NameKind.free && env.scope.kind == .function && env.kindOf n == some .cell) then (n,NameKind.cell) else (n,k))) = some k:=h
  by_cases hc:(k0 == NameKind.free && env.scope.kind == .function && env.kindOf n == some .cell) = true
  ·rw [if_pos hc,List.lookup_cons] at h'
   rw [List.lookup_cons]
   cases hx:x == n with
   | true =>
    rw [hx] at h'; cases h'
    simp only [Bool.and_eq_true] at hc
    xt ⟨k0,rfl,.inr ⟨by simpa using hc.1.1,rfl⟩⟩
   | false=>rw [hx] at h'; xt ih h'
  ·rw [if_neg hc,List.lookup_cons] at h'
   rw [List.lookup_cons]
   cases hx:x == n with
   | true=>rw [hx] at h'; cases h'; xt ⟨_,rfl,.inl rfl⟩
   | false=>rw [hx] at h'; xt ih h'
theorem uT {env:Env} {f:(Str×NameKind)→List (Str×Addr)→Sem (ForInStep (List (Str×Addr)))}
 (hf:∀ n k r,f (n,k) r = if (k == NameKind.free) = true then (cellOf env n >>= fun a=>pure (ForInStep.yield ((n,a) :: r))) else pure (ForInStep.yield r)) :
 ∀ (names:List (Str×NameKind)) (acc:List (Str×Addr)),(∀ y∈names,y.2 = .free→∃ c,env.cells.lookup y.1 = some c)→(∀ x c,acc.lookup x = some c→env.cells.lookup x = some c) →
  ∃ cl,forIn names acc f = pure cl∧(∀ x c,cl.lookup x = some c→env.cells.lookup x = some c)∧(∀ x,(∃ c,acc.lookup x = some c)→∃ c,cl.lookup x = some c)∧∀ x,(x,NameKind.free)∈names→∃ c,cl.lookup x = some c
 | [],acc,_,hacc=>⟨acc,rfl,hacc,fun _ h=>h,fun _ h=>by simp at h⟩
 | (n,k) :: r,acc,hn,hacc=>by
  have hr:∀ y∈r,y.2 = .free→∃ c,env.cells.lookup y.1 = some c:=fun y hy=>hn y (List.mem_cons_of_mem _ hy)
  by_cases hk:(k == NameKind.free) = true
  ·have hk':k = .free:=by simpa using hk
   ob ⟨c,hc⟩:=hn (n,k) List.mem_cons_self hk'
   ob ⟨cl,e,h1,h2,h3⟩:=uT hf r ((n,c) :: acc) hr (fun x c' h=>by
    rw [List.lookup_cons] at h
    cases hx:x == n with
    | true => rw [hx] at h; cases h; have : x = n := by simpa using hx
              subst this; xt hc
    | false=>rw [hx] at h; xt hacc x c' h)
   rf ⟨cl,?_,h1,fun x ⟨c',hx⟩=>h2 x ?_,fun x hx=>?_⟩
   ·rw [List.forIn_cons,hf,if_pos hk]
    have:cellOf env n = pure c:=by unfold cellOf; rw [hc]
    rw [this]
    xt e
   ·rw [List.lookup_cons]
    cases x == n with
    | true=>xt ⟨_,rfl⟩
    | false=>xt ⟨c',hx⟩
   ·rcases List.mem_cons.mp hx with e | hx
    ·cases e
     xt h2 _ ⟨c,by rw [List.lookup_cons]; simp⟩
    ·xt h3 x hx
  ·ob ⟨cl,e,h1,h2,h3⟩:=uT hf r acc hr hacc
   rf ⟨cl,?_,h1,h2,fun x hx=>?_⟩
   ·rw [List.forIn_cons,hf,if_neg hk]
    xt e
   ·rcases List.mem_cons.mp hx with e | hx
    ·cases e
     xt absurd rfl hk
    ·xt h3 x hx
theorem Xg {sc:Scope} {env:Env} (h:∀ y∈sc.names,y.2 = .free→∃ c,env.cells.lookup y.1 = some c) :
 ∃ cl,closureFor sc env = pure cl∧(∀ x c,cl.lookup x = some c→env.cells.lookup x = some c)∧∀ x,(x,NameKind.free)∈sc.names→∃ c,cl.lookup x = some c:=by
 ob ⟨cl,e,h1,_,h3⟩:=uT (env:=env) (f:=fun x r=>match x with | (name,kind)=>if (kind == NameKind.free) = true then (cellOf env name >>= fun a=>pure (ForInStep.yield ((name,a) :: r))) else pure (ForInStep.yield r))
  (fun n k r=>rfl) sc.names [] h (fun _ _ h=>by simp at h)
 rf ⟨cl,?_,h1,h3⟩
 unfold closureFor
 rf Eq.trans ?_ e
 xt bind_pure _
def pick (ρ : List (Option Nat)) (σ : St):St:=ρ.map fun o=>o.bind fun j=>(σ[j]?).join
def CT (X:Cx) (N':List Str) (sc:Scope) (cl:List (Str×Addr)) (C:Addr) (s:Shared) (H:Hp) (fp:List Addr):Cx :=
 { X with N:=N',s₀:=s,H₀:=H,env:=compEnvC sc cl C X.env,outer:=X.stack,ex:=fp,fn:=fun _=>false,xe:=fun _ _=>False }
structure dW (X:Cx) (N':List Str) (ρ : List (Option Nat)) (sc:Scope):Prop where
 kind:sc.kind = .function
 z9:∀ y∈sc.names,y.2≠.cell
 names:∀ y∈sc.names,y.2 = .local→sc.names.lookup y.1 = some .local
 free:∀ y∈sc.names,y.2 = .free→(X.env.kindOf y.1 = some .cell∨X.env.kindOf y.1 = some .free)
 len:ρ.length = N'.length
 ix:∀ (i j:Nat),ρ[i]? = some (some j)→∃ x,N'[i]? = some x∧X.N[j]? = some x∧sc.names.lookup x = some .free
def PTs (X:Cx) (ifs:List Expr) (t:TT):Prop :=
 ∀ (pins:List (Addr×Obj)) (s:Shared) (σ : St) (H:Hp) (Q:Bool→Hp→Prop),Inv X pins σ H s→t σ H Q →
  wpAny (model X.prog X.w) X.A (forIn ifs true fun c r=>if r = true then do let ok ← isTrue c X.env (eval c X.env); pure (ForInStep.yield ok) else pure (ForInStep.yield r)) (TP X pins σ Q) X.xe s
def aa9:TT:=fun _ H Q=>Q true H
theorem jf {X:Cx}:PTs X [] aa9:=fun _ _ _ H _ I h=>wpAny_tests_nil ⟨H,I,h⟩
theorem tL {X:Cx} {c:Expr} {t:TT} (h:PT X c t):PTs X [c] t:=fun pins s σ H Q I hw=>wpAny_tests_one (h pins s σ H Q I hw)
def Jy (ρ : List (Option Nat)) (g:TG):Prop:=∀ v σ H Q,g v σ H Q→g v σ H fun σ2 H2=>(σ2.length = σ.length∧∀ (i j:Nat),ρ[i]? = some (some j)→σ2[i]? = σ[i]?)∧Q σ2 H2
def GD (ρ : List (Option Nat)) (g:QD):Prop:=∀ v σ H Q,g v σ H Q→g v σ H fun σ2 H2=>(σ2.length = σ.length∧∀ (i j:Nat),ρ[i]? = some (some j)→σ2[i]? = σ[i]?)∧Q σ2 H2
theorem fX {ρ : List (Option Nat)} {i:Nat} (h:ρ[i]? = some none):Jy ρ (qK i):=fun v σ H Q q=>by
 rf ⟨⟨List.length_set,fun k j e=>?_⟩,q⟩
 have:i≠k:=by intro z; subst z; rw [h] at e; cases e
 rw [List.getElem?_set_ne this]
theorem K1 {ρ : List (Option Nat)}:GD ρ T7:=fun v σ H Q ⟨e,q⟩=>⟨e,⟨rfl,fun _ _ _=>rfl⟩,q⟩
theorem pO {ρ : List (Option Nat)} {i:Nat} {u:QD} (h:ρ[i]? = some none) (hu:GD ρ u) (mu:∀ v σ H Q Q',(∀ a b,Q a b→Q' a b)→u v σ H Q→u v σ H Q'):GD ρ (Io (qK i) u):=fun vs σ H Q ⟨v,r,e,q⟩=>by
 rf ⟨v,r,e,?_⟩
 rf mu _ _ _ _ _ (fun a b ⟨⟨l,k⟩,z⟩=>⟨⟨l.trans List.length_set,fun i' j' e'=>(k i' j' e').trans ?_⟩,z⟩) (hu _ _ _ _ q)
 have:i≠i':=by intro z; subst z; rw [h] at e'; cases e'
 rw [List.getElem?_set_ne this]
theorem xj:∀ v σ H Q Q',(∀ a b,Q a b→Q' a b)→T7 v σ H Q→T7 v σ H Q':=fun _ _ _ _ _ m ⟨e,q⟩=>⟨e,m _ _ q⟩
theorem FZ {i:Nat} {u:QD} (mu:∀ v σ H Q Q',(∀ a b,Q a b→Q' a b)→u v σ H Q→u v σ H Q'):∀ v σ H Q Q',(∀ a b,Q a b→Q' a b)→Io (qK i) u v σ H Q→Io (qK i) u v σ H Q' :=
 fun _ _ _ _ _ m ⟨v,r,e,q⟩=>⟨v,r,e,mu _ _ _ _ _ m q⟩
theorem KZ {ρ : List (Option Nat)} {K:Φ} {n:Nat} {u:QD} (hu:GD ρ u):Jy ρ (aal K n u):=fun v σ H Q ⟨a,xs,e,hq,hl,q⟩=>⟨a,xs,e,hq,hl,hu _ _ _ _ q⟩
def ac5 (J:It) (ρ : List (Option Nat)) (g:TG) (tc:TT) (te:TE) (σ : St) (H1:Hp) (Q:VK):Prop:=∃ W:Nat→Nat→List V→Hp→Prop,(∃ m,W 0 m [] H1)∧∀ i m acc H,W i m acc H →
 (J.stop i H∧∀ p,H p = none→Q (.ref p) (upd H p (.lst acc))) ∨
 (J.go i H∧acc.length < sizeLine∧∃ N:List V→Hp→Prop,(∀ acc' H',N acc' H'→∃ m',m' < m∧W (i + 1) m' acc' H') ∧
  ∀ x H',J.yld i H x H'→g x (pick ρ σ) H' fun σ2 H2=>tc σ2 H2 fun b H3=>if b = true then te σ2 H3 fun y H4=>N (acc ++ [y]) H4 else N acc H3)
def Lz (wi:TI) (ρ : List (Option Nat)) (g:TG) (tc:TT) (te:TE):TE:=fun σ H Q=>wi σ H fun J H1=>ac5 J ρ g tc te σ H1 Q
section
variable {X:Cx} {elt tg iter:Expr} {ifs:List Expr} {sc:Scope} {pos cpos:Pos} {N':List Str} {ρ : List (Option Nat)} {wi:TI} {g:TG} {tc:TT} {te:TE}
theorem CV (hcalm:X.calm = true) (S:dW X N' ρ sc) (hi:PI X tg iter wi)
 (hg:∀ cl C s H fp,PG (CT X N' sc cl C s H fp) tg g) (gk:Jy ρ g) (hc:∀ cl C s H fp,PTs (CT X N' sc cl C s H fp) ifs tc) (he:∀ cl C s H fp,PE (CT X N' sc cl C s H fp) elt te)
 (hs:∀ x,foldedSetIterable iter X.env x = pure x)
 (use:Option (Value→Sem Unit)) {R:Value→Shared→Prop} {pins:List (Addr×Obj)} {s:Shared} {σ : St} {H:Hp} {Q:VK} (I:Inv X pins σ H s) (h:Lz wi ρ g tc te σ H Q)
 (hR:∀ s' D C H',Inv X pins σ H' s'→Q (.ref D) H'→(∃ m,s'.heap.Ns C m)→pU X pins H' C→compPost (model X.prog X.w) X.A X.xe use R (.ref D) C (.ok .next) s') :
 wpAny (model X.prog X.w) X.A (comprehension (.ListComp elt [⟨tg,iter,ifs,0⟩] sc pos) sc X.env cpos (newList []) false (eval iter X.env) use) R X.xe s:=by
 ob ⟨cl,hcl,hsub,hall⟩:=Xg (sc:=sc) (env:=X.env) fun y hy hf=>I.ok.has y.1 (S.free y hy hf)
 rf wpAny_comprehension_free rfl hs hcl S.kind S.names (dY (hi pins s σ H _ I h) fun v s1 h1=>dY h1 fun itv s2 h2=>?_)
 ob ⟨it,fp,tn,J,H2,e,I2,T,st2,f2,W,⟨m0,w0⟩,turn⟩:=h2
 subst e
 rf wpAny_newList (items:=[]) ?_
 rf wpAny_newFunctionEnv S.z9 (by intro y hy; simp at hy) (fun h₁ hns hsb=>?_) S.kind
 dsimp only at hns hsb ⊢
 generalize hH2:s2.heap.push { cls:=.type "list", data:=.seq ([]:List Value).toArray } = Hh at hns hsb ⊢
 have hCs:Hh.objs.size = s2.heap.objs.size + 1:=by rw [← hH2,Heap.size_push]
 generalize hD:s2.heap.objs.size = D at *
 generalize hCC:Hh.objs.size = C at *
 have hDC:D≠C:=by omega
 have ltC:∀ b:Nat,b < s2.heap.objs.size→b≠C∧b≠D∧b < D:=fun b h=>by omega
 have ltD:∀ b:Nat,b < D→b≠C∧b≠D:=fun b h=>by omega
 have old:∀ b o,s2.heap.get? b = some o→h₁.get? b = some o:=fun b o e=>hsb.extBut b o (ltC b (Heap.lt_size e)).1 (Heap.get?_push_of_some _ (by rw [← hH2]; xt Heap.get?_push_of_some _ e))
 have newD:h₁.get? D = some { cls:=.type "list", data:=.seq ([]:List Value).toArray }:=hsb.extBut _ _ hDC (Heap.get?_push_of_some _ (by rw [← hH2,← hD]; xt Heap.get?_push_size _ rfl))
 have ltb:∀ b∈fp,b < D:=fun b hb=>by
  ob ⟨o,e,_⟩:=T.obj _ _ st2 b hb
  xt (ltC b (Heap.lt_size e)).2.2
 have fD:pU X pins H2 D:=I2.uR ω (I2.hok.fresh ω)
 have fC:pU X pins H2 C:=I2.uR ω (I2.hok.fresh ω)
 have nst:∀ b,b≠X.env.locals→b∉X.fs→b∉frs X.stack:=fun b h1 h2 hb=>by
  rcases List.mem_cons.mp (I2.Ed b hb) with e | e
  ·xt h1 e
  ·xt h2 e
 have ok':(CT X N' sc cl C s2 H2 fp).Ok:=by
  rf ⟨I2.ok.mod,S.kind,I2.ok.glob,I2.ok.blt,(by show s2.heap.objs.size≤C; omega),fun x y c e1 e2=>I2.ok.inj x y c (hsub _ _ e1) (hsub _ _ e2),fun x hx=>?_,fun x c z=>(by cases z),I2.ok.hd,I2.ok.frames,.inl rfl,
   fun b hb=>⟨(ltD b (ltb b hb)).1,fun x c e=>(f2 b hb).2.2.2.2.1 x c (hsub _ _ e)⟩,I2.bs,(by show X.base.objs.size≤s2.heap.objs.size; xt Nat.le_trans I2.ok.bsz I2.sz),fun b o e hb=>?_,fun b hb=>nst b (f2 b hb).2.1 (f2 b hb).2.2.1,I2.stack,I2.vz⟩
  ·have hx':∃ k',sc.names.lookup x = some k'∧(k' = .cell∨k' = .free):=by
    rcases hx with hx | hx
    ·ob ⟨k',e1,e2⟩:=jL (env:=X.env) (names:=sc.names) hx
     rcases e2 with e2 | ⟨e2,_⟩
     ·xt ⟨k',e1,.inl e2.symm⟩
     ·xt ⟨k',e1,.inr e2⟩
    ·ob ⟨k',e1,e2⟩:=jL (env:=X.env) (names:=sc.names) hx
     rcases e2 with e2 | ⟨e2,_⟩
     ·xt ⟨k',e1,.inr e2.symm⟩
     ·xt ⟨k',e1,.inr e2⟩
   ob ⟨k',e1,e2⟩:=hx'
   have hm:=lookup_mem e1
   rcases e2 with e2 | e2
   ·xt absurd e2 (S.z9 _ hm)
   ·subst e2; xt hall x hm
  ·rcases (f2 b hb).2.2.2.1 with z | z
   ·xt I2.ok.Ko b o e z
   ·xt absurd (Nat.lt_of_lt_of_le (Heap.lt_size e) (Nat.le_trans I2.ok.bsz z)) (Nat.lt_irrefl _)
 have RQ:∀ p∈X.pn ++ pins,p.1 < D:=fun p hp=>(ltC p.1 (Heap.lt_size (I2.pin p hp).1)).2.2
 have aay:∀ x c,cl.lookup x = some c→c < D:=fun x c e=>by
  ob ⟨v,q⟩:=I2.cell x c (hsub _ _ e)
  xt (ltC c q.lt).2.2
 have I':∀ tk,Inv (CT X N' sc cl C s2 H2 fp) (pins ++ [(D,{ cls:=.type "list", data:=.seq ([]:List Value).toArray })]) (pick ρ σ) H2 { s2 with heap:=h₁,toks:=tk }:=fun tk=>by
  rf ⟨ok',rfl,I2.bare,Un.kept old,⟨_,hns,fun i x v e1 e2 e3=>?_⟩,fun x c e=>?_,fC.1,fun x c e=>I2.lQ x c (hsub _ _ e),fun p hp=>?_,I2.hok.kept old,?_⟩
  ·have e2':∃ j,ρ[i]? = some (some j)∧σ[j]? = some (some v):=by
    unfold pick at e2
    rw [List.getElem?_map] at e2
    cases hr:ρ[i]? with
    | none=>rw [hr] at e2; cases e2
    | some o =>
     rw [hr] at e2
     cases o with
     | none=>cases e2
     | some j =>
      rf ⟨j,rfl,?_⟩
      have e2:(σ[j]?).join = some v:=Option.some.inj e2
      cases hq:σ[j]? with
      | none=>rw [hq] at e2; cases e2
      | some o' => rw [hq] at e2; have e2 : o' = some v := e2
                   rw [e2]
   ob ⟨j,hj,hv⟩:=e2'
   ob ⟨y,ey,eN,ef⟩:=S.ix i j hj
   have e1':N'[i]? = some x:=e1
   rw [ey] at e1'; cases e1'
   ob ⟨m,hn,hl⟩:=I2.loc
   have hm:=lookup_mem ef
   have kX:=S.free _ hm rfl
   ob ⟨u,ru,lk⟩:=hl j x v eN hv (by rcases kX with k | k; xt .inr (.inl k); xt .inr (.inr k))
   rf ⟨u,ru,.inr ⟨?_,?_⟩⟩
   ·show (relabel sc X.env).names.lookup x = some .cell∨(relabel sc X.env).names.lookup x = some .free
    rcases e3 with e3 | e3 | e3
    ·ob ⟨k',q1,q2⟩:=jL (env:=X.env) (names:=sc.names) e3
     rw [ef] at q1; cases q1
     rcases q2 with q2 | ⟨_,q2⟩ <;> cases q2
    ·xt .inl e3
    ·xt .inr e3
   ·ob ⟨c,hc'⟩:=hall x hm
    rf ⟨c,hc',?_⟩
    rcases lk with ⟨k,_⟩ | ⟨_,c',ec,z⟩
    ·rcases kX with k' | k' <;> (rw [k] at k'; cases k')
    ·rw [hsub _ _ hc'] at ec; cases ec
     ob ⟨o,ho,hd⟩:=z
     xt ⟨o,old _ _ ho,hd⟩
  ·ob ⟨v,o,ho,hd⟩:=I2.cell x c (hsub _ _ e)
   xt ⟨v,o,old _ _ ho,hd⟩
  ·have hp':p∈X.pn ++ pins∨p = (D,{ cls:=.type "list", data:=.seq ([]:List Value).toArray }):=by
    rcases List.mem_append.mp hp with z | z
    ·xt .inl (List.mem_append_left _ z)
    ·rcases List.mem_append.mp z with z | z
     ·xt .inl (List.mem_append_right _ z)
     ·xt .inr (by simpa using z)
   rcases hp' with z | z
   ·ob ⟨q1,q2,q3,q4,q5⟩:=I2.pin p z
    xt ⟨old _ _ q1,q2,(ltD p.1 (RQ p z)).1,nst _ q3 q4,q5⟩
   ·subst z
    xt ⟨newD,fD.1,hDC,nst _ fD.2.1 fD.2.2.1,fun v z=>by cases z⟩
  ·show (pick ρ σ).length = N'.length
   unfold pick; rw [List.length_map]; xt S.len
 have stat:∀ {H':Hp} {o:Obj},(∀ b∈fp,H' b = none)→∀ b∈fp,pU (CT X N' sc cl C s2 H2 fp) (pins ++ [(D,o)]) H' b:=fun {H' o} hn b hb=>by
  rf ⟨hn b hb,(ltD b (ltb b hb)).1,nst b (f2 b hb).2.1 (f2 b hb).2.2.1,.inl hb,fun x c e=>(f2 b hb).2.2.2.2.1 x c (hsub _ _ e),fun p hp=>?_⟩
  rcases List.mem_append.mp hp with z | z
  ·xt (f2 b hb).2.2.2.2.2 p (List.mem_append_left _ z)
  ·rcases List.mem_append.mp z with z | z
   ·xt (f2 b hb).2.2.2.2.2 p (List.mem_append_right _ z)
   ·have e:p = (D,o):=by simpa using z
    subst e
    xt Ne.symm (ltD b (ltb b hb)).2
 have loop:∀ tk,codeAny (model X.prog X.w) X.A (.compLoop (.ListComp elt [⟨tg,iter,ifs,0⟩] sc pos) 0 (.ref it) (.ref D) (compEnvC sc cl C X.env)) (compPost (model X.prog X.w) X.A X.xe use R (.ref D) C) { s2 with heap:=h₁,toks:=tk }:=fun tk=>by
  rf Gk (fun n s'=>∃ (i:Nat) (acc:List V) (its:List Value) (k:Nat) (H':Hp),Inv (CT X N' sc cl C s2 H2 fp) (pins ++ [(D,{ cls:=.type "list", data:=.seq its.toArray k })]) (pick ρ σ) H' s'∧Vals acc its∧acc.length≤sizeLine∧tn i s'.heap∧(∀ b∈fp,H' b = none)∧W i n acc H')
   ?_ m0 ⟨0,[],[],0,H2,I' tk,.nil,Nat.zero_le _,T.keep _ _ _ st2 fun b hb o e=>old b o e,fun b hb=>(f2 b hb).1,w0⟩
  rintro n s3 ⟨i,acc,its,k,H3,I3,va,hz0,st3,fr3,w3⟩
  rcases turn i n acc H3 w3 with ⟨stop,qn⟩ | ⟨go,hz,Nn,hN,step⟩
  ·rf dY (T.done (CT X N' sc cl C s2 H2 fp) rfl rfl rfl hcalm i _ s3 _ H3 (fun _ _=>False) I3 (stat fr3) st3 stop) fun r s4 ⟨hr,I4⟩=>?_
   subst hr
   ob ⟨p1,p2,p3,p4,p5⟩:=I4.pin (D,{ cls:=.type "list", data:=.seq its.toArray k }) (by simp)
   have p1:s4.heap.get? D = some { cls:=.type "list", data:=.seq its.toArray k }:=p1
   have p2:H3 D = none:=p2
   have B:=I4.base
   have upn:∀ b o,H3 b = some o→upd H3 D (.lst acc) b = some o:=fun b o e=>by rw [aJ (aX e p2)]; xt e
   have IX:Inv X pins σ (upd H3 D (.lst acc)) s4:=by
    rf I2.call' (ch:=fp) I4.os ⟨fun b o q1 q2 q3 q4=>B.keep b o q1 q2 q3 q4,fun b o q1 q2 q3 q4=>B.slot b o q1 q2 q3 q4,fun b o q1 q2 q3=>?_,fun b o q1 q2=>B.there b o q1 q2,
     fun b xs q=>upn _ _ (B.tups b xs q),fun b o u q=>upn _ _ (B.xm b o u q),fun b w ps q=>?_⟩ (I4.hok.track p2 ⟨hz0,its,k,va,p1⟩) I4.bare fun b hb=>⟨(f2 b hb).2.2.2.1,(f2 b hb).2.1,(f2 b hb).2.2.2.2.1,(f2 b hb).2.2.2.2.2⟩
    ·rw [aJ (ltC b (Heap.lt_size q1)).2.1]
     xt B.free b o q1 q2 q3
    ·ob ⟨more,q'⟩:=B.wH b w ps q
     xt ⟨more,upn _ _ q'⟩
   ob ⟨m,hm,_⟩:=I4.loc
   rf hR s4 D C _ IX (qn D p2) ⟨m,hm⟩ (I2.uR ω ?_)
   rw [aJ (Ne.symm hDC)]
   xt I4.free
  ·rf dY (T.item (CT X N' sc cl C s2 H2 fp) rfl rfl rfl hcalm i _ s3 _ H3 (fun _ _=>False) I3 (stat fr3) st3 go) fun r s4 ⟨u,hr,h4⟩=>?_
   subst hr
   rf dY h4 fun _ s5 ⟨x,H5,I5,r5,y5,st5,fr5⟩=>?_
   have I5':=I5.pinned (stat fr5) (T.obj _ _ st5)
   rf dY (hg cl C s2 H2 fp _ s5 _ H5 x u _ I5' r5 (gk _ _ _ _ (step x H5 y5))) fun _ s6 ⟨σ6,H6,I6,⟨l6,k6⟩,q6⟩=>?_
   rf dY (hc cl C s2 H2 fp _ s6 σ6 H6 _ I6 q6) fun ok s7 ⟨H7,I7,q7⟩=>?_
   have wk:∀ {Cw:List (Addr×Obj)} {H':Hp} {s':Shared},Inv (CT X N' sc cl C s2 H2 fp) Cw σ6 H' s'→Inv (CT X N' sc cl C s2 H2 fp) Cw (pick ρ σ) H' s':=fun {Cw H' s'} J' =>
    J'.weak l6.symm fun j v e=>by
     have:∃ j',ρ[j]? = some (some j'):=by
      unfold pick at e
      rw [List.getElem?_map] at e
      cases hr:ρ[j]? with
      | none=>rw [hr] at e; cases e
      | some o =>
       rw [hr] at e
       cases o with
       | none=>cases e
       | some j'=>xt ⟨j',rfl⟩
     ob ⟨j',hj'⟩:=this
     rw [k6 j j' hj']; xt e
   cases ok with
   | false =>
    have q7:Nn acc H7:=by simpa using q7
    rw [if_neg Bool.false_ne_true]
    ob ⟨m',hm,w7⟩:=hN acc H7 q7
    rf ⟨m',hm,i + 1,acc,its,k,H7,wk I7.oY,va,hz0,T.keep _ _ _ st5 fun b hb o e=>(I7.pin (b,o) (List.mem_append_right _ (List.mem_append_right _ (jZ hb e)))).1,fun b hb=>?_,w7⟩
    ob ⟨o,e,d⟩:=T.obj _ _ st5 b hb
    xt (I7.pin (b,o) (List.mem_append_right _ (List.mem_append_right _ (jZ hb e)))).2.1
   | true =>
    have q7:te σ6 H7 fun y H4=>Nn (acc ++ [y]) H4:=by simpa using q7
    rw [if_pos rfl]
    rf dY (he cl C s2 H2 fp _ s7 σ6 H7 _ I7 q7) fun xv s8 ⟨y,H8,I8,r8,n8⟩=>?_
    ob ⟨p1,p2,p3,p4,p5⟩:=I8.pin (D,{ cls:=.type "list", data:=.seq its.toArray k }) (by simp)
    have p1:s8.heap.get? D = some { cls:=.type "list", data:=.seq its.toArray k }:=p1
    have p2:H8 D = none:=p2
    rf wpAny_list_append_plain ⟨k,p1⟩ (fun h' pl sb=>?_) (by rw [List.size_toArray,← va.length]; omega)
    ob ⟨k',pl⟩:=pl
    ob ⟨m',hm,w8⟩:=hN _ _ n8
    have Ia:Inv (CT X N' sc cl C s2 H2 fp) pins σ6 H8 s8:=I8.oY.oY
    have Ib:Inv (CT X N' sc cl C s2 H2 fp) pins σ6 H8 { s8 with heap:=h' }:=Ia.turned (t':=s8.toks) (it:=D) (fun b o hb e=>(sb.2 b hb).trans e) p2 hDC (.inr (by show s2.heap.objs.size≤D; omega)) (fun x c e=>(ltD c (aay x c e)).2) fun p hp=>(ltD p.1 (RQ p hp)).2
    have pl':h'.get? D = some { cls:=.type "list", data:=.seq (its ++ [xv]).toArray k' }:=by rw [pl]; simp
    have Ic:Inv (CT X N' sc cl C s2 H2 fp) (pins ++ [(D,{ cls:=.type "list", data:=.seq (its ++ [xv]).toArray k' })]) σ6 H8 { s8 with heap:=h' }:=Ib.Er fun p hp=>by
     rcases List.mem_append.mp hp with z | z
     ·xt Ib.pin p (List.mem_append_right _ z)
     ·have e:p = (D,{ cls:=.type "list", data:=.seq (its ++ [xv]).toArray k' }):=by simpa using z
      subst e
      xt ⟨pl',p2,p3,p4,fun v z=>by cases z⟩
    rf ⟨m',hm,i + 1,acc ++ [y],its ++ [xv],k',H8,wk Ic,va.append (.cons r8 .nil),(by rw [List.length_append,List.length_singleton]; omega),T.keep _ _ _ st5 fun b hb o e=>?_,fun b hb=>?_,w8⟩
    ·xt (sb.2 b (ltD b (ltb b hb)).2).trans (I8.pin (b,o) (List.mem_append_right _ (List.mem_append_right _ (jZ hb e)))).1
    ·ob ⟨o,e,d⟩:=T.obj _ _ st5 b hb
     xt (I8.pin (b,o) (List.mem_append_right _ (List.mem_append_right _ (jZ hb e)))).2.1
 rf codeAny_compStart_list (loop _) (T.self X.A 0 _ _ _ (T.keep _ _ _ st2 fun b hb o e=>old b o e) (loop _))
theorem jg (hcalm:X.calm = true) (S:dW X N' ρ sc) (hi:PI X tg iter wi)
 (hg:∀ cl C s H fp,PG (CT X N' sc cl C s H fp) tg g) (gk:Jy ρ g) (hc:∀ cl C s H fp,PTs (CT X N' sc cl C s H fp) ifs tc) (he:∀ cl C s H fp,PE (CT X N' sc cl C s H fp) elt te)
 (hs:∀ x,foldedSetIterable iter X.env x = pure x:=by intro _; rfl) :
 PE X (.ListComp elt [⟨tg,iter,ifs,0⟩] sc pos) (Lz wi ρ g tc te):=by
 intro pins s σ H Q I h
 rw [eval_ListComp]
 rf CV hcalm S hi hg gk hc he hs none I h fun s' D C H' I' q ⟨m,hm⟩ f=>⟨m,hm,fun h' sb=>?_⟩
 xt ⟨.ref D,H',I'.turned (t':=s'.toks) (it:=C) (fun b o hb e=>(sb.2 b hb).trans e) f.1 f.2.1 f.2.2.2.1 f.2.2.2.2.1 f.2.2.2.2.2,rfl,q⟩
theorem tM {i:Nat} {x:Str} {px:Pos} (hcalm:X.calm = true) (hN:X.N.Nodup) (hix:X.N[i]? = some x) (hx:Loc X.env.scope x) (S:dW X N' ρ sc) (hi:PI X tg iter wi)
 (hg:∀ cl C s H fp,PG (CT X N' sc cl C s H fp) tg g) (gk:Jy ρ g) (hc:∀ cl C s H fp,PTs (CT X N' sc cl C s H fp) ifs tc) (he:∀ cl C s H fp,PE (CT X N' sc cl C s H fp) elt te)
 (hsw:swapsWith (.ListComp elt [⟨tg,iter,ifs,0⟩] sc pos) (some (.Name x px)) cpos.line X.env = pure true:=by rfl)
 (hs:∀ x,foldedSetIterable iter X.env x = pure x:=by intro _; rfl)
 (hf:X.fn x = true∨X.env.scope.names.lookup x = some .local:=by first | xt .inl rfl | xt .inr rfl | assumption) :
 PS X (.Assign [.Name x px] (.ListComp elt [⟨tg,iter,ifs,0⟩] sc pos) cpos) (Hb (Lz wi ρ g tc te) (qK i)):=by
 intro pins s σ H D I h
 rw [exec_Assign_Name_used _ _ _ _ hsw]
 rf wpAny_bind (wpAny_standAt (wpAny_bind ?_))
 show wpAny _ X.A (do let _ ← comprehension (.ListComp elt [⟨tg,iter,ifs,0⟩] sc pos) sc X.env _ (newList []) false (eval iter X.env) (some (assign (.Name x px) X.env))) _ _ s
 rf wpAny_bind (dY (CV (Q:=fun y H1=>D.nx (σ.set i (some y)) H1) (R:=fun _ s'=>SP X pins D .next s') hcalm S hi hg gk hc he hs (some (assign (.Name x px) X.env)) I h fun s' Da C H' I' q ⟨m,hm⟩ f=>?_) fun _ s' hq=>wpAny_pure (wpAny_pure hq))
 show wpAny _ X.A (assign (.Name x px) X.env (.ref Da)) _ _ _
 rf wpAny_assign_Name (Cj I' hN hix hx (v:=.ref Da) rfl (fun s2 I2 ⟨a,sb,ha⟩=>⟨m,hm.sameBut sb ?_,fun h' sb2=>?_⟩) hf)
 ·rcases ha with e | e
  ·subst e; xt f.2.1
  ·xt fun z=>f.2.2.2.2.1 x a e z.symm
 ·xt ⟨_,H',I2.turned (t':=s2.toks) (it:=C) (fun b o hb e=>(sb2.2 b hb).trans e) f.1 f.2.1 f.2.2.2.1 f.2.2.2.2.1 f.2.2.2.2.2,q⟩
end
structure It.Of (J:It) (Ok:Hp→Prop) (xs:List V):Prop where
 go:∀ i H,Ok H→i < xs.length→J.go i H
 yld:∀ i H x H',Ok H→i < xs.length→J.yld i H x H'→H' = H∧xs[i]? = some x
 stop:∀ H,Ok H→J.stop xs.length H
theorem Mm {K:Φ} {a:Addr} {xs:List V}:(Itl K a).Of (fun H=>uY K H a xs) xs :=
 ⟨fun i H h hi=>⟨xs,xs[i],h,by simp [hi]⟩,fun i H x H' h _ y=>⟨y.1,y.2 xs h⟩,fun H h=>⟨xs,h,Nat.le_refl _⟩⟩
theorem Su {K:Φ} {a:Addr} {xs:List V}:(Itt K a).Of (fun H=>yR K H a xs) xs :=
 ⟨fun i H h hi=>⟨xs,xs[i],h,by simp [hi]⟩,fun i H x H' h _ y=>⟨y.1,y.2 xs h⟩,fun H h=>⟨xs,h,Nat.le_refl _⟩⟩
def J2 (lo:Int) (n:Nat):List V:=(List.range n).map fun i=>V.int (lo + (i:Nat))
theorem zL (lo:Int) (n:Nat):(J2 lo n).length = n:=by simp [J2]
theorem Rt {lo:Int} {n i:Nat} (h:i < n):(J2 lo n)[i]? = some (.int (lo + i)):=by simp [J2,h]
theorem Sw {lo:Int} {n:Nat}:(Itr lo n).Of (fun _=>True) (J2 lo n) :=
 ⟨fun i H _ hi=>by rw [zL] at hi; xt hi,fun i H x H' _ hi y=>⟨y.1,by rw [zL] at hi; rw [y.2]; xt Rt hi⟩,fun H _=>by rw [zL]; xt Nat.le_refl _⟩
end L2
namespace L2
open PySem PySem.Spec PyProof.Rows
def sgn (c:Nat):V:=.str ⟨#[c]⟩
def JX (x:Str):List V:=x.cps.toList.map sgn
theorem Ho (x:Str):(JX x).length = x.length:=by simp [JX,Str.length]
def Its (x:Str):It:=⟨fun i _=>i < x.length,fun i H y H'=>H' = H∧(JX x)[i]? = some y,fun i _=>i = x.length⟩
theorem Sv {x:Str}:(Its x).Of (fun _=>True) (JX x) :=
 ⟨fun i H _ hi=>by rw [Ho] at hi; xt hi,fun i H y H' _ _ h=>h,fun H _=>Ho x⟩
theorem G6 {P:Program} {w:World} {K:Φ} {tg:Expr} (it:Addr) (x:Str) (t:Tok) (ty:String)
 (hty:["enumerate", "zip", "dict_itemiterator", "dict_reverseitemiterator", "odict_iterator", "itertools.zip_longest", "itertools.pairwise"].contains ty = false)
 (W:∀ A':Around,A'.handled = none→Walks P w A' it [it] [it] x.cps.size (SignAt x) (fun i h=>h.IsStrIter it ty x t i))
 (sf:∀ (A:Around) (i:Nat) (s:Shared) (Q:Value→Shared→Prop) (E:Value→Shared→Prop),s.heap.IsStrIter it ty x t i→Q (.ref it) s→wpAny (model P w) A (pyIter (.ref it)) Q E s) :
 Turn P w K tg (Its x) [it] it (fun i h=>h.IsStrIter it ty x t i) where
 mem:=by simp
 obj:=fun i h st b hb=>by
  have e:b = it:=by simpa using hb
  subst e
  ob ⟨o,e,c,d⟩:=st
  xt ⟨o,e,fun v z=>by rw [d] at z; cases z⟩
 keep:=fun i h h' st k=>let ⟨o,ho,r⟩:=st; ⟨o,k it (by simp) o ho,r⟩
 item:=by
  intro X hP hw hK hc i pins s σ H E I hf st hg
  subst hP hw hK
  ob ⟨f0,f1,f2,f3,f4,f5⟩:=hf it (by simp)
  rf (W X.A (I.ok.hd hc)).item i s _ _ hg st fun v h' tk hv st' kk=>?_
  ob ⟨c,u,e,rfl⟩:=hv
  have I1:Inv X pins σ H { s with heap:=h',toks:=tk }:=I.turned (fun b o hb e=>kk b o (by simpa using hb) e) f0 f1 f3 f4 f5
  ob ⟨o,e',c',d'⟩:=id st'
  rf ⟨_,rfl,Ni (s:={ s with heap:=h',toks:=tk }) e' c' d' hty ⟨sgn c,H,I1,⟨u,rfl⟩,⟨rfl,?_⟩,st',fun b hb=>(hf b hb).1⟩⟩
  unfold JX
  rw [List.getElem?_map,Array.getElem?_toList,e]
  rfl
 done:=by
  intro X hP hw hK hc i pins s σ H E I hf st hg
  subst hP hw hK
  ob ⟨f0,f1,f2,f3,f4,f5⟩:=hf it (by simp)
  have hg:i = x.length:=hg
  subst hg
  xt (W X.A (I.ok.hd hc)).done s _ _ st fun h' tk kk=>⟨rfl,I.turned (fun b o hb e=>kk b o (by simpa using hb) e) f0 f1 f3 f4 f5⟩
 self:=sf
section
variable {X:Cx} {tg:Expr}
def acs (tl:TE):TI:=fun σ H R=>tl σ H fun x H1=>∃ z,x = .str z∧R (Its z) H1
theorem Zu {l:Expr} {tl:TE} (hl:PE X l tl):PI X tg l (acs tl):=by
 intro pins s σ H R I h
 rf dY (hl pins s σ H _ I h) fun v s1 ⟨x,H1,I1,r1,q1⟩=>?_
 ob ⟨z,e,q⟩:=q1
 subst e
 ob ⟨t,rfl⟩:=r1
 cases ha:z.cps.all (· < 128)
 ·rf wpAny_pyIter_wide ha ?_
  rf ⟨s1.heap.objs.size,[s1.heap.objs.size],_,Its z,H1,rfl,I1.kept (t':=s1.toks) fun b o e=>Heap.get?_push_of_some _ e,G6 _ z t "str_iterator" δ (fun A' hA=>Walks.strWide hA _ z t) (fun _ _ _ _ _ st hQ=>wpAny_pyIter_striter_wide st hQ),⟨_,Heap.get?_push_size _ rfl,rfl,rfl⟩,fun b hb=>?_,q⟩
  have e:b = s1.heap.objs.size:=by simpa using hb
  subst e
  xt I1.uR (Nat.le_refl _) (I1.hok.fresh (Nat.le_refl _))
 ·rf wpAny_pyIter_ascii ha ?_
  rf ⟨s1.heap.objs.size,[s1.heap.objs.size],_,Its z,H1,rfl,I1.kept (t':=s1.toks) fun b o e=>Heap.get?_push_of_some _ e,G6 _ z t "str_ascii_iterator" δ (fun A' hA=>Walks.strAscii hA _ z t) (fun _ _ _ _ _ st hQ=>wpAny_pyIter_striter_ascii st hQ),⟨_,Heap.get?_push_size _ rfl,rfl,rfl⟩,fun b hb=>?_,q⟩
  have e:b = s1.heap.objs.size:=by simpa using hb
  subst e
  xt I1.uR (Nat.le_refl _) (I1.hok.fresh (Nat.le_refl _))
theorem Lw:∀ {bs:List Bool} {us:List Value},Vals (bs.map V.bl) us→us = bs.map Value.bool
 | [],_,.nil=>rfl
 | b :: r,_,.cons q t=>by rw [Lw t,show _ = Value.bool b from q]; rfl
theorem range_all (bs:List Bool):(List.range bs.length).all (fun i=>bs.getD i false) = bs.all id:=by
 induction bs with
 | nil=>rfl
 | cons b r ih =>
  rw [List.length_cons,List.range_succ_eq_map,List.all_cons,List.all_map,List.all_cons]
  congr 1
def abL (K:Φ) (f:List Bool→Bool):List V→Hp→VK→Prop:=fun xs H Q=>∃ a bs,xs = [.ref a]∧uY K H a (bs.map V.bl)∧Q (.bl (f bs)) H
theorem Q0 {P:Program} {w:World} {A:Around} (bs:List Bool):TruthOf P w A (fun i v=>(bs.map Value.bool).toArray[i]? = some v) (fun i=>bs.getD i false):=by
 intro i v s Q E hv hq
 have:v = .bool (bs.getD i false):=by
  rw [List.getElem?_toArray,List.getElem?_map] at hv
  cases hb:bs[i]? with
  | none=>rw [hb] at hv; cases hv
  | some b =>
   rw [hb] at hv
   rw [List.getD_eq_getElem?_getD,hb]
   xt (Option.some.inj hv).symm
 subst this
 xt wpAny_truthy_bool hq
theorem Jd (hc:X.calm = true):ir X (.builtin "all") (abL X.K (·.all id)):=by
 intro pins s σ H xs us Q I r h
 ob ⟨a,bs,rfl,hq,q⟩:=h
 ob ⟨u,rfl,ru⟩:=vals1 r
 cases ru
 ob ⟨its,rv,p,hz⟩:=I.list hq
 have e:=Lw rv
 subst e
 have hlt:a < s.heap.objs.size:=by ob ⟨o,n,e,_⟩:=p; xt Heap.lt_size e
 rf call_all_walk (wpAny_pyIter_list p.isList ⟨_,_,_,_,_,_,fun i=>bs.getD i false,rfl,Walks.list (A:=X.A.in1) (I.ok.hd hc) _ a (Nat.ne_of_lt hlt) (bs.map Value.bool).toArray,⟨⟨_,Heap.get?_push_size _ rfl,rfl,rfl⟩,(p.keeps fun b o e=>Heap.get?_push_of_some _ e).isList⟩,Q0 bs,fun h' tk kk=>?_⟩)
 rf ⟨.bl (bs.all id),H,I.kept fun b o e=>kk b o (by simpa using Nat.ne_of_lt (Heap.lt_size e)) (Heap.get?_push_of_some _ e),?_,q⟩
 show Value.bool _ = Value.bool _
 rw [← range_all]
 simp
theorem O4:pR X (compareOp .Gt) (fun x y H Q=>∃ i j,x = .str i∧y = .str j∧Q (.bl (decide (j.cps.toList < i.cps.toList))) H):=by
 intro pins s σ H x y v u Q I rx ry h
 ob ⟨i,j,rfl,rfl,q⟩:=h
 ob ⟨t,rfl⟩:=rx
 ob ⟨t',rfl⟩:=ry
 xt PySem.P.gt_str (Ge I q rfl)
def Qe (x:Str) (lo hi:Option Int):Str:=⟨((x.cps.toList.drop (HT.uK x.length 0 lo)).take (HT.uK x.length x.length hi - HT.uK x.length 0 lo)).toArray⟩
theorem Rh (lo hi:Option Int) (n:Nat):Builtin.Str.strSliceIndices lo hi 1 n = (List.range (HT.uK n n hi - HT.uK n 0 lo)).map (fun k=>HT.uK n 0 lo + k):=by
 have h1:∀ (v:Option Int) (d:Nat),d≤n→(match v with | none=>(d:Int) | some i=>max 0 (min (if i < 0 then i + (n:Int) else i) (n:Int))) = ((HT.uK n d v:Nat):Int):=by
  intro v d hd
  cases v with
  | none=>rfl
  | some i =>
   show max 0 (min (if i < 0 then i + (n:Int) else i) (n:Int)) = (((if i < 0 then (i + (n:Int)).toNat else min i.toNat n):Nat):Int)
   by_cases hv:i < 0
   ·simp only [if_pos hv]; omega
   ·simp only [if_neg hv]; omega
 have fin:∀ (p q:Int) (a b:Nat),p = (a:Int)→q = (b:Int)→sliceRange p q 1 = (List.range (b - a)).map (fun k=>a + k):=by
  intro p q a b e1 e2
  subst e1 e2
  unfold sliceRange
  simp only [show ((1:Int) > 0) = True from by simp,if_true]
  by_cases hlt:(a:Int) < b
  ·have e3:(((b:Int) - a + 1 - 1) / 1).toNat = b - a:=by first | omega | (simp; done) | (simp; omega)
   simp only [hlt,if_true,e3]
   rf List.map_congr_left fun k _=>?_
   omega
  ·have:b - a = 0:=by omega
   simp [hlt,this]
 unfold Builtin.Str.strSliceIndices
 rf fin _ _ _ _ ?_ ?_
 ·have:=h1 lo 0 (Nat.zero_le _)
  cases lo with
  | none=>xt this
  | some i=>xt this
 ·have:=h1 hi n (Nat.le_refl _)
  cases hi with
  | none=>xt this
  | some i=>xt this
theorem Oo (x:Str) (lo hi:Option Int):Txt.slice x lo hi = Qe x lo hi:=by
 have hle:HT.uK x.length x.length hi≤x.length:=HT.Rq _ _ (Nat.le_refl _) hi
 have ha:HT.uK x.length 0 lo≤x.length:=HT.Rq _ _ (Nat.zero_le _) lo
 unfold Txt.slice Qe
 rw [Rh]
 generalize HT.uK x.length 0 lo = a at *
 generalize HT.uK x.length x.length hi = b at *
 have hp:((List.range (b - a)).map (fun k=>a + k)).filterMap (fun i=>x.cps[i]?) = (x.cps.toList.drop a).take (b - a):=by
  have h:=StrLaws.picks x.cps.toList (b - a) a (by simp [Str.length] at hle ha ⊢; omega)
  simpa using h
 split
 ·rename_i h
  simp only [List.length_map,List.length_range,beq_self_eq_true,Bool.true_and,beq_iff_eq] at h
  have e:a = 0∨x.length = 0:=by omega
  have e2:(x.cps.toList.drop a).take (b - a) = x.cps.toList:=by
   rw [h]
   rcases e with e | e
   ·subst e
    rw [List.drop_zero]
    xt List.take_of_length_le (by simp [Str.length])
   ·have:x.cps.toList = []:=List.eq_nil_of_length_eq_zero (by simpa [Str.length] using e)
    rw [this]; simp
  rw [e2]
 ·rw [hp]
def abv:V→Option Int→Option Int→Hp→VK→Prop:=fun x lo hi H Q=>∃ z,x = .str z∧z.length≤sizeLine∧Q (.str (Qe z lo hi)) H
theorem Zf:YL X abv:=by
 intro pins s σ H x v vl vu lo hi sl Q I rx hs pl pu h
 ob ⟨z,rfl,hz,q⟩:=h
 ob ⟨t,rfl⟩:=rx
 have fin:∀ (l u:Option (Int×Tok)),vl = partValue l→vu = partValue u→lo = l.map (·.1)→hi = u.map (·.1) →
  wpAny (model X.prog X.w) X.A (getItem (.str z t) (.ref sl)) (EP X pins σ Q) X.xe s:=by
  intro l u e1 e2 e3 e4
  subst e1 e2 e3 e4
  rf wpAny_getItem_str_slice (l:=l) (u:=u) (st:=none) hs rfl ?_
  rf post_val_or_str ⟨Nat.le_trans (Txt.slice_le z _ _) hz,fun t' k=>?_⟩
  rf ⟨.str (Qe z _ _),H,I.tok k,⟨t',?_⟩,q⟩
  show Value.str (Txt.slice z _ _) t' = _
  rw [Oo]
 rf ⟨"str", _,F.slot_str_getitem.lookup,typeIs_str _ _ _,?_⟩
 cases pl with
 | none=>cases pu with
  | none=>xt fin none none rfl rfl rfl rfl
  | int j tj=>xt fin none (some (j,tj)) rfl rfl rfl rfl
 | int i ti=>cases pu with
  | none=>xt fin (some (i,ti)) none rfl rfl rfl rfl
  | int j tj=>xt fin (some (i,ti)) (some (j,tj)) rfl rfl rfl rfl
def abJ (neg:Bool):R2:=fun x y H Q=>∃ c z,x = sgn c∧y = .str z∧Q (.bl (if neg then !decide (c∈z.cps.toList) else decide (c∈z.cps.toList))) H
theorem ZG:pR X (compareOp .In) (abJ false):=by
 intro pins s σ H x y v u Q I rx ry h
 ob ⟨c,z,rfl,rfl,q⟩:=h
 rf O3 pins s σ H _ _ v u Q I rx ry ⟨_,z,rfl,rfl,?_⟩
 rw [StrLaws.found_one]; xt q
def abF (K:Φ):List V→Hp→VK→Prop:=fun xs H Q=>∃ x t T b,xs = [x,.ty T]∧um K H x t∧PySem.W.kitOne K t (.type T) = some b∧Q (.bl b) H
theorem lA:ir X (.builtin "isinstance") (abF X.K):=by
 intro pins s σ H xs us Q I r h
 ob ⟨x,t,T,b,rfl,ty,e,q⟩:=h
 ob ⟨u,w',rfl,rx,rt⟩:=vals2 r
 cases (show w' = Value.type T from rt)
 xt Py I rx ty e fun tk=>⟨.bl b,H,I.tok tk,rfl,q⟩
end
end L2
namespace L2
open PySem PySem.Spec PyProof.Rows
def Ux (osc:Scope) (N N':List Str) (ρ : List (Option Nat)) (sc:Scope):Bool :=
 sc.names.all (fun y=>!(decide (y.2 = .cell))) && sc.names.all (fun y=>!(decide (y.2 = .local)) || decide (sc.names.lookup y.1 = some .local)) &&
 sc.names.all (fun y=>!(decide (y.2 = .free)) || (decide (osc.names.lookup y.1 = some .cell) || decide (osc.names.lookup y.1 = some .free))) &&
 decide (ρ.length = N'.length) && (List.range ρ.length).all fun i=>match ρ[i]? with
  | some (some j)=>(match N'[i]? with | some x=>decide (N[j]? = some x) && decide (sc.names.lookup x = some .free) | none=>false)
  | _=>true
theorem dW.of {X:Cx} {N':List Str} {ρ : List (Option Nat)} {sc:Scope} (hk:sc.kind = .function) (h:Ux X.env.scope X.N N' ρ sc = true):dW X N' ρ sc:=by
 unfold Ux at h
 simp only [Bool.and_eq_true,List.all_eq_true,Bool.or_eq_true,Bool.not_eq_true',decide_eq_true_eq,decide_eq_false_iff_not] at h
 ob ⟨⟨⟨⟨h1,h2⟩,h3⟩,h4⟩,h5⟩:=h
 rf ⟨hk,fun y hy=>h1 y hy,fun y hy e=>(h2 y hy).resolve_left (fun z=>z e),fun y hy e=>(h3 y hy).resolve_left (fun z=>z e),h4,fun i j e=>?_⟩
 have hi:i < ρ.length:=(List.getElem?_eq_some_iff.mp e).1
 have q:=h5 i (List.mem_range.mpr hi)
 rw [e] at q
 cases hN:N'[i]? with
 | none=>rw [hN] at q; cases q
 | some x =>
  rw [hN] at q
  simp only [Bool.and_eq_true,decide_eq_true_eq] at q
  xt ⟨x,rfl,q.1,q.2⟩
structure nU (P:Program) (w:World) (K:Φ) (mg:Str→Option Value) (base:Heap) (CX:GP) (k:Nat) (x:Str) (ps:List Str) (sp:Sp):Prop where
 ex:∃ (f:Addr) (fd:FuncData),mg x = some (.ref f)∧PySem.W.keepIn K (.ref f) = true∧Binds K fd ps []∧cY P w K mg base CX k f fd ps sp
theorem bz {X:Cx} {CX:GP} {k:Nat} {x:Str} {ps:List Str} {sp:Sp} {E:XK} {e:Expr} {es:List Expr} {t:TA} {p pos:Pos} (C:nU X.prog X.w X.K X.mg X.base CX k x ps sp) (hr:jr k X.A) (hg:Gl X x) (hx:Bo CX X E)
 (ha:PA X (e :: es) t) (hdb:(x == ("__debug__" : Str)) = false:=by decide) (he:starEach (e :: es) X.env = (false,eval e X.env) :: starEach es X.env:=by rfl) (hpl:(backTo pos (starEach es X.env)).any (·.1) = false:=by rfl) :
 PE X (.Call (.Name x p) (e :: es) [] pos) (vm sp [] E t):=by
 ob ⟨f,fd,hm,hk,hb,F⟩:=C.ex
 xt Wf F hr hg hm hk hb .nil hx ha hdb he hpl
theorem pG {X:Cx} {x:Str} {T:String} {pos:Pos} (hg:Gl X x) (hm:X.mg x = none) (hv:bootBuiltins x = some (.type T)) (hn:x ≠ "__name__" := by decide) (hd:(x == ("__debug__" : Str)) = false:=by decide):PE X (.Name x pos) (tC (.ty T)) :=
 Wh hg hm hv rfl hn hd
structure q9 (K:Φ) (mg:Str→Option Value) (x:Str) (st:Stmt) (ps:List Str):Prop where
 ex:∃ (f:Addr) (fd:FuncData),mg x = some (.ref f)∧PySem.W.keepIn K (.ref f) = true∧Binds K fd ps []∧(∀ (s:Shared) (us:List Value),us.length = ps.length→BindsTo s fd ⟨us,[]⟩ (ps.zip us))∧oG K x x st f fd
theorem cR {K:Φ} {h:Heap} {mg:Str→Option Value} {x:Str} {st:Stmt} {ps:List Str} {f:Addr} {oc:Value} {od an:Option Addr} {osl:Array (Option Value)} {kV doc pm cdv ct:Value} (X:K.In h) (G:h.Ns mainGlobals mg)
 (hb:∀ (kV doc pm:Value) (an:Option Addr) (cdv ct:Value) (us:List Value),us.length = ps.length→bindArgs (PySem.W.fnOf x x (lY st) (iG st) (aQ st) .none kV doc pm an cdv ct) ⟨us,[]⟩ = pure (ps.zip us))
 (a:PySem.W.nsIn K mainGlobals x = some (some (.ref f))) (l:K.lookup f = some ⟨oc,od,.func (PySem.W.fnOf x x (lY st) (iG st) (aQ st) .none kV doc pm an cdv ct),osl⟩)
 (c:PySem.W.codeIn K cdv x = true) (k:PySem.W.keepIn K (.ref f) = true):q9 K mg x st ps:=by
 have F:=T8 (st:=st) l c k
 xt ⟨f,_,PySem.W.mg_of X G a,k,F.binds hb,fun s us hl=>.of_eq (hb kV doc pm an cdv ct us hl),F⟩
theorem q9.cal {P:Program} {w:World} {K:Φ} {mg:Str→Option Value} {base:Heap} {CX:GP} {k:Nat} {x:Str} {st:Stmt} {ps:List Str} {sp:Sp} (F:q9 K mg x st ps) (h:∀ f fd,oG K x x st f fd→cY P w K mg base CX k f fd ps sp) :
 nU P w K mg base CX k x ps sp:=by
 ob ⟨f,fd,h1,h2,h3,_,h4⟩:=F.ex
 xt ⟨f,fd,h1,h2,h3,h f fd h4⟩
end L2
namespace Mi
open PySem
inductive D where
 | non | bl (b:Bool) | int (i:Int) | str (x:Str) | lst (ds:List D) | tup (ds:List D)
mutual
def D.dep:D→Nat
 | .lst ds=>b8 ds + 1
 | .tup ds=>b8 ds + 1
 | _=>0
def b8:List D→Nat
 | []=>0
 | d :: r=>max d.dep (b8 r)
end
mutual
/-- Python's == -/
def cI:D→D→Bool
 | .non,.non=>true
 | .bl a,.bl b=>a == b
 | .bl a,.int b=>(if a then 1 else 0) == b
 | .int a,.bl b=>a == (if b then 1 else 0)
 | .int a,.int b=>a == b
 | .str a,.str b=>a == b
 | .lst a,.lst b=>jU a b
 | .tup a,.tup b=>jU a b
 | _,_=>false
def jU:List D→List D→Bool
 | [],[]=>true
 | a :: r,b :: s=>cI a b && jU r s
 | _,_=>false
end
mutual
/-- no list in it -/
def WW:D→Bool
 | .lst _=>false
 | .tup ds=>WT ds
 | _=>true
def WT:List D→Bool
 | []=>true
 | d :: r=>WW d && WT r
end
def BL (n:Nat) (i:Int):Option Nat:=if 0≤i then (if i < n then some i.toNat else none) else if -(n:Int)≤i then some (i + n).toNat else none
def wy {α : Type} (xs:List α) (i:Int):Option α:=(BL xs.length i).bind fun j=>xs[j]?
def uK (n d:Nat):Option Int→Nat
 | none=>d
 | some v=>if v < 0 then (v + (n:Int)).toNat else min v.toNat n
def qy {α : Type} (xs:List α) (lo hi:Option Int):List α:=(xs.drop (uK xs.length 0 lo)).take (uK xs.length xs.length hi - uK xs.length 0 lo)
abbrev Ky:=Sum Int Str
inductive W where
 | d (x:D) | dk (kvs:List (Ky×D)) | dt (kvs:List (List Ky×D)) | ex (c:String)
abbrev Env:=List (Option W)
structure yE where
 cls:String
 val:List D
inductive Rs (α : Type) where
 | ok (a:α) | ex (x:yE) | no
def Rs.bind {α β : Type}:Rs α→(α→Rs β)→Rs β
 | .ok a,f=>f a
 | .ex x,_=>.ex x
 | .no,_=>.no
@[simp] theorem aD {α β : Type} (a:α) (f:α→Rs β):(Rs.ok a).bind f = f a:=rfl
@[simp] theorem adl {α β : Type} (x:yE) (f:α→Rs β):(Rs.ex x).bind f = .ex x:=rfl
@[simp] theorem adk {α β : Type} (f:α→Rs β):(Rs.no).bind f = .no:=rfl
theorem bind_assoc {α β γ : Type} (r:Rs α) (f:α→Rs β) (g:β→Rs γ):(r.bind f).bind g = r.bind fun a=>(f a).bind g:=by cases r <;> rfl
def Fin {α : Type} (r:Rs α) (k:α→Prop):Prop:=match r with
 | .ok a=>k a
 | _=>False
theorem aq {α β : Type} {r:Rs α} {f:α→Rs β} {k:β→Prop}:Fin (r.bind f) k↔Fin r fun a=>Fin (f a) k:=by cases r <;> xt Iff.rfl
theorem Fin.mono {α : Type} {r:Rs α} {k k':α→Prop} (h:Fin r k) (m:∀ a,k a→k' a):Fin r k':=by
 cases r with
 | ok a=>xt m a h
 | ex x=>xt h
 | no=>xt h
theorem Aw {α : Type} {r s:Rs α} {k:α→Prop} (h:Fin (if true = true then r else s) k):Fin r k:=by simpa using h
theorem Ax {α : Type} {r s:Rs α} {k:α→Prop} (h:Fin (if false = true then r else s) k):Fin s k:=by simpa using h
theorem gG {α : Type} {a:α} {k:α→Prop} (h:Fin (.ok a) k):k a:=h
def pH {α : Type}:Option α→Rs α
 | some a=>.ok a
 | none=>.no
def aK {α : Type} (c:Prop) [Decidable c] (r:Rs α):Rs α:=if c then r else .no
theorem ak {α : Type} {c:Prop} [Decidable c] {r:Rs α} (h:c):aK c r = r:=if_pos h
theorem aV {α : Type} {c:Prop} [Decidable c] {r:Rs α} {k:α→Prop} (h:Fin (aK c r) k):c∧Fin r k:=by
 unfold aK at h
 split at h
 ·xt ⟨‹_›,h⟩
 ·xt h.elim
abbrev E:=Env→Rs D
abbrev C:=Env→Rs Bool
def mC (d:D):E:=fun _=>.ok d
def mV (i:Nat):E:=fun e=>match e[i]? with
 | some (some (.d x))=>.ok x
 | _=>.no
def m1 (f:D→Rs D) (a:E):E:=fun e=>(a e).bind f
def m2 (f:D→D→Rs D) (a b:E):E:=fun e=>(a e).bind fun x=>(b e).bind fun y=>f x y
def jw:List E→Env→Rs (List D)
 | [],_=>.ok []
 | a :: r,e=>(a e).bind fun x=>(jw r e).bind fun xs=>.ok (x :: xs)
def mN (f:List D→Rs D) (as:List E):E:=fun e=>(jw as e).bind f
def dTup (ds:List D):Rs D:=aK (ds.length≤16777216) (.ok (.tup ds))
def gm (ds:List D):Rs D:=aK (ds.length≤16777216) (.ok (.lst ds))
def asB:D→Rs Bool
 | .bl b=>.ok b
 | _=>.no
def HW (a b:E):E:=fun e=>(a e).bind fun x=>(asB x).bind fun c=>if c = true then b e else .ok (.bl false)
def mOr (a b:E):E:=fun e=>(a e).bind fun x=>(asB x).bind fun c=>if c = true then .ok (.bl true) else b e
def adL (a:E):E:=fun e=>(a e).bind fun x=>(asB x).bind fun c=>.ok (.bl (!c))
def adM (c:C) (a b:E):E:=fun e=>(c e).bind fun k=>if k = true then a e else b e
def uO (f g:D→D→Rs D) (a b c:E):E:=fun e=>(a e).bind fun x=>(b e).bind fun y=>(f x y).bind fun z=>(asB z).bind fun k=>if k = true then (c e).bind fun w=>g y w else .ok (.bl false)
def Xv:D→Rs Int
 | .int i=>.ok i
 | _=>.no
def sr:Option E→Env→Rs (Option Int)
 | none,_=>.ok none
 | some a,e=>(a e).bind fun x=>(Xv x).bind fun i=>.ok (some i)
def j8 (x:Str) (lo hi:Option Int):Str:=⟨(qy x.cps.toList lo hi).toArray⟩
def IV (x:D) (lo hi:Option Int):Rs D:=match x with
 | .lst ds=>.ok (.lst (qy ds lo hi))
 | .str z=>aK (z.length≤16777216) (.ok (.str (j8 z lo hi)))
 | _=>.no
def aej (x:D) (lo hi:Option Int):Rs D:=match x with
 | .lst ds=>.ok (.lst (qy ds lo hi))
 | _=>.no
def qU (f:D→Option Int→Option Int→Rs D) (a:E) (lo hi:Option E):E:=fun e=>(a e).bind fun x=>(sr lo e).bind fun l=>(sr hi e).bind fun h=>f x l h
def cB (a:E):C:=fun e=>(a e).bind asB
def sU (a b:C):C:=fun e=>(a e).bind fun c=>if c = true then b e else .ok false
def QC (a b:C):C:=fun e=>(a e).bind fun c=>if c = true then .ok true else b e
def qC (a:C):C:=fun e=>(a e).bind fun c=>.ok (!c)
def aav:D→Rs Bool
 | .non=>.ok false
 | .bl b=>.ok b
 | .int i=>.ok (i != 0)
 | .str y=>aK (y.length≤16777216) (.ok ((y.length:Int) != 0))
 | .lst ds=>.ok (!ds.isEmpty)
 | .tup ds=>.ok (!ds.isEmpty)
def Xh (a:E):C:=fun e=>(a e).bind aav
abbrev I:=Env→Rs (List D)
def Gg:D→Rs (List D)
 | .lst ds=>.ok ds
 | .tup ds=>.ok ds
 | .str x=>.ok (x.cps.toList.map fun c=>.str ⟨#[c]⟩)
 | _=>.no
def uh (a:E):I:=fun e=>(a e).bind Gg
def di (lo hi:Int):List D:=(List.range (hi - lo).toNat).map fun k=>.int (lo + (k:Nat))
def okR (i:Int):Prop:=-(2 ^ 62)≤i∧i < 2 ^ 62
instance (i:Int):Decidable (okR i):=inferInstanceAs (Decidable (_∧_))
def gF (a:E):I:=fun e=>(a e).bind fun x=>(Xv x).bind fun j=>aK (okR j) (.ok (di 0 j))
def W0 (a b:E):I:=fun e=>(a e).bind fun x=>(b e).bind fun y=>(Xv x).bind fun i=>(Xv y).bind fun j=>aK (okR i∧okR j) (.ok (di i j))
def pP (k:Nat):List D→List D
 | []=>[]
 | d :: r=>.tup [.int k,d] :: pP (k + 1) r
def gA:D→Rs (List D)
 | .lst ds=>.ok ds
 | _=>.no
def Nh (a:E):I:=fun e=>(a e).bind fun x=>(gA x).bind fun ds=>.ok (pP 0 ds)
def nO:List D→List D→List D
 | a :: r,b :: s=>.tup [a,b] :: nO r s
 | _,_=>[]
def acp (a b:E):I:=fun e=>(a e).bind fun x=>(b e).bind fun y=>(gA x).bind fun ds=>(gA y).bind fun es=>.ok (nO ds es)
def Uk:List D→List D→List D→List D
 | a :: r,b :: s,c :: t=>.tup [a,b,c] :: Uk r s t
 | _,_,_=>[]
def aco (a b c:E):I:=fun e=>(a e).bind fun x=>(b e).bind fun y=>(c e).bind fun z=>(gA x).bind fun ds=>(gA y).bind fun es=>(gA z).bind fun fs=>.ok (Uk ds es fs)
inductive Tg where
 | n (i:Nat) | t (is:List Nat)
def pZ:List Nat→List D→Env→Rs Env
 | [],[],e=>.ok e
 | i :: is,d :: ds,e=>pZ is ds (e.set i (some (.d d)))
 | _,_,_=>.no
def Tg.put:Tg→D→Env→Rs Env
 | .n i,d,e=>.ok (e.set i (some (.d d)))
 | .t is,.tup ds,e=>pZ is ds e
 | _,_,_=>.no
def qJ (ρ : List (Option Nat)) (e:Env):Env:=ρ.map fun o=>o.bind fun j=>(e[j]?).join
def eX (tg:Tg) (c:C) (a:E) (e:Env):List D→Rs (List D)
 | []=>.ok []
 | x :: r=>(tg.put x e).bind fun e1=>(c e1).bind fun k=>if k = true then (a e1).bind fun y=>(eX tg c a e r).bind fun ys=>.ok (y :: ys) else eX tg c a e r
def jq:C:=fun _=>.ok true
def fL (ρ : List (Option Nat)) (it:I) (tg:Tg) (c:C) (a:E):E:=fun e=>(it e).bind fun xs=>aK (xs.length≤16777216) ((eX tg c a (qJ ρ e) xs).bind fun ys=>.ok (.lst ys))
abbrev Fn:=List W→Rs W
abbrev EW:=Env→Rs W
def wD (a:E):EW:=fun e=>(a e).bind fun x=>.ok (.d x)
def wV (i:Nat):EW:=fun e=>match e[i]? with
 | some (some w)=>.ok w
 | _=>.no
def bM:List EW→Env→Rs (List W)
 | [],_=>.ok []
 | a :: r,e=>(a e).bind fun x=>(bM r e).bind fun xs=>.ok (x :: xs)
def uq (f:Fn) (as:List EW):EW:=fun e=>(bM as e).bind f
def asD:W→Rs D
 | .d x=>.ok x
 | _=>.no
def aZ (f:Fn) (as:List EW):E:=fun e=>(uq f as e).bind asD
def Vk:W→Rs D
 | .d x=>aK (WW x = true) (.ok x)
 | _=>.no
def qj (f:Fn) (as:List EW):E:=fun e=>(uq f as e).bind Vk
inductive Out where
 | nx (e:Env) | rt (w:W) | bk (e:Env) | ct (e:Env)
abbrev S:=Env→Rs Out
def bB:S:=fun e=>.ok (.nx e)
def adC:S:=fun e=>.ok (.bk e)
def aeD:S:=fun e=>.ok (.ct e)
def aY (s t:S):S:=fun e=>(s e).bind fun o=>match o with
 | .nx e'=>t e'
 | o=>.ok o
def LK (i:Nat) (a:EW):S:=fun e=>(a e).bind fun w=>.ok (.nx (e.set i (some w)))
def bZ (i:Nat) (a:E):S:=fun e=>(a e).bind fun d=>.ok (.nx (e.set i (some (.d d))))
def Rp (tg:Tg) (a:E):S:=fun e=>(a e).bind fun d=>(tg.put d e).bind fun e'=>.ok (.nx e')
def rT (a:E):S:=fun e=>(a e).bind fun _=>.ok (.nx e)
def dJ (a:EW):S:=fun e=>(a e).bind fun w=>.ok (.rt w)
def abn:S:=fun _=>.ok (.rt (.d .non))
def iz (c:C) (s t:S):S:=fun e=>(c e).bind fun k=>if k = true then s e else t e
def ji:S:=fun _=>.no
def qu (tg:Tg) (body:S):List D→Env→Rs Out
 | [],e=>.ok (.nx e)
 | x :: r,e=>(tg.put x e).bind fun e1=>(body e1).bind fun o=>match o with
  | .nx e2=>qu tg body r e2
  | .ct e2=>qu tg body r e2
  | .bk e2=>.ok (.nx e2)
  | .rt w=>.ok (.rt w)
def nu (it:I) (tg:Tg) (body:S):S:=fun e=>(it e).bind fun xs=>qu tg body xs e
def jW (c:C) (body:S):Nat→Env→Rs Out
 | 0,_=>.no
 | n + 1,e=>(c e).bind fun k=>if k = true then (body e).bind fun o=>match o with
  | .nx e2=>jW c body n e2
  | .ct e2=>jW c body n e2
  | .bk e2=>.ok (.nx e2)
  | .rt w=>.ok (.rt w)
  else .ok (.nx e)
def El (n:Nat) (c:C) (body:S):S:=jW c body n
def getL (e:Env) (i:Nat):Rs (List D):=match e[i]? with
 | some (some (.d (.lst ds)))=>.ok ds
 | _=>.no
def putL (e:Env) (i:Nat) (ds:List D):Env:=e.set i (some (.d (.lst ds)))
def bV (i:Nat) (a:E):S:=fun e=>(a e).bind fun d=>(getL e i).bind fun ds=>aK (ds.length < 16777216) (.ok (.nx (putL e i (ds ++ [d]))))
def V4 (i:Nat) (a:E):S:=fun e=>(a e).bind fun d=>(getL e i).bind fun ds=>match d with
 | .lst xs=>aK (ds.length + xs.length≤16777216) (.ok (.nx (putL e i (ds ++ xs))))
 | _=>.no
def Ro (i:Nat):S:=fun e=>(getL e i).bind fun ds=>.ok (.nx (putL e i ds.reverse))
def Zj (i:Nat):S:=fun e=>(getL e i).bind fun ds=>.ok (.nx (putL e i []))
def abo (x y:Nat):S:=fun e=>(getL e y).bind fun ds=>(pH ds[ds.length - 1]?).bind fun d=>.ok (.nx ((putL e y ds.dropLast).set x (some (.d d))))
def Ht (ds:List D) (i:Int):Rs (D×List D):=aK (-(2 ^ 63)≤i∧i < 2 ^ 63) ((pH (BL ds.length i)).bind fun k=>(pH ds[k]?).bind fun d=>.ok (d,ds.eraseIdx k))
def Zi (x y:Nat) (k:E):S:=fun e=>(k e).bind fun z=>(Xv z).bind fun i=>(getL e y).bind fun ds=>(Ht ds i).bind fun p=>.ok (.nx ((putL e y p.2).set x (some (.d p.1))))
def mO (x y:Nat) (k:E):S:=fun e=>(k e).bind fun z=>(Xv z).bind fun i=>(getL e y).bind fun ds=>(Ht ds i).bind fun p=>(getL (putL e y p.2) x).bind fun es =>
 aK (es.length < 16777216) (.ok (.nx (putL (putL e y p.2) x (es ++ [p.1]))))
def ou (x:Nat) (k a:E):S:=fun e=>(a e).bind fun d=>(k e).bind fun z=>(Xv z).bind fun i=>(getL e x).bind fun ds=>(pH (BL ds.length i)).bind fun j=>.ok (.nx (putL e x (ds.set j d)))
def abp (x y:Nat):S:=fun e=>match e[y]? with
 | some (some w)=>.ok (.nx ((e.set y none).set x (some w)))
 | _=>.no
def P0:D→Option Ky
 | .int i=>some (.inl i)
 | .str x=>some (.inr x)
 | _=>none
def CQ:List D→Option (List Ky)
 | []=>some []
 | d :: r=>match P0 d,CQ r with
  | some k,some ks=>some (k :: ks)
  | _,_=>none
def Bs {κ : Type} [DecidableEq κ] (kvs:List (κ×D)) (k:κ):Option D:=(kvs.find? fun kv=>decide (kv.1 = k)).map (·.2)
def Xc (w:W) (k:D):Rs (Option D):=match w with
 | .dk kvs=>(pH (P0 k)).bind fun k=>.ok (Bs kvs k)
 | .dt kvs=>match k with
  | .tup ds=>(pH (CQ ds)).bind fun k=>.ok (Bs kvs k)
  | _=>.no
 | _=>.no
def putK {κ : Type} [DecidableEq κ] (k:κ) (v:D) (kvs:List (κ×D)):List (κ×D) :=
 if (kvs.any fun kv=>decide (kv.1 = k)) = true then kvs.map (fun kv=>if kv.1 = k then (kv.1,v) else kv) else kvs ++ [(k,v)]
def aaw (w:W) (k v:D):Rs W:=match w with
 | .dk kvs=>aK (kvs.length < 16777216) ((pH (P0 k)).bind fun k=>.ok (.dk (putK k v kvs)))
 | .dt kvs=>match k with
  | .tup ds=>aK (kvs.length < 16777216) ((pH (CQ ds)).bind fun k=>.ok (.dt (putK k v kvs)))
  | _=>.no
 | _=>.no
def BJ (i:Nat) (k:E):E:=fun e=>(k e).bind fun d=>(wV i e).bind fun w=>(Xc w d).bind fun o=>.ok (.bl o.isSome)
def Mv (i:Nat) (k:E):E:=fun e=>(k e).bind fun d=>(wV i e).bind fun w=>(Xc w d).bind fun o=>.ok (.bl (!o.isSome))
def aca (i:Nat) (k:E):E:=fun e=>(k e).bind fun d=>(wV i e).bind fun w=>(Xc w d).bind pH
def lO (i:Nat) (k v:E):S:=fun e=>(v e).bind fun x=>(k e).bind fun d=>(wV i e).bind fun w=>(aaw w d x).bind fun w'=>.ok (.nx (e.set i (some w')))
def vV:Out→Rs W
 | .rt w=>.ok w
 | .nx _=>.ok (.d .non)
 | _=>.no
def vf (k n:Nat) (body:S):Fn:=fun ws=>aK (ws.length = k) ((body (ws.map some ++ List.replicate (n - ws.length) none)).bind vV)
def mZ:Out→Rs W
 | .rt w=>.ok w
 | _=>.no
def JF (k n:Nat) (body:S):Fn:=fun ws=>aK (ws.length = k) ((body (ws.map some ++ List.replicate (n - ws.length) none)).bind mZ)
def fnZ:Fn:=fun _=>.no
def vJ (i j:Int):Prop:=(-(2 ^ 64) < i∧i < 2 ^ 64)∨(-(2 ^ 64) < j∧j < 2 ^ 64)
instance (i j:Int):Decidable (vJ i j):=inferInstanceAs (Decidable (_∨_))
def vK (j:Int):Prop:=0 < j∧j.natAbs.log2 < 9000
instance (j:Int):Decidable (vK j):=inferInstanceAs (Decidable (_∧_))
def Yj (i j:Int):Prop:=0≤j∧j≤1000000∧i.natAbs < 2 ^ 64
instance (i j:Int):Decidable (Yj i j):=inferInstanceAs (Decidable (_∧_))
def dj:D→D→Rs D
 | .int i,.int j=>.ok (.int (i + j))
 | .str i,.str j=>aK (i.length + j.length≤16777216) (.ok (.str (i ++ j)))
 | .lst i,.lst j=>aK (i.length + j.length≤16777216) (.ok (.lst (i ++ j)))
 | _,_=>.no
def yz:D→D→Rs D
 | .int i,.int j=>.ok (.int (i - j))
 | _,_=>.no
def dCat:D→D→Rs D
 | .lst i,.lst j=>aK (i.length + j.length≤16777216) (.ok (.lst (i ++ j)))
 | _,_=>.no
def cQ:D→D→Rs D
 | .int i,.int j=>aK (vJ i j) (.ok (.int (i * j)))
 | _,_=>.no
def ae1:D→D→Rs D
 | .lst ds,.int k=>aK (-(2 ^ 63)≤k∧k < 2 ^ 63∧ds.length * k.toNat≤16777216) (.ok (.lst (List.replicate k.toNat ds).flatten))
 | _,_=>.no
def dC:D→D→Rs D
 | .int i,.int j=>aK (vK j) (.ok (.int (i / j)))
 | _,_=>.no
def bT:D→D→Rs D
 | .int i,.int j=>aK (0 < j) (.ok (.int (i % j)))
 | _,_=>.no
def ae2:D→D→Rs D
 | .int i,.int j=>aK (Yj i j) (.ok (.int (i ^ j.toNat)))
 | _,_=>.no
def W7:D→Rs D
 | .int i=>.ok (.int (-i))
 | _=>.no
def BR:D→D→Rs D
 | .int i,.int j=>.ok (.bl (decide (i < j)))
 | .str i,.str j=>.ok (.bl (decide (i.cps.toList < j.cps.toList)))
 | _,_=>.no
def dGt:D→D→Rs D
 | .int i,.int j=>.ok (.bl (decide (j < i)))
 | .str i,.str j=>.ok (.bl (decide (j.cps.toList < i.cps.toList)))
 | _,_=>.no
def Vv:D→D→Rs D
 | .int i,.int j=>.ok (.bl (decide (i≤j)))
 | _,_=>.no
def dGe:D→D→Rs D
 | .int i,.int j=>.ok (.bl (decide (j≤i)))
 | _,_=>.no
def sS (x y:D):Rs D:=aK (x.dep≤16) (.ok (.bl (cI x y)))
def GQ (x y:D):Rs D:=aK (x.dep≤16) (.ok (.bl (!cI x y)))
def vQ:D→Bool
 | .non=>true
 | _=>false
def dIs (x y:D):Rs D:=match y with
 | .non=>.ok (.bl (vQ x))
 | _=>.no
def Bb (x y:D):Rs D:=match y with
 | .non=>.ok (.bl (!vQ x))
 | _=>.no
def Qc (x y:D):Rs D:=match y with
 | .lst ds=>aK (b8 ds≤16) (.ok (.bl (ds.any fun e=>cI e x)))
 | .tup ds=>aK (b8 ds≤16) (.ok (.bl (ds.any fun e=>cI e x)))
 | .str z=>match x with
  | .str s=>aK (s.length = 1) (.ok (.bl (decide (s.cps.getD 0 0∈z.cps.toList))))
  | _=>.no
 | _=>.no
def dB (x y:D):Rs D:=match y with
 | .lst ds=>aK (b8 ds≤16) (.ok (.bl (!ds.any fun e=>cI e x)))
 | .tup ds=>aK (b8 ds≤16) (.ok (.bl (!ds.any fun e=>cI e x)))
 | _=>.no
def dU (x y:D):Rs D:=match x,y with
 | .lst ds,.int i=>pH (wy ds i)
 | .tup ds,.int i=>pH (wy ds i)
 | .str z,.int i=>aK (z.length≤16777216) ((pH (wy z.cps.toList i)).bind fun c=>.ok (.str ⟨#[c]⟩))
 | _,_=>.no
def iR:List D→Rs D
 | [.lst ds]=>.ok (.int ds.length)
 | [.tup ds]=>.ok (.int ds.length)
 | [.str z]=>aK (z.length≤16777216) (.ok (.int z.length))
 | _=>.no
def xF:List D→Rs D
 | [.int i,.int j]=>.ok (.int (max i j))
 | _=>.no
def BW:List D→Rs D
 | [.int i,.int j]=>.ok (.int (min i j))
 | _=>.no
def Bl:List D→Option (List Bool)
 | []=>some []
 | .bl b :: r=>(Bl r).map (b :: ·)
 | _=>none
def Qs:List D→Rs D
 | [.lst ds]=>(pH (Bl ds)).bind fun bs=>.ok (.bl (bs.all id))
 | _=>.no
def aeq:List D→Rs D
 | [.lst ds]=>(pH (Bl ds)).bind fun bs=>.ok (.bl (bs.any id))
 | _=>.no
def wg:List D→Rs D
 | [.lst ds]=>.ok (.lst ds)
 | [.tup ds]=>.ok (.lst ds)
 | _=>.no
def oF:List D→Rs D
 | [.lst ds]=>.ok (.tup ds)
 | [.tup ds]=>.ok (.tup ds)
 | _=>.no
def Va:List D→Rs D
 | [.int i]=>.ok (.int i)
 | [.bl k]=>.ok (.int (if k then 1 else 0))
 | _=>.no
def Af (t:String):D→Bool
 | .non=>false
 | .bl _=>t == "bool" || t == "int"
 | .int _=>t == "int"
 | .str _=>t == "str"
 | .lst _=>t == "list"
 | .tup _=>t == "tuple"
def JR:D→String
 | .non => "NoneType" | .bl _ => "bool" | .int _ => "int" | .str _ => "str" | .lst _ => "list" | .tup _ => "tuple"
def yC (ts:List String) (x:D):Rs D:=.ok (.bl (ts.any fun t=>Af t x))
def my:List D→Option (List Str)
 | []=>some []
 | .str b :: r=>(my r).map (b :: ·)
 | _=>none
def Nr (x y:D):Rs D:=match x,y with
 | .str sep,.lst ds=>(pH (my ds)).bind fun ys=>aK ((ys.map (·.length)).sum + ys.length * sep.length≤16777216) (.ok (.str (Str.join sep ys)))
 | _,_=>.no
def met (val:Nat→Str):Nat→List Str
 | 0=>[]
 | i + 1=>if val i∈met val i then met val i else met val i ++ [val i]
def Ab (ys:List Str):Nat:=(met (fun i=>ys.getD i Str.empty) ys.length).length
def adh:D→Rs D
 | .lst ds=>(pH (my ds)).bind fun ys=>aK (ys.length + 1 < 4096) (.ok (.int (Ab ys)))
 | _=>.no
def bIndex (x y:D):Rs D:=match x with
 | .lst ds=>aK (b8 ds≤16) ((pH (ds.findIdx? fun e=>cI e y)).bind fun k=>.ok (.int k))
 | .tup ds=>aK (b8 ds≤16) ((pH (ds.findIdx? fun e=>cI e y)).bind fun k=>.ok (.int k))
 | _=>.no
end Mi
namespace L2
open PySem PySem.Spec PyProof.Rows
open Mi (D b8 cI jU)
mutual
theorem wX:∀ d:D,cI d d = true
 | .non=>rfl
 | .bl b=>by simp [cI]
 | .int i=>by simp [cI]
 | .str x=>by simp [cI]
 | .lst ds=>by rw [cI]; xt uL ds
 | .tup ds=>by rw [cI]; xt uL ds
theorem uL:∀ ds:List D,jU ds ds = true
 | []=>rfl
 | d :: r=>by rw [jU,wX d,uL r]; rfl
end
theorem pD:∀ {ds es:List D},ds.length≠es.length→jU ds es = false
 | [],[],h=>absurd rfl h
 | [],_ :: _,_=>rfl
 | _ :: _,[],_=>rfl
 | d :: r,e :: s,h=>by rw [jU,pD (fun z=>h (by rw [List.length_cons,List.length_cons,z])),Bool.and_false]
theorem pF:∀ {ds es:List D},ds.length = es.length→jU ds es = (List.range ds.length).all fun j=>cI (ds.getD j .non) (es.getD j .non)
 | [],[],_=>rfl
 | [],_ :: _,h=>by simp at h
 | _ :: _,[],h=>by simp at h
 | d :: r,e :: s,h=>by
  rw [jU,pF (by simpa using h),List.length_cons,List.range_succ_eq_map,List.all_cons,List.all_map]
  rfl
mutual
/-- the value v in the heap H is the tree d -/
def Rep (K:Φ) (H:Hp):D→V→Prop
 | .non,v=>v = .non
 | .bl b,v=>v = .bl b
 | .int i,v=>v = .int i
 | .str x,v=>v = .str x
 | .lst ds,v=>∃ a xs,v = .ref a∧uY K H a xs∧bU K H ds xs
 | .tup ds,v=>∃ a xs,v = .ref a∧yR K H a xs∧bU K H ds xs
def bU (K:Φ) (H:Hp):List D→List V→Prop
 | [],vs=>vs = []
 | d :: ds,vs=>∃ v r,vs = v :: r∧Rep K H d v∧bU K H ds r
end
theorem bU.length {K:Φ} {H:Hp}:∀ {ds:List D} {vs:List V},bU K H ds vs→ds.length = vs.length
 | [],vs,h=>by rw [bU] at h; subst h; rfl
 | d :: ds,vs,h=>by
  rw [bU] at h
  ob ⟨v,r,rfl,_,q⟩:=h
  rw [List.length_cons,List.length_cons,bU.length q]
theorem bU.get {K:Φ} {H:Hp}:∀ {ds:List D} {vs:List V} {j:Nat} {v:V},bU K H ds vs→vs[j]? = some v→Rep K H (ds.getD j .non) v
 | [],vs,j,v,h,e=>by rw [bU] at h; subst h; simp at e
 | d :: ds,vs,0,v,h,e=>by
  rw [bU] at h
  ob ⟨v',r,rfl,p,q⟩:=h
  simp at e; subst e; xt p
 | d :: ds,vs,j + 1,v,h,e=>by
  rw [bU] at h
  ob ⟨v',r,rfl,p,q⟩:=h
  have:=bU.get (j:=j) (v:=v) q (by simpa using e)
  simpa using this
section
variable {X:Cx} {pins:List (Addr×Obj)} {σ : St} {H:Hp} {s:Shared}
theorem Inv.H9 (I:Inv X pins σ H s) {a:Addr} {xs ys:List V} (h:uY X.K H a xs) (h':yR X.K H a ys):False:=by
 ob ⟨its,_,p,_⟩:=I.list h
 ob ⟨its',_,q,_⟩:=I.tuple h'
 ob ⟨o,n,e,c,_⟩:=p
 ob ⟨o',e',c',_⟩:=q
 rw [e] at e'; cases e'
 rw [c] at c'
 xt absurd (Value.type.inj c') δ
mutual
theorem Rep.inj (I:Inv X pins σ H s):∀ {d e:D} {v:V},Rep X.K H d v→Rep X.K H e v→d = e
 | .non,e,v,h,h'=>by
  rw [Rep] at h; subst h
  cases e <;> rw [Rep] at h' <;> first | rfl | (ob ⟨_,_,z,_⟩:=h'; cases z) | cases h'
 | .bl b,e,v,h,h'=>by
  rw [Rep] at h; subst h
  cases e <;> rw [Rep] at h' <;> first | (ob ⟨_,_,z,_⟩:=h'; cases z) | (cases h'; rfl) | cases h'
 | .int b,e,v,h,h'=>by
  rw [Rep] at h; subst h
  cases e <;> rw [Rep] at h' <;> first | (ob ⟨_,_,z,_⟩:=h'; cases z) | (cases h'; rfl) | cases h'
 | .str b,e,v,h,h'=>by
  rw [Rep] at h; subst h
  cases e <;> rw [Rep] at h' <;> first | (ob ⟨_,_,z,_⟩:=h'; cases z) | (cases h'; rfl) | cases h'
 | .lst ds,e,v,h,h'=>by
  rw [Rep] at h
  ob ⟨a,xs,rfl,q,r⟩:=h
  cases e with
  | lst es =>
   rw [Rep] at h'
   ob ⟨a',xs',z,q',r'⟩:=h'
   cases z
   rw [I.vN q' q] at r'
   rw [bU.inj I r r']
  | tup es =>
   rw [Rep] at h'
   ob ⟨a',xs',z,q',r'⟩:=h'
   cases z
   xt (I.H9 q q').elim
  | _=>rw [Rep] at h'; cases h'
 | .tup ds,e,v,h,h'=>by
  rw [Rep] at h
  ob ⟨a,xs,rfl,q,r⟩:=h
  cases e with
  | tup es =>
   rw [Rep] at h'
   ob ⟨a',xs',z,q',r'⟩:=h'
   cases z
   rw [I.wF q' q] at r'
   rw [bU.inj I r r']
  | lst es =>
   rw [Rep] at h'
   ob ⟨a',xs',z,q',r'⟩:=h'
   cases z
   xt (I.H9 q' q).elim
  | _=>rw [Rep] at h'; cases h'
theorem bU.inj (I:Inv X pins σ H s):∀ {ds es:List D} {vs:List V},bU X.K H ds vs→bU X.K H es vs→ds = es
 | [],es,vs,h,h'=>by
  rw [bU] at h; subst h
  cases es with
  | nil=>rfl
  | cons e es=>rw [bU] at h'; ob ⟨_,_,z,_⟩:=h'; cases z
 | d :: ds,es,vs,h,h'=>by
  rw [bU] at h
  ob ⟨v,r,rfl,p,q⟩:=h
  cases es with
  | nil=>rw [bU] at h'; cases h'
  | cons e es =>
   rw [bU] at h'
   ob ⟨v',r',z,p',q'⟩:=h'
   cases z
   rw [Rep.inj I p p',bU.inj I q q']
end
theorem xr:∀ {ds:List D} {j:Nat},(ds.getD j .non).dep≤b8 ds
 | [],j=>by simp [D.dep]
 | d :: ds,0=>by simp [b8]; omega
 | d :: ds,j + 1=>by
  have:=xr (ds:=ds) (j:=j)
  have e:(d :: ds).getD (j + 1) .non = ds.getD j .non:=by simp
  rw [e,b8]; omega
def _root_.Mi.D.flat:D→Bool
 | .lst _=>false
 | .tup _=>false
 | _=>true
def _root_.Mi.D.toV:D→V
 | .non=>.non | .bl b=>.bl b | .int i=>.int i | .str x=>.str x | .lst _=>.non | .tup _=>.non
theorem Rep.flat {K:Φ}:∀ {d:D} {v:V},d.flat = true→Rep K H d v→v = d.toV∧Ub v = true
 | .non,v,_,h=>by rw [Rep] at h; subst h; xt ⟨rfl,rfl⟩
 | .bl b,v,_,h=>by rw [Rep] at h; subst h; xt ⟨rfl,rfl⟩
 | .int b,v,_,h=>by rw [Rep] at h; subst h; xt ⟨rfl,rfl⟩
 | .str b,v,_,h=>by rw [Rep] at h; subst h; xt ⟨rfl,rfl⟩
 | .lst _,v,z,h=>by cases z
 | .tup _,v,z,h=>by cases z
theorem Ox:∀ {d e:D},d.flat = true→e.flat = true→cI d e = eqV d.toV e.toV:=by
 intro d e h1 h2
 cases d <;> cases e <;> first | rfl | xt absurd (show false = true from h1) Bool.false_ne_true | xt absurd (show false = true from h2) Bool.false_ne_true
open SeqAt in
theorem Ud (I:Inv X pins σ H s):∀ (n:Nat) (d e:D) (A:Around) {x y:V} {u u':Value},d.dep≤n→A.units + n < cLine→Rep X.K H d x→Rep X.K H e y→RelV x u→RelV y u'→EqAt A s u u' (cI d e):=by
 intro n
 induction n using Nat.strongRecOn with
 | ind n ih =>
  intro d e A x y u u' hd hu h h' r r'
  have hu0:A.units < cLine:=by omega
  by_cases hdf:d.flat = true
  ·ob ⟨ex,fx⟩:=h.flat hdf
   subst ex
   by_cases hef:e.flat = true
   ·ob ⟨ey,fy⟩:=h'.flat hef
    subst ey
    rw [Ox hdf hef]
    xt aar r r' fx fy
   ·cases e with
    | lst es =>
     rw [Rep] at h'
     ob ⟨a,xs,rfl,q,_⟩:=h'
     cases r'
     ob ⟨its,_,p,_⟩:=I.list q
     cases d with
     | non=>cases r; xt EqAt.none_list p.isList hu0
     | bl b=>cases r; xt EqAt.bool_list b p.isList hu0
     | int b=>ob ⟨t,rfl⟩:=r; xt EqAt.int_list b t p.isList hu0
     | str b=>ob ⟨t,rfl⟩:=r; xt EqAt.str_list b t p.isList hu0
     | _=>cases hdf
    | tup es =>
     rw [Rep] at h'
     ob ⟨a,xs,rfl,q,_⟩:=h'
     cases r'
     ob ⟨its,_,p,_⟩:=I.tuple q
     cases d with
     | non=>cases r; xt EqAt.none_tuple p hu0
     | bl b=>cases r; xt EqAt.bool_tuple b p hu0
     | int b=>ob ⟨t,rfl⟩:=r; xt EqAt.int_tuple b t p hu0
     | str b=>ob ⟨t,rfl⟩:=r; xt EqAt.str_tuple b t p hu0
     | _=>cases hdf
    | _=>xt absurd rfl hef
  ·by_cases hef:e.flat = true
   ·ob ⟨ey,fy⟩:=h'.flat hef
    subst ey
    cases d with
    | lst ds =>
     rw [Rep] at h
     ob ⟨a,xs,rfl,q,_⟩:=h
     cases r
     ob ⟨its,_,p,_⟩:=I.list q
     cases e with
     | non=>cases r'; xt EqAt.list_none p.isList hu0
     | bl b=>cases r'; xt EqAt.list_bool b p.isList hu0
     | int b=>ob ⟨t,rfl⟩:=r'; xt EqAt.list_int b t p.isList hu0
     | str b=>ob ⟨t,rfl⟩:=r'; xt EqAt.list_str b t p.isList hu0
     | _=>cases hef
    | tup ds =>
     rw [Rep] at h
     ob ⟨a,xs,rfl,q,_⟩:=h
     cases r
     ob ⟨its,_,p,_⟩:=I.tuple q
     cases e with
     | non=>cases r'; xt EqAt.tuple_none p hu0
     | bl b=>cases r'; xt EqAt.tuple_bool b p hu0
     | int b=>ob ⟨t,rfl⟩:=r'; xt EqAt.tuple_int b t p hu0
     | str b=>ob ⟨t,rfl⟩:=r'; xt EqAt.tuple_str b t p hu0
     | _=>cases hef
    | _=>xt absurd rfl hdf
   ·-- both are lists or tuples
    have item:∀ {ds es:List D} {xs ys:List V} {its its':List Value},b8 ds + 1≤n→bU X.K H ds xs→bU X.K H es ys→Vals xs its→Vals ys its' →
     ∀ j (h1:j < its.toArray.size) (h2:j < its'.toArray.size),EqAt A.in1 s its.toArray[j] its'.toArray[j] (cI (ds.getD j .non) (es.getD j .non)):=by
     intro ds es xs ys its its' hn q q' v v' j h1 h2
     have h1':j < its.length:=by simpa using h1
     have h2':j < its'.length:=by simpa using h2
     have e1:j < xs.length:=by rw [v.length]; xt h1'
     have e2:j < ys.length:=by rw [v'.length]; xt h2'
     have g1:xs[j]? = some xs[j]:=by simp [e1]
     have g2:ys[j]? = some ys[j]:=by simp [e2]
     ob ⟨w1,k1,r1⟩:=v.get g1
     ob ⟨w2,k2,r2⟩:=v'.get g2
     have t1:its.toArray[j] = w1:=by ob ⟨_,k1⟩:=List.getElem?_eq_some_iff.mp k1; simpa using k1
     have t2:its'.toArray[j] = w2:=by ob ⟨_,k2⟩:=List.getElem?_eq_some_iff.mp k2; simpa using k2
     rw [t1,t2]
     have:=xr (ds:=ds) (j:=j)
     rf ih (n - 1) ω _ _ A.in1 ω ?_ (q.get g1) (q'.get g2) r1 r2
     show A.units + 1 + (n - 1) < cLine
     omega
    cases d with
    | lst ds =>
     rw [Rep] at h
     ob ⟨a,xs,rfl,q,rr⟩:=h
     cases r
     ob ⟨its,v,p,_⟩:=I.list q
     have hn:b8 ds + 1≤n:=by simpa [D.dep] using hd
     cases e with
     | lst es =>
      rw [Rep] at h'
      ob ⟨b,ys,rfl,q',rr'⟩:=h'
      cases r'
      ob ⟨its',v',p',_⟩:=I.list q'
      by_cases hab:a = b
      ·subst hab
       rw [I.vN q' q] at rr'
       rw [bU.inj I rr rr',wX]
       xt EqAt.same _
      ·have l1:=rr.length
       have l2:=rr'.length
       have l3:=v.length
       have l4:=v'.length
       by_cases hl:ds.length = es.length
       ·rw [cI,pF hl]
        have:=RcAt.lists p.isList p'.isList (by simp; omega) hu0 (item hn rr rr' v v')
        have e:its.toArray.size = ds.length:=by simp; omega
        rw [e] at this
        xt .of_refs hab this
       ·rw [cI,pD hl]
        xt .of_refs hab (RcAt.lists_lengths p.isList p'.isList (by simp; omega) hu0)
     | tup es =>
      rw [Rep] at h'
      ob ⟨b,ys,rfl,q',_⟩:=h'
      cases r'
      ob ⟨its',_,p',_⟩:=I.tuple q'
      xt EqAt.list_tuple p.isList p' hu0
     | _=>xt absurd rfl hef
    | tup ds =>
     rw [Rep] at h
     ob ⟨a,xs,rfl,q,rr⟩:=h
     cases r
     ob ⟨its,v,p,_⟩:=I.tuple q
     have hn:b8 ds + 1≤n:=by simpa [D.dep] using hd
     cases e with
     | tup es =>
      rw [Rep] at h'
      ob ⟨b,ys,rfl,q',rr'⟩:=h'
      cases r'
      ob ⟨its',v',p',_⟩:=I.tuple q'
      by_cases hab:a = b
      ·subst hab
       rw [I.wF q' q] at rr'
       rw [bU.inj I rr rr',wX]
       xt EqAt.same _
      ·have l1:=rr.length
       have l2:=rr'.length
       have l3:=v.length
       have l4:=v'.length
       have R:=RcAt.tuples p p' hu0 (item hn rr rr' v v')
       have e1:its.toArray.size = ds.length:=by simp; omega
       have e2:its'.toArray.size = es.length:=by simp; omega
       rw [e1,e2] at R
       by_cases hl:ds.length = es.length
       ·rw [cI,pF hl]
        rw [hl,Nat.min_self,beq_self_eq_true,Bool.and_true,← hl] at R
        xt .of_refs hab R
       ·rw [cI,pD hl]
        have:(ds.length == es.length) = false:=by simpa using hl
        rw [this,Bool.and_false] at R
        xt .of_refs hab R
     | lst es =>
      rw [Rep] at h'
      ob ⟨b,ys,rfl,q',_⟩:=h'
      cases r'
      ob ⟨its',_,p',_⟩:=I.list q'
      xt EqAt.tuple_list p p'.isList hu0
     | _=>xt absurd rfl hef
    | _=>xt absurd rfl hdf
def V9 (K:Φ) (neg:Bool):R2:=fun x y H Q=>∃ (p:Addr) (xs:List V) (d:D) (ds:List D),y = .ref p∧(uY K H p xs∨yR K H p xs)∧Rep K H d x∧bU K H ds xs∧b8 ds≤16 ∧
 Q (.bl (if neg then !ds.any (fun e=>cI e d) else ds.any (fun e=>cI e d))) H
theorem bU.main {K:Φ}:∀ {ds:List D} {xs:List V} {us:List Value},bU K H ds xs→Vals xs us→∀ u∈us,∃ b∈ds,∃ y,Rep K H b y∧RelV y u
 | [],xs,us,hr,hv,u,hu=>by
  rw [bU] at hr; subst hr; cases hv; cases hu
 | b :: bs,xs,us,hr,hv,u,hu=>by
  rw [bU] at hr
  ob ⟨y,r,rfl,p,q⟩:=hr
  cases hv with
  | cons ry t =>
   rcases List.mem_cons.mp hu with rfl | hu
   ·xt ⟨b,List.mem_cons_self,_,p,ry⟩
   ·ob ⟨b',hb',w⟩:=bU.main q t u hu
    xt ⟨b',List.mem_cons_of_mem _ hb',w⟩
theorem bU.any {K:Φ} {e:Value→Bool} {f:D→Bool} (key:∀ b y u,Rep K H b y→RelV y u→e u = f b):∀ {ds:List D} {xs:List V} {us:List Value},bU K H ds xs→Vals xs us→us.any e = ds.any f
 | [],xs,us,hr,hv=>by
  rw [bU] at hr; subst hr; cases hv; rfl
 | b :: bs,xs,us,hr,hv=>by
  rw [bU] at hr
  ob ⟨y,r,rfl,p,q⟩:=hr
  cases hv with
  | cons ry t=>rw [List.any_cons,List.any_cons,key b y _ p ry,bU.any key q t]
theorem Np:∀ {ds:List D} {b:D},b∈ds→b.dep≤b8 ds
 | d :: ds,b,h=>by
  rw [b8]
  rcases List.mem_cons.mp h with rfl | h
  ·omega
  ·have:=Np h; omega
open Classical in
theorem yK (I:Inv X pins σ H s) {A:Around} (hu:A.units + 16 < cLine) {d:D} {x:V} {v:Value} (hx:Rep X.K H d x) (rx:RelV x v) {ds:List D} {xs:List V} {us:List Value} (hd:b8 ds≤16) (hr:bU X.K H ds xs) (hv:Vals xs us) :
 ∃ e:Value→Bool,(∀ u∈us,SeqAt.EqAt A s u v (e u))∧us.any e = ds.any (fun b=>cI b d):=by
 have key:∀ b y u,Rep X.K H b y→RelV y u→(fun u=>decide (∃ b y,Rep X.K H b y∧RelV y u∧cI b d = true)) u = cI b d:=by
  intro b y u hb hy
  cases hp:cI b d with
  | true=>xt decide_eq_true ⟨b,y,hb,hy,hp⟩
  | false =>
   rf decide_eq_false ?_
   rintro ⟨b',y',hb',hy',hp'⟩
   have:=hy.inj hy'
   subst this
   rw [Rep.inj I hb hb',hp'] at hp
   cases hp
 rf ⟨fun u=>decide (∃ b y,Rep X.K H b y∧RelV y u∧cI b d = true),fun u hu'=>?_,bU.any key hr hv⟩
 ob ⟨b,hb,y,rb,ry⟩:=bU.main hr hv u hu'
 rw [key b y u rb ry]
 xt Ud I 16 b d A (Nat.le_trans (Np hb) hd) hu rb hx ry rx
theorem ZF (hu:X.A.units + 64 < cLine):pR X (compareOp .In) (V9 X.K false):=by
 intro pins s σ H x y v u Q I rx ry h
 ob ⟨p,xs,d,ds,rfl,hq,hx,hr,hd,q⟩:=h
 cases ry
 have hu1:X.A.in1.units + 16 < cLine:=by show X.A.units + 1 + 16 < cLine; omega
 rcases hq with hq | hq
 ·ob ⟨its,r,pl,hz⟩:=I.list hq
  ob ⟨e,he,ea⟩:=yK I hu1 hx rx hd hr r
  rf SeqAt.in_listAt e pl.isList (fun w hw=>he w (by simpa using hw)) ⟨.bl _,H,I,rfl,?_⟩
  rw [show its.toArray.any e = its.any e by simp,ea]
  xt q
 ·ob ⟨its,r,pl,hz⟩:=I.tuple hq
  ob ⟨e,he,ea⟩:=yK I hu1 hx rx hd hr r
  rf SeqAt.in_tupleAt e pl (fun w hw=>he w (by simpa using hw)) ⟨.bl _,H,I,rfl,?_⟩
  rw [show its.toArray.any e = its.any e by simp,ea]
  xt q
theorem fJ (hu:X.A.units + 64 < cLine):pR X (compareOp .NotIn) (V9 X.K true):=by
 intro pins s σ H x y v u Q I rx ry h
 ob ⟨p,xs,d,ds,rfl,hq,hx,hr,hd,q⟩:=h
 cases ry
 have hu1:X.A.in1.units + 16 < cLine:=by show X.A.units + 1 + 16 < cLine; omega
 rcases hq with hq | hq
 ·ob ⟨its,r,pl,hz⟩:=I.list hq
  ob ⟨e,he,ea⟩:=yK I hu1 hx rx hd hr r
  rf SeqAt.notIn_listAt e pl.isList (fun w hw=>he w (by simpa using hw)) ⟨.bl _,H,I,rfl,?_⟩
  rw [show its.toArray.any e = its.any e by simp,ea]
  xt q
 ·ob ⟨its,r,pl,hz⟩:=I.tuple hq
  ob ⟨e,he,ea⟩:=yK I hu1 hx rx hd hr r
  rf SeqAt.notIn_tupleAt e pl (fun w hw=>he w (by simpa using hw)) ⟨.bl _,H,I,rfl,?_⟩
  rw [show its.toArray.any e = its.any e by simp,ea]
  xt q
end
end L2
namespace L2
open PySem PySem.Spec PyProof.Rows
theorem vH {H:Hp} {p:Addr} {o:HO} (hp:H p = none):gJ H (upd H p o):=fun b u e=>by rw [aJ (aX e hp)]; xt e
theorem zr:∀ {ys:List Str} {us:List Value},Vals (ys.map V.str) us→StrsAre us ys
 | [],_,.nil=>.nil
 | y :: ys,_,.cons r t=>by
  ob ⟨tk,rfl⟩:=(show ∃ tk,_ = Value.str y tk from r)
  xt .cons y tk (zr t)
section
variable {X:Cx}
def rJoin (K:Φ):V→List V→Hp→VK→Prop:=fun x vs H Q=>∃ (sep:Str) (p:Addr) (ys:List Str),x = .str sep∧vs = [.ref p]∧uY K H p (ys.map V.str)∧(ys.map (·.length)).sum + ys.length * sep.length≤16777216∧Q (.str (Str.join sep ys)) H
theorem Mq:Vx X "str.join" (rJoin X.K):=by
 intro pins s σ H x vs v us Q I rx rv h
 ob ⟨sep,p,ys,rfl,rfl,hq,hz,q⟩:=h
 ob ⟨t,rfl⟩:=rx
 ob ⟨u,rfl,ru⟩:=rv.one
 cases ru
 ob ⟨its,r,pl,_⟩:=I.list hq
 rf join_list pl.isList (by simpa using zr r) hz fun t' k=>⟨.str (Str.join sep ys),H,I.tok k,⟨t',?_⟩,q⟩
 show Value.str (Builtin.Str.glued sep ys) t' = _
 rw [StrLaws.glued_eq_join]
def YM (i j:Int):Prop:=0 < j∧j.natAbs.log2 < 9000
theorem cj:pR X (binaryOp .FloorDiv) (rI YM fun i j=>.int (i / j)):=opI fun i j _ _ _ _ _ hc q=>by
 rf floordiv_int (by have:=hc.1; omega) ?_ (.inl (PyProof.noPylong_of_log2 hc.2))
 rw [Int.fdiv_eq_ediv_of_nonneg i (by have:=hc.1; omega)]
 xt q
theorem K8 (hc:X.calm = true):ir X (.builtin "max") (fun xs H Q=>∃ i j z,xs = [.int i,.int j]∧max i j = z∧Q (.int z) H):=by
 intro pins s σ H xs us Q I r ⟨i,j,z,e1,e2,q⟩
 subst e2
 rf Qi hc pins s σ H xs us Q I r ⟨i,j,e1,?_⟩
 rw [show (if j > i then j else i) = max i j by split <;> omega]
 xt q
theorem K7 (hc:X.calm = true):ir X (.builtin "min") (fun xs H Q=>∃ i j z,xs = [.int i,.int j]∧min i j = z∧Q (.int z) H):=by
 intro pins s σ H xs us Q I r ⟨i,j,z,e1,e2,q⟩
 subst e2
 rf Qh hc pins s σ H xs us Q I r ⟨i,j,e1,?_⟩
 rw [show (if j < i then j else i) = min i j by split <;> omega]
 xt q
end
end L2
namespace A
open PySem L2 PyProof.Rows
open Mi (D W Rs Fin aq)
inductive P2 {α β : Type} (F:α→β→Prop):List α→List β→Prop
 | nil:P2 F [] []
 | cons {a b l m}:F a b→P2 F l m→P2 F (a :: l) (b :: m)
section
variable {α β : Type} {F G:α→β→Prop}
theorem P2.imp (h:∀ a b,F a b→G a b):∀ {l m},P2 F l m→P2 G l m
 | _,_,.nil=>.nil
 | _,_,.cons x t=>.cons (h _ _ x) (t.imp h)
theorem P2.len:∀ {l m},P2 F l m→l.length = m.length
 | _,_,.nil=>rfl
 | _,_,.cons _ t=>by rw [List.length_cons,List.length_cons,t.len]
theorem P2.append:∀ {l m l' m'},P2 F l m→P2 F l' m'→P2 F (l ++ l') (m ++ m')
 | _,_,_,_,.nil,s=>s
 | _,_,_,_,.cons x t,s=>.cons x (t.append s)
theorem P2.get:∀ {l m} {i:Nat} {a b},P2 F l m→l[i]? = some a→m[i]? = some b→F a b
 | _,_,_,_,_,.nil,e,_=>by simp at e
 | _,_,0,_,_,.cons x _,e,e'=>by simp at e e'; subst e e'; xt x
 | _,_,i + 1,a,b,.cons _ t,e,e'=>t.get (i:=i) (by simpa using e) (by simpa using e')
theorem P2.getL {l m} {i:Nat} {a} (t:P2 F l m) (e:l[i]? = some a):∃ b,m[i]? = some b∧F a b:=by
 have h:i < m.length:=by rw [← t.len]; xt (List.getElem?_eq_some_iff.mp e).1
 xt ⟨m[i],by simp [h],t.get e (by simp [h])⟩
theorem P2.acz {l m} {i:Nat} {b} (t:P2 F l m) (e:m[i]? = some b):∃ a,l[i]? = some a∧F a b:=by
 have h:i < l.length:=by rw [t.len]; xt (List.getElem?_eq_some_iff.mp e).1
 xt ⟨l[i],by simp [h],t.get (by simp [h]) e⟩
theorem P2.set {a b} (x:F a b):∀ {l m} (i:Nat),P2 F l m→P2 F (l.set i a) (m.set i b)
 | _,_,_,.nil=>.nil
 | _,_,0,.cons _ t=>.cons x t
 | _,_,i + 1,.cons y t=>.cons y (t.set x i)
theorem P2.take:∀ {l m} (n:Nat),P2 F l m→P2 F (l.take n) (m.take n)
 | _,_,0,_=>.nil
 | _,_,_ + 1,.nil=>.nil
 | _,_,n + 1,.cons x t=>.cons x (t.take n)
theorem P2.drop:∀ {l m} (n:Nat),P2 F l m→P2 F (l.drop n) (m.drop n)
 | _,_,0,t=>t
 | _,_,_ + 1,.nil=>.nil
 | _,_,n + 1,.cons _ t=>t.drop n
theorem P2.erase:∀ {l m} (n:Nat),P2 F l m→P2 F (l.eraseIdx n) (m.eraseIdx n)
 | _,_,_,.nil=>.nil
 | _,_,0,.cons _ t=>t
 | _,_,n + 1,.cons x t=>.cons x (t.erase n)
end
def Lst (H:Hp) (a:Addr) (xs:List V):Prop:=H a = some (.lst xs)∨∃ o,H a = some (.frz o (.lst xs))
mutual
def Rep (H:Hp):D→V→Prop
 | .non,v=>v = .non
 | .bl b,v=>v = .bl b
 | .int i,v=>v = .int i
 | .str x,v=>v = .str x
 | .lst ds,v=>∃ a xs,v = .ref a∧Lst H a xs∧bU H ds xs
 | .tup ds,v=>∃ a xs,v = .ref a∧H a = some (.tup xs)∧bU H ds xs
def bU (H:Hp):List D→List V→Prop
 | [],vs=>vs = []
 | d :: ds,vs=>∃ v r,vs = v :: r∧Rep H d v∧bU H ds r
end
theorem mQ {H:Hp}:∀ {ds:List D} {vs:List V},bU H ds vs↔P2 (Rep H) ds vs
 | [],vs=>by
  rw [bU]
  xt ⟨fun h=>by subst h; xt .nil,fun h=>by cases h; rfl⟩
 | d :: ds,vs=>by
  rw [bU]
  constructor
  ·rintro ⟨v,r,rfl,p,q⟩
   xt .cons p (mQ.mp q)
  ·intro h
   cases h with
   | cons p q=>xt ⟨_,_,rfl,p,mQ.mpr q⟩
@[simp] theorem LQ {H:Hp} {v:V}:Rep H .non v↔v = .non:=by rw [Rep]
@[simp] theorem zM {H:Hp} {v:V} {b:Bool}:Rep H (.bl b) v↔v = .bl b:=by rw [Rep]
@[simp] theorem qe {H:Hp} {v:V} {b:Int}:Rep H (.int b) v↔v = .int b:=by rw [Rep]
@[simp] theorem lU {H:Hp} {v:V} {b:Str}:Rep H (.str b) v↔v = .str b:=by rw [Rep]
theorem nF {H:Hp} {v:V} {ds:List D}:Rep H (.lst ds) v↔∃ a xs,v = .ref a∧Lst H a xs∧P2 (Rep H) ds xs:=by
 rw [Rep]; xt ⟨fun ⟨a,xs,e,l,r⟩=>⟨a,xs,e,l,mQ.mp r⟩,fun ⟨a,xs,e,l,r⟩=>⟨a,xs,e,l,mQ.mpr r⟩⟩
theorem jd {H:Hp} {v:V} {ds:List D}:Rep H (.tup ds) v↔∃ a xs,v = .ref a∧H a = some (.tup xs)∧P2 (Rep H) ds xs:=by
 rw [Rep]; xt ⟨fun ⟨a,xs,e,l,r⟩=>⟨a,xs,e,l,mQ.mp r⟩,fun ⟨a,xs,e,l,r⟩=>⟨a,xs,e,l,mQ.mpr r⟩⟩
theorem Lst.same {H H':Hp} {a:Addr} {xs:List V} (s:gJ H H') (h:Lst H a xs):Lst H' a xs:=by
 rcases h with h | ⟨o,h⟩
 ·xt .inl (s _ _ h)
 ·xt .inr ⟨o,s _ _ h⟩
theorem Lst.sq {K:Φ} {H:Hp} {a:Addr} {xs:List V} (h:Lst H a xs):uY K H a xs:=.inl h
mutual
theorem jE {H H':Hp} (s:gJ H H'):∀ {d:D} {v:V},Rep H d v→Rep H' d v
 | .non,v,h=>by rw [Rep] at h ⊢; xt h
 | .bl b,v,h=>by rw [Rep] at h ⊢; xt h
 | .int i,v,h=>by rw [Rep] at h ⊢; xt h
 | .str x,v,h=>by rw [Rep] at h ⊢; xt h
 | .lst ds,v,h=>by
  rw [Rep] at h ⊢
  ob ⟨a,xs,e,q,r⟩:=h
  xt ⟨a,xs,e,q.same s,wQ s r⟩
 | .tup ds,v,h=>by
  rw [Rep] at h ⊢
  ob ⟨a,xs,e,q,r⟩:=h
  xt ⟨a,xs,e,s _ _ q,wQ s r⟩
theorem wQ {H H':Hp} (s:gJ H H'):∀ {ds:List D} {vs:List V},bU H ds vs→bU H' ds vs
 | [],vs,h=>by rw [bU] at h ⊢; xt h
 | d :: ds,vs,h=>by
  rw [bU] at h ⊢
  ob ⟨v,r,e,p,q⟩:=h
  xt ⟨v,r,e,jE s p,wQ s q⟩
end
theorem cL {H H':Hp} (s:gJ H H') {ds:List D} {vs:List V} (h:P2 (Rep H) ds vs):P2 (Rep H') ds vs:=h.imp fun _ _=>jE s
mutual
theorem qd (K:Φ) {H:Hp}:∀ {d:D} {v:V},Rep H d v→L2.Rep K H d v
 | .non,v,h=>by rw [Rep] at h; rw [L2.Rep]; xt h
 | .bl b,v,h=>by rw [Rep] at h; rw [L2.Rep]; xt h
 | .int i,v,h=>by rw [Rep] at h; rw [L2.Rep]; xt h
 | .str x,v,h=>by rw [Rep] at h; rw [L2.Rep]; xt h
 | .lst ds,v,h=>by
  rw [Rep] at h
  rw [L2.Rep]
  ob ⟨a,xs,e,q,r⟩:=h
  xt ⟨a,xs,e,q.sq,yG K r⟩
 | .tup ds,v,h=>by
  rw [Rep] at h
  rw [L2.Rep]
  ob ⟨a,xs,e,q,r⟩:=h
  xt ⟨a,xs,e,.inl (.inl q),yG K r⟩
theorem yG (K:Φ) {H:Hp}:∀ {ds:List D} {vs:List V},bU H ds vs→L2.bU K H ds vs
 | [],vs,h=>by rw [bU] at h; rw [L2.bU]; xt h
 | d :: ds,vs,h=>by
  rw [bU] at h
  rw [L2.bU]
  ob ⟨v,r,e,p,q⟩:=h
  xt ⟨v,r,e,qd K p,yG K q⟩
end
def NT:HO→Prop
 | .tbl _ _=>False
 | _=>True
structure Old (H H':Hp):Prop where
 nt:∀ a o,H a = some o→NT o→H' a = some o
 dom:∀ a,H' a = none→H a = none
 tb:∀ a w ps,H a = some (.tbl w ps)→∃ ps',H' a = some (.tbl w ps')
theorem Old.at {H H':Hp} (s:Old H H') {a:Addr} {o:HO} (q:H a = some o) (n:NT o:=by trivial):H' a = some o:=s.nt a o q n
theorem Old.free {H H':Hp} (s:Old H H') {a:Addr} (h:H' a = none):H a = none:=s.dom a h
theorem Old.refl (H:Hp):Old H H:=⟨fun _ _ e _=>e,fun _ e=>e,fun _ _ ps e=>⟨ps,e⟩⟩
theorem Old.trans {H H1 H2:Hp} (a:Old H H1) (b:Old H1 H2):Old H H2:=⟨fun x o e n=>b.nt x o (a.nt x o e n) n,fun x e=>a.dom x (b.dom x e),fun x w ps e=>let ⟨p1,e1⟩:=a.tb x w ps e; b.tb x w p1 e1⟩
theorem Old.of {H H':Hp} (s:gJ H H'):Old H H':=⟨fun a o e _=>s a o e,fun a e=>s.free e,fun a w ps e=>⟨ps,s a _ e⟩⟩
theorem Old.tab {H H':Hp} (s:Old H H') {a:Addr} {w:Str} {ps:Array Value} {o:HO} (q:H a = some (.tbl w ps)) (n:NT o):¬ H' a = some o:=fun e=>by
 ob ⟨p,z⟩:=s.tb a w ps q
 rw [e] at z; cases z; xt n
theorem Old.put {H0 H:Hp} (s:Old H0 H) {p:Addr} {o u:HO} (h0:H0 p = none) (h:H p = some u):Old H0 (upd H p o) :=
 ⟨fun a v e n=>by rw [aJ (aX e h0)]; xt s.nt a v e n,fun a e=>by
  by_cases hp:a = p
  ·subst hp; xt h0
  ·rw [aJ hp] at e; xt s.dom a e,fun a w ps e=>by rw [aJ (aX e h0)]; xt s.tb a w ps e⟩
def m7 (c:Addr) (q:Str):Heap→Prop:=fun h=>∃ o vs t,h.get? c = some o∧o.data = .fields vs∧vs[1]? = some (.str q t)
class iZ where
 l:List (Addr×Str)
 cl:String→Addr
variable [Tb:iZ]
structure jt (H:Hp):Prop where
 has:∀ p∈Tb.l,∃ ps,H p.1 = some (.tbl p.2 ps)
 cd:∀ T q ps,H T = some (.tbl q ps)→TriplesOk ps.toList∧∀ pos v,codeAmong pos ps.toList = some v→∃ c,v = .ref c∧H c = some (.ext (m7 c q))
theorem jt.new {H:Hp} (k:jt H) {p:Addr} {o:HO} (h:H p = none) (n:NT o):jt (upd H p o):=⟨fun r hr=>let ⟨ps,e⟩:=k.has r hr; ⟨ps,by rw [aJ (aX e h)]; xt e⟩,fun T q ps e=>by
 by_cases hp:T = p
 ·subst hp; rw [aU] at e; cases e; xt n.elim
 ·rw [aJ hp] at e
  ob ⟨t,r⟩:=k.cd T q ps e
  rf ⟨t,fun pos v z=>?_⟩
  ob ⟨c,e1,e2⟩:=r pos v z
  xt ⟨c,e1,by rw [aJ (aX e2 h)]; xt e2⟩⟩
def Cell:HO→Prop
 | .lst _=>True
 | .dK _=>True
 | .dT _=>True
 | .ext _=>True
 | _=>False
theorem Cell.nt:∀ {o:HO},Cell o→NT o:=fun {o} c=>by cases o <;> first | xt c.elim | trivial
def JC:HO→Prop
 | .lst _=>True
 | .dK _=>True
 | .dT _=>True
 | _=>False
theorem JC.cell:∀ {o:HO},JC o→Cell o:=fun {o} c=>by cases o <;> first | xt c.elim | trivial
theorem jt.put {H:Hp} (k:jt H) {p:Addr} {o u:HO} (h:H p = some u) (c:JC u) (n:NT o):jt (upd H p o):=⟨fun r hr=>let ⟨ps,e⟩:=k.has r hr; ⟨ps,by rw [aJ (fun y=>by rw [y,h] at e; cases e; xt c.elim)]; xt e⟩,fun T q ps e=>by
 by_cases hp:T = p
 ·subst hp; rw [aU] at e; cases e; xt n.elim
 ·rw [aJ hp] at e
  ob ⟨t,r⟩:=k.cd T q ps e
  rf ⟨t,fun pos v z=>?_⟩
  ob ⟨x,e1,e2⟩:=r pos v z
  rf ⟨x,e1,?_⟩
  rw [aJ (fun y=>by subst y; rw [h] at e2; cases e2; xt c.elim)]; xt e2⟩
structure Vw (H Hv:Hp):Prop where
 sub:gJ Hv H
 tup:∀ a xs,H a = some (.tup xs)→Hv a = some (.tup xs)
 frz:∀ a o u,H a = some (.frz o u)→Hv a = some (.frz o u)
 cd:jt H
 nv:∀ a o,Hv a = some o→NT o
structure cg (H Hv H' Hv':Hp):Prop where
 old:Old H H'
 vis:gJ Hv Hv'
 vw:Vw H' Hv'
 hid:∀ a o,H a = some o→Hv a = none→Hv' a = none
theorem cg.refl {H Hv:Hp} (v:Vw H Hv):cg H Hv H Hv:=⟨Old.refl _,gJ.refl _,v,fun _ _ _ e=>e⟩
theorem Old.some {H H':Hp} (s:Old H H') {a:Addr} {o:HO} (q:H a = some o):∃ o',H' a = some o':=by
 cases h:H' a with
 | none=>rw [s.dom a h] at q; cases q
 | some o'=>xt ⟨o',rfl⟩
theorem cg.trans {H Hv H1 Hv1 H2 Hv2:Hp} (g:cg H Hv H1 Hv1) (k:cg H1 Hv1 H2 Hv2):cg H Hv H2 Hv2 :=
 ⟨g.old.trans k.old,g.vis.trans k.vis,k.vw,fun a o e n=>let ⟨o',e'⟩:=g.old.some e; k.hid a o' e' (g.hid a o e n)⟩
theorem oX {H Hv:Hp} (v:Vw H Hv) {p:Addr} (h:H p = none):Hv p = none:=v.sub.free h
theorem cg.new {H Hv:Hp} (v:Vw H Hv) {p:Addr} {o:HO} (h:H p = none) (nt:NT o:=by trivial):cg H Hv (upd H p o) (upd Hv p o):=by
 rf ⟨.of (vH h),vH (oX v h),⟨fun b u e=>?_,fun b xs e=>?_,fun b q u e=>?_,v.cd.new h nt,fun b u e=>?_⟩,fun b u e n=>?_⟩
 ·by_cases hb:b = p
  ·subst hb; rw [aU] at e ⊢; xt e
  ·rw [aJ hb] at e ⊢; xt v.sub b u e
 ·by_cases hb:b = p
  ·subst hb; rw [aU] at e ⊢; xt e
  ·rw [aJ hb] at e ⊢; xt v.tup b xs e
 ·by_cases hb:b = p
  ·subst hb; rw [aU] at e ⊢; xt e
  ·rw [aJ hb] at e ⊢; xt v.frz b q u e
 ·by_cases hb:b = p
  ·subst hb; rw [aU] at e; cases e; xt nt
  ·rw [aJ hb] at e; xt v.nv b u e
 ·rw [aJ (aX e h)]; xt n
theorem cg.Kq {H Hv:Hp} (v:Vw H Hv) {p:Addr} {o:HO} (c:Cell o) (h:H p = none):cg H Hv (upd H p o) Hv:=by
 rf ⟨.of (vH h),gJ.refl _,⟨fun b u e=>?_,fun b xs e=>?_,fun b q u e=>?_,v.cd.new h c.nt,v.nv⟩,fun b u e n=>n⟩
 ·rw [aJ (aX (v.sub b u e) h)]; xt v.sub b u e
 ·by_cases hb:b = p
  ·subst hb; rw [aU] at e; cases e; xt c.elim
  ·rw [aJ hb] at e; xt v.tup b xs e
 ·by_cases hb:b = p
  ·subst hb; rw [aU] at e; cases e; xt c.elim
  ·rw [aJ hb] at e; xt v.frz b q u e
theorem Vw.show {H Hv:Hp} (v:Vw H Hv) {a:Addr} {o:HO} (h:H a = some o) (n:Hv a = none) (nt:NT o):Vw H (upd Hv a o)∧gJ Hv (upd Hv a o):=by
 rf ⟨⟨fun b u e=>?_,fun b xs e=>?_,fun b q u e=>?_,v.cd,fun b u e=>?_⟩,vH n⟩
 ·by_cases hb:b = a
  ·subst hb; rw [aU] at e; rw [h]; xt e
  ·rw [aJ hb] at e; xt v.sub b u e
 ·by_cases hb:b = a
  ·subst hb; rw [aU]; rw [h] at e; xt e
  ·rw [aJ hb]; xt v.tup b xs e
 ·by_cases hb:b = a
  ·subst hb; rw [aU]; rw [h] at e; xt e
  ·rw [aJ hb]; xt v.frz b q u e
 ·by_cases hb:b = a
  ·subst hb; rw [aU] at e; cases e; xt nt
  ·rw [aJ hb] at e; xt v.nv b u e
theorem Lst.old {H H':Hp} {a:Addr} {xs:List V} (s:Old H H') (h:Lst H a xs):Lst H' a xs:=by
 rcases h with h | ⟨o,h⟩
 ·xt .inl (s.at h)
 ·xt .inr ⟨o,s.at h⟩
mutual
theorem LR {H H':Hp} (t:∀ a xs,H a = some (.tup xs)→H' a = some (.tup xs)):∀ {d:D} {v:V},Mi.WW d = true→Rep H d v→Rep H' d v
 | .non,v,_,h=>by rw [Rep] at h ⊢; xt h
 | .bl b,v,_,h=>by rw [Rep] at h ⊢; xt h
 | .int i,v,_,h=>by rw [Rep] at h ⊢; xt h
 | .str x,v,_,h=>by rw [Rep] at h ⊢; xt h
 | .lst ds,v,z,h=>by rw [Mi.WW] at z; cases z
 | .tup ds,v,z,h=>by
  rw [Mi.WW] at z
  rw [Rep] at h ⊢
  ob ⟨a,xs,e,q,r⟩:=h
  xt ⟨a,xs,e,t _ _ q,Hr t z r⟩
theorem Hr {H H':Hp} (t:∀ a xs,H a = some (.tup xs)→H' a = some (.tup xs)):∀ {ds:List D} {vs:List V},Mi.WT ds = true→bU H ds vs→bU H' ds vs
 | [],vs,_,h=>by rw [bU] at h ⊢; xt h
 | d :: ds,vs,z,h=>by
  rw [Mi.WT,Bool.and_eq_true] at z
  rw [bU] at h ⊢
  ob ⟨v,r,e,p,q⟩:=h
  xt ⟨v,r,e,LR t z.1 p,Hr t z.2 q⟩
end
def JG {κ : Type} (H:Hp) (kvs:List (κ×D)) (kv:List (κ×V)):Prop:=P2 (fun p q=>p.1 = q.1∧Rep H p.2 q.2) kvs kv
theorem JG.same {κ : Type} {H H':Hp} (s:gJ H H') {kvs:List (κ×D)} {kv:List (κ×V)} (h:JG H kvs kv):JG H' kvs kv:=P2.imp (fun _ _ z=>⟨z.1,jE s z.2⟩) h
def fj (Hv:Hp):W→HO→Prop
 | .d (.lst ds),.lst xs=>P2 (Rep Hv) ds xs
 | .dk kvs,.dK kv=>JG Hv kvs kv
 | .dt kvs,.dT kv=>JG Hv kvs kv
 | _,_=>False
theorem fj.same {H H':Hp} (s:gJ H H'):∀ {w:W} {o:HO},fj H w o→fj H' w o:=fun {w o} h=>by
 cases w with
 | d x =>
  cases x with
  | lst ds=>cases o with
   | lst xs=>xt cL s h
   | _=>xt h.elim
  | _=>cases o <;> xt h.elim
 | dk kvs=>cases o with
  | dK kv=>xt JG.same s h
  | _=>xt h.elim
 | dt kvs=>cases o with
  | dT kv=>xt JG.same s h
  | _=>xt h.elim
 | ex c=>xt h.elim
theorem fj.Yz {H:Hp} {w:W} {o:HO} (h:fj H w o):JC o:=by
 cases w with
 | d x =>
  cases x with
  | lst ds=>cases o with
   | lst xs=>trivial
   | _=>xt h.elim
  | _=>cases o <;> xt h.elim
 | dk kvs=>cases o with
  | dK kv=>trivial
  | _=>xt h.elim
 | dt kvs=>cases o with
  | dT kv=>trivial
  | _=>xt h.elim
 | ex c=>xt h.elim
theorem fj.cell {H:Hp} {w:W} {o:HO} (h:fj H w o):Cell o:=h.Yz.cell
theorem fj.nt {H:Hp} {w:W} {o:HO} (h:fj H w o):NT o:=h.cell.nt
def xn (a C:Addr):Heap→Prop:=fun h=>∃ o,h.get? a = some o∧o.cls = .ref C∧o.dict = none∧∃ vs,o.data = .fields vs
def uo (H:Hp):W→V→Prop
 | .d x,v=>Rep H x v
 | .dk kvs,v=>∃ a kv,v = .ref a∧H a = some (.dK kv)∧JG H kvs kv
 | .dt kvs,v=>∃ a kv,v = .ref a∧H a = some (.dT kv)∧JG H kvs kv
 | .ex c,v=>∃ a,v = .ref a∧H a = some (.ext (xn a (Tb.cl c)))
theorem pC {H H':Hp} (s:gJ H H'):∀ {w:W} {v:V},uo H w v→uo H' w v
 | .d x,v,h=>jE (d:=x) s h
 | .dk kvs,v,⟨a,kv,e,q,r⟩=>⟨a,kv,e,s _ _ q,r.same s⟩
 | .dt kvs,v,⟨a,kv,e,q,r⟩=>⟨a,kv,e,s _ _ q,r.same s⟩
 | .ex c,v,⟨a,e,q⟩=>⟨a,e,s _ _ q⟩
theorem wR {H:Hp} {w:W} {a:Addr} {o:HO} (h:H a = some o) (c:fj H w o):uo H w (.ref a):=by
 cases w with
 | d x =>
  cases x with
  | lst ds=>cases o with
   | lst xs=>xt nF.mpr ⟨a,xs,rfl,.inl h,c⟩
   | _=>xt c.elim
  | _=>cases o <;> xt c.elim
 | dk kvs=>cases o with
  | dK kv=>xt ⟨a,kv,rfl,h,c⟩
  | _=>xt c.elim
 | dt kvs=>cases o with
  | dT kv=>xt ⟨a,kv,rfl,h,c⟩
  | _=>xt c.elim
 | ex z=>xt c.elim
def Own (H Hv:Hp) (w:W) (v:V):Prop:=∃ a o,v = .ref a∧H a = some o∧Hv a = none∧fj Hv w o
def RB (H Hv:Hp) (w:W) (v:V):Prop:=uo Hv w v∨∃ a o,v = .ref a∧H a = some o∧fj Hv w o
theorem RB.grow {H Hv H' Hv':Hp} (g:cg H Hv H' Hv') {w:W} {v:V} (h:RB H Hv w v):RB H' Hv' w v:=by
 rcases h with h | ⟨a,o,e,q,c⟩
 ·xt .inl (pC g.vis h)
 ·xt .inr ⟨a,o,e,g.old.at q c.nt,c.same g.vis⟩
theorem Own.grow {H Hv H' Hv':Hp} (g:cg H Hv H' Hv') {w:W} {v:V} (h:Own H Hv w v):Own H' Hv' w v:=by
 ob ⟨a,o,e,q,n,c⟩:=h
 xt ⟨a,o,e,g.old.at q c.nt,g.hid _ _ q n,c.same g.vis⟩
theorem RB.full {H Hv:Hp} (v:Vw H Hv) {w:W} {x:V} (h:RB H Hv w x):uo H w x:=by
 rcases h with h | ⟨a,o,rfl,q,c⟩
 ·xt pC v.sub h
 ·xt wR q (c.same v.sub)
abbrev RD (H Hv:Hp) (d:D) (v:V):Prop:=RB H Hv (.d d) v
theorem RD.Ov {H Hv:Hp} {d:D} {v:V} (h:RD H Hv d v) (n:∀ ds,d≠.lst ds):Rep Hv d v:=by
 rcases h with h | ⟨a,o,e,q,c⟩
 ·xt h
 ·cases d with
  | lst ds=>xt absurd rfl (n ds)
  | _=>cases o <;> xt c.elim
theorem RD.lst {H Hv:Hp} (w:Vw H Hv) {ds:List D} {v:V} (h:RD H Hv (.lst ds) v):∃ a xs,v = .ref a∧Lst H a xs∧P2 (Rep Hv) ds xs:=by
 rcases h with h | ⟨a,o,e,q,c⟩
 ·ob ⟨a,xs,e,l,r⟩:=nF.mp h
  xt ⟨a,xs,e,l.same w.sub,r⟩
 ·cases o with
  | lst xs=>xt ⟨a,xs,e,.inl q,c⟩
  | _=>xt c.elim
theorem RD.tup {H Hv:Hp} (w:Vw H Hv) {ds:List D} {v:V} (h:RD H Hv (.tup ds) v):∃ a xs,v = .ref a∧H a = some (.tup xs)∧Hv a = some (.tup xs)∧P2 (Rep Hv) ds xs:=by
 ob ⟨a,xs,e,l,r⟩:=jd.mp (h.Ov fun _ z=>by cases z)
 xt ⟨a,xs,e,w.sub _ _ l,l,r⟩
theorem RD.int {H Hv:Hp} {i:Int} {v:V} (h:RD H Hv (.int i) v):v = .int i:=qe.mp (h.Ov fun _ z=>by cases z)
theorem RD.str {H Hv:Hp} {i:Str} {v:V} (h:RD H Hv (.str i) v):v = .str i:=lU.mp (h.Ov fun _ z=>by cases z)
theorem RD.bl {H Hv:Hp} {i:Bool} {v:V} (h:RD H Hv (.bl i) v):v = .bl i:=zM.mp (h.Ov fun _ z=>by cases z)
theorem RD.non {H Hv:Hp} {v:V} (h:RD H Hv .non v):v = .non:=LQ.mp (h.Ov fun _ z=>by cases z)
theorem RD.full {H Hv:Hp} (v:Vw H Hv) {d:D} {x:V} (h:RD H Hv d x):Rep H d x:=RB.full v h
abbrev Kd:=Hp→Hp→Hp→W→V→Prop
def qP:Kd:=fun _ H' Hv' w v=>RB H' Hv' w v
def qV:Kd:=fun _ _ Hv' w v=>uo Hv' w v
def qN:Kd:=fun H H' Hv' w v=>∃ a o,v = .ref a∧H a = none∧H' a = some o∧Hv' a = none∧fj Hv' w o
theorem iK {H H' Hv':Hp} {i:Int}:qV H H' Hv' (.d (.int i)) (.int i):=(qe (H:=Hv')).mpr rfl
theorem wW {H H' Hv':Hp} {i:Str}:qV H H' Hv' (.d (.str i)) (.str i):=(lU (H:=Hv')).mpr rfl
theorem gP {H H' Hv':Hp} {i:Bool}:qV H H' Hv' (.d (.bl i)) (.bl i):=(zM (H:=Hv')).mpr rfl
theorem J3 {H H' Hv':Hp}:qV H H' Hv' (.d .non) .non:=(LQ (H:=Hv')).mpr rfl
class KM (κ : Kd):Prop where
 mono:∀ {H H1 H' Hv' w v},Old H H1→κ H1 H' Hv' w v→κ H H' Hv' w v
instance:KM qP:=⟨fun _ h=>h⟩
instance:KM qV:=⟨fun _ h=>h⟩
instance:KM qN:=⟨fun s ⟨a,o,e,n,r⟩=>⟨a,o,e,s.free n,r⟩⟩
structure R0 (M:Nat→Bool) (e:Mi.Env) (σ : L2.St) (H Hv:Hp):Prop where
 vw:Vw H Hv
 len:σ.length = e.length
 nob:∀ i w,e[i]? = some (some w)→M i = false→∃ v,σ[i]? = some (some v)∧uo Hv w v
 own:∀ i w,e[i]? = some (some w)→M i = true→∃ v,σ[i]? = some (some v)∧Own H Hv w v
theorem R0.grow {M:Nat→Bool} {e:Mi.Env} {σ : L2.St} {H Hv H' Hv':Hp} (r:R0 M e σ H Hv) (g:cg H Hv H' Hv'):R0 M e σ H' Hv' :=
 ⟨g.vw,r.len,fun i w h m=>let ⟨v,q,z⟩:=r.nob i w h m; ⟨v,q,pC g.vis z⟩,fun i w h m=>let ⟨v,q,z⟩:=r.own i w h m; ⟨v,q,z.grow g⟩⟩
structure R1 (M:Nat→Bool) (H0 Hv0:Hp) (e:Mi.Env) (σ : L2.St) (H Hv:Hp):Prop extends R0 M e σ H Hv where
 gw:cg H0 Hv0 H Hv
 fresh:∀ i w a,e[i]? = some (some w)→M i = true→σ[i]? = some (some (.ref a))→H0 a = none
 sep:∀ i j w w' a b,i≠j→e[i]? = some (some w)→e[j]? = some (some w')→M i = true→M j = true→σ[i]? = some (some (.ref a))→σ[j]? = some (some (.ref b))→a≠b
theorem R1.grow {M:Nat→Bool} {H0 Hv0:Hp} {e:Mi.Env} {σ : L2.St} {H Hv H' Hv':Hp} (r:R1 M H0 Hv0 e σ H Hv) (g:cg H Hv H' Hv'):R1 M H0 Hv0 e σ H' Hv' :=
 ⟨r.toR0.grow g,r.gw.trans g,r.fresh,r.sep⟩
end A
namespace A
open PySem L2 PyProof.Rows
open Mi (D W Rs Fin aq)
variable [Tb:iZ]
abbrev Qw:=Mi.Env
class KG (κ : Kd):Prop where
 go:∀ {H H1 Hv1 H2 Hv2 w v},cg H1 Hv1 H2 Hv2→κ H H1 Hv1 w v→κ H H2 Hv2 w v
instance:KG qP:=⟨fun g h=>h.grow g⟩
instance:KG qV:=⟨fun g h=>pC g.vis h⟩
instance:KG qN:=⟨fun g ⟨a,o,e,n,q,z,c⟩=>⟨a,o,e,n,g.old.at q c.nt,g.hid _ _ q z,c.same g.vis⟩⟩
def AW (M:Nat→Bool) (κ : Kd) (t:TE) (m:Mi.EW):Prop:=∀ e σ H Hv Q,R0 M e σ H Hv→Fin (m e) (fun w=>∀ v H' Hv',cg H Hv H' Hv'→κ H H' Hv' w v→Q v H')→t σ H Q
def AE (M:Nat→Bool) (κ : Kd) (t:TE) (m:Mi.E):Prop:=∀ e σ H Hv Q,R0 M e σ H Hv→Fin (m e) (fun d=>∀ v H' Hv',cg H Hv H' Hv'→κ H H' Hv' (.d d) v→Q v H')→t σ H Q
def AT (M:Nat→Bool) (t:TT) (m:Mi.C):Prop:=∀ e σ H Hv Q,R0 M e σ H Hv→Fin (m e) (fun b=>∀ H' Hv',cg H Hv H' Hv'→Q b H')→t σ H Q
def AA (M:Nat→Bool) (κ : Kd) (t:TA) (m:Qw→Rs (List D)):Prop:=∀ e σ H Hv Q,R0 M e σ H Hv→Fin (m e) (fun ds=>∀ vs H' Hv',cg H Hv H' Hv'→P2 (fun d v=>κ H H' Hv' (.d d) v) ds vs→Q vs H')→t σ H Q
def AAW (M:Nat→Bool) (κ : Kd) (t:TA) (m:Qw→Rs (List W)):Prop:=∀ e σ H Hv Q,R0 M e σ H Hv→Fin (m e) (fun ws=>∀ vs H' Hv',cg H Hv H' Hv'→P2 (fun w v=>κ H H' Hv' w v) ws vs→Q vs H')→t σ H Q
def AO (M:Nat→Bool) (t:TO) (m:Qw→Rs (Option Int)):Prop:=∀ e σ H Hv Q,R0 M e σ H Hv→Fin (m e) (fun o=>∀ H' Hv',cg H Hv H' Hv'→Q o H')→t σ H Q
section
variable {M:Nat→Bool} {κ : Kd} {t ta tb tc te:TE} {a b c:Mi.E} {r r':R2} {f g:D→D→Rs D}
theorem AE.w (h:AE M κ t a):AW M κ t (Mi.wD a):=fun e σ H Hv Q I q=>h e σ H Hv Q I ((aq.mp q).mono fun d z=>z)
theorem Yp {H H' Hv':Hp} {w:W} {v:V} (h:qV H H' Hv' w v):qP H H' Hv' w v:=.inl h
theorem acj {H H' Hv':Hp} {w:W} {v:V} (h:qN H H' Hv' w v):qP H H' Hv' w v:=by
 ob ⟨a,o,e,_,q,_,c⟩:=h
 xt .inr ⟨a,o,e,q,c⟩
theorem M5 {H Hv H' Hv':Hp} (g:cg H Hv H' Hv') {w:W} {v:V} (h:qN H H' Hv' w v):∃ Qx,cg H Hv H' Qx∧uo Qx w v:=by
 ob ⟨a,o,rfl,n,q,z,c⟩:=h
 ob ⟨vw,s⟩:=g.vw.show q z c.nt
 rf ⟨upd Hv' a o,⟨g.old,g.vis.trans s,vw,fun b u e m=>?_⟩,wR aU (c.same s)⟩
 rw [aJ (aX e n)]; xt g.hid b u e m
theorem AW.p (h:AW M qV t m):AW M qP t m:=fun e σ H Hv Q I q=>h e σ H Hv Q I (q.mono fun w z v H' Hv' g k=>z v H' Hv' g (Yp k))
theorem AW.nv (h:AW M qN t m):AW M qV t m:=fun e σ H Hv Q I q=>h e σ H Hv Q I (q.mono fun w z v H' Hv' g k=>let ⟨Qx,g',r⟩:=M5 g k; z v H' Qx g' r)
theorem AE.p (h:AE M qV t a):AE M qP t a:=fun e σ H Hv Q I q=>h e σ H Hv Q I (q.mono fun w z v H' Hv' g k=>z v H' Hv' g (Yp k))
theorem AE.np (h:AE M qN t a):AE M qP t a:=fun e σ H Hv Q I q=>h e σ H Hv Q I (q.mono fun w z v H' Hv' g k=>z v H' Hv' g (acj k))
theorem AE.nv (h:AE M qN t a):AE M qV t a:=fun e σ H Hv Q I q=>h e σ H Hv Q I (q.mono fun w z v H' Hv' g k=>let ⟨Qx,g',r⟩:=M5 g k; z v H' Qx g' r)
theorem aN {i:Int}:AE M qV (tC (.int i)) (Mi.mC (.int i)):=fun e σ H Hv Q I h=>h _ H Hv (.refl I.vw) iK
theorem ni {i:Str}:AE M qV (tC (.str i)) (Mi.mC (.str i)):=fun e σ H Hv Q I h=>h _ H Hv (.refl I.vw) wW
theorem BX {i:Bool}:AE M qV (tC (.bl i)) (Mi.mC (.bl i)):=fun e σ H Hv Q I h=>h _ H Hv (.refl I.vw) gP
theorem YG:AE M qV (tC .non) (Mi.mC .non):=fun e σ H Hv Q I h=>h _ H Hv (.refl I.vw) J3
theorem Ym {e:Qw} {i:Nat} {k:D→Prop} (h:Fin (Mi.mV i e) k):∃ d,e[i]? = some (some (.d d))∧k d:=by
 unfold Mi.mV at h
 split at h
 ·xt ⟨_,‹_›,h⟩
 ·xt h.elim
theorem Lr {e:Qw} {i:Nat} {k:W→Prop} (h:Fin (Mi.wV i e) k):∃ w,e[i]? = some (some w)∧k w:=by
 unfold Mi.wV at h
 split at h
 ·xt ⟨_,‹_›,h⟩
 ·xt h.elim
theorem ao (i:Nat) (hm:M i = false):AE M qV (uG i) (Mi.mV i):=fun e σ H Hv Q I h=>by
 ob ⟨d,he,k⟩:=Ym h
 ob ⟨v,q,z⟩:=I.nob i _ he hm
 xt ⟨v,q,k v H Hv (.refl I.vw) z⟩
theorem Zz {H Hv:Hp} {w:W} {v:V} (h:Own H Hv w v):RB H Hv w v:=by
 ob ⟨a,o,e,q,_,c⟩:=h
 xt .inr ⟨a,o,e,q,c⟩
theorem R0.any {e:Qw} {σ : L2.St} {H Hv:Hp} (I:R0 M e σ H Hv) {i:Nat} {w:W} (he:e[i]? = some (some w)):∃ v,σ[i]? = some (some v)∧RB H Hv w v:=by
 cases hm:M i with
 | false =>
  ob ⟨v,q,z⟩:=I.nob i w he hm
  xt ⟨v,q,.inl z⟩
 | true =>
  ob ⟨v,q,z⟩:=I.own i w he hm
  xt ⟨v,q,Zz z⟩
theorem xK (i:Nat):AE M qP (uG i) (Mi.mV i):=fun e σ H Hv Q I h=>by
 ob ⟨d,he,k⟩:=Ym h
 ob ⟨v,q,z⟩:=I.any he
 xt ⟨v,q,k v H Hv (.refl I.vw) z⟩
theorem aaG (i:Nat) (hm:M i = false):AW M qV (uG i) (Mi.wV i):=fun e σ H Hv Q I h=>by
 ob ⟨d,he,k⟩:=Lr h
 ob ⟨v,q,z⟩:=I.nob i _ he hm
 xt ⟨v,q,k v H Hv (.refl I.vw) z⟩
def B2 (κ : Kd) (r:R2) (f:D→D→Rs D):Prop:=∀ x y v u H Hv Q,Vw H Hv→RD H Hv x v→RD H Hv y u→Fin (f x y) (fun d=>∀ w H' Hv',cg H Hv H' Hv'→κ H H' Hv' (.d d) w→Q w H')→r v u H Q
def B1 (κ : Kd) (r:V→Hp→VK→Prop) (f:D→Rs D):Prop:=∀ x v H Hv Q,Vw H Hv→RD H Hv x v→Fin (f x) (fun d=>∀ w H' Hv',cg H Hv H' Hv'→κ H H' Hv' (.d d) w→Q w H')→r v H Q
def BN (κ : Kd) (r:List V→Hp→VK→Prop) (f:List D→Rs D):Prop:=∀ ds vs H Hv Q,Vw H Hv→P2 (RD H Hv) ds vs→Fin (f ds) (fun d=>∀ w H' Hv',cg H Hv H' Hv'→κ H H' Hv' (.d d) w→Q w H')→r vs H Q
theorem aB [KM κ] (hr:B2 κ r f) (ha:AE M qP ta a) (hb:AE M qP tb b):AE M κ (tOp r ta tb) (Mi.m2 f a b):=fun e σ H Hv Q I h =>
 ha e σ H Hv _ I ((aq.mp h).mono fun x hx v H1 Hv1 g1 rx=>hb e σ H1 Hv1 _ (I.grow g1) ((aq.mp hx).mono fun y hy u H2 Hv2 g2 ry =>
  hr x y v u H2 Hv2 Q g2.vw (RB.grow g2 rx) ry (hy.mono fun d hd w H3 Hv3 g3 rw=>hd w H3 Hv3 (g1.trans (g2.trans g3)) (KM.mono (g1.old.trans g2.old) rw))))
theorem aet [KM κ] {r:V→Hp→VK→Prop} {f:D→Rs D} (hr:B1 κ r f) (ha:AE M qP ta a):AE M κ (tUn r ta) (Mi.m1 f a):=fun e σ H Hv Q I h =>
 ha e σ H Hv _ I ((aq.mp h).mono fun x hx v H1 Hv1 g1 rx=>hr x v H1 Hv1 Q g1.vw rx (hx.mono fun d hd w H3 Hv3 g3 rw=>hd w H3 Hv3 (g1.trans g3) (KM.mono g1.old rw)))
theorem Ld {x:D} {k:Bool→Prop} (h:Fin (Mi.asB x) k):∃ b,x = .bl b∧k b:=by
 cases x with
 | bl b=>xt ⟨b,rfl,h⟩
 | _=>xt h.elim
theorem Gw {x:D} {k:Int→Prop} (h:Fin (Mi.Xv x) k):∃ b,x = .int b∧k b:=by
 cases x with
 | int b=>xt ⟨b,rfl,h⟩
 | _=>xt h.elim
theorem Vq (ha:AE M qP ta a) (hb:AE M qV tb b):AE M qV (X3 ta tb) (Mi.HW a b):=fun e σ H Hv Q I h =>
 ha e σ H Hv _ I ((aq.mp h).mono fun x hx v H1 Hv1 g1 rx=>by
  ob ⟨k,rfl,hk⟩:=Ld (aq.mp hx)
  cases RD.bl rx
  rf ⟨k,rfl,?_⟩
  cases k with
  | true=>xt FN (hb e σ H1 Hv1 Q (I.grow g1) (Fin.mono (Mi.Aw hk) fun d hd w H2 Hv2 g2 rw=>hd w H2 Hv2 (g1.trans g2) rw))
  | false=>xt FQ ((Mi.gG (Mi.Ax hk)) _ H1 Hv1 g1 gP))
theorem N8 (h1:B2 qV r f) (h2:B2 qV r' g) (ha:AE M qP ta a) (hb:AE M qP tb b) (hc:AE M qP tc c):AE M qV (JV r r' ta tb tc) (Mi.uO f g a b c):=fun e σ H Hv Q I h =>
 ha e σ H Hv _ I ((aq.mp h).mono fun x hx v H1 Hv1 g1 rx=>hb e σ H1 Hv1 _ (I.grow g1) ((aq.mp hx).mono fun y hy u H2 Hv2 g2 ry =>
  h1 x y v u H2 Hv2 _ g2.vw (RB.grow g2 rx) ry ((aq.mp hy).mono fun d hd w H3 Hv3 g3 rw=>by
   ob ⟨k,rfl,hk⟩:=Ld (aq.mp hd)
   cases (zM (H:=Hv3)).mp rw
   rf ⟨k,rfl,?_⟩
   cases k with
   | false=>xt FQ ((Mi.gG (Mi.Ax hk)) _ H3 Hv3 (g1.trans (g2.trans g3)) gP)
   | true=>xt FN (hc e σ H3 Hv3 _ (I.grow (g1.trans (g2.trans g3))) ((aq.mp (Mi.Aw hk)).mono fun z hz w4 H4 Hv4 g4 rz =>
    h2 y z u w4 H4 Hv4 Q g4.vw (RB.grow (g3.trans g4) ry) rz (hz.mono fun d hd w5 H5 Hv5 g5 r5=>hd w5 H5 Hv5 (g1.trans (g2.trans (g3.trans (g4.trans g5)))) r5))))))
theorem ue:AO M Ly (Mi.sr none):=fun e σ H Hv Q I h=>h H Hv (.refl I.vw)
theorem nQ (ha:AE M qP ta a):AO M (XS ta) (Mi.sr (some a)):=fun e σ H Hv Q I h =>
 ha e σ H Hv _ I ((aq.mp h).mono fun x hx v H1 Hv1 g1 rx=>by
  ob ⟨i,rfl,hk⟩:=Gw (aq.mp hx)
  xt ⟨i,RD.int rx,hk H1 Hv1 g1⟩)
def BS (κ : Kd) (r:V→Option Int→Option Int→Hp→VK→Prop) (f:D→Option Int→Option Int→Rs D):Prop:=∀ x lo hi v H Hv Q,Vw H Hv→RD H Hv x v→Fin (f x lo hi) (fun d=>∀ w H' Hv',cg H Hv H' Hv'→κ H H' Hv' (.d d) w→Q w H')→r v lo hi H Q
theorem Li [KM κ] {r:V→Option Int→Option Int→Hp→VK→Prop} {tl th:TO} {lo hi:Option Mi.E} {f:D→Option Int→Option Int→Rs D} (hr:BS κ r f) (ha:AE M qP ta a) (hl:AO M tl (Mi.sr lo)) (hh:AO M th (Mi.sr hi)):AE M κ (tSl r ta tl th) (Mi.qU f a lo hi):=fun e σ H Hv Q I h =>
 ha e σ H Hv _ I ((aq.mp h).mono fun x hx v H1 Hv1 g1 rx=>hl e σ H1 Hv1 _ (I.grow g1) ((aq.mp hx).mono fun l hl H2 Hv2 g2=>hh e σ H2 Hv2 _ (I.grow (g1.trans g2)) ((aq.mp hl).mono fun u hu H3 Hv3 g3 =>
  hr x l u v H3 Hv3 Q g3.vw (RB.grow (g2.trans g3) rx) (hu.mono fun d hd w H4 Hv4 g4 rw=>hd w H4 Hv4 (g1.trans (g2.trans (g3.trans g4))) (KM.mono (g1.old.trans (g2.old.trans g3.old)) rw)))))
theorem q8 (ha:AE M qP ta a):AT M (tB ta) (Mi.cB a):=fun e σ H Hv Q I h =>
 ha e σ H Hv _ I ((aq.mp h).mono fun x hx v H1 Hv1 g1 rx=>by
  ob ⟨k,rfl,hk⟩:=Ld hx
  xt ⟨k,RD.bl rx,hk H1 Hv1 g1⟩)
theorem bC (ha:AE M qP ta a):AT M (Q6 ta) (Mi.cB a):=q8 ha
theorem Ve {K:Φ} (ha:AE M qP ta a):AT M (fun σ H Q=>ta σ H fun x H'=>∃ k,aaO K x H' k∧Q k H') (Mi.Xh a):=fun e σ H Hv Q I h =>
 ha e σ H Hv _ I ((aq.mp h).mono fun x hx v H1 Hv1 g1 rx=>by
  cases x with
  | non=>cases RD.non rx; xt ⟨false,rfl,hx H1 Hv1 g1⟩
  | bl b=>cases RD.bl rx; xt ⟨b,rfl,hx H1 Hv1 g1⟩
  | int i=>cases RD.int rx; xt ⟨_,rfl,hx H1 Hv1 g1⟩
  | str y =>
   cases RD.str rx
   ob ⟨hz,hq⟩:=Mi.aV hx
   xt ⟨_,⟨by rw [sizeLine_eq]; xt hz,rfl⟩,hq H1 Hv1 g1⟩
  | lst ds =>
   ob ⟨p,xs,rfl,l,r⟩:=RD.lst g1.vw rx
   rf ⟨!xs.isEmpty,.inl ⟨xs,l.sq,rfl⟩,?_⟩
   have:ds.isEmpty = xs.isEmpty:=by cases r <;> rfl
   rw [← this]; xt hx H1 Hv1 g1
  | tup ds =>
   ob ⟨p,xs,rfl,l,_,r⟩:=RD.tup g1.vw rx
   rf ⟨!xs.isEmpty,.inr (.inl ⟨xs,.inl (.inl l),rfl⟩),?_⟩
   have:ds.isEmpty = xs.isEmpty:=by cases r <;> rfl
   rw [← this]; xt hx H1 Hv1 g1)
variable {tt uu:TT} {k l:Mi.C}
theorem Gr (ha:AT M tt k) (hb:AT M uu l):AT M (abi tt uu) (Mi.sU k l):=fun e σ H Hv Q I h =>
 ha e σ H Hv _ I ((aq.mp h).mono fun x hx H1 Hv1 g1=>by
  cases x with
  | true=>xt FN (hb e σ H1 Hv1 Q (I.grow g1) (Fin.mono (Mi.Aw hx) fun b hd H2 Hv2 g2=>hd H2 Hv2 (g1.trans g2)))
  | false=>xt FQ ((Mi.gG (Mi.Ax hx)) H1 Hv1 g1))
theorem Ny (ha:AT M tt k) (hb:AT M uu l):AT M (tOr tt uu) (Mi.QC k l):=fun e σ H Hv Q I h =>
 ha e σ H Hv _ I ((aq.mp h).mono fun x hx H1 Hv1 g1=>by
  cases x with
  | false=>xt FQ (hb e σ H1 Hv1 Q (I.grow g1) (Fin.mono (Mi.Ax hx) fun b hd H2 Hv2 g2=>hd H2 Hv2 (g1.trans g2)))
  | true=>xt FN ((Mi.gG (Mi.Aw hx)) H1 Hv1 g1))
theorem sX (ha:AT M tt k):AT M (abb tt) (Mi.qC k):=fun e σ H Hv Q I h =>
 ha e σ H Hv _ I ((aq.mp h).mono fun x hx H1 Hv1 g1=>hx H1 Hv1 g1)
theorem lL:AT M aa9 Mi.jq:=fun e σ H Hv Q I h=>h H Hv (.refl I.vw)
variable {tr:TA} {as:List Mi.E} {ws:List Mi.EW}
theorem aO:AA M κ rD (Mi.jw []):=fun e σ H Hv Q I h=>h [] H Hv (.refl I.vw) .nil
theorem aA [KM κ] [KG κ] (ha:AE M κ ta a) (hr:AA M κ tr (Mi.jw as)):AA M κ (iW ta tr) (Mi.jw (a :: as)):=fun e σ H Hv Q I h =>
 ha e σ H Hv _ I ((aq.mp h).mono fun x hx v H1 Hv1 g1 rx=>hr e σ H1 Hv1 _ (I.grow g1) ((aq.mp hx).mono fun xs hs vs H2 Hv2 g2 rs =>
  hs (v :: vs) H2 Hv2 (g1.trans g2) (.cons (KG.go g2 rx) (rs.imp fun _ _ z=>KM.mono g1.old z))))
theorem bj:AAW M κ rD (Mi.bM []):=fun e σ H Hv Q I h=>h [] H Hv (.refl I.vw) .nil
theorem aC [KM κ] [KG κ] {w:Mi.EW} (ha:AW M κ ta w) (hr:AAW M κ tr (Mi.bM ws)):AAW M κ (iW ta tr) (Mi.bM (w :: ws)):=fun e σ H Hv Q I h =>
 ha e σ H Hv _ I ((aq.mp h).mono fun x hx v H1 Hv1 g1 rx=>hr e σ H1 Hv1 _ (I.grow g1) ((aq.mp hx).mono fun xs hs vs H2 Hv2 g2 rs =>
  hs (v :: vs) H2 Hv2 (g1.trans g2) (.cons (KG.go g2 rx) (rs.imp fun _ _ z=>KM.mono g1.old z))))
theorem iT [KM κ] {r:List V→Hp→VK→Prop} {f:List D→Rs D} (hr:BN κ r f) (ha:AA M qP tr (Mi.jw as)):AE M κ (VP r tr) (Mi.mN f as):=fun e σ H Hv Q I h =>
 ha e σ H Hv _ I ((aq.mp h).mono fun ds hx vs H1 Hv1 g1 rx=>hr ds vs H1 Hv1 Q g1.vw rx (hx.mono fun d hd w H3 Hv3 g3 rw=>hd w H3 Hv3 (g1.trans g3) (KM.mono g1.old rw)))
theorem iJ (ha:AA M qV tr (Mi.jw as)):AE M qV (VM tr) (Mi.mN Mi.dTup as):=fun e σ H Hv Q I h =>
 ha e σ H Hv _ I ((aq.mp h).mono fun ds hx vs H1 Hv1 g1 rx=>by
  ob ⟨hz,hq⟩:=Mi.aV hx
  rf ⟨by rw [← rx.len,sizeLine_eq]; xt hz,fun p hp=>?_⟩
  have g2:cg H1 Hv1 (upd H1 p (.tup vs)) (upd Hv1 p (.tup vs)):=.new g1.vw hp
  xt hq _ _ _ (g1.trans g2) (jd.mpr ⟨p,vs,rfl,aU,cL g2.vis rx⟩))
theorem ie (ha:AA M qV tr (Mi.jw as)):AE M qN (abd tr) (Mi.mN Mi.gm as):=fun e σ H Hv Q I h =>
 ha e σ H Hv _ I ((aq.mp h).mono fun ds hx vs H1 Hv1 g1 rx=>by
  ob ⟨hz,hq⟩:=Mi.aV hx
  rf ⟨by rw [← rx.len,sizeLine_eq]; xt hz,fun p hp=>?_⟩
  have g2:cg H1 Hv1 (upd H1 p (.lst vs)) Hv1:=.Kq g1.vw trivial hp
  xt hq _ _ _ (g1.trans g2) ⟨p,.lst vs,rfl,g1.old.free hp,aU,oX g1.vw hp,rx⟩)
def lF (f:Mi.Fn):Sp:=fun vs H Q _=>∃ Hv ws,Vw H Hv∧P2 (uo Hv) ws vs∧Fin (f ws) (fun w=>∀ v H' Hv',cg H Hv H' Hv'→qV H H' Hv' w v→Q v H')
def yF (f:Mi.Fn):Sp:=fun vs H Q _=>∃ Hv ws,Vw H Hv∧P2 (uo Hv) ws vs∧Fin (f ws) (fun w=>∀ v H' Hv',cg H Hv H' Hv'→qN H H' Hv' w v→Q v H')
variable {fn:Mi.Fn} {E:XK}
theorem Xq (ha:AAW M qV tr (Mi.bM ws)):AW M qV (vm (lF fn) [] E tr) (Mi.uq fn ws):=fun e σ H Hv Q I h =>
 ha e σ H Hv _ I ((aq.mp h).mono fun ds hx vs H1 Hv1 g1 rx=>by
  rw [List.append_nil]
  xt ⟨Hv1,ds,g1.vw,rx,hx.mono fun d hd w H3 Hv3 g3 rw=>hd w H3 Hv3 (g1.trans g3) rw⟩)
theorem Vd (ha:AAW M qV tr (Mi.bM ws)):AW M qN (vm (yF fn) [] E tr) (Mi.uq fn ws):=fun e σ H Hv Q I h =>
 ha e σ H Hv _ I ((aq.mp h).mono fun ds hx vs H1 Hv1 g1 rx=>by
  rw [List.append_nil]
  xt ⟨Hv1,ds,g1.vw,rx,hx.mono fun d hd w H3 Hv3 g3 rw=>hd w H3 Hv3 (g1.trans g3) (KM.mono (κ:=qN) g1.old rw)⟩)
theorem aaK {w:W} {k:D→Prop} (h:Fin (Mi.asD w) k):∃ d,w = .d d∧k d:=by
 cases w with
 | d x=>xt ⟨x,rfl,h⟩
 | _=>xt h.elim
theorem AW.d {w:Mi.EW} (h:AW M κ t w):AE M κ t (fun e=>(w e).bind Mi.asD):=fun e σ H Hv Q I q =>
 h e σ H Hv Q I ((aq.mp q).mono fun w z v H' Hv' g k=>by
  ob ⟨d,rfl,z⟩:=aaK z
  xt z v H' Hv' g k)
theorem bR (ha:AAW M qV tr (Mi.bM ws)):AE M qV (vm (lF fn) [] E tr) (Mi.aZ fn ws):=(Xq ha).d
theorem jO (ha:AAW M qV tr (Mi.bM ws)):AE M qN (vm (yF fn) [] E tr) (Mi.aZ fn ws):=(Vd ha).d
def QB (H:Hp):Hp:=fun a=>match H a with
 | some (.tbl _ _)=>none
 | x=>x
theorem jK {H:Hp} {a:Addr} {o:HO} (h:H a = some o) (n:NT o):QB H a = some o:=by
 unfold QB; rw [h]; cases o <;> first | rfl | xt n.elim
theorem yI {H:Hp} {a:Addr} {o:HO} (h:QB H a = some o):H a = some o∧NT o:=by
 unfold QB at h
 cases q:H a with
 | none=>rw [q] at h; cases h
 | some u =>
  rw [q] at h
  cases u with
  | tbl w ps=>cases h
  | _=>cases h; xt ⟨rfl,trivial⟩
theorem Vw.all {H:Hp} (k:jt H):Vw H (QB H):=⟨fun a o e=>(yI e).1,fun a xs e=>jK e trivial,fun a o u e=>jK e trivial,k,fun a o e=>(yI e).2⟩
theorem RB.acD {H Hv:Hp} (v:Vw H Hv) {w:W} {x:V} (h:RB H Hv w x):uo (QB H) w x:=by
 have s:gJ Hv (QB H):=fun a o e=>jK (v.sub a o e) (v.nv a o e)
 rcases h with h | ⟨a,o,rfl,q,c⟩
 ·xt pC s h
 ·xt wR (jK q c.nt) (c.same s)
def seen (H Hv H':Hp):Hp:=fun a=>match Hv a,H a with
 | none,some _=>none
 | _,_=>QB H' a
theorem Ot {H Hv H':Hp} (v:Vw H Hv) (s:Old H H') (k':jt H'):cg H Hv H' (seen H Hv H'):=by
 have key:∀ a,(∃ o,H a = some o∧Hv a = none∧seen H Hv H' a = none)∨(seen H Hv H' a = QB H' a∧∀ o,H a = some o→Hv a = some o):=fun a=>by
  cases h1:Hv a with
  | none =>
   cases h2:H a with
   | none=>xt .inr ⟨by unfold seen; rw [h1,h2],fun o e=>by cases e⟩
   | some o=>xt .inl ⟨o,rfl,rfl,by unfold seen; rw [h1,h2]⟩
  | some o =>
   rf .inr ⟨by unfold seen; rw [h1],fun u e=>?_⟩
   rw [v.sub a o h1] at e; xt e
 have back:∀ b o,H' b = some o→NT o→(∃ u,H b = some u)→∃ u,H b = some u:=fun _ _ _ _ z=>z
 rf ⟨s,fun b o e=>?_,⟨fun b o e=>?_,fun b xs e=>?_,fun b q u e=>?_,k',fun b o e=>?_⟩,fun b o e n=>?_⟩
 ·rcases key b with ⟨u,_,z,_⟩ | ⟨z,_⟩
  ·rw [e] at z; cases z
  ·rw [z]; xt jK (s.nt b o (v.sub b o e) (v.nv b o e)) (v.nv b o e)
 ·rcases key b with ⟨u,_,_,z⟩ | ⟨z,_⟩
  ·rw [e] at z; cases z
  ·rw [z] at e; xt (yI e).1
 ·rcases key b with ⟨u,h1,h2,_⟩ | ⟨z,_⟩
  ·cases u with
   | tbl w ps=>xt absurd e (s.tab h1 trivial)
   | _ =>
    have:=s.nt b _ h1 trivial
    rw [e] at this; cases this
    try (rw [v.tup b xs h1] at h2; cases h2)
  ·rw [z]; xt jK e trivial
 ·rcases key b with ⟨w,h1,h2,_⟩ | ⟨z,_⟩
  ·cases w with
   | tbl w ps=>xt absurd e (s.tab h1 trivial)
   | _ =>
    have:=s.nt b _ h1 trivial
    rw [e] at this; cases this
    try (rw [v.frz b q u h1] at h2; cases h2)
  ·rw [z]; xt jK e trivial
 ·rcases key b with ⟨u,_,_,z⟩ | ⟨z,_⟩
  ·rw [e] at z; cases z
  ·rw [z] at e; xt (yI e).2
 ·rcases key b with ⟨u,h1,h2,z⟩ | ⟨z,k⟩
  ·xt z
  ·rw [k o e] at n; cases n
theorem Oa (ha:AAW M qP tr (Mi.bM ws)):AE M qV (vm (lF fn) [] E tr) (Mi.qj fn ws):=fun e σ H Hv Q I h =>
 ha e σ H Hv _ I ((aq.mp (aq.mp h)).mono fun ds hx vs H1 Hv1 g1 rx=>by
  rw [List.append_nil]
  rf ⟨QB H1,ds,.all g1.vw.cd,rx.imp fun w v z=>RB.acD g1.vw z,hx.mono fun w hd v H3 Hv3 g3 rw=>?_⟩
  cases w with
  | d x =>
   ob ⟨hi,hd⟩:=Mi.aV hd
   have g4:=Ot g1.vw g3.old g3.vw.cd
   rf hd v H3 _ (g1.trans g4) (LR g4.vw.tup hi (jE g3.vw.sub rw))
  | _=>xt hd.elim)
end
end A
namespace A
open PySem L2 PyProof.Rows
open Mi (D W Rs Fin aq Out Tg)
variable [Tb:iZ]
structure ItD (J:It) (P:Hp→Hp→Prop) (ds:List D):Prop where
 go:∀ i H Hv,P H Hv→Vw H Hv→i < ds.length→J.go i H
 yld:∀ i H Hv x H',P H Hv→Vw H Hv→i < ds.length→J.yld i H x H'→∃ Hv' d,cg H Hv H' Hv'∧ds[i]? = some d∧Rep Hv' d x
 stop:∀ H Hv,P H Hv→Vw H Hv→J.stop ds.length H
def AIc (M:Nat→Bool) (wi:TI) (it:Mi.I):Prop:=∀ e σ H Hv (R:It→Hp→Prop),R0 M e σ H Hv→Fin (it e) (fun ds=>∀ (J:It) H' Hv' (P:Hp→Hp→Prop),cg H Hv H' Hv'→ItD J P ds→P H' Hv'→(∀ H1 Hv1 H2 Hv2,P H1 Hv1→cg H1 Hv1 H2 Hv2→P H2 Hv2)→R J H')→wi σ H R
def Ob (M:Nat→Bool) (wi:TI) (it:Mi.I):Prop:=∀ e σ H Hv (R:It→Hp→Prop),R0 M e σ H Hv→Fin (it e) (fun ds=>∀ (J:It) H' Hv' (P:Hp→Hp→Prop),cg H Hv H' Hv'→ItD J P ds→P H' Hv'→(∀ H1 Hv1 H2 Hv2,P H1 Hv1→gJ Hv1 Hv2→Vw H2 Hv2→P H2 Hv2)→R J H')→wi σ H R
theorem lJ {α : Type} {r:Rs α} {k:α→Prop} (h:Fin r k):∃ x,r = .ok x∧k x:=by
 cases r with
 | ok x=>xt ⟨x,rfl,h⟩
 | _=>xt h.elim
section
variable {M:Nat→Bool} {ta tb:TE} {a b:Mi.E} {wi:TI} {it:Mi.I} {tr:TA} {as:List Mi.E}
theorem Ob.c (h:Ob M wi it):AIc M wi it:=fun e σ H Hv R I q=>h e σ H Hv R I (q.mono fun ds z J H' Hv' P g o p k=>z J H' Hv' P g o p fun H1 Hv1 H2 Hv2 p g'=>k H1 Hv1 H2 Hv2 p g'.vis g'.vw)
theorem uQ {J:It} {Ok:Hp→Prop} {xs:List V} (O:J.Of Ok xs) {ds:List D} {P:Hp→Hp→Prop} (ok:∀ H Hv,P H Hv→Vw H Hv→Ok H) (r:∀ H Hv,P H Hv→P2 (Rep Hv) ds xs) (ex:∃ H Hv,P H Hv):ItD J P ds:=by
 have hl:ds.length = xs.length:=by ob ⟨H,Hv,p⟩:=ex; xt (r H Hv p).len
 rf ⟨fun i H Hv p v hi=>O.go i H (ok H Hv p v) ω,fun i H Hv x H' p v hi y=>?_,fun H Hv p v=>by rw [hl]; xt O.stop H (ok H Hv p v)⟩
 ob ⟨rfl,hx⟩:=O.yld i H x H' (ok H Hv p v) ω y
 ob ⟨d,hd,rx⟩:=(r H' Hv p).acz hx
 xt ⟨Hv,d,.refl v,hd,rx⟩
def aag (K:Φ) (tl:TE):TI:=fun σ H R=>Yt K tl σ H R∨acr K tl σ H R∨acs tl σ H R
theorem eY {X:Cx} {tg l:Expr} {tl:TE} (hl:PE X l tl):PI X tg l (aag X.K tl):=fun pins s σ H R I h=>by
 rcases h with h | h | h
 ·xt Wd hl pins s σ H R I h
 ·xt Zt hl pins s σ H R I h
 ·xt Zu hl pins s σ H R I h
theorem Hm (H:Hp) (z:Str):P2 (Rep H) (z.cps.toList.map fun c=>D.str ⟨#[c]⟩) (JX z):=by
 unfold JX
 induction z.cps.toList with
 | nil=>xt .nil
 | cons c r ih=>xt .cons (lU.mpr rfl) ih
theorem jh {K:Φ} (ha:AE M qP ta a):AIc M (aag K ta) (Mi.uh a):=fun e σ H Hv R I h=>by
 ob ⟨d,hd,h⟩:=lJ (aq.mp h)
 have run:∀ Q:VK,(∀ v H' Hv',cg H Hv H' Hv'→RD H' Hv' d v→Q v H')→ta σ H Q:=fun Q q=>ha e σ H Hv Q I (by rw [hd]; xt q)
 cases d with
 | lst ds =>
  rf .inl (run _ fun v H' Hv' g r=>?_)
  ob ⟨p,xs,rfl,l,r⟩:=RD.lst g.vw r
  xt ⟨p,rfl,⟨xs,l.sq⟩,h (Itl K p) H' Hv' (fun H Hv=>Lst H p xs∧P2 (Rep Hv) ds xs) g (uQ Mm (fun H Hv p v=>p.1.sq) (fun H Hv p=>p.2) ⟨H',Hv',l,r⟩) ⟨l,r⟩ fun H1 Hv1 H2 Hv2 z g'=>⟨z.1.old g'.old,cL g'.vis z.2⟩⟩
 | tup ds =>
  rf .inr (.inl (run _ fun v H' Hv' g r=>?_))
  ob ⟨p,xs,rfl,l,_,r⟩:=RD.tup g.vw r
  xt ⟨p,rfl,⟨xs,.inl (.inl l)⟩,h (Itt K p) H' Hv' (fun H Hv=>H p = some (.tup xs)∧P2 (Rep Hv) ds xs) g (uQ Su (fun H Hv p v=>.inl (.inl p.1)) (fun H Hv p=>p.2) ⟨H',Hv',l,r⟩) ⟨l,r⟩ fun H1 Hv1 H2 Hv2 z g'=>⟨g'.old.at z.1,cL g'.vis z.2⟩⟩
 | str z =>
  rf .inr (.inr (run _ fun v H' Hv' g r=>?_))
  xt ⟨z,RD.str r,h (Its z) H' Hv' (fun _ _=>True) g (uQ Sv (fun _ _ _ _=>trivial) (fun H Hv _=>Hm Hv z) ⟨H,Hv,trivial⟩) trivial fun _ _ _ _ _ _=>trivial⟩
 | _=>xt h.elim
theorem qD {K:Φ} (ha:AE M qV ta a):Ob M (aag K ta) (Mi.uh a):=fun e σ H Hv R I h=>by
 ob ⟨d,hd,h⟩:=lJ (aq.mp h)
 have run:∀ Q:VK,(∀ v H' Hv',cg H Hv H' Hv'→Rep Hv' d v→Q v H')→ta σ H Q:=fun Q q=>ha e σ H Hv Q I (by rw [hd]; xt q)
 cases d with
 | lst ds =>
  rf .inl (run _ fun v H' Hv' g r=>?_)
  ob ⟨p,xs,rfl,l,r⟩:=nF.mp r
  xt ⟨p,rfl,⟨xs,(l.same g.vw.sub).sq⟩,h (Itl K p) H' Hv' (fun H Hv=>Lst Hv p xs∧P2 (Rep Hv) ds xs) g (uQ Mm (fun H Hv p v=>(p.1.same v.sub).sq) (fun H Hv p=>p.2) ⟨H',Hv',l,r⟩) ⟨l,r⟩ fun H1 Hv1 H2 Hv2 z s v=>⟨z.1.same s,cL s z.2⟩⟩
 | tup ds =>
  rf .inr (.inl (run _ fun v H' Hv' g r=>?_))
  ob ⟨p,xs,rfl,l,r⟩:=jd.mp r
  xt ⟨p,rfl,⟨xs,.inl (.inl (g.vw.sub _ _ l))⟩,h (Itt K p) H' Hv' (fun H Hv=>Hv p = some (.tup xs)∧P2 (Rep Hv) ds xs) g (uQ Su (fun H Hv p v=>.inl (.inl (v.sub _ _ p.1))) (fun H Hv p=>p.2) ⟨H',Hv',l,r⟩) ⟨l,r⟩ fun H1 Hv1 H2 Hv2 z s v=>⟨s _ _ z.1,cL s z.2⟩⟩
 | str z =>
  rf .inr (.inr (run _ fun v H' Hv' g r=>?_))
  xt ⟨z,lU.mp r,h (Its z) H' Hv' (fun _ _=>True) g (uQ Sv (fun _ _ _ _=>trivial) (fun H Hv _=>Hm Hv z) ⟨H,Hv,trivial⟩) trivial fun _ _ _ _ _ _ _=>trivial⟩
 | _=>xt h.elim
theorem V5 (H:Hp) (lo hi:Int):P2 (Rep H) (Mi.di lo hi) (J2 lo (hi - lo).toNat):=by
 unfold Mi.di J2
 induction List.range (hi - lo).toNat with
 | nil=>xt .nil
 | cons c r ih=>xt .cons (qe.mpr rfl) ih
theorem Px (lo hi:Int) (H Hv:Hp):ItD (Itr lo (hi - lo).toNat) (fun _ _=>True) (Mi.di lo hi):=uQ Sw (fun _ _ _ _=>trivial) (fun H Hv _=>V5 Hv lo hi) ⟨H,Hv,trivial⟩
theorem iH (ha:AE M qP ta a):Ob M (Yr (iW ta rD)) (Mi.gF a):=fun e σ H Hv R I h =>
 ha e σ H Hv _ I ((aq.mp h).mono fun x hx v H1 Hv1 g1 rx=>by
  ob ⟨j,rfl,hk⟩:=Gw (aq.mp hx)
  ob ⟨hz,hq⟩:=Mi.aV hk
  cases RD.int rx
  rf ⟨j,rfl,hz.1,hz.2,?_⟩
  have:=hq (Itr 0 (j - 0).toNat) H1 Hv1 _ g1 (Px 0 j H Hv) trivial fun _ _ _ _ _ _ _=>trivial
  rw [Int.sub_zero] at this
  xt this)
end
def aak:List Nat→QD
 | []=>T7
 | i :: r=>Io (qK i) (aak r)
def wG:Tg→List Nat
 | .n i=>[i]
 | .t is=>is
def tgG (K:Φ):Tg→TG
 | .n i=>qK i
 | .t is=>aal K is.length (aak is)
section
variable {P:Mi.Env→L2.St→Prop} {H Hv:Hp}
theorem T6:∀ {is:List Nat} {ds:List D} {xs:List V} {e:Mi.Env} {σ : L2.St} {Q:L2.St→Hp→Prop},(∀ i∈is,∀ e σ d v,P e σ→Rep Hv d v→P (e.set i (some (.d d))) (σ.set i (some v)))→P e σ→P2 (Rep Hv) ds xs →
 Fin (Mi.pZ is ds e) (fun e'=>∀ σ',P e' σ'→Q σ' H)→aak is xs σ H Q
 | [],[],xs,e,σ,Q,cl,p,r,h=>by
  cases r
  xt ⟨rfl,h σ p⟩
 | [],_ :: _,xs,e,σ,Q,cl,p,r,h=>h.elim
 | _ :: _,[],xs,e,σ,Q,cl,p,r,h=>h.elim
 | i :: is,d :: ds,xs,e,σ,Q,cl,p,r,h=>by
  cases r with
  | cons x t=>xt ⟨_,_,rfl,T6 (fun j hj=>cl j (List.mem_cons_of_mem _ hj)) (cl i List.mem_cons_self _ _ _ _ p x) t h⟩
theorem zy:∀ {is:List Nat} {ds:List D} {e:Mi.Env} {k:Mi.Env→Prop},Fin (Mi.pZ is ds e) k→ds.length = is.length
 | [],[],_,_,_=>rfl
 | [],_ :: _,_,_,h=>h.elim
 | _ :: _,[],_,_,h=>h.elim
 | i :: is,d :: ds,e,k,h=>by rw [List.length_cons,List.length_cons,zy (is:=is) (ds:=ds) (k:=k) h]
theorem Ec {K:Φ} (vw:Vw H Hv) {tg:Tg} {d:D} {v:V} {e:Mi.Env} {σ : L2.St} {Q:L2.St→Hp→Prop} (cl:∀ i∈wG tg,∀ e σ d v,P e σ→Rep Hv d v→P (e.set i (some (.d d))) (σ.set i (some v))) (p:P e σ) (r:Rep Hv d v)
 (h:Fin (tg.put d e) (fun e'=>∀ σ',P e' σ'→Q σ' H)):tgG K tg v σ H Q:=by
 cases tg with
 | n i=>xt h _ (cl i (by simp [wG]) _ _ _ _ p r)
 | t is =>
  cases d with
  | tup ds =>
   ob ⟨a,xs,e1,l,r⟩:=jd.mp r
   xt ⟨a,xs,e1,.inl (.inl (vw.sub _ _ l)),by rw [← r.len]; xt zy h,T6 cl p r h⟩
  | _=>xt h.elim
end
theorem jD {α : Type} {l:List α} {i j:Nat} {x y:α} (h:(l.set i x)[j]? = some y):(i = j∧x = y∧i < l.length)∨(i≠j∧l[j]? = some y):=by
 rw [List.getElem?_set] at h
 split at h
 ·split at h
  ·xt .inl ⟨‹_›,Option.some.inj h,by omega⟩
  ·cases h
 ·xt .inr ⟨‹_›,h⟩
theorem R0.set {M:Nat→Bool} {e:Mi.Env} {σ : L2.St} {H Hv:Hp} (I:R0 M e σ H Hv) {i:Nat} {w:W} {v:V} (hm:M i = false) (r:uo Hv w v):R0 M (e.set i (some w)) (σ.set i (some v)) H Hv:=by
 rf ⟨I.vw,by rw [List.length_set,List.length_set]; xt I.len,fun j w' h m=>?_,fun j w' h m=>?_⟩
 ·rcases jD h with ⟨rfl,h,l⟩ | ⟨n,h⟩
  ·cases h
   xt ⟨v,by rw [List.getElem?_set_self (by rw [I.len]; xt l)],r⟩
  ·ob ⟨u,q,z⟩:=I.nob j w' h m
   xt ⟨u,by rw [List.getElem?_set_ne n]; xt q,z⟩
 ·rcases jD h with ⟨rfl,h,l⟩ | ⟨n,h⟩
  ·rw [hm] at m; cases m
  ·ob ⟨u,q,z⟩:=I.own j w' h m
   xt ⟨u,by rw [List.getElem?_set_ne n]; xt q,z⟩
theorem R1.set {M:Nat→Bool} {H0 Hv0:Hp} {e:Mi.Env} {σ : L2.St} {H Hv:Hp} (I:R1 M H0 Hv0 e σ H Hv) {i:Nat} {w:W} {v:V} (hm:M i = false) (r:uo Hv w v):R1 M H0 Hv0 (e.set i (some w)) (σ.set i (some v)) H Hv:=by
 have nj:∀ {j:Nat} {w':W},(e.set i (some w))[j]? = some (some w')→M j = true→i≠j∧e[j]? = some (some w'):=fun {j w'} h m=>by
  rcases jD h with ⟨rfl,_,_⟩ | ⟨n,h⟩
  ·rw [hm] at m; cases m
  ·xt ⟨n,h⟩
 rf ⟨I.toR0.set hm r,I.gw,fun j w' a h m q=>?_,fun j k w1 w2 a b hjk h1 h2 m1 m2 q1 q2=>?_⟩
 ·ob ⟨n,h⟩:=nj h m
  rw [List.getElem?_set_ne n] at q
  xt I.fresh j w' a h m q
 ·ob ⟨n1,h1⟩:=nj h1 m1
  ob ⟨n2,h2⟩:=nj h2 m2
  rw [List.getElem?_set_ne n1] at q1
  rw [List.getElem?_set_ne n2] at q2
  xt I.sep j k w1 w2 a b hjk h1 h2 m1 m2 q1 q2
def zT (ρ : List (Option Nat)) (M:Nat→Bool):Nat→Bool:=fun i=>match ρ[i]? with
 | some (some j)=>M j
 | _=>false
theorem Hu {α : Type} {ρ : List (Option Nat)} {e:List (Option α)} {i:Nat} {w:α} (h:(ρ.map fun o=>o.bind fun j=>(e[j]?).join)[i]? = some (some w)):∃ j,ρ[i]? = some (some j)∧e[j]? = some (some w):=by
 rw [List.getElem?_map] at h
 cases hr:ρ[i]? with
 | none=>rw [hr] at h; cases h
 | some o =>
  rw [hr] at h
  cases o with
  | none=>cases h
  | some j =>
   rf ⟨j,rfl,?_⟩
   have h:(e[j]?).join = some w:=Option.some.inj h
   cases hq:e[j]? with
   | none=>rw [hq] at h; cases h
   | some o' => rw [hq] at h; have h : o' = some w := h
                rw [h]
theorem Ma {α : Type} {ρ : List (Option Nat)} {e:List (Option α)} {i j:Nat} {w:α} (h1:ρ[i]? = some (some j)) (h2:e[j]? = some (some w)):(ρ.map fun o=>o.bind fun j=>(e[j]?).join)[i]? = some (some w):=by
 rw [List.getElem?_map,h1]
 show some ((e[j]?).join) = _
 rw [h2]; rfl
theorem R0.pick {M:Nat→Bool} {e:Mi.Env} {σ : L2.St} {H Hv:Hp} (I:R0 M e σ H Hv) (ρ : List (Option Nat)):R0 (zT ρ M) (Mi.qJ ρ e) (L2.pick ρ σ) H Hv:=by
 rf ⟨I.vw,by unfold Mi.qJ L2.pick; rw [List.length_map,List.length_map],fun i w h m=>?_,fun i w h m=>?_⟩
 ·ob ⟨j,h1,h2⟩:=Hu h
  have m:M j = false:=by unfold zT at m; rw [h1] at m; xt m
  ob ⟨v,q,z⟩:=I.nob j w h2 m
  xt ⟨v,Ma h1 q,z⟩
 ·ob ⟨j,h1,h2⟩:=Hu h
  have m:M j = true:=by unfold zT at m; rw [h1] at m; xt m
  ob ⟨v,q,z⟩:=I.own j w h2 m
  xt ⟨v,Ma h1 q,z⟩
theorem Qg {tg:Tg} {c:Mi.C} {a:Mi.E} {e:Mi.Env} {x:D} {r:List D} {k:List D→Prop} (h:Fin (Mi.eX tg c a e (x :: r)) k) :
 Fin (tg.put x e) fun e1=>Fin (c e1) fun b=>if b = true then Fin (a e1) fun y=>Fin (Mi.eX tg c a e r) fun ys=>k (y :: ys) else Fin (Mi.eX tg c a e r) k:=by
 rf (aq.mp h).mono fun e1 h1=>(aq.mp h1).mono fun b h2=>?_
 cases b with
 | true=>xt FN ((aq.mp (Mi.Aw h2)).mono fun y h3=>(aq.mp h3).mono fun ys h4=>h4)
 | false=>xt FQ (Mi.Ax h2)
theorem gC {M:Nat→Bool} {K:Φ} {ρ : List (Option Nat)} {wi:TI} {it:Mi.I} {tg:Tg} {tc:TT} {c:Mi.C} {te:TE} {a:Mi.E} (hi:AIc M wi it) (hm:∀ i∈wG tg,zT ρ M i = false) (hc:AT (zT ρ M) tc c) (he:AE (zT ρ M) qV te a) :
 AE M qN (Lz wi ρ (tgG K tg) tc te) (Mi.fL ρ it tg c a):=fun e σ H Hv Q I h =>
 hi e σ H Hv _ I ((aq.mp h).mono fun ds h1 J H1 Hv1 P g1 O p1 per=>by
  ob ⟨hz,h1⟩:=Mi.aV h1
  have h1:=aq.mp h1
  have I1:=I.grow g1
  rf ⟨fun i m acc H'=>m = ds.length - i∧i≤ds.length∧∃ Hv',cg H1 Hv1 H' Hv'∧P H' Hv'∧acc.length≤i∧∃ done,P2 (Rep Hv') done acc∧Fin (Mi.eX tg c a (Mi.qJ ρ e) (ds.drop i)) fun ys=>∀ v H2 Hv2,cg H Hv H2 Hv2→qN H H2 Hv2 (.d (.lst (done ++ ys))) v→Q v H2,
   ⟨ds.length,by simp,Nat.zero_le _,Hv1,.refl g1.vw,p1,Nat.le_refl _,[],.nil,by rw [List.drop_zero]; xt h1.mono fun ys z=>z⟩,?_⟩
  rintro i m acc H' ⟨rfl,hle,Hv',g,pp,l,done,pd,hf⟩
  by_cases hlt:i < ds.length
  ·rf .inr ⟨O.go i H' Hv' pp g.vw hlt,by rw [sizeLine_eq]; omega,fun acc' H2=>∃ Hv2,cg H1 Hv1 H2 Hv2∧P H2 Hv2∧acc'.length≤i + 1∧∃ done,P2 (Rep Hv2) done acc'∧Fin (Mi.eX tg c a (Mi.qJ ρ e) (ds.drop (i + 1))) fun ys=>∀ v H3 Hv3,cg H Hv H3 Hv3→qN H H3 Hv3 (.d (.lst (done ++ ys))) v→Q v H3,
    fun acc' H2 z=>⟨ds.length - (i + 1),by omega,rfl,hlt,z⟩,fun x H2 y=>?_⟩
   ob ⟨Hv2,d,g2,hd,rx⟩:=O.yld i H' Hv' x H2 pp g.vw hlt y
   have g12:=g.trans g2
   have hdr:ds.drop i = d :: ds.drop (i + 1):=by
    ob ⟨hl,e1⟩:=List.getElem?_eq_some_iff.mp hd
    rw [List.drop_eq_getElem_cons hl,e1]
   rw [hdr] at hf
   have hf:=Qg hf
   rf Ec (P:=fun e1 σ1=>R0 (zT ρ M) e1 σ1 H2 Hv2) g2.vw (fun j hj e1 σ1 d1 v1 r1 z=>r1.set (hm j hj) z) ((I1.grow g12).pick ρ) rx (hf.mono fun e1 hf1 σ1 r1=>?_)
   rf hc e1 σ1 H2 Hv2 _ r1 (hf1.mono fun b hb H3 Hv3 g3=>?_)
   cases b with
   | true =>
    rf FN (he e1 σ1 H3 Hv3 _ (r1.grow g3) (Fin.mono (by simpa using hb) fun y hy v H4 Hv4 g4 ry=>?_))
    xt ⟨Hv4,g12.trans (g3.trans g4),per _ _ _ _ pp (g2.trans (g3.trans g4)),by rw [List.length_append,List.length_singleton]; omega,done ++ [y],(cL (g2.trans (g3.trans g4)).vis pd).append (.cons ry .nil),hy.mono fun ys z v H5 Hv5 g5 k=>z v H5 Hv5 g5 (by rw [List.append_assoc] at k; xt k)⟩
   | false=>xt FQ ⟨Hv3,g12.trans g3,per _ _ _ _ pp (g2.trans g3),by omega,done,cL (g2.trans g3).vis pd,by simpa using hb⟩
  ·have hi:i = ds.length:=by omega
   subst hi
   rf .inl ⟨O.stop H' Hv' pp g.vw,fun p hp=>?_⟩
   rw [List.drop_of_length_le (Nat.le_refl _)] at hf
   have g2:cg H' Hv' (upd H' p (.lst acc)) Hv':=.Kq g.vw trivial hp
   rf hf _ _ _ (g1.trans (g.trans g2)) ⟨p,.lst acc,rfl,(g1.old.trans g.old).free hp,aU,oX g.vw hp,?_⟩
   show P2 (Rep Hv') (done ++ []) acc
   rw [List.append_nil]; xt pd)
def nR (M:Nat→Bool) (κ : Kd) (H0 Hv0:Hp) (D:Ends) (Hv:Hp):Out→Prop
 | .nx e=>∀ σ H' Hv',R1 M H0 Hv0 e σ H' Hv'→gJ Hv Hv'→D.nx σ H'
 | .rt w=>∀ v H' Hv',cg H0 Hv0 H' Hv'→κ H0 H' Hv' w v→D.rt v H'
 | .bk e=>∀ σ H' Hv',R1 M H0 Hv0 e σ H' Hv'→gJ Hv Hv'→D.bk σ H'
 | .ct e=>∀ σ H' Hv',R1 M H0 Hv0 e σ H' Hv'→gJ Hv Hv'→D.ct σ H'
def AS (M:Nat→Bool) (κ : Kd) (t:TS) (m:Mi.S):Prop:=∀ H0 Hv0 e σ H Hv D,R1 M H0 Hv0 e σ H Hv→Fin (m e) (nR M κ H0 Hv0 D Hv)→t D σ H
section
variable {M:Nat→Bool} {κ : Kd} {t u:TS} {m n:Mi.S} {te:TE} {a b:Mi.E} {w:Mi.EW}
theorem bw:AS M κ XX Mi.bB:=fun H0 Hv0 e σ H Hv D I h=>h σ H Hv I (gJ.refl _)
theorem jN:AS M κ Q9 Mi.ji:=fun H0 Hv0 e σ H Hv D I h=>h
theorem aL (h1:AS M κ t m) (h2:AS M κ u n):AS M κ (Y8 t u) (Mi.aY m n):=fun H0 Hv0 e σ H Hv D I h =>
 h1 H0 Hv0 e σ H Hv _ I ((aq.mp h).mono fun o ho=>by
  cases o with
  | nx e'=>xt fun σ' H' Hv' I' s=>h2 H0 Hv0 e' σ' H' Hv' D I' (Fin.mono ho fun o z=>by
   cases o with
   | nx e2=>xt fun σ2 H2 Hv2 I2 s2=>z σ2 H2 Hv2 I2 (s.trans s2)
   | rt w=>xt z
   | bk e2=>xt fun σ2 H2 Hv2 I2 s2=>z σ2 H2 Hv2 I2 (s.trans s2)
   | ct e2=>xt fun σ2 H2 Hv2 I2 s2=>z σ2 H2 Hv2 I2 (s.trans s2))
  | rt w=>xt ho
  | bk e'=>xt ho
  | ct e'=>xt ho)
theorem t8 (ha:AE M qP te a):AS M κ (G9 te) (Mi.rT a):=fun H0 Hv0 e σ H Hv D I h =>
 ha e σ H Hv _ I.toR0 ((aq.mp h).mono fun d hd v H1 Hv1 g1 r=>hd σ H1 Hv1 (I.grow g1) g1.vis)
theorem bO (i:Nat) (hm:M i = false) (ha:AE M qV te a):AS M κ (Hb te (qK i)) (Mi.bZ i a):=fun H0 Hv0 e σ H Hv D I h =>
 ha e σ H Hv _ I.toR0 ((aq.mp h).mono fun d hd v H1 Hv1 g1 r=>hd _ H1 Hv1 ((I.grow g1).set hm r) g1.vis)
theorem Vj {K:Φ} (tg:Tg) (hm:∀ i∈wG tg,M i = false) (ha:AE M qV te a):AS M κ (Hb te (tgG K tg)) (Mi.Rp tg a):=fun H0 Hv0 e σ H Hv D I h =>
 ha e σ H Hv _ I.toR0 ((aq.mp h).mono fun d hd v H1 Hv1 g1 r =>
  Ec (P:=fun e1 σ1=>R1 M H0 Hv0 e1 σ1 H1 Hv1) g1.vw (fun j hj e1 σ1 d1 v1 r1 z=>r1.set (hm j hj) z) (I.grow g1) r ((aq.mp hd).mono fun e1 h1 σ1 I1=>h1 σ1 H1 Hv1 I1 g1.vis))
theorem dm (ha:AW M qV te w):AS M qV (VN te) (Mi.dJ w):=fun H0 Hv0 e σ H Hv D I h =>
 ha e σ H Hv _ I.toR0 ((aq.mp h).mono fun d hd v H1 Hv1 g1 r=>hd v H1 Hv1 (I.gw.trans g1) r)
theorem t7 (ha:AW M qN te w):AS M qN (VN te) (Mi.dJ w):=fun H0 Hv0 e σ H Hv D I h =>
 ha e σ H Hv _ I.toR0 ((aq.mp h).mono fun d hd v H1 Hv1 g1 r=>hd v H1 Hv1 (I.gw.trans g1) (KM.mono (κ:=qN) I.gw.old r))
theorem cV {tt:TT} {c:Mi.C} (hc:AT M tt c) (h1:AS M κ t m) (h2:AS M κ u n):AS M κ (Y9 tt t u) (Mi.iz c m n):=fun H0 Hv0 e σ H Hv D I h =>
 hc e σ H Hv _ I.toR0 ((aq.mp h).mono fun b hb H1 Hv1 g1=>by
  have up:∀ o,nR M κ H0 Hv0 D Hv o→nR M κ H0 Hv0 D Hv1 o:=fun o z=>by
   cases o with
   | nx e2=>xt fun σ2 H2 Hv2 I2 s2=>z σ2 H2 Hv2 I2 (g1.vis.trans s2)
   | rt w=>xt z
   | bk e2=>xt fun σ2 H2 Hv2 I2 s2=>z σ2 H2 Hv2 I2 (g1.vis.trans s2)
   | ct e2=>xt fun σ2 H2 Hv2 I2 s2=>z σ2 H2 Hv2 I2 (g1.vis.trans s2)
  cases b with
  | true=>xt FN (h1 H0 Hv0 e σ H1 Hv1 D (I.grow g1) (Fin.mono (Mi.Aw hb) up))
  | false=>xt FQ (h2 H0 Hv0 e σ H1 Hv1 D (I.grow g1) (Fin.mono (Mi.Ax hb) up)))
theorem nR.up {H0 Hv0 Hv Hv1:Hp} {D:Ends} (s:gJ Hv Hv1) {o:Out} (z:nR M κ H0 Hv0 D Hv o):nR M κ H0 Hv0 D Hv1 o:=by
 cases o with
 | nx e2=>xt fun σ2 H2 Hv2 I2 s2=>z σ2 H2 Hv2 I2 (s.trans s2)
 | rt w=>xt z
 | bk e2=>xt fun σ2 H2 Hv2 I2 s2=>z σ2 H2 Hv2 I2 (s.trans s2)
 | ct e2=>xt fun σ2 H2 Hv2 I2 s2=>z σ2 H2 Hv2 I2 (s.trans s2)
theorem kh {K:Φ} {wi:TI} {it:Mi.I} {tg:Tg} (hi:Ob M wi it) (hm:∀ i∈wG tg,M i = false) (hb:AS M κ t m):AS M κ (Za wi (tgG K tg) t) (Mi.nu it tg m):=fun H0 Hv0 e σ H Hv D I h =>
 hi e σ H Hv _ I.toR0 ((aq.mp h).mono fun ds h1 J H1 Hv1 P g1 O p1 per=>by
  rf ⟨fun i k σ' H'=>k = ds.length - i∧i≤ds.length∧∃ e' Hv',R1 M H0 Hv0 e' σ' H' Hv'∧P H' Hv'∧Fin (Mi.qu tg m (ds.drop i) e') (nR M κ H0 Hv0 D Hv'),
   ⟨ds.length,by simp,Nat.zero_le _,e,Hv1,I.grow g1,p1,by rw [List.drop_zero]; xt h1.mono fun o z=>z.up g1.vis⟩,?_⟩
  rintro i k σ' H' ⟨rfl,hle,e',Hv',I',pp,hf⟩
  by_cases hlt:i < ds.length
  ·rf .inr ⟨O.go i H' Hv' pp I'.vw hlt,fun σ2 H2=>∃ e2 Hv2,R1 M H0 Hv0 e2 σ2 H2 Hv2∧P H2 Hv2∧Fin (Mi.qu tg m (ds.drop (i + 1)) e2) (nR M κ H0 Hv0 D Hv2),
    fun σ2 H2 z=>⟨ds.length - (i + 1),by omega,rfl,hlt,z⟩,fun x H2 y=>?_⟩
   ob ⟨Hv2,d,g2,hd,rx⟩:=O.yld i H' Hv' x H2 pp I'.vw hlt y
   have I2:=I'.grow g2
   have hdr:ds.drop i = d :: ds.drop (i + 1):=by
    ob ⟨hl,e1⟩:=List.getElem?_eq_some_iff.mp hd
    rw [List.drop_eq_getElem_cons hl,e1]
   rw [hdr] at hf
   rf Ec (P:=fun e1 σ1=>R1 M H0 Hv0 e1 σ1 H2 Hv2) g2.vw (fun j hj e1 σ1 d1 v1 r1 z=>r1.set (hm j hj) z) I2 rx ((aq.mp hf).mono fun e1 h1 σ1 I1=>?_)
   rf hb H0 Hv0 e1 σ1 H2 Hv2 _ I1 ((aq.mp h1).mono fun o ho=>?_)
   cases o with
   | nx e2=>xt fun σ2 H3 Hv3 I3 s3=>⟨e2,Hv3,I3,per _ _ _ _ pp (g2.vis.trans s3) I3.vw,Fin.mono ho fun o z=>z.up (g2.vis.trans s3)⟩
   | ct e2=>xt fun σ2 H3 Hv3 I3 s3=>⟨e2,Hv3,I3,per _ _ _ _ pp (g2.vis.trans s3) I3.vw,Fin.mono ho fun o z=>z.up (g2.vis.trans s3)⟩
   | bk e2=>xt fun σ2 H3 Hv3 I3 s3=>ho σ2 H3 Hv3 I3 (g2.vis.trans s3)
   | rt w=>xt ho
  ·have hi:i = ds.length:=by omega
   subst hi
   rf .inl ⟨O.stop H' Hv' pp I'.vw,?_⟩
   rw [List.drop_of_length_le (Nat.le_refl _)] at hf
   xt hf σ' H' Hv' I' (gJ.refl _))
theorem Vi {tt:TT} {c:Mi.C} (k:Nat) (hc:AT M tt c) (hb:AS M κ t m):AS M κ (Q5 tt t) (Mi.El k c m):=fun H0 Hv0 e σ H Hv D I h=>by
 rf ⟨fun j σ' H'=>∃ e' Hv',R1 M H0 Hv0 e' σ' H' Hv'∧Fin (Mi.jW c m j e') (nR M κ H0 Hv0 D Hv'),⟨k,e,Hv,I,h⟩,?_⟩
 rintro j σ' H' ⟨e',Hv',I',hf⟩
 cases j with
 | zero=>xt hf.elim
 | succ j =>
  rf hc e' σ' H' Hv' _ I'.toR0 ((aq.mp hf).mono fun b hb' H1 Hv1 g1=>?_)
  cases b with
  | false=>xt FQ ((Mi.gG (Mi.Ax hb')) σ' H1 Hv1 (I'.grow g1) g1.vis)
  | true =>
   rf FN ⟨fun σ2 H2=>∃ e2 Hv2,R1 M H0 Hv0 e2 σ2 H2 Hv2∧Fin (Mi.jW c m j e2) (nR M κ H0 Hv0 D Hv2),fun σ2 H2 z=>⟨j,Nat.lt_succ_self j,z⟩,?_⟩
   rf hb H0 Hv0 e' σ' H1 Hv1 _ (I'.grow g1) ((aq.mp (Mi.Aw hb')).mono fun o ho=>?_)
   cases o with
   | nx e2=>xt fun σ2 H2 Hv2 I2 s2=>⟨e2,Hv2,I2,Fin.mono ho fun o z=>z.up (g1.vis.trans s2)⟩
   | ct e2=>xt fun σ2 H2 Hv2 I2 s2=>⟨e2,Hv2,I2,Fin.mono ho fun o z=>z.up (g1.vis.trans s2)⟩
   | bk e2=>xt fun σ2 H2 Hv2 I2 s2=>ho σ2 H2 Hv2 I2 (g1.vis.trans s2)
   | rt w=>xt ho
end
end A
namespace A
open PySem L2 PyProof.Rows
open Mi (D W Rs Fin aq Out Tg)
variable [Tb:iZ]
section
variable {M:Nat→Bool} {κ : Kd} {te:TE} {a b:Mi.E} {w:Mi.EW} {K:Φ}
theorem R1.write {H0 Hv0:Hp} {e:Mi.Env} {σ : L2.St} {H Hv:Hp} (I:R1 M H0 Hv0 e σ H Hv) {i:Nat} {w w':W} {p:Addr} {o:HO} (hm:M i = true) (he:e[i]? = some (some w)) (hs:σ[i]? = some (some (.ref p))) (c:fj Hv w' o):R1 M H0 Hv0 (e.set i (some w')) σ (upd H p o) Hv:=by
 have hp:∃ o',H p = some o'∧Hv p = none∧JC o':=by
  ob ⟨v,q,a,o',e1,q1,n,c'⟩:=I.own i w he hm
  rw [hs] at q; cases q; cases e1
  xt ⟨o',q1,n,c'.Yz⟩
 ob ⟨o',hp,hn,hcc⟩:=hp
 have h0:H0 p = none:=I.fresh i w p he hm hs
 have vw:Vw (upd H p o) Hv:=by
  rf ⟨fun b u q=>?_,fun b xs q=>?_,fun b z u q=>?_,I.vw.cd.put hp hcc c.nt,I.vw.nv⟩
  ·rw [aJ (aX q hn)]; xt I.vw.sub b u q
  ·by_cases hb:b = p
   ·subst hb; rw [aU] at q; cases q; xt c.cell.elim
   ·rw [aJ hb] at q; xt I.vw.tup b xs q
  ·by_cases hb:b = p
   ·subst hb; rw [aU] at q; cases q; xt c.cell.elim
   ·rw [aJ hb] at q; xt I.vw.frz b z u q
 have get:∀ {j:Nat} {w2:W},(e.set i (some w'))[j]? = some (some w2)→(i = j∧w' = w2)∨(i≠j∧e[j]? = some (some w2)):=fun {j w2} h=>by
  rcases jD h with ⟨x,y,_⟩ | z
  ·xt .inl ⟨x,Option.some.inj y⟩
  ·xt .inr z
 have get':∀ {j:Nat} {w2:W},(e.set i (some w'))[j]? = some (some w2)→∃ w3,e[j]? = some (some w3):=fun {j w2} h=>by
  rcases get h with ⟨x,_⟩ | ⟨_,z⟩
  ·subst x; xt ⟨w,he⟩
  ·xt ⟨w2,z⟩
 rf ⟨⟨vw,by rw [List.length_set]; xt I.len,fun j w2 h m=>?_,fun j w2 h m=>?_⟩,⟨I.gw.old.put h0 hp,I.gw.vis,vw,I.gw.hid⟩,fun j w2 x h m q=>?_,fun j k w1 w2 x y hjk h1 h2 m1 m2 q1 q2=>?_⟩
 ·rcases get h with ⟨rfl,_⟩ | ⟨_,z⟩
  ·rw [hm] at m; cases m
  ·xt I.nob j w2 z m
 ·rcases get h with ⟨rfl,rfl⟩ | ⟨n,z⟩
  ·xt ⟨.ref p,hs,p,o,rfl,aU,hn,c⟩
  ·ob ⟨v,q,x,u,e1,q1,n1,c1⟩:=I.own j w2 z m
   subst e1
   have:=I.sep i j w w2 p x n he z hm m hs q
   xt ⟨.ref x,q,x,u,rfl,by rw [aJ (Ne.symm this)]; xt q1,n1,c1⟩
 ·ob ⟨w3,z⟩:=get' h
  xt I.fresh j w3 x z m q
 ·ob ⟨w3,z3⟩:=get' h1
  ob ⟨w4,z4⟩:=get' h2
  xt I.sep j k w3 w4 x y hjk z3 z4 m1 m2 q1 q2
theorem R1.cell {H0 Hv0:Hp} {e:Mi.Env} {σ : L2.St} {H Hv:Hp} (I:R1 M H0 Hv0 e σ H Hv) {i:Nat} {w:W} (hm:M i = true) (he:e[i]? = some (some w)):∃ p o,σ[i]? = some (some (.ref p))∧H p = some o∧Hv p = none∧H0 p = none∧fj Hv w o:=by
 ob ⟨v,q,p,o,rfl,q1,n,c⟩:=I.own i w he hm
 xt ⟨p,o,q,q1,n,I.fresh i w p he hm q,c⟩
theorem yN {e:Mi.Env} {i:Nat} {k:List D→Prop} (h:Fin (Mi.getL e i) k):∃ ds,e[i]? = some (some (.d (.lst ds)))∧k ds:=by
 unfold Mi.getL at h
 split at h
 ·xt ⟨_,‹_›,h⟩
 ·xt h.elim
theorem R1.list {H0 Hv0:Hp} {e:Mi.Env} {σ : L2.St} {H Hv:Hp} (I:R1 M H0 Hv0 e σ H Hv) {i:Nat} {ds:List D} (hm:M i = true) (he:e[i]? = some (some (.d (.lst ds)))):∃ p xs,σ[i]? = some (some (.ref p))∧H p = some (.lst xs)∧Hv p = none∧P2 (Rep Hv) ds xs:=by
 ob ⟨p,o,q,q1,n,_,c⟩:=I.cell hm he
 cases o with
 | lst xs=>xt ⟨p,xs,q,q1,n,c⟩
 | _=>xt c.elim
theorem R1.name {H0 Hv0:Hp} {e:Mi.Env} {σ : L2.St} {H Hv H1 Hv1:Hp} (I:R1 M H0 Hv0 e σ H Hv) (g:cg H Hv H1 Hv1) {i:Nat} {w:W} {v:V} (hm:M i = true) (k:qN H H1 Hv1 w v):R1 M H0 Hv0 (e.set i (some w)) (σ.set i (some v)) H1 Hv1:=by
 ob ⟨p,o,rfl,hf,hp,hn,c⟩:=k
 have I1:=I.grow g
 have other:∀ {j:Nat} {w2:W} {x:Addr},e[j]? = some (some w2)→M j = true→σ[j]? = some (some (.ref x))→x≠p:=fun {j w2 x} h m q=>by
  ob ⟨p',o',q',q1,_⟩:=I.cell m h
  rw [q] at q'; cases q'
  xt aX q1 hf
 rf ⟨⟨I1.vw,by rw [List.length_set,List.length_set]; xt I.len,fun j w2 h m=>?_,fun j w2 h m=>?_⟩,I1.gw,fun j w2 x h m q=>?_,fun j k w1 w2 x y hjk h1 h2 m1 m2 q1 q2=>?_⟩
 ·rcases jD h with ⟨rfl,_⟩ | ⟨n,z⟩
  ·rw [hm] at m; cases m
  ·ob ⟨u,q,r⟩:=I1.nob j w2 z m
   xt ⟨u,by rw [List.getElem?_set_ne n]; xt q,r⟩
 ·rcases jD h with ⟨rfl,h,l⟩ | ⟨n,z⟩
  ·cases h
   xt ⟨.ref p,by rw [List.getElem?_set_self (by rw [I.len]; xt l)],p,o,rfl,hp,hn,c⟩
  ·ob ⟨u,q,r⟩:=I1.own j w2 z m
   xt ⟨u,by rw [List.getElem?_set_ne n]; xt q,r⟩
 ·rcases jD h with ⟨rfl,h,l⟩ | ⟨n,z⟩
  ·rw [List.getElem?_set_self (by rw [I.len]; xt l)] at q
   cases q
   xt I.gw.old.free hf
  ·rw [List.getElem?_set_ne n] at q
   xt I.fresh j w2 x z m q
 ·rcases jD h1 with ⟨rfl,_,l⟩ | ⟨n,z⟩
  ·rw [List.getElem?_set_self (by rw [I.len]; xt l)] at q1
   cases q1
   rcases jD h2 with ⟨rfl,_,_⟩ | ⟨n2,z2⟩
   ·xt absurd rfl hjk
   ·rw [List.getElem?_set_ne n2] at q2
    xt Ne.symm (other z2 m2 q2)
  ·rw [List.getElem?_set_ne n] at q1
   rcases jD h2 with ⟨rfl,_,l⟩ | ⟨n2,z2⟩
   ·rw [List.getElem?_set_self (by rw [I.len]; xt l)] at q2
    cases q2
    xt other z m1 q1
   ·rw [List.getElem?_set_ne n2] at q2
    xt I.sep j k w1 w2 x y hjk z z2 m1 m2 q1 q2
theorem m9 (i:Nat) (hm:M i = true) (ha:AE M qN te a):AS M κ (Hb te (qK i)) (Mi.bZ i a):=fun H0 Hv0 e σ H Hv D I h =>
 ha e σ H Hv _ I.toR0 ((aq.mp h).mono fun d hd v H1 Hv1 g1 r=>hd _ H1 Hv1 (I.name g1 hm r) g1.vis)
theorem NB (i:Nat) (hm:M i = true) (ha:AW M qN te w):AS M κ (Hb te (qK i)) (Mi.LK i w):=fun H0 Hv0 e σ H Hv D I h =>
 ha e σ H Hv _ I.toR0 ((aq.mp h).mono fun d hd v H1 Hv1 g1 r=>hd _ H1 Hv1 (I.name g1 hm r) g1.vis)
theorem Vc:AW M qN Rb (fun _=>.ok (.dk [])):=fun e σ H Hv Q I h p hp =>
 h _ _ Hv (.Kq I.vw trivial hp) ⟨p,.dK [],rfl,hp,aU,oX I.vw hp,.nil⟩
theorem Vb:AW M qN Ra (fun _=>.ok (.dt [])):=fun e σ H Hv Q I h p hp =>
 h _ _ Hv (.Kq I.vw trivial hp) ⟨p,.dT [],rfl,hp,aU,oX I.vw hp,.nil⟩
theorem fP (i:Nat) (hm:M i = true) (ha:AE M qV te a):AS M κ (G9 (tBM K "list" Em (uG i) (iW te rD))) (Mi.bV i a):=fun H0 Hv0 e σ H Hv D I h=>by
 ob ⟨d,hd,h⟩:=lJ (aq.mp h)
 ob ⟨ds,he,h⟩:=yN (aq.mp h)
 ob ⟨hz,h⟩:=Mi.aV h
 ob ⟨p,xs,q,q1,n,c⟩:=I.list hm he
 rf ⟨.ref p,q,.inl ⟨rfl,xs,.inl (.inl q1)⟩,ha e σ H Hv _ I.toR0 (by
  rw [hd]
  intro v H1 Hv1 g1 r
  have I1:=I.grow g1
  rf ⟨p,xs,v,rfl,rfl,g1.old.at q1,by rw [← c.len,sizeLine_eq]; xt hz,?_⟩
  xt h σ _ Hv1 (I1.write hm he q (show fj Hv1 (.d (.lst (ds ++ [d]))) (.lst (xs ++ [v])) from (cL g1.vis c).append (.cons r .nil))) g1.vis)⟩
theorem jn {α : Type} {o:Option α} {k:α→Prop} (h:Fin (Mi.pH o) k):∃ x,o = some x∧k x:=by
 cases o with
 | some x=>xt ⟨x,rfl,h⟩
 | none=>xt h.elim
theorem abm {n:Nat} {i:Int} {k:Nat} (h:Mi.BL n i = some k):seqIndex? i n = some k:=by
 unfold Mi.BL at h
 split at h
 ·split at h
  ·rw [seqIndex_of ω ω]; xt h
  ·cases h
 ·split at h
  ·rw [seqIndex_neg ω ω]; xt h
  ·cases h
theorem RP {ds:List D} {i:Int} {k:D×List D→Prop} (h:Fin (Mi.Ht ds i) k):-(2 ^ 63)≤i∧i < 2 ^ 63∧∃ j d,Mi.BL ds.length i = some j∧ds[j]? = some d∧k (d,ds.eraseIdx j):=by
 ob ⟨⟨h1,h2⟩,h⟩:=Mi.aV h
 ob ⟨j,hj,h⟩:=jn (aq.mp h)
 ob ⟨d,hd,h⟩:=jn (aq.mp h)
 xt ⟨h1,h2,j,d,hj,hd,h⟩
theorem Gv (x y:Nat) (hxy:x≠y) (hx:M x = true) (hy:M y = true) (ha:AE M qP te a):AS M κ (G9 (tBM K "list" Em (uG x) (iW (tBM K "list" Rz (uG y) (iW te rD)) rD))) (Mi.mO x y a):=fun H0 Hv0 e σ H Hv D I h=>by
 ob ⟨z,hz,h⟩:=lJ (aq.mp h)
 ob ⟨i,rfl,h⟩:=Gw (aq.mp h)
 ob ⟨ds,he,h⟩:=yN (aq.mp h)
 ob ⟨h1,h2,j,d,hj,hd,h⟩:=RP (aq.mp h)
 ob ⟨es,he2,h⟩:=yN (aq.mp h)
 ob ⟨hsz,h⟩:=Mi.aV h
 have acx:e[x]? = some (some (.d (.lst es))):=by
  have he2:(e.set y (some (.d (.lst (ds.eraseIdx j)))))[x]? = _:=he2
  rwa [List.getElem?_set_ne (Ne.symm hxy)] at he2
 ob ⟨p,xs,q,q1,n,c⟩:=I.list hy he
 ob ⟨p',xs',q',q1',n',c'⟩:=I.list hx acx
 have hpp:p'≠p:=I.sep x y _ _ p' p hxy acx he hx hy q' q
 rf ⟨.ref p',q',.inl ⟨rfl,xs',.inl (.inl q1')⟩,.ref p,q,.inl ⟨rfl,xs,.inl (.inl q1)⟩,ha e σ H Hv _ I.toR0 (by
  rw [hz]
  intro v H1 Hv1 g1 r
  have I1:=I.grow g1
  cases RD.int r
  ob ⟨u,hu,ru⟩:=c.getL hd
  rw [c.len] at hj
  rf ⟨p,xs,i,j,u,rfl,rfl,g1.old.at q1,h1,h2,abm hj,hu,?_⟩
  have I2:=I1.write hy he q (show fj Hv1 (.d (.lst (ds.eraseIdx j))) (.lst (xs.eraseIdx j)) from (cL g1.vis c).erase j)
  rf ⟨p',xs',u,rfl,rfl,by rw [aJ hpp]; xt g1.old.at q1',by rw [← c'.len,sizeLine_eq]; xt hsz,?_⟩
  xt h σ _ Hv1 (I2.write hx he2 q' (show fj Hv1 (.d (.lst (es ++ [d]))) (.lst (xs' ++ [u])) from (cL g1.vis c').append (.cons (jE g1.vis ru) .nil))) g1.vis)⟩
theorem Jr {tk:TE} {k:Mi.E} (x:Nat) (hx:M x = true) (ha:AE M qV te a) (hk:AE M qP tk k):AS M κ (Hb te (acC (uG x) tk X7)) (Mi.ou x k a):=fun H0 Hv0 e σ H Hv D I h=>by
 ob ⟨d,hd,h⟩:=lJ (aq.mp h)
 ob ⟨z,hz,h⟩:=lJ (aq.mp h)
 ob ⟨i,rfl,h⟩:=Gw (aq.mp h)
 ob ⟨ds,he,h⟩:=yN (aq.mp h)
 ob ⟨j,hj,h⟩:=jn (aq.mp h)
 ob ⟨p,xs,q,q1,n,c⟩:=I.list hx he
 rf ha e σ H Hv _ I.toR0 (by
  rw [hd]
  intro v H1 Hv1 g1 r
  rf ⟨.ref p,q,hk e σ H1 Hv1 _ (I.toR0.grow g1) (by
   rw [hz]
   intro v2 H2 Hv2 g2 r2
   cases RD.int r2
   have I2:=(I.grow g1).grow g2
   rw [c.len] at hj
   rf ⟨p,xs,i,j,rfl,rfl,g2.old.at (g1.old.at q1),hj,?_⟩
   xt h σ _ Hv2 (I2.write hx he q (show fj Hv2 (.d (.lst (ds.set j d))) (.lst (xs.set j v)) from P2.set (jE g2.vis r) j (cL (g1.trans g2).vis c))) (g1.trans g2).vis)⟩)
theorem mG (i:Nat) (hm:M i = true):AS M qN (VN (uG i)) (Mi.dJ (Mi.wV i)):=fun H0 Hv0 e σ H Hv D I h=>by
 ob ⟨w,he,h⟩:=Lr (aq.mp h)
 ob ⟨p,o,q,q1,n,h0,c⟩:=I.cell hm he
 xt ⟨.ref p,q,h _ H Hv I.gw ⟨p,o,rfl,h0,q1,n,c⟩⟩
theorem MP {κ':Type} [DecidableEq κ'] {H:Hp} {k:κ'} {kvs:List (κ'×D)} {kv:List (κ'×V)} (h:JG H kvs kv):match Mi.Bs kvs k with
 | some d=>∃ v,uE kv k = some v∧Rep H d v
 | none=>uE kv k = none:=by
 unfold Mi.Bs uE
 induction h with
 | nil=>rfl
 | @cons p q l m hpq t ih =>
  rw [List.find?_cons,List.find?_cons,hpq.1]
  by_cases hk:q.1 = k
  ·rw [decide_eq_true hk]
   xt ⟨q.2,rfl,hpq.2⟩
  ·rw [decide_eq_false hk]
   xt ih
theorem MT {κ':Type} [DecidableEq κ'] {H:Hp} {k:κ'} {d:D} {v:V} (r:Rep H d v) {kvs:List (κ'×D)} {kv:List (κ'×V)} (h:JG H kvs kv):JG H (Mi.putK k d kvs) (L2.putK kv k v):=by
 have e:(kvs.any fun x=>decide (x.1 = k)) = (kv.any fun x=>decide (x.1 = k)):=by
  induction h with
  | nil=>rfl
  | @cons p q l m hpq t ih=>rw [List.any_cons,List.any_cons,ih,hpq.1]
 unfold Mi.putK L2.putK
 rw [e]
 split
 ·rename_i hh
  clear hh e
  induction h with
  | nil=>xt .nil
  | @cons p q l m hpq t ih =>
   rw [List.map_cons,List.map_cons]
   rf .cons ?_ ih
   ·by_cases hk:q.1 = k
    ·rw [if_pos hk,if_pos (hpq.1.trans hk)]; xt ⟨hpq.1,r⟩
    ·rw [if_neg hk,if_neg (fun z=>hk (hpq.1.symm.trans z))]; xt hpq
 ·xt P2.append h (.cons ⟨rfl,r⟩ .nil)
end
end A
namespace A
open PySem L2 PyProof.Rows
open Mi (D W Rs Fin aq Out Tg)
variable [Tb:iZ]
section
variable {X:Cx} {K:Φ}
def V8:R2:=fun x y H Q=>∃ i j,x = .str i∧y = .str j∧i.length + j.length≤sizeLine∧Q (.str (i ++ j)) H
theorem Tj {pins:List (Addr×Obj)} {σ : L2.St} {H:Hp} {s:Shared} {a:Addr} {xs:List V} (I:Inv X pins σ H s) (h:Lst H a xs):∃ (its:List Value) (n:Nat),Vals xs its∧xs.length≤sizeLine∧s.heap.get? a = some { cls:=.type "list", data:=.seq its.toArray n }:=by
 rcases h with h | ⟨o,h⟩
 ·ob ⟨z,its,n,r,e⟩:=I.hok a _ h
  xt ⟨its,n,r,z,e⟩
 ·ob ⟨_,z,its,n,r,e⟩:=I.hok a _ h
  xt ⟨its,n,r,z,e⟩
def Yg:R2:=fun x y H Q=>∃ l b xs zs,x = .ref l∧y = .ref b∧Lst H l xs∧Lst H b zs∧xs.length + zs.length≤sizeLine∧∀ p,H p = none→Q (.ref p) (upd H p (.lst (xs ++ zs)))
theorem Wn:pR X (binaryOp .Add) Yg:=by
 intro pins s σ H x y v u Q I rx ry h
 ob ⟨l,b,xs,zs,rfl,rfl,hH,hB,hz,q⟩:=h
 cases rx
 cases ry
 ob ⟨its,n,r,z,e⟩:=Tj I hH
 ob ⟨its2,n2,r2,z2,e2⟩:=Tj I hB
 have hl:=r.length
 have hl2:=r2.length
 rf PySem.P.add_list e e2 ?_ (by rw [List.size_toArray,List.size_toArray]; omega)
 have ea:its.toArray ++ its2.toArray = (its ++ its2).toArray:=by simp
 rw [ea]
 xt ⟨.ref _,_,I.adN (t':=s.toks) (r.append r2) (by rw [List.length_append]; omega),rfl,q _ I.fresh⟩
def Yh:R2:=fun x y H Q=>Qz (fun i j=>.int (i + j)) x y H Q∨V8 x y H Q∨Yg x y H Q
theorem cz:pR X (binaryOp .Add) Yh:=ZJ.or (pR.or Ka Wn)
theorem Ff {H Hv:Hp} (vw:Vw H Hv) {ds:List D} {xs:List V} (r:P2 (Rep Hv) ds xs) {p:Addr} (hp:H p = none):cg H Hv (upd H p (.lst xs)) Hv∧qN H (upd H p (.lst xs)) Hv (.d (.lst ds)) (.ref p) :=
 ⟨.Kq vw trivial hp,p,.lst xs,rfl,hp,aU,oX vw hp,r⟩
theorem S5 {H Hv:Hp} (vw:Vw H Hv) {ds:List D} {xs:List V} (r:P2 (Rep Hv) ds xs) {p:Addr} (hp:H p = none):cg H Hv (upd H p (.lst xs)) (upd Hv p (.lst xs))∧qV H (upd H p (.lst xs)) (upd Hv p (.lst xs)) (.d (.lst ds)) (.ref p):=by
 have g:cg H Hv (upd H p (.lst xs)) (upd Hv p (.lst xs)):=.new vw hp
 xt ⟨g,nF.mpr ⟨p,xs,rfl,.inl aU,cL g.vis r⟩⟩
theorem Fe {H Hv:Hp} (vw:Vw H Hv) {ds:List D} {xs:List V} (r:P2 (Rep Hv) ds xs) {p:Addr} (hp:H p = none):cg H Hv (upd H p (.tup xs)) (upd Hv p (.tup xs))∧qV H (upd H p (.tup xs)) (upd Hv p (.tup xs)) (.d (.tup ds)) (.ref p):=by
 have g:cg H Hv (upd H p (.tup xs)) (upd Hv p (.tup xs)):=.new vw hp
 xt ⟨g,jd.mpr ⟨p,xs,rfl,aU,cL g.vis r⟩⟩
theorem gH:B2 qV Yh Mi.dj:=fun x y v u H Hv Q vw rx ry h=>by
 cases x with
 | int i=>cases y with
  | int j=>cases RD.int rx; cases RD.int ry; xt .inl ⟨i,j,rfl,rfl,h _ H Hv (.refl vw) iK⟩
  | _=>xt h.elim
 | str i=>cases y with
  | str j =>
   cases RD.str rx; cases RD.str ry
   ob ⟨hz,h⟩:=Mi.aV h
   xt .inr (.inl ⟨i,j,rfl,rfl,by rw [sizeLine_eq]; xt hz,h _ H Hv (.refl vw) wW⟩)
  | _=>xt h.elim
 | lst a=>cases y with
  | lst b =>
   ob ⟨hz,h⟩:=Mi.aV h
   ob ⟨p,xs,rfl,l1,r1⟩:=RD.lst vw rx
   ob ⟨q,ys,rfl,l2,r2⟩:=RD.lst vw ry
   rf .inr (.inr ⟨p,q,xs,ys,rfl,rfl,l1,l2,by rw [← r1.len,← r2.len,sizeLine_eq]; xt hz,fun a ha=>?_⟩)
   ob ⟨g,k⟩:=S5 vw (r1.append r2) ha
   xt h _ _ _ g k
  | _=>xt h.elim
 | _=>cases y <;> xt h.elim
theorem UW:B2 qV (Qz fun i j=>.int (i - j)) Mi.yz:=fun x y v u H Hv Q vw rx ry h=>by
 cases x with
 | int i=>cases y with
  | int j=>cases RD.int rx; cases RD.int ry; xt ⟨i,j,rfl,rfl,h _ H Hv (.refl vw) iK⟩
  | _=>xt h.elim
 | _=>cases y <;> xt h.elim
theorem nP:B2 qV (rI XN fun i j=>.int (i * j)) Mi.cQ:=fun x y v u H Hv Q vw rx ry h=>by
 cases x with
 | int i=>cases y with
  | int j=>cases RD.int rx; cases RD.int ry; ob ⟨hz,h⟩:=Mi.aV h; xt ⟨i,j,rfl,rfl,hz,h _ H Hv (.refl vw) iK⟩
  | _=>xt h.elim
 | _=>cases y <;> xt h.elim
theorem jz:B2 qV (rI YM fun i j=>.int (i / j)) Mi.dC:=fun x y v u H Hv Q vw rx ry h=>by
 cases x with
 | int i=>cases y with
  | int j=>cases RD.int rx; cases RD.int ry; ob ⟨hz,h⟩:=Mi.aV h; xt ⟨i,j,rfl,rfl,hz,h _ H Hv (.refl vw) iK⟩
  | _=>xt h.elim
 | _=>cases y <;> xt h.elim
theorem dZ:B2 qV (rI (fun _ j=>0 < j) fun i j=>.int (i % j)) Mi.bT:=fun x y v u H Hv Q vw rx ry h=>by
 cases x with
 | int i=>cases y with
  | int j=>cases RD.int rx; cases RD.int ry; ob ⟨hz,h⟩:=Mi.aV h; xt ⟨i,j,rfl,rfl,hz,h _ H Hv (.refl vw) iK⟩
  | _=>xt h.elim
 | _=>cases y <;> xt h.elim
theorem acN:B1 qV (rU fun i=>.int (-i)) Mi.W7:=fun x v H Hv Q vw rx h=>by
 cases x with
 | int i=>cases RD.int rx; xt ⟨i,rfl,h _ H Hv (.refl vw) iK⟩
 | _=>xt h.elim
def abz:R2:=fun x y H Q=>Qz (fun i j=>.bl (decide (i < j))) x y H Q∨∃ i j,x = .str i∧y = .str j∧Q (.bl (decide (i.cps.toList < j.cps.toList))) H
theorem zU:pR X (compareOp .Lt) abz:=abQ.or O2
def abK:R2:=fun x y H Q=>Qz (fun i j=>.bl (decide (j < i))) x y H Q∨∃ i j,x = .str i∧y = .str j∧Q (.bl (decide (j.cps.toList < i.cps.toList))) H
theorem R8:pR X (compareOp .Gt) abK:=abR.or O4
theorem U0:B2 qV abz Mi.BR:=fun x y v u H Hv Q vw rx ry h=>by
 cases x with
 | int i=>cases y with
  | int j=>cases RD.int rx; cases RD.int ry; xt .inl ⟨i,j,rfl,rfl,h _ H Hv (.refl vw) gP⟩
  | _=>xt h.elim
 | str i=>cases y with
  | str j=>cases RD.str rx; cases RD.str ry; xt .inr ⟨i,j,rfl,rfl,h _ H Hv (.refl vw) gP⟩
  | _=>xt h.elim
 | _=>cases y <;> xt h.elim
theorem acO:B2 qV abK Mi.dGt:=fun x y v u H Hv Q vw rx ry h=>by
 cases x with
 | int i=>cases y with
  | int j=>cases RD.int rx; cases RD.int ry; xt .inl ⟨i,j,rfl,rfl,h _ H Hv (.refl vw) gP⟩
  | _=>xt h.elim
 | str i=>cases y with
  | str j=>cases RD.str rx; cases RD.str ry; xt .inr ⟨i,j,rfl,rfl,h _ H Hv (.refl vw) gP⟩
  | _=>xt h.elim
 | _=>cases y <;> xt h.elim
theorem Xj:B2 qV (Qz fun i j=>.bl (decide (i≤j))) Mi.Vv:=fun x y v u H Hv Q vw rx ry h=>by
 cases x with
 | int i=>cases y with
  | int j=>cases RD.int rx; cases RD.int ry; xt ⟨i,j,rfl,rfl,h _ H Hv (.refl vw) gP⟩
  | _=>xt h.elim
 | _=>cases y <;> xt h.elim
def Wa (K:Φ) (neg:Bool):R2:=fun x y H Q=>∃ d e,L2.Rep K H d x∧L2.Rep K H e y∧d.dep≤16∧Q (.bl (if neg then !Mi.cI d e else Mi.cI d e)) H
theorem xu:B2 qV (Wa K false) Mi.sS:=fun x y v u H Hv Q vw rx ry h=>by
 ob ⟨hz,h⟩:=Mi.aV h
 xt ⟨x,y,qd K (RD.full vw rx),qd K (RD.full vw ry),hz,h _ H Hv (.refl vw) gP⟩
theorem K9:B2 qV (Wa K true) Mi.GQ:=fun x y v u H Hv Q vw rx ry h=>by
 ob ⟨hz,h⟩:=Mi.aV h
 xt ⟨x,y,qd K (RD.full vw rx),qd K (RD.full vw ry),hz,h _ H Hv (.refl vw) gP⟩
def abG (neg:Bool):R2:=fun x y H Q=>y = .non∧Q (.bl (if neg then !decide (x = .non) else decide (x = .non))) H
theorem R7:pR X (compareOp .IsNot) (abG true):=Wm
theorem Zo {H Hv:Hp} {d:D} {v:V} (r:RD H Hv d v):decide (v = .non) = Mi.vQ d:=by
 cases d with
 | non=>cases RD.non r; rfl
 | bl b=>cases RD.bl r; rfl
 | int b=>cases RD.int r; rfl
 | str b=>cases RD.str r; rfl
 | lst ds =>
  rcases r with r | ⟨a,o,e,_⟩
  ·ob ⟨a,xs,e,_⟩:=nF.mp r
   subst e; rfl
  ·subst e; rfl
 | tup ds =>
  ob ⟨a,xs,e,_⟩:=jd.mp (r.Ov fun _ z=>by cases z)
  subst e; rfl
theorem Xk:B2 qV (abG true) Mi.Bb:=fun x y v u H Hv Q vw rx ry h=>by
 cases y with
 | non =>
  cases RD.non ry
  rf ⟨rfl,?_⟩
  show Q (.bl (!decide (v = .non))) H
  rw [Zo rx]
  xt h _ H Hv (.refl vw) gP
 | _=>xt h.elim
def abI (K:Φ):R2:=fun x y H Q=>V9 K false x y H Q∨abJ false x y H Q
theorem J9 (hu:X.A.units + 64 < cLine):pR X (compareOp .In) (abI X.K):=(ZF hu).or ZG
theorem Mg {H:Hp} {ds:List D} {xs:List V} (h:P2 (Rep H) ds xs):L2.bU K H ds xs:=yG K (mQ.mpr h)
theorem aaD:B2 qV (abI K) Mi.Qc:=fun x y v u H Hv Q vw rx ry h=>by
 cases y with
 | lst ds =>
  ob ⟨hz,h⟩:=Mi.aV h
  ob ⟨p,xs,rfl,l1,r1⟩:=RD.lst vw ry
  xt .inl ⟨p,xs,x,ds,rfl,.inl l1.sq,qd K (RD.full vw rx),Mg (cL vw.sub r1),hz,h _ H Hv (.refl vw) gP⟩
 | tup ds =>
  ob ⟨hz,h⟩:=Mi.aV h
  ob ⟨p,xs,rfl,l1,_,r1⟩:=RD.tup vw ry
  xt .inl ⟨p,xs,x,ds,rfl,.inr (.inl (.inl l1)),qd K (RD.full vw rx),Mg (cL vw.sub r1),hz,h _ H Hv (.refl vw) gP⟩
 | str z=>cases x with
  | str c =>
   ob ⟨hz,h⟩:=Mi.aV h
   cases RD.str rx; cases RD.str ry
   ob ⟨⟨l⟩⟩:=c
   match l,hz with
   | [c],_=>xt .inr ⟨c,z,rfl,rfl,h _ H Hv (.refl vw) gP⟩
  | _=>xt h.elim
 | _=>xt h.elim
theorem jM:B2 qV (V9 K true) Mi.dB:=fun x y v u H Hv Q vw rx ry h=>by
 cases y with
 | lst ds =>
  ob ⟨hz,h⟩:=Mi.aV h
  ob ⟨p,xs,rfl,l1,r1⟩:=RD.lst vw ry
  xt ⟨p,xs,x,ds,rfl,.inl l1.sq,qd K (RD.full vw rx),Mg (cL vw.sub r1),hz,h _ H Hv (.refl vw) gP⟩
 | tup ds =>
  ob ⟨hz,h⟩:=Mi.aV h
  ob ⟨p,xs,rfl,l1,_,r1⟩:=RD.tup vw ry
  xt ⟨p,xs,x,ds,rfl,.inr (.inl (.inl l1)),qd K (RD.full vw rx),Mg (cL vw.sub r1),hz,h _ H Hv (.refl vw) gP⟩
 | _=>xt h.elim
theorem aaH {α : Type} (xs:List α) (i:Int):Mi.wy xs i = L2.wy xs i:=rfl
theorem YD {α β : Type} {F:α→β→Prop} {l:List α} {m:List β} (h:P2 F l m) {i:Int} {a:α} (e:Mi.wy l i = some a):∃ b,L2.wy m i = some b∧F a b:=by
 unfold Mi.wy at e
 cases hj:Mi.BL l.length i with
 | none=>rw [hj] at e; cases e
 | some j =>
  rw [hj] at e
  have e:l[j]? = some a:=e
  ob ⟨b,hb,r⟩:=h.getL e
  rf ⟨b,?_,r⟩
  rw [← aaH]
  unfold Mi.wy
  rw [← h.len,hj]; xt hb
theorem gB:B2 qV (rIx K) Mi.dU:=fun x y v u H Hv Q vw rx ry h=>by
 cases y with
 | int i =>
  cases RD.int ry
  cases x with
  | lst ds =>
   ob ⟨d,e,h⟩:=jn h
   ob ⟨p,xs,rfl,l1,r1⟩:=RD.lst vw rx
   ob ⟨z,ez,rz⟩:=YD r1 e
   xt .inl ⟨p,xs,i,z,rfl,rfl,l1.sq,ez,h z H Hv (.refl vw) rz⟩
  | tup ds =>
   ob ⟨d,e,h⟩:=jn h
   ob ⟨p,xs,rfl,l1,_,r1⟩:=RD.tup vw rx
   ob ⟨z,ez,rz⟩:=YD r1 e
   xt .inr (.inl ⟨p,xs,i,z,rfl,rfl,.inl (.inl l1),ez,h z H Hv (.refl vw) rz⟩)
  | str z =>
   cases RD.str rx
   ob ⟨hz,h⟩:=Mi.aV h
   ob ⟨c,e,h⟩:=jn (aq.mp h)
   xt .inr (.inr ⟨z,i,c,rfl,rfl,by rw [sizeLine_eq]; xt hz,e,h _ H Hv (.refl vw) wW⟩)
  | _=>xt h.elim
 | _=>cases x <;> xt h.elim
theorem aax {F:D→V→Prop} {l:List D} {m:List V} (h:P2 F l m) (lo hi:Option Int):P2 F (Mi.qy l lo hi) (L2.Qd m lo hi):=by
 unfold Mi.qy L2.Qd
 rw [h.len]
 xt (h.drop _).take _
def abu (K:Φ):V→Option Int→Option Int→Hp→VK→Prop:=fun x lo hi H Q=>abw K x lo hi H Q∨abv x lo hi H Q
theorem JW:YL X (abu X.K):=V1.or Zf
theorem Xd (z:Str) (lo hi:Option Int):Qe z lo hi = Mi.j8 z lo hi:=by
 unfold Qe Mi.j8 Mi.qy
 have:z.cps.toList.length = z.length:=by simp [Str.length]
 rw [this]; rfl
theorem Bf:BS qV (abu K) Mi.IV:=fun x lo hi v H Hv Q vw rx h=>by
 cases x with
 | lst ds =>
  ob ⟨p,xs,rfl,l1,r1⟩:=RD.lst vw rx
  rf .inl ⟨p,xs,rfl,l1.sq,fun a ha=>?_⟩
  ob ⟨g,k⟩:=S5 vw (aax r1 lo hi) ha
  xt h _ _ _ g k
 | str z =>
  cases RD.str rx
  ob ⟨hz,h⟩:=Mi.aV h
  xt .inr ⟨z,rfl,by rw [sizeLine_eq]; xt hz,h _ H Hv (.refl vw) (by rw [Xd]; xt wW)⟩
 | _=>xt h.elim
theorem mW {F:D→V→Prop} {d:D} {vs:List V} (h:P2 F [d] vs):∃ v,vs = [v]∧F d v:=by
 cases h with
 | cons r t=>cases t; xt ⟨_,rfl,r⟩
theorem R5 {F:D→V→Prop} {d e:D} {vs:List V} (h:P2 F [d,e] vs):∃ v u,vs = [v,u]∧F d v∧F e u:=by
 cases h with
 | cons r t=>cases t with
  | cons r' t=>cases t; xt ⟨_,_,rfl,r,r'⟩
def abA (K:Φ):List V→Hp→VK→Prop:=fun xs H Q=>∃ x n,xs = [x]∧ac0 K x H n∧Q (.int n) H
theorem dN:ir X (.builtin "len") (abA X.K):=UG
theorem fO:BN qV (abA K) Mi.iR:=fun ds vs H Hv Q vw r h=>by
 match ds,r,h with
 | [.lst ds],r,h =>
  ob ⟨v,ev,rr⟩:=mW r
  subst ev
  replace r:=rr
  ob ⟨p,xs,rfl,l1,r1⟩:=RD.lst vw r
  rf ⟨_,xs.length,rfl,.inl ⟨xs,l1.sq,rfl⟩,?_⟩
  rw [← r1.len]
  xt h _ H Hv (.refl vw) iK
 | [.tup ds],r,h =>
  ob ⟨v,ev,rr⟩:=mW r
  subst ev
  replace r:=rr
  ob ⟨p,xs,rfl,l1,_,r1⟩:=RD.tup vw r
  rf ⟨_,xs.length,rfl,.inr ⟨xs,.inl (.inl l1),rfl⟩,?_⟩
  rw [← r1.len]
  xt h _ H Hv (.refl vw) iK
 | [.str z],r,h =>
  ob ⟨v,ev,rr⟩:=mW r
  subst ev
  replace r:=rr
  cases RD.str r
  ob ⟨hz,h⟩:=Mi.aV h
  xt ⟨_,z.length,rfl,⟨by rw [sizeLine_eq]; xt hz,rfl⟩,h _ H Hv (.refl vw) iK⟩
def aby:List V→Hp→VK→Prop:=fun xs H Q=>∃ i j z,xs = [.int i,.int j]∧max i j = z∧Q (.int z) H
def abx:List V→Hp→VK→Prop:=fun xs H Q=>∃ i j z,xs = [.int i,.int j]∧min i j = z∧Q (.int z) H
theorem Dc (hc:X.calm = true):ir X (.builtin "max") aby:=K8 hc
theorem CZ (hc:X.calm = true):ir X (.builtin "min") abx:=K7 hc
theorem Jg:BN qV aby Mi.xF:=fun ds vs H Hv Q vw r h=>by
 match ds,r,h with
 | [.int i,.int j],r,h =>
  ob ⟨v,u,ev,rr,r'⟩:=R5 r
  subst ev
  replace r:=rr
  cases RD.int r; cases RD.int r'
  xt ⟨i,j,_,rfl,rfl,h _ H Hv (.refl vw) iK⟩
theorem Jf:BN qV abx Mi.BW:=fun ds vs H Hv Q vw r h=>by
 match ds,r,h with
 | [.int i,.int j],r,h =>
  ob ⟨v,u,ev,rr,r'⟩:=R5 r
  subst ev
  replace r:=rr
  cases RD.int r; cases RD.int r'
  xt ⟨i,j,_,rfl,rfl,h _ H Hv (.refl vw) iK⟩
theorem N6 {Hv:Hp}:∀ {ds:List D} {xs:List V} {bs:List Bool},Mi.Bl ds = some bs→P2 (Rep Hv) ds xs→xs = bs.map V.bl
 | [],_,bs,e,r=>by cases e; cases r; rfl
 | .bl b :: ds,_,bs,e,r=>by
  cases r with
  | cons x t =>
   cases hb:Mi.Bl ds with
   | none=>rw [Mi.Bl,hb] at e; cases e
   | some cs =>
    rw [Mi.Bl,hb] at e
    cases e
    rw [N6 hb t,zM.mp x]; rfl
 | .non :: _,_,_,e,_=>by cases e
 | .int _ :: _,_,_,e,_=>by cases e
 | .str _ :: _,_,_,e,_=>by cases e
 | .lst _ :: _,_,_,e,_=>by cases e
 | .tup _ :: _,_,_,e,_=>by cases e
theorem Jm:BN qV (abL K (·.all id)) Mi.Qs:=fun ds vs H Hv Q vw r h=>by
 match ds,r,h with
 | [.lst ds],r,h =>
  ob ⟨v,ev,rr⟩:=mW r
  subst ev
  replace r:=rr
  ob ⟨bs,e,h⟩:=jn (aq.mp h)
  ob ⟨p,xs,rfl,l1,r1⟩:=RD.lst vw r
  have:=N6 e r1
  subst this
  xt ⟨p,bs,rfl,l1.sq,h _ H Hv (.refl vw) gP⟩
def X8 (K:Φ):List V→Hp→VK→Prop:=fun xs H Q=>∃ p ys,xs = [.ref p]∧(uY K H p ys∨yR K H p ys)∧∀ l,H l = none→Q (.ref l) (upd H l (.lst ys))
theorem qz:ir X (.type "list") (X8 X.K):=Gn
theorem lK:BN qN (X8 K) Mi.wg:=fun ds vs H Hv Q vw r h=>by
 match ds,r,h with
 | [.lst ds],r,h =>
  ob ⟨v,ev,rr⟩:=mW r
  subst ev
  replace r:=rr
  ob ⟨p,xs,rfl,l1,r1⟩:=RD.lst vw r
  rf ⟨p,xs,rfl,.inl l1.sq,fun a ha=>?_⟩
  ob ⟨g,k⟩:=Ff vw r1 ha
  xt h _ _ _ g k
 | [.tup ds],r,h =>
  ob ⟨v,ev,rr⟩:=mW r
  subst ev
  replace r:=rr
  ob ⟨p,xs,rfl,l1,_,r1⟩:=RD.tup vw r
  rf ⟨p,xs,rfl,.inr (.inl (.inl l1)),fun a ha=>?_⟩
  ob ⟨g,k⟩:=Ff vw r1 ha
  xt h _ _ _ g k
def Rw (K:Φ):List V→Hp→VK→Prop:=fun xs H Q=>∃ p ys,xs = [.ref p]∧((uY K H p ys∧∀ l,H l = none→Q (.ref l) (upd H l (.tup ys)))∨(yR K H p ys∧Q (.ref p) H))
theorem gZ:ir X (.type "tuple") (Rw X.K):=BV
theorem fG:BN qV (Rw K) Mi.oF:=fun ds vs H Hv Q vw r h=>by
 match ds,r,h with
 | [.lst ds],r,h =>
  ob ⟨v,ev,rr⟩:=mW r
  subst ev
  replace r:=rr
  ob ⟨p,xs,rfl,l1,r1⟩:=RD.lst vw r
  rf ⟨p,xs,rfl,.inl ⟨l1.sq,fun a ha=>?_⟩⟩
  ob ⟨g,k⟩:=Fe vw r1 ha
  xt h _ _ _ g k
 | [.tup ds],r,h =>
  ob ⟨v,ev,rr⟩:=mW r
  subst ev
  replace r:=rr
  ob ⟨p,xs,rfl,l1,l2,r1⟩:=RD.tup vw r
  xt ⟨p,xs,rfl,.inr ⟨.inl (.inl l1),h _ H Hv (.refl vw) (jd.mpr ⟨p,xs,rfl,l2,r1⟩)⟩⟩
def abH:List V→Hp→VK→Prop:=fun xs H Q=>(∃ i,xs = [.int i]∧Q (.int i) H)∨∃ k,xs = [.bl k]∧Q (.int (if k then 1 else 0)) H
theorem Qj:ir X (.type "int") abH:=Qk
theorem Jk:BN qV abH Mi.Va:=fun ds vs H Hv Q vw r h=>by
 match ds,r,h with
 | [.int i],r,h =>
  ob ⟨v,ev,rr⟩:=mW r
  subst ev
  replace r:=rr
  cases RD.int r
  xt .inl ⟨i,rfl,h _ H Hv (.refl vw) iK⟩
 | [.bl k],r,h =>
  ob ⟨v,ev,rr⟩:=mW r
  subst ev
  replace r:=rr
  cases RD.bl r
  xt .inr ⟨k,rfl,h _ H Hv (.refl vw) iK⟩
end
end A
namespace A
open PySem L2 PyProof.Rows
open Mi (D W Rs Fin aq Out Tg)
variable [Tb:iZ]
section
variable {X:Cx} {pins:List (Addr×Obj)} {σ : L2.St} {H:Hp} {s:Shared}
open SeqAt in
theorem V7:∀ {d e:D} {A:Around} {x y:V} {u u':Value},d.flat = true→e.flat = true→L2.Rep X.K H d x→L2.Rep X.K H e y→RelV x u→RelV y u'→RcAt A s u u' (Mi.cI d e)∧RcNeAt A s u u' (!Mi.cI d e):=by
 intro d e A x y u u' h1 h2 r1 r2 q1 q2
 cases d with
 | non =>
  rw [L2.Rep] at r1; subst r1; cases q1
  cases e with
  | non=>rw [L2.Rep] at r2; subst r2; cases q2; xt ⟨RcAt.none_none,RcNeAt.none_none⟩
  | bl b=>rw [L2.Rep] at r2; subst r2; cases q2; xt ⟨RcAt.none_bool b,RcNeAt.none_bool b⟩
  | int b=>rw [L2.Rep] at r2; subst r2; ob ⟨t,rfl⟩:=q2; xt ⟨RcAt.none_int b t,RcNeAt.none_int b t⟩
  | str b=>rw [L2.Rep] at r2; subst r2; ob ⟨t,rfl⟩:=q2; xt ⟨RcAt.none_str b t,RcNeAt.none_str b t⟩
  | _=>cases h2
 | bl a =>
  rw [L2.Rep] at r1; subst r1; cases q1
  cases e with
  | non=>rw [L2.Rep] at r2; subst r2; cases q2; xt ⟨RcAt.bool_none a,RcNeAt.bool_none a⟩
  | bl b=>rw [L2.Rep] at r2; subst r2; cases q2; rw [Mi.cI]; xt ⟨RcAt.bool_bool a b,RcNeAt.bool_bool a b⟩
  | int b=>rw [L2.Rep] at r2; subst r2; ob ⟨t,rfl⟩:=q2; rw [Mi.cI]; xt ⟨RcAt.bool_int a b t,RcNeAt.bool_int a b t⟩
  | str b=>rw [L2.Rep] at r2; subst r2; ob ⟨t,rfl⟩:=q2; xt ⟨RcAt.bool_str a b t,RcNeAt.bool_str a b t⟩
  | _=>cases h2
 | int a =>
  rw [L2.Rep] at r1; subst r1; ob ⟨t1,rfl⟩:=q1
  cases e with
  | non=>rw [L2.Rep] at r2; subst r2; cases q2; xt ⟨RcAt.int_none a t1,RcNeAt.int_none a t1⟩
  | bl b=>rw [L2.Rep] at r2; subst r2; cases q2; rw [Mi.cI]; xt ⟨RcAt.int_bool a t1 b,RcNeAt.int_bool a t1 b⟩
  | int b=>rw [L2.Rep] at r2; subst r2; ob ⟨t,rfl⟩:=q2; rw [Mi.cI]; xt ⟨RcAt.int_int a t1 b t,RcNeAt.int_int a t1 b t⟩
  | str b=>rw [L2.Rep] at r2; subst r2; ob ⟨t,rfl⟩:=q2; xt ⟨RcAt.int_str a t1 b t,RcNeAt.int_str a t1 b t⟩
  | _=>cases h2
 | str a =>
  rw [L2.Rep] at r1; subst r1; ob ⟨t1,rfl⟩:=q1
  cases e with
  | non=>rw [L2.Rep] at r2; subst r2; cases q2; xt ⟨RcAt.str_none a t1,RcNeAt.str_none a t1⟩
  | bl b=>rw [L2.Rep] at r2; subst r2; cases q2; xt ⟨RcAt.str_bool a t1 b,RcNeAt.str_bool a t1 b⟩
  | int b=>rw [L2.Rep] at r2; subst r2; ob ⟨t,rfl⟩:=q2; xt ⟨RcAt.str_int a t1 b t,RcNeAt.str_int a t1 b t⟩
  | str b=>rw [L2.Rep] at r2; subst r2; ob ⟨t,rfl⟩:=q2; rw [Mi.cI]; xt ⟨RcAt.str_str a t1 b t,RcNeAt.str_str a t1 b t⟩
  | _=>cases h2
 | _=>cases h1
open SeqAt in
theorem abt (I:Inv X pins σ H s):∀ (d e:D) (A:Around) {x y:V} {u u':Value},d.dep≤16→A.units + 17 < cLine→L2.Rep X.K H d x→L2.Rep X.K H e y→RelV x u→RelV y u'→RcAt A s u u' (Mi.cI d e)∧RcNeAt A s u u' (!Mi.cI d e):=by
 intro d e A x y u u' hd hu h h' r r'
 have hu0:A.units < cLine:=by omega
 have item:∀ {ds es:List D} {xs ys:List V} {its its':List Value},Mi.b8 ds≤16→L2.bU X.K H ds xs→L2.bU X.K H es ys→Vals xs its→Vals ys its' →
  ∀ j (h1:j < its.toArray.size) (h2:j < its'.toArray.size),EqAt A.in1 s its.toArray[j] its'.toArray[j] (Mi.cI (ds.getD j .non) (es.getD j .non)):=by
  intro ds es xs ys its its' hn q q' v v' j h1 h2
  have h1':j < its.length:=by simpa using h1
  have h2':j < its'.length:=by simpa using h2
  have e1:j < xs.length:=by rw [v.length]; xt h1'
  have e2:j < ys.length:=by rw [v'.length]; xt h2'
  have g1:xs[j]? = some xs[j]:=by simp [e1]
  have g2:ys[j]? = some ys[j]:=by simp [e2]
  ob ⟨w1,k1,r1⟩:=v.get g1
  ob ⟨w2,k2,r2⟩:=v'.get g2
  have t1:its.toArray[j] = w1:=by ob ⟨_,k1⟩:=List.getElem?_eq_some_iff.mp k1; simpa using k1
  have t2:its'.toArray[j] = w2:=by ob ⟨_,k2⟩:=List.getElem?_eq_some_iff.mp k2; simpa using k2
  rw [t1,t2]
  have:=xr (ds:=ds) (j:=j)
  rf Ud I 16 _ _ A.in1 ω ?_ (q.get g1) (q'.get g2) r1 r2
  show A.units + 1 + 16 < cLine
  omega
 by_cases hdf:d.flat = true
 ·by_cases hef:e.flat = true
  ·xt V7 hdf hef h h' r r'
  ·cases e with
   | lst es =>
    rw [L2.Rep] at h'
    ob ⟨a,xs,rfl,q,_⟩:=h'
    cases r'
    ob ⟨its,_,p,_⟩:=I.list q
    cases d with
    | non=>rw [L2.Rep] at h; subst h; cases r; xt ⟨RcAt.none_list p.isList hu0,RcNeAt.none_list p.isList hu0⟩
    | bl b=>rw [L2.Rep] at h; subst h; cases r; xt ⟨RcAt.bool_list b p.isList hu0,RcNeAt.bool_list b p.isList hu0⟩
    | int b=>rw [L2.Rep] at h; subst h; ob ⟨t,rfl⟩:=r; xt ⟨RcAt.int_list b t p.isList hu0,RcNeAt.int_list b t p.isList hu0⟩
    | str b=>rw [L2.Rep] at h; subst h; ob ⟨t,rfl⟩:=r; xt ⟨RcAt.str_list b t p.isList hu0,RcNeAt.str_list b t p.isList hu0⟩
    | _=>cases hdf
   | tup es =>
    rw [L2.Rep] at h'
    ob ⟨a,xs,rfl,q,_⟩:=h'
    cases r'
    ob ⟨its,_,p,_⟩:=I.tuple q
    cases d with
    | non=>rw [L2.Rep] at h; subst h; cases r; xt ⟨RcAt.none_tuple p hu0,RcNeAt.none_tuple p hu0⟩
    | bl b=>rw [L2.Rep] at h; subst h; cases r; xt ⟨RcAt.bool_tuple b p hu0,RcNeAt.bool_tuple b p hu0⟩
    | int b=>rw [L2.Rep] at h; subst h; ob ⟨t,rfl⟩:=r; xt ⟨RcAt.int_tuple b t p hu0,RcNeAt.int_tuple b t p hu0⟩
    | str b=>rw [L2.Rep] at h; subst h; ob ⟨t,rfl⟩:=r; xt ⟨RcAt.str_tuple b t p hu0,RcNeAt.str_tuple b t p hu0⟩
    | _=>cases hdf
   | _=>xt absurd rfl hef
 ·cases d with
  | lst ds =>
   rw [L2.Rep] at h
   ob ⟨a,xs,rfl,q,rr⟩:=h
   cases r
   ob ⟨its,v,p,_⟩:=I.list q
   have hn:Mi.b8 ds≤16:=by rw [Mi.D.dep] at hd; omega
   cases e with
   | non=>rw [L2.Rep] at h'; subst h'; cases r'; xt ⟨RcAt.list_none p.isList hu0,RcNeAt.list_none p.isList hu0⟩
   | bl b=>rw [L2.Rep] at h'; subst h'; cases r'; xt ⟨RcAt.list_bool b p.isList hu0,RcNeAt.list_bool b p.isList hu0⟩
   | int b=>rw [L2.Rep] at h'; subst h'; ob ⟨t,rfl⟩:=r'; xt ⟨RcAt.list_int b t p.isList hu0,RcNeAt.list_int b t p.isList hu0⟩
   | str b=>rw [L2.Rep] at h'; subst h'; ob ⟨t,rfl⟩:=r'; xt ⟨RcAt.list_str b t p.isList hu0,RcNeAt.list_str b t p.isList hu0⟩
   | lst es =>
    rw [L2.Rep] at h'
    ob ⟨b,ys,rfl,q',rr'⟩:=h'
    cases r'
    ob ⟨its',v',p',_⟩:=I.list q'
    have l1:=rr.length
    have l2:=rr'.length
    have l3:=v.length
    have l4:=v'.length
    by_cases hl:ds.length = es.length
    ·rw [Mi.cI,pF hl]
     have e1:its.toArray.size = ds.length:=by simp; omega
     have k1:=RcAt.lists p.isList p'.isList (by simp; omega) hu0 (item hn rr rr' v v')
     have k2:=RcNeAt.lists p.isList p'.isList (by simp; omega) hu0 (item hn rr rr' v v')
     rw [e1] at k1 k2
     xt ⟨k1,k2⟩
    ·rw [Mi.cI,pD hl]
     xt ⟨RcAt.lists_lengths p.isList p'.isList (by simp; omega) hu0,RcNeAt.lists_lengths p.isList p'.isList (by simp; omega) hu0⟩
   | tup es =>
    rw [L2.Rep] at h'
    ob ⟨b,ys,rfl,q',_⟩:=h'
    cases r'
    ob ⟨its',_,p',_⟩:=I.tuple q'
    xt ⟨RcAt.list_tuple p.isList p' hu0,RcNeAt.list_tuple p.isList p' hu0⟩
  | tup ds =>
   rw [L2.Rep] at h
   ob ⟨a,xs,rfl,q,rr⟩:=h
   cases r
   ob ⟨its,v,p,_⟩:=I.tuple q
   have hn:Mi.b8 ds≤16:=by rw [Mi.D.dep] at hd; omega
   cases e with
   | non=>rw [L2.Rep] at h'; subst h'; cases r'; xt ⟨RcAt.tuple_none p hu0,RcNeAt.tuple_none p hu0⟩
   | bl b=>rw [L2.Rep] at h'; subst h'; cases r'; xt ⟨RcAt.tuple_bool b p hu0,RcNeAt.tuple_bool b p hu0⟩
   | int b=>rw [L2.Rep] at h'; subst h'; ob ⟨t,rfl⟩:=r'; xt ⟨RcAt.tuple_int b t p hu0,RcNeAt.tuple_int b t p hu0⟩
   | str b=>rw [L2.Rep] at h'; subst h'; ob ⟨t,rfl⟩:=r'; xt ⟨RcAt.tuple_str b t p hu0,RcNeAt.tuple_str b t p hu0⟩
   | tup es =>
    rw [L2.Rep] at h'
    ob ⟨b,ys,rfl,q',rr'⟩:=h'
    cases r'
    ob ⟨its',v',p',_⟩:=I.tuple q'
    have l1:=rr.length
    have l2:=rr'.length
    have l3:=v.length
    have l4:=v'.length
    have k1:=RcAt.tuples p p' hu0 (item hn rr rr' v v')
    have k2:=RcNeAt.tuples p p' hu0 (item hn rr rr' v v')
    have e1:its.toArray.size = ds.length:=by simp; omega
    have e2:its'.toArray.size = es.length:=by simp; omega
    rw [e1,e2] at k1 k2
    by_cases hl:ds.length = es.length
    ·rw [Mi.cI,pF hl]
     rw [hl,Nat.min_self,beq_self_eq_true,Bool.and_true,← hl] at k1 k2
     xt ⟨k1,k2⟩
    ·rw [Mi.cI,pD hl]
     have:(ds.length == es.length) = false:=by simpa using hl
     rw [this,Bool.and_false] at k1 k2
     xt ⟨k1,k2⟩
   | lst es =>
    rw [L2.Rep] at h'
    ob ⟨b,ys,rfl,q',_⟩:=h'
    cases r'
    ob ⟨its',_,p',_⟩:=I.list q'
    xt ⟨RcAt.tuple_list p p'.isList hu0,RcNeAt.tuple_list p p'.isList hu0⟩
  | _=>xt absurd rfl hdf
theorem jY (hu:X.A.units + 64 < cLine):pR X (compareOp .Eq) (Wa X.K false):=by
 intro pins s σ H x y v u Q I rx ry h
 ob ⟨d,e,r1,r2,hz,q⟩:=h
 xt (abt I d e X.A hz ω r1 r2 rx ry).1 _ _ _ _ ⟨.bl _,H,I,rfl,q⟩
theorem uM (hu:X.A.units + 64 < cLine):pR X (compareOp .NotEq) (Wa X.K true):=by
 intro pins s σ H x y v u Q I rx ry h
 ob ⟨d,e,r1,r2,hz,q⟩:=h
 xt (abt I d e X.A hz ω r1 r2 rx ry).2 _ _ _ _ ⟨.bl _,H,I,rfl,q⟩
end
section
variable {X:Cx} {K:Φ} {M:Nat→Bool} {κ : Kd} {ta tb te:TE} {a b:Mi.E}
theorem XR {H Hv:Hp} (vw:Vw H Hv) {d:D} {v:V} (r:RD H Hv d v):um K H v (.type (Mi.JR d)):=by
 cases d with
 | non=>cases RD.non r; xt .non
 | bl b=>cases RD.bl r; xt .bl b
 | int b=>cases RD.int r; xt .int b
 | str b=>cases RD.str r; xt .str b
 | lst ds =>
  ob ⟨p,xs,rfl,l,_⟩:=RD.lst vw r
  rcases l with l | ⟨o,l⟩
  ·xt .lst l
  ·xt .frz l
 | tup ds =>
  ob ⟨p,xs,rfl,l,_⟩:=RD.tup vw r
  xt .tup l
def Bm (K:Φ) (T:String):Prop:=∀ d:D,PySem.W.kitOne K (.type (Mi.JR d)) (.type T) = some (Mi.Af T d)
theorem Jw {T:String} (hT:Bm K T) (ha:AE M qP ta a):AE M qV (VP (abF K) (iW ta (iW (tC (.ty T)) rD))) (Mi.m1 (Mi.yC [T]) a):=fun e σ H Hv Q I h =>
 ha e σ H Hv _ I ((aq.mp h).mono fun x hx v H1 Hv1 g1 rx=>⟨v,_,T,_,rfl,XR g1.vw rx,hT x,(Mi.gG hx) _ H1 Hv1 g1 (by
  have:([T].any fun t=>Mi.Af t x) = Mi.Af T x:=by simp
  rw [this]; xt gP)⟩)
theorem ty_bool (K:Φ):Bm K "bool" := fun d=>by cases d <;> rfl
theorem ty_int (K:Φ):Bm K "int" := fun d=>by cases d <;> rfl
theorem ty_str (K:Φ):Bm K "str" := fun d=>by cases d <;> rfl
theorem ty_list (K:Φ):Bm K "list" := fun d=>by cases d <;> rfl
theorem ty_tuple (K:Φ):Bm K "tuple" := fun d=>by cases d <;> rfl
end
end A
namespace A
open PySem L2 PyProof.Rows
open Mi (D W Rs Fin aq Out Tg)
variable [Tb:iZ]
def Mo (l:List Nat):Nat→Bool:=fun i=>l.contains i
theorem zu {M:Nat→Bool} {N:List Str} {k:Nat} {ws:List W} {vs:List V} {H Hv:Hp} (vw:Vw H Hv) (p:P2 (uo Hv) ws vs) (hk:ws.length = k) (hM:∀ i,i < k→M i = false) :
 R1 M H Hv (ws.map some ++ List.replicate (N.length - ws.length) none) (start N vs) H Hv:=by
 have get:∀ {i:Nat} {w:W},(ws.map some ++ List.replicate (N.length - ws.length) none)[i]? = some (some w)→ws[i]? = some w∧i < k:=fun {i w} h=>by
  by_cases hi:i < ws.length
  ·rw [List.getElem?_append_left (by simpa using hi),List.getElem?_map] at h
   cases e:ws[i]? with
   | none=>rw [e] at h; cases h
   | some a=>rw [e] at h; cases h; xt ⟨rfl,by omega⟩
  ·rw [List.getElem?_append_right (by simpa using hi),List.getElem?_replicate] at h
   split at h <;> cases h
 have no:∀ {i:Nat} {w:W},(ws.map some ++ List.replicate (N.length - ws.length) none)[i]? = some (some w)→M i = true→False:=fun {i w} h m=>by
  rw [hM i (get h).2] at m; cases m
 rf ⟨⟨vw,?_,fun i w h m=>?_,fun i w h m=>(no h m).elim⟩,.refl vw,fun i w a h m=>(no h m).elim,fun i j w w' a b _ h _ m=>(no h m).elim⟩
 ·unfold L2.start
  rw [List.length_append,List.length_append,List.length_map,List.length_map,List.length_replicate,List.length_replicate,p.len]
 ·ob ⟨hw,hi⟩:=get h
  ob ⟨v,hv,r⟩:=p.getL hw
  rf ⟨v,?_,r⟩
  unfold L2.start
  rw [List.getElem?_append_left (by rw [List.length_map,← p.len]; omega),List.getElem?_map,hv]; rfl
theorem qX {f:Mi.S} {k n:Nat} {vs:List V} {H:Hp} {Q:VK} {E:XK} (h:lF (Mi.vf k n f) vs H Q E):vs.length = k:=by
 ob ⟨Hv,ws,_,p,q⟩:=h
 rw [← p.len]; xt (Mi.aV q).1
theorem BK {f:Mi.S} {k n:Nat} {vs:List V} {H:Hp} {Q:VK} {E:XK} (h:yF (Mi.JF k n f) vs H Q E):vs.length = k:=by
 ob ⟨Hv,ws,_,p,q⟩:=h
 rw [← p.len]; xt (Mi.aV q).1
theorem qQ {N:List Str} {M:Nat→Bool} {k:Nat} {t:TS} {m:Mi.S} (hA:AS M qV t m) (hM:∀ i,i < k→M i = false) {vs:List V} {H:Hp} {Q:VK} {E:XK} (h:lF (Mi.vf k N.length m) vs H Q E) :
 t { nx:=fun _ H'=>Q .non H',rt:=Q } (start N vs) H:=by
 ob ⟨Hv,ws,vw,p,q⟩:=h
 ob ⟨hk,q⟩:=Mi.aV q
 rf hA H Hv _ _ H Hv _ (zu vw p hk hM) ((aq.mp q).mono fun o ho=>?_)
 cases o with
 | nx e=>xt fun σ H' Hv' I s=>ho _ H' Hv' I.gw J3
 | rt w=>xt fun v H' Hv' g r=>ho v H' Hv' g r
 | bk e=>xt ho.elim
 | ct e=>xt ho.elim
theorem runN {N:List Str} {M:Nat→Bool} {k:Nat} {t:TS} {m:Mi.S} (hA:AS M qN t m) (hM:∀ i,i < k→M i = false) {vs:List V} {H:Hp} {Q:VK} {E:XK} (h:yF (Mi.JF k N.length m) vs H Q E) :
 t { nx:=fun _ H'=>Q .non H',rt:=Q } (start N vs) H:=by
 ob ⟨Hv,ws,vw,p,q⟩:=h
 ob ⟨hk,q⟩:=Mi.aV q
 rf hA H Hv _ _ H Hv _ (zu vw p hk hM) ((aq.mp q).mono fun o ho=>?_)
 cases o with
 | rt w=>xt fun v H' Hv' g r=>ho v H' Hv' g r
 | nx e=>xt ho.elim
 | bk e=>xt ho.elim
 | ct e=>xt ho.elim
theorem PK {P:Program} {w:World} {K:Φ} {mg:Str→Option Value} {base:Heap} {CX:GP} {k:Nat} {f:Addr} {fd:FuncData} {ps:List Str}:cY P w K mg base CX k f fd ps (lF Mi.fnZ) :=
 ⟨fun vs H Q E h=>by ob ⟨_,_,_,_,q⟩:=h; xt q.elim,fun A outer s H args us vs Q E _ _ _ _ h=>by ob ⟨_,_,_,_,q⟩:=h; xt q.elim⟩
def Hi:Sp:=fun vs H Q _=>∃ (a:Addr) (ns:List Int),vs = [.ref a]∧Lst H a (ns.map V.int)∧ns.length≤63∧jt H∧∀ H',Q (.bl true) H'
theorem ints_rep (H:Hp):∀ ns:List Int,P2 (Rep H) (ns.map D.int) (ns.map V.int)
 | []=>.nil
 | n :: r=>.cons (qe.mpr rfl) (ints_rep H r)
theorem Z4 {P:Program} {w:World} {K:Φ} {mg:Str→Option Value} {base:Heap} {CX:GP} {k:Nat} {f:Addr} {fd:FuncData} {ps:List Str} {m:Mi.Fn} (F:cY P w K mg base CX k f fd ps (lF m))
 (h:∀ ns:List Int,ns.length≤63→m [.d (.lst (ns.map D.int))] = .ok (.d (.bl true))):cY P w K mg base CX k f fd ps Hi :=
 F.imp fun vs H Q E ⟨a,ns,e,l,hl,k,q⟩=>by
  subst e
  have l':Lst (QB H) a (ns.map V.int):=by
   rcases l with l | ⟨o,l⟩
   ·xt .inl (jK l trivial)
   ·xt .inr ⟨o,jK l trivial⟩
  rf ⟨QB H,[.d (.lst (ns.map D.int))],.all k,.cons (nF.mpr ⟨a,_,rfl,l',ints_rep _ ns⟩) .nil,?_⟩
  rw [h ns hl]
  intro v H' Hv' g r
  cases (zM (H:=Hv')).mp r
  xt q H'
def Ite (K:Φ) (a:Addr):It :=
 ⟨fun i H=>∃ xs x,uY K H a xs∧xs[i]? = some x,fun i H v H'=>∃ p x,(∀ xs,uY K H a xs→xs[i]? = some x)∧H p = none∧v = .ref p∧H' = upd H p (.tup [.int i,x]),fun i H=>∃ xs,uY K H a xs∧xs.length = i⟩
theorem zp {X:Cx} {pins:List (Addr×Obj)} {σ : L2.St} {H:Hp} {s:Shared} {fp:List Addr} {T:Addr} {o:HO} {h':Heap} {t':Nat} (I:Inv X pins σ H s) (hf:∀ b∈fp,pU X pins H b)
 (k:∀ b u,b∉fp→s.heap.get? b = some u→h'.get? b = some u) (hT:s.heap.objs.size≤T) (new:bY X.prog X.w (upd H T o) h' T o):Inv X pins σ (upd H T o) { s with heap:=h',toks:=t' }:=by
 have hn:H T = none:=I.hok.fresh hT
 have nfp:∀ b u,H b = some u→b∉fp:=fun b u e z=>by rw [(hf b z).1] at e; cases e
 rf I.call' (s':={ s with heap:=h',toks:=t' }) (ch:=fp) rfl ⟨fun b u e _ _ hb=>k b u hb e,fun b u e _ _ hb=>⟨u.slots,k b u hb e⟩,fun b u e hb _=>?_,fun b u e hb=>⟨u,k b u hb e⟩,fun b xs e=>?_,fun b q u e=>?_,fun b w ps e=>⟨#[],?_⟩⟩ ?_ I.bare
  fun b hb=>⟨(hf b hb).2.2.2.1,(hf b hb).2.1,(hf b hb).2.2.2.2.1,(hf b hb).2.2.2.2.2⟩
 ·have:b≠T:=Nat.ne_of_lt (Nat.lt_of_lt_of_le (Heap.lt_size e) hT)
  rw [aJ this]; xt hb
 ·rw [aJ (aX e hn)]; xt e
 ·rw [aJ (aX e hn)]; xt e
 ·rw [aJ (aX e hn),e]; simp
 ·intro b u e
  by_cases hb:b = T
  ·subst hb; rw [aU] at e; cases e; xt new
  ·rw [aJ hb] at e
   rf (I.hok b u e).stay (fun c v hc q=>k c v ?_ q) (fun c q=>by rw [aJ (aX q hn)]; xt q) fun c xs q=>by rw [aJ (aX q hn)]; xt q
   rcases hc with z | z
   ·rw [z]; xt nfp b u e
   ·xt nfp c _ z
theorem uF {X:Cx} {pins:List (Addr×Obj)} {σ : L2.St} {H:Hp} {s:Shared} {fp:List Addr} {h':Heap} {t':Nat} (I:Inv X pins σ H s) (hf:∀ b∈fp,pU X pins H b)
 (k:∀ b u,b∉fp→s.heap.get? b = some u→h'.get? b = some u):Inv X pins σ H { s with heap:=h',toks:=t' }:=by
 have nfp:∀ b u,H b = some u→b∉fp:=fun b u e z=>by rw [(hf b z).1] at e; cases e
 rf I.call' (s':={ s with heap:=h',toks:=t' }) (ch:=fp) rfl ⟨fun b u e _ _ hb=>k b u hb e,fun b u e _ _ hb=>⟨u.slots,k b u hb e⟩,fun b u e hb _=>hb,fun b u e hb=>⟨u,k b u hb e⟩,fun b xs e=>e,fun b q u e=>e,fun b w ps e=>⟨#[],by rw [e]; simp⟩⟩ ?_ I.bare
  fun b hb=>⟨(hf b hb).2.2.2.1,(hf b hb).2.1,(hf b hb).2.2.2.2.1,(hf b hb).2.2.2.2.2⟩
 intro b u e
 rf (I.hok b u e).stay (fun c v hc q=>k c v ?_ q) (fun c q=>q) fun c xs q=>q
 rcases hc with z | z
 ·rw [z]; xt nfp b u e
 ·xt nfp c _ z
theorem Og {P:Program} {w:World} {K:Φ} {elts:List Expr} {k1:Nat} {pos:Pos} (a e it:Addr) (hne:e≠it):Turn P w K (.Tuple elts k1 pos) (Ite K a) [e,it] e (fun i h=>(∃ old,IsEnum h e it i old)∧h.IsListIter it a i) where
 mem:=by simp
 obj:=fun i h st b hb=>by
  ob ⟨⟨old,he⟩,o,ho,c,d⟩:=st
  rcases List.mem_cons.mp hb with rfl | hb
  ·xt ⟨_,he,fun v z=>by cases z⟩
  ·have e1:b = it:=by simpa using hb
   subst e1
   xt ⟨o,ho,fun v z=>by rw [d] at z; cases z⟩
 keep:=fun i h h' st kk=>⟨let ⟨old,he⟩:=st.1; ⟨old,kk e (by simp) _ he⟩,st.2.at fun o q=>kk it (by simp) o q⟩
 item:=by
  intro X hP hw hK hc i pins s σ H E I hf st hg
  subst hP hw hK
  ob ⟨xs,x,hq,hx⟩:=hg
  ob ⟨its,rv,p,hz⟩:=I.list hq
  ob ⟨u,hu,ru⟩:=rv.get hx
  ob ⟨⟨old,he⟩,hli⟩:=st
  have hlt:i < its.toArray.size:=by rw [List.size_toArray]; xt (List.getElem?_eq_some_iff.mp hu).1
  have hai:a≠it:=by
   rintro rfl
   ob ⟨o,ho,c,_⟩:=hli
   ob ⟨o',n,ho',c',_⟩:=p
   rw [ho] at ho'; cases ho'
   rw [c] at c'; xt absurd (Value.type.inj c') δ
  have hea:e≠a:=by
   rintro rfl
   ob ⟨o',n,ho',c',_⟩:=p
   rw [he] at ho'; cases ho'
   xt absurd (Value.type.inj c') δ
  rf wpAny_pyNext_enum_itemD (Draws.list (by first | xt I.ok.hd hc | (simp; xt I.ok.hd hc)) it a hai its.toArray) he ⟨hli,p.isList⟩ hlt hne (by simp [hne,hea]) fun y h' tk hy ho hs' hT hsz hk=>?_
  have hy:y = u:=by
   have hu':its.toArray[i]? = some u:=by simpa using hu
   rw [hu'] at hy; xt (Option.some.inj hy).symm
  subst hy
  rf ⟨_,rfl,wpAny_letOwnedTupleGo_enum ho fun h2 he2 hs2=>?_⟩
  have kk:∀ b o,b∉[e,it]→s.heap.get? b = some o→h2.get? b = some o:=fun b o hb q=>by
   simp at hb
   xt (hs2.2 b hb.1).trans (hk b o hb.1 hb.2 q)
  have hTn:s.heap.objs.size≠e:=fun z=>absurd (Heap.lt_size he) (by rw [z]; xt Nat.lt_irrefl _)
  rf ⟨.ref s.heap.objs.size,upd H s.heap.objs.size (.tup [.int i,x]),zp (s:=s) (t':=tk + 1) I hf kk (Nat.le_refl _) ?_,rfl,⟨_,x,fun ys hy=>by rw [I.vN hy hq]; xt hx,I.hok.fresh (Nat.le_refl _),rfl,rfl⟩,⟨⟨_,he2⟩,?_⟩,fun b hb=>?_⟩
  ·xt ⟨by simp only [List.length_cons,List.length_nil]; rw [sizeLine_eq]; decide,[.int i tk,y],.cons ⟨_,rfl⟩ (.cons ru .nil),⟨_,(hs2.2 _ hTn).trans hT,rfl,rfl,_,rfl⟩⟩
  ·xt hs'.1.at fun o q=>(hs2.2 it (Ne.symm hne)).trans q
  ·have:b≠s.heap.objs.size:=fun z=>by
    subst z
    rcases List.mem_cons.mp hb with z | z
    ·xt hTn z
    ·have z:s.heap.objs.size = it:=by simpa using z
     ob ⟨o,ho,_⟩:=hli
     xt absurd (Heap.lt_size ho) (by rw [← z]; xt Nat.lt_irrefl _)
   rw [aJ this]; xt (hf b hb).1
 done:=by
  intro X hP hw hK hc i pins s σ H E I hf st hg
  subst hP hw hK
  ob ⟨xs,hq,hx⟩:=hg
  ob ⟨its,rv,p,hz⟩:=I.list hq
  ob ⟨⟨old,he⟩,hli⟩:=st
  have hl:=rv.length
  have hai:a≠it:=by
   rintro rfl
   ob ⟨o,ho,c,_⟩:=hli
   ob ⟨o',n,ho',c',_⟩:=p
   rw [ho] at ho'; cases ho'
   rw [c] at c'; xt absurd (Value.type.inj c') δ
  subst hx
  have D:=Draws.list (prog:=X.prog) (w:=X.w) (A:=X.A.in1) (by first | xt I.ok.hd hc | (simp; xt I.ok.hd hc)) it a hai its.toArray
  have hn:its.toArray.size = xs.length:=by simp; omega
  rw [hn] at D
  xt wpAny_pyNext_enum_endD D he ⟨hli,p.isList⟩ fun h' hx=>⟨rfl,uF (s:=s) (t':=s.toks) I hf fun b o hb q=>hx b o (fun z=>hb (by simp [z])) q⟩
 self:=fun _ i s Q E st h=>let ⟨⟨old,he⟩,_⟩:=st; wpAny_pyIter_enum he h
section
variable {X:Cx} {elts:List Expr} {k1:Nat} {tpos:Pos}
def TY (K:Φ) (tl:TE):TI:=fun σ H R=>tl σ H fun x H1=>∃ a,[x] = [V.ref a]∧(∃ xs,uY K H1 a xs)∧R (Ite K a) H1
theorem We {a:Expr} {ta:TE} {p pos:Pos} (hg:Gl X "enumerate") (hm:X.mg "enumerate" = none) (ha:PE X a ta) (hs:starEach [a] X.env = [(false,eval a X.env)]:=by rfl) (hs0:starEach [a] X.env = (false,eval a X.env) :: starEach [] X.env:=by rfl) :
 PI X (.Tuple elts k1 tpos) (.Call (.Name "enumerate" p) [a] [] pos) (TY X.K ta):=by
 intro pins s σ H R I h
 rf Call_ (uP I hg hm boot_enumerate (PyProof.Rows.callWith_type1 (dY (aj ha au hs0 pos pins s σ H (fun vs H1=>∃ l,vs = [.ref l]∧(∃ xs,uY X.K H1 l xs)∧R (Ite X.K l) H1) I ?_) fun us s1 ⟨vs,H1,I1,r1,q1⟩=>?_) hs rfl))
 ·xt h
 ·ob ⟨l,e,⟨xs,hq⟩,q⟩:=q1
  subst e
  ob ⟨u,rfl,ru⟩:=vals1 r1
  cases ru
  ob ⟨its,rv,pl,hz⟩:=I1.list hq
  rf call_enumerate_list pl.isList fun h' hE hI hsz hk=>?_
  rf wpAny_pyIter_enum hE ?_
  have I2:Inv X pins σ H1 { s1 with heap:=h' }:=I1.kept (t':=s1.toks) fun b o e=>hk b o e
  rf ⟨_,[s1.heap.objs.size + 1,s1.heap.objs.size],_,_,H1,rfl,I2,Og l (s1.heap.objs.size + 1) s1.heap.objs.size (Nat.ne_of_gt (Nat.lt_succ_self _)),⟨⟨_,hE⟩,hI⟩,fun b hb=>?_,q⟩
  have hb:s1.heap.objs.size≤b:=by
   rcases List.mem_cons.mp hb with z | z
   ·rw [z]; xt Nat.le_succ _
   ·have z:b = s1.heap.objs.size:=by simpa using z
    rw [z]; xt Nat.le_refl _
  xt I1.uR hb (I1.hok.fresh hb)
theorem Iz:∀ {ds:List D} {k i:Nat} {d:D},ds[i]? = some d→(Mi.pP k ds)[i]? = some (.tup [.int ((k + i:Nat):Int),d])
 | [],_,_,_,h=>by simp at h
 | d :: r,k,0,e,h=>by simp at h; subst h; rfl
 | d :: r,k,i + 1,e,h=>by
  have:=Iz (ds:=r) (k:=k + 1) (i:=i) (d:=e) (by simpa using h)
  rw [Mi.pP,List.getElem?_cons_succ,this]
  rw [show k + 1 + i = k + (i + 1) by omega]
theorem vX:∀ (ds:List D) (k:Nat),(Mi.pP k ds).length = ds.length
 | [],_=>rfl
 | d :: r,k=>by rw [Mi.pP,List.length_cons,List.length_cons,vX r]
theorem Xa {x:D} {k:List D→Prop} (h:Fin (Mi.gA x) k):∃ ds,x = .lst ds∧k ds:=by
 cases x with
 | lst b=>xt ⟨b,rfl,h⟩
 | _=>xt h.elim
theorem TV {K:Φ} {a:Addr} {ds:List D} {P:Hp→Hp→Prop} (ok:∀ H Hv,P H Hv→Vw H Hv→∃ xs,uY K H a xs∧P2 (Rep Hv) ds xs):ItD (Ite K a) P (Mi.pP 0 ds):=by
 rf ⟨fun i H Hv p v hi=>?_,fun i H Hv x H' p v hi y=>?_,fun H Hv p v=>?_⟩
 ·ob ⟨xs,l,r⟩:=ok H Hv p v
  rw [vX] at hi
  ob ⟨x,hx,_⟩:=r.getL (i:=i) (a:=ds[i]) (by simp [hi])
  xt ⟨xs,x,l,hx⟩
 ·ob ⟨xs,l,r⟩:=ok H Hv p v
  rw [vX] at hi
  ob ⟨q,z,hz,hq,rfl,rfl⟩:=y
  ob ⟨x,hx,rx⟩:=r.getL (i:=i) (a:=ds[i]) (by simp [hi])
  rw [hz xs l] at hx
  cases hx
  ob ⟨g,k⟩:=Fe v (ds:=[.int i,ds[i]]) (xs:=[.int i,z]) (.cons (qe.mpr rfl) (.cons rx .nil)) hq
  rf ⟨_,.tup [.int i,ds[i]],g,?_,k⟩
  rw [Iz (i:=i) (d:=ds[i]) (by simp [hi])]
  simp
 ·ob ⟨xs,l,r⟩:=ok H Hv p v
  xt ⟨xs,l,by rw [vX,r.len]⟩
theorem Xx {M:Nat→Bool} {K:Φ} {ta:TE} {a:Mi.E} (ha:AE M qV ta a):Ob M (TY K ta) (Mi.Nh a):=fun e σ H Hv R I h =>
 ha e σ H Hv _ I ((aq.mp h).mono fun x hx v H1 Hv1 g1 rx=>by
  ob ⟨ds,rfl,hk⟩:=Xa (aq.mp hx)
  ob ⟨p,xs,rfl,l,r⟩:=(nF (H:=Hv1)).mp rx
  xt ⟨p,rfl,⟨xs,(l.same g1.vw.sub).sq⟩,hk (Ite K p) H1 Hv1 (fun H Hv=>Lst Hv p xs∧P2 (Rep Hv) ds xs) g1 (TV fun H Hv z v=>⟨xs,(z.1.same v.sub).sq,z.2⟩) ⟨l,r⟩ fun H1 Hv1 H2 Hv2 z s v=>⟨z.1.same s,cL s z.2⟩⟩)
end
end A
namespace A
open PySem L2 PyProof.Rows
open Mi (D W Rs Fin aq Out Tg)
variable [Tb:iZ]
section
variable {X:Cx} {K:Φ} {M:Nat→Bool} {κ : Kd} {ta tb te tk:TE} {a b k:Mi.E}
theorem uc {Hv:Hp}:∀ {ds:List D} {xs:List V} {bs:List Str},Mi.my ds = some bs→P2 (Rep Hv) ds xs→xs = bs.map V.str
 | [],_,bs,e,r=>by cases e; cases r; rfl
 | .str b :: ds,_,bs,e,r=>by
  cases r with
  | cons x t =>
   cases hb:Mi.my ds with
   | none=>rw [Mi.my,hb] at e; cases e
   | some cs =>
    rw [Mi.my,hb] at e
    cases e
    rw [uc hb t,lU.mp x]; rfl
 | .non :: _,_,_,e,_=>by cases e
 | .int _ :: _,_,_,e,_=>by cases e
 | .bl _ :: _,_,_,e,_=>by cases e
 | .lst _ :: _,_,_,e,_=>by cases e
 | .tup _ :: _,_,_,e,_=>by cases e
theorem Vo (ha:AE M qP ta a) (hb:AE M qP tb b):AE M qV (tBM K "str" (rJoin K) ta (iW tb rD)) (Mi.m2 Mi.Nr a b):=fun e σ H Hv Q I h=>by
 ob ⟨x,hx,h⟩:=lJ (aq.mp h)
 ob ⟨y,hy,h⟩:=lJ (aq.mp h)
 cases x with
 | str sep=>cases y with
  | lst ds =>
   ob ⟨ys,hs,h⟩:=jn (aq.mp h)
   ob ⟨hz,h⟩:=Mi.aV h
   rf ha e σ H Hv _ I (by
    rw [hx]
    intro v H1 Hv1 g1 r1
    cases RD.str r1
    rf ⟨rfl,hb e σ H1 Hv1 _ (I.grow g1) (by
     rw [hy]
     intro v2 H2 Hv2 g2 r2
     ob ⟨p,xs,rfl,l,r⟩:=RD.lst g2.vw r2
     have:=uc hs r
     subst this
     xt ⟨sep,p,ys,rfl,rfl,l.sq,hz,(Mi.gG h) _ H2 Hv2 (g1.trans g2) wW⟩)⟩)
  | _=>xt h.elim
 | _=>cases y <;> xt h.elim
theorem Fz {H:Hp} {d:D} {v:V} {y:Mi.Ky} (h:Mi.P0 d = some y) (r:Rep H d v):v = kV y:=by
 cases d with
 | int i=>cases h; xt qe.mp r
 | str i=>cases h; xt lU.mp r
 | _=>cases h
theorem Ac {H:Hp}:∀ {ds:List D} {vs:List V} {ys:List Mi.Ky},Mi.CQ ds = some ys→P2 (Rep H) ds vs→vs = ys.map kV
 | [],_,_,h,r=>by cases h; cases r; rfl
 | d :: ds,_,ys,h,r=>by
  cases r with
  | cons x t =>
   unfold Mi.CQ at h
   cases h1:Mi.P0 d with
   | none=>rw [h1] at h; cases h
   | some y =>
    cases h2:Mi.CQ ds with
    | none=>rw [h1,h2] at h; cases h
    | some zs =>
     rw [h1,h2] at h
     cases h
     rw [Fz h1 x,Ac h2 t]; rfl
theorem W5 {H Hv:Hp} (vw:Vw H Hv) {w:W} {x:V} {d:D} {v:V} {q:Option D→Prop} (hw:RB H Hv w x) (r:Rep Hv d v) (h:Fin (Mi.Xc w d) q):∃ a o o',x = .ref a∧GJ H a v o∧q o'∧match o' with
 | some d'=>∃ v',o = some v'∧Rep Hv d' v'
 | none=>o = none:=by
 cases w with
 | d x=>xt h.elim
 | ex z=>xt h.elim
 | dk kvs =>
  ob ⟨y,hy,h⟩:=jn (aq.mp h)
  have h:q (Mi.Bs kvs y):=h
  have:∃ a kv,x = .ref a∧H a = some (.dK kv)∧JG Hv kvs kv:=by
   rcases hw with ⟨a,kv,e,z,c⟩ | ⟨a,o,e,z,c⟩
   ·xt ⟨a,kv,e,vw.sub _ _ z,c⟩
   ·cases o with
    | dK kv=>xt ⟨a,kv,e,z,c⟩
    | _=>xt c.elim
  ob ⟨a,kv,e,z,c⟩:=this
  have hv:=Fz hy r
  subst hv
  xt ⟨a,_,_,e,GJ.k z,h,MP c⟩
 | dt kvs =>
  cases d with
  | tup ds =>
   ob ⟨y,hy,h⟩:=jn (aq.mp h)
   have h:q (Mi.Bs kvs y):=h
   have:∃ a kv,x = .ref a∧H a = some (.dT kv)∧JG Hv kvs kv:=by
    rcases hw with ⟨a,kv,e,z,c⟩ | ⟨a,o,e,z,c⟩
    ·xt ⟨a,kv,e,vw.sub _ _ z,c⟩
    ·cases o with
     | dT kv=>xt ⟨a,kv,e,z,c⟩
     | _=>xt c.elim
   ob ⟨a,kv,e,z,c⟩:=this
   ob ⟨b,xs,rfl,l,r⟩:=jd.mp r
   have hv:=Ac hy r
   subst hv
   xt ⟨a,_,_,e,GJ.t z (vw.sub _ _ l),h,MP c⟩
  | _=>xt h.elim
theorem YJ (i:Nat) (hk:AE M qV tk k):AE M qV (abe tk (uG i)) (Mi.BJ i k):=fun e σ H Hv Q I h =>
 hk e σ H Hv _ I ((aq.mp h).mono fun d hd v H1 Hv1 g1 r=>by
  ob ⟨w,he,hd⟩:=Lr (aq.mp hd)
  have I1:=I.grow g1
  ob ⟨x,q,z⟩:=I1.any he
  ob ⟨a,o,o',e1,g,h2,m⟩:=W5 g1.vw z r (aq.mp hd)
  rf ⟨x,q,a,o,e1,g,?_⟩
  have:o.isSome = o'.isSome:=by
   cases o' with
   | none=>have m:o = none:=m; rw [m]; rfl
   | some d'=>ob ⟨v',m,_⟩:=m; rw [m]; rfl
  rw [this]
  xt h2 _ H1 Hv1 g1 gP)
theorem Gu {tv:TE} {v:Mi.E} (i:Nat) (hm:M i = true) (hk:AE M qV tk k) (hv:AE M qV tv v):AS M κ (L2.lO (uG i) tk tv) (Mi.lO i k v):=fun H0 Hv0 e σ H Hv D I h=>by
 ob ⟨d,hd,h⟩:=lJ (aq.mp h)
 ob ⟨y,hy,h⟩:=lJ (aq.mp h)
 ob ⟨w,he,h⟩:=Lr (aq.mp h)
 rf hv e σ H Hv _ I.toR0 (by
  rw [hd]
  intro x H1 Hv1 g1 rx
  have I1:=I.grow g1
  ob ⟨p,o,q,q1,n,h0,c⟩:=I1.cell hm he
  rf ⟨.ref p,q,hk e σ H1 Hv1 _ I1.toR0 (by
   rw [hy]
   intro u H2 Hv2 g2 ru
   have I2:=I1.grow g2
   have c2:=c.same g2.vis
   have q2:=g2.old.at q1 c.nt
   have g12:=g1.trans g2
   have rx2:=jE g2.vis rx
   cases w with
   | d x=>xt (show False from aq.mp h).elim
   | ex z=>xt (show False from aq.mp h).elim
   | dk kvs =>
    ob ⟨hz,h⟩:=Mi.aV (aq.mp h)
    ob ⟨ky,hky,h⟩:=jn (aq.mp h)
    cases o with
    | dK kv =>
     have c2:JG Hv2 kvs kv:=c2
     have hu:=Fz hky ru
     subst hu
     rf ⟨p,_,rfl,JB.k q2 (by rw [← P2.len c2,sizeLine_eq]; xt hz),?_⟩
     xt h σ _ Hv2 (I2.write hm he q (show fj Hv2 (.dk (Mi.putK ky d kvs)) (.dK (L2.putK kv ky x)) from MT rx2 c2)) g12.vis
    | _=>xt c2.elim
   | dt kvs =>
    cases y with
    | tup ds =>
     ob ⟨hz,h⟩:=Mi.aV (aq.mp h)
     ob ⟨ky,hky,h⟩:=jn (aq.mp h)
     cases o with
     | dT kv =>
      have c2:JG Hv2 kvs kv:=c2
      ob ⟨b,xs,rfl,l,r⟩:=(jd (H:=Hv2)).mp ru
      have hu:=Ac hky r
      subst hu
      rf ⟨p,_,rfl,JB.t q2 (g2.vw.sub _ _ l) (by rw [← P2.len c2,sizeLine_eq]; xt hz),?_⟩
      xt h σ _ Hv2 (I2.write hm he q (show fj Hv2 (.dt (Mi.putK ky d kvs)) (.dT (L2.putK kv ky x)) from MT rx2 c2)) g12.vis
     | _=>xt c2.elim
    | _=>xt (show False from aq.mp h).elim)⟩)
end
end A
namespace Zp
open PySem PySem.Spec PyProof.Rows L2
variable [Tb:A.iZ]
section
variable {P:Program} {w:World} {B:Around} {F:Value→Shared→Prop} {z:Shared}
theorem ZR {c t:Addr} {i:Nat} {us:Array Value} {u:Value} {R:Value→Shared→Prop} (hc:z.heap.IsTupleIter c t i) (ht:z.heap.IsTuple t us) (hu:us[i]? = some u)
 (hR:∀ h',h'.IsTupleIter c t (i + 1)→Heap.SameBut c z.heap h'→R u { z with heap:=h' }):wpAny (model P w) B (Builtin.SmallTypes.nextOf (.ref c)) R F z:=by
 ob ⟨ob,gb,cb,db⟩:=id hc
 ob ⟨ol,gl,_,nl,dl⟩:=ht
 unfold Builtin.SmallTypes.nextOf
 rf wpAny_bind (wpAny_callSpecial?_slot (name:=Str.ofString "__next__") hc.typeIs PySem.F.slot_tuple_iterator_next (wpAny_call_entry PySem.F.slot_tuple_iterator_next hc.typeIs PySem.F.entry_tuple_iterator_next ?_ (PySem.F.args_tuple_iterator_next_1 _)))
 show wpAny _ _ (field (.ref c) 0 >>= _) _ _ z
 rf wpAny_bind (wpAny_field gb db (x:=.ref t) rfl ?_)
 show wpAny _ _ (if (Value.ref t == Value.none) = true then _ else _) _ _ z
 rw [if_neg (fun q:(Value.ref t == Value.none) = true=>nomatch q)]
 show wpAny _ _ (field (.ref c) 1 >>= _) _ _ z
 rf wpAny_bind (wpAny_field gb db (x:=.int i 0) rfl ?_)
 show wpAny _ _ (seqItems? (.ref t) >>= _) _ _ z
 rf wpAny_bind (wpAny_seqItems gl dl ?_)
 simp only [Int.toNat_natCast,hu]
 rf wpAny_bind (wpAny_setField gb db (by simp) (wpAny_pure ⟨u,rfl,wpAny_pure (hR _ ?_ (Heap.SameBut.update ..))⟩))
 rf ⟨_,Heap.get?_update_self _ gb (Obj.isFreed_of_fields (Obj.data_mapFields db _)),(Obj.cls_mapFields ..).trans cb,?_⟩
 rw [Obj.data_mapFields db]; simp [rawInt]
theorem Kl {c t:Addr} {i:Nat} {us:Array Value} {R:Value→Shared→Prop} (hn:B.handled = none) (hc:z.heap.IsTupleIter c t i) (ht:z.heap.IsTuple t us) (hu:us[i]? = none)
 (hF:∀ h' e,Heap.ExtBut c z.heap h'→(∃ o,h'.get? e = some o∧o.cls = .type "StopIteration")→F (.ref e) { z with heap:=h' }):wpAny (model P w) B (Builtin.SmallTypes.nextOf (.ref c)) R F z:=by
 ob ⟨ob,gb,cb,db⟩:=id hc
 ob ⟨ol,gl,_,nl,dl⟩:=ht
 unfold Builtin.SmallTypes.nextOf
 rf wpAny_bind (wpAny_callSpecial?_slot (name:=Str.ofString "__next__") hc.typeIs PySem.F.slot_tuple_iterator_next (wpAny_call_entry PySem.F.slot_tuple_iterator_next hc.typeIs PySem.F.entry_tuple_iterator_next ?_ (PySem.F.args_tuple_iterator_next_1 _)))
 show wpAny _ _ (field (.ref c) 0 >>= _) _ _ z
 rf wpAny_bind (wpAny_field gb db (x:=.ref t) rfl ?_)
 show wpAny _ _ (if (Value.ref t == Value.none) = true then _ else _) _ _ z
 rw [if_neg (fun q:(Value.ref t == Value.none) = true=>nomatch q)]
 show wpAny _ _ (field (.ref c) 1 >>= _) _ _ z
 rf wpAny_bind (wpAny_field gb db (x:=.int i 0) rfl ?_)
 show wpAny _ _ (seqItems? (.ref t) >>= _) _ _ z
 rf wpAny_bind (wpAny_seqItems gl dl ?_)
 simp only [Int.toNat_natCast,hu]
 rf wpAny_bind (wpAny_rule (wpAny_bind (wpAny_setField gb db (by simp) ?_)))
 show wpAny _ _ (newExc (.type "StopIteration") [] >>= _) _ _ _
 rf wpAny_bind ?_
 simp only [newExc,newTuple]
 rf wpAny_bind (wpAny_newObj_type ?_ (by size_fits))
 rf wpAny_bind (m:=firstArgMember _ _) (wpAny_of_eq (a:=Value.none) (by simp only [firstArgMember]; rfl) (wpAny_newObj_type ?_ (by size_fits)))
 simp only [raiseNew]
 rf wpAny_bind (wpAny_handled ?_)
 first | rw [show B.in1.handled = none from hn] | rw [hn]
 xt wpAny_bind (wpAny_pure (wpAny_throw (hF _ _ (((Heap.SameBut.update ..).extBut.push _).push _) ⟨_,Heap.get?_push_size _ rfl,rfl⟩)))
end
def nm:Bool→String | true => "list" | false => "tuple"
def nmI:Bool→String | true => "list_iterator" | false => "tuple_iterator"
def Lp (k:Bool) (h:Heap) (l:Addr) (us:Array Value):Prop:=∃ o,h.get? l = some o∧o.cls = .type (nm k)∧∃ n,o.data = .seq us n
def Vy (k:Bool) (h:Heap) (c l:Addr) (i:Nat):Prop:=∃ o,h.get? c = some o∧o.cls = .type (nmI k)∧o.data = .fields #[.ref l,.int i 0]
theorem Lp.at {k:Bool} {h h':Heap} {l:Addr} {us:Array Value} (x:Lp k h l us) (f:∀ o,h.get? l = some o→h'.get? l = some o):Lp k h' l us:=let ⟨o,e,r⟩:=x; ⟨o,f o e,r⟩
theorem Vy.at {k:Bool} {h h':Heap} {c l:Addr} {i:Nat} (x:Vy k h c l i) (f:∀ o,h.get? c = some o→h'.get? c = some o):Vy k h' c l i:=let ⟨o,e,r⟩:=x; ⟨o,f o e,r⟩
theorem Vy.cell {k:Bool} {h:Heap} {c l:Addr} {i:Nat} (x:Vy k h c l i):∃ o,h.get? c = some o∧∀ v,o.data≠.cell v:=let ⟨o,e,_,d⟩:=x; ⟨o,e,fun v q=>by rw [d] at q; cases q⟩
section
variable {P:Program} {w:World} {B:Around} {F:Value→Shared→Prop} {z:Shared}
theorem nx {k:Bool} {c t:Addr} {i:Nat} {us:Array Value} {u:Value} {R:Value→Shared→Prop} (hc:Vy k z.heap c t i) (ht:Lp k z.heap t us) (hu:us[i]? = some u)
 (hR:∀ h',Vy k h' c t (i + 1)→Heap.SameBut c z.heap h'→R u { z with heap:=h' }):wpAny (model P w) B (Builtin.SmallTypes.nextOf (.ref c)) R F z:=by
 cases k
 ·xt ZR hc ht hu hR
 ·xt wpAny_nextOf_list_item hc ht hu hR
theorem ZS {k:Bool} {c t:Addr} {i:Nat} {us:Array Value} {R:Value→Shared→Prop} (hn:B.handled = none) (hc:Vy k z.heap c t i) (ht:Lp k z.heap t us) (hu:us[i]? = none)
 (hF:∀ h' e,Heap.ExtBut c z.heap h'→(∃ o,h'.get? e = some o∧o.cls = .type "StopIteration")→F (.ref e) { z with heap:=h' }):wpAny (model P w) B (Builtin.SmallTypes.nextOf (.ref c)) R F z:=by
 cases k
 ·xt Kl hn hc ht hu hF
 ·xt wpAny_nextOf_list_end hn hc ht hu hF
abbrev itO (k:Bool) (l:Addr):Obj:={ cls:=.type (nmI k),data:=.fields #[.ref l,.int 0 0] }
theorem Yq {k:Bool} {l:Addr} {us:Array Value} {R:Value→Shared→Prop} (h:Lp k z.heap l us) (hR:R (.ref z.heap.objs.size) { z with heap:=z.heap.push (itO k l) }):wpAny (model P w) B (pyIter (.ref l)) R F z:=by
 cases k
 ·xt wpAny_pyIter_tuple h hR
 ·xt wpAny_pyIter_list h hR
end
end Zp
namespace Zp
open PySem PySem.Spec PyProof.Rows L2
variable [Tb:A.iZ]
structure Sr where
 k:Bool
 c:Addr
 l:Addr
 us:Array Value
def On (h:Heap) (i:Nat) (q:Sr):Prop:=Vy q.k h q.c q.l i∧Lp q.k h q.l q.us
theorem On.at {h h':Heap} {i:Nat} {q:Sr} (x:On h i q) (f:∀ b o,b = q.c∨b = q.l→h.get? b = some o→h'.get? b = some o):On h' i q :=
 ⟨x.1.at fun o e=>f _ o (.inl rfl) e,x.2.at fun o e=>f _ o (.inr rfl) e⟩
abbrev TupAt (h:Heap) (T:Addr) (vs:List Value):Prop:=h.get? T = some { cls:=.type "tuple", data:=.seq vs.toArray }
structure Ap (z TI TO:Addr) (L:List Sr):Prop where
 TIz:TI≠z
 TOz:TO≠z
 TITO:TI≠TO
 nd:(L.map (·.c)).Nodup
 c:∀ q∈L,q.c≠z∧q.c≠TI∧q.c≠TO
 l:∀ q∈L,q.l≠z∧q.l≠TO∧∀ r∈L,q.l≠r.c
theorem Cz {M:Model} {B:Around} {α β : Type} {b:β} {f:α→β→Sem (ForInStep β)} {E:Value→Shared→Prop} (I:Nat→Shared→Prop):∀ (xs:List α) (n:Nat) (s:Shared),
 (∀ j x,xs[j]? = some x→∀ s,I (n + j) s→wpAny M B (f x b) (fun r s'=>r = .yield b∧I (n + j + 1) s') E s)→I n s→wpAny M B (forIn xs b f) (fun r s'=>r = b∧I (n + xs.length) s') E s
 | [],n,s,_,h=>by
  rw [List.forIn_nil]; xt wpAny_pure ⟨rfl,h⟩
 | x :: r,n,s,hs,h=>by
  rw [List.forIn_cons]
  rf wpAny_bind (wpAny_mono (hs 0 x rfl s h) (fun y s' hy=>?_) fun _ _ e=>e)
  ob ⟨rfl,hy⟩:=hy
  rf wpAny_mono (Cz I r (n + 1) s' (fun j x' e s2 h2=>?_) hy) (fun y s2 h2=>⟨h2.1,?_⟩) fun _ _ e=>e
  ·rw [show n + 1 + j = n + (j + 1) by omega] at h2 ⊢
   xt hs (j + 1) x' (by simpa using e) s2 h2
  ·rw [List.length_cons,show n + (r.length + 1) = n + 1 + r.length by omega]; xt h2.2
section
variable {P:Program} {w:World} {B:Around} {F:Value→Shared→Prop} {s:Shared}
def Kp (z TO:Addr) (L:List Sr) (h h':Heap):Prop:=∀ b o,b≠z→b≠TO→b∉L.map (·.c)→h.get? b = some o→h'.get? b = some o
structure Mid (s:Shared) (z TI TO:Addr) (L:List Sr) (i n:Nat) (s':Shared):Prop where
 zz:IsZip s'.heap z TI TO .ellipsis
 vs:∃ vs:List Value,vs.length = L.length∧TupAt s'.heap TO vs∧∀ (j:Nat) (q:Sr),j < n→L[j]? = some q→vs[j]? = q.us[i]?∧i < q.us.size
 on:∀ (j:Nat) (q:Sr),L[j]? = some q→On s'.heap (if j < n then i + 1 else i) q
 sz:s'.heap.objs.size = s.heap.objs.size
 kp:Kp z TO L s.heap s'.heap
 eq:s' = { s with heap:=s'.heap }
theorem ab7 {L:List Sr} (h:(L.map (·.c)).Nodup) {i j:Nat} {p q:Sr} (hp:L[i]? = some p) (hq:L[j]? = some q) (hij:i≠j):p.c≠q.c:=by
 intro e
 have h1:(L.map (·.c))[i]? = some p.c:=by rw [List.getElem?_map,hp]; rfl
 have h2:(L.map (·.c))[j]? = some q.c:=by rw [List.getElem?_map,hq]; rfl
 ob ⟨l1,g1⟩:=List.getElem?_eq_some_iff.mp h1
 ob ⟨l2,g2⟩:=List.getElem?_eq_some_iff.mp h2
 xt hij ((List.getElem_inj h).mp (by rw [g1,g2,e]))
theorem G3 {z TI TO:Addr} {L:List Sr} {i:Nat} {vs:List Value} {R:Value→Shared→Prop} (hh:B.handled = none) (D:Ap z TI TO L) (h0:L≠[])
 (hz:IsZip s.heap z TI TO .none) (hI:TupAt s.heap TI (L.map fun q=>.ref q.c)) (hO:TupAt s.heap TO vs) (hl:vs.length = L.length) (hL:L.length≤8) (hon:∀ q∈L,On s.heap i q)
 (hR:∀ (h':Heap) (ws:List Value),IsZip h' z TI TO (rawInt s.heap.objs.size)→ws.length = L.length→(∀ (j:Nat) (q:Sr),L[j]? = some q→ws[j]? = q.us[i]?∧i < q.us.size)→TupAt h' TO ws→TupAt h' s.heap.objs.size ws→(∀ q∈L,On h' (i + 1) q) →
  Kp z TO L s.heap h'→R (.ref s.heap.objs.size) { s with heap:=h' })
 (hF:∀ (h':Heap) (e:Addr),Kp z TO L s.heap h'→(∃ o,h'.get? e = some o∧o.cls = .type "StopIteration")→(∃ q∈L,q.us.size≤i)→F (.ref e) { s with heap:=h' }) :
 wpAny (model P w) B (Builtin.«zip.__next__» ⟨[.ref z],[]⟩) (fun fin s'=>∃ v,fin = .done (.ret v)∧R v s') F s:=by
 show wpAny _ _ (field (.ref z) 2 >>= _) _ _ _
 rf wpAny_bind (wpAny_field hz rfl (x:=.bool false) rfl ?_)
 show wpAny _ _ (field (.ref z) 3 >>= _) _ _ _
 rf wpAny_bind (wpAny_field hz rfl (x:=.ref TI) rfl ?_)
 rf wpAny_bind (wpAny_seqItems hI rfl ?_)
 have hne:((L.map fun q=>Value.ref q.c).toArray.isEmpty) = false:=by cases L with | nil=>xt absurd rfl h0 | cons q r=>rfl
 simp only [hne,Bool.false_eq_true,if_false]
 show wpAny _ _ (Builtin.SmallTypes.ownedTupleIsFree (.ref z) >>= _) _ _ _
 rf wpAny_bind ?_
 unfold Builtin.SmallTypes.ownedTupleIsFree
 rf wpAny_bind (wpAny_field hz rfl (x:=.none) rfl (wpAny_pure ?_))
 simp only [if_true]
 rf wpAny_bind (wpAny_rule (wpAny_bind (wpAny_field hz rfl (x:=.ref TO) rfl (wpAny_bind (wpAny_setField_rec hz (by simp) fun h1 hz1 hs1=>?_)))))
 replace hz1:IsZip h1 z TI TO .ellipsis:=hz1
 have M0:Mid s z TI TO L i 0 { s with heap:=h1 }:=⟨hz1,⟨vs,hl,hs1.extBut _ _ D.TOz hO,fun j q h _=>absurd h (Nat.not_lt_zero _)⟩,fun j q e=>(hon q (List.mem_of_getElem? e)).at fun b o hb x=>by
  have hq:=List.mem_of_getElem? e
  rcases hb with rfl | rfl
  ·xt hs1.extBut _ _ (D.c q hq).1 x
  ·xt hs1.extBut _ _ (D.l q hq).1 x,hs1.1,fun b o b1 _ _ x=>hs1.extBut _ _ b1 x,rfl⟩
 rf wpAny_bind (wpAny_mono (Cz (Mid s z TI TO L i) _ 0 _ ?_ M0) ?_ fun _ _ e=>e)
 ·intro j x e s2 M
  rw [Nat.zero_add] at M ⊢
  obtain ⟨q,hq,rfl⟩ : ∃ q,L[j]? = some q∧x = (Value.ref q.c,j):=by
   simp only [List.getElem?_zipIdx,List.getElem?_map,Option.map_map] at e
   ob ⟨q,hq,e⟩:=Option.map_eq_some_iff.mp e
   xt ⟨q,hq,by rw [← e]; simp⟩
  have hqm:=List.mem_of_getElem? hq
  have jlt:j < L.length:=(List.getElem?_eq_some_iff.mp hq).1
  have onq:=M.on j q hq
  rw [if_neg (Nat.lt_irrefl j)] at onq
  ob ⟨ws,wl,wO,wv⟩:=M.vs
  rf wpAny_bind (wpAny_onRaise ?_)
  show wpAny _ _ (Builtin.SmallTypes.nextOf (.ref q.c) >>= _) _ _ _
  cases hu:q.us[i]? with
  | none =>
   rf wpAny_bind (ZS hh onq.1 onq.2 hu fun h3 e2 x3 he=>?_)
   ob ⟨oe,goe,coe⟩:=he
   have hz3:IsZip h3 z TI TO .ellipsis:=x3 _ _ (D.c q hqm).1.symm M.zz
   have hez:e2≠z:=fun y=>by subst y; rw [hz3] at goe; cases goe; simp at coe
   rf wpAny_setField_rec hz3 (by simp) fun h4 _ x4=>?_
   rw [M.eq]
   xt hF h4 e2 (fun b o b1 b2 b3 y=>x4.extBut _ _ b1 (x3 _ _ (fun q'=>b3 (by rw [q']; xt List.mem_map_of_mem hqm)) (M.kp b o b1 b2 b3 y))) ⟨oe,x4.extBut _ _ hez goe,coe⟩ ⟨q,hqm,by simpa using hu⟩
  | some u =>
   rf wpAny_bind (nx onq.1 onq.2 hu fun h3 a3 x3=>wpAny_pure ?_)
   have hO3:TupAt h3 TO ws:=x3.extBut _ _ (D.c q hqm).2.2.symm wO
   rf wpAny_bind (wpAny_seqItems hO3 rfl (wpAny_bind (wpAny_updateSeq hO3 rfl ?_ (by rw [List.size_toArray,wl,sizeLine_eq]; omega) (by simp only [Array.size_setIfInBounds,List.size_toArray]; rw [wl,sizeLine_eq]; omega))))
   rf wpAny_bind (wpAny_letGo (wpAny_pure ⟨rfl,?_⟩))
   have x4:Heap.SameBut TO h3 (h3.update TO (Obj.mapSeq (·.setIfInBounds j u))):=Heap.SameBut.update ..
   have hu':i < q.us.size:=(Array.getElem?_eq_some_iff.mp hu).1
   have up:∀ b o,b≠q.c→b≠TO→s2.heap.get? b = some o→(h3.update TO (Obj.mapSeq (·.setIfInBounds j u))).get? b = some o:=fun b o b1 b2 y=>x4.extBut _ _ b2 (x3.extBut _ _ b1 y)
   rf ⟨up _ _ (D.c q hqm).1.symm D.TOz.symm M.zz,⟨ws.set j u,by rw [List.length_set]; xt wl,?_,fun k r hk hr=>?_⟩,fun k r hr=>?_,?_,fun b o b1 b2 b3 y=>up b o (fun q'=>b3 (by rw [q']; xt List.mem_map_of_mem hqm)) b2 (M.kp b o b1 b2 b3 y),?_⟩
   ·show (h3.update TO _).get? TO = _
    rw [Heap.get?_update_self _ hO3 rfl]
    simp [Obj.mapSeq]
   ·by_cases hkj:k = j
    ·subst hkj
     rw [hq] at hr; cases hr
     rw [List.getElem?_set,if_pos rfl,if_pos ω,hu]
     xt ⟨rfl,hu'⟩
    ·rw [List.getElem?_set,if_neg (fun q=>hkj q.symm)]
     xt wv k r ω hr
   ·have hrm:=List.mem_of_getElem? hr
    by_cases hkj:k = j
    ·subst hkj
     rw [hq] at hr; cases hr
     rw [if_pos (Nat.lt_succ_self _)]
     xt ⟨a3.at fun o y=>x4.extBut _ _ (D.c q hqm).2.2 y,onq.2.at fun o y=>up _ o ((D.l q hqm).2.2 q hqm) (D.l q hqm).2.1 y⟩
    ·have:=M.on k r hr
     rw [show (if k < j then i + 1 else i) = (if k < j + 1 then i + 1 else i) from by
      by_cases h:k < j
      ·rw [if_pos h,if_pos ω]
      ·rw [if_neg h,if_neg ω]] at this
     xt this.at fun b o hb y=>by
      rcases hb with rfl | rfl
      ·xt up _ _ (ab7 D.nd hr hq hkj) (D.c r hrm).2.2 y
      ·xt up _ _ ((D.l r hrm).2.2 q hqm) (D.l r hrm).2.1 y
   ·show (h3.update TO _).objs.size = _
    rw [x4.1,x3.1,M.sz]
   ·rw [M.eq]
 ·rintro r s2 ⟨rfl,M⟩
  have hL2:0 + ((L.map fun q=>Value.ref q.c).toArray.toList.zipIdx).length = L.length:=by simp
  rw [hL2] at M
  ob ⟨ws,wl,wO,wv⟩:=M.vs
  rf wpAny_bind (wpAny_seqItems wO rfl (wpAny_bind (wpAny_newTuple ?_ (by show ws.length≤_; rw [wl,sizeLine_eq]; omega))))
  show wpAny _ _ (Builtin.SmallTypes.ownedTupleHandOut (.ref z) (.ref s2.heap.objs.size) >>= _) _ _ _
  rf wpAny_bind ?_
  unfold Builtin.SmallTypes.ownedTupleHandOut
  have hz6:IsZip (s2.heap.push { cls:=.type "tuple", data:=.seq ws.toArray }) z TI TO .ellipsis:=Heap.get?_push_of_some _ M.zz
  rf wpAny_bind (wpAny_setField_rec hz6 (by simp) fun h7 hz7 x7=>?_)
  replace hz7:IsZip h7 z TI TO (rawInt s2.heap.objs.size):=hz7
  rf wpAny_setField_rec hz7 (by simp) fun h8 hz8 x8=>?_
  replace hz8:IsZip h8 z TI TO (rawInt s2.heap.objs.size):=hz8
  have up:∀ b o,b≠z→s2.heap.get? b = some o→h8.get? b = some o:=fun b o b1 y=>x8.extBut _ _ b1 (x7.extBut _ _ b1 (Heap.get?_push_of_some _ y))
  have hzl:z < s2.heap.objs.size:=Heap.lt_size M.zz
  have hT8:TupAt h8 s2.heap.objs.size ws:=x8.extBut _ _ (Nat.ne_of_gt hzl) (x7.extBut _ _ (Nat.ne_of_gt hzl) (Heap.get?_push_size _ rfl))
  rf wpAny_pure ⟨_,rfl,?_⟩
  show R (.ref s2.heap.objs.size) _
  rw [M.sz] at hz8 hT8 ⊢
  have e:=M.eq
  rw [e]
  xt hR h8 ws hz8 wl (fun j q hq=>wv j q (List.getElem?_eq_some_iff.mp hq).1 hq) (up _ _ D.TOz wO) hT8 (fun q hq=>by
   ob ⟨j,hj⟩:=List.getElem?_of_mem hq
   have:=M.on j q hj
   rw [if_pos (List.getElem?_eq_some_iff.mp hj).1] at this
   xt this.at fun b o hb y=>by
    rcases hb with rfl | rfl
    ·xt up _ _ (D.c q hq).1 y
    ·xt up _ _ (D.l q hq).1 y) fun b o b1 b2 b3 y=>up b o b1 (M.kp b o b1 b2 b3 y)
end
end Zp
namespace Zp
open PySem PySem.Spec PyProof.Rows L2
variable [Tb:A.iZ]
section
variable {P:Program} {w:World} {B:Around} {F':Value→Shared→Prop} {s:Shared}
abbrev zO (TI TO:Addr):Obj:={ cls:=.type "zip", data:=.fields #[.none,.bool false,.bool false,.ref TI,.ref TO] }
abbrev tO (vs:List Value):Obj:={ cls:=.type "tuple", data:=.seq vs.toArray }
theorem mk2 (k1 k2:Bool) (l1 l2:Addr) (xs ys:Array Value) :
 Meets (Builtin.«zip.__new__» ⟨[.type "zip", .ref l1,.ref l2],[]⟩) (fun _ R s=>Lp k1 s.heap l1 xs∧Lp k2 s.heap l2 ys ∧
  ∀ h1 h2 h3 h4:Heap,h1 = s.heap.push (itO k1 l1)→h2 = h1.push (itO k2 l2)→h3 = h2.push (tO [.ref s.heap.objs.size,.ref h1.objs.size])→h4 = h3.push (tO [.none,.none]) →
  R (.ok (.ret (.ref h4.objs.size))) { s with heap:=h4.push (zO h2.objs.size h3.objs.size) }) :=
 .of_wp fun prog w A R s h=>by
  ob ⟨hp,g,d,tk,os⟩:=s; ob ⟨a1,a2,h⟩:=h
  have hsub:=sub_zip
  have b1:Lp k1 (Shared.heap ⟨hp,g,d,tk,os⟩) l1 xs:=a1
  have b2:Lp k2 (Shared.heap ⟨hp.push (itO k1 l1),g,d,tk,os⟩) l2 ys:=a2.at fun o e=>Heap.get?_push_of_some _ e
  wp_walk using Yq b1,Yq b2
  xt ⟨_,rfl,h _ _ _ _ rfl rfl rfl rfl⟩
abbrev Tr:=Bool×Addr×Addr
structure Zs (h:Heap) (z TI TO:Addr) (T:List Tr) (i:Nat):Prop where
 zz:IsZip h z TI TO .none
 ti:TupAt h TI (T.map fun q=>.ref q.2.1)
 to:∃ vs:List Value,vs.length = T.length∧TupAt h TO vs
 it:∀ q∈T,Vy q.1 h q.2.1 q.2.2 i
theorem call2 {k1 k2:Bool} {l1 l2:Addr} {xs ys:Array Value} {R:Value→Shared→Prop} (a1:Lp k1 s.heap l1 xs) (a2:Lp k2 s.heap l2 ys)
 (h:∀ h',Zs h' (s.heap.objs.size + 4) (s.heap.objs.size + 2) (s.heap.objs.size + 3) [(k1,s.heap.objs.size,l1),(k2,s.heap.objs.size + 1,l2)] 0→(∀ c o,s.heap.get? c = some o→h'.get? c = some o) →
  R (.ref (s.heap.objs.size + 4)) { s with heap:=h' }):wpAny (model P w) B (call (.type "zip") [.ref l1,.ref l2]) R F' s:=by
 rf callType_new F.called_zip δ (F.typeCall_zip_2 _ _) (F.newCall_zip_2 _ _) (fun obj=>F.args_object_init_3 obj _ _) F.entry_zip_new (mk2 k1 k2 l1 l2 xs ys) ⟨a1,a2,?_⟩
 intro h1 h2 h3 h4 e1 e2 e3 e4
 have z1:h1.objs.size = s.heap.objs.size + 1:=by rw [e1]; xt Heap.size_push ..
 have z2:h2.objs.size = s.heap.objs.size + 2:=by rw [e2,Heap.size_push,z1]
 have z3:h3.objs.size = s.heap.objs.size + 3:=by rw [e3,Heap.size_push,z2]
 have z4:h4.objs.size = s.heap.objs.size + 4:=by rw [e4,Heap.size_push,z3]
 have p1:∀ c o,s.heap.get? c = some o→h1.get? c = some o:=fun c o x=>by rw [e1]; xt Heap.get?_push_of_some _ x
 have p2:∀ c o,h1.get? c = some o→h2.get? c = some o:=fun c o x=>by rw [e2]; xt Heap.get?_push_of_some _ x
 have p3:∀ c o,h2.get? c = some o→h3.get? c = some o:=fun c o x=>by rw [e3]; xt Heap.get?_push_of_some _ x
 have p4:∀ c o,h3.get? c = some o→h4.get? c = some o:=fun c o x=>by rw [e4]; xt Heap.get?_push_of_some _ x
 have p5:∀ c o,h4.get? c = some o→(h4.push (zO h2.objs.size h3.objs.size)).get? c = some o:=fun c o x=>Heap.get?_push_of_some _ x
 have g1:h1.get? s.heap.objs.size = some (itO k1 l1):=by rw [e1]; xt Heap.get?_push_size _ rfl
 have g2:h2.get? h1.objs.size = some (itO k2 l2):=by rw [e2]; xt Heap.get?_push_size _ rfl
 have g3:h3.get? h2.objs.size = some (tO [.ref s.heap.objs.size,.ref h1.objs.size]):=by rw [e3]; xt Heap.get?_push_size _ rfl
 have g4:h4.get? h3.objs.size = some (tO [.none,.none]):=by rw [e4]; xt Heap.get?_push_size _ rfl
 have g5:(h4.push (zO h2.objs.size h3.objs.size)).get? h4.objs.size = some (zO h2.objs.size h3.objs.size):=Heap.get?_push_size _ rfl
 show _∧_
 rf ⟨⟨_,g5,rfl⟩,?_⟩
 rw [z1] at g2 g3
 rw [z2] at g3
 rw [z3] at g4
 rw [z4] at g5 ⊢
 rw [z2,z3] at g5 p5 ⊢
 xt h _ ⟨g5,p5 _ _ (p4 _ _ g3),⟨_,rfl,p5 _ _ g4⟩,fun q hq=>by
  rcases List.mem_cons.mp hq with rfl | hq
  ·xt ⟨_,p5 _ _ (p4 _ _ (p3 _ _ (p2 _ _ g1))),rfl,rfl⟩
  ·ob rfl:=List.mem_singleton.mp hq
   xt ⟨_,p5 _ _ (p4 _ _ (p3 _ _ g2)),rfl,rfl⟩⟩ fun c o x=>p5 _ _ (p4 _ _ (p3 _ _ (p2 _ _ (p1 _ _ x))))
end
end Zp
namespace Zp
open PySem PySem.Spec PyProof.Rows L2 A
variable [Tb:A.iZ]
def QF (H:Hp) (s:Bool×Addr) (xs:List V):Prop:=match s.1 with
 | true=>Lst H s.2 xs
 | false=>H s.2 = some (.tup xs)
theorem QF.nn {H:Hp} {s:Bool×Addr} {xs:List V} (h:QF H s xs):H s.2≠none:=by
 ob ⟨k,a⟩:=s
 cases k
 ·have h:H a = _:=h
  show H a≠none
  rw [h]; simp
 ·rcases (show Lst H a xs from h) with h | ⟨o,h⟩
  ·show H a≠none
   rw [h]; simp
  ·show H a≠none
   rw [h]; simp
theorem QF.inj {H:Hp} {s:Bool×Addr} {xs ys:List V} (h:QF H s xs) (h':QF H s ys):xs = ys:=by
 ob ⟨k,a⟩:=s
 cases k
 ·have h:H a = some (.tup xs):=h
  have h':H a = some (.tup ys):=h'
  rw [h] at h'; cases h'; rfl
 ·rcases (show Lst H a xs from h) with h | ⟨o,h⟩ <;> rcases (show Lst H a ys from h') with h' | ⟨o',h'⟩ <;> rw [h] at h' <;> cases h' <;> rfl
theorem QF.at {X:Cx} {pins:List (Addr×Obj)} {σ : L2.St} {H:Hp} {s:Shared} {k:Bool} {a:Addr} {xs:List V} (I:Inv X pins σ H s) (h:QF H (k,a) xs):∃ its:List Value,Vals xs its∧Lp k s.heap a its.toArray:=by
 cases k
 ·have h:H a = some (.tup xs):=h
  ob ⟨_,its,rv,o,e,c,_,d⟩:=I.hok a _ h
  xt ⟨its,rv,o,e,c,d⟩
 ·have h:Lst H a xs:=h
  ob ⟨its,rv,⟨o,n,e,c,_,d⟩,_⟩:=I.list h.sq
  xt ⟨its,rv,o,e,c,n,d⟩
abbrev yD (H:Hp) (S:List (Bool×Addr)) (xss:List (List V)):Prop:=P2 (fun s xs=>QF H s xs) S xss
def Itz (S:List (Bool×Addr)):It :=
 ⟨fun i H => ∃ xss, yD H S xss ∧ ∀ xs ∈ xss, i < xs.length,
  fun i H v H'=>∃ p ws,(∀ xss,yD H S xss→P2 (fun (xs:List V) x=>xs[i]? = some x) xss ws)∧H p = none∧v = .ref p∧H' = upd H p (.tup ws),
  fun i H=>∃ xss,yD H S xss∧∃ xs∈xss,xs.length≤i⟩
theorem Hg {H:Hp}:∀ {S:List (Bool×Addr)} {xss yss:List (List V)},yD H S xss→yD H S yss→xss = yss
 | _,_,_,.nil,.nil=>rfl
 | _,_,_,.cons a r,.cons b t=>by rw [a.inj b,Hg r t]
theorem lie {X:Cx} {pins:List (Addr×Obj)} {σ : L2.St} {H:Hp} {s:Shared} (I:Inv X pins σ H s):∀ {T:List Tr} {xss:List (List V)},yD H (T.map fun q=>(q.1,q.2.2)) xss →
 ∃ L:List Sr,L.map (fun q=>(q.k,q.c,q.l)) = T∧(∀ q∈L,Lp q.k s.heap q.l q.us∧H q.l≠none)∧P2 (fun (q:Sr) xs=>Vals xs q.us.toList) L xss
 | [],_,.nil=>⟨[],rfl,fun q h=>absurd h (by simp),.nil⟩
 | (k,c,l) :: T,_,.cons a r=>by
  ob ⟨L,e,h,p⟩:=lie I r
  ob ⟨its,rv,q⟩:=a.at I
  rf ⟨⟨k,c,l,its.toArray⟩ :: L,by rw [List.map_cons,e],fun y hy=>?_,.cons rv p⟩
  rcases List.mem_cons.mp hy with rfl | hy
  ·xt ⟨q,a.nn⟩
  ·xt h y hy
theorem pick {i:Nat}:∀ {L:List Sr} {xss:List (List V)} {ws:List Value},P2 (fun (q:Sr) xs=>Vals xs q.us.toList) L xss→ws.length = L.length→(∀ (j:Nat) (q:Sr),L[j]? = some q→ws[j]? = q.us[i]?∧i < q.us.size) →
 ∃ vws:List V,Vals vws ws∧P2 (fun (xs:List V) x=>xs[i]? = some x) xss vws
 | _,_,[],.nil,_,_=>⟨[],.nil,.nil⟩
 | _,_,w :: ws,.cons (a:=q) (b:=xs) rv t,hl,h=>by
  ob ⟨vws,r,p⟩:=pick t (by simpa using hl) fun j r hr=>by simpa using h (j + 1) r (by simpa using hr)
  ob ⟨e,hi⟩:=h 0 q rfl
  have hlen:=rv.length
  have hix:i < xs.length:=by simp at hlen; omega
  ob ⟨u,hu,ru⟩:=rv.get (i:=i) (x:=xs[i]) (by simp [hix])
  have:some w = some u:=by
   have e':some w = q.us[i]?:=e
   rw [e',← hu]; simp
  cases this
  xt ⟨xs[i] :: vws,.cons ru r,.cons (by simp [hix]) p⟩
 | _,_,[],.cons _ _,hl,_=>by simp at hl
 | _,_,w :: ws,.nil,hl,_=>by simp at hl
structure Ap0 (z TI TO:Addr) (T:List Tr):Prop where
 TIz:TI≠z
 TOz:TO≠z
 TITO:TI≠TO
 nd:(T.map (·.2.1)).Nodup
 c:∀ q∈T,q.2.1≠z∧q.2.1≠TI∧q.2.1≠TO
theorem QX {P:Program} {w:World} {K:Φ} {elts:List Expr} {k1:Nat} {pos:Pos} {z TI TO:Addr} {T:List Tr} (D0:Ap0 z TI TO T) (hT0:T≠[]) (hT8:T.length≤8) :
 Turn P w K (.Tuple elts k1 pos) (Itz (T.map fun q=>(q.1,q.2.2))) (z :: TI :: TO :: T.map (·.2.1)) z (fun i h=>Zs h z TI TO T i) where
 mem:=by simp
 obj:=fun i h st b hb=>by
  rcases List.mem_cons.mp hb with rfl | hb
  ·xt ⟨_,st.zz,fun v q=>by cases q⟩
  rcases List.mem_cons.mp hb with rfl | hb
  ·xt ⟨_,st.ti,fun v q=>by cases q⟩
  rcases List.mem_cons.mp hb with rfl | hb
  ·ob ⟨vs,_,h⟩:=st.to
   xt ⟨_,h,fun v q=>by cases q⟩
  ·ob ⟨q,hq,rfl⟩:=List.mem_map.mp hb
   xt (st.it q hq).cell
 keep:=fun i h h' st kk=>⟨kk z (by simp) _ st.zz,kk TI (by simp) _ st.ti,let ⟨vs,l,e⟩:=st.to; ⟨vs,l,kk TO (by simp) _ e⟩,fun q hq=>(st.it q hq).at fun o e=>kk _ (by simp only [List.mem_cons]; xt .inr (.inr (.inr (List.mem_map_of_mem (f:=fun q:Tr=>q.2.1) hq)))) o e⟩
 item:=by
  intro X hP hw hK hc i pins s σ H E I hf st hg
  subst hP hw hK
  ob ⟨xss,hq,hx⟩:=hg
  ob ⟨L,eL,at_,rL⟩:=lie I hq
  have eT:T.map (fun q=>(Value.ref q.2.1)) = L.map fun q=>.ref q.c:=by rw [← eL,List.map_map]; rfl
  have eC:T.map (fun q=>q.2.1) = L.map fun q=>q.c:=by rw [← eL,List.map_map]; rfl
  have lT:T.length = L.length:=by rw [← eL,List.length_map]
  have inT:∀ q∈L,(q.k,q.c,q.l)∈T:=fun q h=>by rw [← eL]; xt List.mem_map_of_mem (f:=fun q:Sr=>(q.k,q.c,q.l)) h
  have lne:∀ q∈L,∀ b∈z :: TI :: TO :: T.map (·.2.1),q.l≠b:=fun q h b hb e=>(at_ q h).2 (by rw [e]; xt (hf b hb).1)
  have D:Ap z TI TO L:=⟨D0.TIz,D0.TOz,D0.TITO,by rw [← eC]; xt D0.nd,fun q h=>D0.c _ (inT q h),fun q h=>⟨lne q h z (by simp),lne q h TO (by simp),fun r hr=>lne q h r.c (by rw [eC]; simp only [List.mem_cons]; xt .inr (.inr (.inr (List.mem_map_of_mem (f:=fun q:Sr=>q.c) hr))))⟩⟩
  have hO:=st.to
  ob ⟨vs,vl,hO⟩:=hO
  have hTI:=st.ti
  rw [eT] at hTI
  have hty:s.TypeIs (.ref z) "zip" := ⟨_,st.zz,rfl⟩
  unfold pyNext
  rf wpAny_bind (wpAny_attempt (wpAny_callSpecial?_slot (name:=Str.ofString "__next__") hty F.slot_zip_next (wpAny_call_entry F.slot_zip_next hty F.entry_zip_next
   (G3 (by first | xt I.ok.hd hc | (simp; xt I.ok.hd hc)) D (fun e=>hT0 (by rw [e] at lT; xt List.eq_nil_of_length_eq_zero lT)) st.zz hTI hO (by rw [vl,lT]) ω (fun q h=>⟨st.it _ (inT q h),(at_ q h).1⟩) (fun h' ws hz' wl wv hO' hN on' kp=>wpAny_pure ?_) (fun h' e kp he hend=>?_)) (F.args_zip_next_1 _))))
  ·rf ⟨_,rfl,wpAny_letOwnedTupleGo_zip hz' fun h2 hz2 hs2=>?_⟩
   have kk:∀ b o,b∉z :: TI :: TO :: T.map (·.2.1)→s.heap.get? b = some o→h2.get? b = some o:=fun b o hb q=>by
    simp only [List.mem_cons,not_or] at hb
    xt (hs2.2 b hb.1).trans (kp b o hb.1 hb.2.2.1 (by rw [← eC]; xt hb.2.2.2) q)
   have hne:∀ b∈z :: TI :: TO :: T.map (·.2.1),b≠s.heap.objs.size:=fun b hb e=>by
    obtain ⟨o,ho,_⟩ : ∃ o,s.heap.get? b = some o∧True:=by
     rcases List.mem_cons.mp hb with rfl | hb
     ·xt ⟨_,st.zz,trivial⟩
     rcases List.mem_cons.mp hb with rfl | hb
     ·xt ⟨_,st.ti,trivial⟩
     rcases List.mem_cons.mp hb with rfl | hb
     ·xt ⟨_,hO,trivial⟩
     ·ob ⟨q,hq,rfl⟩:=List.mem_map.mp hb
      ob ⟨o,ho,_⟩:=st.it q hq
      xt ⟨o,ho,trivial⟩
    xt absurd (Heap.lt_size ho) (by rw [e]; xt Nat.lt_irrefl _)
   obtain ⟨vws,hv,hy⟩ : ∃ vws:List V,Vals vws ws∧P2 (fun (xs:List V) x=>xs[i]? = some x) xss vws:=by
    xt pick rL wl wv
   have hN2:TupAt h2 s.heap.objs.size ws:=(hs2.2 _ (fun e=>hne z (by simp) e.symm)).trans hN
   rf ⟨.ref s.heap.objs.size,upd H s.heap.objs.size (.tup vws),zp (s:=s) (t':=s.toks) I hf kk (Nat.le_refl _) ⟨?_,ws,hv,⟨_,hN2,rfl,rfl,_,rfl⟩⟩,rfl,⟨_,vws,fun yss h=>by rw [Hg h hq]; xt hy,I.hok.fresh (Nat.le_refl _),rfl,rfl⟩,?_,fun b hb=>?_⟩
   ·rw [hv.length,wl,sizeLine_eq]; omega
   ·rf ⟨hz2,(hs2.2 _ D0.TIz).trans ?_,⟨ws,by rw [wl,lT],(hs2.2 _ D0.TOz).trans hO'⟩,fun q hq2=>?_⟩
    ·xt kp _ _ D0.TIz D0.TITO (fun h=>by
      rw [← eC] at h
      ob ⟨q,hq2,e⟩:=List.mem_map.mp h
      xt (D0.c q hq2).2.1 e) st.ti
    ·rw [← eL] at hq2
     ob ⟨r,hr,rfl⟩:=List.mem_map.mp hq2
     xt (on' r hr).1.at fun o q=>(hs2.2 _ (D.c r hr).1).trans q
   ·rw [aJ (hne b hb)]; xt (hf b hb).1
  ·exfalso
   ob ⟨q,hqm,hle⟩:=hend
   ob ⟨j,hj⟩:=List.getElem?_of_mem hqm
   ob ⟨xs,hxs,rv⟩:=rL.getL hj
   have:=hx xs (List.mem_of_getElem? hxs)
   have:=rv.length
   simp at this
   omega
 done:=by
  intro X hP hw hK hc i pins s σ H E I hf st hg
  subst hP hw hK
  ob ⟨xss,hq,xs0,hx0,hxl⟩:=hg
  ob ⟨L,eL,at_,rL⟩:=lie I hq
  have eT:T.map (fun q=>(Value.ref q.2.1)) = L.map fun q=>.ref q.c:=by rw [← eL,List.map_map]; rfl
  have eC:T.map (fun q=>q.2.1) = L.map fun q=>q.c:=by rw [← eL,List.map_map]; rfl
  have lT:T.length = L.length:=by rw [← eL,List.length_map]
  have inT:∀ q∈L,(q.k,q.c,q.l)∈T:=fun q h=>by rw [← eL]; xt List.mem_map_of_mem (f:=fun q:Sr=>(q.k,q.c,q.l)) h
  have lne:∀ q∈L,∀ b∈z :: TI :: TO :: T.map (·.2.1),q.l≠b:=fun q h b hb e=>(at_ q h).2 (by rw [e]; xt (hf b hb).1)
  have D:Ap z TI TO L:=⟨D0.TIz,D0.TOz,D0.TITO,by rw [← eC]; xt D0.nd,fun q h=>D0.c _ (inT q h),fun q h=>⟨lne q h z (by simp),lne q h TO (by simp),fun r hr=>lne q h r.c (by rw [eC]; simp only [List.mem_cons]; xt .inr (.inr (.inr (List.mem_map_of_mem (f:=fun q:Sr=>q.c) hr))))⟩⟩
  have hO:=st.to
  ob ⟨vs,vl,hO⟩:=hO
  have hTI:=st.ti
  rw [eT] at hTI
  have hty:s.TypeIs (.ref z) "zip" := ⟨_,st.zz,rfl⟩
  unfold pyNext
  rf wpAny_bind (wpAny_attempt (wpAny_callSpecial?_slot (name:=Str.ofString "__next__") hty F.slot_zip_next (wpAny_call_entry F.slot_zip_next hty F.entry_zip_next
   (G3 (by first | xt I.ok.hd hc | (simp; xt I.ok.hd hc)) D (fun e=>hT0 (by rw [e] at lT; xt List.eq_nil_of_length_eq_zero lT)) st.zz hTI hO (by rw [vl,lT]) ω (fun q h=>⟨st.it _ (inT q h),(at_ q h).1⟩) (fun h' ws hz' wl wv hO' hN on' kp=>?_) (fun h' e kp he hend=>?_)) (F.args_zip_next_1 _))))
  ·exfalso
   ob ⟨j,hj⟩:=List.getElem?_of_mem hx0
   ob ⟨q,hqj,rv⟩:=rL.acz hj
   have:=(wv j q hqj).2
   have:=rv.length
   simp at this
   omega
  ·ob ⟨o,ho,hcl⟩:=he
   rf wpAny_bind (wpAny_isInstance (T := "StopIteration") (b:=true) ⟨o,ho,hcl⟩ isSubtype_stop (wpAny_pure ⟨rfl,?_⟩))
   xt uF (s:=s) (t':=s.toks) I hf fun b o hb q=>by
    simp only [List.mem_cons,not_or] at hb
    xt kp b o hb.1 hb.2.2.1 (by rw [← eC]; xt hb.2.2.2) q
 self:=fun _ i s Q E st h=>wpAny_pyIter_zip st.zz h
end Zp
namespace Mi
def tZ:D→Rs (List D)
 | .lst ds=>.ok ds
 | .tup ds=>.ok ds
 | _=>.no
def KJ (a b:E):I:=fun e=>(a e).bind fun x=>(b e).bind fun y=>(tZ x).bind fun ds=>(tZ y).bind fun es=>.ok (nO ds es)
def adT (a b c:E):I:=fun e=>(a e).bind fun x=>(b e).bind fun y=>(c e).bind fun z=>(tZ x).bind fun ds=>(tZ y).bind fun es=>(tZ z).bind fun fs=>.ok (Uk ds es fs)
end Mi
namespace Zp
open PySem PySem.Spec PyProof.Rows L2 A
open Mi (D W Rs Fin aq)
variable [Tb:A.iZ]
theorem QF.same {H H':Hp} {s:Bool×Addr} {xs:List V} (h:gJ H H') (q:QF H s xs):QF H' s xs:=by
 ob ⟨k,a⟩:=s
 cases k
 ·xt h _ _ q
 ·xt Lst.same (a:=a) h q
theorem pq {H H':Hp} {S:List (Bool×Addr)} {xss:List (List V)} (h:gJ H H') (q:yD H S xss):yD H' S xss:=q.imp fun _ _ x=>x.same h
def acT (dss:List (List D)) (dz:List D):Prop:=(∀ i,i < dz.length→∃ us,dz[i]? = some (.tup us)∧P2 (fun (ds:List D) u=>ds[i]? = some u) dss us)∧∃ ds∈dss,ds.length = dz.length
theorem picks {Hv:Hp} {i:Nat}:∀ {dss:List (List D)} {xss:List (List V)} {us:List D} {ws:List V},P2 (P2 (Rep Hv)) dss xss→P2 (fun (ds:List D) u=>ds[i]? = some u) dss us→P2 (fun (xs:List V) x=>xs[i]? = some x) xss ws→P2 (Rep Hv) us ws
 | _,_,_,_,.nil,.nil,.nil=>.nil
 | _,_,_,_,.cons a r,.cons b s,.cons c t=>.cons (a.get b c) (picks r s t)
theorem R6 {α β : Type} {F:α→β→Prop}:∀ {l:List α} {m:List β} {b:β},P2 F l m→b∈m→∃ a∈l,F a b
 | _,_,_,.cons x t,h=>by
  rcases List.mem_cons.mp h with rfl | h
  ·xt ⟨_,List.mem_cons_self ..,x⟩
  ·ob ⟨a,ha,q⟩:=R6 t h
   xt ⟨a,List.mem_cons_of_mem _ ha,q⟩
theorem Ew {α β : Type} {F:α→β→Prop}:∀ {l:List α} {m:List β} {a:α},P2 F l m→a∈l→∃ b∈m,F a b
 | _,_,_,.cons x t,h=>by
  rcases List.mem_cons.mp h with rfl | h
  ·xt ⟨_,List.mem_cons_self ..,x⟩
  ·ob ⟨a,ha,q⟩:=Ew t h
   xt ⟨a,List.mem_cons_of_mem _ ha,q⟩
def ZP (S:List (Bool×Addr)) (dss:List (List D)) (xss:List (List V)) (_ Hv:Hp):Prop:=yD Hv S xss∧P2 (P2 (Rep Hv)) dss xss
theorem WQ {S:List (Bool×Addr)} {dss:List (List D)} {xss:List (List V)} {dz:List D} (hz:acT dss dz):ItD (Itz S) (ZP S dss xss) dz:=by
 rf ⟨fun i H Hv p v hi=>?_,fun i H Hv x H' p v hi y=>?_,fun H Hv p v=>?_⟩
 ·ob ⟨us,_,hu⟩:=hz.1 i hi
  rf ⟨xss,pq v.sub p.1,fun xs hx=>?_⟩
  ob ⟨ds,hd,r⟩:=R6 p.2 hx
  ob ⟨u,_,e⟩:=Ew hu hd
  have:=(List.getElem?_eq_some_iff.mp e).1
  rw [← r.len]; xt this
 ·ob ⟨us,hd,hu⟩:=hz.1 i hi
  ob ⟨q,ws,hw,hq,rfl,rfl⟩:=y
  have r:=picks p.2 hu (hw xss (pq v.sub p.1))
  ob ⟨g,k⟩:=Fe v r hq
  xt ⟨_,.tup us,g,hd,k⟩
 ·ob ⟨ds,hd,e⟩:=hz.2
  ob ⟨xs,hx,r⟩:=Ew p.2 hd
  xt ⟨xss,pq v.sub p.1,xs,hx,by rw [← r.len]; omega⟩
theorem XQ:∀ ds es:List D,acT [ds,es] (Mi.nO ds es)
 | [],es=>⟨fun i h=>absurd h (by simp [Mi.nO]),[],by simp,by simp [Mi.nO]⟩
 | d :: r,[]=>⟨fun i h=>absurd h (by simp [Mi.nO]),[],by simp,by simp [Mi.nO]⟩
 | d :: r,e :: s=>by
  ob ⟨h1,ds,hd,hl⟩:=XQ r s
  rf ⟨fun i hi=>?_,?_⟩
  ·cases i with
   | zero=>xt ⟨[d,e],rfl,.cons rfl (.cons rfl .nil)⟩
   | succ i =>
    ob ⟨us,a,b⟩:=h1 i (by simpa [Mi.nO] using hi)
    rf ⟨us,by simpa [Mi.nO] using a,?_⟩
    cases b with
    | cons x t =>
     cases t with
     | cons y t=>cases t; xt .cons (by simpa using x) (.cons (by simpa using y) .nil)
  ·rcases List.mem_cons.mp hd with rfl | hd
   ·xt ⟨d :: ds,by simp,by simp [Mi.nO,hl]⟩
   ·ob rfl:=List.mem_singleton.mp hd
    xt ⟨e :: ds,by simp,by simp [Mi.nO,hl]⟩
theorem Yy {x:D} {k:List D→Prop} (h:Fin (Mi.tZ x) k):∃ ds,(x = .lst ds∨x = .tup ds)∧k ds:=by
 cases x with
 | lst b=>xt ⟨b,.inl rfl,h⟩
 | tup b=>xt ⟨b,.inr rfl,h⟩
 | _=>xt h.elim
theorem Ul {H:Hp} {x:D} {ds:List D} {v:V} (h:x = .lst ds∨x = .tup ds) (r:Rep H x v):∃ k a xs,v = .ref a∧QF H (k,a) xs∧P2 (Rep H) ds xs:=by
 rcases h with rfl | rfl
 ·ob ⟨a,xs,e,l,r⟩:=nF.mp r
  xt ⟨true,a,xs,e,l,r⟩
 ·ob ⟨a,xs,e,l,r⟩:=jd.mp r
  xt ⟨false,a,xs,e,l,r⟩
section
variable {X:Cx} {elts:List Expr} {k1:Nat} {tpos:Pos} {M:Nat→Bool}
theorem Ws {a b:Nat} (h:a≠b):@Ne Addr a b:=h
theorem acA {n:Nat}:∀ {b:Nat},b∈([n + 4,n + 2,n + 3,n,n + 1]:List Nat)→n≤b:=fun {b} h=>by simp at h; omega
theorem ap2 (n:Nat) (k k':Bool) (l l':Addr):Ap0 (n + 4) (n + 2) (n + 3) [(k,n,l),(k',n + 1,l')] :=
 ⟨Ws ω,Ws ω,Ws ω,by show ([n,n + 1]:List Nat).Nodup; simp,fun q hq=>by
  rcases List.mem_cons.mp hq with rfl | hq
  ·xt ⟨Ws (show n≠n + 4 by omega),Ws (show n≠n + 2 by omega),Ws (show n≠n + 3 by omega)⟩
  ·ob rfl:=List.mem_singleton.mp hq
   xt ⟨Ws (show n + 1≠n + 4 by omega),Ws (show n + 1≠n + 2 by omega),Ws (show n + 1≠n + 3 by omega)⟩⟩
def acq (ta tb:TE):TI:=fun σ H R=>ta σ H fun x H1=>tb σ H1 fun y H2=>∃ S xss,[x,y] = S.map (fun s:Bool×Addr=>V.ref s.2)∧S.length = 2∧yD H2 S xss∧R (Itz S) H2
theorem Wc {a b:Expr} {ta tb:TE} {p pos:Pos} (hg:Gl X "zip") (hm:X.mg "zip" = none) (ha:PE X a ta) (hb:PE X b tb) (hs:starEach [a,b] X.env = [(false,eval a X.env),(false,eval b X.env)]:=by rfl) (hs0:starEach [a,b] X.env = (false,eval a X.env) :: starEach [b] X.env:=by rfl) (hs1:starEach [b] X.env = (false,eval b X.env) :: starEach [] X.env:=by rfl) (hpl:(backTo pos (starEach [b] X.env)).any (·.1) = false:=by rfl) :
 PI X (.Tuple elts k1 tpos) (.Call (.Name "zip" p) [a,b] [] pos) (acq ta tb):=by
 intro pins s σ H R I h
 rf Call_ (uP I hg hm boot_zip (PyProof.Rows.callWith_type1 (dY (aj ha (aj hb au hs1) hs0 pos pins s σ H (fun vs H1=>∃ S xss,vs = S.map (fun s:Bool×Addr=>V.ref s.2)∧S.length = 2∧yD H1 S xss∧R (Itz S) H1) I ?_) fun us s1 ⟨vs,H1,I1,r1,q1⟩=>?_) hs0 hpl))
 ·xt h
 ·ob ⟨S,xss,e,hl,hS,q⟩:=q1
  obtain ⟨⟨k,l⟩,⟨k',l'⟩,rfl⟩ : ∃ x y,S = [x,y]:=by
   match S,hl with
   | [x,y],_=>xt ⟨x,y,rfl⟩
  subst e
  have hS0:=hS
  cases hS with
  | cons s1' t =>
  cases t with
  | cons s2' t =>
  cases t
  cases r1 with
  | cons u1 r1 =>
  cases r1 with
  | cons u2 r1 =>
  cases r1
  cases u1; cases u2
  ob ⟨i1,_,a1⟩:=s1'.at I1
  ob ⟨i2,_,a2⟩:=s2'.at I1
  rf call2 a1 a2 fun h' hZ hk=>wpAny_pyIter_zip hZ.zz ?_
  have I2:Inv X pins σ H1 { s1 with heap:=h' }:=I1.kept (t':=s1.toks) fun b o e=>hk b o e
  rf ⟨_,_,_,_,H1,rfl,I2,QX (z:=s1.heap.objs.size + 4) (TI:=s1.heap.objs.size + 2) (TO:=s1.heap.objs.size + 3) (ap2 _ k k' l l') (by simp) (by simp),hZ,fun b hb=>?_,q⟩
  have hb:s1.heap.objs.size≤b:=acA hb
  xt I1.uR hb (I1.hok.fresh hb)
theorem Xw {ta tb:TE} {a b:Mi.E} (ha:AE M qV ta a) (hb:AE M qV tb b):Ob M (acq ta tb) (Mi.KJ a b):=fun e σ H Hv R I h =>
 ha e σ H Hv _ I ((aq.mp h).mono fun x hx v H1 Hv1 g1 rx=>hb e σ H1 Hv1 _ (I.grow g1) ((aq.mp hx).mono fun y hy u H2 Hv2 g2 ry=>by
  ob ⟨ds,hd,hk⟩:=Yy (aq.mp hy)
  ob ⟨es,he,hk⟩:=Yy (aq.mp hk)
  ob ⟨k,a,xs,rfl,s1,r1⟩:=Ul hd (jE g2.vis (show Rep Hv1 x v from rx))
  ob ⟨k',a',ys,rfl,s2,r2⟩:=Ul he (show Rep Hv2 y u from ry)
  have S2:yD Hv2 [(k,a),(k',a')] [xs,ys]:=.cons s1 (.cons s2 .nil)
  xt ⟨[(k,a),(k',a')],[xs,ys],rfl,rfl,pq g2.vw.sub S2,hk (Itz [(k,a),(k',a')]) H2 Hv2 (ZP [(k,a),(k',a')] [ds,es] [xs,ys]) (g1.trans g2) (WQ (XQ ds es)) ⟨S2,.cons r1 (.cons r2 .nil)⟩ fun _ _ _ _ z s _=>⟨pq s z.1,z.2.imp fun _ _ q=>cL s q⟩⟩))
end
end Zp
namespace Zp
open PySem PySem.Spec PyProof.Rows L2 A
open Mi (D W Rs Fin aq)
variable [Tb:A.iZ]
section
variable {X:Cx} {pins:List (Addr×Obj)} {σ : L2.St} {H:Hp} {s:Shared} {B:Around} {E:Value→Shared→Prop} {Q:Value→Shared→Prop} {b:Bool}
theorem kit_at {x:V} {u t:Value} (I:Inv X pins σ H s) (rx:RelV x u) (ty:um X.K H x t):∃ P:Heap→Prop,PySem.W.KitX X.K u t P∧P s.heap∧u≠.builtin "__main__.__loader__#opaque" := by
 cases ty with
 | non=>cases (show u = Value.none from rx); xt ⟨_,PySem.W.kitx_none,True.intro,fun z=>nomatch z⟩
 | bl y=>cases (show u = Value.bool y from rx); xt ⟨_,PySem.W.kitx_bool,True.intro,fun z=>nomatch z⟩
 | int i=>ob ⟨t,q⟩:=(show ∃ t,u = Value.int i t from rx); cases q; xt ⟨_,PySem.W.kitx_int,True.intro,fun z=>nomatch z⟩
 | str y=>ob ⟨t,q⟩:=(show ∃ t,u = Value.str y t from rx); cases q; xt ⟨_,PySem.W.kitx_str,True.intro,fun z=>nomatch z⟩
 | flt y=>ob ⟨t,q⟩:=(show ∃ t,u = Value.float y t from rx); cases q; xt ⟨_,PySem.W.kitx_float,True.intro,fun z=>nomatch z⟩
 | @lst a xs ea =>
  cases (show u = Value.ref a from rx)
  ob ⟨_,_,n,_,h1⟩:=(show bY X.prog X.w H s.heap a (.lst xs) from I.hok a _ ea)
  xt ⟨_,PySem.W.kitx_list,⟨_,h1,rfl⟩,fun z=>nomatch z⟩
 | @frz a ob xs ea =>
  cases (show u = Value.ref a from rx)
  ob ⟨_,_,_,n,_,h1⟩:=(show bY X.prog X.w H s.heap a (.frz ob (.lst xs)) from I.hok a _ ea)
  xt ⟨_,PySem.W.kitx_list,⟨_,h1,rfl⟩,fun z=>nomatch z⟩
 | @tup a xs ea =>
  cases (show u = Value.ref a from rx)
  ob ⟨_,_,_,o,h1,h2,_⟩:=(show bY X.prog X.w H s.heap a (.tup xs) from I.hok a _ ea)
  xt ⟨_,PySem.W.kitx_tuple,⟨o,h1,h2⟩,fun z=>nomatch z⟩
 | @dK a kvs ea =>
  cases (show u = Value.ref a from rx)
  ob ⟨_,_,vs,_,o,es,ep,h1,h2,_⟩:=(show bY X.prog X.w H s.heap a (.dK kvs) from I.hok a _ ea)
  xt ⟨_,PySem.W.kitx_dict,⟨o,h1,h2.1⟩,fun z=>nomatch z⟩
 | @dT a kvs ea =>
  cases (show u = Value.ref a from rx)
  ob ⟨_,_,xs,_,o,es,ep,h1,h2,_⟩:=(show bY X.prog X.w H s.heap a (.dT kvs) from I.hok a _ ea)
  xt ⟨_,PySem.W.kitx_dict,⟨o,h1,h2.1⟩,fun z=>nomatch z⟩
 | @ins a C dx fs ea cl ha hn htk hm =>
  cases (show u = Value.ref a from rx)
  ob ⟨mA,O,_⟩:=M9 I.hok ea
  ob ⟨od,J,_⟩:=O.look
  xt ⟨_,PySem.W.kitx_own (cl.get _) cl.hd ha hn htk hm,J,fun z=>nomatch z⟩
theorem Ls:∀ {Ts:List String} {us:List Value},Vals (Ts.map V.ty) us→us = Ts.map .type
 | [],_,.nil=>rfl
 | T :: r,_,.cons a t=>by
  have a:_ = Value.type T:=a
  rw [a,Ls t]; rfl
def Yc (K:Φ):List V→Hp→VK→Prop:=fun xs H Q=>∃ (x:V) (t:Value) (tp:Addr) (Ts:List String) (b:Bool),xs = [x,.ref tp]∧H tp = some (.tup (Ts.map V.ty))∧um K H x t∧PySem.W.kitAny K t (Ts.map .type) = some b∧Q (.bl b) H
theorem Df:ir X (.builtin "isinstance") (Yc X.K):=by
 intro pins s σ H xs us Q I r h
 ob ⟨x,t,tp,Ts,b,rfl,ht,ty,e,q⟩:=h
 ob ⟨u,w',rfl,rx,rt⟩:=vals2 r
 cases (show w' = Value.ref tp from rt)
 ob ⟨_,its,rv,o,h1,h2,_,n,h3⟩:=(show bY X.prog X.w H s.heap tp (.tup (Ts.map V.ty)) from I.hok tp _ ht)
 ob rfl:=Ls rv
 ob ⟨c,d,dt,sl⟩:=o
 simp only at h2 h3
 subst h2 h3
 ob ⟨P,kx,p,hn⟩:=kit_at I rx ty
 xt PySem.W.kia_tup kx I.yw p h1 e hn fun tk=>⟨.bl b,H,I.tok tk,rfl,q⟩
end
theorem Vm {K:Φ} {d:D}:∀ {Ts:List String},(∀ T∈Ts,Bm K T)→PySem.W.kitAny K (.type (Mi.JR d)) (Ts.map .type) = some (Ts.any fun t=>Mi.Af t d)
 | [],_=>rfl
 | T :: r,h=>by
  have h1:=h T (List.mem_cons_self ..) d
  have h2:=Vm (d:=d) fun T' hT=>h T' (List.mem_cons_of_mem _ hT)
  rw [List.map_cons,PySem.W.kitAny,h1]
  cases e:Mi.Af T d
  ·simp only [List.any_cons,e,Bool.false_or]
   xt h2
  ·simp only [List.any_cons,e,Bool.true_or]
theorem aa5 {K:Φ} {S T:String} (h:Bm K S) (g:Bm K T):∀ U∈[S,T],Bm K U:=fun U hU=>by
 rcases List.mem_cons.mp hU with rfl | hU
 ·xt h
 ·ob rfl:=List.mem_singleton.mp hU
  xt g
def Y7:List String→TA
 | []=>rD
 | T :: r=>iW (tC (.ty T)) (Y7 r)
theorem Lx:∀ (Ts:List String) (σ : L2.St) (H:Hp) (Q:List V→Hp→Prop),Q (Ts.map V.ty) H→Y7 Ts σ H Q
 | [],_,_,_,h=>h
 | T :: r,σ,H,Q,h=>Lx r σ H _ h
section
variable {M:Nat→Bool} {K:Φ} {ta:TE} {a:Mi.E}
theorem YH {Ts:List String} (hT:∀ T∈Ts,Bm K T) (hl:Ts.length≤8) (ha:AE M qP ta a):AE M qV (VP (Yc K) (iW ta (iW (VM (Y7 Ts)) rD))) (Mi.m1 (Mi.yC Ts) a):=fun e σ H Hv Q I h =>
 ha e σ H Hv _ I ((aq.mp h).mono fun x hx v H1 Hv1 g1 rx=>Lx Ts σ H1 _ ⟨by rw [List.length_map,sizeLine_eq]; omega,fun p hp=>by
  have g2:cg H1 Hv1 (upd H1 p (.tup (Ts.map V.ty))) (upd Hv1 p (.tup (Ts.map V.ty))):=.new g1.vw hp
  have g:=g1.trans g2
  xt ⟨v,_,p,Ts,_,rfl,aU,XR g.vw (RB.grow g2 rx),Vm hT,(Mi.gG hx) _ _ _ g gP⟩⟩)
end
end Zp
namespace A
open PySem L2 PyProof.Rows
open Mi (D W Rs Fin aq Out Tg)
variable [Tb:iZ]
open Mi (met)
theorem Mt (val:Nat→Str):∀ i,(met val i).length≤i
 | 0=>Nat.le_refl _
 | i + 1=>by
  have ih:=Mt val i
  unfold met
  split
  ·omega
  ·rw [List.length_append,List.length_singleton]; omega
theorem Ms (val:Nat→Str) (i:Nat) (x:Str):decide (x∈met val (i + 1)) = (decide (x∈met val i) || decide (x = val i)):=by
 rw [met]
 split
 ·rename_i h
  by_cases e:x = val i
  ·subst e; simp [h]
  ·simp [e]
 ·rw [show decide (x∈met val i ++ [val i]) = (decide (x∈met val i) || decide (x = val i)) from by simp]
section
variable {prog:Program} {w:World} {Ar:Around} {R:Result→Shared→Prop} {I S:Addr} {fp wr:List Addr} {n:Nat} {P:Nat→Value→Prop} {St:Nat→Heap→Prop}
theorem set_same {h:Heap} {a:Addr} {F G:Str→Bool} {n m:Nat} (hS:h.SetOf (PySem.strKind prog w) a F n) (e:∀ k,F k = G k) (en:n = m):h.SetOf (PySem.strKind prog w) a G m:=by
 rw [← funext e,← en]; xt hS
theorem zx {h h':Heap} {a:Addr} {F:Str→Bool} {n:Nat} (hS:h.SetOf (PySem.strKind prog w) a F n) (k:∀ o,h.get? a = some o→h'.get? a = some o):h'.SetOf (PySem.strKind prog w) a F n :=
 let ⟨o,es,ep,t,ho,r⟩:=hS; ⟨o,es,ep,t,k o ho,r⟩
theorem Ri (W:Walks prog w Ar.in1 I fp wr n P St) (hSf:S∉fp) (val:Nat→Str) (hv:∀ i v,P i v→∃ t,v = .str (val i) t) (hb:n + 1 < scanBound) :
 ∀ (k i:Nat) (s:Shared),n = i + k→St i s.heap→s.heap.SetOf (PySem.strKind prog w) S (fun x=>decide (x∈met val i)) (met val i).length →
  (∀ h' tk,(∀ b o,b≠S→b∉wr→s.heap.get? b = some o→h'.get? b = some o)→h'.SetOf (PySem.strKind prog w) S (fun x=>decide (x∈met val n)) (met val n).length→R (.ok (.ret .none)) { s with heap:=h',toks:=tk }) →
  codeAny (model prog w) Ar (.builtin "set.update.loop" ⟨[.ref S,.ref I],[]⟩) R s:=by
 have hSw:S∉wr:=fun z=>hSf (W.sub _ z)
 intro k
 induction k with
 | zero =>
  intro i s hk st hS hR
  obtain rfl:n = i:=hk
  rf codeAny_builtin PyProof.Rows.F.entry_set_update_loop (by
   rw [Around.under_plainId PyProof.Rows.F.plain_set_update_loop _]
   show wpAny _ Ar.in1 (pyNext (.ref I) >>= _) _ _ s
   rf wpAny_bind (W.done s _ _ st fun h' tk hm=>?_)
   xt wpAny_pure (hR h' tk (fun b o _ hw e=>hm b o hw e) (zx hS fun o e=>hm S o hSw e)))
 | succ k ih =>
  intro i s hk st hS hR
  have hlt:i < n:=by omega
  rf codeAny_builtin PyProof.Rows.F.entry_set_update_loop (by
   rw [Around.under_plainId PyProof.Rows.F.plain_set_update_loop _]
   show wpAny _ Ar.in1 (pyNext (.ref I) >>= _) _ _ s
   rf wpAny_bind (W.item i s _ _ hlt st fun v h1 tk hP st1 hm=>?_)
   ob ⟨t,rfl⟩:=hv i v hP
   have hS1:=zx hS fun o e=>hm S o hSw e
   show wpAny _ Ar.in1 (holding [Value.str (val i) t] (setAdd S (.str (val i) t)) >>= _) _ _ _
   rf wpAny_bind (wpAny_holding ?_)
   unfold setAdd
   rf wpAny_holding (wpAny_bind ((PySem.strKind prog w).pyHash (k:=val i) (strKind_is _ _ _ _) ?_))
   have room:(met val i).length + 1 < scanBound:=by have:=Mt val i; omega
   rf wpAny_setAddHashed_of (knd:=PySem.strKind prog w) (strKind_is _ _ _ _) rfl hS1 room fun h2 sb hS2=>?_
   have hS3:h2.SetOf (PySem.strKind prog w) S (fun x=>decide (x∈met val (i + 1))) (met val (i + 1)).length:=by
    rf set_same hS2 (fun x=>(Ms val i x).symm) ?_
    rw [met]
    by_cases hm:val i∈met val i
    ·simp [hm]
    ·simp [hm]
   rf wpAny_pure ⟨plainId_quiet PyProof.Rows.F.plain_set_update_loop _,ih (i + 1) _ ω (W.frame _ _ _ st1 fun b hb o e=>(sb.2 b fun z=>hSf (z ▸ hb)).trans e) hS3 fun h3 tk3 hm3 hS4=>?_⟩
   xt hR h3 tk3 (fun b o hbS hw e=>hm3 b o hbS hw ((sb.2 b hbS).trans (hm b o hw e))) hS4)
abbrev Ej (led:Bool):Obj:={ cls:=.type "set", dict:=none,data:=.set #[] 0 (.fresh 0 0 led) }
end
section
variable {X:Cx} {M:Nat→Bool} {te:TE} {a:Mi.E}
theorem LC:∀ {ys:List Str} {us:List Value} (i:Nat) (v:Value),Vals (ys.map V.str) us→us[i]? = some v→∃ t,v = Value.str (ys.getD i Str.empty) t
 | [],_,i,v,.nil,h=>by simp at h
 | y :: ys,_,0,v,.cons r _,h=>by
  simp at h
  subst h
  xt r
 | y :: ys,_,i + 1,v,.cons _ t,h=>by
  have:=LC (ys:=ys) i v t (by simpa using h)
  simpa using this
end
end A
namespace A
open PySem L2 PyProof.Rows
open Mi (D W Rs Fin aq Out Tg)
variable [Tb:iZ]
section
variable {prog:Program} {w:World} {Ar:Around}
theorem Gf:entryFor table "set.__eq__" = some Builtin.«frozenset.__eq__» :=
 entryFor_alias (id' := "frozenset.__eq__") (by kernel_rfl) rfl (by decide +kernel) (by kernel_rfl)
theorem Ei {E:Value→Shared→Prop} {s:Shared} {x:Addr} {o:Obj} {es:Array (Int×Value)} {ep:Nat} {t:SetTable} {Q:Nat→Shared→Prop} (ho:s.heap.get? x = some o) (hd:o.data = .set es ep t) (hf:t.fits es.size = true) (h:Q es.size s):wpAny (model prog w) Ar (Builtin.Frozenset.sizeOf x) Q E s:=by
 unfold Builtin.Frozenset.sizeOf setEntries
 rf wpAny_bind (wpAny_bind (wpAny_setState_of ho hd hf (wpAny_pure ?_)))
 xt wpAny_pure h
theorem YX {E:Value→Shared→Prop} {s:Shared} {x:Addr} {o:Obj} {es:Array (Int×Value)} {ep:Nat} {t:SetTable} {id:String} {Q:Unit→Shared→Prop} (ho:s.heap.get? x = some o) (hd:o.data = .set es ep t) (hf:t.fits es.size = true) (h:Q () s):wpAny (model prog w) Ar (Builtin.Frozenset.unchanged id x ep) Q E s:=by
 unfold Builtin.Frozenset.unchanged
 rf wpAny_bind (wpAny_setEpoch_of ho hd hf ?_)
 rw [if_neg (by simp)]
 xt wpAny_pure h
theorem J1 {x:Value} (h:x.scannable = true):Builtin.Frozenset.quietEq x = pure true:=by
 cases x <;> first | rfl | (simp [Value.scannable] at h)
def allIn (G:Str→Bool) (knd:PySem.KeyKind prog w Str) (es:List (Int×Value)):Prop:=∀ e∈es,∀ k,knd.is k e.2 = true→G k = true
theorem YT {E:Value→Shared→Prop} {s:Shared} {x y:Addr} {ox oy:Obj} {es fs:Array (Int×Value)} {ep ep2:Nat} {t t2:SetTable} {Q:List (Int×Value)→Shared→Prop} (ho:s.heap.get? x = some ox) (hd:ox.data = .set es ep t) (hf:t.fits es.size = true) (ho2:s.heap.get? y = some oy) (hd2:oy.data = .set fs ep2 t2) (hf2:t2.fits fs.size = true)
 (he:ElemsOf (PySem.strKind prog w) es.toList) (he2:ElemsOf (PySem.strKind prog w) fs.toList) (h:Q es.toList s):wpAny (model prog w) Ar (Builtin.Frozenset.walkUnseen x y) Q E s:=by
 unfold Builtin.Frozenset.walkUnseen setEntries
 rf wpAny_bind (wpAny_bind (wpAny_setState_of ho hd hf (wpAny_pure ?_)))
 rf wpAny_bind (wpAny_bind (wpAny_setState_of ho2 hd2 hf2 (wpAny_pure ?_)))
 dsimp only
 have hs:∀ e∈es.toList ++ fs.toList,e.2.scannable = true:=fun e he'=>by
  rcases List.mem_append.mp he' with z | z
  ·xt (he e z).2
  ·xt (he2 e z).2
 revert hs
 generalize es.toList ++ fs.toList = l
 intro hs
 induction l with
 | nil=>xt wpAny_bind (wpAny_pure (wpAny_pure h))
 | cons e r ih =>
  rw [List.forIn_cons,J1 (hs e (.head _))]
  simp only [pure_bind,Bool.not_true,Bool.false_eq_true,if_false]
  xt ih fun e he=>hs e (.tail _ he)
theorem Rf {E:Value→Shared→Prop} {s:Shared} {x y:Addr} {ox oy:Obj} {es fs:Array (Int×Value)} {ep ep2:Nat} {t t2:SetTable} {G:Str→Bool} {m:Nat} {id:String} {Q:Bool→Shared→Prop} (ho:s.heap.get? x = some ox) (hd:ox.data = .set es ep t) (hf:t.fits es.size = true) (ho2:s.heap.get? y = some oy) (hd2:oy.data = .set fs ep2 t2) (hf2:t2.fits fs.size = true)
 (he:ElemsOf (PySem.strKind prog w) es.toList) (he2:ElemsOf (PySem.strKind prog w) fs.toList) (hy:s.heap.SetOf (PySem.strKind prog w) y G m) (hs:es.size = fs.size)
 (h:∀ b:Bool,(b = true↔allIn G (PySem.strKind prog w) es.toList)→Q b s):wpAny (model prog w) Ar (Builtin.Frozenset.subsetOf id x y) Q E s:=by
 unfold Builtin.Frozenset.subsetOf
 rf wpAny_bind (Ei ho hd hf ?_)
 rf wpAny_bind (Ei ho2 hd2 hf2 ?_)
 rw [if_neg ω]
 rf wpAny_bind (wpAny_setEpoch_of ho hd hf ?_)
 rf wpAny_bind (YT ho hd hf ho2 hd2 hf2 he he2 ?_)
 revert he h
 generalize es.toList = l
 intro he h
 induction l generalizing Q with
 | nil=>xt wpAny_bind (wpAny_pure (wpAny_pure (h true ⟨fun _ e z=>(List.not_mem_nil z).elim,fun _=>rfl⟩)))
 | cons e r ih =>
  rw [List.forIn_cons]
  ob ⟨⟨k,hk,hh⟩,hsc⟩:=he.head
  ob ⟨hh0,xe⟩:=e
  dsimp only at hk hh hsc
  subst hh
  dsimp only
  simp only [bind_assoc]
  rf wpAny_bind (wpAny_holding (wpAny_setFind_of hk hsc hy fun r hr=>?_))
  have key:∀ r',allIn G (PySem.strKind prog w) (((PySem.strKind prog w).hash k,xe) :: r')↔G k = true∧allIn G (PySem.strKind prog w) r':=fun r'=>by
   constructor
   ·intro z
    xt ⟨z _ (.head _) k hk,fun e he=>z e (.tail _ he)⟩
   ·rintro ⟨z1,z2⟩ e he k' hk'
    rcases List.mem_cons.mp he with rfl | he
    ·have:=PySem.KeyKind.is_eq_decide hk k'
     rw [hk'] at this
     have e:k' = k:=by simpa using this.symm
     rw [e]; xt z1
    ·xt z2 e he k' hk'
  cases hg:G k with
  | false =>
   rw [hg] at hr
   have:r.isNone = true:=by cases r <;> simp_all
   rw [if_pos this]
   simp only [pure_bind]
   rf wpAny_pure (h false ⟨fun z=>(Bool.noConfusion z),fun z=>?_⟩)
   rw [((key _).mp z).1] at hg
   xt hg.symm ▸ rfl
  | true =>
   rw [hg] at hr
   have:¬ r.isNone = true:=by cases r <;> simp_all
   rw [if_neg this]
   simp only [bind_assoc]
   rf wpAny_bind (YX ho hd hf ?_)
   simp only [pure_bind]
   xt ih he.tail fun b hb=>h b (hb.trans ⟨fun z=>(key _).mpr ⟨hg,z⟩,fun z=>((key _).mp z).2⟩)
theorem V2 {E:Value→Shared→Prop} {s:Shared} {x y:Addr} {F G:Str→Bool} {n m:Nat} {Q:Value→Shared→Prop} (hx:s.heap.SetOf (PySem.strKind prog w) x F n) (hy:s.heap.SetOf (PySem.strKind prog w) y G m) (hu:Ar.units < cLine)
 (h:∀ b:Bool,(b = true↔n = m∧∀ k,F k = true→G k = true)→Q (.bool b) s):wpAny (model prog w) Ar (compareOp .Eq (.ref x) (.ref y)) Q E s:=by
 ob ⟨ox,es,ep,t,hox,hex,hdx,hel,hmem,hb,hf,hn⟩:=id hx
 ob ⟨oy,fs,ep2,t2,hoy,hey,hdy,hel2,hmem2,hb2,hf2,hm⟩:=id hy
 have tx:s.TypeIs (.ref x) "set" := ⟨_,hox,hex.1⟩
 have ty:s.TypeIs (.ref y) "set" := ⟨_,hoy,hey.1⟩
 show wpAny _ _ (richCompare .Eq (.ref x) (.ref y)) Q E s
 rf wpAny_richCompare_same_room (op:=.Eq) tx ty PySem.F.slot_set_eq (wpAny_call_entry PySem.F.slot_set_eq tx Gf ?_ (PySem.F.args_set_eq_2 _ _)) hu
 have g1:isSubtype (.type "set") (.type "set") = pure true:=by rw [isSubtype_type]; kernel_rfl
 have g2:isSubtype (.type "set") (.type "frozenset") = pure false:=by rw [isSubtype_type]; kernel_rfl
 unfold Builtin.«frozenset.__eq__»
 show wpAny _ _ (Builtin.Frozenset.slot1 "__eq__" _ >>= _) _ _ _
 rf wpAny_bind (m:=Builtin.Frozenset.slot1 "__eq__" _) (wpAny_pure ?_)
 dsimp only
 have any:∀ {Q':Bool→Shared→Prop} {A':Around},Q' true s→wpAny (model prog w) A' (Builtin.Frozenset.isAnySet (.ref y)) Q' E s:=fun h'=>by
  unfold Builtin.Frozenset.isAnySet
  xt wpAny_bind (wpAny_isInstance ty g1 (wpAny_pure h'))
 rf wpAny_bind (any ?_)
 rw [if_neg (by simp)]
 rf wpAny_bind (m:=Builtin.Frozenset.addrOf (.ref x)) (wpAny_pure ?_)
 rf wpAny_bind (m:=Builtin.Frozenset.addrOf (.ref y)) (wpAny_pure ?_)
 rf wpAny_bind (Ei hox hdx hf ?_)
 rf wpAny_bind (Ei hoy hdy hf2 ?_)
 by_cases hs:es.size = fs.size
 ·rw [if_neg (by simpa using hs)]
  rf wpAny_bind (wpAny_bind (wpAny_bind (m:=isInstance (.ref x) (.type "frozenset")) (wpAny_isInstance tx g2 (wpAny_pure ?_))))
  rw [if_neg (by simp)]
  rf Rf hox hdx hf hoy hdy hf2 hel hel2 hy hs fun b hb=>?_
  rf wpAny_pure ⟨_,rfl,(fun z=>nomatch z),h b (hb.trans ?_)⟩
  constructor
  ·intro z
   rf ⟨by omega,fun k hk=>?_⟩
   ob ⟨e,he,hk'⟩:=(hmem k).mp hk
   xt z e he k hk'
  ·rintro ⟨_,z⟩ e he k hk
   xt z k ((hmem k).mpr ⟨e,he,hk⟩)
 ·rw [if_pos (by simpa using hs)]
  rf wpAny_bind (wpAny_pure (wpAny_pure ⟨_,rfl,(fun z=>nomatch z),h false ⟨fun z=>Bool.noConfusion z,fun z=>?_⟩⟩))
  xt absurd (hn.trans (z.1.trans hm.symm)) hs
end
end A
namespace Mi
open PySem
def ae0 (x:D) (lo hi:Option Int):Rs D:=match x with
 | .lst ds=>.ok (.lst (qy ds lo hi))
 | .tup ds=>match lo,hi with
  | some a,none=>aK (1≤a∧a≤(ds.length:Int)∧ds.length≤16777216) (.ok (.tup (ds.drop a.toNat)))
  | _,_=>.no
 | _=>.no
def Uq:D→D→Rs D
 | .tup i,.tup j=>aK (i.length + j.length≤16777216) (.ok (.tup (i ++ j)))
 | _,_=>.no
def dG (xs ys:List Str):Bool:=xs.all (fun x=>decide (x∈ys)) && ys.all (fun y=>decide (y∈xs))
def acP:D→Option (List Str)
 | .tup ds=>my ds
 | _=>none
def Gh (x y:D):Rs D:=(pH (acP x)).bind fun xs=>(pH (acP y)).bind fun ys=>aK (xs.length + 1 < 4096∧ys.length + 1 < 4096) (.ok (.bl (dG xs ys)))
end Mi
namespace A
open PySem L2 PyProof.Rows
open Mi (D W Rs Fin aq Out Tg)
open Mi (met)
variable [Tb:iZ]
section
variable {prog:Program} {w:World} {Ar:Around} {R:Result→Shared→Prop} {I S:Addr} {fp wr:List Addr} {n:Nat} {P:Nat→Value→Prop} {St:Nat→Heap→Prop}
theorem YS {B:Around} (hh:B.handled = none) (c l:Addr) (hne:l≠c) (us:Array Value) :
 Walks prog w B c [c,l] [c] us.size (fun i v=>us[i]? = some v) (fun i h=>h.IsTupleIter c l i∧h.IsTuple l us) where
 sub:=fun b hb=>by simp at hb; simp [hb]
 frame:=fun _ _ _ st f=>⟨let ⟨o,e,r⟩:=st.1; ⟨o,f c (by simp) o e,r⟩,let ⟨o,e,r⟩:=st.2; ⟨o,f l (by simp) o e,r⟩⟩
 item:=fun i s Q E hi st hQ=>wpAny_pyNext_tuple_item st.1 st.2 (x:=us[i]) (by simp [hi]) fun h' a b =>
  hQ _ h' s.toks (by simp [hi]) ⟨a,let ⟨o,e,r⟩:=st.2; ⟨o,b.extBut _ _ hne e,r⟩⟩ fun z o hz e=>b.extBut z o (fun q=>hz (by simp [q])) e
 done:=fun s Q E st hQ=>wpAny_pyNext_tuple_end hh st.1 st.2 (by simp) fun h' a=>hQ h' s.toks fun z o hz e=>a z o (fun q=>hz (by simp [q])) e
 self:=fun _ _ _ _ st hQ=>wpAny_pyIter_tupleiter st.1 hQ
theorem GC {h:Heap} {l:Addr} {us:Array Value} (x:h.IsTuple l us) (o:Obj):(h.push o).IsTuple l us:=let ⟨q,e,r⟩:=x; ⟨q,Heap.get?_push_of_some _ e,r⟩
set_option maxHeartbeats 8000000 in
theorem Gm {E:Value→Shared→Prop} {s:Shared} {l:Addr} {items:Array Value} {xs:List Str} {Q:Value→Shared→Prop} (hh:Ar.handled = none) (hl:s.heap.IsTuple l items) (hx:∀ i v,items[i]? = some v→∃ t,v = Value.str (xs.getD i Str.empty) t) (hb:items.size + 1 < scanBound)
 (h:∀ h' tk,h'.SetOf (PySem.strKind prog w) s.heap.objs.size (fun x=>decide (x∈met (fun i=>xs.getD i Str.empty) items.size)) (met (fun i=>xs.getD i Str.empty) items.size).length →
  (∀ b o,b < s.heap.objs.size→s.heap.get? b = some o→h'.get? b = some o)→Q (.ref s.heap.objs.size) { s with heap:=h',toks:=tk }):wpAny (model prog w) Ar (call (.type "set") [.ref l]) Q E s:=by
 ob ⟨c0,tl0,hmro⟩:=PySem.F.called_set.mro
 have mk1:=PySem.F.called_set.made
 have mk2:=PySem.F.called_set.sub
 rf wpAny_call (codeAny_of_tree (by
  show wpAny _ _ (callAny (.type "set") _) _ _ _
  rf wpAny_pure ⟨Code.quiet_builtin _ (by decide +kernel),codeAny_builtin PySem.F.entry_type_call (by
   rw [Around.under_plain (weight_type_call_type "set" [.ref l] []) rfl]
   have mk3:=PySem.F.called_set.notType
   have mk4:=PySem.F.called_set.canCreate
   have mk5:=PySem.F.typeCall_set_1 (.ref l)
   repeat (any_goals (first | assumption | wp_step))
   rf codeAny_mono (code_set_new_1 (.ref l) (E:=E) (Q₁:=fun obj s1=>∃ led:Bool,obj = .ref s.heap.objs.size∧s1 = { s with heap:=s.heap.push { cls:=.type "set", dict:=none,data:=.set #[] 0 (.fresh 0 0 led) } }) fun led=>⟨led,rfl,rfl⟩) fun r s1 hr=>?_
   cases r with
   | error e=>xt hr
   | ok fl =>
    cases fl with
    | ret obj =>
     ob ⟨led,rfl,rfl⟩:=hr
     have gS:(s.heap.push (Ej led)).get? s.heap.objs.size = some (Ej led):=Heap.get?_push_size _ rfl
     have tS:Shared.TypeIs { s with heap:=s.heap.push (Ej led) } (.ref s.heap.objs.size) "set" := ⟨_,gS,rfl⟩
     have mk6:=PySem.F.called_set.init.lookup
     have mk7:=PySem.F.called_set.init.bind (.ref s.heap.objs.size)
     repeat (any_goals (first | assumption | wp_step))
     rf codeAny_mono (codeAny_call_builtin (R:=wants (fun v s2=>v = .none∧∃ h' tk,s2 = { s with heap:=h',toks:=tk }∧h'.SetOf (PySem.strKind prog w) s.heap.objs.size (fun x=>decide (x∈met (fun i=>xs.getD i Str.empty) items.size)) (met (fun i=>xs.getD i Str.empty) items.size).length ∧
      ∀ b o,b < s.heap.objs.size→s.heap.get? b = some o→h'.get? b = some o) E) PySem.F.called_set.init.plain PySem.F.entry_set_init (check_set_init_1 tS (by
      ob ⟨⟨oc,od,oda,osl⟩,hol,hcl,nl,hdl⟩:=hl
      obtain rfl:oc = .type "tuple" := hcl
      obtain rfl:oda = .seq items nl:=hdl
      have lS:l < s.heap.objs.size:=Heap.lt_size hol
      have gl:(s.heap.push (Ej led)).get? l = some ⟨.type "tuple", od,.seq items nl,osl⟩:=Heap.get?_push_of_some _ hol
      have n1:=PySem.F.sub_tuple_set
      have n2:=PySem.F.sub_tuple_frozenset
      have n3:(Value.type "tuple" == Value.type "dict") = false:=by decide
      have li:(s.heap.push (Ej led)).IsTuple l items:=⟨_,gl,rfl,nl,rfl⟩
      unfold Builtin.«set.__init__» noKeywords Builtin.Frozenset.updateFrom
      generalize gp:pyIter = PI
      wp_walk
      subst gp
      rf wpAny_pyIter_tuple li (wpAny_bind (wpAny_runValue ?_))
      have sz:(s.heap.push (Ej led)).objs.size = s.heap.objs.size + 1:=Heap.size_push ..
      have nI:l≠(s.heap.push (Ej led)).objs.size:=by rw [sz]; xt Nat.ne_of_lt (Nat.lt_succ_of_lt lS)
      have nS:s.heap.objs.size∉[(s.heap.push (Ej led)).objs.size,l]:=by
       rw [sz]
       intro z
       rcases List.mem_cons.mp z with z | z
       ·xt Nat.ne_of_lt (Nat.lt_succ_self _) z
       ·xt Nat.ne_of_gt lS (by simpa using z)
      rf Ri (YS (by simp [hh]) _ l nI items) nS (fun i=>xs.getD i Str.empty) hx hb items.size 0 _ ω ⟨⟨_,Heap.get?_push_size _ rfl,rfl,rfl⟩,GC li _⟩ ?_ ?_
      ·xt set_same ((setObjOf_fresh (knd:=PySem.strKind prog w) led).setOf (Heap.get?_push_of_some _ gS) (by unfold scanBound; omega)) (fun _=>rfl) rfl
      ·intro h' tk hk hS
       show wpAny _ _ _ _ _ _
       rf wpAny_pure ?_
       show wpAny _ _ (ret Value.none) _ _ _
       rf wpAny_pure ⟨rfl,h',tk,rfl,hS,fun b o hb e=>?_⟩
       rf hk b o (Nat.ne_of_lt hb) (fun z=>?_) (Heap.get?_push_of_some _ (Heap.get?_push_of_some _ e))
       have z:b = (s.heap.push (Ej led)).objs.size:=by simpa using z
       rw [sz] at z
       xt absurd hb (by rw [z]; xt Nat.not_lt.mpr (Nat.le_succ _))))) fun r2 s2 h2=>?_
     cases r2 with
     | error e=>xt h2
     | ok fl2 =>
      cases fl2 with
      | ret v =>
       ob ⟨rfl,h',tk,rfl,hS,hk⟩:=h2
       repeat (any_goals (first | assumption | wp_step))
       xt h _ _ hS hk
      | _=>xt h2.elim
    | _=>xt hr.elim)⟩))
end
end A
namespace A
open PySem L2 PyProof.Rows
open Mi (D W Rs Fin aq Out Tg met)
variable [Tb:iZ]
theorem Mu (val:Nat→Str):∀ (i:Nat) (x:Str),x∈met val i↔∃ j,j < i∧val j = x
 | 0,x=>by simp [met]
 | i + 1,x=>by
  have ih:=Mu val i x
  have h:=Ms val i x
  have:x∈met val (i + 1)↔x∈met val i∨x = val i:=by
   constructor
   ·intro z
    have:=h.symm.trans (decide_eq_true z)
    simpa using this
   ·intro z
    have:=h.trans (by simpa using z:(decide (x∈met val i) || decide (x = val i)) = true)
    simpa using this
  rw [this,ih]
  constructor
  ·rintro (⟨j,hj,e⟩ | e)
   ·xt ⟨j,by omega,e⟩
   ·xt ⟨i,by omega,e.symm⟩
  ·rintro ⟨j,hj,e⟩
   by_cases q:j = i
   ·subst q; xt .inr e.symm
   ·xt .inl ⟨j,by omega,e⟩
theorem Ku (val:Nat→Str):∀ i,(met val i).Nodup
 | 0=>by simp [met]
 | i + 1=>by
  have ih:=Ku val i
  unfold met
  split
  ·xt ih
  ·rename_i h
   rw [List.nodup_append]
   xt ⟨ih,by simp,fun a ha b hb e=>h (by simp at hb; rw [← hb,← e]; xt ha)⟩
theorem Fi (ys:List Str) (x:Str):x∈met (fun i=>ys.getD i Str.empty) ys.length↔x∈ys:=by
 rw [Mu]
 constructor
 ·rintro ⟨j,hj,e⟩
  rw [← e]
  simp only [List.getD_eq_getElem?_getD,List.getElem?_eq_getElem hj,Option.getD_some]
  xt List.getElem_mem hj
 ·intro h
  ob ⟨j,hj,e⟩:=List.getElem_of_mem h
  xt ⟨j,hj,by simp [List.getElem?_eq_getElem hj,e]⟩
theorem sub_len {α : Type} [DecidableEq α]:∀ {l m:List α},l.Nodup→(∀ x∈l,x∈m)→l.length≤m.length
 | [],m,_,_=>Nat.zero_le _
 | a :: l,m,nd,h=>by
  have nd:=List.nodup_cons.mp nd
  have h1:∀ x∈l,x∈m.erase a:=fun x hx=>(List.mem_erase_of_ne (fun e:x = a=>nd.1 (by rw [← e]; xt hx))).mpr (h x (.tail _ hx))
  have:=sub_len nd.2 h1
  rw [List.length_erase_of_mem (h a (.head _))] at this
  have:0 < m.length:=List.length_pos_of_mem (h a (.head _))
  simp only [List.length_cons]; omega
theorem VR {α : Type} [DecidableEq α] {l m:List α} (nd:l.Nodup) (h:∀ x∈l,x∈m) (e:m.length≤l.length):∀ x∈m,x∈l:=fun x hx=>by
 by_cases q:x∈l
 ·xt q
 ·have:∀ y∈x :: l,y∈m:=fun y hy=>by
   rcases List.mem_cons.mp hy with rfl | hy
   ·xt hx
   ·xt h y hy
  have:=sub_len (List.nodup_cons.mpr ⟨q,nd⟩) this
  simp only [List.length_cons] at this; omega
theorem same_iff (xs ys:List Str):Mi.dG xs ys = true↔Mi.Ab xs = Mi.Ab ys∧∀ k,k∈xs→k∈ys:=by
 have e:Mi.dG xs ys = true↔(∀ k∈xs,k∈ys)∧(∀ k∈ys,k∈xs):=by
  simp [Mi.dG,List.all_eq_true]
 rw [e]
 unfold Mi.Ab
 have ax:=Fi xs
 have ay:=Fi ys
 have nx:=Ku (fun i=>xs.getD i Str.empty) xs.length
 have ny:=Ku (fun i=>ys.getD i Str.empty) ys.length
 constructor
 ·rintro ⟨h1,h2⟩
  xt ⟨Nat.le_antisymm (sub_len nx fun k hk=>(ay k).mpr (h1 k ((ax k).mp hk))) (sub_len ny fun k hk=>(ax k).mpr (h2 k ((ay k).mp hk))),h1⟩
 ·rintro ⟨h1,h2⟩
  xt ⟨h2,fun k hk=>(ax k).mp (VR nx (fun z hz=>(ay z).mpr (h2 z ((ax z).mp hz))) (Nat.le_of_eq h1.symm) k ((ay k).mpr hk))⟩
section
variable {X:Cx} {K:Φ} {M:Nat→Bool} {te ta tb:TE} {a b:Mi.E}
def Oq (X:Cx) (a:Addr) (ys:List Str):HO:=.ext fun h=>∃ F,h.SetOf (PySem.strKind X.prog X.w) a F (Mi.Ab ys)∧∀ k,F k = true↔k∈ys
def Ry (X:Cx):List V→Hp→VK→Prop:=fun xs H Q=>∃ p ys,xs = [.ref p]∧yR X.K H p (ys.map V.str)∧ys.length + 1 < 4096∧∀ l,H l = none→Q (.ref l) (upd H l (Oq X l ys))
theorem CW (hc:X.calm = true):ir X (.type "set") (Ry X):=by
 intro pins s σ H xs us Q I r h
 ob ⟨p,ys,rfl,hq,hz,q⟩:=h
 ob ⟨u,rfl,ru⟩:=vals1 r
 cases ru
 ob ⟨its,rv,pl,_⟩:=I.tuple hq
 have hl:=rv.length
 have e:its.toArray.size = ys.length:=by rw [List.size_toArray,← hl,List.length_map]
 rf Gm (xs:=ys) (I.ok.hd hc) pl (fun i v hv=>LC i v rv (by simpa using hv)) (by rw [e]; xt hz) fun h' tk hS hk=>?_
 rw [e] at hS
 rf ⟨.ref s.heap.objs.size,upd H s.heap.objs.size (Oq X s.heap.objs.size ys),I.laid (fun b o q=>hk b o (Heap.lt_size q) q) (Nat.le_refl _) ⟨⟨_,hS,fun k=>?_⟩,?_,fun h1 h2 ⟨F,z,y⟩ k=>⟨F,zx z k,y⟩⟩,rfl,q _ (I.hok.fresh (Nat.le_refl _))⟩
 ·have:=Fi ys k
  simpa using this
 ·ob ⟨o,_,_,_,ho,_⟩:=hS
  xt ⟨o,ho⟩
def RC (X:Cx):R2:=fun x y H Q=>∃ a b xs ys,x = .ref a∧y = .ref b∧H a = some (Oq X a xs)∧H b = some (Oq X b ys)∧Q (.bl (Mi.dG xs ys)) H
theorem R9 (hu:X.A.units + 64 < cLine):pR X (compareOp .Eq) (RC X):=by
 intro pins s σ H x y v u Q I rx ry h
 ob ⟨a,b,xs,ys,rfl,rfl,ha,hb,q⟩:=h
 cases rx
 cases ry
 ob ⟨⟨F,hF,eF⟩,_⟩:=I.hok a _ ha
 ob ⟨⟨G,hG,eG⟩,_⟩:=I.hok b _ hb
 rf V2 hF hG ω fun k hk=>?_
 have:k = Mi.dG xs ys:=by
  have e:k = true↔Mi.dG xs ys = true:=hk.trans ((same_iff xs ys).trans ⟨fun z=>⟨z.1,fun x hx=>(eG x).mpr (z.2 x ((eF x).mp hx))⟩,fun z=>⟨z.1,fun x hx=>(eG x).mp (z.2 x ((eF x).mpr hx))⟩⟩).symm
  cases k <;> cases hs:Mi.dG xs ys <;> simp_all
 subst this
 xt ⟨.bl _,H,I,rfl,q⟩
theorem aaq {α : Type} {r:Rs α} {k:α→Prop} (h:Fin r k):∃ a,r = .ok a∧k a:=by
 cases r with
 | ok a=>xt ⟨a,rfl,h⟩
 | ex x=>xt h.elim
 | no=>xt h.elim
theorem Uc {x y:D} {k:D→Prop} (h:Fin (Mi.Gh x y) k):∃ ds es xs ys,x = .tup ds∧y = .tup es∧Mi.my ds = some xs∧Mi.my es = some ys∧xs.length + 1 < 4096∧ys.length + 1 < 4096∧k (.bl (Mi.dG xs ys)):=by
 ob ⟨xs,ex,q1⟩:=jn (aq.mp h)
 ob ⟨ys,ey,q2⟩:=jn (aq.mp q1)
 ob ⟨⟨h1,h2⟩,q3⟩:=Mi.aV q2
 cases x with
 | tup ds=>cases y with
  | tup es=>xt ⟨ds,es,xs,ys,rfl,rfl,ex,ey,h1,h2,Mi.gG q3⟩
  | _=>cases ey
 | _=>cases ex
theorem XC (ha:AE M qP ta a) (hb:AE M qP tb b):AE M qV (tOp (RC X) (VP (Ry X) (iW ta rD)) (VP (Ry X) (iW tb rD))) (Mi.m2 Mi.Gh a b):=fun e σ H Hv Q I h =>
 ha e σ H Hv _ I ((aq.mp h).mono fun x hx v H1 Hv1 g1 rx=>by
  ob ⟨y,hy,hk⟩:=aaq (aq.mp hx)
  ob ⟨ds,es,xs,ys,rfl,rfl,ex,ey,h1,h2,hk⟩:=Uc hk
  ob ⟨p,us,rfl,l,_,r⟩:=RD.tup g1.vw rx
  have:=uc ex r
  subst this
  rf ⟨p,xs,rfl,.inl (.inl l),h1,fun c hc=>?_⟩
  have g2:cg H1 Hv1 (upd H1 c (Oq X c xs)) Hv1:=.Kq g1.vw trivial hc
  rf hb e σ _ Hv1 _ ((I.grow g1).grow g2) ?_
  rw [hy]
  intro v2 H2 Hv2 g3 ry
  ob ⟨p2,us2,rfl,l2,_,r2⟩:=RD.tup g3.vw ry
  have:=uc ey r2
  subst this
  rf ⟨p2,ys,rfl,.inl (.inl l2),h2,fun c2 hc2=>?_⟩
  have g4:cg H2 Hv2 (upd H2 c2 (Oq X c2 ys)) Hv2:=.Kq g3.vw trivial hc2
  rf ⟨c,c2,xs,ys,rfl,rfl,?_,aU,hk _ _ _ (g1.trans (g2.trans (g3.trans g4))) gP⟩
  xt (g3.trans g4).old.at aU)
def Yi (K:Φ):R2:=fun x y H Q=>∃ l b xs zs,x = .ref l∧y = .ref b∧yR K H l xs∧yR K H b zs∧xs.length + zs.length≤sizeLine ∧
 (xs = []→Q (.ref b) H)∧(xs≠[]→zs = []→Q (.ref l) H)∧∀ p,H p = none→Q (.ref p) (upd H p (.tup (xs ++ zs)))
theorem Wo:pR X (binaryOp .Add) (Yi X.K):=by
 intro pins s σ H x y v u Q I rx ry h
 ob ⟨l,b,xs,zs,rfl,rfl,hx,hy,hz,q1,q2,q3⟩:=h
 cases rx
 cases ry
 ob ⟨its,r,t1,_⟩:=I.tuple hx
 ob ⟨its2,r2,t2,_⟩:=I.tuple hy
 have hl:=r.length
 have hl2:=r2.length
 have ty1:=t1.typeIs (s:=s)
 have ty2:=t2.typeIs (s:=s)
 ob ⟨⟨cls,dd,data,sl⟩,ho,hc,n,hd⟩:=id t1
 ob ⟨⟨cls2,dd2,data2,sl2⟩,ho2,hc2,n2,hd2⟩:=id t2
 simp only at hc hd hc2 hd2
 subst hc hd hc2 hd2
 by_cases e1:xs = []
 ·subst e1
  have:its = []:=by cases its <;> simp_all
  subst this
  xt concat_meets ty1 ty2 noFill_tuple_add seq_tuple_add PySem.F.slot_tuple_add PySem.F.entry_tuple_add (PySem.F.args_tuple_add_2 _ _) (tuple_addW0 l b _ _ n n2 dd dd2 sl sl2 rfl) ⟨ho,ho2,⟨.ref b,H,I,rfl,q1 rfl⟩⟩
 ·have i1:¬ its.toArray.isEmpty = true:=by
   intro z
   have:its = []:=by simpa using z
   subst this
   cases xs with
   | nil=>xt e1 rfl
   | cons _ _=>simp at hl
  by_cases e2:zs = []
  ·subst e2
   have:its2 = []:=by cases its2 <;> simp_all
   subst this
   xt concat_meets ty1 ty2 noFill_tuple_add seq_tuple_add PySem.F.slot_tuple_add PySem.F.entry_tuple_add (PySem.F.args_tuple_add_2 _ _) (tuple_addW1 l b _ _ n n2 dd dd2 sl sl2 i1 rfl) ⟨ho,ho2,⟨.ref l,H,I,rfl,q2 e1 rfl⟩⟩
  ·have i2:¬ its2.toArray.isEmpty = true:=by
    intro z
    have:its2 = []:=by simpa using z
    subst this
    cases zs with
    | nil=>xt e2 rfl
    | cons _ _=>simp at hl2
   have q:=q3 _ (I.hok.fresh (Nat.le_refl _))
   rf concat_meets ty1 ty2 noFill_tuple_add seq_tuple_add PySem.F.slot_tuple_add PySem.F.entry_tuple_add (PySem.F.args_tuple_add_2 _ _) (tuple_addW2 l b _ _ n n2 dd dd2 sl sl2 i1 i2 (by rw [List.size_toArray,List.size_toArray]; omega)) ⟨ho,ho2,?_⟩
   rw [show its.toArray ++ its2.toArray = (its ++ its2).toArray by simp]
   xt ⟨.ref s.heap.objs.size,_,I.laid (t':=s.toks) (o:=.tup (xs ++ zs)) (fun b ob q=>Heap.get?_push_of_some _ q) (Nat.le_refl _) ⟨by rw [List.length_append]; omega,_,r.append r2,⟨_,Heap.get?_push_size _ rfl,rfl,rfl,0,rfl⟩⟩,rfl,q⟩
theorem aaE:B2 qV (Yi K) Mi.Uq:=fun x y v u H Hv Q vw rx ry h=>by
 cases x with
 | tup i=>cases y with
  | tup j =>
   ob ⟨hz,h⟩:=Mi.aV h
   have h:=Mi.gG h
   ob ⟨p,xs,rfl,l1,_,r1⟩:=RD.tup vw rx
   ob ⟨p2,ys,rfl,l2,v2,r2⟩:=RD.tup vw ry
   rf ⟨p,p2,xs,ys,rfl,rfl,.inl (.inl l1),.inl (.inl l2),by rw [← r1.len,← r2.len,sizeLine_eq]; xt hz,fun e=>?_,fun e e2=>?_,fun q hq=>?_⟩
   ·subst e
    cases r1
    rf h _ H Hv (.refl vw) ?_
    xt jd.mpr ⟨p2,ys,rfl,v2,r2⟩
   ·subst e2
    cases r2
    rw [List.append_nil] at h
    ob ⟨p,xs,z,l1,v1,r1⟩:=RD.tup vw rx
    cases z
    xt h _ H Hv (.refl vw) (jd.mpr ⟨_,xs,rfl,v1,r1⟩)
   ·ob ⟨g,k⟩:=Fe vw (r1.append r2) hq
    xt h _ _ _ g k
  | _=>xt h.elim
 | _=>xt h.elim
end
end A
namespace So
open PySem PySem.W PyProof.Rows
def JN {α : Type} (n:Nat) (lt:Nat→Nat→Bool):KasT α→(α→Prop)→Prop
 | .ret a,Q=>Q a
 | .ask i j k,Q=>i < n∧j < n∧JN n lt (k (lt i j)) Q
theorem oV {α β : Type} {n:Nat} {lt:Nat→Nat→Bool} {f:α→KasT β} {Q:β→Prop}:∀ {t:KasT α},JN n lt t (fun a=>JN n lt (f a) Q)→JN n lt (t.bind f) Q
 | .ret _,h=>h
 | .ask _ _ k,h=>⟨h.1,h.2.1,oV (t:=k _) h.2.2⟩
theorem iV {α : Type} {n:Nat} {lt:Nat→Nat→Bool} {Q Q':α→Prop} (m:∀ a,Q a→Q' a):∀ {t:KasT α},JN n lt t Q→JN n lt t Q'
 | .ret _,h=>m _ h
 | .ask _ _ k,h=>⟨h.1,h.2.1,iV m (t:=k _) h.2.2⟩
theorem QS {α : Type} {n:Nat} {lt:Nat→Nat→Bool} {cmp:Nat→Nat→(Bool→Shared→Prop)→Shared→Prop} {s:Shared} (hc:∀ i j C,i < n→j < n→C (lt i j) s→cmp i j C s) {Q:α→Prop}:∀ {t:KasT α},JN n lt t Q→t.kasWp cmp (fun a s'=>s' = s∧Q a) s
 | .ret _,h=>⟨rfl,h⟩
 | .ask i j k,h=>hc i j _ h.1 h.2.1 (QS hc (t:=k _) h.2.2)
section
variable {n:Nat} {lt:Nat→Nat→Bool}
structure Ord (n:Nat) (lt:Nat→Nat→Bool):Prop where
 tot:∀ i j,i < n→j < n→i≠j→lt i j = true∨lt j i = true
 asy:∀ i j,i < n→j < n→lt i j = true→lt j i = false
 tr:∀ i j k,i < n→j < n→k < n→lt i j = true→lt j k = true→lt i k = true
abbrev at' (p:Array Nat) (i:Nat):Nat:=p.getD i 0
structure Pm (n:Nat) (p:Array Nat):Prop where
 pm:p.Perm (List.toArray (List.range n))
theorem Pm.size {p:Array Nat} (h:Pm n p):p.size = n:=by have:=h.pm.size_eq; simpa using this
theorem Jq {p:Array Nat} {i:Nat} (h:i < p.size):at' p i = p[i]:=by simp [at',Array.getD,h]
theorem Pm.bd {p:Array Nat} (h:Pm n p) {i:Nat} (hi:i < n):at' p i < n:=by
 have hs:i < p.size:=by rw [h.size]; xt hi
 rw [Jq hs]
 have:p[i]∈(List.toArray (List.range n)).toList:=(Array.perm_iff_toList_perm.mp h.pm).mem_iff.mp (by simp)
 simpa using this
theorem Pm.inj {p:Array Nat} (h:Pm n p) {i j:Nat} (hi:i < n) (hj:j < n) (e:at' p i = at' p j):i = j:=by
 have si:i < p.size:=by rw [h.size]; xt hi
 have sj:j < p.size:=by rw [h.size]; xt hj
 rw [Jq si,Jq sj] at e
 have nd:p.toList.Nodup:=(Array.perm_iff_toList_perm.mp h.pm).nodup_iff.mpr (by simpa using List.nodup_range)
 have e2:p.toList[i]'(by simpa using si) = p.toList[j]'(by simpa using sj):=by simpa using e
 xt (List.getElem_inj nd).mp e2
def Sd (lt:Nat→Nat→Bool) (p:Array Nat) (k:Nat):Prop:=∀ i j,i < j→j < k→lt (at' p i) (at' p j) = true
def Dd (lt:Nat→Nat→Bool) (p:Array Nat) (k:Nat):Prop:=∀ i j,i < j→j < k→lt (at' p j) (at' p i) = true
variable (O:Ord n lt)
include O
theorem not_lt {p:Array Nat} (h:Pm n p) {i j:Nat} (hi:i < n) (hj:j < n) (ne:i≠j) (e:lt (at' p i) (at' p j) = false):lt (at' p j) (at' p i) = true:=by
 rcases O.tot _ _ (h.bd hi) (h.bd hj) (fun z=>ne (h.inj hi hj z)) with z | z
 ·rw [e] at z; cases z
 ·xt z
theorem Sd.more {p:Array Nat} (h:Pm n p) {k:Nat} (s:Sd lt p k) (hk:1≤k) (hkn:k < n) (e:lt (at' p (k - 1)) (at' p k) = true):Sd lt p (k + 1):=fun i j hij hj=>by
 by_cases hjk:j < k
 ·xt s i j hij hjk
 ·obtain rfl:j = k:=by omega
  by_cases hi:i = j - 1
  ·subst hi; xt e
  ·xt O.tr _ _ _ (h.bd ω) (h.bd ω) (h.bd hkn) (s i (j - 1) ω ω) e
theorem Dd.more {p:Array Nat} (h:Pm n p) {k:Nat} (s:Dd lt p k) (hk:1≤k) (hkn:k < n) (e:lt (at' p k) (at' p (k - 1)) = true):Dd lt p (k + 1):=fun i j hij hj=>by
 by_cases hjk:j < k
 ·xt s i j hij hjk
 ·obtain rfl:j = k:=by omega
  by_cases hi:i = j - 1
  ·subst hi; xt e
  ·xt O.tr _ _ _ (h.bd hkn) (h.bd ω) (h.bd ω) e (s i (j - 1) ω ω)
theorem Lb {p:Array Nat} (h:Pm n p):∀ (f k:Nat),1≤k→k + f≤n→Sd lt p k→JN n lt (kas_asc p f k) fun m=>k≤m∧m≤k + f∧Sd lt p m∧(m = k + f∨lt (at' p m) (at' p (m - 1)) = true)
 | 0,k,_,_,s=>⟨Nat.le_refl _,Nat.le_refl _,s,.inl rfl⟩
 | f + 1,k,h1,h2,s=>by
  rf ⟨h.bd ω,h.bd ω,?_⟩
  cases e:lt (p.getD k 0) (p.getD (k - 1) 0) with
  | true=>xt ⟨Nat.le_refl _,by omega,s,.inr e⟩
  | false =>
   dsimp only
   rw [if_neg Bool.false_ne_true]
   rf iV (fun m hm=>?_) (Lb h f (k + 1) ω ω (Sd.more O h s h1 ω (not_lt O h ω ω ω e)))
   rf ⟨by omega,by omega,hm.2.2.1,?_⟩
   rcases hm.2.2.2 with z | z
   ·xt .inl ω
   ·xt .inr z
theorem Nm {p:Array Nat} (h:Pm n p):∀ (f k:Nat),1≤k→k + f≤n→Dd lt p k→JN n lt (kas_desc f p k 0) fun r=>r.1 = p∧k≤r.2.1∧r.2.1≤k + f∧r.2.2 = 0∧Dd lt p r.2.1
 | 0,k,_,_,s=>⟨rfl,Nat.le_refl _,Nat.le_refl _,rfl,s⟩
 | f + 1,k,h1,h2,s=>by
  rf ⟨h.bd ω,h.bd ω,?_⟩
  cases e:lt (p.getD k 0) (p.getD (k - 1) 0) with
  | true =>
   dsimp only
   rw [if_pos rfl,if_neg ω]
   rf iV (fun r hr=>⟨hr.1,by omega,by omega,hr.2.2.2⟩) (Nm h f (k + 1) ω ω (Dd.more O h s h1 ω e))
  | false =>
   dsimp only
   rw [if_neg Bool.false_ne_true]
   rf ⟨h.bd ω,h.bd ω,?_⟩
   dsimp only
   rw [show lt (p.getD (k - 1) 0) (p.getD k 0) = true from not_lt O h ω ω ω e,if_pos rfl]
   xt ⟨rfl,Nat.le_refl _,by show k≤_; omega,rfl,s⟩
theorem Vf {p:Array Nat} {k:Nat} (hk:k≤p.size) (i:Nat):at' (kas_rev p 0 k) i = if i < k then at' p (k - 1 - i) else at' p i:=by
 have e:=getElem?_mirror_all (xs:=p) (i:=0) (j:=k) hk i
 show (kas_rev p 0 k).getD i 0 = _
 have g:∀ (q:Array Nat) (j:Nat),q.getD j 0 = (q[j]?).getD 0:=fun q j=>by simp
 rw [g]
 unfold kas_rev
 rw [e]
 by_cases hi:i < k
 ·rw [if_pos ⟨Nat.zero_le _,hi⟩,if_pos hi,← g,show 0 + k - 1 - i = k - 1 - i by omega]
 ·rw [if_neg ω,if_neg hi,← g]
theorem Ru {p:Array Nat} (h:Pm n p) (k:Nat):Pm n (kas_rev p 0 k):=⟨(mirror_perm _ _ _ _).trans h.pm⟩
theorem VL {p:Array Nat} (h:Pm n p) {k:Nat} (h1:1≤k) (h2:k≤n) (s:Dd lt p k):JN n lt (kas_tail3 k n p) fun r=>Pm n r.2∧1≤r.1∧r.1≤n∧Sd lt r.2 r.1:=by
 have sz:k≤p.size:=by rw [h.size]; xt h2
 have s':Sd lt (kas_rev p 0 k) k:=fun i j hij hj=>by
  rw [Vf O sz,Vf O sz,if_pos ω,if_pos hj]
  xt s _ _ ω ω
 rf oV (iV (fun m hm=>?_) (Lb O (Ru O h k) (n - k) k h1 ω s'))
 xt ⟨Ru O h k,by omega,by omega,hm.2.2.1⟩
theorem IK {p:Array Nat} (h:Pm n p) {k:Nat} (h2:k + 1≤n) (s:Dd lt p (k + 1)):JN n lt (kas_descPart k n p) fun r=>Pm n r.2∧1≤r.1∧r.1≤n∧Sd lt r.2 r.1:=by
 rf oV (iV (fun r hr=>?_) (Nm O h (n - (k + 1)) (k + 1) ω ω s))
 ob ⟨e1,l1,l2,e2,d⟩:=hr
 rw [e2,if_neg ω,e1]
 xt VL O h ω ω d
theorem Uw {p:Array Nat} (h:Pm n p) (h1:1≤n):JN n lt (kas_count n p) fun r=>Pm n r.2∧1≤r.1∧r.1≤n∧Sd lt r.2 r.1:=by
 rf oV (iV (fun m hm=>?_) (Lb O h (n - 1) 1 (Nat.le_refl _) ω (fun i j hij hj=>by omega)))
 ob ⟨m1,m2,s,e⟩:=hm
 by_cases hn:m = n
 ·rw [if_pos (by simpa using hn)]
  xt ⟨h,m1,by omega,s⟩
 ·rw [if_neg (by simpa using hn)]
  have e:=e.resolve_left ω
  by_cases hg:m > 1
  ·rw [if_pos hg]
   rf ⟨h.bd ω,h.bd ω,?_⟩
   dsimp only
   rw [show lt (p.getD 0 0) (p.getD (m - 1) 0) = true from s 0 (m - 1) ω ω,if_pos rfl]
   xt ⟨h,m1,by omega,s⟩
  ·rw [if_neg hg]
   obtain rfl:m = 1:=by omega
   rf IK O h ω fun i j hij hj=>?_
   obtain rfl:i = 0:=by omega
   obtain rfl:j = 1:=by omega
   xt e
theorem zR {p:Array Nat} (h:Pm n p) {k:Nat} (hk:k < n) (s:Sd lt p k):∀ (f l r:Nat),l≤r→r≤k→r - l≤f→(∀ i,i < l→lt (at' p i) (at' p k) = true)→(∀ i,r≤i→i < k→lt (at' p k) (at' p i) = true) →
 JN n lt (kas_place p k f l r) fun m=>m≤k∧(∀ i,i < m→lt (at' p i) (at' p k) = true)∧(∀ i,m≤i→i < k→lt (at' p k) (at' p i) = true)
 | 0,l,r,h1,h2,h3,a,b=>by
  obtain rfl:l = r:=by omega
  xt ⟨h2,a,b⟩
 | f + 1,l,r,h1,h2,h3,a,b=>by
  unfold kas_place
  by_cases g:l ≥ r
  ·rw [if_pos g]
   obtain rfl:l = r:=by omega
   xt ⟨h2,a,b⟩
  ·rw [if_neg g]
   rf ⟨h.bd hk,h.bd ω,?_⟩
   cases e:lt (p.getD k 0) (p.getD ((l + r) / 2) 0) with
   | true =>
    dsimp only
    rw [if_pos rfl]
    rf zR h hk s f l ((l + r) / 2) ω ω ω a fun i hi hk'=>?_
    by_cases z:i = (l + r) / 2
    ·subst z; xt e
    ·xt O.tr _ _ _ (h.bd hk) (h.bd ω) (h.bd ω) e (s _ _ ω hk')
   | false =>
    dsimp only
    rw [if_neg Bool.false_ne_true]
    have e':=not_lt O h hk ω ω e
    rf zR h hk s f ((l + r) / 2 + 1) r ω h2 ω (fun i hi=>?_) b
    by_cases z:i = (l + r) / 2
    ·subst z; xt e'
    ·xt O.tr _ _ _ (h.bd ω) (h.bd ω) (h.bd hk) (s _ _ ω ω) e'
theorem Vg {p:Array Nat} {k d:Nat} (hk:k < p.size) (hd:d≤k) (i:Nat):at' (bubble p k d) i = if i = k - d then at' p k else if k - d < i∧i≤k then at' p (i - 1) else at' p i:=by
 have e:=getElem?_bubble hk d hd i
 have g:∀ (q:Array Nat) (j:Nat),q.getD j 0 = (q[j]?).getD 0:=fun q j=>by simp
 show (bubble p k d).getD i 0 = _
 rw [g,e]
 by_cases h1:i = k - d
 ·rw [if_pos h1,if_pos h1,← g]
 ·rw [if_neg h1,if_neg h1]
  by_cases h2:k - d < i∧i≤k
  ·rw [if_pos h2,if_pos h2,← g]
  ·rw [if_neg h2,if_neg h2,← g]
theorem UT:∀ (f:Nat) (p:Array Nat) (k:Nat),Pm n p→k + f≤n→Sd lt p k→JN n lt (kas_bin f p k) fun q=>Pm n q∧Sd lt q (k + f)
 | 0,p,k,h,_,s=>⟨h,s⟩
 | f + 1,p,k,h,hk,s=>by
  have sz:k < p.size:=by rw [h.size]; omega
  rf oV (iV (fun l hl=>?_) (zR O h ω s k 0 k ω (Nat.le_refl _) ω (fun i hi=>by omega) (fun i h1 h2=>by omega)))
  ob ⟨l1,lo,hi⟩:=hl
  have s':Sd lt (bubble p k (k - l)) (k + 1):=fun i j hij hj=>by
   rw [Vg O sz (d:=k - l) ω,Vg O sz (d:=k - l) ω,show k - (k - l) = l by omega]
   by_cases c1:i = l
   ·rw [if_pos c1,if_neg ω,if_pos ω]
    xt hi _ ω ω
   ·rw [if_neg c1]
    by_cases c2:l < i∧i≤k
    ·rw [if_pos c2,if_neg ω,if_pos ω]
     xt s _ _ ω ω
    ·rw [if_neg c2]
     by_cases c3:j = l
     ·rw [if_pos c3]
      xt lo _ ω
     ·rw [if_neg c3]
      by_cases c4:l < j∧j≤k
      ·rw [if_pos c4]
       xt s _ _ ω ω
      ·rw [if_neg c4]
       xt s _ _ ω ω
  rf iV (fun q hq=>⟨hq.1,?_⟩) (UT f (bubble p k (k - l)) (k + 1) ⟨(bubble_perm _ _ _).trans h.pm⟩ ω s')
  rw [show k + (f + 1) = k + 1 + f by omega]; xt hq.2
theorem V0 (h1:1≤n):JN n lt (kas_sort n) fun q=>Pm n q∧Sd lt q n:=by
 rf oV (iV (fun r hr=>?_) (Uw O ⟨Array.Perm.refl _⟩ h1))
 ob ⟨pm,r1,r2,s⟩:=hr
 by_cases hl:r.1 < n
 ·rw [if_pos hl]
  rf iV (fun q hq=>⟨hq.1,?_⟩) (UT O (n - max r.1 1) r.2 (max r.1 1) pm ω (by rw [show max r.1 1 = r.1 by omega]; xt s))
  rw [show n = max r.1 1 + (n - max r.1 1) by omega]; xt hq.2
 ·rw [if_neg hl]
  xt ⟨pm,by rw [show n = r.1 by omega]; xt s⟩
end
end So
namespace So
open PySem PySem.W PyProof.Rows PySem.MeetsSeq3
def iD:List Int→List Int→Bool
 | [],[]=>false
 | [],_ :: _=>true
 | _ :: _,[]=>false
 | a :: r,b :: t=>if a == b then iD r t else decide (a < b)
section
variable {prog:Program} {w:World} {Ar:Around}
theorem M8 {vs:List Value} {ns:List Int} (h:IntsAre vs ns):∀ {i:Nat} {n:Int},ns[i]? = some n→∃ t,vs[i]? = some (.int n t):=by
 induction h with
 | nil=>intro i n e; simp at e
 | cons a t h ih =>
  intro i n e
  cases i with
  | zero=>simp at e; subst e; xt ⟨t,rfl⟩
  | succ i=>xt ih (by simpa using e)
theorem acd {R:Result→Shared→Prop} {s:Shared} {l b:Addr} {us vs:List Value} {xs ys:List Int} {o o2:Obj} {n n2:Nat} (ho:s.heap.get? l = some o) (hd:o.data = .seq us.toArray n) (ho2:s.heap.get? b = some o2) (hd2:o2.data = .seq vs.toArray n2) (hu:IntsAre us xs) (hv:IntsAre vs ys) :
 ∀ (k i:Nat),xs.length - i≤k→i≤xs.length→i≤ys.length→R (.ok (.ret (.bool (iD (xs.drop i) (ys.drop i))))) s→codeAny (model prog w) Ar (.builtin "list.__eq__.loop" ⟨[.ref l,.ref b,rawInt i,rawInt 0],[]⟩) R s:=by
 have l1:=hu.length
 have l2:=hv.length
 have gx:∀ i,i < xs.length→∃ t,us.toArray[i]? = some (.int (xs.getD i 0) t):=fun i hi=>by
  ob ⟨t,e⟩:=M8 hu (i:=i) (n:=xs.getD i 0) (by simp [hi])
  xt ⟨t,by simpa using e⟩
 have gy:∀ i,i < ys.length→∃ t,vs.toArray[i]? = some (.int (ys.getD i 0) t):=fun i hi=>by
  ob ⟨t,e⟩:=M8 hv (i:=i) (n:=ys.getD i 0) (by simp [hi])
  xt ⟨t,by simpa using e⟩
 have nx:∀ i,¬ i < xs.length→us.toArray[i]? = none:=fun i hi=>by simp; omega
 have ny:∀ i,¬ i < ys.length→vs.toArray[i]? = none:=fun i hi=>by simp; omega
 have acE:∀ i,i = xs.length→i≤ys.length→decide (us.toArray.size < vs.toArray.size) = iD (xs.drop i) (ys.drop i):=fun i hi hj=>by
  rw [List.drop_eq_nil_of_le (by omega:xs.length≤i),List.size_toArray,List.size_toArray,l1,l2]
  by_cases h:i < ys.length
  ·rw [List.drop_eq_getElem_cons h]
   simp [iD]; omega
  ·rw [List.drop_eq_nil_of_le (by omega:ys.length≤i)]
   simp [iD]; omega
 have aeg:∀ i,i < xs.length→i = ys.length→decide (us.toArray.size < vs.toArray.size) = iD (xs.drop i) (ys.drop i):=fun i hi hj=>by
  rw [List.drop_eq_nil_of_le (by omega:ys.length≤i),List.drop_eq_getElem_cons hi,List.size_toArray,List.size_toArray,l1,l2]
  simp [iD]; omega
 have fin:∀ (i:Nat),(us.toArray[i]? = none∨vs.toArray[i]? = none)→R (.ok (.ret (.bool (decide (us.toArray.size < vs.toArray.size))))) s→codeAny (model prog w) Ar (.builtin "list.__eq__.loop" ⟨[.ref l,.ref b,rawInt i,rawInt 0],[]⟩) R s:=fun i hn h=>by
  rf codeAny_builtin entry_eq_loop (by
   rw [Around.under_plainId plain_eq_loop _]
   unfold Builtin.«list.__eq__.loop»
   show wpAny _ _ (Builtin.List.listItems (.ref l) >>= _) _ _ _
   rf wpAny_bind (listItems_at ho hd (wpAny_bind (listItems_at ho2 hd2 ?_)))
   simp only [Int.toNat_natCast]
   rcases hn with e | e
   ·rw [e]
    dsimp only
    rf wpAny_bind (listItems_at ho hd (wpAny_bind (listItems_at ho2 hd2 ?_)))
    xt wpAny_pure h
   ·rw [e]
    cases us.toArray[i]? <;>
    ·dsimp only
     rf wpAny_bind (listItems_at ho hd (wpAny_bind (listItems_at ho2 hd2 ?_)))
     xt wpAny_pure h)
 intro k
 induction k with
 | zero =>
  intro i hk h1 h2 h
  rf fin i (.inl (nx i ω)) ?_
  rw [acE i ω h2]; xt h
 | succ k ih =>
  intro i hk h1 h2 h
  by_cases hi:i < xs.length
  ·by_cases hj:i < ys.length
   ·ob ⟨t,e1⟩:=gx i hi
    ob ⟨u,e2⟩:=gy i hj
    have dx:xs.drop i = xs.getD i 0 :: xs.drop (i + 1):=by rw [List.drop_eq_getElem_cons hi]; simp [hi]
    have dy:ys.drop i = ys.getD i 0 :: ys.drop (i + 1):=by rw [List.drop_eq_getElem_cons hj]; simp [hj]
    rw [dx,dy] at h
    rf codeAny_builtin entry_eq_loop (by
     rw [Around.under_plainId plain_eq_loop _]
     unfold Builtin.«list.__eq__.loop»
     show wpAny _ _ (Builtin.List.listItems (.ref l) >>= _) _ _ _
     rf wpAny_bind (listItems_at ho hd (wpAny_bind (listItems_at ho2 hd2 ?_)))
     simp only [Int.toNat_natCast]
     rw [e1,e2]
     dsimp only
     rf wpAny_bind (wpAny_eqBool_int ?_)
     cases hb:(xs.getD i 0 == ys.getD i 0) with
     | true =>
      rw [if_pos rfl]
      rw [iD,hb,if_pos rfl] at h
      rf wpAny_pure ⟨plainId_quiet plain_eq_loop _,?_⟩
      have:=ih (i + 1) ω hi hj h
      rw [show rawInt ((i + 1:Nat):Int) = rawInt ((i:Int) + 1) from by rw [show ((i + 1:Nat):Int) = (i:Int) + 1 by omega]] at this
      xt this
     | false =>
      rw [if_neg Bool.false_ne_true]
      rw [iD,hb,if_neg Bool.false_ne_true] at h
      rf wpAny_bind (listItems_at ho hd (wpAny_bind (listItems_at ho2 hd2 ?_)))
      rw [e1,e2]
      show wpAny _ _ (richCompare .Lt _ _ >>= _) _ _ _
      xt wpAny_bind (show wpAny _ _ (compareOp .Lt _ _) _ _ _ from wpAny_lt_int (wpAny_pure h)))
   ·rf fin i (.inr (ny i hj)) ?_
    rw [aeg i hi ω]; xt h
  ·rf fin i (.inl (nx i hi)) ?_
   rw [acE i ω h2]; xt h
theorem Th {E:Value→Shared→Prop} {s:Shared} {l b:Addr} {us vs:List Value} {xs ys:List Int} {o o2:Obj} {n n2:Nat} {Q:Bool→Shared→Prop} (ho:s.heap.get? l = some o) (hc:o.cls = .type "list") (hd:o.data = .seq us.toArray n) (ho2:s.heap.get? b = some o2) (hc2:o2.cls = .type "list") (hd2:o2.data = .seq vs.toArray n2) (hu:IntsAre us xs) (hv:IntsAre vs ys)
 (hun:Ar.units < cLine) (h:Q (iD xs ys) s):wpAny (model prog w) Ar (keyLt' oneType' (.ref l) (.ref b)) Q E s:=by
 have t1:s.TypeIs (.ref l) "list" := ⟨_,ho,hc⟩
 have t2:s.TypeIs (.ref b) "list" := ⟨_,ho2,hc2⟩
 rw [keyLt'_oneType,oneLt'_eq]
 simp only [if_true]
 rf wpAny_bind (wpAny_cRoomFor hun ?_)
 rf wpAny_bind (wpAny_callSpecialIfBound?_slot t1 PySem.F.slot_list_lt (wpAny_call (codeAny_call_builtin PySem.F.slot_list_lt.plain PySem.F.entry_list_lt (PySem.F.slot_list_lt.check _ _ _ _ _ _ _ _ t1 (PySem.F.args_list_lt_2 _ _) ?_))))
 unfold Builtin.«list.__lt__»
 have sub:isSubtype (.type "list") (.type "list") = pure true:=by rw [isSubtype_type]; kernel_rfl
 show wpAny _ _ (isInstance (.ref b) (.type "list") >>= _) _ _ _
 rf wpAny_bind (wpAny_isInstance t2 sub ?_)
 rf wpAny_pure ⟨plainId_quiet plain_eq_loop _,?_⟩
 rf acd ho hd ho2 hd2 hu hv xs.length 0 ω (Nat.zero_le _) (Nat.zero_le _) ?_
 xt wpAny_truthy_bool h
end
end So
namespace So
open PySem PySem.W PyProof.Rows
section
variable {prog:Program} {w:World} {A:Around} {E:Value→Shared→Prop} {s:Shared}
def tm (n:Nat):List Addr:=[n,n + 1,n + 2,n + 3]
def uZ (lt:Nat→Nat→Bool) (vs out:List Value):Prop:=∃ p:Array Nat,Pm vs.length p∧Sd lt p vs.length∧out = p.toList.map fun i=>vs.getD i Value.none
theorem uZ.len {lt:Nat→Nat→Bool} {vs out:List Value} (h:uZ lt vs out):out.length = vs.length:=by
 ob ⟨p,pm,_,rfl⟩:=h
 rw [List.length_map,Array.length_toList,pm.size]
theorem zq {a kS:Addr} {e e1:Nat} {ks out:List Value} {st:SortSt} {P:PySem.Fin→Shared→Prop} (hk:s.heap.get? kS = some (seqObj "list" (List.toArray ks) e)) (ha:s.heap.get? a = some (seqObj "list" #[] e1)) (ne:a≠kS)
 (hks:ks.length < 64) (ho:out.length < 64) (hout:(arrOf st).map (·.2) = List.toArray out) (hf:failedOf st = none)
 (h:∀ h' c,(∀ b o,b≠a→b≠kS→s.heap.get? b = some o→h'.get? b = some o)→(∃ o,h'.get? kS = some o)→h'.get? a = some (seqObj "list" (List.toArray out) c)→P (.done (.ret .none)) { s with heap:=h' }) :
 wpAny (model prog w) A (ksk_tail a false e1 (.ref kS) st) P E s:=by
 have s1:=Heap.SameBut.update s.heap kS (Obj.mapSeq fun _=>(#[]:Array Value))
 have ha1:=(s1.2 a ne).trans ha
 have s2:=Heap.SameBut.update (s.heap.update kS (Obj.mapSeq fun _=>(#[]:Array Value))) a (Obj.mapSeq fun _=>List.toArray out)
 obtain ⟨c,hc⟩ : ∃ c,((s.heap.update kS (Obj.mapSeq fun _=>(#[]:Array Value))).update a (Obj.mapSeq fun _=>List.toArray out)).get? a = some (seqObj "list" (List.toArray out) c):=⟨_,get?_update_seq ha1 fun _=>List.toArray out⟩
 unfold ksk_tail
 dsimp only
 rw [hout]
 rf wpAny_bind (listUpdate_at hk rfl ?_ (by rw [List.size_toArray,sizeLine_eq]; omega) (Nat.zero_le _))
 rf wpAny_bind (wpAny_letGo (wpAny_bind (seqEpoch_at ha1 rfl ?_)))
 rf wpAny_bind (listUpdate_at ha1 rfl ?_ (Nat.zero_le _) (by show (List.toArray out).size≤_; rw [List.size_toArray,sizeLine_eq]; omega))
 rw [hf]
 simp only [bne_self_eq_false,Bool.false_eq_true,if_false]
 xt wpAny_pure (h _ c (fun b o n1 n2 q=>(s2.2 b n1).trans ((s1.2 b n2).trans q)) ⟨_,(s2.2 kS (Ne.symm ne)).trans (get?_update_seq hk fun _=>#[])⟩ hc)
theorem Kz {a kS f:Addr} {e1:Nat} {P:PySem.Fin→Shared→Prop} (J:List Value→Shared→Prop) {vs:List Value} (h64:vs.length < 64)
 (jk:∀ ks s1 h',J ks s1→(∀ b o,b≠kS→s1.heap.get? b = some o→h'.get? b = some o)→(∃ o,h'.get? kS = some o)→J ks { s1 with heap:=h' })
 (jc:∀ i x ks s1,vs[i]? = some x→ks.length = i→J ks s1→wpAny (model prog w) A (call (.ref f) [x]) (fun k s2=>J (ks ++ [k]) s2∧∀ b o,(b = a∨b = kS)→s1.heap.get? b = some o→s2.heap.get? b = some o) (fun _ _=>False) s1)
 (ne:a≠kS) (hk:s.heap.get? kS = some (seqObj "list" #[] 0)) (ha:s.heap.get? a = some (seqObj "list" #[] e1)) (j0:J [] s)
 (fin:∀ ks e s1,ks.length = vs.length→J ks s1→s1.heap.get? kS = some (seqObj "list" (List.toArray ks) e)→s1.heap.get? a = some (seqObj "list" #[] e1)→wpAny (model prog w) A (ksk_end a false vs.toArray e1 (.ref kS) (List.toArray ks)) P E s1) :
 wpAny (model prog w) A (ksk_rest a (.ref f) false vs.toArray e1 (.ref kS)) P E s:=by
 unfold ksk_rest
 rf wpAny_bind (wpAny_rule ?_)
 rw [List.forIn_toArray]
 rf wpAny_bind (ksk_fold (I:=fun i s1=>∃ ks e,ks.length = i∧J ks s1∧s1.heap.get? kS = some (seqObj "list" (List.toArray ks) e)∧s1.heap.get? a = some (seqObj "list" #[] e1)) vs 0 s ⟨[],0,rfl,j0,hk,ha⟩ (fun j x s1 hx hI=>?_) fun s1 hI=>?_)
 ·ob ⟨ks,e,hl,hJ,hk1,ha1⟩:=hI
  rw [Nat.zero_add] at hl ⊢
  have hlt:j < vs.length:=(List.getElem?_eq_some_iff.mp hx).1
  rf wpAny_bind (wpAny_attempt (wpAny_mono (jc j x ks s1 hx hl hJ) (fun k s2 h2=>?_) fun _ _ z=>z.elim))
  ob ⟨hJ2,kp⟩:=h2
  have hk2:=kp kS _ (.inr rfl) hk1
  have ha2:=kp a _ (.inl rfl) ha1
  have su:=Heap.SameBut.update s2.heap kS (Obj.mapSeq (·.push k))
  have ea:(List.toArray ks).push k = List.toArray (ks ++ [k]):=by simp
  obtain ⟨c2,hc2⟩ : ∃ c2,(s2.heap.update kS (Obj.mapSeq (·.push k))).get? kS = some (seqObj "list" (List.toArray (ks ++ [k])) c2):=⟨_,by rw [← ea]; xt get?_update_seq hk2 (·.push k)⟩
  dsimp only
  rf wpAny_bind (listUpdate_at hk2 rfl ?_ (by rw [List.size_toArray,sizeLine_eq]; omega) (Nat.le_trans (Nat.le_of_eq (Array.size_push ..)) (by rw [List.size_toArray,sizeLine_eq]; omega)))
  xt wpAny_pure ⟨rfl,ks ++ [k],c2,by rw [List.length_append,hl]; rfl,jk _ _ _ hJ2 (fun b o n q=>(su.2 b n).trans q) ⟨_,hc2⟩,hc2,(su.2 a ne).trans ha2⟩
 ·ob ⟨ks,e,hl,hJ,hk1,ha1⟩:=hI
  rf wpAny_bind (listItems_at hk1 rfl ?_)
  xt fin ks e s1 (by simpa using hl) hJ hk1 ha1
theorem PN {a kS:Addr} {e e1:Nat} {ks vs:List Value} {lt:Nat→Nat→Bool} {P:PySem.Fin→Shared→Prop} (hl:ks.length = vs.length) (h64:vs.length < 64) (O:Ord vs.length lt)
 (hkk:2≤vs.length→∀ (Q:SortKind→Shared→Prop),Q oneType' s→wpAny (model prog w) A (keyKind' (List.toArray ks)) Q (fun _ _=>False) s)
 (hcmp:∀ i j C,i < vs.length→j < vs.length→C (lt i j) s→kas_ask prog w A oneType' ks i j C s)
 (hk:s.heap.get? kS = some (seqObj "list" (List.toArray ks) e)) (ha:s.heap.get? a = some (seqObj "list" #[] e1)) (ne:a≠kS)
 (h:∀ out h' c,uZ lt vs out→(∀ b o,b≠a→b≠kS→s.heap.get? b = some o→h'.get? b = some o)→(∃ o,h'.get? kS = some o)→h'.get? a = some (seqObj "list" (List.toArray out) c)→P (.done (.ret .none)) { s with heap:=h' }) :
 wpAny (model prog w) A (ksk_end a false vs.toArray e1 (.ref kS) (List.toArray ks)) P E s:=by
 have W2:∀ {n:Nat},Pm n (List.toArray (List.range n)):=⟨Array.Perm.refl _⟩
 unfold ksk_end
 dsimp only
 rw [if_neg Bool.false_ne_true,if_neg Bool.false_ne_true]
 by_cases h2:vs.toArray.size < 2
 ·rw [if_pos h2,if_pos h2]
  rw [List.size_toArray] at h2
  rf wpAny_bind (wpAny_pure ?_)
  rw [StateT.run_pure]
  rf wpAny_bind (wpAny_pure ?_)
  dsimp only
  have hout:uZ lt vs vs:=⟨List.toArray (List.range vs.length),W2,fun i j hij hj=>by omega,by
   apply List.ext_getElem (by simp)
   intro i h1 h2
   simp [h1]⟩
  rf zq (out:=vs) hk ha ne ω h64 ?_ rfl fun h' c kp ex hc=>h vs h' c hout kp ex hc
  show ((List.toArray ks).zip vs.toArray).map (·.2) = vs.toArray
  apply Array.toList_inj.mp
  rw [Array.toList_map,Array.toList_zip]
  simp only []
  rw [List.map_snd_zip ω]
 ·rw [if_neg h2,if_neg h2]
  rw [List.size_toArray] at h2
  rf wpAny_bind (wpAny_mono (hkk ω (fun κ s'=>κ = oneType'∧s' = s) ⟨rfl,rfl⟩) (fun κ s' hh=>?_) fun _ _ z=>z.elim)
  ob ⟨rfl,rfl⟩:=hh
  have wp:=QS (cmp:=kas_ask prog w A oneType' ks) (s:=s') hcmp (V0 O ω)
  rf wpAny_bind (wpAny_mono (kat_run (E:=E) (Q:=fun st' s2=>s2 = s'∧∃ p:Array Nat,Pm vs.length p∧Sd lt p vs.length∧arrOf st' = p.map (kas_item (ks.toArray.zip vs.toArray))∧failedOf st' = none) hl ω h64 (fun p st' s2 _ a2 a3 a4=>⟨a4.1,p,a4.2.1,a4.2.2,a2,a3⟩) wp) ?_ fun _ _ z=>z)
  rintro ⟨⟨⟩,st'⟩ s2 ⟨rfl,p,pm,sd,har,hf⟩
  dsimp only
  have hout:uZ lt vs (p.toList.map fun i=>vs.getD i Value.none):=⟨p,pm,sd,rfl⟩
  xt zq hk ha ne ω (by rw [hout.len]; xt h64) (kat_snds hl har) hf fun h' c kp ex hc=>h _ h' c hout kp ex hc
theorem Eg {f l:Addr} {vs:List Value} {Q:Value→Shared→Prop} (J:List Value→Shared→Prop) (hl:s.heap.IsList l vs.toArray) (h64:vs.length < 64)
 (j0:∀ h':Heap,(∀ b o,s.heap.get? b = some o→h'.get? b = some o)→(∀ b∈tm s.heap.objs.size,∃ o,h'.get? b = some o)→J [] { s with heap:=h' })
 (jk:∀ ks s1 h',J ks s1→(∀ b o,b∉tm s.heap.objs.size→s1.heap.get? b = some o→h'.get? b = some o)→(∀ b o,s1.heap.get? b = some o→∃ o',h'.get? b = some o')→J ks { s1 with heap:=h' })
 (jc:∀ i x ks s1,vs[i]? = some x→ks.length = i→J ks s1→wpAny (model prog w) A.in1.in1 (call (.ref f) [x]) (fun k s2=>J (ks ++ [k]) s2∧∀ b o,b∈tm s.heap.objs.size→s1.heap.get? b = some o→s2.heap.get? b = some o) (fun _ _=>False) s1)
 (je:∀ ks s1,ks.length = vs.length→J ks s1→∃ lt,Ord vs.length lt∧(2≤vs.length→∀ (Q:SortKind→Shared→Prop),Q oneType' s1→wpAny (model prog w) A.in1.in1 (keyKind' (List.toArray ks)) Q (fun _ _=>False) s1) ∧
  (∀ i j C,i < vs.length→j < vs.length→C (lt i j) s1→kas_ask prog w A.in1.in1 oneType' ks i j C s1) ∧
  ∀ out h' c,uZ lt vs out→(∀ b o,b∉tm s.heap.objs.size→s1.heap.get? b = some o→h'.get? b = some o)→(∀ b o,s1.heap.get? b = some o→∃ o',h'.get? b = some o')→h'.get? (s.heap.objs.size + 1) = some (seqObj "list" (List.toArray out) c)→Q (.ref (s.heap.objs.size + 1)) { s1 with heap:=h' }) :
 wpAny (model prog w) A (call (.builtin "sorted") [.ref l] [(Str.ofString "key", .ref f)]) Q E s:=by
 rf call_function_entry_kw kind_sorted plain_sorted entry_sorted (ksk_s1 _ _) ?_
 unfold Builtin.«sorted»
 rf wpAny_bind (m:=checkCount "sorted" 1 1 _) (wpAny_pure ?_)
 rf wpAny_bind (collect_list hl ?_ (by rw [sizeLine_eq]; omega))
 rf wpAny_bind (wpAny_newList ?_ (by rw [sizeLine_eq]; omega))
 generalize hn:s.heap.objs.size = n at *
 generalize hh1:((s.heap.push (seqObj "list" #[] 0)).update n (Obj.mapSeq (· ++ vs.toArray))) = h1
 have hsz:h1.objs.size = n + 1:=by rw [← hh1,Heap.size_update,size_push',hn]
 have k1:∀ b o,s.heap.get? b = some o→h1.get? b = some o:=fun b o q=>by
  have hlt:b < n:=by rw [← hn]; xt Heap.lt_size q
  rw [← hh1,Heap.get?_update_ne _ _ _ _ (Nat.ne_of_lt hlt),Heap.get?_push_ne _ _ _ (by rw [hn]; xt Nat.ne_of_lt hlt)]
  xt q
 have hoL:(h1.push (seqObj "list" vs.toArray 0)).get? (n + 1) = some (seqObj "list" vs.toArray 0):=by rw [← hsz]; xt Heap.get?_push_size _ rfl
 show wpAny _ _ _ _ _ { s with heap:=h1.push (seqObj "list" vs.toArray 0) }
 rw [hsz]
 rf wpAny_bind (wpAny_holding (wpAny_call_entry_kw slot_list_sort ⟨_,hoL,rfl⟩ entry_list_sort ?_ (ksk_l1 _ _)))
 show wpAny (model prog w) A.in1.in1 (Builtin.«list.sort» ⟨[.ref (n + 1)],[(Str.ofString "key", .ref f)]⟩) _ _ _
 rw [ksk_t1]
 generalize hh2:h1.push (seqObj "list" vs.toArray 0) = h2 at hoL ⊢
 have k2:∀ b o,s.heap.get? b = some o→h2.get? b = some o:=fun b o q=>by rw [← hh2]; xt Heap.get?_push_of_some _ (k1 b o q)
 have z2:h2.objs.size = n + 2:=by rw [← hh2,Heap.size_push,hsz]
 obtain ⟨e1,ho1⟩ : ∃ e1,(h2.update (n + 1) (Obj.mapSeq fun _=>(#[]:Array Value))).get? (n + 1) = some (seqObj "list" #[] e1):=⟨_,get?_update_seq hoL fun _=>#[]⟩
 have su:=Heap.SameBut.update h2 (n + 1) (Obj.mapSeq fun _=>(#[]:Array Value))
 unfold ksk_tree
 rf wpAny_bind (listItems_at (s:={ s with heap:=h2 }) hoL rfl ?_)
 rf wpAny_bind (listUpdate_at (s:={ s with heap:=h2 }) hoL rfl ?_ (by rw [List.size_toArray,sizeLine_eq]; omega) (Nat.zero_le _))
 rf wpAny_bind (seqEpoch_at (s:={ s with heap:=h2.update (n + 1) (Obj.mapSeq fun _=>(#[]:Array Value)) }) ho1 rfl ?_)
 rf wpAny_bind (wpAny_newTuple ?_ (by show vs.length≤_; rw [sizeLine_eq]; omega))
 rf wpAny_bind (wpAny_newList ?_ (Nat.zero_le _))
 rf wpAny_holding ?_
 generalize hh3:h2.update (n + 1) (Obj.mapSeq fun _=>(#[]:Array Value)) = h3 at ho1 su ⊢
 have z3:h3.objs.size = n + 2:=by rw [← hh3,Heap.size_update,z2]
 have z4:(h3.push (seqObj "tuple" vs.toArray 0)).objs.size = n + 3:=by rw [Heap.size_push,z3]
 show wpAny (model prog w) A.in1.in1 (ksk_rest (n + 1) (.ref f) false vs.toArray e1 (.ref (h3.push (seqObj "tuple" vs.toArray 0)).objs.size)) _ _ { s with heap:=(h3.push (seqObj "tuple" vs.toArray 0)).push (seqObj "list" #[] 0) }
 rw [z4]
 have adR:∀ b o,s.heap.get? b = some o→((h3.push (seqObj "tuple" vs.toArray 0)).push (seqObj "list" #[] 0)).get? b = some o:=fun b o q=>by
  have hlt:b < n:=by rw [← hn]; xt Heap.lt_size q
  xt Heap.get?_push_of_some _ (Heap.get?_push_of_some _ ((su.2 b (Nat.ne_of_lt (Nat.lt_succ_of_lt hlt))).trans (k2 b o q)))
 rf Kz (kS:=n + 3) (a:=n + 1) J h64 (fun ks s1 h' hJ kp ex=>jk ks s1 h' hJ (fun b o hb q=>kp b o (fun z=>hb (by simp [tm,z])) q) fun b o q=>by
  by_cases z:b = n + 3
  ·rw [z]; xt ex
  ·xt ⟨o,kp b o z q⟩)
  (fun i x ks s1 hx hl' hJ=>wpAny_mono (jc i x ks s1 hx hl' hJ) (fun k s2 h2=>⟨h2.1,fun b o hb q=>h2.2 b o (by rcases hb with z | z <;> simp [tm,z]) q⟩) fun _ _ z=>z) (show (n + 1:Nat)≠n + 3 by omega)
  (by rw [← z4]; xt Heap.get?_push_size _ rfl) (Heap.get?_push_of_some _ (Heap.get?_push_of_some _ ho1)) (j0 _ adR fun b hb=>?ex) fun ks e s1 hlk hJ hk1 ha1=>?_
 case ex =>
  have e0:∃ o,h3.get? n = some o:=by
   have q0:(s.heap.push (seqObj "list" #[] 0)).get? n = some (seqObj "list" #[] 0):=by rw [← hn]; xt Heap.get?_push_size _ rfl
   obtain ⟨o1,q1⟩ : ∃ o1,h1.get? n = some o1:=by rw [← hh1]; xt ⟨_,get?_update_seq q0 (· ++ vs.toArray)⟩
   xt ⟨_,(su.2 n (show (n:Nat)≠n + 1 by omega)).trans (by rw [← hh2]; xt Heap.get?_push_of_some _ q1)⟩
  simp only [tm,List.mem_cons,List.not_mem_nil,or_false] at hb
  rcases hb with rfl | rfl | rfl | rfl
  ·ob ⟨o,q⟩:=e0
   xt ⟨o,Heap.get?_push_of_some _ (Heap.get?_push_of_some _ q)⟩
  ·xt ⟨_,Heap.get?_push_of_some _ (Heap.get?_push_of_some _ ho1)⟩
  ·xt ⟨_,Heap.get?_push_of_some _ (by rw [← z3]; xt Heap.get?_push_size _ rfl)⟩
  ·xt ⟨_,by rw [← z4]; xt Heap.get?_push_size _ rfl⟩
 ob ⟨lt,O,hkk,hcmp,fin⟩:=je ks s1 hlk hJ
 rf PN hlk h64 O hkk hcmp hk1 ha1 (show (n + 1:Nat)≠n + 3 by omega) fun out h' c so kp ex hc=>?_
 xt ⟨_,rfl,wpAny_pure ⟨_,rfl,fin out h' c so (fun b o hb q=>kp b o (fun z=>hb (by simp [tm,z])) (fun z=>hb (by simp [tm,z])) q) (fun b o q=>by
  by_cases y1:b = n + 1
  ·rw [y1]; xt ⟨_,hc⟩
  ·by_cases y2:b = n + 3
   ·rw [y2]; xt ex
   ·xt ⟨o,kp b o y1 y2 q⟩) hc⟩⟩
end
end So
namespace L2
open PySem PySem.Spec PyProof.Rows
def cxL (X:Cx) (A:Around) (N':List Str) (env:Env) (s:Shared) (H:Hp):Cx :=
 { X with A:=A.deeper env,N:=N',s₀:=s,H₀:=H,env:=env,outer:=X.stack,stack:=env :: X.stack,ex:=[],fn:=fun _=>false,calm:=true,pn:=[],xe:=fun _ _=>False }
abbrev Fx (qual:Str) (scope:Scope) (s:Shared) (f c':Addr) (cl:List (Str×Addr)):Env:=PySem.W.envX qual scope s.heap.objs.size f (.ref c') cl
structure Dt (X:Cx) (x:Str) (ρ : List Nat) (N':List Str) (sc:Scope) (cl:List (Str×Addr)):Prop where
 kind:sc.kind = .function
 co:sc.isCoroutine = false
 gen:sc.isGenerator = false
 z9:∀ y∈sc.names,y.2≠.cell
 par:sc.names.lookup x = some .local
 clo:∀ y c,cl.lookup y = some c→X.env.cells.lookup y = some c
 has:∀ y,sc.names.lookup y = some .free→∃ c,cl.lookup y = some c
 N:∃ ys,N' = x :: ys∧ys.length = ρ.length∧∀ (i j:Nat) y,ρ[i]? = some j→ys[i]? = some y→X.N[j]? = some y∧sc.names.lookup y = some .free∧(X.env.kindOf y = some .cell∨X.env.kindOf y = some .free)
section
variable {X:Cx} {pins:List (Addr×Obj)} {σ : St} {H:Hp} {s:Shared} {A:Around} {k:Nat} {qual x:Str} {ps:Arguments} {body:Expr} {sc:Scope} {cl:List (Str×Addr)} {pm ctv:Value} {f c':Addr} {ρ : List Nat} {N':List Str}
def nM (ρ : List Nat) (σ : St) (v:V):St:=some v :: ρ.map fun j=>(σ[j]?).join
theorem WD {h1:Heap} {tk:Nat} {v:V} {u:Value} (I:Inv X pins σ H s) (hA:A.frames = some X.stack) (hd:A.handled = none) (S:Dt X x ρ N' sc cl) (rv:RelV v u)
 (hns:h1.Ns s.heap.objs.size fun y=>[(x,u)].reverse.lookup y) (hk:∀ b o,s.heap.get? b = some o→h1.get? b = some o) :
 Inv (cxL X A N' (Fx qual sc s f c' cl) s H) [] (nM ρ σ v) H { s with heap:=h1,toks:=tk }:=by
 ob ⟨ys,eN,el,ix⟩:=S.N
 have noA:∀ b:Addr,b∉([]:List Addr):=fun b z=>absurd z (by simp)
 rf ⟨⟨I.mod,S.kind,rfl,rfl,Nat.le_refl _,fun y z c h1 h2=>I.ok.inj y z c (S.clo y c h1) (S.clo z c h2),fun y hy=>?_,fun y c z=>(nomatch z),fun _=>hd,Around.frames_deeper hA,.inr ⟨rfl,rfl⟩,fun b z=>absurd z (noA b),I.bs,Nat.le_trans I.ok.bsz I.sz,fun b _ _=>noA b,fun b z=>absurd z (noA b),I.stack,I.vz⟩,
  rfl,I.bare,Un.kept hk,⟨_,hns,fun i y w h2 h3 h4=>?_⟩,fun y c e=>?_,I.hok.fresh (Nat.le_refl _),fun y c e=>I.lQ y c (S.clo y c e),fun p hp=>absurd (show p∈([]:List (Addr×Obj)) from hp) (by simp),I.hok.kept hk,?_⟩
 ·have hy:sc.names.lookup y = some .cell∨sc.names.lookup y = some .free:=hy
  rcases hy with hy | hy
  ·xt absurd rfl (S.z9 _ (PySem.mem_of_lookup hy))
  ·xt S.has y hy
 ·have h2:N'[i]? = some y:=h2
  subst eN
  cases i with
  | zero =>
   have e:x = y:=by simpa using h2
   subst e
   have e2:v = w:=by simpa [nM] using h3
   subst e2
   xt ⟨u,rv,.inl ⟨S.par,by simp⟩⟩
  | succ i =>
   have hy:ys[i]? = some y:=by simpa using h2
   have h3:(ρ.map fun j=>(σ[j]?).join)[i]? = some (some w):=by simpa [nM] using h3
   rw [List.getElem?_map] at h3
   ob ⟨j,hj,e⟩:=Option.map_eq_some_iff.mp h3
   have e2:σ[j]? = some (some w):=by
    cases q:σ[j]? with
    | none=>rw [q] at e; cases e
    | some z=>rw [q] at e; xt congrArg some e
   ob ⟨n1,n2,n3⟩:=ix i j y hj hy
   ob ⟨m,hm,hl⟩:=I.loc
   have vis:Vis X.env.scope y:=by
    rcases n3 with z | z
    ·xt .inr (.inl z)
    ·xt .inr (.inr z)
   ob ⟨u2,r2,lk⟩:=hl j y w n1 e2 vis
   rf ⟨u2,r2,.inr ⟨.inr n2,?_⟩⟩
   ob ⟨c,hc⟩:=S.has y n2
   rf ⟨c,hc,?_⟩
   have hX:=S.clo y c hc
   rcases lk with ⟨z,_⟩ | ⟨_,c2,e3,ic⟩
   ·rcases n3 with y1 | y1
    ·rw [z] at y1; cases y1
    ·rw [z] at y1; cases y1
   ·rw [hX] at e3; cases e3
    ob ⟨o,ho,hd⟩:=ic
    xt ⟨o,hk _ _ ho,hd⟩
 ·ob ⟨v2,o,ho,hd⟩:=I.cell y c (S.clo y c e)
  xt ⟨v2,o,hk _ _ ho,hd⟩
 ·subst eN
  show (nM ρ σ v).length = (x :: ys).length
  simp [nM,el]
theorem Wz {u:Value} {v:V} {tb:TE} {Q:VK} (I:Inv X pins σ H s) (hA:A.frames = some X.stack) (hr:jr (k + 1) A) (S:Dt X x ρ N' sc cl)
 (ho:s.heap.get? f = some (PySem.W.kla_obj "<lambda>" qual ps body sc cl pm c' ctv)) (hcd:s.heap.CodeRec (.ref c') qual)
 (hbind:bindArgs (PySem.W.kla_fn "<lambda>" qual ps body sc cl pm (.ref c') ctv) ⟨[u],[]⟩ = pure [(x,u)]) (rv:RelV v u)
 (hb:∀ env:Env,jr k (A.deeper env)→env = Fx qual sc s f c' cl→PE (cxL X A N' env s H) body tb) (h:tb (nM ρ σ v) H Q) :
 wpAny (model X.prog X.w) A (call (.ref f) [u]) (CE X.stack X.prog X.w H s Q) (fun _ _=>False) s:=by
 rf wpAny_call (PySem.W.kla_callFunE hr.depth ho rfl S.co S.gen rfl hcd ?_)
 rw [hbind]
 rf wpAny_pure (wpAny_newFunctionEnv S.z9 (fun y hy=>by
  have e:y = (x,u):=by simpa using hy
  rw [e]; xt S.par) (fun h1 hns hsb=>⟨(I.nolimit).fresh _ hsb,?_⟩) S.kind)
 show codeAny _ _ (.expr body (Fx qual sc s f c' cl)) _ _
 have hk:∀ b o,s.heap.get? b = some o→h1.get? b = some o:=fun b o e=>hsb.extBut b o (Nat.ne_of_lt (Heap.lt_size e)) (Heap.get?_push_of_some _ e)
 have J:=WD (tk:=s.toks + [(x,u)].length) (qual:=qual) (f:=f) (c':=c') I hA hr.hd S rv hns hk
 rf PySem.W.kla_codeExpr (wpAny_mono (hb _ (hr.deeper _) rfl [] _ (nM ρ σ v) H Q J h) (fun k' s' hq=>?_) fun _ _ z=>z.elim)
 ob ⟨v2,H2,I2,r2,q⟩:=hq
 xt ⟨v2,H2,I2.os,I2.bare,I2.base,I2.hok,r2,q⟩
end
end L2
namespace So
theorem MF:∀ {a b:List Int},a≠b→iD a b = true∨iD b a = true
 | [],[],h=>absurd rfl h
 | [],_ :: _,_=>.inl rfl
 | _ :: _,[],_=>.inr rfl
 | a :: r,b :: t,h=>by
  rw [iD,iD]
  by_cases e:a = b
  ·subst e
   simp only [beq_self_eq_true,if_true]
   xt MF fun z=>h (by rw [z])
  ·have e':¬ b = a:=fun z=>e z.symm
   simp only [beq_iff_eq,e,e',if_false,decide_eq_true_eq]
   omega
theorem MJ:∀ {a b:List Int},iD a b = true→iD b a = false
 | [],[],h=>by simp [iD] at h
 | [],_ :: _,_=>rfl
 | _ :: _,[],h=>by simp [iD] at h
 | a :: r,b :: t,h=>by
  rw [iD] at h ⊢
  by_cases e:a = b
  ·subst e
   simp only [beq_self_eq_true,if_true] at h ⊢
   xt MJ h
  ·have e':¬ b = a:=fun z=>e z.symm
   simp only [beq_iff_eq,e,e',if_false,decide_eq_true_eq,decide_eq_false_iff_not] at h ⊢
   omega
theorem Tq:∀ {a b c:List Int},iD a b = true→iD b c = true→iD a c = true
 | [],[],_,h,_=>by simp [iD] at h
 | [],_ :: _,[],_,h=>by simp [iD] at h
 | [],_ :: _,_ :: _,_,_=>rfl
 | _ :: _,[],_,h,_=>by simp [iD] at h
 | _ :: _,_ :: _,[],_,h=>by simp [iD] at h
 | a :: r,b :: t,c :: u,h,k=>by
  rw [iD] at h k ⊢
  by_cases e:a = b
  ·subst e
   simp only [beq_self_eq_true,if_true] at h
   by_cases f:a = c
   ·subst f
    simp only [beq_self_eq_true,if_true] at k ⊢
    xt Tq h k
   ·simp only [beq_iff_eq,f,if_false] at k ⊢
    xt k
  ·simp only [beq_iff_eq,e,if_false,decide_eq_true_eq] at h
   by_cases f:b = c
   ·subst f
    simp only [beq_iff_eq,e,if_false,decide_eq_true_eq]
    xt h
   ·simp only [beq_iff_eq,f,if_false,decide_eq_true_eq] at k
    have:¬ a = c:=by omega
    simp only [beq_iff_eq,this,if_false,decide_eq_true_eq]
    omega
def Wv (kz:List (List Int)) (i j:Nat):Bool:=iD (kz.getD i []) (kz.getD j [])
theorem Ft {kz:List (List Int)} (nd:kz.Nodup):Ord kz.length (Wv kz):=by
 have inj:∀ i j,i < kz.length→j < kz.length→i≠j→kz.getD i []≠kz.getD j []:=fun i j hi hj ne e=>by
  rw [List.getD_eq_getElem?_getD,List.getElem?_eq_getElem hi,List.getD_eq_getElem?_getD,List.getElem?_eq_getElem hj] at e
  xt ne ((List.getElem_inj nd).mp e)
 xt ⟨fun i j hi hj ne=>MF (inj i j hi hj ne),fun i j _ _ h=>MJ h,fun i j k _ _ _ h g=>Tq h g⟩
def Lj {α : Type} (d:α) (kz:List (List Int)) (xs ys:List α):Prop:=∃ p:Array Nat,Pm xs.length p∧Sd (Wv kz) p xs.length∧ys = p.toList.map fun i=>xs.getD i d
end So
namespace L2
open PySem PySem.Spec PyProof.Rows A So
variable [Tb:iZ]
def Tab (T:Addr) (q:Str) (H H':Hp):Prop:=H' = H∨∃ ps ps' c,H T = some (.tbl q ps)∧H c = none∧c≠T∧H' = upd (upd H T (.tbl q ps')) c (.ext (m7 c q))∧jt H'
theorem Eb {c:Value} {p:Pos}:∀ {l:List Value},TriplesOk l→TriplesOk (l ++ [rawInt p.line,rawInt p.col,c]):=fun {l} h=>by
 fun_induction TriplesOk l with
 | case1=>xt trivial
 | case2 a b c' d e rest ih=>xt ih h
 | case3 _ _=>xt h.elim
theorem Lf {c v:Value} {p p2:Pos}:∀ {l:List Value},TriplesOk l→codeAmong p2 (l ++ [rawInt p.line,rawInt p.col,c]) = some v→codeAmong p2 l = some v∨v = c:=fun {l} h e=>by
 fun_induction TriplesOk l with
 | case1 =>
  simp only [List.nil_append,codeAmong,rawInt] at e
  split at e
  ·xt .inr (by cases e; rfl)
  ·cases e
 | case2 a b c' d e' rest ih =>
  simp only [List.cons_append,codeAmong] at e ⊢
  split at e
  ·rename_i q
   rw [if_pos q]; xt .inl e
  ·rename_i q
   rw [if_neg q]; xt ih h e
 | case3 _ _=>xt h.elim
def BM (mg:Str→Option Value) (base:Heap):Prop:=∃ bm o,mg "__builtins__" = some (.ref bm)∧bm≠builtinsNs∧bm≠mainGlobals∧base.get? bm = some o∧o.cls = .type "module" ∧ o.dict = some builtinsNs∧o.data = .plain
section
variable {X:Cx} {pins:List (Addr×Obj)} {σ : St} {H:Hp} {s:Shared} {qual x:Str} {ps:Arguments} {body:Expr} {sc:Scope} {cl:List (Str×Addr)} {c T:Addr} {pos:Pos}
theorem K6 (c:Addr) (q:Str):∀ h1 h2:Heap,m7 c q h1→(∀ o,h1.get? c = some o→h2.get? c = some o)→m7 c q h2:=fun h1 h2 ⟨o,vs,t,e,d,r⟩ k=>⟨o,vs,t,k o e,d,r⟩
theorem Tw {Q:Value→Shared→Prop} {E:Value→Shared→Prop} (I:Inv X pins σ H s) (hc:X.env.code = .ref c) (C:PySem.W.CodeHd X.base c T) (k:jt H) {tps:Array Value} (hT:H T = some (.tbl qual tps)) (hB:BM X.mg X.base)
 (hdef:defaultsOf ps X.env = ([],[])) (hq:X.env.qual ++ "<lambda>" = qual) (hcl:closureFor sc X.env = pure cl)
 (h:∀ f c' ctv pm s' H',Tab T qual H H'→H' c' = some (.ext (m7 c' qual))→s'.heap.get? f = some (PySem.W.kla_obj "<lambda>" qual ps body sc cl pm c' ctv)→Inv X pins σ H' s'→pU X pins H' f→Q (.ref f) s') :
 wpAny (model X.prog X.w) X.A (eval (.Lambda ps body sc pos) X.env) Q E s:=by
 ob ⟨ok1,ok2⟩:=k.cd T qual tps hT
 have hP:s.heap.get? T = some (PySem.W.tabObj tps):=I.hok T _ hT
 have hg:s.heap.Ns mainGlobals X.mg:=I.mod.glob.keeps I.bk
 have C':PySem.W.CodeHd s.heap c T:=C.keeps I.bk
 ob ⟨bm,bo,b1,b2,b3,b4,b5,b6,b7⟩:=hB
 have nT:∀ b o,X.base.get? b = some o→b≠T:=fun b o e z=>by
  have:=(I.bs b o e).2
  rw [z,hT] at this; cases this
 have hb:s.heap.BuiltinsAt X.mg T:=⟨bm,bo,b1,b2,b3,nT _ _ b4,I.bk _ _ b4,b5,b6,b7⟩
 have hgT:mainGlobals≠T:=by
  ob ⟨o,es,ep,e,_⟩:=I.mod.glob
  xt nT _ _ e
 rf PySem.W.kla_eval hdef ?_
 rw [hq]
 cases hf:codeAmong pos tps.toList with
 | some v =>
  ob ⟨c',rfl,hc'⟩:=ok2 pos v hf
  rf PySem.W.kla_makeFunctionHit hcl I.ok.glob hg hc C' hP ok1 hf hb fun ctv h' tk kp sz=>?_
  have I':Inv X pins σ H { s with heap:=h'.push _,toks:=tk }:=I.kept (h':=h'.push (PySem.W.kla_obj "<lambda>" qual ps body sc cl ((X.mg "__name__").getD .none) c' ctv)) fun b o e=>Heap.get?_push_of_some _ (kp b o e)
  xt h _ c' ctv _ _ H (.inl rfl) hc' (Heap.get?_push_size _ rfl) I' (I.uR sz (I.hok.fresh sz))
 | none =>
  rf PySem.W.kla_makeFunction hcl I.ok.glob hg hc C' hP ok1 hf hgT hb fun c' ctv h' tk kp h1 h2 hrec htb=>?_
  have nc:H c' = none:=I.hok.fresh h1
  have cT:c'≠T:=fun z=>by rw [z,hT] at nc; cases nc
  have hx:m7 c' qual h':=by
   ob ⟨c2,o,vs,t,e,r⟩:=hrec
   cases e
   xt ⟨o,vs,t,r⟩
  obtain ⟨oc,hoc⟩ : ∃ o,h'.get? c' = some o:=let ⟨o,_,_,e,_⟩:=hx; ⟨o,e⟩
  have u1:Un X.fs [] H (upd H T (.tbl qual (tps ++ #[rawInt pos.line,rawInt pos.col,.ref c']))) s.heap h':=by
   have nn:∀ b,H b = none→b≠T:=fun b n z=>by rw [z,hT] at n; cases n
   rf ⟨fun b o e n _ _=>kp b o (nn b n) e,fun b o e n _ _=>⟨o.slots,kp b o (nn b n) e⟩,fun b o e n _=>by rw [aJ (nn b n)]; xt n,fun b o e _=>?_,fun b xs e=>?_,fun b o u e=>?_,fun b w ps e=>?_⟩
   ·by_cases z:b = T
    ·rw [z]; xt ⟨_,htb⟩
    ·xt ⟨o,kp b o z e⟩
   ·rw [aJ (fun z=>by rw [z,hT] at e; cases e)]; xt e
   ·rw [aJ (fun z=>by rw [z,hT] at e; cases e)]; xt e
   ·by_cases z:b = T
    ·subst z
     rw [hT] at e; cases e
     xt ⟨_,aU⟩
    ·xt ⟨#[],by rw [aJ z,e]; simp⟩
  have adY:pW X.prog X.w (upd H T (.tbl qual (tps ++ #[rawInt pos.line,rawInt pos.col,.ref c']))) h':=fun b u e=>by
   by_cases z:b = T
   ·subst z; rw [aU] at e; cases e; xt htb
   ·rw [aJ z] at e
    rf (I.hok b u e).stay (fun y v hy q=>kp y v ?_ q) (fun y q=>by rw [aJ (fun w=>by rw [w,hT] at q; cases q)]; xt q) fun y xs q=>by rw [aJ (fun w=>by rw [w,hT] at q; cases q)]; xt q
    rcases hy with w | w
    ·rw [w]; xt z
    ·xt fun w2=>by rw [w2,hT] at w; cases w
  have I1:Inv X pins σ (upd H T (.tbl qual (tps ++ #[rawInt pos.line,rawInt pos.col,.ref c']))) { s with heap:=h',toks:=tk }:=I.un u1 adY
  have nc1:upd H T (.tbl qual (tps ++ #[rawInt pos.line,rawInt pos.col,.ref c'])) c' = none:=by rw [aJ cT]; xt nc
  have I2:Inv X pins σ (upd (upd H T (.tbl qual (tps ++ #[rawInt pos.line,rawInt pos.col,.ref c']))) c' (.ext (m7 c' qual))) { s with heap:=h',toks:=tk }:=by
   have F:pU X pins (upd H T (.tbl qual (tps ++ #[rawInt pos.line,rawInt pos.col,.ref c']))) c':=⟨nc1,(I.uR (H':=H) h1 nc).2⟩
   have Sg:∀ b u,(upd H T (.tbl qual (tps ++ #[rawInt pos.line,rawInt pos.col,.ref c']))) b = some u→b≠c':=fun b u e=>aX e nc1
   rf I1.call' (s':={ s with heap:=h',toks:=tk }) (ch:=[c']) rfl ⟨fun b u e _ _ _=>e,fun b u e _ _ _=>⟨u.slots,e⟩,fun b u e n hb=>?_,fun b u e hb=>⟨u,e⟩,fun b xs e=>by rw [aJ (Sg _ _ e)]; xt e,fun b q u e=>by rw [aJ (Sg _ _ e)]; xt e,fun b w ps e=>⟨#[],by rw [aJ (Sg _ _ e),e]; simp⟩⟩ ?_ I.bare
    fun b hb=>by
     obtain rfl:b = c':=by simpa using hb
     xt ⟨F.2.2.2.1,F.2.1,F.2.2.2.2.1,F.2.2.2.2.2⟩
   ·rw [aJ (fun z=>hb (by simp [z]))]; xt n
   ·intro b u e
    by_cases z:b = c'
    ·subst z; rw [aU] at e; cases e
     xt ⟨hx,⟨oc,hoc⟩,K6 b qual⟩
    ·rw [aJ z] at e
     xt (I1.hok b u e).stay (fun y v hy q=>q) (fun y q=>by rw [aJ (Sg _ _ q)]; xt q) fun y xs q=>by rw [aJ (Sg _ _ q)]; xt q
  have acv:∀ b o,h'.get? b = some o→(h'.push (PySem.W.kla_obj "<lambda>" qual ps body sc cl ((X.mg "__name__").getD .none) c' ctv)).get? b = some o:=fun b o e=>Heap.get?_push_of_some _ e
  have I3:=I2.kept (t':=tk) acv
  have szs:s.heap.objs.size≤h'.objs.size:=Nat.le_trans h1 (Nat.le_of_lt h2)
  have ck:jt (upd (upd H T (.tbl qual (tps ++ #[rawInt pos.line,rawInt pos.col,.ref c']))) c' (.ext (m7 c' qual))):=by
   have nT':∀ {b:Addr} {o:HO},H b = some o→NT o→upd (upd H T (.tbl qual (tps ++ #[rawInt pos.line,rawInt pos.col,.ref c']))) c' (.ext (m7 c' qual)) b = some o:=fun {b o} e n=>by
    rw [aJ (aX e nc),aJ (fun z=>by rw [z,hT] at e; cases e; xt n)]; xt e
   rf ⟨fun r hr=>?_,fun T2 q2 ps2 e=>?_⟩
   ·ob ⟨p0,e0⟩:=k.has r hr
    by_cases z:r.1 = T
    ·rw [z,hT] at e0
     have:qual = r.2:=by injection e0 with e0; injection e0
     xt ⟨_,by rw [aJ (by rw [z]; xt Ne.symm cT),z,aU,this]⟩
    ·xt ⟨p0,by rw [aJ (aX e0 nc),aJ z]; xt e0⟩
   ·by_cases z:T2 = c'
    ·subst z; rw [aU] at e; cases e
    ·rw [aJ z] at e
     by_cases z2:T2 = T
     ·subst z2
      rw [aU] at e
      have e1:qual = q2:=by injection e with e; injection e
      have e2:tps ++ #[rawInt pos.line,rawInt pos.col,.ref c'] = ps2:=by injection e with e; injection e
      subst e1 e2
      rf ⟨by rw [Array.toList_append]; xt Eb ok1,fun p2 v hv=>?_⟩
      rw [Array.toList_append] at hv
      rcases Lf ok1 hv with q | q
      ·ob ⟨y,y1,y2⟩:=ok2 p2 v q
       xt ⟨y,y1,nT' y2 trivial⟩
      ·xt ⟨c',q,aU⟩
     ·rw [aJ z2] at e
      ob ⟨t1,t2⟩:=k.cd T2 q2 ps2 e
      rf ⟨t1,fun p2 v hv=>?_⟩
      ob ⟨y,y1,y2⟩:=t2 p2 v hv
      xt ⟨y,y1,nT' y2 trivial⟩
  rf h h'.objs.size c' ctv _ _ _ (.inr ⟨tps,_,c',hT,nc,cT,rfl,ck⟩) aU (Heap.get?_push_size _ rfl) I3 ?_
  rf I.uR szs ?_
  rw [aJ (Nat.ne_of_gt h2),aJ (fun z=>?_)]
  ·xt I.hok.fresh szs
  ·have:=I.hok.fresh szs
   rw [z,hT] at this; cases this
end
end L2
namespace L2
open PySem PySem.Spec PyProof.Rows A So
variable [Tb:iZ]
section
variable {X:Cx} {pins:List (Addr×Obj)} {σ : St} {H:Hp} {s:Shared}
theorem adopt {fp:List Addr} {D:Addr} {o:HO} {h':Heap} {t':Nat} (I:Inv X pins σ H s) (hf:∀ b∈fp,pU X pins H b) (hD:D∈fp) (k:∀ b u,b∉fp→s.heap.get? b = some u→h'.get? b = some u)
 (new:bY X.prog X.w (upd H D o) h' D o):Inv X pins σ (upd H D o) { s with heap:=h',toks:=t' }:=by
 have hn:H D = none:=(hf D hD).1
 have nfp:∀ b u,H b = some u→b∉fp:=fun b u e z=>by rw [(hf b z).1] at e; cases e
 rf I.call' (s':={ s with heap:=h',toks:=t' }) (ch:=fp) rfl ⟨fun b u e _ _ hb=>k b u hb e,fun b u e _ _ hb=>⟨u.slots,k b u hb e⟩,fun b u e hb hx=>?_,fun b u e hb=>⟨u,k b u hb e⟩,fun b xs e=>?_,fun b q u e=>?_,fun b w ps e=>⟨#[],?_⟩⟩ ?_ I.bare
  fun b hb=>⟨(hf b hb).2.2.2.1,(hf b hb).2.1,(hf b hb).2.2.2.2.1,(hf b hb).2.2.2.2.2⟩
 ·rw [aJ (fun z=>hx (by rw [z]; xt hD))]; xt hb
 ·rw [aJ (aX e hn)]; xt e
 ·rw [aJ (aX e hn)]; xt e
 ·rw [aJ (aX e hn),e]; simp
 ·intro b u e
  by_cases hb:b = D
  ·subst hb; rw [aU] at e; cases e; xt new
  ·rw [aJ hb] at e
   rf (I.hok b u e).stay (fun c v hc q=>k c v ?_ q) (fun c q=>by rw [aJ (aX q hn)]; xt q) fun c xs q=>by rw [aJ (aX q hn)]; xt q
   rcases hc with z | z
   ·rw [z]; xt nfp b u e
   ·xt nfp c _ z
theorem zf:∀ {ns:List Int} {its:List Value},Vals (ns.map V.int) its→IntsAre its ns
 | [],_,.nil=>.nil
 | n :: r,_,.cons h t=>by
  ob ⟨t1,rfl⟩:=h
  xt .cons n t1 (zf t)
end
def Gz (c':Addr) (q:Str) (tk:V→Hp→VK→Prop):List V→Hp→(List V→Hp→Prop)→Prop
 | [],H,R=>R [] H
 | x :: xs,H,R=>tk x H fun k H1=>H1 c' = some (.ext (m7 c' q))∧Gz c' q tk xs H1 fun ks H2=>R (k :: ks) H2
def KeysAre (H:Hp) (kz:List (List Int)) (ks:List V):Prop:=P2 (fun z k=>∃ p,k = V.ref p∧H p = some (.lst (z.map V.int))) kz ks
def abj (T:Addr) (q:Str) (ρ : List Nat) (σ : St) (tb:TE) (Q:VK):VK:=fun x H1=>∃ a xs tps,x = .ref a∧xs.length < 64∧H1 T = some (.tbl q tps)∧jt H1 ∧
 ∀ H2 c',Tab T q H1 H2→H2 c' = some (.ext (m7 c' q))→Lst H2 a xs∧Gz c' q (fun v H K=>tb (nM ρ σ v) H K) xs H2 fun ks H3=>∃ kz:List (List Int),kz.length = xs.length∧kz.Nodup∧KeysAre H3 kz ks ∧
  ∀ p ys,H3 p = none→Lj .non kz xs ys→Q (.ref p) (upd H3 p (.lst ys))
def Q7 (T:Addr) (q:Str) (ρ : List Nat) (te tb:TE):TE:=fun σ H Q=>te σ H (abj T q ρ σ tb Q)
theorem Ol {kz:List (List Int)} {xs:List V} {its out:List Value} (r:Vals xs its) (hz:kz.length = xs.length) (h:uZ (Wv kz) its out):∃ ys,Lj .non kz xs ys∧Vals ys out:=by
 ob ⟨p,pm,sd,rfl⟩:=h
 have hl:=r.length
 rw [← hl] at pm sd
 rf ⟨p.toList.map fun i=>xs.getD i .non,⟨p,pm,sd,rfl⟩,?_⟩
 have key:∀ l:List Nat,(∀ i∈l,i < xs.length)→Vals (l.map fun i=>xs.getD i .non) (l.map fun i=>its.getD i Value.none):=fun l hl'=>by
  induction l with
  | nil=>xt .nil
  | cons i t ih =>
   have hi:=hl' i List.mem_cons_self
   rf .cons ?_ (ih fun j hj=>hl' j (List.mem_cons_of_mem _ hj))
   have e1:xs[i]? = some (xs.getD i .non):=by simp [hi]
   ob ⟨u,e2,r2⟩:=r.get e1
   have:its.getD i Value.none = u:=by simp [e2]
   show RelV (xs.getD i .non) (its.getD i Value.none)
   rw [this]; xt r2
 rf key _ fun i hi=>?_
 have:=(Array.perm_iff_toList_perm.mp pm.pm).mem_iff.mp hi
 simpa using this
section
variable {X:Cx} {x qual:Str} {e:Expr} {ps:Arguments} {body:Expr} {sc:Scope} {cl:List (Str×Addr)} {c T:Addr} {p pos acg adP:Pos} {k:Nat} {ρ : List Nat} {N':List Str} {te tb:TE}
theorem RV (hg:Gl X "sorted") (hm:X.mg "sorted" = none) (he:PE X e te) (hr:jr (k + 3) X.A) (hc:X.env.code = .ref c) (C:PySem.W.CodeHd X.base c T) (hB:BM X.mg X.base) (hdef:defaultsOf ps X.env = ([],[])) (hq:X.env.qual ++ "<lambda>" = qual) (hcl:closureFor sc X.env = pure cl)
 (S:Dt X x ρ N' sc cl) (hbind:∀ (pm:Value) (c':Addr) (ctv u:Value),bindArgs (PySem.W.kla_fn "<lambda>" qual ps body sc cl pm (.ref c') ctv) ⟨[u],[]⟩ = pure [(x,u)])
 (hb:∀ (A:Around) (f c':Addr) (s:Shared) (H:Hp) (env:Env),jr k (A.deeper env)→env = Fx qual sc s f c' cl→PE (cxL X A N' env s H) body tb)
 (hs:starEach [e] X.env = (false,eval e X.env) :: starEach [] X.env:=by rfl) (hpl:(backTo pos (starEach [e] X.env)).any (·.1) = false:=by rfl) :
 PE X (.Call (.Name "sorted" p) [e] [⟨some "key", .Lambda ps body sc acg,adP⟩] pos) (Q7 T qual ρ te tb):=by
 intro pins s σ H Q I h
 have hboot:bootBuiltins "sorted" = some (.builtin "sorted"):=by kernel_rfl
 rf wpAny_Call_Name_kw (uP I hg hm hboot ?_)
 rf callWith_kw ?_ (by rw [hs]; rfl) hpl rfl rfl
 rw [hs]
 show wpAny _ _ (spliced ((false,eval e X.env) :: backTo pos (starEach [] X.env))) _ _ s
 rf Calls.spliced_cons (dY (he pins s σ H _ I h) fun u s1 ⟨x1,H1,I1,r1,q1⟩=>Calls.spliced_nil ?_)
 ob ⟨a,xs,tps,rfl,h64,hT,ck,q2⟩:=q1
 cases r1
 show wpAny _ _ (evalAll ((do let v ← eval (.Lambda ps body sc acg) X.env; standAt pos; pure v) :: ((backToKw pos (keywordEach [] X.env)).map (·.2)))) _ _ s1
 rf wpAny_evalAll_cons (wpAny_bind (Tw I1 hc C ck hT hB hdef hq hcl fun f c' ctv pm s2 H2 tab hc' hf I2 fpf=>wpAny_bind (wpAny_standAt (wpAny_pure (wpAny_evalAll_nil ?_)))))
 ob ⟨hl2,kr⟩:=q2 H2 c' tab hc'
 show wpAny (model X.prog X.w) X.A (call (.builtin "sorted") [.ref a] [(Str.ofString "key", .ref f)]) (EP X pins σ Q) X.xe s2
 ob ⟨its,n0,rv,hz,ho⟩:=Tj I2 hl2
 have hli:=rv.length
 let Fn:List V→Hp→Prop:=fun ks H3=>∃ kz:List (List Int),kz.length = xs.length∧kz.Nodup∧KeysAre H3 kz ks∧∀ p ys,H3 p = none→Lj .non kz xs ys→Q (.ref p) (upd H3 p (.lst ys))
 have flt:f < s2.heap.objs.size:=Heap.lt_size hf
 have fnt:f∉tm s2.heap.objs.size:=fun z=>by
  simp only [tm,List.mem_cons,List.not_mem_nil,or_false] at z
  have:(f:Nat) < s2.heap.objs.size:=flt
  rcases z with z | z | z | z
  ·xt absurd this (by rw [z]; xt Nat.lt_irrefl _)
  ·xt absurd this (by rw [z]; xt Nat.not_lt.mpr (Nat.le_add_right _ _))
  ·xt absurd this (by rw [z]; xt Nat.not_lt.mpr (Nat.le_add_right _ _))
  ·xt absurd this (by rw [z]; xt Nat.not_lt.mpr (Nat.le_add_right _ _))
 rf Eg (vs:=its) (J:=fun ks s3=>∃ Hc kv,Inv X pins σ Hc s3∧Vals kv ks∧s3.heap.get? f = some (PySem.W.kla_obj "<lambda>" qual ps body sc cl pm c' ctv)∧pU X pins Hc f∧(∀ b∈tm s2.heap.objs.size,pU X pins Hc b∧∃ o,s3.heap.get? b = some o) ∧
  Hc c' = some (.ext (m7 c' qual))∧Gz c' qual (fun v H K=>tb (nM ρ σ v) H K) (xs.drop ks.length) Hc fun ks' H3=>Fn (kv ++ ks') H3) ⟨_,ho,rfl,_,rfl⟩ ω ?j0 ?jk ?jc ?je
 case j0 =>
  intro h' kp ex
  rf ⟨H2,[],I2.kept kp,.nil,kp _ _ hf,fpf,fun b hb=>⟨I2.uR ?_ (I2.hok.fresh ?_),ex b hb⟩,hc',kr⟩
  all_goals (simp only [tm,List.mem_cons,List.not_mem_nil,or_false] at hb; rcases hb with z | z | z | z <;> rw [z] <;> first | xt Nat.le_refl _ | xt Nat.le_add_right _ _)
 case jk =>
  rintro ks s3 h' ⟨Hc,kv,I3,rk,hf3,fp3,tm3,hc3,kr3⟩ kp ex
  rf ⟨Hc,kv,uF (t':=s3.toks) I3 (fp:=tm s2.heap.objs.size) (fun b hb=>(tm3 b hb).1) (fun b u hb q=>kp b u hb q),rk,kp _ _ fnt hf3,fp3,fun b hb=>⟨(tm3 b hb).1,?_⟩,hc3,kr3⟩
  ob ⟨o,q⟩:=(tm3 b hb).2
  xt ex b o q
 case jc =>
  rintro i u ks s3 hu hks ⟨Hc,kv,I3,rk,hf3,fp3,tm3,hc3,kr3⟩
  obtain ⟨v,hv,ruv⟩ : ∃ v,xs[i]? = some v∧RelV v u:=by
   have hi:i < xs.length:=by rw [hli]; xt (List.getElem?_eq_some_iff.mp hu).1
   have e1:xs[i]? = some xs[i]:=by simp [hi]
   ob ⟨u2,e2,r2⟩:=rv.get e1
   rw [hu] at e2; cases e2
   xt ⟨_,e1,r2⟩
  have hd:xs.drop ks.length = v :: xs.drop (ks.length + 1):=by
   ob ⟨hi,e⟩:=List.getElem?_eq_some_iff.mp hv
   rw [hks,List.drop_eq_getElem_cons hi,e]
  rw [hd] at kr3
  have hrec:s3.heap.CodeRec (.ref c') qual:=by
   ob ⟨⟨o,vs,t,e1,e2,e3⟩,_⟩:=I3.hok c' _ hc3
   xt ⟨c',o,vs,t,rfl,e1,e2,e3⟩
  have hA:X.A.in1.in1.frames = some X.stack:=I3.ok.frames
  rf wpAny_mono (Wz (k:=k) I3 hA hr.in1.in1 S hf3 hrec (hbind pm c' ctv u) ruv (fun env h1 h2=>hb _ f c' s3 Hc env h1 h2) kr3) (fun kk s4 hce=>?_) fun _ _ z=>z
  have aeX:=hce
  ob ⟨kvv,H4,os4,acL,un4,adX,rk4,hc4,kr4⟩:=hce
  have noF:∀ b,pU X pins Hc b→b∉frs X.stack:=fun b hb z=>by
   rcases List.mem_cons.mp (I3.Ed b z) with y | y
   ·xt hb.2.1 y
   ·xt hb.2.2.1 y
  have I4:Inv X pins σ H4 s4:=I3.call' os4 (ch:=[]) un4 adX acL (fun b z=>absurd z (by simp))
  have fpk:∀ b,pU X pins Hc b→(∃ o,s3.heap.get? b = some o)→pU X pins H4 b:=fun b hb ⟨o,q⟩=>⟨un4.free b o q hb.1 (by simp),hb.2⟩
  rf ⟨⟨H4,kv ++ [kvv],I4,rk.append (.cons rk4 .nil),un4.keep _ _ hf3 fp3.1 (noF _ fp3) (by simp),fpk f fp3 ⟨_,hf3⟩,fun b hb=>⟨fpk b (tm3 b hb).1 (tm3 b hb).2,?_⟩,hc4,?_⟩,fun b o hb q=>un4.keep b o q (tm3 b hb).1.1 (noF _ (tm3 b hb).1) (by simp)⟩
  ·ob ⟨o,q⟩:=(tm3 b hb).2
   xt un4.there b o q (by simp)
  ·rw [List.length_append]
   simp only [List.append_assoc,List.singleton_append]
   xt kr4
 case je =>
  rintro ks s3 hks ⟨Hc,kv,I3,rk,hf3,fp3,tm3,hc3,kr3⟩
  rw [List.drop_eq_nil_of_le ω] at kr3
  ob ⟨kz,hz1,nd,ka,fin⟩:=kr3
  rw [List.append_nil] at ka
  have lk:=rk.length
  have at_:∀ i,i < its.length→∃ pp o us nn,ks.getD i Value.none = .ref pp∧s3.heap.get? pp = some o∧o.cls = .type "list" ∧ o.data = .seq (List.toArray us) nn∧IntsAre us (kz.getD i []):=fun i hi=>by
   have hzi:i < kz.length:=by omega
   have e1:kz[i]? = some (kz.getD i []):=by simp [hzi]
   ob ⟨kvi,e2,pp,rfl,hp⟩:=P2.getL ka e1
   ob ⟨u,e3,r3⟩:=rk.get e2
   cases r3
   ob ⟨_,us,nn,vu,ho⟩:=I3.hok pp _ hp
   xt ⟨pp,_,us,nn,by simp [e3],ho,rfl,rfl,zf vu⟩
  have hord:=Ft nd
  rw [hz1,hli] at hord
  rf ⟨Wv kz,hord,fun h2 Q' hq'=>?_,fun i j C hi hj hC=>?_,fun out h' cc so kp ex hD=>?_⟩
  ·rf PySem.W.kas_kind (T:=Value.type "list") ω (fun v hv=>?_) δ δ hq'
   ob ⟨i,hi⟩:=List.getElem?_of_mem hv
   have hil:=(List.getElem?_eq_some_iff.mp hi).1
   ob ⟨pp,o,us,nn,e1,e2,e3,_⟩:=at_ i ω
   have:v = .ref pp:=by
    rw [← e1]; simp [hi]
   rw [this,← e3]
   xt (PySem.W.Looks.ld e2).andThen .now
  ·ob ⟨p1,o1,us1,n1,a1,a2,a3,a4,a5⟩:=at_ i hi
   ob ⟨p2,o2,us2,n2,b1,b2,b3,b4,b5⟩:=at_ j hj
   unfold PySem.W.kas_ask
   rw [a1,b1]
   xt Th a2 a3 a4 b2 b3 b4 a5 b5 (by have:=hr.un; show X.A.units + 1 + 1 < cLine; omega) hC
  ·ob ⟨ys,sy,vy⟩:=Ol rv hz1 so
   have hD':s2.heap.objs.size + 1∈tm s2.heap.objs.size:=by simp [tm]
   have ly:ys.length = xs.length:=by rw [vy.length,so.len,hli]
   have nD:Hc (s2.heap.objs.size + 1) = none:=(tm3 _ hD').1.1
   rf ⟨.ref (s2.heap.objs.size + 1),_,adopt (t':=s3.toks) (o:=.lst ys) I3 (fun b hb=>(tm3 b hb).1) hD' (fun b u hb q=>kp b u hb q) ⟨by rw [ly]; xt hz,out,cc,vy,hD⟩,rfl,fin _ ys nD sy⟩
end
end L2
namespace Mi
open PySem
def aaJ:D→Option (List Str)
 | .tup ds=>my ds
 | .lst ds=>my ds
 | _=>none
def Uo (x y:D):Rs D:=match y with
 | .str z=>(pH (aaJ x)).bind fun ys=>aK (z∈ys∧ys.length≤1000) (.ok (.int (ys.idxOf z:Nat)))
 | _=>.no
def qW:List Int→List Int→Bool
 | [],[]=>false
 | [],_ :: _=>true
 | _ :: _,[]=>false
 | a :: r,b :: t=>if a == b then qW r t else decide (a < b)
def Bk:List D→Option (List Int)
 | []=>some []
 | .int i :: r=>(Bk r).map (i :: ·)
 | _=>none
def Js:D→Rs (List Int)
 | .lst ds=>pH (Bk ds)
 | _=>.no
def insI (lt:Nat→Nat→Bool) (i:Nat):List Nat→List Nat
 | []=>[i]
 | j :: r=>if lt i j = true then i :: j :: r else j :: insI lt i r
def sortI (lt:Nat→Nat→Bool):List Nat→List Nat
 | []=>[]
 | i :: r=>insI lt i (sortI lt r)
def yu (kz:List (List Int)) (n:Nat):List Nat:=sortI (fun i j=>qW (kz.getD i []) (kz.getD j [])) (List.range n)
def sortBy (kz:List (List Int)) (ds:List D):List D:=(yu kz ds.length).map fun i=>ds.getD i .non
def Fy (ρ : List Nat) (e:Env) (d:D):Env:=some (.d d) :: ρ.map fun j=>(e[j]?).join
def pN (ρ : List Nat) (kf:E) (e:Env):List D→Rs (List (List Int))
 | []=>.ok []
 | d :: r=>(kf (Fy ρ e d)).bind fun k=>(Js k).bind fun z=>(pN ρ kf e r).bind fun zs=>.ok (z :: zs)
def Fq (ρ : List Nat) (a kf:E):E:=fun e=>(a e).bind fun x=>(gA x).bind fun ds=>aK (ds.length < 64) ((pN ρ kf e ds).bind fun kz=>aK kz.Nodup (.ok (.lst (sortBy kz ds))))
end Mi
namespace A
open PySem L2 PyProof.Rows
open Mi (D W Rs Fin aq Out Tg)
variable [Tb:iZ]
section
variable {prog:Program} {w:World} {Ar:Around}
theorem tG (x y:Str) (t u:Tok):PySem.MeetsSeq.EqGives (.str x t) (.str y u) (x.cps.toList == y.cps.toList):=PySem.SeqRoads2.EqGives.str x y t u
theorem vo {ys:List Str} {us:List Value} (r:Vals (ys.map V.str) us) {i:Nat} (h:i < ys.length):∃ t,us[i]? = some (.str (ys.getD i Str.empty) t):=by
 have e:(ys.map V.str)[i]? = some (.str (ys.getD i Str.empty)):=by simp [h]
 ob ⟨u,e2,r2⟩:=r.get e
 ob ⟨t,rfl⟩:=r2
 xt ⟨t,e2⟩
theorem Ij {ys:List Str} {z:Str} (h:z∈ys):ys.idxOf z < ys.length∧ys.getD (ys.idxOf z) Str.empty = z∧∀ m,m < ys.idxOf z→ys.getD m Str.empty≠z:=by
 have hl:=List.idxOf_lt_length_of_mem h
 rf ⟨hl,by simp [hl],fun m hm e=>?_⟩
 have:m < ys.length:=Nat.lt_trans hm hl
 have e2:ys[m] = z:=by simpa [this] using e
 have:=List.not_of_lt_findIdx (p:=(· == z)) (xs:=ys) (i:=m) hm
 simp [e2] at this
theorem WX {E:Value→Shared→Prop} {s:Shared} {t:Addr} {us:List Value} {ys:List Str} {z:Str} {tz:Tok} {Q:Value→Shared→Prop} (ht:IsTup s.heap t us.toArray) (r:Vals (ys.map V.str) us) (hz:z∈ys)
 (h:Q (.int (ys.idxOf z:Nat) s.toks) { s with toks:=s.toks + 1 }):wpAny (model prog w) Ar (call (.builtin "tuple.index") [.ref t,.str z tz]) Q E s:=by
 ob ⟨h1,h2,h3⟩:=Ij hz
 have hl:=r.length
 rw [List.length_map] at hl
 rf wpAny_call_entry PySem.F.slot_tuple_index ht.typeIs PySem.F.entry_tuple_index ?_ (PySem.F.args_tuple_index_2 _ _)
 show wpAny _ _ (Builtin.Tuple.tupleItemsOf (.ref t) >>= _) _ _ s
 rf wpAny_bind (tupleItemsOf_ ht ?_)
 rf wpAny_bind (wpAny_pure (wpAny_bind (wpAny_pure ?_)))
 dsimp only
 rw [Std.Legacy.Range.forIn_eq_forIn_range']
 have hsz:([0:min us.toArray.size us.toArray.size]:Std.Legacy.Range).size = us.length:=by simp [Std.Legacy.Range.size]
 rw [hsz]
 show wpAny _ _ (forIn (List.range' 0 us.length 1) _ _ >>= _) _ _ _
 have go:∀ (k i:Nat),ys.idxOf z = i + k→∀ (G:Option PySem.Fin×Unit→Shared→Prop),G (some (.done (.ret (.int (ys.idxOf z:Nat) s.toks))),()) { s with toks:=s.toks + 1 } →
  wpAny (model prog w) Ar.in1 (forIn (List.range' i (us.length - i) 1) ((none, ()) : Option PySem.Fin × Unit) fun (i : Nat) (__s : Option PySem.Fin × Unit) => (match us.toArray[i]? with
          | some y=>do
           let b ← eqBool y (Value.str z tz)
           if b = true then do
            let r ← retInt (i:Int)
            pure (ForInStep.done (some r,()))
            else pure (ForInStep.yield (none,()))
          | x=>pure (ForInStep.yield (none,())):Sem (ForInStep (Option PySem.Fin×Unit)))) G E s:=by
  intro k
  induction k with
  | zero =>
   intro i hi G hG
   have hlt:i < us.length:=by omega
   ob ⟨t1,e1⟩:=vo r (i:=i) ω
   rw [show us.length - i = (us.length - i - 1) + 1 by omega,List.range'_succ,List.forIn_cons]
   have e2:us.toArray[i]? = some (.str (ys.getD i Str.empty) t1):=by simpa using e1
   rw [e2]
   have hz2:ys.getD i Str.empty = z:=by rw [← h2,hi]; rfl
   rw [hz2]
   rf wpAny_bind (wpAny_bind (tG z z t1 tz prog w _ _ _ _ ?_))
   simp only [beq_self_eq_true,if_true]
   rf wpAny_bind (wpAny_bind (wpAny_mkInt (wpAny_pure (wpAny_pure ?_))))
   rw [show (i:Nat) = ys.idxOf z from hi.symm]
   xt wpAny_pure hG
  | succ k ih =>
   intro i hi G hG
   have hlt:i < us.length:=by omega
   ob ⟨t1,e1⟩:=vo r (i:=i) ω
   rw [show us.length - i = (us.length - (i + 1)) + 1 by omega,List.range'_succ,List.forIn_cons]
   have e2:us.toArray[i]? = some (.str (ys.getD i Str.empty) t1):=by simpa using e1
   rw [e2]
   have hz2:=h3 i ω
   rf wpAny_bind (wpAny_bind (tG _ z t1 tz prog w _ _ _ _ ?_))
   have:((ys.getD i Str.empty).cps.toList == z.cps.toList) = false:=by
    rw [beq_eq_false_iff_ne]
    intro e
    apply hz2
    cases hq:ys.getD i Str.empty with
    | mk c=>cases z with
     | mk d =>
      rw [hq] at e
      have:c = d:=Array.toList_inj.mp e
      rw [this]
   rw [this]
   simp only [Bool.false_eq_true,if_false]
   xt wpAny_pure (ih (i + 1) ω G hG)
 rf wpAny_bind (go (ys.idxOf z) 0 ω _ ?_)
 xt wpAny_pure ⟨_,rfl,h⟩
theorem WY {E:Value→Shared→Prop} {s:Shared} {t:Addr} {us:List Value} {ys:List Str} {z:Str} {tz:Tok} {n:Nat} {Q:Value→Shared→Prop} (ht:s.heap.get? t = some { cls:=.type "list", data:=.seq us.toArray n }) (r:Vals (ys.map V.str) us) (hz:z∈ys) (hl:ys.length≤1000)
 (h:Q (.int (ys.idxOf z:Nat) s.toks) { s with toks:=s.toks + 1 }):wpAny (model prog w) Ar (call (.builtin "list.index") [.ref t,.str z tz]) Q E s:=by
 ob ⟨h1,h2,h3⟩:=Ij hz
 have hlu:=r.length
 rw [List.length_map] at hlu
 let e:Value→Bool:=fun y=>match y with
  | .str a _=>a.cps.toList == z.cps.toList
  | _=>false
 have he:∀ y,y∈us.toArray→PySem.MeetsSeq.EqGives y (.str z tz) (e y):=fun y hy=>by
  ob ⟨i,hi⟩:=List.getElem?_of_mem (by simpa using hy:y∈us)
  have hil:=(List.getElem?_eq_some_iff.mp hi).1
  ob ⟨t1,e1⟩:=vo r (i:=i) ω
  rw [e1] at hi; cases hi
  xt tG _ z t1 tz
 have ei:∀ i (hi:i < us.toArray.size),e us.toArray[i] = decide (ys.getD i Str.empty = z):=fun i hi=>by
  have hi':i < us.length:=by simpa using hi
  ob ⟨t1,e1⟩:=vo r (i:=i) ω
  have:us.toArray[i] = .str (ys.getD i Str.empty) t1:=by
   have:=(List.getElem?_eq_some_iff.mp e1).2
   simpa using this
  rw [this]
  show ((ys.getD i Str.empty).cps.toList == z.cps.toList) = _
  by_cases q:ys.getD i Str.empty = z
  ·rw [q]; simp
  ·rw [decide_eq_false q,beq_eq_false_iff_ne]
   intro y
   apply q
   cases hq:ys.getD i Str.empty with
   | mk c=>cases z with
    | mk d =>
     rw [hq] at y
     have:c = d:=Array.toList_inj.mp y
     rw [this]
 rf call_meets PySem.F.slot_list_index ⟨_,ht,rfl⟩ PySem.F.entry_list_index (PySem.F.args_list_index_2 _ _) (PySem.MeetsSeq.list_index t us.toArray n (.str z tz) e he (ys.idxOf z) (by simp; omega) ω (by rw [ei]; simp only [h2]; simp) (fun m hm hj=>by rw [ei]; simp only [h3 m hj]; simp)) ⟨ht,h⟩
end
section
variable {X:Cx} {K:Φ} {M:Nat→Bool} {to ta tb:TE} {t:TA} {o e:Expr} {es:List Expr} {apos cpos:Pos} {a b:Mi.E}
theorem Wt:Vx X "tuple.index" (fun x xs H Q=>∃ (p:Addr) (ys:List Str) (z:Str),x = .ref p∧xs = [.str z]∧z∈ys∧H p = some (.tup (ys.map V.str))∧Q (.int (ys.idxOf z:Nat)) H):=by
 intro pins s σ H x xs v us Q I rx rv h
 ob ⟨p,ys,z,rfl,rfl,hz,hp,q⟩:=h
 cases rx
 ob ⟨u,rfl,ru⟩:=vals1 rv
 ob ⟨tz,rfl⟩:=ru
 ob ⟨its,r,pt,_⟩:=I.tuple (.inl (.inl hp))
 xt WX pt r hz ⟨.int _,H,I.tok _,⟨_,rfl⟩,q⟩
theorem Wu:Vx X "list.index" (fun x xs H Q=>∃ (p:Addr) (ys:List Str) (z:Str),x = .ref p∧xs = [.str z]∧z∈ys∧ys.length≤1000∧Lst H p (ys.map V.str)∧Q (.int (ys.idxOf z:Nat)) H):=by
 intro pins s σ H x xs v us Q I rx rv h
 ob ⟨p,ys,z,rfl,rfl,hz,hl,hp,q⟩:=h
 cases rx
 ob ⟨u,rfl,ru⟩:=vals1 rv
 ob ⟨tz,rfl⟩:=ru
 ob ⟨its,n,r,_,ho⟩:=Tj I hp
 xt WY ho r hz hl ⟨.int _,H,I.tok _,⟨_,rfl⟩,q⟩
def abf (K:Φ) (T2:String) (r1 r2:V→List V→Hp→VK→Prop) (to:TE) (t:TA):TE:=fun σ H Q=>to σ H fun x H1=>((∃ p xs,x = V.ref p∧H1 p = some (.tup xs))∧t σ H1 fun xs H2=>r1 x xs H2 Q)∨(tyV K T2 x H1∧t σ H1 fun xs H2=>r2 x xs H2 Q)
theorem Zw {T2 id1 id2:String} {r1 r2:V→List V→Hp→VK→Prop} {name:Str} (pa1:PlainAttrs "tuple") (slot1:Slot "tuple" name id1) (adV:typeOf (.builtin id1) = pure (.type "method_descriptor")) (hm1:Vx X id1 r1)
 (pa2:PlainAttrs T2) (abk:Slot T2 name id2) (adU:typeOf (.builtin id2) = pure (.type "method_descriptor")) (hm2:Vx X id2 r2) (ho:PE X o to) (ha:PA X (e :: es) t)
 (hbase:attributeBase o name X.env (eval o X.env) = eval o X.env:=by rfl)
 (hfew:((backTo cpos (starEach (e :: es) X.env)).all (fun x=>!x.1) && (backToKw cpos (keywordEach [] X.env)).all (fun x=>x.1.isSome)
  && decide ((e :: es).length + ([]:List Keyword).length + (if ([]:List Keyword).isEmpty then 0 else 1) < 30)) = true:=by rfl)
 (hline:(apos.endLine == cpos.line) = true:=by rfl) (hs:starEach (e :: es) X.env = (false,eval e X.env) :: starEach es X.env:=by rfl) (hplain:(backTo cpos (starEach es X.env)).any (·.1) = false:=by rfl) :
 PE X (.Call (.Attribute o name apos) (e :: es) [] cpos) (abf X.K T2 r1 r2 to t):=by
 intro pins s σ H Q I h
 rf wpAny_Call_method_late hbase hfew hline rfl (dY (ho pins s σ H _ I h) fun v s1 ⟨x,H1,I1,rx,q⟩=>?_)
 rcases q with ⟨ty,q1⟩ | ⟨ty,q1⟩
 ·ob ⟨p,xs,rfl,hp⟩:=ty
  cases rx
  have h12:s1.TypeIs (.ref p) "tuple" ∧ ∀ a,Value.ref p = .ref a→∃ ob,s1.heap.get? a = some ob∧ob.dict = none:=by
   ob ⟨_,its,_,ob,e1,e2,e3,_⟩:=(show bY X.prog X.w H1 s1.heap p (.tup xs) from I1.hok p _ hp)
   xt ⟨⟨ob,e1,e2⟩,fun a z=>by cases z; xt ⟨ob,e1,e3⟩⟩
  ob ⟨h1,h2⟩:=h12
  have rx:RelV (.ref p) (Value.ref p):=rfl
  rf ⟨"tuple", id1,pa1,slot1,adV,h1,h2,?_⟩
  have hA:=ha cpos pins s1 σ H1 _ I1 q1
  rw [hs] at hA ⊢
  rf Calls.callWith_builtin (by show (false || (backTo cpos (starEach es X.env)).any (·.1)) = false; rw [hplain] <;> rfl) (Calls.evalArgs_plain ?_)
  xt dY hA fun us s2 ⟨vs,H2,I2,r2',q2⟩=>hm1 pins s2 σ H2 _ vs _ us Q I2 rx r2' q2
 ·ob ⟨h1,h2⟩:=JQ I1 rx ty
  rf ⟨T2,id2,pa2,abk,adU,h1,h2,?_⟩
  have hA:=ha cpos pins s1 σ H1 _ I1 q1
  rw [hs] at hA ⊢
  rf Calls.callWith_builtin (by show (false || (backTo cpos (starEach es X.env)).any (·.1)) = false; rw [hplain] <;> rfl) (Calls.evalArgs_plain ?_)
  xt dY hA fun us s2 ⟨vs,H2,I2,r2',q2⟩=>hm2 pins s2 σ H2 x vs v us Q I2 rx r2' q2
end
end A
namespace So
open PySem
theorem Fw:∀ a b:List Int,iD a b = Mi.qW a b
 | [],[]=>rfl
 | [],_ :: _=>rfl
 | _ :: _,[]=>rfl
 | a :: r,b :: t=>by rw [iD,Mi.qW,Fw r t]
theorem Ai (lt:Nat→Nat→Bool) (i:Nat):∀ l:List Nat,(Mi.insI lt i l).Perm (i :: l)
 | []=>List.Perm.refl _
 | j :: r=>by
  unfold Mi.insI
  split
  ·xt List.Perm.refl _
  ·xt ((Ai lt i r).cons j).trans (List.Perm.swap i j r)
theorem pA (lt:Nat→Nat→Bool):∀ l:List Nat,(Mi.sortI lt l).Perm l
 | []=>List.Perm.refl _
 | i :: r=>(Ai lt i _).trans ((pA lt r).cons i)
section
variable {n:Nat} {lt:Nat→Nat→Bool} (O:Ord n lt)
include O
theorem Ah {i:Nat} (hi:i < n):∀ {l:List Nat},(∀ x∈l,x < n)→i∉l→l.Pairwise (fun a b=>lt a b = true)→(Mi.insI lt i l).Pairwise (fun a b=>lt a b = true)
 | [],_,_,_=>List.pairwise_singleton _ _
 | j :: r,hl,hn,hp=>by
  have hp':=List.pairwise_cons.mp hp
  have hj:=hl j List.mem_cons_self
  unfold Mi.insI
  split
  ·rename_i h
   rf List.pairwise_cons.mpr ⟨fun x hx=>?_,hp⟩
   rcases List.mem_cons.mp hx with rfl | hx
   ·xt h
   ·xt O.tr _ _ _ hi hj (hl x (List.mem_cons_of_mem _ hx)) h (hp'.1 x hx)
  ·rename_i h
   have hji:lt j i = true:=(O.tot i j hi hj fun z=>hn (by rw [z]; xt List.mem_cons_self)).resolve_left h
   rf List.pairwise_cons.mpr ⟨fun x hx=>?_,Ah hi (fun x hx=>hl x (List.mem_cons_of_mem _ hx)) (fun z=>hn (List.mem_cons_of_mem _ z)) hp'.2⟩
   rcases List.mem_cons.mp ((Ai lt i r).mem_iff.mp hx) with rfl | hx
   ·xt hji
   ·xt hp'.1 x hx
theorem rF:∀ {l:List Nat},(∀ x∈l,x < n)→l.Nodup→(Mi.sortI lt l).Pairwise (fun a b=>lt a b = true)
 | [],_,_=>.nil
 | i :: r,hl,nd=>by
  have nd:=List.nodup_cons.mp nd
  have hr:∀ x∈r,x < n:=fun x hx=>hl x (List.mem_cons_of_mem _ hx)
  xt Ah O (hl i List.mem_cons_self) (fun x hx=>hr x ((pA lt r).mem_iff.mp hx)) (fun z=>nd.1 ((pA lt r).mem_iff.mp z)) (rF hr nd.2)
theorem Hx:∀ {a b:List Nat},(∀ x∈a,x < n)→a.Perm b→a.Pairwise (fun x y=>lt x y = true)→b.Pairwise (fun x y=>lt x y = true)→a = b
 | [],b,_,p,_,_=>p.nil_eq
 | x :: r,b,hl,p,ha,hb=>by
  cases b with
  | nil=>xt absurd p.length_eq (by simp)
  | cons y t =>
   have hx:x∈y :: t:=p.mem_iff.mp List.mem_cons_self
   have hy:y∈x :: r:=p.mem_iff.mpr List.mem_cons_self
   have e:x = y:=by
    rcases List.mem_cons.mp hx with h | h
    ·xt h
    ·rcases List.mem_cons.mp hy with h' | h'
     ·xt h'.symm
     ·have a1:=(List.pairwise_cons.mp ha).1 y h'
      have a2:=(List.pairwise_cons.mp hb).1 x h
      rw [O.asy _ _ (hl x List.mem_cons_self) (hl y hy) a1] at a2; cases a2
   subst e
   rw [Hx (fun z hz=>hl z (List.mem_cons_of_mem _ hz)) (List.Perm.cons_inv p) (List.pairwise_cons.mp ha).2 (List.pairwise_cons.mp hb).2]
end
theorem Wl {kz:List (List Int)} (nd:kz.Nodup) {p:Array Nat} (pm:Pm kz.length p) (sd:Sd (Wv kz) p kz.length):p.toList = Mi.yu kz kz.length:=by
 have O:=Ft nd
 have e:Mi.yu kz kz.length = Mi.sortI (Wv kz) (List.range kz.length):=by
  unfold Mi.yu Wv
  congr 1
  funext i j
  xt (Fw _ _).symm
 have hp:p.toList.Perm (List.range kz.length):=by have:=Array.perm_iff_toList_perm.mp pm.pm; simpa using this
 have hb:∀ x∈p.toList,x < kz.length:=fun x hx=>by simpa using hp.mem_iff.mp hx
 rw [e]
 rf Hx O hb (hp.trans (pA _ _).symm) ?_ (rF O (fun x hx=>by simpa using hx) List.nodup_range)
 rw [List.pairwise_iff_getElem]
 intro i j hi hj hij
 have hi':i < p.size:=by simpa using hi
 have hj':j < p.size:=by simpa using hj
 have:=sd i j hij (by rw [← pm.size]; xt hj')
 rw [Jq hi',Jq hj'] at this
 simpa using this
end So
namespace A
open PySem L2 PyProof.Rows So
open Mi (D W Rs Fin aq Out Tg)
variable [Tb:iZ]
theorem Q4 {T:Addr} {q:Str} {H H' Hv:Hp} (v:Vw H Hv) (t:Tab T q H H'):cg H Hv H' Hv:=by
 rcases t with rfl | ⟨ps,ps',c,hT,hc,ne,rfl,ck⟩
 ·xt .refl v
 ·have get:∀ {a o},H a = some o→NT o→upd (upd H T (.tbl q ps')) c (.ext (m7 c q)) a = some o:=fun {a o} e n=>by
   rw [aJ (aX e hc),aJ (fun z=>by rw [z,hT] at e; cases e; xt n)]; xt e
  have back:∀ {a o},upd (upd H T (.tbl q ps')) c (.ext (m7 c q)) a = some o→(∀ w ps,o≠.tbl w ps)→(∀ φ,o≠.ext φ)→H a = some o:=fun {a o} e n1 n2=>by
   by_cases z:a = c
   ·subst z; rw [aU] at e; cases e; xt absurd rfl (n2 _)
   ·rw [aJ z] at e
    by_cases z2:a = T
    ·subst z2; rw [aU] at e; cases e; xt absurd rfl (n1 _ _)
    ·rw [aJ z2] at e; xt e
  rf ⟨⟨fun a o e n=>get e n,fun a e=>?_,fun a w p0 e=>?_⟩,gJ.refl _,⟨fun a o e=>get (v.sub a o e) (v.nv a o e),fun a xs e=>v.tup a xs (back e (fun _ _ z=>by cases z) (fun _ z=>by cases z)),fun a o u e=>v.frz a o u (back e (fun _ _ z=>by cases z) (fun _ z=>by cases z)),ck,v.nv⟩,fun _ _ _ n=>n⟩
  ·by_cases z:a = c
   ·subst z; xt hc
   ·rw [aJ z] at e
    by_cases z2:a = T
    ·subst z2; rw [aU] at e; cases e
    ·rw [aJ z2] at e; xt e
  ·by_cases z2:a = T
   ·subst z2
    rw [hT] at e; cases e
    xt ⟨ps',by rw [aJ (Ne.symm ne),aU]⟩
   ·xt ⟨p0,by rw [aJ (aX e hc),aJ z2]; xt e⟩
theorem NK {Hv:Hp}:∀ {ds:List D} {xs:List V} {bs:List Int},Mi.Bk ds = some bs→P2 (Rep Hv) ds xs→xs = bs.map V.int
 | [],_,bs,e,r=>by cases e; cases r; rfl
 | .int b :: ds,_,bs,e,r=>by
  cases r with
  | cons x t =>
   cases hb:Mi.Bk ds with
   | none=>rw [Mi.Bk,hb] at e; cases e
   | some cs =>
    rw [Mi.Bk,hb] at e
    cases e
    rw [NK hb t,qe.mp x]; rfl
section
variable {X:Cx} {K:Φ} {M:Nat→Bool} {te tb ta:TE} {a b kf:Mi.E} {T:Addr} {q:Str} {ρ : List Nat}
theorem Z5 {e:Mi.Env} {σ : L2.St} {H Hv:Hp} (I:R0 M e σ H Hv) (hM:∀ j∈ρ,M j = false) {d:D} {v:V} (r:Rep Hv d v):R0 (fun _=>false) (Mi.Fy ρ e d) (nM ρ σ v) H Hv:=by
 rf ⟨I.vw,by simp [Mi.Fy,nM],fun i w h _=>?_,fun i w h m=>by cases m⟩
 cases i with
 | zero =>
  have:W.d d = w:=by simpa [Mi.Fy] using h
  subst this
  xt ⟨v,rfl,r⟩
 | succ i =>
  have h:(ρ.map fun j=>(e[j]?).join)[i]? = some (some w):=by simpa [Mi.Fy] using h
  rw [List.getElem?_map] at h
  ob ⟨j,hj,e2⟩:=Option.map_eq_some_iff.mp h
  have e3:e[j]? = some (some w):=by
   cases z:e[j]? with
   | none=>rw [z] at e2; cases e2
   | some y=>rw [z] at e2; xt congrArg some e2
  ob ⟨u,hu,ru⟩:=I.nob j w e3 (hM j (List.mem_of_getElem? hj))
  xt ⟨u,by simp [nM,List.getElem?_map,hj,hu],ru⟩
theorem M4 {c':Addr} (hk:AE (fun _=>false) qN tb kf) (hM:∀ j∈ρ,M j = false) {e:Mi.Env} {σ : L2.St}:∀ {ds:List D} {xs:List V} {kz:List (List Int)} {H Hv:Hp} {R:List V→Hp→Prop},R0 M e σ H Hv→P2 (Rep Hv) ds xs→H c' = some (.ext (m7 c' q))→Mi.pN ρ kf e ds = .ok kz →
 (∀ ks H3 Hv3,cg H Hv H3 Hv3→KeysAre H3 kz ks→R ks H3)→Gz c' q (fun v H K=>tb (nM ρ σ v) H K) xs H R
 | [],_,kz,H,Hv,R,I,.nil,_,hz,h=>by
  have:kz = []:=by rw [Mi.pN] at hz; cases hz; rfl
  subst this
  xt h [] H Hv (.refl I.vw) .nil
 | d :: ds,_,kz,H,Hv,R,I,.cons (b:=v) (m:=xs) r t,hc,hz,h=>by
  rw [Mi.pN] at hz
  show tb (nM ρ σ v) H _
  cases hkd:kf (Mi.Fy ρ e d) with
  | no=>rw [hkd] at hz; cases hz
  | ex z=>rw [hkd] at hz; cases hz
  | ok kd =>
   rw [hkd,Mi.aD] at hz
   cases kd with
   | lst es =>
    cases hes:Mi.Bk es with
    | none=>rw [show Mi.Js (.lst es) = .no from by show Mi.pH (Mi.Bk es) = _; rw [hes]; rfl] at hz; cases hz
    | some z =>
     rw [show Mi.Js (.lst es) = .ok z from by show Mi.pH (Mi.Bk es) = _; rw [hes]; rfl,Mi.aD] at hz
     cases hzs:Mi.pN ρ kf e ds with
     | no=>rw [hzs] at hz; cases hz
     | ex y=>rw [hzs] at hz; cases hz
     | ok zs =>
      rw [hzs] at hz
      have hz:kz = z :: zs:=by cases hz; rfl
      subst hz
      rf hk _ _ H Hv _ (Z5 I hM r) ?_
      rw [hkd]
      intro kv H1 Hv1 g1 kq
      ob ⟨p,o,rfl,n0,hp,nv,ci⟩:=kq
      cases o with
      | lst vs =>
       have hv:vs = z.map V.int:=NK hes ci
       subst hv
       rf ⟨g1.old.at hc,M4 hk hM (I.grow g1) (cL g1.vis t) (g1.old.at hc) hzs fun ks H3 Hv3 g3 ka=>h _ H3 Hv3 (g1.trans g3) (.cons ⟨p,rfl,g3.old.at hp⟩ ka)⟩
      | _=>xt ci.elim
   | _=>cases hz
theorem Mh {F:D→V→Prop} {ds:List D} {xs:List V} (h:P2 F ds xs):∀ l:List Nat,(∀ i∈l,i < ds.length)→P2 F (l.map fun i=>ds.getD i .non) (l.map fun i=>xs.getD i .non)
 | [],_=>.nil
 | i :: r,hl=>by
  have hi:=hl i List.mem_cons_self
  have e1:ds[i]? = some (ds.getD i .non):=by simp [hi]
  ob ⟨y,e2,f⟩:=h.getL e1
  have:xs.getD i .non = y:=by simp [e2]
  rf .cons ?_ (Mh h r fun j hj=>hl j (List.mem_cons_of_mem _ hj))
  show F (ds.getD i .non) (xs.getD i .non)
  rw [this]; xt f
theorem Xz (hT:(T,q)∈Tb.l) (hM:∀ j∈ρ,M j = false) (ha:AE M qP te a) (hk:AE (fun _=>false) qN tb kf):AE M qN (Q7 T q ρ te tb) (Mi.Fq ρ a kf):=fun e σ H Hv Q I h =>
 ha e σ H Hv _ I ((aq.mp h).mono fun x hx v H1 Hv1 g1 rx=>by
  cases x with
  | lst ds =>
   ob ⟨h64,hx⟩:=Mi.aV (show Fin (Mi.aK (ds.length < 64) _) _ from hx)
   ob ⟨kz,hkz,hx⟩:=lJ (aq.mp hx)
   ob ⟨nd,hx⟩:=Mi.aV hx
   have hx:=Mi.gG hx
   ob ⟨p,xs,rfl,l,r⟩:=RD.lst g1.vw rx
   have lx:=r.len
   have I1:=I.grow g1
   ob ⟨tps,ht⟩:=g1.vw.cd.has _ hT
   rf ⟨p,xs,tps,rfl,by omega,ht,g1.vw.cd,fun H2 c' tab hc'=>?_⟩
   have g2:=Q4 g1.vw tab
   rf ⟨l.old g2.old,M4 hk hM (I1.grow g2) r hc' hkz fun ks H3 Hv3 g3 ka=>?_⟩
   have lk:kz.length = ds.length:=by
    have:∀ (ds:List D) (kz:List (List Int)),Mi.pN ρ kf e ds = .ok kz→kz.length = ds.length:=fun ds=>by
     induction ds with
     | nil=>intro kz h; rw [Mi.pN] at h; cases h; rfl
     | cons d ds ih =>
      intro kz h
      rw [Mi.pN] at h
      cases h1:kf (Mi.Fy ρ e d) with
      | no=>rw [h1] at h; cases h
      | ex z=>rw [h1] at h; cases h
      | ok kd =>
       rw [h1,Mi.aD] at h
       cases h2:Mi.Js kd with
       | no=>rw [h2] at h; cases h
       | ex z=>rw [h2] at h; cases h
       | ok z =>
        rw [h2,Mi.aD] at h
        cases h3:Mi.pN ρ kf e ds with
        | no=>rw [h3] at h; cases h
        | ex y=>rw [h3] at h; cases h
        | ok zs=>rw [h3] at h; cases h; rw [List.length_cons,List.length_cons,ih zs h3]
    xt this ds kz hkz
   rf ⟨kz,by omega,nd,ka,fun p2 ys hp2 so=>?_⟩
   ob ⟨pa,pm,sd,rfl⟩:=so
   have e0:pa.toList = Mi.yu kz ds.length:=by
    rw [← lk]
    xt Wl nd (by rw [lk,lx]; xt pm) (by rw [lk,lx]; xt sd)
   have rr:P2 (Rep Hv3) (Mi.sortBy kz ds) (pa.toList.map fun i=>xs.getD i .non):=by
    unfold Mi.sortBy
    rw [← e0]
    rf Mh (cL (g2.vis.trans g3.vis) r) _ fun i hi=>?_
    have:=(Array.perm_iff_toList_perm.mp pm.pm).mem_iff.mp hi
    rw [lx]; simpa using this
   ob ⟨g4,kk⟩:=Ff g3.vw rr hp2
   have gg:=g1.trans (g2.trans (g3.trans g4))
   xt hx _ _ _ gg (KM.mono (κ:=qN) (g1.old.trans (g2.old.trans g3.old)) kk)
  | _=>xt hx.elim)
end
end A
namespace L2
open PySem PySem.Spec PyProof.Rows A So
structure Vt (K:Φ) (x qual:Str) (st:Stmt) (c f:Addr) (fd:FuncData):Prop where
 ex:∃ (oc:Value) (od:Option Addr) (kV doc pm:Value) (an:Option Addr) (ct:Value) (osl:Array (Option Value)),
  fd = PySem.W.fnOf x qual (lY st) (iG st) (aQ st) .none kV doc pm an (.ref c) ct∧K.lookup f = some ⟨oc,od,.func fd,osl⟩∧PySem.W.codeIn K (.ref c) qual = true
section
variable {P:Program} {w:World} {K:Φ} {mg:Str→Option Value} {base:Heap}
theorem Vt.ok {x qual:Str} {st:Stmt} {c f:Addr} {fd:FuncData} {N ps:List Str} {k:Nat} {sp:Sp} (F:Vt K x qual st c f fd) (S:bG N ps (aQ st)) (len:∀ vs H Q E,sp vs H Q E→vs.length = ps.length)
 (hbody:∀ (A:Around) (outer:List Env) (s:Shared) (H:Hp) (vs:List V) (Q:VK) (E:XK),jr k (A.deeper (envOfC qual (aQ st) s.heap.objs.size f (.ref c)))→sp vs H Q E →
  ∃ t,GX (mj dF P w K mg base N qual (aQ st) f (.ref c) A outer s H E).nox (iG st) t∧t { nx:=fun _ H'=>Q .non H',rt:=Q } (start N vs) H):cY P w K mg base dF (k + 1) f fd ps sp:=by
 ob ⟨oc,od,kV,doc,pm,an,ct,osl,rfl,lk,hcd⟩:=F.ex
 rf T9 lk hcd S len fun A outer s H vs Q E hr hsp=>?_
 ob ⟨t,h,q⟩:=hbody A outer s H vs Q E hr hsp
 xt ⟨t,h.nox,q⟩
end
structure XJ (K:Φ) (mg:Str→Option Value) (x:Str) (st:Stmt) (ps:List Str) (c:Addr):Prop where
 ex:∃ (f:Addr) (fd:FuncData),mg x = some (.ref f)∧PySem.W.keepIn K (.ref f) = true∧Binds K fd ps []∧Vt K x x st c f fd
theorem W3 {K:Φ} {h:Heap} {mg:Str→Option Value} {x:Str} {st:Stmt} {ps:List Str} {f c:Addr} {oc:Value} {od an:Option Addr} {osl:Array (Option Value)} {kV doc pm ct:Value} (X:K.In h) (G:h.Ns mainGlobals mg)
 (hb:∀ (kV doc pm:Value) (an:Option Addr) (cdv ct:Value) (us:List Value),us.length = ps.length→bindArgs (PySem.W.fnOf x x (lY st) (iG st) (aQ st) .none kV doc pm an cdv ct) ⟨us,[]⟩ = pure (ps.zip us))
 (a:PySem.W.nsIn K mainGlobals x = some (some (.ref f))) (l:K.lookup f = some ⟨oc,od,.func (PySem.W.fnOf x x (lY st) (iG st) (aQ st) .none kV doc pm an (.ref c) ct),osl⟩)
 (cc:PySem.W.codeIn K (.ref c) x = true) (k:PySem.W.keepIn K (.ref f) = true):XJ K mg x st ps c:=by
 have F:=T8 (st:=st) l cc k
 xt ⟨f,_,PySem.W.mg_of X G a,k,F.binds hb,⟨oc,od,kV,doc,pm,an,ct,osl,rfl,l,cc⟩⟩
theorem XJ.cal {P:Program} {w:World} {K:Φ} {mg:Str→Option Value} {base:Heap} {CX:GP} {k:Nat} {x:Str} {st:Stmt} {ps:List Str} {c:Addr} {sp:Sp} (F:XJ K mg x st ps c) (h:∀ f fd,Vt K x x st c f fd→cY P w K mg base CX k f fd ps sp) :
 nU P w K mg base CX k x ps sp:=by
 ob ⟨f,fd,h1,h2,h3,h4⟩:=F.ex
 xt ⟨f,fd,h1,h2,h3,h f fd h4⟩
theorem Dt.one {X:Cx} {x y:Str} {j:Nat} {sc:Scope} {c:Addr} (hn:sc.names = [(x,.local),(y,.free)]) (hxy:(y == x) = false) (hk:sc.kind = .function) (co:sc.isCoroutine = false) (gen:sc.isGenerator = false) (hc:X.env.cells = [(y,c)]) (hN:X.N[j]? = some y) (hy:X.env.kindOf y = some .cell) :
 Dt X x [j] [x,y] sc [(y,c)]:=by
 have hl:sc.names.lookup y = some .free:=by
  rw [hn,List.lookup,hxy]
  show List.lookup y [(y,NameKind.free)] = _
  rw [List.lookup,beq_self_eq_true]
 rf ⟨hk,co,gen,fun z hz=>?_,by rw [hn,List.lookup,beq_self_eq_true],fun z d h=>by rw [hc]; xt h,fun z h=>?_,[y],rfl,rfl,fun i k z h1 h2=>?_⟩
 ·rw [hn] at hz
  rcases List.mem_cons.mp hz with rfl | hz
  ·xt fun q=>by cases q
  ·rw [List.mem_singleton.mp hz]; xt fun q=>by cases q
 ·rw [hn,List.lookup] at h
  split at h
  ·cases h
  ·rw [List.lookup] at h
   split at h
   ·rename_i q
    xt ⟨c,by rw [List.lookup,q]⟩
   ·cases h
 ·cases i with
  | zero =>
   have e1:j = k:=by simpa using h1
   have e2:y = z:=by simpa using h2
   subst e1 e2
   xt ⟨hN,hl,.inl hy⟩
  | succ i=>simp at h1
section
variable [Tb:iZ]
theorem Ph {P:Program} {w:World} {K:Φ} {mg mb:Str→Option Value} {k:Nat} {fa a c T:Addr} {q:Str} {fd:FuncData} {x:Str} {s₁:Shared} {vs:List Value} {ns:List Int} (hTb:Tb.l = [(T,q)])
 (KX:K.In s₁.heap) (hns:s₁.heap.Ns mainGlobals mg) (hb:s₁.heap.Ns builtinsNs mb) (hbb:∀ x:Str,x ≠ "__name__" → mb x = bootBuiltins x) (hlim:s₁.heap.NoLimit) (hg:s₁.gens = #[])
 (ha:s₁.heap.get? a = some { cls:=.type "list", data:=.seq vs.toArray }) (hi:IntsAre vs ns) (hl:ns.length≤63) (hr:jr k callerA)
 (hKa:K.lookup a = none) (hKT:K.lookup T = none) (C:PySem.W.CodeHd s₁.heap c T) (hT:s₁.heap.get? T = some (PySem.W.tabObj #[])) (hB:BM mg s₁.heap)
 (F:∀ base:Heap,K.In base→base.Ns mainGlobals mg→BM mg base→PySem.W.CodeHd base c T→cY P w K mg base dF k fa fd [x] Hi) (hbind:∀ (s:Shared) (u:Value),BindsTo s fd ⟨[u],[]⟩ [(x,u)]) :
 codeAny (model P w) callerA (.call (.ref fa) ⟨[.ref a],[]⟩) (fun r s'=>r = .ok (.ret (.bool true))∧OldK s₁.heap s'.heap∧s'.os = s₁.os∧AllBare s'.gens) s₁:=by
 have rv:=Cg hi
 have lenV:=hi.length
 have aT:a≠T:=fun z=>by rw [z,hT] at ha; cases ha
 let H:Hp:=fun b=>if b = a then some (.frz { cls:=.type "list", data:=.seq vs.toArray } (.lst (ns.map V.int))) else if b = T then some (.tbl q #[]) else none
 have Ha:H a = some (.frz { cls:=.type "list", data:=.seq vs.toArray } (.lst (ns.map V.int))):=if_pos rfl
 have HT:H T = some (.tbl q #[]):=by show (if T = a then _ else _) = _; rw [if_neg (Ne.symm aT),if_pos rfl]
 have Hn:∀ b,b≠a→b≠T→H b = none:=fun b h1 h2=>by show (if b = a then _ else _) = _; rw [if_neg h1,if_neg h2]
 have Hd:∀ {b u},H b = some u→(b = a∧u = .frz { cls:=.type "list", data:=.seq vs.toArray } (.lst (ns.map V.int)))∨(b = T∧u = .tbl q #[]):=fun {b u} e=>by
  by_cases h1:b = a
  ·subst h1; rw [Ha] at e; cases e; xt .inl ⟨rfl,rfl⟩
  ·by_cases h2:b = T
   ·subst h2; rw [HT] at e; cases e; xt .inr ⟨rfl,rfl⟩
   ·rw [Hn b h1 h2] at e; cases e
 have hok:pW P w H s₁.heap:=fun b u e=>by
  rcases Hd e with ⟨rfl,rfl⟩ | ⟨rfl,rfl⟩
  ·xt ⟨ha,by rw [List.length_map,sizeLine_eq]; omega,vs,_,rv,ha⟩
  ·xt hT
 have free:∀ {b:Addr} {o:Obj},s₁.heap.get? b = some o→o.cls≠.type "list" → o≠PySem.W.tabObj #[]→H b = none:=fun {b o} e h1 h2=>by
  rf Hn b (fun z=>?_) fun z=>?_
  ·rw [z,ha] at e; cases e; xt h1 rfl
  ·rw [z,hT] at e; cases e; xt h2 rfl
 have yP:∀ {b:Addr} {o:Obj},s₁.heap.get? b = some o→H b = none→(An s₁.heap H).get? b = some o:=fun e n=>T5 e n
 have nsK:∀ {b:Addr} {m:Str→Option Value},s₁.heap.Ns b m→(An s₁.heap H).Ns b m:=fun {b m} ⟨o,es,ep,e,d,r⟩=>⟨o,es,ep,yP e (Hn b (fun z=>by rw [z,ha] at e; cases e; cases d) fun z=>by rw [z,hT] at e; cases e; cases d),d,r⟩
 have hKb:K.In (An s₁.heap H):=fun b o e=>yP (KX b o e) (Hn b (fun z=>by rw [z,hKa] at e; cases e) fun z=>by rw [z,hKT] at e; cases e)
 have hM:Mod K mg (An s₁.heap H):=⟨hKb,nsK hns,⟨mb,nsK hb,hbb⟩,let ⟨mc,h1,h2⟩:=hlim; ⟨mc,nsK h1,h2⟩⟩
 have e0:Qy P w K mg (An s₁.heap H) callerA [] s₁ H:=⟨rfl,hM,fun b o e=>Wq e,Nat.le_of_eq (PB _ _),trivial,fun b hb=>absurd (show b∈([]:List Addr) from hb) (by simp),hok,.of_eq hg⟩
 have hB':BM mg (An s₁.heap H):=by
  ob ⟨bm,bo,b1,b2,b3,b4,b5,b6,b7⟩:=hB
  xt ⟨bm,bo,b1,b2,b3,yP b4 (free b4 (by rw [b5]; decide) (fun z=>by rw [z] at b5; cases b5)),b5,b6,b7⟩
 have C':PySem.W.CodeHd (An s₁.heap H) c T:=by
  ob ⟨o,vs2,file,tf,flags,tg,inF,text,tt,e,h1,r⟩:=C
  xt ⟨o,vs2,file,tf,flags,tg,inF,text,tt,yP e (free e (by rw [h1]; decide) (fun z=>by rw [z] at h1; cases h1)),h1,r⟩
 have ck:jt H:=⟨fun r hr=>by
  rw [hTb] at hr
  obtain rfl:r = (T,q):=by simpa using hr
  xt ⟨#[],HT⟩,fun T2 q2 ps e=>by
  rcases Hd e with ⟨_,z⟩ | ⟨_,z⟩
  ·cases z
  ·cases z; xt ⟨trivial,fun pos v hv=>by cases hv⟩⟩
 rf codeAny_mono ((F _ hKb (nsK hns) hB' C').run callerA [] s₁ H ⟨[.ref a],[]⟩ [.ref a] [.ref a] (fun v _=>v = .bl true) (fun _ _ _=>False) hr e0 (hbind s₁ (.ref a)) (.cons rfl .nil) ⟨a,ns,rfl,.inr ⟨_,Ha⟩,hl,ck,fun _=>rfl⟩) fun r s' h=>?_
 cases r with
 | error e=>xt h.elim
 | ok fl =>
  cases fl with
  | next=>xt False.elim h
  | brk=>xt False.elim h
  | cont=>xt False.elim h
  | ret u =>
   ob ⟨v,H',os,bare,un,hok',r',q'⟩:=h
   have q':v = .bl true:=q'
   subst q'
   obtain rfl:u = Value.bool true:=r'
   have old:∀ b o,s₁.heap.get? b = some o→asItWas s₁.heap s'.heap b o:=fun b o e=>by
    by_cases h1:b = a
    ·subst h1
     have z2:=un.xm b _ _ Ha
     ob ⟨e2,_⟩:=hok' b _ z2
     rw [ha] at e; cases e
     xt .inl e2
    ·by_cases h2:b = T
     ·subst h2
      ob ⟨more,z2⟩:=un.wH b _ _ HT
      have e2:s'.heap.get? b = some (PySem.W.tabObj (#[] ++ more)):=hok' b _ z2
      rw [hT] at e; cases e
      ob ⟨oc,vs2,_,_,_,_,_,_,_,f1,f2,f3,f4,_⟩:=C
      xt .inr (.inl ⟨⟨c,oc,vs2,f1,f2,f3,f4⟩,rfl,#[],more,rfl,e2⟩)
     ·xt .inl (un.keep b o e (Hn b h1 h2) (by intro z; xt absurd (show b∈([]:List Addr) from z) (by simp)) (by simp))
   xt ⟨rfl,⟨old,fun b o e=>un.there b o e (by simp)⟩,os,bare⟩
theorem QV {l:PySem.W.OpenLaw} {k:Nat} {q:Program} {loose:List Str} {XP:(Str→Option Value)→Heap→Prop} {YP:World→Heap→Prop} {d:DefRec} {K:Params→Φ} {x dn:Str} {c T:Addr} {qn:Str} (hTb:Tb.l = [(T,qn)])
 (hn:l.most = some 63) (hdf:d.params.defaults = []) (hr:jr k callerA)
 (hY:∀ (w:World) (h:Heap),YP w h→(K w.params).In h) (hL:∀ w:World,∀ a o,(K w.params).lookup a = some o→o.cls≠.type "list") (hK:∀ w:World,(K w.params).lookup T = none)
 (hrec:∃ d,(recsOf q).find? (fun e=>e.name == dn) = some d) (htab:∀ w:World,PySem.W.tabIn (K w.params) dn = some (c,T))
 (F:∀ (w:World) (mg:Str→Option Value) (fa:Addr) (h:Heap),(K w.params).In h→h.Ns mainGlobals mg→mg d.name = some (.ref fa) →
  ∃ fd:FuncData,(∀ (s:Shared) (u:Value),BindsTo s fd ⟨[u],[]⟩ [(x,u)]) ∧
   ∀ base:Heap,(K w.params).In base→base.Ns mainGlobals mg→BM mg base→PySem.W.CodeHd base c T→cY l.prog w (K w.params) mg base dF k fa fd [x] Hi) :
 PySem.W.WalkO q loose XP YP l.row.toRowW d [] (fun f vs=>PySem.call f vs):=by
 rf Att.Jp hn hdf fun w s₀ s₁ mg mb fa o pm cd doc a vs ns G Y ho hd hcd hmg hobj hints hlen hg=>?_
 have KX:=hY w _ Y
 ob ⟨fd,hb,hF⟩:=F w mg fa _ KX G.T.g hmg
 ob ⟨dd,hdd⟩:=hrec
 ob ⟨C,hT⟩:=PySem.W.tab_of G.T KX hdd (htab w)
 have hB:BM mg s₁.heap:=by
  ob ⟨bm,ob,b1,b2,b3,b4,b5,b6⟩:=G.T.bmain
  rf ⟨bm,ob,b1,b2,fun z=>?_,b3,b4,b5,b6⟩
  ob ⟨o2,es,ep,e,d2,_⟩:=G.T.g
  rw [z,e] at b3; cases b3; rw [d2] at b6; cases b6
 have hKa:(K w.params).lookup a = none:=by
  cases z:(K w.params).lookup a with
  | none=>rfl
  | some o2 =>
   have e:=KX a o2 z
   rw [hobj] at e; cases e
   xt absurd rfl (hL w a _ z)
 xt Ph hTb KX G.T.g G.T.b G.T.builtins G.T.nolimit hg hobj hints hlen hr hKa (hK w) C hT hB hF hb
end
end L2
namespace A
open PySem L2 PyProof.Rows So
open Mi (D W Rs Fin aq Out Tg)
variable [Tb:iZ]
section
variable {K:Φ} {M:Nat→Bool} {ta tb:TE} {a b:Mi.E}
def Yd:V→List V→Hp→VK→Prop:=fun x xs H Q=>∃ (p:Addr) (ys:List Str) (z:Str),x = .ref p∧xs = [.str z]∧z∈ys∧H p = some (.tup (ys.map V.str))∧Q (.int (ys.idxOf z:Nat)) H
def Ye:V→List V→Hp→VK→Prop:=fun x xs H Q=>∃ (p:Addr) (ys:List Str) (z:Str),x = .ref p∧xs = [.str z]∧z∈ys∧ys.length≤1000∧Lst H p (ys.map V.str)∧Q (.int (ys.idxOf z:Nat)) H
theorem ab8 {X:Cx}:Vx X "tuple.index" Yd:=Wt
theorem ab9 {X:Cx}:Vx X "list.index" Ye:=Wu
theorem acS (ha:AE M qP ta a) (hb:AE M qP tb b):AE M qV (abf K "list" Yd Ye ta (iW tb rD)) (Mi.m2 Mi.Uo a b):=fun e σ H Hv Q I h =>
 ha e σ H Hv _ I ((aq.mp h).mono fun x hx v H1 Hv1 g1 rx=>by
  ob ⟨y,hy,hk⟩:=lJ (aq.mp hx)
  cases y with
  | str z =>
   ob ⟨ys,ey,q1⟩:=jn (aq.mp hk)
   ob ⟨⟨hz,hl⟩,q2⟩:=Mi.aV q1
   have q3:=Mi.gG q2
   clear hk q1 q2 hx
   cases x with
   | tup ds =>
    ob ⟨p,us,rfl,l,_,r⟩:=RD.tup g1.vw rx
    have:=uc ey r
    subst this
    rf .inl ⟨⟨p,_,rfl,l⟩,hb e σ H1 Hv1 _ (I.grow g1) ?_⟩
    rw [hy]
    intro v2 H2 Hv2 g2 ry
    cases RD.str ry
    xt ⟨p,ys,z,rfl,rfl,hz,g2.old.at l,q3 _ _ _ (g1.trans g2) iK⟩
   | lst ds =>
    ob ⟨p,us,rfl,l,r⟩:=RD.lst g1.vw rx
    have:=uc ey r
    subst this
    rf .inr ⟨.inl ⟨rfl,_,l.sq⟩,hb e σ H1 Hv1 _ (I.grow g1) ?_⟩
    rw [hy]
    intro v2 H2 Hv2 g2 ry
    cases RD.str ry
    xt ⟨p,ys,z,rfl,rfl,hz,hl,l.old g2.old,q3 _ _ _ (g1.trans g2) iK⟩
   | _=>cases ey
  | _=>xt hk.elim)
end
end A
namespace L2
open PySem PySem.Spec PyProof.Rows
def ExcAt (h:Heap) (e T:Addr) (cls fl:Value):Prop :=
 ∃ oe vs oT ts,h.get? e = some oe∧(oe.cls = cls∧oe.dict = none)∧oe.data = .fields vs∧vs[1]? = some (.ref T)∧T≠e∧h.get? T = some oT∧oT.data = .fields ts∧ts[3]? = some fl
def ExcNew (h:Heap) (e:Addr) (cls:Value):Prop:=∃ oe vs,h.get? e = some oe∧(oe.cls = cls∧oe.dict = none)∧oe.data = .fields vs∧vs[1]? = some .none
structure fU (fs no:List Addr) (h h':Heap):Prop where
 keep:∀ b o,h.get? b = some o→b∉fs→b∉no→h'.get? b = some o
 slot:∀ b o,h.get? b = some o→b∉no→∃ sl,h'.get? b = some { o with slots:=sl }
 there:∀ b o,h.get? b = some o→∃ o',h'.get? b = some o'
theorem fU.trans {fs no no':List Addr} {h h1 h2:Heap} (a:fU fs no h h1) (b:fU fs no' h1 h2):fU fs (no ++ no') h h2:=by
 rf ⟨fun x o e f n=>?_,fun x o e n=>?_,fun x o e=>?_⟩
 ·have n1:x∉no:=fun z=>n (List.mem_append_left _ z)
  have n2:x∉no':=fun z=>n (List.mem_append_right _ z)
  xt b.keep x o (a.keep x o e f n1) f n2
 ·have n1:x∉no:=fun z=>n (List.mem_append_left _ z)
  have n2:x∉no':=fun z=>n (List.mem_append_right _ z)
  ob ⟨sl,e1⟩:=a.slot x o e n1
  ob ⟨sl2,e2⟩:=b.slot x _ e1 n2
  xt ⟨sl2,e2⟩
 ·ob ⟨o1,e1⟩:=a.there x o e
  xt b.there x o1 e1
theorem fU.of_keeps {fs:List Addr} {h h':Heap} (k:∀ b o,h.get? b = some o→h'.get? b = some o):fU fs [] h h' :=
 ⟨fun b o e _ _=>k b o e,fun b o e _=>⟨o.slots,k b o e⟩,fun b o e=>⟨o,k b o e⟩⟩
theorem fU.more {fs no no':List Addr} {h h':Heap} (a:fU fs no h h') (s:∀ b∈no,b∈no'):fU fs no' h h' :=
 ⟨fun x o e f n=>a.keep x o e f fun z=>n (s x z),fun x o e n=>a.slot x o e fun z=>n (s x z),a.there⟩
theorem fU.sI {fs no:List Addr} {h h' base:Heap} {l:List Env} (a:fU fs no h h') (hl:h.FunFrames base l) (hn:∀ b∈no,∀ o,h.get? b = some o→∃ vs,o.data = .fields vs):h'.FunFrames base l :=
 hl.of_keeps fun b o hb hnf=>by
  ob ⟨sl,e⟩:=a.slot b o hb fun z=>by
   ob ⟨vs,q⟩:=hn b z o hb
   xt hnf vs q
  xt ⟨_,e,rfl⟩
theorem Uj (f:Array Value→Array Value) (o:Obj):(Obj.mapFields f o).dict = o.dict:=by
 ob ⟨c,d,dt,sl⟩:=o
 cases dt <;> rfl
section
variable {M:Model} {A:Around} {E:Value→Shared→Prop} {s:Shared}
theorem HF {base:Heap} {env:Env} {outer:List Env} {L e:Addr} {oe:Obj} {vs:Array Value} {head:Value} {hadNext:Bool} {Q:Unit→Shared→Prop}
 (hfr:A.frames = some (env :: outer)) (hl:s.heap.FunFrames base (env :: outer)) (hf:env.frame = some L) (he:s.heap.get? e = some oe) (hdc:oe.dict = none) (hd:oe.data = .fields vs) (hsz:1 < vs.size)
 (h:∀ h' T,s.heap.objs.size≤T→fU (frs (env :: outer)) [e] s.heap h'→ExcAt h' e T oe.cls (rawInt L)→Q () { s with heap:=h' }) :
 wpAny M A (do let a ← frameOf env; let pl ← entryPlaceOf L hadNext; let b ← EntryCells.newEntry head a .none (rawInt L) .none pl; setField (.ref e) 1 b) Q E s:=by
 have hene:e∉(env :: outer).filterMap (·.frame):=fun hm=>by
  ob ⟨_,o,ho,hnf⟩:=hl.mem hm
  rw [he] at ho; injection ho with ho; subst ho; xt hnf vs hd
 rf wpAny_bind (wpAny_frameOf_fun hfr hl hf fun h₁ hs₁=>?_)
 rf wpAny_bind (wpAny_entryPlaceOf fun pl hpl=>?_)
 unfold EntryCells.newEntry newFields
 rf wpAny_bind (wpAny_newObj_type ?_ (hpl.sizeOk5 _ _ _ _ _))
 have he₁:h₁.get? e = some oe:=(hs₁.2.1 e hene).trans he
 have he₂:=Heap.get?_push_of_some (h:=h₁) { cls:=.type "traceback", dict:=none,data:=.fields ([head,.ref L,.none,rawInt L,.none] ++ (if pl.isEmpty then List.replicate 6 Value.none else pl)).toArray } he₁
 rf wpAny_setField he₂ hd hsz (h _ h₁.objs.size (Nat.le_of_eq hs₁.1.symm) ?_ ?_)
 ·have keep:∀ b o,b≠e→h₁.get? b = some o →
   ((h₁.push { cls:=.type "traceback", dict:=none,data:=.fields ([head,.ref L,.none,rawInt L,.none] ++ (if pl.isEmpty then List.replicate 6 Value.none else pl)).toArray }).update e (Obj.mapFields (·.setIfInBounds 1 (Value.ref h₁.objs.size)))).get? b = some o :=
   fun b o hbe hb=>by
    rw [Heap.get?_update_other _ _ (Ne.symm hbe)]
    xt Heap.get?_push_of_some _ hb
  have hd₃:=Obj.data_mapFields hd (·.setIfInBounds 1 (Value.ref h₁.objs.size))
  rf ⟨fun b o hb n1 n2=>keep b o (fun z=>n2 (by rw [z]; xt List.mem_singleton.mpr rfl)) ((hs₁.2.1 b n1).trans hb),fun b o hb n2=>?_,fun b o hb=>?_⟩
  ·ob ⟨sl,q⟩:=hs₁.2.2 b o hb
   xt ⟨sl,keep b _ (fun z=>n2 (by rw [z]; xt List.mem_singleton.mpr rfl)) q⟩
  ·by_cases z:b = e
   ·subst z
    xt ⟨_,Heap.get?_update_self (Obj.mapFields (·.setIfInBounds 1 (Value.ref h₁.objs.size))) he₂ (Obj.isFreed_of_fields hd₃)⟩
   ·ob ⟨sl,q⟩:=hs₁.2.2 b o hb
    xt ⟨_,keep b _ z q⟩
 ·have hTe:h₁.objs.size≠e:=Nat.ne_of_gt (Heap.lt_size he₁)
  have hd₃:=Obj.data_mapFields hd (·.setIfInBounds 1 (Value.ref h₁.objs.size))
  have he₃:=Heap.get?_update_self (Obj.mapFields (·.setIfInBounds 1 (Value.ref h₁.objs.size))) he₂ (Obj.isFreed_of_fields hd₃)
  have hT₃:=(Heap.get?_update_other (h₁.push { cls:=.type "traceback", dict:=none,data:=.fields ([head,.ref L,.none,rawInt L,.none] ++ (if pl.isEmpty then List.replicate 6 Value.none else pl)).toArray })
   (Obj.mapFields (·.setIfInBounds 1 (Value.ref h₁.objs.size))) (Ne.symm hTe)).trans (Heap.get?_push_size h₁ rfl)
  xt ⟨_,_,_,_,he₃,⟨Obj.cls_mapFields _ _,(Uj _ _).trans hdc⟩,hd₃,by simp [hsz],hTe,hT₃,rfl,by first | (simp; done) | (rcases hpl with rfl | ⟨_,_,_,_,_,_,_,rfl⟩ <;> simp)⟩
theorem Km {base:Heap} {env:Env} {outer:List Env} {L e:Addr} {cls:Value} {Q:Unit→Shared→Prop}
 (hfr:A.frames = some (env :: outer)) (hl:s.heap.FunFrames base (env :: outer)) (hf:env.frame = some L) (hx:ExcNew s.heap e cls)
 (h:∀ h' T,s.heap.objs.size≤T→fU (frs (env :: outer)) [e] s.heap h'→ExcAt h' e T cls (rawInt L)→Q () { s with heap:=h' }):wpAny M A (noteFrame (.ref e) env) Q E s:=by
 ob ⟨oe,vs,he,⟨rfl,hdc⟩,hd,h1⟩:=hx
 unfold noteFrame
 simp only [hf]
 rf wpAny_bind (wpAny_field he hd h1 ?_)
 rw [if_neg δ]
 xt HF hfr hl hf he hdc hd (Array.getElem?_eq_some_iff.mp h1).1 h
theorem Mp {base:Heap} {env:Env} {outer:List Env} {L e T:Addr} {cls:Value} {Q:Unit→Shared→Prop}
 (hfr:A.frames = some (env :: outer)) (hl:s.heap.FunFrames base (env :: outer)) (hf:env.frame = some L) (hx:ExcAt s.heap e T cls .none)
 (h:∀ h' T',s.heap.objs.size≤T'→fU (frs (env :: outer)) [e,T] s.heap h'→ExcAt h' e T' cls (rawInt L)→Q () { s with heap:=h' }):wpAny M A (noteFrame (.ref e) env) Q E s:=by
 ob ⟨oe,vs,oT,ts,he,⟨rfl,hdc⟩,hd,h1,hTe,hT,hdT,h3⟩:=hx
 unfold noteFrame
 simp only [hf]
 rf wpAny_bind (wpAny_field he hd h1 ?_)
 rw [if_pos (show (Value.ref T != Value.none) = true from by simp)]
 rf wpAny_bind (wpAny_field hT hdT h3 ?_)
 rw [if_neg (show ¬ ((Value.none == rawInt L) = true) from by simp [rawInt])]
 rf wpAny_bind (wpAny_setField hT hdT (Array.getElem?_eq_some_iff.mp h3).1 ?_)
 have other:∀ b,b≠T→(s.heap.update T (Obj.mapFields (·.setIfInBounds 3 Value.none))).get? b = s.heap.get? b:=fun b hb=>Heap.get?_update_other _ _ (Ne.symm hb)
 have hself:=Heap.get?_update_self (Obj.mapFields (·.setIfInBounds 3 Value.none)) hT (Obj.isFreed_of_fields (Obj.data_mapFields hdT _))
 have n0:fU (frs (env :: outer)) [T] s.heap (s.heap.update T (Obj.mapFields (·.setIfInBounds 3 Value.none))):=by
  rf ⟨fun b o q _ n=>(other b fun z=>n (by rw [z]; xt List.mem_singleton.mpr rfl)).trans q,fun b o q n=>⟨o.slots,(other b fun z=>n (by rw [z]; xt List.mem_singleton.mpr rfl)).trans q⟩,fun b o q=>?_⟩
  by_cases z:b = T
  ·subst z; xt ⟨_,hself⟩
  ·xt ⟨o,(other b z).trans q⟩
 rf HF hfr (n0.sI hl fun b z o q=>?_) hf ((other e (Ne.symm hTe)).trans he) hdc hd (Array.getElem?_eq_some_iff.mp h1).1 fun h' T' hT' n x=>h h' T' (Nat.le_trans (Nat.le_of_eq (by simp [Heap.update])) hT') ((n0.trans n).more fun b hb=>?_) x
 ·rw [List.mem_singleton.mp z,hT] at q; cases q; xt ⟨ts,hdT⟩
 ·simp only [List.singleton_append,List.mem_cons,List.not_mem_nil,or_false] at hb ⊢
  xt hb.symm
theorem qw {e T:Addr} {cls fl:Value} {Q:Unit→Shared→Prop} (hx:ExcAt s.heap e T cls fl) (h:∀ h',fU [] [T] s.heap h'→s.heap.objs.size = h'.objs.size→ExcAt h' e T cls .none→Q () { s with heap:=h' }):wpAny M A (setFlight (.ref e) none) Q E s:=by
 ob ⟨oe,vs,oT,ts,he,hc,hd,h1,hTe,hT,hdT,h3⟩:=hx
 have hsz3:3 < ts.size:=(Array.getElem?_eq_some_iff.mp h3).1
 have other:∀ b,b≠T→(s.heap.update T (Obj.mapFields (·.setIfInBounds 3 ((none:Option Addr).elim Value.none fun f=>rawInt f)))).get? b = s.heap.get? b:=fun b hb=>Heap.get?_update_other _ _ (Ne.symm hb)
 have hself:=Heap.get?_update_self (Obj.mapFields (·.setIfInBounds 3 ((none:Option Addr).elim Value.none fun f=>rawInt f))) hT (Obj.isFreed_of_fields (Obj.data_mapFields hdT _))
 unfold setFlight
 rf wpAny_bind (wpAny_field he hd h1 ?_)
 rw [if_pos (show (Value.ref T != Value.none) = true from by simp)]
 rf wpAny_setField hT hdT hsz3 (h _ ?_ (by simp [Heap.update]) ?_)
 ·rf ⟨fun b o q _ n=>(other b fun z=>n (by rw [z]; xt List.mem_singleton.mpr rfl)).trans q,fun b o q n=>⟨o.slots,(other b fun z=>n (by rw [z]; xt List.mem_singleton.mpr rfl)).trans q⟩,fun b o q=>?_⟩
  by_cases z:b = T
  ·subst z; xt ⟨_,hself⟩
  ·xt ⟨o,(other b z).trans q⟩
 ·xt ⟨oe,vs,_,_,(other e (Ne.symm hTe)).trans he,hc,hd,h1,hTe,hself,Obj.data_mapFields hdT _,by simp [hsz3]⟩
theorem Ig {base:Heap} {env:Env} {outer:List Env} {L e:Addr} {cls:Value} {Q:Unit→Shared→Prop}
 (hfr:A.frames = some (env :: outer)) (hl:s.heap.FunFrames base (env :: outer)) (hf:env.frame = some L) (hx:ExcNew s.heap e cls)
 (h:∀ h' T,s.heap.objs.size≤T→fU (frs (env :: outer)) [e,T] s.heap h'→ExcAt h' e T cls .none→Q () { s with heap:=h' }):wpAny M A (leaving env (.ref e)) Q E s:=by
 unfold leaving
 rf wpAny_bind (Km hfr hl hf hx fun h1 T hT n x=>?_)
 rf qw x fun h2 n2 _ x2=>h h2 T hT ((n.trans (no':=[T]) ⟨fun b o q _=>n2.keep b o q (by simp),n2.slot,n2.there⟩).more fun b hb=>by simpa using hb) x2
theorem Tu {base:Heap} {env:Env} {outer:List Env} {L e T:Addr} {cls:Value} {Q:Unit→Shared→Prop}
 (hfr:A.frames = some (env :: outer)) (hl:s.heap.FunFrames base (env :: outer)) (hf:env.frame = some L) (hx:ExcAt s.heap e T cls .none)
 (h:∀ h' T',s.heap.objs.size≤T'→fU (frs (env :: outer)) [e,T,T'] s.heap h'→ExcAt h' e T' cls .none→Q () { s with heap:=h' }):wpAny M A (leaving env (.ref e)) Q E s:=by
 unfold leaving
 rf wpAny_bind (Mp hfr hl hf hx fun h1 T' hT n x=>?_)
 rf qw x fun h2 n2 _ x2=>h h2 T' hT ((n.trans (no':=[T']) ⟨fun b o q _=>n2.keep b o q (by simp),n2.slot,n2.there⟩).more fun b hb=>by simpa [or_assoc] using hb) x2
end
end L2
namespace L2
open PySem PySem.Spec PyProof.Rows
def BZ (P:Program) (w:World):GP:=fun outer H s E e s' =>
 ∃ ea T C H',e = .ref ea∧s'.os = s.os∧AllBare s'.gens∧Un (frs outer) [] H H' s.heap s'.heap∧pW P w H' s'.heap∧s.heap.get? ea = none∧s.heap.get? T = none∧H' ea = none∧H' T = none∧ExcAt s'.heap ea T (.ref C) .none∧E (.ref C) (some ea) H'
theorem bY.there {P:Program} {w:World} {H:Hp} {h:Heap} {a:Addr} {o:HO} (x:bY P w H h a o):∃ ob,h.get? a = some ob:=by
 have hlt:=x.stay (h':=h) (H':=H) (fun _ _ _ q=>q) (fun _ q=>q) fun _ _ q=>q
 cases o with
 | lst xs=>ob ⟨z,its,n,r,e⟩:=x; xt ⟨_,e⟩
 | tup xs=>ob ⟨z,its,r,ob,e,c⟩:=x; xt ⟨_,e⟩
 | dK kvs=>ob ⟨_,_,_,_,ob,es,ep,e,c⟩:=x; xt ⟨_,e⟩
 | dT kvs=>ob ⟨_,_,_,_,ob,es,ep,e,c⟩:=x; xt ⟨_,e⟩
 | set S n=>ob ⟨ob,es,ep,t,e,c⟩:=x; xt ⟨_,e⟩
 | ins C dx fs=>ob ⟨d,z,ne,e,_⟩:=x; xt ⟨_,e⟩
 | own y=>xt x
 | xd fs=>ob ⟨mA,⟨od,es,ep,e,c⟩,r⟩:=x; xt ⟨_,e⟩
 | rng lo hi=>ob ⟨t,u,v,e⟩:=x; xt ⟨_,e⟩
 | frz ob u=>xt ⟨_,x.1⟩
 | tbl w ps=>xt ⟨_,x⟩
 | met f y=>xt ⟨_,x⟩
 | ext φ=>xt x.2.1
theorem pW.none_of {P:Program} {w:World} {H:Hp} {h:Heap} (k:pW P w H h) {a:Addr} (e:h.get? a = none):H a = none:=by
 cases q:H a with
 | none=>rfl
 | some o =>
  ob ⟨ob,z⟩:=(k a o q).there
  rw [e] at z; cases z
section
variable {CX:GP} {P:Program} {w:World} {K:Φ} {mg:Str→Option Value} {base:Heap} {N:List Str} {qual:Str} {scope:Scope} {f:Addr} {cd:Value} {A:Around} {outer:List Env} {s:Shared} {H:Hp} {E:XK}
theorem Nj {pins:List (Addr×Obj)} {σ : St} {H1:Hp} {s1:Shared} {h2:Heap} {no:List Addr} (I:Inv (mj CX P w K mg base N qual scope f cd A outer s H E) pins σ H1 s1)
 (n:fU (frs (envOfC qual scope s.heap.objs.size f cd :: outer)) no s1.heap h2) (hn:∀ b∈no,s.heap.get? b = none∧H1 b = none):Un (frs outer) [] H H1 s.heap h2∧pW P w H1 h2:=by
 have B:Un (frs outer) [] H H1 s.heap s1.heap:=I.base
 have hL:∀ b o,s.heap.get? b = some o→b∉frs outer→b∉frs (envOfC qual scope s.heap.objs.size f cd :: outer):=fun b o e nf z=>by
  have hz:frs (envOfC qual scope s.heap.objs.size f cd :: outer) = s.heap.objs.size :: frs outer:=rfl
  rw [hz] at z
  rcases List.mem_cons.mp z with q | q
  ·have:=Heap.lt_size e
   rw [q] at this; xt absurd this (Nat.lt_irrefl _)
  ·xt nf q
 have hno:∀ b o,s.heap.get? b = some o→b∉no:=fun b o e z=>by rw [(hn b z).1] at e; cases e
 rf ⟨⟨fun b o e z nf nx=>n.keep b o (B.keep b o e z nf nx) (hL b o e nf) (hno b o e),fun b o e z nf nx=>?_,B.free,fun b o e nx=>?_,B.tups,B.xm,B.wH⟩,fun a o e=>?_⟩
 ·ob ⟨sl,q⟩:=B.slot b o e z nf nx
  ob ⟨sl2,q2⟩:=n.slot b _ q (hno b o e)
  xt ⟨sl2,q2⟩
 ·ob ⟨o1,q⟩:=B.there b o e nx
  xt n.there b o1 q
 ·have hok:pW P w H1 s1.heap:=I.hok
  rf (hok a o e).stay (fun b u hb q=>?_) (fun _ q=>q) fun _ _ q=>q
  have tr:∃ ob,H1 b = some ob:=by
   rcases hb with rfl | hb
   ·xt ⟨_,e⟩
   ·xt ⟨_,hb⟩
  ob ⟨ob,tr⟩:=tr
  rf n.keep b u q (fun z=>?_) fun z=>?_
  ·have:=I.vz b z
   rw [tr] at this; cases this
  ·rw [(hn b z).2] at tr; cases tr
theorem YQ {pins:List (Addr×Obj)} {σ : St} {H1:Hp} {s1:Shared} {h1:Heap} {e C:Addr} {vs:List Value} (I:Inv (mj (BZ P w) P w K mg base N qual scope f cd A outer s H E) pins σ H1 s1)
 (m:Heap.MadeExcOf s1.heap h1 e (.ref C) vs) (q:E (.ref C) (some e) H1):(mj (BZ P w) P w K mg base N qual scope f cd A outer s H E).xe (.ref e) { s1 with heap:=h1 }:=by
 have hfr:=I.ok.frames
 have hl:s1.heap.FunFrames base (envOfC qual scope s.heap.objs.size f cd :: outer):=I.stack
 have nk:fU (frs (envOfC qual scope s.heap.objs.size f cd :: outer)) [] s1.heap h1:=.of_keeps m.keeps
 have x:ExcNew h1 e (.ref C):=by
  ob ⟨t,he,_⟩:=m.there
  xt ⟨_,_,he,⟨rfl,rfl⟩,rfl,rfl⟩
 have B:Un (frs outer) [] H H1 s.heap s1.heap:=I.base
 have new:∀ {b:Addr},s1.heap.get? b = none→s.heap.get? b = none∧H1 b = none:=fun {b} z=>by
  rf ⟨?_,I.hok.none_of z⟩
  cases q:s.heap.get? b with
  | none=>rfl
  | some o =>
   ob ⟨o',z2⟩:=B.there b o q (by simp)
   rw [z] at z2; cases z2
 rf Ig (base:=base) (s:={ s1 with heap:=h1 }) hfr (nk.sI hl fun b z=>absurd z (by simp)) rfl x fun h2 T hT n2 x2=>?_
 have hTn:s1.heap.get? T = none:=by
  cases q2:s1.heap.get? T with
  | none=>rfl
  | some o=>xt absurd (Heap.lt_size (m.keeps T o q2)) (Nat.not_lt.mpr hT)
 have nn:∀ b∈[] ++ [e,T],s.heap.get? b = none∧H1 b = none:=fun b hb=>by
  simp only [List.nil_append,List.mem_cons,List.not_mem_nil,or_false] at hb
  rcases hb with rfl | rfl
  ·xt new m.new
  ·xt new hTn
 ob ⟨u1,u2⟩:=Nj I (nk.trans n2) nn
 xt ⟨e,T,C,H1,rfl,I.os,I.bare,u1,u2,(nn e (by simp)).1,(nn T (by simp)).1,(nn e (by simp)).2,(nn T (by simp)).2,x2,q⟩
theorem Wi:Bo (BZ P w) (mj (BZ P w) P w K mg base N qual scope f cd A outer s H E) E:=by
 rintro pins σ H1 s1 e s2 I ⟨ea,T,C,H2,rfl,os2,YB,un2,ok2,n1,n2,n3,n4,x,q⟩
 have adu:Un (frs (envOfC qual scope s.heap.objs.size f cd :: outer)) [] H1 H2 s1.heap s2.heap:=un2
 have I2:Inv (mj (BZ P w) P w K mg base N qual scope f cd A outer s H E) pins σ H2 s2:=I.call' os2 (ch:=[]) un2 ok2 YB (fun b z=>absurd z (by simp))
 have hfr:=I2.ok.frames
 have hl:s2.heap.FunFrames base (envOfC qual scope s.heap.objs.size f cd :: outer):=I2.stack
 have B:Un (frs outer) [] H H1 s.heap s1.heap:=I.base
 have old:∀ {b:Addr},s1.heap.get? b = none→s.heap.get? b = none:=fun {b} z=>by
  cases q:s.heap.get? b with
  | none=>rfl
  | some o =>
   ob ⟨o',z2⟩:=B.there b o q (by simp)
   rw [z] at z2; cases z2
 rf Tu (base:=base) (s:=s2) hfr hl rfl x fun h3 T' hT' n x3=>?_
 have hTn:s2.heap.get? T' = none:=by
  cases q2:s2.heap.get? T' with
  | none=>rfl
  | some o=>xt absurd (Heap.lt_size q2) (Nat.not_lt.mpr hT')
 have hTs:s1.heap.get? T' = none:=by
  cases q2:s1.heap.get? T' with
  | none=>rfl
  | some o =>
   ob ⟨o',z2⟩:=adu.there T' o q2 (by simp)
   rw [hTn] at z2; cases z2
 have nn:∀ b∈[ea,T,T'],s.heap.get? b = none∧H2 b = none:=fun b hb=>by
  simp only [List.mem_cons,List.not_mem_nil,or_false] at hb
  rcases hb with rfl | rfl | rfl
  ·xt ⟨old n1,n3⟩
  ·xt ⟨old n2,n4⟩
  ·xt ⟨old hTs,ok2.none_of hTn⟩
 ob ⟨u1,u2⟩:=Nj I2 n nn
 xt ⟨ea,T',C,H2,rfl,I2.os,YB,u1,u2,(nn ea (by simp)).1,(nn T' (by simp)).1,(nn ea (by simp)).2,(nn T' (by simp)).2,x3,q⟩
theorem J7:PassesOwn (model P w) (mj CX P w K mg base N qual scope f cd A outer s H E).A (mj CX P w K mg base N qual scope f cd A outer s H E).env (mj CX P w K mg base N qual scope f cd A outer s H E).xe:=fun e s' h =>
 wpAny_leaving_again (SameStack.refl _) h
end
end L2
namespace L2
open PySem PySem.Spec PyProof.Rows
def FP (X:Cx) (e:Expr) (ok:St→Hp→Prop):Prop:=∀ (pins:List (Addr×Obj)) (s:Shared) (σ : St) (H:Hp),Inv X pins σ H s→ok σ H →
 wpAny (model X.prog X.w) X.A (eval e X.env) (fun v s1=>∃ y t,v = .str y t∧y.length≤100000∧Inv X pins σ H s1) X.xe s
section
variable {X:Cx}
theorem tX {x:Str} {j pos} (h:x.length≤100000):FP X (.Constant (.str x) j pos) fun _ _=>True:=fun pins s σ H I _ =>
 wpAny_mono (jm (X:=X) pins s σ H (fun v H'=>v = .str x∧H' = H) I ⟨rfl,rfl⟩) (fun v s1 ⟨v',H',I',r,e1,e2⟩=>by
  subst e1 e2
  ob ⟨t,rfl⟩:=r
  xt ⟨x,t,rfl,h,I'⟩) fun _ _ z=>z
theorem vR {e:Expr} {te:TE} {pos:Pos} (he:PE X e te):FP X (.FormattedValue e 114 none pos) fun σ H=>te σ H fun v H'=>H' = H∧∃ z:Str,v = .str z∧(PySem.reprText z).length≤100000:=fun pins s σ H I h=>by
 rf wpAny_FormattedValue_repr (dY (he pins s σ H _ I h) fun v s1 ⟨v',H',I',r,e2,z,e1,hz⟩=>?_)
 subst e1 e2
 ob ⟨t,rfl⟩:=r
 have hz':(reprText z).length≤sizeLine:=by rw [sizeLine_eq]; omega
 rf wpAny_pyReprObj_str ?_ hz'
 xt wpAny_formatField_str ⟨_,_,rfl,hz,I'.tok _⟩ ⟨_,_,rfl,hz,(I'.tok _).tok _⟩ hz'
def FPs (X:Cx):List Expr→List (St→Hp→Prop)→Prop
 | [],[]=>True
 | e :: es,p :: ps=>FP X e p∧FPs X es ps
 | _,_=>False
theorem Ii {pins:List (Addr×Obj)} {σ : St} {H:Hp} {Q:Str→Shared→Prop}:∀ (es:List Expr) (ps:List (St→Hp→Prop)) (acc:Str) (s:Shared),FPs X es ps→(∀ p∈ps,p σ H)→acc.length + 100000 * es.length≤sizeLine→Inv X pins σ H s →
 (∀ z s',z.length≤sizeLine→Inv X pins σ H s'→Q z s')→Joins (model X.prog X.w) X.A X.xe (evalEach es X.env) acc Q s
 | [],[],acc,s,_,_,hl,I,q=>q acc s (by simp at hl; xt hl) I
 | [],_ :: _,_,_,f,_,_,_,_=>f.elim
 | _ :: _,[],_,_,f,_,_,_,_=>f.elim
 | e :: es,p :: ps,acc,s,f,hp,hl,I,q=>by
  rf wpAny_mono (f.1 pins s σ H I (hp p List.mem_cons_self)) (fun v s1 ⟨y,t,ev,hy,I1⟩=>?_) fun _ _ z=>z
  rw [List.length_cons] at hl
  have ha:(acc ++ y).length≤acc.length + 100000:=by rw [strLen_append]; omega
  xt ⟨y,t,ev,by omega,Ii es ps (acc ++ y) s1 f.2 (fun p' h'=>hp p' (List.mem_cons_of_mem _ h')) ω I1 q⟩
theorem Eu {e1 e2:Expr} {es:List Expr} {ps:List (St→Hp→Prop)} {pos:Pos} (f:FPs X (e1 :: e2 :: es) ps) (hl:(e1 :: e2 :: es).length≤100):PE X (.JoinedStr (e1 :: e2 :: es) pos) (fun σ H Q=>(∀ p∈ps,p σ H)∧∀ z:Str,z.length≤sizeLine→Q (.str z) H):=fun pins s σ H Q I h =>
 wpAny_JoinedStr (Ii _ ps Str.empty s f h.1 (by rw [sizeLine_eq]; have:Str.empty.length = 0:=rfl; omega) I fun z s' hz I'=>⟨hz,.str z,H,I'.tok _,⟨_,rfl⟩,h.2 z hz⟩)
end
section
variable {P:Program} {w:World} {K:Φ} {mg:Str→Option Value} {base:Heap} {N:List Str} {qual:Str} {scope:Scope} {f:Addr} {cd:Value} {A:Around} {outer:List Env} {s:Shared} {H:Hp} {E:XK}
theorem zQ {x:Str} {C:Addr} {bm:List Value} {B newId initId:String} {e:Expr} {te:TE} {np cpos pos:Pos} (FB:ExcBaseFacts B newId initId bm) (O:OwnCls x C bm newId mg base)
 (he:PE (mj (BZ P w) P w K mg base N qual scope f cd A outer s H E) e te) (hg:Gl (mj (BZ P w) P w K mg base N qual scope f cd A outer s H E) x) (hd:(x == ("__debug__" : Str)) = false:=by decide)
 (hs:starEach [e] (mj (BZ P w) P w K mg base N qual scope f cd A outer s H E).env = (false,eval e (mj (BZ P w) P w K mg base N qual scope f cd A outer s H E).env) :: starEach [] (mj (BZ P w) P w K mg base N qual scope f cd A outer s H E).env:=by rfl) :
 PS (mj (BZ P w) P w K mg base N qual scope f cd A outer s H E) (.Raise (some (.Call (.Name x np) [e] [] cpos)) none pos) (fun _ σ H1=>te σ H1 fun _ H2=>∀ ea,H2 ea = none→E (.ref C) (some ea) H2):=by
 intro pins s1 σ H1 D I h
 ob ⟨tl,N',nm,q,bs,hdct,sn,sub,ab,col,dd,k0,k1,k2,k3,k5,mN,hC,hN,hni,T⟩:=O.obj
 rf wpAny_Raise_call_subT (C:=C) (nm:=nm) (q:=q) (N:=N') (bs:=bs) (bm:=tl) (hdct:=hdct) (sn:=sn) (sub:=sub) (ab:=ab) (col:=col) (dd:=dd) (k0:=k0) (k1:=k1) (k2:=k2) (k3:=k3) (k5:=k5)
  FB (mN:=mN) (T.hasType FB.hasBase) (I.ok.hd rfl) (by rw [hs]; rfl) hni (tW I hg O.bound ⟨rfl,?_⟩ hd)
 rw [hs]
 rf Calls.evalArgs_plain (Calls.spliced_cons (dY (he pins s1 σ H1 _ I h) fun v s2 ⟨v',H2,I2,r,q2⟩=>Calls.spliced_nil ?_))
 xt ⟨rfl,by rw [sizeLine_eq]; simp,I2.bk _ _ hC,hN.keeps I2.bk,T.keeps I2.bk,fun h' e' m=>YQ I2 m (q2 e' (I2.hok.none_of m.new))⟩
end
end L2
namespace Mi
open PySem
def lD {α : Type} (r:Rs α) (k:α→Prop) (x:yE→Prop):Prop:=match r with
 | .ok a=>k a
 | .ex z=>x z
 | .no=>False
theorem dM {α β : Type} {r:Rs α} {f:α→Rs β} {k:β→Prop} {x:yE→Prop}:lD (r.bind f) k x↔lD r (fun a=>lD (f a) k x) x:=by cases r <;> xt Iff.rfl
theorem lD.mono {α : Type} {r:Rs α} {k k':α→Prop} {x x':yE→Prop} (h:lD r k x) (m:∀ a,k a→k' a) (n:∀ z,x z→x' z):lD r k' x':=by
 cases r with
 | ok a=>xt m a h
 | ex z=>xt n z h
 | no=>xt h
theorem lD.fin {α : Type} {r:Rs α} {k:α→Prop} {x:yE→Prop} (h:lD r k x) (hn:∀ z,r≠.ex z):Fin r k:=by
 cases r with
 | ok a=>xt h
 | ex z=>xt absurd rfl (hn z)
 | no=>xt h
theorem Av {α : Type} {c:Prop} [Decidable c] {r:Rs α} {k:α→Prop} {x:yE→Prop} (h:lD (aK c r) k x):c∧lD r k x:=by
 unfold aK at h
 split at h
 ·xt ⟨‹_›,h⟩
 ·xt h.elim
theorem aao {α : Type} {r s:Rs α} {k:α→Prop} {x:yE→Prop} (h:lD (if true = true then r else s) k x):lD r k x:=by simpa using h
theorem aap {α : Type} {r s:Rs α} {k:α→Prop} {x:yE→Prop} (h:lD (if false = true then r else s) k x):lD s k x:=by simpa using h
def still {α : Type}:Rs α→Rs α
 | .ex _=>.no
 | r=>r
theorem ph {α : Type} {r:Rs α} {k:α→Prop} {x:yE→Prop} (h:lD (still r) k x):Fin r k:=by cases r <;> xt h
theorem Hf {α : Type} {r:Rs α} {a:α} (h:r = .ok a):still r = .ok a:=by rw [h]; rfl
def sP (m:S):S:=fun e=>still (m e)
def cP (c:C):C:=fun e=>still (c e)
def iP (it:I):I:=fun e=>still (it e)
theorem RG:∀ (tg:Tg) (x:D) (e:Env) (z:yE),tg.put x e≠.ex z:=by
 have key:∀ (is:List Nat) (ds:List D) (e:Env) (z:yE),pZ is ds e≠.ex z:=fun is=>by
  induction is with
  | nil=>intro ds e z h; cases ds <;> cases h
  | cons i r ih =>
   intro ds e z h
   cases ds with
   | nil=>cases h
   | cons d t=>xt ih t _ z h
 intro tg x e z h
 cases tg with
 | n i=>cases h
 | t is=>cases x with
  | tup ds=>xt key is ds e z h
  | _=>cases h
def rR (cls:String) (gs:List (Env→Bool)):S:=fun e=>if (gs.all fun g=>g e) = true then .ex ⟨cls,[]⟩ else .no
def gR (i:Nat):Env→Bool:=fun e=>match e[i]? with
 | some (some (.d (.str z)))=>decide ((PySem.reprText z).length≤100000)
 | _=>false
def mL (f:Fn) (ws:List EW):S:=fun e=>(still (bM ws e)).bind fun vs=>(f vs).bind fun _=>.ok (.nx e)
end Mi
namespace A
open PySem L2 PyProof.Rows So
open Mi (D W Rs Fin lD aq dM Out Tg yE)
variable [Tb:iZ]
def wish (cl:String→Addr) (E:XK):yE→Hp→Prop:=fun z H'=>∀ ea,H' ea = none→E (.ref (cl z.cls)) (some ea) H'
def QG (M:Nat→Bool) (κ : Kd) (x:yE→Hp→Prop) (t:TS) (m:Mi.S):Prop:=∀ H0 Hv0 e σ H Hv D,R1 M H0 Hv0 e σ H Hv→lD (m e) (nR M κ H0 Hv0 D Hv) (fun z=>∀ H' Hv',cg H0 Hv0 H' Hv'→x z H')→t D σ H
section
variable {M:Nat→Bool} {κ : Kd} {x:yE→Hp→Prop} {t u:TS} {m n:Mi.S} {cl:String→Addr} {E:XK}
theorem xH (h:AS M κ t m):QG M κ x t (Mi.sP m):=fun H0 Hv0 e σ H Hv D I f=>h H0 Hv0 e σ H Hv D I (Mi.ph f)
theorem wj (h1:QG M κ x t m) (h2:QG M κ x u n):QG M κ x (Y8 t u) (Mi.aY m n):=fun H0 Hv0 e σ H Hv D I h =>
 h1 H0 Hv0 e σ H Hv _ I ((dM.mp h).mono (fun o ho=>by
  cases o with
  | nx e'=>xt fun σ' H' Hv' I' s=>h2 H0 Hv0 e' σ' H' Hv' D I' (lD.mono ho (fun o z=>z.up s) fun _ z=>z)
  | rt w=>xt ho
  | bk e'=>xt ho
  | ct e'=>xt ho) fun _ z=>z)
theorem La {tt:TT} {c:Mi.C} (hc:AT M tt c) (h1:QG M κ x t m) (h2:QG M κ x u n):QG M κ x (Y9 tt t u) (Mi.iz (Mi.cP c) m n):=fun H0 Hv0 e σ H Hv D I h =>
 hc e σ H Hv _ I.toR0 ((Mi.ph (dM.mp h)).mono fun b hb H1 Hv1 g1=>by
  cases b with
  | true=>xt FN (h1 H0 Hv0 e σ H1 Hv1 D (I.grow g1) ((Mi.aao hb).mono (fun o z=>z.up g1.vis) fun _ z=>z))
  | false=>xt FQ (h2 H0 Hv0 e σ H1 Hv1 D (I.grow g1) ((Mi.aap hb).mono (fun o z=>z.up g1.vis) fun _ z=>z)))
theorem Xu {K:Φ} {wi:TI} {it:Mi.I} {tg:Tg} (hi:Ob M wi it) (hm:∀ i∈wG tg,M i = false) (hb:QG M κ x t m):QG M κ x (Za wi (tgG K tg) t) (Mi.nu (Mi.iP it) tg m):=fun H0 Hv0 e σ H Hv D I h =>
 hi e σ H Hv _ I.toR0 ((Mi.ph (dM.mp h)).mono fun ds h1 J H1 Hv1 P g1 O p1 per=>by
  rf ⟨fun i k σ' H'=>k = ds.length - i∧i≤ds.length∧∃ e' Hv',R1 M H0 Hv0 e' σ' H' Hv'∧P H' Hv'∧lD (Mi.qu tg m (ds.drop i) e') (nR M κ H0 Hv0 D Hv') (fun z=>∀ H' Hv',cg H0 Hv0 H' Hv'→x z H'),
   ⟨ds.length,by simp,Nat.zero_le _,e,Hv1,I.grow g1,p1,by rw [List.drop_zero]; xt h1.mono (fun o z=>z.up g1.vis) fun _ z=>z⟩,?_⟩
  rintro i k σ' H' ⟨rfl,hle,e',Hv',I',pp,hf⟩
  by_cases hlt:i < ds.length
  ·rf .inr ⟨O.go i H' Hv' pp I'.vw hlt,fun σ2 H2=>∃ e2 Hv2,R1 M H0 Hv0 e2 σ2 H2 Hv2∧P H2 Hv2∧lD (Mi.qu tg m (ds.drop (i + 1)) e2) (nR M κ H0 Hv0 D Hv2) (fun z=>∀ H' Hv',cg H0 Hv0 H' Hv'→x z H'),
    fun σ2 H2 z=>⟨ds.length - (i + 1),by omega,rfl,hlt,z⟩,fun y H2 q=>?_⟩
   ob ⟨Hv2,d,g2,hd,rx⟩:=O.yld i H' Hv' y H2 pp I'.vw hlt q
   have I2:=I'.grow g2
   have hdr:ds.drop i = d :: ds.drop (i + 1):=by
    ob ⟨hl,e1⟩:=List.getElem?_eq_some_iff.mp hd
    rw [List.drop_eq_getElem_cons hl,e1]
   rw [hdr] at hf
   rf Ec (P:=fun e1 σ1=>R1 M H0 Hv0 e1 σ1 H2 Hv2) g2.vw (fun j hj e1 σ1 d1 v1 r1 z=>r1.set (hm j hj) z) I2 rx (((dM.mp hf).fin (Mi.RG tg d e')).mono fun e1 h1 σ1 I1=>?_)
   rf hb H0 Hv0 e1 σ1 H2 Hv2 _ I1 ((dM.mp h1).mono (fun o ho=>?_) fun _ z=>z)
   cases o with
   | nx e2=>xt fun σ2 H3 Hv3 I3 s3=>⟨e2,Hv3,I3,per _ _ _ _ pp (g2.vis.trans s3) I3.vw,lD.mono ho (fun o z=>z.up (g2.vis.trans s3)) fun _ z=>z⟩
   | ct e2=>xt fun σ2 H3 Hv3 I3 s3=>⟨e2,Hv3,I3,per _ _ _ _ pp (g2.vis.trans s3) I3.vw,lD.mono ho (fun o z=>z.up (g2.vis.trans s3)) fun _ z=>z⟩
   | bk e2=>xt fun σ2 H3 Hv3 I3 s3=>ho σ2 H3 Hv3 I3 (g2.vis.trans s3)
   | rt w=>xt ho
  ·have hi:i = ds.length:=by omega
   subst hi
   rf .inl ⟨O.stop H' Hv' pp I'.vw,?_⟩
   rw [List.drop_of_length_le (Nat.le_refl _)] at hf
   xt hf σ' H' Hv' I' (gJ.refl _))
def X4 (cl:String→Addr) (f:Mi.Fn):Sp:=fun vs H Q E=>∃ Hv ws,Vw H Hv∧P2 (uo Hv) ws vs∧lD (f ws) (fun w=>∀ v H' Hv',cg H Hv H' Hv'→qV H H' Hv' w v→Q v H') (fun z=>∀ H' Hv',cg H Hv H' Hv'→wish cl E z H')
theorem Vh {f:Mi.Fn} {ws:List Mi.EW} {tr:TA} (ha:AAW M qV tr (Mi.bM ws)):QG M κ (wish cl E) (G9 (vm (X4 cl f) [] E tr)) (Mi.mL f ws):=fun H0 Hv0 e σ H Hv D I h =>
 ha e σ H Hv _ I.toR0 ((Mi.ph (dM.mp h)).mono fun ds hx vs H1 Hv1 g1 rx=>by
  rw [List.append_nil]
  rf ⟨Hv1,ds,g1.vw,rx,(dM.mp hx).mono (fun w hw v H3 Hv3 g3 r=>?_) fun z hz H3 Hv3 g3=>?_⟩
  ·xt hw σ H3 Hv3 (I.grow (g1.trans g3)) (g1.trans g3).vis
  ·xt hz H3 Hv3 (I.gw.trans (g1.trans g3)))
def PG (M:Nat→Bool) (g:Mi.Env→Bool) (p:L2.St→Hp→Prop):Prop:=∀ e σ H Hv,R0 M e σ H Hv→g e = true→p σ H
theorem tR:PG M (fun _=>true) (fun _ _=>True):=fun _ _ _ _ _ _=>trivial
theorem vI (i:Nat) (hm:M i = false):PG M (Mi.gR i) (fun σ H=>uG i σ H fun v H'=>H' = H∧∃ z:Str,v = .str z∧(PySem.reprText z).length≤100000):=fun e σ H Hv I h=>by
 unfold Mi.gR at h
 split at h
 ·rename_i z hz
  ob ⟨v,hv,r⟩:=I.nob i _ hz hm
  have r:v = .str z:=(lU (H:=Hv)).mp r
  subst r
  xt ⟨_,hv,rfl,z,rfl,of_decide_eq_true h⟩
 ·cases h
def Vs (M:Nat→Bool):List (Mi.Env→Bool)→List (L2.St→Hp→Prop)→Prop
 | [],[]=>True
 | g :: gs,p :: ps=>PG M g p∧Vs M gs ps
 | _,_=>False
theorem Mf:∀ {gs:List (Mi.Env→Bool)} {ps:List (L2.St→Hp→Prop)},Vs M gs ps→∀ {e σ H Hv},R0 M e σ H Hv→(gs.all fun g=>g e) = true→∀ p∈ps,p σ H
 | [],[],_,_,_,_,_,_,_,p,hp=>by cases hp
 | [],_ :: _,f,_,_,_,_,_,_,_,_=>f.elim
 | _ :: _,[],f,_,_,_,_,_,_,_,_=>f.elim
 | g :: gs,p :: ps,f,e,σ,H,Hv,I,h,q,hq=>by
  rw [List.all_cons,Bool.and_eq_true] at h
  rcases List.mem_cons.mp hq with rfl | hq
  ·xt f.1 e σ H Hv I h.1
  ·xt Mf f.2 I h.2 q hq
theorem xG {cls:String} {gs:List (Mi.Env→Bool)} {ps:List (L2.St→Hp→Prop)} (hp:Vs M gs ps):QG M κ (wish cl E) (fun _ σ H1=>((∀ p∈ps,p σ H1)∧∀ z:Str,z.length≤sizeLine→∀ ea,H1 ea = none→E (.ref (cl cls)) (some ea) H1)) (Mi.rR cls gs):=fun H0 Hv0 e σ H Hv D I h=>by
 unfold Mi.rR at h
 split at h
 ·rename_i hg
  xt ⟨Mf hp I.toR0 hg,fun z _ ea hea=>h H Hv I.gw ea hea⟩
 ·xt h.elim
theorem ach {f:Mi.S} {k n:Nat} {vs:List V} {H:Hp} {Q:VK} {E:XK} (h:X4 cl (Mi.vf k n f) vs H Q E):vs.length = k:=by
 ob ⟨Hv,ws,_,p,q⟩:=h
 rw [← p.len]; xt (Mi.Av q).1
theorem abq {N:List Str} {k:Nat} {vs:List V} {H:Hp} {Q:VK} (hA:QG M qV (wish cl E) t m) (hM:∀ i,i < k→M i = false) (h:X4 cl (Mi.vf k N.length m) vs H Q E):t { nx:=fun _ H'=>Q .non H',rt:=Q } (start N vs) H:=by
 ob ⟨Hv,ws,vw,p,q⟩:=h
 ob ⟨hk,q⟩:=Mi.Av q
 rf hA H Hv _ _ H Hv _ (zu vw p hk hM) ((dM.mp q).mono (fun o ho=>?_) fun z hz=>hz)
 cases o with
 | nx e=>xt fun σ H' Hv' I s=>ho _ H' Hv' I.gw J3
 | rt w=>xt fun v H' Hv' g r=>ho v H' Hv' g r
 | bk e=>xt ho.elim
 | ct e=>xt ho.elim
end
theorem _root_.L2.oG.okX {P:Program} {w:World} {K:Φ} {mg:Str→Option Value} {base:Heap} {x qual:Str} {st:Stmt} {f:Addr} {fd:FuncData} {N ps:List Str} {k:Nat} {sp:Sp} (F:oG K x qual st f fd) (S:bG N ps (aQ st)) (len:∀ vs H Q E,sp vs H Q E→vs.length = ps.length)
 (hbody:∀ (cdv:Value) (A:Around) (outer:List Env) (s:Shared) (H:Hp) (vs:List V) (Q:VK) (E:XK),jr k (A.deeper (envOfC qual (aQ st) s.heap.objs.size f cdv))→sp vs H Q E →
  ∃ t,GX (mj (BZ P w) P w K mg base N qual (aQ st) f cdv A outer s H E) (iG st) t∧t { nx:=fun _ H'=>Q .non H',rt:=Q } (start N vs) H):cY P w K mg base (BZ P w) (k + 1) f fd ps sp:=by
 ob ⟨oc,od,kV,doc,pm,an,cdv,ct,osl,rfl,lk,hcd⟩:=F.ex
 xt T9 lk hcd S len fun A outer s H vs Q E hr hsp=>hbody cdv A outer s H vs Q E hr hsp
end A
namespace L2
open PySem PySem.Spec PyProof.Rows
abbrev XF:=Addr→Addr→St→Hp→Prop
abbrev YK:=Ends→XF→St→Hp→Prop
def XP (X:Cx) (pins:List (Addr×Obj)) (F:XF) (e:Value) (s':Shared):Prop :=
 ∃ σ H1 s1,Inv X pins σ H1 s1∧BZ X.prog X.w X.stack H1 s1 (fun c oa H2=>∃ C ea,c = .ref C∧oa = some ea∧F C ea σ H2) e s'
def PSX (X:Cx) (st:Stmt) (t:YK):Prop:=∀ (pins:List (Addr×Obj)) (s:Shared) (σ : St) (H:Hp) (D:Ends) (F:XF),Inv X pins σ H s→t D F σ H→wpAny (model X.prog X.w) X.A (exec st X.env) (SP X pins D) (XP X pins F) s
def acW (X:Cx) (st:List Stmt) (t:YK):Prop:=∀ (pins:List (Addr×Obj)) (s:Shared) (σ : St) (H:Hp) (D:Ends) (F:XF),Inv X pins σ H s→t D F σ H→wpAny (model X.prog X.w) X.A (execs st X.env) (SP X pins D) (XP X pins F) s
section
variable {X:Cx} {st:Stmt} {t u:YK}
theorem Wb (h:PSX X st t):acW X [st] t:=by
 intro pins s σ H D F I q
 rf wpAny_execs_cons (wpAny_mono (h pins s σ H D F I q) (fun f s1 q=>?_) fun _ _ z=>z)
 cases f with
 | next=>xt wpAny_execs_nil q
 | ret v=>xt q
 | brk=>xt q
 | cont=>xt q
def Rc (sp:Sp) (t:TA):YK:=fun D F σ H=>t σ H fun vs H1=>sp vs H1 (fun _ H2=>D.nx σ H2) (fun c oa H2=>∃ C ea,c = .ref C∧oa = some ea∧F C ea σ H2)
theorem RM {k:Nat} {x:Str} {ps:List Str} {sp:Sp} {e:Expr} {es:List Expr} {t:TA} {p cpos pos:Pos} (hx:X.xe = fun _ _=>False) (C:nU X.prog X.w X.K X.mg X.base (BZ X.prog X.w) k x ps sp) (hr:jr k X.A) (hg:Gl X x)
 (ha:PA X (e :: es) t) (hdb:(x == ("__debug__" : Str)) = false:=by decide) (he:starEach (e :: es) X.env = (false,eval e X.env) :: starEach es X.env:=by rfl) (hpl:(backTo cpos (starEach es X.env)).any (·.1) = false:=by rfl)
 (hs:swapsWith (.Call (.Name x p) (e :: es) [] cpos) none pos.line X.env = pure false:=by rfl):PSX X (.Expr (.Call (.Name x p) (e :: es) [] cpos) pos) (Rc sp t):=by
 intro pins s σ H D F I h
 ob ⟨f,fd,hm,hk,hb,Fo⟩:=C.ex
 rf wpAny_Expr_any ?_ I.quiet hs
 rf wpAny_Call_Name_kw (tW I hg hm ?_ hdb)
 rf PySem.W.callWith_K (h₀:=X.base) I.ok.mod.kin hk (wpAny_mono (ha cpos pins s σ H _ I h) (fun us s1 ⟨vs,H1,I1,r,q⟩=>⟨I1.yw,?_⟩) fun _ _ z=>by rw [hx] at z; xt z.elim) he hpl
 have hl:us.length = ps.length:=by rw [← r.length]; xt Fo.len _ _ _ _ q
 rf wpAny_call (codeAny_mono (Fo.run X.A X.stack s1 H1 ⟨us,[]⟩ us vs _ _ hr I1.env0 (by have:=hb s1 us I1.yw (by rw [List.append_nil]; xt hl); rwa [List.append_nil] at this) r q) fun res s' hq=>?_)
 cases res with
 | error e'=>xt ⟨σ,H1,s1,I1,hq⟩
 | ok fl =>
  cases fl with
  | ret v =>
   ob ⟨v',H2,I2,_,q2⟩:=I1.after hq
   xt ⟨σ,H2,I2,q2⟩
  | next=>xt False.elim hq
  | brk=>xt False.elim hq
  | cont=>xt False.elim hq
end
def Cx.held (X:Cx) (e:Value):Cx:={ X with A:=X.A.mark (some e),calm:=false,xe:=fun _ _=>False }
section
variable {X:Cx} {pins:List (Addr×Obj)} {σ : St} {H:Hp} {s:Shared}
theorem Inv.held (I:Inv X pins σ H s) (e:Value):Inv (X.held e) pins σ H s :=
 ⟨⟨I.ok.mod,I.ok.kind,I.ok.glob,I.ok.blt,I.ok.above,I.ok.inj,I.ok.has,I.ok.cab,fun z=>(nomatch z),I.ok.frames,I.ok.stk,I.ok.exf,I.ok.bs,I.ok.bsz,I.ok.Ko,I.ok.PL,I.ok.sI,I.ok.frf⟩,I.os,I.bare,I.base,I.loc,I.cell,I.free,I.lQ,I.pin,I.hok,I.len⟩
theorem Inv.Ea {e:Value} (J:X.Ok) (I:Inv (X.held e) pins σ H s):Inv X pins σ H s :=
 ⟨J,I.os,I.bare,I.base,I.loc,I.cell,I.free,I.lQ,I.pin,I.hok,I.len⟩
end
end L2
namespace L2
open PySem PySem.Spec PyProof.Rows
open A (xn)
section
variable {X:Cx} {pins:List (Addr×Obj)} {σ : St} {H:Hp} {s:Shared}
theorem vL {M:Model} {A:Around} {E:Value→Shared→Prop} {i:Nat} {n:Str} {pos:Pos} {Q:Unit→Shared→Prop} (I:Inv X pins σ H s) (hN:X.N.Nodup) (hi:X.N[i]? = some n) (hk:X.env.scope.names.lookup n = some .local)
 (h:∀ s',Inv X pins (σ.set i none) H s'→Q () s'):wpAny M A (do bindName X.env n .none; unbindBehindTheSuite X.env n pos) Q E s:=by
 have hcls:(X.env.scope.kind == .class || (X.env.scope.kind == .module && X.env.locals != X.env.globals)) = false:=by rw [I.ok.kind]; rfl
 have hiσ : i < σ.length:=by rw [I.len]; xt (List.getElem?_eq_some_iff.mp hi).1
 rf wpAny_bind (wpAny_bindName (vq (v:=.non) (u:=.none) I hN hi (.inl hk) rfl (fun s1 I1=>?_) (.inr hk)))
 ob ⟨m,hn,hl⟩:=id I1.loc
 have hsome:(m n).isSome = true:=by
  ob ⟨u,_,q⟩:=hl i n .non hi (List.getElem?_set_self hiσ) (.inl hk)
  rcases q with ⟨_,e⟩ | ⟨k,_⟩
  ·rw [e]; rfl
  ·have hk':X.env.kindOf n = some .local:=hk
   rcases k with k | k <;> (rw [hk'] at k; cases k)
 have hk':X.env.kindOf n = some .local:=hk
 unfold unbindBehindTheSuite
 rf wpAny_onRaise ?_
 unfold unbindName
 rf wpAny_bind (wpAny_point (wpAny_bind ?_))
 unfold deleteName
 simp only [hk',hcls]
 rw [if_neg δ]
 rf wpAny_bind (wpAny_nsDel_keeps hn fun h2 v hn2 hs2=>?_)
 rw [hsome]
 simp only [if_true,Bool.not_true,Bool.false_eq_true,if_false]
 rf wpAny_pure (wpAny_point (h _ ?_))
 ob ⟨oL,_,_,hoL,_⟩:=id hn
 have ne:∀ {b o},X.s₀.heap.get? b = some o→b≠X.env.locals:=fun {b o} e=>Nat.ne_of_lt (Nat.lt_of_lt_of_le (Heap.lt_size e) I1.ok.above)
 rf ⟨I1.ok,I1.os,I1.bare,⟨fun b o e z hb hx=>(hs2.2 b (ne e)).trans (I1.base.keep b o e z hb hx),fun b o e z hb hx=>?_,I1.base.free,fun b o e hx=>?_,I1.base.tups,I1.base.xm,I1.base.wH⟩,⟨_,hn2,fun j y v' e1 e2 e3=>?_⟩,fun y c e=>?_,I1.free,I1.lQ,fun p hp=>?_,?_,by simpa using I1.len⟩
 ·ob ⟨sl,e1⟩:=I1.base.slot b o e z hb hx
  xt ⟨sl,(hs2.2 b (ne e)).trans e1⟩
 ·ob ⟨o',e1⟩:=I1.base.there b o e hx
  xt ⟨o',(hs2.2 b (ne e)).trans e1⟩
 ·by_cases hj:j = i
  ·subst hj
   rw [List.getElem?_set_self hiσ] at e2; cases e2
  ·have e2':(σ.set i (some V.non))[j]? = some (some v'):=by
    rw [List.getElem?_set_ne (Ne.symm hj)] at e2 ⊢; xt e2
   ob ⟨u',r',q⟩:=hl j y v' e1 e2' e3
   rf ⟨u',r',?_⟩
   rcases q with ⟨k,e⟩ | ⟨k,c,e,z⟩
   ·rf .inl ⟨k,?_⟩
    have:y≠n:=fun e=>hj (z8 hN e1 (e ▸ hi))
    simp [this,e]
   ·rf .inr ⟨k,c,e,?_⟩
    ob ⟨o,ho,hd⟩:=z
    xt ⟨o,(hs2.2 c (I1.Xf y c e)).trans ho,hd⟩
 ·ob ⟨v2,o,ho,hd⟩:=I1.cell y c e
  xt ⟨v2,o,(hs2.2 c (I1.Xf y c e)).trans ho,hd⟩
 ·ob ⟨q1,q2,q3,q4⟩:=I1.pin p hp
  xt ⟨(hs2.2 _ q3).trans q1,q2,q3,q4⟩
 ·intro b ob e
  rf (I1.hok b ob e).stay (fun c w' hc q=>(hs2.2 c ?_).trans q) (fun _ q=>q) fun _ _ q=>q
  rintro rfl
  rcases hc with rfl | hc
  ·rw [I1.free] at e; cases e
  ·rw [I1.free] at hc; cases hc
theorem Inv.caught {H1 H2:Hp} {s1 s':Shared} {h4:Heap} {ea C:Addr} {no:List Addr} {oe:Obj} (I1:Inv X pins σ H1 s1) (os:s'.os = s1.os) (bare:AllBare s'.gens) (un:Un (frs X.stack) [] H1 H2 s1.heap s'.heap) (ok2:pW X.prog X.w H2 s'.heap)
 (n:fU (frs X.stack) no s'.heap h4) (hno:∀ b∈no,s1.heap.get? b = none∧H2 b = none) (he:ea∈no) (hx:h4.get? ea = some oe) (hc:oe.cls = .ref C) (hcd:oe.dict = none) (hcf:∃ vs,oe.data = .fields vs):Inv X pins σ (upd H2 ea (.ext (xn ea C))) { s' with heap:=h4 }:=by
 have I2:Inv X pins σ H2 s':=I1.call' os (ch:=[]) un ok2 bare (fun b z=>absurd z (by simp))
 have old:∀ {b o},s1.heap.get? b = some o→b∉no:=fun {b o} e z=>by rw [(hno b z).1] at e; cases e
 have nee:∀ {b o},H2 b = some o→b≠ea:=fun {b o} e z=>by rw [z,(hno ea he).2] at e; cases e
 rf I1.call' (s':={ s' with heap:=h4 }) os (ch:=[]) ⟨fun b o e z nf nx=>n.keep b o (un.keep b o e z nf nx) nf (old e),fun b o e z nf nx=>?_,fun b o e z nx=>?_,fun b o e nx=>?_,fun b xs e=>?_,fun b o u e=>?_,fun b w ps e=>?_⟩ ?_ bare (fun b z=>absurd z (by simp))
 ·ob ⟨sl,q⟩:=un.slot b o e z nf nx
  ob ⟨sl2,q2⟩:=n.slot b _ q (old e)
  xt ⟨sl2,q2⟩
 ·rw [aJ (fun y:b = ea=>old e (by rw [y]; xt he))]
  xt un.free b o e z nx
 ·ob ⟨o1,q⟩:=un.there b o e nx
  xt n.there b o1 q
 ·have q:=un.tups b xs e
  rw [aJ (nee q)]; xt q
 ·have q:=un.xm b o u e
  rw [aJ (nee q)]; xt q
 ·ob ⟨more,q⟩:=un.wH b w ps e
  xt ⟨more,by rw [aJ (nee q)]; xt q⟩
 ·intro a o e
  by_cases ha:a = ea
  ·subst ha
   rw [aU] at e; cases e
   rf ⟨⟨oe,hx,hc,hcd,hcf⟩,⟨oe,hx⟩,fun k1 k2 ⟨o,q1,q2⟩ kk=>⟨o,kk o q1,q2⟩⟩
  ·rw [aJ ha] at e
   rf (ok2 a o e).stay (fun b u hb q=>?_) (fun b q=>by rw [aJ (nee q)]; xt q) fun b xs q=>by rw [aJ (nee q)]; xt q
   have tr:∃ ob,H2 b = some ob:=by
    rcases hb with rfl | hb
    ·xt ⟨_,e⟩
    ·xt ⟨_,hb⟩
   ob ⟨ob,tr⟩:=tr
   rf n.keep b u q (fun z=>?_) fun z=>?_
   ·have:=I2.vz b z
    rw [tr] at this; cases this
   ·rw [(hno b z).2] at tr; cases tr
def adE (i:Nat) (D:Ends):Ends:={ nx:=fun σ H=>D.nx (σ.set i none) H,rt:=D.rt,bk:=fun σ H=>D.bk (σ.set i none) H,ct:=fun σ H=>D.ct (σ.set i none) H }
def aba (i:Nat) (okC:Addr→Prop) (tb:YK) (th:TS):TS:=fun D σ H=>tb D (fun C ea σ' H2=>okC C∧th (adE i D) (σ'.set i (some (.ref ea))) (upd H2 ea (.ext (xn ea C)))) σ H
theorem Zq {body suite:List Stmt} {b0:Stmt} {tb:YK} {th:TS} {x n:Str} {i:Nat} {C0:Addr} {np hpos pos:Pos} {okC:Addr→Prop} (hx:X.xe = fun _ _=>False) (hst:X.stack = X.env :: X.outer) (hfr:X.env.frame = some X.env.locals)
 (hN:X.N.Nodup) (hi:X.N[i]? = some n) (hk:X.env.scope.names.lookup n = some .local) (hg:Gl X x) (hm:X.mg x = some (.ref C0)) (aai:∀ C,okC C→PySem.W.exmOne X.K (.ref C) (.ref C0) = some true)
 (hb:acW X body tb) (hh:∀ ea,GX (X.held (.ref ea)) (b0 :: suite) th) (hdb:(x == ("__debug__" : Str)) = false:=by decide) :
 PS X (.Try body [.ExceptHandler (some (.Name x np)) (some n) (b0 :: suite) hpos] [] [] pos) (aba i okC tb th):=by
 intro pins s σ0 H0 D I h
 rf wpAny_Try_except (wpAny_mono (hb pins s σ0 H0 D _ I h) (fun f s1 q=>?_) fun e s' xp=>?_)
 ·cases f with
  | next=>xt wpAny_execs_nil q
  | ret v=>xt q
  | brk=>xt q
  | cont=>xt q
 ob ⟨σ,H1,s1,I1,ea,T,C,H2,rfl,os,bare,un,ok2,n1,n2,n3,n4,xx,C',ea',eC,eE,okc,ht⟩:=xp
 cases eC; cases eE
 have I2:Inv X pins σ H2 s':=I1.call' os (ch:=[]) un ok2 bare (fun b z=>absurd z (by simp))
 have ad1:X.A.frames = some (X.env :: X.outer):=by rw [← hst]; xt I2.ok.frames
 have hl:s'.heap.FunFrames X.base (X.env :: X.outer):=by rw [← hst]; xt I2.stack
 rf Mp (base:=X.base) ad1 hl hfr xx fun h3 T' hT' n x3=>?_
 rf qw (s:={ s' with heap:=h3 }) x3 fun h4 m4 _ x4=>?_
 have adJ:s1.heap.get? T' = none∧H2 T' = none:=by
  have hTn:s'.heap.get? T' = none:=by
   cases q2:s'.heap.get? T' with
   | none=>rfl
   | some o=>xt absurd (Heap.lt_size q2) (Nat.not_lt.mpr hT')
  rf ⟨?_,ok2.none_of hTn⟩
  cases q2:s1.heap.get? T' with
  | none=>rfl
  | some o =>
   ob ⟨o',z2⟩:=un.there T' o q2 (by simp)
   rw [hTn] at z2; cases z2
 have nn:∀ b∈[ea,T,T'],s1.heap.get? b = none∧H2 b = none:=fun b hb=>by
  simp only [List.mem_cons,List.not_mem_nil,or_false] at hb
  rcases hb with rfl | rfl | rfl
  ·xt ⟨n1,n3⟩
  ·xt ⟨n2,n4⟩
  ·xt adJ
 have wide:∀ {k k':Heap},fU [] [T'] k k'→fU (frs X.stack) [T'] k k':=fun z=>⟨fun b o q _=>z.keep b o q (by simp),z.slot,z.there⟩
 have n':fU (frs X.stack) [ea,T] s'.heap h3:=by rw [hst]; xt n
 have N4:fU (frs X.stack) [ea,T,T'] s'.heap h4:=(n'.trans (wide m4)).more fun b hb=>by simpa [or_assoc] using hb
 have x4':=x4
 ob ⟨oe,vs,oT,ts,he,⟨hc,hcd⟩,hcf,_⟩:=x4'
 have I4:=I1.caught os bare un ok2 N4 nn (by simp) he hc hcd ⟨vs,hcf⟩
 rf wpAny_handleBy_cons (codeAny_handlers_test ?_) (by intro q; cases q)
 rf tW (X:=X.held (.ref ea)) (I4.held _) hg hm ?_ hdb
 have LT:PySem.W.Looks (model X.prog X.w) h4 (typeOf (.ref ea)) (.ref C):=by
  rw [← hc]
  xt (PySem.W.Looks.ld he).andThen .now
 rf PySem.W.exm_one (K:=X.K) I4.yw LT (aai C okc) _ _ _ { s' with heap:=h4 } (fun _ _ q=>q) ?_
 rf codeAny_handlers_suite_as ?_
 rf qw (s:={ s' with heap:=h4 }) x4 fun h5 m5 _ x5=>?_
 have N5:fU (frs X.stack) [ea,T,T'] s'.heap h5:=(N4.trans (wide m5)).more fun b hb=>by
  simp only [List.cons_append,List.nil_append,List.mem_cons,List.not_mem_nil,or_false] at hb ⊢
  rcases hb with z | z | z | z
  ·xt .inl z
  ·xt .inr (.inl z)
  ·xt .inr (.inr z)
  ·xt .inr (.inr z)
 ob ⟨oe5,vs5,_,_,he5,⟨hc5,ad3⟩,ad2,_⟩:=x5
 have I5:=I1.caught os bare un ok2 N5 nn (by simp) he5 hc5 ad3 ⟨vs5,ad2⟩
 rf vq (X:=X.held (.ref ea)) (i:=i) (v:=.ref ea) (I5.held _) hN hi (.inl hk) rfl (fun s6 I6=>?_) (.inr hk)
 rf wpAny_mono (hh ea pins s6 _ _ _ I6 ht) (fun f s7 q=>?_) fun _ _ z=>z.elim
 have J:=I.ok
 cases f with
 | next =>
  ob ⟨σ',H',I7,q⟩:=q
  xt vL (I7.Ea J) hN hi hk fun s8 I8=>⟨_,_,I8,q⟩
 | brk =>
  ob ⟨σ',H',I7,q⟩:=q
  xt vL (I7.Ea J) hN hi hk fun s8 I8=>⟨_,_,I8,q⟩
 | cont =>
  ob ⟨σ',H',I7,q⟩:=q
  xt vL (I7.Ea J) hN hi hk fun s8 I8=>⟨_,_,I8,q⟩
 | ret v =>
  ob ⟨v',σ',H',I7,r,q⟩:=q
  xt vL (I7.Ea J) hN hi hk fun s8 I8=>⟨v',_,_,I8,r,q⟩
end
end L2
namespace L2
open PySem PySem.Spec PyProof.Rows
structure qO (k:Nat) (A:Around):Prop where
 dp:A.depth + 3 * k + 5 < recursionLimit
 un:A.units + 16 * k + 200 < cLine
theorem jr.acw {k:Nat} {A:Around} (r:jr k A) (e:Value):qO k (A.mark (some e)):=⟨r.dp,r.un⟩
theorem qO.deeper {k:Nat} {A:Around} (r:qO (k + 1) A) (env:Env):qO k (A.deeper env) :=
 ⟨by have:=r.dp; show A.depth + 1 + 3 * k + 5 < _; omega,by have:=r.un; show A.units + 3 + 16 * k + 200 < _; omega⟩
theorem qO.depth {k:Nat} {A:Around} (r:qO k A):A.depth < recursionLimit:=by have:=r.dp; omega
theorem qO.units {k:Nat} {A:Around} (r:qO k A):A.units + 64 < cLine:=by have:=r.un; omega
structure Jz (P:Program) (w:World) (K:Φ) (mg:Str→Option Value) (base:Heap) (k:Nat) (f:Addr) (fd:FuncData) (ps:List Str) (sp:Sp):Prop where
 len:∀ vs H Q E,sp vs H Q E→vs.length = ps.length
 run:∀ (A:Around) (outer:List Env) (s:Shared) (H:Hp) (args:Args) (us:List Value) (vs:List V) (Q:VK) (E:XK),qO k A→Qy P w K mg base A outer s H→BindsTo s fd args (ps.zip us)→Vals vs us→sp vs H Q E →
  codeAny (model P w) A (.call (.ref f) args) (CR dF outer P w H s Q E) s
def cxH (P:Program) (w:World) (K:Φ) (mg:Str→Option Value) (base:Heap) (N:List Str) (qual:Str) (scope:Scope) (f:Addr) (cd:Value) (A:Around) (outer:List Env) (s:Shared) (H:Hp) (E:XK):Cx :=
 { mj dF P w K mg base N qual scope f cd A outer s H E with calm:=false,xe:=fun _ _=>False }
theorem aan {P:Program} {w:World} {K:Φ} {mg:Str→Option Value} {base:Heap} {k:Nat} {f:Addr} {name qual:Str} {params:Arguments} {body:List Stmt} {scope:Scope} {dV kV doc pm cdv ct oc:Value} {an od:Option Addr}
 {osl:Array (Option Value)} {N ps:List Str} {sp:Sp} (lk:K.lookup f = some ⟨oc,od,.func (PySem.W.fnOf name qual params body scope dV kV doc pm an cdv ct),osl⟩) (hcd:PySem.W.codeIn K cdv qual = true) (S:bG N ps scope)
 (len:∀ vs H Q E,sp vs H Q E→vs.length = ps.length)
 (hbody:∀ (A:Around) (outer:List Env) (s:Shared) (H:Hp) (vs:List V) (Q:VK) (E:XK),qO k (A.deeper (envOfC qual scope s.heap.objs.size f cdv))→sp vs H Q E →
  ∃ t,GX (cxH P w K mg base N qual scope f cdv A outer s H E) body t∧t { nx:=fun _ H'=>Q .non H',rt:=Q } (start N vs) H) :
 Jz P w K mg base (k + 1) f (PySem.W.fnOf name qual params body scope dV kV doc pm an cdv ct) ps sp:=by
 rf ⟨len,fun A outer s H args us vs Q E hr e0 hb r hsp=>?_⟩
 have hl:=len _ _ _ _ hsp
 have KX:K.In s.heap:=e0.mod.kin.keeps fun b o e=>(e0.bs b o e).1
 have lim:s.heap.NoLimit:=e0.mod.nolimit.keeps fun b o e=>(e0.bs b o e).1
 have hkind:∀ y∈ps.zip us,scope.names.lookup y.1 = some .local∨(scope.names.lookup y.1 = some .cell∧((cellsFrom (s.heap.objs.size + 1) scope.names []).lookup y.1).isSome = true):=fun ⟨n,v⟩ hy=>by
  rcases S.par n (List.of_mem_zip hy).1 with q | q
  ·xt .inl q
  ·xt .inr ⟨q,PySem.W.cellsFrom_some _ _ _ (.inl q)⟩
 rf codeAny_call_function hr.depth (KX _ _ lk) rfl S.co S.gen rfl (PySem.W.codeRec_of KX hcd) (hb _ _ _ _ ?_)
 rf wpAny_newFunctionEnv_cells S.kind hkind fun env he s1 x=>?_
 subst he
 rf ⟨lim.keeps x.toInCall.keep,codeAny_func ?_⟩
 ob ⟨t,ht,hq⟩:=hbody A outer s H vs Q E (hr.deeper _) hsp
 have e1:Qy P w K mg base { A with handled:=none } outer s H:=⟨e0.frames,e0.mod,e0.bs,e0.bsz,e0.sI,e0.frf,e0.hok,e0.bare⟩
 have I1:Inv (mj dF P w K mg base N qual scope f cdv { A with handled:=none } outer s H E) [] (start N vs) H s1:=CP S rfl e1 hl r x
 have I:Inv (cxH P w K mg base N qual scope f cdv A outer s H E) [] (start N vs) H s1 :=
  ⟨⟨I1.ok.mod,I1.ok.kind,I1.ok.glob,I1.ok.blt,I1.ok.above,I1.ok.inj,I1.ok.has,I1.ok.cab,fun z=>(nomatch z),Around.frames_deeper e0.frames,I1.ok.stk,I1.ok.exf,I1.ok.bs,I1.ok.bsz,I1.ok.Ko,I1.ok.PL,I1.ok.sI,I1.ok.frf⟩,I1.os,I1.bare,I1.base,I1.loc,I1.cell,I1.free,I1.lQ,I1.pin,I1.hok,I1.len⟩
 rf wpAny_mono (ht [] s1 (start N vs) H _ I hq) (fun fl s' hs=>?_) fun e s' hs=>hs.elim
 have fin:∀ {σ':St} {H':Hp} {v:V} {u:Value},Inv (cxH P w K mg base N qual scope f cdv A outer s H E) [] σ' H' s'→RelV v u→Q v H'→CE outer P w H s Q u s' :=
  fun {σ' H' v u} J rv q=>⟨v,H',J.os,J.bare,J.base,J.hok,rv,q⟩
 cases fl with
 | ret u =>
  ob ⟨v,σ',H',J,rv,q⟩:=hs
  xt fin J rv q
 | next =>
  ob ⟨σ',H',J,q⟩:=hs
  xt fin (v:=V.non) (u:=Value.none) J rfl q
 | brk =>
  ob ⟨_,_,_,q⟩:=hs
  xt False.elim q
 | cont =>
  ob ⟨_,_,_,q⟩:=hs
  xt False.elim q
theorem oG.okH {P:Program} {w:World} {K:Φ} {mg:Str→Option Value} {base:Heap} {x qual:Str} {st:Stmt} {f:Addr} {fd:FuncData} {N ps:List Str} {k:Nat} {sp:Sp} (F:oG K x qual st f fd) (S:bG N ps (aQ st)) (len:∀ vs H Q E,sp vs H Q E→vs.length = ps.length)
 (hbody:∀ (cdv:Value) (A:Around) (outer:List Env) (s:Shared) (H:Hp) (vs:List V) (Q:VK) (E:XK),qO k (A.deeper (envOfC qual (aQ st) s.heap.objs.size f cdv))→sp vs H Q E →
  ∃ t,GX (cxH P w K mg base N qual (aQ st) f cdv A outer s H E) (iG st) t∧t { nx:=fun _ H'=>Q .non H',rt:=Q } (start N vs) H):Jz P w K mg base (k + 1) f fd ps sp:=by
 ob ⟨oc,od,kV,doc,pm,an,cdv,ct,osl,rfl,lk,hcd⟩:=F.ex
 xt aan lk hcd S len fun A outer s H vs Q E hr hsp=>hbody cdv A outer s H vs Q E hr hsp
structure aaU (P:Program) (w:World) (K:Φ) (mg:Str→Option Value) (base:Heap) (k:Nat) (x:Str) (ps:List Str) (sp:Sp):Prop where
 ex:∃ (f:Addr) (fd:FuncData),mg x = some (.ref f)∧PySem.W.keepIn K (.ref f) = true∧Binds K fd ps []∧Jz P w K mg base k f fd ps sp
theorem q9.aep {P:Program} {w:World} {K:Φ} {mg:Str→Option Value} {base:Heap} {k:Nat} {x:Str} {st:Stmt} {ps:List Str} {sp:Sp} (F:q9 K mg x st ps) (h:∀ f fd,oG K x x st f fd→Jz P w K mg base k f fd ps sp):aaU P w K mg base k x ps sp:=by
 ob ⟨f,fd,h1,h2,h3,_,h4⟩:=F.ex
 xt ⟨f,fd,h1,h2,h3,h f fd h4⟩
theorem Wg {X:Cx} {k:Nat} {x:Str} {ps:List Str} {sp:Sp} {E:XK} {e:Expr} {es:List Expr} {t:TA} {p pos:Pos} (C:aaU X.prog X.w X.K X.mg X.base k x ps sp) (hr:qO k X.A) (hg:Gl X x) (ha:PA X (e :: es) t)
 (hdb:(x == ("__debug__" : Str)) = false:=by decide) (he:starEach (e :: es) X.env = (false,eval e X.env) :: starEach es X.env:=by rfl) (hpl:(backTo pos (starEach es X.env)).any (·.1) = false:=by rfl) :
 PE X (.Call (.Name x p) (e :: es) [] pos) (vm sp [] E t):=by
 ob ⟨f,fd,hm,hk,hb,F⟩:=C.ex
 intro pins s σ H Q I h
 rf wpAny_Call_Name_kw (tW I hg hm ?_ hdb)
 rf PySem.W.callWith_K (h₀:=X.base) I.ok.mod.kin hk (dY (ha pos pins s σ H _ I h) fun us s1 ⟨vs,H1,I1,r,q⟩=>⟨I1.yw,?_⟩) he hpl
 have q:sp (vs ++ []) H1 Q E:=q
 rw [List.append_nil] at q
 have hl:us.length = ps.length:=by rw [← r.length]; xt F.len _ _ _ _ q
 rf wpAny_call (codeAny_mono (F.run X.A X.stack s1 H1 ⟨us,[]⟩ us vs _ _ hr I1.env0 (by have:=hb s1 us I1.yw (by rw [List.append_nil]; xt hl); rwa [List.append_nil] at this) r q) fun res s' hq=>?_)
 cases res with
 | error e'=>xt hq.elim
 | ok fl =>
  cases fl with
  | ret u=>xt I1.after hq
  | next=>xt False.elim hq
  | brk=>xt False.elim hq
  | cont=>xt False.elim hq
end L2
namespace Mi
open PySem
def abT (i:Nat):Out→Out
 | .nx e=>.nx (e.set i none)
 | .rt w=>.rt w
 | .bk e=>.bk (e.set i none)
 | .ct e=>.ct (e.set i none)
def Rn (i:Nat) (cs:List String) (body hb:S):S:=fun e=>match body e with
 | .ok o=>.ok o
 | .ex z=>aK (z.cls∈cs) ((still (hb (e.set i (some (.ex z.cls))))).bind fun o=>.ok (abT i o))
 | .no=>.no
end Mi
namespace A
open PySem L2 PyProof.Rows So
open Mi (D W Rs Fin lD aq dM Out Tg yE)
variable [Tb:iZ]
def AX (M:Nat→Bool) (κ : Kd) (t:YK) (m:Mi.S):Prop:=∀ H0 Hv0 e σ H Hv D F,R1 M H0 Hv0 e σ H Hv→lD (m e) (nR M κ H0 Hv0 D Hv) (fun z=>∀ ea H' Hv',R1 M H0 Hv0 e σ H' Hv'→gJ Hv Hv'→H' ea = none→F (Tb.cl z.cls) ea σ H')→t D F σ H
section
variable {M:Nat→Bool} {κ : Kd} {t u:YK} {m n:Mi.S}
theorem Xp {f:Mi.Fn} {ws:List Mi.EW} {tr:TA} (ha:AAW M qV tr (Mi.bM ws)):AX M κ (Rc (X4 Tb.cl f) tr) (Mi.mL f ws):=fun H0 Hv0 e σ H Hv D F I h =>
 ha e σ H Hv _ I.toR0 ((Mi.ph (dM.mp h)).mono fun ds hx vs H1 Hv1 g1 rx=>by
  rf ⟨Hv1,ds,g1.vw,rx,(dM.mp hx).mono (fun w hw v H3 Hv3 g3 r=>?_) fun z hz H3 Hv3 g3 ea hea=>?_⟩
  ·xt hw σ H3 Hv3 (I.grow (g1.trans g3)) (g1.trans g3).vis
  ·xt ⟨_,_,rfl,rfl,hz ea H3 Hv3 (I.grow (g1.trans g3)) (g1.trans g3).vis hea⟩)
theorem R1.off {H0 Hv0:Hp} {e:Mi.Env} {σ : L2.St} {H Hv:Hp} (I:R1 M H0 Hv0 e σ H Hv) (i:Nat):R1 M H0 Hv0 (e.set i none) (σ.set i none) H Hv:=by
 have get:∀ {j:Nat} {w:W},(e.set i none)[j]? = some (some w)→i≠j∧e[j]? = some (some w):=fun {j w} h=>by
  rcases jD h with ⟨_,h,_⟩ | z
  ·cases h
  ·xt z
 have st:∀ {j:Nat} {v:V},i≠j→σ[j]? = some (some v)→(σ.set i none)[j]? = some (some v):=fun {j v} n h=>by rw [List.getElem?_set_ne n]; xt h
 have ts:∀ {j:Nat} {v:V},i≠j→(σ.set i none)[j]? = some (some v)→σ[j]? = some (some v):=fun {j v} n h=>by rw [List.getElem?_set_ne n] at h; xt h
 rf ⟨⟨I.vw,by rw [List.length_set,List.length_set]; xt I.len,fun j w h mm=>?_,fun j w h mm=>?_⟩,I.gw,fun j w a h mm q=>?_,fun j k w w' a b hjk h1 h2 m1 m2 q1 q2=>?_⟩
 ·ob ⟨nj,h⟩:=get h
  ob ⟨v,hv,r⟩:=I.nob j w h mm
  xt ⟨v,st nj hv,r⟩
 ·ob ⟨nj,h⟩:=get h
  ob ⟨v,hv,r⟩:=I.own j w h mm
  xt ⟨v,st nj hv,r⟩
 ·ob ⟨nj,h⟩:=get h
  xt I.fresh j w a h mm (ts nj q)
 ·ob ⟨nj,h1⟩:=get h1
  ob ⟨nk,h2⟩:=get h2
  xt I.sep j k w w' a b hjk h1 h2 m1 m2 (ts nj q1) (ts nk q2)
theorem aaI {i:Nat} {cs:List String} {th:TS} {hb:Mi.S} (hi:M i = false) (h1:AX M κ t m) (h2:AS M κ th hb):AS M κ (aba i (fun C=>∃ c∈cs,C = Tb.cl c) t th) (Mi.Rn i cs m hb):=fun H0 Hv0 e σ H Hv D I h=>by
 rf h1 H0 Hv0 e σ H Hv D _ I ?_
 unfold Mi.Rn at h
 cases hm:m e with
 | ok o=>rw [hm] at h; xt h
 | no=>rw [hm] at h; xt h.elim
 | ex z =>
  rw [hm] at h
  ob ⟨hz,h⟩:=Mi.aV h
  intro ea H' Hv' I' s' hea
  have g:cg H' Hv' (upd H' ea (.ext (xn ea (Tb.cl z.cls)))) (upd Hv' ea (.ext (xn ea (Tb.cl z.cls)))):=.new I'.vw hea
  have r:uo (upd Hv' ea (.ext (xn ea (Tb.cl z.cls)))) (.ex z.cls) (.ref ea):=⟨ea,rfl,aU⟩
  rf ⟨⟨z.cls,hz,rfl⟩,h2 H0 Hv0 _ _ _ _ _ ((I'.grow g).set hi r) ?_⟩
  have h:=aq.mp h
  cases hh:hb (e.set i (some (.ex z.cls))) with
  | no=>rw [hh] at h; xt h.elim
  | ex y=>rw [hh] at h; xt h.elim
  | ok o =>
   rw [hh] at h
   have sm:gJ Hv (upd Hv' ea (.ext (xn ea (Tb.cl z.cls)))):=s'.trans g.vis
   cases o with
   | nx e2=>xt fun σ2 H2 Hv2 I2 s2=>h (σ2.set i none) H2 Hv2 (I2.off i) (sm.trans s2)
   | rt w=>xt h
   | bk e2=>xt fun σ2 H2 Hv2 I2 s2=>h (σ2.set i none) H2 Hv2 (I2.off i) (sm.trans s2)
   | ct e2=>xt fun σ2 H2 Hv2 I2 s2=>h (σ2.set i none) H2 Hv2 (I2.off i) (sm.trans s2)
end
end A
namespace PySem.W
open PySem PySem.Spec PySem.Calls PyProof.Rows
section
variable {prog:Program} {w:World} {A:Around} {E:Value→Shared→Prop} {s:Shared} {K:Frag} {x D:Addr} {ox:Obj}
variable (hga:findIn K (.ref D) "__getattribute__" = some (some (.builtin "BaseException.__getattribute__"))) (hgt:findIn K (.ref D) "__getattr__" = some none) (hcd:(clsIn K D).isSome = true)
 (ha:findIn K (.ref D) "__class__" = some (some (.builtin "object.__class__"))) (hn:specialIn K (.builtin "object.__class__") "__get__" = some (some (.builtin "getset_descriptor.__get__"))) (htk:takesIn K (.builtin "object.__class__") = some true)
 (hm:mroIn K D (.type "object") = some true) (hb:mroIn K D (.type "BaseException") = some true)
include hga hgt hcd ha hn htk hm hb
theorem Iw {tk:Tok} {R:Result→Shared→Prop} (X:K.In s.heap) (I:InstAt s.heap x ox D none) (h:R (.ok (.ret (.ref D))) s) :
 codeAny (model prog w) A (.call (.builtin "BaseException.__getattribute__") ⟨[.ref x,.str "__class__" tk],[]⟩) R s:=by
 ob ⟨hh,g,d,t,os⟩:=s
 have hf:findObj K D none "__class__" = some (.bind (.builtin "getset_descriptor.__get__") (.builtin "object.__class__")):=by
  ob ⟨cd,hc⟩:=Option.isSome_iff_exists.mp hcd
  unfold findObj
  rw [hc,Option.bind_some,ha,Option.bind_some]
  simp [hn,htk]
 have L0:=I.type (M:=model prog w)
 have L1:=looks_find (M:=model prog w) X I hf
 have L2:=looks_mroIn (M:=model prog w) X hb
 have hk:builtinKind "BaseException.__getattribute__" = some .slot:=by decide +kernel
 have hsplit:splitId "BaseException.__getattribute__" = some ("BaseException", "__getattribute__"):=by decide +kernel
 have hargs:=F.args_bexc_ga (.ref x) (.str "__class__" tk)
 rf codeAny_call_builtin (F.excAttr_ValueError).ga.plain F.entry_bexc_ga ?_
 simp only [checkBuiltinCall,hk,hsplit]
 rf wpAny_bind ?_
 unfold isInstance
 rf wpAny_bind (L0.at ?_)
 rf L2.at ?_
 repeat (any_goals (first | assumption | (rf wpAny_bind (L0.at ?_)) | (rf wpAny_bind (L1.at ?_)) | wp_step))
 rf class_get (s:=⟨hh,g,d,t,os⟩) X I hm ?_
 xt wpAny_pure h
theorem Ay {Q:Option Value→Shared→Prop} (X:K.In s.heap) (I:InstAt s.heap x ox D none) (h:Q (some (.ref D)) { s with toks:=s.toks + 1 }):wpAny (model prog w) A (getAttr? (.ref x) "__class__") Q E s:=by
 ob ⟨hh,g,d,t,os⟩:=s
 have L0:=I.type (M:=model prog w)
 have L1:=looks_findIn (M:=model prog w) X hga
 have L2:=looks_findIn (M:=model prog w) X hgt
 have f3:=(F.excAttr_ValueError).ga.bind (.ref x)
 have hx2:(Value.builtin "BaseException.__getattribute__" == Value.builtin "object.__getattribute__") = false:=by decide +kernel
 have hx1:(onTheHeap (Value.ref D) && Value.builtin "BaseException.__getattribute__" == Value.builtin "object.__getattribute__") = false:=by rw [hx2,Bool.and_false]
 unfold getAttr? getAttrBy? getAttrBy
 rf wpAny_bind (wpAny_mkText (wpAny_bind (wpAny_attempt (wpAny_holding (wpAny_bind (L0.at (wpAny_bind (L1.at ?_))))))))
 dsimp only
 rw [if_neg (by rw [hx1]; xt Bool.false_ne_true)]
 unfold getAttrByItsOwn
 repeat (any_goals (first | assumption | (rf wpAny_bind (L2.at ?_)) | (rf L2.at ?_) | wp_step))
 rf Iw (s:=⟨hh,g,d,t + 1,os⟩) hga hgt hcd ha hn htk hm hb X I ?_
 xt handed_on rfl (wpAny_pure h)
theorem Ih:KitX K (.ref x) (.ref D) (fun h=>∃ ox,InstAt h x ox D none) where
 ty:=fun _ _ _ ⟨_,I⟩=>I.type
 it:=fun _ _ X _=>by
  ob ⟨cd,hc⟩:=Option.isSome_iff_exists.mp hcd
  unfold clsIn at hc
  split at hc
  ·rename_i c' d' cd' sl' ho
   intro A' Q' E' s' k q
   unfold isType loadHead
   xt wpAny_bind (wpAny_loadPart (k _ _ (X _ _ ho)) (wpAny_pure q))
  ·cases hc
 ne:=fun h tp dd its n sl X htp=>by
  ob ⟨cd,hc⟩:=Option.isSome_iff_exists.mp hcd
  rf Bool.eq_false_iff.mpr fun q=>?_
  have e:D = tp:=Value.ref.inj (beq_iff_eq.mp q)
  subst e
  unfold clsIn at hc
  split at hc
  ·rename_i c' d' cd' sl' ho
   have z:=(X _ _ ho).symm.trans htp
   cases z
  ·cases hc
 ca:=fun X ⟨_,I⟩ k=>Ay hga hgt hcd ha hn htk hm hb X I k
end
end PySem.W
namespace L2
open PySem PySem.Spec PyProof.Rows
open A (xn)
theorem Gb {X:Cx}:FPs X [] []:=trivial
theorem gW {X:Cx} {e:Expr} {es:List Expr} {p:St→Hp→Prop} {ps:List (St→Hp→Prop)} (h:FP X e p) (t:FPs X es ps):FPs X (e :: es) (p :: ps):=⟨h,t⟩
structure kj (K:Φ) (D:Addr):Prop where
 ga:PySem.W.findIn K (.ref D) "__getattribute__" = some (some (.builtin "BaseException.__getattribute__"))
 gt:PySem.W.findIn K (.ref D) "__getattr__" = some none
 cd:(PySem.W.clsIn K D).isSome = true
 at_:PySem.W.findIn K (.ref D) "__class__" = some (some (.builtin "object.__class__"))
 gn:PySem.W.specialIn K (.builtin "object.__class__") "__get__" = some (some (.builtin "getset_descriptor.__get__"))
 tk:PySem.W.takesIn K (.builtin "object.__class__") = some true
 mo:PySem.W.mroIn K D (.type "object") = some true
 mb:PySem.W.mroIn K D (.type "BaseException") = some true
section
variable {X:Cx} {pins:List (Addr×Obj)} {σ : St} {H:Hp} {s:Shared}
theorem Inv.instX (I:Inv X pins σ H s) {ea C:Addr} (h:H ea = some (.ext (xn ea C))):∃ ox,PySem.W.InstAt s.heap ea ox C none:=by
 ob ⟨⟨o,h1,h2,h3,vs,h4⟩,_⟩:=(show bY X.prog X.w H s.heap ea (.ext (xn ea C)) from I.hok ea _ h)
 rf ⟨o,h1,h2,?_,by rw [h3]; trivial⟩
 unfold PySem.W.notCls
 rw [h4]
inductive XM:V→Value→Prop
 | own (C:Addr):XM (.ref C) (.ref C)
 | blt (T:String):XM (.ty T) (.type T)
def abE (K:Φ):List V→Hp→VK→Prop:=fun xs H Q=>∃ ea C c c' b,xs = [.ref ea,c]∧H ea = some (.ext (xn ea C))∧kj K C∧XM c c'∧PySem.W.kitOne K (.ref C) c' = some b∧Q (.bl b) H
theorem v7:ir X (.builtin "isinstance") (abE X.K):=by
 intro pins s σ H xs us Q I r h
 ob ⟨ea,C,c,c',b,rfl,he,k,hc,e,q⟩:=h
 ob ⟨u,w',rfl,rx,rt⟩:=vals2 r
 cases (show u = Value.ref ea from rx)
 have hw:w' = c':=by
  cases hc with
  | own C=>xt (show w' = Value.ref C from rt)
  | blt T=>xt (show w' = Value.type T from rt)
 subst hw
 xt PySem.W.kia_one (PySem.W.Ih k.ga k.gt k.cd k.at_ k.gn k.tk k.mo k.mb) I.yw (I.instX he) e (fun z=>nomatch z) fun tk=>⟨.bl b,H,I.tok tk,rfl,q⟩
theorem Ce:∀ {Cs:List Addr} {us:List Value},Vals (Cs.map V.ref) us→us = Cs.map .ref
 | [],_,.nil=>rfl
 | T :: r,_,.cons a t=>by
  have a:_ = Value.ref T:=a
  rw [a,Ce t]; rfl
def Yb (K:Φ):List V→Hp→VK→Prop:=fun xs H Q=>∃ (ea C tp:Addr) (Cs:List Addr) (b:Bool),xs = [.ref ea,.ref tp]∧H tp = some (.tup (Cs.map V.ref))∧H ea = some (.ext (xn ea C))∧kj K C∧PySem.W.kitAny K (.ref C) (Cs.map .ref) = some b∧Q (.bl b) H
theorem De:ir X (.builtin "isinstance") (Yb X.K):=by
 intro pins s σ H xs us Q I r h
 ob ⟨ea,C,tp,Cs,b,rfl,ht,he,k,e,q⟩:=h
 ob ⟨u,w',rfl,rx,rt⟩:=vals2 r
 cases (show u = Value.ref ea from rx)
 cases (show w' = Value.ref tp from rt)
 ob ⟨_,its,rv,o,h1,h2,_,n,h3⟩:=(show bY X.prog X.w H s.heap tp (.tup (Cs.map V.ref)) from I.hok tp _ ht)
 ob rfl:=Ce rv
 ob ⟨c,d,dt,sl⟩:=o
 simp only at h2 h3
 subst h2 h3
 xt PySem.W.kia_tup (PySem.W.Ih k.ga k.gt k.cd k.at_ k.gn k.tk k.mo k.mb) I.yw (I.instX he) h1 e (fun z=>nomatch z) fun tk=>⟨.bl b,H,I.tok tk,rfl,q⟩
end
end L2
namespace Mi
open PySem
def By (i:Nat) (b:String→Option Bool):E:=fun e=>match e[i]? with
 | some (some (.ex c))=>match b c with
  | some k=>.ok (.bl k)
  | none=>.no
 | _=>.no
end Mi
namespace A
open PySem L2 PyProof.Rows So
open Mi (D W Rs Fin lD aq dM Out Tg yE)
variable [Tb:iZ]
section
variable {K:Φ} {M:Nat→Bool} {b:String→Option Bool}
theorem Et:Vs M [] []:=trivial
theorem gQ {g:Mi.Env→Bool} {p:L2.St→Hp→Prop} {gs:List (Mi.Env→Bool)} {ps:List (L2.St→Hp→Prop)} (h:PG M g p) (t:Vs M gs ps):Vs M (g :: gs) (p :: ps):=⟨h,t⟩
theorem TX {i:Nat} {e:Mi.Env} {k:D→Prop} (h:Fin (Mi.By i b e) k):∃ c q,e[i]? = some (some (.ex c))∧b c = some q∧k (.bl q):=by
 unfold Mi.By at h
 split at h
 ·rename_i c hc
  split at h
  ·rename_i q hq
   xt ⟨c,q,hc,hq,h⟩
  ·xt h.elim
 ·xt h.elim
theorem N7 {i:Nat} {c:V} {c':Value} (hm:M i = false) (hc:XM c c') (hb:∀ x k,b x = some k→kj K (Tb.cl x)∧PySem.W.kitOne K (.ref (Tb.cl x)) c' = some k):AE M qV (VP (abE K) (iW (uG i) (iW (tC c) rD))) (Mi.By i b):=fun e σ H Hv Q I h=>by
 ob ⟨x,k,he,hk,q⟩:=TX h
 ob ⟨v,hv,a,rfl,ha⟩:=I.nob i _ he hm
 ob ⟨h1,h2⟩:=hb x k hk
 xt ⟨_,hv,a,_,c,c',k,rfl,I.vw.sub _ _ ha,h1,hc,h2,q _ H Hv (.refl I.vw) gP⟩
def Q8:List Addr→TA
 | []=>rD
 | C :: r=>iW (tC (.ref C)) (Q8 r)
theorem G8:∀ (Cs:List Addr) (σ : L2.St) (H:Hp) (Q:List V→Hp→Prop),Q (Cs.map V.ref) H→Q8 Cs σ H Q
 | [],_,_,_,h=>h
 | C :: r,σ,H,Q,h=>G8 r σ H _ h
theorem Vp {i:Nat} {Cs:List Addr} (hm:M i = false) (hl:Cs.length≤100) (hb:∀ x k,b x = some k→kj K (Tb.cl x)∧PySem.W.kitAny K (.ref (Tb.cl x)) (Cs.map .ref) = some k):AE M qV (VP (Yb K) (iW (uG i) (iW (VM (Q8 Cs)) rD))) (Mi.By i b):=fun e σ H Hv Q I h=>by
 ob ⟨x,k,he,hk,q⟩:=TX h
 ob ⟨v,hv,a,rfl,ha⟩:=I.nob i _ he hm
 ob ⟨h1,h2⟩:=hb x k hk
 rf ⟨_,hv,G8 Cs σ H _ ⟨by rw [List.length_map,sizeLine_eq]; omega,fun p hp=>?_⟩⟩
 have g:cg H Hv (upd H p (.tup (Cs.map V.ref))) (upd Hv p (.tup (Cs.map V.ref))):=.new I.vw hp
 xt ⟨a,_,p,Cs,k,rfl,aU,g.old.at (I.vw.sub _ _ ha) trivial,h1,h2,q _ _ _ g gP⟩
end
end A
namespace Mi
open PySem
def QW (x:Str):Str:=⟨PySem.placed x fun _ c=>Unicode.upperOf c⟩
def K4:D→Rs D
 | .str x=>aK ((QW x).length≤16777216) (.ok (.str (QW x)))
 | _=>.no
end Mi
namespace L2
open PySem PySem.Spec PyProof.Rows
section
variable {X:Cx}
def rUp:V→List V→Hp→VK→Prop:=fun x vs H Q=>∃ y:Str,x = .str y∧vs = []∧(Mi.QW y).length≤sizeLine∧Q (.str (Mi.QW y)) H
theorem S7:Vx X "str.upper" rUp:=by
 intro pins s σ H x vs v us Q I rx rv h
 ob ⟨y,rfl,rfl,hz,q⟩:=h
 ob ⟨t,rfl⟩:=rx
 cases rv
 have hl:PySem.Builtin.Str.tooLong (PySem.placed y fun _ c=>Unicode.upperOf c).size = false:=by
  unfold PySem.Builtin.Str.tooLong
  xt decide_eq_false (Nat.not_lt.mpr hz)
 xt call_gives F.slot_str_upper (typeIs_str s y t) F.entry_str_upper (F.args_str_upper_1 _) (gives_str_upper y t hl) ⟨hz,.str (Mi.QW y),H,I.tok _,⟨_,rfl⟩,q⟩
end
end L2
namespace A
open PySem L2 PyProof.Rows So
open Mi (D W Rs Fin aq)
variable [Tb:iZ]
section
variable {K:Φ} {M:Nat→Bool} {ta:TE} {a:Mi.E}
theorem Xy (ha:AE M qP ta a):AE M qV (abg K "str" rUp ta) (Mi.m1 Mi.K4 a):=fun e σ H Hv Q I h =>
 ha e σ H Hv _ I ((aq.mp h).mono fun x hx v H1 Hv1 g1 rx=>by
  cases x with
  | str y =>
   ob ⟨hz,hk⟩:=Mi.aV (show Fin (Mi.aK ((Mi.QW y).length≤16777216) _) _ from hx)
   cases RD.str rx
   xt ⟨rfl,y,rfl,rfl,by rw [sizeLine_eq]; xt hz,(Mi.gG hk) _ H1 Hv1 g1 wW⟩
  | _=>xt hx.elim)
end
end A
namespace Mi
open PySem
def JD (a b:Str):Bool:=decide (¬ b.cps.toList < a.cps.toList)
def nC (xs:List Str):List Str:=xs.mergeSort JD
def sW:List D→Rs D
 | [.lst ds]=>(pH (my ds)).bind fun ss=>aK (ss.length < 64) (.ok (.lst ((nC ss).map D.str)))
 | _=>.no
theorem rY {α : Type} {le:α→α→Prop} (acR:∀ a b,le a b→le b a→a = b):∀ (l m:List α),l.Perm m→l.Pairwise le→m.Pairwise le→l = m
 | [],m,h,_,_=>h.symm.eq_nil.symm
 | a :: r,[],h,_,_=>nomatch h.eq_nil
 | a :: r,b :: t,h,hl,hm=>by
  have l1:=List.pairwise_cons.mp hl
  have m1:=List.pairwise_cons.mp hm
  have e:a = b:=by
   rcases List.mem_cons.mp (h.mem_iff.mp (List.mem_cons_self ..)) with z | z
   ·xt z
   ·rcases List.mem_cons.mp (h.mem_iff.mpr (List.mem_cons_self ..)) with y | y
    ·xt y.symm
    ·xt acR _ _ (l1.1 b y) (m1.1 a z)
  subst e
  rw [rY acR r t ((List.perm_cons a).mp h) l1.2 m1.2]
theorem qm {a b:Str}:JD a b = true↔a.cps.toList≤b.cps.toList:=by
 unfold JD
 rw [decide_eq_true_iff]; xt Iff.rfl
theorem Zc {x y:Str} (h:x.cps.toList = y.cps.toList):x = y:=by
 ob ⟨x⟩:=x
 ob ⟨y⟩:=y
 xt congrArg Str.mk (Array.toList_inj.mp h)
theorem Tv (a b:Str) (h:JD a b = true) (k:JD b a = true):a = b:=Zc (List.le_antisymm (qm.mp h) (qm.mp k))
theorem CJ (a b c:Str) (h:JD a b = true) (k:JD b c = true):JD a c = true:=qm.mpr (List.le_trans (qm.mp h) (qm.mp k))
theorem Pg (a b:Str):(JD a b || JD b a) = true:=by
 rw [Bool.or_eq_true,qm,qm]; xt List.le_total _ _
theorem mK (xs:List Str):(nC xs).Perm xs:=List.mergeSort_perm xs _
theorem vA (xs:List Str):(nC xs).Pairwise fun a b=>JD a b = true:=List.pairwise_mergeSort (fun a b c=>CJ a b c) (fun a b=>Pg a b) xs
theorem Hk {xs ys:List Str} (hp:ys.Perm xs) (hs:ys.Pairwise fun a b=>JD a b = true):ys = nC xs:=rY Tv _ _ (hp.trans (mK xs).symm) hs (vA xs)
theorem Hl {xs ys:List Str}:nC xs = nC ys↔xs.Perm ys:=⟨fun h=>(mK xs).symm.trans (h ▸ mK ys),fun h=>Hk ((mK xs).trans h) (vA xs)⟩
theorem Cq:∀ (l:List Str) (x:Str),PyProof.Rows.risingS x l = true→(x :: l).Pairwise fun a b=>JD a b = true
 | [],x,_=>List.pairwise_singleton ..
 | y :: r,x,h=>by
  have h:(!PySem.Spec.ltCps y.cps.toList x.cps.toList && PyProof.Rows.risingS y r) = true:=h
  rw [Bool.and_eq_true,PyProof.Rows.ltCps_eq] at h
  have k:JD x y = true:=by
   unfold JD
   have:=h.1
   simpa using this
  have t:=Cq r y h.2
  rf List.pairwise_cons.mpr ⟨fun z hz=>?_,t⟩
  rcases List.mem_cons.mp hz with rfl | hz
  ·xt k
  ·xt CJ _ _ _ k ((List.pairwise_cons.mp t).1 z hz)
theorem Oi:∀ l:List Str,PyProof.Rows.sortedS l = true→l.Pairwise fun a b=>JD a b = true
 | [],_=>List.Pairwise.nil
 | x :: r,h=>Cq r x h
end Mi
namespace L2
open PySem PySem.Spec PyProof.Rows
section
variable {X:Cx}
theorem vh:∀ {ss:List Str} {its:List Value},Vals (ss.map V.str) its→StrsAre its ss
 | [],_,.nil=>.nil
 | n :: r,_,.cons h t=>by
  ob ⟨t1,rfl⟩:=h
  xt .cons n t1 (vh t)
theorem vp:∀ {ss:List Str} {its:List Value},StrsAre its ss→Vals (ss.map V.str) its
 | [],_,.nil=>.nil
 | _ :: _,_,.cons y t r=>.cons ⟨t,rfl⟩ (vp r)
end
end L2
namespace A
open PySem L2 PyProof.Rows So
open Mi (D W Rs Fin aq)
variable [Tb:iZ]
section
variable {X:Cx}
def Rx:List V→Hp→VK→Prop:=fun vs H Q=>∃ (a:Addr) (ss:List Str),vs = [.ref a]∧Lst H a (ss.map V.str)∧ss.length < 64∧∀ p,H p = none→Q (.ref p) (upd H p (.lst ((Mi.nC ss).map V.str)))
theorem Bc:ir X (.builtin "sorted") Rx:=by
 intro pins s σ H xs us Q I r h
 ob ⟨a,ss,rfl,hl,h64,q⟩:=h
 ob ⟨u,rfl,ru⟩:=vals1 r
 cases (show u = Value.ref a from ru)
 ob ⟨its,n0,rv,hz,ho⟩:=Tj I hl
 have hli:=rv.length
 rw [List.length_map] at hli
 rf sorted_strs (vs:=its) (ss:=ss) ⟨_,ho,rfl,_,rfl⟩ (vh rv) ω fun out ss' a1 a2 a3=>?_
 ob ⟨e1,he⟩:=sortedAll_at s.heap its out
 have e:=Mi.Hk a2 (Mi.Oi ss' a3)
 subst e
 have fr:H (s.heap.objs.size + 1) = none:=I.hok.fresh (Nat.le_succ _)
 rf ⟨.ref (s.heap.objs.size + 1),_,adopt (fp:=[s.heap.objs.size + 1]) (D:=s.heap.objs.size + 1) (o:=.lst ((Mi.nC ss).map V.str)) (t':=s.toks) I (fun b hb=>?_) (List.mem_singleton.mpr rfl) (fun b u _ q=>sortedAll_old q) ⟨?_,out.toList,e1,vp a1,he⟩,rfl,q _ fr⟩
 ·rw [List.mem_singleton.mp hb]
  xt I.uR (Nat.le_succ _) fr
 ·rw [List.length_map,(Mi.mK ss).length_eq,sizeLine_eq]; omega
end
theorem Cr {Hv:Hp}:∀ {ds:List D} {ss:List Str} {xs:List V},Mi.my ds = some ss→P2 (Rep Hv) ds xs→ds = ss.map D.str∧xs = ss.map V.str
 | [],ss,_,h,.nil=>by cases h; xt ⟨rfl,rfl⟩
 | d :: r,ss,_,h,.cons k t=>by
  cases d with
  | str z =>
   rw [Mi.my] at h
   cases e:Mi.my r with
   | none=>rw [e] at h; cases h
   | some q =>
    rw [e] at h
    cases h
    ob ⟨h1,h2⟩:=Cr e t
    rw [lU.mp k,h1,h2]; xt ⟨rfl,rfl⟩
  | _=>simp [Mi.my] at h
theorem Nx:BN qN Rx Mi.sW:=fun ds vs H Hv Q vw r h=>by
 match ds,r,h with
 | [.lst ds],r,h =>
  ob ⟨v,ev,rr⟩:=mW r
  subst ev
  ob ⟨p,xs,rfl,l1,r1⟩:=RD.lst vw rr
  have h:=aq.mp h
  cases e:Mi.my ds with
  | none=>rw [e] at h; xt h.elim
  | some ss =>
   rw [e] at h
   ob ⟨h64,h⟩:=Mi.aV (show Fin (Mi.aK (ss.length < 64) _) _ from h)
   ob ⟨e1,e2⟩:=Cr e r1
   subst e2
   rf ⟨p,ss,rfl,l1,h64,fun a ha=>?_⟩
   have r2:P2 (Rep Hv) ((Mi.nC ss).map D.str) ((Mi.nC ss).map V.str):=by
    generalize Mi.nC ss = l
    induction l with
    | nil=>xt .nil
    | cons a r ih=>xt .cons (lU.mpr rfl) ih
   ob ⟨g,k⟩:=Ff vw r2 ha
   xt (Mi.gG h) _ _ _ g k
 | [],_,h=>xt h.elim
 | [.non],_,h=>xt h.elim
 | [.bl _],_,h=>xt h.elim
 | [.int _],_,h=>xt h.elim
 | [.str _],_,h=>xt h.elim
 | [.tup _],_,h=>xt h.elim
 | d :: _ :: _,_,h=>cases d <;> xt (show False from h).elim
end A
notation:max "§" x:max=>Option.some (Mi.W.d x)
namespace Mr
open PySem Mi
def m8:S :=
 (nu (uh (mV 1)) (.n 2)
 (iz (cB (m2 dB (mV 2) (mV 0)))
 ji
 bB))
def bh:Fn:=vf 2 3 m8
def yq:S :=
 (aY (rT (aZ bh [(wD (m2 dU (mV 0) (mC (.int 0)))),(wD (mN gm [(mV 1)]))]))
 (dJ (wD (mN oF [(fL [some 1,none,none] (uh (m2 dU (mV 0) (mC (.int 1)))) (.t [1,2]) (cB (m2 sS (mV 2) (mV 0))) (mV 1))]))))
def cJ:Fn:=vf 2 2 yq
def uC:S :=
 (aY (nu (uh (m2 dU (mV 0) (mC (.int 0)))) (.n 2)
 (iz (sU (cB (m2 dB (mV 2) (mV 1))) (cB (mN Qs [(fL [some 1,none] (uh (aZ cJ [(wD (mV 0)),(wD (mV 2))])) (.n 1) jq (m2 Qc (mV 1) (mV 0)))])))
 (dJ (wD (mV 2)))
 bB))
 (dJ (wD (mC .non))))
def cX:Fn:=vf 2 3 uC
def Dr:S :=
 (aY (bZ 1 (mN gm []))
 (aY (bZ 2 (qj cX [(wD (mV 0)),(wD (mV 1))]))
 (aY (El 100 (cB (m2 Bb (mV 2) (mC .non)))
 (aY (bV 1 (mV 2))
 (bZ 2 (qj cX [(wD (mV 0)),(wD (mV 1))]))))
 (dJ (wV 1)))))
def pL:Fn:=JF 1 3 Dr
def Dn:S :=
 (aY (bZ 2 (mC (.str "etaoinshrdlucmfwypvbgkqjxz")))
 (aY (iz (cB (m2 BR (m2 bT (mV 0) (mC (.int 4))) (mC (.int 2))))
 (aY (bZ 3 (m2 Nr (mC (.str "")) (fL [some 2,some 0,none] (gF (mC (.int 8))) (.n 2) jq (m2 dU (mV 0) (m2 bT (m2 dC (mV 1) (m2 dj (mC (.int 4)) (m2 cQ (mC (.int 3)) (mV 2)))) (mC (.int 26)))))))
 (aY (iz (cB (m2 sS (m2 bT (mV 0) (mC (.int 4))) (mC (.int 0))))
 (dJ (wD (fL [some 3,none] (gF (mV 1)) (.n 1) jq (qU IV (mV 0) none (some (m2 dj (mV 1) (mC (.int 1))))))))
 bB)
 (dJ (wD (fL [some 3,none] (gF (mV 1)) (.n 1) jq (qU IV (mV 0) (some (m2 yz (mC (.int 7)) (mV 1))) none))))))
 bB)
 (aY (bZ 4 (m2 bT (m2 dC (mV 0) (mC (.int 4))) (mC (.int 8))))
 (aY (bZ 5 (m2 Nr (mC (.str "")) (fL [some 2,some 0,none] (gF (mV 4)) (.n 2) jq (m2 dU (mV 0) (m2 bT (m2 dj (m2 dj (m2 dC (mV 1) (mC (.int 32))) (m2 cQ (mC (.int 5)) (mV 2))) (m2 cQ (mV 2) (mV 2))) (mC (.int 26)))))))
 (aY (bZ 6 (m2 bT (m2 dC (mV 0) (mC (.int 256))) (m2 dj (mV 4) (mC (.int 1)))))
 (dJ (wD (fL [some 5,some 2,some 6,some 0,none] (gF (mV 1)) (.n 4) jq (m2 dj (m2 dj (qU IV (mV 0) none (some (mV 2))) (m2 dU (mV 1) (m2 bT (m2 dj (m2 dC (mV 3) (mC (.int 7))) (m2 cQ (mC (.int 5)) (mV 4))) (mC (.int 26))))) (qU IV (mV 0) (some (mV 2)) none))))))))))
def pI:Fn:=JF 2 7 Dn
def Jj:S :=
 (aY (iz (cB (m2 BR (mV 1) (mN iR [(mV 0)])))
 (dJ (wD (m2 dU (mV 0) (mV 1))))
 bB)
 (aY (bZ 2 (m2 dj (mC (.int 30011)) (m2 cQ (m2 cQ (mC (.int 709)) (mV 1)) (mV 1))))
 (aY (iz (cB (m2 dGt (mN iR [(mV 0)]) (mC (.int 0))))
 (bZ 2 (m2 dj (mV 2) (m2 cQ (m2 bT (m2 dU (mV 0) (mC (.int 0))) (mC (.int 99991))) (m2 dj (m2 dj (m2 cQ (mV 1) (mV 1)) (m2 cQ (mC (.int 2)) (mV 1))) (mC (.int 5))))))
 bB)
 (dJ (wD (mV 2))))))
def dR:Fn:=vf 2 3 Jj
def ym:S :=
 (aY (bZ 2 (fL [none] (gF (mV 1)) (.n 0) jq (mV 0)))
 (aY (bZ 3 (mN gm []))
 (aY (bZ 4 (m2 bT (mV 0) (mC (.int 2147483647))))
 (aY (nu (gF (mV 1)) (.n 5)
 (aY (bZ 4 (m2 bT (m2 dj (m2 dj (m2 cQ (mV 4) (mC (.int 48271))) (m2 cQ (mC (.int 7)) (mV 5))) (mC (.int 1))) (mC (.int 2147483647))))
 (mO 3 2 (m2 bT (m2 dC (mV 4) (mC (.int 32))) (mN iR [(mV 2)])))))
 (dJ (wV 3))))))
def lg:Fn:=JF 2 6 ym
def Dp:S :=
 (aY (bZ 2 (m2 dj (mC (.int 1)) (m2 bT (aZ dR [(wD (mV 0)),(wD (mC (.int 0)))]) (mV 1))))
 (aY (bZ 3 (aZ pI [(wD (aZ dR [(wD (mV 0)),(wD (mC (.int 1)))])),(wD (mV 2))]))
 (aY (bZ 4 (aZ lg [(wD (aZ dR [(wD (mV 0)),(wD (mC (.int 2)))])),(wD (mV 2))]))
 (aY (bZ 5 (m2 dU (mN gm [(mC (.int 4)),(mC (.int 1)),(mC (.int 2)),(mC (.int 3)),(mC (.int 2)),(mC (.int 3))]) (m2 bT (aZ dR [(wD (mV 0)),(wD (mC (.int 3)))]) (mC (.int 6)))))
 (aY (bZ 6 (mN gm []))
 (aY (nu (gF (mV 2)) (.n 7)
 (nu (gF (mV 2)) (.n 8)
 (aY (bZ 9 (aZ dR [(wD (mV 0)),(wD (m2 dj (m2 dj (mC (.int 4)) (m2 dC (m2 cQ (mN xF [(mV 7),(mV 8)]) (m2 yz (mN xF [(mV 7),(mV 8)]) (mC (.int 1)))) (mC (.int 2)))) (mN BW [(mV 7),(mV 8)])))]))
 (iz (sU (cB (m2 BR (m2 dU (mV 4) (mV 7)) (m2 dU (mV 4) (mV 8)))) (cB (m2 BR (m2 bT (m2 dC (m2 bT (m2 cQ (mV 9) (mC (.int 48271))) (mC (.int 2147483647))) (mC (.int 16))) (mC (.int 4))) (mV 5))))
 (bV 6 (mN dTup [(m2 dU (mV 3) (mV 7)),(m2 dU (mV 3) (mV 8))]))
 bB))))
 (dJ (wD (mN dTup [(mN oF [(mV 3)]),(mN oF [(mV 6)])])))))))))
def pK:Fn:=vf 2 10 Dp
def pQ (F:Fn):S :=
 (aY (iz (QC (cB (m1 (yC ["str"]) (mV 1))) (cB (m1 (yC ["int"]) (mV 1))))
 (aY (iz (QC (cB (m2 GQ (m1 (yC ["bool"]) (mV 0)) (m1 (yC ["bool"]) (mV 1)))) (cB (m2 GQ (m1 (yC ["str"]) (mV 0)) (m1 (yC ["str"]) (mV 1)))))
 (dJ (wD (mC (.bl false))))
 bB)
 (dJ (wD (HW (m1 (yC ["int", "str"]) (mV 0)) (m2 sS (mV 0) (mV 1))))))
 bB)
 (aY (iz (QC (cB (m2 GQ (m1 (yC ["list"]) (mV 0)) (m1 (yC ["list"]) (mV 1)))) (qC (cB (m1 (yC ["list", "tuple"]) (mV 0)))))
 (dJ (wD (mC (.bl false))))
 bB)
 (aY (iz (cB (m2 GQ (mN iR [(mV 0)]) (mN iR [(mV 1)])))
 (dJ (wD (mC (.bl false))))
 bB)
 (aY (nu (KJ (mV 0) (mV 1)) (.t [2,3])
 (iz (qC (cB (aZ F [(wD (mV 2)),(wD (mV 3))])))
 (dJ (wD (mC (.bl false))))
 bB))
 (dJ (wD (mC (.bl true))))))))
def cu:Nat→Fn
 | 0=>fnZ
 | n + 1=>vf 2 4 (pQ (cu n))
def qM:S :=
 (dJ (wD (m2 Gh (aZ cJ [(wD (mV 0)),(wD (mV 2))]) (m2 Uq (aZ cJ [(wD (mV 0)),(wD (mV 1))]) (mN dTup [(mV 1)])))))
def dw:Fn:=vf 3 3 qM
def yo:S :=
 (dJ (wD (fL [some 1,none] (uh (mV 0)) (.n 1) jq (m2 dU (mN gm [(mV 1),(mN dTup [(m2 dU (mV 1) (mC (.int 1))),(m2 dU (mV 1) (mC (.int 0)))])]) (mN Va [(m2 sS (mV 1) (mV 0))])))))
def lq:Fn:=JF 2 2 yo
def Bh:S :=
 (aY (bZ 2 (mN gm []))
 (aY (nu (uh (mV 0)) (.n 3)
 (nu (uh (mV 0)) (.n 4)
 (iz (cB (m2 Qc (mN dTup [(mV 3),(mV 4)]) (mV 1)))
 (bV 2 (mN dTup [(mV 3),(mV 4)]))
 bB)))
 (dJ (wD (mN dTup [(mN oF [(mV 0)]),(mN oF [(mV 2)])])))))
def mY:Fn:=vf 2 5 Bh
def uz:S :=
 (dJ (wD (Fq [0] (mV 1) (fL [some 1,none] (uh (mV 0)) (.n 1) jq (m2 Uo (mV 0) (mV 1))))))
def gr:Fn:=JF 2 2 uz
def Dq:S :=
 (dJ (wD (HW (uO Vv Vv (mC (.int 1)) (mN iR [(mV 0)]) (mC (.int 8))) (mN Qs [(fL [none] (uh (mV 0)) (.n 0) jq (m2 Qc (mV 0) (mC (.str "abcdefghijklmnopqrstuvwxyz"))))]))))
def d9:Fn:=vf 1 1 Dq
def lC:S :=
 (aY (iz (qC (cB (uO Vv Vv (mC (.int 1)) (mN iR [(mV 0)]) (mC (.int 8)))))
 ji
 bB)
 (aY (LK 1 (fun _=>.ok (.dk [])))
 (nu (uh (mV 0)) (.n 2)
 (aY (iz (qC (cB (aZ d9 [(wD (mV 2))])))
 ji
 bB)
 (aY (iz (cB (BJ 1 (mV 2)))
 ji
 bB)
 (lO 1 (mV 2) (mC (.bl true))))))))
def dh:Fn:=vf 1 3 lC
def lB:S :=
 (aY (LK 2 (fun _=>.ok (.dt [])))
 (nu (uh (mV 1)) (.t [3,4])
 (aY (rT (aZ bh [(wD (mV 0)),(wD (mN gm [(mV 3),(mV 4)]))]))
 (aY (iz (cB (m2 sS (mV 3) (mV 4)))
 ji
 bB)
 (aY (iz (cB (BJ 2 (mN dTup [(mV 3),(mV 4)])))
 ji
 bB)
 (aY (lO 2 (mN dTup [(mV 3),(mV 4)]) (mC (.bl true)))
 (lO 2 (mN dTup [(mV 4),(mV 3)]) (mC (.bl true)))))))))
def dg:Fn:=vf 2 5 lB
def uA:S :=
 (aY (bZ 1 (aZ pL [(wD (mV 0))]))
 (aY (bZ 2 (fL [some 1,none] (uh (m2 dU (mV 0) (mC (.int 0)))) (.n 1) (cB (m2 dB (mV 1) (mV 0))) (mV 1)))
 (iz (Xh (mV 2))
 ji
 bB)))
def iY:Fn:=vf 1 3 uA
def Bg:S :=
 (aY (rT (aZ dh [(wD (mV 0))]))
 (aY (rT (aZ dg [(wD (mV 0)),(wD (mV 1))]))
 (aY (bZ 2 (fL [none,none] (uh (mV 1)) (.t [0,1]) jq (mN dTup [(mV 0),(mV 1)])))
 (aY (bZ 3 (mN dTup [(mN oF [(mV 0)]),(mN oF [(aZ gr [(wD (mV 0)),(wD (mV 2))])])]))
 (aY (rT (aZ iY [(wD (mV 3))]))
 (dJ (wD (mV 3))))))))
def gU:Fn:=vf 2 4 Bg
def iQ:S :=
 (nu (iP (uh (mV 1))) (.n 2)
 (iz (cP (cB (m2 dB (mV 2) (mV 0))))
 (rR "NoName" [(gR 2),(fun _=>true)])
 (sP bB)))
def bL:Fn:=vf 2 3 iQ
def v9:S :=
 (aY (bZ 2 (m2 dU (mV 0) (m2 bT (mV 1) (mN iR [(mV 0)]))))
 (aY (bZ 3 (mC (.str "zqxjkvbpygfwmucldrhsnioate")))
 (aY (bZ 4 (mN gm [(m2 dj (mV 2) (m2 dU (mV 3) (m2 bT (m2 dC (mV 1) (mC (.int 8))) (mC (.int 26))))),(qU IV (mV 2) (some (mC (.int 1))) none),(qU IV (mV 2) none (some (m1 W7 (mC (.int 1))))),(m2 dj (m2 dU (mV 3) (m2 bT (m2 dC (mV 1) (mC (.int 5))) (mC (.int 26)))) (mV 2)),(m1 K4 (mV 2))]))
 (aY (bZ 4 (m2 dj (mV 4) (fL [none] (uh (mV 3)) (.n 0) jq (mV 0))))
 (aY (bZ 4 (fL [some 0,none] (uh (mV 4)) (.n 1) (sU (cB (m2 dB (mV 1) (mV 0))) (cB (m2 GQ (mV 1) (mC (.str ""))))) (mV 1)))
 (dJ (wD (m2 dU (mV 4) (m2 bT (m2 dC (mV 1) (mC (.int 3))) (mN BW [(mC (.int 5)),(mN iR [(mV 4)])]))))))))))
def cH:Fn:=vf 2 5 v9
def qL:S :=
 (aY (bZ 2 (mN gm [(m2 bT (aZ dR [(wD (mV 0)),(wD (mC (.int 39)))]) (mC (.int 2147483647)))]))
 (aY (nu (Nh (qU IV (mV 0) (some (mC (.int 40))) (some (mC (.int 63))))) (.t [3,4])
 (iz (cB (m2 BR (mV 3) (m2 yz (mV 1) (mC (.int 1)))))
 (bV 2 (m2 bT (mV 4) (mC (.int 2147483647))))
 (aY (bZ 5 (m2 bT (mV 3) (mV 1)))
 (ou 2 (mV 5) (m2 bT (m2 dj (m2 cQ (m2 dU (mV 2) (mV 5)) (mC (.int 48271))) (mV 4)) (mC (.int 2147483647)))))))
 (dJ (wV 2))))
def gh:Fn:=JF 2 6 qL
def Jh:S :=
 (aY (bZ 2 (mN wg [(m2 dU (mV 0) (mC (.int 0)))]))
 (aY (bZ 3 (mN gm [(m2 dU (mV 2) (m2 bT (mV 1) (mN iR [(mV 2)]))),(m2 dU (mV 2) (m2 bT (m2 dC (mV 1) (mC (.int 8))) (mN iR [(mV 2)])))]))
 (aY (iz (sU (cB (m2 sS (m2 bT (m2 dC (mV 1) (mC (.int 64))) (mC (.int 2))) (mC (.int 1)))) (cB (m2 dGt (mN iR [(m2 dU (mV 0) (mC (.int 1)))]) (mC (.int 0)))))
 (bZ 3 (mN wg [(m2 dU (m2 dU (mV 0) (mC (.int 1))) (m2 bT (m2 dC (mV 1) (mC (.int 128))) (mN iR [(m2 dU (mV 0) (mC (.int 1)))])))]))
 bB)
 (aY (iz (cB (m2 sS (m2 bT (m2 dC (mV 1) (mC (.int 4096))) (mC (.int 6))) (mC (.int 1))))
 (ou 3 (m2 bT (m2 dC (mV 1) (mC (.int 5))) (mC (.int 2))) (aZ cH [(wD (mV 2)),(wD (m2 dC (mV 1) (mC (.int 7))))]))
 bB)
 (aY (iz (cB (m2 sS (m2 bT (m2 dC (mV 1) (mC (.int 4096))) (mC (.int 6))) (mC (.int 2))))
 (bZ 3 (mN gm [(aZ cH [(wD (mV 2)),(wD (m2 dC (mV 1) (mC (.int 9))))]),(aZ cH [(wD (mV 2)),(wD (m2 dC (mV 1) (mC (.int 11))))])]))
 bB)
 (dJ (wV 3)))))))
def pJ:Fn:=JF 2 4 Jh
def v8:S :=
 (aY (Rp (.t [3,4]) (mV 0))
 (aY (rT (aZ bh [(wD (mV 3)),(wD (mN gm [(mV 1),(mV 2)]))]))
 (aY (iz (cB (m2 dB (mN dTup [(mV 1),(mV 2)]) (mV 4)))
 ji
 bB)
 (aY (iz (qC (cB (aZ dw [(wD (mV 0)),(wD (mV 1)),(wD (mV 2))])))
 ji
 bB)
 (aY (bZ 5 (fL [some 1,some 2,none] (uh (mV 4)) (.n 2) (cB (m2 GQ (mV 2) (mN dTup [(mV 0),(mV 1)]))) (mV 2)))
 (dJ (wD (aZ gU [(wD (mV 3)),(wD (m2 dj (mV 5) (mN gm [(mN dTup [(mV 2),(mV 1)])])))]))))))))
def iC:Fn:=vf 3 6 v8
def kW:S :=
 (aY (sP (Rp (.t [3,4]) (mV 0)))
 (aY (mL bL [(wD (mV 3)),(wD (mN gm [(mV 1),(mV 2)]))])
 (aY (iz (cP (cB (m2 dB (mN dTup [(mV 1),(mV 2)]) (mV 4))))
 (rR "NoArrow" [(fun _=>true),(gR 1),(fun _=>true),(gR 2)])
 (sP bB))
 (aY (iz (cP (qC (cB (aZ dw [(wD (mV 0)),(wD (mV 1)),(wD (mV 2))]))))
 (rR "Locked" [(fun _=>true),(gR 1),(fun _=>true),(gR 2),(fun _=>true)])
 (sP bB))
 (aY (sP (bZ 5 (fL [some 1,some 2,none] (uh (mV 4)) (.n 2) (cB (m2 GQ (mV 2) (mN dTup [(mV 0),(mV 1)]))) (mV 2))))
 (sP (dJ (wD (aZ gU [(wD (mV 3)),(wD (m2 dj (mV 5) (mN gm [(mN dTup [(mV 2),(mV 1)])])))])))))))))
def cD:Fn:=vf 3 6 kW
def Bj:S :=
 (dJ (wD (fL [some 1,none,none] (uh (mV 0)) (.t [1,2]) (cB (m2 sS (mV 2) (mV 0))) (mV 1))))
def fc:Fn:=JF 2 2 Bj
def yp:S :=
 (aY (bZ 1 (mN gm []))
 (aY (nu (uh (mV 0)) (.t [2,3])
 (iz (cB (m2 sS (mN sW [(aZ fc [(wD (mV 0)),(wD (mV 3))])]) (mN sW [(m2 dj (aZ fc [(wD (mV 0)),(wD (mV 2))]) (mN gm [(mV 2)]))])))
 (bV 1 (mN dTup [(mV 2),(mV 3)]))
 bB))
 (dJ (wV 1))))
def ju:Fn:=JF 1 4 yp
def Ji:S :=
 (aY (bZ 1 (mN gm []))
 (aY (iz (cB (By 0 (fun c=>([("NoName", false),("NoArrow", false),("Locked", false)]:List (String×Bool)).lookup c)))
 (bV 1 (mC (.str "one of the others")))
 bB)
 (aY (iz (cB (By 0 (fun c=>([("NoName", false),("NoArrow", false),("Locked", false)]:List (String×Bool)).lookup c)))
 (bV 1 (mC (.str "one of the others")))
 bB)
 (aY (iz (cB (By 0 (fun c=>([("NoName", false),("NoArrow", false),("Locked", true)]:List (String×Bool)).lookup c)))
 (bV 1 (mC (.str "Locked")))
 bB)
 (aY (iz (cB (By 0 (fun c=>([("NoName", false),("NoArrow", true),("Locked", false)]:List (String×Bool)).lookup c)))
 (bV 1 (mC (.str "NoArrow")))
 bB)
 (aY (iz (cB (By 0 (fun c=>([("NoName", true),("NoArrow", false),("Locked", false)]:List (String×Bool)).lookup c)))
 (bV 1 (mC (.str "NoName")))
 bB)
 (aY (iz (qC (cB (By 0 (fun c=>([("NoName", true),("NoArrow", true),("Locked", true)]:List (String×Bool)).lookup c))))
 (bV 1 (mC (.str "no ValueError")))
 bB)
 (dJ (wV 1)))))))))
def fQ:Fn:=JF 1 2 Ji
def uB:S :=
 (aY (bZ 3 (mN gm []))
 (aY (Rn 4 ["NoName", "NoArrow", "Locked"]
 (mL cD [(wD (mV 0)),(wD (mV 1)),(wD (mV 2))])
 (bZ 3 (aZ fQ [(wV 4)])))
 (dJ (wD (mV 3)))))
def cW:Fn:=vf 3 5 uB
def sV:S :=
 (aY (iz (QC (cB (m2 dB (mV 1) (m2 dU (mV 0) (mC (.int 0))))) (cB (m2 dB (mV 2) (m2 dU (mV 0) (mC (.int 0))))))
 (dJ (wD (m2 sS (aZ cW [(wD (mV 0)),(wD (mV 1)),(wD (mV 2))]) (mN gm [(mC (.str "NoName"))]))))
 bB)
 (aY (iz (cB (m2 dB (mN dTup [(mV 1),(mV 2)]) (m2 dU (mV 0) (mC (.int 1)))))
 (dJ (wD (m2 sS (aZ cW [(wD (mV 0)),(wD (mV 1)),(wD (mV 2))]) (mN gm [(mC (.str "NoArrow"))]))))
 bB)
 (aY (iz (cB (m2 dB (mN dTup [(mV 1),(mV 2)]) (aZ ju [(wD (mN wg [(m2 dU (mV 0) (mC (.int 1)))]))])))
 (dJ (wD (m2 sS (aZ cW [(wD (mV 0)),(wD (mV 1)),(wD (mV 2))]) (mN gm [(mC (.str "Locked"))]))))
 bB)
 (aY (bZ 3 (aZ mY [(wD (m2 dU (mV 0) (mC (.int 0)))),(wD (aZ lq [(wD (mN wg [(m2 dU (mV 0) (mC (.int 1)))])),(wD (mN dTup [(mV 1),(mV 2)]))]))]))
 (aY (bZ 4 (aZ iC [(wD (mV 0)),(wD (mV 1)),(wD (mV 2))]))
 (dJ (wD (HW (aZ (cu 4) [(wD (mV 4)),(wD (mV 3))]) (aZ (cu 4) [(wD (aZ iC [(wD (mV 3)),(wD (mV 2)),(wD (mV 1))])),(wD (mV 0))])))))))))
def fK:Fn:=vf 3 5 sV
def Dm:S :=
 (aY (bZ 1 (aZ pK [(wD (mV 0)),(wD (mC (.int 8)))]))
 (aY (nu (uh (aZ gh [(wD (mV 0)),(wD (mC (.int 6)))])) (.n 2)
 (aY (bZ 3 (aZ pJ [(wD (mV 1)),(wD (mV 2))]))
 (iz (qC (cB (aZ fK [(wD (mV 1)),(wD (m2 dU (mV 3) (mC (.int 0)))),(wD (m2 dU (mV 3) (mC (.int 1))))])))
 (dJ (wD (mC (.bl false))))
 bB)))
 (dJ (wD (mC (.bl true))))))
def wZ:Fn:=vf 1 4 Dm
end Mr
namespace Jx
open PySem L2 PyProof.Rows A
open Mr
def WK (x:Str):Str:=x ++ ".<locals>." ++ "<lambda>"
def top (i:Nat):Stmt:=PySem.Challenge.pw_arrowfind_k31_turned_and_refused.main.body.getD i (.Pass ⟨0,0,0,0⟩)
structure Txt (mg:Str→Option Value):Prop where
 fO:mg "len" = none
 mq:mg "range" = none
 Jg:mg "max" = none
 Jf:mg "min" = none
 fG:mg "tuple" = none
 lK:mg "list" = none
 bI:mg "isinstance" = none
 Jm:mg "all" = none
 aeL:mg "any" = none
 U3:mg "bool" = none
 Nv:mg "str" = none
 Jk:mg "int" = none
 acM:mg "zip" = none
 Jl:mg "enumerate" = none
 Be:mg "sorted" = none
 aaC:mg "reversed" = none
 YC:mg "set" = none
 Qo:∃ t,mg "LETTERS" = some (.str "abcdefghijklmnopqrstuvwxyz" t)
 Bd:∃ t,mg "MOST_LETTERS" = some (.int 8 t)
 Gp:∃ t,mg "MOST_NAMES" = some (.int 8 t)
section
variable [Tb:iZ]
structure Own (mg:Str→Option Value) (base:Heap):Prop where
 Wr:OwnCls "ArrowError" (Tb.cl "ArrowError") Θ "ValueError.__new__" mg base
 Yk:OwnCls "WrongSize" (Tb.cl "WrongSize") Θ "ValueError.__new__" mg base
 abV:OwnCls "NoWord" (Tb.cl "NoWord") Θ "ValueError.__new__" mg base
 ac8:OwnCls "Twice" (Tb.cl "Twice") Θ "ValueError.__new__" mg base
 Sx:OwnCls "NoName" (Tb.cl "NoName") Θ "ValueError.__new__" mg base
 abU:OwnCls "Unlike" (Tb.cl "Unlike") Θ "ValueError.__new__" mg base
 O8:OwnCls "NoArrow" (Tb.cl "NoArrow") Θ "ValueError.__new__" mg base
 Sy:OwnCls "Locked" (Tb.cl "Locked") Θ "ValueError.__new__" mg base
 ac9:OwnCls "NoTie" (Tb.cl "NoTie") Θ "ValueError.__new__" mg base
 abX:OwnCls "NoSuch" (Tb.cl "NoSuch") Θ "ValueError.__new__" mg base
 abW:OwnCls "NoText" (Tb.cl "NoText") Θ "ValueError.__new__" mg base
 ada:OwnCls "NoRow" (Tb.cl "NoRow") Θ "ValueError.__new__" mg base
 aaX:OwnCls "NoLabel" (Tb.cl "NoLabel") Θ "ValueError.__new__" mg base
 Gq:mg "ArrowError" = some (.ref (Tb.cl "ArrowError"))
 Jo:mg "WrongSize" = some (.ref (Tb.cl "WrongSize"))
 U5:mg "NoWord" = some (.ref (Tb.cl "NoWord"))
 Xl:mg "Twice" = some (.ref (Tb.cl "Twice"))
 U8:mg "NoName" = some (.ref (Tb.cl "NoName"))
 aaF:mg "Ring" = some (.ref (Tb.cl "Ring"))
 U4:mg "Unlike" = some (.ref (Tb.cl "Unlike"))
 Qq:mg "NoArrow" = some (.ref (Tb.cl "NoArrow"))
 U9:mg "Locked" = some (.ref (Tb.cl "Locked"))
 Xm:mg "NoTie" = some (.ref (Tb.cl "NoTie"))
 U7:mg "NoSuch" = some (.ref (Tb.cl "NoSuch"))
 Xo:mg "NoNet" = some (.ref (Tb.cl "NoNet"))
 U6:mg "NoText" = some (.ref (Tb.cl "NoText"))
 Xn:mg "NoRow" = some (.ref (Tb.cl "NoRow"))
 Qp:mg "NoLabel" = some (.ref (Tb.cl "NoLabel"))
 Fg:mg "ValueError" = none
end
section
variable {P:Program} {w:World} {K:Φ} {mg:Str→Option Value} {base:Heap} [Tb:iZ]
structure Kit (K:Φ):Prop where
 FJ:∀ x k,(fun c=>([("NoName", true),("NoArrow", true),("Locked", true)]:List (String×Bool)).lookup c) x = some k→kj K (Tb.cl x)∧PySem.W.kitOne K (.ref (Tb.cl x)) (.type "ValueError") = some k
 TF:∀ x k,(fun c=>([("NoName", true),("NoArrow", false),("Locked", false)]:List (String×Bool)).lookup c) x = some k→kj K (Tb.cl x)∧PySem.W.kitOne K (.ref (Tb.cl x)) (.ref (Tb.cl "NoName")) = some k
 Pu:∀ x k,(fun c=>([("NoName", false),("NoArrow", true),("Locked", false)]:List (String×Bool)).lookup c) x = some k→kj K (Tb.cl x)∧PySem.W.kitOne K (.ref (Tb.cl x)) (.ref (Tb.cl "NoArrow")) = some k
 TJ:∀ x k,(fun c=>([("NoName", false),("NoArrow", false),("Locked", true)]:List (String×Bool)).lookup c) x = some k→kj K (Tb.cl x)∧PySem.W.kitOne K (.ref (Tb.cl x)) (.ref (Tb.cl "Locked")) = some k
 iM:∀ x k,(fun c=>([("NoName", false),("NoArrow", false),("Locked", false)]:List (String×Bool)).lookup c) x = some k→kj K (Tb.cl x)∧PySem.W.kitAny K (.ref (Tb.cl x)) (([Tb.cl "NoWord", Tb.cl "Ring", Tb.cl "Twice", Tb.cl "Unlike", Tb.cl "WrongSize"]:List Addr).map .ref) = some k
 gj:∀ x k,(fun c=>([("NoName", false),("NoArrow", false),("Locked", false)]:List (String×Bool)).lookup c) x = some k→kj K (Tb.cl x)∧PySem.W.kitAny K (.ref (Tb.cl x)) (([Tb.cl "NoLabel", Tb.cl "NoNet", Tb.cl "NoRow", Tb.cl "NoSuch", Tb.cl "NoText", Tb.cl "NoTie"]:List Addr).map .ref) = some k
 Fp:∀ C,(∃ c∈(["NoName", "NoArrow", "Locked"]:List String),C = Tb.cl c)→PySem.W.exmOne K (.ref C) (.ref (Tb.cl "ArrowError")) = some true
abbrev zK:Stmt:=top 36
theorem Cp:bG ["_law_script", "_law_k", "_law_spare"] ["_law_script", "_law_k"] (aQ zK):=Ξ
theorem O6 {f:Addr} {fd:FuncData} (F:oG K "_law_cell" "_law_cell" zK f fd) (T:Txt mg)  : cY P w K mg base dF 1 f fd ["_law_script", "_law_k"] (lF dR) :=
 F.ok Cp (fun vs H Q E h=>qX h) (fun cdv A outer s H vs Q E hr h=>by
  have nd:=Cp.nd
  have hu:=eV hr
  have bW:=hr.units
  xt ⟨_,(az (cF (bF zU (pv 1) (bc dN rfl T.fO PySem.boot_len (aj (pv 0) au)) (cG _))
 (aF (bK (cO bN (pv 0) (pv 1) (fun _ _=>rfl))))
 bu)
 (az (bH (i:=2) nd rfl Υ (aW cz aH (aW jH (aW jH aH (pv 1)) (pv 1))))
 (az (cF (bF R8 (bc dN rfl T.fO PySem.boot_len (aj (pv 0) au)) aH (cG _))
 (aF (bH (i:=2) nd rfl Υ (aW cz (pv 2) (aW jH (aW cA (cO bN (pv 0) aH (fun _ _=>rfl)) aH) (aW cz (aW cz (aW jH (pv 1) (pv 1)) (aW jH aH (pv 1))) aH)))))
 bu)
 (aF (bK (pv 2)))))),
  _root_.A.qQ (N:=["_law_script", "_law_k", "_law_spare"]) (M:=Mo []) (aL (cV (bC (AE.p (aB U0 (AE.p (ao 1 rfl)) (AE.p (iT fO (aA (AE.p (ao 0 rfl)) aO))))))
 (dm (AE.w (aB gB (AE.p (ao 0 rfl)) (AE.p (ao 1 rfl)))))
 bw)
 (aL (bO 2 rfl (aB gH (AE.p aN) (AE.p (aB nP (AE.p (aB nP (AE.p aN) (AE.p (ao 1 rfl)))) (AE.p (ao 1 rfl))))))
 (aL (cV (bC (AE.p (aB acO (AE.p (iT fO (aA (AE.p (ao 0 rfl)) aO))) (AE.p aN))))
 (bO 2 rfl (aB gH (AE.p (ao 2 rfl)) (AE.p (aB nP (AE.p (aB dZ (AE.p (aB gB (AE.p (ao 0 rfl)) (AE.p aN))) (AE.p aN))) (AE.p (aB gH (AE.p (aB gH (AE.p (aB nP (AE.p (ao 1 rfl)) (AE.p (ao 1 rfl)))) (AE.p (aB nP (AE.p aN) (AE.p (ao 1 rfl)))))) (AE.p aN)))))))
 bw)
 (dm (AE.w (ao 2 rfl)))))) δ h⟩)
abbrev wI:Stmt:=top 37
theorem zA:bG ["_law_cell_here", "_law_many", "_law_letters", "_law_long", "_law_size", "_law_stem", "_law_at"] ["_law_cell_here", "_law_many"] (aQ wI):=Ξ
theorem Kc {f:Addr} {fd:FuncData} (F:oG K "_law_words" "_law_words" wI f fd) (T:Txt mg)  : cY P w K mg base dF 1 f fd ["_law_cell_here", "_law_many"] (yF pI) :=
 F.ok zA (fun vs H Q E h=>BK h) (fun cdv A outer s H vs Q E hr h=>by
  have nd:=zA.nd
  have hu:=eV hr
  have bW:=hr.units
  xt ⟨_,(az (bH (i:=2) nd rfl (Or.inr rfl) jm)
 (az (cF (bF zU (aW cA (pv 0) aH) aH (cG _))
 (az (bH (i:=3) nd rfl (Or.inr rfl) (mU PySem.F.plainAttrs_str PySem.F.slot_str_join PySem.F.type_str_join Mq jm (aj (jg (N':=["_law_letters", "_law_cell_here", "_law_k"]) (ρ:=[some 2,some 0,none]) rfl (dW.of rfl (by kernel_rfl)) (iB rfl T.mq (aj aH au)) (fun _ _ _ _ _=>(bf (i:=2) (by show (["_law_letters", "_law_cell_here", "_law_k"]:List Str).Nodup; decide +kernel) rfl Υ)) (fX rfl) (fun _ _ _ _ _=>jf) (fun _ _ _ _ _=>(cO bN (pv 0) (aW cA (aW cj (pv 1) (aW cz aH (aW jH aH (pv 2)))) aH) (fun _ _=>rfl)))) au)))
 (az (cF (bF (jY bW) (aW cA (pv 0) aH) aH (cG _))
 (aF (bK (jg (N':=["_law_long", "_law_k"]) (ρ:=[some 3,none]) rfl (dW.of rfl (by kernel_rfl)) (iB rfl T.mq (aj (pv 1) au)) (fun _ _ _ _ _=>(bf (i:=1) (by show (["_law_long", "_law_k"]:List Str).Nodup; decide +kernel) rfl Υ)) (fX rfl) (fun _ _ _ _ _=>jf) (fun _ _ _ _ _=>(mR JW (pv 0) tQ (nG (aW cz (pv 1) aH)))))))
 bu)
 (aF (bK (jg (N':=["_law_long", "_law_k"]) (ρ:=[some 3,none]) rfl (dW.of rfl (by kernel_rfl)) (iB rfl T.mq (aj (pv 1) au)) (fun _ _ _ _ _=>(bf (i:=1) (by show (["_law_long", "_law_k"]:List Str).Nodup; decide +kernel) rfl Υ)) (fX rfl) (fun _ _ _ _ _=>jf) (fun _ _ _ _ _=>(mR JW (pv 0) (nG (aW J8 aH (pv 1))) tQ)))))))
 bu)
 (az (bH (i:=4) nd rfl Υ (aW cA (aW cj (pv 0) aH) aH))
 (az (bH (i:=5) nd rfl (Or.inr rfl) (mU PySem.F.plainAttrs_str PySem.F.slot_str_join PySem.F.type_str_join Mq jm (aj (jg (N':=["_law_letters", "_law_cell_here", "_law_k"]) (ρ:=[some 2,some 0,none]) rfl (dW.of rfl (by kernel_rfl)) (iB rfl T.mq (aj (pv 4) au)) (fun _ _ _ _ _=>(bf (i:=2) (by show (["_law_letters", "_law_cell_here", "_law_k"]:List Str).Nodup; decide +kernel) rfl Υ)) (fX rfl) (fun _ _ _ _ _=>jf) (fun _ _ _ _ _=>(cO bN (pv 0) (aW cA (aW cz (aW cz (aW cj (pv 1) aH) (aW jH aH (pv 2))) (aW jH (pv 2) (pv 2))) aH) (fun _ _=>rfl)))) au)))
 (az (bH (i:=6) nd rfl (Or.inr rfl) (aW cA (aW cj (pv 0) aH) (aW cz (pv 4) aH)))
 (aF (bK (jg (N':=["_law_stem", "_law_letters", "_law_at", "_law_cell_here", "_law_k"]) (ρ:=[some 5,some 2,some 6,some 0,none]) rfl (dW.of rfl (by kernel_rfl)) (iB rfl T.mq (aj (pv 1) au)) (fun _ _ _ _ _=>(bf (i:=4) (by show (["_law_stem", "_law_letters", "_law_at", "_law_cell_here", "_law_k"]:List Str).Nodup; decide +kernel) rfl Υ)) (fX rfl) (fun _ _ _ _ _=>jf) (fun _ _ _ _ _=>(aW cz (aW cz (mR JW (pv 0) tQ (nG (pv 2))) (cO bN (pv 1) (aW cA (aW cz (aW cj (pv 3) aH) (aW jH aH (pv 4))) aH) (fun _ _=>rfl))) (mR JW (pv 0) (nG (pv 2)) tQ))))))))))),
  _root_.A.runN (N:=["_law_cell_here", "_law_many", "_law_letters", "_law_long", "_law_size", "_law_stem", "_law_at"]) (M:=Mo []) (aL (bO 2 rfl ni)
 (aL (cV (bC (AE.p (aB U0 (AE.p (aB dZ (AE.p (ao 0 rfl)) (AE.p aN))) (AE.p aN))))
 (aL (bO 3 rfl (Vo (AE.p ni) (AE.np (gC (K:=K) (tg:=(.n 2)) (Ob.c (iH (AE.p aN))) δ lL (aB gB (AE.p (ao 0 rfl)) (AE.p (aB dZ (AE.p (aB jz (AE.p (ao 1 rfl)) (AE.p (aB gH (AE.p aN) (AE.p (aB nP (AE.p aN) (AE.p (ao 2 rfl)))))))) (AE.p aN))))))))
 (aL (cV (bC (AE.p (aB xu (AE.p (aB dZ (AE.p (ao 0 rfl)) (AE.p aN))) (AE.p aN))))
 (t7 (AE.w (gC (K:=K) (tg:=(.n 1)) (Ob.c (iH (AE.p (ao 1 rfl)))) δ lL (Li Bf (AE.p (ao 0 rfl)) ue (nQ (AE.p (aB gH (AE.p (ao 1 rfl)) (AE.p aN))))))))
 bw)
 (t7 (AE.w (gC (K:=K) (tg:=(.n 1)) (Ob.c (iH (AE.p (ao 1 rfl)))) δ lL (Li Bf (AE.p (ao 0 rfl)) (nQ (AE.p (aB UW (AE.p aN) (AE.p (ao 1 rfl))))) ue))))))
 bw)
 (aL (bO 4 rfl (aB dZ (AE.p (aB jz (AE.p (ao 0 rfl)) (AE.p aN))) (AE.p aN)))
 (aL (bO 5 rfl (Vo (AE.p ni) (AE.np (gC (K:=K) (tg:=(.n 2)) (Ob.c (iH (AE.p (ao 4 rfl)))) δ lL (aB gB (AE.p (ao 0 rfl)) (AE.p (aB dZ (AE.p (aB gH (AE.p (aB gH (AE.p (aB jz (AE.p (ao 1 rfl)) (AE.p aN))) (AE.p (aB nP (AE.p aN) (AE.p (ao 2 rfl)))))) (AE.p (aB nP (AE.p (ao 2 rfl)) (AE.p (ao 2 rfl)))))) (AE.p aN))))))))
 (aL (bO 6 rfl (aB dZ (AE.p (aB jz (AE.p (ao 0 rfl)) (AE.p aN))) (AE.p (aB gH (AE.p (ao 4 rfl)) (AE.p aN)))))
 (t7 (AE.w (gC (K:=K) (tg:=(.n 4)) (Ob.c (iH (AE.p (ao 1 rfl)))) δ lL (aB gH (AE.p (aB gH (AE.p (Li Bf (AE.p (ao 0 rfl)) ue (nQ (AE.p (ao 2 rfl))))) (AE.p (aB gB (AE.p (ao 1 rfl)) (AE.p (aB dZ (AE.p (aB gH (AE.p (aB jz (AE.p (ao 3 rfl)) (AE.p aN))) (AE.p (aB nP (AE.p aN) (AE.p (ao 4 rfl)))))) (AE.p aN))))))) (AE.p (Li Bf (AE.p (ao 0 rfl)) (nQ (AE.p (ao 2 rfl))) ue))))))))))) δ h⟩)
abbrev wJ:Stmt:=top 38
theorem zB:bG ["_law_cell_here", "_law_many", "_law_left", "_law_ranks_here", "_law_draw", "_law_k"] ["_law_cell_here", "_law_many"] (aQ wJ):=Ξ
theorem Ke {f:Addr} {fd:FuncData} (F:oG K "_law_ranks" "_law_ranks" wJ f fd) (T:Txt mg)  : cY P w K mg base dF 1 f fd ["_law_cell_here", "_law_many"] (yF lg) :=
 F.ok zB (fun vs H Q E h=>BK h) (fun cdv A outer s H vs Q E hr h=>by
  have nd:=zB.nd
  have hu:=eV hr
  have bW:=hr.units
  xt ⟨_,(az (tM (i:=2) (N':=["_law_k"]) (ρ:=[none]) rfl nd rfl Υ (dW.of rfl (by kernel_rfl)) (iB rfl T.mq (aj (pv 1) au)) (fun _ _ _ _ _=>(bf (i:=0) (by show (["_law_k"]:List Str).Nodup; decide +kernel) rfl Υ)) (fX rfl) (fun _ _ _ _ _=>jf) (fun _ _ _ _ _=>(pv 0)))
 (az (bH (i:=3) nd rfl Υ (dO au))
 (az (bH (i:=4) nd rfl Υ (aW cA (pv 0) aH))
 (az (jG PassesOwn.never rfl (iB rfl T.mq (aj (pv 1) au)) (bf (i:=5) nd rfl Υ)
 (az (bH (i:=4) nd rfl Υ (aW cA (aW cz (aW cz (aW jH (pv 4) aH) (aW jH aH (pv 5))) aH) aH))
 (aF (dH (mU PySem.F.plainAttrs_list PySem.F.slot_list_append PySem.F.type_list_append d8 (pv 3) (aj (mU PySem.F.plainAttrs_list PySem.F.slot_list_pop PySem.F.type_list_pop S8 (pv 2) (aj (aW cA (aW cj (pv 4) aH) (bc dN rfl T.fO PySem.boot_len (aj (pv 2) au))) au)) au))))))
 (aF (bK (pv 3))))))),
  _root_.A.runN (N:=["_law_cell_here", "_law_many", "_law_left", "_law_ranks_here", "_law_draw", "_law_k"]) (M:=Mo [2,3]) (aL (m9 2 rfl (gC (K:=K) (tg:=(.n 0)) (Ob.c (iH (AE.p (ao 1 rfl)))) δ lL (ao 0 rfl)))
 (aL (m9 3 rfl (ie aO))
 (aL (bO 4 rfl (aB dZ (AE.p (ao 0 rfl)) (AE.p aN)))
 (aL (kh (K:=K) (tg:=(.n 5)) (iH (AE.p (ao 1 rfl))) δ
 (aL (bO 4 rfl (aB dZ (AE.p (aB gH (AE.p (aB gH (AE.p (aB nP (AE.p (ao 4 rfl)) (AE.p aN))) (AE.p (aB nP (AE.p aN) (AE.p (ao 5 rfl)))))) (AE.p aN))) (AE.p aN)))
 (Gv 3 2 δ rfl rfl (AE.p (aB dZ (AE.p (aB jz (AE.p (ao 4 rfl)) (AE.p aN))) (AE.p (iT fO (aA (xK 2) aO))))))))
 (mG 3 rfl))))) δ h⟩)
abbrev Ek:Stmt:=top 39
theorem Hq:bG ["_law_script", "_law_most", "_law_many", "_law_names", "_law_ranks_here", "_law_thick", "_law_arrows", "_law_j", "_law_k", "_law_cell_here"] ["_law_script", "_law_most"] (aQ Ek):=Ξ
theorem Sq {f:Addr} {fd:FuncData} (F:oG K "_law_net" "_law_net" Ek f fd) (T:Txt mg) (jb:nU P w K mg base dF 1 "_law_cell" ["_law_script", "_law_k"] (lF dR)) (xT:nU P w K mg base dF 1 "_law_words" ["_law_cell_here", "_law_many"] (yF pI)) (xU:nU P w K mg base dF 1 "_law_ranks" ["_law_cell_here", "_law_many"] (yF lg)):cY P w K mg base dF 2 f fd ["_law_script", "_law_most"] (lF pK) :=
 F.ok Hq (fun vs H Q E h=>qX h) (fun cdv A outer s H vs Q E hr h=>by
  have nd:=Hq.nd
  have hu:=eV hr
  have bW:=hr.units
  have j4:=hr.mono (show 1≤_ by decide)
  have KN:=hr.mono (show 1≤_ by decide)
  have KQ:=hr.mono (show 1≤_ by decide)
  xt ⟨_,(az (bH (i:=2) nd rfl Υ (aW cz aH (aW cA (bz jb j4 rfl bQ (aj (pv 0) (aj aH au))) (pv 1))))
 (az (bH (i:=3) nd rfl Υ (bz xT KN rfl bQ (aj (bz jb j4 rfl bQ (aj (pv 0) (aj aH au))) (aj (pv 2) au))))
 (az (bH (i:=4) nd rfl Υ (bz xU KQ rfl bQ (aj (bz jb j4 rfl bQ (aj (pv 0) (aj aH au))) (aj (pv 2) au))))
 (az (bH (i:=5) nd rfl Υ (cO bN (dO (aj aH (aj aH (aj aH (aj aH (aj aH (aj aH au))))))) (aW cA (bz jb j4 rfl bQ (aj (pv 0) (aj aH au))) aH) (fun _ _=>rfl)))
 (az (bH (i:=6) nd rfl Υ (dO au))
 (az (jG PassesOwn.never rfl (iB rfl T.mq (aj (pv 2) au)) (bf (i:=7) nd rfl Υ)
 (aF (jG PassesOwn.never rfl (iB rfl T.mq (aj (pv 2) au)) (bf (i:=8) nd rfl Υ)
 (az (bH (i:=9) nd rfl Υ (bz jb j4 rfl bQ (aj (pv 0) (aj (aW cz (aW cz aH (aW cj (aW jH (bc (Dc rfl) rfl T.Jg boot_max (aj (pv 7) (aj (pv 8) au))) (aW J8 (bc (Dc rfl) rfl T.Jg boot_max (aj (pv 7) (aj (pv 8) au))) aH)) aH)) (bc (CZ rfl) rfl T.Jf boot_min (aj (pv 7) (aj (pv 8) au)))) au))))
 (aF (cF (PW.pt (pw_and (bF zU (cO bN (pv 4) (pv 7) (fun _ _=>rfl)) (cO bN (pv 4) (pv 8) (fun _ _=>rfl)) (cG _)) (pw_and1 (bF zU (aW cA (aW cj (aW cA (aW jH (pv 9) aH) aH) aH) aH) (pv 5) (cG _)))))
 (aF (dH (mU PySem.F.plainAttrs_list PySem.F.slot_list_append PySem.F.type_list_append d8 (pv 6) (aj (cZ (aj (cO bN (pv 3) (pv 7) (fun _ _=>rfl)) (aj (cO bN (pv 3) (pv 8) (fun _ _=>rfl)) au))) au))))
 bu))))))
 (aF (bK (cZ (aj (dq gZ rfl T.fG boot_tuple (aj (pv 3) au)) (aj (dq gZ rfl T.fG boot_tuple (aj (pv 6) au)) au))))))))))),
  _root_.A.qQ (N:=["_law_script", "_law_most", "_law_many", "_law_names", "_law_ranks_here", "_law_thick", "_law_arrows", "_law_j", "_law_k", "_law_cell_here"]) (M:=Mo [6]) (aL (bO 2 rfl (aB gH (AE.p aN) (AE.p (aB dZ (AE.p (bR (aC (AE.w (ao 0 rfl)) (aC (AE.w aN) bj)))) (AE.p (ao 1 rfl))))))
 (aL (bO 3 rfl (AE.nv (jO (aC (AE.w (bR (aC (AE.w (ao 0 rfl)) (aC (AE.w aN) bj)))) (aC (AE.w (ao 2 rfl)) bj)))))
 (aL (bO 4 rfl (AE.nv (jO (aC (AE.w (bR (aC (AE.w (ao 0 rfl)) (aC (AE.w aN) bj)))) (aC (AE.w (ao 2 rfl)) bj)))))
 (aL (bO 5 rfl (aB gB (AE.np (ie (aA aN (aA aN (aA aN (aA aN (aA aN (aA aN aO)))))))) (AE.p (aB dZ (AE.p (bR (aC (AE.w (ao 0 rfl)) (aC (AE.w aN) bj)))) (AE.p aN)))))
 (aL (m9 6 rfl (ie aO))
 (aL (kh (K:=K) (tg:=(.n 7)) (iH (AE.p (ao 2 rfl))) δ
 (kh (K:=K) (tg:=(.n 8)) (iH (AE.p (ao 2 rfl))) δ
 (aL (bO 9 rfl (bR (aC (AE.w (ao 0 rfl)) (aC (AE.w (aB gH (AE.p (aB gH (AE.p aN) (AE.p (aB jz (AE.p (aB nP (AE.p (iT Jg (aA (AE.p (ao 7 rfl)) (aA (AE.p (ao 8 rfl)) aO)))) (AE.p (aB UW (AE.p (iT Jg (aA (AE.p (ao 7 rfl)) (aA (AE.p (ao 8 rfl)) aO)))) (AE.p aN))))) (AE.p aN))))) (AE.p (iT Jf (aA (AE.p (ao 7 rfl)) (aA (AE.p (ao 8 rfl)) aO)))))) bj))))
 (cV (Gr (bC (AE.p (aB U0 (AE.p (aB gB (AE.p (ao 4 rfl)) (AE.p (ao 7 rfl)))) (AE.p (aB gB (AE.p (ao 4 rfl)) (AE.p (ao 8 rfl))))))) (bC (AE.p (aB U0 (AE.p (aB dZ (AE.p (aB jz (AE.p (aB dZ (AE.p (aB nP (AE.p (ao 9 rfl)) (AE.p aN))) (AE.p aN))) (AE.p aN))) (AE.p aN))) (AE.p (ao 5 rfl))))))
 (fP 6 rfl (iJ (aA (aB gB (AE.p (ao 3 rfl)) (AE.p (ao 7 rfl))) (aA (aB gB (AE.p (ao 3 rfl)) (AE.p (ao 8 rfl))) aO))))
 bw))))
 (dm (AE.w (iJ (aA (iT fG (aA (AE.p (ao 3 rfl)) aO)) (aA (iT fG (aA (xK 6) aO)) aO))))))))))) δ h⟩)
abbrev n6:Stmt:=top 42
theorem rK:bG ["_law_script", "_law_many", "_law_found", "_law_k", "_law_cell_here", "_law_at"] ["_law_script", "_law_many"] (aQ n6):=Ξ
theorem zX {f:Addr} {fd:FuncData} (F:oG K "_law_questions" "_law_questions" n6 f fd) (T:Txt mg) (jb:nU P w K mg base dF 1 "_law_cell" ["_law_script", "_law_k"] (lF dR)):cY P w K mg base dF 2 f fd ["_law_script", "_law_many"] (yF gh) :=
 F.ok rK (fun vs H Q E h=>BK h) (fun cdv A outer s H vs Q E hr h=>by
  have nd:=rK.nd
  have hu:=eV hr
  have bW:=hr.units
  have j4:=hr.mono (show 1≤_ by decide)
  xt ⟨_,(az (bH (i:=2) nd rfl Υ (dO (aj (aW cA (bz jb j4 rfl bQ (aj (pv 0) (aj aH au))) aH) au)))
 (az (jG PassesOwn.never rfl (We rfl T.Jl (mR JW (pv 0) (nG aH) (nG aH))) (qg rfl (cM (bf (i:=3) nd rfl Υ) (cM (bf (i:=4) nd rfl Υ) lV)))
 (aF (cF (bF zU (pv 3) (aW J8 (pv 1) aH) (cG _))
 (aF (dH (mU PySem.F.plainAttrs_list PySem.F.slot_list_append PySem.F.type_list_append d8 (pv 2) (aj (aW cA (pv 4) aH) au))))
 (az (bH (i:=5) nd rfl Υ (aW cA (pv 3) (pv 1)))
 (aF (Ep (aW cA (aW cz (aW jH (cO bN (pv 2) (pv 5) (fun _ _=>rfl)) aH) (pv 4)) aH) (RT (pv 2) (pv 5) set_list)))))))
 (aF (bK (pv 2))))),
  _root_.A.runN (N:=["_law_script", "_law_many", "_law_found", "_law_k", "_law_cell_here", "_law_at"]) (M:=Mo [2]) (aL (m9 2 rfl (ie (aA (aB dZ (AE.p (bR (aC (AE.w (ao 0 rfl)) (aC (AE.w aN) bj)))) (AE.p aN)) aO)))
 (aL (kh (K:=K) (tg:=(.t [3,4])) (Xx (Li Bf (AE.p (ao 0 rfl)) (nQ (AE.p aN)) (nQ (AE.p aN)))) δ
 (cV (bC (AE.p (aB U0 (AE.p (ao 3 rfl)) (AE.p (aB UW (AE.p (ao 1 rfl)) (AE.p aN))))))
 (fP 2 rfl (aB dZ (AE.p (ao 4 rfl)) (AE.p aN)))
 (aL (bO 5 rfl (aB dZ (AE.p (ao 3 rfl)) (AE.p (ao 1 rfl))))
 (Jr 2 rfl (aB dZ (AE.p (aB gH (AE.p (aB nP (AE.p (aB gB (xK 2) (AE.p (ao 5 rfl)))) (AE.p aN))) (AE.p (ao 4 rfl)))) (AE.p aN)) (AE.p (ao 5 rfl))))))
 (mG 2 rfl))) δ h⟩)
abbrev p6:Stmt:=top 41
theorem ur:bG ["_law_names", "_law_cell_here", "_law_one", "_law_letters", "_law_some"] ["_law_names", "_law_cell_here"] (aQ p6):=Ξ
theorem Bw {f:Addr} {fd:FuncData} (F:oG K "_law_stranger" "_law_stranger" p6 f fd) (T:Txt mg)  : cY P w K mg base dF 1 f fd ["_law_names", "_law_cell_here"] (lF cH) :=
 F.ok ur (fun vs H Q E h=>qX h) (fun cdv A outer s H vs Q E hr h=>by
  have nd:=ur.nd
  have hu:=eV hr
  have bW:=hr.units
  xt ⟨_,(az (bH (i:=2) nd rfl Υ (cO bN (pv 0) (aW cA (pv 1) (bc dN rfl T.fO PySem.boot_len (aj (pv 0) au))) (fun _ _=>rfl)))
 (az (bH (i:=3) nd rfl Υ jm)
 (az (bH (i:=4) nd rfl Υ (dO (aj (aW cz (pv 2) (cO bN (pv 3) (aW cA (aW cj (pv 1) aH) aH) (fun _ _=>rfl))) (aj (mR JW (pv 2) (nG aH) tQ) (aj (mR JW (pv 2) tQ (nG (abP YZ aH))) (aj (aW cz (cO bN (pv 3) (aW cA (aW cj (pv 1) aH) aH) (fun _ _=>rfl)) (pv 2)) (aj (Zx PySem.F.plainAttrs_str PySem.F.slot_str_upper PySem.F.type_str_upper S7 (pv 2)) au)))))))
 (az (bH (i:=4) nd rfl Υ (aW cz (pv 4) (jg (N':=["_law_sign"]) (ρ:=[none]) rfl (dW.of rfl (by kernel_rfl)) (eY (pv 3)) (fun _ _ _ _ _=>(bf (i:=0) (by show (["_law_sign"]:List Str).Nodup; decide +kernel) rfl Υ)) (fX rfl) (fun _ _ _ _ _=>jf) (fun _ _ _ _ _=>(pv 0)))))
 (az (tM (i:=4) (N':=["_law_names", "_law_text"]) (ρ:=[some 0,none]) rfl nd rfl Υ (dW.of rfl (by kernel_rfl)) (eY (pv 4)) (fun _ _ _ _ _=>(bf (i:=1) (by show (["_law_names", "_law_text"]:List Str).Nodup; decide +kernel) rfl Υ)) (fX rfl) (fun _ _ _ _ _=>(tL (PW.pt (pw_and (bF (fJ bW) (pv 1) (pv 0) rfl) (pw_and1 (bF (uM bW) (pv 1) jm (cG _))))))) (fun _ _ _ _ _=>(pv 1)))
 (aF (bK (cO bN (pv 4) (aW cA (aW cj (pv 1) aH) (bc (CZ rfl) rfl T.Jf boot_min (aj aH (aj (bc dN rfl T.fO PySem.boot_len (aj (pv 4) au)) au)))) (fun _ _=>rfl))))))))),
  _root_.A.qQ (N:=["_law_names", "_law_cell_here", "_law_one", "_law_letters", "_law_some"]) (M:=Mo []) (aL (bO 2 rfl (aB gB (AE.p (ao 0 rfl)) (AE.p (aB dZ (AE.p (ao 1 rfl)) (AE.p (iT fO (aA (AE.p (ao 0 rfl)) aO)))))))
 (aL (bO 3 rfl ni)
 (aL (bO 4 rfl (AE.nv (ie (aA (aB gH (AE.p (ao 2 rfl)) (AE.p (aB gB (AE.p (ao 3 rfl)) (AE.p (aB dZ (AE.p (aB jz (AE.p (ao 1 rfl)) (AE.p aN))) (AE.p aN)))))) (aA (Li Bf (AE.p (ao 2 rfl)) (nQ (AE.p aN)) ue) (aA (Li Bf (AE.p (ao 2 rfl)) ue (nQ (AE.p (aet acN (AE.p aN))))) (aA (aB gH (AE.p (aB gB (AE.p (ao 3 rfl)) (AE.p (aB dZ (AE.p (aB jz (AE.p (ao 1 rfl)) (AE.p aN))) (AE.p aN))))) (AE.p (ao 2 rfl))) (aA (Xy (AE.p (ao 2 rfl))) aO))))))))
 (aL (bO 4 rfl (aB gH (AE.p (ao 4 rfl)) (AE.np (gC (K:=K) (tg:=(.n 0)) (jh (AE.p (ao 3 rfl))) δ lL (ao 0 rfl)))))
 (aL (bO 4 rfl (AE.nv (gC (K:=K) (tg:=(.n 1)) (jh (AE.p (ao 4 rfl))) δ (Gr (bC (AE.p (aB jM (AE.p (ao 1 rfl)) (AE.p (ao 0 rfl))))) (bC (AE.p (aB K9 (AE.p (ao 1 rfl)) (AE.p ni))))) (ao 1 rfl))))
 (dm (AE.w (aB gB (AE.p (ao 4 rfl)) (AE.p (aB dZ (AE.p (aB jz (AE.p (ao 1 rfl)) (AE.p aN))) (AE.p (iT Jf (aA (AE.p aN) (aA (AE.p (iT fO (aA (AE.p (ao 4 rfl)) aO))) aO)))))))))))))) δ h⟩)
abbrev zJ:Stmt:=top 49
theorem Cm:bG ["_law_net_here", "_law_draw", "_law_names", "_law_pair_here"] ["_law_net_here", "_law_draw"] (aQ zJ):=Ξ
theorem O5 {f:Addr} {fd:FuncData} (F:oG K "_law_pair" "_law_pair" zJ f fd) (T:Txt mg) (jP:nU P w K mg base dF 1 "_law_stranger" ["_law_names", "_law_cell_here"] (lF cH)):cY P w K mg base dF 2 f fd ["_law_net_here", "_law_draw"] (yF pJ) :=
 F.ok Cm (fun vs H Q E h=>BK h) (fun cdv A outer s H vs Q E hr h=>by
  have nd:=Cm.nd
  have hu:=eV hr
  have bW:=hr.units
  have oE:=hr.mono (show 1≤_ by decide)
  xt ⟨_,(az (bH (i:=2) nd rfl Υ (dq qz rfl T.lK boot_list (aj (cO bN (pv 0) aH (fun _ _=>rfl)) au)))
 (az (bH (i:=3) nd rfl Υ (dO (aj (cO bN (pv 2) (aW cA (pv 1) (bc dN rfl T.fO PySem.boot_len (aj (pv 2) au))) (fun _ _=>rfl)) (aj (cO bN (pv 2) (aW cA (aW cj (pv 1) aH) (bc dN rfl T.fO PySem.boot_len (aj (pv 2) au))) (fun _ _=>rfl)) au))))
 (az (cF (PW.pt (pw_and (bF (jY bW) (aW cA (aW cj (pv 1) aH) aH) aH (cG _)) (pw_and1 (bF R8 (bc dN rfl T.fO PySem.boot_len (aj (cO bN (pv 0) aH (fun _ _=>rfl)) au)) aH (cG _)))))
 (aF (bH (i:=3) nd rfl Υ (dq qz rfl T.lK boot_list (aj (cO bN (cO bN (pv 0) aH (fun _ _=>rfl)) (aW cA (aW cj (pv 1) aH) (bc dN rfl T.fO PySem.boot_len (aj (cO bN (pv 0) aH (fun _ _=>rfl)) au))) (fun _ _=>rfl)) au))))
 bu)
 (az (cF (bF (jY bW) (aW cA (aW cj (pv 1) aH) aH) aH (cG _))
 (aF (Ep (bz jP oE rfl bQ (aj (pv 2) (aj (aW cj (pv 1) aH) au))) (RT (pv 3) (aW cA (aW cj (pv 1) aH) aH) set_list)))
 bu)
 (az (cF (bF (jY bW) (aW cA (aW cj (pv 1) aH) aH) aH (cG _))
 (aF (bH (i:=3) nd rfl Υ (dO (aj (bz jP oE rfl bQ (aj (pv 2) (aj (aW cj (pv 1) aH) au))) (aj (bz jP oE rfl bQ (aj (pv 2) (aj (aW cj (pv 1) aH) au))) au)))))
 bu)
 (aF (bK (pv 3)))))))),
  _root_.A.runN (N:=["_law_net_here", "_law_draw", "_law_names", "_law_pair_here"]) (M:=Mo [3]) (aL (bO 2 rfl (AE.nv (iT lK (aA (AE.p (aB gB (AE.p (ao 0 rfl)) (AE.p aN))) aO))))
 (aL (m9 3 rfl (ie (aA (aB gB (AE.p (ao 2 rfl)) (AE.p (aB dZ (AE.p (ao 1 rfl)) (AE.p (iT fO (aA (AE.p (ao 2 rfl)) aO)))))) (aA (aB gB (AE.p (ao 2 rfl)) (AE.p (aB dZ (AE.p (aB jz (AE.p (ao 1 rfl)) (AE.p aN))) (AE.p (iT fO (aA (AE.p (ao 2 rfl)) aO)))))) aO))))
 (aL (cV (Gr (bC (AE.p (aB xu (AE.p (aB dZ (AE.p (aB jz (AE.p (ao 1 rfl)) (AE.p aN))) (AE.p aN))) (AE.p aN)))) (bC (AE.p (aB acO (AE.p (iT fO (aA (AE.p (aB gB (AE.p (ao 0 rfl)) (AE.p aN))) aO))) (AE.p aN)))))
 (m9 3 rfl (iT lK (aA (AE.p (aB gB (AE.p (aB gB (AE.p (ao 0 rfl)) (AE.p aN))) (AE.p (aB dZ (AE.p (aB jz (AE.p (ao 1 rfl)) (AE.p aN))) (AE.p (iT fO (aA (AE.p (aB gB (AE.p (ao 0 rfl)) (AE.p aN))) aO))))))) aO)))
 bw)
 (aL (cV (bC (AE.p (aB xu (AE.p (aB dZ (AE.p (aB jz (AE.p (ao 1 rfl)) (AE.p aN))) (AE.p aN))) (AE.p aN))))
 (Jr 3 rfl (bR (aC (AE.w (ao 2 rfl)) (aC (AE.w (aB jz (AE.p (ao 1 rfl)) (AE.p aN))) bj))) (AE.p (aB dZ (AE.p (aB jz (AE.p (ao 1 rfl)) (AE.p aN))) (AE.p aN))))
 bw)
 (aL (cV (bC (AE.p (aB xu (AE.p (aB dZ (AE.p (aB jz (AE.p (ao 1 rfl)) (AE.p aN))) (AE.p aN))) (AE.p aN))))
 (m9 3 rfl (ie (aA (bR (aC (AE.w (ao 2 rfl)) (aC (AE.w (aB jz (AE.p (ao 1 rfl)) (AE.p aN))) bj))) (aA (bR (aC (AE.w (ao 2 rfl)) (aC (AE.w (aB jz (AE.p (ao 1 rfl)) (AE.p aN))) bj))) aO))))
 bw)
 (mG 3 rfl)))))) δ h⟩)
abbrev nY:Stmt:=top 25
theorem rH:bG ["names", "rows"] ["names", "rows"] (aQ nY):=Ξ
theorem zV {f:Addr} {fd:FuncData} {cc TT:Addr} (F:Vt K "sorted_rows" "sorted_rows" nY cc f fd) (T:Txt mg) (hB:BM mg base) (hC:PySem.W.CodeHd base cc TT) (hTb:(TT,WK "sorted_rows")∈Tb.l)  : cY P w K mg base dF 4 f fd ["names", "rows"] (yF gr) :=
 F.ok rH (fun vs H Q E h=>BK h) (fun A outer s H vs Q E hr h=>by
  have nd:=rH.nd
  have hu:=eV hr
  have bW:=hr.units
  xt ⟨_,(aF (bK (RV (x := "row") (ρ:=[0]) (N':=["row", "names"]) (k:=0) (qual:=WK "sorted_rows") rfl T.Be (pv 1) (hr.mono δ) rfl hC hB rfl rfl rfl (Dt.one rfl rfl rfl rfl rfl rfl rfl rfl) (fun pm c' ctv u=>rfl) (fun A f c' s H env hrl he=>by subst he; xt (jg (N':=["names", "name"]) (ρ:=[some 1,none]) rfl (dW.of rfl (by kernel_rfl)) (eY (pv 0)) (fun _ _ _ _ _=>(bf (i:=1) (by show (["names", "name"]:List Str).Nodup; decide +kernel) rfl Υ)) (fX rfl) (fun _ _ _ _ _=>jf) (fun _ _ _ _ _=>(Zw PySem.F.plainAttrs_tuple PySem.F.slot_tuple_index PySem.F.type_tuple_index ab8 PySem.F.plainAttrs_list PySem.F.slot_list_index PySem.F.type_list_index ab9 (pv 0) (aj (pv 1) au)))))))),
  _root_.A.runN (N:=["names", "rows"]) (M:=Mo []) (t7 (AE.w (Xz hTb δ (AE.p (ao 1 rfl)) (gC (K:=K) (tg:=(.n 1)) (jh (AE.p (ao 0 rfl))) δ lL (acS (AE.p (ao 0 rfl)) (AE.p (ao 1 rfl))))))) δ h⟩)
abbrev wM:Stmt:=top 21
theorem zG:bG ["text"] ["text"] (aQ wM):=Ξ
theorem Kg {f:Addr} {fd:FuncData} (F:oG K "is_word" "is_word" wM f fd) (T:Txt mg)  : cY P w K mg base dF 1 f fd ["text"] (lF d9) :=
 F.ok zG (fun vs H Q E h=>qX h) (fun cdv A outer s H vs Q E hr h=>by
  have nd:=zG.nd
  have hu:=eV hr
  have bW:=hr.units
  ob ⟨_,PJ⟩:=T.Qo
  ob ⟨_,Ao⟩:=T.Bd
  xt ⟨_,(aF (bK (J6 (R3 Ml Ml aH (bc dN rfl T.fO PySem.boot_len (aj (pv 0) au)) (eQ (v:=(.int 8)) rfl Ao ⟨_,rfl⟩)) (J5 (bc (Jd rfl) rfl T.Jm boot_all (aj (jg (N':=["sign"]) (ρ:=[none]) rfl (dW.of rfl (by kernel_rfl)) (eY (pv 0)) (fun _ _ _ _ _=>(bf (i:=0) (by show (["sign"]:List Str).Nodup; decide +kernel) rfl Υ)) (fX rfl) (fun _ _ _ _ _=>jf) (fun _ _ _ _ _=>(nH (J9 bW) (pv 0) (eQ (v:=(.str "abcdefghijklmnopqrstuvwxyz")) rfl PJ ⟨_,rfl⟩) rfl))) au)))))),
  _root_.A.qQ (N:=["text"]) (M:=Mo []) (dm (AE.w (Vq (AE.p (N8 Xj Xj (AE.p aN) (AE.p (iT fO (aA (AE.p (ao 0 rfl)) aO))) (AE.p aN))) (iT Jm (aA (AE.np (gC (K:=K) (tg:=(.n 0)) (jh (AE.p (ao 0 rfl))) δ lL (aB aaD (AE.p (ao 0 rfl)) (AE.p ni)))) aO))))) δ h⟩)
abbrev gO:Stmt:=top 27
theorem jT:bG ["names", "stood", "name"] ["names"] (aQ gO):=Ξ
theorem qT {f:Addr} {fd:FuncData} (F:oG K "refuse_wrong_names" "refuse_wrong_names" gO f fd) (T:Txt mg) (xV:nU P w K mg base dF 1 "is_word" ["text"] (lF d9)):cY P w K mg base dF 2 f fd ["names"] (lF dh) :=
 F.ok jT (fun vs H Q E h=>qX h) (fun cdv A outer s H vs Q E hr h=>by
  have nd:=jT.nd
  have hu:=eV hr
  have bW:=hr.units
  have KR:=hr.mono (show 1≤_ by decide)
  ob ⟨_,Ga⟩:=T.Gp
  xt ⟨_,(az (cF (rW (RL Ml Ml aH (bc dN rfl T.fO PySem.boot_len (aj (pv 0) au)) (eQ (v:=(.int 8)) rfl Ga ⟨_,rfl⟩)))
 (aF jF)
 bu)
 (az (bH (i:=1) nd rfl Υ RZ)
 (aF (jG PassesOwn.never rfl (eY (pv 0)) (bf (i:=2) nd rfl Υ)
 (az (cF (rW (jj (bz xV KR rfl bQ (aj (pv 2) au))))
 (aF jF)
 bu)
 (az (cF (RK (R4 hu (pv 2) (pv 1)) rfl)
 (aF jF)
 bu)
 (aF (Eo hu (pv 1) (pv 2) uw rfl)))))))),
  _root_.A.qQ (N:=["names", "stood", "name"]) (M:=Mo [1]) (aL (cV (sX (bC (AE.p (N8 Xj Xj (AE.p aN) (AE.p (iT fO (aA (AE.p (ao 0 rfl)) aO))) (AE.p aN)))))
 jN
 bw)
 (aL (NB 1 rfl Vc)
 (kh (K:=K) (tg:=(.n 2)) (qD (ao 0 rfl)) δ
 (aL (cV (sX (q8 (AE.p (bR (aC (AE.w (ao 2 rfl)) bj)))))
 jN
 bw)
 (aL (cV (q8 (AE.p (YJ 1 (ao 2 rfl))))
 jN
 bw)
 (Gu 1 rfl (ao 2 rfl) BX)))))) δ h⟩)
abbrev fW:Stmt:=top 26
theorem fu:bG ["names", "asked", "name"] ["names", "asked"] (aQ fW):=Ξ
theorem uf {f:Addr} {fd:FuncData} (F:oG K "refuse_strangers" "refuse_strangers" fW f fd) (T:Txt mg)  : cY P w K mg base dF 1 f fd ["names", "asked"] (lF bh) :=
 F.ok fu (fun vs H Q E h=>qX h) (fun cdv A outer s H vs Q E hr h=>by
  have nd:=fu.nd
  have hu:=eV hr
  have bW:=hr.units
  xt ⟨_,(aF (jG PassesOwn.never rfl (eY (pv 1)) (bf (i:=2) nd rfl Υ)
 (aF (cF (bF (fJ bW) (pv 2) (pv 0) rfl)
 (aF jF)
 bu)))),
  _root_.A.qQ (N:=["names", "asked", "name"]) (M:=Mo []) (kh (K:=K) (tg:=(.n 2)) (qD (ao 1 rfl)) δ
 (cV (bC (AE.p (aB jM (AE.p (ao 2 rfl)) (AE.p (ao 0 rfl)))))
 jN
 bw)) δ h⟩)
theorem rZ {f:Addr} {fd:FuncData} (F:oG K "refuse_strangers" "refuse_strangers" fW f fd) (T:Txt mg) (O:Own mg base)   : cY P w K mg base (BZ P w) 1 f fd ["names", "asked"] (X4 Tb.cl bL) :=
 F.okX fu (fun vs H Q E h=>ach h) (fun cdv A outer s H vs Q E hr h=>by
  have nd:=fu.nd
  have hu:=eV hr
  have bW:=hr.units
  xt ⟨_,(aF (jG J7 rfl (eY (pv 1)) (bf (i:=2) nd rfl Υ)
 (aF (cF (bF (fJ bW) (pv 2) (pv 0) rfl)
 (aF (zQ PySem.F.excBase_ValueError O.Sx (Eu (gW (vR (pv 2)) (gW (tX (by decide +kernel)) Gb)) δ) rfl))
 bu)))),
  _root_.A.abq (N:=["names", "asked", "name"]) (M:=Mo []) (Xu (K:=K) (tg:=(.n 2)) (qD (ao 1 rfl)) δ
 (La (bC (AE.p (aB jM (AE.p (ao 2 rfl)) (AE.p (ao 0 rfl)))))
 (xG (gQ (vI 2 rfl) (gQ tR Et)))
 (xH bw))) δ h⟩)
abbrev gK:Stmt:=top 28
theorem jR:bG ["names", "arrows", "stood", "tail", "head"] ["names", "arrows"] (aQ gK):=Ξ
theorem qR {f:Addr} {fd:FuncData} (F:oG K "refuse_wrong_pairs" "refuse_wrong_pairs" gK f fd) (T:Txt mg) (bJ:nU P w K mg base dF 1 "refuse_strangers" ["names", "asked"] (lF bh)):cY P w K mg base dF 2 f fd ["names", "arrows"] (lF dg) :=
 F.ok jR (fun vs H Q E h=>qX h) (fun cdv A outer s H vs Q E hr h=>by
  have nd:=jR.nd
  have hu:=eV hr
  have bW:=hr.units
  have dD:=hr.mono (show 1≤_ by decide)
  xt ⟨_,(az (bH (i:=2) nd rfl Υ RX)
 (aF (jG PassesOwn.never rfl (eY (pv 1)) (qg rfl (cM (bf (i:=3) nd rfl Υ) (cM (bf (i:=4) nd rfl Υ) lV)))
 (az (dH (bz bJ dD rfl bQ (aj (pv 0) (aj (dO (aj (pv 3) (aj (pv 4) au))) au))))
 (az (cF (bF (jY bW) (pv 3) (pv 4) (cG _))
 (aF jF)
 bu)
 (az (cF (RK (R4 hu (cZ (aj (pv 3) (aj (pv 4) au))) (pv 2)) rfl)
 (aF jF)
 bu)
 (az (Eo hu (pv 2) (cZ (aj (pv 3) (aj (pv 4) au))) uw rfl)
 (aF (Eo hu (pv 2) (cZ (aj (pv 4) (aj (pv 3) au))) uw rfl))))))))),
  _root_.A.qQ (N:=["names", "arrows", "stood", "tail", "head"]) (M:=Mo [2]) (aL (NB 2 rfl Vb)
 (kh (K:=K) (tg:=(.t [3,4])) (qD (ao 1 rfl)) δ
 (aL (t8 (AE.p (bR (aC (AE.w (ao 0 rfl)) (aC (AW.nv (AE.w (ie (aA (ao 3 rfl) (aA (ao 4 rfl) aO))))) bj)))))
 (aL (cV (bC (AE.p (aB xu (AE.p (ao 3 rfl)) (AE.p (ao 4 rfl)))))
 jN
 bw)
 (aL (cV (q8 (AE.p (YJ 2 (iJ (aA (ao 3 rfl) (aA (ao 4 rfl) aO))))))
 jN
 bw)
 (aL (Gu 2 rfl (iJ (aA (ao 3 rfl) (aA (ao 4 rfl) aO))) BX)
 (Gu 2 rfl (iJ (aA (ao 4 rfl) (aA (ao 3 rfl) aO))) BX))))))) δ h⟩)
abbrev rQ:Stmt:=top 23
theorem vG:bG ["net", "name"] ["net", "name"] (aQ rQ):=Ξ
theorem Fd {f:Addr} {fd:FuncData} (F:oG K "elders_of" "elders_of" rQ f fd) (T:Txt mg) (bJ:nU P w K mg base dF 1 "refuse_strangers" ["names", "asked"] (lF bh)):cY P w K mg base dF 2 f fd ["net", "name"] (lF cJ) :=
 F.ok vG (fun vs H Q E h=>qX h) (fun cdv A outer s H vs Q E hr h=>by
  have nd:=vG.nd
  have hu:=eV hr
  have bW:=hr.units
  have dD:=hr.mono (show 1≤_ by decide)
  xt ⟨_,(az (dH (bz bJ dD rfl bQ (aj (cO bN (pv 0) aH (fun _ _=>rfl)) (aj (dO (aj (pv 1) au)) au))))
 (aF (bK (dq gZ rfl T.fG boot_tuple (aj (jg (N':=["name", "tail", "head"]) (ρ:=[some 1,none,none]) rfl (dW.of rfl (by kernel_rfl)) (eY (cO bN (pv 0) aH (fun _ _=>rfl))) (fun _ _ _ _ _=>(qg rfl (cM (bf (i:=1) (by show (["name", "tail", "head"]:List Str).Nodup; decide +kernel) rfl Υ) (cM (bf (i:=2) (by show (["name", "tail", "head"]:List Str).Nodup; decide +kernel) rfl Υ) lV)))) (KZ (pO rfl (pO rfl K1 xj) (FZ xj))) (fun _ _ _ _ _=>(tL (bF (jY bW) (pv 2) (pv 0) (cG _)))) (fun _ _ _ _ _=>(pv 1))) au))))),
  _root_.A.qQ (N:=["net", "name"]) (M:=Mo []) (aL (t8 (AE.p (bR (aC (AE.w (aB gB (AE.p (ao 0 rfl)) (AE.p aN))) (aC (AW.nv (AE.w (ie (aA (ao 1 rfl) aO)))) bj)))))
 (dm (AE.w (iT fG (aA (AE.np (gC (K:=K) (tg:=(.t [1,2])) (jh (AE.p (aB gB (AE.p (ao 0 rfl)) (AE.p aN)))) δ (bC (AE.p (aB xu (AE.p (ao 2 rfl)) (AE.p (ao 0 rfl))))) (ao 1 rfl))) aO))))) δ h⟩)
abbrev oh:Stmt:=top 31
theorem rM:bG ["net", "told", "name"] ["net", "told"] (aQ oh):=Ξ
theorem zZ {f:Addr} {fd:FuncData} (F:oG K "first_ready" "first_ready" oh f fd) (T:Txt mg) (iy:nU P w K mg base dF 2 "elders_of" ["net", "name"] (lF cJ)):cY P w K mg base dF 3 f fd ["net", "told"] (lF cX) :=
 F.ok rM (fun vs H Q E h=>qX h) (fun cdv A outer s H vs Q E hr h=>by
  have nd:=rM.nd
  have hu:=eV hr
  have bW:=hr.units
  have lX:=hr.mono (show 2≤_ by decide)
  xt ⟨_,(az (jG PassesOwn.never rfl (eY (cO bN (pv 0) aH (fun _ _=>rfl))) (bf (i:=2) nd rfl Υ)
 (aF (cF (PW.pt (pw_and (bF (fJ bW) (pv 2) (pv 1) rfl) (pw_and1 (jj (bc (Jd rfl) rfl T.Jm boot_all (aj (jg (N':=["told", "elder"]) (ρ:=[some 1,none]) rfl (dW.of rfl (by kernel_rfl)) (eY (bz iy lX rfl bQ (aj (pv 0) (aj (pv 2) au)))) (fun _ _ _ _ _=>(bf (i:=1) (by show (["told", "elder"]:List Str).Nodup; decide +kernel) rfl Υ)) (fX rfl) (fun _ _ _ _ _=>jf) (fun _ _ _ _ _=>(nH (J9 bW) (pv 1) (pv 0) rfl))) au))))))
 (aF (bK (pv 2)))
 bu)))
 (aF (bK RW))),
  _root_.A.qQ (N:=["net", "told", "name"]) (M:=Mo []) (aL (kh (K:=K) (tg:=(.n 2)) (qD (aB gB (AE.p (ao 0 rfl)) (AE.p aN))) δ
 (cV (Gr (bC (AE.p (aB jM (AE.p (ao 2 rfl)) (AE.p (ao 1 rfl))))) (q8 (AE.p (iT Jm (aA (AE.np (gC (K:=K) (tg:=(.n 1)) (jh (AE.p (bR (aC (AE.w (ao 0 rfl)) (aC (AE.w (ao 2 rfl)) bj))))) δ lL (aB aaD (AE.p (ao 1 rfl)) (AE.p (ao 0 rfl))))) aO)))))
 (dm (AE.w (ao 2 rfl)))
 bw))
 (dm (AE.w YG))) δ h⟩)
abbrev wN:Stmt:=top 24
theorem zH:bG ["net", "told", "name"] ["net"] (aQ wN):=Ξ
theorem Kh {f:Addr} {fd:FuncData} (F:oG K "in_turn" "in_turn" wN f fd) (T:Txt mg) (kY:nU P w K mg base dF 3 "first_ready" ["net", "told"] (lF cX)):cY P w K mg base dF 4 f fd ["net"] (yF pL) :=
 F.ok zH (fun vs H Q E h=>BK h) (fun cdv A outer s H vs Q E hr h=>by
  have nd:=zH.nd
  have hu:=eV hr
  have bW:=hr.units
  have sG:=hr.mono (show 3≤_ by decide)
  xt ⟨_,(az (bH (i:=1) nd rfl Υ (dO au))
 (az (bH (i:=2) nd rfl Υ (bz kY sG rfl bQ (aj (pv 0) (aj (pv 1) au))))
 (az (RN PassesOwn.never (bF R7 (pv 2) RW (cG _))
 (az (dH (mU PySem.F.plainAttrs_list PySem.F.slot_list_append PySem.F.type_list_append d8 (pv 1) (aj (pv 2) au)))
 (aF (bH (i:=2) nd rfl Υ (bz kY sG rfl bQ (aj (pv 0) (aj (pv 1) au)))))))
 (aF (bK (pv 1)))))),
  _root_.A.runN (N:=["net", "told", "name"]) (M:=Mo [1]) (aL (m9 1 rfl (ie aO))
 (aL (bO 2 rfl (Oa (aC (AW.p (AE.w (ao 0 rfl))) (aC (AE.w (xK 1)) bj))))
 (aL (Vi 100 (bC (AE.p (aB Xk (AE.p (ao 2 rfl)) (AE.p YG))))
 (aL (fP 1 rfl (ao 2 rfl))
 (bO 2 rfl (Oa (aC (AW.p (AE.w (ao 0 rfl))) (aC (AE.w (xK 1)) bj))))))
 (mG 1 rfl)))) δ h⟩)
abbrev nZ:Stmt:=top 29
theorem rJ:bG ["net", "told", "left"] ["net"] (aQ nZ):=Ξ
theorem zW {f:Addr} {fd:FuncData} (F:oG K "refuse_ring" "refuse_ring" nZ f fd) (T:Txt mg) (xW:nU P w K mg base dF 4 "in_turn" ["net"] (yF pL)):cY P w K mg base dF 5 f fd ["net"] (lF iY) :=
 F.ok rJ (fun vs H Q E h=>qX h) (fun cdv A outer s H vs Q E hr h=>by
  have nd:=rJ.nd
  have hu:=eV hr
  have bW:=hr.units
  have KY:=hr.mono (show 4≤_ by decide)
  xt ⟨_,(az (bH (i:=1) nd rfl (Or.inr rfl) (bz xW KY rfl bQ (aj (pv 0) au)))
 (az (tM (i:=2) (N':=["told", "name"]) (ρ:=[some 1,none]) rfl nd rfl Υ (dW.of rfl (by kernel_rfl)) (eY (cO bN (pv 0) aH (fun _ _=>rfl))) (fun _ _ _ _ _=>(bf (i:=1) (by show (["told", "name"]:List Str).Nodup; decide +kernel) rfl Υ)) (fX rfl) (fun _ _ _ _ _=>(tL (bF (fJ bW) (pv 1) (pv 0) rfl))) (fun _ _ _ _ _=>(pv 1)))
 (aF (cF (RJ (pv 2) (by intro _; rfl))
 (aF jF)
 bu)))),
  _root_.A.qQ (N:=["net", "told", "left"]) (M:=Mo []) (aL (bO 1 rfl (AE.nv (jO (aC (AE.w (ao 0 rfl)) bj))))
 (aL (bO 2 rfl (AE.nv (gC (K:=K) (tg:=(.n 1)) (jh (AE.p (aB gB (AE.p (ao 0 rfl)) (AE.p aN)))) δ (bC (AE.p (aB jM (AE.p (ao 1 rfl)) (AE.p (ao 0 rfl))))) (ao 1 rfl))))
 (cV (Ve (AE.p (ao 2 rfl)))
 jN
 bw))) δ h⟩)
abbrev uH:Stmt:=top 22
theorem xZ:bG ["names", "arrows", "pairs", "net"] ["names", "arrows"] (aQ uH):=Ξ
theorem Hz {f:Addr} {fd:FuncData} (F:oG K "net_made" "net_made" uH f fd) (T:Txt mg) (oN:nU P w K mg base dF 4 "sorted_rows" ["names", "rows"] (yF gr)) (iw:nU P w K mg base dF 2 "refuse_wrong_names" ["names"] (lF dh)) (iu:nU P w K mg base dF 2 "refuse_wrong_pairs" ["names", "arrows"] (lF dg)) (oO:nU P w K mg base dF 5 "refuse_ring" ["net"] (lF iY)):cY P w K mg base dF 6 f fd ["names", "arrows"] (lF gU) :=
 F.ok xZ (fun vs H Q E h=>qX h) (fun cdv A outer s H vs Q E hr h=>by
  have nd:=xZ.nd
  have hu:=eV hr
  have bW:=hr.units
  have Aj:=hr.mono (show 4≤_ by decide)
  have qZ:=hr.mono (show 2≤_ by decide)
  have qY:=hr.mono (show 2≤_ by decide)
  have Ak:=hr.mono (show 5≤_ by decide)
  xt ⟨_,(az (dH (bz iw qZ rfl bQ (aj (pv 0) au)))
 (az (dH (bz iu qY rfl bQ (aj (pv 0) (aj (pv 1) au))))
 (az (tM (i:=2) (N':=["tail", "head"]) (ρ:=[none,none]) rfl nd rfl Υ (dW.of rfl (by kernel_rfl)) (eY (pv 1)) (fun _ _ _ _ _=>(qg rfl (cM (bf (i:=0) (by show (["tail", "head"]:List Str).Nodup; decide +kernel) rfl Υ) (cM (bf (i:=1) (by show (["tail", "head"]:List Str).Nodup; decide +kernel) rfl Υ) lV)))) (KZ (pO rfl (pO rfl K1 xj) (FZ xj))) (fun _ _ _ _ _=>jf) (fun _ _ _ _ _=>(cZ (aj (pv 0) (aj (pv 1) au)))))
 (az (bH (i:=3) nd rfl Υ (cZ (aj (dq gZ rfl T.fG boot_tuple (aj (pv 0) au)) (aj (dq gZ rfl T.fG boot_tuple (aj (bz oN Aj rfl bQ (aj (pv 0) (aj (pv 2) au))) au)) au))))
 (az (dH (bz oO Ak rfl bQ (aj (pv 3) au)))
 (aF (bK (pv 3)))))))),
  _root_.A.qQ (N:=["names", "arrows", "pairs", "net"]) (M:=Mo []) (aL (t8 (AE.p (bR (aC (AE.w (ao 0 rfl)) bj))))
 (aL (t8 (AE.p (bR (aC (AE.w (ao 0 rfl)) (aC (AE.w (ao 1 rfl)) bj)))))
 (aL (bO 2 rfl (AE.nv (gC (K:=K) (tg:=(.t [0,1])) (jh (AE.p (ao 1 rfl))) δ lL (iJ (aA (ao 0 rfl) (aA (ao 1 rfl) aO))))))
 (aL (bO 3 rfl (iJ (aA (iT fG (aA (AE.p (ao 0 rfl)) aO)) (aA (iT fG (aA (AE.np (jO (aC (AE.w (ao 0 rfl)) (aC (AE.w (ao 2 rfl)) bj)))) aO)) aO))))
 (aL (t8 (AE.p (bR (aC (AE.w (ao 3 rfl)) bj))))
 (dm (AE.w (ao 3 rfl)))))))) δ h⟩)
abbrev lG:Stmt:=top 34
theorem pB:bG ["net", "tail", "head"] ["net", "tail", "head"] (aQ lG):=Ξ
theorem wY {f:Addr} {fd:FuncData} (F:oG K "can_be_turned" "can_be_turned" lG f fd) (T:Txt mg) (iy:nU P w K mg base dF 2 "elders_of" ["net", "name"] (lF cJ)):cY P w K mg base dF 3 f fd ["net", "tail", "head"] (lF dw) :=
 F.ok pB (fun vs H Q E h=>qX h) (fun cdv A outer s H vs Q E hr h=>by
  have nd:=pB.nd
  have hu:=eV hr
  have bW:=hr.units
  have lX:=hr.mono (show 2≤_ by decide)
  xt ⟨_,(aF (bK (nH (R9 bW) (dq (CW rfl) rfl T.YC boot_set (aj (bz iy lX rfl bQ (aj (pv 0) (aj (pv 2) au))) au)) (dq (CW rfl) rfl T.YC boot_set (aj (aW Wo (bz iy lX rfl bQ (aj (pv 0) (aj (pv 1) au))) (cZ (aj (pv 1) au))) au)) (cG _)))),
  _root_.A.qQ (N:=["net", "tail", "head"]) (M:=Mo []) (dm (AE.w (XC (AE.p (bR (aC (AE.w (ao 0 rfl)) (aC (AE.w (ao 2 rfl)) bj)))) (AE.p (aB aaE (AE.p (bR (aC (AE.w (ao 0 rfl)) (aC (AE.w (ao 1 rfl)) bj)))) (AE.p (iJ (aA (ao 1 rfl) aO)))))))) δ h⟩)
abbrev lR:Stmt:=top 33
theorem kE:bG ["net", "tail", "head", "names", "arrows", "others"] ["net", "tail", "head"] (aQ lR):=Ξ
theorem Bv {f:Addr} {fd:FuncData} (F:oG K "net_turned" "net_turned" lR f fd) (T:Txt mg) (km:nU P w K mg base dF 6 "net_made" ["names", "arrows"] (lF gU)) (bJ:nU P w K mg base dF 1 "refuse_strangers" ["names", "asked"] (lF bh)) (eO:nU P w K mg base dF 3 "can_be_turned" ["net", "tail", "head"] (lF dw)):cY P w K mg base dF 7 f fd ["net", "tail", "head"] (lF iC) :=
 F.ok kE (fun vs H Q E h=>qX h) (fun cdv A outer s H vs Q E hr h=>by
  have nd:=kE.nd
  have hu:=eV hr
  have bW:=hr.units
  have sE:=hr.mono (show 6≤_ by decide)
  have dD:=hr.mono (show 1≤_ by decide)
  have j5:=hr.mono (show 3≤_ by decide)
  xt ⟨_,(az (Ep (pv 0) (qg rfl (cM (bf (i:=3) nd rfl Υ) (cM (bf (i:=4) nd rfl Υ) lV))))
 (az (dH (bz bJ dD rfl bQ (aj (pv 3) (aj (dO (aj (pv 1) (aj (pv 2) au))) au))))
 (az (cF (bF (fJ bW) (cZ (aj (pv 1) (aj (pv 2) au))) (pv 4) rfl)
 (aF jF)
 bu)
 (az (cF (rW (jj (bz eO j5 rfl bQ (aj (pv 0) (aj (pv 1) (aj (pv 2) au))))))
 (aF jF)
 bu)
 (az (tM (i:=5) (N':=["tail", "head", "arrow"]) (ρ:=[some 1,some 2,none]) rfl nd rfl Υ (dW.of rfl (by kernel_rfl)) (eY (pv 4)) (fun _ _ _ _ _=>(bf (i:=2) (by show (["tail", "head", "arrow"]:List Str).Nodup; decide +kernel) rfl Υ)) (fX rfl) (fun _ _ _ _ _=>(tL (bF (uM bW) (pv 2) (cZ (aj (pv 0) (aj (pv 1) au))) (cG _)))) (fun _ _ _ _ _=>(pv 2)))
 (aF (bK (bz km sE rfl bQ (aj (pv 3) (aj (aW cz (pv 5) (dO (aj (cZ (aj (pv 2) (aj (pv 1) au))) au))) au)))))))))),
  _root_.A.qQ (N:=["net", "tail", "head", "names", "arrows", "others"]) (M:=Mo []) (aL (Vj (K:=K) (.t [3,4]) δ (ao 0 rfl))
 (aL (t8 (AE.p (bR (aC (AE.w (ao 3 rfl)) (aC (AW.nv (AE.w (ie (aA (ao 1 rfl) (aA (ao 2 rfl) aO))))) bj)))))
 (aL (cV (bC (AE.p (aB jM (AE.p (iJ (aA (ao 1 rfl) (aA (ao 2 rfl) aO)))) (AE.p (ao 4 rfl)))))
 jN
 bw)
 (aL (cV (sX (q8 (AE.p (bR (aC (AE.w (ao 0 rfl)) (aC (AE.w (ao 1 rfl)) (aC (AE.w (ao 2 rfl)) bj)))))))
 jN
 bw)
 (aL (bO 5 rfl (AE.nv (gC (K:=K) (tg:=(.n 2)) (jh (AE.p (ao 4 rfl))) δ (bC (AE.p (aB K9 (AE.p (ao 2 rfl)) (AE.p (iJ (aA (ao 0 rfl) (aA (ao 1 rfl) aO))))))) (ao 2 rfl))))
 (dm (AE.w (bR (aC (AE.w (ao 3 rfl)) (aC (AE.w (aB gH (AE.p (ao 5 rfl)) (AE.np (ie (aA (iJ (aA (ao 2 rfl) (aA (ao 1 rfl) aO))) aO))))) bj)))))))))) δ h⟩)
theorem z6 {f:Addr} {fd:FuncData} (F:oG K "net_turned" "net_turned" lR f fd) (T:Txt mg) (O:Own mg base) (km:nU P w K mg base dF 6 "net_made" ["names", "arrows"] (lF gU)) (eO:nU P w K mg base dF 3 "can_be_turned" ["net", "tail", "head"] (lF dw)) (iU:nU P w K mg base (BZ P w) 1 "refuse_strangers" ["names", "asked"] (X4 Tb.cl bL)):cY P w K mg base (BZ P w) 7 f fd ["net", "tail", "head"] (X4 Tb.cl cD) :=
 F.okX kE (fun vs H Q E h=>ach h) (fun cdv A outer s H vs Q E hr h=>by
  have nd:=kE.nd
  have hu:=eV hr
  have bW:=hr.units
  have sE:=hr.mono (show 6≤_ by decide)
  have sH:=hr.mono (show 1≤_ by decide)
  have j5:=hr.mono (show 3≤_ by decide)
  xt ⟨_,(az (Ep (pv 0) (qg rfl (cM (bf (i:=3) nd rfl Υ) (cM (bf (i:=4) nd rfl Υ) lV))))
 (az (dH (bz iU sH rfl Wi (aj (pv 3) (aj (dO (aj (pv 1) (aj (pv 2) au))) au))))
 (az (cF (bF (fJ bW) (cZ (aj (pv 1) (aj (pv 2) au))) (pv 4) rfl)
 (aF (zQ PySem.F.excBase_ValueError O.O8 (Eu (gW (tX (by decide +kernel)) (gW (vR (pv 1)) (gW (tX (by decide +kernel)) (gW (vR (pv 2)) Gb)))) δ) rfl))
 bu)
 (az (cF (rW (jj (bz eO j5 rfl bQ (aj (pv 0) (aj (pv 1) (aj (pv 2) au))))))
 (aF (zQ PySem.F.excBase_ValueError O.Sy (Eu (gW (tX (by decide +kernel)) (gW (vR (pv 1)) (gW (tX (by decide +kernel)) (gW (vR (pv 2)) (gW (tX (by decide +kernel)) Gb))))) δ) rfl))
 bu)
 (az (tM (i:=5) (N':=["tail", "head", "arrow"]) (ρ:=[some 1,some 2,none]) rfl nd rfl Υ (dW.of rfl (by kernel_rfl)) (eY (pv 4)) (fun _ _ _ _ _=>(bf (i:=2) (by show (["tail", "head", "arrow"]:List Str).Nodup; decide +kernel) rfl Υ)) (fX rfl) (fun _ _ _ _ _=>(tL (bF (uM bW) (pv 2) (cZ (aj (pv 0) (aj (pv 1) au))) (cG _)))) (fun _ _ _ _ _=>(pv 2)))
 (aF (bK (bz km sE rfl bQ (aj (pv 3) (aj (aW cz (pv 5) (dO (aj (cZ (aj (pv 2) (aj (pv 1) au))) au))) au)))))))))),
  _root_.A.abq (N:=["net", "tail", "head", "names", "arrows", "others"]) (M:=Mo []) (wj (xH (Vj (K:=K) (.t [3,4]) δ (ao 0 rfl)))
 (wj (Vh (aC (AE.w (ao 3 rfl)) (aC (AW.nv (AE.w (ie (aA (ao 1 rfl) (aA (ao 2 rfl) aO))))) bj)))
 (wj (La (bC (AE.p (aB jM (AE.p (iJ (aA (ao 1 rfl) (aA (ao 2 rfl) aO)))) (AE.p (ao 4 rfl)))))
 (xG (gQ tR (gQ (vI 1 rfl) (gQ tR (gQ (vI 2 rfl) Et)))))
 (xH bw))
 (wj (La (sX (q8 (AE.p (bR (aC (AE.w (ao 0 rfl)) (aC (AE.w (ao 1 rfl)) (aC (AE.w (ao 2 rfl)) bj)))))))
 (xG (gQ tR (gQ (vI 1 rfl) (gQ tR (gQ (vI 2 rfl) (gQ tR Et))))))
 (xH bw))
 (wj (xH (bO 5 rfl (AE.nv (gC (K:=K) (tg:=(.n 2)) (jh (AE.p (ao 4 rfl))) δ (bC (AE.p (aB K9 (AE.p (ao 2 rfl)) (AE.p (iJ (aA (ao 0 rfl) (aA (ao 1 rfl) aO))))))) (ao 2 rfl)))))
 (xH (dm (AE.w (bR (aC (AE.w (ao 3 rfl)) (aC (AE.w (aB gH (AE.p (ao 5 rfl)) (AE.np (ie (aA (iJ (aA (ao 2 rfl) (aA (ao 1 rfl) aO))) aO))))) bj))))))))))) δ h⟩)
abbrev wL:Stmt:=top 40
theorem zF:bG ["_law_found", "_law_due", "_law_one", "_law_other"] ["_law_found", "_law_due"] (aQ wL):=Ξ
theorem zY {f:Addr} {fd:FuncData} (F:oG K "_law_alike" "_law_alike" wL f fd) (T:Txt mg)  (self:∀ n,cY P w K mg base dF (n + 1) f fd ["_law_found", "_law_due"] (lF (cu n))→nU P w K mg base dF (n + 1) "_law_alike" ["_law_found", "_law_due"] (lF (cu n))):∀ n,cY P w K mg base dF (n + 1) f fd ["_law_found", "_law_due"] (lF (cu n))
 | 0=>PK
 | n + 1=>F.ok zF (fun vs H Q E h=>qX h) (fun cdv A outer s H vs Q E hr h=>by
  have jA:∀ m:Nat,m = n→nU P w K mg base dF (m + 1) "_law_alike" ["_law_found", "_law_due"] (lF (cu m)):=fun m e=>by subst e; xt self m (zY F T  self m)
  have jA:=fun m:Nat=>(jA n rfl:nU P w K mg base dF (n + 1) "_law_alike" ["_law_found", "_law_due"] (lF (cu n)))
  have nd:=zF.nd
  have hu:=eV hr
  have bW:=hr.units
  have qt:=hr.mono (show (n + 1)≤_ by omega)
  xt ⟨_,(az (cF (PW.pt (pw_or (jj (bc lA rfl T.bI boot_isinstance (aj (pv 1) (aj (pG rfl T.Nv boot_str) au)))) (pw_or1 (jj (bc lA rfl T.bI boot_isinstance (aj (pv 1) (aj (pG rfl T.Jk boot_int) au)))))))
 (az (cF (PW.pt (pw_or (bF (uM bW) (bc lA rfl T.bI boot_isinstance (aj (pv 0) (aj (pG rfl T.U3 boot_bool) au))) (bc lA rfl T.bI boot_isinstance (aj (pv 1) (aj (pG rfl T.U3 boot_bool) au))) (cG _)) (pw_or1 (bF (uM bW) (bc lA rfl T.bI boot_isinstance (aj (pv 0) (aj (pG rfl T.Nv boot_str) au))) (bc lA rfl T.bI boot_isinstance (aj (pv 1) (aj (pG rfl T.Nv boot_str) au))) (cG _)))))
 (aF (bK uw))
 bu)
 (aF (bK (J6 (bc Zp.Df rfl T.bI boot_isinstance (aj (pv 0) (aj (cZ (aj (pG rfl T.Jk boot_int) (aj (pG rfl T.Nv boot_str) au))) au))) (J5 (nH (jY bW) (pv 0) (pv 1) (cG _)))))))
 bu)
 (az (cF (PW.pt (pw_or (bF (uM bW) (bc lA rfl T.bI boot_isinstance (aj (pv 0) (aj (pG rfl T.lK boot_list) au))) (bc lA rfl T.bI boot_isinstance (aj (pv 1) (aj (pG rfl T.lK boot_list) au))) (cG _)) (pw_or1 (rW (jj (bc Zp.Df rfl T.bI boot_isinstance (aj (pv 0) (aj (cZ (aj (pG rfl T.lK boot_list) (aj (pG rfl T.fG boot_tuple) au))) au))))))))
 (aF (bK uw))
 bu)
 (az (cF (bF (uM bW) (bc dN rfl T.fO PySem.boot_len (aj (pv 0) au)) (bc dN rfl T.fO PySem.boot_len (aj (pv 1) au)) (cG _))
 (aF (bK uw))
 bu)
 (az (jG PassesOwn.never rfl (Zp.Wc rfl T.acM (pv 0) (pv 1)) (qg rfl (cM (bf (i:=2) nd rfl Υ) (cM (bf (i:=3) nd rfl Υ) lV)))
 (aF (cF (rW (jj (bz (jA n) qt rfl bQ (aj (pv 2) (aj (pv 3) au)))))
 (aF (bK uw))
 bu)))
 (aF (bK uw)))))),
  _root_.A.qQ (N:=["_law_found", "_law_due", "_law_one", "_law_other"]) (M:=Mo []) (aL (cV (Ny (q8 (AE.p (Jw (ty_str K) (AE.p (ao 1 rfl))))) (q8 (AE.p (Jw (ty_int K) (AE.p (ao 1 rfl))))))
 (aL (cV (Ny (bC (AE.p (aB K9 (AE.p (Jw (ty_bool K) (AE.p (ao 0 rfl)))) (AE.p (Jw (ty_bool K) (AE.p (ao 1 rfl))))))) (bC (AE.p (aB K9 (AE.p (Jw (ty_str K) (AE.p (ao 0 rfl)))) (AE.p (Jw (ty_str K) (AE.p (ao 1 rfl))))))))
 (dm (AE.w BX))
 bw)
 (dm (AE.w (Vq (AE.p (Zp.YH (Zp.aa5 (ty_int K) (ty_str K)) δ (AE.p (ao 0 rfl)))) (aB xu (AE.p (ao 0 rfl)) (AE.p (ao 1 rfl)))))))
 bw)
 (aL (cV (Ny (bC (AE.p (aB K9 (AE.p (Jw (ty_list K) (AE.p (ao 0 rfl)))) (AE.p (Jw (ty_list K) (AE.p (ao 1 rfl))))))) (sX (q8 (AE.p (Zp.YH (Zp.aa5 (ty_list K) (ty_tuple K)) δ (AE.p (ao 0 rfl)))))))
 (dm (AE.w BX))
 bw)
 (aL (cV (bC (AE.p (aB K9 (AE.p (iT fO (aA (AE.p (ao 0 rfl)) aO))) (AE.p (iT fO (aA (AE.p (ao 1 rfl)) aO))))))
 (dm (AE.w BX))
 bw)
 (aL (kh (K:=K) (tg:=(.t [2,3])) (Zp.Xw (ao 0 rfl) (ao 1 rfl)) δ
 (cV (sX (q8 (AE.p (bR (aC (AE.w (ao 2 rfl)) (aC (AE.w (ao 3 rfl)) bj))))))
 (dm (AE.w BX))
 bw))
 (dm (AE.w BX)))))) δ h⟩)
abbrev uJ:Stmt:=top 44
theorem yd:bG ["_law_arrows", "_law_name"] ["_law_arrows", "_law_name"] (aQ uJ):=Ξ
theorem HD {f:Addr} {fd:FuncData} (F:oG K "_law_elders" "_law_elders" uJ f fd) (T:Txt mg)  : cY P w K mg base dF 1 f fd ["_law_arrows", "_law_name"] (yF fc) :=
 F.ok yd (fun vs H Q E h=>BK h) (fun cdv A outer s H vs Q E hr h=>by
  have nd:=yd.nd
  have hu:=eV hr
  have bW:=hr.units
  xt ⟨_,(aF (bK (jg (N':=["_law_name", "_law_tail", "_law_head"]) (ρ:=[some 1,none,none]) rfl (dW.of rfl (by kernel_rfl)) (eY (pv 0)) (fun _ _ _ _ _=>(qg rfl (cM (bf (i:=1) (by show (["_law_name", "_law_tail", "_law_head"]:List Str).Nodup; decide +kernel) rfl Υ) (cM (bf (i:=2) (by show (["_law_name", "_law_tail", "_law_head"]:List Str).Nodup; decide +kernel) rfl Υ) lV)))) (KZ (pO rfl (pO rfl K1 xj) (FZ xj))) (fun _ _ _ _ _=>(tL (bF (jY bW) (pv 2) (pv 0) (cG _)))) (fun _ _ _ _ _=>(pv 1))))),
  _root_.A.runN (N:=["_law_arrows", "_law_name"]) (M:=Mo []) (t7 (AE.w (gC (K:=K) (tg:=(.t [1,2])) (jh (AE.p (ao 0 rfl))) δ (bC (AE.p (aB xu (AE.p (ao 2 rfl)) (AE.p (ao 0 rfl))))) (ao 1 rfl)))) δ h⟩)
abbrev rP:Stmt:=top 45
theorem vD:bG ["_law_arrows", "_law_found", "_law_tail", "_law_head"] ["_law_arrows"] (aQ rP):=Ξ
theorem Fb {f:Addr} {fd:FuncData} (F:oG K "_law_covered" "_law_covered" rP f fd) (T:Txt mg) (qI:nU P w K mg base dF 1 "_law_elders" ["_law_arrows", "_law_name"] (yF fc)):cY P w K mg base dF 2 f fd ["_law_arrows"] (yF ju) :=
 F.ok vD (fun vs H Q E h=>BK h) (fun cdv A outer s H vs Q E hr h=>by
  have nd:=vD.nd
  have hu:=eV hr
  have bW:=hr.units
  have yg:=hr.mono (show 1≤_ by decide)
  xt ⟨_,(az (bH (i:=1) nd rfl Υ (dO au))
 (az (jG PassesOwn.never rfl (eY (pv 0)) (qg rfl (cM (bf (i:=2) nd rfl Υ) (cM (bf (i:=3) nd rfl Υ) lV)))
 (aF (cF (bF (jY bW) (bc Bc rfl T.Be boot_sorted (aj (bz qI yg rfl bQ (aj (pv 0) (aj (pv 3) au))) au)) (bc Bc rfl T.Be boot_sorted (aj (aW cz (bz qI yg rfl bQ (aj (pv 0) (aj (pv 2) au))) (dO (aj (pv 2) au))) au)) (cG _))
 (aF (dH (mU PySem.F.plainAttrs_list PySem.F.slot_list_append PySem.F.type_list_append d8 (pv 1) (aj (cZ (aj (pv 2) (aj (pv 3) au))) au))))
 bu)))
 (aF (bK (pv 1))))),
  _root_.A.runN (N:=["_law_arrows", "_law_found", "_law_tail", "_law_head"]) (M:=Mo [1]) (aL (m9 1 rfl (ie aO))
 (aL (kh (K:=K) (tg:=(.t [2,3])) (qD (ao 0 rfl)) δ
 (cV (bC (AE.p (aB xu (AE.np (iT Nx (aA (AE.np (jO (aC (AE.w (ao 0 rfl)) (aC (AE.w (ao 3 rfl)) bj)))) aO))) (AE.np (iT Nx (aA (AE.p (aB gH (AE.np (jO (aC (AE.w (ao 0 rfl)) (aC (AE.w (ao 2 rfl)) bj)))) (AE.np (ie (aA (ao 2 rfl) aO))))) aO))))))
 (fP 1 rfl (iJ (aA (ao 2 rfl) (aA (ao 3 rfl) aO))))
 bw))
 (mG 1 rfl))) δ h⟩)
abbrev rO:Stmt:=top 46
theorem vC:bG ["_law_arrows", "_law_arrow"] ["_law_arrows", "_law_arrow"] (aQ rO):=Ξ
theorem EY {f:Addr} {fd:FuncData} (F:oG K "_law_flipped" "_law_flipped" rO f fd) (T:Txt mg)  : cY P w K mg base dF 1 f fd ["_law_arrows", "_law_arrow"] (yF lq) :=
 F.ok vC (fun vs H Q E h=>BK h) (fun cdv A outer s H vs Q E hr h=>by
  have nd:=vC.nd
  have hu:=eV hr
  have bW:=hr.units
  xt ⟨_,(aF (bK (jg (N':=["_law_arrow", "_law_one"]) (ρ:=[some 1,none]) rfl (dW.of rfl (by kernel_rfl)) (eY (pv 0)) (fun _ _ _ _ _=>(bf (i:=1) (by show (["_law_arrow", "_law_one"]:List Str).Nodup; decide +kernel) rfl Υ)) (fX rfl) (fun _ _ _ _ _=>jf) (fun _ _ _ _ _=>(cO bN (dO (aj (pv 1) (aj (cZ (aj (cO bN (pv 1) aH (fun _ _=>rfl)) (aj (cO bN (pv 1) aH (fun _ _=>rfl)) au))) au))) (dq Qj rfl T.Jk boot_int (aj (nH (jY bW) (pv 1) (pv 0) (cG _)) au)) (fun _ _=>rfl)))))),
  _root_.A.runN (N:=["_law_arrows", "_law_arrow"]) (M:=Mo []) (t7 (AE.w (gC (K:=K) (tg:=(.n 1)) (jh (AE.p (ao 0 rfl))) δ lL (aB gB (AE.np (ie (aA (ao 1 rfl) (aA (iJ (aA (aB gB (AE.p (ao 1 rfl)) (AE.p aN)) (aA (aB gB (AE.p (ao 1 rfl)) (AE.p aN)) aO))) aO)))) (AE.p (iT Jk (aA (AE.p (aB xu (AE.p (ao 1 rfl)) (AE.p (ao 0 rfl)))) aO))))))) δ h⟩)
abbrev uI:Stmt:=top 47
theorem yc:bG ["_law_names", "_law_arrows", "_law_told", "_law_tail", "_law_head"] ["_law_names", "_law_arrows"] (aQ uI):=Ξ
theorem HB {f:Addr} {fd:FuncData} (F:oG K "_law_sorted" "_law_sorted" uI f fd) (T:Txt mg)  : cY P w K mg base dF 1 f fd ["_law_names", "_law_arrows"] (lF mY) :=
 F.ok yc (fun vs H Q E h=>qX h) (fun cdv A outer s H vs Q E hr h=>by
  have nd:=yc.nd
  have hu:=eV hr
  have bW:=hr.units
  xt ⟨_,(az (bH (i:=2) nd rfl Υ (dO au))
 (az (jG PassesOwn.never rfl (eY (pv 0)) (bf (i:=3) nd rfl Υ)
 (aF (jG PassesOwn.never rfl (eY (pv 0)) (bf (i:=4) nd rfl Υ)
 (aF (cF (bF (J9 bW) (cZ (aj (pv 3) (aj (pv 4) au))) (pv 1) rfl)
 (aF (dH (mU PySem.F.plainAttrs_list PySem.F.slot_list_append PySem.F.type_list_append d8 (pv 2) (aj (cZ (aj (pv 3) (aj (pv 4) au))) au))))
 bu)))))
 (aF (bK (cZ (aj (dq gZ rfl T.fG boot_tuple (aj (pv 0) au)) (aj (dq gZ rfl T.fG boot_tuple (aj (pv 2) au)) au))))))),
  _root_.A.qQ (N:=["_law_names", "_law_arrows", "_law_told", "_law_tail", "_law_head"]) (M:=Mo [2]) (aL (m9 2 rfl (ie aO))
 (aL (kh (K:=K) (tg:=(.n 3)) (qD (ao 0 rfl)) δ
 (kh (K:=K) (tg:=(.n 4)) (qD (ao 0 rfl)) δ
 (cV (bC (AE.p (aB aaD (AE.p (iJ (aA (ao 3 rfl) (aA (ao 4 rfl) aO)))) (AE.p (ao 1 rfl)))))
 (fP 2 rfl (iJ (aA (ao 3 rfl) (aA (ao 4 rfl) aO))))
 bw)))
 (dm (AE.w (iJ (aA (iT fG (aA (AE.p (ao 0 rfl)) aO)) (aA (iT fG (aA (xK 2) aO)) aO))))))) δ h⟩)
abbrev wK:Stmt:=top 43
theorem zE:bG ["_law_e", "_law_some"] ["_law_e"] (aQ wK):=Ξ
theorem Kf {f:Addr} {fd:FuncData} (F:oG K "_law_kinds" "_law_kinds" wK f fd) (T:Txt mg) (O:Own mg base) (Kt:Kit K):Jz P w K mg base 1 f fd ["_law_e"] (yF fQ) :=
 F.okH zE (fun vs H Q E h=>BK h) (fun cdv A outer s H vs Q E hr h=>by
  have nd:=zE.nd
  have bW:=hr.units
  xt ⟨_,(az (bH (i:=1) nd rfl Υ (dO au))
 (az (cF (jj (bc De rfl T.bI boot_isinstance (aj (pv 0) (aj (cZ (aj (eQ (v:=.ref (Tb.cl "NoLabel")) rfl O.Qp rfl) (aj (eQ (v:=.ref (Tb.cl "NoNet")) rfl O.Xo rfl) (aj (eQ (v:=.ref (Tb.cl "NoRow")) rfl O.Xn rfl) (aj (eQ (v:=.ref (Tb.cl "NoSuch")) rfl O.U7 rfl) (aj (eQ (v:=.ref (Tb.cl "NoText")) rfl O.U6 rfl) (aj (eQ (v:=.ref (Tb.cl "NoTie")) rfl O.Xm rfl) au))))))) au))))
 (aF (dH (mU PySem.F.plainAttrs_list PySem.F.slot_list_append PySem.F.type_list_append d8 (pv 1) (aj jm au))))
 bu)
 (az (cF (jj (bc De rfl T.bI boot_isinstance (aj (pv 0) (aj (cZ (aj (eQ (v:=.ref (Tb.cl "NoWord")) rfl O.U5 rfl) (aj (eQ (v:=.ref (Tb.cl "Ring")) rfl O.aaF rfl) (aj (eQ (v:=.ref (Tb.cl "Twice")) rfl O.Xl rfl) (aj (eQ (v:=.ref (Tb.cl "Unlike")) rfl O.U4 rfl) (aj (eQ (v:=.ref (Tb.cl "WrongSize")) rfl O.Jo rfl) au)))))) au))))
 (aF (dH (mU PySem.F.plainAttrs_list PySem.F.slot_list_append PySem.F.type_list_append d8 (pv 1) (aj jm au))))
 bu)
 (az (cF (jj (bc v7 rfl T.bI boot_isinstance (aj (pv 0) (aj (eQ (v:=.ref (Tb.cl "Locked")) rfl O.U9 rfl) au))))
 (aF (dH (mU PySem.F.plainAttrs_list PySem.F.slot_list_append PySem.F.type_list_append d8 (pv 1) (aj jm au))))
 bu)
 (az (cF (jj (bc v7 rfl T.bI boot_isinstance (aj (pv 0) (aj (eQ (v:=.ref (Tb.cl "NoArrow")) rfl O.Qq rfl) au))))
 (aF (dH (mU PySem.F.plainAttrs_list PySem.F.slot_list_append PySem.F.type_list_append d8 (pv 1) (aj jm au))))
 bu)
 (az (cF (jj (bc v7 rfl T.bI boot_isinstance (aj (pv 0) (aj (eQ (v:=.ref (Tb.cl "NoName")) rfl O.U8 rfl) au))))
 (aF (dH (mU PySem.F.plainAttrs_list PySem.F.slot_list_append PySem.F.type_list_append d8 (pv 1) (aj jm au))))
 bu)
 (az (cF (rW (jj (bc v7 rfl T.bI boot_isinstance (aj (pv 0) (aj (pG rfl O.Fg (by kernel_rfl)) au)))))
 (aF (dH (mU PySem.F.plainAttrs_list PySem.F.slot_list_append PySem.F.type_list_append d8 (pv 1) (aj jm au))))
 bu)
 (aF (bK (pv 1)))))))))),
  _root_.A.runN (N:=["_law_e", "_law_some"]) (M:=Mo [1]) (aL (m9 1 rfl (ie aO))
 (aL (cV (q8 (AE.p (Vp (Cs:=[Tb.cl "NoLabel", Tb.cl "NoNet", Tb.cl "NoRow", Tb.cl "NoSuch", Tb.cl "NoText", Tb.cl "NoTie"]) rfl (by simp) Kt.gj)))
 (fP 1 rfl ni)
 bw)
 (aL (cV (q8 (AE.p (Vp (Cs:=[Tb.cl "NoWord", Tb.cl "Ring", Tb.cl "Twice", Tb.cl "Unlike", Tb.cl "WrongSize"]) rfl (by simp) Kt.iM)))
 (fP 1 rfl ni)
 bw)
 (aL (cV (q8 (AE.p (N7 rfl (.own _) Kt.TJ)))
 (fP 1 rfl ni)
 bw)
 (aL (cV (q8 (AE.p (N7 rfl (.own _) Kt.Pu)))
 (fP 1 rfl ni)
 bw)
 (aL (cV (q8 (AE.p (N7 rfl (.own _) Kt.TF)))
 (fP 1 rfl ni)
 bw)
 (aL (cV (sX (q8 (AE.p (N7 rfl (.blt _) Kt.FJ))))
 (fP 1 rfl ni)
 bw)
 (mG 1 rfl)))))))) δ h⟩)
abbrev rN:Stmt:=top 48
theorem vB:bG ["_law_net_here", "_law_tail", "_law_head", "_law_kinds_here", "_law_e"] ["_law_net_here", "_law_tail", "_law_head"] (aQ rN):=Ξ
theorem Ez {f:Addr} {fd:FuncData} (F:oG K "_law_refused" "_law_refused" rN f fd) (T:Txt mg) (O:Own mg base) (Kt:Kit K)  (oU:nU P w K mg base (BZ P w) 7 "net_turned" ["net", "tail", "head"] (X4 Tb.cl cD)) (vd:aaU P w K mg base 1 "_law_kinds" ["_law_e"] (yF fQ)):cY P w K mg base dF 8 f fd ["_law_net_here", "_law_tail", "_law_head"] (lF cW) :=
 F.ok vB (fun vs H Q E h=>qX h) (fun cdv A outer s H vs Q E hr h=>by
  have nd:=vB.nd
  have hu:=eV hr
  have bW:=hr.units
  have Am:=hr.mono (show 7≤_ by decide)
  have Il:=fun ea:Addr=>(hr.mono (show 1≤_ by decide)).acw (.ref ea)
  xt ⟨_,(az (bH (i:=3) nd rfl Υ (dO au))
 (az (Zq (i:=4) rfl rfl rfl nd rfl rfl rfl O.Gq Kt.Fp
 (Wb (RM rfl oU Am rfl (aj (pv 0) (aj (pv 1) (aj (pv 2) au)))))
 (fun ea=>(aF (bH (i:=3) nd rfl Υ (Wg (E:=fun _ _ _=>False) vd (Il ea) rfl (aj (pv 4) au))))))
 (aF (bK (pv 3))))),
  _root_.A.qQ (N:=["_law_net_here", "_law_tail", "_law_head", "_law_kinds_here", "_law_e"]) (M:=Mo []) (aL (bO 3 rfl (AE.nv (ie aO)))
 (aL (aaI (cs:=["NoName", "NoArrow", "Locked"]) rfl
 (Xp (aC (AE.w (ao 0 rfl)) (aC (AE.w (ao 1 rfl)) (aC (AE.w (ao 2 rfl)) bj))))
 (bO 3 rfl (AE.nv (jO (aC (aaG 4 rfl) bj)))))
 (dm (AE.w (ao 3 rfl))))) δ h⟩)
abbrev qb:Stmt:=top 50
theorem uv:bG ["_law_net_here", "_law_tail", "_law_head", "_law_due", "_law_found"] ["_law_net_here", "_law_tail", "_law_head"] (aQ qb):=Ξ
theorem Bx {f:Addr} {fd:FuncData} (F:oG K "_law_question" "_law_question" qb f fd) (T:Txt mg) (mD:nU P w K mg base dF 7 "net_turned" ["net", "tail", "head"] (lF iC)) (jA:∀ n,nU P w K mg base dF (n + 1) "_law_alike" ["_law_found", "_law_due"] (lF (cu n))) (tK:nU P w K mg base dF 2 "_law_covered" ["_law_arrows"] (yF ju)) (tH:nU P w K mg base dF 1 "_law_flipped" ["_law_arrows", "_law_arrow"] (yF lq)) (u9:nU P w K mg base dF 1 "_law_sorted" ["_law_names", "_law_arrows"] (lF mY)) (lE:nU P w K mg base dF 8 "_law_refused" ["_law_net_here", "_law_tail", "_law_head"] (lF cW)):cY P w K mg base dF 9 f fd ["_law_net_here", "_law_tail", "_law_head"] (lF fK) :=
 F.ok uv (fun vs H Q E h=>qX h) (fun cdv A outer s H vs Q E hr h=>by
  have nd:=uv.nd
  have hu:=eV hr
  have bW:=hr.units
  have uy:=hr.mono (show 7≤_ by decide)
  have qt:=hr.mono (show (4 + 1)≤_ by decide)
  have FW:=hr.mono (show 2≤_ by decide)
  have FT:=hr.mono (show 1≤_ by decide)
  have Ik:=hr.mono (show 1≤_ by decide)
  have qp:=hr.mono (show 8≤_ by decide)
  xt ⟨_,(az (cF (PW.pt (pw_or (bF (fJ bW) (pv 1) (cO bN (pv 0) aH (fun _ _=>rfl)) rfl) (pw_or1 (bF (fJ bW) (pv 2) (cO bN (pv 0) aH (fun _ _=>rfl)) rfl))))
 (aF (bK (nH (jY bW) (bz lE qp rfl bQ (aj (pv 0) (aj (pv 1) (aj (pv 2) au)))) (dO (aj jm au)) (cG _))))
 bu)
 (az (cF (bF (fJ bW) (cZ (aj (pv 1) (aj (pv 2) au))) (cO bN (pv 0) aH (fun _ _=>rfl)) rfl)
 (aF (bK (nH (jY bW) (bz lE qp rfl bQ (aj (pv 0) (aj (pv 1) (aj (pv 2) au)))) (dO (aj jm au)) (cG _))))
 bu)
 (az (cF (bF (fJ bW) (cZ (aj (pv 1) (aj (pv 2) au))) (bz tK FW rfl bQ (aj (dq qz rfl T.lK boot_list (aj (cO bN (pv 0) aH (fun _ _=>rfl)) au)) au)) rfl)
 (aF (bK (nH (jY bW) (bz lE qp rfl bQ (aj (pv 0) (aj (pv 1) (aj (pv 2) au)))) (dO (aj jm au)) (cG _))))
 bu)
 (az (bH (i:=3) nd rfl Υ (bz u9 Ik rfl bQ (aj (cO bN (pv 0) aH (fun _ _=>rfl)) (aj (bz tH FT rfl bQ (aj (dq qz rfl T.lK boot_list (aj (cO bN (pv 0) aH (fun _ _=>rfl)) au)) (aj (cZ (aj (pv 1) (aj (pv 2) au))) au))) au))))
 (az (bH (i:=4) nd rfl Υ (bz mD uy rfl bQ (aj (pv 0) (aj (pv 1) (aj (pv 2) au)))))
 (aF (bK (J6 (bz (jA 4) qt rfl bQ (aj (pv 4) (aj (pv 3) au))) (J5 (bz (jA 4) qt rfl bQ (aj (bz mD uy rfl bQ (aj (pv 3) (aj (pv 2) (aj (pv 1) au)))) (aj (pv 0) au)))))))))))),
  _root_.A.qQ (N:=["_law_net_here", "_law_tail", "_law_head", "_law_due", "_law_found"]) (M:=Mo []) (aL (cV (Ny (bC (AE.p (aB jM (AE.p (ao 1 rfl)) (AE.p (aB gB (AE.p (ao 0 rfl)) (AE.p aN)))))) (bC (AE.p (aB jM (AE.p (ao 2 rfl)) (AE.p (aB gB (AE.p (ao 0 rfl)) (AE.p aN)))))))
 (dm (AE.w (aB xu (AE.p (bR (aC (AE.w (ao 0 rfl)) (aC (AE.w (ao 1 rfl)) (aC (AE.w (ao 2 rfl)) bj))))) (AE.np (ie (aA ni aO))))))
 bw)
 (aL (cV (bC (AE.p (aB jM (AE.p (iJ (aA (ao 1 rfl) (aA (ao 2 rfl) aO)))) (AE.p (aB gB (AE.p (ao 0 rfl)) (AE.p aN))))))
 (dm (AE.w (aB xu (AE.p (bR (aC (AE.w (ao 0 rfl)) (aC (AE.w (ao 1 rfl)) (aC (AE.w (ao 2 rfl)) bj))))) (AE.np (ie (aA ni aO))))))
 bw)
 (aL (cV (bC (AE.p (aB jM (AE.p (iJ (aA (ao 1 rfl) (aA (ao 2 rfl) aO)))) (AE.np (jO (aC (AW.nv (AE.w (iT lK (aA (AE.p (aB gB (AE.p (ao 0 rfl)) (AE.p aN))) aO)))) bj))))))
 (dm (AE.w (aB xu (AE.p (bR (aC (AE.w (ao 0 rfl)) (aC (AE.w (ao 1 rfl)) (aC (AE.w (ao 2 rfl)) bj))))) (AE.np (ie (aA ni aO))))))
 bw)
 (aL (bO 3 rfl (bR (aC (AE.w (aB gB (AE.p (ao 0 rfl)) (AE.p aN))) (aC (AW.nv (AE.w (jO (aC (AW.nv (AE.w (iT lK (aA (AE.p (aB gB (AE.p (ao 0 rfl)) (AE.p aN))) aO)))) (aC (AE.w (iJ (aA (ao 1 rfl) (aA (ao 2 rfl) aO)))) bj))))) bj))))
 (aL (bO 4 rfl (bR (aC (AE.w (ao 0 rfl)) (aC (AE.w (ao 1 rfl)) (aC (AE.w (ao 2 rfl)) bj)))))
 (dm (AE.w (Vq (AE.p (bR (aC (AE.w (ao 4 rfl)) (aC (AE.w (ao 3 rfl)) bj)))) (bR (aC (AE.w (bR (aC (AE.w (ao 3 rfl)) (aC (AE.w (ao 2 rfl)) (aC (AE.w (ao 1 rfl)) bj))))) (aC (AE.w (ao 0 rfl)) bj))))))))))) δ h⟩)
abbrev Rm:Stmt:=top 51
theorem Rj:bG ["_law_script", "_law_net_here", "_law_draw", "_law_pair_here"] ["_law_script"] (aQ Rm):=Ξ
theorem ZL {f:Addr} {fd:FuncData} (F:oG K "law" "law" Rm f fd) (T:Txt mg) (GK:nU P w K mg base dF 2 "_law_net" ["_law_script", "_law_most"] (lF pK)) (oR:nU P w K mg base dF 2 "_law_questions" ["_law_script", "_law_many"] (yF gh)) (Br:nU P w K mg base dF 2 "_law_pair" ["_law_net_here", "_law_draw"] (yF pJ)) (qH:nU P w K mg base dF 9 "_law_question" ["_law_net_here", "_law_tail", "_law_head"] (lF fK)):cY P w K mg base dF 10 f fd ["_law_script"] (lF wZ) :=
 F.ok Rj (fun vs H Q E h=>qX h) (fun cdv A outer s H vs Q E hr h=>by
  have nd:=Rj.nd
  have hu:=eV hr
  have bW:=hr.units
  have T3:=hr.mono (show 2≤_ by decide)
  have Al:=hr.mono (show 2≤_ by decide)
  have Pz:=hr.mono (show 2≤_ by decide)
  have BP:=hr.mono (show 9≤_ by decide)
  xt ⟨_,(az (bH (i:=1) nd rfl Υ (bz GK T3 rfl bQ (aj (pv 0) (aj aH au))))
 (az (jG PassesOwn.never rfl (eY (bz oR Al rfl bQ (aj (pv 0) (aj aH au)))) (bf (i:=2) nd rfl Υ)
 (az (bH (i:=3) nd rfl Υ (bz Br Pz rfl bQ (aj (pv 1) (aj (pv 2) au))))
 (aF (cF (rW (jj (bz qH BP rfl bQ (aj (pv 1) (aj (cO bN (pv 3) aH (fun _ _=>rfl)) (aj (cO bN (pv 3) aH (fun _ _=>rfl)) au))))))
 (aF (bK uw))
 bu))))
 (aF (bK uw)))),
  _root_.A.qQ (N:=["_law_script", "_law_net_here", "_law_draw", "_law_pair_here"]) (M:=Mo []) (aL (bO 1 rfl (bR (aC (AE.w (ao 0 rfl)) (aC (AE.w aN) bj))))
 (aL (kh (K:=K) (tg:=(.n 2)) (qD (AE.nv (jO (aC (AE.w (ao 0 rfl)) (aC (AE.w aN) bj))))) δ
 (aL (bO 3 rfl (AE.nv (jO (aC (AE.w (ao 1 rfl)) (aC (AE.w (ao 2 rfl)) bj)))))
 (cV (sX (q8 (AE.p (bR (aC (AE.w (ao 1 rfl)) (aC (AE.w (aB gB (AE.p (ao 3 rfl)) (AE.p aN))) (aC (AE.w (aB gB (AE.p (ao 3 rfl)) (AE.p aN))) bj)))))))
 (dm (AE.w BX))
 bw)))
 (dm (AE.w BX)))) δ h⟩)
end
end Jx
namespace L2
open PySem PySem.Spec PyProof.Rows
theorem jX {K:Φ} {h:Heap} {mg:Str→Option Value} {y:Str} {D:Addr} {bb:List Value} {nw:String} (X:K.In h) (G:h.Ns mainGlobals mg) (a:PySem.W.nsIn K mainGlobals y = some (some (.ref D))) (t:PySem.W.excIn K D bb nw = true):OwnCls y D bb nw mg h:=by
 rf ⟨PySem.W.mg_of X G a,?_⟩
 simp only [PySem.W.excIn] at t
 split at t
 case h_2=>cases t
 case h_1 d1 c1 s1 e1 =>
  split at t
  case h_2=>cases t
  case h_1 D' m1 p0 p1 p2 p3 b1 p5 em es =>
   ob ⟨n1,bs,mr,N1,qn,hd,sn,sb,ab,co,de⟩:=c1
   ob ⟨l1⟩:=s1
   dsimp only at em es t
   subst em
   subst es
   have t1:=Bool.and_eq_true_iff.mp t
   have t2:=Bool.and_eq_true_iff.mp t1.1
   have t3:=Bool.and_eq_true_iff.mp t2.1
   have t4:=Bool.and_eq_true_iff.mp t3.1
   have t5:=Bool.and_eq_true_iff.mp t4.1
   have u1:=beq_iff_eq.mp t5.1
   have u2:=beq_iff_eq.mp t5.2
   have u3:de = false:=by simpa using t4.2
   subst u1 u2 u3
   xt ⟨m1,N1,n1,qn,bs,hd,sn,sb,ab,co,d1,p0,p1,p2,p3,p5,h.nsMap N1,X _ _ e1,.of_isNs (PySem.W.isNs_of_in X t2.2),PySem.W.nsMap_none_of_in X t2.2 (beq_iff_eq.mp t1.2),PySem.W.tail_of_in X t3.2⟩
theorem w6 {R:String→Bool→Prop}:∀ x k,(fun c=>([]:List (String×Bool)).lookup c) x = some k→R x k:=fun _ _ h=>nomatch h
theorem dX {n:String} {b:Bool} {l:List (String×Bool)} {R:String→Bool→Prop} (h:R n b) (t:∀ x k,(fun c=>l.lookup c) x = some k→R x k):∀ x k,(fun c=>((n,b) :: l).lookup c) x = some k→R x k:=by
 intro x k e
 simp only [List.lookup] at e
 split at e
 ·rename_i q
  cases e
  rw [beq_iff_eq.mp q]; xt h
 ·xt t x k e
theorem ZZ {R:Addr→Prop} {cl:String→Addr}:∀ C,(∃ c∈([]:List String),C = cl c)→R C:=fun C ⟨c,h,_⟩=>nomatch h
theorem Fl {n:String} {l:List String} {R:Addr→Prop} {cl:String→Addr} (h:R (cl n)) (t:∀ C,(∃ c∈l,C = cl c)→R C):∀ C,(∃ c∈n :: l,C = cl c)→R C:=fun C ⟨c,hc,e⟩=>by
 cases hc with
 | head=>rw [e]; xt h
 | tail _ k=>xt t C ⟨c,k,e⟩
theorem q9.adO {P:Program} {w:World} {K:Φ} {mg:Str→Option Value} {CX:GP} {k:Nat} {x p:Str} {st:Stmt} {sp:Sp} {fa c T:Addr} (F:q9 K mg x st [p]) (hm:mg x = some (.ref fa)) (h:∀ base,K.In base→base.Ns mainGlobals mg→BM mg base→PySem.W.CodeHd base c T→∀ f fd,oG K x x st f fd→cY P w K mg base CX k f fd [p] sp) :
 ∃ fd:FuncData,(∀ (s:Shared) (u:Value),BindsTo s fd ⟨[u],[]⟩ [(p,u)])∧∀ base:Heap,K.In base→base.Ns mainGlobals mg→BM mg base→PySem.W.CodeHd base c T→cY P w K mg base CX k fa fd [p] sp:=by
 ob ⟨f,fd,h1,h2,h3,h5,h4⟩:=F.ex
 rw [h1] at hm; cases hm
 xt ⟨fd,fun s u=>h5 s [u] rfl,fun base kb nb b1 b2=>h base kb nb b1 b2 _ fd h4⟩
theorem aeo {P:Program} {w:World} {K:Φ} {mg:Str→Option Value} {base:Heap} {CX:GP} {lv:Nat→Nat} {x:Str} {st:Stmt} {ps:List Str} {sp:Nat→Sp} (F:q9 K mg x st ps)
 (h:∀ f fd,oG K x x st f fd→(∀ n,cY P w K mg base CX (lv n) f fd ps (sp n)→nU P w K mg base CX (lv n) x ps (sp n))→∀ n,cY P w K mg base CX (lv n) f fd ps (sp n)) (n:Nat):nU P w K mg base CX (lv n) x ps (sp n):=by
 ob ⟨f,fd,h1,h2,h3,_,h4⟩:=F.ex
 have self:∀ n,cY P w K mg base CX (lv n) f fd ps (sp n)→nU P w K mg base CX (lv n) x ps (sp n):=fun n k=>⟨f,fd,h1,h2,h3,k⟩
 xt self n (h f fd h4 self n)
def Yl (K:Φ):Bool:=K.all fun p=>match p.2.cls with | .type "list" => false | _=>true
theorem SX {K:Φ} (h:Yl K = true) {a:Addr} {o:Obj} (e:K.lookup a = some o) (c:o.cls = .type "list"):False:=by
 have hm:(a,o)∈K:=by
  clear h
  induction K with
  | nil=>cases e
  | cons p r ih =>
   ob ⟨b,x⟩:=p
   simp only [List.lookup] at e
   split at e
   ·rename_i q; cases e; rw [beq_iff_eq.mp q]; xt List.Mem.head _
   ·xt List.Mem.tail _ (ih e)
 have h2:=List.all_eq_true.mp h _ hm
 simp only [c] at h2
 cases h2
end L2
namespace Mi
open PySem
@[simp] theorem f9 {α : Type} (a:α):pH (some a) = .ok a:=rfl
@[simp] theorem aaj {α : Type} {c:Prop} [Decidable c] (h:c) (r:Rs α):aK c r = r:=if_pos h
@[simp] theorem kZ (a b:Str):cI (.str a) (.str b) = decide (a = b):=by rw [cI]; by_cases h:a = b <;> simp [h]
@[simp] theorem Hs (a b:Int):cI (.int a) (.int b) = decide (a = b):=by rw [cI]; by_cases h:a = b <;> simp [h]
@[simp] theorem W6 (x:Str):(D.str x).dep = 0:=by simp [D.dep]
@[simp] theorem adg (x:Int):(D.int x).dep = 0:=by simp [D.dep]
@[simp] theorem aeh (x:Bool):(D.bl x).dep = 0:=by simp [D.dep]
@[simp] theorem ade:D.non.dep = 0:=by simp [D.dep]
@[simp] theorem adf (ds:List D):(D.lst ds).dep = b8 ds + 1:=by simp [D.dep]
@[simp] theorem adb (ds:List D):(D.tup ds).dep = b8 ds + 1:=by simp [D.dep]
@[simp] theorem aau:b8 [] = 0:=rfl
@[simp] theorem sO (d:D) (r:List D):b8 (d :: r) = max d.dep (b8 r):=by rw [b8]
@[simp] theorem m6:∀ xs:List Str,b8 (xs.map D.str) = 0
 | []=>rfl
 | x :: r=>by rw [List.map_cons,sO,W6,m6 r]; rfl
theorem yQ (xs:List Str) (x:Str):((xs.map D.str).any fun e=>cI e (.str x)) = decide (x∈xs):=by
 induction xs with
 | nil=>rfl
 | cons y r ih =>
  rw [List.map_cons,List.any_cons,ih,kZ]
  by_cases h:y = x
  ·simp [h]
  ·have h2:¬ x = y:=fun z=>h z.symm
   simp [h,h2]
theorem Xb (xs:List Str) (x:Str):Qc (.str x) (.lst (xs.map D.str)) = .ok (.bl (decide (x∈xs))):=by
 show aK _ _ = _
 rw [ak (by rw [m6]; omega),yQ]
theorem acJ (xs:List Str) (x:Str):Qc (.str x) (.tup (xs.map D.str)) = .ok (.bl (decide (x∈xs))):=by
 show aK _ _ = _
 rw [ak (by rw [m6]; omega),yQ]
theorem uW (xs:List Str) (x:Str):dB (.str x) (.lst (xs.map D.str)) = .ok (.bl (!decide (x∈xs))):=by
 show aK _ _ = _
 rw [ak (by rw [m6]; omega),yQ]
theorem lz (xs:List Str) (x:Str):dB (.str x) (.tup (xs.map D.str)) = .ok (.bl (!decide (x∈xs))):=by
 show aK _ _ = _
 rw [ak (by rw [m6]; omega),yQ]
theorem yO (x y:Str):sS (.str x) (.str y) = .ok (.bl (decide (x = y))):=by
 show aK _ _ = _
 rw [ak (by simp),kZ]
theorem W8 (x y:Str):GQ (.str x) (.str y) = .ok (.bl (!decide (x = y))):=by
 show aK _ _ = _
 rw [ak (by simp),kZ]
theorem vZ (x y:Int):sS (.int x) (.int y) = .ok (.bl (decide (x = y))):=by
 show aK _ _ = _
 rw [ak (by simp),Hs]
theorem W9 (x y:Int):GQ (.int x) (.int y) = .ok (.bl (!decide (x = y))):=by
 show aK _ _ = _
 rw [ak (by simp),Hs]
theorem Ju {α : Type} (f:α→Bool) (xs:List α):Bl (xs.map fun x=>D.bl (f x)) = some (xs.map f):=by
 induction xs with
 | nil=>rfl
 | cons a r ih=>rw [List.map_cons,Bl,ih]; rfl
theorem sY (xs:List Str):my (xs.map D.str) = some xs:=by
 induction xs with
 | nil=>rfl
 | cons a r ih=>rw [List.map_cons,my,ih]; rfl
theorem Ua (n:Nat) (b:S) (a0:W):vf 1 n b [a0] = (b ([some a0] ++ List.replicate (n - 1) none)).bind vV:=ak rfl
theorem vW (n:Nat) (b:S) (a0 a1:W):vf 2 n b [a0,a1] = (b ([some a0,some a1] ++ List.replicate (n - 2) none)).bind vV:=ak rfl
theorem Iu (n:Nat) (b:S) (a0 a1 a2:W):vf 3 n b [a0,a1,a2] = (b ([some a0,some a1,some a2] ++ List.replicate (n - 3) none)).bind vV:=ak rfl
theorem aef (n:Nat) (b:S) (a0 a1 a2 a3:W):vf 4 n b [a0,a1,a2,a3] = (b ([some a0,some a1,some a2,some a3] ++ List.replicate (n - 4) none)).bind vV:=ak rfl
theorem aam (n:Nat) (b:S) (a0:W):JF 1 n b [a0] = (b ([some a0] ++ List.replicate (n - 1) none)).bind mZ:=ak rfl
theorem Ir (n:Nat) (b:S) (a0 a1:W):JF 2 n b [a0,a1] = (b ([some a0,some a1] ++ List.replicate (n - 2) none)).bind mZ:=ak rfl
theorem aee (n:Nat) (b:S) (a0 a1 a2:W):JF 3 n b [a0,a1,a2] = (b ([some a0,some a1,some a2] ++ List.replicate (n - 3) none)).bind mZ:=ak rfl
theorem aed (n:Nat) (b:S) (a0 a1 a2 a3:W):JF 4 n b [a0,a1,a2,a3] = (b ([some a0,some a1,some a2,some a3] ++ List.replicate (n - 4) none)).bind mZ:=ak rfl
theorem aec {α : Type} (r:Rs α):aK (0≤16777216) r = r:=ak δ
theorem aeb {α : Type} (r:Rs α):aK (1≤16777216) r = r:=ak δ
theorem aea {α : Type} (r:Rs α):aK (2≤16777216) r = r:=ak δ
theorem ad9 {α : Type} (r:Rs α):aK (3≤16777216) r = r:=ak δ
theorem ad8 {α : Type} (r:Rs α):aK (4≤16777216) r = r:=ak δ
theorem ad7 {α : Type} (r:Rs α):aK (5≤16777216) r = r:=ak δ
theorem ad6 {α : Type} (r:Rs α):aK (6≤16777216) r = r:=ak δ
theorem ad5 {α : Type} (r:Rs α):aK (7≤16777216) r = r:=ak δ
theorem ad4 {α : Type} (r:Rs α):aK (8≤16777216) r = r:=ak δ
theorem Vn (i j:Int):dj (.int i) (.int j) = .ok (.int (i + j)):=rfl
theorem Lh (i j:Str):dj (.str i) (.str j) = aK (i.length + j.length≤16777216) (.ok (.str (i ++ j))):=rfl
theorem Gx (i j:List D):dj (.lst i) (.lst j) = aK (i.length + j.length≤16777216) (.ok (.lst (i ++ j))):=rfl
theorem aaz (i j:List D):dCat (.lst i) (.lst j) = aK (i.length + j.length≤16777216) (.ok (.lst (i ++ j))):=rfl
theorem Zb (i j:Int):yz (.int i) (.int j) = .ok (.int (i - j)):=rfl
theorem ZX (i j:Int):cQ (.int i) (.int j) = aK (vJ i j) (.ok (.int (i * j))):=rfl
theorem div_ii (i j:Int):dC (.int i) (.int j) = aK (vK j) (.ok (.int (i / j))):=rfl
theorem mX (i j:Int):bT (.int i) (.int j) = aK (0 < j) (.ok (.int (i % j))):=rfl
theorem Mx (i j:Int):BR (.int i) (.int j) = .ok (.bl (decide (i < j))):=rfl
theorem Yv (i j:Int):dGt (.int i) (.int j) = .ok (.bl (decide (j < i))):=rfl
theorem aci (i j:Int):Vv (.int i) (.int j) = .ok (.bl (decide (i≤j))):=rfl
theorem acB (i j:Int):dGe (.int i) (.int j) = .ok (.bl (decide (j≤i))):=rfl
theorem ab5 (i:Int):W7 (.int i) = .ok (.int (-i)):=rfl
theorem adS (x:D):dIs x .non = .ok (.bl (vQ x)):=rfl
theorem WR (x:D):Bb x .non = .ok (.bl (!vQ x)):=rfl
theorem ab1:vQ .non = true:=rfl
theorem ab0 (x:Str):vQ (.str x) = false:=rfl
theorem ab2 (x:List D):vQ (.lst x) = false:=rfl
theorem abZ (x:List D):vQ (.tup x) = false:=rfl
theorem MK (ds:List D):iR [.lst ds] = .ok (.int ds.length):=rfl
theorem Yn (ds:List D):iR [.tup ds] = .ok (.int ds.length):=rfl
theorem Yo (z:Str):iR [.str z] = aK (z.length≤16777216) (.ok (.int z.length)):=rfl
theorem S9 (i j:Int):xF [.int i,.int j] = .ok (.int (max i j)):=rfl
theorem Kr (i j:Int):BW [.int i,.int j] = .ok (.int (min i j)):=rfl
theorem YF (ds:List D):Qs [.lst ds] = (pH (Bl ds)).bind fun bs=>.ok (.bl (bs.all id)):=rfl
theorem acQ (ds:List D):aeq [.lst ds] = (pH (Bl ds)).bind fun bs=>.ok (.bl (bs.any id)):=rfl
theorem Z3 (ds:List D):wg [.lst ds] = .ok (.lst ds):=rfl
theorem Z2 (ds:List D):wg [.tup ds] = .ok (.lst ds):=rfl
theorem VJ (ds:List D):oF [.lst ds] = .ok (.tup ds):=rfl
theorem VH (ds:List D):oF [.tup ds] = .ok (.tup ds):=rfl
theorem ack (i:Int):Va [.int i] = .ok (.int i):=rfl
theorem acn (k:Bool):Va [.bl k] = .ok (.int (if k then 1 else 0)):=rfl
theorem adA (ds:List D) (lo hi:Option Int):IV (.lst ds) lo hi = .ok (.lst (qy ds lo hi)):=rfl
theorem Zg (z:Str) (lo hi:Option Int):IV (.str z) lo hi = aK (z.length≤16777216) (.ok (.str (j8 z lo hi))):=rfl
theorem abl (ds:List D) (lo hi:Option Int):aej (.lst ds) lo hi = .ok (.lst (qy ds lo hi)):=rfl
theorem WN (ds:List D):Gg (.lst ds) = .ok ds:=rfl
theorem WM (ds:List D):Gg (.tup ds) = .ok ds:=rfl
theorem Tp (ds:List D):gA (.lst ds) = .ok ds:=rfl
theorem Vl (b:Bool):asB (.bl b) = .ok b:=rfl
theorem NQ (b:Int):Xv (.int b) = .ok b:=rfl
theorem NZ (x:D):asD (.d x) = .ok x:=rfl
theorem NP (x:D):Vk (.d x) = aK (WW x = true) (.ok x):=rfl
theorem aa7 (ds:List D):aav (.lst ds) = .ok (!ds.isEmpty):=rfl
theorem aa6 (ds:List D):aav (.tup ds) = .ok (!ds.isEmpty):=rfl
theorem abN (i:Nat) (d:D) (e:Mi.Env):(Tg.n i).put d e = .ok (e.set i (§d)):=rfl
theorem abM (is:List Nat) (ds:List D) (e:Mi.Env):(Tg.t is).put (.tup ds) e = pZ is ds e:=rfl
theorem all_nil (e:Mi.Env):pZ [] [] e = .ok e:=rfl
theorem all_cons (i:Nat) (is:List Nat) (d:D) (ds:List D) (e:Mi.Env):pZ (i :: is) (d :: ds) e = pZ is ds (e.set i (§d)):=rfl
theorem ZC (w:W):vV (.rt w) = .ok w:=rfl
theorem ZD (e:Mi.Env):vV (.nx e) = .ok (.d .non):=rfl
theorem Wk (w:W):mZ (.rt w) = .ok w:=rfl
theorem adx (t:String) (x:List D):Af t (.lst x) = (t == "list"):=rfl
theorem adw (t:String) (x:Str):Af t (.str x) = (t == "str"):=rfl
theorem adv (t:String) (x:List D):Af t (.tup x) = (t == "tuple"):=rfl
theorem ady (t:String) (x:Int):Af t (.int x) = (t == "int"):=rfl
theorem adz (t:String) (x:Bool):Af t (.bl x) = (t == "bool" || t == "int"):=rfl
theorem aG {f:D→D→Rs D} {a b:E} {e:Mi.Env} {x y:D} {z:Rs D} (ha:a e = .ok x) (hb:b e = .ok y) (h:f x y = z):m2 f a b e = z:=by
 unfold m2; rw [ha,aD,hb,aD,h]
theorem aM {s t:S} {e e':Mi.Env} (h:s e = .ok (.nx e')):aY s t e = t e':=by unfold aY; rw [h]; rfl
theorem rG {s t:S} {e:Mi.Env} {w:W} (h:s e = .ok (.rt w)):aY s t e = .ok (.rt w):=by unfold aY; rw [h]; rfl
theorem bD {i:Nat} {a:E} {e:Mi.Env} {d:D} (h:a e = .ok d):bZ i a e = .ok (.nx (e.set i (§d))):=by unfold bZ; rw [h]; rfl
theorem fH {a:EW} {e:Mi.Env} {w:W} (h:a e = .ok w):dJ a e = .ok (.rt w):=by unfold dJ; rw [h]; rfl
theorem cC {a:E} {e:Mi.Env} {d:D} (h:a e = .ok d):wD a e = .ok (.d d):=by unfold wD; rw [h]; rfl
theorem jx {c:C} {s t:S} {e:Mi.Env} (h:c e = .ok true):iz c s t e = s e:=by unfold iz; rw [h]; rfl
theorem dI {c:C} {s t:S} {e:Mi.Env} (h:c e = .ok false):iz c s t e = t e:=by unfold iz; rw [h]; rfl
theorem cU {a:E} {e:Mi.Env} {b:Bool} (h:a e = .ok (.bl b)):cB a e = .ok b:=by unfold cB; rw [h]; rfl
theorem fB {ρ : List (Option Nat)} {it:I} {tg:Tg} {c:C} {a:E} {e:Mi.Env} {xs ys:List D} (h:it e = .ok xs) (hl:xs.length≤16777216) (hc:eX tg c a (qJ ρ e) xs = .ok ys):fL ρ it tg c a e = .ok (.lst ys):=by
 unfold fL; rw [h,aD,ak hl,hc,aD]
theorem oA {a:E} {e:Mi.Env} {n:Int} (h:a e = .ok (.int n)) (hr:okR n):gF a e = .ok (di 0 n):=by
 unfold gF; rw [h,aD,NQ,aD,ak hr]
theorem j6 {it:I} {tg:Tg} {b:S} {e:Mi.Env} {xs:List D} (h:it e = .ok xs):nu it tg b e = qu tg b xs e:=by unfold nu; rw [h]; rfl
theorem gV {a:E} {e:Mi.Env} {x:D} {xs:List D} (h:a e = .ok x) (hx:Gg x = .ok xs):uh a e = .ok xs:=by unfold uh; rw [h,aD,hx]
theorem ud {i:Nat} {a:E} {e:Mi.Env} {d:D} {ds:List D} (h:a e = .ok d) (hg:getL e i = .ok ds) (hl:ds.length < 16777216):bV i a e = .ok (.nx (putL e i (ds ++ [d]))):=by
 unfold bV; rw [h,aD,hg,aD,ak hl]
theorem iI {f:List D→Rs D} {a:E} {e:Mi.Env} {x:D} (h:a e = .ok x):mN f [a] e = f [x]:=by unfold mN; rw [jw,h]; rfl
theorem HJ {f:List D→Rs D} {a b:E} {e:Mi.Env} {x y:D} (h:a e = .ok x) (h':b e = .ok y):mN f [a,b] e = f [x,y]:=by unfold mN; rw [jw,h,aD,jw,h']; rfl
theorem Ww {a:E} {e:Mi.Env} {x:D} (h:a e = .ok x):mN gm [a] e = .ok (.lst [x]):=by
 rw [iI h]
 xt ak (by simp)
theorem oZ {a b:E} {e:Mi.Env} {x y:D} (h:a e = .ok x) (h':b e = .ok y):mN dTup [a,b] e = .ok (.tup [x,y]):=by
 rw [HJ h h']
 xt ak (by simp)
theorem Dh {f:Fn} {a:EW} {e:Mi.Env} {x:W} {d:D} (h:a e = .ok x) (hf:f [x] = .ok (.d d)):aZ f [a] e = .ok d:=by unfold aZ uq; rw [bM,h]; simp only [aD,bM,hf,NZ]
theorem call2 {f:Fn} {a b:EW} {e:Mi.Env} {x y:W} {d:D} (h:a e = .ok x) (h':b e = .ok y) (hf:f [x,y] = .ok (.d d)):aZ f [a,b] e = .ok d:=by unfold aZ uq; rw [bM,h,aD,bM,h']; simp only [aD,bM,hf,NZ]
theorem Dg {f:Fn} {a b c:EW} {e:Mi.Env} {x y z:W} {d:D} (h:a e = .ok x) (h':b e = .ok y) (h'':c e = .ok z) (hf:f [x,y,z] = .ok (.d d)):aZ f [a,b,c] e = .ok d:=by unfold aZ uq; rw [bM,h,aD,bM,h',aD,bM,h'']; simp only [aD,bM,hf,NZ]
theorem aen {f:Fn} {a b:EW} {e:Mi.Env} {x y:W} {d:D} (h:a e = .ok x) (h':b e = .ok y) (hf:f [x,y] = .ok (.d d)) (hi:WW d = true):qj f [a,b] e = .ok d:=by unfold qj uq; rw [bM,h,aD,bM,h']; simp only [aD,bM,hf,NP,ak hi]
theorem fM {α : Type} {tg:Tg} {c:C} {a:E} {e:Mi.Env} (f g:α→D) (p:α→Bool):∀ (xs:List α),(∀ x∈xs,∃ e1,tg.put (f x) e = .ok e1∧c e1 = .ok (p x)∧(p x = true→a e1 = .ok (g x)))→eX tg c a e (xs.map f) = .ok ((xs.filter p).map g)
 | [],_=>rfl
 | x :: r,h=>by
  ob ⟨e1,h1,h2,h3⟩:=h x List.mem_cons_self
  have ih:=fM (tg:=tg) (c:=c) (a:=a) (e:=e) f g p r fun y hy=>h y (List.mem_cons_of_mem _ hy)
  rw [List.map_cons,eX,h1,aD,h2,aD]
  cases hp:p x with
  | true=>rw [if_pos rfl,h3 hp,aD,ih,aD,List.filter_cons_of_pos hp]; rfl
  | false=>rw [if_neg Bool.false_ne_true,ih,List.filter_cons_of_neg (by rw [hp]; xt Bool.false_ne_true)]
theorem kO {tg:Tg} {body:S} (Inv:Nat→Mi.Env→Prop):∀ (xs:List D) (k:Nat),(∀ i x e,xs[i]? = some x→Inv (k + i) e→∃ e1 e2,tg.put x e = .ok e1∧body e1 = .ok (.nx e2)∧Inv (k + i + 1) e2)→∀ e,Inv k e→∃ e',qu tg body xs e = .ok (.nx e')∧Inv (k + xs.length) e'
 | [],k,_,e,h=>⟨e,rfl,h⟩
 | x :: r,k,hs,e,h=>by
  ob ⟨e1,e2,h1,h2,h3⟩:=hs 0 x e rfl h
  ob ⟨e',h4,h5⟩:=kO Inv r (k + 1) (fun i y e hy hi=>by
   have:=hs (i + 1) y e (by simpa using hy) (by rw [show k + (i + 1) = k + 1 + i by omega]; xt hi)
   rw [show k + (i + 1) + 1 = k + 1 + i + 1 by omega] at this
   xt this) e2 h3
  rf ⟨e',?_,by rw [List.length_cons,show k + (r.length + 1) = k + 1 + r.length by omega]; xt h5⟩
  rw [qu,h1,aD,h2,aD]
  xt h4
theorem Ip {α : Type} {tg:Tg} {body:S} {e:Mi.Env} {w:Out} (f:α→D) (st:Option α→Mi.Env) (p:α→Bool) (out:α→Out):∀ (xs:List α) (o:Option α),
 (∀ x∈xs,∀ o,∃ e1,tg.put (f x) (st o) = .ok e1∧body e1 = .ok (if p x = true then out x else .nx (st (some x)))) →
 (∀ x∈xs,p x = true→∃ w,out x = .rt w) →
 qu tg body (xs.map f) (st o) = .ok (match xs.find? p with | some x=>out x | none=>.nx (st (xs.getLast?.or o)))
 | [],o,_,_=>by cases o <;> rfl
 | x :: r,o,h,ho=>by
  ob ⟨e1,h1,h2⟩:=h x List.mem_cons_self o
  rw [List.map_cons,qu,h1,aD,h2,aD]
  cases hp:p x with
  | true =>
   ob ⟨w,hw⟩:=ho x List.mem_cons_self hp
   rw [List.find?_cons_of_pos hp]
   simp only [if_true,hw]
  | false =>
   rw [List.find?_cons_of_neg (by rw [hp]; xt Bool.false_ne_true)]
   have ih:=Ip (e:=e) (w:=w) f st p out r (some x) (fun y hy=>h y (List.mem_cons_of_mem _ hy)) fun y hy=>ho y (List.mem_cons_of_mem _ hy)
   simp only [Bool.false_eq_true,if_false]
   rw [ih]
   have:(r.getLast?.or (some x)) = ((x :: r).getLast?.or o):=by
    cases r with
    | nil=>rfl
    | cons y t=>simp [List.getLast?_cons]
   rw [this]
end Mi
namespace Mr
open PySem Mi
abbrev Ar:=Str×Str
def pairD (p:Ar):D:=.tup [.str p.1,.str p.2]
def gf (names:List Str):D:=.tup (names.map D.str)
def Le (aa:List Ar):D:=.tup (aa.map pairD)
def bx (names:List Str) (aa:List Ar):D:=.tup [gf names,Le aa]
def aP (xs:List Str):D:=.lst (xs.map D.str)
theorem at0 {α : Type} (a:α) (r:List α):wy (a :: r) 0 = some a:=by simp [wy,BL]
theorem at1 {α : Type} (a b:α) (r:List α):wy (a :: b :: r) 1 = some b:=by
 unfold wy BL
 rw [if_pos δ,if_pos (by simp only [List.length_cons]; omega)]; rfl
theorem ix0 (names:List Str) (aa:List Ar):dU (bx names aa) (.int 0) = .ok (gf names):=by
 unfold bx dU
 simp [at0]
theorem ix1 (names:List Str) (aa:List Ar):dU (bx names aa) (.int 1) = .ok (Le aa):=by
 unfold bx dU
 simp [at1]
open Lean Parser Tactic in
macro "Ψ" "[" xs:simpLemma,* "]" l:(location)? : tactic =>
 `(tactic| simp only [aec,aeb,aea,ad9,ad8,ad7,ad6,ad5,ad4,mV,m1,m2,mN,jw,mC,HW,mOr,adL,adM,uO,sr,qU,cB,sU,QC,qC,Xh,jq,uh,gF,W0,Nh,acp,aco,aY,bZ,LK,Rp,rT,dJ,abn,iz,nu,El,bB,bV,V4,Ro,Zj,abo,Zi,mO,ou,abp,lO,BJ,Mv,aca,wD,wV,bM,uq,aZ,qj,dTup,gm,Vn,Lh,Gx,aaz,Zb,ZX,div_ii,mX,Mx,Yv,aci,acB,ab5,adS,WR,ab1,ab0,ab2,abZ,MK,Yn,Yo,S9,Kr,YF,acQ,Z3,Z2,VJ,VH,ack,acn,adA,Zg,abl,WN,WM,Tp,Vl,NQ,NZ,NP,aa7,aa6,abN,abM,all_nil,all_cons,ZC,ZD,Wk,adx,adw,adv,ady,adz,yC,getL,putL,aD,f9,Ua,vW,Iu,aef,aam,Ir,aee,aed,List.map_cons,List.map_nil,List.length_cons,List.length_nil,List.cons_append,List.nil_append,List.replicate_succ,List.replicate_zero,List.getElem?_cons_zero,List.getElem?_cons_succ,List.set_cons_zero,List.set_cons_succ,Nat.reduceSub,Nat.reduceAdd,Nat.zero_add,$xs,*] $[$l]?)
theorem wU {names asked:List Str} (h:∀ x∈asked,x∈names):bh [.d (gf names),.d (aP asked)] = .ok (.d .non):=by
 have key:∀ (xs:List Str) (o:Option W),(∀ x∈xs,x∈names)→∃ o',qu (.n 2) (iz (cB (m2 dB (mV 2) (mV 0))) ji bB) (xs.map D.str) [§(gf names),§(aP asked),o] = .ok (.nx [§(gf names),§(aP asked),o']):=by
  intro xs
  induction xs with
  | nil=>xt fun o _=>⟨o,rfl⟩
  | cons x r ih =>
   intro o hx
   ob ⟨o',e⟩:=ih (§(.str x)) fun y hy=>hx y (List.mem_cons_of_mem _ hy)
   rf ⟨o',?_⟩
   rw [List.map_cons,qu]
   have:x∈names:=hx x List.mem_cons_self
   Ψ [gf,lz,this,decide_true,Bool.not_true,Bool.false_eq_true,if_false]
   xt e
 ob ⟨o',e⟩:=key asked none h
 unfold aP at e
 unfold bh m8
 rw [vW]
 Ψ [aP,e]
def bA (aa:List Ar) (x:Str):List Str:=(aa.filter fun p=>decide (p.2 = x)).map (·.1)
theorem xq {names:List Str} {aa:List Ar} {x:Str} (hx:x∈names) (hl:aa.length≤64):cJ [.d (bx names aa),.d (.str x)] = .ok (.d (.tup ((bA aa x).map D.str))):=by
 have hr:=wU (names:=names) (asked:=[x]) (by simpa using hx)
 unfold cJ yq
 rw [vW]
 have hc:eX (.t [1,2]) (cB (m2 sS (mV 2) (mV 0))) (mV 1) [§(.str x),none,none] (aa.map pairD) = .ok ((aa.filter fun p=>decide (p.2 = x)).map fun p=>D.str p.1) :=
  fM pairD (fun p=>D.str p.1) (fun p=>decide (p.2 = x)) aa fun p _=>⟨[§(.str x),§(.str p.1),§(.str p.2)],rfl,by Ψ [yO],fun _=>by Ψ []⟩
 have hg:aK (([D.str x]:List D).length≤16777216) (Rs.ok (D.lst [D.str x])) = .ok (.lst [.str x]):=ak (by simp)
 unfold aP at hr
 have hp:qJ [some 1,none,none] [§(bx names aa),§(D.str x)] = [§(.str x),none,none]:=rfl
 Ψ [] at hg
 Ψ [ix0,ix1,hg,List.map_cons,List.map_nil] at hr ⊢
 rw [hr]
 Ψ [fL,ix1,Le,hp]
 rw [ak (by rw [List.length_map]; omega),hc]
 Ψ [bA,List.map_map]
 rfl
def ready (aa:List Ar) (told:List Str) (x:Str):Bool:=!decide (x∈told) && (bA aa x).all fun y=>decide (y∈told)
def nxt (names:List Str) (aa:List Ar) (told:List Str):Option Str:=names.find? (ready aa told)
def Hw:Option Str→D
 | some x=>.str x
 | none=>.non
theorem OJ (x:Str):Hw (some x) = .str x:=rfl
theorem O1:Hw none = .non:=rfl
theorem j7 {aa:List Ar} {x:Str} (hl:aa.length≤64):(bA aa x).length≤64:=by
 unfold bA
 rw [List.length_map]
 xt Nat.le_trans (List.length_filter_le _ _) hl
theorem Aq {names:List Str} {aa:List Ar} (hl:aa.length≤64) (told:List Str):cX [.d (bx names aa),.d (aP told)] = .ok (.d (Hw (nxt names aa told))):=by
 unfold cX uC
 rw [vW]
 have step:∀ x∈names,∀ o:Option Str,∃ e1,(Tg.n 2).put (D.str x) [§(bx names aa),§(aP told),o.map fun y=>W.d (.str y)] = .ok e1 ∧
  (iz (sU (cB (m2 dB (mV 2) (mV 1))) (cB (mN Qs [(fL [some 1,none] (uh (aZ cJ [(wD (mV 0)),(wD (mV 2))])) (.n 1) jq (m2 Qc (mV 1) (mV 0)))]))) (dJ (wD (mV 2))) bB) e1 =
   .ok (if ready aa told x = true then .rt (.d (.str x)) else .nx [§(bx names aa),§(aP told),(some x).map fun y=>W.d (.str y)]):=by
  intro x hx o
  rf ⟨[§(bx names aa),§(aP told),§(.str x)],rfl,?_⟩
  have hc:eX (.n 1) jq (m2 Qc (mV 1) (mV 0)) [§(aP told),none] ((bA aa x).map D.str) = .ok (((bA aa x).filter fun _=>true).map fun y=>D.bl (decide (y∈told))) :=
   fM D.str (fun y=>D.bl (decide (y∈told))) (fun _=>true) _ fun y _=>⟨[§(aP told),§(.str y)],rfl,rfl,fun _=>by Ψ [aP,Xb]⟩
  have hf:((bA aa x).filter fun _=>true) = bA aa x:=List.filter_eq_self.mpr fun _ _=>rfl
  rw [hf] at hc
  have hp:qJ [some 1,none] [§(bx names aa),§(aP told),§(D.str x)] = [§(aP told),none]:=rfl
  have hn:dB (.str x) (aP told) = .ok (.bl (!decide (x∈told))):=uW told x
  Ψ [hn]
  unfold ready
  cases hm:decide (x∈told) with
  | true=>rfl
  | false =>
   Ψ [Bool.not_false,if_true,fL,xq hx hl,hp]
   rw [ak (by rw [List.length_map]; have:=j7 (x:=x) hl; omega),hc]
   Ψ [Ju,List.all_map,Bool.true_and]
   have:(List.all (bA aa x) (id ∘ fun y=>decide (y∈told))) = (bA aa x).all fun y=>decide (y∈told):=rfl
   rw [this]
   cases (bA aa x).all fun y=>decide (y∈told) <;> rfl
 have hf:=Ip (e:=[]) (w:=.rt (.d .non)) D.str (fun o=>[§(bx names aa),§(aP told),o.map fun y=>W.d (.str y)]) (ready aa told) (fun x=>.rt (.d (.str x))) names none step fun x _ _=>⟨_,rfl⟩
 simp only [Option.map_none] at hf
 Ψ [ix0,gf,hf]
 unfold nxt
 cases names.find? (ready aa told) with
 | none=>rfl
 | some x=>rfl
structure Qv (names:List Str) (aa:List Ar):Prop where
 nd:names.Nodup
 pos:1≤names.length
 le:names.length≤8
 al:aa.length≤64
 tl:∀ p∈aa,p.1∈names
 rk:∃ r:Str→Int,∀ p∈aa,r p.1 < r p.2
theorem jo {aa:List Ar} {x y:Str}:y∈bA aa x↔(y,x)∈aa:=by
 unfold bA
 constructor
 ·intro h
  ob ⟨p,hp,rfl⟩:=List.mem_map.mp h
  ob ⟨h1,h2⟩:=List.mem_filter.mp hp
  have:p.2 = x:=by simpa using h2
  rw [← this]; xt h1
 ·intro h
  xt List.mem_map.mpr ⟨(y,x),List.mem_filter.mpr ⟨h,by simp⟩,rfl⟩
theorem Ks {α : Type} (f:α→Int):∀ (l:List α),l≠[]→∃ x∈l,∀ y∈l,f x≤f y
 | [],h=>absurd rfl h
 | [a],_=>⟨a,by simp,by simp⟩
 | a :: b :: r,_=>by
  ob ⟨x,hx,hm⟩:=Ks f (b :: r) (by simp)
  by_cases h:f a≤f x
  ·rf ⟨a,List.mem_cons_self,fun y hy=>?_⟩
   rcases List.mem_cons.mp hy with rfl | hy
   ·xt Int.le_refl _
   ·xt Int.le_trans h (hm y hy)
  ·rf ⟨x,List.mem_cons_of_mem _ hx,fun y hy=>?_⟩
   rcases List.mem_cons.mp hy with rfl | hy
   ·omega
   ·xt hm y hy
theorem Qv.next {names:List Str} {aa:List Ar} (N:Qv names aa) {told:List Str} (h:∃ x∈names,x∉told):∃ x,nxt names aa told = some x∧x∈names∧x∉told:=by
 ob ⟨r,hr⟩:=N.rk
 ob ⟨x0,h1,h2⟩:=h
 ob ⟨x,hx,hm⟩:=Ks r (names.filter fun x=>!decide (x∈told)) (fun z=>by
  have:x0∈names.filter fun x=>!decide (x∈told):=List.mem_filter.mpr ⟨h1,by simpa using h2⟩
  rw [z] at this; cases this)
 ob ⟨hx1,hx2⟩:=List.mem_filter.mp hx
 have hx2:x∉told:=by simpa using hx2
 have rd:ready aa told x = true:=by
  unfold ready
  rw [Bool.and_eq_true]
  rf ⟨by simpa using hx2,List.all_eq_true.mpr fun y hy=>?_⟩
  have hy:=jo.mp hy
  by_cases hyt:y∈told
  ·simpa using hyt
  ·have:=hm y (List.mem_filter.mpr ⟨N.tl _ hy,by simpa using hyt⟩)
   have:=hr _ hy
   have:r y < r x:=this
   omega
 unfold nxt
 cases hf:names.find? (ready aa told) with
 | none=>xt absurd rd (by simpa using List.find?_eq_none.mp hf x hx1)
 | some z =>
  have hz:=List.find?_some hf
  rf ⟨z,rfl,List.mem_of_find?_eq_some hf,fun hzt=>?_⟩
  unfold ready at hz
  rw [Bool.and_eq_true] at hz
  simp [hzt] at hz
def ord (names:List Str) (aa:List Ar):Nat→List Str
 | 0=>[]
 | k + 1=>match nxt names aa (ord names aa k) with
  | some x=>ord names aa k ++ [x]
  | none=>ord names aa k
theorem eZ {α : Type} [DecidableEq α]:∀ {l m:List α},l.Nodup→(∀ x∈l,x∈m)→l.length≤m.length
 | [],_,_,_=>Nat.zero_le _
 | a :: l,m,nd,h=>by
  have nd:=List.nodup_cons.mp nd
  have:l.length≤(m.erase a).length:=eZ nd.2 fun x hx=>(List.mem_erase_of_ne (fun z:x = a=>nd.1 (z ▸ hx))).mpr (h x (List.mem_cons_of_mem _ hx))
  have hm:=h a List.mem_cons_self
  rw [List.length_erase_of_mem hm] at this
  have:0 < m.length:=List.length_pos_of_mem hm
  rw [List.length_cons]; omega
theorem Qv.Ex {names:List Str} {aa:List Ar} (N:Qv names aa):∀ k,k≤names.length→(ord names aa k).length = k∧(ord names aa k).Nodup∧(∀ x∈ord names aa k,x∈names)
 | 0,_=>⟨rfl,List.nodup_nil,by simp [ord]⟩
 | k + 1,h=>by
  ob ⟨h1,h2,h3⟩:=N.Ex k ω
  have ex:∃ x∈names,x∉ord names aa k:=by
   rf Classical.byContradiction fun z=>?_
   have hall:∀ x∈names,x∈ord names aa k:=fun x hx=>Classical.byContradiction fun y=>z ⟨x,hx,y⟩
   have:=eZ N.nd hall
   omega
  ob ⟨x,hx,hm,hn⟩:=N.next ex
  rw [ord,hx]
  rf ⟨by simp [h1],?_,fun y hy=>?_⟩
  ·rw [List.nodup_append]
   rf ⟨h2,by simp,fun a ha b hb=>?_⟩
   have:b = x:=by simpa using hb
   subst this
   xt fun z=>hn (z ▸ ha)
  ·rcases List.mem_append.mp hy with hy | hy
   ·xt h3 y hy
   ·have:y = x:=by simpa using hy
    rw [this]; xt hm
theorem Qv.SJ {names:List Str} {aa:List Ar} (N:Qv names aa) {k:Nat} (h:k < names.length):∃ x,nxt names aa (ord names aa k) = some x∧ord names aa (k + 1) = ord names aa k ++ [x]:=by
 ob ⟨h1,h2,h3⟩:=N.Ex k ω
 have ex:∃ x∈names,x∉ord names aa k:=by
  rf Classical.byContradiction fun z=>?_
  have hall:∀ x∈names,x∈ord names aa k:=fun x hx=>Classical.byContradiction fun y=>z ⟨x,hx,y⟩
  have:=eZ N.nd hall
  omega
 ob ⟨x,hx,_⟩:=N.next ex
 xt ⟨x,hx,by rw [ord,hx]⟩
theorem Qv.Mj {names:List Str} {aa:List Ar} (N:Qv names aa):∀ x∈names,x∈ord names aa names.length:=fun x hx=>by
 ob ⟨h1,h2,h3⟩:=N.Ex names.length (Nat.le_refl _)
 rf Classical.byContradiction fun z=>?_
 have:(x :: ord names aa names.length).length≤names.length:=eZ (List.nodup_cons.mpr ⟨z,h2⟩) fun y hy=>by
  rcases List.mem_cons.mp hy with rfl | hy
  ·xt hx
  ·xt h3 y hy
 rw [List.length_cons] at this
 omega
theorem Qv.SM {names:List Str} {aa:List Ar} (N:Qv names aa):nxt names aa (ord names aa names.length) = none:=by
 unfold nxt
 rf List.find?_eq_none.mpr fun x hx=>?_
 unfold ready
 simp [N.Mj x hx]
theorem Nb (o:Option Str):WW (Hw o) = true:=by cases o <;> simp [Hw,WW]
theorem KH {names:List Str} {aa:List Ar} (N:Qv names aa):pL [.d (bx names aa)] = .ok (.d (aP (ord names aa names.length))):=by
 have fr:=fun told=>Aq (names:=names) N.al told
 have fr':∀ told:List Str,cX [.d (bx names aa),.d (.lst (told.map D.str))] = .ok (.d (Hw (nxt names aa told))):=fr
 have key:∀ (j k:Nat),k + j = names.length→∃ o,jW (cB (m2 Bb (mV 2) (mC .non))) (aY (bV 1 (mV 2)) (bZ 2 (qj cX [(wD (mV 0)),(wD (mV 1))]))) (j + 92)
  [§(bx names aa),§(aP (ord names aa k)),§(Hw (nxt names aa (ord names aa k)))] = .ok (.nx [§(bx names aa),§(aP (ord names aa names.length)),o]):=by
  intro j
  induction j with
  | zero =>
   intro k hk
   obtain rfl:k = names.length:=by omega
   rf ⟨§.non,?_⟩
   rw [jW,N.SM]
   Ψ [O1,Bool.not_true,Bool.false_eq_true,if_false]
  | succ j ih =>
   intro k hk
   ob ⟨x,hx,e⟩:=N.SJ (k:=k) ω
   ob ⟨o,ho⟩:=ih (k + 1) ω
   rf ⟨o,?_⟩
   have hl:=(N.Ex k ω).1
   have hg:((ord names aa k).map D.str).length < 16777216:=by rw [List.length_map,hl]; have:=N.le; omega
   have hs:D.lst ((ord names aa k).map D.str ++ [D.str x]) = aP (ord names aa (k + 1)):=by rw [e,aP,List.map_append]; rfl
   rw [show j + 1 + 92 = (j + 92) + 1 by omega,jW,hx]
   Ψ [OJ,aP,Bool.not_false,if_true,ak hg,hs,fr',ak (Nb _)]
   xt ho
 ob ⟨o,ho⟩:=key names.length 0 ω
 unfold pL Dr
 rw [aam]
 have hw:∀ (c:C) (b:S) (e e':Mi.Env) (n m:Nat),jW c b n e = .ok (.nx e')→jW c b (n + m) e = .ok (.nx e'):=by
  intro c b e e' n m
  induction n generalizing e with
  | zero=>intro h; cases h
  | succ n ih =>
   intro h
   rw [show n + 1 + m = (n + m) + 1 by omega,jW]
   rw [jW] at h
   revert h
   cases c e with
   | ok k =>
    cases k with
    | false=>xt id
    | true =>
     simp only [aD,if_true]
     cases b e with
     | ok o' =>
      cases o' with
      | nx e2=>xt ih _
      | ct e2=>xt ih _
      | bk e2=>xt id
      | rt w=>xt id
     | ex x=>xt id
     | no=>xt id
   | ex x=>xt id
   | no=>xt id
 have ho:=hw _ _ _ _ _ (8 - names.length) ho
 rw [show names.length + 92 + (8 - names.length) = 100 by have:=N.le; omega] at ho
 have f0:=fr []
 have h0:aP [] = D.lst []:=rfl
 rw [h0] at f0
 have hg0:aK (([]:List D).length≤16777216) (Rs.ok (D.lst [])) = .ok (.lst []):=ak (by simp)
 simp only [List.length_nil] at hg0
 have ho:jW (cB (m2 Bb (mV 2) (mC .non))) (aY (bV 1 (mV 2)) (bZ 2 (qj cX [(wD (mV 0)),(wD (mV 1))]))) 100 [§(bx names aa),§(.lst []),§(Hw (nxt names aa []))] = .ok (.nx [§(bx names aa),§(aP (ord names aa names.length)),o]):=ho
 simp only [aY,bZ,El,mN,jw,gm,aD,hg0,List.length_nil,List.cons_append,List.nil_append,List.replicate_succ,List.replicate_zero,Nat.reduceSub,List.set_cons_zero,List.set_cons_succ,qj,uq,bM,wD,mV,List.getElem?_cons_zero,List.getElem?_cons_succ,f0,Vk,ak (Nb _),List.map_cons,List.map_nil]
 rw [ho]
 rfl
end Mr
namespace Mr
open PySem Mi
theorem zP:∀ xs ys:List Str,jU (xs.map D.str) (ys.map D.str) = decide (xs = ys)
 | [],[]=>rfl
 | [],_ :: _=>rfl
 | _ :: _,[]=>rfl
 | x :: xs,y :: ys=>by
  rw [List.map_cons,List.map_cons,jU,kZ,zP xs ys]
  by_cases h1:x = y <;> by_cases h2:xs = ys <;> simp [h1,h2]
end Mr
namespace My
def wl:List Nat:=[101,116,97,111,105,110,115,104,114,100,108,117,99,109,102,119,121,112,118,98,103,107,113,106,120,122]
def ql (n:Int):Nat:=wl.getD (n % 26).toNat 0
def jC (c:Int):List Nat:=(List.range 8).map fun (k:Nat)=>ql (c / (4 + 3 * (k:Int)))
def jQ (c:Int) (n:Nat):List Nat:=(List.range n).map fun (k:Nat)=>ql (c / 32 + 5 * (k:Int) + (k:Int) * (k:Int))
def words (c:Int) (many:Nat):List (List Nat) :=
 if c % 4 < 2 then
  if c % 4 = 0 then (List.range many).map fun (k:Nat)=>(jC c).take (k + 1)
  else (List.range many).map fun (k:Nat)=>(jC c).drop (7 - k)
 else
  (List.range many).map fun (k:Nat)=>(jQ c (c / 4 % 8).toNat).take (c / 256 % (c / 4 % 8 + 1)).toNat ++ [ql (c / 7 + 5 * (k:Int))] ++ (jQ c (c / 4 % 8).toNat).drop (c / 256 % (c / 4 % 8 + 1)).toNat
def Gy (x:List Nat):Prop:=1≤x.length∧x.length≤8∧∀ c∈x,97≤c∧c≤122
theorem JP:∀ c∈wl,97≤c∧c≤122:=by decide
theorem aa4:wl.Nodup:=by decide
theorem DY:wl.length = 26:=by decide
theorem Aa (n:Int):ql n∈wl:=by
 unfold ql
 have h1:=Int.emod_nonneg n (b:=26) δ
 have h2:=Int.emod_lt_of_pos n (b:=26) δ
 have h3:(n % 26).toNat < wl.length:=by rw [DY]; omega
 rw [List.getD_eq_getElem?_getD,List.getElem?_eq_getElem h3]
 xt List.getElem_mem h3
theorem Ti {n m:Int} (h:ql n = ql m):n % 26 = m % 26:=by
 unfold ql at h
 have h1:=Int.emod_nonneg n (b:=26) δ
 have h2:=Int.emod_lt_of_pos n (b:=26) δ
 have h3:(n % 26).toNat < wl.length:=by rw [DY]; omega
 have h1':=Int.emod_nonneg m (b:=26) δ
 have h2':=Int.emod_lt_of_pos m (b:=26) δ
 have h3':(m % 26).toNat < wl.length:=by rw [DY]; omega
 rw [List.getD_eq_getElem?_getD,List.getElem?_eq_getElem h3,List.getD_eq_getElem?_getD,List.getElem?_eq_getElem h3'] at h
 have:=(List.getElem_inj aa4).mp h
 omega
theorem gq (c:Int):(jC c).length = 8:=by simp [jC]
theorem mF (c:Int) (n:Nat):(jQ c n).length = n:=by simp [jQ]
theorem Cd (c:Int):∀ x∈jC c,97≤x∧x≤122:=fun x hx=>by
 ob ⟨k,_,rfl⟩:=List.mem_map.mp hx
 xt JP _ (Aa _)
theorem Ca (c:Int) (n:Nat):∀ x∈jQ c n,97≤x∧x≤122:=fun x hx=>by
 ob ⟨k,_,rfl⟩:=List.mem_map.mp hx
 xt JP _ (Aa _)
theorem oW (c:Int) (many:Nat):(words c many).length = many:=by
 unfold words; split <;> (try split) <;> simp
theorem lH {α : Type} (f:Nat→α) (n:Nat) (h:∀ i j,i < n→j < n→f i = f j→i = j):((List.range n).map f).Nodup:=by
 induction n with
 | zero=>simp
 | succ n ih =>
  rw [List.range_succ,List.map_append,List.map_singleton]
  rw [List.nodup_append]
  rf ⟨ih fun i j hi hj=>h i j ω ω,by simp,fun a ha b hb=>?_⟩
  ob ⟨i,hi,rfl⟩:=List.mem_map.mp ha
  have hi:=List.mem_range.mp hi
  have hb:b = f n:=by simpa using hb
  subst hb
  intro e
  have:=h i n ω ω e
  omega
theorem rA (c:Int) (many:Nat) (hm:many≤8):(words c many).Nodup:=by
 unfold words
 split
 ·split
  ·rf lH _ _ fun i j hi hj e=>?_
   have:=congrArg List.length e
   rw [List.length_take,List.length_take,gq] at this
   omega
  ·rf lH _ _ fun i j hi hj e=>?_
   have:=congrArg List.length e
   rw [List.length_drop,List.length_drop,gq] at this
   omega
 ·rf lH _ _ fun i j hi hj e=>?_
  rw [List.append_assoc,List.append_assoc] at e
  have e1:=List.append_cancel_left e
  have e2:=List.append_cancel_right e1
  have e3:ql (c / 7 + 5 * (i:Int)) = ql (c / 7 + 5 * (j:Int)):=by simpa using e2
  have:=Ti e3
  omega
theorem fV (c:Int) (many:Nat) (hm:many≤8):∀ x∈words c many,Gy x:=by
 unfold words
 split
 ·split
  ·intro x hx
   ob ⟨k,hk,rfl⟩:=List.mem_map.mp hx
   have hk:=List.mem_range.mp hk
   rf ⟨by rw [List.length_take,gq]; omega,by rw [List.length_take,gq]; omega,fun y hy=>Cd c y (List.mem_of_mem_take hy)⟩
  ·intro x hx
   ob ⟨k,hk,rfl⟩:=List.mem_map.mp hx
   have hk:=List.mem_range.mp hk
   rf ⟨by rw [List.length_drop,gq]; omega,by rw [List.length_drop,gq]; omega,fun y hy=>Cd c y (List.mem_of_mem_drop hy)⟩
 ·intro x hx
  ob ⟨k,hk,rfl⟩:=List.mem_map.mp hx
  have h1:=Int.emod_nonneg (c / 4) (b:=8) δ
  have h2:=Int.emod_lt_of_pos (c / 4) (b:=8) δ
  have h3:=Int.emod_nonneg (c / 256) (b:=c / 4 % 8 + 1) ω
  have h4:=Int.emod_lt_of_pos (c / 256) (b:=c / 4 % 8 + 1) ω
  have hl:((jQ c (c / 4 % 8).toNat).take (c / 256 % (c / 4 % 8 + 1)).toNat ++ [ql (c / 7 + 5 * (k:Int))] ++ (jQ c (c / 4 % 8).toNat).drop (c / 256 % (c / 4 % 8 + 1)).toNat).length = (c / 4 % 8).toNat + 1:=by
   rw [List.length_append,List.length_append,List.length_take,List.length_drop,mF]; simp; omega
  rf ⟨by rw [hl]; omega,by rw [hl]; omega,fun y hy=>?_⟩
  rcases List.mem_append.mp hy with hy | hy
  ·rcases List.mem_append.mp hy with hy | hy
   ·xt Ca c _ y (List.mem_of_mem_take hy)
   ·have:y = ql (c / 7 + 5 * (k:Int)):=by simpa using hy
    subst this; xt JP _ (Aa _)
  ·xt Ca c _ y (List.mem_of_mem_drop hy)
end My
namespace Mi
open PySem
def S' (l:List Nat):Str:=⟨l.toArray⟩
theorem yS (l:List Nat):(S' l).cps.toList = l:=rfl
theorem lM (l:List Nat):(S' l).length = l.length:=by simp [S',Str.length]
theorem Rg {x y:Str} (h:x.cps.toList = y.cps.toList):x = y:=by
 ob ⟨a⟩:=x
 ob ⟨b⟩:=y
 have h:a.toList = b.toList:=h
 rw [Array.toList_inj.mp h]
theorem aaQ {l m:List Nat} (h:S' l = S' m):l = m:=by
 have:=congrArg (fun x:Str=>x.cps.toList) h
 simpa [S'] using this
theorem aaR (l m:List Nat):S' l ++ S' m = S' (l ++ m):=by
 show (⟨l.toArray ++ m.toArray⟩ : Str) = ⟨(l ++ m).toArray⟩
 simp
theorem Ad:∀ l:List Str,(Str.join "" l).cps.toList = l.flatMap (·.cps.toList)
 | []=>by simp [Str.join,Str.empty]
 | [x]=>by simp [Str.join]
 | x :: y :: r=>by
  have ih:=Ad (y :: r)
  have e:Str.join "" (x :: y :: r) = x ++ "" ++ Str.join "" (y :: r):=rfl
  have e2:("" : Str).cps.toList = []:=by decide +kernel
  rw [e]
  show ((x.cps ++ ("" : Str).cps) ++ (Str.join "" (y :: r)).cps).toList = _
  rw [Array.toList_append,Array.toList_append,e2,ih]
  simp
theorem join_ones (l:List Nat):Str.join "" (l.map fun x=>S' [x]) = S' l:=by
 rf Rg ?_
 rw [Ad,yS]
 induction l with
 | nil=>rfl
 | cons a r ih=>rw [List.map_cons,List.flatMap_cons,ih]; rfl
theorem Us {α : Type} (xs:List α) (k:Nat):qy xs none (some (k:Int)) = xs.take k:=by
 show (xs.drop 0).take ((if (k:Int) < 0 then ((k:Int) + (xs.length:Int)).toNat else min (k:Int).toNat xs.length) - 0) = _
 rw [if_neg ω,List.drop_zero,Nat.sub_zero,Int.toNat_natCast]
 rcases Nat.le_total k xs.length with h | h
 ·rw [Nat.min_eq_left h]
 ·rw [Nat.min_eq_right h,List.take_of_length_le (Nat.le_refl _),List.take_of_length_le h]
theorem Ur {α : Type} (xs:List α) (k:Nat):qy xs (some (k:Int)) none = xs.drop k:=by
 show (xs.drop (if (k:Int) < 0 then ((k:Int) + (xs.length:Int)).toNat else min (k:Int).toNat xs.length)).take (xs.length - (if (k:Int) < 0 then ((k:Int) + (xs.length:Int)).toNat else min (k:Int).toNat xs.length)) = _
 rw [if_neg ω,Int.toNat_natCast]
 rcases Nat.le_total k xs.length with h | h
 ·rw [Nat.min_eq_left h]
  xt List.take_of_length_le (by rw [List.length_drop]; xt Nat.le_refl _)
 ·rw [Nat.min_eq_right h,List.drop_of_length_le (Nat.le_refl _),List.drop_of_length_le h]; simp
theorem yl (l:List Nat) (k:Nat):j8 (S' l) none (some (k:Int)) = S' (l.take k):=by
 unfold j8; rw [yS,Us]; rfl
theorem yj (l:List Nat) (k:Nat):j8 (S' l) (some (k:Int)) none = S' (l.drop k):=by
 unfold j8; rw [yS,Ur]; rfl
def du:Str := "etaoinshrdlucmfwypvbgkqjxz"
theorem Kw:du.cps.toList = My.wl:=by decide +kernel
theorem O9:du.length≤16777216:=by decide +kernel
theorem Nz {α : Type} {xs:List α} {i:Int} (h0:0≤i) (h1:i < xs.length) (d:α):wy xs i = some (xs.getD i.toNat d):=by
 unfold wy BL
 rw [if_pos h0,if_pos h1]
 have h3:i.toNat < xs.length:=by omega
 show xs[i.toNat]? = _
 rw [List.getD_eq_getElem?_getD,List.getElem?_eq_getElem h3]; rfl
theorem Xr (n:Int):wy du.cps.toList (n % 26) = some (My.ql n):=by
 rw [Kw]
 have h1:=Int.emod_nonneg n (b:=26) δ
 have h2:=Int.emod_lt_of_pos n (b:=26) δ
 xt Nz h1 (by rw [My.DY]; omega) 0
theorem vP {cs:List Int} {i:Int} (h0:0≤i) (h1:i < cs.length):dU (.lst (cs.map D.int)) (.int i) = .ok (.int (cs.getD i.toNat 0)):=by
 show pH (wy (cs.map D.int) i) = _
 rw [Nz h0 (by rw [List.length_map]; xt h1) (.int 0),f9]
 have h3:i.toNat < cs.length:=by omega
 rw [List.getD_eq_getElem?_getD,List.getElem?_map,List.getD_eq_getElem?_getD,List.getElem?_eq_getElem h3]; rfl
theorem yM {cs:List Str} {i:Int} (h0:0≤i) (h1:i < cs.length):dU (.lst (cs.map D.str)) (.int i) = .ok (.str (cs.getD i.toNat Str.empty)):=by
 show pH (wy (cs.map D.str) i) = _
 rw [Nz h0 (by rw [List.length_map]; xt h1) (.str Str.empty),f9]
 have h3:i.toNat < cs.length:=by omega
 rw [List.getD_eq_getElem?_getD,List.getElem?_map,List.getD_eq_getElem?_getD,List.getElem?_eq_getElem h3]; rfl
theorem uU (n:Nat):di 0 (n:Int) = (List.range n).map fun (k:Nat)=>D.int (k:Int):=by
 unfold di
 rw [show ((n:Int) - 0).toNat = n by omega]
 xt List.map_congr_left fun k _=>by rw [Int.zero_add]
theorem gY (n:Nat):(di 0 (n:Int)).length = n:=by rw [uU]; simp
theorem uV {n i:Nat} {x:D} (h:(di 0 (n:Int))[i]? = some x):i < n∧x = .int (i:Int):=by
 rw [uU,List.getElem?_map] at h
 cases hr:(List.range n)[i]? with
 | none=>rw [hr] at h; cases h
 | some k =>
  rw [hr] at h
  ob ⟨h1,h2⟩:=List.getElem?_eq_some_iff.mp hr
  rw [List.getElem_range] at h2
  subst h2
  rw [List.length_range] at h1
  xt ⟨h1,(Option.some.inj h).symm⟩
theorem j9 {tg:Tg} {a:E} {e:Mi.Env} (g:Nat→D) (n:Nat) (h:∀ k < n,∃ e1,tg.put (.int (k:Int)) e = .ok e1∧a e1 = .ok (g k)):eX tg jq a e (di 0 (n:Int)) = .ok ((List.range n).map g):=by
 rw [uU,fM (fun (k:Nat)=>D.int (k:Int)) g (fun _=>true) (List.range n) fun k hk=>?_]
 ·rw [List.filter_eq_self.mpr fun _ _=>rfl]
 ·ob ⟨e1,h1,h2⟩:=h k (List.mem_range.mp hk)
  xt ⟨e1,h1,rfl,fun _=>h2⟩
theorem tU {i:Int} (h0:-1000≤i) (h1:i≤1000):okR i:=by unfold okR; omega
theorem kI {i j:Int} (h0:-(2 ^ 64) < i) (h1:i < 2 ^ 64):vJ i j:=.inl ⟨h0,h1⟩
theorem yH {i j:Int} (h0:-(2 ^ 64) < j) (h1:j < 2 ^ 64):vJ i j:=.inr ⟨h0,h1⟩
theorem c7 {j:Int} (h0:0 < j) (h1:j < 2 ^ 64):vK j:=by
 rf ⟨h0,?_⟩
 have h2:j.natAbs < 2 ^ 64:=by omega
 have h3:j.natAbs≠0:=by omega
 have:=(Nat.log2_lt h3).mpr h2
 omega
end Mi
namespace Mr
open PySem Mi
open My (words jC jQ ql gq mF oW rA)
theorem Ba (n:Int):dU (.str du) (.int (n % 26)) = .ok (.str (S' [ql n])):=by
 show aK _ _ = _
 rw [ak O9,Xr]; rfl
theorem Ae (l:List Nat) (h:l.length≤8):Nr (.str "") (.lst (l.map fun x=>D.str (S' [x]))) = .ok (.str (S' l)):=by
 show (pH (my (l.map fun x=>D.str (S' [x])))).bind _ = _
 have e:l.map (fun x=>D.str (S' [x])) = (l.map fun x=>S' [x]).map D.str:=by rw [List.map_map]; rfl
 rw [e,sY,f9,aD,ak ?_,join_ones]
 have h1:((l.map fun x=>S' [x]).map (·.length)).sum = l.length:=by
  clear h e
  induction l with
  | nil=>rfl
  | cons a r ih=>rw [List.map_cons,List.map_cons,List.sum_cons,ih,lM,List.length_cons]; simp; omega
 have h2:("" : Str).length = 0:=by decide +kernel
 rw [h1,h2]; omega
theorem st1 (c:Int) (k:Nat) (d32:vK 32) (m5:vJ 5 (k:Int)) (mk:vJ (k:Int) k):(m2 dj (m2 dj (m2 dC (mV 1) (mC (.int 32))) (m2 cQ (mC (.int 5)) (mV 2))) (m2 cQ (mV 2) (mV 2))) [§(.str du),§(.int c),§(.int k)] = .ok (.int (c / 32 + 5 * (k:Int) + (k:Int) * (k:Int))) :=
 (aG (aG (aG rfl rfl (ak d32)) (aG rfl rfl (ak m5)) rfl) (aG rfl rfl (ak mk)) rfl)
theorem st2 (c:Int) (e:Mi.Env) (a:E) (h:a e = .ok (.int c)) (h0:e[0]? = some (§(.str du))):m2 dU (mV 0) (m2 bT a (mC (.int 26))) e = .ok (.str (S' [ql c])) :=
 aG (x:=.str du) (by unfold mV; rw [h0]) (aG h rfl (ak δ)) (Ba _)
theorem Ss {k n:Nat} (h:k < n) (h8:n < 8):vJ (k:Int) k:=kI ω ω
theorem size_of (c:Int):∃ n:Nat,c / 4 % 8 = (n:Int)∧n < 8:=by
 have z1:=Int.emod_nonneg (c / 4) (b:=8) δ
 have z2:=Int.emod_lt_of_pos (c / 4) (b:=8) δ
 xt ⟨(c / 4 % 8).toNat,by omega,by omega⟩
theorem at_of (c:Int) (n:Nat):∃ t:Nat,c / 256 % ((n:Int) + 1) = (t:Int)∧t≤n:=by
 have z3:=Int.emod_nonneg (c / 256) (b:=(n:Int) + 1) ω
 have z4:=Int.emod_lt_of_pos (c / 256) (b:=(n:Int) + 1) ω
 xt ⟨(c / 256 % ((n:Int) + 1)).toNat,by omega,by omega⟩
theorem QT (c:Int) (m:Nat) (hm:m≤8):pI [.d (.int c),.d (.int (m:Int))] = .ok (.d (aP ((words c m).map S'))):=by
 unfold pI Dn
 rw [Ir]
 have hr8:okR 8:=tU δ δ
 have hrm:okR (m:Int):=tU ω ω
 have hl0:(PySem.Str.ofString "etaoinshrdlucmfwypvbgkqjxz") = du:=rfl
 have g4:∀ r:Rs D,aK ((0:Int) < 4) r = r:=fun r=>ak δ
 have g26:∀ r:Rs D,aK ((0:Int) < 26) r = r:=fun r=>ak δ
 have g8:∀ r:Rs D,aK ((0:Int) < 8) r = r:=fun r=>ak δ
 by_cases c1:c % 4 < 2
 ·have Yu:eX (.n 2) jq (m2 dU (mV 0) (m2 bT (m2 dC (mV 1) (m2 dj (mC (.int 4)) (m2 cQ (mC (.int 3)) (mV 2)))) (mC (.int 26)))) [§(.str du),§(.int c),none] (di 0 8) = .ok ((jC c).map fun x=>D.str (S' [x])):=by
   have:=j9 (tg:=.n 2) (a:=m2 dU (mV 0) (m2 bT (m2 dC (mV 1) (m2 dj (mC (.int 4)) (m2 cQ (mC (.int 3)) (mV 2)))) (mC (.int 26)))) (e:=[§(.str du),§(.int c),none]) (fun k=>D.str (S' [ql (c / (4 + 3 * (k:Int)))])) 8 fun k hk=>⟨[§(.str du),§(.int c),§(.int k)],rfl,by
    Ψ []
    rw [ak (kI δ δ)]
    Ψ []
    rw [ak (c7 ω ω)]
    Ψ [g26,Ba]⟩
   rw [show ((8:Nat):Int) = 8 from rfl] at this
   rw [this]
   unfold jC
   rw [List.map_map]; rfl
  have hp:qJ [some 2,some 0,none] [§(.int c),§(.int (m:Int)),§(.str du),none,none,none,none] = [§(.str du),§(.int c),none]:=rfl
  have hj:=Ae (jC c) (by rw [gq]; omega)
  have hw8:(di 0 8).length≤16777216:=by rw [show (8:Int) = ((8:Nat):Int) from rfl,gY]; omega
  have hwm:(di 0 (m:Int)).length≤16777216:=by rw [gY]; omega
  by_cases c2:c % 4 = 0
  ·have hc:eX (.n 1) jq (qU IV (mV 0) none (some (m2 dj (mV 1) (mC (.int 1))))) [§(.str (S' (jC c))),none] (di 0 (m:Int)) = .ok ((words c m).map fun l=>D.str (S' l)):=by
    rw [j9 (fun k=>D.str (S' ((jC c).take (k + 1)))) m fun k hk=>⟨[§(.str (S' (jC c))),§(.int k)],rfl,by
     Ψ []
     rw [ak (by rw [lM,gq]; omega),show (k:Int) + 1 = ((k + 1:Nat):Int) by omega,yl]⟩]
    unfold words
    rw [if_pos c1,if_pos c2,List.map_map]; rfl
   have hp2:∀ z,qJ [some 3,none] [§(.int c),§(.int (m:Int)),§(.str du),some z,none,none,none] = [some z,none]:=fun _=>rfl
   have hmod:cB (m2 BR (m2 bT (mV 0) (mC (.int 4))) (mC (.int 2))) [§(.int c),§(.int (m:Int)),§(.str du),none,none,none,none] = .ok true :=
    cU ((aG (aG rfl rfl (g4 _)) rfl rfl).trans (by rw [Mx,decide_eq_true c1]))
   have T4:cB (m2 sS (m2 bT (mV 0) (mC (.int 4))) (mC (.int 0))) [§(.int c),§(.int (m:Int)),§(.str du),§(.str (S' (jC c))),none,none,none] = .ok true :=
    cU ((aG (aG rfl rfl (g4 _)) rfl rfl).trans (by rw [vZ,decide_eq_true c2]))
   show Rs.bind _ mZ = _
   rw [aM (e':=[§(.int c),§(.int (m:Int)),§(.str du),none,none,none,none]) (bD rfl)]
   rf (congrArg (fun r=>Rs.bind r mZ) (rG (w:=.d (aP ((words c m).map S'))) ?_)).trans rfl
   rw [jx hmod,aM (e':=[§(.int c),§(.int (m:Int)),§(.str du),§(.str (S' (jC c))),none,none,none]) (bD (aG rfl (fB (oA rfl hr8) hw8 Yu) hj))]
   rw [rG ((jx T4).trans (fH (cC (fB (oA rfl hrm) hwm hc))))]
   rw [aP,List.map_map]
   rfl
  ·have hc:eX (.n 1) jq (qU IV (mV 0) (some (m2 yz (mC (.int 7)) (mV 1))) none) [§(.str (S' (jC c))),none] (di 0 (m:Int)) = .ok ((words c m).map fun l=>D.str (S' l)):=by
    rw [j9 (fun k=>D.str (S' ((jC c).drop (7 - k)))) m fun k hk=>⟨[§(.str (S' (jC c))),§(.int k)],rfl,by
     Ψ []
     rw [ak (by rw [lM,gq]; omega),show (7:Int) - (k:Int) = ((7 - k:Nat):Int) by omega,yj]⟩]
    unfold words
    rw [if_pos c1,if_neg c2,List.map_map]; rfl
   have hp2:∀ z,qJ [some 3,none] [§(.int c),§(.int (m:Int)),§(.str du),some z,none,none,none] = [some z,none]:=fun _=>rfl
   have hmod:cB (m2 BR (m2 bT (mV 0) (mC (.int 4))) (mC (.int 2))) [§(.int c),§(.int (m:Int)),§(.str du),none,none,none,none] = .ok true :=
    cU ((aG (aG rfl rfl (g4 _)) rfl rfl).trans (by rw [Mx,decide_eq_true c1]))
   have T4:cB (m2 sS (m2 bT (mV 0) (mC (.int 4))) (mC (.int 0))) [§(.int c),§(.int (m:Int)),§(.str du),§(.str (S' (jC c))),none,none,none] = .ok false :=
    cU ((aG (aG rfl rfl (g4 _)) rfl rfl).trans (by rw [vZ,decide_eq_false c2]))
   show Rs.bind _ mZ = _
   rw [aM (e':=[§(.int c),§(.int (m:Int)),§(.str du),none,none,none,none]) (bD rfl)]
   rf (congrArg (fun r=>Rs.bind r mZ) (rG (w:=.d (aP ((words c m).map S'))) ?_)).trans rfl
   rw [jx hmod,aM (e':=[§(.int c),§(.int (m:Int)),§(.str du),§(.str (S' (jC c))),none,none,none]) (bD (aG rfl (fB (oA rfl hr8) hw8 Yu) hj))]
   rw [aM (dI T4),fH (cC (fB (oA rfl hrm) hwm hc))]
   rw [aP,List.map_map]
   rfl
 ·ob ⟨n,hn,hn8⟩:=size_of c
  ob ⟨t,ht,ht8⟩:=at_of c n
  have hrn:okR (n:Int):=tU ω ω
  have d4:vK 4:=c7 δ δ
  have d32:vK 32:=c7 δ δ
  have aek:vK 256:=c7 δ δ
  have d7:vK 7:=c7 δ δ
  have acu:eX (.n 2) jq (m2 dU (mV 0) (m2 bT (m2 dj (m2 dj (m2 dC (mV 1) (mC (.int 32))) (m2 cQ (mC (.int 5)) (mV 2))) (m2 cQ (mV 2) (mV 2))) (mC (.int 26)))) [§(.str du),§(.int c),none] (di 0 (n:Int)) = .ok ((jQ c n).map fun x=>D.str (S' [x])):=by
   rw [j9 (fun k=>D.str (S' [ql (c / 32 + 5 * (k:Int) + (k:Int) * (k:Int))])) n fun k hk=>⟨[§(.str du),§(.int c),§(.int k)],rfl,by
    xt st2 _ _ _ (st1 c k d32 (kI δ δ) (Ss hk hn8)) rfl⟩]
   unfold jQ
   rw [List.map_map]; rfl
  have hp:qJ [some 2,some 0,none] [§(.int c),§(.int (m:Int)),§(.str du),none,§(.int (n:Int)),none,none] = [§(.str du),§(.int c),none]:=rfl
  have hj:=Ae (jQ c n) (by rw [mF]; omega)
  have hwn:(di 0 (n:Int)).length≤16777216:=by rw [gY]; omega
  have hwm:(di 0 (m:Int)).length≤16777216:=by rw [gY]; omega
  have hc:eX (.n 4) jq (m2 dj (m2 dj (qU IV (mV 0) none (some (mV 2))) (m2 dU (mV 1) (m2 bT (m2 dj (m2 dC (mV 3) (mC (.int 7))) (m2 cQ (mC (.int 5)) (mV 4))) (mC (.int 26))))) (qU IV (mV 0) (some (mV 2)) none))
   [§(.str (S' (jQ c n))),§(.str du),§(.int (t:Int)),§(.int c),none] (di 0 (m:Int)) = .ok ((words c m).map fun l=>D.str (S' l)):=by
   rw [j9 (fun k=>D.str (S' ((jQ c n).take t ++ [ql (c / 7 + 5 * (k:Int))] ++ (jQ c n).drop t))) m fun k hk=>⟨[§(.str (S' (jQ c n))),§(.str du),§(.int (t:Int)),§(.int c),§(.int k)],rfl,by
    have gS:∀ r:Rs D,aK ((S' (jQ c n)).length≤16777216) r = r:=fun r=>ak (by rw [lM,mF]; omega)
    have gM:∀ r:Rs D,aK (vJ 5 (k:Int)) r = r:=fun r=>ak (kI δ δ)
    Ψ [ak d7,gS,gM,g26,Ba,yl,yj]
    rw [ak (by rw [lM,lM,List.length_take,mF]; simp; omega)]
    Ψ [aaR]
    rw [ak (by rw [lM,lM,List.length_append,List.length_take,List.length_drop,mF]; simp; omega)]⟩]
   unfold words
   rw [if_neg c1,List.map_map,hn,ht]
   rfl
  have hmod:cB (m2 BR (m2 bT (mV 0) (mC (.int 4))) (mC (.int 2))) [§(.int c),§(.int (m:Int)),§(.str du),none,none,none,none] = .ok false :=
   cU ((aG (aG rfl rfl (g4 _)) rfl rfl).trans (by rw [Mx,decide_eq_false c1]))
  show Rs.bind _ mZ = _
  rw [aM (e':=[§(.int c),§(.int (m:Int)),§(.str du),none,none,none,none]) (bD rfl)]
  rw [aM (dI hmod)]
  rw [aM (e':=[§(.int c),§(.int (m:Int)),§(.str du),none,§(.int (n:Int)),none,none]) (bD (d:=.int (n:Int)) ((aG (aG rfl rfl (ak d4)) rfl (g8 _)).trans (by rw [hn])))]
  rw [aM (e':=[§(.int c),§(.int (m:Int)),§(.str du),none,§(.int (n:Int)),§(.str (S' (jQ c n))),none]) (bD (aG rfl (fB (oA rfl hrn) hwn acu) hj))]
  rw [aM (e':=[§(.int c),§(.int (m:Int)),§(.str du),none,§(.int (n:Int)),§(.str (S' (jQ c n))),§(.int (t:Int))]) (bD (d:=.int (t:Int)) ((aG (aG rfl rfl (ak aek)) (aG rfl rfl rfl) (ak ω)).trans (by rw [ht])))]
  rw [fH (cC (fB (oA rfl hrm) hwm hc))]
  Ψ [aP,List.map_map]
  rfl
end Mr
namespace Mr
open PySem Mi
open My (words oW rA)
theorem V3 (n:Nat) (h:n≤8):okR (n:Int):=tU ω ω
theorem J4 {ls:List Int} {z:Int} (h0:0≤z) (h1:z < ls.length) (hl:ls.length≤100):Ht (ls.map D.int) z = .ok (.int (ls.getD z.toNat 0),(ls.eraseIdx z.toNat).map D.int):=by
 have h3:z.toNat < ls.length:=by omega
 unfold Ht
 rw [ak ω,show BL (ls.map D.int).length z = some z.toNat by
  unfold BL
  rw [if_pos h0,if_pos (by rw [List.length_map]; xt h1)],f9,aD,List.getElem?_map,List.getElem?_eq_getElem h3,List.getD_eq_getElem?_getD,List.getElem?_eq_getElem h3]
 show Rs.ok (D.int ls[z.toNat],(ls.map D.int).eraseIdx z.toNat) = _
 have:∀ (l:List Int) (k:Nat),(l.map D.int).eraseIdx k = (l.eraseIdx k).map D.int:=by
  intro l
  induction l with
  | nil=>intro k; rfl
  | cons a r ih =>
   intro k
   cases k with
   | zero=>rfl
   | succ k=>rw [List.map_cons,List.eraseIdx_cons_succ,ih k]; rfl
 rw [this]; rfl
theorem Tn (e:Mi.Env):mN gm [] e = .ok (.lst []):=by
 show aK (([]:List D).length≤16777216) (Rs.ok (D.lst [])) = _
 xt ak (by simp)
def abc:Str := "abcdefghijklmnopqrstuvwxyz"
end Mr
namespace Mr
open PySem Mi
theorem JZ {ls:List Int} {z v:Int} (h0:0≤z) (h1:z < ls.length):∃ j,BL (ls.map D.int).length z = some j∧(ls.map D.int).set j (.int v) = (ls.set j v).map D.int:=by
 rf ⟨z.toNat,?_,?_⟩
 ·unfold BL
  rw [if_pos h0,if_pos (by rw [List.length_map]; xt h1)]
 ·rw [List.map_set]
theorem Zh {i:Nat} {k a:E} {e:Mi.Env} {ls:List Int} {z v:Int} (ha:a e = .ok (.int v)) (hk:k e = .ok (.int z)) (hg:getL e i = .ok (ls.map D.int)) (h0:0≤z) (h1:z < ls.length):∃ ls':List Int,ls'.length = ls.length∧ou i k a e = .ok (.nx (putL e i (ls'.map D.int))):=by
 ob ⟨j,hj,hs⟩:=JZ (v:=v) h0 h1
 rf ⟨ls.set j v,by simp,?_⟩
 unfold ou
 rw [ha,aD,hk,aD,NQ,aD,hg,aD,hj,f9,aD,hs]
end Mr
namespace Mr
open PySem Mi
abbrev Ix:=Nat×Nat
def iD (p q:Ix):Prop:=p.1 < q.1∨(p.1 = q.1∧p.2 < q.2)
def nth (names:List Str) (i:Nat):Str:=names.getD i Str.empty
def arrOf (names:List Str) (p:Ix):Ar:=(nth names p.1,nth names p.2)
structure nq (names:List Str) (A:List Ix) (r:Nat→Int):Prop where
 nd:names.Nodup
 pos:1≤names.length
 le:names.length≤8
 nA:A.Pairwise iD
 all:∀ p∈A,p.1 < names.length∧p.2 < names.length∧r p.1 < r p.2
 al:A.length≤64
theorem lW {names:List Str} {i:Nat} (h:i < names.length):nth names i∈names:=by
 unfold nth
 rw [List.getD_eq_getElem?_getD,List.getElem?_eq_getElem h]
 xt List.getElem_mem h
theorem jJ {names:List Str} (nd:names.Nodup) {i j:Nat} (hi:i < names.length) (hj:j < names.length) (h:nth names i = nth names j):i = j:=by
 unfold nth at h
 rw [List.getD_eq_getElem?_getD,List.getElem?_eq_getElem hi,List.getD_eq_getElem?_getD,List.getElem?_eq_getElem hj] at h
 xt (List.getElem_inj nd).mp h
theorem SN {names:List Str} {x:Str} (h:x∈names):∃ i,i < names.length∧nth names i = x:=by
 ob ⟨i,hi,e⟩:=List.getElem_of_mem h
 rf ⟨i,hi,?_⟩
 unfold nth
 rw [List.getD_eq_getElem?_getD,List.getElem?_eq_getElem hi]; xt e
theorem nq.kJ {names:List Str} {A:List Ix} {r:Nat→Int} (N:nq names A r):Qv names (A.map (arrOf names)):=by
 rf ⟨N.nd,N.pos,N.le,by rw [List.length_map]; xt N.al,fun p hp=>?_,fun x=>r (names.idxOf x),fun p hp=>?_⟩
 ·ob ⟨q,hq,rfl⟩:=List.mem_map.mp hp
  xt lW (N.all q hq).1
 ·ob ⟨q,hq,rfl⟩:=List.mem_map.mp hp
  ob ⟨h1,h2,h3⟩:=N.all q hq
  have key:∀ i,i < names.length→names.idxOf (nth names i) = i:=fun i hi=>by
   have hm:=lW hi
   have hl:names.idxOf (nth names i) < names.length:=List.idxOf_lt_length_of_mem hm
   rf jJ N.nd hl hi ?_
   have h4:names[names.idxOf (nth names i)] = nth names i:=List.getElem_idxOf hl
   show names.getD (names.idxOf (nth names i)) Str.empty = _
   rw [List.getD_eq_getElem?_getD,List.getElem?_eq_getElem hl]
   xt h4
  show r (names.idxOf (nth names q.1)) < r (names.idxOf (nth names q.2))
  rw [key _ h1,key _ h2]; xt h3
def good (m:Nat) (r:Nat→Int) (A:List Ix) (j k:Nat):Prop:=A.Pairwise iD∧(∀ p∈A,p.1 < m∧p.2 < m∧r p.1 < r p.2∧(p.1 < j∨(p.1 = j∧p.2 < k)))∧A.length≤8 * j + k
theorem good.skip {m:Nat} {r:Nat→Int} {A:List Ix} {j k:Nat} (h:good m r A j k):good m r A j (k + 1) :=
 ⟨h.1,fun p hp=>⟨(h.2.1 p hp).1,(h.2.1 p hp).2.1,(h.2.1 p hp).2.2.1,by have:=(h.2.1 p hp).2.2.2; omega⟩,by have:=h.2.2; omega⟩
theorem good.add {m:Nat} {r:Nat→Int} {A:List Ix} {j k:Nat} (h:good m r A j k) (hj:j < m) (hk:k < m) (hr:r j < r k):good m r (A ++ [(j,k)]) j (k + 1):=by
 rf ⟨List.pairwise_append.mpr ⟨h.1,List.pairwise_singleton _ _,fun p hp q hq=>?_⟩,fun p hp=>?_,by rw [List.length_append]; have:=h.2.2; simp; omega⟩
 ·have:q = (j,k):=by simpa using hq
  subst this
  have:=(h.2.1 p hp).2.2.2
  xt this
 ·rcases List.mem_append.mp hp with hp | hp
  ·xt (h.skip.2.1 p hp)
  ·have:p = (j,k):=by simpa using hp
   subst this
   xt ⟨hj,hk,hr,.inr ⟨rfl,by omega⟩⟩
theorem good.next {m:Nat} {r:Nat→Int} {A:List Ix} {j k:Nat} (h:good m r A j k) (hk:k≤8):good m r A (j + 1) 0 :=
 ⟨h.1,fun p hp=>⟨(h.2.1 p hp).1,(h.2.1 p hp).2.1,(h.2.1 p hp).2.2.1,by have:=(h.2.1 p hp).2.2.2; omega⟩,by have:=h.2.2; omega⟩
def uX (names:List Str) (A:List Ix):D:=.lst ((A.map (arrOf names)).map pairD)
theorem Y6 {a:Int} (h0:0≤a) (h1:a < 8):-(2 ^ 64) < a∧a < 2 ^ 64∧0≤a * (a - 1) / 2∧a * (a - 1) / 2≤21:=by
 have:a = 0∨a = 1∨a = 2∨a = 3∨a = 4∨a = 5∨a = 6∨a = 7:=by omega
 rcases this with h | h | h | h | h | h | h | h <;> subst h <;> decide
end Mr
namespace Mr
open PySem Mi
open My (words oW rA)
theorem t6 (ns:List Int) (k:Nat) (hk:k≤100):∃ c:Int,dR [.d (.lst (ns.map D.int)),.d (.int (k:Int))] = .ok (.d (.int c)):=by
 unfold dR Jj
 rw [vW]
 have hl:mN iR [mV 0] [§(.lst (ns.map D.int)),§(.int (k:Int)),none] = .ok (.int (ns.length:Int)):=by show Rs.ok (D.int ((ns.map D.int).length:Int)) = _; rw [List.length_map]
 have c1:cB (m2 BR (mV 1) (mN iR [(mV 0)])) [§(.lst (ns.map D.int)),§(.int (k:Int)),none] = .ok (decide ((k:Int) < (ns.length:Int))):=cU (aG rfl hl rfl)
 by_cases h:(k:Int) < (ns.length:Int)
 ·rw [decide_eq_true h] at c1
  xt ⟨_,by
   rw [show ([§(.lst (ns.map D.int)),§(.int (k:Int))] ++ List.replicate (3 - 2) none) = [§(.lst (ns.map D.int)),§(.int (k:Int)),none] from rfl]
   rw [rG ((jx c1).trans (fH (cC (aG rfl rfl (vP ω h)))))]; rfl⟩
 ·rw [decide_eq_false h] at c1
  have s1:bZ 2 (m2 dj (mC (.int 30011)) (m2 cQ (m2 cQ (mC (.int 709)) (mV 1)) (mV 1))) [§(.lst (ns.map D.int)),§(.int (k:Int)),none] = .ok (.nx [§(.lst (ns.map D.int)),§(.int (k:Int)),§(.int (30011 + 709 * (k:Int) * (k:Int)))]) :=
   bD (aG rfl (aG (aG rfl rfl (ak (kI δ δ))) rfl (ak (yH ω ω))) rfl)
  have hl2:mN iR [mV 0] [§(.lst (ns.map D.int)),§(.int (k:Int)),§(.int (30011 + 709 * (k:Int) * (k:Int)))] = .ok (.int (ns.length:Int)):=by show Rs.ok (D.int ((ns.map D.int).length:Int)) = _; rw [List.length_map]
  have c2:cB (m2 dGt (mN iR [(mV 0)]) (mC (.int 0))) [§(.lst (ns.map D.int)),§(.int (k:Int)),§(.int (30011 + 709 * (k:Int) * (k:Int)))] = .ok (decide ((0:Int) < (ns.length:Int))):=cU (aG hl2 rfl rfl)
  by_cases h0:(0:Int) < (ns.length:Int)
  ·rw [decide_eq_true h0] at c2
   rf ⟨_,by
    rw [show ([§(.lst (ns.map D.int)),§(.int (k:Int))] ++ List.replicate (3 - 2) none) = [§(.lst (ns.map D.int)),§(.int (k:Int)),none] from rfl]
    rw [aM ((dI c1).trans rfl),aM s1,aM ((jx c2).trans (bD (aG rfl (aG (aG (aG rfl rfl (vP δ h0)) rfl (ak δ)) (aG (aG (aG rfl rfl (ak (kI ω ω))) (aG rfl rfl (ak (kI δ δ))) rfl) rfl rfl) (ak (kI ?_ ?_))) rfl)))]
    rfl⟩
   ·have:=Int.emod_nonneg (ns.getD (0:Int).toNat 0) (b:=99991) δ; omega
   ·have:=Int.emod_lt_of_pos (ns.getD (0:Int).toNat 0) (b:=99991) δ; omega
  ·rw [decide_eq_false h0] at c2
   xt ⟨_,by
    rw [show ([§(.lst (ns.map D.int)),§(.int (k:Int))] ++ List.replicate (3 - 2) none) = [§(.lst (ns.map D.int)),§(.int (k:Int)),none] from rfl]
    rw [aM ((dI c1).trans rfl),aM s1,aM ((dI c2).trans rfl)]
    rfl⟩
theorem Ow (d:Int) (m:Nat) (hm:m≤8):∃ rs:List Int,lg [.d (.int d),.d (.int (m:Int))] = .ok (.d (.lst (rs.map D.int)))∧rs.length = m:=by
 unfold lg ym
 rw [Ir]
 have hw:(di 0 (m:Int)).length≤16777216:=by rw [gY]; omega
 have hc:eX (.n 0) jq (mV 0) [none] (di 0 (m:Int)) = .ok ((List.range m).map fun (k:Nat)=>D.int (k:Int)) :=
  j9 (fun k=>D.int (k:Int)) m fun k _=>⟨[§(.int k)],rfl,rfl⟩
 have hr:((List.range m).map fun (k:Nat)=>D.int (k:Int)) = ((List.range m).map fun (k:Nat)=>(k:Int)).map D.int:=by rw [List.map_map]; rfl
 rw [hr] at hc
 ob ⟨e',h1,h2⟩:=kO (tg:=.n 5) (body:=aY (bZ 4 (m2 bT (m2 dj (m2 dj (m2 cQ (mV 4) (mC (.int 48271))) (m2 cQ (mC (.int 7)) (mV 5))) (mC (.int 1))) (mC (.int 2147483647)))) (mO 3 2 (m2 bT (m2 dC (mV 4) (mC (.int 32))) (mN iR [(mV 2)]))))
  (fun i e=>∃ (x:Int) (ls rs:List Int) (o:Option W),e = [§(.int d),§(.int (m:Int)),§(.lst (ls.map D.int)),§(.lst (rs.map D.int)),§(.int x),o]∧ls.length + i = m∧rs.length = i) (di 0 (m:Int)) 0 (fun i x e hx ⟨x0,ls,rs,o,he,hl,hrs⟩=>by
   ob ⟨hi,rfl⟩:=uV hx
   subst he
   rw [Nat.zero_add] at hl hrs
   have hpos:(0:Int) < (ls.length:Int):=by omega
   obtain ⟨y,hy⟩ : ∃ y,y = (x0 * 48271 + 7 * (i:Int) + 1) % 2147483647:=⟨_,rfl⟩
   have z1:=Int.emod_nonneg (y / 32) (b:=(ls.length:Int)) ω
   have z2:=Int.emod_lt_of_pos (y / 32) hpos
   rf ⟨[§(.int d),§(.int (m:Int)),§(.lst (ls.map D.int)),§(.lst (rs.map D.int)),§(.int x0),§(.int (i:Int))],[§(.int d),§(.int (m:Int)),§(.lst ((ls.eraseIdx (y / 32 % (ls.length:Int)).toNat).map D.int)),§(.lst ((rs ++ [ls.getD (y / 32 % (ls.length:Int)).toNat 0]).map D.int)),§(.int y),§(.int (i:Int))],rfl,?_,y,ls.eraseIdx (y / 32 % (ls.length:Int)).toNat,rs ++ [ls.getD (y / 32 % (ls.length:Int)).toNat 0],§(.int (i:Int)),rfl,?_,?_⟩
   ·have h0:m2 bT (m2 dC (mV 4) (mC (.int 32))) (mN iR [(mV 2)]) [§(.int d),§(.int (m:Int)),§(.lst (ls.map D.int)),§(.lst (rs.map D.int)),§(.int y),§(.int (i:Int))] = .ok (.int (y / 32 % (ls.length:Int))) :=
     aG (x:=.int (y / 32)) (y:=.int (ls.length:Int)) (aG rfl rfl (ak (c7 δ δ))) (by show Rs.ok (D.int ((ls.map D.int).length:Int)) = _; rw [List.length_map]) (ak hpos)
    rw [aM (e':=[§(.int d),§(.int (m:Int)),§(.lst (ls.map D.int)),§(.lst (rs.map D.int)),§(.int y),§(.int (i:Int))])]
    ·unfold mO
     rw [h0]
     simp only [aD,NQ,getL,List.getElem?_cons_succ,List.getElem?_cons_zero,J4 z1 z2 ω,putL,List.set_cons_succ,List.set_cons_zero]
     rw [ak (by rw [List.length_map]; omega),List.map_append]
     rfl
    ·rw [hy]
     xt bD (aG (aG (aG (aG rfl rfl (ak (yH δ δ))) (aG rfl rfl (ak (kI δ δ))) rfl) rfl rfl) rfl (ak δ))
   ·rw [List.length_eraseIdx_of_lt ω]; omega
   ·rw [List.length_append,hrs]; simp) [§(.int d),§(.int (m:Int)),§(.lst (((List.range m).map fun (k:Nat)=>(k:Int)).map D.int)),§(.lst []),§(.int (d % 2147483647)),none] ⟨_,_,[],none,rfl,by simp,rfl⟩
 ob ⟨d2,ls,rs,o,he,hl,hrs⟩:=h2
 subst he
 rw [gY,Nat.zero_add] at hl hrs
 rf ⟨rs,?_,hrs⟩
 rw [aM (e':=[§(.int d),§(.int (m:Int)),§(.lst (((List.range m).map fun (k:Nat)=>(k:Int)).map D.int)),none,none,none]) (bD (fB (oA rfl (V3 m hm)) hw hc))]
 rw [aM (e':=[§(.int d),§(.int (m:Int)),§(.lst (((List.range m).map fun (k:Nat)=>(k:Int)).map D.int)),§(.lst []),none,none]) (bD (Tn _))]
 rw [aM (e':=[§(.int d),§(.int (m:Int)),§(.lst (((List.range m).map fun (k:Nat)=>(k:Int)).map D.int)),§(.lst []),§(.int (d % 2147483647)),none]) (bD (aG rfl rfl (ak δ)))]
 rw [aM ((j6 (oA rfl (V3 m hm))).trans h1)]
 rfl
end Mr
namespace Mr
open PySem Mi
open My (words oW rA)
theorem Uy (ns:List Int) {e:Mi.Env} {j k:Nat} (hj:j < 8) (hk:k < 8) (e0:mV 0 e = .ok (.lst (ns.map D.int))) (e7:mV 7 e = .ok (.int (j:Int))) (e8:mV 8 e = .ok (.int (k:Int))):∃ c:Int,(aZ dR [(wD (mV 0)),(wD (m2 dj (m2 dj (mC (.int 4)) (m2 dC (m2 cQ (mN xF [(mV 7),(mV 8)]) (m2 yz (mN xF [(mV 7),(mV 8)]) (mC (.int 1)))) (mC (.int 2)))) (mN BW [(mV 7),(mV 8)])))]) e = .ok (.int c):=by
 have hx:mN xF [(mV 7),(mV 8)] e = .ok (.int (max (j:Int) (k:Int))):=(HJ e7 e8).trans (S9 _ _)
 have hn:mN BW [(mV 7),(mV 8)] e = .ok (.int (min (j:Int) (k:Int))):=(HJ e7 e8).trans (Kr _ _)
 ob ⟨t1,t2,t3,t4⟩:=Y6 (a:=max (j:Int) (k:Int)) ω ω
 obtain ⟨z,hz⟩ : ∃ z:Nat,4 + max (j:Int) (k:Int) * (max (j:Int) (k:Int) - 1) / 2 + min (j:Int) (k:Int) = (z:Int):=⟨(4 + max (j:Int) (k:Int) * (max (j:Int) (k:Int) - 1) / 2 + min (j:Int) (k:Int)).toNat,by omega⟩
 ob ⟨c,hc⟩:=t6 ns z ω
 rf ⟨c,call2 (cC e0) (cC (aG (aG rfl (aG (aG hx (aG hx rfl rfl) (ak (kI t1 t2))) rfl (ak (c7 δ δ))) rfl) hn rfl)) ?_⟩
 rw [hz]; xt hc
theorem S6 (ns:List Int) (hi:Nat) (h0:1≤hi) (h2:hi≤8) :
 ∃ names A r,pK [.d (.lst (ns.map D.int)),.d (.int (hi:Int))] = .ok (.d (bx names (A.map (arrOf names))))∧nq names A r∧∃ (c:Int) (m:Nat),m≤8∧names = (words c m).map S':=by
 ob ⟨c0,hc0⟩:=t6 ns 0 δ
 ob ⟨c1,hc1⟩:=t6 ns 1 δ
 ob ⟨c2,hc2⟩:=t6 ns 2 δ
 ob ⟨c3,hc3⟩:=t6 ns 3 δ
 have hw:(0:Int) < (hi:Int):=by omega
 have q1:=Int.emod_nonneg c0 (b:=(hi:Int)) ω
 have q2:=Int.emod_lt_of_pos c0 hw
 obtain ⟨m,hm⟩ : ∃ m:Nat,1 + c0 % (hi:Int) = (m:Int):=⟨(1 + c0 % (hi:Int)).toNat,by omega⟩
 have hm1:1≤m:=by omega
 have hm2:m≤hi:=by omega
 have hm8:m≤8:=by omega
 obtain ⟨names,hnm⟩ : ∃ names,names = (words c1 m).map S':=⟨_,rfl⟩
 have hn:=QT c1 m hm8
 rw [← hnm] at hn
 have hnl:names.length = m:=by rw [hnm,List.length_map]; xt oW c1 m
 have hnd:names.Nodup:=by rw [hnm]; xt List.Pairwise.map _ (fun a b h z=>h (aaQ z)) (rA _ _ hm8)
 ob ⟨rs,hr,hrl⟩:=Ow c2 m hm8
 have q3:=Int.emod_nonneg c3 (b:=6) δ
 have q4:=Int.emod_lt_of_pos c3 (b:=6) δ
 obtain ⟨th,hth⟩ : ∃ th,dU (.lst ([4,1,2,3,2,3].map D.int)) (.int (c3 % 6)) = .ok (.int th):=⟨_,vP q3 (by simp; omega)⟩
 have hrx:∀ i:Nat,i < m→dU (.lst (rs.map D.int)) (.int (i:Int)) = .ok (.int (rs.getD i 0)):=fun i hi=>by
  have:=vP (cs:=rs) (i:=(i:Int)) ω ω
  rwa [Int.toNat_natCast] at this
 have hnx:∀ i:Nat,i < m→dU (aP names) (.int (i:Int)) = .ok (.str (nth names i)):=fun i hi=>by
  have:=yM (cs:=names) (i:=(i:Int)) ω ω
  rwa [Int.toNat_natCast] at this
 have inner:∀ (j:Nat) (A:List Ix) (o8 o9:Option W),j < m→good m (fun i=>rs.getD i 0) A j 0→∃ (A':List Ix) (p8 p9:Option W),qu (.n 8) (aY (bZ 9 (aZ dR [(wD (mV 0)),(wD (m2 dj (m2 dj (mC (.int 4)) (m2 dC (m2 cQ (mN xF [(mV 7),(mV 8)]) (m2 yz (mN xF [(mV 7),(mV 8)]) (mC (.int 1)))) (mC (.int 2)))) (mN BW [(mV 7),(mV 8)])))])) (iz (sU (cB (m2 BR (m2 dU (mV 4) (mV 7)) (m2 dU (mV 4) (mV 8)))) (cB (m2 BR (m2 bT (m2 dC (m2 bT (m2 cQ (mV 9) (mC (.int 48271))) (mC (.int 2147483647))) (mC (.int 16))) (mC (.int 4))) (mV 5)))) (bV 6 (mN dTup [(m2 dU (mV 3) (mV 7)),(m2 dU (mV 3) (mV 8))])) bB)) (di 0 (m:Int)) [§(.lst (ns.map D.int)),§(.int (hi:Int)),§(.int (m:Int)),§(aP names),§(.lst (rs.map D.int)),§(.int th),§(uX names A),§(.int (j:Int)),o8,o9] = .ok (.nx [§(.lst (ns.map D.int)),§(.int (hi:Int)),§(.int (m:Int)),§(aP names),§(.lst (rs.map D.int)),§(.int th),§(uX names A'),§(.int (j:Int)),p8,p9])∧good m (fun i=>rs.getD i 0) A' (j + 1) 0:=by
  intro j A o8 o9 hj hg
  ob ⟨e',f1,A',p8,p9,he,hg'⟩:=kO (tg:=.n 8) (body:=(aY (bZ 9 (aZ dR [(wD (mV 0)),(wD (m2 dj (m2 dj (mC (.int 4)) (m2 dC (m2 cQ (mN xF [(mV 7),(mV 8)]) (m2 yz (mN xF [(mV 7),(mV 8)]) (mC (.int 1)))) (mC (.int 2)))) (mN BW [(mV 7),(mV 8)])))])) (iz (sU (cB (m2 BR (m2 dU (mV 4) (mV 7)) (m2 dU (mV 4) (mV 8)))) (cB (m2 BR (m2 bT (m2 dC (m2 bT (m2 cQ (mV 9) (mC (.int 48271))) (mC (.int 2147483647))) (mC (.int 16))) (mC (.int 4))) (mV 5)))) (bV 6 (mN dTup [(m2 dU (mV 3) (mV 7)),(m2 dU (mV 3) (mV 8))])) bB))) (fun k e=>∃ (A:List Ix) (o8 o9:Option W),e = [§(.lst (ns.map D.int)),§(.int (hi:Int)),§(.int (m:Int)),§(aP names),§(.lst (rs.map D.int)),§(.int th),§(uX names A),§(.int (j:Int)),o8,o9]∧good m (fun i=>rs.getD i 0) A j k)
   (di 0 (m:Int)) 0 (fun k x e hx ⟨A,o8,o9,he,hg⟩=>by
    ob ⟨hk,rfl⟩:=uV hx
    subst he
    rw [Nat.zero_add] at hg
    ob ⟨c,hc⟩:=Uy ns (e:=[§(.lst (ns.map D.int)),§(.int (hi:Int)),§(.int (m:Int)),§(aP names),§(.lst (rs.map D.int)),§(.int th),§(uX names A),§(.int (j:Int)),§(.int (k:Int)),o9]) (j:=j) (k:=k) ω ω rfl rfl rfl
    have c1:cB (m2 BR (m2 dU (mV 4) (mV 7)) (m2 dU (mV 4) (mV 8))) [§(.lst (ns.map D.int)),§(.int (hi:Int)),§(.int (m:Int)),§(aP names),§(.lst (rs.map D.int)),§(.int th),§(uX names A),§(.int (j:Int)),§(.int (k:Int)),§(.int c)] = .ok (decide (rs.getD j 0 < rs.getD k 0)):=cU (aG (aG rfl rfl (hrx j hj)) (aG rfl rfl (hrx k hk)) rfl)
    have c2:cB (m2 BR (m2 bT (m2 dC (m2 bT (m2 cQ (mV 9) (mC (.int 48271))) (mC (.int 2147483647))) (mC (.int 16))) (mC (.int 4))) (mV 5)) [§(.lst (ns.map D.int)),§(.int (hi:Int)),§(.int (m:Int)),§(aP names),§(.lst (rs.map D.int)),§(.int th),§(uX names A),§(.int (j:Int)),§(.int (k:Int)),§(.int c)] = .ok (decide (c * 48271 % 2147483647 / 16 % 4 < th)):=cU (aG (aG (aG (aG (aG rfl rfl (ak (yH δ δ))) rfl (ak δ)) rfl (ak (c7 δ δ))) rfl (ak δ)) rfl rfl)
    by_cases hb:rs.getD j 0 < rs.getD k 0∧c * 48271 % 2147483647 / 16 % 4 < th
    ·rf ⟨[§(.lst (ns.map D.int)),§(.int (hi:Int)),§(.int (m:Int)),§(aP names),§(.lst (rs.map D.int)),§(.int th),§(uX names A),§(.int (j:Int)),§(.int (k:Int)),o9],[§(.lst (ns.map D.int)),§(.int (hi:Int)),§(.int (m:Int)),§(aP names),§(.lst (rs.map D.int)),§(.int th),§(uX names (A ++ [(j,k)])),§(.int (j:Int)),§(.int (k:Int)),§(.int c)],rfl,?_,A ++ [(j,k)],§(.int (k:Int)),§(.int c),rfl,by rw [Nat.zero_add]; xt hg.add hj hk hb.1⟩
     rw [aM (e':=[§(.lst (ns.map D.int)),§(.int (hi:Int)),§(.int (m:Int)),§(aP names),§(.lst (rs.map D.int)),§(.int th),§(uX names A),§(.int (j:Int)),§(.int (k:Int)),§(.int c)]) (bD hc)]
     rw [jx (by unfold sU; rw [c1,aD,decide_eq_true hb.1,if_pos rfl,c2,decide_eq_true hb.2])]
     rw [ud (d:=pairD (nth names j,nth names k)) (ds:=(A.map (arrOf names)).map pairD) (oZ (aG rfl rfl (hnx j hj)) (aG rfl rfl (hnx k hk))) rfl (by rw [List.length_map,List.length_map]; have:=hg.2.2; omega)]
     show Rs.ok (Out.nx [_,_,_,_,_,_,§(D.lst ((A.map (arrOf names)).map pairD ++ [pairD (nth names j,nth names k)])),_,_,_]) = _
     rw [uX,List.map_append,List.map_append]; rfl
    ·rf ⟨[§(.lst (ns.map D.int)),§(.int (hi:Int)),§(.int (m:Int)),§(aP names),§(.lst (rs.map D.int)),§(.int th),§(uX names A),§(.int (j:Int)),§(.int (k:Int)),o9],[§(.lst (ns.map D.int)),§(.int (hi:Int)),§(.int (m:Int)),§(aP names),§(.lst (rs.map D.int)),§(.int th),§(uX names A),§(.int (j:Int)),§(.int (k:Int)),§(.int c)],rfl,?_,A,§(.int (k:Int)),§(.int c),rfl,by rw [Nat.zero_add]; xt hg.skip⟩
     rw [aM (e':=[§(.lst (ns.map D.int)),§(.int (hi:Int)),§(.int (m:Int)),§(aP names),§(.lst (rs.map D.int)),§(.int th),§(uX names A),§(.int (j:Int)),§(.int (k:Int)),§(.int c)]) (bD hc)]
     rw [dI (by
      unfold sU
      rw [c1,aD]
      by_cases hb1:rs.getD j 0 < rs.getD k 0
      ·rw [decide_eq_true hb1,if_pos rfl,c2,decide_eq_false fun z=>hb ⟨hb1,z⟩]
      ·rw [decide_eq_false hb1,if_neg Bool.false_ne_true])]
     rfl) _ ⟨A,o8,o9,rfl,hg⟩
  subst he
  rw [gY,Nat.zero_add] at hg'
  xt ⟨A',p8,p9,f1,hg'.next hm8⟩
 ob ⟨e',f1,A,p7,p8,p9,he,hg⟩:=kO (tg:=.n 7) (body:=(nu (gF (mV 2)) (.n 8) (aY (bZ 9 (aZ dR [(wD (mV 0)),(wD (m2 dj (m2 dj (mC (.int 4)) (m2 dC (m2 cQ (mN xF [(mV 7),(mV 8)]) (m2 yz (mN xF [(mV 7),(mV 8)]) (mC (.int 1)))) (mC (.int 2)))) (mN BW [(mV 7),(mV 8)])))])) (iz (sU (cB (m2 BR (m2 dU (mV 4) (mV 7)) (m2 dU (mV 4) (mV 8)))) (cB (m2 BR (m2 bT (m2 dC (m2 bT (m2 cQ (mV 9) (mC (.int 48271))) (mC (.int 2147483647))) (mC (.int 16))) (mC (.int 4))) (mV 5)))) (bV 6 (mN dTup [(m2 dU (mV 3) (mV 7)),(m2 dU (mV 3) (mV 8))])) bB)))) (fun j e=>∃ (A:List Ix) (o7 o8 o9:Option W),e = [§(.lst (ns.map D.int)),§(.int (hi:Int)),§(.int (m:Int)),§(aP names),§(.lst (rs.map D.int)),§(.int th),§(uX names A),o7,o8,o9]∧good m (fun i=>rs.getD i 0) A j 0)
  (di 0 (m:Int)) 0 (fun j x e hx ⟨A,o7,o8,o9,he,hg⟩=>by
   ob ⟨hj,rfl⟩:=uV hx
   subst he
   rw [Nat.zero_add] at hg
   ob ⟨A',p8,p9,f1,hg'⟩:=inner j A o8 o9 hj hg
   xt ⟨_,_,rfl,(j6 (oA rfl (V3 m hm8))).trans f1,A',_,p8,p9,rfl,by rw [Nat.zero_add]; xt hg'⟩)
  [§(.lst (ns.map D.int)),§(.int (hi:Int)),§(.int (m:Int)),§(aP names),§(.lst (rs.map D.int)),§(.int th),§(.lst []),none,none,none] ⟨[],none,none,none,rfl,List.Pairwise.nil,fun p hp=>absurd hp (by simp),Nat.zero_le _⟩
 subst he
 rw [gY,Nat.zero_add] at hg
 rf ⟨names,A,fun i=>rs.getD i 0,?_,⟨hnd,by omega,by omega,hg.1,fun p hp=>?_,by have:=hg.2.2; omega⟩,c1,m,hm8,hnm⟩
 ·unfold pK Dp
  rw [vW]
  rw [show ((0:Nat):Int) = 0 from rfl] at hc0
  rw [show ((1:Nat):Int) = 1 from rfl] at hc1
  rw [show ((2:Nat):Int) = 2 from rfl] at hc2
  rw [show ((3:Nat):Int) = 3 from rfl] at hc3
  rw [aM (e':=[§(.lst (ns.map D.int)),§(.int (hi:Int)),§(.int (m:Int)),none,none,none,none,none,none,none]) (bD (d:=.int (m:Int)) ((aG rfl (aG (call2 rfl rfl hc0) rfl (ak hw)) rfl).trans (by rw [Vn,hm])))]
  rw [aM (e':=[§(.lst (ns.map D.int)),§(.int (hi:Int)),§(.int (m:Int)),§(aP names),none,none,none,none,none,none]) (bD (call2 (cC (call2 rfl rfl hc1)) rfl hn))]
  rw [aM (e':=[§(.lst (ns.map D.int)),§(.int (hi:Int)),§(.int (m:Int)),§(aP names),§(.lst (rs.map D.int)),none,none,none,none,none]) (bD (call2 (cC (call2 rfl rfl hc2)) rfl hr))]
  have hl6:mN gm [(mC (.int 4)),(mC (.int 1)),(mC (.int 2)),(mC (.int 3)),(mC (.int 2)),(mC (.int 3))] [§(.lst (ns.map D.int)),§(.int (hi:Int)),§(.int (m:Int)),§(aP names),§(.lst (rs.map D.int)),none,none,none,none,none] = .ok (.lst ([4,1,2,3,2,3].map D.int)):=by
   show aK (([4,1,2,3,2,3].map D.int).length≤16777216) _ = _
   xt ak (by simp)
  rw [aM (e':=[§(.lst (ns.map D.int)),§(.int (hi:Int)),§(.int (m:Int)),§(aP names),§(.lst (rs.map D.int)),§(.int th),none,none,none,none]) (bD (aG hl6 (aG (call2 rfl rfl hc3) rfl (ak δ)) hth))]
  rw [aM (e':=[§(.lst (ns.map D.int)),§(.int (hi:Int)),§(.int (m:Int)),§(aP names),§(.lst (rs.map D.int)),§(.int th),§(.lst []),none,none,none]) (bD (Tn _))]
  rw [aM ((j6 (oA rfl (V3 m hm8))).trans f1)]
  rw [fH (cC (oZ (x:=gf names) (y:=Le (A.map (arrOf names))) (iI (x:=aP names) rfl) (iI (x:=uX names A) rfl)))]
  rfl
 ·ob ⟨a,b,c,_⟩:=hg.2.1 p hp
  xt ⟨by omega,by omega,c⟩
end Mr
namespace Mr
open PySem Mi
theorem Nk:∀ {ds:List D} {k i:Nat} {x:D},(pP k ds)[i]? = some x→∃ d,ds[i]? = some d∧x = .tup [.int ((k + i:Nat):Int),d]
 | [],_,_,_,h=>by simp [pP] at h
 | d :: r,k,0,x,h=>by simp [pP] at h; xt ⟨d,rfl,by rw [← h]; simp⟩
 | d :: r,k,i + 1,x,h=>by
  ob ⟨d',h1,h2⟩:=Nk (ds:=r) (k:=k + 1) (i:=i) (x:=x) (by simpa [pP] using h)
  xt ⟨d',by simpa using h1,by rw [h2,show k + 1 + i = k + (i + 1) by omega]⟩
end Mr
namespace Mr
open PySem Mi
noncomputable def rch (aa:List Ar) (x y:Str):Bool:=@decide (Rch aa x y) (Classical.propDecidable _)
noncomputable def ae5 (names:List Str) (aa:List Ar) (x:Str):List Str:=names.filter (rch aa x)
def PQ (fs:List Str):W:=.dk (fs.map fun y=>((Sum.inr y:Ky),D.bl true))
theorem adt (fs:List Str) (y:Str):(Bs (fs.map fun y=>((Sum.inr y:Ky),D.bl true)) (Sum.inr y)).isSome = decide (y∈fs):=by
 unfold Bs
 induction fs with
 | nil=>rfl
 | cons a r ih =>
  rw [List.map_cons,List.find?_cons]
  by_cases h:a = y
  ·subst h; simp
  ·rw [decide_eq_false (fun z:(Sum.inr a:Ky) = Sum.inr y=>h (Sum.inr.inj z))]
   simp only [ih]
   rw [decide_eq_decide]
   xt ⟨fun z=>List.mem_cons_of_mem _ z,fun z=>by
    rcases List.mem_cons.mp z with z | z
    ·xt absurd z.symm h
    ·xt z⟩
theorem acI {i:Nat} {k:E} {e:Mi.Env} {fs:List Str} {y:Str} (hk:k e = .ok (.str y)) (hw:wV i e = .ok (PQ fs)):BJ i k e = .ok (.bl (decide (y∈fs))):=by
 unfold BJ; rw [hk,aD,hw,aD,← adt]; rfl
theorem aas {i:Nat} {k:E} {e:Mi.Env} {fs:List Str} {y:Str} (hk:k e = .ok (.str y)) (hw:wV i e = .ok (PQ fs)) (hn:y∉fs) (hl:fs.length≤1000):lO i k (mC (.bl true)) e = .ok (.nx (e.set i (some (PQ (fs ++ [y]))))):=by
 unfold lO
 have h1:aaw (PQ fs) (.str y) (.bl true) = .ok (PQ (fs ++ [y])):=by
  show aK ((fs.map fun y=>((Sum.inr y:Ky),D.bl true)).length < 16777216) ((pH (P0 (.str y))).bind fun k=>Rs.ok (W.dk (Mi.putK k (.bl true) (fs.map fun y=>((Sum.inr y:Ky),D.bl true))))) = _
  rw [ak (by rw [List.length_map]; omega)]
  show Rs.ok (W.dk (Mi.putK (Sum.inr y:Ky) (.bl true) (fs.map fun y=>((Sum.inr y:Ky),D.bl true)))) = _
  unfold Mi.putK
  rw [if_neg (by
   rw [List.any_map,Bool.not_eq_true,List.any_eq_false]
   intro z hz
   simp only [Function.comp,decide_eq_true_eq]
   xt fun q=>hn (Sum.inr.inj q ▸ hz))]
  unfold PQ
  rw [List.map_append]; rfl
 show (k e).bind _ = _
 rw [hk,aD,hw,aD,h1]; rfl
structure Wst (names:List Str) (aa:List Ar) (x:Str) (h:Option Str) (fs ws:List Str):Prop where
 g:Good names aa x fs
 wnd:ws.Nodup
 aeR:∀ y∈ws,y∈fs
 ex:∀ y∈fs,y∉ws→h = some y∨∀ p∈aa,p.1 = y→p.2∈fs
abbrev aer:S:=(aY (abo 5 4)
 (nu (uh (mV 1)) (.t [6,7])
 (iz (sU (cB (m2 sS (mV 6) (mV 5))) (cB (Mv 3 (mV 7))))
 (aY (lO 3 (mV 7) (mC (.bl true)))
 (bV 4 (mV 7)))
 bB)))
end Mr
namespace Mr
open PySem Mi
abbrev Vr:=Str×Str×Str
def tri:List Str→List Vr
 | a :: b :: c :: r=>(a,b,c) :: tri (b :: c :: r)
 | _=>[]
def at3 (road:List Str) (i:Nat):Vr:=(nth road i,nth road (i + 1),nth road (i + 2))
def aez (t:Vr):D:=.tup [.str t.1,.str t.2.1,.str t.2.2]
theorem Jv (aa:List Ar) (p:Ar):((aa.map pairD).any fun e=>cI e (pairD p)) = decide (p∈aa):=by
 induction aa with
 | nil=>rfl
 | cons q r ih =>
  rw [List.map_cons,List.any_cons,ih]
  have:cI (pairD q) (pairD p) = decide (q = p):=by
   unfold pairD
   rw [cI,jU,jU,jU,kZ,kZ]
   ob ⟨a,b⟩:=q
   ob ⟨c,d⟩:=p
   by_cases h1:a = c <;> by_cases h2:b = d <;> simp [h1,h2]
  rw [this]
  by_cases h:q = p
  ·simp [h]
  ·have h2:¬ p = q:=fun z=>h z.symm
   simp [h,h2]
theorem tY:∀ aa:List Ar,b8 (aa.map pairD)≤1
 | []=>by simp
 | p :: r=>by
  have:=tY r
  rw [List.map_cons,sO]
  have h:(pairD p).dep = 1:=by simp [pairD]
  omega
def mt (aa:List Ar) (t:Vr):Bool:=decide ((t.1,t.2.1)∈aa) && decide ((t.2.2,t.2.1)∈aa)
def meets (aa:List Ar) (road:List Str):List Str:=((tri road).filter (mt aa)).map (·.2.1)
end Mr
namespace Mr
open PySem Mi
def yh (a:Ar) (aa:List Ar):List Ar:=aa.map fun p=>if p = a then (p.2,p.1) else p
theorem vM {aa:List Ar} {a p:Ar} (ha:a∈aa):p∈yh a aa↔(p∈aa∧p≠a)∨p = (a.2,a.1):=by
 unfold yh
 rw [List.mem_map]
 constructor
 ·rintro ⟨q,hq,e⟩
  by_cases z:q = a
  ·rw [if_pos z] at e; xt .inr (by rw [← e,z])
  ·rw [if_neg z] at e; xt .inl ⟨e ▸ hq,e ▸ z⟩
 ·rintro (⟨h1,h2⟩ | e)
  ·xt ⟨p,h1,if_neg h2⟩
  ·xt ⟨a,ha,by rw [if_pos rfl,e]⟩
def hds (aa:List Ar) (l:List Str):List Str:=(aa.filter fun p=>decide (p.1∈l)).map (·.2)
theorem Fj {aa:List Ar} {l:List Str} {x:Str}:x∈hds aa l↔∃ t,(t,x)∈aa∧t∈l:=by
 unfold hds
 rw [List.mem_map]
 constructor
 ·rintro ⟨⟨t,h⟩,hq,rfl⟩
  ob ⟨h1,h2⟩:=List.mem_filter.mp hq
  xt ⟨t,h1,by simpa using h2⟩
 ·rintro ⟨t,h1,h2⟩
  xt ⟨(t,x),List.mem_filter.mpr ⟨h1,by simpa using h2⟩,rfl⟩
def nxl (aa:List Ar) (l:List Str):List Str:=l.filter fun x=>decide (x∈hds aa l)
def Fv (names:List Str) (aa:List Ar):Nat→List Str
 | 0=>names
 | k + 1=>nxl aa (Fv names aa k)
def rnd (names:List Str) (aa:List Ar):Bool:=decide (0 < (Fv names aa names.length).length)
def Rk (aa:List Ar):Prop:=∃ r:Str→Int,∀ p∈aa,r p.1 < r p.2
theorem ZQ {aa:List Ar} (R:Rk aa) {l:List Str} (h:l≠[]):(nxl aa l).length < l.length:=by
 ob ⟨r,hr⟩:=R
 ob ⟨x,hx,hm⟩:=Ks r l h
 have hn:x∉hds aa l:=fun z=>by
  ob ⟨t,h1,h2⟩:=Fj.mp z
  have:=hr _ h1
  have:=hm t h2
  simp only at *
  omega
 xt List.length_filter_lt_length_iff_exists.mpr ⟨x,hx,by simpa using hn⟩
theorem Mz {names:List Str} {aa:List Ar} (R:Rk aa):∀ k,(Fv names aa k).length≤names.length - k
 | 0=>Nat.le_refl _
 | k + 1=>by
  have ih:=Mz (names:=names) R k
  by_cases h:Fv names aa k = []
  ·rw [Fv,h]; simp [nxl]
  ·have:=ZQ R h
   rw [Fv]; omega
theorem Zm {names:List Str} {aa:List Ar} (R:Rk aa):rnd names aa = false:=by
 have:=Mz (names:=names) R names.length
 unfold rnd
 rw [decide_eq_false_iff_not]; omega
theorem Wx {names:List Str} {aa:List Ar} {k:Nat} {x:Str} (h:x∈Fv names aa (k + 1)):x∈Fv names aa k:=(List.mem_filter.mp h).1
theorem Ie {names:List Str} {aa:List Ar} (hin:∀ p∈aa,p.1∈names∧p.2∈names) {t h:Str} (a:(t,h)∈aa):∀ k,t∈Fv names aa k→h∈Fv names aa k∧h∈Fv names aa (k + 1)
 | 0,ht=>by
  have h0:h∈Fv names aa 0:=(hin _ a).2
  xt ⟨h0,List.mem_filter.mpr ⟨h0,by simpa using Fj.mpr ⟨t,a,ht⟩⟩⟩
 | k + 1,ht=>by
  have ih:=(Ie hin a k (Wx ht)).2
  xt ⟨ih,List.mem_filter.mpr ⟨ih,by simpa using Fj.mpr ⟨t,a,ht⟩⟩⟩
theorem X5 {names:List Str} {aa:List Ar} (hin:∀ p∈aa,p.1∈names∧p.2∈names) (h:rnd names aa = false):Rk aa:=by
 have he:∀ x,x∉Fv names aa names.length:=fun x hx=>by
  have:=List.length_pos_of_mem hx
  unfold rnd at h
  rw [decide_eq_false_iff_not] at h
  xt h this
 rf ⟨fun x=>(((List.range names.length).filter fun k=>decide (x∈Fv names aa k)).length:Nat),fun p hp=>?_⟩
 ob ⟨t,b⟩:=p
 have key:(0 :: ((List.range names.length).filter fun k=>decide (t∈Fv names aa k)).map (· + 1)).length≤((List.range names.length).filter fun k=>decide (b∈Fv names aa k)).length:=by
  rf eZ ?_ ?_
  ·rf List.nodup_cons.mpr ⟨fun z=>by ob ⟨y,_,e⟩:=List.mem_map.mp z; omega,?_⟩
   have nd:=(List.nodup_range (n:=names.length)).filter (p:=fun k=>decide (t∈Fv names aa k))
   rf List.pairwise_map.mpr (nd.imp fun z e=>z ω)
  ·intro y hy
   have hb:b∈names:=(hin _ hp).2
   have pos:=List.length_pos_of_mem hb
   rcases List.mem_cons.mp hy with rfl | hy
   ·xt List.mem_filter.mpr ⟨List.mem_range.mpr pos,decide_eq_true (show b∈Fv names aa 0 from hb)⟩
   ·ob ⟨k,hk,rfl⟩:=List.mem_map.mp hy
    ob ⟨k1,k2⟩:=List.mem_filter.mp hk
    have k2:t∈Fv names aa k:=by simpa using k2
    have k3:=(Ie hin hp k k2).2
    have k1:=List.mem_range.mp k1
    have:k + 1≠names.length:=fun e=>he b (e ▸ k3)
    xt List.mem_filter.mpr ⟨List.mem_range.mpr ω,by simpa using k3⟩
 simp only [List.length_cons,List.length_map] at key ⊢
 omega
def GR (aa:List Ar) (a m b:Str):Bool:=(decide ((a,m)∈aa) && decide ((b,m)∈aa)) && !(decide ((a,b)∈aa) || decide ((b,a)∈aa))
theorem Ja (aa:List Ar) (a m b:Str):GR aa a m b = GR aa b m a:=by
 unfold GR
 rw [Bool.and_comm (decide ((a,m)∈aa)),Bool.or_comm (decide ((a,b)∈aa))]
theorem Xe {aa:List Ar} {a m b:Str}:GR aa a m b = true↔(a,m)∈aa∧(b,m)∈aa∧¬ (a,b)∈aa∧¬ (b,a)∈aa:=by
 unfold GR
 simp [and_assoc]
def Gi (names:List Str) (aa:List Ar):List Vr :=
 (List.range names.length).flatMap fun k=>names.flatMap fun m=>((names.drop (k + 1)).filter fun b=>GR aa (nth names k) m b).map fun b=>(nth names k,m,b)
theorem HR {names:List Str} {aa:List Ar} {a m b:Str}:(a,m,b)∈Gi names aa↔∃ k,k < names.length∧a = nth names k∧m∈names∧b∈names.drop (k + 1)∧GR aa a m b = true:=by
 unfold Gi
 simp only [List.mem_flatMap,List.mem_map,List.mem_filter,List.mem_range,Prod.mk.injEq]
 constructor
 ·rintro ⟨k,hk,m',hm,b',⟨hb,hc⟩,rfl,rfl,rfl⟩
  xt ⟨k,hk,rfl,hm,hb,hc⟩
 ·rintro ⟨k,hk,rfl,hm,hb,hc⟩
  xt ⟨k,hk,m,hm,b,⟨hb,hc⟩,rfl,rfl,rfl⟩
theorem fY {α β : Type} {f g:α→List β}:∀ {l:List α},(∀ x∈l,f x = g x)→l.flatMap f = l.flatMap g
 | [],_=>rfl
 | x :: r,h=>by rw [List.flatMap_cons,List.flatMap_cons,h x List.mem_cons_self,fY fun y hy=>h y (List.mem_cons_of_mem _ hy)]
theorem SQ {names:List Str} {i j:Nat} (h:i < j) (hj:j < names.length):nth names j∈names.drop (i + 1):=by
 rf List.mem_iff_getElem?.mpr ⟨j - (i + 1),?_⟩
 rw [List.getElem?_drop,show i + 1 + (j - (i + 1)) = j by omega]
 unfold nth
 rw [List.getD_eq_getElem?_getD,List.getElem?_eq_getElem hj]; rfl
theorem W4 {names:List Str} (nd:names.Nodup) {k:Nat} (hk:k < names.length) {b:Str} (hb:b∈names.drop (k + 1)):b∈names∧nth names k≠b:=by
 ob ⟨i,hi⟩:=List.mem_iff_getElem?.mp hb
 rw [List.getElem?_drop] at hi
 have hl:k + 1 + i < names.length:=by
  rcases Nat.lt_or_ge (k + 1 + i) names.length with z | z
  ·xt z
  ·rw [List.getElem?_eq_none z] at hi; cases hi
 have e:b = nth names (k + 1 + i):=by
  unfold nth
  rw [List.getD_eq_getElem?_getD,hi]; rfl
 rw [e]
 xt ⟨lW hl,fun z=>by have:=jJ nd hk hl z; omega⟩
theorem Uv {names:List Str} (nd:names.Nodup) {A B:List Ar}:Gi names A = Gi names B↔∀ a∈names,∀ m∈names,∀ b∈names,a≠b→GR A a m b = GR B a m b:=by
 constructor
 ·intro e
  have key:∀ i j m,i < j→j < names.length→m∈names→GR A (nth names i) m (nth names j) = GR B (nth names i) m (nth names j):=fun i j m hij hj hm=>by
   have one:∀ {A B:List Ar},Gi names A = Gi names B→GR A (nth names i) m (nth names j) = true→GR B (nth names i) m (nth names j) = true:=fun e h=>by
    have:=HR.mpr ⟨i,by omega,rfl,hm,SQ hij hj,h⟩
    rw [e] at this
    ob ⟨_,_,_,_,_,h⟩:=HR.mp this
    xt h
   cases ha:GR A (nth names i) m (nth names j) with
   | true=>xt (one e ha).symm
   | false=>cases hb:GR B (nth names i) m (nth names j) with
    | true=>xt absurd (one e.symm hb) (by rw [ha]; xt Bool.false_ne_true)
    | false=>rfl
  intro a ha m hm b hb hne
  ob ⟨i,hi,rfl⟩:=SN ha
  ob ⟨j,hj,rfl⟩:=SN hb
  rcases Nat.lt_trichotomy i j with z | z | z
  ·xt key i j m z hj hm
  ·xt absurd (by rw [z]) hne
  ·rw [Ja,Ja B]; xt key j i m z hi hm
 ·intro h
  unfold Gi
  rf fY fun k hk=>fY fun m hm=>?_
  have hk:=List.mem_range.mp hk
  congr 1
  rf List.filter_congr fun b hb=>?_
  ob ⟨h1,h2⟩:=W4 nd hk hb
  xt h _ (lW hk) m hm b h1 h2
theorem v5 {aa:List Ar} {t h:Str}:dG (bA aa h) (bA aa t ++ [t]) = true↔∀ x,(x,h)∈aa↔(x,t)∈aa∨x = t:=by
 unfold dG
 simp only [Bool.and_eq_true,List.all_eq_true,decide_eq_true_eq,List.mem_append,List.mem_singleton,jo]
 constructor
 ·rintro ⟨h1,h2⟩ x
  xt ⟨h1 x,h2 x⟩
 ·intro z
  xt ⟨fun x=>(z x).mp,fun x=>(z x).mpr⟩
theorem QZ {names:List Str} {aa:List Ar} (nd:names.Nodup) (hin:∀ p∈aa,p.1∈names∧p.2∈names) (R:Rk aa) {t h:Str} (ha:(t,h)∈aa) :
 dG (bA aa h) (bA aa t ++ [t]) = (!rnd names (yh (t,h) aa) && decide (Gi names (yh (t,h) aa) = Gi names aa)):=by
 ob ⟨r,hr⟩:=id R
 have hth:t≠h:=fun e=>by have:=hr _ ha; simp only [e] at this; omega
 have mf:∀ p:Ar,p∈yh (t,h) aa↔(p∈aa∧p≠(t,h))∨p = (h,t):=fun p=>vM ha
 have ad0:∀ p∈yh (t,h) aa,p.1∈names∧p.2∈names:=fun p hp=>by
  rcases (mf p).mp hp with z | z
  ·xt hin p z.1
  ·rw [z]; xt ⟨(hin _ ha).2,(hin _ ha).1⟩
 have ab3:(h,t)∉aa:=fun z=>by have:=hr _ z; have:=hr _ ha; simp only at *; omega
 have tn:=(hin _ ha).1
 have hn:=(hin _ ha).2
 have tie:∀ a b,((a,b)∈yh (t,h) aa∨(b,a)∈yh (t,h) aa)↔((a,b)∈aa∨(b,a)∈aa):=fun a b=>by
  rw [mf,mf]
  constructor
  ·rintro ((⟨z,_⟩ | z) | (⟨z,_⟩ | z))
   ·xt .inl z
   ·cases z; xt .inr ha
   ·xt .inr z
   ·cases z; xt .inl ha
  ·rintro (z | z)
   ·by_cases e:(a,b) = (t,h)
    ·cases e; xt .inr (.inr rfl)
    ·xt .inl (.inl ⟨z,e⟩)
   ·by_cases e:(b,a) = (t,h)
    ·cases e; xt .inl (.inr rfl)
    ·xt .inr (.inl ⟨z,e⟩)
 have Qf:∀ A a m b,GR A a m b = true↔((a,m)∈A∧(b,m)∈A)∧¬ ((a,b)∈A∨(b,a)∈A):=fun A a m b=>by
  rw [Xe,not_or,and_assoc]
 apply Bool.eq_iff_iff.mpr
 rw [v5,Bool.and_eq_true,Bool.not_eq_true',decide_eq_true_eq,Uv nd]
 constructor
 ·intro cov
  constructor
  ·rf Zm ⟨fun x=>if x = h then 2 * r t - 1 else 2 * r x,fun p hp=>?_⟩
   ob ⟨a,b⟩:=p
   rcases (mf _).mp hp with ⟨z1,z2⟩ | z
   ·have ab:=hr _ z1
    simp only at ab ⊢
    by_cases e1:a = h
    ·subst e1
     have e2:b≠a:=fun e=>by rw [e] at ab; omega
     rw [if_pos rfl,if_neg e2]
     have:=hr _ ha; simp only at this; omega
    ·rw [if_neg e1]
     by_cases e2:b = h
     ·subst e2
      rw [if_pos rfl]
      rcases (cov a).mp z1 with y | y
      ·have:=hr _ y; simp only at this; omega
      ·subst y; xt absurd rfl z2
     ·rw [if_neg e2]; omega
   ·cases z
    show (if h = h then 2 * r t - 1 else 2 * r h) < (if t = h then 2 * r t - 1 else 2 * r t)
    rw [if_pos rfl,if_neg hth]; omega
  ·intro a _ m _ b _ hab
   apply Bool.eq_iff_iff.mpr
   rw [Qf,Qf,tie a b]
   constructor
   ·rintro ⟨⟨z1,z2⟩,z3⟩
    rf ⟨?_,z3⟩
    rcases (mf _).mp z1 with ⟨y1,_⟩ | y
    ·rcases (mf _).mp z2 with ⟨y2,_⟩ | y
     ·xt ⟨y1,y2⟩
     ·cases y
      xt absurd (.inl ((cov a).mpr (.inl y1))) z3
    ·cases y
     rcases (mf _).mp z2 with ⟨y2,_⟩ | y
     ·xt absurd (.inr ((cov b).mpr (.inl y2))) z3
     ·cases y; xt absurd rfl hab
   ·rintro ⟨⟨z1,z2⟩,z3⟩
    rf ⟨⟨?_,?_⟩,z3⟩
    ·rw [mf]
     by_cases e:(a,m) = (t,h)
     ·cases e
      rcases (cov b).mp z2 with y | y
      ·xt absurd (.inr y) z3
      ·xt absurd y.symm hab
     ·xt .inl ⟨z1,e⟩
    ·rw [mf]
     by_cases e:(b,m) = (t,h)
     ·cases e
      rcases (cov a).mp z1 with y | y
      ·xt absurd (.inl y) z3
      ·xt absurd y hab
     ·xt .inl ⟨z2,e⟩
 ·rintro ⟨acy,same⟩ x
  ob ⟨r',hr'⟩:=X5 ad0 acy
  constructor
  ·intro z
   by_cases e:x = t
   ·xt .inr e
   ·rf .inl ?_
    by_cases q:(x,t)∈aa
    ·xt q
    ·exfalso
     by_cases q2:(t,x)∈aa
     ·have z1:=hr' (x,h) ((mf _).mpr (.inl ⟨z,fun y=>by cases y; xt e rfl⟩))
      have z2:=hr' (h,t) ((mf _).mpr (.inr rfl))
      have hx:x≠h:=fun y=>by subst y; have:=hr _ z; simp only at this; omega
      have z3:=hr' (t,x) ((mf _).mpr (.inl ⟨q2,fun y=>by cases y; xt hx rfl⟩))
      simp only at *; omega
     ·have c1:GR aa x h t = true:=(Qf _ _ _ _).mpr ⟨⟨z,ha⟩,fun y=>y.elim q q2⟩
      rw [← same x (hin _ z).1 h hn t tn e] at c1
      have c2:=((Qf _ _ _ _).mp c1).1.2
      rcases (mf _).mp c2 with ⟨_,y⟩ | y
      ·xt y rfl
      ·cases y; xt hth rfl
  ·rintro (z | rfl)
   ·by_cases q:(x,h)∈aa
    ·xt q
    ·exfalso
     have hx:x≠h:=fun y=>by subst y; xt ab3 z
     by_cases q2:(h,x)∈aa
     ·have:=hr _ z; have:=hr _ ha; have:=hr _ q2
      simp only at *; omega
     ·have zt:(x,t)∈yh (t,h) aa:=(mf _).mpr (.inl ⟨z,fun y=>by cases y; xt hth rfl⟩)
      have c1:GR (yh (t,h) aa) x t h = true:=(Qf _ _ _ _).mpr ⟨⟨zt,(mf _).mpr (.inr rfl)⟩,fun y=>((tie x h).mp y).elim q q2⟩
      rw [same x (hin _ z).1 t tn h hn hx] at c1
      xt ab3 ((Qf _ _ _ _).mp c1).1.2
   ·xt ha
end Mr
namespace Mr
open PySem Mi
def sw (t:Vr):Vr:=(t.2.2,t.2.1,t.1)
theorem xJ (n:Nat) (x:Str):cu (n + 1) [.d (.str x),.d (.str x)] = .ok (.d (.bl true)):=by
 show vf 2 4 (pQ (cu n)) _ = _
 unfold pQ
 rw [vW]
 have c0:QC (cB (m1 (yC ["str"]) (mV 1))) (cB (m1 (yC ["int"]) (mV 1))) [§(.str x),§(.str x),none,none] = .ok true:=rfl
 have c1:QC (cB (m2 GQ (m1 (yC ["bool"]) (mV 0)) (m1 (yC ["bool"]) (mV 1)))) (cB (m2 GQ (m1 (yC ["str"]) (mV 0)) (m1 (yC ["str"]) (mV 1)))) [§(.str x),§(.str x),none,none] = .ok false:=rfl
 have c2:HW (m1 (yC ["int", "str"]) (mV 0)) (m2 sS (mV 0) (mV 1)) [§(.str x),§(.str x),none,none] = .ok (.bl true):=by
  show m2 sS (mV 0) (mV 1) [§(.str x),§(.str x),none,none] = _
  xt (aG rfl rfl rfl).trans ((yO x x).trans (by rw [decide_eq_true rfl]))
 xt (congrArg (fun r=>Rs.bind r vV) (rG ((jx c0).trans ((aM ((dI c1).trans rfl)).trans (fH (cC c2)))))).trans rfl
def pr2 (x:Str):D:=.tup [.str x,.str x]
theorem z7 {a:E} {e:Mi.Env} (h:a e = .ok (.bl true)):qC (cB a) e = .ok false:=by unfold qC; rw [cU h]; rfl
end Mr
namespace Mr
open PySem Mi
theorem Nu {a b:C} {e:Mi.Env} {p q:Bool} (ha:a e = .ok p) (hb:p = true→b e = .ok q):sU a b e = .ok (p && q):=by
 unfold sU; rw [ha,aD]
 cases p with
 | true=>rw [if_pos rfl,hb rfl]; rfl
 | false=>rfl
theorem aaA {a b:C} {e:Mi.Env} {p q:Bool} (ha:a e = .ok p) (hb:p = false→b e = .ok q):QC a b e = .ok (p || q):=by
 unfold QC; rw [ha,aD]
 cases p with
 | true=>rfl
 | false=>rw [if_neg Bool.false_ne_true,hb rfl]; rfl
theorem Xi {a:C} {e:Mi.Env} {p:Bool} (ha:a e = .ok p):qC a e = .ok (!p):=by unfold qC; rw [ha]; rfl
theorem Mw {a b:E} {e:Mi.Env} {p q:Bool} (ha:a e = .ok (.bl p)) (hb:p = true→b e = .ok (.bl q)):HW a b e = .ok (.bl (p && q)):=by
 unfold HW; rw [ha,aD,Vl,aD]
 cases p with
 | true=>rw [if_pos rfl,hb rfl]; rfl
 | false=>rfl
theorem aaM {i:Nat} {c:C} {a:E} {e:Mi.Env} {ds:List D} {d:D} {p:Bool} (hc:c e = .ok p) (ha:p = true→a e = .ok d) (hg:getL e i = .ok ds) (hl:ds.length + (if p then [d] else []).length≤16777216) (hs:e.set i (§(.lst ds)) = e) :
 iz c (bV i a) bB e = .ok (.nx (putL e i (ds ++ if p then [d] else []))):=by
 cases p with
 | true=>rw [jx hc,ud (ha rfl) hg (by simp at hl; omega)]; rfl
 | false =>
  rw [dI hc]
  simp only [Bool.false_eq_true,if_false,List.append_nil,putL]
  rw [hs]; rfl
theorem Ze {f:D→Option Int→Option Int→Rs D} {a b:E} {e:Mi.Env} {x:D} {i:Int} (h:a e = .ok x) (h':b e = .ok (.int i)):qU f a (some b) none e = f x (some i) none:=by unfold qU; rw [h,aD,show sr (some b) e = .ok (some i) from by rw [sr,h']; rfl]; rfl
theorem Zd {f:D→Option Int→Option Int→Rs D} {a b:E} {e:Mi.Env} {x:D} {i:Int} (h:a e = .ok x) (h':b e = .ok (.int i)):qU f a none (some b) e = f x none (some i):=by unfold qU; rw [h,aD,show sr (some b) e = .ok (some i) from by rw [sr,h']; rfl]; rfl
theorem vU {α : Type} {tg:Tg} {body:S} (f:α→D) (g:α→List D) (St:List D→Mi.Env→Prop):∀ (xs:List α) (acc:List D) (e:Mi.Env),acc.length + (xs.flatMap g).length≤16777216→St acc e →
 (∀ x∈xs,∀ acc e,acc.length + (g x).length≤16777216→St acc e→∃ e1 e2,tg.put (f x) e = .ok e1∧body e1 = .ok (.nx e2)∧St (acc ++ g x) e2) →
 ∃ e',qu tg body (xs.map f) e = .ok (.nx e')∧St (acc ++ xs.flatMap g) e'
 | [],acc,e,_,h,_=>⟨e,rfl,by simpa using h⟩
 | x :: r,acc,e,hl,h,hs=>by
  rw [List.flatMap_cons,List.length_append] at hl
  ob ⟨e1,e2,h1,h2,h3⟩:=hs x List.mem_cons_self acc e ω h
  ob ⟨e',h4,h5⟩:=vU f g St r (acc ++ g x) e2 (by rw [List.length_append]; omega) h3 fun y hy=>hs y (List.mem_cons_of_mem _ hy)
  rf ⟨e',?_,by rw [List.flatMap_cons,← List.append_assoc]; xt h5⟩
  rw [List.map_cons,qu,h1,aD,h2,aD]
  xt h4
theorem sJ {α β : Type} (p:α→Bool) (f:α→β):∀ l:List α,(l.flatMap fun x=>if p x then [f x] else []) = (l.filter p).map f
 | []=>rfl
 | x :: r=>by
  rw [List.flatMap_cons,sJ p f r]
  cases h:p x with
  | true=>rw [List.filter_cons_of_pos h]; rfl
  | false=>rw [List.filter_cons_of_neg (by rw [h]; xt Bool.false_ne_true)]; rfl
theorem qi {α β γ : Type} (f:β→γ) (g:α→List β):∀ l:List α,(l.flatMap g).map f = l.flatMap fun x=>(g x).map f
 | []=>rfl
 | x :: r=>by rw [List.flatMap_cons,List.map_append,qi f g r,List.flatMap_cons]
theorem Iv {α β : Type} {g:α→List β} {m:Nat}:∀ {l:List α},(∀ x∈l,(g x).length≤m)→(l.flatMap g).length≤l.length * m
 | [],_=>by simp
 | x :: r,h=>by
  have ih:=Iv (l:=r) fun y hy=>h y (List.mem_cons_of_mem _ hy)
  have h1:=h x List.mem_cons_self
  rw [List.flatMap_cons,List.length_append,List.length_cons,Nat.add_mul]
  omega
theorem Cv (p q:Ar):cI (pairD p) (pairD q) = decide (p = q):=by
 ob ⟨a,b⟩:=p
 ob ⟨c,d⟩:=q
 unfold pairD
 rw [cI,jU,jU,jU,kZ,kZ]
 by_cases h:a = c <;> by_cases k:b = d <;> simp [h,k]
theorem Up (p q:Ar):sS (pairD p) (pairD q) = .ok (.bl (decide (p = q))):=by
 unfold sS
 rw [ak (by simp [pairD]),Cv]
def jB (aa:List Ar):D:=.lst (aa.map pairD)
theorem Qa (aa:List Ar) (p:Ar):Qc (pairD p) (jB aa) = .ok (.bl (decide (p∈aa))):=by
 show aK _ _ = _
 rw [ak (Nat.le_trans (tY aa) δ),Jv]
theorem vY (aa:List Ar) (p:Ar):dB (pairD p) (jB aa) = .ok (.bl (!decide (p∈aa))):=by
 show aK _ _ = _
 rw [ak (Nat.le_trans (tY aa) δ),Jv]
theorem abO (x y:D) (k:Bool):dU (.lst [x,y]) (.int (if k then 1 else 0)) = .ok (if k then y else x):=by
 cases k
 ·show pH (wy [x,y] 0) = _
  rw [at0]; rfl
 ·show pH (wy [x,y] 1) = _
  rw [at1]; rfl
theorem K3 {aa:List Ar} {a:Ar} (hl:aa.length≤100):lq [.d (jB aa),.d (pairD a)] = .ok (.d (jB (yh a aa))):=by
 unfold lq yo
 rw [Ir]
 have hc:eX (.n 1) jq (m2 dU (mN gm [(mV 1),(mN dTup [(m2 dU (mV 1) (mC (.int 1))),(m2 dU (mV 1) (mC (.int 0)))])]) (mN Va [(m2 sS (mV 1) (mV 0))])) [§(pairD a),none] (aa.map pairD) = .ok ((aa.filter fun _=>true).map fun p=>pairD (if p = a then (p.2,p.1) else p)) :=
  fM pairD (fun p=>pairD (if p = a then (p.2,p.1) else p)) (fun _=>true) aa fun p _=>⟨[§(pairD a),§(pairD p)],rfl,rfl,fun _=>by
   have i0:dU (pairD p) (.int 0) = .ok (.str p.1):=by unfold pairD dU; simp only [at0]; rfl
   have i1:dU (pairD p) (.int 1) = .ok (.str p.2):=by unfold pairD dU; simp only [at1]; rfl
   rf (aG ((HJ rfl (oZ (aG rfl rfl i1) (aG rfl rfl i0))).trans (ak (by simp))) ((iI (aG rfl rfl (Up p a))).trans rfl) (abO _ _ (decide (p = a)))).trans ?_
   by_cases h:p = a <;> simp [h,pairD]⟩
 have hm:=fB (ρ:=[some 1,none]) (e:=[§(jB aa),§(pairD a)]) (gV (a:=mV 0) (x:=jB aa) rfl rfl) (by rw [List.length_map]; omega) hc
 rw [show ([§(jB aa),§(pairD a)] ++ List.replicate (2 - 2) none) = [§(jB aa),§(pairD a)] from rfl]
 rw [fH (cC hm)]
 show Rs.ok (W.d (.lst _)) = _
 unfold jB yh
 rw [List.filter_eq_self.mpr (fun _ _=>rfl),List.map_map]; rfl
end Mr
namespace Mr
open PySem Mi
structure Nt (names:List Str) (aa:List Ar):Prop where
 nd:names.Nodup
 le:names.length≤8
 al:aa.length≤64
 inn:∀ p∈aa,p.1∈names∧p.2∈names
 rk:Rk aa
def cov (aa:List Ar) (p:Ar):Bool:=dG (bA aa p.2) (bA aa p.1 ++ [p.1])
theorem Uz {names:List Str} {aa:List Ar} (hl:aa.length≤64) {p:Ar} (h1:p.1∈names) (h2:p.2∈names):dw [.d (bx names aa),.d (.str p.1),.d (.str p.2)] = .ok (.d (.bl (cov aa p))):=by
 unfold dw qM
 rw [Iu]
 have l1:=j7 (x:=p.1) hl
 have l2:=j7 (x:=p.2) hl
 have e1:aZ cJ [(wD (mV 0)),(wD (mV 2))] [§(bx names aa),§(.str p.1),§(.str p.2)] = .ok (.tup ((bA aa p.2).map D.str)):=call2 rfl rfl (xq h2 hl)
 have e2:aZ cJ [(wD (mV 0)),(wD (mV 1))] [§(bx names aa),§(.str p.1),§(.str p.2)] = .ok (.tup ((bA aa p.1).map D.str)):=call2 rfl rfl (xq h1 hl)
 have t1:mN dTup [(mV 1)] [§(bx names aa),§(.str p.1),§(.str p.2)] = .ok (.tup [.str p.1]):=(iI rfl).trans (ak (by simp))
 have e3:m2 Uq (aZ cJ [(wD (mV 0)),(wD (mV 1))]) (mN dTup [(mV 1)]) [§(bx names aa),§(.str p.1),§(.str p.2)] = .ok (.tup ((bA aa p.1 ++ [p.1]).map D.str)):=by
  rf (aG e2 t1 (ak (by simp only [List.length_map,List.length_cons,List.length_nil]; omega))).trans ?_
  rw [List.map_append]; rfl
 have e4:Gh (.tup ((bA aa p.2).map D.str)) (.tup ((bA aa p.1 ++ [p.1]).map D.str)) = .ok (.bl (cov aa p)):=by
  show ((pH (my ((bA aa p.2).map D.str))).bind fun xs=>(pH (my ((bA aa p.1 ++ [p.1]).map D.str))).bind fun ys=>aK (xs.length + 1 < 4096∧ys.length + 1 < 4096) (Rs.ok (D.bl (dG xs ys)))) = _
  rw [sY,sY,f9,aD,f9,aD]
  xt ak ⟨by omega,by rw [List.length_append]; simp; omega⟩
 rw [show ([§(bx names aa),§(.str p.1),§(.str p.2)] ++ List.replicate (3 - 3) none) = [§(bx names aa),§(.str p.1),§(.str p.2)] from rfl]
 rw [fH (cC (aG e1 e3 e4))]; rfl
end Mr
namespace Mr
open PySem Mi
def nA (names:List Str) (aa:List Ar):List Ar:=names.flatMap fun t=>(names.filter fun h=>decide ((t,h)∈aa)).map fun h=>(t,h)
theorem tV {names:List Str} {aa:List Ar} {p:Ar}:p∈nA names aa↔p∈aa∧p.1∈names∧p.2∈names:=by
 ob ⟨a,b⟩:=p
 unfold nA
 simp only [List.mem_flatMap,List.mem_map,List.mem_filter,decide_eq_true_eq,Prod.mk.injEq]
 constructor
 ·rintro ⟨t,ht,h,⟨h1,h2⟩,rfl,rfl⟩
  xt ⟨h2,ht,h1⟩
 ·rintro ⟨h1,h2,h3⟩
  xt ⟨a,h2,b,⟨h3,h1⟩,rfl,rfl⟩
theorem Ef {names:List Str} (hn:names.length≤8) (aa:List Ar):(nA names aa).length≤64:=by
 unfold nA
 rf Nat.le_trans (Iv (m:=8) fun t _=>?_) ω
 rw [List.length_map]
 xt Nat.le_trans (List.length_filter_le _ _) hn
theorem Oj {names:List Str} {aa:List Ar} (hn:names.length≤8):mY [.d (gf names),.d (jB aa)] = .ok (.d (bx names (nA names aa))):=by
 unfold mY Bh
 rw [vW]
 have ecr:(nA names aa).map pairD = names.flatMap fun t=>names.flatMap fun h=>if decide ((t,h)∈aa) then [pairD (t,h)] else []:=by
  unfold nA
  rw [qi]
  rf fY fun t _=>?_
  rw [List.map_map,sJ (fun h=>decide ((t,h)∈aa)) (fun h=>pairD (t,h))]; rfl
 have aem:((nA names aa).map pairD).length≤64:=by rw [List.length_map]; xt Ef hn aa
 rw [ecr] at aem
 ob ⟨e',f1,o3,o4,he⟩:=vU (tg:=.n 3) (body:=(nu (uh (mV 0)) (.n 4)
 (iz (cB (m2 Qc (mN dTup [(mV 3),(mV 4)]) (mV 1)))
 (bV 2 (mN dTup [(mV 3),(mV 4)]))
 bB)))
  D.str (fun t=>names.flatMap fun h=>if decide ((t,h)∈aa) then [pairD (t,h)] else [])
  (fun acc e=>∃ o3 o4:Option W,e = [§(gf names),§(jB aa),§(.lst acc),o3,o4]) names [] [§(gf names),§(jB aa),§(.lst []),none,none] (by simp only [List.length_nil]; omega) ⟨none,none,rfl⟩
  (fun t ht acc e hl ⟨o3,o4,he⟩=>by
   subst he
   ob ⟨e',g1,o4',he'⟩:=vU (tg:=.n 4) (body:=(iz (cB (m2 Qc (mN dTup [(mV 3),(mV 4)]) (mV 1)))
 (bV 2 (mN dTup [(mV 3),(mV 4)]))
 bB))
       D.str (fun h=>if decide ((t,h)∈aa) then [pairD (t,h)] else [])
       (fun acc e=>∃ o4:Option W,e = [§(gf names),§(jB aa),§(.lst acc),§(.str t),o4]) names acc [§(gf names),§(jB aa),§(.lst acc),§(.str t),o4] hl ⟨_,rfl⟩
       (fun h hh acc e hl ⟨o4,he⟩=>by
        subst he
        xt ⟨[§(gf names),§(jB aa),§(.lst acc),§(.str t),§(.str h)],putL [§(gf names),§(jB aa),§(.lst acc),§(.str t),§(.str h)] 2 (acc ++ if decide ((t,h)∈aa) then [pairD (t,h)] else []),rfl,aaM (cU (aG (oZ rfl rfl) rfl (Qa aa (t,h)))) (fun _=>oZ rfl rfl) rfl hl rfl,_,rfl⟩)
  subst he'
  xt ⟨[§(gf names),§(jB aa),§(.lst acc),§(.str t),o4],_,rfl,(j6 (gV (x:=gf names) rfl rfl)).trans g1,_,_,rfl⟩)
 subst he
 rw [aM (e':=[§(gf names),§(jB aa),§(.lst []),none,none]) (bD (Tn _))]
 rw [aM ((j6 (gV (x:=gf names) rfl rfl)).trans f1)]
 rw [fH (cC (oZ ((iI (x:=gf names) rfl).trans rfl) ((iI rfl).trans rfl)))]
 rw [List.nil_append,← ecr]; rfl
theorem Rk.sub {A B:List Ar} (R:Rk A) (h:∀ p∈B,p∈A):Rk B:=let ⟨r,k⟩:=R; ⟨r,fun p hp=>k p (h p hp)⟩
def frees (names:List Str) (aa:List Ar):List Ar:=names.flatMap fun a=>(names.filter fun b=>!decide (a = b) && (!decide ((a,b)∈aa) && !decide ((b,a)∈aa))).map fun b=>(a,b)
theorem Zr {xs:List Ar} {i:Int} (h0:0≤i) (h1:i < xs.length):∃ p,p∈xs∧dU (jB xs) (.int i) = .ok (pairD p):=by
 have hk:i.toNat < xs.length:=by omega
 rf ⟨xs[i.toNat],List.getElem_mem hk,?_⟩
 show pH (wy (xs.map pairD) i) = _
 unfold wy BL
 rw [if_pos h0,List.length_map,if_pos h1]
 show pH ((xs.map pairD)[i.toNat]?) = _
 rw [List.getElem?_map,List.getElem?_eq_getElem hk]; rfl
end Mr
namespace Mr
open PySem Mi
theorem GZ:∀ ds:List D,nO ds ds = ds.map fun d=>D.tup [d,d]
 | []=>rfl
 | d :: r=>by rw [nO,GZ r]; rfl
def sq (k:Bool) (ds:List D):D:=if k then .lst ds else .tup ds
theorem wu {F:Fn} (k:Bool) (ds:List D) (h:∀ d∈ds,F [.d d,.d d] = .ok (.d (.bl true))):vf 2 4 (pQ F) [.d (sq k ds),.d (sq k ds)] = .ok (.d (.bl true)):=by
 unfold pQ
 rw [vW]
 have c0:QC (cB (m1 (yC ["str"]) (mV 1))) (cB (m1 (yC ["int"]) (mV 1))) [§(sq k ds),§(sq k ds),none,none] = .ok false:=by cases k <;> rfl
 have c1:QC (cB (m2 GQ (m1 (yC ["list"]) (mV 0)) (m1 (yC ["list"]) (mV 1)))) (qC (cB (m1 (yC ["list", "tuple"]) (mV 0)))) [§(sq k ds),§(sq k ds),none,none] = .ok false:=by cases k <;> rfl
 have c2:cB (m2 GQ (mN iR [(mV 0)]) (mN iR [(mV 1)])) [§(sq k ds),§(sq k ds),none,none] = .ok false:=by
  cases k <;> xt cU ((aG rfl rfl rfl).trans ((W9 _ _).trans (by rw [decide_eq_true rfl]; rfl)))
 ob ⟨e',f1,o2,o3,he⟩:=kO (tg:=.t [2,3]) (body:=(iz (qC (cB (aZ F [(wD (mV 2)),(wD (mV 3))]))) (dJ (wD (mC (.bl false)))) bB))
  (fun i e=>∃ o2 o3:Option W,e = [§(sq k ds),§(sq k ds),o2,o3]) (ds.map fun d=>D.tup [d,d]) 0 (fun i d e hi ⟨o2,o3,he⟩=>by
   subst he
   rw [List.getElem?_map] at hi
   ob ⟨x,hx,rfl⟩:=Option.map_eq_some_iff.mp hi
   have ct:qC (cB (aZ F [(wD (mV 2)),(wD (mV 3))])) [§(sq k ds),§(sq k ds),§x,§x] = .ok false:=z7 (call2 rfl rfl (h x (List.mem_of_getElem? hx)))
   xt ⟨[§(sq k ds),§(sq k ds),§x,§x],_,rfl,(dI ct).trans rfl,_,_,rfl⟩) [§(sq k ds),§(sq k ds),none,none] ⟨none,none,rfl⟩
 subst he
 have hit:KJ (mV 0) (mV 1) [§(sq k ds),§(sq k ds),none,none] = .ok (ds.map fun d=>D.tup [d,d]):=by rw [← GZ]; cases k <;> rfl
 xt (congrArg (fun r=>Rs.bind r vV) ((aM ((dI c0).trans rfl)).trans ((aM ((dI c1).trans rfl)).trans ((aM ((dI c2).trans rfl)).trans ((aM ((j6 hit).trans f1)).trans (fH (cC rfl))))))).trans rfl
theorem Lg (n:Nat) (p:Ar):cu (n + 2) [.d (pairD p),.d (pairD p)] = .ok (.d (.bl true)) :=
 wu (F:=cu (n + 1)) false [.str p.1,.str p.2] fun d hd=>by
  rcases List.mem_cons.mp hd with rfl | hd
  ·xt xJ n _
  ·rw [List.mem_singleton.mp hd]; xt xJ n _
end Mr
namespace Mr
open PySem Mi
theorem vO:∀ a b:List Int,qW a b = true→qW b a = true→False
 | [],[],h,_=>by cases h
 | [],_ :: _,_,h=>by cases h
 | _ :: _,[],h,_=>by cases h
 | a :: r,b :: t,h,k=>by
  rw [qW] at h k
  by_cases e:a = b
  ·subst e
   rw [if_pos (beq_self_eq_true a)] at h k
   xt vO r t h k
  ·rw [if_neg (by simpa using e)] at h
   rw [if_neg (by simpa using Ne.symm e)] at k
   simp at h k; omega
theorem Tt {a b:Int} {r t:List Int} (h:a < b):qW (a :: r) (b :: t) = true:=by
 rw [qW,if_neg (by simp; omega)]
 simpa using h
theorem Wy {a:Int} {r t:List Int}:qW (a :: r) (a :: t) = qW r t:=by
 rw [qW,if_pos (beq_self_eq_true a)]
section
variable {α : Type} (key:α→List Int)
theorem Cy:∀ {a b:List α},(∀ x,x∈a↔x∈b)→a.Pairwise (fun x y=>qW (key x) (key y) = true)→b.Pairwise (fun x y=>qW (key x) (key y) = true)→a = b
 | [],[],_,_,_=>rfl
 | [],y :: t,h,_,_=>absurd ((h y).mpr List.mem_cons_self) (by simp)
 | x :: r,[],h,_,_=>absurd ((h x).mp List.mem_cons_self) (by simp)
 | x :: r,y :: t,h,ha,hb=>by
  have ha':=List.pairwise_cons.mp ha
  have hb':=List.pairwise_cons.mp hb
  have e:x = y:=by
   rcases List.mem_cons.mp ((h x).mp List.mem_cons_self) with z | z
   ·xt z
   ·rcases List.mem_cons.mp ((h y).mpr List.mem_cons_self) with z2 | z2
    ·xt z2.symm
    ·xt (vO _ _ (hb'.1 x z) (ha'.1 y z2)).elim
  subst e
  have nr:x∉r:=fun z=>vO _ _ (ha'.1 x z) (ha'.1 x z)
  have nt:x∉t:=fun z=>vO _ _ (hb'.1 x z) (hb'.1 x z)
  rw [Cy (a:=r) (b:=t) (fun z=>⟨fun hz=>?_,fun hz=>?_⟩) ha'.2 hb'.2]
  ·rcases List.mem_cons.mp ((h z).mp (List.mem_cons_of_mem _ hz)) with q | q
   ·xt absurd (q ▸ hz) nr
   ·xt q
  ·rcases List.mem_cons.mp ((h z).mpr (List.mem_cons_of_mem _ hz)) with q | q
   ·xt absurd (q ▸ hz) nt
   ·xt q
theorem OD {kz:List (List Int)} (nd:kz.Nodup):(yu kz kz.length).Perm (List.range kz.length)∧(yu kz kz.length).Pairwise (fun i j=>qW (kz.getD i []) (kz.getD j []) = true):=by
 have O:=So.Ft nd
 have e:yu kz kz.length = sortI (So.Wv kz) (List.range kz.length):=by
  unfold yu So.Wv
  congr 1
  funext i j
  xt (So.Fw _ _).symm
 rw [e]
 rf ⟨So.pA _ _,(So.rF O (fun x hx=>by simpa using hx) List.nodup_range).imp fun {i j} h=>?_⟩
 rw [← So.Fw]; xt h
theorem Om [Inhabited α] (f:α→D) {xs ys:List α} (nd:(xs.map key).Nodup) (hm:∀ a,a∈xs↔a∈ys) (hs:ys.Pairwise fun a b=>qW (key a) (key b) = true):sortBy (xs.map key) (xs.map f) = ys.map f:=by
 ob ⟨h1,h2⟩:=OD nd
 rw [List.length_map] at h1 h2
 have lt:∀ i∈yu (xs.map key) xs.length,i < xs.length:=fun i hi=>by simpa using h1.mem_iff.mp hi
 have gd:∀ i,i < xs.length→∀ (β : Type) (g:α→β) (d:β),(xs.map g).getD i d = g (xs.getD i default):=fun i hi β g d=>by simp [hi]
 have e:sortBy (xs.map key) (xs.map f) = ((yu (xs.map key) xs.length).map fun i=>xs.getD i default).map f:=by
  unfold sortBy
  rw [List.length_map,List.map_map]
  xt List.map_congr_left fun i hi=>gd i (lt i hi) _ f _
 have e2 : ((yu (xs.map key) xs.length).map fun i => xs.getD i default) = ys := by
  rf Cy key (fun a=>?_) ?_ hs
  ·rw [← hm a,List.mem_map]
   constructor
   ·rintro ⟨i,hi,rfl⟩
    have:=lt i hi
    rw [List.getD_eq_getElem?_getD,List.getElem?_eq_getElem this]
    xt List.getElem_mem this
   ·intro ha
    ob ⟨i,hi,rfl⟩:=List.getElem_of_mem ha
    xt ⟨i,h1.mem_iff.mpr (List.mem_range.mpr hi),by simp [hi]⟩
  ·rw [List.pairwise_map]
   rf h2.imp_of_mem fun {i j} hi hj h=>?_
   rw [gd i (lt i hi) _ key,gd j (lt j hj) _ key] at h
   xt h
 rw [e,e2]
end
theorem Jt:∀ l:List Int,Bk (l.map D.int) = some l
 | []=>rfl
 | i :: r=>by rw [List.map_cons,Bk,Jt r]; rfl
theorem M3 {α : Type} {ρ : List Nat} {kf:E} {e:Mi.Env} (f:α→D) (key:α→List Int):∀ {xs:List α},(∀ x∈xs,kf (Fy ρ e (f x)) = .ok (.lst ((key x).map D.int)))→pN ρ kf e (xs.map f) = .ok (xs.map key)
 | [],_=>rfl
 | x :: r,h=>by
  rw [List.map_cons,pN,h x List.mem_cons_self,aD,Js,Jt,f9,aD,M3 f key fun y hy=>h y (List.mem_cons_of_mem _ hy)]
  rfl
def ky (names row:List Str):List Int:=row.map fun x=>((names.idxOf x:Nat):Int)
theorem Rr {α : Type} [Inhabited α] {names:List Str} {nx:D} (hq:aaJ nx = some names) (hn:names.length≤1000) (row:α→List Str) {xs ys:List α} (hr:∀ x∈xs,(row x).length≤1000∧∀ y∈row x,y∈names) (h64:xs.length < 64) (nd:(xs.map fun x=>ky names (row x)).Nodup)
 (hm:∀ a,a∈xs↔a∈ys) (hs:ys.Pairwise fun a b=>qW (ky names (row a)) (ky names (row b)) = true) :
 gr [.d nx,.d (.lst (xs.map fun x=>.tup ((row x).map D.str)))] = .ok (.d (.lst (ys.map fun x=>.tup ((row x).map D.str)))):=by
 unfold gr uz
 rw [Ir]
 rw [show ([§nx,§(.lst (xs.map fun x=>.tup ((row x).map D.str)))] ++ List.replicate (2 - 2) none) = [§nx,§(.lst (xs.map fun x=>.tup ((row x).map D.str)))] from rfl]
 have hk:pN [0] (fL [some 1,none] (uh (mV 0)) (.n 1) jq (m2 Uo (mV 0) (mV 1))) [§nx,§(.lst (xs.map fun x=>.tup ((row x).map D.str)))] (xs.map fun x=>.tup ((row x).map D.str)) = .ok (xs.map fun x=>ky names (row x)) :=
  M3 (fun x=>.tup ((row x).map D.str)) (fun x=>ky names (row x)) fun x hx=>by
   have hc:eX (.n 1) jq (m2 Uo (mV 0) (mV 1)) [§nx,none] ((row x).map D.str) = .ok (((row x).filter fun _=>true).map fun y=>D.int ((names.idxOf y:Nat):Int)) :=
    fM D.str (fun y=>D.int ((names.idxOf y:Nat):Int)) (fun _=>true) (row x) fun y hy=>⟨[§nx,§(.str y)],rfl,rfl,fun _=>aG (x:=nx) (y:=.str y) rfl rfl (by
     show ((pH (aaJ nx)).bind fun ys=>aK (y∈ys∧ys.length≤1000) (Rs.ok (D.int ((ys.idxOf y:Nat):Int)))) = _
     rw [hq,f9,aD]
     xt ak ⟨(hr x hx).2 y hy,hn⟩)⟩
   have hm:=fB (ρ:=[some 1,none]) (e:=Fy [0] [§nx,§(.lst (xs.map fun x=>.tup ((row x).map D.str)))] (.tup ((row x).map D.str))) (gV (a:=mV 0) (x:=.tup ((row x).map D.str)) rfl rfl) (by rw [List.length_map]; have:=(hr x hx).1; omega) hc
   rw [hm,List.filter_eq_self.mpr (fun _ _=>rfl)]
   show Rs.ok (D.lst _) = Rs.ok (D.lst ((ky names (row x)).map D.int))
   unfold ky
   rw [List.map_map]; rfl
 have hS:Fq [0] (mV 1) (fL [some 1,none] (uh (mV 0)) (.n 1) jq (m2 Uo (mV 0) (mV 1))) [§nx,§(.lst (xs.map fun x=>.tup ((row x).map D.str)))] = .ok (.lst (ys.map fun x=>.tup ((row x).map D.str))):=by
  unfold Fq
  rw [show mV 1 [§nx,§(.lst (xs.map fun x=>.tup ((row x).map D.str)))] = .ok (.lst (xs.map fun x=>.tup ((row x).map D.str))) from rfl,aD]
  rw [show gA (.lst (xs.map fun x=>.tup ((row x).map D.str))) = .ok (xs.map fun x=>.tup ((row x).map D.str)) from rfl,aD,ak (by rw [List.length_map]; xt h64),hk,aD,ak nd,Om (fun x=>ky names (row x)) _ nd hm hs]
 rw [fH (cC hS)]; rfl
end Mr
namespace Mr
open PySem Mi
def prs (names:List Str):List Ar:=(List.range names.length).flatMap fun k=>(names.drop (k + 1)).map fun b=>(nth names k,b)
def mds (names:List Str) (aa:List Ar) (p:Ar):List Str:=names.filter fun m=>decide ((p.1,m)∈aa) && decide ((p.2,m)∈aa)
def crs (names:List Str) (aa:List Ar):List Vr:=(prs names).flatMap fun p=>if (!tie aa p.1 p.2) = true then (mds names aa p).map fun m=>(p.1,m,p.2) else []
theorem Nf {names:List Str} (nd:names.Nodup) {i:Nat} (hi:i < names.length):names.idxOf (nth names i) = i:=by
 have e:nth names i = names[i]:=by unfold nth; rw [List.getD_eq_getElem?_getD,List.getElem?_eq_getElem hi]; rfl
 rw [e]; xt nd.idxOf_getElem i hi
theorem Ng {names:List Str} {x y:Str} (hx:x∈names) (hy:y∈names) (h:names.idxOf x = names.idxOf y):x = y:=by
 have h1:=List.getElem_idxOf (List.idxOf_lt_length_iff.mpr hx)
 have h2:=List.getElem_idxOf (List.idxOf_lt_length_iff.mpr hy)
 rw [← h1,← h2]
 congr 1
def tr (t:Vr):List Str:=[t.1,t.2.1,t.2.2]
theorem HH {α : Type} [DecidableEq α]:∀ {l L:List α},l.Nodup→(∀ x∈l,x∈L)→l.length≤L.length
 | [],_,_,_=>Nat.zero_le _
 | x :: r,L,nd,h=>by
  have nd':=List.nodup_cons.mp nd
  have hx:=h x List.mem_cons_self
  have:=HH (l:=r) (L:=L.erase x) nd'.2 fun y hy=>(List.mem_erase_of_ne (fun z:y = x=>nd'.1 (z ▸ hy))).mpr (h y (List.mem_cons_of_mem _ hy))
  rw [List.length_erase_of_mem hx] at this
  have:=List.length_pos_of_mem hx
  rw [List.length_cons]; omega
def cde (names:List Str) (t:Vr):Nat :=
 if names.idxOf t.2.1 < names.idxOf t.1 then names.idxOf t.2.1 * 64 + names.idxOf t.1 * 8 + names.idxOf t.2.2
 else if names.idxOf t.2.1 < names.idxOf t.2.2 then names.idxOf t.1 * 64 + names.idxOf t.2.1 * 8 + names.idxOf t.2.2
 else names.idxOf t.1 * 64 + names.idxOf t.2.2 * 8 + names.idxOf t.2.1
structure CF (names:List Str) (aa:List Ar) (t:Vr):Prop where
 m1:t.1∈names
 m2:t.2.1∈names
 m3:t.2.2∈names
 l1:names.idxOf t.1 < 8
 l2:names.idxOf t.2.1 < 8
 l3:names.idxOf t.2.2 < 8
 up:names.idxOf t.1 < names.idxOf t.2.2
 n1:names.idxOf t.2.1≠names.idxOf t.1
 n2:names.idxOf t.2.1≠names.idxOf t.2.2
 a1:(t.1,t.2.1)∈aa
 a2:(t.2.2,t.2.1)∈aa
 z1:(t.1,t.2.2)∉aa
 z2:(t.2.2,t.1)∉aa
def c56:List Nat:=(List.range 512).filter fun n=>decide (n / 64 < n / 8 % 8) && decide (n / 8 % 8 < n % 8)
end Mr
namespace Mr
open PySem Mi
theorem Pa {a b:E} {e:Mi.Env} {x y:D} (h:a e = .ok x) (h':b e = .ok y):mN gm [a,b] e = .ok (.lst [x,y]):=by
 unfold mN; rw [jw,h,aD,jw,h',aD]; rfl
theorem Az {a:E} {e:Mi.Env} {x:D} (h:a e = .ok x):rT a e = .ok (.nx e):=by unfold rT; rw [h]; rfl
def tis (names:List Str) (aa:List Ar):List Ar:=(prs names).filter fun p=>tie aa p.1 p.2
end Mr
namespace Mr
open PySem Mi
open My (words Gy fV)
theorem Qt:("abcdefghijklmnopqrstuvwxyz" : Str).cps.toList = (List.range 26).map (· + 97):=by decide +kernel
theorem Jb {a b c:E} {e:Mi.Env} {i j k:Int} (ha:a e = .ok (.int i)) (hb:b e = .ok (.int j)) (hc:c e = .ok (.int k)) (h1:i≤j) (h2:j≤k):uO Vv Vv a b c e = .ok (.bl true):=by
 unfold uO
 rw [ha,aD,hb,aD]
 show (Rs.ok (D.bl (decide (i≤j)))).bind _ = _
 rw [decide_eq_true h1,aD,Vl,aD,if_pos rfl,hc,aD]
 show Rs.ok (D.bl (decide (j≤k))) = _
 rw [decide_eq_true h2]
theorem VG {l:List Nat} (hw:Gy l):d9 [.d (.str (S' l))] = .ok (.d (.bl true)):=by
 unfold d9 Dq
 rw [Ua]
 rw [show ([§(.str (S' l))] ++ List.replicate (1 - 1) none) = [§(.str (S' l))] from rfl]
 ob ⟨h1,h8,hl⟩:=hw
 have hc:eX (.n 0) jq (m2 Qc (mV 0) (mC (.str "abcdefghijklmnopqrstuvwxyz"))) [none] (l.map fun c=>D.str (S' [c])) = .ok ((l.filter fun _=>true).map fun c=>D.bl ((fun _=>true) c)) :=
  fM (fun c=>D.str (S' [c])) (fun c=>D.bl ((fun _=>true) c)) (fun _=>true) l fun c hcl=>⟨[§(.str (S' [c]))],rfl,rfl,fun _=>aG (x:=.str (S' [c])) rfl rfl (by
   show aK ((S' [c]).length = 1) (Rs.ok (D.bl (decide ((S' [c]).cps.getD 0 0∈("abcdefghijklmnopqrstuvwxyz" : Str).cps.toList)))) = _
   have hm:(S' [c]).cps.getD 0 0∈("abcdefghijklmnopqrstuvwxyz" : Str).cps.toList:=by
    rw [Qt]
    have:=hl c hcl
    xt List.mem_map.mpr ⟨c - 97,List.mem_range.mpr ω,by show c - 97 + 97 = c; omega⟩
   rw [ak (by rw [lM]; rfl),decide_eq_true hm])⟩
 rw [List.filter_eq_self.mpr (fun _ _=>rfl)] at hc
 have h2:mN Qs [(fL [none] (uh (mV 0)) (.n 0) jq (m2 Qc (mV 0) (mC (.str "abcdefghijklmnopqrstuvwxyz"))))] [§(.str (S' l))] = .ok (.bl true):=by
  rf (iI (fB (ρ:=[none]) (gV (a:=mV 0) (x:=.str (S' l)) rfl rfl) (by rw [List.length_map,yS]; omega) hc)).trans ?_
  rw [YF,Ju,f9,aD,List.all_map]
  show Rs.ok (D.bl (l.all fun _=>true)) = _
  rw [List.all_eq_true.mpr (fun _ _=>rfl)]
 have h3:uO Vv Vv (mC (.int 1)) (mN iR [(mV 0)]) (mC (.int 8)) [§(.str (S' l))] = .ok (.bl true):=Jb (j:=((l.length:Nat):Int)) rfl ((iI (x:=.str (S' l)) rfl).trans (by rw [Yo,ak (by rw [lM]; omega),lM])) rfl ω ω
 rw [fH (cC (Mw h3 fun _=>h2))]; rfl
theorem Q3 {α : Type} {l:List α} (nd:l.Nodup) {i:Nat} {x:α} (hx:l[i]? = some x):x∉l.take i:=fun z=>by
 ob ⟨il,hxe⟩:=List.getElem?_eq_some_iff.mp hx
 ob ⟨j,hj⟩:=List.getElem?_of_mem z
 have hj2:=(List.getElem?_eq_some_iff.mp hj).1
 rw [List.length_take] at hj2
 rw [List.getElem?_take_of_lt ω] at hj
 ob ⟨jl,hje⟩:=List.getElem?_eq_some_iff.mp hj
 have:=(List.getElem_inj nd).mp (hje.trans hxe.symm)
 omega
def Tz (p:Ar):List Ky:=[.inr p.1,.inr p.2]
theorem MN {p q:Ar} (h:Tz p = Tz q):p = q:=by
 ob ⟨a,b⟩:=p
 ob ⟨c,d⟩:=q
 simp only [Tz,List.cons.injEq,Sum.inr.injEq,and_true] at h
 rw [h.1,h.2]
def Ug (ps:List Ar):W:=.dt (ps.map fun p=>(Tz p,D.bl true))
theorem adq (ps:List Ar) (p:Ar):(Bs (ps.map fun p=>(Tz p,D.bl true)) (Tz p)).isSome = decide (p∈ps):=by
 unfold Bs
 induction ps with
 | nil=>rfl
 | cons a r ih =>
  rw [List.map_cons,List.find?_cons]
  by_cases h:a = p
  ·subst h; simp
  ·rw [decide_eq_false (fun z:Tz a = Tz p=>h (MN z))]
   simp only [ih]
   simp [Ne.symm h]
theorem acH {i:Nat} {k:E} {e:Mi.Env} {ps:List Ar} {p:Ar} (hk:k e = .ok (pairD p)) (hw:wV i e = .ok (Ug ps)):BJ i k e = .ok (.bl (decide (p∈ps))):=by
 unfold BJ; rw [hk,aD,hw,aD,← adq]; rfl
theorem Uh {i:Nat} {k:E} {e:Mi.Env} {ps:List Ar} {p:Ar} (hk:k e = .ok (pairD p)) (hw:wV i e = .ok (Ug ps)) (hn:p∉ps) (hl:ps.length≤1000):lO i k (mC (.bl true)) e = .ok (.nx (e.set i (some (Ug (ps ++ [p]))))):=by
 unfold lO
 have h1:aaw (Ug ps) (pairD p) (.bl true) = .ok (Ug (ps ++ [p])):=by
  show aK ((ps.map fun p=>(Tz p,D.bl true)).length < 16777216) (Rs.ok (W.dt (Mi.putK (Tz p) (.bl true) (ps.map fun p=>(Tz p,D.bl true))))) = _
  rw [ak (by rw [List.length_map]; omega)]
  unfold Mi.putK
  rw [if_neg (by
   rw [List.any_map,Bool.not_eq_true,List.any_eq_false]
   intro z hz
   simp only [Function.comp,decide_eq_true_eq]
   xt fun q=>hn (MN q ▸ hz))]
  unfold Ug
  rw [List.map_append]; rfl
 rw [show mC (.bl true) e = .ok (.bl true) from rfl,aD,hk,aD,hw,aD,h1]; rfl
def both (xs:List Ar):List Ar:=xs.flatMap fun p=>[p,(p.2,p.1)]
theorem HS {xs:List Ar} {q:Ar}:q∈both xs↔∃ p∈xs,q = p∨q = (p.2,p.1):=by
 unfold both
 simp [List.mem_flatMap]
theorem UL (xs:List Ar):(both xs).length = 2 * xs.length:=by
 induction xs with
 | nil=>rfl
 | cons a r ih=>unfold both at *; rw [List.flatMap_cons,List.length_append,ih]; simp; omega
structure Apart (names:List Str) (xs:List Ar):Prop where
 inn:∀ p∈xs,p.1∈names∧p.2∈names
 irr:∀ p∈xs,p.1≠p.2
 pw:xs.Pairwise fun p q=>p≠q∧p≠(q.2,q.1)
theorem V6 {names:List Str} {aa:List Ar} (N:Qv names aa):iY [.d (bx names aa)] = .ok (.d .non):=by
 unfold iY uA
 rw [Ua]
 rw [show ([§(bx names aa)] ++ List.replicate (3 - 1) none) = [§(bx names aa),none,none] from rfl]
 rw [aM (e':=[§(bx names aa),§(aP (ord names aa names.length)),none]) (bD (Dh rfl (KH N)))]
 have hc:eX (.n 1) (cB (m2 dB (mV 1) (mV 0))) (mV 1) [§(aP (ord names aa names.length)),none] (names.map D.str) = .ok ((names.filter fun x=>!decide (x∈ord names aa names.length)).map D.str) :=
  fM D.str D.str (fun x=>!decide (x∈ord names aa names.length)) names fun x _=>⟨[§(aP (ord names aa names.length)),§(.str x)],rfl,cU (aG rfl rfl (uW _ x)),fun _=>rfl⟩
 rw [List.filter_eq_nil_iff.mpr (fun x hx=>by rw [decide_eq_true (N.Mj x hx)]; simp)] at hc
 rw [aM (bD (fB (ρ:=[some 1,none]) (gV (aG (a:=mV 0) (b:=mC (.int 0)) rfl rfl (ix0 names aa)) rfl) (by rw [List.length_map]; have:=N.le; omega) hc))]
 rw [dI (c:=Xh (mV 2)) rfl]
 rfl
end Mr
namespace Mr
open PySem Mi
open My (words Gy fV)
def rw2 (p:Ar):List Str:=[p.1,p.2]
theorem nq.sorted {names:List Str} {A:List Ix} {r:Nat→Int} (N:nq names A r):(A.map (arrOf names)).Pairwise fun p q=>qW (ky names (rw2 p)) (ky names (rw2 q)) = true:=by
 rw [List.pairwise_map]
 rf List.Pairwise.imp_of_mem (fun {p q} hp hq h=>?_) N.nA
 have k:∀ x:Ix,x∈A→ky names (rw2 (arrOf names x)) = [((x.1:Nat):Int),((x.2:Nat):Int)]:=fun x hx=>by
  ob ⟨h1,h2,_⟩:=N.all x hx
  show [((names.idxOf (nth names x.1):Nat):Int),((names.idxOf (nth names x.2):Nat):Int)] = _
  rw [Nf N.nd h1,Nf N.nd h2]
 rw [k p hp,k q hq]
 rcases h with h | ⟨h1,h2⟩
 ·xt Tt (Int.ofNat_lt.mpr h)
 ·rw [h1,Wy]; xt Tt (Int.ofNat_lt.mpr h2)
theorem nq.apart {names:List Str} {A:List Ix} {r:Nat→Int} (N:nq names A r):Apart names (A.map (arrOf names)):=by
 rf ⟨fun p hp=>?_,fun p hp=>?_,?_⟩
 ·ob ⟨q,hq,rfl⟩:=List.mem_map.mp hp
  xt ⟨lW (N.all q hq).1,lW (N.all q hq).2.1⟩
 ·ob ⟨q,hq,rfl⟩:=List.mem_map.mp hp
  ob ⟨h1,h2,h3⟩:=N.all q hq
  intro z
  have:=jJ N.nd h1 h2 z
  rw [this] at h3; omega
 ·rw [List.pairwise_map]
  rf List.Pairwise.imp_of_mem (fun {p q} hp hq h=>?_) N.nA
  ob ⟨h1,h2,h3⟩:=N.all p hp
  ob ⟨k1,k2,k3⟩:=N.all q hq
  rf ⟨fun z=>?_,fun z=>?_⟩
  ·have e1:=jJ N.nd h1 k1 (congrArg Prod.fst z)
   have e2:=jJ N.nd h2 k2 (congrArg Prod.snd z)
   rcases h with h | ⟨_,h⟩ <;> omega
  ·have e1:=jJ N.nd h1 k2 (congrArg Prod.fst z)
   have e2:=jJ N.nd h2 k1 (congrArg Prod.snd z)
   rw [e1,e2] at h3; omega
theorem Apart.perm {names:List Str} {xs ys:List Ar} (P:Apart names ys) (h:xs.Perm ys):Apart names xs :=
 ⟨fun p hp=>P.inn p (h.mem_iff.mp hp),fun p hp=>P.irr p (h.mem_iff.mp hp),(h.pairwise_iff (fun {p q} z=>⟨z.1.symm,fun e=>z.2 (by rw [e])⟩)).mpr P.pw⟩
def acK:List Ix:=((List.range 64).map fun n=>(n / 8,n % 8)).filter fun p=>decide (p.1≠p.2)
theorem UJ:acK.length = 56:=by decide +kernel
theorem nq.few {names:List Str} {A:List Ix} {r:Nat→Int} (N:nq names A r):A.length≤56:=by
 have nd:A.Nodup:=N.nA.imp fun {p q} h z=>by subst z; rcases h with h | ⟨_,h⟩ <;> omega
 have:=HH nd (L:=acK) fun p hp=>by
  ob ⟨h1,h2,h3⟩:=N.all p hp
  have hn:=N.le
  rf List.mem_filter.mpr ⟨List.mem_map.mpr ⟨p.1 * 8 + p.2,List.mem_range.mpr ω,Prod.ext (by show (p.1 * 8 + p.2) / 8 = p.1; omega) (by show (p.1 * 8 + p.2) % 8 = p.2; omega)⟩,?_⟩
  xt decide_eq_true fun z=>by rw [z] at h3; omega
 rw [UJ] at this; xt this
theorem Ds (names:List Str) (aa:List Ar):cu 4 [.d (bx names aa),.d (bx names aa)] = .ok (.d (.bl true)) :=
 wu (F:=cu 3) false [gf names,Le aa] fun d hd=>by
  rcases List.mem_cons.mp hd with rfl | hd
  ·xt wu (F:=cu 2) false (names.map D.str) fun d hd=>by
    ob ⟨x,_,rfl⟩:=List.mem_map.mp hd
    xt xJ 1 x
  ·rw [List.mem_singleton.mp hd]
   xt wu (F:=cu 2) false (aa.map pairD) fun d hd=>by
    ob ⟨p,_,rfl⟩:=List.mem_map.mp hd
    xt Lg 0 p
end Mr
namespace Mr
open PySem Mi
def Sh (x:Str):Prop:=x.length≤100∧∀ c∈x.cps.toList,c < 128
theorem Sh.rep {x:Str} (h:Sh x):(PySem.reprText x).length≤100000:=by
 have h1:=PySem.StrLaws.reprText_len x fun c hc=>Nat.lt_trans (h.2 c hc) δ
 have h2:=h.1
 omega
theorem Je {c:C} {e:Mi.Env} {b:Bool} (h:c e = .ok b):cP c e = .ok b:=Hf h
theorem Ys {m:I} {e:Mi.Env} {o:List D} (h:m e = .ok o):iP m e = .ok o:=Hf h
theorem zN {c:String} {gs:List (Mi.Env→Bool)} {e:Mi.Env} (h:(gs.all fun g=>g e) = true):rR c gs e = .ex ⟨c,[]⟩:=if_pos h
theorem J0 {s t:S} {e:Mi.Env} {z:yE} (h:s e = .ex z):aY s t e = .ex z:=by unfold aY; rw [h]; rfl
theorem Qn {f:Fn} {a b:EW} {e:Mi.Env} {x y:W} {z:yE} (h:a e = .ok x) (h':b e = .ok y) (hf:f [x,y] = .ex z):mL f [a,b] e = .ex z:=by
 unfold mL
 rw [bM,h,aD,bM,h',aD,bM,aD]
 show ((f [x,y]).bind fun _=>_) = _
 rw [hf]; rfl
theorem Ql {f:Fn} {a b c:EW} {e:Mi.Env} {x y w:W} {z:yE} (h:a e = .ok x) (h':b e = .ok y) (h2:c e = .ok w) (hf:f [x,y,w] = .ex z):mL f [a,b,c] e = .ex z:=by
 unfold mL
 rw [bM,h,aD,bM,h',aD,bM,h2,aD,bM,aD]
 show ((f [x,y,w]).bind fun _=>_) = _
 rw [hf]; rfl
theorem Im {i:Nat} {e:Mi.Env} {x:Str} (h:e[i]? = some (§(.str x))) (s:Sh x):gR i e = true:=by
 unfold gR
 rw [h]
 xt decide_eq_true s.rep
abbrev xNo:yE:=⟨"NoName", []⟩
theorem Vz {names asked:List Str} (h:∃ x∈asked,x∉names) (hs:∀ x∈asked,Sh x):bL [.d (gf names),.d (aP asked)] = .ex xNo:=by
 unfold bL iQ
 rw [vW]
 rw [show ([§(gf names),§(aP asked)] ++ List.replicate (3 - 2) none) = [§(gf names),§(aP asked),none] from rfl]
 have key:∀ (l:List Str) (o:Option W),(∃ x∈l,x∉names)→(∀ x∈l,Sh x)→qu (.n 2) (iz (cP (cB (m2 dB (mV 2) (mV 0)))) (rR "NoName" [(gR 2),(fun _=>true)]) (sP bB)) (l.map D.str) [§(gf names),§(aP asked),o] = .ex xNo:=by
  intro l
  induction l with
  | nil=>intro o hx; ob ⟨x,hx,_⟩:=hx; xt nomatch hx
  | cons a r ih =>
   intro o hx hsh
   rw [List.map_cons,qu]
   show (Rs.bind (iz _ _ _ [§(gf names),§(aP asked),§(.str a)]) _) = _
   have ct:cP (cB (m2 dB (mV 2) (mV 0))) [§(gf names),§(aP asked),§(.str a)] = .ok (!decide (a∈names)):=Je (cU (aG rfl rfl (lz names a)))
   by_cases ha:a∈names
   ·rw [decide_eq_true ha] at ct
    rw [dI ct]
    ob ⟨x,hx,hn⟩:=hx
    rcases List.mem_cons.mp hx with rfl | hx
    ·xt absurd ha hn
    ·xt ih _ ⟨x,hx,hn⟩ fun y hy=>hsh y (List.mem_cons_of_mem _ hy)
   ·rw [decide_eq_false ha] at ct
    rw [jx ct,zN (by
     show (gR 2 [§(gf names),§(aP asked),§(.str a)] && (true && true)) = true
     rw [Im rfl (hsh a (List.mem_cons_self ..))]; rfl)]
    rfl
 rw [j6 (Ys (gV (a:=mV 1) (x:=aP asked) rfl rfl)),key asked none h hs]
 rfl
theorem JM {names asked:List Str} (h:∀ x∈asked,x∈names):bL [.d (gf names),.d (aP asked)] = .ok (.d .non):=by
 unfold bL iQ
 rw [vW]
 rw [show ([§(gf names),§(aP asked)] ++ List.replicate (3 - 2) none) = [§(gf names),§(aP asked),none] from rfl]
 ob ⟨e',f1,o,he⟩:=kO (tg:=.n 2) (body:=(iz (cP (cB (m2 dB (mV 2) (mV 0)))) (rR "NoName" [(gR 2),(fun _=>true)]) (sP bB)))
  (fun i e=>∃ o:Option W,e = [§(gf names),§(aP asked),o]) (asked.map D.str) 0 (fun i d e hi ⟨o,he⟩=>by
   subst he
   rw [List.getElem?_map] at hi
   ob ⟨x,hx,rfl⟩:=Option.map_eq_some_iff.mp hi
   have ct:cP (cB (m2 dB (mV 2) (mV 0))) [§(gf names),§(aP asked),§(.str x)] = .ok (!decide (x∈names)):=Je (cU (aG rfl rfl (lz names x)))
   rw [decide_eq_true (h x (List.mem_of_getElem? hx))] at ct
   xt ⟨[§(gf names),§(aP asked),§(.str x)],_,rfl,(dI ct).trans rfl,_,rfl⟩) [§(gf names),§(aP asked),none] ⟨none,rfl⟩
 subst he
 rw [j6 (Ys (gV (a:=mV 1) (x:=aP asked) rfl rfl)),f1]
 rfl
abbrev nn:D:=.lst [.str "NoName"]
theorem Y4 {i:Nat} {cs:List String} {b h:S} {e:Mi.Env} {z:yE} {o:Out} (hb:b e = .ex z) (hc:z.cls∈cs) (hh:h (e.set i (some (.ex z.cls))) = .ok o):Rn i cs b h e = .ok (abT i o):=by
 unfold Rn
 rw [hb]
 show aK _ _ = _
 rw [ak hc,hh]; rfl
def ug:Str := "zqxjkvbpygfwmucldrhsnioate"
theorem HY:ug.length = 26:=by decide +kernel
theorem HX:∀ c∈ug.cps.toList,c < 128:=by decide +kernel
def Hy (c:Nat):Str:=⟨#[c]⟩
def nJ:List Str:=ug.cps.toList.map Hy
theorem pM:nJ.length = 26:=by decide +kernel
theorem Tf:nJ.Nodup:=by decide +kernel
theorem Te:∀ x∈nJ,x≠Str.empty:=by decide +kernel
theorem Ey {c:Nat} (h:c < 128):Sh (Hy c):=⟨by show 1≤100; omega,fun d hd=>by
 have:d∈[c]:=hd
 rw [List.mem_singleton.mp this]; xt h⟩
theorem Td:∀ x∈nJ,Sh x:=fun x hx=>by
 ob ⟨c,hc,rfl⟩:=List.mem_map.mp hx
 xt Ey (HX c hc)
theorem Sh.cat {x y:Str} {k:Nat} (hx:x.length≤50) (hy:y.length≤50) (ax:∀ c∈x.cps.toList,c < 128) (ay:∀ c∈y.cps.toList,c < 128):Sh (x ++ y):=by
 have e:(x ++ y).cps.toList = x.cps.toList ++ y.cps.toList:=by show (x.cps ++ y.cps).toList = _; rw [Array.toList_append]
 rf ⟨?_,fun c hc=>?_⟩
 ·show (x ++ y).cps.size≤100
  rw [← Array.length_toList,e,List.length_append,Array.length_toList,Array.length_toList]
  have h1:x.cps.size≤50:=hx
  have h2:y.cps.size≤50:=hy
  omega
 ·rw [e] at hc
  rcases List.mem_append.mp hc with h | h
  ·xt ax c h
  ·xt ay c h
theorem Uu {α : Type} (xs:List α) (lo hi:Option Int):(qy xs lo hi).length≤xs.length:=by
 unfold qy
 rw [List.length_take,List.length_drop]; omega
theorem Ut {α : Type} {xs:List α} {lo hi:Option Int} {x:α} (h:x∈qy xs lo hi):x∈xs:=List.mem_of_mem_drop (List.mem_of_mem_take h)
theorem Sh.cut {x:Str} (h:Sh x) (lo hi:Option Int):Sh (j8 x lo hi):=by
 rf ⟨?_,fun c hc=>h.2 c (Ut (show c∈qy x.cps.toList lo hi from hc))⟩
 show (qy x.cps.toList lo hi).toArray.size≤100
 rw [List.size_toArray]
 have h1:=Uu x.cps.toList lo hi
 have h3:x.cps.toList.length = x.cps.size:=Array.length_toList
 have h2:x.cps.size≤100:=h.1
 omega
theorem YW:∀ c,c < 128→∀ d∈Unicode.upperOf c,d < 128:=by decide +kernel
theorem Sh.up {x:Str} (h:x.length≤30) (a:∀ c∈x.cps.toList,c < 128):Sh (QW x):=by
 have hl:(QW x).length≤3 * x.length:=PyProof.Rows.len_upper x
 rf ⟨by omega,fun c hc=>?_⟩
 have hc:c∈(PySem.placed x fun _ c=>Unicode.upperOf c).toList:=hc
 unfold PySem.placed at hc
 rw [Array.mem_toList_iff,Array.mem_flatten] at hc
 ob ⟨b,hb,hcb⟩:=hc
 ob ⟨i,hi,rfl⟩:=Array.mem_mapIdx.mp hb
 xt YW _ (a _ (by rw [Array.mem_toList_iff]; xt Array.getElem_mem hi)) c (by simpa using hcb)
end Mr
namespace Mr
open PySem Mi
open My (words Gy fV)
theorem ZW {a b c d g:E} {e:Mi.Env} {x y z u v:D} (h1:a e = .ok x) (h2:b e = .ok y) (h3:c e = .ok z) (h4:d e = .ok u) (h5:g e = .ok v):mN gm [a,b,c,d,g] e = .ok (.lst [x,y,z,u,v]):=by
 unfold mN
 rw [jw,h1,aD,jw,h2,aD,jw,h3,aD,jw,h4,aD,jw,h5,aD]; rfl
theorem acb {f:D→Rs D} {a:E} {e:Mi.Env} {x:D} (h:a e = .ok x):m1 f a e = f x:=by unfold m1; rw [h]; rfl
theorem M6 {i:Int} (h0:0≤i) (h1:i < 26):∃ c,c < 128∧dU (.str ug) (.int i) = .ok (.str (Hy c)):=by
 have hl:(ug.cps.toList.length:Int) = 26:=by
  have:=HY
  rw [Array.length_toList]
  xt congrArg Int.ofNat this
 have hi:i < (ug.cps.toList.length:Int):=by rw [hl]; xt h1
 have ha:=Nz (xs:=ug.cps.toList) h0 hi 0
 rf ⟨ug.cps.toList.getD i.toNat 0,HX _ ?_,?_⟩
 ·have hn:i.toNat < ug.cps.toList.length:=by omega
  rw [List.getD_eq_getElem?_getD,List.getElem?_eq_getElem hn]
  xt List.getElem_mem hn
 ·show aK _ _ = _
  rw [ak (by rw [HY]; decide),ha]; rfl
theorem rE {names:List Str} (hp:1≤names.length) (h8:names.length≤8) (hs:∀ x∈names,x.length≤8∧∀ c∈x.cps.toList,c < 128) (d:Int):∃ x,cH [.d (aP names),.d (.int d)] = .ok (.d (.str x))∧x∉names∧Sh x:=by
 have q0:=Int.emod_nonneg d (b:=(names.length:Int)) ω
 have q1:=Int.emod_lt_of_pos d (b:=(names.length:Int)) ω
 have hone:=yM (cs:=names) q0 q1
 obtain ⟨one,e1⟩ : ∃ one,one = names.getD (d % (names.length:Int)).toNat Str.empty:=⟨_,rfl⟩
 have mo1:one∈names:=by rw [e1]; xt lW ω
 rw [← e1] at hone
 ob ⟨l1,a1⟩:=hs one mo1
 have s1:Sh one:=⟨by omega,a1⟩
 ob ⟨ca,va,xa⟩:=M6 (Int.emod_nonneg (d / 8) (b:=26) δ) (Int.emod_lt_of_pos (d / 8) (b:=26) δ)
 ob ⟨cb,vb,xb⟩:=M6 (Int.emod_nonneg (d / 5) (b:=26) δ) (Int.emod_lt_of_pos (d / 5) (b:=26) δ)
 have pa:=(Ey va).2
 have pb:=(Ey vb).2
 have l1':one.length≤50:=by omega
 have o50:∀ c,(Hy c).length≤50:=fun c=>by show 1≤50; omega
 obtain ⟨ts,ets⟩ : ∃ ts:List Str,ts = [one ++ Hy ca,j8 one (some 1) none,j8 one none (some (-1)),Hy cb ++ one,QW one]:=⟨_,rfl⟩
 have tsh:∀ x∈ts,Sh x:=fun x hx=>by
  rw [ets] at hx
  simp only [List.mem_cons,List.not_mem_nil,or_false] at hx
  rcases hx with rfl | rfl | rfl | rfl | rfl
  ·xt Sh.cat (k:=0) l1' (o50 _) a1 pa
  ·xt s1.cut _ _
  ·xt s1.cut _ _
  ·xt Sh.cat (k:=0) (o50 _) l1' pb a1
  ·xt Sh.up ω a1
 have ts5:ts.length = 5:=by rw [ets]; rfl
 obtain ⟨fs,efs⟩ : ∃ fs:List Str,fs = (ts ++ nJ).filter fun t=>!decide (t∈names) && !decide (t = ("" : Str)):=⟨_,rfl⟩
 have fin:∀ x∈fs,x∉names∧Sh x:=fun x hx=>by
  rw [efs] at hx
  ob ⟨h1,h2⟩:=List.mem_filter.mp hx
  rw [Bool.and_eq_true,Bool.not_eq_true',Bool.not_eq_true'] at h2
  rf ⟨of_decide_eq_false h2.1,?_⟩
  rcases List.mem_append.mp h1 with h | h
  ·xt tsh x h
  ·xt Td x h
 have aeY:1≤fs.length:=by
  rcases Nat.eq_zero_or_pos fs.length with h | h
  ·exfalso
   have all:∀ x∈nJ,x∈names:=fun x hx=>by
    by_cases hn:x∈names
    ·xt hn
    ·have:x∈fs:=by
      rw [efs]
      rf List.mem_filter.mpr ⟨List.mem_append_right _ hx,?_⟩
      rw [decide_eq_false hn,decide_eq_false (show x≠("" : Str) from Te x hx)]; rfl
     rw [List.length_eq_zero_iff.mp h] at this
     xt nomatch this
   have:=eZ Tf all
   rw [pM] at this; omega
  ·xt h
 have aeZ:fs.length≤31:=by
  rw [efs]
  rf Nat.le_trans (List.length_filter_le _ _) ?_
  rw [List.length_append,ts5,pM]; decide
 have adK:0 < min (5:Int) (fs.length:Int):=by omega
 have z0:=Int.emod_nonneg (d / 3) (b:=min (5:Int) (fs.length:Int)) ω
 have z1:=Int.emod_lt_of_pos (d / 3) (b:=min (5:Int) (fs.length:Int)) ω
 have zix:=yM (cs:=fs) z0 ω
 have zm:fs.getD (d / 3 % min (5:Int) (fs.length:Int)).toNat Str.empty∈fs:=lW ω
 rf ⟨fs.getD (d / 3 % min (5:Int) (fs.length:Int)).toNat Str.empty,?_,(fin _ zm).1,(fin _ zm).2⟩
 unfold cH v9
 rw [vW]
 rw [show ([§(aP names),§(.int d)] ++ List.replicate (5 - 2) none) = [§(aP names),§(.int d),none,none,none] from rfl]
 have hlen:∀ e:Mi.Env,mV 0 e = .ok (aP names)→mN iR [(mV 0)] e = .ok (.int (names.length:Int)):=fun e h=>(iI h).trans (by unfold aP; rw [MK,List.length_map])
 rw [aM (e':=[§(aP names),§(.int d),§(.str one),none,none]) (bD (aG rfl (aG rfl (hlen _ rfl) ((mX _ _).trans (ak ω))) hone))]
 rw [aM (e':=[§(aP names),§(.int d),§(.str one),§(.str ug),none]) (bD rfl)]
 have dv:∀ (k:Int) (e:Mi.Env),0 < k→k < 2 ^ 64→mV 1 e = .ok (.int d)→m2 bT (m2 dC (mV 1) (mC (.int k))) (mC (.int 26)) e = .ok (.int (d / k % 26)):=fun k e k0 k1 h=>aG (aG h rfl ((div_ii _ _).trans (ak (c7 k0 k1)))) rfl ((mX _ _).trans (ak δ))
 have five:=ZW (e:=[§(aP names),§(.int d),§(.str one),§(.str ug),none])
  (aG (a:=mV 2) (b:=m2 dU (mV 3) (m2 bT (m2 dC (mV 1) (mC (.int 8))) (mC (.int 26)))) rfl (aG rfl (dv 8 _ δ δ rfl) xa) ((Lh _ _).trans (ak (by have:=o50 ca; omega))))
  ((Ze (f:=IV) (a:=mV 2) (b:=mC (.int 1)) rfl rfl).trans ((Zg _ _ _).trans (ak ω)))
  ((Zd (f:=IV) (a:=mV 2) (b:=m1 W7 (mC (.int 1))) rfl rfl).trans ((Zg _ _ _).trans (ak ω)))
  (aG (a:=m2 dU (mV 3) (m2 bT (m2 dC (mV 1) (mC (.int 5))) (mC (.int 26)))) (b:=mV 2) (aG rfl (dv 5 _ δ δ rfl) xb) rfl ((Lh _ _).trans (ak (by have:=o50 cb; omega))))
  ((acb (f:=K4) (a:=mV 2) (x:=.str one) rfl).trans (ak (by have:(QW one).length≤3 * one.length:=PyProof.Rows.len_upper one; omega)))
 rw [show ([D.str (one ++ Hy ca),.str (j8 one (some 1) none),.str (j8 one none (some (-1))),.str (Hy cb ++ one),.str (QW one)]:List D) = ts.map D.str from by rw [ets]; rfl] at five
 rw [aM (e':=[§(aP names),§(.int d),§(.str one),§(.str ug),§(aP ts)]) (bD five)]
 have cl:eX (.n 0) jq (mV 0) [none] (nJ.map D.str) = .ok ((nJ.filter fun _=>true).map D.str):=fM D.str D.str (fun _=>true) _ fun t _=>⟨[§(.str t)],rfl,rfl,fun _=>rfl⟩
 rw [List.filter_eq_self.mpr (fun _ _=>rfl)] at cl
 have hl5:=fB (ρ:=[none]) (e:=[§(aP names),§(.int d),§(.str one),§(.str ug),§(aP ts)]) (it:=uh (mV 3)) (xs:=nJ.map D.str) (gV (a:=mV 3) (x:=.str ug) rfl (by show Rs.ok _ = _; unfold nJ; rw [List.map_map]; rfl)) (by rw [List.length_map,pM]; decide) cl
 rw [aM (e':=[§(aP names),§(.int d),§(.str one),§(.str ug),§(aP (ts ++ nJ))])
  (bD (aG (x:=aP ts) rfl hl5 ((Gx _ _).trans ((ak (by rw [List.length_map,List.length_map,ts5,pM]; decide)).trans (by unfold aP; rw [List.map_append])))))]
 have cf:eX (.n 1) (sU (cB (m2 dB (mV 1) (mV 0))) (cB (m2 GQ (mV 1) (mC (.str ""))))) (mV 1) [§(aP names),none] ((ts ++ nJ).map D.str) = .ok (((ts ++ nJ).filter fun t=>!decide (t∈names) && !decide (t = ("" : Str))).map D.str) :=
  fM D.str D.str _ _ fun t _=>⟨[§(aP names),§(.str t)],rfl,Nu (cU (aG rfl rfl (uW names t))) fun _=>cU (aG rfl rfl (W8 t "")),fun _=>rfl⟩
 rw [← efs] at cf
 rw [aM (e':=[§(aP names),§(.int d),§(.str one),§(.str ug),§(aP fs)])
  (bD (fB (ρ:=[some 0,none]) (gV (a:=mV 4) (x:=aP (ts ++ nJ)) rfl rfl) (by rw [List.length_map,List.length_append,ts5,pM]; decide) cf))]
 have hln:∀ e:Mi.Env,mV 4 e = .ok (aP fs)→mN BW [(mC (.int 5)),(mN iR [(mV 4)])] e = .ok (.int (min (5:Int) (fs.length:Int))):=fun e h=>(HJ rfl ((iI h).trans (by unfold aP; rw [MK,List.length_map]))).trans (Kr _ _)
 rw [fH (cC (aG (x:=aP fs) rfl (aG (aG rfl rfl ((div_ii _ _).trans (ak (c7 δ δ)))) (hln _ rfl) ((mX _ _).trans (ak adK))) zix))]
 rfl
theorem xX {α : Type} (f:α→Nat):∀ (l m:List α),l.Pairwise (fun a b=>f a < f b)→m.Pairwise (fun a b=>f a < f b)→(∀ x,x∈l↔x∈m)→l = m
 | [],[],_,_,_=>rfl
 | [],b :: t,_,_,h=>nomatch (h b).mpr (List.mem_cons_self ..)
 | a :: r,[],_,_,h=>nomatch (h a).mp (List.mem_cons_self ..)
 | a :: r,b :: t,hl,hm,h=>by
  have l1:=List.pairwise_cons.mp hl
  have m1:=List.pairwise_cons.mp hm
  have e:a = b:=by
   rcases List.mem_cons.mp ((h a).mp (List.mem_cons_self ..)) with z | z
   ·xt z
   ·rcases List.mem_cons.mp ((h b).mpr (List.mem_cons_self ..)) with y | y
    ·xt y.symm
    ·have k1:=m1.1 a z
     have k2:=l1.1 b y
     omega
  subst e
  rw [xX f r t l1.2 m1.2 fun x=>⟨fun hx=>by
   rcases List.mem_cons.mp ((h x).mp (List.mem_cons_of_mem _ hx)) with z | z
   ·have:=l1.1 x hx; rw [z] at this; omega
   ·xt z,fun hx=>by
   rcases List.mem_cons.mp ((h x).mpr (List.mem_cons_of_mem _ hx)) with z | z
   ·have:=m1.1 x hx; rw [z] at this; omega
   ·xt z⟩]
def aeI (aa:List Ar) (x:Str):List Str:=(aa.filter fun p=>decide (p.1 = x)).map (·.2)
end Mr
namespace Mr
open PySem Mi
open My (words Gy fV)
theorem yt {names:List Str} (h1:1≤names.length) (h8:names.length≤8) (nd:names.Nodup) (hw:∀ x∈names,d9 [.d (.str x)] = .ok (.d (.bl true))):dh [.d (gf names)] = .ok (.d .non):=by
 unfold dh lC
 rw [Ua]
 ob ⟨e',f1,o2,he⟩:=kO (tg:=.n 2) (body:=(aY (iz (qC (cB (aZ d9 [(wD (mV 2))])))
 ji
 bB)
 (aY (iz (cB (BJ 1 (mV 2)))
 ji
 bB)
 (lO 1 (mV 2) (mC (.bl true))))))
  (fun i e=>∃ o2:Option W,e = [§(gf names),some (PQ (names.take i)),o2]) (names.map D.str) 0 (fun i d e hi ⟨o2,he⟩=>by
   subst he
   rw [Nat.zero_add]
   rw [List.getElem?_map] at hi
   ob ⟨x,hx,rfl⟩:=Option.map_eq_some_iff.mp hi
   have hn:=Q3 nd hx
   rf ⟨[§(gf names),some (PQ (names.take i)),§(.str x)],[§(gf names),some (PQ (names.take (i + 1))),§(.str x)],rfl,?_,_,rfl⟩
   rw [aM (e':=[§(gf names),some (PQ (names.take i)),§(.str x)]) ((dI (z7 (Dh rfl (hw x (List.mem_of_getElem? hx))))).trans rfl)]
   rw [aM (e':=[§(gf names),some (PQ (names.take i)),§(.str x)]) ((dI (cU ((acI (y:=x) (fs:=names.take i) rfl rfl).trans (by rw [decide_eq_false hn])))).trans rfl)]
   rw [aas (y:=x) (fs:=names.take i) rfl rfl hn (by rw [List.length_take]; omega)]
   rw [List.take_succ,hx]; rfl) [§(gf names),some (PQ []),none] ⟨none,rfl⟩
 subst he
 rw [show ([§(gf names)] ++ List.replicate (3 - 1) none) = [§(gf names),none,none] from rfl]
 have hl:mN iR [(mV 0)] [§(gf names),none,none] = .ok (.int ((names.length:Nat):Int)):=(iI (x:=gf names) rfl).trans (by show Rs.ok (D.int (((names.map D.str).length:Nat):Int)) = _; rw [List.length_map])
 rw [aM ((dI (z7 (Jb (i:=1) (k:=8) rfl hl rfl ω ω))).trans rfl)]
 rw [aM (e':=[§(gf names),some (PQ []),none]) rfl]
 rw [j6 (gV (x:=gf names) rfl rfl),f1]
 rfl
theorem yr {names:List Str} {xs:List Ar} (P:Apart names xs) (hl:xs.length≤64):dg [.d (gf names),.d (jB xs)] = .ok (.d .non):=by
 unfold dg lB
 rw [vW]
 ob ⟨e',f1,o3,o4,he⟩:=kO (tg:=.t [3,4]) (body:=(aY (rT (aZ bh [(wD (mV 0)),(wD (mN gm [(mV 3),(mV 4)]))]))
 (aY (iz (cB (m2 sS (mV 3) (mV 4)))
 ji
 bB)
 (aY (iz (cB (BJ 2 (mN dTup [(mV 3),(mV 4)])))
 ji
 bB)
 (aY (lO 2 (mN dTup [(mV 3),(mV 4)]) (mC (.bl true)))
 (lO 2 (mN dTup [(mV 4),(mV 3)]) (mC (.bl true))))))))
  (fun i e=>∃ o3 o4:Option W,e = [§(gf names),§(jB xs),some (Ug (both (xs.take i))),o3,o4]) (xs.map pairD) 0 (fun i d e hi ⟨o3,o4,he⟩=>by
   subst he
   rw [Nat.zero_add]
   rw [List.getElem?_map] at hi
   ob ⟨p,hp,rfl⟩:=Option.map_eq_some_iff.mp hi
   have hpm:=List.mem_of_getElem? hp
   have il:=(List.getElem?_eq_some_iff.mp hp).1
   have before:∀ q∈xs.take i,q≠p∧q≠(p.2,p.1):=fun q hq=>by
    ob ⟨j,hj⟩:=List.getElem?_of_mem hq
    have hj2:=(List.getElem?_eq_some_iff.mp hj).1
    rw [List.length_take] at hj2
    rw [List.getElem?_take_of_lt ω] at hj
    ob ⟨jl,hje⟩:=List.getElem?_eq_some_iff.mp hj
    ob ⟨_,hpe⟩:=List.getElem?_eq_some_iff.mp hp
    have:=List.pairwise_iff_getElem.mp P.pw j i jl il ω
    rw [hje,hpe] at this; xt this
   have n1:p∉both (xs.take i):=fun z=>by
    ob ⟨q,hq,e | e⟩:=HS.mp z
    ·xt (before q hq).1 e.symm
    ·xt (before q hq).2 (by rw [e])
   have n2:(p.2,p.1)∉both (xs.take i) ++ [p]:=fun z=>by
    rcases List.mem_append.mp z with z | z
    ·ob ⟨q,hq,e | e⟩:=HS.mp z
     ·xt (before q hq).2 e.symm
     ·xt (before q hq).1 (by rw [Prod.ext_iff] at e; simp at e; xt Prod.ext e.2.symm e.1.symm)
    ·have:=List.mem_singleton.mp z
     xt P.irr p hpm (congrArg Prod.snd this)
   have hb:(both (xs.take i)).length≤200:=by rw [UL,List.length_take]; omega
   have hst:bh [.d (gf names),.d (aP [p.1,p.2])] = .ok (.d .non):=wU fun x hx=>by
    rcases List.mem_cons.mp hx with rfl | hx
    ·xt (P.inn p hpm).1
    ·rw [List.mem_singleton.mp hx]; xt (P.inn p hpm).2
   rf ⟨[§(gf names),§(jB xs),some (Ug (both (xs.take i))),§(.str p.1),§(.str p.2)],[§(gf names),§(jB xs),some (Ug (both (xs.take (i + 1)))),§(.str p.1),§(.str p.2)],rfl,?_,_,_,rfl⟩
   rw [aM (Az (call2 rfl (cC (Pa rfl rfl)) hst))]
   rw [aM ((dI (cU (aG rfl rfl ((yO p.1 p.2).trans (by rw [decide_eq_false (P.irr p hpm)]))))).trans rfl)]
   rw [aM ((dI (cU ((acH (p:=p) (ps:=both (xs.take i)) (oZ rfl rfl) rfl).trans (by rw [decide_eq_false n1])))).trans rfl)]
   rw [aM (Uh (p:=p) (ps:=both (xs.take i)) (oZ rfl rfl) rfl n1 ω)]
   rw [Uh (p:=(p.2,p.1)) (ps:=both (xs.take i) ++ [p]) (oZ rfl rfl) rfl n2 (by rw [List.length_append]; simp; omega)]
   rw [List.take_succ,hp]
   unfold both
   rw [List.flatMap_append,List.append_assoc]; rfl) [§(gf names),§(jB xs),some (Ug (both [])),none,none] ⟨none,none,rfl⟩
 subst he
 rw [show ([§(gf names),§(jB xs)] ++ List.replicate (5 - 2) none) = [§(gf names),§(jB xs),none,none,none] from rfl]
 rw [aM (e':=[§(gf names),§(jB xs),some (Ug (both [])),none,none]) rfl]
 rw [j6 (gV (x:=jB xs) rfl rfl),f1]
 rfl
theorem Tc {names:List Str} {A:List Ix} {r:Nat→Int} (N:nq names A r) (hw:∀ x∈names,d9 [.d (.str x)] = .ok (.d (.bl true))) {xs:List Ar} (hp:xs.Perm (A.map (arrOf names))) :
 gU [.d (gf names),.d (jB xs)] = .ok (.d (bx names (A.map (arrOf names)))):=by
 have P:=N.apart.perm hp
 have hl:xs.length≤56:=by rw [hp.length_eq,List.length_map]; xt N.few
 unfold gU Bg
 rw [vW]
 rw [show ([§(gf names),§(jB xs)] ++ List.replicate (4 - 2) none) = [§(gf names),§(jB xs),none,none] from rfl]
 rw [aM (Az (Dh rfl (yt N.pos N.le N.nd hw)))]
 rw [aM (Az (call2 rfl rfl (yr P ω)))]
 have hc:eX (.t [0,1]) jq (mN dTup [(mV 0),(mV 1)]) [none,none] (xs.map pairD) = .ok ((xs.filter fun _=>true).map pairD) :=
  fM pairD pairD (fun _=>true) xs fun p _=>⟨[§(.str p.1),§(.str p.2)],rfl,rfl,fun _=>oZ rfl rfl⟩
 rw [List.filter_eq_self.mpr (fun _ _=>rfl)] at hc
 rw [aM (e':=[§(gf names),§(jB xs),§(jB xs),none]) (bD (fB (ρ:=[none,none]) (gV (x:=jB xs) rfl rfl) (by rw [List.length_map]; omega) hc))]
 have hs:gr [.d (gf names),.d (jB xs)] = .ok (.d (jB (A.map (arrOf names)))) :=
  Rr (nx:=gf names) (sY names) (by have:=N.le; omega) rw2 (fun p hpx=>⟨by show 2≤1000; omega,fun y hy=>by
   simp only [rw2,List.mem_cons,List.not_mem_nil,or_false] at hy
   rcases hy with rfl | rfl
   ·xt (P.inn p hpx).1
   ·xt (P.inn p hpx).2⟩) ω (by
    show List.Pairwise _ _
    rw [List.pairwise_map]
    rf List.Pairwise.imp_of_mem (fun {p q} hpx hqx h z=>h.1 ?_) P.pw
    simp only [ky,rw2,List.map_cons,List.map_nil,List.cons.injEq,and_true] at z
    xt Prod.ext (Ng (P.inn p hpx).1 (P.inn q hqx).1 ω) (Ng (P.inn p hpx).2 (P.inn q hqx).2 ω)) (fun p=>hp.mem_iff) N.sorted
 rw [aM (e':=[§(gf names),§(jB xs),§(jB xs),§(bx names (A.map (arrOf names)))])
  (bD (oZ (x:=gf names) (y:=Le (A.map (arrOf names))) ((iI (x:=gf names) rfl).trans rfl) ((iI (call2 rfl rfl hs)).trans rfl)))]
 rw [aM (Az (Dh rfl (V6 N.kJ)))]
 rw [fH (cC rfl)]
 rfl
end Mr
namespace Mr
open PySem Mi
open My (words Gy fV)
def ixs (names:List Str) (B:List Ar):List Ix:=(List.range names.length).flatMap fun i=>((List.range names.length).filter fun j=>decide ((nth names i,nth names j)∈B)).map fun j=>(i,j)
theorem Cu (names:List Str):(List.range names.length).map (nth names) = names:=by
 rf List.ext_getElem (by rw [List.length_map,List.length_range]) fun i h1 h2=>?_
 rw [List.getElem_map,List.getElem_range]
 unfold nth
 rw [List.getD_eq_getElem?_getD,List.getElem?_eq_getElem h2]; rfl
theorem yL (names:List Str) (B:List Ar):(ixs names B).map (arrOf names) = nA names B:=by
 unfold ixs nA
 rw [qi]
 have e:names.flatMap (fun t=>(names.filter fun h=>decide ((t,h)∈B)).map fun h=>(t,h)) = ((List.range names.length).map (nth names)).flatMap (fun t=>(names.filter fun h=>decide ((t,h)∈B)).map fun h=>(t,h)):=by rw [Cu]
 rw [e,List.flatMap_map]
 rf fY fun i _=>?_
 have e2:names.filter (fun h=>decide ((nth names i,h)∈B)) = ((List.range names.length).map (nth names)).filter (fun h=>decide ((nth names i,h)∈B)):=by rw [Cu]
 rw [e2,List.filter_map,List.map_map,List.map_map]
 rfl
theorem yJ {names:List Str} {B:List Ar} {p:Ix}:p∈ixs names B↔p.1 < names.length∧p.2 < names.length∧(nth names p.1,nth names p.2)∈B:=by
 unfold ixs
 rw [List.mem_flatMap]
 constructor
 ·rintro ⟨i,hi,h⟩
  ob ⟨j,hj,rfl⟩:=List.mem_map.mp h
  ob ⟨h1,h2⟩:=List.mem_filter.mp hj
  xt ⟨List.mem_range.mp hi,List.mem_range.mp h1,of_decide_eq_true h2⟩
 ·rintro ⟨h1,h2,h3⟩
  xt ⟨p.1,List.mem_range.mpr h1,List.mem_map.mpr ⟨p.2,List.mem_filter.mpr ⟨List.mem_range.mpr h2,decide_eq_true h3⟩,rfl⟩⟩
theorem nq.ZM {names:List Str} {B:List Ar} (nd:names.Nodup) (h1:1≤names.length) (h8:names.length≤8) (R:Rk B):∃ r,nq names (ixs names B) r:=by
 ob ⟨k,hk⟩:=R
 rf ⟨fun i=>k (nth names i),nd,h1,h8,?_,fun p hp=>?_,?_⟩
 ·unfold ixs
  rw [List.pairwise_flatMap]
  rf ⟨fun i _=>?_,?_⟩
  ·rw [List.pairwise_map]
   rf (List.Pairwise.filter _ List.pairwise_lt_range).imp fun {a b} h=>?_
   xt .inr ⟨rfl,h⟩
  ·rf List.pairwise_lt_range.imp fun {a b} h=>?_
   intro x hx y hy
   ob ⟨j,_,rfl⟩:=List.mem_map.mp hx
   ob ⟨j',_,rfl⟩:=List.mem_map.mp hy
   xt .inl h
 ·ob ⟨a,b,c⟩:=yJ.mp hp
  xt ⟨a,b,hk _ c⟩
 ·have:=Ef h8 B
  rw [← yL,List.length_map] at this
  xt this
theorem uN {α : Type} [DecidableEq α]:∀ {l m:List α},l.Nodup→m.Nodup→(∀ x,x∈l↔x∈m)→l.Perm m
 | [],m,_,_,h=>by
  cases m with
  | nil=>xt .nil
  | cons a r=>xt nomatch (h a).mpr (List.mem_cons_self ..)
 | a :: r,m,hl,hm,h=>by
  have l1:=List.nodup_cons.mp hl
  have ha:=(h a).mp (List.mem_cons_self ..)
  have p:=List.perm_cons_erase ha
  rf (List.Perm.cons a (uN l1.2 (hm.erase a) fun x=>?_)).trans p.symm
  rw [hm.mem_erase_iff]
  constructor
  ·xt fun hx=>⟨fun z=>l1.1 (z ▸ hx),(h x).mp (List.mem_cons_of_mem _ hx)⟩
  ·rintro ⟨h1,h2⟩
   rcases List.mem_cons.mp ((h x).mpr h2) with z | z
   ·xt absurd z h1
   ·xt z
theorem Ck {names:List Str} (nd:names.Nodup) (h8:names.length≤8) (B:List Ar):(nA names B).Nodup:=by
 rw [← yL]
 rf List.pairwise_map.mpr (List.Pairwise.imp_of_mem (R:=iD) (fun {p q} hp hq h z=>?_) ?_)
 ·ob ⟨a,b,_⟩:=yJ.mp hp
  ob ⟨c,d,_⟩:=yJ.mp hq
  have e1:=jJ nd a c (congrArg Prod.fst z)
  have e2:=jJ nd b d (congrArg Prod.snd z)
  rcases h with h | ⟨_,h⟩ <;> omega
 ·unfold ixs
  rw [List.pairwise_flatMap]
  rf ⟨fun i _=>?_,?_⟩
  ·rw [List.pairwise_map]
   xt (List.Pairwise.filter _ List.pairwise_lt_range).imp fun {a b} h=>.inr ⟨rfl,h⟩
  ·rf List.pairwise_lt_range.imp fun {a b} h=>?_
   intro x hx y hy
   ob ⟨j,_,rfl⟩:=List.mem_map.mp hx
   ob ⟨j',_,rfl⟩:=List.mem_map.mp hy
   xt .inl h
structure Gd (names:List Str) (aa:List Ar):Prop where
 nd:names.Nodup
 pos:1≤names.length
 le:names.length≤8
 rk:Rk aa
 nA:nA names aa = aa
 wd:∀ x∈names,d9 [.d (.str x)] = .ok (.d (.bl true))
theorem Gd.inn {names:List Str} {aa:List Ar} (G:Gd names aa):∀ p∈aa,p.1∈names∧p.2∈names:=fun p hp=>by
 rw [← G.nA] at hp
 xt (tV.mp hp).2
theorem Gd.al {names:List Str} {aa:List Ar} (G:Gd names aa):aa.length≤64:=by
 rw [← G.nA]; xt Ef G.le _
theorem Gd.nodup {names:List Str} {aa:List Ar} (G:Gd names aa):aa.Nodup:=by
 rw [← G.nA]; xt Ck G.nd G.le _
theorem VV {names:List Str} {B:List Ar}:nA names (nA names B) = nA names B:=by
 unfold nA
 rf fY fun t ht=>?_
 congr 1
 rf List.filter_congr fun h hh=>?_
 rw [decide_eq_decide]
 xt ⟨fun z=>(tV.mp z).1,fun z=>tV.mpr ⟨z,ht,hh⟩⟩
theorem Gd.of {names:List Str} {B:List Ar} (nd:names.Nodup) (h1:1≤names.length) (h8:names.length≤8) (wd:∀ x∈names,d9 [.d (.str x)] = .ok (.d (.bl true))) (R:Rk B):Gd names (Mr.nA names B) :=
 ⟨nd,h1,h8,R.sub fun p hp=>(tV.mp hp).1,VV,wd⟩
theorem Oh {names:List Str} {A B:List Ar} (h:∀ p,p.1∈names→p.2∈names→(p∈A↔p∈B)):nA names A = nA names B:=by
 unfold nA
 rf fY fun t ht=>?_
 congr 1
 rf List.filter_congr fun x hx=>?_
 rw [decide_eq_decide]
 xt h (t,x) ht hx
theorem Gd.made {names:List Str} {aa:List Ar} (G:Gd names aa) {xs:List Ar} (hp:xs.Perm aa):gU [.d (gf names),.d (jB xs)] = .ok (.d (bx names aa)):=by
 ob ⟨r,N⟩:=nq.ZM G.nd G.pos G.le G.rk
 have e:(ixs names aa).map (arrOf names) = aa:=by rw [yL,G.nA]
 have:=Tc N G.wd (xs:=xs) (by rw [e]; xt hp)
 rw [e] at this
 xt this
theorem Gd.G7 {names:List Str} {aa:List Ar} (G:Gd names aa) {t h:Str} (ha:(t,h)∈aa):(h,t)∉aa:=fun z=>by
 ob ⟨k,hk⟩:=G.rk
 have h1:=hk _ ha
 have h2:=hk _ z
 simp only at h1 h2
 omega
theorem Gd.yh {names:List Str} {aa:List Ar} (G:Gd names aa) {t h:Str} (ha:(t,h)∈aa) (hc:cov aa (t,h) = true):Gd names (Mr.nA names (Mr.yh (t,h) aa)):=by
 rf Gd.of G.nd G.pos G.le G.wd (X5 (names:=names) (fun p hp=>?_) ?_)
 ·rcases (vM ha).mp hp with ⟨h1,_⟩ | rfl
  ·xt G.inn p h1
  ·xt ⟨(G.inn _ ha).2,(G.inn _ ha).1⟩
 ·have:=QZ G.nd G.inn G.rk ha
  rw [show dG (bA aa h) (bA aa t ++ [t]) = true from hc] at this
  have:=this.symm
  rw [Bool.and_eq_true,Bool.not_eq_true'] at this
  xt this.1
theorem Gd.others {names:List Str} {aa:List Ar} (G:Gd names aa) {t h:Str} (ha:(t,h)∈aa):((aa.filter fun p=>!decide (p = (t,h))) ++ [(h,t)]).Perm (Mr.nA names (Mr.yh (t,h) aa)):=by
 rf uN ?_ (Ck G.nd G.le _) fun p=>?_
 ·rw [List.nodup_append]
  rf ⟨G.nodup.filter _,(by simp),fun p hp q hq z=>?_⟩
  rw [List.mem_singleton.mp hq] at z
  rw [z] at hp
  xt G.G7 ha (List.mem_filter.mp hp).1
 ·rw [tV,vM ha,List.mem_append,List.mem_filter,List.mem_singleton]
  constructor
  ·rintro (⟨h1,h2⟩ | rfl)
   ·xt ⟨.inl ⟨h1,fun z=>by rw [decide_eq_true z] at h2; cases h2⟩,G.inn p h1⟩
   ·xt ⟨.inr rfl,(G.inn _ ha).2,(G.inn _ ha).1⟩
  ·rintro ⟨⟨h1,h2⟩ | rfl,_⟩
   ·xt .inl ⟨h1,by rw [decide_eq_false h2]; rfl⟩
   ·xt .inr rfl
theorem Um (p q:Ar):GQ (pairD p) (pairD q) = .ok (.bl (!decide (p = q))):=by
 unfold GQ
 rw [ak (by have:=tY [p]; simp only [List.map_cons,List.map_nil,sO] at this; omega),Cv]
theorem lZ (aa:List Ar) (p:Ar):dB (pairD p) (Le aa) = .ok (.bl (!decide (p∈aa))):=by
 have h:=vY aa p
 xt h
theorem Ci {names:List Str} {aa:List Ar} (G:Gd names aa) {t h:Str} (ha:(t,h)∈aa) (hc:cov aa (t,h) = true):iC [.d (bx names aa),.d (.str t),.d (.str h)] = .ok (.d (bx names (nA names (yh (t,h) aa)))):=by
 have hal:=G.al
 ob ⟨ht,hh⟩:=G.inn _ ha
 unfold iC v8
 rw [Iu]
 rw [show ([§(bx names aa),§(.str t),§(.str h)] ++ List.replicate (6 - 3) none) = [§(bx names aa),§(.str t),§(.str h),none,none,none] from rfl]
 rw [aM (e':=[§(bx names aa),§(.str t),§(.str h),§(gf names),§(Le aa),none]) rfl]
 have hr:bh [.d (gf names),.d (aP [t,h])] = .ok (.d .non):=wU fun x hx=>by
  rcases List.mem_cons.mp hx with rfl | hx
  ·xt ht
  ·rw [List.mem_singleton.mp hx]; xt hh
 rw [aM (Az (call2 rfl (cC (Pa rfl rfl)) hr))]
 rw [aM ((dI (cU ((aG (oZ rfl rfl) rfl (lZ aa (t,h))).trans (by rw [decide_eq_true ha]; rfl)))).trans rfl)]
 rw [aM ((dI (z7 ((Dg rfl rfl rfl (Uz hal ht hh)).trans (by rw [hc])))).trans rfl)]
 have cm:eX (.n 2) (cB (m2 GQ (mV 2) (mN dTup [(mV 0),(mV 1)]))) (mV 2) [§(.str t),§(.str h),none] (aa.map pairD) = .ok ((aa.filter fun p=>!decide (p = (t,h))).map pairD) :=
  fM pairD pairD (fun p=>!decide (p = (t,h))) aa fun p _=>⟨[§(.str t),§(.str h),§(pairD p)],rfl,cU (aG rfl (oZ rfl rfl) (Um p (t,h))),fun _=>rfl⟩
 rw [aM (e':=[§(bx names aa),§(.str t),§(.str h),§(gf names),§(Le aa),§(jB (aa.filter fun p=>!decide (p = (t,h))))])
  (bD (fB (ρ:=[some 1,some 2,none]) (gV (a:=mV 4) (x:=Le aa) rfl rfl) (by rw [List.length_map]; omega) cm))]
 have hl:(aa.filter fun p=>!decide (p = (t,h))).length≤64:=Nat.le_trans (List.length_filter_le _ _) hal
 rw [fH (cC (call2 (x:=.d (gf names)) (y:=.d (jB ((aa.filter fun p=>!decide (p = (t,h))) ++ [(h,t)]))) rfl (cC (aG (x:=jB (aa.filter fun p=>!decide (p = (t,h)))) rfl (Ww (oZ rfl rfl)) ((Gx _ _).trans ((ak (by rw [List.length_map]; xt Nat.le_trans (Nat.add_le_add_right (Nat.le_trans (List.length_filter_le _ _) hal) _) (by show 64 + 1≤16777216; decide))).trans (by unfold jB; rw [List.map_append]; rfl))))) ((G.yh ha hc).made (G.others ha))))]
 rfl
abbrev xNa:yE:=⟨"NoArrow", []⟩
abbrev xLk:yE:=⟨"Locked", []⟩
theorem JH {names:List Str} {aa:List Ar} {t h:Str} (hn:t∉names∨h∉names) (st:Sh t) (sh:Sh h):cD [.d (bx names aa),.d (.str t),.d (.str h)] = .ex xNo:=by
 unfold cD kW
 rw [Iu]
 rw [show ([§(bx names aa),§(.str t),§(.str h)] ++ List.replicate (6 - 3) none) = [§(bx names aa),§(.str t),§(.str h),none,none,none] from rfl]
 rw [aM (e':=[§(bx names aa),§(.str t),§(.str h),§(gf names),§(Le aa),none]) rfl]
 rw [J0 (Qn (x:=.d (gf names)) (y:=.d (aP [t,h])) rfl (cC (Pa rfl rfl)) (Vz (by
  rcases hn with z | z
  ·xt ⟨t,List.mem_cons_self ..,z⟩
  ·xt ⟨h,by simp,z⟩) fun z hz=>by
   rcases List.mem_cons.mp hz with rfl | hz
   ·xt st
   ·rw [List.mem_singleton.mp hz]; xt sh))]
 rfl
theorem Qm {f:Fn} {a b:EW} {e:Mi.Env} {x y w:W} (h:a e = .ok x) (h':b e = .ok y) (hf:f [x,y] = .ok w):mL f [a,b] e = .ok (.nx e):=by
 unfold mL
 rw [bM,h,aD,bM,h',aD,bM,aD]
 show ((f [x,y]).bind fun _=>_) = _
 rw [hf]; rfl
theorem vg {names:List Str} {aa:List Ar} {t h:Str} (ht:t∈names) (hh:h∈names) (rest:S) :
 aY (sP (Rp (.t [3,4]) (mV 0))) (aY (mL bL [(wD (mV 3)),(wD (mN gm [(mV 1),(mV 2)]))]) rest) [§(bx names aa),§(.str t),§(.str h),none,none,none] =
  rest [§(bx names aa),§(.str t),§(.str h),§(gf names),§(Le aa),none]:=by
 rw [aM (e':=[§(bx names aa),§(.str t),§(.str h),§(gf names),§(Le aa),none]) rfl]
 xt aM (Qm (x:=.d (gf names)) (y:=.d (aP [t,h])) rfl (cC (Pa rfl rfl)) (JM fun x hx=>by
  rcases List.mem_cons.mp hx with rfl | hx
  ·xt ht
  ·rw [List.mem_singleton.mp hx]; xt hh))
theorem JK {names:List Str} {aa:List Ar} {t h:Str} (ht:t∈names) (hh:h∈names) (hn:(t,h)∉aa) (st:Sh t) (sh:Sh h):cD [.d (bx names aa),.d (.str t),.d (.str h)] = .ex xNa:=by
 unfold cD kW
 rw [Iu]
 rw [show ([§(bx names aa),§(.str t),§(.str h)] ++ List.replicate (6 - 3) none) = [§(bx names aa),§(.str t),§(.str h),none,none,none] from rfl]
 rw [vg ht hh]
 rw [J0 ((jx (Je (cU ((aG (oZ rfl rfl) rfl (lZ aa (t,h))).trans (by rw [decide_eq_false hn]; rfl))))).trans (zN (by
  show (true && (gR 1 _ && (true && (gR 2 _ && true)))) = true
  rw [Im (x:=t) rfl st,Im (x:=h) rfl sh]; rfl)))]
 rfl
theorem JL {names:List Str} {aa:List Ar} (hal:aa.length≤64) {t h:Str} (ht:t∈names) (hh:h∈names) (ha:(t,h)∈aa) (hc:cov aa (t,h) = false) (st:Sh t) (sh:Sh h):cD [.d (bx names aa),.d (.str t),.d (.str h)] = .ex xLk:=by
 unfold cD kW
 rw [Iu]
 rw [show ([§(bx names aa),§(.str t),§(.str h)] ++ List.replicate (6 - 3) none) = [§(bx names aa),§(.str t),§(.str h),none,none,none] from rfl]
 rw [vg ht hh]
 rw [aM ((dI (Je (cU ((aG (oZ rfl rfl) rfl (lZ aa (t,h))).trans (by rw [decide_eq_true ha]; rfl))))).trans rfl)]
 rw [J0 ((jx (Je ((Xi (cU ((Dg rfl rfl rfl (Uz hal ht hh)).trans (by rw [hc])))).trans rfl))).trans (zN (by
  show (true && (gR 1 _ && (true && (gR 2 _ && (true && true))))) = true
  rw [Im (x:=t) rfl st,Im (x:=h) rfl sh]; rfl)))]
 rfl
end Mr
namespace Mr
open PySem Mi
open My (words Gy fV)
theorem yf {aa:List Ar} (hl:aa.length≤64) (x:Str):fc [.d (jB aa),.d (.str x)] = .ok (.d (aP (bA aa x))):=by
 unfold fc Bj
 rw [Ir]
 rw [show ([§(jB aa),§(.str x)] ++ List.replicate (2 - 2) none) = [§(jB aa),§(.str x)] from rfl]
 have hc:eX (.t [1,2]) (cB (m2 sS (mV 2) (mV 0))) (mV 1) [§(.str x),none,none] (aa.map pairD) = .ok ((aa.filter fun p=>decide (p.2 = x)).map fun p=>D.str p.1) :=
  fM pairD (fun p=>D.str p.1) (fun p=>decide (p.2 = x)) aa fun p _=>⟨[§(.str x),§(.str p.1),§(.str p.2)],rfl,cU (aG rfl rfl (yO p.2 x)),fun _=>rfl⟩
 rw [fH (cC (fB (ρ:=[some 1,none,none]) (gV (a:=mV 0) (x:=jB aa) rfl rfl) (by rw [List.length_map]; omega) hc))]
 show Rs.ok (W.d (.lst _)) = _
 unfold bA aP
 rw [List.map_map]; rfl
structure Lk (names:List Str) (aa:List Ar):Prop where
 nd:names.Nodup
 le:names.length≤8
 al:aa.length≤64
 inn:∀ p∈aa,p.1∈names∧p.2∈names
 rk:Rk aa
 nda:aa.Nodup
theorem Gd.lk {names:List Str} {aa:List Ar} (G:Gd names aa):Lk names aa:=⟨G.nd,G.le,G.al,G.inn,G.rk,G.nodup⟩
theorem Lk.qx {names:List Str} {aa:List Ar} (G:Lk names aa) (x:Str):(bA aa x).Nodup:=by
 unfold bA
 rf List.pairwise_map.mpr ((G.nda.filter _).imp_of_mem fun {p q} hp hq h z=>h ?_)
 have h1:=of_decide_eq_true (List.mem_filter.mp hp).2
 have h2:=of_decide_eq_true (List.mem_filter.mp hq).2
 xt Prod.ext z (h1.trans h2.symm)
theorem Lk.j7 {names:List Str} {aa:List Ar} (G:Lk names aa) (x:Str):(bA aa x).length≤8 :=
 Nat.le_trans (eZ (G.qx x) fun y hy=>(G.inn _ (jo.mp hy)).1) G.le
theorem Lk.irr {names:List Str} {aa:List Ar} (G:Lk names aa) (x:Str):(x,x)∉aa:=fun h=>by
 ob ⟨k,hk⟩:=G.rk
 have:=hk _ h
 simp only at this
 omega
def Gj (aa:List Ar) (p:Ar):Bool:=decide (nC (bA aa p.2) = nC (bA aa p.1 ++ [p.1]))
theorem Lk.Gj {names:List Str} {aa:List Ar} (G:Lk names aa) (t h:Str):Mr.Gj aa (t,h) = cov aa (t,h):=by
 have n2:(bA aa t ++ [t]).Nodup:=by
  rw [List.nodup_append]
  rf ⟨G.qx t,(by simp),fun a ha b hb z=>?_⟩
  rw [List.mem_singleton.mp hb] at z
  rw [z] at ha
  xt G.irr t (jo.mp ha)
 have mem:∀ x,x∈bA aa t ++ [t]↔(x,t)∈aa∨x = t:=fun x=>by rw [List.mem_append,jo,List.mem_singleton]
 show decide _ = dG (bA aa h) (bA aa t ++ [t])
 cases hs:dG (bA aa h) (bA aa t ++ [t]) with
 | true =>
  have k:=v5.mp hs
  xt decide_eq_true (Hl.mpr (uN (G.qx h) n2 fun x=>by rw [jo,mem]; xt k x))
 | false =>
  rf decide_eq_false fun z=>?_
  have pm:=Hl.mp z
  have:dG (bA aa h) (bA aa t ++ [t]) = true:=v5.mpr fun x=>by rw [← mem,← jo]; xt pm.mem_iff
  rw [hs] at this; cases this
theorem IW (xs ys:List Str):sS (aP xs) (aP ys) = .ok (.bl (decide (xs = ys))):=by
 unfold sS aP
 rw [ak (by simp),cI,zP]
theorem Hj {xs:List Str} (h:xs.length < 64):sW [aP xs] = .ok (aP (nC xs)):=by
 show (pH (my (xs.map D.str))).bind _ = _
 rw [sY,f9,aD]
 xt ak h
theorem K5 {names:List Str} {aa:List Ar} (G:Lk names aa):ju [.d (jB aa)] = .ok (.d (jB (aa.filter (cov aa)))):=by
 have hal:=G.al
 unfold ju yp
 rw [aam]
 rw [show ([§(jB aa)] ++ List.replicate (4 - 1) none) = [§(jB aa),none,none,none] from rfl]
 have efl:(aa.flatMap fun p=>if Mr.Gj aa p = true then [pairD p] else []) = (aa.filter (cov aa)).map pairD:=by
  rw [sJ (Mr.Gj aa) pairD]
  congr 1
  xt List.filter_congr fun p _=>G.Gj p.1 p.2
 have hfl:(aa.flatMap fun p=>if Mr.Gj aa p = true then [pairD p] else []).length≤64:=by
  rw [efl,List.length_map]; xt Nat.le_trans (List.length_filter_le _ _) hal
 ob ⟨e',f1,o2,o3,he⟩:=vU (tg:=.t [2,3]) (body:=(iz (cB (m2 sS (mN sW [(aZ fc [(wD (mV 0)),(wD (mV 3))])]) (mN sW [(m2 dj (aZ fc [(wD (mV 0)),(wD (mV 2))]) (mN gm [(mV 2)]))])))
 (bV 1 (mN dTup [(mV 2),(mV 3)]))
 bB))
  pairD (fun p=>if Mr.Gj aa p = true then [pairD p] else [])
  (fun acc e=>∃ o2 o3:Option W,e = [§(jB aa),§(.lst acc),o2,o3]) aa [] [§(jB aa),§(.lst []),none,none] (by simp only [List.length_nil]; omega) ⟨none,none,rfl⟩
  (fun p hp acc e hl ⟨o2,o3,he⟩=>by
   subst he
   have l2:=G.j7 p.2
   have l1:=G.j7 p.1
   have hc:cB (m2 sS (mN sW [(aZ fc [(wD (mV 0)),(wD (mV 3))])]) (mN sW [(m2 dj (aZ fc [(wD (mV 0)),(wD (mV 2))]) (mN gm [(mV 2)]))])) [§(jB aa),§(.lst acc),§(.str p.1),§(.str p.2)] = .ok (Mr.Gj aa p) :=
    cU (aG ((iI (call2 rfl rfl (yf hal p.2))).trans (Hj ω))
     ((iI (x:=aP (bA aa p.1 ++ [p.1])) (aG (call2 rfl rfl (yf hal p.1)) (Ww rfl) ((Gx _ _).trans ((ak (by rw [List.length_map]; simp only [List.length_cons,List.length_nil]; omega)).trans (by unfold aP; rw [List.map_append]; rfl))))).trans (Hj (by rw [List.length_append]; simp only [List.length_cons,List.length_nil]; omega)))
     (IW _ _))
   cases hk:Mr.Gj aa p with
   | false =>
    rw [hk] at hc
    rw [if_neg Bool.false_ne_true,List.append_nil]
    xt ⟨[§(jB aa),§(.lst acc),§(.str p.1),§(.str p.2)],_,rfl,(dI hc).trans rfl,_,_,rfl⟩
   | true =>
    rw [hk] at hc
    rw [hk,if_pos rfl] at hl
    rw [if_pos rfl]
    rf ⟨[§(jB aa),§(.lst acc),§(.str p.1),§(.str p.2)],[§(jB aa),§(.lst (acc ++ [pairD p])),§(.str p.1),§(.str p.2)],rfl,?_,_,_,rfl⟩
    xt (jx hc).trans (ud (oZ rfl rfl) rfl (by simp only [List.length_cons,List.length_nil] at hl; omega)))
 subst he
 rw [aM (e':=[§(jB aa),§(.lst []),none,none]) (bD (Tn _))]
 rw [aM ((j6 (gV (a:=mV 0) (x:=jB aa) rfl rfl)).trans f1)]
 unfold jB
 rw [← efl]; rfl
theorem Pj:fQ [.ex "NoName"] = .ok (.d (.lst [.str "NoName"])):=by rfl
theorem Pk:fQ [.ex "NoArrow"] = .ok (.d (.lst [.str "NoArrow"])):=by rfl
theorem Pn:fQ [.ex "Locked"] = .ok (.d (.lst [.str "Locked"])):=by rfl
theorem Zn {kJ t h:D} {c:String} {v:D} (hb:cD [.d kJ,.d t,.d h] = .ex ⟨c,[]⟩) (hc:c∈["NoName", "NoArrow", "Locked"]) (hk:fQ [.ex c] = .ok (.d v)):cW [.d kJ,.d t,.d h] = .ok (.d v):=by
 unfold cW uB
 rw [Iu]
 rw [show ([§kJ,§t,§h] ++ List.replicate (5 - 3) none) = [§kJ,§t,§h,none,none] from rfl]
 rw [aM (e':=[§kJ,§t,§h,§(.lst []),none]) (bD (Tn _))]
 have hh:=bD (i:=3) (Dh (f:=fQ) (a:=wV 4) (e:=[§kJ,§t,§h,§(.lst []),some (.ex c)]) rfl hk)
 rw [aM (e':=[§kJ,§t,§h,§v,none]) (Y4 (z:=⟨c,[]⟩) (o:=.nx [§kJ,§t,§h,§v,some (.ex c)]) (Ql rfl rfl rfl hb) hc hh)]
 rw [fH (cC rfl)]
 rfl
theorem Gd.back {names:List Str} {aa:List Ar} (G:Gd names aa) {t h:Str} (ha:(t,h)∈aa) (hc:cov aa (t,h) = true) :
 (h,t)∈Mr.nA names (Mr.yh (t,h) aa)∧cov (Mr.nA names (Mr.yh (t,h) aa)) (h,t) = true∧Mr.nA names (Mr.yh (h,t) (Mr.nA names (Mr.yh (t,h) aa))) = aa:=by
 ob ⟨ht,hh⟩:=G.inn _ ha
 have ne:t≠h:=fun z=>G.lk.irr t (by rw [← z] at ha; xt ha)
 have mem:∀ p:Ar,p∈Mr.nA names (Mr.yh (t,h) aa)↔(p∈aa∧p≠(t,h))∨p = (h,t):=fun p=>by
  rw [tV,vM ha]
  constructor
  ·xt fun z=>z.1
  ·rintro (z | rfl)
   ·xt ⟨.inl z,G.inn p z.1⟩
   ·xt ⟨.inr rfl,hh,ht⟩
 have m1:(h,t)∈Mr.nA names (Mr.yh (t,h) aa):=(mem _).mpr (.inr rfl)
 have k:=v5.mp (show dG (bA aa h) (bA aa t ++ [t]) = true from hc)
 rf ⟨m1,v5.mpr fun x=>?_,?_⟩
 ·rw [mem,mem,k x]
  constructor
  ·rintro (⟨h1,_⟩ | z)
   ·rf .inl (.inl ⟨.inl h1,fun z=>G.lk.irr t ?_⟩)
    have e:x = t:=congrArg Prod.fst z
    have h1:(x,t)∈aa:=h1
    rw [e] at h1; xt h1
   ·xt .inr (congrArg Prod.fst z)
  ·rintro ((⟨h1 | h1,h2⟩ | z) | z)
   ·xt .inl ⟨h1,fun z=>ne (congrArg Prod.snd z)⟩
   ·xt absurd (by rw [h1]) h2
   ·xt absurd (congrArg Prod.snd z).symm ne
   ·xt .inr (by rw [z])
 ·rw [← G.nA]
  conv=>rhs; rw [G.nA]
  rw [G.nA]
  rf Eq.trans (Oh (B:=aa) fun p h1 h2=>?_) G.nA
  rw [vM m1,mem]
  constructor
  ·rintro (⟨⟨z,_⟩ | z,h2⟩ | rfl)
   ·xt z
   ·xt absurd z h2
   ·xt ha
  ·intro z
   by_cases hp:p = (t,h)
   ·xt .inr hp
   ·xt .inl ⟨.inl ⟨z,hp⟩,fun y=>by rw [y] at z; xt G.G7 ha z⟩
theorem En {names:List Str} {aa:List Ar} (G:Gd names aa) {t h:Str} (st:Sh t) (sh:Sh h):fK [.d (bx names aa),.d (.str t),.d (.str h)] = .ok (.d (.bl true)):=by
 have ret:∀ {c:String} {x:Str},cW [.d (bx names aa),.d (.str t),.d (.str h)] = .ok (.d (.lst [.str x]))→(dJ (wD (m2 sS (aZ cW [(wD (mV 0)),(wD (mV 1)),(wD (mV 2))]) (mN gm [(mC (.str x))])))) [§(bx names aa),§(.str t),§(.str h),none,none] = .ok (.rt (.d (.bl true))):=fun {c x} hr =>
  fH (cC ((aG (Dg rfl rfl rfl hr) (Ww rfl) (IW [x] [x])).trans (by rw [decide_eq_true rfl])))
 unfold fK sV
 rw [Iu]
 rw [show ([§(bx names aa),§(.str t),§(.str h)] ++ List.replicate (5 - 3) none) = [§(bx names aa),§(.str t),§(.str h),none,none] from rfl]
 have c1:=aaA (cU (aG (a:=mV 1) (b:=m2 dU (mV 0) (mC (.int 0))) (e:=[§(bx names aa),§(.str t),§(.str h),none,none]) rfl (aG rfl rfl (ix0 names aa)) (lz names t))) fun _=>cU (aG (a:=mV 2) (b:=m2 dU (mV 0) (mC (.int 0))) rfl (aG rfl rfl (ix0 names aa)) (lz names h))
 by_cases hn:t∉names∨h∉names
 ·have e:((!decide (t∈names)) || (!decide (h∈names))) = true:=by
   rcases hn with z | z
   ·rw [decide_eq_false z]; rfl
   ·rw [decide_eq_false z]; simp
  rw [e] at c1
  rw [rG ((jx c1).trans (ret (c := "") (Zn (JH hn st sh) (by simp) Pj)))]
  rfl
 ·have ht:t∈names:=Classical.byContradiction fun z=>hn (.inl z)
  have hh:h∈names:=Classical.byContradiction fun z=>hn (.inr z)
  rw [decide_eq_true ht,decide_eq_true hh] at c1
  rw [aM ((dI c1).trans rfl)]
  have c2:=cU (aG (a:=mN dTup [(mV 1),(mV 2)]) (b:=m2 dU (mV 0) (mC (.int 1))) (e:=[§(bx names aa),§(.str t),§(.str h),none,none]) (oZ rfl rfl) (aG rfl rfl (ix1 names aa)) (lZ aa (t,h)))
  by_cases ha:(t,h)∈aa
  ·rw [decide_eq_true ha] at c2
   rw [aM ((dI c2).trans rfl)]
   have c3:=cU (aG (a:=mN dTup [(mV 1),(mV 2)]) (b:=aZ ju [(wD (mN wg [(m2 dU (mV 0) (mC (.int 1)))]))]) (e:=[§(bx names aa),§(.str t),§(.str h),none,none]) (oZ rfl rfl) (Dh (cC ((iI (aG rfl rfl (ix1 names aa))).trans rfl)) (K5 G.lk)) (vY _ (t,h)))
   cases hc:cov aa (t,h) with
   | false =>
    rw [decide_eq_false (fun z=>by have:=(List.mem_filter.mp z).2; rw [hc] at this; cases this)] at c3
    rw [rG ((jx c3).trans (ret (c := "") (Zn (JL G.al ht hh ha hc st sh) (by simp) Pn)))]
    rfl
   | true =>
    rw [decide_eq_true (List.mem_filter.mpr ⟨ha,hc⟩)] at c3
    rw [aM ((dI c3).trans rfl)]
    ob ⟨b1,b2,b3⟩:=G.back ha hc
    have tb:=Ci (G.yh ha hc) b1 b2
    rw [b3] at tb
    have tt:=Ci G ha hc
    generalize hN:nA names (yh (t,h) aa) = B at tb tt
    have hs:=Oj (names:=names) (aa:=yh (t,h) aa) G.le
    rw [hN] at hs
    rw [aM (e':=[§(bx names aa),§(.str t),§(.str h),§(bx names B),none])
     (bD (call2 (x:=.d (gf names)) (cC (aG rfl rfl (ix0 names aa))) (cC (call2 (x:=.d (jB aa)) (y:=.d (pairD (t,h))) (cC ((iI (aG rfl rfl (ix1 names aa))).trans rfl)) (cC (oZ rfl rfl)) (K3 (by have:=G.al; omega)))) hs))]
    rw [aM (e':=[§(bx names aa),§(.str t),§(.str h),§(bx names B),§(bx names B)]) (bD (Dg rfl rfl rfl tt))]
    rw [fH (cC (Mw (call2 (x:=.d (bx names B)) (y:=.d (bx names B)) rfl rfl (Ds names B)) fun _=>call2 (x:=.d (bx names aa)) (y:=.d (bx names aa)) (cC (Dg rfl rfl rfl tb)) rfl (Ds names aa)))]
    rfl
  ·rw [decide_eq_false ha] at c2
   rw [rG ((jx c2).trans (ret (c := "") (Zn (JK ht hh ha st sh) (by simp) Pk)))]
   rfl
end Mr
namespace Mr
open PySem Mi
open My (words Gy fV)
theorem Bu (ns:List Int) (m:Nat) (h1:1≤m) (hm:m≤8):∃ qs:List Int,gh [.d (.lst (ns.map D.int)),.d (.int (m:Int))] = .ok (.d (.lst (qs.map D.int))):=by
 ob ⟨c,hc⟩:=t6 ns 39 δ
 rw [show ((39:Nat):Int) = 39 from rfl] at hc
 unfold gh qL
 rw [Ir]
 obtain ⟨xs,hxs⟩ : ∃ xs:List Int,qy (ns.map D.int) (some 40) (some 63) = xs.map D.int:=⟨qy ns (some 40) (some 63),by unfold qy; simp only [List.length_map,List.map_drop,List.map_take]⟩
 ob ⟨e',f1,ls,o3,o4,o5,he,hls⟩:=kO (tg:=.t [3,4]) (body:=(iz (cB (m2 BR (mV 3) (m2 yz (mV 1) (mC (.int 1)))))
 (bV 2 (m2 bT (mV 4) (mC (.int 2147483647))))
 (aY (bZ 5 (m2 bT (mV 3) (mV 1)))
 (ou 2 (mV 5) (m2 bT (m2 dj (m2 cQ (m2 dU (mV 2) (mV 5)) (mC (.int 48271))) (mV 4)) (mC (.int 2147483647)))))))
  (fun i e=>∃ (ls:List Int) (o3 o4 o5:Option W),e = [§(.lst (ns.map D.int)),§(.int (m:Int)),§(.lst (ls.map D.int)),o3,o4,o5]∧ls.length = min (i + 1) m) (pP 0 (xs.map D.int)) 0 (fun i x e hx ⟨ls,o3,o4,o5,he,hls⟩=>by
   ob ⟨d,hd,rfl⟩:=Nk hx
   subst he
   rw [Nat.zero_add] at hls ⊢
   obtain ⟨v,rfl⟩ : ∃ v:Int,d = .int v:=by
    ob ⟨v,_,rfl⟩:=List.mem_map.mp (List.mem_of_getElem? hd); xt ⟨v,rfl⟩
   have ct:cB (m2 BR (mV 3) (m2 yz (mV 1) (mC (.int 1)))) [§(.lst (ns.map D.int)),§(.int (m:Int)),§(.lst (ls.map D.int)),§(.int (i:Int)),§(.int v),o5] = .ok (decide ((i:Int) < (m:Int) - 1)):=cU (aG rfl (aG rfl rfl rfl) rfl)
   by_cases hb:(i:Int) < (m:Int) - 1
   ·rw [decide_eq_true hb] at ct
    rf ⟨[§(.lst (ns.map D.int)),§(.int (m:Int)),§(.lst (ls.map D.int)),§(.int (i:Int)),§(.int v),o5],[§(.lst (ns.map D.int)),§(.int (m:Int)),§(.lst ((ls ++ [v % 2147483647]).map D.int)),§(.int (i:Int)),§(.int v),o5],rfl,?_,ls ++ [v % 2147483647],_,_,_,rfl,by rw [List.length_append,hls]; simp; omega⟩
    rw [jx ct,ud (d:=.int (v % 2147483647)) (ds:=ls.map D.int) (aG rfl rfl (ak δ)) rfl (by rw [List.length_map]; omega)]
    rw [List.map_append]; rfl
   ·rw [decide_eq_false hb] at ct
    have z0:=Int.emod_nonneg (i:Int) (b:=(m:Int)) ω
    have z1:=Int.emod_lt_of_pos (i:Int) (b:=(m:Int)) ω
    have hk:∀ e:Mi.Env,mV 3 e = .ok (.int (i:Int))→mV 1 e = .ok (.int (m:Int))→m2 bT (mV 3) (mV 1) e = .ok (.int ((i:Int) % (m:Int))):=fun e a b=>aG a b (ak ω)
    have hix:dU (.lst (ls.map D.int)) (.int ((i:Int) % (m:Int))) = .ok (.int (ls.getD ((i:Int) % (m:Int)).toNat 0)):=vP z0 ω
    have hv:m2 bT (m2 dj (m2 cQ (m2 dU (mV 2) (mV 5)) (mC (.int 48271))) (mV 4)) (mC (.int 2147483647)) [§(.lst (ns.map D.int)),§(.int (m:Int)),§(.lst (ls.map D.int)),§(.int (i:Int)),§(.int v),§(.int ((i:Int) % (m:Int)))] = .ok (.int ((ls.getD ((i:Int) % (m:Int)).toNat 0 * 48271 + v) % 2147483647)) :=
     aG (aG (aG (aG rfl rfl hix) rfl (ak (yH δ δ))) rfl rfl) rfl (ak δ)
    ob ⟨ls',hl',hs⟩:=Zh (i:=2) (k:=mV 5) (e:=[§(.lst (ns.map D.int)),§(.int (m:Int)),§(.lst (ls.map D.int)),§(.int (i:Int)),§(.int v),§(.int ((i:Int) % (m:Int)))]) (ls:=ls) hv rfl rfl z0 ω
    rf ⟨[§(.lst (ns.map D.int)),§(.int (m:Int)),§(.lst (ls.map D.int)),§(.int (i:Int)),§(.int v),o5],[§(.lst (ns.map D.int)),§(.int (m:Int)),§(.lst (ls'.map D.int)),§(.int (i:Int)),§(.int v),§(.int ((i:Int) % (m:Int)))],rfl,?_,ls',_,_,_,rfl,by omega⟩
    rw [dI ct,aM (e':=[§(.lst (ns.map D.int)),§(.int (m:Int)),§(.lst (ls.map D.int)),§(.int (i:Int)),§(.int v),§(.int ((i:Int) % (m:Int)))]) (bD (hk _ rfl rfl))]
    xt hs) [§(.lst (ns.map D.int)),§(.int (m:Int)),§(.lst ([c % 2147483647].map D.int)),none,none,none] ⟨[c % 2147483647],none,none,none,rfl,by simp; omega⟩
 subst he
 rf ⟨ls,?_⟩
 rw [aM (e':=[§(.lst (ns.map D.int)),§(.int (m:Int)),§(.lst ([c % 2147483647].map D.int)),none,none,none]) (bD (Ww (aG (call2 rfl rfl hc) rfl (ak δ))))]
 have hit:Nh (qU IV (mV 0) (some (mC (.int 40))) (some (mC (.int 63)))) [§(.lst (ns.map D.int)),§(.int (m:Int)),§(.lst ([c % 2147483647].map D.int)),none,none,none] = .ok (pP 0 (xs.map D.int)):=by
  rw [← hxs]; rfl
 rw [aM ((j6 hit).trans f1)]
 rfl
theorem ixA {xs:List Ar} {i:Int} (h0:0≤i) (h1:i < xs.length):∃ p,p∈xs∧dU (Le xs) (.int i) = .ok (pairD p):=Zr h0 h1
theorem Wj {names:List Str} {aa:List Ar} (G:Gd names aa) (hs:∀ x∈names,x.length≤8∧∀ c∈x.cps.toList,c < 128) (d:Int):∃ a b,Sh a∧Sh b∧pJ [.d (bx names aa),.d (.int d)] = .ok (.d (aP [a,b])):=by
 have sh:∀ x∈names,Sh x:=fun x hx=>⟨by have:=(hs x hx).1; omega,(hs x hx).2⟩
 have hp:=G.pos
 have ln:∀ e:Mi.Env,mV 2 e = .ok (aP names)→mN iR [(mV 2)] e = .ok (.int (names.length:Int)):=fun e h=>(iI h).trans (by unfold aP; rw [MK,List.length_map])
 have dv:∀ (k:Int) (e:Mi.Env),0 < k→k < 2 ^ 64→mV 1 e = .ok (.int d)→m2 dC (mV 1) (mC (.int k)) e = .ok (.int (d / k)):=fun k e k0 k1 h=>aG h rfl ((div_ii _ _).trans (ak (c7 k0 k1)))
 have ix:∀ i:Int,∃ x,x∈names∧dU (aP names) (.int (i % (names.length:Int))) = .ok (.str x):=fun i=>by
  have q0:=Int.emod_nonneg i (b:=(names.length:Int)) ω
  have q1:=Int.emod_lt_of_pos i (b:=(names.length:Int)) ω
  xt ⟨_,lW (names:=names) (i:=(i % (names.length:Int)).toNat) ω,yM (cs:=names) q0 q1⟩
 ob ⟨a0,ma0,ha0⟩:=ix d
 ob ⟨b0,mb0,hb0⟩:=ix (d / 8)
 have E:∀ a b:Str,Mi.Env:=fun a b=>[§(bx names aa),§(.int d),§(aP names),§(aP [a,b])]
 obtain ⟨a1,b1,sa1,sb1,t1⟩ : ∃ a1 b1,Sh a1∧Sh b1∧(iz (sU (cB (m2 sS (m2 bT (m2 dC (mV 1) (mC (.int 64))) (mC (.int 2))) (mC (.int 1)))) (cB (m2 dGt (mN iR [(m2 dU (mV 0) (mC (.int 1)))]) (mC (.int 0)))))
 (bZ 3 (mN wg [(m2 dU (m2 dU (mV 0) (mC (.int 1))) (m2 bT (m2 dC (mV 1) (mC (.int 128))) (mN iR [(m2 dU (mV 0) (mC (.int 1)))])))]))
 bB) [§(bx names aa),§(.int d),§(aP names),§(aP [a0,b0])] = .ok (.nx [§(bx names aa),§(.int d),§(aP names),§(aP [a1,b1])]):=by
  have la:mN iR [(m2 dU (mV 0) (mC (.int 1)))] [§(bx names aa),§(.int d),§(aP names),§(aP [a0,b0])] = .ok (.int (aa.length:Int)):=(iI (aG rfl rfl (ix1 names aa))).trans (by unfold Le; rw [Yn,List.length_map])
  have ct:=Nu (q:=decide ((0:Int) < (aa.length:Int))) (cU (aG (b:=mC (.int 1)) (aG (b:=mC (.int 2)) (dv 64 [§(bx names aa),§(.int d),§(aP names),§(aP [a0,b0])] δ δ rfl) rfl ((mX _ _).trans (ak δ))) rfl (vZ (d / 64 % 2) 1))) fun _=>cU (aG (b:=mC (.int 0)) la rfl (Yv _ _))
  cases hk:(decide (d / 64 % 2 = 1) && decide ((0:Int) < (aa.length:Int))) with
  | false =>
   rw [hk] at ct
   xt ⟨a0,b0,sh _ ma0,sh _ mb0,(dI ct).trans rfl⟩
  | true =>
   rw [hk] at ct
   have hpos:(0:Int) < (aa.length:Int):=of_decide_eq_true (Bool.and_eq_true_iff.mp hk).2
   ob ⟨p,mp,hx⟩:=ixA (xs:=aa) (Int.emod_nonneg (d / 128) (b:=(aa.length:Int)) ω) (Int.emod_lt_of_pos (d / 128) hpos)
   rf ⟨p.1,p.2,sh _ (G.inn p mp).1,sh _ (G.inn p mp).2,(jx ct).trans ?_⟩
   xt bD ((iI (aG (aG rfl rfl (ix1 names aa)) (aG (dv 128 _ δ δ rfl) la ((mX _ _).trans (ak hpos))) hx)).trans rfl)
 ob ⟨s7,hs7,n7,sh7⟩:=rE G.pos G.le hs (d / 7)
 obtain ⟨a2,b2,sa2,sb2,t2⟩ : ∃ a2 b2,Sh a2∧Sh b2∧(iz (cB (m2 sS (m2 bT (m2 dC (mV 1) (mC (.int 4096))) (mC (.int 6))) (mC (.int 1))))
 (ou 3 (m2 bT (m2 dC (mV 1) (mC (.int 5))) (mC (.int 2))) (aZ cH [(wD (mV 2)),(wD (m2 dC (mV 1) (mC (.int 7))))]))
 bB) [§(bx names aa),§(.int d),§(aP names),§(aP [a1,b1])] = .ok (.nx [§(bx names aa),§(.int d),§(aP names),§(aP [a2,b2])]):=by
  have ct:=cU (aG (b:=mC (.int 1)) (aG (b:=mC (.int 6)) (dv 4096 [§(bx names aa),§(.int d),§(aP names),§(aP [a1,b1])] δ δ rfl) rfl ((mX _ _).trans (ak δ))) rfl (vZ (d / 4096 % 6) 1))
  cases hk:decide (d / 4096 % 6 = 1) with
  | false =>
   rw [hk] at ct
   xt ⟨a1,b1,sa1,sb1,(dI ct).trans rfl⟩
  | true =>
   rw [hk] at ct
   have hv:aZ cH [(wD (mV 2)),(wD (m2 dC (mV 1) (mC (.int 7))))] [§(bx names aa),§(.int d),§(aP names),§(aP [a1,b1])] = .ok (.str s7):=call2 (x:=.d (aP names)) rfl (cC (dv 7 _ δ δ rfl)) hs7
   have hi:m2 bT (m2 dC (mV 1) (mC (.int 5))) (mC (.int 2)) [§(bx names aa),§(.int d),§(aP names),§(aP [a1,b1])] = .ok (.int (d / 5 % 2)):=aG (dv 5 _ δ δ rfl) rfl ((mX _ _).trans (ak δ))
   have z0:=Int.emod_nonneg (d / 5) (b:=2) δ
   have z1:=Int.emod_lt_of_pos (d / 5) (b:=2) δ
   rcases (by omega:d / 5 % 2 = 0∨d / 5 % 2 = 1) with z | z
   ·rw [z] at hi
    rf ⟨s7,b1,sh7,sb1,(jx ct).trans ?_⟩
    unfold ou
    rw [hv,aD,hi,aD]; rfl
   ·rw [z] at hi
    rf ⟨a1,s7,sa1,sh7,(jx ct).trans ?_⟩
    unfold ou
    rw [hv,aD,hi,aD]; rfl
 ob ⟨s9,hs9,n9,sh9⟩:=rE G.pos G.le hs (d / 9)
 ob ⟨s11,adW,n11,adB⟩:=rE G.pos G.le hs (d / 11)
 obtain ⟨a3,b3,sa3,sb3,t3⟩ : ∃ a3 b3,Sh a3∧Sh b3∧(iz (cB (m2 sS (m2 bT (m2 dC (mV 1) (mC (.int 4096))) (mC (.int 6))) (mC (.int 2))))
 (bZ 3 (mN gm [(aZ cH [(wD (mV 2)),(wD (m2 dC (mV 1) (mC (.int 9))))]),(aZ cH [(wD (mV 2)),(wD (m2 dC (mV 1) (mC (.int 11))))])]))
 bB) [§(bx names aa),§(.int d),§(aP names),§(aP [a2,b2])] = .ok (.nx [§(bx names aa),§(.int d),§(aP names),§(aP [a3,b3])]):=by
  have ct:=cU (aG (b:=mC (.int 2)) (aG (b:=mC (.int 6)) (dv 4096 [§(bx names aa),§(.int d),§(aP names),§(aP [a2,b2])] δ δ rfl) rfl ((mX _ _).trans (ak δ))) rfl (vZ (d / 4096 % 6) 2))
  cases hk:decide (d / 4096 % 6 = 2) with
  | false =>
   rw [hk] at ct
   xt ⟨a2,b2,sa2,sb2,(dI ct).trans rfl⟩
  | true =>
   rw [hk] at ct
   xt ⟨s9,s11,sh9,adB,(jx ct).trans (bD (Pa (call2 (x:=.d (aP names)) rfl (cC (dv 9 _ δ δ rfl)) hs9) (call2 (x:=.d (aP names)) rfl (cC (dv 11 _ δ δ rfl)) adW)))⟩
 rf ⟨a3,b3,sa3,sb3,?_⟩
 unfold pJ Jh
 rw [Ir]
 rw [show ([§(bx names aa),§(.int d)] ++ List.replicate (4 - 2) none) = [§(bx names aa),§(.int d),none,none] from rfl]
 rw [aM (e':=[§(bx names aa),§(.int d),§(aP names),none]) (bD ((iI (aG rfl rfl (ix0 names aa))).trans rfl))]
 rw [aM (e':=[§(bx names aa),§(.int d),§(aP names),§(aP [a0,b0])])
  (bD (Pa (aG (x:=aP names) rfl (aG rfl (ln _ rfl) ((mX _ _).trans (ak ω))) ha0) (aG (x:=aP names) rfl (aG (dv 8 _ δ δ rfl) (ln _ rfl) ((mX _ _).trans (ak ω))) hb0)))]
 rw [aM t1,aM t2,aM t3]
 rfl
theorem nq.gd {names:List Str} {A:List Ix} {r:Nat→Int} (N:nq names A r) (hw:∀ x∈names,d9 [.d (.str x)] = .ok (.d (.bl true))):Gd names (A.map (arrOf names)):=by
 rf ⟨N.nd,N.pos,N.le,N.kJ.rk,?_,hw⟩
 rw [← yL]
 congr 1
 rf (xX (fun p:Ix=>p.1 * 8 + p.2) _ _ ?_ ?_ fun p=>?_)
 ·unfold ixs
  have h8:=N.le
  rw [List.pairwise_flatMap]
  rf ⟨fun i _=>?_,?_⟩
  ·rw [List.pairwise_map]
   rf (List.Pairwise.filter _ List.pairwise_lt_range).imp fun {a b} h=>?_
   show i * 8 + a < i * 8 + b
   omega
  ·rf List.pairwise_lt_range.imp fun {a b} h=>?_
   intro x hx y hy
   ob ⟨j,hj,rfl⟩:=List.mem_map.mp hx
   ob ⟨j',_,rfl⟩:=List.mem_map.mp hy
   have:=List.mem_range.mp (List.mem_filter.mp hj).1
   show a * 8 + j < b * 8 + j'
   omega
 ·rf N.nA.imp_of_mem fun {p q} hp hq h=>?_
  have h1:=(N.all p hp).2.1
  have h8:=N.le
  rcases h with h | ⟨e,h⟩
  ·show p.1 * 8 + p.2 < q.1 * 8 + q.2
   omega
  ·show p.1 * 8 + p.2 < q.1 * 8 + q.2
   omega
 ·rw [yJ]
  constructor
  ·rintro ⟨h1,h2,h3⟩
   ob ⟨q,hq,e⟩:=List.mem_map.mp h3
   have e1:=jJ N.nd (N.all q hq).1 h1 (congrArg Prod.fst e)
   have e2:=jJ N.nd (N.all q hq).2.1 h2 (congrArg Prod.snd e)
   have:q = p:=Prod.ext e1 e2
   rw [← this]; xt hq
  ·xt fun h=>⟨(N.all p h).1,(N.all p h).2.1,List.mem_map.mpr ⟨p,h,rfl⟩⟩
theorem ux (ns:List Int) (hl:ns.length≤63):wZ [.d (.lst (ns.map D.int))] = .ok (.d (.bl true)):=by
 ob ⟨names,A,r,aah,IN,cw,mw,hm8,hnm⟩:=S6 ns 8 δ δ
 rw [show ((8:Nat):Int) = 8 from rfl] at aah
 have hs:∀ x∈names,x.length≤8∧∀ c∈x.cps.toList,c < 128:=fun x hx=>by
  rw [hnm] at hx
  ob ⟨l,hl,rfl⟩:=List.mem_map.mp hx
  ob ⟨h1,h2,h3⟩:=fV cw mw hm8 l hl
  xt ⟨by rw [lM]; xt h2,fun c hc=>by have:=h3 c hc; omega⟩
 have hw:∀ x∈names,d9 [.d (.str x)] = .ok (.d (.bl true)):=fun x hx=>by
  rw [hnm] at hx
  ob ⟨l,hl,rfl⟩:=List.mem_map.mp hx
  xt VG (fV cw mw hm8 l hl)
 have G:=IN.gd hw
 generalize A.map (arrOf names) = aa at aah G
 ob ⟨qs,hq⟩:=Bu ns 6 δ δ
 rw [show ((6:Nat):Int) = 6 from rfl] at hq
 unfold wZ Dm
 rw [Ua]
 rw [show ([§(.lst (ns.map D.int))] ++ List.replicate (4 - 1) none) = [§(.lst (ns.map D.int)),none,none,none] from rfl]
 rw [aM (e':=[§(.lst (ns.map D.int)),§(bx names aa),none,none]) (bD (call2 rfl rfl aah))]
 ob ⟨e',f1,o2,o3,he⟩:=kO (tg:=.n 2) (body:=(aY (bZ 3 (aZ pJ [(wD (mV 1)),(wD (mV 2))]))
 (iz (qC (cB (aZ fK [(wD (mV 1)),(wD (m2 dU (mV 3) (mC (.int 0)))),(wD (m2 dU (mV 3) (mC (.int 1))))])))
 (dJ (wD (mC (.bl false))))
 bB)))
  (fun i e=>∃ o2 o3:Option W,e = [§(.lst (ns.map D.int)),§(bx names aa),o2,o3]) (qs.map D.int) 0 (fun i x e hi ⟨o2,o3,he⟩=>by
   subst he
   rw [List.getElem?_map] at hi
   ob ⟨d,hd,rfl⟩:=Option.map_eq_some_iff.mp hi
   ob ⟨a,b,sa,sb,hp⟩:=Wj G hs d
   rf ⟨[§(.lst (ns.map D.int)),§(bx names aa),§(.int d),o3],[§(.lst (ns.map D.int)),§(bx names aa),§(.int d),§(aP [a,b])],rfl,?_,_,_,rfl⟩
   rw [aM (e':=[§(.lst (ns.map D.int)),§(bx names aa),§(.int d),§(aP [a,b])]) (bD (call2 rfl rfl hp))]
   xt (dI (z7 (Dg (x:=.d (bx names aa)) (y:=.d (.str a)) (z:=.d (.str b)) rfl (cC (aG (x:=aP [a,b]) rfl rfl rfl)) (cC (aG (x:=aP [a,b]) rfl rfl rfl)) (En G sa sb)))).trans rfl) _ ⟨none,none,rfl⟩
 subst he
 rw [aM ((j6 (gV (call2 rfl rfl hq) rfl)).trans f1)]
 rw [fH (cC rfl)]
 rfl
end Mr
namespace Jx
open PySem L2 PyProof.Rows
abbrev cN:Addr:=242
abbrev tN:Addr:=238
instance aR:A.iZ:=⟨[(tN,WK "sorted_rows")],fun c=>if c = "ArrowError" then 29 else if c = "WrongSize" then 42 else if c = "NoWord" then 54 else if c = "Twice" then 66 else if c = "NoName" then 78 else if c = "Ring" then 97 else if c = "Unlike" then 109 else if c = "NoArrow" then 121 else if c = "Locked" then 133 else if c = "NoTie" then 145 else if c = "NoSuch" then 157 else if c = "NoNet" then 176 else if c = "NoText" then 188 else if c = "NoRow" then 200 else if c = "NoLabel" then 212 else 0⟩
theorem walk {l:PySem.W.OpenLaw} {q:Program} {loose:List Str} {XP:(Str→Option Value)→Heap→Prop} {YP:World→Heap→Prop} {d:DefRec} {K:Params→Φ} (hn:l.most = some 63) (hdf:d.params.defaults = [])
 (hY:∀ (w:World) (h:Heap),YP w h→(K w.params).In h) (hL:∀ w:World,Yl (K w.params) = true) (hK:∀ w:World,(K w.params).lookup tN = none) (hrec:∃ d,(recsOf q).find? (fun e=>e.name == ("sorted_rows" : Str)) = some d) (htab:∀ w:World,PySem.W.tabIn (K w.params) "sorted_rows" = some (cN,tN))
 (F:∀ (w:World) (mg:Str→Option Value) (fa:Addr) (h:Heap),(K w.params).In h→h.Ns mainGlobals mg→mg d.name = some (.ref fa) →
  ∃ fd:FuncData,(∀ (s:Shared) (u:Value),BindsTo s fd ⟨[u],[]⟩ [("_law_script", u)])∧∀ base:Heap,(K w.params).In base→base.Ns mainGlobals mg→BM mg base→PySem.W.CodeHd base cN tN→cY l.prog w (K w.params) mg base dF 10 fa fd ["_law_script"] A.Hi) :
 PySem.W.WalkO q loose XP YP l.row.toRowW d [] (fun f vs=>PySem.call f vs) :=
 L2.QV (x := "_law_script") (dn := "sorted_rows") (qn:=WK "sorted_rows") (k:=10) rfl hn hdf ⟨rfl,by decide,by decide⟩ hY (fun w a o e c=>SX (hL w) e c) hK hrec htab F
theorem Y0 {K:Φ} {h:Heap} {mg:Str→Option Value} (X:K.In h) (G:h.Ns mainGlobals mg) (DG:PySem.W.nsIn K mainGlobals "len" = some none) (wA:PySem.W.nsIn K mainGlobals "range" = some none) (Dz:PySem.W.nsIn K mainGlobals "max" = some none) (Dy:PySem.W.nsIn K mainGlobals "min" = some none) (wz:PySem.W.nsIn K mainGlobals "tuple" = some none) (yU:PySem.W.nsIn K mainGlobals "list" = some none) (mJ:PySem.W.nsIn K mainGlobals "isinstance" = some none) (DP:PySem.W.nsIn K mainGlobals "all" = some none) (DN:PySem.W.nsIn K mainGlobals "any" = some none) (yV:PySem.W.nsIn K mainGlobals "bool" = some none) (Dv:PySem.W.nsIn K mainGlobals "str" = some none) (DK:PySem.W.nsIn K mainGlobals "int" = some none) (Du:PySem.W.nsIn K mainGlobals "zip" = some none) (nW:PySem.W.nsIn K mainGlobals "enumerate" = some none) (uD:PySem.W.nsIn K mainGlobals "sorted" = some none) (pX:PySem.W.nsIn K mainGlobals "reversed" = some none) (Dw:PySem.W.nsIn K mainGlobals "set" = some none) {xY:Tok} (rm:PySem.W.nsIn K mainGlobals "LETTERS" = some (some (.str "abcdefghijklmnopqrstuvwxyz" xY))) {o6:Tok} (jV:PySem.W.nsIn K mainGlobals "MOST_LETTERS" = some (some (.int 8 o6))) {rC:Tok} (mH:PySem.W.nsIn K mainGlobals "MOST_NAMES" = some (some (.int 8 rC))):Txt mg :=
 ⟨PySem.W.mg_none_of X G DG,PySem.W.mg_none_of X G wA,PySem.W.mg_none_of X G Dz,PySem.W.mg_none_of X G Dy,PySem.W.mg_none_of X G wz,PySem.W.mg_none_of X G yU,PySem.W.mg_none_of X G mJ,PySem.W.mg_none_of X G DP,PySem.W.mg_none_of X G DN,PySem.W.mg_none_of X G yV,PySem.W.mg_none_of X G Dv,PySem.W.mg_none_of X G DK,PySem.W.mg_none_of X G Du,PySem.W.mg_none_of X G nW,PySem.W.mg_none_of X G uD,PySem.W.mg_none_of X G pX,PySem.W.mg_none_of X G Dw,⟨xY,PySem.W.mg_of X G rm⟩,⟨o6,PySem.W.mg_of X G jV⟩,⟨rC,PySem.W.mg_of X G mH⟩⟩
structure acX (K:Φ):Prop where
 pY:PySem.W.nsIn K mainGlobals "ArrowError" = some (some (.ref (aR.cl "ArrowError")))
 rn:PySem.W.nsIn K mainGlobals "WrongSize" = some (some (.ref (aR.cl "WrongSize")))
 yX:PySem.W.nsIn K mainGlobals "NoWord" = some (some (.ref (aR.cl "NoWord")))
 DQ:PySem.W.nsIn K mainGlobals "Twice" = some (some (.ref (aR.cl "Twice")))
 zb:PySem.W.nsIn K mainGlobals "NoName" = some (some (.ref (aR.cl "NoName")))
 QH:PySem.W.nsIn K mainGlobals "Ring" = some (some (.ref (aR.cl "Ring")))
 yW:PySem.W.nsIn K mainGlobals "Unlike" = some (some (.ref (aR.cl "Unlike")))
 wC:PySem.W.nsIn K mainGlobals "NoArrow" = some (some (.ref (aR.cl "NoArrow")))
 zc:PySem.W.nsIn K mainGlobals "Locked" = some (some (.ref (aR.cl "Locked")))
 DR:PySem.W.nsIn K mainGlobals "NoTie" = some (some (.ref (aR.cl "NoTie")))
 za:PySem.W.nsIn K mainGlobals "NoSuch" = some (some (.ref (aR.cl "NoSuch")))
 Lq:PySem.W.nsIn K mainGlobals "NoNet" = some (some (.ref (aR.cl "NoNet")))
 yZ:PySem.W.nsIn K mainGlobals "NoText" = some (some (.ref (aR.cl "NoText")))
 DW:PySem.W.nsIn K mainGlobals "NoRow" = some (some (.ref (aR.cl "NoRow")))
 wB:PySem.W.nsIn K mainGlobals "NoLabel" = some (some (.ref (aR.cl "NoLabel")))
 DX:PySem.W.excIn K (aR.cl "ArrowError") Θ "ValueError.__new__" = true
 G4:PySem.W.excIn K (aR.cl "WrongSize") Θ "ValueError.__new__" = true
 QK:PySem.W.excIn K (aR.cl "NoWord") Θ "ValueError.__new__" = true
 VB:PySem.W.excIn K (aR.cl "Twice") Θ "ValueError.__new__" = true
 QQ:PySem.W.excIn K (aR.cl "NoName") Θ "ValueError.__new__" = true
 QJ:PySem.W.excIn K (aR.cl "Unlike") Θ "ValueError.__new__" = true
 Od:PySem.W.excIn K (aR.cl "NoArrow") Θ "ValueError.__new__" = true
 QR:PySem.W.excIn K (aR.cl "Locked") Θ "ValueError.__new__" = true
 VD:PySem.W.excIn K (aR.cl "NoTie") Θ "ValueError.__new__" = true
 QM:PySem.W.excIn K (aR.cl "NoSuch") Θ "ValueError.__new__" = true
 QL:PySem.W.excIn K (aR.cl "NoText") Θ "ValueError.__new__" = true
 VF:PySem.W.excIn K (aR.cl "NoRow") Θ "ValueError.__new__" = true
 Oc:PySem.W.excIn K (aR.cl "NoLabel") Θ "ValueError.__new__" = true
 v_:PySem.W.nsIn K mainGlobals "ValueError" = some none
theorem Zy {K:Φ} {h:Heap} {mg:Str→Option Value} (X:K.In h) (G:h.Ns mainGlobals mg) (z:acX K):Own mg h :=
 ⟨jX X G z.pY z.DX,jX X G z.rn z.G4,jX X G z.yX z.QK,jX X G z.DQ z.VB,jX X G z.zb z.QQ,jX X G z.yW z.QJ,jX X G z.wC z.Od,jX X G z.zc z.QR,jX X G z.DR z.VD,jX X G z.za z.QM,jX X G z.yZ z.QL,jX X G z.DW z.VF,jX X G z.wB z.Oc,PySem.W.mg_of X G z.pY,PySem.W.mg_of X G z.rn,PySem.W.mg_of X G z.yX,PySem.W.mg_of X G z.DQ,PySem.W.mg_of X G z.zb,PySem.W.mg_of X G z.QH,PySem.W.mg_of X G z.yW,PySem.W.mg_of X G z.wC,PySem.W.mg_of X G z.zc,PySem.W.mg_of X G z.DR,PySem.W.mg_of X G z.za,PySem.W.mg_of X G z.Lq,PySem.W.mg_of X G z.yZ,PySem.W.mg_of X G z.DW,PySem.W.mg_of X G z.wB,PySem.W.mg_none_of X G z.v_⟩
structure aew (K:Φ):Prop where
 h0:PySem.W.kitOne K (.ref (aR.cl "Locked")) (.type "ValueError") = some true
 h1:PySem.W.kitOne K (.ref (aR.cl "NoArrow")) (.type "ValueError") = some true
 h2:PySem.W.kitOne K (.ref (aR.cl "NoName")) (.type "ValueError") = some true
 h3:PySem.W.kitOne K (.ref (aR.cl "Locked")) (.ref (aR.cl "NoName")) = some false
 h4:PySem.W.kitOne K (.ref (aR.cl "NoArrow")) (.ref (aR.cl "NoName")) = some false
 h5:PySem.W.kitOne K (.ref (aR.cl "NoName")) (.ref (aR.cl "NoName")) = some true
 h6:PySem.W.kitOne K (.ref (aR.cl "Locked")) (.ref (aR.cl "NoArrow")) = some false
 h7:PySem.W.kitOne K (.ref (aR.cl "NoArrow")) (.ref (aR.cl "NoArrow")) = some true
 h8:PySem.W.kitOne K (.ref (aR.cl "NoName")) (.ref (aR.cl "NoArrow")) = some false
 h9:PySem.W.kitOne K (.ref (aR.cl "Locked")) (.ref (aR.cl "Locked")) = some true
 h10:PySem.W.kitOne K (.ref (aR.cl "NoArrow")) (.ref (aR.cl "Locked")) = some false
 h11:PySem.W.kitOne K (.ref (aR.cl "NoName")) (.ref (aR.cl "Locked")) = some false
 h12:PySem.W.kitAny K (.ref (aR.cl "Locked")) (([aR.cl "NoWord", aR.cl "Ring", aR.cl "Twice", aR.cl "Unlike", aR.cl "WrongSize"]:List Addr).map .ref) = some false
 h13:PySem.W.kitAny K (.ref (aR.cl "NoArrow")) (([aR.cl "NoWord", aR.cl "Ring", aR.cl "Twice", aR.cl "Unlike", aR.cl "WrongSize"]:List Addr).map .ref) = some false
 h14:PySem.W.kitAny K (.ref (aR.cl "NoName")) (([aR.cl "NoWord", aR.cl "Ring", aR.cl "Twice", aR.cl "Unlike", aR.cl "WrongSize"]:List Addr).map .ref) = some false
 h15:PySem.W.kitAny K (.ref (aR.cl "Locked")) (([aR.cl "NoLabel", aR.cl "NoNet", aR.cl "NoRow", aR.cl "NoSuch", aR.cl "NoText", aR.cl "NoTie"]:List Addr).map .ref) = some false
 h16:PySem.W.kitAny K (.ref (aR.cl "NoArrow")) (([aR.cl "NoLabel", aR.cl "NoNet", aR.cl "NoRow", aR.cl "NoSuch", aR.cl "NoText", aR.cl "NoTie"]:List Addr).map .ref) = some false
 h17:PySem.W.kitAny K (.ref (aR.cl "NoName")) (([aR.cl "NoLabel", aR.cl "NoNet", aR.cl "NoRow", aR.cl "NoSuch", aR.cl "NoText", aR.cl "NoTie"]:List Addr).map .ref) = some false
 h18:PySem.W.exmOne K (.ref (aR.cl "Locked")) (.ref (aR.cl "ArrowError")) = some true
 h19:PySem.W.exmOne K (.ref (aR.cl "NoArrow")) (.ref (aR.cl "ArrowError")) = some true
 h20:PySem.W.exmOne K (.ref (aR.cl "NoName")) (.ref (aR.cl "ArrowError")) = some true
theorem Z6 {K:Φ} (lu:kj K (aR.cl "Locked")) (jy:kj K (aR.cl "NoArrow")) (lr:kj K (aR.cl "NoName")) (z:aew K):Kit K :=
 ⟨(dX ⟨lr,z.h2⟩ (dX ⟨jy,z.h1⟩ (dX ⟨lu,z.h0⟩ w6))),(dX ⟨lr,z.h5⟩ (dX ⟨jy,z.h4⟩ (dX ⟨lu,z.h3⟩ w6))),(dX ⟨lr,z.h8⟩ (dX ⟨jy,z.h7⟩ (dX ⟨lu,z.h6⟩ w6))),(dX ⟨lr,z.h11⟩ (dX ⟨jy,z.h10⟩ (dX ⟨lu,z.h9⟩ w6))),(dX ⟨lr,z.h14⟩ (dX ⟨jy,z.h13⟩ (dX ⟨lu,z.h12⟩ w6))),(dX ⟨lr,z.h17⟩ (dX ⟨jy,z.h16⟩ (dX ⟨lu,z.h15⟩ w6))),(Fl z.h20 (Fl z.h19 (Fl z.h18 ZZ)))⟩
theorem aaN {l:PySem.W.OpenLaw} {w:World} {K:Φ} {mg:Str→Option Value} {fa:Addr} (hfa:mg "law" = some (.ref fa)) (T:Txt mg) (OK:acX K) (Kt:Kit K) (Bq:q9 K mg "_law_cell" zK ["_law_script", "_law_k"]) (xM:q9 K mg "_law_words" wI ["_law_cell_here", "_law_many"]) (xN:q9 K mg "_law_ranks" wJ ["_law_cell_here", "_law_many"]) (GF:q9 K mg "_law_net" Ek ["_law_script", "_law_most"]) (oK:q9 K mg "_law_questions" n6 ["_law_script", "_law_many"]) (qF:q9 K mg "_law_stranger" p6 ["_law_names", "_law_cell_here"]) (Bp:q9 K mg "_law_pair" zJ ["_law_net_here", "_law_draw"]) (oH:XJ K mg "sorted_rows" nY ["names", "rows"] cN) (xQ:q9 K mg "is_word" wM ["text"]) (ik:q9 K mg "refuse_wrong_names" gO ["names"]) (fZ:q9 K mg "refuse_strangers" fW ["names", "asked"]) (ig:q9 K mg "refuse_wrong_pairs" gK ["names", "arrows"]) (tE:q9 K mg "elders_of" rQ ["net", "name"]) (oM:q9 K mg "first_ready" oh ["net", "told"]) (xR:q9 K mg "in_turn" wN ["net"]) (oJ:q9 K mg "refuse_ring" nZ ["net"]) (u0:q9 K mg "net_made" uH ["names", "arrows"]) (lN:q9 K mg "can_be_turned" lG ["net", "tail", "head"]) (mz:q9 K mg "net_turned" lR ["net", "tail", "head"]) (xP:q9 K mg "_law_alike" wL ["_law_found", "_law_due"]) (u6:q9 K mg "_law_elders" uJ ["_law_arrows", "_law_name"]) (tD:q9 K mg "_law_covered" rP ["_law_arrows"]) (tu:q9 K mg "_law_flipped" rO ["_law_arrows", "_law_arrow"]) (u5:q9 K mg "_law_sorted" uI ["_law_names", "_law_arrows"]) (xO:q9 K mg "_law_kinds" wK ["_law_e"]) (sZ:q9 K mg "_law_refused" rN ["_law_net_here", "_law_tail", "_law_head"]) (qG:q9 K mg "_law_question" qb ["_law_net_here", "_law_tail", "_law_head"]) (Vu:q9 K mg "law" Rm ["_law_script"]) :
 ∃ fd:FuncData,(∀ (s:Shared) (u:Value),BindsTo s fd ⟨[u],[]⟩ [("_law_script", u)])∧∀ base:Heap,K.In base→base.Ns mainGlobals mg→BM mg base→PySem.W.CodeHd base cN tN→cY l.prog w K mg base dF 10 fa fd ["_law_script"] A.Hi :=
 q9.adO Vu hfa fun base kb nb hB hC f fd F=>by
  have O:Own mg base:=Zy kb nb OK
  have jb:=Bq.cal (P:=l.prog) (w:=w) (base:=base) (CX:=dF) fun f fd F=>O6 F T
  have xT:=xM.cal (P:=l.prog) (w:=w) (base:=base) (CX:=dF) fun f fd F=>Kc F T
  have xU:=xN.cal (P:=l.prog) (w:=w) (base:=base) (CX:=dF) fun f fd F=>Ke F T
  have GK:=GF.cal (P:=l.prog) (w:=w) (base:=base) (CX:=dF) fun f fd F=>Sq F T jb xT xU
  have oR:=oK.cal (P:=l.prog) (w:=w) (base:=base) (CX:=dF) fun f fd F=>zX F T jb
  have jP:=qF.cal (P:=l.prog) (w:=w) (base:=base) (CX:=dF) fun f fd F=>Bw F T
  have Br:=Bp.cal (P:=l.prog) (w:=w) (base:=base) (CX:=dF) fun f fd F=>O5 F T jP
  have oN:=oH.cal (P:=l.prog) (w:=w) (base:=base) (CX:=dF) fun f fd F=>zV F T hB hC (List.mem_singleton.mpr rfl)
  have xV:=xQ.cal (P:=l.prog) (w:=w) (base:=base) (CX:=dF) fun f fd F=>Kg F T
  have iw:=ik.cal (P:=l.prog) (w:=w) (base:=base) (CX:=dF) fun f fd F=>qT F T xV
  have bJ:=fZ.cal (P:=l.prog) (w:=w) (base:=base) (CX:=dF) fun f fd F=>uf F T
  have iU:=fZ.cal (P:=l.prog) (w:=w) (base:=base) (CX:=BZ l.prog w) fun f fd F=>rZ F T O
  have iu:=ig.cal (P:=l.prog) (w:=w) (base:=base) (CX:=dF) fun f fd F=>qR F T bJ
  have iy:=tE.cal (P:=l.prog) (w:=w) (base:=base) (CX:=dF) fun f fd F=>Fd F T bJ
  have kY:=oM.cal (P:=l.prog) (w:=w) (base:=base) (CX:=dF) fun f fd F=>zZ F T iy
  have xW:=xR.cal (P:=l.prog) (w:=w) (base:=base) (CX:=dF) fun f fd F=>Kh F T kY
  have oO:=oJ.cal (P:=l.prog) (w:=w) (base:=base) (CX:=dF) fun f fd F=>zW F T xW
  have km:=u0.cal (P:=l.prog) (w:=w) (base:=base) (CX:=dF) fun f fd F=>Hz F T oN iw iu oO
  have eO:=lN.cal (P:=l.prog) (w:=w) (base:=base) (CX:=dF) fun f fd F=>wY F T iy
  have mD:=mz.cal (P:=l.prog) (w:=w) (base:=base) (CX:=dF) fun f fd F=>Bv F T km bJ eO
  have oU:=mz.cal (P:=l.prog) (w:=w) (base:=base) (CX:=BZ l.prog w) fun f fd F=>z6 F T O km eO iU
  have jA:=aeo (P:=l.prog) (w:=w) (base:=base) (CX:=dF) xP fun f fd F self=>zY F T self
  have qI:=u6.cal (P:=l.prog) (w:=w) (base:=base) (CX:=dF) fun f fd F=>HD F T
  have tK:=tD.cal (P:=l.prog) (w:=w) (base:=base) (CX:=dF) fun f fd F=>Fb F T qI
  have tH:=tu.cal (P:=l.prog) (w:=w) (base:=base) (CX:=dF) fun f fd F=>EY F T
  have u9:=u5.cal (P:=l.prog) (w:=w) (base:=base) (CX:=dF) fun f fd F=>HB F T
  have vd:=xO.aep (P:=l.prog) (w:=w) (base:=base) fun f fd F=>Kf F T O Kt
  have lE:=sZ.cal (P:=l.prog) (w:=w) (base:=base) (CX:=dF) fun f fd F=>Ez F T O Kt oU vd
  have qH:=qG.cal (P:=l.prog) (w:=w) (base:=base) (CX:=dF) fun f fd F=>Bx F T mD jA tK tH u9 lE
  xt A.Z4 (ZL F T GK oR Br qH) fun ns hl=>by first | xt Mr.ux ns | xt Mr.ux ns hl
end Jx
open PySem PySem.W PyProof.Rows
set_option maxRecDepth 100000 in
set_option maxHeartbeats 0 in
theorem PySem.Challenge.cw_arrowfind_k31_turned_and_refused_holds:PySem.Challenge.rw_arrowfind_k31_turned_and_refused.Holds:=by
 w_on; o_law; k_head; (case hw=>w_witness2)
 k_fill
 rf Jx.walk (l:=PySem.Challenge.rw_arrowfind_k31_turned_and_refused) rfl rfl (fun w h Y=>PySem.W.km_in_of Y) ?L ?K ⟨_,rfl⟩ ?H ?F
 case L =>
  intro w
  kernel_rfl
 case K =>
  intro w
  kernel_rfl
 case H =>
  intro w
  kernel_rfl
 case F =>
  intro w mg fa h KX G hmg
  refine' Jx.aaN hmg ?T ?O ?Kt ?Bq ?xM ?xN ?GF ?oK ?qF ?Bp ?oH ?xQ ?ik ?fZ ?ig ?tE ?oM ?xR ?oJ ?u0 ?lN ?mz ?xP ?u6 ?tD ?tu ?u5 ?xO ?sZ ?qG ?Vu
  case T =>
   refine' Jx.Y0 KX G ?DG ?wA ?Dz ?Dy ?wz ?yU ?mJ ?DP ?DN ?yV ?Dv ?DK ?Du ?nW ?uD ?pX ?Dw ?rm ?jV ?mH
   (case DG=>k_is)
   (case wA=>k_is)
   (case Dz=>k_is)
   (case Dy=>k_is)
   (case wz=>k_is)
   (case yU=>k_is)
   (case mJ=>k_is)
   (case DP=>k_is)
   (case DN=>k_is)
   (case yV=>k_is)
   (case Dv=>k_is)
   (case DK=>k_is)
   (case Du=>k_is)
   (case nW=>k_is)
   (case uD=>k_is)
   (case pX=>k_is)
   (case Dw=>k_is)
   (case rm=>k_is)
   (case jV=>k_is)
   (case mH=>k_is)
  case O =>
   constructor
   (case pY=>kernel_rfl)
   (case rn=>kernel_rfl)
   (case yX=>kernel_rfl)
   (case DQ=>kernel_rfl)
   (case zb=>kernel_rfl)
   (case QH=>kernel_rfl)
   (case yW=>kernel_rfl)
   (case wC=>kernel_rfl)
   (case zc=>kernel_rfl)
   (case DR=>kernel_rfl)
   (case za=>kernel_rfl)
   (case Lq=>kernel_rfl)
   (case yZ=>kernel_rfl)
   (case DW=>kernel_rfl)
   (case wB=>kernel_rfl)
   all_goals kernel_rfl
  case Kt =>
   refine' Jx.Z6 ?lu ?jy ?lr ?z
   (case lu=>constructor <;> kernel_rfl)
   (case jy=>constructor <;> kernel_rfl)
   (case lr=>constructor <;> kernel_rfl)
   (case z=>constructor <;> kernel_rfl)
  case Bq =>
   refine' L2.cR KX G Ζb ?a ?l ?c ?k
   (case a=>k_is); (case l=>k_is); (case c=>k_is); (case k=>k_is)
  case xM =>
   refine' L2.cR KX G Ζb ?a ?l ?c ?k
   (case a=>k_is); (case l=>k_is); (case c=>k_is); (case k=>k_is)
  case xN =>
   refine' L2.cR KX G Ζb ?a ?l ?c ?k
   (case a=>k_is); (case l=>k_is); (case c=>k_is); (case k=>k_is)
  case GF =>
   refine' L2.cR KX G Ζb ?a ?l ?c ?k
   (case a=>k_is); (case l=>k_is); (case c=>k_is); (case k=>k_is)
  case oK =>
   refine' L2.cR KX G Ζb ?a ?l ?c ?k
   (case a=>k_is); (case l=>k_is); (case c=>k_is); (case k=>k_is)
  case qF =>
   refine' L2.cR KX G Ζb ?a ?l ?c ?k
   (case a=>k_is); (case l=>k_is); (case c=>k_is); (case k=>k_is)
  case Bp =>
   refine' L2.cR KX G Ζb ?a ?l ?c ?k
   (case a=>k_is); (case l=>k_is); (case c=>k_is); (case k=>k_is)
  case oH =>
   refine' L2.W3 (c:=Jx.cN) KX G Ζb ?a ?l ?c ?k
   (case a=>k_is); (case l=>k_is); (case c=>k_is); (case k=>k_is)
  case xQ =>
   refine' L2.cR KX G Ζa ?a ?l ?c ?k
   (case a=>k_is); (case l=>k_is); (case c=>k_is); (case k=>k_is)
  case ik =>
   refine' L2.cR KX G Ζa ?a ?l ?c ?k
   (case a=>k_is); (case l=>k_is); (case c=>k_is); (case k=>k_is)
  case fZ =>
   refine' L2.cR KX G Ζb ?a ?l ?c ?k
   (case a=>k_is); (case l=>k_is); (case c=>k_is); (case k=>k_is)
  case ig =>
   refine' L2.cR KX G Ζb ?a ?l ?c ?k
   (case a=>k_is); (case l=>k_is); (case c=>k_is); (case k=>k_is)
  case tE =>
   refine' L2.cR KX G Ζb ?a ?l ?c ?k
   (case a=>k_is); (case l=>k_is); (case c=>k_is); (case k=>k_is)
  case oM =>
   refine' L2.cR KX G Ζb ?a ?l ?c ?k
   (case a=>k_is); (case l=>k_is); (case c=>k_is); (case k=>k_is)
  case xR =>
   refine' L2.cR KX G Ζa ?a ?l ?c ?k
   (case a=>k_is); (case l=>k_is); (case c=>k_is); (case k=>k_is)
  case oJ =>
   refine' L2.cR KX G Ζa ?a ?l ?c ?k
   (case a=>k_is); (case l=>k_is); (case c=>k_is); (case k=>k_is)
  case u0 =>
   refine' L2.cR KX G Ζb ?a ?l ?c ?k
   (case a=>k_is); (case l=>k_is); (case c=>k_is); (case k=>k_is)
  case lN =>
   refine' L2.cR KX G Ζc ?a ?l ?c ?k
   (case a=>k_is); (case l=>k_is); (case c=>k_is); (case k=>k_is)
  case mz =>
   refine' L2.cR KX G Ζc ?a ?l ?c ?k
   (case a=>k_is); (case l=>k_is); (case c=>k_is); (case k=>k_is)
  case xP =>
   refine' L2.cR KX G Ζb ?a ?l ?c ?k
   (case a=>k_is); (case l=>k_is); (case c=>k_is); (case k=>k_is)
  case u6 =>
   refine' L2.cR KX G Ζb ?a ?l ?c ?k
   (case a=>k_is); (case l=>k_is); (case c=>k_is); (case k=>k_is)
  case tD =>
   refine' L2.cR KX G Ζa ?a ?l ?c ?k
   (case a=>k_is); (case l=>k_is); (case c=>k_is); (case k=>k_is)
  case tu =>
   refine' L2.cR KX G Ζb ?a ?l ?c ?k
   (case a=>k_is); (case l=>k_is); (case c=>k_is); (case k=>k_is)
  case u5 =>
   refine' L2.cR KX G Ζb ?a ?l ?c ?k
   (case a=>k_is); (case l=>k_is); (case c=>k_is); (case k=>k_is)
  case xO =>
   refine' L2.cR KX G Ζa ?a ?l ?c ?k
   (case a=>k_is); (case l=>k_is); (case c=>k_is); (case k=>k_is)
  case sZ =>
   refine' L2.cR KX G Ζc ?a ?l ?c ?k
   (case a=>k_is); (case l=>k_is); (case c=>k_is); (case k=>k_is)
  case qG =>
   refine' L2.cR KX G Ζc ?a ?l ?c ?k
   (case a=>k_is); (case l=>k_is); (case c=>k_is); (case k=>k_is)
  case Vu =>
   refine' L2.cR KX G Ζa ?a ?l ?c ?k
   (case a=>k_is); (case l=>k_is); (case c=>k_is); (case k=>k_is)
