import PyProof.Rows.All
import Wide.All
import OpenK.AllK
import Wide.FinOn
import Lean
import PyProof.EqAt
import PyProof.EqKinds
import PyProof.TupleCall
import PySem.Str
import PyProof.NeKinds
import PyProof.Draws
import PyProof.EnumMake
import PyProof.ZipIter
import KE.KSortTup
import KE.KLam
import PyProof.Rows.SortStr
import PyProof.Rows.FactsT3
import PyProof.StrOps2
import PySem.Challenge.RW_arrowfind_k20_ties_and_corners
set_option Elab.async false
set_option linter.all false
set_option maxRecDepth 100000
namespace L2
open PySem PySem.Spec PyProof.Rows
abbrev Key := Sum Int Str
def keyIs : Key → Value → Bool
  | .inl k, v => Value.isInt k v
  | .inr x, v => Value.isStrOf x v
def keyH (w : World) : Key → Int
  | .inl k => hashInt k
  | .inr x => hashStr w x
theorem keyIs_shape : ∀ {k : Key} {v : Value}, keyIs k v = true → (∃ i t, k = Sum.inl i ∧ v = Value.int i t) ∨ (∃ x t, k = Sum.inr x ∧ v = Value.str x t)
  | .inl i, v, h => by
    obtain ⟨t, e⟩ := Value.isInt_shape (k := i) (v := v) h
    exact .inl ⟨i, t, rfl, e⟩
  | .inr x, v, h => by
    obtain ⟨t, e⟩ := Value.isStrOf_shape (x := x) (v := v) h
    exact .inr ⟨x, t, rfl, e⟩
theorem key_ll (a b : Int) : decide ((Sum.inl a : Key) = Sum.inl b) = (a == b) := by
  by_cases e : a = b
  · subst e; simp
  · have h : ¬ (Sum.inl a : Key) = Sum.inl b := fun q => e (Sum.inl.inj q)
    rw [decide_eq_false h]
    exact (beq_eq_false_iff_ne.mpr e).symm
theorem key_rr (a b : Str) : decide ((Sum.inr a : Key) = Sum.inr b) = decide (a = b) := by
  by_cases e : a = b
  · subst e; simp
  · have h : ¬ (Sum.inr a : Key) = Sum.inr b := fun q => e (Sum.inr.inj q)
    rw [decide_eq_false h, decide_eq_false e]
theorem key_lr (a : Int) (b : Str) : decide ((Sum.inl a : Key) = Sum.inr b) = false := decide_eq_false (fun q => nomatch q)
theorem key_rl (a : Str) (b : Int) : decide ((Sum.inr a : Key) = Sum.inl b) = false := decide_eq_false (fun q => nomatch q)
def mixKind (prog : Program) (w : World) : PySem.KeyKind prog w Key where
  is := keyIs
  hash := keyH w
  inj := fun v a b ha hb => by
    rcases keyIs_shape ha with ⟨i, t, rfl, rfl⟩ | ⟨x, t, rfl, rfl⟩
    · rcases keyIs_shape hb with ⟨j, u, rfl, e⟩ | ⟨y, u, rfl, e⟩
      · injection e with e1 _; rw [e1]
      · exact nomatch e
    · rcases keyIs_shape hb with ⟨j, u, rfl, e⟩ | ⟨y, u, rfl, e⟩
      · exact nomatch e
      · injection e with e1 _; rw [e1]
  byValue := fun k v h => by
    rcases keyIs_shape h with ⟨i, t, rfl, rfl⟩ | ⟨x, t, rfl, rfl⟩ <;> rfl
  pyHash := fun hv h => by
    rcases keyIs_shape hv with ⟨i, t, rfl, rfl⟩ | ⟨x, t, rfl, rfl⟩
    · exact wpAny_pyHash_int h
    · exact wpAny_pyHash_str h
  eqBool := fun hu hv h => by
    rcases keyIs_shape hu with ⟨i, t, rfl, rfl⟩ | ⟨x, t, rfl, rfl⟩
    · rcases keyIs_shape hv with ⟨j, u, rfl, rfl⟩ | ⟨y, u, rfl, rfl⟩
      · rw [key_ll] at h; exact wpAny_eqBool_int h
      · rw [key_lr] at h; exact SeqAt.EqAt.int_str i t y u _ _ _ _ h
    · rcases keyIs_shape hv with ⟨j, u, rfl, rfl⟩ | ⟨y, u, rfl, rfl⟩
      · rw [key_rl] at h; exact SeqAt.EqAt.str_int x t j u _ _ _ _ h
      · rw [key_rr] at h; exact wpAny_eqBool_str h
  «strs» := fun k x t v h => by
    rcases keyIs_shape h with ⟨i, u, rfl, e⟩ | ⟨y, u, rfl, e⟩
    · exact nomatch e
    · injection e with e1 _
      subst e1
      cases v <;> rfl
end L2
namespace L2
open PySem PySem.Spec PyProof.Rows
inductive V where
  | non | bl (b : Bool) | int (i : Int) | str (x : Str) | byt (b : Array UInt8) | flt (b : UInt64) | ref (a : Addr) | ty (n : String)
  deriving DecidableEq
def RelV : V → Value → Prop
  | .non, u => u = Value.none
  | .bl b, u => u = Value.bool b
  | .int i, u => ∃ t, u = Value.int i t
  | .str x, u => ∃ t, u = Value.str x t
  | .byt b, u => ∃ t, u = Value.bytes b t
  | .flt b, u => ∃ t, u = Value.float b t
  | .ref a, u => u = Value.ref a
  | .ty n, u => u = Value.type n
abbrev Vals : List V → List Value → Prop := Paired RelV
theorem Vals.length {xs : List V} {us : List Value} (r : Vals xs us) : xs.length = us.length := Paired.length r
theorem Vals.get : ∀ {xs : List V} {us : List Value} {i : Nat} {x : V}, Vals xs us → xs[i]? = some x → ∃ u, us[i]? = some u ∧ RelV x u
  | _, _, _, _, .nil, e => by simp at e
  | _, _, 0, _, .cons r _, e => by simp at e; subst e; exact ⟨_, rfl, r⟩
  | _, _, i + 1, x, .cons _ t, e => by
    obtain ⟨u, h1, h2⟩ := Vals.get (i := i) (x := x) t (by simpa using e)
    exact ⟨u, by simpa using h1, h2⟩
theorem Vals.append : ∀ {xs ys : List V} {us ws : List Value}, Vals xs us → Vals ys ws → Vals (xs ++ ys) (us ++ ws)
  | _, _, _, _, .nil, s => s
  | _, _, _, _, .cons r t, s => .cons r (Vals.append t s)
theorem Vals.take : ∀ {xs : List V} {us : List Value} (n : Nat), Vals xs us → Vals (xs.take n) (us.take n)
  | _, _, 0, _ => .nil
  | _, _, _ + 1, .nil => .nil
  | _, _, n + 1, .cons r t => .cons r (Vals.take n t)
theorem Vals.drop : ∀ {xs : List V} {us : List Value} (n : Nat), Vals xs us → Vals (xs.drop n) (us.drop n)
  | _, _, 0, r => r
  | _, _, _ + 1, .nil => .nil
  | _, _, n + 1, .cons _ t => Vals.drop n t
def RelO : Option V → Option Value → Prop
  | some v, some u => RelV v u
  | none, none => True
  | _, _ => False
def KV {κ : Type} : List (κ × V) → List (κ × Value) → Prop := Paired fun (p : κ × V) (q : κ × Value) => p.1 = q.1 ∧ RelV p.2 q.2
def kV : Key → V
  | .inl i => .int i
  | .inr x => .str x
def TupN (h : Heap) (a : Addr) (its : Array Value) : Prop := ∃ o, h.get? a = some o ∧ o.cls = .type "tuple" ∧ o.dict = none ∧ ∃ n, o.data = .seq its n
theorem TupN.tup {h : Heap} {a : Addr} {its : Array Value} (x : TupN h a its) : IsTup h a its := let ⟨o, e, c, _, d⟩ := x; ⟨o, e, c, d⟩
theorem TupN.new (h : Heap) (its : Array Value) : TupN (h.push { cls := .type "tuple", data := .seq its }) h.objs.size its := ⟨_, Heap.get?_push_size _ rfl, rfl, rfl, _, rfl⟩
inductive HO where
  /-- a list -/
  | lst (xs : List V)
  /-- a tuple (never changes) -/
  | tup (xs : List V)
  /-- a dict whose keys are ints and texts; one whose keys are tuples of ints and texts (the empty one is both) -/
  | dK (kvs : List (Key × V)) | dT (kvs : List (List Key × V))
  /-- a set of ints: its members, its size -/
  | set (S : Int → Bool) (n : Nat)
  /-- an instance of the class at C, its dict at dx, its attributes -/
  | ins (C dx : Addr) (fs : List (Str × V))
  /-- the dict of the instance at x -/
  | own (x : Addr)
  /-- the dict of an exception -/
  | xd (fs : List (Str × V))
  /-- a bound method, f of x -/
  | met (f x : Addr)
  /-- a range object lo, lo + 1, .. below hi -/
  | rng (lo hi : Int)
  /-- a thing that is known to the object (the script; a dict while a loop walks it): read, never written while it is so -/
  | frz (o : Obj) (u : HO)
  /-- a code object's table -/
  | tbl (w : Str) (ps : Array Value)
  /-- any other thing, by what is true of its one object (a def of one's own: SetO a S n := HO.ext fun h => ..) -/
  | ext (φ : Heap → Prop)
abbrev Hp := Addr → Option HO
def upd (H : Hp) (a : Addr) (o : HO) : Hp := fun b => if b = a then some o else H b
theorem upd_same {H : Hp} {a : Addr} {o : HO} : upd H a o a = some o := by unfold upd; rw [if_pos rfl]
theorem upd_ne {H : Hp} {a b : Addr} {o : HO} (h : b ≠ a) : upd H a o b = H b := by unfold upd; rw [if_neg h]
theorem ne_of_none {H : Hp} {a b : Addr} {o : HO} (h : H a = some o) (h' : H b = none) : a ≠ b := by
  intro e; subst e; rw [h] at h'; cases h'
section
variable (P : Program) (w : World)
def ObjOk (H : Hp) (h : Heap) (a : Addr) : HO → Prop
  | .lst xs => xs.length ≤ sizeLine ∧ ∃ (its : List Value) (n : Nat), Vals xs its ∧ h.get? a = some { cls := .type "list", data := .seq its.toArray n }
  | .tup xs => xs.length ≤ sizeLine ∧ ∃ its : List Value, Vals xs its ∧ TupN h a its.toArray
  | .dK kvs => kvs.length ≤ sizeLine ∧ (a == sysModules) = false ∧ ∃ vs, KV kvs vs ∧ h.DictOf (mixKind P w) a vs
  | .dT kvs => kvs.length ≤ sizeLine ∧ (a == sysModules) = false ∧ ∃ xs : List (List Key × Addr × Value),
      Paired (fun (p : List Key × V) (q : List Key × Addr × Value) => p.1 = q.1 ∧ H q.2.1 = some (.tup (p.1.map kV)) ∧ RelV p.2 q.2.2) kvs xs ∧
      ∃ o es ep, h.get? a = some o ∧ o.ExactDict ∧ o.data = .dict es ep ∧ es.toList = xs.map (entryOfKey (tupleKind (mixKind P w))) ∧ (xs.map (·.1)).Nodup
  | .set S n => h.SetOf (intKind P w) a S n
  | .ins C dx fs => H dx = some (.own a) ∧ fs.length ≤ 1000 ∧ dx ≠ a ∧ h.get? a = some (PySem.W.instObj C dx) ∧
      ∃ mA, h.Ns1 dx mA ∧ (∀ f, RelO (fs.lookup f) (mA f)) ∧ PySem.Within mA (fs.map (·.1))
  | .own _ => ∃ o, h.get? a = some o
  | .xd fs => ∃ mA, h.Ns1 a mA ∧ ∀ f, RelO (fs.lookup f) (mA f)
  | .rng lo hi => ∃ t u v, h.get? a = some { cls := .type "range", data := .fields #[.int lo t, .int hi u, .int 1 v] }
  | .frz o u => h.get? a = some o ∧ ObjOk H h a u
  | .tbl _ ps => h.get? a = some { cls := .none, data := .fields ps }
  | .met f x => h.get? a = some (PySem.W.methodObj (.ref f) (.ref x))
  | .ext φ => φ h ∧ (∃ o, h.get? a = some o) ∧ ∀ h1 h2 : Heap, φ h1 → (∀ o, h1.get? a = some o → h2.get? a = some o) → φ h2
def HOk (H : Hp) (h : Heap) : Prop := ∀ a o, H a = some o → ObjOk P w H h a o
end
section
variable {P : Program} {w : World} {H H' : Hp} {h h' : Heap} {a : Addr} {o : HO}
theorem ObjOk.lt (x : ObjOk P w H h a o) : a < h.objs.size := by
  cases o with
  | lst xs => obtain ⟨_, _, _, _, e⟩ := x; exact Heap.lt_size e
  | tup xs => obtain ⟨_, _, _, p⟩ := x; exact p.tup.lt
  | dK kvs => obtain ⟨_, _, _, _, o, _, _, e, _⟩ := x; exact Heap.lt_size e
  | dT kvs => obtain ⟨_, _, _, _, o, _, _, e, _⟩ := x; exact Heap.lt_size e
  | set S n => obtain ⟨o, _, _, _, e, _⟩ := x; exact Heap.lt_size e
  | ins C dx fs => obtain ⟨_, _, _, e, _⟩ := x; exact Heap.lt_size e
  | own y => obtain ⟨_, e⟩ := x; exact Heap.lt_size e
  | xd fs => obtain ⟨_, ⟨_, _, _, e, _⟩, _⟩ := x; exact Heap.lt_size e
  | rng lo hi => obtain ⟨_, _, _, e⟩ := x; exact Heap.lt_size e
  | frz ob u => obtain ⟨e, _⟩ := x; exact Heap.lt_size e
  | tbl w ps => exact Heap.lt_size (show h.get? a = some _ from x)
  | met f y => exact Heap.lt_size (show h.get? a = some _ from x)
  | ext φ => obtain ⟨_, ⟨_, e⟩, _⟩ := x; exact Heap.lt_size e
theorem Paired.mapP {α β : Type} {F G : α → β → Prop} : ∀ {l₁ : List α} {l₂ : List β}, Paired F l₁ l₂ → (∀ a b, F a b → G a b) → Paired G l₁ l₂
  | _, _, .nil, _ => .nil
  | _, _, .cons r t, f => .cons (f _ _ r) (Paired.mapP t f)
theorem ObjOk.stay (x : ObjOk P w H h a o) (k : ∀ b u, (b = a ∨ H b = some (.own a)) → h.get? b = some u → h'.get? b = some u)
    (ho : ∀ b, H b = some (.own a) → H' b = some (.own a)) (ht : ∀ b xs, H b = some (.tup xs) → H' b = some (.tup xs)) : ObjOk P w H' h' a o := by
  induction o with
  | lst xs => obtain ⟨z, its, n, r, e⟩ := x; exact ⟨z, its, n, r, k _ _ (.inl rfl) e⟩
  | tup xs => obtain ⟨z, its, r, ob, e, c⟩ := x; exact ⟨z, its, r, ob, k _ _ (.inl rfl) e, c⟩
  | dK kvs => obtain ⟨z, y, vs, r, ob, es, ep, e, c⟩ := x; exact ⟨z, y, vs, r, ob, es, ep, k _ _ (.inl rfl) e, c⟩
  | dT kvs =>
    obtain ⟨z, y, xs, r, ob, es, ep, e, c⟩ := x
    exact ⟨z, y, xs, Paired.mapP r fun p q z => ⟨z.1, ht _ _ z.2.1, z.2.2⟩, ob, es, ep, k _ _ (.inl rfl) e, c⟩
  | set S n => obtain ⟨ob, es, ep, t, e, c⟩ := x; exact ⟨ob, es, ep, t, k _ _ (.inl rfl) e, c⟩
  | ins C dx fs =>
    obtain ⟨d, z, ne, e, mA, ⟨od, es, ep, e2, c⟩, r⟩ := x
    exact ⟨ho _ d, z, ne, k _ _ (.inl rfl) e, mA, ⟨od, es, ep, k _ _ (.inr d) e2, c⟩, r⟩
  | own y => obtain ⟨ob, e⟩ := x; exact ⟨ob, k _ _ (.inl rfl) e⟩
  | xd fs => obtain ⟨mA, ⟨od, es, ep, e, c⟩, r⟩ := x; exact ⟨mA, ⟨od, es, ep, k _ _ (.inl rfl) e, c⟩, r⟩
  | rng lo hi => obtain ⟨t, u, v, e⟩ := x; exact ⟨t, u, v, k _ _ (.inl rfl) e⟩
  | frz ob u ih => obtain ⟨e, q⟩ := x; exact ⟨k _ _ (.inl rfl) e, ih q⟩
  | tbl w ps =>
    have e : h.get? a = some { cls := .none, data := .fields ps } := x
    show h'.get? a = some { cls := .none, data := .fields ps }
    exact k a _ (.inl rfl) e
  | met f y =>
    have e : h.get? a = some (PySem.W.methodObj (.ref f) (.ref y)) := x
    show h'.get? a = some (PySem.W.methodObj (.ref f) (.ref y))
    exact k a _ (.inl rfl) e
  | ext φ => obtain ⟨p, ⟨o, e⟩, st⟩ := x; exact ⟨st _ _ p fun o q => k _ _ (.inl rfl) q, ⟨o, k _ _ (.inl rfl) e⟩, st⟩
theorem HOk.lt (x : HOk P w H h) (e : H a = some o) : a < h.objs.size := (x a o e).lt
theorem HOk.fresh (x : HOk P w H h) (e : h.objs.size ≤ a) : H a = none := by
  cases q : H a with
  | none => rfl
  | some u => exact absurd (Nat.lt_of_lt_of_le (x.lt q) e) (Nat.lt_irrefl _)
theorem HOk.kept (x : HOk P w H h) (k : ∀ b u, h.get? b = some u → h'.get? b = some u) : HOk P w H h' := fun a o e =>
  (x a o e).stay (fun b u _ q => k b u q) (fun _ q => q) fun _ _ q => q
theorem HOk.laid (x : HOk P w H h) (k : ∀ b u, h.get? b = some u → h'.get? b = some u) (hp : h.objs.size ≤ a) (new : ObjOk P w (upd H a o) h' a o) : HOk P w (upd H a o) h' := fun b u e => by
  have hn := x.fresh hp
  by_cases hb : b = a
  · subst hb; rw [upd_same] at e; cases e; exact new
  · rw [upd_ne hb] at e
    exact (x b u e).stay (fun c v _ q => k c v q) (fun c q => by rw [upd_ne (ne_of_none q hn)]; exact q) fun c xs q => by rw [upd_ne (ne_of_none q hn)]; exact q
end
def Rd (H : Hp) (a : Addr) (u : HO) : Prop := H a = some u ∨ ∃ o, H a = some (.frz o u)
theorem Rd.ok {P : Program} {w : World} {H : Hp} {h : Heap} {a : Addr} {u : HO} (r : Rd H a u) (x : HOk P w H h) : ObjOk P w H h a u := by
  rcases r with r | ⟨o, r⟩
  · exact x a u r
  · obtain ⟨_, q⟩ := x a _ r
    exact q
def Mut : Option HO → Prop
  | some (.lst _) => True
  | some (.dK _) => True
  | some (.dT _) => True
  | some (.set _ _) => True
  | some (.ins _ _ _) => True
  | some (.ext _) => True
  | _ => False
section
variable {P : Program} {w : World} {H : Hp} {h h' : Heap} {x e : Addr} {o' : HO}
theorem HOk.write (ok : HOk P w H h) (mu : Mut (H x)) (he : e = x ∨ H e = some (.own x)) (k : ∀ b u, b ≠ e → h.get? b = some u → h'.get? b = some u) (heo : ∃ u, h'.get? e = some u)
    (new : ObjOk P w (upd H x o') h' x o') : HOk P w (upd H x o') h' := fun b u q => by
  have nown : ∀ c y, H c = some (.own y) → c ≠ x := fun c y r z => by subst z; rw [r] at mu; exact mu
  have ntup : ∀ c xs, H c = some (.tup xs) → c ≠ x := fun c xs r z => by subst z; rw [r] at mu; exact mu
  by_cases hb : b = x
  · subst hb; rw [upd_same] at q; cases q; exact new
  · rw [upd_ne hb] at q
    by_cases hbe : b = e
    · have q' : H b = some (.own x) := by
        rcases he with z | z
        · exact absurd (hbe.trans z) hb
        · rw [hbe]; exact z
      rw [q] at q'; cases q'
      obtain ⟨v, hv⟩ := heo
      exact ⟨v, by rw [hbe]; exact hv⟩
    · refine (ok b u q).stay (fun c v hc r => k c v ?_ r) (fun c r => by rw [upd_ne (nown c b r)]; exact r) fun c xs r => by rw [upd_ne (ntup c xs r)]; exact r
      rcases hc with rfl | hc
      · exact hbe
      · rintro rfl
        rcases he with z | z
        · exact nown c b hc z
        · rw [hc] at z; cases z; exact hb rfl
end
structure Un (fs ex : List Addr) (H H' : Hp) (h h' : Heap) : Prop where
  keep : ∀ b o, h.get? b = some o → H b = none → b ∉ fs → b ∉ ex → h'.get? b = some o
  slot : ∀ b o, h.get? b = some o → H b = none → b ∈ fs → b ∉ ex → ∃ sl, h'.get? b = some { o with slots := sl }
  free : ∀ b o, h.get? b = some o → H b = none → b ∉ ex → H' b = none
  there : ∀ b o, h.get? b = some o → b ∉ ex → ∃ o', h'.get? b = some o'
  tups : ∀ b xs, H b = some (.tup xs) → H' b = some (.tup xs)
  frzs : ∀ b o u, H b = some (.frz o u) → H' b = some (.frz o u)
  tbls : ∀ b w ps, H b = some (.tbl w ps) → ∃ more, H' b = some (.tbl w (ps ++ more))
section
variable {fs fs' ex ex' : List Addr} {H H1 H2 : Hp} {h h1 h2 h' : Heap} {a x e : Addr} {o : HO}
theorem Un.any (u : Un fs ex H H1 h h1) {b : Addr} {ob : Obj} (q : h.get? b = some ob) (n : H b = none) (hx : b ∉ ex) : ∃ sl, h1.get? b = some { ob with slots := sl } := by
  by_cases hb : b ∈ fs
  · exact u.slot b ob q n hb hx
  · exact ⟨ob.slots, u.keep b ob q n hb hx⟩
theorem Un.kept (k : ∀ b u, h.get? b = some u → h'.get? b = some u) : Un fs ex H H h h' :=
  ⟨fun b ob q _ _ _ => k b ob q, fun b ob q _ _ _ => ⟨ob.slots, k b ob q⟩, fun _ _ _ n _ => n, fun b ob q _ => ⟨ob, k b ob q⟩, fun _ _ q => q, fun _ _ _ q => q, fun _ w ps q => ⟨#[], by rw [q]; simp⟩⟩
theorem Un.refl : Un fs ex H H h h := Un.kept fun _ _ q => q
theorem Un.laid (k : ∀ b u, h.get? b = some u → h'.get? b = some u) (hp : h.objs.size ≤ a) (hn : H a = none) : Un fs ex H (upd H a o) h h' where
  keep := fun b u q _ _ _ => k b u q
  slot := fun b u q _ _ _ => ⟨u.slots, k b u q⟩
  free := fun b u q n _ => by rw [upd_ne (Nat.ne_of_lt (Nat.lt_of_lt_of_le (Heap.lt_size q) hp))]; exact n
  there := fun b u q _ => ⟨u, k b u q⟩
  tups := fun b xs q => by rw [upd_ne (ne_of_none q hn)]; exact q
  frzs := fun b u xs q => by rw [upd_ne (ne_of_none q hn)]; exact q
  tbls := fun b w ps q => ⟨#[], by rw [upd_ne (ne_of_none q hn), q]; simp⟩
theorem Un.write (mu : Mut (H x)) (he : e = x ∨ H e = some (.own x)) (k : ∀ b u, b ≠ e → h.get? b = some u → h'.get? b = some u) (heo : ∃ u, h'.get? e = some u) : Un fs ex H (upd H x o) h h' := by
  have hx : ∀ b, H b = none → b ≠ x := fun b n z => by subst z; rw [n] at mu; exact mu
  have hb : ∀ b, H b = none → b ≠ e := fun b n z => by
    subst z
    rcases he with r | r
    · exact hx b n r
    · rw [n] at r; cases r
  have hm : ∀ b u, H b = some u → ¬ Mut (some u) → b ≠ x := fun b u q nm z => by subst z; rw [q] at mu; exact nm mu
  refine ⟨fun b u q n _ _ => k b u (hb b n) q, fun b u q n _ _ => ⟨u.slots, k b u (hb b n) q⟩, fun b u q n _ => by rw [upd_ne (hx b n)]; exact n, fun b u q _ => ?_,
    fun b xs q => by rw [upd_ne (hm b _ q fun z => z)]; exact q, fun b u xs q => by rw [upd_ne (hm b _ q fun z => z)]; exact q, fun b w ps q => ⟨#[], by rw [upd_ne (hm b _ q fun z => z), q]; simp⟩⟩
  by_cases hbe : b = e
  · subst hbe; exact heo
  · exact ⟨u, k b u hbe q⟩
end
def trk (h : Heap) (H : Hp) : List Addr := (List.range h.objs.size).filter fun a => (H a).isSome
def hidT (h : Heap) (H : Hp) : Heap := PySem.W.hideAll h (trk h H)
theorem hidT_size (h : Heap) (H : Hp) : (hidT h H).objs.size = h.objs.size := PySem.W.hideAll_size _ _
theorem hidT_get {h : Heap} {H : Hp} {b : Addr} {o : Obj} (e : h.get? b = some o) (n : H b = none) : (hidT h H).get? b = some o :=
  PySem.W.hideAll_get _ e fun hm => by
    have q : (H b).isSome = true := (List.mem_filter.mp hm).2
    rw [n] at q; simp at q
theorem of_hidT {h : Heap} {H : Hp} {b : Addr} {o : Obj} (e : (hidT h H).get? b = some o) : h.get? b = some o ∧ H b = none := by
  have e' : h.get? b = some o := PySem.W.of_hideAll (trk h H) e
  refine ⟨e', ?_⟩
  cases q : H b with
  | none => rfl
  | some x =>
    have hm : b ∈ trk h H := List.mem_filter.mpr ⟨List.mem_range.mpr (Heap.lt_size e'), by simp [q]⟩
    have z : (hidT h H).get? b = none := PySem.W.hideAll_none (trk h H) hm
    rw [z] at e; cases e
end L2
namespace L2
open PySem PySem.Spec PyProof.Rows
structure Mod (K : PySem.W.Frag) (mg : Str → Option Value) (base : Heap) : Prop where
  kin : K.In base
  glob : base.Ns mainGlobals mg
  blt : ∃ mb, base.Ns builtinsNs mb ∧ ∀ x : Str, x ≠ "__name__" → mb x = bootBuiltins x
  nolimit : base.NoLimit
structure Cx where
  prog : Program
  w : World
  K : PySem.W.Frag
  mg : Str → Option Value
  base : Heap
  A : Around
  N : List Str
  s₀ : Shared
  H₀ : Hp
  env : Env
  outer : List Env
  stack : List Env
  ex : List Addr
  fn : Str → Bool
  calm : Bool
  pn : List (Addr × Obj)
  xe : Value → Shared → Prop
def frs (l : List Env) : List Addr := l.filterMap (·.frame)
abbrev Cx.fs (X : Cx) : List Addr := frs X.outer
def Vis (sc : Scope) (x : Str) : Prop := sc.names.lookup x = some .local ∨ sc.names.lookup x = some .cell ∨ sc.names.lookup x = some .free
def Loc (sc : Scope) (x : Str) : Prop := sc.names.lookup x = some .local ∨ sc.names.lookup x = some .cell
def Look (env : Env) (h : Heap) (m : Str → Option Value) (x : Str) (u : Value) : Prop :=
  (env.kindOf x = some .local ∧ m x = some u) ∨ ((env.kindOf x = some .cell ∨ env.kindOf x = some .free) ∧ ∃ c, env.cells.lookup x = some c ∧ h.IsCell c (some u))
structure Cx.Ok (X : Cx) : Prop where
  mod : Mod X.K X.mg X.base
  kind : X.env.scope.kind = .function
  glob : X.env.globals = mainGlobals
  blt : X.env.builtins = builtinsNs
  above : X.s₀.heap.objs.size ≤ X.env.locals
  inj : ∀ x y c, X.env.cells.lookup x = some c → X.env.cells.lookup y = some c → x = y
  has : ∀ x, (X.env.kindOf x = some .cell ∨ X.env.kindOf x = some .free) → ∃ c, X.env.cells.lookup x = some c
  cab : ∀ x c, X.fn x = true → X.env.cells.lookup x = some c → X.s₀.heap.objs.size ≤ c
  hd : X.calm = true → X.A.handled = none
  frames : X.A.frames = some X.stack
  stk : X.stack = X.outer ∨ (X.stack = X.env :: X.outer ∧ X.env.frame = some X.env.locals)
  exf : ∀ b ∈ X.ex, b ≠ X.env.locals ∧ ∀ x c, X.env.cells.lookup x = some c → c ≠ b
  bs : ∀ b o, X.base.get? b = some o → X.s₀.heap.get? b = some o ∧ X.H₀ b = none
  bsz : X.base.objs.size ≤ X.s₀.heap.objs.size
  noex : ∀ b o, X.base.get? b = some o → b ∉ X.ex
  exfs : ∀ b ∈ X.ex, b ∉ X.fs
  funs : X.s₀.heap.FunFrames X.base X.outer
  frf : ∀ b ∈ X.fs, X.H₀ b = none
structure Inv (X : Cx) (pins : List (Addr × Obj)) (σ : List (Option V)) (H : Hp) (s : Shared) : Prop where
  ok : X.Ok
  os : s.os = X.s₀.os
  bare : AllBare s.gens
  base : Un X.fs X.ex X.H₀ H X.s₀.heap s.heap
  loc : ∃ m, s.heap.Ns X.env.locals m ∧ ∀ (i : Nat) (x : Str) (v : V), X.N[i]? = some x → σ[i]? = some (some v) → Vis X.env.scope x → ∃ u, RelV v u ∧ Look X.env s.heap m x u
  cell : ∀ x c, X.env.cells.lookup x = some c → ∃ v, s.heap.IsCell c v
  free : H X.env.locals = none
  freeC : ∀ x c, X.env.cells.lookup x = some c → H c = none
  pin : ∀ p ∈ X.pn ++ pins, s.heap.get? p.1 = some p.2 ∧ H p.1 = none ∧ p.1 ≠ X.env.locals ∧ p.1 ∉ X.fs ∧ ∀ v, p.2.data ≠ .cell v
  hok : HOk X.prog X.w H s.heap
  len : σ.length = X.N.length
section
variable {X : Cx} {pins : List (Addr × Obj)} {σ : List (Option V)} {H H' : Hp} {s : Shared} {h' : Heap}
theorem Cx.Ok.nofr (ok : X.Ok) {b : Addr} {o : Obj} (e : X.base.get? b = some o) : b ∉ X.fs := fun hb => by
  have := (ok.funs.mem hb).1
  rw [e] at this; cases this
theorem Inv.bs (I : Inv X pins σ H s) : ∀ b o, X.base.get? b = some o → s.heap.get? b = some o ∧ H b = none := fun b o e =>
  ⟨I.base.keep b o (I.ok.bs b o e).1 (I.ok.bs b o e).2 (I.ok.nofr e) (I.ok.noex b o e), I.base.free b o (I.ok.bs b o e).1 (I.ok.bs b o e).2 (I.ok.noex b o e)⟩
theorem Inv.bk (I : Inv X pins σ H s) : ∀ b o, X.base.get? b = some o → s.heap.get? b = some o := fun b o e => (I.bs b o e).1
theorem Inv.mod (I : Inv X pins σ H s) : Mod X.K X.mg X.base := I.ok.mod
theorem Inv.kIn (I : Inv X pins σ H s) : X.K.In s.heap := I.ok.mod.kin.keeps I.bk
theorem Inv.nolimit (I : Inv X pins σ H s) : s.heap.NoLimit := I.ok.mod.nolimit.keeps I.bk
theorem Inv.lt (I : Inv X pins σ H s) : X.env.locals < s.heap.objs.size := let ⟨_, hn, _⟩ := I.loc; hn.lt
theorem Inv.sz (I : Inv X pins σ H s) : X.s₀.heap.objs.size ≤ s.heap.objs.size := Nat.le_trans I.ok.above (Nat.le_of_lt I.lt)
theorem Inv.nofs (I : Inv X pins σ H s) {a : Addr} (h : s.heap.objs.size ≤ a) : a ∉ X.fs := fun hb => by
  obtain ⟨_, o, ho, _⟩ := I.ok.funs.mem hb
  exact absurd (Nat.lt_of_lt_of_le (Heap.lt_size ho) (Nat.le_trans I.sz h)) (Nat.lt_irrefl _)
theorem Inv.cne (I : Inv X pins σ H s) : ∀ x c, X.env.cells.lookup x = some c → c ≠ X.env.locals := fun x c e z => by
  obtain ⟨v, o, ho, hd⟩ := I.cell x c e
  obtain ⟨m, ⟨o', es, ep, ho', hd', _⟩, _⟩ := I.loc
  rw [z, ho'] at ho; cases ho; rw [hd'] at hd; cases hd
theorem Inv.funs (I : Inv X pins σ H s) : s.heap.FunFrames X.base X.outer := by
  have all : ∀ (l : List Env), (∀ b ∈ frs l, b ∈ X.fs) → X.s₀.heap.FunFrames X.base l → s.heap.FunFrames X.base l := by
    intro l
    induction l with
    | nil => intro _ _; trivial
    | cons env r ih =>
      intro hs hl
      obtain ⟨hk, ⟨L, o, hf, hn, ho, hd⟩, hr⟩ := hl
      have hL : L ∈ X.fs := hs L (by unfold frs; rw [List.filterMap_cons, hf]; exact List.mem_cons_self)
      obtain ⟨sl, e⟩ := I.base.slot L o ho (I.ok.frf L hL) hL fun z => I.ok.exfs L z hL
      exact ⟨hk, ⟨L, _, hf, hn, e, hd⟩, ih (fun b hb => hs b (by unfold frs; rw [List.filterMap_cons, hf]; exact List.mem_cons_of_mem _ hb)) hr⟩
  exact all X.outer (fun _ hb => hb) I.ok.funs
theorem Inv.stack (I : Inv X pins σ H s) : s.heap.FunFrames X.base X.stack := by
  rcases I.ok.stk with e | ⟨e, hf⟩
  · rw [e]; exact I.funs
  · rw [e]
    obtain ⟨m, hn, _⟩ := I.loc
    refine .cons (by rw [I.ok.kind]; decide) hf hn ?_ I.funs
    exact Heap.get?_none_of_le (Nat.le_trans I.ok.bsz I.ok.above)
theorem Inv.stkSub (I : Inv X pins σ H s) : ∀ b ∈ frs X.stack, b ∈ X.env.locals :: X.fs := fun b hb => by
  rcases I.ok.stk with e | ⟨e, hf⟩
  · rw [e] at hb; exact List.mem_cons_of_mem _ hb
  · rw [e] at hb
    unfold frs at hb
    rw [List.filterMap_cons, hf] at hb
    exact hb
theorem Inv.stkFree (I : Inv X pins σ H s) : ∀ b ∈ frs X.stack, H b = none := fun b hb => by
  rcases List.mem_cons.mp (I.stkSub b hb) with e | hb
  · rw [e]; exact I.free
  · obtain ⟨_, o, ho, _⟩ := I.ok.funs.mem hb
    exact I.base.free b o ho (I.ok.frf b hb) fun z => I.ok.exfs b z hb
theorem Inv.step {g' : Array GenState} {t' : Nat} {d' : Drawn} {ch : List Addr} (I : Inv X pins σ H s)
    (hch : ∀ b ∈ ch, (b ∈ X.ex ∨ X.s₀.heap.objs.size ≤ b) ∧ b ≠ X.env.locals ∧ (∀ x c, X.env.cells.lookup x = some c → c ≠ b) ∧ ∀ p ∈ X.pn ++ pins, p.1 ≠ b)
    (keep : ∀ b o, b ≠ X.env.locals → b ∉ X.fs → b ∉ ch → s.heap.get? b = some o → H b = none → h'.get? b = some o)
    (slot : ∀ b o, b ≠ X.env.locals → b ∈ X.fs → b ∉ ch → s.heap.get? b = some o → H b = none → ∃ sl, h'.get? b = some { o with slots := sl }) (free : ∀ b o, b ∉ ch → s.heap.get? b = some o → H b = none → H' b = none)
    (there : ∀ b o, b ∉ ch → s.heap.get? b = some o → ∃ o', h'.get? b = some o')
    (tups : ∀ b xs, H b = some (.tup xs) → H' b = some (.tup xs)) (frzs : ∀ b o u, H b = some (.frz o u) → H' b = some (.frz o u)) (tbls : ∀ b w ps, H b = some (.tbl w ps) → ∃ more, H' b = some (.tbl w (ps ++ more)))
    (ns : ∀ m, s.heap.Ns X.env.locals m → h'.Ns X.env.locals m) (hok : HOk X.prog X.w H' h') (hg : AllBare g') :
    Inv X pins σ H' { s with heap := h', gens := g', drawn := d', toks := t' } := by
  have neL : ∀ b o, X.s₀.heap.get? b = some o → b ≠ X.env.locals := fun b o e => Nat.ne_of_lt (Nat.lt_of_lt_of_le (Heap.lt_size e) I.ok.above)
  have neC : ∀ b o, X.s₀.heap.get? b = some o → b ∉ X.ex → b ∉ ch := fun b o e hx hb => by
    rcases (hch b hb).1 with z | z
    · exact hx z
    · exact absurd (Nat.lt_of_lt_of_le (Heap.lt_size e) z) (Nat.lt_irrefl _)
  have cellK : ∀ x c, X.env.cells.lookup x = some c → ∀ v, s.heap.IsCell c v → h'.IsCell c v := fun x c e v ⟨o, ho, hd⟩ => by
    have nch : c ∉ ch := fun z => (hch c z).2.2.1 x c e rfl
    by_cases hc : c ∈ X.fs
    · obtain ⟨sl, q⟩ := slot c o (I.cne x c e) hc nch ho (I.freeC x c e)
      exact ⟨_, q, hd⟩
    · exact ⟨o, keep c o (I.cne x c e) hc nch ho (I.freeC x c e), hd⟩
  refine ⟨I.ok, I.os, hg, ⟨fun b o e n hb hx => ?_, fun b o e n hb hx => ?_, fun b o e n hx => ?_, fun b o e hx => ?_, fun b xs e => tups b xs (I.base.tups b xs e), fun b o xs e => frzs b o xs (I.base.frzs b o xs e), fun b w ps e => ?_⟩, ?_, fun x c e => ?_, ?_, fun x c e => ?_, fun p hp => ?_, hok, I.len⟩
  · exact keep b o (neL b o e) hb (neC b o e hx) (I.base.keep b o e n hb hx) (I.base.free b o e n hx)
  · obtain ⟨sl, e1⟩ := I.base.slot b o e n hb hx
    obtain ⟨sl', e2⟩ := slot b _ (neL b o e) hb (neC b o e hx) e1 (I.base.free b o e n hx)
    exact ⟨sl', e2⟩
  · obtain ⟨o', e1⟩ := I.base.there b o e hx
    exact free b o' (neC b o e hx) e1 (I.base.free b o e n hx)
  · obtain ⟨o', e1⟩ := I.base.there b o e hx
    exact there b o' (neC b o e hx) e1
  · obtain ⟨m1, e1⟩ := I.base.tbls b w ps e
    obtain ⟨m2, e2⟩ := tbls b w _ e1
    exact ⟨m1 ++ m2, by rw [e2, Array.append_assoc]⟩
  · obtain ⟨m, hn, hl⟩ := I.loc
    refine ⟨m, ns m hn, fun i x v e1 e2 e3 => ?_⟩
    obtain ⟨u, r, l⟩ := hl i x v e1 e2 e3
    refine ⟨u, r, ?_⟩
    rcases l with l | ⟨k, c, e, z⟩
    · exact .inl l
    · exact .inr ⟨k, c, e, cellK x c e _ z⟩
  · obtain ⟨v, z⟩ := I.cell x c e
    exact ⟨v, cellK x c e v z⟩
  · obtain ⟨m, ⟨o, _, _, ho, _⟩, _⟩ := I.loc
    exact free _ o (fun z => (hch _ z).2.1 rfl) ho I.free
  · obtain ⟨v, o, ho, hd⟩ := I.cell x c e
    exact free c o (fun z => (hch c z).2.2.1 x c e rfl) ho (I.freeC x c e)
  · obtain ⟨e, n, ne, nf, d⟩ := I.pin p hp
    have nch : p.1 ∉ ch := fun z => (hch p.1 z).2.2.2 p hp rfl
    exact ⟨keep p.1 p.2 ne nf nch e n, free p.1 p.2 nch e n, ne, nf, d⟩
theorem Inv.un {t' : Nat} (I : Inv X pins σ H s) (u : Un X.fs [] H H' s.heap h') (hok : HOk X.prog X.w H' h') : Inv X pins σ H' { s with heap := h', toks := t' } := by
  obtain ⟨m, ⟨o, es, ep, ho, r⟩, _⟩ := id I.loc
  obtain ⟨sl, hL⟩ := u.any ho I.free (by simp)
  exact I.step (g' := s.gens) (d' := s.drawn) (ch := []) (fun _ z => nomatch z) (fun b o _ hb _ e n => u.keep b o e n hb (by simp)) (fun b o _ hb _ e n => u.slot b o e n hb (by simp)) (fun b o _ e n => u.free b o e n (by simp)) (fun b o _ e => u.there b o e (by simp)) u.tups u.frzs u.tbls (fun m' hm => by
    obtain ⟨o', es', ep', ho', r'⟩ := hm
    rw [ho] at ho'; cases ho'
    exact ⟨_, es', ep', hL, r'⟩) hok I.bare
theorem Inv.call {g' : Array GenState} {t' : Nat} {d' : Drawn} {ch : List Addr} (I : Inv X pins σ H s) (u : Un (frs X.stack) ch H H' s.heap h') (hok : HOk X.prog X.w H' h') (hg : AllBare g')
    (hch : ∀ b ∈ ch, (b ∈ X.ex ∨ X.s₀.heap.objs.size ≤ b) ∧ b ≠ X.env.locals ∧ (∀ x c, X.env.cells.lookup x = some c → c ≠ b) ∧ ∀ p ∈ X.pn ++ pins, p.1 ≠ b) :
    Inv X pins σ H' { s with heap := h', gens := g', drawn := d', toks := t' } := by
  obtain ⟨m, ⟨o, es, ep, ho, r⟩, _⟩ := id I.loc
  obtain ⟨sl, hL⟩ := u.any ho I.free fun z => (hch _ z).2.1 rfl
  exact I.step (ch := ch) hch (fun b o hL hb hc e n => u.keep b o e n (fun z => (List.mem_cons.mp (I.stkSub b z)).elim hL hb) hc) (fun b o _ _ hc e n => u.any e n hc) (fun b o hc e n => u.free b o e n hc) (fun b o hc e => u.there b o e hc) u.tups u.frzs u.tbls (fun m' hm => by
    obtain ⟨o', es', ep', ho', r'⟩ := hm
    rw [ho] at ho'; cases ho'
    exact ⟨_, es', ep', hL, r'⟩) hok hg
theorem Inv.turned {t' : Nat} {it : Addr} (I : Inv X pins σ H s) (k : ∀ b o, b ≠ it → s.heap.get? b = some o → h'.get? b = some o) (hn : H it = none) (hL : it ≠ X.env.locals)
    (h1 : it ∈ X.ex ∨ X.s₀.heap.objs.size ≤ it) (h2 : ∀ x c, X.env.cells.lookup x = some c → c ≠ it) (h3 : ∀ p ∈ X.pn ++ pins, p.1 ≠ it) : Inv X pins σ H { s with heap := h', toks := t' } := by
  have nit : ∀ b u, H b = some u → b ≠ it := fun b u e z => by rw [z, hn] at e; cases e
  refine I.step (g' := s.gens) (d' := s.drawn) (ch := [it]) (fun b hb => ?_) (fun b o _ _ hc e _ => k b o (fun z => hc (by simp [z])) e) (fun b o _ _ hc e _ => ⟨o.slots, k b o (fun z => hc (by simp [z])) e⟩) (fun _ _ _ _ n => n)
    (fun b o hc e => ⟨o, k b o (fun z => hc (by simp [z])) e⟩) (fun _ _ e => e) (fun _ _ _ e => e) (fun b w ps e => ⟨#[], by rw [e]; simp⟩) (fun m hm => ?_) (fun b u e => ?_) I.bare
  · have e : b = it := by simpa using hb
    subst e
    exact ⟨h1, hL, h2, h3⟩
  · obtain ⟨o, es, ep, ho, r⟩ := hm
    exact ⟨o, es, ep, k _ o (Ne.symm hL) ho, r⟩
  · refine (I.hok b u e).stay (fun c v hc q => k c v ?_ q) (fun _ q => q) fun _ _ q => q
    rcases hc with z | z
    · rw [z]; exact nit b u e
    · exact nit c _ z
theorem Inv.tok (I : Inv X pins σ H s) (t : Nat) : Inv X pins σ H { s with toks := t } := I.un (h' := s.heap) (t' := t) Un.refl I.hok
theorem Inv.kept {t' : Nat} (I : Inv X pins σ H s) (k : ∀ b u, s.heap.get? b = some u → h'.get? b = some u) : Inv X pins σ H { s with heap := h', toks := t' } := I.un (Un.kept k) (I.hok.kept k)
theorem Inv.laid {a : Addr} {o : HO} {t' : Nat} (I : Inv X pins σ H s) (k : ∀ b u, s.heap.get? b = some u → h'.get? b = some u) (hp : s.heap.objs.size ≤ a) (new : ObjOk X.prog X.w (upd H a o) h' a o) :
    Inv X pins σ (upd H a o) { s with heap := h', toks := t' } := I.un (Un.laid k hp (I.hok.fresh hp)) (I.hok.laid k hp new)
theorem Inv.write {x e : Addr} {o : HO} {t' : Nat} (I : Inv X pins σ H s) (mu : Mut (H x)) (he : e = x ∨ H e = some (.own x)) (k : ∀ b u, b ≠ e → s.heap.get? b = some u → h'.get? b = some u) (heo : ∃ u, h'.get? e = some u)
    (new : ObjOk X.prog X.w (upd H x o) h' x o) : Inv X pins σ (upd H x o) { s with heap := h', toks := t' } := I.un (Un.write mu he k heo) (I.hok.write mu he k heo new)
theorem Inv.weak {σ' : List (Option V)} (I : Inv X pins σ H s) (hl : σ'.length = σ.length) (w : ∀ (i : Nat) v, σ'[i]? = some (some v) → σ[i]? = some (some v)) : Inv X pins σ' H s :=
  ⟨I.ok, I.os, I.bare, I.base, let ⟨m, hn, hl'⟩ := I.loc; ⟨m, hn, fun i x v e1 e2 e3 => hl' i x v e1 (w i v e2) e3⟩, I.cell, I.free, I.freeC, I.pin, I.hok, hl.trans I.len⟩
theorem Inv.pins_of {pins' : List (Addr × Obj)} (I : Inv X pins σ H s) (h : ∀ p ∈ pins', s.heap.get? p.1 = some p.2 ∧ H p.1 = none ∧ p.1 ≠ X.env.locals ∧ p.1 ∉ X.fs ∧ ∀ v, p.2.data ≠ .cell v) : Inv X pins' σ H s :=
  ⟨I.ok, I.os, I.bare, I.base, I.loc, I.cell, I.free, I.freeC, fun p hp => (List.mem_append.mp hp).elim (fun z => I.pin p (List.mem_append_left _ z)) (h p), I.hok, I.len⟩
theorem nodup_ix {N : List Str} (hN : N.Nodup) {i j : Nat} {x : Str} (a : N[i]? = some x) (b : N[j]? = some x) : i = j := by
  obtain ⟨h1, e1⟩ := List.getElem?_eq_some_iff.mp a
  obtain ⟨h2, e2⟩ := List.getElem?_eq_some_iff.mp b
  exact (List.getElem_inj hN).mp (e1.trans e2.symm)
theorem store_ok2 {M : Model} {A : Around} {E : Value → Shared → Prop} {i : Nat} {x : Str} {v : V} {u : Value} {Q : Unit → Shared → Prop} (I : Inv X pins σ H s) (hN : X.N.Nodup) (hi : X.N[i]? = some x) (hx : Loc X.env.scope x) (r : RelV v u)
    (h : ∀ s', Inv X pins (σ.set i (some v)) H s' → (∃ a, Heap.SameBut a s.heap s'.heap ∧ (a = X.env.locals ∨ X.env.cells.lookup x = some a)) → Q () s') (hf : X.fn x = true ∨ X.env.scope.names.lookup x = some .local := by first | exact .inl rfl | exact .inr rfl | assumption) : wpAny M A (storeName X.env x u) Q E s := by
  obtain ⟨m, hn, hl⟩ := id I.loc
  have hcls : (X.env.scope.kind == .class || (X.env.scope.kind == .module && X.env.locals != X.env.globals)) = false := by rw [I.ok.kind]; rfl
  have hiσ : i < σ.length := by rw [I.len]; exact (List.getElem?_eq_some_iff.mp hi).1
  have cne := I.cne
  have tracked : ∀ {a : Addr} {h' : Heap}, (∃ o, s.heap.get? a = some o ∧ H a = none) → Heap.SameBut a s.heap h' → HOk X.prog X.w H h' := fun {a h'} ha hs b ob e => by
    obtain ⟨_, _, hfree⟩ := ha
    refine (I.hok b ob e).stay (fun c w' hc q => (hs.2 c ?_).trans q) (fun _ q => q) fun _ _ q => q
    rintro rfl
    rcases hc with rfl | hc
    · rw [hfree] at e; cases e
    · rw [hfree] at hc; cases hc
  rcases hx with hk | hk
  · refine wpAny_storeName_local hk hn (fun h' hn' hs => ?_) hcls
    obtain ⟨oL, _, _, hoL, _⟩ := id hn
    refine h _ ⟨I.ok, I.os, I.bare, ⟨fun b o e n hb hx => ?_, fun b o e n hb hx => ?_, I.base.free, fun b o e hx => ?_, I.base.tups, I.base.frzs, I.base.tbls⟩, ⟨_, hn', fun j y v' e1 e2 e3 => ?_⟩, fun y c e => ?_, I.free, I.freeC, fun p hp => ?_, tracked ⟨oL, hoL, I.free⟩ hs, by simpa using I.len⟩ ⟨_, hs, .inl rfl⟩
    · exact (hs.2 b (Nat.ne_of_lt (Nat.lt_of_lt_of_le (Heap.lt_size e) I.ok.above))).trans (I.base.keep b o e n hb hx)
    · obtain ⟨sl, e1⟩ := I.base.slot b o e n hb hx
      exact ⟨sl, (hs.2 b (Nat.ne_of_lt (Nat.lt_of_lt_of_le (Heap.lt_size e) I.ok.above))).trans e1⟩
    · obtain ⟨o', e1⟩ := I.base.there b o e hx
      exact ⟨o', (hs.2 b (Nat.ne_of_lt (Nat.lt_of_lt_of_le (Heap.lt_size e) I.ok.above))).trans e1⟩
    · by_cases hj : j = i
      · subst hj
        rw [hi] at e1; cases e1
        rw [List.getElem?_set_self hiσ] at e2
        cases e2
        exact ⟨u, r, .inl ⟨hk, by simp⟩⟩
      · rw [List.getElem?_set_ne (Ne.symm hj)] at e2
        obtain ⟨u', r', q⟩ := hl j y v' e1 e2 e3
        refine ⟨u', r', ?_⟩
        rcases q with ⟨k, e⟩ | ⟨k, c, e, z⟩
        · refine .inl ⟨k, ?_⟩
          have : y ≠ x := fun e => hj (nodup_ix hN e1 (e ▸ hi))
          simp [this, e]
        · exact .inr ⟨k, c, e, z.sameBut hs (cne y c e)⟩
    · obtain ⟨w', z⟩ := I.cell y c e
      exact ⟨w', z.sameBut hs (cne y c e)⟩
    · obtain ⟨e, n, ne, nf, d⟩ := I.pin p hp
      exact ⟨(hs.2 p.1 ne).trans e, n, ne, nf, d⟩
  · have hfn : X.fn x = true := by
      rcases hf with z | z
      · exact z
      · rw [z] at hk; cases hk
    obtain ⟨c, hc⟩ := I.ok.has x (.inl hk)
    obtain ⟨w', z⟩ := I.cell x c hc
    refine wpAny_storeName_cell I.ok.kind hk hc z (fun h' hc' hs => ?_)
    obtain ⟨oc, hoc, hocd⟩ := id z
    refine h { s with heap := h' } ⟨I.ok, I.os, I.bare, ⟨fun b o e n hb hx => ?_, fun b o e n hb hx => ?_, I.base.free, fun b o e hx => ?_, I.base.tups, I.base.frzs, I.base.tbls⟩, ⟨m, hn.sameBut hs (Ne.symm (cne x c hc)), fun j y v' e1 e2 e3 => ?_⟩, fun y c' e => ?_, I.free, I.freeC, fun p hp => ?_, tracked ⟨oc, hoc, I.freeC x c hc⟩ hs, by simpa using I.len⟩ ⟨c, hs, .inr hc⟩
    · exact (hs.2 b (Nat.ne_of_lt (Nat.lt_of_lt_of_le (Heap.lt_size e) (I.ok.cab x c hfn hc)))).trans (I.base.keep b o e n hb hx)
    · obtain ⟨sl, e1⟩ := I.base.slot b o e n hb hx
      exact ⟨sl, (hs.2 b (Nat.ne_of_lt (Nat.lt_of_lt_of_le (Heap.lt_size e) (I.ok.cab x c hfn hc)))).trans e1⟩
    · obtain ⟨o', e1⟩ := I.base.there b o e hx
      exact ⟨o', (hs.2 b (Nat.ne_of_lt (Nat.lt_of_lt_of_le (Heap.lt_size e) (I.ok.cab x c hfn hc)))).trans e1⟩
    · by_cases hj : j = i
      · subst hj
        rw [hi] at e1; cases e1
        rw [List.getElem?_set_self hiσ] at e2
        cases e2
        exact ⟨u, r, .inr ⟨.inl hk, c, hc, hc'⟩⟩
      · rw [List.getElem?_set_ne (Ne.symm hj)] at e2
        obtain ⟨u', r', q⟩ := hl j y v' e1 e2 e3
        refine ⟨u', r', ?_⟩
        rcases q with q | ⟨k, c', e, z'⟩
        · exact .inl q
        · refine .inr ⟨k, c', e, z'.sameBut hs ?_⟩
          rintro rfl
          exact hj (nodup_ix hN e1 (I.ok.inj _ _ _ e hc ▸ hi))
    · by_cases hcc : c' = c
      · subst hcc; exact ⟨_, hc'⟩
      · obtain ⟨w2, z2⟩ := I.cell y c' e
        exact ⟨w2, z2.sameBut hs hcc⟩
    · obtain ⟨e, n, ne, nf, d⟩ := I.pin p hp
      refine ⟨(hs.2 p.1 ?_).trans e, n, ne, nf, d⟩
      intro q
      rw [q, hoc] at e
      have q' : oc = p.2 := Option.some.inj e
      exact d w' (by rw [← q']; exact hocd)
theorem store_ok {M : Model} {A : Around} {E : Value → Shared → Prop} {i : Nat} {x : Str} {v : V} {u : Value} {Q : Unit → Shared → Prop} (I : Inv X pins σ H s) (hN : X.N.Nodup) (hi : X.N[i]? = some x) (hx : Loc X.env.scope x) (r : RelV v u)
    (h : ∀ s', Inv X pins (σ.set i (some v)) H s' → Q () s') (hf : X.fn x = true ∨ X.env.scope.names.lookup x = some .local := by first | exact .inl rfl | exact .inr rfl | assumption) : wpAny M A (storeName X.env x u) Q E s :=
  store_ok2 I hN hi hx r (fun s' I' _ => h s' I') hf
theorem Inv.call' {s' : Shared} {ch : List Addr} (I : Inv X pins σ H s) (ho : s'.os = s.os) (u : Un (frs X.stack) ch H H' s.heap s'.heap) (hok : HOk X.prog X.w H' s'.heap) (hg : AllBare s'.gens)
    (hch : ∀ b ∈ ch, (b ∈ X.ex ∨ X.s₀.heap.objs.size ≤ b) ∧ b ≠ X.env.locals ∧ (∀ x c, X.env.cells.lookup x = some c → c ≠ b) ∧ ∀ p ∈ X.pn ++ pins, p.1 ≠ b) : Inv X pins σ H' s' := by
  obtain ⟨h', g', d', t', o'⟩ := s'
  have e : o' = s.os := ho
  subst e
  exact I.call (g' := g') (t' := t') (d' := d') u hok hg hch
end
abbrev XK := Value → Option Addr → Hp → Prop
abbrev St := List (Option V)
abbrev VK := V → Hp → Prop
abbrev TE := St → Hp → VK → Prop
abbrev TT := St → Hp → (Bool → Hp → Prop) → Prop
abbrev TA := St → Hp → (List V → Hp → Prop) → Prop
structure Ends where
  nx : St → Hp → Prop
  rt : VK
  bk : St → Hp → Prop := fun _ _ => False
  ct : St → Hp → Prop := fun _ _ => False
abbrev TS := Ends → St → Hp → Prop
def EP (X : Cx) (pins : List (Addr × Obj)) (σ : St) (Q : VK) (u : Value) (s' : Shared) : Prop := ∃ v H', Inv X pins σ H' s' ∧ RelV v u ∧ Q v H'
def TP (X : Cx) (pins : List (Addr × Obj)) (σ : St) (Q : Bool → Hp → Prop) (b : Bool) (s' : Shared) : Prop := ∃ H', Inv X pins σ H' s' ∧ Q b H'
def AP (X : Cx) (pins : List (Addr × Obj)) (σ : St) (Q : List V → Hp → Prop) (us : List Value) (s' : Shared) : Prop := ∃ vs H', Inv X pins σ H' s' ∧ Vals vs us ∧ Q vs H'
def SP (X : Cx) (pins : List (Addr × Obj)) (D : Ends) (f : Flow) (s' : Shared) : Prop :=
  match f with
  | .next => ∃ σ' H', Inv X pins σ' H' s' ∧ D.nx σ' H'
  | .brk => ∃ σ' H', Inv X pins σ' H' s' ∧ D.bk σ' H'
  | .cont => ∃ σ' H', Inv X pins σ' H' s' ∧ D.ct σ' H'
  | .ret u => ∃ v σ' H', Inv X pins σ' H' s' ∧ RelV v u ∧ D.rt v H'
def PE (X : Cx) (e : Expr) (t : TE) : Prop :=
  ∀ (pins : List (Addr × Obj)) (s : Shared) (σ : St) (H : Hp) (Q : VK), Inv X pins σ H s → t σ H Q → wpAny (model X.prog X.w) X.A (eval e X.env) (EP X pins σ Q) X.xe s
def PT (X : Cx) (e : Expr) (t : TT) : Prop :=
  ∀ (pins : List (Addr × Obj)) (s : Shared) (σ : St) (H : Hp) (Q : Bool → Hp → Prop), Inv X pins σ H s → t σ H Q → wpAny (model X.prog X.w) X.A (isTrue e X.env (eval e X.env)) (TP X pins σ Q) X.xe s
def PW (X : Cx) (e : Expr) (t : TT) : Prop :=
  ∀ (whole : Sem Value) (pins : List (Addr × Obj)) (s : Shared) (σ : St) (H : Hp) (Q : Bool → Hp → Prop), Inv X pins σ H s → t σ H Q → wpAny (model X.prog X.w) X.A (isTrue e X.env whole) (TP X pins σ Q) X.xe s
theorem PW.pt {X : Cx} {e : Expr} {t : TT} (h : PW X e t) : PT X e t := h _
def PA (X : Cx) (es : List Expr) (t : TA) : Prop :=
  ∀ (pos : Pos) (pins : List (Addr × Obj)) (s : Shared) (σ : St) (H : Hp) (Q : List V → Hp → Prop), Inv X pins σ H s → t σ H Q → wpAny (model X.prog X.w) X.A (spliced (backTo pos (starEach es X.env))) (AP X pins σ Q) X.xe s
def PS (X : Cx) (st : Stmt) (t : TS) : Prop :=
  ∀ (pins : List (Addr × Obj)) (s : Shared) (σ : St) (H : Hp) (D : Ends), Inv X pins σ H s → t D σ H → wpAny (model X.prog X.w) X.A (exec st X.env) (SP X pins D) X.xe s
def PSs (X : Cx) (st : List Stmt) (t : TS) : Prop :=
  ∀ (pins : List (Addr × Obj)) (s : Shared) (σ : St) (H : Hp) (D : Ends), Inv X pins σ H s → t D σ H → wpAny (model X.prog X.w) X.A (execs st X.env) (SP X pins D) X.xe s
theorem thn {α : Type} {t : Sem α} {Q Q' : α → Shared → Prop} {M : Model} {A : Around} {E : Value → Shared → Prop} {s : Shared} (h : wpAny M A t Q E s) (hQ : ∀ a s, Q a s → Q' a s) : wpAny M A t Q' E s := wpAny_mono h hQ fun _ _ x => x
end L2
namespace L2
open PySem PySem.Spec PyProof.Rows
section
variable {X : Cx}
def tVar (i : Nat) : TE := fun σ H Q => ∃ v, σ[i]? = some (some v) ∧ Q v H
def tC (v : V) : TE := fun _ H Q => Q v H
theorem pe_var {i : Nat} {x : Str} {pos : Pos} (hN : X.N[i]? = some x) (hv : Vis X.env.scope x) (hd : (x == ("__debug__" : Str)) = false := by decide) (hcd : (x == ("__classdict__" : Str)) = false := by decide) : PE X (.Name x pos) (tVar i) := by
  intro pins s σ H Q I h
  obtain ⟨v, e, h⟩ := h
  obtain ⟨m, hn, hl⟩ := I.loc
  obtain ⟨u, r, l⟩ := hl i x v hN e hv
  have fin : EP X pins σ Q u s := ⟨v, H, I, r, h⟩
  rcases l with ⟨hk, hm⟩ | ⟨hk, c, hc, hcell⟩
  · exact wpAny_Name (wpAny_loadName_local I.ok.kind hk hn hm fin) hd
  · rcases hk with hk | hk
    · exact wpAny_Name (wpAny_loadName_cell I.ok.kind hk hc hcell fin) hd
    · exact wpAny_Name (wpAny_loadName_free I.ok.kind hk hc hcell fin hcd) hd
theorem pe_int {i j pos} : PE X (.Constant (.int i) j pos) (tC (.int i)) := fun _ _ _ H _ I h => wpAny_Constant_int ⟨.int i, H, I.tok _, ⟨_, rfl⟩, h⟩
theorem pe_bl {b j pos} : PE X (.Constant (.bool b) j pos) (tC (.bl b)) := fun _ _ _ H _ I h => Constant_bool ⟨.bl b, H, I, rfl, h⟩
theorem pe_str {x j pos} : PE X (.Constant (.str x) j pos) (tC (.str x)) := fun _ _ _ H _ I h => Calls.Constant_str ⟨.str x, H, I.tok _, ⟨_, rfl⟩, h⟩
def Gl (X : Cx) (x : Str) : Prop := X.env.kindOf x = some .globalImplicit
theorem ld_glob {E : Value → Shared → Prop} {pins : List (Addr × Obj)} {s : Shared} {σ : St} {H : Hp} {x : Str} {u : Value} {pos : Pos} {Q : Value → Shared → Prop} (I : Inv X pins σ H s) (hg : Gl X x) (hm : X.mg x = some u) (h : Q u s)
    (hd : (x == ("__debug__" : Str)) = false := by decide) : wpAny (model X.prog X.w) X.A (eval (.Name x pos) X.env) Q E s :=
  Calls.Name_function_global I.ok.kind hg (Calls.loadGlobal_global (by rw [I.ok.glob]; exact I.mod.glob.keeps I.bk) hm h) hd
theorem ld_blt {E : Value → Shared → Prop} {pins : List (Addr × Obj)} {s : Shared} {σ : St} {H : Hp} {x : Str} {u : Value} {pos : Pos} {Q : Value → Shared → Prop} (I : Inv X pins σ H s) (hg : Gl X x) (hm : X.mg x = none) (hv : bootBuiltins x = some u) (h : Q u s)
    (hn : x ≠ "__name__" := by decide) (hd : (x == ("__debug__" : Str)) = false := by decide) : wpAny (model X.prog X.w) X.A (eval (.Name x pos) X.env) Q E s := by
  obtain ⟨mb, h1, h2⟩ := I.mod.blt
  exact Calls.Name_function_global I.ok.kind hg (Calls.loadGlobal_builtin (by rw [I.ok.glob]; exact I.mod.glob.keeps I.bk) hm (by rw [I.ok.blt]; exact h1.keeps I.bk) ((h2 x hn).trans hv) h) hd
theorem pe_bltn {x : Str} {v : V} {u : Value} {pos : Pos} (hg : Gl X x) (hm : X.mg x = none) (hv : bootBuiltins x = some u) (r : RelV v u) (hn : x ≠ "__name__" := by decide) (hd : (x == ("__debug__" : Str)) = false := by decide) : PE X (.Name x pos) (tC v) :=
  fun _ _ _ H _ I h => ld_blt I hg hm hv ⟨v, H, I, r, h⟩ hn hd
variable {a b : Expr} {ta tb : TE} {pos : Pos}
def tB (t : TE) : TT := fun σ H Q => t σ H fun x H1 => ∃ c, x = .bl c ∧ Q c H1
theorem pt_val {e : Expr} {t : TE} (h : PE X e t) (he : ∀ whole, isTrue e X.env whole = (do let v ← whole; standAt e.pos; holding [v] (truthy v)) := by intro _; rfl) : PT X e (tB t) := by
  intro pins s σ H Q I hw
  refine isTrue_plain (thn (h pins s σ H _ I hw) fun v s1 ⟨x, H1, I1, r1, q1⟩ => ?_) (he _)
  obtain ⟨d, rfl, q⟩ := q1
  cases r1
  exact wpAny_truthy_bool ⟨H1, I1, q⟩
variable {tA tB' : TT} {rest : List Expr}
def tAnd (t u : TT) : TT := fun σ H Q => t σ H fun c H1 => if c = true then u σ H1 Q else Q false H1
def tOr (t u : TT) : TT := fun σ H Q => t σ H fun c H1 => if c = true then Q true H1 else u σ H1 Q
def tNot (t : TT) : TT := fun σ H Q => t σ H fun c H1 => Q (!c) H1
theorem pw_and1 (ha : PT X a tA) : PW X (.BoolOp .And [a] pos) tA := by
  intro wh pins s σ H Q I h
  refine isTrue_and (thn (ha pins s σ H Q I h) fun c s1 e => ?_)
  cases c with
  | true => exact isTrue_and_nil e
  | false => exact e
theorem pw_or1 (ha : PT X a tA) : PW X (.BoolOp .Or [a] pos) tA := by
  intro wh pins s σ H Q I h
  refine isTrue_or (thn (ha pins s σ H Q I h) fun c s1 e => ?_)
  cases c with
  | false => exact isTrue_or_nil e
  | true => exact e
theorem pw_and (ha : PT X a tA) (hb : PW X (.BoolOp .And (b :: rest) pos) tB') : PW X (.BoolOp .And (a :: b :: rest) pos) (tAnd tA tB') := by
  intro wh pins s σ H Q I h
  refine isTrue_and (thn (ha pins s σ H _ I h) fun c s1 ⟨H1, I1, q1⟩ => ?_)
  cases c with
  | true => exact hb wh pins s1 σ H1 Q I1 q1
  | false => exact ⟨H1, I1, q1⟩
theorem pw_or (ha : PT X a tA) (hb : PW X (.BoolOp .Or (b :: rest) pos) tB') : PW X (.BoolOp .Or (a :: b :: rest) pos) (tOr tA tB') := by
  intro wh pins s σ H Q I h
  refine isTrue_or (thn (ha pins s σ H _ I h) fun c s1 ⟨H1, I1, q1⟩ => ?_)
  cases c with
  | true => exact ⟨H1, I1, q1⟩
  | false => exact hb wh pins s1 σ H1 Q I1 q1
theorem pt_not (ha : PT X a tA) : PT X (.UnaryOp .Not a pos) (tNot tA) := by
  intro pins s σ H Q I h
  exact isTrue_not (ha pins s σ H (fun c H1 => Q (!c) H1) I h)
def tAndV (ta tb : TE) : TE := fun σ H Q => ta σ H fun x H1 => ∃ c, x = .bl c ∧ if c = true then tb σ H1 Q else Q (.bl false) H1
def tOrV (ta tb : TE) : TE := fun σ H Q => ta σ H fun x H1 => ∃ c, x = .bl c ∧ if c = true then Q (.bl true) H1 else tb σ H1 Q
theorem pe_one {op} {t : TE} (h : PE X a t) : PE X (.BoolOp op [a] pos) t := fun pins s σ H Q I hw => BoolOp_one (h pins s σ H Q I hw)
theorem pe_and (ha : PE X a ta) (hb : PE X (.BoolOp .And (b :: rest) pos) tb) : PE X (.BoolOp .And (a :: b :: rest) pos) (tAndV ta tb) := by
  intro pins s σ H Q I h
  refine BoolOp_and (thn (ha pins s σ H _ I h) fun v s1 ⟨x, H1, I1, r1, q1⟩ => ?_)
  obtain ⟨c, rfl, q1⟩ := q1
  cases r1
  refine wpAny_truthy_bool ?_
  cases c with
  | true => exact hb pins s1 σ H1 Q I1 q1
  | false => exact ⟨.bl false, H1, I1, rfl, q1⟩
theorem pe_or (ha : PE X a ta) (hb : PE X (.BoolOp .Or (b :: rest) pos) tb) : PE X (.BoolOp .Or (a :: b :: rest) pos) (tOrV ta tb) := by
  intro pins s σ H Q I h
  refine BoolOp_or (thn (ha pins s σ H _ I h) fun v s1 ⟨x, H1, I1, r1, q1⟩ => ?_)
  obtain ⟨c, rfl, q1⟩ := q1
  cases r1
  refine wpAny_truthy_bool ?_
  cases c with
  | false => exact hb pins s1 σ H1 Q I1 q1
  | true => exact ⟨.bl true, H1, I1, rfl, q1⟩
end
end L2
namespace L2
open PySem PySem.Spec PyProof.Rows
def SqL (K : PySem.W.Frag) (H : Hp) (a : Addr) (xs : List V) : Prop :=
  Rd H a (.lst xs) ∨
    ∃ (o : Obj) (its : Array Value) (n : Nat), K.lookup a = some o ∧ o.cls = .type "list" ∧ o.dict = none ∧ o.data = .seq its n ∧ its.size ≤ sizeLine ∧ Vals xs its.toList
def SqT (K : PySem.W.Frag) (H : Hp) (a : Addr) (xs : List V) : Prop :=
  Rd H a (.tup xs) ∨
    ∃ (o : Obj) (its : Array Value) (n : Nat), K.lookup a = some o ∧ o.cls = .type "tuple" ∧ o.data = .seq its n ∧ its.size ≤ sizeLine ∧ Vals xs its.toList
def absV : Value → Option V
  | .none => some .non
  | .bool b => some (.bl b)
  | .int i _ => some (.int i)
  | .str x _ => some (.str x)
  | .bytes b _ => some (.byt b)
  | .float b _ => some (.flt b)
  | .ref a => some (.ref a)
  | .type n => some (.ty n)
  | _ => none
theorem RelV.abs {x : V} {u : Value} (r : RelV x u) : absV u = some x := by
  cases x with
  | non => cases r; rfl
  | bl _ => cases r; rfl
  | int _ => obtain ⟨t, rfl⟩ := r; rfl
  | str _ => obtain ⟨t, rfl⟩ := r; rfl
  | byt _ => obtain ⟨t, rfl⟩ := r; rfl
  | flt _ => obtain ⟨t, rfl⟩ := r; rfl
  | ref _ => cases r; rfl
  | ty _ => cases r; rfl
theorem RelV.inj {x y : V} {u : Value} (r : RelV x u) (q : RelV y u) : x = y := Option.some.inj (r.abs.symm.trans q.abs)
theorem Vals.inj : ∀ {xs ys : List V} {us : List Value}, Vals xs us → Vals ys us → xs = ys
  | _, _, _, .nil, .nil => rfl
  | _, _, _, .cons r t, .cons r' t' => by rw [r.inj r', Vals.inj t t']
section
variable {X : Cx} {pins : List (Addr × Obj)} {σ : St} {H : Hp} {s : Shared} {a : Addr} {xs ys : List V}
theorem Inv.list (I : Inv X pins σ H s) (h : SqL X.K H a xs) : ∃ its : List Value, Vals xs its ∧ PlainL s.heap a its.toArray ∧ xs.length ≤ sizeLine := by
  rcases h with h | ⟨o, its, n, hk, hc, hd, hs, hz, r⟩
  · obtain ⟨z, its, n, r, e⟩ := h.ok I.hok
    exact ⟨its, r, ⟨_, n, e, rfl, rfl, rfl⟩, z⟩
  · refine ⟨its.toList, r, ⟨o, n, I.kIn a o hk, hc, hd, by simpa using hs⟩, ?_⟩
    have e := r.length
    simp only [Array.length_toList] at e
    omega
theorem Inv.tuple (I : Inv X pins σ H s) (h : SqT X.K H a xs) : ∃ its : List Value, Vals xs its ∧ IsTup s.heap a its.toArray ∧ xs.length ≤ sizeLine := by
  rcases h with h | ⟨o, its, n, hk, hc, hs, hz, r⟩
  · obtain ⟨z, its, r, p⟩ := h.ok I.hok
    exact ⟨its, r, p.tup, z⟩
  · refine ⟨its.toList, r, ⟨o, I.kIn a o hk, hc, n, by simpa using hs⟩, ?_⟩
    have e := r.length
    simp only [Array.length_toList] at e
    omega
theorem Inv.list_inj (I : Inv X pins σ H s) (h : SqL X.K H a xs) (h' : SqL X.K H a ys) : xs = ys := by
  obtain ⟨its, r, ⟨o, n, e, _, _, d⟩, _⟩ := I.list h
  obtain ⟨its', r', ⟨o', n', e', _, _, d'⟩, _⟩ := I.list h'
  rw [e] at e'; cases e'
  rw [d] at d'
  injection d' with d1 _
  have : its = its' := by simpa using congrArg Array.toList d1
  subst this
  exact r.inj r'
theorem Inv.tuple_inj (I : Inv X pins σ H s) (h : SqT X.K H a xs) (h' : SqT X.K H a ys) : xs = ys := by
  obtain ⟨its, r, ⟨o, e, _, n, d⟩, _⟩ := I.tuple h
  obtain ⟨its', r', ⟨o', e', _, n', d'⟩, _⟩ := I.tuple h'
  rw [e] at e'; cases e'
  rw [d] at d'
  injection d' with d1 _
  have : its = its' := by simpa using congrArg Array.toList d1
  subst this
  exact r.inj r'
end
abbrev Cx.wish (X : Cx) (E : Value → Shared → Prop) : Cx := { X with xe := E }
abbrev Cx.nox (X : Cx) : Cx := X.wish fun _ _ => False
theorem Cx.Ok.wish {X : Cx} (ok : X.Ok) (E : Value → Shared → Prop) : (X.wish E).Ok :=
  ⟨ok.mod, ok.kind, ok.glob, ok.blt, ok.above, ok.inj, ok.has, ok.cab, ok.hd, ok.frames, ok.stk, ok.exf, ok.bs, ok.bsz, ok.noex, ok.exfs, ok.funs, ok.frf⟩
theorem Cx.Ok.unwish {X : Cx} {E : Value → Shared → Prop} (ok : (X.wish E).Ok) : X.Ok :=
  ⟨ok.mod, ok.kind, ok.glob, ok.blt, ok.above, ok.inj, ok.has, ok.cab, ok.hd, ok.frames, ok.stk, ok.exf, ok.bs, ok.bsz, ok.noex, ok.exfs, ok.funs, ok.frf⟩
section
variable {X : Cx} {pins : List (Addr × Obj)} {σ : St} {H : Hp} {s : Shared} {E : Value → Shared → Prop}
theorem Inv.wish (I : Inv X pins σ H s) (E : Value → Shared → Prop) : Inv (X.wish E) pins σ H s := ⟨I.ok.wish E, I.os, I.bare, I.base, I.loc, I.cell, I.free, I.freeC, I.pin, I.hok, I.len⟩
theorem Inv.unwish (I : Inv (X.wish E) pins σ H s) : Inv X pins σ H s := ⟨I.ok.unwish, I.os, I.bare, I.base, I.loc, I.cell, I.free, I.freeC, I.pin, I.hok, I.len⟩
theorem SP.unwish {D : Ends} {f : Flow} {s' : Shared} (h : SP (X.wish E) pins D f s') : SP X pins D f s' := by
  cases f with
  | next => obtain ⟨σ', H', I, q⟩ := h; exact ⟨σ', H', I.unwish, q⟩
  | brk => obtain ⟨σ', H', I, q⟩ := h; exact ⟨σ', H', I.unwish, q⟩
  | cont => obtain ⟨σ', H', I, q⟩ := h; exact ⟨σ', H', I.unwish, q⟩
  | ret u => obtain ⟨v, σ', H', I, r, q⟩ := h; exact ⟨v, σ', H', I.unwish, r, q⟩
theorem PSs.nox {st : List Stmt} {t : TS} (h : PSs X.nox st t) : PSs X st t := fun pins s σ H D I hw =>
  wpAny_mono (h pins s σ H D (I.wish _) hw) (fun _ _ q => q.unwish) fun _ _ z => False.elim z
end
section
variable {X : Cx} {st : Stmt} {rest : List Stmt} {t u : TS} {e : Expr} {te : TE} {pos : Pos}
def tNext : TS := fun D σ H => D.nx σ H
def tSeq (t u : TS) : TS := fun D σ H => t { D with nx := u D } σ H
theorem pss_nil : PSs X [] tNext := fun _ _ σ H _ I h => wpAny_execs_nil ⟨σ, H, I, h⟩
theorem pss_cons (h1 : PS X st t) (h2 : PSs X rest u) : PSs X (st :: rest) (tSeq t u) := by
  intro pins s σ H D I h
  refine wpAny_execs_cons (thn (h1 pins s σ H { D with nx := u D } I h) fun f s1 q => ?_)
  cases f with
  | next =>
    obtain ⟨σ', H', I', q⟩ := q
    exact h2 pins s1 σ' H' D I' q
  | ret v => exact q
  | brk => exact q
  | cont => exact q
theorem pss_one (h1 : PS X st t) : PSs X [st] t := by
  intro pins s σ H D I h
  refine wpAny_execs_cons (thn (h1 pins s σ H D I h) fun f s1 q => ?_)
  cases f with
  | next => exact wpAny_execs_nil q
  | ret v => exact q
  | brk => exact q
  | cont => exact q
theorem Inv.quiet {pins : List (Addr × Obj)} {σ : St} {H : Hp} {s : Shared} (I : Inv X pins σ H s) : interactive X.env = false := by simp [interactive, I.ok.kind]
def tDrop (te : TE) : TS := fun D σ H => te σ H fun _ H1 => D.nx σ H1
theorem ps_expr (he : PE X e te) (hs : swapsWith e none pos.line X.env = pure false := by rfl) : PS X (.Expr e pos) (tDrop te) := by
  intro pins s σ H D I h
  exact wpAny_Expr_any (thn (he pins s σ H _ I h) fun v s1 ⟨x, H1, I1, r1, q1⟩ => ⟨σ, H1, I1, q1⟩) I.quiet hs
def tRet (te : TE) : TS := fun D σ H => te σ H D.rt
theorem ps_ret (he : PE X e te) : PS X (.Return (some e) pos) (tRet te) := by
  intro pins s σ H D I h
  exact wpAny_Return_some (thn (he pins s σ H _ I h) fun v s1 ⟨x, H1, I1, r1, q1⟩ => ⟨x, σ, H1, I1, r1, q1⟩)
def tIfS (c : TT) (t u : TS) : TS := fun D σ H => c σ H fun b H1 => if b = true then t D σ H1 else u D σ H1
theorem ps_if {c : Expr} {a b : List Stmt} {tc : TT} (hc : PT X c tc) (ha : PSs X a t) (hb : PSs X b u) : PS X (.If c a b pos) (tIfS tc t u) := by
  intro pins s σ H D I h
  refine wpAny_If (thn (hc pins s σ H _ I h) fun d s1 ⟨H1, I1, q1⟩ => ?_)
  cases d with
  | true => exact ha pins s1 σ H1 D I1 q1
  | false => exact hb pins s1 σ H1 D I1 q1
def tNever : TS := fun _ _ _ => False
theorem ps_never : PS X st tNever := fun _ _ _ _ _ _ h => h.elim
end
abbrev TG := V → St → Hp → (St → Hp → Prop) → Prop
abbrev TGs := List V → St → Hp → (St → Hp → Prop) → Prop
def PG (X : Cx) (target : Expr) (t : TG) : Prop :=
  ∀ (pins : List (Addr × Obj)) (s : Shared) (σ : St) (H : Hp) (v : V) (u : Value) (Q : St → Hp → Prop), Inv X pins σ H s → RelV v u → t v σ H Q →
    wpAny (model X.prog X.w) X.A (assign target X.env u) (fun _ s' => ∃ σ' H', Inv X pins σ' H' s' ∧ Q σ' H') X.xe s
def PGs (X : Cx) (ts : List Expr) (t : TGs) : Prop :=
  ∀ (pins : List (Addr × Obj)) (s : Shared) (σ : St) (H : Hp) (vs : List V) (us : List Value) (Q : St → Hp → Prop), Inv X pins σ H s → Vals vs us → t vs σ H Q →
    wpAny (model X.prog X.w) X.A (assignInOrder ((assignEach ts X.env).map (·.2)) us) (fun _ s' => ∃ σ' H', Inv X pins σ' H' s' ∧ Q σ' H') X.xe s
section
variable {X : Cx} {pos : Pos}
def gName (i : Nat) : TG := fun v σ H Q => Q (σ.set i (some v)) H
theorem pg_name {i : Nat} {x : Str} (hN : X.N.Nodup) (hi : X.N[i]? = some x) (hx : Loc X.env.scope x) (hf : X.fn x = true ∨ X.env.scope.names.lookup x = some .local := by first | exact .inl rfl | exact .inr rfl | assumption) : PG X (.Name x pos) (gName i) := by
  intro pins s σ H v u Q I r h
  exact wpAny_assign_Name (store_ok I hN hi hx r (fun s' I' => ⟨_, H, I', h⟩) hf)
def gNil : TGs := fun vs σ H Q => vs = [] ∧ Q σ H
def gCons (t : TG) (u : TGs) : TGs := fun vs σ H Q => ∃ v r, vs = v :: r ∧ t v σ H fun σ' H' => u r σ' H' Q
theorem pgs_nil : PGs X [] gNil := by
  intro pins s σ H vs us Q I r h
  obtain ⟨e, h⟩ := h
  subst e
  cases r
  exact assignInOrder_nil ⟨σ, H, I, h⟩
theorem pgs_cons {e : Expr} {es : List Expr} {t : TG} {u : TGs} (h1 : PG X e t) (h2 : PGs X es u)
    (hs : (assignEach (e :: es) X.env).map (·.2) = assign e X.env :: (assignEach es X.env).map (·.2) := by rfl) : PGs X (e :: es) (gCons t u) := by
  intro pins s σ H vs us Q I r h
  obtain ⟨v, vr, e1, h⟩ := h
  subst e1
  cases r with
  | cons r rr =>
    rw [hs]
    refine assignInOrder_cons (thn (h1 pins s σ H _ _ _ I r h) fun _ s1 ⟨σ1, H1, I1, q1⟩ => ?_)
    exact h2 pins s1 σ1 H1 _ _ Q I1 rr q1
def gTup (K : PySem.W.Frag) (n : Nat) (t : TGs) : TG := fun v σ H Q => ∃ a xs, v = .ref a ∧ SqT K H a xs ∧ xs.length = n ∧ t xs σ H Q
theorem pg_tup {es : List Expr} {k : Nat} {t : TGs} {n : Nat} (hc : X.calm = true) (h : PGs X es t)
    (hn : (assignEach es X.env).length = n := by rfl) (hst : (assignEach es X.env).findIdx? (·.1) = none := by rfl) : PG X (.Tuple es k pos) (gTup X.K n t) := by
  intro pins s σ H v u Q I r hw
  obtain ⟨a, xs, e1, hq, hl, hw⟩ := hw
  subst e1
  cases r
  obtain ⟨its, rv, ht, hz⟩ := I.tuple hq
  refine assign_Tuple_tuple (I.ok.hd hc) ht (by simp [hn, ← hl, rv.length]) hst fun h' hx => ?_
  have I1 : Inv X pins σ H { s with heap := h' } := I.kept (t' := s.toks) fun b o e => hx b o (Nat.ne_of_lt (Heap.lt_size e)) e
  exact h pins _ σ H xs _ Q I1 (by simpa using rv) hw
def tAsg (te : TE) (g : TG) : TS := fun D σ H => te σ H fun x H1 => g x σ H1 D.nx
theorem ps_asg {tg e : Expr} {te : TE} {g : TG} (he : PE X e te) (hg : PG X tg g) (hs : swapsWithSole [tg] e pos.line X.env = pure false := by rfl) (hw : swappedStores [tg] e X.env = pure none := by rfl)
    (h1 : (assignEach [tg] X.env).map (·.2) = [assign tg X.env] := by rfl) : PS X (.Assign [tg] e pos) (tAsg te g) := by
  intro pins s σ H D I h
  refine wpAny_Assign_stores (thn (he pins s σ H _ I h) fun v s1 ⟨x, H1, I1, r1, q1⟩ => ?_) hs hw
  rw [h1]
  exact thn (hg pins s1 σ H1 x v _ I1 r1 q1) fun _ s2 q => q
theorem ps_set {i : Nat} {x : Str} {e : Expr} {te : TE} {pos' : Pos} (hN : X.N.Nodup) (hi : X.N[i]? = some x) (hx : Loc X.env.scope x) (he : PE X e te) (hs : swapsWith e (some (.Name x pos')) pos.line X.env = pure false := by rfl) (hf : X.fn x = true ∨ X.env.scope.names.lookup x = some .local := by first | exact .inl rfl | exact .inr rfl | assumption) :
    PS X (.Assign [.Name x pos'] e pos) (tAsg te (gName i)) := by
  intro pins s σ H D I h
  refine wpAny_Assign_Name (thn (he pins s σ H _ I h) fun v s1 ⟨y, H1, I1, r1, q1⟩ => ?_) hs
  exact store_ok I1 hN hi hx r1 (fun s2 I2 => ⟨_, H1, I2, q1⟩) hf
end
section
variable {X : Cx} {pos : Pos}
end
structure It where
  go : Nat → Hp → Prop
  yld : Nat → Hp → V → Hp → Prop
  stop : Nat → Hp → Prop
def FpOk (X : Cx) (pins : List (Addr × Obj)) (H : Hp) (b : Addr) : Prop :=
  H b = none ∧ b ≠ X.env.locals ∧ b ∉ X.fs ∧ (b ∈ X.ex ∨ X.s₀.heap.objs.size ≤ b) ∧ (∀ x c, X.env.cells.lookup x = some c → c ≠ b) ∧ ∀ p ∈ X.pn ++ pins, p.1 ≠ b
theorem Inv.fpOk {X : Cx} {pins : List (Addr × Obj)} {σ : St} {H H' : Hp} {s : Shared} {b : Addr} (I : Inv X pins σ H s) (hb : s.heap.objs.size ≤ b) (hn : H' b = none) : FpOk X pins H' b := by
  refine ⟨hn, Nat.ne_of_gt (Nat.lt_of_lt_of_le I.lt hb), I.nofs hb, .inr (Nat.le_trans I.sz hb), fun x c e z => ?_, fun p hp z => ?_⟩
  · obtain ⟨v, q⟩ := I.cell x c e
    exact absurd (Nat.lt_of_lt_of_le q.lt (by rw [z]; exact hb)) (Nat.lt_irrefl _)
  · exact absurd (Nat.lt_of_lt_of_le (Heap.lt_size (I.pin p hp).1) (by rw [z]; exact hb)) (Nat.lt_irrefl _)
structure Turn (P : Program) (w : World) (K : PySem.W.Frag) (tg : Expr) (J : It) (fp : List Addr) (it : Addr) (tn : Nat → Heap → Prop) : Prop where
  mem : it ∈ fp
  obj : ∀ i h, tn i h → ∀ b ∈ fp, ∃ o, h.get? b = some o ∧ ∀ v, o.data ≠ .cell v
  keep : ∀ i h h', tn i h → (∀ b ∈ fp, ∀ o, h.get? b = some o → h'.get? b = some o) → tn i h'
  item : ∀ (X : Cx), X.prog = P → X.w = w → X.K = K → X.calm = true → ∀ (i : Nat) (pins : List (Addr × Obj)) (s : Shared) (σ : St) (H : Hp) (E : Value → Shared → Prop), Inv X pins σ H s → (∀ b ∈ fp, FpOk X pins H b) → tn i s.heap → J.go i H →
    wpAny (model P w) X.A (pyNext (.ref it)) (fun r s1 => ∃ u, r = some u ∧
      wpAny (model P w) X.A (letOwnedTupleGo tg (.ref it) u) (fun _ s2 => ∃ x H', Inv X pins σ H' s2 ∧ RelV x u ∧ J.yld i H x H' ∧ tn (i + 1) s2.heap ∧ ∀ b ∈ fp, H' b = none) E s1) E s
  done : ∀ (X : Cx), X.prog = P → X.w = w → X.K = K → X.calm = true → ∀ (i : Nat) (pins : List (Addr × Obj)) (s : Shared) (σ : St) (H : Hp) (E : Value → Shared → Prop), Inv X pins σ H s → (∀ b ∈ fp, FpOk X pins H b) → tn i s.heap → J.stop i H →
    wpAny (model P w) X.A (pyNext (.ref it)) (fun r s1 => r = none ∧ Inv X pins σ H s1) E s
  self : ∀ (A : Around) (i : Nat) (s : Shared) (Q : Value → Shared → Prop) (E : Value → Shared → Prop), tn i s.heap → Q (.ref it) s → wpAny (model P w) A (pyIter (.ref it)) Q E s
abbrev TI := St → Hp → (It → Hp → Prop) → Prop
def PIE (X : Cx) (pins : List (Addr × Obj)) (σ : St) (tg : Expr) (R : It → Hp → Prop) (itv : Value) (s2 : Shared) : Prop :=
  ∃ (it : Addr) (fp : List Addr) (tn : Nat → Heap → Prop) (J : It) (H' : Hp), itv = .ref it ∧ Inv X pins σ H' s2 ∧ Turn X.prog X.w X.K tg J fp it tn ∧ tn 0 s2.heap ∧ (∀ b ∈ fp, FpOk X pins H' b) ∧ R J H'
def PI (X : Cx) (tg iter : Expr) (wi : TI) : Prop :=
  ∀ (pins : List (Addr × Obj)) (s : Shared) (σ : St) (H : Hp) (R : It → Hp → Prop), Inv X pins σ H s → wi σ H R →
    wpAny (model X.prog X.w) X.A (eval iter X.env) (fun v s1 => wpAny (model X.prog X.w) X.A (pyIter v) (PIE X pins σ tg R) X.xe s1) X.xe s
theorem go_of {M : Model} {A : Around} {E : Value → Shared → Prop} {s : Shared} {tg : Expr} {it : Addr} {u : Value} {o : Obj} {n : String} {vs : Array Value} {Q : Unit → Shared → Prop} (ho : s.heap.get? it = some o) (hc : o.cls = .type n) (hd : o.data = .fields vs)
    (hn : ["enumerate", "zip", "dict_itemiterator", "dict_reverseitemiterator", "odict_iterator", "itertools.zip_longest", "itertools.pairwise"].contains n = false) (hQ : Q () s) : wpAny M A (letOwnedTupleGo tg (.ref it) u) Q E s := by
  unfold letOwnedTupleGo
  cases tg <;> first
    | exact wpAny_pure hQ
    | (cases u <;> first
        | exact wpAny_pure hQ
        | (refine wpAny_bind (wpAny_load ho ?_)
           rw [hc, hd]
           show wpAny M A (if (["enumerate", "zip", "dict_itemiterator", "dict_reverseitemiterator", "odict_iterator", "itertools.zip_longest", "itertools.pairwise"].contains n && vs[0]? == some (rawInt _)) = true then _ else _) Q E s
           rw [if_neg (by intro h; rw [hn, Bool.false_and] at h; cases h)]
           exact wpAny_pure hQ))
def Itl (K : PySem.W.Frag) (a : Addr) : It :=
  ⟨fun i H => ∃ xs x, SqL K H a xs ∧ xs[i]? = some x, fun i H x H' => H' = H ∧ ∀ xs, SqL K H a xs → xs[i]? = some x, fun i H => ∃ xs, SqL K H a xs ∧ xs.length ≤ i⟩
def Itt (K : PySem.W.Frag) (a : Addr) : It :=
  ⟨fun i H => ∃ xs x, SqT K H a xs ∧ xs[i]? = some x, fun i H x H' => H' = H ∧ ∀ xs, SqT K H a xs → xs[i]? = some x, fun i H => ∃ xs, SqT K H a xs ∧ xs.length ≤ i⟩
def Itr (lo : Int) (n : Nat) : It := ⟨fun i _ => i < n, fun i H x H' => H' = H ∧ x = .int (lo + i), fun i _ => n ≤ i⟩
theorem turn_list {P : Program} {w : World} {K : PySem.W.Frag} {tg : Expr} (a it : Addr) : Turn P w K tg (Itl K a) [it] it (fun i h => h.IsListIter it a i) where
  mem := by simp
  obj := fun i h st b hb => by
    have e : b = it := by simpa using hb
    subst e
    obtain ⟨o, e, c, d⟩ := st
    exact ⟨o, e, fun v z => by rw [d] at z; cases z⟩
  keep := fun i h h' st k => st.at fun o e => k it (by simp) o e
  item := by
    intro X hP hw hK hc i pins s σ H E I hf st hg
    subst hP hw hK
    obtain ⟨xs, x, hq, hx⟩ := hg
    obtain ⟨its, rv, p, hz⟩ := I.list hq
    obtain ⟨u, hu, ru⟩ := rv.get hx
    obtain ⟨f0, f1, f2, f3, f4, f5⟩ := hf it (by simp)
    refine wpAny_pyNext_list_item st p.isList (x := u) (by simpa using hu) fun h' st' sb => ?_
    have I1 : Inv X pins σ H { s with heap := h' } := I.turned (t' := s.toks) (fun b o hb e => (sb.2 b hb).trans e) f0 f1 f3 f4 f5
    obtain ⟨o, e, c, d⟩ := id st'
    exact ⟨u, rfl, go_of (s := { s with heap := h' }) e c d (by decide) ⟨x, H, I1, ru, ⟨rfl, fun ys hy => by rw [I.list_inj hy hq]; exact hx⟩, st', fun b hb => (hf b hb).1⟩⟩
  done := by
    intro X hP hw hK hc i pins s σ H E I hf st hg
    subst hP hw hK
    obtain ⟨xs, hq, hx⟩ := hg
    obtain ⟨its, rv, p, hz⟩ := I.list hq
    obtain ⟨f0, f1, f2, f3, f4, f5⟩ := hf it (by simp)
    have hl := rv.length
    exact wpAny_pyNext_list_end (I.ok.hd hc) st p.isList (by simp; omega) fun h' eb => ⟨rfl, I.turned (t' := s.toks) (fun b o hb e => eb b o hb e) f0 f1 f3 f4 f5⟩
  self := fun _ _ _ _ _ st h => wpAny_pyIter_listiter st h
theorem turn_tuple {P : Program} {w : World} {K : PySem.W.Frag} {tg : Expr} (a it : Addr) : Turn P w K tg (Itt K a) [it] it (fun i h => h.IsTupleIter it a i) where
  mem := by simp
  obj := fun i h st b hb => by
    have e : b = it := by simpa using hb
    subst e
    obtain ⟨o, e, c, d⟩ := st
    exact ⟨o, e, fun v z => by rw [d] at z; cases z⟩
  keep := fun i h h' st k => st.at fun o e => k it (by simp) o e
  item := by
    intro X hP hw hK hc i pins s σ H E I hf st hg
    subst hP hw hK
    obtain ⟨xs, x, hq, hx⟩ := hg
    obtain ⟨its, rv, p, hz⟩ := I.tuple hq
    obtain ⟨u, hu, ru⟩ := rv.get hx
    obtain ⟨f0, f1, f2, f3, f4, f5⟩ := hf it (by simp)
    refine wpAny_pyNext_tuple_item st (show s.heap.IsTuple a its.toArray from p) (x := u) (by simpa using hu) fun h' st' sb => ?_
    have I1 : Inv X pins σ H { s with heap := h' } := I.turned (t' := s.toks) (fun b o hb e => (sb.2 b hb).trans e) f0 f1 f3 f4 f5
    obtain ⟨o, e, c, d⟩ := id st'
    exact ⟨u, rfl, go_of (s := { s with heap := h' }) e c d (by decide) ⟨x, H, I1, ru, ⟨rfl, fun ys hy => by rw [I.tuple_inj hy hq]; exact hx⟩, st', fun b hb => (hf b hb).1⟩⟩
  done := by
    intro X hP hw hK hc i pins s σ H E I hf st hg
    subst hP hw hK
    obtain ⟨xs, hq, hx⟩ := hg
    obtain ⟨its, rv, p, hz⟩ := I.tuple hq
    obtain ⟨f0, f1, f2, f3, f4, f5⟩ := hf it (by simp)
    have hl := rv.length
    exact wpAny_pyNext_tuple_end (I.ok.hd hc) st (show s.heap.IsTuple a its.toArray from p) (by simp; omega) fun h' eb => ⟨rfl, I.turned (t' := s.toks) (fun b o hb e => eb b o hb e) f0 f1 f3 f4 f5⟩
  self := fun _ _ _ _ _ st h => wpAny_pyIter_tupleiter st h
theorem turn_range {P : Program} {w : World} {K : PySem.W.Frag} {tg : Expr} (it : Addr) (lo : Int) (n : Nat) : Turn P w K tg (Itr lo n) [it] it (fun i h => IsRangeIter h it (lo + (i : Nat) * 1) ((n : Int) - (i : Nat)) 1) where
  mem := by simp
  obj := fun i h st b hb => by
    have e : b = it := by simpa using hb
    subst e
    exact ⟨_, st, fun v z => by
      have z' : Data.fields _ = Data.cell v := z
      cases z'⟩
  keep := fun i h h' st k => k it (by simp) _ st
  item := by
    intro X hP hw hK hc i pins s σ H E I hf st hg
    subst hP hw hK
    obtain ⟨f0, f1, f2, f3, f4, f5⟩ := hf it (by simp)
    have W := Walks.range (prog := X.prog) (w := X.w) (I.ok.hd hc) it lo 1 n
    refine W.item i s _ _ hg st fun v h' tk hv st' kk => ?_
    obtain ⟨t, rfl⟩ := hv
    have I1 : Inv X pins σ H { s with heap := h', toks := tk } := I.turned (fun b o hb e => kk b o (by simpa using hb) e) f0 f1 f3 f4 f5
    refine ⟨_, rfl, go_of (s := { s with heap := h', toks := tk }) (n := "range_iterator") st' rfl rfl (by decide) ⟨.int (lo + i), H, I1, ⟨t, ?_⟩, ⟨rfl, rfl⟩, st', fun b hb => (hf b hb).1⟩⟩
    rw [Int.mul_one]
  done := by
    intro X hP hw hK hc i pins s σ H E I hf st hg
    subst hP hw hK
    obtain ⟨f0, f1, f2, f3, f4, f5⟩ := hf it (by simp)
    exact wpAny_pyNext_range_end (I.ok.hd hc) st (by have : n ≤ i := hg; omega) fun h' eb => ⟨rfl, I.turned (t' := s.toks) (fun b o hb e => eb b o hb e) f0 f1 f3 f4 f5⟩
  self := fun _ _ _ _ _ st h => wpAny_pyIter_rangeiter st h
end L2
namespace L2
open PySem PySem.Spec PyProof.Rows
section
variable {X : Cx} {tg : Expr}
def iList (K : PySem.W.Frag) (tl : TE) : TI := fun σ H R => tl σ H fun x H1 => ∃ a, x = .ref a ∧ (∃ xs, SqL K H1 a xs) ∧ R (Itl K a) H1
def iTup (K : PySem.W.Frag) (tl : TE) : TI := fun σ H R => tl σ H fun x H1 => ∃ a, x = .ref a ∧ (∃ xs, SqT K H1 a xs) ∧ R (Itt K a) H1
theorem pi_list {l : Expr} {tl : TE} (hl : PE X l tl) : PI X tg l (iList X.K tl) := by
  intro pins s σ H R I h
  refine thn (hl pins s σ H _ I h) fun v s1 ⟨x, H1, I1, r1, q1⟩ => ?_
  obtain ⟨a, e, ⟨xs, hq⟩, q⟩ := q1
  subst e
  cases r1
  obtain ⟨its, rv, p, hz⟩ := I1.list hq
  refine wpAny_pyIter_list p.isList ?_
  refine ⟨s1.heap.objs.size, [s1.heap.objs.size], _, _, H1, rfl, I1.kept (t' := s1.toks) fun b o e => Heap.get?_push_of_some _ e, turn_list a _, ⟨_, Heap.get?_push_size _ rfl, rfl, rfl⟩, fun b hb => ?_, q⟩
  have e : b = s1.heap.objs.size := by simpa using hb
  subst e
  exact I1.fpOk (Nat.le_refl _) (I1.hok.fresh (Nat.le_refl _))
theorem pi_tup {l : Expr} {tl : TE} (hl : PE X l tl) : PI X tg l (iTup X.K tl) := by
  intro pins s σ H R I h
  refine thn (hl pins s σ H _ I h) fun v s1 ⟨x, H1, I1, r1, q1⟩ => ?_
  obtain ⟨a, e, ⟨xs, hq⟩, q⟩ := q1
  subst e
  cases r1
  obtain ⟨its, rv, p, hz⟩ := I1.tuple hq
  refine wpAny_pyIter_tuple (show s1.heap.IsTuple a its.toArray from p) ?_
  refine ⟨s1.heap.objs.size, [s1.heap.objs.size], _, _, H1, rfl, I1.kept (t' := s1.toks) fun b o e => Heap.get?_push_of_some _ e, turn_tuple a _, ⟨_, Heap.get?_push_size _ rfl, rfl, rfl⟩, fun b hb => ?_, q⟩
  have e : b = s1.heap.objs.size := by simpa using hb
  subst e
  exact I1.fpOk (Nat.le_refl _) (I1.hok.fresh (Nat.le_refl _))
theorem range_it {pins : List (Addr × Obj)} {σ : St} {H : Hp} {s : Shared} {R : It → Hp → Prop} {E : Value → Shared → Prop} {lo hi : Int} {t u v : Tok} {tk : Nat} (I : Inv X pins σ H s) (h1 : -(2 ^ 62) ≤ lo) (h2 : lo < 2 ^ 62) (h3 : -(2 ^ 62) ≤ hi) (h4 : hi < 2 ^ 62)
    (q : R (Itr lo (hi - lo).toNat) H) : wpAny (model X.prog X.w) X.A (pyIter (.ref s.heap.objs.size)) (PIE X pins σ tg R) E { s with heap := s.heap.push { cls := .type "range", data := .fields #[.int lo t, .int hi u, .int 1 v] }, toks := tk } := by
  refine wpAny_pyIter_range (IsRange.new ..) (small_one h1 h2 h3 h4) ?_
  have I1 : Inv X pins σ H { s with heap := s.heap.push { cls := .type "range", data := .fields #[.int lo t, .int hi u, .int 1 v] }, toks := tk } := I.kept fun b o e => Heap.get?_push_of_some _ e
  refine ⟨(s.heap.push { cls := .type "range", data := .fields #[.int lo t, .int hi u, .int 1 v] }).objs.size, [(s.heap.push { cls := .type "range", data := .fields #[.int lo t, .int hi u, .int 1 v] }).objs.size], _, _, H, rfl,
    I1.kept (t' := tk) fun b o e => Heap.get?_push_of_some _ e, turn_range _ lo (hi - lo).toNat, ?_, fun b hb => ?_, q⟩
  · have e1 : lo + ((0 : Nat) : Int) * 1 = lo := by simp
    have e2 : (((hi - lo).toNat : Nat) : Int) - ((0 : Nat) : Int) = Builtin.Range.rangeSize lo hi 1 := by rw [rangeSize_one]; split <;> omega
    show IsRangeIter _ _ (lo + ((0 : Nat) : Int) * 1) ((((hi - lo).toNat : Nat) : Int) - ((0 : Nat) : Int)) 1
    rw [e1, e2]
    exact Heap.get?_push_size _ rfl
  · have e : b = (s.heap.push { cls := .type "range", data := .fields #[.int lo t, .int hi u, .int 1 v] }).objs.size := by simpa using hb
    subst e
    exact I1.fpOk (Nat.le_refl _) (I1.hok.fresh (Nat.le_refl _))
def iRng1 (ta : TA) : TI := fun σ H R => ta σ H fun vs H1 => ∃ j : Int, vs = [.int j] ∧ -(2 ^ 62) ≤ j ∧ j < 2 ^ 62 ∧ R (Itr 0 j.toNat) H1
theorem pi_range1 {a : Expr} {ta : TA} {p pos : Pos} (hg : Gl X "range") (hm : X.mg "range" = none) (ha : PA X [a] ta) (hs : starEach [a] X.env = [(false, eval a X.env)] := by rfl) : PI X tg (.Call (.Name "range" p) [a] [] pos) (iRng1 ta) := by
  intro pins s σ H R I h
  refine Call_ (ld_blt I hg hm boot_range (PyProof.Rows.callWith_type1 (thn (ha pos pins s σ H _ I h) fun us s1 ⟨vs, H1, I1, r1, q1⟩ => ?_) hs rfl))
  obtain ⟨j, e, q1, q2, q⟩ := q1
  subst e
  cases r1 with
  | cons r rr =>
    cases rr
    obtain ⟨t, rfl⟩ := r
    exact call_range_1 (range_it I1 (by omega) (by omega) q1 q2 (by simpa using q))
def tFor (wi : TI) (g : TG) (tb : TS) : TS := fun D σ H => wi σ H fun J H1 => ∃ W : Nat → Nat → St → Hp → Prop, (∃ m, W 0 m σ H1) ∧ ∀ i m σ H, W i m σ H →
  (J.stop i H ∧ D.nx σ H) ∨ (J.go i H ∧ ∃ N : St → Hp → Prop, (∀ σ' H', N σ' H' → ∃ m', m' < m ∧ W (i + 1) m' σ' H') ∧ ∀ x H', J.yld i H x H' → g x σ H' fun σ2 H2 => tb { D with nx := N, ct := N, bk := D.nx } σ2 H2)
def pinsAt (fp : List Addr) (h : Heap) : List (Addr × Obj) := fp.filterMap fun b => (h.get? b).map fun o => (b, o)
theorem mem_pinsAt {fp : List Addr} {h : Heap} {b : Addr} {o : Obj} (hb : b ∈ fp) (e : h.get? b = some o) : (b, o) ∈ pinsAt fp h := List.mem_filterMap.mpr ⟨b, hb, by rw [e]; rfl⟩
theorem of_pinsAt {fp : List Addr} {h : Heap} {p : Addr × Obj} (hp : p ∈ pinsAt fp h) : p.1 ∈ fp ∧ h.get? p.1 = some p.2 := by
  obtain ⟨b, hb, e⟩ := List.mem_filterMap.mp hp
  cases q : h.get? b with
  | none => rw [q] at e; cases e
  | some o =>
    rw [q] at e
    have e' : (b, o) = p := Option.some.inj e
    subst e'
    exact ⟨hb, q⟩
theorem Inv.pinned {pins : List (Addr × Obj)} {σ : St} {H : Hp} {s : Shared} {fp : List Addr} (I : Inv X pins σ H s) (hf : ∀ b ∈ fp, FpOk X pins H b) (ho : ∀ b ∈ fp, ∃ o, s.heap.get? b = some o ∧ ∀ v, o.data ≠ .cell v) : Inv X (pins ++ pinsAt fp s.heap) σ H s :=
  I.pins_of fun p hp => (List.mem_append.mp hp).elim (fun z => I.pin p (List.mem_append_right _ z)) fun z => by
    obtain ⟨hb, e⟩ := of_pinsAt z
    obtain ⟨f0, f1, f2, _⟩ := hf p.1 hb
    obtain ⟨o, e', d⟩ := ho p.1 hb
    rw [e] at e'; cases e'
    exact ⟨e, f0, f1, f2, d⟩
theorem Inv.unpinned {pins pl : List (Addr × Obj)} {σ : St} {H : Hp} {s : Shared} (I : Inv X (pins ++ pl) σ H s) : Inv X pins σ H s := I.pins_of fun p hp => I.pin p (List.mem_append_right _ (List.mem_append_left _ hp))
theorem ps_for {iter : Expr} {body : List Stmt} {wi : TI} {g : TG} {tb : TS} {pos : Pos} (hp : PassesOwn (model X.prog X.w) X.A X.env X.xe) (hc : X.calm = true) (hi : PI X tg iter wi) (hg : PG X tg g) (hb : PSs X body tb)
    (hs : ∀ x, foldedSetIterable iter X.env x = pure x := by intro _; rfl) : PS X (.For tg iter body [] pos) (tFor wi g tb) := by
  intro pins s σ H D I h
  refine wpAny_For (thn (hi pins s σ H _ I h) fun v s1 h1 => thn h1 fun itv s2 h2 => ?_) hs
  obtain ⟨it, fp, tn, J, H2, e, I2, T, st2, f2, W, ⟨m0, w0⟩, turn⟩ := h2
  subst e
  -- what stays true of the iterator's objects through the loop
  have stat : ∀ {H' : Hp}, (∀ b ∈ fp, H' b = none) → ∀ b ∈ fp, FpOk X pins H' b := fun hn b hb => ⟨hn b hb, (f2 b hb).2⟩
  refine codeAny_forLoop_any (fun n s' => ∃ i σ' H', Inv X pins σ' H' s' ∧ tn i s'.heap ∧ (∀ b ∈ fp, H' b = none) ∧ W i n σ' H') ?_ m0 ⟨0, σ, H2, I2, st2, fun b hb => (f2 b hb).1, w0⟩
  rintro n s3 ⟨i, σ3, H3, I3, st3, fr3, w3⟩
  rcases turn i n σ3 H3 w3 with ⟨stop, qn⟩ | ⟨go, N, hN, step⟩
  · refine wpAny_passesOwn hp (thn (T.done X rfl rfl rfl hc i pins s3 σ3 H3 X.xe I3 (stat fr3) st3 stop) fun r s4 ⟨hr, I4⟩ => ?_)
    subst hr
    exact wpAny_execs_nil ⟨σ3, H3, I4, qn⟩
  · refine wpAny_passesOwn hp (thn (T.item X rfl rfl rfl hc i pins s3 σ3 H3 X.xe I3 (stat fr3) st3 go) fun r s4 ⟨u, hr, h4⟩ => ?_)
    subst hr
    refine wpAny_passesOwn hp (thn h4 fun _ s5 ⟨x, H5, I5, r5, y5, st5, fr5⟩ => ?_)
    have I5' := I5.pinned (stat fr5) (T.obj _ _ st5)
    refine wpAny_passesOwn hp (thn (hg _ s5 σ3 H5 x u _ I5' r5 (step x H5 y5)) fun _ s6 ⟨σ6, H6, I6, q6⟩ => ?_)
    refine wpAny_passesOwn hp (thn (hb _ s6 σ6 H6 _ I6 q6) fun f s7 q7 => ?_)
    have again : ∀ {σ7 : St} {H7 : Hp}, Inv X (pins ++ pinsAt fp s5.heap) σ7 H7 s7 → N σ7 H7 → ∃ m, m < n ∧ ∃ i σ' H', Inv X pins σ' H' s7 ∧ tn i s7.heap ∧ (∀ b ∈ fp, H' b = none) ∧ W i m σ' H' := fun {σ7 H7} I7 n7 => by
      obtain ⟨m', hm, w7⟩ := hN σ7 H7 n7
      refine ⟨m', hm, i + 1, σ7, H7, I7.unpinned, T.keep _ _ _ st5 fun b hb o e => (I7.pin (b, o) (List.mem_append_right _ (List.mem_append_right _ (mem_pinsAt hb e)))).1, fun b hb => ?_, w7⟩
      obtain ⟨o, e, d⟩ := T.obj _ _ st5 b hb
      exact (I7.pin (b, o) (List.mem_append_right _ (List.mem_append_right _ (mem_pinsAt hb e)))).2.1
    cases f with
    | next => obtain ⟨σ7, H7, I7, n7⟩ := q7; exact again I7 n7
    | cont => obtain ⟨σ7, H7, I7, n7⟩ := q7; exact again I7 n7
    | brk => obtain ⟨σ7, H7, I7, q7⟩ := q7; exact ⟨σ7, H7, I7.unpinned, q7⟩
    | ret v => obtain ⟨x7, σ7, H7, I7, r7, q7⟩ := q7; exact ⟨x7, σ7, H7, I7.unpinned, r7, q7⟩
end
end L2
namespace L2
open PySem PySem.Spec PyProof.Rows
abbrev R2 := V → V → Hp → VK → Prop
def OpR (X : Cx) (f : Value → Value → Sem Value) (r : R2) : Prop :=
  ∀ (pins : List (Addr × Obj)) (s : Shared) (σ : St) (H : Hp) (x y : V) (v u : Value) (Q : VK), Inv X pins σ H s → RelV x v → RelV y u → r x y H Q →
    wpAny (model X.prog X.w) X.A (f v u) (EP X pins σ Q) X.xe s
def CallR (X : Cx) (f : Value) (r : List V → Hp → VK → Prop) : Prop :=
  ∀ (pins : List (Addr × Obj)) (s : Shared) (σ : St) (H : Hp) (xs : List V) (us : List Value) (Q : VK), Inv X pins σ H s → Vals xs us → r xs H Q →
    wpAny (model X.prog X.w) X.A (call f us) (EP X pins σ Q) X.xe s
def TruR (X : Cx) (r : V → Hp → (Bool → Hp → Prop) → Prop) : Prop :=
  ∀ (pins : List (Addr × Obj)) (s : Shared) (σ : St) (H : Hp) (x : V) (v : Value) (Q : Bool → Hp → Prop), Inv X pins σ H s → RelV x v → r x H Q →
    wpAny (model X.prog X.w) X.A (truthy v) (TP X pins σ Q) X.xe s
def tOp (r : R2) (ta tb : TE) : TE := fun σ H Q => ta σ H fun x H1 => tb σ H1 fun y H2 => r x y H2 Q
def rI (C : Int → Int → Prop) (g : Int → Int → V) : R2 := fun x y H Q => ∃ i j, x = .int i ∧ y = .int j ∧ C i j ∧ Q (g i j) H
def rI0 (g : Int → Int → V) : R2 := fun x y H Q => ∃ i j, x = .int i ∧ y = .int j ∧ Q (g i j) H
section
variable {X : Cx} {a b c : Expr} {ta tb tc : TE} {pos : Pos}
theorem binT (ha : PE X a ta) (hb : PE X b tb) {pins : List (Addr × Obj)} {s : Shared} {σ : St} {H : Hp} {R : V → V → Hp → Prop} (I : Inv X pins σ H s)
    (h : ta σ H fun x H1 => tb σ H1 fun y H2 => R x y H2) {Q : Value → Shared → Prop} {f : Value → Value → Sem Value}
    (hf : ∀ v u s2 x y H2, Inv X pins σ H2 s2 → RelV x v → RelV y u → R x y H2 → wpAny (model X.prog X.w) X.A (f v u) Q X.xe s2) :
    wpAny (model X.prog X.w) X.A (eval a X.env) (fun v s₁ => wpAny (model X.prog X.w) X.A (eval b X.env) (fun u s₂ => wpAny (model X.prog X.w) X.A (f v u) Q X.xe s₂) X.xe s₁) X.xe s := by
  refine thn (ha pins s σ H _ I h) fun v s1 ⟨x, H1, I1, r1, q1⟩ => ?_
  refine thn (hb pins s1 σ H1 _ I1 q1) fun u s2 ⟨y, H2, I2, r2, q2⟩ => ?_
  exact hf v u s2 x y H2 I2 r1 r2 q2
theorem pe_op {op : Operator} {r : R2} (ho : OpR X (binaryOp op) r) (ha : PE X a ta) (hb : PE X b tb) : PE X (.BinOp a op b pos) (tOp r ta tb) := by
  intro pins s σ H Q I h
  exact wpAny_BinOp (binT ha hb I h fun v u s2 x y H2 I2 rx ry q => ho pins s2 σ H2 x y v u Q I2 rx ry q)
theorem opI {f : Value → Value → Sem Value} {C : Int → Int → Prop} {g : Int → Int → Int}
    (rule : ∀ (i j : Int) (t u : Tok) (s : Shared) (Q : Value → Shared → Prop) (E : Value → Shared → Prop), C i j → Q (.int (g i j) s.toks) { s with toks := s.toks + 1 } → wpAny (model X.prog X.w) X.A (f (.int i t) (.int j u)) Q E s) :
    OpR X f (rI C fun i j => .int (g i j)) := by
  intro pins s σ H x y v u Q I rx ry h
  obtain ⟨i, j, rfl, rfl, hc, q⟩ := h
  obtain ⟨t, rfl⟩ := rx
  obtain ⟨t', rfl⟩ := ry
  exact rule i j t t' s _ _ hc ⟨.int (g i j), H, I.tok _, ⟨_, rfl⟩, q⟩
theorem opI0 {f : Value → Value → Sem Value} {g : Int → Int → Int}
    (rule : ∀ (i j : Int) (t u : Tok) (s : Shared) (Q : Value → Shared → Prop) (E : Value → Shared → Prop), Q (.int (g i j) s.toks) { s with toks := s.toks + 1 } → wpAny (model X.prog X.w) X.A (f (.int i t) (.int j u)) Q E s) :
    OpR X f (rI0 fun i j => .int (g i j)) := by
  intro pins s σ H x y v u Q I rx ry h
  obtain ⟨i, j, rfl, rfl, q⟩ := h
  obtain ⟨t, rfl⟩ := rx
  obtain ⟨t', rfl⟩ := ry
  exact rule i j t t' s _ _ ⟨.int (g i j), H, I.tok _, ⟨_, rfl⟩, q⟩
theorem opB0 {f : Value → Value → Sem Value} {g : Int → Int → Bool}
    (rule : ∀ (i j : Int) (t u : Tok) (s : Shared) (Q : Value → Shared → Prop) (E : Value → Shared → Prop), Q (.bool (g i j)) s → wpAny (model X.prog X.w) X.A (f (.int i t) (.int j u)) Q E s) :
    OpR X f (rI0 fun i j => .bl (g i j)) := by
  intro pins s σ H x y v u Q I rx ry h
  obtain ⟨i, j, rfl, rfl, q⟩ := h
  obtain ⟨t, rfl⟩ := rx
  obtain ⟨t', rfl⟩ := ry
  exact rule i j t t' s _ _ ⟨.bl (g i j), H, I, rfl, q⟩
def CMul (i j : Int) : Prop := (-(2 ^ 64) < i ∧ i < 2 ^ 64) ∨ (-(2 ^ 64) < j ∧ j < 2 ^ 64)
theorem CMul.ok {i j : Int} (h : CMul i j) : IntMulOk i j := by
  rcases h with ⟨h1, h2⟩ | ⟨h1, h2⟩
  · exact .of_left (intBits_le_64 h1 h2)
  · exact .of_right (intBits_le_64 h1 h2)
theorem op_add : OpR X (binaryOp .Add) (rI0 fun i j => .int (i + j)) := opI0 fun _ _ _ _ _ _ _ q => add_int q
theorem op_sub : OpR X (binaryOp .Sub) (rI0 fun i j => .int (i - j)) := opI0 fun _ _ _ _ _ _ _ q => sub_int q
theorem op_mul : OpR X (binaryOp .Mult) (rI CMul fun i j => .int (i * j)) := opI fun _ _ _ _ _ _ _ hc q => mul_int q hc.ok
theorem op_mod : OpR X (binaryOp .Mod) (rI (fun _ j => 0 < j) fun i j => .int (i % j)) := opI fun i j _ _ _ _ _ hc q => by
  have h1 : (0 : Int) < j := hc
  exact mod_int' (by omega) (by rw [Int.fmod_eq_emod_of_nonneg i (by omega)]; exact q)
end
section
variable {X : Cx} {a b c : Expr} {ta tb tc : TE} {pos : Pos}
theorem fin_bl {pins : List (Addr × Obj)} {σ : St} {H : Hp} {s : Shared} {Q : VK} {k k' : Bool} (I : Inv X pins σ H s) (q : Q (.bl k) H) (e : k = k') : EP X pins σ Q (.bool k') s := by
  subst e
  exact ⟨.bl k, H, I, rfl, q⟩
theorem op_lt : OpR X (compareOp .Lt) (rI0 fun i j => .bl (decide (i < j))) := opB0 fun _ _ _ _ _ _ _ q => lt_int q
theorem op_gt : OpR X (compareOp .Gt) (rI0 fun i j => .bl (decide (j < i))) := opB0 fun _ _ _ _ _ _ _ q => gt_int q
theorem op_lt_str : OpR X (compareOp .Lt) (fun x y H Q => ∃ i j, x = .str i ∧ y = .str j ∧ Q (.bl (decide (i.cps.toList < j.cps.toList))) H) := by
  intro pins s σ H x y v u Q I rx ry h
  obtain ⟨i, j, rfl, rfl, q⟩ := h
  obtain ⟨t, rfl⟩ := rx
  obtain ⟨t', rfl⟩ := ry
  exact lt_str (fin_bl I q rfl)
theorem op_in_str : OpR X (compareOp .In) (fun x y H Q => ∃ i j, x = .str i ∧ y = .str j ∧ Q (.bl (!(Builtin.Str.occurrences j i 0 j.length 1).isEmpty)) H) := by
  intro pins s σ H x y v u Q I rx ry h
  obtain ⟨i, j, rfl, rfl, q⟩ := h
  obtain ⟨t, rfl⟩ := rx
  obtain ⟨t', rfl⟩ := ry
  exact in_str (fin_bl I q rfl)
theorem OpR.or {f : Value → Value → Sem Value} {r r' : R2} (h : OpR X f r) (h' : OpR X f r') : OpR X f (fun x y H Q => r x y H Q ∨ r' x y H Q) := by
  intro pins s σ H x y v u Q I rx ry q
  rcases q with q | q
  · exact h pins s σ H x y v u Q I rx ry q
  · exact h' pins s σ H x y v u Q I rx ry q
theorem nomark (b : Expr) {op : CmpOp} (h : op ≠ .In := by decide) (h2 : op ≠ .NotIn := by decide) : behindInMarks op b = false := by
  have e1 : (op == CmpOp.In) = false := by cases op <;> first | rfl | exact absurd rfl h
  have e2 : (op == CmpOp.NotIn) = false := by cases op <;> first | rfl | exact absurd rfl h2
  cases b <;> simp [behindInMarks, e1, e2]
theorem pe_cmpR {op : CmpOp} {r : R2} (ho : OpR X (compareOp op) r) (ha : PE X a ta) (hb : PE X b tb) (hm : behindInMarks op b = false) : PE X (.Compare a [op] [b] pos) (tOp r ta tb) := by
  intro pins s σ H Q I h
  exact wpAny_Compare1 (binT ha hb I h fun v u s2 x y H2 I2 rx ry q => ho pins s2 σ H2 x y v u Q I2 rx ry q) hm
def tTest (t : TE) : TT := fun σ H Q => t σ H fun x H' => ∃ k, x = .bl k ∧ Q k H'
theorem pt_cmpR {op : CmpOp} {r : R2} (ho : OpR X (compareOp op) r) (ha : PE X a ta) (hb : PE X b tb) (hm : behindInMarks op b = false) : PT X (.Compare a [op] [b] pos) (tTest (tOp r ta tb)) := by
  intro pins s σ H Q I h
  refine wpAny_isTrue_Compare1 (thn (ha pins s σ H _ I h) fun v s1 ⟨x, H1, I1, r1, q1⟩ => thn (hb pins s1 σ H1 _ I1 q1) fun u s2 ⟨y, H2, I2, r2, q2⟩ =>
    thn (ho pins s2 σ H2 x y v u _ I2 r1 r2 q2) fun c s3 ⟨z, H3, I3, r3, k, e, q3⟩ => ?_) hm
  subst e
  cases r3
  exact wpAny_truthy_bool ⟨H3, I3, q3⟩
def TruV (K : PySem.W.Frag) (x : V) (H : Hp) (k : Bool) : Prop :=
  match x with
  | .non => k = false
  | .bl b => k = b
  | .int i => k = (i != 0)
  | .str y => y.length ≤ sizeLine ∧ k = ((y.length : Int) != 0)
  | .byt y => y.size ≤ sizeLine ∧ k = ((y.size : Int) != 0)
  | .ref p => (∃ xs, SqL K H p xs ∧ k = !xs.isEmpty) ∨ (∃ xs, SqT K H p xs ∧ k = !xs.isEmpty) ∨ ∃ kvs, H p = some (.dK kvs) ∧ k = !kvs.isEmpty
  | _ => False
theorem isEmpty_kv {κ : Type} {kvs : List (κ × V)} {vs : List (κ × Value)} (r : KV kvs vs) : (!vs.isEmpty) = !kvs.isEmpty := by
  cases r <;> rfl
theorem isEmpty_of {xs : List V} {its : List Value} (r : Vals xs its) : (!its.toArray.isEmpty) = !xs.isEmpty := by
  cases r <;> simp
theorem line63 : (sizeLine : Nat) < 2 ^ 63 := by rw [sizeLine_eq]; decide
theorem tru_ok : TruR X (fun x H Q => ∃ k, TruV X.K x H k ∧ Q k H) := by
  intro pins s σ H x v Q I rx h
  obtain ⟨k, e, q⟩ := h
  have hl := line63
  have hs : sizeLine = 16777216 := sizeLine_eq
  cases x with
  | non =>
    cases rx
    have e' : k = false := e
    subst e'
    exact truthy_none ⟨H, I, q⟩
  | bl b =>
    cases rx
    have e' : k = b := e
    subst e'
    exact wpAny_truthy_bool ⟨H, I, q⟩
  | int i =>
    obtain ⟨t, rfl⟩ := rx
    have e' : k = (i != 0) := e
    subst e'
    exact PySem.P.truthy_int ⟨H, I, q⟩
  | str y =>
    obtain ⟨t, rfl⟩ := rx
    obtain ⟨hy, e'⟩ : y.length ≤ sizeLine ∧ k = ((y.length : Int) != 0) := e
    subst e'
    exact PySem.P.truthy_str (by omega) ⟨H, I.tok _, q⟩
  | byt y =>
    obtain ⟨t, rfl⟩ := rx
    obtain ⟨hy, e'⟩ : y.size ≤ sizeLine ∧ k = ((y.size : Int) != 0) := e
    subst e'
    exact PySem.W.truthy_bytes (by omega) ⟨H, I.tok _, q⟩
  | ref p =>
    cases rx
    have e' : (∃ xs, SqL X.K H p xs ∧ k = !xs.isEmpty) ∨ (∃ xs, SqT X.K H p xs ∧ k = !xs.isEmpty) ∨ ∃ kvs, H p = some (.dK kvs) ∧ k = !kvs.isEmpty := e
    rcases e' with ⟨xs, hx, e'⟩ | ⟨xs, hx, e'⟩ | ⟨kvs, hx, e'⟩
    · subst e'
      obtain ⟨its, r, pl, hz⟩ := I.list hx
      have hlen := r.length
      exact wpAny_truthy_list pl.isList (by simp only [List.size_toArray]; omega) ⟨H, I.tok _, by rw [isEmpty_of r]; exact q⟩
    · subst e'
      obtain ⟨its, r, pl, hz⟩ := I.tuple hx
      have hlen := r.length
      exact truthy_tuple pl (by simp only [List.size_toArray]; omega) ⟨H, I.tok _, by rw [isEmpty_of r]; exact q⟩
    · subst e'
      obtain ⟨hz, hS, vs, r, m⟩ : kvs.length ≤ sizeLine ∧ (p == sysModules) = false ∧ ∃ vs, KV kvs vs ∧ s.heap.DictOf (mixKind X.prog X.w) p vs := I.hok p _ hx
      have hlen : kvs.length = vs.length := Paired.length r
      exact wpAny_truthy_dict hS m (by omega) ⟨H, I.tok _, by rw [isEmpty_kv r]; exact q⟩
  | _ => exact (show False from e).elim
theorem pt_truth (ha : PE X a ta) (he : ∀ whole, isTrue a X.env whole = (do let v ← whole; standAt a.pos; holding [v] (truthy v))) :
    PT X a (fun σ H Q => ta σ H fun x H' => ∃ k, TruV X.K x H' k ∧ Q k H') := by
  intro pins s σ H Q I h
  exact isTrue_plain (thn (ha pins s σ H _ I h) fun v s1 ⟨x, H1, I1, r1, q1⟩ => tru_ok pins s1 σ H1 x v Q I1 r1 q1) (he _)
theorem op_add_str : OpR X (binaryOp .Add) (fun x y H Q => ∃ i j, x = .str i ∧ y = .str j ∧ i.length + j.length ≤ sizeLine ∧ Q (.str (i ++ j)) H) := by
  intro pins s σ H x y v u Q I rx ry h
  obtain ⟨i, j, rfl, rfl, hz, q⟩ := h
  obtain ⟨t, rfl⟩ := rx
  obtain ⟨t', rfl⟩ := ry
  exact add_str (fun t' tk => ⟨.str (i ++ j), H, I.tok _, ⟨_, rfl⟩, q⟩) hz
theorem vals1 {x : V} {us : List Value} (r : Vals [x] us) : ∃ u, us = [u] ∧ RelV x u := by
  cases r with
  | cons r1 r2 => cases r2; exact ⟨_, rfl, r1⟩
theorem vals2 {x y : V} {us : List Value} (r : Vals [x, y] us) : ∃ u w', us = [u, w'] ∧ RelV x u ∧ RelV y w' := by
  cases r with
  | cons r1 r2 =>
    cases r2 with
    | cons r3 r4 => cases r4; exact ⟨_, _, rfl, r1, r3⟩
theorem call_max2 (hc : X.calm = true) : CallR X (.builtin "max") (fun xs H Q => ∃ i j, xs = [.int i, .int j] ∧ Q (.int (if j > i then j else i)) H) := by
  intro pins s σ H xs us Q I r h
  obtain ⟨i, j, rfl, q⟩ := h
  obtain ⟨u, w', rfl, ⟨t, rfl⟩, ⟨t', rfl⟩⟩ := vals2 r
  refine max_two_ints (I.ok.hd hc) fun h' tk k => ⟨_, H, I.kept k, ?_, q⟩
  by_cases hj : j > i
  · rw [if_pos hj, if_pos hj]; exact ⟨_, rfl⟩
  · rw [if_neg hj, if_neg hj]; exact ⟨_, rfl⟩
theorem call_min2 (hc : X.calm = true) : CallR X (.builtin "min") (fun xs H Q => ∃ i j, xs = [.int i, .int j] ∧ Q (.int (if j < i then j else i)) H) := by
  intro pins s σ H xs us Q I r h
  obtain ⟨i, j, rfl, q⟩ := h
  obtain ⟨u, w', rfl, ⟨t, rfl⟩, ⟨t', rfl⟩⟩ := vals2 r
  refine min_two_ints (I.ok.hd hc) fun h' tk k => ⟨_, H, I.kept k, ?_, q⟩
  by_cases hj : j < i
  · rw [if_pos hj, if_pos hj]; exact ⟨_, rfl⟩
  · rw [if_neg hj, if_neg hj]; exact ⟨_, rfl⟩
theorem call_int1 : CallR X (.type "int") (fun xs H Q => (∃ i, xs = [.int i] ∧ Q (.int i) H) ∨ ∃ k, xs = [.bl k] ∧ Q (.int (if k then 1 else 0)) H) := by
  intro pins s σ H xs us Q I r h
  rcases h with ⟨i, rfl, q⟩ | ⟨k, rfl, q⟩
  · obtain ⟨u, rfl, t, rfl⟩ := vals1 r
    exact call_int_int ⟨.int i, H, I, ⟨_, rfl⟩, q⟩
  · obtain ⟨u, rfl, r1⟩ := vals1 r
    cases r1
    exact call_int_bool ⟨.int (if k then 1 else 0), H, I.tok _, ⟨_, rfl⟩, q⟩
def LenV (K : PySem.W.Frag) (x : V) (H : Hp) (n : Nat) : Prop :=
  match x with
  | .str y => y.length ≤ sizeLine ∧ n = y.length
  | .byt y => y.size ≤ sizeLine ∧ n = y.size
  | .ref p => (∃ xs, SqL K H p xs ∧ n = xs.length) ∨ ∃ xs, SqT K H p xs ∧ n = xs.length
  | _ => False
theorem call_len : CallR X (.builtin "len") (fun xs H Q => ∃ x n, xs = [x] ∧ LenV X.K x H n ∧ Q (.int n) H) := by
  intro pins s σ H xs us Q I r h
  obtain ⟨x, n, rfl, e, q⟩ := h
  obtain ⟨u, rfl, rx⟩ := vals1 r
  have hl := line63
  have hs : sizeLine = 16777216 := sizeLine_eq
  cases x with
  | str y =>
    obtain ⟨t, rfl⟩ := rx
    obtain ⟨hy, e'⟩ : y.length ≤ sizeLine ∧ n = y.length := e
    subst e'
    exact len_str (by omega) ⟨.int _, H, I.tok _, ⟨_, rfl⟩, q⟩
  | byt y =>
    obtain ⟨t, rfl⟩ := rx
    obtain ⟨hy, e'⟩ : y.size ≤ sizeLine ∧ n = y.size := e
    subst e'
    exact PySem.W.len_bytes (by omega) ⟨.int _, H, I.tok _, ⟨_, rfl⟩, q⟩
  | ref p =>
    cases rx
    have e' : (∃ xs, SqL X.K H p xs ∧ n = xs.length) ∨ ∃ xs, SqT X.K H p xs ∧ n = xs.length := e
    rcases e' with ⟨xs, hx, e'⟩ | ⟨xs, hx, e'⟩
    · subst e'
      obtain ⟨its, r', pl, hz⟩ := I.list hx
      have hlen := r'.length
      exact Calls.call_len_list pl.isList (by simp only [List.size_toArray]; omega) ⟨.int xs.length, H, I.tok _, ⟨_, by simp only [List.size_toArray]; rw [hlen]⟩, q⟩
    · subst e'
      obtain ⟨its, r', pl, hz⟩ := I.tuple hx
      have hlen := r'.length
      exact len_tuple pl (by simp only [List.size_toArray]; omega) ⟨.int xs.length, H, I.tok _, ⟨_, by simp only [List.size_toArray]; rw [hlen]⟩, q⟩
  | _ => exact (show False from e).elim
end
end L2
namespace L2
open PySem PySem.Spec PyProof.Rows
structure ObjM (h : Heap) (x dx C : Addr) (mA : Str → Option Value) : Prop where
  obj : h.get? x = some (PySem.W.instObj C dx)
  ns : h.Ns1 dx mA
  ne : dx ≠ x
theorem lookIn_ns {h : Heap} {dx : Addr} {mA : Str → Option Value} (n : h.Ns1 dx mA) : ∃ od, h.get? dx = some od ∧ ∀ name, PySem.W.lookIn name od = some (mA name) := by
  obtain ⟨o, es, ep, ho, hd, hk, _, hm⟩ := n
  refine ⟨o, ho, fun name => ?_⟩
  have e := hm name
  unfold nsFind findBy at e
  rw [← Array.find?_toList] at e
  unfold PySem.W.lookIn
  rw [hd]
  dsimp only
  split
  · rename_i y q
    rw [q] at e
    exact congrArg some e
  · rename_i q
    rw [q] at e
    have a : es.toList.any (·.refKey) = false := by
      rw [List.any_eq_false]
      intro y hy
      obtain ⟨z, t, hkey⟩ := hk y (Array.mem_toList_iff.mp hy)
      simp [DictEntry.refKey, hkey]
    have a' : ¬ es.toList.any (·.refKey) = true := by rw [a]; exact Bool.false_ne_true
    rw [if_neg a']
    exact congrArg some e
theorem ObjM.look {h : Heap} {x dx C : Addr} {mA : Str → Option Value} (I : ObjM h x dx C mA) : ∃ od, PySem.W.InstAt h x (PySem.W.instObj C dx) C (some od) ∧ ∀ name, PySem.W.lookIn name od = some (mA name) :=
  let ⟨od, ho, hl⟩ := lookIn_ns I.ns
  ⟨od, ⟨I.obj, rfl, rfl, ho⟩, hl⟩
section
variable {prog : Program} {w : World} {A : Around} {E : Value → Shared → Prop} {s : Shared} {K : PySem.W.Frag} {x dx C f : Addr} {mA : Str → Option Value} {name : Str} {v : Value}
end
section
variable {P : Program} {w : World} {H H' : Hp} {h h' : Heap} {a C dx : Addr} {fs fs' : List (Str × V)}
theorem ins_get (hok : HOk P w H h) (e : H a = some (.ins C dx fs)) : ∃ mA, ObjM h a dx C mA ∧ (∀ f, RelO (fs.lookup f) (mA f)) ∧ PySem.Within mA (fs.map (·.1)) ∧ fs.length ≤ 1000 ∧ H dx = some (.own a) := by
  obtain ⟨d, z, ne, ob, mA, n, r, q⟩ := (show ObjOk P w H h a (.ins C dx fs) from hok a _ e)
  exact ⟨mA, ⟨ob, n, ne⟩, r, q, z, d⟩
end
structure Cls (K : PySem.W.Frag) (C : Addr) : Prop where
  pg : PySem.W.plainGet K C Str.empty = true
  hd : PySem.W.hasDictIn K C = true
  po : PySem.W.plainOver K C = true
  sa : PySem.W.findIn K (.ref C) "__setattr__" = some (some (.builtin "object.__setattr__"))
theorem Cls.get {K : PySem.W.Frag} {C : Addr} (c : Cls K C) (f : Str) : PySem.W.plainGet K C f = true := c.pg
section
variable {X : Cx} {pins : List (Addr × Obj)} {σ : St} {H : Hp} {s : Shared} {a C dx : Addr} {fs : List (Str × V)} {f : Str} {v : V} {A : Around} {E : Value → Shared → Prop}
end
section
variable {X : Cx} {o e value : Expr} {f : Str} {pos pos' tpos : Pos} {ta tv : TE}
end
section
variable {X : Cx} {pins : List (Addr × Obj)} {σ : St} {H : Hp} {s : Shared} {A : Around} {E : Value → Shared → Prop} {Q : Value → Shared → Prop} {c : Value} {b : Bool}
inductive TyOf (K : PySem.W.Frag) (H : Hp) : V → Value → Prop where
  | non : TyOf K H .non (.type "NoneType")
  | bl (x : Bool) : TyOf K H (.bl x) (.type "bool")
  | int (i : Int) : TyOf K H (.int i) (.type "int")
  | str (x : Str) : TyOf K H (.str x) (.type "str")
  | flt (x : UInt64) : TyOf K H (.flt x) (.type "float")
  | lst {a : Addr} {xs : List V} (e : H a = some (.lst xs)) : TyOf K H (.ref a) (.type "list")
  | frz {a : Addr} {o : Obj} {xs : List V} (e : H a = some (.frz o (.lst xs))) : TyOf K H (.ref a) (.type "list")
  | tup {a : Addr} {xs : List V} (e : H a = some (.tup xs)) : TyOf K H (.ref a) (.type "tuple")
  | dK {a : Addr} {kvs : List (Key × V)} (e : H a = some (.dK kvs)) : TyOf K H (.ref a) (.type "dict")
  | dT {a : Addr} {kvs : List (List Key × V)} (e : H a = some (.dT kvs)) : TyOf K H (.ref a) (.type "dict")
  | ins {a C dx : Addr} {fs : List (Str × V)} (e : H a = some (.ins C dx fs)) (cl : Cls K C) (ha : PySem.W.findIn K (.ref C) "__class__" = some (some (.builtin "object.__class__")))
      (hn : PySem.W.specialIn K (.builtin "object.__class__") "__get__" = some (some (.builtin "getset_descriptor.__get__"))) (htk : PySem.W.takesIn K (.builtin "object.__class__") = some true)
      (hm : PySem.W.mroIn K C (.type "object") = some true) : TyOf K H (.ref a) (.ref C)
theorem isinst_ok {x : V} {u t : Value} (I : Inv X pins σ H s) (rx : RelV x u) (ty : TyOf X.K H x t) (e : PySem.W.kitOne X.K t c = some b) (h : ∀ tk, Q (.bool b) { s with toks := tk }) :
    wpAny (model X.prog X.w) A (call (.builtin "isinstance") [u, c]) Q E s := by
  cases ty with
  | non => cases (show u = Value.none from rx); exact PySem.W.kia_one PySem.W.kitx_none I.kIn True.intro e (fun z => nomatch z) h
  | bl y => cases (show u = Value.bool y from rx); exact PySem.W.kia_one PySem.W.kitx_bool I.kIn True.intro e (fun z => nomatch z) h
  | int i => obtain ⟨t, q⟩ := (show ∃ t, u = Value.int i t from rx); cases q; exact PySem.W.kia_one PySem.W.kitx_int I.kIn True.intro e (fun z => nomatch z) h
  | str y => obtain ⟨t, q⟩ := (show ∃ t, u = Value.str y t from rx); cases q; exact PySem.W.kia_one PySem.W.kitx_str I.kIn True.intro e (fun z => nomatch z) h
  | flt y => obtain ⟨t, q⟩ := (show ∃ t, u = Value.float y t from rx); cases q; exact PySem.W.kia_one PySem.W.kitx_float I.kIn True.intro e (fun z => nomatch z) h
  | @lst a xs ea =>
    cases (show u = Value.ref a from rx)
    obtain ⟨_, _, n, _, h1⟩ := (show ObjOk X.prog X.w H s.heap a (.lst xs) from I.hok a _ ea)
    exact PySem.W.kia_one PySem.W.kitx_list I.kIn ⟨_, h1, rfl⟩ e (fun z => nomatch z) h
  | @frz a ob xs ea =>
    cases (show u = Value.ref a from rx)
    obtain ⟨_, _, _, n, _, h1⟩ := (show ObjOk X.prog X.w H s.heap a (.frz ob (.lst xs)) from I.hok a _ ea)
    exact PySem.W.kia_one PySem.W.kitx_list I.kIn ⟨_, h1, rfl⟩ e (fun z => nomatch z) h
  | @tup a xs ea =>
    cases (show u = Value.ref a from rx)
    obtain ⟨_, _, _, p⟩ := (show ObjOk X.prog X.w H s.heap a (.tup xs) from I.hok a _ ea)
    obtain ⟨o, h1, h2, _⟩ := p
    exact PySem.W.kia_one PySem.W.kitx_tuple I.kIn ⟨o, h1, h2⟩ e (fun z => nomatch z) h
  | @dK a kvs ea =>
    cases (show u = Value.ref a from rx)
    obtain ⟨_, _, vs, _, p⟩ := (show ObjOk X.prog X.w H s.heap a (.dK kvs) from I.hok a _ ea)
    obtain ⟨o, es, ep, h1, h2, _⟩ := p
    exact PySem.W.kia_one PySem.W.kitx_dict I.kIn ⟨o, h1, h2.1⟩ e (fun z => nomatch z) h
  | @dT a kvs ea =>
    cases (show u = Value.ref a from rx)
    obtain ⟨_, _, xs, _, o, es, ep, h1, h2, _⟩ := (show ObjOk X.prog X.w H s.heap a (.dT kvs) from I.hok a _ ea)
    exact PySem.W.kia_one PySem.W.kitx_dict I.kIn ⟨o, h1, h2.1⟩ e (fun z => nomatch z) h
  | @ins a C dx fs ea cl ha hn htk hm =>
    cases (show u = Value.ref a from rx)
    obtain ⟨mA, O, _⟩ := ins_get I.hok ea
    obtain ⟨od, J, _⟩ := O.look
    exact PySem.W.kia_one (PySem.W.kitx_own (cl.get _) cl.hd ha hn htk hm) I.kIn J e (fun z => nomatch z) h
end
end L2
namespace L2
open PySem PySem.Spec PyProof.Rows
structure Room (k : Nat) (A : Around) : Prop where
  hd : A.handled = none
  dp : A.depth + 3 * k + 5 < recursionLimit
  un : A.units + 16 * k + 200 < cLine
theorem Room.mono {j k : Nat} {A : Around} (r : Room k A) (h : j ≤ k) : Room j A := ⟨r.hd, by have := r.dp; omega, by have := r.un; omega⟩
theorem Room.deeper {k : Nat} {A : Around} (r : Room (k + 1) A) (env : Env) : Room k (A.deeper env) :=
  ⟨r.hd, by have := r.dp; show A.depth + 1 + 3 * k + 5 < _; omega, by have := r.un; show A.units + 3 + 16 * k + 200 < _; omega⟩
theorem Room.in1 {k : Nat} {A : Around} (r : Room (k + 1) A) : Room k A.in1 :=
  ⟨r.hd, by have := r.dp; show A.depth + 3 * k + 5 < _; omega, by have := r.un; show A.units + 1 + 16 * k + 200 < _; omega⟩
theorem Room.depth {k : Nat} {A : Around} (r : Room k A) : A.depth < recursionLimit := by have := r.dp; omega
theorem Room.units {k : Nat} {A : Around} (r : Room k A) : A.units + 64 < cLine := by have := r.un; omega
def tNil : TA := fun _ H Q => Q [] H
def tCons (ta : TE) (tr : TA) : TA := fun σ H Q => ta σ H fun x H1 => tr σ H1 fun xs H2 => Q (x :: xs) H2
section
variable {X : Cx} {e : Expr} {es : List Expr} {te : TE} {t : TA} {pos : Pos}
theorem pa_nil : PA X [] tNil := fun _ _ _ _ H Q I h => Calls.spliced_nil ⟨[], H, I, .nil, h⟩
theorem pa_cons (ha : PE X e te) (hr : PA X es t) (hs : starEach (e :: es) X.env = (false, eval e X.env) :: starEach es X.env := by rfl) : PA X (e :: es) (tCons te t) := by
  intro pos pins s σ H Q I h
  rw [hs]
  show wpAny _ _ (spliced ((false, eval e X.env) :: backTo pos (starEach es X.env))) _ _ s
  refine Calls.spliced_cons (thn (ha pins s σ H _ I h) fun u s1 ⟨x, H1, I1, r1, q1⟩ => ?_)
  exact thn (hr pos pins s1 σ H1 _ I1 q1) fun us s2 ⟨xs, H2, I2, r2, q2⟩ => ⟨x :: xs, H2, I2, .cons r1 r2, q2⟩
def tTup (t : TA) : TE := fun σ H Q => t σ H fun xs H1 => xs.length ≤ sizeLine ∧ ∀ p, H1 p = none → Q (.ref p) (upd H1 p (.tup xs))
def tLst (t : TA) : TE := fun σ H Q => t σ H fun xs H1 => xs.length ≤ sizeLine ∧ ∀ p, H1 p = none → Q (.ref p) (upd H1 p (.lst xs))
theorem pe_tup {x1} (h : PA X es t) : PE X (.Tuple es x1 pos) (tTup t) := by
  intro pins s σ H Q I hq
  refine wpAny_Tuple_spliced (thn (h pos pins s σ H _ I hq) fun us s1 ⟨xs, H1, I1, r, z, q⟩ => ⟨by rw [← r.length]; exact z, ?_⟩)
  have hf : H1 s1.heap.objs.size = none := I1.hok.fresh (Nat.le_refl _)
  refine ⟨.ref s1.heap.objs.size, upd H1 s1.heap.objs.size (.tup xs), I1.laid (t' := s1.toks) (fun b u e => Heap.get?_push_of_some _ e) (Nat.le_refl _) ?_, rfl, q _ hf⟩
  exact ⟨z, us, r, ⟨_, Heap.get?_push_size _ rfl, rfl, rfl, _, rfl⟩⟩
theorem pe_lst (h : PA X es t) : PE X (.List es pos) (tLst t) := by
  intro pins s σ H Q I hq
  refine wpAny_List_spliced (thn (h pos pins s σ H _ I hq) fun us s1 ⟨xs, H1, I1, r, z, q⟩ => ⟨by rw [← r.length]; exact z, ?_⟩)
  have hf : H1 s1.heap.objs.size = none := I1.hok.fresh (Nat.le_refl _)
  refine ⟨.ref s1.heap.objs.size, upd H1 s1.heap.objs.size (.lst xs), I1.laid (t' := s1.toks) (fun b u e => Heap.get?_push_of_some _ e) (Nat.le_refl _) ?_, rfl, q _ hf⟩
  exact ⟨z, us, 0, r, Heap.get?_push_size _ rfl⟩
end
abbrev Sp := List V → Hp → VK → XK → Prop
abbrev CXT := List Env → Hp → Shared → XK → Value → Shared → Prop
structure Env0 (P : Program) (w : World) (K : PySem.W.Frag) (mg : Str → Option Value) (base : Heap) (A : Around) (outer : List Env) (s : Shared) (H : Hp) : Prop where
  frames : A.frames = some outer
  mod : Mod K mg base
  bs : ∀ b o, base.get? b = some o → s.heap.get? b = some o ∧ H b = none
  bsz : base.objs.size ≤ s.heap.objs.size
  funs : s.heap.FunFrames base outer
  frf : ∀ b ∈ frs outer, H b = none
  hok : HOk P w H s.heap
  bare : AllBare s.gens
def CE (outer : List Env) (P : Program) (w : World) (H : Hp) (s : Shared) (Q : VK) (u : Value) (s' : Shared) : Prop :=
  ∃ v H', s'.os = s.os ∧ AllBare s'.gens ∧ Un (frs outer) [] H H' s.heap s'.heap ∧ HOk P w H' s'.heap ∧ RelV v u ∧ Q v H'
def CR (CX : CXT) (outer : List Env) (P : Program) (w : World) (H : Hp) (s : Shared) (Q : VK) (E : XK) (r : Result) (s' : Shared) : Prop :=
  match r with
  | .ok (.ret u) => CE outer P w H s Q u s'
  | .ok _ => False
  | .error e => CX outer H s E e s'
structure FnOk (P : Program) (w : World) (K : PySem.W.Frag) (mg : Str → Option Value) (base : Heap) (CX : CXT) (k : Nat) (f : Addr) (fd : FuncData) (ps : List Str) (sp : Sp) : Prop where
  len : ∀ vs H Q E, sp vs H Q E → vs.length = ps.length
  run : ∀ (A : Around) (outer : List Env) (s : Shared) (H : Hp) (args : Args) (us : List Value) (vs : List V) (Q : VK) (E : XK), Room k A → Env0 P w K mg base A outer s H → BindsTo s fd args (ps.zip us) → Vals vs us → sp vs H Q E →
    codeAny (model P w) A (.call (.ref f) args) (CR CX outer P w H s Q E) s
theorem FnOk.imp {P : Program} {w : World} {K : PySem.W.Frag} {mg : Str → Option Value} {base : Heap} {CX : CXT} {k : Nat} {f : Addr} {fd : FuncData} {ps : List Str} {sp sp' : Sp} (F : FnOk P w K mg base CX k f fd ps sp)
    (h : ∀ vs H Q E, sp' vs H Q E → sp vs H Q E) : FnOk P w K mg base CX k f fd ps sp' :=
  ⟨fun vs H Q E q => F.len vs H Q E (h _ _ _ _ q), fun A outer s H args us vs Q E hr he hb hv hs => F.run A outer s H args us vs Q E hr he hb hv (h _ _ _ _ hs)⟩
section
variable {X : Cx} {pins : List (Addr × Obj)} {σ : St} {H : Hp} {s s' : Shared}
theorem Inv.env0 (I : Inv X pins σ H s) : Env0 X.prog X.w X.K X.mg X.base X.A X.stack s H :=
  ⟨I.ok.frames, I.ok.mod, I.bs, Nat.le_trans I.ok.bsz I.sz, I.stack, I.stkFree, I.hok, I.bare⟩
theorem Inv.after {Q : VK} {u : Value} (I : Inv X pins σ H s) (h : CE X.stack X.prog X.w H s Q u s') : EP X pins σ Q u s' := by
  obtain ⟨v, H', os, bare, un, hok, r, q⟩ := h
  obtain ⟨hh, g, d, t, os'⟩ := s'
  obtain rfl : os' = s.os := os
  exact ⟨v, H', I.call (h' := hh) (g' := g) (d' := d) (t' := t) (ch := []) un hok bare (fun b z => absurd z (by simp)), r, q⟩
end
def tCall (sp : Sp) (dvs : List V) (E : XK) (t : TA) : TE := fun σ H Q => t σ H fun vs H1 => sp (vs ++ dvs) H1 Q E
def Binds (K : PySem.W.Frag) (fd : FuncData) (ps : List Str) (ds : List Value) : Prop :=
  ∀ (s : Shared) (us : List Value), K.In s.heap → (us ++ ds).length = ps.length → BindsTo s fd ⟨us, []⟩ (ps.zip (us ++ ds))
theorem Binds.all {K : PySem.W.Frag} {fd : FuncData} {ps : List Str} (h : ∀ us : List Value, us.length = ps.length → bindArgs fd ⟨us, []⟩ = pure (ps.zip us)) : Binds K fd ps [] := fun s us _ hl => by
  rw [List.append_nil] at hl ⊢
  exact .of_eq (h us hl)
def Passes (CX : CXT) (X : Cx) (E : XK) : Prop := ∀ (pins : List (Addr × Obj)) (σ : St) (H : Hp) (s : Shared) (e : Value) (s' : Shared), Inv X pins σ H s → CX X.stack H s E e s' → X.xe e s'
section
variable {X : Cx} {CX : CXT} {k : Nat} {f C : Addr} {fd : FuncData} {ps : List Str} {sp : Sp} {dvs : List V} {ds : List Value} {E : XK} {x m : Str} {p pos apos : Pos} {e o : Expr} {es : List Expr} {ta : TE} {t : TA}
theorem run_fn {pins : List (Addr × Obj)} {σ : St} {H : Hp} {s : Shared} {Q : VK} {us : List Value} {vs : List V} (F : FnOk X.prog X.w X.K X.mg X.base CX k f fd ps sp) (hr : Room k X.A) (hb : Binds X.K fd ps ds) (hd : Vals dvs ds) (hx : Passes CX X E)
    (I : Inv X pins σ H s) (r : Vals vs us) (h : sp (vs ++ dvs) H Q E) : wpAny (model X.prog X.w) X.A (call (.ref f) us) (EP X pins σ Q) X.xe s := by
  have r2 : Vals (vs ++ dvs) (us ++ ds) := r.append hd
  have hl : (us ++ ds).length = ps.length := by rw [← r2.length]; exact F.len _ _ _ _ h
  refine wpAny_call (codeAny_mono (F.run X.A X.stack s H ⟨us, []⟩ (us ++ ds) (vs ++ dvs) Q E hr I.env0 (hb s us I.kIn hl) r2 h) fun r s' hq => ?_)
  cases r with
  | error e => exact hx pins σ H s e s' I hq
  | ok fl =>
    cases fl with
    | ret u => exact I.after hq
    | next => exact False.elim hq
    | brk => exact False.elim hq
    | cont => exact False.elim hq
theorem pe_call (F : FnOk X.prog X.w X.K X.mg X.base CX k f fd ps sp) (hr : Room k X.A) (hg : Gl X x) (hm : X.mg x = some (.ref f)) (hk : PySem.W.keepIn X.K (.ref f) = true) (hb : Binds X.K fd ps ds) (hd : Vals dvs ds) (hx : Passes CX X E)
    (ha : PA X (e :: es) t) (hdb : (x == ("__debug__" : Str)) = false := by decide) (he : starEach (e :: es) X.env = (false, eval e X.env) :: starEach es X.env := by rfl) (hpl : (backTo pos (starEach es X.env)).any (·.1) = false := by rfl) :
    PE X (.Call (.Name x p) (e :: es) [] pos) (tCall sp dvs E t) := by
  intro pins s σ H Q I h
  refine wpAny_Call_Name_kw (ld_glob I hg hm ?_ hdb)
  refine PySem.W.callWith_K (h₀ := X.base) I.ok.mod.kin hk (thn (ha pos pins s σ H _ I h) fun us s1 ⟨vs, H1, I1, r, q⟩ => ⟨I1.kIn, ?_⟩) he hpl
  exact run_fn F hr hb hd hx I1 r q
end
section
variable {X : Cx} {CX : CXT} {k : Nat} {f C : Addr} {fd : FuncData} {ps ks : List Str} {sp : Sp} {E : XK} {x m : Str} {p pos apos kpos : Pos} {e o : Expr} {es : List Expr} {kws : List Keyword} {te ta : TE} {t tk : TA} {nm : Option Str}
variable {g : List Value → List Value → List Value} {gV : List V → List V → List V}
end
structure FnScope (N P : List Str) (sc : Scope) : Prop where
  kind : sc.kind = .function
  co : sc.isCoroutine = false
  gen : sc.isGenerator = false
  nd : N.Nodup
  pre : N.take P.length = P
  par : ∀ x ∈ P, sc.names.lookup x = some .local ∨ sc.names.lookup x = some .cell
  nofree : ∀ y ∈ sc.names, y.2 ≠ .free
theorem bindL_out {kindOf : Str → Option NameKind} {x : Str} : ∀ {binds : List (Str × Value)} {m : Str → Option Value}, (∀ v, (x, v) ∉ binds) → bindL kindOf binds m x = m x
  | [], _, _ => rfl
  | (n, v) :: r, m, h => by
    unfold bindL
    rw [bindL_out fun w hw => h w (List.mem_cons_of_mem _ hw)]
    split
    · have : x ≠ n := by rintro rfl; exact h v List.mem_cons_self
      simp [this]
    · rfl
theorem bindC_out {kindOf : Str → Option NameKind} {x : Str} : ∀ {binds : List (Str × Value)} {m : Str → Option Value}, (∀ v, (x, v) ∉ binds) → bindC kindOf binds m x = m x
  | [], _, _ => rfl
  | (n, v) :: r, m, h => by
    unfold bindC
    rw [bindC_out fun w hw => h w (List.mem_cons_of_mem _ hw)]
    split
    · rfl
    · have : x ≠ n := by rintro rfl; exact h v List.mem_cons_self
      simp [this]
theorem bindL_get {kindOf : Str → Option NameKind} {x : Str} {v : Value} : ∀ {P : List Str} {vs : List Value} {i : Nat} {m : Str → Option Value}, P.Nodup → P[i]? = some x → vs[i]? = some v → kindOf x = some .local →
    bindL kindOf (P.zip vs) m x = some v
  | [], _, _, _, _, h, _, _ => by simp at h
  | _ :: _, [], _, _, _, _, h, _ => by simp at h
  | p :: P, w :: vs, 0, m, nd, h1, h2, hk => by
    simp at h1 h2; subst h1; subst h2
    show bindL kindOf ((p, w) :: P.zip vs) m p = _
    unfold bindL
    rw [bindL_out fun v hv => (List.nodup_cons.mp nd).1 (List.of_mem_zip hv).1, if_pos hk]
    simp
  | p :: P, w :: vs, i + 1, m, nd, h1, h2, hk => by
    show bindL kindOf ((p, w) :: P.zip vs) m x = _
    unfold bindL
    exact bindL_get (i := i) (List.nodup_cons.mp nd).2 (by simpa using h1) (by simpa using h2) hk
theorem bindC_get {kindOf : Str → Option NameKind} {x : Str} {v : Value} : ∀ {P : List Str} {vs : List Value} {i : Nat} {m : Str → Option Value}, P.Nodup → P[i]? = some x → vs[i]? = some v → kindOf x ≠ some .local →
    bindC kindOf (P.zip vs) m x = some v
  | [], _, _, _, _, h, _, _ => by simp at h
  | _ :: _, [], _, _, _, _, h, _ => by simp at h
  | p :: P, w :: vs, 0, m, nd, h1, h2, hk => by
    simp at h1 h2; subst h1; subst h2
    show bindC kindOf ((p, w) :: P.zip vs) m p = _
    unfold bindC
    rw [bindC_out fun v hv => (List.nodup_cons.mp nd).1 (List.of_mem_zip hv).1, if_neg hk]
    simp
  | p :: P, w :: vs, i + 1, m, nd, h1, h2, hk => by
    show bindC kindOf ((p, w) :: P.zip vs) m x = _
    unfold bindC
    exact bindC_get (i := i) (List.nodup_cons.mp nd).2 (by simpa using h1) (by simpa using h2) hk
def start (N : List Str) (vs : List V) : St := vs.map some ++ List.replicate (N.length - vs.length) none
def cxOf (CX : CXT) (P : Program) (w : World) (K : PySem.W.Frag) (mg : Str → Option Value) (base : Heap) (N : List Str) (qual : Str) (scope : Scope) (f : Addr) (cd : Value) (A : Around) (outer : List Env) (s : Shared) (H : Hp) (E : XK) : Cx where
  prog := P
  w := w
  K := K
  mg := mg
  base := base
  A := A.deeper (envOfC qual scope s.heap.objs.size f cd)
  N := N
  s₀ := s
  H₀ := H
  env := envOfC qual scope s.heap.objs.size f cd
  outer := outer
  stack := envOfC qual scope s.heap.objs.size f cd :: outer
  ex := []
  calm := true
  fn := fun _ => true
  pn := []
  xe := fun e s' => wpAny (model P w) (A.deeper (envOfC qual scope s.heap.objs.size f cd)) (leaving (envOfC qual scope s.heap.objs.size f cd) e) (fun _ s'' => CX outer H s E e s'') (fun e' s'' => CX outer H s E e' s'') s'
theorem cell_has {sc : Scope} {n : Nat} {x : Str} (h : sc.names.lookup x = some .cell) : ∃ c, (cellsFrom n sc.names []).lookup x = some c := by
  have q := PySem.W.cellsFrom_some sc.names n [] (.inl h)
  exact Option.isSome_iff_exists.mp q
theorem inv_start {CX : CXT} {P : Program} {w : World} {K : PySem.W.Frag} {mg : Str → Option Value} {base : Heap} {N ps : List Str} {qual : Str} {scope : Scope} {f : Addr} {cd : Value} {A : Around} {outer : List Env} {s s1 : Shared} {H : Hp} {E : XK} {us : List Value} {vs : List V}
    (S : FnScope N ps scope) (hd : A.handled = none) (e0 : Env0 P w K mg base A outer s H) (hl : vs.length = ps.length) (r : Vals vs us)
    (x : InCallC s s.heap.objs.size (bindL (envOfC qual scope s.heap.objs.size f cd).kindOf (ps.zip us) fun _ => none) (cellsFrom (s.heap.objs.size + 1) scope.names []) (bindC (envOfC qual scope s.heap.objs.size f cd).kindOf (ps.zip us) fun _ => none) s1) :
    Inv (cxOf CX P w K mg base N qual scope f cd A outer s H E) [] (start N vs) H s1 := by
  have hpl : ps.length ≤ N.length := by have := congrArg List.length S.pre; rw [List.length_take] at this; omega
  obtain ⟨h1, tk, rfl, hk⟩ := x.done
  have noA : ∀ b : Addr, b ∉ (cxOf CX P w K mg base N qual scope f cd A outer s H E).ex := fun b z => absurd (show b ∈ ([] : List Addr) from z) (by simp)
  refine ⟨⟨e0.mod, S.kind, rfl, rfl, Nat.le_refl _, fun y z c h1 h2 => ?_, fun y hy => ?_, fun y c _ h => ?_, fun _ => hd, Around.frames_deeper e0.frames, .inr ⟨rfl, rfl⟩, fun b z => absurd z (noA b), e0.bs, e0.bsz, fun b _ _ => noA b, fun b z => absurd z (noA b), e0.funs, e0.frf⟩,
    rfl, e0.bare, Un.kept hk, ⟨_, x.toInCall.ns, fun i y v h1 h2 h3 => ?_⟩, fun y c h => ⟨_, x.cell y c h⟩, e0.hok.fresh (Nat.le_refl _), fun y c h => ?_, fun p hp => absurd (show p ∈ ([] : List (Addr × Obj)) from hp) (by simp), e0.hok.kept hk, ?_⟩
  · exact name_of_addr x.apart (PySem.mem_of_lookup h1) (PySem.mem_of_lookup h2)
  · have hy : scope.names.lookup y = some .cell ∨ scope.names.lookup y = some .free := hy
    rcases hy with hy | hy
    · exact cell_has hy
    · exact absurd rfl (S.nofree _ (PySem.mem_of_lookup hy))
  · exact Nat.le_of_lt (x.above y c (PySem.mem_of_lookup h))
  · have hi : i < vs.length := by
      unfold start at h2
      by_cases hi : i < vs.length
      · exact hi
      · rw [List.getElem?_append_right (by simpa using hi)] at h2
        rw [List.getElem?_replicate] at h2
        split at h2 <;> cases h2
    have ha : vs[i]? = some v := by
      unfold start at h2
      rw [List.getElem?_append_left (by simpa using hi), List.getElem?_map] at h2
      cases e : vs[i]? with
      | none => rw [e] at h2; cases h2
      | some a => rw [e] at h2; cases h2; rfl
    obtain ⟨u, hu, rv⟩ := r.get ha
    have hp : ps[i]? = some y := by
      rw [← S.pre, List.getElem?_take_of_lt (by omega)]; exact h1
    have ndP : ps.Nodup := by rw [← S.pre]; exact S.nd.sublist (List.take_sublist _ _)
    refine ⟨u, rv, ?_⟩
    rcases S.par y (List.mem_of_getElem? hp) with k | k
    · exact .inl ⟨k, bindL_get ndP hp hu k⟩
    · obtain ⟨c, e⟩ := cell_has (n := s.heap.objs.size + 1) k
      refine .inr ⟨.inl k, c, e, ?_⟩
      have q := x.cell y c e
      rw [bindC_get ndP hp hu (by show scope.names.lookup y ≠ _; rw [k]; decide)] at q
      exact q
  · exact e0.hok.fresh (Nat.le_of_lt (x.above y c (PySem.mem_of_lookup h)))
  · unfold start
    show _ = N.length
    rw [List.length_append, List.length_map, List.length_replicate]
    omega
theorem fn_of {CX : CXT} {P : Program} {w : World} {K : PySem.W.Frag} {mg : Str → Option Value} {base : Heap} {k : Nat} {f : Addr} {name qual : Str} {params : Arguments} {body : List Stmt} {scope : Scope} {dV kV doc pm cdv ct oc : Value} {an od : Option Addr}
    {osl : Array (Option Value)} {N ps : List Str} {sp : Sp} (lk : K.lookup f = some ⟨oc, od, .func (PySem.W.fnOf name qual params body scope dV kV doc pm an cdv ct), osl⟩) (hcd : PySem.W.codeIn K cdv qual = true) (S : FnScope N ps scope)
    (len : ∀ vs H Q E, sp vs H Q E → vs.length = ps.length)
    (hbody : ∀ (A : Around) (outer : List Env) (s : Shared) (H : Hp) (vs : List V) (Q : VK) (E : XK), Room k (A.deeper (envOfC qual scope s.heap.objs.size f cdv)) → sp vs H Q E →
      ∃ t, PSs (cxOf CX P w K mg base N qual scope f cdv A outer s H E) body t ∧ t { nx := fun _ H' => Q .non H', rt := Q } (start N vs) H) :
    FnOk P w K mg base CX (k + 1) f (PySem.W.fnOf name qual params body scope dV kV doc pm an cdv ct) ps sp := by
  refine ⟨len, fun A outer s H args us vs Q E hr e0 hb r hsp => ?_⟩
  have hl := len _ _ _ _ hsp
  have KX : K.In s.heap := e0.mod.kin.keeps fun b o e => (e0.bs b o e).1
  have lim : s.heap.NoLimit := e0.mod.nolimit.keeps fun b o e => (e0.bs b o e).1
  have hkind : ∀ y ∈ ps.zip us, scope.names.lookup y.1 = some .local ∨ (scope.names.lookup y.1 = some .cell ∧ ((cellsFrom (s.heap.objs.size + 1) scope.names []).lookup y.1).isSome = true) := fun ⟨n, v⟩ hy => by
    rcases S.par n (List.of_mem_zip hy).1 with q | q
    · exact .inl q
    · exact .inr ⟨q, PySem.W.cellsFrom_some _ _ _ (.inl q)⟩
  refine codeAny_call_function hr.depth (KX _ _ lk) rfl S.co S.gen rfl (PySem.W.codeRec_of KX hcd) (hb _ _ _ _ ?_)
  refine wpAny_newFunctionEnv_cells S.kind hkind fun env he s1 x => ?_
  subst he
  refine ⟨lim.keeps x.toInCall.keep, codeAny_func ?_⟩
  obtain ⟨t, ht, hq⟩ := hbody A outer s H vs Q E (hr.deeper _) hsp
  have I : Inv (cxOf CX P w K mg base N qual scope f cdv A outer s H E) [] (start N vs) H s1 := inv_start S hr.hd e0 hl r x
  refine wpAny_mono (ht [] s1 (start N vs) H _ I hq) (fun fl s' hs => ?_) fun e s' hs => hs
  have fin : ∀ {σ' : St} {H' : Hp} {v : V} {u : Value}, Inv (cxOf CX P w K mg base N qual scope f cdv A outer s H E) [] σ' H' s' → RelV v u → Q v H' → CE outer P w H s Q u s' :=
    fun {σ' H' v u} J rv q => ⟨v, H', J.os, J.bare, J.base, J.hok, rv, q⟩
  cases fl with
  | ret u =>
    obtain ⟨v, σ', H', J, rv, q⟩ := hs
    exact fin J rv q
  | next =>
    obtain ⟨σ', H', J, q⟩ := hs
    exact fin (v := V.non) (u := Value.none) J rfl q
  | brk =>
    obtain ⟨_, _, _, q⟩ := hs
    exact False.elim q
  | cont =>
    obtain ⟨_, _, _, q⟩ := hs
    exact False.elim q
end L2
namespace L2
open PySem PySem.Spec PyProof.Rows
section
variable {X : Cx} {x : Str} {p pos : Pos} {e : Expr} {es : List Expr} {t : TA} {id T : String} {r : List V → Hp → VK → Prop}
def tCB (r : List V → Hp → VK → Prop) (t : TA) : TE := fun σ H Q => t σ H fun vs H1 => r vs H1 Q
theorem pe_callB (hc : CallR X (.builtin id) r) (hg : Gl X x) (hm : X.mg x = none) (hv : bootBuiltins x = some (.builtin id)) (ha : PA X (e :: es) t) (hn : x ≠ "__name__" := by decide) (hdb : (x == ("__debug__" : Str)) = false := by decide)
    (he : starEach (e :: es) X.env = (false, eval e X.env) :: starEach es X.env := by rfl) (hpl : (backTo pos (starEach es X.env)).any (·.1) = false := by rfl) : PE X (.Call (.Name x p) (e :: es) [] pos) (tCB r t) := by
  intro pins s σ H Q I h
  refine wpAny_Call_Name_kw (ld_blt I hg hm hv ?_ hn hdb)
  exact PyProof.Rows.callWith_builtin1 (thn (ha pos pins s σ H _ I h) fun us s1 ⟨vs, H1, I1, r1, q1⟩ => hc pins s1 σ H1 vs us Q I1 r1 q1) he hpl
theorem pe_callTy (hc : CallR X (.type T) r) (hg : Gl X x) (hm : X.mg x = none) (hv : bootBuiltins x = some (.type T)) (ha : PA X (e :: es) t) (hn : x ≠ "__name__" := by decide) (hdb : (x == ("__debug__" : Str)) = false := by decide)
    (he : starEach (e :: es) X.env = (false, eval e X.env) :: starEach es X.env := by rfl) (hpl : (backTo pos (starEach es X.env)).any (·.1) = false := by rfl) : PE X (.Call (.Name x p) (e :: es) [] pos) (tCB r t) := by
  intro pins s σ H Q I h
  refine wpAny_Call_Name_kw (ld_blt I hg hm hv ?_ hn hdb)
  exact PyProof.Rows.callWith_type1 (thn (ha pos pins s σ H _ I h) fun us s1 ⟨vs, H1, I1, r1, q1⟩ => hc pins s1 σ H1 vs us Q I1 r1 q1) he hpl
end
end L2
namespace HT
open PySem PyProof.Rows
section
open PySem.SeqAt
open PySem.AutoSeq1 (wpAny_loadPart')
open PySem.MeetsSeq PySem.MeetsSeq2 PySem.MeetsSeq3
end
section
variable {prog : Program} {w : World} {A : Around} {E : Value → Shared → Prop} {s : Shared}
def sIx (n d : Nat) : Option Int → Nat
  | none => d
  | some v => if v < 0 then (v + (n : Int)).toNat else min v.toNat n
theorem sIx_le (n d : Nat) (hd : d ≤ n) (o : Option Int) : sIx n d o ≤ n := by
  cases o with
  | none => exact hd
  | some v =>
    show (if v < 0 then (v + (n : Int)).toNat else min v.toNat n) ≤ n
    by_cases hv : v < 0
    · rw [if_pos hv]; omega
    · rw [if_neg hv]; exact Nat.min_le_right _ _
end
end HT
namespace L2
open PySem PySem.Spec PyProof.Rows
abbrev TO := St → Hp → (Option Int → Hp → Prop) → Prop
def PO (X : Cx) (e : Option Expr) (t : TO) : Prop :=
  ∀ (pins : List (Addr × Obj)) (s : Shared) (σ : St) (H : Hp) (Q : Option Int → Hp → Prop), Inv X pins σ H s → t σ H Q →
    wpAny (model X.prog X.w) X.A (evalPart e X.env) (fun u s' => ∃ o H', Inv X pins σ H' s' ∧ IsPart u o ∧ Q o H') X.xe s
def tNoPart : TO := fun _ H Q => Q none H
def tPart (t : TE) : TO := fun σ H Q => t σ H fun x H1 => ∃ i, x = .int i ∧ Q (some i) H1
section
variable {X : Cx} {e : Expr} {te : TE} {lo hi : Option Expr} {tl th : TO} {pos p2 : Pos}
theorem po_none : PO X none tNoPart := by
  intro pins s σ H Q I h
  rw [evalPart_none]
  exact wpAny_pure ⟨none, H, I, .none, h⟩
theorem po_some (h : PE X e te) : PO X (some e) (tPart te) := by
  intro pins s σ H Q I hw
  rw [evalPart_some]
  refine thn (h pins s σ H _ I hw) fun u s1 ⟨x, H1, I1, r1, q1⟩ => ?_
  obtain ⟨i, rfl, q⟩ := q1
  obtain ⟨t, rfl⟩ := r1
  exact ⟨some i, H1, I1, .int i t, q⟩
def SlR (X : Cx) (r : V → Option Int → Option Int → Hp → VK → Prop) : Prop :=
  ∀ (pins : List (Addr × Obj)) (s : Shared) (σ : St) (H : Hp) (x : V) (v vl vu : Value) (lo hi : Option Int) (sl : Addr) (Q : VK), Inv X pins σ H s → RelV x v → s.heap.IsSliceOf sl vl vu .none → IsPart vl lo → IsPart vu hi → r x lo hi H Q →
    ∃ T id, typeLookup (.type T) "__getitem__" = pure (some (.builtin id)) ∧ s.TypeIs v T ∧ wpAny (model X.prog X.w) X.A (getItem v (.ref sl)) (EP X pins σ Q) X.xe s
theorem SlR.or {r r' : V → Option Int → Option Int → Hp → VK → Prop} (h : SlR X r) (h' : SlR X r') : SlR X (fun x lo hi H Q => r x lo hi H Q ∨ r' x lo hi H Q) := by
  intro pins s σ H x v vl vu lo hi sl Q I rx hs pl pu q
  rcases q with q | q
  · exact h pins s σ H x v vl vu lo hi sl Q I rx hs pl pu q
  · exact h' pins s σ H x v vl vu lo hi sl Q I rx hs pl pu q
def tSl (r : V → Option Int → Option Int → Hp → VK → Prop) (te : TE) (tl th : TO) : TE := fun σ H Q => te σ H fun x H1 => tl σ H1 fun l H2 => th σ H2 fun u H3 => r x l u H3 Q
theorem pe_slice {r : V → Option Int → Option Int → Hp → VK → Prop} (hr : SlR X r) (he : PE X e te) (hl : PO X lo tl) (hu : PO X hi th) : PE X (.Subscript e (.Slice lo hi none p2) pos) (tSl r te tl th) := by
  intro pins s σ H Q I h
  refine Subscript_ (thn (he pins s σ H _ I h) fun v s1 ⟨x, H1, I1, r1, q1⟩ => ?_)
  refine wpAny_Slice (thn (hl pins s1 σ H1 _ I1 q1) fun vl s2 ⟨l, H2, I2, pl, q2⟩ => thn (hu pins s2 σ H2 _ I2 q2) fun vu s3 ⟨u, H3, I3, pu, q3⟩ => ?_)
  rw [evalPart_none]
  refine wpAny_pure ?_
  have I4 : Inv X pins σ H3 { s3 with heap := s3.heap.push { cls := .type "slice", data := .fields #[vl, vu, .none] } } := I3.kept (t' := s3.toks) fun b ob q => Heap.get?_push_of_some _ q
  obtain ⟨T, id, hT, ht, hg⟩ := hr pins { s3 with heap := s3.heap.push { cls := .type "slice", data := .fields #[vl, vu, .none] } } σ H3 x v vl vu l u s3.heap.objs.size Q I4 r1 (Heap.IsSliceOf.new ..) pl pu q3
  show wpAny (model X.prog X.w) X.A (subscriptTail e (.Slice lo hi none p2) v (.ref s3.heap.objs.size)) (EP X pins σ Q) X.xe { s3 with heap := s3.heap.push { cls := .type "slice", data := .fields #[vl, vu, .none] } }
  exact tail_any (ops := [.ref s3.heap.objs.size, v]) ht hT hg (by with_unfolding_all rfl)
def cutV (xs : List V) (lo hi : Option Int) : List V := (xs.drop (HT.sIx xs.length 0 lo)).take (HT.sIx xs.length xs.length hi - HT.sIx xs.length 0 lo)
theorem cutV_length (xs : List V) (lo hi : Option Int) : (cutV xs lo hi).length ≤ xs.length := by
  unfold cutV
  rw [List.length_take, List.length_drop]
  omega
end
end L2
namespace L2
open PySem PySem.Spec PyProof.Rows
def ixN (n : Nat) (i : Int) : Option Nat := if 0 ≤ i then (if i < n then some i.toNat else none) else if -(n : Int) ≤ i then some (i + n).toNat else none
def atI {α : Type} (xs : List α) (i : Int) : Option α := (ixN xs.length i).bind fun j => xs[j]?
theorem ixN_seq {n : Nat} {i : Int} {j : Nat} (h : ixN n i = some j) : seqIndex? i n = some j ∧ j < n ∧ -(n : Int) ≤ i ∧ i < n := by
  unfold ixN at h
  by_cases h0 : 0 ≤ i
  · rw [if_pos h0] at h
    by_cases h1 : i < n
    · rw [if_pos h1] at h
      have e : i.toNat = j := Option.some.inj h
      exact ⟨by rw [seqIndex_of h0 h1, e], by omega, by omega, h1⟩
    · rw [if_neg h1] at h; cases h
  · rw [if_neg h0] at h
    by_cases h1 : -(n : Int) ≤ i
    · rw [if_pos h1] at h
      have e : (i + n).toNat = j := Option.some.inj h
      exact ⟨by rw [seqIndex_neg (by omega) h1, e], by omega, h1, by omega⟩
    · rw [if_neg h1] at h; cases h
theorem atI_get {α : Type} {xs : List α} {i : Int} {v : α} (h : atI xs i = some v) : ∃ j, seqIndex? i xs.length = some j ∧ xs[j]? = some v ∧ j < xs.length ∧ -(xs.length : Int) ≤ i ∧ i < xs.length := by
  unfold atI at h
  cases e : ixN xs.length i with
  | none => rw [e] at h; cases h
  | some j =>
    rw [e] at h
    obtain ⟨h1, h2, h3, h4⟩ := ixN_seq e
    exact ⟨j, h1, h, h2, h3, h4⟩
def PlainIx (b : Expr) : Prop := ∀ o i, subscripted b false o i = operate [o, i] (getItem o i)
def IxR (X : Cx) (r : R2) : Prop :=
  ∀ (value slice : Expr) (pins : List (Addr × Obj)) (s : Shared) (σ : St) (H : Hp) (x y : V) (v u : Value) (Q : VK), Inv X pins σ H s → RelV x v → RelV y u → r x y H Q →
    subscripted slice false v u = operate [v, u] (getItem v u) → wpAny (model X.prog X.w) X.A (subscriptTail value slice v u) (EP X pins σ Q) X.xe s
def MtR (X : Cx) (id : String) (r : V → List V → Hp → VK → Prop) : Prop :=
  ∀ (pins : List (Addr × Obj)) (s : Shared) (σ : St) (H : Hp) (x : V) (xs : List V) (v : Value) (us : List Value) (Q : VK), Inv X pins σ H s → RelV x v → Vals xs us → r x xs H Q →
    wpAny (model X.prog X.w) X.A (call (.builtin id) (v :: us)) (EP X pins σ Q) X.xe s
section
variable {X : Cx} {a b : Expr} {ta tb : TE} {pos : Pos}
theorem IxR.or {r r' : R2} (h : IxR X r) (h' : IxR X r') : IxR X (fun x y H Q => r x y H Q ∨ r' x y H Q) := by
  intro value slice pins s σ H x y v u Q I rx ry q hs
  rcases q with q | q
  · exact h value slice pins s σ H x y v u Q I rx ry q hs
  · exact h' value slice pins s σ H x y v u Q I rx ry q hs
theorem pe_ix {r : R2} (hr : IxR X r) (ha : PE X a ta) (hb : PE X b tb) (hs : PlainIx b) : PE X (.Subscript a b pos) (tOp r ta tb) := by
  intro pins s σ H Q I h
  exact Subscript_ (binT ha hb I h fun v u s2 x y H2 I2 rx ry q => hr a b pins s2 σ H2 x y v u Q I2 rx ry q (hs _ _))
def rIxL (K : PySem.W.Frag) : R2 := fun x y H Q => ∃ p xs i v, x = .ref p ∧ y = .int i ∧ SqL K H p xs ∧ atI xs i = some v ∧ Q v H
def rIxT (K : PySem.W.Frag) : R2 := fun x y H Q => ∃ p xs i v, x = .ref p ∧ y = .int i ∧ SqT K H p xs ∧ atI xs i = some v ∧ Q v H
def rIxS : R2 := fun x y H Q => ∃ z i c, x = .str z ∧ y = .int i ∧ z.length ≤ sizeLine ∧ atI z.cps.toList i = some c ∧ Q (.str ⟨#[c]⟩) H
theorem ix_list : IxR X (rIxL X.K) := by
  intro value slice pins s σ H x y v u Q I rx ry h hs
  obtain ⟨p, xs, i, z, rfl, rfl, hq, he, q⟩ := h
  cases rx
  obtain ⟨t, rfl⟩ := ry
  obtain ⟨its, r, pl, hz⟩ := I.list hq
  obtain ⟨j, h1, h2, h3, h4, h5⟩ := atI_get he
  obtain ⟨w, ew, rw'⟩ := r.get h2
  have hl := r.length
  have hn := line63
  have fin : EP X pins σ Q w s := ⟨z, H, I, rw', q⟩
  by_cases h0 : 0 ≤ i
  · have hj : i.toNat = j := by
      rw [seqIndex_of h0 h5] at h1
      exact Option.some.inj h1
    exact item_listR pl.isList h0 (by omega) (by rw [hj]; simpa using ew) fin hs
  · have hj : (i + (its.toArray.size : Int)).toNat = j := by
      rw [seqIndex_neg (by omega) h4] at h1
      rw [List.size_toArray, ← hl]
      exact Option.some.inj h1
    exact subscriptTail_builtinR (x := w) pl.isList.typeIs slot_list_getitem.lookup
      (wpAny_getItem_list_neg (Q := fun r s' => r = w ∧ EP X pins σ Q r s') pl.isList (by omega) (by rw [List.size_toArray] <;> omega) (by omega) (by rw [hj]; simpa using ew) ⟨rfl, fin⟩) hs
theorem ix_tup : IxR X (rIxT X.K) := by
  intro value slice pins s σ H x y v u Q I rx ry h hs
  obtain ⟨p, xs, i, z, rfl, rfl, hq, he, q⟩ := h
  cases rx
  obtain ⟨t, rfl⟩ := ry
  obtain ⟨its, r, pl, hz⟩ := I.tuple hq
  obtain ⟨j, h1, h2, h3, h4, h5⟩ := atI_get he
  obtain ⟨w, ew, rw'⟩ := r.get h2
  have hl := r.length
  have hn := line63
  have fin : EP X pins σ Q w s := ⟨z, H, I, rw', q⟩
  exact subscriptTail_builtinR (x := w) pl.typeIs slot_tuple_getitem.lookup
    (getItem_tuple (j := j) (Q := fun r s' => r = w ∧ EP X pins σ Q r s') pl (by omega) (by omega) (by rw [List.size_toArray, ← hl]; exact h1) (by simpa using ew) ⟨rfl, fin⟩) hs
theorem ix_str : IxR X rIxS := by
  intro value slice pins s σ H x y v u Q I rx ry h hs
  obtain ⟨z, i, c, rfl, rfl, hz, he, q⟩ := h
  obtain ⟨t, rfl⟩ := rx
  obtain ⟨t', rfl⟩ := ry
  obtain ⟨j, h1, h2, h3, h4, h5⟩ := atI_get he
  have hl : z.cps.toList.length = z.length := by simp [Str.length]
  rw [hl] at h1 h4 h5
  have hn := line63
  exact tail_any (typeIs_str s z t) slot_str_getitem.lookup (getItem_str (c := c) (by
    have e1 : decide (i < -(2 ^ 63 : Int)) = false := decide_eq_false (by omega)
    have e2 : decide (i ≥ 2 ^ 63) = false := decide_eq_false (by omega)
    rw [e1, e2, Bool.or_false]) (by rw [h1]; simpa using h2) ⟨.str ⟨#[c]⟩, H, I.tok _, ⟨_, rfl⟩, q⟩) hs
def rIx (K : PySem.W.Frag) : R2 := fun x y H Q => rIxL K x y H Q ∨ rIxT K x y H Q ∨ rIxS x y H Q
theorem ix_seq : IxR X (rIx X.K) := ix_list.or (ix_tup.or ix_str)
theorem slice_bounds (lo hi : Option Int) (n : Nat) : (sliceBounds lo hi none n).1 = ((HT.sIx n 0 lo : Nat) : Int) ∧ (sliceBounds lo hi none n).2.1 = ((HT.sIx n n hi : Nat) : Int) ∧ (sliceBounds lo hi none n).2.2 = 1 := by
  refine ⟨?_, ?_, rfl⟩
  · cases lo with
    | none => simp [sliceBounds, HT.sIx]
    | some i =>
      simp only [sliceBounds, HT.sIx, Option.getD_none, show (1 : Int) > 0 by decide, if_true]
      by_cases h : i < 0
      · simp only [h, if_true] <;> omega
      · simp only [h, if_false] <;> omega
  · cases hi with
    | none => simp [sliceBounds, HT.sIx]
    | some i =>
      simp only [sliceBounds, HT.sIx, Option.getD_none, show (1 : Int) > 0 by decide, if_true]
      by_cases h : i < 0
      · simp only [h, if_true] <;> omega
      · simp only [h, if_false] <;> omega
theorem slicePick_cut (its : List Value) (lo hi : Option Int) : slicePick its.toArray lo hi none = ((its.drop (HT.sIx its.length 0 lo)).take (HT.sIx its.length its.length hi - HT.sIx its.length 0 lo)).toArray := by
  obtain ⟨h1, h2, h3⟩ := slice_bounds lo hi its.toArray.size
  unfold slicePick
  rw [h1, h2, h3]
  simp only [sliceRange_one, pick_run, List.size_toArray] <;> rfl
def rSlL (K : PySem.W.Frag) : V → Option Int → Option Int → Hp → VK → Prop := fun x lo hi H Q => ∃ a xs, x = .ref a ∧ SqL K H a xs ∧ ∀ p, H p = none → Q (.ref p) (upd H p (.lst (cutV xs lo hi)))
theorem sl_list : SlR X (rSlL X.K) := by
  intro pins s σ H x v vl vu lo hi sl Q I rx hs pl pu h
  obtain ⟨a, xs, rfl, hx, q⟩ := h
  cases rx
  obtain ⟨its, r, ht, hz⟩ := I.list hx
  have hlen := r.length
  refine ⟨"list", _, slot_list_getitem.lookup, ht.isList.typeIs, ?_⟩
  refine wpAny_getItem_list_slice ht.isList hs pl pu .none (by simp) ?_ (by rw [List.size_toArray] <;> omega)
  rw [slicePick_cut, ← hlen]
  refine ⟨.ref s.heap.objs.size, _, I.laid (t' := s.toks) (o := .lst (cutV xs lo hi)) (fun b ob q => Heap.get?_push_of_some _ q) (Nat.le_refl _) ?_, rfl, q _ (I.hok.fresh (Nat.le_refl _))⟩
  exact ⟨Nat.le_trans (cutV_length xs lo hi) hz, _, 0, (r.drop (HT.sIx xs.length 0 lo)).take (HT.sIx xs.length xs.length hi - HT.sIx xs.length 0 lo), Heap.get?_push_size _ rfl⟩
def flatV : V → Bool
  | .non => true
  | .bl _ => true
  | .int _ => true
  | .str _ => true
  | _ => false
def eqV : V → V → Bool
  | .non, .non => true
  | .bl a, .bl b => a == b
  | .bl a, .int b => (if a then 1 else 0) == b
  | .int a, .bl b => a == (if b then 1 else 0)
  | .int a, .int b => a == b
  | .str a, .str b => a == b
  | _, _ => false
theorem eqAt_V {A : Around} {s : Shared} {y x : V} {u v : Value} (ry : RelV y u) (rx : RelV x v) (fy : flatV y = true) (fx : flatV x = true) : SeqAt.EqAt A s u v (eqV y x) := by
  cases y with
  | non =>
    cases ry
    cases x with
    | non => cases rx; exact SeqAt.EqAt.same _
    | bl b => cases rx; exact SeqAt.EqAt.none_bool b
    | int b => obtain ⟨t, rfl⟩ := rx; exact SeqAt.EqAt.none_int b t
    | str b => obtain ⟨t, rfl⟩ := rx; exact SeqAt.EqAt.none_str b t
    | _ => exact absurd (show false = true from fx) Bool.false_ne_true
  | bl a =>
    cases ry
    cases x with
    | non => cases rx; exact SeqAt.EqAt.bool_none a
    | bl b => cases rx; exact SeqAt.EqAt.bool_bool a b
    | int b => obtain ⟨t, rfl⟩ := rx; exact SeqAt.EqAt.bool_int a b t
    | str b => obtain ⟨t, rfl⟩ := rx; exact SeqAt.EqAt.bool_str a b t
    | _ => exact absurd (show false = true from fx) Bool.false_ne_true
  | int a =>
    obtain ⟨t', rfl⟩ := ry
    cases x with
    | non => cases rx; exact SeqAt.EqAt.int_none a t'
    | bl b => cases rx; exact SeqAt.EqAt.int_bool a t' b
    | int b => obtain ⟨t, rfl⟩ := rx; exact SeqAt.EqAt.int_int a t' b t
    | str b => obtain ⟨t, rfl⟩ := rx; exact SeqAt.EqAt.int_str a t' b t
    | _ => exact absurd (show false = true from fx) Bool.false_ne_true
  | str a =>
    obtain ⟨t', rfl⟩ := ry
    cases x with
    | non => cases rx; exact SeqAt.EqAt.str_none a t'
    | bl b => cases rx; exact SeqAt.EqAt.str_bool a t' b
    | int b => obtain ⟨t, rfl⟩ := rx; exact SeqAt.EqAt.str_int a t' b t
    | str b => obtain ⟨t, rfl⟩ := rx; exact SeqAt.EqAt.str_str a t' b t
    | _ => exact absurd (show false = true from fx) Bool.false_ne_true
  | _ => exact absurd (show false = true from fy) Bool.false_ne_true
theorem call_list_of : CallR X (.type "list") (fun xs H Q => ∃ p ys, xs = [.ref p] ∧ (SqL X.K H p ys ∨ SqT X.K H p ys) ∧ ∀ l, H l = none → Q (.ref l) (upd H l (.lst ys))) := by
  intro pins s σ H xs us Q I r h
  obtain ⟨p, ys, rfl, hq, q⟩ := h
  obtain ⟨u, rfl, rx⟩ := vals1 r
  cases rx
  have fin : ∀ (its : List Value), Vals ys its → ys.length ≤ sizeLine → ∀ (h' : Heap) (c' : Nat), (∀ b o', s.heap.get? b = some o' → h'.get? b = some o') →
      h'.get? s.heap.objs.size = some { cls := .type "list", dict := none, data := .seq its.toArray c', slots := #[] } → EP X pins σ Q (.ref s.heap.objs.size) { s with heap := h' } := fun its r' hz h' c' kp e =>
    ⟨.ref s.heap.objs.size, _, I.laid (t' := s.toks) kp (Nat.le_refl _) (show ObjOk X.prog X.w _ h' _ (.lst ys) from ⟨hz, its, c', r', e⟩), rfl, q _ (I.hok.fresh (Nat.le_refl _))⟩
  rcases hq with hq | hq
  · obtain ⟨its, r', pl, hz⟩ := I.list hq
    have hlen := r'.length
    obtain ⟨o, ho, hc, n, hd⟩ := pl.isList
    exact call_list_seq p (.inl rfl) ho hc hd (fun h' c' kp e => fin its r' hz h' c' kp e) (by simp only [List.size_toArray] <;> omega)
  · obtain ⟨its, r', pl, hz⟩ := I.tuple hq
    have hlen := r'.length
    obtain ⟨o, ho, hc, n, hd⟩ := pl
    exact call_list_seq p (.inr rfl) ho hc hd (fun h' c' kp e => fin its r' hz h' c' kp e) (by simp only [List.size_toArray] <;> omega)
theorem call_tuple_of : CallR X (.type "tuple") (fun xs H Q => ∃ p ys, xs = [.ref p] ∧ ((SqL X.K H p ys ∧ ∀ l, H l = none → Q (.ref l) (upd H l (.tup ys))) ∨ (SqT X.K H p ys ∧ Q (.ref p) H))) := by
  intro pins s σ H xs us Q I r h
  obtain ⟨p, ys, rfl, h⟩ := h
  obtain ⟨u, rfl, rx⟩ := vals1 r
  cases rx
  rcases h with ⟨hq, q⟩ | ⟨hq, q⟩
  · obtain ⟨its, r', pl, hz⟩ := I.list hq
    have hlen := r'.length
    refine call_tuple_list pl.isList (fun h' kp => ?_) (by simp only [List.size_toArray] <;> omega)
    have I1 : Inv X pins σ H { s with heap := h' } := I.kept (t' := s.toks) kp
    have I2 : Inv X pins σ (upd H h'.objs.size (.tup ys)) { s with heap := h'.push { cls := .type "tuple", data := .seq its.toArray } } :=
      I1.laid (t' := s.toks) (fun b o e => Heap.get?_push_of_some _ e) (Nat.le_refl _) (show ObjOk X.prog X.w _ _ _ (.tup ys) from ⟨hz, its, r', TupN.new _ _⟩)
    exact ⟨.ref h'.objs.size, _, I2, rfl, q _ (I1.hok.fresh (Nat.le_refl _))⟩
  · obtain ⟨its, r', pl, hz⟩ := I.tuple hq
    exact call_tuple_same pl ⟨.ref p, H, I, rfl, q⟩
def tyV (K : PySem.W.Frag) (T : String) (x : V) (H : Hp) : Prop := match x with
  | .str _ => T = "str"
  | .int _ => T = "int"
  | .ref p => (T = "list" ∧ ∃ xs, SqL K H p xs) ∨ (T = "tuple" ∧ ∃ o, K.lookup p = some o ∧ o.cls = .type "tuple" ∧ o.dict = none) ∨
      (T = "dict" ∧ ((∃ kvs, H p = some (.dK kvs)) ∨ ∃ kvs, H p = some (.dT kvs))) ∨ (T = "set" ∧ ∃ S n, H p = some (.set S n))
  | _ => False
theorem tyV_is {pins : List (Addr × Obj)} {σ : St} {H : Hp} {s : Shared} {T : String} {x : V} {v : Value} (I : Inv X pins σ H s) (r : RelV x v) (ty : tyV X.K T x H) :
    s.TypeIs v T ∧ ∀ a, v = .ref a → ∃ ob, s.heap.get? a = some ob ∧ ob.dict = none := by
  cases x with
  | str z =>
    obtain ⟨t, rfl⟩ := r
    cases (show T = "str" from ty)
    exact ⟨typeIs_str s z t, fun _ e => nomatch e⟩
  | int i =>
    obtain ⟨t, rfl⟩ := r
    cases (show T = "int" from ty)
    exact ⟨typeIs_int s i t, fun _ e => nomatch e⟩
  | ref p =>
    cases r
    rcases ty with ⟨rfl, xs, hq⟩ | ⟨rfl, o, hk, hc, hd⟩ | ⟨rfl, hk⟩ | ⟨rfl, S, n, hk⟩
    · obtain ⟨its, _, pl, _⟩ := I.list hq
      refine ⟨pl.isList.typeIs, fun a e => ?_⟩
      cases e
      obtain ⟨o, n, e, c, hd, _⟩ := pl
      exact ⟨o, e, hd⟩
    · refine ⟨⟨o, I.kIn p o hk, hc⟩, fun a e => ?_⟩
      cases e
      exact ⟨o, I.kIn _ o hk, hd⟩
    · have z : ∃ o, s.heap.get? p = some o ∧ o.ExactDict := by
        rcases hk with ⟨kvs, hk⟩ | ⟨kvs, hk⟩
        · obtain ⟨_, _, _, _, o, _, _, e, ex, _⟩ := I.hok p _ hk
          exact ⟨o, e, ex⟩
        · obtain ⟨_, _, _, _, o, _, _, e, ex, _⟩ := I.hok p _ hk
          exact ⟨o, e, ex⟩
      obtain ⟨o, e, ex⟩ := z
      refine ⟨⟨o, e, ex.1⟩, fun a e2 => ?_⟩
      cases e2
      exact ⟨o, e, ex.2.1⟩
    · obtain ⟨o, _, _, _, e, ex, _⟩ := I.hok p _ hk
      refine ⟨⟨o, e, ex.1⟩, fun a e2 => ?_⟩
      cases e2
      exact ⟨o, e, ex.2.1⟩
  | _ => exact False.elim ty
def tBM0 (K : PySem.W.Frag) (T : String) (r : V → List V → Hp → VK → Prop) (to : TE) : TE := fun σ H Q => to σ H fun x H1 => tyV K T x H1 ∧ r x [] H1 Q
def tBM (K : PySem.W.Frag) (T : String) (r : V → List V → Hp → VK → Prop) (to : TE) (t : TA) : TE := fun σ H Q => to σ H fun x H1 => tyV K T x H1 ∧ t σ H1 fun xs H2 => r x xs H2 Q
variable {o e : Expr} {es : List Expr} {to : TE} {t : TA} {name : Str} {apos cpos : Pos} {T id : String} {r : V → List V → Hp → VK → Prop}
theorem pe_bm0 (pa : PlainAttrs T) (slot : Slot T name id) (hty : typeOf (.builtin id) = pure (.type "method_descriptor")) (hm : MtR X id r) (ho : PE X o to)
    (hbase : attributeBase o name X.env (eval o X.env) = eval o X.env := by rfl) (hline : (apos.endLine == cpos.line) = true := by rfl) : PE X (.Call (.Attribute o name apos) [] [] cpos) (tBM0 X.K T r to) := by
  intro pins s σ H Q I h
  refine wpAny_Call_method0_late hbase hline (thn (ho pins s σ H _ I h) fun v s1 ⟨x, H1, I1, r1, ty, q1⟩ => ?_)
  obtain ⟨h1, h2⟩ := tyV_is I1 r1 ty
  exact ⟨T, id, pa, slot, hty, h1, h2, Calls.callWith_builtin rfl (PySem.evalArgs_none (hm pins s1 σ H1 x [] v [] Q I1 r1 .nil q1))⟩
theorem pe_bm (pa : PlainAttrs T) (slot : Slot T name id) (hty : typeOf (.builtin id) = pure (.type "method_descriptor")) (hm : MtR X id r) (ho : PE X o to) (ha : PA X (e :: es) t)
    (hbase : attributeBase o name X.env (eval o X.env) = eval o X.env := by rfl)
    (hfew : ((backTo cpos (starEach (e :: es) X.env)).all (fun x => !x.1) && (backToKw cpos (keywordEach [] X.env)).all (fun x => x.1.isSome)
      && decide ((e :: es).length + ([] : List Keyword).length + (if ([] : List Keyword).isEmpty then 0 else 1) < 30)) = true := by rfl)
    (hline : (apos.endLine == cpos.line) = true := by rfl) (hs : starEach (e :: es) X.env = (false, eval e X.env) :: starEach es X.env := by rfl) (hplain : (backTo cpos (starEach es X.env)).any (·.1) = false := by rfl) :
    PE X (.Call (.Attribute o name apos) (e :: es) [] cpos) (tBM X.K T r to t) := by
  intro pins s σ H Q I h
  refine wpAny_Call_method_late hbase hfew hline rfl (thn (ho pins s σ H _ I h) fun v s1 ⟨x, H1, I1, r1, ty, q1⟩ => ?_)
  obtain ⟨h1, h2⟩ := tyV_is I1 r1 ty
  refine ⟨T, id, pa, slot, hty, h1, h2, ?_⟩
  have hA := ha cpos pins s1 σ H1 _ I1 q1
  rw [hs] at hA ⊢
  refine Calls.callWith_builtin (by show (false || (backTo cpos (starEach es X.env)).any (·.1)) = false; rw [hplain] <;> rfl) (Calls.evalArgs_plain ?_)
  exact thn hA fun us s2 ⟨vs, H2, I2, r2, q2⟩ => hm pins s2 σ H2 x vs v us Q I2 r1 r2 q2
end
end L2
namespace L2
open PySem PySem.Spec PyProof.Rows
def MtM (X : Cx) (id : String) (r : V → List V → Hp → VK → Prop) : Prop :=
  ∀ (pins : List (Addr × Obj)) (s : Shared) (σ : St) (H : Hp) (x : V) (xs : List V) (v : Value) (us : List Value) (Q : VK), Inv X pins σ H s → RelV x v → Vals xs us → r x xs H Q →
    wpAny (model X.prog X.w) X.A (call (.builtin id) (v :: us)) (EP X pins σ Q) X.xe s
theorem Vals.one : ∀ {x : V} {us : List Value}, Vals [x] us → ∃ u, us = [u] ∧ RelV x u
  | _, _, .cons r .nil => ⟨_, rfl, r⟩
theorem Vals.zero : ∀ {us : List Value}, Vals [] us → us = []
  | _, .nil => rfl
theorem Vals.eraseIdx : ∀ {xs : List V} {us : List Value} (i : Nat), Vals xs us → Vals (xs.eraseIdx i) (us.eraseIdx i)
  | _, _, _, .nil => .nil
  | _, _, 0, .cons _ t => t
  | _, _, i + 1, .cons r t => .cons r (Vals.eraseIdx i t)
theorem len_erase {α : Type} : ∀ (l : List α) (i : Nat), (l.eraseIdx i).length ≤ l.length
  | [], _ => Nat.le_refl _
  | _ :: _, 0 => Nat.le_succ _
  | _ :: r, i + 1 => Nat.succ_le_succ (len_erase r i)
section
variable {X : Cx} {pins : List (Addr × Obj)} {σ : St} {H : Hp} {s : Shared} {l b : Addr} {xs ys zs : List V}
theorem Inv.lset {its its' : List Value} {n : Nat} {f : Array Value → Array Value} {t' : Nat} (I : Inv X pins σ H s) (hH : H l = some (.lst xs))
    (e : s.heap.get? l = some { cls := .type "list", data := .seq its.toArray n }) (hf : f its.toArray = its'.toArray) (hv : Vals ys its') (hz : ys.length ≤ sizeLine) :
    Inv X pins σ (upd H l (.lst ys)) { s with heap := s.heap.update l (Obj.mapSeq f), toks := t' } := by
  have q := PySem.IsL.update e f
  rw [hf] at q
  refine I.write (x := l) (e := l) (by rw [hH]; exact trivial) (.inl rfl) (fun b' u hb hu => (Heap.get?_update_other s.heap (Obj.mapSeq f) (Ne.symm hb)).trans hu) ⟨_, q⟩ ?_
  exact ⟨hz, its', _, hv, q⟩
theorem Inv.lnew {its : List Value} {t' : Nat} (I : Inv X pins σ H s) (hv : Vals ys its) (hz : ys.length ≤ sizeLine) :
    Inv X pins σ (upd H s.heap.objs.size (.lst ys)) { s with heap := s.heap.push { cls := .type "list", data := .seq its.toArray }, toks := t' } :=
  I.laid (fun _ _ q => Heap.get?_push_of_some _ q) (Nat.le_refl _) ⟨hz, its, 0, hv, Heap.get?_push_size _ rfl⟩
theorem Inv.fresh (I : Inv X pins σ H s) : H s.heap.objs.size = none := I.hok.fresh (Nat.le_refl _)
theorem Inv.lstM (I : Inv X pins σ H s) (hH : H l = some (.lst xs)) : xs.length ≤ sizeLine ∧ ∃ (its : List Value) (n : Nat), Vals xs its ∧ xs.length = its.length ∧ s.heap.get? l = some { cls := .type "list", data := .seq its.toArray n } := by
  obtain ⟨z, its, n, r, e⟩ := I.hok l _ hH
  exact ⟨z, its, n, r, r.length, e⟩
theorem notLongL {n : Nat} (h : n ≤ sizeLine) : Builtin.List.listTooLong n = false := by
  unfold Builtin.List.listTooLong
  exact decide_eq_false (by omega)
end
section
variable {X : Cx}
def rAppend : V → List V → Hp → VK → Prop := fun x vs H Q => ∃ l xs y, x = .ref l ∧ vs = [y] ∧ H l = some (.lst xs) ∧ xs.length < sizeLine ∧ Q .non (upd H l (.lst (xs ++ [y])))
theorem mt_append : MtM X "list.append" rAppend := by
  intro pins s σ H x vs v us Q I rx rv h
  obtain ⟨l, xs, y, rfl, rfl, hH, hz, q⟩ := h
  cases rx
  obtain ⟨u, rfl, ru⟩ := rv.one
  obtain ⟨z, its, n, r, hl, e⟩ := I.lstM hH
  refine call_meets F.slot_list_append ⟨_, e, rfl⟩ F.entry_list_append (F.args_list_append_2 _ _) (PySem.list_append l its.toArray n u (by rw [List.size_toArray]; omega)) ⟨e, ?_⟩
  refine ⟨.non, _, I.lset (its' := its ++ [u]) hH e (by simp) (r.append (.cons ru .nil)) ?_, rfl, q⟩
  rw [List.length_append, List.length_singleton]
  omega
def rPopAt : V → List V → Hp → VK → Prop := fun x vs H Q => ∃ l xs i k y, x = .ref l ∧ vs = [.int i] ∧ H l = some (.lst xs) ∧ -(2 ^ 63) ≤ i ∧ i < 2 ^ 63 ∧ seqIndex? i xs.length = some k ∧ xs[k]? = some y ∧ Q y (upd H l (.lst (xs.eraseIdx k)))
theorem mt_popAt : MtM X "list.pop" rPopAt := by
  intro pins s σ H x vs v us Q I rx rv h
  obtain ⟨l, xs, i, k, y, rfl, rfl, hH, h1, h2, hk, hy, q⟩ := h
  cases rx
  obtain ⟨u, rfl, ru⟩ := rv.one
  obtain ⟨t, rfl⟩ := ru
  obtain ⟨z, its, n, r, hl, e⟩ := I.lstM hH
  obtain ⟨w, hw, rw'⟩ := r.get hy
  refine call_meets F.slot_list_pop ⟨_, e, rfl⟩ F.entry_list_pop (F.args_list_pop_2 _ _)
    (MeetsSeq.list_pop_at l its.toArray n i t k w (fitsIndex_both h1 h2) (by rw [List.size_toArray, ← hl]; exact hk) (by rw [← Array.getElem?_toList]; exact hw) (by rw [List.size_toArray]; omega)) ⟨e, ?_⟩
  refine ⟨y, _, I.lset (its' := its.eraseIdx k) hH e ?_ (r.eraseIdx k) ?_, rw', q⟩
  · show its.toArray.eraseIdxIfInBounds k = (its.eraseIdx k).toArray
    rw [List.eraseIdxIfInBounds_toArray]
  · have := len_erase xs k
    omega
def rClear : V → List V → Hp → VK → Prop := fun x vs H Q => ∃ l xs, x = .ref l ∧ vs = [] ∧ H l = some (.lst xs) ∧ Q .non (upd H l (.lst []))
theorem mt_clear : MtM X "list.clear" rClear := by
  intro pins s σ H x vs v us Q I rx rv h
  obtain ⟨l, xs, rfl, rfl, hH, q⟩ := h
  cases rx
  have hus := rv.zero
  subst hus
  obtain ⟨z, its, n, r, hl, e⟩ := I.lstM hH
  refine call_meets F.slot_list_clear ⟨_, e, rfl⟩ F.entry_list_clear (F.args_list_clear_1 _) (AutoSeq1.list_clear_list_0 l its.toArray n (by rw [List.size_toArray]; omega)) ⟨e, ?_⟩
  exact ⟨.non, _, I.lset (its' := []) (ys := []) hH e rfl .nil (Nat.zero_le _), rfl, q⟩
end
section
variable {prog : Program} {w : World} {A : Around} {E : Value → Shared → Prop} {s : Shared}
end
section
variable {X : Cx}
end
end L2
namespace L2
open PySem PySem.Spec PyProof.Rows
section
variable {κ : Type} [DecidableEq κ]
end
section
variable {P : Program} {w : World} {H : Hp} {h : Heap} {a : Addr}
end
section
variable {X : Cx} {pins : List (Addr × Obj)} {σ : St} {H : Hp} {s : Shared} {a : Addr} {y v : V} {u r : Value} {o : Option V} {A : Around} {E : Value → Shared → Prop}
end
section
variable {X : Cx} {pins : List (Addr × Obj)} {σ : St} {H : Hp} {s : Shared} {a : Addr} {kvs : List (Key × V)} {k : Key} {u : Value} {A : Around} {E : Value → Shared → Prop}
end
section
variable {X : Cx} {o i e value : Expr} {pos pos' tpos : Pos} {td ty tv : TE}
end
section
variable {X : Cx} {pos : Pos}
end
section
variable {X : Cx} {pins : List (Addr × Obj)} {σ : St} {H : Hp} {s : Shared} {a : Addr} {y d : V} {u r : Value} {o : Option V} {A : Around} {E : Value → Shared → Prop}
end
section
variable {X : Cx} {o e f : Expr} {apos cpos : Pos} {td ty tx : TE}
end
section
variable {X : Cx} {pins : List (Addr × Obj)} {σ : St} {H : Hp} {s : Shared} {a : Addr} {kvs : List (Key × V)} {A : Around} {E : Value → Shared → Prop}
end
section
variable {X : Cx} {pins : List (Addr × Obj)} {σ : St} {H : Hp} {s : Shared} {a : Addr} {y : V} {u : Value} {A : Around} {E : Value → Shared → Prop}
end
end L2
namespace Att
open PySem PySem.W PySem.Calls PyProof.Rows
theorem ints_of_wellAll {P : Params} {h : Heap} : ∀ (ns : List Int) (vs : List Value), WellAll P h vs (ns.map WData.int) → IntsAre vs ns := by
  intro ns
  induction ns with
  | nil =>
    intro vs w
    rw [List.map_nil] at w
    cases w
    exact .nil
  | cons n ns ih =>
    intro vs w
    rw [List.map_cons] at w
    cases w with
    | cons a b =>
      cases a
      exact .cons _ _ (ih _ b)
theorem script_of {l : OpenLaw} {n : Nat} (hn : l.most = some n) {P : Params} {h : Heap} {args : List WData} {vals : List Value}
    (hpre : l.row.toRowW.claim.pre args = true) (hwl : WellAll P h vals args) :
    ∃ a vs ns, vals = [Value.ref a] ∧ args = [WData.list (ns.map WData.int)] ∧ h.get? a = some { cls := .type "list", data := .seq vs.toArray } ∧ IntsAre vs ns ∧ ns.length ≤ n := by
  have hsh : WShape.hasAll [] args [.list .int] = true := (pre_splitW hpre).1
  have hc : l.pre.holds [] { args := args } = true := (pre_splitW hpre).2
  obtain ⟨d, r, rfl, h1, h2⟩ := hasAllW_cons hsh
  obtain rfl := hasAllW_nil h2
  obtain ⟨xs, rfl, h3⟩ := hasW_list h1
  obtain ⟨ns, rfl⟩ := items_int h3
  have hlen : ns.length ≤ n := by
    unfold OpenLaw.pre at hc
    have h4 : (WTm.not (.lt (.lit (.int (n : Int))) (.len (.arg 0)))).holds [] { args := [.list (ns.map .int)] } = true := by
      have h4 := (holds_andW hc).1
      rw [hn] at h4
      exact h4
    have h5 := condW_of h4 (w_not (w_lt w_lit (w_len_list (w_arg rfl))))
    rw [List.length_map] at h5
    refine Nat.le_of_not_lt fun q => ?_
    have q' : (n : Int) < ((ns.length : Nat) : Int) := by omega
    first
      | (rw [decide_eq_true q'] at h5; exact absurd h5 (by decide))
      | (simp at h5; omega)
  cases hwl with
  | cons w1 w2 =>
    cases w2
    cases w1 with
    | list ho hall => exact ⟨_, _, ns, rfl, rfl, ho, ints_of_wellAll ns _ hall, hlen⟩
theorem post_true (l : OpenLaw) (args : List WData) : l.row.toRowW.claim.post args (.bool true) args = true :=
  postW_of (r := l.row.toRowW) (X := (true == true))
    (show WShape.has [] (.bool true) .bool = true by first | rfl | decide | simp [WShape.has, WShape.arms, WShape.armsAll])
    (show (WTm.eq .res (.lit (.bool true))).value [] { args := args, res := some (.bool true), after := args } = some (.bool (true == true)) from w_eq_bool (w_res rfl) w_lit) rfl
theorem attach_call {l : OpenLaw} {n : Nat} {q : Program} {loose : List Str} {XP : (Str → Option Value) → Heap → Prop} {YP : World → Heap → Prop} {d : DefRec}
    (hn : l.most = some n) (hdf : d.params.defaults = [])
    (call : ∀ (w : World) (s₀ s₁ : Shared) (mg mb : Str → Option Value) (fa : Addr) (o : Obj) (pm cd doc : Value) (a : Addr) (vs : List Value) (ns : List Int),
      Ground q loose [] XP w s₀ mg mb s₁.heap → YP w s₁.heap →
      s₁.heap.get? fa = some o → o.data = .func (docDef d.name d.params d.body d.scope pm cd doc) → s₁.heap.CodeRec cd d.name → mg d.name = some (.ref fa) →
      s₁.heap.get? a = some { cls := .type "list", data := .seq vs.toArray } → IntsAre vs ns → ns.length ≤ n → s₁.gens = #[] →
      codeAny (model l.prog w) callerA (.call (.ref fa) ⟨[.ref a], []⟩) (fun r s' => r = .ok (.ret (.bool true)) ∧ OldK s₁.heap s'.heap ∧ s'.os = s₁.os ∧ AllBare s'.gens) s₁) :
    WalkO q loose XP YP l.row.toRowW d [] (fun f vs => PySem.call f vs) := by
  intro w s₀ s₁ mg mb G Y fa o pm cd doc dV kV ho hd hcd hD hmg hg args vals as hpre hlay hrd hwl hlo
  obtain rfl : dV = .none := Dflts.none hD hdf
  obtain rfl : kV = .none := Dflts.noKw hD
  obtain ⟨a, vs, ns, rfl, rfl, hobj, hints, hlen⟩ := script_of hn hpre hwl
  refine enter_call (codeAny_mono (call w s₀ s₁ mg mb fa o pm cd doc a vs ns G Y ho (fd_plain hd) hcd hmg hobj hints hlen hg) fun r s' hq => ?_)
  obtain ⟨rfl, h2, h3, h4⟩ := hq
  exact ⟨.inl ⟨.bool true, .bool true, [], rfl, fun _ => rfl, .bool true, post_true l _, fun _ => ⟨List.Pairwise.nil, fun _ hm => (nomatch hm)⟩⟩, h2, h3, h4⟩
section
variable {prog : Program} {w : World} {A : Around} {E : Value → Shared → Prop} {s : Shared} {K : Frag}
end
end Att
namespace L2
open PySem PySem.Spec PyProof.Rows
theorem vals_ints : ∀ {vs : List Value} {ns : List Int}, IntsAre vs ns → Vals (ns.map V.int) vs
  | _, _, .nil => .nil
  | _, _, .cons n t h => .cons ⟨t, rfl⟩ (vals_ints h)
end L2
namespace L2
open PySem PySem.Spec PyProof.Rows
end L2
namespace L2
open PySem PySem.Spec PyProof.Rows
def defArgs (s : Stmt) : Arguments := match s with
  | .FunctionDef _ a _ _ _ _ _ _ _ _ => a
  | _ => { posonlyargs := [], args := [], vararg := none, kwonlyargs := [], kw_defaults := [], kwarg := none, defaults := [] }
def defBody (s : Stmt) : List Stmt := match s with
  | .FunctionDef _ _ b _ _ _ _ _ _ _ => b
  | _ => []
def defScope (s : Stmt) : Scope := match s with
  | .FunctionDef _ _ _ _ _ _ sc _ _ _ => sc
  | _ => { kind := .function, names := [], isGenerator := false, isCoroutine := false }
abbrev CX0 : CXT := fun _ _ _ _ _ _ => False
abbrev E0 : XK := fun _ _ _ => False
theorem pass0 {X : Cx} : Passes CX0 X E0 := fun _ _ _ _ _ _ _ h => h.elim
structure Fun (K : PySem.W.Frag) (x qual : Str) (st : Stmt) (f : Addr) (fd : FuncData) : Prop where
  ex : ∃ (oc : Value) (od : Option Addr) (kV doc pm : Value) (an : Option Addr) (cdv ct : Value) (osl : Array (Option Value)),
    fd = PySem.W.fnOf x qual (defArgs st) (defBody st) (defScope st) .none kV doc pm an cdv ct ∧ K.lookup f = some ⟨oc, od, .func fd, osl⟩ ∧ PySem.W.codeIn K cdv qual = true
  kp : PySem.W.keepIn K (.ref f) = true
section
variable {P : Program} {w : World} {K : PySem.W.Frag} {mg : Str → Option Value} {base : Heap}
theorem Fun.ok {x qual : Str} {st : Stmt} {f : Addr} {fd : FuncData} {N ps : List Str} {k : Nat} {sp : Sp} (F : Fun K x qual st f fd) (S : FnScope N ps (defScope st)) (len : ∀ vs H Q E, sp vs H Q E → vs.length = ps.length)
    (hbody : ∀ (cdv : Value) (A : Around) (outer : List Env) (s : Shared) (H : Hp) (vs : List V) (Q : VK) (E : XK), Room k (A.deeper (envOfC qual (defScope st) s.heap.objs.size f cdv)) → sp vs H Q E →
      ∃ t, PSs (cxOf CX0 P w K mg base N qual (defScope st) f cdv A outer s H E).nox (defBody st) t ∧ t { nx := fun _ H' => Q .non H', rt := Q } (start N vs) H) : FnOk P w K mg base CX0 (k + 1) f fd ps sp := by
  obtain ⟨oc, od, kV, doc, pm, an, cdv, ct, osl, rfl, lk, hcd⟩ := F.ex
  refine fn_of lk hcd S len fun A outer s H vs Q E hr hsp => ?_
  obtain ⟨t, h, q⟩ := hbody cdv A outer s H vs Q E hr hsp
  exact ⟨t, h.nox, q⟩
theorem Fun.binds {x qual : Str} {st : Stmt} {f : Addr} {fd : FuncData} {ps : List Str} (F : Fun K x qual st f fd)
    (h : ∀ (kV doc pm : Value) (an : Option Addr) (cdv ct : Value) (us : List Value), us.length = ps.length → bindArgs (PySem.W.fnOf x qual (defArgs st) (defBody st) (defScope st) .none kV doc pm an cdv ct) ⟨us, []⟩ = pure (ps.zip us)) : Binds K fd ps [] := by
  obtain ⟨oc, od, kV, doc, pm, an, cdv, ct, osl, rfl, lk, hcd⟩ := F.ex
  exact .all (h kV doc pm an cdv ct)
theorem fun_mk {x qual : Str} {st : Stmt} {f : Addr} {oc : Value} {od an : Option Addr} {osl : Array (Option Value)} {kV doc pm cdv ct : Value} (l : K.lookup f = some ⟨oc, od, .func (PySem.W.fnOf x qual (defArgs st) (defBody st) (defScope st) .none kV doc pm an cdv ct), osl⟩)
    (c : PySem.W.codeIn K cdv qual = true) (k : PySem.W.keepIn K (.ref f) = true) : Fun K x qual st f (PySem.W.fnOf x qual (defArgs st) (defBody st) (defScope st) .none kV doc pm an cdv ct) := ⟨⟨oc, od, kV, doc, pm, an, cdv, ct, osl, rfl, l, c⟩, k⟩
end
theorem hu_of {A : Around} {k : Nat} (hr : Room k A) : A.units + 1 < cLine := Nat.lt_of_le_of_lt (Nat.add_le_add_left (by decide : 1 ≤ 64) _) hr.units
section
variable {X : Cx}
theorem pv (i : Nat) {x : Str} {pos : Pos} (hN : X.N[i]? = some x := by rfl) (hv : Vis X.env.scope x := by first | exact Or.inl rfl | exact Or.inr (Or.inl rfl) | exact Or.inr (Or.inr rfl)) (hd : (x == ("__debug__" : Str)) = false := by decide)
    (hcd : (x == ("__classdict__" : Str)) = false := by decide) : PE X (.Name x pos) (tVar i) := pe_var hN hv hd hcd
end
theorem iteF {A B : Prop} (h : B) : if false = true then A else B := by
  rw [if_neg Bool.false_ne_true]
  exact h
theorem iteT {A B : Prop} (h : A) : if true = true then A else B := by
  rw [if_pos rfl]
  exact h
def Same (H H' : Hp) : Prop := ∀ b o, H b = some o → H' b = some o
theorem Same.refl (H : Hp) : Same H H := fun _ _ h => h
theorem Same.trans {H H1 H2 : Hp} (a : Same H H1) (b : Same H1 H2) : Same H H2 := fun c o h => b c o (a c o h)
theorem Same.free {H H' : Hp} (e : Same H H') {l : Addr} (h : H' l = Option.none) : H l = Option.none := by
  cases q : H l with
  | none => rfl
  | some o =>
    rw [e l o q] at h
    cases h
section
variable {X : Cx}
end
section
variable {κ : Type} [DecidableEq κ]
end
end L2
set_option Elab.async false
set_option linter.all false
set_option maxRecDepth 100000
set_option maxHeartbeats 4000000
namespace L2
open PySem PySem.Spec PyProof.Rows
section
variable {prog : Program} {w : World} {A : Around} {R : Result → Shared → Prop} {s : Shared}
theorem compLoop_any {elt target iter : Expr} {ifs : List Expr} {scope : Scope} {pos : Pos} {it acc : Value} {env : Env} (I : Nat → Shared → Prop)
    (turn : ∀ n s, I n s → wpAny (model prog w) A (pyNext it) (fun r s₁ => match r with
      | none => R (.ok .next) s₁
      | some v => wpAny (model prog w) A (letOwnedTupleGo target it v) (fun _ s₂ => wpAny (model prog w) A (assign target env v) (fun _ s₃ =>
          wpAny (model prog w) A (forIn ifs true fun c r => if r = true then do let ok ← isTrue c env (eval c env); pure (ForInStep.yield ok) else pure (ForInStep.yield r)) (fun ok s₄ =>
            if ok = true then wpAny (model prog w) A (eval elt env) (fun x s₅ =>
              wpAny (model prog w) A (call (.builtin "list.append") [acc, x]) (fun _ s₆ => ∃ m, m < n ∧ I m s₆) (fun _ _ => False) s₅) (fun _ _ => False) s₄
            else ∃ m, m < n ∧ I m s₄) (fun _ _ => False) s₃) (fun _ _ => False) s₂) (fun _ _ => False) s₁) (fun _ _ => False) s)
    (n : Nat) (h : I n s) :
    codeAny (model prog w) A (.compLoop (.ListComp elt [⟨target, iter, ifs, 0⟩] scope pos) 0 it acc env) R s := by
  refine codeAny_loop rfl I (fun n s hI => ?_) n h
  show wpAny _ A ((compTurn (.ListComp elt [⟨target, iter, ifs, 0⟩] scope pos) 0 it acc env).onRaise (fun x => do noteFrame x env; theTreesLotGoes x)) _ _ s
  refine wpAny_noted (wpAny_mono (E := fun _ _ => False) ?_ (fun _ _ q => q) fun _ _ q => q.elim)
  rw [compTurn_list]
  refine wpAny_bind (wpAny_standAt (wpAny_bind (thn (turn n s hI) fun r s₁ h₁ => ?_)))
  cases r with
  | none => exact wpAny_pure h₁
  | some v =>
    refine wpAny_bind (thn h₁ fun _ s₂ h₂ => wpAny_bind (thn h₂ fun _ s₃ h₃ => wpAny_bind (thn h₃ fun ok s₄ h₄ => ?_)))
    cases ok with
    | false => exact wpAny_pure ⟨rfl, h₄⟩
    | true => exact wpAny_bind (wpAny_bind (thn h₄ fun x s₅ h₅ => wpAny_bind (thn h₅ fun _ s₆ h₆ => wpAny_pure (wpAny_pure ⟨rfl, h₆⟩))))
end
theorem HOk.track {P : Program} {w : World} {H : Hp} {h : Heap} {a : Addr} {o : HO} (x : HOk P w H h) (hn : H a = none) (new : ObjOk P w (upd H a o) h a o) : HOk P w (upd H a o) h := fun b u e => by
  by_cases hb : b = a
  · subst hb; rw [upd_same] at e; cases e; exact new
  · rw [upd_ne hb] at e
    exact (x b u e).stay (fun c v _ q => q) (fun c q => by rw [upd_ne (ne_of_none q hn)]; exact q) fun c xs q => by rw [upd_ne (ne_of_none q hn)]; exact q
theorem lookup_mem {α : Type} : ∀ {l : List (Str × α)} {x : Str} {k : α}, l.lookup x = some k → (x, k) ∈ l
  | [], _, _, h => by simp at h
  | (n, k') :: r, x, k, h => by
    rw [List.lookup_cons] at h
    cases hx : x == n with
    | true =>
      rw [hx] at h
      have : x = n := by simpa using hx
      cases h; subst this; exact List.mem_cons_self
    | false => rw [hx] at h; exact List.mem_cons_of_mem _ (lookup_mem h)
theorem lookup_relabel {env : Env} : ∀ {names : List (Str × NameKind)} {x : Str} {k : NameKind}, 
    (names.map fun (n, k) => if (k == NameKind.free && env.scope.kind == .function && env.kindOf n == some .cell) then (n, NameKind.cell) else (n, k)).lookup x = some k →
    ∃ k', names.lookup x = some k' ∧ (k = k' ∨ (k' = .free ∧ k = .cell))
  | [], _, _, h => by simp at h
  | (n, k0) :: r, x, k, h => by
    have ih := @lookup_relabel env r x k
    have h' : List.lookup x ((if (k0 == NameKind.free && env.scope.kind == .function && env.kindOf n == some .cell) = true then (n, NameKind.cell) else (n, k0)) ::
      (r.map fun (n, k) => if (k == NameKind.free && env.scope.kind == .function && env.kindOf n == some .cell) then (n, NameKind.cell) else (n, k))) = some k := h
    by_cases hc : (k0 == NameKind.free && env.scope.kind == .function && env.kindOf n == some .cell) = true
    · rw [if_pos hc, List.lookup_cons] at h'
      rw [List.lookup_cons]
      cases hx : x == n with
      | true =>
        rw [hx] at h'; cases h'
        simp only [Bool.and_eq_true] at hc
        exact ⟨k0, rfl, .inr ⟨by simpa using hc.1.1, rfl⟩⟩
      | false => rw [hx] at h'; exact ih h'
    · rw [if_neg hc, List.lookup_cons] at h'
      rw [List.lookup_cons]
      cases hx : x == n with
      | true => rw [hx] at h'; cases h'; exact ⟨_, rfl, .inl rfl⟩
      | false => rw [hx] at h'; exact ih h'
theorem forIn_clos {env : Env} {f : (Str × NameKind) → List (Str × Addr) → Sem (ForInStep (List (Str × Addr)))}
    (hf : ∀ n k r, f (n, k) r = if (k == NameKind.free) = true then (cellOf env n >>= fun a => pure (ForInStep.yield ((n, a) :: r))) else pure (ForInStep.yield r)) :
    ∀ (names : List (Str × NameKind)) (acc : List (Str × Addr)), (∀ y ∈ names, y.2 = .free → ∃ c, env.cells.lookup y.1 = some c) → (∀ x c, acc.lookup x = some c → env.cells.lookup x = some c) →
      ∃ cl, forIn names acc f = pure cl ∧ (∀ x c, cl.lookup x = some c → env.cells.lookup x = some c) ∧ (∀ x, (∃ c, acc.lookup x = some c) → ∃ c, cl.lookup x = some c) ∧ ∀ x, (x, NameKind.free) ∈ names → ∃ c, cl.lookup x = some c
  | [], acc, _, hacc => ⟨acc, rfl, hacc, fun _ h => h, fun _ h => by simp at h⟩
  | (n, k) :: r, acc, hn, hacc => by
    have hr : ∀ y ∈ r, y.2 = .free → ∃ c, env.cells.lookup y.1 = some c := fun y hy => hn y (List.mem_cons_of_mem _ hy)
    by_cases hk : (k == NameKind.free) = true
    · have hk' : k = .free := by simpa using hk
      obtain ⟨c, hc⟩ := hn (n, k) List.mem_cons_self hk'
      obtain ⟨cl, e, h1, h2, h3⟩ := forIn_clos hf r ((n, c) :: acc) hr (fun x c' h => by
        rw [List.lookup_cons] at h
        cases hx : x == n with
        | true => rw [hx] at h; cases h; have : x = n := by simpa using hx
                  subst this; exact hc
        | false => rw [hx] at h; exact hacc x c' h)
      refine ⟨cl, ?_, h1, fun x ⟨c', hx⟩ => h2 x ?_, fun x hx => ?_⟩
      · rw [List.forIn_cons, hf, if_pos hk]
        have : cellOf env n = pure c := by unfold cellOf; rw [hc]
        rw [this]
        exact e
      · rw [List.lookup_cons]
        cases x == n with
        | true => exact ⟨_, rfl⟩
        | false => exact ⟨c', hx⟩
      · rcases List.mem_cons.mp hx with e | hx
        · cases e
          exact h2 _ ⟨c, by rw [List.lookup_cons]; simp⟩
        · exact h3 x hx
    · obtain ⟨cl, e, h1, h2, h3⟩ := forIn_clos hf r acc hr hacc
      refine ⟨cl, ?_, h1, h2, fun x hx => ?_⟩
      · rw [List.forIn_cons, hf, if_neg hk]
        exact e
      · rcases List.mem_cons.mp hx with e | hx
        · cases e
          exact absurd rfl hk
        · exact h3 x hx
theorem clos_of {sc : Scope} {env : Env} (h : ∀ y ∈ sc.names, y.2 = .free → ∃ c, env.cells.lookup y.1 = some c) :
    ∃ cl, closureFor sc env = pure cl ∧ (∀ x c, cl.lookup x = some c → env.cells.lookup x = some c) ∧ ∀ x, (x, NameKind.free) ∈ sc.names → ∃ c, cl.lookup x = some c := by
  obtain ⟨cl, e, h1, _, h3⟩ := forIn_clos (env := env) (f := fun x r => match x with | (name, kind) => if (kind == NameKind.free) = true then (cellOf env name >>= fun a => pure (ForInStep.yield ((name, a) :: r))) else pure (ForInStep.yield r))
    (fun n k r => rfl) sc.names [] h (fun _ _ h => by simp at h)
  refine ⟨cl, ?_, h1, h3⟩
  unfold closureFor
  refine Eq.trans ?_ e
  exact bind_pure _
def pick (ρ : List (Option Nat)) (σ : St) : St := ρ.map fun o => o.bind fun j => (σ[j]?).join
def cxB (X : Cx) (N' : List Str) (sc : Scope) (cl : List (Str × Addr)) (C : Addr) (s : Shared) (H : Hp) (fp : List Addr) : Cx :=
  { X with N := N', s₀ := s, H₀ := H, env := compEnvC sc cl C X.env, outer := X.stack, ex := fp, fn := fun _ => false, xe := fun _ _ => False }
structure CompSc (X : Cx) (N' : List Str) (ρ : List (Option Nat)) (sc : Scope) : Prop where
  kind : sc.kind = .function
  nocell : ∀ y ∈ sc.names, y.2 ≠ .cell
  names : ∀ y ∈ sc.names, y.2 = .local → sc.names.lookup y.1 = some .local
  free : ∀ y ∈ sc.names, y.2 = .free → (X.env.kindOf y.1 = some .cell ∨ X.env.kindOf y.1 = some .free)
  len : ρ.length = N'.length
  ix : ∀ (i j : Nat), ρ[i]? = some (some j) → ∃ x, N'[i]? = some x ∧ X.N[j]? = some x ∧ sc.names.lookup x = some .free
def PTs (X : Cx) (ifs : List Expr) (t : TT) : Prop :=
  ∀ (pins : List (Addr × Obj)) (s : Shared) (σ : St) (H : Hp) (Q : Bool → Hp → Prop), Inv X pins σ H s → t σ H Q →
    wpAny (model X.prog X.w) X.A (forIn ifs true fun c r => if r = true then do let ok ← isTrue c X.env (eval c X.env); pure (ForInStep.yield ok) else pure (ForInStep.yield r)) (TP X pins σ Q) X.xe s
def tYes : TT := fun _ H Q => Q true H
theorem pts_nil {X : Cx} : PTs X [] tYes := fun _ _ _ H _ I h => wpAny_tests_nil ⟨H, I, h⟩
theorem pts_one {X : Cx} {c : Expr} {t : TT} (h : PT X c t) : PTs X [c] t := fun pins s σ H Q I hw => wpAny_tests_one (h pins s σ H Q I hw)
def GKeep (ρ : List (Option Nat)) (g : TG) : Prop := ∀ v σ H Q, g v σ H Q → g v σ H fun σ2 H2 => (σ2.length = σ.length ∧ ∀ (i j : Nat), ρ[i]? = some (some j) → σ2[i]? = σ[i]?) ∧ Q σ2 H2
def GsKeep (ρ : List (Option Nat)) (g : TGs) : Prop := ∀ v σ H Q, g v σ H Q → g v σ H fun σ2 H2 => (σ2.length = σ.length ∧ ∀ (i j : Nat), ρ[i]? = some (some j) → σ2[i]? = σ[i]?) ∧ Q σ2 H2
theorem gk_name {ρ : List (Option Nat)} {i : Nat} (h : ρ[i]? = some none) : GKeep ρ (gName i) := fun v σ H Q q => by
  refine ⟨⟨List.length_set, fun k j e => ?_⟩, q⟩
  have : i ≠ k := by intro z; subst z; rw [h] at e; cases e
  rw [List.getElem?_set_ne this]
theorem gk_nil {ρ : List (Option Nat)} : GsKeep ρ gNil := fun v σ H Q ⟨e, q⟩ => ⟨e, ⟨rfl, fun _ _ _ => rfl⟩, q⟩
theorem gk_cons1 {ρ : List (Option Nat)} {i : Nat} {u : TGs} (h : ρ[i]? = some none) (hu : GsKeep ρ u) (mu : ∀ v σ H Q Q', (∀ a b, Q a b → Q' a b) → u v σ H Q → u v σ H Q') : GsKeep ρ (gCons (gName i) u) := fun vs σ H Q ⟨v, r, e, q⟩ => by
  refine ⟨v, r, e, ?_⟩
  refine mu _ _ _ _ _ (fun a b ⟨⟨l, k⟩, z⟩ => ⟨⟨l.trans List.length_set, fun i' j' e' => (k i' j' e').trans ?_⟩, z⟩) (hu _ _ _ _ q)
  have : i ≠ i' := by intro z; subst z; rw [h] at e'; cases e'
  rw [List.getElem?_set_ne this]
theorem gm_nil : ∀ v σ H Q Q', (∀ a b, Q a b → Q' a b) → gNil v σ H Q → gNil v σ H Q' := fun _ _ _ _ _ m ⟨e, q⟩ => ⟨e, m _ _ q⟩
theorem gm_cons {i : Nat} {u : TGs} (mu : ∀ v σ H Q Q', (∀ a b, Q a b → Q' a b) → u v σ H Q → u v σ H Q') : ∀ v σ H Q Q', (∀ a b, Q a b → Q' a b) → gCons (gName i) u v σ H Q → gCons (gName i) u v σ H Q' :=
  fun _ _ _ _ _ m ⟨v, r, e, q⟩ => ⟨v, r, e, mu _ _ _ _ _ m q⟩
theorem gk_tup {ρ : List (Option Nat)} {K : PySem.W.Frag} {n : Nat} {u : TGs} (hu : GsKeep ρ u) : GKeep ρ (gTup K n u) := fun v σ H Q ⟨a, xs, e, hq, hl, q⟩ => ⟨a, xs, e, hq, hl, hu _ _ _ _ q⟩
def CompG (J : It) (ρ : List (Option Nat)) (g : TG) (tc : TT) (te : TE) (σ : St) (H1 : Hp) (Q : VK) : Prop := ∃ W : Nat → Nat → List V → Hp → Prop, (∃ m, W 0 m [] H1) ∧ ∀ i m acc H, W i m acc H →
  (J.stop i H ∧ ∀ p, H p = none → Q (.ref p) (upd H p (.lst acc))) ∨
  (J.go i H ∧ acc.length < sizeLine ∧ ∃ N : List V → Hp → Prop, (∀ acc' H', N acc' H' → ∃ m', m' < m ∧ W (i + 1) m' acc' H') ∧
    ∀ x H', J.yld i H x H' → g x (pick ρ σ) H' fun σ2 H2 => tc σ2 H2 fun b H3 => if b = true then te σ2 H3 fun y H4 => N (acc ++ [y]) H4 else N acc H3)
def tComp (wi : TI) (ρ : List (Option Nat)) (g : TG) (tc : TT) (te : TE) : TE := fun σ H Q => wi σ H fun J H1 => CompG J ρ g tc te σ H1 Q
section
variable {X : Cx} {elt tg iter : Expr} {ifs : List Expr} {sc : Scope} {pos cpos : Pos} {N' : List Str} {ρ : List (Option Nat)} {wi : TI} {g : TG} {tc : TT} {te : TE}
theorem comp_main (hcalm : X.calm = true) (S : CompSc X N' ρ sc) (hi : PI X tg iter wi)
    (hg : ∀ cl C s H fp, PG (cxB X N' sc cl C s H fp) tg g) (gk : GKeep ρ g) (hc : ∀ cl C s H fp, PTs (cxB X N' sc cl C s H fp) ifs tc) (he : ∀ cl C s H fp, PE (cxB X N' sc cl C s H fp) elt te)
    (hs : ∀ x, foldedSetIterable iter X.env x = pure x)
    (use : Option (Value → Sem Unit)) {R : Value → Shared → Prop} {pins : List (Addr × Obj)} {s : Shared} {σ : St} {H : Hp} {Q : VK} (I : Inv X pins σ H s) (h : tComp wi ρ g tc te σ H Q)
    (hR : ∀ s' D C H', Inv X pins σ H' s' → Q (.ref D) H' → (∃ m, s'.heap.Ns C m) → FpOk X pins H' C → compPost (model X.prog X.w) X.A X.xe use R (.ref D) C (.ok .next) s') :
    wpAny (model X.prog X.w) X.A (comprehension (.ListComp elt [⟨tg, iter, ifs, 0⟩] sc pos) sc X.env cpos (newList []) false (eval iter X.env) use) R X.xe s := by
  obtain ⟨cl, hcl, hsub, hall⟩ := clos_of (sc := sc) (env := X.env) fun y hy hf => I.ok.has y.1 (S.free y hy hf)
  refine wpAny_comprehension_free rfl hs hcl S.kind S.names (thn (hi pins s σ H _ I h) fun v s1 h1 => thn h1 fun itv s2 h2 => ?_)
  obtain ⟨it, fp, tn, J, H2, e, I2, T, st2, f2, W, ⟨m0, w0⟩, turn⟩ := h2
  subst e
  refine wpAny_newList (items := []) ?_
  refine wpAny_newFunctionEnv S.nocell (by intro y hy; simp at hy) (fun h₁ hns hsb => ?_) S.kind
  dsimp only at hns hsb ⊢
  generalize hH2 : s2.heap.push { cls := .type "list", data := .seq ([] : List Value).toArray } = Hh at hns hsb ⊢
  have hCs : Hh.objs.size = s2.heap.objs.size + 1 := by rw [← hH2, Heap.size_push]
  generalize hD : s2.heap.objs.size = D at *
  generalize hCC : Hh.objs.size = C at *
  have hDC : D ≠ C := by omega
  have ltC : ∀ b : Nat, b < s2.heap.objs.size → b ≠ C ∧ b ≠ D ∧ b < D := fun b h => by omega
  have ltD : ∀ b : Nat, b < D → b ≠ C ∧ b ≠ D := fun b h => by omega
  have old : ∀ b o, s2.heap.get? b = some o → h₁.get? b = some o := fun b o e => hsb.extBut b o (ltC b (Heap.lt_size e)).1 (Heap.get?_push_of_some _ (by rw [← hH2]; exact Heap.get?_push_of_some _ e))
  have newD : h₁.get? D = some { cls := .type "list", data := .seq ([] : List Value).toArray } := hsb.extBut _ _ hDC (Heap.get?_push_of_some _ (by rw [← hH2, ← hD]; exact Heap.get?_push_size _ rfl))
  have ltb : ∀ b ∈ fp, b < D := fun b hb => by
    obtain ⟨o, e, _⟩ := T.obj _ _ st2 b hb
    exact (ltC b (Heap.lt_size e)).2.2
  have fD : FpOk X pins H2 D := I2.fpOk (by omega) (I2.hok.fresh (by omega))
  have fC : FpOk X pins H2 C := I2.fpOk (by omega) (I2.hok.fresh (by omega))
  have nst : ∀ b, b ≠ X.env.locals → b ∉ X.fs → b ∉ frs X.stack := fun b h1 h2 hb => by
    rcases List.mem_cons.mp (I2.stkSub b hb) with e | e
    · exact h1 e
    · exact h2 e
  -- the block's context is well
  have ok' : (cxB X N' sc cl C s2 H2 fp).Ok := by
    refine ⟨I2.ok.mod, S.kind, I2.ok.glob, I2.ok.blt, (by show s2.heap.objs.size ≤ C; omega), fun x y c e1 e2 => I2.ok.inj x y c (hsub _ _ e1) (hsub _ _ e2), fun x hx => ?_, fun x c z => (by cases z), I2.ok.hd, I2.ok.frames, .inl rfl,
      fun b hb => ⟨(ltD b (ltb b hb)).1, fun x c e => (f2 b hb).2.2.2.2.1 x c (hsub _ _ e)⟩, I2.bs, (by show X.base.objs.size ≤ s2.heap.objs.size; exact Nat.le_trans I2.ok.bsz I2.sz), fun b o e hb => ?_, fun b hb => nst b (f2 b hb).2.1 (f2 b hb).2.2.1, I2.stack, I2.stkFree⟩
    · have hx' : ∃ k', sc.names.lookup x = some k' ∧ (k' = .cell ∨ k' = .free) := by
        rcases hx with hx | hx
        · obtain ⟨k', e1, e2⟩ := lookup_relabel (env := X.env) (names := sc.names) hx
          rcases e2 with e2 | ⟨e2, _⟩
          · exact ⟨k', e1, .inl e2.symm⟩
          · exact ⟨k', e1, .inr e2⟩
        · obtain ⟨k', e1, e2⟩ := lookup_relabel (env := X.env) (names := sc.names) hx
          rcases e2 with e2 | ⟨e2, _⟩
          · exact ⟨k', e1, .inr e2.symm⟩
          · exact ⟨k', e1, .inr e2⟩
      obtain ⟨k', e1, e2⟩ := hx'
      have hm := lookup_mem e1
      rcases e2 with e2 | e2
      · exact absurd e2 (S.nocell _ hm)
      · subst e2; exact hall x hm
    · rcases (f2 b hb).2.2.2.1 with z | z
      · exact I2.ok.noex b o e z
      · exact absurd (Nat.lt_of_lt_of_le (Heap.lt_size e) (Nat.le_trans I2.ok.bsz z)) (Nat.lt_irrefl _)
  have pinOld : ∀ p ∈ X.pn ++ pins, p.1 < D := fun p hp => (ltC p.1 (Heap.lt_size (I2.pin p hp).1)).2.2
  have celOld : ∀ x c, cl.lookup x = some c → c < D := fun x c e => by
    obtain ⟨v, q⟩ := I2.cell x c (hsub _ _ e)
    exact (ltC c q.lt).2.2
  -- the state at the block's start
  have I' : ∀ tk, Inv (cxB X N' sc cl C s2 H2 fp) (pins ++ [(D, { cls := .type "list", data := .seq ([] : List Value).toArray })]) (pick ρ σ) H2 { s2 with heap := h₁, toks := tk } := fun tk => by
    refine ⟨ok', rfl, I2.bare, Un.kept old, ⟨_, hns, fun i x v e1 e2 e3 => ?_⟩, fun x c e => ?_, fC.1, fun x c e => I2.freeC x c (hsub _ _ e), fun p hp => ?_, I2.hok.kept old, ?_⟩
    · have e2' : ∃ j, ρ[i]? = some (some j) ∧ σ[j]? = some (some v) := by
        unfold pick at e2
        rw [List.getElem?_map] at e2
        cases hr : ρ[i]? with
        | none => rw [hr] at e2; cases e2
        | some o =>
          rw [hr] at e2
          cases o with
          | none => cases e2
          | some j =>
            refine ⟨j, rfl, ?_⟩
            have e2 : (σ[j]?).join = some v := Option.some.inj e2
            cases hq : σ[j]? with
            | none => rw [hq] at e2; cases e2
            | some o' => rw [hq] at e2; have e2 : o' = some v := e2
                         rw [e2]
      obtain ⟨j, hj, hv⟩ := e2'
      obtain ⟨y, ey, eN, ef⟩ := S.ix i j hj
      have e1' : N'[i]? = some x := e1
      rw [ey] at e1'; cases e1'
      obtain ⟨m, hn, hl⟩ := I2.loc
      have hm := lookup_mem ef
      have kX := S.free _ hm rfl
      obtain ⟨u, ru, lk⟩ := hl j x v eN hv (by rcases kX with k | k; exact .inr (.inl k); exact .inr (.inr k))
      refine ⟨u, ru, .inr ⟨?_, ?_⟩⟩
      · show (relabel sc X.env).names.lookup x = some .cell ∨ (relabel sc X.env).names.lookup x = some .free
        rcases e3 with e3 | e3 | e3
        · obtain ⟨k', q1, q2⟩ := lookup_relabel (env := X.env) (names := sc.names) e3
          rw [ef] at q1; cases q1
          rcases q2 with q2 | ⟨_, q2⟩ <;> cases q2
        · exact .inl e3
        · exact .inr e3
      · obtain ⟨c, hc'⟩ := hall x hm
        refine ⟨c, hc', ?_⟩
        rcases lk with ⟨k, _⟩ | ⟨_, c', ec, z⟩
        · rcases kX with k' | k' <;> (rw [k] at k'; cases k')
        · rw [hsub _ _ hc'] at ec; cases ec
          obtain ⟨o, ho, hd⟩ := z
          exact ⟨o, old _ _ ho, hd⟩
    · obtain ⟨v, o, ho, hd⟩ := I2.cell x c (hsub _ _ e)
      exact ⟨v, o, old _ _ ho, hd⟩
    · have hp' : p ∈ X.pn ++ pins ∨ p = (D, { cls := .type "list", data := .seq ([] : List Value).toArray }) := by
        rcases List.mem_append.mp hp with z | z
        · exact .inl (List.mem_append_left _ z)
        · rcases List.mem_append.mp z with z | z
          · exact .inl (List.mem_append_right _ z)
          · exact .inr (by simpa using z)
      rcases hp' with z | z
      · obtain ⟨q1, q2, q3, q4, q5⟩ := I2.pin p z
        exact ⟨old _ _ q1, q2, (ltD p.1 (pinOld p z)).1, nst _ q3 q4, q5⟩
      · subst z
        exact ⟨newD, fD.1, hDC, nst _ fD.2.1 fD.2.2.1, fun v z => by cases z⟩
    · show (pick ρ σ).length = N'.length
      unfold pick; rw [List.length_map]; exact S.len
  have stat : ∀ {H' : Hp} {o : Obj}, (∀ b ∈ fp, H' b = none) → ∀ b ∈ fp, FpOk (cxB X N' sc cl C s2 H2 fp) (pins ++ [(D, o)]) H' b := fun {H' o} hn b hb => by
    refine ⟨hn b hb, (ltD b (ltb b hb)).1, nst b (f2 b hb).2.1 (f2 b hb).2.2.1, .inl hb, fun x c e => (f2 b hb).2.2.2.2.1 x c (hsub _ _ e), fun p hp => ?_⟩
    rcases List.mem_append.mp hp with z | z
    · exact (f2 b hb).2.2.2.2.2 p (List.mem_append_left _ z)
    · rcases List.mem_append.mp z with z | z
      · exact (f2 b hb).2.2.2.2.2 p (List.mem_append_right _ z)
      · have e : p = (D, o) := by simpa using z
        subst e
        exact Ne.symm (ltD b (ltb b hb)).2
  have loop : ∀ tk, codeAny (model X.prog X.w) X.A (.compLoop (.ListComp elt [⟨tg, iter, ifs, 0⟩] sc pos) 0 (.ref it) (.ref D) (compEnvC sc cl C X.env)) (compPost (model X.prog X.w) X.A X.xe use R (.ref D) C) { s2 with heap := h₁, toks := tk } := fun tk => by
    refine compLoop_any (fun n s' => ∃ (i : Nat) (acc : List V) (its : List Value) (k : Nat) (H' : Hp), Inv (cxB X N' sc cl C s2 H2 fp) (pins ++ [(D, { cls := .type "list", data := .seq its.toArray k })]) (pick ρ σ) H' s' ∧ Vals acc its ∧ acc.length ≤ sizeLine ∧ tn i s'.heap ∧ (∀ b ∈ fp, H' b = none) ∧ W i n acc H')
      ?_ m0 ⟨0, [], [], 0, H2, I' tk, .nil, Nat.zero_le _, T.keep _ _ _ st2 fun b hb o e => old b o e, fun b hb => (f2 b hb).1, w0⟩
    rintro n s3 ⟨i, acc, its, k, H3, I3, va, hz0, st3, fr3, w3⟩
    rcases turn i n acc H3 w3 with ⟨stop, qn⟩ | ⟨go, hz, Nn, hN, step⟩
    · refine thn (T.done (cxB X N' sc cl C s2 H2 fp) rfl rfl rfl hcalm i _ s3 _ H3 (fun _ _ => False) I3 (stat fr3) st3 stop) fun r s4 ⟨hr, I4⟩ => ?_
      subst hr
      obtain ⟨p1, p2, p3, p4, p5⟩ := I4.pin (D, { cls := .type "list", data := .seq its.toArray k }) (by simp)
      have p1 : s4.heap.get? D = some { cls := .type "list", data := .seq its.toArray k } := p1
      have p2 : H3 D = none := p2
      have B := I4.base
      have upn : ∀ b o, H3 b = some o → upd H3 D (.lst acc) b = some o := fun b o e => by rw [upd_ne (ne_of_none e p2)]; exact e
      have IX : Inv X pins σ (upd H3 D (.lst acc)) s4 := by
        refine I2.call' (ch := fp) I4.os ⟨fun b o q1 q2 q3 q4 => B.keep b o q1 q2 q3 q4, fun b o q1 q2 q3 q4 => B.slot b o q1 q2 q3 q4, fun b o q1 q2 q3 => ?_, fun b o q1 q2 => B.there b o q1 q2,
          fun b xs q => upn _ _ (B.tups b xs q), fun b o u q => upn _ _ (B.frzs b o u q), fun b w ps q => ?_⟩ (I4.hok.track p2 ⟨hz0, its, k, va, p1⟩) I4.bare fun b hb => ⟨(f2 b hb).2.2.2.1, (f2 b hb).2.1, (f2 b hb).2.2.2.2.1, (f2 b hb).2.2.2.2.2⟩
        · rw [upd_ne (ltC b (Heap.lt_size q1)).2.1]
          exact B.free b o q1 q2 q3
        · obtain ⟨more, q'⟩ := B.tbls b w ps q
          exact ⟨more, upn _ _ q'⟩
      obtain ⟨m, hm, _⟩ := I4.loc
      refine hR s4 D C _ IX (qn D p2) ⟨m, hm⟩ (I2.fpOk (by omega) ?_)
      rw [upd_ne (Ne.symm hDC)]
      exact I4.free
    · refine thn (T.item (cxB X N' sc cl C s2 H2 fp) rfl rfl rfl hcalm i _ s3 _ H3 (fun _ _ => False) I3 (stat fr3) st3 go) fun r s4 ⟨u, hr, h4⟩ => ?_
      subst hr
      refine thn h4 fun _ s5 ⟨x, H5, I5, r5, y5, st5, fr5⟩ => ?_
      have I5' := I5.pinned (stat fr5) (T.obj _ _ st5)
      refine thn (hg cl C s2 H2 fp _ s5 _ H5 x u _ I5' r5 (gk _ _ _ _ (step x H5 y5))) fun _ s6 ⟨σ6, H6, I6, ⟨l6, k6⟩, q6⟩ => ?_
      refine thn (hc cl C s2 H2 fp _ s6 σ6 H6 _ I6 q6) fun ok s7 ⟨H7, I7, q7⟩ => ?_
      have wk : ∀ {pins' : List (Addr × Obj)} {H' : Hp} {s' : Shared}, Inv (cxB X N' sc cl C s2 H2 fp) pins' σ6 H' s' → Inv (cxB X N' sc cl C s2 H2 fp) pins' (pick ρ σ) H' s' := fun {pins' H' s'} J' =>
        J'.weak l6.symm fun j v e => by
          have : ∃ j', ρ[j]? = some (some j') := by
            unfold pick at e
            rw [List.getElem?_map] at e
            cases hr : ρ[j]? with
            | none => rw [hr] at e; cases e
            | some o =>
              rw [hr] at e
              cases o with
              | none => cases e
              | some j' => exact ⟨j', rfl⟩
          obtain ⟨j', hj'⟩ := this
          rw [k6 j j' hj']; exact e
      cases ok with
      | false =>
        have q7 : Nn acc H7 := by simpa using q7
        rw [if_neg Bool.false_ne_true]
        obtain ⟨m', hm, w7⟩ := hN acc H7 q7
        refine ⟨m', hm, i + 1, acc, its, k, H7, wk I7.unpinned, va, hz0, T.keep _ _ _ st5 fun b hb o e => (I7.pin (b, o) (List.mem_append_right _ (List.mem_append_right _ (mem_pinsAt hb e)))).1, fun b hb => ?_, w7⟩
        obtain ⟨o, e, d⟩ := T.obj _ _ st5 b hb
        exact (I7.pin (b, o) (List.mem_append_right _ (List.mem_append_right _ (mem_pinsAt hb e)))).2.1
      | true =>
        have q7 : te σ6 H7 fun y H4 => Nn (acc ++ [y]) H4 := by simpa using q7
        rw [if_pos rfl]
        refine thn (he cl C s2 H2 fp _ s7 σ6 H7 _ I7 q7) fun xv s8 ⟨y, H8, I8, r8, n8⟩ => ?_
        obtain ⟨p1, p2, p3, p4, p5⟩ := I8.pin (D, { cls := .type "list", data := .seq its.toArray k }) (by simp)
        have p1 : s8.heap.get? D = some { cls := .type "list", data := .seq its.toArray k } := p1
        have p2 : H8 D = none := p2
        refine wpAny_list_append_plain ⟨k, p1⟩ (fun h' pl sb => ?_) (by rw [List.size_toArray, ← va.length]; omega)
        obtain ⟨k', pl⟩ := pl
        obtain ⟨m', hm, w8⟩ := hN _ _ n8
        have Ia : Inv (cxB X N' sc cl C s2 H2 fp) pins σ6 H8 s8 := I8.unpinned.unpinned
        have Ib : Inv (cxB X N' sc cl C s2 H2 fp) pins σ6 H8 { s8 with heap := h' } := Ia.turned (t' := s8.toks) (it := D) (fun b o hb e => (sb.2 b hb).trans e) p2 hDC (.inr (by show s2.heap.objs.size ≤ D; omega)) (fun x c e => (ltD c (celOld x c e)).2) fun p hp => (ltD p.1 (pinOld p hp)).2
        have pl' : h'.get? D = some { cls := .type "list", data := .seq (its ++ [xv]).toArray k' } := by rw [pl]; simp
        have Ic : Inv (cxB X N' sc cl C s2 H2 fp) (pins ++ [(D, { cls := .type "list", data := .seq (its ++ [xv]).toArray k' })]) σ6 H8 { s8 with heap := h' } := Ib.pins_of fun p hp => by
          rcases List.mem_append.mp hp with z | z
          · exact Ib.pin p (List.mem_append_right _ z)
          · have e : p = (D, { cls := .type "list", data := .seq (its ++ [xv]).toArray k' }) := by simpa using z
            subst e
            exact ⟨pl', p2, p3, p4, fun v z => by cases z⟩
        refine ⟨m', hm, i + 1, acc ++ [y], its ++ [xv], k', H8, wk Ic, va.append (.cons r8 .nil), (by rw [List.length_append, List.length_singleton]; omega), T.keep _ _ _ st5 fun b hb o e => ?_, fun b hb => ?_, w8⟩
        · exact (sb.2 b (ltD b (ltb b hb)).2).trans (I8.pin (b, o) (List.mem_append_right _ (List.mem_append_right _ (mem_pinsAt hb e)))).1
        · obtain ⟨o, e, d⟩ := T.obj _ _ st5 b hb
          exact (I8.pin (b, o) (List.mem_append_right _ (List.mem_append_right _ (mem_pinsAt hb e)))).2.1
  refine codeAny_compStart_list (loop _) (T.self X.A 0 _ _ _ (T.keep _ _ _ st2 fun b hb o e => old b o e) (loop _))
theorem pe_comp (hcalm : X.calm = true) (S : CompSc X N' ρ sc) (hi : PI X tg iter wi)
    (hg : ∀ cl C s H fp, PG (cxB X N' sc cl C s H fp) tg g) (gk : GKeep ρ g) (hc : ∀ cl C s H fp, PTs (cxB X N' sc cl C s H fp) ifs tc) (he : ∀ cl C s H fp, PE (cxB X N' sc cl C s H fp) elt te)
    (hs : ∀ x, foldedSetIterable iter X.env x = pure x := by intro _; rfl) :
    PE X (.ListComp elt [⟨tg, iter, ifs, 0⟩] sc pos) (tComp wi ρ g tc te) := by
  intro pins s σ H Q I h
  rw [eval_ListComp]
  refine comp_main hcalm S hi hg gk hc he hs none I h fun s' D C H' I' q ⟨m, hm⟩ f => ⟨m, hm, fun h' sb => ?_⟩
  exact ⟨.ref D, H', I'.turned (t' := s'.toks) (it := C) (fun b o hb e => (sb.2 b hb).trans e) f.1 f.2.1 f.2.2.2.1 f.2.2.2.2.1 f.2.2.2.2.2, rfl, q⟩
theorem ps_setC {i : Nat} {x : Str} {px : Pos} (hcalm : X.calm = true) (hN : X.N.Nodup) (hix : X.N[i]? = some x) (hx : Loc X.env.scope x) (S : CompSc X N' ρ sc) (hi : PI X tg iter wi)
    (hg : ∀ cl C s H fp, PG (cxB X N' sc cl C s H fp) tg g) (gk : GKeep ρ g) (hc : ∀ cl C s H fp, PTs (cxB X N' sc cl C s H fp) ifs tc) (he : ∀ cl C s H fp, PE (cxB X N' sc cl C s H fp) elt te)
    (hsw : swapsWith (.ListComp elt [⟨tg, iter, ifs, 0⟩] sc pos) (some (.Name x px)) cpos.line X.env = pure true := by rfl)
    (hs : ∀ x, foldedSetIterable iter X.env x = pure x := by intro _; rfl)
    (hf : X.fn x = true ∨ X.env.scope.names.lookup x = some .local := by first | exact .inl rfl | exact .inr rfl | assumption) :
    PS X (.Assign [.Name x px] (.ListComp elt [⟨tg, iter, ifs, 0⟩] sc pos) cpos) (tAsg (tComp wi ρ g tc te) (gName i)) := by
  intro pins s σ H D I h
  rw [exec_Assign_Name_used _ _ _ _ hsw]
  refine wpAny_bind (wpAny_standAt (wpAny_bind ?_))
  show wpAny _ X.A (do let _ ← comprehension (.ListComp elt [⟨tg, iter, ifs, 0⟩] sc pos) sc X.env _ (newList []) false (eval iter X.env) (some (assign (.Name x px) X.env))) _ _ s
  refine wpAny_bind (thn (comp_main (Q := fun y H1 => D.nx (σ.set i (some y)) H1) (R := fun _ s' => SP X pins D .next s') hcalm S hi hg gk hc he hs (some (assign (.Name x px) X.env)) I h fun s' Da C H' I' q ⟨m, hm⟩ f => ?_) fun _ s' hq => wpAny_pure (wpAny_pure hq))
  show wpAny _ X.A (assign (.Name x px) X.env (.ref Da)) _ _ _
  refine wpAny_assign_Name (store_ok2 I' hN hix hx (v := .ref Da) rfl (fun s2 I2 ⟨a, sb, ha⟩ => ⟨m, hm.sameBut sb ?_, fun h' sb2 => ?_⟩) hf)
  · rcases ha with e | e
    · subst e; exact f.2.1
    · exact fun z => f.2.2.2.2.1 x a e z.symm
  · exact ⟨_, H', I2.turned (t' := s2.toks) (it := C) (fun b o hb e => (sb2.2 b hb).trans e) f.1 f.2.1 f.2.2.2.1 f.2.2.2.2.1 f.2.2.2.2.2, q⟩
end
structure It.Of (J : It) (Ok : Hp → Prop) (xs : List V) : Prop where
  go : ∀ i H, Ok H → i < xs.length → J.go i H
  yld : ∀ i H x H', Ok H → i < xs.length → J.yld i H x H' → H' = H ∧ xs[i]? = some x
  stop : ∀ H, Ok H → J.stop xs.length H
theorem of_list {K : PySem.W.Frag} {a : Addr} {xs : List V} : (Itl K a).Of (fun H => SqL K H a xs) xs :=
  ⟨fun i H h hi => ⟨xs, xs[i], h, by simp [hi]⟩, fun i H x H' h _ y => ⟨y.1, y.2 xs h⟩, fun H h => ⟨xs, h, Nat.le_refl _⟩⟩
theorem of_tup {K : PySem.W.Frag} {a : Addr} {xs : List V} : (Itt K a).Of (fun H => SqT K H a xs) xs :=
  ⟨fun i H h hi => ⟨xs, xs[i], h, by simp [hi]⟩, fun i H x H' h _ y => ⟨y.1, y.2 xs h⟩, fun H h => ⟨xs, h, Nat.le_refl _⟩⟩
def rngV (lo : Int) (n : Nat) : List V := (List.range n).map fun i => V.int (lo + (i : Nat))
theorem rngV_len (lo : Int) (n : Nat) : (rngV lo n).length = n := by simp [rngV]
theorem rngV_get {lo : Int} {n i : Nat} (h : i < n) : (rngV lo n)[i]? = some (.int (lo + i)) := by simp [rngV, h]
theorem of_range {lo : Int} {n : Nat} : (Itr lo n).Of (fun _ => True) (rngV lo n) :=
  ⟨fun i H _ hi => by rw [rngV_len] at hi; exact hi, fun i H x H' _ hi y => ⟨y.1, by rw [rngV_len] at hi; rw [y.2]; exact rngV_get hi⟩, fun H _ => by rw [rngV_len]; exact Nat.le_refl _⟩
end L2
set_option Elab.async false
set_option linter.all false
set_option maxRecDepth 100000
set_option maxHeartbeats 4000000
namespace L2
open PySem PySem.Spec PyProof.Rows
def sgn (c : Nat) : V := .str ⟨#[c]⟩
def sgns (x : Str) : List V := x.cps.toList.map sgn
theorem sgns_len (x : Str) : (sgns x).length = x.length := by simp [sgns, Str.length]
def Its (x : Str) : It := ⟨fun i _ => i < x.length, fun i H y H' => H' = H ∧ (sgns x)[i]? = some y, fun i _ => i = x.length⟩
theorem of_str {x : Str} : (Its x).Of (fun _ => True) (sgns x) :=
  ⟨fun i H _ hi => by rw [sgns_len] at hi; exact hi, fun i H y H' _ _ h => h, fun H _ => sgns_len x⟩
theorem turn_str {P : Program} {w : World} {K : PySem.W.Frag} {tg : Expr} (it : Addr) (x : Str) (t : Tok) (ty : String)
    (hty : ["enumerate", "zip", "dict_itemiterator", "dict_reverseitemiterator", "odict_iterator", "itertools.zip_longest", "itertools.pairwise"].contains ty = false)
    (W : ∀ A' : Around, A'.handled = none → Walks P w A' it [it] [it] x.cps.size (SignAt x) (fun i h => h.IsStrIter it ty x t i))
    (sf : ∀ (A : Around) (i : Nat) (s : Shared) (Q : Value → Shared → Prop) (E : Value → Shared → Prop), s.heap.IsStrIter it ty x t i → Q (.ref it) s → wpAny (model P w) A (pyIter (.ref it)) Q E s) :
    Turn P w K tg (Its x) [it] it (fun i h => h.IsStrIter it ty x t i) where
  mem := by simp
  obj := fun i h st b hb => by
    have e : b = it := by simpa using hb
    subst e
    obtain ⟨o, e, c, d⟩ := st
    exact ⟨o, e, fun v z => by rw [d] at z; cases z⟩
  keep := fun i h h' st k => let ⟨o, ho, r⟩ := st; ⟨o, k it (by simp) o ho, r⟩
  item := by
    intro X hP hw hK hc i pins s σ H E I hf st hg
    subst hP hw hK
    obtain ⟨f0, f1, f2, f3, f4, f5⟩ := hf it (by simp)
    refine (W X.A (I.ok.hd hc)).item i s _ _ hg st fun v h' tk hv st' kk => ?_
    obtain ⟨c, u, e, rfl⟩ := hv
    have I1 : Inv X pins σ H { s with heap := h', toks := tk } := I.turned (fun b o hb e => kk b o (by simpa using hb) e) f0 f1 f3 f4 f5
    obtain ⟨o, e', c', d'⟩ := id st'
    refine ⟨_, rfl, go_of (s := { s with heap := h', toks := tk }) e' c' d' hty ⟨sgn c, H, I1, ⟨u, rfl⟩, ⟨rfl, ?_⟩, st', fun b hb => (hf b hb).1⟩⟩
    unfold sgns
    rw [List.getElem?_map, Array.getElem?_toList, e]
    rfl
  done := by
    intro X hP hw hK hc i pins s σ H E I hf st hg
    subst hP hw hK
    obtain ⟨f0, f1, f2, f3, f4, f5⟩ := hf it (by simp)
    have hg : i = x.length := hg
    subst hg
    exact (W X.A (I.ok.hd hc)).done s _ _ st fun h' tk kk => ⟨rfl, I.turned (fun b o hb e => kk b o (by simpa using hb) e) f0 f1 f3 f4 f5⟩
  self := sf
section
variable {X : Cx} {tg : Expr}
def iStr (tl : TE) : TI := fun σ H R => tl σ H fun x H1 => ∃ z, x = .str z ∧ R (Its z) H1
theorem pi_str {l : Expr} {tl : TE} (hl : PE X l tl) : PI X tg l (iStr tl) := by
  intro pins s σ H R I h
  refine thn (hl pins s σ H _ I h) fun v s1 ⟨x, H1, I1, r1, q1⟩ => ?_
  obtain ⟨z, e, q⟩ := q1
  subst e
  obtain ⟨t, rfl⟩ := r1
  cases ha : z.cps.all (· < 128)
  · refine wpAny_pyIter_wide ha ?_
    refine ⟨s1.heap.objs.size, [s1.heap.objs.size], _, Its z, H1, rfl, I1.kept (t' := s1.toks) fun b o e => Heap.get?_push_of_some _ e, turn_str _ z t "str_iterator" (by decide) (fun A' hA => Walks.strWide hA _ z t) (fun _ _ _ _ _ st hQ => wpAny_pyIter_striter_wide st hQ), ⟨_, Heap.get?_push_size _ rfl, rfl, rfl⟩, fun b hb => ?_, q⟩
    have e : b = s1.heap.objs.size := by simpa using hb
    subst e
    exact I1.fpOk (Nat.le_refl _) (I1.hok.fresh (Nat.le_refl _))
  · refine wpAny_pyIter_ascii ha ?_
    refine ⟨s1.heap.objs.size, [s1.heap.objs.size], _, Its z, H1, rfl, I1.kept (t' := s1.toks) fun b o e => Heap.get?_push_of_some _ e, turn_str _ z t "str_ascii_iterator" (by decide) (fun A' hA => Walks.strAscii hA _ z t) (fun _ _ _ _ _ st hQ => wpAny_pyIter_striter_ascii st hQ), ⟨_, Heap.get?_push_size _ rfl, rfl, rfl⟩, fun b hb => ?_, q⟩
    have e : b = s1.heap.objs.size := by simpa using hb
    subst e
    exact I1.fpOk (Nat.le_refl _) (I1.hok.fresh (Nat.le_refl _))
theorem op_gt_str : OpR X (compareOp .Gt) (fun x y H Q => ∃ i j, x = .str i ∧ y = .str j ∧ Q (.bl (decide (j.cps.toList < i.cps.toList))) H) := by
  intro pins s σ H x y v u Q I rx ry h
  obtain ⟨i, j, rfl, rfl, q⟩ := h
  obtain ⟨t, rfl⟩ := rx
  obtain ⟨t', rfl⟩ := ry
  exact PySem.P.gt_str (fin_bl I q rfl)
def cutS (x : Str) (lo hi : Option Int) : Str := ⟨((x.cps.toList.drop (HT.sIx x.length 0 lo)).take (HT.sIx x.length x.length hi - HT.sIx x.length 0 lo)).toArray⟩
theorem slice_ix (lo hi : Option Int) (n : Nat) : Builtin.Str.strSliceIndices lo hi 1 n = (List.range (HT.sIx n n hi - HT.sIx n 0 lo)).map (fun k => HT.sIx n 0 lo + k) := by
  have h1 : ∀ (v : Option Int) (d : Nat), d ≤ n → (match v with | none => (d : Int) | some i => max 0 (min (if i < 0 then i + (n : Int) else i) (n : Int))) = ((HT.sIx n d v : Nat) : Int) := by
    intro v d hd
    cases v with
    | none => rfl
    | some i =>
      show max 0 (min (if i < 0 then i + (n : Int) else i) (n : Int)) = (((if i < 0 then (i + (n : Int)).toNat else min i.toNat n) : Nat) : Int)
      by_cases hv : i < 0
      · simp only [if_pos hv]; omega
      · simp only [if_neg hv]; omega
  have fin : ∀ (p q : Int) (a b : Nat), p = (a : Int) → q = (b : Int) → sliceRange p q 1 = (List.range (b - a)).map (fun k => a + k) := by
    intro p q a b e1 e2
    subst e1 e2
    unfold sliceRange
    simp only [show ((1 : Int) > 0) = True from by simp, if_true]
    by_cases hlt : (a : Int) < b
    · have e3 : (((b : Int) - a + 1 - 1) / 1).toNat = b - a := by first | omega | (simp; done) | (simp; omega)
      simp only [hlt, if_true, e3]
      refine List.map_congr_left fun k _ => ?_
      omega
    · have : b - a = 0 := by omega
      simp [hlt, this]
  unfold Builtin.Str.strSliceIndices
  refine fin _ _ _ _ ?_ ?_
  · have := h1 lo 0 (Nat.zero_le _)
    cases lo with
    | none => exact this
    | some i => exact this
  · have := h1 hi n (Nat.le_refl _)
    cases hi with
    | none => exact this
    | some i => exact this
theorem slice_cut (x : Str) (lo hi : Option Int) : Txt.slice x lo hi = cutS x lo hi := by
  have hle : HT.sIx x.length x.length hi ≤ x.length := HT.sIx_le _ _ (Nat.le_refl _) hi
  have ha : HT.sIx x.length 0 lo ≤ x.length := HT.sIx_le _ _ (Nat.zero_le _) lo
  unfold Txt.slice cutS
  rw [slice_ix]
  generalize HT.sIx x.length 0 lo = a at *
  generalize HT.sIx x.length x.length hi = b at *
  have hp : ((List.range (b - a)).map (fun k => a + k)).filterMap (fun i => x.cps[i]?) = (x.cps.toList.drop a).take (b - a) := by
    have h := StrLaws.picks x.cps.toList (b - a) a (by simp [Str.length] at hle ha ⊢; omega)
    simpa using h
  split
  · rename_i h
    simp only [List.length_map, List.length_range, beq_self_eq_true, Bool.true_and, beq_iff_eq] at h
    have e : a = 0 ∨ x.length = 0 := by omega
    have e2 : (x.cps.toList.drop a).take (b - a) = x.cps.toList := by
      rw [h]
      rcases e with e | e
      · subst e
        rw [List.drop_zero]
        exact List.take_of_length_le (by simp [Str.length])
      · have : x.cps.toList = [] := List.eq_nil_of_length_eq_zero (by simpa [Str.length] using e)
        rw [this]; simp
    rw [e2]
  · rw [hp]
def rSlS : V → Option Int → Option Int → Hp → VK → Prop := fun x lo hi H Q => ∃ z, x = .str z ∧ z.length ≤ sizeLine ∧ Q (.str (cutS z lo hi)) H
theorem sl_str : SlR X rSlS := by
  intro pins s σ H x v vl vu lo hi sl Q I rx hs pl pu h
  obtain ⟨z, rfl, hz, q⟩ := h
  obtain ⟨t, rfl⟩ := rx
  have fin : ∀ (l u : Option (Int × Tok)), vl = partValue l → vu = partValue u → lo = l.map (·.1) → hi = u.map (·.1) →
      wpAny (model X.prog X.w) X.A (getItem (.str z t) (.ref sl)) (EP X pins σ Q) X.xe s := by
    intro l u e1 e2 e3 e4
    subst e1 e2 e3 e4
    refine wpAny_getItem_str_slice (l := l) (u := u) (st := none) hs rfl ?_
    refine post_val_or_str ⟨Nat.le_trans (Txt.slice_le z _ _) hz, fun t' k => ?_⟩
    refine ⟨.str (cutS z _ _), H, I.tok k, ⟨t', ?_⟩, q⟩
    show Value.str (Txt.slice z _ _) t' = _
    rw [slice_cut]
  refine ⟨"str", _, F.slot_str_getitem.lookup, typeIs_str _ _ _, ?_⟩
  cases pl with
  | none => cases pu with
    | none => exact fin none none rfl rfl rfl rfl
    | int j tj => exact fin none (some (j, tj)) rfl rfl rfl rfl
  | int i ti => cases pu with
    | none => exact fin (some (i, ti)) none rfl rfl rfl rfl
    | int j tj => exact fin (some (i, ti)) (some (j, tj)) rfl rfl rfl rfl
def rInS (neg : Bool) : R2 := fun x y H Q => ∃ c z, x = sgn c ∧ y = .str z ∧ Q (.bl (if neg then !decide (c ∈ z.cps.toList) else decide (c ∈ z.cps.toList))) H
theorem op_in1 : OpR X (compareOp .In) (rInS false) := by
  intro pins s σ H x y v u Q I rx ry h
  obtain ⟨c, z, rfl, rfl, q⟩ := h
  refine op_in_str pins s σ H _ _ v u Q I rx ry ⟨_, z, rfl, rfl, ?_⟩
  rw [StrLaws.found_one]; exact q
def rIsT (K : PySem.W.Frag) : List V → Hp → VK → Prop := fun xs H Q => ∃ x t T b, xs = [x, .ty T] ∧ TyOf K H x t ∧ PySem.W.kitOne K t (.type T) = some b ∧ Q (.bl b) H
theorem call_isT : CallR X (.builtin "isinstance") (rIsT X.K) := by
  intro pins s σ H xs us Q I r h
  obtain ⟨x, t, T, b, rfl, ty, e, q⟩ := h
  obtain ⟨u, w', rfl, rx, rt⟩ := vals2 r
  cases (show w' = Value.type T from rt)
  exact isinst_ok I rx ty e fun tk => ⟨.bl b, H, I.tok tk, rfl, q⟩
end
end L2
set_option Elab.async false
set_option linter.all false
set_option maxRecDepth 100000
set_option maxHeartbeats 4000000
namespace L2
open PySem PySem.Spec PyProof.Rows
def compOk (osc : Scope) (N N' : List Str) (ρ : List (Option Nat)) (sc : Scope) : Bool :=
  sc.names.all (fun y => !(decide (y.2 = .cell))) && sc.names.all (fun y => !(decide (y.2 = .local)) || decide (sc.names.lookup y.1 = some .local)) &&
  sc.names.all (fun y => !(decide (y.2 = .free)) || (decide (osc.names.lookup y.1 = some .cell) || decide (osc.names.lookup y.1 = some .free))) &&
  decide (ρ.length = N'.length) && (List.range ρ.length).all fun i => match ρ[i]? with
    | some (some j) => (match N'[i]? with | some x => decide (N[j]? = some x) && decide (sc.names.lookup x = some .free) | none => false)
    | _ => true
theorem CompSc.of {X : Cx} {N' : List Str} {ρ : List (Option Nat)} {sc : Scope} (hk : sc.kind = .function) (h : compOk X.env.scope X.N N' ρ sc = true) : CompSc X N' ρ sc := by
  unfold compOk at h
  simp only [Bool.and_eq_true, List.all_eq_true, Bool.or_eq_true, Bool.not_eq_true', decide_eq_true_eq, decide_eq_false_iff_not] at h
  obtain ⟨⟨⟨⟨h1, h2⟩, h3⟩, h4⟩, h5⟩ := h
  refine ⟨hk, fun y hy => h1 y hy, fun y hy e => (h2 y hy).resolve_left (fun z => z e), fun y hy e => (h3 y hy).resolve_left (fun z => z e), h4, fun i j e => ?_⟩
  have hi : i < ρ.length := (List.getElem?_eq_some_iff.mp e).1
  have q := h5 i (List.mem_range.mpr hi)
  rw [e] at q
  cases hN : N'[i]? with
  | none => rw [hN] at q; cases q
  | some x =>
    rw [hN] at q
    simp only [Bool.and_eq_true, decide_eq_true_eq] at q
    exact ⟨x, rfl, q.1, q.2⟩
structure Cal (P : Program) (w : World) (K : PySem.W.Frag) (mg : Str → Option Value) (base : Heap) (CX : CXT) (k : Nat) (x : Str) (ps : List Str) (sp : Sp) : Prop where
  ex : ∃ (f : Addr) (fd : FuncData), mg x = some (.ref f) ∧ PySem.W.keepIn K (.ref f) = true ∧ Binds K fd ps [] ∧ FnOk P w K mg base CX k f fd ps sp
theorem pe_cal {X : Cx} {CX : CXT} {k : Nat} {x : Str} {ps : List Str} {sp : Sp} {E : XK} {e : Expr} {es : List Expr} {t : TA} {p pos : Pos} (C : Cal X.prog X.w X.K X.mg X.base CX k x ps sp) (hr : Room k X.A) (hg : Gl X x) (hx : Passes CX X E)
    (ha : PA X (e :: es) t) (hdb : (x == ("__debug__" : Str)) = false := by decide) (he : starEach (e :: es) X.env = (false, eval e X.env) :: starEach es X.env := by rfl) (hpl : (backTo pos (starEach es X.env)).any (·.1) = false := by rfl) :
    PE X (.Call (.Name x p) (e :: es) [] pos) (tCall sp [] E t) := by
  obtain ⟨f, fd, hm, hk, hb, F⟩ := C.ex
  exact pe_call F hr hg hm hk hb .nil hx ha hdb he hpl
theorem pe_ty {X : Cx} {x : Str} {T : String} {pos : Pos} (hg : Gl X x) (hm : X.mg x = none) (hv : bootBuiltins x = some (.type T)) (hn : x ≠ "__name__" := by decide) (hd : (x == ("__debug__" : Str)) = false := by decide) : PE X (.Name x pos) (tC (.ty T)) :=
  pe_bltn hg hm hv rfl hn hd
structure FnD (K : PySem.W.Frag) (mg : Str → Option Value) (x : Str) (st : Stmt) (ps : List Str) : Prop where
  ex : ∃ (f : Addr) (fd : FuncData), mg x = some (.ref f) ∧ PySem.W.keepIn K (.ref f) = true ∧ Binds K fd ps [] ∧ (∀ (s : Shared) (us : List Value), us.length = ps.length → BindsTo s fd ⟨us, []⟩ (ps.zip us)) ∧ Fun K x x st f fd
theorem fnD_mk {K : PySem.W.Frag} {h : Heap} {mg : Str → Option Value} {x : Str} {st : Stmt} {ps : List Str} {f : Addr} {oc : Value} {od an : Option Addr} {osl : Array (Option Value)} {kV doc pm cdv ct : Value} (X : K.In h) (G : h.Ns mainGlobals mg)
    (hb : ∀ (kV doc pm : Value) (an : Option Addr) (cdv ct : Value) (us : List Value), us.length = ps.length → bindArgs (PySem.W.fnOf x x (defArgs st) (defBody st) (defScope st) .none kV doc pm an cdv ct) ⟨us, []⟩ = pure (ps.zip us))
    (a : PySem.W.nsIn K mainGlobals x = some (some (.ref f))) (l : K.lookup f = some ⟨oc, od, .func (PySem.W.fnOf x x (defArgs st) (defBody st) (defScope st) .none kV doc pm an cdv ct), osl⟩)
    (c : PySem.W.codeIn K cdv x = true) (k : PySem.W.keepIn K (.ref f) = true) : FnD K mg x st ps := by
  have F := fun_mk (st := st) l c k
  exact ⟨f, _, PySem.W.mg_of X G a, k, F.binds hb, fun s us hl => .of_eq (hb kV doc pm an cdv ct us hl), F⟩
theorem FnD.cal {P : Program} {w : World} {K : PySem.W.Frag} {mg : Str → Option Value} {base : Heap} {CX : CXT} {k : Nat} {x : Str} {st : Stmt} {ps : List Str} {sp : Sp} (F : FnD K mg x st ps) (h : ∀ f fd, Fun K x x st f fd → FnOk P w K mg base CX k f fd ps sp) :
    Cal P w K mg base CX k x ps sp := by
  obtain ⟨f, fd, h1, h2, h3, _, h4⟩ := F.ex
  exact ⟨f, fd, h1, h2, h3, h f fd h4⟩
end L2
set_option linter.all false
namespace Mi
open PySem
inductive D where
  | non | bl (b : Bool) | int (i : Int) | str (x : Str) | lst (ds : List D) | tup (ds : List D)
mutual
def D.dep : D → Nat
  | .lst ds => depAll ds + 1
  | .tup ds => depAll ds + 1
  | _ => 0
def depAll : List D → Nat
  | [] => 0
  | d :: r => max d.dep (depAll r)
end
mutual
/-- Python's == -/
def pyEq : D → D → Bool
  | .non, .non => true
  | .bl a, .bl b => a == b
  | .bl a, .int b => (if a then 1 else 0) == b
  | .int a, .bl b => a == (if b then 1 else 0)
  | .int a, .int b => a == b
  | .str a, .str b => a == b
  | .lst a, .lst b => pyEqs a b
  | .tup a, .tup b => pyEqs a b
  | _, _ => false
def pyEqs : List D → List D → Bool
  | [], [] => true
  | a :: r, b :: s => pyEq a b && pyEqs r s
  | _, _ => false
end
mutual
/-- no list in it -/
def imm : D → Bool
  | .lst _ => false
  | .tup ds => imms ds
  | _ => true
def imms : List D → Bool
  | [] => true
  | d :: r => imm d && imms r
end
def ixN (n : Nat) (i : Int) : Option Nat := if 0 ≤ i then (if i < n then some i.toNat else none) else if -(n : Int) ≤ i then some (i + n).toNat else none
def atI {α : Type} (xs : List α) (i : Int) : Option α := (ixN xs.length i).bind fun j => xs[j]?
def sIx (n d : Nat) : Option Int → Nat
  | none => d
  | some v => if v < 0 then (v + (n : Int)).toNat else min v.toNat n
def cutL {α : Type} (xs : List α) (lo hi : Option Int) : List α := (xs.drop (sIx xs.length 0 lo)).take (sIx xs.length xs.length hi - sIx xs.length 0 lo)
abbrev Ky := Sum Int Str
inductive W where
  | d (x : D) | dk (kvs : List (Ky × D)) | dt (kvs : List (List Ky × D)) | ex (c : String)
abbrev Env := List (Option W)
structure Exn where
  cls : String
  val : List D
inductive Rs (α : Type) where
  | ok (a : α) | ex (x : Exn) | no
def Rs.bind {α β : Type} : Rs α → (α → Rs β) → Rs β
  | .ok a, f => f a
  | .ex x, _ => .ex x
  | .no, _ => .no
@[simp] theorem bind_ok {α β : Type} (a : α) (f : α → Rs β) : (Rs.ok a).bind f = f a := rfl
@[simp] theorem bind_ex {α β : Type} (x : Exn) (f : α → Rs β) : (Rs.ex x).bind f = .ex x := rfl
@[simp] theorem bind_no {α β : Type} (f : α → Rs β) : (Rs.no).bind f = .no := rfl
def Fin {α : Type} (r : Rs α) (k : α → Prop) : Prop := match r with
  | .ok a => k a
  | _ => False
theorem fin_bind {α β : Type} {r : Rs α} {f : α → Rs β} {k : β → Prop} : Fin (r.bind f) k ↔ Fin r fun a => Fin (f a) k := by cases r <;> exact Iff.rfl
theorem Fin.mono {α : Type} {r : Rs α} {k k' : α → Prop} (h : Fin r k) (m : ∀ a, k a → k' a) : Fin r k' := by
  cases r with
  | ok a => exact m a h
  | ex x => exact h
  | no => exact h
theorem fin_t {α : Type} {r s : Rs α} {k : α → Prop} (h : Fin (if true = true then r else s) k) : Fin r k := by simpa using h
theorem fin_f {α : Type} {r s : Rs α} {k : α → Prop} (h : Fin (if false = true then r else s) k) : Fin s k := by simpa using h
theorem fin_now {α : Type} {a : α} {k : α → Prop} (h : Fin (.ok a) k) : k a := h
def ofO {α : Type} : Option α → Rs α
  | some a => .ok a
  | none => .no
def guardR {α : Type} (c : Prop) [Decidable c] (r : Rs α) : Rs α := if c then r else .no
theorem guardR_pos {α : Type} {c : Prop} [Decidable c] {r : Rs α} (h : c) : guardR c r = r := if_pos h
theorem fin_guard {α : Type} {c : Prop} [Decidable c] {r : Rs α} {k : α → Prop} (h : Fin (guardR c r) k) : c ∧ Fin r k := by
  unfold guardR at h
  split at h
  · exact ⟨‹_›, h⟩
  · exact h.elim
abbrev E := Env → Rs D
abbrev C := Env → Rs Bool
def mC (d : D) : E := fun _ => .ok d
def mV (i : Nat) : E := fun e => match e[i]? with
  | some (some (.d x)) => .ok x
  | _ => .no
def m1 (f : D → Rs D) (a : E) : E := fun e => (a e).bind f
def m2 (f : D → D → Rs D) (a b : E) : E := fun e => (a e).bind fun x => (b e).bind fun y => f x y
def mArgs : List E → Env → Rs (List D)
  | [], _ => .ok []
  | a :: r, e => (a e).bind fun x => (mArgs r e).bind fun xs => .ok (x :: xs)
def mN (f : List D → Rs D) (as : List E) : E := fun e => (mArgs as e).bind f
def dTup (ds : List D) : Rs D := guardR (ds.length ≤ 16777216) (.ok (.tup ds))
def dLst (ds : List D) : Rs D := guardR (ds.length ≤ 16777216) (.ok (.lst ds))
def asB : D → Rs Bool
  | .bl b => .ok b
  | _ => .no
def mAnd (a b : E) : E := fun e => (a e).bind fun x => (asB x).bind fun c => if c = true then b e else .ok (.bl false)
def mOr (a b : E) : E := fun e => (a e).bind fun x => (asB x).bind fun c => if c = true then .ok (.bl true) else b e
def asI : D → Rs Int
  | .int i => .ok i
  | _ => .no
def mPart : Option E → Env → Rs (Option Int)
  | none, _ => .ok none
  | some a, e => (a e).bind fun x => (asI x).bind fun i => .ok (some i)
def cutStr (x : Str) (lo hi : Option Int) : Str := ⟨(cutL x.cps.toList lo hi).toArray⟩
def dSl (x : D) (lo hi : Option Int) : Rs D := match x with
  | .lst ds => .ok (.lst (cutL ds lo hi))
  | .str z => guardR (z.length ≤ 16777216) (.ok (.str (cutStr z lo hi)))
  | _ => .no
def mSlF (f : D → Option Int → Option Int → Rs D) (a : E) (lo hi : Option E) : E := fun e => (a e).bind fun x => (mPart lo e).bind fun l => (mPart hi e).bind fun h => f x l h
def cB (a : E) : C := fun e => (a e).bind asB
def cAnd (a b : C) : C := fun e => (a e).bind fun c => if c = true then b e else .ok false
def cOr (a b : C) : C := fun e => (a e).bind fun c => if c = true then .ok true else b e
def cNot (a : C) : C := fun e => (a e).bind fun c => .ok (!c)
def dTru : D → Rs Bool
  | .non => .ok false
  | .bl b => .ok b
  | .int i => .ok (i != 0)
  | .str y => guardR (y.length ≤ 16777216) (.ok ((y.length : Int) != 0))
  | .lst ds => .ok (!ds.isEmpty)
  | .tup ds => .ok (!ds.isEmpty)
def cTru (a : E) : C := fun e => (a e).bind dTru
abbrev I := Env → Rs (List D)
def dItems : D → Rs (List D)
  | .lst ds => .ok ds
  | .tup ds => .ok ds
  | .str x => .ok (x.cps.toList.map fun c => .str ⟨#[c]⟩)
  | _ => .no
def iOf (a : E) : I := fun e => (a e).bind dItems
def dRange (lo hi : Int) : List D := (List.range (hi - lo).toNat).map fun k => .int (lo + (k : Nat))
def okR (i : Int) : Prop := -(2 ^ 62) ≤ i ∧ i < 2 ^ 62
instance (i : Int) : Decidable (okR i) := inferInstanceAs (Decidable (_ ∧ _))
def iRange1 (a : E) : I := fun e => (a e).bind fun x => (asI x).bind fun j => guardR (okR j) (.ok (dRange 0 j))
def dEnum (k : Nat) : List D → List D
  | [] => []
  | d :: r => .tup [.int k, d] :: dEnum (k + 1) r
def dLstItems : D → Rs (List D)
  | .lst ds => .ok ds
  | _ => .no
def dZip2 : List D → List D → List D
  | a :: r, b :: s => .tup [a, b] :: dZip2 r s
  | _, _ => []
inductive Tg where
  | n (i : Nat) | t (is : List Nat)
def setAll : List Nat → List D → Env → Rs Env
  | [], [], e => .ok e
  | i :: is, d :: ds, e => setAll is ds (e.set i (some (.d d)))
  | _, _, _ => .no
def Tg.put : Tg → D → Env → Rs Env
  | .n i, d, e => .ok (e.set i (some (.d d)))
  | .t is, .tup ds, e => setAll is ds e
  | _, _, _ => .no
def pickE (ρ : List (Option Nat)) (e : Env) : Env := ρ.map fun o => o.bind fun j => (e[j]?).join
def compD (tg : Tg) (c : C) (a : E) (e : Env) : List D → Rs (List D)
  | [] => .ok []
  | x :: r => (tg.put x e).bind fun e1 => (c e1).bind fun k => if k = true then (a e1).bind fun y => (compD tg c a e r).bind fun ys => .ok (y :: ys) else compD tg c a e r
def cYes : C := fun _ => .ok true
def mComp (ρ : List (Option Nat)) (it : I) (tg : Tg) (c : C) (a : E) : E := fun e => (it e).bind fun xs => guardR (xs.length ≤ 16777216) ((compD tg c a (pickE ρ e) xs).bind fun ys => .ok (.lst ys))
abbrev Fn := List W → Rs W
abbrev EW := Env → Rs W
def wD (a : E) : EW := fun e => (a e).bind fun x => .ok (.d x)
def wV (i : Nat) : EW := fun e => match e[i]? with
  | some (some w) => .ok w
  | _ => .no
def mArgsW : List EW → Env → Rs (List W)
  | [], _ => .ok []
  | a :: r, e => (a e).bind fun x => (mArgsW r e).bind fun xs => .ok (x :: xs)
def wCall (f : Fn) (as : List EW) : EW := fun e => (mArgsW as e).bind f
def asD : W → Rs D
  | .d x => .ok x
  | _ => .no
def mCall (f : Fn) (as : List EW) : E := fun e => (wCall f as e).bind asD
inductive Out where
  | nx (e : Env) | rt (w : W) | bk (e : Env) | ct (e : Env)
abbrev S := Env → Rs Out
def sNext : S := fun e => .ok (.nx e)
def sSeq (s t : S) : S := fun e => (s e).bind fun o => match o with
  | .nx e' => t e'
  | o => .ok o
def sSet (i : Nat) (a : E) : S := fun e => (a e).bind fun d => .ok (.nx (e.set i (some (.d d))))
def sPut (tg : Tg) (a : E) : S := fun e => (a e).bind fun d => (tg.put d e).bind fun e' => .ok (.nx e')
def sDrop (a : E) : S := fun e => (a e).bind fun _ => .ok (.nx e)
def sRet (a : EW) : S := fun e => (a e).bind fun w => .ok (.rt w)
def sIf (c : C) (s t : S) : S := fun e => (c e).bind fun k => if k = true then s e else t e
def sNever : S := fun _ => .no
def forD (tg : Tg) (body : S) : List D → Env → Rs Out
  | [], e => .ok (.nx e)
  | x :: r, e => (tg.put x e).bind fun e1 => (body e1).bind fun o => match o with
    | .nx e2 => forD tg body r e2
    | .ct e2 => forD tg body r e2
    | .bk e2 => .ok (.nx e2)
    | .rt w => .ok (.rt w)
def sFor (it : I) (tg : Tg) (body : S) : S := fun e => (it e).bind fun xs => forD tg body xs e
def getL (e : Env) (i : Nat) : Rs (List D) := match e[i]? with
  | some (some (.d (.lst ds))) => .ok ds
  | _ => .no
def putL (e : Env) (i : Nat) (ds : List D) : Env := e.set i (some (.d (.lst ds)))
def sAppend (i : Nat) (a : E) : S := fun e => (a e).bind fun d => (getL e i).bind fun ds => guardR (ds.length < 16777216) (.ok (.nx (putL e i (ds ++ [d]))))
def sExtend (i : Nat) (a : E) : S := fun e => (a e).bind fun d => (getL e i).bind fun ds => match d with
  | .lst xs => guardR (ds.length + xs.length ≤ 16777216) (.ok (.nx (putL e i (ds ++ xs))))
  | _ => .no
def sClear (i : Nat) : S := fun e => (getL e i).bind fun ds => .ok (.nx (putL e i []))
def popAt (ds : List D) (i : Int) : Rs (D × List D) := guardR (-(2 ^ 63) ≤ i ∧ i < 2 ^ 63) ((ofO (ixN ds.length i)).bind fun k => (ofO ds[k]?).bind fun d => .ok (d, ds.eraseIdx k))
def sAppendPop (x y : Nat) (k : E) : S := fun e => (k e).bind fun z => (asI z).bind fun i => (getL e y).bind fun ds => (popAt ds i).bind fun p => (getL (putL e y p.2) x).bind fun es =>
  guardR (es.length < 16777216) (.ok (.nx (putL (putL e y p.2) x (es ++ [p.1]))))
def fnOut : Out → Rs W
  | .rt w => .ok w
  | .nx _ => .ok (.d .non)
  | _ => .no
def fnM (k n : Nat) (body : S) : Fn := fun ws => guardR (ws.length = k) ((body (ws.map some ++ List.replicate (n - ws.length) none)).bind fnOut)
def fnOutN : Out → Rs W
  | .rt w => .ok w
  | _ => .no
def fnN (k n : Nat) (body : S) : Fn := fun ws => guardR (ws.length = k) ((body (ws.map some ++ List.replicate (n - ws.length) none)).bind fnOutN)
def fnZ : Fn := fun _ => .no
def okMul (i j : Int) : Prop := (-(2 ^ 64) < i ∧ i < 2 ^ 64) ∨ (-(2 ^ 64) < j ∧ j < 2 ^ 64)
instance (i j : Int) : Decidable (okMul i j) := inferInstanceAs (Decidable (_ ∨ _))
def okDiv (j : Int) : Prop := 0 < j ∧ j.natAbs.log2 < 9000
instance (j : Int) : Decidable (okDiv j) := inferInstanceAs (Decidable (_ ∧ _))
def okPow (i j : Int) : Prop := 0 ≤ j ∧ j ≤ 1000000 ∧ i.natAbs < 2 ^ 64
instance (i j : Int) : Decidable (okPow i j) := inferInstanceAs (Decidable (_ ∧ _))
def dAdd : D → D → Rs D
  | .int i, .int j => .ok (.int (i + j))
  | .str i, .str j => guardR (i.length + j.length ≤ 16777216) (.ok (.str (i ++ j)))
  | .lst i, .lst j => guardR (i.length + j.length ≤ 16777216) (.ok (.lst (i ++ j)))
  | _, _ => .no
def dSub : D → D → Rs D
  | .int i, .int j => .ok (.int (i - j))
  | _, _ => .no
def dMulI : D → D → Rs D
  | .int i, .int j => guardR (okMul i j) (.ok (.int (i * j)))
  | _, _ => .no
def dDiv : D → D → Rs D
  | .int i, .int j => guardR (okDiv j) (.ok (.int (i / j)))
  | _, _ => .no
def dMod : D → D → Rs D
  | .int i, .int j => guardR (0 < j) (.ok (.int (i % j)))
  | _, _ => .no
def dLt : D → D → Rs D
  | .int i, .int j => .ok (.bl (decide (i < j)))
  | .str i, .str j => .ok (.bl (decide (i.cps.toList < j.cps.toList)))
  | _, _ => .no
def dGt : D → D → Rs D
  | .int i, .int j => .ok (.bl (decide (j < i)))
  | .str i, .str j => .ok (.bl (decide (j.cps.toList < i.cps.toList)))
  | _, _ => .no
def dEq (x y : D) : Rs D := guardR (x.dep ≤ 16) (.ok (.bl (pyEq x y)))
def dNe (x y : D) : Rs D := guardR (x.dep ≤ 16) (.ok (.bl (!pyEq x y)))
def dIn (x y : D) : Rs D := match y with
  | .lst ds => guardR (depAll ds ≤ 16) (.ok (.bl (ds.any fun e => pyEq e x)))
  | .tup ds => guardR (depAll ds ≤ 16) (.ok (.bl (ds.any fun e => pyEq e x)))
  | .str z => match x with
    | .str s => guardR (s.length = 1) (.ok (.bl (decide (s.cps.getD 0 0 ∈ z.cps.toList))))
    | _ => .no
  | _ => .no
def dNotIn (x y : D) : Rs D := match y with
  | .lst ds => guardR (depAll ds ≤ 16) (.ok (.bl (!ds.any fun e => pyEq e x)))
  | .tup ds => guardR (depAll ds ≤ 16) (.ok (.bl (!ds.any fun e => pyEq e x)))
  | _ => .no
def dIx (x y : D) : Rs D := match x, y with
  | .lst ds, .int i => ofO (atI ds i)
  | .tup ds, .int i => ofO (atI ds i)
  | .str z, .int i => guardR (z.length ≤ 16777216) ((ofO (atI z.cps.toList i)).bind fun c => .ok (.str ⟨#[c]⟩))
  | _, _ => .no
def bLen : List D → Rs D
  | [.lst ds] => .ok (.int ds.length)
  | [.tup ds] => .ok (.int ds.length)
  | [.str z] => guardR (z.length ≤ 16777216) (.ok (.int z.length))
  | _ => .no
def bMax : List D → Rs D
  | [.int i, .int j] => .ok (.int (max i j))
  | _ => .no
def bMin : List D → Rs D
  | [.int i, .int j] => .ok (.int (min i j))
  | _ => .no
def bList : List D → Rs D
  | [.lst ds] => .ok (.lst ds)
  | [.tup ds] => .ok (.lst ds)
  | _ => .no
def bTuple : List D → Rs D
  | [.lst ds] => .ok (.tup ds)
  | [.tup ds] => .ok (.tup ds)
  | _ => .no
def bInt : List D → Rs D
  | [.int i] => .ok (.int i)
  | [.bl k] => .ok (.int (if k then 1 else 0))
  | _ => .no
def isTy (t : String) : D → Bool
  | .non => false
  | .bl _ => t == "bool" || t == "int"
  | .int _ => t == "int"
  | .str _ => t == "str"
  | .lst _ => t == "list"
  | .tup _ => t == "tuple"
def tyName : D → String
  | .non => "NoneType" | .bl _ => "bool" | .int _ => "int" | .str _ => "str" | .lst _ => "list" | .tup _ => "tuple"
def bIs (ts : List String) (x : D) : Rs D := .ok (.bl (ts.any fun t => isTy t x))
def asSs : List D → Option (List Str)
  | [] => some []
  | .str b :: r => (asSs r).map (b :: ·)
  | _ => none
def dJoin (x y : D) : Rs D := match x, y with
  | .str sep, .lst ds => (ofO (asSs ds)).bind fun ys => guardR ((ys.map (·.length)).sum + ys.length * sep.length ≤ 16777216) (.ok (.str (Str.join sep ys)))
  | _, _ => .no
def met (val : Nat → Str) : Nat → List Str
  | 0 => []
  | i + 1 => if val i ∈ met val i then met val i else met val i ++ [val i]
end Mi
set_option Elab.async false
set_option linter.all false
set_option maxRecDepth 100000
set_option maxHeartbeats 4000000
namespace L2
open PySem PySem.Spec PyProof.Rows
open Mi (D depAll pyEq pyEqs)
mutual
theorem pyEq_refl : ∀ d : D, pyEq d d = true
  | .non => rfl
  | .bl b => by simp [pyEq]
  | .int i => by simp [pyEq]
  | .str x => by simp [pyEq]
  | .lst ds => by rw [pyEq]; exact pyEqs_refl ds
  | .tup ds => by rw [pyEq]; exact pyEqs_refl ds
theorem pyEqs_refl : ∀ ds : List D, pyEqs ds ds = true
  | [] => rfl
  | d :: r => by rw [pyEqs, pyEq_refl d, pyEqs_refl r]; rfl
end
theorem pyEqs_len : ∀ {ds es : List D}, ds.length ≠ es.length → pyEqs ds es = false
  | [], [], h => absurd rfl h
  | [], _ :: _, _ => rfl
  | _ :: _, [], _ => rfl
  | d :: r, e :: s, h => by rw [pyEqs, pyEqs_len (fun z => h (by rw [List.length_cons, List.length_cons, z])), Bool.and_false]
theorem pyEqs_all : ∀ {ds es : List D}, ds.length = es.length → pyEqs ds es = (List.range ds.length).all fun j => pyEq (ds.getD j .non) (es.getD j .non)
  | [], [], _ => rfl
  | [], _ :: _, h => by simp at h
  | _ :: _, [], h => by simp at h
  | d :: r, e :: s, h => by
    rw [pyEqs, pyEqs_all (by simpa using h), List.length_cons, List.range_succ_eq_map, List.all_cons, List.all_map]
    rfl
mutual
/-- the value v in the heap H is the tree d -/
def Rep (K : PySem.W.Frag) (H : Hp) : D → V → Prop
  | .non, v => v = .non
  | .bl b, v => v = .bl b
  | .int i, v => v = .int i
  | .str x, v => v = .str x
  | .lst ds, v => ∃ a xs, v = .ref a ∧ SqL K H a xs ∧ Reps K H ds xs
  | .tup ds, v => ∃ a xs, v = .ref a ∧ SqT K H a xs ∧ Reps K H ds xs
def Reps (K : PySem.W.Frag) (H : Hp) : List D → List V → Prop
  | [], vs => vs = []
  | d :: ds, vs => ∃ v r, vs = v :: r ∧ Rep K H d v ∧ Reps K H ds r
end
theorem Reps.length {K : PySem.W.Frag} {H : Hp} : ∀ {ds : List D} {vs : List V}, Reps K H ds vs → ds.length = vs.length
  | [], vs, h => by rw [Reps] at h; subst h; rfl
  | d :: ds, vs, h => by
    rw [Reps] at h
    obtain ⟨v, r, rfl, _, q⟩ := h
    rw [List.length_cons, List.length_cons, Reps.length q]
theorem Reps.get {K : PySem.W.Frag} {H : Hp} : ∀ {ds : List D} {vs : List V} {j : Nat} {v : V}, Reps K H ds vs → vs[j]? = some v → Rep K H (ds.getD j .non) v
  | [], vs, j, v, h, e => by rw [Reps] at h; subst h; simp at e
  | d :: ds, vs, 0, v, h, e => by
    rw [Reps] at h
    obtain ⟨v', r, rfl, p, q⟩ := h
    simp at e; subst e; exact p
  | d :: ds, vs, j + 1, v, h, e => by
    rw [Reps] at h
    obtain ⟨v', r, rfl, p, q⟩ := h
    have := Reps.get (j := j) (v := v) q (by simpa using e)
    simpa using this
section
variable {X : Cx} {pins : List (Addr × Obj)} {σ : St} {H : Hp} {s : Shared}
theorem Inv.list_tup (I : Inv X pins σ H s) {a : Addr} {xs ys : List V} (h : SqL X.K H a xs) (h' : SqT X.K H a ys) : False := by
  obtain ⟨its, _, p, _⟩ := I.list h
  obtain ⟨its', _, q, _⟩ := I.tuple h'
  obtain ⟨o, n, e, c, _⟩ := p
  obtain ⟨o', e', c', _⟩ := q
  rw [e] at e'; cases e'
  rw [c] at c'
  exact absurd (Value.type.inj c') (by decide)
mutual
theorem Rep.inj (I : Inv X pins σ H s) : ∀ {d e : D} {v : V}, Rep X.K H d v → Rep X.K H e v → d = e
  | .non, e, v, h, h' => by
    rw [Rep] at h; subst h
    cases e <;> rw [Rep] at h' <;> first | rfl | (obtain ⟨_, _, z, _⟩ := h'; cases z) | cases h'
  | .bl b, e, v, h, h' => by
    rw [Rep] at h; subst h
    cases e <;> rw [Rep] at h' <;> first | (obtain ⟨_, _, z, _⟩ := h'; cases z) | (cases h'; rfl) | cases h'
  | .int b, e, v, h, h' => by
    rw [Rep] at h; subst h
    cases e <;> rw [Rep] at h' <;> first | (obtain ⟨_, _, z, _⟩ := h'; cases z) | (cases h'; rfl) | cases h'
  | .str b, e, v, h, h' => by
    rw [Rep] at h; subst h
    cases e <;> rw [Rep] at h' <;> first | (obtain ⟨_, _, z, _⟩ := h'; cases z) | (cases h'; rfl) | cases h'
  | .lst ds, e, v, h, h' => by
    rw [Rep] at h
    obtain ⟨a, xs, rfl, q, r⟩ := h
    cases e with
    | lst es =>
      rw [Rep] at h'
      obtain ⟨a', xs', z, q', r'⟩ := h'
      cases z
      rw [I.list_inj q' q] at r'
      rw [Reps.inj I r r']
    | tup es =>
      rw [Rep] at h'
      obtain ⟨a', xs', z, q', r'⟩ := h'
      cases z
      exact (I.list_tup q q').elim
    | _ => rw [Rep] at h'; cases h'
  | .tup ds, e, v, h, h' => by
    rw [Rep] at h
    obtain ⟨a, xs, rfl, q, r⟩ := h
    cases e with
    | tup es =>
      rw [Rep] at h'
      obtain ⟨a', xs', z, q', r'⟩ := h'
      cases z
      rw [I.tuple_inj q' q] at r'
      rw [Reps.inj I r r']
    | lst es =>
      rw [Rep] at h'
      obtain ⟨a', xs', z, q', r'⟩ := h'
      cases z
      exact (I.list_tup q' q).elim
    | _ => rw [Rep] at h'; cases h'
theorem Reps.inj (I : Inv X pins σ H s) : ∀ {ds es : List D} {vs : List V}, Reps X.K H ds vs → Reps X.K H es vs → ds = es
  | [], es, vs, h, h' => by
    rw [Reps] at h; subst h
    cases es with
    | nil => rfl
    | cons e es => rw [Reps] at h'; obtain ⟨_, _, z, _⟩ := h'; cases z
  | d :: ds, es, vs, h, h' => by
    rw [Reps] at h
    obtain ⟨v, r, rfl, p, q⟩ := h
    cases es with
    | nil => rw [Reps] at h'; cases h'
    | cons e es =>
      rw [Reps] at h'
      obtain ⟨v', r', z, p', q'⟩ := h'
      cases z
      rw [Rep.inj I p p', Reps.inj I q q']
end
theorem depAll_le : ∀ {ds : List D} {j : Nat}, (ds.getD j .non).dep ≤ depAll ds
  | [], j => by simp [D.dep]
  | d :: ds, 0 => by simp [depAll]; omega
  | d :: ds, j + 1 => by
    have := depAll_le (ds := ds) (j := j)
    have e : (d :: ds).getD (j + 1) .non = ds.getD j .non := by simp
    rw [e, depAll]; omega
def _root_.Mi.D.flat : D → Bool
  | .lst _ => false
  | .tup _ => false
  | _ => true
def _root_.Mi.D.toV : D → V
  | .non => .non | .bl b => .bl b | .int i => .int i | .str x => .str x | .lst _ => .non | .tup _ => .non
theorem Rep.flat {K : PySem.W.Frag} : ∀ {d : D} {v : V}, d.flat = true → Rep K H d v → v = d.toV ∧ flatV v = true
  | .non, v, _, h => by rw [Rep] at h; subst h; exact ⟨rfl, rfl⟩
  | .bl b, v, _, h => by rw [Rep] at h; subst h; exact ⟨rfl, rfl⟩
  | .int b, v, _, h => by rw [Rep] at h; subst h; exact ⟨rfl, rfl⟩
  | .str b, v, _, h => by rw [Rep] at h; subst h; exact ⟨rfl, rfl⟩
  | .lst _, v, z, h => by cases z
  | .tup _, v, z, h => by cases z
theorem pyEq_flat : ∀ {d e : D}, d.flat = true → e.flat = true → pyEq d e = eqV d.toV e.toV := by
  intro d e h1 h2
  cases d <;> cases e <;> first | rfl | exact absurd (show false = true from h1) Bool.false_ne_true | exact absurd (show false = true from h2) Bool.false_ne_true
open SeqAt in
theorem eqAt_D (I : Inv X pins σ H s) : ∀ (n : Nat) (d e : D) (A : Around) {x y : V} {u u' : Value}, d.dep ≤ n → A.units + n < cLine → Rep X.K H d x → Rep X.K H e y → RelV x u → RelV y u' → EqAt A s u u' (pyEq d e) := by
  intro n
  induction n using Nat.strongRecOn with
  | ind n ih =>
    intro d e A x y u u' hd hu h h' r r'
    have hu0 : A.units < cLine := by omega
    by_cases hdf : d.flat = true
    · obtain ⟨ex, fx⟩ := h.flat hdf
      subst ex
      by_cases hef : e.flat = true
      · obtain ⟨ey, fy⟩ := h'.flat hef
        subst ey
        rw [pyEq_flat hdf hef]
        exact eqAt_V r r' fx fy
      · cases e with
        | lst es =>
          rw [Rep] at h'
          obtain ⟨a, xs, rfl, q, _⟩ := h'
          cases r'
          obtain ⟨its, _, p, _⟩ := I.list q
          cases d with
          | non => cases r; exact EqAt.none_list p.isList hu0
          | bl b => cases r; exact EqAt.bool_list b p.isList hu0
          | int b => obtain ⟨t, rfl⟩ := r; exact EqAt.int_list b t p.isList hu0
          | str b => obtain ⟨t, rfl⟩ := r; exact EqAt.str_list b t p.isList hu0
          | _ => cases hdf
        | tup es =>
          rw [Rep] at h'
          obtain ⟨a, xs, rfl, q, _⟩ := h'
          cases r'
          obtain ⟨its, _, p, _⟩ := I.tuple q
          cases d with
          | non => cases r; exact EqAt.none_tuple p hu0
          | bl b => cases r; exact EqAt.bool_tuple b p hu0
          | int b => obtain ⟨t, rfl⟩ := r; exact EqAt.int_tuple b t p hu0
          | str b => obtain ⟨t, rfl⟩ := r; exact EqAt.str_tuple b t p hu0
          | _ => cases hdf
        | _ => exact absurd rfl hef
    · by_cases hef : e.flat = true
      · obtain ⟨ey, fy⟩ := h'.flat hef
        subst ey
        cases d with
        | lst ds =>
          rw [Rep] at h
          obtain ⟨a, xs, rfl, q, _⟩ := h
          cases r
          obtain ⟨its, _, p, _⟩ := I.list q
          cases e with
          | non => cases r'; exact EqAt.list_none p.isList hu0
          | bl b => cases r'; exact EqAt.list_bool b p.isList hu0
          | int b => obtain ⟨t, rfl⟩ := r'; exact EqAt.list_int b t p.isList hu0
          | str b => obtain ⟨t, rfl⟩ := r'; exact EqAt.list_str b t p.isList hu0
          | _ => cases hef
        | tup ds =>
          rw [Rep] at h
          obtain ⟨a, xs, rfl, q, _⟩ := h
          cases r
          obtain ⟨its, _, p, _⟩ := I.tuple q
          cases e with
          | non => cases r'; exact EqAt.tuple_none p hu0
          | bl b => cases r'; exact EqAt.tuple_bool b p hu0
          | int b => obtain ⟨t, rfl⟩ := r'; exact EqAt.tuple_int b t p hu0
          | str b => obtain ⟨t, rfl⟩ := r'; exact EqAt.tuple_str b t p hu0
          | _ => cases hef
        | _ => exact absurd rfl hdf
      · -- both are lists or tuples
        have item : ∀ {ds es : List D} {xs ys : List V} {its its' : List Value}, depAll ds + 1 ≤ n → Reps X.K H ds xs → Reps X.K H es ys → Vals xs its → Vals ys its' →
            ∀ j (h1 : j < its.toArray.size) (h2 : j < its'.toArray.size), EqAt A.in1 s its.toArray[j] its'.toArray[j] (pyEq (ds.getD j .non) (es.getD j .non)) := by
          intro ds es xs ys its its' hn q q' v v' j h1 h2
          have h1' : j < its.length := by simpa using h1
          have h2' : j < its'.length := by simpa using h2
          have e1 : j < xs.length := by rw [v.length]; exact h1'
          have e2 : j < ys.length := by rw [v'.length]; exact h2'
          have g1 : xs[j]? = some xs[j] := by simp [e1]
          have g2 : ys[j]? = some ys[j] := by simp [e2]
          obtain ⟨w1, k1, r1⟩ := v.get g1
          obtain ⟨w2, k2, r2⟩ := v'.get g2
          have t1 : its.toArray[j] = w1 := by obtain ⟨_, k1⟩ := List.getElem?_eq_some_iff.mp k1; simpa using k1
          have t2 : its'.toArray[j] = w2 := by obtain ⟨_, k2⟩ := List.getElem?_eq_some_iff.mp k2; simpa using k2
          rw [t1, t2]
          have := depAll_le (ds := ds) (j := j)
          refine ih (n - 1) (by omega) _ _ A.in1 (by omega) ?_ (q.get g1) (q'.get g2) r1 r2
          show A.units + 1 + (n - 1) < cLine
          omega
        cases d with
        | lst ds =>
          rw [Rep] at h
          obtain ⟨a, xs, rfl, q, rr⟩ := h
          cases r
          obtain ⟨its, v, p, _⟩ := I.list q
          have hn : depAll ds + 1 ≤ n := by simpa [D.dep] using hd
          cases e with
          | lst es =>
            rw [Rep] at h'
            obtain ⟨b, ys, rfl, q', rr'⟩ := h'
            cases r'
            obtain ⟨its', v', p', _⟩ := I.list q'
            by_cases hab : a = b
            · subst hab
              rw [I.list_inj q' q] at rr'
              rw [Reps.inj I rr rr', pyEq_refl]
              exact EqAt.same _
            · have l1 := rr.length
              have l2 := rr'.length
              have l3 := v.length
              have l4 := v'.length
              by_cases hl : ds.length = es.length
              · rw [pyEq, pyEqs_all hl]
                have := RcAt.lists p.isList p'.isList (by simp; omega) hu0 (item hn rr rr' v v')
                have e : its.toArray.size = ds.length := by simp; omega
                rw [e] at this
                exact .of_refs hab this
              · rw [pyEq, pyEqs_len hl]
                exact .of_refs hab (RcAt.lists_lengths p.isList p'.isList (by simp; omega) hu0)
          | tup es =>
            rw [Rep] at h'
            obtain ⟨b, ys, rfl, q', _⟩ := h'
            cases r'
            obtain ⟨its', _, p', _⟩ := I.tuple q'
            exact EqAt.list_tuple p.isList p' hu0
          | _ => exact absurd rfl hef
        | tup ds =>
          rw [Rep] at h
          obtain ⟨a, xs, rfl, q, rr⟩ := h
          cases r
          obtain ⟨its, v, p, _⟩ := I.tuple q
          have hn : depAll ds + 1 ≤ n := by simpa [D.dep] using hd
          cases e with
          | tup es =>
            rw [Rep] at h'
            obtain ⟨b, ys, rfl, q', rr'⟩ := h'
            cases r'
            obtain ⟨its', v', p', _⟩ := I.tuple q'
            by_cases hab : a = b
            · subst hab
              rw [I.tuple_inj q' q] at rr'
              rw [Reps.inj I rr rr', pyEq_refl]
              exact EqAt.same _
            · have l1 := rr.length
              have l2 := rr'.length
              have l3 := v.length
              have l4 := v'.length
              have R := RcAt.tuples p p' hu0 (item hn rr rr' v v')
              have e1 : its.toArray.size = ds.length := by simp; omega
              have e2 : its'.toArray.size = es.length := by simp; omega
              rw [e1, e2] at R
              by_cases hl : ds.length = es.length
              · rw [pyEq, pyEqs_all hl]
                rw [hl, Nat.min_self, beq_self_eq_true, Bool.and_true, ← hl] at R
                exact .of_refs hab R
              · rw [pyEq, pyEqs_len hl]
                have : (ds.length == es.length) = false := by simpa using hl
                rw [this, Bool.and_false] at R
                exact .of_refs hab R
          | lst es =>
            rw [Rep] at h'
            obtain ⟨b, ys, rfl, q', _⟩ := h'
            cases r'
            obtain ⟨its', _, p', _⟩ := I.list q'
            exact EqAt.tuple_list p p'.isList hu0
          | _ => exact absurd rfl hef
        | _ => exact absurd rfl hdf
def rInD (K : PySem.W.Frag) (neg : Bool) : R2 := fun x y H Q => ∃ (p : Addr) (xs : List V) (d : D) (ds : List D), y = .ref p ∧ (SqL K H p xs ∨ SqT K H p xs) ∧ Rep K H d x ∧ Reps K H ds xs ∧ depAll ds ≤ 16 ∧
  Q (.bl (if neg then !ds.any (fun e => pyEq e d) else ds.any (fun e => pyEq e d))) H
theorem Reps.main {K : PySem.W.Frag} : ∀ {ds : List D} {xs : List V} {us : List Value}, Reps K H ds xs → Vals xs us → ∀ u ∈ us, ∃ b ∈ ds, ∃ y, Rep K H b y ∧ RelV y u
  | [], xs, us, hr, hv, u, hu => by
    rw [Reps] at hr; subst hr; cases hv; cases hu
  | b :: bs, xs, us, hr, hv, u, hu => by
    rw [Reps] at hr
    obtain ⟨y, r, rfl, p, q⟩ := hr
    cases hv with
    | cons ry t =>
      rcases List.mem_cons.mp hu with rfl | hu
      · exact ⟨b, List.mem_cons_self, _, p, ry⟩
      · obtain ⟨b', hb', w⟩ := Reps.main q t u hu
        exact ⟨b', List.mem_cons_of_mem _ hb', w⟩
theorem Reps.any {K : PySem.W.Frag} {e : Value → Bool} {f : D → Bool} (key : ∀ b y u, Rep K H b y → RelV y u → e u = f b) : ∀ {ds : List D} {xs : List V} {us : List Value}, Reps K H ds xs → Vals xs us → us.any e = ds.any f
  | [], xs, us, hr, hv => by
    rw [Reps] at hr; subst hr; cases hv; rfl
  | b :: bs, xs, us, hr, hv => by
    rw [Reps] at hr
    obtain ⟨y, r, rfl, p, q⟩ := hr
    cases hv with
    | cons ry t => rw [List.any_cons, List.any_cons, key b y _ p ry, Reps.any key q t]
theorem dep_mem : ∀ {ds : List D} {b : D}, b ∈ ds → b.dep ≤ depAll ds
  | d :: ds, b, h => by
    rw [depAll]
    rcases List.mem_cons.mp h with rfl | h
    · omega
    · have := dep_mem h; omega
open Classical in
theorem mem_eqD (I : Inv X pins σ H s) {A : Around} (hu : A.units + 16 < cLine) {d : D} {x : V} {v : Value} (hx : Rep X.K H d x) (rx : RelV x v) {ds : List D} {xs : List V} {us : List Value} (hd : depAll ds ≤ 16) (hr : Reps X.K H ds xs) (hv : Vals xs us) :
    ∃ e : Value → Bool, (∀ u ∈ us, SeqAt.EqAt A s u v (e u)) ∧ us.any e = ds.any (fun b => pyEq b d) := by
  have key : ∀ b y u, Rep X.K H b y → RelV y u → (fun u => decide (∃ b y, Rep X.K H b y ∧ RelV y u ∧ pyEq b d = true)) u = pyEq b d := by
    intro b y u hb hy
    cases hp : pyEq b d with
    | true => exact decide_eq_true ⟨b, y, hb, hy, hp⟩
    | false =>
      refine decide_eq_false ?_
      rintro ⟨b', y', hb', hy', hp'⟩
      have := hy.inj hy'
      subst this
      rw [Rep.inj I hb hb', hp'] at hp
      cases hp
  refine ⟨fun u => decide (∃ b y, Rep X.K H b y ∧ RelV y u ∧ pyEq b d = true), fun u hu' => ?_, Reps.any key hr hv⟩
  obtain ⟨b, hb, y, rb, ry⟩ := Reps.main hr hv u hu'
  rw [key b y u rb ry]
  exact eqAt_D I 16 b d A (Nat.le_trans (dep_mem hb) hd) hu rb hx ry rx
theorem op_inD (hu : X.A.units + 64 < cLine) : OpR X (compareOp .In) (rInD X.K false) := by
  intro pins s σ H x y v u Q I rx ry h
  obtain ⟨p, xs, d, ds, rfl, hq, hx, hr, hd, q⟩ := h
  cases ry
  have hu1 : X.A.in1.units + 16 < cLine := by show X.A.units + 1 + 16 < cLine; omega
  rcases hq with hq | hq
  · obtain ⟨its, r, pl, hz⟩ := I.list hq
    obtain ⟨e, he, ea⟩ := mem_eqD I hu1 hx rx hd hr r
    refine SeqAt.in_listAt e pl.isList (fun w hw => he w (by simpa using hw)) ⟨.bl _, H, I, rfl, ?_⟩
    rw [show its.toArray.any e = its.any e by simp, ea]
    exact q
  · obtain ⟨its, r, pl, hz⟩ := I.tuple hq
    obtain ⟨e, he, ea⟩ := mem_eqD I hu1 hx rx hd hr r
    refine SeqAt.in_tupleAt e pl (fun w hw => he w (by simpa using hw)) ⟨.bl _, H, I, rfl, ?_⟩
    rw [show its.toArray.any e = its.any e by simp, ea]
    exact q
theorem op_notInD (hu : X.A.units + 64 < cLine) : OpR X (compareOp .NotIn) (rInD X.K true) := by
  intro pins s σ H x y v u Q I rx ry h
  obtain ⟨p, xs, d, ds, rfl, hq, hx, hr, hd, q⟩ := h
  cases ry
  have hu1 : X.A.in1.units + 16 < cLine := by show X.A.units + 1 + 16 < cLine; omega
  rcases hq with hq | hq
  · obtain ⟨its, r, pl, hz⟩ := I.list hq
    obtain ⟨e, he, ea⟩ := mem_eqD I hu1 hx rx hd hr r
    refine SeqAt.notIn_listAt e pl.isList (fun w hw => he w (by simpa using hw)) ⟨.bl _, H, I, rfl, ?_⟩
    rw [show its.toArray.any e = its.any e by simp, ea]
    exact q
  · obtain ⟨its, r, pl, hz⟩ := I.tuple hq
    obtain ⟨e, he, ea⟩ := mem_eqD I hu1 hx rx hd hr r
    refine SeqAt.notIn_tupleAt e pl (fun w hw => he w (by simpa using hw)) ⟨.bl _, H, I, rfl, ?_⟩
    rw [show its.toArray.any e = its.any e by simp, ea]
    exact q
end
end L2
set_option Elab.async false
set_option linter.all false
set_option maxRecDepth 100000
set_option maxHeartbeats 4000000
namespace L2
open PySem PySem.Spec PyProof.Rows
theorem same_new {H : Hp} {p : Addr} {o : HO} (hp : H p = none) : Same H (upd H p o) := fun b u e => by rw [upd_ne (ne_of_none e hp)]; exact e
theorem strsAre_of : ∀ {ys : List Str} {us : List Value}, Vals (ys.map V.str) us → StrsAre us ys
  | [], _, .nil => .nil
  | y :: ys, _, .cons r t => by
    obtain ⟨tk, rfl⟩ := (show ∃ tk, _ = Value.str y tk from r)
    exact .cons y tk (strsAre_of t)
section
variable {X : Cx}
def rJoin (K : PySem.W.Frag) : V → List V → Hp → VK → Prop := fun x vs H Q => ∃ (sep : Str) (p : Addr) (ys : List Str), x = .str sep ∧ vs = [.ref p] ∧ SqL K H p (ys.map V.str) ∧ (ys.map (·.length)).sum + ys.length * sep.length ≤ 16777216 ∧ Q (.str (Str.join sep ys)) H
theorem mt_join : MtR X "str.join" (rJoin X.K) := by
  intro pins s σ H x vs v us Q I rx rv h
  obtain ⟨sep, p, ys, rfl, rfl, hq, hz, q⟩ := h
  obtain ⟨t, rfl⟩ := rx
  obtain ⟨u, rfl, ru⟩ := rv.one
  cases ru
  obtain ⟨its, r, pl, _⟩ := I.list hq
  refine join_list pl.isList (by simpa using strsAre_of r) hz fun t' k => ⟨.str (Str.join sep ys), H, I.tok k, ⟨t', ?_⟩, q⟩
  show Value.str (Builtin.Str.glued sep ys) t' = _
  rw [StrLaws.glued_eq_join]
def CDivB (i j : Int) : Prop := 0 < j ∧ j.natAbs.log2 < 9000
theorem op_fdivB : OpR X (binaryOp .FloorDiv) (rI CDivB fun i j => .int (i / j)) := opI fun i j _ _ _ _ _ hc q => by
  refine floordiv_int (by have := hc.1; omega) ?_ (.inl (PyProof.noPylong_of_log2 hc.2))
  rw [Int.fdiv_eq_ediv_of_nonneg i (by have := hc.1; omega)]
  exact q
theorem callE_max2 (hc : X.calm = true) : CallR X (.builtin "max") (fun xs H Q => ∃ i j z, xs = [.int i, .int j] ∧ max i j = z ∧ Q (.int z) H) := by
  intro pins s σ H xs us Q I r ⟨i, j, z, e1, e2, q⟩
  subst e2
  refine call_max2 hc pins s σ H xs us Q I r ⟨i, j, e1, ?_⟩
  rw [show (if j > i then j else i) = max i j by split <;> omega]
  exact q
theorem callE_min2 (hc : X.calm = true) : CallR X (.builtin "min") (fun xs H Q => ∃ i j z, xs = [.int i, .int j] ∧ min i j = z ∧ Q (.int z) H) := by
  intro pins s σ H xs us Q I r ⟨i, j, z, e1, e2, q⟩
  subst e2
  refine call_min2 hc pins s σ H xs us Q I r ⟨i, j, e1, ?_⟩
  rw [show (if j < i then j else i) = min i j by split <;> omega]
  exact q
end
end L2
set_option Elab.async false
set_option linter.all false
set_option maxRecDepth 100000
set_option maxHeartbeats 4000000
namespace A
open PySem L2 PyProof.Rows
open Mi (D W Rs Fin fin_bind)
inductive P2 {α β : Type} (F : α → β → Prop) : List α → List β → Prop
  | nil : P2 F [] []
  | cons {a b l m} : F a b → P2 F l m → P2 F (a :: l) (b :: m)
section
variable {α β : Type} {F G : α → β → Prop}
theorem P2.imp (h : ∀ a b, F a b → G a b) : ∀ {l m}, P2 F l m → P2 G l m
  | _, _, .nil => .nil
  | _, _, .cons x t => .cons (h _ _ x) (t.imp h)
theorem P2.len : ∀ {l m}, P2 F l m → l.length = m.length
  | _, _, .nil => rfl
  | _, _, .cons _ t => by rw [List.length_cons, List.length_cons, t.len]
theorem P2.append : ∀ {l m l' m'}, P2 F l m → P2 F l' m' → P2 F (l ++ l') (m ++ m')
  | _, _, _, _, .nil, s => s
  | _, _, _, _, .cons x t, s => .cons x (t.append s)
theorem P2.get : ∀ {l m} {i : Nat} {a b}, P2 F l m → l[i]? = some a → m[i]? = some b → F a b
  | _, _, _, _, _, .nil, e, _ => by simp at e
  | _, _, 0, _, _, .cons x _, e, e' => by simp at e e'; subst e e'; exact x
  | _, _, i + 1, a, b, .cons _ t, e, e' => t.get (i := i) (by simpa using e) (by simpa using e')
theorem P2.getL {l m} {i : Nat} {a} (t : P2 F l m) (e : l[i]? = some a) : ∃ b, m[i]? = some b ∧ F a b := by
  have h : i < m.length := by rw [← t.len]; exact (List.getElem?_eq_some_iff.mp e).1
  exact ⟨m[i], by simp [h], t.get e (by simp [h])⟩
theorem P2.getR {l m} {i : Nat} {b} (t : P2 F l m) (e : m[i]? = some b) : ∃ a, l[i]? = some a ∧ F a b := by
  have h : i < l.length := by rw [t.len]; exact (List.getElem?_eq_some_iff.mp e).1
  exact ⟨l[i], by simp [h], t.get (by simp [h]) e⟩
theorem P2.take : ∀ {l m} (n : Nat), P2 F l m → P2 F (l.take n) (m.take n)
  | _, _, 0, _ => .nil
  | _, _, _ + 1, .nil => .nil
  | _, _, n + 1, .cons x t => .cons x (t.take n)
theorem P2.drop : ∀ {l m} (n : Nat), P2 F l m → P2 F (l.drop n) (m.drop n)
  | _, _, 0, t => t
  | _, _, _ + 1, .nil => .nil
  | _, _, n + 1, .cons _ t => t.drop n
theorem P2.erase : ∀ {l m} (n : Nat), P2 F l m → P2 F (l.eraseIdx n) (m.eraseIdx n)
  | _, _, _, .nil => .nil
  | _, _, 0, .cons _ t => t
  | _, _, n + 1, .cons x t => .cons x (t.erase n)
end
def Lst (H : Hp) (a : Addr) (xs : List V) : Prop := H a = some (.lst xs) ∨ ∃ o, H a = some (.frz o (.lst xs))
mutual
def Rep (H : Hp) : D → V → Prop
  | .non, v => v = .non
  | .bl b, v => v = .bl b
  | .int i, v => v = .int i
  | .str x, v => v = .str x
  | .lst ds, v => ∃ a xs, v = .ref a ∧ Lst H a xs ∧ Reps H ds xs
  | .tup ds, v => ∃ a xs, v = .ref a ∧ H a = some (.tup xs) ∧ Reps H ds xs
def Reps (H : Hp) : List D → List V → Prop
  | [], vs => vs = []
  | d :: ds, vs => ∃ v r, vs = v :: r ∧ Rep H d v ∧ Reps H ds r
end
theorem reps_iff {H : Hp} : ∀ {ds : List D} {vs : List V}, Reps H ds vs ↔ P2 (Rep H) ds vs
  | [], vs => by
    rw [Reps]
    exact ⟨fun h => by subst h; exact .nil, fun h => by cases h; rfl⟩
  | d :: ds, vs => by
    rw [Reps]
    constructor
    · rintro ⟨v, r, rfl, p, q⟩
      exact .cons p (reps_iff.mp q)
    · intro h
      cases h with
      | cons p q => exact ⟨_, _, rfl, p, reps_iff.mpr q⟩
@[simp] theorem rep_non {H : Hp} {v : V} : Rep H .non v ↔ v = .non := by rw [Rep]
@[simp] theorem rep_bl {H : Hp} {v : V} {b : Bool} : Rep H (.bl b) v ↔ v = .bl b := by rw [Rep]
@[simp] theorem rep_int {H : Hp} {v : V} {b : Int} : Rep H (.int b) v ↔ v = .int b := by rw [Rep]
@[simp] theorem rep_str {H : Hp} {v : V} {b : Str} : Rep H (.str b) v ↔ v = .str b := by rw [Rep]
theorem rep_lst {H : Hp} {v : V} {ds : List D} : Rep H (.lst ds) v ↔ ∃ a xs, v = .ref a ∧ Lst H a xs ∧ P2 (Rep H) ds xs := by
  rw [Rep]; exact ⟨fun ⟨a, xs, e, l, r⟩ => ⟨a, xs, e, l, reps_iff.mp r⟩, fun ⟨a, xs, e, l, r⟩ => ⟨a, xs, e, l, reps_iff.mpr r⟩⟩
theorem rep_tup {H : Hp} {v : V} {ds : List D} : Rep H (.tup ds) v ↔ ∃ a xs, v = .ref a ∧ H a = some (.tup xs) ∧ P2 (Rep H) ds xs := by
  rw [Rep]; exact ⟨fun ⟨a, xs, e, l, r⟩ => ⟨a, xs, e, l, reps_iff.mp r⟩, fun ⟨a, xs, e, l, r⟩ => ⟨a, xs, e, l, reps_iff.mpr r⟩⟩
theorem Lst.same {H H' : Hp} {a : Addr} {xs : List V} (s : Same H H') (h : Lst H a xs) : Lst H' a xs := by
  rcases h with h | ⟨o, h⟩
  · exact .inl (s _ _ h)
  · exact .inr ⟨o, s _ _ h⟩
theorem Lst.sq {K : PySem.W.Frag} {H : Hp} {a : Addr} {xs : List V} (h : Lst H a xs) : SqL K H a xs := .inl h
mutual
theorem rep_same {H H' : Hp} (s : Same H H') : ∀ {d : D} {v : V}, Rep H d v → Rep H' d v
  | .non, v, h => by rw [Rep] at h ⊢; exact h
  | .bl b, v, h => by rw [Rep] at h ⊢; exact h
  | .int i, v, h => by rw [Rep] at h ⊢; exact h
  | .str x, v, h => by rw [Rep] at h ⊢; exact h
  | .lst ds, v, h => by
    rw [Rep] at h ⊢
    obtain ⟨a, xs, e, q, r⟩ := h
    exact ⟨a, xs, e, q.same s, reps_same s r⟩
  | .tup ds, v, h => by
    rw [Rep] at h ⊢
    obtain ⟨a, xs, e, q, r⟩ := h
    exact ⟨a, xs, e, s _ _ q, reps_same s r⟩
theorem reps_same {H H' : Hp} (s : Same H H') : ∀ {ds : List D} {vs : List V}, Reps H ds vs → Reps H' ds vs
  | [], vs, h => by rw [Reps] at h ⊢; exact h
  | d :: ds, vs, h => by
    rw [Reps] at h ⊢
    obtain ⟨v, r, e, p, q⟩ := h
    exact ⟨v, r, e, rep_same s p, reps_same s q⟩
end
theorem p2_same {H H' : Hp} (s : Same H H') {ds : List D} {vs : List V} (h : P2 (Rep H) ds vs) : P2 (Rep H') ds vs := h.imp fun _ _ => rep_same s
mutual
theorem rep_up (K : PySem.W.Frag) {H : Hp} : ∀ {d : D} {v : V}, Rep H d v → L2.Rep K H d v
  | .non, v, h => by rw [Rep] at h; rw [L2.Rep]; exact h
  | .bl b, v, h => by rw [Rep] at h; rw [L2.Rep]; exact h
  | .int i, v, h => by rw [Rep] at h; rw [L2.Rep]; exact h
  | .str x, v, h => by rw [Rep] at h; rw [L2.Rep]; exact h
  | .lst ds, v, h => by
    rw [Rep] at h
    rw [L2.Rep]
    obtain ⟨a, xs, e, q, r⟩ := h
    exact ⟨a, xs, e, q.sq, reps_up K r⟩
  | .tup ds, v, h => by
    rw [Rep] at h
    rw [L2.Rep]
    obtain ⟨a, xs, e, q, r⟩ := h
    exact ⟨a, xs, e, .inl (.inl q), reps_up K r⟩
theorem reps_up (K : PySem.W.Frag) {H : Hp} : ∀ {ds : List D} {vs : List V}, Reps H ds vs → L2.Reps K H ds vs
  | [], vs, h => by rw [Reps] at h; rw [L2.Reps]; exact h
  | d :: ds, vs, h => by
    rw [Reps] at h
    rw [L2.Reps]
    obtain ⟨v, r, e, p, q⟩ := h
    exact ⟨v, r, e, rep_up K p, reps_up K q⟩
end
def NT : HO → Prop
  | .tbl _ _ => False
  | _ => True
structure Old (H H' : Hp) : Prop where
  nt : ∀ a o, H a = some o → NT o → H' a = some o
  dom : ∀ a, H' a = none → H a = none
  tb : ∀ a w ps, H a = some (.tbl w ps) → ∃ ps', H' a = some (.tbl w ps')
theorem Old.at {H H' : Hp} (s : Old H H') {a : Addr} {o : HO} (q : H a = some o) (n : NT o := by trivial) : H' a = some o := s.nt a o q n
theorem Old.free {H H' : Hp} (s : Old H H') {a : Addr} (h : H' a = none) : H a = none := s.dom a h
theorem Old.refl (H : Hp) : Old H H := ⟨fun _ _ e _ => e, fun _ e => e, fun _ _ ps e => ⟨ps, e⟩⟩
theorem Old.trans {H H1 H2 : Hp} (a : Old H H1) (b : Old H1 H2) : Old H H2 := ⟨fun x o e n => b.nt x o (a.nt x o e n) n, fun x e => a.dom x (b.dom x e), fun x w ps e => let ⟨p1, e1⟩ := a.tb x w ps e; b.tb x w p1 e1⟩
theorem Old.of {H H' : Hp} (s : Same H H') : Old H H' := ⟨fun a o e _ => s a o e, fun a e => s.free e, fun a w ps e => ⟨ps, s a _ e⟩⟩
theorem Old.tab {H H' : Hp} (s : Old H H') {a : Addr} {w : Str} {ps : Array Value} {o : HO} (q : H a = some (.tbl w ps)) (n : NT o) : ¬ H' a = some o := fun e => by
  obtain ⟨p, z⟩ := s.tb a w ps q
  rw [e] at z; cases z; exact n
theorem Old.put {H0 H : Hp} (s : Old H0 H) {p : Addr} {o u : HO} (h0 : H0 p = none) (h : H p = some u) : Old H0 (upd H p o) :=
  ⟨fun a v e n => by rw [upd_ne (ne_of_none e h0)]; exact s.nt a v e n, fun a e => by
    by_cases hp : a = p
    · subst hp; exact h0
    · rw [upd_ne hp] at e; exact s.dom a e, fun a w ps e => by rw [upd_ne (ne_of_none e h0)]; exact s.tb a w ps e⟩
def codeX (c : Addr) (q : Str) : Heap → Prop := fun h => ∃ o vs t, h.get? c = some o ∧ o.data = .fields vs ∧ vs[1]? = some (.str q t)
class Tabs where
  l : List (Addr × Str)
  cl : String → Addr
variable [Tb : Tabs]
structure CodeOk (H : Hp) : Prop where
  has : ∀ p ∈ Tb.l, ∃ ps, H p.1 = some (.tbl p.2 ps)
  cd : ∀ T q ps, H T = some (.tbl q ps) → TriplesOk ps.toList ∧ ∀ pos v, codeAmong pos ps.toList = some v → ∃ c, v = .ref c ∧ H c = some (.ext (codeX c q))
theorem CodeOk.new {H : Hp} (k : CodeOk H) {p : Addr} {o : HO} (h : H p = none) (n : NT o) : CodeOk (upd H p o) := ⟨fun r hr => let ⟨ps, e⟩ := k.has r hr; ⟨ps, by rw [upd_ne (ne_of_none e h)]; exact e⟩, fun T q ps e => by
  by_cases hp : T = p
  · subst hp; rw [upd_same] at e; cases e; exact n.elim
  · rw [upd_ne hp] at e
    obtain ⟨t, r⟩ := k.cd T q ps e
    refine ⟨t, fun pos v z => ?_⟩
    obtain ⟨c, e1, e2⟩ := r pos v z
    exact ⟨c, e1, by rw [upd_ne (ne_of_none e2 h)]; exact e2⟩⟩
def Cell : HO → Prop
  | .lst _ => True
  | .dK _ => True
  | .dT _ => True
  | .ext _ => True
  | _ => False
theorem Cell.nt : ∀ {o : HO}, Cell o → NT o := fun {o} c => by cases o <;> first | exact c.elim | trivial
def Cell1 : HO → Prop
  | .lst _ => True
  | .dK _ => True
  | .dT _ => True
  | _ => False
theorem Cell1.cell : ∀ {o : HO}, Cell1 o → Cell o := fun {o} c => by cases o <;> first | exact c.elim | trivial
theorem CodeOk.put {H : Hp} (k : CodeOk H) {p : Addr} {o u : HO} (h : H p = some u) (c : Cell1 u) (n : NT o) : CodeOk (upd H p o) := ⟨fun r hr => let ⟨ps, e⟩ := k.has r hr; ⟨ps, by rw [upd_ne (fun y => by rw [y, h] at e; cases e; exact c.elim)]; exact e⟩, fun T q ps e => by
  by_cases hp : T = p
  · subst hp; rw [upd_same] at e; cases e; exact n.elim
  · rw [upd_ne hp] at e
    obtain ⟨t, r⟩ := k.cd T q ps e
    refine ⟨t, fun pos v z => ?_⟩
    obtain ⟨x, e1, e2⟩ := r pos v z
    refine ⟨x, e1, ?_⟩
    rw [upd_ne (fun y => by subst y; rw [h] at e2; cases e2; exact c.elim)]; exact e2⟩
structure Vw (H Hv : Hp) : Prop where
  sub : Same Hv H
  tup : ∀ a xs, H a = some (.tup xs) → Hv a = some (.tup xs)
  frz : ∀ a o u, H a = some (.frz o u) → Hv a = some (.frz o u)
  cd : CodeOk H
  nv : ∀ a o, Hv a = some o → NT o
structure Grow (H Hv H' Hv' : Hp) : Prop where
  old : Old H H'
  vis : Same Hv Hv'
  vw : Vw H' Hv'
  hid : ∀ a o, H a = some o → Hv a = none → Hv' a = none
theorem Grow.refl {H Hv : Hp} (v : Vw H Hv) : Grow H Hv H Hv := ⟨Old.refl _, Same.refl _, v, fun _ _ _ e => e⟩
theorem Old.some {H H' : Hp} (s : Old H H') {a : Addr} {o : HO} (q : H a = some o) : ∃ o', H' a = some o' := by
  cases h : H' a with
  | none => rw [s.dom a h] at q; cases q
  | some o' => exact ⟨o', rfl⟩
theorem Grow.trans {H Hv H1 Hv1 H2 Hv2 : Hp} (g : Grow H Hv H1 Hv1) (k : Grow H1 Hv1 H2 Hv2) : Grow H Hv H2 Hv2 :=
  ⟨g.old.trans k.old, g.vis.trans k.vis, k.vw, fun a o e n => let ⟨o', e'⟩ := g.old.some e; k.hid a o' e' (g.hid a o e n)⟩
theorem vis_none {H Hv : Hp} (v : Vw H Hv) {p : Addr} (h : H p = none) : Hv p = none := v.sub.free h
theorem Grow.new {H Hv : Hp} (v : Vw H Hv) {p : Addr} {o : HO} (h : H p = none) (nt : NT o := by trivial) : Grow H Hv (upd H p o) (upd Hv p o) := by
  refine ⟨.of (same_new h), same_new (vis_none v h), ⟨fun b u e => ?_, fun b xs e => ?_, fun b q u e => ?_, v.cd.new h nt, fun b u e => ?_⟩, fun b u e n => ?_⟩
  · by_cases hb : b = p
    · subst hb; rw [upd_same] at e ⊢; exact e
    · rw [upd_ne hb] at e ⊢; exact v.sub b u e
  · by_cases hb : b = p
    · subst hb; rw [upd_same] at e ⊢; exact e
    · rw [upd_ne hb] at e ⊢; exact v.tup b xs e
  · by_cases hb : b = p
    · subst hb; rw [upd_same] at e ⊢; exact e
    · rw [upd_ne hb] at e ⊢; exact v.frz b q u e
  · by_cases hb : b = p
    · subst hb; rw [upd_same] at e; cases e; exact nt
    · rw [upd_ne hb] at e; exact v.nv b u e
  · rw [upd_ne (ne_of_none e h)]; exact n
theorem Grow.newH {H Hv : Hp} (v : Vw H Hv) {p : Addr} {o : HO} (c : Cell o) (h : H p = none) : Grow H Hv (upd H p o) Hv := by
  refine ⟨.of (same_new h), Same.refl _, ⟨fun b u e => ?_, fun b xs e => ?_, fun b q u e => ?_, v.cd.new h c.nt, v.nv⟩, fun b u e n => n⟩
  · rw [upd_ne (ne_of_none (v.sub b u e) h)]; exact v.sub b u e
  · by_cases hb : b = p
    · subst hb; rw [upd_same] at e; cases e; exact c.elim
    · rw [upd_ne hb] at e; exact v.tup b xs e
  · by_cases hb : b = p
    · subst hb; rw [upd_same] at e; cases e; exact c.elim
    · rw [upd_ne hb] at e; exact v.frz b q u e
theorem Vw.show {H Hv : Hp} (v : Vw H Hv) {a : Addr} {o : HO} (h : H a = some o) (n : Hv a = none) (nt : NT o) : Vw H (upd Hv a o) ∧ Same Hv (upd Hv a o) := by
  refine ⟨⟨fun b u e => ?_, fun b xs e => ?_, fun b q u e => ?_, v.cd, fun b u e => ?_⟩, same_new n⟩
  · by_cases hb : b = a
    · subst hb; rw [upd_same] at e; rw [h]; exact e
    · rw [upd_ne hb] at e; exact v.sub b u e
  · by_cases hb : b = a
    · subst hb; rw [upd_same]; rw [h] at e; exact e
    · rw [upd_ne hb]; exact v.tup b xs e
  · by_cases hb : b = a
    · subst hb; rw [upd_same]; rw [h] at e; exact e
    · rw [upd_ne hb]; exact v.frz b q u e
  · by_cases hb : b = a
    · subst hb; rw [upd_same] at e; cases e; exact nt
    · rw [upd_ne hb] at e; exact v.nv b u e
theorem Lst.old {H H' : Hp} {a : Addr} {xs : List V} (s : Old H H') (h : Lst H a xs) : Lst H' a xs := by
  rcases h with h | ⟨o, h⟩
  · exact .inl (s.at h)
  · exact .inr ⟨o, s.at h⟩
mutual
theorem rep_imm {H H' : Hp} (t : ∀ a xs, H a = some (.tup xs) → H' a = some (.tup xs)) : ∀ {d : D} {v : V}, Mi.imm d = true → Rep H d v → Rep H' d v
  | .non, v, _, h => by rw [Rep] at h ⊢; exact h
  | .bl b, v, _, h => by rw [Rep] at h ⊢; exact h
  | .int i, v, _, h => by rw [Rep] at h ⊢; exact h
  | .str x, v, _, h => by rw [Rep] at h ⊢; exact h
  | .lst ds, v, z, h => by rw [Mi.imm] at z; cases z
  | .tup ds, v, z, h => by
    rw [Mi.imm] at z
    rw [Rep] at h ⊢
    obtain ⟨a, xs, e, q, r⟩ := h
    exact ⟨a, xs, e, t _ _ q, reps_imm t z r⟩
theorem reps_imm {H H' : Hp} (t : ∀ a xs, H a = some (.tup xs) → H' a = some (.tup xs)) : ∀ {ds : List D} {vs : List V}, Mi.imms ds = true → Reps H ds vs → Reps H' ds vs
  | [], vs, _, h => by rw [Reps] at h ⊢; exact h
  | d :: ds, vs, z, h => by
    rw [Mi.imms, Bool.and_eq_true] at z
    rw [Reps] at h ⊢
    obtain ⟨v, r, e, p, q⟩ := h
    exact ⟨v, r, e, rep_imm t z.1 p, reps_imm t z.2 q⟩
end
def KVs {κ : Type} (H : Hp) (kvs : List (κ × D)) (kv : List (κ × V)) : Prop := P2 (fun p q => p.1 = q.1 ∧ Rep H p.2 q.2) kvs kv
theorem KVs.same {κ : Type} {H H' : Hp} (s : Same H H') {kvs : List (κ × D)} {kv : List (κ × V)} (h : KVs H kvs kv) : KVs H' kvs kv := P2.imp (fun _ _ z => ⟨z.1, rep_same s z.2⟩) h
def CellIs (Hv : Hp) : W → HO → Prop
  | .d (.lst ds), .lst xs => P2 (Rep Hv) ds xs
  | .dk kvs, .dK kv => KVs Hv kvs kv
  | .dt kvs, .dT kv => KVs Hv kvs kv
  | _, _ => False
theorem CellIs.same {H H' : Hp} (s : Same H H') : ∀ {w : W} {o : HO}, CellIs H w o → CellIs H' w o := fun {w o} h => by
  cases w with
  | d x =>
    cases x with
    | lst ds => cases o with
      | lst xs => exact p2_same s h
      | _ => exact h.elim
    | _ => cases o <;> exact h.elim
  | dk kvs => cases o with
    | dK kv => exact KVs.same s h
    | _ => exact h.elim
  | dt kvs => cases o with
    | dT kv => exact KVs.same s h
    | _ => exact h.elim
  | ex c => exact h.elim
theorem CellIs.cell1 {H : Hp} {w : W} {o : HO} (h : CellIs H w o) : Cell1 o := by
  cases w with
  | d x =>
    cases x with
    | lst ds => cases o with
      | lst xs => trivial
      | _ => exact h.elim
    | _ => cases o <;> exact h.elim
  | dk kvs => cases o with
    | dK kv => trivial
    | _ => exact h.elim
  | dt kvs => cases o with
    | dT kv => trivial
    | _ => exact h.elim
  | ex c => exact h.elim
theorem CellIs.cell {H : Hp} {w : W} {o : HO} (h : CellIs H w o) : Cell o := h.cell1.cell
theorem CellIs.nt {H : Hp} {w : W} {o : HO} (h : CellIs H w o) : NT o := h.cell.nt
def excX (a C : Addr) : Heap → Prop := fun h => ∃ o, h.get? a = some o ∧ o.cls = .ref C ∧ o.dict = none ∧ ∃ vs, o.data = .fields vs
def RepW (H : Hp) : W → V → Prop
  | .d x, v => Rep H x v
  | .dk kvs, v => ∃ a kv, v = .ref a ∧ H a = some (.dK kv) ∧ KVs H kvs kv
  | .dt kvs, v => ∃ a kv, v = .ref a ∧ H a = some (.dT kv) ∧ KVs H kvs kv
  | .ex c, v => ∃ a, v = .ref a ∧ H a = some (.ext (excX a (Tb.cl c)))
theorem repW_same {H H' : Hp} (s : Same H H') : ∀ {w : W} {v : V}, RepW H w v → RepW H' w v
  | .d x, v, h => rep_same (d := x) s h
  | .dk kvs, v, ⟨a, kv, e, q, r⟩ => ⟨a, kv, e, s _ _ q, r.same s⟩
  | .dt kvs, v, ⟨a, kv, e, q, r⟩ => ⟨a, kv, e, s _ _ q, r.same s⟩
  | .ex c, v, ⟨a, e, q⟩ => ⟨a, e, s _ _ q⟩
theorem repW_cell {H : Hp} {w : W} {a : Addr} {o : HO} (h : H a = some o) (c : CellIs H w o) : RepW H w (.ref a) := by
  cases w with
  | d x =>
    cases x with
    | lst ds => cases o with
      | lst xs => exact rep_lst.mpr ⟨a, xs, rfl, .inl h, c⟩
      | _ => exact c.elim
    | _ => cases o <;> exact c.elim
  | dk kvs => cases o with
    | dK kv => exact ⟨a, kv, rfl, h, c⟩
    | _ => exact c.elim
  | dt kvs => cases o with
    | dT kv => exact ⟨a, kv, rfl, h, c⟩
    | _ => exact c.elim
  | ex z => exact c.elim
def Own (H Hv : Hp) (w : W) (v : V) : Prop := ∃ a o, v = .ref a ∧ H a = some o ∧ Hv a = none ∧ CellIs Hv w o
def RB (H Hv : Hp) (w : W) (v : V) : Prop := RepW Hv w v ∨ ∃ a o, v = .ref a ∧ H a = some o ∧ CellIs Hv w o
theorem RB.grow {H Hv H' Hv' : Hp} (g : Grow H Hv H' Hv') {w : W} {v : V} (h : RB H Hv w v) : RB H' Hv' w v := by
  rcases h with h | ⟨a, o, e, q, c⟩
  · exact .inl (repW_same g.vis h)
  · exact .inr ⟨a, o, e, g.old.at q c.nt, c.same g.vis⟩
theorem Own.grow {H Hv H' Hv' : Hp} (g : Grow H Hv H' Hv') {w : W} {v : V} (h : Own H Hv w v) : Own H' Hv' w v := by
  obtain ⟨a, o, e, q, n, c⟩ := h
  exact ⟨a, o, e, g.old.at q c.nt, g.hid _ _ q n, c.same g.vis⟩
theorem RB.full {H Hv : Hp} (v : Vw H Hv) {w : W} {x : V} (h : RB H Hv w x) : RepW H w x := by
  rcases h with h | ⟨a, o, rfl, q, c⟩
  · exact repW_same v.sub h
  · exact repW_cell q (c.same v.sub)
abbrev RD (H Hv : Hp) (d : D) (v : V) : Prop := RB H Hv (.d d) v
theorem RD.scal {H Hv : Hp} {d : D} {v : V} (h : RD H Hv d v) (n : ∀ ds, d ≠ .lst ds) : Rep Hv d v := by
  rcases h with h | ⟨a, o, e, q, c⟩
  · exact h
  · cases d with
    | lst ds => exact absurd rfl (n ds)
    | _ => cases o <;> exact c.elim
theorem RD.lst {H Hv : Hp} (w : Vw H Hv) {ds : List D} {v : V} (h : RD H Hv (.lst ds) v) : ∃ a xs, v = .ref a ∧ Lst H a xs ∧ P2 (Rep Hv) ds xs := by
  rcases h with h | ⟨a, o, e, q, c⟩
  · obtain ⟨a, xs, e, l, r⟩ := rep_lst.mp h
    exact ⟨a, xs, e, l.same w.sub, r⟩
  · cases o with
    | lst xs => exact ⟨a, xs, e, .inl q, c⟩
    | _ => exact c.elim
theorem RD.tup {H Hv : Hp} (w : Vw H Hv) {ds : List D} {v : V} (h : RD H Hv (.tup ds) v) : ∃ a xs, v = .ref a ∧ H a = some (.tup xs) ∧ Hv a = some (.tup xs) ∧ P2 (Rep Hv) ds xs := by
  obtain ⟨a, xs, e, l, r⟩ := rep_tup.mp (h.scal fun _ z => by cases z)
  exact ⟨a, xs, e, w.sub _ _ l, l, r⟩
theorem RD.int {H Hv : Hp} {i : Int} {v : V} (h : RD H Hv (.int i) v) : v = .int i := rep_int.mp (h.scal fun _ z => by cases z)
theorem RD.str {H Hv : Hp} {i : Str} {v : V} (h : RD H Hv (.str i) v) : v = .str i := rep_str.mp (h.scal fun _ z => by cases z)
theorem RD.bl {H Hv : Hp} {i : Bool} {v : V} (h : RD H Hv (.bl i) v) : v = .bl i := rep_bl.mp (h.scal fun _ z => by cases z)
theorem RD.non {H Hv : Hp} {v : V} (h : RD H Hv .non v) : v = .non := rep_non.mp (h.scal fun _ z => by cases z)
theorem RD.full {H Hv : Hp} (v : Vw H Hv) {d : D} {x : V} (h : RD H Hv d x) : Rep H d x := RB.full v h
abbrev Kd := Hp → Hp → Hp → W → V → Prop
def qP : Kd := fun _ H' Hv' w v => RB H' Hv' w v
def qV : Kd := fun _ _ Hv' w v => RepW Hv' w v
def qN : Kd := fun H H' Hv' w v => ∃ a o, v = .ref a ∧ H a = none ∧ H' a = some o ∧ Hv' a = none ∧ CellIs Hv' w o
theorem qv_int {H H' Hv' : Hp} {i : Int} : qV H H' Hv' (.d (.int i)) (.int i) := (rep_int (H := Hv')).mpr rfl
theorem qv_str {H H' Hv' : Hp} {i : Str} : qV H H' Hv' (.d (.str i)) (.str i) := (rep_str (H := Hv')).mpr rfl
theorem qv_bl {H H' Hv' : Hp} {i : Bool} : qV H H' Hv' (.d (.bl i)) (.bl i) := (rep_bl (H := Hv')).mpr rfl
theorem qv_non {H H' Hv' : Hp} : qV H H' Hv' (.d .non) .non := (rep_non (H := Hv')).mpr rfl
class KM (κ : Kd) : Prop where
  mono : ∀ {H H1 H' Hv' w v}, Old H H1 → κ H1 H' Hv' w v → κ H H' Hv' w v
instance : KM qP := ⟨fun _ h => h⟩
instance : KM qV := ⟨fun _ h => h⟩
instance : KM qN := ⟨fun s ⟨a, o, e, n, r⟩ => ⟨a, o, e, s.free n, r⟩⟩
structure R0 (M : Nat → Bool) (e : Mi.Env) (σ : L2.St) (H Hv : Hp) : Prop where
  vw : Vw H Hv
  len : σ.length = e.length
  nob : ∀ i w, e[i]? = some (some w) → M i = false → ∃ v, σ[i]? = some (some v) ∧ RepW Hv w v
  own : ∀ i w, e[i]? = some (some w) → M i = true → ∃ v, σ[i]? = some (some v) ∧ Own H Hv w v
theorem R0.grow {M : Nat → Bool} {e : Mi.Env} {σ : L2.St} {H Hv H' Hv' : Hp} (r : R0 M e σ H Hv) (g : Grow H Hv H' Hv') : R0 M e σ H' Hv' :=
  ⟨g.vw, r.len, fun i w h m => let ⟨v, q, z⟩ := r.nob i w h m; ⟨v, q, repW_same g.vis z⟩, fun i w h m => let ⟨v, q, z⟩ := r.own i w h m; ⟨v, q, z.grow g⟩⟩
structure R1 (M : Nat → Bool) (H0 Hv0 : Hp) (e : Mi.Env) (σ : L2.St) (H Hv : Hp) : Prop extends R0 M e σ H Hv where
  gw : Grow H0 Hv0 H Hv
  fresh : ∀ i w a, e[i]? = some (some w) → M i = true → σ[i]? = some (some (.ref a)) → H0 a = none
  sep : ∀ i j w w' a b, i ≠ j → e[i]? = some (some w) → e[j]? = some (some w') → M i = true → M j = true → σ[i]? = some (some (.ref a)) → σ[j]? = some (some (.ref b)) → a ≠ b
theorem R1.grow {M : Nat → Bool} {H0 Hv0 : Hp} {e : Mi.Env} {σ : L2.St} {H Hv H' Hv' : Hp} (r : R1 M H0 Hv0 e σ H Hv) (g : Grow H Hv H' Hv') : R1 M H0 Hv0 e σ H' Hv' :=
  ⟨r.toR0.grow g, r.gw.trans g, r.fresh, r.sep⟩
end A
set_option Elab.async false
set_option linter.all false
set_option maxRecDepth 100000
set_option maxHeartbeats 4000000
namespace A
open PySem L2 PyProof.Rows
open Mi (D W Rs Fin fin_bind)
variable [Tb : Tabs]
abbrev MEnv := Mi.Env
class KG (κ : Kd) : Prop where
  go : ∀ {H H1 Hv1 H2 Hv2 w v}, Grow H1 Hv1 H2 Hv2 → κ H H1 Hv1 w v → κ H H2 Hv2 w v
instance : KG qP := ⟨fun g h => h.grow g⟩
instance : KG qV := ⟨fun g h => repW_same g.vis h⟩
instance : KG qN := ⟨fun g ⟨a, o, e, n, q, z, c⟩ => ⟨a, o, e, n, g.old.at q c.nt, g.hid _ _ q z, c.same g.vis⟩⟩
def AW (M : Nat → Bool) (κ : Kd) (t : TE) (m : Mi.EW) : Prop := ∀ e σ H Hv Q, R0 M e σ H Hv → Fin (m e) (fun w => ∀ v H' Hv', Grow H Hv H' Hv' → κ H H' Hv' w v → Q v H') → t σ H Q
def AE (M : Nat → Bool) (κ : Kd) (t : TE) (m : Mi.E) : Prop := ∀ e σ H Hv Q, R0 M e σ H Hv → Fin (m e) (fun d => ∀ v H' Hv', Grow H Hv H' Hv' → κ H H' Hv' (.d d) v → Q v H') → t σ H Q
def AT (M : Nat → Bool) (t : TT) (m : Mi.C) : Prop := ∀ e σ H Hv Q, R0 M e σ H Hv → Fin (m e) (fun b => ∀ H' Hv', Grow H Hv H' Hv' → Q b H') → t σ H Q
def AA (M : Nat → Bool) (κ : Kd) (t : TA) (m : MEnv → Rs (List D)) : Prop := ∀ e σ H Hv Q, R0 M e σ H Hv → Fin (m e) (fun ds => ∀ vs H' Hv', Grow H Hv H' Hv' → P2 (fun d v => κ H H' Hv' (.d d) v) ds vs → Q vs H') → t σ H Q
def AAW (M : Nat → Bool) (κ : Kd) (t : TA) (m : MEnv → Rs (List W)) : Prop := ∀ e σ H Hv Q, R0 M e σ H Hv → Fin (m e) (fun ws => ∀ vs H' Hv', Grow H Hv H' Hv' → P2 (fun w v => κ H H' Hv' w v) ws vs → Q vs H') → t σ H Q
def AO (M : Nat → Bool) (t : TO) (m : MEnv → Rs (Option Int)) : Prop := ∀ e σ H Hv Q, R0 M e σ H Hv → Fin (m e) (fun o => ∀ H' Hv', Grow H Hv H' Hv' → Q o H') → t σ H Q
section
variable {M : Nat → Bool} {κ : Kd} {t ta tb tc te : TE} {a b c : Mi.E} {r r' : R2} {f g : D → D → Rs D}
theorem AE.w (h : AE M κ t a) : AW M κ t (Mi.wD a) := fun e σ H Hv Q I q => h e σ H Hv Q I ((fin_bind.mp q).mono fun d z => z)
theorem kV_kP {H H' Hv' : Hp} {w : W} {v : V} (h : qV H H' Hv' w v) : qP H H' Hv' w v := .inl h
theorem kN_kP {H H' Hv' : Hp} {w : W} {v : V} (h : qN H H' Hv' w v) : qP H H' Hv' w v := by
  obtain ⟨a, o, e, _, q, _, c⟩ := h
  exact .inr ⟨a, o, e, q, c⟩
theorem kN_show {H Hv H' Hv' : Hp} (g : Grow H Hv H' Hv') {w : W} {v : V} (h : qN H H' Hv' w v) : ∃ Hv'', Grow H Hv H' Hv'' ∧ RepW Hv'' w v := by
  obtain ⟨a, o, rfl, n, q, z, c⟩ := h
  obtain ⟨vw, s⟩ := g.vw.show q z c.nt
  refine ⟨upd Hv' a o, ⟨g.old, g.vis.trans s, vw, fun b u e m => ?_⟩, repW_cell upd_same (c.same s)⟩
  rw [upd_ne (ne_of_none e n)]; exact g.hid b u e m
theorem AW.nv (h : AW M qN t m) : AW M qV t m := fun e σ H Hv Q I q => h e σ H Hv Q I (q.mono fun w z v H' Hv' g k => let ⟨Hv'', g', r⟩ := kN_show g k; z v H' Hv'' g' r)
theorem AE.p (h : AE M qV t a) : AE M qP t a := fun e σ H Hv Q I q => h e σ H Hv Q I (q.mono fun w z v H' Hv' g k => z v H' Hv' g (kV_kP k))
theorem AE.np (h : AE M qN t a) : AE M qP t a := fun e σ H Hv Q I q => h e σ H Hv Q I (q.mono fun w z v H' Hv' g k => z v H' Hv' g (kN_kP k))
theorem AE.nv (h : AE M qN t a) : AE M qV t a := fun e σ H Hv Q I q => h e σ H Hv Q I (q.mono fun w z v H' Hv' g k => let ⟨Hv'', g', r⟩ := kN_show g k; z v H' Hv'' g' r)
theorem a_int {i : Int} : AE M qV (tC (.int i)) (Mi.mC (.int i)) := fun e σ H Hv Q I h => h _ H Hv (.refl I.vw) qv_int
theorem a_str {i : Str} : AE M qV (tC (.str i)) (Mi.mC (.str i)) := fun e σ H Hv Q I h => h _ H Hv (.refl I.vw) qv_str
theorem a_bl {i : Bool} : AE M qV (tC (.bl i)) (Mi.mC (.bl i)) := fun e σ H Hv Q I h => h _ H Hv (.refl I.vw) qv_bl
theorem mV_ok {e : MEnv} {i : Nat} {k : D → Prop} (h : Fin (Mi.mV i e) k) : ∃ d, e[i]? = some (some (.d d)) ∧ k d := by
  unfold Mi.mV at h
  split at h
  · exact ⟨_, ‹_›, h⟩
  · exact h.elim
theorem wV_ok {e : MEnv} {i : Nat} {k : W → Prop} (h : Fin (Mi.wV i e) k) : ∃ w, e[i]? = some (some w) ∧ k w := by
  unfold Mi.wV at h
  split at h
  · exact ⟨_, ‹_›, h⟩
  · exact h.elim
theorem a_var (i : Nat) (hm : M i = false) : AE M qV (tVar i) (Mi.mV i) := fun e σ H Hv Q I h => by
  obtain ⟨d, he, k⟩ := mV_ok h
  obtain ⟨v, q, z⟩ := I.nob i _ he hm
  exact ⟨v, q, k v H Hv (.refl I.vw) z⟩
theorem own_kP {H Hv : Hp} {w : W} {v : V} (h : Own H Hv w v) : RB H Hv w v := by
  obtain ⟨a, o, e, q, _, c⟩ := h
  exact .inr ⟨a, o, e, q, c⟩
theorem R0.any {e : MEnv} {σ : L2.St} {H Hv : Hp} (I : R0 M e σ H Hv) {i : Nat} {w : W} (he : e[i]? = some (some w)) : ∃ v, σ[i]? = some (some v) ∧ RB H Hv w v := by
  cases hm : M i with
  | false =>
    obtain ⟨v, q, z⟩ := I.nob i w he hm
    exact ⟨v, q, .inl z⟩
  | true =>
    obtain ⟨v, q, z⟩ := I.own i w he hm
    exact ⟨v, q, own_kP z⟩
theorem a_varP (i : Nat) : AE M qP (tVar i) (Mi.mV i) := fun e σ H Hv Q I h => by
  obtain ⟨d, he, k⟩ := mV_ok h
  obtain ⟨v, q, z⟩ := I.any he
  exact ⟨v, q, k v H Hv (.refl I.vw) z⟩
def B2 (κ : Kd) (r : R2) (f : D → D → Rs D) : Prop := ∀ x y v u H Hv Q, Vw H Hv → RD H Hv x v → RD H Hv y u → Fin (f x y) (fun d => ∀ w H' Hv', Grow H Hv H' Hv' → κ H H' Hv' (.d d) w → Q w H') → r v u H Q
def BN (κ : Kd) (r : List V → Hp → VK → Prop) (f : List D → Rs D) : Prop := ∀ ds vs H Hv Q, Vw H Hv → P2 (RD H Hv) ds vs → Fin (f ds) (fun d => ∀ w H' Hv', Grow H Hv H' Hv' → κ H H' Hv' (.d d) w → Q w H') → r vs H Q
theorem a_bin [KM κ] (hr : B2 κ r f) (ha : AE M qP ta a) (hb : AE M qP tb b) : AE M κ (tOp r ta tb) (Mi.m2 f a b) := fun e σ H Hv Q I h =>
  ha e σ H Hv _ I ((fin_bind.mp h).mono fun x hx v H1 Hv1 g1 rx => hb e σ H1 Hv1 _ (I.grow g1) ((fin_bind.mp hx).mono fun y hy u H2 Hv2 g2 ry =>
    hr x y v u H2 Hv2 Q g2.vw (RB.grow g2 rx) ry (hy.mono fun d hd w H3 Hv3 g3 rw => hd w H3 Hv3 (g1.trans (g2.trans g3)) (KM.mono (g1.old.trans g2.old) rw))))
theorem asB_ok {x : D} {k : Bool → Prop} (h : Fin (Mi.asB x) k) : ∃ b, x = .bl b ∧ k b := by
  cases x with
  | bl b => exact ⟨b, rfl, h⟩
  | _ => exact h.elim
theorem asI_ok {x : D} {k : Int → Prop} (h : Fin (Mi.asI x) k) : ∃ b, x = .int b ∧ k b := by
  cases x with
  | int b => exact ⟨b, rfl, h⟩
  | _ => exact h.elim
theorem a_and (ha : AE M qP ta a) (hb : AE M qV tb b) : AE M qV (tAndV ta tb) (Mi.mAnd a b) := fun e σ H Hv Q I h =>
  ha e σ H Hv _ I ((fin_bind.mp h).mono fun x hx v H1 Hv1 g1 rx => by
    obtain ⟨k, rfl, hk⟩ := asB_ok (fin_bind.mp hx)
    cases RD.bl rx
    refine ⟨k, rfl, ?_⟩
    cases k with
    | true => exact iteT (hb e σ H1 Hv1 Q (I.grow g1) (Fin.mono (Mi.fin_t hk) fun d hd w H2 Hv2 g2 rw => hd w H2 Hv2 (g1.trans g2) rw))
    | false => exact iteF ((Mi.fin_now (Mi.fin_f hk)) _ H1 Hv1 g1 qv_bl))
theorem a_or (ha : AE M qP ta a) (hb : AE M qV tb b) : AE M qV (tOrV ta tb) (Mi.mOr a b) := fun e σ H Hv Q I h =>
  ha e σ H Hv _ I ((fin_bind.mp h).mono fun x hx v H1 Hv1 g1 rx => by
    obtain ⟨k, rfl, hk⟩ := asB_ok (fin_bind.mp hx)
    cases RD.bl rx
    refine ⟨k, rfl, ?_⟩
    cases k with
    | false => exact iteF (hb e σ H1 Hv1 Q (I.grow g1) (Fin.mono (Mi.fin_f hk) fun d hd w H2 Hv2 g2 rw => hd w H2 Hv2 (g1.trans g2) rw))
    | true => exact iteT ((Mi.fin_now (Mi.fin_t hk)) _ H1 Hv1 g1 qv_bl))
theorem ao_none : AO M tNoPart (Mi.mPart none) := fun e σ H Hv Q I h => h H Hv (.refl I.vw)
theorem ao_some (ha : AE M qP ta a) : AO M (tPart ta) (Mi.mPart (some a)) := fun e σ H Hv Q I h =>
  ha e σ H Hv _ I ((fin_bind.mp h).mono fun x hx v H1 Hv1 g1 rx => by
    obtain ⟨i, rfl, hk⟩ := asI_ok (fin_bind.mp hx)
    exact ⟨i, RD.int rx, hk H1 Hv1 g1⟩)
def BS (κ : Kd) (r : V → Option Int → Option Int → Hp → VK → Prop) (f : D → Option Int → Option Int → Rs D) : Prop := ∀ x lo hi v H Hv Q, Vw H Hv → RD H Hv x v → Fin (f x lo hi) (fun d => ∀ w H' Hv', Grow H Hv H' Hv' → κ H H' Hv' (.d d) w → Q w H') → r v lo hi H Q
theorem a_sl [KM κ] {r : V → Option Int → Option Int → Hp → VK → Prop} {tl th : TO} {lo hi : Option Mi.E} {f : D → Option Int → Option Int → Rs D} (hr : BS κ r f) (ha : AE M qP ta a) (hl : AO M tl (Mi.mPart lo)) (hh : AO M th (Mi.mPart hi)) : AE M κ (tSl r ta tl th) (Mi.mSlF f a lo hi) := fun e σ H Hv Q I h =>
  ha e σ H Hv _ I ((fin_bind.mp h).mono fun x hx v H1 Hv1 g1 rx => hl e σ H1 Hv1 _ (I.grow g1) ((fin_bind.mp hx).mono fun l hl H2 Hv2 g2 => hh e σ H2 Hv2 _ (I.grow (g1.trans g2)) ((fin_bind.mp hl).mono fun u hu H3 Hv3 g3 =>
    hr x l u v H3 Hv3 Q g3.vw (RB.grow (g2.trans g3) rx) (hu.mono fun d hd w H4 Hv4 g4 rw => hd w H4 Hv4 (g1.trans (g2.trans (g3.trans g4))) (KM.mono (g1.old.trans (g2.old.trans g3.old)) rw)))))
theorem at_b (ha : AE M qP ta a) : AT M (tB ta) (Mi.cB a) := fun e σ H Hv Q I h =>
  ha e σ H Hv _ I ((fin_bind.mp h).mono fun x hx v H1 Hv1 g1 rx => by
    obtain ⟨k, rfl, hk⟩ := asB_ok hx
    exact ⟨k, RD.bl rx, hk H1 Hv1 g1⟩)
theorem at_test (ha : AE M qP ta a) : AT M (tTest ta) (Mi.cB a) := at_b ha
theorem at_truth {K : PySem.W.Frag} (ha : AE M qP ta a) : AT M (fun σ H Q => ta σ H fun x H' => ∃ k, TruV K x H' k ∧ Q k H') (Mi.cTru a) := fun e σ H Hv Q I h =>
  ha e σ H Hv _ I ((fin_bind.mp h).mono fun x hx v H1 Hv1 g1 rx => by
    cases x with
    | non => cases RD.non rx; exact ⟨false, rfl, hx H1 Hv1 g1⟩
    | bl b => cases RD.bl rx; exact ⟨b, rfl, hx H1 Hv1 g1⟩
    | int i => cases RD.int rx; exact ⟨_, rfl, hx H1 Hv1 g1⟩
    | str y =>
      cases RD.str rx
      obtain ⟨hz, hq⟩ := Mi.fin_guard hx
      exact ⟨_, ⟨by rw [sizeLine_eq]; exact hz, rfl⟩, hq H1 Hv1 g1⟩
    | lst ds =>
      obtain ⟨p, xs, rfl, l, r⟩ := RD.lst g1.vw rx
      refine ⟨!xs.isEmpty, .inl ⟨xs, l.sq, rfl⟩, ?_⟩
      have : ds.isEmpty = xs.isEmpty := by cases r <;> rfl
      rw [← this]; exact hx H1 Hv1 g1
    | tup ds =>
      obtain ⟨p, xs, rfl, l, _, r⟩ := RD.tup g1.vw rx
      refine ⟨!xs.isEmpty, .inr (.inl ⟨xs, .inl (.inl l), rfl⟩), ?_⟩
      have : ds.isEmpty = xs.isEmpty := by cases r <;> rfl
      rw [← this]; exact hx H1 Hv1 g1)
variable {tt uu : TT} {k l : Mi.C}
theorem at_and (ha : AT M tt k) (hb : AT M uu l) : AT M (tAnd tt uu) (Mi.cAnd k l) := fun e σ H Hv Q I h =>
  ha e σ H Hv _ I ((fin_bind.mp h).mono fun x hx H1 Hv1 g1 => by
    cases x with
    | true => exact iteT (hb e σ H1 Hv1 Q (I.grow g1) (Fin.mono (Mi.fin_t hx) fun b hd H2 Hv2 g2 => hd H2 Hv2 (g1.trans g2)))
    | false => exact iteF ((Mi.fin_now (Mi.fin_f hx)) H1 Hv1 g1))
theorem at_or (ha : AT M tt k) (hb : AT M uu l) : AT M (tOr tt uu) (Mi.cOr k l) := fun e σ H Hv Q I h =>
  ha e σ H Hv _ I ((fin_bind.mp h).mono fun x hx H1 Hv1 g1 => by
    cases x with
    | false => exact iteF (hb e σ H1 Hv1 Q (I.grow g1) (Fin.mono (Mi.fin_f hx) fun b hd H2 Hv2 g2 => hd H2 Hv2 (g1.trans g2)))
    | true => exact iteT ((Mi.fin_now (Mi.fin_t hx)) H1 Hv1 g1))
theorem at_not (ha : AT M tt k) : AT M (tNot tt) (Mi.cNot k) := fun e σ H Hv Q I h =>
  ha e σ H Hv _ I ((fin_bind.mp h).mono fun x hx H1 Hv1 g1 => hx H1 Hv1 g1)
theorem at_yes : AT M tYes Mi.cYes := fun e σ H Hv Q I h => h H Hv (.refl I.vw)
variable {tr : TA} {as : List Mi.E} {ws : List Mi.EW}
theorem aa_nil : AA M κ tNil (Mi.mArgs []) := fun e σ H Hv Q I h => h [] H Hv (.refl I.vw) .nil
theorem aa_cons [KM κ] [KG κ] (ha : AE M κ ta a) (hr : AA M κ tr (Mi.mArgs as)) : AA M κ (tCons ta tr) (Mi.mArgs (a :: as)) := fun e σ H Hv Q I h =>
  ha e σ H Hv _ I ((fin_bind.mp h).mono fun x hx v H1 Hv1 g1 rx => hr e σ H1 Hv1 _ (I.grow g1) ((fin_bind.mp hx).mono fun xs hs vs H2 Hv2 g2 rs =>
    hs (v :: vs) H2 Hv2 (g1.trans g2) (.cons (KG.go g2 rx) (rs.imp fun _ _ z => KM.mono g1.old z))))
theorem aw_nil : AAW M κ tNil (Mi.mArgsW []) := fun e σ H Hv Q I h => h [] H Hv (.refl I.vw) .nil
theorem aw_cons [KM κ] [KG κ] {w : Mi.EW} (ha : AW M κ ta w) (hr : AAW M κ tr (Mi.mArgsW ws)) : AAW M κ (tCons ta tr) (Mi.mArgsW (w :: ws)) := fun e σ H Hv Q I h =>
  ha e σ H Hv _ I ((fin_bind.mp h).mono fun x hx v H1 Hv1 g1 rx => hr e σ H1 Hv1 _ (I.grow g1) ((fin_bind.mp hx).mono fun xs hs vs H2 Hv2 g2 rs =>
    hs (v :: vs) H2 Hv2 (g1.trans g2) (.cons (KG.go g2 rx) (rs.imp fun _ _ z => KM.mono g1.old z))))
theorem a_cb [KM κ] {r : List V → Hp → VK → Prop} {f : List D → Rs D} (hr : BN κ r f) (ha : AA M qP tr (Mi.mArgs as)) : AE M κ (tCB r tr) (Mi.mN f as) := fun e σ H Hv Q I h =>
  ha e σ H Hv _ I ((fin_bind.mp h).mono fun ds hx vs H1 Hv1 g1 rx => hr ds vs H1 Hv1 Q g1.vw rx (hx.mono fun d hd w H3 Hv3 g3 rw => hd w H3 Hv3 (g1.trans g3) (KM.mono g1.old rw)))
theorem a_tup (ha : AA M qV tr (Mi.mArgs as)) : AE M qV (tTup tr) (Mi.mN Mi.dTup as) := fun e σ H Hv Q I h =>
  ha e σ H Hv _ I ((fin_bind.mp h).mono fun ds hx vs H1 Hv1 g1 rx => by
    obtain ⟨hz, hq⟩ := Mi.fin_guard hx
    refine ⟨by rw [← rx.len, sizeLine_eq]; exact hz, fun p hp => ?_⟩
    have g2 : Grow H1 Hv1 (upd H1 p (.tup vs)) (upd Hv1 p (.tup vs)) := .new g1.vw hp
    exact hq _ _ _ (g1.trans g2) (rep_tup.mpr ⟨p, vs, rfl, upd_same, p2_same g2.vis rx⟩))
theorem a_lst (ha : AA M qV tr (Mi.mArgs as)) : AE M qN (tLst tr) (Mi.mN Mi.dLst as) := fun e σ H Hv Q I h =>
  ha e σ H Hv _ I ((fin_bind.mp h).mono fun ds hx vs H1 Hv1 g1 rx => by
    obtain ⟨hz, hq⟩ := Mi.fin_guard hx
    refine ⟨by rw [← rx.len, sizeLine_eq]; exact hz, fun p hp => ?_⟩
    have g2 : Grow H1 Hv1 (upd H1 p (.lst vs)) Hv1 := .newH g1.vw trivial hp
    exact hq _ _ _ (g1.trans g2) ⟨p, .lst vs, rfl, g1.old.free hp, upd_same, vis_none g1.vw hp, rx⟩)
def spD (f : Mi.Fn) : Sp := fun vs H Q _ => ∃ Hv ws, Vw H Hv ∧ P2 (RepW Hv) ws vs ∧ Fin (f ws) (fun w => ∀ v H' Hv', Grow H Hv H' Hv' → qV H H' Hv' w v → Q v H')
def spN (f : Mi.Fn) : Sp := fun vs H Q _ => ∃ Hv ws, Vw H Hv ∧ P2 (RepW Hv) ws vs ∧ Fin (f ws) (fun w => ∀ v H' Hv', Grow H Hv H' Hv' → qN H H' Hv' w v → Q v H')
variable {fn : Mi.Fn} {E : XK}
theorem aw_call (ha : AAW M qV tr (Mi.mArgsW ws)) : AW M qV (tCall (spD fn) [] E tr) (Mi.wCall fn ws) := fun e σ H Hv Q I h =>
  ha e σ H Hv _ I ((fin_bind.mp h).mono fun ds hx vs H1 Hv1 g1 rx => by
    rw [List.append_nil]
    exact ⟨Hv1, ds, g1.vw, rx, hx.mono fun d hd w H3 Hv3 g3 rw => hd w H3 Hv3 (g1.trans g3) rw⟩)
theorem aw_callN (ha : AAW M qV tr (Mi.mArgsW ws)) : AW M qN (tCall (spN fn) [] E tr) (Mi.wCall fn ws) := fun e σ H Hv Q I h =>
  ha e σ H Hv _ I ((fin_bind.mp h).mono fun ds hx vs H1 Hv1 g1 rx => by
    rw [List.append_nil]
    exact ⟨Hv1, ds, g1.vw, rx, hx.mono fun d hd w H3 Hv3 g3 rw => hd w H3 Hv3 (g1.trans g3) (KM.mono (κ := qN) g1.old rw)⟩)
theorem asD_ok {w : W} {k : D → Prop} (h : Fin (Mi.asD w) k) : ∃ d, w = .d d ∧ k d := by
  cases w with
  | d x => exact ⟨x, rfl, h⟩
  | _ => exact h.elim
theorem AW.d {w : Mi.EW} (h : AW M κ t w) : AE M κ t (fun e => (w e).bind Mi.asD) := fun e σ H Hv Q I q =>
  h e σ H Hv Q I ((fin_bind.mp q).mono fun w z v H' Hv' g k => by
    obtain ⟨d, rfl, z⟩ := asD_ok z
    exact z v H' Hv' g k)
theorem a_call (ha : AAW M qV tr (Mi.mArgsW ws)) : AE M qV (tCall (spD fn) [] E tr) (Mi.mCall fn ws) := (aw_call ha).d
theorem a_callN (ha : AAW M qV tr (Mi.mArgsW ws)) : AE M qN (tCall (spN fn) [] E tr) (Mi.mCall fn ws) := (aw_callN ha).d
def noT (H : Hp) : Hp := fun a => match H a with
  | some (.tbl _ _) => none
  | x => x
theorem noT_some {H : Hp} {a : Addr} {o : HO} (h : H a = some o) (n : NT o) : noT H a = some o := by
  unfold noT; rw [h]; cases o <;> first | rfl | exact n.elim
theorem noT_sub {H : Hp} {a : Addr} {o : HO} (h : noT H a = some o) : H a = some o ∧ NT o := by
  unfold noT at h
  cases q : H a with
  | none => rw [q] at h; cases h
  | some u =>
    rw [q] at h
    cases u with
    | tbl w ps => cases h
    | _ => cases h; exact ⟨rfl, trivial⟩
theorem Vw.all {H : Hp} (k : CodeOk H) : Vw H (noT H) := ⟨fun a o e => (noT_sub e).1, fun a xs e => noT_some e trivial, fun a o u e => noT_some e trivial, k, fun a o e => (noT_sub e).2⟩
theorem RB.fullT {H Hv : Hp} (v : Vw H Hv) {w : W} {x : V} (h : RB H Hv w x) : RepW (noT H) w x := by
  have s : Same Hv (noT H) := fun a o e => noT_some (v.sub a o e) (v.nv a o e)
  rcases h with h | ⟨a, o, rfl, q, c⟩
  · exact repW_same s h
  · exact repW_cell (noT_some q c.nt) (c.same s)
def seen (H Hv H' : Hp) : Hp := fun a => match Hv a, H a with
  | none, some _ => none
  | _, _ => noT H' a
theorem seen_grow {H Hv H' : Hp} (v : Vw H Hv) (s : Old H H') (k' : CodeOk H') : Grow H Hv H' (seen H Hv H') := by
  have key : ∀ a, (∃ o, H a = some o ∧ Hv a = none ∧ seen H Hv H' a = none) ∨ (seen H Hv H' a = noT H' a ∧ ∀ o, H a = some o → Hv a = some o) := fun a => by
    cases h1 : Hv a with
    | none =>
      cases h2 : H a with
      | none => exact .inr ⟨by unfold seen; rw [h1, h2], fun o e => by cases e⟩
      | some o => exact .inl ⟨o, rfl, rfl, by unfold seen; rw [h1, h2]⟩
    | some o =>
      refine .inr ⟨by unfold seen; rw [h1], fun u e => ?_⟩
      rw [v.sub a o h1] at e; exact e
  have back : ∀ b o, H' b = some o → NT o → (∃ u, H b = some u) → ∃ u, H b = some u := fun _ _ _ _ z => z
  refine ⟨s, fun b o e => ?_, ⟨fun b o e => ?_, fun b xs e => ?_, fun b q u e => ?_, k', fun b o e => ?_⟩, fun b o e n => ?_⟩
  · rcases key b with ⟨u, _, z, _⟩ | ⟨z, _⟩
    · rw [e] at z; cases z
    · rw [z]; exact noT_some (s.nt b o (v.sub b o e) (v.nv b o e)) (v.nv b o e)
  · rcases key b with ⟨u, _, _, z⟩ | ⟨z, _⟩
    · rw [e] at z; cases z
    · rw [z] at e; exact (noT_sub e).1
  · rcases key b with ⟨u, h1, h2, _⟩ | ⟨z, _⟩
    · cases u with
      | tbl w ps => exact absurd e (s.tab h1 trivial)
      | _ =>
        have := s.nt b _ h1 trivial
        rw [e] at this; cases this
        try (rw [v.tup b xs h1] at h2; cases h2)
    · rw [z]; exact noT_some e trivial
  · rcases key b with ⟨w, h1, h2, _⟩ | ⟨z, _⟩
    · cases w with
      | tbl w ps => exact absurd e (s.tab h1 trivial)
      | _ =>
        have := s.nt b _ h1 trivial
        rw [e] at this; cases this
        try (rw [v.frz b q u h1] at h2; cases h2)
    · rw [z]; exact noT_some e trivial
  · rcases key b with ⟨u, _, _, z⟩ | ⟨z, _⟩
    · rw [e] at z; cases z
    · rw [z] at e; exact (noT_sub e).2
  · rcases key b with ⟨u, h1, h2, z⟩ | ⟨z, k⟩
    · exact z
    · rw [k o e] at n; cases n
end
end A
set_option Elab.async false
set_option linter.all false
set_option maxRecDepth 100000
set_option maxHeartbeats 4000000
namespace A
open PySem L2 PyProof.Rows
open Mi (D W Rs Fin fin_bind Out Tg)
variable [Tb : Tabs]
structure ItD (J : It) (P : Hp → Hp → Prop) (ds : List D) : Prop where
  go : ∀ i H Hv, P H Hv → Vw H Hv → i < ds.length → J.go i H
  yld : ∀ i H Hv x H', P H Hv → Vw H Hv → i < ds.length → J.yld i H x H' → ∃ Hv' d, Grow H Hv H' Hv' ∧ ds[i]? = some d ∧ Rep Hv' d x
  stop : ∀ H Hv, P H Hv → Vw H Hv → J.stop ds.length H
def AIc (M : Nat → Bool) (wi : TI) (it : Mi.I) : Prop := ∀ e σ H Hv (R : It → Hp → Prop), R0 M e σ H Hv → Fin (it e) (fun ds => ∀ (J : It) H' Hv' (P : Hp → Hp → Prop), Grow H Hv H' Hv' → ItD J P ds → P H' Hv' → (∀ H1 Hv1 H2 Hv2, P H1 Hv1 → Grow H1 Hv1 H2 Hv2 → P H2 Hv2) → R J H') → wi σ H R
def AIf (M : Nat → Bool) (wi : TI) (it : Mi.I) : Prop := ∀ e σ H Hv (R : It → Hp → Prop), R0 M e σ H Hv → Fin (it e) (fun ds => ∀ (J : It) H' Hv' (P : Hp → Hp → Prop), Grow H Hv H' Hv' → ItD J P ds → P H' Hv' → (∀ H1 Hv1 H2 Hv2, P H1 Hv1 → Same Hv1 Hv2 → Vw H2 Hv2 → P H2 Hv2) → R J H') → wi σ H R
theorem fin_ok {α : Type} {r : Rs α} {k : α → Prop} (h : Fin r k) : ∃ x, r = .ok x ∧ k x := by
  cases r with
  | ok x => exact ⟨x, rfl, h⟩
  | _ => exact h.elim
section
variable {M : Nat → Bool} {ta tb : TE} {a b : Mi.E} {wi : TI} {it : Mi.I} {tr : TA} {as : List Mi.E}
theorem AIf.c (h : AIf M wi it) : AIc M wi it := fun e σ H Hv R I q => h e σ H Hv R I (q.mono fun ds z J H' Hv' P g o p k => z J H' Hv' P g o p fun H1 Hv1 H2 Hv2 p g' => k H1 Hv1 H2 Hv2 p g'.vis g'.vw)
theorem itD_of {J : It} {Ok : Hp → Prop} {xs : List V} (O : J.Of Ok xs) {ds : List D} {P : Hp → Hp → Prop} (ok : ∀ H Hv, P H Hv → Vw H Hv → Ok H) (r : ∀ H Hv, P H Hv → P2 (Rep Hv) ds xs) (ex : ∃ H Hv, P H Hv) : ItD J P ds := by
  have hl : ds.length = xs.length := by obtain ⟨H, Hv, p⟩ := ex; exact (r H Hv p).len
  refine ⟨fun i H Hv p v hi => O.go i H (ok H Hv p v) (by omega), fun i H Hv x H' p v hi y => ?_, fun H Hv p v => by rw [hl]; exact O.stop H (ok H Hv p v)⟩
  obtain ⟨rfl, hx⟩ := O.yld i H x H' (ok H Hv p v) (by omega) y
  obtain ⟨d, hd, rx⟩ := (r H' Hv p).getR hx
  exact ⟨Hv, d, .refl v, hd, rx⟩
def iSeq (K : PySem.W.Frag) (tl : TE) : TI := fun σ H R => iList K tl σ H R ∨ iTup K tl σ H R ∨ iStr tl σ H R
theorem pi_seq {X : Cx} {tg l : Expr} {tl : TE} (hl : PE X l tl) : PI X tg l (iSeq X.K tl) := fun pins s σ H R I h => by
  rcases h with h | h | h
  · exact pi_list hl pins s σ H R I h
  · exact pi_tup hl pins s σ H R I h
  · exact pi_str hl pins s σ H R I h
theorem sgns_rep (H : Hp) (z : Str) : P2 (Rep H) (z.cps.toList.map fun c => D.str ⟨#[c]⟩) (sgns z) := by
  unfold sgns
  induction z.cps.toList with
  | nil => exact .nil
  | cons c r ih => exact .cons (rep_str.mpr rfl) ih
theorem ai_seqC {K : PySem.W.Frag} (ha : AE M qP ta a) : AIc M (iSeq K ta) (Mi.iOf a) := fun e σ H Hv R I h => by
  obtain ⟨d, hd, h⟩ := fin_ok (fin_bind.mp h)
  have run : ∀ Q : VK, (∀ v H' Hv', Grow H Hv H' Hv' → RD H' Hv' d v → Q v H') → ta σ H Q := fun Q q => ha e σ H Hv Q I (by rw [hd]; exact q)
  cases d with
  | lst ds =>
    refine .inl (run _ fun v H' Hv' g r => ?_)
    obtain ⟨p, xs, rfl, l, r⟩ := RD.lst g.vw r
    exact ⟨p, rfl, ⟨xs, l.sq⟩, h (Itl K p) H' Hv' (fun H Hv => Lst H p xs ∧ P2 (Rep Hv) ds xs) g (itD_of of_list (fun H Hv p v => p.1.sq) (fun H Hv p => p.2) ⟨H', Hv', l, r⟩) ⟨l, r⟩ fun H1 Hv1 H2 Hv2 z g' => ⟨z.1.old g'.old, p2_same g'.vis z.2⟩⟩
  | tup ds =>
    refine .inr (.inl (run _ fun v H' Hv' g r => ?_))
    obtain ⟨p, xs, rfl, l, _, r⟩ := RD.tup g.vw r
    exact ⟨p, rfl, ⟨xs, .inl (.inl l)⟩, h (Itt K p) H' Hv' (fun H Hv => H p = some (.tup xs) ∧ P2 (Rep Hv) ds xs) g (itD_of of_tup (fun H Hv p v => .inl (.inl p.1)) (fun H Hv p => p.2) ⟨H', Hv', l, r⟩) ⟨l, r⟩ fun H1 Hv1 H2 Hv2 z g' => ⟨g'.old.at z.1, p2_same g'.vis z.2⟩⟩
  | str z =>
    refine .inr (.inr (run _ fun v H' Hv' g r => ?_))
    exact ⟨z, RD.str r, h (Its z) H' Hv' (fun _ _ => True) g (itD_of of_str (fun _ _ _ _ => trivial) (fun H Hv _ => sgns_rep Hv z) ⟨H, Hv, trivial⟩) trivial fun _ _ _ _ _ _ => trivial⟩
  | _ => exact h.elim
theorem ai_seq {K : PySem.W.Frag} (ha : AE M qV ta a) : AIf M (iSeq K ta) (Mi.iOf a) := fun e σ H Hv R I h => by
  obtain ⟨d, hd, h⟩ := fin_ok (fin_bind.mp h)
  have run : ∀ Q : VK, (∀ v H' Hv', Grow H Hv H' Hv' → Rep Hv' d v → Q v H') → ta σ H Q := fun Q q => ha e σ H Hv Q I (by rw [hd]; exact q)
  cases d with
  | lst ds =>
    refine .inl (run _ fun v H' Hv' g r => ?_)
    obtain ⟨p, xs, rfl, l, r⟩ := rep_lst.mp r
    exact ⟨p, rfl, ⟨xs, (l.same g.vw.sub).sq⟩, h (Itl K p) H' Hv' (fun H Hv => Lst Hv p xs ∧ P2 (Rep Hv) ds xs) g (itD_of of_list (fun H Hv p v => (p.1.same v.sub).sq) (fun H Hv p => p.2) ⟨H', Hv', l, r⟩) ⟨l, r⟩ fun H1 Hv1 H2 Hv2 z s v => ⟨z.1.same s, p2_same s z.2⟩⟩
  | tup ds =>
    refine .inr (.inl (run _ fun v H' Hv' g r => ?_))
    obtain ⟨p, xs, rfl, l, r⟩ := rep_tup.mp r
    exact ⟨p, rfl, ⟨xs, .inl (.inl (g.vw.sub _ _ l))⟩, h (Itt K p) H' Hv' (fun H Hv => Hv p = some (.tup xs) ∧ P2 (Rep Hv) ds xs) g (itD_of of_tup (fun H Hv p v => .inl (.inl (v.sub _ _ p.1))) (fun H Hv p => p.2) ⟨H', Hv', l, r⟩) ⟨l, r⟩ fun H1 Hv1 H2 Hv2 z s v => ⟨s _ _ z.1, p2_same s z.2⟩⟩
  | str z =>
    refine .inr (.inr (run _ fun v H' Hv' g r => ?_))
    exact ⟨z, rep_str.mp r, h (Its z) H' Hv' (fun _ _ => True) g (itD_of of_str (fun _ _ _ _ => trivial) (fun H Hv _ => sgns_rep Hv z) ⟨H, Hv, trivial⟩) trivial fun _ _ _ _ _ _ _ => trivial⟩
  | _ => exact h.elim
theorem rng_rep (H : Hp) (lo hi : Int) : P2 (Rep H) (Mi.dRange lo hi) (rngV lo (hi - lo).toNat) := by
  unfold Mi.dRange rngV
  induction List.range (hi - lo).toNat with
  | nil => exact .nil
  | cons c r ih => exact .cons (rep_int.mpr rfl) ih
theorem itD_range (lo hi : Int) (H Hv : Hp) : ItD (Itr lo (hi - lo).toNat) (fun _ _ => True) (Mi.dRange lo hi) := itD_of of_range (fun _ _ _ _ => trivial) (fun H Hv _ => rng_rep Hv lo hi) ⟨H, Hv, trivial⟩
theorem ai_range1 (ha : AE M qP ta a) : AIf M (iRng1 (tCons ta tNil)) (Mi.iRange1 a) := fun e σ H Hv R I h =>
  ha e σ H Hv _ I ((fin_bind.mp h).mono fun x hx v H1 Hv1 g1 rx => by
    obtain ⟨j, rfl, hk⟩ := asI_ok (fin_bind.mp hx)
    obtain ⟨hz, hq⟩ := Mi.fin_guard hk
    cases RD.int rx
    refine ⟨j, rfl, hz.1, hz.2, ?_⟩
    have := hq (Itr 0 (j - 0).toNat) H1 Hv1 _ g1 (itD_range 0 j H Hv) trivial fun _ _ _ _ _ _ _ => trivial
    rw [Int.sub_zero] at this
    exact this)
end
def gsOf : List Nat → TGs
  | [] => gNil
  | i :: r => gCons (gName i) (gsOf r)
def tgVars : Tg → List Nat
  | .n i => [i]
  | .t is => is
def tgG (K : PySem.W.Frag) : Tg → TG
  | .n i => gName i
  | .t is => gTup K is.length (gsOf is)
section
variable {P : Mi.Env → L2.St → Prop} {H Hv : Hp}
theorem gs_put : ∀ {is : List Nat} {ds : List D} {xs : List V} {e : Mi.Env} {σ : L2.St} {Q : L2.St → Hp → Prop}, (∀ i ∈ is, ∀ e σ d v, P e σ → Rep Hv d v → P (e.set i (some (.d d))) (σ.set i (some v))) → P e σ → P2 (Rep Hv) ds xs →
    Fin (Mi.setAll is ds e) (fun e' => ∀ σ', P e' σ' → Q σ' H) → gsOf is xs σ H Q
  | [], [], xs, e, σ, Q, cl, p, r, h => by
    cases r
    exact ⟨rfl, h σ p⟩
  | [], _ :: _, xs, e, σ, Q, cl, p, r, h => h.elim
  | _ :: _, [], xs, e, σ, Q, cl, p, r, h => h.elim
  | i :: is, d :: ds, xs, e, σ, Q, cl, p, r, h => by
    cases r with
    | cons x t => exact ⟨_, _, rfl, gs_put (fun j hj => cl j (List.mem_cons_of_mem _ hj)) (cl i List.mem_cons_self _ _ _ _ p x) t h⟩
theorem setAll_len : ∀ {is : List Nat} {ds : List D} {e : Mi.Env} {k : Mi.Env → Prop}, Fin (Mi.setAll is ds e) k → ds.length = is.length
  | [], [], _, _, _ => rfl
  | [], _ :: _, _, _, h => h.elim
  | _ :: _, [], _, _, h => h.elim
  | i :: is, d :: ds, e, k, h => by rw [List.length_cons, List.length_cons, setAll_len (is := is) (ds := ds) (k := k) h]
theorem tg_put {K : PySem.W.Frag} (vw : Vw H Hv) {tg : Tg} {d : D} {v : V} {e : Mi.Env} {σ : L2.St} {Q : L2.St → Hp → Prop} (cl : ∀ i ∈ tgVars tg, ∀ e σ d v, P e σ → Rep Hv d v → P (e.set i (some (.d d))) (σ.set i (some v))) (p : P e σ) (r : Rep Hv d v)
    (h : Fin (tg.put d e) (fun e' => ∀ σ', P e' σ' → Q σ' H)) : tgG K tg v σ H Q := by
  cases tg with
  | n i => exact h _ (cl i (by simp [tgVars]) _ _ _ _ p r)
  | t is =>
    cases d with
    | tup ds =>
      obtain ⟨a, xs, e1, l, r⟩ := rep_tup.mp r
      exact ⟨a, xs, e1, .inl (.inl (vw.sub _ _ l)), by rw [← r.len]; exact setAll_len h, gs_put cl p r h⟩
    | _ => exact h.elim
end
theorem set_get {α : Type} {l : List α} {i j : Nat} {x y : α} (h : (l.set i x)[j]? = some y) : (i = j ∧ x = y ∧ i < l.length) ∨ (i ≠ j ∧ l[j]? = some y) := by
  rw [List.getElem?_set] at h
  split at h
  · split at h
    · exact .inl ⟨‹_›, Option.some.inj h, by omega⟩
    · cases h
  · exact .inr ⟨‹_›, h⟩
theorem R0.set {M : Nat → Bool} {e : Mi.Env} {σ : L2.St} {H Hv : Hp} (I : R0 M e σ H Hv) {i : Nat} {w : W} {v : V} (hm : M i = false) (r : RepW Hv w v) : R0 M (e.set i (some w)) (σ.set i (some v)) H Hv := by
  refine ⟨I.vw, by rw [List.length_set, List.length_set]; exact I.len, fun j w' h m => ?_, fun j w' h m => ?_⟩
  · rcases set_get h with ⟨rfl, h, l⟩ | ⟨n, h⟩
    · cases h
      exact ⟨v, by rw [List.getElem?_set_self (by rw [I.len]; exact l)], r⟩
    · obtain ⟨u, q, z⟩ := I.nob j w' h m
      exact ⟨u, by rw [List.getElem?_set_ne n]; exact q, z⟩
  · rcases set_get h with ⟨rfl, h, l⟩ | ⟨n, h⟩
    · rw [hm] at m; cases m
    · obtain ⟨u, q, z⟩ := I.own j w' h m
      exact ⟨u, by rw [List.getElem?_set_ne n]; exact q, z⟩
theorem R1.set {M : Nat → Bool} {H0 Hv0 : Hp} {e : Mi.Env} {σ : L2.St} {H Hv : Hp} (I : R1 M H0 Hv0 e σ H Hv) {i : Nat} {w : W} {v : V} (hm : M i = false) (r : RepW Hv w v) : R1 M H0 Hv0 (e.set i (some w)) (σ.set i (some v)) H Hv := by
  have nj : ∀ {j : Nat} {w' : W}, (e.set i (some w))[j]? = some (some w') → M j = true → i ≠ j ∧ e[j]? = some (some w') := fun {j w'} h m => by
    rcases set_get h with ⟨rfl, _, _⟩ | ⟨n, h⟩
    · rw [hm] at m; cases m
    · exact ⟨n, h⟩
  refine ⟨I.toR0.set hm r, I.gw, fun j w' a h m q => ?_, fun j k w1 w2 a b hjk h1 h2 m1 m2 q1 q2 => ?_⟩
  · obtain ⟨n, h⟩ := nj h m
    rw [List.getElem?_set_ne n] at q
    exact I.fresh j w' a h m q
  · obtain ⟨n1, h1⟩ := nj h1 m1
    obtain ⟨n2, h2⟩ := nj h2 m2
    rw [List.getElem?_set_ne n1] at q1
    rw [List.getElem?_set_ne n2] at q2
    exact I.sep j k w1 w2 a b hjk h1 h2 m1 m2 q1 q2
def pickM (ρ : List (Option Nat)) (M : Nat → Bool) : Nat → Bool := fun i => match ρ[i]? with
  | some (some j) => M j
  | _ => false
theorem pick_get {α : Type} {ρ : List (Option Nat)} {e : List (Option α)} {i : Nat} {w : α} (h : (ρ.map fun o => o.bind fun j => (e[j]?).join)[i]? = some (some w)) : ∃ j, ρ[i]? = some (some j) ∧ e[j]? = some (some w) := by
  rw [List.getElem?_map] at h
  cases hr : ρ[i]? with
  | none => rw [hr] at h; cases h
  | some o =>
    rw [hr] at h
    cases o with
    | none => cases h
    | some j =>
      refine ⟨j, rfl, ?_⟩
      have h : (e[j]?).join = some w := Option.some.inj h
      cases hq : e[j]? with
      | none => rw [hq] at h; cases h
      | some o' => rw [hq] at h; have h : o' = some w := h
                   rw [h]
theorem pick_of {α : Type} {ρ : List (Option Nat)} {e : List (Option α)} {i j : Nat} {w : α} (h1 : ρ[i]? = some (some j)) (h2 : e[j]? = some (some w)) : (ρ.map fun o => o.bind fun j => (e[j]?).join)[i]? = some (some w) := by
  rw [List.getElem?_map, h1]
  show some ((e[j]?).join) = _
  rw [h2]; rfl
theorem R0.pick {M : Nat → Bool} {e : Mi.Env} {σ : L2.St} {H Hv : Hp} (I : R0 M e σ H Hv) (ρ : List (Option Nat)) : R0 (pickM ρ M) (Mi.pickE ρ e) (L2.pick ρ σ) H Hv := by
  refine ⟨I.vw, by unfold Mi.pickE L2.pick; rw [List.length_map, List.length_map], fun i w h m => ?_, fun i w h m => ?_⟩
  · obtain ⟨j, h1, h2⟩ := pick_get h
    have m : M j = false := by unfold pickM at m; rw [h1] at m; exact m
    obtain ⟨v, q, z⟩ := I.nob j w h2 m
    exact ⟨v, pick_of h1 q, z⟩
  · obtain ⟨j, h1, h2⟩ := pick_get h
    have m : M j = true := by unfold pickM at m; rw [h1] at m; exact m
    obtain ⟨v, q, z⟩ := I.own j w h2 m
    exact ⟨v, pick_of h1 q, z⟩
theorem compD_fin {tg : Tg} {c : Mi.C} {a : Mi.E} {e : Mi.Env} {x : D} {r : List D} {k : List D → Prop} (h : Fin (Mi.compD tg c a e (x :: r)) k) :
    Fin (tg.put x e) fun e1 => Fin (c e1) fun b => if b = true then Fin (a e1) fun y => Fin (Mi.compD tg c a e r) fun ys => k (y :: ys) else Fin (Mi.compD tg c a e r) k := by
  refine (fin_bind.mp h).mono fun e1 h1 => (fin_bind.mp h1).mono fun b h2 => ?_
  cases b with
  | true => exact iteT ((fin_bind.mp (Mi.fin_t h2)).mono fun y h3 => (fin_bind.mp h3).mono fun ys h4 => h4)
  | false => exact iteF (Mi.fin_f h2)
theorem a_comp {M : Nat → Bool} {K : PySem.W.Frag} {ρ : List (Option Nat)} {wi : TI} {it : Mi.I} {tg : Tg} {tc : TT} {c : Mi.C} {te : TE} {a : Mi.E} (hi : AIc M wi it) (hm : ∀ i ∈ tgVars tg, pickM ρ M i = false) (hc : AT (pickM ρ M) tc c) (he : AE (pickM ρ M) qV te a) :
    AE M qN (tComp wi ρ (tgG K tg) tc te) (Mi.mComp ρ it tg c a) := fun e σ H Hv Q I h =>
  hi e σ H Hv _ I ((fin_bind.mp h).mono fun ds h1 J H1 Hv1 P g1 O p1 per => by
    obtain ⟨hz, h1⟩ := Mi.fin_guard h1
    have h1 := fin_bind.mp h1
    have I1 := I.grow g1
    refine ⟨fun i m acc H' => m = ds.length - i ∧ i ≤ ds.length ∧ ∃ Hv', Grow H1 Hv1 H' Hv' ∧ P H' Hv' ∧ acc.length ≤ i ∧ ∃ done, P2 (Rep Hv') done acc ∧ Fin (Mi.compD tg c a (Mi.pickE ρ e) (ds.drop i)) fun ys => ∀ v H2 Hv2, Grow H Hv H2 Hv2 → qN H H2 Hv2 (.d (.lst (done ++ ys))) v → Q v H2,
      ⟨ds.length, by simp, Nat.zero_le _, Hv1, .refl g1.vw, p1, Nat.le_refl _, [], .nil, by rw [List.drop_zero]; exact h1.mono fun ys z => z⟩, ?_⟩
    rintro i m acc H' ⟨rfl, hle, Hv', g, pp, l, done, pd, hf⟩
    by_cases hlt : i < ds.length
    · refine .inr ⟨O.go i H' Hv' pp g.vw hlt, by rw [sizeLine_eq]; omega, fun acc' H2 => ∃ Hv2, Grow H1 Hv1 H2 Hv2 ∧ P H2 Hv2 ∧ acc'.length ≤ i + 1 ∧ ∃ done, P2 (Rep Hv2) done acc' ∧ Fin (Mi.compD tg c a (Mi.pickE ρ e) (ds.drop (i + 1))) fun ys => ∀ v H3 Hv3, Grow H Hv H3 Hv3 → qN H H3 Hv3 (.d (.lst (done ++ ys))) v → Q v H3,
        fun acc' H2 z => ⟨ds.length - (i + 1), by omega, rfl, hlt, z⟩, fun x H2 y => ?_⟩
      obtain ⟨Hv2, d, g2, hd, rx⟩ := O.yld i H' Hv' x H2 pp g.vw hlt y
      have g12 := g.trans g2
      have hdr : ds.drop i = d :: ds.drop (i + 1) := by
        obtain ⟨hl, e1⟩ := List.getElem?_eq_some_iff.mp hd
        rw [List.drop_eq_getElem_cons hl, e1]
      rw [hdr] at hf
      have hf := compD_fin hf
      refine tg_put (P := fun e1 σ1 => R0 (pickM ρ M) e1 σ1 H2 Hv2) g2.vw (fun j hj e1 σ1 d1 v1 r1 z => r1.set (hm j hj) z) ((I1.grow g12).pick ρ) rx (hf.mono fun e1 hf1 σ1 r1 => ?_)
      refine hc e1 σ1 H2 Hv2 _ r1 (hf1.mono fun b hb H3 Hv3 g3 => ?_)
      cases b with
      | true =>
        refine iteT (he e1 σ1 H3 Hv3 _ (r1.grow g3) (Fin.mono (by simpa using hb) fun y hy v H4 Hv4 g4 ry => ?_))
        exact ⟨Hv4, g12.trans (g3.trans g4), per _ _ _ _ pp (g2.trans (g3.trans g4)), by rw [List.length_append, List.length_singleton]; omega, done ++ [y], (p2_same (g2.trans (g3.trans g4)).vis pd).append (.cons ry .nil), hy.mono fun ys z v H5 Hv5 g5 k => z v H5 Hv5 g5 (by rw [List.append_assoc] at k; exact k)⟩
      | false => exact iteF ⟨Hv3, g12.trans g3, per _ _ _ _ pp (g2.trans g3), by omega, done, p2_same (g2.trans g3).vis pd, by simpa using hb⟩
    · have hi : i = ds.length := by omega
      subst hi
      refine .inl ⟨O.stop H' Hv' pp g.vw, fun p hp => ?_⟩
      rw [List.drop_of_length_le (Nat.le_refl _)] at hf
      have g2 : Grow H' Hv' (upd H' p (.lst acc)) Hv' := .newH g.vw trivial hp
      refine hf _ _ _ (g1.trans (g.trans g2)) ⟨p, .lst acc, rfl, (g1.old.trans g.old).free hp, upd_same, vis_none g.vw hp, ?_⟩
      show P2 (Rep Hv') (done ++ []) acc
      rw [List.append_nil]; exact pd)
def OutOk (M : Nat → Bool) (κ : Kd) (H0 Hv0 : Hp) (D : Ends) (Hv : Hp) : Out → Prop
  | .nx e => ∀ σ H' Hv', R1 M H0 Hv0 e σ H' Hv' → Same Hv Hv' → D.nx σ H'
  | .rt w => ∀ v H' Hv', Grow H0 Hv0 H' Hv' → κ H0 H' Hv' w v → D.rt v H'
  | .bk e => ∀ σ H' Hv', R1 M H0 Hv0 e σ H' Hv' → Same Hv Hv' → D.bk σ H'
  | .ct e => ∀ σ H' Hv', R1 M H0 Hv0 e σ H' Hv' → Same Hv Hv' → D.ct σ H'
def AS (M : Nat → Bool) (κ : Kd) (t : TS) (m : Mi.S) : Prop := ∀ H0 Hv0 e σ H Hv D, R1 M H0 Hv0 e σ H Hv → Fin (m e) (OutOk M κ H0 Hv0 D Hv) → t D σ H
section
variable {M : Nat → Bool} {κ : Kd} {t u : TS} {m n : Mi.S} {te : TE} {a b : Mi.E} {w : Mi.EW}
theorem as_next : AS M κ tNext Mi.sNext := fun H0 Hv0 e σ H Hv D I h => h σ H Hv I (Same.refl _)
theorem as_never : AS M κ tNever Mi.sNever := fun H0 Hv0 e σ H Hv D I h => h
theorem as_seq (h1 : AS M κ t m) (h2 : AS M κ u n) : AS M κ (tSeq t u) (Mi.sSeq m n) := fun H0 Hv0 e σ H Hv D I h =>
  h1 H0 Hv0 e σ H Hv _ I ((fin_bind.mp h).mono fun o ho => by
    cases o with
    | nx e' => exact fun σ' H' Hv' I' s => h2 H0 Hv0 e' σ' H' Hv' D I' (Fin.mono ho fun o z => by
        cases o with
        | nx e2 => exact fun σ2 H2 Hv2 I2 s2 => z σ2 H2 Hv2 I2 (s.trans s2)
        | rt w => exact z
        | bk e2 => exact fun σ2 H2 Hv2 I2 s2 => z σ2 H2 Hv2 I2 (s.trans s2)
        | ct e2 => exact fun σ2 H2 Hv2 I2 s2 => z σ2 H2 Hv2 I2 (s.trans s2))
    | rt w => exact ho
    | bk e' => exact ho
    | ct e' => exact ho)
theorem as_drop (ha : AE M qP te a) : AS M κ (tDrop te) (Mi.sDrop a) := fun H0 Hv0 e σ H Hv D I h =>
  ha e σ H Hv _ I.toR0 ((fin_bind.mp h).mono fun d hd v H1 Hv1 g1 r => hd σ H1 Hv1 (I.grow g1) g1.vis)
theorem as_set (i : Nat) (hm : M i = false) (ha : AE M qV te a) : AS M κ (tAsg te (gName i)) (Mi.sSet i a) := fun H0 Hv0 e σ H Hv D I h =>
  ha e σ H Hv _ I.toR0 ((fin_bind.mp h).mono fun d hd v H1 Hv1 g1 r => hd _ H1 Hv1 ((I.grow g1).set hm r) g1.vis)
theorem as_put {K : PySem.W.Frag} (tg : Tg) (hm : ∀ i ∈ tgVars tg, M i = false) (ha : AE M qV te a) : AS M κ (tAsg te (tgG K tg)) (Mi.sPut tg a) := fun H0 Hv0 e σ H Hv D I h =>
  ha e σ H Hv _ I.toR0 ((fin_bind.mp h).mono fun d hd v H1 Hv1 g1 r =>
    tg_put (P := fun e1 σ1 => R1 M H0 Hv0 e1 σ1 H1 Hv1) g1.vw (fun j hj e1 σ1 d1 v1 r1 z => r1.set (hm j hj) z) (I.grow g1) r ((fin_bind.mp hd).mono fun e1 h1 σ1 I1 => h1 σ1 H1 Hv1 I1 g1.vis))
theorem as_ret (ha : AW M qV te w) : AS M qV (tRet te) (Mi.sRet w) := fun H0 Hv0 e σ H Hv D I h =>
  ha e σ H Hv _ I.toR0 ((fin_bind.mp h).mono fun d hd v H1 Hv1 g1 r => hd v H1 Hv1 (I.gw.trans g1) r)
theorem as_retN (ha : AW M qN te w) : AS M qN (tRet te) (Mi.sRet w) := fun H0 Hv0 e σ H Hv D I h =>
  ha e σ H Hv _ I.toR0 ((fin_bind.mp h).mono fun d hd v H1 Hv1 g1 r => hd v H1 Hv1 (I.gw.trans g1) (KM.mono (κ := qN) I.gw.old r))
theorem as_if {tt : TT} {c : Mi.C} (hc : AT M tt c) (h1 : AS M κ t m) (h2 : AS M κ u n) : AS M κ (tIfS tt t u) (Mi.sIf c m n) := fun H0 Hv0 e σ H Hv D I h =>
  hc e σ H Hv _ I.toR0 ((fin_bind.mp h).mono fun b hb H1 Hv1 g1 => by
    have up : ∀ o, OutOk M κ H0 Hv0 D Hv o → OutOk M κ H0 Hv0 D Hv1 o := fun o z => by
      cases o with
      | nx e2 => exact fun σ2 H2 Hv2 I2 s2 => z σ2 H2 Hv2 I2 (g1.vis.trans s2)
      | rt w => exact z
      | bk e2 => exact fun σ2 H2 Hv2 I2 s2 => z σ2 H2 Hv2 I2 (g1.vis.trans s2)
      | ct e2 => exact fun σ2 H2 Hv2 I2 s2 => z σ2 H2 Hv2 I2 (g1.vis.trans s2)
    cases b with
    | true => exact iteT (h1 H0 Hv0 e σ H1 Hv1 D (I.grow g1) (Fin.mono (Mi.fin_t hb) up))
    | false => exact iteF (h2 H0 Hv0 e σ H1 Hv1 D (I.grow g1) (Fin.mono (Mi.fin_f hb) up)))
theorem OutOk.up {H0 Hv0 Hv Hv1 : Hp} {D : Ends} (s : Same Hv Hv1) {o : Out} (z : OutOk M κ H0 Hv0 D Hv o) : OutOk M κ H0 Hv0 D Hv1 o := by
  cases o with
  | nx e2 => exact fun σ2 H2 Hv2 I2 s2 => z σ2 H2 Hv2 I2 (s.trans s2)
  | rt w => exact z
  | bk e2 => exact fun σ2 H2 Hv2 I2 s2 => z σ2 H2 Hv2 I2 (s.trans s2)
  | ct e2 => exact fun σ2 H2 Hv2 I2 s2 => z σ2 H2 Hv2 I2 (s.trans s2)
theorem as_for {K : PySem.W.Frag} {wi : TI} {it : Mi.I} {tg : Tg} (hi : AIf M wi it) (hm : ∀ i ∈ tgVars tg, M i = false) (hb : AS M κ t m) : AS M κ (tFor wi (tgG K tg) t) (Mi.sFor it tg m) := fun H0 Hv0 e σ H Hv D I h =>
  hi e σ H Hv _ I.toR0 ((fin_bind.mp h).mono fun ds h1 J H1 Hv1 P g1 O p1 per => by
    refine ⟨fun i k σ' H' => k = ds.length - i ∧ i ≤ ds.length ∧ ∃ e' Hv', R1 M H0 Hv0 e' σ' H' Hv' ∧ P H' Hv' ∧ Fin (Mi.forD tg m (ds.drop i) e') (OutOk M κ H0 Hv0 D Hv'),
      ⟨ds.length, by simp, Nat.zero_le _, e, Hv1, I.grow g1, p1, by rw [List.drop_zero]; exact h1.mono fun o z => z.up g1.vis⟩, ?_⟩
    rintro i k σ' H' ⟨rfl, hle, e', Hv', I', pp, hf⟩
    by_cases hlt : i < ds.length
    · refine .inr ⟨O.go i H' Hv' pp I'.vw hlt, fun σ2 H2 => ∃ e2 Hv2, R1 M H0 Hv0 e2 σ2 H2 Hv2 ∧ P H2 Hv2 ∧ Fin (Mi.forD tg m (ds.drop (i + 1)) e2) (OutOk M κ H0 Hv0 D Hv2),
        fun σ2 H2 z => ⟨ds.length - (i + 1), by omega, rfl, hlt, z⟩, fun x H2 y => ?_⟩
      obtain ⟨Hv2, d, g2, hd, rx⟩ := O.yld i H' Hv' x H2 pp I'.vw hlt y
      have I2 := I'.grow g2
      have hdr : ds.drop i = d :: ds.drop (i + 1) := by
        obtain ⟨hl, e1⟩ := List.getElem?_eq_some_iff.mp hd
        rw [List.drop_eq_getElem_cons hl, e1]
      rw [hdr] at hf
      refine tg_put (P := fun e1 σ1 => R1 M H0 Hv0 e1 σ1 H2 Hv2) g2.vw (fun j hj e1 σ1 d1 v1 r1 z => r1.set (hm j hj) z) I2 rx ((fin_bind.mp hf).mono fun e1 h1 σ1 I1 => ?_)
      refine hb H0 Hv0 e1 σ1 H2 Hv2 _ I1 ((fin_bind.mp h1).mono fun o ho => ?_)
      cases o with
      | nx e2 => exact fun σ2 H3 Hv3 I3 s3 => ⟨e2, Hv3, I3, per _ _ _ _ pp (g2.vis.trans s3) I3.vw, Fin.mono ho fun o z => z.up (g2.vis.trans s3)⟩
      | ct e2 => exact fun σ2 H3 Hv3 I3 s3 => ⟨e2, Hv3, I3, per _ _ _ _ pp (g2.vis.trans s3) I3.vw, Fin.mono ho fun o z => z.up (g2.vis.trans s3)⟩
      | bk e2 => exact fun σ2 H3 Hv3 I3 s3 => ho σ2 H3 Hv3 I3 (g2.vis.trans s3)
      | rt w => exact ho
    · have hi : i = ds.length := by omega
      subst hi
      refine .inl ⟨O.stop H' Hv' pp I'.vw, ?_⟩
      rw [List.drop_of_length_le (Nat.le_refl _)] at hf
      exact hf σ' H' Hv' I' (Same.refl _))
end
end A
set_option Elab.async false
set_option linter.all false
set_option maxRecDepth 100000
set_option maxHeartbeats 4000000
namespace A
open PySem L2 PyProof.Rows
open Mi (D W Rs Fin fin_bind Out Tg)
variable [Tb : Tabs]
section
variable {M : Nat → Bool} {κ : Kd} {te : TE} {a b : Mi.E} {w : Mi.EW} {K : PySem.W.Frag}
theorem R1.write {H0 Hv0 : Hp} {e : Mi.Env} {σ : L2.St} {H Hv : Hp} (I : R1 M H0 Hv0 e σ H Hv) {i : Nat} {w w' : W} {p : Addr} {o : HO} (hm : M i = true) (he : e[i]? = some (some w)) (hs : σ[i]? = some (some (.ref p))) (c : CellIs Hv w' o) : R1 M H0 Hv0 (e.set i (some w')) σ (upd H p o) Hv := by
  have hp : ∃ o', H p = some o' ∧ Hv p = none ∧ Cell1 o' := by
    obtain ⟨v, q, a, o', e1, q1, n, c'⟩ := I.own i w he hm
    rw [hs] at q; cases q; cases e1
    exact ⟨o', q1, n, c'.cell1⟩
  obtain ⟨o', hp, hn, hcc⟩ := hp
  have h0 : H0 p = none := I.fresh i w p he hm hs
  have vw : Vw (upd H p o) Hv := by
    refine ⟨fun b u q => ?_, fun b xs q => ?_, fun b z u q => ?_, I.vw.cd.put hp hcc c.nt, I.vw.nv⟩
    · rw [upd_ne (ne_of_none q hn)]; exact I.vw.sub b u q
    · by_cases hb : b = p
      · subst hb; rw [upd_same] at q; cases q; exact c.cell.elim
      · rw [upd_ne hb] at q; exact I.vw.tup b xs q
    · by_cases hb : b = p
      · subst hb; rw [upd_same] at q; cases q; exact c.cell.elim
      · rw [upd_ne hb] at q; exact I.vw.frz b z u q
  have get : ∀ {j : Nat} {w2 : W}, (e.set i (some w'))[j]? = some (some w2) → (i = j ∧ w' = w2) ∨ (i ≠ j ∧ e[j]? = some (some w2)) := fun {j w2} h => by
    rcases set_get h with ⟨x, y, _⟩ | z
    · exact .inl ⟨x, Option.some.inj y⟩
    · exact .inr z
  have get' : ∀ {j : Nat} {w2 : W}, (e.set i (some w'))[j]? = some (some w2) → ∃ w3, e[j]? = some (some w3) := fun {j w2} h => by
    rcases get h with ⟨x, _⟩ | ⟨_, z⟩
    · subst x; exact ⟨w, he⟩
    · exact ⟨w2, z⟩
  refine ⟨⟨vw, by rw [List.length_set]; exact I.len, fun j w2 h m => ?_, fun j w2 h m => ?_⟩, ⟨I.gw.old.put h0 hp, I.gw.vis, vw, I.gw.hid⟩, fun j w2 x h m q => ?_, fun j k w1 w2 x y hjk h1 h2 m1 m2 q1 q2 => ?_⟩
  · rcases get h with ⟨rfl, _⟩ | ⟨_, z⟩
    · rw [hm] at m; cases m
    · exact I.nob j w2 z m
  · rcases get h with ⟨rfl, rfl⟩ | ⟨n, z⟩
    · exact ⟨.ref p, hs, p, o, rfl, upd_same, hn, c⟩
    · obtain ⟨v, q, x, u, e1, q1, n1, c1⟩ := I.own j w2 z m
      subst e1
      have := I.sep i j w w2 p x n he z hm m hs q
      exact ⟨.ref x, q, x, u, rfl, by rw [upd_ne (Ne.symm this)]; exact q1, n1, c1⟩
  · obtain ⟨w3, z⟩ := get' h
    exact I.fresh j w3 x z m q
  · obtain ⟨w3, z3⟩ := get' h1
    obtain ⟨w4, z4⟩ := get' h2
    exact I.sep j k w3 w4 x y hjk z3 z4 m1 m2 q1 q2
theorem R1.cell {H0 Hv0 : Hp} {e : Mi.Env} {σ : L2.St} {H Hv : Hp} (I : R1 M H0 Hv0 e σ H Hv) {i : Nat} {w : W} (hm : M i = true) (he : e[i]? = some (some w)) : ∃ p o, σ[i]? = some (some (.ref p)) ∧ H p = some o ∧ Hv p = none ∧ H0 p = none ∧ CellIs Hv w o := by
  obtain ⟨v, q, p, o, rfl, q1, n, c⟩ := I.own i w he hm
  exact ⟨p, o, q, q1, n, I.fresh i w p he hm q, c⟩
theorem getL_ok {e : Mi.Env} {i : Nat} {k : List D → Prop} (h : Fin (Mi.getL e i) k) : ∃ ds, e[i]? = some (some (.d (.lst ds))) ∧ k ds := by
  unfold Mi.getL at h
  split at h
  · exact ⟨_, ‹_›, h⟩
  · exact h.elim
theorem R1.list {H0 Hv0 : Hp} {e : Mi.Env} {σ : L2.St} {H Hv : Hp} (I : R1 M H0 Hv0 e σ H Hv) {i : Nat} {ds : List D} (hm : M i = true) (he : e[i]? = some (some (.d (.lst ds)))) : ∃ p xs, σ[i]? = some (some (.ref p)) ∧ H p = some (.lst xs) ∧ Hv p = none ∧ P2 (Rep Hv) ds xs := by
  obtain ⟨p, o, q, q1, n, _, c⟩ := I.cell hm he
  cases o with
  | lst xs => exact ⟨p, xs, q, q1, n, c⟩
  | _ => exact c.elim
theorem R1.name {H0 Hv0 : Hp} {e : Mi.Env} {σ : L2.St} {H Hv H1 Hv1 : Hp} (I : R1 M H0 Hv0 e σ H Hv) (g : Grow H Hv H1 Hv1) {i : Nat} {w : W} {v : V} (hm : M i = true) (k : qN H H1 Hv1 w v) : R1 M H0 Hv0 (e.set i (some w)) (σ.set i (some v)) H1 Hv1 := by
  obtain ⟨p, o, rfl, hf, hp, hn, c⟩ := k
  have I1 := I.grow g
  have other : ∀ {j : Nat} {w2 : W} {x : Addr}, e[j]? = some (some w2) → M j = true → σ[j]? = some (some (.ref x)) → x ≠ p := fun {j w2 x} h m q => by
    obtain ⟨p', o', q', q1, _⟩ := I.cell m h
    rw [q] at q'; cases q'
    exact ne_of_none q1 hf
  refine ⟨⟨I1.vw, by rw [List.length_set, List.length_set]; exact I.len, fun j w2 h m => ?_, fun j w2 h m => ?_⟩, I1.gw, fun j w2 x h m q => ?_, fun j k w1 w2 x y hjk h1 h2 m1 m2 q1 q2 => ?_⟩
  · rcases set_get h with ⟨rfl, _⟩ | ⟨n, z⟩
    · rw [hm] at m; cases m
    · obtain ⟨u, q, r⟩ := I1.nob j w2 z m
      exact ⟨u, by rw [List.getElem?_set_ne n]; exact q, r⟩
  · rcases set_get h with ⟨rfl, h, l⟩ | ⟨n, z⟩
    · cases h
      exact ⟨.ref p, by rw [List.getElem?_set_self (by rw [I.len]; exact l)], p, o, rfl, hp, hn, c⟩
    · obtain ⟨u, q, r⟩ := I1.own j w2 z m
      exact ⟨u, by rw [List.getElem?_set_ne n]; exact q, r⟩
  · rcases set_get h with ⟨rfl, h, l⟩ | ⟨n, z⟩
    · rw [List.getElem?_set_self (by rw [I.len]; exact l)] at q
      cases q
      exact I.gw.old.free hf
    · rw [List.getElem?_set_ne n] at q
      exact I.fresh j w2 x z m q
  · rcases set_get h1 with ⟨rfl, _, l⟩ | ⟨n, z⟩
    · rw [List.getElem?_set_self (by rw [I.len]; exact l)] at q1
      cases q1
      rcases set_get h2 with ⟨rfl, _, _⟩ | ⟨n2, z2⟩
      · exact absurd rfl hjk
      · rw [List.getElem?_set_ne n2] at q2
        exact Ne.symm (other z2 m2 q2)
    · rw [List.getElem?_set_ne n] at q1
      rcases set_get h2 with ⟨rfl, _, l⟩ | ⟨n2, z2⟩
      · rw [List.getElem?_set_self (by rw [I.len]; exact l)] at q2
        cases q2
        exact other z m1 q1
      · rw [List.getElem?_set_ne n2] at q2
        exact I.sep j k w1 w2 x y hjk z z2 m1 m2 q1 q2
theorem as_new (i : Nat) (hm : M i = true) (ha : AE M qN te a) : AS M κ (tAsg te (gName i)) (Mi.sSet i a) := fun H0 Hv0 e σ H Hv D I h =>
  ha e σ H Hv _ I.toR0 ((fin_bind.mp h).mono fun d hd v H1 Hv1 g1 r => hd _ H1 Hv1 (I.name g1 hm r) g1.vis)
theorem as_append (i : Nat) (hm : M i = true) (ha : AE M qV te a) : AS M κ (tDrop (tBM K "list" rAppend (tVar i) (tCons te tNil))) (Mi.sAppend i a) := fun H0 Hv0 e σ H Hv D I h => by
  obtain ⟨d, hd, h⟩ := fin_ok (fin_bind.mp h)
  obtain ⟨ds, he, h⟩ := getL_ok (fin_bind.mp h)
  obtain ⟨hz, h⟩ := Mi.fin_guard h
  obtain ⟨p, xs, q, q1, n, c⟩ := I.list hm he
  refine ⟨.ref p, q, .inl ⟨rfl, xs, .inl (.inl q1)⟩, ha e σ H Hv _ I.toR0 (by
    rw [hd]
    intro v H1 Hv1 g1 r
    have I1 := I.grow g1
    refine ⟨p, xs, v, rfl, rfl, g1.old.at q1, by rw [← c.len, sizeLine_eq]; exact hz, ?_⟩
    exact h σ _ Hv1 (I1.write hm he q (show CellIs Hv1 (.d (.lst (ds ++ [d]))) (.lst (xs ++ [v])) from (p2_same g1.vis c).append (.cons r .nil))) g1.vis)⟩
theorem as_clear (i : Nat) (hm : M i = true) : AS M κ (tDrop (tBM0 K "list" rClear (tVar i))) (Mi.sClear i) := fun H0 Hv0 e σ H Hv D I h => by
  obtain ⟨ds, he, h⟩ := getL_ok (fin_bind.mp h)
  obtain ⟨p, xs, q, q1, n, c⟩ := I.list hm he
  exact ⟨.ref p, q, .inl ⟨rfl, xs, .inl (.inl q1)⟩, p, xs, rfl, rfl, q1, h σ _ Hv (I.write hm he q (show CellIs Hv (.d (.lst [])) (.lst []) from .nil)) (Same.refl _)⟩
theorem ofO_ok {α : Type} {o : Option α} {k : α → Prop} (h : Fin (Mi.ofO o) k) : ∃ x, o = some x ∧ k x := by
  cases o with
  | some x => exact ⟨x, rfl, h⟩
  | none => exact h.elim
theorem seqIx {n : Nat} {i : Int} {k : Nat} (h : Mi.ixN n i = some k) : seqIndex? i n = some k := by
  unfold Mi.ixN at h
  split at h
  · split at h
    · rw [seqIndex_of (by omega) (by omega)]; exact h
    · cases h
  · split at h
    · rw [seqIndex_neg (by omega) (by omega)]; exact h
    · cases h
theorem popAt_ok {ds : List D} {i : Int} {k : D × List D → Prop} (h : Fin (Mi.popAt ds i) k) : -(2 ^ 63) ≤ i ∧ i < 2 ^ 63 ∧ ∃ j d, Mi.ixN ds.length i = some j ∧ ds[j]? = some d ∧ k (d, ds.eraseIdx j) := by
  obtain ⟨⟨h1, h2⟩, h⟩ := Mi.fin_guard h
  obtain ⟨j, hj, h⟩ := ofO_ok (fin_bind.mp h)
  obtain ⟨d, hd, h⟩ := ofO_ok (fin_bind.mp h)
  exact ⟨h1, h2, j, d, hj, hd, h⟩
theorem as_appendPop (x y : Nat) (hxy : x ≠ y) (hx : M x = true) (hy : M y = true) (ha : AE M qP te a) : AS M κ (tDrop (tBM K "list" rAppend (tVar x) (tCons (tBM K "list" rPopAt (tVar y) (tCons te tNil)) tNil))) (Mi.sAppendPop x y a) := fun H0 Hv0 e σ H Hv D I h => by
  obtain ⟨z, hz, h⟩ := fin_ok (fin_bind.mp h)
  obtain ⟨i, rfl, h⟩ := asI_ok (fin_bind.mp h)
  obtain ⟨ds, he, h⟩ := getL_ok (fin_bind.mp h)
  obtain ⟨h1, h2, j, d, hj, hd, h⟩ := popAt_ok (fin_bind.mp h)
  obtain ⟨es, he2, h⟩ := getL_ok (fin_bind.mp h)
  obtain ⟨hsz, h⟩ := Mi.fin_guard h
  have he2' : e[x]? = some (some (.d (.lst es))) := by
    have he2 : (e.set y (some (.d (.lst (ds.eraseIdx j)))))[x]? = _ := he2
    rwa [List.getElem?_set_ne (Ne.symm hxy)] at he2
  obtain ⟨p, xs, q, q1, n, c⟩ := I.list hy he
  obtain ⟨p', xs', q', q1', n', c'⟩ := I.list hx he2'
  have hpp : p' ≠ p := I.sep x y _ _ p' p hxy he2' he hx hy q' q
  refine ⟨.ref p', q', .inl ⟨rfl, xs', .inl (.inl q1')⟩, .ref p, q, .inl ⟨rfl, xs, .inl (.inl q1)⟩, ha e σ H Hv _ I.toR0 (by
    rw [hz]
    intro v H1 Hv1 g1 r
    have I1 := I.grow g1
    cases RD.int r
    obtain ⟨u, hu, ru⟩ := c.getL hd
    rw [c.len] at hj
    refine ⟨p, xs, i, j, u, rfl, rfl, g1.old.at q1, h1, h2, seqIx hj, hu, ?_⟩
    have I2 := I1.write hy he q (show CellIs Hv1 (.d (.lst (ds.eraseIdx j))) (.lst (xs.eraseIdx j)) from (p2_same g1.vis c).erase j)
    refine ⟨p', xs', u, rfl, rfl, by rw [upd_ne hpp]; exact g1.old.at q1', by rw [← c'.len, sizeLine_eq]; exact hsz, ?_⟩
    exact h σ _ Hv1 (I2.write hx he2 q' (show CellIs Hv1 (.d (.lst (es ++ [d]))) (.lst (xs' ++ [u])) from (p2_same g1.vis c').append (.cons (rep_same g1.vis ru) .nil))) g1.vis)⟩
theorem as_retOwn (i : Nat) (hm : M i = true) : AS M qN (tRet (tVar i)) (Mi.sRet (Mi.wV i)) := fun H0 Hv0 e σ H Hv D I h => by
  obtain ⟨w, he, h⟩ := wV_ok (fin_bind.mp h)
  obtain ⟨p, o, q, q1, n, h0, c⟩ := I.cell hm he
  exact ⟨.ref p, q, h _ H Hv I.gw ⟨p, o, rfl, h0, q1, n, c⟩⟩
theorem R1.reveal {H0 Hv0 : Hp} {e : Mi.Env} {σ : L2.St} {H Hv : Hp} (I : R1 M H0 Hv0 e σ H Hv) {y : Nat} {w : W} (hy : M y = true) (he : e[y]? = some (some w)) : ∃ p Hv', σ[y]? = some (some (.ref p)) ∧ R1 M H0 Hv0 (e.set y none) σ H Hv' ∧ Same Hv Hv' ∧ RepW Hv' w (.ref p) := by
  obtain ⟨p, o, q, q1, n, h0, c⟩ := I.cell hy he
  obtain ⟨vw, s⟩ := I.vw.show q1 n c.nt
  have nj : ∀ {j : Nat} {w' : W}, (e.set y none)[j]? = some (some w') → y ≠ j ∧ e[j]? = some (some w') := fun {j w'} h => by
    rcases set_get h with ⟨_, h, _⟩ | z
    · cases h
    · exact z
  refine ⟨p, upd Hv p o, q, ⟨⟨vw, by rw [List.length_set]; exact I.len, fun j w' h m => ?_, fun j w' h m => ?_⟩, ⟨I.gw.old, I.gw.vis.trans s, vw, fun b u z1 z2 => ?_⟩, fun j w' x h m z => ?_, fun j k w1 w2 x z hjk h1 h2 m1 m2 z1 z2 => ?_⟩, s, repW_cell upd_same (c.same s)⟩
  · obtain ⟨_, h⟩ := nj h
    obtain ⟨v, z, r⟩ := I.nob j w' h m
    exact ⟨v, z, repW_same s r⟩
  · obtain ⟨hne, h⟩ := nj h
    obtain ⟨v, z, x, u, e1, q2, n2, c2⟩ := I.own j w' h m
    subst e1
    have := I.sep y j w w' p x hne he h hy m q z
    exact ⟨.ref x, z, x, u, rfl, q2, by rw [upd_ne (Ne.symm this)]; exact n2, c2.same s⟩
  · rw [upd_ne (ne_of_none z1 h0)]; exact I.gw.hid b u z1 z2
  · exact I.fresh j w' x (nj h).2 m z
  · exact I.sep j k w1 w2 x z hjk (nj h1).2 (nj h2).2 m1 m2 z1 z2
end
end A
set_option Elab.async false
set_option linter.all false
set_option maxRecDepth 100000
set_option maxHeartbeats 4000000
namespace A
open PySem L2 PyProof.Rows
open Mi (D W Rs Fin fin_bind Out Tg)
variable [Tb : Tabs]
section
variable {X : Cx} {K : PySem.W.Frag}
def rStrAdd : R2 := fun x y H Q => ∃ i j, x = .str i ∧ y = .str j ∧ i.length + j.length ≤ sizeLine ∧ Q (.str (i ++ j)) H
theorem lstL {pins : List (Addr × Obj)} {σ : L2.St} {H : Hp} {s : Shared} {a : Addr} {xs : List V} (I : Inv X pins σ H s) (h : Lst H a xs) : ∃ (its : List Value) (n : Nat), Vals xs its ∧ xs.length ≤ sizeLine ∧ s.heap.get? a = some { cls := .type "list", data := .seq its.toArray n } := by
  rcases h with h | ⟨o, h⟩
  · obtain ⟨z, its, n, r, e⟩ := I.hok a _ h
    exact ⟨its, n, r, z, e⟩
  · obtain ⟨_, z, its, n, r, e⟩ := I.hok a _ h
    exact ⟨its, n, r, z, e⟩
def rCatS : R2 := fun x y H Q => ∃ l b xs zs, x = .ref l ∧ y = .ref b ∧ Lst H l xs ∧ Lst H b zs ∧ xs.length + zs.length ≤ sizeLine ∧ ∀ p, H p = none → Q (.ref p) (upd H p (.lst (xs ++ zs)))
theorem op_catS : OpR X (binaryOp .Add) rCatS := by
  intro pins s σ H x y v u Q I rx ry h
  obtain ⟨l, b, xs, zs, rfl, rfl, hH, hB, hz, q⟩ := h
  cases rx
  cases ry
  obtain ⟨its, n, r, z, e⟩ := lstL I hH
  obtain ⟨its2, n2, r2, z2, e2⟩ := lstL I hB
  have hl := r.length
  have hl2 := r2.length
  refine PySem.P.add_list e e2 ?_ (by rw [List.size_toArray, List.size_toArray]; omega)
  have ea : its.toArray ++ its2.toArray = (its ++ its2).toArray := by simp
  rw [ea]
  exact ⟨.ref _, _, I.lnew (t' := s.toks) (r.append r2) (by rw [List.length_append]; omega), rfl, q _ I.fresh⟩
def rAddU : R2 := fun x y H Q => rI0 (fun i j => .int (i + j)) x y H Q ∨ rStrAdd x y H Q ∨ rCatS x y H Q
theorem op_addU : OpR X (binaryOp .Add) rAddU := op_add.or (OpR.or op_add_str op_catS)
theorem new_kN {H Hv : Hp} (vw : Vw H Hv) {ds : List D} {xs : List V} (r : P2 (Rep Hv) ds xs) {p : Addr} (hp : H p = none) : Grow H Hv (upd H p (.lst xs)) Hv ∧ qN H (upd H p (.lst xs)) Hv (.d (.lst ds)) (.ref p) :=
  ⟨.newH vw trivial hp, p, .lst xs, rfl, hp, upd_same, vis_none vw hp, r⟩
theorem new_kV {H Hv : Hp} (vw : Vw H Hv) {ds : List D} {xs : List V} (r : P2 (Rep Hv) ds xs) {p : Addr} (hp : H p = none) : Grow H Hv (upd H p (.lst xs)) (upd Hv p (.lst xs)) ∧ qV H (upd H p (.lst xs)) (upd Hv p (.lst xs)) (.d (.lst ds)) (.ref p) := by
  have g : Grow H Hv (upd H p (.lst xs)) (upd Hv p (.lst xs)) := .new vw hp
  exact ⟨g, rep_lst.mpr ⟨p, xs, rfl, .inl upd_same, p2_same g.vis r⟩⟩
theorem new_kT {H Hv : Hp} (vw : Vw H Hv) {ds : List D} {xs : List V} (r : P2 (Rep Hv) ds xs) {p : Addr} (hp : H p = none) : Grow H Hv (upd H p (.tup xs)) (upd Hv p (.tup xs)) ∧ qV H (upd H p (.tup xs)) (upd Hv p (.tup xs)) (.d (.tup ds)) (.ref p) := by
  have g : Grow H Hv (upd H p (.tup xs)) (upd Hv p (.tup xs)) := .new vw hp
  exact ⟨g, rep_tup.mpr ⟨p, xs, rfl, upd_same, p2_same g.vis r⟩⟩
theorem b_add : B2 qV rAddU Mi.dAdd := fun x y v u H Hv Q vw rx ry h => by
  cases x with
  | int i => cases y with
    | int j => cases RD.int rx; cases RD.int ry; exact .inl ⟨i, j, rfl, rfl, h _ H Hv (.refl vw) qv_int⟩
    | _ => exact h.elim
  | str i => cases y with
    | str j =>
      cases RD.str rx; cases RD.str ry
      obtain ⟨hz, h⟩ := Mi.fin_guard h
      exact .inr (.inl ⟨i, j, rfl, rfl, by rw [sizeLine_eq]; exact hz, h _ H Hv (.refl vw) qv_str⟩)
    | _ => exact h.elim
  | lst a => cases y with
    | lst b =>
      obtain ⟨hz, h⟩ := Mi.fin_guard h
      obtain ⟨p, xs, rfl, l1, r1⟩ := RD.lst vw rx
      obtain ⟨q, ys, rfl, l2, r2⟩ := RD.lst vw ry
      refine .inr (.inr ⟨p, q, xs, ys, rfl, rfl, l1, l2, by rw [← r1.len, ← r2.len, sizeLine_eq]; exact hz, fun a ha => ?_⟩)
      obtain ⟨g, k⟩ := new_kV vw (r1.append r2) ha
      exact h _ _ _ g k
    | _ => exact h.elim
  | _ => cases y <;> exact h.elim
theorem b_sub : B2 qV (rI0 fun i j => .int (i - j)) Mi.dSub := fun x y v u H Hv Q vw rx ry h => by
  cases x with
  | int i => cases y with
    | int j => cases RD.int rx; cases RD.int ry; exact ⟨i, j, rfl, rfl, h _ H Hv (.refl vw) qv_int⟩
    | _ => exact h.elim
  | _ => cases y <;> exact h.elim
theorem b_mul : B2 qV (rI CMul fun i j => .int (i * j)) Mi.dMulI := fun x y v u H Hv Q vw rx ry h => by
  cases x with
  | int i => cases y with
    | int j => cases RD.int rx; cases RD.int ry; obtain ⟨hz, h⟩ := Mi.fin_guard h; exact ⟨i, j, rfl, rfl, hz, h _ H Hv (.refl vw) qv_int⟩
    | _ => exact h.elim
  | _ => cases y <;> exact h.elim
theorem b_div : B2 qV (rI CDivB fun i j => .int (i / j)) Mi.dDiv := fun x y v u H Hv Q vw rx ry h => by
  cases x with
  | int i => cases y with
    | int j => cases RD.int rx; cases RD.int ry; obtain ⟨hz, h⟩ := Mi.fin_guard h; exact ⟨i, j, rfl, rfl, hz, h _ H Hv (.refl vw) qv_int⟩
    | _ => exact h.elim
  | _ => cases y <;> exact h.elim
theorem b_mod : B2 qV (rI (fun _ j => 0 < j) fun i j => .int (i % j)) Mi.dMod := fun x y v u H Hv Q vw rx ry h => by
  cases x with
  | int i => cases y with
    | int j => cases RD.int rx; cases RD.int ry; obtain ⟨hz, h⟩ := Mi.fin_guard h; exact ⟨i, j, rfl, rfl, hz, h _ H Hv (.refl vw) qv_int⟩
    | _ => exact h.elim
  | _ => cases y <;> exact h.elim
def rLtU : R2 := fun x y H Q => rI0 (fun i j => .bl (decide (i < j))) x y H Q ∨ ∃ i j, x = .str i ∧ y = .str j ∧ Q (.bl (decide (i.cps.toList < j.cps.toList))) H
theorem op_ltU : OpR X (compareOp .Lt) rLtU := op_lt.or op_lt_str
def rGtU : R2 := fun x y H Q => rI0 (fun i j => .bl (decide (j < i))) x y H Q ∨ ∃ i j, x = .str i ∧ y = .str j ∧ Q (.bl (decide (j.cps.toList < i.cps.toList))) H
theorem op_gtU : OpR X (compareOp .Gt) rGtU := op_gt.or op_gt_str
theorem b_lt : B2 qV rLtU Mi.dLt := fun x y v u H Hv Q vw rx ry h => by
  cases x with
  | int i => cases y with
    | int j => cases RD.int rx; cases RD.int ry; exact .inl ⟨i, j, rfl, rfl, h _ H Hv (.refl vw) qv_bl⟩
    | _ => exact h.elim
  | str i => cases y with
    | str j => cases RD.str rx; cases RD.str ry; exact .inr ⟨i, j, rfl, rfl, h _ H Hv (.refl vw) qv_bl⟩
    | _ => exact h.elim
  | _ => cases y <;> exact h.elim
theorem b_gt : B2 qV rGtU Mi.dGt := fun x y v u H Hv Q vw rx ry h => by
  cases x with
  | int i => cases y with
    | int j => cases RD.int rx; cases RD.int ry; exact .inl ⟨i, j, rfl, rfl, h _ H Hv (.refl vw) qv_bl⟩
    | _ => exact h.elim
  | str i => cases y with
    | str j => cases RD.str rx; cases RD.str ry; exact .inr ⟨i, j, rfl, rfl, h _ H Hv (.refl vw) qv_bl⟩
    | _ => exact h.elim
  | _ => cases y <;> exact h.elim
def rEqD (K : PySem.W.Frag) (neg : Bool) : R2 := fun x y H Q => ∃ d e, L2.Rep K H d x ∧ L2.Rep K H e y ∧ d.dep ≤ 16 ∧ Q (.bl (if neg then !Mi.pyEq d e else Mi.pyEq d e)) H
theorem b_eq : B2 qV (rEqD K false) Mi.dEq := fun x y v u H Hv Q vw rx ry h => by
  obtain ⟨hz, h⟩ := Mi.fin_guard h
  exact ⟨x, y, rep_up K (RD.full vw rx), rep_up K (RD.full vw ry), hz, h _ H Hv (.refl vw) qv_bl⟩
theorem b_ne : B2 qV (rEqD K true) Mi.dNe := fun x y v u H Hv Q vw rx ry h => by
  obtain ⟨hz, h⟩ := Mi.fin_guard h
  exact ⟨x, y, rep_up K (RD.full vw rx), rep_up K (RD.full vw ry), hz, h _ H Hv (.refl vw) qv_bl⟩
def rInU (K : PySem.W.Frag) : R2 := fun x y H Q => rInD K false x y H Q ∨ rInS false x y H Q
theorem op_inU (hu : X.A.units + 64 < cLine) : OpR X (compareOp .In) (rInU X.K) := (op_inD hu).or op_in1
theorem p2_up {H : Hp} {ds : List D} {xs : List V} (h : P2 (Rep H) ds xs) : L2.Reps K H ds xs := reps_up K (reps_iff.mpr h)
theorem b_in : B2 qV (rInU K) Mi.dIn := fun x y v u H Hv Q vw rx ry h => by
  cases y with
  | lst ds =>
    obtain ⟨hz, h⟩ := Mi.fin_guard h
    obtain ⟨p, xs, rfl, l1, r1⟩ := RD.lst vw ry
    exact .inl ⟨p, xs, x, ds, rfl, .inl l1.sq, rep_up K (RD.full vw rx), p2_up (p2_same vw.sub r1), hz, h _ H Hv (.refl vw) qv_bl⟩
  | tup ds =>
    obtain ⟨hz, h⟩ := Mi.fin_guard h
    obtain ⟨p, xs, rfl, l1, _, r1⟩ := RD.tup vw ry
    exact .inl ⟨p, xs, x, ds, rfl, .inr (.inl (.inl l1)), rep_up K (RD.full vw rx), p2_up (p2_same vw.sub r1), hz, h _ H Hv (.refl vw) qv_bl⟩
  | str z => cases x with
    | str c =>
      obtain ⟨hz, h⟩ := Mi.fin_guard h
      cases RD.str rx; cases RD.str ry
      obtain ⟨⟨l⟩⟩ := c
      match l, hz with
      | [c], _ => exact .inr ⟨c, z, rfl, rfl, h _ H Hv (.refl vw) qv_bl⟩
    | _ => exact h.elim
  | _ => exact h.elim
theorem b_notin : B2 qV (rInD K true) Mi.dNotIn := fun x y v u H Hv Q vw rx ry h => by
  cases y with
  | lst ds =>
    obtain ⟨hz, h⟩ := Mi.fin_guard h
    obtain ⟨p, xs, rfl, l1, r1⟩ := RD.lst vw ry
    exact ⟨p, xs, x, ds, rfl, .inl l1.sq, rep_up K (RD.full vw rx), p2_up (p2_same vw.sub r1), hz, h _ H Hv (.refl vw) qv_bl⟩
  | tup ds =>
    obtain ⟨hz, h⟩ := Mi.fin_guard h
    obtain ⟨p, xs, rfl, l1, _, r1⟩ := RD.tup vw ry
    exact ⟨p, xs, x, ds, rfl, .inr (.inl (.inl l1)), rep_up K (RD.full vw rx), p2_up (p2_same vw.sub r1), hz, h _ H Hv (.refl vw) qv_bl⟩
  | _ => exact h.elim
theorem atI_eq {α : Type} (xs : List α) (i : Int) : Mi.atI xs i = L2.atI xs i := rfl
theorem at_p2 {α β : Type} {F : α → β → Prop} {l : List α} {m : List β} (h : P2 F l m) {i : Int} {a : α} (e : Mi.atI l i = some a) : ∃ b, L2.atI m i = some b ∧ F a b := by
  unfold Mi.atI at e
  cases hj : Mi.ixN l.length i with
  | none => rw [hj] at e; cases e
  | some j =>
    rw [hj] at e
    have e : l[j]? = some a := e
    obtain ⟨b, hb, r⟩ := h.getL e
    refine ⟨b, ?_, r⟩
    rw [← atI_eq]
    unfold Mi.atI
    rw [← h.len, hj]; exact hb
theorem b_ix : B2 qV (rIx K) Mi.dIx := fun x y v u H Hv Q vw rx ry h => by
  cases y with
  | int i =>
    cases RD.int ry
    cases x with
    | lst ds =>
      obtain ⟨d, e, h⟩ := ofO_ok h
      obtain ⟨p, xs, rfl, l1, r1⟩ := RD.lst vw rx
      obtain ⟨z, ez, rz⟩ := at_p2 r1 e
      exact .inl ⟨p, xs, i, z, rfl, rfl, l1.sq, ez, h z H Hv (.refl vw) rz⟩
    | tup ds =>
      obtain ⟨d, e, h⟩ := ofO_ok h
      obtain ⟨p, xs, rfl, l1, _, r1⟩ := RD.tup vw rx
      obtain ⟨z, ez, rz⟩ := at_p2 r1 e
      exact .inr (.inl ⟨p, xs, i, z, rfl, rfl, .inl (.inl l1), ez, h z H Hv (.refl vw) rz⟩)
    | str z =>
      cases RD.str rx
      obtain ⟨hz, h⟩ := Mi.fin_guard h
      obtain ⟨c, e, h⟩ := ofO_ok (fin_bind.mp h)
      exact .inr (.inr ⟨z, i, c, rfl, rfl, by rw [sizeLine_eq]; exact hz, e, h _ H Hv (.refl vw) qv_str⟩)
    | _ => exact h.elim
  | _ => cases x <;> exact h.elim
theorem cut_p2 {F : D → V → Prop} {l : List D} {m : List V} (h : P2 F l m) (lo hi : Option Int) : P2 F (Mi.cutL l lo hi) (L2.cutV m lo hi) := by
  unfold Mi.cutL L2.cutV
  rw [h.len]
  exact (h.drop _).take _
def rSlU (K : PySem.W.Frag) : V → Option Int → Option Int → Hp → VK → Prop := fun x lo hi H Q => rSlL K x lo hi H Q ∨ rSlS x lo hi H Q
theorem sl_U : SlR X (rSlU X.K) := sl_list.or sl_str
theorem cutS_eq (z : Str) (lo hi : Option Int) : cutS z lo hi = Mi.cutStr z lo hi := by
  unfold cutS Mi.cutStr Mi.cutL
  have : z.cps.toList.length = z.length := by simp [Str.length]
  rw [this]; rfl
theorem b_slV : BS qV (rSlU K) Mi.dSl := fun x lo hi v H Hv Q vw rx h => by
  cases x with
  | lst ds =>
    obtain ⟨p, xs, rfl, l1, r1⟩ := RD.lst vw rx
    refine .inl ⟨p, xs, rfl, l1.sq, fun a ha => ?_⟩
    obtain ⟨g, k⟩ := new_kV vw (cut_p2 r1 lo hi) ha
    exact h _ _ _ g k
  | str z =>
    cases RD.str rx
    obtain ⟨hz, h⟩ := Mi.fin_guard h
    exact .inr ⟨z, rfl, by rw [sizeLine_eq]; exact hz, h _ H Hv (.refl vw) (by rw [cutS_eq]; exact qv_str)⟩
  | _ => exact h.elim
theorem p2_one {F : D → V → Prop} {d : D} {vs : List V} (h : P2 F [d] vs) : ∃ v, vs = [v] ∧ F d v := by
  cases h with
  | cons r t => cases t; exact ⟨_, rfl, r⟩
theorem p2_two {F : D → V → Prop} {d e : D} {vs : List V} (h : P2 F [d, e] vs) : ∃ v u, vs = [v, u] ∧ F d v ∧ F e u := by
  cases h with
  | cons r t => cases t with
    | cons r' t => cases t; exact ⟨_, _, rfl, r, r'⟩
def rLen (K : PySem.W.Frag) : List V → Hp → VK → Prop := fun xs H Q => ∃ x n, xs = [x] ∧ LenV K x H n ∧ Q (.int n) H
theorem call_lenU : CallR X (.builtin "len") (rLen X.K) := call_len
theorem b_len : BN qV (rLen K) Mi.bLen := fun ds vs H Hv Q vw r h => by
  match ds, r, h with
  | [.lst ds], r, h =>
    obtain ⟨v, ev, rr⟩ := p2_one r
    subst ev
    replace r := rr
    obtain ⟨p, xs, rfl, l1, r1⟩ := RD.lst vw r
    refine ⟨_, xs.length, rfl, .inl ⟨xs, l1.sq, rfl⟩, ?_⟩
    rw [← r1.len]
    exact h _ H Hv (.refl vw) qv_int
  | [.tup ds], r, h =>
    obtain ⟨v, ev, rr⟩ := p2_one r
    subst ev
    replace r := rr
    obtain ⟨p, xs, rfl, l1, _, r1⟩ := RD.tup vw r
    refine ⟨_, xs.length, rfl, .inr ⟨xs, .inl (.inl l1), rfl⟩, ?_⟩
    rw [← r1.len]
    exact h _ H Hv (.refl vw) qv_int
  | [.str z], r, h =>
    obtain ⟨v, ev, rr⟩ := p2_one r
    subst ev
    replace r := rr
    cases RD.str r
    obtain ⟨hz, h⟩ := Mi.fin_guard h
    exact ⟨_, z.length, rfl, ⟨by rw [sizeLine_eq]; exact hz, rfl⟩, h _ H Hv (.refl vw) qv_int⟩
def rMax : List V → Hp → VK → Prop := fun xs H Q => ∃ i j z, xs = [.int i, .int j] ∧ max i j = z ∧ Q (.int z) H
def rMin : List V → Hp → VK → Prop := fun xs H Q => ∃ i j z, xs = [.int i, .int j] ∧ min i j = z ∧ Q (.int z) H
theorem call_maxU (hc : X.calm = true) : CallR X (.builtin "max") rMax := callE_max2 hc
theorem call_minU (hc : X.calm = true) : CallR X (.builtin "min") rMin := callE_min2 hc
theorem b_max : BN qV rMax Mi.bMax := fun ds vs H Hv Q vw r h => by
  match ds, r, h with
  | [.int i, .int j], r, h =>
    obtain ⟨v, u, ev, rr, r'⟩ := p2_two r
    subst ev
    replace r := rr
    cases RD.int r; cases RD.int r'
    exact ⟨i, j, _, rfl, rfl, h _ H Hv (.refl vw) qv_int⟩
theorem b_min : BN qV rMin Mi.bMin := fun ds vs H Hv Q vw r h => by
  match ds, r, h with
  | [.int i, .int j], r, h =>
    obtain ⟨v, u, ev, rr, r'⟩ := p2_two r
    subst ev
    replace r := rr
    cases RD.int r; cases RD.int r'
    exact ⟨i, j, _, rfl, rfl, h _ H Hv (.refl vw) qv_int⟩
def rList (K : PySem.W.Frag) : List V → Hp → VK → Prop := fun xs H Q => ∃ p ys, xs = [.ref p] ∧ (SqL K H p ys ∨ SqT K H p ys) ∧ ∀ l, H l = none → Q (.ref l) (upd H l (.lst ys))
theorem call_listU : CallR X (.type "list") (rList X.K) := call_list_of
theorem b_list : BN qN (rList K) Mi.bList := fun ds vs H Hv Q vw r h => by
  match ds, r, h with
  | [.lst ds], r, h =>
    obtain ⟨v, ev, rr⟩ := p2_one r
    subst ev
    replace r := rr
    obtain ⟨p, xs, rfl, l1, r1⟩ := RD.lst vw r
    refine ⟨p, xs, rfl, .inl l1.sq, fun a ha => ?_⟩
    obtain ⟨g, k⟩ := new_kN vw r1 ha
    exact h _ _ _ g k
  | [.tup ds], r, h =>
    obtain ⟨v, ev, rr⟩ := p2_one r
    subst ev
    replace r := rr
    obtain ⟨p, xs, rfl, l1, _, r1⟩ := RD.tup vw r
    refine ⟨p, xs, rfl, .inr (.inl (.inl l1)), fun a ha => ?_⟩
    obtain ⟨g, k⟩ := new_kN vw r1 ha
    exact h _ _ _ g k
def rTuple (K : PySem.W.Frag) : List V → Hp → VK → Prop := fun xs H Q => ∃ p ys, xs = [.ref p] ∧ ((SqL K H p ys ∧ ∀ l, H l = none → Q (.ref l) (upd H l (.tup ys))) ∨ (SqT K H p ys ∧ Q (.ref p) H))
theorem call_tupleU : CallR X (.type "tuple") (rTuple X.K) := call_tuple_of
theorem b_tuple : BN qV (rTuple K) Mi.bTuple := fun ds vs H Hv Q vw r h => by
  match ds, r, h with
  | [.lst ds], r, h =>
    obtain ⟨v, ev, rr⟩ := p2_one r
    subst ev
    replace r := rr
    obtain ⟨p, xs, rfl, l1, r1⟩ := RD.lst vw r
    refine ⟨p, xs, rfl, .inl ⟨l1.sq, fun a ha => ?_⟩⟩
    obtain ⟨g, k⟩ := new_kT vw r1 ha
    exact h _ _ _ g k
  | [.tup ds], r, h =>
    obtain ⟨v, ev, rr⟩ := p2_one r
    subst ev
    replace r := rr
    obtain ⟨p, xs, rfl, l1, l2, r1⟩ := RD.tup vw r
    exact ⟨p, xs, rfl, .inr ⟨.inl (.inl l1), h _ H Hv (.refl vw) (rep_tup.mpr ⟨p, xs, rfl, l2, r1⟩)⟩⟩
def rInt : List V → Hp → VK → Prop := fun xs H Q => (∃ i, xs = [.int i] ∧ Q (.int i) H) ∨ ∃ k, xs = [.bl k] ∧ Q (.int (if k then 1 else 0)) H
theorem call_intU : CallR X (.type "int") rInt := call_int1
theorem b_int : BN qV rInt Mi.bInt := fun ds vs H Hv Q vw r h => by
  match ds, r, h with
  | [.int i], r, h =>
    obtain ⟨v, ev, rr⟩ := p2_one r
    subst ev
    replace r := rr
    cases RD.int r
    exact .inl ⟨i, rfl, h _ H Hv (.refl vw) qv_int⟩
  | [.bl k], r, h =>
    obtain ⟨v, ev, rr⟩ := p2_one r
    subst ev
    replace r := rr
    cases RD.bl r
    exact .inr ⟨k, rfl, h _ H Hv (.refl vw) qv_int⟩
end
end A
set_option Elab.async false
set_option linter.all false
set_option maxRecDepth 100000
set_option maxHeartbeats 4000000
namespace A
open PySem L2 PyProof.Rows
open Mi (D W Rs Fin fin_bind Out Tg)
variable [Tb : Tabs]
section
variable {X : Cx} {pins : List (Addr × Obj)} {σ : L2.St} {H : Hp} {s : Shared}
open SeqAt in
theorem rc_flat : ∀ {d e : D} {A : Around} {x y : V} {u u' : Value}, d.flat = true → e.flat = true → L2.Rep X.K H d x → L2.Rep X.K H e y → RelV x u → RelV y u' → RcAt A s u u' (Mi.pyEq d e) ∧ RcNeAt A s u u' (!Mi.pyEq d e) := by
  intro d e A x y u u' h1 h2 r1 r2 q1 q2
  cases d with
  | non =>
    rw [L2.Rep] at r1; subst r1; cases q1
    cases e with
    | non => rw [L2.Rep] at r2; subst r2; cases q2; exact ⟨RcAt.none_none, RcNeAt.none_none⟩
    | bl b => rw [L2.Rep] at r2; subst r2; cases q2; exact ⟨RcAt.none_bool b, RcNeAt.none_bool b⟩
    | int b => rw [L2.Rep] at r2; subst r2; obtain ⟨t, rfl⟩ := q2; exact ⟨RcAt.none_int b t, RcNeAt.none_int b t⟩
    | str b => rw [L2.Rep] at r2; subst r2; obtain ⟨t, rfl⟩ := q2; exact ⟨RcAt.none_str b t, RcNeAt.none_str b t⟩
    | _ => cases h2
  | bl a =>
    rw [L2.Rep] at r1; subst r1; cases q1
    cases e with
    | non => rw [L2.Rep] at r2; subst r2; cases q2; exact ⟨RcAt.bool_none a, RcNeAt.bool_none a⟩
    | bl b => rw [L2.Rep] at r2; subst r2; cases q2; rw [Mi.pyEq]; exact ⟨RcAt.bool_bool a b, RcNeAt.bool_bool a b⟩
    | int b => rw [L2.Rep] at r2; subst r2; obtain ⟨t, rfl⟩ := q2; rw [Mi.pyEq]; exact ⟨RcAt.bool_int a b t, RcNeAt.bool_int a b t⟩
    | str b => rw [L2.Rep] at r2; subst r2; obtain ⟨t, rfl⟩ := q2; exact ⟨RcAt.bool_str a b t, RcNeAt.bool_str a b t⟩
    | _ => cases h2
  | int a =>
    rw [L2.Rep] at r1; subst r1; obtain ⟨t1, rfl⟩ := q1
    cases e with
    | non => rw [L2.Rep] at r2; subst r2; cases q2; exact ⟨RcAt.int_none a t1, RcNeAt.int_none a t1⟩
    | bl b => rw [L2.Rep] at r2; subst r2; cases q2; rw [Mi.pyEq]; exact ⟨RcAt.int_bool a t1 b, RcNeAt.int_bool a t1 b⟩
    | int b => rw [L2.Rep] at r2; subst r2; obtain ⟨t, rfl⟩ := q2; rw [Mi.pyEq]; exact ⟨RcAt.int_int a t1 b t, RcNeAt.int_int a t1 b t⟩
    | str b => rw [L2.Rep] at r2; subst r2; obtain ⟨t, rfl⟩ := q2; exact ⟨RcAt.int_str a t1 b t, RcNeAt.int_str a t1 b t⟩
    | _ => cases h2
  | str a =>
    rw [L2.Rep] at r1; subst r1; obtain ⟨t1, rfl⟩ := q1
    cases e with
    | non => rw [L2.Rep] at r2; subst r2; cases q2; exact ⟨RcAt.str_none a t1, RcNeAt.str_none a t1⟩
    | bl b => rw [L2.Rep] at r2; subst r2; cases q2; exact ⟨RcAt.str_bool a t1 b, RcNeAt.str_bool a t1 b⟩
    | int b => rw [L2.Rep] at r2; subst r2; obtain ⟨t, rfl⟩ := q2; exact ⟨RcAt.str_int a t1 b t, RcNeAt.str_int a t1 b t⟩
    | str b => rw [L2.Rep] at r2; subst r2; obtain ⟨t, rfl⟩ := q2; rw [Mi.pyEq]; exact ⟨RcAt.str_str a t1 b t, RcNeAt.str_str a t1 b t⟩
    | _ => cases h2
  | _ => cases h1
open SeqAt in
theorem rc_D (I : Inv X pins σ H s) : ∀ (d e : D) (A : Around) {x y : V} {u u' : Value}, d.dep ≤ 16 → A.units + 17 < cLine → L2.Rep X.K H d x → L2.Rep X.K H e y → RelV x u → RelV y u' → RcAt A s u u' (Mi.pyEq d e) ∧ RcNeAt A s u u' (!Mi.pyEq d e) := by
  intro d e A x y u u' hd hu h h' r r'
  have hu0 : A.units < cLine := by omega
  have item : ∀ {ds es : List D} {xs ys : List V} {its its' : List Value}, Mi.depAll ds ≤ 16 → L2.Reps X.K H ds xs → L2.Reps X.K H es ys → Vals xs its → Vals ys its' →
      ∀ j (h1 : j < its.toArray.size) (h2 : j < its'.toArray.size), EqAt A.in1 s its.toArray[j] its'.toArray[j] (Mi.pyEq (ds.getD j .non) (es.getD j .non)) := by
    intro ds es xs ys its its' hn q q' v v' j h1 h2
    have h1' : j < its.length := by simpa using h1
    have h2' : j < its'.length := by simpa using h2
    have e1 : j < xs.length := by rw [v.length]; exact h1'
    have e2 : j < ys.length := by rw [v'.length]; exact h2'
    have g1 : xs[j]? = some xs[j] := by simp [e1]
    have g2 : ys[j]? = some ys[j] := by simp [e2]
    obtain ⟨w1, k1, r1⟩ := v.get g1
    obtain ⟨w2, k2, r2⟩ := v'.get g2
    have t1 : its.toArray[j] = w1 := by obtain ⟨_, k1⟩ := List.getElem?_eq_some_iff.mp k1; simpa using k1
    have t2 : its'.toArray[j] = w2 := by obtain ⟨_, k2⟩ := List.getElem?_eq_some_iff.mp k2; simpa using k2
    rw [t1, t2]
    have := depAll_le (ds := ds) (j := j)
    refine eqAt_D I 16 _ _ A.in1 (by omega) ?_ (q.get g1) (q'.get g2) r1 r2
    show A.units + 1 + 16 < cLine
    omega
  by_cases hdf : d.flat = true
  · by_cases hef : e.flat = true
    · exact rc_flat hdf hef h h' r r'
    · cases e with
      | lst es =>
        rw [L2.Rep] at h'
        obtain ⟨a, xs, rfl, q, _⟩ := h'
        cases r'
        obtain ⟨its, _, p, _⟩ := I.list q
        cases d with
        | non => rw [L2.Rep] at h; subst h; cases r; exact ⟨RcAt.none_list p.isList hu0, RcNeAt.none_list p.isList hu0⟩
        | bl b => rw [L2.Rep] at h; subst h; cases r; exact ⟨RcAt.bool_list b p.isList hu0, RcNeAt.bool_list b p.isList hu0⟩
        | int b => rw [L2.Rep] at h; subst h; obtain ⟨t, rfl⟩ := r; exact ⟨RcAt.int_list b t p.isList hu0, RcNeAt.int_list b t p.isList hu0⟩
        | str b => rw [L2.Rep] at h; subst h; obtain ⟨t, rfl⟩ := r; exact ⟨RcAt.str_list b t p.isList hu0, RcNeAt.str_list b t p.isList hu0⟩
        | _ => cases hdf
      | tup es =>
        rw [L2.Rep] at h'
        obtain ⟨a, xs, rfl, q, _⟩ := h'
        cases r'
        obtain ⟨its, _, p, _⟩ := I.tuple q
        cases d with
        | non => rw [L2.Rep] at h; subst h; cases r; exact ⟨RcAt.none_tuple p hu0, RcNeAt.none_tuple p hu0⟩
        | bl b => rw [L2.Rep] at h; subst h; cases r; exact ⟨RcAt.bool_tuple b p hu0, RcNeAt.bool_tuple b p hu0⟩
        | int b => rw [L2.Rep] at h; subst h; obtain ⟨t, rfl⟩ := r; exact ⟨RcAt.int_tuple b t p hu0, RcNeAt.int_tuple b t p hu0⟩
        | str b => rw [L2.Rep] at h; subst h; obtain ⟨t, rfl⟩ := r; exact ⟨RcAt.str_tuple b t p hu0, RcNeAt.str_tuple b t p hu0⟩
        | _ => cases hdf
      | _ => exact absurd rfl hef
  · cases d with
    | lst ds =>
      rw [L2.Rep] at h
      obtain ⟨a, xs, rfl, q, rr⟩ := h
      cases r
      obtain ⟨its, v, p, _⟩ := I.list q
      have hn : Mi.depAll ds ≤ 16 := by rw [Mi.D.dep] at hd; omega
      cases e with
      | non => rw [L2.Rep] at h'; subst h'; cases r'; exact ⟨RcAt.list_none p.isList hu0, RcNeAt.list_none p.isList hu0⟩
      | bl b => rw [L2.Rep] at h'; subst h'; cases r'; exact ⟨RcAt.list_bool b p.isList hu0, RcNeAt.list_bool b p.isList hu0⟩
      | int b => rw [L2.Rep] at h'; subst h'; obtain ⟨t, rfl⟩ := r'; exact ⟨RcAt.list_int b t p.isList hu0, RcNeAt.list_int b t p.isList hu0⟩
      | str b => rw [L2.Rep] at h'; subst h'; obtain ⟨t, rfl⟩ := r'; exact ⟨RcAt.list_str b t p.isList hu0, RcNeAt.list_str b t p.isList hu0⟩
      | lst es =>
        rw [L2.Rep] at h'
        obtain ⟨b, ys, rfl, q', rr'⟩ := h'
        cases r'
        obtain ⟨its', v', p', _⟩ := I.list q'
        have l1 := rr.length
        have l2 := rr'.length
        have l3 := v.length
        have l4 := v'.length
        by_cases hl : ds.length = es.length
        · rw [Mi.pyEq, pyEqs_all hl]
          have e1 : its.toArray.size = ds.length := by simp; omega
          have k1 := RcAt.lists p.isList p'.isList (by simp; omega) hu0 (item hn rr rr' v v')
          have k2 := RcNeAt.lists p.isList p'.isList (by simp; omega) hu0 (item hn rr rr' v v')
          rw [e1] at k1 k2
          exact ⟨k1, k2⟩
        · rw [Mi.pyEq, pyEqs_len hl]
          exact ⟨RcAt.lists_lengths p.isList p'.isList (by simp; omega) hu0, RcNeAt.lists_lengths p.isList p'.isList (by simp; omega) hu0⟩
      | tup es =>
        rw [L2.Rep] at h'
        obtain ⟨b, ys, rfl, q', _⟩ := h'
        cases r'
        obtain ⟨its', _, p', _⟩ := I.tuple q'
        exact ⟨RcAt.list_tuple p.isList p' hu0, RcNeAt.list_tuple p.isList p' hu0⟩
    | tup ds =>
      rw [L2.Rep] at h
      obtain ⟨a, xs, rfl, q, rr⟩ := h
      cases r
      obtain ⟨its, v, p, _⟩ := I.tuple q
      have hn : Mi.depAll ds ≤ 16 := by rw [Mi.D.dep] at hd; omega
      cases e with
      | non => rw [L2.Rep] at h'; subst h'; cases r'; exact ⟨RcAt.tuple_none p hu0, RcNeAt.tuple_none p hu0⟩
      | bl b => rw [L2.Rep] at h'; subst h'; cases r'; exact ⟨RcAt.tuple_bool b p hu0, RcNeAt.tuple_bool b p hu0⟩
      | int b => rw [L2.Rep] at h'; subst h'; obtain ⟨t, rfl⟩ := r'; exact ⟨RcAt.tuple_int b t p hu0, RcNeAt.tuple_int b t p hu0⟩
      | str b => rw [L2.Rep] at h'; subst h'; obtain ⟨t, rfl⟩ := r'; exact ⟨RcAt.tuple_str b t p hu0, RcNeAt.tuple_str b t p hu0⟩
      | tup es =>
        rw [L2.Rep] at h'
        obtain ⟨b, ys, rfl, q', rr'⟩ := h'
        cases r'
        obtain ⟨its', v', p', _⟩ := I.tuple q'
        have l1 := rr.length
        have l2 := rr'.length
        have l3 := v.length
        have l4 := v'.length
        have k1 := RcAt.tuples p p' hu0 (item hn rr rr' v v')
        have k2 := RcNeAt.tuples p p' hu0 (item hn rr rr' v v')
        have e1 : its.toArray.size = ds.length := by simp; omega
        have e2 : its'.toArray.size = es.length := by simp; omega
        rw [e1, e2] at k1 k2
        by_cases hl : ds.length = es.length
        · rw [Mi.pyEq, pyEqs_all hl]
          rw [hl, Nat.min_self, beq_self_eq_true, Bool.and_true, ← hl] at k1 k2
          exact ⟨k1, k2⟩
        · rw [Mi.pyEq, pyEqs_len hl]
          have : (ds.length == es.length) = false := by simpa using hl
          rw [this, Bool.and_false] at k1 k2
          exact ⟨k1, k2⟩
      | lst es =>
        rw [L2.Rep] at h'
        obtain ⟨b, ys, rfl, q', _⟩ := h'
        cases r'
        obtain ⟨its', _, p', _⟩ := I.list q'
        exact ⟨RcAt.tuple_list p p'.isList hu0, RcNeAt.tuple_list p p'.isList hu0⟩
    | _ => exact absurd rfl hdf
theorem op_eqD (hu : X.A.units + 64 < cLine) : OpR X (compareOp .Eq) (rEqD X.K false) := by
  intro pins s σ H x y v u Q I rx ry h
  obtain ⟨d, e, r1, r2, hz, q⟩ := h
  exact (rc_D I d e X.A hz (by omega) r1 r2 rx ry).1 _ _ _ _ ⟨.bl _, H, I, rfl, q⟩
theorem op_neD (hu : X.A.units + 64 < cLine) : OpR X (compareOp .NotEq) (rEqD X.K true) := by
  intro pins s σ H x y v u Q I rx ry h
  obtain ⟨d, e, r1, r2, hz, q⟩ := h
  exact (rc_D I d e X.A hz (by omega) r1 r2 rx ry).2 _ _ _ _ ⟨.bl _, H, I, rfl, q⟩
end
section
variable {X : Cx} {K : PySem.W.Frag} {M : Nat → Bool} {κ : Kd} {ta tb te : TE} {a b : Mi.E}
theorem ty_of {H Hv : Hp} (vw : Vw H Hv) {d : D} {v : V} (r : RD H Hv d v) : TyOf K H v (.type (Mi.tyName d)) := by
  cases d with
  | non => cases RD.non r; exact .non
  | bl b => cases RD.bl r; exact .bl b
  | int b => cases RD.int r; exact .int b
  | str b => cases RD.str r; exact .str b
  | lst ds =>
    obtain ⟨p, xs, rfl, l, _⟩ := RD.lst vw r
    rcases l with l | ⟨o, l⟩
    · exact .lst l
    · exact .frz l
  | tup ds =>
    obtain ⟨p, xs, rfl, l, _⟩ := RD.tup vw r
    exact .tup l
def TyIs (K : PySem.W.Frag) (T : String) : Prop := ∀ d : D, PySem.W.kitOne K (.type (Mi.tyName d)) (.type T) = some (Mi.isTy T d)
theorem a_is {T : String} (hT : TyIs K T) (ha : AE M qP ta a) : AE M qV (tCB (rIsT K) (tCons ta (tCons (tC (.ty T)) tNil))) (Mi.m1 (Mi.bIs [T]) a) := fun e σ H Hv Q I h =>
  ha e σ H Hv _ I ((fin_bind.mp h).mono fun x hx v H1 Hv1 g1 rx => ⟨v, _, T, _, rfl, ty_of g1.vw rx, hT x, (Mi.fin_now hx) _ H1 Hv1 g1 (by
    have : ([T].any fun t => Mi.isTy t x) = Mi.isTy T x := by simp
    rw [this]; exact qv_bl)⟩)
theorem ty_bool (K : PySem.W.Frag) : TyIs K "bool" := fun d => by cases d <;> rfl
theorem ty_int (K : PySem.W.Frag) : TyIs K "int" := fun d => by cases d <;> rfl
theorem ty_str (K : PySem.W.Frag) : TyIs K "str" := fun d => by cases d <;> rfl
theorem ty_list (K : PySem.W.Frag) : TyIs K "list" := fun d => by cases d <;> rfl
theorem ty_tuple (K : PySem.W.Frag) : TyIs K "tuple" := fun d => by cases d <;> rfl
end
end A
set_option Elab.async false
set_option linter.all false
set_option maxRecDepth 100000
set_option maxHeartbeats 4000000
namespace A
open PySem L2 PyProof.Rows
open Mi (D W Rs Fin fin_bind Out Tg)
variable [Tb : Tabs]
def Mo (l : List Nat) : Nat → Bool := fun i => l.contains i
theorem start_R1 {M : Nat → Bool} {N : List Str} {k : Nat} {ws : List W} {vs : List V} {H Hv : Hp} (vw : Vw H Hv) (p : P2 (RepW Hv) ws vs) (hk : ws.length = k) (hM : ∀ i, i < k → M i = false) :
    R1 M H Hv (ws.map some ++ List.replicate (N.length - ws.length) none) (start N vs) H Hv := by
  have get : ∀ {i : Nat} {w : W}, (ws.map some ++ List.replicate (N.length - ws.length) none)[i]? = some (some w) → ws[i]? = some w ∧ i < k := fun {i w} h => by
    by_cases hi : i < ws.length
    · rw [List.getElem?_append_left (by simpa using hi), List.getElem?_map] at h
      cases e : ws[i]? with
      | none => rw [e] at h; cases h
      | some a => rw [e] at h; cases h; exact ⟨rfl, by omega⟩
    · rw [List.getElem?_append_right (by simpa using hi), List.getElem?_replicate] at h
      split at h <;> cases h
  have no : ∀ {i : Nat} {w : W}, (ws.map some ++ List.replicate (N.length - ws.length) none)[i]? = some (some w) → M i = true → False := fun {i w} h m => by
    rw [hM i (get h).2] at m; cases m
  refine ⟨⟨vw, ?_, fun i w h m => ?_, fun i w h m => (no h m).elim⟩, .refl vw, fun i w a h m => (no h m).elim, fun i j w w' a b _ h _ m => (no h m).elim⟩
  · unfold L2.start
    rw [List.length_append, List.length_append, List.length_map, List.length_map, List.length_replicate, List.length_replicate, p.len]
  · obtain ⟨hw, hi⟩ := get h
    obtain ⟨v, hv, r⟩ := p.getL hw
    refine ⟨v, ?_, r⟩
    unfold L2.start
    rw [List.getElem?_append_left (by rw [List.length_map, ← p.len]; omega), List.getElem?_map, hv]; rfl
theorem lenD {f : Mi.S} {k n : Nat} {vs : List V} {H : Hp} {Q : VK} {E : XK} (h : spD (Mi.fnM k n f) vs H Q E) : vs.length = k := by
  obtain ⟨Hv, ws, _, p, q⟩ := h
  rw [← p.len]; exact (Mi.fin_guard q).1
theorem lenN {f : Mi.S} {k n : Nat} {vs : List V} {H : Hp} {Q : VK} {E : XK} (h : spN (Mi.fnN k n f) vs H Q E) : vs.length = k := by
  obtain ⟨Hv, ws, _, p, q⟩ := h
  rw [← p.len]; exact (Mi.fin_guard q).1
theorem runD {N : List Str} {M : Nat → Bool} {k : Nat} {t : TS} {m : Mi.S} (hA : AS M qV t m) (hM : ∀ i, i < k → M i = false) {vs : List V} {H : Hp} {Q : VK} {E : XK} (h : spD (Mi.fnM k N.length m) vs H Q E) :
    t { nx := fun _ H' => Q .non H', rt := Q } (start N vs) H := by
  obtain ⟨Hv, ws, vw, p, q⟩ := h
  obtain ⟨hk, q⟩ := Mi.fin_guard q
  refine hA H Hv _ _ H Hv _ (start_R1 vw p hk hM) ((fin_bind.mp q).mono fun o ho => ?_)
  cases o with
  | nx e => exact fun σ H' Hv' I s => ho _ H' Hv' I.gw qv_non
  | rt w => exact fun v H' Hv' g r => ho v H' Hv' g r
  | bk e => exact ho.elim
  | ct e => exact ho.elim
theorem runN {N : List Str} {M : Nat → Bool} {k : Nat} {t : TS} {m : Mi.S} (hA : AS M qN t m) (hM : ∀ i, i < k → M i = false) {vs : List V} {H : Hp} {Q : VK} {E : XK} (h : spN (Mi.fnN k N.length m) vs H Q E) :
    t { nx := fun _ H' => Q .non H', rt := Q } (start N vs) H := by
  obtain ⟨Hv, ws, vw, p, q⟩ := h
  obtain ⟨hk, q⟩ := Mi.fin_guard q
  refine hA H Hv _ _ H Hv _ (start_R1 vw p hk hM) ((fin_bind.mp q).mono fun o ho => ?_)
  cases o with
  | rt w => exact fun v H' Hv' g r => ho v H' Hv' g r
  | nx e => exact ho.elim
  | bk e => exact ho.elim
  | ct e => exact ho.elim
theorem fnOk_zero {P : Program} {w : World} {K : PySem.W.Frag} {mg : Str → Option Value} {base : Heap} {CX : CXT} {k : Nat} {f : Addr} {fd : FuncData} {ps : List Str} : FnOk P w K mg base CX k f fd ps (spD Mi.fnZ) :=
  ⟨fun vs H Q E h => by obtain ⟨_, _, _, _, q⟩ := h; exact q.elim, fun A outer s H args us vs Q E _ _ _ _ h => by obtain ⟨_, _, _, _, q⟩ := h; exact q.elim⟩
def spLaw : Sp := fun vs H Q _ => ∃ (a : Addr) (ns : List Int), vs = [.ref a] ∧ Lst H a (ns.map V.int) ∧ ns.length ≤ 63 ∧ CodeOk H ∧ ∀ H', Q (.bl true) H'
theorem ints_rep (H : Hp) : ∀ ns : List Int, P2 (Rep H) (ns.map D.int) (ns.map V.int)
  | [] => .nil
  | n :: r => .cons (rep_int.mpr rfl) (ints_rep H r)
theorem law_of {P : Program} {w : World} {K : PySem.W.Frag} {mg : Str → Option Value} {base : Heap} {CX : CXT} {k : Nat} {f : Addr} {fd : FuncData} {ps : List Str} {m : Mi.Fn} (F : FnOk P w K mg base CX k f fd ps (spD m))
    (h : ∀ ns : List Int, ns.length ≤ 63 → m [.d (.lst (ns.map D.int))] = .ok (.d (.bl true))) : FnOk P w K mg base CX k f fd ps spLaw :=
  F.imp fun vs H Q E ⟨a, ns, e, l, hl, k, q⟩ => by
    subst e
    have l' : Lst (noT H) a (ns.map V.int) := by
      rcases l with l | ⟨o, l⟩
      · exact .inl (noT_some l trivial)
      · exact .inr ⟨o, noT_some l trivial⟩
    refine ⟨noT H, [.d (.lst (ns.map D.int))], .all k, .cons (rep_lst.mpr ⟨a, _, rfl, l', ints_rep _ ns⟩) .nil, ?_⟩
    rw [h ns hl]
    intro v H' Hv' g r
    cases (rep_bl (H := Hv')).mp r
    exact q H'
theorem turned_new {X : Cx} {pins : List (Addr × Obj)} {σ : L2.St} {H : Hp} {s : Shared} {fp : List Addr} {T : Addr} {o : HO} {h' : Heap} {t' : Nat} (I : Inv X pins σ H s) (hf : ∀ b ∈ fp, FpOk X pins H b)
    (k : ∀ b u, b ∉ fp → s.heap.get? b = some u → h'.get? b = some u) (hT : s.heap.objs.size ≤ T) (new : ObjOk X.prog X.w (upd H T o) h' T o) : Inv X pins σ (upd H T o) { s with heap := h', toks := t' } := by
  have hn : H T = none := I.hok.fresh hT
  have nfp : ∀ b u, H b = some u → b ∉ fp := fun b u e z => by rw [(hf b z).1] at e; cases e
  refine I.call' (s' := { s with heap := h', toks := t' }) (ch := fp) rfl ⟨fun b u e _ _ hb => k b u hb e, fun b u e _ _ hb => ⟨u.slots, k b u hb e⟩, fun b u e hb _ => ?_, fun b u e hb => ⟨u, k b u hb e⟩, fun b xs e => ?_, fun b q u e => ?_, fun b w ps e => ⟨#[], ?_⟩⟩ ?_ I.bare
    fun b hb => ⟨(hf b hb).2.2.2.1, (hf b hb).2.1, (hf b hb).2.2.2.2.1, (hf b hb).2.2.2.2.2⟩
  · have : b ≠ T := Nat.ne_of_lt (Nat.lt_of_lt_of_le (Heap.lt_size e) hT)
    rw [upd_ne this]; exact hb
  · rw [upd_ne (ne_of_none e hn)]; exact e
  · rw [upd_ne (ne_of_none e hn)]; exact e
  · rw [upd_ne (ne_of_none e hn), e]; simp
  · intro b u e
    by_cases hb : b = T
    · subst hb; rw [upd_same] at e; cases e; exact new
    · rw [upd_ne hb] at e
      refine (I.hok b u e).stay (fun c v hc q => k c v ?_ q) (fun c q => by rw [upd_ne (ne_of_none q hn)]; exact q) fun c xs q => by rw [upd_ne (ne_of_none q hn)]; exact q
      rcases hc with z | z
      · rw [z]; exact nfp b u e
      · exact nfp c _ z
theorem turned_all {X : Cx} {pins : List (Addr × Obj)} {σ : L2.St} {H : Hp} {s : Shared} {fp : List Addr} {h' : Heap} {t' : Nat} (I : Inv X pins σ H s) (hf : ∀ b ∈ fp, FpOk X pins H b)
    (k : ∀ b u, b ∉ fp → s.heap.get? b = some u → h'.get? b = some u) : Inv X pins σ H { s with heap := h', toks := t' } := by
  have nfp : ∀ b u, H b = some u → b ∉ fp := fun b u e z => by rw [(hf b z).1] at e; cases e
  refine I.call' (s' := { s with heap := h', toks := t' }) (ch := fp) rfl ⟨fun b u e _ _ hb => k b u hb e, fun b u e _ _ hb => ⟨u.slots, k b u hb e⟩, fun b u e hb _ => hb, fun b u e hb => ⟨u, k b u hb e⟩, fun b xs e => e, fun b q u e => e, fun b w ps e => ⟨#[], by rw [e]; simp⟩⟩ ?_ I.bare
    fun b hb => ⟨(hf b hb).2.2.2.1, (hf b hb).2.1, (hf b hb).2.2.2.2.1, (hf b hb).2.2.2.2.2⟩
  intro b u e
  refine (I.hok b u e).stay (fun c v hc q => k c v ?_ q) (fun c q => q) fun c xs q => q
  rcases hc with z | z
  · rw [z]; exact nfp b u e
  · exact nfp c _ z
section
variable {X : Cx} {elts : List Expr} {k1 : Nat} {tpos : Pos}
theorem enum_get : ∀ {ds : List D} {k i : Nat} {d : D}, ds[i]? = some d → (Mi.dEnum k ds)[i]? = some (.tup [.int ((k + i : Nat) : Int), d])
  | [], _, _, _, h => by simp at h
  | d :: r, k, 0, e, h => by simp at h; subst h; rfl
  | d :: r, k, i + 1, e, h => by
    have := enum_get (ds := r) (k := k + 1) (i := i) (d := e) (by simpa using h)
    rw [Mi.dEnum, List.getElem?_cons_succ, this]
    rw [show k + 1 + i = k + (i + 1) by omega]
theorem enum_len : ∀ (ds : List D) (k : Nat), (Mi.dEnum k ds).length = ds.length
  | [], _ => rfl
  | d :: r, k => by rw [Mi.dEnum, List.length_cons, List.length_cons, enum_len r]
end
end A
set_option Elab.async false
set_option linter.all false
set_option maxRecDepth 100000
set_option maxHeartbeats 4000000
namespace A
open PySem L2 PyProof.Rows
open Mi (D W Rs Fin fin_bind Out Tg)
variable [Tb : Tabs]
section
variable {X : Cx} {K : PySem.W.Frag} {M : Nat → Bool} {κ : Kd} {ta tb te tk : TE} {a b k : Mi.E}
theorem asSs_ok {Hv : Hp} : ∀ {ds : List D} {xs : List V} {bs : List Str}, Mi.asSs ds = some bs → P2 (Rep Hv) ds xs → xs = bs.map V.str
  | [], _, bs, e, r => by cases e; cases r; rfl
  | .str b :: ds, _, bs, e, r => by
    cases r with
    | cons x t =>
      cases hb : Mi.asSs ds with
      | none => rw [Mi.asSs, hb] at e; cases e
      | some cs =>
        rw [Mi.asSs, hb] at e
        cases e
        rw [asSs_ok hb t, rep_str.mp x]; rfl
  | .non :: _, _, _, e, _ => by cases e
  | .int _ :: _, _, _, e, _ => by cases e
  | .bl _ :: _, _, _, e, _ => by cases e
  | .lst _ :: _, _, _, e, _ => by cases e
  | .tup _ :: _, _, _, e, _ => by cases e
theorem a_join (ha : AE M qP ta a) (hb : AE M qP tb b) : AE M qV (tBM K "str" (rJoin K) ta (tCons tb tNil)) (Mi.m2 Mi.dJoin a b) := fun e σ H Hv Q I h => by
  obtain ⟨x, hx, h⟩ := fin_ok (fin_bind.mp h)
  obtain ⟨y, hy, h⟩ := fin_ok (fin_bind.mp h)
  cases x with
  | str sep => cases y with
    | lst ds =>
      obtain ⟨ys, hs, h⟩ := ofO_ok (fin_bind.mp h)
      obtain ⟨hz, h⟩ := Mi.fin_guard h
      refine ha e σ H Hv _ I (by
        rw [hx]
        intro v H1 Hv1 g1 r1
        cases RD.str r1
        refine ⟨rfl, hb e σ H1 Hv1 _ (I.grow g1) (by
          rw [hy]
          intro v2 H2 Hv2 g2 r2
          obtain ⟨p, xs, rfl, l, r⟩ := RD.lst g2.vw r2
          have := asSs_ok hs r
          subst this
          exact ⟨sep, p, ys, rfl, rfl, l.sq, hz, (Mi.fin_now h) _ H2 Hv2 (g1.trans g2) qv_str⟩)⟩)
    | _ => exact h.elim
  | _ => cases y <;> exact h.elim
def rExtendS : V → List V → Hp → VK → Prop := fun x vs H Q => ∃ l b xs zs, x = .ref l ∧ vs = [.ref b] ∧ H l = some (.lst xs) ∧ Lst H b zs ∧ xs.length + zs.length ≤ sizeLine ∧ Q .non (upd H l (.lst (xs ++ zs)))
theorem mt_extendS : MtM X "list.extend" rExtendS := by
  intro pins s σ H x vs v us Q I rx rv h
  obtain ⟨l, b, xs, zs, rfl, rfl, hH, hB, hz, q⟩ := h
  cases rx
  obtain ⟨u, rfl, ru⟩ := rv.one
  cases ru
  obtain ⟨z, its, n, r, hl, e⟩ := I.lstM hH
  obtain ⟨its2, n2, r2, z2, e2⟩ := lstL I hB
  have hl2 := r2.length
  have hsz : its.toArray.size + its2.toArray.size ≤ sizeLine := by rw [List.size_toArray, List.size_toArray]; omega
  have hlong : ¬ (!its.toArray.isEmpty && Builtin.List.listTooLong (its.toArray.size + its2.toArray.size)) = true := by
    rw [notLongL hsz, Bool.and_false]
    exact Bool.false_ne_true
  refine call_meets F.slot_list_extend ⟨_, e, rfl⟩ F.entry_list_extend (F.args_list_extend_2 _ _)
    (AutoSeq1.list_extend_list_list_0 l its.toArray n b its2.toArray n2 hlong (by rw [List.size_toArray]; omega) (by omega)) ⟨e, e2, ?_⟩
  refine ⟨.non, _, I.lset (its' := its ++ its2) hH e (by simp) (r.append r2) ?_, rfl, q⟩
  rw [List.length_append]
  omega
theorem as_extend (i : Nat) (hm : M i = true) (ha : AE M qV te a) : AS M κ (tDrop (tBM K "list" rExtendS (tVar i) (tCons te tNil))) (Mi.sExtend i a) := fun H0 Hv0 e σ H Hv D I h => by
  obtain ⟨d, hd, h⟩ := fin_ok (fin_bind.mp h)
  obtain ⟨ds, he, h⟩ := getL_ok (fin_bind.mp h)
  cases d with
  | lst es =>
    obtain ⟨hz, h⟩ := Mi.fin_guard h
    obtain ⟨p, xs, q, q1, n, c⟩ := I.list hm he
    refine ⟨.ref p, q, .inl ⟨rfl, xs, .inl (.inl q1)⟩, ha e σ H Hv _ I.toR0 (by
      rw [hd]
      intro v H1 Hv1 g1 r
      have I1 := I.grow g1
      obtain ⟨b, ys, rfl, l, r⟩ := (rep_lst (H := Hv1)).mp r
      refine ⟨p, b, xs, ys, rfl, rfl, g1.old.at q1, l.same g1.vw.sub, by rw [← c.len, ← r.len, sizeLine_eq]; exact hz, ?_⟩
      exact h σ _ Hv1 (I1.write hm he q (show CellIs Hv1 (.d (.lst (ds ++ es))) (.lst (xs ++ ys)) from (p2_same g1.vis c).append r)) g1.vis)⟩
  | _ => exact h.elim
end
end A
set_option Elab.async false
set_option linter.all false
set_option maxRecDepth 100000
set_option maxHeartbeats 4000000
namespace Zp
open PySem PySem.Spec PyProof.Rows L2
variable [Tb : A.Tabs]
section
variable {P : Program} {w : World} {B : Around} {F : Value → Shared → Prop} {z : Shared}
theorem nx_tup {c t : Addr} {i : Nat} {us : Array Value} {u : Value} {R : Value → Shared → Prop} (hc : z.heap.IsTupleIter c t i) (ht : z.heap.IsTuple t us) (hu : us[i]? = some u)
    (hR : ∀ h', h'.IsTupleIter c t (i + 1) → Heap.SameBut c z.heap h' → R u { z with heap := h' }) : wpAny (model P w) B (Builtin.SmallTypes.nextOf (.ref c)) R F z := by
  obtain ⟨ob, gb, cb, db⟩ := id hc
  obtain ⟨ol, gl, _, nl, dl⟩ := ht
  unfold Builtin.SmallTypes.nextOf
  refine wpAny_bind (wpAny_callSpecial?_slot (name := Str.ofString "__next__") hc.typeIs PySem.F.slot_tuple_iterator_next (wpAny_call_entry PySem.F.slot_tuple_iterator_next hc.typeIs PySem.F.entry_tuple_iterator_next ?_ (PySem.F.args_tuple_iterator_next_1 _)))
  show wpAny _ _ (field (.ref c) 0 >>= _) _ _ z
  refine wpAny_bind (wpAny_field gb db (x := .ref t) rfl ?_)
  show wpAny _ _ (if (Value.ref t == Value.none) = true then _ else _) _ _ z
  rw [if_neg (fun q : (Value.ref t == Value.none) = true => nomatch q)]
  show wpAny _ _ (field (.ref c) 1 >>= _) _ _ z
  refine wpAny_bind (wpAny_field gb db (x := .int i 0) rfl ?_)
  show wpAny _ _ (seqItems? (.ref t) >>= _) _ _ z
  refine wpAny_bind (wpAny_seqItems gl dl ?_)
  simp only [Int.toNat_natCast, hu]
  refine wpAny_bind (wpAny_setField gb db (by simp) (wpAny_pure ⟨u, rfl, wpAny_pure (hR _ ?_ (Heap.SameBut.update ..))⟩))
  refine ⟨_, Heap.get?_update_self _ gb (Obj.isFreed_of_fields (Obj.data_mapFields db _)), (Obj.cls_mapFields ..).trans cb, ?_⟩
  rw [Obj.data_mapFields db]; simp [rawInt]
theorem nx_tup_end {c t : Addr} {i : Nat} {us : Array Value} {R : Value → Shared → Prop} (hn : B.handled = none) (hc : z.heap.IsTupleIter c t i) (ht : z.heap.IsTuple t us) (hu : us[i]? = none)
    (hF : ∀ h' e, Heap.ExtBut c z.heap h' → (∃ o, h'.get? e = some o ∧ o.cls = .type "StopIteration") → F (.ref e) { z with heap := h' }) : wpAny (model P w) B (Builtin.SmallTypes.nextOf (.ref c)) R F z := by
  obtain ⟨ob, gb, cb, db⟩ := id hc
  obtain ⟨ol, gl, _, nl, dl⟩ := ht
  unfold Builtin.SmallTypes.nextOf
  refine wpAny_bind (wpAny_callSpecial?_slot (name := Str.ofString "__next__") hc.typeIs PySem.F.slot_tuple_iterator_next (wpAny_call_entry PySem.F.slot_tuple_iterator_next hc.typeIs PySem.F.entry_tuple_iterator_next ?_ (PySem.F.args_tuple_iterator_next_1 _)))
  show wpAny _ _ (field (.ref c) 0 >>= _) _ _ z
  refine wpAny_bind (wpAny_field gb db (x := .ref t) rfl ?_)
  show wpAny _ _ (if (Value.ref t == Value.none) = true then _ else _) _ _ z
  rw [if_neg (fun q : (Value.ref t == Value.none) = true => nomatch q)]
  show wpAny _ _ (field (.ref c) 1 >>= _) _ _ z
  refine wpAny_bind (wpAny_field gb db (x := .int i 0) rfl ?_)
  show wpAny _ _ (seqItems? (.ref t) >>= _) _ _ z
  refine wpAny_bind (wpAny_seqItems gl dl ?_)
  simp only [Int.toNat_natCast, hu]
  refine wpAny_bind (wpAny_rule (wpAny_bind (wpAny_setField gb db (by simp) ?_)))
  show wpAny _ _ (newExc (.type "StopIteration") [] >>= _) _ _ _
  refine wpAny_bind ?_
  simp only [newExc, newTuple]
  refine wpAny_bind (wpAny_newObj_type ?_ (by size_fits))
  refine wpAny_bind (m := firstArgMember _ _) (wpAny_of_eq (a := Value.none) (by simp only [firstArgMember]; rfl) (wpAny_newObj_type ?_ (by size_fits)))
  simp only [raiseNew]
  refine wpAny_bind (wpAny_handled ?_)
  first | rw [show B.in1.handled = none from hn] | rw [hn]
  exact wpAny_bind (wpAny_pure (wpAny_throw (hF _ _ (((Heap.SameBut.update ..).extBut.push _).push _) ⟨_, Heap.get?_push_size _ rfl, rfl⟩)))
end
def nm : Bool → String | true => "list" | false => "tuple"
def nmI : Bool → String | true => "list_iterator" | false => "tuple_iterator"
def AtQ (k : Bool) (h : Heap) (l : Addr) (us : Array Value) : Prop := ∃ o, h.get? l = some o ∧ o.cls = .type (nm k) ∧ ∃ n, o.data = .seq us n
def AtI (k : Bool) (h : Heap) (c l : Addr) (i : Nat) : Prop := ∃ o, h.get? c = some o ∧ o.cls = .type (nmI k) ∧ o.data = .fields #[.ref l, .int i 0]
theorem AtQ.at {k : Bool} {h h' : Heap} {l : Addr} {us : Array Value} (x : AtQ k h l us) (f : ∀ o, h.get? l = some o → h'.get? l = some o) : AtQ k h' l us := let ⟨o, e, r⟩ := x; ⟨o, f o e, r⟩
theorem AtI.at {k : Bool} {h h' : Heap} {c l : Addr} {i : Nat} (x : AtI k h c l i) (f : ∀ o, h.get? c = some o → h'.get? c = some o) : AtI k h' c l i := let ⟨o, e, r⟩ := x; ⟨o, f o e, r⟩
theorem AtI.cell {k : Bool} {h : Heap} {c l : Addr} {i : Nat} (x : AtI k h c l i) : ∃ o, h.get? c = some o ∧ ∀ v, o.data ≠ .cell v := let ⟨o, e, _, d⟩ := x; ⟨o, e, fun v q => by rw [d] at q; cases q⟩
section
variable {P : Program} {w : World} {B : Around} {F : Value → Shared → Prop} {z : Shared}
theorem nx {k : Bool} {c t : Addr} {i : Nat} {us : Array Value} {u : Value} {R : Value → Shared → Prop} (hc : AtI k z.heap c t i) (ht : AtQ k z.heap t us) (hu : us[i]? = some u)
    (hR : ∀ h', AtI k h' c t (i + 1) → Heap.SameBut c z.heap h' → R u { z with heap := h' }) : wpAny (model P w) B (Builtin.SmallTypes.nextOf (.ref c)) R F z := by
  cases k
  · exact nx_tup hc ht hu hR
  · exact wpAny_nextOf_list_item hc ht hu hR
theorem nx_end {k : Bool} {c t : Addr} {i : Nat} {us : Array Value} {R : Value → Shared → Prop} (hn : B.handled = none) (hc : AtI k z.heap c t i) (ht : AtQ k z.heap t us) (hu : us[i]? = none)
    (hF : ∀ h' e, Heap.ExtBut c z.heap h' → (∃ o, h'.get? e = some o ∧ o.cls = .type "StopIteration") → F (.ref e) { z with heap := h' }) : wpAny (model P w) B (Builtin.SmallTypes.nextOf (.ref c)) R F z := by
  cases k
  · exact nx_tup_end hn hc ht hu hF
  · exact wpAny_nextOf_list_end hn hc ht hu hF
abbrev itO (k : Bool) (l : Addr) : Obj := { cls := .type (nmI k), data := .fields #[.ref l, .int 0 0] }
theorem it_of {k : Bool} {l : Addr} {us : Array Value} {R : Value → Shared → Prop} (h : AtQ k z.heap l us) (hR : R (.ref z.heap.objs.size) { z with heap := z.heap.push (itO k l) }) : wpAny (model P w) B (pyIter (.ref l)) R F z := by
  cases k
  · exact wpAny_pyIter_tuple h hR
  · exact wpAny_pyIter_list h hR
end
theorem drawsQ {P : Program} {w : World} {B : Around} (hn : B.handled = none) (k : Bool) (c l : Addr) (hne : l ≠ c) (us : Array Value) :
    Draws P w B c [c, l] us.size (fun i v => us[i]? = some v) (fun i h => AtI k h c l i ∧ AtQ k h l us) where
  live := fun _ _ st => let ⟨o, ho, _⟩ := st.1; ⟨o, ho⟩
  frame := fun _ _ _ st f => ⟨st.1.at fun o e => f c (by simp) o e, st.2.at fun o e => f l (by simp) o e⟩
  item := fun i s Q E hi st hQ => nx st.1 st.2 (u := us[i]) (by simp [hi]) fun h' a b => hQ _ h' s.toks (by simp [hi]) ⟨a, st.2.at fun o e => b.extBut _ _ hne e⟩ b
  done := fun s Q E st hE => nx_end hn st.1 st.2 (by simp) hE
end Zp
set_option Elab.async false
set_option linter.all false
set_option maxRecDepth 100000
set_option maxHeartbeats 4000000
namespace Zp
open PySem PySem.Spec PyProof.Rows L2
variable [Tb : A.Tabs]
structure Sr where
  k : Bool
  c : Addr
  l : Addr
  us : Array Value
def On (h : Heap) (i : Nat) (q : Sr) : Prop := AtI q.k h q.c q.l i ∧ AtQ q.k h q.l q.us
theorem On.at {h h' : Heap} {i : Nat} {q : Sr} (x : On h i q) (f : ∀ b o, b = q.c ∨ b = q.l → h.get? b = some o → h'.get? b = some o) : On h' i q :=
  ⟨x.1.at fun o e => f _ o (.inl rfl) e, x.2.at fun o e => f _ o (.inr rfl) e⟩
abbrev TupAt (h : Heap) (T : Addr) (vs : List Value) : Prop := h.get? T = some { cls := .type "tuple", data := .seq vs.toArray }
structure Ap (z TI TO : Addr) (L : List Sr) : Prop where
  TIz : TI ≠ z
  TOz : TO ≠ z
  TITO : TI ≠ TO
  nd : (L.map (·.c)).Nodup
  c : ∀ q ∈ L, q.c ≠ z ∧ q.c ≠ TI ∧ q.c ≠ TO
  l : ∀ q ∈ L, q.l ≠ z ∧ q.l ≠ TO ∧ ∀ r ∈ L, q.l ≠ r.c
theorem loop_rule {M : Model} {B : Around} {α β : Type} {b : β} {f : α → β → Sem (ForInStep β)} {E : Value → Shared → Prop} (I : Nat → Shared → Prop) : ∀ (xs : List α) (n : Nat) (s : Shared),
    (∀ j x, xs[j]? = some x → ∀ s, I (n + j) s → wpAny M B (f x b) (fun r s' => r = .yield b ∧ I (n + j + 1) s') E s) → I n s → wpAny M B (forIn xs b f) (fun r s' => r = b ∧ I (n + xs.length) s') E s
  | [], n, s, _, h => by
    rw [List.forIn_nil]; exact wpAny_pure ⟨rfl, h⟩
  | x :: r, n, s, hs, h => by
    rw [List.forIn_cons]
    refine wpAny_bind (wpAny_mono (hs 0 x rfl s h) (fun y s' hy => ?_) fun _ _ e => e)
    obtain ⟨rfl, hy⟩ := hy
    refine wpAny_mono (loop_rule I r (n + 1) s' (fun j x' e s2 h2 => ?_) hy) (fun y s2 h2 => ⟨h2.1, ?_⟩) fun _ _ e => e
    · rw [show n + 1 + j = n + (j + 1) by omega] at h2 ⊢
      exact hs (j + 1) x' (by simpa using e) s2 h2
    · rw [List.length_cons, show n + (r.length + 1) = n + 1 + r.length by omega]; exact h2.2
section
variable {P : Program} {w : World} {B : Around} {F : Value → Shared → Prop} {s : Shared}
def Kp (z TO : Addr) (L : List Sr) (h h' : Heap) : Prop := ∀ b o, b ≠ z → b ≠ TO → b ∉ L.map (·.c) → h.get? b = some o → h'.get? b = some o
structure Mid (s : Shared) (z TI TO : Addr) (L : List Sr) (i n : Nat) (s' : Shared) : Prop where
  zz : IsZip s'.heap z TI TO .ellipsis
  vs : ∃ vs : List Value, vs.length = L.length ∧ TupAt s'.heap TO vs ∧ ∀ (j : Nat) (q : Sr), j < n → L[j]? = some q → vs[j]? = q.us[i]? ∧ i < q.us.size
  on : ∀ (j : Nat) (q : Sr), L[j]? = some q → On s'.heap (if j < n then i + 1 else i) q
  sz : s'.heap.objs.size = s.heap.objs.size
  kp : Kp z TO L s.heap s'.heap
  eq : s' = { s with heap := s'.heap }
theorem nd_ne {L : List Sr} (h : (L.map (·.c)).Nodup) {i j : Nat} {p q : Sr} (hp : L[i]? = some p) (hq : L[j]? = some q) (hij : i ≠ j) : p.c ≠ q.c := by
  intro e
  have h1 : (L.map (·.c))[i]? = some p.c := by rw [List.getElem?_map, hp]; rfl
  have h2 : (L.map (·.c))[j]? = some q.c := by rw [List.getElem?_map, hq]; rfl
  obtain ⟨l1, g1⟩ := List.getElem?_eq_some_iff.mp h1
  obtain ⟨l2, g2⟩ := List.getElem?_eq_some_iff.mp h2
  exact hij ((List.getElem_inj h).mp (by rw [g1, g2, e]))
theorem zip_next {z TI TO : Addr} {L : List Sr} {i : Nat} {vs : List Value} {R : Value → Shared → Prop} (hh : B.handled = none) (D : Ap z TI TO L) (h0 : L ≠ [])
    (hz : IsZip s.heap z TI TO .none) (hI : TupAt s.heap TI (L.map fun q => .ref q.c)) (hO : TupAt s.heap TO vs) (hl : vs.length = L.length) (hL : L.length ≤ 8) (hon : ∀ q ∈ L, On s.heap i q)
    (hR : ∀ (h' : Heap) (ws : List Value), IsZip h' z TI TO (rawInt s.heap.objs.size) → ws.length = L.length → (∀ (j : Nat) (q : Sr), L[j]? = some q → ws[j]? = q.us[i]? ∧ i < q.us.size) → TupAt h' TO ws → TupAt h' s.heap.objs.size ws → (∀ q ∈ L, On h' (i + 1) q) →
      Kp z TO L s.heap h' → R (.ref s.heap.objs.size) { s with heap := h' })
    (hF : ∀ (h' : Heap) (e : Addr), Kp z TO L s.heap h' → (∃ o, h'.get? e = some o ∧ o.cls = .type "StopIteration") → (∃ q ∈ L, q.us.size ≤ i) → F (.ref e) { s with heap := h' }) :
    wpAny (model P w) B (Builtin.«zip.__next__» ⟨[.ref z], []⟩) (fun fin s' => ∃ v, fin = .done (.ret v) ∧ R v s') F s := by
  show wpAny _ _ (field (.ref z) 2 >>= _) _ _ _
  refine wpAny_bind (wpAny_field hz rfl (x := .bool false) rfl ?_)
  show wpAny _ _ (field (.ref z) 3 >>= _) _ _ _
  refine wpAny_bind (wpAny_field hz rfl (x := .ref TI) rfl ?_)
  refine wpAny_bind (wpAny_seqItems hI rfl ?_)
  have hne : ((L.map fun q => Value.ref q.c).toArray.isEmpty) = false := by cases L with | nil => exact absurd rfl h0 | cons q r => rfl
  simp only [hne, Bool.false_eq_true, if_false]
  show wpAny _ _ (Builtin.SmallTypes.ownedTupleIsFree (.ref z) >>= _) _ _ _
  refine wpAny_bind ?_
  unfold Builtin.SmallTypes.ownedTupleIsFree
  refine wpAny_bind (wpAny_field hz rfl (x := .none) rfl (wpAny_pure ?_))
  simp only [if_true]
  refine wpAny_bind (wpAny_rule (wpAny_bind (wpAny_field hz rfl (x := .ref TO) rfl (wpAny_bind (wpAny_setField_rec hz (by simp) fun h1 hz1 hs1 => ?_)))))
  replace hz1 : IsZip h1 z TI TO .ellipsis := hz1
  have M0 : Mid s z TI TO L i 0 { s with heap := h1 } := ⟨hz1, ⟨vs, hl, hs1.extBut _ _ D.TOz hO, fun j q h _ => absurd h (Nat.not_lt_zero _)⟩, fun j q e => (hon q (List.mem_of_getElem? e)).at fun b o hb x => by
      have hq := List.mem_of_getElem? e
      rcases hb with rfl | rfl
      · exact hs1.extBut _ _ (D.c q hq).1 x
      · exact hs1.extBut _ _ (D.l q hq).1 x, hs1.1, fun b o b1 _ _ x => hs1.extBut _ _ b1 x, rfl⟩
  refine wpAny_bind (wpAny_mono (loop_rule (Mid s z TI TO L i) _ 0 _ ?_ M0) ?_ fun _ _ e => e)
  · intro j x e s2 M
    rw [Nat.zero_add] at M ⊢
    obtain ⟨q, hq, rfl⟩ : ∃ q, L[j]? = some q ∧ x = (Value.ref q.c, j) := by
      simp only [List.getElem?_zipIdx, List.getElem?_map, Option.map_map] at e
      obtain ⟨q, hq, e⟩ := Option.map_eq_some_iff.mp e
      exact ⟨q, hq, by rw [← e]; simp⟩
    have hqm := List.mem_of_getElem? hq
    have jlt : j < L.length := (List.getElem?_eq_some_iff.mp hq).1
    have onq := M.on j q hq
    rw [if_neg (Nat.lt_irrefl j)] at onq
    obtain ⟨ws, wl, wO, wv⟩ := M.vs
    refine wpAny_bind (wpAny_onRaise ?_)
    show wpAny _ _ (Builtin.SmallTypes.nextOf (.ref q.c) >>= _) _ _ _
    cases hu : q.us[i]? with
    | none =>
      refine wpAny_bind (nx_end hh onq.1 onq.2 hu fun h3 e2 x3 he => ?_)
      obtain ⟨oe, goe, coe⟩ := he
      have hz3 : IsZip h3 z TI TO .ellipsis := x3 _ _ (D.c q hqm).1.symm M.zz
      have hez : e2 ≠ z := fun y => by subst y; rw [hz3] at goe; cases goe; simp at coe
      refine wpAny_setField_rec hz3 (by simp) fun h4 _ x4 => ?_
      rw [M.eq]
      exact hF h4 e2 (fun b o b1 b2 b3 y => x4.extBut _ _ b1 (x3 _ _ (fun q' => b3 (by rw [q']; exact List.mem_map_of_mem hqm)) (M.kp b o b1 b2 b3 y))) ⟨oe, x4.extBut _ _ hez goe, coe⟩ ⟨q, hqm, by simpa using hu⟩
    | some u =>
      refine wpAny_bind (nx onq.1 onq.2 hu fun h3 a3 x3 => wpAny_pure ?_)
      have hO3 : TupAt h3 TO ws := x3.extBut _ _ (D.c q hqm).2.2.symm wO
      refine wpAny_bind (wpAny_seqItems hO3 rfl (wpAny_bind (wpAny_updateSeq hO3 rfl ?_ (by rw [List.size_toArray, wl, sizeLine_eq]; omega) (by simp only [Array.size_setIfInBounds, List.size_toArray]; rw [wl, sizeLine_eq]; omega))))
      refine wpAny_bind (wpAny_letGo (wpAny_pure ⟨rfl, ?_⟩))
      have x4 : Heap.SameBut TO h3 (h3.update TO (Obj.mapSeq (·.setIfInBounds j u))) := Heap.SameBut.update ..
      have hu' : i < q.us.size := (Array.getElem?_eq_some_iff.mp hu).1
      have up : ∀ b o, b ≠ q.c → b ≠ TO → s2.heap.get? b = some o → (h3.update TO (Obj.mapSeq (·.setIfInBounds j u))).get? b = some o := fun b o b1 b2 y => x4.extBut _ _ b2 (x3.extBut _ _ b1 y)
      refine ⟨up _ _ (D.c q hqm).1.symm D.TOz.symm M.zz, ⟨ws.set j u, by rw [List.length_set]; exact wl, ?_, fun k r hk hr => ?_⟩, fun k r hr => ?_, ?_, fun b o b1 b2 b3 y => up b o (fun q' => b3 (by rw [q']; exact List.mem_map_of_mem hqm)) b2 (M.kp b o b1 b2 b3 y), ?_⟩
      · show (h3.update TO _).get? TO = _
        rw [Heap.get?_update_self _ hO3 rfl]
        simp [Obj.mapSeq]
      · by_cases hkj : k = j
        · subst hkj
          rw [hq] at hr; cases hr
          rw [List.getElem?_set, if_pos rfl, if_pos (by omega), hu]
          exact ⟨rfl, hu'⟩
        · rw [List.getElem?_set, if_neg (fun q => hkj q.symm)]
          exact wv k r (by omega) hr
      · have hrm := List.mem_of_getElem? hr
        by_cases hkj : k = j
        · subst hkj
          rw [hq] at hr; cases hr
          rw [if_pos (Nat.lt_succ_self _)]
          exact ⟨a3.at fun o y => x4.extBut _ _ (D.c q hqm).2.2 y, onq.2.at fun o y => up _ o ((D.l q hqm).2.2 q hqm) (D.l q hqm).2.1 y⟩
        · have := M.on k r hr
          rw [show (if k < j then i + 1 else i) = (if k < j + 1 then i + 1 else i) from by
            by_cases h : k < j
            · rw [if_pos h, if_pos (by omega)]
            · rw [if_neg h, if_neg (by omega)]] at this
          exact this.at fun b o hb y => by
            rcases hb with rfl | rfl
            · exact up _ _ (nd_ne D.nd hr hq hkj) (D.c r hrm).2.2 y
            · exact up _ _ ((D.l r hrm).2.2 q hqm) (D.l r hrm).2.1 y
      · show (h3.update TO _).objs.size = _
        rw [x4.1, x3.1, M.sz]
      · rw [M.eq]
  · rintro r s2 ⟨rfl, M⟩
    have hL2 : 0 + ((L.map fun q => Value.ref q.c).toArray.toList.zipIdx).length = L.length := by simp
    rw [hL2] at M
    obtain ⟨ws, wl, wO, wv⟩ := M.vs
    refine wpAny_bind (wpAny_seqItems wO rfl (wpAny_bind (wpAny_newTuple ?_ (by show ws.length ≤ _; rw [wl, sizeLine_eq]; omega))))
    show wpAny _ _ (Builtin.SmallTypes.ownedTupleHandOut (.ref z) (.ref s2.heap.objs.size) >>= _) _ _ _
    refine wpAny_bind ?_
    unfold Builtin.SmallTypes.ownedTupleHandOut
    have hz6 : IsZip (s2.heap.push { cls := .type "tuple", data := .seq ws.toArray }) z TI TO .ellipsis := Heap.get?_push_of_some _ M.zz
    refine wpAny_bind (wpAny_setField_rec hz6 (by simp) fun h7 hz7 x7 => ?_)
    replace hz7 : IsZip h7 z TI TO (rawInt s2.heap.objs.size) := hz7
    refine wpAny_setField_rec hz7 (by simp) fun h8 hz8 x8 => ?_
    replace hz8 : IsZip h8 z TI TO (rawInt s2.heap.objs.size) := hz8
    have up : ∀ b o, b ≠ z → s2.heap.get? b = some o → h8.get? b = some o := fun b o b1 y => x8.extBut _ _ b1 (x7.extBut _ _ b1 (Heap.get?_push_of_some _ y))
    have hzl : z < s2.heap.objs.size := Heap.lt_size M.zz
    have hT8 : TupAt h8 s2.heap.objs.size ws := x8.extBut _ _ (Nat.ne_of_gt hzl) (x7.extBut _ _ (Nat.ne_of_gt hzl) (Heap.get?_push_size _ rfl))
    refine wpAny_pure ⟨_, rfl, ?_⟩
    show R (.ref s2.heap.objs.size) _
    rw [M.sz] at hz8 hT8 ⊢
    have e := M.eq
    rw [e]
    exact hR h8 ws hz8 wl (fun j q hq => wv j q (List.getElem?_eq_some_iff.mp hq).1 hq) (up _ _ D.TOz wO) hT8 (fun q hq => by
      obtain ⟨j, hj⟩ := List.getElem?_of_mem hq
      have := M.on j q hj
      rw [if_pos (List.getElem?_eq_some_iff.mp hj).1] at this
      exact this.at fun b o hb y => by
        rcases hb with rfl | rfl
        · exact up _ _ (D.c q hq).1 y
        · exact up _ _ (D.l q hq).1 y) fun b o b1 b2 b3 y => up b o b1 (M.kp b o b1 b2 b3 y)
end
end Zp
set_option Elab.async false
set_option linter.all false
set_option maxRecDepth 100000
set_option maxHeartbeats 4000000
namespace Zp
open PySem PySem.Spec PyProof.Rows L2
variable [Tb : A.Tabs]
section
variable {P : Program} {w : World} {B : Around} {F' : Value → Shared → Prop} {s : Shared}
abbrev zO (TI TO : Addr) : Obj := { cls := .type "zip", data := .fields #[.none, .bool false, .bool false, .ref TI, .ref TO] }
abbrev tO (vs : List Value) : Obj := { cls := .type "tuple", data := .seq vs.toArray }
theorem mk2 (k1 k2 : Bool) (l1 l2 : Addr) (xs ys : Array Value) :
    Meets (Builtin.«zip.__new__» ⟨[.type "zip", .ref l1, .ref l2], []⟩) (fun _ R s => AtQ k1 s.heap l1 xs ∧ AtQ k2 s.heap l2 ys ∧
      ∀ h1 h2 h3 h4 : Heap, h1 = s.heap.push (itO k1 l1) → h2 = h1.push (itO k2 l2) → h3 = h2.push (tO [.ref s.heap.objs.size, .ref h1.objs.size]) → h4 = h3.push (tO [.none, .none]) →
      R (.ok (.ret (.ref h4.objs.size))) { s with heap := h4.push (zO h2.objs.size h3.objs.size) }) :=
  .of_wp fun prog w A R s h => by
    obtain ⟨hp, g, d, tk, os⟩ := s; obtain ⟨a1, a2, h⟩ := h
    have hsub := sub_zip
    have b1 : AtQ k1 (Shared.heap ⟨hp, g, d, tk, os⟩) l1 xs := a1
    have b2 : AtQ k2 (Shared.heap ⟨hp.push (itO k1 l1), g, d, tk, os⟩) l2 ys := a2.at fun o e => Heap.get?_push_of_some _ e
    wp_walk using it_of b1, it_of b2
    exact ⟨_, rfl, h _ _ _ _ rfl rfl rfl rfl⟩
abbrev Tr := Bool × Addr × Addr
structure Zs (h : Heap) (z TI TO : Addr) (T : List Tr) (i : Nat) : Prop where
  zz : IsZip h z TI TO .none
  ti : TupAt h TI (T.map fun q => .ref q.2.1)
  to : ∃ vs : List Value, vs.length = T.length ∧ TupAt h TO vs
  it : ∀ q ∈ T, AtI q.1 h q.2.1 q.2.2 i
theorem call2 {k1 k2 : Bool} {l1 l2 : Addr} {xs ys : Array Value} {R : Value → Shared → Prop} (a1 : AtQ k1 s.heap l1 xs) (a2 : AtQ k2 s.heap l2 ys)
    (h : ∀ h', Zs h' (s.heap.objs.size + 4) (s.heap.objs.size + 2) (s.heap.objs.size + 3) [(k1, s.heap.objs.size, l1), (k2, s.heap.objs.size + 1, l2)] 0 → (∀ c o, s.heap.get? c = some o → h'.get? c = some o) →
      R (.ref (s.heap.objs.size + 4)) { s with heap := h' }) : wpAny (model P w) B (call (.type "zip") [.ref l1, .ref l2]) R F' s := by
  refine callType_new F.called_zip (by decide) (F.typeCall_zip_2 _ _) (F.newCall_zip_2 _ _) (fun obj => F.args_object_init_3 obj _ _) F.entry_zip_new (mk2 k1 k2 l1 l2 xs ys) ⟨a1, a2, ?_⟩
  intro h1 h2 h3 h4 e1 e2 e3 e4
  have z1 : h1.objs.size = s.heap.objs.size + 1 := by rw [e1]; exact Heap.size_push ..
  have z2 : h2.objs.size = s.heap.objs.size + 2 := by rw [e2, Heap.size_push, z1]
  have z3 : h3.objs.size = s.heap.objs.size + 3 := by rw [e3, Heap.size_push, z2]
  have z4 : h4.objs.size = s.heap.objs.size + 4 := by rw [e4, Heap.size_push, z3]
  have p1 : ∀ c o, s.heap.get? c = some o → h1.get? c = some o := fun c o x => by rw [e1]; exact Heap.get?_push_of_some _ x
  have p2 : ∀ c o, h1.get? c = some o → h2.get? c = some o := fun c o x => by rw [e2]; exact Heap.get?_push_of_some _ x
  have p3 : ∀ c o, h2.get? c = some o → h3.get? c = some o := fun c o x => by rw [e3]; exact Heap.get?_push_of_some _ x
  have p4 : ∀ c o, h3.get? c = some o → h4.get? c = some o := fun c o x => by rw [e4]; exact Heap.get?_push_of_some _ x
  have p5 : ∀ c o, h4.get? c = some o → (h4.push (zO h2.objs.size h3.objs.size)).get? c = some o := fun c o x => Heap.get?_push_of_some _ x
  have g1 : h1.get? s.heap.objs.size = some (itO k1 l1) := by rw [e1]; exact Heap.get?_push_size _ rfl
  have g2 : h2.get? h1.objs.size = some (itO k2 l2) := by rw [e2]; exact Heap.get?_push_size _ rfl
  have g3 : h3.get? h2.objs.size = some (tO [.ref s.heap.objs.size, .ref h1.objs.size]) := by rw [e3]; exact Heap.get?_push_size _ rfl
  have g4 : h4.get? h3.objs.size = some (tO [.none, .none]) := by rw [e4]; exact Heap.get?_push_size _ rfl
  have g5 : (h4.push (zO h2.objs.size h3.objs.size)).get? h4.objs.size = some (zO h2.objs.size h3.objs.size) := Heap.get?_push_size _ rfl
  show _ ∧ _
  refine ⟨⟨_, g5, rfl⟩, ?_⟩
  rw [z1] at g2 g3
  rw [z2] at g3
  rw [z3] at g4
  rw [z4] at g5 ⊢
  rw [z2, z3] at g5 p5 ⊢
  exact h _ ⟨g5, p5 _ _ (p4 _ _ g3), ⟨_, rfl, p5 _ _ g4⟩, fun q hq => by
    rcases List.mem_cons.mp hq with rfl | hq
    · exact ⟨_, p5 _ _ (p4 _ _ (p3 _ _ (p2 _ _ g1))), rfl, rfl⟩
    · obtain rfl := List.mem_singleton.mp hq
      exact ⟨_, p5 _ _ (p4 _ _ (p3 _ _ g2)), rfl, rfl⟩⟩ fun c o x => p5 _ _ (p4 _ _ (p3 _ _ (p2 _ _ (p1 _ _ x))))
end
end Zp
set_option Elab.async false
set_option linter.all false
set_option maxRecDepth 100000
set_option maxHeartbeats 4000000
namespace Zp
open PySem PySem.Spec PyProof.Rows L2 A
variable [Tb : A.Tabs]
def SqB (H : Hp) (s : Bool × Addr) (xs : List V) : Prop := match s.1 with
  | true => Lst H s.2 xs
  | false => H s.2 = some (.tup xs)
theorem SqB.nn {H : Hp} {s : Bool × Addr} {xs : List V} (h : SqB H s xs) : H s.2 ≠ none := by
  obtain ⟨k, a⟩ := s
  cases k
  · have h : H a = _ := h
    show H a ≠ none
    rw [h]; simp
  · rcases (show Lst H a xs from h) with h | ⟨o, h⟩
    · show H a ≠ none
      rw [h]; simp
    · show H a ≠ none
      rw [h]; simp
theorem SqB.inj {H : Hp} {s : Bool × Addr} {xs ys : List V} (h : SqB H s xs) (h' : SqB H s ys) : xs = ys := by
  obtain ⟨k, a⟩ := s
  cases k
  · have h : H a = some (.tup xs) := h
    have h' : H a = some (.tup ys) := h'
    rw [h] at h'; cases h'; rfl
  · rcases (show Lst H a xs from h) with h | ⟨o, h⟩ <;> rcases (show Lst H a ys from h') with h' | ⟨o', h'⟩ <;> rw [h] at h' <;> cases h' <;> rfl
theorem SqB.at {X : Cx} {pins : List (Addr × Obj)} {σ : L2.St} {H : Hp} {s : Shared} {k : Bool} {a : Addr} {xs : List V} (I : Inv X pins σ H s) (h : SqB H (k, a) xs) : ∃ its : List Value, Vals xs its ∧ AtQ k s.heap a its.toArray := by
  cases k
  · have h : H a = some (.tup xs) := h
    obtain ⟨_, its, rv, o, e, c, _, d⟩ := I.hok a _ h
    exact ⟨its, rv, o, e, c, d⟩
  · have h : Lst H a xs := h
    obtain ⟨its, rv, ⟨o, n, e, c, _, d⟩, _⟩ := I.list h.sq
    exact ⟨its, rv, o, e, c, n, d⟩
abbrev Srcs (H : Hp) (S : List (Bool × Addr)) (xss : List (List V)) : Prop := P2 (fun s xs => SqB H s xs) S xss
def Itz (S : List (Bool × Addr)) : It :=
  ⟨fun i H => ∃ xss, Srcs H S xss ∧ ∀ xs ∈ xss, i < xs.length,
   fun i H v H' => ∃ p ws, (∀ xss, Srcs H S xss → P2 (fun (xs : List V) x => xs[i]? = some x) xss ws) ∧ H p = none ∧ v = .ref p ∧ H' = upd H p (.tup ws),
   fun i H => ∃ xss, Srcs H S xss ∧ ∃ xs ∈ xss, xs.length ≤ i⟩
theorem srcs_inj {H : Hp} : ∀ {S : List (Bool × Addr)} {xss yss : List (List V)}, Srcs H S xss → Srcs H S yss → xss = yss
  | _, _, _, .nil, .nil => rfl
  | _, _, _, .cons a r, .cons b t => by rw [a.inj b, srcs_inj r t]
theorem lie {X : Cx} {pins : List (Addr × Obj)} {σ : L2.St} {H : Hp} {s : Shared} (I : Inv X pins σ H s) : ∀ {T : List Tr} {xss : List (List V)}, Srcs H (T.map fun q => (q.1, q.2.2)) xss →
    ∃ L : List Sr, L.map (fun q => (q.k, q.c, q.l)) = T ∧ (∀ q ∈ L, AtQ q.k s.heap q.l q.us ∧ H q.l ≠ none) ∧ P2 (fun (q : Sr) xs => Vals xs q.us.toList) L xss
  | [], _, .nil => ⟨[], rfl, fun q h => absurd h (by simp), .nil⟩
  | (k, c, l) :: T, _, .cons a r => by
    obtain ⟨L, e, h, p⟩ := lie I r
    obtain ⟨its, rv, q⟩ := a.at I
    refine ⟨⟨k, c, l, its.toArray⟩ :: L, by rw [List.map_cons, e], fun y hy => ?_, .cons rv p⟩
    rcases List.mem_cons.mp hy with rfl | hy
    · exact ⟨q, a.nn⟩
    · exact h y hy
theorem pick {i : Nat} : ∀ {L : List Sr} {xss : List (List V)} {ws : List Value}, P2 (fun (q : Sr) xs => Vals xs q.us.toList) L xss → ws.length = L.length → (∀ (j : Nat) (q : Sr), L[j]? = some q → ws[j]? = q.us[i]? ∧ i < q.us.size) →
    ∃ vws : List V, Vals vws ws ∧ P2 (fun (xs : List V) x => xs[i]? = some x) xss vws
  | _, _, [], .nil, _, _ => ⟨[], .nil, .nil⟩
  | _, _, w :: ws, .cons (a := q) (b := xs) rv t, hl, h => by
    obtain ⟨vws, r, p⟩ := pick t (by simpa using hl) fun j r hr => by simpa using h (j + 1) r (by simpa using hr)
    obtain ⟨e, hi⟩ := h 0 q rfl
    have hlen := rv.length
    have hix : i < xs.length := by simp at hlen; omega
    obtain ⟨u, hu, ru⟩ := rv.get (i := i) (x := xs[i]) (by simp [hix])
    have : some w = some u := by
      have e' : some w = q.us[i]? := e
      rw [e', ← hu]; simp
    cases this
    exact ⟨xs[i] :: vws, .cons ru r, .cons (by simp [hix]) p⟩
  | _, _, [], .cons _ _, hl, _ => by simp at hl
  | _, _, w :: ws, .nil, hl, _ => by simp at hl
structure Ap0 (z TI TO : Addr) (T : List Tr) : Prop where
  TIz : TI ≠ z
  TOz : TO ≠ z
  TITO : TI ≠ TO
  nd : (T.map (·.2.1)).Nodup
  c : ∀ q ∈ T, q.2.1 ≠ z ∧ q.2.1 ≠ TI ∧ q.2.1 ≠ TO
theorem turn_zip {P : Program} {w : World} {K : PySem.W.Frag} {elts : List Expr} {k1 : Nat} {pos : Pos} {z TI TO : Addr} {T : List Tr} (D0 : Ap0 z TI TO T) (hT0 : T ≠ []) (hT8 : T.length ≤ 8) :
    Turn P w K (.Tuple elts k1 pos) (Itz (T.map fun q => (q.1, q.2.2))) (z :: TI :: TO :: T.map (·.2.1)) z (fun i h => Zs h z TI TO T i) where
  mem := by simp
  obj := fun i h st b hb => by
    rcases List.mem_cons.mp hb with rfl | hb
    · exact ⟨_, st.zz, fun v q => by cases q⟩
    rcases List.mem_cons.mp hb with rfl | hb
    · exact ⟨_, st.ti, fun v q => by cases q⟩
    rcases List.mem_cons.mp hb with rfl | hb
    · obtain ⟨vs, _, h⟩ := st.to
      exact ⟨_, h, fun v q => by cases q⟩
    · obtain ⟨q, hq, rfl⟩ := List.mem_map.mp hb
      exact (st.it q hq).cell
  keep := fun i h h' st kk => ⟨kk z (by simp) _ st.zz, kk TI (by simp) _ st.ti, let ⟨vs, l, e⟩ := st.to; ⟨vs, l, kk TO (by simp) _ e⟩, fun q hq => (st.it q hq).at fun o e => kk _ (by simp only [List.mem_cons]; exact .inr (.inr (.inr (List.mem_map_of_mem (f := fun q : Tr => q.2.1) hq)))) o e⟩
  item := by
    intro X hP hw hK hc i pins s σ H E I hf st hg
    subst hP hw hK
    obtain ⟨xss, hq, hx⟩ := hg
    obtain ⟨L, eL, at_, rL⟩ := lie I hq
    have eT : T.map (fun q => (Value.ref q.2.1)) = L.map fun q => .ref q.c := by rw [← eL, List.map_map]; rfl
    have eC : T.map (fun q => q.2.1) = L.map fun q => q.c := by rw [← eL, List.map_map]; rfl
    have lT : T.length = L.length := by rw [← eL, List.length_map]
    have inT : ∀ q ∈ L, (q.k, q.c, q.l) ∈ T := fun q h => by rw [← eL]; exact List.mem_map_of_mem (f := fun q : Sr => (q.k, q.c, q.l)) h
    have lne : ∀ q ∈ L, ∀ b ∈ z :: TI :: TO :: T.map (·.2.1), q.l ≠ b := fun q h b hb e => (at_ q h).2 (by rw [e]; exact (hf b hb).1)
    have D : Ap z TI TO L := ⟨D0.TIz, D0.TOz, D0.TITO, by rw [← eC]; exact D0.nd, fun q h => D0.c _ (inT q h), fun q h => ⟨lne q h z (by simp), lne q h TO (by simp), fun r hr => lne q h r.c (by rw [eC]; simp only [List.mem_cons]; exact .inr (.inr (.inr (List.mem_map_of_mem (f := fun q : Sr => q.c) hr))))⟩⟩
    have hO := st.to
    obtain ⟨vs, vl, hO⟩ := hO
    have hTI := st.ti
    rw [eT] at hTI
    have hty : s.TypeIs (.ref z) "zip" := ⟨_, st.zz, rfl⟩
    unfold pyNext
    refine wpAny_bind (wpAny_attempt (wpAny_callSpecial?_slot (name := Str.ofString "__next__") hty F.slot_zip_next (wpAny_call_entry F.slot_zip_next hty F.entry_zip_next
      (zip_next (by first | exact I.ok.hd hc | (simp; exact I.ok.hd hc)) D (fun e => hT0 (by rw [e] at lT; exact List.eq_nil_of_length_eq_zero lT)) st.zz hTI hO (by rw [vl, lT]) (by omega) (fun q h => ⟨st.it _ (inT q h), (at_ q h).1⟩) (fun h' ws hz' wl wv hO' hN on' kp => wpAny_pure ?_) (fun h' e kp he hend => ?_)) (F.args_zip_next_1 _))))
    · refine ⟨_, rfl, wpAny_letOwnedTupleGo_zip hz' fun h2 hz2 hs2 => ?_⟩
      have kk : ∀ b o, b ∉ z :: TI :: TO :: T.map (·.2.1) → s.heap.get? b = some o → h2.get? b = some o := fun b o hb q => by
        simp only [List.mem_cons, not_or] at hb
        exact (hs2.2 b hb.1).trans (kp b o hb.1 hb.2.2.1 (by rw [← eC]; exact hb.2.2.2) q)
      have hne : ∀ b ∈ z :: TI :: TO :: T.map (·.2.1), b ≠ s.heap.objs.size := fun b hb e => by
        obtain ⟨o, ho, _⟩ : ∃ o, s.heap.get? b = some o ∧ True := by
          rcases List.mem_cons.mp hb with rfl | hb
          · exact ⟨_, st.zz, trivial⟩
          rcases List.mem_cons.mp hb with rfl | hb
          · exact ⟨_, st.ti, trivial⟩
          rcases List.mem_cons.mp hb with rfl | hb
          · exact ⟨_, hO, trivial⟩
          · obtain ⟨q, hq, rfl⟩ := List.mem_map.mp hb
            obtain ⟨o, ho, _⟩ := st.it q hq
            exact ⟨o, ho, trivial⟩
        exact absurd (Heap.lt_size ho) (by rw [e]; exact Nat.lt_irrefl _)
      obtain ⟨vws, hv, hy⟩ : ∃ vws : List V, Vals vws ws ∧ P2 (fun (xs : List V) x => xs[i]? = some x) xss vws := by
        exact pick rL wl wv
      have hN2 : TupAt h2 s.heap.objs.size ws := (hs2.2 _ (fun e => hne z (by simp) e.symm)).trans hN
      refine ⟨.ref s.heap.objs.size, upd H s.heap.objs.size (.tup vws), turned_new (s := s) (t' := s.toks) I hf kk (Nat.le_refl _) ⟨?_, ws, hv, ⟨_, hN2, rfl, rfl, _, rfl⟩⟩, rfl, ⟨_, vws, fun yss h => by rw [srcs_inj h hq]; exact hy, I.hok.fresh (Nat.le_refl _), rfl, rfl⟩, ?_, fun b hb => ?_⟩
      · rw [hv.length, wl, sizeLine_eq]; omega
      · refine ⟨hz2, (hs2.2 _ D0.TIz).trans ?_, ⟨ws, by rw [wl, lT], (hs2.2 _ D0.TOz).trans hO'⟩, fun q hq2 => ?_⟩
        · exact kp _ _ D0.TIz D0.TITO (fun h => by
            rw [← eC] at h
            obtain ⟨q, hq2, e⟩ := List.mem_map.mp h
            exact (D0.c q hq2).2.1 e) st.ti
        · rw [← eL] at hq2
          obtain ⟨r, hr, rfl⟩ := List.mem_map.mp hq2
          exact (on' r hr).1.at fun o q => (hs2.2 _ (D.c r hr).1).trans q
      · rw [upd_ne (hne b hb)]; exact (hf b hb).1
    · exfalso
      obtain ⟨q, hqm, hle⟩ := hend
      obtain ⟨j, hj⟩ := List.getElem?_of_mem hqm
      obtain ⟨xs, hxs, rv⟩ := rL.getL hj
      have := hx xs (List.mem_of_getElem? hxs)
      have := rv.length
      simp at this
      omega
  done := by
    intro X hP hw hK hc i pins s σ H E I hf st hg
    subst hP hw hK
    obtain ⟨xss, hq, xs0, hx0, hxl⟩ := hg
    obtain ⟨L, eL, at_, rL⟩ := lie I hq
    have eT : T.map (fun q => (Value.ref q.2.1)) = L.map fun q => .ref q.c := by rw [← eL, List.map_map]; rfl
    have eC : T.map (fun q => q.2.1) = L.map fun q => q.c := by rw [← eL, List.map_map]; rfl
    have lT : T.length = L.length := by rw [← eL, List.length_map]
    have inT : ∀ q ∈ L, (q.k, q.c, q.l) ∈ T := fun q h => by rw [← eL]; exact List.mem_map_of_mem (f := fun q : Sr => (q.k, q.c, q.l)) h
    have lne : ∀ q ∈ L, ∀ b ∈ z :: TI :: TO :: T.map (·.2.1), q.l ≠ b := fun q h b hb e => (at_ q h).2 (by rw [e]; exact (hf b hb).1)
    have D : Ap z TI TO L := ⟨D0.TIz, D0.TOz, D0.TITO, by rw [← eC]; exact D0.nd, fun q h => D0.c _ (inT q h), fun q h => ⟨lne q h z (by simp), lne q h TO (by simp), fun r hr => lne q h r.c (by rw [eC]; simp only [List.mem_cons]; exact .inr (.inr (.inr (List.mem_map_of_mem (f := fun q : Sr => q.c) hr))))⟩⟩
    have hO := st.to
    obtain ⟨vs, vl, hO⟩ := hO
    have hTI := st.ti
    rw [eT] at hTI
    have hty : s.TypeIs (.ref z) "zip" := ⟨_, st.zz, rfl⟩
    unfold pyNext
    refine wpAny_bind (wpAny_attempt (wpAny_callSpecial?_slot (name := Str.ofString "__next__") hty F.slot_zip_next (wpAny_call_entry F.slot_zip_next hty F.entry_zip_next
      (zip_next (by first | exact I.ok.hd hc | (simp; exact I.ok.hd hc)) D (fun e => hT0 (by rw [e] at lT; exact List.eq_nil_of_length_eq_zero lT)) st.zz hTI hO (by rw [vl, lT]) (by omega) (fun q h => ⟨st.it _ (inT q h), (at_ q h).1⟩) (fun h' ws hz' wl wv hO' hN on' kp => ?_) (fun h' e kp he hend => ?_)) (F.args_zip_next_1 _))))
    · exfalso
      obtain ⟨j, hj⟩ := List.getElem?_of_mem hx0
      obtain ⟨q, hqj, rv⟩ := rL.getR hj
      have := (wv j q hqj).2
      have := rv.length
      simp at this
      omega
    · obtain ⟨o, ho, hcl⟩ := he
      refine wpAny_bind (wpAny_isInstance (T := "StopIteration") (b := true) ⟨o, ho, hcl⟩ isSubtype_stop (wpAny_pure ⟨rfl, ?_⟩))
      exact turned_all (s := s) (t' := s.toks) I hf fun b o hb q => by
        simp only [List.mem_cons, not_or] at hb
        exact kp b o hb.1 hb.2.2.1 (by rw [← eC]; exact hb.2.2.2) q
  self := fun _ i s Q E st h => wpAny_pyIter_zip st.zz h
end Zp
set_option Elab.async false
set_option linter.all false
set_option maxRecDepth 100000
set_option maxHeartbeats 4000000
namespace Mi
def dQItems : D → Rs (List D)
  | .lst ds => .ok ds
  | .tup ds => .ok ds
  | _ => .no
def iZip2q (a b : E) : I := fun e => (a e).bind fun x => (b e).bind fun y => (dQItems x).bind fun ds => (dQItems y).bind fun es => .ok (dZip2 ds es)
end Mi
namespace Zp
open PySem PySem.Spec PyProof.Rows L2 A
open Mi (D W Rs Fin fin_bind)
variable [Tb : A.Tabs]
theorem SqB.same {H H' : Hp} {s : Bool × Addr} {xs : List V} (h : Same H H') (q : SqB H s xs) : SqB H' s xs := by
  obtain ⟨k, a⟩ := s
  cases k
  · exact h _ _ q
  · exact Lst.same (a := a) h q
theorem srcs_same {H H' : Hp} {S : List (Bool × Addr)} {xss : List (List V)} (h : Same H H') (q : Srcs H S xss) : Srcs H' S xss := q.imp fun _ _ x => x.same h
def Zips (dss : List (List D)) (dz : List D) : Prop := (∀ i, i < dz.length → ∃ us, dz[i]? = some (.tup us) ∧ P2 (fun (ds : List D) u => ds[i]? = some u) dss us) ∧ ∃ ds ∈ dss, ds.length = dz.length
theorem picks {Hv : Hp} {i : Nat} : ∀ {dss : List (List D)} {xss : List (List V)} {us : List D} {ws : List V}, P2 (P2 (Rep Hv)) dss xss → P2 (fun (ds : List D) u => ds[i]? = some u) dss us → P2 (fun (xs : List V) x => xs[i]? = some x) xss ws → P2 (Rep Hv) us ws
  | _, _, _, _, .nil, .nil, .nil => .nil
  | _, _, _, _, .cons a r, .cons b s, .cons c t => .cons (a.get b c) (picks r s t)
theorem p2_mem {α β : Type} {F : α → β → Prop} : ∀ {l : List α} {m : List β} {b : β}, P2 F l m → b ∈ m → ∃ a ∈ l, F a b
  | _, _, _, .cons x t, h => by
    rcases List.mem_cons.mp h with rfl | h
    · exact ⟨_, List.mem_cons_self .., x⟩
    · obtain ⟨a, ha, q⟩ := p2_mem t h
      exact ⟨a, List.mem_cons_of_mem _ ha, q⟩
theorem p2_memL {α β : Type} {F : α → β → Prop} : ∀ {l : List α} {m : List β} {a : α}, P2 F l m → a ∈ l → ∃ b ∈ m, F a b
  | _, _, _, .cons x t, h => by
    rcases List.mem_cons.mp h with rfl | h
    · exact ⟨_, List.mem_cons_self .., x⟩
    · obtain ⟨a, ha, q⟩ := p2_memL t h
      exact ⟨a, List.mem_cons_of_mem _ ha, q⟩
def ZP (S : List (Bool × Addr)) (dss : List (List D)) (xss : List (List V)) (_ Hv : Hp) : Prop := Srcs Hv S xss ∧ P2 (P2 (Rep Hv)) dss xss
theorem itD_zip {S : List (Bool × Addr)} {dss : List (List D)} {xss : List (List V)} {dz : List D} (hz : Zips dss dz) : ItD (Itz S) (ZP S dss xss) dz := by
  refine ⟨fun i H Hv p v hi => ?_, fun i H Hv x H' p v hi y => ?_, fun H Hv p v => ?_⟩
  · obtain ⟨us, _, hu⟩ := hz.1 i hi
    refine ⟨xss, srcs_same v.sub p.1, fun xs hx => ?_⟩
    obtain ⟨ds, hd, r⟩ := p2_mem p.2 hx
    obtain ⟨u, _, e⟩ := p2_memL hu hd
    have := (List.getElem?_eq_some_iff.mp e).1
    rw [← r.len]; exact this
  · obtain ⟨us, hd, hu⟩ := hz.1 i hi
    obtain ⟨q, ws, hw, hq, rfl, rfl⟩ := y
    have r := picks p.2 hu (hw xss (srcs_same v.sub p.1))
    obtain ⟨g, k⟩ := new_kT v r hq
    exact ⟨_, .tup us, g, hd, k⟩
  · obtain ⟨ds, hd, e⟩ := hz.2
    obtain ⟨xs, hx, r⟩ := p2_memL p.2 hd
    exact ⟨xss, srcs_same v.sub p.1, xs, hx, by rw [← r.len]; omega⟩
theorem zips2 : ∀ ds es : List D, Zips [ds, es] (Mi.dZip2 ds es)
  | [], es => ⟨fun i h => absurd h (by simp [Mi.dZip2]), [], by simp, by simp [Mi.dZip2]⟩
  | d :: r, [] => ⟨fun i h => absurd h (by simp [Mi.dZip2]), [], by simp, by simp [Mi.dZip2]⟩
  | d :: r, e :: s => by
    obtain ⟨h1, ds, hd, hl⟩ := zips2 r s
    refine ⟨fun i hi => ?_, ?_⟩
    · cases i with
      | zero => exact ⟨[d, e], rfl, .cons rfl (.cons rfl .nil)⟩
      | succ i =>
        obtain ⟨us, a, b⟩ := h1 i (by simpa [Mi.dZip2] using hi)
        refine ⟨us, by simpa [Mi.dZip2] using a, ?_⟩
        cases b with
        | cons x t =>
          cases t with
          | cons y t => cases t; exact .cons (by simpa using x) (.cons (by simpa using y) .nil)
    · rcases List.mem_cons.mp hd with rfl | hd
      · exact ⟨d :: ds, by simp, by simp [Mi.dZip2, hl]⟩
      · obtain rfl := List.mem_singleton.mp hd
        exact ⟨e :: ds, by simp, by simp [Mi.dZip2, hl]⟩
theorem dQ_ok {x : D} {k : List D → Prop} (h : Fin (Mi.dQItems x) k) : ∃ ds, (x = .lst ds ∨ x = .tup ds) ∧ k ds := by
  cases x with
  | lst b => exact ⟨b, .inl rfl, h⟩
  | tup b => exact ⟨b, .inr rfl, h⟩
  | _ => exact h.elim
theorem dQ_rep {H : Hp} {x : D} {ds : List D} {v : V} (h : x = .lst ds ∨ x = .tup ds) (r : Rep H x v) : ∃ k a xs, v = .ref a ∧ SqB H (k, a) xs ∧ P2 (Rep H) ds xs := by
  rcases h with rfl | rfl
  · obtain ⟨a, xs, e, l, r⟩ := rep_lst.mp r
    exact ⟨true, a, xs, e, l, r⟩
  · obtain ⟨a, xs, e, l, r⟩ := rep_tup.mp r
    exact ⟨false, a, xs, e, l, r⟩
section
variable {X : Cx} {elts : List Expr} {k1 : Nat} {tpos : Pos} {M : Nat → Bool}
theorem neA {a b : Nat} (h : a ≠ b) : @Ne Addr a b := h
theorem ge_of {n : Nat} : ∀ {b : Nat}, b ∈ ([n + 4, n + 2, n + 3, n, n + 1] : List Nat) → n ≤ b := fun {b} h => by simp at h; omega
theorem ap2 (n : Nat) (k k' : Bool) (l l' : Addr) : Ap0 (n + 4) (n + 2) (n + 3) [(k, n, l), (k', n + 1, l')] :=
  ⟨neA (by omega), neA (by omega), neA (by omega), by show ([n, n + 1] : List Nat).Nodup; simp, fun q hq => by
    rcases List.mem_cons.mp hq with rfl | hq
    · exact ⟨neA (show n ≠ n + 4 by omega), neA (show n ≠ n + 2 by omega), neA (show n ≠ n + 3 by omega)⟩
    · obtain rfl := List.mem_singleton.mp hq
      exact ⟨neA (show n + 1 ≠ n + 4 by omega), neA (show n + 1 ≠ n + 2 by omega), neA (show n + 1 ≠ n + 3 by omega)⟩⟩
def iZL2 (ta tb : TE) : TI := fun σ H R => ta σ H fun x H1 => tb σ H1 fun y H2 => ∃ S xss, [x, y] = S.map (fun s : Bool × Addr => V.ref s.2) ∧ S.length = 2 ∧ Srcs H2 S xss ∧ R (Itz S) H2
theorem pi_zip2 {a b : Expr} {ta tb : TE} {p pos : Pos} (hg : Gl X "zip") (hm : X.mg "zip" = none) (ha : PE X a ta) (hb : PE X b tb) (hs : starEach [a, b] X.env = [(false, eval a X.env), (false, eval b X.env)] := by rfl) (hs0 : starEach [a, b] X.env = (false, eval a X.env) :: starEach [b] X.env := by rfl) (hs1 : starEach [b] X.env = (false, eval b X.env) :: starEach [] X.env := by rfl) (hpl : (backTo pos (starEach [b] X.env)).any (·.1) = false := by rfl) :
    PI X (.Tuple elts k1 tpos) (.Call (.Name "zip" p) [a, b] [] pos) (iZL2 ta tb) := by
  intro pins s σ H R I h
  refine Call_ (ld_blt I hg hm boot_zip (PyProof.Rows.callWith_type1 (thn (pa_cons ha (pa_cons hb pa_nil hs1) hs0 pos pins s σ H (fun vs H1 => ∃ S xss, vs = S.map (fun s : Bool × Addr => V.ref s.2) ∧ S.length = 2 ∧ Srcs H1 S xss ∧ R (Itz S) H1) I ?_) fun us s1 ⟨vs, H1, I1, r1, q1⟩ => ?_) hs0 hpl))
  · exact h
  · obtain ⟨S, xss, e, hl, hS, q⟩ := q1
    obtain ⟨⟨k, l⟩, ⟨k', l'⟩, rfl⟩ : ∃ x y, S = [x, y] := by
      match S, hl with
      | [x, y], _ => exact ⟨x, y, rfl⟩
    subst e
    have hS0 := hS
    cases hS with
    | cons s1' t =>
    cases t with
    | cons s2' t =>
    cases t
    cases r1 with
    | cons u1 r1 =>
    cases r1 with
    | cons u2 r1 =>
    cases r1
    cases u1; cases u2
    obtain ⟨i1, _, a1⟩ := s1'.at I1
    obtain ⟨i2, _, a2⟩ := s2'.at I1
    refine call2 a1 a2 fun h' hZ hk => wpAny_pyIter_zip hZ.zz ?_
    have I2 : Inv X pins σ H1 { s1 with heap := h' } := I1.kept (t' := s1.toks) fun b o e => hk b o e
    refine ⟨_, _, _, _, H1, rfl, I2, turn_zip (z := s1.heap.objs.size + 4) (TI := s1.heap.objs.size + 2) (TO := s1.heap.objs.size + 3) (ap2 _ k k' l l') (by simp) (by simp), hZ, fun b hb => ?_, q⟩
    have hb : s1.heap.objs.size ≤ b := ge_of hb
    exact I1.fpOk hb (I1.hok.fresh hb)
theorem ai_zip2 {ta tb : TE} {a b : Mi.E} (ha : AE M qV ta a) (hb : AE M qV tb b) : AIf M (iZL2 ta tb) (Mi.iZip2q a b) := fun e σ H Hv R I h =>
  ha e σ H Hv _ I ((fin_bind.mp h).mono fun x hx v H1 Hv1 g1 rx => hb e σ H1 Hv1 _ (I.grow g1) ((fin_bind.mp hx).mono fun y hy u H2 Hv2 g2 ry => by
    obtain ⟨ds, hd, hk⟩ := dQ_ok (fin_bind.mp hy)
    obtain ⟨es, he, hk⟩ := dQ_ok (fin_bind.mp hk)
    obtain ⟨k, a, xs, rfl, s1, r1⟩ := dQ_rep hd (rep_same g2.vis (show Rep Hv1 x v from rx))
    obtain ⟨k', a', ys, rfl, s2, r2⟩ := dQ_rep he (show Rep Hv2 y u from ry)
    have S2 : Srcs Hv2 [(k, a), (k', a')] [xs, ys] := .cons s1 (.cons s2 .nil)
    exact ⟨[(k, a), (k', a')], [xs, ys], rfl, rfl, srcs_same g2.vw.sub S2, hk (Itz [(k, a), (k', a')]) H2 Hv2 (ZP [(k, a), (k', a')] [ds, es] [xs, ys]) (g1.trans g2) (itD_zip (zips2 ds es)) ⟨S2, .cons r1 (.cons r2 .nil)⟩ fun _ _ _ _ z s _ => ⟨srcs_same s z.1, z.2.imp fun _ _ q => p2_same s q⟩⟩))
end
end Zp
set_option Elab.async false
set_option linter.all false
set_option maxRecDepth 100000
set_option maxHeartbeats 4000000
namespace Zp
open PySem PySem.Spec PyProof.Rows L2 A
open Mi (D W Rs Fin fin_bind)
variable [Tb : A.Tabs]
section
variable {X : Cx} {pins : List (Addr × Obj)} {σ : L2.St} {H : Hp} {s : Shared} {B : Around} {E : Value → Shared → Prop} {Q : Value → Shared → Prop} {b : Bool}
theorem kit_at {x : V} {u t : Value} (I : Inv X pins σ H s) (rx : RelV x u) (ty : TyOf X.K H x t) : ∃ P : Heap → Prop, PySem.W.KitX X.K u t P ∧ P s.heap ∧ u ≠ .builtin "__main__.__loader__#opaque" := by
  cases ty with
  | non => cases (show u = Value.none from rx); exact ⟨_, PySem.W.kitx_none, True.intro, fun z => nomatch z⟩
  | bl y => cases (show u = Value.bool y from rx); exact ⟨_, PySem.W.kitx_bool, True.intro, fun z => nomatch z⟩
  | int i => obtain ⟨t, q⟩ := (show ∃ t, u = Value.int i t from rx); cases q; exact ⟨_, PySem.W.kitx_int, True.intro, fun z => nomatch z⟩
  | str y => obtain ⟨t, q⟩ := (show ∃ t, u = Value.str y t from rx); cases q; exact ⟨_, PySem.W.kitx_str, True.intro, fun z => nomatch z⟩
  | flt y => obtain ⟨t, q⟩ := (show ∃ t, u = Value.float y t from rx); cases q; exact ⟨_, PySem.W.kitx_float, True.intro, fun z => nomatch z⟩
  | @lst a xs ea =>
    cases (show u = Value.ref a from rx)
    obtain ⟨_, _, n, _, h1⟩ := (show ObjOk X.prog X.w H s.heap a (.lst xs) from I.hok a _ ea)
    exact ⟨_, PySem.W.kitx_list, ⟨_, h1, rfl⟩, fun z => nomatch z⟩
  | @frz a ob xs ea =>
    cases (show u = Value.ref a from rx)
    obtain ⟨_, _, _, n, _, h1⟩ := (show ObjOk X.prog X.w H s.heap a (.frz ob (.lst xs)) from I.hok a _ ea)
    exact ⟨_, PySem.W.kitx_list, ⟨_, h1, rfl⟩, fun z => nomatch z⟩
  | @tup a xs ea =>
    cases (show u = Value.ref a from rx)
    obtain ⟨_, _, _, o, h1, h2, _⟩ := (show ObjOk X.prog X.w H s.heap a (.tup xs) from I.hok a _ ea)
    exact ⟨_, PySem.W.kitx_tuple, ⟨o, h1, h2⟩, fun z => nomatch z⟩
  | @dK a kvs ea =>
    cases (show u = Value.ref a from rx)
    obtain ⟨_, _, vs, _, o, es, ep, h1, h2, _⟩ := (show ObjOk X.prog X.w H s.heap a (.dK kvs) from I.hok a _ ea)
    exact ⟨_, PySem.W.kitx_dict, ⟨o, h1, h2.1⟩, fun z => nomatch z⟩
  | @dT a kvs ea =>
    cases (show u = Value.ref a from rx)
    obtain ⟨_, _, xs, _, o, es, ep, h1, h2, _⟩ := (show ObjOk X.prog X.w H s.heap a (.dT kvs) from I.hok a _ ea)
    exact ⟨_, PySem.W.kitx_dict, ⟨o, h1, h2.1⟩, fun z => nomatch z⟩
  | @ins a C dx fs ea cl ha hn htk hm =>
    cases (show u = Value.ref a from rx)
    obtain ⟨mA, O, _⟩ := ins_get I.hok ea
    obtain ⟨od, J, _⟩ := O.look
    exact ⟨_, PySem.W.kitx_own (cl.get _) cl.hd ha hn htk hm, J, fun z => nomatch z⟩
theorem vals_ty : ∀ {Ts : List String} {us : List Value}, Vals (Ts.map V.ty) us → us = Ts.map .type
  | [], _, .nil => rfl
  | T :: r, _, .cons a t => by
    have a : _ = Value.type T := a
    rw [a, vals_ty t]; rfl
def rIsTs (K : PySem.W.Frag) : List V → Hp → VK → Prop := fun xs H Q => ∃ (x : V) (t : Value) (tp : Addr) (Ts : List String) (b : Bool), xs = [x, .ref tp] ∧ H tp = some (.tup (Ts.map V.ty)) ∧ TyOf K H x t ∧ PySem.W.kitAny K t (Ts.map .type) = some b ∧ Q (.bl b) H
theorem call_isTs : CallR X (.builtin "isinstance") (rIsTs X.K) := by
  intro pins s σ H xs us Q I r h
  obtain ⟨x, t, tp, Ts, b, rfl, ht, ty, e, q⟩ := h
  obtain ⟨u, w', rfl, rx, rt⟩ := vals2 r
  cases (show w' = Value.ref tp from rt)
  obtain ⟨_, its, rv, o, h1, h2, _, n, h3⟩ := (show ObjOk X.prog X.w H s.heap tp (.tup (Ts.map V.ty)) from I.hok tp _ ht)
  obtain rfl := vals_ty rv
  obtain ⟨c, d, dt, sl⟩ := o
  simp only at h2 h3
  subst h2 h3
  obtain ⟨P, kx, p, hn⟩ := kit_at I rx ty
  exact PySem.W.kia_tup kx I.kIn p h1 e hn fun tk => ⟨.bl b, H, I.tok tk, rfl, q⟩
end
theorem any_of {K : PySem.W.Frag} {d : D} : ∀ {Ts : List String}, (∀ T ∈ Ts, TyIs K T) → PySem.W.kitAny K (.type (Mi.tyName d)) (Ts.map .type) = some (Ts.any fun t => Mi.isTy t d)
  | [], _ => rfl
  | T :: r, h => by
    have h1 := h T (List.mem_cons_self ..) d
    have h2 := any_of (d := d) fun T' hT => h T' (List.mem_cons_of_mem _ hT)
    rw [List.map_cons, PySem.W.kitAny, h1]
    cases e : Mi.isTy T d
    · simp only [List.any_cons, e, Bool.false_or]
      exact h2
    · simp only [List.any_cons, e, Bool.true_or]
theorem tys2 {K : PySem.W.Frag} {S T : String} (h : TyIs K S) (g : TyIs K T) : ∀ U ∈ [S, T], TyIs K U := fun U hU => by
  rcases List.mem_cons.mp hU with rfl | hU
  · exact h
  · obtain rfl := List.mem_singleton.mp hU
    exact g
def tTys : List String → TA
  | [] => tNil
  | T :: r => tCons (tC (.ty T)) (tTys r)
theorem tTys_ok : ∀ (Ts : List String) (σ : L2.St) (H : Hp) (Q : List V → Hp → Prop), Q (Ts.map V.ty) H → tTys Ts σ H Q
  | [], _, _, _, h => h
  | T :: r, σ, H, Q, h => tTys_ok r σ H _ h
section
variable {M : Nat → Bool} {K : PySem.W.Frag} {ta : TE} {a : Mi.E}
theorem a_iss {Ts : List String} (hT : ∀ T ∈ Ts, TyIs K T) (hl : Ts.length ≤ 8) (ha : AE M qP ta a) : AE M qV (tCB (rIsTs K) (tCons ta (tCons (tTup (tTys Ts)) tNil))) (Mi.m1 (Mi.bIs Ts) a) := fun e σ H Hv Q I h =>
  ha e σ H Hv _ I ((fin_bind.mp h).mono fun x hx v H1 Hv1 g1 rx => tTys_ok Ts σ H1 _ ⟨by rw [List.length_map, sizeLine_eq]; omega, fun p hp => by
    have g2 : Grow H1 Hv1 (upd H1 p (.tup (Ts.map V.ty))) (upd Hv1 p (.tup (Ts.map V.ty))) := .new g1.vw hp
    have g := g1.trans g2
    exact ⟨v, _, p, Ts, _, rfl, upd_same, ty_of g.vw (RB.grow g2 rx), any_of hT, (Mi.fin_now hx) _ _ _ g qv_bl⟩⟩)
end
end Zp
set_option Elab.async false
set_option linter.all false
set_option maxRecDepth 100000
set_option maxHeartbeats 4000000
namespace Mi
def iEnumq (a : E) : I := fun e => (a e).bind fun x => (dQItems x).bind fun ds => .ok (dEnum 0 ds)
end Mi
namespace Zp
open PySem PySem.Spec PyProof.Rows L2 A
open Mi (D W Rs Fin fin_bind)
open AutoSeq1 (wpAny_loadPart')
variable [Tb : A.Tabs]
abbrev eO (c : Addr) : Obj := { cls := .type "enumerate", data := .fields #[.none, .bool false, .ref c, rawInt 0, .none, .none] }
theorem mkE (l : Addr) (us : Array Value) (n : Nat) (dd : Option Addr) (sl : Array (Option Value)) :
    Meets (Builtin.«enumerate.__new__» ⟨[.type "enumerate", .ref l], []⟩) (fun _ R s => s.heap.get? l = some { cls := .type "tuple", dict := dd, data := .seq us n, slots := sl } ∧
      ∀ h1 : Heap, h1 = s.heap.push (itO false l) → R (.ok (.ret (.ref h1.objs.size))) { s with heap := h1.push (eO s.heap.objs.size) }) :=
  .of_wp fun prog w A R s h => by
    obtain ⟨hp, g, d, tk, os⟩ := s; obtain ⟨ht, h⟩ := h
    have hsub := sub_enumerate
    have hQ : AtQ false (Shared.heap ⟨hp, g, d, tk, os⟩) l us := ⟨_, ht, rfl, n, rfl⟩
    wp_walk using wpAny_loadPart' ht
    refine wpAny_stack_any fun st => wpAny_pure ?_
    split
    · rename_i c _ _ _ _ _
      cases (c == Value.type "enumerate")
      · wp_walk using wpAny_loadPart' ht, it_of hQ
        exact ⟨_, rfl, h _ rfl⟩
      · wp_walk using wpAny_loadPart' ht, it_of hQ
        exact ⟨_, rfl, h _ rfl⟩
    · wp_walk using wpAny_loadPart' ht, it_of hQ
      exact ⟨_, rfl, h _ rfl⟩
theorem call_enumq {P : Program} {w : World} {B : Around} {E' : Value → Shared → Prop} {s : Shared} {k : Bool} {l : Addr} {us : Array Value} {R : Value → Shared → Prop} (hQ : AtQ k s.heap l us)
    (h : ∀ h', IsEnum h' (s.heap.objs.size + 1) s.heap.objs.size 0 .none → AtI k h' s.heap.objs.size l 0 → (∀ b o, s.heap.get? b = some o → h'.get? b = some o) → R (.ref (s.heap.objs.size + 1)) { s with heap := h' }) :
    wpAny (model P w) B (call (.type "enumerate") [.ref l]) R E' s := by
  cases k
  · obtain ⟨⟨c, dd, dt, sl⟩, hl, hc, n, hd⟩ := hQ
    replace hc : c = .type "tuple" := hc
    replace hd : dt = .seq us n := hd
    subst hc hd
    refine callType_new F.called_enumerate (by decide) (F.typeCall_enumerate_1 _) (F.newCall_enumerate_1 _) (fun obj => F.args_object_init_2 obj _) F.entry_enumerate_new (mkE l us n dd sl) ⟨hl, ?_⟩
    intro h1 e1
    have z1 : h1.objs.size = s.heap.objs.size + 1 := by rw [e1]; exact Heap.size_push ..
    have g1 : h1.get? s.heap.objs.size = some (itO false l) := by rw [e1]; exact Heap.get?_push_size _ rfl
    have g2 : (h1.push (eO s.heap.objs.size)).get? h1.objs.size = some (eO s.heap.objs.size) := Heap.get?_push_size _ rfl
    show _ ∧ _
    refine ⟨⟨_, g2, rfl⟩, ?_⟩
    rw [z1] at g2 ⊢
    exact h _ g2 ⟨_, Heap.get?_push_of_some _ g1, rfl, rfl⟩ fun b o x => Heap.get?_push_of_some _ (by rw [e1]; exact Heap.get?_push_of_some _ x)
  · exact call_enumerate_list hQ fun h' a b _ d => h h' a b d
def Itq (q : Bool × Addr) : It :=
  ⟨fun i H => ∃ xs x, SqB H q xs ∧ xs[i]? = some x, fun i H v H' => ∃ p x, (∀ xs, SqB H q xs → xs[i]? = some x) ∧ H p = none ∧ v = .ref p ∧ H' = upd H p (.tup [.int i, x]), fun i H => ∃ xs, SqB H q xs ∧ xs.length = i⟩
theorem turn_enumq {P : Program} {w : World} {K : PySem.W.Frag} {elts : List Expr} {k1 : Nat} {pos : Pos} (k : Bool) (a e it : Addr) (hne : e ≠ it) : Turn P w K (.Tuple elts k1 pos) (Itq (k, a)) [e, it] e (fun i h => (∃ old, IsEnum h e it i old) ∧ AtI k h it a i) where
  mem := by simp
  obj := fun i h st b hb => by
    obtain ⟨⟨old, he⟩, hi⟩ := st
    rcases List.mem_cons.mp hb with rfl | hb
    · exact ⟨_, he, fun v z => by cases z⟩
    · have e1 : b = it := by simpa using hb
      subst e1
      exact hi.cell
  keep := fun i h h' st kk => ⟨let ⟨old, he⟩ := st.1; ⟨old, kk e (by simp) _ he⟩, st.2.at fun o q => kk it (by simp) o q⟩
  item := by
    intro X hP hw hK hc i pins s σ H E I hf st hg
    subst hP hw hK
    obtain ⟨xs, x, hq, hx⟩ := hg
    obtain ⟨its, rv, p⟩ := hq.at I
    obtain ⟨u, hu, ru⟩ := rv.get hx
    obtain ⟨⟨old, he⟩, hli⟩ := st
    have hlt : i < its.toArray.size := by rw [List.size_toArray]; exact (List.getElem?_eq_some_iff.mp hu).1
    have hai : a ≠ it := fun z => hq.nn (by show H a = none; rw [z]; exact (hf it (by simp)).1)
    have hea : e ≠ a := fun z => hq.nn (by show H a = none; rw [← z]; exact (hf e (by simp)).1)
    refine wpAny_pyNext_enum_itemD (drawsQ (by first | exact I.ok.hd hc | (simp; exact I.ok.hd hc)) k it a hai its.toArray) he ⟨hli, p⟩ hlt hne (by simp [hne, hea]) fun y h' tk hy ho hs' hT hsz hk => ?_
    have hy : y = u := by
      have hu' : its.toArray[i]? = some u := by simpa using hu
      rw [hu'] at hy; exact (Option.some.inj hy).symm
    subst hy
    refine ⟨_, rfl, wpAny_letOwnedTupleGo_enum ho fun h2 he2 hs2 => ?_⟩
    have kk : ∀ b o, b ∉ [e, it] → s.heap.get? b = some o → h2.get? b = some o := fun b o hb q => by
      simp at hb
      exact (hs2.2 b hb.1).trans (hk b o hb.1 hb.2 q)
    have hTn : s.heap.objs.size ≠ e := fun z => absurd (Heap.lt_size he) (by rw [z]; exact Nat.lt_irrefl _)
    refine ⟨.ref s.heap.objs.size, upd H s.heap.objs.size (.tup [.int i, x]), turned_new (s := s) (t' := tk + 1) I hf kk (Nat.le_refl _) ?_, rfl, ⟨_, x, fun ys hy => by rw [hy.inj hq]; exact hx, I.hok.fresh (Nat.le_refl _), rfl, rfl⟩, ⟨⟨_, he2⟩, ?_⟩, fun b hb => ?_⟩
    · exact ⟨by simp only [List.length_cons, List.length_nil]; rw [sizeLine_eq]; decide, [.int i tk, y], .cons ⟨_, rfl⟩ (.cons ru .nil), ⟨_, (hs2.2 _ hTn).trans hT, rfl, rfl, _, rfl⟩⟩
    · exact hs'.1.at fun o q => (hs2.2 it (Ne.symm hne)).trans q
    · have : b ≠ s.heap.objs.size := fun z => by
        subst z
        rcases List.mem_cons.mp hb with z | z
        · exact hTn z
        · have z : s.heap.objs.size = it := by simpa using z
          obtain ⟨o, ho, _⟩ := hli
          exact absurd (Heap.lt_size ho) (by rw [← z]; exact Nat.lt_irrefl _)
      rw [upd_ne this]; exact (hf b hb).1
  done := by
    intro X hP hw hK hc i pins s σ H E I hf st hg
    subst hP hw hK
    obtain ⟨xs, hq, hx⟩ := hg
    obtain ⟨its, rv, p⟩ := hq.at I
    obtain ⟨⟨old, he⟩, hli⟩ := st
    have hl := rv.length
    have hai : a ≠ it := fun z => hq.nn (by show H a = none; rw [z]; exact (hf it (by simp)).1)
    subst hx
    have D := drawsQ (P := X.prog) (w := X.w) (B := X.A.in1) (by first | exact I.ok.hd hc | (simp; exact I.ok.hd hc)) k it a hai its.toArray
    have hn : its.toArray.size = xs.length := by simp; omega
    rw [hn] at D
    exact wpAny_pyNext_enum_endD D he ⟨hli, p⟩ fun h' hx => ⟨rfl, turned_all (s := s) (t' := s.toks) I hf fun b o hb q => hx b o (fun z => hb (by simp [z])) q⟩
  self := fun _ i s Q E st h => let ⟨⟨old, he⟩, _⟩ := st; wpAny_pyIter_enum he h
section
variable {X : Cx} {elts : List Expr} {k1 : Nat} {tpos : Pos} {M : Nat → Bool}
def iEnumQ (tl : TE) : TI := fun σ H R => tl σ H fun x H1 => ∃ k a, [x] = [V.ref a] ∧ (∃ xs, SqB H1 (k, a) xs) ∧ R (Itq (k, a)) H1
theorem pi_enumq {a : Expr} {ta : TE} {p pos : Pos} (hg : Gl X "enumerate") (hm : X.mg "enumerate" = none) (ha : PE X a ta) (hs : starEach [a] X.env = [(false, eval a X.env)] := by rfl) (hs0 : starEach [a] X.env = (false, eval a X.env) :: starEach [] X.env := by rfl) :
    PI X (.Tuple elts k1 tpos) (.Call (.Name "enumerate" p) [a] [] pos) (iEnumQ ta) := by
  intro pins s σ H R I h
  refine Call_ (ld_blt I hg hm boot_enumerate (PyProof.Rows.callWith_type1 (thn (pa_cons ha pa_nil hs0 pos pins s σ H (fun vs H1 => ∃ k l, vs = [.ref l] ∧ (∃ xs, SqB H1 (k, l) xs) ∧ R (Itq (k, l)) H1) I ?_) fun us s1 ⟨vs, H1, I1, r1, q1⟩ => ?_) hs rfl))
  · exact h
  · obtain ⟨k, l, e, ⟨xs, hq⟩, q⟩ := q1
    subst e
    obtain ⟨u, rfl, ru⟩ := vals1 r1
    cases ru
    obtain ⟨its, rv, pl⟩ := hq.at I1
    refine call_enumq pl fun h' hE hI hk => ?_
    refine wpAny_pyIter_enum hE ?_
    have I2 : Inv X pins σ H1 { s1 with heap := h' } := I1.kept (t' := s1.toks) fun b o e => hk b o e
    refine ⟨_, [s1.heap.objs.size + 1, s1.heap.objs.size], _, _, H1, rfl, I2, turn_enumq k l (s1.heap.objs.size + 1) s1.heap.objs.size (Nat.ne_of_gt (Nat.lt_succ_self _)), ⟨⟨_, hE⟩, hI⟩, fun b hb => ?_, q⟩
    have hb : s1.heap.objs.size ≤ b := by
      rcases List.mem_cons.mp hb with z | z
      · rw [z]; exact Nat.le_succ _
      · have z : b = s1.heap.objs.size := by simpa using z
        rw [z]; exact Nat.le_refl _
    exact I1.fpOk hb (I1.hok.fresh hb)
theorem itD_enumq {q : Bool × Addr} {ds : List D} {P : Hp → Hp → Prop} (ok : ∀ H Hv, P H Hv → Vw H Hv → ∃ xs, SqB H q xs ∧ P2 (Rep Hv) ds xs) : ItD (Itq q) P (Mi.dEnum 0 ds) := by
  refine ⟨fun i H Hv p v hi => ?_, fun i H Hv x H' p v hi y => ?_, fun H Hv p v => ?_⟩
  · obtain ⟨xs, l, r⟩ := ok H Hv p v
    rw [enum_len] at hi
    obtain ⟨x, hx, _⟩ := r.getL (i := i) (a := ds[i]) (by simp [hi])
    exact ⟨xs, x, l, hx⟩
  · obtain ⟨xs, l, r⟩ := ok H Hv p v
    rw [enum_len] at hi
    obtain ⟨q, z, hz, hq, rfl, rfl⟩ := y
    obtain ⟨x, hx, rx⟩ := r.getL (i := i) (a := ds[i]) (by simp [hi])
    rw [hz xs l] at hx
    cases hx
    obtain ⟨g, k⟩ := new_kT v (ds := [.int i, ds[i]]) (xs := [.int i, z]) (.cons (rep_int.mpr rfl) (.cons rx .nil)) hq
    refine ⟨_, .tup [.int i, ds[i]], g, ?_, k⟩
    rw [enum_get (i := i) (d := ds[i]) (by simp [hi])]
    simp
  · obtain ⟨xs, l, r⟩ := ok H Hv p v
    exact ⟨xs, l, by rw [enum_len, r.len]⟩
theorem ai_enumq {ta : TE} {a : Mi.E} (ha : AE M qV ta a) : AIf M (iEnumQ ta) (Mi.iEnumq a) := fun e σ H Hv R I h =>
  ha e σ H Hv _ I ((fin_bind.mp h).mono fun x hx v H1 Hv1 g1 rx => by
    obtain ⟨ds, hd, hk⟩ := dQ_ok (fin_bind.mp hx)
    obtain ⟨k, p, xs, rfl, l, r⟩ := dQ_rep hd (show Rep Hv1 x v from rx)
    exact ⟨k, p, rfl, ⟨xs, l.same g1.vw.sub⟩, hk (Itq (k, p)) H1 Hv1 (fun H Hv => SqB Hv (k, p) xs ∧ P2 (Rep Hv) ds xs) g1 (itD_enumq fun H Hv z v => ⟨xs, z.1.same v.sub, z.2⟩) ⟨l, r⟩ fun H1 Hv1 H2 Hv2 z s v => ⟨z.1.same s, p2_same s z.2⟩⟩)
end
end Zp
set_option Elab.async false
set_option linter.all false
set_option maxRecDepth 100000
set_option maxHeartbeats 4000000
namespace Mi
end Mi
namespace Zp
open PySem PySem.Spec PyProof.Rows L2 A
open Mi (D W Rs Fin fin_bind)
variable [Tb : A.Tabs]
section
variable {X : Cx} {M : Nat → Bool} {κ : Kd}
end
end Zp
set_option Elab.async false
set_option linter.all false
set_option maxRecDepth 100000
set_option maxHeartbeats 4000000
namespace Mi
abbrev SN := List D → List D → Env → Rs Out
end Mi
namespace Zp
open PySem PySem.Spec PyProof.Rows L2 A
open Mi (D W Rs Fin fin_bind Out)
variable [Tb : A.Tabs]
section
variable {M : Nat → Bool} {H0 Hv0 : Hp} {E : Mi.Env} {σ : L2.St} {H Ho : Hp} {i : Nat} {p0 p1 p2 : Addr} {ra rb : List D}
end
section
variable {M : Nat → Bool} {i : Nat} {K : PySem.W.Frag} {u : TS} {r : Mi.SN}
end
end Zp
namespace A
end A
namespace A
end A
set_option linter.all false
namespace Mi
open PySem
def dSlT (x : D) (lo hi : Option Int) : Rs D := match x with
  | .lst ds => .ok (.lst (cutL ds lo hi))
  | .tup ds => match lo, hi with
    | some a, none => guardR (1 ≤ a ∧ a ≤ (ds.length : Int) ∧ ds.length ≤ 16777216) (.ok (.tup (ds.drop a.toNat)))
    | _, _ => .no
  | _ => .no
end Mi
namespace A
end A
set_option Elab.async false
set_option linter.all false
set_option maxRecDepth 100000
set_option maxHeartbeats 1000000
namespace A
open PySem L2 PyProof.Rows
open Mi (D W Rs Fin fin_bind Out Tg met)
variable [Tb : Tabs]
section
variable {X : Cx} {K : PySem.W.Frag} {M : Nat → Bool} {te ta tb : TE} {a b : Mi.E}
def rSlT (K : PySem.W.Frag) : V → Option Int → Option Int → Hp → VK → Prop := fun x lo hi H Q => ∃ p xs a, x = .ref p ∧ SqT K H p xs ∧ lo = some a ∧ hi = none ∧ 1 ≤ a ∧ a ≤ (xs.length : Int) ∧ xs.length ≤ sizeLine ∧ ∀ q, H q = none → Q (.ref q) (upd H q (.tup (xs.drop a.toNat)))
theorem sl_tup : SlR X (rSlT X.K) := by
  intro pins s σ H x v vl vu lo hi sl Q I rx hs pl pu h
  obtain ⟨p, xs, a, rfl, hx, rfl, rfl, h1, h2, hz, q⟩ := h
  cases rx
  obtain ⟨its, r, ht, _⟩ := I.tuple hx
  have hl := r.length
  refine ⟨"tuple", _, slot_tuple_getitem.lookup, ht.typeIs, ?_⟩
  cases pl with
  | int _ t =>
  cases pu
  obtain ⟨n, rfl⟩ : ∃ n : Nat, a = n := ⟨a.toNat, by omega⟩
  refine getItem_tuple_from ht hs (by omega) (by rw [List.size_toArray]; omega) ?_ (by rw [List.size_toArray]; omega)
  rw [show (its.toArray.toList.drop n) = its.drop n by simp]
  have q := q _ (I.hok.fresh (Nat.le_refl _))
  rw [Int.toNat_natCast] at q
  exact ⟨.ref s.heap.objs.size, _, I.laid (t' := s.toks) (o := .tup (xs.drop n)) (fun b ob q => Heap.get?_push_of_some _ q) (Nat.le_refl _) ⟨by rw [List.length_drop]; omega, _, r.drop n, ⟨_, Heap.get?_push_size _ rfl, rfl, rfl, 0, rfl⟩⟩, rfl, q⟩
def rSlQ (K : PySem.W.Frag) : V → Option Int → Option Int → Hp → VK → Prop := fun x lo hi H Q => rSlL K x lo hi H Q ∨ rSlT K x lo hi H Q
theorem sl_Q : SlR X (rSlQ X.K) := sl_list.or sl_tup
theorem b_slQ : BS qV (rSlQ K) Mi.dSlT := fun x lo hi v H Hv Q vw rx h => by
  cases x with
  | lst ds =>
    obtain ⟨p, xs, rfl, l1, r1⟩ := RD.lst vw rx
    refine .inl ⟨p, xs, rfl, l1.sq, fun a ha => ?_⟩
    obtain ⟨g, k⟩ := new_kV vw (cut_p2 r1 lo hi) ha
    exact h _ _ _ g k
  | tup ds =>
    obtain ⟨p, xs, rfl, l1, _, r1⟩ := RD.tup vw rx
    cases lo with
    | none => exact h.elim
    | some a => cases hi with
      | some c => exact h.elim
      | none =>
        obtain ⟨⟨z1, z2, z3⟩, h⟩ := Mi.fin_guard h
        refine .inr ⟨p, xs, a, rfl, .inl (.inl l1), rfl, rfl, z1, by rw [← r1.len]; exact z2, by rw [← r1.len, sizeLine_eq]; exact z3, fun c hc => ?_⟩
        obtain ⟨g, k⟩ := new_kT vw (r1.drop a.toNat) hc
        exact h _ _ _ g k
  | _ => exact h.elim
end
end A
set_option Elab.async false
set_option linter.all false
set_option maxHeartbeats 1000000
namespace So
open PySem PySem.W PyProof.Rows
def wpL {α : Type} (n : Nat) (lt : Nat → Nat → Bool) : KasT α → (α → Prop) → Prop
  | .ret a, Q => Q a
  | .ask i j k, Q => i < n ∧ j < n ∧ wpL n lt (k (lt i j)) Q
theorem wpL_bind {α β : Type} {n : Nat} {lt : Nat → Nat → Bool} {f : α → KasT β} {Q : β → Prop} : ∀ {t : KasT α}, wpL n lt t (fun a => wpL n lt (f a) Q) → wpL n lt (t.bind f) Q
  | .ret _, h => h
  | .ask _ _ k, h => ⟨h.1, h.2.1, wpL_bind (t := k _) h.2.2⟩
theorem wpL_mono {α : Type} {n : Nat} {lt : Nat → Nat → Bool} {Q Q' : α → Prop} (m : ∀ a, Q a → Q' a) : ∀ {t : KasT α}, wpL n lt t Q → wpL n lt t Q'
  | .ret _, h => m _ h
  | .ask _ _ k, h => ⟨h.1, h.2.1, wpL_mono m (t := k _) h.2.2⟩
theorem wpL_wp {α : Type} {n : Nat} {lt : Nat → Nat → Bool} {cmp : Nat → Nat → (Bool → Shared → Prop) → Shared → Prop} {s : Shared} (hc : ∀ i j C, i < n → j < n → C (lt i j) s → cmp i j C s) {Q : α → Prop} : ∀ {t : KasT α}, wpL n lt t Q → t.kasWp cmp (fun a s' => s' = s ∧ Q a) s
  | .ret _, h => ⟨rfl, h⟩
  | .ask i j k, h => hc i j _ h.1 h.2.1 (wpL_wp hc (t := k _) h.2.2)
section
variable {n : Nat} {lt : Nat → Nat → Bool}
structure Ord (n : Nat) (lt : Nat → Nat → Bool) : Prop where
  tot : ∀ i j, i < n → j < n → i ≠ j → lt i j = true ∨ lt j i = true
  asy : ∀ i j, i < n → j < n → lt i j = true → lt j i = false
  tr : ∀ i j k, i < n → j < n → k < n → lt i j = true → lt j k = true → lt i k = true
abbrev at' (p : Array Nat) (i : Nat) : Nat := p.getD i 0
structure Pm (n : Nat) (p : Array Nat) : Prop where
  pm : p.Perm (List.toArray (List.range n))
theorem Pm.size {p : Array Nat} (h : Pm n p) : p.size = n := by have := h.pm.size_eq; simpa using this
theorem at_eq {p : Array Nat} {i : Nat} (h : i < p.size) : at' p i = p[i] := by simp [at', Array.getD, h]
theorem Pm.bd {p : Array Nat} (h : Pm n p) {i : Nat} (hi : i < n) : at' p i < n := by
  have hs : i < p.size := by rw [h.size]; exact hi
  rw [at_eq hs]
  have : p[i] ∈ (List.toArray (List.range n)).toList := (Array.perm_iff_toList_perm.mp h.pm).mem_iff.mp (by simp)
  simpa using this
theorem Pm.inj {p : Array Nat} (h : Pm n p) {i j : Nat} (hi : i < n) (hj : j < n) (e : at' p i = at' p j) : i = j := by
  have si : i < p.size := by rw [h.size]; exact hi
  have sj : j < p.size := by rw [h.size]; exact hj
  rw [at_eq si, at_eq sj] at e
  have nd : p.toList.Nodup := (Array.perm_iff_toList_perm.mp h.pm).nodup_iff.mpr (by simpa using List.nodup_range)
  have e2 : p.toList[i]'(by simpa using si) = p.toList[j]'(by simpa using sj) := by simpa using e
  exact (List.getElem_inj nd).mp e2
def Sd (lt : Nat → Nat → Bool) (p : Array Nat) (k : Nat) : Prop := ∀ i j, i < j → j < k → lt (at' p i) (at' p j) = true
def Dd (lt : Nat → Nat → Bool) (p : Array Nat) (k : Nat) : Prop := ∀ i j, i < j → j < k → lt (at' p j) (at' p i) = true
variable (O : Ord n lt)
include O
theorem not_lt {p : Array Nat} (h : Pm n p) {i j : Nat} (hi : i < n) (hj : j < n) (ne : i ≠ j) (e : lt (at' p i) (at' p j) = false) : lt (at' p j) (at' p i) = true := by
  rcases O.tot _ _ (h.bd hi) (h.bd hj) (fun z => ne (h.inj hi hj z)) with z | z
  · rw [e] at z; cases z
  · exact z
theorem Sd.more {p : Array Nat} (h : Pm n p) {k : Nat} (s : Sd lt p k) (hk : 1 ≤ k) (hkn : k < n) (e : lt (at' p (k - 1)) (at' p k) = true) : Sd lt p (k + 1) := fun i j hij hj => by
  by_cases hjk : j < k
  · exact s i j hij hjk
  · obtain rfl : j = k := by omega
    by_cases hi : i = j - 1
    · subst hi; exact e
    · exact O.tr _ _ _ (h.bd (by omega)) (h.bd (by omega)) (h.bd hkn) (s i (j - 1) (by omega) (by omega)) e
theorem Dd.more {p : Array Nat} (h : Pm n p) {k : Nat} (s : Dd lt p k) (hk : 1 ≤ k) (hkn : k < n) (e : lt (at' p k) (at' p (k - 1)) = true) : Dd lt p (k + 1) := fun i j hij hj => by
  by_cases hjk : j < k
  · exact s i j hij hjk
  · obtain rfl : j = k := by omega
    by_cases hi : i = j - 1
    · subst hi; exact e
    · exact O.tr _ _ _ (h.bd hkn) (h.bd (by omega)) (h.bd (by omega)) e (s i (j - 1) (by omega) (by omega))
theorem asc_ok {p : Array Nat} (h : Pm n p) : ∀ (f k : Nat), 1 ≤ k → k + f ≤ n → Sd lt p k → wpL n lt (kas_asc p f k) fun m => k ≤ m ∧ m ≤ k + f ∧ Sd lt p m ∧ (m = k + f ∨ lt (at' p m) (at' p (m - 1)) = true)
  | 0, k, _, _, s => ⟨Nat.le_refl _, Nat.le_refl _, s, .inl rfl⟩
  | f + 1, k, h1, h2, s => by
    refine ⟨h.bd (by omega), h.bd (by omega), ?_⟩
    cases e : lt (p.getD k 0) (p.getD (k - 1) 0) with
    | true => exact ⟨Nat.le_refl _, by omega, s, .inr e⟩
    | false =>
      dsimp only
      rw [if_neg Bool.false_ne_true]
      refine wpL_mono (fun m hm => ?_) (asc_ok h f (k + 1) (by omega) (by omega) (Sd.more O h s h1 (by omega) (not_lt O h (by omega) (by omega) (by omega) e)))
      refine ⟨by omega, by omega, hm.2.2.1, ?_⟩
      rcases hm.2.2.2 with z | z
      · exact .inl (by omega)
      · exact .inr z
theorem desc_ok {p : Array Nat} (h : Pm n p) : ∀ (f k : Nat), 1 ≤ k → k + f ≤ n → Dd lt p k → wpL n lt (kas_desc f p k 0) fun r => r.1 = p ∧ k ≤ r.2.1 ∧ r.2.1 ≤ k + f ∧ r.2.2 = 0 ∧ Dd lt p r.2.1
  | 0, k, _, _, s => ⟨rfl, Nat.le_refl _, Nat.le_refl _, rfl, s⟩
  | f + 1, k, h1, h2, s => by
    refine ⟨h.bd (by omega), h.bd (by omega), ?_⟩
    cases e : lt (p.getD k 0) (p.getD (k - 1) 0) with
    | true =>
      dsimp only
      rw [if_pos rfl, if_neg (by omega)]
      refine wpL_mono (fun r hr => ⟨hr.1, by omega, by omega, hr.2.2.2⟩) (desc_ok h f (k + 1) (by omega) (by omega) (Dd.more O h s h1 (by omega) e))
    | false =>
      dsimp only
      rw [if_neg Bool.false_ne_true]
      refine ⟨h.bd (by omega), h.bd (by omega), ?_⟩
      dsimp only
      rw [show lt (p.getD (k - 1) 0) (p.getD k 0) = true from not_lt O h (by omega) (by omega) (by omega) e, if_pos rfl]
      exact ⟨rfl, Nat.le_refl _, by show k ≤ _; omega, rfl, s⟩
theorem at_rev {p : Array Nat} {k : Nat} (hk : k ≤ p.size) (i : Nat) : at' (kas_rev p 0 k) i = if i < k then at' p (k - 1 - i) else at' p i := by
  have e := getElem?_mirror_all (xs := p) (i := 0) (j := k) hk i
  show (kas_rev p 0 k).getD i 0 = _
  have g : ∀ (q : Array Nat) (j : Nat), q.getD j 0 = (q[j]?).getD 0 := fun q j => by simp
  rw [g]
  unfold kas_rev
  rw [e]
  by_cases hi : i < k
  · rw [if_pos ⟨Nat.zero_le _, hi⟩, if_pos hi, ← g, show 0 + k - 1 - i = k - 1 - i by omega]
  · rw [if_neg (by omega), if_neg hi, ← g]
theorem rev_pm {p : Array Nat} (h : Pm n p) (k : Nat) : Pm n (kas_rev p 0 k) := ⟨(mirror_perm _ _ _ _).trans h.pm⟩
theorem tail_ok {p : Array Nat} (h : Pm n p) {k : Nat} (h1 : 1 ≤ k) (h2 : k ≤ n) (s : Dd lt p k) : wpL n lt (kas_tail3 k n p) fun r => Pm n r.2 ∧ 1 ≤ r.1 ∧ r.1 ≤ n ∧ Sd lt r.2 r.1 := by
  have sz : k ≤ p.size := by rw [h.size]; exact h2
  have s' : Sd lt (kas_rev p 0 k) k := fun i j hij hj => by
    rw [at_rev O sz, at_rev O sz, if_pos (by omega), if_pos hj]
    exact s _ _ (by omega) (by omega)
  refine wpL_bind (wpL_mono (fun m hm => ?_) (asc_ok O (rev_pm O h k) (n - k) k h1 (by omega) s'))
  exact ⟨rev_pm O h k, by omega, by omega, hm.2.2.1⟩
theorem descPart_ok {p : Array Nat} (h : Pm n p) {k : Nat} (h2 : k + 1 ≤ n) (s : Dd lt p (k + 1)) : wpL n lt (kas_descPart k n p) fun r => Pm n r.2 ∧ 1 ≤ r.1 ∧ r.1 ≤ n ∧ Sd lt r.2 r.1 := by
  refine wpL_bind (wpL_mono (fun r hr => ?_) (desc_ok O h (n - (k + 1)) (k + 1) (by omega) (by omega) s))
  obtain ⟨e1, l1, l2, e2, d⟩ := hr
  rw [e2, if_neg (by omega), e1]
  exact tail_ok O h (by omega) (by omega) d
theorem count_ok {p : Array Nat} (h : Pm n p) (h1 : 1 ≤ n) : wpL n lt (kas_count n p) fun r => Pm n r.2 ∧ 1 ≤ r.1 ∧ r.1 ≤ n ∧ Sd lt r.2 r.1 := by
  refine wpL_bind (wpL_mono (fun m hm => ?_) (asc_ok O h (n - 1) 1 (Nat.le_refl _) (by omega) (fun i j hij hj => by omega)))
  obtain ⟨m1, m2, s, e⟩ := hm
  by_cases hn : m = n
  · rw [if_pos (by simpa using hn)]
    exact ⟨h, m1, by omega, s⟩
  · rw [if_neg (by simpa using hn)]
    have e := e.resolve_left (by omega)
    by_cases hg : m > 1
    · rw [if_pos hg]
      refine ⟨h.bd (by omega), h.bd (by omega), ?_⟩
      dsimp only
      rw [show lt (p.getD 0 0) (p.getD (m - 1) 0) = true from s 0 (m - 1) (by omega) (by omega), if_pos rfl]
      exact ⟨h, m1, by omega, s⟩
    · rw [if_neg hg]
      obtain rfl : m = 1 := by omega
      refine descPart_ok O h (by omega) fun i j hij hj => ?_
      obtain rfl : i = 0 := by omega
      obtain rfl : j = 1 := by omega
      exact e
theorem place_ok {p : Array Nat} (h : Pm n p) {k : Nat} (hk : k < n) (s : Sd lt p k) : ∀ (f l r : Nat), l ≤ r → r ≤ k → r - l ≤ f → (∀ i, i < l → lt (at' p i) (at' p k) = true) → (∀ i, r ≤ i → i < k → lt (at' p k) (at' p i) = true) →
    wpL n lt (kas_place p k f l r) fun m => m ≤ k ∧ (∀ i, i < m → lt (at' p i) (at' p k) = true) ∧ (∀ i, m ≤ i → i < k → lt (at' p k) (at' p i) = true)
  | 0, l, r, h1, h2, h3, a, b => by
    obtain rfl : l = r := by omega
    exact ⟨h2, a, b⟩
  | f + 1, l, r, h1, h2, h3, a, b => by
    unfold kas_place
    by_cases g : l ≥ r
    · rw [if_pos g]
      obtain rfl : l = r := by omega
      exact ⟨h2, a, b⟩
    · rw [if_neg g]
      refine ⟨h.bd hk, h.bd (by omega), ?_⟩
      cases e : lt (p.getD k 0) (p.getD ((l + r) / 2) 0) with
      | true =>
        dsimp only
        rw [if_pos rfl]
        refine place_ok h hk s f l ((l + r) / 2) (by omega) (by omega) (by omega) a fun i hi hk' => ?_
        by_cases z : i = (l + r) / 2
        · subst z; exact e
        · exact O.tr _ _ _ (h.bd hk) (h.bd (by omega)) (h.bd (by omega)) e (s _ _ (by omega) hk')
      | false =>
        dsimp only
        rw [if_neg Bool.false_ne_true]
        have e' := not_lt O h hk (by omega) (by omega) e
        refine place_ok h hk s f ((l + r) / 2 + 1) r (by omega) h2 (by omega) (fun i hi => ?_) b
        by_cases z : i = (l + r) / 2
        · subst z; exact e'
        · exact O.tr _ _ _ (h.bd (by omega)) (h.bd (by omega)) (h.bd hk) (s _ _ (by omega) (by omega)) e'
theorem at_bub {p : Array Nat} {k d : Nat} (hk : k < p.size) (hd : d ≤ k) (i : Nat) : at' (bubble p k d) i = if i = k - d then at' p k else if k - d < i ∧ i ≤ k then at' p (i - 1) else at' p i := by
  have e := getElem?_bubble hk d hd i
  have g : ∀ (q : Array Nat) (j : Nat), q.getD j 0 = (q[j]?).getD 0 := fun q j => by simp
  show (bubble p k d).getD i 0 = _
  rw [g, e]
  by_cases h1 : i = k - d
  · rw [if_pos h1, if_pos h1, ← g]
  · rw [if_neg h1, if_neg h1]
    by_cases h2 : k - d < i ∧ i ≤ k
    · rw [if_pos h2, if_pos h2, ← g]
    · rw [if_neg h2, if_neg h2, ← g]
theorem bin_ok : ∀ (f : Nat) (p : Array Nat) (k : Nat), Pm n p → k + f ≤ n → Sd lt p k → wpL n lt (kas_bin f p k) fun q => Pm n q ∧ Sd lt q (k + f)
  | 0, p, k, h, _, s => ⟨h, s⟩
  | f + 1, p, k, h, hk, s => by
    have sz : k < p.size := by rw [h.size]; omega
    refine wpL_bind (wpL_mono (fun l hl => ?_) (place_ok O h (by omega) s k 0 k (by omega) (Nat.le_refl _) (by omega) (fun i hi => by omega) (fun i h1 h2 => by omega)))
    obtain ⟨l1, lo, hi⟩ := hl
    have s' : Sd lt (bubble p k (k - l)) (k + 1) := fun i j hij hj => by
      rw [at_bub O sz (d := k - l) (by omega), at_bub O sz (d := k - l) (by omega), show k - (k - l) = l by omega]
      by_cases c1 : i = l
      · rw [if_pos c1, if_neg (by omega), if_pos (by omega)]
        exact hi _ (by omega) (by omega)
      · rw [if_neg c1]
        by_cases c2 : l < i ∧ i ≤ k
        · rw [if_pos c2, if_neg (by omega), if_pos (by omega)]
          exact s _ _ (by omega) (by omega)
        · rw [if_neg c2]
          by_cases c3 : j = l
          · rw [if_pos c3]
            exact lo _ (by omega)
          · rw [if_neg c3]
            by_cases c4 : l < j ∧ j ≤ k
            · rw [if_pos c4]
              exact s _ _ (by omega) (by omega)
            · rw [if_neg c4]
              exact s _ _ (by omega) (by omega)
    refine wpL_mono (fun q hq => ⟨hq.1, ?_⟩) (bin_ok f (bubble p k (k - l)) (k + 1) ⟨(bubble_perm _ _ _).trans h.pm⟩ (by omega) s')
    rw [show k + (f + 1) = k + 1 + f by omega]; exact hq.2
theorem sort_ok (h1 : 1 ≤ n) : wpL n lt (kas_sort n) fun q => Pm n q ∧ Sd lt q n := by
  refine wpL_bind (wpL_mono (fun r hr => ?_) (count_ok O ⟨Array.Perm.refl _⟩ h1))
  obtain ⟨pm, r1, r2, s⟩ := hr
  by_cases hl : r.1 < n
  · rw [if_pos hl]
    refine wpL_mono (fun q hq => ⟨hq.1, ?_⟩) (bin_ok O (n - max r.1 1) r.2 (max r.1 1) pm (by omega) (by rw [show max r.1 1 = r.1 by omega]; exact s))
    rw [show n = max r.1 1 + (n - max r.1 1) by omega]; exact hq.2
  · rw [if_neg hl]
    exact ⟨pm, by rw [show n = r.1 by omega]; exact s⟩
end
end So
set_option Elab.async false
set_option linter.all false
set_option maxRecDepth 100000
set_option maxHeartbeats 1000000
namespace So
open PySem PySem.W PyProof.Rows PySem.MeetsSeq3
def lexL : List Int → List Int → Bool
  | [], [] => false
  | [], _ :: _ => true
  | _ :: _, [] => false
  | a :: r, b :: t => if a == b then lexL r t else decide (a < b)
section
variable {prog : Program} {w : World} {Ar : Around}
theorem ints_at {vs : List Value} {ns : List Int} (h : IntsAre vs ns) : ∀ {i : Nat} {n : Int}, ns[i]? = some n → ∃ t, vs[i]? = some (.int n t) := by
  induction h with
  | nil => intro i n e; simp at e
  | cons a t h ih =>
    intro i n e
    cases i with
    | zero => simp at e; subst e; exact ⟨t, rfl⟩
    | succ i => exact ih (by simpa using e)
theorem lt_go {R : Result → Shared → Prop} {s : Shared} {l b : Addr} {us vs : List Value} {xs ys : List Int} {o o2 : Obj} {n n2 : Nat} (ho : s.heap.get? l = some o) (hd : o.data = .seq us.toArray n) (ho2 : s.heap.get? b = some o2) (hd2 : o2.data = .seq vs.toArray n2) (hu : IntsAre us xs) (hv : IntsAre vs ys) :
    ∀ (k i : Nat), xs.length - i ≤ k → i ≤ xs.length → i ≤ ys.length → R (.ok (.ret (.bool (lexL (xs.drop i) (ys.drop i))))) s → codeAny (model prog w) Ar (.builtin "list.__eq__.loop" ⟨[.ref l, .ref b, rawInt i, rawInt 0], []⟩) R s := by
  have l1 := hu.length
  have l2 := hv.length
  have gx : ∀ i, i < xs.length → ∃ t, us.toArray[i]? = some (.int (xs.getD i 0) t) := fun i hi => by
    obtain ⟨t, e⟩ := ints_at hu (i := i) (n := xs.getD i 0) (by simp [hi])
    exact ⟨t, by simpa using e⟩
  have gy : ∀ i, i < ys.length → ∃ t, vs.toArray[i]? = some (.int (ys.getD i 0) t) := fun i hi => by
    obtain ⟨t, e⟩ := ints_at hv (i := i) (n := ys.getD i 0) (by simp [hi])
    exact ⟨t, by simpa using e⟩
  have nx : ∀ i, ¬ i < xs.length → us.toArray[i]? = none := fun i hi => by simp; omega
  have ny : ∀ i, ¬ i < ys.length → vs.toArray[i]? = none := fun i hi => by simp; omega
  have endx : ∀ i, i = xs.length → i ≤ ys.length → decide (us.toArray.size < vs.toArray.size) = lexL (xs.drop i) (ys.drop i) := fun i hi hj => by
    rw [List.drop_eq_nil_of_le (by omega : xs.length ≤ i), List.size_toArray, List.size_toArray, l1, l2]
    by_cases h : i < ys.length
    · rw [List.drop_eq_getElem_cons h]
      simp [lexL]; omega
    · rw [List.drop_eq_nil_of_le (by omega : ys.length ≤ i)]
      simp [lexL]; omega
  have endy : ∀ i, i < xs.length → i = ys.length → decide (us.toArray.size < vs.toArray.size) = lexL (xs.drop i) (ys.drop i) := fun i hi hj => by
    rw [List.drop_eq_nil_of_le (by omega : ys.length ≤ i), List.drop_eq_getElem_cons hi, List.size_toArray, List.size_toArray, l1, l2]
    simp [lexL]; omega
  have fin : ∀ (i : Nat), (us.toArray[i]? = none ∨ vs.toArray[i]? = none) → R (.ok (.ret (.bool (decide (us.toArray.size < vs.toArray.size))))) s → codeAny (model prog w) Ar (.builtin "list.__eq__.loop" ⟨[.ref l, .ref b, rawInt i, rawInt 0], []⟩) R s := fun i hn h => by
    refine codeAny_builtin entry_eq_loop (by
      rw [Around.under_plainId plain_eq_loop _]
      unfold Builtin.«list.__eq__.loop»
      show wpAny _ _ (Builtin.List.listItems (.ref l) >>= _) _ _ _
      refine wpAny_bind (listItems_at ho hd (wpAny_bind (listItems_at ho2 hd2 ?_)))
      simp only [Int.toNat_natCast]
      rcases hn with e | e
      · rw [e]
        dsimp only
        refine wpAny_bind (listItems_at ho hd (wpAny_bind (listItems_at ho2 hd2 ?_)))
        exact wpAny_pure h
      · rw [e]
        cases us.toArray[i]? <;>
        · dsimp only
          refine wpAny_bind (listItems_at ho hd (wpAny_bind (listItems_at ho2 hd2 ?_)))
          exact wpAny_pure h)
  intro k
  induction k with
  | zero =>
    intro i hk h1 h2 h
    refine fin i (.inl (nx i (by omega))) ?_
    rw [endx i (by omega) h2]; exact h
  | succ k ih =>
    intro i hk h1 h2 h
    by_cases hi : i < xs.length
    · by_cases hj : i < ys.length
      · obtain ⟨t, e1⟩ := gx i hi
        obtain ⟨u, e2⟩ := gy i hj
        have dx : xs.drop i = xs.getD i 0 :: xs.drop (i + 1) := by rw [List.drop_eq_getElem_cons hi]; simp [hi]
        have dy : ys.drop i = ys.getD i 0 :: ys.drop (i + 1) := by rw [List.drop_eq_getElem_cons hj]; simp [hj]
        rw [dx, dy] at h
        refine codeAny_builtin entry_eq_loop (by
          rw [Around.under_plainId plain_eq_loop _]
          unfold Builtin.«list.__eq__.loop»
          show wpAny _ _ (Builtin.List.listItems (.ref l) >>= _) _ _ _
          refine wpAny_bind (listItems_at ho hd (wpAny_bind (listItems_at ho2 hd2 ?_)))
          simp only [Int.toNat_natCast]
          rw [e1, e2]
          dsimp only
          refine wpAny_bind (wpAny_eqBool_int ?_)
          cases hb : (xs.getD i 0 == ys.getD i 0) with
          | true =>
            rw [if_pos rfl]
            rw [lexL, hb, if_pos rfl] at h
            refine wpAny_pure ⟨plainId_quiet plain_eq_loop _, ?_⟩
            have := ih (i + 1) (by omega) hi hj h
            rw [show rawInt ((i + 1 : Nat) : Int) = rawInt ((i : Int) + 1) from by rw [show ((i + 1 : Nat) : Int) = (i : Int) + 1 by omega]] at this
            exact this
          | false =>
            rw [if_neg Bool.false_ne_true]
            rw [lexL, hb, if_neg Bool.false_ne_true] at h
            refine wpAny_bind (listItems_at ho hd (wpAny_bind (listItems_at ho2 hd2 ?_)))
            rw [e1, e2]
            show wpAny _ _ (richCompare .Lt _ _ >>= _) _ _ _
            exact wpAny_bind (show wpAny _ _ (compareOp .Lt _ _) _ _ _ from wpAny_lt_int (wpAny_pure h)))
      · refine fin i (.inr (ny i hj)) ?_
        rw [endy i hi (by omega)]; exact h
    · refine fin i (.inl (nx i hi)) ?_
      rw [endx i (by omega) h2]; exact h
theorem lt_lists {E : Value → Shared → Prop} {s : Shared} {l b : Addr} {us vs : List Value} {xs ys : List Int} {o o2 : Obj} {n n2 : Nat} {Q : Bool → Shared → Prop} (ho : s.heap.get? l = some o) (hc : o.cls = .type "list") (hd : o.data = .seq us.toArray n) (ho2 : s.heap.get? b = some o2) (hc2 : o2.cls = .type "list") (hd2 : o2.data = .seq vs.toArray n2) (hu : IntsAre us xs) (hv : IntsAre vs ys)
    (hun : Ar.units < cLine) (h : Q (lexL xs ys) s) : wpAny (model prog w) Ar (keyLt' oneType' (.ref l) (.ref b)) Q E s := by
  have t1 : s.TypeIs (.ref l) "list" := ⟨_, ho, hc⟩
  have t2 : s.TypeIs (.ref b) "list" := ⟨_, ho2, hc2⟩
  rw [keyLt'_oneType, oneLt'_eq]
  simp only [if_true]
  refine wpAny_bind (wpAny_cRoomFor hun ?_)
  refine wpAny_bind (wpAny_callSpecialIfBound?_slot t1 PySem.F.slot_list_lt (wpAny_call (codeAny_call_builtin PySem.F.slot_list_lt.plain PySem.F.entry_list_lt (PySem.F.slot_list_lt.check _ _ _ _ _ _ _ _ t1 (PySem.F.args_list_lt_2 _ _) ?_))))
  unfold Builtin.«list.__lt__»
  have sub : isSubtype (.type "list") (.type "list") = pure true := by rw [isSubtype_type]; kernel_rfl
  show wpAny _ _ (isInstance (.ref b) (.type "list") >>= _) _ _ _
  refine wpAny_bind (wpAny_isInstance t2 sub ?_)
  refine wpAny_pure ⟨plainId_quiet plain_eq_loop _, ?_⟩
  refine lt_go ho hd ho2 hd2 hu hv xs.length 0 (by omega) (Nat.zero_le _) (Nat.zero_le _) ?_
  exact wpAny_truthy_bool h
end
end So
set_option Elab.async false
set_option linter.all false
set_option maxRecDepth 100000
set_option maxHeartbeats 1000000
namespace So
open PySem PySem.W PyProof.Rows
section
variable {prog : Program} {w : World} {A : Around} {E : Value → Shared → Prop} {s : Shared}
def tm (n : Nat) : List Addr := [n, n + 1, n + 2, n + 3]
def IsSort (lt : Nat → Nat → Bool) (vs out : List Value) : Prop := ∃ p : Array Nat, Pm vs.length p ∧ Sd lt p vs.length ∧ out = p.toList.map fun i => vs.getD i Value.none
theorem IsSort.len {lt : Nat → Nat → Bool} {vs out : List Value} (h : IsSort lt vs out) : out.length = vs.length := by
  obtain ⟨p, pm, _, rfl⟩ := h
  rw [List.length_map, Array.length_toList, pm.size]
theorem tail_keyed {a kS : Addr} {e e1 : Nat} {ks out : List Value} {st : SortSt} {P : PySem.Fin → Shared → Prop} (hk : s.heap.get? kS = some (seqObj "list" (List.toArray ks) e)) (ha : s.heap.get? a = some (seqObj "list" #[] e1)) (ne : a ≠ kS)
    (hks : ks.length < 64) (ho : out.length < 64) (hout : (arrOf st).map (·.2) = List.toArray out) (hf : failedOf st = none)
    (h : ∀ h' c, (∀ b o, b ≠ a → b ≠ kS → s.heap.get? b = some o → h'.get? b = some o) → (∃ o, h'.get? kS = some o) → h'.get? a = some (seqObj "list" (List.toArray out) c) → P (.done (.ret .none)) { s with heap := h' }) :
    wpAny (model prog w) A (ksk_tail a false e1 (.ref kS) st) P E s := by
  have s1 := Heap.SameBut.update s.heap kS (Obj.mapSeq fun _ => (#[] : Array Value))
  have ha1 := (s1.2 a ne).trans ha
  have s2 := Heap.SameBut.update (s.heap.update kS (Obj.mapSeq fun _ => (#[] : Array Value))) a (Obj.mapSeq fun _ => List.toArray out)
  obtain ⟨c, hc⟩ : ∃ c, ((s.heap.update kS (Obj.mapSeq fun _ => (#[] : Array Value))).update a (Obj.mapSeq fun _ => List.toArray out)).get? a = some (seqObj "list" (List.toArray out) c) := ⟨_, get?_update_seq ha1 fun _ => List.toArray out⟩
  unfold ksk_tail
  dsimp only
  rw [hout]
  refine wpAny_bind (listUpdate_at hk rfl ?_ (by rw [List.size_toArray, sizeLine_eq]; omega) (Nat.zero_le _))
  refine wpAny_bind (wpAny_letGo (wpAny_bind (seqEpoch_at ha1 rfl ?_)))
  refine wpAny_bind (listUpdate_at ha1 rfl ?_ (Nat.zero_le _) (by show (List.toArray out).size ≤ _; rw [List.size_toArray, sizeLine_eq]; omega))
  rw [hf]
  simp only [bne_self_eq_false, Bool.false_eq_true, if_false]
  exact wpAny_pure (h _ c (fun b o n1 n2 q => (s2.2 b n1).trans ((s1.2 b n2).trans q)) ⟨_, (s2.2 kS (Ne.symm ne)).trans (get?_update_seq hk fun _ => #[])⟩ hc)
theorem keys_keyed {a kS f : Addr} {e1 : Nat} {P : PySem.Fin → Shared → Prop} (J : List Value → Shared → Prop) {vs : List Value} (h64 : vs.length < 64)
    (jk : ∀ ks s1 h', J ks s1 → (∀ b o, b ≠ kS → s1.heap.get? b = some o → h'.get? b = some o) → (∃ o, h'.get? kS = some o) → J ks { s1 with heap := h' })
    (jc : ∀ i x ks s1, vs[i]? = some x → ks.length = i → J ks s1 → wpAny (model prog w) A (call (.ref f) [x]) (fun k s2 => J (ks ++ [k]) s2 ∧ ∀ b o, (b = a ∨ b = kS) → s1.heap.get? b = some o → s2.heap.get? b = some o) (fun _ _ => False) s1)
    (ne : a ≠ kS) (hk : s.heap.get? kS = some (seqObj "list" #[] 0)) (ha : s.heap.get? a = some (seqObj "list" #[] e1)) (j0 : J [] s)
    (fin : ∀ ks e s1, ks.length = vs.length → J ks s1 → s1.heap.get? kS = some (seqObj "list" (List.toArray ks) e) → s1.heap.get? a = some (seqObj "list" #[] e1) → wpAny (model prog w) A (ksk_end a false vs.toArray e1 (.ref kS) (List.toArray ks)) P E s1) :
    wpAny (model prog w) A (ksk_rest a (.ref f) false vs.toArray e1 (.ref kS)) P E s := by
  unfold ksk_rest
  refine wpAny_bind (wpAny_rule ?_)
  rw [List.forIn_toArray]
  refine wpAny_bind (ksk_fold (I := fun i s1 => ∃ ks e, ks.length = i ∧ J ks s1 ∧ s1.heap.get? kS = some (seqObj "list" (List.toArray ks) e) ∧ s1.heap.get? a = some (seqObj "list" #[] e1)) vs 0 s ⟨[], 0, rfl, j0, hk, ha⟩ (fun j x s1 hx hI => ?_) fun s1 hI => ?_)
  · obtain ⟨ks, e, hl, hJ, hk1, ha1⟩ := hI
    rw [Nat.zero_add] at hl ⊢
    have hlt : j < vs.length := (List.getElem?_eq_some_iff.mp hx).1
    refine wpAny_bind (wpAny_attempt (wpAny_mono (jc j x ks s1 hx hl hJ) (fun k s2 h2 => ?_) fun _ _ z => z.elim))
    obtain ⟨hJ2, kp⟩ := h2
    have hk2 := kp kS _ (.inr rfl) hk1
    have ha2 := kp a _ (.inl rfl) ha1
    have su := Heap.SameBut.update s2.heap kS (Obj.mapSeq (·.push k))
    have ea : (List.toArray ks).push k = List.toArray (ks ++ [k]) := by simp
    obtain ⟨c2, hc2⟩ : ∃ c2, (s2.heap.update kS (Obj.mapSeq (·.push k))).get? kS = some (seqObj "list" (List.toArray (ks ++ [k])) c2) := ⟨_, by rw [← ea]; exact get?_update_seq hk2 (·.push k)⟩
    dsimp only
    refine wpAny_bind (listUpdate_at hk2 rfl ?_ (by rw [List.size_toArray, sizeLine_eq]; omega) (Nat.le_trans (Nat.le_of_eq (Array.size_push ..)) (by rw [List.size_toArray, sizeLine_eq]; omega)))
    exact wpAny_pure ⟨rfl, ks ++ [k], c2, by rw [List.length_append, hl]; rfl, jk _ _ _ hJ2 (fun b o n q => (su.2 b n).trans q) ⟨_, hc2⟩, hc2, (su.2 a ne).trans ha2⟩
  · obtain ⟨ks, e, hl, hJ, hk1, ha1⟩ := hI
    refine wpAny_bind (listItems_at hk1 rfl ?_)
    exact fin ks e s1 (by simpa using hl) hJ hk1 ha1
theorem end_keyed {a kS : Addr} {e e1 : Nat} {ks vs : List Value} {lt : Nat → Nat → Bool} {P : PySem.Fin → Shared → Prop} (hl : ks.length = vs.length) (h64 : vs.length < 64) (O : Ord vs.length lt)
    (hkk : 2 ≤ vs.length → ∀ (Q : SortKind → Shared → Prop), Q oneType' s → wpAny (model prog w) A (keyKind' (List.toArray ks)) Q (fun _ _ => False) s)
    (hcmp : ∀ i j C, i < vs.length → j < vs.length → C (lt i j) s → kas_ask prog w A oneType' ks i j C s)
    (hk : s.heap.get? kS = some (seqObj "list" (List.toArray ks) e)) (ha : s.heap.get? a = some (seqObj "list" #[] e1)) (ne : a ≠ kS)
    (h : ∀ out h' c, IsSort lt vs out → (∀ b o, b ≠ a → b ≠ kS → s.heap.get? b = some o → h'.get? b = some o) → (∃ o, h'.get? kS = some o) → h'.get? a = some (seqObj "list" (List.toArray out) c) → P (.done (.ret .none)) { s with heap := h' }) :
    wpAny (model prog w) A (ksk_end a false vs.toArray e1 (.ref kS) (List.toArray ks)) P E s := by
  have getself : ∀ {n : Nat}, Pm n (List.toArray (List.range n)) := ⟨Array.Perm.refl _⟩
  unfold ksk_end
  dsimp only
  rw [if_neg Bool.false_ne_true, if_neg Bool.false_ne_true]
  by_cases h2 : vs.toArray.size < 2
  · rw [if_pos h2, if_pos h2]
    rw [List.size_toArray] at h2
    refine wpAny_bind (wpAny_pure ?_)
    rw [StateT.run_pure]
    refine wpAny_bind (wpAny_pure ?_)
    dsimp only
    have hout : IsSort lt vs vs := ⟨List.toArray (List.range vs.length), getself, fun i j hij hj => by omega, by
      apply List.ext_getElem (by simp)
      intro i h1 h2
      simp [h1]⟩
    refine tail_keyed (out := vs) hk ha ne (by omega) h64 ?_ rfl fun h' c kp ex hc => h vs h' c hout kp ex hc
    show ((List.toArray ks).zip vs.toArray).map (·.2) = vs.toArray
    apply Array.toList_inj.mp
    rw [Array.toList_map, Array.toList_zip]
    simp only []
    rw [List.map_snd_zip (by omega)]
  · rw [if_neg h2, if_neg h2]
    rw [List.size_toArray] at h2
    refine wpAny_bind (wpAny_mono (hkk (by omega) (fun κ s' => κ = oneType' ∧ s' = s) ⟨rfl, rfl⟩) (fun κ s' hh => ?_) fun _ _ z => z.elim)
    obtain ⟨rfl, rfl⟩ := hh
    have wp := wpL_wp (cmp := kas_ask prog w A oneType' ks) (s := s') hcmp (sort_ok O (by omega))
    refine wpAny_bind (wpAny_mono (kat_run (E := E) (Q := fun st' s2 => s2 = s' ∧ ∃ p : Array Nat, Pm vs.length p ∧ Sd lt p vs.length ∧ arrOf st' = p.map (kas_item (ks.toArray.zip vs.toArray)) ∧ failedOf st' = none) hl (by omega) h64 (fun p st' s2 _ a2 a3 a4 => ⟨a4.1, p, a4.2.1, a4.2.2, a2, a3⟩) wp) ?_ fun _ _ z => z)
    rintro ⟨⟨⟩, st'⟩ s2 ⟨rfl, p, pm, sd, har, hf⟩
    dsimp only
    have hout : IsSort lt vs (p.toList.map fun i => vs.getD i Value.none) := ⟨p, pm, sd, rfl⟩
    exact tail_keyed hk ha ne (by omega) (by rw [hout.len]; exact h64) (kat_snds hl har) hf fun h' c kp ex hc => h _ h' c hout kp ex hc
theorem sorted_keyed {f l : Addr} {vs : List Value} {Q : Value → Shared → Prop} (J : List Value → Shared → Prop) (hl : s.heap.IsList l vs.toArray) (h64 : vs.length < 64)
    (j0 : ∀ h' : Heap, (∀ b o, s.heap.get? b = some o → h'.get? b = some o) → (∀ b ∈ tm s.heap.objs.size, ∃ o, h'.get? b = some o) → J [] { s with heap := h' })
    (jk : ∀ ks s1 h', J ks s1 → (∀ b o, b ∉ tm s.heap.objs.size → s1.heap.get? b = some o → h'.get? b = some o) → (∀ b o, s1.heap.get? b = some o → ∃ o', h'.get? b = some o') → J ks { s1 with heap := h' })
    (jc : ∀ i x ks s1, vs[i]? = some x → ks.length = i → J ks s1 → wpAny (model prog w) A.in1.in1 (call (.ref f) [x]) (fun k s2 => J (ks ++ [k]) s2 ∧ ∀ b o, b ∈ tm s.heap.objs.size → s1.heap.get? b = some o → s2.heap.get? b = some o) (fun _ _ => False) s1)
    (je : ∀ ks s1, ks.length = vs.length → J ks s1 → ∃ lt, Ord vs.length lt ∧ (2 ≤ vs.length → ∀ (Q : SortKind → Shared → Prop), Q oneType' s1 → wpAny (model prog w) A.in1.in1 (keyKind' (List.toArray ks)) Q (fun _ _ => False) s1) ∧
      (∀ i j C, i < vs.length → j < vs.length → C (lt i j) s1 → kas_ask prog w A.in1.in1 oneType' ks i j C s1) ∧
      ∀ out h' c, IsSort lt vs out → (∀ b o, b ∉ tm s.heap.objs.size → s1.heap.get? b = some o → h'.get? b = some o) → (∀ b o, s1.heap.get? b = some o → ∃ o', h'.get? b = some o') → h'.get? (s.heap.objs.size + 1) = some (seqObj "list" (List.toArray out) c) → Q (.ref (s.heap.objs.size + 1)) { s1 with heap := h' }) :
    wpAny (model prog w) A (call (.builtin "sorted") [.ref l] [(Str.ofString "key", .ref f)]) Q E s := by
  refine call_function_entry_kw kind_sorted plain_sorted entry_sorted (ksk_s1 _ _) ?_
  unfold Builtin.«sorted»
  refine wpAny_bind (m := checkCount "sorted" 1 1 _) (wpAny_pure ?_)
  refine wpAny_bind (collect_list hl ?_ (by rw [sizeLine_eq]; omega))
  refine wpAny_bind (wpAny_newList ?_ (by rw [sizeLine_eq]; omega))
  generalize hn : s.heap.objs.size = n at *
  generalize hh1 : ((s.heap.push (seqObj "list" #[] 0)).update n (Obj.mapSeq (· ++ vs.toArray))) = h1
  have hsz : h1.objs.size = n + 1 := by rw [← hh1, Heap.size_update, size_push', hn]
  have k1 : ∀ b o, s.heap.get? b = some o → h1.get? b = some o := fun b o q => by
    have hlt : b < n := by rw [← hn]; exact Heap.lt_size q
    rw [← hh1, Heap.get?_update_ne _ _ _ _ (Nat.ne_of_lt hlt), Heap.get?_push_ne _ _ _ (by rw [hn]; exact Nat.ne_of_lt hlt)]
    exact q
  have hoL : (h1.push (seqObj "list" vs.toArray 0)).get? (n + 1) = some (seqObj "list" vs.toArray 0) := by rw [← hsz]; exact Heap.get?_push_size _ rfl
  show wpAny _ _ _ _ _ { s with heap := h1.push (seqObj "list" vs.toArray 0) }
  rw [hsz]
  refine wpAny_bind (wpAny_holding (wpAny_call_entry_kw slot_list_sort ⟨_, hoL, rfl⟩ entry_list_sort ?_ (ksk_l1 _ _)))
  show wpAny (model prog w) A.in1.in1 (Builtin.«list.sort» ⟨[.ref (n + 1)], [(Str.ofString "key", .ref f)]⟩) _ _ _
  rw [ksk_t1]
  generalize hh2 : h1.push (seqObj "list" vs.toArray 0) = h2 at hoL ⊢
  have k2 : ∀ b o, s.heap.get? b = some o → h2.get? b = some o := fun b o q => by rw [← hh2]; exact Heap.get?_push_of_some _ (k1 b o q)
  have z2 : h2.objs.size = n + 2 := by rw [← hh2, Heap.size_push, hsz]
  obtain ⟨e1, ho1⟩ : ∃ e1, (h2.update (n + 1) (Obj.mapSeq fun _ => (#[] : Array Value))).get? (n + 1) = some (seqObj "list" #[] e1) := ⟨_, get?_update_seq hoL fun _ => #[]⟩
  have su := Heap.SameBut.update h2 (n + 1) (Obj.mapSeq fun _ => (#[] : Array Value))
  unfold ksk_tree
  refine wpAny_bind (listItems_at (s := { s with heap := h2 }) hoL rfl ?_)
  refine wpAny_bind (listUpdate_at (s := { s with heap := h2 }) hoL rfl ?_ (by rw [List.size_toArray, sizeLine_eq]; omega) (Nat.zero_le _))
  refine wpAny_bind (seqEpoch_at (s := { s with heap := h2.update (n + 1) (Obj.mapSeq fun _ => (#[] : Array Value)) }) ho1 rfl ?_)
  refine wpAny_bind (wpAny_newTuple ?_ (by show vs.length ≤ _; rw [sizeLine_eq]; omega))
  refine wpAny_bind (wpAny_newList ?_ (Nat.zero_le _))
  refine wpAny_holding ?_
  generalize hh3 : h2.update (n + 1) (Obj.mapSeq fun _ => (#[] : Array Value)) = h3 at ho1 su ⊢
  have z3 : h3.objs.size = n + 2 := by rw [← hh3, Heap.size_update, z2]
  have z4 : (h3.push (seqObj "tuple" vs.toArray 0)).objs.size = n + 3 := by rw [Heap.size_push, z3]
  show wpAny (model prog w) A.in1.in1 (ksk_rest (n + 1) (.ref f) false vs.toArray e1 (.ref (h3.push (seqObj "tuple" vs.toArray 0)).objs.size)) _ _ { s with heap := (h3.push (seqObj "tuple" vs.toArray 0)).push (seqObj "list" #[] 0) }
  rw [z4]
  have kall : ∀ b o, s.heap.get? b = some o → ((h3.push (seqObj "tuple" vs.toArray 0)).push (seqObj "list" #[] 0)).get? b = some o := fun b o q => by
    have hlt : b < n := by rw [← hn]; exact Heap.lt_size q
    exact Heap.get?_push_of_some _ (Heap.get?_push_of_some _ ((su.2 b (Nat.ne_of_lt (Nat.lt_succ_of_lt hlt))).trans (k2 b o q)))
  refine keys_keyed (kS := n + 3) (a := n + 1) J h64 (fun ks s1 h' hJ kp ex => jk ks s1 h' hJ (fun b o hb q => kp b o (fun z => hb (by simp [tm, z])) q) fun b o q => by
      by_cases z : b = n + 3
      · rw [z]; exact ex
      · exact ⟨o, kp b o z q⟩)
    (fun i x ks s1 hx hl' hJ => wpAny_mono (jc i x ks s1 hx hl' hJ) (fun k s2 h2 => ⟨h2.1, fun b o hb q => h2.2 b o (by rcases hb with z | z <;> simp [tm, z]) q⟩) fun _ _ z => z) (show (n + 1 : Nat) ≠ n + 3 by omega)
    (by rw [← z4]; exact Heap.get?_push_size _ rfl) (Heap.get?_push_of_some _ (Heap.get?_push_of_some _ ho1)) (j0 _ kall fun b hb => ?ex) fun ks e s1 hlk hJ hk1 ha1 => ?_
  case ex =>
    have e0 : ∃ o, h3.get? n = some o := by
      have q0 : (s.heap.push (seqObj "list" #[] 0)).get? n = some (seqObj "list" #[] 0) := by rw [← hn]; exact Heap.get?_push_size _ rfl
      obtain ⟨o1, q1⟩ : ∃ o1, h1.get? n = some o1 := by rw [← hh1]; exact ⟨_, get?_update_seq q0 (· ++ vs.toArray)⟩
      exact ⟨_, (su.2 n (show (n : Nat) ≠ n + 1 by omega)).trans (by rw [← hh2]; exact Heap.get?_push_of_some _ q1)⟩
    simp only [tm, List.mem_cons, List.not_mem_nil, or_false] at hb
    rcases hb with rfl | rfl | rfl | rfl
    · obtain ⟨o, q⟩ := e0
      exact ⟨o, Heap.get?_push_of_some _ (Heap.get?_push_of_some _ q)⟩
    · exact ⟨_, Heap.get?_push_of_some _ (Heap.get?_push_of_some _ ho1)⟩
    · exact ⟨_, Heap.get?_push_of_some _ (by rw [← z3]; exact Heap.get?_push_size _ rfl)⟩
    · exact ⟨_, by rw [← z4]; exact Heap.get?_push_size _ rfl⟩
  obtain ⟨lt, O, hkk, hcmp, fin⟩ := je ks s1 hlk hJ
  refine end_keyed hlk h64 O hkk hcmp hk1 ha1 (show (n + 1 : Nat) ≠ n + 3 by omega) fun out h' c so kp ex hc => ?_
  exact ⟨_, rfl, wpAny_pure ⟨_, rfl, fin out h' c so (fun b o hb q => kp b o (fun z => hb (by simp [tm, z])) (fun z => hb (by simp [tm, z])) q) (fun b o q => by
    by_cases y1 : b = n + 1
    · rw [y1]; exact ⟨_, hc⟩
    · by_cases y2 : b = n + 3
      · rw [y2]; exact ex
      · exact ⟨o, kp b o y1 y2 q⟩) hc⟩⟩
end
end So
set_option Elab.async false
set_option linter.all false
set_option maxRecDepth 100000
set_option maxHeartbeats 1000000
namespace L2
open PySem PySem.Spec PyProof.Rows
def cxL (X : Cx) (A : Around) (N' : List Str) (env : Env) (s : Shared) (H : Hp) : Cx :=
  { X with A := A.deeper env, N := N', s₀ := s, H₀ := H, env := env, outer := X.stack, stack := env :: X.stack, ex := [], fn := fun _ => false, calm := true, pn := [], xe := fun _ _ => False }
abbrev lamEnv (qual : Str) (scope : Scope) (s : Shared) (f c' : Addr) (cl : List (Str × Addr)) : Env := PySem.W.envX qual scope s.heap.objs.size f (.ref c') cl
structure LamSc (X : Cx) (x : Str) (ρ : List Nat) (N' : List Str) (sc : Scope) (cl : List (Str × Addr)) : Prop where
  kind : sc.kind = .function
  co : sc.isCoroutine = false
  gen : sc.isGenerator = false
  nocell : ∀ y ∈ sc.names, y.2 ≠ .cell
  par : sc.names.lookup x = some .local
  clo : ∀ y c, cl.lookup y = some c → X.env.cells.lookup y = some c
  has : ∀ y, sc.names.lookup y = some .free → ∃ c, cl.lookup y = some c
  N : ∃ ys, N' = x :: ys ∧ ys.length = ρ.length ∧ ∀ (i j : Nat) y, ρ[i]? = some j → ys[i]? = some y → X.N[j]? = some y ∧ sc.names.lookup y = some .free ∧ (X.env.kindOf y = some .cell ∨ X.env.kindOf y = some .free)
section
variable {X : Cx} {pins : List (Addr × Obj)} {σ : St} {H : Hp} {s : Shared} {A : Around} {k : Nat} {qual x : Str} {ps : Arguments} {body : Expr} {sc : Scope} {cl : List (Str × Addr)} {pm ctv : Value} {f c' : Addr} {ρ : List Nat} {N' : List Str}
def lamSt (ρ : List Nat) (σ : St) (v : V) : St := some v :: ρ.map fun j => (σ[j]?).join
theorem lam_inv {h1 : Heap} {tk : Nat} {v : V} {u : Value} (I : Inv X pins σ H s) (hA : A.frames = some X.stack) (hd : A.handled = none) (S : LamSc X x ρ N' sc cl) (rv : RelV v u)
    (hns : h1.Ns s.heap.objs.size fun y => [(x, u)].reverse.lookup y) (hk : ∀ b o, s.heap.get? b = some o → h1.get? b = some o) :
    Inv (cxL X A N' (lamEnv qual sc s f c' cl) s H) [] (lamSt ρ σ v) H { s with heap := h1, toks := tk } := by
  obtain ⟨ys, eN, el, ix⟩ := S.N
  have noA : ∀ b : Addr, b ∉ ([] : List Addr) := fun b z => absurd z (by simp)
  refine ⟨⟨I.mod, S.kind, rfl, rfl, Nat.le_refl _, fun y z c h1 h2 => I.ok.inj y z c (S.clo y c h1) (S.clo z c h2), fun y hy => ?_, fun y c z => (nomatch z), fun _ => hd, Around.frames_deeper hA, .inr ⟨rfl, rfl⟩, fun b z => absurd z (noA b), I.bs, Nat.le_trans I.ok.bsz I.sz, fun b _ _ => noA b, fun b z => absurd z (noA b), I.stack, I.stkFree⟩,
    rfl, I.bare, Un.kept hk, ⟨_, hns, fun i y w h2 h3 h4 => ?_⟩, fun y c e => ?_, I.hok.fresh (Nat.le_refl _), fun y c e => I.freeC y c (S.clo y c e), fun p hp => absurd (show p ∈ ([] : List (Addr × Obj)) from hp) (by simp), I.hok.kept hk, ?_⟩
  · have hy : sc.names.lookup y = some .cell ∨ sc.names.lookup y = some .free := hy
    rcases hy with hy | hy
    · exact absurd rfl (S.nocell _ (PySem.mem_of_lookup hy))
    · exact S.has y hy
  · have h2 : N'[i]? = some y := h2
    subst eN
    cases i with
    | zero =>
      have e : x = y := by simpa using h2
      subst e
      have e2 : v = w := by simpa [lamSt] using h3
      subst e2
      exact ⟨u, rv, .inl ⟨S.par, by simp⟩⟩
    | succ i =>
      have hy : ys[i]? = some y := by simpa using h2
      have h3 : (ρ.map fun j => (σ[j]?).join)[i]? = some (some w) := by simpa [lamSt] using h3
      rw [List.getElem?_map] at h3
      obtain ⟨j, hj, e⟩ := Option.map_eq_some_iff.mp h3
      have e2 : σ[j]? = some (some w) := by
        cases q : σ[j]? with
        | none => rw [q] at e; cases e
        | some z => rw [q] at e; exact congrArg some e
      obtain ⟨n1, n2, n3⟩ := ix i j y hj hy
      obtain ⟨m, hm, hl⟩ := I.loc
      have vis : Vis X.env.scope y := by
        rcases n3 with z | z
        · exact .inr (.inl z)
        · exact .inr (.inr z)
      obtain ⟨u2, r2, lk⟩ := hl j y w n1 e2 vis
      refine ⟨u2, r2, .inr ⟨.inr n2, ?_⟩⟩
      obtain ⟨c, hc⟩ := S.has y n2
      refine ⟨c, hc, ?_⟩
      have hX := S.clo y c hc
      rcases lk with ⟨z, _⟩ | ⟨_, c2, e3, ic⟩
      · rcases n3 with y1 | y1
        · rw [z] at y1; cases y1
        · rw [z] at y1; cases y1
      · rw [hX] at e3; cases e3
        obtain ⟨o, ho, hd⟩ := ic
        exact ⟨o, hk _ _ ho, hd⟩
  · obtain ⟨v2, o, ho, hd⟩ := I.cell y c (S.clo y c e)
    exact ⟨v2, o, hk _ _ ho, hd⟩
  · subst eN
    show (lamSt ρ σ v).length = (x :: ys).length
    simp [lamSt, el]
theorem lam_run {u : Value} {v : V} {tb : TE} {Q : VK} (I : Inv X pins σ H s) (hA : A.frames = some X.stack) (hr : Room (k + 1) A) (S : LamSc X x ρ N' sc cl)
    (ho : s.heap.get? f = some (PySem.W.kla_obj "<lambda>" qual ps body sc cl pm c' ctv)) (hcd : s.heap.CodeRec (.ref c') qual)
    (hbind : bindArgs (PySem.W.kla_fn "<lambda>" qual ps body sc cl pm (.ref c') ctv) ⟨[u], []⟩ = pure [(x, u)]) (rv : RelV v u)
    (hb : ∀ env : Env, Room k (A.deeper env) → env = lamEnv qual sc s f c' cl → PE (cxL X A N' env s H) body tb) (h : tb (lamSt ρ σ v) H Q) :
    wpAny (model X.prog X.w) A (call (.ref f) [u]) (CE X.stack X.prog X.w H s Q) (fun _ _ => False) s := by
  refine wpAny_call (PySem.W.kla_callFunE hr.depth ho rfl S.co S.gen rfl hcd ?_)
  rw [hbind]
  refine wpAny_pure (wpAny_newFunctionEnv S.nocell (fun y hy => by
    have e : y = (x, u) := by simpa using hy
    rw [e]; exact S.par) (fun h1 hns hsb => ⟨(I.nolimit).fresh _ hsb, ?_⟩) S.kind)
  show codeAny _ _ (.expr body (lamEnv qual sc s f c' cl)) _ _
  have hk : ∀ b o, s.heap.get? b = some o → h1.get? b = some o := fun b o e => hsb.extBut b o (Nat.ne_of_lt (Heap.lt_size e)) (Heap.get?_push_of_some _ e)
  have J := lam_inv (tk := s.toks + [(x, u)].length) (qual := qual) (f := f) (c' := c') I hA hr.hd S rv hns hk
  refine PySem.W.kla_codeExpr (wpAny_mono (hb _ (hr.deeper _) rfl [] _ (lamSt ρ σ v) H Q J h) (fun k' s' hq => ?_) fun _ _ z => z.elim)
  obtain ⟨v2, H2, I2, r2, q⟩ := hq
  exact ⟨v2, H2, I2.os, I2.bare, I2.base, I2.hok, r2, q⟩
end
end L2
set_option Elab.async false
set_option linter.all false
set_option maxRecDepth 100000
set_option maxHeartbeats 1000000
namespace So
theorem lex_tot : ∀ {a b : List Int}, a ≠ b → lexL a b = true ∨ lexL b a = true
  | [], [], h => absurd rfl h
  | [], _ :: _, _ => .inl rfl
  | _ :: _, [], _ => .inr rfl
  | a :: r, b :: t, h => by
    rw [lexL, lexL]
    by_cases e : a = b
    · subst e
      simp only [beq_self_eq_true, if_true]
      exact lex_tot fun z => h (by rw [z])
    · have e' : ¬ b = a := fun z => e z.symm
      simp only [beq_iff_eq, e, e', if_false, decide_eq_true_eq]
      omega
theorem lex_asy : ∀ {a b : List Int}, lexL a b = true → lexL b a = false
  | [], [], h => by simp [lexL] at h
  | [], _ :: _, _ => rfl
  | _ :: _, [], h => by simp [lexL] at h
  | a :: r, b :: t, h => by
    rw [lexL] at h ⊢
    by_cases e : a = b
    · subst e
      simp only [beq_self_eq_true, if_true] at h ⊢
      exact lex_asy h
    · have e' : ¬ b = a := fun z => e z.symm
      simp only [beq_iff_eq, e, e', if_false, decide_eq_true_eq, decide_eq_false_iff_not] at h ⊢
      omega
theorem lex_tr : ∀ {a b c : List Int}, lexL a b = true → lexL b c = true → lexL a c = true
  | [], [], _, h, _ => by simp [lexL] at h
  | [], _ :: _, [], _, h => by simp [lexL] at h
  | [], _ :: _, _ :: _, _, _ => rfl
  | _ :: _, [], _, h, _ => by simp [lexL] at h
  | _ :: _, _ :: _, [], _, h => by simp [lexL] at h
  | a :: r, b :: t, c :: u, h, k => by
    rw [lexL] at h k ⊢
    by_cases e : a = b
    · subst e
      simp only [beq_self_eq_true, if_true] at h
      by_cases f : a = c
      · subst f
        simp only [beq_self_eq_true, if_true] at k ⊢
        exact lex_tr h k
      · simp only [beq_iff_eq, f, if_false] at k ⊢
        exact k
    · simp only [beq_iff_eq, e, if_false, decide_eq_true_eq] at h
      by_cases f : b = c
      · subst f
        simp only [beq_iff_eq, e, if_false, decide_eq_true_eq]
        exact h
      · simp only [beq_iff_eq, f, if_false, decide_eq_true_eq] at k
        have : ¬ a = c := by omega
        simp only [beq_iff_eq, this, if_false, decide_eq_true_eq]
        omega
def ltK (kz : List (List Int)) (i j : Nat) : Bool := lexL (kz.getD i []) (kz.getD j [])
theorem ltK_ord {kz : List (List Int)} (nd : kz.Nodup) : Ord kz.length (ltK kz) := by
  have inj : ∀ i j, i < kz.length → j < kz.length → i ≠ j → kz.getD i [] ≠ kz.getD j [] := fun i j hi hj ne e => by
    rw [List.getD_eq_getElem?_getD, List.getElem?_eq_getElem hi, List.getD_eq_getElem?_getD, List.getElem?_eq_getElem hj] at e
    exact ne ((List.getElem_inj nd).mp e)
  exact ⟨fun i j hi hj ne => lex_tot (inj i j hi hj ne), fun i j _ _ h => lex_asy h, fun i j k _ _ _ h g => lex_tr h g⟩
def SortOf {α : Type} (d : α) (kz : List (List Int)) (xs ys : List α) : Prop := ∃ p : Array Nat, Pm xs.length p ∧ Sd (ltK kz) p xs.length ∧ ys = p.toList.map fun i => xs.getD i d
end So
namespace L2
open PySem PySem.Spec PyProof.Rows A So
variable [Tb : Tabs]
def Tab (T : Addr) (q : Str) (H H' : Hp) : Prop := H' = H ∨ ∃ ps ps' c, H T = some (.tbl q ps) ∧ H c = none ∧ c ≠ T ∧ H' = upd (upd H T (.tbl q ps')) c (.ext (codeX c q)) ∧ CodeOk H'
theorem triples_snoc {c : Value} {p : Pos} : ∀ {l : List Value}, TriplesOk l → TriplesOk (l ++ [rawInt p.line, rawInt p.col, c]) := fun {l} h => by
  fun_induction TriplesOk l with
  | case1 => exact trivial
  | case2 a b c' d e rest ih => exact ih h
  | case3 _ _ => exact h.elim
theorem among_snoc {c v : Value} {p p2 : Pos} : ∀ {l : List Value}, TriplesOk l → codeAmong p2 (l ++ [rawInt p.line, rawInt p.col, c]) = some v → codeAmong p2 l = some v ∨ v = c := fun {l} h e => by
  fun_induction TriplesOk l with
  | case1 =>
    simp only [List.nil_append, codeAmong, rawInt] at e
    split at e
    · exact .inr (by cases e; rfl)
    · cases e
  | case2 a b c' d e' rest ih =>
    simp only [List.cons_append, codeAmong] at e ⊢
    split at e
    · rename_i q
      rw [if_pos q]; exact .inl e
    · rename_i q
      rw [if_neg q]; exact ih h e
  | case3 _ _ => exact h.elim
def BM (mg : Str → Option Value) (base : Heap) : Prop := ∃ bm o, mg "__builtins__" = some (.ref bm) ∧ bm ≠ builtinsNs ∧ bm ≠ mainGlobals ∧ base.get? bm = some o ∧ o.cls = .type "module" ∧ o.dict = some builtinsNs ∧ o.data = .plain
section
variable {X : Cx} {pins : List (Addr × Obj)} {σ : St} {H : Hp} {s : Shared} {qual x : Str} {ps : Arguments} {body : Expr} {sc : Scope} {cl : List (Str × Addr)} {c T : Addr} {pos : Pos}
theorem codeX_stay (c : Addr) (q : Str) : ∀ h1 h2 : Heap, codeX c q h1 → (∀ o, h1.get? c = some o → h2.get? c = some o) → codeX c q h2 := fun h1 h2 ⟨o, vs, t, e, d, r⟩ k => ⟨o, vs, t, k o e, d, r⟩
theorem lam_made {Q : Value → Shared → Prop} {E : Value → Shared → Prop} (I : Inv X pins σ H s) (hc : X.env.code = .ref c) (C : PySem.W.CodeHd X.base c T) (k : CodeOk H) {tps : Array Value} (hT : H T = some (.tbl qual tps)) (hB : BM X.mg X.base)
    (hdef : defaultsOf ps X.env = ([], [])) (hq : X.env.qual ++ "<lambda>" = qual) (hcl : closureFor sc X.env = pure cl)
    (h : ∀ f c' ctv pm s' H', Tab T qual H H' → H' c' = some (.ext (codeX c' qual)) → s'.heap.get? f = some (PySem.W.kla_obj "<lambda>" qual ps body sc cl pm c' ctv) → Inv X pins σ H' s' → FpOk X pins H' f → Q (.ref f) s') :
    wpAny (model X.prog X.w) X.A (eval (.Lambda ps body sc pos) X.env) Q E s := by
  obtain ⟨ok1, ok2⟩ := k.cd T qual tps hT
  have hP : s.heap.get? T = some (PySem.W.tabObj tps) := I.hok T _ hT
  have hg : s.heap.Ns mainGlobals X.mg := I.mod.glob.keeps I.bk
  have C' : PySem.W.CodeHd s.heap c T := C.keeps I.bk
  obtain ⟨bm, bo, b1, b2, b3, b4, b5, b6, b7⟩ := hB
  have nT : ∀ b o, X.base.get? b = some o → b ≠ T := fun b o e z => by
    have := (I.bs b o e).2
    rw [z, hT] at this; cases this
  have hb : s.heap.BuiltinsAt X.mg T := ⟨bm, bo, b1, b2, b3, nT _ _ b4, I.bk _ _ b4, b5, b6, b7⟩
  have hgT : mainGlobals ≠ T := by
    obtain ⟨o, es, ep, e, _⟩ := I.mod.glob
    exact nT _ _ e
  refine PySem.W.kla_eval hdef ?_
  rw [hq]
  cases hf : codeAmong pos tps.toList with
  | some v =>
    obtain ⟨c', rfl, hc'⟩ := ok2 pos v hf
    refine PySem.W.kla_makeFunctionHit hcl I.ok.glob hg hc C' hP ok1 hf hb fun ctv h' tk kp sz => ?_
    have I' : Inv X pins σ H { s with heap := h'.push _, toks := tk } := I.kept (h' := h'.push (PySem.W.kla_obj "<lambda>" qual ps body sc cl ((X.mg "__name__").getD .none) c' ctv)) fun b o e => Heap.get?_push_of_some _ (kp b o e)
    exact h _ c' ctv _ _ H (.inl rfl) hc' (Heap.get?_push_size _ rfl) I' (I.fpOk sz (I.hok.fresh sz))
  | none =>
    refine PySem.W.kla_makeFunction hcl I.ok.glob hg hc C' hP ok1 hf hgT hb fun c' ctv h' tk kp h1 h2 hrec htb => ?_
    have nc : H c' = none := I.hok.fresh h1
    have cT : c' ≠ T := fun z => by rw [z, hT] at nc; cases nc
    have hx : codeX c' qual h' := by
      obtain ⟨c2, o, vs, t, e, r⟩ := hrec
      cases e
      exact ⟨o, vs, t, r⟩
    obtain ⟨oc, hoc⟩ : ∃ o, h'.get? c' = some o := let ⟨o, _, _, e, _⟩ := hx; ⟨o, e⟩
    -- the table
    have u1 : Un X.fs [] H (upd H T (.tbl qual (tps ++ #[rawInt pos.line, rawInt pos.col, .ref c']))) s.heap h' := by
      have nn : ∀ b, H b = none → b ≠ T := fun b n z => by rw [z, hT] at n; cases n
      refine ⟨fun b o e n _ _ => kp b o (nn b n) e, fun b o e n _ _ => ⟨o.slots, kp b o (nn b n) e⟩, fun b o e n _ => by rw [upd_ne (nn b n)]; exact n, fun b o e _ => ?_, fun b xs e => ?_, fun b o u e => ?_, fun b w ps e => ?_⟩
      · by_cases z : b = T
        · rw [z]; exact ⟨_, htb⟩
        · exact ⟨o, kp b o z e⟩
      · rw [upd_ne (fun z => by rw [z, hT] at e; cases e)]; exact e
      · rw [upd_ne (fun z => by rw [z, hT] at e; cases e)]; exact e
      · by_cases z : b = T
        · subst z
          rw [hT] at e; cases e
          exact ⟨_, upd_same⟩
        · exact ⟨#[], by rw [upd_ne z, e]; simp⟩
    have hok1 : HOk X.prog X.w (upd H T (.tbl qual (tps ++ #[rawInt pos.line, rawInt pos.col, .ref c']))) h' := fun b u e => by
      by_cases z : b = T
      · subst z; rw [upd_same] at e; cases e; exact htb
      · rw [upd_ne z] at e
        refine (I.hok b u e).stay (fun y v hy q => kp y v ?_ q) (fun y q => by rw [upd_ne (fun w => by rw [w, hT] at q; cases q)]; exact q) fun y xs q => by rw [upd_ne (fun w => by rw [w, hT] at q; cases q)]; exact q
        rcases hy with w | w
        · rw [w]; exact z
        · exact fun w2 => by rw [w2, hT] at w; cases w
    have I1 : Inv X pins σ (upd H T (.tbl qual (tps ++ #[rawInt pos.line, rawInt pos.col, .ref c']))) { s with heap := h', toks := tk } := I.un u1 hok1
    have nc1 : upd H T (.tbl qual (tps ++ #[rawInt pos.line, rawInt pos.col, .ref c'])) c' = none := by rw [upd_ne cT]; exact nc
    -- its code
    have I2 : Inv X pins σ (upd (upd H T (.tbl qual (tps ++ #[rawInt pos.line, rawInt pos.col, .ref c']))) c' (.ext (codeX c' qual))) { s with heap := h', toks := tk } := by
      have F : FpOk X pins (upd H T (.tbl qual (tps ++ #[rawInt pos.line, rawInt pos.col, .ref c']))) c' := ⟨nc1, (I.fpOk (H' := H) h1 nc).2⟩
      have old1 : ∀ b u, (upd H T (.tbl qual (tps ++ #[rawInt pos.line, rawInt pos.col, .ref c']))) b = some u → b ≠ c' := fun b u e => ne_of_none e nc1
      refine I1.call' (s' := { s with heap := h', toks := tk }) (ch := [c']) rfl ⟨fun b u e _ _ _ => e, fun b u e _ _ _ => ⟨u.slots, e⟩, fun b u e n hb => ?_, fun b u e hb => ⟨u, e⟩, fun b xs e => by rw [upd_ne (old1 _ _ e)]; exact e, fun b q u e => by rw [upd_ne (old1 _ _ e)]; exact e, fun b w ps e => ⟨#[], by rw [upd_ne (old1 _ _ e), e]; simp⟩⟩ ?_ I.bare
        fun b hb => by
          obtain rfl : b = c' := by simpa using hb
          exact ⟨F.2.2.2.1, F.2.1, F.2.2.2.2.1, F.2.2.2.2.2⟩
      · rw [upd_ne (fun z => hb (by simp [z]))]; exact n
      · intro b u e
        by_cases z : b = c'
        · subst z; rw [upd_same] at e; cases e
          exact ⟨hx, ⟨oc, hoc⟩, codeX_stay b qual⟩
        · rw [upd_ne z] at e
          exact (I1.hok b u e).stay (fun y v hy q => q) (fun y q => by rw [upd_ne (old1 _ _ q)]; exact q) fun y xs q => by rw [upd_ne (old1 _ _ q)]; exact q
    have hpush : ∀ b o, h'.get? b = some o → (h'.push (PySem.W.kla_obj "<lambda>" qual ps body sc cl ((X.mg "__name__").getD .none) c' ctv)).get? b = some o := fun b o e => Heap.get?_push_of_some _ e
    have I3 := I2.kept (t' := tk) hpush
    have szs : s.heap.objs.size ≤ h'.objs.size := Nat.le_trans h1 (Nat.le_of_lt h2)
    have ck : CodeOk (upd (upd H T (.tbl qual (tps ++ #[rawInt pos.line, rawInt pos.col, .ref c']))) c' (.ext (codeX c' qual))) := by
      have nT' : ∀ {b : Addr} {o : HO}, H b = some o → NT o → upd (upd H T (.tbl qual (tps ++ #[rawInt pos.line, rawInt pos.col, .ref c']))) c' (.ext (codeX c' qual)) b = some o := fun {b o} e n => by
        rw [upd_ne (ne_of_none e nc), upd_ne (fun z => by rw [z, hT] at e; cases e; exact n)]; exact e
      refine ⟨fun r hr => ?_, fun T2 q2 ps2 e => ?_⟩
      · obtain ⟨p0, e0⟩ := k.has r hr
        by_cases z : r.1 = T
        · rw [z, hT] at e0
          have : qual = r.2 := by injection e0 with e0; injection e0
          exact ⟨_, by rw [upd_ne (by rw [z]; exact Ne.symm cT), z, upd_same, this]⟩
        · exact ⟨p0, by rw [upd_ne (ne_of_none e0 nc), upd_ne z]; exact e0⟩
      · by_cases z : T2 = c'
        · subst z; rw [upd_same] at e; cases e
        · rw [upd_ne z] at e
          by_cases z2 : T2 = T
          · subst z2
            rw [upd_same] at e
            have e1 : qual = q2 := by injection e with e; injection e
            have e2 : tps ++ #[rawInt pos.line, rawInt pos.col, .ref c'] = ps2 := by injection e with e; injection e
            subst e1 e2
            refine ⟨by rw [Array.toList_append]; exact triples_snoc ok1, fun p2 v hv => ?_⟩
            rw [Array.toList_append] at hv
            rcases among_snoc ok1 hv with q | q
            · obtain ⟨y, y1, y2⟩ := ok2 p2 v q
              exact ⟨y, y1, nT' y2 trivial⟩
            · exact ⟨c', q, upd_same⟩
          · rw [upd_ne z2] at e
            obtain ⟨t1, t2⟩ := k.cd T2 q2 ps2 e
            refine ⟨t1, fun p2 v hv => ?_⟩
            obtain ⟨y, y1, y2⟩ := t2 p2 v hv
            exact ⟨y, y1, nT' y2 trivial⟩
    refine h h'.objs.size c' ctv _ _ _ (.inr ⟨tps, _, c', hT, nc, cT, rfl, ck⟩) upd_same (Heap.get?_push_size _ rfl) I3 ?_
    refine I.fpOk szs ?_
    rw [upd_ne (Nat.ne_of_gt h2), upd_ne (fun z => ?_)]
    · exact I.hok.fresh szs
    · have := I.hok.fresh szs
      rw [z, hT] at this; cases this
end
end L2
set_option Elab.async false
set_option linter.all false
set_option maxRecDepth 100000
set_option maxHeartbeats 1000000
namespace L2
open PySem PySem.Spec PyProof.Rows A So
variable [Tb : Tabs]
section
variable {X : Cx} {pins : List (Addr × Obj)} {σ : St} {H : Hp} {s : Shared}
theorem adopt {fp : List Addr} {D : Addr} {o : HO} {h' : Heap} {t' : Nat} (I : Inv X pins σ H s) (hf : ∀ b ∈ fp, FpOk X pins H b) (hD : D ∈ fp) (k : ∀ b u, b ∉ fp → s.heap.get? b = some u → h'.get? b = some u)
    (new : ObjOk X.prog X.w (upd H D o) h' D o) : Inv X pins σ (upd H D o) { s with heap := h', toks := t' } := by
  have hn : H D = none := (hf D hD).1
  have nfp : ∀ b u, H b = some u → b ∉ fp := fun b u e z => by rw [(hf b z).1] at e; cases e
  refine I.call' (s' := { s with heap := h', toks := t' }) (ch := fp) rfl ⟨fun b u e _ _ hb => k b u hb e, fun b u e _ _ hb => ⟨u.slots, k b u hb e⟩, fun b u e hb hx => ?_, fun b u e hb => ⟨u, k b u hb e⟩, fun b xs e => ?_, fun b q u e => ?_, fun b w ps e => ⟨#[], ?_⟩⟩ ?_ I.bare
    fun b hb => ⟨(hf b hb).2.2.2.1, (hf b hb).2.1, (hf b hb).2.2.2.2.1, (hf b hb).2.2.2.2.2⟩
  · rw [upd_ne (fun z => hx (by rw [z]; exact hD))]; exact hb
  · rw [upd_ne (ne_of_none e hn)]; exact e
  · rw [upd_ne (ne_of_none e hn)]; exact e
  · rw [upd_ne (ne_of_none e hn), e]; simp
  · intro b u e
    by_cases hb : b = D
    · subst hb; rw [upd_same] at e; cases e; exact new
    · rw [upd_ne hb] at e
      refine (I.hok b u e).stay (fun c v hc q => k c v ?_ q) (fun c q => by rw [upd_ne (ne_of_none q hn)]; exact q) fun c xs q => by rw [upd_ne (ne_of_none q hn)]; exact q
      rcases hc with z | z
      · rw [z]; exact nfp b u e
      · exact nfp c _ z
theorem vals_ints' : ∀ {ns : List Int} {its : List Value}, Vals (ns.map V.int) its → IntsAre its ns
  | [], _, .nil => .nil
  | n :: r, _, .cons h t => by
    obtain ⟨t1, rfl⟩ := h
    exact .cons n t1 (vals_ints' t)
end
def KeyRun (c' : Addr) (q : Str) (tk : V → Hp → VK → Prop) : List V → Hp → (List V → Hp → Prop) → Prop
  | [], H, R => R [] H
  | x :: xs, H, R => tk x H fun k H1 => H1 c' = some (.ext (codeX c' q)) ∧ KeyRun c' q tk xs H1 fun ks H2 => R (k :: ks) H2
def KeysAre (H : Hp) (kz : List (List Int)) (ks : List V) : Prop := P2 (fun z k => ∃ p, k = V.ref p ∧ H p = some (.lst (z.map V.int))) kz ks
def sortG (T : Addr) (q : Str) (ρ : List Nat) (σ : St) (tb : TE) (Q : VK) : VK := fun x H1 => ∃ a xs tps, x = .ref a ∧ xs.length < 64 ∧ H1 T = some (.tbl q tps) ∧ CodeOk H1 ∧
  ∀ H2 c', Tab T q H1 H2 → H2 c' = some (.ext (codeX c' q)) → Lst H2 a xs ∧ KeyRun c' q (fun v H K => tb (lamSt ρ σ v) H K) xs H2 fun ks H3 => ∃ kz : List (List Int), kz.length = xs.length ∧ kz.Nodup ∧ KeysAre H3 kz ks ∧
    ∀ p ys, H3 p = none → SortOf .non kz xs ys → Q (.ref p) (upd H3 p (.lst ys))
def tSortK (T : Addr) (q : Str) (ρ : List Nat) (te tb : TE) : TE := fun σ H Q => te σ H (sortG T q ρ σ tb Q)
theorem sort_vals {kz : List (List Int)} {xs : List V} {its out : List Value} (r : Vals xs its) (hz : kz.length = xs.length) (h : IsSort (ltK kz) its out) : ∃ ys, SortOf .non kz xs ys ∧ Vals ys out := by
  obtain ⟨p, pm, sd, rfl⟩ := h
  have hl := r.length
  rw [← hl] at pm sd
  refine ⟨p.toList.map fun i => xs.getD i .non, ⟨p, pm, sd, rfl⟩, ?_⟩
  have key : ∀ l : List Nat, (∀ i ∈ l, i < xs.length) → Vals (l.map fun i => xs.getD i .non) (l.map fun i => its.getD i Value.none) := fun l hl' => by
    induction l with
    | nil => exact .nil
    | cons i t ih =>
      have hi := hl' i List.mem_cons_self
      refine .cons ?_ (ih fun j hj => hl' j (List.mem_cons_of_mem _ hj))
      have e1 : xs[i]? = some (xs.getD i .non) := by simp [hi]
      obtain ⟨u, e2, r2⟩ := r.get e1
      have : its.getD i Value.none = u := by simp [e2]
      show RelV (xs.getD i .non) (its.getD i Value.none)
      rw [this]; exact r2
  refine key _ fun i hi => ?_
  have := (Array.perm_iff_toList_perm.mp pm.pm).mem_iff.mp hi
  simpa using this
section
variable {X : Cx} {x qual : Str} {e : Expr} {ps : Arguments} {body : Expr} {sc : Scope} {cl : List (Str × Addr)} {c T : Addr} {p pos lpos kpos : Pos} {k : Nat} {ρ : List Nat} {N' : List Str} {te tb : TE}
theorem pe_sortK (hg : Gl X "sorted") (hm : X.mg "sorted" = none) (he : PE X e te) (hr : Room (k + 3) X.A) (hc : X.env.code = .ref c) (C : PySem.W.CodeHd X.base c T) (hB : BM X.mg X.base) (hdef : defaultsOf ps X.env = ([], [])) (hq : X.env.qual ++ "<lambda>" = qual) (hcl : closureFor sc X.env = pure cl)
    (S : LamSc X x ρ N' sc cl) (hbind : ∀ (pm : Value) (c' : Addr) (ctv u : Value), bindArgs (PySem.W.kla_fn "<lambda>" qual ps body sc cl pm (.ref c') ctv) ⟨[u], []⟩ = pure [(x, u)])
    (hb : ∀ (A : Around) (f c' : Addr) (s : Shared) (H : Hp) (env : Env), Room k (A.deeper env) → env = lamEnv qual sc s f c' cl → PE (cxL X A N' env s H) body tb)
    (hs : starEach [e] X.env = (false, eval e X.env) :: starEach [] X.env := by rfl) (hpl : (backTo pos (starEach [e] X.env)).any (·.1) = false := by rfl) :
    PE X (.Call (.Name "sorted" p) [e] [⟨some "key", .Lambda ps body sc lpos, kpos⟩] pos) (tSortK T qual ρ te tb) := by
  intro pins s σ H Q I h
  have hboot : bootBuiltins "sorted" = some (.builtin "sorted") := by kernel_rfl
  refine wpAny_Call_Name_kw (ld_blt I hg hm hboot ?_)
  refine callWith_kw ?_ (by rw [hs]; rfl) hpl rfl rfl
  rw [hs]
  show wpAny _ _ (spliced ((false, eval e X.env) :: backTo pos (starEach [] X.env))) _ _ s
  refine Calls.spliced_cons (thn (he pins s σ H _ I h) fun u s1 ⟨x1, H1, I1, r1, q1⟩ => Calls.spliced_nil ?_)
  obtain ⟨a, xs, tps, rfl, h64, hT, ck, q2⟩ := q1
  cases r1
  show wpAny _ _ (evalAll ((do let v ← eval (.Lambda ps body sc lpos) X.env; standAt pos; pure v) :: ((backToKw pos (keywordEach [] X.env)).map (·.2)))) _ _ s1
  refine wpAny_evalAll_cons (wpAny_bind (lam_made I1 hc C ck hT hB hdef hq hcl fun f c' ctv pm s2 H2 tab hc' hf I2 fpf => wpAny_bind (wpAny_standAt (wpAny_pure (wpAny_evalAll_nil ?_)))))
  obtain ⟨hl2, kr⟩ := q2 H2 c' tab hc'
  show wpAny (model X.prog X.w) X.A (call (.builtin "sorted") [.ref a] [(Str.ofString "key", .ref f)]) (EP X pins σ Q) X.xe s2
  obtain ⟨its, n0, rv, hz, ho⟩ := lstL I2 hl2
  have hli := rv.length
  -- what is so behind some of the keys
  let Fn : List V → Hp → Prop := fun ks H3 => ∃ kz : List (List Int), kz.length = xs.length ∧ kz.Nodup ∧ KeysAre H3 kz ks ∧ ∀ p ys, H3 p = none → SortOf .non kz xs ys → Q (.ref p) (upd H3 p (.lst ys))
  have flt : f < s2.heap.objs.size := Heap.lt_size hf
  have fnt : f ∉ tm s2.heap.objs.size := fun z => by
    simp only [tm, List.mem_cons, List.not_mem_nil, or_false] at z
    have : (f : Nat) < s2.heap.objs.size := flt
    rcases z with z | z | z | z
    · exact absurd this (by rw [z]; exact Nat.lt_irrefl _)
    · exact absurd this (by rw [z]; exact Nat.not_lt.mpr (Nat.le_add_right _ _))
    · exact absurd this (by rw [z]; exact Nat.not_lt.mpr (Nat.le_add_right _ _))
    · exact absurd this (by rw [z]; exact Nat.not_lt.mpr (Nat.le_add_right _ _))
  refine sorted_keyed (vs := its) (J := fun ks s3 => ∃ Hc kv, Inv X pins σ Hc s3 ∧ Vals kv ks ∧ s3.heap.get? f = some (PySem.W.kla_obj "<lambda>" qual ps body sc cl pm c' ctv) ∧ FpOk X pins Hc f ∧ (∀ b ∈ tm s2.heap.objs.size, FpOk X pins Hc b ∧ ∃ o, s3.heap.get? b = some o) ∧
      Hc c' = some (.ext (codeX c' qual)) ∧ KeyRun c' qual (fun v H K => tb (lamSt ρ σ v) H K) (xs.drop ks.length) Hc fun ks' H3 => Fn (kv ++ ks') H3) ⟨_, ho, rfl, _, rfl⟩ (by omega) ?j0 ?jk ?jc ?je
  case j0 =>
    intro h' kp ex
    refine ⟨H2, [], I2.kept kp, .nil, kp _ _ hf, fpf, fun b hb => ⟨I2.fpOk ?_ (I2.hok.fresh ?_), ex b hb⟩, hc', kr⟩
    all_goals (simp only [tm, List.mem_cons, List.not_mem_nil, or_false] at hb; rcases hb with z | z | z | z <;> rw [z] <;> first | exact Nat.le_refl _ | exact Nat.le_add_right _ _)
  case jk =>
    rintro ks s3 h' ⟨Hc, kv, I3, rk, hf3, fp3, tm3, hc3, kr3⟩ kp ex
    refine ⟨Hc, kv, turned_all (t' := s3.toks) I3 (fp := tm s2.heap.objs.size) (fun b hb => (tm3 b hb).1) (fun b u hb q => kp b u hb q), rk, kp _ _ fnt hf3, fp3, fun b hb => ⟨(tm3 b hb).1, ?_⟩, hc3, kr3⟩
    obtain ⟨o, q⟩ := (tm3 b hb).2
    exact ex b o q
  case jc =>
    rintro i u ks s3 hu hks ⟨Hc, kv, I3, rk, hf3, fp3, tm3, hc3, kr3⟩
    obtain ⟨v, hv, ruv⟩ : ∃ v, xs[i]? = some v ∧ RelV v u := by
      have hi : i < xs.length := by rw [hli]; exact (List.getElem?_eq_some_iff.mp hu).1
      have e1 : xs[i]? = some xs[i] := by simp [hi]
      obtain ⟨u2, e2, r2⟩ := rv.get e1
      rw [hu] at e2; cases e2
      exact ⟨_, e1, r2⟩
    have hd : xs.drop ks.length = v :: xs.drop (ks.length + 1) := by
      obtain ⟨hi, e⟩ := List.getElem?_eq_some_iff.mp hv
      rw [hks, List.drop_eq_getElem_cons hi, e]
    rw [hd] at kr3
    have hrec : s3.heap.CodeRec (.ref c') qual := by
      obtain ⟨⟨o, vs, t, e1, e2, e3⟩, _⟩ := I3.hok c' _ hc3
      exact ⟨c', o, vs, t, rfl, e1, e2, e3⟩
    have hA : X.A.in1.in1.frames = some X.stack := I3.ok.frames
    refine wpAny_mono (lam_run (k := k) I3 hA hr.in1.in1 S hf3 hrec (hbind pm c' ctv u) ruv (fun env h1 h2 => hb _ f c' s3 Hc env h1 h2) kr3) (fun kk s4 hce => ?_) fun _ _ z => z
    have hce' := hce
    obtain ⟨kvv, H4, os4, bare4, un4, hok4, rk4, hc4, kr4⟩ := hce
    have noF : ∀ b, FpOk X pins Hc b → b ∉ frs X.stack := fun b hb z => by
      rcases List.mem_cons.mp (I3.stkSub b z) with y | y
      · exact hb.2.1 y
      · exact hb.2.2.1 y
    have I4 : Inv X pins σ H4 s4 := I3.call' os4 (ch := []) un4 hok4 bare4 (fun b z => absurd z (by simp))
    have fpk : ∀ b, FpOk X pins Hc b → (∃ o, s3.heap.get? b = some o) → FpOk X pins H4 b := fun b hb ⟨o, q⟩ => ⟨un4.free b o q hb.1 (by simp), hb.2⟩
    refine ⟨⟨H4, kv ++ [kvv], I4, rk.append (.cons rk4 .nil), un4.keep _ _ hf3 fp3.1 (noF _ fp3) (by simp), fpk f fp3 ⟨_, hf3⟩, fun b hb => ⟨fpk b (tm3 b hb).1 (tm3 b hb).2, ?_⟩, hc4, ?_⟩, fun b o hb q => un4.keep b o q (tm3 b hb).1.1 (noF _ (tm3 b hb).1) (by simp)⟩
    · obtain ⟨o, q⟩ := (tm3 b hb).2
      exact un4.there b o q (by simp)
    · rw [List.length_append]
      simp only [List.append_assoc, List.singleton_append]
      exact kr4
  case je =>
    rintro ks s3 hks ⟨Hc, kv, I3, rk, hf3, fp3, tm3, hc3, kr3⟩
    rw [List.drop_eq_nil_of_le (by omega)] at kr3
    obtain ⟨kz, hz1, nd, ka, fin⟩ := kr3
    rw [List.append_nil] at ka
    have lk := rk.length
    have at_ : ∀ i, i < its.length → ∃ pp o us nn, ks.getD i Value.none = .ref pp ∧ s3.heap.get? pp = some o ∧ o.cls = .type "list" ∧ o.data = .seq (List.toArray us) nn ∧ IntsAre us (kz.getD i []) := fun i hi => by
      have hzi : i < kz.length := by omega
      have e1 : kz[i]? = some (kz.getD i []) := by simp [hzi]
      obtain ⟨kvi, e2, pp, rfl, hp⟩ := P2.getL ka e1
      obtain ⟨u, e3, r3⟩ := rk.get e2
      cases r3
      obtain ⟨_, us, nn, vu, ho⟩ := I3.hok pp _ hp
      exact ⟨pp, _, us, nn, by simp [e3], ho, rfl, rfl, vals_ints' vu⟩
    have hord := ltK_ord nd
    rw [hz1, hli] at hord
    refine ⟨ltK kz, hord, fun h2 Q' hq' => ?_, fun i j C hi hj hC => ?_, fun out h' cc so kp ex hD => ?_⟩
    · refine PySem.W.kas_kind (T := Value.type "list") (by omega) (fun v hv => ?_) (by decide) (by decide) hq'
      obtain ⟨i, hi⟩ := List.getElem?_of_mem hv
      have hil := (List.getElem?_eq_some_iff.mp hi).1
      obtain ⟨pp, o, us, nn, e1, e2, e3, _⟩ := at_ i (by omega)
      have : v = .ref pp := by
        rw [← e1]; simp [hi]
      rw [this, ← e3]
      exact (PySem.W.Looks.ld e2).andThen .now
    · obtain ⟨p1, o1, us1, n1, a1, a2, a3, a4, a5⟩ := at_ i hi
      obtain ⟨p2, o2, us2, n2, b1, b2, b3, b4, b5⟩ := at_ j hj
      unfold PySem.W.kas_ask
      rw [a1, b1]
      exact lt_lists a2 a3 a4 b2 b3 b4 a5 b5 (by have := hr.un; show X.A.units + 1 + 1 < cLine; omega) hC
    · obtain ⟨ys, sy, vy⟩ := sort_vals rv hz1 so
      have hD' : s2.heap.objs.size + 1 ∈ tm s2.heap.objs.size := by simp [tm]
      have ly : ys.length = xs.length := by rw [vy.length, so.len, hli]
      have nD : Hc (s2.heap.objs.size + 1) = none := (tm3 _ hD').1.1
      refine ⟨.ref (s2.heap.objs.size + 1), _, adopt (t' := s3.toks) (o := .lst ys) I3 (fun b hb => (tm3 b hb).1) hD' (fun b u hb q => kp b u hb q) ⟨by rw [ly]; exact hz, out, cc, vy, hD⟩, rfl, fin _ ys nD sy⟩
end
end L2
set_option linter.all false
namespace Mi
open PySem
def asQs : D → Option (List Str)
  | .tup ds => asSs ds
  | .lst ds => asSs ds
  | _ => none
def dIdx (x y : D) : Rs D := match y with
  | .str z => (ofO (asQs x)).bind fun ys => guardR (z ∈ ys ∧ ys.length ≤ 1000) (.ok (.int (ys.idxOf z : Nat)))
  | _ => .no
def lexB : List Int → List Int → Bool
  | [], [] => false
  | [], _ :: _ => true
  | _ :: _, [] => false
  | a :: r, b :: t => if a == b then lexB r t else decide (a < b)
def asIs : List D → Option (List Int)
  | [] => some []
  | .int i :: r => (asIs r).map (i :: ·)
  | _ => none
def asKey : D → Rs (List Int)
  | .lst ds => ofO (asIs ds)
  | _ => .no
def insI (lt : Nat → Nat → Bool) (i : Nat) : List Nat → List Nat
  | [] => [i]
  | j :: r => if lt i j = true then i :: j :: r else j :: insI lt i r
def sortI (lt : Nat → Nat → Bool) : List Nat → List Nat
  | [] => []
  | i :: r => insI lt i (sortI lt r)
def ordK (kz : List (List Int)) (n : Nat) : List Nat := sortI (fun i j => lexB (kz.getD i []) (kz.getD j [])) (List.range n)
def sortBy (kz : List (List Int)) (ds : List D) : List D := (ordK kz ds.length).map fun i => ds.getD i .non
def lamE (ρ : List Nat) (e : Env) (d : D) : Env := some (.d d) :: ρ.map fun j => (e[j]?).join
def keysD (ρ : List Nat) (kf : E) (e : Env) : List D → Rs (List (List Int))
  | [] => .ok []
  | d :: r => (kf (lamE ρ e d)).bind fun k => (asKey k).bind fun z => (keysD ρ kf e r).bind fun zs => .ok (z :: zs)
def mSortK (ρ : List Nat) (a kf : E) : E := fun e => (a e).bind fun x => (dLstItems x).bind fun ds => guardR (ds.length < 64) ((keysD ρ kf e ds).bind fun kz => guardR kz.Nodup (.ok (.lst (sortBy kz ds))))
end Mi
set_option Elab.async false
set_option linter.all false
set_option maxRecDepth 100000
set_option maxHeartbeats 1000000
namespace A
open PySem L2 PyProof.Rows
open Mi (D W Rs Fin fin_bind Out Tg)
variable [Tb : Tabs]
section
variable {prog : Program} {w : World} {Ar : Around}
theorem EqGives_str (x y : Str) (t u : Tok) : PySem.MeetsSeq.EqGives (.str x t) (.str y u) (x.cps.toList == y.cps.toList) := PySem.SeqRoads2.EqGives.str x y t u
theorem strs_get {ys : List Str} {us : List Value} (r : Vals (ys.map V.str) us) {i : Nat} (h : i < ys.length) : ∃ t, us[i]? = some (.str (ys.getD i Str.empty) t) := by
  have e : (ys.map V.str)[i]? = some (.str (ys.getD i Str.empty)) := by simp [h]
  obtain ⟨u, e2, r2⟩ := r.get e
  obtain ⟨t, rfl⟩ := r2
  exact ⟨t, e2⟩
theorem idxOf_is {ys : List Str} {z : Str} (h : z ∈ ys) : ys.idxOf z < ys.length ∧ ys.getD (ys.idxOf z) Str.empty = z ∧ ∀ m, m < ys.idxOf z → ys.getD m Str.empty ≠ z := by
  have hl := List.idxOf_lt_length_of_mem h
  refine ⟨hl, by simp [hl], fun m hm e => ?_⟩
  have : m < ys.length := Nat.lt_trans hm hl
  have e2 : ys[m] = z := by simpa [this] using e
  have := List.not_of_lt_findIdx (p := (· == z)) (xs := ys) (i := m) hm
  simp [e2] at this
theorem idx_tup {E : Value → Shared → Prop} {s : Shared} {t : Addr} {us : List Value} {ys : List Str} {z : Str} {tz : Tok} {Q : Value → Shared → Prop} (ht : IsTup s.heap t us.toArray) (r : Vals (ys.map V.str) us) (hz : z ∈ ys)
    (h : Q (.int (ys.idxOf z : Nat) s.toks) { s with toks := s.toks + 1 }) : wpAny (model prog w) Ar (call (.builtin "tuple.index") [.ref t, .str z tz]) Q E s := by
  obtain ⟨h1, h2, h3⟩ := idxOf_is hz
  have hl := r.length
  rw [List.length_map] at hl
  refine wpAny_call_entry PySem.F.slot_tuple_index ht.typeIs PySem.F.entry_tuple_index ?_ (PySem.F.args_tuple_index_2 _ _)
  show wpAny _ _ (Builtin.Tuple.tupleItemsOf (.ref t) >>= _) _ _ s
  refine wpAny_bind (tupleItemsOf_ ht ?_)
  refine wpAny_bind (wpAny_pure (wpAny_bind (wpAny_pure ?_)))
  dsimp only
  rw [Std.Legacy.Range.forIn_eq_forIn_range']
  have hsz : ([0:min us.toArray.size us.toArray.size] : Std.Legacy.Range).size = us.length := by simp [Std.Legacy.Range.size]
  rw [hsz]
  show wpAny _ _ (forIn (List.range' 0 us.length 1) _ _ >>= _) _ _ _
  have go : ∀ (k i : Nat), ys.idxOf z = i + k → ∀ (G : Option PySem.Fin × Unit → Shared → Prop), G (some (.done (.ret (.int (ys.idxOf z : Nat) s.toks))), ()) { s with toks := s.toks + 1 } →
      wpAny (model prog w) Ar.in1 (forIn (List.range' i (us.length - i) 1) ((none, ()) : Option PySem.Fin × Unit) fun (i : Nat) (__s : Option PySem.Fin × Unit) => (match us.toArray[i]? with
              | some y => do
                let b ← eqBool y (Value.str z tz)
                if b = true then do
                    let r ← retInt (i : Int)
                    pure (ForInStep.done (some r, ()))
                  else pure (ForInStep.yield (none, ()))
              | x => pure (ForInStep.yield (none, ())) : Sem (ForInStep (Option PySem.Fin × Unit)))) G E s := by
    intro k
    induction k with
    | zero =>
      intro i hi G hG
      have hlt : i < us.length := by omega
      obtain ⟨t1, e1⟩ := strs_get r (i := i) (by omega)
      rw [show us.length - i = (us.length - i - 1) + 1 by omega, List.range'_succ, List.forIn_cons]
      have e2 : us.toArray[i]? = some (.str (ys.getD i Str.empty) t1) := by simpa using e1
      rw [e2]
      have hz2 : ys.getD i Str.empty = z := by rw [← h2, hi]; rfl
      rw [hz2]
      refine wpAny_bind (wpAny_bind (EqGives_str z z t1 tz prog w _ _ _ _ ?_))
      simp only [beq_self_eq_true, if_true]
      refine wpAny_bind (wpAny_bind (wpAny_mkInt (wpAny_pure (wpAny_pure ?_))))
      rw [show (i : Nat) = ys.idxOf z from hi.symm]
      exact wpAny_pure hG
    | succ k ih =>
      intro i hi G hG
      have hlt : i < us.length := by omega
      obtain ⟨t1, e1⟩ := strs_get r (i := i) (by omega)
      rw [show us.length - i = (us.length - (i + 1)) + 1 by omega, List.range'_succ, List.forIn_cons]
      have e2 : us.toArray[i]? = some (.str (ys.getD i Str.empty) t1) := by simpa using e1
      rw [e2]
      have hz2 := h3 i (by omega)
      refine wpAny_bind (wpAny_bind (EqGives_str _ z t1 tz prog w _ _ _ _ ?_))
      have : ((ys.getD i Str.empty).cps.toList == z.cps.toList) = false := by
        rw [beq_eq_false_iff_ne]
        intro e
        apply hz2
        cases hq : ys.getD i Str.empty with
        | mk c => cases z with
          | mk d =>
            rw [hq] at e
            have : c = d := Array.toList_inj.mp e
            rw [this]
      rw [this]
      simp only [Bool.false_eq_true, if_false]
      exact wpAny_pure (ih (i + 1) (by omega) G hG)
  refine wpAny_bind (go (ys.idxOf z) 0 (by omega) _ ?_)
  exact wpAny_pure ⟨_, rfl, h⟩
theorem idx_lst {E : Value → Shared → Prop} {s : Shared} {t : Addr} {us : List Value} {ys : List Str} {z : Str} {tz : Tok} {n : Nat} {Q : Value → Shared → Prop} (ht : s.heap.get? t = some { cls := .type "list", data := .seq us.toArray n }) (r : Vals (ys.map V.str) us) (hz : z ∈ ys) (hl : ys.length ≤ 1000)
    (h : Q (.int (ys.idxOf z : Nat) s.toks) { s with toks := s.toks + 1 }) : wpAny (model prog w) Ar (call (.builtin "list.index") [.ref t, .str z tz]) Q E s := by
  obtain ⟨h1, h2, h3⟩ := idxOf_is hz
  have hlu := r.length
  rw [List.length_map] at hlu
  let e : Value → Bool := fun y => match y with
    | .str a _ => a.cps.toList == z.cps.toList
    | _ => false
  have he : ∀ y, y ∈ us.toArray → PySem.MeetsSeq.EqGives y (.str z tz) (e y) := fun y hy => by
    obtain ⟨i, hi⟩ := List.getElem?_of_mem (by simpa using hy : y ∈ us)
    have hil := (List.getElem?_eq_some_iff.mp hi).1
    obtain ⟨t1, e1⟩ := strs_get r (i := i) (by omega)
    rw [e1] at hi; cases hi
    exact EqGives_str _ z t1 tz
  have ei : ∀ i (hi : i < us.toArray.size), e us.toArray[i] = decide (ys.getD i Str.empty = z) := fun i hi => by
    have hi' : i < us.length := by simpa using hi
    obtain ⟨t1, e1⟩ := strs_get r (i := i) (by omega)
    have : us.toArray[i] = .str (ys.getD i Str.empty) t1 := by
      have := (List.getElem?_eq_some_iff.mp e1).2
      simpa using this
    rw [this]
    show ((ys.getD i Str.empty).cps.toList == z.cps.toList) = _
    by_cases q : ys.getD i Str.empty = z
    · rw [q]; simp
    · rw [decide_eq_false q, beq_eq_false_iff_ne]
      intro y
      apply q
      cases hq : ys.getD i Str.empty with
      | mk c => cases z with
        | mk d =>
          rw [hq] at y
          have : c = d := Array.toList_inj.mp y
          rw [this]
  refine call_meets PySem.F.slot_list_index ⟨_, ht, rfl⟩ PySem.F.entry_list_index (PySem.F.args_list_index_2 _ _) (PySem.MeetsSeq.list_index t us.toArray n (.str z tz) e he (ys.idxOf z) (by simp; omega) (by omega) (by rw [ei]; simp only [h2]; simp) (fun m hm hj => by rw [ei]; simp only [h3 m hj]; simp)) ⟨ht, h⟩
end
section
variable {X : Cx} {K : PySem.W.Frag} {M : Nat → Bool} {to ta tb : TE} {t : TA} {o e : Expr} {es : List Expr} {apos cpos : Pos} {a b : Mi.E}
theorem mt_idxT : MtR X "tuple.index" (fun x xs H Q => ∃ (p : Addr) (ys : List Str) (z : Str), x = .ref p ∧ xs = [.str z] ∧ z ∈ ys ∧ H p = some (.tup (ys.map V.str)) ∧ Q (.int (ys.idxOf z : Nat)) H) := by
  intro pins s σ H x xs v us Q I rx rv h
  obtain ⟨p, ys, z, rfl, rfl, hz, hp, q⟩ := h
  cases rx
  obtain ⟨u, rfl, ru⟩ := vals1 rv
  obtain ⟨tz, rfl⟩ := ru
  obtain ⟨its, r, pt, _⟩ := I.tuple (.inl (.inl hp))
  exact idx_tup pt r hz ⟨.int _, H, I.tok _, ⟨_, rfl⟩, q⟩
theorem mt_idxL : MtR X "list.index" (fun x xs H Q => ∃ (p : Addr) (ys : List Str) (z : Str), x = .ref p ∧ xs = [.str z] ∧ z ∈ ys ∧ ys.length ≤ 1000 ∧ Lst H p (ys.map V.str) ∧ Q (.int (ys.idxOf z : Nat)) H) := by
  intro pins s σ H x xs v us Q I rx rv h
  obtain ⟨p, ys, z, rfl, rfl, hz, hl, hp, q⟩ := h
  cases rx
  obtain ⟨u, rfl, ru⟩ := vals1 rv
  obtain ⟨tz, rfl⟩ := ru
  obtain ⟨its, n, r, _, ho⟩ := lstL I hp
  exact idx_lst ho r hz hl ⟨.int _, H, I.tok _, ⟨_, rfl⟩, q⟩
def tBM2 (K : PySem.W.Frag) (T2 : String) (r1 r2 : V → List V → Hp → VK → Prop) (to : TE) (t : TA) : TE := fun σ H Q => to σ H fun x H1 => ((∃ p xs, x = V.ref p ∧ H1 p = some (.tup xs)) ∧ t σ H1 fun xs H2 => r1 x xs H2 Q) ∨ (tyV K T2 x H1 ∧ t σ H1 fun xs H2 => r2 x xs H2 Q)
theorem pe_bm2 {T2 id1 id2 : String} {r1 r2 : V → List V → Hp → VK → Prop} {name : Str} (pa1 : PlainAttrs "tuple") (slot1 : Slot "tuple" name id1) (hty1 : typeOf (.builtin id1) = pure (.type "method_descriptor")) (hm1 : MtR X id1 r1)
    (pa2 : PlainAttrs T2) (slot2 : Slot T2 name id2) (hty2 : typeOf (.builtin id2) = pure (.type "method_descriptor")) (hm2 : MtR X id2 r2) (ho : PE X o to) (ha : PA X (e :: es) t)
    (hbase : attributeBase o name X.env (eval o X.env) = eval o X.env := by rfl)
    (hfew : ((backTo cpos (starEach (e :: es) X.env)).all (fun x => !x.1) && (backToKw cpos (keywordEach [] X.env)).all (fun x => x.1.isSome)
      && decide ((e :: es).length + ([] : List Keyword).length + (if ([] : List Keyword).isEmpty then 0 else 1) < 30)) = true := by rfl)
    (hline : (apos.endLine == cpos.line) = true := by rfl) (hs : starEach (e :: es) X.env = (false, eval e X.env) :: starEach es X.env := by rfl) (hplain : (backTo cpos (starEach es X.env)).any (·.1) = false := by rfl) :
    PE X (.Call (.Attribute o name apos) (e :: es) [] cpos) (tBM2 X.K T2 r1 r2 to t) := by
  intro pins s σ H Q I h
  refine wpAny_Call_method_late hbase hfew hline rfl (thn (ho pins s σ H _ I h) fun v s1 ⟨x, H1, I1, rx, q⟩ => ?_)
  rcases q with ⟨ty, q1⟩ | ⟨ty, q1⟩
  · obtain ⟨p, xs, rfl, hp⟩ := ty
    cases rx
    have h12 : s1.TypeIs (.ref p) "tuple" ∧ ∀ a, Value.ref p = .ref a → ∃ ob, s1.heap.get? a = some ob ∧ ob.dict = none := by
      obtain ⟨_, its, _, ob, e1, e2, e3, _⟩ := (show ObjOk X.prog X.w H1 s1.heap p (.tup xs) from I1.hok p _ hp)
      exact ⟨⟨ob, e1, e2⟩, fun a z => by cases z; exact ⟨ob, e1, e3⟩⟩
    obtain ⟨h1, h2⟩ := h12
    have rx : RelV (.ref p) (Value.ref p) := rfl
    refine ⟨"tuple", id1, pa1, slot1, hty1, h1, h2, ?_⟩
    have hA := ha cpos pins s1 σ H1 _ I1 q1
    rw [hs] at hA ⊢
    refine Calls.callWith_builtin (by show (false || (backTo cpos (starEach es X.env)).any (·.1)) = false; rw [hplain] <;> rfl) (Calls.evalArgs_plain ?_)
    exact thn hA fun us s2 ⟨vs, H2, I2, r2', q2⟩ => hm1 pins s2 σ H2 _ vs _ us Q I2 rx r2' q2
  · obtain ⟨h1, h2⟩ := tyV_is I1 rx ty
    refine ⟨T2, id2, pa2, slot2, hty2, h1, h2, ?_⟩
    have hA := ha cpos pins s1 σ H1 _ I1 q1
    rw [hs] at hA ⊢
    refine Calls.callWith_builtin (by show (false || (backTo cpos (starEach es X.env)).any (·.1)) = false; rw [hplain] <;> rfl) (Calls.evalArgs_plain ?_)
    exact thn hA fun us s2 ⟨vs, H2, I2, r2', q2⟩ => hm2 pins s2 σ H2 x vs v us Q I2 rx r2' q2
end
end A
set_option Elab.async false
set_option linter.all false
set_option maxRecDepth 100000
set_option maxHeartbeats 1000000
namespace So
open PySem
theorem lex_eq : ∀ a b : List Int, lexL a b = Mi.lexB a b
  | [], [] => rfl
  | [], _ :: _ => rfl
  | _ :: _, [] => rfl
  | a :: r, b :: t => by rw [lexL, Mi.lexB, lex_eq r t]
theorem ins_perm (lt : Nat → Nat → Bool) (i : Nat) : ∀ l : List Nat, (Mi.insI lt i l).Perm (i :: l)
  | [] => List.Perm.refl _
  | j :: r => by
    unfold Mi.insI
    split
    · exact List.Perm.refl _
    · exact ((ins_perm lt i r).cons j).trans (List.Perm.swap i j r)
theorem sort_perm (lt : Nat → Nat → Bool) : ∀ l : List Nat, (Mi.sortI lt l).Perm l
  | [] => List.Perm.refl _
  | i :: r => (ins_perm lt i _).trans ((sort_perm lt r).cons i)
section
variable {n : Nat} {lt : Nat → Nat → Bool} (O : Ord n lt)
include O
theorem ins_sorted {i : Nat} (hi : i < n) : ∀ {l : List Nat}, (∀ x ∈ l, x < n) → i ∉ l → l.Pairwise (fun a b => lt a b = true) → (Mi.insI lt i l).Pairwise (fun a b => lt a b = true)
  | [], _, _, _ => List.pairwise_singleton _ _
  | j :: r, hl, hn, hp => by
    have hp' := List.pairwise_cons.mp hp
    have hj := hl j List.mem_cons_self
    unfold Mi.insI
    split
    · rename_i h
      refine List.pairwise_cons.mpr ⟨fun x hx => ?_, hp⟩
      rcases List.mem_cons.mp hx with rfl | hx
      · exact h
      · exact O.tr _ _ _ hi hj (hl x (List.mem_cons_of_mem _ hx)) h (hp'.1 x hx)
    · rename_i h
      have hji : lt j i = true := (O.tot i j hi hj fun z => hn (by rw [z]; exact List.mem_cons_self)).resolve_left h
      refine List.pairwise_cons.mpr ⟨fun x hx => ?_, ins_sorted hi (fun x hx => hl x (List.mem_cons_of_mem _ hx)) (fun z => hn (List.mem_cons_of_mem _ z)) hp'.2⟩
      rcases List.mem_cons.mp ((ins_perm lt i r).mem_iff.mp hx) with rfl | hx
      · exact hji
      · exact hp'.1 x hx
theorem sort_sorted : ∀ {l : List Nat}, (∀ x ∈ l, x < n) → l.Nodup → (Mi.sortI lt l).Pairwise (fun a b => lt a b = true)
  | [], _, _ => .nil
  | i :: r, hl, nd => by
    have nd := List.nodup_cons.mp nd
    have hr : ∀ x ∈ r, x < n := fun x hx => hl x (List.mem_cons_of_mem _ hx)
    exact ins_sorted O (hl i List.mem_cons_self) (fun x hx => hr x ((sort_perm lt r).mem_iff.mp hx)) (fun z => nd.1 ((sort_perm lt r).mem_iff.mp z)) (sort_sorted hr nd.2)
theorem one_list : ∀ {a b : List Nat}, (∀ x ∈ a, x < n) → a.Perm b → a.Pairwise (fun x y => lt x y = true) → b.Pairwise (fun x y => lt x y = true) → a = b
  | [], b, _, p, _, _ => p.nil_eq
  | x :: r, b, hl, p, ha, hb => by
    cases b with
    | nil => exact absurd p.length_eq (by simp)
    | cons y t =>
      have hx : x ∈ y :: t := p.mem_iff.mp List.mem_cons_self
      have hy : y ∈ x :: r := p.mem_iff.mpr List.mem_cons_self
      have e : x = y := by
        rcases List.mem_cons.mp hx with h | h
        · exact h
        · rcases List.mem_cons.mp hy with h' | h'
          · exact h'.symm
          · have a1 := (List.pairwise_cons.mp ha).1 y h'
            have a2 := (List.pairwise_cons.mp hb).1 x h
            rw [O.asy _ _ (hl x List.mem_cons_self) (hl y hy) a1] at a2; cases a2
      subst e
      rw [one_list (fun z hz => hl z (List.mem_cons_of_mem _ hz)) (List.Perm.cons_inv p) (List.pairwise_cons.mp ha).2 (List.pairwise_cons.mp hb).2]
end
theorem ordK_eq {kz : List (List Int)} (nd : kz.Nodup) {p : Array Nat} (pm : Pm kz.length p) (sd : Sd (ltK kz) p kz.length) : p.toList = Mi.ordK kz kz.length := by
  have O := ltK_ord nd
  have e : Mi.ordK kz kz.length = Mi.sortI (ltK kz) (List.range kz.length) := by
    unfold Mi.ordK ltK
    congr 1
    funext i j
    exact (lex_eq _ _).symm
  have hp : p.toList.Perm (List.range kz.length) := by have := Array.perm_iff_toList_perm.mp pm.pm; simpa using this
  have hb : ∀ x ∈ p.toList, x < kz.length := fun x hx => by simpa using hp.mem_iff.mp hx
  rw [e]
  refine one_list O hb (hp.trans (sort_perm _ _).symm) ?_ (sort_sorted O (fun x hx => by simpa using hx) List.nodup_range)
  rw [List.pairwise_iff_getElem]
  intro i j hi hj hij
  have hi' : i < p.size := by simpa using hi
  have hj' : j < p.size := by simpa using hj
  have := sd i j hij (by rw [← pm.size]; exact hj')
  rw [at_eq hi', at_eq hj'] at this
  simpa using this
end So
namespace A
open PySem L2 PyProof.Rows So
open Mi (D W Rs Fin fin_bind Out Tg)
variable [Tb : Tabs]
theorem tab_grow {T : Addr} {q : Str} {H H' Hv : Hp} (v : Vw H Hv) (t : Tab T q H H') : Grow H Hv H' Hv := by
  rcases t with rfl | ⟨ps, ps', c, hT, hc, ne, rfl, ck⟩
  · exact .refl v
  · have get : ∀ {a o}, H a = some o → NT o → upd (upd H T (.tbl q ps')) c (.ext (codeX c q)) a = some o := fun {a o} e n => by
      rw [upd_ne (ne_of_none e hc), upd_ne (fun z => by rw [z, hT] at e; cases e; exact n)]; exact e
    have back : ∀ {a o}, upd (upd H T (.tbl q ps')) c (.ext (codeX c q)) a = some o → (∀ w ps, o ≠ .tbl w ps) → (∀ φ, o ≠ .ext φ) → H a = some o := fun {a o} e n1 n2 => by
      by_cases z : a = c
      · subst z; rw [upd_same] at e; cases e; exact absurd rfl (n2 _)
      · rw [upd_ne z] at e
        by_cases z2 : a = T
        · subst z2; rw [upd_same] at e; cases e; exact absurd rfl (n1 _ _)
        · rw [upd_ne z2] at e; exact e
    refine ⟨⟨fun a o e n => get e n, fun a e => ?_, fun a w p0 e => ?_⟩, Same.refl _, ⟨fun a o e => get (v.sub a o e) (v.nv a o e), fun a xs e => v.tup a xs (back e (fun _ _ z => by cases z) (fun _ z => by cases z)), fun a o u e => v.frz a o u (back e (fun _ _ z => by cases z) (fun _ z => by cases z)), ck, v.nv⟩, fun _ _ _ n => n⟩
    · by_cases z : a = c
      · subst z; exact hc
      · rw [upd_ne z] at e
        by_cases z2 : a = T
        · subst z2; rw [upd_same] at e; cases e
        · rw [upd_ne z2] at e; exact e
    · by_cases z2 : a = T
      · subst z2
        rw [hT] at e; cases e
        exact ⟨ps', by rw [upd_ne (Ne.symm ne), upd_same]⟩
      · exact ⟨p0, by rw [upd_ne (ne_of_none e hc), upd_ne z2]; exact e⟩
theorem asIs_ok {Hv : Hp} : ∀ {ds : List D} {xs : List V} {bs : List Int}, Mi.asIs ds = some bs → P2 (Rep Hv) ds xs → xs = bs.map V.int
  | [], _, bs, e, r => by cases e; cases r; rfl
  | .int b :: ds, _, bs, e, r => by
    cases r with
    | cons x t =>
      cases hb : Mi.asIs ds with
      | none => rw [Mi.asIs, hb] at e; cases e
      | some cs =>
        rw [Mi.asIs, hb] at e
        cases e
        rw [asIs_ok hb t, rep_int.mp x]; rfl
section
variable {X : Cx} {K : PySem.W.Frag} {M : Nat → Bool} {te tb ta : TE} {a b kf : Mi.E} {T : Addr} {q : Str} {ρ : List Nat}
theorem lam_R0 {e : Mi.Env} {σ : L2.St} {H Hv : Hp} (I : R0 M e σ H Hv) (hM : ∀ j ∈ ρ, M j = false) {d : D} {v : V} (r : Rep Hv d v) : R0 (fun _ => false) (Mi.lamE ρ e d) (lamSt ρ σ v) H Hv := by
  refine ⟨I.vw, by simp [Mi.lamE, lamSt], fun i w h _ => ?_, fun i w h m => by cases m⟩
  cases i with
  | zero =>
    have : W.d d = w := by simpa [Mi.lamE] using h
    subst this
    exact ⟨v, rfl, r⟩
  | succ i =>
    have h : (ρ.map fun j => (e[j]?).join)[i]? = some (some w) := by simpa [Mi.lamE] using h
    rw [List.getElem?_map] at h
    obtain ⟨j, hj, e2⟩ := Option.map_eq_some_iff.mp h
    have e3 : e[j]? = some (some w) := by
      cases z : e[j]? with
      | none => rw [z] at e2; cases e2
      | some y => rw [z] at e2; exact congrArg some e2
    obtain ⟨u, hu, ru⟩ := I.nob j w e3 (hM j (List.mem_of_getElem? hj))
    exact ⟨u, by simp [lamSt, List.getElem?_map, hj, hu], ru⟩
theorem key_run {c' : Addr} (hk : AE (fun _ => false) qN tb kf) (hM : ∀ j ∈ ρ, M j = false) {e : Mi.Env} {σ : L2.St} : ∀ {ds : List D} {xs : List V} {kz : List (List Int)} {H Hv : Hp} {R : List V → Hp → Prop}, R0 M e σ H Hv → P2 (Rep Hv) ds xs → H c' = some (.ext (codeX c' q)) → Mi.keysD ρ kf e ds = .ok kz →
    (∀ ks H3 Hv3, Grow H Hv H3 Hv3 → KeysAre H3 kz ks → R ks H3) → KeyRun c' q (fun v H K => tb (lamSt ρ σ v) H K) xs H R
  | [], _, kz, H, Hv, R, I, .nil, _, hz, h => by
    have : kz = [] := by rw [Mi.keysD] at hz; cases hz; rfl
    subst this
    exact h [] H Hv (.refl I.vw) .nil
  | d :: ds, _, kz, H, Hv, R, I, .cons (b := v) (m := xs) r t, hc, hz, h => by
    rw [Mi.keysD] at hz
    show tb (lamSt ρ σ v) H _
    cases hkd : kf (Mi.lamE ρ e d) with
    | no => rw [hkd] at hz; cases hz
    | ex z => rw [hkd] at hz; cases hz
    | ok kd =>
      rw [hkd, Mi.bind_ok] at hz
      cases kd with
      | lst es =>
        cases hes : Mi.asIs es with
        | none => rw [show Mi.asKey (.lst es) = .no from by show Mi.ofO (Mi.asIs es) = _; rw [hes]; rfl] at hz; cases hz
        | some z =>
          rw [show Mi.asKey (.lst es) = .ok z from by show Mi.ofO (Mi.asIs es) = _; rw [hes]; rfl, Mi.bind_ok] at hz
          cases hzs : Mi.keysD ρ kf e ds with
          | no => rw [hzs] at hz; cases hz
          | ex y => rw [hzs] at hz; cases hz
          | ok zs =>
            rw [hzs] at hz
            have hz : kz = z :: zs := by cases hz; rfl
            subst hz
            refine hk _ _ H Hv _ (lam_R0 I hM r) ?_
            rw [hkd]
            intro kv H1 Hv1 g1 kq
            obtain ⟨p, o, rfl, n0, hp, nv, ci⟩ := kq
            cases o with
            | lst vs =>
              have hv : vs = z.map V.int := asIs_ok hes ci
              subst hv
              refine ⟨g1.old.at hc, key_run hk hM (I.grow g1) (p2_same g1.vis t) (g1.old.at hc) hzs fun ks H3 Hv3 g3 ka => h _ H3 Hv3 (g1.trans g3) (.cons ⟨p, rfl, g3.old.at hp⟩ ka)⟩
            | _ => exact ci.elim
      | _ => cases hz
theorem p2_pick {F : D → V → Prop} {ds : List D} {xs : List V} (h : P2 F ds xs) : ∀ l : List Nat, (∀ i ∈ l, i < ds.length) → P2 F (l.map fun i => ds.getD i .non) (l.map fun i => xs.getD i .non)
  | [], _ => .nil
  | i :: r, hl => by
    have hi := hl i List.mem_cons_self
    have e1 : ds[i]? = some (ds.getD i .non) := by simp [hi]
    obtain ⟨y, e2, f⟩ := h.getL e1
    have : xs.getD i .non = y := by simp [e2]
    refine .cons ?_ (p2_pick h r fun j hj => hl j (List.mem_cons_of_mem _ hj))
    show F (ds.getD i .non) (xs.getD i .non)
    rw [this]; exact f
theorem a_sortK (hT : (T, q) ∈ Tb.l) (hM : ∀ j ∈ ρ, M j = false) (ha : AE M qP te a) (hk : AE (fun _ => false) qN tb kf) : AE M qN (tSortK T q ρ te tb) (Mi.mSortK ρ a kf) := fun e σ H Hv Q I h =>
  ha e σ H Hv _ I ((fin_bind.mp h).mono fun x hx v H1 Hv1 g1 rx => by
    cases x with
    | lst ds =>
      obtain ⟨h64, hx⟩ := Mi.fin_guard (show Fin (Mi.guardR (ds.length < 64) _) _ from hx)
      obtain ⟨kz, hkz, hx⟩ := fin_ok (fin_bind.mp hx)
      obtain ⟨nd, hx⟩ := Mi.fin_guard hx
      have hx := Mi.fin_now hx
      obtain ⟨p, xs, rfl, l, r⟩ := RD.lst g1.vw rx
      have lx := r.len
      have I1 := I.grow g1
      obtain ⟨tps, ht⟩ := g1.vw.cd.has _ hT
      refine ⟨p, xs, tps, rfl, by omega, ht, g1.vw.cd, fun H2 c' tab hc' => ?_⟩
      have g2 := tab_grow g1.vw tab
      refine ⟨l.old g2.old, key_run hk hM (I1.grow g2) r hc' hkz fun ks H3 Hv3 g3 ka => ?_⟩
      have lk : kz.length = ds.length := by
        have : ∀ (ds : List D) (kz : List (List Int)), Mi.keysD ρ kf e ds = .ok kz → kz.length = ds.length := fun ds => by
          induction ds with
          | nil => intro kz h; rw [Mi.keysD] at h; cases h; rfl
          | cons d ds ih =>
            intro kz h
            rw [Mi.keysD] at h
            cases h1 : kf (Mi.lamE ρ e d) with
            | no => rw [h1] at h; cases h
            | ex z => rw [h1] at h; cases h
            | ok kd =>
              rw [h1, Mi.bind_ok] at h
              cases h2 : Mi.asKey kd with
              | no => rw [h2] at h; cases h
              | ex z => rw [h2] at h; cases h
              | ok z =>
                rw [h2, Mi.bind_ok] at h
                cases h3 : Mi.keysD ρ kf e ds with
                | no => rw [h3] at h; cases h
                | ex y => rw [h3] at h; cases h
                | ok zs => rw [h3] at h; cases h; rw [List.length_cons, List.length_cons, ih zs h3]
        exact this ds kz hkz
      refine ⟨kz, by omega, nd, ka, fun p2 ys hp2 so => ?_⟩
      obtain ⟨pa, pm, sd, rfl⟩ := so
      have e0 : pa.toList = Mi.ordK kz ds.length := by
        rw [← lk]
        exact ordK_eq nd (by rw [lk, lx]; exact pm) (by rw [lk, lx]; exact sd)
      have rr : P2 (Rep Hv3) (Mi.sortBy kz ds) (pa.toList.map fun i => xs.getD i .non) := by
        unfold Mi.sortBy
        rw [← e0]
        refine p2_pick (p2_same (g2.vis.trans g3.vis) r) _ fun i hi => ?_
        have := (Array.perm_iff_toList_perm.mp pm.pm).mem_iff.mp hi
        rw [lx]; simpa using this
      obtain ⟨g4, kk⟩ := new_kN g3.vw rr hp2
      have gg := g1.trans (g2.trans (g3.trans g4))
      exact hx _ _ _ gg (KM.mono (κ := qN) (g1.old.trans (g2.old.trans g3.old)) kk)
    | _ => exact hx.elim)
end
end A
set_option Elab.async false
set_option linter.all false
set_option maxRecDepth 100000
set_option maxHeartbeats 1000000
namespace L2
open PySem PySem.Spec PyProof.Rows A So
structure FunC (K : PySem.W.Frag) (x qual : Str) (st : Stmt) (c f : Addr) (fd : FuncData) : Prop where
  ex : ∃ (oc : Value) (od : Option Addr) (kV doc pm : Value) (an : Option Addr) (ct : Value) (osl : Array (Option Value)),
    fd = PySem.W.fnOf x qual (defArgs st) (defBody st) (defScope st) .none kV doc pm an (.ref c) ct ∧ K.lookup f = some ⟨oc, od, .func fd, osl⟩ ∧ PySem.W.codeIn K (.ref c) qual = true
section
variable {P : Program} {w : World} {K : PySem.W.Frag} {mg : Str → Option Value} {base : Heap}
theorem FunC.ok {x qual : Str} {st : Stmt} {c f : Addr} {fd : FuncData} {N ps : List Str} {k : Nat} {sp : Sp} (F : FunC K x qual st c f fd) (S : FnScope N ps (defScope st)) (len : ∀ vs H Q E, sp vs H Q E → vs.length = ps.length)
    (hbody : ∀ (A : Around) (outer : List Env) (s : Shared) (H : Hp) (vs : List V) (Q : VK) (E : XK), Room k (A.deeper (envOfC qual (defScope st) s.heap.objs.size f (.ref c))) → sp vs H Q E →
      ∃ t, PSs (cxOf CX0 P w K mg base N qual (defScope st) f (.ref c) A outer s H E).nox (defBody st) t ∧ t { nx := fun _ H' => Q .non H', rt := Q } (start N vs) H) : FnOk P w K mg base CX0 (k + 1) f fd ps sp := by
  obtain ⟨oc, od, kV, doc, pm, an, ct, osl, rfl, lk, hcd⟩ := F.ex
  refine fn_of lk hcd S len fun A outer s H vs Q E hr hsp => ?_
  obtain ⟨t, h, q⟩ := hbody A outer s H vs Q E hr hsp
  exact ⟨t, h.nox, q⟩
end
structure FnDC (K : PySem.W.Frag) (mg : Str → Option Value) (x : Str) (st : Stmt) (ps : List Str) (c : Addr) : Prop where
  ex : ∃ (f : Addr) (fd : FuncData), mg x = some (.ref f) ∧ PySem.W.keepIn K (.ref f) = true ∧ Binds K fd ps [] ∧ FunC K x x st c f fd
theorem fnDC_mk {K : PySem.W.Frag} {h : Heap} {mg : Str → Option Value} {x : Str} {st : Stmt} {ps : List Str} {f c : Addr} {oc : Value} {od an : Option Addr} {osl : Array (Option Value)} {kV doc pm ct : Value} (X : K.In h) (G : h.Ns mainGlobals mg)
    (hb : ∀ (kV doc pm : Value) (an : Option Addr) (cdv ct : Value) (us : List Value), us.length = ps.length → bindArgs (PySem.W.fnOf x x (defArgs st) (defBody st) (defScope st) .none kV doc pm an cdv ct) ⟨us, []⟩ = pure (ps.zip us))
    (a : PySem.W.nsIn K mainGlobals x = some (some (.ref f))) (l : K.lookup f = some ⟨oc, od, .func (PySem.W.fnOf x x (defArgs st) (defBody st) (defScope st) .none kV doc pm an (.ref c) ct), osl⟩)
    (cc : PySem.W.codeIn K (.ref c) x = true) (k : PySem.W.keepIn K (.ref f) = true) : FnDC K mg x st ps c := by
  have F := fun_mk (st := st) l cc k
  exact ⟨f, _, PySem.W.mg_of X G a, k, F.binds hb, ⟨oc, od, kV, doc, pm, an, ct, osl, rfl, l, cc⟩⟩
theorem FnDC.cal {P : Program} {w : World} {K : PySem.W.Frag} {mg : Str → Option Value} {base : Heap} {CX : CXT} {k : Nat} {x : Str} {st : Stmt} {ps : List Str} {c : Addr} {sp : Sp} (F : FnDC K mg x st ps c) (h : ∀ f fd, FunC K x x st c f fd → FnOk P w K mg base CX k f fd ps sp) :
    Cal P w K mg base CX k x ps sp := by
  obtain ⟨f, fd, h1, h2, h3, h4⟩ := F.ex
  exact ⟨f, fd, h1, h2, h3, h f fd h4⟩
theorem LamSc.one {X : Cx} {x y : Str} {j : Nat} {sc : Scope} {c : Addr} (hn : sc.names = [(x, .local), (y, .free)]) (hxy : (y == x) = false) (hk : sc.kind = .function) (co : sc.isCoroutine = false) (gen : sc.isGenerator = false) (hc : X.env.cells = [(y, c)]) (hN : X.N[j]? = some y) (hy : X.env.kindOf y = some .cell) :
    LamSc X x [j] [x, y] sc [(y, c)] := by
  have hl : sc.names.lookup y = some .free := by
    rw [hn, List.lookup, hxy]
    show List.lookup y [(y, NameKind.free)] = _
    rw [List.lookup, beq_self_eq_true]
  refine ⟨hk, co, gen, fun z hz => ?_, by rw [hn, List.lookup, beq_self_eq_true], fun z d h => by rw [hc]; exact h, fun z h => ?_, [y], rfl, rfl, fun i k z h1 h2 => ?_⟩
  · rw [hn] at hz
    rcases List.mem_cons.mp hz with rfl | hz
    · exact fun q => by cases q
    · rw [List.mem_singleton.mp hz]; exact fun q => by cases q
  · rw [hn, List.lookup] at h
    split at h
    · cases h
    · rw [List.lookup] at h
      split at h
      · rename_i q
        exact ⟨c, by rw [List.lookup, q]⟩
      · cases h
  · cases i with
    | zero =>
      have e1 : j = k := by simpa using h1
      have e2 : y = z := by simpa using h2
      subst e1 e2
      exact ⟨hN, hl, .inl hy⟩
    | succ i => simp at h1
section
variable [Tb : Tabs]
theorem law_call2 {P : Program} {w : World} {K : PySem.W.Frag} {mg mb : Str → Option Value} {k : Nat} {fa a c T : Addr} {q : Str} {fd : FuncData} {x : Str} {s₁ : Shared} {vs : List Value} {ns : List Int} (hTb : Tb.l = [(T, q)])
    (KX : K.In s₁.heap) (hns : s₁.heap.Ns mainGlobals mg) (hb : s₁.heap.Ns builtinsNs mb) (hbb : ∀ x : Str, x ≠ "__name__" → mb x = bootBuiltins x) (hlim : s₁.heap.NoLimit) (hg : s₁.gens = #[])
    (ha : s₁.heap.get? a = some { cls := .type "list", data := .seq vs.toArray }) (hi : IntsAre vs ns) (hl : ns.length ≤ 63) (hr : Room k callerA)
    (hKa : K.lookup a = none) (hKT : K.lookup T = none) (C : PySem.W.CodeHd s₁.heap c T) (hT : s₁.heap.get? T = some (PySem.W.tabObj #[])) (hB : BM mg s₁.heap)
    (F : ∀ base : Heap, K.In base → base.Ns mainGlobals mg → BM mg base → PySem.W.CodeHd base c T → FnOk P w K mg base CX0 k fa fd [x] spLaw) (hbind : ∀ (s : Shared) (u : Value), BindsTo s fd ⟨[u], []⟩ [(x, u)]) :
    codeAny (model P w) callerA (.call (.ref fa) ⟨[.ref a], []⟩) (fun r s' => r = .ok (.ret (.bool true)) ∧ OldK s₁.heap s'.heap ∧ s'.os = s₁.os ∧ AllBare s'.gens) s₁ := by
  have rv := vals_ints hi
  have lenV := hi.length
  have aT : a ≠ T := fun z => by rw [z, hT] at ha; cases ha
  let H : Hp := fun b => if b = a then some (.frz { cls := .type "list", data := .seq vs.toArray } (.lst (ns.map V.int))) else if b = T then some (.tbl q #[]) else none
  have Ha : H a = some (.frz { cls := .type "list", data := .seq vs.toArray } (.lst (ns.map V.int))) := if_pos rfl
  have HT : H T = some (.tbl q #[]) := by show (if T = a then _ else _) = _; rw [if_neg (Ne.symm aT), if_pos rfl]
  have Hn : ∀ b, b ≠ a → b ≠ T → H b = none := fun b h1 h2 => by show (if b = a then _ else _) = _; rw [if_neg h1, if_neg h2]
  have Hd : ∀ {b u}, H b = some u → (b = a ∧ u = .frz { cls := .type "list", data := .seq vs.toArray } (.lst (ns.map V.int))) ∨ (b = T ∧ u = .tbl q #[]) := fun {b u} e => by
    by_cases h1 : b = a
    · subst h1; rw [Ha] at e; cases e; exact .inl ⟨rfl, rfl⟩
    · by_cases h2 : b = T
      · subst h2; rw [HT] at e; cases e; exact .inr ⟨rfl, rfl⟩
      · rw [Hn b h1 h2] at e; cases e
  have hok : HOk P w H s₁.heap := fun b u e => by
    rcases Hd e with ⟨rfl, rfl⟩ | ⟨rfl, rfl⟩
    · exact ⟨ha, by rw [List.length_map, sizeLine_eq]; omega, vs, _, rv, ha⟩
    · exact hT
  have free : ∀ {b : Addr} {o : Obj}, s₁.heap.get? b = some o → o.cls ≠ .type "list" → o ≠ PySem.W.tabObj #[] → H b = none := fun {b o} e h1 h2 => by
    refine Hn b (fun z => ?_) fun z => ?_
    · rw [z, ha] at e; cases e; exact h1 rfl
    · rw [z, hT] at e; cases e; exact h2 rfl
  have base_of : ∀ {b : Addr} {o : Obj}, s₁.heap.get? b = some o → H b = none → (hidT s₁.heap H).get? b = some o := fun e n => hidT_get e n
  have nsK : ∀ {b : Addr} {m : Str → Option Value}, s₁.heap.Ns b m → (hidT s₁.heap H).Ns b m := fun {b m} ⟨o, es, ep, e, d, r⟩ => ⟨o, es, ep, base_of e (Hn b (fun z => by rw [z, ha] at e; cases e; cases d) fun z => by rw [z, hT] at e; cases e; cases d), d, r⟩
  have hKb : K.In (hidT s₁.heap H) := fun b o e => base_of (KX b o e) (Hn b (fun z => by rw [z, hKa] at e; cases e) fun z => by rw [z, hKT] at e; cases e)
  have hM : Mod K mg (hidT s₁.heap H) := ⟨hKb, nsK hns, ⟨mb, nsK hb, hbb⟩, let ⟨mc, h1, h2⟩ := hlim; ⟨mc, nsK h1, h2⟩⟩
  have e0 : Env0 P w K mg (hidT s₁.heap H) callerA [] s₁ H := ⟨rfl, hM, fun b o e => of_hidT e, Nat.le_of_eq (hidT_size _ _), trivial, fun b hb => absurd (show b ∈ ([] : List Addr) from hb) (by simp), hok, .of_eq hg⟩
  have hB' : BM mg (hidT s₁.heap H) := by
    obtain ⟨bm, bo, b1, b2, b3, b4, b5, b6, b7⟩ := hB
    exact ⟨bm, bo, b1, b2, b3, base_of b4 (free b4 (by rw [b5]; decide) (fun z => by rw [z] at b5; cases b5)), b5, b6, b7⟩
  have C' : PySem.W.CodeHd (hidT s₁.heap H) c T := by
    obtain ⟨o, vs2, file, tf, flags, tg, inF, text, tt, e, h1, r⟩ := C
    exact ⟨o, vs2, file, tf, flags, tg, inF, text, tt, base_of e (free e (by rw [h1]; decide) (fun z => by rw [z] at h1; cases h1)), h1, r⟩
  have ck : CodeOk H := ⟨fun r hr => by
    rw [hTb] at hr
    obtain rfl : r = (T, q) := by simpa using hr
    exact ⟨#[], HT⟩, fun T2 q2 ps e => by
    rcases Hd e with ⟨_, z⟩ | ⟨_, z⟩
    · cases z
    · cases z; exact ⟨trivial, fun pos v hv => by cases hv⟩⟩
  refine codeAny_mono ((F _ hKb (nsK hns) hB' C').run callerA [] s₁ H ⟨[.ref a], []⟩ [.ref a] [.ref a] (fun v _ => v = .bl true) (fun _ _ _ => False) hr e0 (hbind s₁ (.ref a)) (.cons rfl .nil) ⟨a, ns, rfl, .inr ⟨_, Ha⟩, hl, ck, fun _ => rfl⟩) fun r s' h => ?_
  cases r with
  | error e => exact h.elim
  | ok fl =>
    cases fl with
    | next => exact False.elim h
    | brk => exact False.elim h
    | cont => exact False.elim h
    | ret u =>
      obtain ⟨v, H', os, bare, un, hok', r', q'⟩ := h
      have q' : v = .bl true := q'
      subst q'
      obtain rfl : u = Value.bool true := r'
      have old : ∀ b o, s₁.heap.get? b = some o → asItWas s₁.heap s'.heap b o := fun b o e => by
        by_cases h1 : b = a
        · subst h1
          have z2 := un.frzs b _ _ Ha
          obtain ⟨e2, _⟩ := hok' b _ z2
          rw [ha] at e; cases e
          exact .inl e2
        · by_cases h2 : b = T
          · subst h2
            obtain ⟨more, z2⟩ := un.tbls b _ _ HT
            have e2 : s'.heap.get? b = some (PySem.W.tabObj (#[] ++ more)) := hok' b _ z2
            rw [hT] at e; cases e
            obtain ⟨oc, vs2, _, _, _, _, _, _, _, f1, f2, f3, f4, _⟩ := C
            exact .inr (.inl ⟨⟨c, oc, vs2, f1, f2, f3, f4⟩, rfl, #[], more, rfl, e2⟩)
          · exact .inl (un.keep b o e (Hn b h1 h2) (by intro z; exact absurd (show b ∈ ([] : List Addr) from z) (by simp)) (by simp))
      exact ⟨rfl, ⟨old, fun b o e => un.there b o e (by simp)⟩, os, bare⟩
theorem walk_of2 {l : PySem.W.OpenLaw} {k : Nat} {q : Program} {loose : List Str} {XP : (Str → Option Value) → Heap → Prop} {YP : World → Heap → Prop} {d : DefRec} {K : Params → PySem.W.Frag} {x dn : Str} {c T : Addr} {qn : Str} (hTb : Tb.l = [(T, qn)])
    (hn : l.most = some 63) (hdf : d.params.defaults = []) (hr : Room k callerA)
    (hY : ∀ (w : World) (h : Heap), YP w h → (K w.params).In h) (hL : ∀ w : World, ∀ a o, (K w.params).lookup a = some o → o.cls ≠ .type "list") (hK : ∀ w : World, (K w.params).lookup T = none)
    (hrec : ∃ d, (recsOf q).find? (fun e => e.name == dn) = some d) (htab : ∀ w : World, PySem.W.tabIn (K w.params) dn = some (c, T))
    (F : ∀ (w : World) (mg : Str → Option Value) (fa : Addr) (h : Heap), (K w.params).In h → h.Ns mainGlobals mg → mg d.name = some (.ref fa) →
      ∃ fd : FuncData, (∀ (s : Shared) (u : Value), BindsTo s fd ⟨[u], []⟩ [(x, u)]) ∧
        ∀ base : Heap, (K w.params).In base → base.Ns mainGlobals mg → BM mg base → PySem.W.CodeHd base c T → FnOk l.prog w (K w.params) mg base CX0 k fa fd [x] spLaw) :
    PySem.W.WalkO q loose XP YP l.row.toRowW d [] (fun f vs => PySem.call f vs) := by
  refine Att.attach_call hn hdf fun w s₀ s₁ mg mb fa o pm cd doc a vs ns G Y ho hd hcd hmg hobj hints hlen hg => ?_
  have KX := hY w _ Y
  obtain ⟨fd, hb, hF⟩ := F w mg fa _ KX G.T.g hmg
  obtain ⟨dd, hdd⟩ := hrec
  obtain ⟨C, hT⟩ := PySem.W.tab_of G.T KX hdd (htab w)
  have hB : BM mg s₁.heap := by
    obtain ⟨bm, ob, b1, b2, b3, b4, b5, b6⟩ := G.T.bmain
    refine ⟨bm, ob, b1, b2, fun z => ?_, b3, b4, b5, b6⟩
    obtain ⟨o2, es, ep, e, d2, _⟩ := G.T.g
    rw [z, e] at b3; cases b3; rw [d2] at b6; cases b6
  have hKa : (K w.params).lookup a = none := by
    cases z : (K w.params).lookup a with
    | none => rfl
    | some o2 =>
      have e := KX a o2 z
      rw [hobj] at e; cases e
      exact absurd rfl (hL w a _ z)
  exact law_call2 hTb KX G.T.g G.T.b G.T.builtins G.T.nolimit hg hobj hints hlen hr hKa (hK w) C hT hB hF hb
end
end L2
namespace A
open PySem L2 PyProof.Rows So
open Mi (D W Rs Fin fin_bind Out Tg)
variable [Tb : Tabs]
section
variable {K : PySem.W.Frag} {M : Nat → Bool} {ta tb : TE} {a b : Mi.E}
def rIdxT : V → List V → Hp → VK → Prop := fun x xs H Q => ∃ (p : Addr) (ys : List Str) (z : Str), x = .ref p ∧ xs = [.str z] ∧ z ∈ ys ∧ H p = some (.tup (ys.map V.str)) ∧ Q (.int (ys.idxOf z : Nat)) H
def rIdxL : V → List V → Hp → VK → Prop := fun x xs H Q => ∃ (p : Addr) (ys : List Str) (z : Str), x = .ref p ∧ xs = [.str z] ∧ z ∈ ys ∧ ys.length ≤ 1000 ∧ Lst H p (ys.map V.str) ∧ Q (.int (ys.idxOf z : Nat)) H
theorem mt_iT {X : Cx} : MtR X "tuple.index" rIdxT := mt_idxT
theorem mt_iL {X : Cx} : MtR X "list.index" rIdxL := mt_idxL
theorem a_idx (ha : AE M qP ta a) (hb : AE M qP tb b) : AE M qV (tBM2 K "list" rIdxT rIdxL ta (tCons tb tNil)) (Mi.m2 Mi.dIdx a b) := fun e σ H Hv Q I h =>
  ha e σ H Hv _ I ((fin_bind.mp h).mono fun x hx v H1 Hv1 g1 rx => by
    obtain ⟨y, hy, hk⟩ := fin_ok (fin_bind.mp hx)
    cases y with
    | str z =>
      obtain ⟨ys, ey, q1⟩ := ofO_ok (fin_bind.mp hk)
      obtain ⟨⟨hz, hl⟩, q2⟩ := Mi.fin_guard q1
      have q3 := Mi.fin_now q2
      clear hk q1 q2 hx
      cases x with
      | tup ds =>
        obtain ⟨p, us, rfl, l, _, r⟩ := RD.tup g1.vw rx
        have := asSs_ok ey r
        subst this
        refine .inl ⟨⟨p, _, rfl, l⟩, hb e σ H1 Hv1 _ (I.grow g1) ?_⟩
        rw [hy]
        intro v2 H2 Hv2 g2 ry
        cases RD.str ry
        exact ⟨p, ys, z, rfl, rfl, hz, g2.old.at l, q3 _ _ _ (g1.trans g2) qv_int⟩
      | lst ds =>
        obtain ⟨p, us, rfl, l, r⟩ := RD.lst g1.vw rx
        have := asSs_ok ey r
        subst this
        refine .inr ⟨.inl ⟨rfl, _, l.sq⟩, hb e σ H1 Hv1 _ (I.grow g1) ?_⟩
        rw [hy]
        intro v2 H2 Hv2 g2 ry
        cases RD.str ry
        exact ⟨p, ys, z, rfl, rfl, hz, hl, l.old g2.old, q3 _ _ _ (g1.trans g2) qv_int⟩
      | _ => cases ey
    | _ => exact hk.elim)
end
end A
set_option Elab.async false
set_option linter.all false
set_option maxRecDepth 100000
set_option maxHeartbeats 1000000
namespace Mi
def mI (m : E) : E := fun e => (m e).bind fun x => guardR (imm x = true) (.ok x)
end Mi
namespace A
open PySem L2 PyProof.Rows So
open Mi (D W Rs Fin fin_bind Out Tg)
variable [Tb : Tabs]
section
variable {K : PySem.W.Frag} {M : Nat → Bool} {t : TE} {m : Mi.E} {w : Mi.EW}
theorem R0.lent {e : Mi.Env} {σ : L2.St} {H Hv : Hp} (I : R0 M e σ H Hv) : R0 (fun _ => false) e σ H (noT H) := by
  refine ⟨.all I.vw.cd, I.len, fun i w h _ => ?_, fun i w h m => by cases m⟩
  cases z : M i with
  | false =>
    obtain ⟨v, q, r⟩ := I.nob i w h z
    exact ⟨v, q, RB.fullT I.vw (.inl r)⟩
  | true =>
    obtain ⟨v, q, a, o, e1, e2, e3, c⟩ := I.own i w h z
    exact ⟨v, q, RB.fullT I.vw (.inr ⟨a, o, e1, e2, c⟩)⟩
theorem a_lend (h : AE (fun _ => false) qV t m) : AE M qV t (Mi.mI m) := fun e σ H Hv Q I hf =>
  h e σ H (noT H) Q I.lent ((fin_bind.mp hf).mono fun x hx v H3 Hv3 g3 r => by
    obtain ⟨hi, hd⟩ := Mi.fin_guard hx
    have hd := Mi.fin_now hd
    have g4 := seen_grow I.vw g3.old g3.vw.cd
    exact hd v H3 _ g4 (rep_imm g4.vw.tup hi (rep_same g3.vw.sub r)))
theorem as_retPub (y : Nat) (hy : M y = true) (ha : AW (fun j => M j && !(j == y)) qN t w) : AS M qN (tRet t) (Mi.sRet w) := fun H0 Hv0 e σ H Hv D I h => by
  have nb : ∀ {j : Nat}, (M j && !(j == y)) = false → M j = false ∨ j = y := fun {j} z => by
    cases q : M j with
    | false => exact .inl rfl
    | true => rw [q] at z; exact .inr (by simpa using z)
  have nt : ∀ {j : Nat}, (M j && !(j == y)) = true → M j = true ∧ j ≠ y := fun {j} z => by simpa using z
  have fin : ∀ Hv', Grow H0 Hv0 H Hv' → R0 (fun j => M j && !(j == y)) e σ H Hv' → tRet t D σ H := fun Hv' gw R =>
    ha e σ H Hv' _ R ((fin_bind.mp h).mono fun d hd v H1 Hv1 g1 r => hd v H1 Hv1 (gw.trans g1) (KM.mono (κ := qN) gw.old r))
  have other : (∀ w0, e[y]? ≠ some (some w0)) → tRet t D σ H := fun none => fin Hv I.gw ⟨I.vw, I.len, fun j w' z q => by
    rcases nb q with q | rfl
    · exact I.nob j w' z q
    · exact absurd z (none w'), fun j w' z q => I.own j w' z (nt q).1⟩
  cases he : e[y]? with
  | none => exact other fun w0 z => by rw [he] at z; cases z
  | some ow =>
    cases ow with
    | none => exact other fun w0 z => by rw [he] at z; cases z
    | some w0 =>
      obtain ⟨p, Hv', q, I', s, r⟩ := I.reveal hy he
      refine fin Hv' I'.gw ⟨I'.vw, I.len, fun j w' z q2 => ?_, fun j w' z q2 => ?_⟩
      · by_cases hj : j = y
        · subst hj
          rw [he] at z; cases z
          exact ⟨_, q, r⟩
        · exact I'.nob j w' (by rw [List.getElem?_set_ne (Ne.symm hj)]; exact z) ((nb q2).resolve_right hj)
      · obtain ⟨m1, hj⟩ := nt q2
        exact I'.own j w' (by rw [List.getElem?_set_ne (Ne.symm hj)]; exact z) m1
end
end A
namespace L2
end L2
namespace L2
end L2
namespace L2
end L2
set_option Elab.async false
set_option linter.all false
set_option maxRecDepth 100000
set_option maxHeartbeats 1000000
namespace Mi
open PySem
def FinX {α : Type} (r : Rs α) (k : α → Prop) (x : Exn → Prop) : Prop := match r with
  | .ok a => k a
  | .ex z => x z
  | .no => False
theorem finx_bind {α β : Type} {r : Rs α} {f : α → Rs β} {k : β → Prop} {x : Exn → Prop} : FinX (r.bind f) k x ↔ FinX r (fun a => FinX (f a) k x) x := by cases r <;> exact Iff.rfl
end Mi
namespace A
open PySem L2 PyProof.Rows So
open Mi (D W Rs Fin FinX fin_bind finx_bind Out Tg Exn)
variable [Tb : Tabs]
section
variable {M : Nat → Bool} {κ : Kd} {x : Exn → Hp → Prop} {t u : TS} {m n : Mi.S} {cl : String → Addr} {E : XK}
end
end A
namespace L2
end L2
namespace L2
end L2
set_option Elab.async false
set_option linter.all false
set_option maxRecDepth 100000
set_option maxHeartbeats 1000000
namespace L2
open PySem PySem.Spec PyProof.Rows
end L2
namespace Mi
open PySem
end Mi
namespace A
open PySem L2 PyProof.Rows So
open Mi (D W Rs Fin FinX fin_bind finx_bind Out Tg Exn)
variable [Tb : Tabs]
section
variable {M : Nat → Bool} {κ : Kd} {t u : TSX} {m n : Mi.S}
end
end A
namespace PySem.W
end PySem.W
set_option Elab.async false
set_option linter.all false
set_option maxRecDepth 100000
set_option maxHeartbeats 1000000
namespace L2
open PySem PySem.Spec PyProof.Rows
open A (excX)
section
variable {X : Cx} {pins : List (Addr × Obj)} {σ : St} {H : Hp} {s : Shared}
end
end L2
namespace Mi
open PySem
end Mi
namespace A
open PySem L2 PyProof.Rows So
open Mi (D W Rs Fin FinX fin_bind finx_bind Out Tg Exn)
variable [Tb : Tabs]
section
variable {K : PySem.W.Frag} {M : Nat → Bool} {b : String → Option Bool}
end
end A
set_option Elab.async false
set_option linter.all false
set_option maxRecDepth 100000
set_option maxHeartbeats 1000000
namespace Mi
open PySem
end Mi
namespace L2
open PySem PySem.Spec PyProof.Rows
section
variable {X : Cx}
end
end L2
namespace A
open PySem L2 PyProof.Rows So
open Mi (D W Rs Fin fin_bind)
variable [Tb : Tabs]
section
variable {K : PySem.W.Frag} {M : Nat → Bool} {ta : TE} {a : Mi.E}
end
end A
set_option Elab.async false
set_option linter.all false
set_option maxRecDepth 100000
set_option maxHeartbeats 1000000
namespace Mi
end Mi
namespace A
open PySem L2 PyProof.Rows So
open Mi (D W Rs Fin fin_bind Out Tg)
variable [Tb : Tabs]
section
variable {M : Nat → Bool} {κ : Kd} {t : TS} {m : Mi.S}
end
end A
set_option Elab.async false
set_option linter.all false
set_option maxRecDepth 100000
set_option maxHeartbeats 1000000
namespace Mi
open PySem
end Mi
namespace L2
open PySem PySem.Spec PyProof.Rows
section
variable {X : Cx}
end
end L2
namespace A
open PySem L2 PyProof.Rows So
open Mi (D W Rs Fin fin_bind)
variable [Tb : Tabs]
section
variable {X : Cx}
end
end A
set_option Elab.async false
set_option linter.all false
set_option maxRecDepth 100000
set_option maxHeartbeats 1000000
namespace Mi
open PySem
end Mi
namespace A
open PySem L2 PyProof.Rows So
open Mi (D W Rs Fin FinX fin_bind finx_bind Out Tg Exn)
variable [Tb : Tabs]
section
variable {M : Nat → Bool} {κ : Kd} {t u : TS} {m n : Mi.S} {cl : String → Addr} {E : XK}
end
end A
set_option Elab.async false
set_option linter.all false
set_option maxRecDepth 100000
set_option maxHeartbeats 1000000
namespace L2
open PySem PySem.Spec PyProof.Rows
section
variable {pr : Program} {wo : World} {Ar : Around} {Ex : Value → Shared → Prop}
end
end L2
namespace Mi
open PySem
end Mi
namespace A
open PySem L2 PyProof.Rows So
open Mi (D W Rs Fin fin_bind Out Tg)
variable [Tb : Tabs]
section
variable {X : Cx} {pos : Pos}
end
section
variable {M : Nat → Bool} {κ : Kd} {te : TE} {a : Mi.E}
end
end A
set_option Elab.async false
set_option linter.all false
set_option maxRecDepth 100000
set_option maxHeartbeats 1000000
namespace Mi
open PySem
end Mi
namespace L2
open PySem PySem.Spec PyProof.Rows
section
variable {pr : Program} {wo : World} {Ar : Around} {Ex : Value → Shared → Prop} {z : Shared}
end
end L2
namespace A
open PySem L2 PyProof.Rows
open Mi (D W Rs Fin fin_bind)
variable [Tb : Tabs]
section
variable {X : Cx} {K : PySem.W.Frag}
end
end A
set_option Elab.async false
set_option linter.all false
set_option maxRecDepth 100000
set_option maxHeartbeats 1000000
namespace Mi
open PySem
end Mi
namespace L2
open PySem PySem.Spec PyProof.Rows
section
variable {X : Cx}
end
end L2
namespace A
open PySem L2 PyProof.Rows
open Mi (D W Rs Fin fin_bind)
variable [Tb : Tabs]
section
variable {M : Nat → Bool}
end
end A
set_option linter.all false
set_option maxRecDepth 100000
namespace Mr
open PySem Mi
def b_refuse_strangers : S :=
  (sFor (iOf (mV 1)) (.n 2)
  (sIf (cB (m2 dNotIn (mV 2) (mV 0)))
  sNever
  sNext))
def m_refuse_strangers : Fn := fnM 2 3 b_refuse_strangers
def b_l_words : S :=
  (sSeq (sSet 2 (mC (.str "etaoinshrdlucmfwypvbgkqjxz")))
  (sSeq (sIf (cB (m2 dLt (m2 dMod (mV 0) (mC (.int 4))) (mC (.int 2))))
  (sSeq (sSet 3 (m2 dJoin (mC (.str "")) (mComp [some 2, some 0, none] (iRange1 (mC (.int 8))) (.n 2) cYes (m2 dIx (mV 0) (m2 dMod (m2 dDiv (mV 1) (m2 dAdd (mC (.int 4)) (m2 dMulI (mC (.int 3)) (mV 2)))) (mC (.int 26)))))))
  (sSeq (sIf (cB (m2 dEq (m2 dMod (mV 0) (mC (.int 4))) (mC (.int 0))))
  (sRet (wD (mComp [some 3, none] (iRange1 (mV 1)) (.n 1) cYes (mSlF dSl (mV 0) none (some (m2 dAdd (mV 1) (mC (.int 1))))))))
  sNext)
  (sRet (wD (mComp [some 3, none] (iRange1 (mV 1)) (.n 1) cYes (mSlF dSl (mV 0) (some (m2 dSub (mC (.int 7)) (mV 1))) none))))))
  sNext)
  (sSeq (sSet 4 (m2 dMod (m2 dDiv (mV 0) (mC (.int 4))) (mC (.int 8))))
  (sSeq (sSet 5 (m2 dJoin (mC (.str "")) (mComp [some 2, some 0, none] (iRange1 (mV 4)) (.n 2) cYes (m2 dIx (mV 0) (m2 dMod (m2 dAdd (m2 dAdd (m2 dDiv (mV 1) (mC (.int 32))) (m2 dMulI (mC (.int 5)) (mV 2))) (m2 dMulI (mV 2) (mV 2))) (mC (.int 26)))))))
  (sSeq (sSet 6 (m2 dMod (m2 dDiv (mV 0) (mC (.int 256))) (m2 dAdd (mV 4) (mC (.int 1)))))
  (sRet (wD (mComp [some 5, some 2, some 6, some 0, none] (iRange1 (mV 1)) (.n 4) cYes (m2 dAdd (m2 dAdd (mSlF dSl (mV 0) none (some (mV 2))) (m2 dIx (mV 1) (m2 dMod (m2 dAdd (m2 dDiv (mV 3) (mC (.int 7))) (m2 dMulI (mC (.int 5)) (mV 4))) (mC (.int 26))))) (mSlF dSl (mV 0) (some (mV 2)) none))))))))))
def m_l_words : Fn := fnN 2 7 b_l_words
def b_l_cell : S :=
  (sSeq (sIf (cB (m2 dLt (mV 1) (mN bLen [(mV 0)])))
  (sRet (wD (m2 dIx (mV 0) (mV 1))))
  sNext)
  (sSeq (sSet 2 (m2 dAdd (mC (.int 30011)) (m2 dMulI (m2 dMulI (mC (.int 709)) (mV 1)) (mV 1))))
  (sSeq (sIf (cB (m2 dGt (mN bLen [(mV 0)]) (mC (.int 0))))
  (sSet 2 (m2 dAdd (mV 2) (m2 dMulI (m2 dMod (m2 dIx (mV 0) (mC (.int 0))) (mC (.int 99991))) (m2 dAdd (m2 dAdd (m2 dMulI (mV 1) (mV 1)) (m2 dMulI (mC (.int 2)) (mV 1))) (mC (.int 5))))))
  sNext)
  (sRet (wD (mV 2))))))
def m_l_cell : Fn := fnM 2 3 b_l_cell
def b_l_ranks_2 : S :=
  (sSeq (sSet 2 (mComp [none] (iRange1 (mV 1)) (.n 0) cYes (mV 0)))
  (sSeq (sSet 3 (mN dLst []))
  (sSeq (sSet 4 (m2 dMod (mV 0) (mC (.int 2147483647))))
  (sSeq (sFor (iRange1 (mV 1)) (.n 5)
  (sSeq (sSet 4 (m2 dMod (m2 dAdd (m2 dAdd (m2 dMulI (mV 4) (mC (.int 48271))) (m2 dMulI (mC (.int 7)) (mV 5))) (mC (.int 1))) (mC (.int 2147483647))))
  (sAppendPop 3 2 (m2 dMod (m2 dDiv (mV 4) (mC (.int 32))) (mN bLen [(mV 2)])))))
  (sRet (wV 3))))))
def m_l_ranks_2 : Fn := fnN 2 6 b_l_ranks_2
def b_l_net_2 : S :=
  (sSeq (sSet 2 (m2 dAdd (mC (.int 1)) (m2 dMod (mCall m_l_cell [(wD (mV 0)), (wD (mC (.int 0)))]) (mV 1))))
  (sSeq (sSet 3 (mCall m_l_words [(wD (mCall m_l_cell [(wD (mV 0)), (wD (mC (.int 1)))])), (wD (mV 2))]))
  (sSeq (sSet 4 (mCall m_l_ranks_2 [(wD (mCall m_l_cell [(wD (mV 0)), (wD (mC (.int 2)))])), (wD (mV 2))]))
  (sSeq (sSet 5 (m2 dIx (mN dLst [(mC (.int 4)), (mC (.int 1)), (mC (.int 2)), (mC (.int 3)), (mC (.int 2)), (mC (.int 3))]) (m2 dMod (mCall m_l_cell [(wD (mV 0)), (wD (mC (.int 3)))]) (mC (.int 6)))))
  (sSeq (sSet 6 (mN dLst []))
  (sSeq (sFor (iRange1 (mV 2)) (.n 7)
  (sFor (iRange1 (mV 2)) (.n 8)
  (sSeq (sSet 9 (mCall m_l_cell [(wD (mV 0)), (wD (m2 dAdd (m2 dAdd (mC (.int 4)) (m2 dDiv (m2 dMulI (mN bMax [(mV 7), (mV 8)]) (m2 dSub (mN bMax [(mV 7), (mV 8)]) (mC (.int 1)))) (mC (.int 2)))) (mN bMin [(mV 7), (mV 8)])))]))
  (sIf (cAnd (cB (m2 dLt (m2 dIx (mV 4) (mV 7)) (m2 dIx (mV 4) (mV 8)))) (cB (m2 dLt (m2 dMod (m2 dDiv (m2 dMod (m2 dMulI (mV 9) (mC (.int 48271))) (mC (.int 2147483647))) (mC (.int 16))) (mC (.int 4))) (mV 5))))
  (sAppend 6 (mN dTup [(m2 dIx (mV 3) (mV 7)), (m2 dIx (mV 3) (mV 8))]))
  sNext))))
  (sRet (wD (mN dTup [(mN bTuple [(mV 3)]), (mN bTuple [(mV 6)])])))))))))
def m_l_net_2 : Fn := fnM 2 10 b_l_net_2
def b_l_alike (F : Fn) : S :=
  (sSeq (sIf (cOr (cB (m1 (bIs ["str"]) (mV 1))) (cB (m1 (bIs ["int"]) (mV 1))))
  (sSeq (sIf (cOr (cB (m2 dNe (m1 (bIs ["bool"]) (mV 0)) (m1 (bIs ["bool"]) (mV 1)))) (cB (m2 dNe (m1 (bIs ["str"]) (mV 0)) (m1 (bIs ["str"]) (mV 1)))))
  (sRet (wD (mC (.bl false))))
  sNext)
  (sRet (wD (mAnd (m1 (bIs ["int", "str"]) (mV 0)) (m2 dEq (mV 0) (mV 1))))))
  sNext)
  (sSeq (sIf (cOr (cB (m2 dNe (m1 (bIs ["list"]) (mV 0)) (m1 (bIs ["list"]) (mV 1)))) (cNot (cB (m1 (bIs ["list", "tuple"]) (mV 0)))))
  (sRet (wD (mC (.bl false))))
  sNext)
  (sSeq (sIf (cB (m2 dNe (mN bLen [(mV 0)]) (mN bLen [(mV 1)])))
  (sRet (wD (mC (.bl false))))
  sNext)
  (sSeq (sFor (iZip2q (mV 0) (mV 1)) (.t [2, 3])
  (sIf (cNot (cB (mCall F [(wD (mV 2)), (wD (mV 3))])))
  (sRet (wD (mC (.bl false))))
  sNext))
  (sRet (wD (mC (.bl true))))))))
def m_l_alike : Nat → Fn
  | 0 => fnZ
  | n + 1 => fnM 2 4 (b_l_alike (m_l_alike n))
def b_l_tied : S :=
  (sRet (wD (mOr (m2 dIn (mN dTup [(mV 1), (mV 2)]) (m2 dIx (mV 0) (mC (.int 1)))) (m2 dIn (mN dTup [(mV 2), (mV 1)]) (m2 dIx (mV 0) (mC (.int 1)))))))
def m_l_tied : Fn := fnM 3 3 b_l_tied
def b_l_flipped : S :=
  (sRet (wD (mComp [some 1, none] (iOf (mV 0)) (.n 1) cYes (m2 dIx (mN dLst [(mV 1), (mN dTup [(m2 dIx (mV 1) (mC (.int 1))), (m2 dIx (mV 1) (mC (.int 0)))])]) (mN bInt [(m2 dEq (mV 1) (mV 0))])))))
def m_l_flipped : Fn := fnN 2 2 b_l_flipped
def b_l_comes_round : S :=
  (sSeq (sSet 2 (mN bList [(mV 0)]))
  (sSeq (sFor (iRange1 (mN bLen [(mV 0)])) (.n 3)
  (sSeq (sSet 4 (mComp [some 2, none, none] (iOf (mV 1)) (.t [1, 2]) (cB (m2 dIn (mV 1) (mV 0))) (mV 2)))
  (sSet 2 (mComp [some 4, none] (iOf (mV 2)) (.n 1) (cB (m2 dIn (mV 1) (mV 0))) (mV 1)))))
  (sRet (wD (m2 dGt (mN bLen [(mV 2)]) (mC (.int 0)))))))
def m_l_comes_round : Fn := fnM 2 5 b_l_comes_round
def b_l_spoiled : S :=
  (sSeq (sIf (cOr (cB (m2 dEq (m2 dMod (mV 2) (mC (.int 3))) (mC (.int 0)))) (cB (m2 dEq (mN bLen [(mV 1)]) (mC (.int 0)))))
  (sSeq (sSet 3 (mN dLst []))
  (sSeq (sFor (iOf (mV 0)) (.n 4)
  (sFor (iOf (mV 0)) (.n 5)
  (sIf (cAnd (cB (m2 dNe (mV 4) (mV 5))) (cAnd (cB (m2 dNotIn (mN dTup [(mV 4), (mV 5)]) (mV 1))) (cB (m2 dNotIn (mN dTup [(mV 5), (mV 4)]) (mV 1)))))
  (sAppend 3 (mN dTup [(mV 4), (mV 5)]))
  sNext)))
  (sSeq (sSet 3 (mComp [some 0, some 1, none] (iOf (mV 3)) (.n 2) (cNot (cB (mCall m_l_comes_round [(wD (mV 0)), (wD (m2 dAdd (mV 1) (mN dLst [(mV 2)])))]))) (mV 2)))
  (sSeq (sIf (cB (m2 dGt (mN bLen [(mV 3)]) (mC (.int 0))))
  (sRet (wD (m2 dAdd (mV 1) (mN dLst [(m2 dIx (mV 3) (m2 dMod (m2 dDiv (mV 2) (mC (.int 3))) (mN bLen [(mV 3)])))]))))
  sNext)
  (sRet (wD (mSlF dSl (mV 1) (some (mC (.int 1))) none)))))))
  sNext)
  (sSeq (sSet 6 (m2 dMod (m2 dDiv (mV 2) (mC (.int 3))) (mN bLen [(mV 1)])))
  (sSeq (sSet 7 (mCall m_l_flipped [(wD (mV 1)), (wD (m2 dIx (mV 1) (mV 6)))]))
  (sSeq (sIf (cOr (cB (m2 dEq (m2 dMod (mV 2) (mC (.int 3))) (mC (.int 1)))) (cB (mCall m_l_comes_round [(wD (mV 0)), (wD (mV 7))])))
  (sRet (wD (m2 dAdd (mSlF dSl (mV 1) none (some (mV 6))) (mSlF dSl (mV 1) (some (m2 dAdd (mV 6) (mC (.int 1)))) none))))
  sNext)
  (sRet (wD (mV 7)))))))
def m_l_spoiled : Fn := fnM 3 8 b_l_spoiled
def b_l_sorted : S :=
  (sSeq (sSet 2 (mN dLst []))
  (sSeq (sFor (iOf (mV 0)) (.n 3)
  (sFor (iOf (mV 0)) (.n 4)
  (sIf (cB (m2 dIn (mN dTup [(mV 3), (mV 4)]) (mV 1)))
  (sAppend 2 (mN dTup [(mV 3), (mV 4)]))
  sNext)))
  (sRet (wD (mN dTup [(mN bTuple [(mV 0)]), (mN bTuple [(mV 2)])])))))
def m_l_sorted : Fn := fnM 2 5 b_l_sorted
def b_l_corners : S :=
  (sSeq (sSet 1 (mN dLst []))
  (sSeq (sFor (iEnumq (m2 dIx (mV 0) (mC (.int 0)))) (.t [2, 3])
  (sFor (iOf (m2 dIx (mV 0) (mC (.int 0)))) (.n 4)
  (sFor (iOf (mSlF dSlT (m2 dIx (mV 0) (mC (.int 0))) (some (m2 dAdd (mV 2) (mC (.int 1)))) none)) (.n 5)
  (sSeq (sSet 6 (mAnd (m2 dIn (mN dTup [(mV 3), (mV 4)]) (m2 dIx (mV 0) (mC (.int 1)))) (m2 dIn (mN dTup [(mV 5), (mV 4)]) (m2 dIx (mV 0) (mC (.int 1))))))
  (sIf (cAnd (cTru (mV 6)) (cNot (cB (mCall m_l_tied [(wD (mV 0)), (wD (mV 3)), (wD (mV 5))]))))
  (sAppend 1 (mN dTup [(mV 3), (mV 4), (mV 5)]))
  sNext)))))
  (sRet (wV 1))))
def m_l_corners : Fn := fnN 1 7 b_l_corners
def b_are_tied : S :=
  (sSeq (sDrop (mCall m_refuse_strangers [(wD (m2 dIx (mV 0) (mC (.int 0)))), (wD (mN dLst [(mV 1), (mV 2)]))]))
  (sRet (wD (mOr (m2 dIn (mN dTup [(mV 1), (mV 2)]) (m2 dIx (mV 0) (mC (.int 1)))) (m2 dIn (mN dTup [(mV 2), (mV 1)]) (m2 dIx (mV 0) (mC (.int 1))))))))
def m_are_tied : Fn := fnM 3 3 b_are_tied
def b_sorted_rows : S :=
  (sRet (wD (mSortK [0] (mV 1) (mComp [some 1, none] (iOf (mV 0)) (.n 1) cYes (m2 dIdx (mV 0) (mV 1))))))
def m_sorted_rows : Fn := fnN 2 2 b_sorted_rows
def b_pairs_of : S :=
  (sSeq (sSet 1 (mN dLst []))
  (sSeq (sFor (iEnumq (mV 0)) (.t [2, 3])
  (sExtend 1 (mComp [some 3, none] (iOf (mSlF dSlT (mV 0) (some (m2 dAdd (mV 2) (mC (.int 1)))) none)) (.n 1) cYes (mN dTup [(mV 0), (mV 1)]))))
  (sRet (wV 1))))
def m_pairs_of : Fn := fnN 1 4 b_pairs_of
def b_ties_of : S :=
  (sRet (wD (mComp [some 0, none, none] (iOf (mCall m_pairs_of [(wD (m2 dIx (mV 0) (mC (.int 0))))])) (.t [1, 2]) (cB (mCall m_are_tied [(wD (mV 0)), (wD (mV 1)), (wD (mV 2))])) (mN dTup [(mV 1), (mV 2)]))))
def m_ties_of : Fn := fnN 1 1 b_ties_of
def b_corners_of : S :=
  (sSeq (sPut (.t [1, 2]) (mV 0))
  (sSeq (sSet 3 (mN dLst []))
  (sSeq (sFor (iOf (mCall m_pairs_of [(wD (mV 1))])) (.t [4, 5])
  (sIf (cNot (cB (mCall m_are_tied [(wD (mV 0)), (wD (mV 4)), (wD (mV 5))])))
  (sSeq (sSet 6 (mComp [some 2, some 4, some 5, none] (iOf (mV 1)) (.n 3) (cAnd (cB (m2 dIn (mN dTup [(mV 1), (mV 3)]) (mV 0))) (cB (m2 dIn (mN dTup [(mV 2), (mV 3)]) (mV 0)))) (mV 3)))
  (sExtend 3 (mComp [some 4, some 5, none] (iOf (mV 6)) (.n 2) cYes (mN dTup [(mV 0), (mV 2), (mV 1)]))))
  sNext))
  (sRet (wD (mCall m_sorted_rows [(wD (mV 1)), (wD (mV 3))]))))))
def m_corners_of : Fn := fnN 1 7 b_corners_of
def b_l_ties : S :=
  (sSeq (sSet 1 (mN dLst []))
  (sSeq (sFor (iRange1 (mN bLen [(m2 dIx (mV 0) (mC (.int 0)))])) (.n 2)
  (sSet 1 (m2 dAdd (mV 1) (mComp [some 2, some 0, none] (iOf (mSlF dSlT (m2 dIx (mV 0) (mC (.int 0))) (some (m2 dAdd (mV 2) (mC (.int 1)))) none)) (.n 2) (cB (mCall m_l_tied [(wD (mV 1)), (wD (m2 dIx (m2 dIx (mV 1) (mC (.int 0))) (mV 0))), (wD (mV 2))])) (mN dTup [(m2 dIx (m2 dIx (mV 1) (mC (.int 0))) (mV 0)), (mV 2)])))))
  (sRet (wD (mV 1)))))
def m_l_ties : Fn := fnM 1 3 b_l_ties
def b_l_right_2 : S :=
  (sSeq (sIf (cAnd (cB (m2 dEq (mV 1) (mC (.int 0)))) (cNot (cB (mCall (m_l_alike 3) [(wD (mCall m_corners_of [(wD (mV 0))])), (wD (mCall m_l_corners [(wD (mV 0))]))]))))
  (sRet (wD (mC (.bl false))))
  sNext)
  (sSeq (sIf (cNot (cB (mCall (m_l_alike 3) [(wD (mCall m_ties_of [(wD (mV 0))])), (wD (mCall m_l_ties [(wD (mV 0))]))])))
  (sRet (wD (mC (.bl false))))
  sNext)
  (sRet (wD (mCall (m_l_alike 3) [(wD (mCall m_corners_of [(wD (mV 0))])), (wD (mCall m_l_corners [(wD (mV 0))]))])))))
def m_l_right_2 : Fn := fnM 2 2 b_l_right_2
def b_law_k20 : S :=
  (sSeq (sSet 1 (mCall m_l_net_2 [(wD (mV 0)), (wD (mC (.int 8)))]))
  (sSeq (sSet 2 (mCall m_l_cell [(wD (mV 0)), (wD (mC (.int 32)))]))
  (sSeq (sSet 3 (mCall m_l_sorted [(wD (m2 dIx (mV 1) (mC (.int 0)))), (wD (mCall m_l_spoiled [(wD (m2 dIx (mV 1) (mC (.int 0)))), (wD (mN bList [(m2 dIx (mV 1) (mC (.int 1)))])), (wD (m2 dDiv (mV 2) (mC (.int 2))))]))]))
  (sSeq (sIf (cNot (cB (mCall m_l_right_2 [(wD (mV 1)), (wD (m2 dMod (mV 2) (mC (.int 2))))])))
  (sRet (wD (mC (.bl false))))
  sNext)
  (sSeq (sSet 4 (mCall m_ties_of [(wD (mV 1))]))
  (sSeq (sSet 5 (mCall m_corners_of [(wD (mV 1))]))
  (sSeq (sSet 6 (mN dLst [(mN bList [(mV 4)]), (mN bList [(mV 5)])]))
  (sSeq (sIf (cOr (cNot (cB (mCall m_l_right_2 [(wD (mV 3)), (wD (m2 dSub (mC (.int 1)) (m2 dMod (mV 2) (mC (.int 2)))))]))) (cB (mI (m2 dNe (mN dLst [(mV 4), (mV 5)]) (mV 6)))))
  (sRet (wD (mC (.bl false))))
  sNext)
  (sSeq (sClear 4)
  (sSeq (sClear 5)
  (sRet (wD (mCall m_l_right_2 [(wD (mV 1)), (wD (mC (.int 1)))])))))))))))))
def m_law_k20 : Fn := fnM 1 7 b_law_k20
end Mr
set_option Elab.async false
set_option linter.all false
set_option maxRecDepth 100000
set_option maxHeartbeats 4000000
namespace Mk20
open PySem L2 PyProof.Rows A
open Mr
def lamQ (x : Str) : Str := x ++ ".<locals>." ++ "<lambda>"
def top (i : Nat) : Stmt := PySem.Challenge.pw_arrowfind_k20_ties_and_corners.main.body.getD i (.Pass ⟨0, 0, 0, 0⟩)
structure Txt (mg : Str → Option Value) : Prop where
  b_len : mg "len" = none
  b_range : mg "range" = none
  b_max : mg "max" = none
  b_min : mg "min" = none
  b_tuple : mg "tuple" = none
  b_list : mg "list" = none
  b_isinstance : mg "isinstance" = none
  b_all : mg "all" = none
  b_any : mg "any" = none
  b_bool : mg "bool" = none
  b_str : mg "str" = none
  b_int : mg "int" = none
  b_zip : mg "zip" = none
  b_enumerate : mg "enumerate" = none
  b_sorted : mg "sorted" = none
  b_reversed : mg "reversed" = none
  b_set : mg "set" = none
section
variable [Tb : Tabs]
end
section
variable {P : Program} {w : World} {K : PySem.W.Frag} {mg : Str → Option Value} {base : Heap} [Tb : Tabs]
abbrev s_refuse_strangers : Stmt := top 6
theorem sc_refuse_strangers : FnScope ["names", "asked", "name"] ["names", "asked"] (defScope s_refuse_strangers) := ⟨rfl, rfl, rfl, by decide +kernel, rfl, by decide +kernel, by decide +kernel⟩
theorem ok_refuse_strangers {f : Addr} {fd : FuncData} (F : Fun K "refuse_strangers" "refuse_strangers" s_refuse_strangers f fd) (T : Txt mg)  : FnOk P w K mg base CX0 1 f fd ["names", "asked"] (spD m_refuse_strangers) :=
  F.ok sc_refuse_strangers (fun vs H Q E h => lenD h) (fun cdv A outer s H vs Q E hr h => by
    have nd := sc_refuse_strangers.nd
    have hu := hu_of hr
    have hu64 := hr.units
    exact ⟨_, (pss_one (ps_for PassesOwn.never rfl (pi_seq (pv 1)) (pg_name (i := 2) nd rfl (Or.inl rfl))
  (pss_one (ps_if (pt_cmpR (op_notInD hu64) (pv 2) (pv 0) rfl)
  (pss_one ps_never)
  pss_nil)))),
    _root_.A.runD (N := ["names", "asked", "name"]) (M := Mo []) (as_for (K := K) (tg := (.n 2)) (ai_seq (a_var 1 rfl)) (by decide)
  (as_if (at_test (AE.p (a_bin b_notin (AE.p (a_var 2 rfl)) (AE.p (a_var 0 rfl)))))
  as_never
  as_next)) (by decide) h⟩)
abbrev s_are_tied : Stmt := top 4
theorem sc_are_tied : FnScope ["net", "one", "other"] ["net", "one", "other"] (defScope s_are_tied) := ⟨rfl, rfl, rfl, by decide +kernel, rfl, by decide +kernel, by decide +kernel⟩
theorem ok_are_tied {f : Addr} {fd : FuncData} (F : Fun K "are_tied" "are_tied" s_are_tied f fd) (T : Txt mg) (C_refuse_strangers : Cal P w K mg base CX0 1 "refuse_strangers" ["names", "asked"] (spD m_refuse_strangers)) : FnOk P w K mg base CX0 2 f fd ["net", "one", "other"] (spD m_are_tied) :=
  F.ok sc_are_tied (fun vs H Q E h => lenD h) (fun cdv A outer s H vs Q E hr h => by
    have nd := sc_are_tied.nd
    have hu := hu_of hr
    have hu64 := hr.units
    have hr_refuse_strangers := hr.mono (show 1 ≤ _ by decide)
    exact ⟨_, (pss_cons (ps_expr (pe_cal C_refuse_strangers hr_refuse_strangers rfl pass0 (pa_cons (pe_ix ix_seq (pv 0) pe_int (fun _ _ => rfl)) (pa_cons (pe_lst (pa_cons (pv 1) (pa_cons (pv 2) pa_nil))) pa_nil))))
  (pss_one (ps_ret (pe_or (pe_cmpR (op_inU hu64) (pe_tup (pa_cons (pv 1) (pa_cons (pv 2) pa_nil))) (pe_ix ix_seq (pv 0) pe_int (fun _ _ => rfl)) rfl) (pe_one (pe_cmpR (op_inU hu64) (pe_tup (pa_cons (pv 2) (pa_cons (pv 1) pa_nil))) (pe_ix ix_seq (pv 0) pe_int (fun _ _ => rfl)) rfl)))))),
    _root_.A.runD (N := ["net", "one", "other"]) (M := Mo []) (as_seq (as_drop (AE.p (a_call (aw_cons (AE.w (a_bin b_ix (AE.p (a_var 0 rfl)) (AE.p a_int))) (aw_cons (AW.nv (AE.w (a_lst (aa_cons (a_var 1 rfl) (aa_cons (a_var 2 rfl) aa_nil))))) aw_nil)))))
  (as_ret (AE.w (a_or (AE.p (a_bin b_in (AE.p (a_tup (aa_cons (a_var 1 rfl) (aa_cons (a_var 2 rfl) aa_nil)))) (AE.p (a_bin b_ix (AE.p (a_var 0 rfl)) (AE.p a_int))))) (a_bin b_in (AE.p (a_tup (aa_cons (a_var 2 rfl) (aa_cons (a_var 1 rfl) aa_nil)))) (AE.p (a_bin b_ix (AE.p (a_var 0 rfl)) (AE.p a_int)))))))) (by decide) h⟩)
abbrev s_pairs_of : Stmt := top 10
theorem sc_pairs_of : FnScope ["names", "pairs", "place", "one"] ["names"] (defScope s_pairs_of) := ⟨rfl, rfl, rfl, by decide +kernel, rfl, by decide +kernel, by decide +kernel⟩
theorem ok_pairs_of {f : Addr} {fd : FuncData} (F : Fun K "pairs_of" "pairs_of" s_pairs_of f fd) (T : Txt mg)  : FnOk P w K mg base CX0 1 f fd ["names"] (spN m_pairs_of) :=
  F.ok sc_pairs_of (fun vs H Q E h => lenN h) (fun cdv A outer s H vs Q E hr h => by
    have nd := sc_pairs_of.nd
    have hu := hu_of hr
    have hu64 := hr.units
    exact ⟨_, (pss_cons (ps_set (i := 1) nd rfl (Or.inl rfl) (pe_lst pa_nil))
  (pss_cons (ps_for PassesOwn.never rfl (Zp.pi_enumq rfl T.b_enumerate (pv 0)) (pg_tup rfl (pgs_cons (pg_name (i := 2) nd rfl (Or.inl rfl)) (pgs_cons (pg_name (i := 3) nd rfl (Or.inr rfl)) pgs_nil)))
  (pss_one (ps_expr (pe_bm PySem.F.plainAttrs_list PySem.F.slot_list_extend PySem.F.type_list_extend mt_extendS (pv 1) (pa_cons (pe_comp (N' := ["one", "other"]) (ρ := [some 3, none]) rfl (CompSc.of rfl (by kernel_rfl)) (pi_seq (pe_slice sl_Q (pv 0) (po_some (pe_op op_addU (pv 2) pe_int)) po_none)) (fun _ _ _ _ _ => (pg_name (i := 1) (by show (["one", "other"] : List Str).Nodup; decide +kernel) rfl (Or.inl rfl))) (gk_name rfl) (fun _ _ _ _ _ => pts_nil) (fun _ _ _ _ _ => (pe_tup (pa_cons (pv 0) (pa_cons (pv 1) pa_nil))))) pa_nil)))))
  (pss_one (ps_ret (pv 1))))),
    _root_.A.runN (N := ["names", "pairs", "place", "one"]) (M := Mo [1]) (as_seq (as_new 1 rfl (a_lst aa_nil))
  (as_seq (as_for (K := K) (tg := (.t [2, 3])) (Zp.ai_enumq (a_var 0 rfl)) (by decide)
  (as_extend 1 rfl (AE.nv (a_comp (K := K) (tg := (.n 1)) (ai_seqC (AE.p (a_sl b_slQ (AE.p (a_var 0 rfl)) (ao_some (AE.p (a_bin b_add (AE.p (a_var 2 rfl)) (AE.p a_int)))) ao_none))) (by decide) at_yes (a_tup (aa_cons (a_var 0 rfl) (aa_cons (a_var 1 rfl) aa_nil)))))))
  (as_retOwn 1 rfl))) (by decide) h⟩)
abbrev s_ties_of : Stmt := top 8
theorem sc_ties_of : FnScope ["net"] ["net"] (defScope s_ties_of) := ⟨rfl, rfl, rfl, by decide +kernel, rfl, by decide +kernel, by decide +kernel⟩
theorem ok_ties_of {f : Addr} {fd : FuncData} (F : Fun K "ties_of" "ties_of" s_ties_of f fd) (T : Txt mg) (C_are_tied : Cal P w K mg base CX0 2 "are_tied" ["net", "one", "other"] (spD m_are_tied)) (C_pairs_of : Cal P w K mg base CX0 1 "pairs_of" ["names"] (spN m_pairs_of)) : FnOk P w K mg base CX0 3 f fd ["net"] (spN m_ties_of) :=
  F.ok sc_ties_of (fun vs H Q E h => lenN h) (fun cdv A outer s H vs Q E hr h => by
    have nd := sc_ties_of.nd
    have hu := hu_of hr
    have hu64 := hr.units
    have hr_are_tied := hr.mono (show 2 ≤ _ by decide)
    have hr_pairs_of := hr.mono (show 1 ≤ _ by decide)
    exact ⟨_, (pss_one (ps_ret (pe_comp (N' := ["net", "one", "other"]) (ρ := [some 0, none, none]) rfl (CompSc.of rfl (by kernel_rfl)) (pi_seq (pe_cal C_pairs_of hr_pairs_of rfl pass0 (pa_cons (pe_ix ix_seq (pv 0) pe_int (fun _ _ => rfl)) pa_nil))) (fun _ _ _ _ _ => (pg_tup rfl (pgs_cons (pg_name (i := 1) (by show (["net", "one", "other"] : List Str).Nodup; decide +kernel) rfl (Or.inl rfl)) (pgs_cons (pg_name (i := 2) (by show (["net", "one", "other"] : List Str).Nodup; decide +kernel) rfl (Or.inl rfl)) pgs_nil)))) (gk_tup (gk_cons1 rfl (gk_cons1 rfl gk_nil gm_nil) (gm_cons gm_nil))) (fun _ _ _ _ _ => (pts_one (pt_val (pe_cal C_are_tied hr_are_tied rfl pass0 (pa_cons (pv 0) (pa_cons (pv 1) (pa_cons (pv 2) pa_nil))))))) (fun _ _ _ _ _ => (pe_tup (pa_cons (pv 1) (pa_cons (pv 2) pa_nil))))))),
    _root_.A.runN (N := ["net"]) (M := Mo []) (as_retN (AE.w (a_comp (K := K) (tg := (.t [1, 2])) (ai_seqC (AE.np (a_callN (aw_cons (AE.w (a_bin b_ix (AE.p (a_var 0 rfl)) (AE.p a_int))) aw_nil)))) (by decide) (at_b (AE.p (a_call (aw_cons (AE.w (a_var 0 rfl)) (aw_cons (AE.w (a_var 1 rfl)) (aw_cons (AE.w (a_var 2 rfl)) aw_nil)))))) (a_tup (aa_cons (a_var 1 rfl) (aa_cons (a_var 2 rfl) aa_nil)))))) (by decide) h⟩)
abbrev s_sorted_rows : Stmt := top 5
theorem sc_sorted_rows : FnScope ["names", "rows"] ["names", "rows"] (defScope s_sorted_rows) := ⟨rfl, rfl, rfl, by decide +kernel, rfl, by decide +kernel, by decide +kernel⟩
theorem ok_sorted_rows {f : Addr} {fd : FuncData} {cc TT : Addr} (F : FunC K "sorted_rows" "sorted_rows" s_sorted_rows cc f fd) (T : Txt mg) (hB : BM mg base) (hC : PySem.W.CodeHd base cc TT) (hTb : (TT, lamQ "sorted_rows") ∈ Tb.l)  : FnOk P w K mg base CX0 4 f fd ["names", "rows"] (spN m_sorted_rows) :=
  F.ok sc_sorted_rows (fun vs H Q E h => lenN h) (fun A outer s H vs Q E hr h => by
    have nd := sc_sorted_rows.nd
    have hu := hu_of hr
    have hu64 := hr.units
    exact ⟨_, (pss_one (ps_ret (pe_sortK (x := "row") (ρ := [0]) (N' := ["row", "names"]) (k := 0) (qual := lamQ "sorted_rows") rfl T.b_sorted (pv 1) (hr.mono (by decide)) rfl hC hB rfl rfl rfl (LamSc.one rfl rfl rfl rfl rfl rfl rfl rfl) (fun pm c' ctv u => rfl) (fun A f c' s H env hrl he => by subst he; exact (pe_comp (N' := ["names", "name"]) (ρ := [some 1, none]) rfl (CompSc.of rfl (by kernel_rfl)) (pi_seq (pv 0)) (fun _ _ _ _ _ => (pg_name (i := 1) (by show (["names", "name"] : List Str).Nodup; decide +kernel) rfl (Or.inl rfl))) (gk_name rfl) (fun _ _ _ _ _ => pts_nil) (fun _ _ _ _ _ => (pe_bm2 PySem.F.plainAttrs_tuple PySem.F.slot_tuple_index PySem.F.type_tuple_index mt_iT PySem.F.plainAttrs_list PySem.F.slot_list_index PySem.F.type_list_index mt_iL (pv 0) (pa_cons (pv 1) pa_nil)))))))),
    _root_.A.runN (N := ["names", "rows"]) (M := Mo []) (as_retN (AE.w (a_sortK hTb (by decide) (AE.p (a_var 1 rfl)) (a_comp (K := K) (tg := (.n 1)) (ai_seqC (AE.p (a_var 0 rfl))) (by decide) at_yes (a_idx (AE.p (a_var 0 rfl)) (AE.p (a_var 1 rfl))))))) (by decide) h⟩)
abbrev s_corners_of : Stmt := top 9
theorem sc_corners_of : FnScope ["net", "names", "arrows", "corners", "one", "other", "middles"] ["net"] (defScope s_corners_of) := ⟨rfl, rfl, rfl, by decide +kernel, rfl, by decide +kernel, by decide +kernel⟩
theorem ok_corners_of {f : Addr} {fd : FuncData} (F : Fun K "corners_of" "corners_of" s_corners_of f fd) (T : Txt mg) (C_are_tied : Cal P w K mg base CX0 2 "are_tied" ["net", "one", "other"] (spD m_are_tied)) (C_sorted_rows : Cal P w K mg base CX0 4 "sorted_rows" ["names", "rows"] (spN m_sorted_rows)) (C_pairs_of : Cal P w K mg base CX0 1 "pairs_of" ["names"] (spN m_pairs_of)) : FnOk P w K mg base CX0 5 f fd ["net"] (spN m_corners_of) :=
  F.ok sc_corners_of (fun vs H Q E h => lenN h) (fun cdv A outer s H vs Q E hr h => by
    have nd := sc_corners_of.nd
    have hu := hu_of hr
    have hu64 := hr.units
    have hr_are_tied := hr.mono (show 2 ≤ _ by decide)
    have hr_sorted_rows := hr.mono (show 4 ≤ _ by decide)
    have hr_pairs_of := hr.mono (show 1 ≤ _ by decide)
    exact ⟨_, (pss_cons (ps_asg (pv 0) (pg_tup rfl (pgs_cons (pg_name (i := 1) nd rfl (Or.inl rfl)) (pgs_cons (pg_name (i := 2) nd rfl (Or.inr rfl)) pgs_nil))))
  (pss_cons (ps_set (i := 3) nd rfl (Or.inl rfl) (pe_lst pa_nil))
  (pss_cons (ps_for PassesOwn.never rfl (pi_seq (pe_cal C_pairs_of hr_pairs_of rfl pass0 (pa_cons (pv 1) pa_nil))) (pg_tup rfl (pgs_cons (pg_name (i := 4) nd rfl (Or.inr rfl)) (pgs_cons (pg_name (i := 5) nd rfl (Or.inr rfl)) pgs_nil)))
  (pss_one (ps_if (pt_not (pt_val (pe_cal C_are_tied hr_are_tied rfl pass0 (pa_cons (pv 0) (pa_cons (pv 4) (pa_cons (pv 5) pa_nil))))))
  (pss_cons (ps_setC (i := 6) (N' := ["arrows", "one", "other", "name"]) (ρ := [some 2, some 4, some 5, none]) rfl nd rfl (Or.inl rfl) (CompSc.of rfl (by kernel_rfl)) (pi_seq (pv 1)) (fun _ _ _ _ _ => (pg_name (i := 3) (by show (["arrows", "one", "other", "name"] : List Str).Nodup; decide +kernel) rfl (Or.inl rfl))) (gk_name rfl) (fun _ _ _ _ _ => (pts_one (PW.pt (pw_and (pt_cmpR (op_inU hu64) (pe_tup (pa_cons (pv 1) (pa_cons (pv 3) pa_nil))) (pv 0) rfl) (pw_and1 (pt_cmpR (op_inU hu64) (pe_tup (pa_cons (pv 2) (pa_cons (pv 3) pa_nil))) (pv 0) rfl)))))) (fun _ _ _ _ _ => (pv 3)))
  (pss_one (ps_expr (pe_bm PySem.F.plainAttrs_list PySem.F.slot_list_extend PySem.F.type_list_extend mt_extendS (pv 3) (pa_cons (pe_comp (N' := ["one", "other", "middle"]) (ρ := [some 4, some 5, none]) rfl (CompSc.of rfl (by kernel_rfl)) (pi_seq (pv 6)) (fun _ _ _ _ _ => (pg_name (i := 2) (by show (["one", "other", "middle"] : List Str).Nodup; decide +kernel) rfl (Or.inl rfl))) (gk_name rfl) (fun _ _ _ _ _ => pts_nil) (fun _ _ _ _ _ => (pe_tup (pa_cons (pv 0) (pa_cons (pv 2) (pa_cons (pv 1) pa_nil)))))) pa_nil)))))
  pss_nil)))
  (pss_one (ps_ret (pe_cal C_sorted_rows hr_sorted_rows rfl pass0 (pa_cons (pv 1) (pa_cons (pv 3) pa_nil)))))))),
    _root_.A.runN (N := ["net", "names", "arrows", "corners", "one", "other", "middles"]) (M := Mo [3]) (as_seq (as_put (K := K) (.t [1, 2]) (by decide) (a_var 0 rfl))
  (as_seq (as_new 3 rfl (a_lst aa_nil))
  (as_seq (as_for (K := K) (tg := (.t [4, 5])) (ai_seq (AE.nv (a_callN (aw_cons (AE.w (a_var 1 rfl)) aw_nil)))) (by decide)
  (as_if (at_not (at_b (AE.p (a_call (aw_cons (AE.w (a_var 0 rfl)) (aw_cons (AE.w (a_var 4 rfl)) (aw_cons (AE.w (a_var 5 rfl)) aw_nil)))))))
  (as_seq (as_set 6 rfl (AE.nv (a_comp (K := K) (tg := (.n 3)) (ai_seqC (AE.p (a_var 1 rfl))) (by decide) (at_and (at_test (AE.p (a_bin b_in (AE.p (a_tup (aa_cons (a_var 1 rfl) (aa_cons (a_var 3 rfl) aa_nil)))) (AE.p (a_var 0 rfl))))) (at_test (AE.p (a_bin b_in (AE.p (a_tup (aa_cons (a_var 2 rfl) (aa_cons (a_var 3 rfl) aa_nil)))) (AE.p (a_var 0 rfl)))))) (a_var 3 rfl))))
  (as_extend 3 rfl (AE.nv (a_comp (K := K) (tg := (.n 2)) (ai_seqC (AE.p (a_var 6 rfl))) (by decide) at_yes (a_tup (aa_cons (a_var 0 rfl) (aa_cons (a_var 2 rfl) (aa_cons (a_var 1 rfl) aa_nil))))))))
  as_next))
  (as_retPub 3 rfl (AE.w (a_callN (aw_cons (AE.w (a_var 1 rfl)) (aw_cons (AE.w (a_var 3 rfl)) aw_nil)))))))) (by decide) h⟩)
abbrev s_l_cell : Stmt := top 12
theorem sc_l_cell : FnScope ["_law_script", "_law_k", "_law_spare"] ["_law_script", "_law_k"] (defScope s_l_cell) := ⟨rfl, rfl, rfl, by decide +kernel, rfl, by decide +kernel, by decide +kernel⟩
theorem ok_l_cell {f : Addr} {fd : FuncData} (F : Fun K "_law_cell" "_law_cell" s_l_cell f fd) (T : Txt mg)  : FnOk P w K mg base CX0 1 f fd ["_law_script", "_law_k"] (spD m_l_cell) :=
  F.ok sc_l_cell (fun vs H Q E h => lenD h) (fun cdv A outer s H vs Q E hr h => by
    have nd := sc_l_cell.nd
    have hu := hu_of hr
    have hu64 := hr.units
    exact ⟨_, (pss_cons (ps_if (pt_cmpR op_ltU (pv 1) (pe_callB call_lenU rfl T.b_len PySem.boot_len (pa_cons (pv 0) pa_nil)) (nomark _))
  (pss_one (ps_ret (pe_ix ix_seq (pv 0) (pv 1) (fun _ _ => rfl))))
  pss_nil)
  (pss_cons (ps_set (i := 2) nd rfl (Or.inl rfl) (pe_op op_addU pe_int (pe_op op_mul (pe_op op_mul pe_int (pv 1)) (pv 1))))
  (pss_cons (ps_if (pt_cmpR op_gtU (pe_callB call_lenU rfl T.b_len PySem.boot_len (pa_cons (pv 0) pa_nil)) pe_int (nomark _))
  (pss_one (ps_set (i := 2) nd rfl (Or.inl rfl) (pe_op op_addU (pv 2) (pe_op op_mul (pe_op op_mod (pe_ix ix_seq (pv 0) pe_int (fun _ _ => rfl)) pe_int) (pe_op op_addU (pe_op op_addU (pe_op op_mul (pv 1) (pv 1)) (pe_op op_mul pe_int (pv 1))) pe_int)))))
  pss_nil)
  (pss_one (ps_ret (pv 2)))))),
    _root_.A.runD (N := ["_law_script", "_law_k", "_law_spare"]) (M := Mo []) (as_seq (as_if (at_test (AE.p (a_bin b_lt (AE.p (a_var 1 rfl)) (AE.p (a_cb b_len (aa_cons (AE.p (a_var 0 rfl)) aa_nil))))))
  (as_ret (AE.w (a_bin b_ix (AE.p (a_var 0 rfl)) (AE.p (a_var 1 rfl)))))
  as_next)
  (as_seq (as_set 2 rfl (a_bin b_add (AE.p a_int) (AE.p (a_bin b_mul (AE.p (a_bin b_mul (AE.p a_int) (AE.p (a_var 1 rfl)))) (AE.p (a_var 1 rfl))))))
  (as_seq (as_if (at_test (AE.p (a_bin b_gt (AE.p (a_cb b_len (aa_cons (AE.p (a_var 0 rfl)) aa_nil))) (AE.p a_int))))
  (as_set 2 rfl (a_bin b_add (AE.p (a_var 2 rfl)) (AE.p (a_bin b_mul (AE.p (a_bin b_mod (AE.p (a_bin b_ix (AE.p (a_var 0 rfl)) (AE.p a_int))) (AE.p a_int))) (AE.p (a_bin b_add (AE.p (a_bin b_add (AE.p (a_bin b_mul (AE.p (a_var 1 rfl)) (AE.p (a_var 1 rfl)))) (AE.p (a_bin b_mul (AE.p a_int) (AE.p (a_var 1 rfl)))))) (AE.p a_int)))))))
  as_next)
  (as_ret (AE.w (a_var 2 rfl)))))) (by decide) h⟩)
abbrev s_l_words : Stmt := top 13
theorem sc_l_words : FnScope ["_law_cell_here", "_law_many", "_law_letters", "_law_long", "_law_size", "_law_stem", "_law_at"] ["_law_cell_here", "_law_many"] (defScope s_l_words) := ⟨rfl, rfl, rfl, by decide +kernel, rfl, by decide +kernel, by decide +kernel⟩
theorem ok_l_words {f : Addr} {fd : FuncData} (F : Fun K "_law_words" "_law_words" s_l_words f fd) (T : Txt mg)  : FnOk P w K mg base CX0 1 f fd ["_law_cell_here", "_law_many"] (spN m_l_words) :=
  F.ok sc_l_words (fun vs H Q E h => lenN h) (fun cdv A outer s H vs Q E hr h => by
    have nd := sc_l_words.nd
    have hu := hu_of hr
    have hu64 := hr.units
    exact ⟨_, (pss_cons (ps_set (i := 2) nd rfl (Or.inr rfl) pe_str)
  (pss_cons (ps_if (pt_cmpR op_ltU (pe_op op_mod (pv 0) pe_int) pe_int (nomark _))
  (pss_cons (ps_set (i := 3) nd rfl (Or.inr rfl) (pe_bm PySem.F.plainAttrs_str PySem.F.slot_str_join PySem.F.type_str_join mt_join pe_str (pa_cons (pe_comp (N' := ["_law_letters", "_law_cell_here", "_law_k"]) (ρ := [some 2, some 0, none]) rfl (CompSc.of rfl (by kernel_rfl)) (pi_range1 rfl T.b_range (pa_cons pe_int pa_nil)) (fun _ _ _ _ _ => (pg_name (i := 2) (by show (["_law_letters", "_law_cell_here", "_law_k"] : List Str).Nodup; decide +kernel) rfl (Or.inl rfl))) (gk_name rfl) (fun _ _ _ _ _ => pts_nil) (fun _ _ _ _ _ => (pe_ix ix_seq (pv 0) (pe_op op_mod (pe_op op_fdivB (pv 1) (pe_op op_addU pe_int (pe_op op_mul pe_int (pv 2)))) pe_int) (fun _ _ => rfl)))) pa_nil)))
  (pss_cons (ps_if (pt_cmpR (op_eqD hu64) (pe_op op_mod (pv 0) pe_int) pe_int (nomark _))
  (pss_one (ps_ret (pe_comp (N' := ["_law_long", "_law_k"]) (ρ := [some 3, none]) rfl (CompSc.of rfl (by kernel_rfl)) (pi_range1 rfl T.b_range (pa_cons (pv 1) pa_nil)) (fun _ _ _ _ _ => (pg_name (i := 1) (by show (["_law_long", "_law_k"] : List Str).Nodup; decide +kernel) rfl (Or.inl rfl))) (gk_name rfl) (fun _ _ _ _ _ => pts_nil) (fun _ _ _ _ _ => (pe_slice sl_U (pv 0) po_none (po_some (pe_op op_addU (pv 1) pe_int)))))))
  pss_nil)
  (pss_one (ps_ret (pe_comp (N' := ["_law_long", "_law_k"]) (ρ := [some 3, none]) rfl (CompSc.of rfl (by kernel_rfl)) (pi_range1 rfl T.b_range (pa_cons (pv 1) pa_nil)) (fun _ _ _ _ _ => (pg_name (i := 1) (by show (["_law_long", "_law_k"] : List Str).Nodup; decide +kernel) rfl (Or.inl rfl))) (gk_name rfl) (fun _ _ _ _ _ => pts_nil) (fun _ _ _ _ _ => (pe_slice sl_U (pv 0) (po_some (pe_op op_sub pe_int (pv 1))) po_none)))))))
  pss_nil)
  (pss_cons (ps_set (i := 4) nd rfl (Or.inl rfl) (pe_op op_mod (pe_op op_fdivB (pv 0) pe_int) pe_int))
  (pss_cons (ps_set (i := 5) nd rfl (Or.inr rfl) (pe_bm PySem.F.plainAttrs_str PySem.F.slot_str_join PySem.F.type_str_join mt_join pe_str (pa_cons (pe_comp (N' := ["_law_letters", "_law_cell_here", "_law_k"]) (ρ := [some 2, some 0, none]) rfl (CompSc.of rfl (by kernel_rfl)) (pi_range1 rfl T.b_range (pa_cons (pv 4) pa_nil)) (fun _ _ _ _ _ => (pg_name (i := 2) (by show (["_law_letters", "_law_cell_here", "_law_k"] : List Str).Nodup; decide +kernel) rfl (Or.inl rfl))) (gk_name rfl) (fun _ _ _ _ _ => pts_nil) (fun _ _ _ _ _ => (pe_ix ix_seq (pv 0) (pe_op op_mod (pe_op op_addU (pe_op op_addU (pe_op op_fdivB (pv 1) pe_int) (pe_op op_mul pe_int (pv 2))) (pe_op op_mul (pv 2) (pv 2))) pe_int) (fun _ _ => rfl)))) pa_nil)))
  (pss_cons (ps_set (i := 6) nd rfl (Or.inr rfl) (pe_op op_mod (pe_op op_fdivB (pv 0) pe_int) (pe_op op_addU (pv 4) pe_int)))
  (pss_one (ps_ret (pe_comp (N' := ["_law_stem", "_law_letters", "_law_at", "_law_cell_here", "_law_k"]) (ρ := [some 5, some 2, some 6, some 0, none]) rfl (CompSc.of rfl (by kernel_rfl)) (pi_range1 rfl T.b_range (pa_cons (pv 1) pa_nil)) (fun _ _ _ _ _ => (pg_name (i := 4) (by show (["_law_stem", "_law_letters", "_law_at", "_law_cell_here", "_law_k"] : List Str).Nodup; decide +kernel) rfl (Or.inl rfl))) (gk_name rfl) (fun _ _ _ _ _ => pts_nil) (fun _ _ _ _ _ => (pe_op op_addU (pe_op op_addU (pe_slice sl_U (pv 0) po_none (po_some (pv 2))) (pe_ix ix_seq (pv 1) (pe_op op_mod (pe_op op_addU (pe_op op_fdivB (pv 3) pe_int) (pe_op op_mul pe_int (pv 4))) pe_int) (fun _ _ => rfl))) (pe_slice sl_U (pv 0) (po_some (pv 2)) po_none))))))))))),
    _root_.A.runN (N := ["_law_cell_here", "_law_many", "_law_letters", "_law_long", "_law_size", "_law_stem", "_law_at"]) (M := Mo []) (as_seq (as_set 2 rfl a_str)
  (as_seq (as_if (at_test (AE.p (a_bin b_lt (AE.p (a_bin b_mod (AE.p (a_var 0 rfl)) (AE.p a_int))) (AE.p a_int))))
  (as_seq (as_set 3 rfl (a_join (AE.p a_str) (AE.np (a_comp (K := K) (tg := (.n 2)) (AIf.c (ai_range1 (AE.p a_int))) (by decide) at_yes (a_bin b_ix (AE.p (a_var 0 rfl)) (AE.p (a_bin b_mod (AE.p (a_bin b_div (AE.p (a_var 1 rfl)) (AE.p (a_bin b_add (AE.p a_int) (AE.p (a_bin b_mul (AE.p a_int) (AE.p (a_var 2 rfl)))))))) (AE.p a_int))))))))
  (as_seq (as_if (at_test (AE.p (a_bin b_eq (AE.p (a_bin b_mod (AE.p (a_var 0 rfl)) (AE.p a_int))) (AE.p a_int))))
  (as_retN (AE.w (a_comp (K := K) (tg := (.n 1)) (AIf.c (ai_range1 (AE.p (a_var 1 rfl)))) (by decide) at_yes (a_sl b_slV (AE.p (a_var 0 rfl)) ao_none (ao_some (AE.p (a_bin b_add (AE.p (a_var 1 rfl)) (AE.p a_int))))))))
  as_next)
  (as_retN (AE.w (a_comp (K := K) (tg := (.n 1)) (AIf.c (ai_range1 (AE.p (a_var 1 rfl)))) (by decide) at_yes (a_sl b_slV (AE.p (a_var 0 rfl)) (ao_some (AE.p (a_bin b_sub (AE.p a_int) (AE.p (a_var 1 rfl))))) ao_none))))))
  as_next)
  (as_seq (as_set 4 rfl (a_bin b_mod (AE.p (a_bin b_div (AE.p (a_var 0 rfl)) (AE.p a_int))) (AE.p a_int)))
  (as_seq (as_set 5 rfl (a_join (AE.p a_str) (AE.np (a_comp (K := K) (tg := (.n 2)) (AIf.c (ai_range1 (AE.p (a_var 4 rfl)))) (by decide) at_yes (a_bin b_ix (AE.p (a_var 0 rfl)) (AE.p (a_bin b_mod (AE.p (a_bin b_add (AE.p (a_bin b_add (AE.p (a_bin b_div (AE.p (a_var 1 rfl)) (AE.p a_int))) (AE.p (a_bin b_mul (AE.p a_int) (AE.p (a_var 2 rfl)))))) (AE.p (a_bin b_mul (AE.p (a_var 2 rfl)) (AE.p (a_var 2 rfl)))))) (AE.p a_int))))))))
  (as_seq (as_set 6 rfl (a_bin b_mod (AE.p (a_bin b_div (AE.p (a_var 0 rfl)) (AE.p a_int))) (AE.p (a_bin b_add (AE.p (a_var 4 rfl)) (AE.p a_int)))))
  (as_retN (AE.w (a_comp (K := K) (tg := (.n 4)) (AIf.c (ai_range1 (AE.p (a_var 1 rfl)))) (by decide) at_yes (a_bin b_add (AE.p (a_bin b_add (AE.p (a_sl b_slV (AE.p (a_var 0 rfl)) ao_none (ao_some (AE.p (a_var 2 rfl))))) (AE.p (a_bin b_ix (AE.p (a_var 1 rfl)) (AE.p (a_bin b_mod (AE.p (a_bin b_add (AE.p (a_bin b_div (AE.p (a_var 3 rfl)) (AE.p a_int))) (AE.p (a_bin b_mul (AE.p a_int) (AE.p (a_var 4 rfl)))))) (AE.p a_int))))))) (AE.p (a_sl b_slV (AE.p (a_var 0 rfl)) (ao_some (AE.p (a_var 2 rfl))) ao_none))))))))))) (by decide) h⟩)
abbrev s_l_ranks : Stmt := top 14
theorem sc_l_ranks : FnScope ["_law_cell_here", "_law_many", "_law_left", "_law_ranks_here", "_law_draw", "_law_k"] ["_law_cell_here", "_law_many"] (defScope s_l_ranks) := ⟨rfl, rfl, rfl, by decide +kernel, rfl, by decide +kernel, by decide +kernel⟩
theorem ok_l_ranks {f : Addr} {fd : FuncData} (F : Fun K "_law_ranks" "_law_ranks" s_l_ranks f fd) (T : Txt mg)  : FnOk P w K mg base CX0 1 f fd ["_law_cell_here", "_law_many"] (spN m_l_ranks_2) :=
  F.ok sc_l_ranks (fun vs H Q E h => lenN h) (fun cdv A outer s H vs Q E hr h => by
    have nd := sc_l_ranks.nd
    have hu := hu_of hr
    have hu64 := hr.units
    exact ⟨_, (pss_cons (ps_setC (i := 2) (N' := ["_law_k"]) (ρ := [none]) rfl nd rfl (Or.inl rfl) (CompSc.of rfl (by kernel_rfl)) (pi_range1 rfl T.b_range (pa_cons (pv 1) pa_nil)) (fun _ _ _ _ _ => (pg_name (i := 0) (by show (["_law_k"] : List Str).Nodup; decide +kernel) rfl (Or.inl rfl))) (gk_name rfl) (fun _ _ _ _ _ => pts_nil) (fun _ _ _ _ _ => (pv 0)))
  (pss_cons (ps_set (i := 3) nd rfl (Or.inl rfl) (pe_lst pa_nil))
  (pss_cons (ps_set (i := 4) nd rfl (Or.inl rfl) (pe_op op_mod (pv 0) pe_int))
  (pss_cons (ps_for PassesOwn.never rfl (pi_range1 rfl T.b_range (pa_cons (pv 1) pa_nil)) (pg_name (i := 5) nd rfl (Or.inl rfl))
  (pss_cons (ps_set (i := 4) nd rfl (Or.inl rfl) (pe_op op_mod (pe_op op_addU (pe_op op_addU (pe_op op_mul (pv 4) pe_int) (pe_op op_mul pe_int (pv 5))) pe_int) pe_int))
  (pss_one (ps_expr (pe_bm PySem.F.plainAttrs_list PySem.F.slot_list_append PySem.F.type_list_append mt_append (pv 3) (pa_cons (pe_bm PySem.F.plainAttrs_list PySem.F.slot_list_pop PySem.F.type_list_pop mt_popAt (pv 2) (pa_cons (pe_op op_mod (pe_op op_fdivB (pv 4) pe_int) (pe_callB call_lenU rfl T.b_len PySem.boot_len (pa_cons (pv 2) pa_nil))) pa_nil)) pa_nil))))))
  (pss_one (ps_ret (pv 3))))))),
    _root_.A.runN (N := ["_law_cell_here", "_law_many", "_law_left", "_law_ranks_here", "_law_draw", "_law_k"]) (M := Mo [2, 3]) (as_seq (as_new 2 rfl (a_comp (K := K) (tg := (.n 0)) (AIf.c (ai_range1 (AE.p (a_var 1 rfl)))) (by decide) at_yes (a_var 0 rfl)))
  (as_seq (as_new 3 rfl (a_lst aa_nil))
  (as_seq (as_set 4 rfl (a_bin b_mod (AE.p (a_var 0 rfl)) (AE.p a_int)))
  (as_seq (as_for (K := K) (tg := (.n 5)) (ai_range1 (AE.p (a_var 1 rfl))) (by decide)
  (as_seq (as_set 4 rfl (a_bin b_mod (AE.p (a_bin b_add (AE.p (a_bin b_add (AE.p (a_bin b_mul (AE.p (a_var 4 rfl)) (AE.p a_int))) (AE.p (a_bin b_mul (AE.p a_int) (AE.p (a_var 5 rfl)))))) (AE.p a_int))) (AE.p a_int)))
  (as_appendPop 3 2 (by decide) rfl rfl (AE.p (a_bin b_mod (AE.p (a_bin b_div (AE.p (a_var 4 rfl)) (AE.p a_int))) (AE.p (a_cb b_len (aa_cons (a_varP 2) aa_nil))))))))
  (as_retOwn 3 rfl))))) (by decide) h⟩)
abbrev s_l_net : Stmt := top 15
theorem sc_l_net : FnScope ["_law_script", "_law_most", "_law_many", "_law_names", "_law_ranks_here", "_law_thick", "_law_arrows", "_law_j", "_law_k", "_law_cell_here"] ["_law_script", "_law_most"] (defScope s_l_net) := ⟨rfl, rfl, rfl, by decide +kernel, rfl, by decide +kernel, by decide +kernel⟩
theorem ok_l_net {f : Addr} {fd : FuncData} (F : Fun K "_law_net" "_law_net" s_l_net f fd) (T : Txt mg) (C_l_cell : Cal P w K mg base CX0 1 "_law_cell" ["_law_script", "_law_k"] (spD m_l_cell)) (C_l_words : Cal P w K mg base CX0 1 "_law_words" ["_law_cell_here", "_law_many"] (spN m_l_words)) (C_l_ranks : Cal P w K mg base CX0 1 "_law_ranks" ["_law_cell_here", "_law_many"] (spN m_l_ranks_2)) : FnOk P w K mg base CX0 2 f fd ["_law_script", "_law_most"] (spD m_l_net_2) :=
  F.ok sc_l_net (fun vs H Q E h => lenD h) (fun cdv A outer s H vs Q E hr h => by
    have nd := sc_l_net.nd
    have hu := hu_of hr
    have hu64 := hr.units
    have hr_l_cell := hr.mono (show 1 ≤ _ by decide)
    have hr_l_words := hr.mono (show 1 ≤ _ by decide)
    have hr_l_ranks := hr.mono (show 1 ≤ _ by decide)
    exact ⟨_, (pss_cons (ps_set (i := 2) nd rfl (Or.inl rfl) (pe_op op_addU pe_int (pe_op op_mod (pe_cal C_l_cell hr_l_cell rfl pass0 (pa_cons (pv 0) (pa_cons pe_int pa_nil))) (pv 1))))
  (pss_cons (ps_set (i := 3) nd rfl (Or.inl rfl) (pe_cal C_l_words hr_l_words rfl pass0 (pa_cons (pe_cal C_l_cell hr_l_cell rfl pass0 (pa_cons (pv 0) (pa_cons pe_int pa_nil))) (pa_cons (pv 2) pa_nil))))
  (pss_cons (ps_set (i := 4) nd rfl (Or.inl rfl) (pe_cal C_l_ranks hr_l_ranks rfl pass0 (pa_cons (pe_cal C_l_cell hr_l_cell rfl pass0 (pa_cons (pv 0) (pa_cons pe_int pa_nil))) (pa_cons (pv 2) pa_nil))))
  (pss_cons (ps_set (i := 5) nd rfl (Or.inl rfl) (pe_ix ix_seq (pe_lst (pa_cons pe_int (pa_cons pe_int (pa_cons pe_int (pa_cons pe_int (pa_cons pe_int (pa_cons pe_int pa_nil))))))) (pe_op op_mod (pe_cal C_l_cell hr_l_cell rfl pass0 (pa_cons (pv 0) (pa_cons pe_int pa_nil))) pe_int) (fun _ _ => rfl)))
  (pss_cons (ps_set (i := 6) nd rfl (Or.inl rfl) (pe_lst pa_nil))
  (pss_cons (ps_for PassesOwn.never rfl (pi_range1 rfl T.b_range (pa_cons (pv 2) pa_nil)) (pg_name (i := 7) nd rfl (Or.inl rfl))
  (pss_one (ps_for PassesOwn.never rfl (pi_range1 rfl T.b_range (pa_cons (pv 2) pa_nil)) (pg_name (i := 8) nd rfl (Or.inl rfl))
  (pss_cons (ps_set (i := 9) nd rfl (Or.inl rfl) (pe_cal C_l_cell hr_l_cell rfl pass0 (pa_cons (pv 0) (pa_cons (pe_op op_addU (pe_op op_addU pe_int (pe_op op_fdivB (pe_op op_mul (pe_callB (call_maxU rfl) rfl T.b_max boot_max (pa_cons (pv 7) (pa_cons (pv 8) pa_nil))) (pe_op op_sub (pe_callB (call_maxU rfl) rfl T.b_max boot_max (pa_cons (pv 7) (pa_cons (pv 8) pa_nil))) pe_int)) pe_int)) (pe_callB (call_minU rfl) rfl T.b_min boot_min (pa_cons (pv 7) (pa_cons (pv 8) pa_nil)))) pa_nil))))
  (pss_one (ps_if (PW.pt (pw_and (pt_cmpR op_ltU (pe_ix ix_seq (pv 4) (pv 7) (fun _ _ => rfl)) (pe_ix ix_seq (pv 4) (pv 8) (fun _ _ => rfl)) (nomark _)) (pw_and1 (pt_cmpR op_ltU (pe_op op_mod (pe_op op_fdivB (pe_op op_mod (pe_op op_mul (pv 9) pe_int) pe_int) pe_int) pe_int) (pv 5) (nomark _)))))
  (pss_one (ps_expr (pe_bm PySem.F.plainAttrs_list PySem.F.slot_list_append PySem.F.type_list_append mt_append (pv 6) (pa_cons (pe_tup (pa_cons (pe_ix ix_seq (pv 3) (pv 7) (fun _ _ => rfl)) (pa_cons (pe_ix ix_seq (pv 3) (pv 8) (fun _ _ => rfl)) pa_nil))) pa_nil))))
  pss_nil))))))
  (pss_one (ps_ret (pe_tup (pa_cons (pe_callTy call_tupleU rfl T.b_tuple boot_tuple (pa_cons (pv 3) pa_nil)) (pa_cons (pe_callTy call_tupleU rfl T.b_tuple boot_tuple (pa_cons (pv 6) pa_nil)) pa_nil))))))))))),
    _root_.A.runD (N := ["_law_script", "_law_most", "_law_many", "_law_names", "_law_ranks_here", "_law_thick", "_law_arrows", "_law_j", "_law_k", "_law_cell_here"]) (M := Mo [6]) (as_seq (as_set 2 rfl (a_bin b_add (AE.p a_int) (AE.p (a_bin b_mod (AE.p (a_call (aw_cons (AE.w (a_var 0 rfl)) (aw_cons (AE.w a_int) aw_nil)))) (AE.p (a_var 1 rfl))))))
  (as_seq (as_set 3 rfl (AE.nv (a_callN (aw_cons (AE.w (a_call (aw_cons (AE.w (a_var 0 rfl)) (aw_cons (AE.w a_int) aw_nil)))) (aw_cons (AE.w (a_var 2 rfl)) aw_nil)))))
  (as_seq (as_set 4 rfl (AE.nv (a_callN (aw_cons (AE.w (a_call (aw_cons (AE.w (a_var 0 rfl)) (aw_cons (AE.w a_int) aw_nil)))) (aw_cons (AE.w (a_var 2 rfl)) aw_nil)))))
  (as_seq (as_set 5 rfl (a_bin b_ix (AE.np (a_lst (aa_cons a_int (aa_cons a_int (aa_cons a_int (aa_cons a_int (aa_cons a_int (aa_cons a_int aa_nil)))))))) (AE.p (a_bin b_mod (AE.p (a_call (aw_cons (AE.w (a_var 0 rfl)) (aw_cons (AE.w a_int) aw_nil)))) (AE.p a_int)))))
  (as_seq (as_new 6 rfl (a_lst aa_nil))
  (as_seq (as_for (K := K) (tg := (.n 7)) (ai_range1 (AE.p (a_var 2 rfl))) (by decide)
  (as_for (K := K) (tg := (.n 8)) (ai_range1 (AE.p (a_var 2 rfl))) (by decide)
  (as_seq (as_set 9 rfl (a_call (aw_cons (AE.w (a_var 0 rfl)) (aw_cons (AE.w (a_bin b_add (AE.p (a_bin b_add (AE.p a_int) (AE.p (a_bin b_div (AE.p (a_bin b_mul (AE.p (a_cb b_max (aa_cons (AE.p (a_var 7 rfl)) (aa_cons (AE.p (a_var 8 rfl)) aa_nil)))) (AE.p (a_bin b_sub (AE.p (a_cb b_max (aa_cons (AE.p (a_var 7 rfl)) (aa_cons (AE.p (a_var 8 rfl)) aa_nil)))) (AE.p a_int))))) (AE.p a_int))))) (AE.p (a_cb b_min (aa_cons (AE.p (a_var 7 rfl)) (aa_cons (AE.p (a_var 8 rfl)) aa_nil)))))) aw_nil))))
  (as_if (at_and (at_test (AE.p (a_bin b_lt (AE.p (a_bin b_ix (AE.p (a_var 4 rfl)) (AE.p (a_var 7 rfl)))) (AE.p (a_bin b_ix (AE.p (a_var 4 rfl)) (AE.p (a_var 8 rfl))))))) (at_test (AE.p (a_bin b_lt (AE.p (a_bin b_mod (AE.p (a_bin b_div (AE.p (a_bin b_mod (AE.p (a_bin b_mul (AE.p (a_var 9 rfl)) (AE.p a_int))) (AE.p a_int))) (AE.p a_int))) (AE.p a_int))) (AE.p (a_var 5 rfl))))))
  (as_append 6 rfl (a_tup (aa_cons (a_bin b_ix (AE.p (a_var 3 rfl)) (AE.p (a_var 7 rfl))) (aa_cons (a_bin b_ix (AE.p (a_var 3 rfl)) (AE.p (a_var 8 rfl))) aa_nil))))
  as_next))))
  (as_ret (AE.w (a_tup (aa_cons (a_cb b_tuple (aa_cons (AE.p (a_var 3 rfl)) aa_nil)) (aa_cons (a_cb b_tuple (aa_cons (a_varP 6) aa_nil)) aa_nil))))))))))) (by decide) h⟩)
abbrev s_l_flipped : Stmt := top 17
theorem sc_l_flipped : FnScope ["_law_arrows", "_law_arrow"] ["_law_arrows", "_law_arrow"] (defScope s_l_flipped) := ⟨rfl, rfl, rfl, by decide +kernel, rfl, by decide +kernel, by decide +kernel⟩
theorem ok_l_flipped {f : Addr} {fd : FuncData} (F : Fun K "_law_flipped" "_law_flipped" s_l_flipped f fd) (T : Txt mg)  : FnOk P w K mg base CX0 1 f fd ["_law_arrows", "_law_arrow"] (spN m_l_flipped) :=
  F.ok sc_l_flipped (fun vs H Q E h => lenN h) (fun cdv A outer s H vs Q E hr h => by
    have nd := sc_l_flipped.nd
    have hu := hu_of hr
    have hu64 := hr.units
    exact ⟨_, (pss_one (ps_ret (pe_comp (N' := ["_law_arrow", "_law_one"]) (ρ := [some 1, none]) rfl (CompSc.of rfl (by kernel_rfl)) (pi_seq (pv 0)) (fun _ _ _ _ _ => (pg_name (i := 1) (by show (["_law_arrow", "_law_one"] : List Str).Nodup; decide +kernel) rfl (Or.inl rfl))) (gk_name rfl) (fun _ _ _ _ _ => pts_nil) (fun _ _ _ _ _ => (pe_ix ix_seq (pe_lst (pa_cons (pv 1) (pa_cons (pe_tup (pa_cons (pe_ix ix_seq (pv 1) pe_int (fun _ _ => rfl)) (pa_cons (pe_ix ix_seq (pv 1) pe_int (fun _ _ => rfl)) pa_nil))) pa_nil))) (pe_callTy call_intU rfl T.b_int boot_int (pa_cons (pe_cmpR (op_eqD hu64) (pv 1) (pv 0) (nomark _)) pa_nil)) (fun _ _ => rfl)))))),
    _root_.A.runN (N := ["_law_arrows", "_law_arrow"]) (M := Mo []) (as_retN (AE.w (a_comp (K := K) (tg := (.n 1)) (ai_seqC (AE.p (a_var 0 rfl))) (by decide) at_yes (a_bin b_ix (AE.np (a_lst (aa_cons (a_var 1 rfl) (aa_cons (a_tup (aa_cons (a_bin b_ix (AE.p (a_var 1 rfl)) (AE.p a_int)) (aa_cons (a_bin b_ix (AE.p (a_var 1 rfl)) (AE.p a_int)) aa_nil))) aa_nil)))) (AE.p (a_cb b_int (aa_cons (AE.p (a_bin b_eq (AE.p (a_var 1 rfl)) (AE.p (a_var 0 rfl)))) aa_nil))))))) (by decide) h⟩)
abbrev s_l_comes_round : Stmt := top 18
theorem sc_l_comes_round : FnScope ["_law_names", "_law_arrows", "_law_left", "_law_turn", "_law_heads"] ["_law_names", "_law_arrows"] (defScope s_l_comes_round) := ⟨rfl, rfl, rfl, by decide +kernel, rfl, by decide +kernel, by decide +kernel⟩
theorem ok_l_comes_round {f : Addr} {fd : FuncData} (F : Fun K "_law_comes_round" "_law_comes_round" s_l_comes_round f fd) (T : Txt mg)  : FnOk P w K mg base CX0 1 f fd ["_law_names", "_law_arrows"] (spD m_l_comes_round) :=
  F.ok sc_l_comes_round (fun vs H Q E h => lenD h) (fun cdv A outer s H vs Q E hr h => by
    have nd := sc_l_comes_round.nd
    have hu := hu_of hr
    have hu64 := hr.units
    exact ⟨_, (pss_cons (ps_set (i := 2) nd rfl (Or.inr rfl) (pe_callTy call_listU rfl T.b_list boot_list (pa_cons (pv 0) pa_nil)))
  (pss_cons (ps_for PassesOwn.never rfl (pi_range1 rfl T.b_range (pa_cons (pe_callB call_lenU rfl T.b_len PySem.boot_len (pa_cons (pv 0) pa_nil)) pa_nil)) (pg_name (i := 3) nd rfl (Or.inl rfl))
  (pss_cons (ps_set (i := 4) nd rfl (Or.inr rfl) (pe_comp (N' := ["_law_left", "_law_tail", "_law_head"]) (ρ := [some 2, none, none]) rfl (CompSc.of rfl (by kernel_rfl)) (pi_seq (pv 1)) (fun _ _ _ _ _ => (pg_tup rfl (pgs_cons (pg_name (i := 1) (by show (["_law_left", "_law_tail", "_law_head"] : List Str).Nodup; decide +kernel) rfl (Or.inl rfl)) (pgs_cons (pg_name (i := 2) (by show (["_law_left", "_law_tail", "_law_head"] : List Str).Nodup; decide +kernel) rfl (Or.inl rfl)) pgs_nil)))) (gk_tup (gk_cons1 rfl (gk_cons1 rfl gk_nil gm_nil) (gm_cons gm_nil))) (fun _ _ _ _ _ => (pts_one (pt_cmpR (op_inU hu64) (pv 1) (pv 0) rfl))) (fun _ _ _ _ _ => (pv 2))))
  (pss_one (ps_set (i := 2) nd rfl (Or.inr rfl) (pe_comp (N' := ["_law_heads", "_law_name"]) (ρ := [some 4, none]) rfl (CompSc.of rfl (by kernel_rfl)) (pi_seq (pv 2)) (fun _ _ _ _ _ => (pg_name (i := 1) (by show (["_law_heads", "_law_name"] : List Str).Nodup; decide +kernel) rfl (Or.inl rfl))) (gk_name rfl) (fun _ _ _ _ _ => (pts_one (pt_cmpR (op_inU hu64) (pv 1) (pv 0) rfl))) (fun _ _ _ _ _ => (pv 1)))))))
  (pss_one (ps_ret (pe_cmpR op_gtU (pe_callB call_lenU rfl T.b_len PySem.boot_len (pa_cons (pv 2) pa_nil)) pe_int (nomark _)))))),
    _root_.A.runD (N := ["_law_names", "_law_arrows", "_law_left", "_law_turn", "_law_heads"]) (M := Mo []) (as_seq (as_set 2 rfl (AE.nv (a_cb b_list (aa_cons (AE.p (a_var 0 rfl)) aa_nil))))
  (as_seq (as_for (K := K) (tg := (.n 3)) (ai_range1 (AE.p (a_cb b_len (aa_cons (AE.p (a_var 0 rfl)) aa_nil)))) (by decide)
  (as_seq (as_set 4 rfl (AE.nv (a_comp (K := K) (tg := (.t [1, 2])) (ai_seqC (AE.p (a_var 1 rfl))) (by decide) (at_test (AE.p (a_bin b_in (AE.p (a_var 1 rfl)) (AE.p (a_var 0 rfl))))) (a_var 2 rfl))))
  (as_set 2 rfl (AE.nv (a_comp (K := K) (tg := (.n 1)) (ai_seqC (AE.p (a_var 2 rfl))) (by decide) (at_test (AE.p (a_bin b_in (AE.p (a_var 1 rfl)) (AE.p (a_var 0 rfl))))) (a_var 1 rfl))))))
  (as_ret (AE.w (a_bin b_gt (AE.p (a_cb b_len (aa_cons (AE.p (a_var 2 rfl)) aa_nil))) (AE.p a_int)))))) (by decide) h⟩)
abbrev s_l_spoiled : Stmt := top 19
theorem sc_l_spoiled : FnScope ["_law_names", "_law_arrows", "_law_cell_here", "_law_pairs", "_law_one", "_law_other", "_law_at", "_law_turned"] ["_law_names", "_law_arrows", "_law_cell_here"] (defScope s_l_spoiled) := ⟨rfl, rfl, rfl, by decide +kernel, rfl, by decide +kernel, by decide +kernel⟩
theorem ok_l_spoiled {f : Addr} {fd : FuncData} (F : Fun K "_law_spoiled" "_law_spoiled" s_l_spoiled f fd) (T : Txt mg) (C_l_flipped : Cal P w K mg base CX0 1 "_law_flipped" ["_law_arrows", "_law_arrow"] (spN m_l_flipped)) (C_l_comes_round : Cal P w K mg base CX0 1 "_law_comes_round" ["_law_names", "_law_arrows"] (spD m_l_comes_round)) : FnOk P w K mg base CX0 2 f fd ["_law_names", "_law_arrows", "_law_cell_here"] (spD m_l_spoiled) :=
  F.ok sc_l_spoiled (fun vs H Q E h => lenD h) (fun cdv A outer s H vs Q E hr h => by
    have nd := sc_l_spoiled.nd
    have hu := hu_of hr
    have hu64 := hr.units
    have hr_l_flipped := hr.mono (show 1 ≤ _ by decide)
    have hr_l_comes_round := hr.mono (show 1 ≤ _ by decide)
    exact ⟨_, (pss_cons (ps_if (PW.pt (pw_or (pt_cmpR (op_eqD hu64) (pe_op op_mod (pv 2) pe_int) pe_int (nomark _)) (pw_or1 (pt_cmpR (op_eqD hu64) (pe_callB call_lenU rfl T.b_len PySem.boot_len (pa_cons (pv 1) pa_nil)) pe_int (nomark _)))))
  (pss_cons (ps_set (i := 3) nd rfl (Or.inl rfl) (pe_lst pa_nil))
  (pss_cons (ps_for PassesOwn.never rfl (pi_seq (pv 0)) (pg_name (i := 4) nd rfl (Or.inl rfl))
  (pss_one (ps_for PassesOwn.never rfl (pi_seq (pv 0)) (pg_name (i := 5) nd rfl (Or.inl rfl))
  (pss_one (ps_if (PW.pt (pw_and (pt_cmpR (op_neD hu64) (pv 4) (pv 5) (nomark _)) (pw_and (pt_cmpR (op_notInD hu64) (pe_tup (pa_cons (pv 4) (pa_cons (pv 5) pa_nil))) (pv 1) rfl) (pw_and1 (pt_cmpR (op_notInD hu64) (pe_tup (pa_cons (pv 5) (pa_cons (pv 4) pa_nil))) (pv 1) rfl)))))
  (pss_one (ps_expr (pe_bm PySem.F.plainAttrs_list PySem.F.slot_list_append PySem.F.type_list_append mt_append (pv 3) (pa_cons (pe_tup (pa_cons (pv 4) (pa_cons (pv 5) pa_nil))) pa_nil))))
  pss_nil)))))
  (pss_cons (ps_setC (i := 3) (N' := ["_law_names", "_law_arrows", "_law_pair"]) (ρ := [some 0, some 1, none]) rfl nd rfl (Or.inl rfl) (CompSc.of rfl (by kernel_rfl)) (pi_seq (pv 3)) (fun _ _ _ _ _ => (pg_name (i := 2) (by show (["_law_names", "_law_arrows", "_law_pair"] : List Str).Nodup; decide +kernel) rfl (Or.inl rfl))) (gk_name rfl) (fun _ _ _ _ _ => (pts_one (pt_not (pt_val (pe_cal C_l_comes_round hr_l_comes_round rfl pass0 (pa_cons (pv 0) (pa_cons (pe_op op_addU (pv 1) (pe_lst (pa_cons (pv 2) pa_nil))) pa_nil))))))) (fun _ _ _ _ _ => (pv 2)))
  (pss_cons (ps_if (pt_cmpR op_gtU (pe_callB call_lenU rfl T.b_len PySem.boot_len (pa_cons (pv 3) pa_nil)) pe_int (nomark _))
  (pss_one (ps_ret (pe_op op_addU (pv 1) (pe_lst (pa_cons (pe_ix ix_seq (pv 3) (pe_op op_mod (pe_op op_fdivB (pv 2) pe_int) (pe_callB call_lenU rfl T.b_len PySem.boot_len (pa_cons (pv 3) pa_nil))) (fun _ _ => rfl)) pa_nil)))))
  pss_nil)
  (pss_one (ps_ret (pe_slice sl_U (pv 1) (po_some pe_int) po_none)))))))
  pss_nil)
  (pss_cons (ps_set (i := 6) nd rfl (Or.inl rfl) (pe_op op_mod (pe_op op_fdivB (pv 2) pe_int) (pe_callB call_lenU rfl T.b_len PySem.boot_len (pa_cons (pv 1) pa_nil))))
  (pss_cons (ps_set (i := 7) nd rfl (Or.inl rfl) (pe_cal C_l_flipped hr_l_flipped rfl pass0 (pa_cons (pv 1) (pa_cons (pe_ix ix_seq (pv 1) (pv 6) (fun _ _ => rfl)) pa_nil))))
  (pss_cons (ps_if (PW.pt (pw_or (pt_cmpR (op_eqD hu64) (pe_op op_mod (pv 2) pe_int) pe_int (nomark _)) (pw_or1 (pt_val (pe_cal C_l_comes_round hr_l_comes_round rfl pass0 (pa_cons (pv 0) (pa_cons (pv 7) pa_nil)))))))
  (pss_one (ps_ret (pe_op op_addU (pe_slice sl_U (pv 1) po_none (po_some (pv 6))) (pe_slice sl_U (pv 1) (po_some (pe_op op_addU (pv 6) pe_int)) po_none))))
  pss_nil)
  (pss_one (ps_ret (pv 7))))))),
    _root_.A.runD (N := ["_law_names", "_law_arrows", "_law_cell_here", "_law_pairs", "_law_one", "_law_other", "_law_at", "_law_turned"]) (M := Mo [3]) (as_seq (as_if (at_or (at_test (AE.p (a_bin b_eq (AE.p (a_bin b_mod (AE.p (a_var 2 rfl)) (AE.p a_int))) (AE.p a_int)))) (at_test (AE.p (a_bin b_eq (AE.p (a_cb b_len (aa_cons (AE.p (a_var 1 rfl)) aa_nil))) (AE.p a_int)))))
  (as_seq (as_new 3 rfl (a_lst aa_nil))
  (as_seq (as_for (K := K) (tg := (.n 4)) (ai_seq (a_var 0 rfl)) (by decide)
  (as_for (K := K) (tg := (.n 5)) (ai_seq (a_var 0 rfl)) (by decide)
  (as_if (at_and (at_test (AE.p (a_bin b_ne (AE.p (a_var 4 rfl)) (AE.p (a_var 5 rfl))))) (at_and (at_test (AE.p (a_bin b_notin (AE.p (a_tup (aa_cons (a_var 4 rfl) (aa_cons (a_var 5 rfl) aa_nil)))) (AE.p (a_var 1 rfl))))) (at_test (AE.p (a_bin b_notin (AE.p (a_tup (aa_cons (a_var 5 rfl) (aa_cons (a_var 4 rfl) aa_nil)))) (AE.p (a_var 1 rfl)))))))
  (as_append 3 rfl (a_tup (aa_cons (a_var 4 rfl) (aa_cons (a_var 5 rfl) aa_nil))))
  as_next)))
  (as_seq (as_new 3 rfl (a_comp (K := K) (tg := (.n 2)) (ai_seqC (a_varP 3)) (by decide) (at_not (at_b (AE.p (a_call (aw_cons (AE.w (a_var 0 rfl)) (aw_cons (AE.w (a_bin b_add (AE.p (a_var 1 rfl)) (AE.np (a_lst (aa_cons (a_var 2 rfl) aa_nil))))) aw_nil)))))) (a_var 2 rfl)))
  (as_seq (as_if (at_test (AE.p (a_bin b_gt (AE.p (a_cb b_len (aa_cons (a_varP 3) aa_nil))) (AE.p a_int))))
  (as_ret (AE.w (a_bin b_add (AE.p (a_var 1 rfl)) (AE.np (a_lst (aa_cons (a_bin b_ix (a_varP 3) (AE.p (a_bin b_mod (AE.p (a_bin b_div (AE.p (a_var 2 rfl)) (AE.p a_int))) (AE.p (a_cb b_len (aa_cons (a_varP 3) aa_nil)))))) aa_nil))))))
  as_next)
  (as_ret (AE.w (a_sl b_slV (AE.p (a_var 1 rfl)) (ao_some (AE.p a_int)) ao_none)))))))
  as_next)
  (as_seq (as_set 6 rfl (a_bin b_mod (AE.p (a_bin b_div (AE.p (a_var 2 rfl)) (AE.p a_int))) (AE.p (a_cb b_len (aa_cons (AE.p (a_var 1 rfl)) aa_nil)))))
  (as_seq (as_set 7 rfl (AE.nv (a_callN (aw_cons (AE.w (a_var 1 rfl)) (aw_cons (AE.w (a_bin b_ix (AE.p (a_var 1 rfl)) (AE.p (a_var 6 rfl)))) aw_nil)))))
  (as_seq (as_if (at_or (at_test (AE.p (a_bin b_eq (AE.p (a_bin b_mod (AE.p (a_var 2 rfl)) (AE.p a_int))) (AE.p a_int)))) (at_b (AE.p (a_call (aw_cons (AE.w (a_var 0 rfl)) (aw_cons (AE.w (a_var 7 rfl)) aw_nil))))))
  (as_ret (AE.w (a_bin b_add (AE.p (a_sl b_slV (AE.p (a_var 1 rfl)) ao_none (ao_some (AE.p (a_var 6 rfl))))) (AE.p (a_sl b_slV (AE.p (a_var 1 rfl)) (ao_some (AE.p (a_bin b_add (AE.p (a_var 6 rfl)) (AE.p a_int)))) ao_none)))))
  as_next)
  (as_ret (AE.w (a_var 7 rfl))))))) (by decide) h⟩)
abbrev s_l_sorted : Stmt := top 20
theorem sc_l_sorted : FnScope ["_law_names", "_law_arrows", "_law_told", "_law_tail", "_law_head"] ["_law_names", "_law_arrows"] (defScope s_l_sorted) := ⟨rfl, rfl, rfl, by decide +kernel, rfl, by decide +kernel, by decide +kernel⟩
theorem ok_l_sorted {f : Addr} {fd : FuncData} (F : Fun K "_law_sorted" "_law_sorted" s_l_sorted f fd) (T : Txt mg)  : FnOk P w K mg base CX0 1 f fd ["_law_names", "_law_arrows"] (spD m_l_sorted) :=
  F.ok sc_l_sorted (fun vs H Q E h => lenD h) (fun cdv A outer s H vs Q E hr h => by
    have nd := sc_l_sorted.nd
    have hu := hu_of hr
    have hu64 := hr.units
    exact ⟨_, (pss_cons (ps_set (i := 2) nd rfl (Or.inl rfl) (pe_lst pa_nil))
  (pss_cons (ps_for PassesOwn.never rfl (pi_seq (pv 0)) (pg_name (i := 3) nd rfl (Or.inl rfl))
  (pss_one (ps_for PassesOwn.never rfl (pi_seq (pv 0)) (pg_name (i := 4) nd rfl (Or.inl rfl))
  (pss_one (ps_if (pt_cmpR (op_inU hu64) (pe_tup (pa_cons (pv 3) (pa_cons (pv 4) pa_nil))) (pv 1) rfl)
  (pss_one (ps_expr (pe_bm PySem.F.plainAttrs_list PySem.F.slot_list_append PySem.F.type_list_append mt_append (pv 2) (pa_cons (pe_tup (pa_cons (pv 3) (pa_cons (pv 4) pa_nil))) pa_nil))))
  pss_nil)))))
  (pss_one (ps_ret (pe_tup (pa_cons (pe_callTy call_tupleU rfl T.b_tuple boot_tuple (pa_cons (pv 0) pa_nil)) (pa_cons (pe_callTy call_tupleU rfl T.b_tuple boot_tuple (pa_cons (pv 2) pa_nil)) pa_nil))))))),
    _root_.A.runD (N := ["_law_names", "_law_arrows", "_law_told", "_law_tail", "_law_head"]) (M := Mo [2]) (as_seq (as_new 2 rfl (a_lst aa_nil))
  (as_seq (as_for (K := K) (tg := (.n 3)) (ai_seq (a_var 0 rfl)) (by decide)
  (as_for (K := K) (tg := (.n 4)) (ai_seq (a_var 0 rfl)) (by decide)
  (as_if (at_test (AE.p (a_bin b_in (AE.p (a_tup (aa_cons (a_var 3 rfl) (aa_cons (a_var 4 rfl) aa_nil)))) (AE.p (a_var 1 rfl)))))
  (as_append 2 rfl (a_tup (aa_cons (a_var 3 rfl) (aa_cons (a_var 4 rfl) aa_nil))))
  as_next)))
  (as_ret (AE.w (a_tup (aa_cons (a_cb b_tuple (aa_cons (AE.p (a_var 0 rfl)) aa_nil)) (aa_cons (a_cb b_tuple (aa_cons (a_varP 2) aa_nil)) aa_nil))))))) (by decide) h⟩)
abbrev s_l_alike : Stmt := top 16
theorem sc_l_alike : FnScope ["_law_found", "_law_due", "_law_one", "_law_other"] ["_law_found", "_law_due"] (defScope s_l_alike) := ⟨rfl, rfl, rfl, by decide +kernel, rfl, by decide +kernel, by decide +kernel⟩
theorem ok_l_alike {f : Addr} {fd : FuncData} (F : Fun K "_law_alike" "_law_alike" s_l_alike f fd) (T : Txt mg)  (self : ∀ n, FnOk P w K mg base CX0 (n + 1) f fd ["_law_found", "_law_due"] (spD (m_l_alike n)) → Cal P w K mg base CX0 (n + 1) "_law_alike" ["_law_found", "_law_due"] (spD (m_l_alike n))) : ∀ n, FnOk P w K mg base CX0 (n + 1) f fd ["_law_found", "_law_due"] (spD (m_l_alike n))
  | 0 => fnOk_zero
  | n + 1 => F.ok sc_l_alike (fun vs H Q E h => lenD h) (fun cdv A outer s H vs Q E hr h => by
    have C_l_alike : ∀ m : Nat, m = n → Cal P w K mg base CX0 (m + 1) "_law_alike" ["_law_found", "_law_due"] (spD (m_l_alike m)) := fun m e => by subst e; exact self m (ok_l_alike F T  self m)
    have C_l_alike := fun m : Nat => (C_l_alike n rfl : Cal P w K mg base CX0 (n + 1) "_law_alike" ["_law_found", "_law_due"] (spD (m_l_alike n)))
    have nd := sc_l_alike.nd
    have hu := hu_of hr
    have hu64 := hr.units
    have hr_l_alike := hr.mono (show (n + 1) ≤ _ by omega)
    exact ⟨_, (pss_cons (ps_if (PW.pt (pw_or (pt_val (pe_callB call_isT rfl T.b_isinstance boot_isinstance (pa_cons (pv 1) (pa_cons (pe_ty rfl T.b_str boot_str) pa_nil)))) (pw_or1 (pt_val (pe_callB call_isT rfl T.b_isinstance boot_isinstance (pa_cons (pv 1) (pa_cons (pe_ty rfl T.b_int boot_int) pa_nil)))))))
  (pss_cons (ps_if (PW.pt (pw_or (pt_cmpR (op_neD hu64) (pe_callB call_isT rfl T.b_isinstance boot_isinstance (pa_cons (pv 0) (pa_cons (pe_ty rfl T.b_bool boot_bool) pa_nil))) (pe_callB call_isT rfl T.b_isinstance boot_isinstance (pa_cons (pv 1) (pa_cons (pe_ty rfl T.b_bool boot_bool) pa_nil))) (nomark _)) (pw_or1 (pt_cmpR (op_neD hu64) (pe_callB call_isT rfl T.b_isinstance boot_isinstance (pa_cons (pv 0) (pa_cons (pe_ty rfl T.b_str boot_str) pa_nil))) (pe_callB call_isT rfl T.b_isinstance boot_isinstance (pa_cons (pv 1) (pa_cons (pe_ty rfl T.b_str boot_str) pa_nil))) (nomark _)))))
  (pss_one (ps_ret pe_bl))
  pss_nil)
  (pss_one (ps_ret (pe_and (pe_callB Zp.call_isTs rfl T.b_isinstance boot_isinstance (pa_cons (pv 0) (pa_cons (pe_tup (pa_cons (pe_ty rfl T.b_int boot_int) (pa_cons (pe_ty rfl T.b_str boot_str) pa_nil))) pa_nil))) (pe_one (pe_cmpR (op_eqD hu64) (pv 0) (pv 1) (nomark _)))))))
  pss_nil)
  (pss_cons (ps_if (PW.pt (pw_or (pt_cmpR (op_neD hu64) (pe_callB call_isT rfl T.b_isinstance boot_isinstance (pa_cons (pv 0) (pa_cons (pe_ty rfl T.b_list boot_list) pa_nil))) (pe_callB call_isT rfl T.b_isinstance boot_isinstance (pa_cons (pv 1) (pa_cons (pe_ty rfl T.b_list boot_list) pa_nil))) (nomark _)) (pw_or1 (pt_not (pt_val (pe_callB Zp.call_isTs rfl T.b_isinstance boot_isinstance (pa_cons (pv 0) (pa_cons (pe_tup (pa_cons (pe_ty rfl T.b_list boot_list) (pa_cons (pe_ty rfl T.b_tuple boot_tuple) pa_nil))) pa_nil))))))))
  (pss_one (ps_ret pe_bl))
  pss_nil)
  (pss_cons (ps_if (pt_cmpR (op_neD hu64) (pe_callB call_lenU rfl T.b_len PySem.boot_len (pa_cons (pv 0) pa_nil)) (pe_callB call_lenU rfl T.b_len PySem.boot_len (pa_cons (pv 1) pa_nil)) (nomark _))
  (pss_one (ps_ret pe_bl))
  pss_nil)
  (pss_cons (ps_for PassesOwn.never rfl (Zp.pi_zip2 rfl T.b_zip (pv 0) (pv 1)) (pg_tup rfl (pgs_cons (pg_name (i := 2) nd rfl (Or.inl rfl)) (pgs_cons (pg_name (i := 3) nd rfl (Or.inl rfl)) pgs_nil)))
  (pss_one (ps_if (pt_not (pt_val (pe_cal (C_l_alike n) hr_l_alike rfl pass0 (pa_cons (pv 2) (pa_cons (pv 3) pa_nil)))))
  (pss_one (ps_ret pe_bl))
  pss_nil)))
  (pss_one (ps_ret pe_bl)))))),
    _root_.A.runD (N := ["_law_found", "_law_due", "_law_one", "_law_other"]) (M := Mo []) (as_seq (as_if (at_or (at_b (AE.p (a_is (ty_str K) (AE.p (a_var 1 rfl))))) (at_b (AE.p (a_is (ty_int K) (AE.p (a_var 1 rfl))))))
  (as_seq (as_if (at_or (at_test (AE.p (a_bin b_ne (AE.p (a_is (ty_bool K) (AE.p (a_var 0 rfl)))) (AE.p (a_is (ty_bool K) (AE.p (a_var 1 rfl))))))) (at_test (AE.p (a_bin b_ne (AE.p (a_is (ty_str K) (AE.p (a_var 0 rfl)))) (AE.p (a_is (ty_str K) (AE.p (a_var 1 rfl))))))))
  (as_ret (AE.w a_bl))
  as_next)
  (as_ret (AE.w (a_and (AE.p (Zp.a_iss (Zp.tys2 (ty_int K) (ty_str K)) (by decide) (AE.p (a_var 0 rfl)))) (a_bin b_eq (AE.p (a_var 0 rfl)) (AE.p (a_var 1 rfl)))))))
  as_next)
  (as_seq (as_if (at_or (at_test (AE.p (a_bin b_ne (AE.p (a_is (ty_list K) (AE.p (a_var 0 rfl)))) (AE.p (a_is (ty_list K) (AE.p (a_var 1 rfl))))))) (at_not (at_b (AE.p (Zp.a_iss (Zp.tys2 (ty_list K) (ty_tuple K)) (by decide) (AE.p (a_var 0 rfl)))))))
  (as_ret (AE.w a_bl))
  as_next)
  (as_seq (as_if (at_test (AE.p (a_bin b_ne (AE.p (a_cb b_len (aa_cons (AE.p (a_var 0 rfl)) aa_nil))) (AE.p (a_cb b_len (aa_cons (AE.p (a_var 1 rfl)) aa_nil))))))
  (as_ret (AE.w a_bl))
  as_next)
  (as_seq (as_for (K := K) (tg := (.t [2, 3])) (Zp.ai_zip2 (a_var 0 rfl) (a_var 1 rfl)) (by decide)
  (as_if (at_not (at_b (AE.p (a_call (aw_cons (AE.w (a_var 2 rfl)) (aw_cons (AE.w (a_var 3 rfl)) aw_nil))))))
  (as_ret (AE.w a_bl))
  as_next))
  (as_ret (AE.w a_bl)))))) (by decide) h⟩)
abbrev s_l_tied : Stmt := top 21
theorem sc_l_tied : FnScope ["_law_net_here", "_law_one", "_law_other"] ["_law_net_here", "_law_one", "_law_other"] (defScope s_l_tied) := ⟨rfl, rfl, rfl, by decide +kernel, rfl, by decide +kernel, by decide +kernel⟩
theorem ok_l_tied {f : Addr} {fd : FuncData} (F : Fun K "_law_tied" "_law_tied" s_l_tied f fd) (T : Txt mg)  : FnOk P w K mg base CX0 1 f fd ["_law_net_here", "_law_one", "_law_other"] (spD m_l_tied) :=
  F.ok sc_l_tied (fun vs H Q E h => lenD h) (fun cdv A outer s H vs Q E hr h => by
    have nd := sc_l_tied.nd
    have hu := hu_of hr
    have hu64 := hr.units
    exact ⟨_, (pss_one (ps_ret (pe_or (pe_cmpR (op_inU hu64) (pe_tup (pa_cons (pv 1) (pa_cons (pv 2) pa_nil))) (pe_ix ix_seq (pv 0) pe_int (fun _ _ => rfl)) rfl) (pe_one (pe_cmpR (op_inU hu64) (pe_tup (pa_cons (pv 2) (pa_cons (pv 1) pa_nil))) (pe_ix ix_seq (pv 0) pe_int (fun _ _ => rfl)) rfl))))),
    _root_.A.runD (N := ["_law_net_here", "_law_one", "_law_other"]) (M := Mo []) (as_ret (AE.w (a_or (AE.p (a_bin b_in (AE.p (a_tup (aa_cons (a_var 1 rfl) (aa_cons (a_var 2 rfl) aa_nil)))) (AE.p (a_bin b_ix (AE.p (a_var 0 rfl)) (AE.p a_int))))) (a_bin b_in (AE.p (a_tup (aa_cons (a_var 2 rfl) (aa_cons (a_var 1 rfl) aa_nil)))) (AE.p (a_bin b_ix (AE.p (a_var 0 rfl)) (AE.p a_int))))))) (by decide) h⟩)
abbrev s_l_ties : Stmt := top 22
theorem sc_l_ties : FnScope ["_law_net_here", "_law_found", "_law_k"] ["_law_net_here"] (defScope s_l_ties) := ⟨rfl, rfl, rfl, by decide +kernel, rfl, by decide +kernel, by decide +kernel⟩
theorem ok_l_ties {f : Addr} {fd : FuncData} (F : Fun K "_law_ties" "_law_ties" s_l_ties f fd) (T : Txt mg) (C_l_tied : Cal P w K mg base CX0 1 "_law_tied" ["_law_net_here", "_law_one", "_law_other"] (spD m_l_tied)) : FnOk P w K mg base CX0 2 f fd ["_law_net_here"] (spD m_l_ties) :=
  F.ok sc_l_ties (fun vs H Q E h => lenD h) (fun cdv A outer s H vs Q E hr h => by
    have nd := sc_l_ties.nd
    have hu := hu_of hr
    have hu64 := hr.units
    have hr_l_tied := hr.mono (show 1 ≤ _ by decide)
    exact ⟨_, (pss_cons (ps_set (i := 1) nd rfl (Or.inl rfl) (pe_lst pa_nil))
  (pss_cons (ps_for PassesOwn.never rfl (pi_range1 rfl T.b_range (pa_cons (pe_callB call_lenU rfl T.b_len PySem.boot_len (pa_cons (pe_ix ix_seq (pv 0) pe_int (fun _ _ => rfl)) pa_nil)) pa_nil)) (pg_name (i := 2) nd rfl (Or.inr rfl))
  (pss_one (ps_set (i := 1) nd rfl (Or.inl rfl) (pe_op op_addU (pv 1) (pe_comp (N' := ["_law_k", "_law_net_here", "_law_other"]) (ρ := [some 2, some 0, none]) rfl (CompSc.of rfl (by kernel_rfl)) (pi_seq (pe_slice sl_Q (pe_ix ix_seq (pv 0) pe_int (fun _ _ => rfl)) (po_some (pe_op op_addU (pv 2) pe_int)) po_none)) (fun _ _ _ _ _ => (pg_name (i := 2) (by show (["_law_k", "_law_net_here", "_law_other"] : List Str).Nodup; decide +kernel) rfl (Or.inl rfl))) (gk_name rfl) (fun _ _ _ _ _ => (pts_one (pt_val (pe_cal C_l_tied hr_l_tied rfl pass0 (pa_cons (pv 1) (pa_cons (pe_ix ix_seq (pe_ix ix_seq (pv 1) pe_int (fun _ _ => rfl)) (pv 0) (fun _ _ => rfl)) (pa_cons (pv 2) pa_nil))))))) (fun _ _ _ _ _ => (pe_tup (pa_cons (pe_ix ix_seq (pe_ix ix_seq (pv 1) pe_int (fun _ _ => rfl)) (pv 0) (fun _ _ => rfl)) (pa_cons (pv 2) pa_nil)))))))))
  (pss_one (ps_ret (pv 1))))),
    _root_.A.runD (N := ["_law_net_here", "_law_found", "_law_k"]) (M := Mo []) (as_seq (as_set 1 rfl (AE.nv (a_lst aa_nil)))
  (as_seq (as_for (K := K) (tg := (.n 2)) (ai_range1 (AE.p (a_cb b_len (aa_cons (AE.p (a_bin b_ix (AE.p (a_var 0 rfl)) (AE.p a_int))) aa_nil)))) (by decide)
  (as_set 1 rfl (a_bin b_add (AE.p (a_var 1 rfl)) (AE.np (a_comp (K := K) (tg := (.n 2)) (ai_seqC (AE.p (a_sl b_slQ (AE.p (a_bin b_ix (AE.p (a_var 0 rfl)) (AE.p a_int))) (ao_some (AE.p (a_bin b_add (AE.p (a_var 2 rfl)) (AE.p a_int)))) ao_none))) (by decide) (at_b (AE.p (a_call (aw_cons (AE.w (a_var 1 rfl)) (aw_cons (AE.w (a_bin b_ix (AE.p (a_bin b_ix (AE.p (a_var 1 rfl)) (AE.p a_int))) (AE.p (a_var 0 rfl)))) (aw_cons (AE.w (a_var 2 rfl)) aw_nil)))))) (a_tup (aa_cons (a_bin b_ix (AE.p (a_bin b_ix (AE.p (a_var 1 rfl)) (AE.p a_int))) (AE.p (a_var 0 rfl))) (aa_cons (a_var 2 rfl) aa_nil))))))))
  (as_ret (AE.w (a_var 1 rfl))))) (by decide) h⟩)
abbrev s_l_corners : Stmt := top 23
theorem sc_l_corners : FnScope ["_law_net_here", "_law_found", "_law_k", "_law_one", "_law_middle", "_law_other", "_law_meet"] ["_law_net_here"] (defScope s_l_corners) := ⟨rfl, rfl, rfl, by decide +kernel, rfl, by decide +kernel, by decide +kernel⟩
theorem ok_l_corners {f : Addr} {fd : FuncData} (F : Fun K "_law_corners" "_law_corners" s_l_corners f fd) (T : Txt mg) (C_l_tied : Cal P w K mg base CX0 1 "_law_tied" ["_law_net_here", "_law_one", "_law_other"] (spD m_l_tied)) : FnOk P w K mg base CX0 2 f fd ["_law_net_here"] (spN m_l_corners) :=
  F.ok sc_l_corners (fun vs H Q E h => lenN h) (fun cdv A outer s H vs Q E hr h => by
    have nd := sc_l_corners.nd
    have hu := hu_of hr
    have hu64 := hr.units
    have hr_l_tied := hr.mono (show 1 ≤ _ by decide)
    exact ⟨_, (pss_cons (ps_set (i := 1) nd rfl (Or.inl rfl) (pe_lst pa_nil))
  (pss_cons (ps_for PassesOwn.never rfl (Zp.pi_enumq rfl T.b_enumerate (pe_ix ix_seq (pv 0) pe_int (fun _ _ => rfl))) (pg_tup rfl (pgs_cons (pg_name (i := 2) nd rfl (Or.inl rfl)) (pgs_cons (pg_name (i := 3) nd rfl (Or.inl rfl)) pgs_nil)))
  (pss_one (ps_for PassesOwn.never rfl (pi_seq (pe_ix ix_seq (pv 0) pe_int (fun _ _ => rfl))) (pg_name (i := 4) nd rfl (Or.inl rfl))
  (pss_one (ps_for PassesOwn.never rfl (pi_seq (pe_slice sl_Q (pe_ix ix_seq (pv 0) pe_int (fun _ _ => rfl)) (po_some (pe_op op_addU (pv 2) pe_int)) po_none)) (pg_name (i := 5) nd rfl (Or.inl rfl))
  (pss_cons (ps_set (i := 6) nd rfl (Or.inl rfl) (pe_and (pe_cmpR (op_inU hu64) (pe_tup (pa_cons (pv 3) (pa_cons (pv 4) pa_nil))) (pe_ix ix_seq (pv 0) pe_int (fun _ _ => rfl)) rfl) (pe_one (pe_cmpR (op_inU hu64) (pe_tup (pa_cons (pv 5) (pa_cons (pv 4) pa_nil))) (pe_ix ix_seq (pv 0) pe_int (fun _ _ => rfl)) rfl))))
  (pss_one (ps_if (PW.pt (pw_and (pt_truth (pv 6) (by intro _; rfl)) (pw_and1 (pt_not (pt_val (pe_cal C_l_tied hr_l_tied rfl pass0 (pa_cons (pv 0) (pa_cons (pv 3) (pa_cons (pv 5) pa_nil)))))))))
  (pss_one (ps_expr (pe_bm PySem.F.plainAttrs_list PySem.F.slot_list_append PySem.F.type_list_append mt_append (pv 1) (pa_cons (pe_tup (pa_cons (pv 3) (pa_cons (pv 4) (pa_cons (pv 5) pa_nil)))) pa_nil))))
  pss_nil))))))))
  (pss_one (ps_ret (pv 1))))),
    _root_.A.runN (N := ["_law_net_here", "_law_found", "_law_k", "_law_one", "_law_middle", "_law_other", "_law_meet"]) (M := Mo [1]) (as_seq (as_new 1 rfl (a_lst aa_nil))
  (as_seq (as_for (K := K) (tg := (.t [2, 3])) (Zp.ai_enumq (a_bin b_ix (AE.p (a_var 0 rfl)) (AE.p a_int))) (by decide)
  (as_for (K := K) (tg := (.n 4)) (ai_seq (a_bin b_ix (AE.p (a_var 0 rfl)) (AE.p a_int))) (by decide)
  (as_for (K := K) (tg := (.n 5)) (ai_seq (a_sl b_slQ (AE.p (a_bin b_ix (AE.p (a_var 0 rfl)) (AE.p a_int))) (ao_some (AE.p (a_bin b_add (AE.p (a_var 2 rfl)) (AE.p a_int)))) ao_none)) (by decide)
  (as_seq (as_set 6 rfl (a_and (AE.p (a_bin b_in (AE.p (a_tup (aa_cons (a_var 3 rfl) (aa_cons (a_var 4 rfl) aa_nil)))) (AE.p (a_bin b_ix (AE.p (a_var 0 rfl)) (AE.p a_int))))) (a_bin b_in (AE.p (a_tup (aa_cons (a_var 5 rfl) (aa_cons (a_var 4 rfl) aa_nil)))) (AE.p (a_bin b_ix (AE.p (a_var 0 rfl)) (AE.p a_int))))))
  (as_if (at_and (at_truth (AE.p (a_var 6 rfl))) (at_not (at_b (AE.p (a_call (aw_cons (AE.w (a_var 0 rfl)) (aw_cons (AE.w (a_var 3 rfl)) (aw_cons (AE.w (a_var 5 rfl)) aw_nil))))))))
  (as_append 1 rfl (a_tup (aa_cons (a_var 3 rfl) (aa_cons (a_var 4 rfl) (aa_cons (a_var 5 rfl) aa_nil)))))
  as_next)))))
  (as_retOwn 1 rfl))) (by decide) h⟩)
abbrev s_l_right : Stmt := top 24
theorem sc_l_right : FnScope ["_law_net_here", "_law_way"] ["_law_net_here", "_law_way"] (defScope s_l_right) := ⟨rfl, rfl, rfl, by decide +kernel, rfl, by decide +kernel, by decide +kernel⟩
theorem ok_l_right {f : Addr} {fd : FuncData} (F : Fun K "_law_right" "_law_right" s_l_right f fd) (T : Txt mg) (C_ties_of : Cal P w K mg base CX0 3 "ties_of" ["net"] (spN m_ties_of)) (C_corners_of : Cal P w K mg base CX0 5 "corners_of" ["net"] (spN m_corners_of)) (C_l_alike : ∀ n, Cal P w K mg base CX0 (n + 1) "_law_alike" ["_law_found", "_law_due"] (spD (m_l_alike n))) (C_l_ties : Cal P w K mg base CX0 2 "_law_ties" ["_law_net_here"] (spD m_l_ties)) (C_l_corners : Cal P w K mg base CX0 2 "_law_corners" ["_law_net_here"] (spN m_l_corners)) : FnOk P w K mg base CX0 6 f fd ["_law_net_here", "_law_way"] (spD m_l_right_2) :=
  F.ok sc_l_right (fun vs H Q E h => lenD h) (fun cdv A outer s H vs Q E hr h => by
    have nd := sc_l_right.nd
    have hu := hu_of hr
    have hu64 := hr.units
    have hr_ties_of := hr.mono (show 3 ≤ _ by decide)
    have hr_corners_of := hr.mono (show 5 ≤ _ by decide)
    have hr_l_alike := hr.mono (show (3 + 1) ≤ _ by decide)
    have hr_l_ties := hr.mono (show 2 ≤ _ by decide)
    have hr_l_corners := hr.mono (show 2 ≤ _ by decide)
    exact ⟨_, (pss_cons (ps_if (PW.pt (pw_and (pt_cmpR (op_eqD hu64) (pv 1) pe_int (nomark _)) (pw_and1 (pt_not (pt_val (pe_cal (C_l_alike 3) hr_l_alike rfl pass0 (pa_cons (pe_cal C_corners_of hr_corners_of rfl pass0 (pa_cons (pv 0) pa_nil)) (pa_cons (pe_cal C_l_corners hr_l_corners rfl pass0 (pa_cons (pv 0) pa_nil)) pa_nil))))))))
  (pss_one (ps_ret pe_bl))
  pss_nil)
  (pss_cons (ps_if (pt_not (pt_val (pe_cal (C_l_alike 3) hr_l_alike rfl pass0 (pa_cons (pe_cal C_ties_of hr_ties_of rfl pass0 (pa_cons (pv 0) pa_nil)) (pa_cons (pe_cal C_l_ties hr_l_ties rfl pass0 (pa_cons (pv 0) pa_nil)) pa_nil)))))
  (pss_one (ps_ret pe_bl))
  pss_nil)
  (pss_one (ps_ret (pe_cal (C_l_alike 3) hr_l_alike rfl pass0 (pa_cons (pe_cal C_corners_of hr_corners_of rfl pass0 (pa_cons (pv 0) pa_nil)) (pa_cons (pe_cal C_l_corners hr_l_corners rfl pass0 (pa_cons (pv 0) pa_nil)) pa_nil))))))),
    _root_.A.runD (N := ["_law_net_here", "_law_way"]) (M := Mo []) (as_seq (as_if (at_and (at_test (AE.p (a_bin b_eq (AE.p (a_var 1 rfl)) (AE.p a_int)))) (at_not (at_b (AE.p (a_call (aw_cons (AW.nv (AE.w (a_callN (aw_cons (AE.w (a_var 0 rfl)) aw_nil)))) (aw_cons (AW.nv (AE.w (a_callN (aw_cons (AE.w (a_var 0 rfl)) aw_nil)))) aw_nil)))))))
  (as_ret (AE.w a_bl))
  as_next)
  (as_seq (as_if (at_not (at_b (AE.p (a_call (aw_cons (AW.nv (AE.w (a_callN (aw_cons (AE.w (a_var 0 rfl)) aw_nil)))) (aw_cons (AE.w (a_call (aw_cons (AE.w (a_var 0 rfl)) aw_nil))) aw_nil))))))
  (as_ret (AE.w a_bl))
  as_next)
  (as_ret (AE.w (a_call (aw_cons (AW.nv (AE.w (a_callN (aw_cons (AE.w (a_var 0 rfl)) aw_nil)))) (aw_cons (AW.nv (AE.w (a_callN (aw_cons (AE.w (a_var 0 rfl)) aw_nil)))) aw_nil))))))) (by decide) h⟩)
abbrev s_law : Stmt := top 25
theorem sc_law : FnScope ["_law_script", "_law_net_here", "_law_cell_here", "_law_other", "_law_ties_here", "_law_corners_here", "_law_held"] ["_law_script"] (defScope s_law) := ⟨rfl, rfl, rfl, by decide +kernel, rfl, by decide +kernel, by decide +kernel⟩
theorem ok_law {f : Addr} {fd : FuncData} (F : Fun K "law" "law" s_law f fd) (T : Txt mg) (C_ties_of : Cal P w K mg base CX0 3 "ties_of" ["net"] (spN m_ties_of)) (C_corners_of : Cal P w K mg base CX0 5 "corners_of" ["net"] (spN m_corners_of)) (C_l_cell : Cal P w K mg base CX0 1 "_law_cell" ["_law_script", "_law_k"] (spD m_l_cell)) (C_l_net : Cal P w K mg base CX0 2 "_law_net" ["_law_script", "_law_most"] (spD m_l_net_2)) (C_l_spoiled : Cal P w K mg base CX0 2 "_law_spoiled" ["_law_names", "_law_arrows", "_law_cell_here"] (spD m_l_spoiled)) (C_l_sorted : Cal P w K mg base CX0 1 "_law_sorted" ["_law_names", "_law_arrows"] (spD m_l_sorted)) (C_l_right : Cal P w K mg base CX0 6 "_law_right" ["_law_net_here", "_law_way"] (spD m_l_right_2)) : FnOk P w K mg base CX0 7 f fd ["_law_script"] (spD m_law_k20) :=
  F.ok sc_law (fun vs H Q E h => lenD h) (fun cdv A outer s H vs Q E hr h => by
    have nd := sc_law.nd
    have hu := hu_of hr
    have hu64 := hr.units
    have hr_ties_of := hr.mono (show 3 ≤ _ by decide)
    have hr_corners_of := hr.mono (show 5 ≤ _ by decide)
    have hr_l_cell := hr.mono (show 1 ≤ _ by decide)
    have hr_l_net := hr.mono (show 2 ≤ _ by decide)
    have hr_l_spoiled := hr.mono (show 2 ≤ _ by decide)
    have hr_l_sorted := hr.mono (show 1 ≤ _ by decide)
    have hr_l_right := hr.mono (show 6 ≤ _ by decide)
    exact ⟨_, (pss_cons (ps_set (i := 1) nd rfl (Or.inl rfl) (pe_cal C_l_net hr_l_net rfl pass0 (pa_cons (pv 0) (pa_cons pe_int pa_nil))))
  (pss_cons (ps_set (i := 2) nd rfl (Or.inl rfl) (pe_cal C_l_cell hr_l_cell rfl pass0 (pa_cons (pv 0) (pa_cons pe_int pa_nil))))
  (pss_cons (ps_set (i := 3) nd rfl (Or.inl rfl) (pe_cal C_l_sorted hr_l_sorted rfl pass0 (pa_cons (pe_ix ix_seq (pv 1) pe_int (fun _ _ => rfl)) (pa_cons (pe_cal C_l_spoiled hr_l_spoiled rfl pass0 (pa_cons (pe_ix ix_seq (pv 1) pe_int (fun _ _ => rfl)) (pa_cons (pe_callTy call_listU rfl T.b_list boot_list (pa_cons (pe_ix ix_seq (pv 1) pe_int (fun _ _ => rfl)) pa_nil)) (pa_cons (pe_op op_fdivB (pv 2) pe_int) pa_nil)))) pa_nil))))
  (pss_cons (ps_if (pt_not (pt_val (pe_cal C_l_right hr_l_right rfl pass0 (pa_cons (pv 1) (pa_cons (pe_op op_mod (pv 2) pe_int) pa_nil)))))
  (pss_one (ps_ret pe_bl))
  pss_nil)
  (pss_cons (ps_set (i := 4) nd rfl (Or.inl rfl) (pe_cal C_ties_of hr_ties_of rfl pass0 (pa_cons (pv 1) pa_nil)))
  (pss_cons (ps_set (i := 5) nd rfl (Or.inl rfl) (pe_cal C_corners_of hr_corners_of rfl pass0 (pa_cons (pv 1) pa_nil)))
  (pss_cons (ps_set (i := 6) nd rfl (Or.inl rfl) (pe_lst (pa_cons (pe_callTy call_listU rfl T.b_list boot_list (pa_cons (pv 4) pa_nil)) (pa_cons (pe_callTy call_listU rfl T.b_list boot_list (pa_cons (pv 5) pa_nil)) pa_nil))))
  (pss_cons (ps_if (PW.pt (pw_or (pt_not (pt_val (pe_cal C_l_right hr_l_right rfl pass0 (pa_cons (pv 3) (pa_cons (pe_op op_sub pe_int (pe_op op_mod (pv 2) pe_int)) pa_nil))))) (pw_or1 (pt_cmpR (op_neD hu64) (pe_lst (pa_cons (pv 4) (pa_cons (pv 5) pa_nil))) (pv 6) (nomark _)))))
  (pss_one (ps_ret pe_bl))
  pss_nil)
  (pss_cons (ps_expr (pe_bm0 PySem.F.plainAttrs_list PySem.F.slot_list_clear PySem.F.type_list_clear mt_clear (pv 4)))
  (pss_cons (ps_expr (pe_bm0 PySem.F.plainAttrs_list PySem.F.slot_list_clear PySem.F.type_list_clear mt_clear (pv 5)))
  (pss_one (ps_ret (pe_cal C_l_right hr_l_right rfl pass0 (pa_cons (pv 1) (pa_cons pe_int pa_nil))))))))))))))),
    _root_.A.runD (N := ["_law_script", "_law_net_here", "_law_cell_here", "_law_other", "_law_ties_here", "_law_corners_here", "_law_held"]) (M := Mo [4, 5]) (as_seq (as_set 1 rfl (a_call (aw_cons (AE.w (a_var 0 rfl)) (aw_cons (AE.w a_int) aw_nil))))
  (as_seq (as_set 2 rfl (a_call (aw_cons (AE.w (a_var 0 rfl)) (aw_cons (AE.w a_int) aw_nil))))
  (as_seq (as_set 3 rfl (a_call (aw_cons (AE.w (a_bin b_ix (AE.p (a_var 1 rfl)) (AE.p a_int))) (aw_cons (AE.w (a_call (aw_cons (AE.w (a_bin b_ix (AE.p (a_var 1 rfl)) (AE.p a_int))) (aw_cons (AW.nv (AE.w (a_cb b_list (aa_cons (AE.p (a_bin b_ix (AE.p (a_var 1 rfl)) (AE.p a_int))) aa_nil)))) (aw_cons (AE.w (a_bin b_div (AE.p (a_var 2 rfl)) (AE.p a_int))) aw_nil))))) aw_nil))))
  (as_seq (as_if (at_not (at_b (AE.p (a_call (aw_cons (AE.w (a_var 1 rfl)) (aw_cons (AE.w (a_bin b_mod (AE.p (a_var 2 rfl)) (AE.p a_int))) aw_nil))))))
  (as_ret (AE.w a_bl))
  as_next)
  (as_seq (as_new 4 rfl (a_callN (aw_cons (AE.w (a_var 1 rfl)) aw_nil)))
  (as_seq (as_new 5 rfl (a_callN (aw_cons (AE.w (a_var 1 rfl)) aw_nil)))
  (as_seq (as_set 6 rfl (AE.nv (a_lst (aa_cons (AE.nv (a_cb b_list (aa_cons (a_varP 4) aa_nil))) (aa_cons (AE.nv (a_cb b_list (aa_cons (a_varP 5) aa_nil))) aa_nil)))))
  (as_seq (as_if (at_or (at_not (at_b (AE.p (a_call (aw_cons (AE.w (a_var 3 rfl)) (aw_cons (AE.w (a_bin b_sub (AE.p a_int) (AE.p (a_bin b_mod (AE.p (a_var 2 rfl)) (AE.p a_int))))) aw_nil)))))) (at_test (AE.p (a_lend (a_bin b_ne (AE.np (a_lst (aa_cons (a_var 4 rfl) (aa_cons (a_var 5 rfl) aa_nil)))) (AE.p (a_var 6 rfl)))))))
  (as_ret (AE.w a_bl))
  as_next)
  (as_seq (as_clear 4 rfl)
  (as_seq (as_clear 5 rfl)
  (as_ret (AE.w (a_call (aw_cons (AE.w (a_var 1 rfl)) (aw_cons (AE.w a_int) aw_nil))))))))))))))) (by decide) h⟩)
end
end Mk20
set_option Elab.async false
set_option linter.all false
set_option maxRecDepth 100000
set_option maxHeartbeats 1000000
namespace L2
open PySem PySem.Spec PyProof.Rows
theorem FnD.law2 {P : Program} {w : World} {K : PySem.W.Frag} {mg : Str → Option Value} {CX : CXT} {k : Nat} {x p : Str} {st : Stmt} {sp : Sp} {fa c T : Addr} (F : FnD K mg x st [p]) (hm : mg x = some (.ref fa)) (h : ∀ base, K.In base → base.Ns mainGlobals mg → BM mg base → PySem.W.CodeHd base c T → ∀ f fd, Fun K x x st f fd → FnOk P w K mg base CX k f fd [p] sp) :
    ∃ fd : FuncData, (∀ (s : Shared) (u : Value), BindsTo s fd ⟨[u], []⟩ [(p, u)]) ∧ ∀ base : Heap, K.In base → base.Ns mainGlobals mg → BM mg base → PySem.W.CodeHd base c T → FnOk P w K mg base CX k fa fd [p] sp := by
  obtain ⟨f, fd, h1, h2, h3, h5, h4⟩ := F.ex
  rw [h1] at hm; cases hm
  exact ⟨fd, fun s u => h5 s [u] rfl, fun base kb nb b1 b2 => h base kb nb b1 b2 _ fd h4⟩
theorem calR {P : Program} {w : World} {K : PySem.W.Frag} {mg : Str → Option Value} {base : Heap} {CX : CXT} {lv : Nat → Nat} {x : Str} {st : Stmt} {ps : List Str} {sp : Nat → Sp} (F : FnD K mg x st ps)
    (h : ∀ f fd, Fun K x x st f fd → (∀ n, FnOk P w K mg base CX (lv n) f fd ps (sp n) → Cal P w K mg base CX (lv n) x ps (sp n)) → ∀ n, FnOk P w K mg base CX (lv n) f fd ps (sp n)) (n : Nat) : Cal P w K mg base CX (lv n) x ps (sp n) := by
  obtain ⟨f, fd, h1, h2, h3, _, h4⟩ := F.ex
  have self : ∀ n, FnOk P w K mg base CX (lv n) f fd ps (sp n) → Cal P w K mg base CX (lv n) x ps (sp n) := fun n k => ⟨f, fd, h1, h2, h3, k⟩
  exact self n (h f fd h4 self n)
def noLst (K : PySem.W.Frag) : Bool := K.all fun p => match p.2.cls with | .type "list" => false | _ => true
theorem noLst_of {K : PySem.W.Frag} (h : noLst K = true) {a : Addr} {o : Obj} (e : K.lookup a = some o) (c : o.cls = .type "list") : False := by
  have hm : (a, o) ∈ K := by
    clear h
    induction K with
    | nil => cases e
    | cons p r ih =>
      obtain ⟨b, x⟩ := p
      simp only [List.lookup] at e
      split at e
      · rename_i q; cases e; rw [beq_iff_eq.mp q]; exact List.Mem.head _
      · exact List.Mem.tail _ (ih e)
  have h2 := List.all_eq_true.mp h _ hm
  simp only [c] at h2
  cases h2
end L2
set_option linter.all false
namespace Mi
open PySem
@[simp] theorem ofO_some {α : Type} (a : α) : ofO (some a) = .ok a := rfl
@[simp] theorem guard_true {α : Type} {c : Prop} [Decidable c] (h : c) (r : Rs α) : guardR c r = r := if_pos h
@[simp] theorem pyEq_str (a b : Str) : pyEq (.str a) (.str b) = decide (a = b) := by rw [pyEq]; by_cases h : a = b <;> simp [h]
@[simp] theorem pyEq_int (a b : Int) : pyEq (.int a) (.int b) = decide (a = b) := by rw [pyEq]; by_cases h : a = b <;> simp [h]
@[simp] theorem dep_str (x : Str) : (D.str x).dep = 0 := by simp [D.dep]
@[simp] theorem dep_int (x : Int) : (D.int x).dep = 0 := by simp [D.dep]
@[simp] theorem dep_bl (x : Bool) : (D.bl x).dep = 0 := by simp [D.dep]
@[simp] theorem dep_non : D.non.dep = 0 := by simp [D.dep]
@[simp] theorem dep_lst (ds : List D) : (D.lst ds).dep = depAll ds + 1 := by simp [D.dep]
@[simp] theorem dep_tup (ds : List D) : (D.tup ds).dep = depAll ds + 1 := by simp [D.dep]
@[simp] theorem depAll_nil : depAll [] = 0 := rfl
@[simp] theorem depAll_cons (d : D) (r : List D) : depAll (d :: r) = max d.dep (depAll r) := by rw [depAll]
@[simp] theorem depAll_str : ∀ xs : List Str, depAll (xs.map D.str) = 0
  | [] => rfl
  | x :: r => by rw [List.map_cons, depAll_cons, dep_str, depAll_str r]; rfl
theorem any_str (xs : List Str) (x : Str) : ((xs.map D.str).any fun e => pyEq e (.str x)) = decide (x ∈ xs) := by
  induction xs with
  | nil => rfl
  | cons y r ih =>
    rw [List.map_cons, List.any_cons, ih, pyEq_str]
    by_cases h : y = x
    · simp [h]
    · have h2 : ¬ x = y := fun z => h z.symm
      simp [h, h2]
theorem dIn_str (xs : List Str) (x : Str) : dIn (.str x) (.lst (xs.map D.str)) = .ok (.bl (decide (x ∈ xs))) := by
  show guardR _ _ = _
  rw [guardR_pos (by rw [depAll_str]; omega), any_str]
theorem dNotInT_str (xs : List Str) (x : Str) : dNotIn (.str x) (.tup (xs.map D.str)) = .ok (.bl (!decide (x ∈ xs))) := by
  show guardR _ _ = _
  rw [guardR_pos (by rw [depAll_str]; omega), any_str]
theorem dEq_str (x y : Str) : dEq (.str x) (.str y) = .ok (.bl (decide (x = y))) := by
  show guardR _ _ = _
  rw [guardR_pos (by simp), pyEq_str]
theorem dNe_str (x y : Str) : dNe (.str x) (.str y) = .ok (.bl (!decide (x = y))) := by
  show guardR _ _ = _
  rw [guardR_pos (by simp), pyEq_str]
theorem dEq_int (x y : Int) : dEq (.int x) (.int y) = .ok (.bl (decide (x = y))) := by
  show guardR _ _ = _
  rw [guardR_pos (by simp), pyEq_int]
theorem dNe_int (x y : Int) : dNe (.int x) (.int y) = .ok (.bl (!decide (x = y))) := by
  show guardR _ _ = _
  rw [guardR_pos (by simp), pyEq_int]
theorem asSs_map (xs : List Str) : asSs (xs.map D.str) = some xs := by
  induction xs with
  | nil => rfl
  | cons a r ih => rw [List.map_cons, asSs, ih]; rfl
theorem fnM1 (n : Nat) (b : S) (a0 : W) : fnM 1 n b [a0] = (b ([some a0] ++ List.replicate (n - 1) none)).bind fnOut := guardR_pos rfl
theorem fnM2 (n : Nat) (b : S) (a0 a1 : W) : fnM 2 n b [a0, a1] = (b ([some a0, some a1] ++ List.replicate (n - 2) none)).bind fnOut := guardR_pos rfl
theorem fnM3 (n : Nat) (b : S) (a0 a1 a2 : W) : fnM 3 n b [a0, a1, a2] = (b ([some a0, some a1, some a2] ++ List.replicate (n - 3) none)).bind fnOut := guardR_pos rfl
theorem fnN1 (n : Nat) (b : S) (a0 : W) : fnN 1 n b [a0] = (b ([some a0] ++ List.replicate (n - 1) none)).bind fnOutN := guardR_pos rfl
theorem fnN2 (n : Nat) (b : S) (a0 a1 : W) : fnN 2 n b [a0, a1] = (b ([some a0, some a1] ++ List.replicate (n - 2) none)).bind fnOutN := guardR_pos rfl
theorem add_ii (i j : Int) : dAdd (.int i) (.int j) = .ok (.int (i + j)) := rfl
theorem add_ss (i j : Str) : dAdd (.str i) (.str j) = guardR (i.length + j.length ≤ 16777216) (.ok (.str (i ++ j))) := rfl
theorem sub_ii (i j : Int) : dSub (.int i) (.int j) = .ok (.int (i - j)) := rfl
theorem mul_ii (i j : Int) : dMulI (.int i) (.int j) = guardR (okMul i j) (.ok (.int (i * j))) := rfl
theorem div_ii (i j : Int) : dDiv (.int i) (.int j) = guardR (okDiv j) (.ok (.int (i / j))) := rfl
theorem mod_ii (i j : Int) : dMod (.int i) (.int j) = guardR (0 < j) (.ok (.int (i % j))) := rfl
theorem lt_ii (i j : Int) : dLt (.int i) (.int j) = .ok (.bl (decide (i < j))) := rfl
theorem len_l (ds : List D) : bLen [.lst ds] = .ok (.int ds.length) := rfl
theorem len_t (ds : List D) : bLen [.tup ds] = .ok (.int ds.length) := rfl
theorem max_ii (i j : Int) : bMax [.int i, .int j] = .ok (.int (max i j)) := rfl
theorem min_ii (i j : Int) : bMin [.int i, .int j] = .ok (.int (min i j)) := rfl
theorem sl_s (z : Str) (lo hi : Option Int) : dSl (.str z) lo hi = guardR (z.length ≤ 16777216) (.ok (.str (cutStr z lo hi))) := rfl
theorem items_l (ds : List D) : dItems (.lst ds) = .ok ds := rfl
theorem asB_b (b : Bool) : asB (.bl b) = .ok b := rfl
theorem asI_i (b : Int) : asI (.int b) = .ok b := rfl
theorem asD_d (x : D) : asD (.d x) = .ok x := rfl
theorem put_n (i : Nat) (d : D) (e : Mi.Env) : (Tg.n i).put d e = .ok (e.set i (some (.d d))) := rfl
theorem all_cons (i : Nat) (is : List Nat) (d : D) (ds : List D) (e : Mi.Env) : setAll (i :: is) (d :: ds) e = setAll is ds (e.set i (some (.d d))) := rfl
theorem out_nx (e : Mi.Env) : fnOut (.nx e) = .ok (.d .non) := rfl
theorem outN_rt (w : W) : fnOutN (.rt w) = .ok w := rfl
theorem m2_ok {f : D → D → Rs D} {a b : E} {e : Mi.Env} {x y : D} {z : Rs D} (ha : a e = .ok x) (hb : b e = .ok y) (h : f x y = z) : m2 f a b e = z := by
  unfold m2; rw [ha, bind_ok, hb, bind_ok, h]
theorem seq_ok {s t : S} {e e' : Mi.Env} (h : s e = .ok (.nx e')) : sSeq s t e = t e' := by unfold sSeq; rw [h]; rfl
theorem seq_rt {s t : S} {e : Mi.Env} {w : W} (h : s e = .ok (.rt w)) : sSeq s t e = .ok (.rt w) := by unfold sSeq; rw [h]; rfl
theorem set_ok {i : Nat} {a : E} {e : Mi.Env} {d : D} (h : a e = .ok d) : sSet i a e = .ok (.nx (e.set i (some (.d d)))) := by unfold sSet; rw [h]; rfl
theorem ret_ok {a : EW} {e : Mi.Env} {w : W} (h : a e = .ok w) : sRet a e = .ok (.rt w) := by unfold sRet; rw [h]; rfl
theorem wD_ok {a : E} {e : Mi.Env} {d : D} (h : a e = .ok d) : wD a e = .ok (.d d) := by unfold wD; rw [h]; rfl
theorem if_tt {c : C} {s t : S} {e : Mi.Env} (h : c e = .ok true) : sIf c s t e = s e := by unfold sIf; rw [h]; rfl
theorem if_ff {c : C} {s t : S} {e : Mi.Env} (h : c e = .ok false) : sIf c s t e = t e := by unfold sIf; rw [h]; rfl
theorem cB_ok {a : E} {e : Mi.Env} {b : Bool} (h : a e = .ok (.bl b)) : cB a e = .ok b := by unfold cB; rw [h]; rfl
theorem comp_ok {ρ : List (Option Nat)} {it : I} {tg : Tg} {c : C} {a : E} {e : Mi.Env} {xs ys : List D} (h : it e = .ok xs) (hl : xs.length ≤ 16777216) (hc : compD tg c a (pickE ρ e) xs = .ok ys) : mComp ρ it tg c a e = .ok (.lst ys) := by
  unfold mComp; rw [h, bind_ok, guardR_pos hl, hc, bind_ok]
theorem rng_ok {a : E} {e : Mi.Env} {n : Int} (h : a e = .ok (.int n)) (hr : okR n) : iRange1 a e = .ok (dRange 0 n) := by
  unfold iRange1; rw [h, bind_ok, asI_i, bind_ok, guardR_pos hr]
theorem for_ok {it : I} {tg : Tg} {b : S} {e : Mi.Env} {xs : List D} (h : it e = .ok xs) : sFor it tg b e = forD tg b xs e := by unfold sFor; rw [h]; rfl
theorem iOf_ok {a : E} {e : Mi.Env} {x : D} {xs : List D} (h : a e = .ok x) (hx : dItems x = .ok xs) : iOf a e = .ok xs := by unfold iOf; rw [h, bind_ok, hx]
theorem append_ok {i : Nat} {a : E} {e : Mi.Env} {d : D} {ds : List D} (h : a e = .ok d) (hg : getL e i = .ok ds) (hl : ds.length < 16777216) : sAppend i a e = .ok (.nx (putL e i (ds ++ [d]))) := by
  unfold sAppend; rw [h, bind_ok, hg, bind_ok, guardR_pos hl]
theorem n1_ok {f : List D → Rs D} {a : E} {e : Mi.Env} {x : D} (h : a e = .ok x) : mN f [a] e = f [x] := by unfold mN; rw [mArgs, h]; rfl
theorem n2_ok {f : List D → Rs D} {a b : E} {e : Mi.Env} {x y : D} (h : a e = .ok x) (h' : b e = .ok y) : mN f [a, b] e = f [x, y] := by unfold mN; rw [mArgs, h, bind_ok, mArgs, h']; rfl
theorem lst1 {a : E} {e : Mi.Env} {x : D} (h : a e = .ok x) : mN dLst [a] e = .ok (.lst [x]) := by
  rw [n1_ok h]
  exact guardR_pos (by simp)
theorem tup2 {a b : E} {e : Mi.Env} {x y : D} (h : a e = .ok x) (h' : b e = .ok y) : mN dTup [a, b] e = .ok (.tup [x, y]) := by
  rw [n2_ok h h']
  exact guardR_pos (by simp)
theorem call1 {f : Fn} {a : EW} {e : Mi.Env} {x : W} {d : D} (h : a e = .ok x) (hf : f [x] = .ok (.d d)) : mCall f [a] e = .ok d := by unfold mCall wCall; rw [mArgsW, h]; simp only [bind_ok, mArgsW, hf, asD_d]
theorem call2 {f : Fn} {a b : EW} {e : Mi.Env} {x y : W} {d : D} (h : a e = .ok x) (h' : b e = .ok y) (hf : f [x, y] = .ok (.d d)) : mCall f [a, b] e = .ok d := by unfold mCall wCall; rw [mArgsW, h, bind_ok, mArgsW, h']; simp only [bind_ok, mArgsW, hf, asD_d]
theorem call3 {f : Fn} {a b c : EW} {e : Mi.Env} {x y z : W} {d : D} (h : a e = .ok x) (h' : b e = .ok y) (h'' : c e = .ok z) (hf : f [x, y, z] = .ok (.d d)) : mCall f [a, b, c] e = .ok d := by unfold mCall wCall; rw [mArgsW, h, bind_ok, mArgsW, h', bind_ok, mArgsW, h'']; simp only [bind_ok, mArgsW, hf, asD_d]
theorem comp_map {α : Type} {tg : Tg} {c : C} {a : E} {e : Mi.Env} (f g : α → D) (p : α → Bool) : ∀ (xs : List α), (∀ x ∈ xs, ∃ e1, tg.put (f x) e = .ok e1 ∧ c e1 = .ok (p x) ∧ (p x = true → a e1 = .ok (g x))) → compD tg c a e (xs.map f) = .ok ((xs.filter p).map g)
  | [], _ => rfl
  | x :: r, h => by
    obtain ⟨e1, h1, h2, h3⟩ := h x List.mem_cons_self
    have ih := comp_map (tg := tg) (c := c) (a := a) (e := e) f g p r fun y hy => h y (List.mem_cons_of_mem _ hy)
    rw [List.map_cons, compD, h1, bind_ok, h2, bind_ok]
    cases hp : p x with
    | true => rw [if_pos rfl, h3 hp, bind_ok, ih, bind_ok, List.filter_cons_of_pos hp]; rfl
    | false => rw [if_neg Bool.false_ne_true, ih, List.filter_cons_of_neg (by rw [hp]; exact Bool.false_ne_true)]
theorem for_inv {tg : Tg} {body : S} (Inv : Nat → Mi.Env → Prop) : ∀ (xs : List D) (k : Nat), (∀ i x e, xs[i]? = some x → Inv (k + i) e → ∃ e1 e2, tg.put x e = .ok e1 ∧ body e1 = .ok (.nx e2) ∧ Inv (k + i + 1) e2) → ∀ e, Inv k e → ∃ e', forD tg body xs e = .ok (.nx e') ∧ Inv (k + xs.length) e'
  | [], k, _, e, h => ⟨e, rfl, h⟩
  | x :: r, k, hs, e, h => by
    obtain ⟨e1, e2, h1, h2, h3⟩ := hs 0 x e rfl h
    obtain ⟨e', h4, h5⟩ := for_inv Inv r (k + 1) (fun i y e hy hi => by
      have := hs (i + 1) y e (by simpa using hy) (by rw [show k + (i + 1) = k + 1 + i by omega]; exact hi)
      rw [show k + (i + 1) + 1 = k + 1 + i + 1 by omega] at this
      exact this) e2 h3
    refine ⟨e', ?_, by rw [List.length_cons, show k + (r.length + 1) = k + 1 + r.length by omega]; exact h5⟩
    rw [forD, h1, bind_ok, h2, bind_ok]
    exact h4
end Mi
set_option linter.all false
namespace Mr
open PySem Mi
abbrev Ar := Str × Str
def pairD (p : Ar) : D := .tup [.str p.1, .str p.2]
def nmD (names : List Str) : D := .tup (names.map D.str)
def arD (arrows : List Ar) : D := .tup (arrows.map pairD)
def netD (names : List Str) (arrows : List Ar) : D := .tup [nmD names, arD arrows]
def strL (xs : List Str) : D := .lst (xs.map D.str)
theorem at0 {α : Type} (a : α) (r : List α) : atI (a :: r) 0 = some a := by simp [atI, ixN]
theorem at1 {α : Type} (a b : α) (r : List α) : atI (a :: b :: r) 1 = some b := by
  unfold atI ixN
  rw [if_pos (by decide), if_pos (by simp only [List.length_cons]; omega)]; rfl
theorem ix0 (names : List Str) (arrows : List Ar) : dIx (netD names arrows) (.int 0) = .ok (nmD names) := by
  unfold netD dIx
  simp [at0]
theorem ix1 (names : List Str) (arrows : List Ar) : dIx (netD names arrows) (.int 1) = .ok (arD arrows) := by
  unfold netD dIx
  simp [at1]
theorem refuse_ok {names asked : List Str} (h : ∀ x ∈ asked, x ∈ names) : m_refuse_strangers [.d (nmD names), .d (strL asked)] = .ok (.d .non) := by
  have key : ∀ (xs : List Str) (o : Option W), (∀ x ∈ xs, x ∈ names) → ∃ o', forD (.n 2) (sIf (cB (m2 dNotIn (mV 2) (mV 0))) sNever sNext) (xs.map D.str) [some (.d (nmD names)), some (.d (strL asked)), o] = .ok (.nx [some (.d (nmD names)), some (.d (strL asked)), o']) := by
    intro xs
    induction xs with
    | nil => exact fun o _ => ⟨o, rfl⟩
    | cons x r ih =>
      intro o hx
      obtain ⟨o', e⟩ := ih (some (.d (.str x))) fun y hy => hx y (List.mem_cons_of_mem _ hy)
      refine ⟨o', ?_⟩
      rw [List.map_cons, forD]
      have : x ∈ names := hx x List.mem_cons_self
      simp only [nmD, put_n, List.set_cons_succ, List.set_cons_zero, sIf, cB, m2, mV, sNext, bind_ok, List.getElem?_cons_succ, List.getElem?_cons_zero, dNotInT_str, this, decide_true, Bool.not_true, asB_b, Bool.false_eq_true, if_false]
      exact e
  obtain ⟨o', e⟩ := key asked none h
  unfold strL at e
  unfold m_refuse_strangers b_refuse_strangers
  rw [fnM2]
  simp only [sFor, iOf, mV, strL, Nat.reduceSub, List.replicate_succ, List.replicate_zero, List.cons_append, List.nil_append, List.getElem?_cons_succ, List.getElem?_cons_zero, bind_ok, items_l, e, out_nx]
structure Net (names : List Str) (arrows : List Ar) : Prop where
  nd : names.Nodup
  pos : 1 ≤ names.length
  le : names.length ≤ 8
  al : arrows.length ≤ 64
  tl : ∀ p ∈ arrows, p.1 ∈ names
  rk : ∃ r : Str → Int, ∀ p ∈ arrows, r p.1 < r p.2
theorem nodup_sub_len {α : Type} [DecidableEq α] : ∀ {l m : List α}, l.Nodup → (∀ x ∈ l, x ∈ m) → l.length ≤ m.length
  | [], _, _, _ => Nat.zero_le _
  | a :: l, m, nd, h => by
    have nd := List.nodup_cons.mp nd
    have : l.length ≤ (m.erase a).length := nodup_sub_len nd.2 fun x hx => (List.mem_erase_of_ne (fun z : x = a => nd.1 (z ▸ hx))).mpr (h x (List.mem_cons_of_mem _ hx))
    have hm := h a List.mem_cons_self
    rw [List.length_erase_of_mem hm] at this
    have : 0 < m.length := List.length_pos_of_mem hm
    rw [List.length_cons]; omega
end Mr
set_option linter.all false
set_option maxRecDepth 10000
namespace Mr
open PySem Mi
end Mr
set_option linter.all false
namespace My
def wl : List Nat := [101, 116, 97, 111, 105, 110, 115, 104, 114, 100, 108, 117, 99, 109, 102, 119, 121, 112, 118, 98, 103, 107, 113, 106, 120, 122]
def lt26 (n : Int) : Nat := wl.getD (n % 26).toNat 0
def wlong (c : Int) : List Nat := (List.range 8).map fun (k : Nat) => lt26 (c / (4 + 3 * (k : Int)))
def wstem (c : Int) (n : Nat) : List Nat := (List.range n).map fun (k : Nat) => lt26 (c / 32 + 5 * (k : Int) + (k : Int) * (k : Int))
def words (c : Int) (many : Nat) : List (List Nat) :=
  if c % 4 < 2 then
    if c % 4 = 0 then (List.range many).map fun (k : Nat) => (wlong c).take (k + 1)
    else (List.range many).map fun (k : Nat) => (wlong c).drop (7 - k)
  else
    (List.range many).map fun (k : Nat) => (wstem c (c / 4 % 8).toNat).take (c / 256 % (c / 4 % 8 + 1)).toNat ++ [lt26 (c / 7 + 5 * (k : Int))] ++ (wstem c (c / 4 % 8).toNat).drop (c / 256 % (c / 4 % 8 + 1)).toNat
theorem wl_nd : wl.Nodup := by decide
theorem wl_len : wl.length = 26 := by decide
theorem lt26_inj {n m : Int} (h : lt26 n = lt26 m) : n % 26 = m % 26 := by
  unfold lt26 at h
  have h1 := Int.emod_nonneg n (b := 26) (by decide)
  have h2 := Int.emod_lt_of_pos n (b := 26) (by decide)
  have h3 : (n % 26).toNat < wl.length := by rw [wl_len]; omega
  have h1' := Int.emod_nonneg m (b := 26) (by decide)
  have h2' := Int.emod_lt_of_pos m (b := 26) (by decide)
  have h3' : (m % 26).toNat < wl.length := by rw [wl_len]; omega
  rw [List.getD_eq_getElem?_getD, List.getElem?_eq_getElem h3, List.getD_eq_getElem?_getD, List.getElem?_eq_getElem h3'] at h
  have := (List.getElem_inj wl_nd).mp h
  omega
theorem wlong_len (c : Int) : (wlong c).length = 8 := by simp [wlong]
theorem wstem_len (c : Int) (n : Nat) : (wstem c n).length = n := by simp [wstem]
theorem words_len (c : Int) (many : Nat) : (words c many).length = many := by
  unfold words; split <;> (try split) <;> simp
theorem nodup_map_range {α : Type} (f : Nat → α) (n : Nat) (h : ∀ i j, i < n → j < n → f i = f j → i = j) : ((List.range n).map f).Nodup := by
  induction n with
  | zero => simp
  | succ n ih =>
    rw [List.range_succ, List.map_append, List.map_singleton]
    rw [List.nodup_append]
    refine ⟨ih fun i j hi hj => h i j (by omega) (by omega), by simp, fun a ha b hb => ?_⟩
    obtain ⟨i, hi, rfl⟩ := List.mem_map.mp ha
    have hi := List.mem_range.mp hi
    have hb : b = f n := by simpa using hb
    subst hb
    intro e
    have := h i n (by omega) (by omega) e
    omega
theorem words_nd (c : Int) (many : Nat) (hm : many ≤ 8) : (words c many).Nodup := by
  unfold words
  split
  · split
    · refine nodup_map_range _ _ fun i j hi hj e => ?_
      have := congrArg List.length e
      rw [List.length_take, List.length_take, wlong_len] at this
      omega
    · refine nodup_map_range _ _ fun i j hi hj e => ?_
      have := congrArg List.length e
      rw [List.length_drop, List.length_drop, wlong_len] at this
      omega
  · refine nodup_map_range _ _ fun i j hi hj e => ?_
    rw [List.append_assoc, List.append_assoc] at e
    have e1 := List.append_cancel_left e
    have e2 := List.append_cancel_right e1
    have e3 : lt26 (c / 7 + 5 * (i : Int)) = lt26 (c / 7 + 5 * (j : Int)) := by simpa using e2
    have := lt26_inj e3
    omega
end My
set_option linter.all false
namespace Mi
open PySem
def S' (l : List Nat) : Str := ⟨l.toArray⟩
theorem S'_list (l : List Nat) : (S' l).cps.toList = l := rfl
theorem S'_len (l : List Nat) : (S' l).length = l.length := by simp [S', Str.length]
theorem str_ext' {x y : Str} (h : x.cps.toList = y.cps.toList) : x = y := by
  obtain ⟨a⟩ := x
  obtain ⟨b⟩ := y
  have h : a.toList = b.toList := h
  rw [Array.toList_inj.mp h]
theorem S'_inj {l m : List Nat} (h : S' l = S' m) : l = m := by
  have := congrArg (fun x : Str => x.cps.toList) h
  simpa [S'] using this
theorem S'_app (l m : List Nat) : S' l ++ S' m = S' (l ++ m) := by
  show (⟨l.toArray ++ m.toArray⟩ : Str) = ⟨(l ++ m).toArray⟩
  simp
theorem join_list' : ∀ l : List Str, (Str.join "" l).cps.toList = l.flatMap (·.cps.toList)
  | [] => by simp [Str.join, Str.empty]
  | [x] => by simp [Str.join]
  | x :: y :: r => by
    have ih := join_list' (y :: r)
    have e : Str.join "" (x :: y :: r) = x ++ "" ++ Str.join "" (y :: r) := rfl
    have e2 : ("" : Str).cps.toList = [] := by decide +kernel
    rw [e]
    show ((x.cps ++ ("" : Str).cps) ++ (Str.join "" (y :: r)).cps).toList = _
    rw [Array.toList_append, Array.toList_append, e2, ih]
    simp
theorem join_ones (l : List Nat) : Str.join "" (l.map fun x => S' [x]) = S' l := by
  refine str_ext' ?_
  rw [join_list', S'_list]
  induction l with
  | nil => rfl
  | cons a r ih => rw [List.map_cons, List.flatMap_cons, ih]; rfl
theorem cut_head {α : Type} (xs : List α) (k : Nat) : cutL xs none (some (k : Int)) = xs.take k := by
  show (xs.drop 0).take ((if (k : Int) < 0 then ((k : Int) + (xs.length : Int)).toNat else min (k : Int).toNat xs.length) - 0) = _
  rw [if_neg (by omega), List.drop_zero, Nat.sub_zero, Int.toNat_natCast]
  rcases Nat.le_total k xs.length with h | h
  · rw [Nat.min_eq_left h]
  · rw [Nat.min_eq_right h, List.take_of_length_le (Nat.le_refl _), List.take_of_length_le h]
theorem cut_tail {α : Type} (xs : List α) (k : Nat) : cutL xs (some (k : Int)) none = xs.drop k := by
  show (xs.drop (if (k : Int) < 0 then ((k : Int) + (xs.length : Int)).toNat else min (k : Int).toNat xs.length)).take (xs.length - (if (k : Int) < 0 then ((k : Int) + (xs.length : Int)).toNat else min (k : Int).toNat xs.length)) = _
  rw [if_neg (by omega), Int.toNat_natCast]
  rcases Nat.le_total k xs.length with h | h
  · rw [Nat.min_eq_left h]
    exact List.take_of_length_le (by rw [List.length_drop]; exact Nat.le_refl _)
  · rw [Nat.min_eq_right h, List.drop_of_length_le (Nat.le_refl _), List.drop_of_length_le h]; simp
theorem cutStr_head (l : List Nat) (k : Nat) : cutStr (S' l) none (some (k : Int)) = S' (l.take k) := by
  unfold cutStr; rw [S'_list, cut_head]; rfl
theorem cutStr_tail (l : List Nat) (k : Nat) : cutStr (S' l) (some (k : Int)) none = S' (l.drop k) := by
  unfold cutStr; rw [S'_list, cut_tail]; rfl
def ltrs' : Str := "etaoinshrdlucmfwypvbgkqjxz"
theorem ltrs'_list : ltrs'.cps.toList = My.wl := by decide +kernel
theorem ltrs'_len : ltrs'.length ≤ 16777216 := by decide +kernel
theorem at_ok {α : Type} {xs : List α} {i : Int} (h0 : 0 ≤ i) (h1 : i < xs.length) (d : α) : atI xs i = some (xs.getD i.toNat d) := by
  unfold atI ixN
  rw [if_pos h0, if_pos h1]
  have h3 : i.toNat < xs.length := by omega
  show xs[i.toNat]? = _
  rw [List.getD_eq_getElem?_getD, List.getElem?_eq_getElem h3]; rfl
theorem at_ltrs (n : Int) : atI ltrs'.cps.toList (n % 26) = some (My.lt26 n) := by
  rw [ltrs'_list]
  have h1 := Int.emod_nonneg n (b := 26) (by decide)
  have h2 := Int.emod_lt_of_pos n (b := 26) (by decide)
  exact at_ok h1 (by rw [My.wl_len]; omega) 0
theorem ix_ints {cs : List Int} {i : Int} (h0 : 0 ≤ i) (h1 : i < cs.length) : dIx (.lst (cs.map D.int)) (.int i) = .ok (.int (cs.getD i.toNat 0)) := by
  show ofO (atI (cs.map D.int) i) = _
  rw [at_ok h0 (by rw [List.length_map]; exact h1) (.int 0), ofO_some]
  have h3 : i.toNat < cs.length := by omega
  rw [List.getD_eq_getElem?_getD, List.getElem?_map, List.getD_eq_getElem?_getD, List.getElem?_eq_getElem h3]; rfl
theorem ix_strs {cs : List Str} {i : Int} (h0 : 0 ≤ i) (h1 : i < cs.length) : dIx (.lst (cs.map D.str)) (.int i) = .ok (.str (cs.getD i.toNat Str.empty)) := by
  show ofO (atI (cs.map D.str) i) = _
  rw [at_ok h0 (by rw [List.length_map]; exact h1) (.str Str.empty), ofO_some]
  have h3 : i.toNat < cs.length := by omega
  rw [List.getD_eq_getElem?_getD, List.getElem?_map, List.getD_eq_getElem?_getD, List.getElem?_eq_getElem h3]; rfl
theorem dRange_map (n : Nat) : dRange 0 (n : Int) = (List.range n).map fun (k : Nat) => D.int (k : Int) := by
  unfold dRange
  rw [show ((n : Int) - 0).toNat = n by omega]
  exact List.map_congr_left fun k _ => by rw [Int.zero_add]
theorem dRange_len (n : Nat) : (dRange 0 (n : Int)).length = n := by rw [dRange_map]; simp
theorem dRange_get {n i : Nat} {x : D} (h : (dRange 0 (n : Int))[i]? = some x) : i < n ∧ x = .int (i : Int) := by
  rw [dRange_map, List.getElem?_map] at h
  cases hr : (List.range n)[i]? with
  | none => rw [hr] at h; cases h
  | some k =>
    rw [hr] at h
    obtain ⟨h1, h2⟩ := List.getElem?_eq_some_iff.mp hr
    rw [List.getElem_range] at h2
    subst h2
    rw [List.length_range] at h1
    exact ⟨h1, (Option.some.inj h).symm⟩
theorem comp_range {tg : Tg} {a : E} {e : Mi.Env} (g : Nat → D) (n : Nat) (h : ∀ k < n, ∃ e1, tg.put (.int (k : Int)) e = .ok e1 ∧ a e1 = .ok (g k)) : compD tg cYes a e (dRange 0 (n : Int)) = .ok ((List.range n).map g) := by
  rw [dRange_map, comp_map (fun (k : Nat) => D.int (k : Int)) g (fun _ => true) (List.range n) fun k hk => ?_]
  · rw [List.filter_eq_self.mpr fun _ _ => rfl]
  · obtain ⟨e1, h1, h2⟩ := h k (List.mem_range.mp hk)
    exact ⟨e1, h1, rfl, fun _ => h2⟩
theorem okR_small {i : Int} (h0 : -1000 ≤ i) (h1 : i ≤ 1000) : okR i := by unfold okR; omega
theorem okMul_l {i j : Int} (h0 : -(2 ^ 64) < i) (h1 : i < 2 ^ 64) : okMul i j := .inl ⟨h0, h1⟩
theorem okMul_r {i j : Int} (h0 : -(2 ^ 64) < j) (h1 : j < 2 ^ 64) : okMul i j := .inr ⟨h0, h1⟩
theorem okDiv_small {j : Int} (h0 : 0 < j) (h1 : j < 2 ^ 64) : okDiv j := by
  refine ⟨h0, ?_⟩
  have h2 : j.natAbs < 2 ^ 64 := by omega
  have h3 : j.natAbs ≠ 0 := by omega
  have := (Nat.log2_lt h3).mpr h2
  omega
end Mi
set_option linter.all false
set_option maxRecDepth 10000
namespace Mr
open PySem Mi
open My (words wlong wstem lt26 wlong_len wstem_len words_len words_nd)
theorem dIx_ltrs (n : Int) : dIx (.str ltrs') (.int (n % 26)) = .ok (.str (S' [lt26 n])) := by
  show guardR _ _ = _
  rw [guardR_pos ltrs'_len, at_ltrs]; rfl
theorem join_codes (l : List Nat) (h : l.length ≤ 8) : dJoin (.str "") (.lst (l.map fun x => D.str (S' [x]))) = .ok (.str (S' l)) := by
  show (ofO (asSs (l.map fun x => D.str (S' [x])))).bind _ = _
  have e : l.map (fun x => D.str (S' [x])) = (l.map fun x => S' [x]).map D.str := by rw [List.map_map]; rfl
  rw [e, asSs_map, ofO_some, bind_ok, guardR_pos ?_, join_ones]
  have h1 : ((l.map fun x => S' [x]).map (·.length)).sum = l.length := by
    clear h e
    induction l with
    | nil => rfl
    | cons a r ih => rw [List.map_cons, List.map_cons, List.sum_cons, ih, S'_len, List.length_cons]; simp; omega
  have h2 : ("" : Str).length = 0 := by decide +kernel
  rw [h1, h2]; omega
theorem st1 (c : Int) (k : Nat) (d32 : okDiv 32) (m5 : okMul 5 (k : Int)) (mk : okMul (k : Int) k) : (m2 dAdd (m2 dAdd (m2 dDiv (mV 1) (mC (.int 32))) (m2 dMulI (mC (.int 5)) (mV 2))) (m2 dMulI (mV 2) (mV 2))) [some (.d (.str ltrs')), some (.d (.int c)), some (.d (.int k))] = .ok (.int (c / 32 + 5 * (k : Int) + (k : Int) * (k : Int))) :=
  (m2_ok (m2_ok (m2_ok rfl rfl (guardR_pos d32)) (m2_ok rfl rfl (guardR_pos m5)) rfl) (m2_ok rfl rfl (guardR_pos mk)) rfl)
theorem st2 (c : Int) (e : Mi.Env) (a : E) (h : a e = .ok (.int c)) (h0 : e[0]? = some (some (.d (.str ltrs')))) : m2 dIx (mV 0) (m2 dMod a (mC (.int 26))) e = .ok (.str (S' [lt26 c])) :=
  m2_ok (x := .str ltrs') (by unfold mV; rw [h0]) (m2_ok h rfl (guardR_pos (by decide))) (dIx_ltrs _)
theorem okMul_kk {k n : Nat} (h : k < n) (h8 : n < 8) : okMul (k : Int) k := okMul_l (by omega) (by omega)
theorem size_of (c : Int) : ∃ n : Nat, c / 4 % 8 = (n : Int) ∧ n < 8 := by
  have z1 := Int.emod_nonneg (c / 4) (b := 8) (by decide)
  have z2 := Int.emod_lt_of_pos (c / 4) (b := 8) (by decide)
  exact ⟨(c / 4 % 8).toNat, by omega, by omega⟩
theorem at_of (c : Int) (n : Nat) : ∃ t : Nat, c / 256 % ((n : Int) + 1) = (t : Int) ∧ t ≤ n := by
  have z3 := Int.emod_nonneg (c / 256) (b := (n : Int) + 1) (by omega)
  have z4 := Int.emod_lt_of_pos (c / 256) (b := (n : Int) + 1) (by omega)
  exact ⟨(c / 256 % ((n : Int) + 1)).toNat, by omega, by omega⟩
theorem words_ok (c : Int) (m : Nat) (hm : m ≤ 8) : m_l_words [.d (.int c), .d (.int (m : Int))] = .ok (.d (strL ((words c m).map S'))) := by
  unfold m_l_words b_l_words
  rw [fnN2]
  have hr8 : okR 8 := okR_small (by decide) (by decide)
  have hrm : okR (m : Int) := okR_small (by omega) (by omega)
  have hl0 : (PySem.Str.ofString "etaoinshrdlucmfwypvbgkqjxz") = ltrs' := rfl
  have g4 : ∀ r : Rs D, guardR ((0 : Int) < 4) r = r := fun r => guardR_pos (by decide)
  have g26 : ∀ r : Rs D, guardR ((0 : Int) < 26) r = r := fun r => guardR_pos (by decide)
  have g8 : ∀ r : Rs D, guardR ((0 : Int) < 8) r = r := fun r => guardR_pos (by decide)
  by_cases c1 : c % 4 < 2
  · have hlong : compD (.n 2) cYes (m2 dIx (mV 0) (m2 dMod (m2 dDiv (mV 1) (m2 dAdd (mC (.int 4)) (m2 dMulI (mC (.int 3)) (mV 2)))) (mC (.int 26)))) [some (.d (.str ltrs')), some (.d (.int c)), none] (dRange 0 8) = .ok ((wlong c).map fun x => D.str (S' [x])) := by
      have := comp_range (tg := .n 2) (a := m2 dIx (mV 0) (m2 dMod (m2 dDiv (mV 1) (m2 dAdd (mC (.int 4)) (m2 dMulI (mC (.int 3)) (mV 2)))) (mC (.int 26)))) (e := [some (.d (.str ltrs')), some (.d (.int c)), none]) (fun k => D.str (S' [lt26 (c / (4 + 3 * (k : Int)))])) 8 fun k hk => ⟨[some (.d (.str ltrs')), some (.d (.int c)), some (.d (.int k))], rfl, by
        simp only [m2, mV, List.getElem?_cons_zero, List.getElem?_cons_succ, mC, bind_ok, mul_ii]
        rw [guardR_pos (okMul_l (by decide) (by decide))]
        simp only [bind_ok, add_ii, div_ii]
        rw [guardR_pos (okDiv_small (by omega) (by omega))]
        simp only [bind_ok, mod_ii, g26, dIx_ltrs]⟩
      rw [show ((8 : Nat) : Int) = 8 from rfl] at this
      rw [this]
      unfold wlong
      rw [List.map_map]; rfl
    have hp : pickE [some 2, some 0, none] [some (.d (.int c)), some (.d (.int (m : Int))), some (.d (.str ltrs')), none, none, none, none] = [some (.d (.str ltrs')), some (.d (.int c)), none] := rfl
    have hj := join_codes (wlong c) (by rw [wlong_len]; omega)
    have hw8 : (dRange 0 8).length ≤ 16777216 := by rw [show (8 : Int) = ((8 : Nat) : Int) from rfl, dRange_len]; omega
    have hwm : (dRange 0 (m : Int)).length ≤ 16777216 := by rw [dRange_len]; omega
    by_cases c2 : c % 4 = 0
    · have hc : compD (.n 1) cYes (mSlF dSl (mV 0) none (some (m2 dAdd (mV 1) (mC (.int 1))))) [some (.d (.str (S' (wlong c)))), none] (dRange 0 (m : Int)) = .ok ((words c m).map fun l => D.str (S' l)) := by
        rw [comp_range (fun k => D.str (S' ((wlong c).take (k + 1)))) m fun k hk => ⟨[some (.d (.str (S' (wlong c)))), some (.d (.int k))], rfl, by
          simp only [mSlF, mV, List.getElem?_cons_zero, mPart, m2, List.getElem?_cons_succ, mC, bind_ok, add_ii, asI_i, sl_s]
          rw [guardR_pos (by rw [S'_len, wlong_len]; omega), show (k : Int) + 1 = ((k + 1 : Nat) : Int) by omega, cutStr_head]⟩]
        unfold words
        rw [if_pos c1, if_pos c2, List.map_map]; rfl
      have hp2 : ∀ z, pickE [some 3, none] [some (.d (.int c)), some (.d (.int (m : Int))), some (.d (.str ltrs')), some z, none, none, none] = [some z, none] := fun _ => rfl
      have hmod : cB (m2 dLt (m2 dMod (mV 0) (mC (.int 4))) (mC (.int 2))) [some (.d (.int c)), some (.d (.int (m : Int))), some (.d (.str ltrs')), none, none, none, none] = .ok true :=
        cB_ok ((m2_ok (m2_ok rfl rfl (g4 _)) rfl rfl).trans (by rw [lt_ii, decide_eq_true c1]))
      have hmod2 : cB (m2 dEq (m2 dMod (mV 0) (mC (.int 4))) (mC (.int 0))) [some (.d (.int c)), some (.d (.int (m : Int))), some (.d (.str ltrs')), some (.d (.str (S' (wlong c)))), none, none, none] = .ok true :=
        cB_ok ((m2_ok (m2_ok rfl rfl (g4 _)) rfl rfl).trans (by rw [dEq_int, decide_eq_true c2]))
      show Rs.bind _ fnOutN = _
      rw [seq_ok (e' := [some (.d (.int c)), some (.d (.int (m : Int))), some (.d (.str ltrs')), none, none, none, none]) (set_ok rfl)]
      refine (congrArg (fun r => Rs.bind r fnOutN) (seq_rt (w := .d (strL ((words c m).map S'))) ?_)).trans rfl
      rw [if_tt hmod, seq_ok (e' := [some (.d (.int c)), some (.d (.int (m : Int))), some (.d (.str ltrs')), some (.d (.str (S' (wlong c)))), none, none, none]) (set_ok (m2_ok rfl (comp_ok (rng_ok rfl hr8) hw8 hlong) hj))]
      rw [seq_rt ((if_tt hmod2).trans (ret_ok (wD_ok (comp_ok (rng_ok rfl hrm) hwm hc))))]
      rw [strL, List.map_map]
      rfl
    · have hc : compD (.n 1) cYes (mSlF dSl (mV 0) (some (m2 dSub (mC (.int 7)) (mV 1))) none) [some (.d (.str (S' (wlong c)))), none] (dRange 0 (m : Int)) = .ok ((words c m).map fun l => D.str (S' l)) := by
        rw [comp_range (fun k => D.str (S' ((wlong c).drop (7 - k)))) m fun k hk => ⟨[some (.d (.str (S' (wlong c)))), some (.d (.int k))], rfl, by
          simp only [mSlF, mV, List.getElem?_cons_zero, mPart, m2, mC, List.getElem?_cons_succ, bind_ok, sub_ii, asI_i, sl_s]
          rw [guardR_pos (by rw [S'_len, wlong_len]; omega), show (7 : Int) - (k : Int) = ((7 - k : Nat) : Int) by omega, cutStr_tail]⟩]
        unfold words
        rw [if_pos c1, if_neg c2, List.map_map]; rfl
      have hp2 : ∀ z, pickE [some 3, none] [some (.d (.int c)), some (.d (.int (m : Int))), some (.d (.str ltrs')), some z, none, none, none] = [some z, none] := fun _ => rfl
      have hmod : cB (m2 dLt (m2 dMod (mV 0) (mC (.int 4))) (mC (.int 2))) [some (.d (.int c)), some (.d (.int (m : Int))), some (.d (.str ltrs')), none, none, none, none] = .ok true :=
        cB_ok ((m2_ok (m2_ok rfl rfl (g4 _)) rfl rfl).trans (by rw [lt_ii, decide_eq_true c1]))
      have hmod2 : cB (m2 dEq (m2 dMod (mV 0) (mC (.int 4))) (mC (.int 0))) [some (.d (.int c)), some (.d (.int (m : Int))), some (.d (.str ltrs')), some (.d (.str (S' (wlong c)))), none, none, none] = .ok false :=
        cB_ok ((m2_ok (m2_ok rfl rfl (g4 _)) rfl rfl).trans (by rw [dEq_int, decide_eq_false c2]))
      show Rs.bind _ fnOutN = _
      rw [seq_ok (e' := [some (.d (.int c)), some (.d (.int (m : Int))), some (.d (.str ltrs')), none, none, none, none]) (set_ok rfl)]
      refine (congrArg (fun r => Rs.bind r fnOutN) (seq_rt (w := .d (strL ((words c m).map S'))) ?_)).trans rfl
      rw [if_tt hmod, seq_ok (e' := [some (.d (.int c)), some (.d (.int (m : Int))), some (.d (.str ltrs')), some (.d (.str (S' (wlong c)))), none, none, none]) (set_ok (m2_ok rfl (comp_ok (rng_ok rfl hr8) hw8 hlong) hj))]
      rw [seq_ok (if_ff hmod2), ret_ok (wD_ok (comp_ok (rng_ok rfl hrm) hwm hc))]
      rw [strL, List.map_map]
      rfl
  · obtain ⟨n, hn, hn8⟩ := size_of c
    obtain ⟨t, ht, ht8⟩ := at_of c n
    have hrn : okR (n : Int) := okR_small (by omega) (by omega)
    have d4 : okDiv 4 := okDiv_small (by decide) (by decide)
    have d32 : okDiv 32 := okDiv_small (by decide) (by decide)
    have d256 : okDiv 256 := okDiv_small (by decide) (by decide)
    have d7 : okDiv 7 := okDiv_small (by decide) (by decide)
    have hstem : compD (.n 2) cYes (m2 dIx (mV 0) (m2 dMod (m2 dAdd (m2 dAdd (m2 dDiv (mV 1) (mC (.int 32))) (m2 dMulI (mC (.int 5)) (mV 2))) (m2 dMulI (mV 2) (mV 2))) (mC (.int 26)))) [some (.d (.str ltrs')), some (.d (.int c)), none] (dRange 0 (n : Int)) = .ok ((wstem c n).map fun x => D.str (S' [x])) := by
      rw [comp_range (fun k => D.str (S' [lt26 (c / 32 + 5 * (k : Int) + (k : Int) * (k : Int))])) n fun k hk => ⟨[some (.d (.str ltrs')), some (.d (.int c)), some (.d (.int k))], rfl, by
        exact st2 _ _ _ (st1 c k d32 (okMul_l (by decide) (by decide)) (okMul_kk hk hn8)) rfl⟩]
      unfold wstem
      rw [List.map_map]; rfl
    have hp : pickE [some 2, some 0, none] [some (.d (.int c)), some (.d (.int (m : Int))), some (.d (.str ltrs')), none, some (.d (.int (n : Int))), none, none] = [some (.d (.str ltrs')), some (.d (.int c)), none] := rfl
    have hj := join_codes (wstem c n) (by rw [wstem_len]; omega)
    have hwn : (dRange 0 (n : Int)).length ≤ 16777216 := by rw [dRange_len]; omega
    have hwm : (dRange 0 (m : Int)).length ≤ 16777216 := by rw [dRange_len]; omega
    have hc : compD (.n 4) cYes (m2 dAdd (m2 dAdd (mSlF dSl (mV 0) none (some (mV 2))) (m2 dIx (mV 1) (m2 dMod (m2 dAdd (m2 dDiv (mV 3) (mC (.int 7))) (m2 dMulI (mC (.int 5)) (mV 4))) (mC (.int 26))))) (mSlF dSl (mV 0) (some (mV 2)) none))
        [some (.d (.str (S' (wstem c n)))), some (.d (.str ltrs')), some (.d (.int (t : Int))), some (.d (.int c)), none] (dRange 0 (m : Int)) = .ok ((words c m).map fun l => D.str (S' l)) := by
      rw [comp_range (fun k => D.str (S' ((wstem c n).take t ++ [lt26 (c / 7 + 5 * (k : Int))] ++ (wstem c n).drop t))) m fun k hk => ⟨[some (.d (.str (S' (wstem c n)))), some (.d (.str ltrs')), some (.d (.int (t : Int))), some (.d (.int c)), some (.d (.int k))], rfl, by
        have gS : ∀ r : Rs D, guardR ((S' (wstem c n)).length ≤ 16777216) r = r := fun r => guardR_pos (by rw [S'_len, wstem_len]; omega)
        have gM : ∀ r : Rs D, guardR (okMul 5 (k : Int)) r = r := fun r => guardR_pos (okMul_l (by decide) (by decide))
        simp only [m2, mSlF, mV, List.getElem?_cons_zero, mPart, List.getElem?_cons_succ, bind_ok, asI_i, sl_s, cutStr_head, gS, mC, div_ii, guardR_pos d7, mul_ii, gM, add_ii, mod_ii, g26, dIx_ltrs, add_ss, cutStr_tail]
        rw [guardR_pos (by rw [S'_len, S'_len, List.length_take, wstem_len]; simp; omega)]
        simp only [S'_app, bind_ok, add_ss]
        rw [guardR_pos (by rw [S'_len, S'_len, List.length_append, List.length_take, List.length_drop, wstem_len]; simp; omega)]⟩]
      unfold words
      rw [if_neg c1, List.map_map, hn, ht]
      rfl
    have hmod : cB (m2 dLt (m2 dMod (mV 0) (mC (.int 4))) (mC (.int 2))) [some (.d (.int c)), some (.d (.int (m : Int))), some (.d (.str ltrs')), none, none, none, none] = .ok false :=
      cB_ok ((m2_ok (m2_ok rfl rfl (g4 _)) rfl rfl).trans (by rw [lt_ii, decide_eq_false c1]))
    show Rs.bind _ fnOutN = _
    rw [seq_ok (e' := [some (.d (.int c)), some (.d (.int (m : Int))), some (.d (.str ltrs')), none, none, none, none]) (set_ok rfl)]
    rw [seq_ok (if_ff hmod)]
    rw [seq_ok (e' := [some (.d (.int c)), some (.d (.int (m : Int))), some (.d (.str ltrs')), none, some (.d (.int (n : Int))), none, none]) (set_ok (d := .int (n : Int)) ((m2_ok (m2_ok rfl rfl (guardR_pos d4)) rfl (g8 _)).trans (by rw [hn])))]
    rw [seq_ok (e' := [some (.d (.int c)), some (.d (.int (m : Int))), some (.d (.str ltrs')), none, some (.d (.int (n : Int))), some (.d (.str (S' (wstem c n)))), none]) (set_ok (m2_ok rfl (comp_ok (rng_ok rfl hrn) hwn hstem) hj))]
    rw [seq_ok (e' := [some (.d (.int c)), some (.d (.int (m : Int))), some (.d (.str ltrs')), none, some (.d (.int (n : Int))), some (.d (.str (S' (wstem c n)))), some (.d (.int (t : Int)))]) (set_ok (d := .int (t : Int)) ((m2_ok (m2_ok rfl rfl (guardR_pos d256)) (m2_ok rfl rfl rfl) (guardR_pos (by omega))).trans (by rw [ht])))]
    rw [ret_ok (wD_ok (comp_ok (rng_ok rfl hrm) hwm hc))]
    simp only [bind_ok, outN_rt, strL, List.map_map]
    rfl
end Mr
set_option linter.all false
set_option maxRecDepth 10000
namespace Mr
open PySem Mi
open My (words words_len words_nd)
theorem seqD (n : Nat) (h : n ≤ 8) : okR (n : Int) := okR_small (by omega) (by omega)
theorem popAt_ints {ls : List Int} {z : Int} (h0 : 0 ≤ z) (h1 : z < ls.length) (hl : ls.length ≤ 100) : popAt (ls.map D.int) z = .ok (.int (ls.getD z.toNat 0), (ls.eraseIdx z.toNat).map D.int) := by
  have h3 : z.toNat < ls.length := by omega
  unfold popAt
  rw [guardR_pos (by omega), show ixN (ls.map D.int).length z = some z.toNat by
    unfold ixN
    rw [if_pos h0, if_pos (by rw [List.length_map]; exact h1)], ofO_some, bind_ok, List.getElem?_map, List.getElem?_eq_getElem h3, List.getD_eq_getElem?_getD, List.getElem?_eq_getElem h3]
  show Rs.ok (D.int ls[z.toNat], (ls.map D.int).eraseIdx z.toNat) = _
  have : ∀ (l : List Int) (k : Nat), (l.map D.int).eraseIdx k = (l.eraseIdx k).map D.int := by
    intro l
    induction l with
    | nil => intro k; rfl
    | cons a r ih =>
      intro k
      cases k with
      | zero => rfl
      | succ k => rw [List.map_cons, List.eraseIdx_cons_succ, ih k]; rfl
  rw [this]; rfl
theorem lst0 (e : Mi.Env) : mN dLst [] e = .ok (.lst []) := by
  show guardR (([] : List D).length ≤ 16777216) (Rs.ok (D.lst [])) = _
  exact guardR_pos (by simp)
end Mr
set_option linter.all false
set_option maxRecDepth 10000
namespace Mr
open PySem Mi
end Mr
set_option linter.all false
set_option maxRecDepth 10000
namespace Mr
open PySem Mi
abbrev Ix := Nat × Nat
def lexL (p q : Ix) : Prop := p.1 < q.1 ∨ (p.1 = q.1 ∧ p.2 < q.2)
def nth (names : List Str) (i : Nat) : Str := names.getD i Str.empty
def arrOf (names : List Str) (p : Ix) : Ar := (nth names p.1, nth names p.2)
structure IxNet (names : List Str) (A : List Ix) (r : Nat → Int) : Prop where
  nd : names.Nodup
  pos : 1 ≤ names.length
  le : names.length ≤ 8
  srt : A.Pairwise lexL
  all : ∀ p ∈ A, p.1 < names.length ∧ p.2 < names.length ∧ r p.1 < r p.2
  al : A.length ≤ 64
theorem nth_mem {names : List Str} {i : Nat} (h : i < names.length) : nth names i ∈ names := by
  unfold nth
  rw [List.getD_eq_getElem?_getD, List.getElem?_eq_getElem h]
  exact List.getElem_mem h
theorem nth_inj {names : List Str} (nd : names.Nodup) {i j : Nat} (hi : i < names.length) (hj : j < names.length) (h : nth names i = nth names j) : i = j := by
  unfold nth at h
  rw [List.getD_eq_getElem?_getD, List.getElem?_eq_getElem hi, List.getD_eq_getElem?_getD, List.getElem?_eq_getElem hj] at h
  exact (List.getElem_inj nd).mp h
theorem IxNet.net {names : List Str} {A : List Ix} {r : Nat → Int} (N : IxNet names A r) : Net names (A.map (arrOf names)) := by
  refine ⟨N.nd, N.pos, N.le, by rw [List.length_map]; exact N.al, fun p hp => ?_, fun x => r (names.idxOf x), fun p hp => ?_⟩
  · obtain ⟨q, hq, rfl⟩ := List.mem_map.mp hp
    exact nth_mem (N.all q hq).1
  · obtain ⟨q, hq, rfl⟩ := List.mem_map.mp hp
    obtain ⟨h1, h2, h3⟩ := N.all q hq
    have key : ∀ i, i < names.length → names.idxOf (nth names i) = i := fun i hi => by
      have hm := nth_mem hi
      have hl : names.idxOf (nth names i) < names.length := List.idxOf_lt_length_of_mem hm
      refine nth_inj N.nd hl hi ?_
      have h4 : names[names.idxOf (nth names i)] = nth names i := List.getElem_idxOf hl
      show names.getD (names.idxOf (nth names i)) Str.empty = _
      rw [List.getD_eq_getElem?_getD, List.getElem?_eq_getElem hl]
      exact h4
    show r (names.idxOf (nth names q.1)) < r (names.idxOf (nth names q.2))
    rw [key _ h1, key _ h2]; exact h3
def good (m : Nat) (r : Nat → Int) (A : List Ix) (j k : Nat) : Prop := A.Pairwise lexL ∧ (∀ p ∈ A, p.1 < m ∧ p.2 < m ∧ r p.1 < r p.2 ∧ (p.1 < j ∨ (p.1 = j ∧ p.2 < k))) ∧ A.length ≤ 8 * j + k
theorem good.skip {m : Nat} {r : Nat → Int} {A : List Ix} {j k : Nat} (h : good m r A j k) : good m r A j (k + 1) :=
  ⟨h.1, fun p hp => ⟨(h.2.1 p hp).1, (h.2.1 p hp).2.1, (h.2.1 p hp).2.2.1, by have := (h.2.1 p hp).2.2.2; omega⟩, by have := h.2.2; omega⟩
theorem good.add {m : Nat} {r : Nat → Int} {A : List Ix} {j k : Nat} (h : good m r A j k) (hj : j < m) (hk : k < m) (hr : r j < r k) : good m r (A ++ [(j, k)]) j (k + 1) := by
  refine ⟨List.pairwise_append.mpr ⟨h.1, List.pairwise_singleton _ _, fun p hp q hq => ?_⟩, fun p hp => ?_, by rw [List.length_append]; have := h.2.2; simp; omega⟩
  · have : q = (j, k) := by simpa using hq
    subst this
    have := (h.2.1 p hp).2.2.2
    exact this
  · rcases List.mem_append.mp hp with hp | hp
    · exact (h.skip.2.1 p hp)
    · have : p = (j, k) := by simpa using hp
      subst this
      exact ⟨hj, hk, hr, .inr ⟨rfl, by omega⟩⟩
theorem good.next {m : Nat} {r : Nat → Int} {A : List Ix} {j k : Nat} (h : good m r A j k) (hk : k ≤ 8) : good m r A (j + 1) 0 :=
  ⟨h.1, fun p hp => ⟨(h.2.1 p hp).1, (h.2.1 p hp).2.1, (h.2.1 p hp).2.2.1, by have := (h.2.1 p hp).2.2.2; omega⟩, by have := h.2.2; omega⟩
def arsD (names : List Str) (A : List Ix) : D := .lst ((A.map (arrOf names)).map pairD)
theorem tri_le {a : Int} (h0 : 0 ≤ a) (h1 : a < 8) : -(2 ^ 64) < a ∧ a < 2 ^ 64 ∧ 0 ≤ a * (a - 1) / 2 ∧ a * (a - 1) / 2 ≤ 21 := by
  have : a = 0 ∨ a = 1 ∨ a = 2 ∨ a = 3 ∨ a = 4 ∨ a = 5 ∨ a = 6 ∨ a = 7 := by omega
  rcases this with h | h | h | h | h | h | h | h <;> subst h <;> decide
end Mr
set_option linter.all false
set_option maxRecDepth 10000
namespace Mr
open PySem Mi
open My (words words_len words_nd)
theorem cell_ok (ns : List Int) (k : Nat) (hk : k ≤ 100) : ∃ c : Int, m_l_cell [.d (.lst (ns.map D.int)), .d (.int (k : Int))] = .ok (.d (.int c)) := by
  unfold m_l_cell b_l_cell
  rw [fnM2]
  have hl : mN bLen [mV 0] [some (.d (.lst (ns.map D.int))), some (.d (.int (k : Int))), none] = .ok (.int (ns.length : Int)) := by show Rs.ok (D.int ((ns.map D.int).length : Int)) = _; rw [List.length_map]
  have c1 : cB (m2 dLt (mV 1) (mN bLen [(mV 0)])) [some (.d (.lst (ns.map D.int))), some (.d (.int (k : Int))), none] = .ok (decide ((k : Int) < (ns.length : Int))) := cB_ok (m2_ok rfl hl rfl)
  by_cases h : (k : Int) < (ns.length : Int)
  · rw [decide_eq_true h] at c1
    exact ⟨_, by
      rw [show ([some (W.d (.lst (ns.map D.int))), some (.d (.int (k : Int)))] ++ List.replicate (3 - 2) none) = [some (.d (.lst (ns.map D.int))), some (.d (.int (k : Int))), none] from rfl]
      rw [seq_rt ((if_tt c1).trans (ret_ok (wD_ok (m2_ok rfl rfl (ix_ints (by omega) h)))))]; rfl⟩
  · rw [decide_eq_false h] at c1
    have s1 : sSet 2 (m2 dAdd (mC (.int 30011)) (m2 dMulI (m2 dMulI (mC (.int 709)) (mV 1)) (mV 1))) [some (.d (.lst (ns.map D.int))), some (.d (.int (k : Int))), none] = .ok (.nx [some (.d (.lst (ns.map D.int))), some (.d (.int (k : Int))), some (.d (.int (30011 + 709 * (k : Int) * (k : Int))))]) :=
      set_ok (m2_ok rfl (m2_ok (m2_ok rfl rfl (guardR_pos (okMul_l (by decide) (by decide)))) rfl (guardR_pos (okMul_r (by omega) (by omega)))) rfl)
    have hl2 : mN bLen [mV 0] [some (.d (.lst (ns.map D.int))), some (.d (.int (k : Int))), some (.d (.int (30011 + 709 * (k : Int) * (k : Int))))] = .ok (.int (ns.length : Int)) := by show Rs.ok (D.int ((ns.map D.int).length : Int)) = _; rw [List.length_map]
    have c2 : cB (m2 dGt (mN bLen [(mV 0)]) (mC (.int 0))) [some (.d (.lst (ns.map D.int))), some (.d (.int (k : Int))), some (.d (.int (30011 + 709 * (k : Int) * (k : Int))))] = .ok (decide ((0 : Int) < (ns.length : Int))) := cB_ok (m2_ok hl2 rfl rfl)
    by_cases h0 : (0 : Int) < (ns.length : Int)
    · rw [decide_eq_true h0] at c2
      refine ⟨_, by
        rw [show ([some (W.d (.lst (ns.map D.int))), some (.d (.int (k : Int)))] ++ List.replicate (3 - 2) none) = [some (.d (.lst (ns.map D.int))), some (.d (.int (k : Int))), none] from rfl]
        rw [seq_ok ((if_ff c1).trans rfl), seq_ok s1, seq_ok ((if_tt c2).trans (set_ok (m2_ok rfl (m2_ok (m2_ok (m2_ok rfl rfl (ix_ints (by decide) h0)) rfl (guardR_pos (by decide))) (m2_ok (m2_ok (m2_ok rfl rfl (guardR_pos (okMul_l (by omega) (by omega)))) (m2_ok rfl rfl (guardR_pos (okMul_l (by decide) (by decide)))) rfl) rfl rfl) (guardR_pos (okMul_l ?_ ?_))) rfl)))]
        rfl⟩
      · have := Int.emod_nonneg (ns.getD (0 : Int).toNat 0) (b := 99991) (by decide); omega
      · have := Int.emod_lt_of_pos (ns.getD (0 : Int).toNat 0) (b := 99991) (by decide); omega
    · rw [decide_eq_false h0] at c2
      exact ⟨_, by
        rw [show ([some (W.d (.lst (ns.map D.int))), some (.d (.int (k : Int)))] ++ List.replicate (3 - 2) none) = [some (.d (.lst (ns.map D.int))), some (.d (.int (k : Int))), none] from rfl]
        rw [seq_ok ((if_ff c1).trans rfl), seq_ok s1, seq_ok ((if_ff c2).trans rfl)]
        rfl⟩
theorem ranks2_ok (d : Int) (m : Nat) (hm : m ≤ 8) : ∃ rs : List Int, m_l_ranks_2 [.d (.int d), .d (.int (m : Int))] = .ok (.d (.lst (rs.map D.int))) ∧ rs.length = m := by
  unfold m_l_ranks_2 b_l_ranks_2
  rw [fnN2]
  have hw : (dRange 0 (m : Int)).length ≤ 16777216 := by rw [dRange_len]; omega
  have hc : compD (.n 0) cYes (mV 0) [none] (dRange 0 (m : Int)) = .ok ((List.range m).map fun (k : Nat) => D.int (k : Int)) :=
    comp_range (fun k => D.int (k : Int)) m fun k _ => ⟨[some (.d (.int k))], rfl, rfl⟩
  have hr : ((List.range m).map fun (k : Nat) => D.int (k : Int)) = ((List.range m).map fun (k : Nat) => (k : Int)).map D.int := by rw [List.map_map]; rfl
  rw [hr] at hc
  obtain ⟨e', h1, h2⟩ := for_inv (tg := .n 5) (body := sSeq (sSet 4 (m2 dMod (m2 dAdd (m2 dAdd (m2 dMulI (mV 4) (mC (.int 48271))) (m2 dMulI (mC (.int 7)) (mV 5))) (mC (.int 1))) (mC (.int 2147483647)))) (sAppendPop 3 2 (m2 dMod (m2 dDiv (mV 4) (mC (.int 32))) (mN bLen [(mV 2)]))))
    (fun i e => ∃ (x : Int) (ls rs : List Int) (o : Option W), e = [some (.d (.int d)), some (.d (.int (m : Int))), some (.d (.lst (ls.map D.int))), some (.d (.lst (rs.map D.int))), some (.d (.int x)), o] ∧ ls.length + i = m ∧ rs.length = i) (dRange 0 (m : Int)) 0 (fun i x e hx ⟨x0, ls, rs, o, he, hl, hrs⟩ => by
      obtain ⟨hi, rfl⟩ := dRange_get hx
      subst he
      rw [Nat.zero_add] at hl hrs
      have hpos : (0 : Int) < (ls.length : Int) := by omega
      obtain ⟨y, hy⟩ : ∃ y, y = (x0 * 48271 + 7 * (i : Int) + 1) % 2147483647 := ⟨_, rfl⟩
      have z1 := Int.emod_nonneg (y / 32) (b := (ls.length : Int)) (by omega)
      have z2 := Int.emod_lt_of_pos (y / 32) hpos
      refine ⟨[some (.d (.int d)), some (.d (.int (m : Int))), some (.d (.lst (ls.map D.int))), some (.d (.lst (rs.map D.int))), some (.d (.int x0)), some (.d (.int (i : Int)))], [some (.d (.int d)), some (.d (.int (m : Int))), some (.d (.lst ((ls.eraseIdx (y / 32 % (ls.length : Int)).toNat).map D.int))), some (.d (.lst ((rs ++ [ls.getD (y / 32 % (ls.length : Int)).toNat 0]).map D.int))), some (.d (.int y)), some (.d (.int (i : Int)))], rfl, ?_, y, ls.eraseIdx (y / 32 % (ls.length : Int)).toNat, rs ++ [ls.getD (y / 32 % (ls.length : Int)).toNat 0], some (.d (.int (i : Int))), rfl, ?_, ?_⟩
      · have h0 : m2 dMod (m2 dDiv (mV 4) (mC (.int 32))) (mN bLen [(mV 2)]) [some (.d (.int d)), some (.d (.int (m : Int))), some (.d (.lst (ls.map D.int))), some (.d (.lst (rs.map D.int))), some (.d (.int y)), some (.d (.int (i : Int)))] = .ok (.int (y / 32 % (ls.length : Int))) :=
          m2_ok (x := .int (y / 32)) (y := .int (ls.length : Int)) (m2_ok rfl rfl (guardR_pos (okDiv_small (by decide) (by decide)))) (by show Rs.ok (D.int ((ls.map D.int).length : Int)) = _; rw [List.length_map]) (guardR_pos hpos)
        rw [seq_ok (e' := [some (.d (.int d)), some (.d (.int (m : Int))), some (.d (.lst (ls.map D.int))), some (.d (.lst (rs.map D.int))), some (.d (.int y)), some (.d (.int (i : Int)))])]
        · unfold sAppendPop
          rw [h0]
          simp only [bind_ok, asI_i, getL, List.getElem?_cons_succ, List.getElem?_cons_zero, popAt_ints z1 z2 (by omega), putL, List.set_cons_succ, List.set_cons_zero]
          rw [guardR_pos (by rw [List.length_map]; omega), List.map_append]
          rfl
        · rw [hy]
          exact set_ok (m2_ok (m2_ok (m2_ok (m2_ok rfl rfl (guardR_pos (okMul_r (by decide) (by decide)))) (m2_ok rfl rfl (guardR_pos (okMul_l (by decide) (by decide)))) rfl) rfl rfl) rfl (guardR_pos (by decide)))
      · rw [List.length_eraseIdx_of_lt (by omega)]; omega
      · rw [List.length_append, hrs]; simp) [some (.d (.int d)), some (.d (.int (m : Int))), some (.d (.lst (((List.range m).map fun (k : Nat) => (k : Int)).map D.int))), some (.d (.lst [])), some (.d (.int (d % 2147483647))), none] ⟨_, _, [], none, rfl, by simp, rfl⟩
  obtain ⟨d2, ls, rs, o, he, hl, hrs⟩ := h2
  subst he
  rw [dRange_len, Nat.zero_add] at hl hrs
  refine ⟨rs, ?_, hrs⟩
  rw [seq_ok (e' := [some (.d (.int d)), some (.d (.int (m : Int))), some (.d (.lst (((List.range m).map fun (k : Nat) => (k : Int)).map D.int))), none, none, none]) (set_ok (comp_ok (rng_ok rfl (seqD m hm)) hw hc))]
  rw [seq_ok (e' := [some (.d (.int d)), some (.d (.int (m : Int))), some (.d (.lst (((List.range m).map fun (k : Nat) => (k : Int)).map D.int))), some (.d (.lst [])), none, none]) (set_ok (lst0 _))]
  rw [seq_ok (e' := [some (.d (.int d)), some (.d (.int (m : Int))), some (.d (.lst (((List.range m).map fun (k : Nat) => (k : Int)).map D.int))), some (.d (.lst [])), some (.d (.int (d % 2147483647))), none]) (set_ok (m2_ok rfl rfl (guardR_pos (by decide))))]
  rw [seq_ok ((for_ok (rng_ok rfl (seqD m hm))).trans h1)]
  rfl
end Mr
set_option linter.all false
set_option maxRecDepth 10000
namespace Mr
open PySem Mi
open My (words words_len words_nd)
theorem cell_tri (ns : List Int) {e : Mi.Env} {j k : Nat} (hj : j < 8) (hk : k < 8) (e0 : mV 0 e = .ok (.lst (ns.map D.int))) (e7 : mV 7 e = .ok (.int (j : Int))) (e8 : mV 8 e = .ok (.int (k : Int))) : ∃ c : Int, (mCall m_l_cell [(wD (mV 0)), (wD (m2 dAdd (m2 dAdd (mC (.int 4)) (m2 dDiv (m2 dMulI (mN bMax [(mV 7), (mV 8)]) (m2 dSub (mN bMax [(mV 7), (mV 8)]) (mC (.int 1)))) (mC (.int 2)))) (mN bMin [(mV 7), (mV 8)])))]) e = .ok (.int c) := by
  have hx : mN bMax [(mV 7), (mV 8)] e = .ok (.int (max (j : Int) (k : Int))) := (n2_ok e7 e8).trans (max_ii _ _)
  have hn : mN bMin [(mV 7), (mV 8)] e = .ok (.int (min (j : Int) (k : Int))) := (n2_ok e7 e8).trans (min_ii _ _)
  obtain ⟨t1, t2, t3, t4⟩ := tri_le (a := max (j : Int) (k : Int)) (by omega) (by omega)
  obtain ⟨z, hz⟩ : ∃ z : Nat, 4 + max (j : Int) (k : Int) * (max (j : Int) (k : Int) - 1) / 2 + min (j : Int) (k : Int) = (z : Int) := ⟨(4 + max (j : Int) (k : Int) * (max (j : Int) (k : Int) - 1) / 2 + min (j : Int) (k : Int)).toNat, by omega⟩
  obtain ⟨c, hc⟩ := cell_ok ns z (by omega)
  refine ⟨c, call2 (wD_ok e0) (wD_ok (m2_ok (m2_ok rfl (m2_ok (m2_ok hx (m2_ok hx rfl rfl) (guardR_pos (okMul_l t1 t2))) rfl (guardR_pos (okDiv_small (by decide) (by decide)))) rfl) hn rfl)) ?_⟩
  rw [hz]; exact hc
theorem net2w_ok (ns : List Int) (hi : Nat) (h0 : 1 ≤ hi) (h2 : hi ≤ 8) :
    ∃ names A r, m_l_net_2 [.d (.lst (ns.map D.int)), .d (.int (hi : Int))] = .ok (.d (netD names (A.map (arrOf names)))) ∧ IxNet names A r ∧ ∃ (c : Int) (m : Nat), m ≤ 8 ∧ names = (words c m).map S' := by
  obtain ⟨c0, hc0⟩ := cell_ok ns 0 (by decide)
  obtain ⟨c1, hc1⟩ := cell_ok ns 1 (by decide)
  obtain ⟨c2, hc2⟩ := cell_ok ns 2 (by decide)
  obtain ⟨c3, hc3⟩ := cell_ok ns 3 (by decide)
  have hw : (0 : Int) < (hi : Int) := by omega
  have q1 := Int.emod_nonneg c0 (b := (hi : Int)) (by omega)
  have q2 := Int.emod_lt_of_pos c0 hw
  obtain ⟨m, hm⟩ : ∃ m : Nat, 1 + c0 % (hi : Int) = (m : Int) := ⟨(1 + c0 % (hi : Int)).toNat, by omega⟩
  have hm1 : 1 ≤ m := by omega
  have hm2 : m ≤ hi := by omega
  have hm8 : m ≤ 8 := by omega
  obtain ⟨names, hnm⟩ : ∃ names, names = (words c1 m).map S' := ⟨_, rfl⟩
  have hn := words_ok c1 m hm8
  rw [← hnm] at hn
  have hnl : names.length = m := by rw [hnm, List.length_map]; exact words_len c1 m
  have hnd : names.Nodup := by rw [hnm]; exact List.Pairwise.map _ (fun a b h z => h (S'_inj z)) (words_nd _ _ hm8)
  obtain ⟨rs, hr, hrl⟩ := ranks2_ok c2 m hm8
  have q3 := Int.emod_nonneg c3 (b := 6) (by decide)
  have q4 := Int.emod_lt_of_pos c3 (b := 6) (by decide)
  obtain ⟨th, hth⟩ : ∃ th, dIx (.lst ([4, 1, 2, 3, 2, 3].map D.int)) (.int (c3 % 6)) = .ok (.int th) := ⟨_, ix_ints q3 (by simp; omega)⟩
  have hrx : ∀ i : Nat, i < m → dIx (.lst (rs.map D.int)) (.int (i : Int)) = .ok (.int (rs.getD i 0)) := fun i hi => by
    have := ix_ints (cs := rs) (i := (i : Int)) (by omega) (by omega)
    rwa [Int.toNat_natCast] at this
  have hnx : ∀ i : Nat, i < m → dIx (strL names) (.int (i : Int)) = .ok (.str (nth names i)) := fun i hi => by
    have := ix_strs (cs := names) (i := (i : Int)) (by omega) (by omega)
    rwa [Int.toNat_natCast] at this
  have inner : ∀ (j : Nat) (A : List Ix) (o8 o9 : Option W), j < m → good m (fun i => rs.getD i 0) A j 0 → ∃ (A' : List Ix) (p8 p9 : Option W), forD (.n 8) (sSeq (sSet 9 (mCall m_l_cell [(wD (mV 0)), (wD (m2 dAdd (m2 dAdd (mC (.int 4)) (m2 dDiv (m2 dMulI (mN bMax [(mV 7), (mV 8)]) (m2 dSub (mN bMax [(mV 7), (mV 8)]) (mC (.int 1)))) (mC (.int 2)))) (mN bMin [(mV 7), (mV 8)])))])) (sIf (cAnd (cB (m2 dLt (m2 dIx (mV 4) (mV 7)) (m2 dIx (mV 4) (mV 8)))) (cB (m2 dLt (m2 dMod (m2 dDiv (m2 dMod (m2 dMulI (mV 9) (mC (.int 48271))) (mC (.int 2147483647))) (mC (.int 16))) (mC (.int 4))) (mV 5)))) (sAppend 6 (mN dTup [(m2 dIx (mV 3) (mV 7)), (m2 dIx (mV 3) (mV 8))])) sNext)) (dRange 0 (m : Int)) [some (.d (.lst (ns.map D.int))), some (.d (.int (hi : Int))), some (.d (.int (m : Int))), some (.d (strL names)), some (.d (.lst (rs.map D.int))), some (.d (.int th)), some (.d (arsD names A)), some (.d (.int (j : Int))), o8, o9] = .ok (.nx [some (.d (.lst (ns.map D.int))), some (.d (.int (hi : Int))), some (.d (.int (m : Int))), some (.d (strL names)), some (.d (.lst (rs.map D.int))), some (.d (.int th)), some (.d (arsD names A')), some (.d (.int (j : Int))), p8, p9]) ∧ good m (fun i => rs.getD i 0) A' (j + 1) 0 := by
    intro j A o8 o9 hj hg
    obtain ⟨e', f1, A', p8, p9, he, hg'⟩ := for_inv (tg := .n 8) (body := (sSeq (sSet 9 (mCall m_l_cell [(wD (mV 0)), (wD (m2 dAdd (m2 dAdd (mC (.int 4)) (m2 dDiv (m2 dMulI (mN bMax [(mV 7), (mV 8)]) (m2 dSub (mN bMax [(mV 7), (mV 8)]) (mC (.int 1)))) (mC (.int 2)))) (mN bMin [(mV 7), (mV 8)])))])) (sIf (cAnd (cB (m2 dLt (m2 dIx (mV 4) (mV 7)) (m2 dIx (mV 4) (mV 8)))) (cB (m2 dLt (m2 dMod (m2 dDiv (m2 dMod (m2 dMulI (mV 9) (mC (.int 48271))) (mC (.int 2147483647))) (mC (.int 16))) (mC (.int 4))) (mV 5)))) (sAppend 6 (mN dTup [(m2 dIx (mV 3) (mV 7)), (m2 dIx (mV 3) (mV 8))])) sNext))) (fun k e => ∃ (A : List Ix) (o8 o9 : Option W), e = [some (.d (.lst (ns.map D.int))), some (.d (.int (hi : Int))), some (.d (.int (m : Int))), some (.d (strL names)), some (.d (.lst (rs.map D.int))), some (.d (.int th)), some (.d (arsD names A)), some (.d (.int (j : Int))), o8, o9] ∧ good m (fun i => rs.getD i 0) A j k)
      (dRange 0 (m : Int)) 0 (fun k x e hx ⟨A, o8, o9, he, hg⟩ => by
        obtain ⟨hk, rfl⟩ := dRange_get hx
        subst he
        rw [Nat.zero_add] at hg
        obtain ⟨c, hc⟩ := cell_tri ns (e := [some (.d (.lst (ns.map D.int))), some (.d (.int (hi : Int))), some (.d (.int (m : Int))), some (.d (strL names)), some (.d (.lst (rs.map D.int))), some (.d (.int th)), some (.d (arsD names A)), some (.d (.int (j : Int))), some (.d (.int (k : Int))), o9]) (j := j) (k := k) (by omega) (by omega) rfl rfl rfl
        have c1 : cB (m2 dLt (m2 dIx (mV 4) (mV 7)) (m2 dIx (mV 4) (mV 8))) [some (.d (.lst (ns.map D.int))), some (.d (.int (hi : Int))), some (.d (.int (m : Int))), some (.d (strL names)), some (.d (.lst (rs.map D.int))), some (.d (.int th)), some (.d (arsD names A)), some (.d (.int (j : Int))), some (.d (.int (k : Int))), some (.d (.int c))] = .ok (decide (rs.getD j 0 < rs.getD k 0)) := cB_ok (m2_ok (m2_ok rfl rfl (hrx j hj)) (m2_ok rfl rfl (hrx k hk)) rfl)
        have c2 : cB (m2 dLt (m2 dMod (m2 dDiv (m2 dMod (m2 dMulI (mV 9) (mC (.int 48271))) (mC (.int 2147483647))) (mC (.int 16))) (mC (.int 4))) (mV 5)) [some (.d (.lst (ns.map D.int))), some (.d (.int (hi : Int))), some (.d (.int (m : Int))), some (.d (strL names)), some (.d (.lst (rs.map D.int))), some (.d (.int th)), some (.d (arsD names A)), some (.d (.int (j : Int))), some (.d (.int (k : Int))), some (.d (.int c))] = .ok (decide (c * 48271 % 2147483647 / 16 % 4 < th)) := cB_ok (m2_ok (m2_ok (m2_ok (m2_ok (m2_ok rfl rfl (guardR_pos (okMul_r (by decide) (by decide)))) rfl (guardR_pos (by decide))) rfl (guardR_pos (okDiv_small (by decide) (by decide)))) rfl (guardR_pos (by decide))) rfl rfl)
        by_cases hb : rs.getD j 0 < rs.getD k 0 ∧ c * 48271 % 2147483647 / 16 % 4 < th
        · refine ⟨[some (.d (.lst (ns.map D.int))), some (.d (.int (hi : Int))), some (.d (.int (m : Int))), some (.d (strL names)), some (.d (.lst (rs.map D.int))), some (.d (.int th)), some (.d (arsD names A)), some (.d (.int (j : Int))), some (.d (.int (k : Int))), o9], [some (.d (.lst (ns.map D.int))), some (.d (.int (hi : Int))), some (.d (.int (m : Int))), some (.d (strL names)), some (.d (.lst (rs.map D.int))), some (.d (.int th)), some (.d (arsD names (A ++ [(j, k)]))), some (.d (.int (j : Int))), some (.d (.int (k : Int))), some (.d (.int c))], rfl, ?_, A ++ [(j, k)], some (.d (.int (k : Int))), some (.d (.int c)), rfl, by rw [Nat.zero_add]; exact hg.add hj hk hb.1⟩
          rw [seq_ok (e' := [some (.d (.lst (ns.map D.int))), some (.d (.int (hi : Int))), some (.d (.int (m : Int))), some (.d (strL names)), some (.d (.lst (rs.map D.int))), some (.d (.int th)), some (.d (arsD names A)), some (.d (.int (j : Int))), some (.d (.int (k : Int))), some (.d (.int c))]) (set_ok hc)]
          rw [if_tt (by unfold cAnd; rw [c1, bind_ok, decide_eq_true hb.1, if_pos rfl, c2, decide_eq_true hb.2])]
          rw [append_ok (d := pairD (nth names j, nth names k)) (ds := (A.map (arrOf names)).map pairD) (tup2 (m2_ok rfl rfl (hnx j hj)) (m2_ok rfl rfl (hnx k hk))) rfl (by rw [List.length_map, List.length_map]; have := hg.2.2; omega)]
          show Rs.ok (Out.nx [_, _, _, _, _, _, some (W.d (D.lst ((A.map (arrOf names)).map pairD ++ [pairD (nth names j, nth names k)]))), _, _, _]) = _
          rw [arsD, List.map_append, List.map_append]; rfl
        · refine ⟨[some (.d (.lst (ns.map D.int))), some (.d (.int (hi : Int))), some (.d (.int (m : Int))), some (.d (strL names)), some (.d (.lst (rs.map D.int))), some (.d (.int th)), some (.d (arsD names A)), some (.d (.int (j : Int))), some (.d (.int (k : Int))), o9], [some (.d (.lst (ns.map D.int))), some (.d (.int (hi : Int))), some (.d (.int (m : Int))), some (.d (strL names)), some (.d (.lst (rs.map D.int))), some (.d (.int th)), some (.d (arsD names A)), some (.d (.int (j : Int))), some (.d (.int (k : Int))), some (.d (.int c))], rfl, ?_, A, some (.d (.int (k : Int))), some (.d (.int c)), rfl, by rw [Nat.zero_add]; exact hg.skip⟩
          rw [seq_ok (e' := [some (.d (.lst (ns.map D.int))), some (.d (.int (hi : Int))), some (.d (.int (m : Int))), some (.d (strL names)), some (.d (.lst (rs.map D.int))), some (.d (.int th)), some (.d (arsD names A)), some (.d (.int (j : Int))), some (.d (.int (k : Int))), some (.d (.int c))]) (set_ok hc)]
          rw [if_ff (by
            unfold cAnd
            rw [c1, bind_ok]
            by_cases hb1 : rs.getD j 0 < rs.getD k 0
            · rw [decide_eq_true hb1, if_pos rfl, c2, decide_eq_false fun z => hb ⟨hb1, z⟩]
            · rw [decide_eq_false hb1, if_neg Bool.false_ne_true])]
          rfl) _ ⟨A, o8, o9, rfl, hg⟩
    subst he
    rw [dRange_len, Nat.zero_add] at hg'
    exact ⟨A', p8, p9, f1, hg'.next hm8⟩
  obtain ⟨e', f1, A, p7, p8, p9, he, hg⟩ := for_inv (tg := .n 7) (body := (sFor (iRange1 (mV 2)) (.n 8) (sSeq (sSet 9 (mCall m_l_cell [(wD (mV 0)), (wD (m2 dAdd (m2 dAdd (mC (.int 4)) (m2 dDiv (m2 dMulI (mN bMax [(mV 7), (mV 8)]) (m2 dSub (mN bMax [(mV 7), (mV 8)]) (mC (.int 1)))) (mC (.int 2)))) (mN bMin [(mV 7), (mV 8)])))])) (sIf (cAnd (cB (m2 dLt (m2 dIx (mV 4) (mV 7)) (m2 dIx (mV 4) (mV 8)))) (cB (m2 dLt (m2 dMod (m2 dDiv (m2 dMod (m2 dMulI (mV 9) (mC (.int 48271))) (mC (.int 2147483647))) (mC (.int 16))) (mC (.int 4))) (mV 5)))) (sAppend 6 (mN dTup [(m2 dIx (mV 3) (mV 7)), (m2 dIx (mV 3) (mV 8))])) sNext)))) (fun j e => ∃ (A : List Ix) (o7 o8 o9 : Option W), e = [some (.d (.lst (ns.map D.int))), some (.d (.int (hi : Int))), some (.d (.int (m : Int))), some (.d (strL names)), some (.d (.lst (rs.map D.int))), some (.d (.int th)), some (.d (arsD names A)), o7, o8, o9] ∧ good m (fun i => rs.getD i 0) A j 0)
    (dRange 0 (m : Int)) 0 (fun j x e hx ⟨A, o7, o8, o9, he, hg⟩ => by
      obtain ⟨hj, rfl⟩ := dRange_get hx
      subst he
      rw [Nat.zero_add] at hg
      obtain ⟨A', p8, p9, f1, hg'⟩ := inner j A o8 o9 hj hg
      exact ⟨_, _, rfl, (for_ok (rng_ok rfl (seqD m hm8))).trans f1, A', _, p8, p9, rfl, by rw [Nat.zero_add]; exact hg'⟩)
    [some (.d (.lst (ns.map D.int))), some (.d (.int (hi : Int))), some (.d (.int (m : Int))), some (.d (strL names)), some (.d (.lst (rs.map D.int))), some (.d (.int th)), some (.d (.lst [])), none, none, none] ⟨[], none, none, none, rfl, List.Pairwise.nil, fun p hp => absurd hp (by simp), Nat.zero_le _⟩
  subst he
  rw [dRange_len, Nat.zero_add] at hg
  refine ⟨names, A, fun i => rs.getD i 0, ?_, ⟨hnd, by omega, by omega, hg.1, fun p hp => ?_, by have := hg.2.2; omega⟩, c1, m, hm8, hnm⟩
  · unfold m_l_net_2 b_l_net_2
    rw [fnM2]
    rw [show ((0 : Nat) : Int) = 0 from rfl] at hc0
    rw [show ((1 : Nat) : Int) = 1 from rfl] at hc1
    rw [show ((2 : Nat) : Int) = 2 from rfl] at hc2
    rw [show ((3 : Nat) : Int) = 3 from rfl] at hc3
    rw [seq_ok (e' := [some (.d (.lst (ns.map D.int))), some (.d (.int (hi : Int))), some (.d (.int (m : Int))), none, none, none, none, none, none, none]) (set_ok (d := .int (m : Int)) ((m2_ok rfl (m2_ok (call2 rfl rfl hc0) rfl (guardR_pos hw)) rfl).trans (by rw [add_ii, hm])))]
    rw [seq_ok (e' := [some (.d (.lst (ns.map D.int))), some (.d (.int (hi : Int))), some (.d (.int (m : Int))), some (.d (strL names)), none, none, none, none, none, none]) (set_ok (call2 (wD_ok (call2 rfl rfl hc1)) rfl hn))]
    rw [seq_ok (e' := [some (.d (.lst (ns.map D.int))), some (.d (.int (hi : Int))), some (.d (.int (m : Int))), some (.d (strL names)), some (.d (.lst (rs.map D.int))), none, none, none, none, none]) (set_ok (call2 (wD_ok (call2 rfl rfl hc2)) rfl hr))]
    have hl6 : mN dLst [(mC (.int 4)), (mC (.int 1)), (mC (.int 2)), (mC (.int 3)), (mC (.int 2)), (mC (.int 3))] [some (.d (.lst (ns.map D.int))), some (.d (.int (hi : Int))), some (.d (.int (m : Int))), some (.d (strL names)), some (.d (.lst (rs.map D.int))), none, none, none, none, none] = .ok (.lst ([4, 1, 2, 3, 2, 3].map D.int)) := by
      show guardR (([4, 1, 2, 3, 2, 3].map D.int).length ≤ 16777216) _ = _
      exact guardR_pos (by simp)
    rw [seq_ok (e' := [some (.d (.lst (ns.map D.int))), some (.d (.int (hi : Int))), some (.d (.int (m : Int))), some (.d (strL names)), some (.d (.lst (rs.map D.int))), some (.d (.int th)), none, none, none, none]) (set_ok (m2_ok hl6 (m2_ok (call2 rfl rfl hc3) rfl (guardR_pos (by decide))) hth))]
    rw [seq_ok (e' := [some (.d (.lst (ns.map D.int))), some (.d (.int (hi : Int))), some (.d (.int (m : Int))), some (.d (strL names)), some (.d (.lst (rs.map D.int))), some (.d (.int th)), some (.d (.lst [])), none, none, none]) (set_ok (lst0 _))]
    rw [seq_ok ((for_ok (rng_ok rfl (seqD m hm8))).trans f1)]
    rw [ret_ok (wD_ok (tup2 (x := nmD names) (y := arD (A.map (arrOf names))) (n1_ok (x := strL names) rfl) (n1_ok (x := arsD names A) rfl)))]
    rfl
  · obtain ⟨a, b, c, _⟩ := hg.2.1 p hp
    exact ⟨by omega, by omega, c⟩
theorem net2_ok (ns : List Int) (hi : Nat) (h0 : 1 ≤ hi) (h2 : hi ≤ 8) :
    ∃ names A r, m_l_net_2 [.d (.lst (ns.map D.int)), .d (.int (hi : Int))] = .ok (.d (netD names (A.map (arrOf names)))) ∧ IxNet names A r := by
  obtain ⟨names, A, r, h1, h2, _⟩ := net2w_ok ns hi h0 h2
  exact ⟨names, A, r, h1, h2⟩
end Mr
set_option linter.all false
set_option maxRecDepth 10000
namespace Mr
open PySem Mi
end Mr
set_option linter.all false
set_option maxRecDepth 10000
namespace Mr
open PySem Mi
inductive Rch (arrows : List Ar) (x : Str) : Str → Prop
  | refl : Rch arrows x x
  | step {y z : Str} : Rch arrows x y → (y, z) ∈ arrows → Rch arrows x z
end Mr
set_option linter.all false
set_option maxRecDepth 10000
namespace Mr
open PySem Mi
noncomputable def rch (arrows : List Ar) (x y : Str) : Bool := @decide (Rch arrows x y) (Classical.propDecidable _)
noncomputable def belw (names : List Str) (arrows : List Ar) (x : Str) : List Str := names.filter (rch arrows x)
end Mr
set_option linter.all false
set_option maxRecDepth 10000
namespace Mr
open PySem Mi
noncomputable def hb (names : List Str) (arrows : List Ar) (held : List Str) (x : Str) : Bool := (belw names arrows x).any fun y => decide (y ∈ held)
end Mr
set_option linter.all false
set_option maxRecDepth 10000
namespace Mr
open PySem Mi
abbrev Tr3 := Str × Str × Str
def tripD (t : Tr3) : D := .tup [.str t.1, .str t.2.1, .str t.2.2]
theorem any_pair (arrows : List Ar) (p : Ar) : ((arrows.map pairD).any fun e => pyEq e (pairD p)) = decide (p ∈ arrows) := by
  induction arrows with
  | nil => rfl
  | cons q r ih =>
    rw [List.map_cons, List.any_cons, ih]
    have : pyEq (pairD q) (pairD p) = decide (q = p) := by
      unfold pairD
      rw [pyEq, pyEqs, pyEqs, pyEqs, pyEq_str, pyEq_str]
      obtain ⟨a, b⟩ := q
      obtain ⟨c, d⟩ := p
      by_cases h1 : a = c <;> by_cases h2 : b = d <;> simp [h1, h2]
    rw [this]
    by_cases h : q = p
    · simp [h]
    · have h2 : ¬ p = q := fun z => h z.symm
      simp [h, h2]
theorem dep_pairs : ∀ arrows : List Ar, depAll (arrows.map pairD) ≤ 1
  | [] => by simp
  | p :: r => by
    have := dep_pairs r
    rw [List.map_cons, depAll_cons]
    have h : (pairD p).dep = 1 := by simp [pairD]
    omega
theorem dIn_pair (arrows : List Ar) (p : Ar) : dIn (pairD p) (arD arrows) = .ok (.bl (decide (p ∈ arrows))) := by
  show guardR _ _ = _
  rw [guardR_pos (by have := dep_pairs arrows; omega), any_pair]
end Mr
set_option linter.all false
set_option maxRecDepth 10000
namespace Mr
open PySem Mi
def flp (a : Ar) (arrows : List Ar) : List Ar := arrows.map fun p => if p = a then (p.2, p.1) else p
theorem mem_flp {arrows : List Ar} {a p : Ar} (ha : a ∈ arrows) : p ∈ flp a arrows ↔ (p ∈ arrows ∧ p ≠ a) ∨ p = (a.2, a.1) := by
  unfold flp
  rw [List.mem_map]
  constructor
  · rintro ⟨q, hq, e⟩
    by_cases z : q = a
    · rw [if_pos z] at e; exact .inr (by rw [← e, z])
    · rw [if_neg z] at e; exact .inl ⟨e ▸ hq, e ▸ z⟩
  · rintro (⟨h1, h2⟩ | e)
    · exact ⟨p, h1, if_neg h2⟩
    · exact ⟨a, ha, by rw [if_pos rfl, e]⟩
def hds (arrows : List Ar) (l : List Str) : List Str := (arrows.filter fun p => decide (p.1 ∈ l)).map (·.2)
theorem mem_hds {arrows : List Ar} {l : List Str} {x : Str} : x ∈ hds arrows l ↔ ∃ t, (t, x) ∈ arrows ∧ t ∈ l := by
  unfold hds
  rw [List.mem_map]
  constructor
  · rintro ⟨⟨t, h⟩, hq, rfl⟩
    obtain ⟨h1, h2⟩ := List.mem_filter.mp hq
    exact ⟨t, h1, by simpa using h2⟩
  · rintro ⟨t, h1, h2⟩
    exact ⟨(t, x), List.mem_filter.mpr ⟨h1, by simpa using h2⟩, rfl⟩
def nxl (arrows : List Ar) (l : List Str) : List Str := l.filter fun x => decide (x ∈ hds arrows l)
def lft (names : List Str) (arrows : List Ar) : Nat → List Str
  | 0 => names
  | k + 1 => nxl arrows (lft names arrows k)
def rnd (names : List Str) (arrows : List Ar) : Bool := decide (0 < (lft names arrows names.length).length)
def Rk (arrows : List Ar) : Prop := ∃ r : Str → Int, ∀ p ∈ arrows, r p.1 < r p.2
theorem lft_sub {names : List Str} {arrows : List Ar} {k : Nat} {x : Str} (h : x ∈ lft names arrows (k + 1)) : x ∈ lft names arrows k := (List.mem_filter.mp h).1
theorem lft_step {names : List Str} {arrows : List Ar} (hin : ∀ p ∈ arrows, p.1 ∈ names ∧ p.2 ∈ names) {t h : Str} (a : (t, h) ∈ arrows) : ∀ k, t ∈ lft names arrows k → h ∈ lft names arrows k ∧ h ∈ lft names arrows (k + 1)
  | 0, ht => by
    have h0 : h ∈ lft names arrows 0 := (hin _ a).2
    exact ⟨h0, List.mem_filter.mpr ⟨h0, by simpa using mem_hds.mpr ⟨t, a, ht⟩⟩⟩
  | k + 1, ht => by
    have ih := (lft_step hin a k (lft_sub ht)).2
    exact ⟨ih, List.mem_filter.mpr ⟨ih, by simpa using mem_hds.mpr ⟨t, a, ht⟩⟩⟩
theorem rk_of {names : List Str} {arrows : List Ar} (hin : ∀ p ∈ arrows, p.1 ∈ names ∧ p.2 ∈ names) (h : rnd names arrows = false) : Rk arrows := by
  have he : ∀ x, x ∉ lft names arrows names.length := fun x hx => by
    have := List.length_pos_of_mem hx
    unfold rnd at h
    rw [decide_eq_false_iff_not] at h
    exact h this
  refine ⟨fun x => (((List.range names.length).filter fun k => decide (x ∈ lft names arrows k)).length : Nat), fun p hp => ?_⟩
  obtain ⟨t, b⟩ := p
  have key : (0 :: ((List.range names.length).filter fun k => decide (t ∈ lft names arrows k)).map (· + 1)).length ≤ ((List.range names.length).filter fun k => decide (b ∈ lft names arrows k)).length := by
    refine nodup_sub_len ?_ ?_
    · refine List.nodup_cons.mpr ⟨fun z => by obtain ⟨y, _, e⟩ := List.mem_map.mp z; omega, ?_⟩
      have nd := (List.nodup_range (n := names.length)).filter (p := fun k => decide (t ∈ lft names arrows k))
      refine List.pairwise_map.mpr (nd.imp fun z e => z (by omega))
    · intro y hy
      have hb : b ∈ names := (hin _ hp).2
      have pos := List.length_pos_of_mem hb
      rcases List.mem_cons.mp hy with rfl | hy
      · exact List.mem_filter.mpr ⟨List.mem_range.mpr pos, decide_eq_true (show b ∈ lft names arrows 0 from hb)⟩
      · obtain ⟨k, hk, rfl⟩ := List.mem_map.mp hy
        obtain ⟨k1, k2⟩ := List.mem_filter.mp hk
        have k2 : t ∈ lft names arrows k := by simpa using k2
        have k3 := (lft_step hin hp k k2).2
        have k1 := List.mem_range.mp k1
        have : k + 1 ≠ names.length := fun e => he b (e ▸ k3)
        exact List.mem_filter.mpr ⟨List.mem_range.mpr (by omega), by simpa using k3⟩
  simp only [List.length_cons, List.length_map] at key ⊢
  omega
def crn (arrows : List Ar) (a m b : Str) : Bool := (decide ((a, m) ∈ arrows) && decide ((b, m) ∈ arrows)) && !(decide ((a, b) ∈ arrows) || decide ((b, a) ∈ arrows))
theorem crn_iff {arrows : List Ar} {a m b : Str} : crn arrows a m b = true ↔ (a, m) ∈ arrows ∧ (b, m) ∈ arrows ∧ ¬ (a, b) ∈ arrows ∧ ¬ (b, a) ∈ arrows := by
  unfold crn
  simp [and_assoc]
def crns (names : List Str) (arrows : List Ar) : List Tr3 :=
  (List.range names.length).flatMap fun k => names.flatMap fun m => ((names.drop (k + 1)).filter fun b => crn arrows (nth names k) m b).map fun b => (nth names k, m, b)
theorem mem_crns {names : List Str} {arrows : List Ar} {a m b : Str} : (a, m, b) ∈ crns names arrows ↔ ∃ k, k < names.length ∧ a = nth names k ∧ m ∈ names ∧ b ∈ names.drop (k + 1) ∧ crn arrows a m b = true := by
  unfold crns
  simp only [List.mem_flatMap, List.mem_map, List.mem_filter, List.mem_range, Prod.mk.injEq]
  constructor
  · rintro ⟨k, hk, m', hm, b', ⟨hb, hc⟩, rfl, rfl, rfl⟩
    exact ⟨k, hk, rfl, hm, hb, hc⟩
  · rintro ⟨k, hk, rfl, hm, hb, hc⟩
    exact ⟨k, hk, m, hm, b, ⟨hb, hc⟩, rfl, rfl, rfl⟩
theorem flatMap_same {α β : Type} {f g : α → List β} : ∀ {l : List α}, (∀ x ∈ l, f x = g x) → l.flatMap f = l.flatMap g
  | [], _ => rfl
  | x :: r, h => by rw [List.flatMap_cons, List.flatMap_cons, h x List.mem_cons_self, flatMap_same fun y hy => h y (List.mem_cons_of_mem _ hy)]
end Mr
set_option linter.all false
set_option maxRecDepth 10000
namespace Mr
open PySem Mi
end Mr
set_option linter.all false
set_option maxRecDepth 10000
namespace Mr
open PySem Mi
end Mr
set_option linter.all false
set_option maxRecDepth 10000
namespace Mr
open PySem Mi
theorem ixT_strs {cs : List Str} {i : Int} (h0 : 0 ≤ i) (h1 : i < cs.length) : dIx (nmD cs) (.int i) = .ok (.str (nth cs i.toNat)) := ix_strs (cs := cs) h0 h1
def tie (arrows : List Ar) (a b : Str) : Bool := decide ((a, b) ∈ arrows) || decide ((b, a) ∈ arrows)
theorem tied_ok {names : List Str} {arrows : List Ar} (a b : Str) : m_l_tied [.d (netD names arrows), .d (.str a), .d (.str b)] = .ok (.d (.bl (tie arrows a b))) := by
  unfold m_l_tied b_l_tied
  rw [fnM3]
  have a1 : m2 dIn (mN dTup [(mV 1), (mV 2)]) (m2 dIx (mV 0) (mC (.int 1))) [some (.d (netD names arrows)), some (.d (.str a)), some (.d (.str b))] = .ok (.bl (decide ((a, b) ∈ arrows))) := (m2_ok (tup2 rfl rfl) (m2_ok rfl rfl (ix1 _ _)) rfl).trans (dIn_pair arrows (a, b))
  have a2 : m2 dIn (mN dTup [(mV 2), (mV 1)]) (m2 dIx (mV 0) (mC (.int 1))) [some (.d (netD names arrows)), some (.d (.str a)), some (.d (.str b))] = .ok (.bl (decide ((b, a) ∈ arrows))) := (m2_ok (tup2 rfl rfl) (m2_ok rfl rfl (ix1 _ _)) rfl).trans (dIn_pair arrows (b, a))
  have aa : mOr (m2 dIn (mN dTup [(mV 1), (mV 2)]) (m2 dIx (mV 0) (mC (.int 1)))) (m2 dIn (mN dTup [(mV 2), (mV 1)]) (m2 dIx (mV 0) (mC (.int 1)))) [some (.d (netD names arrows)), some (.d (.str a)), some (.d (.str b))] = .ok (.bl (tie arrows a b)) := by
    unfold mOr
    rw [a1, bind_ok]
    show (asB (.bl _)).bind _ = _
    rw [asB_b, bind_ok]
    unfold tie
    by_cases h : (a, b) ∈ arrows
    · rw [decide_eq_true h, if_pos rfl, Bool.true_or]
    · rw [decide_eq_false h, if_neg Bool.false_ne_true, a2, Bool.false_or]
  exact (congrArg (fun r => Rs.bind r fnOut) (ret_ok (wD_ok aa))).trans rfl
theorem len_nm {names : List Str} {arrows : List Ar} {e : Mi.Env} (e0 : mV 0 e = .ok (netD names arrows)) : mN bLen [(m2 dIx (mV 0) (mC (.int 0)))] e = .ok (.int (names.length : Int)) := (n1_ok (m2_ok e0 rfl (ix0 _ _))).trans (by unfold nmD; rw [len_t, List.length_map])
end Mr
set_option linter.all false
set_option maxRecDepth 10000
namespace Mr
open PySem Mi
end Mr
set_option linter.all false
set_option maxRecDepth 10000
namespace Mr
open PySem Mi
theorem alike_str (n : Nat) (x : Str) : m_l_alike (n + 1) [.d (.str x), .d (.str x)] = .ok (.d (.bl true)) := by
  show fnM 2 4 (b_l_alike (m_l_alike n)) _ = _
  unfold b_l_alike
  rw [fnM2]
  have c0 : cOr (cB (m1 (bIs ["str"]) (mV 1))) (cB (m1 (bIs ["int"]) (mV 1))) [some (.d (.str x)), some (.d (.str x)), none, none] = .ok true := rfl
  have c1 : cOr (cB (m2 dNe (m1 (bIs ["bool"]) (mV 0)) (m1 (bIs ["bool"]) (mV 1)))) (cB (m2 dNe (m1 (bIs ["str"]) (mV 0)) (m1 (bIs ["str"]) (mV 1)))) [some (.d (.str x)), some (.d (.str x)), none, none] = .ok false := rfl
  have c2 : mAnd (m1 (bIs ["int", "str"]) (mV 0)) (m2 dEq (mV 0) (mV 1)) [some (.d (.str x)), some (.d (.str x)), none, none] = .ok (.bl true) := by
    show m2 dEq (mV 0) (mV 1) [some (.d (.str x)), some (.d (.str x)), none, none] = _
    exact (m2_ok rfl rfl rfl).trans ((dEq_str x x).trans (by rw [decide_eq_true rfl]))
  exact (congrArg (fun r => Rs.bind r fnOut) (seq_rt ((if_tt c0).trans ((seq_ok ((if_ff c1).trans rfl)).trans (ret_ok (wD_ok c2)))))).trans rfl
theorem not_ff {a : E} {e : Mi.Env} (h : a e = .ok (.bl true)) : cNot (cB a) e = .ok false := by unfold cNot; rw [cB_ok h]; rfl
end Mr
set_option linter.all false
set_option maxRecDepth 10000
namespace Mr
open PySem Mi
theorem cAnd_ok {a b : C} {e : Mi.Env} {p q : Bool} (ha : a e = .ok p) (hb : p = true → b e = .ok q) : cAnd a b e = .ok (p && q) := by
  unfold cAnd; rw [ha, bind_ok]
  cases p with
  | true => rw [if_pos rfl, hb rfl]; rfl
  | false => rfl
theorem cOr_ok {a b : C} {e : Mi.Env} {p q : Bool} (ha : a e = .ok p) (hb : p = false → b e = .ok q) : cOr a b e = .ok (p || q) := by
  unfold cOr; rw [ha, bind_ok]
  cases p with
  | true => rfl
  | false => rw [if_neg Bool.false_ne_true, hb rfl]; rfl
theorem cNot_ok {a : C} {e : Mi.Env} {p : Bool} (ha : a e = .ok p) : cNot a e = .ok (!p) := by unfold cNot; rw [ha]; rfl
theorem mAnd_ok {a b : E} {e : Mi.Env} {p q : Bool} (ha : a e = .ok (.bl p)) (hb : p = true → b e = .ok (.bl q)) : mAnd a b e = .ok (.bl (p && q)) := by
  unfold mAnd; rw [ha, bind_ok, asB_b, bind_ok]
  cases p with
  | true => rw [if_pos rfl, hb rfl]; rfl
  | false => rfl
theorem mOr_ok {a b : E} {e : Mi.Env} {p q : Bool} (ha : a e = .ok (.bl p)) (hb : p = false → b e = .ok (.bl q)) : mOr a b e = .ok (.bl (p || q)) := by
  unfold mOr; rw [ha, bind_ok, asB_b, bind_ok]
  cases p with
  | true => rfl
  | false => rw [if_neg Bool.false_ne_true, hb rfl]; rfl
theorem app_if {i : Nat} {c : C} {a : E} {e : Mi.Env} {ds : List D} {d : D} {p : Bool} (hc : c e = .ok p) (ha : p = true → a e = .ok d) (hg : getL e i = .ok ds) (hl : ds.length + (if p then [d] else []).length ≤ 16777216) (hs : e.set i (some (.d (.lst ds))) = e) :
    sIf c (sAppend i a) sNext e = .ok (.nx (putL e i (ds ++ if p then [d] else []))) := by
  cases p with
  | true => rw [if_tt hc, append_ok (ha rfl) hg (by simp at hl; omega)]; rfl
  | false =>
    rw [if_ff hc]
    simp only [Bool.false_eq_true, if_false, List.append_nil, putL]
    rw [hs]; rfl
theorem n3_ok {f : List D → Rs D} {a b c : E} {e : Mi.Env} {x y z : D} (h : a e = .ok x) (h' : b e = .ok y) (h'' : c e = .ok z) : mN f [a, b, c] e = f [x, y, z] := by unfold mN; rw [mArgs, h, bind_ok, mArgs, h', bind_ok, mArgs, h'']; rfl
theorem slf_ok {f : D → Option Int → Option Int → Rs D} {a b : E} {e : Mi.Env} {x : D} {i : Int} (h : a e = .ok x) (h' : b e = .ok (.int i)) : mSlF f a (some b) none e = f x (some i) none := by unfold mSlF; rw [h, bind_ok, show mPart (some b) e = .ok (some i) from by rw [mPart, h']; rfl]; rfl
theorem slu_ok {f : D → Option Int → Option Int → Rs D} {a b : E} {e : Mi.Env} {x : D} {i : Int} (h : a e = .ok x) (h' : b e = .ok (.int i)) : mSlF f a none (some b) e = f x none (some i) := by unfold mSlF; rw [h, bind_ok, show mPart (some b) e = .ok (some i) from by rw [mPart, h']; rfl]; rfl
theorem for_flat {α : Type} {tg : Tg} {body : S} (f : α → D) (g : α → List D) (St : List D → Mi.Env → Prop) : ∀ (xs : List α) (acc : List D) (e : Mi.Env), acc.length + (xs.flatMap g).length ≤ 16777216 → St acc e →
    (∀ x ∈ xs, ∀ acc e, acc.length + (g x).length ≤ 16777216 → St acc e → ∃ e1 e2, tg.put (f x) e = .ok e1 ∧ body e1 = .ok (.nx e2) ∧ St (acc ++ g x) e2) →
    ∃ e', forD tg body (xs.map f) e = .ok (.nx e') ∧ St (acc ++ xs.flatMap g) e'
  | [], acc, e, _, h, _ => ⟨e, rfl, by simpa using h⟩
  | x :: r, acc, e, hl, h, hs => by
    rw [List.flatMap_cons, List.length_append] at hl
    obtain ⟨e1, e2, h1, h2, h3⟩ := hs x List.mem_cons_self acc e (by omega) h
    obtain ⟨e', h4, h5⟩ := for_flat f g St r (acc ++ g x) e2 (by rw [List.length_append]; omega) h3 fun y hy => hs y (List.mem_cons_of_mem _ hy)
    refine ⟨e', ?_, by rw [List.flatMap_cons, ← List.append_assoc]; exact h5⟩
    rw [List.map_cons, forD, h1, bind_ok, h2, bind_ok]
    exact h4
theorem filter_flat {α β : Type} (p : α → Bool) (f : α → β) : ∀ l : List α, (l.flatMap fun x => if p x then [f x] else []) = (l.filter p).map f
  | [] => rfl
  | x :: r => by
    rw [List.flatMap_cons, filter_flat p f r]
    cases h : p x with
    | true => rw [List.filter_cons_of_pos h]; rfl
    | false => rw [List.filter_cons_of_neg (by rw [h]; exact Bool.false_ne_true)]; rfl
theorem map_flatMap' {α β γ : Type} (f : β → γ) (g : α → List β) : ∀ l : List α, (l.flatMap g).map f = l.flatMap fun x => (g x).map f
  | [] => rfl
  | x :: r => by rw [List.flatMap_cons, List.map_append, map_flatMap' f g r, List.flatMap_cons]
theorem flat_len {α β : Type} {g : α → List β} {m : Nat} : ∀ {l : List α}, (∀ x ∈ l, (g x).length ≤ m) → (l.flatMap g).length ≤ l.length * m
  | [], _ => by simp
  | x :: r, h => by
    have ih := flat_len (l := r) fun y hy => h y (List.mem_cons_of_mem _ hy)
    have h1 := h x List.mem_cons_self
    rw [List.flatMap_cons, List.length_append, List.length_cons, Nat.add_mul]
    omega
theorem pyEq_pair (p q : Ar) : pyEq (pairD p) (pairD q) = decide (p = q) := by
  obtain ⟨a, b⟩ := p
  obtain ⟨c, d⟩ := q
  unfold pairD
  rw [pyEq, pyEqs, pyEqs, pyEqs, pyEq_str, pyEq_str]
  by_cases h : a = c <;> by_cases k : b = d <;> simp [h, k]
theorem dEq_pair (p q : Ar) : dEq (pairD p) (pairD q) = .ok (.bl (decide (p = q))) := by
  unfold dEq
  rw [guardR_pos (by simp [pairD]), pyEq_pair]
def prL (arrows : List Ar) : D := .lst (arrows.map pairD)
theorem dInL_pair (arrows : List Ar) (p : Ar) : dIn (pairD p) (prL arrows) = .ok (.bl (decide (p ∈ arrows))) := by
  show guardR _ _ = _
  rw [guardR_pos (Nat.le_trans (dep_pairs arrows) (by decide)), any_pair]
theorem dNotInL_pair (arrows : List Ar) (p : Ar) : dNotIn (pairD p) (prL arrows) = .ok (.bl (!decide (p ∈ arrows))) := by
  show guardR _ _ = _
  rw [guardR_pos (Nat.le_trans (dep_pairs arrows) (by decide)), any_pair]
theorem pick2 (x y : D) (k : Bool) : dIx (.lst [x, y]) (.int (if k then 1 else 0)) = .ok (if k then y else x) := by
  cases k
  · show ofO (atI [x, y] 0) = _
    rw [at0]; rfl
  · show ofO (atI [x, y] 1) = _
    rw [at1]; rfl
theorem flipped_ok {arrows : List Ar} {a : Ar} (hl : arrows.length ≤ 100) : m_l_flipped [.d (prL arrows), .d (pairD a)] = .ok (.d (prL (flp a arrows))) := by
  unfold m_l_flipped b_l_flipped
  rw [fnN2]
  have hc : compD (.n 1) cYes (m2 dIx (mN dLst [(mV 1), (mN dTup [(m2 dIx (mV 1) (mC (.int 1))), (m2 dIx (mV 1) (mC (.int 0)))])]) (mN bInt [(m2 dEq (mV 1) (mV 0))])) [some (.d (pairD a)), none] (arrows.map pairD) = .ok ((arrows.filter fun _ => true).map fun p => pairD (if p = a then (p.2, p.1) else p)) :=
    comp_map pairD (fun p => pairD (if p = a then (p.2, p.1) else p)) (fun _ => true) arrows fun p _ => ⟨[some (.d (pairD a)), some (.d (pairD p))], rfl, rfl, fun _ => by
      have i0 : dIx (pairD p) (.int 0) = .ok (.str p.1) := by unfold pairD dIx; simp only [at0]; rfl
      have i1 : dIx (pairD p) (.int 1) = .ok (.str p.2) := by unfold pairD dIx; simp only [at1]; rfl
      refine (m2_ok ((n2_ok rfl (tup2 (m2_ok rfl rfl i1) (m2_ok rfl rfl i0))).trans (guardR_pos (by simp))) ((n1_ok (m2_ok rfl rfl (dEq_pair p a))).trans rfl) (pick2 _ _ (decide (p = a)))).trans ?_
      by_cases h : p = a <;> simp [h, pairD]⟩
  have hm := comp_ok (ρ := [some 1, none]) (e := [some (.d (prL arrows)), some (.d (pairD a))]) (iOf_ok (a := mV 0) (x := prL arrows) rfl rfl) (by rw [List.length_map]; omega) hc
  rw [show ([some (W.d (prL arrows)), some (W.d (pairD a))] ++ List.replicate (2 - 2) none) = [some (W.d (prL arrows)), some (W.d (pairD a))] from rfl]
  rw [ret_ok (wD_ok hm)]
  show Rs.ok (W.d (.lst _)) = _
  unfold prL flp
  rw [List.filter_eq_self.mpr (fun _ _ => rfl), List.map_map]; rfl
theorem comes_ok {names : List Str} {arrows : List Ar} (hn : names.length ≤ 8) (hl : arrows.length ≤ 100) : m_l_comes_round [.d (nmD names), .d (prL arrows)] = .ok (.d (.bl (rnd names arrows))) := by
  unfold m_l_comes_round b_l_comes_round
  rw [fnM2]
  have lle : ∀ k, (lft names arrows k).length ≤ 8 := fun k => by
    induction k with
    | zero => exact hn
    | succ k ih => exact Nat.le_trans (List.length_filter_le _ _) ih
  obtain ⟨e', f1, o3, o4, he⟩ := for_inv (tg := .n 3) (body := (sSeq (sSet 4 (mComp [some 2, none, none] (iOf (mV 1)) (.t [1, 2]) (cB (m2 dIn (mV 1) (mV 0))) (mV 2)))
  (sSet 2 (mComp [some 4, none] (iOf (mV 2)) (.n 1) (cB (m2 dIn (mV 1) (mV 0))) (mV 1)))))
    (fun i e => ∃ o3 o4 : Option W, e = [some (.d (nmD names)), some (.d (prL arrows)), some (.d (strL (lft names arrows i))), o3, o4]) (dRange 0 (names.length : Int)) 0 (fun i x e hx ⟨o3, o4, he⟩ => by
      subst he
      rw [Nat.zero_add]
      have h1 : compD (.t [1, 2]) (cB (m2 dIn (mV 1) (mV 0))) (mV 2) [some (.d (strL (lft names arrows i))), none, none] (arrows.map pairD) = .ok ((arrows.filter fun p => decide (p.1 ∈ lft names arrows i)).map fun p => D.str p.2) :=
        comp_map pairD (fun p => D.str p.2) (fun p => decide (p.1 ∈ lft names arrows i)) arrows fun p _ => ⟨[some (.d (strL (lft names arrows i))), some (.d (.str p.1)), some (.d (.str p.2))], rfl, cB_ok (m2_ok rfl rfl (dIn_str _ _)), fun _ => rfl⟩
      have h2 : compD (.n 1) (cB (m2 dIn (mV 1) (mV 0))) (mV 1) [some (.d (strL (hds arrows (lft names arrows i)))), none] ((lft names arrows i).map D.str) = .ok ((nxl arrows (lft names arrows i)).map D.str) :=
        comp_map D.str D.str (fun x => decide (x ∈ hds arrows (lft names arrows i))) (lft names arrows i) fun y _ => ⟨[some (.d (strL (hds arrows (lft names arrows i)))), some (.d (.str y))], rfl, cB_ok (m2_ok rfl rfl (dIn_str _ _)), fun _ => rfl⟩
      refine ⟨[some (.d (nmD names)), some (.d (prL arrows)), some (.d (strL (lft names arrows i))), some (.d x), o4], [some (.d (nmD names)), some (.d (prL arrows)), some (.d (strL (lft names arrows (i + 1)))), some (.d x), some (.d (strL (hds arrows (lft names arrows i))))], rfl, ?_, _, _, rfl⟩
      have s1 : sSet 4 (mComp [some 2, none, none] (iOf (mV 1)) (.t [1, 2]) (cB (m2 dIn (mV 1) (mV 0))) (mV 2)) [some (.d (nmD names)), some (.d (prL arrows)), some (.d (strL (lft names arrows i))), some (.d x), o4] = .ok (.nx [some (.d (nmD names)), some (.d (prL arrows)), some (.d (strL (lft names arrows i))), some (.d x), some (.d (strL (hds arrows (lft names arrows i))))]) := by
        rw [set_ok (comp_ok (iOf_ok (x := prL arrows) rfl rfl) (by rw [List.length_map]; omega) h1)]
        unfold strL hds
        rw [List.map_map]; rfl
      rw [seq_ok s1]
      rw [set_ok (comp_ok (iOf_ok (x := strL (lft names arrows i)) rfl rfl) (by rw [List.length_map]; have := lle i; omega) h2)]
      rfl) [some (.d (nmD names)), some (.d (prL arrows)), some (.d (strL names)), none, none] ⟨none, none, rfl⟩
  subst he
  rw [seq_ok (e' := [some (.d (nmD names)), some (.d (prL arrows)), some (.d (strL names)), none, none]) (set_ok ((n1_ok (x := nmD names) rfl).trans rfl))]
  have hit : iRange1 (mN bLen [(mV 0)]) [some (.d (nmD names)), some (.d (prL arrows)), some (.d (strL names)), none, none] = .ok (dRange 0 (names.length : Int)) :=
    rng_ok ((n1_ok (x := nmD names) rfl).trans (by unfold nmD; rw [len_t, List.length_map])) (okR_small (by omega) (by omega))
  rw [seq_ok ((for_ok hit).trans f1)]
  rw [dRange_len, Nat.zero_add]
  have hret : m2 dGt (mN bLen [(mV 2)]) (mC (.int 0)) [some (.d (nmD names)), some (.d (prL arrows)), some (.d (strL (lft names arrows names.length))), o3, o4] = .ok (.bl (rnd names arrows)) := by
    refine (m2_ok ((n1_ok (x := strL (lft names arrows names.length)) rfl).trans rfl) rfl rfl).trans ?_
    show Rs.ok (D.bl (decide ((0 : Int) < (((lft names arrows names.length).map D.str).length : Nat)))) = _
    unfold rnd
    rw [List.length_map]
    exact congrArg (fun b => Rs.ok (D.bl b)) (decide_eq_decide.mpr (by omega))
  rw [ret_ok (wD_ok hret)]; rfl
theorem enum_range (names : List Str) : dEnum 0 (names.map D.str) = (List.range names.length).map fun k => D.tup [.int (k : Nat), .str (nth names k)] := by
  have key : ∀ (ns : List Str) (j : Nat), dEnum j (ns.map D.str) = (List.range ns.length).map fun k => D.tup [.int ((j + k : Nat) : Int), .str (nth ns k)] := fun ns => by
    induction ns with
    | nil => exact fun _ => rfl
    | cons x r ih =>
      intro j
      rw [List.map_cons, dEnum, ih, List.length_cons, List.range_succ_eq_map, List.map_cons, List.map_map]
      congr 1
      refine List.map_congr_left fun k _ => ?_
      show D.tup [.int ((j + 1 + k : Nat) : Int), _] = D.tup [.int ((j + (k + 1) : Nat) : Int), _]
      rw [show j + 1 + k = j + (k + 1) by omega]; rfl
  rw [key names 0]
  refine List.map_congr_left fun k _ => ?_
  rw [Nat.zero_add]
theorem corners_len {names : List Str} (hn : names.length ≤ 8) (arrows : List Ar) : (crns names arrows).length ≤ 512 := by
  unfold crns
  refine Nat.le_trans (flat_len (m := 64) fun k _ => ?_) (by rw [List.length_range]; omega)
  refine Nat.le_trans (flat_len (m := 8) fun m _ => ?_) (by omega)
  rw [List.length_map]
  refine Nat.le_trans (List.length_filter_le _ _) ?_
  rw [List.length_drop]; omega
theorem corners_ok {names : List Str} {arrows : List Ar} (hn : names.length ≤ 8) : m_l_corners [.d (netD names arrows)] = .ok (.d (.lst ((crns names arrows).map tripD))) := by
  unfold m_l_corners b_l_corners
  rw [fnN1]
  have ecr : (crns names arrows).map tripD = (List.range names.length).flatMap fun k => names.flatMap fun m => (names.drop (k + 1)).flatMap fun b => if crn arrows (nth names k) m b then [tripD (nth names k, m, b)] else [] := by
    unfold crns
    rw [map_flatMap']
    refine flatMap_same fun k _ => ?_
    rw [map_flatMap']
    refine flatMap_same fun m _ => ?_
    rw [List.map_map, filter_flat (fun b => crn arrows (nth names k) m b) (fun b => tripD (nth names k, m, b))]; rfl
  have clen : ((crns names arrows).map tripD).length ≤ 512 := by rw [List.length_map]; exact corners_len hn arrows
  rw [ecr] at clen ⊢
  obtain ⟨e', f1, o2, o3, o4, o5, o6, he⟩ := for_flat (tg := .t [2, 3]) (body := (sFor (iOf (m2 dIx (mV 0) (mC (.int 0)))) (.n 4)
  (sFor (iOf (mSlF dSlT (m2 dIx (mV 0) (mC (.int 0))) (some (m2 dAdd (mV 2) (mC (.int 1)))) none)) (.n 5)
  (sSeq (sSet 6 (mAnd (m2 dIn (mN dTup [(mV 3), (mV 4)]) (m2 dIx (mV 0) (mC (.int 1)))) (m2 dIn (mN dTup [(mV 5), (mV 4)]) (m2 dIx (mV 0) (mC (.int 1))))))
  (sIf (cAnd (cTru (mV 6)) (cNot (cB (mCall m_l_tied [(wD (mV 0)), (wD (mV 3)), (wD (mV 5))]))))
  (sAppend 1 (mN dTup [(mV 3), (mV 4), (mV 5)]))
  sNext)))))
    (fun k : Nat => D.tup [.int (k : Nat), .str (nth names k)]) (fun k => names.flatMap fun m => (names.drop (k + 1)).flatMap fun b => if crn arrows (nth names k) m b then [tripD (nth names k, m, b)] else [])
    (fun acc e => ∃ o2 o3 o4 o5 o6 : Option W, e = [some (.d (netD names arrows)), some (.d (.lst acc)), o2, o3, o4, o5, o6]) (List.range names.length) [] [some (.d (netD names arrows)), some (.d (.lst [])), none, none, none, none, none] (by simp only [List.length_nil]; omega) ⟨none, none, none, none, none, rfl⟩
    (fun k hk acc e hl ⟨o2, o3, o4, o5, o6, he⟩ => by
      subst he
      have hk := List.mem_range.mp hk
      obtain ⟨e', g1, o4', o5', o6', he'⟩ := for_flat (tg := .n 4) (body := (sFor (iOf (mSlF dSlT (m2 dIx (mV 0) (mC (.int 0))) (some (m2 dAdd (mV 2) (mC (.int 1)))) none)) (.n 5)
  (sSeq (sSet 6 (mAnd (m2 dIn (mN dTup [(mV 3), (mV 4)]) (m2 dIx (mV 0) (mC (.int 1)))) (m2 dIn (mN dTup [(mV 5), (mV 4)]) (m2 dIx (mV 0) (mC (.int 1))))))
  (sIf (cAnd (cTru (mV 6)) (cNot (cB (mCall m_l_tied [(wD (mV 0)), (wD (mV 3)), (wD (mV 5))]))))
  (sAppend 1 (mN dTup [(mV 3), (mV 4), (mV 5)]))
  sNext))))
        D.str (fun m => (names.drop (k + 1)).flatMap fun b => if crn arrows (nth names k) m b then [tripD (nth names k, m, b)] else [])
        (fun acc e => ∃ o4 o5 o6 : Option W, e = [some (.d (netD names arrows)), some (.d (.lst acc)), some (.d (.int (k : Nat))), some (.d (.str (nth names k))), o4, o5, o6]) names acc [some (.d (netD names arrows)), some (.d (.lst acc)), some (.d (.int (k : Nat))), some (.d (.str (nth names k))), o4, o5, o6] hl ⟨_, _, _, rfl⟩
        (fun m hm acc e hl ⟨o4, o5, o6, he⟩ => by
          subst he
          obtain ⟨e', g1, o5', o6', he'⟩ := for_flat (tg := .n 5) (body := (sSeq (sSet 6 (mAnd (m2 dIn (mN dTup [(mV 3), (mV 4)]) (m2 dIx (mV 0) (mC (.int 1)))) (m2 dIn (mN dTup [(mV 5), (mV 4)]) (m2 dIx (mV 0) (mC (.int 1))))))
  (sIf (cAnd (cTru (mV 6)) (cNot (cB (mCall m_l_tied [(wD (mV 0)), (wD (mV 3)), (wD (mV 5))]))))
  (sAppend 1 (mN dTup [(mV 3), (mV 4), (mV 5)]))
  sNext)))
            D.str (fun b => if crn arrows (nth names k) m b then [tripD (nth names k, m, b)] else [])
            (fun acc e => ∃ o5 o6 : Option W, e = [some (.d (netD names arrows)), some (.d (.lst acc)), some (.d (.int (k : Nat))), some (.d (.str (nth names k))), some (.d (.str m)), o5, o6]) (names.drop (k + 1)) acc [some (.d (netD names arrows)), some (.d (.lst acc)), some (.d (.int (k : Nat))), some (.d (.str (nth names k))), some (.d (.str m)), o5, o6] hl ⟨_, _, rfl⟩
            (fun b hb acc e hl ⟨o5, o6, he⟩ => by
              subst he
              obtain ⟨q, hq⟩ : ∃ q, q = (decide ((nth names k, m) ∈ arrows) && decide ((b, m) ∈ arrows)) := ⟨_, rfl⟩
              refine ⟨[some (.d (netD names arrows)), some (.d (.lst acc)), some (.d (.int (k : Nat))), some (.d (.str (nth names k))), some (.d (.str m)), some (.d (.str b)), o6], putL [some (.d (netD names arrows)), some (.d (.lst acc)), some (.d (.int (k : Nat))), some (.d (.str (nth names k))), some (.d (.str m)), some (.d (.str b)), some (.d (.bl q))] 1 (acc ++ if crn arrows (nth names k) m b then [tripD (nth names k, m, b)] else []), rfl, ?_, _, _, rfl⟩
              have s1 : sSet 6 (mAnd (m2 dIn (mN dTup [(mV 3), (mV 4)]) (m2 dIx (mV 0) (mC (.int 1)))) (m2 dIn (mN dTup [(mV 5), (mV 4)]) (m2 dIx (mV 0) (mC (.int 1))))) [some (.d (netD names arrows)), some (.d (.lst acc)), some (.d (.int (k : Nat))), some (.d (.str (nth names k))), some (.d (.str m)), some (.d (.str b)), o6] = .ok (.nx [some (.d (netD names arrows)), some (.d (.lst acc)), some (.d (.int (k : Nat))), some (.d (.str (nth names k))), some (.d (.str m)), some (.d (.str b)), some (.d (.bl q))]) := by
                rw [hq]
                exact set_ok (mAnd_ok (m2_ok (tup2 rfl rfl) (m2_ok rfl rfl (ix1 names arrows)) (dIn_pair arrows (nth names k, m))) fun _ => m2_ok (tup2 rfl rfl) (m2_ok rfl rfl (ix1 names arrows)) (dIn_pair arrows (b, m)))
              rw [seq_ok s1]
              have ct : cAnd (cTru (mV 6)) (cNot (cB (mCall m_l_tied [(wD (mV 0)), (wD (mV 3)), (wD (mV 5))]))) [some (.d (netD names arrows)), some (.d (.lst acc)), some (.d (.int (k : Nat))), some (.d (.str (nth names k))), some (.d (.str m)), some (.d (.str b)), some (.d (.bl q))] = .ok (crn arrows (nth names k) m b) := by
                unfold crn
                rw [← hq]
                exact cAnd_ok rfl fun _ => cNot_ok (cB_ok (call3 rfl rfl rfl (tied_ok (nth names k) b)))
              exact app_if ct (fun _ => (n3_ok rfl rfl rfl).trans (guardR_pos (by simp))) rfl hl rfl)
          subst he'
          refine ⟨[some (.d (netD names arrows)), some (.d (.lst acc)), some (.d (.int (k : Nat))), some (.d (.str (nth names k))), some (.d (.str m)), o5, o6], _, rfl, (for_ok ?_).trans g1, _, _, _, rfl⟩
          have sl : mSlF dSlT (m2 dIx (mV 0) (mC (.int 0))) (some (m2 dAdd (mV 2) (mC (.int 1)))) none [some (.d (netD names arrows)), some (.d (.lst acc)), some (.d (.int (k : Nat))), some (.d (.str (nth names k))), some (.d (.str m)), o5, o6] = .ok (.tup ((names.map D.str).drop (k + 1))) := by
            rw [slf_ok (m2_ok (a := mV 0) (b := mC (.int 0)) rfl rfl (ix0 names arrows)) (m2_ok (a := mV 2) (b := mC (.int 1)) (x := .int (k : Nat)) (y := .int 1) rfl rfl rfl)]
            show guardR _ _ = _
            rw [guardR_pos (by rw [List.length_map]; omega), show ((k : Nat) : Int) + 1 = ((k + 1 : Nat) : Int) by omega, Int.toNat_natCast]
          rw [iOf_ok sl rfl, List.map_drop])
      subst he'
      exact ⟨[some (.d (netD names arrows)), some (.d (.lst acc)), some (.d (.int (k : Nat))), some (.d (.str (nth names k))), o4, o5, o6], _, rfl, (for_ok (iOf_ok (m2_ok rfl rfl (ix0 names arrows)) rfl)).trans g1, _, _, _, _, _, rfl⟩)
  subst he
  rw [seq_ok (e' := [some (.d (netD names arrows)), some (.d (.lst [])), none, none, none, none, none]) (set_ok (lst0 _))]
  have hit : iEnumq (m2 dIx (mV 0) (mC (.int 0))) [some (.d (netD names arrows)), some (.d (.lst [])), none, none, none, none, none] = .ok ((List.range names.length).map fun k => D.tup [.int (k : Nat), .str (nth names k)]) := by
    rw [← enum_range]
    unfold iEnumq
    rw [m2_ok (a := mV 0) (b := mC (.int 0)) rfl rfl (ix0 names arrows)]; rfl
  rw [seq_ok ((for_ok hit).trans f1)]
  rfl
end Mr
set_option linter.all false
set_option maxRecDepth 10000
namespace Mr
open PySem Mi
structure Nt (names : List Str) (arrows : List Ar) : Prop where
  nd : names.Nodup
  le : names.length ≤ 8
  al : arrows.length ≤ 64
  inn : ∀ p ∈ arrows, p.1 ∈ names ∧ p.2 ∈ names
  rk : Rk arrows
theorem flp_len (a : Ar) (arrows : List Ar) : (flp a arrows).length = arrows.length := by unfold flp; rw [List.length_map]
theorem pyEq_trip (p q : Tr3) : pyEq (tripD p) (tripD q) = decide (p = q) := by
  obtain ⟨a, b, c⟩ := p
  obtain ⟨a', b', c'⟩ := q
  unfold tripD
  rw [pyEq, pyEqs, pyEqs, pyEqs, pyEqs, pyEq_str, pyEq_str, pyEq_str]
  by_cases h : a = a' <;> by_cases k : b = b' <;> by_cases l : c = c' <;> simp [h, k, l]
theorem pyEqs_trips : ∀ xs ys : List Tr3, pyEqs (xs.map tripD) (ys.map tripD) = decide (xs = ys)
  | [], [] => rfl
  | [], y :: r => by simp [pyEqs]
  | x :: r, [] => by simp [pyEqs]
  | x :: r, y :: t => by
    rw [List.map_cons, List.map_cons, pyEqs, pyEq_trip, pyEqs_trips r t]
    by_cases h : x = y <;> by_cases k : r = t <;> simp [h, k]
theorem dep_trips : ∀ xs : List Tr3, depAll (xs.map tripD) ≤ 1
  | [] => by simp
  | x :: r => by
    have := dep_trips r
    rw [List.map_cons, depAll_cons]
    have h1 : (tripD x).dep = 1 := by simp [tripD]
    rw [h1]; omega
end Mr
set_option linter.all false
set_option maxRecDepth 10000
namespace Mr
open PySem Mi
def srt (names : List Str) (arrows : List Ar) : List Ar := names.flatMap fun t => (names.filter fun h => decide ((t, h) ∈ arrows)).map fun h => (t, h)
theorem mem_srt {names : List Str} {arrows : List Ar} {p : Ar} : p ∈ srt names arrows ↔ p ∈ arrows ∧ p.1 ∈ names ∧ p.2 ∈ names := by
  obtain ⟨a, b⟩ := p
  unfold srt
  simp only [List.mem_flatMap, List.mem_map, List.mem_filter, decide_eq_true_eq, Prod.mk.injEq]
  constructor
  · rintro ⟨t, ht, h, ⟨h1, h2⟩, rfl, rfl⟩
    exact ⟨h2, ht, h1⟩
  · rintro ⟨h1, h2, h3⟩
    exact ⟨a, h2, b, ⟨h3, h1⟩, rfl, rfl⟩
theorem srt_len {names : List Str} (hn : names.length ≤ 8) (arrows : List Ar) : (srt names arrows).length ≤ 64 := by
  unfold srt
  refine Nat.le_trans (flat_len (m := 8) fun t _ => ?_) (by omega)
  rw [List.length_map]
  exact Nat.le_trans (List.length_filter_le _ _) hn
theorem sorted_ok {names : List Str} {arrows : List Ar} (hn : names.length ≤ 8) : m_l_sorted [.d (nmD names), .d (prL arrows)] = .ok (.d (netD names (srt names arrows))) := by
  unfold m_l_sorted b_l_sorted
  rw [fnM2]
  have ecr : (srt names arrows).map pairD = names.flatMap fun t => names.flatMap fun h => if decide ((t, h) ∈ arrows) then [pairD (t, h)] else [] := by
    unfold srt
    rw [map_flatMap']
    refine flatMap_same fun t _ => ?_
    rw [List.map_map, filter_flat (fun h => decide ((t, h) ∈ arrows)) (fun h => pairD (t, h))]; rfl
  have clen : ((srt names arrows).map pairD).length ≤ 64 := by rw [List.length_map]; exact srt_len hn arrows
  rw [ecr] at clen
  obtain ⟨e', f1, o3, o4, he⟩ := for_flat (tg := .n 3) (body := (sFor (iOf (mV 0)) (.n 4)
  (sIf (cB (m2 dIn (mN dTup [(mV 3), (mV 4)]) (mV 1)))
  (sAppend 2 (mN dTup [(mV 3), (mV 4)]))
  sNext)))
    D.str (fun t => names.flatMap fun h => if decide ((t, h) ∈ arrows) then [pairD (t, h)] else [])
    (fun acc e => ∃ o3 o4 : Option W, e = [some (.d (nmD names)), some (.d (prL arrows)), some (.d (.lst acc)), o3, o4]) names [] [some (.d (nmD names)), some (.d (prL arrows)), some (.d (.lst [])), none, none] (by simp only [List.length_nil]; omega) ⟨none, none, rfl⟩
    (fun t ht acc e hl ⟨o3, o4, he⟩ => by
      subst he
      obtain ⟨e', g1, o4', he'⟩ := for_flat (tg := .n 4) (body := (sIf (cB (m2 dIn (mN dTup [(mV 3), (mV 4)]) (mV 1)))
  (sAppend 2 (mN dTup [(mV 3), (mV 4)]))
  sNext))
        D.str (fun h => if decide ((t, h) ∈ arrows) then [pairD (t, h)] else [])
        (fun acc e => ∃ o4 : Option W, e = [some (.d (nmD names)), some (.d (prL arrows)), some (.d (.lst acc)), some (.d (.str t)), o4]) names acc [some (.d (nmD names)), some (.d (prL arrows)), some (.d (.lst acc)), some (.d (.str t)), o4] hl ⟨_, rfl⟩
        (fun h hh acc e hl ⟨o4, he⟩ => by
          subst he
          exact ⟨[some (.d (nmD names)), some (.d (prL arrows)), some (.d (.lst acc)), some (.d (.str t)), some (.d (.str h))], putL [some (.d (nmD names)), some (.d (prL arrows)), some (.d (.lst acc)), some (.d (.str t)), some (.d (.str h))] 2 (acc ++ if decide ((t, h) ∈ arrows) then [pairD (t, h)] else []), rfl, app_if (cB_ok (m2_ok (tup2 rfl rfl) rfl (dInL_pair arrows (t, h)))) (fun _ => tup2 rfl rfl) rfl hl rfl, _, rfl⟩)
      subst he'
      exact ⟨[some (.d (nmD names)), some (.d (prL arrows)), some (.d (.lst acc)), some (.d (.str t)), o4], _, rfl, (for_ok (iOf_ok (x := nmD names) rfl rfl)).trans g1, _, _, rfl⟩)
  subst he
  rw [seq_ok (e' := [some (.d (nmD names)), some (.d (prL arrows)), some (.d (.lst [])), none, none]) (set_ok (lst0 _))]
  rw [seq_ok ((for_ok (iOf_ok (x := nmD names) rfl rfl)).trans f1)]
  rw [ret_ok (wD_ok (tup2 ((n1_ok (x := nmD names) rfl).trans rfl) ((n1_ok rfl).trans rfl)))]
  rw [List.nil_append, ← ecr]; rfl
theorem Nt.of_srt {names : List Str} {arrows : List Ar} (nd : names.Nodup) (hn : names.length ≤ 8) (R : Rk arrows) : Nt names (srt names arrows) :=
  ⟨nd, hn, srt_len hn arrows, fun p hp => (mem_srt.mp hp).2, let ⟨r, h⟩ := R; ⟨r, fun p hp => h p (mem_srt.mp hp).1⟩⟩
theorem Rk.sub {A B : List Ar} (R : Rk A) (h : ∀ p ∈ B, p ∈ A) : Rk B := let ⟨r, k⟩ := R; ⟨r, fun p hp => k p (h p hp)⟩
def frees (names : List Str) (arrows : List Ar) : List Ar := names.flatMap fun a => (names.filter fun b => !decide (a = b) && (!decide ((a, b) ∈ arrows) && !decide ((b, a) ∈ arrows))).map fun b => (a, b)
theorem pr_get {xs : List Ar} {i : Int} (h0 : 0 ≤ i) (h1 : i < xs.length) : ∃ p, p ∈ xs ∧ dIx (prL xs) (.int i) = .ok (pairD p) := by
  have hk : i.toNat < xs.length := by omega
  refine ⟨xs[i.toNat], List.getElem_mem hk, ?_⟩
  show ofO (atI (xs.map pairD) i) = _
  unfold atI ixN
  rw [if_pos h0, List.length_map, if_pos h1]
  show ofO ((xs.map pairD)[i.toNat]?) = _
  rw [List.getElem?_map, List.getElem?_eq_getElem hk]; rfl
theorem cut_mem {xs : List Ar} {lo hi : Option Int} : ∃ ys : List Ar, cutL (xs.map pairD) lo hi = ys.map pairD ∧ (∀ p ∈ ys, p ∈ xs) ∧ ys.length ≤ xs.length := by
  refine ⟨cutL xs lo hi, ?_, fun p hp => ?_, ?_⟩
  · unfold cutL; simp only [List.length_map, List.map_drop, List.map_take]
  · unfold cutL at hp; exact List.mem_of_mem_drop (List.mem_of_mem_take hp)
  · unfold cutL; rw [List.length_take, List.length_drop]; omega
theorem spoiled_ok {names : List Str} {arrows : List Ar} (N : Nt names arrows) (c : Int) : ∃ B : List Ar, m_l_spoiled [.d (nmD names), .d (prL arrows), .d (.int c)] = .ok (.d (prL B)) ∧ Rk B ∧ (∀ p ∈ B, p.1 ∈ names ∧ p.2 ∈ names) := by
  have hal := N.al
  have hle := N.le
  unfold m_l_spoiled b_l_spoiled
  rw [fnM3]
  have hlen : mN bLen [(mV 1)] [some (.d (nmD names)), some (.d (prL arrows)), some (.d (.int c)), none, none, none, none, none] = .ok (.int (arrows.length : Int)) := (n1_ok (x := prL arrows) rfl).trans (by unfold prL; rw [len_l, List.length_map])
  have ct : cOr (cB (m2 dEq (m2 dMod (mV 2) (mC (.int 3))) (mC (.int 0)))) (cB (m2 dEq (mN bLen [(mV 1)]) (mC (.int 0)))) [some (.d (nmD names)), some (.d (prL arrows)), some (.d (.int c)), none, none, none, none, none] = .ok (decide (c % 3 = 0) || decide ((arrows.length : Int) = 0)) :=
    cOr_ok (cB_ok (m2_ok (m2_ok rfl rfl (guardR_pos (by decide))) rfl (dEq_int _ _))) fun _ => cB_ok (m2_ok hlen rfl (dEq_int _ _))
  by_cases hc : (decide (c % 3 = 0) || decide ((arrows.length : Int) = 0)) = true
  · rw [hc] at ct
    have ecr : (frees names arrows).map pairD = names.flatMap fun a => names.flatMap fun b => if (!decide (a = b) && (!decide ((a, b) ∈ arrows) && !decide ((b, a) ∈ arrows))) then [pairD (a, b)] else [] := by
      unfold frees
      rw [map_flatMap']
      refine flatMap_same fun t _ => ?_
      rw [List.map_map, filter_flat (fun b => !decide (t = b) && (!decide ((t, b) ∈ arrows) && !decide ((b, t) ∈ arrows))) (fun b => pairD (t, b))]; rfl
    have flen : (frees names arrows).length ≤ 64 := by
      unfold frees
      refine Nat.le_trans (flat_len (m := 8) fun t _ => ?_) (by omega)
      rw [List.length_map]
      exact Nat.le_trans (List.length_filter_le _ _) hle
    have clen : ((frees names arrows).map pairD).length ≤ 64 := by rw [List.length_map]; exact flen
    have fin : ∀ p ∈ frees names arrows, p.1 ∈ names ∧ p.2 ∈ names := fun p hp => by
      unfold frees at hp
      obtain ⟨a, ha, hp⟩ := List.mem_flatMap.mp hp
      obtain ⟨b, hb, rfl⟩ := List.mem_map.mp hp
      exact ⟨ha, (List.mem_filter.mp hb).1⟩
    rw [ecr] at clen
    obtain ⟨e', f1, o4, o5, he⟩ := for_flat (tg := .n 4) (body := (sFor (iOf (mV 0)) (.n 5)
  (sIf (cAnd (cB (m2 dNe (mV 4) (mV 5))) (cAnd (cB (m2 dNotIn (mN dTup [(mV 4), (mV 5)]) (mV 1))) (cB (m2 dNotIn (mN dTup [(mV 5), (mV 4)]) (mV 1)))))
  (sAppend 3 (mN dTup [(mV 4), (mV 5)]))
  sNext)))
      D.str (fun a => names.flatMap fun b => if (!decide (a = b) && (!decide ((a, b) ∈ arrows) && !decide ((b, a) ∈ arrows))) then [pairD (a, b)] else [])
      (fun acc e => ∃ o4 o5 : Option W, e = [some (.d (nmD names)), some (.d (prL arrows)), some (.d (.int c)), some (.d (.lst acc)), o4, o5, none, none]) names [] [some (.d (nmD names)), some (.d (prL arrows)), some (.d (.int c)), some (.d (.lst [])), none, none, none, none] (by simp only [List.length_nil]; omega) ⟨none, none, rfl⟩
      (fun a ha acc e hl ⟨o4, o5, he⟩ => by
        subst he
        obtain ⟨e', g1, o5', he'⟩ := for_flat (tg := .n 5) (body := (sIf (cAnd (cB (m2 dNe (mV 4) (mV 5))) (cAnd (cB (m2 dNotIn (mN dTup [(mV 4), (mV 5)]) (mV 1))) (cB (m2 dNotIn (mN dTup [(mV 5), (mV 4)]) (mV 1)))))
  (sAppend 3 (mN dTup [(mV 4), (mV 5)]))
  sNext))
          D.str (fun b => if (!decide (a = b) && (!decide ((a, b) ∈ arrows) && !decide ((b, a) ∈ arrows))) then [pairD (a, b)] else [])
          (fun acc e => ∃ o5 : Option W, e = [some (.d (nmD names)), some (.d (prL arrows)), some (.d (.int c)), some (.d (.lst acc)), some (.d (.str a)), o5, none, none]) names acc [some (.d (nmD names)), some (.d (prL arrows)), some (.d (.int c)), some (.d (.lst acc)), some (.d (.str a)), o5, none, none] hl ⟨_, rfl⟩
          (fun b hb acc e hl ⟨o5, he⟩ => by
            subst he
            exact ⟨[some (.d (nmD names)), some (.d (prL arrows)), some (.d (.int c)), some (.d (.lst acc)), some (.d (.str a)), some (.d (.str b)), none, none], putL [some (.d (nmD names)), some (.d (prL arrows)), some (.d (.int c)), some (.d (.lst acc)), some (.d (.str a)), some (.d (.str b)), none, none] 3 (acc ++ if (!decide (a = b) && (!decide ((a, b) ∈ arrows) && !decide ((b, a) ∈ arrows))) then [pairD (a, b)] else []), rfl,
              app_if (cAnd_ok (cB_ok (m2_ok rfl rfl (dNe_str a b))) fun _ => cAnd_ok (cB_ok (m2_ok (tup2 rfl rfl) rfl (dNotInL_pair arrows (a, b)))) fun _ => cB_ok (m2_ok (tup2 rfl rfl) rfl (dNotInL_pair arrows (b, a)))) (fun _ => tup2 rfl rfl) rfl hl rfl, _, rfl⟩)
        subst he'
        exact ⟨[some (.d (nmD names)), some (.d (prL arrows)), some (.d (.int c)), some (.d (.lst acc)), some (.d (.str a)), o5, none, none], _, rfl, (for_ok (iOf_ok (x := nmD names) rfl rfl)).trans g1, _, _, rfl⟩)
    subst he
    rw [List.nil_append, ← ecr] at f1
    obtain ⟨good, hgood⟩ : ∃ good, good = (frees names arrows).filter fun p => !rnd names (arrows ++ [p]) := ⟨_, rfl⟩
    have glen : good.length ≤ 64 := by rw [hgood]; exact Nat.le_trans (List.length_filter_le _ _) flen
    have hcomp : compD (.n 2) (cNot (cB (mCall m_l_comes_round [(wD (mV 0)), (wD (m2 dAdd (mV 1) (mN dLst [(mV 2)])))]))) (mV 2) [some (.d (nmD names)), some (.d (prL arrows)), none] ((frees names arrows).map pairD) = .ok (good.map pairD) := by
      rw [hgood]
      exact comp_map pairD pairD (fun p => !rnd names (arrows ++ [p])) (frees names arrows) fun p _ => ⟨[some (.d (nmD names)), some (.d (prL arrows)), some (.d (pairD p))], rfl, by
        have ha : m2 dAdd (mV 1) (mN dLst [(mV 2)]) [some (.d (nmD names)), some (.d (prL arrows)), some (.d (pairD p))] = .ok (prL (arrows ++ [p])) := by
          refine (m2_ok rfl (lst1 rfl) (guardR_pos (by rw [List.length_map]; simp; omega))).trans ?_
          unfold prL; rw [List.map_append]; rfl
        exact cNot_ok (cB_ok (call2 rfl (wD_ok ha) (comes_ok hle (by rw [List.length_append]; simp; omega)))), fun _ => rfl⟩
    rw [seq_rt (s := sIf _ _ _) (w := .d (prL (if 0 < good.length then arrows ++ [good.getD (c / 3 % (good.length : Int)).toNat (Str.empty, Str.empty)] else arrows.drop 1)))]
    · refine ⟨_, rfl, ?_, ?_⟩
      · by_cases h : 0 < good.length
        · rw [if_pos h]
          have z0 := Int.emod_nonneg (c / 3) (b := (good.length : Int)) (by omega)
          have z1 := Int.emod_lt_of_pos (c / 3) (b := (good.length : Int)) (by omega)
          have hk : (c / 3 % (good.length : Int)).toNat < good.length := by omega
          rw [List.getD_eq_getElem?_getD, List.getElem?_eq_getElem hk, Option.getD_some]
          have hm : good[(c / 3 % (good.length : Int)).toNat] ∈ (frees names arrows).filter fun p => !rnd names (arrows ++ [p]) := by rw [← hgood]; exact List.getElem_mem hk
          obtain ⟨h1, h2⟩ := List.mem_filter.mp hm
          exact rk_of (names := names) (fun p hp => by
            rcases List.mem_append.mp hp with z | z
            · exact N.inn p z
            · rw [List.mem_singleton.mp z]; exact fin _ h1) (by simpa using h2)
        · rw [if_neg h]; exact N.rk.sub fun p hp => List.mem_of_mem_drop hp
      · intro p hp
        by_cases h : 0 < good.length
        · rw [if_pos h] at hp
          rcases List.mem_append.mp hp with z | z
          · exact N.inn p z
          · have z0 := Int.emod_nonneg (c / 3) (b := (good.length : Int)) (by omega)
            have z1 := Int.emod_lt_of_pos (c / 3) (b := (good.length : Int)) (by omega)
            have hk : (c / 3 % (good.length : Int)).toNat < good.length := by omega
            rw [List.getD_eq_getElem?_getD, List.getElem?_eq_getElem hk, Option.getD_some] at z
            have hm : good[(c / 3 % (good.length : Int)).toNat] ∈ (frees names arrows).filter fun p => !rnd names (arrows ++ [p]) := by rw [← hgood]; exact List.getElem_mem hk
            rw [List.mem_singleton.mp z]
            exact fin _ (List.mem_filter.mp hm).1
        · rw [if_neg h] at hp; exact N.inn p (List.mem_of_mem_drop hp)
    · rw [show ([some (W.d (nmD names)), some (W.d (prL arrows)), some (W.d (.int c))] ++ List.replicate (8 - 3) none) = [some (W.d (nmD names)), some (W.d (prL arrows)), some (W.d (.int c)), none, none, none, none, none] from rfl]
      rw [if_tt ct]
      rw [seq_ok (e' := [some (.d (nmD names)), some (.d (prL arrows)), some (.d (.int c)), some (.d (.lst [])), none, none, none, none]) (set_ok (lst0 _))]
      rw [seq_ok ((for_ok (iOf_ok (x := nmD names) rfl rfl)).trans f1)]
      rw [seq_ok (e' := [some (.d (nmD names)), some (.d (prL arrows)), some (.d (.int c)), some (.d (prL good)), o4, o5, none, none]) (set_ok (comp_ok (iOf_ok (x := .lst ((frees names arrows).map pairD)) rfl rfl) (by rw [List.length_map]; omega) hcomp))]
      have hgl : mN bLen [(mV 3)] [some (.d (nmD names)), some (.d (prL arrows)), some (.d (.int c)), some (.d (prL good)), o4, o5, none, none] = .ok (.int (good.length : Int)) := (n1_ok (x := prL good) rfl).trans (by unfold prL; rw [len_l, List.length_map])
      have cg : cB (m2 dGt (mN bLen [(mV 3)]) (mC (.int 0))) [some (.d (nmD names)), some (.d (prL arrows)), some (.d (.int c)), some (.d (prL good)), o4, o5, none, none] = .ok (decide ((0 : Int) < (good.length : Int))) := cB_ok (m2_ok hgl rfl rfl)
      by_cases h : 0 < good.length
      · rw [decide_eq_true (by omega)] at cg
        have z0 := Int.emod_nonneg (c / 3) (b := (good.length : Int)) (by omega)
        have z1 := Int.emod_lt_of_pos (c / 3) (b := (good.length : Int)) (by omega)
        have hk : (c / 3 % (good.length : Int)).toNat < good.length := by omega
        have hix : dIx (prL good) (.int (c / 3 % (good.length : Int))) = .ok (pairD (good.getD (c / 3 % (good.length : Int)).toNat (Str.empty, Str.empty))) := by
          show ofO (atI (good.map pairD) _) = _
          unfold atI ixN
          rw [if_pos z0, List.length_map, if_pos z1]
          show ofO ((good.map pairD)[(c / 3 % (good.length : Int)).toNat]?) = _
          rw [List.getElem?_map, List.getElem?_eq_getElem hk, List.getD_eq_getElem?_getD, List.getElem?_eq_getElem hk]; rfl
        rw [seq_rt (w := .d (prL (arrows ++ [good.getD (c / 3 % (good.length : Int)).toNat (Str.empty, Str.empty)]))), if_pos h]
        refine (if_tt cg).trans (ret_ok (wD_ok ?_))
        refine (m2_ok (x := prL arrows) rfl (lst1 (m2_ok (x := prL good) rfl (m2_ok (m2_ok rfl rfl (guardR_pos (okDiv_small (by decide) (by decide)))) hgl (guardR_pos (by omega))) hix)) (guardR_pos (by rw [List.length_map]; simp; omega))).trans ?_
        unfold prL; rw [List.map_append]; rfl
      · rw [decide_eq_false (by omega)] at cg
        rw [seq_ok ((if_ff cg).trans rfl), if_neg h]
        refine ret_ok (wD_ok ?_)
        rw [slf_ok (x := prL arrows) (i := 1) rfl rfl]
        show Rs.ok (D.lst (cutL (arrows.map pairD) (some 1) none)) = _
        rw [show (1 : Int) = ((1 : Nat) : Int) from rfl, cut_tail, ← List.map_drop]; rfl
  · rw [Bool.not_eq_true] at hc
    rw [hc] at ct
    rw [Bool.or_eq_false_iff] at hc
    have hc2 : ¬ (arrows.length : Int) = 0 := by simpa using hc.2
    have z0 := Int.emod_nonneg (c / 3) (b := (arrows.length : Int)) (by omega)
    have z1 := Int.emod_lt_of_pos (c / 3) (b := (arrows.length : Int)) (by omega)
    obtain ⟨at_, hat⟩ : ∃ a : Int, a = c / 3 % (arrows.length : Int) := ⟨_, rfl⟩
    rw [← hat] at z0 z1
    obtain ⟨p, hp, hix⟩ := pr_get (xs := arrows) z0 z1
    have start : ∀ t : S, ((sSeq t sNext) [] = (sSeq t sNext) []) := fun _ => rfl
    rw [show ([some (W.d (nmD names)), some (W.d (prL arrows)), some (W.d (.int c))] ++ List.replicate (8 - 3) none) = [some (W.d (nmD names)), some (W.d (prL arrows)), some (W.d (.int c)), none, none, none, none, none] from rfl]
    rw [seq_ok ((if_ff ct).trans rfl)]
    rw [seq_ok (e' := [some (W.d (nmD names)), some (W.d (prL arrows)), some (W.d (.int c)), none, none, none, some (.d (.int at_)), none]) (set_ok ((m2_ok (m2_ok rfl rfl (guardR_pos (okDiv_small (by decide) (by decide)))) hlen (guardR_pos (by omega))).trans (by rw [hat])))]
    rw [seq_ok (e' := [some (W.d (nmD names)), some (W.d (prL arrows)), some (W.d (.int c)), none, none, none, some (.d (.int at_)), some (.d (prL (flp p arrows)))]) (set_ok (call2 (x := .d (prL arrows)) rfl (wD_ok (m2_ok (x := prL arrows) rfl rfl hix)) (flipped_ok (by omega))))]
    have c2 : cOr (cB (m2 dEq (m2 dMod (mV 2) (mC (.int 3))) (mC (.int 1)))) (cB (mCall m_l_comes_round [(wD (mV 0)), (wD (mV 7))])) [some (W.d (nmD names)), some (W.d (prL arrows)), some (W.d (.int c)), none, none, none, some (.d (.int at_)), some (.d (prL (flp p arrows)))] = .ok (decide (c % 3 = 1) || rnd names (flp p arrows)) :=
      cOr_ok (cB_ok (m2_ok (m2_ok rfl rfl (guardR_pos (by decide))) rfl (dEq_int _ _))) fun _ => cB_ok (call2 rfl rfl (comes_ok hle (by rw [flp_len]; omega)))
    cases hb : (decide (c % 3 = 1) || rnd names (flp p arrows)) with
    | true =>
      rw [hb] at c2
      obtain ⟨ys, y1, y2, y3⟩ := cut_mem (xs := arrows) (lo := none) (hi := some at_)
      obtain ⟨zs, w1, w2, w3⟩ := cut_mem (xs := arrows) (lo := some (at_ + 1)) (hi := none)
      rw [seq_rt (w := .d (prL (ys ++ zs)))]
      · refine ⟨_, rfl, N.rk.sub fun q hq => ?_, fun q hq => ?_⟩
        · rcases List.mem_append.mp hq with z | z
          · exact y2 q z
          · exact w2 q z
        · rcases List.mem_append.mp hq with z | z
          · exact N.inn q (y2 q z)
          · exact N.inn q (w2 q z)
      · refine (if_tt c2).trans (ret_ok (wD_ok ?_))
        refine (m2_ok ((slu_ok (x := prL arrows) (i := at_) rfl rfl).trans rfl) ((slf_ok (x := prL arrows) (i := at_ + 1) rfl (m2_ok rfl rfl rfl)).trans rfl) rfl).trans ?_
        show dAdd (.lst (cutL (arrows.map pairD) none (some at_))) (.lst (cutL (arrows.map pairD) (some (at_ + 1)) none)) = _
        rw [y1, w1]
        show guardR _ _ = _
        rw [guardR_pos (by rw [List.length_map, List.length_map]; omega)]
        unfold prL; rw [List.map_append]
    | false =>
      rw [hb] at c2
      rw [seq_ok ((if_ff c2).trans rfl)]
      rw [Bool.or_eq_false_iff] at hb
      have hin' : ∀ q ∈ flp p arrows, q.1 ∈ names ∧ q.2 ∈ names := fun q hq => by
        rcases (mem_flp hp).mp hq with z | z
        · exact N.inn q z.1
        · rw [z]; exact ⟨(N.inn _ hp).2, (N.inn _ hp).1⟩
      exact ⟨flp p arrows, rfl, rk_of hin' hb.2, hin'⟩
end Mr
set_option linter.all false
set_option maxRecDepth 10000
namespace Mr
open PySem Mi
theorem zip_self : ∀ ds : List D, dZip2 ds ds = ds.map fun d => D.tup [d, d]
  | [] => rfl
  | d :: r => by rw [dZip2, zip_self r]; rfl
def sq (k : Bool) (ds : List D) : D := if k then .lst ds else .tup ds
theorem alike_sq {F : Fn} (k : Bool) (ds : List D) (h : ∀ d ∈ ds, F [.d d, .d d] = .ok (.d (.bl true))) : fnM 2 4 (b_l_alike F) [.d (sq k ds), .d (sq k ds)] = .ok (.d (.bl true)) := by
  unfold b_l_alike
  rw [fnM2]
  have c0 : cOr (cB (m1 (bIs ["str"]) (mV 1))) (cB (m1 (bIs ["int"]) (mV 1))) [some (.d (sq k ds)), some (.d (sq k ds)), none, none] = .ok false := by cases k <;> rfl
  have c1 : cOr (cB (m2 dNe (m1 (bIs ["list"]) (mV 0)) (m1 (bIs ["list"]) (mV 1)))) (cNot (cB (m1 (bIs ["list", "tuple"]) (mV 0)))) [some (.d (sq k ds)), some (.d (sq k ds)), none, none] = .ok false := by cases k <;> rfl
  have c2 : cB (m2 dNe (mN bLen [(mV 0)]) (mN bLen [(mV 1)])) [some (.d (sq k ds)), some (.d (sq k ds)), none, none] = .ok false := by
    cases k <;> exact cB_ok ((m2_ok rfl rfl rfl).trans ((dNe_int _ _).trans (by rw [decide_eq_true rfl]; rfl)))
  obtain ⟨e', f1, o2, o3, he⟩ := for_inv (tg := .t [2, 3]) (body := (sIf (cNot (cB (mCall F [(wD (mV 2)), (wD (mV 3))]))) (sRet (wD (mC (.bl false)))) sNext))
    (fun i e => ∃ o2 o3 : Option W, e = [some (.d (sq k ds)), some (.d (sq k ds)), o2, o3]) (ds.map fun d => D.tup [d, d]) 0 (fun i d e hi ⟨o2, o3, he⟩ => by
      subst he
      rw [List.getElem?_map] at hi
      obtain ⟨x, hx, rfl⟩ := Option.map_eq_some_iff.mp hi
      have ct : cNot (cB (mCall F [(wD (mV 2)), (wD (mV 3))])) [some (.d (sq k ds)), some (.d (sq k ds)), some (.d x), some (.d x)] = .ok false := not_ff (call2 rfl rfl (h x (List.mem_of_getElem? hx)))
      exact ⟨[some (.d (sq k ds)), some (.d (sq k ds)), some (.d x), some (.d x)], _, rfl, (if_ff ct).trans rfl, _, _, rfl⟩) [some (.d (sq k ds)), some (.d (sq k ds)), none, none] ⟨none, none, rfl⟩
  subst he
  have hit : iZip2q (mV 0) (mV 1) [some (.d (sq k ds)), some (.d (sq k ds)), none, none] = .ok (ds.map fun d => D.tup [d, d]) := by rw [← zip_self]; cases k <;> rfl
  exact (congrArg (fun r => Rs.bind r fnOut) ((seq_ok ((if_ff c0).trans rfl)).trans ((seq_ok ((if_ff c1).trans rfl)).trans ((seq_ok ((if_ff c2).trans rfl)).trans ((seq_ok ((for_ok hit).trans f1)).trans (ret_ok (wD_ok rfl))))))).trans rfl
theorem alike_pair (n : Nat) (p : Ar) : m_l_alike (n + 2) [.d (pairD p), .d (pairD p)] = .ok (.d (.bl true)) :=
  alike_sq (F := m_l_alike (n + 1)) false [.str p.1, .str p.2] fun d hd => by
    rcases List.mem_cons.mp hd with rfl | hd
    · exact alike_str n _
    · rw [List.mem_singleton.mp hd]; exact alike_str n _
theorem alike_pairs (n : Nat) (xs : List Ar) : m_l_alike (n + 3) [.d (prL xs), .d (prL xs)] = .ok (.d (.bl true)) :=
  alike_sq (F := m_l_alike (n + 2)) true (xs.map pairD) fun d hd => by
    obtain ⟨p, _, rfl⟩ := List.mem_map.mp hd
    exact alike_pair n p
theorem alike_trip (n : Nat) (p : Tr3) : m_l_alike (n + 2) [.d (tripD p), .d (tripD p)] = .ok (.d (.bl true)) :=
  alike_sq (F := m_l_alike (n + 1)) false [.str p.1, .str p.2.1, .str p.2.2] fun d hd => by
    rcases List.mem_cons.mp hd with rfl | hd
    · exact alike_str n _
    · rcases List.mem_cons.mp hd with rfl | hd
      · exact alike_str n _
      · rw [List.mem_singleton.mp hd]; exact alike_str n _
theorem alike_trips (n : Nat) (xs : List Tr3) : m_l_alike (n + 3) [.d (.lst (xs.map tripD)), .d (.lst (xs.map tripD))] = .ok (.d (.bl true)) :=
  alike_sq (F := m_l_alike (n + 2)) true (xs.map tripD) fun d hd => by
    obtain ⟨p, _, rfl⟩ := List.mem_map.mp hd
    exact alike_trip n p
theorem pyEqs_prs : ∀ xs ys : List Ar, pyEqs (xs.map pairD) (ys.map pairD) = decide (xs = ys)
  | [], [] => rfl
  | [], y :: r => by simp [pyEqs]
  | x :: r, [] => by simp [pyEqs]
  | x :: r, y :: t => by
    rw [List.map_cons, List.map_cons, pyEqs, pyEq_pair, pyEqs_prs r t]
    by_cases h : x = y <;> by_cases k : r = t <;> simp [h, k]
theorem IxNet.nt {names : List Str} {A : List Ix} {r : Nat → Int} (N : IxNet names A r) : Nt names (A.map (arrOf names)) :=
  ⟨N.nd, N.le, N.net.al, fun p hp => by
    obtain ⟨q, hq, rfl⟩ := List.mem_map.mp hp
    exact ⟨nth_mem (N.all q hq).1, nth_mem (N.all q hq).2.1⟩, N.net.rk⟩
end Mr
set_option linter.all false
set_option maxRecDepth 10000
namespace Mr
open PySem Mi
theorem lex_asym : ∀ a b : List Int, lexB a b = true → lexB b a = true → False
  | [], [], h, _ => by cases h
  | [], _ :: _, _, h => by cases h
  | _ :: _, [], h, _ => by cases h
  | a :: r, b :: t, h, k => by
    rw [lexB] at h k
    by_cases e : a = b
    · subst e
      rw [if_pos (beq_self_eq_true a)] at h k
      exact lex_asym r t h k
    · rw [if_neg (by simpa using e)] at h
      rw [if_neg (by simpa using Ne.symm e)] at k
      simp at h k; omega
theorem lex_lt {a b : Int} {r t : List Int} (h : a < b) : lexB (a :: r) (b :: t) = true := by
  rw [lexB, if_neg (by simp; omega)]
  simpa using h
theorem lex_eq1 {a : Int} {r t : List Int} : lexB (a :: r) (a :: t) = lexB r t := by
  rw [lexB, if_pos (beq_self_eq_true a)]
section
variable {α : Type} (key : α → List Int)
theorem one_order : ∀ {a b : List α}, (∀ x, x ∈ a ↔ x ∈ b) → a.Pairwise (fun x y => lexB (key x) (key y) = true) → b.Pairwise (fun x y => lexB (key x) (key y) = true) → a = b
  | [], [], _, _, _ => rfl
  | [], y :: t, h, _, _ => absurd ((h y).mpr List.mem_cons_self) (by simp)
  | x :: r, [], h, _, _ => absurd ((h x).mp List.mem_cons_self) (by simp)
  | x :: r, y :: t, h, ha, hb => by
    have ha' := List.pairwise_cons.mp ha
    have hb' := List.pairwise_cons.mp hb
    have e : x = y := by
      rcases List.mem_cons.mp ((h x).mp List.mem_cons_self) with z | z
      · exact z
      · rcases List.mem_cons.mp ((h y).mpr List.mem_cons_self) with z2 | z2
        · exact z2.symm
        · exact (lex_asym _ _ (hb'.1 x z) (ha'.1 y z2)).elim
    subst e
    have nr : x ∉ r := fun z => lex_asym _ _ (ha'.1 x z) (ha'.1 x z)
    have nt : x ∉ t := fun z => lex_asym _ _ (hb'.1 x z) (hb'.1 x z)
    rw [one_order (a := r) (b := t) (fun z => ⟨fun hz => ?_, fun hz => ?_⟩) ha'.2 hb'.2]
    · rcases List.mem_cons.mp ((h z).mp (List.mem_cons_of_mem _ hz)) with q | q
      · exact absurd (q ▸ hz) nr
      · exact q
    · rcases List.mem_cons.mp ((h z).mpr (List.mem_cons_of_mem _ hz)) with q | q
      · exact absurd (q ▸ hz) nt
      · exact q
theorem ordK_spec {kz : List (List Int)} (nd : kz.Nodup) : (ordK kz kz.length).Perm (List.range kz.length) ∧ (ordK kz kz.length).Pairwise (fun i j => lexB (kz.getD i []) (kz.getD j []) = true) := by
  have O := So.ltK_ord nd
  have e : ordK kz kz.length = sortI (So.ltK kz) (List.range kz.length) := by
    unfold ordK So.ltK
    congr 1
    funext i j
    exact (So.lex_eq _ _).symm
  rw [e]
  refine ⟨So.sort_perm _ _, (So.sort_sorted O (fun x hx => by simpa using hx) List.nodup_range).imp fun {i j} h => ?_⟩
  rw [← So.lex_eq]; exact h
theorem sortBy_eq [Inhabited α] (f : α → D) {xs ys : List α} (nd : (xs.map key).Nodup) (hm : ∀ a, a ∈ xs ↔ a ∈ ys) (hs : ys.Pairwise fun a b => lexB (key a) (key b) = true) : sortBy (xs.map key) (xs.map f) = ys.map f := by
  obtain ⟨h1, h2⟩ := ordK_spec nd
  rw [List.length_map] at h1 h2
  have lt : ∀ i ∈ ordK (xs.map key) xs.length, i < xs.length := fun i hi => by simpa using h1.mem_iff.mp hi
  have gd : ∀ i, i < xs.length → ∀ (β : Type) (g : α → β) (d : β), (xs.map g).getD i d = g (xs.getD i default) := fun i hi β g d => by simp [hi]
  have e : sortBy (xs.map key) (xs.map f) = ((ordK (xs.map key) xs.length).map fun i => xs.getD i default).map f := by
    unfold sortBy
    rw [List.length_map, List.map_map]
    exact List.map_congr_left fun i hi => gd i (lt i hi) _ f _
  have e2 : ((ordK (xs.map key) xs.length).map fun i => xs.getD i default) = ys := by
   refine one_order key (fun a => ?_) ?_ hs
   · rw [← hm a, List.mem_map]
     constructor
     · rintro ⟨i, hi, rfl⟩
       have := lt i hi
       rw [List.getD_eq_getElem?_getD, List.getElem?_eq_getElem this]
       exact List.getElem_mem this
     · intro ha
       obtain ⟨i, hi, rfl⟩ := List.getElem_of_mem ha
       exact ⟨i, h1.mem_iff.mpr (List.mem_range.mpr hi), by simp [hi]⟩
   · rw [List.pairwise_map]
     refine h2.imp_of_mem fun {i j} hi hj h => ?_
     rw [gd i (lt i hi) _ key, gd j (lt j hj) _ key] at h
     exact h
  rw [e, e2]
end
theorem asIs_map : ∀ l : List Int, asIs (l.map D.int) = some l
  | [] => rfl
  | i :: r => by rw [List.map_cons, asIs, asIs_map r]; rfl
theorem keys_ok {α : Type} {ρ : List Nat} {kf : E} {e : Mi.Env} (f : α → D) (key : α → List Int) : ∀ {xs : List α}, (∀ x ∈ xs, kf (lamE ρ e (f x)) = .ok (.lst ((key x).map D.int))) → keysD ρ kf e (xs.map f) = .ok (xs.map key)
  | [], _ => rfl
  | x :: r, h => by
    rw [List.map_cons, keysD, h x List.mem_cons_self, bind_ok, asKey, asIs_map, ofO_some, bind_ok, keys_ok f key fun y hy => h y (List.mem_cons_of_mem _ hy)]
    rfl
def ky (names row : List Str) : List Int := row.map fun x => ((names.idxOf x : Nat) : Int)
theorem asQs_nm (names : List Str) : asQs (nmD names) = some names := asSs_map names
theorem rowsX_ok {α : Type} [Inhabited α] {names : List Str} {nx : D} (hq : asQs nx = some names) (hn : names.length ≤ 1000) (row : α → List Str) {xs ys : List α} (hr : ∀ x ∈ xs, (row x).length ≤ 1000 ∧ ∀ y ∈ row x, y ∈ names) (h64 : xs.length < 64) (nd : (xs.map fun x => ky names (row x)).Nodup)
    (hm : ∀ a, a ∈ xs ↔ a ∈ ys) (hs : ys.Pairwise fun a b => lexB (ky names (row a)) (ky names (row b)) = true) :
    m_sorted_rows [.d nx, .d (.lst (xs.map fun x => .tup ((row x).map D.str)))] = .ok (.d (.lst (ys.map fun x => .tup ((row x).map D.str)))) := by
  unfold m_sorted_rows b_sorted_rows
  rw [fnN2]
  rw [show ([some (W.d nx), some (W.d (.lst (xs.map fun x => .tup ((row x).map D.str))))] ++ List.replicate (2 - 2) none) = [some (W.d nx), some (W.d (.lst (xs.map fun x => .tup ((row x).map D.str))))] from rfl]
  have hk : keysD [0] (mComp [some 1, none] (iOf (mV 0)) (.n 1) cYes (m2 dIdx (mV 0) (mV 1))) [some (W.d nx), some (W.d (.lst (xs.map fun x => .tup ((row x).map D.str))))] (xs.map fun x => .tup ((row x).map D.str)) = .ok (xs.map fun x => ky names (row x)) :=
    keys_ok (fun x => .tup ((row x).map D.str)) (fun x => ky names (row x)) fun x hx => by
      have hc : compD (.n 1) cYes (m2 dIdx (mV 0) (mV 1)) [some (W.d nx), none] ((row x).map D.str) = .ok (((row x).filter fun _ => true).map fun y => D.int ((names.idxOf y : Nat) : Int)) :=
        comp_map D.str (fun y => D.int ((names.idxOf y : Nat) : Int)) (fun _ => true) (row x) fun y hy => ⟨[some (W.d nx), some (W.d (.str y))], rfl, rfl, fun _ => m2_ok (x := nx) (y := .str y) rfl rfl (by
          show ((ofO (asQs nx)).bind fun ys => guardR (y ∈ ys ∧ ys.length ≤ 1000) (Rs.ok (D.int ((ys.idxOf y : Nat) : Int)))) = _
          rw [hq, ofO_some, bind_ok]
          exact guardR_pos ⟨(hr x hx).2 y hy, hn⟩)⟩
      have hm := comp_ok (ρ := [some 1, none]) (e := lamE [0] [some (W.d nx), some (W.d (.lst (xs.map fun x => .tup ((row x).map D.str))))] (.tup ((row x).map D.str))) (iOf_ok (a := mV 0) (x := .tup ((row x).map D.str)) rfl rfl) (by rw [List.length_map]; have := (hr x hx).1; omega) hc
      rw [hm, List.filter_eq_self.mpr (fun _ _ => rfl)]
      show Rs.ok (D.lst _) = Rs.ok (D.lst ((ky names (row x)).map D.int))
      unfold ky
      rw [List.map_map]; rfl
  have hS : mSortK [0] (mV 1) (mComp [some 1, none] (iOf (mV 0)) (.n 1) cYes (m2 dIdx (mV 0) (mV 1))) [some (W.d nx), some (W.d (.lst (xs.map fun x => .tup ((row x).map D.str))))] = .ok (.lst (ys.map fun x => .tup ((row x).map D.str))) := by
    unfold mSortK
    rw [show mV 1 [some (W.d nx), some (W.d (.lst (xs.map fun x => .tup ((row x).map D.str))))] = .ok (.lst (xs.map fun x => .tup ((row x).map D.str))) from rfl, bind_ok]
    rw [show dLstItems (.lst (xs.map fun x => .tup ((row x).map D.str))) = .ok (xs.map fun x => .tup ((row x).map D.str)) from rfl, bind_ok, guardR_pos (by rw [List.length_map]; exact h64), hk, bind_ok, guardR_pos nd, sortBy_eq (fun x => ky names (row x)) _ nd hm hs]
  rw [ret_ok (wD_ok hS)]; rfl
theorem rows_ok {α : Type} [Inhabited α] {names : List Str} (hn : names.length ≤ 1000) (row : α → List Str) {xs ys : List α} (hr : ∀ x ∈ xs, (row x).length ≤ 1000 ∧ ∀ y ∈ row x, y ∈ names) (h64 : xs.length < 64) (nd : (xs.map fun x => ky names (row x)).Nodup)
    (hm : ∀ a, a ∈ xs ↔ a ∈ ys) (hs : ys.Pairwise fun a b => lexB (ky names (row a)) (ky names (row b)) = true) :
    m_sorted_rows [.d (nmD names), .d (.lst (xs.map fun x => .tup ((row x).map D.str)))] = .ok (.d (.lst (ys.map fun x => .tup ((row x).map D.str)))) := rowsX_ok (asQs_nm names) hn row hr h64 nd hm hs
end Mr
set_option linter.all false
set_option maxRecDepth 10000
namespace Mr
open PySem Mi
def prs (names : List Str) : List Ar := (List.range names.length).flatMap fun k => (names.drop (k + 1)).map fun b => (nth names k, b)
def mds (names : List Str) (arrows : List Ar) (p : Ar) : List Str := names.filter fun m => decide ((p.1, m) ∈ arrows) && decide ((p.2, m) ∈ arrows)
def crs (names : List Str) (arrows : List Ar) : List Tr3 := (prs names).flatMap fun p => if (!tie arrows p.1 p.2) = true then (mds names arrows p).map fun m => (p.1, m, p.2) else []
theorem mem_prs {names : List Str} {a b : Str} : (a, b) ∈ prs names ↔ ∃ k, k < names.length ∧ a = nth names k ∧ b ∈ names.drop (k + 1) := by
  unfold prs
  simp only [List.mem_flatMap, List.mem_map, List.mem_range, Prod.mk.injEq]
  constructor
  · rintro ⟨k, hk, b', hb, rfl, rfl⟩; exact ⟨k, hk, rfl, hb⟩
  · rintro ⟨k, hk, rfl, hb⟩; exact ⟨k, hk, b, hb, rfl, rfl⟩
theorem mem_crs {names : List Str} {arrows : List Ar} (t : Tr3) : t ∈ crs names arrows ↔ t ∈ crns names arrows := by
  obtain ⟨a, m, b⟩ := t
  rw [mem_crns]
  unfold crs mds tie crn
  simp only [List.mem_flatMap]
  constructor
  · rintro ⟨⟨a', b'⟩, hp, h⟩
    split at h
    · rename_i ht
      obtain ⟨m', hm, e⟩ := List.mem_map.mp h
      cases e
      obtain ⟨hm1, hm2⟩ := List.mem_filter.mp hm
      obtain ⟨k, hk, e, hb⟩ := mem_prs.mp hp
      exact ⟨k, hk, e, hm1, hb, by rw [hm2, ht]; rfl⟩
    · cases h
  · rintro ⟨k, hk, e, hm, hb, hc⟩
    have hc' := Bool.and_eq_true_iff.mp hc
    refine ⟨(a, b), mem_prs.mpr ⟨k, hk, e, hb⟩, ?_⟩
    rw [if_pos hc'.2]
    exact List.mem_map.mpr ⟨m, List.mem_filter.mpr ⟨hm, hc'.1⟩, rfl⟩
theorem idx_nth {names : List Str} (nd : names.Nodup) {i : Nat} (hi : i < names.length) : names.idxOf (nth names i) = i := by
  have e : nth names i = names[i] := by unfold nth; rw [List.getD_eq_getElem?_getD, List.getElem?_eq_getElem hi]; rfl
  rw [e]; exact nd.idxOf_getElem i hi
theorem idx_inj {names : List Str} {x y : Str} (hx : x ∈ names) (hy : y ∈ names) (h : names.idxOf x = names.idxOf y) : x = y := by
  have h1 := List.getElem_idxOf (List.idxOf_lt_length_iff.mpr hx)
  have h2 := List.getElem_idxOf (List.idxOf_lt_length_iff.mpr hy)
  rw [← h1, ← h2]
  congr 1
theorem names_pw {names : List Str} (nd : names.Nodup) : names.Pairwise fun x y => names.idxOf x < names.idxOf y := by
  rw [List.pairwise_iff_getElem]
  intro i j hi hj h
  rw [nd.idxOf_getElem i hi, nd.idxOf_getElem j hj]; exact h
theorem drop_idx {names : List Str} (nd : names.Nodup) {k : Nat} {b : Str} (hb : b ∈ names.drop (k + 1)) : k < names.idxOf b ∧ b ∈ names := by
  obtain ⟨i, hi, rfl⟩ := List.getElem_of_mem hb
  rw [List.getElem_drop]
  rw [List.length_drop] at hi
  rw [nd.idxOf_getElem (k + 1 + i) (by omega)]
  exact ⟨by omega, List.getElem_mem _⟩
def tr (t : Tr3) : List Str := [t.1, t.2.1, t.2.2]
theorem crns_sorted {names : List Str} (nd : names.Nodup) (arrows : List Ar) : (crns names arrows).Pairwise fun x y => lexB (ky names (tr x)) (ky names (tr y)) = true := by
  unfold crns
  rw [List.pairwise_flatMap]
  refine ⟨fun k hk => ?_, List.pairwise_lt_range.imp_of_mem fun {k1 k2} h1 h2 h x hx y hy => ?_⟩
  · rw [List.pairwise_flatMap]
    refine ⟨fun m hm => ?_, (names_pw nd).imp fun {m1 m2} h x hx y hy => ?_⟩
    · rw [List.pairwise_map]
      refine ((names_pw nd).sublist (List.Sublist.trans List.filter_sublist (List.drop_sublist _ _))).imp fun {b1 b2} h => ?_
      show lexB [_, _, _] [_, _, _] = true
      rw [lex_eq1, lex_eq1]
      exact lex_lt (Int.ofNat_lt.mpr h)
    · obtain ⟨b1, _, rfl⟩ := List.mem_map.mp hx
      obtain ⟨b2, _, rfl⟩ := List.mem_map.mp hy
      show lexB [_, _, _] [_, _, _] = true
      rw [lex_eq1]
      exact lex_lt (Int.ofNat_lt.mpr h)
  · obtain ⟨m1, _, hx⟩ := List.mem_flatMap.mp hx
    obtain ⟨m2, _, hy⟩ := List.mem_flatMap.mp hy
    obtain ⟨b1, _, rfl⟩ := List.mem_map.mp hx
    obtain ⟨b2, _, rfl⟩ := List.mem_map.mp hy
    have e1 := idx_nth nd (List.mem_range.mp h1)
    have e2 := idx_nth nd (List.mem_range.mp h2)
    exact lex_lt (by show ((names.idxOf (nth names k1) : Nat) : Int) < ((names.idxOf (nth names k2) : Nat) : Int); rw [e1, e2]; omega)
theorem prs_nd {names : List Str} (nd : names.Nodup) : (prs names).Nodup := by
  unfold prs
  show List.Pairwise _ _
  rw [List.pairwise_flatMap]
  refine ⟨fun k hk => ?_, List.pairwise_lt_range.imp_of_mem fun {k1 k2} h1 h2 h x hx y hy => ?_⟩
  · rw [List.pairwise_map]
    exact (nd.sublist (List.drop_sublist _ _)).imp fun {b1 b2} h z => h (by cases z; rfl)
  · obtain ⟨b1, _, rfl⟩ := List.mem_map.mp hx
    obtain ⟨b2, _, rfl⟩ := List.mem_map.mp hy
    intro z
    have := nth_inj nd (List.mem_range.mp h1) (List.mem_range.mp h2) (congrArg Prod.fst z)
    omega
theorem crs_nd {names : List Str} (nd : names.Nodup) (arrows : List Ar) : (crs names arrows).Nodup := by
  unfold crs
  show List.Pairwise _ _
  rw [List.pairwise_flatMap]
  have inn : ∀ {p : Ar} {x : Tr3}, x ∈ (if (!tie arrows p.1 p.2) = true then (mds names arrows p).map fun m => (p.1, m, p.2) else []) → x.1 = p.1 ∧ x.2.2 = p.2 := fun {p x} h => by
    split at h
    · obtain ⟨m, _, rfl⟩ := List.mem_map.mp h; exact ⟨rfl, rfl⟩
    · cases h
  refine ⟨fun p hp => ?_, (prs_nd nd).imp fun {p q} h x hx y hy z => ?_⟩
  · split
    · rw [List.pairwise_map]
      exact (nd.sublist List.filter_sublist).imp fun {b1 b2} h z => h (by cases z; rfl)
    · exact .nil
  · subst z
    obtain ⟨a1, a2⟩ := inn hx
    obtain ⟨b1, b2⟩ := inn hy
    exact h (Prod.ext (a1.symm.trans b1) (a2.symm.trans b2))
theorem nodup_le {α : Type} [DecidableEq α] : ∀ {l L : List α}, l.Nodup → (∀ x ∈ l, x ∈ L) → l.length ≤ L.length
  | [], _, _, _ => Nat.zero_le _
  | x :: r, L, nd, h => by
    have nd' := List.nodup_cons.mp nd
    have hx := h x List.mem_cons_self
    have := nodup_le (l := r) (L := L.erase x) nd'.2 fun y hy => (List.mem_erase_of_ne (fun z : y = x => nd'.1 (z ▸ hy))).mpr (h y (List.mem_cons_of_mem _ hy))
    rw [List.length_erase_of_mem hx] at this
    have := List.length_pos_of_mem hx
    rw [List.length_cons]; omega
def cde (names : List Str) (t : Tr3) : Nat :=
  if names.idxOf t.2.1 < names.idxOf t.1 then names.idxOf t.2.1 * 64 + names.idxOf t.1 * 8 + names.idxOf t.2.2
  else if names.idxOf t.2.1 < names.idxOf t.2.2 then names.idxOf t.1 * 64 + names.idxOf t.2.1 * 8 + names.idxOf t.2.2
  else names.idxOf t.1 * 64 + names.idxOf t.2.2 * 8 + names.idxOf t.2.1
structure CF (names : List Str) (arrows : List Ar) (t : Tr3) : Prop where
  m1 : t.1 ∈ names
  m2 : t.2.1 ∈ names
  m3 : t.2.2 ∈ names
  l1 : names.idxOf t.1 < 8
  l2 : names.idxOf t.2.1 < 8
  l3 : names.idxOf t.2.2 < 8
  up : names.idxOf t.1 < names.idxOf t.2.2
  n1 : names.idxOf t.2.1 ≠ names.idxOf t.1
  n2 : names.idxOf t.2.1 ≠ names.idxOf t.2.2
  a1 : (t.1, t.2.1) ∈ arrows
  a2 : (t.2.2, t.2.1) ∈ arrows
  z1 : (t.1, t.2.2) ∉ arrows
  z2 : (t.2.2, t.1) ∉ arrows
theorem crs_cf {names : List Str} {arrows : List Ar} (N : Nt names arrows) {t : Tr3} (h : t ∈ crs names arrows) : CF names arrows t := by
  obtain ⟨a, m, b⟩ := t
  obtain ⟨k, hk, e, hm, hb, hc⟩ := mem_crns.mp ((mem_crs _).mp h)
  obtain ⟨c1, c2, c3, c4⟩ := crn_iff.mp hc
  obtain ⟨d1, d2⟩ := drop_idx N.nd hb
  have ha : a ∈ names := by rw [e]; exact nth_mem hk
  have ei : names.idxOf a = k := by rw [e]; exact idx_nth N.nd hk
  have hn := N.le
  obtain ⟨r, hr⟩ := N.rk
  have i1 := List.idxOf_lt_length_iff.mpr hm
  have i2 := List.idxOf_lt_length_iff.mpr d2
  refine ⟨ha, hm, d2, ?_, ?_, ?_, ?_, fun z => ?_, fun z => ?_, c1, c2, c3, c4⟩
  · show names.idxOf a < 8; omega
  · show names.idxOf m < 8; omega
  · show names.idxOf b < 8; omega
  · show names.idxOf a < names.idxOf b; omega
  · have := idx_inj hm ha z
    have := hr _ c1
    simp only at *
    subst m; omega
  · have := idx_inj hm d2 z
    have := hr _ c2
    simp only at *
    subst m; omega
theorem cde_inj {names : List Str} {arrows : List Ar} {t u : Tr3} (T : CF names arrows t) (U : CF names arrows u) (h : cde names t = cde names u) : t = u := by
  obtain ⟨a, m, b⟩ := t
  obtain ⟨a', m', b'⟩ := u
  obtain ⟨m1, m2, m3, l1, l2, l3, up, n1, n2, a1, a2, z1, z2⟩ := T
  obtain ⟨m1', m2', m3', l1', l2', l3', up', n1', n2', a1', a2', z1', z2'⟩ := U
  unfold cde at h
  simp only at *
  split at h
  · split at h
    · obtain rfl := idx_inj m1 m1' (by omega)
      obtain rfl := idx_inj m2 m2' (by omega)
      obtain rfl := idx_inj m3 m3' (by omega)
      rfl
    · split at h
      · obtain rfl := idx_inj m2 m1' (by omega)
        obtain rfl := idx_inj m3 m3' (by omega)
        exact absurd a2 z2'
      · obtain rfl := idx_inj m2 m1' (by omega)
        obtain rfl := idx_inj m1 m3' (by omega)
        exact absurd a1 z2'
  · split at h
    · split at h
      · obtain rfl := idx_inj m1 m2' (by omega)
        obtain rfl := idx_inj m3 m3' (by omega)
        exact absurd a2' z2
      · split at h
        · obtain rfl := idx_inj m1 m1' (by omega)
          obtain rfl := idx_inj m2 m2' (by omega)
          obtain rfl := idx_inj m3 m3' (by omega)
          rfl
        · obtain rfl := idx_inj m1 m1' (by omega)
          obtain rfl := idx_inj m2 m3' (by omega)
          exact absurd a1 z1'
    · split at h
      · obtain rfl := idx_inj m1 m2' (by omega)
        obtain rfl := idx_inj m3 m1' (by omega)
        exact absurd a1' z2
      · split at h
        · obtain rfl := idx_inj m1 m1' (by omega)
          obtain rfl := idx_inj m3 m2' (by omega)
          exact absurd a1' z1
        · obtain rfl := idx_inj m1 m1' (by omega)
          obtain rfl := idx_inj m2 m2' (by omega)
          obtain rfl := idx_inj m3 m3' (by omega)
          rfl
def c56 : List Nat := (List.range 512).filter fun n => decide (n / 64 < n / 8 % 8) && decide (n / 8 % 8 < n % 8)
theorem c56_len : c56.length = 56 := by decide +kernel
theorem cde_mem {names : List Str} {arrows : List Ar} {t : Tr3} (T : CF names arrows t) : cde names t ∈ c56 := by
  obtain ⟨m1, m2, m3, l1, l2, l3, up, n1, n2, a1, a2, z1, z2⟩ := T
  have key : ∀ x y z : Nat, x < y → y < z → z < 8 → x * 64 + y * 8 + z ∈ c56 := fun x y z h1 h2 h3 => by
    refine List.mem_filter.mpr ⟨List.mem_range.mpr (by omega), ?_⟩
    have e1 : (x * 64 + y * 8 + z) / 64 = x := by omega
    have e2 : (x * 64 + y * 8 + z) / 8 % 8 = y := by omega
    have e3 : (x * 64 + y * 8 + z) % 8 = z := by omega
    rw [e1, e2, e3]; simp [h1, h2]
  unfold cde
  split
  · exact key _ _ _ (by omega) (by omega) (by omega)
  · split
    · exact key _ _ _ (by omega) (by omega) (by omega)
    · exact key _ _ _ (by omega) (by omega) (by omega)
theorem crs_len {names : List Str} {arrows : List Ar} (N : Nt names arrows) : (crs names arrows).length ≤ 56 := by
  have h : ((crs names arrows).map (cde names)).Nodup := by
    show List.Pairwise _ _
    rw [List.pairwise_map]
    exact List.Pairwise.imp_of_mem (fun {x y} hx hy h z => h (cde_inj (crs_cf N hx) (crs_cf N hy) z)) (crs_nd N.nd arrows)
  have := nodup_le h (L := c56) fun x hx => by
    obtain ⟨t, ht, rfl⟩ := List.mem_map.mp hx
    exact cde_mem (crs_cf N ht)
  rw [List.length_map, c56_len] at this
  exact this
theorem keys_nd {names : List Str} {arrows : List Ar} (N : Nt names arrows) : ((crs names arrows).map fun t => ky names (tr t)).Nodup := by
  show List.Pairwise _ _
  rw [List.pairwise_map]
  refine List.Pairwise.imp_of_mem (fun {x y} hx hy h z => h ?_) (crs_nd N.nd arrows)
  have X := crs_cf N hx
  have Y := crs_cf N hy
  obtain ⟨a, m, b⟩ := x
  obtain ⟨a', m', b'⟩ := y
  simp only [ky, tr, List.map_cons, List.map_nil, List.cons.injEq, and_true] at z
  obtain ⟨z1, z2, z3⟩ := z
  obtain rfl := idx_inj X.m1 Y.m1 (by show names.idxOf a = names.idxOf a'; omega)
  obtain rfl := idx_inj X.m2 Y.m2 (by show names.idxOf m = names.idxOf m'; omega)
  obtain rfl := idx_inj X.m3 Y.m3 (by show names.idxOf b = names.idxOf b'; omega)
  rfl
theorem crs_sorted {names : List Str} {arrows : List Ar} (N : Nt names arrows) : m_sorted_rows [.d (nmD names), .d (.lst ((crs names arrows).map tripD))] = .ok (.d (.lst ((crns names arrows).map tripD))) :=
  rows_ok (by have := N.le; omega) tr (fun t ht => ⟨by show 3 ≤ 1000; omega, fun y hy => by
    have T := crs_cf N ht
    simp only [tr, List.mem_cons, List.not_mem_nil, or_false] at hy
    rcases hy with rfl | rfl | rfl
    · exact T.m1
    · exact T.m2
    · exact T.m3⟩) (by have := crs_len N; omega) (keys_nd N) (fun t => mem_crs t) (crns_sorted N.nd arrows)
end Mr
set_option linter.all false
set_option maxRecDepth 10000
namespace Mr
open PySem Mi
theorem ext_ok {i : Nat} {a : E} {e : Mi.Env} {ds xs : List D} (ha : a e = .ok (.lst xs)) (hg : getL e i = .ok ds) (hl : ds.length + xs.length ≤ 16777216) : sExtend i a e = .ok (.nx (putL e i (ds ++ xs))) := by
  unfold sExtend
  rw [ha, bind_ok, hg, bind_ok]
  exact guardR_pos hl
theorem lst2 {a b : E} {e : Mi.Env} {x y : D} (h : a e = .ok x) (h' : b e = .ok y) : mN dLst [a, b] e = .ok (.lst [x, y]) := by
  unfold mN; rw [mArgs, h, bind_ok, mArgs, h', bind_ok]; rfl
theorem drp_ok {a : E} {e : Mi.Env} {x : D} (h : a e = .ok x) : sDrop a e = .ok (.nx e) := by unfold sDrop; rw [h]; rfl
theorem are_tied_ok {names : List Str} {arrows : List Ar} {a b : Str} (ha : a ∈ names) (hb : b ∈ names) : m_are_tied [.d (netD names arrows), .d (.str a), .d (.str b)] = .ok (.d (.bl (tie arrows a b))) := by
  unfold m_are_tied b_are_tied
  rw [fnM3]
  rw [show ([some (W.d (netD names arrows)), some (W.d (.str a)), some (W.d (.str b))] ++ List.replicate (3 - 3) none) = [some (W.d (netD names arrows)), some (W.d (.str a)), some (W.d (.str b))] from rfl]
  have hr : m_refuse_strangers [.d (nmD names), .d (strL [a, b])] = .ok (.d .non) := refuse_ok fun x hx => by
    rcases List.mem_cons.mp hx with rfl | hx
    · exact ha
    · rw [List.mem_singleton.mp hx]; exact hb
  rw [seq_ok (drp_ok (call2 (wD_ok (m2_ok rfl rfl (ix0 _ _))) (wD_ok (lst2 rfl rfl)) hr))]
  have aa : mOr (m2 dIn (mN dTup [(mV 1), (mV 2)]) (m2 dIx (mV 0) (mC (.int 1)))) (m2 dIn (mN dTup [(mV 2), (mV 1)]) (m2 dIx (mV 0) (mC (.int 1)))) [some (.d (netD names arrows)), some (.d (.str a)), some (.d (.str b))] = .ok (.bl (tie arrows a b)) :=
    mOr_ok (m2_ok (tup2 rfl rfl) (m2_ok rfl rfl (ix1 names arrows)) (dIn_pair arrows (a, b))) fun _ => m2_ok (tup2 rfl rfl) (m2_ok rfl rfl (ix1 names arrows)) (dIn_pair arrows (b, a))
  rw [ret_ok (wD_ok aa)]; rfl
theorem prs_len {names : List Str} (hn : names.length ≤ 8) : (prs names).length ≤ 64 := by
  unfold prs
  refine Nat.le_trans (flat_len (m := 8) fun k _ => ?_) (by rw [List.length_range]; omega)
  rw [List.length_map, List.length_drop]; omega
theorem sl_drop {names : List Str} {a b : E} {e : Mi.Env} {k : Nat} (hk : k < names.length) (hn : names.length ≤ 8) (ha : a e = .ok (nmD names)) (hb : b e = .ok (.int (k : Nat))) : iOf (mSlF dSlT a (some (m2 dAdd b (mC (.int 1)))) none) e = .ok ((names.drop (k + 1)).map D.str) := by
  have sl : mSlF dSlT a (some (m2 dAdd b (mC (.int 1)))) none e = .ok (.tup ((names.map D.str).drop (k + 1))) := by
    rw [slf_ok ha (m2_ok (a := b) (b := mC (.int 1)) (x := .int (k : Nat)) (y := .int 1) hb rfl rfl)]
    show guardR _ _ = _
    rw [guardR_pos (by rw [List.length_map]; omega), show ((k : Nat) : Int) + 1 = ((k + 1 : Nat) : Int) by omega, Int.toNat_natCast]
  rw [iOf_ok sl rfl, List.map_drop]
theorem pairs_ok {names : List Str} (hn : names.length ≤ 8) : m_pairs_of [.d (nmD names)] = .ok (.d (prL (prs names))) := by
  unfold m_pairs_of b_pairs_of
  rw [fnN1]
  have epr : (prs names).map pairD = (List.range names.length).flatMap fun k => (names.drop (k + 1)).map fun b => pairD (nth names k, b) := by
    unfold prs
    rw [map_flatMap']
    refine flatMap_same fun k _ => ?_
    rw [List.map_map]; rfl
  have plen : ((prs names).map pairD).length ≤ 64 := by rw [List.length_map]; exact prs_len hn
  rw [epr] at plen
  obtain ⟨e', f1, o2, o3, he⟩ := for_flat (tg := .t [2, 3]) (body := (sExtend 1 (mComp [some 3, none] (iOf (mSlF dSlT (mV 0) (some (m2 dAdd (mV 2) (mC (.int 1)))) none)) (.n 1) cYes (mN dTup [(mV 0), (mV 1)]))))
    (fun k : Nat => D.tup [.int (k : Nat), .str (nth names k)]) (fun k => (names.drop (k + 1)).map fun b => pairD (nth names k, b))
    (fun acc e => ∃ o2 o3 : Option W, e = [some (.d (nmD names)), some (.d (.lst acc)), o2, o3]) (List.range names.length) [] [some (.d (nmD names)), some (.d (.lst [])), none, none] (by simp only [List.length_nil]; omega) ⟨none, none, rfl⟩
    (fun k hk acc e hl ⟨o2, o3, he⟩ => by
      subst he
      have hk := List.mem_range.mp hk
      refine ⟨[some (.d (nmD names)), some (.d (.lst acc)), some (.d (.int (k : Nat))), some (.d (.str (nth names k)))], putL [some (.d (nmD names)), some (.d (.lst acc)), some (.d (.int (k : Nat))), some (.d (.str (nth names k)))] 1 (acc ++ (names.drop (k + 1)).map fun b => pairD (nth names k, b)), rfl, ?_, _, _, rfl⟩
      have hc : compD (.n 1) cYes (mN dTup [(mV 0), (mV 1)]) [some (.d (.str (nth names k))), none] ((names.drop (k + 1)).map D.str) = .ok (((names.drop (k + 1)).filter fun _ => true).map fun b => pairD (nth names k, b)) :=
        comp_map D.str (fun b => pairD (nth names k, b)) (fun _ => true) _ fun b _ => ⟨[some (.d (.str (nth names k))), some (.d (.str b))], rfl, rfl, fun _ => tup2 rfl rfl⟩
      rw [List.filter_eq_self.mpr (fun _ _ => rfl)] at hc
      exact ext_ok (comp_ok (ρ := [some 3, none]) (sl_drop hk hn rfl rfl) (by rw [List.length_map, List.length_drop]; omega) hc) rfl hl)
  subst he
  rw [show ([some (W.d (nmD names))] ++ List.replicate (4 - 1) none) = [some (W.d (nmD names)), none, none, none] from rfl]
  rw [seq_ok (e' := [some (.d (nmD names)), some (.d (.lst [])), none, none]) (set_ok (lst0 _))]
  have hit : iEnumq (mV 0) [some (.d (nmD names)), some (.d (.lst [])), none, none] = .ok ((List.range names.length).map fun k => D.tup [.int (k : Nat), .str (nth names k)]) := by
    rw [← enum_range]; rfl
  rw [seq_ok ((for_ok hit).trans f1)]
  unfold prL
  rw [epr]; rfl
theorem prs_mem {names : List Str} {p : Ar} (h : p ∈ prs names) : p.1 ∈ names ∧ p.2 ∈ names := by
  obtain ⟨k, hk, e, hb⟩ := mem_prs.mp (show (p.1, p.2) ∈ prs names from h)
  exact ⟨by rw [e]; exact nth_mem hk, List.mem_of_mem_drop hb⟩
def tis (names : List Str) (arrows : List Ar) : List Ar := (prs names).filter fun p => tie arrows p.1 p.2
theorem ties_ok {names : List Str} {arrows : List Ar} (hn : names.length ≤ 8) : m_ties_of [.d (netD names arrows)] = .ok (.d (prL (tis names arrows))) := by
  unfold m_ties_of b_ties_of
  rw [fnN1]
  rw [show ([some (W.d (netD names arrows))] ++ List.replicate (1 - 1) none) = [some (W.d (netD names arrows))] from rfl]
  have hc : compD (.t [1, 2]) (cB (mCall m_are_tied [(wD (mV 0)), (wD (mV 1)), (wD (mV 2))])) (mN dTup [(mV 1), (mV 2)]) [some (.d (netD names arrows)), none, none] ((prs names).map pairD) = .ok ((tis names arrows).map pairD) :=
    comp_map pairD pairD (fun p => tie arrows p.1 p.2) (prs names) fun p hp => ⟨[some (.d (netD names arrows)), some (.d (.str p.1)), some (.d (.str p.2))], rfl, cB_ok (call3 rfl rfl rfl (are_tied_ok (prs_mem hp).1 (prs_mem hp).2)), fun _ => tup2 rfl rfl⟩
  have hm := comp_ok (ρ := [some 0, none, none]) (e := [some (.d (netD names arrows))]) (iOf_ok (a := mCall m_pairs_of [(wD (m2 dIx (mV 0) (mC (.int 0))))]) (x := prL (prs names)) (call1 (wD_ok (m2_ok rfl rfl (ix0 names arrows))) (pairs_ok hn)) rfl) (by rw [List.length_map]; have := prs_len hn; omega) hc
  rw [ret_ok (wD_ok hm)]; rfl
theorem l_ties_ok {names : List Str} {arrows : List Ar} (hn : names.length ≤ 8) : m_l_ties [.d (netD names arrows)] = .ok (.d (prL (tis names arrows))) := by
  unfold m_l_ties b_l_ties
  rw [fnM1]
  have epr : (tis names arrows).map pairD = (List.range names.length).flatMap fun k => ((names.drop (k + 1)).filter fun b => tie arrows (nth names k) b).map fun b => pairD (nth names k, b) := by
    unfold tis prs
    rw [List.filter_flatMap, map_flatMap']
    refine flatMap_same fun k _ => ?_
    rw [List.filter_map, List.map_map]; rfl
  have plen : ((tis names arrows).map pairD).length ≤ 64 := by rw [List.length_map]; exact Nat.le_trans (List.length_filter_le _ _) (prs_len hn)
  rw [epr] at plen
  obtain ⟨e', f1, o2, he⟩ := for_flat (tg := .n 2) (body := (sSet 1 (m2 dAdd (mV 1) (mComp [some 2, some 0, none] (iOf (mSlF dSlT (m2 dIx (mV 0) (mC (.int 0))) (some (m2 dAdd (mV 2) (mC (.int 1)))) none)) (.n 2) (cB (mCall m_l_tied [(wD (mV 1)), (wD (m2 dIx (m2 dIx (mV 1) (mC (.int 0))) (mV 0))), (wD (mV 2))])) (mN dTup [(m2 dIx (m2 dIx (mV 1) (mC (.int 0))) (mV 0)), (mV 2)])))))
    (fun k : Nat => D.int (0 + (k : Nat))) (fun k => ((names.drop (k + 1)).filter fun b => tie arrows (nth names k) b).map fun b => pairD (nth names k, b))
    (fun acc e => ∃ o2 : Option W, e = [some (.d (netD names arrows)), some (.d (.lst acc)), o2]) (List.range names.length) [] [some (.d (netD names arrows)), some (.d (.lst [])), none] (by simp only [List.length_nil]; omega) ⟨none, rfl⟩
    (fun k hk acc e hl ⟨o2, he⟩ => by
      subst he
      have hk := List.mem_range.mp hk
      rw [Int.zero_add]
      refine ⟨[some (.d (netD names arrows)), some (.d (.lst acc)), some (.d (.int (k : Nat)))], [some (.d (netD names arrows)), some (.d (.lst (acc ++ ((names.drop (k + 1)).filter fun b => tie arrows (nth names k) b).map fun b => pairD (nth names k, b)))), some (.d (.int (k : Nat)))], rfl, ?_, _, rfl⟩
      have nm : ∀ b : Str, m2 dIx (m2 dIx (mV 1) (mC (.int 0))) (mV 0) [some (.d (.int (k : Nat))), some (.d (netD names arrows)), some (.d (.str b))] = .ok (.str (nth names k)) := fun b => m2_ok (m2_ok rfl rfl (ix0 names arrows)) rfl (by
        have := ixT_strs (cs := names) (i := (k : Nat)) (by omega) (by omega)
        rw [Int.toNat_natCast] at this; exact this)
      have hc : compD (.n 2) (cB (mCall m_l_tied [(wD (mV 1)), (wD (m2 dIx (m2 dIx (mV 1) (mC (.int 0))) (mV 0))), (wD (mV 2))])) (mN dTup [(m2 dIx (m2 dIx (mV 1) (mC (.int 0))) (mV 0)), (mV 2)]) [some (.d (.int (k : Nat))), some (.d (netD names arrows)), none] ((names.drop (k + 1)).map D.str) = .ok (((names.drop (k + 1)).filter fun b => tie arrows (nth names k) b).map fun b => pairD (nth names k, b)) :=
        comp_map D.str (fun b => pairD (nth names k, b)) (fun b => tie arrows (nth names k) b) _ fun b _ => ⟨[some (.d (.int (k : Nat))), some (.d (netD names arrows)), some (.d (.str b))], rfl, cB_ok (call3 rfl (wD_ok (nm b)) rfl (tied_ok (nth names k) b)), fun _ => tup2 (nm b) rfl⟩
      have hm := comp_ok (ρ := [some 2, some 0, none]) (e := [some (.d (netD names arrows)), some (.d (.lst acc)), some (.d (.int (k : Nat)))]) (sl_drop (b := mV 2) hk hn (m2_ok (a := mV 0) (b := mC (.int 0)) rfl rfl (ix0 names arrows)) rfl) (by rw [List.length_map, List.length_drop]; omega) hc
      exact set_ok (m2_ok (x := .lst acc) rfl hm (guardR_pos hl)))
  subst he
  rw [show ([some (W.d (netD names arrows))] ++ List.replicate (3 - 1) none) = [some (W.d (netD names arrows)), none, none] from rfl]
  rw [seq_ok (e' := [some (.d (netD names arrows)), some (.d (.lst [])), none]) (set_ok (lst0 _))]
  have hit : iRange1 (mN bLen [(m2 dIx (mV 0) (mC (.int 0)))]) [some (.d (netD names arrows)), some (.d (.lst [])), none] = .ok ((List.range names.length).map fun k : Nat => D.int (0 + (k : Nat))) := by
    unfold iRange1
    rw [len_nm (names := names) (arrows := arrows) rfl, bind_ok, asI_i, bind_ok, guardR_pos (by unfold okR; omega)]
    unfold dRange
    rw [Int.sub_zero, Int.toNat_natCast]
  rw [seq_ok ((for_ok hit).trans f1)]
  unfold prL
  rw [epr]; rfl
theorem crs_map {names : List Str} {arrows : List Ar} : (crs names arrows).map tripD = (prs names).flatMap fun p => if (!tie arrows p.1 p.2) = true then (mds names arrows p).map fun m => tripD (p.1, m, p.2) else [] := by
  unfold crs
  rw [map_flatMap']
  refine flatMap_same fun p _ => ?_
  split
  · rw [List.map_map]; rfl
  · rfl
theorem crns_of_ok {names : List Str} {arrows : List Ar} (N : Nt names arrows) : m_corners_of [.d (netD names arrows)] = .ok (.d (.lst ((crns names arrows).map tripD))) := by
  have hn := N.le
  have clen : ((crs names arrows).map tripD).length ≤ 56 := by rw [List.length_map]; exact crs_len N
  have srt := crs_sorted N
  rw [crs_map] at clen srt
  unfold m_corners_of b_corners_of
  rw [fnN1]
  obtain ⟨e', f1, o4, o5, o6, he⟩ := for_flat (tg := .t [4, 5]) (body := (sIf (cNot (cB (mCall m_are_tied [(wD (mV 0)), (wD (mV 4)), (wD (mV 5))])))
  (sSeq (sSet 6 (mComp [some 2, some 4, some 5, none] (iOf (mV 1)) (.n 3) (cAnd (cB (m2 dIn (mN dTup [(mV 1), (mV 3)]) (mV 0))) (cB (m2 dIn (mN dTup [(mV 2), (mV 3)]) (mV 0)))) (mV 3)))
  (sExtend 3 (mComp [some 4, some 5, none] (iOf (mV 6)) (.n 2) cYes (mN dTup [(mV 0), (mV 2), (mV 1)]))))
  sNext))
    pairD (fun p => if (!tie arrows p.1 p.2) = true then (mds names arrows p).map fun m => tripD (p.1, m, p.2) else [])
    (fun acc e => ∃ o4 o5 o6 : Option W, e = [some (.d (netD names arrows)), some (.d (nmD names)), some (.d (arD arrows)), some (.d (.lst acc)), o4, o5, o6]) (prs names) [] [some (.d (netD names arrows)), some (.d (nmD names)), some (.d (arD arrows)), some (.d (.lst [])), none, none, none] (by simp only [List.length_nil]; omega) ⟨none, none, none, rfl⟩
    (fun p hp acc e hl ⟨o4, o5, o6, he⟩ => by
      subst he
      have hc := cNot_ok (cB_ok (call3 (f := m_are_tied) (a := wD (mV 0)) (b := wD (mV 4)) (c := wD (mV 5)) (e := [some (.d (netD names arrows)), some (.d (nmD names)), some (.d (arD arrows)), some (.d (.lst acc)), some (.d (.str p.1)), some (.d (.str p.2)), o6]) rfl rfl rfl (are_tied_ok (arrows := arrows) (prs_mem hp).1 (prs_mem hp).2)))
      cases ht : (!tie arrows p.1 p.2) with
      | false =>
        rw [ht] at hc
        rw [if_neg Bool.false_ne_true, List.append_nil]
        exact ⟨[some (.d (netD names arrows)), some (.d (nmD names)), some (.d (arD arrows)), some (.d (.lst acc)), some (.d (.str p.1)), some (.d (.str p.2)), o6], _, rfl, (if_ff hc).trans rfl, _, _, _, rfl⟩
      | true =>
        rw [ht] at hc
        rw [ht, if_pos rfl] at hl
        rw [if_pos rfl]
        have hmc : compD (.n 3) (cAnd (cB (m2 dIn (mN dTup [(mV 1), (mV 3)]) (mV 0))) (cB (m2 dIn (mN dTup [(mV 2), (mV 3)]) (mV 0)))) (mV 3) [some (.d (arD arrows)), some (.d (.str p.1)), some (.d (.str p.2)), none] (names.map D.str) = .ok ((mds names arrows p).map D.str) :=
          comp_map D.str D.str (fun m => decide ((p.1, m) ∈ arrows) && decide ((p.2, m) ∈ arrows)) names fun m _ => ⟨[some (.d (arD arrows)), some (.d (.str p.1)), some (.d (.str p.2)), some (.d (.str m))], rfl, cAnd_ok (cB_ok (m2_ok (tup2 rfl rfl) rfl (dIn_pair arrows (p.1, m)))) fun _ => cB_ok (m2_ok (tup2 rfl rfl) rfl (dIn_pair arrows (p.2, m))), fun _ => rfl⟩
        have s1 := set_ok (i := 6) (comp_ok (ρ := [some 2, some 4, some 5, none]) (e := [some (.d (netD names arrows)), some (.d (nmD names)), some (.d (arD arrows)), some (.d (.lst acc)), some (.d (.str p.1)), some (.d (.str p.2)), o6]) (iOf_ok (a := mV 1) (x := nmD names) rfl rfl) (by rw [List.length_map]; omega) hmc)
        have hmc2 : compD (.n 2) cYes (mN dTup [(mV 0), (mV 2), (mV 1)]) [some (.d (.str p.1)), some (.d (.str p.2)), none] ((mds names arrows p).map D.str) = .ok (((mds names arrows p).filter fun _ => true).map fun m => tripD (p.1, m, p.2)) :=
          comp_map D.str (fun m => tripD (p.1, m, p.2)) (fun _ => true) _ fun m _ => ⟨[some (.d (.str p.1)), some (.d (.str p.2)), some (.d (.str m))], rfl, rfl, fun _ => (n3_ok rfl rfl rfl).trans (guardR_pos (by simp))⟩
        rw [List.filter_eq_self.mpr (fun _ _ => rfl)] at hmc2
        have hml : (mds names arrows p).length ≤ 8 := Nat.le_trans (List.length_filter_le _ _) hn
        refine ⟨[some (.d (netD names arrows)), some (.d (nmD names)), some (.d (arD arrows)), some (.d (.lst acc)), some (.d (.str p.1)), some (.d (.str p.2)), o6], putL [some (.d (netD names arrows)), some (.d (nmD names)), some (.d (arD arrows)), some (.d (.lst acc)), some (.d (.str p.1)), some (.d (.str p.2)), some (.d (.lst ((mds names arrows p).map D.str)))] 3 (acc ++ (mds names arrows p).map fun m => tripD (p.1, m, p.2)), rfl, ?_, _, _, _, rfl⟩
        exact (if_tt hc).trans ((seq_ok s1).trans (ext_ok (comp_ok (ρ := [some 4, some 5, none]) (iOf_ok (a := mV 6) (x := .lst ((mds names arrows p).map D.str)) rfl rfl) (by rw [List.length_map]; omega) hmc2) rfl hl)))
  subst he
  rw [show ([some (W.d (netD names arrows))] ++ List.replicate (7 - 1) none) = [some (W.d (netD names arrows)), none, none, none, none, none, none] from rfl]
  rw [seq_ok (e' := [some (.d (netD names arrows)), some (.d (nmD names)), some (.d (arD arrows)), none, none, none, none]) rfl]
  rw [seq_ok (e' := [some (.d (netD names arrows)), some (.d (nmD names)), some (.d (arD arrows)), some (.d (.lst [])), none, none, none]) (set_ok (lst0 _))]
  rw [seq_ok ((for_ok (iOf_ok (a := mCall m_pairs_of [(wD (mV 1))]) (x := prL (prs names)) (call1 rfl (pairs_ok hn)) rfl)).trans f1)]
  rw [ret_ok (wD_ok (call2 rfl rfl srt))]; rfl
theorem right2_ok {names : List Str} {arrows : List Ar} (N : Nt names arrows) (k : Int) : m_l_right_2 [.d (netD names arrows), .d (.int k)] = .ok (.d (.bl true)) := by
  unfold m_l_right_2 b_l_right_2
  rw [fnM2]
  rw [show ([some (W.d (netD names arrows)), some (W.d (.int k))] ++ List.replicate (2 - 2) none) = [some (W.d (netD names arrows)), some (W.d (.int k))] from rfl]
  have t1 : mCall (m_l_alike 3) [(wD (mCall m_corners_of [(wD (mV 0))])), (wD (mCall m_l_corners [(wD (mV 0))]))] [some (W.d (netD names arrows)), some (W.d (.int k))] = .ok (.bl true) := call2 (wD_ok (call1 rfl (crns_of_ok N))) (wD_ok (call1 rfl (corners_ok N.le))) (alike_trips 0 _)
  have t2 : mCall (m_l_alike 3) [(wD (mCall m_ties_of [(wD (mV 0))])), (wD (mCall m_l_ties [(wD (mV 0))]))] [some (W.d (netD names arrows)), some (W.d (.int k))] = .ok (.bl true) := call2 (wD_ok (call1 rfl (ties_ok N.le))) (wD_ok (call1 rfl (l_ties_ok N.le))) (alike_pairs 0 _)
  have c1 := cAnd_ok (cB_ok (m2_ok (a := mV 1) (b := mC (.int 0)) (e := [some (W.d (netD names arrows)), some (W.d (.int k))]) rfl rfl (dEq_int k 0))) fun _ => not_ff t1
  rw [Bool.and_false] at c1
  rw [seq_ok ((if_ff c1).trans rfl), seq_ok ((if_ff (not_ff t2)).trans rfl), ret_ok (wD_ok t1)]; rfl
theorem dNe_held (F : List Ar) (C : List Tr3) : dNe (.lst [prL F, .lst (C.map tripD)]) (.lst [prL F, .lst (C.map tripD)]) = .ok (.bl false) := by
  unfold dNe
  rw [guardR_pos (by
    rw [dep_lst]
    have h1 := dep_pairs F
    have h2 := dep_trips C
    unfold prL
    rw [depAll_cons, depAll_cons, dep_lst, dep_lst, depAll_nil]; omega), pyEq, pyEqs, pyEqs, pyEqs]
  unfold prL
  rw [pyEq, pyEq, pyEqs_prs, pyEqs_trips, decide_eq_true rfl, decide_eq_true rfl]; rfl
theorem law_k20_holds (ns : List Int) (hl : ns.length ≤ 63) : m_law_k20 [.d (.lst (ns.map D.int))] = .ok (.d (.bl true)) := by
  obtain ⟨names, A, r, hnet, IN⟩ := net2_ok ns 8 (by decide) (by decide)
  rw [show ((8 : Nat) : Int) = 8 from rfl] at hnet
  have N := IN.nt
  generalize A.map (arrOf names) = arrows at hnet N
  obtain ⟨c, hc⟩ := cell_ok ns 32 (by decide)
  rw [show ((32 : Nat) : Int) = 32 from rfl] at hc
  obtain ⟨B, hB, RB, iB⟩ := spoiled_ok N (c / 2)
  have N2 : Nt names (srt names B) := Nt.of_srt N.nd N.le RB
  have hS := sorted_ok (names := names) (arrows := B) N.le
  unfold m_law_k20 b_law_k20
  rw [fnM1]
  rw [show ([some (W.d (.lst (ns.map D.int)))] ++ List.replicate (7 - 1) none) = [some (W.d (.lst (ns.map D.int))), none, none, none, none, none, none] from rfl]
  rw [seq_ok (e' := [some (.d (.lst (ns.map D.int))), some (.d (netD names arrows)), none, none, none, none, none]) (set_ok (call2 rfl rfl hnet))]
  rw [seq_ok (e' := [some (.d (.lst (ns.map D.int))), some (.d (netD names arrows)), some (.d (.int c)), none, none, none, none]) (set_ok (call2 rfl rfl hc))]
  have d2 : ∀ e : Mi.Env, mV 2 e = .ok (.int c) → m2 dDiv (mV 2) (mC (.int 2)) e = .ok (.int (c / 2)) := fun e h => m2_ok h rfl (guardR_pos (by decide))
  have q2 : ∀ e : Mi.Env, mV 2 e = .ok (.int c) → m2 dMod (mV 2) (mC (.int 2)) e = .ok (.int (c % 2)) := fun e h => m2_ok h rfl (guardR_pos (by decide))
  rw [seq_ok (e' := [some (.d (.lst (ns.map D.int))), some (.d (netD names arrows)), some (.d (.int c)), some (.d (netD names (srt names B))), none, none, none])
    (set_ok (call2 (wD_ok (m2_ok rfl rfl (ix0 names arrows))) (wD_ok (call3 (wD_ok (m2_ok rfl rfl (ix0 names arrows))) (wD_ok ((n1_ok (m2_ok rfl rfl (ix1 names arrows))).trans rfl)) (wD_ok (d2 _ rfl)) hB)) hS))]
  rw [seq_ok ((if_ff (not_ff (call2 rfl (wD_ok (q2 _ rfl)) (right2_ok N _)))).trans rfl)]
  have t1 := ties_ok (names := names) (arrows := arrows) N.le
  have t2 := crns_of_ok N
  generalize tis names arrows = F at t1
  generalize crns names arrows = C at t2
  rw [seq_ok (e' := [some (.d (.lst (ns.map D.int))), some (.d (netD names arrows)), some (.d (.int c)), some (.d (netD names (srt names B))), some (.d (prL F)), none, none]) (set_ok (call1 rfl t1))]
  rw [seq_ok (e' := [some (.d (.lst (ns.map D.int))), some (.d (netD names arrows)), some (.d (.int c)), some (.d (netD names (srt names B))), some (.d (prL F)), some (.d (.lst (C.map tripD))), none]) (set_ok (call1 rfl t2))]
  rw [seq_ok (e' := [some (.d (.lst (ns.map D.int))), some (.d (netD names arrows)), some (.d (.int c)), some (.d (netD names (srt names B))), some (.d (prL F)), some (.d (.lst (C.map tripD))), some (.d (.lst [prL F, .lst (C.map tripD)]))])
    (set_ok (lst2 ((n1_ok (x := prL F) rfl).trans rfl) ((n1_ok (x := .lst (C.map tripD)) rfl).trans rfl)))]
  have nn : mI (m2 dNe (mN dLst [(mV 4), (mV 5)]) (mV 6)) [some (.d (.lst (ns.map D.int))), some (.d (netD names arrows)), some (.d (.int c)), some (.d (netD names (srt names B))), some (.d (prL F)), some (.d (.lst (C.map tripD))), some (.d (.lst [prL F, .lst (C.map tripD)]))] = .ok (.bl false) := by
    unfold mI
    rw [m2_ok (lst2 rfl rfl) rfl (dNe_held F C), bind_ok]; rfl
  have c2 := cOr_ok (cNot_ok (cB_ok (call2 (f := m_l_right_2) (a := wD (mV 3)) (b := wD (m2 dSub (mC (.int 1)) (m2 dMod (mV 2) (mC (.int 2))))) (e := [some (.d (.lst (ns.map D.int))), some (.d (netD names arrows)), some (.d (.int c)), some (.d (netD names (srt names B))), some (.d (prL F)), some (.d (.lst (C.map tripD))), some (.d (.lst [prL F, .lst (C.map tripD)]))]) rfl (wD_ok (m2_ok rfl (q2 _ rfl) rfl)) (right2_ok N2 _)))) fun _ => cB_ok nn
  rw [seq_ok ((if_ff c2).trans rfl)]
  rw [seq_ok (e' := [some (.d (.lst (ns.map D.int))), some (.d (netD names arrows)), some (.d (.int c)), some (.d (netD names (srt names B))), some (.d (.lst [])), some (.d (.lst (C.map tripD))), some (.d (.lst [prL F, .lst (C.map tripD)]))]) rfl]
  rw [seq_ok (e' := [some (.d (.lst (ns.map D.int))), some (.d (netD names arrows)), some (.d (.int c)), some (.d (netD names (srt names B))), some (.d (.lst [])), some (.d (.lst [])), some (.d (.lst [prL F, .lst (C.map tripD)]))]) rfl]
  rw [ret_ok (wD_ok (call2 rfl rfl (right2_ok N 1)))]
  rfl
end Mr
set_option Elab.async false
set_option linter.all false
set_option maxRecDepth 100000
set_option maxHeartbeats 4000000
namespace Mk20
open PySem L2 PyProof.Rows
abbrev cN : Addr := 52
abbrev tN : Addr := 48
instance tabsI : A.Tabs := ⟨[(tN, lamQ "sorted_rows")], fun c => 0⟩
theorem walk {l : PySem.W.OpenLaw} {q : Program} {loose : List Str} {XP : (Str → Option Value) → Heap → Prop} {YP : World → Heap → Prop} {d : DefRec} {K : Params → PySem.W.Frag} (hn : l.most = some 63) (hdf : d.params.defaults = [])
    (hY : ∀ (w : World) (h : Heap), YP w h → (K w.params).In h) (hL : ∀ w : World, noLst (K w.params) = true) (hK : ∀ w : World, (K w.params).lookup tN = none) (hrec : ∃ d, (recsOf q).find? (fun e => e.name == ("sorted_rows" : Str)) = some d) (htab : ∀ w : World, PySem.W.tabIn (K w.params) "sorted_rows" = some (cN, tN))
    (F : ∀ (w : World) (mg : Str → Option Value) (fa : Addr) (h : Heap), (K w.params).In h → h.Ns mainGlobals mg → mg d.name = some (.ref fa) →
      ∃ fd : FuncData, (∀ (s : Shared) (u : Value), BindsTo s fd ⟨[u], []⟩ [("_law_script", u)]) ∧ ∀ base : Heap, (K w.params).In base → base.Ns mainGlobals mg → BM mg base → PySem.W.CodeHd base cN tN → FnOk l.prog w (K w.params) mg base CX0 7 fa fd ["_law_script"] A.spLaw) :
    PySem.W.WalkO q loose XP YP l.row.toRowW d [] (fun f vs => PySem.call f vs) :=
  L2.walk_of2 (x := "_law_script") (dn := "sorted_rows") (qn := lamQ "sorted_rows") (k := 7) rfl hn hdf ⟨rfl, by decide, by decide⟩ hY (fun w a o e c => noLst_of (hL w) e c) hK hrec htab F
theorem txt_mk {K : PySem.W.Frag} {h : Heap} {mg : Str → Option Value} (X : K.In h) (G : h.Ns mainGlobals mg) (z_b_len : PySem.W.nsIn K mainGlobals "len" = some none) (z_b_range : PySem.W.nsIn K mainGlobals "range" = some none) (z_b_max : PySem.W.nsIn K mainGlobals "max" = some none) (z_b_min : PySem.W.nsIn K mainGlobals "min" = some none) (z_b_tuple : PySem.W.nsIn K mainGlobals "tuple" = some none) (z_b_list : PySem.W.nsIn K mainGlobals "list" = some none) (z_b_isinstance : PySem.W.nsIn K mainGlobals "isinstance" = some none) (z_b_all : PySem.W.nsIn K mainGlobals "all" = some none) (z_b_any : PySem.W.nsIn K mainGlobals "any" = some none) (z_b_bool : PySem.W.nsIn K mainGlobals "bool" = some none) (z_b_str : PySem.W.nsIn K mainGlobals "str" = some none) (z_b_int : PySem.W.nsIn K mainGlobals "int" = some none) (z_b_zip : PySem.W.nsIn K mainGlobals "zip" = some none) (z_b_enumerate : PySem.W.nsIn K mainGlobals "enumerate" = some none) (z_b_sorted : PySem.W.nsIn K mainGlobals "sorted" = some none) (z_b_reversed : PySem.W.nsIn K mainGlobals "reversed" = some none) (z_b_set : PySem.W.nsIn K mainGlobals "set" = some none)  : Txt mg :=
  ⟨PySem.W.mg_none_of X G z_b_len, PySem.W.mg_none_of X G z_b_range, PySem.W.mg_none_of X G z_b_max, PySem.W.mg_none_of X G z_b_min, PySem.W.mg_none_of X G z_b_tuple, PySem.W.mg_none_of X G z_b_list, PySem.W.mg_none_of X G z_b_isinstance, PySem.W.mg_none_of X G z_b_all, PySem.W.mg_none_of X G z_b_any, PySem.W.mg_none_of X G z_b_bool, PySem.W.mg_none_of X G z_b_str, PySem.W.mg_none_of X G z_b_int, PySem.W.mg_none_of X G z_b_zip, PySem.W.mg_none_of X G z_b_enumerate, PySem.W.mg_none_of X G z_b_sorted, PySem.W.mg_none_of X G z_b_reversed, PySem.W.mg_none_of X G z_b_set⟩
theorem all_mk {l : PySem.W.OpenLaw} {w : World} {K : PySem.W.Frag} {mg : Str → Option Value} {fa : Addr} (hfa : mg "law" = some (.ref fa)) (T : Txt mg) (F_refuse_strangers : FnD K mg "refuse_strangers" s_refuse_strangers ["names", "asked"]) (F_are_tied : FnD K mg "are_tied" s_are_tied ["net", "one", "other"]) (F_pairs_of : FnD K mg "pairs_of" s_pairs_of ["names"]) (F_ties_of : FnD K mg "ties_of" s_ties_of ["net"]) (F_sorted_rows : FnDC K mg "sorted_rows" s_sorted_rows ["names", "rows"] cN) (F_corners_of : FnD K mg "corners_of" s_corners_of ["net"]) (F_l_cell : FnD K mg "_law_cell" s_l_cell ["_law_script", "_law_k"]) (F_l_words : FnD K mg "_law_words" s_l_words ["_law_cell_here", "_law_many"]) (F_l_ranks : FnD K mg "_law_ranks" s_l_ranks ["_law_cell_here", "_law_many"]) (F_l_net : FnD K mg "_law_net" s_l_net ["_law_script", "_law_most"]) (F_l_flipped : FnD K mg "_law_flipped" s_l_flipped ["_law_arrows", "_law_arrow"]) (F_l_comes_round : FnD K mg "_law_comes_round" s_l_comes_round ["_law_names", "_law_arrows"]) (F_l_spoiled : FnD K mg "_law_spoiled" s_l_spoiled ["_law_names", "_law_arrows", "_law_cell_here"]) (F_l_sorted : FnD K mg "_law_sorted" s_l_sorted ["_law_names", "_law_arrows"]) (F_l_alike : FnD K mg "_law_alike" s_l_alike ["_law_found", "_law_due"]) (F_l_tied : FnD K mg "_law_tied" s_l_tied ["_law_net_here", "_law_one", "_law_other"]) (F_l_ties : FnD K mg "_law_ties" s_l_ties ["_law_net_here"]) (F_l_corners : FnD K mg "_law_corners" s_l_corners ["_law_net_here"]) (F_l_right : FnD K mg "_law_right" s_l_right ["_law_net_here", "_law_way"]) (F_law : FnD K mg "law" s_law ["_law_script"]) :
    ∃ fd : FuncData, (∀ (s : Shared) (u : Value), BindsTo s fd ⟨[u], []⟩ [("_law_script", u)]) ∧ ∀ base : Heap, K.In base → base.Ns mainGlobals mg → BM mg base → PySem.W.CodeHd base cN tN → FnOk l.prog w K mg base CX0 7 fa fd ["_law_script"] A.spLaw :=
  FnD.law2 F_law hfa fun base kb nb hB hC f fd F => by
    have C_refuse_strangers := F_refuse_strangers.cal (P := l.prog) (w := w) (base := base) (CX := CX0) fun f fd F => ok_refuse_strangers F T
    have C_are_tied := F_are_tied.cal (P := l.prog) (w := w) (base := base) (CX := CX0) fun f fd F => ok_are_tied F T C_refuse_strangers
    have C_pairs_of := F_pairs_of.cal (P := l.prog) (w := w) (base := base) (CX := CX0) fun f fd F => ok_pairs_of F T
    have C_ties_of := F_ties_of.cal (P := l.prog) (w := w) (base := base) (CX := CX0) fun f fd F => ok_ties_of F T C_are_tied C_pairs_of
    have C_sorted_rows := F_sorted_rows.cal (P := l.prog) (w := w) (base := base) (CX := CX0) fun f fd F => ok_sorted_rows F T hB hC (List.mem_singleton.mpr rfl)
    have C_corners_of := F_corners_of.cal (P := l.prog) (w := w) (base := base) (CX := CX0) fun f fd F => ok_corners_of F T C_are_tied C_sorted_rows C_pairs_of
    have C_l_cell := F_l_cell.cal (P := l.prog) (w := w) (base := base) (CX := CX0) fun f fd F => ok_l_cell F T
    have C_l_words := F_l_words.cal (P := l.prog) (w := w) (base := base) (CX := CX0) fun f fd F => ok_l_words F T
    have C_l_ranks := F_l_ranks.cal (P := l.prog) (w := w) (base := base) (CX := CX0) fun f fd F => ok_l_ranks F T
    have C_l_net := F_l_net.cal (P := l.prog) (w := w) (base := base) (CX := CX0) fun f fd F => ok_l_net F T C_l_cell C_l_words C_l_ranks
    have C_l_flipped := F_l_flipped.cal (P := l.prog) (w := w) (base := base) (CX := CX0) fun f fd F => ok_l_flipped F T
    have C_l_comes_round := F_l_comes_round.cal (P := l.prog) (w := w) (base := base) (CX := CX0) fun f fd F => ok_l_comes_round F T
    have C_l_spoiled := F_l_spoiled.cal (P := l.prog) (w := w) (base := base) (CX := CX0) fun f fd F => ok_l_spoiled F T C_l_flipped C_l_comes_round
    have C_l_sorted := F_l_sorted.cal (P := l.prog) (w := w) (base := base) (CX := CX0) fun f fd F => ok_l_sorted F T
    have C_l_alike := calR (P := l.prog) (w := w) (base := base) (CX := CX0) F_l_alike fun f fd F self => ok_l_alike F T self
    have C_l_tied := F_l_tied.cal (P := l.prog) (w := w) (base := base) (CX := CX0) fun f fd F => ok_l_tied F T
    have C_l_ties := F_l_ties.cal (P := l.prog) (w := w) (base := base) (CX := CX0) fun f fd F => ok_l_ties F T C_l_tied
    have C_l_corners := F_l_corners.cal (P := l.prog) (w := w) (base := base) (CX := CX0) fun f fd F => ok_l_corners F T C_l_tied
    have C_l_right := F_l_right.cal (P := l.prog) (w := w) (base := base) (CX := CX0) fun f fd F => ok_l_right F T C_ties_of C_corners_of C_l_alike C_l_ties C_l_corners
    exact A.law_of (ok_law F T C_ties_of C_corners_of C_l_cell C_l_net C_l_spoiled C_l_sorted C_l_right) fun ns hl => by first | exact Mr.law_k20_holds ns | exact Mr.law_k20_holds ns hl
end Mk20
open PySem PySem.W PyProof.Rows
set_option maxRecDepth 100000 in
set_option maxHeartbeats 0 in
theorem PySem.Challenge.cw_arrowfind_k20_ties_and_corners_holds : PySem.Challenge.rw_arrowfind_k20_ties_and_corners.Holds := by
  w_on; o_law; k_head; (case hw => w_witness2)
  k_fill
  refine Mk20.walk (l := PySem.Challenge.rw_arrowfind_k20_ties_and_corners) rfl rfl (fun w h Y => PySem.W.km_in_of Y) ?L ?K ⟨_, rfl⟩ ?H ?F
  case L =>
    intro w
    kernel_rfl
  case K =>
    intro w
    kernel_rfl
  case H =>
    intro w
    kernel_rfl
  case F =>
    intro w mg fa h KX G hmg
    refine' Mk20.all_mk hmg ?T ?F_refuse_strangers ?F_are_tied ?F_pairs_of ?F_ties_of ?F_sorted_rows ?F_corners_of ?F_l_cell ?F_l_words ?F_l_ranks ?F_l_net ?F_l_flipped ?F_l_comes_round ?F_l_spoiled ?F_l_sorted ?F_l_alike ?F_l_tied ?F_l_ties ?F_l_corners ?F_l_right ?F_law
    case T =>
      refine' Mk20.txt_mk KX G ?z_b_len ?z_b_range ?z_b_max ?z_b_min ?z_b_tuple ?z_b_list ?z_b_isinstance ?z_b_all ?z_b_any ?z_b_bool ?z_b_str ?z_b_int ?z_b_zip ?z_b_enumerate ?z_b_sorted ?z_b_reversed ?z_b_set
      (case z_b_len => k_is)
      (case z_b_range => k_is)
      (case z_b_max => k_is)
      (case z_b_min => k_is)
      (case z_b_tuple => k_is)
      (case z_b_list => k_is)
      (case z_b_isinstance => k_is)
      (case z_b_all => k_is)
      (case z_b_any => k_is)
      (case z_b_bool => k_is)
      (case z_b_str => k_is)
      (case z_b_int => k_is)
      (case z_b_zip => k_is)
      (case z_b_enumerate => k_is)
      (case z_b_sorted => k_is)
      (case z_b_reversed => k_is)
      (case z_b_set => k_is)
    case F_sorted_rows =>
      refine' L2.fnDC_mk (c := Mk20.cN) KX G (fun _ _ _ _ _ _ us hl => match us, hl with | [_, _], _ => rfl) ?a ?l ?c ?k
      (case a => k_is); (case l => k_is); (case c => k_is); (case k => k_is)
    all_goals
      first
        | (refine' L2.fnD_mk KX G (fun _ _ _ _ _ _ us hl => match us, hl with | [_], _ => rfl) ?a ?l ?c ?k; (case a => k_is); (case l => k_is); (case c => k_is); (case k => k_is))
        | (refine' L2.fnD_mk KX G (fun _ _ _ _ _ _ us hl => match us, hl with | [_, _], _ => rfl) ?a ?l ?c ?k; (case a => k_is); (case l => k_is); (case c => k_is); (case k => k_is))
        | (refine' L2.fnD_mk KX G (fun _ _ _ _ _ _ us hl => match us, hl with | [_, _, _], _ => rfl) ?a ?l ?c ?k; (case a => k_is); (case l => k_is); (case c => k_is); (case k => k_is))
