import PyProof.Rows.All
import Wide.All
import OpenK.AllK
import Wide.FinOn
import Lean
import PyProof.EqAt
import PyProof.EqKinds
import PyProof.TupleCall
import PySem.Str
import PyProof.NeKinds
import PyProof.Draws
import PyProof.EnumMake
import PyProof.ZipIter
import KE.KSortTup
import KE.KLam
import PyProof.Rows.SortStr
import PyProof.Rows.FactsT3
import PyProof.StrOps2
import PyProof.StrLawsRepr
import PyProof.Rows.StrCase
import PySem.Challenge.RW_arrowfind_k06_above_and_below
set_option Elab.async false
set_option linter.all false
set_option maxRecDepth 100000
namespace L2
open PySem PySem.Spec PyProof.Rows
abbrev Key := Sum Int Str
def keyIs : Key → Value → Bool
  | .inl k, v => Value.isInt k v
  | .inr x, v => Value.isStrOf x v
def keyH (w : World) : Key → Int
  | .inl k => hashInt k
  | .inr x => hashStr w x
theorem keyIs_shape : ∀ {k : Key} {v : Value}, keyIs k v = true → (∃ i t, k = Sum.inl i ∧ v = Value.int i t) ∨ (∃ x t, k = Sum.inr x ∧ v = Value.str x t)
  | .inl i, v, h => by
    obtain ⟨t, e⟩ := Value.isInt_shape (k := i) (v := v) h
    exact .inl ⟨i, t, rfl, e⟩
  | .inr x, v, h => by
    obtain ⟨t, e⟩ := Value.isStrOf_shape (x := x) (v := v) h
    exact .inr ⟨x, t, rfl, e⟩
theorem keyIs_int (i : Int) (t : Tok) : keyIs (.inl i) (.int i t) = true := by simp [keyIs, Value.isInt]
theorem keyIs_str (x : Str) (t : Tok) : keyIs (.inr x) (.str x t) = true := by simp [keyIs, Value.isStrOf]
theorem key_ll (a b : Int) : decide ((Sum.inl a : Key) = Sum.inl b) = (a == b) := by
  by_cases e : a = b
  · subst e; simp
  · have h : ¬ (Sum.inl a : Key) = Sum.inl b := fun q => e (Sum.inl.inj q)
    rw [decide_eq_false h]
    exact (beq_eq_false_iff_ne.mpr e).symm
theorem key_rr (a b : Str) : decide ((Sum.inr a : Key) = Sum.inr b) = decide (a = b) := by
  by_cases e : a = b
  · subst e; simp
  · have h : ¬ (Sum.inr a : Key) = Sum.inr b := fun q => e (Sum.inr.inj q)
    rw [decide_eq_false h, decide_eq_false e]
theorem key_lr (a : Int) (b : Str) : decide ((Sum.inl a : Key) = Sum.inr b) = false := decide_eq_false (fun q => nomatch q)
theorem key_rl (a : Str) (b : Int) : decide ((Sum.inr a : Key) = Sum.inl b) = false := decide_eq_false (fun q => nomatch q)
def mixKind (prog : Program) (w : World) : PySem.KeyKind prog w Key where
  is := keyIs
  hash := keyH w
  inj := fun v a b ha hb => by
    rcases keyIs_shape ha with ⟨i, t, rfl, rfl⟩ | ⟨x, t, rfl, rfl⟩
    · rcases keyIs_shape hb with ⟨j, u, rfl, e⟩ | ⟨y, u, rfl, e⟩
      · injection e with e1 _; rw [e1]
      · exact nomatch e
    · rcases keyIs_shape hb with ⟨j, u, rfl, e⟩ | ⟨y, u, rfl, e⟩
      · exact nomatch e
      · injection e with e1 _; rw [e1]
  byValue := fun k v h => by
    rcases keyIs_shape h with ⟨i, t, rfl, rfl⟩ | ⟨x, t, rfl, rfl⟩ <;> rfl
  pyHash := fun hv h => by
    rcases keyIs_shape hv with ⟨i, t, rfl, rfl⟩ | ⟨x, t, rfl, rfl⟩
    · exact wpAny_pyHash_int h
    · exact wpAny_pyHash_str h
  eqBool := fun hu hv h => by
    rcases keyIs_shape hu with ⟨i, t, rfl, rfl⟩ | ⟨x, t, rfl, rfl⟩
    · rcases keyIs_shape hv with ⟨j, u, rfl, rfl⟩ | ⟨y, u, rfl, rfl⟩
      · rw [key_ll] at h; exact wpAny_eqBool_int h
      · rw [key_lr] at h; exact SeqAt.EqAt.int_str i t y u _ _ _ _ h
    · rcases keyIs_shape hv with ⟨j, u, rfl, rfl⟩ | ⟨y, u, rfl, rfl⟩
      · rw [key_rl] at h; exact SeqAt.EqAt.str_int x t j u _ _ _ _ h
      · rw [key_rr] at h; exact wpAny_eqBool_str h
  «strs» := fun k x t v h => by
    rcases keyIs_shape h with ⟨i, u, rfl, e⟩ | ⟨y, u, rfl, e⟩
    · exact nomatch e
    · injection e with e1 _
      subst e1
      cases v <;> rfl
theorem mixKind_int (prog : Program) (w : World) (i : Int) (t : Tok) : (mixKind prog w).is (.inl i) (.int i t) = true := keyIs_int i t
theorem mixKind_str (prog : Program) (w : World) (x : Str) (t : Tok) : (mixKind prog w).is (.inr x) (.str x t) = true := keyIs_str x t
end L2
namespace L2
open PySem PySem.Spec PyProof.Rows
inductive V where
  | non | bl (b : Bool) | int (i : Int) | str (x : Str) | byt (b : Array UInt8) | flt (b : UInt64) | ref (a : Addr) | ty (n : String)
  deriving DecidableEq
def RelV : V → Value → Prop
  | .non, u => u = Value.none
  | .bl b, u => u = Value.bool b
  | .int i, u => ∃ t, u = Value.int i t
  | .str x, u => ∃ t, u = Value.str x t
  | .byt b, u => ∃ t, u = Value.bytes b t
  | .flt b, u => ∃ t, u = Value.float b t
  | .ref a, u => u = Value.ref a
  | .ty n, u => u = Value.type n
abbrev Vals : List V → List Value → Prop := Paired RelV
theorem Vals.length {xs : List V} {us : List Value} (r : Vals xs us) : xs.length = us.length := Paired.length r
theorem Vals.get : ∀ {xs : List V} {us : List Value} {i : Nat} {x : V}, Vals xs us → xs[i]? = some x → ∃ u, us[i]? = some u ∧ RelV x u
  | _, _, _, _, .nil, e => by simp at e
  | _, _, 0, _, .cons r _, e => by simp at e; subst e; exact ⟨_, rfl, r⟩
  | _, _, i + 1, x, .cons _ t, e => by
    obtain ⟨u, h1, h2⟩ := Vals.get (i := i) (x := x) t (by simpa using e)
    exact ⟨u, by simpa using h1, h2⟩
theorem Vals.append : ∀ {xs ys : List V} {us ws : List Value}, Vals xs us → Vals ys ws → Vals (xs ++ ys) (us ++ ws)
  | _, _, _, _, .nil, s => s
  | _, _, _, _, .cons r t, s => .cons r (Vals.append t s)
theorem Vals.take : ∀ {xs : List V} {us : List Value} (n : Nat), Vals xs us → Vals (xs.take n) (us.take n)
  | _, _, 0, _ => .nil
  | _, _, _ + 1, .nil => .nil
  | _, _, n + 1, .cons r t => .cons r (Vals.take n t)
theorem Vals.drop : ∀ {xs : List V} {us : List Value} (n : Nat), Vals xs us → Vals (xs.drop n) (us.drop n)
  | _, _, 0, r => r
  | _, _, _ + 1, .nil => .nil
  | _, _, n + 1, .cons _ t => Vals.drop n t
def RelO : Option V → Option Value → Prop
  | some v, some u => RelV v u
  | none, none => True
  | _, _ => False
def KV {κ : Type} : List (κ × V) → List (κ × Value) → Prop := Paired fun (p : κ × V) (q : κ × Value) => p.1 = q.1 ∧ RelV p.2 q.2
def kV : Key → V
  | .inl i => .int i
  | .inr x => .str x
def TupN (h : Heap) (a : Addr) (its : Array Value) : Prop := ∃ o, h.get? a = some o ∧ o.cls = .type "tuple" ∧ o.dict = none ∧ ∃ n, o.data = .seq its n
theorem TupN.tup {h : Heap} {a : Addr} {its : Array Value} (x : TupN h a its) : IsTup h a its := let ⟨o, e, c, _, d⟩ := x; ⟨o, e, c, d⟩
theorem TupN.new (h : Heap) (its : Array Value) : TupN (h.push { cls := .type "tuple", data := .seq its }) h.objs.size its := ⟨_, Heap.get?_push_size _ rfl, rfl, rfl, _, rfl⟩
inductive HO where
  /-- a list -/
  | lst (xs : List V)
  /-- a tuple (never changes) -/
  | tup (xs : List V)
  /-- a dict whose keys are ints and texts; one whose keys are tuples of ints and texts (the empty one is both) -/
  | dK (kvs : List (Key × V)) | dT (kvs : List (List Key × V))
  /-- a set of ints: its members, its size -/
  | set (S : Int → Bool) (n : Nat)
  /-- an instance of the class at C, its dict at dx, its attributes -/
  | ins (C dx : Addr) (fs : List (Str × V))
  /-- the dict of the instance at x -/
  | own (x : Addr)
  /-- the dict of an exception -/
  | xd (fs : List (Str × V))
  /-- a bound method, f of x -/
  | met (f x : Addr)
  /-- a range object lo, lo + 1, .. below hi -/
  | rng (lo hi : Int)
  /-- a thing that is known to the object (the script; a dict while a loop walks it): read, never written while it is so -/
  | frz (o : Obj) (u : HO)
  /-- a code object's table -/
  | tbl (w : Str) (ps : Array Value)
  /-- any other thing, by what is true of its one object (a def of one's own: SetO a S n := HO.ext fun h => ..) -/
  | ext (φ : Heap → Prop)
abbrev Hp := Addr → Option HO
def upd (H : Hp) (a : Addr) (o : HO) : Hp := fun b => if b = a then some o else H b
theorem upd_same {H : Hp} {a : Addr} {o : HO} : upd H a o a = some o := by unfold upd; rw [if_pos rfl]
theorem upd_ne {H : Hp} {a b : Addr} {o : HO} (h : b ≠ a) : upd H a o b = H b := by unfold upd; rw [if_neg h]
theorem ne_of {H : Hp} {a b : Addr} {o u : HO} (h : H a = some o) (h' : H b = some u) (d : o ≠ u) : a ≠ b := by
  intro e; subst e; rw [h] at h'; exact d (Option.some.inj h')
theorem ne_of_none {H : Hp} {a b : Addr} {o : HO} (h : H a = some o) (h' : H b = none) : a ≠ b := by
  intro e; subst e; rw [h] at h'; cases h'
section
variable (P : Program) (w : World)
def ObjOk (H : Hp) (h : Heap) (a : Addr) : HO → Prop
  | .lst xs => xs.length ≤ sizeLine ∧ ∃ (its : List Value) (n : Nat), Vals xs its ∧ h.get? a = some { cls := .type "list", data := .seq its.toArray n }
  | .tup xs => xs.length ≤ sizeLine ∧ ∃ its : List Value, Vals xs its ∧ TupN h a its.toArray
  | .dK kvs => kvs.length ≤ sizeLine ∧ (a == sysModules) = false ∧ ∃ vs, KV kvs vs ∧ h.DictOf (mixKind P w) a vs
  | .dT kvs => kvs.length ≤ sizeLine ∧ (a == sysModules) = false ∧ ∃ xs : List (List Key × Addr × Value),
      Paired (fun (p : List Key × V) (q : List Key × Addr × Value) => p.1 = q.1 ∧ H q.2.1 = some (.tup (p.1.map kV)) ∧ RelV p.2 q.2.2) kvs xs ∧
      ∃ o es ep, h.get? a = some o ∧ o.ExactDict ∧ o.data = .dict es ep ∧ es.toList = xs.map (entryOfKey (tupleKind (mixKind P w))) ∧ (xs.map (·.1)).Nodup
  | .set S n => h.SetOf (intKind P w) a S n
  | .ins C dx fs => H dx = some (.own a) ∧ fs.length ≤ 1000 ∧ dx ≠ a ∧ h.get? a = some (PySem.W.instObj C dx) ∧
      ∃ mA, h.Ns1 dx mA ∧ (∀ f, RelO (fs.lookup f) (mA f)) ∧ PySem.Within mA (fs.map (·.1))
  | .own _ => ∃ o, h.get? a = some o
  | .xd fs => ∃ mA, h.Ns1 a mA ∧ ∀ f, RelO (fs.lookup f) (mA f)
  | .rng lo hi => ∃ t u v, h.get? a = some { cls := .type "range", data := .fields #[.int lo t, .int hi u, .int 1 v] }
  | .frz o u => h.get? a = some o ∧ ObjOk H h a u
  | .tbl _ ps => h.get? a = some { cls := .none, data := .fields ps }
  | .met f x => h.get? a = some (PySem.W.methodObj (.ref f) (.ref x))
  | .ext φ => φ h ∧ (∃ o, h.get? a = some o) ∧ ∀ h1 h2 : Heap, φ h1 → (∀ o, h1.get? a = some o → h2.get? a = some o) → φ h2
def HOk (H : Hp) (h : Heap) : Prop := ∀ a o, H a = some o → ObjOk P w H h a o
end
section
variable {P : Program} {w : World} {H H' : Hp} {h h' : Heap} {a : Addr} {o : HO}
theorem ObjOk.lt (x : ObjOk P w H h a o) : a < h.objs.size := by
  cases o with
  | lst xs => obtain ⟨_, _, _, _, e⟩ := x; exact Heap.lt_size e
  | tup xs => obtain ⟨_, _, _, p⟩ := x; exact p.tup.lt
  | dK kvs => obtain ⟨_, _, _, _, o, _, _, e, _⟩ := x; exact Heap.lt_size e
  | dT kvs => obtain ⟨_, _, _, _, o, _, _, e, _⟩ := x; exact Heap.lt_size e
  | set S n => obtain ⟨o, _, _, _, e, _⟩ := x; exact Heap.lt_size e
  | ins C dx fs => obtain ⟨_, _, _, e, _⟩ := x; exact Heap.lt_size e
  | own y => obtain ⟨_, e⟩ := x; exact Heap.lt_size e
  | xd fs => obtain ⟨_, ⟨_, _, _, e, _⟩, _⟩ := x; exact Heap.lt_size e
  | rng lo hi => obtain ⟨_, _, _, e⟩ := x; exact Heap.lt_size e
  | frz ob u => obtain ⟨e, _⟩ := x; exact Heap.lt_size e
  | tbl w ps => exact Heap.lt_size (show h.get? a = some _ from x)
  | met f y => exact Heap.lt_size (show h.get? a = some _ from x)
  | ext φ => obtain ⟨_, ⟨_, e⟩, _⟩ := x; exact Heap.lt_size e
theorem Paired.mapP {α β : Type} {F G : α → β → Prop} : ∀ {l₁ : List α} {l₂ : List β}, Paired F l₁ l₂ → (∀ a b, F a b → G a b) → Paired G l₁ l₂
  | _, _, .nil, _ => .nil
  | _, _, .cons r t, f => .cons (f _ _ r) (Paired.mapP t f)
theorem ObjOk.stay (x : ObjOk P w H h a o) (k : ∀ b u, (b = a ∨ H b = some (.own a)) → h.get? b = some u → h'.get? b = some u)
    (ho : ∀ b, H b = some (.own a) → H' b = some (.own a)) (ht : ∀ b xs, H b = some (.tup xs) → H' b = some (.tup xs)) : ObjOk P w H' h' a o := by
  induction o with
  | lst xs => obtain ⟨z, its, n, r, e⟩ := x; exact ⟨z, its, n, r, k _ _ (.inl rfl) e⟩
  | tup xs => obtain ⟨z, its, r, ob, e, c⟩ := x; exact ⟨z, its, r, ob, k _ _ (.inl rfl) e, c⟩
  | dK kvs => obtain ⟨z, y, vs, r, ob, es, ep, e, c⟩ := x; exact ⟨z, y, vs, r, ob, es, ep, k _ _ (.inl rfl) e, c⟩
  | dT kvs =>
    obtain ⟨z, y, xs, r, ob, es, ep, e, c⟩ := x
    exact ⟨z, y, xs, Paired.mapP r fun p q z => ⟨z.1, ht _ _ z.2.1, z.2.2⟩, ob, es, ep, k _ _ (.inl rfl) e, c⟩
  | set S n => obtain ⟨ob, es, ep, t, e, c⟩ := x; exact ⟨ob, es, ep, t, k _ _ (.inl rfl) e, c⟩
  | ins C dx fs =>
    obtain ⟨d, z, ne, e, mA, ⟨od, es, ep, e2, c⟩, r⟩ := x
    exact ⟨ho _ d, z, ne, k _ _ (.inl rfl) e, mA, ⟨od, es, ep, k _ _ (.inr d) e2, c⟩, r⟩
  | own y => obtain ⟨ob, e⟩ := x; exact ⟨ob, k _ _ (.inl rfl) e⟩
  | xd fs => obtain ⟨mA, ⟨od, es, ep, e, c⟩, r⟩ := x; exact ⟨mA, ⟨od, es, ep, k _ _ (.inl rfl) e, c⟩, r⟩
  | rng lo hi => obtain ⟨t, u, v, e⟩ := x; exact ⟨t, u, v, k _ _ (.inl rfl) e⟩
  | frz ob u ih => obtain ⟨e, q⟩ := x; exact ⟨k _ _ (.inl rfl) e, ih q⟩
  | tbl w ps =>
    have e : h.get? a = some { cls := .none, data := .fields ps } := x
    show h'.get? a = some { cls := .none, data := .fields ps }
    exact k a _ (.inl rfl) e
  | met f y =>
    have e : h.get? a = some (PySem.W.methodObj (.ref f) (.ref y)) := x
    show h'.get? a = some (PySem.W.methodObj (.ref f) (.ref y))
    exact k a _ (.inl rfl) e
  | ext φ => obtain ⟨p, ⟨o, e⟩, st⟩ := x; exact ⟨st _ _ p fun o q => k _ _ (.inl rfl) q, ⟨o, k _ _ (.inl rfl) e⟩, st⟩
theorem HOk.lt (x : HOk P w H h) (e : H a = some o) : a < h.objs.size := (x a o e).lt
theorem HOk.fresh (x : HOk P w H h) (e : h.objs.size ≤ a) : H a = none := by
  cases q : H a with
  | none => rfl
  | some u => exact absurd (Nat.lt_of_lt_of_le (x.lt q) e) (Nat.lt_irrefl _)
theorem HOk.kept (x : HOk P w H h) (k : ∀ b u, h.get? b = some u → h'.get? b = some u) : HOk P w H h' := fun a o e =>
  (x a o e).stay (fun b u _ q => k b u q) (fun _ q => q) fun _ _ q => q
theorem HOk.laid (x : HOk P w H h) (k : ∀ b u, h.get? b = some u → h'.get? b = some u) (hp : h.objs.size ≤ a) (new : ObjOk P w (upd H a o) h' a o) : HOk P w (upd H a o) h' := fun b u e => by
  have hn := x.fresh hp
  by_cases hb : b = a
  · subst hb; rw [upd_same] at e; cases e; exact new
  · rw [upd_ne hb] at e
    exact (x b u e).stay (fun c v _ q => k c v q) (fun c q => by rw [upd_ne (ne_of_none q hn)]; exact q) fun c xs q => by rw [upd_ne (ne_of_none q hn)]; exact q
end
def Rd (H : Hp) (a : Addr) (u : HO) : Prop := H a = some u ∨ ∃ o, H a = some (.frz o u)
theorem Rd.ok {P : Program} {w : World} {H : Hp} {h : Heap} {a : Addr} {u : HO} (r : Rd H a u) (x : HOk P w H h) : ObjOk P w H h a u := by
  rcases r with r | ⟨o, r⟩
  · exact x a u r
  · obtain ⟨_, q⟩ := x a _ r
    exact q
def Mut : Option HO → Prop
  | some (.lst _) => True
  | some (.dK _) => True
  | some (.dT _) => True
  | some (.set _ _) => True
  | some (.ins _ _ _) => True
  | some (.ext _) => True
  | _ => False
section
variable {P : Program} {w : World} {H : Hp} {h h' : Heap} {x e : Addr} {o' : HO}
theorem HOk.write (ok : HOk P w H h) (mu : Mut (H x)) (he : e = x ∨ H e = some (.own x)) (k : ∀ b u, b ≠ e → h.get? b = some u → h'.get? b = some u) (heo : ∃ u, h'.get? e = some u)
    (new : ObjOk P w (upd H x o') h' x o') : HOk P w (upd H x o') h' := fun b u q => by
  have nown : ∀ c y, H c = some (.own y) → c ≠ x := fun c y r z => by subst z; rw [r] at mu; exact mu
  have ntup : ∀ c xs, H c = some (.tup xs) → c ≠ x := fun c xs r z => by subst z; rw [r] at mu; exact mu
  by_cases hb : b = x
  · subst hb; rw [upd_same] at q; cases q; exact new
  · rw [upd_ne hb] at q
    by_cases hbe : b = e
    · have q' : H b = some (.own x) := by
        rcases he with z | z
        · exact absurd (hbe.trans z) hb
        · rw [hbe]; exact z
      rw [q] at q'; cases q'
      obtain ⟨v, hv⟩ := heo
      exact ⟨v, by rw [hbe]; exact hv⟩
    · refine (ok b u q).stay (fun c v hc r => k c v ?_ r) (fun c r => by rw [upd_ne (nown c b r)]; exact r) fun c xs r => by rw [upd_ne (ntup c xs r)]; exact r
      rcases hc with rfl | hc
      · exact hbe
      · rintro rfl
        rcases he with z | z
        · exact nown c b hc z
        · rw [hc] at z; cases z; exact hb rfl
end
structure Un (fs ex : List Addr) (H H' : Hp) (h h' : Heap) : Prop where
  keep : ∀ b o, h.get? b = some o → H b = none → b ∉ fs → b ∉ ex → h'.get? b = some o
  slot : ∀ b o, h.get? b = some o → H b = none → b ∈ fs → b ∉ ex → ∃ sl, h'.get? b = some { o with slots := sl }
  free : ∀ b o, h.get? b = some o → H b = none → b ∉ ex → H' b = none
  there : ∀ b o, h.get? b = some o → b ∉ ex → ∃ o', h'.get? b = some o'
  tups : ∀ b xs, H b = some (.tup xs) → H' b = some (.tup xs)
  frzs : ∀ b o u, H b = some (.frz o u) → H' b = some (.frz o u)
  tbls : ∀ b w ps, H b = some (.tbl w ps) → ∃ more, H' b = some (.tbl w (ps ++ more))
section
variable {fs fs' ex ex' : List Addr} {H H1 H2 : Hp} {h h1 h2 h' : Heap} {a x e : Addr} {o : HO}
theorem Un.any (u : Un fs ex H H1 h h1) {b : Addr} {ob : Obj} (q : h.get? b = some ob) (n : H b = none) (hx : b ∉ ex) : ∃ sl, h1.get? b = some { ob with slots := sl } := by
  by_cases hb : b ∈ fs
  · exact u.slot b ob q n hb hx
  · exact ⟨ob.slots, u.keep b ob q n hb hx⟩
theorem Un.kept (k : ∀ b u, h.get? b = some u → h'.get? b = some u) : Un fs ex H H h h' :=
  ⟨fun b ob q _ _ _ => k b ob q, fun b ob q _ _ _ => ⟨ob.slots, k b ob q⟩, fun _ _ _ n _ => n, fun b ob q _ => ⟨ob, k b ob q⟩, fun _ _ q => q, fun _ _ _ q => q, fun _ w ps q => ⟨#[], by rw [q]; simp⟩⟩
theorem Un.refl : Un fs ex H H h h := Un.kept fun _ _ q => q
theorem Un.laid (k : ∀ b u, h.get? b = some u → h'.get? b = some u) (hp : h.objs.size ≤ a) (hn : H a = none) : Un fs ex H (upd H a o) h h' where
  keep := fun b u q _ _ _ => k b u q
  slot := fun b u q _ _ _ => ⟨u.slots, k b u q⟩
  free := fun b u q n _ => by rw [upd_ne (Nat.ne_of_lt (Nat.lt_of_lt_of_le (Heap.lt_size q) hp))]; exact n
  there := fun b u q _ => ⟨u, k b u q⟩
  tups := fun b xs q => by rw [upd_ne (ne_of_none q hn)]; exact q
  frzs := fun b u xs q => by rw [upd_ne (ne_of_none q hn)]; exact q
  tbls := fun b w ps q => ⟨#[], by rw [upd_ne (ne_of_none q hn), q]; simp⟩
theorem Un.write (mu : Mut (H x)) (he : e = x ∨ H e = some (.own x)) (k : ∀ b u, b ≠ e → h.get? b = some u → h'.get? b = some u) (heo : ∃ u, h'.get? e = some u) : Un fs ex H (upd H x o) h h' := by
  have hx : ∀ b, H b = none → b ≠ x := fun b n z => by subst z; rw [n] at mu; exact mu
  have hb : ∀ b, H b = none → b ≠ e := fun b n z => by
    subst z
    rcases he with r | r
    · exact hx b n r
    · rw [n] at r; cases r
  have hm : ∀ b u, H b = some u → ¬ Mut (some u) → b ≠ x := fun b u q nm z => by subst z; rw [q] at mu; exact nm mu
  refine ⟨fun b u q n _ _ => k b u (hb b n) q, fun b u q n _ _ => ⟨u.slots, k b u (hb b n) q⟩, fun b u q n _ => by rw [upd_ne (hx b n)]; exact n, fun b u q _ => ?_,
    fun b xs q => by rw [upd_ne (hm b _ q fun z => z)]; exact q, fun b u xs q => by rw [upd_ne (hm b _ q fun z => z)]; exact q, fun b w ps q => ⟨#[], by rw [upd_ne (hm b _ q fun z => z), q]; simp⟩⟩
  by_cases hbe : b = e
  · subst hbe; exact heo
  · exact ⟨u, k b u hbe q⟩
end
def trk (h : Heap) (H : Hp) : List Addr := (List.range h.objs.size).filter fun a => (H a).isSome
def hidT (h : Heap) (H : Hp) : Heap := PySem.W.hideAll h (trk h H)
theorem hidT_size (h : Heap) (H : Hp) : (hidT h H).objs.size = h.objs.size := PySem.W.hideAll_size _ _
theorem hidT_get {h : Heap} {H : Hp} {b : Addr} {o : Obj} (e : h.get? b = some o) (n : H b = none) : (hidT h H).get? b = some o :=
  PySem.W.hideAll_get _ e fun hm => by
    have q : (H b).isSome = true := (List.mem_filter.mp hm).2
    rw [n] at q; simp at q
theorem of_hidT {h : Heap} {H : Hp} {b : Addr} {o : Obj} (e : (hidT h H).get? b = some o) : h.get? b = some o ∧ H b = none := by
  have e' : h.get? b = some o := PySem.W.of_hideAll (trk h H) e
  refine ⟨e', ?_⟩
  cases q : H b with
  | none => rfl
  | some x =>
    have hm : b ∈ trk h H := List.mem_filter.mpr ⟨List.mem_range.mpr (Heap.lt_size e'), by simp [q]⟩
    have z : (hidT h H).get? b = none := PySem.W.hideAll_none (trk h H) hm
    rw [z] at e; cases e
end L2
namespace L2
open PySem PySem.Spec PyProof.Rows
structure Mod (K : PySem.W.Frag) (mg : Str → Option Value) (base : Heap) : Prop where
  kin : K.In base
  glob : base.Ns mainGlobals mg
  blt : ∃ mb, base.Ns builtinsNs mb ∧ ∀ x : Str, x ≠ "__name__" → mb x = bootBuiltins x
  nolimit : base.NoLimit
structure Cx where
  prog : Program
  w : World
  K : PySem.W.Frag
  mg : Str → Option Value
  base : Heap
  A : Around
  N : List Str
  s₀ : Shared
  H₀ : Hp
  env : Env
  outer : List Env
  stack : List Env
  ex : List Addr
  fn : Str → Bool
  calm : Bool
  pn : List (Addr × Obj)
  xe : Value → Shared → Prop
def frs (l : List Env) : List Addr := l.filterMap (·.frame)
abbrev Cx.fs (X : Cx) : List Addr := frs X.outer
def Vis (sc : Scope) (x : Str) : Prop := sc.names.lookup x = some .local ∨ sc.names.lookup x = some .cell ∨ sc.names.lookup x = some .free
def Loc (sc : Scope) (x : Str) : Prop := sc.names.lookup x = some .local ∨ sc.names.lookup x = some .cell
def Look (env : Env) (h : Heap) (m : Str → Option Value) (x : Str) (u : Value) : Prop :=
  (env.kindOf x = some .local ∧ m x = some u) ∨ ((env.kindOf x = some .cell ∨ env.kindOf x = some .free) ∧ ∃ c, env.cells.lookup x = some c ∧ h.IsCell c (some u))
structure Cx.Ok (X : Cx) : Prop where
  mod : Mod X.K X.mg X.base
  kind : X.env.scope.kind = .function
  glob : X.env.globals = mainGlobals
  blt : X.env.builtins = builtinsNs
  above : X.s₀.heap.objs.size ≤ X.env.locals
  inj : ∀ x y c, X.env.cells.lookup x = some c → X.env.cells.lookup y = some c → x = y
  has : ∀ x, (X.env.kindOf x = some .cell ∨ X.env.kindOf x = some .free) → ∃ c, X.env.cells.lookup x = some c
  cab : ∀ x c, X.fn x = true → X.env.cells.lookup x = some c → X.s₀.heap.objs.size ≤ c
  hd : X.calm = true → X.A.handled = none
  frames : X.A.frames = some X.stack
  stk : X.stack = X.outer ∨ (X.stack = X.env :: X.outer ∧ X.env.frame = some X.env.locals)
  exf : ∀ b ∈ X.ex, b ≠ X.env.locals ∧ ∀ x c, X.env.cells.lookup x = some c → c ≠ b
  bs : ∀ b o, X.base.get? b = some o → X.s₀.heap.get? b = some o ∧ X.H₀ b = none
  bsz : X.base.objs.size ≤ X.s₀.heap.objs.size
  noex : ∀ b o, X.base.get? b = some o → b ∉ X.ex
  exfs : ∀ b ∈ X.ex, b ∉ X.fs
  funs : X.s₀.heap.FunFrames X.base X.outer
  frf : ∀ b ∈ X.fs, X.H₀ b = none
structure Inv (X : Cx) (pins : List (Addr × Obj)) (σ : List (Option V)) (H : Hp) (s : Shared) : Prop where
  ok : X.Ok
  os : s.os = X.s₀.os
  bare : AllBare s.gens
  base : Un X.fs X.ex X.H₀ H X.s₀.heap s.heap
  loc : ∃ m, s.heap.Ns X.env.locals m ∧ ∀ (i : Nat) (x : Str) (v : V), X.N[i]? = some x → σ[i]? = some (some v) → Vis X.env.scope x → ∃ u, RelV v u ∧ Look X.env s.heap m x u
  cell : ∀ x c, X.env.cells.lookup x = some c → ∃ v, s.heap.IsCell c v
  free : H X.env.locals = none
  freeC : ∀ x c, X.env.cells.lookup x = some c → H c = none
  pin : ∀ p ∈ X.pn ++ pins, s.heap.get? p.1 = some p.2 ∧ H p.1 = none ∧ p.1 ≠ X.env.locals ∧ p.1 ∉ X.fs ∧ ∀ v, p.2.data ≠ .cell v
  hok : HOk X.prog X.w H s.heap
  len : σ.length = X.N.length
section
variable {X : Cx} {pins : List (Addr × Obj)} {σ : List (Option V)} {H H' : Hp} {s : Shared} {h' : Heap}
theorem Cx.Ok.nofr (ok : X.Ok) {b : Addr} {o : Obj} (e : X.base.get? b = some o) : b ∉ X.fs := fun hb => by
  have := (ok.funs.mem hb).1
  rw [e] at this; cases this
theorem Inv.bs (I : Inv X pins σ H s) : ∀ b o, X.base.get? b = some o → s.heap.get? b = some o ∧ H b = none := fun b o e =>
  ⟨I.base.keep b o (I.ok.bs b o e).1 (I.ok.bs b o e).2 (I.ok.nofr e) (I.ok.noex b o e), I.base.free b o (I.ok.bs b o e).1 (I.ok.bs b o e).2 (I.ok.noex b o e)⟩
theorem Inv.bk (I : Inv X pins σ H s) : ∀ b o, X.base.get? b = some o → s.heap.get? b = some o := fun b o e => (I.bs b o e).1
theorem Inv.mod (I : Inv X pins σ H s) : Mod X.K X.mg X.base := I.ok.mod
theorem Inv.kIn (I : Inv X pins σ H s) : X.K.In s.heap := I.ok.mod.kin.keeps I.bk
theorem Inv.lt (I : Inv X pins σ H s) : X.env.locals < s.heap.objs.size := let ⟨_, hn, _⟩ := I.loc; hn.lt
theorem Inv.sz (I : Inv X pins σ H s) : X.s₀.heap.objs.size ≤ s.heap.objs.size := Nat.le_trans I.ok.above (Nat.le_of_lt I.lt)
theorem Inv.nofs (I : Inv X pins σ H s) {a : Addr} (h : s.heap.objs.size ≤ a) : a ∉ X.fs := fun hb => by
  obtain ⟨_, o, ho, _⟩ := I.ok.funs.mem hb
  exact absurd (Nat.lt_of_lt_of_le (Heap.lt_size ho) (Nat.le_trans I.sz h)) (Nat.lt_irrefl _)
theorem Inv.cne (I : Inv X pins σ H s) : ∀ x c, X.env.cells.lookup x = some c → c ≠ X.env.locals := fun x c e z => by
  obtain ⟨v, o, ho, hd⟩ := I.cell x c e
  obtain ⟨m, ⟨o', es, ep, ho', hd', _⟩, _⟩ := I.loc
  rw [z, ho'] at ho; cases ho; rw [hd'] at hd; cases hd
theorem Inv.funs (I : Inv X pins σ H s) : s.heap.FunFrames X.base X.outer := by
  have all : ∀ (l : List Env), (∀ b ∈ frs l, b ∈ X.fs) → X.s₀.heap.FunFrames X.base l → s.heap.FunFrames X.base l := by
    intro l
    induction l with
    | nil => intro _ _; trivial
    | cons env r ih =>
      intro hs hl
      obtain ⟨hk, ⟨L, o, hf, hn, ho, hd⟩, hr⟩ := hl
      have hL : L ∈ X.fs := hs L (by unfold frs; rw [List.filterMap_cons, hf]; exact List.mem_cons_self)
      obtain ⟨sl, e⟩ := I.base.slot L o ho (I.ok.frf L hL) hL fun z => I.ok.exfs L z hL
      exact ⟨hk, ⟨L, _, hf, hn, e, hd⟩, ih (fun b hb => hs b (by unfold frs; rw [List.filterMap_cons, hf]; exact List.mem_cons_of_mem _ hb)) hr⟩
  exact all X.outer (fun _ hb => hb) I.ok.funs
theorem Inv.stack (I : Inv X pins σ H s) : s.heap.FunFrames X.base X.stack := by
  rcases I.ok.stk with e | ⟨e, hf⟩
  · rw [e]; exact I.funs
  · rw [e]
    obtain ⟨m, hn, _⟩ := I.loc
    refine .cons (by rw [I.ok.kind]; decide) hf hn ?_ I.funs
    exact Heap.get?_none_of_le (Nat.le_trans I.ok.bsz I.ok.above)
theorem Inv.stkSub (I : Inv X pins σ H s) : ∀ b ∈ frs X.stack, b ∈ X.env.locals :: X.fs := fun b hb => by
  rcases I.ok.stk with e | ⟨e, hf⟩
  · rw [e] at hb; exact List.mem_cons_of_mem _ hb
  · rw [e] at hb
    unfold frs at hb
    rw [List.filterMap_cons, hf] at hb
    exact hb
theorem Inv.stkFree (I : Inv X pins σ H s) : ∀ b ∈ frs X.stack, H b = none := fun b hb => by
  rcases List.mem_cons.mp (I.stkSub b hb) with e | hb
  · rw [e]; exact I.free
  · obtain ⟨_, o, ho, _⟩ := I.ok.funs.mem hb
    exact I.base.free b o ho (I.ok.frf b hb) fun z => I.ok.exfs b z hb
theorem Inv.step {g' : Array GenState} {t' : Nat} {d' : Drawn} {ch : List Addr} (I : Inv X pins σ H s)
    (hch : ∀ b ∈ ch, (b ∈ X.ex ∨ X.s₀.heap.objs.size ≤ b) ∧ b ≠ X.env.locals ∧ (∀ x c, X.env.cells.lookup x = some c → c ≠ b) ∧ ∀ p ∈ X.pn ++ pins, p.1 ≠ b)
    (keep : ∀ b o, b ≠ X.env.locals → b ∉ X.fs → b ∉ ch → s.heap.get? b = some o → H b = none → h'.get? b = some o)
    (slot : ∀ b o, b ≠ X.env.locals → b ∈ X.fs → b ∉ ch → s.heap.get? b = some o → H b = none → ∃ sl, h'.get? b = some { o with slots := sl }) (free : ∀ b o, b ∉ ch → s.heap.get? b = some o → H b = none → H' b = none)
    (there : ∀ b o, b ∉ ch → s.heap.get? b = some o → ∃ o', h'.get? b = some o')
    (tups : ∀ b xs, H b = some (.tup xs) → H' b = some (.tup xs)) (frzs : ∀ b o u, H b = some (.frz o u) → H' b = some (.frz o u)) (tbls : ∀ b w ps, H b = some (.tbl w ps) → ∃ more, H' b = some (.tbl w (ps ++ more)))
    (ns : ∀ m, s.heap.Ns X.env.locals m → h'.Ns X.env.locals m) (hok : HOk X.prog X.w H' h') (hg : AllBare g') :
    Inv X pins σ H' { s with heap := h', gens := g', drawn := d', toks := t' } := by
  have neL : ∀ b o, X.s₀.heap.get? b = some o → b ≠ X.env.locals := fun b o e => Nat.ne_of_lt (Nat.lt_of_lt_of_le (Heap.lt_size e) I.ok.above)
  have neC : ∀ b o, X.s₀.heap.get? b = some o → b ∉ X.ex → b ∉ ch := fun b o e hx hb => by
    rcases (hch b hb).1 with z | z
    · exact hx z
    · exact absurd (Nat.lt_of_lt_of_le (Heap.lt_size e) z) (Nat.lt_irrefl _)
  have cellK : ∀ x c, X.env.cells.lookup x = some c → ∀ v, s.heap.IsCell c v → h'.IsCell c v := fun x c e v ⟨o, ho, hd⟩ => by
    have nch : c ∉ ch := fun z => (hch c z).2.2.1 x c e rfl
    by_cases hc : c ∈ X.fs
    · obtain ⟨sl, q⟩ := slot c o (I.cne x c e) hc nch ho (I.freeC x c e)
      exact ⟨_, q, hd⟩
    · exact ⟨o, keep c o (I.cne x c e) hc nch ho (I.freeC x c e), hd⟩
  refine ⟨I.ok, I.os, hg, ⟨fun b o e n hb hx => ?_, fun b o e n hb hx => ?_, fun b o e n hx => ?_, fun b o e hx => ?_, fun b xs e => tups b xs (I.base.tups b xs e), fun b o xs e => frzs b o xs (I.base.frzs b o xs e), fun b w ps e => ?_⟩, ?_, fun x c e => ?_, ?_, fun x c e => ?_, fun p hp => ?_, hok, I.len⟩
  · exact keep b o (neL b o e) hb (neC b o e hx) (I.base.keep b o e n hb hx) (I.base.free b o e n hx)
  · obtain ⟨sl, e1⟩ := I.base.slot b o e n hb hx
    obtain ⟨sl', e2⟩ := slot b _ (neL b o e) hb (neC b o e hx) e1 (I.base.free b o e n hx)
    exact ⟨sl', e2⟩
  · obtain ⟨o', e1⟩ := I.base.there b o e hx
    exact free b o' (neC b o e hx) e1 (I.base.free b o e n hx)
  · obtain ⟨o', e1⟩ := I.base.there b o e hx
    exact there b o' (neC b o e hx) e1
  · obtain ⟨m1, e1⟩ := I.base.tbls b w ps e
    obtain ⟨m2, e2⟩ := tbls b w _ e1
    exact ⟨m1 ++ m2, by rw [e2, Array.append_assoc]⟩
  · obtain ⟨m, hn, hl⟩ := I.loc
    refine ⟨m, ns m hn, fun i x v e1 e2 e3 => ?_⟩
    obtain ⟨u, r, l⟩ := hl i x v e1 e2 e3
    refine ⟨u, r, ?_⟩
    rcases l with l | ⟨k, c, e, z⟩
    · exact .inl l
    · exact .inr ⟨k, c, e, cellK x c e _ z⟩
  · obtain ⟨v, z⟩ := I.cell x c e
    exact ⟨v, cellK x c e v z⟩
  · obtain ⟨m, ⟨o, _, _, ho, _⟩, _⟩ := I.loc
    exact free _ o (fun z => (hch _ z).2.1 rfl) ho I.free
  · obtain ⟨v, o, ho, hd⟩ := I.cell x c e
    exact free c o (fun z => (hch c z).2.2.1 x c e rfl) ho (I.freeC x c e)
  · obtain ⟨e, n, ne, nf, d⟩ := I.pin p hp
    have nch : p.1 ∉ ch := fun z => (hch p.1 z).2.2.2 p hp rfl
    exact ⟨keep p.1 p.2 ne nf nch e n, free p.1 p.2 nch e n, ne, nf, d⟩
theorem Inv.un {t' : Nat} (I : Inv X pins σ H s) (u : Un X.fs [] H H' s.heap h') (hok : HOk X.prog X.w H' h') : Inv X pins σ H' { s with heap := h', toks := t' } := by
  obtain ⟨m, ⟨o, es, ep, ho, r⟩, _⟩ := id I.loc
  obtain ⟨sl, hL⟩ := u.any ho I.free (by simp)
  exact I.step (g' := s.gens) (d' := s.drawn) (ch := []) (fun _ z => nomatch z) (fun b o _ hb _ e n => u.keep b o e n hb (by simp)) (fun b o _ hb _ e n => u.slot b o e n hb (by simp)) (fun b o _ e n => u.free b o e n (by simp)) (fun b o _ e => u.there b o e (by simp)) u.tups u.frzs u.tbls (fun m' hm => by
    obtain ⟨o', es', ep', ho', r'⟩ := hm
    rw [ho] at ho'; cases ho'
    exact ⟨_, es', ep', hL, r'⟩) hok I.bare
theorem Inv.call {g' : Array GenState} {t' : Nat} {d' : Drawn} {ch : List Addr} (I : Inv X pins σ H s) (u : Un (frs X.stack) ch H H' s.heap h') (hok : HOk X.prog X.w H' h') (hg : AllBare g')
    (hch : ∀ b ∈ ch, (b ∈ X.ex ∨ X.s₀.heap.objs.size ≤ b) ∧ b ≠ X.env.locals ∧ (∀ x c, X.env.cells.lookup x = some c → c ≠ b) ∧ ∀ p ∈ X.pn ++ pins, p.1 ≠ b) :
    Inv X pins σ H' { s with heap := h', gens := g', drawn := d', toks := t' } := by
  obtain ⟨m, ⟨o, es, ep, ho, r⟩, _⟩ := id I.loc
  obtain ⟨sl, hL⟩ := u.any ho I.free fun z => (hch _ z).2.1 rfl
  exact I.step (ch := ch) hch (fun b o hL hb hc e n => u.keep b o e n (fun z => (List.mem_cons.mp (I.stkSub b z)).elim hL hb) hc) (fun b o _ _ hc e n => u.any e n hc) (fun b o hc e n => u.free b o e n hc) (fun b o hc e => u.there b o e hc) u.tups u.frzs u.tbls (fun m' hm => by
    obtain ⟨o', es', ep', ho', r'⟩ := hm
    rw [ho] at ho'; cases ho'
    exact ⟨_, es', ep', hL, r'⟩) hok hg
theorem Inv.turned {t' : Nat} {it : Addr} (I : Inv X pins σ H s) (k : ∀ b o, b ≠ it → s.heap.get? b = some o → h'.get? b = some o) (hn : H it = none) (hL : it ≠ X.env.locals)
    (h1 : it ∈ X.ex ∨ X.s₀.heap.objs.size ≤ it) (h2 : ∀ x c, X.env.cells.lookup x = some c → c ≠ it) (h3 : ∀ p ∈ X.pn ++ pins, p.1 ≠ it) : Inv X pins σ H { s with heap := h', toks := t' } := by
  have nit : ∀ b u, H b = some u → b ≠ it := fun b u e z => by rw [z, hn] at e; cases e
  refine I.step (g' := s.gens) (d' := s.drawn) (ch := [it]) (fun b hb => ?_) (fun b o _ _ hc e _ => k b o (fun z => hc (by simp [z])) e) (fun b o _ _ hc e _ => ⟨o.slots, k b o (fun z => hc (by simp [z])) e⟩) (fun _ _ _ _ n => n)
    (fun b o hc e => ⟨o, k b o (fun z => hc (by simp [z])) e⟩) (fun _ _ e => e) (fun _ _ _ e => e) (fun b w ps e => ⟨#[], by rw [e]; simp⟩) (fun m hm => ?_) (fun b u e => ?_) I.bare
  · have e : b = it := by simpa using hb
    subst e
    exact ⟨h1, hL, h2, h3⟩
  · obtain ⟨o, es, ep, ho, r⟩ := hm
    exact ⟨o, es, ep, k _ o (Ne.symm hL) ho, r⟩
  · refine (I.hok b u e).stay (fun c v hc q => k c v ?_ q) (fun _ q => q) fun _ _ q => q
    rcases hc with z | z
    · rw [z]; exact nit b u e
    · exact nit c _ z
theorem Inv.tok (I : Inv X pins σ H s) (t : Nat) : Inv X pins σ H { s with toks := t } := I.un (h' := s.heap) (t' := t) Un.refl I.hok
theorem Inv.kept {t' : Nat} (I : Inv X pins σ H s) (k : ∀ b u, s.heap.get? b = some u → h'.get? b = some u) : Inv X pins σ H { s with heap := h', toks := t' } := I.un (Un.kept k) (I.hok.kept k)
theorem Inv.laid {a : Addr} {o : HO} {t' : Nat} (I : Inv X pins σ H s) (k : ∀ b u, s.heap.get? b = some u → h'.get? b = some u) (hp : s.heap.objs.size ≤ a) (new : ObjOk X.prog X.w (upd H a o) h' a o) :
    Inv X pins σ (upd H a o) { s with heap := h', toks := t' } := I.un (Un.laid k hp (I.hok.fresh hp)) (I.hok.laid k hp new)
theorem Inv.write {x e : Addr} {o : HO} {t' : Nat} (I : Inv X pins σ H s) (mu : Mut (H x)) (he : e = x ∨ H e = some (.own x)) (k : ∀ b u, b ≠ e → s.heap.get? b = some u → h'.get? b = some u) (heo : ∃ u, h'.get? e = some u)
    (new : ObjOk X.prog X.w (upd H x o) h' x o) : Inv X pins σ (upd H x o) { s with heap := h', toks := t' } := I.un (Un.write mu he k heo) (I.hok.write mu he k heo new)
theorem Inv.weak {σ' : List (Option V)} (I : Inv X pins σ H s) (hl : σ'.length = σ.length) (w : ∀ (i : Nat) v, σ'[i]? = some (some v) → σ[i]? = some (some v)) : Inv X pins σ' H s :=
  ⟨I.ok, I.os, I.bare, I.base, let ⟨m, hn, hl'⟩ := I.loc; ⟨m, hn, fun i x v e1 e2 e3 => hl' i x v e1 (w i v e2) e3⟩, I.cell, I.free, I.freeC, I.pin, I.hok, hl.trans I.len⟩
theorem Inv.pins_of {pins' : List (Addr × Obj)} (I : Inv X pins σ H s) (h : ∀ p ∈ pins', s.heap.get? p.1 = some p.2 ∧ H p.1 = none ∧ p.1 ≠ X.env.locals ∧ p.1 ∉ X.fs ∧ ∀ v, p.2.data ≠ .cell v) : Inv X pins' σ H s :=
  ⟨I.ok, I.os, I.bare, I.base, I.loc, I.cell, I.free, I.freeC, fun p hp => (List.mem_append.mp hp).elim (fun z => I.pin p (List.mem_append_left _ z)) (h p), I.hok, I.len⟩
theorem nodup_ix {N : List Str} (hN : N.Nodup) {i j : Nat} {x : Str} (a : N[i]? = some x) (b : N[j]? = some x) : i = j := by
  obtain ⟨h1, e1⟩ := List.getElem?_eq_some_iff.mp a
  obtain ⟨h2, e2⟩ := List.getElem?_eq_some_iff.mp b
  exact (List.getElem_inj hN).mp (e1.trans e2.symm)
theorem store_ok2 {M : Model} {A : Around} {E : Value → Shared → Prop} {i : Nat} {x : Str} {v : V} {u : Value} {Q : Unit → Shared → Prop} (I : Inv X pins σ H s) (hN : X.N.Nodup) (hi : X.N[i]? = some x) (hx : Loc X.env.scope x) (r : RelV v u)
    (h : ∀ s', Inv X pins (σ.set i (some v)) H s' → (∃ a, Heap.SameBut a s.heap s'.heap ∧ (a = X.env.locals ∨ X.env.cells.lookup x = some a)) → Q () s') (hf : X.fn x = true ∨ X.env.scope.names.lookup x = some .local := by first | exact .inl rfl | exact .inr rfl | assumption) : wpAny M A (storeName X.env x u) Q E s := by
  obtain ⟨m, hn, hl⟩ := id I.loc
  have hcls : (X.env.scope.kind == .class || (X.env.scope.kind == .module && X.env.locals != X.env.globals)) = false := by rw [I.ok.kind]; rfl
  have hiσ : i < σ.length := by rw [I.len]; exact (List.getElem?_eq_some_iff.mp hi).1
  have cne := I.cne
  have tracked : ∀ {a : Addr} {h' : Heap}, (∃ o, s.heap.get? a = some o ∧ H a = none) → Heap.SameBut a s.heap h' → HOk X.prog X.w H h' := fun {a h'} ha hs b ob e => by
    obtain ⟨_, _, hfree⟩ := ha
    refine (I.hok b ob e).stay (fun c w' hc q => (hs.2 c ?_).trans q) (fun _ q => q) fun _ _ q => q
    rintro rfl
    rcases hc with rfl | hc
    · rw [hfree] at e; cases e
    · rw [hfree] at hc; cases hc
  rcases hx with hk | hk
  · refine wpAny_storeName_local hk hn (fun h' hn' hs => ?_) hcls
    obtain ⟨oL, _, _, hoL, _⟩ := id hn
    refine h _ ⟨I.ok, I.os, I.bare, ⟨fun b o e n hb hx => ?_, fun b o e n hb hx => ?_, I.base.free, fun b o e hx => ?_, I.base.tups, I.base.frzs, I.base.tbls⟩, ⟨_, hn', fun j y v' e1 e2 e3 => ?_⟩, fun y c e => ?_, I.free, I.freeC, fun p hp => ?_, tracked ⟨oL, hoL, I.free⟩ hs, by simpa using I.len⟩ ⟨_, hs, .inl rfl⟩
    · exact (hs.2 b (Nat.ne_of_lt (Nat.lt_of_lt_of_le (Heap.lt_size e) I.ok.above))).trans (I.base.keep b o e n hb hx)
    · obtain ⟨sl, e1⟩ := I.base.slot b o e n hb hx
      exact ⟨sl, (hs.2 b (Nat.ne_of_lt (Nat.lt_of_lt_of_le (Heap.lt_size e) I.ok.above))).trans e1⟩
    · obtain ⟨o', e1⟩ := I.base.there b o e hx
      exact ⟨o', (hs.2 b (Nat.ne_of_lt (Nat.lt_of_lt_of_le (Heap.lt_size e) I.ok.above))).trans e1⟩
    · by_cases hj : j = i
      · subst hj
        rw [hi] at e1; cases e1
        rw [List.getElem?_set_self hiσ] at e2
        cases e2
        exact ⟨u, r, .inl ⟨hk, by simp⟩⟩
      · rw [List.getElem?_set_ne (Ne.symm hj)] at e2
        obtain ⟨u', r', q⟩ := hl j y v' e1 e2 e3
        refine ⟨u', r', ?_⟩
        rcases q with ⟨k, e⟩ | ⟨k, c, e, z⟩
        · refine .inl ⟨k, ?_⟩
          have : y ≠ x := fun e => hj (nodup_ix hN e1 (e ▸ hi))
          simp [this, e]
        · exact .inr ⟨k, c, e, z.sameBut hs (cne y c e)⟩
    · obtain ⟨w', z⟩ := I.cell y c e
      exact ⟨w', z.sameBut hs (cne y c e)⟩
    · obtain ⟨e, n, ne, nf, d⟩ := I.pin p hp
      exact ⟨(hs.2 p.1 ne).trans e, n, ne, nf, d⟩
  · have hfn : X.fn x = true := by
      rcases hf with z | z
      · exact z
      · rw [z] at hk; cases hk
    obtain ⟨c, hc⟩ := I.ok.has x (.inl hk)
    obtain ⟨w', z⟩ := I.cell x c hc
    refine wpAny_storeName_cell I.ok.kind hk hc z (fun h' hc' hs => ?_)
    obtain ⟨oc, hoc, hocd⟩ := id z
    refine h { s with heap := h' } ⟨I.ok, I.os, I.bare, ⟨fun b o e n hb hx => ?_, fun b o e n hb hx => ?_, I.base.free, fun b o e hx => ?_, I.base.tups, I.base.frzs, I.base.tbls⟩, ⟨m, hn.sameBut hs (Ne.symm (cne x c hc)), fun j y v' e1 e2 e3 => ?_⟩, fun y c' e => ?_, I.free, I.freeC, fun p hp => ?_, tracked ⟨oc, hoc, I.freeC x c hc⟩ hs, by simpa using I.len⟩ ⟨c, hs, .inr hc⟩
    · exact (hs.2 b (Nat.ne_of_lt (Nat.lt_of_lt_of_le (Heap.lt_size e) (I.ok.cab x c hfn hc)))).trans (I.base.keep b o e n hb hx)
    · obtain ⟨sl, e1⟩ := I.base.slot b o e n hb hx
      exact ⟨sl, (hs.2 b (Nat.ne_of_lt (Nat.lt_of_lt_of_le (Heap.lt_size e) (I.ok.cab x c hfn hc)))).trans e1⟩
    · obtain ⟨o', e1⟩ := I.base.there b o e hx
      exact ⟨o', (hs.2 b (Nat.ne_of_lt (Nat.lt_of_lt_of_le (Heap.lt_size e) (I.ok.cab x c hfn hc)))).trans e1⟩
    · by_cases hj : j = i
      · subst hj
        rw [hi] at e1; cases e1
        rw [List.getElem?_set_self hiσ] at e2
        cases e2
        exact ⟨u, r, .inr ⟨.inl hk, c, hc, hc'⟩⟩
      · rw [List.getElem?_set_ne (Ne.symm hj)] at e2
        obtain ⟨u', r', q⟩ := hl j y v' e1 e2 e3
        refine ⟨u', r', ?_⟩
        rcases q with q | ⟨k, c', e, z'⟩
        · exact .inl q
        · refine .inr ⟨k, c', e, z'.sameBut hs ?_⟩
          rintro rfl
          exact hj (nodup_ix hN e1 (I.ok.inj _ _ _ e hc ▸ hi))
    · by_cases hcc : c' = c
      · subst hcc; exact ⟨_, hc'⟩
      · obtain ⟨w2, z2⟩ := I.cell y c' e
        exact ⟨w2, z2.sameBut hs hcc⟩
    · obtain ⟨e, n, ne, nf, d⟩ := I.pin p hp
      refine ⟨(hs.2 p.1 ?_).trans e, n, ne, nf, d⟩
      intro q
      rw [q, hoc] at e
      have q' : oc = p.2 := Option.some.inj e
      exact d w' (by rw [← q']; exact hocd)
theorem store_ok {M : Model} {A : Around} {E : Value → Shared → Prop} {i : Nat} {x : Str} {v : V} {u : Value} {Q : Unit → Shared → Prop} (I : Inv X pins σ H s) (hN : X.N.Nodup) (hi : X.N[i]? = some x) (hx : Loc X.env.scope x) (r : RelV v u)
    (h : ∀ s', Inv X pins (σ.set i (some v)) H s' → Q () s') (hf : X.fn x = true ∨ X.env.scope.names.lookup x = some .local := by first | exact .inl rfl | exact .inr rfl | assumption) : wpAny M A (storeName X.env x u) Q E s :=
  store_ok2 I hN hi hx r (fun s' I' _ => h s' I') hf
theorem Inv.call' {s' : Shared} {ch : List Addr} (I : Inv X pins σ H s) (ho : s'.os = s.os) (u : Un (frs X.stack) ch H H' s.heap s'.heap) (hok : HOk X.prog X.w H' s'.heap) (hg : AllBare s'.gens)
    (hch : ∀ b ∈ ch, (b ∈ X.ex ∨ X.s₀.heap.objs.size ≤ b) ∧ b ≠ X.env.locals ∧ (∀ x c, X.env.cells.lookup x = some c → c ≠ b) ∧ ∀ p ∈ X.pn ++ pins, p.1 ≠ b) : Inv X pins σ H' s' := by
  obtain ⟨h', g', d', t', o'⟩ := s'
  have e : o' = s.os := ho
  subst e
  exact I.call (g' := g') (t' := t') (d' := d') u hok hg hch
end
abbrev XK := Value → Option Addr → Hp → Prop
abbrev St := List (Option V)
abbrev VK := V → Hp → Prop
abbrev TE := St → Hp → VK → Prop
abbrev TT := St → Hp → (Bool → Hp → Prop) → Prop
abbrev TA := St → Hp → (List V → Hp → Prop) → Prop
structure Ends where
  nx : St → Hp → Prop
  rt : VK
  bk : St → Hp → Prop := fun _ _ => False
  ct : St → Hp → Prop := fun _ _ => False
abbrev TS := Ends → St → Hp → Prop
def EP (X : Cx) (pins : List (Addr × Obj)) (σ : St) (Q : VK) (u : Value) (s' : Shared) : Prop := ∃ v H', Inv X pins σ H' s' ∧ RelV v u ∧ Q v H'
def TP (X : Cx) (pins : List (Addr × Obj)) (σ : St) (Q : Bool → Hp → Prop) (b : Bool) (s' : Shared) : Prop := ∃ H', Inv X pins σ H' s' ∧ Q b H'
def AP (X : Cx) (pins : List (Addr × Obj)) (σ : St) (Q : List V → Hp → Prop) (us : List Value) (s' : Shared) : Prop := ∃ vs H', Inv X pins σ H' s' ∧ Vals vs us ∧ Q vs H'
def SP (X : Cx) (pins : List (Addr × Obj)) (D : Ends) (f : Flow) (s' : Shared) : Prop :=
  match f with
  | .next => ∃ σ' H', Inv X pins σ' H' s' ∧ D.nx σ' H'
  | .brk => ∃ σ' H', Inv X pins σ' H' s' ∧ D.bk σ' H'
  | .cont => ∃ σ' H', Inv X pins σ' H' s' ∧ D.ct σ' H'
  | .ret u => ∃ v σ' H', Inv X pins σ' H' s' ∧ RelV v u ∧ D.rt v H'
def PE (X : Cx) (e : Expr) (t : TE) : Prop :=
  ∀ (pins : List (Addr × Obj)) (s : Shared) (σ : St) (H : Hp) (Q : VK), Inv X pins σ H s → t σ H Q → wpAny (model X.prog X.w) X.A (eval e X.env) (EP X pins σ Q) X.xe s
def PT (X : Cx) (e : Expr) (t : TT) : Prop :=
  ∀ (pins : List (Addr × Obj)) (s : Shared) (σ : St) (H : Hp) (Q : Bool → Hp → Prop), Inv X pins σ H s → t σ H Q → wpAny (model X.prog X.w) X.A (isTrue e X.env (eval e X.env)) (TP X pins σ Q) X.xe s
def PW (X : Cx) (e : Expr) (t : TT) : Prop :=
  ∀ (whole : Sem Value) (pins : List (Addr × Obj)) (s : Shared) (σ : St) (H : Hp) (Q : Bool → Hp → Prop), Inv X pins σ H s → t σ H Q → wpAny (model X.prog X.w) X.A (isTrue e X.env whole) (TP X pins σ Q) X.xe s
theorem PW.pt {X : Cx} {e : Expr} {t : TT} (h : PW X e t) : PT X e t := h _
def PA (X : Cx) (es : List Expr) (t : TA) : Prop :=
  ∀ (pos : Pos) (pins : List (Addr × Obj)) (s : Shared) (σ : St) (H : Hp) (Q : List V → Hp → Prop), Inv X pins σ H s → t σ H Q → wpAny (model X.prog X.w) X.A (spliced (backTo pos (starEach es X.env))) (AP X pins σ Q) X.xe s
def PS (X : Cx) (st : Stmt) (t : TS) : Prop :=
  ∀ (pins : List (Addr × Obj)) (s : Shared) (σ : St) (H : Hp) (D : Ends), Inv X pins σ H s → t D σ H → wpAny (model X.prog X.w) X.A (exec st X.env) (SP X pins D) X.xe s
def PSs (X : Cx) (st : List Stmt) (t : TS) : Prop :=
  ∀ (pins : List (Addr × Obj)) (s : Shared) (σ : St) (H : Hp) (D : Ends), Inv X pins σ H s → t D σ H → wpAny (model X.prog X.w) X.A (execs st X.env) (SP X pins D) X.xe s
theorem thn {α : Type} {t : Sem α} {Q Q' : α → Shared → Prop} {M : Model} {A : Around} {E : Value → Shared → Prop} {s : Shared} (h : wpAny M A t Q E s) (hQ : ∀ a s, Q a s → Q' a s) : wpAny M A t Q' E s := wpAny_mono h hQ fun _ _ x => x
end L2
namespace L2
open PySem PySem.Spec PyProof.Rows
section
variable {X : Cx}
def tVar (i : Nat) : TE := fun σ H Q => ∃ v, σ[i]? = some (some v) ∧ Q v H
def tC (v : V) : TE := fun _ H Q => Q v H
theorem pe_var {i : Nat} {x : Str} {pos : Pos} (hN : X.N[i]? = some x) (hv : Vis X.env.scope x) (hd : (x == ("__debug__" : Str)) = false := by decide) (hcd : (x == ("__classdict__" : Str)) = false := by decide) : PE X (.Name x pos) (tVar i) := by
  intro pins s σ H Q I h
  obtain ⟨v, e, h⟩ := h
  obtain ⟨m, hn, hl⟩ := I.loc
  obtain ⟨u, r, l⟩ := hl i x v hN e hv
  have fin : EP X pins σ Q u s := ⟨v, H, I, r, h⟩
  rcases l with ⟨hk, hm⟩ | ⟨hk, c, hc, hcell⟩
  · exact wpAny_Name (wpAny_loadName_local I.ok.kind hk hn hm fin) hd
  · rcases hk with hk | hk
    · exact wpAny_Name (wpAny_loadName_cell I.ok.kind hk hc hcell fin) hd
    · exact wpAny_Name (wpAny_loadName_free I.ok.kind hk hc hcell fin hcd) hd
theorem pe_int {i j pos} : PE X (.Constant (.int i) j pos) (tC (.int i)) := fun _ _ _ H _ I h => wpAny_Constant_int ⟨.int i, H, I.tok _, ⟨_, rfl⟩, h⟩
theorem pe_bl {b j pos} : PE X (.Constant (.bool b) j pos) (tC (.bl b)) := fun _ _ _ H _ I h => Constant_bool ⟨.bl b, H, I, rfl, h⟩
theorem pe_str {x j pos} : PE X (.Constant (.str x) j pos) (tC (.str x)) := fun _ _ _ H _ I h => Calls.Constant_str ⟨.str x, H, I.tok _, ⟨_, rfl⟩, h⟩
def Gl (X : Cx) (x : Str) : Prop := X.env.kindOf x = some .globalImplicit
theorem ld_glob {E : Value → Shared → Prop} {pins : List (Addr × Obj)} {s : Shared} {σ : St} {H : Hp} {x : Str} {u : Value} {pos : Pos} {Q : Value → Shared → Prop} (I : Inv X pins σ H s) (hg : Gl X x) (hm : X.mg x = some u) (h : Q u s)
    (hd : (x == ("__debug__" : Str)) = false := by decide) : wpAny (model X.prog X.w) X.A (eval (.Name x pos) X.env) Q E s :=
  Calls.Name_function_global I.ok.kind hg (Calls.loadGlobal_global (by rw [I.ok.glob]; exact I.mod.glob.keeps I.bk) hm h) hd
theorem ld_blt {E : Value → Shared → Prop} {pins : List (Addr × Obj)} {s : Shared} {σ : St} {H : Hp} {x : Str} {u : Value} {pos : Pos} {Q : Value → Shared → Prop} (I : Inv X pins σ H s) (hg : Gl X x) (hm : X.mg x = none) (hv : bootBuiltins x = some u) (h : Q u s)
    (hn : x ≠ "__name__" := by decide) (hd : (x == ("__debug__" : Str)) = false := by decide) : wpAny (model X.prog X.w) X.A (eval (.Name x pos) X.env) Q E s := by
  obtain ⟨mb, h1, h2⟩ := I.mod.blt
  exact Calls.Name_function_global I.ok.kind hg (Calls.loadGlobal_builtin (by rw [I.ok.glob]; exact I.mod.glob.keeps I.bk) hm (by rw [I.ok.blt]; exact h1.keeps I.bk) ((h2 x hn).trans hv) h) hd
theorem pe_glob {x : Str} {v : V} {u : Value} {pos : Pos} (hg : Gl X x) (hm : X.mg x = some u) (r : RelV v u) (hd : (x == ("__debug__" : Str)) = false := by decide) : PE X (.Name x pos) (tC v) :=
  fun _ _ _ H _ I h => ld_glob I hg hm ⟨v, H, I, r, h⟩ hd
theorem pe_bltn {x : Str} {v : V} {u : Value} {pos : Pos} (hg : Gl X x) (hm : X.mg x = none) (hv : bootBuiltins x = some u) (r : RelV v u) (hn : x ≠ "__name__" := by decide) (hd : (x == ("__debug__" : Str)) = false := by decide) : PE X (.Name x pos) (tC v) :=
  fun _ _ _ H _ I h => ld_blt I hg hm hv ⟨v, H, I, r, h⟩ hn hd
variable {a b : Expr} {ta tb : TE} {pos : Pos}
def PC (X : Cx) (op : CmpOp) (a b : Expr) (t : TE) : Prop :=
  ∀ (pins : List (Addr × Obj)) (s : Shared) (σ : St) (H : Hp) (Q : VK), Inv X pins σ H s → t σ H Q →
    wpAny (model X.prog X.w) X.A (eval a X.env) (fun v s₁ => wpAny (model X.prog X.w) X.A (eval b X.env) (fun u s₂ => wpAny (model X.prog X.w) X.A (compareOp op v u) (EP X pins σ Q) X.xe s₂) X.xe s₁) X.xe s
def tB (t : TE) : TT := fun σ H Q => t σ H fun x H1 => ∃ c, x = .bl c ∧ Q c H1
theorem pt_cmp {op : CmpOp} {t : TE} (h : PC X op a b t) (h1 : behindInMarks op b = false := by first | exact nobehind _ (by decide) (by decide) | rfl) : PT X (.Compare a [op] [b] pos) (tB t) := by
  intro pins s σ H Q I hw
  refine wpAny_isTrue_Compare1 (thn (h pins s σ H _ I hw) fun v s1 h1 => thn h1 fun u s2 h2 => thn h2 fun c s3 ⟨x, H1, I1, r1, q1⟩ => ?_) h1
  obtain ⟨d, rfl, q⟩ := q1
  cases r1
  exact wpAny_truthy_bool ⟨H1, I1, q⟩
theorem pt_val {e : Expr} {t : TE} (h : PE X e t) (he : ∀ whole, isTrue e X.env whole = (do let v ← whole; standAt e.pos; holding [v] (truthy v)) := by intro _; rfl) : PT X e (tB t) := by
  intro pins s σ H Q I hw
  refine isTrue_plain (thn (h pins s σ H _ I hw) fun v s1 ⟨x, H1, I1, r1, q1⟩ => ?_) (he _)
  obtain ⟨d, rfl, q⟩ := q1
  cases r1
  exact wpAny_truthy_bool ⟨H1, I1, q⟩
variable {tA tB' : TT} {rest : List Expr}
def tAnd (t u : TT) : TT := fun σ H Q => t σ H fun c H1 => if c = true then u σ H1 Q else Q false H1
def tOr (t u : TT) : TT := fun σ H Q => t σ H fun c H1 => if c = true then Q true H1 else u σ H1 Q
def tNot (t : TT) : TT := fun σ H Q => t σ H fun c H1 => Q (!c) H1
theorem pw_and1 (ha : PT X a tA) : PW X (.BoolOp .And [a] pos) tA := by
  intro wh pins s σ H Q I h
  refine isTrue_and (thn (ha pins s σ H Q I h) fun c s1 e => ?_)
  cases c with
  | true => exact isTrue_and_nil e
  | false => exact e
theorem pw_or1 (ha : PT X a tA) : PW X (.BoolOp .Or [a] pos) tA := by
  intro wh pins s σ H Q I h
  refine isTrue_or (thn (ha pins s σ H Q I h) fun c s1 e => ?_)
  cases c with
  | false => exact isTrue_or_nil e
  | true => exact e
theorem pw_and (ha : PT X a tA) (hb : PW X (.BoolOp .And (b :: rest) pos) tB') : PW X (.BoolOp .And (a :: b :: rest) pos) (tAnd tA tB') := by
  intro wh pins s σ H Q I h
  refine isTrue_and (thn (ha pins s σ H _ I h) fun c s1 ⟨H1, I1, q1⟩ => ?_)
  cases c with
  | true => exact hb wh pins s1 σ H1 Q I1 q1
  | false => exact ⟨H1, I1, q1⟩
theorem pw_or (ha : PT X a tA) (hb : PW X (.BoolOp .Or (b :: rest) pos) tB') : PW X (.BoolOp .Or (a :: b :: rest) pos) (tOr tA tB') := by
  intro wh pins s σ H Q I h
  refine isTrue_or (thn (ha pins s σ H _ I h) fun c s1 ⟨H1, I1, q1⟩ => ?_)
  cases c with
  | true => exact ⟨H1, I1, q1⟩
  | false => exact hb wh pins s1 σ H1 Q I1 q1
theorem pt_not (ha : PT X a tA) : PT X (.UnaryOp .Not a pos) (tNot tA) := by
  intro pins s σ H Q I h
  exact isTrue_not (ha pins s σ H (fun c H1 => Q (!c) H1) I h)
def tAndV (ta tb : TE) : TE := fun σ H Q => ta σ H fun x H1 => ∃ c, x = .bl c ∧ if c = true then tb σ H1 Q else Q (.bl false) H1
theorem pe_one {op} {t : TE} (h : PE X a t) : PE X (.BoolOp op [a] pos) t := fun pins s σ H Q I hw => BoolOp_one (h pins s σ H Q I hw)
theorem pe_and (ha : PE X a ta) (hb : PE X (.BoolOp .And (b :: rest) pos) tb) : PE X (.BoolOp .And (a :: b :: rest) pos) (tAndV ta tb) := by
  intro pins s σ H Q I h
  refine BoolOp_and (thn (ha pins s σ H _ I h) fun v s1 ⟨x, H1, I1, r1, q1⟩ => ?_)
  obtain ⟨c, rfl, q1⟩ := q1
  cases r1
  refine wpAny_truthy_bool ?_
  cases c with
  | true => exact hb pins s1 σ H1 Q I1 q1
  | false => exact ⟨.bl false, H1, I1, rfl, q1⟩
end
end L2
namespace L2
open PySem PySem.Spec PyProof.Rows
def SqL (K : PySem.W.Frag) (H : Hp) (a : Addr) (xs : List V) : Prop :=
  Rd H a (.lst xs) ∨
    ∃ (o : Obj) (its : Array Value) (n : Nat), K.lookup a = some o ∧ o.cls = .type "list" ∧ o.dict = none ∧ o.data = .seq its n ∧ its.size ≤ sizeLine ∧ Vals xs its.toList
def SqT (K : PySem.W.Frag) (H : Hp) (a : Addr) (xs : List V) : Prop :=
  Rd H a (.tup xs) ∨
    ∃ (o : Obj) (its : Array Value) (n : Nat), K.lookup a = some o ∧ o.cls = .type "tuple" ∧ o.data = .seq its n ∧ its.size ≤ sizeLine ∧ Vals xs its.toList
def absV : Value → Option V
  | .none => some .non
  | .bool b => some (.bl b)
  | .int i _ => some (.int i)
  | .str x _ => some (.str x)
  | .bytes b _ => some (.byt b)
  | .float b _ => some (.flt b)
  | .ref a => some (.ref a)
  | .type n => some (.ty n)
  | _ => none
theorem RelV.abs {x : V} {u : Value} (r : RelV x u) : absV u = some x := by
  cases x with
  | non => cases r; rfl
  | bl _ => cases r; rfl
  | int _ => obtain ⟨t, rfl⟩ := r; rfl
  | str _ => obtain ⟨t, rfl⟩ := r; rfl
  | byt _ => obtain ⟨t, rfl⟩ := r; rfl
  | flt _ => obtain ⟨t, rfl⟩ := r; rfl
  | ref _ => cases r; rfl
  | ty _ => cases r; rfl
theorem RelV.inj {x y : V} {u : Value} (r : RelV x u) (q : RelV y u) : x = y := Option.some.inj (r.abs.symm.trans q.abs)
theorem Vals.inj : ∀ {xs ys : List V} {us : List Value}, Vals xs us → Vals ys us → xs = ys
  | _, _, _, .nil, .nil => rfl
  | _, _, _, .cons r t, .cons r' t' => by rw [r.inj r', Vals.inj t t']
section
variable {X : Cx} {pins : List (Addr × Obj)} {σ : St} {H : Hp} {s : Shared} {a : Addr} {xs ys : List V}
theorem Inv.list (I : Inv X pins σ H s) (h : SqL X.K H a xs) : ∃ its : List Value, Vals xs its ∧ PlainL s.heap a its.toArray ∧ xs.length ≤ sizeLine := by
  rcases h with h | ⟨o, its, n, hk, hc, hd, hs, hz, r⟩
  · obtain ⟨z, its, n, r, e⟩ := h.ok I.hok
    exact ⟨its, r, ⟨_, n, e, rfl, rfl, rfl⟩, z⟩
  · refine ⟨its.toList, r, ⟨o, n, I.kIn a o hk, hc, hd, by simpa using hs⟩, ?_⟩
    have e := r.length
    simp only [Array.length_toList] at e
    omega
theorem Inv.tuple (I : Inv X pins σ H s) (h : SqT X.K H a xs) : ∃ its : List Value, Vals xs its ∧ IsTup s.heap a its.toArray ∧ xs.length ≤ sizeLine := by
  rcases h with h | ⟨o, its, n, hk, hc, hs, hz, r⟩
  · obtain ⟨z, its, r, p⟩ := h.ok I.hok
    exact ⟨its, r, p.tup, z⟩
  · refine ⟨its.toList, r, ⟨o, I.kIn a o hk, hc, n, by simpa using hs⟩, ?_⟩
    have e := r.length
    simp only [Array.length_toList] at e
    omega
theorem Inv.list_inj (I : Inv X pins σ H s) (h : SqL X.K H a xs) (h' : SqL X.K H a ys) : xs = ys := by
  obtain ⟨its, r, ⟨o, n, e, _, _, d⟩, _⟩ := I.list h
  obtain ⟨its', r', ⟨o', n', e', _, _, d'⟩, _⟩ := I.list h'
  rw [e] at e'; cases e'
  rw [d] at d'
  injection d' with d1 _
  have : its = its' := by simpa using congrArg Array.toList d1
  subst this
  exact r.inj r'
theorem Inv.tuple_inj (I : Inv X pins σ H s) (h : SqT X.K H a xs) (h' : SqT X.K H a ys) : xs = ys := by
  obtain ⟨its, r, ⟨o, e, _, n, d⟩, _⟩ := I.tuple h
  obtain ⟨its', r', ⟨o', e', _, n', d'⟩, _⟩ := I.tuple h'
  rw [e] at e'; cases e'
  rw [d] at d'
  injection d' with d1 _
  have : its = its' := by simpa using congrArg Array.toList d1
  subst this
  exact r.inj r'
end
abbrev Cx.wish (X : Cx) (E : Value → Shared → Prop) : Cx := { X with xe := E }
abbrev Cx.nox (X : Cx) : Cx := X.wish fun _ _ => False
theorem Cx.Ok.wish {X : Cx} (ok : X.Ok) (E : Value → Shared → Prop) : (X.wish E).Ok :=
  ⟨ok.mod, ok.kind, ok.glob, ok.blt, ok.above, ok.inj, ok.has, ok.cab, ok.hd, ok.frames, ok.stk, ok.exf, ok.bs, ok.bsz, ok.noex, ok.exfs, ok.funs, ok.frf⟩
theorem Cx.Ok.unwish {X : Cx} {E : Value → Shared → Prop} (ok : (X.wish E).Ok) : X.Ok :=
  ⟨ok.mod, ok.kind, ok.glob, ok.blt, ok.above, ok.inj, ok.has, ok.cab, ok.hd, ok.frames, ok.stk, ok.exf, ok.bs, ok.bsz, ok.noex, ok.exfs, ok.funs, ok.frf⟩
section
variable {X : Cx} {pins : List (Addr × Obj)} {σ : St} {H : Hp} {s : Shared} {E : Value → Shared → Prop}
theorem Inv.wish (I : Inv X pins σ H s) (E : Value → Shared → Prop) : Inv (X.wish E) pins σ H s := ⟨I.ok.wish E, I.os, I.bare, I.base, I.loc, I.cell, I.free, I.freeC, I.pin, I.hok, I.len⟩
theorem Inv.unwish (I : Inv (X.wish E) pins σ H s) : Inv X pins σ H s := ⟨I.ok.unwish, I.os, I.bare, I.base, I.loc, I.cell, I.free, I.freeC, I.pin, I.hok, I.len⟩
theorem SP.unwish {D : Ends} {f : Flow} {s' : Shared} (h : SP (X.wish E) pins D f s') : SP X pins D f s' := by
  cases f with
  | next => obtain ⟨σ', H', I, q⟩ := h; exact ⟨σ', H', I.unwish, q⟩
  | brk => obtain ⟨σ', H', I, q⟩ := h; exact ⟨σ', H', I.unwish, q⟩
  | cont => obtain ⟨σ', H', I, q⟩ := h; exact ⟨σ', H', I.unwish, q⟩
  | ret u => obtain ⟨v, σ', H', I, r, q⟩ := h; exact ⟨v, σ', H', I.unwish, r, q⟩
theorem PSs.nox {st : List Stmt} {t : TS} (h : PSs X.nox st t) : PSs X st t := fun pins s σ H D I hw =>
  wpAny_mono (h pins s σ H D (I.wish _) hw) (fun _ _ q => q.unwish) fun _ _ z => False.elim z
end
section
variable {X : Cx} {st : Stmt} {rest : List Stmt} {t u : TS} {e : Expr} {te : TE} {pos : Pos}
def tNext : TS := fun D σ H => D.nx σ H
def tSeq (t u : TS) : TS := fun D σ H => t { D with nx := u D } σ H
theorem pss_nil : PSs X [] tNext := fun _ _ σ H _ I h => wpAny_execs_nil ⟨σ, H, I, h⟩
theorem pss_cons (h1 : PS X st t) (h2 : PSs X rest u) : PSs X (st :: rest) (tSeq t u) := by
  intro pins s σ H D I h
  refine wpAny_execs_cons (thn (h1 pins s σ H { D with nx := u D } I h) fun f s1 q => ?_)
  cases f with
  | next =>
    obtain ⟨σ', H', I', q⟩ := q
    exact h2 pins s1 σ' H' D I' q
  | ret v => exact q
  | brk => exact q
  | cont => exact q
theorem pss_one (h1 : PS X st t) : PSs X [st] t := by
  intro pins s σ H D I h
  refine wpAny_execs_cons (thn (h1 pins s σ H D I h) fun f s1 q => ?_)
  cases f with
  | next => exact wpAny_execs_nil q
  | ret v => exact q
  | brk => exact q
  | cont => exact q
theorem Inv.quiet {pins : List (Addr × Obj)} {σ : St} {H : Hp} {s : Shared} (I : Inv X pins σ H s) : interactive X.env = false := by simp [interactive, I.ok.kind]
def tDrop (te : TE) : TS := fun D σ H => te σ H fun _ H1 => D.nx σ H1
theorem ps_expr (he : PE X e te) (hs : swapsWith e none pos.line X.env = pure false := by rfl) : PS X (.Expr e pos) (tDrop te) := by
  intro pins s σ H D I h
  exact wpAny_Expr_any (thn (he pins s σ H _ I h) fun v s1 ⟨x, H1, I1, r1, q1⟩ => ⟨σ, H1, I1, q1⟩) I.quiet hs
def tRet (te : TE) : TS := fun D σ H => te σ H D.rt
theorem ps_ret (he : PE X e te) : PS X (.Return (some e) pos) (tRet te) := by
  intro pins s σ H D I h
  exact wpAny_Return_some (thn (he pins s σ H _ I h) fun v s1 ⟨x, H1, I1, r1, q1⟩ => ⟨x, σ, H1, I1, r1, q1⟩)
def tIfS (c : TT) (t u : TS) : TS := fun D σ H => c σ H fun b H1 => if b = true then t D σ H1 else u D σ H1
theorem ps_if {c : Expr} {a b : List Stmt} {tc : TT} (hc : PT X c tc) (ha : PSs X a t) (hb : PSs X b u) : PS X (.If c a b pos) (tIfS tc t u) := by
  intro pins s σ H D I h
  refine wpAny_If (thn (hc pins s σ H _ I h) fun d s1 ⟨H1, I1, q1⟩ => ?_)
  cases d with
  | true => exact ha pins s1 σ H1 D I1 q1
  | false => exact hb pins s1 σ H1 D I1 q1
def tNever : TS := fun _ _ _ => False
theorem ps_never : PS X st tNever := fun _ _ _ _ _ _ h => h.elim
end
abbrev TG := V → St → Hp → (St → Hp → Prop) → Prop
abbrev TGs := List V → St → Hp → (St → Hp → Prop) → Prop
def PG (X : Cx) (target : Expr) (t : TG) : Prop :=
  ∀ (pins : List (Addr × Obj)) (s : Shared) (σ : St) (H : Hp) (v : V) (u : Value) (Q : St → Hp → Prop), Inv X pins σ H s → RelV v u → t v σ H Q →
    wpAny (model X.prog X.w) X.A (assign target X.env u) (fun _ s' => ∃ σ' H', Inv X pins σ' H' s' ∧ Q σ' H') X.xe s
def PGs (X : Cx) (ts : List Expr) (t : TGs) : Prop :=
  ∀ (pins : List (Addr × Obj)) (s : Shared) (σ : St) (H : Hp) (vs : List V) (us : List Value) (Q : St → Hp → Prop), Inv X pins σ H s → Vals vs us → t vs σ H Q →
    wpAny (model X.prog X.w) X.A (assignInOrder ((assignEach ts X.env).map (·.2)) us) (fun _ s' => ∃ σ' H', Inv X pins σ' H' s' ∧ Q σ' H') X.xe s
section
variable {X : Cx} {pos : Pos}
def gName (i : Nat) : TG := fun v σ H Q => Q (σ.set i (some v)) H
theorem pg_name {i : Nat} {x : Str} (hN : X.N.Nodup) (hi : X.N[i]? = some x) (hx : Loc X.env.scope x) (hf : X.fn x = true ∨ X.env.scope.names.lookup x = some .local := by first | exact .inl rfl | exact .inr rfl | assumption) : PG X (.Name x pos) (gName i) := by
  intro pins s σ H v u Q I r h
  exact wpAny_assign_Name (store_ok I hN hi hx r (fun s' I' => ⟨_, H, I', h⟩) hf)
def gNil : TGs := fun vs σ H Q => vs = [] ∧ Q σ H
def gCons (t : TG) (u : TGs) : TGs := fun vs σ H Q => ∃ v r, vs = v :: r ∧ t v σ H fun σ' H' => u r σ' H' Q
theorem pgs_nil : PGs X [] gNil := by
  intro pins s σ H vs us Q I r h
  obtain ⟨e, h⟩ := h
  subst e
  cases r
  exact assignInOrder_nil ⟨σ, H, I, h⟩
theorem pgs_cons {e : Expr} {es : List Expr} {t : TG} {u : TGs} (h1 : PG X e t) (h2 : PGs X es u)
    (hs : (assignEach (e :: es) X.env).map (·.2) = assign e X.env :: (assignEach es X.env).map (·.2) := by rfl) : PGs X (e :: es) (gCons t u) := by
  intro pins s σ H vs us Q I r h
  obtain ⟨v, vr, e1, h⟩ := h
  subst e1
  cases r with
  | cons r rr =>
    rw [hs]
    refine assignInOrder_cons (thn (h1 pins s σ H _ _ _ I r h) fun _ s1 ⟨σ1, H1, I1, q1⟩ => ?_)
    exact h2 pins s1 σ1 H1 _ _ Q I1 rr q1
def gTup (K : PySem.W.Frag) (n : Nat) (t : TGs) : TG := fun v σ H Q => ∃ a xs, v = .ref a ∧ SqT K H a xs ∧ xs.length = n ∧ t xs σ H Q
theorem pg_tup {es : List Expr} {k : Nat} {t : TGs} {n : Nat} (hc : X.calm = true) (h : PGs X es t)
    (hn : (assignEach es X.env).length = n := by rfl) (hst : (assignEach es X.env).findIdx? (·.1) = none := by rfl) : PG X (.Tuple es k pos) (gTup X.K n t) := by
  intro pins s σ H v u Q I r hw
  obtain ⟨a, xs, e1, hq, hl, hw⟩ := hw
  subst e1
  cases r
  obtain ⟨its, rv, ht, hz⟩ := I.tuple hq
  refine assign_Tuple_tuple (I.ok.hd hc) ht (by simp [hn, ← hl, rv.length]) hst fun h' hx => ?_
  have I1 : Inv X pins σ H { s with heap := h' } := I.kept (t' := s.toks) fun b o e => hx b o (Nat.ne_of_lt (Heap.lt_size e)) e
  exact h pins _ σ H xs _ Q I1 (by simpa using rv) hw
def tAsg (te : TE) (g : TG) : TS := fun D σ H => te σ H fun x H1 => g x σ H1 D.nx
theorem ps_set {i : Nat} {x : Str} {e : Expr} {te : TE} {pos' : Pos} (hN : X.N.Nodup) (hi : X.N[i]? = some x) (hx : Loc X.env.scope x) (he : PE X e te) (hs : swapsWith e (some (.Name x pos')) pos.line X.env = pure false := by rfl) (hf : X.fn x = true ∨ X.env.scope.names.lookup x = some .local := by first | exact .inl rfl | exact .inr rfl | assumption) :
    PS X (.Assign [.Name x pos'] e pos) (tAsg te (gName i)) := by
  intro pins s σ H D I h
  refine wpAny_Assign_Name (thn (he pins s σ H _ I h) fun v s1 ⟨y, H1, I1, r1, q1⟩ => ?_) hs
  exact store_ok I1 hN hi hx r1 (fun s2 I2 => ⟨_, H1, I2, q1⟩) hf
end
section
variable {X : Cx} {pos : Pos}
def tWhile (c : TT) (tb : TS) : TS := fun D σ H => ∃ W : Nat → St → Hp → Prop, (∃ m, W m σ H) ∧ ∀ m σ H, W m σ H →
  c σ H fun b H1 => if b = true then ∃ N : St → Hp → Prop, (∀ σ' H', N σ' H' → ∃ m', m' < m ∧ W m' σ' H') ∧ tb { D with nx := N, ct := N, bk := D.nx } σ H1 else D.nx σ H1
theorem ps_while {c : Expr} {body : List Stmt} {tc : TT} {tb : TS} (hp : PassesOwn (model X.prog X.w) X.A X.env X.xe) (hc : PT X c tc) (hb : PSs X body tb) : PS X (.While c body [] pos) (tWhile tc tb) := by
  intro pins s σ H D I h
  obtain ⟨W, ⟨m0, w0⟩, turn⟩ := h
  refine wpAny_While (codeAny_whileLoop (fun n s' => ∃ σ' H', Inv X pins σ' H' s' ∧ W n σ' H') ?_ m0 ⟨σ, H, I, w0⟩)
  rintro n s1 ⟨σ1, H1, I1, w1⟩
  refine wpAny_passesOwn hp (thn (hc pins s1 σ1 H1 _ I1 (turn n σ1 H1 w1)) fun b s2 ⟨H2, I2, q2⟩ => ?_)
  cases b with
  | true =>
    obtain ⟨N, hN, q2⟩ := q2
    rw [if_pos rfl]
    refine wpAny_passesOwn hp (thn (hb pins s2 σ1 H2 _ I2 q2) fun f s3 q3 => ?_)
    cases f with
    | next =>
      obtain ⟨σ3, H3, I3, n3⟩ := q3
      obtain ⟨m', hm, w3⟩ := hN σ3 H3 n3
      exact ⟨m', hm, σ3, H3, I3, w3⟩
    | cont =>
      obtain ⟨σ3, H3, I3, n3⟩ := q3
      obtain ⟨m', hm, w3⟩ := hN σ3 H3 n3
      exact ⟨m', hm, σ3, H3, I3, w3⟩
    | brk => exact q3
    | ret v => exact q3
  | false =>
    rw [if_neg Bool.false_ne_true]
    exact wpAny_execs_nil ⟨σ1, H2, I2, q2⟩
end
structure It where
  go : Nat → Hp → Prop
  yld : Nat → Hp → V → Hp → Prop
  stop : Nat → Hp → Prop
def FpOk (X : Cx) (pins : List (Addr × Obj)) (H : Hp) (b : Addr) : Prop :=
  H b = none ∧ b ≠ X.env.locals ∧ b ∉ X.fs ∧ (b ∈ X.ex ∨ X.s₀.heap.objs.size ≤ b) ∧ (∀ x c, X.env.cells.lookup x = some c → c ≠ b) ∧ ∀ p ∈ X.pn ++ pins, p.1 ≠ b
theorem Inv.fpOk {X : Cx} {pins : List (Addr × Obj)} {σ : St} {H H' : Hp} {s : Shared} {b : Addr} (I : Inv X pins σ H s) (hb : s.heap.objs.size ≤ b) (hn : H' b = none) : FpOk X pins H' b := by
  refine ⟨hn, Nat.ne_of_gt (Nat.lt_of_lt_of_le I.lt hb), I.nofs hb, .inr (Nat.le_trans I.sz hb), fun x c e z => ?_, fun p hp z => ?_⟩
  · obtain ⟨v, q⟩ := I.cell x c e
    exact absurd (Nat.lt_of_lt_of_le q.lt (by rw [z]; exact hb)) (Nat.lt_irrefl _)
  · exact absurd (Nat.lt_of_lt_of_le (Heap.lt_size (I.pin p hp).1) (by rw [z]; exact hb)) (Nat.lt_irrefl _)
structure Turn (P : Program) (w : World) (K : PySem.W.Frag) (tg : Expr) (J : It) (fp : List Addr) (it : Addr) (tn : Nat → Heap → Prop) : Prop where
  mem : it ∈ fp
  obj : ∀ i h, tn i h → ∀ b ∈ fp, ∃ o, h.get? b = some o ∧ ∀ v, o.data ≠ .cell v
  keep : ∀ i h h', tn i h → (∀ b ∈ fp, ∀ o, h.get? b = some o → h'.get? b = some o) → tn i h'
  item : ∀ (X : Cx), X.prog = P → X.w = w → X.K = K → X.calm = true → ∀ (i : Nat) (pins : List (Addr × Obj)) (s : Shared) (σ : St) (H : Hp) (E : Value → Shared → Prop), Inv X pins σ H s → (∀ b ∈ fp, FpOk X pins H b) → tn i s.heap → J.go i H →
    wpAny (model P w) X.A (pyNext (.ref it)) (fun r s1 => ∃ u, r = some u ∧
      wpAny (model P w) X.A (letOwnedTupleGo tg (.ref it) u) (fun _ s2 => ∃ x H', Inv X pins σ H' s2 ∧ RelV x u ∧ J.yld i H x H' ∧ tn (i + 1) s2.heap ∧ ∀ b ∈ fp, H' b = none) E s1) E s
  done : ∀ (X : Cx), X.prog = P → X.w = w → X.K = K → X.calm = true → ∀ (i : Nat) (pins : List (Addr × Obj)) (s : Shared) (σ : St) (H : Hp) (E : Value → Shared → Prop), Inv X pins σ H s → (∀ b ∈ fp, FpOk X pins H b) → tn i s.heap → J.stop i H →
    wpAny (model P w) X.A (pyNext (.ref it)) (fun r s1 => r = none ∧ Inv X pins σ H s1) E s
  self : ∀ (A : Around) (i : Nat) (s : Shared) (Q : Value → Shared → Prop) (E : Value → Shared → Prop), tn i s.heap → Q (.ref it) s → wpAny (model P w) A (pyIter (.ref it)) Q E s
abbrev TI := St → Hp → (It → Hp → Prop) → Prop
def PIE (X : Cx) (pins : List (Addr × Obj)) (σ : St) (tg : Expr) (R : It → Hp → Prop) (itv : Value) (s2 : Shared) : Prop :=
  ∃ (it : Addr) (fp : List Addr) (tn : Nat → Heap → Prop) (J : It) (H' : Hp), itv = .ref it ∧ Inv X pins σ H' s2 ∧ Turn X.prog X.w X.K tg J fp it tn ∧ tn 0 s2.heap ∧ (∀ b ∈ fp, FpOk X pins H' b) ∧ R J H'
def PI (X : Cx) (tg iter : Expr) (wi : TI) : Prop :=
  ∀ (pins : List (Addr × Obj)) (s : Shared) (σ : St) (H : Hp) (R : It → Hp → Prop), Inv X pins σ H s → wi σ H R →
    wpAny (model X.prog X.w) X.A (eval iter X.env) (fun v s1 => wpAny (model X.prog X.w) X.A (pyIter v) (PIE X pins σ tg R) X.xe s1) X.xe s
theorem go_of {M : Model} {A : Around} {E : Value → Shared → Prop} {s : Shared} {tg : Expr} {it : Addr} {u : Value} {o : Obj} {n : String} {vs : Array Value} {Q : Unit → Shared → Prop} (ho : s.heap.get? it = some o) (hc : o.cls = .type n) (hd : o.data = .fields vs)
    (hn : ["enumerate", "zip", "dict_itemiterator", "dict_reverseitemiterator", "odict_iterator", "itertools.zip_longest", "itertools.pairwise"].contains n = false) (hQ : Q () s) : wpAny M A (letOwnedTupleGo tg (.ref it) u) Q E s := by
  unfold letOwnedTupleGo
  cases tg <;> first
    | exact wpAny_pure hQ
    | (cases u <;> first
        | exact wpAny_pure hQ
        | (refine wpAny_bind (wpAny_load ho ?_)
           rw [hc, hd]
           show wpAny M A (if (["enumerate", "zip", "dict_itemiterator", "dict_reverseitemiterator", "odict_iterator", "itertools.zip_longest", "itertools.pairwise"].contains n && vs[0]? == some (rawInt _)) = true then _ else _) Q E s
           rw [if_neg (by intro h; rw [hn, Bool.false_and] at h; cases h)]
           exact wpAny_pure hQ))
def Itl (K : PySem.W.Frag) (a : Addr) : It :=
  ⟨fun i H => ∃ xs x, SqL K H a xs ∧ xs[i]? = some x, fun i H x H' => H' = H ∧ ∀ xs, SqL K H a xs → xs[i]? = some x, fun i H => ∃ xs, SqL K H a xs ∧ xs.length ≤ i⟩
def Itt (K : PySem.W.Frag) (a : Addr) : It :=
  ⟨fun i H => ∃ xs x, SqT K H a xs ∧ xs[i]? = some x, fun i H x H' => H' = H ∧ ∀ xs, SqT K H a xs → xs[i]? = some x, fun i H => ∃ xs, SqT K H a xs ∧ xs.length ≤ i⟩
def Itr (lo : Int) (n : Nat) : It := ⟨fun i _ => i < n, fun i H x H' => H' = H ∧ x = .int (lo + i), fun i _ => n ≤ i⟩
theorem turn_list {P : Program} {w : World} {K : PySem.W.Frag} {tg : Expr} (a it : Addr) : Turn P w K tg (Itl K a) [it] it (fun i h => h.IsListIter it a i) where
  mem := by simp
  obj := fun i h st b hb => by
    have e : b = it := by simpa using hb
    subst e
    obtain ⟨o, e, c, d⟩ := st
    exact ⟨o, e, fun v z => by rw [d] at z; cases z⟩
  keep := fun i h h' st k => st.at fun o e => k it (by simp) o e
  item := by
    intro X hP hw hK hc i pins s σ H E I hf st hg
    subst hP hw hK
    obtain ⟨xs, x, hq, hx⟩ := hg
    obtain ⟨its, rv, p, hz⟩ := I.list hq
    obtain ⟨u, hu, ru⟩ := rv.get hx
    obtain ⟨f0, f1, f2, f3, f4, f5⟩ := hf it (by simp)
    refine wpAny_pyNext_list_item st p.isList (x := u) (by simpa using hu) fun h' st' sb => ?_
    have I1 : Inv X pins σ H { s with heap := h' } := I.turned (t' := s.toks) (fun b o hb e => (sb.2 b hb).trans e) f0 f1 f3 f4 f5
    obtain ⟨o, e, c, d⟩ := id st'
    exact ⟨u, rfl, go_of (s := { s with heap := h' }) e c d (by decide) ⟨x, H, I1, ru, ⟨rfl, fun ys hy => by rw [I.list_inj hy hq]; exact hx⟩, st', fun b hb => (hf b hb).1⟩⟩
  done := by
    intro X hP hw hK hc i pins s σ H E I hf st hg
    subst hP hw hK
    obtain ⟨xs, hq, hx⟩ := hg
    obtain ⟨its, rv, p, hz⟩ := I.list hq
    obtain ⟨f0, f1, f2, f3, f4, f5⟩ := hf it (by simp)
    have hl := rv.length
    exact wpAny_pyNext_list_end (I.ok.hd hc) st p.isList (by simp; omega) fun h' eb => ⟨rfl, I.turned (t' := s.toks) (fun b o hb e => eb b o hb e) f0 f1 f3 f4 f5⟩
  self := fun _ _ _ _ _ st h => wpAny_pyIter_listiter st h
theorem turn_tuple {P : Program} {w : World} {K : PySem.W.Frag} {tg : Expr} (a it : Addr) : Turn P w K tg (Itt K a) [it] it (fun i h => h.IsTupleIter it a i) where
  mem := by simp
  obj := fun i h st b hb => by
    have e : b = it := by simpa using hb
    subst e
    obtain ⟨o, e, c, d⟩ := st
    exact ⟨o, e, fun v z => by rw [d] at z; cases z⟩
  keep := fun i h h' st k => st.at fun o e => k it (by simp) o e
  item := by
    intro X hP hw hK hc i pins s σ H E I hf st hg
    subst hP hw hK
    obtain ⟨xs, x, hq, hx⟩ := hg
    obtain ⟨its, rv, p, hz⟩ := I.tuple hq
    obtain ⟨u, hu, ru⟩ := rv.get hx
    obtain ⟨f0, f1, f2, f3, f4, f5⟩ := hf it (by simp)
    refine wpAny_pyNext_tuple_item st (show s.heap.IsTuple a its.toArray from p) (x := u) (by simpa using hu) fun h' st' sb => ?_
    have I1 : Inv X pins σ H { s with heap := h' } := I.turned (t' := s.toks) (fun b o hb e => (sb.2 b hb).trans e) f0 f1 f3 f4 f5
    obtain ⟨o, e, c, d⟩ := id st'
    exact ⟨u, rfl, go_of (s := { s with heap := h' }) e c d (by decide) ⟨x, H, I1, ru, ⟨rfl, fun ys hy => by rw [I.tuple_inj hy hq]; exact hx⟩, st', fun b hb => (hf b hb).1⟩⟩
  done := by
    intro X hP hw hK hc i pins s σ H E I hf st hg
    subst hP hw hK
    obtain ⟨xs, hq, hx⟩ := hg
    obtain ⟨its, rv, p, hz⟩ := I.tuple hq
    obtain ⟨f0, f1, f2, f3, f4, f5⟩ := hf it (by simp)
    have hl := rv.length
    exact wpAny_pyNext_tuple_end (I.ok.hd hc) st (show s.heap.IsTuple a its.toArray from p) (by simp; omega) fun h' eb => ⟨rfl, I.turned (t' := s.toks) (fun b o hb e => eb b o hb e) f0 f1 f3 f4 f5⟩
  self := fun _ _ _ _ _ st h => wpAny_pyIter_tupleiter st h
theorem turn_range {P : Program} {w : World} {K : PySem.W.Frag} {tg : Expr} (it : Addr) (lo : Int) (n : Nat) : Turn P w K tg (Itr lo n) [it] it (fun i h => IsRangeIter h it (lo + (i : Nat) * 1) ((n : Int) - (i : Nat)) 1) where
  mem := by simp
  obj := fun i h st b hb => by
    have e : b = it := by simpa using hb
    subst e
    exact ⟨_, st, fun v z => by
      have z' : Data.fields _ = Data.cell v := z
      cases z'⟩
  keep := fun i h h' st k => k it (by simp) _ st
  item := by
    intro X hP hw hK hc i pins s σ H E I hf st hg
    subst hP hw hK
    obtain ⟨f0, f1, f2, f3, f4, f5⟩ := hf it (by simp)
    have W := Walks.range (prog := X.prog) (w := X.w) (I.ok.hd hc) it lo 1 n
    refine W.item i s _ _ hg st fun v h' tk hv st' kk => ?_
    obtain ⟨t, rfl⟩ := hv
    have I1 : Inv X pins σ H { s with heap := h', toks := tk } := I.turned (fun b o hb e => kk b o (by simpa using hb) e) f0 f1 f3 f4 f5
    refine ⟨_, rfl, go_of (s := { s with heap := h', toks := tk }) (n := "range_iterator") st' rfl rfl (by decide) ⟨.int (lo + i), H, I1, ⟨t, ?_⟩, ⟨rfl, rfl⟩, st', fun b hb => (hf b hb).1⟩⟩
    rw [Int.mul_one]
  done := by
    intro X hP hw hK hc i pins s σ H E I hf st hg
    subst hP hw hK
    obtain ⟨f0, f1, f2, f3, f4, f5⟩ := hf it (by simp)
    exact wpAny_pyNext_range_end (I.ok.hd hc) st (by have : n ≤ i := hg; omega) fun h' eb => ⟨rfl, I.turned (t' := s.toks) (fun b o hb e => eb b o hb e) f0 f1 f3 f4 f5⟩
  self := fun _ _ _ _ _ st h => wpAny_pyIter_rangeiter st h
end L2
namespace L2
open PySem PySem.Spec PyProof.Rows
section
variable {X : Cx} {tg : Expr}
def iList (K : PySem.W.Frag) (tl : TE) : TI := fun σ H R => tl σ H fun x H1 => ∃ a, x = .ref a ∧ (∃ xs, SqL K H1 a xs) ∧ R (Itl K a) H1
def iTup (K : PySem.W.Frag) (tl : TE) : TI := fun σ H R => tl σ H fun x H1 => ∃ a, x = .ref a ∧ (∃ xs, SqT K H1 a xs) ∧ R (Itt K a) H1
theorem pi_list {l : Expr} {tl : TE} (hl : PE X l tl) : PI X tg l (iList X.K tl) := by
  intro pins s σ H R I h
  refine thn (hl pins s σ H _ I h) fun v s1 ⟨x, H1, I1, r1, q1⟩ => ?_
  obtain ⟨a, e, ⟨xs, hq⟩, q⟩ := q1
  subst e
  cases r1
  obtain ⟨its, rv, p, hz⟩ := I1.list hq
  refine wpAny_pyIter_list p.isList ?_
  refine ⟨s1.heap.objs.size, [s1.heap.objs.size], _, _, H1, rfl, I1.kept (t' := s1.toks) fun b o e => Heap.get?_push_of_some _ e, turn_list a _, ⟨_, Heap.get?_push_size _ rfl, rfl, rfl⟩, fun b hb => ?_, q⟩
  have e : b = s1.heap.objs.size := by simpa using hb
  subst e
  exact I1.fpOk (Nat.le_refl _) (I1.hok.fresh (Nat.le_refl _))
theorem pi_tup {l : Expr} {tl : TE} (hl : PE X l tl) : PI X tg l (iTup X.K tl) := by
  intro pins s σ H R I h
  refine thn (hl pins s σ H _ I h) fun v s1 ⟨x, H1, I1, r1, q1⟩ => ?_
  obtain ⟨a, e, ⟨xs, hq⟩, q⟩ := q1
  subst e
  cases r1
  obtain ⟨its, rv, p, hz⟩ := I1.tuple hq
  refine wpAny_pyIter_tuple (show s1.heap.IsTuple a its.toArray from p) ?_
  refine ⟨s1.heap.objs.size, [s1.heap.objs.size], _, _, H1, rfl, I1.kept (t' := s1.toks) fun b o e => Heap.get?_push_of_some _ e, turn_tuple a _, ⟨_, Heap.get?_push_size _ rfl, rfl, rfl⟩, fun b hb => ?_, q⟩
  have e : b = s1.heap.objs.size := by simpa using hb
  subst e
  exact I1.fpOk (Nat.le_refl _) (I1.hok.fresh (Nat.le_refl _))
theorem range_it {pins : List (Addr × Obj)} {σ : St} {H : Hp} {s : Shared} {R : It → Hp → Prop} {E : Value → Shared → Prop} {lo hi : Int} {t u v : Tok} {tk : Nat} (I : Inv X pins σ H s) (h1 : -(2 ^ 62) ≤ lo) (h2 : lo < 2 ^ 62) (h3 : -(2 ^ 62) ≤ hi) (h4 : hi < 2 ^ 62)
    (q : R (Itr lo (hi - lo).toNat) H) : wpAny (model X.prog X.w) X.A (pyIter (.ref s.heap.objs.size)) (PIE X pins σ tg R) E { s with heap := s.heap.push { cls := .type "range", data := .fields #[.int lo t, .int hi u, .int 1 v] }, toks := tk } := by
  refine wpAny_pyIter_range (IsRange.new ..) (small_one h1 h2 h3 h4) ?_
  have I1 : Inv X pins σ H { s with heap := s.heap.push { cls := .type "range", data := .fields #[.int lo t, .int hi u, .int 1 v] }, toks := tk } := I.kept fun b o e => Heap.get?_push_of_some _ e
  refine ⟨(s.heap.push { cls := .type "range", data := .fields #[.int lo t, .int hi u, .int 1 v] }).objs.size, [(s.heap.push { cls := .type "range", data := .fields #[.int lo t, .int hi u, .int 1 v] }).objs.size], _, _, H, rfl,
    I1.kept (t' := tk) fun b o e => Heap.get?_push_of_some _ e, turn_range _ lo (hi - lo).toNat, ?_, fun b hb => ?_, q⟩
  · have e1 : lo + ((0 : Nat) : Int) * 1 = lo := by simp
    have e2 : (((hi - lo).toNat : Nat) : Int) - ((0 : Nat) : Int) = Builtin.Range.rangeSize lo hi 1 := by rw [rangeSize_one]; split <;> omega
    show IsRangeIter _ _ (lo + ((0 : Nat) : Int) * 1) ((((hi - lo).toNat : Nat) : Int) - ((0 : Nat) : Int)) 1
    rw [e1, e2]
    exact Heap.get?_push_size _ rfl
  · have e : b = (s.heap.push { cls := .type "range", data := .fields #[.int lo t, .int hi u, .int 1 v] }).objs.size := by simpa using hb
    subst e
    exact I1.fpOk (Nat.le_refl _) (I1.hok.fresh (Nat.le_refl _))
def iRng1 (ta : TA) : TI := fun σ H R => ta σ H fun vs H1 => ∃ j : Int, vs = [.int j] ∧ -(2 ^ 62) ≤ j ∧ j < 2 ^ 62 ∧ R (Itr 0 j.toNat) H1
theorem pi_range1 {a : Expr} {ta : TA} {p pos : Pos} (hg : Gl X "range") (hm : X.mg "range" = none) (ha : PA X [a] ta) (hs : starEach [a] X.env = [(false, eval a X.env)] := by rfl) : PI X tg (.Call (.Name "range" p) [a] [] pos) (iRng1 ta) := by
  intro pins s σ H R I h
  refine Call_ (ld_blt I hg hm boot_range (PyProof.Rows.callWith_type1 (thn (ha pos pins s σ H _ I h) fun us s1 ⟨vs, H1, I1, r1, q1⟩ => ?_) hs rfl))
  obtain ⟨j, e, q1, q2, q⟩ := q1
  subst e
  cases r1 with
  | cons r rr =>
    cases rr
    obtain ⟨t, rfl⟩ := r
    exact call_range_1 (range_it I1 (by omega) (by omega) q1 q2 (by simpa using q))
def tFor (wi : TI) (g : TG) (tb : TS) : TS := fun D σ H => wi σ H fun J H1 => ∃ W : Nat → Nat → St → Hp → Prop, (∃ m, W 0 m σ H1) ∧ ∀ i m σ H, W i m σ H →
  (J.stop i H ∧ D.nx σ H) ∨ (J.go i H ∧ ∃ N : St → Hp → Prop, (∀ σ' H', N σ' H' → ∃ m', m' < m ∧ W (i + 1) m' σ' H') ∧ ∀ x H', J.yld i H x H' → g x σ H' fun σ2 H2 => tb { D with nx := N, ct := N, bk := D.nx } σ2 H2)
def pinsAt (fp : List Addr) (h : Heap) : List (Addr × Obj) := fp.filterMap fun b => (h.get? b).map fun o => (b, o)
theorem mem_pinsAt {fp : List Addr} {h : Heap} {b : Addr} {o : Obj} (hb : b ∈ fp) (e : h.get? b = some o) : (b, o) ∈ pinsAt fp h := List.mem_filterMap.mpr ⟨b, hb, by rw [e]; rfl⟩
theorem of_pinsAt {fp : List Addr} {h : Heap} {p : Addr × Obj} (hp : p ∈ pinsAt fp h) : p.1 ∈ fp ∧ h.get? p.1 = some p.2 := by
  obtain ⟨b, hb, e⟩ := List.mem_filterMap.mp hp
  cases q : h.get? b with
  | none => rw [q] at e; cases e
  | some o =>
    rw [q] at e
    have e' : (b, o) = p := Option.some.inj e
    subst e'
    exact ⟨hb, q⟩
theorem Inv.pinned {pins : List (Addr × Obj)} {σ : St} {H : Hp} {s : Shared} {fp : List Addr} (I : Inv X pins σ H s) (hf : ∀ b ∈ fp, FpOk X pins H b) (ho : ∀ b ∈ fp, ∃ o, s.heap.get? b = some o ∧ ∀ v, o.data ≠ .cell v) : Inv X (pins ++ pinsAt fp s.heap) σ H s :=
  I.pins_of fun p hp => (List.mem_append.mp hp).elim (fun z => I.pin p (List.mem_append_right _ z)) fun z => by
    obtain ⟨hb, e⟩ := of_pinsAt z
    obtain ⟨f0, f1, f2, _⟩ := hf p.1 hb
    obtain ⟨o, e', d⟩ := ho p.1 hb
    rw [e] at e'; cases e'
    exact ⟨e, f0, f1, f2, d⟩
theorem Inv.unpinned {pins pl : List (Addr × Obj)} {σ : St} {H : Hp} {s : Shared} (I : Inv X (pins ++ pl) σ H s) : Inv X pins σ H s := I.pins_of fun p hp => I.pin p (List.mem_append_right _ (List.mem_append_left _ hp))
theorem ps_for {iter : Expr} {body : List Stmt} {wi : TI} {g : TG} {tb : TS} {pos : Pos} (hp : PassesOwn (model X.prog X.w) X.A X.env X.xe) (hc : X.calm = true) (hi : PI X tg iter wi) (hg : PG X tg g) (hb : PSs X body tb)
    (hs : ∀ x, foldedSetIterable iter X.env x = pure x := by intro _; rfl) : PS X (.For tg iter body [] pos) (tFor wi g tb) := by
  intro pins s σ H D I h
  refine wpAny_For (thn (hi pins s σ H _ I h) fun v s1 h1 => thn h1 fun itv s2 h2 => ?_) hs
  obtain ⟨it, fp, tn, J, H2, e, I2, T, st2, f2, W, ⟨m0, w0⟩, turn⟩ := h2
  subst e
  -- what stays true of the iterator's objects through the loop
  have stat : ∀ {H' : Hp}, (∀ b ∈ fp, H' b = none) → ∀ b ∈ fp, FpOk X pins H' b := fun hn b hb => ⟨hn b hb, (f2 b hb).2⟩
  refine codeAny_forLoop_any (fun n s' => ∃ i σ' H', Inv X pins σ' H' s' ∧ tn i s'.heap ∧ (∀ b ∈ fp, H' b = none) ∧ W i n σ' H') ?_ m0 ⟨0, σ, H2, I2, st2, fun b hb => (f2 b hb).1, w0⟩
  rintro n s3 ⟨i, σ3, H3, I3, st3, fr3, w3⟩
  rcases turn i n σ3 H3 w3 with ⟨stop, qn⟩ | ⟨go, N, hN, step⟩
  · refine wpAny_passesOwn hp (thn (T.done X rfl rfl rfl hc i pins s3 σ3 H3 X.xe I3 (stat fr3) st3 stop) fun r s4 ⟨hr, I4⟩ => ?_)
    subst hr
    exact wpAny_execs_nil ⟨σ3, H3, I4, qn⟩
  · refine wpAny_passesOwn hp (thn (T.item X rfl rfl rfl hc i pins s3 σ3 H3 X.xe I3 (stat fr3) st3 go) fun r s4 ⟨u, hr, h4⟩ => ?_)
    subst hr
    refine wpAny_passesOwn hp (thn h4 fun _ s5 ⟨x, H5, I5, r5, y5, st5, fr5⟩ => ?_)
    have I5' := I5.pinned (stat fr5) (T.obj _ _ st5)
    refine wpAny_passesOwn hp (thn (hg _ s5 σ3 H5 x u _ I5' r5 (step x H5 y5)) fun _ s6 ⟨σ6, H6, I6, q6⟩ => ?_)
    refine wpAny_passesOwn hp (thn (hb _ s6 σ6 H6 _ I6 q6) fun f s7 q7 => ?_)
    have again : ∀ {σ7 : St} {H7 : Hp}, Inv X (pins ++ pinsAt fp s5.heap) σ7 H7 s7 → N σ7 H7 → ∃ m, m < n ∧ ∃ i σ' H', Inv X pins σ' H' s7 ∧ tn i s7.heap ∧ (∀ b ∈ fp, H' b = none) ∧ W i m σ' H' := fun {σ7 H7} I7 n7 => by
      obtain ⟨m', hm, w7⟩ := hN σ7 H7 n7
      refine ⟨m', hm, i + 1, σ7, H7, I7.unpinned, T.keep _ _ _ st5 fun b hb o e => (I7.pin (b, o) (List.mem_append_right _ (List.mem_append_right _ (mem_pinsAt hb e)))).1, fun b hb => ?_, w7⟩
      obtain ⟨o, e, d⟩ := T.obj _ _ st5 b hb
      exact (I7.pin (b, o) (List.mem_append_right _ (List.mem_append_right _ (mem_pinsAt hb e)))).2.1
    cases f with
    | next => obtain ⟨σ7, H7, I7, n7⟩ := q7; exact again I7 n7
    | cont => obtain ⟨σ7, H7, I7, n7⟩ := q7; exact again I7 n7
    | brk => obtain ⟨σ7, H7, I7, q7⟩ := q7; exact ⟨σ7, H7, I7.unpinned, q7⟩
    | ret v => obtain ⟨x7, σ7, H7, I7, r7, q7⟩ := q7; exact ⟨x7, σ7, H7, I7.unpinned, r7, q7⟩
end
end L2
namespace L2
open PySem PySem.Spec PyProof.Rows
abbrev R2 := V → V → Hp → VK → Prop
def OpR (X : Cx) (f : Value → Value → Sem Value) (r : R2) : Prop :=
  ∀ (pins : List (Addr × Obj)) (s : Shared) (σ : St) (H : Hp) (x y : V) (v u : Value) (Q : VK), Inv X pins σ H s → RelV x v → RelV y u → r x y H Q →
    wpAny (model X.prog X.w) X.A (f v u) (EP X pins σ Q) X.xe s
def UnR (X : Cx) (f : Value → Sem Value) (r : V → Hp → VK → Prop) : Prop :=
  ∀ (pins : List (Addr × Obj)) (s : Shared) (σ : St) (H : Hp) (x : V) (v : Value) (Q : VK), Inv X pins σ H s → RelV x v → r x H Q →
    wpAny (model X.prog X.w) X.A (f v) (EP X pins σ Q) X.xe s
def CallR (X : Cx) (f : Value) (r : List V → Hp → VK → Prop) : Prop :=
  ∀ (pins : List (Addr × Obj)) (s : Shared) (σ : St) (H : Hp) (xs : List V) (us : List Value) (Q : VK), Inv X pins σ H s → Vals xs us → r xs H Q →
    wpAny (model X.prog X.w) X.A (call f us) (EP X pins σ Q) X.xe s
def TruR (X : Cx) (r : V → Hp → (Bool → Hp → Prop) → Prop) : Prop :=
  ∀ (pins : List (Addr × Obj)) (s : Shared) (σ : St) (H : Hp) (x : V) (v : Value) (Q : Bool → Hp → Prop), Inv X pins σ H s → RelV x v → r x H Q →
    wpAny (model X.prog X.w) X.A (truthy v) (TP X pins σ Q) X.xe s
def tOp (r : R2) (ta tb : TE) : TE := fun σ H Q => ta σ H fun x H1 => tb σ H1 fun y H2 => r x y H2 Q
def tUn (r : V → Hp → VK → Prop) (ta : TE) : TE := fun σ H Q => ta σ H fun x H1 => r x H1 Q
def rI (C : Int → Int → Prop) (g : Int → Int → V) : R2 := fun x y H Q => ∃ i j, x = .int i ∧ y = .int j ∧ C i j ∧ Q (g i j) H
def rI0 (g : Int → Int → V) : R2 := fun x y H Q => ∃ i j, x = .int i ∧ y = .int j ∧ Q (g i j) H
def rU (g : Int → V) : V → Hp → VK → Prop := fun x H Q => ∃ i, x = .int i ∧ Q (g i) H
section
variable {X : Cx} {a b c : Expr} {ta tb tc : TE} {pos : Pos}
theorem binT (ha : PE X a ta) (hb : PE X b tb) {pins : List (Addr × Obj)} {s : Shared} {σ : St} {H : Hp} {R : V → V → Hp → Prop} (I : Inv X pins σ H s)
    (h : ta σ H fun x H1 => tb σ H1 fun y H2 => R x y H2) {Q : Value → Shared → Prop} {f : Value → Value → Sem Value}
    (hf : ∀ v u s2 x y H2, Inv X pins σ H2 s2 → RelV x v → RelV y u → R x y H2 → wpAny (model X.prog X.w) X.A (f v u) Q X.xe s2) :
    wpAny (model X.prog X.w) X.A (eval a X.env) (fun v s₁ => wpAny (model X.prog X.w) X.A (eval b X.env) (fun u s₂ => wpAny (model X.prog X.w) X.A (f v u) Q X.xe s₂) X.xe s₁) X.xe s := by
  refine thn (ha pins s σ H _ I h) fun v s1 ⟨x, H1, I1, r1, q1⟩ => ?_
  refine thn (hb pins s1 σ H1 _ I1 q1) fun u s2 ⟨y, H2, I2, r2, q2⟩ => ?_
  exact hf v u s2 x y H2 I2 r1 r2 q2
theorem pe_op {op : Operator} {r : R2} (ho : OpR X (binaryOp op) r) (ha : PE X a ta) (hb : PE X b tb) : PE X (.BinOp a op b pos) (tOp r ta tb) := by
  intro pins s σ H Q I h
  exact wpAny_BinOp (binT ha hb I h fun v u s2 x y H2 I2 rx ry q => ho pins s2 σ H2 x y v u Q I2 rx ry q)
theorem pe_un {op : UnaryOp} {r : V → Hp → VK → Prop} (ho : UnR X (unaryOp op) r) (ha : PE X a ta) : PE X (.UnaryOp op a pos) (tUn r ta) := by
  intro pins s σ H Q I h
  exact UnaryOp_ (thn (ha pins s σ H _ I h) fun v s1 ⟨x, H1, I1, r1, q1⟩ => ho pins s1 σ H1 x v Q I1 r1 q1)
theorem opI {f : Value → Value → Sem Value} {C : Int → Int → Prop} {g : Int → Int → Int}
    (rule : ∀ (i j : Int) (t u : Tok) (s : Shared) (Q : Value → Shared → Prop) (E : Value → Shared → Prop), C i j → Q (.int (g i j) s.toks) { s with toks := s.toks + 1 } → wpAny (model X.prog X.w) X.A (f (.int i t) (.int j u)) Q E s) :
    OpR X f (rI C fun i j => .int (g i j)) := by
  intro pins s σ H x y v u Q I rx ry h
  obtain ⟨i, j, rfl, rfl, hc, q⟩ := h
  obtain ⟨t, rfl⟩ := rx
  obtain ⟨t', rfl⟩ := ry
  exact rule i j t t' s _ _ hc ⟨.int (g i j), H, I.tok _, ⟨_, rfl⟩, q⟩
theorem opI0 {f : Value → Value → Sem Value} {g : Int → Int → Int}
    (rule : ∀ (i j : Int) (t u : Tok) (s : Shared) (Q : Value → Shared → Prop) (E : Value → Shared → Prop), Q (.int (g i j) s.toks) { s with toks := s.toks + 1 } → wpAny (model X.prog X.w) X.A (f (.int i t) (.int j u)) Q E s) :
    OpR X f (rI0 fun i j => .int (g i j)) := by
  intro pins s σ H x y v u Q I rx ry h
  obtain ⟨i, j, rfl, rfl, q⟩ := h
  obtain ⟨t, rfl⟩ := rx
  obtain ⟨t', rfl⟩ := ry
  exact rule i j t t' s _ _ ⟨.int (g i j), H, I.tok _, ⟨_, rfl⟩, q⟩
theorem opB0 {f : Value → Value → Sem Value} {g : Int → Int → Bool}
    (rule : ∀ (i j : Int) (t u : Tok) (s : Shared) (Q : Value → Shared → Prop) (E : Value → Shared → Prop), Q (.bool (g i j)) s → wpAny (model X.prog X.w) X.A (f (.int i t) (.int j u)) Q E s) :
    OpR X f (rI0 fun i j => .bl (g i j)) := by
  intro pins s σ H x y v u Q I rx ry h
  obtain ⟨i, j, rfl, rfl, q⟩ := h
  obtain ⟨t, rfl⟩ := rx
  obtain ⟨t', rfl⟩ := ry
  exact rule i j t t' s _ _ ⟨.bl (g i j), H, I, rfl, q⟩
def CMul (i j : Int) : Prop := (-(2 ^ 64) < i ∧ i < 2 ^ 64) ∨ (-(2 ^ 64) < j ∧ j < 2 ^ 64)
theorem CMul.ok {i j : Int} (h : CMul i j) : IntMulOk i j := by
  rcases h with ⟨h1, h2⟩ | ⟨h1, h2⟩
  · exact .of_left (intBits_le_64 h1 h2)
  · exact .of_right (intBits_le_64 h1 h2)
theorem op_add : OpR X (binaryOp .Add) (rI0 fun i j => .int (i + j)) := opI0 fun _ _ _ _ _ _ _ q => add_int q
theorem op_sub : OpR X (binaryOp .Sub) (rI0 fun i j => .int (i - j)) := opI0 fun _ _ _ _ _ _ _ q => sub_int q
theorem op_mul : OpR X (binaryOp .Mult) (rI CMul fun i j => .int (i * j)) := opI fun _ _ _ _ _ _ _ hc q => mul_int q hc.ok
theorem op_mod : OpR X (binaryOp .Mod) (rI (fun _ j => 0 < j) fun i j => .int (i % j)) := opI fun i j _ _ _ _ _ hc q => by
  have h1 : (0 : Int) < j := hc
  exact mod_int' (by omega) (by rw [Int.fmod_eq_emod_of_nonneg i (by omega)]; exact q)
theorem unI {f : Value → Sem Value} {g : Int → Int}
    (rule : ∀ (i : Int) (t : Tok) (s : Shared) (Q : Value → Shared → Prop) (E : Value → Shared → Prop), Q (.int (g i) s.toks) { s with toks := s.toks + 1 } → wpAny (model X.prog X.w) X.A (f (.int i t)) Q E s) :
    UnR X f (rU fun i => .int (g i)) := by
  intro pins s σ H x v Q I rx h
  obtain ⟨i, rfl, q⟩ := h
  obtain ⟨t, rfl⟩ := rx
  exact rule i t s _ _ ⟨.int (g i), H, I.tok _, ⟨_, rfl⟩, q⟩
theorem un_neg : UnR X (unaryOp .USub) (rU fun i => .int (-i)) := unI fun _ _ _ _ _ q => neg_int q
end
section
variable {X : Cx} {a b c : Expr} {ta tb tc : TE} {pos : Pos}
theorem fin_bl {pins : List (Addr × Obj)} {σ : St} {H : Hp} {s : Shared} {Q : VK} {k k' : Bool} (I : Inv X pins σ H s) (q : Q (.bl k) H) (e : k = k') : EP X pins σ Q (.bool k') s := by
  subst e
  exact ⟨.bl k, H, I, rfl, q⟩
theorem op_lt : OpR X (compareOp .Lt) (rI0 fun i j => .bl (decide (i < j))) := opB0 fun _ _ _ _ _ _ _ q => lt_int q
theorem op_gt : OpR X (compareOp .Gt) (rI0 fun i j => .bl (decide (j < i))) := opB0 fun _ _ _ _ _ _ _ q => gt_int q
theorem op_lt_str : OpR X (compareOp .Lt) (fun x y H Q => ∃ i j, x = .str i ∧ y = .str j ∧ Q (.bl (decide (i.cps.toList < j.cps.toList))) H) := by
  intro pins s σ H x y v u Q I rx ry h
  obtain ⟨i, j, rfl, rfl, q⟩ := h
  obtain ⟨t, rfl⟩ := rx
  obtain ⟨t', rfl⟩ := ry
  exact lt_str (fin_bl I q rfl)
theorem op_in_str : OpR X (compareOp .In) (fun x y H Q => ∃ i j, x = .str i ∧ y = .str j ∧ Q (.bl (!(Builtin.Str.occurrences j i 0 j.length 1).isEmpty)) H) := by
  intro pins s σ H x y v u Q I rx ry h
  obtain ⟨i, j, rfl, rfl, q⟩ := h
  obtain ⟨t, rfl⟩ := rx
  obtain ⟨t', rfl⟩ := ry
  exact in_str (fin_bl I q rfl)
theorem OpR.or {f : Value → Value → Sem Value} {r r' : R2} (h : OpR X f r) (h' : OpR X f r') : OpR X f (fun x y H Q => r x y H Q ∨ r' x y H Q) := by
  intro pins s σ H x y v u Q I rx ry q
  rcases q with q | q
  · exact h pins s σ H x y v u Q I rx ry q
  · exact h' pins s σ H x y v u Q I rx ry q
theorem nomark (b : Expr) {op : CmpOp} (h : op ≠ .In := by decide) (h2 : op ≠ .NotIn := by decide) : behindInMarks op b = false := by
  have e1 : (op == CmpOp.In) = false := by cases op <;> first | rfl | exact absurd rfl h
  have e2 : (op == CmpOp.NotIn) = false := by cases op <;> first | rfl | exact absurd rfl h2
  cases b <;> simp [behindInMarks, e1, e2]
theorem pe_cmpR {op : CmpOp} {r : R2} (ho : OpR X (compareOp op) r) (ha : PE X a ta) (hb : PE X b tb) (hm : behindInMarks op b = false) : PE X (.Compare a [op] [b] pos) (tOp r ta tb) := by
  intro pins s σ H Q I h
  exact wpAny_Compare1 (binT ha hb I h fun v u s2 x y H2 I2 rx ry q => ho pins s2 σ H2 x y v u Q I2 rx ry q) hm
def tTest (t : TE) : TT := fun σ H Q => t σ H fun x H' => ∃ k, x = .bl k ∧ Q k H'
theorem pt_cmpR {op : CmpOp} {r : R2} (ho : OpR X (compareOp op) r) (ha : PE X a ta) (hb : PE X b tb) (hm : behindInMarks op b = false) : PT X (.Compare a [op] [b] pos) (tTest (tOp r ta tb)) := by
  intro pins s σ H Q I h
  refine wpAny_isTrue_Compare1 (thn (ha pins s σ H _ I h) fun v s1 ⟨x, H1, I1, r1, q1⟩ => thn (hb pins s1 σ H1 _ I1 q1) fun u s2 ⟨y, H2, I2, r2, q2⟩ =>
    thn (ho pins s2 σ H2 x y v u _ I2 r1 r2 q2) fun c s3 ⟨z, H3, I3, r3, k, e, q3⟩ => ?_) hm
  subst e
  cases r3
  exact wpAny_truthy_bool ⟨H3, I3, q3⟩
def TruV (K : PySem.W.Frag) (x : V) (H : Hp) (k : Bool) : Prop :=
  match x with
  | .non => k = false
  | .bl b => k = b
  | .int i => k = (i != 0)
  | .str y => y.length ≤ sizeLine ∧ k = ((y.length : Int) != 0)
  | .byt y => y.size ≤ sizeLine ∧ k = ((y.size : Int) != 0)
  | .ref p => (∃ xs, SqL K H p xs ∧ k = !xs.isEmpty) ∨ (∃ xs, SqT K H p xs ∧ k = !xs.isEmpty) ∨ ∃ kvs, H p = some (.dK kvs) ∧ k = !kvs.isEmpty
  | _ => False
theorem isEmpty_kv {κ : Type} {kvs : List (κ × V)} {vs : List (κ × Value)} (r : KV kvs vs) : (!vs.isEmpty) = !kvs.isEmpty := by
  cases r <;> rfl
theorem isEmpty_of {xs : List V} {its : List Value} (r : Vals xs its) : (!its.toArray.isEmpty) = !xs.isEmpty := by
  cases r <;> simp
theorem line63 : (sizeLine : Nat) < 2 ^ 63 := by rw [sizeLine_eq]; decide
theorem tru_ok : TruR X (fun x H Q => ∃ k, TruV X.K x H k ∧ Q k H) := by
  intro pins s σ H x v Q I rx h
  obtain ⟨k, e, q⟩ := h
  have hl := line63
  have hs : sizeLine = 16777216 := sizeLine_eq
  cases x with
  | non =>
    cases rx
    have e' : k = false := e
    subst e'
    exact truthy_none ⟨H, I, q⟩
  | bl b =>
    cases rx
    have e' : k = b := e
    subst e'
    exact wpAny_truthy_bool ⟨H, I, q⟩
  | int i =>
    obtain ⟨t, rfl⟩ := rx
    have e' : k = (i != 0) := e
    subst e'
    exact PySem.P.truthy_int ⟨H, I, q⟩
  | str y =>
    obtain ⟨t, rfl⟩ := rx
    obtain ⟨hy, e'⟩ : y.length ≤ sizeLine ∧ k = ((y.length : Int) != 0) := e
    subst e'
    exact PySem.P.truthy_str (by omega) ⟨H, I.tok _, q⟩
  | byt y =>
    obtain ⟨t, rfl⟩ := rx
    obtain ⟨hy, e'⟩ : y.size ≤ sizeLine ∧ k = ((y.size : Int) != 0) := e
    subst e'
    exact PySem.W.truthy_bytes (by omega) ⟨H, I.tok _, q⟩
  | ref p =>
    cases rx
    have e' : (∃ xs, SqL X.K H p xs ∧ k = !xs.isEmpty) ∨ (∃ xs, SqT X.K H p xs ∧ k = !xs.isEmpty) ∨ ∃ kvs, H p = some (.dK kvs) ∧ k = !kvs.isEmpty := e
    rcases e' with ⟨xs, hx, e'⟩ | ⟨xs, hx, e'⟩ | ⟨kvs, hx, e'⟩
    · subst e'
      obtain ⟨its, r, pl, hz⟩ := I.list hx
      have hlen := r.length
      exact wpAny_truthy_list pl.isList (by simp only [List.size_toArray]; omega) ⟨H, I.tok _, by rw [isEmpty_of r]; exact q⟩
    · subst e'
      obtain ⟨its, r, pl, hz⟩ := I.tuple hx
      have hlen := r.length
      exact truthy_tuple pl (by simp only [List.size_toArray]; omega) ⟨H, I.tok _, by rw [isEmpty_of r]; exact q⟩
    · subst e'
      obtain ⟨hz, hS, vs, r, m⟩ : kvs.length ≤ sizeLine ∧ (p == sysModules) = false ∧ ∃ vs, KV kvs vs ∧ s.heap.DictOf (mixKind X.prog X.w) p vs := I.hok p _ hx
      have hlen : kvs.length = vs.length := Paired.length r
      exact wpAny_truthy_dict hS m (by omega) ⟨H, I.tok _, by rw [isEmpty_kv r]; exact q⟩
  | _ => exact (show False from e).elim
theorem pt_truth (ha : PE X a ta) (he : ∀ whole, isTrue a X.env whole = (do let v ← whole; standAt a.pos; holding [v] (truthy v))) :
    PT X a (fun σ H Q => ta σ H fun x H' => ∃ k, TruV X.K x H' k ∧ Q k H') := by
  intro pins s σ H Q I h
  exact isTrue_plain (thn (ha pins s σ H _ I h) fun v s1 ⟨x, H1, I1, r1, q1⟩ => tru_ok pins s1 σ H1 x v Q I1 r1 q1) (he _)
theorem op_add_str : OpR X (binaryOp .Add) (fun x y H Q => ∃ i j, x = .str i ∧ y = .str j ∧ i.length + j.length ≤ sizeLine ∧ Q (.str (i ++ j)) H) := by
  intro pins s σ H x y v u Q I rx ry h
  obtain ⟨i, j, rfl, rfl, hz, q⟩ := h
  obtain ⟨t, rfl⟩ := rx
  obtain ⟨t', rfl⟩ := ry
  exact add_str (fun t' tk => ⟨.str (i ++ j), H, I.tok _, ⟨_, rfl⟩, q⟩) hz
theorem vals1 {x : V} {us : List Value} (r : Vals [x] us) : ∃ u, us = [u] ∧ RelV x u := by
  cases r with
  | cons r1 r2 => cases r2; exact ⟨_, rfl, r1⟩
theorem vals2 {x y : V} {us : List Value} (r : Vals [x, y] us) : ∃ u w', us = [u, w'] ∧ RelV x u ∧ RelV y w' := by
  cases r with
  | cons r1 r2 =>
    cases r2 with
    | cons r3 r4 => cases r4; exact ⟨_, _, rfl, r1, r3⟩
theorem call_max2 (hc : X.calm = true) : CallR X (.builtin "max") (fun xs H Q => ∃ i j, xs = [.int i, .int j] ∧ Q (.int (if j > i then j else i)) H) := by
  intro pins s σ H xs us Q I r h
  obtain ⟨i, j, rfl, q⟩ := h
  obtain ⟨u, w', rfl, ⟨t, rfl⟩, ⟨t', rfl⟩⟩ := vals2 r
  refine max_two_ints (I.ok.hd hc) fun h' tk k => ⟨_, H, I.kept k, ?_, q⟩
  by_cases hj : j > i
  · rw [if_pos hj, if_pos hj]; exact ⟨_, rfl⟩
  · rw [if_neg hj, if_neg hj]; exact ⟨_, rfl⟩
theorem call_min2 (hc : X.calm = true) : CallR X (.builtin "min") (fun xs H Q => ∃ i j, xs = [.int i, .int j] ∧ Q (.int (if j < i then j else i)) H) := by
  intro pins s σ H xs us Q I r h
  obtain ⟨i, j, rfl, q⟩ := h
  obtain ⟨u, w', rfl, ⟨t, rfl⟩, ⟨t', rfl⟩⟩ := vals2 r
  refine min_two_ints (I.ok.hd hc) fun h' tk k => ⟨_, H, I.kept k, ?_, q⟩
  by_cases hj : j < i
  · rw [if_pos hj, if_pos hj]; exact ⟨_, rfl⟩
  · rw [if_neg hj, if_neg hj]; exact ⟨_, rfl⟩
def LenV (K : PySem.W.Frag) (x : V) (H : Hp) (n : Nat) : Prop :=
  match x with
  | .str y => y.length ≤ sizeLine ∧ n = y.length
  | .byt y => y.size ≤ sizeLine ∧ n = y.size
  | .ref p => (∃ xs, SqL K H p xs ∧ n = xs.length) ∨ ∃ xs, SqT K H p xs ∧ n = xs.length
  | _ => False
theorem call_len : CallR X (.builtin "len") (fun xs H Q => ∃ x n, xs = [x] ∧ LenV X.K x H n ∧ Q (.int n) H) := by
  intro pins s σ H xs us Q I r h
  obtain ⟨x, n, rfl, e, q⟩ := h
  obtain ⟨u, rfl, rx⟩ := vals1 r
  have hl := line63
  have hs : sizeLine = 16777216 := sizeLine_eq
  cases x with
  | str y =>
    obtain ⟨t, rfl⟩ := rx
    obtain ⟨hy, e'⟩ : y.length ≤ sizeLine ∧ n = y.length := e
    subst e'
    exact len_str (by omega) ⟨.int _, H, I.tok _, ⟨_, rfl⟩, q⟩
  | byt y =>
    obtain ⟨t, rfl⟩ := rx
    obtain ⟨hy, e'⟩ : y.size ≤ sizeLine ∧ n = y.size := e
    subst e'
    exact PySem.W.len_bytes (by omega) ⟨.int _, H, I.tok _, ⟨_, rfl⟩, q⟩
  | ref p =>
    cases rx
    have e' : (∃ xs, SqL X.K H p xs ∧ n = xs.length) ∨ ∃ xs, SqT X.K H p xs ∧ n = xs.length := e
    rcases e' with ⟨xs, hx, e'⟩ | ⟨xs, hx, e'⟩
    · subst e'
      obtain ⟨its, r', pl, hz⟩ := I.list hx
      have hlen := r'.length
      exact Calls.call_len_list pl.isList (by simp only [List.size_toArray]; omega) ⟨.int xs.length, H, I.tok _, ⟨_, by simp only [List.size_toArray]; rw [hlen]⟩, q⟩
    · subst e'
      obtain ⟨its, r', pl, hz⟩ := I.tuple hx
      have hlen := r'.length
      exact len_tuple pl (by simp only [List.size_toArray]; omega) ⟨.int xs.length, H, I.tok _, ⟨_, by simp only [List.size_toArray]; rw [hlen]⟩, q⟩
  | _ => exact (show False from e).elim
end
end L2
namespace L2
open PySem PySem.Spec PyProof.Rows
structure ObjM (h : Heap) (x dx C : Addr) (mA : Str → Option Value) : Prop where
  obj : h.get? x = some (PySem.W.instObj C dx)
  ns : h.Ns1 dx mA
  ne : dx ≠ x
theorem lookIn_ns {h : Heap} {dx : Addr} {mA : Str → Option Value} (n : h.Ns1 dx mA) : ∃ od, h.get? dx = some od ∧ ∀ name, PySem.W.lookIn name od = some (mA name) := by
  obtain ⟨o, es, ep, ho, hd, hk, _, hm⟩ := n
  refine ⟨o, ho, fun name => ?_⟩
  have e := hm name
  unfold nsFind findBy at e
  rw [← Array.find?_toList] at e
  unfold PySem.W.lookIn
  rw [hd]
  dsimp only
  split
  · rename_i y q
    rw [q] at e
    exact congrArg some e
  · rename_i q
    rw [q] at e
    have a : es.toList.any (·.refKey) = false := by
      rw [List.any_eq_false]
      intro y hy
      obtain ⟨z, t, hkey⟩ := hk y (Array.mem_toList_iff.mp hy)
      simp [DictEntry.refKey, hkey]
    have a' : ¬ es.toList.any (·.refKey) = true := by rw [a]; exact Bool.false_ne_true
    rw [if_neg a']
    exact congrArg some e
theorem ObjM.look {h : Heap} {x dx C : Addr} {mA : Str → Option Value} (I : ObjM h x dx C mA) : ∃ od, PySem.W.InstAt h x (PySem.W.instObj C dx) C (some od) ∧ ∀ name, PySem.W.lookIn name od = some (mA name) :=
  let ⟨od, ho, hl⟩ := lookIn_ns I.ns
  ⟨od, ⟨I.obj, rfl, rfl, ho⟩, hl⟩
section
variable {prog : Program} {w : World} {A : Around} {E : Value → Shared → Prop} {s : Shared} {K : PySem.W.Frag} {x dx C f : Addr} {mA : Str → Option Value} {name : Str} {v : Value}
end
theorem RelO.some_of {v : V} {o : Option Value} (r : RelO (some v) o) : ∃ u, o = some u ∧ RelV v u := by
  cases o with
  | none => exact (show False from r).elim
  | some u => exact ⟨u, rfl, r⟩
section
variable {P : Program} {w : World} {H H' : Hp} {h h' : Heap} {a C dx : Addr} {fs fs' : List (Str × V)}
theorem ins_get (hok : HOk P w H h) (e : H a = some (.ins C dx fs)) : ∃ mA, ObjM h a dx C mA ∧ (∀ f, RelO (fs.lookup f) (mA f)) ∧ PySem.Within mA (fs.map (·.1)) ∧ fs.length ≤ 1000 ∧ H dx = some (.own a) := by
  obtain ⟨d, z, ne, ob, mA, n, r, q⟩ := (show ObjOk P w H h a (.ins C dx fs) from hok a _ e)
  exact ⟨mA, ⟨ob, n, ne⟩, r, q, z, d⟩
end
structure Cls (K : PySem.W.Frag) (C : Addr) : Prop where
  pg : PySem.W.plainGet K C Str.empty = true
  hd : PySem.W.hasDictIn K C = true
  po : PySem.W.plainOver K C = true
  sa : PySem.W.findIn K (.ref C) "__setattr__" = some (some (.builtin "object.__setattr__"))
theorem Cls.get {K : PySem.W.Frag} {C : Addr} (c : Cls K C) (f : Str) : PySem.W.plainGet K C f = true := c.pg
section
variable {X : Cx} {pins : List (Addr × Obj)} {σ : St} {H : Hp} {s : Shared} {a C dx : Addr} {fs : List (Str × V)} {f : Str} {v : V} {A : Around} {E : Value → Shared → Prop}
end
section
variable {X : Cx} {o e value : Expr} {f : Str} {pos pos' tpos : Pos} {ta tv : TE}
end
section
variable {X : Cx} {pins : List (Addr × Obj)} {σ : St} {H : Hp} {s : Shared} {A : Around} {E : Value → Shared → Prop} {Q : Value → Shared → Prop} {c : Value} {b : Bool}
inductive TyOf (K : PySem.W.Frag) (H : Hp) : V → Value → Prop where
  | non : TyOf K H .non (.type "NoneType")
  | bl (x : Bool) : TyOf K H (.bl x) (.type "bool")
  | int (i : Int) : TyOf K H (.int i) (.type "int")
  | str (x : Str) : TyOf K H (.str x) (.type "str")
  | flt (x : UInt64) : TyOf K H (.flt x) (.type "float")
  | lst {a : Addr} {xs : List V} (e : H a = some (.lst xs)) : TyOf K H (.ref a) (.type "list")
  | frz {a : Addr} {o : Obj} {xs : List V} (e : H a = some (.frz o (.lst xs))) : TyOf K H (.ref a) (.type "list")
  | tup {a : Addr} {xs : List V} (e : H a = some (.tup xs)) : TyOf K H (.ref a) (.type "tuple")
  | dK {a : Addr} {kvs : List (Key × V)} (e : H a = some (.dK kvs)) : TyOf K H (.ref a) (.type "dict")
  | dT {a : Addr} {kvs : List (List Key × V)} (e : H a = some (.dT kvs)) : TyOf K H (.ref a) (.type "dict")
  | ins {a C dx : Addr} {fs : List (Str × V)} (e : H a = some (.ins C dx fs)) (cl : Cls K C) (ha : PySem.W.findIn K (.ref C) "__class__" = some (some (.builtin "object.__class__")))
      (hn : PySem.W.specialIn K (.builtin "object.__class__") "__get__" = some (some (.builtin "getset_descriptor.__get__"))) (htk : PySem.W.takesIn K (.builtin "object.__class__") = some true)
      (hm : PySem.W.mroIn K C (.type "object") = some true) : TyOf K H (.ref a) (.ref C)
theorem isinst_ok {x : V} {u t : Value} (I : Inv X pins σ H s) (rx : RelV x u) (ty : TyOf X.K H x t) (e : PySem.W.kitOne X.K t c = some b) (h : ∀ tk, Q (.bool b) { s with toks := tk }) :
    wpAny (model X.prog X.w) A (call (.builtin "isinstance") [u, c]) Q E s := by
  cases ty with
  | non => cases (show u = Value.none from rx); exact PySem.W.kia_one PySem.W.kitx_none I.kIn True.intro e (fun z => nomatch z) h
  | bl y => cases (show u = Value.bool y from rx); exact PySem.W.kia_one PySem.W.kitx_bool I.kIn True.intro e (fun z => nomatch z) h
  | int i => obtain ⟨t, q⟩ := (show ∃ t, u = Value.int i t from rx); cases q; exact PySem.W.kia_one PySem.W.kitx_int I.kIn True.intro e (fun z => nomatch z) h
  | str y => obtain ⟨t, q⟩ := (show ∃ t, u = Value.str y t from rx); cases q; exact PySem.W.kia_one PySem.W.kitx_str I.kIn True.intro e (fun z => nomatch z) h
  | flt y => obtain ⟨t, q⟩ := (show ∃ t, u = Value.float y t from rx); cases q; exact PySem.W.kia_one PySem.W.kitx_float I.kIn True.intro e (fun z => nomatch z) h
  | @lst a xs ea =>
    cases (show u = Value.ref a from rx)
    obtain ⟨_, _, n, _, h1⟩ := (show ObjOk X.prog X.w H s.heap a (.lst xs) from I.hok a _ ea)
    exact PySem.W.kia_one PySem.W.kitx_list I.kIn ⟨_, h1, rfl⟩ e (fun z => nomatch z) h
  | @frz a ob xs ea =>
    cases (show u = Value.ref a from rx)
    obtain ⟨_, _, _, n, _, h1⟩ := (show ObjOk X.prog X.w H s.heap a (.frz ob (.lst xs)) from I.hok a _ ea)
    exact PySem.W.kia_one PySem.W.kitx_list I.kIn ⟨_, h1, rfl⟩ e (fun z => nomatch z) h
  | @tup a xs ea =>
    cases (show u = Value.ref a from rx)
    obtain ⟨_, _, _, p⟩ := (show ObjOk X.prog X.w H s.heap a (.tup xs) from I.hok a _ ea)
    obtain ⟨o, h1, h2, _⟩ := p
    exact PySem.W.kia_one PySem.W.kitx_tuple I.kIn ⟨o, h1, h2⟩ e (fun z => nomatch z) h
  | @dK a kvs ea =>
    cases (show u = Value.ref a from rx)
    obtain ⟨_, _, vs, _, p⟩ := (show ObjOk X.prog X.w H s.heap a (.dK kvs) from I.hok a _ ea)
    obtain ⟨o, es, ep, h1, h2, _⟩ := p
    exact PySem.W.kia_one PySem.W.kitx_dict I.kIn ⟨o, h1, h2.1⟩ e (fun z => nomatch z) h
  | @dT a kvs ea =>
    cases (show u = Value.ref a from rx)
    obtain ⟨_, _, xs, _, o, es, ep, h1, h2, _⟩ := (show ObjOk X.prog X.w H s.heap a (.dT kvs) from I.hok a _ ea)
    exact PySem.W.kia_one PySem.W.kitx_dict I.kIn ⟨o, h1, h2.1⟩ e (fun z => nomatch z) h
  | @ins a C dx fs ea cl ha hn htk hm =>
    cases (show u = Value.ref a from rx)
    obtain ⟨mA, O, _⟩ := ins_get I.hok ea
    obtain ⟨od, J, _⟩ := O.look
    exact PySem.W.kia_one (PySem.W.kitx_own (cl.get _) cl.hd ha hn htk hm) I.kIn J e (fun z => nomatch z) h
end
end L2
namespace L2
open PySem PySem.Spec PyProof.Rows
structure Room (k : Nat) (A : Around) : Prop where
  hd : A.handled = none
  dp : A.depth + 3 * k + 5 < recursionLimit
  un : A.units + 16 * k + 200 < cLine
theorem Room.mono {j k : Nat} {A : Around} (r : Room k A) (h : j ≤ k) : Room j A := ⟨r.hd, by have := r.dp; omega, by have := r.un; omega⟩
theorem Room.deeper {k : Nat} {A : Around} (r : Room (k + 1) A) (env : Env) : Room k (A.deeper env) :=
  ⟨r.hd, by have := r.dp; show A.depth + 1 + 3 * k + 5 < _; omega, by have := r.un; show A.units + 3 + 16 * k + 200 < _; omega⟩
theorem Room.depth {k : Nat} {A : Around} (r : Room k A) : A.depth < recursionLimit := by have := r.dp; omega
theorem Room.units {k : Nat} {A : Around} (r : Room k A) : A.units + 64 < cLine := by have := r.un; omega
def tNil : TA := fun _ H Q => Q [] H
def tCons (ta : TE) (tr : TA) : TA := fun σ H Q => ta σ H fun x H1 => tr σ H1 fun xs H2 => Q (x :: xs) H2
section
variable {X : Cx} {e : Expr} {es : List Expr} {te : TE} {t : TA} {pos : Pos}
theorem pa_nil : PA X [] tNil := fun _ _ _ _ H Q I h => Calls.spliced_nil ⟨[], H, I, .nil, h⟩
theorem pa_cons (ha : PE X e te) (hr : PA X es t) (hs : starEach (e :: es) X.env = (false, eval e X.env) :: starEach es X.env := by rfl) : PA X (e :: es) (tCons te t) := by
  intro pos pins s σ H Q I h
  rw [hs]
  show wpAny _ _ (spliced ((false, eval e X.env) :: backTo pos (starEach es X.env))) _ _ s
  refine Calls.spliced_cons (thn (ha pins s σ H _ I h) fun u s1 ⟨x, H1, I1, r1, q1⟩ => ?_)
  exact thn (hr pos pins s1 σ H1 _ I1 q1) fun us s2 ⟨xs, H2, I2, r2, q2⟩ => ⟨x :: xs, H2, I2, .cons r1 r2, q2⟩
def tTup (t : TA) : TE := fun σ H Q => t σ H fun xs H1 => xs.length ≤ sizeLine ∧ ∀ p, H1 p = none → Q (.ref p) (upd H1 p (.tup xs))
def tLst (t : TA) : TE := fun σ H Q => t σ H fun xs H1 => xs.length ≤ sizeLine ∧ ∀ p, H1 p = none → Q (.ref p) (upd H1 p (.lst xs))
theorem pe_tup {x1} (h : PA X es t) : PE X (.Tuple es x1 pos) (tTup t) := by
  intro pins s σ H Q I hq
  refine wpAny_Tuple_spliced (thn (h pos pins s σ H _ I hq) fun us s1 ⟨xs, H1, I1, r, z, q⟩ => ⟨by rw [← r.length]; exact z, ?_⟩)
  have hf : H1 s1.heap.objs.size = none := I1.hok.fresh (Nat.le_refl _)
  refine ⟨.ref s1.heap.objs.size, upd H1 s1.heap.objs.size (.tup xs), I1.laid (t' := s1.toks) (fun b u e => Heap.get?_push_of_some _ e) (Nat.le_refl _) ?_, rfl, q _ hf⟩
  exact ⟨z, us, r, ⟨_, Heap.get?_push_size _ rfl, rfl, rfl, _, rfl⟩⟩
theorem pe_lst (h : PA X es t) : PE X (.List es pos) (tLst t) := by
  intro pins s σ H Q I hq
  refine wpAny_List_spliced (thn (h pos pins s σ H _ I hq) fun us s1 ⟨xs, H1, I1, r, z, q⟩ => ⟨by rw [← r.length]; exact z, ?_⟩)
  have hf : H1 s1.heap.objs.size = none := I1.hok.fresh (Nat.le_refl _)
  refine ⟨.ref s1.heap.objs.size, upd H1 s1.heap.objs.size (.lst xs), I1.laid (t' := s1.toks) (fun b u e => Heap.get?_push_of_some _ e) (Nat.le_refl _) ?_, rfl, q _ hf⟩
  exact ⟨z, us, 0, r, Heap.get?_push_size _ rfl⟩
end
abbrev Sp := List V → Hp → VK → XK → Prop
abbrev CXT := List Env → Hp → Shared → XK → Value → Shared → Prop
structure Env0 (P : Program) (w : World) (K : PySem.W.Frag) (mg : Str → Option Value) (base : Heap) (A : Around) (outer : List Env) (s : Shared) (H : Hp) : Prop where
  frames : A.frames = some outer
  mod : Mod K mg base
  bs : ∀ b o, base.get? b = some o → s.heap.get? b = some o ∧ H b = none
  bsz : base.objs.size ≤ s.heap.objs.size
  funs : s.heap.FunFrames base outer
  frf : ∀ b ∈ frs outer, H b = none
  hok : HOk P w H s.heap
  bare : AllBare s.gens
def CE (outer : List Env) (P : Program) (w : World) (H : Hp) (s : Shared) (Q : VK) (u : Value) (s' : Shared) : Prop :=
  ∃ v H', s'.os = s.os ∧ AllBare s'.gens ∧ Un (frs outer) [] H H' s.heap s'.heap ∧ HOk P w H' s'.heap ∧ RelV v u ∧ Q v H'
def CR (CX : CXT) (outer : List Env) (P : Program) (w : World) (H : Hp) (s : Shared) (Q : VK) (E : XK) (r : Result) (s' : Shared) : Prop :=
  match r with
  | .ok (.ret u) => CE outer P w H s Q u s'
  | .ok _ => False
  | .error e => CX outer H s E e s'
structure FnOk (P : Program) (w : World) (K : PySem.W.Frag) (mg : Str → Option Value) (base : Heap) (CX : CXT) (k : Nat) (f : Addr) (fd : FuncData) (ps : List Str) (sp : Sp) : Prop where
  len : ∀ vs H Q E, sp vs H Q E → vs.length = ps.length
  run : ∀ (A : Around) (outer : List Env) (s : Shared) (H : Hp) (args : Args) (us : List Value) (vs : List V) (Q : VK) (E : XK), Room k A → Env0 P w K mg base A outer s H → BindsTo s fd args (ps.zip us) → Vals vs us → sp vs H Q E →
    codeAny (model P w) A (.call (.ref f) args) (CR CX outer P w H s Q E) s
theorem FnOk.imp {P : Program} {w : World} {K : PySem.W.Frag} {mg : Str → Option Value} {base : Heap} {CX : CXT} {k : Nat} {f : Addr} {fd : FuncData} {ps : List Str} {sp sp' : Sp} (F : FnOk P w K mg base CX k f fd ps sp)
    (h : ∀ vs H Q E, sp' vs H Q E → sp vs H Q E) : FnOk P w K mg base CX k f fd ps sp' :=
  ⟨fun vs H Q E q => F.len vs H Q E (h _ _ _ _ q), fun A outer s H args us vs Q E hr he hb hv hs => F.run A outer s H args us vs Q E hr he hb hv (h _ _ _ _ hs)⟩
section
variable {X : Cx} {pins : List (Addr × Obj)} {σ : St} {H : Hp} {s s' : Shared}
theorem Inv.env0 (I : Inv X pins σ H s) : Env0 X.prog X.w X.K X.mg X.base X.A X.stack s H :=
  ⟨I.ok.frames, I.ok.mod, I.bs, Nat.le_trans I.ok.bsz I.sz, I.stack, I.stkFree, I.hok, I.bare⟩
theorem Inv.after {Q : VK} {u : Value} (I : Inv X pins σ H s) (h : CE X.stack X.prog X.w H s Q u s') : EP X pins σ Q u s' := by
  obtain ⟨v, H', os, bare, un, hok, r, q⟩ := h
  obtain ⟨hh, g, d, t, os'⟩ := s'
  obtain rfl : os' = s.os := os
  exact ⟨v, H', I.call (h' := hh) (g' := g) (d' := d) (t' := t) (ch := []) un hok bare (fun b z => absurd z (by simp)), r, q⟩
end
def tCall (sp : Sp) (dvs : List V) (E : XK) (t : TA) : TE := fun σ H Q => t σ H fun vs H1 => sp (vs ++ dvs) H1 Q E
def Binds (K : PySem.W.Frag) (fd : FuncData) (ps : List Str) (ds : List Value) : Prop :=
  ∀ (s : Shared) (us : List Value), K.In s.heap → (us ++ ds).length = ps.length → BindsTo s fd ⟨us, []⟩ (ps.zip (us ++ ds))
theorem Binds.all {K : PySem.W.Frag} {fd : FuncData} {ps : List Str} (h : ∀ us : List Value, us.length = ps.length → bindArgs fd ⟨us, []⟩ = pure (ps.zip us)) : Binds K fd ps [] := fun s us _ hl => by
  rw [List.append_nil] at hl ⊢
  exact .of_eq (h us hl)
def Passes (CX : CXT) (X : Cx) (E : XK) : Prop := ∀ (pins : List (Addr × Obj)) (σ : St) (H : Hp) (s : Shared) (e : Value) (s' : Shared), Inv X pins σ H s → CX X.stack H s E e s' → X.xe e s'
section
variable {X : Cx} {CX : CXT} {k : Nat} {f C : Addr} {fd : FuncData} {ps : List Str} {sp : Sp} {dvs : List V} {ds : List Value} {E : XK} {x m : Str} {p pos apos : Pos} {e o : Expr} {es : List Expr} {ta : TE} {t : TA}
theorem run_fn {pins : List (Addr × Obj)} {σ : St} {H : Hp} {s : Shared} {Q : VK} {us : List Value} {vs : List V} (F : FnOk X.prog X.w X.K X.mg X.base CX k f fd ps sp) (hr : Room k X.A) (hb : Binds X.K fd ps ds) (hd : Vals dvs ds) (hx : Passes CX X E)
    (I : Inv X pins σ H s) (r : Vals vs us) (h : sp (vs ++ dvs) H Q E) : wpAny (model X.prog X.w) X.A (call (.ref f) us) (EP X pins σ Q) X.xe s := by
  have r2 : Vals (vs ++ dvs) (us ++ ds) := r.append hd
  have hl : (us ++ ds).length = ps.length := by rw [← r2.length]; exact F.len _ _ _ _ h
  refine wpAny_call (codeAny_mono (F.run X.A X.stack s H ⟨us, []⟩ (us ++ ds) (vs ++ dvs) Q E hr I.env0 (hb s us I.kIn hl) r2 h) fun r s' hq => ?_)
  cases r with
  | error e => exact hx pins σ H s e s' I hq
  | ok fl =>
    cases fl with
    | ret u => exact I.after hq
    | next => exact False.elim hq
    | brk => exact False.elim hq
    | cont => exact False.elim hq
theorem pe_call (F : FnOk X.prog X.w X.K X.mg X.base CX k f fd ps sp) (hr : Room k X.A) (hg : Gl X x) (hm : X.mg x = some (.ref f)) (hk : PySem.W.keepIn X.K (.ref f) = true) (hb : Binds X.K fd ps ds) (hd : Vals dvs ds) (hx : Passes CX X E)
    (ha : PA X (e :: es) t) (hdb : (x == ("__debug__" : Str)) = false := by decide) (he : starEach (e :: es) X.env = (false, eval e X.env) :: starEach es X.env := by rfl) (hpl : (backTo pos (starEach es X.env)).any (·.1) = false := by rfl) :
    PE X (.Call (.Name x p) (e :: es) [] pos) (tCall sp dvs E t) := by
  intro pins s σ H Q I h
  refine wpAny_Call_Name_kw (ld_glob I hg hm ?_ hdb)
  refine PySem.W.callWith_K (h₀ := X.base) I.ok.mod.kin hk (thn (ha pos pins s σ H _ I h) fun us s1 ⟨vs, H1, I1, r, q⟩ => ⟨I1.kIn, ?_⟩) he hpl
  exact run_fn F hr hb hd hx I1 r q
end
section
variable {X : Cx} {CX : CXT} {k : Nat} {f C : Addr} {fd : FuncData} {ps ks : List Str} {sp : Sp} {E : XK} {x m : Str} {p pos apos kpos : Pos} {e o : Expr} {es : List Expr} {kws : List Keyword} {te ta : TE} {t tk : TA} {nm : Option Str}
variable {g : List Value → List Value → List Value} {gV : List V → List V → List V}
end
structure FnScope (N P : List Str) (sc : Scope) : Prop where
  kind : sc.kind = .function
  co : sc.isCoroutine = false
  gen : sc.isGenerator = false
  nd : N.Nodup
  pre : N.take P.length = P
  par : ∀ x ∈ P, sc.names.lookup x = some .local ∨ sc.names.lookup x = some .cell
  nofree : ∀ y ∈ sc.names, y.2 ≠ .free
theorem bindL_out {kindOf : Str → Option NameKind} {x : Str} : ∀ {binds : List (Str × Value)} {m : Str → Option Value}, (∀ v, (x, v) ∉ binds) → bindL kindOf binds m x = m x
  | [], _, _ => rfl
  | (n, v) :: r, m, h => by
    unfold bindL
    rw [bindL_out fun w hw => h w (List.mem_cons_of_mem _ hw)]
    split
    · have : x ≠ n := by rintro rfl; exact h v List.mem_cons_self
      simp [this]
    · rfl
theorem bindC_out {kindOf : Str → Option NameKind} {x : Str} : ∀ {binds : List (Str × Value)} {m : Str → Option Value}, (∀ v, (x, v) ∉ binds) → bindC kindOf binds m x = m x
  | [], _, _ => rfl
  | (n, v) :: r, m, h => by
    unfold bindC
    rw [bindC_out fun w hw => h w (List.mem_cons_of_mem _ hw)]
    split
    · rfl
    · have : x ≠ n := by rintro rfl; exact h v List.mem_cons_self
      simp [this]
theorem bindL_get {kindOf : Str → Option NameKind} {x : Str} {v : Value} : ∀ {P : List Str} {vs : List Value} {i : Nat} {m : Str → Option Value}, P.Nodup → P[i]? = some x → vs[i]? = some v → kindOf x = some .local →
    bindL kindOf (P.zip vs) m x = some v
  | [], _, _, _, _, h, _, _ => by simp at h
  | _ :: _, [], _, _, _, _, h, _ => by simp at h
  | p :: P, w :: vs, 0, m, nd, h1, h2, hk => by
    simp at h1 h2; subst h1; subst h2
    show bindL kindOf ((p, w) :: P.zip vs) m p = _
    unfold bindL
    rw [bindL_out fun v hv => (List.nodup_cons.mp nd).1 (List.of_mem_zip hv).1, if_pos hk]
    simp
  | p :: P, w :: vs, i + 1, m, nd, h1, h2, hk => by
    show bindL kindOf ((p, w) :: P.zip vs) m x = _
    unfold bindL
    exact bindL_get (i := i) (List.nodup_cons.mp nd).2 (by simpa using h1) (by simpa using h2) hk
theorem bindC_get {kindOf : Str → Option NameKind} {x : Str} {v : Value} : ∀ {P : List Str} {vs : List Value} {i : Nat} {m : Str → Option Value}, P.Nodup → P[i]? = some x → vs[i]? = some v → kindOf x ≠ some .local →
    bindC kindOf (P.zip vs) m x = some v
  | [], _, _, _, _, h, _, _ => by simp at h
  | _ :: _, [], _, _, _, _, h, _ => by simp at h
  | p :: P, w :: vs, 0, m, nd, h1, h2, hk => by
    simp at h1 h2; subst h1; subst h2
    show bindC kindOf ((p, w) :: P.zip vs) m p = _
    unfold bindC
    rw [bindC_out fun v hv => (List.nodup_cons.mp nd).1 (List.of_mem_zip hv).1, if_neg hk]
    simp
  | p :: P, w :: vs, i + 1, m, nd, h1, h2, hk => by
    show bindC kindOf ((p, w) :: P.zip vs) m x = _
    unfold bindC
    exact bindC_get (i := i) (List.nodup_cons.mp nd).2 (by simpa using h1) (by simpa using h2) hk
def start (N : List Str) (vs : List V) : St := vs.map some ++ List.replicate (N.length - vs.length) none
def cxOf (CX : CXT) (P : Program) (w : World) (K : PySem.W.Frag) (mg : Str → Option Value) (base : Heap) (N : List Str) (qual : Str) (scope : Scope) (f : Addr) (cd : Value) (A : Around) (outer : List Env) (s : Shared) (H : Hp) (E : XK) : Cx where
  prog := P
  w := w
  K := K
  mg := mg
  base := base
  A := A.deeper (envOfC qual scope s.heap.objs.size f cd)
  N := N
  s₀ := s
  H₀ := H
  env := envOfC qual scope s.heap.objs.size f cd
  outer := outer
  stack := envOfC qual scope s.heap.objs.size f cd :: outer
  ex := []
  calm := true
  fn := fun _ => true
  pn := []
  xe := fun e s' => wpAny (model P w) (A.deeper (envOfC qual scope s.heap.objs.size f cd)) (leaving (envOfC qual scope s.heap.objs.size f cd) e) (fun _ s'' => CX outer H s E e s'') (fun e' s'' => CX outer H s E e' s'') s'
theorem cell_has {sc : Scope} {n : Nat} {x : Str} (h : sc.names.lookup x = some .cell) : ∃ c, (cellsFrom n sc.names []).lookup x = some c := by
  have q := PySem.W.cellsFrom_some sc.names n [] (.inl h)
  exact Option.isSome_iff_exists.mp q
theorem inv_start {CX : CXT} {P : Program} {w : World} {K : PySem.W.Frag} {mg : Str → Option Value} {base : Heap} {N ps : List Str} {qual : Str} {scope : Scope} {f : Addr} {cd : Value} {A : Around} {outer : List Env} {s s1 : Shared} {H : Hp} {E : XK} {us : List Value} {vs : List V}
    (S : FnScope N ps scope) (hd : A.handled = none) (e0 : Env0 P w K mg base A outer s H) (hl : vs.length = ps.length) (r : Vals vs us)
    (x : InCallC s s.heap.objs.size (bindL (envOfC qual scope s.heap.objs.size f cd).kindOf (ps.zip us) fun _ => none) (cellsFrom (s.heap.objs.size + 1) scope.names []) (bindC (envOfC qual scope s.heap.objs.size f cd).kindOf (ps.zip us) fun _ => none) s1) :
    Inv (cxOf CX P w K mg base N qual scope f cd A outer s H E) [] (start N vs) H s1 := by
  have hpl : ps.length ≤ N.length := by have := congrArg List.length S.pre; rw [List.length_take] at this; omega
  obtain ⟨h1, tk, rfl, hk⟩ := x.done
  have noA : ∀ b : Addr, b ∉ (cxOf CX P w K mg base N qual scope f cd A outer s H E).ex := fun b z => absurd (show b ∈ ([] : List Addr) from z) (by simp)
  refine ⟨⟨e0.mod, S.kind, rfl, rfl, Nat.le_refl _, fun y z c h1 h2 => ?_, fun y hy => ?_, fun y c _ h => ?_, fun _ => hd, Around.frames_deeper e0.frames, .inr ⟨rfl, rfl⟩, fun b z => absurd z (noA b), e0.bs, e0.bsz, fun b _ _ => noA b, fun b z => absurd z (noA b), e0.funs, e0.frf⟩,
    rfl, e0.bare, Un.kept hk, ⟨_, x.toInCall.ns, fun i y v h1 h2 h3 => ?_⟩, fun y c h => ⟨_, x.cell y c h⟩, e0.hok.fresh (Nat.le_refl _), fun y c h => ?_, fun p hp => absurd (show p ∈ ([] : List (Addr × Obj)) from hp) (by simp), e0.hok.kept hk, ?_⟩
  · exact name_of_addr x.apart (PySem.mem_of_lookup h1) (PySem.mem_of_lookup h2)
  · have hy : scope.names.lookup y = some .cell ∨ scope.names.lookup y = some .free := hy
    rcases hy with hy | hy
    · exact cell_has hy
    · exact absurd rfl (S.nofree _ (PySem.mem_of_lookup hy))
  · exact Nat.le_of_lt (x.above y c (PySem.mem_of_lookup h))
  · have hi : i < vs.length := by
      unfold start at h2
      by_cases hi : i < vs.length
      · exact hi
      · rw [List.getElem?_append_right (by simpa using hi)] at h2
        rw [List.getElem?_replicate] at h2
        split at h2 <;> cases h2
    have ha : vs[i]? = some v := by
      unfold start at h2
      rw [List.getElem?_append_left (by simpa using hi), List.getElem?_map] at h2
      cases e : vs[i]? with
      | none => rw [e] at h2; cases h2
      | some a => rw [e] at h2; cases h2; rfl
    obtain ⟨u, hu, rv⟩ := r.get ha
    have hp : ps[i]? = some y := by
      rw [← S.pre, List.getElem?_take_of_lt (by omega)]; exact h1
    have ndP : ps.Nodup := by rw [← S.pre]; exact S.nd.sublist (List.take_sublist _ _)
    refine ⟨u, rv, ?_⟩
    rcases S.par y (List.mem_of_getElem? hp) with k | k
    · exact .inl ⟨k, bindL_get ndP hp hu k⟩
    · obtain ⟨c, e⟩ := cell_has (n := s.heap.objs.size + 1) k
      refine .inr ⟨.inl k, c, e, ?_⟩
      have q := x.cell y c e
      rw [bindC_get ndP hp hu (by show scope.names.lookup y ≠ _; rw [k]; decide)] at q
      exact q
  · exact e0.hok.fresh (Nat.le_of_lt (x.above y c (PySem.mem_of_lookup h)))
  · unfold start
    show _ = N.length
    rw [List.length_append, List.length_map, List.length_replicate]
    omega
theorem fn_of {CX : CXT} {P : Program} {w : World} {K : PySem.W.Frag} {mg : Str → Option Value} {base : Heap} {k : Nat} {f : Addr} {name qual : Str} {params : Arguments} {body : List Stmt} {scope : Scope} {dV kV doc pm cdv ct oc : Value} {an od : Option Addr}
    {osl : Array (Option Value)} {N ps : List Str} {sp : Sp} (lk : K.lookup f = some ⟨oc, od, .func (PySem.W.fnOf name qual params body scope dV kV doc pm an cdv ct), osl⟩) (hcd : PySem.W.codeIn K cdv qual = true) (S : FnScope N ps scope)
    (len : ∀ vs H Q E, sp vs H Q E → vs.length = ps.length)
    (hbody : ∀ (A : Around) (outer : List Env) (s : Shared) (H : Hp) (vs : List V) (Q : VK) (E : XK), Room k (A.deeper (envOfC qual scope s.heap.objs.size f cdv)) → sp vs H Q E →
      ∃ t, PSs (cxOf CX P w K mg base N qual scope f cdv A outer s H E) body t ∧ t { nx := fun _ H' => Q .non H', rt := Q } (start N vs) H) :
    FnOk P w K mg base CX (k + 1) f (PySem.W.fnOf name qual params body scope dV kV doc pm an cdv ct) ps sp := by
  refine ⟨len, fun A outer s H args us vs Q E hr e0 hb r hsp => ?_⟩
  have hl := len _ _ _ _ hsp
  have KX : K.In s.heap := e0.mod.kin.keeps fun b o e => (e0.bs b o e).1
  have lim : s.heap.NoLimit := e0.mod.nolimit.keeps fun b o e => (e0.bs b o e).1
  have hkind : ∀ y ∈ ps.zip us, scope.names.lookup y.1 = some .local ∨ (scope.names.lookup y.1 = some .cell ∧ ((cellsFrom (s.heap.objs.size + 1) scope.names []).lookup y.1).isSome = true) := fun ⟨n, v⟩ hy => by
    rcases S.par n (List.of_mem_zip hy).1 with q | q
    · exact .inl q
    · exact .inr ⟨q, PySem.W.cellsFrom_some _ _ _ (.inl q)⟩
  refine codeAny_call_function hr.depth (KX _ _ lk) rfl S.co S.gen rfl (PySem.W.codeRec_of KX hcd) (hb _ _ _ _ ?_)
  refine wpAny_newFunctionEnv_cells S.kind hkind fun env he s1 x => ?_
  subst he
  refine ⟨lim.keeps x.toInCall.keep, codeAny_func ?_⟩
  obtain ⟨t, ht, hq⟩ := hbody A outer s H vs Q E (hr.deeper _) hsp
  have I : Inv (cxOf CX P w K mg base N qual scope f cdv A outer s H E) [] (start N vs) H s1 := inv_start S hr.hd e0 hl r x
  refine wpAny_mono (ht [] s1 (start N vs) H _ I hq) (fun fl s' hs => ?_) fun e s' hs => hs
  have fin : ∀ {σ' : St} {H' : Hp} {v : V} {u : Value}, Inv (cxOf CX P w K mg base N qual scope f cdv A outer s H E) [] σ' H' s' → RelV v u → Q v H' → CE outer P w H s Q u s' :=
    fun {σ' H' v u} J rv q => ⟨v, H', J.os, J.bare, J.base, J.hok, rv, q⟩
  cases fl with
  | ret u =>
    obtain ⟨v, σ', H', J, rv, q⟩ := hs
    exact fin J rv q
  | next =>
    obtain ⟨σ', H', J, q⟩ := hs
    exact fin (v := V.non) (u := Value.none) J rfl q
  | brk =>
    obtain ⟨_, _, _, q⟩ := hs
    exact False.elim q
  | cont =>
    obtain ⟨_, _, _, q⟩ := hs
    exact False.elim q
end L2
namespace L2
open PySem PySem.Spec PyProof.Rows
section
variable {X : Cx} {x : Str} {p pos : Pos} {e : Expr} {es : List Expr} {t : TA} {id T : String} {r : List V → Hp → VK → Prop}
def tCB (r : List V → Hp → VK → Prop) (t : TA) : TE := fun σ H Q => t σ H fun vs H1 => r vs H1 Q
theorem pe_callB (hc : CallR X (.builtin id) r) (hg : Gl X x) (hm : X.mg x = none) (hv : bootBuiltins x = some (.builtin id)) (ha : PA X (e :: es) t) (hn : x ≠ "__name__" := by decide) (hdb : (x == ("__debug__" : Str)) = false := by decide)
    (he : starEach (e :: es) X.env = (false, eval e X.env) :: starEach es X.env := by rfl) (hpl : (backTo pos (starEach es X.env)).any (·.1) = false := by rfl) : PE X (.Call (.Name x p) (e :: es) [] pos) (tCB r t) := by
  intro pins s σ H Q I h
  refine wpAny_Call_Name_kw (ld_blt I hg hm hv ?_ hn hdb)
  exact PyProof.Rows.callWith_builtin1 (thn (ha pos pins s σ H _ I h) fun us s1 ⟨vs, H1, I1, r1, q1⟩ => hc pins s1 σ H1 vs us Q I1 r1 q1) he hpl
theorem pe_callTy (hc : CallR X (.type T) r) (hg : Gl X x) (hm : X.mg x = none) (hv : bootBuiltins x = some (.type T)) (ha : PA X (e :: es) t) (hn : x ≠ "__name__" := by decide) (hdb : (x == ("__debug__" : Str)) = false := by decide)
    (he : starEach (e :: es) X.env = (false, eval e X.env) :: starEach es X.env := by rfl) (hpl : (backTo pos (starEach es X.env)).any (·.1) = false := by rfl) : PE X (.Call (.Name x p) (e :: es) [] pos) (tCB r t) := by
  intro pins s σ H Q I h
  refine wpAny_Call_Name_kw (ld_blt I hg hm hv ?_ hn hdb)
  exact PyProof.Rows.callWith_type1 (thn (ha pos pins s σ H _ I h) fun us s1 ⟨vs, H1, I1, r1, q1⟩ => hc pins s1 σ H1 vs us Q I1 r1 q1) he hpl
end
end L2
namespace HT
open PySem PyProof.Rows
section
open PySem.SeqAt
open PySem.AutoSeq1 (wpAny_loadPart')
open PySem.MeetsSeq PySem.MeetsSeq2 PySem.MeetsSeq3
end
section
variable {prog : Program} {w : World} {A : Around} {E : Value → Shared → Prop} {s : Shared}
def sIx (n d : Nat) : Option Int → Nat
  | none => d
  | some v => if v < 0 then (v + (n : Int)).toNat else min v.toNat n
theorem sIx_le (n d : Nat) (hd : d ≤ n) (o : Option Int) : sIx n d o ≤ n := by
  cases o with
  | none => exact hd
  | some v =>
    show (if v < 0 then (v + (n : Int)).toNat else min v.toNat n) ≤ n
    by_cases hv : v < 0
    · rw [if_pos hv]; omega
    · rw [if_neg hv]; exact Nat.min_le_right _ _
end
end HT
namespace L2
open PySem PySem.Spec PyProof.Rows
abbrev TO := St → Hp → (Option Int → Hp → Prop) → Prop
def PO (X : Cx) (e : Option Expr) (t : TO) : Prop :=
  ∀ (pins : List (Addr × Obj)) (s : Shared) (σ : St) (H : Hp) (Q : Option Int → Hp → Prop), Inv X pins σ H s → t σ H Q →
    wpAny (model X.prog X.w) X.A (evalPart e X.env) (fun u s' => ∃ o H', Inv X pins σ H' s' ∧ IsPart u o ∧ Q o H') X.xe s
def tNoPart : TO := fun _ H Q => Q none H
def tPart (t : TE) : TO := fun σ H Q => t σ H fun x H1 => ∃ i, x = .int i ∧ Q (some i) H1
section
variable {X : Cx} {e : Expr} {te : TE} {lo hi : Option Expr} {tl th : TO} {pos p2 : Pos}
theorem po_none : PO X none tNoPart := by
  intro pins s σ H Q I h
  rw [evalPart_none]
  exact wpAny_pure ⟨none, H, I, .none, h⟩
theorem po_some (h : PE X e te) : PO X (some e) (tPart te) := by
  intro pins s σ H Q I hw
  rw [evalPart_some]
  refine thn (h pins s σ H _ I hw) fun u s1 ⟨x, H1, I1, r1, q1⟩ => ?_
  obtain ⟨i, rfl, q⟩ := q1
  obtain ⟨t, rfl⟩ := r1
  exact ⟨some i, H1, I1, .int i t, q⟩
def SlR (X : Cx) (r : V → Option Int → Option Int → Hp → VK → Prop) : Prop :=
  ∀ (pins : List (Addr × Obj)) (s : Shared) (σ : St) (H : Hp) (x : V) (v vl vu : Value) (lo hi : Option Int) (sl : Addr) (Q : VK), Inv X pins σ H s → RelV x v → s.heap.IsSliceOf sl vl vu .none → IsPart vl lo → IsPart vu hi → r x lo hi H Q →
    ∃ T id, typeLookup (.type T) "__getitem__" = pure (some (.builtin id)) ∧ s.TypeIs v T ∧ wpAny (model X.prog X.w) X.A (getItem v (.ref sl)) (EP X pins σ Q) X.xe s
theorem SlR.or {r r' : V → Option Int → Option Int → Hp → VK → Prop} (h : SlR X r) (h' : SlR X r') : SlR X (fun x lo hi H Q => r x lo hi H Q ∨ r' x lo hi H Q) := by
  intro pins s σ H x v vl vu lo hi sl Q I rx hs pl pu q
  rcases q with q | q
  · exact h pins s σ H x v vl vu lo hi sl Q I rx hs pl pu q
  · exact h' pins s σ H x v vl vu lo hi sl Q I rx hs pl pu q
def tSl (r : V → Option Int → Option Int → Hp → VK → Prop) (te : TE) (tl th : TO) : TE := fun σ H Q => te σ H fun x H1 => tl σ H1 fun l H2 => th σ H2 fun u H3 => r x l u H3 Q
theorem pe_slice {r : V → Option Int → Option Int → Hp → VK → Prop} (hr : SlR X r) (he : PE X e te) (hl : PO X lo tl) (hu : PO X hi th) : PE X (.Subscript e (.Slice lo hi none p2) pos) (tSl r te tl th) := by
  intro pins s σ H Q I h
  refine Subscript_ (thn (he pins s σ H _ I h) fun v s1 ⟨x, H1, I1, r1, q1⟩ => ?_)
  refine wpAny_Slice (thn (hl pins s1 σ H1 _ I1 q1) fun vl s2 ⟨l, H2, I2, pl, q2⟩ => thn (hu pins s2 σ H2 _ I2 q2) fun vu s3 ⟨u, H3, I3, pu, q3⟩ => ?_)
  rw [evalPart_none]
  refine wpAny_pure ?_
  have I4 : Inv X pins σ H3 { s3 with heap := s3.heap.push { cls := .type "slice", data := .fields #[vl, vu, .none] } } := I3.kept (t' := s3.toks) fun b ob q => Heap.get?_push_of_some _ q
  obtain ⟨T, id, hT, ht, hg⟩ := hr pins { s3 with heap := s3.heap.push { cls := .type "slice", data := .fields #[vl, vu, .none] } } σ H3 x v vl vu l u s3.heap.objs.size Q I4 r1 (Heap.IsSliceOf.new ..) pl pu q3
  show wpAny (model X.prog X.w) X.A (subscriptTail e (.Slice lo hi none p2) v (.ref s3.heap.objs.size)) (EP X pins σ Q) X.xe { s3 with heap := s3.heap.push { cls := .type "slice", data := .fields #[vl, vu, .none] } }
  exact tail_any (ops := [.ref s3.heap.objs.size, v]) ht hT hg (by with_unfolding_all rfl)
def cutV (xs : List V) (lo hi : Option Int) : List V := (xs.drop (HT.sIx xs.length 0 lo)).take (HT.sIx xs.length xs.length hi - HT.sIx xs.length 0 lo)
theorem cutV_length (xs : List V) (lo hi : Option Int) : (cutV xs lo hi).length ≤ xs.length := by
  unfold cutV
  rw [List.length_take, List.length_drop]
  omega
end
end L2
namespace L2
open PySem PySem.Spec PyProof.Rows
def ixN (n : Nat) (i : Int) : Option Nat := if 0 ≤ i then (if i < n then some i.toNat else none) else if -(n : Int) ≤ i then some (i + n).toNat else none
def atI {α : Type} (xs : List α) (i : Int) : Option α := (ixN xs.length i).bind fun j => xs[j]?
theorem ixN_seq {n : Nat} {i : Int} {j : Nat} (h : ixN n i = some j) : seqIndex? i n = some j ∧ j < n ∧ -(n : Int) ≤ i ∧ i < n := by
  unfold ixN at h
  by_cases h0 : 0 ≤ i
  · rw [if_pos h0] at h
    by_cases h1 : i < n
    · rw [if_pos h1] at h
      have e : i.toNat = j := Option.some.inj h
      exact ⟨by rw [seqIndex_of h0 h1, e], by omega, by omega, h1⟩
    · rw [if_neg h1] at h; cases h
  · rw [if_neg h0] at h
    by_cases h1 : -(n : Int) ≤ i
    · rw [if_pos h1] at h
      have e : (i + n).toNat = j := Option.some.inj h
      exact ⟨by rw [seqIndex_neg (by omega) h1, e], by omega, h1, by omega⟩
    · rw [if_neg h1] at h; cases h
theorem atI_get {α : Type} {xs : List α} {i : Int} {v : α} (h : atI xs i = some v) : ∃ j, seqIndex? i xs.length = some j ∧ xs[j]? = some v ∧ j < xs.length ∧ -(xs.length : Int) ≤ i ∧ i < xs.length := by
  unfold atI at h
  cases e : ixN xs.length i with
  | none => rw [e] at h; cases h
  | some j =>
    rw [e] at h
    obtain ⟨h1, h2, h3, h4⟩ := ixN_seq e
    exact ⟨j, h1, h, h2, h3, h4⟩
def PlainIx (b : Expr) : Prop := ∀ o i, subscripted b false o i = operate [o, i] (getItem o i)
def IxR (X : Cx) (r : R2) : Prop :=
  ∀ (value slice : Expr) (pins : List (Addr × Obj)) (s : Shared) (σ : St) (H : Hp) (x y : V) (v u : Value) (Q : VK), Inv X pins σ H s → RelV x v → RelV y u → r x y H Q →
    subscripted slice false v u = operate [v, u] (getItem v u) → wpAny (model X.prog X.w) X.A (subscriptTail value slice v u) (EP X pins σ Q) X.xe s
def MtR (X : Cx) (id : String) (r : V → List V → Hp → VK → Prop) : Prop :=
  ∀ (pins : List (Addr × Obj)) (s : Shared) (σ : St) (H : Hp) (x : V) (xs : List V) (v : Value) (us : List Value) (Q : VK), Inv X pins σ H s → RelV x v → Vals xs us → r x xs H Q →
    wpAny (model X.prog X.w) X.A (call (.builtin id) (v :: us)) (EP X pins σ Q) X.xe s
section
variable {X : Cx} {a b : Expr} {ta tb : TE} {pos : Pos}
theorem IxR.or {r r' : R2} (h : IxR X r) (h' : IxR X r') : IxR X (fun x y H Q => r x y H Q ∨ r' x y H Q) := by
  intro value slice pins s σ H x y v u Q I rx ry q hs
  rcases q with q | q
  · exact h value slice pins s σ H x y v u Q I rx ry q hs
  · exact h' value slice pins s σ H x y v u Q I rx ry q hs
theorem pe_ix {r : R2} (hr : IxR X r) (ha : PE X a ta) (hb : PE X b tb) (hs : PlainIx b) : PE X (.Subscript a b pos) (tOp r ta tb) := by
  intro pins s σ H Q I h
  exact Subscript_ (binT ha hb I h fun v u s2 x y H2 I2 rx ry q => hr a b pins s2 σ H2 x y v u Q I2 rx ry q (hs _ _))
def rIxL (K : PySem.W.Frag) : R2 := fun x y H Q => ∃ p xs i v, x = .ref p ∧ y = .int i ∧ SqL K H p xs ∧ atI xs i = some v ∧ Q v H
def rIxT (K : PySem.W.Frag) : R2 := fun x y H Q => ∃ p xs i v, x = .ref p ∧ y = .int i ∧ SqT K H p xs ∧ atI xs i = some v ∧ Q v H
def rIxS : R2 := fun x y H Q => ∃ z i c, x = .str z ∧ y = .int i ∧ z.length ≤ sizeLine ∧ atI z.cps.toList i = some c ∧ Q (.str ⟨#[c]⟩) H
theorem ix_list : IxR X (rIxL X.K) := by
  intro value slice pins s σ H x y v u Q I rx ry h hs
  obtain ⟨p, xs, i, z, rfl, rfl, hq, he, q⟩ := h
  cases rx
  obtain ⟨t, rfl⟩ := ry
  obtain ⟨its, r, pl, hz⟩ := I.list hq
  obtain ⟨j, h1, h2, h3, h4, h5⟩ := atI_get he
  obtain ⟨w, ew, rw'⟩ := r.get h2
  have hl := r.length
  have hn := line63
  have fin : EP X pins σ Q w s := ⟨z, H, I, rw', q⟩
  by_cases h0 : 0 ≤ i
  · have hj : i.toNat = j := by
      rw [seqIndex_of h0 h5] at h1
      exact Option.some.inj h1
    exact item_listR pl.isList h0 (by omega) (by rw [hj]; simpa using ew) fin hs
  · have hj : (i + (its.toArray.size : Int)).toNat = j := by
      rw [seqIndex_neg (by omega) h4] at h1
      rw [List.size_toArray, ← hl]
      exact Option.some.inj h1
    exact subscriptTail_builtinR (x := w) pl.isList.typeIs slot_list_getitem.lookup
      (wpAny_getItem_list_neg (Q := fun r s' => r = w ∧ EP X pins σ Q r s') pl.isList (by omega) (by rw [List.size_toArray] <;> omega) (by omega) (by rw [hj]; simpa using ew) ⟨rfl, fin⟩) hs
theorem ix_tup : IxR X (rIxT X.K) := by
  intro value slice pins s σ H x y v u Q I rx ry h hs
  obtain ⟨p, xs, i, z, rfl, rfl, hq, he, q⟩ := h
  cases rx
  obtain ⟨t, rfl⟩ := ry
  obtain ⟨its, r, pl, hz⟩ := I.tuple hq
  obtain ⟨j, h1, h2, h3, h4, h5⟩ := atI_get he
  obtain ⟨w, ew, rw'⟩ := r.get h2
  have hl := r.length
  have hn := line63
  have fin : EP X pins σ Q w s := ⟨z, H, I, rw', q⟩
  exact subscriptTail_builtinR (x := w) pl.typeIs slot_tuple_getitem.lookup
    (getItem_tuple (j := j) (Q := fun r s' => r = w ∧ EP X pins σ Q r s') pl (by omega) (by omega) (by rw [List.size_toArray, ← hl]; exact h1) (by simpa using ew) ⟨rfl, fin⟩) hs
theorem ix_str : IxR X rIxS := by
  intro value slice pins s σ H x y v u Q I rx ry h hs
  obtain ⟨z, i, c, rfl, rfl, hz, he, q⟩ := h
  obtain ⟨t, rfl⟩ := rx
  obtain ⟨t', rfl⟩ := ry
  obtain ⟨j, h1, h2, h3, h4, h5⟩ := atI_get he
  have hl : z.cps.toList.length = z.length := by simp [Str.length]
  rw [hl] at h1 h4 h5
  have hn := line63
  exact tail_any (typeIs_str s z t) slot_str_getitem.lookup (getItem_str (c := c) (by
    have e1 : decide (i < -(2 ^ 63 : Int)) = false := decide_eq_false (by omega)
    have e2 : decide (i ≥ 2 ^ 63) = false := decide_eq_false (by omega)
    rw [e1, e2, Bool.or_false]) (by rw [h1]; simpa using h2) ⟨.str ⟨#[c]⟩, H, I.tok _, ⟨_, rfl⟩, q⟩) hs
def rIx (K : PySem.W.Frag) : R2 := fun x y H Q => rIxL K x y H Q ∨ rIxT K x y H Q ∨ rIxS x y H Q
theorem ix_seq : IxR X (rIx X.K) := ix_list.or (ix_tup.or ix_str)
theorem slice_bounds (lo hi : Option Int) (n : Nat) : (sliceBounds lo hi none n).1 = ((HT.sIx n 0 lo : Nat) : Int) ∧ (sliceBounds lo hi none n).2.1 = ((HT.sIx n n hi : Nat) : Int) ∧ (sliceBounds lo hi none n).2.2 = 1 := by
  refine ⟨?_, ?_, rfl⟩
  · cases lo with
    | none => simp [sliceBounds, HT.sIx]
    | some i =>
      simp only [sliceBounds, HT.sIx, Option.getD_none, show (1 : Int) > 0 by decide, if_true]
      by_cases h : i < 0
      · simp only [h, if_true] <;> omega
      · simp only [h, if_false] <;> omega
  · cases hi with
    | none => simp [sliceBounds, HT.sIx]
    | some i =>
      simp only [sliceBounds, HT.sIx, Option.getD_none, show (1 : Int) > 0 by decide, if_true]
      by_cases h : i < 0
      · simp only [h, if_true] <;> omega
      · simp only [h, if_false] <;> omega
theorem slicePick_cut (its : List Value) (lo hi : Option Int) : slicePick its.toArray lo hi none = ((its.drop (HT.sIx its.length 0 lo)).take (HT.sIx its.length its.length hi - HT.sIx its.length 0 lo)).toArray := by
  obtain ⟨h1, h2, h3⟩ := slice_bounds lo hi its.toArray.size
  unfold slicePick
  rw [h1, h2, h3]
  simp only [sliceRange_one, pick_run, List.size_toArray] <;> rfl
def rSlL (K : PySem.W.Frag) : V → Option Int → Option Int → Hp → VK → Prop := fun x lo hi H Q => ∃ a xs, x = .ref a ∧ SqL K H a xs ∧ ∀ p, H p = none → Q (.ref p) (upd H p (.lst (cutV xs lo hi)))
theorem sl_list : SlR X (rSlL X.K) := by
  intro pins s σ H x v vl vu lo hi sl Q I rx hs pl pu h
  obtain ⟨a, xs, rfl, hx, q⟩ := h
  cases rx
  obtain ⟨its, r, ht, hz⟩ := I.list hx
  have hlen := r.length
  refine ⟨"list", _, slot_list_getitem.lookup, ht.isList.typeIs, ?_⟩
  refine wpAny_getItem_list_slice ht.isList hs pl pu .none (by simp) ?_ (by rw [List.size_toArray] <;> omega)
  rw [slicePick_cut, ← hlen]
  refine ⟨.ref s.heap.objs.size, _, I.laid (t' := s.toks) (o := .lst (cutV xs lo hi)) (fun b ob q => Heap.get?_push_of_some _ q) (Nat.le_refl _) ?_, rfl, q _ (I.hok.fresh (Nat.le_refl _))⟩
  exact ⟨Nat.le_trans (cutV_length xs lo hi) hz, _, 0, (r.drop (HT.sIx xs.length 0 lo)).take (HT.sIx xs.length xs.length hi - HT.sIx xs.length 0 lo), Heap.get?_push_size _ rfl⟩
def flatV : V → Bool
  | .non => true
  | .bl _ => true
  | .int _ => true
  | .str _ => true
  | _ => false
def eqV : V → V → Bool
  | .non, .non => true
  | .bl a, .bl b => a == b
  | .bl a, .int b => (if a then 1 else 0) == b
  | .int a, .bl b => a == (if b then 1 else 0)
  | .int a, .int b => a == b
  | .str a, .str b => a == b
  | _, _ => false
theorem eqAt_V {A : Around} {s : Shared} {y x : V} {u v : Value} (ry : RelV y u) (rx : RelV x v) (fy : flatV y = true) (fx : flatV x = true) : SeqAt.EqAt A s u v (eqV y x) := by
  cases y with
  | non =>
    cases ry
    cases x with
    | non => cases rx; exact SeqAt.EqAt.same _
    | bl b => cases rx; exact SeqAt.EqAt.none_bool b
    | int b => obtain ⟨t, rfl⟩ := rx; exact SeqAt.EqAt.none_int b t
    | str b => obtain ⟨t, rfl⟩ := rx; exact SeqAt.EqAt.none_str b t
    | _ => exact absurd (show false = true from fx) Bool.false_ne_true
  | bl a =>
    cases ry
    cases x with
    | non => cases rx; exact SeqAt.EqAt.bool_none a
    | bl b => cases rx; exact SeqAt.EqAt.bool_bool a b
    | int b => obtain ⟨t, rfl⟩ := rx; exact SeqAt.EqAt.bool_int a b t
    | str b => obtain ⟨t, rfl⟩ := rx; exact SeqAt.EqAt.bool_str a b t
    | _ => exact absurd (show false = true from fx) Bool.false_ne_true
  | int a =>
    obtain ⟨t', rfl⟩ := ry
    cases x with
    | non => cases rx; exact SeqAt.EqAt.int_none a t'
    | bl b => cases rx; exact SeqAt.EqAt.int_bool a t' b
    | int b => obtain ⟨t, rfl⟩ := rx; exact SeqAt.EqAt.int_int a t' b t
    | str b => obtain ⟨t, rfl⟩ := rx; exact SeqAt.EqAt.int_str a t' b t
    | _ => exact absurd (show false = true from fx) Bool.false_ne_true
  | str a =>
    obtain ⟨t', rfl⟩ := ry
    cases x with
    | non => cases rx; exact SeqAt.EqAt.str_none a t'
    | bl b => cases rx; exact SeqAt.EqAt.str_bool a t' b
    | int b => obtain ⟨t, rfl⟩ := rx; exact SeqAt.EqAt.str_int a t' b t
    | str b => obtain ⟨t, rfl⟩ := rx; exact SeqAt.EqAt.str_str a t' b t
    | _ => exact absurd (show false = true from fx) Bool.false_ne_true
  | _ => exact absurd (show false = true from fy) Bool.false_ne_true
theorem call_list_of : CallR X (.type "list") (fun xs H Q => ∃ p ys, xs = [.ref p] ∧ (SqL X.K H p ys ∨ SqT X.K H p ys) ∧ ∀ l, H l = none → Q (.ref l) (upd H l (.lst ys))) := by
  intro pins s σ H xs us Q I r h
  obtain ⟨p, ys, rfl, hq, q⟩ := h
  obtain ⟨u, rfl, rx⟩ := vals1 r
  cases rx
  have fin : ∀ (its : List Value), Vals ys its → ys.length ≤ sizeLine → ∀ (h' : Heap) (c' : Nat), (∀ b o', s.heap.get? b = some o' → h'.get? b = some o') →
      h'.get? s.heap.objs.size = some { cls := .type "list", dict := none, data := .seq its.toArray c', slots := #[] } → EP X pins σ Q (.ref s.heap.objs.size) { s with heap := h' } := fun its r' hz h' c' kp e =>
    ⟨.ref s.heap.objs.size, _, I.laid (t' := s.toks) kp (Nat.le_refl _) (show ObjOk X.prog X.w _ h' _ (.lst ys) from ⟨hz, its, c', r', e⟩), rfl, q _ (I.hok.fresh (Nat.le_refl _))⟩
  rcases hq with hq | hq
  · obtain ⟨its, r', pl, hz⟩ := I.list hq
    have hlen := r'.length
    obtain ⟨o, ho, hc, n, hd⟩ := pl.isList
    exact call_list_seq p (.inl rfl) ho hc hd (fun h' c' kp e => fin its r' hz h' c' kp e) (by simp only [List.size_toArray] <;> omega)
  · obtain ⟨its, r', pl, hz⟩ := I.tuple hq
    have hlen := r'.length
    obtain ⟨o, ho, hc, n, hd⟩ := pl
    exact call_list_seq p (.inr rfl) ho hc hd (fun h' c' kp e => fin its r' hz h' c' kp e) (by simp only [List.size_toArray] <;> omega)
theorem call_tuple_of : CallR X (.type "tuple") (fun xs H Q => ∃ p ys, xs = [.ref p] ∧ ((SqL X.K H p ys ∧ ∀ l, H l = none → Q (.ref l) (upd H l (.tup ys))) ∨ (SqT X.K H p ys ∧ Q (.ref p) H))) := by
  intro pins s σ H xs us Q I r h
  obtain ⟨p, ys, rfl, h⟩ := h
  obtain ⟨u, rfl, rx⟩ := vals1 r
  cases rx
  rcases h with ⟨hq, q⟩ | ⟨hq, q⟩
  · obtain ⟨its, r', pl, hz⟩ := I.list hq
    have hlen := r'.length
    refine call_tuple_list pl.isList (fun h' kp => ?_) (by simp only [List.size_toArray] <;> omega)
    have I1 : Inv X pins σ H { s with heap := h' } := I.kept (t' := s.toks) kp
    have I2 : Inv X pins σ (upd H h'.objs.size (.tup ys)) { s with heap := h'.push { cls := .type "tuple", data := .seq its.toArray } } :=
      I1.laid (t' := s.toks) (fun b o e => Heap.get?_push_of_some _ e) (Nat.le_refl _) (show ObjOk X.prog X.w _ _ _ (.tup ys) from ⟨hz, its, r', TupN.new _ _⟩)
    exact ⟨.ref h'.objs.size, _, I2, rfl, q _ (I1.hok.fresh (Nat.le_refl _))⟩
  · obtain ⟨its, r', pl, hz⟩ := I.tuple hq
    exact call_tuple_same pl ⟨.ref p, H, I, rfl, q⟩
def tyV (K : PySem.W.Frag) (T : String) (x : V) (H : Hp) : Prop := match x with
  | .str _ => T = "str"
  | .int _ => T = "int"
  | .ref p => (T = "list" ∧ ∃ xs, SqL K H p xs) ∨ (T = "tuple" ∧ ∃ o, K.lookup p = some o ∧ o.cls = .type "tuple" ∧ o.dict = none) ∨
      (T = "dict" ∧ ((∃ kvs, H p = some (.dK kvs)) ∨ ∃ kvs, H p = some (.dT kvs))) ∨ (T = "set" ∧ ∃ S n, H p = some (.set S n))
  | _ => False
theorem tyV_is {pins : List (Addr × Obj)} {σ : St} {H : Hp} {s : Shared} {T : String} {x : V} {v : Value} (I : Inv X pins σ H s) (r : RelV x v) (ty : tyV X.K T x H) :
    s.TypeIs v T ∧ ∀ a, v = .ref a → ∃ ob, s.heap.get? a = some ob ∧ ob.dict = none := by
  cases x with
  | str z =>
    obtain ⟨t, rfl⟩ := r
    cases (show T = "str" from ty)
    exact ⟨typeIs_str s z t, fun _ e => nomatch e⟩
  | int i =>
    obtain ⟨t, rfl⟩ := r
    cases (show T = "int" from ty)
    exact ⟨typeIs_int s i t, fun _ e => nomatch e⟩
  | ref p =>
    cases r
    rcases ty with ⟨rfl, xs, hq⟩ | ⟨rfl, o, hk, hc, hd⟩ | ⟨rfl, hk⟩ | ⟨rfl, S, n, hk⟩
    · obtain ⟨its, _, pl, _⟩ := I.list hq
      refine ⟨pl.isList.typeIs, fun a e => ?_⟩
      cases e
      obtain ⟨o, n, e, c, hd, _⟩ := pl
      exact ⟨o, e, hd⟩
    · refine ⟨⟨o, I.kIn p o hk, hc⟩, fun a e => ?_⟩
      cases e
      exact ⟨o, I.kIn _ o hk, hd⟩
    · have z : ∃ o, s.heap.get? p = some o ∧ o.ExactDict := by
        rcases hk with ⟨kvs, hk⟩ | ⟨kvs, hk⟩
        · obtain ⟨_, _, _, _, o, _, _, e, ex, _⟩ := I.hok p _ hk
          exact ⟨o, e, ex⟩
        · obtain ⟨_, _, _, _, o, _, _, e, ex, _⟩ := I.hok p _ hk
          exact ⟨o, e, ex⟩
      obtain ⟨o, e, ex⟩ := z
      refine ⟨⟨o, e, ex.1⟩, fun a e2 => ?_⟩
      cases e2
      exact ⟨o, e, ex.2.1⟩
    · obtain ⟨o, _, _, _, e, ex, _⟩ := I.hok p _ hk
      refine ⟨⟨o, e, ex.1⟩, fun a e2 => ?_⟩
      cases e2
      exact ⟨o, e, ex.2.1⟩
  | _ => exact False.elim ty
def tBM0 (K : PySem.W.Frag) (T : String) (r : V → List V → Hp → VK → Prop) (to : TE) : TE := fun σ H Q => to σ H fun x H1 => tyV K T x H1 ∧ r x [] H1 Q
def tBM (K : PySem.W.Frag) (T : String) (r : V → List V → Hp → VK → Prop) (to : TE) (t : TA) : TE := fun σ H Q => to σ H fun x H1 => tyV K T x H1 ∧ t σ H1 fun xs H2 => r x xs H2 Q
variable {o e : Expr} {es : List Expr} {to : TE} {t : TA} {name : Str} {apos cpos : Pos} {T id : String} {r : V → List V → Hp → VK → Prop}
theorem pe_bm0 (pa : PlainAttrs T) (slot : Slot T name id) (hty : typeOf (.builtin id) = pure (.type "method_descriptor")) (hm : MtR X id r) (ho : PE X o to)
    (hbase : attributeBase o name X.env (eval o X.env) = eval o X.env := by rfl) (hline : (apos.endLine == cpos.line) = true := by rfl) : PE X (.Call (.Attribute o name apos) [] [] cpos) (tBM0 X.K T r to) := by
  intro pins s σ H Q I h
  refine wpAny_Call_method0_late hbase hline (thn (ho pins s σ H _ I h) fun v s1 ⟨x, H1, I1, r1, ty, q1⟩ => ?_)
  obtain ⟨h1, h2⟩ := tyV_is I1 r1 ty
  exact ⟨T, id, pa, slot, hty, h1, h2, Calls.callWith_builtin rfl (PySem.evalArgs_none (hm pins s1 σ H1 x [] v [] Q I1 r1 .nil q1))⟩
theorem pe_bm (pa : PlainAttrs T) (slot : Slot T name id) (hty : typeOf (.builtin id) = pure (.type "method_descriptor")) (hm : MtR X id r) (ho : PE X o to) (ha : PA X (e :: es) t)
    (hbase : attributeBase o name X.env (eval o X.env) = eval o X.env := by rfl)
    (hfew : ((backTo cpos (starEach (e :: es) X.env)).all (fun x => !x.1) && (backToKw cpos (keywordEach [] X.env)).all (fun x => x.1.isSome)
      && decide ((e :: es).length + ([] : List Keyword).length + (if ([] : List Keyword).isEmpty then 0 else 1) < 30)) = true := by rfl)
    (hline : (apos.endLine == cpos.line) = true := by rfl) (hs : starEach (e :: es) X.env = (false, eval e X.env) :: starEach es X.env := by rfl) (hplain : (backTo cpos (starEach es X.env)).any (·.1) = false := by rfl) :
    PE X (.Call (.Attribute o name apos) (e :: es) [] cpos) (tBM X.K T r to t) := by
  intro pins s σ H Q I h
  refine wpAny_Call_method_late hbase hfew hline rfl (thn (ho pins s σ H _ I h) fun v s1 ⟨x, H1, I1, r1, ty, q1⟩ => ?_)
  obtain ⟨h1, h2⟩ := tyV_is I1 r1 ty
  refine ⟨T, id, pa, slot, hty, h1, h2, ?_⟩
  have hA := ha cpos pins s1 σ H1 _ I1 q1
  rw [hs] at hA ⊢
  refine Calls.callWith_builtin (by show (false || (backTo cpos (starEach es X.env)).any (·.1)) = false; rw [hplain] <;> rfl) (Calls.evalArgs_plain ?_)
  exact thn hA fun us s2 ⟨vs, H2, I2, r2, q2⟩ => hm pins s2 σ H2 x vs v us Q I2 r1 r2 q2
end
end L2
namespace L2
open PySem PySem.Spec PyProof.Rows
def MtM (X : Cx) (id : String) (r : V → List V → Hp → VK → Prop) : Prop :=
  ∀ (pins : List (Addr × Obj)) (s : Shared) (σ : St) (H : Hp) (x : V) (xs : List V) (v : Value) (us : List Value) (Q : VK), Inv X pins σ H s → RelV x v → Vals xs us → r x xs H Q →
    wpAny (model X.prog X.w) X.A (call (.builtin id) (v :: us)) (EP X pins σ Q) X.xe s
theorem Vals.one : ∀ {x : V} {us : List Value}, Vals [x] us → ∃ u, us = [u] ∧ RelV x u
  | _, _, .cons r .nil => ⟨_, rfl, r⟩
theorem Vals.zero : ∀ {us : List Value}, Vals [] us → us = []
  | _, .nil => rfl
theorem Vals.dropLast {xs : List V} {us : List Value} (h : Vals xs us) : Vals xs.dropLast us.dropLast := by
  induction h with
  | nil => exact .nil
  | cons r t ih =>
    cases t with
    | nil => exact .nil
    | cons q t' => exact .cons r ih
theorem Vals.eraseIdx : ∀ {xs : List V} {us : List Value} (i : Nat), Vals xs us → Vals (xs.eraseIdx i) (us.eraseIdx i)
  | _, _, _, .nil => .nil
  | _, _, 0, .cons _ t => t
  | _, _, i + 1, .cons r t => .cons r (Vals.eraseIdx i t)
theorem Vals.reverse {xs : List V} {us : List Value} (h : Vals xs us) : Vals xs.reverse us.reverse := by
  induction h with
  | nil => exact .nil
  | cons r t ih => rw [List.reverse_cons, List.reverse_cons]; exact Vals.append ih (.cons r .nil)
theorem erase_last {α : Type} (l : List α) : l.eraseIdx (l.length - 1) = l.dropLast := by
  induction l with
  | nil => rfl
  | cons a r ih =>
    cases r with
    | nil => rfl
    | cons b r =>
      have e : (a :: b :: r).length - 1 = ((b :: r).length - 1) + 1 := by
        have h1 : (a :: b :: r).length = r.length + 2 := rfl
        have h2 : (b :: r).length = r.length + 1 := rfl
        omega
      rw [e, List.eraseIdx_cons_succ, ih]
      all_goals rfl
theorem len_erase {α : Type} : ∀ (l : List α) (i : Nat), (l.eraseIdx i).length ≤ l.length
  | [], _ => Nat.le_refl _
  | _ :: _, 0 => Nat.le_succ _
  | _ :: r, i + 1 => Nat.succ_le_succ (len_erase r i)
section
variable {X : Cx} {pins : List (Addr × Obj)} {σ : St} {H : Hp} {s : Shared} {l b : Addr} {xs ys zs : List V}
theorem Inv.lset {its its' : List Value} {n : Nat} {f : Array Value → Array Value} {t' : Nat} (I : Inv X pins σ H s) (hH : H l = some (.lst xs))
    (e : s.heap.get? l = some { cls := .type "list", data := .seq its.toArray n }) (hf : f its.toArray = its'.toArray) (hv : Vals ys its') (hz : ys.length ≤ sizeLine) :
    Inv X pins σ (upd H l (.lst ys)) { s with heap := s.heap.update l (Obj.mapSeq f), toks := t' } := by
  have q := PySem.IsL.update e f
  rw [hf] at q
  refine I.write (x := l) (e := l) (by rw [hH]; exact trivial) (.inl rfl) (fun b' u hb hu => (Heap.get?_update_other s.heap (Obj.mapSeq f) (Ne.symm hb)).trans hu) ⟨_, q⟩ ?_
  exact ⟨hz, its', _, hv, q⟩
theorem Inv.lnew {its : List Value} {t' : Nat} (I : Inv X pins σ H s) (hv : Vals ys its) (hz : ys.length ≤ sizeLine) :
    Inv X pins σ (upd H s.heap.objs.size (.lst ys)) { s with heap := s.heap.push { cls := .type "list", data := .seq its.toArray }, toks := t' } :=
  I.laid (fun _ _ q => Heap.get?_push_of_some _ q) (Nat.le_refl _) ⟨hz, its, 0, hv, Heap.get?_push_size _ rfl⟩
theorem Inv.fresh (I : Inv X pins σ H s) : H s.heap.objs.size = none := I.hok.fresh (Nat.le_refl _)
theorem Inv.lstM (I : Inv X pins σ H s) (hH : H l = some (.lst xs)) : xs.length ≤ sizeLine ∧ ∃ (its : List Value) (n : Nat), Vals xs its ∧ xs.length = its.length ∧ s.heap.get? l = some { cls := .type "list", data := .seq its.toArray n } := by
  obtain ⟨z, its, n, r, e⟩ := I.hok l _ hH
  exact ⟨z, its, n, r, r.length, e⟩
end
section
variable {X : Cx}
def rAppend : V → List V → Hp → VK → Prop := fun x vs H Q => ∃ l xs y, x = .ref l ∧ vs = [y] ∧ H l = some (.lst xs) ∧ xs.length < sizeLine ∧ Q .non (upd H l (.lst (xs ++ [y])))
theorem mt_append : MtM X "list.append" rAppend := by
  intro pins s σ H x vs v us Q I rx rv h
  obtain ⟨l, xs, y, rfl, rfl, hH, hz, q⟩ := h
  cases rx
  obtain ⟨u, rfl, ru⟩ := rv.one
  obtain ⟨z, its, n, r, hl, e⟩ := I.lstM hH
  refine call_meets F.slot_list_append ⟨_, e, rfl⟩ F.entry_list_append (F.args_list_append_2 _ _) (PySem.list_append l its.toArray n u (by rw [List.size_toArray]; omega)) ⟨e, ?_⟩
  refine ⟨.non, _, I.lset (its' := its ++ [u]) hH e (by simp) (r.append (.cons ru .nil)) ?_, rfl, q⟩
  rw [List.length_append, List.length_singleton]
  omega
def rPop : V → List V → Hp → VK → Prop := fun x vs H Q => ∃ l xs y, x = .ref l ∧ vs = [] ∧ H l = some (.lst xs) ∧ xs[xs.length - 1]? = some y ∧ Q y (upd H l (.lst xs.dropLast))
theorem mt_pop : MtM X "list.pop" rPop := by
  intro pins s σ H x vs v us Q I rx rv h
  obtain ⟨l, xs, y, rfl, rfl, hH, hy, q⟩ := h
  cases rx
  have hus := rv.zero
  subst hus
  obtain ⟨z, its, n, r, hl, e⟩ := I.lstM hH
  obtain ⟨u, hu, ru⟩ := r.get hy
  have hy' : its.toArray[its.toArray.size - 1]? = some u := by
    show its.toArray[its.length - 1]? = some u
    rw [← Array.getElem?_toList, ← hl]
    exact hu
  refine call_meets F.slot_list_pop ⟨_, e, rfl⟩ F.entry_list_pop (F.args_list_pop_1 _) (MeetsSeq.list_pop_last l its.toArray n u hy' (by rw [List.size_toArray]; omega)) ⟨e, ?_⟩
  refine ⟨y, _, I.lset (its' := its.dropLast) hH e ?_ r.dropLast ?_, ru, q⟩
  · show its.toArray.eraseIdxIfInBounds (its.toArray.size - 1) = its.dropLast.toArray
    rw [List.size_toArray, List.eraseIdxIfInBounds_toArray, erase_last]
  · rw [List.length_dropLast]
    omega
def rPopAt : V → List V → Hp → VK → Prop := fun x vs H Q => ∃ l xs i k y, x = .ref l ∧ vs = [.int i] ∧ H l = some (.lst xs) ∧ -(2 ^ 63) ≤ i ∧ i < 2 ^ 63 ∧ seqIndex? i xs.length = some k ∧ xs[k]? = some y ∧ Q y (upd H l (.lst (xs.eraseIdx k)))
theorem mt_popAt : MtM X "list.pop" rPopAt := by
  intro pins s σ H x vs v us Q I rx rv h
  obtain ⟨l, xs, i, k, y, rfl, rfl, hH, h1, h2, hk, hy, q⟩ := h
  cases rx
  obtain ⟨u, rfl, ru⟩ := rv.one
  obtain ⟨t, rfl⟩ := ru
  obtain ⟨z, its, n, r, hl, e⟩ := I.lstM hH
  obtain ⟨w, hw, rw'⟩ := r.get hy
  refine call_meets F.slot_list_pop ⟨_, e, rfl⟩ F.entry_list_pop (F.args_list_pop_2 _ _)
    (MeetsSeq.list_pop_at l its.toArray n i t k w (fitsIndex_both h1 h2) (by rw [List.size_toArray, ← hl]; exact hk) (by rw [← Array.getElem?_toList]; exact hw) (by rw [List.size_toArray]; omega)) ⟨e, ?_⟩
  refine ⟨y, _, I.lset (its' := its.eraseIdx k) hH e ?_ (r.eraseIdx k) ?_, rw', q⟩
  · show its.toArray.eraseIdxIfInBounds k = (its.eraseIdx k).toArray
    rw [List.eraseIdxIfInBounds_toArray]
  · have := len_erase xs k
    omega
def rReverse : V → List V → Hp → VK → Prop := fun x vs H Q => ∃ l xs, x = .ref l ∧ vs = [] ∧ H l = some (.lst xs) ∧ Q .non (upd H l (.lst xs.reverse))
theorem mt_reverse : MtM X "list.reverse" rReverse := by
  intro pins s σ H x vs v us Q I rx rv h
  obtain ⟨l, xs, rfl, rfl, hH, q⟩ := h
  cases rx
  have hus := rv.zero
  subst hus
  obtain ⟨z, its, n, r, hl, e⟩ := I.lstM hH
  refine call_meets F.slot_list_reverse ⟨_, e, rfl⟩ F.entry_list_reverse (F.args_list_reverse_1 _) (AutoSeq1.list_reverse_list_0 l its.toArray n (by rw [List.size_toArray]; omega)) ⟨e, ?_⟩
  refine ⟨.non, _, I.lset (its' := its.reverse) hH e (by simp) r.reverse ?_, rfl, q⟩
  rw [List.length_reverse]
  omega
def rClear : V → List V → Hp → VK → Prop := fun x vs H Q => ∃ l xs, x = .ref l ∧ vs = [] ∧ H l = some (.lst xs) ∧ Q .non (upd H l (.lst []))
theorem mt_clear : MtM X "list.clear" rClear := by
  intro pins s σ H x vs v us Q I rx rv h
  obtain ⟨l, xs, rfl, rfl, hH, q⟩ := h
  cases rx
  have hus := rv.zero
  subst hus
  obtain ⟨z, its, n, r, hl, e⟩ := I.lstM hH
  refine call_meets F.slot_list_clear ⟨_, e, rfl⟩ F.entry_list_clear (F.args_list_clear_1 _) (AutoSeq1.list_clear_list_0 l its.toArray n (by rw [List.size_toArray]; omega)) ⟨e, ?_⟩
  exact ⟨.non, _, I.lset (its' := []) (ys := []) hH e rfl .nil (Nat.zero_le _), rfl, q⟩
end
section
variable {prog : Program} {w : World} {A : Around} {E : Value → Shared → Prop} {s : Shared}
end
section
variable {X : Cx}
end
end L2
namespace L2
open PySem PySem.Spec PyProof.Rows
section
variable {κ : Type} [DecidableEq κ]
def valV (kvs : List (κ × V)) (k : κ) : Option V := (kvs.find? fun kv => decide (kv.1 = k)).map (·.2)
def putK (kvs : List (κ × V)) (k : κ) (v : V) : List (κ × V) :=
  if (kvs.any fun kv => decide (kv.1 = k)) = true then kvs.map (fun kv => if kv.1 = k then (kv.1, v) else kv) else kvs ++ [(k, v)]
theorem valV_pos {p : κ × V} {r : List (κ × V)} {k : κ} (e : p.1 = k) : valV (p :: r) k = some p.2 := by simp [valV, List.find?_cons, e]
theorem valV_neg {p : κ × V} {r : List (κ × V)} {k : κ} (e : ¬ p.1 = k) : valV (p :: r) k = valV r k := by simp [valV, List.find?_cons, e]
theorem valV_any (k : κ) : ∀ kvs : List (κ × V), (kvs.any fun kv => decide (kv.1 = k)) = (valV kvs k).isSome
  | [] => rfl
  | p :: r => by
    rw [List.any_cons]
    by_cases e : p.1 = k
    · simp only [valV_pos e, decide_eq_true e, Bool.true_or, Option.isSome_some]
    · rw [valV_neg e, decide_eq_false e, Bool.false_or]; exact valV_any k r
theorem length_putK (kvs : List (κ × V)) (k : κ) (v : V) : (putK kvs k v).length ≤ kvs.length + 1 := by
  unfold putK
  split
  · rw [List.length_map]; omega
  · rw [List.length_append, List.length_cons, List.length_nil]; omega
theorem RelO.isSome_eq {o : Option V} {u : Option Value} (r : RelO o u) : o.isSome = u.isSome := by
  cases o with
  | none => cases u with
    | none => rfl
    | some _ => exact (show False from r).elim
  | some _ => cases u with
    | none => exact (show False from r).elim
    | some _ => rfl
theorem KV.val {kvs : List (κ × V)} {vs : List (κ × Value)} (r : KV kvs vs) (k : κ) : RelO (valV kvs k) (valueAt vs k) := by
  unfold KV at r
  induction r with
  | nil => exact True.intro
  | @cons p q ps qs h t ih =>
    obtain ⟨h1, h2⟩ := h
    by_cases e : p.1 = k
    · have e' : q.1 = k := h1.symm.trans e
      have b : valueAt (q :: qs) k = some q.2 := by simp [valueAt, List.find?_cons, e']
      rw [valV_pos e, b]; exact h2
    · have e' : ¬ q.1 = k := fun z => e (h1.trans z)
      have b : valueAt (q :: qs) k = valueAt qs k := by simp [valueAt, List.find?_cons, e']
      rw [valV_neg e, b]; exact ih
theorem KV.any {kvs : List (κ × V)} {vs : List (κ × Value)} (r : KV kvs vs) (k : κ) : (kvs.any fun kv => decide (kv.1 = k)) = vs.any fun kv => decide (kv.1 = k) := by
  unfold KV at r
  induction r with
  | nil => rfl
  | cons h t ih => rw [List.any_cons, List.any_cons, ih, h.1]
theorem KV.repl {kvs : List (κ × V)} {vs : List (κ × Value)} (r : KV kvs vs) (k : κ) {y : V} {u : Value} (ry : RelV y u) :
    KV (kvs.map fun kv => if kv.1 = k then (kv.1, y) else kv) (vs.map fun kv => if kv.1 = k then (kv.1, u) else kv) := by
  unfold KV at r ⊢
  induction r with
  | nil => exact .nil
  | @cons p q ps qs h t ih =>
    rw [List.map_cons, List.map_cons]
    refine .cons ?_ ih
    obtain ⟨h1, h2⟩ := h
    by_cases e : p.1 = k
    · rw [if_pos e, if_pos (h1.symm.trans e)]; exact ⟨h1, ry⟩
    · rw [if_neg e, if_neg (fun z => e (h1.trans z))]; exact ⟨h1, h2⟩
theorem KV.put {kvs : List (κ × V)} {vs : List (κ × Value)} (r : KV kvs vs) (k : κ) {y : V} {u : Value} (ry : RelV y u) : KV (putK kvs k y) (stored vs k u) := by
  unfold putK stored
  rw [r.any k]
  by_cases e : (vs.any fun kv => decide (kv.1 = k)) = true
  · rw [if_pos e, if_pos e]; exact r.repl k ry
  · rw [if_neg e, if_neg e]; exact Paired.snoc r ⟨rfl, ry⟩
theorem KV.length {kvs : List (κ × V)} {vs : List (κ × Value)} (r : KV kvs vs) : kvs.length = vs.length := Paired.length r
end
theorem kV_is {P : Program} {w : World} {k : Key} {u : Value} (r : RelV (kV k) u) : (mixKind P w).is k u = true := by
  cases k with
  | inl i => obtain ⟨t, e⟩ := (show ∃ t, u = Value.int i t from r); subst e; exact mixKind_int P w i t
  | inr x => obtain ⟨t, e⟩ := (show ∃ t, u = Value.str x t from r); subst e; exact mixKind_str P w x t
theorem items_are {P : Program} {w : World} : ∀ {ks : List Key} {us : List Value}, Vals (ks.map kV) us → ItemsAre (mixKind P w) ks us
  | [], _, r => by rw [List.map_nil] at r; cases r; exact .nil
  | k :: ks, _, r => by
    rw [List.map_cons] at r
    cases r with
    | cons h t => exact .cons (kV_is h) (items_are t)
abbrev KT (H : Hp) : List (List Key × V) → List (List Key × Addr × Value) → Prop := Paired fun p q => p.1 = q.1 ∧ H q.2.1 = some (.tup (p.1.map kV)) ∧ RelV p.2 q.2.2
theorem KT.val {H : Hp} {kvs : List (List Key × V)} {xs : List (List Key × Addr × Value)} (r : KT H kvs xs) (k : List Key) : RelO (valV kvs k) ((atKey xs k).map (·.2)) := by
  induction r with
  | nil => exact True.intro
  | @cons p q ps qs h t ih =>
    obtain ⟨h1, _, h2⟩ := h
    by_cases e : p.1 = k
    · have e' : q.1 = k := h1.symm.trans e
      have b : atKey (q :: qs) k = some q.2 := by simp [atKey, List.find?_cons, e']
      rw [valV_pos e, b]; exact h2
    · have e' : ¬ q.1 = k := fun z => e (h1.trans z)
      have b : atKey (q :: qs) k = atKey qs k := by simp [atKey, List.find?_cons, e']
      rw [valV_neg e, b]; exact ih
theorem KT.repl {H : Hp} {kvs : List (List Key × V)} {xs : List (List Key × Addr × Value)} (r : KT H kvs xs) (k : List Key) {y : V} {u : Value} (ry : RelV y u) :
    KT H (kvs.map fun kv => if kv.1 = k then (kv.1, y) else kv) (xs.map (putAt k u)) := by
  induction r with
  | nil => exact .nil
  | @cons p q ps qs h t ih =>
    rw [List.map_cons, List.map_cons]
    refine .cons ?_ ih
    obtain ⟨h1, h2, h3⟩ := h
    unfold putAt
    by_cases e : p.1 = k
    · rw [if_pos e, if_pos (h1.symm.trans e)]; exact ⟨h1, h2, ry⟩
    · rw [if_neg e, if_neg (fun z => e (h1.trans z))]; exact ⟨h1, h2, h3⟩
theorem KT.put {H : Hp} {kvs : List (List Key × V)} {xs : List (List Key × Addr × Value)} (r : KT H kvs xs) (k : List Key) {b : Addr} {y : V} {u : Value} (hb : H b = some (.tup (k.map kV))) (ry : RelV y u) :
    KT H (putK kvs k y) (storedH xs k b u) := by
  have e : (kvs.any fun kv => decide (kv.1 = k)) = (atKey xs k).isSome := by
    rw [valV_any, (r.val k).isSome_eq, Option.isSome_map]
  unfold putK storedH
  rw [e]
  by_cases q : (atKey xs k).isSome = true
  · rw [if_pos q, if_pos q]; exact r.repl k ry
  · rw [if_neg q, if_neg q]; exact Paired.snoc r ⟨rfl, hb, ry⟩
theorem KT.keeps {H H' : Hp} {kvs : List (List Key × V)} {xs : List (List Key × Addr × Value)} (r : KT H kvs xs) (ht : ∀ b ys, H b = some (.tup ys) → H' b = some (.tup ys)) : KT H' kvs xs :=
  Paired.mapP r fun _ _ z => ⟨z.1, ht _ _ z.2.1, z.2.2⟩
section
variable {P : Program} {w : World} {H : Hp} {h : Heap} {a : Addr}
theorem rd_of {u : HO} (ok : HOk P w H h) (e : Rd H a u) : ObjOk P w H h a u := e.ok ok
theorem dk_rd {kvs : List (Key × V)} (ok : HOk P w H h) (e : Rd H a (.dK kvs)) : kvs.length ≤ sizeLine ∧ (a == sysModules) = false ∧ ∃ vs, KV kvs vs ∧ h.DictOf (mixKind P w) a vs :=
  show ObjOk P w H h a (.dK kvs) from rd_of ok e
theorem dk_of {kvs : List (Key × V)} (ok : HOk P w H h) (e : H a = some (.dK kvs)) : kvs.length ≤ sizeLine ∧ (a == sysModules) = false ∧ ∃ vs, KV kvs vs ∧ h.DictOf (mixKind P w) a vs := dk_rd ok (.inl e)
theorem key_of {ks : List Key} (ok : HOk P w H h) (e : H a = some (.tup (ks.map kV))) : (tupleKind (mixKind P w)).is h ks a := by
  obtain ⟨_, its, r, o, h1, h2, _, n, h3⟩ := (show ObjOk P w H h a (.tup (ks.map kV)) from ok a _ e)
  exact ⟨o, its.toArray, n, h1, h2, h3, by simpa using items_are r⟩
theorem dt_rd {kvs : List (List Key × V)} (ok : HOk P w H h) (e : Rd H a (.dT kvs)) : kvs.length ≤ sizeLine ∧ (a == sysModules) = false ∧
    ∃ xs, KT H kvs xs ∧ h.DictOfH (tupleKind (mixKind P w)) a xs := by
  obtain ⟨z, y, xs, r, o, es, ep, h1, h2, h3, h4, h5⟩ := (show ObjOk P w H h a (.dT kvs) from rd_of ok e)
  refine ⟨z, y, xs, r, o, es, ep, h1, h2, h3, h4, fun x hx => ?_, h5⟩
  have all : ∀ {l : List (List Key × V)} {m : List (List Key × Addr × Value)}, KT H l m → ∀ x ∈ m, (tupleKind (mixKind P w)).is h x.1 x.2.1 := by
    intro l m q
    induction q with
    | nil => intro x hx; exact nomatch hx
    | @cons p q ps qs hq t ih =>
      intro x hx
      rcases List.mem_cons.mp hx with e | hx
      · subst e
        exact key_of ok (by rw [← hq.1]; exact hq.2.1)
      · exact ih x hx
  exact all r x hx
theorem dt_of {kvs : List (List Key × V)} (ok : HOk P w H h) (e : H a = some (.dT kvs)) : kvs.length ≤ sizeLine ∧ (a == sysModules) = false ∧
    ∃ xs, KT H kvs xs ∧ h.DictOfH (tupleKind (mixKind P w)) a xs := dt_rd ok (.inl e)
end
def DGet (H : Hp) (a : Addr) (y : V) (r : Option V) : Prop :=
  (∃ kvs k, Rd H a (.dK kvs) ∧ y = kV k ∧ r = valV kvs k) ∨ ∃ kvs k b, Rd H a (.dT kvs) ∧ y = .ref b ∧ H b = some (.tup (k.map kV)) ∧ r = valV kvs k
def DPut (H : Hp) (a : Addr) (y v : V) (H' : Hp) : Prop :=
  (∃ kvs k, H a = some (.dK kvs) ∧ y = kV k ∧ kvs.length < sizeLine ∧ H' = upd H a (.dK (putK kvs k v))) ∨
  ∃ kvs k b, H a = some (.dT kvs) ∧ y = .ref b ∧ H b = some (.tup (k.map kV)) ∧ kvs.length < sizeLine ∧ H' = upd H a (.dT (putK kvs k v))
theorem DGet.k {H : Hp} {a : Addr} {kvs : List (Key × V)} {k : Key} (e : H a = some (.dK kvs)) : DGet H a (kV k) (valV kvs k) := .inl ⟨kvs, k, .inl e, rfl, rfl⟩
theorem DGet.t {H : Hp} {a b : Addr} {kvs : List (List Key × V)} {k : List Key} (e : H a = some (.dT kvs)) (eb : H b = some (.tup (k.map kV))) : DGet H a (.ref b) (valV kvs k) := .inr ⟨kvs, k, b, .inl e, rfl, eb, rfl⟩
theorem DPut.k {H : Hp} {a : Addr} {kvs : List (Key × V)} {k : Key} {v : V} (e : H a = some (.dK kvs)) (hl : kvs.length < sizeLine) : DPut H a (kV k) v (upd H a (.dK (putK kvs k v))) := .inl ⟨kvs, k, e, rfl, hl, rfl⟩
theorem DPut.t {H : Hp} {a b : Addr} {kvs : List (List Key × V)} {k : List Key} {v : V} (e : H a = some (.dT kvs)) (eb : H b = some (.tup (k.map kV))) (hl : kvs.length < sizeLine) :
    DPut H a (.ref b) v (upd H a (.dT (putK kvs k v))) := .inr ⟨kvs, k, b, e, rfl, eb, hl, rfl⟩
section
variable {X : Cx} {pins : List (Addr × Obj)} {σ : St} {H : Hp} {s : Shared} {a : Addr} {y v : V} {u r : Value} {o : Option V} {A : Around} {E : Value → Shared → Prop}
theorem Inv.big (I : Inv X pins σ H s) : sysModules < s.heap.objs.size := by
  have h : mainGlobals < s.heap.objs.size := (I.mod.glob.keeps I.bk).lt
  exact Nat.lt_trans (by decide) h
theorem d_getItem {Q : Value → Shared → Prop} (hu : A.units + 1 < cLine) (I : Inv X pins σ H s) (g : DGet H a y (some v)) (ry : RelV y u) (h : ∀ w' s', Inv X pins σ H s' → RelV v w' → Q w' s') :
    wpAny (model X.prog X.w) A (getItem (.ref a) u) Q E s := by
  rcases g with ⟨kvs, k, e, ey, l⟩ | ⟨kvs, k, b, e, ey, eb, l⟩
  · subst ey
    obtain ⟨z, hd, vs, rel, dd⟩ := dk_rd I.hok e
    obtain ⟨w', hw, rw'⟩ := RelO.some_of (v := v) (o := valueAt vs k) (by rw [l]; exact rel.val k)
    exact wpAny_getItem_of (kV_is ry) dd.mapOf hw (h w' _ (I.tok _) rw')
  · subst ey
    cases (show u = Value.ref b from ry)
    obtain ⟨z, hd, xs, rel, dd⟩ := dt_rd I.hok e
    obtain ⟨w', hw, rw'⟩ := RelO.some_of (v := v) (o := (atKey xs k).map (·.2)) (by rw [l]; exact rel.val k)
    obtain ⟨p, hp, hp2⟩ := Option.map_eq_some_iff.mp hw
    refine wpAny_getItem_heap (tupleKind_room_in1 hu) (key_of I.hok eb) dd hp ?_
    rw [hp2]
    exact h w' _ (I.tok _) rw'
theorem d_in {Q : Value → Shared → Prop} (hu : A.units + 1 < cLine) (I : Inv X pins σ H s) (g : DGet H a y o) (ry : RelV y u) (h : ∀ s', Inv X pins σ H s' → Q (.bool o.isSome) s') :
    wpAny (model X.prog X.w) A (compareOp .In u (.ref a)) Q E s := by
  rcases g with ⟨kvs, k, e, ey, l⟩ | ⟨kvs, k, b, e, ey, eb, l⟩
  · subst ey
    obtain ⟨z, hd, vs, rel, dd⟩ := dk_rd I.hok e
    refine wpAny_in_of (kV_is ry) hd dd.mapOf ?_
    rw [← (rel.val k).isSome_eq, ← l]
    exact h _ (I.tok _)
  · subst ey
    cases (show u = Value.ref b from ry)
    obtain ⟨z, hd, xs, rel, dd⟩ := dt_rd I.hok e
    refine wpAny_in_heap (tupleKind_room_in1 hu) (key_of I.hok eb) hd dd ?_
    have q := (rel.val k).isSome_eq
    rw [Option.isSome_map] at q
    rw [← q, ← l]
    exact h _ (I.tok _)
theorem d_notIn {Q : Value → Shared → Prop} (hu : A.units + 1 < cLine) (I : Inv X pins σ H s) (g : DGet H a y o) (ry : RelV y u) (h : ∀ s', Inv X pins σ H s' → Q (.bool (!o.isSome)) s') :
    wpAny (model X.prog X.w) A (compareOp .NotIn u (.ref a)) Q E s := by
  rcases g with ⟨kvs, k, e, ey, l⟩ | ⟨kvs, k, b, e, ey, eb, l⟩
  · subst ey
    obtain ⟨z, hd, vs, rel, dd⟩ := dk_rd I.hok e
    refine wpAny_notIn_of (kV_is ry) hd dd.mapOf ?_
    rw [← (rel.val k).isSome_eq, ← l]
    exact h _ (I.tok _)
  · subst ey
    cases (show u = Value.ref b from ry)
    obtain ⟨z, hd, xs, rel, dd⟩ := dt_rd I.hok e
    refine wpAny_notIn_heap (tupleKind_room_in1 hu) (key_of I.hok eb) hd dd ?_
    have q := (rel.val k).isSome_eq
    rw [Option.isSome_map] at q
    rw [← q, ← l]
    exact h _ (I.tok _)
theorem d_write {h' : Heap} {t' : Nat} {ob : HO} (I : Inv X pins σ H s) (mu : Mut (H a)) (hs : Heap.SameBut a s.heap h') (he : ∃ q, h'.get? a = some q) (new : ObjOk X.prog X.w (upd H a ob) h' a ob) :
    Inv X pins σ (upd H a ob) { s with heap := h', toks := t' } :=
  I.write (x := a) (e := a) mu (.inl rfl) (fun b q hb z => (hs.2 b hb).trans z) he new
theorem dk_new {P : Program} {w : World} {H' : Hp} {h' : Heap} {kvs : List (Key × V)} {vs : List (Key × Value)} (z : kvs.length ≤ sizeLine) (hd : (a == sysModules) = false) (rel : KV kvs vs) (dd : h'.DictOf (mixKind P w) a vs) :
    ObjOk P w H' h' a (.dK kvs) := ⟨z, hd, vs, rel, dd⟩
theorem d_setItem {H' : Hp} {Q : Unit → Shared → Prop} (hu : A.units + 1 < cLine) (I : Inv X pins σ H s) (g : DPut H a y v H') (ry : RelV y u) (rv : RelV v r) (h : ∀ s', Inv X pins σ H' s' → Q () s') :
    wpAny (model X.prog X.w) A (setItem (.ref a) u r) Q E s := by
  rcases g with ⟨kvs, k, e, ey, l, eH⟩ | ⟨kvs, k, b, e, ey, eb, l, eH⟩
  · subst ey eH
    obtain ⟨z, hd, vs, rel, dd⟩ := dk_of I.hok e
    have hz : vs.length ≤ sizeLine := by rw [← rel.length]; exact z
    have hl : (putK kvs k v).length ≤ sizeLine := by have := length_putK kvs k v; omega
    refine wpAny_setItem_pairs (hsz := hz) (kV_is ry) dd fun h' dd' hs => h _ ?_
    have he : ∃ q, h'.get? a = some q := let ⟨q, _, _, hq, _⟩ := dd'; ⟨q, hq⟩
    exact d_write I (by rw [e]; exact True.intro) hs he (dk_new hl hd (rel.put k rv) dd')
  · subst ey eH
    cases (show u = Value.ref b from ry)
    obtain ⟨z, hd, xs, rel, dd⟩ := dt_of I.hok e
    have hz : xs.length ≤ sizeLine := by rw [← Paired.length rel]; exact z
    have hl : (putK kvs k v).length ≤ sizeLine := by have := length_putK kvs k v; omega
    refine wpAny_setItem_heap (hsz := hz) (tupleKind_room_in1 hu) (key_of I.hok eb) dd fun h' dd' hs => h _ ?_
    obtain ⟨q, es, ep, hq, h2, h3, h4, _, h5⟩ := dd'
    refine d_write I (by rw [e]; exact True.intro) hs ⟨q, hq⟩ ⟨hl, hd, _, (rel.put k eb rv).keeps fun c ys ec => ?_, q, es, ep, hq, h2, h3, h4, h5⟩
    rw [upd_ne (ne_of ec e (fun z => nomatch z))]
    exact ec
end
section
variable {X : Cx} {pins : List (Addr × Obj)} {σ : St} {H : Hp} {s : Shared} {a : Addr} {kvs : List (Key × V)} {k : Key} {u : Value} {A : Around} {E : Value → Shared → Prop}
end
def NoSl (i : Expr) : Prop := ∀ ov iv, subscripted i false ov iv = operate [ov, iv] (getItem ov iv)
theorem subD_of {prog : Program} {w : World} {A : Around} {E : Value → Shared → Prop} {s : Shared} {env : Env} {value slice : Expr} {pos : Pos} {T id : String} {Q : Value → Shared → Prop}
    (hl : typeLookup (.type T) "__getitem__" = pure (some (.builtin id))) (hs : NoSl slice)
    (h : wpAny (model prog w) A (eval value env) (fun o s₁ => wpAny (model prog w) A (eval slice env) (fun i s₂ => s₂.TypeIs o T ∧ wpAny (model prog w) A (getItem o i) Q E s₂) E s₁) E s) :
    wpAny (model prog w) A (eval (.Subscript value slice pos) env) Q E s := by
  refine Subscript_ (wpAny_mono h (fun o s₁ h₁ => wpAny_mono h₁ (fun i s₂ h₂ => ?_) fun _ _ x => x) fun _ _ x => x)
  obtain ⟨hT, h₂⟩ := h₂
  unfold subscriptTail
  refine wpAny_bind ?_
  rw [getitemInPython_of_ne hT.not_modules]
  refine wpAny_bind (wpAny_specialOf hT hl ?_)
  have fin : wpAny (model prog w) A (subscripted slice false o i) (fun r s₃ => wpAny (model prog w) A (letTemporaryGo value o r >>= fun _ => pure r) Q E s₃) E s₂ := by
    rw [hs o i]
    exact wpAny_operating (wpAny_mono h₂ (fun r s₃ h₃ => wpAny_bind (wpAny_letTemporaryGo (wpAny_pure h₃))) fun _ _ x => x)
  first
    | exact wpAny_pure (wpAny_bind fin)
    | exact wpAny_bind (wpAny_pure (wpAny_bind fin))
    | exact wpAny_bind fin
theorem dict_typeIs {X : Cx} {pins : List (Addr × Obj)} {σ : St} {H : Hp} {s : Shared} {a : Addr} {y : V} {o : Option V} (I : Inv X pins σ H s) (g : DGet H a y o) : s.TypeIs (.ref a) "dict" := by
  rcases g with ⟨kvs, k, e, _, _⟩ | ⟨kvs, k, b, e, _, _, _⟩
  · obtain ⟨_, _, vs, _, dd⟩ := dk_rd I.hok e
    exact dd.typeIs
  · obtain ⟨_, _, xs, _, dd⟩ := dt_rd I.hok e
    exact dd.typeIs
def tDGet (td ty : TE) : TE := fun σ H Q => td σ H fun x H1 => ty σ H1 fun y H2 => ∃ a v, x = .ref a ∧ DGet H2 a y (some v) ∧ Q v H2
def tDIn (ty td : TE) : TE := fun σ H Q => ty σ H fun y H1 => td σ H1 fun x H2 => ∃ a o, x = .ref a ∧ DGet H2 a y o ∧ Q (.bl o.isSome) H2
def tDNotIn (ty td : TE) : TE := fun σ H Q => ty σ H fun y H1 => td σ H1 fun x H2 => ∃ a o, x = .ref a ∧ DGet H2 a y o ∧ Q (.bl (!o.isSome)) H2
def sDPut (td ty tv : TE) : TS := fun D σ H => tv σ H fun v H1 => td σ H1 fun x H2 => ty σ H2 fun y H3 => ∃ a H4, x = .ref a ∧ DPut H3 a y v H4 ∧ D.nx σ H4
section
variable {X : Cx} {o i e value : Expr} {pos pos' tpos : Pos} {td ty tv : TE}
theorem pe_dget (hu : X.A.units + 1 < cLine) (ho : PE X o td) (hi : PE X i ty) (hs : NoSl i) : PE X (.Subscript o i pos) (tDGet td ty) := by
  intro pins s σ H Q I h
  refine subD_of PySem.F.slot_dict_getitem.lookup hs (thn (ho pins s σ H _ I h) fun u s1 ⟨x, H1, I1, rx, q1⟩ => thn (hi pins s1 σ H1 _ I1 q1) fun iv s2 ⟨y, H2, I2, ry, a, v, ex, g, q2⟩ => ?_)
  subst ex
  obtain rfl : u = Value.ref a := rx
  exact ⟨dict_typeIs I2 g, d_getItem hu I2 g ry fun w' s3 I3 rw' => ⟨v, H2, I3, rw', q2⟩⟩
theorem pc_din (hu : X.A.units + 1 < cLine) (hi : PE X i ty) (ho : PE X o td) : PC X .In i o (tDIn ty td) := by
  intro pins s σ H Q I h
  refine thn (hi pins s σ H _ I h) fun iv s1 ⟨y, H1, I1, ry, q1⟩ => thn (ho pins s1 σ H1 _ I1 q1) fun u s2 ⟨x, H2, I2, rx, a, ov, ex, g, q2⟩ => ?_
  subst ex
  obtain rfl : u = Value.ref a := rx
  exact d_in hu I2 g ry fun s3 I3 => ⟨.bl ov.isSome, H2, I3, rfl, q2⟩
theorem pc_dnotin (hu : X.A.units + 1 < cLine) (hi : PE X i ty) (ho : PE X o td) : PC X .NotIn i o (tDNotIn ty td) := by
  intro pins s σ H Q I h
  refine thn (hi pins s σ H _ I h) fun iv s1 ⟨y, H1, I1, ry, q1⟩ => thn (ho pins s1 σ H1 _ I1 q1) fun u s2 ⟨x, H2, I2, rx, a, ov, ex, g, q2⟩ => ?_
  subst ex
  obtain rfl : u = Value.ref a := rx
  exact d_notIn hu I2 g ry fun s3 I3 => ⟨.bl (!ov.isSome), H2, I3, rfl, q2⟩
theorem ps_dput (hu : X.A.units + 1 < cLine) (ho : PE X o td) (hi : PE X i ty) (hv : PE X value tv) (hs : swapsWith value (some (.Subscript o i pos')) pos.line X.env = pure false) :
    PS X (.Assign [.Subscript o i pos'] value pos) (sDPut td ty tv) := by
  intro pins s σ H D I h
  refine wpAny_Assign_Subscript (thn (hv pins s σ H _ I h) fun r s1 ⟨v, H1, I1, rv, q1⟩ => thn (ho pins s1 σ H1 _ I1 q1) fun u s2 ⟨x, H2, I2, rx, q2⟩ => thn (hi pins s2 σ H2 _ I2 q2) fun iv s3 ⟨y, H3, I3, ry, a, H4, ex, g, q3⟩ => ?_) hs
  subst ex
  obtain rfl : u = Value.ref a := rx
  exact d_setItem hu I3 g ry rv fun s4 I4 => ⟨σ, H4, I4, q3⟩
end
theorem dk_empty {P : Program} {w : World} {H : Hp} (h : Heap) (hb : sysModules < h.objs.size) : ObjOk P w H (h.push { cls := .type "dict", data := .dict #[] }) h.objs.size (.dK []) :=
  ⟨Nat.zero_le _, beq_eq_false_iff_ne.mpr (Ne.symm (Nat.ne_of_lt hb)), [], .nil, Heap.DictOf.new h⟩
def tDNewK : TE := fun _ H Q => ∀ p, H p = none → Q (.ref p) (upd H p (.dK []))
section
variable {X : Cx} {pos : Pos}
theorem pe_dnewK : PE X (.Dict [] [] pos) tDNewK := fun pins s σ H Q I h =>
  wpAny_Dict_empty ⟨.ref s.heap.objs.size, _, I.laid (a := s.heap.objs.size) (o := .dK []) (t' := s.toks) (fun _ _ q => Heap.get?_push_of_some _ q) (Nat.le_refl _) (dk_empty s.heap I.big), rfl, h _ (I.hok.fresh (Nat.le_refl _))⟩
end
def tPairs : List (TE × TE) → St → Hp → (List (V × V) → Hp → Prop) → Prop
  | [], _, H, Q => Q [] H
  | (tk, tv) :: r, σ, H, Q => tk σ H fun x H1 => tv σ H1 fun y H2 => tPairs r σ H2 fun ps H3 => Q ((x, y) :: ps) H3
abbrev VV : List (V × V) → List (Value × Value) → Prop := Paired fun p q => RelV p.1 q.1 ∧ RelV p.2 q.2
def PPs (X : Cx) (pos : Pos) (keys : List (Option Expr)) (values : List Expr) (trs : List (TE × TE)) : Prop :=
  ∀ (pins : List (Addr × Obj)) (s : Shared) (σ : St) (H : Hp) (Q : List (V × V) → Hp → Prop), Inv X pins σ H s → tPairs trs σ H Q →
    wpAny (model X.prog X.w) X.A (evalPairs (pairTrees keys values X.env pos)) (fun vs s' => ∃ ps H', Inv X pins σ H' s' ∧ VV ps vs ∧ Q ps H') X.xe s
theorem pps_nil {X : Cx} {pos : Pos} : PPs X pos [] [] [] := fun pins s σ H Q I h => pairTrees_nil_walk ⟨[], H, I, .nil, h⟩
theorem pps_cons {X : Cx} {pos : Pos} {k v : Expr} {ks : List (Option Expr)} {vs : List Expr} {tk tv : TE} {trs : List (TE × TE)} (hk : PE X k tk) (hv : PE X v tv) (hr : PPs X pos ks vs trs) :
    PPs X pos (some k :: ks) (v :: vs) ((tk, tv) :: trs) := fun pins s σ H Q I h =>
  pairTrees_cons_walk (thn (hk pins s σ H _ I h) fun u s1 ⟨x, H1, I1, rx, q1⟩ => thn (hv pins s1 σ H1 _ I1 q1) fun w2 s2 ⟨y, H2, I2, ry, q2⟩ =>
    thn (hr pins s2 σ H2 _ I2 q2) fun ws s3 ⟨ps, H3, I3, rel, q3⟩ => ⟨(x, y) :: ps, H3, I3, .cons ⟨rx, ry⟩ rel, q3⟩)
def mergeK (kvs more : List (Key × V)) : List (Key × V) := more.foldl (fun acc kv => putK acc kv.1 kv.2) kvs
theorem KV.merge : ∀ {more : List (Key × V)} {rs : List (Key × Value)} {kvs : List (Key × V)} {vs : List (Key × Value)}, KV more rs → KV kvs vs → KV (mergeK kvs more) (merged vs rs) := by
  intro more rs kvs vs r
  unfold KV at r
  induction r generalizing kvs vs with
  | nil => intro q; exact q
  | @cons p q ps qs h t ih =>
    intro r0
    have e : KV (putK kvs p.1 p.2) (stored vs q.1 q.2) := by
      have := r0.put p.1 h.2
      rw [← h.1]; exact this
    exact ih e
theorem length_mergeK : ∀ (more kvs : List (Key × V)), (mergeK kvs more).length ≤ kvs.length + more.length
  | [], kvs => by show kvs.length ≤ kvs.length + 0; omega
  | p :: r, kvs => by
    have h1 := length_mergeK r (putK kvs p.1 p.2)
    have h2 := length_putK kvs p.1 p.2
    show (mergeK (putK kvs p.1 p.2) r).length ≤ _
    rw [List.length_cons]; omega
theorem carries_of {P : Program} {w : World} : ∀ {kvs : List (Key × V)} {ws : List (Value × Value)}, VV (kvs.map fun kv => (kV kv.1, kv.2)) ws → ∃ rs, Carries (mixKind P w) ws rs ∧ KV kvs rs
  | [], _, r => by rw [List.map_nil] at r; cases r; exact ⟨[], True.intro, .nil⟩
  | p :: kvs, _, r => by
    rw [List.map_cons] at r
    cases r with
    | @cons a b as bs h t =>
      obtain ⟨rs, c, q⟩ := carries_of (P := P) (w := w) t
      obtain ⟨b1, b2⟩ := b
      exact ⟨(p.1, b2) :: rs, ⟨kV_is h.1, rfl, c⟩, .cons ⟨rfl, h.2⟩ q⟩
def tDisp (trs : List (TE × TE)) : TE := fun σ H Q => ∀ p, H p = none → tPairs trs σ (upd H p (.dK [])) fun ps H2 => H2 p = some (.dK []) ∧ ∃ kvs : List (Key × V), ps = kvs.map (fun kv => (kV kv.1, kv.2)) ∧ kvs.length ≤ 15 ∧ Q (.ref p) (upd H2 p (.dK (mergeK [] kvs)))
theorem pe_disp {X : Cx} {pos : Pos} {keys : List (Option Expr)} {values : List Expr} {trs : List (TE × TE)} (h : PPs X pos keys values trs) (hall : keys.all (·.isSome) = true) (hl : keys.length = values.length) (h0 : keys ≠ [])
    (h15 : keys.length ≤ 15) : PE X (.Dict keys values pos) (tDisp trs) := by
  intro pins s σ H Q I q
  have hn := I.hok.fresh (Nat.le_refl s.heap.objs.size)
  have I1 := I.laid (a := s.heap.objs.size) (o := .dK []) (h' := s.heap.push { cls := .type "dict", data := .dict #[] }) (t' := s.toks) (fun _ _ q => Heap.get?_push_of_some _ q) (Nat.le_refl _) (dk_empty s.heap I.big)
  refine wpAny_Dict_walk (knd := mixKind X.prog X.w) hall hl h0 h15 (thn (h pins _ σ _ _ I1 (q _ hn)) fun ws s2 ⟨ps, H2, I2, rel, e, kvs, ep, lk, q2⟩ => ?_)
  subst ep
  obtain ⟨rs, c, rk⟩ := carries_of (P := X.prog) (w := X.w) rel
  obtain ⟨z, hd, vs0, r0, dd⟩ := dk_of I2.hok e
  cases r0
  refine ⟨rs, c, dd, fun h' dd' hs => ⟨.ref s.heap.objs.size, _, ?_, rfl, q2⟩⟩
  have hz : (mergeK [] kvs).length ≤ sizeLine := by
    have h1 := length_mergeK kvs []
    rw [List.length_nil] at h1
    rw [sizeLine_eq]; omega
  have he : ∃ q, h'.get? s.heap.objs.size = some q := let ⟨q, _, _, hq, _⟩ := dd'; ⟨q, hq⟩
  exact d_write I2 (by rw [e]; exact True.intro) hs he (dk_new hz hd (rk.merge .nil) dd')
section
variable {X : Cx} {pins : List (Addr × Obj)} {σ : St} {H : Hp} {s : Shared} {a : Addr} {y d : V} {u r : Value} {o : Option V} {A : Around} {E : Value → Shared → Prop}
end
section
variable {X : Cx} {o e f : Expr} {apos cpos : Pos} {td ty tx : TE}
end
section
variable {X : Cx} {pins : List (Addr × Obj)} {σ : St} {H : Hp} {s : Shared} {a : Addr} {kvs : List (Key × V)} {A : Around} {E : Value → Shared → Prop}
end
section
variable {X : Cx} {pins : List (Addr × Obj)} {σ : St} {H : Hp} {s : Shared} {a : Addr} {y : V} {u : Value} {A : Around} {E : Value → Shared → Prop}
end
end L2
namespace Att
open PySem PySem.W PySem.Calls PyProof.Rows
theorem ints_of_wellAll {P : Params} {h : Heap} : ∀ (ns : List Int) (vs : List Value), WellAll P h vs (ns.map WData.int) → IntsAre vs ns := by
  intro ns
  induction ns with
  | nil =>
    intro vs w
    rw [List.map_nil] at w
    cases w
    exact .nil
  | cons n ns ih =>
    intro vs w
    rw [List.map_cons] at w
    cases w with
    | cons a b =>
      cases a
      exact .cons _ _ (ih _ b)
theorem script_of {l : OpenLaw} {n : Nat} (hn : l.most = some n) {P : Params} {h : Heap} {args : List WData} {vals : List Value}
    (hpre : l.row.toRowW.claim.pre args = true) (hwl : WellAll P h vals args) :
    ∃ a vs ns, vals = [Value.ref a] ∧ args = [WData.list (ns.map WData.int)] ∧ h.get? a = some { cls := .type "list", data := .seq vs.toArray } ∧ IntsAre vs ns ∧ ns.length ≤ n := by
  have hsh : WShape.hasAll [] args [.list .int] = true := (pre_splitW hpre).1
  have hc : l.pre.holds [] { args := args } = true := (pre_splitW hpre).2
  obtain ⟨d, r, rfl, h1, h2⟩ := hasAllW_cons hsh
  obtain rfl := hasAllW_nil h2
  obtain ⟨xs, rfl, h3⟩ := hasW_list h1
  obtain ⟨ns, rfl⟩ := items_int h3
  have hlen : ns.length ≤ n := by
    unfold OpenLaw.pre at hc
    have h4 : (WTm.not (.lt (.lit (.int (n : Int))) (.len (.arg 0)))).holds [] { args := [.list (ns.map .int)] } = true := by
      have h4 := (holds_andW hc).1
      rw [hn] at h4
      exact h4
    have h5 := condW_of h4 (w_not (w_lt w_lit (w_len_list (w_arg rfl))))
    rw [List.length_map] at h5
    refine Nat.le_of_not_lt fun q => ?_
    have q' : (n : Int) < ((ns.length : Nat) : Int) := by omega
    first
      | (rw [decide_eq_true q'] at h5; exact absurd h5 (by decide))
      | (simp at h5; omega)
  cases hwl with
  | cons w1 w2 =>
    cases w2
    cases w1 with
    | list ho hall => exact ⟨_, _, ns, rfl, rfl, ho, ints_of_wellAll ns _ hall, hlen⟩
theorem post_true (l : OpenLaw) (args : List WData) : l.row.toRowW.claim.post args (.bool true) args = true :=
  postW_of (r := l.row.toRowW) (X := (true == true))
    (show WShape.has [] (.bool true) .bool = true by first | rfl | decide | simp [WShape.has, WShape.arms, WShape.armsAll])
    (show (WTm.eq .res (.lit (.bool true))).value [] { args := args, res := some (.bool true), after := args } = some (.bool (true == true)) from w_eq_bool (w_res rfl) w_lit) rfl
theorem attach_call {l : OpenLaw} {n : Nat} {q : Program} {loose : List Str} {XP : (Str → Option Value) → Heap → Prop} {YP : World → Heap → Prop} {d : DefRec}
    (hn : l.most = some n) (hdf : d.params.defaults = [])
    (call : ∀ (w : World) (s₀ s₁ : Shared) (mg mb : Str → Option Value) (fa : Addr) (o : Obj) (pm cd doc : Value) (a : Addr) (vs : List Value) (ns : List Int),
      Ground q loose [] XP w s₀ mg mb s₁.heap → YP w s₁.heap →
      s₁.heap.get? fa = some o → o.data = .func (docDef d.name d.params d.body d.scope pm cd doc) → s₁.heap.CodeRec cd d.name → mg d.name = some (.ref fa) →
      s₁.heap.get? a = some { cls := .type "list", data := .seq vs.toArray } → IntsAre vs ns → ns.length ≤ n → s₁.gens = #[] →
      codeAny (model l.prog w) callerA (.call (.ref fa) ⟨[.ref a], []⟩) (fun r s' => r = .ok (.ret (.bool true)) ∧ OldK s₁.heap s'.heap ∧ s'.os = s₁.os ∧ AllBare s'.gens) s₁) :
    WalkO q loose XP YP l.row.toRowW d [] (fun f vs => PySem.call f vs) := by
  intro w s₀ s₁ mg mb G Y fa o pm cd doc dV kV ho hd hcd hD hmg hg args vals as hpre hlay hrd hwl hlo
  obtain rfl : dV = .none := Dflts.none hD hdf
  obtain rfl : kV = .none := Dflts.noKw hD
  obtain ⟨a, vs, ns, rfl, rfl, hobj, hints, hlen⟩ := script_of hn hpre hwl
  refine enter_call (codeAny_mono (call w s₀ s₁ mg mb fa o pm cd doc a vs ns G Y ho (fd_plain hd) hcd hmg hobj hints hlen hg) fun r s' hq => ?_)
  obtain ⟨rfl, h2, h3, h4⟩ := hq
  exact ⟨.inl ⟨.bool true, .bool true, [], rfl, fun _ => rfl, .bool true, post_true l _, fun _ => ⟨List.Pairwise.nil, fun _ hm => (nomatch hm)⟩⟩, h2, h3, h4⟩
section
variable {prog : Program} {w : World} {A : Around} {E : Value → Shared → Prop} {s : Shared} {K : Frag}
end
end Att
namespace L2
open PySem PySem.Spec PyProof.Rows
theorem vals_ints : ∀ {vs : List Value} {ns : List Int}, IntsAre vs ns → Vals (ns.map V.int) vs
  | _, _, .nil => .nil
  | _, _, .cons n t h => .cons ⟨t, rfl⟩ (vals_ints h)
def Only (H : Hp) : Prop := ∀ b, H b = none ∨ ∃ o xs, H b = some (.frz o (.lst xs))
theorem law_call {P : Program} {w : World} {K : PySem.W.Frag} {mg mb : Str → Option Value} {CX : CXT} {k : Nat} {fa a : Addr} {fd : FuncData} {x : Str} {sp : Sp} {s₁ : Shared} {vs : List Value} {ns : List Int}
    (KX : K.In s₁.heap) (hns : s₁.heap.Ns mainGlobals mg) (hb : s₁.heap.Ns builtinsNs mb) (hbb : ∀ x : Str, x ≠ "__name__" → mb x = bootBuiltins x) (hlim : s₁.heap.NoLimit) (hg : s₁.gens = #[])
    (ha : s₁.heap.get? a = some { cls := .type "list", data := .seq vs.toArray }) (hi : IntsAre vs ns) (hl : ns.length ≤ sizeLine) (hr : Room k callerA)
    (F : ∀ base : Heap, K.In base → base.Ns mainGlobals mg → FnOk P w K mg base CX k fa fd [x] sp) (hbind : ∀ (s : Shared) (u : Value), BindsTo s fd ⟨[u], []⟩ [(x, u)])
    (hsp : ∀ H : Hp, Only H → SqL K H a (ns.map V.int) → sp [.ref a] H (fun v _ => v = .bl true) fun _ _ _ => False)
    (hCX : ∀ H e s', CX [] H s₁ (fun _ _ _ => False) e s' → False) :
    codeAny (model P w) callerA (.call (.ref fa) ⟨[.ref a], []⟩) (fun r s' => r = .ok (.ret (.bool true)) ∧ OldK s₁.heap s'.heap ∧ s'.os = s₁.os ∧ AllBare s'.gens) s₁ := by
  have rv := vals_ints hi
  have lenV := hi.length
  -- from an abstract heap in which nothing but the script may be tracked
  have core : ∀ H : Hp, Only H → SqL K H a (ns.map V.int) → HOk P w H s₁.heap → (∀ b, H b ≠ none → b = a) → (H a ≠ none → K.lookup a = none) →
      codeAny (model P w) callerA (.call (.ref fa) ⟨[.ref a], []⟩) (fun r s' => r = .ok (.ret (.bool true)) ∧ OldK s₁.heap s'.heap ∧ s'.os = s₁.os ∧ AllBare s'.gens) s₁ := by
    intro H hO hS hok hA hK
    have base_of : ∀ {b : Addr} {o : Obj}, s₁.heap.get? b = some o → H b = none → (hidT s₁.heap H).get? b = some o := fun e n => hidT_get e n
    have noA : ∀ {b : Addr} {o : Obj} {es : Array DictEntry} {ep : Nat}, s₁.heap.get? b = some o → o.data = .dict es ep → H b = none := fun {b o es ep} e d => by
      cases q : H b with
      | none => rfl
      | some u =>
        have e' : b = a := hA b (by rw [q]; simp)
        subst e'
        rw [ha] at e; cases e
        have d' : Data.seq vs.toArray _ = Data.dict es ep := d
        cases d'
    have nsK : ∀ {b : Addr} {m : Str → Option Value}, s₁.heap.Ns b m → (hidT s₁.heap H).Ns b m := fun {b m} ⟨o, es, ep, e, d, r⟩ => ⟨o, es, ep, base_of e (noA e d), d, r⟩
    have hKb : K.In (hidT s₁.heap H) := fun b o e => base_of (KX b o e) (by
      cases q : H b with
      | none => rfl
      | some u =>
        have e' : b = a := hA b (by rw [q]; simp)
        subst e'
        rw [hK (by rw [q]; simp)] at e; cases e)
    have hM : Mod K mg (hidT s₁.heap H) := ⟨hKb, nsK hns, ⟨mb, nsK hb, hbb⟩, let ⟨mc, h1, h2⟩ := hlim; ⟨mc, nsK h1, h2⟩⟩
    have e0 : Env0 P w K mg (hidT s₁.heap H) callerA [] s₁ H := ⟨rfl, hM, fun b o e => of_hidT e, Nat.le_of_eq (hidT_size _ _), trivial, fun b hb => absurd (show b ∈ ([] : List Addr) from hb) (by simp), hok, .of_eq hg⟩
    refine codeAny_mono ((F _ hKb (nsK hns)).run callerA [] s₁ H ⟨[.ref a], []⟩ [.ref a] [.ref a] _ _ hr e0 (hbind s₁ (.ref a)) (.cons rfl .nil) (hsp H hO hS)) fun r s' h => ?_
    cases r with
    | error e => exact (hCX H e s' h).elim
    | ok fl =>
      cases fl with
      | next => exact False.elim h
      | brk => exact False.elim h
      | cont => exact False.elim h
      | ret u =>
        obtain ⟨v, H', os, bare, un, hok', r', q⟩ := h
        have q' : v = .bl true := q
        subst q'
        obtain rfl : u = Value.bool true := r'
        refine ⟨rfl, OldK.of_keep fun b o e => ?_, os, bare⟩
        cases q : H b with
        | none => exact un.keep b o e q (by intro z; exact absurd (show b ∈ ([] : List Addr) from z) (by simp)) (by simp)
        | some u =>
          rcases hO b with z | ⟨ob, xs, z⟩
          · rw [q] at z; cases z
          · have z2 := un.frzs b ob _ z
            obtain ⟨e1, _⟩ := hok b _ z
            obtain ⟨e2, _⟩ := hok' b _ z2
            rw [e] at e1; cases e1
            exact e2
  cases hk : K.lookup a with
  | some o =>
    -- the script is one of the module's own objects
    have e := KX a o hk
    rw [ha] at e
    cases e
    refine core (fun _ => none) (fun _ => .inl rfl) (.inr ⟨_, vs.toArray, _, hk, rfl, rfl, rfl, by rw [List.size_toArray, lenV]; exact hl, by simpa using rv⟩) (fun b u z => by have z' : (none : Option HO) = some u := z; cases z') (fun b z => absurd rfl z) fun z => absurd rfl z
  | none =>
    refine core (fun b => if b = a then some (.frz { cls := .type "list", data := .seq vs.toArray } (.lst (ns.map V.int))) else none) (fun b => ?_) (.inl (.inr ⟨{ cls := .type "list", data := .seq vs.toArray }, if_pos rfl⟩)) (fun b u z => ?_) (fun b z => ?_) fun _ => hk
    · by_cases hb : b = a
      · exact .inr ⟨_, _, if_pos hb⟩
      · exact .inl (if_neg hb)
    · by_cases hb : b = a
      · have z' := (if_pos hb).symm.trans z
        cases z'
        subst hb
        exact ⟨ha, by rw [List.length_map]; exact hl, vs, _, rv, ha⟩
      · have z' := (if_neg hb).symm.trans z
        cases z'
    · by_cases hb : b = a
      · exact hb
      · exact absurd (if_neg hb) z
end L2
namespace L2
open PySem PySem.Spec PyProof.Rows
theorem walk_of {l : PySem.W.OpenLaw} {n k : Nat} {q : Program} {loose : List Str} {XP : (Str → Option Value) → Heap → Prop} {YP : World → Heap → Prop} {d : DefRec} {K : Params → PySem.W.Frag} {CX : World → CXT} {sp : World → Sp} {x : Str}
    (hn : l.most = some n) (hn2 : n ≤ sizeLine) (hdf : d.params.defaults = []) (hr : Room k callerA)
    (hY : ∀ (w : World) (h : Heap), YP w h → (K w.params).In h)
    (F : ∀ (w : World) (mg : Str → Option Value) (fa : Addr) (h : Heap), (K w.params).In h → h.Ns mainGlobals mg → mg d.name = some (.ref fa) →
      ∃ fd : FuncData, (∀ (s : Shared) (u : Value), BindsTo s fd ⟨[u], []⟩ [(x, u)]) ∧
        ∀ base : Heap, (K w.params).In base → base.Ns mainGlobals mg → FnOk l.prog w (K w.params) mg base (CX w) k fa fd [x] (sp w))
    (hsp : ∀ (w : World) (H : Hp) (a : Addr) (ns : List Int), ns.length ≤ n → Only H → SqL (K w.params) H a (ns.map V.int) → sp w [.ref a] H (fun v _ => v = .bl true) fun _ _ _ => False)
    (hCX : ∀ (w : World) (H : Hp) (s : Shared) (e : Value) (s' : Shared), CX w [] H s (fun _ _ _ => False) e s' → False) :
    PySem.W.WalkO q loose XP YP l.row.toRowW d [] (fun f vs => PySem.call f vs) := by
  refine Att.attach_call hn hdf fun w s₀ s₁ mg mb fa o pm cd doc a vs ns G Y ho hd hcd hmg hobj hints hlen hg => ?_
  have KX := hY w _ Y
  obtain ⟨fd, hb, hF⟩ := F w mg fa _ KX G.T.g hmg
  exact law_call KX G.T.g G.T.b G.T.builtins G.T.nolimit hg hobj hints (Nat.le_trans hlen hn2) hr hF hb (fun H hO hS => hsp w H a ns hlen hO hS) fun H e s' => hCX w H s₁ e s'
end L2
namespace L2
open PySem PySem.Spec PyProof.Rows
def defArgs (s : Stmt) : Arguments := match s with
  | .FunctionDef _ a _ _ _ _ _ _ _ _ => a
  | _ => { posonlyargs := [], args := [], vararg := none, kwonlyargs := [], kw_defaults := [], kwarg := none, defaults := [] }
def defBody (s : Stmt) : List Stmt := match s with
  | .FunctionDef _ _ b _ _ _ _ _ _ _ => b
  | _ => []
def defScope (s : Stmt) : Scope := match s with
  | .FunctionDef _ _ _ _ _ _ sc _ _ _ => sc
  | _ => { kind := .function, names := [], isGenerator := false, isCoroutine := false }
abbrev CX0 : CXT := fun _ _ _ _ _ _ => False
abbrev E0 : XK := fun _ _ _ => False
theorem pass0 {X : Cx} : Passes CX0 X E0 := fun _ _ _ _ _ _ _ h => h.elim
structure Fun (K : PySem.W.Frag) (x qual : Str) (st : Stmt) (f : Addr) (fd : FuncData) : Prop where
  ex : ∃ (oc : Value) (od : Option Addr) (kV doc pm : Value) (an : Option Addr) (cdv ct : Value) (osl : Array (Option Value)),
    fd = PySem.W.fnOf x qual (defArgs st) (defBody st) (defScope st) .none kV doc pm an cdv ct ∧ K.lookup f = some ⟨oc, od, .func fd, osl⟩ ∧ PySem.W.codeIn K cdv qual = true
  kp : PySem.W.keepIn K (.ref f) = true
section
variable {P : Program} {w : World} {K : PySem.W.Frag} {mg : Str → Option Value} {base : Heap}
theorem Fun.ok {x qual : Str} {st : Stmt} {f : Addr} {fd : FuncData} {N ps : List Str} {k : Nat} {sp : Sp} (F : Fun K x qual st f fd) (S : FnScope N ps (defScope st)) (len : ∀ vs H Q E, sp vs H Q E → vs.length = ps.length)
    (hbody : ∀ (cdv : Value) (A : Around) (outer : List Env) (s : Shared) (H : Hp) (vs : List V) (Q : VK) (E : XK), Room k (A.deeper (envOfC qual (defScope st) s.heap.objs.size f cdv)) → sp vs H Q E →
      ∃ t, PSs (cxOf CX0 P w K mg base N qual (defScope st) f cdv A outer s H E).nox (defBody st) t ∧ t { nx := fun _ H' => Q .non H', rt := Q } (start N vs) H) : FnOk P w K mg base CX0 (k + 1) f fd ps sp := by
  obtain ⟨oc, od, kV, doc, pm, an, cdv, ct, osl, rfl, lk, hcd⟩ := F.ex
  refine fn_of lk hcd S len fun A outer s H vs Q E hr hsp => ?_
  obtain ⟨t, h, q⟩ := hbody cdv A outer s H vs Q E hr hsp
  exact ⟨t, h.nox, q⟩
theorem Fun.binds {x qual : Str} {st : Stmt} {f : Addr} {fd : FuncData} {ps : List Str} (F : Fun K x qual st f fd)
    (h : ∀ (kV doc pm : Value) (an : Option Addr) (cdv ct : Value) (us : List Value), us.length = ps.length → bindArgs (PySem.W.fnOf x qual (defArgs st) (defBody st) (defScope st) .none kV doc pm an cdv ct) ⟨us, []⟩ = pure (ps.zip us)) : Binds K fd ps [] := by
  obtain ⟨oc, od, kV, doc, pm, an, cdv, ct, osl, rfl, lk, hcd⟩ := F.ex
  exact .all (h kV doc pm an cdv ct)
theorem fun_mk {x qual : Str} {st : Stmt} {f : Addr} {oc : Value} {od an : Option Addr} {osl : Array (Option Value)} {kV doc pm cdv ct : Value} (l : K.lookup f = some ⟨oc, od, .func (PySem.W.fnOf x qual (defArgs st) (defBody st) (defScope st) .none kV doc pm an cdv ct), osl⟩)
    (c : PySem.W.codeIn K cdv qual = true) (k : PySem.W.keepIn K (.ref f) = true) : Fun K x qual st f (PySem.W.fnOf x qual (defArgs st) (defBody st) (defScope st) .none kV doc pm an cdv ct) := ⟨⟨oc, od, kV, doc, pm, an, cdv, ct, osl, rfl, l, c⟩, k⟩
end
theorem hu_of {A : Around} {k : Nat} (hr : Room k A) : A.units + 1 < cLine := Nat.lt_of_le_of_lt (Nat.add_le_add_left (by decide : 1 ≤ 64) _) hr.units
section
variable {X : Cx}
theorem pv (i : Nat) {x : Str} {pos : Pos} (hN : X.N[i]? = some x := by rfl) (hv : Vis X.env.scope x := by first | exact Or.inl rfl | exact Or.inr (Or.inl rfl) | exact Or.inr (Or.inr rfl)) (hd : (x == ("__debug__" : Str)) = false := by decide)
    (hcd : (x == ("__classdict__" : Str)) = false := by decide) : PE X (.Name x pos) (tVar i) := pe_var hN hv hd hcd
end
theorem iteF {A B : Prop} (h : B) : if false = true then A else B := by
  rw [if_neg Bool.false_ne_true]
  exact h
theorem iteT {A B : Prop} (h : A) : if true = true then A else B := by
  rw [if_pos rfl]
  exact h
def Same (H H' : Hp) : Prop := ∀ b o, H b = some o → H' b = some o
theorem Same.refl (H : Hp) : Same H H := fun _ _ h => h
theorem Same.trans {H H1 H2 : Hp} (a : Same H H1) (b : Same H1 H2) : Same H H2 := fun c o h => b c o (a c o h)
theorem Same.free {H H' : Hp} (e : Same H H') {l : Addr} (h : H' l = Option.none) : H l = Option.none := by
  cases q : H l with
  | none => rfl
  | some o =>
    rw [e l o q] at h
    cases h
section
variable {X : Cx}
end
section
variable {κ : Type} [DecidableEq κ]
end
end L2
set_option Elab.async false
set_option linter.all false
set_option maxRecDepth 100000
set_option maxHeartbeats 4000000
namespace L2
open PySem PySem.Spec PyProof.Rows
section
variable {prog : Program} {w : World} {A : Around} {R : Result → Shared → Prop} {s : Shared}
theorem compLoop_any {elt target iter : Expr} {ifs : List Expr} {scope : Scope} {pos : Pos} {it acc : Value} {env : Env} (I : Nat → Shared → Prop)
    (turn : ∀ n s, I n s → wpAny (model prog w) A (pyNext it) (fun r s₁ => match r with
      | none => R (.ok .next) s₁
      | some v => wpAny (model prog w) A (letOwnedTupleGo target it v) (fun _ s₂ => wpAny (model prog w) A (assign target env v) (fun _ s₃ =>
          wpAny (model prog w) A (forIn ifs true fun c r => if r = true then do let ok ← isTrue c env (eval c env); pure (ForInStep.yield ok) else pure (ForInStep.yield r)) (fun ok s₄ =>
            if ok = true then wpAny (model prog w) A (eval elt env) (fun x s₅ =>
              wpAny (model prog w) A (call (.builtin "list.append") [acc, x]) (fun _ s₆ => ∃ m, m < n ∧ I m s₆) (fun _ _ => False) s₅) (fun _ _ => False) s₄
            else ∃ m, m < n ∧ I m s₄) (fun _ _ => False) s₃) (fun _ _ => False) s₂) (fun _ _ => False) s₁) (fun _ _ => False) s)
    (n : Nat) (h : I n s) :
    codeAny (model prog w) A (.compLoop (.ListComp elt [⟨target, iter, ifs, 0⟩] scope pos) 0 it acc env) R s := by
  refine codeAny_loop rfl I (fun n s hI => ?_) n h
  show wpAny _ A ((compTurn (.ListComp elt [⟨target, iter, ifs, 0⟩] scope pos) 0 it acc env).onRaise (fun x => do noteFrame x env; theTreesLotGoes x)) _ _ s
  refine wpAny_noted (wpAny_mono (E := fun _ _ => False) ?_ (fun _ _ q => q) fun _ _ q => q.elim)
  rw [compTurn_list]
  refine wpAny_bind (wpAny_standAt (wpAny_bind (thn (turn n s hI) fun r s₁ h₁ => ?_)))
  cases r with
  | none => exact wpAny_pure h₁
  | some v =>
    refine wpAny_bind (thn h₁ fun _ s₂ h₂ => wpAny_bind (thn h₂ fun _ s₃ h₃ => wpAny_bind (thn h₃ fun ok s₄ h₄ => ?_)))
    cases ok with
    | false => exact wpAny_pure ⟨rfl, h₄⟩
    | true => exact wpAny_bind (wpAny_bind (thn h₄ fun x s₅ h₅ => wpAny_bind (thn h₅ fun _ s₆ h₆ => wpAny_pure (wpAny_pure ⟨rfl, h₆⟩))))
end
theorem HOk.track {P : Program} {w : World} {H : Hp} {h : Heap} {a : Addr} {o : HO} (x : HOk P w H h) (hn : H a = none) (new : ObjOk P w (upd H a o) h a o) : HOk P w (upd H a o) h := fun b u e => by
  by_cases hb : b = a
  · subst hb; rw [upd_same] at e; cases e; exact new
  · rw [upd_ne hb] at e
    exact (x b u e).stay (fun c v _ q => q) (fun c q => by rw [upd_ne (ne_of_none q hn)]; exact q) fun c xs q => by rw [upd_ne (ne_of_none q hn)]; exact q
theorem lookup_mem {α : Type} : ∀ {l : List (Str × α)} {x : Str} {k : α}, l.lookup x = some k → (x, k) ∈ l
  | [], _, _, h => by simp at h
  | (n, k') :: r, x, k, h => by
    rw [List.lookup_cons] at h
    cases hx : x == n with
    | true =>
      rw [hx] at h
      have : x = n := by simpa using hx
      cases h; subst this; exact List.mem_cons_self
    | false => rw [hx] at h; exact List.mem_cons_of_mem _ (lookup_mem h)
theorem lookup_relabel {env : Env} : ∀ {names : List (Str × NameKind)} {x : Str} {k : NameKind}, 
    (names.map fun (n, k) => if (k == NameKind.free && env.scope.kind == .function && env.kindOf n == some .cell) then (n, NameKind.cell) else (n, k)).lookup x = some k →
    ∃ k', names.lookup x = some k' ∧ (k = k' ∨ (k' = .free ∧ k = .cell))
  | [], _, _, h => by simp at h
  | (n, k0) :: r, x, k, h => by
    have ih := @lookup_relabel env r x k
    have h' : List.lookup x ((if (k0 == NameKind.free && env.scope.kind == .function && env.kindOf n == some .cell) = true then (n, NameKind.cell) else (n, k0)) ::
      (r.map fun (n, k) => if (k == NameKind.free && env.scope.kind == .function && env.kindOf n == some .cell) then (n, NameKind.cell) else (n, k))) = some k := h
    by_cases hc : (k0 == NameKind.free && env.scope.kind == .function && env.kindOf n == some .cell) = true
    · rw [if_pos hc, List.lookup_cons] at h'
      rw [List.lookup_cons]
      cases hx : x == n with
      | true =>
        rw [hx] at h'; cases h'
        simp only [Bool.and_eq_true] at hc
        exact ⟨k0, rfl, .inr ⟨by simpa using hc.1.1, rfl⟩⟩
      | false => rw [hx] at h'; exact ih h'
    · rw [if_neg hc, List.lookup_cons] at h'
      rw [List.lookup_cons]
      cases hx : x == n with
      | true => rw [hx] at h'; cases h'; exact ⟨_, rfl, .inl rfl⟩
      | false => rw [hx] at h'; exact ih h'
theorem forIn_clos {env : Env} {f : (Str × NameKind) → List (Str × Addr) → Sem (ForInStep (List (Str × Addr)))}
    (hf : ∀ n k r, f (n, k) r = if (k == NameKind.free) = true then (cellOf env n >>= fun a => pure (ForInStep.yield ((n, a) :: r))) else pure (ForInStep.yield r)) :
    ∀ (names : List (Str × NameKind)) (acc : List (Str × Addr)), (∀ y ∈ names, y.2 = .free → ∃ c, env.cells.lookup y.1 = some c) → (∀ x c, acc.lookup x = some c → env.cells.lookup x = some c) →
      ∃ cl, forIn names acc f = pure cl ∧ (∀ x c, cl.lookup x = some c → env.cells.lookup x = some c) ∧ (∀ x, (∃ c, acc.lookup x = some c) → ∃ c, cl.lookup x = some c) ∧ ∀ x, (x, NameKind.free) ∈ names → ∃ c, cl.lookup x = some c
  | [], acc, _, hacc => ⟨acc, rfl, hacc, fun _ h => h, fun _ h => by simp at h⟩
  | (n, k) :: r, acc, hn, hacc => by
    have hr : ∀ y ∈ r, y.2 = .free → ∃ c, env.cells.lookup y.1 = some c := fun y hy => hn y (List.mem_cons_of_mem _ hy)
    by_cases hk : (k == NameKind.free) = true
    · have hk' : k = .free := by simpa using hk
      obtain ⟨c, hc⟩ := hn (n, k) List.mem_cons_self hk'
      obtain ⟨cl, e, h1, h2, h3⟩ := forIn_clos hf r ((n, c) :: acc) hr (fun x c' h => by
        rw [List.lookup_cons] at h
        cases hx : x == n with
        | true => rw [hx] at h; cases h; have : x = n := by simpa using hx
                  subst this; exact hc
        | false => rw [hx] at h; exact hacc x c' h)
      refine ⟨cl, ?_, h1, fun x ⟨c', hx⟩ => h2 x ?_, fun x hx => ?_⟩
      · rw [List.forIn_cons, hf, if_pos hk]
        have : cellOf env n = pure c := by unfold cellOf; rw [hc]
        rw [this]
        exact e
      · rw [List.lookup_cons]
        cases x == n with
        | true => exact ⟨_, rfl⟩
        | false => exact ⟨c', hx⟩
      · rcases List.mem_cons.mp hx with e | hx
        · cases e
          exact h2 _ ⟨c, by rw [List.lookup_cons]; simp⟩
        · exact h3 x hx
    · obtain ⟨cl, e, h1, h2, h3⟩ := forIn_clos hf r acc hr hacc
      refine ⟨cl, ?_, h1, h2, fun x hx => ?_⟩
      · rw [List.forIn_cons, hf, if_neg hk]
        exact e
      · rcases List.mem_cons.mp hx with e | hx
        · cases e
          exact absurd rfl hk
        · exact h3 x hx
theorem clos_of {sc : Scope} {env : Env} (h : ∀ y ∈ sc.names, y.2 = .free → ∃ c, env.cells.lookup y.1 = some c) :
    ∃ cl, closureFor sc env = pure cl ∧ (∀ x c, cl.lookup x = some c → env.cells.lookup x = some c) ∧ ∀ x, (x, NameKind.free) ∈ sc.names → ∃ c, cl.lookup x = some c := by
  obtain ⟨cl, e, h1, _, h3⟩ := forIn_clos (env := env) (f := fun x r => match x with | (name, kind) => if (kind == NameKind.free) = true then (cellOf env name >>= fun a => pure (ForInStep.yield ((name, a) :: r))) else pure (ForInStep.yield r))
    (fun n k r => rfl) sc.names [] h (fun _ _ h => by simp at h)
  refine ⟨cl, ?_, h1, h3⟩
  unfold closureFor
  refine Eq.trans ?_ e
  exact bind_pure _
def pick (ρ : List (Option Nat)) (σ : St) : St := ρ.map fun o => o.bind fun j => (σ[j]?).join
def cxB (X : Cx) (N' : List Str) (sc : Scope) (cl : List (Str × Addr)) (C : Addr) (s : Shared) (H : Hp) (fp : List Addr) : Cx :=
  { X with N := N', s₀ := s, H₀ := H, env := compEnvC sc cl C X.env, outer := X.stack, ex := fp, fn := fun _ => false, xe := fun _ _ => False }
structure CompSc (X : Cx) (N' : List Str) (ρ : List (Option Nat)) (sc : Scope) : Prop where
  kind : sc.kind = .function
  nocell : ∀ y ∈ sc.names, y.2 ≠ .cell
  names : ∀ y ∈ sc.names, y.2 = .local → sc.names.lookup y.1 = some .local
  free : ∀ y ∈ sc.names, y.2 = .free → (X.env.kindOf y.1 = some .cell ∨ X.env.kindOf y.1 = some .free)
  len : ρ.length = N'.length
  ix : ∀ (i j : Nat), ρ[i]? = some (some j) → ∃ x, N'[i]? = some x ∧ X.N[j]? = some x ∧ sc.names.lookup x = some .free
def PTs (X : Cx) (ifs : List Expr) (t : TT) : Prop :=
  ∀ (pins : List (Addr × Obj)) (s : Shared) (σ : St) (H : Hp) (Q : Bool → Hp → Prop), Inv X pins σ H s → t σ H Q →
    wpAny (model X.prog X.w) X.A (forIn ifs true fun c r => if r = true then do let ok ← isTrue c X.env (eval c X.env); pure (ForInStep.yield ok) else pure (ForInStep.yield r)) (TP X pins σ Q) X.xe s
def tYes : TT := fun _ H Q => Q true H
theorem pts_nil {X : Cx} : PTs X [] tYes := fun _ _ _ H _ I h => wpAny_tests_nil ⟨H, I, h⟩
theorem pts_one {X : Cx} {c : Expr} {t : TT} (h : PT X c t) : PTs X [c] t := fun pins s σ H Q I hw => wpAny_tests_one (h pins s σ H Q I hw)
def GKeep (ρ : List (Option Nat)) (g : TG) : Prop := ∀ v σ H Q, g v σ H Q → g v σ H fun σ2 H2 => (σ2.length = σ.length ∧ ∀ (i j : Nat), ρ[i]? = some (some j) → σ2[i]? = σ[i]?) ∧ Q σ2 H2
def GsKeep (ρ : List (Option Nat)) (g : TGs) : Prop := ∀ v σ H Q, g v σ H Q → g v σ H fun σ2 H2 => (σ2.length = σ.length ∧ ∀ (i j : Nat), ρ[i]? = some (some j) → σ2[i]? = σ[i]?) ∧ Q σ2 H2
theorem gk_name {ρ : List (Option Nat)} {i : Nat} (h : ρ[i]? = some none) : GKeep ρ (gName i) := fun v σ H Q q => by
  refine ⟨⟨List.length_set, fun k j e => ?_⟩, q⟩
  have : i ≠ k := by intro z; subst z; rw [h] at e; cases e
  rw [List.getElem?_set_ne this]
theorem gk_nil {ρ : List (Option Nat)} : GsKeep ρ gNil := fun v σ H Q ⟨e, q⟩ => ⟨e, ⟨rfl, fun _ _ _ => rfl⟩, q⟩
theorem gk_cons1 {ρ : List (Option Nat)} {i : Nat} {u : TGs} (h : ρ[i]? = some none) (hu : GsKeep ρ u) (mu : ∀ v σ H Q Q', (∀ a b, Q a b → Q' a b) → u v σ H Q → u v σ H Q') : GsKeep ρ (gCons (gName i) u) := fun vs σ H Q ⟨v, r, e, q⟩ => by
  refine ⟨v, r, e, ?_⟩
  refine mu _ _ _ _ _ (fun a b ⟨⟨l, k⟩, z⟩ => ⟨⟨l.trans List.length_set, fun i' j' e' => (k i' j' e').trans ?_⟩, z⟩) (hu _ _ _ _ q)
  have : i ≠ i' := by intro z; subst z; rw [h] at e'; cases e'
  rw [List.getElem?_set_ne this]
theorem gm_nil : ∀ v σ H Q Q', (∀ a b, Q a b → Q' a b) → gNil v σ H Q → gNil v σ H Q' := fun _ _ _ _ _ m ⟨e, q⟩ => ⟨e, m _ _ q⟩
theorem gm_cons {i : Nat} {u : TGs} (mu : ∀ v σ H Q Q', (∀ a b, Q a b → Q' a b) → u v σ H Q → u v σ H Q') : ∀ v σ H Q Q', (∀ a b, Q a b → Q' a b) → gCons (gName i) u v σ H Q → gCons (gName i) u v σ H Q' :=
  fun _ _ _ _ _ m ⟨v, r, e, q⟩ => ⟨v, r, e, mu _ _ _ _ _ m q⟩
theorem gk_tup {ρ : List (Option Nat)} {K : PySem.W.Frag} {n : Nat} {u : TGs} (hu : GsKeep ρ u) : GKeep ρ (gTup K n u) := fun v σ H Q ⟨a, xs, e, hq, hl, q⟩ => ⟨a, xs, e, hq, hl, hu _ _ _ _ q⟩
def CompG (J : It) (ρ : List (Option Nat)) (g : TG) (tc : TT) (te : TE) (σ : St) (H1 : Hp) (Q : VK) : Prop := ∃ W : Nat → Nat → List V → Hp → Prop, (∃ m, W 0 m [] H1) ∧ ∀ i m acc H, W i m acc H →
  (J.stop i H ∧ ∀ p, H p = none → Q (.ref p) (upd H p (.lst acc))) ∨
  (J.go i H ∧ acc.length < sizeLine ∧ ∃ N : List V → Hp → Prop, (∀ acc' H', N acc' H' → ∃ m', m' < m ∧ W (i + 1) m' acc' H') ∧
    ∀ x H', J.yld i H x H' → g x (pick ρ σ) H' fun σ2 H2 => tc σ2 H2 fun b H3 => if b = true then te σ2 H3 fun y H4 => N (acc ++ [y]) H4 else N acc H3)
def tComp (wi : TI) (ρ : List (Option Nat)) (g : TG) (tc : TT) (te : TE) : TE := fun σ H Q => wi σ H fun J H1 => CompG J ρ g tc te σ H1 Q
section
variable {X : Cx} {elt tg iter : Expr} {ifs : List Expr} {sc : Scope} {pos cpos : Pos} {N' : List Str} {ρ : List (Option Nat)} {wi : TI} {g : TG} {tc : TT} {te : TE}
theorem comp_main (hcalm : X.calm = true) (S : CompSc X N' ρ sc) (hi : PI X tg iter wi)
    (hg : ∀ cl C s H fp, PG (cxB X N' sc cl C s H fp) tg g) (gk : GKeep ρ g) (hc : ∀ cl C s H fp, PTs (cxB X N' sc cl C s H fp) ifs tc) (he : ∀ cl C s H fp, PE (cxB X N' sc cl C s H fp) elt te)
    (hs : ∀ x, foldedSetIterable iter X.env x = pure x)
    (use : Option (Value → Sem Unit)) {R : Value → Shared → Prop} {pins : List (Addr × Obj)} {s : Shared} {σ : St} {H : Hp} {Q : VK} (I : Inv X pins σ H s) (h : tComp wi ρ g tc te σ H Q)
    (hR : ∀ s' D C H', Inv X pins σ H' s' → Q (.ref D) H' → (∃ m, s'.heap.Ns C m) → FpOk X pins H' C → compPost (model X.prog X.w) X.A X.xe use R (.ref D) C (.ok .next) s') :
    wpAny (model X.prog X.w) X.A (comprehension (.ListComp elt [⟨tg, iter, ifs, 0⟩] sc pos) sc X.env cpos (newList []) false (eval iter X.env) use) R X.xe s := by
  obtain ⟨cl, hcl, hsub, hall⟩ := clos_of (sc := sc) (env := X.env) fun y hy hf => I.ok.has y.1 (S.free y hy hf)
  refine wpAny_comprehension_free rfl hs hcl S.kind S.names (thn (hi pins s σ H _ I h) fun v s1 h1 => thn h1 fun itv s2 h2 => ?_)
  obtain ⟨it, fp, tn, J, H2, e, I2, T, st2, f2, W, ⟨m0, w0⟩, turn⟩ := h2
  subst e
  refine wpAny_newList (items := []) ?_
  refine wpAny_newFunctionEnv S.nocell (by intro y hy; simp at hy) (fun h₁ hns hsb => ?_) S.kind
  dsimp only at hns hsb ⊢
  generalize hH2 : s2.heap.push { cls := .type "list", data := .seq ([] : List Value).toArray } = Hh at hns hsb ⊢
  have hCs : Hh.objs.size = s2.heap.objs.size + 1 := by rw [← hH2, Heap.size_push]
  generalize hD : s2.heap.objs.size = D at *
  generalize hCC : Hh.objs.size = C at *
  have hDC : D ≠ C := by omega
  have ltC : ∀ b : Nat, b < s2.heap.objs.size → b ≠ C ∧ b ≠ D ∧ b < D := fun b h => by omega
  have ltD : ∀ b : Nat, b < D → b ≠ C ∧ b ≠ D := fun b h => by omega
  have old : ∀ b o, s2.heap.get? b = some o → h₁.get? b = some o := fun b o e => hsb.extBut b o (ltC b (Heap.lt_size e)).1 (Heap.get?_push_of_some _ (by rw [← hH2]; exact Heap.get?_push_of_some _ e))
  have newD : h₁.get? D = some { cls := .type "list", data := .seq ([] : List Value).toArray } := hsb.extBut _ _ hDC (Heap.get?_push_of_some _ (by rw [← hH2, ← hD]; exact Heap.get?_push_size _ rfl))
  have ltb : ∀ b ∈ fp, b < D := fun b hb => by
    obtain ⟨o, e, _⟩ := T.obj _ _ st2 b hb
    exact (ltC b (Heap.lt_size e)).2.2
  have fD : FpOk X pins H2 D := I2.fpOk (by omega) (I2.hok.fresh (by omega))
  have fC : FpOk X pins H2 C := I2.fpOk (by omega) (I2.hok.fresh (by omega))
  have nst : ∀ b, b ≠ X.env.locals → b ∉ X.fs → b ∉ frs X.stack := fun b h1 h2 hb => by
    rcases List.mem_cons.mp (I2.stkSub b hb) with e | e
    · exact h1 e
    · exact h2 e
  -- the block's context is well
  have ok' : (cxB X N' sc cl C s2 H2 fp).Ok := by
    refine ⟨I2.ok.mod, S.kind, I2.ok.glob, I2.ok.blt, (by show s2.heap.objs.size ≤ C; omega), fun x y c e1 e2 => I2.ok.inj x y c (hsub _ _ e1) (hsub _ _ e2), fun x hx => ?_, fun x c z => (by cases z), I2.ok.hd, I2.ok.frames, .inl rfl,
      fun b hb => ⟨(ltD b (ltb b hb)).1, fun x c e => (f2 b hb).2.2.2.2.1 x c (hsub _ _ e)⟩, I2.bs, (by show X.base.objs.size ≤ s2.heap.objs.size; exact Nat.le_trans I2.ok.bsz I2.sz), fun b o e hb => ?_, fun b hb => nst b (f2 b hb).2.1 (f2 b hb).2.2.1, I2.stack, I2.stkFree⟩
    · have hx' : ∃ k', sc.names.lookup x = some k' ∧ (k' = .cell ∨ k' = .free) := by
        rcases hx with hx | hx
        · obtain ⟨k', e1, e2⟩ := lookup_relabel (env := X.env) (names := sc.names) hx
          rcases e2 with e2 | ⟨e2, _⟩
          · exact ⟨k', e1, .inl e2.symm⟩
          · exact ⟨k', e1, .inr e2⟩
        · obtain ⟨k', e1, e2⟩ := lookup_relabel (env := X.env) (names := sc.names) hx
          rcases e2 with e2 | ⟨e2, _⟩
          · exact ⟨k', e1, .inr e2.symm⟩
          · exact ⟨k', e1, .inr e2⟩
      obtain ⟨k', e1, e2⟩ := hx'
      have hm := lookup_mem e1
      rcases e2 with e2 | e2
      · exact absurd e2 (S.nocell _ hm)
      · subst e2; exact hall x hm
    · rcases (f2 b hb).2.2.2.1 with z | z
      · exact I2.ok.noex b o e z
      · exact absurd (Nat.lt_of_lt_of_le (Heap.lt_size e) (Nat.le_trans I2.ok.bsz z)) (Nat.lt_irrefl _)
  have pinOld : ∀ p ∈ X.pn ++ pins, p.1 < D := fun p hp => (ltC p.1 (Heap.lt_size (I2.pin p hp).1)).2.2
  have celOld : ∀ x c, cl.lookup x = some c → c < D := fun x c e => by
    obtain ⟨v, q⟩ := I2.cell x c (hsub _ _ e)
    exact (ltC c q.lt).2.2
  -- the state at the block's start
  have I' : ∀ tk, Inv (cxB X N' sc cl C s2 H2 fp) (pins ++ [(D, { cls := .type "list", data := .seq ([] : List Value).toArray })]) (pick ρ σ) H2 { s2 with heap := h₁, toks := tk } := fun tk => by
    refine ⟨ok', rfl, I2.bare, Un.kept old, ⟨_, hns, fun i x v e1 e2 e3 => ?_⟩, fun x c e => ?_, fC.1, fun x c e => I2.freeC x c (hsub _ _ e), fun p hp => ?_, I2.hok.kept old, ?_⟩
    · have e2' : ∃ j, ρ[i]? = some (some j) ∧ σ[j]? = some (some v) := by
        unfold pick at e2
        rw [List.getElem?_map] at e2
        cases hr : ρ[i]? with
        | none => rw [hr] at e2; cases e2
        | some o =>
          rw [hr] at e2
          cases o with
          | none => cases e2
          | some j =>
            refine ⟨j, rfl, ?_⟩
            have e2 : (σ[j]?).join = some v := Option.some.inj e2
            cases hq : σ[j]? with
            | none => rw [hq] at e2; cases e2
            | some o' => rw [hq] at e2; have e2 : o' = some v := e2
                         rw [e2]
      obtain ⟨j, hj, hv⟩ := e2'
      obtain ⟨y, ey, eN, ef⟩ := S.ix i j hj
      have e1' : N'[i]? = some x := e1
      rw [ey] at e1'; cases e1'
      obtain ⟨m, hn, hl⟩ := I2.loc
      have hm := lookup_mem ef
      have kX := S.free _ hm rfl
      obtain ⟨u, ru, lk⟩ := hl j x v eN hv (by rcases kX with k | k; exact .inr (.inl k); exact .inr (.inr k))
      refine ⟨u, ru, .inr ⟨?_, ?_⟩⟩
      · show (relabel sc X.env).names.lookup x = some .cell ∨ (relabel sc X.env).names.lookup x = some .free
        rcases e3 with e3 | e3 | e3
        · obtain ⟨k', q1, q2⟩ := lookup_relabel (env := X.env) (names := sc.names) e3
          rw [ef] at q1; cases q1
          rcases q2 with q2 | ⟨_, q2⟩ <;> cases q2
        · exact .inl e3
        · exact .inr e3
      · obtain ⟨c, hc'⟩ := hall x hm
        refine ⟨c, hc', ?_⟩
        rcases lk with ⟨k, _⟩ | ⟨_, c', ec, z⟩
        · rcases kX with k' | k' <;> (rw [k] at k'; cases k')
        · rw [hsub _ _ hc'] at ec; cases ec
          obtain ⟨o, ho, hd⟩ := z
          exact ⟨o, old _ _ ho, hd⟩
    · obtain ⟨v, o, ho, hd⟩ := I2.cell x c (hsub _ _ e)
      exact ⟨v, o, old _ _ ho, hd⟩
    · have hp' : p ∈ X.pn ++ pins ∨ p = (D, { cls := .type "list", data := .seq ([] : List Value).toArray }) := by
        rcases List.mem_append.mp hp with z | z
        · exact .inl (List.mem_append_left _ z)
        · rcases List.mem_append.mp z with z | z
          · exact .inl (List.mem_append_right _ z)
          · exact .inr (by simpa using z)
      rcases hp' with z | z
      · obtain ⟨q1, q2, q3, q4, q5⟩ := I2.pin p z
        exact ⟨old _ _ q1, q2, (ltD p.1 (pinOld p z)).1, nst _ q3 q4, q5⟩
      · subst z
        exact ⟨newD, fD.1, hDC, nst _ fD.2.1 fD.2.2.1, fun v z => by cases z⟩
    · show (pick ρ σ).length = N'.length
      unfold pick; rw [List.length_map]; exact S.len
  have stat : ∀ {H' : Hp} {o : Obj}, (∀ b ∈ fp, H' b = none) → ∀ b ∈ fp, FpOk (cxB X N' sc cl C s2 H2 fp) (pins ++ [(D, o)]) H' b := fun {H' o} hn b hb => by
    refine ⟨hn b hb, (ltD b (ltb b hb)).1, nst b (f2 b hb).2.1 (f2 b hb).2.2.1, .inl hb, fun x c e => (f2 b hb).2.2.2.2.1 x c (hsub _ _ e), fun p hp => ?_⟩
    rcases List.mem_append.mp hp with z | z
    · exact (f2 b hb).2.2.2.2.2 p (List.mem_append_left _ z)
    · rcases List.mem_append.mp z with z | z
      · exact (f2 b hb).2.2.2.2.2 p (List.mem_append_right _ z)
      · have e : p = (D, o) := by simpa using z
        subst e
        exact Ne.symm (ltD b (ltb b hb)).2
  have loop : ∀ tk, codeAny (model X.prog X.w) X.A (.compLoop (.ListComp elt [⟨tg, iter, ifs, 0⟩] sc pos) 0 (.ref it) (.ref D) (compEnvC sc cl C X.env)) (compPost (model X.prog X.w) X.A X.xe use R (.ref D) C) { s2 with heap := h₁, toks := tk } := fun tk => by
    refine compLoop_any (fun n s' => ∃ (i : Nat) (acc : List V) (its : List Value) (k : Nat) (H' : Hp), Inv (cxB X N' sc cl C s2 H2 fp) (pins ++ [(D, { cls := .type "list", data := .seq its.toArray k })]) (pick ρ σ) H' s' ∧ Vals acc its ∧ acc.length ≤ sizeLine ∧ tn i s'.heap ∧ (∀ b ∈ fp, H' b = none) ∧ W i n acc H')
      ?_ m0 ⟨0, [], [], 0, H2, I' tk, .nil, Nat.zero_le _, T.keep _ _ _ st2 fun b hb o e => old b o e, fun b hb => (f2 b hb).1, w0⟩
    rintro n s3 ⟨i, acc, its, k, H3, I3, va, hz0, st3, fr3, w3⟩
    rcases turn i n acc H3 w3 with ⟨stop, qn⟩ | ⟨go, hz, Nn, hN, step⟩
    · refine thn (T.done (cxB X N' sc cl C s2 H2 fp) rfl rfl rfl hcalm i _ s3 _ H3 (fun _ _ => False) I3 (stat fr3) st3 stop) fun r s4 ⟨hr, I4⟩ => ?_
      subst hr
      obtain ⟨p1, p2, p3, p4, p5⟩ := I4.pin (D, { cls := .type "list", data := .seq its.toArray k }) (by simp)
      have p1 : s4.heap.get? D = some { cls := .type "list", data := .seq its.toArray k } := p1
      have p2 : H3 D = none := p2
      have B := I4.base
      have upn : ∀ b o, H3 b = some o → upd H3 D (.lst acc) b = some o := fun b o e => by rw [upd_ne (ne_of_none e p2)]; exact e
      have IX : Inv X pins σ (upd H3 D (.lst acc)) s4 := by
        refine I2.call' (ch := fp) I4.os ⟨fun b o q1 q2 q3 q4 => B.keep b o q1 q2 q3 q4, fun b o q1 q2 q3 q4 => B.slot b o q1 q2 q3 q4, fun b o q1 q2 q3 => ?_, fun b o q1 q2 => B.there b o q1 q2,
          fun b xs q => upn _ _ (B.tups b xs q), fun b o u q => upn _ _ (B.frzs b o u q), fun b w ps q => ?_⟩ (I4.hok.track p2 ⟨hz0, its, k, va, p1⟩) I4.bare fun b hb => ⟨(f2 b hb).2.2.2.1, (f2 b hb).2.1, (f2 b hb).2.2.2.2.1, (f2 b hb).2.2.2.2.2⟩
        · rw [upd_ne (ltC b (Heap.lt_size q1)).2.1]
          exact B.free b o q1 q2 q3
        · obtain ⟨more, q'⟩ := B.tbls b w ps q
          exact ⟨more, upn _ _ q'⟩
      obtain ⟨m, hm, _⟩ := I4.loc
      refine hR s4 D C _ IX (qn D p2) ⟨m, hm⟩ (I2.fpOk (by omega) ?_)
      rw [upd_ne (Ne.symm hDC)]
      exact I4.free
    · refine thn (T.item (cxB X N' sc cl C s2 H2 fp) rfl rfl rfl hcalm i _ s3 _ H3 (fun _ _ => False) I3 (stat fr3) st3 go) fun r s4 ⟨u, hr, h4⟩ => ?_
      subst hr
      refine thn h4 fun _ s5 ⟨x, H5, I5, r5, y5, st5, fr5⟩ => ?_
      have I5' := I5.pinned (stat fr5) (T.obj _ _ st5)
      refine thn (hg cl C s2 H2 fp _ s5 _ H5 x u _ I5' r5 (gk _ _ _ _ (step x H5 y5))) fun _ s6 ⟨σ6, H6, I6, ⟨l6, k6⟩, q6⟩ => ?_
      refine thn (hc cl C s2 H2 fp _ s6 σ6 H6 _ I6 q6) fun ok s7 ⟨H7, I7, q7⟩ => ?_
      have wk : ∀ {pins' : List (Addr × Obj)} {H' : Hp} {s' : Shared}, Inv (cxB X N' sc cl C s2 H2 fp) pins' σ6 H' s' → Inv (cxB X N' sc cl C s2 H2 fp) pins' (pick ρ σ) H' s' := fun {pins' H' s'} J' =>
        J'.weak l6.symm fun j v e => by
          have : ∃ j', ρ[j]? = some (some j') := by
            unfold pick at e
            rw [List.getElem?_map] at e
            cases hr : ρ[j]? with
            | none => rw [hr] at e; cases e
            | some o =>
              rw [hr] at e
              cases o with
              | none => cases e
              | some j' => exact ⟨j', rfl⟩
          obtain ⟨j', hj'⟩ := this
          rw [k6 j j' hj']; exact e
      cases ok with
      | false =>
        have q7 : Nn acc H7 := by simpa using q7
        rw [if_neg Bool.false_ne_true]
        obtain ⟨m', hm, w7⟩ := hN acc H7 q7
        refine ⟨m', hm, i + 1, acc, its, k, H7, wk I7.unpinned, va, hz0, T.keep _ _ _ st5 fun b hb o e => (I7.pin (b, o) (List.mem_append_right _ (List.mem_append_right _ (mem_pinsAt hb e)))).1, fun b hb => ?_, w7⟩
        obtain ⟨o, e, d⟩ := T.obj _ _ st5 b hb
        exact (I7.pin (b, o) (List.mem_append_right _ (List.mem_append_right _ (mem_pinsAt hb e)))).2.1
      | true =>
        have q7 : te σ6 H7 fun y H4 => Nn (acc ++ [y]) H4 := by simpa using q7
        rw [if_pos rfl]
        refine thn (he cl C s2 H2 fp _ s7 σ6 H7 _ I7 q7) fun xv s8 ⟨y, H8, I8, r8, n8⟩ => ?_
        obtain ⟨p1, p2, p3, p4, p5⟩ := I8.pin (D, { cls := .type "list", data := .seq its.toArray k }) (by simp)
        have p1 : s8.heap.get? D = some { cls := .type "list", data := .seq its.toArray k } := p1
        have p2 : H8 D = none := p2
        refine wpAny_list_append_plain ⟨k, p1⟩ (fun h' pl sb => ?_) (by rw [List.size_toArray, ← va.length]; omega)
        obtain ⟨k', pl⟩ := pl
        obtain ⟨m', hm, w8⟩ := hN _ _ n8
        have Ia : Inv (cxB X N' sc cl C s2 H2 fp) pins σ6 H8 s8 := I8.unpinned.unpinned
        have Ib : Inv (cxB X N' sc cl C s2 H2 fp) pins σ6 H8 { s8 with heap := h' } := Ia.turned (t' := s8.toks) (it := D) (fun b o hb e => (sb.2 b hb).trans e) p2 hDC (.inr (by show s2.heap.objs.size ≤ D; omega)) (fun x c e => (ltD c (celOld x c e)).2) fun p hp => (ltD p.1 (pinOld p hp)).2
        have pl' : h'.get? D = some { cls := .type "list", data := .seq (its ++ [xv]).toArray k' } := by rw [pl]; simp
        have Ic : Inv (cxB X N' sc cl C s2 H2 fp) (pins ++ [(D, { cls := .type "list", data := .seq (its ++ [xv]).toArray k' })]) σ6 H8 { s8 with heap := h' } := Ib.pins_of fun p hp => by
          rcases List.mem_append.mp hp with z | z
          · exact Ib.pin p (List.mem_append_right _ z)
          · have e : p = (D, { cls := .type "list", data := .seq (its ++ [xv]).toArray k' }) := by simpa using z
            subst e
            exact ⟨pl', p2, p3, p4, fun v z => by cases z⟩
        refine ⟨m', hm, i + 1, acc ++ [y], its ++ [xv], k', H8, wk Ic, va.append (.cons r8 .nil), (by rw [List.length_append, List.length_singleton]; omega), T.keep _ _ _ st5 fun b hb o e => ?_, fun b hb => ?_, w8⟩
        · exact (sb.2 b (ltD b (ltb b hb)).2).trans (I8.pin (b, o) (List.mem_append_right _ (List.mem_append_right _ (mem_pinsAt hb e)))).1
        · obtain ⟨o, e, d⟩ := T.obj _ _ st5 b hb
          exact (I8.pin (b, o) (List.mem_append_right _ (List.mem_append_right _ (mem_pinsAt hb e)))).2.1
  refine codeAny_compStart_list (loop _) (T.self X.A 0 _ _ _ (T.keep _ _ _ st2 fun b hb o e => old b o e) (loop _))
theorem pe_comp (hcalm : X.calm = true) (S : CompSc X N' ρ sc) (hi : PI X tg iter wi)
    (hg : ∀ cl C s H fp, PG (cxB X N' sc cl C s H fp) tg g) (gk : GKeep ρ g) (hc : ∀ cl C s H fp, PTs (cxB X N' sc cl C s H fp) ifs tc) (he : ∀ cl C s H fp, PE (cxB X N' sc cl C s H fp) elt te)
    (hs : ∀ x, foldedSetIterable iter X.env x = pure x := by intro _; rfl) :
    PE X (.ListComp elt [⟨tg, iter, ifs, 0⟩] sc pos) (tComp wi ρ g tc te) := by
  intro pins s σ H Q I h
  rw [eval_ListComp]
  refine comp_main hcalm S hi hg gk hc he hs none I h fun s' D C H' I' q ⟨m, hm⟩ f => ⟨m, hm, fun h' sb => ?_⟩
  exact ⟨.ref D, H', I'.turned (t' := s'.toks) (it := C) (fun b o hb e => (sb.2 b hb).trans e) f.1 f.2.1 f.2.2.2.1 f.2.2.2.2.1 f.2.2.2.2.2, rfl, q⟩
theorem ps_setC {i : Nat} {x : Str} {px : Pos} (hcalm : X.calm = true) (hN : X.N.Nodup) (hix : X.N[i]? = some x) (hx : Loc X.env.scope x) (S : CompSc X N' ρ sc) (hi : PI X tg iter wi)
    (hg : ∀ cl C s H fp, PG (cxB X N' sc cl C s H fp) tg g) (gk : GKeep ρ g) (hc : ∀ cl C s H fp, PTs (cxB X N' sc cl C s H fp) ifs tc) (he : ∀ cl C s H fp, PE (cxB X N' sc cl C s H fp) elt te)
    (hsw : swapsWith (.ListComp elt [⟨tg, iter, ifs, 0⟩] sc pos) (some (.Name x px)) cpos.line X.env = pure true := by rfl)
    (hs : ∀ x, foldedSetIterable iter X.env x = pure x := by intro _; rfl)
    (hf : X.fn x = true ∨ X.env.scope.names.lookup x = some .local := by first | exact .inl rfl | exact .inr rfl | assumption) :
    PS X (.Assign [.Name x px] (.ListComp elt [⟨tg, iter, ifs, 0⟩] sc pos) cpos) (tAsg (tComp wi ρ g tc te) (gName i)) := by
  intro pins s σ H D I h
  rw [exec_Assign_Name_used _ _ _ _ hsw]
  refine wpAny_bind (wpAny_standAt (wpAny_bind ?_))
  show wpAny _ X.A (do let _ ← comprehension (.ListComp elt [⟨tg, iter, ifs, 0⟩] sc pos) sc X.env _ (newList []) false (eval iter X.env) (some (assign (.Name x px) X.env))) _ _ s
  refine wpAny_bind (thn (comp_main (Q := fun y H1 => D.nx (σ.set i (some y)) H1) (R := fun _ s' => SP X pins D .next s') hcalm S hi hg gk hc he hs (some (assign (.Name x px) X.env)) I h fun s' Da C H' I' q ⟨m, hm⟩ f => ?_) fun _ s' hq => wpAny_pure (wpAny_pure hq))
  show wpAny _ X.A (assign (.Name x px) X.env (.ref Da)) _ _ _
  refine wpAny_assign_Name (store_ok2 I' hN hix hx (v := .ref Da) rfl (fun s2 I2 ⟨a, sb, ha⟩ => ⟨m, hm.sameBut sb ?_, fun h' sb2 => ?_⟩) hf)
  · rcases ha with e | e
    · subst e; exact f.2.1
    · exact fun z => f.2.2.2.2.1 x a e z.symm
  · exact ⟨_, H', I2.turned (t' := s2.toks) (it := C) (fun b o hb e => (sb2.2 b hb).trans e) f.1 f.2.1 f.2.2.2.1 f.2.2.2.2.1 f.2.2.2.2.2, q⟩
end
structure It.Of (J : It) (Ok : Hp → Prop) (xs : List V) : Prop where
  go : ∀ i H, Ok H → i < xs.length → J.go i H
  yld : ∀ i H x H', Ok H → i < xs.length → J.yld i H x H' → H' = H ∧ xs[i]? = some x
  stop : ∀ H, Ok H → J.stop xs.length H
theorem of_list {K : PySem.W.Frag} {a : Addr} {xs : List V} : (Itl K a).Of (fun H => SqL K H a xs) xs :=
  ⟨fun i H h hi => ⟨xs, xs[i], h, by simp [hi]⟩, fun i H x H' h _ y => ⟨y.1, y.2 xs h⟩, fun H h => ⟨xs, h, Nat.le_refl _⟩⟩
theorem of_tup {K : PySem.W.Frag} {a : Addr} {xs : List V} : (Itt K a).Of (fun H => SqT K H a xs) xs :=
  ⟨fun i H h hi => ⟨xs, xs[i], h, by simp [hi]⟩, fun i H x H' h _ y => ⟨y.1, y.2 xs h⟩, fun H h => ⟨xs, h, Nat.le_refl _⟩⟩
def rngV (lo : Int) (n : Nat) : List V := (List.range n).map fun i => V.int (lo + (i : Nat))
theorem rngV_len (lo : Int) (n : Nat) : (rngV lo n).length = n := by simp [rngV]
theorem rngV_get {lo : Int} {n i : Nat} (h : i < n) : (rngV lo n)[i]? = some (.int (lo + i)) := by simp [rngV, h]
theorem of_range {lo : Int} {n : Nat} : (Itr lo n).Of (fun _ => True) (rngV lo n) :=
  ⟨fun i H _ hi => by rw [rngV_len] at hi; exact hi, fun i H x H' _ hi y => ⟨y.1, by rw [rngV_len] at hi; rw [y.2]; exact rngV_get hi⟩, fun H _ => by rw [rngV_len]; exact Nat.le_refl _⟩
end L2
set_option Elab.async false
set_option linter.all false
set_option maxRecDepth 100000
set_option maxHeartbeats 4000000
namespace L2
open PySem PySem.Spec PyProof.Rows
def sgn (c : Nat) : V := .str ⟨#[c]⟩
def sgns (x : Str) : List V := x.cps.toList.map sgn
theorem sgns_len (x : Str) : (sgns x).length = x.length := by simp [sgns, Str.length]
def Its (x : Str) : It := ⟨fun i _ => i < x.length, fun i H y H' => H' = H ∧ (sgns x)[i]? = some y, fun i _ => i = x.length⟩
theorem of_str {x : Str} : (Its x).Of (fun _ => True) (sgns x) :=
  ⟨fun i H _ hi => by rw [sgns_len] at hi; exact hi, fun i H y H' _ _ h => h, fun H _ => sgns_len x⟩
theorem turn_str {P : Program} {w : World} {K : PySem.W.Frag} {tg : Expr} (it : Addr) (x : Str) (t : Tok) (ty : String)
    (hty : ["enumerate", "zip", "dict_itemiterator", "dict_reverseitemiterator", "odict_iterator", "itertools.zip_longest", "itertools.pairwise"].contains ty = false)
    (W : ∀ A' : Around, A'.handled = none → Walks P w A' it [it] [it] x.cps.size (SignAt x) (fun i h => h.IsStrIter it ty x t i))
    (sf : ∀ (A : Around) (i : Nat) (s : Shared) (Q : Value → Shared → Prop) (E : Value → Shared → Prop), s.heap.IsStrIter it ty x t i → Q (.ref it) s → wpAny (model P w) A (pyIter (.ref it)) Q E s) :
    Turn P w K tg (Its x) [it] it (fun i h => h.IsStrIter it ty x t i) where
  mem := by simp
  obj := fun i h st b hb => by
    have e : b = it := by simpa using hb
    subst e
    obtain ⟨o, e, c, d⟩ := st
    exact ⟨o, e, fun v z => by rw [d] at z; cases z⟩
  keep := fun i h h' st k => let ⟨o, ho, r⟩ := st; ⟨o, k it (by simp) o ho, r⟩
  item := by
    intro X hP hw hK hc i pins s σ H E I hf st hg
    subst hP hw hK
    obtain ⟨f0, f1, f2, f3, f4, f5⟩ := hf it (by simp)
    refine (W X.A (I.ok.hd hc)).item i s _ _ hg st fun v h' tk hv st' kk => ?_
    obtain ⟨c, u, e, rfl⟩ := hv
    have I1 : Inv X pins σ H { s with heap := h', toks := tk } := I.turned (fun b o hb e => kk b o (by simpa using hb) e) f0 f1 f3 f4 f5
    obtain ⟨o, e', c', d'⟩ := id st'
    refine ⟨_, rfl, go_of (s := { s with heap := h', toks := tk }) e' c' d' hty ⟨sgn c, H, I1, ⟨u, rfl⟩, ⟨rfl, ?_⟩, st', fun b hb => (hf b hb).1⟩⟩
    unfold sgns
    rw [List.getElem?_map, Array.getElem?_toList, e]
    rfl
  done := by
    intro X hP hw hK hc i pins s σ H E I hf st hg
    subst hP hw hK
    obtain ⟨f0, f1, f2, f3, f4, f5⟩ := hf it (by simp)
    have hg : i = x.length := hg
    subst hg
    exact (W X.A (I.ok.hd hc)).done s _ _ st fun h' tk kk => ⟨rfl, I.turned (fun b o hb e => kk b o (by simpa using hb) e) f0 f1 f3 f4 f5⟩
  self := sf
section
variable {X : Cx} {tg : Expr}
def iStr (tl : TE) : TI := fun σ H R => tl σ H fun x H1 => ∃ z, x = .str z ∧ R (Its z) H1
theorem pi_str {l : Expr} {tl : TE} (hl : PE X l tl) : PI X tg l (iStr tl) := by
  intro pins s σ H R I h
  refine thn (hl pins s σ H _ I h) fun v s1 ⟨x, H1, I1, r1, q1⟩ => ?_
  obtain ⟨z, e, q⟩ := q1
  subst e
  obtain ⟨t, rfl⟩ := r1
  cases ha : z.cps.all (· < 128)
  · refine wpAny_pyIter_wide ha ?_
    refine ⟨s1.heap.objs.size, [s1.heap.objs.size], _, Its z, H1, rfl, I1.kept (t' := s1.toks) fun b o e => Heap.get?_push_of_some _ e, turn_str _ z t "str_iterator" (by decide) (fun A' hA => Walks.strWide hA _ z t) (fun _ _ _ _ _ st hQ => wpAny_pyIter_striter_wide st hQ), ⟨_, Heap.get?_push_size _ rfl, rfl, rfl⟩, fun b hb => ?_, q⟩
    have e : b = s1.heap.objs.size := by simpa using hb
    subst e
    exact I1.fpOk (Nat.le_refl _) (I1.hok.fresh (Nat.le_refl _))
  · refine wpAny_pyIter_ascii ha ?_
    refine ⟨s1.heap.objs.size, [s1.heap.objs.size], _, Its z, H1, rfl, I1.kept (t' := s1.toks) fun b o e => Heap.get?_push_of_some _ e, turn_str _ z t "str_ascii_iterator" (by decide) (fun A' hA => Walks.strAscii hA _ z t) (fun _ _ _ _ _ st hQ => wpAny_pyIter_striter_ascii st hQ), ⟨_, Heap.get?_push_size _ rfl, rfl, rfl⟩, fun b hb => ?_, q⟩
    have e : b = s1.heap.objs.size := by simpa using hb
    subst e
    exact I1.fpOk (Nat.le_refl _) (I1.hok.fresh (Nat.le_refl _))
theorem op_gt_str : OpR X (compareOp .Gt) (fun x y H Q => ∃ i j, x = .str i ∧ y = .str j ∧ Q (.bl (decide (j.cps.toList < i.cps.toList))) H) := by
  intro pins s σ H x y v u Q I rx ry h
  obtain ⟨i, j, rfl, rfl, q⟩ := h
  obtain ⟨t, rfl⟩ := rx
  obtain ⟨t', rfl⟩ := ry
  exact PySem.P.gt_str (fin_bl I q rfl)
def cutS (x : Str) (lo hi : Option Int) : Str := ⟨((x.cps.toList.drop (HT.sIx x.length 0 lo)).take (HT.sIx x.length x.length hi - HT.sIx x.length 0 lo)).toArray⟩
theorem slice_ix (lo hi : Option Int) (n : Nat) : Builtin.Str.strSliceIndices lo hi 1 n = (List.range (HT.sIx n n hi - HT.sIx n 0 lo)).map (fun k => HT.sIx n 0 lo + k) := by
  have h1 : ∀ (v : Option Int) (d : Nat), d ≤ n → (match v with | none => (d : Int) | some i => max 0 (min (if i < 0 then i + (n : Int) else i) (n : Int))) = ((HT.sIx n d v : Nat) : Int) := by
    intro v d hd
    cases v with
    | none => rfl
    | some i =>
      show max 0 (min (if i < 0 then i + (n : Int) else i) (n : Int)) = (((if i < 0 then (i + (n : Int)).toNat else min i.toNat n) : Nat) : Int)
      by_cases hv : i < 0
      · simp only [if_pos hv]; omega
      · simp only [if_neg hv]; omega
  have fin : ∀ (p q : Int) (a b : Nat), p = (a : Int) → q = (b : Int) → sliceRange p q 1 = (List.range (b - a)).map (fun k => a + k) := by
    intro p q a b e1 e2
    subst e1 e2
    unfold sliceRange
    simp only [show ((1 : Int) > 0) = True from by simp, if_true]
    by_cases hlt : (a : Int) < b
    · have e3 : (((b : Int) - a + 1 - 1) / 1).toNat = b - a := by first | omega | (simp; done) | (simp; omega)
      simp only [hlt, if_true, e3]
      refine List.map_congr_left fun k _ => ?_
      omega
    · have : b - a = 0 := by omega
      simp [hlt, this]
  unfold Builtin.Str.strSliceIndices
  refine fin _ _ _ _ ?_ ?_
  · have := h1 lo 0 (Nat.zero_le _)
    cases lo with
    | none => exact this
    | some i => exact this
  · have := h1 hi n (Nat.le_refl _)
    cases hi with
    | none => exact this
    | some i => exact this
theorem slice_cut (x : Str) (lo hi : Option Int) : Txt.slice x lo hi = cutS x lo hi := by
  have hle : HT.sIx x.length x.length hi ≤ x.length := HT.sIx_le _ _ (Nat.le_refl _) hi
  have ha : HT.sIx x.length 0 lo ≤ x.length := HT.sIx_le _ _ (Nat.zero_le _) lo
  unfold Txt.slice cutS
  rw [slice_ix]
  generalize HT.sIx x.length 0 lo = a at *
  generalize HT.sIx x.length x.length hi = b at *
  have hp : ((List.range (b - a)).map (fun k => a + k)).filterMap (fun i => x.cps[i]?) = (x.cps.toList.drop a).take (b - a) := by
    have h := StrLaws.picks x.cps.toList (b - a) a (by simp [Str.length] at hle ha ⊢; omega)
    simpa using h
  split
  · rename_i h
    simp only [List.length_map, List.length_range, beq_self_eq_true, Bool.true_and, beq_iff_eq] at h
    have e : a = 0 ∨ x.length = 0 := by omega
    have e2 : (x.cps.toList.drop a).take (b - a) = x.cps.toList := by
      rw [h]
      rcases e with e | e
      · subst e
        rw [List.drop_zero]
        exact List.take_of_length_le (by simp [Str.length])
      · have : x.cps.toList = [] := List.eq_nil_of_length_eq_zero (by simpa [Str.length] using e)
        rw [this]; simp
    rw [e2]
  · rw [hp]
def rSlS : V → Option Int → Option Int → Hp → VK → Prop := fun x lo hi H Q => ∃ z, x = .str z ∧ z.length ≤ sizeLine ∧ Q (.str (cutS z lo hi)) H
theorem sl_str : SlR X rSlS := by
  intro pins s σ H x v vl vu lo hi sl Q I rx hs pl pu h
  obtain ⟨z, rfl, hz, q⟩ := h
  obtain ⟨t, rfl⟩ := rx
  have fin : ∀ (l u : Option (Int × Tok)), vl = partValue l → vu = partValue u → lo = l.map (·.1) → hi = u.map (·.1) →
      wpAny (model X.prog X.w) X.A (getItem (.str z t) (.ref sl)) (EP X pins σ Q) X.xe s := by
    intro l u e1 e2 e3 e4
    subst e1 e2 e3 e4
    refine wpAny_getItem_str_slice (l := l) (u := u) (st := none) hs rfl ?_
    refine post_val_or_str ⟨Nat.le_trans (Txt.slice_le z _ _) hz, fun t' k => ?_⟩
    refine ⟨.str (cutS z _ _), H, I.tok k, ⟨t', ?_⟩, q⟩
    show Value.str (Txt.slice z _ _) t' = _
    rw [slice_cut]
  refine ⟨"str", _, F.slot_str_getitem.lookup, typeIs_str _ _ _, ?_⟩
  cases pl with
  | none => cases pu with
    | none => exact fin none none rfl rfl rfl rfl
    | int j tj => exact fin none (some (j, tj)) rfl rfl rfl rfl
  | int i ti => cases pu with
    | none => exact fin (some (i, ti)) none rfl rfl rfl rfl
    | int j tj => exact fin (some (i, ti)) (some (j, tj)) rfl rfl rfl rfl
def rInS (neg : Bool) : R2 := fun x y H Q => ∃ c z, x = sgn c ∧ y = .str z ∧ Q (.bl (if neg then !decide (c ∈ z.cps.toList) else decide (c ∈ z.cps.toList))) H
theorem op_in1 : OpR X (compareOp .In) (rInS false) := by
  intro pins s σ H x y v u Q I rx ry h
  obtain ⟨c, z, rfl, rfl, q⟩ := h
  refine op_in_str pins s σ H _ _ v u Q I rx ry ⟨_, z, rfl, rfl, ?_⟩
  rw [StrLaws.found_one]; exact q
def rIsT (K : PySem.W.Frag) : List V → Hp → VK → Prop := fun xs H Q => ∃ x t T b, xs = [x, .ty T] ∧ TyOf K H x t ∧ PySem.W.kitOne K t (.type T) = some b ∧ Q (.bl b) H
theorem call_isT : CallR X (.builtin "isinstance") (rIsT X.K) := by
  intro pins s σ H xs us Q I r h
  obtain ⟨x, t, T, b, rfl, ty, e, q⟩ := h
  obtain ⟨u, w', rfl, rx, rt⟩ := vals2 r
  cases (show w' = Value.type T from rt)
  exact isinst_ok I rx ty e fun tk => ⟨.bl b, H, I.tok tk, rfl, q⟩
end
end L2
set_option Elab.async false
set_option linter.all false
set_option maxRecDepth 100000
set_option maxHeartbeats 4000000
namespace L2
open PySem PySem.Spec PyProof.Rows
def compOk (osc : Scope) (N N' : List Str) (ρ : List (Option Nat)) (sc : Scope) : Bool :=
  sc.names.all (fun y => !(decide (y.2 = .cell))) && sc.names.all (fun y => !(decide (y.2 = .local)) || decide (sc.names.lookup y.1 = some .local)) &&
  sc.names.all (fun y => !(decide (y.2 = .free)) || (decide (osc.names.lookup y.1 = some .cell) || decide (osc.names.lookup y.1 = some .free))) &&
  decide (ρ.length = N'.length) && (List.range ρ.length).all fun i => match ρ[i]? with
    | some (some j) => (match N'[i]? with | some x => decide (N[j]? = some x) && decide (sc.names.lookup x = some .free) | none => false)
    | _ => true
theorem CompSc.of {X : Cx} {N' : List Str} {ρ : List (Option Nat)} {sc : Scope} (hk : sc.kind = .function) (h : compOk X.env.scope X.N N' ρ sc = true) : CompSc X N' ρ sc := by
  unfold compOk at h
  simp only [Bool.and_eq_true, List.all_eq_true, Bool.or_eq_true, Bool.not_eq_true', decide_eq_true_eq, decide_eq_false_iff_not] at h
  obtain ⟨⟨⟨⟨h1, h2⟩, h3⟩, h4⟩, h5⟩ := h
  refine ⟨hk, fun y hy => h1 y hy, fun y hy e => (h2 y hy).resolve_left (fun z => z e), fun y hy e => (h3 y hy).resolve_left (fun z => z e), h4, fun i j e => ?_⟩
  have hi : i < ρ.length := (List.getElem?_eq_some_iff.mp e).1
  have q := h5 i (List.mem_range.mpr hi)
  rw [e] at q
  cases hN : N'[i]? with
  | none => rw [hN] at q; cases q
  | some x =>
    rw [hN] at q
    simp only [Bool.and_eq_true, decide_eq_true_eq] at q
    exact ⟨x, rfl, q.1, q.2⟩
structure Cal (P : Program) (w : World) (K : PySem.W.Frag) (mg : Str → Option Value) (base : Heap) (CX : CXT) (k : Nat) (x : Str) (ps : List Str) (sp : Sp) : Prop where
  ex : ∃ (f : Addr) (fd : FuncData), mg x = some (.ref f) ∧ PySem.W.keepIn K (.ref f) = true ∧ Binds K fd ps [] ∧ FnOk P w K mg base CX k f fd ps sp
theorem pe_cal {X : Cx} {CX : CXT} {k : Nat} {x : Str} {ps : List Str} {sp : Sp} {E : XK} {e : Expr} {es : List Expr} {t : TA} {p pos : Pos} (C : Cal X.prog X.w X.K X.mg X.base CX k x ps sp) (hr : Room k X.A) (hg : Gl X x) (hx : Passes CX X E)
    (ha : PA X (e :: es) t) (hdb : (x == ("__debug__" : Str)) = false := by decide) (he : starEach (e :: es) X.env = (false, eval e X.env) :: starEach es X.env := by rfl) (hpl : (backTo pos (starEach es X.env)).any (·.1) = false := by rfl) :
    PE X (.Call (.Name x p) (e :: es) [] pos) (tCall sp [] E t) := by
  obtain ⟨f, fd, hm, hk, hb, F⟩ := C.ex
  exact pe_call F hr hg hm hk hb .nil hx ha hdb he hpl
theorem pe_ty {X : Cx} {x : Str} {T : String} {pos : Pos} (hg : Gl X x) (hm : X.mg x = none) (hv : bootBuiltins x = some (.type T)) (hn : x ≠ "__name__" := by decide) (hd : (x == ("__debug__" : Str)) = false := by decide) : PE X (.Name x pos) (tC (.ty T)) :=
  pe_bltn hg hm hv rfl hn hd
structure FnD (K : PySem.W.Frag) (mg : Str → Option Value) (x : Str) (st : Stmt) (ps : List Str) : Prop where
  ex : ∃ (f : Addr) (fd : FuncData), mg x = some (.ref f) ∧ PySem.W.keepIn K (.ref f) = true ∧ Binds K fd ps [] ∧ (∀ (s : Shared) (us : List Value), us.length = ps.length → BindsTo s fd ⟨us, []⟩ (ps.zip us)) ∧ Fun K x x st f fd
theorem fnD_mk {K : PySem.W.Frag} {h : Heap} {mg : Str → Option Value} {x : Str} {st : Stmt} {ps : List Str} {f : Addr} {oc : Value} {od an : Option Addr} {osl : Array (Option Value)} {kV doc pm cdv ct : Value} (X : K.In h) (G : h.Ns mainGlobals mg)
    (hb : ∀ (kV doc pm : Value) (an : Option Addr) (cdv ct : Value) (us : List Value), us.length = ps.length → bindArgs (PySem.W.fnOf x x (defArgs st) (defBody st) (defScope st) .none kV doc pm an cdv ct) ⟨us, []⟩ = pure (ps.zip us))
    (a : PySem.W.nsIn K mainGlobals x = some (some (.ref f))) (l : K.lookup f = some ⟨oc, od, .func (PySem.W.fnOf x x (defArgs st) (defBody st) (defScope st) .none kV doc pm an cdv ct), osl⟩)
    (c : PySem.W.codeIn K cdv x = true) (k : PySem.W.keepIn K (.ref f) = true) : FnD K mg x st ps := by
  have F := fun_mk (st := st) l c k
  exact ⟨f, _, PySem.W.mg_of X G a, k, F.binds hb, fun s us hl => .of_eq (hb kV doc pm an cdv ct us hl), F⟩
theorem FnD.cal {P : Program} {w : World} {K : PySem.W.Frag} {mg : Str → Option Value} {base : Heap} {CX : CXT} {k : Nat} {x : Str} {st : Stmt} {ps : List Str} {sp : Sp} (F : FnD K mg x st ps) (h : ∀ f fd, Fun K x x st f fd → FnOk P w K mg base CX k f fd ps sp) :
    Cal P w K mg base CX k x ps sp := by
  obtain ⟨f, fd, h1, h2, h3, _, h4⟩ := F.ex
  exact ⟨f, fd, h1, h2, h3, h f fd h4⟩
end L2
set_option linter.all false
namespace Mi
open PySem
inductive D where
  | non | bl (b : Bool) | int (i : Int) | str (x : Str) | lst (ds : List D) | tup (ds : List D)
mutual
def D.dep : D → Nat
  | .lst ds => depAll ds + 1
  | .tup ds => depAll ds + 1
  | _ => 0
def depAll : List D → Nat
  | [] => 0
  | d :: r => max d.dep (depAll r)
end
mutual
/-- Python's == -/
def pyEq : D → D → Bool
  | .non, .non => true
  | .bl a, .bl b => a == b
  | .bl a, .int b => (if a then 1 else 0) == b
  | .int a, .bl b => a == (if b then 1 else 0)
  | .int a, .int b => a == b
  | .str a, .str b => a == b
  | .lst a, .lst b => pyEqs a b
  | .tup a, .tup b => pyEqs a b
  | _, _ => false
def pyEqs : List D → List D → Bool
  | [], [] => true
  | a :: r, b :: s => pyEq a b && pyEqs r s
  | _, _ => false
end
mutual
/-- no list in it -/
def imm : D → Bool
  | .lst _ => false
  | .tup ds => imms ds
  | _ => true
def imms : List D → Bool
  | [] => true
  | d :: r => imm d && imms r
end
def ixN (n : Nat) (i : Int) : Option Nat := if 0 ≤ i then (if i < n then some i.toNat else none) else if -(n : Int) ≤ i then some (i + n).toNat else none
def atI {α : Type} (xs : List α) (i : Int) : Option α := (ixN xs.length i).bind fun j => xs[j]?
def sIx (n d : Nat) : Option Int → Nat
  | none => d
  | some v => if v < 0 then (v + (n : Int)).toNat else min v.toNat n
def cutL {α : Type} (xs : List α) (lo hi : Option Int) : List α := (xs.drop (sIx xs.length 0 lo)).take (sIx xs.length xs.length hi - sIx xs.length 0 lo)
abbrev Ky := Sum Int Str
inductive W where
  | d (x : D) | dk (kvs : List (Ky × D)) | dt (kvs : List (List Ky × D)) | ex (c : String)
abbrev Env := List (Option W)
structure Exn where
  cls : String
  val : List D
inductive Rs (α : Type) where
  | ok (a : α) | ex (x : Exn) | no
def Rs.bind {α β : Type} : Rs α → (α → Rs β) → Rs β
  | .ok a, f => f a
  | .ex x, _ => .ex x
  | .no, _ => .no
@[simp] theorem bind_ok {α β : Type} (a : α) (f : α → Rs β) : (Rs.ok a).bind f = f a := rfl
@[simp] theorem bind_ex {α β : Type} (x : Exn) (f : α → Rs β) : (Rs.ex x).bind f = .ex x := rfl
@[simp] theorem bind_no {α β : Type} (f : α → Rs β) : (Rs.no).bind f = .no := rfl
def Fin {α : Type} (r : Rs α) (k : α → Prop) : Prop := match r with
  | .ok a => k a
  | _ => False
theorem fin_bind {α β : Type} {r : Rs α} {f : α → Rs β} {k : β → Prop} : Fin (r.bind f) k ↔ Fin r fun a => Fin (f a) k := by cases r <;> exact Iff.rfl
theorem Fin.mono {α : Type} {r : Rs α} {k k' : α → Prop} (h : Fin r k) (m : ∀ a, k a → k' a) : Fin r k' := by
  cases r with
  | ok a => exact m a h
  | ex x => exact h
  | no => exact h
theorem fin_t {α : Type} {r s : Rs α} {k : α → Prop} (h : Fin (if true = true then r else s) k) : Fin r k := by simpa using h
theorem fin_f {α : Type} {r s : Rs α} {k : α → Prop} (h : Fin (if false = true then r else s) k) : Fin s k := by simpa using h
theorem fin_now {α : Type} {a : α} {k : α → Prop} (h : Fin (.ok a) k) : k a := h
def ofO {α : Type} : Option α → Rs α
  | some a => .ok a
  | none => .no
def guardR {α : Type} (c : Prop) [Decidable c] (r : Rs α) : Rs α := if c then r else .no
theorem guardR_pos {α : Type} {c : Prop} [Decidable c] {r : Rs α} (h : c) : guardR c r = r := if_pos h
theorem fin_guard {α : Type} {c : Prop} [Decidable c] {r : Rs α} {k : α → Prop} (h : Fin (guardR c r) k) : c ∧ Fin r k := by
  unfold guardR at h
  split at h
  · exact ⟨‹_›, h⟩
  · exact h.elim
abbrev E := Env → Rs D
abbrev C := Env → Rs Bool
def mC (d : D) : E := fun _ => .ok d
def mV (i : Nat) : E := fun e => match e[i]? with
  | some (some (.d x)) => .ok x
  | _ => .no
def m1 (f : D → Rs D) (a : E) : E := fun e => (a e).bind f
def m2 (f : D → D → Rs D) (a b : E) : E := fun e => (a e).bind fun x => (b e).bind fun y => f x y
def mArgs : List E → Env → Rs (List D)
  | [], _ => .ok []
  | a :: r, e => (a e).bind fun x => (mArgs r e).bind fun xs => .ok (x :: xs)
def mN (f : List D → Rs D) (as : List E) : E := fun e => (mArgs as e).bind f
def dTup (ds : List D) : Rs D := guardR (ds.length ≤ 16777216) (.ok (.tup ds))
def dLst (ds : List D) : Rs D := guardR (ds.length ≤ 16777216) (.ok (.lst ds))
def asB : D → Rs Bool
  | .bl b => .ok b
  | _ => .no
def mAnd (a b : E) : E := fun e => (a e).bind fun x => (asB x).bind fun c => if c = true then b e else .ok (.bl false)
def asI : D → Rs Int
  | .int i => .ok i
  | _ => .no
def mPart : Option E → Env → Rs (Option Int)
  | none, _ => .ok none
  | some a, e => (a e).bind fun x => (asI x).bind fun i => .ok (some i)
def cutStr (x : Str) (lo hi : Option Int) : Str := ⟨(cutL x.cps.toList lo hi).toArray⟩
def dSl (x : D) (lo hi : Option Int) : Rs D := match x with
  | .lst ds => .ok (.lst (cutL ds lo hi))
  | .str z => guardR (z.length ≤ 16777216) (.ok (.str (cutStr z lo hi)))
  | _ => .no
def mSlF (f : D → Option Int → Option Int → Rs D) (a : E) (lo hi : Option E) : E := fun e => (a e).bind fun x => (mPart lo e).bind fun l => (mPart hi e).bind fun h => f x l h
def cB (a : E) : C := fun e => (a e).bind asB
def cAnd (a b : C) : C := fun e => (a e).bind fun c => if c = true then b e else .ok false
def cOr (a b : C) : C := fun e => (a e).bind fun c => if c = true then .ok true else b e
def cNot (a : C) : C := fun e => (a e).bind fun c => .ok (!c)
def dTru : D → Rs Bool
  | .non => .ok false
  | .bl b => .ok b
  | .int i => .ok (i != 0)
  | .str y => guardR (y.length ≤ 16777216) (.ok ((y.length : Int) != 0))
  | .lst ds => .ok (!ds.isEmpty)
  | .tup ds => .ok (!ds.isEmpty)
def cTru (a : E) : C := fun e => (a e).bind dTru
abbrev I := Env → Rs (List D)
def dItems : D → Rs (List D)
  | .lst ds => .ok ds
  | .tup ds => .ok ds
  | .str x => .ok (x.cps.toList.map fun c => .str ⟨#[c]⟩)
  | _ => .no
def iOf (a : E) : I := fun e => (a e).bind dItems
def dRange (lo hi : Int) : List D := (List.range (hi - lo).toNat).map fun k => .int (lo + (k : Nat))
def okR (i : Int) : Prop := -(2 ^ 62) ≤ i ∧ i < 2 ^ 62
instance (i : Int) : Decidable (okR i) := inferInstanceAs (Decidable (_ ∧ _))
def iRange1 (a : E) : I := fun e => (a e).bind fun x => (asI x).bind fun j => guardR (okR j) (.ok (dRange 0 j))
def dZip2 : List D → List D → List D
  | a :: r, b :: s => .tup [a, b] :: dZip2 r s
  | _, _ => []
inductive Tg where
  | n (i : Nat) | t (is : List Nat)
def setAll : List Nat → List D → Env → Rs Env
  | [], [], e => .ok e
  | i :: is, d :: ds, e => setAll is ds (e.set i (some (.d d)))
  | _, _, _ => .no
def Tg.put : Tg → D → Env → Rs Env
  | .n i, d, e => .ok (e.set i (some (.d d)))
  | .t is, .tup ds, e => setAll is ds e
  | _, _, _ => .no
def pickE (ρ : List (Option Nat)) (e : Env) : Env := ρ.map fun o => o.bind fun j => (e[j]?).join
def compD (tg : Tg) (c : C) (a : E) (e : Env) : List D → Rs (List D)
  | [] => .ok []
  | x :: r => (tg.put x e).bind fun e1 => (c e1).bind fun k => if k = true then (a e1).bind fun y => (compD tg c a e r).bind fun ys => .ok (y :: ys) else compD tg c a e r
def cYes : C := fun _ => .ok true
def mComp (ρ : List (Option Nat)) (it : I) (tg : Tg) (c : C) (a : E) : E := fun e => (it e).bind fun xs => guardR (xs.length ≤ 16777216) ((compD tg c a (pickE ρ e) xs).bind fun ys => .ok (.lst ys))
abbrev Fn := List W → Rs W
abbrev EW := Env → Rs W
def wD (a : E) : EW := fun e => (a e).bind fun x => .ok (.d x)
def wV (i : Nat) : EW := fun e => match e[i]? with
  | some (some w) => .ok w
  | _ => .no
def mArgsW : List EW → Env → Rs (List W)
  | [], _ => .ok []
  | a :: r, e => (a e).bind fun x => (mArgsW r e).bind fun xs => .ok (x :: xs)
def wCall (f : Fn) (as : List EW) : EW := fun e => (mArgsW as e).bind f
def asD : W → Rs D
  | .d x => .ok x
  | _ => .no
def mCall (f : Fn) (as : List EW) : E := fun e => (wCall f as e).bind asD
inductive Out where
  | nx (e : Env) | rt (w : W) | bk (e : Env) | ct (e : Env)
abbrev S := Env → Rs Out
def sNext : S := fun e => .ok (.nx e)
def sSeq (s t : S) : S := fun e => (s e).bind fun o => match o with
  | .nx e' => t e'
  | o => .ok o
def sSetW (i : Nat) (a : EW) : S := fun e => (a e).bind fun w => .ok (.nx (e.set i (some w)))
def sSet (i : Nat) (a : E) : S := fun e => (a e).bind fun d => .ok (.nx (e.set i (some (.d d))))
def sDrop (a : E) : S := fun e => (a e).bind fun _ => .ok (.nx e)
def sRet (a : EW) : S := fun e => (a e).bind fun w => .ok (.rt w)
def sIf (c : C) (s t : S) : S := fun e => (c e).bind fun k => if k = true then s e else t e
def sNever : S := fun _ => .no
def forD (tg : Tg) (body : S) : List D → Env → Rs Out
  | [], e => .ok (.nx e)
  | x :: r, e => (tg.put x e).bind fun e1 => (body e1).bind fun o => match o with
    | .nx e2 => forD tg body r e2
    | .ct e2 => forD tg body r e2
    | .bk e2 => .ok (.nx e2)
    | .rt w => .ok (.rt w)
def sFor (it : I) (tg : Tg) (body : S) : S := fun e => (it e).bind fun xs => forD tg body xs e
def whileD (c : C) (body : S) : Nat → Env → Rs Out
  | 0, _ => .no
  | n + 1, e => (c e).bind fun k => if k = true then (body e).bind fun o => match o with
    | .nx e2 => whileD c body n e2
    | .ct e2 => whileD c body n e2
    | .bk e2 => .ok (.nx e2)
    | .rt w => .ok (.rt w)
    else .ok (.nx e)
def sWhile (n : Nat) (c : C) (body : S) : S := whileD c body n
def getL (e : Env) (i : Nat) : Rs (List D) := match e[i]? with
  | some (some (.d (.lst ds))) => .ok ds
  | _ => .no
def putL (e : Env) (i : Nat) (ds : List D) : Env := e.set i (some (.d (.lst ds)))
def sAppend (i : Nat) (a : E) : S := fun e => (a e).bind fun d => (getL e i).bind fun ds => guardR (ds.length < 16777216) (.ok (.nx (putL e i (ds ++ [d]))))
def sReverse (i : Nat) : S := fun e => (getL e i).bind fun ds => .ok (.nx (putL e i ds.reverse))
def sPop (x y : Nat) : S := fun e => (getL e y).bind fun ds => (ofO ds[ds.length - 1]?).bind fun d => .ok (.nx ((putL e y ds.dropLast).set x (some (.d d))))
def popAt (ds : List D) (i : Int) : Rs (D × List D) := guardR (-(2 ^ 63) ≤ i ∧ i < 2 ^ 63) ((ofO (ixN ds.length i)).bind fun k => (ofO ds[k]?).bind fun d => .ok (d, ds.eraseIdx k))
def sAppendPop (x y : Nat) (k : E) : S := fun e => (k e).bind fun z => (asI z).bind fun i => (getL e y).bind fun ds => (popAt ds i).bind fun p => (getL (putL e y p.2) x).bind fun es =>
  guardR (es.length < 16777216) (.ok (.nx (putL (putL e y p.2) x (es ++ [p.1]))))
def dKey : D → Option Ky
  | .int i => some (.inl i)
  | .str x => some (.inr x)
  | _ => none
def dKeys : List D → Option (List Ky)
  | [] => some []
  | d :: r => match dKey d, dKeys r with
    | some k, some ks => some (k :: ks)
    | _, _ => none
def valK {κ : Type} [DecidableEq κ] (kvs : List (κ × D)) (k : κ) : Option D := (kvs.find? fun kv => decide (kv.1 = k)).map (·.2)
def dGet (w : W) (k : D) : Rs (Option D) := match w with
  | .dk kvs => (ofO (dKey k)).bind fun k => .ok (valK kvs k)
  | .dt kvs => match k with
    | .tup ds => (ofO (dKeys ds)).bind fun k => .ok (valK kvs k)
    | _ => .no
  | _ => .no
def putK {κ : Type} [DecidableEq κ] (k : κ) (v : D) (kvs : List (κ × D)) : List (κ × D) :=
  if (kvs.any fun kv => decide (kv.1 = k)) = true then kvs.map (fun kv => if kv.1 = k then (kv.1, v) else kv) else kvs ++ [(k, v)]
def dPut (w : W) (k v : D) : Rs W := match w with
  | .dk kvs => guardR (kvs.length < 16777216) ((ofO (dKey k)).bind fun k => .ok (.dk (putK k v kvs)))
  | .dt kvs => match k with
    | .tup ds => guardR (kvs.length < 16777216) ((ofO (dKeys ds)).bind fun k => .ok (.dt (putK k v kvs)))
    | _ => .no
  | _ => .no
def mDIn (i : Nat) (k : E) : E := fun e => (k e).bind fun d => (wV i e).bind fun w => (dGet w d).bind fun o => .ok (.bl o.isSome)
def mDNotIn (i : Nat) (k : E) : E := fun e => (k e).bind fun d => (wV i e).bind fun w => (dGet w d).bind fun o => .ok (.bl (!o.isSome))
def mDGet (i : Nat) (k : E) : E := fun e => (k e).bind fun d => (wV i e).bind fun w => (dGet w d).bind ofO
def sDPut (i : Nat) (k v : E) : S := fun e => (v e).bind fun x => (k e).bind fun d => (wV i e).bind fun w => (dPut w d x).bind fun w' => .ok (.nx (e.set i (some w')))
def fnOut : Out → Rs W
  | .rt w => .ok w
  | .nx _ => .ok (.d .non)
  | _ => .no
def fnM (k n : Nat) (body : S) : Fn := fun ws => guardR (ws.length = k) ((body (ws.map some ++ List.replicate (n - ws.length) none)).bind fnOut)
def fnOutN : Out → Rs W
  | .rt w => .ok w
  | _ => .no
def fnN (k n : Nat) (body : S) : Fn := fun ws => guardR (ws.length = k) ((body (ws.map some ++ List.replicate (n - ws.length) none)).bind fnOutN)
def fnZ : Fn := fun _ => .no
def okMul (i j : Int) : Prop := (-(2 ^ 64) < i ∧ i < 2 ^ 64) ∨ (-(2 ^ 64) < j ∧ j < 2 ^ 64)
instance (i j : Int) : Decidable (okMul i j) := inferInstanceAs (Decidable (_ ∨ _))
def okDiv (j : Int) : Prop := 0 < j ∧ j.natAbs.log2 < 9000
instance (j : Int) : Decidable (okDiv j) := inferInstanceAs (Decidable (_ ∧ _))
def okPow (i j : Int) : Prop := 0 ≤ j ∧ j ≤ 1000000 ∧ i.natAbs < 2 ^ 64
instance (i j : Int) : Decidable (okPow i j) := inferInstanceAs (Decidable (_ ∧ _))
def dAdd : D → D → Rs D
  | .int i, .int j => .ok (.int (i + j))
  | .str i, .str j => guardR (i.length + j.length ≤ 16777216) (.ok (.str (i ++ j)))
  | .lst i, .lst j => guardR (i.length + j.length ≤ 16777216) (.ok (.lst (i ++ j)))
  | _, _ => .no
def dSub : D → D → Rs D
  | .int i, .int j => .ok (.int (i - j))
  | _, _ => .no
def dMulI : D → D → Rs D
  | .int i, .int j => guardR (okMul i j) (.ok (.int (i * j)))
  | _, _ => .no
def dDiv : D → D → Rs D
  | .int i, .int j => guardR (okDiv j) (.ok (.int (i / j)))
  | _, _ => .no
def dMod : D → D → Rs D
  | .int i, .int j => guardR (0 < j) (.ok (.int (i % j)))
  | _, _ => .no
def dNeg : D → Rs D
  | .int i => .ok (.int (-i))
  | _ => .no
def dLt : D → D → Rs D
  | .int i, .int j => .ok (.bl (decide (i < j)))
  | .str i, .str j => .ok (.bl (decide (i.cps.toList < j.cps.toList)))
  | _, _ => .no
def dGt : D → D → Rs D
  | .int i, .int j => .ok (.bl (decide (j < i)))
  | .str i, .str j => .ok (.bl (decide (j.cps.toList < i.cps.toList)))
  | _, _ => .no
def dEq (x y : D) : Rs D := guardR (x.dep ≤ 16) (.ok (.bl (pyEq x y)))
def dNe (x y : D) : Rs D := guardR (x.dep ≤ 16) (.ok (.bl (!pyEq x y)))
def dIn (x y : D) : Rs D := match y with
  | .lst ds => guardR (depAll ds ≤ 16) (.ok (.bl (ds.any fun e => pyEq e x)))
  | .tup ds => guardR (depAll ds ≤ 16) (.ok (.bl (ds.any fun e => pyEq e x)))
  | .str z => match x with
    | .str s => guardR (s.length = 1) (.ok (.bl (decide (s.cps.getD 0 0 ∈ z.cps.toList))))
    | _ => .no
  | _ => .no
def dNotIn (x y : D) : Rs D := match y with
  | .lst ds => guardR (depAll ds ≤ 16) (.ok (.bl (!ds.any fun e => pyEq e x)))
  | .tup ds => guardR (depAll ds ≤ 16) (.ok (.bl (!ds.any fun e => pyEq e x)))
  | _ => .no
def dIx (x y : D) : Rs D := match x, y with
  | .lst ds, .int i => ofO (atI ds i)
  | .tup ds, .int i => ofO (atI ds i)
  | .str z, .int i => guardR (z.length ≤ 16777216) ((ofO (atI z.cps.toList i)).bind fun c => .ok (.str ⟨#[c]⟩))
  | _, _ => .no
def bLen : List D → Rs D
  | [.lst ds] => .ok (.int ds.length)
  | [.tup ds] => .ok (.int ds.length)
  | [.str z] => guardR (z.length ≤ 16777216) (.ok (.int z.length))
  | _ => .no
def bMax : List D → Rs D
  | [.int i, .int j] => .ok (.int (max i j))
  | _ => .no
def bMin : List D → Rs D
  | [.int i, .int j] => .ok (.int (min i j))
  | _ => .no
def bList : List D → Rs D
  | [.lst ds] => .ok (.lst ds)
  | [.tup ds] => .ok (.lst ds)
  | _ => .no
def bTuple : List D → Rs D
  | [.lst ds] => .ok (.tup ds)
  | [.tup ds] => .ok (.tup ds)
  | _ => .no
def isTy (t : String) : D → Bool
  | .non => false
  | .bl _ => t == "bool" || t == "int"
  | .int _ => t == "int"
  | .str _ => t == "str"
  | .lst _ => t == "list"
  | .tup _ => t == "tuple"
def tyName : D → String
  | .non => "NoneType" | .bl _ => "bool" | .int _ => "int" | .str _ => "str" | .lst _ => "list" | .tup _ => "tuple"
def bIs (ts : List String) (x : D) : Rs D := .ok (.bl (ts.any fun t => isTy t x))
def asSs : List D → Option (List Str)
  | [] => some []
  | .str b :: r => (asSs r).map (b :: ·)
  | _ => none
def dJoin (x y : D) : Rs D := match x, y with
  | .str sep, .lst ds => (ofO (asSs ds)).bind fun ys => guardR ((ys.map (·.length)).sum + ys.length * sep.length ≤ 16777216) (.ok (.str (Str.join sep ys)))
  | _, _ => .no
def met (val : Nat → Str) : Nat → List Str
  | 0 => []
  | i + 1 => if val i ∈ met val i then met val i else met val i ++ [val i]
end Mi
set_option Elab.async false
set_option linter.all false
set_option maxRecDepth 100000
set_option maxHeartbeats 4000000
namespace L2
open PySem PySem.Spec PyProof.Rows
open Mi (D depAll pyEq pyEqs)
mutual
theorem pyEq_refl : ∀ d : D, pyEq d d = true
  | .non => rfl
  | .bl b => by simp [pyEq]
  | .int i => by simp [pyEq]
  | .str x => by simp [pyEq]
  | .lst ds => by rw [pyEq]; exact pyEqs_refl ds
  | .tup ds => by rw [pyEq]; exact pyEqs_refl ds
theorem pyEqs_refl : ∀ ds : List D, pyEqs ds ds = true
  | [] => rfl
  | d :: r => by rw [pyEqs, pyEq_refl d, pyEqs_refl r]; rfl
end
theorem pyEqs_len : ∀ {ds es : List D}, ds.length ≠ es.length → pyEqs ds es = false
  | [], [], h => absurd rfl h
  | [], _ :: _, _ => rfl
  | _ :: _, [], _ => rfl
  | d :: r, e :: s, h => by rw [pyEqs, pyEqs_len (fun z => h (by rw [List.length_cons, List.length_cons, z])), Bool.and_false]
theorem pyEqs_all : ∀ {ds es : List D}, ds.length = es.length → pyEqs ds es = (List.range ds.length).all fun j => pyEq (ds.getD j .non) (es.getD j .non)
  | [], [], _ => rfl
  | [], _ :: _, h => by simp at h
  | _ :: _, [], h => by simp at h
  | d :: r, e :: s, h => by
    rw [pyEqs, pyEqs_all (by simpa using h), List.length_cons, List.range_succ_eq_map, List.all_cons, List.all_map]
    rfl
mutual
/-- the value v in the heap H is the tree d -/
def Rep (K : PySem.W.Frag) (H : Hp) : D → V → Prop
  | .non, v => v = .non
  | .bl b, v => v = .bl b
  | .int i, v => v = .int i
  | .str x, v => v = .str x
  | .lst ds, v => ∃ a xs, v = .ref a ∧ SqL K H a xs ∧ Reps K H ds xs
  | .tup ds, v => ∃ a xs, v = .ref a ∧ SqT K H a xs ∧ Reps K H ds xs
def Reps (K : PySem.W.Frag) (H : Hp) : List D → List V → Prop
  | [], vs => vs = []
  | d :: ds, vs => ∃ v r, vs = v :: r ∧ Rep K H d v ∧ Reps K H ds r
end
theorem Reps.length {K : PySem.W.Frag} {H : Hp} : ∀ {ds : List D} {vs : List V}, Reps K H ds vs → ds.length = vs.length
  | [], vs, h => by rw [Reps] at h; subst h; rfl
  | d :: ds, vs, h => by
    rw [Reps] at h
    obtain ⟨v, r, rfl, _, q⟩ := h
    rw [List.length_cons, List.length_cons, Reps.length q]
theorem Reps.get {K : PySem.W.Frag} {H : Hp} : ∀ {ds : List D} {vs : List V} {j : Nat} {v : V}, Reps K H ds vs → vs[j]? = some v → Rep K H (ds.getD j .non) v
  | [], vs, j, v, h, e => by rw [Reps] at h; subst h; simp at e
  | d :: ds, vs, 0, v, h, e => by
    rw [Reps] at h
    obtain ⟨v', r, rfl, p, q⟩ := h
    simp at e; subst e; exact p
  | d :: ds, vs, j + 1, v, h, e => by
    rw [Reps] at h
    obtain ⟨v', r, rfl, p, q⟩ := h
    have := Reps.get (j := j) (v := v) q (by simpa using e)
    simpa using this
section
variable {X : Cx} {pins : List (Addr × Obj)} {σ : St} {H : Hp} {s : Shared}
theorem Inv.list_tup (I : Inv X pins σ H s) {a : Addr} {xs ys : List V} (h : SqL X.K H a xs) (h' : SqT X.K H a ys) : False := by
  obtain ⟨its, _, p, _⟩ := I.list h
  obtain ⟨its', _, q, _⟩ := I.tuple h'
  obtain ⟨o, n, e, c, _⟩ := p
  obtain ⟨o', e', c', _⟩ := q
  rw [e] at e'; cases e'
  rw [c] at c'
  exact absurd (Value.type.inj c') (by decide)
mutual
theorem Rep.inj (I : Inv X pins σ H s) : ∀ {d e : D} {v : V}, Rep X.K H d v → Rep X.K H e v → d = e
  | .non, e, v, h, h' => by
    rw [Rep] at h; subst h
    cases e <;> rw [Rep] at h' <;> first | rfl | (obtain ⟨_, _, z, _⟩ := h'; cases z) | cases h'
  | .bl b, e, v, h, h' => by
    rw [Rep] at h; subst h
    cases e <;> rw [Rep] at h' <;> first | (obtain ⟨_, _, z, _⟩ := h'; cases z) | (cases h'; rfl) | cases h'
  | .int b, e, v, h, h' => by
    rw [Rep] at h; subst h
    cases e <;> rw [Rep] at h' <;> first | (obtain ⟨_, _, z, _⟩ := h'; cases z) | (cases h'; rfl) | cases h'
  | .str b, e, v, h, h' => by
    rw [Rep] at h; subst h
    cases e <;> rw [Rep] at h' <;> first | (obtain ⟨_, _, z, _⟩ := h'; cases z) | (cases h'; rfl) | cases h'
  | .lst ds, e, v, h, h' => by
    rw [Rep] at h
    obtain ⟨a, xs, rfl, q, r⟩ := h
    cases e with
    | lst es =>
      rw [Rep] at h'
      obtain ⟨a', xs', z, q', r'⟩ := h'
      cases z
      rw [I.list_inj q' q] at r'
      rw [Reps.inj I r r']
    | tup es =>
      rw [Rep] at h'
      obtain ⟨a', xs', z, q', r'⟩ := h'
      cases z
      exact (I.list_tup q q').elim
    | _ => rw [Rep] at h'; cases h'
  | .tup ds, e, v, h, h' => by
    rw [Rep] at h
    obtain ⟨a, xs, rfl, q, r⟩ := h
    cases e with
    | tup es =>
      rw [Rep] at h'
      obtain ⟨a', xs', z, q', r'⟩ := h'
      cases z
      rw [I.tuple_inj q' q] at r'
      rw [Reps.inj I r r']
    | lst es =>
      rw [Rep] at h'
      obtain ⟨a', xs', z, q', r'⟩ := h'
      cases z
      exact (I.list_tup q' q).elim
    | _ => rw [Rep] at h'; cases h'
theorem Reps.inj (I : Inv X pins σ H s) : ∀ {ds es : List D} {vs : List V}, Reps X.K H ds vs → Reps X.K H es vs → ds = es
  | [], es, vs, h, h' => by
    rw [Reps] at h; subst h
    cases es with
    | nil => rfl
    | cons e es => rw [Reps] at h'; obtain ⟨_, _, z, _⟩ := h'; cases z
  | d :: ds, es, vs, h, h' => by
    rw [Reps] at h
    obtain ⟨v, r, rfl, p, q⟩ := h
    cases es with
    | nil => rw [Reps] at h'; cases h'
    | cons e es =>
      rw [Reps] at h'
      obtain ⟨v', r', z, p', q'⟩ := h'
      cases z
      rw [Rep.inj I p p', Reps.inj I q q']
end
theorem depAll_le : ∀ {ds : List D} {j : Nat}, (ds.getD j .non).dep ≤ depAll ds
  | [], j => by simp [D.dep]
  | d :: ds, 0 => by simp [depAll]; omega
  | d :: ds, j + 1 => by
    have := depAll_le (ds := ds) (j := j)
    have e : (d :: ds).getD (j + 1) .non = ds.getD j .non := by simp
    rw [e, depAll]; omega
def _root_.Mi.D.flat : D → Bool
  | .lst _ => false
  | .tup _ => false
  | _ => true
def _root_.Mi.D.toV : D → V
  | .non => .non | .bl b => .bl b | .int i => .int i | .str x => .str x | .lst _ => .non | .tup _ => .non
theorem Rep.flat {K : PySem.W.Frag} : ∀ {d : D} {v : V}, d.flat = true → Rep K H d v → v = d.toV ∧ flatV v = true
  | .non, v, _, h => by rw [Rep] at h; subst h; exact ⟨rfl, rfl⟩
  | .bl b, v, _, h => by rw [Rep] at h; subst h; exact ⟨rfl, rfl⟩
  | .int b, v, _, h => by rw [Rep] at h; subst h; exact ⟨rfl, rfl⟩
  | .str b, v, _, h => by rw [Rep] at h; subst h; exact ⟨rfl, rfl⟩
  | .lst _, v, z, h => by cases z
  | .tup _, v, z, h => by cases z
theorem pyEq_flat : ∀ {d e : D}, d.flat = true → e.flat = true → pyEq d e = eqV d.toV e.toV := by
  intro d e h1 h2
  cases d <;> cases e <;> first | rfl | exact absurd (show false = true from h1) Bool.false_ne_true | exact absurd (show false = true from h2) Bool.false_ne_true
open SeqAt in
theorem eqAt_D (I : Inv X pins σ H s) : ∀ (n : Nat) (d e : D) (A : Around) {x y : V} {u u' : Value}, d.dep ≤ n → A.units + n < cLine → Rep X.K H d x → Rep X.K H e y → RelV x u → RelV y u' → EqAt A s u u' (pyEq d e) := by
  intro n
  induction n using Nat.strongRecOn with
  | ind n ih =>
    intro d e A x y u u' hd hu h h' r r'
    have hu0 : A.units < cLine := by omega
    by_cases hdf : d.flat = true
    · obtain ⟨ex, fx⟩ := h.flat hdf
      subst ex
      by_cases hef : e.flat = true
      · obtain ⟨ey, fy⟩ := h'.flat hef
        subst ey
        rw [pyEq_flat hdf hef]
        exact eqAt_V r r' fx fy
      · cases e with
        | lst es =>
          rw [Rep] at h'
          obtain ⟨a, xs, rfl, q, _⟩ := h'
          cases r'
          obtain ⟨its, _, p, _⟩ := I.list q
          cases d with
          | non => cases r; exact EqAt.none_list p.isList hu0
          | bl b => cases r; exact EqAt.bool_list b p.isList hu0
          | int b => obtain ⟨t, rfl⟩ := r; exact EqAt.int_list b t p.isList hu0
          | str b => obtain ⟨t, rfl⟩ := r; exact EqAt.str_list b t p.isList hu0
          | _ => cases hdf
        | tup es =>
          rw [Rep] at h'
          obtain ⟨a, xs, rfl, q, _⟩ := h'
          cases r'
          obtain ⟨its, _, p, _⟩ := I.tuple q
          cases d with
          | non => cases r; exact EqAt.none_tuple p hu0
          | bl b => cases r; exact EqAt.bool_tuple b p hu0
          | int b => obtain ⟨t, rfl⟩ := r; exact EqAt.int_tuple b t p hu0
          | str b => obtain ⟨t, rfl⟩ := r; exact EqAt.str_tuple b t p hu0
          | _ => cases hdf
        | _ => exact absurd rfl hef
    · by_cases hef : e.flat = true
      · obtain ⟨ey, fy⟩ := h'.flat hef
        subst ey
        cases d with
        | lst ds =>
          rw [Rep] at h
          obtain ⟨a, xs, rfl, q, _⟩ := h
          cases r
          obtain ⟨its, _, p, _⟩ := I.list q
          cases e with
          | non => cases r'; exact EqAt.list_none p.isList hu0
          | bl b => cases r'; exact EqAt.list_bool b p.isList hu0
          | int b => obtain ⟨t, rfl⟩ := r'; exact EqAt.list_int b t p.isList hu0
          | str b => obtain ⟨t, rfl⟩ := r'; exact EqAt.list_str b t p.isList hu0
          | _ => cases hef
        | tup ds =>
          rw [Rep] at h
          obtain ⟨a, xs, rfl, q, _⟩ := h
          cases r
          obtain ⟨its, _, p, _⟩ := I.tuple q
          cases e with
          | non => cases r'; exact EqAt.tuple_none p hu0
          | bl b => cases r'; exact EqAt.tuple_bool b p hu0
          | int b => obtain ⟨t, rfl⟩ := r'; exact EqAt.tuple_int b t p hu0
          | str b => obtain ⟨t, rfl⟩ := r'; exact EqAt.tuple_str b t p hu0
          | _ => cases hef
        | _ => exact absurd rfl hdf
      · -- both are lists or tuples
        have item : ∀ {ds es : List D} {xs ys : List V} {its its' : List Value}, depAll ds + 1 ≤ n → Reps X.K H ds xs → Reps X.K H es ys → Vals xs its → Vals ys its' →
            ∀ j (h1 : j < its.toArray.size) (h2 : j < its'.toArray.size), EqAt A.in1 s its.toArray[j] its'.toArray[j] (pyEq (ds.getD j .non) (es.getD j .non)) := by
          intro ds es xs ys its its' hn q q' v v' j h1 h2
          have h1' : j < its.length := by simpa using h1
          have h2' : j < its'.length := by simpa using h2
          have e1 : j < xs.length := by rw [v.length]; exact h1'
          have e2 : j < ys.length := by rw [v'.length]; exact h2'
          have g1 : xs[j]? = some xs[j] := by simp [e1]
          have g2 : ys[j]? = some ys[j] := by simp [e2]
          obtain ⟨w1, k1, r1⟩ := v.get g1
          obtain ⟨w2, k2, r2⟩ := v'.get g2
          have t1 : its.toArray[j] = w1 := by obtain ⟨_, k1⟩ := List.getElem?_eq_some_iff.mp k1; simpa using k1
          have t2 : its'.toArray[j] = w2 := by obtain ⟨_, k2⟩ := List.getElem?_eq_some_iff.mp k2; simpa using k2
          rw [t1, t2]
          have := depAll_le (ds := ds) (j := j)
          refine ih (n - 1) (by omega) _ _ A.in1 (by omega) ?_ (q.get g1) (q'.get g2) r1 r2
          show A.units + 1 + (n - 1) < cLine
          omega
        cases d with
        | lst ds =>
          rw [Rep] at h
          obtain ⟨a, xs, rfl, q, rr⟩ := h
          cases r
          obtain ⟨its, v, p, _⟩ := I.list q
          have hn : depAll ds + 1 ≤ n := by simpa [D.dep] using hd
          cases e with
          | lst es =>
            rw [Rep] at h'
            obtain ⟨b, ys, rfl, q', rr'⟩ := h'
            cases r'
            obtain ⟨its', v', p', _⟩ := I.list q'
            by_cases hab : a = b
            · subst hab
              rw [I.list_inj q' q] at rr'
              rw [Reps.inj I rr rr', pyEq_refl]
              exact EqAt.same _
            · have l1 := rr.length
              have l2 := rr'.length
              have l3 := v.length
              have l4 := v'.length
              by_cases hl : ds.length = es.length
              · rw [pyEq, pyEqs_all hl]
                have := RcAt.lists p.isList p'.isList (by simp; omega) hu0 (item hn rr rr' v v')
                have e : its.toArray.size = ds.length := by simp; omega
                rw [e] at this
                exact .of_refs hab this
              · rw [pyEq, pyEqs_len hl]
                exact .of_refs hab (RcAt.lists_lengths p.isList p'.isList (by simp; omega) hu0)
          | tup es =>
            rw [Rep] at h'
            obtain ⟨b, ys, rfl, q', _⟩ := h'
            cases r'
            obtain ⟨its', _, p', _⟩ := I.tuple q'
            exact EqAt.list_tuple p.isList p' hu0
          | _ => exact absurd rfl hef
        | tup ds =>
          rw [Rep] at h
          obtain ⟨a, xs, rfl, q, rr⟩ := h
          cases r
          obtain ⟨its, v, p, _⟩ := I.tuple q
          have hn : depAll ds + 1 ≤ n := by simpa [D.dep] using hd
          cases e with
          | tup es =>
            rw [Rep] at h'
            obtain ⟨b, ys, rfl, q', rr'⟩ := h'
            cases r'
            obtain ⟨its', v', p', _⟩ := I.tuple q'
            by_cases hab : a = b
            · subst hab
              rw [I.tuple_inj q' q] at rr'
              rw [Reps.inj I rr rr', pyEq_refl]
              exact EqAt.same _
            · have l1 := rr.length
              have l2 := rr'.length
              have l3 := v.length
              have l4 := v'.length
              have R := RcAt.tuples p p' hu0 (item hn rr rr' v v')
              have e1 : its.toArray.size = ds.length := by simp; omega
              have e2 : its'.toArray.size = es.length := by simp; omega
              rw [e1, e2] at R
              by_cases hl : ds.length = es.length
              · rw [pyEq, pyEqs_all hl]
                rw [hl, Nat.min_self, beq_self_eq_true, Bool.and_true, ← hl] at R
                exact .of_refs hab R
              · rw [pyEq, pyEqs_len hl]
                have : (ds.length == es.length) = false := by simpa using hl
                rw [this, Bool.and_false] at R
                exact .of_refs hab R
          | lst es =>
            rw [Rep] at h'
            obtain ⟨b, ys, rfl, q', _⟩ := h'
            cases r'
            obtain ⟨its', _, p', _⟩ := I.list q'
            exact EqAt.tuple_list p p'.isList hu0
          | _ => exact absurd rfl hef
        | _ => exact absurd rfl hdf
def rInD (K : PySem.W.Frag) (neg : Bool) : R2 := fun x y H Q => ∃ (p : Addr) (xs : List V) (d : D) (ds : List D), y = .ref p ∧ (SqL K H p xs ∨ SqT K H p xs) ∧ Rep K H d x ∧ Reps K H ds xs ∧ depAll ds ≤ 16 ∧
  Q (.bl (if neg then !ds.any (fun e => pyEq e d) else ds.any (fun e => pyEq e d))) H
theorem Reps.main {K : PySem.W.Frag} : ∀ {ds : List D} {xs : List V} {us : List Value}, Reps K H ds xs → Vals xs us → ∀ u ∈ us, ∃ b ∈ ds, ∃ y, Rep K H b y ∧ RelV y u
  | [], xs, us, hr, hv, u, hu => by
    rw [Reps] at hr; subst hr; cases hv; cases hu
  | b :: bs, xs, us, hr, hv, u, hu => by
    rw [Reps] at hr
    obtain ⟨y, r, rfl, p, q⟩ := hr
    cases hv with
    | cons ry t =>
      rcases List.mem_cons.mp hu with rfl | hu
      · exact ⟨b, List.mem_cons_self, _, p, ry⟩
      · obtain ⟨b', hb', w⟩ := Reps.main q t u hu
        exact ⟨b', List.mem_cons_of_mem _ hb', w⟩
theorem Reps.any {K : PySem.W.Frag} {e : Value → Bool} {f : D → Bool} (key : ∀ b y u, Rep K H b y → RelV y u → e u = f b) : ∀ {ds : List D} {xs : List V} {us : List Value}, Reps K H ds xs → Vals xs us → us.any e = ds.any f
  | [], xs, us, hr, hv => by
    rw [Reps] at hr; subst hr; cases hv; rfl
  | b :: bs, xs, us, hr, hv => by
    rw [Reps] at hr
    obtain ⟨y, r, rfl, p, q⟩ := hr
    cases hv with
    | cons ry t => rw [List.any_cons, List.any_cons, key b y _ p ry, Reps.any key q t]
theorem dep_mem : ∀ {ds : List D} {b : D}, b ∈ ds → b.dep ≤ depAll ds
  | d :: ds, b, h => by
    rw [depAll]
    rcases List.mem_cons.mp h with rfl | h
    · omega
    · have := dep_mem h; omega
open Classical in
theorem mem_eqD (I : Inv X pins σ H s) {A : Around} (hu : A.units + 16 < cLine) {d : D} {x : V} {v : Value} (hx : Rep X.K H d x) (rx : RelV x v) {ds : List D} {xs : List V} {us : List Value} (hd : depAll ds ≤ 16) (hr : Reps X.K H ds xs) (hv : Vals xs us) :
    ∃ e : Value → Bool, (∀ u ∈ us, SeqAt.EqAt A s u v (e u)) ∧ us.any e = ds.any (fun b => pyEq b d) := by
  have key : ∀ b y u, Rep X.K H b y → RelV y u → (fun u => decide (∃ b y, Rep X.K H b y ∧ RelV y u ∧ pyEq b d = true)) u = pyEq b d := by
    intro b y u hb hy
    cases hp : pyEq b d with
    | true => exact decide_eq_true ⟨b, y, hb, hy, hp⟩
    | false =>
      refine decide_eq_false ?_
      rintro ⟨b', y', hb', hy', hp'⟩
      have := hy.inj hy'
      subst this
      rw [Rep.inj I hb hb', hp'] at hp
      cases hp
  refine ⟨fun u => decide (∃ b y, Rep X.K H b y ∧ RelV y u ∧ pyEq b d = true), fun u hu' => ?_, Reps.any key hr hv⟩
  obtain ⟨b, hb, y, rb, ry⟩ := Reps.main hr hv u hu'
  rw [key b y u rb ry]
  exact eqAt_D I 16 b d A (Nat.le_trans (dep_mem hb) hd) hu rb hx ry rx
theorem op_inD (hu : X.A.units + 64 < cLine) : OpR X (compareOp .In) (rInD X.K false) := by
  intro pins s σ H x y v u Q I rx ry h
  obtain ⟨p, xs, d, ds, rfl, hq, hx, hr, hd, q⟩ := h
  cases ry
  have hu1 : X.A.in1.units + 16 < cLine := by show X.A.units + 1 + 16 < cLine; omega
  rcases hq with hq | hq
  · obtain ⟨its, r, pl, hz⟩ := I.list hq
    obtain ⟨e, he, ea⟩ := mem_eqD I hu1 hx rx hd hr r
    refine SeqAt.in_listAt e pl.isList (fun w hw => he w (by simpa using hw)) ⟨.bl _, H, I, rfl, ?_⟩
    rw [show its.toArray.any e = its.any e by simp, ea]
    exact q
  · obtain ⟨its, r, pl, hz⟩ := I.tuple hq
    obtain ⟨e, he, ea⟩ := mem_eqD I hu1 hx rx hd hr r
    refine SeqAt.in_tupleAt e pl (fun w hw => he w (by simpa using hw)) ⟨.bl _, H, I, rfl, ?_⟩
    rw [show its.toArray.any e = its.any e by simp, ea]
    exact q
theorem op_notInD (hu : X.A.units + 64 < cLine) : OpR X (compareOp .NotIn) (rInD X.K true) := by
  intro pins s σ H x y v u Q I rx ry h
  obtain ⟨p, xs, d, ds, rfl, hq, hx, hr, hd, q⟩ := h
  cases ry
  have hu1 : X.A.in1.units + 16 < cLine := by show X.A.units + 1 + 16 < cLine; omega
  rcases hq with hq | hq
  · obtain ⟨its, r, pl, hz⟩ := I.list hq
    obtain ⟨e, he, ea⟩ := mem_eqD I hu1 hx rx hd hr r
    refine SeqAt.notIn_listAt e pl.isList (fun w hw => he w (by simpa using hw)) ⟨.bl _, H, I, rfl, ?_⟩
    rw [show its.toArray.any e = its.any e by simp, ea]
    exact q
  · obtain ⟨its, r, pl, hz⟩ := I.tuple hq
    obtain ⟨e, he, ea⟩ := mem_eqD I hu1 hx rx hd hr r
    refine SeqAt.notIn_tupleAt e pl (fun w hw => he w (by simpa using hw)) ⟨.bl _, H, I, rfl, ?_⟩
    rw [show its.toArray.any e = its.any e by simp, ea]
    exact q
end
end L2
set_option Elab.async false
set_option linter.all false
set_option maxRecDepth 100000
set_option maxHeartbeats 4000000
namespace L2
open PySem PySem.Spec PyProof.Rows
theorem same_new {H : Hp} {p : Addr} {o : HO} (hp : H p = none) : Same H (upd H p o) := fun b u e => by rw [upd_ne (ne_of_none e hp)]; exact e
theorem strsAre_of : ∀ {ys : List Str} {us : List Value}, Vals (ys.map V.str) us → StrsAre us ys
  | [], _, .nil => .nil
  | y :: ys, _, .cons r t => by
    obtain ⟨tk, rfl⟩ := (show ∃ tk, _ = Value.str y tk from r)
    exact .cons y tk (strsAre_of t)
section
variable {X : Cx}
def rJoin (K : PySem.W.Frag) : V → List V → Hp → VK → Prop := fun x vs H Q => ∃ (sep : Str) (p : Addr) (ys : List Str), x = .str sep ∧ vs = [.ref p] ∧ SqL K H p (ys.map V.str) ∧ (ys.map (·.length)).sum + ys.length * sep.length ≤ 16777216 ∧ Q (.str (Str.join sep ys)) H
theorem mt_join : MtR X "str.join" (rJoin X.K) := by
  intro pins s σ H x vs v us Q I rx rv h
  obtain ⟨sep, p, ys, rfl, rfl, hq, hz, q⟩ := h
  obtain ⟨t, rfl⟩ := rx
  obtain ⟨u, rfl, ru⟩ := rv.one
  cases ru
  obtain ⟨its, r, pl, _⟩ := I.list hq
  refine join_list pl.isList (by simpa using strsAre_of r) hz fun t' k => ⟨.str (Str.join sep ys), H, I.tok k, ⟨t', ?_⟩, q⟩
  show Value.str (Builtin.Str.glued sep ys) t' = _
  rw [StrLaws.glued_eq_join]
def CDivB (i j : Int) : Prop := 0 < j ∧ j.natAbs.log2 < 9000
theorem op_fdivB : OpR X (binaryOp .FloorDiv) (rI CDivB fun i j => .int (i / j)) := opI fun i j _ _ _ _ _ hc q => by
  refine floordiv_int (by have := hc.1; omega) ?_ (.inl (PyProof.noPylong_of_log2 hc.2))
  rw [Int.fdiv_eq_ediv_of_nonneg i (by have := hc.1; omega)]
  exact q
theorem callE_max2 (hc : X.calm = true) : CallR X (.builtin "max") (fun xs H Q => ∃ i j z, xs = [.int i, .int j] ∧ max i j = z ∧ Q (.int z) H) := by
  intro pins s σ H xs us Q I r ⟨i, j, z, e1, e2, q⟩
  subst e2
  refine call_max2 hc pins s σ H xs us Q I r ⟨i, j, e1, ?_⟩
  rw [show (if j > i then j else i) = max i j by split <;> omega]
  exact q
theorem callE_min2 (hc : X.calm = true) : CallR X (.builtin "min") (fun xs H Q => ∃ i j z, xs = [.int i, .int j] ∧ min i j = z ∧ Q (.int z) H) := by
  intro pins s σ H xs us Q I r ⟨i, j, z, e1, e2, q⟩
  subst e2
  refine call_min2 hc pins s σ H xs us Q I r ⟨i, j, e1, ?_⟩
  rw [show (if j < i then j else i) = min i j by split <;> omega]
  exact q
end
end L2
set_option Elab.async false
set_option linter.all false
set_option maxRecDepth 100000
set_option maxHeartbeats 4000000
namespace A
open PySem L2 PyProof.Rows
open Mi (D W Rs Fin fin_bind)
inductive P2 {α β : Type} (F : α → β → Prop) : List α → List β → Prop
  | nil : P2 F [] []
  | cons {a b l m} : F a b → P2 F l m → P2 F (a :: l) (b :: m)
section
variable {α β : Type} {F G : α → β → Prop}
theorem P2.imp (h : ∀ a b, F a b → G a b) : ∀ {l m}, P2 F l m → P2 G l m
  | _, _, .nil => .nil
  | _, _, .cons x t => .cons (h _ _ x) (t.imp h)
theorem P2.len : ∀ {l m}, P2 F l m → l.length = m.length
  | _, _, .nil => rfl
  | _, _, .cons _ t => by rw [List.length_cons, List.length_cons, t.len]
theorem P2.append : ∀ {l m l' m'}, P2 F l m → P2 F l' m' → P2 F (l ++ l') (m ++ m')
  | _, _, _, _, .nil, s => s
  | _, _, _, _, .cons x t, s => .cons x (t.append s)
theorem P2.get : ∀ {l m} {i : Nat} {a b}, P2 F l m → l[i]? = some a → m[i]? = some b → F a b
  | _, _, _, _, _, .nil, e, _ => by simp at e
  | _, _, 0, _, _, .cons x _, e, e' => by simp at e e'; subst e e'; exact x
  | _, _, i + 1, a, b, .cons _ t, e, e' => t.get (i := i) (by simpa using e) (by simpa using e')
theorem P2.getL {l m} {i : Nat} {a} (t : P2 F l m) (e : l[i]? = some a) : ∃ b, m[i]? = some b ∧ F a b := by
  have h : i < m.length := by rw [← t.len]; exact (List.getElem?_eq_some_iff.mp e).1
  exact ⟨m[i], by simp [h], t.get e (by simp [h])⟩
theorem P2.getR {l m} {i : Nat} {b} (t : P2 F l m) (e : m[i]? = some b) : ∃ a, l[i]? = some a ∧ F a b := by
  have h : i < l.length := by rw [t.len]; exact (List.getElem?_eq_some_iff.mp e).1
  exact ⟨l[i], by simp [h], t.get (by simp [h]) e⟩
theorem P2.take : ∀ {l m} (n : Nat), P2 F l m → P2 F (l.take n) (m.take n)
  | _, _, 0, _ => .nil
  | _, _, _ + 1, .nil => .nil
  | _, _, n + 1, .cons x t => .cons x (t.take n)
theorem P2.drop : ∀ {l m} (n : Nat), P2 F l m → P2 F (l.drop n) (m.drop n)
  | _, _, 0, t => t
  | _, _, _ + 1, .nil => .nil
  | _, _, n + 1, .cons _ t => t.drop n
theorem P2.erase : ∀ {l m} (n : Nat), P2 F l m → P2 F (l.eraseIdx n) (m.eraseIdx n)
  | _, _, _, .nil => .nil
  | _, _, 0, .cons _ t => t
  | _, _, n + 1, .cons x t => .cons x (t.erase n)
theorem P2.rev : ∀ {l m}, P2 F l m → P2 F l.reverse m.reverse
  | _, _, .nil => .nil
  | _, _, .cons x t => by rw [List.reverse_cons, List.reverse_cons]; exact t.rev.append (.cons x .nil)
theorem P2.dropLast : ∀ {l m}, P2 F l m → P2 F l.dropLast m.dropLast
  | _, _, .nil => .nil
  | _, _, .cons x .nil => .nil
  | _, _, .cons x (.cons y t) => .cons x (P2.dropLast (.cons y t))
end
def Lst (H : Hp) (a : Addr) (xs : List V) : Prop := H a = some (.lst xs) ∨ ∃ o, H a = some (.frz o (.lst xs))
mutual
def Rep (H : Hp) : D → V → Prop
  | .non, v => v = .non
  | .bl b, v => v = .bl b
  | .int i, v => v = .int i
  | .str x, v => v = .str x
  | .lst ds, v => ∃ a xs, v = .ref a ∧ Lst H a xs ∧ Reps H ds xs
  | .tup ds, v => ∃ a xs, v = .ref a ∧ H a = some (.tup xs) ∧ Reps H ds xs
def Reps (H : Hp) : List D → List V → Prop
  | [], vs => vs = []
  | d :: ds, vs => ∃ v r, vs = v :: r ∧ Rep H d v ∧ Reps H ds r
end
theorem reps_iff {H : Hp} : ∀ {ds : List D} {vs : List V}, Reps H ds vs ↔ P2 (Rep H) ds vs
  | [], vs => by
    rw [Reps]
    exact ⟨fun h => by subst h; exact .nil, fun h => by cases h; rfl⟩
  | d :: ds, vs => by
    rw [Reps]
    constructor
    · rintro ⟨v, r, rfl, p, q⟩
      exact .cons p (reps_iff.mp q)
    · intro h
      cases h with
      | cons p q => exact ⟨_, _, rfl, p, reps_iff.mpr q⟩
@[simp] theorem rep_non {H : Hp} {v : V} : Rep H .non v ↔ v = .non := by rw [Rep]
@[simp] theorem rep_bl {H : Hp} {v : V} {b : Bool} : Rep H (.bl b) v ↔ v = .bl b := by rw [Rep]
@[simp] theorem rep_int {H : Hp} {v : V} {b : Int} : Rep H (.int b) v ↔ v = .int b := by rw [Rep]
@[simp] theorem rep_str {H : Hp} {v : V} {b : Str} : Rep H (.str b) v ↔ v = .str b := by rw [Rep]
theorem rep_lst {H : Hp} {v : V} {ds : List D} : Rep H (.lst ds) v ↔ ∃ a xs, v = .ref a ∧ Lst H a xs ∧ P2 (Rep H) ds xs := by
  rw [Rep]; exact ⟨fun ⟨a, xs, e, l, r⟩ => ⟨a, xs, e, l, reps_iff.mp r⟩, fun ⟨a, xs, e, l, r⟩ => ⟨a, xs, e, l, reps_iff.mpr r⟩⟩
theorem rep_tup {H : Hp} {v : V} {ds : List D} : Rep H (.tup ds) v ↔ ∃ a xs, v = .ref a ∧ H a = some (.tup xs) ∧ P2 (Rep H) ds xs := by
  rw [Rep]; exact ⟨fun ⟨a, xs, e, l, r⟩ => ⟨a, xs, e, l, reps_iff.mp r⟩, fun ⟨a, xs, e, l, r⟩ => ⟨a, xs, e, l, reps_iff.mpr r⟩⟩
theorem Lst.same {H H' : Hp} {a : Addr} {xs : List V} (s : Same H H') (h : Lst H a xs) : Lst H' a xs := by
  rcases h with h | ⟨o, h⟩
  · exact .inl (s _ _ h)
  · exact .inr ⟨o, s _ _ h⟩
theorem Lst.sq {K : PySem.W.Frag} {H : Hp} {a : Addr} {xs : List V} (h : Lst H a xs) : SqL K H a xs := .inl h
mutual
theorem rep_same {H H' : Hp} (s : Same H H') : ∀ {d : D} {v : V}, Rep H d v → Rep H' d v
  | .non, v, h => by rw [Rep] at h ⊢; exact h
  | .bl b, v, h => by rw [Rep] at h ⊢; exact h
  | .int i, v, h => by rw [Rep] at h ⊢; exact h
  | .str x, v, h => by rw [Rep] at h ⊢; exact h
  | .lst ds, v, h => by
    rw [Rep] at h ⊢
    obtain ⟨a, xs, e, q, r⟩ := h
    exact ⟨a, xs, e, q.same s, reps_same s r⟩
  | .tup ds, v, h => by
    rw [Rep] at h ⊢
    obtain ⟨a, xs, e, q, r⟩ := h
    exact ⟨a, xs, e, s _ _ q, reps_same s r⟩
theorem reps_same {H H' : Hp} (s : Same H H') : ∀ {ds : List D} {vs : List V}, Reps H ds vs → Reps H' ds vs
  | [], vs, h => by rw [Reps] at h ⊢; exact h
  | d :: ds, vs, h => by
    rw [Reps] at h ⊢
    obtain ⟨v, r, e, p, q⟩ := h
    exact ⟨v, r, e, rep_same s p, reps_same s q⟩
end
theorem p2_same {H H' : Hp} (s : Same H H') {ds : List D} {vs : List V} (h : P2 (Rep H) ds vs) : P2 (Rep H') ds vs := h.imp fun _ _ => rep_same s
mutual
theorem rep_up (K : PySem.W.Frag) {H : Hp} : ∀ {d : D} {v : V}, Rep H d v → L2.Rep K H d v
  | .non, v, h => by rw [Rep] at h; rw [L2.Rep]; exact h
  | .bl b, v, h => by rw [Rep] at h; rw [L2.Rep]; exact h
  | .int i, v, h => by rw [Rep] at h; rw [L2.Rep]; exact h
  | .str x, v, h => by rw [Rep] at h; rw [L2.Rep]; exact h
  | .lst ds, v, h => by
    rw [Rep] at h
    rw [L2.Rep]
    obtain ⟨a, xs, e, q, r⟩ := h
    exact ⟨a, xs, e, q.sq, reps_up K r⟩
  | .tup ds, v, h => by
    rw [Rep] at h
    rw [L2.Rep]
    obtain ⟨a, xs, e, q, r⟩ := h
    exact ⟨a, xs, e, .inl (.inl q), reps_up K r⟩
theorem reps_up (K : PySem.W.Frag) {H : Hp} : ∀ {ds : List D} {vs : List V}, Reps H ds vs → L2.Reps K H ds vs
  | [], vs, h => by rw [Reps] at h; rw [L2.Reps]; exact h
  | d :: ds, vs, h => by
    rw [Reps] at h
    rw [L2.Reps]
    obtain ⟨v, r, e, p, q⟩ := h
    exact ⟨v, r, e, rep_up K p, reps_up K q⟩
end
def NT : HO → Prop
  | .tbl _ _ => False
  | _ => True
structure Old (H H' : Hp) : Prop where
  nt : ∀ a o, H a = some o → NT o → H' a = some o
  dom : ∀ a, H' a = none → H a = none
  tb : ∀ a w ps, H a = some (.tbl w ps) → ∃ ps', H' a = some (.tbl w ps')
theorem Old.at {H H' : Hp} (s : Old H H') {a : Addr} {o : HO} (q : H a = some o) (n : NT o := by trivial) : H' a = some o := s.nt a o q n
theorem Old.free {H H' : Hp} (s : Old H H') {a : Addr} (h : H' a = none) : H a = none := s.dom a h
theorem Old.refl (H : Hp) : Old H H := ⟨fun _ _ e _ => e, fun _ e => e, fun _ _ ps e => ⟨ps, e⟩⟩
theorem Old.trans {H H1 H2 : Hp} (a : Old H H1) (b : Old H1 H2) : Old H H2 := ⟨fun x o e n => b.nt x o (a.nt x o e n) n, fun x e => a.dom x (b.dom x e), fun x w ps e => let ⟨p1, e1⟩ := a.tb x w ps e; b.tb x w p1 e1⟩
theorem Old.of {H H' : Hp} (s : Same H H') : Old H H' := ⟨fun a o e _ => s a o e, fun a e => s.free e, fun a w ps e => ⟨ps, s a _ e⟩⟩
theorem Old.put {H0 H : Hp} (s : Old H0 H) {p : Addr} {o u : HO} (h0 : H0 p = none) (h : H p = some u) : Old H0 (upd H p o) :=
  ⟨fun a v e n => by rw [upd_ne (ne_of_none e h0)]; exact s.nt a v e n, fun a e => by
    by_cases hp : a = p
    · subst hp; exact h0
    · rw [upd_ne hp] at e; exact s.dom a e, fun a w ps e => by rw [upd_ne (ne_of_none e h0)]; exact s.tb a w ps e⟩
def codeX (c : Addr) (q : Str) : Heap → Prop := fun h => ∃ o vs t, h.get? c = some o ∧ o.data = .fields vs ∧ vs[1]? = some (.str q t)
class Tabs where
  l : List (Addr × Str)
  cl : String → Addr
variable [Tb : Tabs]
structure CodeOk (H : Hp) : Prop where
  has : ∀ p ∈ Tb.l, ∃ ps, H p.1 = some (.tbl p.2 ps)
  cd : ∀ T q ps, H T = some (.tbl q ps) → TriplesOk ps.toList ∧ ∀ pos v, codeAmong pos ps.toList = some v → ∃ c, v = .ref c ∧ H c = some (.ext (codeX c q))
theorem CodeOk.new {H : Hp} (k : CodeOk H) {p : Addr} {o : HO} (h : H p = none) (n : NT o) : CodeOk (upd H p o) := ⟨fun r hr => let ⟨ps, e⟩ := k.has r hr; ⟨ps, by rw [upd_ne (ne_of_none e h)]; exact e⟩, fun T q ps e => by
  by_cases hp : T = p
  · subst hp; rw [upd_same] at e; cases e; exact n.elim
  · rw [upd_ne hp] at e
    obtain ⟨t, r⟩ := k.cd T q ps e
    refine ⟨t, fun pos v z => ?_⟩
    obtain ⟨c, e1, e2⟩ := r pos v z
    exact ⟨c, e1, by rw [upd_ne (ne_of_none e2 h)]; exact e2⟩⟩
def Cell : HO → Prop
  | .lst _ => True
  | .dK _ => True
  | .dT _ => True
  | .ext _ => True
  | _ => False
theorem Cell.nt : ∀ {o : HO}, Cell o → NT o := fun {o} c => by cases o <;> first | exact c.elim | trivial
def Cell1 : HO → Prop
  | .lst _ => True
  | .dK _ => True
  | .dT _ => True
  | _ => False
theorem Cell1.cell : ∀ {o : HO}, Cell1 o → Cell o := fun {o} c => by cases o <;> first | exact c.elim | trivial
theorem CodeOk.put {H : Hp} (k : CodeOk H) {p : Addr} {o u : HO} (h : H p = some u) (c : Cell1 u) (n : NT o) : CodeOk (upd H p o) := ⟨fun r hr => let ⟨ps, e⟩ := k.has r hr; ⟨ps, by rw [upd_ne (fun y => by rw [y, h] at e; cases e; exact c.elim)]; exact e⟩, fun T q ps e => by
  by_cases hp : T = p
  · subst hp; rw [upd_same] at e; cases e; exact n.elim
  · rw [upd_ne hp] at e
    obtain ⟨t, r⟩ := k.cd T q ps e
    refine ⟨t, fun pos v z => ?_⟩
    obtain ⟨x, e1, e2⟩ := r pos v z
    refine ⟨x, e1, ?_⟩
    rw [upd_ne (fun y => by subst y; rw [h] at e2; cases e2; exact c.elim)]; exact e2⟩
structure Vw (H Hv : Hp) : Prop where
  sub : Same Hv H
  tup : ∀ a xs, H a = some (.tup xs) → Hv a = some (.tup xs)
  frz : ∀ a o u, H a = some (.frz o u) → Hv a = some (.frz o u)
  cd : CodeOk H
  nv : ∀ a o, Hv a = some o → NT o
structure Grow (H Hv H' Hv' : Hp) : Prop where
  old : Old H H'
  vis : Same Hv Hv'
  vw : Vw H' Hv'
  hid : ∀ a o, H a = some o → Hv a = none → Hv' a = none
theorem Grow.refl {H Hv : Hp} (v : Vw H Hv) : Grow H Hv H Hv := ⟨Old.refl _, Same.refl _, v, fun _ _ _ e => e⟩
theorem Old.some {H H' : Hp} (s : Old H H') {a : Addr} {o : HO} (q : H a = some o) : ∃ o', H' a = some o' := by
  cases h : H' a with
  | none => rw [s.dom a h] at q; cases q
  | some o' => exact ⟨o', rfl⟩
theorem Grow.trans {H Hv H1 Hv1 H2 Hv2 : Hp} (g : Grow H Hv H1 Hv1) (k : Grow H1 Hv1 H2 Hv2) : Grow H Hv H2 Hv2 :=
  ⟨g.old.trans k.old, g.vis.trans k.vis, k.vw, fun a o e n => let ⟨o', e'⟩ := g.old.some e; k.hid a o' e' (g.hid a o e n)⟩
theorem vis_none {H Hv : Hp} (v : Vw H Hv) {p : Addr} (h : H p = none) : Hv p = none := v.sub.free h
theorem Grow.new {H Hv : Hp} (v : Vw H Hv) {p : Addr} {o : HO} (h : H p = none) (nt : NT o := by trivial) : Grow H Hv (upd H p o) (upd Hv p o) := by
  refine ⟨.of (same_new h), same_new (vis_none v h), ⟨fun b u e => ?_, fun b xs e => ?_, fun b q u e => ?_, v.cd.new h nt, fun b u e => ?_⟩, fun b u e n => ?_⟩
  · by_cases hb : b = p
    · subst hb; rw [upd_same] at e ⊢; exact e
    · rw [upd_ne hb] at e ⊢; exact v.sub b u e
  · by_cases hb : b = p
    · subst hb; rw [upd_same] at e ⊢; exact e
    · rw [upd_ne hb] at e ⊢; exact v.tup b xs e
  · by_cases hb : b = p
    · subst hb; rw [upd_same] at e ⊢; exact e
    · rw [upd_ne hb] at e ⊢; exact v.frz b q u e
  · by_cases hb : b = p
    · subst hb; rw [upd_same] at e; cases e; exact nt
    · rw [upd_ne hb] at e; exact v.nv b u e
  · rw [upd_ne (ne_of_none e h)]; exact n
theorem Grow.newH {H Hv : Hp} (v : Vw H Hv) {p : Addr} {o : HO} (c : Cell o) (h : H p = none) : Grow H Hv (upd H p o) Hv := by
  refine ⟨.of (same_new h), Same.refl _, ⟨fun b u e => ?_, fun b xs e => ?_, fun b q u e => ?_, v.cd.new h c.nt, v.nv⟩, fun b u e n => n⟩
  · rw [upd_ne (ne_of_none (v.sub b u e) h)]; exact v.sub b u e
  · by_cases hb : b = p
    · subst hb; rw [upd_same] at e; cases e; exact c.elim
    · rw [upd_ne hb] at e; exact v.tup b xs e
  · by_cases hb : b = p
    · subst hb; rw [upd_same] at e; cases e; exact c.elim
    · rw [upd_ne hb] at e; exact v.frz b q u e
theorem Vw.show {H Hv : Hp} (v : Vw H Hv) {a : Addr} {o : HO} (h : H a = some o) (n : Hv a = none) (nt : NT o) : Vw H (upd Hv a o) ∧ Same Hv (upd Hv a o) := by
  refine ⟨⟨fun b u e => ?_, fun b xs e => ?_, fun b q u e => ?_, v.cd, fun b u e => ?_⟩, same_new n⟩
  · by_cases hb : b = a
    · subst hb; rw [upd_same] at e; rw [h]; exact e
    · rw [upd_ne hb] at e; exact v.sub b u e
  · by_cases hb : b = a
    · subst hb; rw [upd_same]; rw [h] at e; exact e
    · rw [upd_ne hb]; exact v.tup b xs e
  · by_cases hb : b = a
    · subst hb; rw [upd_same]; rw [h] at e; exact e
    · rw [upd_ne hb]; exact v.frz b q u e
  · by_cases hb : b = a
    · subst hb; rw [upd_same] at e; cases e; exact nt
    · rw [upd_ne hb] at e; exact v.nv b u e
theorem Lst.old {H H' : Hp} {a : Addr} {xs : List V} (s : Old H H') (h : Lst H a xs) : Lst H' a xs := by
  rcases h with h | ⟨o, h⟩
  · exact .inl (s.at h)
  · exact .inr ⟨o, s.at h⟩
mutual
theorem rep_imm {H H' : Hp} (t : ∀ a xs, H a = some (.tup xs) → H' a = some (.tup xs)) : ∀ {d : D} {v : V}, Mi.imm d = true → Rep H d v → Rep H' d v
  | .non, v, _, h => by rw [Rep] at h ⊢; exact h
  | .bl b, v, _, h => by rw [Rep] at h ⊢; exact h
  | .int i, v, _, h => by rw [Rep] at h ⊢; exact h
  | .str x, v, _, h => by rw [Rep] at h ⊢; exact h
  | .lst ds, v, z, h => by rw [Mi.imm] at z; cases z
  | .tup ds, v, z, h => by
    rw [Mi.imm] at z
    rw [Rep] at h ⊢
    obtain ⟨a, xs, e, q, r⟩ := h
    exact ⟨a, xs, e, t _ _ q, reps_imm t z r⟩
theorem reps_imm {H H' : Hp} (t : ∀ a xs, H a = some (.tup xs) → H' a = some (.tup xs)) : ∀ {ds : List D} {vs : List V}, Mi.imms ds = true → Reps H ds vs → Reps H' ds vs
  | [], vs, _, h => by rw [Reps] at h ⊢; exact h
  | d :: ds, vs, z, h => by
    rw [Mi.imms, Bool.and_eq_true] at z
    rw [Reps] at h ⊢
    obtain ⟨v, r, e, p, q⟩ := h
    exact ⟨v, r, e, rep_imm t z.1 p, reps_imm t z.2 q⟩
end
def KVs {κ : Type} (H : Hp) (kvs : List (κ × D)) (kv : List (κ × V)) : Prop := P2 (fun p q => p.1 = q.1 ∧ Rep H p.2 q.2) kvs kv
theorem KVs.same {κ : Type} {H H' : Hp} (s : Same H H') {kvs : List (κ × D)} {kv : List (κ × V)} (h : KVs H kvs kv) : KVs H' kvs kv := P2.imp (fun _ _ z => ⟨z.1, rep_same s z.2⟩) h
def CellIs (Hv : Hp) : W → HO → Prop
  | .d (.lst ds), .lst xs => P2 (Rep Hv) ds xs
  | .dk kvs, .dK kv => KVs Hv kvs kv
  | .dt kvs, .dT kv => KVs Hv kvs kv
  | _, _ => False
theorem CellIs.same {H H' : Hp} (s : Same H H') : ∀ {w : W} {o : HO}, CellIs H w o → CellIs H' w o := fun {w o} h => by
  cases w with
  | d x =>
    cases x with
    | lst ds => cases o with
      | lst xs => exact p2_same s h
      | _ => exact h.elim
    | _ => cases o <;> exact h.elim
  | dk kvs => cases o with
    | dK kv => exact KVs.same s h
    | _ => exact h.elim
  | dt kvs => cases o with
    | dT kv => exact KVs.same s h
    | _ => exact h.elim
  | ex c => exact h.elim
theorem CellIs.cell1 {H : Hp} {w : W} {o : HO} (h : CellIs H w o) : Cell1 o := by
  cases w with
  | d x =>
    cases x with
    | lst ds => cases o with
      | lst xs => trivial
      | _ => exact h.elim
    | _ => cases o <;> exact h.elim
  | dk kvs => cases o with
    | dK kv => trivial
    | _ => exact h.elim
  | dt kvs => cases o with
    | dT kv => trivial
    | _ => exact h.elim
  | ex c => exact h.elim
theorem CellIs.cell {H : Hp} {w : W} {o : HO} (h : CellIs H w o) : Cell o := h.cell1.cell
theorem CellIs.nt {H : Hp} {w : W} {o : HO} (h : CellIs H w o) : NT o := h.cell.nt
def excX (a C : Addr) : Heap → Prop := fun h => ∃ o, h.get? a = some o ∧ o.cls = .ref C ∧ o.dict = none ∧ ∃ vs, o.data = .fields vs
def RepW (H : Hp) : W → V → Prop
  | .d x, v => Rep H x v
  | .dk kvs, v => ∃ a kv, v = .ref a ∧ H a = some (.dK kv) ∧ KVs H kvs kv
  | .dt kvs, v => ∃ a kv, v = .ref a ∧ H a = some (.dT kv) ∧ KVs H kvs kv
  | .ex c, v => ∃ a, v = .ref a ∧ H a = some (.ext (excX a (Tb.cl c)))
theorem repW_same {H H' : Hp} (s : Same H H') : ∀ {w : W} {v : V}, RepW H w v → RepW H' w v
  | .d x, v, h => rep_same (d := x) s h
  | .dk kvs, v, ⟨a, kv, e, q, r⟩ => ⟨a, kv, e, s _ _ q, r.same s⟩
  | .dt kvs, v, ⟨a, kv, e, q, r⟩ => ⟨a, kv, e, s _ _ q, r.same s⟩
  | .ex c, v, ⟨a, e, q⟩ => ⟨a, e, s _ _ q⟩
theorem repW_cell {H : Hp} {w : W} {a : Addr} {o : HO} (h : H a = some o) (c : CellIs H w o) : RepW H w (.ref a) := by
  cases w with
  | d x =>
    cases x with
    | lst ds => cases o with
      | lst xs => exact rep_lst.mpr ⟨a, xs, rfl, .inl h, c⟩
      | _ => exact c.elim
    | _ => cases o <;> exact c.elim
  | dk kvs => cases o with
    | dK kv => exact ⟨a, kv, rfl, h, c⟩
    | _ => exact c.elim
  | dt kvs => cases o with
    | dT kv => exact ⟨a, kv, rfl, h, c⟩
    | _ => exact c.elim
  | ex z => exact c.elim
def Own (H Hv : Hp) (w : W) (v : V) : Prop := ∃ a o, v = .ref a ∧ H a = some o ∧ Hv a = none ∧ CellIs Hv w o
def RB (H Hv : Hp) (w : W) (v : V) : Prop := RepW Hv w v ∨ ∃ a o, v = .ref a ∧ H a = some o ∧ CellIs Hv w o
theorem RB.grow {H Hv H' Hv' : Hp} (g : Grow H Hv H' Hv') {w : W} {v : V} (h : RB H Hv w v) : RB H' Hv' w v := by
  rcases h with h | ⟨a, o, e, q, c⟩
  · exact .inl (repW_same g.vis h)
  · exact .inr ⟨a, o, e, g.old.at q c.nt, c.same g.vis⟩
theorem Own.grow {H Hv H' Hv' : Hp} (g : Grow H Hv H' Hv') {w : W} {v : V} (h : Own H Hv w v) : Own H' Hv' w v := by
  obtain ⟨a, o, e, q, n, c⟩ := h
  exact ⟨a, o, e, g.old.at q c.nt, g.hid _ _ q n, c.same g.vis⟩
theorem RB.full {H Hv : Hp} (v : Vw H Hv) {w : W} {x : V} (h : RB H Hv w x) : RepW H w x := by
  rcases h with h | ⟨a, o, rfl, q, c⟩
  · exact repW_same v.sub h
  · exact repW_cell q (c.same v.sub)
abbrev RD (H Hv : Hp) (d : D) (v : V) : Prop := RB H Hv (.d d) v
theorem RD.scal {H Hv : Hp} {d : D} {v : V} (h : RD H Hv d v) (n : ∀ ds, d ≠ .lst ds) : Rep Hv d v := by
  rcases h with h | ⟨a, o, e, q, c⟩
  · exact h
  · cases d with
    | lst ds => exact absurd rfl (n ds)
    | _ => cases o <;> exact c.elim
theorem RD.lst {H Hv : Hp} (w : Vw H Hv) {ds : List D} {v : V} (h : RD H Hv (.lst ds) v) : ∃ a xs, v = .ref a ∧ Lst H a xs ∧ P2 (Rep Hv) ds xs := by
  rcases h with h | ⟨a, o, e, q, c⟩
  · obtain ⟨a, xs, e, l, r⟩ := rep_lst.mp h
    exact ⟨a, xs, e, l.same w.sub, r⟩
  · cases o with
    | lst xs => exact ⟨a, xs, e, .inl q, c⟩
    | _ => exact c.elim
theorem RD.tup {H Hv : Hp} (w : Vw H Hv) {ds : List D} {v : V} (h : RD H Hv (.tup ds) v) : ∃ a xs, v = .ref a ∧ H a = some (.tup xs) ∧ Hv a = some (.tup xs) ∧ P2 (Rep Hv) ds xs := by
  obtain ⟨a, xs, e, l, r⟩ := rep_tup.mp (h.scal fun _ z => by cases z)
  exact ⟨a, xs, e, w.sub _ _ l, l, r⟩
theorem RD.int {H Hv : Hp} {i : Int} {v : V} (h : RD H Hv (.int i) v) : v = .int i := rep_int.mp (h.scal fun _ z => by cases z)
theorem RD.str {H Hv : Hp} {i : Str} {v : V} (h : RD H Hv (.str i) v) : v = .str i := rep_str.mp (h.scal fun _ z => by cases z)
theorem RD.bl {H Hv : Hp} {i : Bool} {v : V} (h : RD H Hv (.bl i) v) : v = .bl i := rep_bl.mp (h.scal fun _ z => by cases z)
theorem RD.non {H Hv : Hp} {v : V} (h : RD H Hv .non v) : v = .non := rep_non.mp (h.scal fun _ z => by cases z)
theorem RD.full {H Hv : Hp} (v : Vw H Hv) {d : D} {x : V} (h : RD H Hv d x) : Rep H d x := RB.full v h
abbrev Kd := Hp → Hp → Hp → W → V → Prop
def qP : Kd := fun _ H' Hv' w v => RB H' Hv' w v
def qV : Kd := fun _ _ Hv' w v => RepW Hv' w v
def qN : Kd := fun H H' Hv' w v => ∃ a o, v = .ref a ∧ H a = none ∧ H' a = some o ∧ Hv' a = none ∧ CellIs Hv' w o
theorem qv_int {H H' Hv' : Hp} {i : Int} : qV H H' Hv' (.d (.int i)) (.int i) := (rep_int (H := Hv')).mpr rfl
theorem qv_str {H H' Hv' : Hp} {i : Str} : qV H H' Hv' (.d (.str i)) (.str i) := (rep_str (H := Hv')).mpr rfl
theorem qv_bl {H H' Hv' : Hp} {i : Bool} : qV H H' Hv' (.d (.bl i)) (.bl i) := (rep_bl (H := Hv')).mpr rfl
theorem qv_non {H H' Hv' : Hp} : qV H H' Hv' (.d .non) .non := (rep_non (H := Hv')).mpr rfl
class KM (κ : Kd) : Prop where
  mono : ∀ {H H1 H' Hv' w v}, Old H H1 → κ H1 H' Hv' w v → κ H H' Hv' w v
instance : KM qP := ⟨fun _ h => h⟩
instance : KM qV := ⟨fun _ h => h⟩
instance : KM qN := ⟨fun s ⟨a, o, e, n, r⟩ => ⟨a, o, e, s.free n, r⟩⟩
structure R0 (M : Nat → Bool) (e : Mi.Env) (σ : L2.St) (H Hv : Hp) : Prop where
  vw : Vw H Hv
  len : σ.length = e.length
  nob : ∀ i w, e[i]? = some (some w) → M i = false → ∃ v, σ[i]? = some (some v) ∧ RepW Hv w v
  own : ∀ i w, e[i]? = some (some w) → M i = true → ∃ v, σ[i]? = some (some v) ∧ Own H Hv w v
theorem R0.grow {M : Nat → Bool} {e : Mi.Env} {σ : L2.St} {H Hv H' Hv' : Hp} (r : R0 M e σ H Hv) (g : Grow H Hv H' Hv') : R0 M e σ H' Hv' :=
  ⟨g.vw, r.len, fun i w h m => let ⟨v, q, z⟩ := r.nob i w h m; ⟨v, q, repW_same g.vis z⟩, fun i w h m => let ⟨v, q, z⟩ := r.own i w h m; ⟨v, q, z.grow g⟩⟩
structure R1 (M : Nat → Bool) (H0 Hv0 : Hp) (e : Mi.Env) (σ : L2.St) (H Hv : Hp) : Prop extends R0 M e σ H Hv where
  gw : Grow H0 Hv0 H Hv
  fresh : ∀ i w a, e[i]? = some (some w) → M i = true → σ[i]? = some (some (.ref a)) → H0 a = none
  sep : ∀ i j w w' a b, i ≠ j → e[i]? = some (some w) → e[j]? = some (some w') → M i = true → M j = true → σ[i]? = some (some (.ref a)) → σ[j]? = some (some (.ref b)) → a ≠ b
theorem R1.grow {M : Nat → Bool} {H0 Hv0 : Hp} {e : Mi.Env} {σ : L2.St} {H Hv H' Hv' : Hp} (r : R1 M H0 Hv0 e σ H Hv) (g : Grow H Hv H' Hv') : R1 M H0 Hv0 e σ H' Hv' :=
  ⟨r.toR0.grow g, r.gw.trans g, r.fresh, r.sep⟩
end A
set_option Elab.async false
set_option linter.all false
set_option maxRecDepth 100000
set_option maxHeartbeats 4000000
namespace A
open PySem L2 PyProof.Rows
open Mi (D W Rs Fin fin_bind)
variable [Tb : Tabs]
abbrev MEnv := Mi.Env
class KG (κ : Kd) : Prop where
  go : ∀ {H H1 Hv1 H2 Hv2 w v}, Grow H1 Hv1 H2 Hv2 → κ H H1 Hv1 w v → κ H H2 Hv2 w v
instance : KG qP := ⟨fun g h => h.grow g⟩
instance : KG qV := ⟨fun g h => repW_same g.vis h⟩
instance : KG qN := ⟨fun g ⟨a, o, e, n, q, z, c⟩ => ⟨a, o, e, n, g.old.at q c.nt, g.hid _ _ q z, c.same g.vis⟩⟩
def AW (M : Nat → Bool) (κ : Kd) (t : TE) (m : Mi.EW) : Prop := ∀ e σ H Hv Q, R0 M e σ H Hv → Fin (m e) (fun w => ∀ v H' Hv', Grow H Hv H' Hv' → κ H H' Hv' w v → Q v H') → t σ H Q
def AE (M : Nat → Bool) (κ : Kd) (t : TE) (m : Mi.E) : Prop := ∀ e σ H Hv Q, R0 M e σ H Hv → Fin (m e) (fun d => ∀ v H' Hv', Grow H Hv H' Hv' → κ H H' Hv' (.d d) v → Q v H') → t σ H Q
def AT (M : Nat → Bool) (t : TT) (m : Mi.C) : Prop := ∀ e σ H Hv Q, R0 M e σ H Hv → Fin (m e) (fun b => ∀ H' Hv', Grow H Hv H' Hv' → Q b H') → t σ H Q
def AA (M : Nat → Bool) (κ : Kd) (t : TA) (m : MEnv → Rs (List D)) : Prop := ∀ e σ H Hv Q, R0 M e σ H Hv → Fin (m e) (fun ds => ∀ vs H' Hv', Grow H Hv H' Hv' → P2 (fun d v => κ H H' Hv' (.d d) v) ds vs → Q vs H') → t σ H Q
def AAW (M : Nat → Bool) (κ : Kd) (t : TA) (m : MEnv → Rs (List W)) : Prop := ∀ e σ H Hv Q, R0 M e σ H Hv → Fin (m e) (fun ws => ∀ vs H' Hv', Grow H Hv H' Hv' → P2 (fun w v => κ H H' Hv' w v) ws vs → Q vs H') → t σ H Q
def AO (M : Nat → Bool) (t : TO) (m : MEnv → Rs (Option Int)) : Prop := ∀ e σ H Hv Q, R0 M e σ H Hv → Fin (m e) (fun o => ∀ H' Hv', Grow H Hv H' Hv' → Q o H') → t σ H Q
section
variable {M : Nat → Bool} {κ : Kd} {t ta tb tc te : TE} {a b c : Mi.E} {r r' : R2} {f g : D → D → Rs D}
theorem AE.w (h : AE M κ t a) : AW M κ t (Mi.wD a) := fun e σ H Hv Q I q => h e σ H Hv Q I ((fin_bind.mp q).mono fun d z => z)
theorem kV_kP {H H' Hv' : Hp} {w : W} {v : V} (h : qV H H' Hv' w v) : qP H H' Hv' w v := .inl h
theorem kN_kP {H H' Hv' : Hp} {w : W} {v : V} (h : qN H H' Hv' w v) : qP H H' Hv' w v := by
  obtain ⟨a, o, e, _, q, _, c⟩ := h
  exact .inr ⟨a, o, e, q, c⟩
theorem kN_show {H Hv H' Hv' : Hp} (g : Grow H Hv H' Hv') {w : W} {v : V} (h : qN H H' Hv' w v) : ∃ Hv'', Grow H Hv H' Hv'' ∧ RepW Hv'' w v := by
  obtain ⟨a, o, rfl, n, q, z, c⟩ := h
  obtain ⟨vw, s⟩ := g.vw.show q z c.nt
  refine ⟨upd Hv' a o, ⟨g.old, g.vis.trans s, vw, fun b u e m => ?_⟩, repW_cell upd_same (c.same s)⟩
  rw [upd_ne (ne_of_none e n)]; exact g.hid b u e m
theorem AW.nv (h : AW M qN t m) : AW M qV t m := fun e σ H Hv Q I q => h e σ H Hv Q I (q.mono fun w z v H' Hv' g k => let ⟨Hv'', g', r⟩ := kN_show g k; z v H' Hv'' g' r)
theorem AE.p (h : AE M qV t a) : AE M qP t a := fun e σ H Hv Q I q => h e σ H Hv Q I (q.mono fun w z v H' Hv' g k => z v H' Hv' g (kV_kP k))
theorem AE.np (h : AE M qN t a) : AE M qP t a := fun e σ H Hv Q I q => h e σ H Hv Q I (q.mono fun w z v H' Hv' g k => z v H' Hv' g (kN_kP k))
theorem AE.nv (h : AE M qN t a) : AE M qV t a := fun e σ H Hv Q I q => h e σ H Hv Q I (q.mono fun w z v H' Hv' g k => let ⟨Hv'', g', r⟩ := kN_show g k; z v H' Hv'' g' r)
theorem a_int {i : Int} : AE M qV (tC (.int i)) (Mi.mC (.int i)) := fun e σ H Hv Q I h => h _ H Hv (.refl I.vw) qv_int
theorem a_str {i : Str} : AE M qV (tC (.str i)) (Mi.mC (.str i)) := fun e σ H Hv Q I h => h _ H Hv (.refl I.vw) qv_str
theorem a_bl {i : Bool} : AE M qV (tC (.bl i)) (Mi.mC (.bl i)) := fun e σ H Hv Q I h => h _ H Hv (.refl I.vw) qv_bl
theorem mV_ok {e : MEnv} {i : Nat} {k : D → Prop} (h : Fin (Mi.mV i e) k) : ∃ d, e[i]? = some (some (.d d)) ∧ k d := by
  unfold Mi.mV at h
  split at h
  · exact ⟨_, ‹_›, h⟩
  · exact h.elim
theorem wV_ok {e : MEnv} {i : Nat} {k : W → Prop} (h : Fin (Mi.wV i e) k) : ∃ w, e[i]? = some (some w) ∧ k w := by
  unfold Mi.wV at h
  split at h
  · exact ⟨_, ‹_›, h⟩
  · exact h.elim
theorem a_var (i : Nat) (hm : M i = false) : AE M qV (tVar i) (Mi.mV i) := fun e σ H Hv Q I h => by
  obtain ⟨d, he, k⟩ := mV_ok h
  obtain ⟨v, q, z⟩ := I.nob i _ he hm
  exact ⟨v, q, k v H Hv (.refl I.vw) z⟩
theorem own_kP {H Hv : Hp} {w : W} {v : V} (h : Own H Hv w v) : RB H Hv w v := by
  obtain ⟨a, o, e, q, _, c⟩ := h
  exact .inr ⟨a, o, e, q, c⟩
theorem R0.any {e : MEnv} {σ : L2.St} {H Hv : Hp} (I : R0 M e σ H Hv) {i : Nat} {w : W} (he : e[i]? = some (some w)) : ∃ v, σ[i]? = some (some v) ∧ RB H Hv w v := by
  cases hm : M i with
  | false =>
    obtain ⟨v, q, z⟩ := I.nob i w he hm
    exact ⟨v, q, .inl z⟩
  | true =>
    obtain ⟨v, q, z⟩ := I.own i w he hm
    exact ⟨v, q, own_kP z⟩
theorem a_varP (i : Nat) : AE M qP (tVar i) (Mi.mV i) := fun e σ H Hv Q I h => by
  obtain ⟨d, he, k⟩ := mV_ok h
  obtain ⟨v, q, z⟩ := I.any he
  exact ⟨v, q, k v H Hv (.refl I.vw) z⟩
theorem aw_var (i : Nat) (hm : M i = false) : AW M qV (tVar i) (Mi.wV i) := fun e σ H Hv Q I h => by
  obtain ⟨d, he, k⟩ := wV_ok h
  obtain ⟨v, q, z⟩ := I.nob i _ he hm
  exact ⟨v, q, k v H Hv (.refl I.vw) z⟩
def B2 (κ : Kd) (r : R2) (f : D → D → Rs D) : Prop := ∀ x y v u H Hv Q, Vw H Hv → RD H Hv x v → RD H Hv y u → Fin (f x y) (fun d => ∀ w H' Hv', Grow H Hv H' Hv' → κ H H' Hv' (.d d) w → Q w H') → r v u H Q
def B1 (κ : Kd) (r : V → Hp → VK → Prop) (f : D → Rs D) : Prop := ∀ x v H Hv Q, Vw H Hv → RD H Hv x v → Fin (f x) (fun d => ∀ w H' Hv', Grow H Hv H' Hv' → κ H H' Hv' (.d d) w → Q w H') → r v H Q
def BN (κ : Kd) (r : List V → Hp → VK → Prop) (f : List D → Rs D) : Prop := ∀ ds vs H Hv Q, Vw H Hv → P2 (RD H Hv) ds vs → Fin (f ds) (fun d => ∀ w H' Hv', Grow H Hv H' Hv' → κ H H' Hv' (.d d) w → Q w H') → r vs H Q
theorem a_bin [KM κ] (hr : B2 κ r f) (ha : AE M qP ta a) (hb : AE M qP tb b) : AE M κ (tOp r ta tb) (Mi.m2 f a b) := fun e σ H Hv Q I h =>
  ha e σ H Hv _ I ((fin_bind.mp h).mono fun x hx v H1 Hv1 g1 rx => hb e σ H1 Hv1 _ (I.grow g1) ((fin_bind.mp hx).mono fun y hy u H2 Hv2 g2 ry =>
    hr x y v u H2 Hv2 Q g2.vw (RB.grow g2 rx) ry (hy.mono fun d hd w H3 Hv3 g3 rw => hd w H3 Hv3 (g1.trans (g2.trans g3)) (KM.mono (g1.old.trans g2.old) rw))))
theorem a_un [KM κ] {r : V → Hp → VK → Prop} {f : D → Rs D} (hr : B1 κ r f) (ha : AE M qP ta a) : AE M κ (tUn r ta) (Mi.m1 f a) := fun e σ H Hv Q I h =>
  ha e σ H Hv _ I ((fin_bind.mp h).mono fun x hx v H1 Hv1 g1 rx => hr x v H1 Hv1 Q g1.vw rx (hx.mono fun d hd w H3 Hv3 g3 rw => hd w H3 Hv3 (g1.trans g3) (KM.mono g1.old rw)))
theorem asB_ok {x : D} {k : Bool → Prop} (h : Fin (Mi.asB x) k) : ∃ b, x = .bl b ∧ k b := by
  cases x with
  | bl b => exact ⟨b, rfl, h⟩
  | _ => exact h.elim
theorem asI_ok {x : D} {k : Int → Prop} (h : Fin (Mi.asI x) k) : ∃ b, x = .int b ∧ k b := by
  cases x with
  | int b => exact ⟨b, rfl, h⟩
  | _ => exact h.elim
theorem a_and (ha : AE M qP ta a) (hb : AE M qV tb b) : AE M qV (tAndV ta tb) (Mi.mAnd a b) := fun e σ H Hv Q I h =>
  ha e σ H Hv _ I ((fin_bind.mp h).mono fun x hx v H1 Hv1 g1 rx => by
    obtain ⟨k, rfl, hk⟩ := asB_ok (fin_bind.mp hx)
    cases RD.bl rx
    refine ⟨k, rfl, ?_⟩
    cases k with
    | true => exact iteT (hb e σ H1 Hv1 Q (I.grow g1) (Fin.mono (Mi.fin_t hk) fun d hd w H2 Hv2 g2 rw => hd w H2 Hv2 (g1.trans g2) rw))
    | false => exact iteF ((Mi.fin_now (Mi.fin_f hk)) _ H1 Hv1 g1 qv_bl))
theorem ao_none : AO M tNoPart (Mi.mPart none) := fun e σ H Hv Q I h => h H Hv (.refl I.vw)
theorem ao_some (ha : AE M qP ta a) : AO M (tPart ta) (Mi.mPart (some a)) := fun e σ H Hv Q I h =>
  ha e σ H Hv _ I ((fin_bind.mp h).mono fun x hx v H1 Hv1 g1 rx => by
    obtain ⟨i, rfl, hk⟩ := asI_ok (fin_bind.mp hx)
    exact ⟨i, RD.int rx, hk H1 Hv1 g1⟩)
def BS (κ : Kd) (r : V → Option Int → Option Int → Hp → VK → Prop) (f : D → Option Int → Option Int → Rs D) : Prop := ∀ x lo hi v H Hv Q, Vw H Hv → RD H Hv x v → Fin (f x lo hi) (fun d => ∀ w H' Hv', Grow H Hv H' Hv' → κ H H' Hv' (.d d) w → Q w H') → r v lo hi H Q
theorem a_sl [KM κ] {r : V → Option Int → Option Int → Hp → VK → Prop} {tl th : TO} {lo hi : Option Mi.E} {f : D → Option Int → Option Int → Rs D} (hr : BS κ r f) (ha : AE M qP ta a) (hl : AO M tl (Mi.mPart lo)) (hh : AO M th (Mi.mPart hi)) : AE M κ (tSl r ta tl th) (Mi.mSlF f a lo hi) := fun e σ H Hv Q I h =>
  ha e σ H Hv _ I ((fin_bind.mp h).mono fun x hx v H1 Hv1 g1 rx => hl e σ H1 Hv1 _ (I.grow g1) ((fin_bind.mp hx).mono fun l hl H2 Hv2 g2 => hh e σ H2 Hv2 _ (I.grow (g1.trans g2)) ((fin_bind.mp hl).mono fun u hu H3 Hv3 g3 =>
    hr x l u v H3 Hv3 Q g3.vw (RB.grow (g2.trans g3) rx) (hu.mono fun d hd w H4 Hv4 g4 rw => hd w H4 Hv4 (g1.trans (g2.trans (g3.trans g4))) (KM.mono (g1.old.trans (g2.old.trans g3.old)) rw)))))
theorem at_b (ha : AE M qP ta a) : AT M (tB ta) (Mi.cB a) := fun e σ H Hv Q I h =>
  ha e σ H Hv _ I ((fin_bind.mp h).mono fun x hx v H1 Hv1 g1 rx => by
    obtain ⟨k, rfl, hk⟩ := asB_ok hx
    exact ⟨k, RD.bl rx, hk H1 Hv1 g1⟩)
theorem at_test (ha : AE M qP ta a) : AT M (tTest ta) (Mi.cB a) := at_b ha
theorem at_truth {K : PySem.W.Frag} (ha : AE M qP ta a) : AT M (fun σ H Q => ta σ H fun x H' => ∃ k, TruV K x H' k ∧ Q k H') (Mi.cTru a) := fun e σ H Hv Q I h =>
  ha e σ H Hv _ I ((fin_bind.mp h).mono fun x hx v H1 Hv1 g1 rx => by
    cases x with
    | non => cases RD.non rx; exact ⟨false, rfl, hx H1 Hv1 g1⟩
    | bl b => cases RD.bl rx; exact ⟨b, rfl, hx H1 Hv1 g1⟩
    | int i => cases RD.int rx; exact ⟨_, rfl, hx H1 Hv1 g1⟩
    | str y =>
      cases RD.str rx
      obtain ⟨hz, hq⟩ := Mi.fin_guard hx
      exact ⟨_, ⟨by rw [sizeLine_eq]; exact hz, rfl⟩, hq H1 Hv1 g1⟩
    | lst ds =>
      obtain ⟨p, xs, rfl, l, r⟩ := RD.lst g1.vw rx
      refine ⟨!xs.isEmpty, .inl ⟨xs, l.sq, rfl⟩, ?_⟩
      have : ds.isEmpty = xs.isEmpty := by cases r <;> rfl
      rw [← this]; exact hx H1 Hv1 g1
    | tup ds =>
      obtain ⟨p, xs, rfl, l, _, r⟩ := RD.tup g1.vw rx
      refine ⟨!xs.isEmpty, .inr (.inl ⟨xs, .inl (.inl l), rfl⟩), ?_⟩
      have : ds.isEmpty = xs.isEmpty := by cases r <;> rfl
      rw [← this]; exact hx H1 Hv1 g1)
variable {tt uu : TT} {k l : Mi.C}
theorem at_and (ha : AT M tt k) (hb : AT M uu l) : AT M (tAnd tt uu) (Mi.cAnd k l) := fun e σ H Hv Q I h =>
  ha e σ H Hv _ I ((fin_bind.mp h).mono fun x hx H1 Hv1 g1 => by
    cases x with
    | true => exact iteT (hb e σ H1 Hv1 Q (I.grow g1) (Fin.mono (Mi.fin_t hx) fun b hd H2 Hv2 g2 => hd H2 Hv2 (g1.trans g2)))
    | false => exact iteF ((Mi.fin_now (Mi.fin_f hx)) H1 Hv1 g1))
theorem at_or (ha : AT M tt k) (hb : AT M uu l) : AT M (tOr tt uu) (Mi.cOr k l) := fun e σ H Hv Q I h =>
  ha e σ H Hv _ I ((fin_bind.mp h).mono fun x hx H1 Hv1 g1 => by
    cases x with
    | false => exact iteF (hb e σ H1 Hv1 Q (I.grow g1) (Fin.mono (Mi.fin_f hx) fun b hd H2 Hv2 g2 => hd H2 Hv2 (g1.trans g2)))
    | true => exact iteT ((Mi.fin_now (Mi.fin_t hx)) H1 Hv1 g1))
theorem at_not (ha : AT M tt k) : AT M (tNot tt) (Mi.cNot k) := fun e σ H Hv Q I h =>
  ha e σ H Hv _ I ((fin_bind.mp h).mono fun x hx H1 Hv1 g1 => hx H1 Hv1 g1)
theorem at_yes : AT M tYes Mi.cYes := fun e σ H Hv Q I h => h H Hv (.refl I.vw)
variable {tr : TA} {as : List Mi.E} {ws : List Mi.EW}
theorem aa_nil : AA M κ tNil (Mi.mArgs []) := fun e σ H Hv Q I h => h [] H Hv (.refl I.vw) .nil
theorem aa_cons [KM κ] [KG κ] (ha : AE M κ ta a) (hr : AA M κ tr (Mi.mArgs as)) : AA M κ (tCons ta tr) (Mi.mArgs (a :: as)) := fun e σ H Hv Q I h =>
  ha e σ H Hv _ I ((fin_bind.mp h).mono fun x hx v H1 Hv1 g1 rx => hr e σ H1 Hv1 _ (I.grow g1) ((fin_bind.mp hx).mono fun xs hs vs H2 Hv2 g2 rs =>
    hs (v :: vs) H2 Hv2 (g1.trans g2) (.cons (KG.go g2 rx) (rs.imp fun _ _ z => KM.mono g1.old z))))
theorem aw_nil : AAW M κ tNil (Mi.mArgsW []) := fun e σ H Hv Q I h => h [] H Hv (.refl I.vw) .nil
theorem aw_cons [KM κ] [KG κ] {w : Mi.EW} (ha : AW M κ ta w) (hr : AAW M κ tr (Mi.mArgsW ws)) : AAW M κ (tCons ta tr) (Mi.mArgsW (w :: ws)) := fun e σ H Hv Q I h =>
  ha e σ H Hv _ I ((fin_bind.mp h).mono fun x hx v H1 Hv1 g1 rx => hr e σ H1 Hv1 _ (I.grow g1) ((fin_bind.mp hx).mono fun xs hs vs H2 Hv2 g2 rs =>
    hs (v :: vs) H2 Hv2 (g1.trans g2) (.cons (KG.go g2 rx) (rs.imp fun _ _ z => KM.mono g1.old z))))
theorem a_cb [KM κ] {r : List V → Hp → VK → Prop} {f : List D → Rs D} (hr : BN κ r f) (ha : AA M qP tr (Mi.mArgs as)) : AE M κ (tCB r tr) (Mi.mN f as) := fun e σ H Hv Q I h =>
  ha e σ H Hv _ I ((fin_bind.mp h).mono fun ds hx vs H1 Hv1 g1 rx => hr ds vs H1 Hv1 Q g1.vw rx (hx.mono fun d hd w H3 Hv3 g3 rw => hd w H3 Hv3 (g1.trans g3) (KM.mono g1.old rw)))
theorem a_tup (ha : AA M qV tr (Mi.mArgs as)) : AE M qV (tTup tr) (Mi.mN Mi.dTup as) := fun e σ H Hv Q I h =>
  ha e σ H Hv _ I ((fin_bind.mp h).mono fun ds hx vs H1 Hv1 g1 rx => by
    obtain ⟨hz, hq⟩ := Mi.fin_guard hx
    refine ⟨by rw [← rx.len, sizeLine_eq]; exact hz, fun p hp => ?_⟩
    have g2 : Grow H1 Hv1 (upd H1 p (.tup vs)) (upd Hv1 p (.tup vs)) := .new g1.vw hp
    exact hq _ _ _ (g1.trans g2) (rep_tup.mpr ⟨p, vs, rfl, upd_same, p2_same g2.vis rx⟩))
theorem a_lst (ha : AA M qV tr (Mi.mArgs as)) : AE M qN (tLst tr) (Mi.mN Mi.dLst as) := fun e σ H Hv Q I h =>
  ha e σ H Hv _ I ((fin_bind.mp h).mono fun ds hx vs H1 Hv1 g1 rx => by
    obtain ⟨hz, hq⟩ := Mi.fin_guard hx
    refine ⟨by rw [← rx.len, sizeLine_eq]; exact hz, fun p hp => ?_⟩
    have g2 : Grow H1 Hv1 (upd H1 p (.lst vs)) Hv1 := .newH g1.vw trivial hp
    exact hq _ _ _ (g1.trans g2) ⟨p, .lst vs, rfl, g1.old.free hp, upd_same, vis_none g1.vw hp, rx⟩)
def spD (f : Mi.Fn) : Sp := fun vs H Q _ => ∃ Hv ws, Vw H Hv ∧ P2 (RepW Hv) ws vs ∧ Fin (f ws) (fun w => ∀ v H' Hv', Grow H Hv H' Hv' → qV H H' Hv' w v → Q v H')
def spN (f : Mi.Fn) : Sp := fun vs H Q _ => ∃ Hv ws, Vw H Hv ∧ P2 (RepW Hv) ws vs ∧ Fin (f ws) (fun w => ∀ v H' Hv', Grow H Hv H' Hv' → qN H H' Hv' w v → Q v H')
variable {fn : Mi.Fn} {E : XK}
theorem aw_call (ha : AAW M qV tr (Mi.mArgsW ws)) : AW M qV (tCall (spD fn) [] E tr) (Mi.wCall fn ws) := fun e σ H Hv Q I h =>
  ha e σ H Hv _ I ((fin_bind.mp h).mono fun ds hx vs H1 Hv1 g1 rx => by
    rw [List.append_nil]
    exact ⟨Hv1, ds, g1.vw, rx, hx.mono fun d hd w H3 Hv3 g3 rw => hd w H3 Hv3 (g1.trans g3) rw⟩)
theorem aw_callN (ha : AAW M qV tr (Mi.mArgsW ws)) : AW M qN (tCall (spN fn) [] E tr) (Mi.wCall fn ws) := fun e σ H Hv Q I h =>
  ha e σ H Hv _ I ((fin_bind.mp h).mono fun ds hx vs H1 Hv1 g1 rx => by
    rw [List.append_nil]
    exact ⟨Hv1, ds, g1.vw, rx, hx.mono fun d hd w H3 Hv3 g3 rw => hd w H3 Hv3 (g1.trans g3) (KM.mono (κ := qN) g1.old rw)⟩)
theorem asD_ok {w : W} {k : D → Prop} (h : Fin (Mi.asD w) k) : ∃ d, w = .d d ∧ k d := by
  cases w with
  | d x => exact ⟨x, rfl, h⟩
  | _ => exact h.elim
theorem AW.d {w : Mi.EW} (h : AW M κ t w) : AE M κ t (fun e => (w e).bind Mi.asD) := fun e σ H Hv Q I q =>
  h e σ H Hv Q I ((fin_bind.mp q).mono fun w z v H' Hv' g k => by
    obtain ⟨d, rfl, z⟩ := asD_ok z
    exact z v H' Hv' g k)
theorem a_call (ha : AAW M qV tr (Mi.mArgsW ws)) : AE M qV (tCall (spD fn) [] E tr) (Mi.mCall fn ws) := (aw_call ha).d
theorem a_callN (ha : AAW M qV tr (Mi.mArgsW ws)) : AE M qN (tCall (spN fn) [] E tr) (Mi.mCall fn ws) := (aw_callN ha).d
def noT (H : Hp) : Hp := fun a => match H a with
  | some (.tbl _ _) => none
  | x => x
theorem noT_some {H : Hp} {a : Addr} {o : HO} (h : H a = some o) (n : NT o) : noT H a = some o := by
  unfold noT; rw [h]; cases o <;> first | rfl | exact n.elim
theorem noT_sub {H : Hp} {a : Addr} {o : HO} (h : noT H a = some o) : H a = some o ∧ NT o := by
  unfold noT at h
  cases q : H a with
  | none => rw [q] at h; cases h
  | some u =>
    rw [q] at h
    cases u with
    | tbl w ps => cases h
    | _ => cases h; exact ⟨rfl, trivial⟩
theorem Vw.all {H : Hp} (k : CodeOk H) : Vw H (noT H) := ⟨fun a o e => (noT_sub e).1, fun a xs e => noT_some e trivial, fun a o u e => noT_some e trivial, k, fun a o e => (noT_sub e).2⟩
end
end A
set_option Elab.async false
set_option linter.all false
set_option maxRecDepth 100000
set_option maxHeartbeats 4000000
namespace A
open PySem L2 PyProof.Rows
open Mi (D W Rs Fin fin_bind Out Tg)
variable [Tb : Tabs]
structure ItD (J : It) (P : Hp → Hp → Prop) (ds : List D) : Prop where
  go : ∀ i H Hv, P H Hv → Vw H Hv → i < ds.length → J.go i H
  yld : ∀ i H Hv x H', P H Hv → Vw H Hv → i < ds.length → J.yld i H x H' → ∃ Hv' d, Grow H Hv H' Hv' ∧ ds[i]? = some d ∧ Rep Hv' d x
  stop : ∀ H Hv, P H Hv → Vw H Hv → J.stop ds.length H
def AIc (M : Nat → Bool) (wi : TI) (it : Mi.I) : Prop := ∀ e σ H Hv (R : It → Hp → Prop), R0 M e σ H Hv → Fin (it e) (fun ds => ∀ (J : It) H' Hv' (P : Hp → Hp → Prop), Grow H Hv H' Hv' → ItD J P ds → P H' Hv' → (∀ H1 Hv1 H2 Hv2, P H1 Hv1 → Grow H1 Hv1 H2 Hv2 → P H2 Hv2) → R J H') → wi σ H R
def AIf (M : Nat → Bool) (wi : TI) (it : Mi.I) : Prop := ∀ e σ H Hv (R : It → Hp → Prop), R0 M e σ H Hv → Fin (it e) (fun ds => ∀ (J : It) H' Hv' (P : Hp → Hp → Prop), Grow H Hv H' Hv' → ItD J P ds → P H' Hv' → (∀ H1 Hv1 H2 Hv2, P H1 Hv1 → Same Hv1 Hv2 → Vw H2 Hv2 → P H2 Hv2) → R J H') → wi σ H R
theorem fin_ok {α : Type} {r : Rs α} {k : α → Prop} (h : Fin r k) : ∃ x, r = .ok x ∧ k x := by
  cases r with
  | ok x => exact ⟨x, rfl, h⟩
  | _ => exact h.elim
section
variable {M : Nat → Bool} {ta tb : TE} {a b : Mi.E} {wi : TI} {it : Mi.I} {tr : TA} {as : List Mi.E}
theorem AIf.c (h : AIf M wi it) : AIc M wi it := fun e σ H Hv R I q => h e σ H Hv R I (q.mono fun ds z J H' Hv' P g o p k => z J H' Hv' P g o p fun H1 Hv1 H2 Hv2 p g' => k H1 Hv1 H2 Hv2 p g'.vis g'.vw)
theorem itD_of {J : It} {Ok : Hp → Prop} {xs : List V} (O : J.Of Ok xs) {ds : List D} {P : Hp → Hp → Prop} (ok : ∀ H Hv, P H Hv → Vw H Hv → Ok H) (r : ∀ H Hv, P H Hv → P2 (Rep Hv) ds xs) (ex : ∃ H Hv, P H Hv) : ItD J P ds := by
  have hl : ds.length = xs.length := by obtain ⟨H, Hv, p⟩ := ex; exact (r H Hv p).len
  refine ⟨fun i H Hv p v hi => O.go i H (ok H Hv p v) (by omega), fun i H Hv x H' p v hi y => ?_, fun H Hv p v => by rw [hl]; exact O.stop H (ok H Hv p v)⟩
  obtain ⟨rfl, hx⟩ := O.yld i H x H' (ok H Hv p v) (by omega) y
  obtain ⟨d, hd, rx⟩ := (r H' Hv p).getR hx
  exact ⟨Hv, d, .refl v, hd, rx⟩
def iSeq (K : PySem.W.Frag) (tl : TE) : TI := fun σ H R => iList K tl σ H R ∨ iTup K tl σ H R ∨ iStr tl σ H R
theorem pi_seq {X : Cx} {tg l : Expr} {tl : TE} (hl : PE X l tl) : PI X tg l (iSeq X.K tl) := fun pins s σ H R I h => by
  rcases h with h | h | h
  · exact pi_list hl pins s σ H R I h
  · exact pi_tup hl pins s σ H R I h
  · exact pi_str hl pins s σ H R I h
theorem sgns_rep (H : Hp) (z : Str) : P2 (Rep H) (z.cps.toList.map fun c => D.str ⟨#[c]⟩) (sgns z) := by
  unfold sgns
  induction z.cps.toList with
  | nil => exact .nil
  | cons c r ih => exact .cons (rep_str.mpr rfl) ih
theorem ai_seqC {K : PySem.W.Frag} (ha : AE M qP ta a) : AIc M (iSeq K ta) (Mi.iOf a) := fun e σ H Hv R I h => by
  obtain ⟨d, hd, h⟩ := fin_ok (fin_bind.mp h)
  have run : ∀ Q : VK, (∀ v H' Hv', Grow H Hv H' Hv' → RD H' Hv' d v → Q v H') → ta σ H Q := fun Q q => ha e σ H Hv Q I (by rw [hd]; exact q)
  cases d with
  | lst ds =>
    refine .inl (run _ fun v H' Hv' g r => ?_)
    obtain ⟨p, xs, rfl, l, r⟩ := RD.lst g.vw r
    exact ⟨p, rfl, ⟨xs, l.sq⟩, h (Itl K p) H' Hv' (fun H Hv => Lst H p xs ∧ P2 (Rep Hv) ds xs) g (itD_of of_list (fun H Hv p v => p.1.sq) (fun H Hv p => p.2) ⟨H', Hv', l, r⟩) ⟨l, r⟩ fun H1 Hv1 H2 Hv2 z g' => ⟨z.1.old g'.old, p2_same g'.vis z.2⟩⟩
  | tup ds =>
    refine .inr (.inl (run _ fun v H' Hv' g r => ?_))
    obtain ⟨p, xs, rfl, l, _, r⟩ := RD.tup g.vw r
    exact ⟨p, rfl, ⟨xs, .inl (.inl l)⟩, h (Itt K p) H' Hv' (fun H Hv => H p = some (.tup xs) ∧ P2 (Rep Hv) ds xs) g (itD_of of_tup (fun H Hv p v => .inl (.inl p.1)) (fun H Hv p => p.2) ⟨H', Hv', l, r⟩) ⟨l, r⟩ fun H1 Hv1 H2 Hv2 z g' => ⟨g'.old.at z.1, p2_same g'.vis z.2⟩⟩
  | str z =>
    refine .inr (.inr (run _ fun v H' Hv' g r => ?_))
    exact ⟨z, RD.str r, h (Its z) H' Hv' (fun _ _ => True) g (itD_of of_str (fun _ _ _ _ => trivial) (fun H Hv _ => sgns_rep Hv z) ⟨H, Hv, trivial⟩) trivial fun _ _ _ _ _ _ => trivial⟩
  | _ => exact h.elim
theorem ai_seq {K : PySem.W.Frag} (ha : AE M qV ta a) : AIf M (iSeq K ta) (Mi.iOf a) := fun e σ H Hv R I h => by
  obtain ⟨d, hd, h⟩ := fin_ok (fin_bind.mp h)
  have run : ∀ Q : VK, (∀ v H' Hv', Grow H Hv H' Hv' → Rep Hv' d v → Q v H') → ta σ H Q := fun Q q => ha e σ H Hv Q I (by rw [hd]; exact q)
  cases d with
  | lst ds =>
    refine .inl (run _ fun v H' Hv' g r => ?_)
    obtain ⟨p, xs, rfl, l, r⟩ := rep_lst.mp r
    exact ⟨p, rfl, ⟨xs, (l.same g.vw.sub).sq⟩, h (Itl K p) H' Hv' (fun H Hv => Lst Hv p xs ∧ P2 (Rep Hv) ds xs) g (itD_of of_list (fun H Hv p v => (p.1.same v.sub).sq) (fun H Hv p => p.2) ⟨H', Hv', l, r⟩) ⟨l, r⟩ fun H1 Hv1 H2 Hv2 z s v => ⟨z.1.same s, p2_same s z.2⟩⟩
  | tup ds =>
    refine .inr (.inl (run _ fun v H' Hv' g r => ?_))
    obtain ⟨p, xs, rfl, l, r⟩ := rep_tup.mp r
    exact ⟨p, rfl, ⟨xs, .inl (.inl (g.vw.sub _ _ l))⟩, h (Itt K p) H' Hv' (fun H Hv => Hv p = some (.tup xs) ∧ P2 (Rep Hv) ds xs) g (itD_of of_tup (fun H Hv p v => .inl (.inl (v.sub _ _ p.1))) (fun H Hv p => p.2) ⟨H', Hv', l, r⟩) ⟨l, r⟩ fun H1 Hv1 H2 Hv2 z s v => ⟨s _ _ z.1, p2_same s z.2⟩⟩
  | str z =>
    refine .inr (.inr (run _ fun v H' Hv' g r => ?_))
    exact ⟨z, rep_str.mp r, h (Its z) H' Hv' (fun _ _ => True) g (itD_of of_str (fun _ _ _ _ => trivial) (fun H Hv _ => sgns_rep Hv z) ⟨H, Hv, trivial⟩) trivial fun _ _ _ _ _ _ _ => trivial⟩
  | _ => exact h.elim
theorem rng_rep (H : Hp) (lo hi : Int) : P2 (Rep H) (Mi.dRange lo hi) (rngV lo (hi - lo).toNat) := by
  unfold Mi.dRange rngV
  induction List.range (hi - lo).toNat with
  | nil => exact .nil
  | cons c r ih => exact .cons (rep_int.mpr rfl) ih
theorem itD_range (lo hi : Int) (H Hv : Hp) : ItD (Itr lo (hi - lo).toNat) (fun _ _ => True) (Mi.dRange lo hi) := itD_of of_range (fun _ _ _ _ => trivial) (fun H Hv _ => rng_rep Hv lo hi) ⟨H, Hv, trivial⟩
theorem ai_range1 (ha : AE M qP ta a) : AIf M (iRng1 (tCons ta tNil)) (Mi.iRange1 a) := fun e σ H Hv R I h =>
  ha e σ H Hv _ I ((fin_bind.mp h).mono fun x hx v H1 Hv1 g1 rx => by
    obtain ⟨j, rfl, hk⟩ := asI_ok (fin_bind.mp hx)
    obtain ⟨hz, hq⟩ := Mi.fin_guard hk
    cases RD.int rx
    refine ⟨j, rfl, hz.1, hz.2, ?_⟩
    have := hq (Itr 0 (j - 0).toNat) H1 Hv1 _ g1 (itD_range 0 j H Hv) trivial fun _ _ _ _ _ _ _ => trivial
    rw [Int.sub_zero] at this
    exact this)
end
def gsOf : List Nat → TGs
  | [] => gNil
  | i :: r => gCons (gName i) (gsOf r)
def tgVars : Tg → List Nat
  | .n i => [i]
  | .t is => is
def tgG (K : PySem.W.Frag) : Tg → TG
  | .n i => gName i
  | .t is => gTup K is.length (gsOf is)
section
variable {P : Mi.Env → L2.St → Prop} {H Hv : Hp}
theorem gs_put : ∀ {is : List Nat} {ds : List D} {xs : List V} {e : Mi.Env} {σ : L2.St} {Q : L2.St → Hp → Prop}, (∀ i ∈ is, ∀ e σ d v, P e σ → Rep Hv d v → P (e.set i (some (.d d))) (σ.set i (some v))) → P e σ → P2 (Rep Hv) ds xs →
    Fin (Mi.setAll is ds e) (fun e' => ∀ σ', P e' σ' → Q σ' H) → gsOf is xs σ H Q
  | [], [], xs, e, σ, Q, cl, p, r, h => by
    cases r
    exact ⟨rfl, h σ p⟩
  | [], _ :: _, xs, e, σ, Q, cl, p, r, h => h.elim
  | _ :: _, [], xs, e, σ, Q, cl, p, r, h => h.elim
  | i :: is, d :: ds, xs, e, σ, Q, cl, p, r, h => by
    cases r with
    | cons x t => exact ⟨_, _, rfl, gs_put (fun j hj => cl j (List.mem_cons_of_mem _ hj)) (cl i List.mem_cons_self _ _ _ _ p x) t h⟩
theorem setAll_len : ∀ {is : List Nat} {ds : List D} {e : Mi.Env} {k : Mi.Env → Prop}, Fin (Mi.setAll is ds e) k → ds.length = is.length
  | [], [], _, _, _ => rfl
  | [], _ :: _, _, _, h => h.elim
  | _ :: _, [], _, _, h => h.elim
  | i :: is, d :: ds, e, k, h => by rw [List.length_cons, List.length_cons, setAll_len (is := is) (ds := ds) (k := k) h]
theorem tg_put {K : PySem.W.Frag} (vw : Vw H Hv) {tg : Tg} {d : D} {v : V} {e : Mi.Env} {σ : L2.St} {Q : L2.St → Hp → Prop} (cl : ∀ i ∈ tgVars tg, ∀ e σ d v, P e σ → Rep Hv d v → P (e.set i (some (.d d))) (σ.set i (some v))) (p : P e σ) (r : Rep Hv d v)
    (h : Fin (tg.put d e) (fun e' => ∀ σ', P e' σ' → Q σ' H)) : tgG K tg v σ H Q := by
  cases tg with
  | n i => exact h _ (cl i (by simp [tgVars]) _ _ _ _ p r)
  | t is =>
    cases d with
    | tup ds =>
      obtain ⟨a, xs, e1, l, r⟩ := rep_tup.mp r
      exact ⟨a, xs, e1, .inl (.inl (vw.sub _ _ l)), by rw [← r.len]; exact setAll_len h, gs_put cl p r h⟩
    | _ => exact h.elim
end
theorem set_get {α : Type} {l : List α} {i j : Nat} {x y : α} (h : (l.set i x)[j]? = some y) : (i = j ∧ x = y ∧ i < l.length) ∨ (i ≠ j ∧ l[j]? = some y) := by
  rw [List.getElem?_set] at h
  split at h
  · split at h
    · exact .inl ⟨‹_›, Option.some.inj h, by omega⟩
    · cases h
  · exact .inr ⟨‹_›, h⟩
theorem R0.set {M : Nat → Bool} {e : Mi.Env} {σ : L2.St} {H Hv : Hp} (I : R0 M e σ H Hv) {i : Nat} {w : W} {v : V} (hm : M i = false) (r : RepW Hv w v) : R0 M (e.set i (some w)) (σ.set i (some v)) H Hv := by
  refine ⟨I.vw, by rw [List.length_set, List.length_set]; exact I.len, fun j w' h m => ?_, fun j w' h m => ?_⟩
  · rcases set_get h with ⟨rfl, h, l⟩ | ⟨n, h⟩
    · cases h
      exact ⟨v, by rw [List.getElem?_set_self (by rw [I.len]; exact l)], r⟩
    · obtain ⟨u, q, z⟩ := I.nob j w' h m
      exact ⟨u, by rw [List.getElem?_set_ne n]; exact q, z⟩
  · rcases set_get h with ⟨rfl, h, l⟩ | ⟨n, h⟩
    · rw [hm] at m; cases m
    · obtain ⟨u, q, z⟩ := I.own j w' h m
      exact ⟨u, by rw [List.getElem?_set_ne n]; exact q, z⟩
theorem R1.set {M : Nat → Bool} {H0 Hv0 : Hp} {e : Mi.Env} {σ : L2.St} {H Hv : Hp} (I : R1 M H0 Hv0 e σ H Hv) {i : Nat} {w : W} {v : V} (hm : M i = false) (r : RepW Hv w v) : R1 M H0 Hv0 (e.set i (some w)) (σ.set i (some v)) H Hv := by
  have nj : ∀ {j : Nat} {w' : W}, (e.set i (some w))[j]? = some (some w') → M j = true → i ≠ j ∧ e[j]? = some (some w') := fun {j w'} h m => by
    rcases set_get h with ⟨rfl, _, _⟩ | ⟨n, h⟩
    · rw [hm] at m; cases m
    · exact ⟨n, h⟩
  refine ⟨I.toR0.set hm r, I.gw, fun j w' a h m q => ?_, fun j k w1 w2 a b hjk h1 h2 m1 m2 q1 q2 => ?_⟩
  · obtain ⟨n, h⟩ := nj h m
    rw [List.getElem?_set_ne n] at q
    exact I.fresh j w' a h m q
  · obtain ⟨n1, h1⟩ := nj h1 m1
    obtain ⟨n2, h2⟩ := nj h2 m2
    rw [List.getElem?_set_ne n1] at q1
    rw [List.getElem?_set_ne n2] at q2
    exact I.sep j k w1 w2 a b hjk h1 h2 m1 m2 q1 q2
def pickM (ρ : List (Option Nat)) (M : Nat → Bool) : Nat → Bool := fun i => match ρ[i]? with
  | some (some j) => M j
  | _ => false
theorem pick_get {α : Type} {ρ : List (Option Nat)} {e : List (Option α)} {i : Nat} {w : α} (h : (ρ.map fun o => o.bind fun j => (e[j]?).join)[i]? = some (some w)) : ∃ j, ρ[i]? = some (some j) ∧ e[j]? = some (some w) := by
  rw [List.getElem?_map] at h
  cases hr : ρ[i]? with
  | none => rw [hr] at h; cases h
  | some o =>
    rw [hr] at h
    cases o with
    | none => cases h
    | some j =>
      refine ⟨j, rfl, ?_⟩
      have h : (e[j]?).join = some w := Option.some.inj h
      cases hq : e[j]? with
      | none => rw [hq] at h; cases h
      | some o' => rw [hq] at h; have h : o' = some w := h
                   rw [h]
theorem pick_of {α : Type} {ρ : List (Option Nat)} {e : List (Option α)} {i j : Nat} {w : α} (h1 : ρ[i]? = some (some j)) (h2 : e[j]? = some (some w)) : (ρ.map fun o => o.bind fun j => (e[j]?).join)[i]? = some (some w) := by
  rw [List.getElem?_map, h1]
  show some ((e[j]?).join) = _
  rw [h2]; rfl
theorem R0.pick {M : Nat → Bool} {e : Mi.Env} {σ : L2.St} {H Hv : Hp} (I : R0 M e σ H Hv) (ρ : List (Option Nat)) : R0 (pickM ρ M) (Mi.pickE ρ e) (L2.pick ρ σ) H Hv := by
  refine ⟨I.vw, by unfold Mi.pickE L2.pick; rw [List.length_map, List.length_map], fun i w h m => ?_, fun i w h m => ?_⟩
  · obtain ⟨j, h1, h2⟩ := pick_get h
    have m : M j = false := by unfold pickM at m; rw [h1] at m; exact m
    obtain ⟨v, q, z⟩ := I.nob j w h2 m
    exact ⟨v, pick_of h1 q, z⟩
  · obtain ⟨j, h1, h2⟩ := pick_get h
    have m : M j = true := by unfold pickM at m; rw [h1] at m; exact m
    obtain ⟨v, q, z⟩ := I.own j w h2 m
    exact ⟨v, pick_of h1 q, z⟩
theorem compD_fin {tg : Tg} {c : Mi.C} {a : Mi.E} {e : Mi.Env} {x : D} {r : List D} {k : List D → Prop} (h : Fin (Mi.compD tg c a e (x :: r)) k) :
    Fin (tg.put x e) fun e1 => Fin (c e1) fun b => if b = true then Fin (a e1) fun y => Fin (Mi.compD tg c a e r) fun ys => k (y :: ys) else Fin (Mi.compD tg c a e r) k := by
  refine (fin_bind.mp h).mono fun e1 h1 => (fin_bind.mp h1).mono fun b h2 => ?_
  cases b with
  | true => exact iteT ((fin_bind.mp (Mi.fin_t h2)).mono fun y h3 => (fin_bind.mp h3).mono fun ys h4 => h4)
  | false => exact iteF (Mi.fin_f h2)
theorem a_comp {M : Nat → Bool} {K : PySem.W.Frag} {ρ : List (Option Nat)} {wi : TI} {it : Mi.I} {tg : Tg} {tc : TT} {c : Mi.C} {te : TE} {a : Mi.E} (hi : AIc M wi it) (hm : ∀ i ∈ tgVars tg, pickM ρ M i = false) (hc : AT (pickM ρ M) tc c) (he : AE (pickM ρ M) qV te a) :
    AE M qN (tComp wi ρ (tgG K tg) tc te) (Mi.mComp ρ it tg c a) := fun e σ H Hv Q I h =>
  hi e σ H Hv _ I ((fin_bind.mp h).mono fun ds h1 J H1 Hv1 P g1 O p1 per => by
    obtain ⟨hz, h1⟩ := Mi.fin_guard h1
    have h1 := fin_bind.mp h1
    have I1 := I.grow g1
    refine ⟨fun i m acc H' => m = ds.length - i ∧ i ≤ ds.length ∧ ∃ Hv', Grow H1 Hv1 H' Hv' ∧ P H' Hv' ∧ acc.length ≤ i ∧ ∃ done, P2 (Rep Hv') done acc ∧ Fin (Mi.compD tg c a (Mi.pickE ρ e) (ds.drop i)) fun ys => ∀ v H2 Hv2, Grow H Hv H2 Hv2 → qN H H2 Hv2 (.d (.lst (done ++ ys))) v → Q v H2,
      ⟨ds.length, by simp, Nat.zero_le _, Hv1, .refl g1.vw, p1, Nat.le_refl _, [], .nil, by rw [List.drop_zero]; exact h1.mono fun ys z => z⟩, ?_⟩
    rintro i m acc H' ⟨rfl, hle, Hv', g, pp, l, done, pd, hf⟩
    by_cases hlt : i < ds.length
    · refine .inr ⟨O.go i H' Hv' pp g.vw hlt, by rw [sizeLine_eq]; omega, fun acc' H2 => ∃ Hv2, Grow H1 Hv1 H2 Hv2 ∧ P H2 Hv2 ∧ acc'.length ≤ i + 1 ∧ ∃ done, P2 (Rep Hv2) done acc' ∧ Fin (Mi.compD tg c a (Mi.pickE ρ e) (ds.drop (i + 1))) fun ys => ∀ v H3 Hv3, Grow H Hv H3 Hv3 → qN H H3 Hv3 (.d (.lst (done ++ ys))) v → Q v H3,
        fun acc' H2 z => ⟨ds.length - (i + 1), by omega, rfl, hlt, z⟩, fun x H2 y => ?_⟩
      obtain ⟨Hv2, d, g2, hd, rx⟩ := O.yld i H' Hv' x H2 pp g.vw hlt y
      have g12 := g.trans g2
      have hdr : ds.drop i = d :: ds.drop (i + 1) := by
        obtain ⟨hl, e1⟩ := List.getElem?_eq_some_iff.mp hd
        rw [List.drop_eq_getElem_cons hl, e1]
      rw [hdr] at hf
      have hf := compD_fin hf
      refine tg_put (P := fun e1 σ1 => R0 (pickM ρ M) e1 σ1 H2 Hv2) g2.vw (fun j hj e1 σ1 d1 v1 r1 z => r1.set (hm j hj) z) ((I1.grow g12).pick ρ) rx (hf.mono fun e1 hf1 σ1 r1 => ?_)
      refine hc e1 σ1 H2 Hv2 _ r1 (hf1.mono fun b hb H3 Hv3 g3 => ?_)
      cases b with
      | true =>
        refine iteT (he e1 σ1 H3 Hv3 _ (r1.grow g3) (Fin.mono (by simpa using hb) fun y hy v H4 Hv4 g4 ry => ?_))
        exact ⟨Hv4, g12.trans (g3.trans g4), per _ _ _ _ pp (g2.trans (g3.trans g4)), by rw [List.length_append, List.length_singleton]; omega, done ++ [y], (p2_same (g2.trans (g3.trans g4)).vis pd).append (.cons ry .nil), hy.mono fun ys z v H5 Hv5 g5 k => z v H5 Hv5 g5 (by rw [List.append_assoc] at k; exact k)⟩
      | false => exact iteF ⟨Hv3, g12.trans g3, per _ _ _ _ pp (g2.trans g3), by omega, done, p2_same (g2.trans g3).vis pd, by simpa using hb⟩
    · have hi : i = ds.length := by omega
      subst hi
      refine .inl ⟨O.stop H' Hv' pp g.vw, fun p hp => ?_⟩
      rw [List.drop_of_length_le (Nat.le_refl _)] at hf
      have g2 : Grow H' Hv' (upd H' p (.lst acc)) Hv' := .newH g.vw trivial hp
      refine hf _ _ _ (g1.trans (g.trans g2)) ⟨p, .lst acc, rfl, (g1.old.trans g.old).free hp, upd_same, vis_none g.vw hp, ?_⟩
      show P2 (Rep Hv') (done ++ []) acc
      rw [List.append_nil]; exact pd)
def OutOk (M : Nat → Bool) (κ : Kd) (H0 Hv0 : Hp) (D : Ends) (Hv : Hp) : Out → Prop
  | .nx e => ∀ σ H' Hv', R1 M H0 Hv0 e σ H' Hv' → Same Hv Hv' → D.nx σ H'
  | .rt w => ∀ v H' Hv', Grow H0 Hv0 H' Hv' → κ H0 H' Hv' w v → D.rt v H'
  | .bk e => ∀ σ H' Hv', R1 M H0 Hv0 e σ H' Hv' → Same Hv Hv' → D.bk σ H'
  | .ct e => ∀ σ H' Hv', R1 M H0 Hv0 e σ H' Hv' → Same Hv Hv' → D.ct σ H'
def AS (M : Nat → Bool) (κ : Kd) (t : TS) (m : Mi.S) : Prop := ∀ H0 Hv0 e σ H Hv D, R1 M H0 Hv0 e σ H Hv → Fin (m e) (OutOk M κ H0 Hv0 D Hv) → t D σ H
section
variable {M : Nat → Bool} {κ : Kd} {t u : TS} {m n : Mi.S} {te : TE} {a b : Mi.E} {w : Mi.EW}
theorem as_next : AS M κ tNext Mi.sNext := fun H0 Hv0 e σ H Hv D I h => h σ H Hv I (Same.refl _)
theorem as_never : AS M κ tNever Mi.sNever := fun H0 Hv0 e σ H Hv D I h => h
theorem as_seq (h1 : AS M κ t m) (h2 : AS M κ u n) : AS M κ (tSeq t u) (Mi.sSeq m n) := fun H0 Hv0 e σ H Hv D I h =>
  h1 H0 Hv0 e σ H Hv _ I ((fin_bind.mp h).mono fun o ho => by
    cases o with
    | nx e' => exact fun σ' H' Hv' I' s => h2 H0 Hv0 e' σ' H' Hv' D I' (Fin.mono ho fun o z => by
        cases o with
        | nx e2 => exact fun σ2 H2 Hv2 I2 s2 => z σ2 H2 Hv2 I2 (s.trans s2)
        | rt w => exact z
        | bk e2 => exact fun σ2 H2 Hv2 I2 s2 => z σ2 H2 Hv2 I2 (s.trans s2)
        | ct e2 => exact fun σ2 H2 Hv2 I2 s2 => z σ2 H2 Hv2 I2 (s.trans s2))
    | rt w => exact ho
    | bk e' => exact ho
    | ct e' => exact ho)
theorem as_drop (ha : AE M qP te a) : AS M κ (tDrop te) (Mi.sDrop a) := fun H0 Hv0 e σ H Hv D I h =>
  ha e σ H Hv _ I.toR0 ((fin_bind.mp h).mono fun d hd v H1 Hv1 g1 r => hd σ H1 Hv1 (I.grow g1) g1.vis)
theorem as_set (i : Nat) (hm : M i = false) (ha : AE M qV te a) : AS M κ (tAsg te (gName i)) (Mi.sSet i a) := fun H0 Hv0 e σ H Hv D I h =>
  ha e σ H Hv _ I.toR0 ((fin_bind.mp h).mono fun d hd v H1 Hv1 g1 r => hd _ H1 Hv1 ((I.grow g1).set hm r) g1.vis)
theorem as_ret (ha : AW M qV te w) : AS M qV (tRet te) (Mi.sRet w) := fun H0 Hv0 e σ H Hv D I h =>
  ha e σ H Hv _ I.toR0 ((fin_bind.mp h).mono fun d hd v H1 Hv1 g1 r => hd v H1 Hv1 (I.gw.trans g1) r)
theorem as_retN (ha : AW M qN te w) : AS M qN (tRet te) (Mi.sRet w) := fun H0 Hv0 e σ H Hv D I h =>
  ha e σ H Hv _ I.toR0 ((fin_bind.mp h).mono fun d hd v H1 Hv1 g1 r => hd v H1 Hv1 (I.gw.trans g1) (KM.mono (κ := qN) I.gw.old r))
theorem as_if {tt : TT} {c : Mi.C} (hc : AT M tt c) (h1 : AS M κ t m) (h2 : AS M κ u n) : AS M κ (tIfS tt t u) (Mi.sIf c m n) := fun H0 Hv0 e σ H Hv D I h =>
  hc e σ H Hv _ I.toR0 ((fin_bind.mp h).mono fun b hb H1 Hv1 g1 => by
    have up : ∀ o, OutOk M κ H0 Hv0 D Hv o → OutOk M κ H0 Hv0 D Hv1 o := fun o z => by
      cases o with
      | nx e2 => exact fun σ2 H2 Hv2 I2 s2 => z σ2 H2 Hv2 I2 (g1.vis.trans s2)
      | rt w => exact z
      | bk e2 => exact fun σ2 H2 Hv2 I2 s2 => z σ2 H2 Hv2 I2 (g1.vis.trans s2)
      | ct e2 => exact fun σ2 H2 Hv2 I2 s2 => z σ2 H2 Hv2 I2 (g1.vis.trans s2)
    cases b with
    | true => exact iteT (h1 H0 Hv0 e σ H1 Hv1 D (I.grow g1) (Fin.mono (Mi.fin_t hb) up))
    | false => exact iteF (h2 H0 Hv0 e σ H1 Hv1 D (I.grow g1) (Fin.mono (Mi.fin_f hb) up)))
theorem OutOk.up {H0 Hv0 Hv Hv1 : Hp} {D : Ends} (s : Same Hv Hv1) {o : Out} (z : OutOk M κ H0 Hv0 D Hv o) : OutOk M κ H0 Hv0 D Hv1 o := by
  cases o with
  | nx e2 => exact fun σ2 H2 Hv2 I2 s2 => z σ2 H2 Hv2 I2 (s.trans s2)
  | rt w => exact z
  | bk e2 => exact fun σ2 H2 Hv2 I2 s2 => z σ2 H2 Hv2 I2 (s.trans s2)
  | ct e2 => exact fun σ2 H2 Hv2 I2 s2 => z σ2 H2 Hv2 I2 (s.trans s2)
theorem as_for {K : PySem.W.Frag} {wi : TI} {it : Mi.I} {tg : Tg} (hi : AIf M wi it) (hm : ∀ i ∈ tgVars tg, M i = false) (hb : AS M κ t m) : AS M κ (tFor wi (tgG K tg) t) (Mi.sFor it tg m) := fun H0 Hv0 e σ H Hv D I h =>
  hi e σ H Hv _ I.toR0 ((fin_bind.mp h).mono fun ds h1 J H1 Hv1 P g1 O p1 per => by
    refine ⟨fun i k σ' H' => k = ds.length - i ∧ i ≤ ds.length ∧ ∃ e' Hv', R1 M H0 Hv0 e' σ' H' Hv' ∧ P H' Hv' ∧ Fin (Mi.forD tg m (ds.drop i) e') (OutOk M κ H0 Hv0 D Hv'),
      ⟨ds.length, by simp, Nat.zero_le _, e, Hv1, I.grow g1, p1, by rw [List.drop_zero]; exact h1.mono fun o z => z.up g1.vis⟩, ?_⟩
    rintro i k σ' H' ⟨rfl, hle, e', Hv', I', pp, hf⟩
    by_cases hlt : i < ds.length
    · refine .inr ⟨O.go i H' Hv' pp I'.vw hlt, fun σ2 H2 => ∃ e2 Hv2, R1 M H0 Hv0 e2 σ2 H2 Hv2 ∧ P H2 Hv2 ∧ Fin (Mi.forD tg m (ds.drop (i + 1)) e2) (OutOk M κ H0 Hv0 D Hv2),
        fun σ2 H2 z => ⟨ds.length - (i + 1), by omega, rfl, hlt, z⟩, fun x H2 y => ?_⟩
      obtain ⟨Hv2, d, g2, hd, rx⟩ := O.yld i H' Hv' x H2 pp I'.vw hlt y
      have I2 := I'.grow g2
      have hdr : ds.drop i = d :: ds.drop (i + 1) := by
        obtain ⟨hl, e1⟩ := List.getElem?_eq_some_iff.mp hd
        rw [List.drop_eq_getElem_cons hl, e1]
      rw [hdr] at hf
      refine tg_put (P := fun e1 σ1 => R1 M H0 Hv0 e1 σ1 H2 Hv2) g2.vw (fun j hj e1 σ1 d1 v1 r1 z => r1.set (hm j hj) z) I2 rx ((fin_bind.mp hf).mono fun e1 h1 σ1 I1 => ?_)
      refine hb H0 Hv0 e1 σ1 H2 Hv2 _ I1 ((fin_bind.mp h1).mono fun o ho => ?_)
      cases o with
      | nx e2 => exact fun σ2 H3 Hv3 I3 s3 => ⟨e2, Hv3, I3, per _ _ _ _ pp (g2.vis.trans s3) I3.vw, Fin.mono ho fun o z => z.up (g2.vis.trans s3)⟩
      | ct e2 => exact fun σ2 H3 Hv3 I3 s3 => ⟨e2, Hv3, I3, per _ _ _ _ pp (g2.vis.trans s3) I3.vw, Fin.mono ho fun o z => z.up (g2.vis.trans s3)⟩
      | bk e2 => exact fun σ2 H3 Hv3 I3 s3 => ho σ2 H3 Hv3 I3 (g2.vis.trans s3)
      | rt w => exact ho
    · have hi : i = ds.length := by omega
      subst hi
      refine .inl ⟨O.stop H' Hv' pp I'.vw, ?_⟩
      rw [List.drop_of_length_le (Nat.le_refl _)] at hf
      exact hf σ' H' Hv' I' (Same.refl _))
theorem as_while {tt : TT} {c : Mi.C} (k : Nat) (hc : AT M tt c) (hb : AS M κ t m) : AS M κ (tWhile tt t) (Mi.sWhile k c m) := fun H0 Hv0 e σ H Hv D I h => by
  refine ⟨fun j σ' H' => ∃ e' Hv', R1 M H0 Hv0 e' σ' H' Hv' ∧ Fin (Mi.whileD c m j e') (OutOk M κ H0 Hv0 D Hv'), ⟨k, e, Hv, I, h⟩, ?_⟩
  rintro j σ' H' ⟨e', Hv', I', hf⟩
  cases j with
  | zero => exact hf.elim
  | succ j =>
    refine hc e' σ' H' Hv' _ I'.toR0 ((fin_bind.mp hf).mono fun b hb' H1 Hv1 g1 => ?_)
    cases b with
    | false => exact iteF ((Mi.fin_now (Mi.fin_f hb')) σ' H1 Hv1 (I'.grow g1) g1.vis)
    | true =>
      refine iteT ⟨fun σ2 H2 => ∃ e2 Hv2, R1 M H0 Hv0 e2 σ2 H2 Hv2 ∧ Fin (Mi.whileD c m j e2) (OutOk M κ H0 Hv0 D Hv2), fun σ2 H2 z => ⟨j, Nat.lt_succ_self j, z⟩, ?_⟩
      refine hb H0 Hv0 e' σ' H1 Hv1 _ (I'.grow g1) ((fin_bind.mp (Mi.fin_t hb')).mono fun o ho => ?_)
      cases o with
      | nx e2 => exact fun σ2 H2 Hv2 I2 s2 => ⟨e2, Hv2, I2, Fin.mono ho fun o z => z.up (g1.vis.trans s2)⟩
      | ct e2 => exact fun σ2 H2 Hv2 I2 s2 => ⟨e2, Hv2, I2, Fin.mono ho fun o z => z.up (g1.vis.trans s2)⟩
      | bk e2 => exact fun σ2 H2 Hv2 I2 s2 => ho σ2 H2 Hv2 I2 (g1.vis.trans s2)
      | rt w => exact ho
end
end A
set_option Elab.async false
set_option linter.all false
set_option maxRecDepth 100000
set_option maxHeartbeats 4000000
namespace A
open PySem L2 PyProof.Rows
open Mi (D W Rs Fin fin_bind Out Tg)
variable [Tb : Tabs]
section
variable {M : Nat → Bool} {κ : Kd} {te : TE} {a b : Mi.E} {w : Mi.EW} {K : PySem.W.Frag}
theorem R1.write {H0 Hv0 : Hp} {e : Mi.Env} {σ : L2.St} {H Hv : Hp} (I : R1 M H0 Hv0 e σ H Hv) {i : Nat} {w w' : W} {p : Addr} {o : HO} (hm : M i = true) (he : e[i]? = some (some w)) (hs : σ[i]? = some (some (.ref p))) (c : CellIs Hv w' o) : R1 M H0 Hv0 (e.set i (some w')) σ (upd H p o) Hv := by
  have hp : ∃ o', H p = some o' ∧ Hv p = none ∧ Cell1 o' := by
    obtain ⟨v, q, a, o', e1, q1, n, c'⟩ := I.own i w he hm
    rw [hs] at q; cases q; cases e1
    exact ⟨o', q1, n, c'.cell1⟩
  obtain ⟨o', hp, hn, hcc⟩ := hp
  have h0 : H0 p = none := I.fresh i w p he hm hs
  have vw : Vw (upd H p o) Hv := by
    refine ⟨fun b u q => ?_, fun b xs q => ?_, fun b z u q => ?_, I.vw.cd.put hp hcc c.nt, I.vw.nv⟩
    · rw [upd_ne (ne_of_none q hn)]; exact I.vw.sub b u q
    · by_cases hb : b = p
      · subst hb; rw [upd_same] at q; cases q; exact c.cell.elim
      · rw [upd_ne hb] at q; exact I.vw.tup b xs q
    · by_cases hb : b = p
      · subst hb; rw [upd_same] at q; cases q; exact c.cell.elim
      · rw [upd_ne hb] at q; exact I.vw.frz b z u q
  have get : ∀ {j : Nat} {w2 : W}, (e.set i (some w'))[j]? = some (some w2) → (i = j ∧ w' = w2) ∨ (i ≠ j ∧ e[j]? = some (some w2)) := fun {j w2} h => by
    rcases set_get h with ⟨x, y, _⟩ | z
    · exact .inl ⟨x, Option.some.inj y⟩
    · exact .inr z
  have get' : ∀ {j : Nat} {w2 : W}, (e.set i (some w'))[j]? = some (some w2) → ∃ w3, e[j]? = some (some w3) := fun {j w2} h => by
    rcases get h with ⟨x, _⟩ | ⟨_, z⟩
    · subst x; exact ⟨w, he⟩
    · exact ⟨w2, z⟩
  refine ⟨⟨vw, by rw [List.length_set]; exact I.len, fun j w2 h m => ?_, fun j w2 h m => ?_⟩, ⟨I.gw.old.put h0 hp, I.gw.vis, vw, I.gw.hid⟩, fun j w2 x h m q => ?_, fun j k w1 w2 x y hjk h1 h2 m1 m2 q1 q2 => ?_⟩
  · rcases get h with ⟨rfl, _⟩ | ⟨_, z⟩
    · rw [hm] at m; cases m
    · exact I.nob j w2 z m
  · rcases get h with ⟨rfl, rfl⟩ | ⟨n, z⟩
    · exact ⟨.ref p, hs, p, o, rfl, upd_same, hn, c⟩
    · obtain ⟨v, q, x, u, e1, q1, n1, c1⟩ := I.own j w2 z m
      subst e1
      have := I.sep i j w w2 p x n he z hm m hs q
      exact ⟨.ref x, q, x, u, rfl, by rw [upd_ne (Ne.symm this)]; exact q1, n1, c1⟩
  · obtain ⟨w3, z⟩ := get' h
    exact I.fresh j w3 x z m q
  · obtain ⟨w3, z3⟩ := get' h1
    obtain ⟨w4, z4⟩ := get' h2
    exact I.sep j k w3 w4 x y hjk z3 z4 m1 m2 q1 q2
theorem R1.cell {H0 Hv0 : Hp} {e : Mi.Env} {σ : L2.St} {H Hv : Hp} (I : R1 M H0 Hv0 e σ H Hv) {i : Nat} {w : W} (hm : M i = true) (he : e[i]? = some (some w)) : ∃ p o, σ[i]? = some (some (.ref p)) ∧ H p = some o ∧ Hv p = none ∧ H0 p = none ∧ CellIs Hv w o := by
  obtain ⟨v, q, p, o, rfl, q1, n, c⟩ := I.own i w he hm
  exact ⟨p, o, q, q1, n, I.fresh i w p he hm q, c⟩
theorem getL_ok {e : Mi.Env} {i : Nat} {k : List D → Prop} (h : Fin (Mi.getL e i) k) : ∃ ds, e[i]? = some (some (.d (.lst ds))) ∧ k ds := by
  unfold Mi.getL at h
  split at h
  · exact ⟨_, ‹_›, h⟩
  · exact h.elim
theorem R1.list {H0 Hv0 : Hp} {e : Mi.Env} {σ : L2.St} {H Hv : Hp} (I : R1 M H0 Hv0 e σ H Hv) {i : Nat} {ds : List D} (hm : M i = true) (he : e[i]? = some (some (.d (.lst ds)))) : ∃ p xs, σ[i]? = some (some (.ref p)) ∧ H p = some (.lst xs) ∧ Hv p = none ∧ P2 (Rep Hv) ds xs := by
  obtain ⟨p, o, q, q1, n, _, c⟩ := I.cell hm he
  cases o with
  | lst xs => exact ⟨p, xs, q, q1, n, c⟩
  | _ => exact c.elim
theorem R1.name {H0 Hv0 : Hp} {e : Mi.Env} {σ : L2.St} {H Hv H1 Hv1 : Hp} (I : R1 M H0 Hv0 e σ H Hv) (g : Grow H Hv H1 Hv1) {i : Nat} {w : W} {v : V} (hm : M i = true) (k : qN H H1 Hv1 w v) : R1 M H0 Hv0 (e.set i (some w)) (σ.set i (some v)) H1 Hv1 := by
  obtain ⟨p, o, rfl, hf, hp, hn, c⟩ := k
  have I1 := I.grow g
  have other : ∀ {j : Nat} {w2 : W} {x : Addr}, e[j]? = some (some w2) → M j = true → σ[j]? = some (some (.ref x)) → x ≠ p := fun {j w2 x} h m q => by
    obtain ⟨p', o', q', q1, _⟩ := I.cell m h
    rw [q] at q'; cases q'
    exact ne_of_none q1 hf
  refine ⟨⟨I1.vw, by rw [List.length_set, List.length_set]; exact I.len, fun j w2 h m => ?_, fun j w2 h m => ?_⟩, I1.gw, fun j w2 x h m q => ?_, fun j k w1 w2 x y hjk h1 h2 m1 m2 q1 q2 => ?_⟩
  · rcases set_get h with ⟨rfl, _⟩ | ⟨n, z⟩
    · rw [hm] at m; cases m
    · obtain ⟨u, q, r⟩ := I1.nob j w2 z m
      exact ⟨u, by rw [List.getElem?_set_ne n]; exact q, r⟩
  · rcases set_get h with ⟨rfl, h, l⟩ | ⟨n, z⟩
    · cases h
      exact ⟨.ref p, by rw [List.getElem?_set_self (by rw [I.len]; exact l)], p, o, rfl, hp, hn, c⟩
    · obtain ⟨u, q, r⟩ := I1.own j w2 z m
      exact ⟨u, by rw [List.getElem?_set_ne n]; exact q, r⟩
  · rcases set_get h with ⟨rfl, h, l⟩ | ⟨n, z⟩
    · rw [List.getElem?_set_self (by rw [I.len]; exact l)] at q
      cases q
      exact I.gw.old.free hf
    · rw [List.getElem?_set_ne n] at q
      exact I.fresh j w2 x z m q
  · rcases set_get h1 with ⟨rfl, _, l⟩ | ⟨n, z⟩
    · rw [List.getElem?_set_self (by rw [I.len]; exact l)] at q1
      cases q1
      rcases set_get h2 with ⟨rfl, _, _⟩ | ⟨n2, z2⟩
      · exact absurd rfl hjk
      · rw [List.getElem?_set_ne n2] at q2
        exact Ne.symm (other z2 m2 q2)
    · rw [List.getElem?_set_ne n] at q1
      rcases set_get h2 with ⟨rfl, _, l⟩ | ⟨n2, z2⟩
      · rw [List.getElem?_set_self (by rw [I.len]; exact l)] at q2
        cases q2
        exact other z m1 q1
      · rw [List.getElem?_set_ne n2] at q2
        exact I.sep j k w1 w2 x y hjk z z2 m1 m2 q1 q2
theorem as_new (i : Nat) (hm : M i = true) (ha : AE M qN te a) : AS M κ (tAsg te (gName i)) (Mi.sSet i a) := fun H0 Hv0 e σ H Hv D I h =>
  ha e σ H Hv _ I.toR0 ((fin_bind.mp h).mono fun d hd v H1 Hv1 g1 r => hd _ H1 Hv1 (I.name g1 hm r) g1.vis)
theorem as_newW (i : Nat) (hm : M i = true) (ha : AW M qN te w) : AS M κ (tAsg te (gName i)) (Mi.sSetW i w) := fun H0 Hv0 e σ H Hv D I h =>
  ha e σ H Hv _ I.toR0 ((fin_bind.mp h).mono fun d hd v H1 Hv1 g1 r => hd _ H1 Hv1 (I.name g1 hm r) g1.vis)
theorem aw_dnewK : AW M qN tDNewK (fun _ => .ok (.dk [])) := fun e σ H Hv Q I h p hp =>
  h _ _ Hv (.newH I.vw trivial hp) ⟨p, .dK [], rfl, hp, upd_same, vis_none I.vw hp, .nil⟩
theorem as_append (i : Nat) (hm : M i = true) (ha : AE M qV te a) : AS M κ (tDrop (tBM K "list" rAppend (tVar i) (tCons te tNil))) (Mi.sAppend i a) := fun H0 Hv0 e σ H Hv D I h => by
  obtain ⟨d, hd, h⟩ := fin_ok (fin_bind.mp h)
  obtain ⟨ds, he, h⟩ := getL_ok (fin_bind.mp h)
  obtain ⟨hz, h⟩ := Mi.fin_guard h
  obtain ⟨p, xs, q, q1, n, c⟩ := I.list hm he
  refine ⟨.ref p, q, .inl ⟨rfl, xs, .inl (.inl q1)⟩, ha e σ H Hv _ I.toR0 (by
    rw [hd]
    intro v H1 Hv1 g1 r
    have I1 := I.grow g1
    refine ⟨p, xs, v, rfl, rfl, g1.old.at q1, by rw [← c.len, sizeLine_eq]; exact hz, ?_⟩
    exact h σ _ Hv1 (I1.write hm he q (show CellIs Hv1 (.d (.lst (ds ++ [d]))) (.lst (xs ++ [v])) from (p2_same g1.vis c).append (.cons r .nil))) g1.vis)⟩
theorem as_reverse (i : Nat) (hm : M i = true) : AS M κ (tDrop (tBM0 K "list" rReverse (tVar i))) (Mi.sReverse i) := fun H0 Hv0 e σ H Hv D I h => by
  obtain ⟨ds, he, h⟩ := getL_ok (fin_bind.mp h)
  obtain ⟨p, xs, q, q1, n, c⟩ := I.list hm he
  exact ⟨.ref p, q, .inl ⟨rfl, xs, .inl (.inl q1)⟩, p, xs, rfl, rfl, q1, h σ _ Hv (I.write hm he q (show CellIs Hv (.d (.lst ds.reverse)) (.lst xs.reverse) from c.rev)) (Same.refl _)⟩
theorem ofO_ok {α : Type} {o : Option α} {k : α → Prop} (h : Fin (Mi.ofO o) k) : ∃ x, o = some x ∧ k x := by
  cases o with
  | some x => exact ⟨x, rfl, h⟩
  | none => exact h.elim
theorem as_pop (x y : Nat) (hx : M x = false) (hy : M y = true) : AS M κ (tAsg (tBM0 K "list" rPop (tVar y)) (gName x)) (Mi.sPop x y) := fun H0 Hv0 e σ H Hv D I h => by
  obtain ⟨ds, he, h⟩ := getL_ok (fin_bind.mp h)
  obtain ⟨d, hd, h⟩ := ofO_ok (fin_bind.mp h)
  obtain ⟨p, xs, q, q1, n, c⟩ := I.list hy he
  rw [c.len] at hd
  obtain ⟨v, hv, r⟩ := c.getL hd
  exact ⟨.ref p, q, .inl ⟨rfl, xs, .inl (.inl q1)⟩, p, xs, v, rfl, rfl, q1, hv, h _ _ Hv ((I.write hy he q (show CellIs Hv (.d (.lst ds.dropLast)) (.lst xs.dropLast) from c.dropLast)).set hx r) (Same.refl _)⟩
theorem seqIx {n : Nat} {i : Int} {k : Nat} (h : Mi.ixN n i = some k) : seqIndex? i n = some k := by
  unfold Mi.ixN at h
  split at h
  · split at h
    · rw [seqIndex_of (by omega) (by omega)]; exact h
    · cases h
  · split at h
    · rw [seqIndex_neg (by omega) (by omega)]; exact h
    · cases h
theorem popAt_ok {ds : List D} {i : Int} {k : D × List D → Prop} (h : Fin (Mi.popAt ds i) k) : -(2 ^ 63) ≤ i ∧ i < 2 ^ 63 ∧ ∃ j d, Mi.ixN ds.length i = some j ∧ ds[j]? = some d ∧ k (d, ds.eraseIdx j) := by
  obtain ⟨⟨h1, h2⟩, h⟩ := Mi.fin_guard h
  obtain ⟨j, hj, h⟩ := ofO_ok (fin_bind.mp h)
  obtain ⟨d, hd, h⟩ := ofO_ok (fin_bind.mp h)
  exact ⟨h1, h2, j, d, hj, hd, h⟩
theorem as_appendPop (x y : Nat) (hxy : x ≠ y) (hx : M x = true) (hy : M y = true) (ha : AE M qP te a) : AS M κ (tDrop (tBM K "list" rAppend (tVar x) (tCons (tBM K "list" rPopAt (tVar y) (tCons te tNil)) tNil))) (Mi.sAppendPop x y a) := fun H0 Hv0 e σ H Hv D I h => by
  obtain ⟨z, hz, h⟩ := fin_ok (fin_bind.mp h)
  obtain ⟨i, rfl, h⟩ := asI_ok (fin_bind.mp h)
  obtain ⟨ds, he, h⟩ := getL_ok (fin_bind.mp h)
  obtain ⟨h1, h2, j, d, hj, hd, h⟩ := popAt_ok (fin_bind.mp h)
  obtain ⟨es, he2, h⟩ := getL_ok (fin_bind.mp h)
  obtain ⟨hsz, h⟩ := Mi.fin_guard h
  have he2' : e[x]? = some (some (.d (.lst es))) := by
    have he2 : (e.set y (some (.d (.lst (ds.eraseIdx j)))))[x]? = _ := he2
    rwa [List.getElem?_set_ne (Ne.symm hxy)] at he2
  obtain ⟨p, xs, q, q1, n, c⟩ := I.list hy he
  obtain ⟨p', xs', q', q1', n', c'⟩ := I.list hx he2'
  have hpp : p' ≠ p := I.sep x y _ _ p' p hxy he2' he hx hy q' q
  refine ⟨.ref p', q', .inl ⟨rfl, xs', .inl (.inl q1')⟩, .ref p, q, .inl ⟨rfl, xs, .inl (.inl q1)⟩, ha e σ H Hv _ I.toR0 (by
    rw [hz]
    intro v H1 Hv1 g1 r
    have I1 := I.grow g1
    cases RD.int r
    obtain ⟨u, hu, ru⟩ := c.getL hd
    rw [c.len] at hj
    refine ⟨p, xs, i, j, u, rfl, rfl, g1.old.at q1, h1, h2, seqIx hj, hu, ?_⟩
    have I2 := I1.write hy he q (show CellIs Hv1 (.d (.lst (ds.eraseIdx j))) (.lst (xs.eraseIdx j)) from (p2_same g1.vis c).erase j)
    refine ⟨p', xs', u, rfl, rfl, by rw [upd_ne hpp]; exact g1.old.at q1', by rw [← c'.len, sizeLine_eq]; exact hsz, ?_⟩
    exact h σ _ Hv1 (I2.write hx he2 q' (show CellIs Hv1 (.d (.lst (es ++ [d]))) (.lst (xs' ++ [u])) from (p2_same g1.vis c').append (.cons (rep_same g1.vis ru) .nil))) g1.vis)⟩
theorem as_retOwn (i : Nat) (hm : M i = true) : AS M qN (tRet (tVar i)) (Mi.sRet (Mi.wV i)) := fun H0 Hv0 e σ H Hv D I h => by
  obtain ⟨w, he, h⟩ := wV_ok (fin_bind.mp h)
  obtain ⟨p, o, q, q1, n, h0, c⟩ := I.cell hm he
  exact ⟨.ref p, q, h _ H Hv I.gw ⟨p, o, rfl, h0, q1, n, c⟩⟩
theorem R1.reveal {H0 Hv0 : Hp} {e : Mi.Env} {σ : L2.St} {H Hv : Hp} (I : R1 M H0 Hv0 e σ H Hv) {y : Nat} {w : W} (hy : M y = true) (he : e[y]? = some (some w)) : ∃ p Hv', σ[y]? = some (some (.ref p)) ∧ R1 M H0 Hv0 (e.set y none) σ H Hv' ∧ Same Hv Hv' ∧ RepW Hv' w (.ref p) := by
  obtain ⟨p, o, q, q1, n, h0, c⟩ := I.cell hy he
  obtain ⟨vw, s⟩ := I.vw.show q1 n c.nt
  have nj : ∀ {j : Nat} {w' : W}, (e.set y none)[j]? = some (some w') → y ≠ j ∧ e[j]? = some (some w') := fun {j w'} h => by
    rcases set_get h with ⟨_, h, _⟩ | z
    · cases h
    · exact z
  refine ⟨p, upd Hv p o, q, ⟨⟨vw, by rw [List.length_set]; exact I.len, fun j w' h m => ?_, fun j w' h m => ?_⟩, ⟨I.gw.old, I.gw.vis.trans s, vw, fun b u z1 z2 => ?_⟩, fun j w' x h m z => ?_, fun j k w1 w2 x z hjk h1 h2 m1 m2 z1 z2 => ?_⟩, s, repW_cell upd_same (c.same s)⟩
  · obtain ⟨_, h⟩ := nj h
    obtain ⟨v, z, r⟩ := I.nob j w' h m
    exact ⟨v, z, repW_same s r⟩
  · obtain ⟨hne, h⟩ := nj h
    obtain ⟨v, z, x, u, e1, q2, n2, c2⟩ := I.own j w' h m
    subst e1
    have := I.sep y j w w' p x hne he h hy m q z
    exact ⟨.ref x, z, x, u, rfl, q2, by rw [upd_ne (Ne.symm this)]; exact n2, c2.same s⟩
  · rw [upd_ne (ne_of_none z1 h0)]; exact I.gw.hid b u z1 z2
  · exact I.fresh j w' x (nj h).2 m z
  · exact I.sep j k w1 w2 x z hjk (nj h1).2 (nj h2).2 m1 m2 z1 z2
theorem kvs_val {κ' : Type} [DecidableEq κ'] {H : Hp} {k : κ'} {kvs : List (κ' × D)} {kv : List (κ' × V)} (h : KVs H kvs kv) : match Mi.valK kvs k with
    | some d => ∃ v, valV kv k = some v ∧ Rep H d v
    | none => valV kv k = none := by
  unfold Mi.valK valV
  induction h with
  | nil => rfl
  | @cons p q l m hpq t ih =>
    rw [List.find?_cons, List.find?_cons, hpq.1]
    by_cases hk : q.1 = k
    · rw [decide_eq_true hk]
      exact ⟨q.2, rfl, hpq.2⟩
    · rw [decide_eq_false hk]
      exact ih
theorem kvs_put {κ' : Type} [DecidableEq κ'] {H : Hp} {k : κ'} {d : D} {v : V} (r : Rep H d v) {kvs : List (κ' × D)} {kv : List (κ' × V)} (h : KVs H kvs kv) : KVs H (Mi.putK k d kvs) (L2.putK kv k v) := by
  have e : (kvs.any fun x => decide (x.1 = k)) = (kv.any fun x => decide (x.1 = k)) := by
    induction h with
    | nil => rfl
    | @cons p q l m hpq t ih => rw [List.any_cons, List.any_cons, ih, hpq.1]
  unfold Mi.putK L2.putK
  rw [e]
  split
  · rename_i hh
    clear hh e
    induction h with
    | nil => exact .nil
    | @cons p q l m hpq t ih =>
      rw [List.map_cons, List.map_cons]
      refine .cons ?_ ih
      · by_cases hk : q.1 = k
        · rw [if_pos hk, if_pos (hpq.1.trans hk)]; exact ⟨hpq.1, r⟩
        · rw [if_neg hk, if_neg (fun z => hk (hpq.1.symm.trans z))]; exact hpq
  · exact P2.append h (.cons ⟨rfl, r⟩ .nil)
end
end A
set_option Elab.async false
set_option linter.all false
set_option maxRecDepth 100000
set_option maxHeartbeats 4000000
namespace A
open PySem L2 PyProof.Rows
open Mi (D W Rs Fin fin_bind Out Tg)
variable [Tb : Tabs]
section
variable {X : Cx} {K : PySem.W.Frag}
def rStrAdd : R2 := fun x y H Q => ∃ i j, x = .str i ∧ y = .str j ∧ i.length + j.length ≤ sizeLine ∧ Q (.str (i ++ j)) H
theorem lstL {pins : List (Addr × Obj)} {σ : L2.St} {H : Hp} {s : Shared} {a : Addr} {xs : List V} (I : Inv X pins σ H s) (h : Lst H a xs) : ∃ (its : List Value) (n : Nat), Vals xs its ∧ xs.length ≤ sizeLine ∧ s.heap.get? a = some { cls := .type "list", data := .seq its.toArray n } := by
  rcases h with h | ⟨o, h⟩
  · obtain ⟨z, its, n, r, e⟩ := I.hok a _ h
    exact ⟨its, n, r, z, e⟩
  · obtain ⟨_, z, its, n, r, e⟩ := I.hok a _ h
    exact ⟨its, n, r, z, e⟩
def rCatS : R2 := fun x y H Q => ∃ l b xs zs, x = .ref l ∧ y = .ref b ∧ Lst H l xs ∧ Lst H b zs ∧ xs.length + zs.length ≤ sizeLine ∧ ∀ p, H p = none → Q (.ref p) (upd H p (.lst (xs ++ zs)))
theorem op_catS : OpR X (binaryOp .Add) rCatS := by
  intro pins s σ H x y v u Q I rx ry h
  obtain ⟨l, b, xs, zs, rfl, rfl, hH, hB, hz, q⟩ := h
  cases rx
  cases ry
  obtain ⟨its, n, r, z, e⟩ := lstL I hH
  obtain ⟨its2, n2, r2, z2, e2⟩ := lstL I hB
  have hl := r.length
  have hl2 := r2.length
  refine PySem.P.add_list e e2 ?_ (by rw [List.size_toArray, List.size_toArray]; omega)
  have ea : its.toArray ++ its2.toArray = (its ++ its2).toArray := by simp
  rw [ea]
  exact ⟨.ref _, _, I.lnew (t' := s.toks) (r.append r2) (by rw [List.length_append]; omega), rfl, q _ I.fresh⟩
def rAddU : R2 := fun x y H Q => rI0 (fun i j => .int (i + j)) x y H Q ∨ rStrAdd x y H Q ∨ rCatS x y H Q
theorem op_addU : OpR X (binaryOp .Add) rAddU := op_add.or (OpR.or op_add_str op_catS)
theorem new_kN {H Hv : Hp} (vw : Vw H Hv) {ds : List D} {xs : List V} (r : P2 (Rep Hv) ds xs) {p : Addr} (hp : H p = none) : Grow H Hv (upd H p (.lst xs)) Hv ∧ qN H (upd H p (.lst xs)) Hv (.d (.lst ds)) (.ref p) :=
  ⟨.newH vw trivial hp, p, .lst xs, rfl, hp, upd_same, vis_none vw hp, r⟩
theorem new_kV {H Hv : Hp} (vw : Vw H Hv) {ds : List D} {xs : List V} (r : P2 (Rep Hv) ds xs) {p : Addr} (hp : H p = none) : Grow H Hv (upd H p (.lst xs)) (upd Hv p (.lst xs)) ∧ qV H (upd H p (.lst xs)) (upd Hv p (.lst xs)) (.d (.lst ds)) (.ref p) := by
  have g : Grow H Hv (upd H p (.lst xs)) (upd Hv p (.lst xs)) := .new vw hp
  exact ⟨g, rep_lst.mpr ⟨p, xs, rfl, .inl upd_same, p2_same g.vis r⟩⟩
theorem new_kT {H Hv : Hp} (vw : Vw H Hv) {ds : List D} {xs : List V} (r : P2 (Rep Hv) ds xs) {p : Addr} (hp : H p = none) : Grow H Hv (upd H p (.tup xs)) (upd Hv p (.tup xs)) ∧ qV H (upd H p (.tup xs)) (upd Hv p (.tup xs)) (.d (.tup ds)) (.ref p) := by
  have g : Grow H Hv (upd H p (.tup xs)) (upd Hv p (.tup xs)) := .new vw hp
  exact ⟨g, rep_tup.mpr ⟨p, xs, rfl, upd_same, p2_same g.vis r⟩⟩
theorem b_add : B2 qV rAddU Mi.dAdd := fun x y v u H Hv Q vw rx ry h => by
  cases x with
  | int i => cases y with
    | int j => cases RD.int rx; cases RD.int ry; exact .inl ⟨i, j, rfl, rfl, h _ H Hv (.refl vw) qv_int⟩
    | _ => exact h.elim
  | str i => cases y with
    | str j =>
      cases RD.str rx; cases RD.str ry
      obtain ⟨hz, h⟩ := Mi.fin_guard h
      exact .inr (.inl ⟨i, j, rfl, rfl, by rw [sizeLine_eq]; exact hz, h _ H Hv (.refl vw) qv_str⟩)
    | _ => exact h.elim
  | lst a => cases y with
    | lst b =>
      obtain ⟨hz, h⟩ := Mi.fin_guard h
      obtain ⟨p, xs, rfl, l1, r1⟩ := RD.lst vw rx
      obtain ⟨q, ys, rfl, l2, r2⟩ := RD.lst vw ry
      refine .inr (.inr ⟨p, q, xs, ys, rfl, rfl, l1, l2, by rw [← r1.len, ← r2.len, sizeLine_eq]; exact hz, fun a ha => ?_⟩)
      obtain ⟨g, k⟩ := new_kV vw (r1.append r2) ha
      exact h _ _ _ g k
    | _ => exact h.elim
  | _ => cases y <;> exact h.elim
theorem b_sub : B2 qV (rI0 fun i j => .int (i - j)) Mi.dSub := fun x y v u H Hv Q vw rx ry h => by
  cases x with
  | int i => cases y with
    | int j => cases RD.int rx; cases RD.int ry; exact ⟨i, j, rfl, rfl, h _ H Hv (.refl vw) qv_int⟩
    | _ => exact h.elim
  | _ => cases y <;> exact h.elim
theorem b_mul : B2 qV (rI CMul fun i j => .int (i * j)) Mi.dMulI := fun x y v u H Hv Q vw rx ry h => by
  cases x with
  | int i => cases y with
    | int j => cases RD.int rx; cases RD.int ry; obtain ⟨hz, h⟩ := Mi.fin_guard h; exact ⟨i, j, rfl, rfl, hz, h _ H Hv (.refl vw) qv_int⟩
    | _ => exact h.elim
  | _ => cases y <;> exact h.elim
theorem b_div : B2 qV (rI CDivB fun i j => .int (i / j)) Mi.dDiv := fun x y v u H Hv Q vw rx ry h => by
  cases x with
  | int i => cases y with
    | int j => cases RD.int rx; cases RD.int ry; obtain ⟨hz, h⟩ := Mi.fin_guard h; exact ⟨i, j, rfl, rfl, hz, h _ H Hv (.refl vw) qv_int⟩
    | _ => exact h.elim
  | _ => cases y <;> exact h.elim
theorem b_mod : B2 qV (rI (fun _ j => 0 < j) fun i j => .int (i % j)) Mi.dMod := fun x y v u H Hv Q vw rx ry h => by
  cases x with
  | int i => cases y with
    | int j => cases RD.int rx; cases RD.int ry; obtain ⟨hz, h⟩ := Mi.fin_guard h; exact ⟨i, j, rfl, rfl, hz, h _ H Hv (.refl vw) qv_int⟩
    | _ => exact h.elim
  | _ => cases y <;> exact h.elim
theorem b_neg : B1 qV (rU fun i => .int (-i)) Mi.dNeg := fun x v H Hv Q vw rx h => by
  cases x with
  | int i => cases RD.int rx; exact ⟨i, rfl, h _ H Hv (.refl vw) qv_int⟩
  | _ => exact h.elim
def rLtU : R2 := fun x y H Q => rI0 (fun i j => .bl (decide (i < j))) x y H Q ∨ ∃ i j, x = .str i ∧ y = .str j ∧ Q (.bl (decide (i.cps.toList < j.cps.toList))) H
theorem op_ltU : OpR X (compareOp .Lt) rLtU := op_lt.or op_lt_str
def rGtU : R2 := fun x y H Q => rI0 (fun i j => .bl (decide (j < i))) x y H Q ∨ ∃ i j, x = .str i ∧ y = .str j ∧ Q (.bl (decide (j.cps.toList < i.cps.toList))) H
theorem op_gtU : OpR X (compareOp .Gt) rGtU := op_gt.or op_gt_str
theorem b_lt : B2 qV rLtU Mi.dLt := fun x y v u H Hv Q vw rx ry h => by
  cases x with
  | int i => cases y with
    | int j => cases RD.int rx; cases RD.int ry; exact .inl ⟨i, j, rfl, rfl, h _ H Hv (.refl vw) qv_bl⟩
    | _ => exact h.elim
  | str i => cases y with
    | str j => cases RD.str rx; cases RD.str ry; exact .inr ⟨i, j, rfl, rfl, h _ H Hv (.refl vw) qv_bl⟩
    | _ => exact h.elim
  | _ => cases y <;> exact h.elim
theorem b_gt : B2 qV rGtU Mi.dGt := fun x y v u H Hv Q vw rx ry h => by
  cases x with
  | int i => cases y with
    | int j => cases RD.int rx; cases RD.int ry; exact .inl ⟨i, j, rfl, rfl, h _ H Hv (.refl vw) qv_bl⟩
    | _ => exact h.elim
  | str i => cases y with
    | str j => cases RD.str rx; cases RD.str ry; exact .inr ⟨i, j, rfl, rfl, h _ H Hv (.refl vw) qv_bl⟩
    | _ => exact h.elim
  | _ => cases y <;> exact h.elim
def rEqD (K : PySem.W.Frag) (neg : Bool) : R2 := fun x y H Q => ∃ d e, L2.Rep K H d x ∧ L2.Rep K H e y ∧ d.dep ≤ 16 ∧ Q (.bl (if neg then !Mi.pyEq d e else Mi.pyEq d e)) H
theorem b_eq : B2 qV (rEqD K false) Mi.dEq := fun x y v u H Hv Q vw rx ry h => by
  obtain ⟨hz, h⟩ := Mi.fin_guard h
  exact ⟨x, y, rep_up K (RD.full vw rx), rep_up K (RD.full vw ry), hz, h _ H Hv (.refl vw) qv_bl⟩
theorem b_ne : B2 qV (rEqD K true) Mi.dNe := fun x y v u H Hv Q vw rx ry h => by
  obtain ⟨hz, h⟩ := Mi.fin_guard h
  exact ⟨x, y, rep_up K (RD.full vw rx), rep_up K (RD.full vw ry), hz, h _ H Hv (.refl vw) qv_bl⟩
def rInU (K : PySem.W.Frag) : R2 := fun x y H Q => rInD K false x y H Q ∨ rInS false x y H Q
theorem op_inU (hu : X.A.units + 64 < cLine) : OpR X (compareOp .In) (rInU X.K) := (op_inD hu).or op_in1
theorem p2_up {H : Hp} {ds : List D} {xs : List V} (h : P2 (Rep H) ds xs) : L2.Reps K H ds xs := reps_up K (reps_iff.mpr h)
theorem b_in : B2 qV (rInU K) Mi.dIn := fun x y v u H Hv Q vw rx ry h => by
  cases y with
  | lst ds =>
    obtain ⟨hz, h⟩ := Mi.fin_guard h
    obtain ⟨p, xs, rfl, l1, r1⟩ := RD.lst vw ry
    exact .inl ⟨p, xs, x, ds, rfl, .inl l1.sq, rep_up K (RD.full vw rx), p2_up (p2_same vw.sub r1), hz, h _ H Hv (.refl vw) qv_bl⟩
  | tup ds =>
    obtain ⟨hz, h⟩ := Mi.fin_guard h
    obtain ⟨p, xs, rfl, l1, _, r1⟩ := RD.tup vw ry
    exact .inl ⟨p, xs, x, ds, rfl, .inr (.inl (.inl l1)), rep_up K (RD.full vw rx), p2_up (p2_same vw.sub r1), hz, h _ H Hv (.refl vw) qv_bl⟩
  | str z => cases x with
    | str c =>
      obtain ⟨hz, h⟩ := Mi.fin_guard h
      cases RD.str rx; cases RD.str ry
      obtain ⟨⟨l⟩⟩ := c
      match l, hz with
      | [c], _ => exact .inr ⟨c, z, rfl, rfl, h _ H Hv (.refl vw) qv_bl⟩
    | _ => exact h.elim
  | _ => exact h.elim
theorem b_notin : B2 qV (rInD K true) Mi.dNotIn := fun x y v u H Hv Q vw rx ry h => by
  cases y with
  | lst ds =>
    obtain ⟨hz, h⟩ := Mi.fin_guard h
    obtain ⟨p, xs, rfl, l1, r1⟩ := RD.lst vw ry
    exact ⟨p, xs, x, ds, rfl, .inl l1.sq, rep_up K (RD.full vw rx), p2_up (p2_same vw.sub r1), hz, h _ H Hv (.refl vw) qv_bl⟩
  | tup ds =>
    obtain ⟨hz, h⟩ := Mi.fin_guard h
    obtain ⟨p, xs, rfl, l1, _, r1⟩ := RD.tup vw ry
    exact ⟨p, xs, x, ds, rfl, .inr (.inl (.inl l1)), rep_up K (RD.full vw rx), p2_up (p2_same vw.sub r1), hz, h _ H Hv (.refl vw) qv_bl⟩
  | _ => exact h.elim
theorem atI_eq {α : Type} (xs : List α) (i : Int) : Mi.atI xs i = L2.atI xs i := rfl
theorem at_p2 {α β : Type} {F : α → β → Prop} {l : List α} {m : List β} (h : P2 F l m) {i : Int} {a : α} (e : Mi.atI l i = some a) : ∃ b, L2.atI m i = some b ∧ F a b := by
  unfold Mi.atI at e
  cases hj : Mi.ixN l.length i with
  | none => rw [hj] at e; cases e
  | some j =>
    rw [hj] at e
    have e : l[j]? = some a := e
    obtain ⟨b, hb, r⟩ := h.getL e
    refine ⟨b, ?_, r⟩
    rw [← atI_eq]
    unfold Mi.atI
    rw [← h.len, hj]; exact hb
theorem b_ix : B2 qV (rIx K) Mi.dIx := fun x y v u H Hv Q vw rx ry h => by
  cases y with
  | int i =>
    cases RD.int ry
    cases x with
    | lst ds =>
      obtain ⟨d, e, h⟩ := ofO_ok h
      obtain ⟨p, xs, rfl, l1, r1⟩ := RD.lst vw rx
      obtain ⟨z, ez, rz⟩ := at_p2 r1 e
      exact .inl ⟨p, xs, i, z, rfl, rfl, l1.sq, ez, h z H Hv (.refl vw) rz⟩
    | tup ds =>
      obtain ⟨d, e, h⟩ := ofO_ok h
      obtain ⟨p, xs, rfl, l1, _, r1⟩ := RD.tup vw rx
      obtain ⟨z, ez, rz⟩ := at_p2 r1 e
      exact .inr (.inl ⟨p, xs, i, z, rfl, rfl, .inl (.inl l1), ez, h z H Hv (.refl vw) rz⟩)
    | str z =>
      cases RD.str rx
      obtain ⟨hz, h⟩ := Mi.fin_guard h
      obtain ⟨c, e, h⟩ := ofO_ok (fin_bind.mp h)
      exact .inr (.inr ⟨z, i, c, rfl, rfl, by rw [sizeLine_eq]; exact hz, e, h _ H Hv (.refl vw) qv_str⟩)
    | _ => exact h.elim
  | _ => cases x <;> exact h.elim
theorem cut_p2 {F : D → V → Prop} {l : List D} {m : List V} (h : P2 F l m) (lo hi : Option Int) : P2 F (Mi.cutL l lo hi) (L2.cutV m lo hi) := by
  unfold Mi.cutL L2.cutV
  rw [h.len]
  exact (h.drop _).take _
def rSlU (K : PySem.W.Frag) : V → Option Int → Option Int → Hp → VK → Prop := fun x lo hi H Q => rSlL K x lo hi H Q ∨ rSlS x lo hi H Q
theorem sl_U : SlR X (rSlU X.K) := sl_list.or sl_str
theorem cutS_eq (z : Str) (lo hi : Option Int) : cutS z lo hi = Mi.cutStr z lo hi := by
  unfold cutS Mi.cutStr Mi.cutL
  have : z.cps.toList.length = z.length := by simp [Str.length]
  rw [this]; rfl
theorem b_slV : BS qV (rSlU K) Mi.dSl := fun x lo hi v H Hv Q vw rx h => by
  cases x with
  | lst ds =>
    obtain ⟨p, xs, rfl, l1, r1⟩ := RD.lst vw rx
    refine .inl ⟨p, xs, rfl, l1.sq, fun a ha => ?_⟩
    obtain ⟨g, k⟩ := new_kV vw (cut_p2 r1 lo hi) ha
    exact h _ _ _ g k
  | str z =>
    cases RD.str rx
    obtain ⟨hz, h⟩ := Mi.fin_guard h
    exact .inr ⟨z, rfl, by rw [sizeLine_eq]; exact hz, h _ H Hv (.refl vw) (by rw [cutS_eq]; exact qv_str)⟩
  | _ => exact h.elim
theorem p2_one {F : D → V → Prop} {d : D} {vs : List V} (h : P2 F [d] vs) : ∃ v, vs = [v] ∧ F d v := by
  cases h with
  | cons r t => cases t; exact ⟨_, rfl, r⟩
theorem p2_two {F : D → V → Prop} {d e : D} {vs : List V} (h : P2 F [d, e] vs) : ∃ v u, vs = [v, u] ∧ F d v ∧ F e u := by
  cases h with
  | cons r t => cases t with
    | cons r' t => cases t; exact ⟨_, _, rfl, r, r'⟩
def rLen (K : PySem.W.Frag) : List V → Hp → VK → Prop := fun xs H Q => ∃ x n, xs = [x] ∧ LenV K x H n ∧ Q (.int n) H
theorem call_lenU : CallR X (.builtin "len") (rLen X.K) := call_len
theorem b_len : BN qV (rLen K) Mi.bLen := fun ds vs H Hv Q vw r h => by
  match ds, r, h with
  | [.lst ds], r, h =>
    obtain ⟨v, ev, rr⟩ := p2_one r
    subst ev
    replace r := rr
    obtain ⟨p, xs, rfl, l1, r1⟩ := RD.lst vw r
    refine ⟨_, xs.length, rfl, .inl ⟨xs, l1.sq, rfl⟩, ?_⟩
    rw [← r1.len]
    exact h _ H Hv (.refl vw) qv_int
  | [.tup ds], r, h =>
    obtain ⟨v, ev, rr⟩ := p2_one r
    subst ev
    replace r := rr
    obtain ⟨p, xs, rfl, l1, _, r1⟩ := RD.tup vw r
    refine ⟨_, xs.length, rfl, .inr ⟨xs, .inl (.inl l1), rfl⟩, ?_⟩
    rw [← r1.len]
    exact h _ H Hv (.refl vw) qv_int
  | [.str z], r, h =>
    obtain ⟨v, ev, rr⟩ := p2_one r
    subst ev
    replace r := rr
    cases RD.str r
    obtain ⟨hz, h⟩ := Mi.fin_guard h
    exact ⟨_, z.length, rfl, ⟨by rw [sizeLine_eq]; exact hz, rfl⟩, h _ H Hv (.refl vw) qv_int⟩
def rMax : List V → Hp → VK → Prop := fun xs H Q => ∃ i j z, xs = [.int i, .int j] ∧ max i j = z ∧ Q (.int z) H
def rMin : List V → Hp → VK → Prop := fun xs H Q => ∃ i j z, xs = [.int i, .int j] ∧ min i j = z ∧ Q (.int z) H
theorem call_maxU (hc : X.calm = true) : CallR X (.builtin "max") rMax := callE_max2 hc
theorem call_minU (hc : X.calm = true) : CallR X (.builtin "min") rMin := callE_min2 hc
theorem b_max : BN qV rMax Mi.bMax := fun ds vs H Hv Q vw r h => by
  match ds, r, h with
  | [.int i, .int j], r, h =>
    obtain ⟨v, u, ev, rr, r'⟩ := p2_two r
    subst ev
    replace r := rr
    cases RD.int r; cases RD.int r'
    exact ⟨i, j, _, rfl, rfl, h _ H Hv (.refl vw) qv_int⟩
theorem b_min : BN qV rMin Mi.bMin := fun ds vs H Hv Q vw r h => by
  match ds, r, h with
  | [.int i, .int j], r, h =>
    obtain ⟨v, u, ev, rr, r'⟩ := p2_two r
    subst ev
    replace r := rr
    cases RD.int r; cases RD.int r'
    exact ⟨i, j, _, rfl, rfl, h _ H Hv (.refl vw) qv_int⟩
def rList (K : PySem.W.Frag) : List V → Hp → VK → Prop := fun xs H Q => ∃ p ys, xs = [.ref p] ∧ (SqL K H p ys ∨ SqT K H p ys) ∧ ∀ l, H l = none → Q (.ref l) (upd H l (.lst ys))
theorem call_listU : CallR X (.type "list") (rList X.K) := call_list_of
theorem b_list : BN qN (rList K) Mi.bList := fun ds vs H Hv Q vw r h => by
  match ds, r, h with
  | [.lst ds], r, h =>
    obtain ⟨v, ev, rr⟩ := p2_one r
    subst ev
    replace r := rr
    obtain ⟨p, xs, rfl, l1, r1⟩ := RD.lst vw r
    refine ⟨p, xs, rfl, .inl l1.sq, fun a ha => ?_⟩
    obtain ⟨g, k⟩ := new_kN vw r1 ha
    exact h _ _ _ g k
  | [.tup ds], r, h =>
    obtain ⟨v, ev, rr⟩ := p2_one r
    subst ev
    replace r := rr
    obtain ⟨p, xs, rfl, l1, _, r1⟩ := RD.tup vw r
    refine ⟨p, xs, rfl, .inr (.inl (.inl l1)), fun a ha => ?_⟩
    obtain ⟨g, k⟩ := new_kN vw r1 ha
    exact h _ _ _ g k
def rTuple (K : PySem.W.Frag) : List V → Hp → VK → Prop := fun xs H Q => ∃ p ys, xs = [.ref p] ∧ ((SqL K H p ys ∧ ∀ l, H l = none → Q (.ref l) (upd H l (.tup ys))) ∨ (SqT K H p ys ∧ Q (.ref p) H))
theorem call_tupleU : CallR X (.type "tuple") (rTuple X.K) := call_tuple_of
theorem b_tuple : BN qV (rTuple K) Mi.bTuple := fun ds vs H Hv Q vw r h => by
  match ds, r, h with
  | [.lst ds], r, h =>
    obtain ⟨v, ev, rr⟩ := p2_one r
    subst ev
    replace r := rr
    obtain ⟨p, xs, rfl, l1, r1⟩ := RD.lst vw r
    refine ⟨p, xs, rfl, .inl ⟨l1.sq, fun a ha => ?_⟩⟩
    obtain ⟨g, k⟩ := new_kT vw r1 ha
    exact h _ _ _ g k
  | [.tup ds], r, h =>
    obtain ⟨v, ev, rr⟩ := p2_one r
    subst ev
    replace r := rr
    obtain ⟨p, xs, rfl, l1, l2, r1⟩ := RD.tup vw r
    exact ⟨p, xs, rfl, .inr ⟨.inl (.inl l1), h _ H Hv (.refl vw) (rep_tup.mpr ⟨p, xs, rfl, l2, r1⟩)⟩⟩
end
end A
set_option Elab.async false
set_option linter.all false
set_option maxRecDepth 100000
set_option maxHeartbeats 4000000
namespace A
open PySem L2 PyProof.Rows
open Mi (D W Rs Fin fin_bind Out Tg)
variable [Tb : Tabs]
section
variable {X : Cx} {pins : List (Addr × Obj)} {σ : L2.St} {H : Hp} {s : Shared}
open SeqAt in
theorem rc_flat : ∀ {d e : D} {A : Around} {x y : V} {u u' : Value}, d.flat = true → e.flat = true → L2.Rep X.K H d x → L2.Rep X.K H e y → RelV x u → RelV y u' → RcAt A s u u' (Mi.pyEq d e) ∧ RcNeAt A s u u' (!Mi.pyEq d e) := by
  intro d e A x y u u' h1 h2 r1 r2 q1 q2
  cases d with
  | non =>
    rw [L2.Rep] at r1; subst r1; cases q1
    cases e with
    | non => rw [L2.Rep] at r2; subst r2; cases q2; exact ⟨RcAt.none_none, RcNeAt.none_none⟩
    | bl b => rw [L2.Rep] at r2; subst r2; cases q2; exact ⟨RcAt.none_bool b, RcNeAt.none_bool b⟩
    | int b => rw [L2.Rep] at r2; subst r2; obtain ⟨t, rfl⟩ := q2; exact ⟨RcAt.none_int b t, RcNeAt.none_int b t⟩
    | str b => rw [L2.Rep] at r2; subst r2; obtain ⟨t, rfl⟩ := q2; exact ⟨RcAt.none_str b t, RcNeAt.none_str b t⟩
    | _ => cases h2
  | bl a =>
    rw [L2.Rep] at r1; subst r1; cases q1
    cases e with
    | non => rw [L2.Rep] at r2; subst r2; cases q2; exact ⟨RcAt.bool_none a, RcNeAt.bool_none a⟩
    | bl b => rw [L2.Rep] at r2; subst r2; cases q2; rw [Mi.pyEq]; exact ⟨RcAt.bool_bool a b, RcNeAt.bool_bool a b⟩
    | int b => rw [L2.Rep] at r2; subst r2; obtain ⟨t, rfl⟩ := q2; rw [Mi.pyEq]; exact ⟨RcAt.bool_int a b t, RcNeAt.bool_int a b t⟩
    | str b => rw [L2.Rep] at r2; subst r2; obtain ⟨t, rfl⟩ := q2; exact ⟨RcAt.bool_str a b t, RcNeAt.bool_str a b t⟩
    | _ => cases h2
  | int a =>
    rw [L2.Rep] at r1; subst r1; obtain ⟨t1, rfl⟩ := q1
    cases e with
    | non => rw [L2.Rep] at r2; subst r2; cases q2; exact ⟨RcAt.int_none a t1, RcNeAt.int_none a t1⟩
    | bl b => rw [L2.Rep] at r2; subst r2; cases q2; rw [Mi.pyEq]; exact ⟨RcAt.int_bool a t1 b, RcNeAt.int_bool a t1 b⟩
    | int b => rw [L2.Rep] at r2; subst r2; obtain ⟨t, rfl⟩ := q2; rw [Mi.pyEq]; exact ⟨RcAt.int_int a t1 b t, RcNeAt.int_int a t1 b t⟩
    | str b => rw [L2.Rep] at r2; subst r2; obtain ⟨t, rfl⟩ := q2; exact ⟨RcAt.int_str a t1 b t, RcNeAt.int_str a t1 b t⟩
    | _ => cases h2
  | str a =>
    rw [L2.Rep] at r1; subst r1; obtain ⟨t1, rfl⟩ := q1
    cases e with
    | non => rw [L2.Rep] at r2; subst r2; cases q2; exact ⟨RcAt.str_none a t1, RcNeAt.str_none a t1⟩
    | bl b => rw [L2.Rep] at r2; subst r2; cases q2; exact ⟨RcAt.str_bool a t1 b, RcNeAt.str_bool a t1 b⟩
    | int b => rw [L2.Rep] at r2; subst r2; obtain ⟨t, rfl⟩ := q2; exact ⟨RcAt.str_int a t1 b t, RcNeAt.str_int a t1 b t⟩
    | str b => rw [L2.Rep] at r2; subst r2; obtain ⟨t, rfl⟩ := q2; rw [Mi.pyEq]; exact ⟨RcAt.str_str a t1 b t, RcNeAt.str_str a t1 b t⟩
    | _ => cases h2
  | _ => cases h1
open SeqAt in
theorem rc_D (I : Inv X pins σ H s) : ∀ (d e : D) (A : Around) {x y : V} {u u' : Value}, d.dep ≤ 16 → A.units + 17 < cLine → L2.Rep X.K H d x → L2.Rep X.K H e y → RelV x u → RelV y u' → RcAt A s u u' (Mi.pyEq d e) ∧ RcNeAt A s u u' (!Mi.pyEq d e) := by
  intro d e A x y u u' hd hu h h' r r'
  have hu0 : A.units < cLine := by omega
  have item : ∀ {ds es : List D} {xs ys : List V} {its its' : List Value}, Mi.depAll ds ≤ 16 → L2.Reps X.K H ds xs → L2.Reps X.K H es ys → Vals xs its → Vals ys its' →
      ∀ j (h1 : j < its.toArray.size) (h2 : j < its'.toArray.size), EqAt A.in1 s its.toArray[j] its'.toArray[j] (Mi.pyEq (ds.getD j .non) (es.getD j .non)) := by
    intro ds es xs ys its its' hn q q' v v' j h1 h2
    have h1' : j < its.length := by simpa using h1
    have h2' : j < its'.length := by simpa using h2
    have e1 : j < xs.length := by rw [v.length]; exact h1'
    have e2 : j < ys.length := by rw [v'.length]; exact h2'
    have g1 : xs[j]? = some xs[j] := by simp [e1]
    have g2 : ys[j]? = some ys[j] := by simp [e2]
    obtain ⟨w1, k1, r1⟩ := v.get g1
    obtain ⟨w2, k2, r2⟩ := v'.get g2
    have t1 : its.toArray[j] = w1 := by obtain ⟨_, k1⟩ := List.getElem?_eq_some_iff.mp k1; simpa using k1
    have t2 : its'.toArray[j] = w2 := by obtain ⟨_, k2⟩ := List.getElem?_eq_some_iff.mp k2; simpa using k2
    rw [t1, t2]
    have := depAll_le (ds := ds) (j := j)
    refine eqAt_D I 16 _ _ A.in1 (by omega) ?_ (q.get g1) (q'.get g2) r1 r2
    show A.units + 1 + 16 < cLine
    omega
  by_cases hdf : d.flat = true
  · by_cases hef : e.flat = true
    · exact rc_flat hdf hef h h' r r'
    · cases e with
      | lst es =>
        rw [L2.Rep] at h'
        obtain ⟨a, xs, rfl, q, _⟩ := h'
        cases r'
        obtain ⟨its, _, p, _⟩ := I.list q
        cases d with
        | non => rw [L2.Rep] at h; subst h; cases r; exact ⟨RcAt.none_list p.isList hu0, RcNeAt.none_list p.isList hu0⟩
        | bl b => rw [L2.Rep] at h; subst h; cases r; exact ⟨RcAt.bool_list b p.isList hu0, RcNeAt.bool_list b p.isList hu0⟩
        | int b => rw [L2.Rep] at h; subst h; obtain ⟨t, rfl⟩ := r; exact ⟨RcAt.int_list b t p.isList hu0, RcNeAt.int_list b t p.isList hu0⟩
        | str b => rw [L2.Rep] at h; subst h; obtain ⟨t, rfl⟩ := r; exact ⟨RcAt.str_list b t p.isList hu0, RcNeAt.str_list b t p.isList hu0⟩
        | _ => cases hdf
      | tup es =>
        rw [L2.Rep] at h'
        obtain ⟨a, xs, rfl, q, _⟩ := h'
        cases r'
        obtain ⟨its, _, p, _⟩ := I.tuple q
        cases d with
        | non => rw [L2.Rep] at h; subst h; cases r; exact ⟨RcAt.none_tuple p hu0, RcNeAt.none_tuple p hu0⟩
        | bl b => rw [L2.Rep] at h; subst h; cases r; exact ⟨RcAt.bool_tuple b p hu0, RcNeAt.bool_tuple b p hu0⟩
        | int b => rw [L2.Rep] at h; subst h; obtain ⟨t, rfl⟩ := r; exact ⟨RcAt.int_tuple b t p hu0, RcNeAt.int_tuple b t p hu0⟩
        | str b => rw [L2.Rep] at h; subst h; obtain ⟨t, rfl⟩ := r; exact ⟨RcAt.str_tuple b t p hu0, RcNeAt.str_tuple b t p hu0⟩
        | _ => cases hdf
      | _ => exact absurd rfl hef
  · cases d with
    | lst ds =>
      rw [L2.Rep] at h
      obtain ⟨a, xs, rfl, q, rr⟩ := h
      cases r
      obtain ⟨its, v, p, _⟩ := I.list q
      have hn : Mi.depAll ds ≤ 16 := by rw [Mi.D.dep] at hd; omega
      cases e with
      | non => rw [L2.Rep] at h'; subst h'; cases r'; exact ⟨RcAt.list_none p.isList hu0, RcNeAt.list_none p.isList hu0⟩
      | bl b => rw [L2.Rep] at h'; subst h'; cases r'; exact ⟨RcAt.list_bool b p.isList hu0, RcNeAt.list_bool b p.isList hu0⟩
      | int b => rw [L2.Rep] at h'; subst h'; obtain ⟨t, rfl⟩ := r'; exact ⟨RcAt.list_int b t p.isList hu0, RcNeAt.list_int b t p.isList hu0⟩
      | str b => rw [L2.Rep] at h'; subst h'; obtain ⟨t, rfl⟩ := r'; exact ⟨RcAt.list_str b t p.isList hu0, RcNeAt.list_str b t p.isList hu0⟩
      | lst es =>
        rw [L2.Rep] at h'
        obtain ⟨b, ys, rfl, q', rr'⟩ := h'
        cases r'
        obtain ⟨its', v', p', _⟩ := I.list q'
        have l1 := rr.length
        have l2 := rr'.length
        have l3 := v.length
        have l4 := v'.length
        by_cases hl : ds.length = es.length
        · rw [Mi.pyEq, pyEqs_all hl]
          have e1 : its.toArray.size = ds.length := by simp; omega
          have k1 := RcAt.lists p.isList p'.isList (by simp; omega) hu0 (item hn rr rr' v v')
          have k2 := RcNeAt.lists p.isList p'.isList (by simp; omega) hu0 (item hn rr rr' v v')
          rw [e1] at k1 k2
          exact ⟨k1, k2⟩
        · rw [Mi.pyEq, pyEqs_len hl]
          exact ⟨RcAt.lists_lengths p.isList p'.isList (by simp; omega) hu0, RcNeAt.lists_lengths p.isList p'.isList (by simp; omega) hu0⟩
      | tup es =>
        rw [L2.Rep] at h'
        obtain ⟨b, ys, rfl, q', _⟩ := h'
        cases r'
        obtain ⟨its', _, p', _⟩ := I.tuple q'
        exact ⟨RcAt.list_tuple p.isList p' hu0, RcNeAt.list_tuple p.isList p' hu0⟩
    | tup ds =>
      rw [L2.Rep] at h
      obtain ⟨a, xs, rfl, q, rr⟩ := h
      cases r
      obtain ⟨its, v, p, _⟩ := I.tuple q
      have hn : Mi.depAll ds ≤ 16 := by rw [Mi.D.dep] at hd; omega
      cases e with
      | non => rw [L2.Rep] at h'; subst h'; cases r'; exact ⟨RcAt.tuple_none p hu0, RcNeAt.tuple_none p hu0⟩
      | bl b => rw [L2.Rep] at h'; subst h'; cases r'; exact ⟨RcAt.tuple_bool b p hu0, RcNeAt.tuple_bool b p hu0⟩
      | int b => rw [L2.Rep] at h'; subst h'; obtain ⟨t, rfl⟩ := r'; exact ⟨RcAt.tuple_int b t p hu0, RcNeAt.tuple_int b t p hu0⟩
      | str b => rw [L2.Rep] at h'; subst h'; obtain ⟨t, rfl⟩ := r'; exact ⟨RcAt.tuple_str b t p hu0, RcNeAt.tuple_str b t p hu0⟩
      | tup es =>
        rw [L2.Rep] at h'
        obtain ⟨b, ys, rfl, q', rr'⟩ := h'
        cases r'
        obtain ⟨its', v', p', _⟩ := I.tuple q'
        have l1 := rr.length
        have l2 := rr'.length
        have l3 := v.length
        have l4 := v'.length
        have k1 := RcAt.tuples p p' hu0 (item hn rr rr' v v')
        have k2 := RcNeAt.tuples p p' hu0 (item hn rr rr' v v')
        have e1 : its.toArray.size = ds.length := by simp; omega
        have e2 : its'.toArray.size = es.length := by simp; omega
        rw [e1, e2] at k1 k2
        by_cases hl : ds.length = es.length
        · rw [Mi.pyEq, pyEqs_all hl]
          rw [hl, Nat.min_self, beq_self_eq_true, Bool.and_true, ← hl] at k1 k2
          exact ⟨k1, k2⟩
        · rw [Mi.pyEq, pyEqs_len hl]
          have : (ds.length == es.length) = false := by simpa using hl
          rw [this, Bool.and_false] at k1 k2
          exact ⟨k1, k2⟩
      | lst es =>
        rw [L2.Rep] at h'
        obtain ⟨b, ys, rfl, q', _⟩ := h'
        cases r'
        obtain ⟨its', _, p', _⟩ := I.list q'
        exact ⟨RcAt.tuple_list p p'.isList hu0, RcNeAt.tuple_list p p'.isList hu0⟩
    | _ => exact absurd rfl hdf
theorem op_eqD (hu : X.A.units + 64 < cLine) : OpR X (compareOp .Eq) (rEqD X.K false) := by
  intro pins s σ H x y v u Q I rx ry h
  obtain ⟨d, e, r1, r2, hz, q⟩ := h
  exact (rc_D I d e X.A hz (by omega) r1 r2 rx ry).1 _ _ _ _ ⟨.bl _, H, I, rfl, q⟩
theorem op_neD (hu : X.A.units + 64 < cLine) : OpR X (compareOp .NotEq) (rEqD X.K true) := by
  intro pins s σ H x y v u Q I rx ry h
  obtain ⟨d, e, r1, r2, hz, q⟩ := h
  exact (rc_D I d e X.A hz (by omega) r1 r2 rx ry).2 _ _ _ _ ⟨.bl _, H, I, rfl, q⟩
end
section
variable {X : Cx} {K : PySem.W.Frag} {M : Nat → Bool} {κ : Kd} {ta tb te : TE} {a b : Mi.E}
theorem ty_of {H Hv : Hp} (vw : Vw H Hv) {d : D} {v : V} (r : RD H Hv d v) : TyOf K H v (.type (Mi.tyName d)) := by
  cases d with
  | non => cases RD.non r; exact .non
  | bl b => cases RD.bl r; exact .bl b
  | int b => cases RD.int r; exact .int b
  | str b => cases RD.str r; exact .str b
  | lst ds =>
    obtain ⟨p, xs, rfl, l, _⟩ := RD.lst vw r
    rcases l with l | ⟨o, l⟩
    · exact .lst l
    · exact .frz l
  | tup ds =>
    obtain ⟨p, xs, rfl, l, _⟩ := RD.tup vw r
    exact .tup l
def TyIs (K : PySem.W.Frag) (T : String) : Prop := ∀ d : D, PySem.W.kitOne K (.type (Mi.tyName d)) (.type T) = some (Mi.isTy T d)
theorem a_is {T : String} (hT : TyIs K T) (ha : AE M qP ta a) : AE M qV (tCB (rIsT K) (tCons ta (tCons (tC (.ty T)) tNil))) (Mi.m1 (Mi.bIs [T]) a) := fun e σ H Hv Q I h =>
  ha e σ H Hv _ I ((fin_bind.mp h).mono fun x hx v H1 Hv1 g1 rx => ⟨v, _, T, _, rfl, ty_of g1.vw rx, hT x, (Mi.fin_now hx) _ H1 Hv1 g1 (by
    have : ([T].any fun t => Mi.isTy t x) = Mi.isTy T x := by simp
    rw [this]; exact qv_bl)⟩)
theorem ty_bool (K : PySem.W.Frag) : TyIs K "bool" := fun d => by cases d <;> rfl
theorem ty_int (K : PySem.W.Frag) : TyIs K "int" := fun d => by cases d <;> rfl
theorem ty_str (K : PySem.W.Frag) : TyIs K "str" := fun d => by cases d <;> rfl
theorem ty_list (K : PySem.W.Frag) : TyIs K "list" := fun d => by cases d <;> rfl
theorem ty_tuple (K : PySem.W.Frag) : TyIs K "tuple" := fun d => by cases d <;> rfl
end
end A
set_option Elab.async false
set_option linter.all false
set_option maxRecDepth 100000
set_option maxHeartbeats 4000000
namespace A
open PySem L2 PyProof.Rows
open Mi (D W Rs Fin fin_bind Out Tg)
variable [Tb : Tabs]
def Mo (l : List Nat) : Nat → Bool := fun i => l.contains i
theorem start_R1 {M : Nat → Bool} {N : List Str} {k : Nat} {ws : List W} {vs : List V} {H Hv : Hp} (vw : Vw H Hv) (p : P2 (RepW Hv) ws vs) (hk : ws.length = k) (hM : ∀ i, i < k → M i = false) :
    R1 M H Hv (ws.map some ++ List.replicate (N.length - ws.length) none) (start N vs) H Hv := by
  have get : ∀ {i : Nat} {w : W}, (ws.map some ++ List.replicate (N.length - ws.length) none)[i]? = some (some w) → ws[i]? = some w ∧ i < k := fun {i w} h => by
    by_cases hi : i < ws.length
    · rw [List.getElem?_append_left (by simpa using hi), List.getElem?_map] at h
      cases e : ws[i]? with
      | none => rw [e] at h; cases h
      | some a => rw [e] at h; cases h; exact ⟨rfl, by omega⟩
    · rw [List.getElem?_append_right (by simpa using hi), List.getElem?_replicate] at h
      split at h <;> cases h
  have no : ∀ {i : Nat} {w : W}, (ws.map some ++ List.replicate (N.length - ws.length) none)[i]? = some (some w) → M i = true → False := fun {i w} h m => by
    rw [hM i (get h).2] at m; cases m
  refine ⟨⟨vw, ?_, fun i w h m => ?_, fun i w h m => (no h m).elim⟩, .refl vw, fun i w a h m => (no h m).elim, fun i j w w' a b _ h _ m => (no h m).elim⟩
  · unfold L2.start
    rw [List.length_append, List.length_append, List.length_map, List.length_map, List.length_replicate, List.length_replicate, p.len]
  · obtain ⟨hw, hi⟩ := get h
    obtain ⟨v, hv, r⟩ := p.getL hw
    refine ⟨v, ?_, r⟩
    unfold L2.start
    rw [List.getElem?_append_left (by rw [List.length_map, ← p.len]; omega), List.getElem?_map, hv]; rfl
theorem lenD {f : Mi.S} {k n : Nat} {vs : List V} {H : Hp} {Q : VK} {E : XK} (h : spD (Mi.fnM k n f) vs H Q E) : vs.length = k := by
  obtain ⟨Hv, ws, _, p, q⟩ := h
  rw [← p.len]; exact (Mi.fin_guard q).1
theorem lenN {f : Mi.S} {k n : Nat} {vs : List V} {H : Hp} {Q : VK} {E : XK} (h : spN (Mi.fnN k n f) vs H Q E) : vs.length = k := by
  obtain ⟨Hv, ws, _, p, q⟩ := h
  rw [← p.len]; exact (Mi.fin_guard q).1
theorem runD {N : List Str} {M : Nat → Bool} {k : Nat} {t : TS} {m : Mi.S} (hA : AS M qV t m) (hM : ∀ i, i < k → M i = false) {vs : List V} {H : Hp} {Q : VK} {E : XK} (h : spD (Mi.fnM k N.length m) vs H Q E) :
    t { nx := fun _ H' => Q .non H', rt := Q } (start N vs) H := by
  obtain ⟨Hv, ws, vw, p, q⟩ := h
  obtain ⟨hk, q⟩ := Mi.fin_guard q
  refine hA H Hv _ _ H Hv _ (start_R1 vw p hk hM) ((fin_bind.mp q).mono fun o ho => ?_)
  cases o with
  | nx e => exact fun σ H' Hv' I s => ho _ H' Hv' I.gw qv_non
  | rt w => exact fun v H' Hv' g r => ho v H' Hv' g r
  | bk e => exact ho.elim
  | ct e => exact ho.elim
theorem runN {N : List Str} {M : Nat → Bool} {k : Nat} {t : TS} {m : Mi.S} (hA : AS M qN t m) (hM : ∀ i, i < k → M i = false) {vs : List V} {H : Hp} {Q : VK} {E : XK} (h : spN (Mi.fnN k N.length m) vs H Q E) :
    t { nx := fun _ H' => Q .non H', rt := Q } (start N vs) H := by
  obtain ⟨Hv, ws, vw, p, q⟩ := h
  obtain ⟨hk, q⟩ := Mi.fin_guard q
  refine hA H Hv _ _ H Hv _ (start_R1 vw p hk hM) ((fin_bind.mp q).mono fun o ho => ?_)
  cases o with
  | rt w => exact fun v H' Hv' g r => ho v H' Hv' g r
  | nx e => exact ho.elim
  | bk e => exact ho.elim
  | ct e => exact ho.elim
theorem fnOk_zero {P : Program} {w : World} {K : PySem.W.Frag} {mg : Str → Option Value} {base : Heap} {CX : CXT} {k : Nat} {f : Addr} {fd : FuncData} {ps : List Str} : FnOk P w K mg base CX k f fd ps (spD Mi.fnZ) :=
  ⟨fun vs H Q E h => by obtain ⟨_, _, _, _, q⟩ := h; exact q.elim, fun A outer s H args us vs Q E _ _ _ _ h => by obtain ⟨_, _, _, _, q⟩ := h; exact q.elim⟩
def spLaw : Sp := fun vs H Q _ => ∃ (a : Addr) (ns : List Int), vs = [.ref a] ∧ Lst H a (ns.map V.int) ∧ ns.length ≤ 63 ∧ CodeOk H ∧ ∀ H', Q (.bl true) H'
theorem ints_rep (H : Hp) : ∀ ns : List Int, P2 (Rep H) (ns.map D.int) (ns.map V.int)
  | [] => .nil
  | n :: r => .cons (rep_int.mpr rfl) (ints_rep H r)
theorem law_of {P : Program} {w : World} {K : PySem.W.Frag} {mg : Str → Option Value} {base : Heap} {CX : CXT} {k : Nat} {f : Addr} {fd : FuncData} {ps : List Str} {m : Mi.Fn} (F : FnOk P w K mg base CX k f fd ps (spD m))
    (h : ∀ ns : List Int, ns.length ≤ 63 → m [.d (.lst (ns.map D.int))] = .ok (.d (.bl true))) : FnOk P w K mg base CX k f fd ps spLaw :=
  F.imp fun vs H Q E ⟨a, ns, e, l, hl, k, q⟩ => by
    subst e
    have l' : Lst (noT H) a (ns.map V.int) := by
      rcases l with l | ⟨o, l⟩
      · exact .inl (noT_some l trivial)
      · exact .inr ⟨o, noT_some l trivial⟩
    refine ⟨noT H, [.d (.lst (ns.map D.int))], .all k, .cons (rep_lst.mpr ⟨a, _, rfl, l', ints_rep _ ns⟩) .nil, ?_⟩
    rw [h ns hl]
    intro v H' Hv' g r
    cases (rep_bl (H := Hv')).mp r
    exact q H'
theorem turned_new {X : Cx} {pins : List (Addr × Obj)} {σ : L2.St} {H : Hp} {s : Shared} {fp : List Addr} {T : Addr} {o : HO} {h' : Heap} {t' : Nat} (I : Inv X pins σ H s) (hf : ∀ b ∈ fp, FpOk X pins H b)
    (k : ∀ b u, b ∉ fp → s.heap.get? b = some u → h'.get? b = some u) (hT : s.heap.objs.size ≤ T) (new : ObjOk X.prog X.w (upd H T o) h' T o) : Inv X pins σ (upd H T o) { s with heap := h', toks := t' } := by
  have hn : H T = none := I.hok.fresh hT
  have nfp : ∀ b u, H b = some u → b ∉ fp := fun b u e z => by rw [(hf b z).1] at e; cases e
  refine I.call' (s' := { s with heap := h', toks := t' }) (ch := fp) rfl ⟨fun b u e _ _ hb => k b u hb e, fun b u e _ _ hb => ⟨u.slots, k b u hb e⟩, fun b u e hb _ => ?_, fun b u e hb => ⟨u, k b u hb e⟩, fun b xs e => ?_, fun b q u e => ?_, fun b w ps e => ⟨#[], ?_⟩⟩ ?_ I.bare
    fun b hb => ⟨(hf b hb).2.2.2.1, (hf b hb).2.1, (hf b hb).2.2.2.2.1, (hf b hb).2.2.2.2.2⟩
  · have : b ≠ T := Nat.ne_of_lt (Nat.lt_of_lt_of_le (Heap.lt_size e) hT)
    rw [upd_ne this]; exact hb
  · rw [upd_ne (ne_of_none e hn)]; exact e
  · rw [upd_ne (ne_of_none e hn)]; exact e
  · rw [upd_ne (ne_of_none e hn), e]; simp
  · intro b u e
    by_cases hb : b = T
    · subst hb; rw [upd_same] at e; cases e; exact new
    · rw [upd_ne hb] at e
      refine (I.hok b u e).stay (fun c v hc q => k c v ?_ q) (fun c q => by rw [upd_ne (ne_of_none q hn)]; exact q) fun c xs q => by rw [upd_ne (ne_of_none q hn)]; exact q
      rcases hc with z | z
      · rw [z]; exact nfp b u e
      · exact nfp c _ z
theorem turned_all {X : Cx} {pins : List (Addr × Obj)} {σ : L2.St} {H : Hp} {s : Shared} {fp : List Addr} {h' : Heap} {t' : Nat} (I : Inv X pins σ H s) (hf : ∀ b ∈ fp, FpOk X pins H b)
    (k : ∀ b u, b ∉ fp → s.heap.get? b = some u → h'.get? b = some u) : Inv X pins σ H { s with heap := h', toks := t' } := by
  have nfp : ∀ b u, H b = some u → b ∉ fp := fun b u e z => by rw [(hf b z).1] at e; cases e
  refine I.call' (s' := { s with heap := h', toks := t' }) (ch := fp) rfl ⟨fun b u e _ _ hb => k b u hb e, fun b u e _ _ hb => ⟨u.slots, k b u hb e⟩, fun b u e hb _ => hb, fun b u e hb => ⟨u, k b u hb e⟩, fun b xs e => e, fun b q u e => e, fun b w ps e => ⟨#[], by rw [e]; simp⟩⟩ ?_ I.bare
    fun b hb => ⟨(hf b hb).2.2.2.1, (hf b hb).2.1, (hf b hb).2.2.2.2.1, (hf b hb).2.2.2.2.2⟩
  intro b u e
  refine (I.hok b u e).stay (fun c v hc q => k c v ?_ q) (fun c q => q) fun c xs q => q
  rcases hc with z | z
  · rw [z]; exact nfp b u e
  · exact nfp c _ z
section
variable {X : Cx} {elts : List Expr} {k1 : Nat} {tpos : Pos}
end
end A
set_option Elab.async false
set_option linter.all false
set_option maxRecDepth 100000
set_option maxHeartbeats 4000000
namespace A
open PySem L2 PyProof.Rows
open Mi (D W Rs Fin fin_bind Out Tg)
variable [Tb : Tabs]
section
variable {X : Cx} {K : PySem.W.Frag} {M : Nat → Bool} {κ : Kd} {ta tb te tk : TE} {a b k : Mi.E}
theorem asSs_ok {Hv : Hp} : ∀ {ds : List D} {xs : List V} {bs : List Str}, Mi.asSs ds = some bs → P2 (Rep Hv) ds xs → xs = bs.map V.str
  | [], _, bs, e, r => by cases e; cases r; rfl
  | .str b :: ds, _, bs, e, r => by
    cases r with
    | cons x t =>
      cases hb : Mi.asSs ds with
      | none => rw [Mi.asSs, hb] at e; cases e
      | some cs =>
        rw [Mi.asSs, hb] at e
        cases e
        rw [asSs_ok hb t, rep_str.mp x]; rfl
  | .non :: _, _, _, e, _ => by cases e
  | .int _ :: _, _, _, e, _ => by cases e
  | .bl _ :: _, _, _, e, _ => by cases e
  | .lst _ :: _, _, _, e, _ => by cases e
  | .tup _ :: _, _, _, e, _ => by cases e
theorem a_join (ha : AE M qP ta a) (hb : AE M qP tb b) : AE M qV (tBM K "str" (rJoin K) ta (tCons tb tNil)) (Mi.m2 Mi.dJoin a b) := fun e σ H Hv Q I h => by
  obtain ⟨x, hx, h⟩ := fin_ok (fin_bind.mp h)
  obtain ⟨y, hy, h⟩ := fin_ok (fin_bind.mp h)
  cases x with
  | str sep => cases y with
    | lst ds =>
      obtain ⟨ys, hs, h⟩ := ofO_ok (fin_bind.mp h)
      obtain ⟨hz, h⟩ := Mi.fin_guard h
      refine ha e σ H Hv _ I (by
        rw [hx]
        intro v H1 Hv1 g1 r1
        cases RD.str r1
        refine ⟨rfl, hb e σ H1 Hv1 _ (I.grow g1) (by
          rw [hy]
          intro v2 H2 Hv2 g2 r2
          obtain ⟨p, xs, rfl, l, r⟩ := RD.lst g2.vw r2
          have := asSs_ok hs r
          subst this
          exact ⟨sep, p, ys, rfl, rfl, l.sq, hz, (Mi.fin_now h) _ H2 Hv2 (g1.trans g2) qv_str⟩)⟩)
    | _ => exact h.elim
  | _ => cases y <;> exact h.elim
theorem key_rep {H : Hp} {d : D} {v : V} {y : Mi.Ky} (h : Mi.dKey d = some y) (r : Rep H d v) : v = kV y := by
  cases d with
  | int i => cases h; exact rep_int.mp r
  | str i => cases h; exact rep_str.mp r
  | _ => cases h
theorem keys_rep {H : Hp} : ∀ {ds : List D} {vs : List V} {ys : List Mi.Ky}, Mi.dKeys ds = some ys → P2 (Rep H) ds vs → vs = ys.map kV
  | [], _, _, h, r => by cases h; cases r; rfl
  | d :: ds, _, ys, h, r => by
    cases r with
    | cons x t =>
      unfold Mi.dKeys at h
      cases h1 : Mi.dKey d with
      | none => rw [h1] at h; cases h
      | some y =>
        cases h2 : Mi.dKeys ds with
        | none => rw [h1, h2] at h; cases h
        | some zs =>
          rw [h1, h2] at h
          cases h
          rw [key_rep h1 x, keys_rep h2 t]; rfl
theorem dget_ok {H Hv : Hp} (vw : Vw H Hv) {w : W} {x : V} {d : D} {v : V} {q : Option D → Prop} (hw : RB H Hv w x) (r : Rep Hv d v) (h : Fin (Mi.dGet w d) q) : ∃ a o o', x = .ref a ∧ DGet H a v o ∧ q o' ∧ match o' with
    | some d' => ∃ v', o = some v' ∧ Rep Hv d' v'
    | none => o = none := by
  cases w with
  | d x => exact h.elim
  | ex z => exact h.elim
  | dk kvs =>
    obtain ⟨y, hy, h⟩ := ofO_ok (fin_bind.mp h)
    have h : q (Mi.valK kvs y) := h
    have : ∃ a kv, x = .ref a ∧ H a = some (.dK kv) ∧ KVs Hv kvs kv := by
      rcases hw with ⟨a, kv, e, z, c⟩ | ⟨a, o, e, z, c⟩
      · exact ⟨a, kv, e, vw.sub _ _ z, c⟩
      · cases o with
        | dK kv => exact ⟨a, kv, e, z, c⟩
        | _ => exact c.elim
    obtain ⟨a, kv, e, z, c⟩ := this
    have hv := key_rep hy r
    subst hv
    exact ⟨a, _, _, e, DGet.k z, h, kvs_val c⟩
  | dt kvs =>
    cases d with
    | tup ds =>
      obtain ⟨y, hy, h⟩ := ofO_ok (fin_bind.mp h)
      have h : q (Mi.valK kvs y) := h
      have : ∃ a kv, x = .ref a ∧ H a = some (.dT kv) ∧ KVs Hv kvs kv := by
        rcases hw with ⟨a, kv, e, z, c⟩ | ⟨a, o, e, z, c⟩
        · exact ⟨a, kv, e, vw.sub _ _ z, c⟩
        · cases o with
          | dT kv => exact ⟨a, kv, e, z, c⟩
          | _ => exact c.elim
      obtain ⟨a, kv, e, z, c⟩ := this
      obtain ⟨b, xs, rfl, l, r⟩ := rep_tup.mp r
      have hv := keys_rep hy r
      subst hv
      exact ⟨a, _, _, e, DGet.t z (vw.sub _ _ l), h, kvs_val c⟩
    | _ => exact h.elim
theorem a_din (i : Nat) (hk : AE M qV tk k) : AE M qV (tDIn tk (tVar i)) (Mi.mDIn i k) := fun e σ H Hv Q I h =>
  hk e σ H Hv _ I ((fin_bind.mp h).mono fun d hd v H1 Hv1 g1 r => by
    obtain ⟨w, he, hd⟩ := wV_ok (fin_bind.mp hd)
    have I1 := I.grow g1
    obtain ⟨x, q, z⟩ := I1.any he
    obtain ⟨a, o, o', e1, g, h2, m⟩ := dget_ok g1.vw z r (fin_bind.mp hd)
    refine ⟨x, q, a, o, e1, g, ?_⟩
    have : o.isSome = o'.isSome := by
      cases o' with
      | none => have m : o = none := m; rw [m]; rfl
      | some d' => obtain ⟨v', m, _⟩ := m; rw [m]; rfl
    rw [this]
    exact h2 _ H1 Hv1 g1 qv_bl)
theorem a_dnotin (i : Nat) (hk : AE M qV tk k) : AE M qV (tDNotIn tk (tVar i)) (Mi.mDNotIn i k) := fun e σ H Hv Q I h =>
  hk e σ H Hv _ I ((fin_bind.mp h).mono fun d hd v H1 Hv1 g1 r => by
    obtain ⟨w, he, hd⟩ := wV_ok (fin_bind.mp hd)
    have I1 := I.grow g1
    obtain ⟨x, q, z⟩ := I1.any he
    obtain ⟨a, o, o', e1, g, h2, m⟩ := dget_ok g1.vw z r (fin_bind.mp hd)
    refine ⟨x, q, a, o, e1, g, ?_⟩
    have : o.isSome = o'.isSome := by
      cases o' with
      | none => have m : o = none := m; rw [m]; rfl
      | some d' => obtain ⟨v', m, _⟩ := m; rw [m]; rfl
    rw [this]
    exact h2 _ H1 Hv1 g1 qv_bl)
theorem a_dget (i : Nat) (hk : AE M qV tk k) : AE M qV (tDGet (tVar i) tk) (Mi.mDGet i k) := fun e σ H Hv Q I h => by
  obtain ⟨d, hd, h⟩ := fin_ok (fin_bind.mp h)
  obtain ⟨w, he, h⟩ := wV_ok (fin_bind.mp h)
  obtain ⟨x, q, z⟩ := I.any he
  refine ⟨x, q, hk e σ H Hv _ I (by
    rw [hd]
    intro v H1 Hv1 g1 r
    obtain ⟨a, o, o', e1, g, h2, m⟩ := dget_ok g1.vw (z.grow g1) r (fin_bind.mp h)
    cases o' with
    | none => exact h2.elim
    | some d' =>
      obtain ⟨v', rfl, rv⟩ := m
      exact ⟨a, v', e1, g, h2 v' H1 Hv1 g1 rv⟩)⟩
theorem as_dput {tv : TE} {v : Mi.E} (i : Nat) (hm : M i = true) (hk : AE M qV tk k) (hv : AE M qV tv v) : AS M κ (L2.sDPut (tVar i) tk tv) (Mi.sDPut i k v) := fun H0 Hv0 e σ H Hv D I h => by
  obtain ⟨d, hd, h⟩ := fin_ok (fin_bind.mp h)
  obtain ⟨y, hy, h⟩ := fin_ok (fin_bind.mp h)
  obtain ⟨w, he, h⟩ := wV_ok (fin_bind.mp h)
  refine hv e σ H Hv _ I.toR0 (by
    rw [hd]
    intro x H1 Hv1 g1 rx
    have I1 := I.grow g1
    obtain ⟨p, o, q, q1, n, h0, c⟩ := I1.cell hm he
    refine ⟨.ref p, q, hk e σ H1 Hv1 _ I1.toR0 (by
      rw [hy]
      intro u H2 Hv2 g2 ru
      have I2 := I1.grow g2
      have c2 := c.same g2.vis
      have q2 := g2.old.at q1 c.nt
      have g12 := g1.trans g2
      have rx2 := rep_same g2.vis rx
      cases w with
      | d x => exact (show False from fin_bind.mp h).elim
      | ex z => exact (show False from fin_bind.mp h).elim
      | dk kvs =>
        obtain ⟨hz, h⟩ := Mi.fin_guard (fin_bind.mp h)
        obtain ⟨ky, hky, h⟩ := ofO_ok (fin_bind.mp h)
        cases o with
        | dK kv =>
          have c2 : KVs Hv2 kvs kv := c2
          have hu := key_rep hky ru
          subst hu
          refine ⟨p, _, rfl, DPut.k q2 (by rw [← P2.len c2, sizeLine_eq]; exact hz), ?_⟩
          exact h σ _ Hv2 (I2.write hm he q (show CellIs Hv2 (.dk (Mi.putK ky d kvs)) (.dK (L2.putK kv ky x)) from kvs_put rx2 c2)) g12.vis
        | _ => exact c2.elim
      | dt kvs =>
        cases y with
        | tup ds =>
          obtain ⟨hz, h⟩ := Mi.fin_guard (fin_bind.mp h)
          obtain ⟨ky, hky, h⟩ := ofO_ok (fin_bind.mp h)
          cases o with
          | dT kv =>
            have c2 : KVs Hv2 kvs kv := c2
            obtain ⟨b, xs, rfl, l, r⟩ := (rep_tup (H := Hv2)).mp ru
            have hu := keys_rep hky r
            subst hu
            refine ⟨p, _, rfl, DPut.t q2 (g2.vw.sub _ _ l) (by rw [← P2.len c2, sizeLine_eq]; exact hz), ?_⟩
            exact h σ _ Hv2 (I2.write hm he q (show CellIs Hv2 (.dt (Mi.putK ky d kvs)) (.dT (L2.putK kv ky x)) from kvs_put rx2 c2)) g12.vis
          | _ => exact c2.elim
        | _ => exact (show False from fin_bind.mp h).elim)⟩)
end
end A
set_option Elab.async false
set_option linter.all false
set_option maxRecDepth 100000
set_option maxHeartbeats 4000000
namespace Zp
open PySem PySem.Spec PyProof.Rows L2
variable [Tb : A.Tabs]
section
variable {P : Program} {w : World} {B : Around} {F : Value → Shared → Prop} {z : Shared}
theorem nx_tup {c t : Addr} {i : Nat} {us : Array Value} {u : Value} {R : Value → Shared → Prop} (hc : z.heap.IsTupleIter c t i) (ht : z.heap.IsTuple t us) (hu : us[i]? = some u)
    (hR : ∀ h', h'.IsTupleIter c t (i + 1) → Heap.SameBut c z.heap h' → R u { z with heap := h' }) : wpAny (model P w) B (Builtin.SmallTypes.nextOf (.ref c)) R F z := by
  obtain ⟨ob, gb, cb, db⟩ := id hc
  obtain ⟨ol, gl, _, nl, dl⟩ := ht
  unfold Builtin.SmallTypes.nextOf
  refine wpAny_bind (wpAny_callSpecial?_slot (name := Str.ofString "__next__") hc.typeIs PySem.F.slot_tuple_iterator_next (wpAny_call_entry PySem.F.slot_tuple_iterator_next hc.typeIs PySem.F.entry_tuple_iterator_next ?_ (PySem.F.args_tuple_iterator_next_1 _)))
  show wpAny _ _ (field (.ref c) 0 >>= _) _ _ z
  refine wpAny_bind (wpAny_field gb db (x := .ref t) rfl ?_)
  show wpAny _ _ (if (Value.ref t == Value.none) = true then _ else _) _ _ z
  rw [if_neg (fun q : (Value.ref t == Value.none) = true => nomatch q)]
  show wpAny _ _ (field (.ref c) 1 >>= _) _ _ z
  refine wpAny_bind (wpAny_field gb db (x := .int i 0) rfl ?_)
  show wpAny _ _ (seqItems? (.ref t) >>= _) _ _ z
  refine wpAny_bind (wpAny_seqItems gl dl ?_)
  simp only [Int.toNat_natCast, hu]
  refine wpAny_bind (wpAny_setField gb db (by simp) (wpAny_pure ⟨u, rfl, wpAny_pure (hR _ ?_ (Heap.SameBut.update ..))⟩))
  refine ⟨_, Heap.get?_update_self _ gb (Obj.isFreed_of_fields (Obj.data_mapFields db _)), (Obj.cls_mapFields ..).trans cb, ?_⟩
  rw [Obj.data_mapFields db]; simp [rawInt]
theorem nx_tup_end {c t : Addr} {i : Nat} {us : Array Value} {R : Value → Shared → Prop} (hn : B.handled = none) (hc : z.heap.IsTupleIter c t i) (ht : z.heap.IsTuple t us) (hu : us[i]? = none)
    (hF : ∀ h' e, Heap.ExtBut c z.heap h' → (∃ o, h'.get? e = some o ∧ o.cls = .type "StopIteration") → F (.ref e) { z with heap := h' }) : wpAny (model P w) B (Builtin.SmallTypes.nextOf (.ref c)) R F z := by
  obtain ⟨ob, gb, cb, db⟩ := id hc
  obtain ⟨ol, gl, _, nl, dl⟩ := ht
  unfold Builtin.SmallTypes.nextOf
  refine wpAny_bind (wpAny_callSpecial?_slot (name := Str.ofString "__next__") hc.typeIs PySem.F.slot_tuple_iterator_next (wpAny_call_entry PySem.F.slot_tuple_iterator_next hc.typeIs PySem.F.entry_tuple_iterator_next ?_ (PySem.F.args_tuple_iterator_next_1 _)))
  show wpAny _ _ (field (.ref c) 0 >>= _) _ _ z
  refine wpAny_bind (wpAny_field gb db (x := .ref t) rfl ?_)
  show wpAny _ _ (if (Value.ref t == Value.none) = true then _ else _) _ _ z
  rw [if_neg (fun q : (Value.ref t == Value.none) = true => nomatch q)]
  show wpAny _ _ (field (.ref c) 1 >>= _) _ _ z
  refine wpAny_bind (wpAny_field gb db (x := .int i 0) rfl ?_)
  show wpAny _ _ (seqItems? (.ref t) >>= _) _ _ z
  refine wpAny_bind (wpAny_seqItems gl dl ?_)
  simp only [Int.toNat_natCast, hu]
  refine wpAny_bind (wpAny_rule (wpAny_bind (wpAny_setField gb db (by simp) ?_)))
  show wpAny _ _ (newExc (.type "StopIteration") [] >>= _) _ _ _
  refine wpAny_bind ?_
  simp only [newExc, newTuple]
  refine wpAny_bind (wpAny_newObj_type ?_ (by size_fits))
  refine wpAny_bind (m := firstArgMember _ _) (wpAny_of_eq (a := Value.none) (by simp only [firstArgMember]; rfl) (wpAny_newObj_type ?_ (by size_fits)))
  simp only [raiseNew]
  refine wpAny_bind (wpAny_handled ?_)
  first | rw [show B.in1.handled = none from hn] | rw [hn]
  exact wpAny_bind (wpAny_pure (wpAny_throw (hF _ _ (((Heap.SameBut.update ..).extBut.push _).push _) ⟨_, Heap.get?_push_size _ rfl, rfl⟩)))
end
def nm : Bool → String | true => "list" | false => "tuple"
def nmI : Bool → String | true => "list_iterator" | false => "tuple_iterator"
def AtQ (k : Bool) (h : Heap) (l : Addr) (us : Array Value) : Prop := ∃ o, h.get? l = some o ∧ o.cls = .type (nm k) ∧ ∃ n, o.data = .seq us n
def AtI (k : Bool) (h : Heap) (c l : Addr) (i : Nat) : Prop := ∃ o, h.get? c = some o ∧ o.cls = .type (nmI k) ∧ o.data = .fields #[.ref l, .int i 0]
theorem AtQ.at {k : Bool} {h h' : Heap} {l : Addr} {us : Array Value} (x : AtQ k h l us) (f : ∀ o, h.get? l = some o → h'.get? l = some o) : AtQ k h' l us := let ⟨o, e, r⟩ := x; ⟨o, f o e, r⟩
theorem AtI.at {k : Bool} {h h' : Heap} {c l : Addr} {i : Nat} (x : AtI k h c l i) (f : ∀ o, h.get? c = some o → h'.get? c = some o) : AtI k h' c l i := let ⟨o, e, r⟩ := x; ⟨o, f o e, r⟩
theorem AtI.cell {k : Bool} {h : Heap} {c l : Addr} {i : Nat} (x : AtI k h c l i) : ∃ o, h.get? c = some o ∧ ∀ v, o.data ≠ .cell v := let ⟨o, e, _, d⟩ := x; ⟨o, e, fun v q => by rw [d] at q; cases q⟩
section
variable {P : Program} {w : World} {B : Around} {F : Value → Shared → Prop} {z : Shared}
theorem nx {k : Bool} {c t : Addr} {i : Nat} {us : Array Value} {u : Value} {R : Value → Shared → Prop} (hc : AtI k z.heap c t i) (ht : AtQ k z.heap t us) (hu : us[i]? = some u)
    (hR : ∀ h', AtI k h' c t (i + 1) → Heap.SameBut c z.heap h' → R u { z with heap := h' }) : wpAny (model P w) B (Builtin.SmallTypes.nextOf (.ref c)) R F z := by
  cases k
  · exact nx_tup hc ht hu hR
  · exact wpAny_nextOf_list_item hc ht hu hR
theorem nx_end {k : Bool} {c t : Addr} {i : Nat} {us : Array Value} {R : Value → Shared → Prop} (hn : B.handled = none) (hc : AtI k z.heap c t i) (ht : AtQ k z.heap t us) (hu : us[i]? = none)
    (hF : ∀ h' e, Heap.ExtBut c z.heap h' → (∃ o, h'.get? e = some o ∧ o.cls = .type "StopIteration") → F (.ref e) { z with heap := h' }) : wpAny (model P w) B (Builtin.SmallTypes.nextOf (.ref c)) R F z := by
  cases k
  · exact nx_tup_end hn hc ht hu hF
  · exact wpAny_nextOf_list_end hn hc ht hu hF
abbrev itO (k : Bool) (l : Addr) : Obj := { cls := .type (nmI k), data := .fields #[.ref l, .int 0 0] }
theorem it_of {k : Bool} {l : Addr} {us : Array Value} {R : Value → Shared → Prop} (h : AtQ k z.heap l us) (hR : R (.ref z.heap.objs.size) { z with heap := z.heap.push (itO k l) }) : wpAny (model P w) B (pyIter (.ref l)) R F z := by
  cases k
  · exact wpAny_pyIter_tuple h hR
  · exact wpAny_pyIter_list h hR
end
end Zp
set_option Elab.async false
set_option linter.all false
set_option maxRecDepth 100000
set_option maxHeartbeats 4000000
namespace Zp
open PySem PySem.Spec PyProof.Rows L2
variable [Tb : A.Tabs]
structure Sr where
  k : Bool
  c : Addr
  l : Addr
  us : Array Value
def On (h : Heap) (i : Nat) (q : Sr) : Prop := AtI q.k h q.c q.l i ∧ AtQ q.k h q.l q.us
theorem On.at {h h' : Heap} {i : Nat} {q : Sr} (x : On h i q) (f : ∀ b o, b = q.c ∨ b = q.l → h.get? b = some o → h'.get? b = some o) : On h' i q :=
  ⟨x.1.at fun o e => f _ o (.inl rfl) e, x.2.at fun o e => f _ o (.inr rfl) e⟩
abbrev TupAt (h : Heap) (T : Addr) (vs : List Value) : Prop := h.get? T = some { cls := .type "tuple", data := .seq vs.toArray }
structure Ap (z TI TO : Addr) (L : List Sr) : Prop where
  TIz : TI ≠ z
  TOz : TO ≠ z
  TITO : TI ≠ TO
  nd : (L.map (·.c)).Nodup
  c : ∀ q ∈ L, q.c ≠ z ∧ q.c ≠ TI ∧ q.c ≠ TO
  l : ∀ q ∈ L, q.l ≠ z ∧ q.l ≠ TO ∧ ∀ r ∈ L, q.l ≠ r.c
theorem loop_rule {M : Model} {B : Around} {α β : Type} {b : β} {f : α → β → Sem (ForInStep β)} {E : Value → Shared → Prop} (I : Nat → Shared → Prop) : ∀ (xs : List α) (n : Nat) (s : Shared),
    (∀ j x, xs[j]? = some x → ∀ s, I (n + j) s → wpAny M B (f x b) (fun r s' => r = .yield b ∧ I (n + j + 1) s') E s) → I n s → wpAny M B (forIn xs b f) (fun r s' => r = b ∧ I (n + xs.length) s') E s
  | [], n, s, _, h => by
    rw [List.forIn_nil]; exact wpAny_pure ⟨rfl, h⟩
  | x :: r, n, s, hs, h => by
    rw [List.forIn_cons]
    refine wpAny_bind (wpAny_mono (hs 0 x rfl s h) (fun y s' hy => ?_) fun _ _ e => e)
    obtain ⟨rfl, hy⟩ := hy
    refine wpAny_mono (loop_rule I r (n + 1) s' (fun j x' e s2 h2 => ?_) hy) (fun y s2 h2 => ⟨h2.1, ?_⟩) fun _ _ e => e
    · rw [show n + 1 + j = n + (j + 1) by omega] at h2 ⊢
      exact hs (j + 1) x' (by simpa using e) s2 h2
    · rw [List.length_cons, show n + (r.length + 1) = n + 1 + r.length by omega]; exact h2.2
section
variable {P : Program} {w : World} {B : Around} {F : Value → Shared → Prop} {s : Shared}
def Kp (z TO : Addr) (L : List Sr) (h h' : Heap) : Prop := ∀ b o, b ≠ z → b ≠ TO → b ∉ L.map (·.c) → h.get? b = some o → h'.get? b = some o
structure Mid (s : Shared) (z TI TO : Addr) (L : List Sr) (i n : Nat) (s' : Shared) : Prop where
  zz : IsZip s'.heap z TI TO .ellipsis
  vs : ∃ vs : List Value, vs.length = L.length ∧ TupAt s'.heap TO vs ∧ ∀ (j : Nat) (q : Sr), j < n → L[j]? = some q → vs[j]? = q.us[i]? ∧ i < q.us.size
  on : ∀ (j : Nat) (q : Sr), L[j]? = some q → On s'.heap (if j < n then i + 1 else i) q
  sz : s'.heap.objs.size = s.heap.objs.size
  kp : Kp z TO L s.heap s'.heap
  eq : s' = { s with heap := s'.heap }
theorem nd_ne {L : List Sr} (h : (L.map (·.c)).Nodup) {i j : Nat} {p q : Sr} (hp : L[i]? = some p) (hq : L[j]? = some q) (hij : i ≠ j) : p.c ≠ q.c := by
  intro e
  have h1 : (L.map (·.c))[i]? = some p.c := by rw [List.getElem?_map, hp]; rfl
  have h2 : (L.map (·.c))[j]? = some q.c := by rw [List.getElem?_map, hq]; rfl
  obtain ⟨l1, g1⟩ := List.getElem?_eq_some_iff.mp h1
  obtain ⟨l2, g2⟩ := List.getElem?_eq_some_iff.mp h2
  exact hij ((List.getElem_inj h).mp (by rw [g1, g2, e]))
theorem zip_next {z TI TO : Addr} {L : List Sr} {i : Nat} {vs : List Value} {R : Value → Shared → Prop} (hh : B.handled = none) (D : Ap z TI TO L) (h0 : L ≠ [])
    (hz : IsZip s.heap z TI TO .none) (hI : TupAt s.heap TI (L.map fun q => .ref q.c)) (hO : TupAt s.heap TO vs) (hl : vs.length = L.length) (hL : L.length ≤ 8) (hon : ∀ q ∈ L, On s.heap i q)
    (hR : ∀ (h' : Heap) (ws : List Value), IsZip h' z TI TO (rawInt s.heap.objs.size) → ws.length = L.length → (∀ (j : Nat) (q : Sr), L[j]? = some q → ws[j]? = q.us[i]? ∧ i < q.us.size) → TupAt h' TO ws → TupAt h' s.heap.objs.size ws → (∀ q ∈ L, On h' (i + 1) q) →
      Kp z TO L s.heap h' → R (.ref s.heap.objs.size) { s with heap := h' })
    (hF : ∀ (h' : Heap) (e : Addr), Kp z TO L s.heap h' → (∃ o, h'.get? e = some o ∧ o.cls = .type "StopIteration") → (∃ q ∈ L, q.us.size ≤ i) → F (.ref e) { s with heap := h' }) :
    wpAny (model P w) B (Builtin.«zip.__next__» ⟨[.ref z], []⟩) (fun fin s' => ∃ v, fin = .done (.ret v) ∧ R v s') F s := by
  show wpAny _ _ (field (.ref z) 2 >>= _) _ _ _
  refine wpAny_bind (wpAny_field hz rfl (x := .bool false) rfl ?_)
  show wpAny _ _ (field (.ref z) 3 >>= _) _ _ _
  refine wpAny_bind (wpAny_field hz rfl (x := .ref TI) rfl ?_)
  refine wpAny_bind (wpAny_seqItems hI rfl ?_)
  have hne : ((L.map fun q => Value.ref q.c).toArray.isEmpty) = false := by cases L with | nil => exact absurd rfl h0 | cons q r => rfl
  simp only [hne, Bool.false_eq_true, if_false]
  show wpAny _ _ (Builtin.SmallTypes.ownedTupleIsFree (.ref z) >>= _) _ _ _
  refine wpAny_bind ?_
  unfold Builtin.SmallTypes.ownedTupleIsFree
  refine wpAny_bind (wpAny_field hz rfl (x := .none) rfl (wpAny_pure ?_))
  simp only [if_true]
  refine wpAny_bind (wpAny_rule (wpAny_bind (wpAny_field hz rfl (x := .ref TO) rfl (wpAny_bind (wpAny_setField_rec hz (by simp) fun h1 hz1 hs1 => ?_)))))
  replace hz1 : IsZip h1 z TI TO .ellipsis := hz1
  have M0 : Mid s z TI TO L i 0 { s with heap := h1 } := ⟨hz1, ⟨vs, hl, hs1.extBut _ _ D.TOz hO, fun j q h _ => absurd h (Nat.not_lt_zero _)⟩, fun j q e => (hon q (List.mem_of_getElem? e)).at fun b o hb x => by
      have hq := List.mem_of_getElem? e
      rcases hb with rfl | rfl
      · exact hs1.extBut _ _ (D.c q hq).1 x
      · exact hs1.extBut _ _ (D.l q hq).1 x, hs1.1, fun b o b1 _ _ x => hs1.extBut _ _ b1 x, rfl⟩
  refine wpAny_bind (wpAny_mono (loop_rule (Mid s z TI TO L i) _ 0 _ ?_ M0) ?_ fun _ _ e => e)
  · intro j x e s2 M
    rw [Nat.zero_add] at M ⊢
    obtain ⟨q, hq, rfl⟩ : ∃ q, L[j]? = some q ∧ x = (Value.ref q.c, j) := by
      simp only [List.getElem?_zipIdx, List.getElem?_map, Option.map_map] at e
      obtain ⟨q, hq, e⟩ := Option.map_eq_some_iff.mp e
      exact ⟨q, hq, by rw [← e]; simp⟩
    have hqm := List.mem_of_getElem? hq
    have jlt : j < L.length := (List.getElem?_eq_some_iff.mp hq).1
    have onq := M.on j q hq
    rw [if_neg (Nat.lt_irrefl j)] at onq
    obtain ⟨ws, wl, wO, wv⟩ := M.vs
    refine wpAny_bind (wpAny_onRaise ?_)
    show wpAny _ _ (Builtin.SmallTypes.nextOf (.ref q.c) >>= _) _ _ _
    cases hu : q.us[i]? with
    | none =>
      refine wpAny_bind (nx_end hh onq.1 onq.2 hu fun h3 e2 x3 he => ?_)
      obtain ⟨oe, goe, coe⟩ := he
      have hz3 : IsZip h3 z TI TO .ellipsis := x3 _ _ (D.c q hqm).1.symm M.zz
      have hez : e2 ≠ z := fun y => by subst y; rw [hz3] at goe; cases goe; simp at coe
      refine wpAny_setField_rec hz3 (by simp) fun h4 _ x4 => ?_
      rw [M.eq]
      exact hF h4 e2 (fun b o b1 b2 b3 y => x4.extBut _ _ b1 (x3 _ _ (fun q' => b3 (by rw [q']; exact List.mem_map_of_mem hqm)) (M.kp b o b1 b2 b3 y))) ⟨oe, x4.extBut _ _ hez goe, coe⟩ ⟨q, hqm, by simpa using hu⟩
    | some u =>
      refine wpAny_bind (nx onq.1 onq.2 hu fun h3 a3 x3 => wpAny_pure ?_)
      have hO3 : TupAt h3 TO ws := x3.extBut _ _ (D.c q hqm).2.2.symm wO
      refine wpAny_bind (wpAny_seqItems hO3 rfl (wpAny_bind (wpAny_updateSeq hO3 rfl ?_ (by rw [List.size_toArray, wl, sizeLine_eq]; omega) (by simp only [Array.size_setIfInBounds, List.size_toArray]; rw [wl, sizeLine_eq]; omega))))
      refine wpAny_bind (wpAny_letGo (wpAny_pure ⟨rfl, ?_⟩))
      have x4 : Heap.SameBut TO h3 (h3.update TO (Obj.mapSeq (·.setIfInBounds j u))) := Heap.SameBut.update ..
      have hu' : i < q.us.size := (Array.getElem?_eq_some_iff.mp hu).1
      have up : ∀ b o, b ≠ q.c → b ≠ TO → s2.heap.get? b = some o → (h3.update TO (Obj.mapSeq (·.setIfInBounds j u))).get? b = some o := fun b o b1 b2 y => x4.extBut _ _ b2 (x3.extBut _ _ b1 y)
      refine ⟨up _ _ (D.c q hqm).1.symm D.TOz.symm M.zz, ⟨ws.set j u, by rw [List.length_set]; exact wl, ?_, fun k r hk hr => ?_⟩, fun k r hr => ?_, ?_, fun b o b1 b2 b3 y => up b o (fun q' => b3 (by rw [q']; exact List.mem_map_of_mem hqm)) b2 (M.kp b o b1 b2 b3 y), ?_⟩
      · show (h3.update TO _).get? TO = _
        rw [Heap.get?_update_self _ hO3 rfl]
        simp [Obj.mapSeq]
      · by_cases hkj : k = j
        · subst hkj
          rw [hq] at hr; cases hr
          rw [List.getElem?_set, if_pos rfl, if_pos (by omega), hu]
          exact ⟨rfl, hu'⟩
        · rw [List.getElem?_set, if_neg (fun q => hkj q.symm)]
          exact wv k r (by omega) hr
      · have hrm := List.mem_of_getElem? hr
        by_cases hkj : k = j
        · subst hkj
          rw [hq] at hr; cases hr
          rw [if_pos (Nat.lt_succ_self _)]
          exact ⟨a3.at fun o y => x4.extBut _ _ (D.c q hqm).2.2 y, onq.2.at fun o y => up _ o ((D.l q hqm).2.2 q hqm) (D.l q hqm).2.1 y⟩
        · have := M.on k r hr
          rw [show (if k < j then i + 1 else i) = (if k < j + 1 then i + 1 else i) from by
            by_cases h : k < j
            · rw [if_pos h, if_pos (by omega)]
            · rw [if_neg h, if_neg (by omega)]] at this
          exact this.at fun b o hb y => by
            rcases hb with rfl | rfl
            · exact up _ _ (nd_ne D.nd hr hq hkj) (D.c r hrm).2.2 y
            · exact up _ _ ((D.l r hrm).2.2 q hqm) (D.l r hrm).2.1 y
      · show (h3.update TO _).objs.size = _
        rw [x4.1, x3.1, M.sz]
      · rw [M.eq]
  · rintro r s2 ⟨rfl, M⟩
    have hL2 : 0 + ((L.map fun q => Value.ref q.c).toArray.toList.zipIdx).length = L.length := by simp
    rw [hL2] at M
    obtain ⟨ws, wl, wO, wv⟩ := M.vs
    refine wpAny_bind (wpAny_seqItems wO rfl (wpAny_bind (wpAny_newTuple ?_ (by show ws.length ≤ _; rw [wl, sizeLine_eq]; omega))))
    show wpAny _ _ (Builtin.SmallTypes.ownedTupleHandOut (.ref z) (.ref s2.heap.objs.size) >>= _) _ _ _
    refine wpAny_bind ?_
    unfold Builtin.SmallTypes.ownedTupleHandOut
    have hz6 : IsZip (s2.heap.push { cls := .type "tuple", data := .seq ws.toArray }) z TI TO .ellipsis := Heap.get?_push_of_some _ M.zz
    refine wpAny_bind (wpAny_setField_rec hz6 (by simp) fun h7 hz7 x7 => ?_)
    replace hz7 : IsZip h7 z TI TO (rawInt s2.heap.objs.size) := hz7
    refine wpAny_setField_rec hz7 (by simp) fun h8 hz8 x8 => ?_
    replace hz8 : IsZip h8 z TI TO (rawInt s2.heap.objs.size) := hz8
    have up : ∀ b o, b ≠ z → s2.heap.get? b = some o → h8.get? b = some o := fun b o b1 y => x8.extBut _ _ b1 (x7.extBut _ _ b1 (Heap.get?_push_of_some _ y))
    have hzl : z < s2.heap.objs.size := Heap.lt_size M.zz
    have hT8 : TupAt h8 s2.heap.objs.size ws := x8.extBut _ _ (Nat.ne_of_gt hzl) (x7.extBut _ _ (Nat.ne_of_gt hzl) (Heap.get?_push_size _ rfl))
    refine wpAny_pure ⟨_, rfl, ?_⟩
    show R (.ref s2.heap.objs.size) _
    rw [M.sz] at hz8 hT8 ⊢
    have e := M.eq
    rw [e]
    exact hR h8 ws hz8 wl (fun j q hq => wv j q (List.getElem?_eq_some_iff.mp hq).1 hq) (up _ _ D.TOz wO) hT8 (fun q hq => by
      obtain ⟨j, hj⟩ := List.getElem?_of_mem hq
      have := M.on j q hj
      rw [if_pos (List.getElem?_eq_some_iff.mp hj).1] at this
      exact this.at fun b o hb y => by
        rcases hb with rfl | rfl
        · exact up _ _ (D.c q hq).1 y
        · exact up _ _ (D.l q hq).1 y) fun b o b1 b2 b3 y => up b o b1 (M.kp b o b1 b2 b3 y)
end
end Zp
set_option Elab.async false
set_option linter.all false
set_option maxRecDepth 100000
set_option maxHeartbeats 4000000
namespace Zp
open PySem PySem.Spec PyProof.Rows L2
variable [Tb : A.Tabs]
section
variable {P : Program} {w : World} {B : Around} {F' : Value → Shared → Prop} {s : Shared}
abbrev zO (TI TO : Addr) : Obj := { cls := .type "zip", data := .fields #[.none, .bool false, .bool false, .ref TI, .ref TO] }
abbrev tO (vs : List Value) : Obj := { cls := .type "tuple", data := .seq vs.toArray }
theorem mk2 (k1 k2 : Bool) (l1 l2 : Addr) (xs ys : Array Value) :
    Meets (Builtin.«zip.__new__» ⟨[.type "zip", .ref l1, .ref l2], []⟩) (fun _ R s => AtQ k1 s.heap l1 xs ∧ AtQ k2 s.heap l2 ys ∧
      ∀ h1 h2 h3 h4 : Heap, h1 = s.heap.push (itO k1 l1) → h2 = h1.push (itO k2 l2) → h3 = h2.push (tO [.ref s.heap.objs.size, .ref h1.objs.size]) → h4 = h3.push (tO [.none, .none]) →
      R (.ok (.ret (.ref h4.objs.size))) { s with heap := h4.push (zO h2.objs.size h3.objs.size) }) :=
  .of_wp fun prog w A R s h => by
    obtain ⟨hp, g, d, tk, os⟩ := s; obtain ⟨a1, a2, h⟩ := h
    have hsub := sub_zip
    have b1 : AtQ k1 (Shared.heap ⟨hp, g, d, tk, os⟩) l1 xs := a1
    have b2 : AtQ k2 (Shared.heap ⟨hp.push (itO k1 l1), g, d, tk, os⟩) l2 ys := a2.at fun o e => Heap.get?_push_of_some _ e
    wp_walk using it_of b1, it_of b2
    exact ⟨_, rfl, h _ _ _ _ rfl rfl rfl rfl⟩
abbrev Tr := Bool × Addr × Addr
structure Zs (h : Heap) (z TI TO : Addr) (T : List Tr) (i : Nat) : Prop where
  zz : IsZip h z TI TO .none
  ti : TupAt h TI (T.map fun q => .ref q.2.1)
  to : ∃ vs : List Value, vs.length = T.length ∧ TupAt h TO vs
  it : ∀ q ∈ T, AtI q.1 h q.2.1 q.2.2 i
theorem call2 {k1 k2 : Bool} {l1 l2 : Addr} {xs ys : Array Value} {R : Value → Shared → Prop} (a1 : AtQ k1 s.heap l1 xs) (a2 : AtQ k2 s.heap l2 ys)
    (h : ∀ h', Zs h' (s.heap.objs.size + 4) (s.heap.objs.size + 2) (s.heap.objs.size + 3) [(k1, s.heap.objs.size, l1), (k2, s.heap.objs.size + 1, l2)] 0 → (∀ c o, s.heap.get? c = some o → h'.get? c = some o) →
      R (.ref (s.heap.objs.size + 4)) { s with heap := h' }) : wpAny (model P w) B (call (.type "zip") [.ref l1, .ref l2]) R F' s := by
  refine callType_new F.called_zip (by decide) (F.typeCall_zip_2 _ _) (F.newCall_zip_2 _ _) (fun obj => F.args_object_init_3 obj _ _) F.entry_zip_new (mk2 k1 k2 l1 l2 xs ys) ⟨a1, a2, ?_⟩
  intro h1 h2 h3 h4 e1 e2 e3 e4
  have z1 : h1.objs.size = s.heap.objs.size + 1 := by rw [e1]; exact Heap.size_push ..
  have z2 : h2.objs.size = s.heap.objs.size + 2 := by rw [e2, Heap.size_push, z1]
  have z3 : h3.objs.size = s.heap.objs.size + 3 := by rw [e3, Heap.size_push, z2]
  have z4 : h4.objs.size = s.heap.objs.size + 4 := by rw [e4, Heap.size_push, z3]
  have p1 : ∀ c o, s.heap.get? c = some o → h1.get? c = some o := fun c o x => by rw [e1]; exact Heap.get?_push_of_some _ x
  have p2 : ∀ c o, h1.get? c = some o → h2.get? c = some o := fun c o x => by rw [e2]; exact Heap.get?_push_of_some _ x
  have p3 : ∀ c o, h2.get? c = some o → h3.get? c = some o := fun c o x => by rw [e3]; exact Heap.get?_push_of_some _ x
  have p4 : ∀ c o, h3.get? c = some o → h4.get? c = some o := fun c o x => by rw [e4]; exact Heap.get?_push_of_some _ x
  have p5 : ∀ c o, h4.get? c = some o → (h4.push (zO h2.objs.size h3.objs.size)).get? c = some o := fun c o x => Heap.get?_push_of_some _ x
  have g1 : h1.get? s.heap.objs.size = some (itO k1 l1) := by rw [e1]; exact Heap.get?_push_size _ rfl
  have g2 : h2.get? h1.objs.size = some (itO k2 l2) := by rw [e2]; exact Heap.get?_push_size _ rfl
  have g3 : h3.get? h2.objs.size = some (tO [.ref s.heap.objs.size, .ref h1.objs.size]) := by rw [e3]; exact Heap.get?_push_size _ rfl
  have g4 : h4.get? h3.objs.size = some (tO [.none, .none]) := by rw [e4]; exact Heap.get?_push_size _ rfl
  have g5 : (h4.push (zO h2.objs.size h3.objs.size)).get? h4.objs.size = some (zO h2.objs.size h3.objs.size) := Heap.get?_push_size _ rfl
  show _ ∧ _
  refine ⟨⟨_, g5, rfl⟩, ?_⟩
  rw [z1] at g2 g3
  rw [z2] at g3
  rw [z3] at g4
  rw [z4] at g5 ⊢
  rw [z2, z3] at g5 p5 ⊢
  exact h _ ⟨g5, p5 _ _ (p4 _ _ g3), ⟨_, rfl, p5 _ _ g4⟩, fun q hq => by
    rcases List.mem_cons.mp hq with rfl | hq
    · exact ⟨_, p5 _ _ (p4 _ _ (p3 _ _ (p2 _ _ g1))), rfl, rfl⟩
    · obtain rfl := List.mem_singleton.mp hq
      exact ⟨_, p5 _ _ (p4 _ _ (p3 _ _ g2)), rfl, rfl⟩⟩ fun c o x => p5 _ _ (p4 _ _ (p3 _ _ (p2 _ _ (p1 _ _ x))))
end
end Zp
set_option Elab.async false
set_option linter.all false
set_option maxRecDepth 100000
set_option maxHeartbeats 4000000
namespace Zp
open PySem PySem.Spec PyProof.Rows L2 A
variable [Tb : A.Tabs]
def SqB (H : Hp) (s : Bool × Addr) (xs : List V) : Prop := match s.1 with
  | true => Lst H s.2 xs
  | false => H s.2 = some (.tup xs)
theorem SqB.nn {H : Hp} {s : Bool × Addr} {xs : List V} (h : SqB H s xs) : H s.2 ≠ none := by
  obtain ⟨k, a⟩ := s
  cases k
  · have h : H a = _ := h
    show H a ≠ none
    rw [h]; simp
  · rcases (show Lst H a xs from h) with h | ⟨o, h⟩
    · show H a ≠ none
      rw [h]; simp
    · show H a ≠ none
      rw [h]; simp
theorem SqB.inj {H : Hp} {s : Bool × Addr} {xs ys : List V} (h : SqB H s xs) (h' : SqB H s ys) : xs = ys := by
  obtain ⟨k, a⟩ := s
  cases k
  · have h : H a = some (.tup xs) := h
    have h' : H a = some (.tup ys) := h'
    rw [h] at h'; cases h'; rfl
  · rcases (show Lst H a xs from h) with h | ⟨o, h⟩ <;> rcases (show Lst H a ys from h') with h' | ⟨o', h'⟩ <;> rw [h] at h' <;> cases h' <;> rfl
theorem SqB.at {X : Cx} {pins : List (Addr × Obj)} {σ : L2.St} {H : Hp} {s : Shared} {k : Bool} {a : Addr} {xs : List V} (I : Inv X pins σ H s) (h : SqB H (k, a) xs) : ∃ its : List Value, Vals xs its ∧ AtQ k s.heap a its.toArray := by
  cases k
  · have h : H a = some (.tup xs) := h
    obtain ⟨_, its, rv, o, e, c, _, d⟩ := I.hok a _ h
    exact ⟨its, rv, o, e, c, d⟩
  · have h : Lst H a xs := h
    obtain ⟨its, rv, ⟨o, n, e, c, _, d⟩, _⟩ := I.list h.sq
    exact ⟨its, rv, o, e, c, n, d⟩
abbrev Srcs (H : Hp) (S : List (Bool × Addr)) (xss : List (List V)) : Prop := P2 (fun s xs => SqB H s xs) S xss
def Itz (S : List (Bool × Addr)) : It :=
  ⟨fun i H => ∃ xss, Srcs H S xss ∧ ∀ xs ∈ xss, i < xs.length,
   fun i H v H' => ∃ p ws, (∀ xss, Srcs H S xss → P2 (fun (xs : List V) x => xs[i]? = some x) xss ws) ∧ H p = none ∧ v = .ref p ∧ H' = upd H p (.tup ws),
   fun i H => ∃ xss, Srcs H S xss ∧ ∃ xs ∈ xss, xs.length ≤ i⟩
theorem srcs_inj {H : Hp} : ∀ {S : List (Bool × Addr)} {xss yss : List (List V)}, Srcs H S xss → Srcs H S yss → xss = yss
  | _, _, _, .nil, .nil => rfl
  | _, _, _, .cons a r, .cons b t => by rw [a.inj b, srcs_inj r t]
theorem lie {X : Cx} {pins : List (Addr × Obj)} {σ : L2.St} {H : Hp} {s : Shared} (I : Inv X pins σ H s) : ∀ {T : List Tr} {xss : List (List V)}, Srcs H (T.map fun q => (q.1, q.2.2)) xss →
    ∃ L : List Sr, L.map (fun q => (q.k, q.c, q.l)) = T ∧ (∀ q ∈ L, AtQ q.k s.heap q.l q.us ∧ H q.l ≠ none) ∧ P2 (fun (q : Sr) xs => Vals xs q.us.toList) L xss
  | [], _, .nil => ⟨[], rfl, fun q h => absurd h (by simp), .nil⟩
  | (k, c, l) :: T, _, .cons a r => by
    obtain ⟨L, e, h, p⟩ := lie I r
    obtain ⟨its, rv, q⟩ := a.at I
    refine ⟨⟨k, c, l, its.toArray⟩ :: L, by rw [List.map_cons, e], fun y hy => ?_, .cons rv p⟩
    rcases List.mem_cons.mp hy with rfl | hy
    · exact ⟨q, a.nn⟩
    · exact h y hy
theorem pick {i : Nat} : ∀ {L : List Sr} {xss : List (List V)} {ws : List Value}, P2 (fun (q : Sr) xs => Vals xs q.us.toList) L xss → ws.length = L.length → (∀ (j : Nat) (q : Sr), L[j]? = some q → ws[j]? = q.us[i]? ∧ i < q.us.size) →
    ∃ vws : List V, Vals vws ws ∧ P2 (fun (xs : List V) x => xs[i]? = some x) xss vws
  | _, _, [], .nil, _, _ => ⟨[], .nil, .nil⟩
  | _, _, w :: ws, .cons (a := q) (b := xs) rv t, hl, h => by
    obtain ⟨vws, r, p⟩ := pick t (by simpa using hl) fun j r hr => by simpa using h (j + 1) r (by simpa using hr)
    obtain ⟨e, hi⟩ := h 0 q rfl
    have hlen := rv.length
    have hix : i < xs.length := by simp at hlen; omega
    obtain ⟨u, hu, ru⟩ := rv.get (i := i) (x := xs[i]) (by simp [hix])
    have : some w = some u := by
      have e' : some w = q.us[i]? := e
      rw [e', ← hu]; simp
    cases this
    exact ⟨xs[i] :: vws, .cons ru r, .cons (by simp [hix]) p⟩
  | _, _, [], .cons _ _, hl, _ => by simp at hl
  | _, _, w :: ws, .nil, hl, _ => by simp at hl
structure Ap0 (z TI TO : Addr) (T : List Tr) : Prop where
  TIz : TI ≠ z
  TOz : TO ≠ z
  TITO : TI ≠ TO
  nd : (T.map (·.2.1)).Nodup
  c : ∀ q ∈ T, q.2.1 ≠ z ∧ q.2.1 ≠ TI ∧ q.2.1 ≠ TO
theorem turn_zip {P : Program} {w : World} {K : PySem.W.Frag} {elts : List Expr} {k1 : Nat} {pos : Pos} {z TI TO : Addr} {T : List Tr} (D0 : Ap0 z TI TO T) (hT0 : T ≠ []) (hT8 : T.length ≤ 8) :
    Turn P w K (.Tuple elts k1 pos) (Itz (T.map fun q => (q.1, q.2.2))) (z :: TI :: TO :: T.map (·.2.1)) z (fun i h => Zs h z TI TO T i) where
  mem := by simp
  obj := fun i h st b hb => by
    rcases List.mem_cons.mp hb with rfl | hb
    · exact ⟨_, st.zz, fun v q => by cases q⟩
    rcases List.mem_cons.mp hb with rfl | hb
    · exact ⟨_, st.ti, fun v q => by cases q⟩
    rcases List.mem_cons.mp hb with rfl | hb
    · obtain ⟨vs, _, h⟩ := st.to
      exact ⟨_, h, fun v q => by cases q⟩
    · obtain ⟨q, hq, rfl⟩ := List.mem_map.mp hb
      exact (st.it q hq).cell
  keep := fun i h h' st kk => ⟨kk z (by simp) _ st.zz, kk TI (by simp) _ st.ti, let ⟨vs, l, e⟩ := st.to; ⟨vs, l, kk TO (by simp) _ e⟩, fun q hq => (st.it q hq).at fun o e => kk _ (by simp only [List.mem_cons]; exact .inr (.inr (.inr (List.mem_map_of_mem (f := fun q : Tr => q.2.1) hq)))) o e⟩
  item := by
    intro X hP hw hK hc i pins s σ H E I hf st hg
    subst hP hw hK
    obtain ⟨xss, hq, hx⟩ := hg
    obtain ⟨L, eL, at_, rL⟩ := lie I hq
    have eT : T.map (fun q => (Value.ref q.2.1)) = L.map fun q => .ref q.c := by rw [← eL, List.map_map]; rfl
    have eC : T.map (fun q => q.2.1) = L.map fun q => q.c := by rw [← eL, List.map_map]; rfl
    have lT : T.length = L.length := by rw [← eL, List.length_map]
    have inT : ∀ q ∈ L, (q.k, q.c, q.l) ∈ T := fun q h => by rw [← eL]; exact List.mem_map_of_mem (f := fun q : Sr => (q.k, q.c, q.l)) h
    have lne : ∀ q ∈ L, ∀ b ∈ z :: TI :: TO :: T.map (·.2.1), q.l ≠ b := fun q h b hb e => (at_ q h).2 (by rw [e]; exact (hf b hb).1)
    have D : Ap z TI TO L := ⟨D0.TIz, D0.TOz, D0.TITO, by rw [← eC]; exact D0.nd, fun q h => D0.c _ (inT q h), fun q h => ⟨lne q h z (by simp), lne q h TO (by simp), fun r hr => lne q h r.c (by rw [eC]; simp only [List.mem_cons]; exact .inr (.inr (.inr (List.mem_map_of_mem (f := fun q : Sr => q.c) hr))))⟩⟩
    have hO := st.to
    obtain ⟨vs, vl, hO⟩ := hO
    have hTI := st.ti
    rw [eT] at hTI
    have hty : s.TypeIs (.ref z) "zip" := ⟨_, st.zz, rfl⟩
    unfold pyNext
    refine wpAny_bind (wpAny_attempt (wpAny_callSpecial?_slot (name := Str.ofString "__next__") hty F.slot_zip_next (wpAny_call_entry F.slot_zip_next hty F.entry_zip_next
      (zip_next (by first | exact I.ok.hd hc | (simp; exact I.ok.hd hc)) D (fun e => hT0 (by rw [e] at lT; exact List.eq_nil_of_length_eq_zero lT)) st.zz hTI hO (by rw [vl, lT]) (by omega) (fun q h => ⟨st.it _ (inT q h), (at_ q h).1⟩) (fun h' ws hz' wl wv hO' hN on' kp => wpAny_pure ?_) (fun h' e kp he hend => ?_)) (F.args_zip_next_1 _))))
    · refine ⟨_, rfl, wpAny_letOwnedTupleGo_zip hz' fun h2 hz2 hs2 => ?_⟩
      have kk : ∀ b o, b ∉ z :: TI :: TO :: T.map (·.2.1) → s.heap.get? b = some o → h2.get? b = some o := fun b o hb q => by
        simp only [List.mem_cons, not_or] at hb
        exact (hs2.2 b hb.1).trans (kp b o hb.1 hb.2.2.1 (by rw [← eC]; exact hb.2.2.2) q)
      have hne : ∀ b ∈ z :: TI :: TO :: T.map (·.2.1), b ≠ s.heap.objs.size := fun b hb e => by
        obtain ⟨o, ho, _⟩ : ∃ o, s.heap.get? b = some o ∧ True := by
          rcases List.mem_cons.mp hb with rfl | hb
          · exact ⟨_, st.zz, trivial⟩
          rcases List.mem_cons.mp hb with rfl | hb
          · exact ⟨_, st.ti, trivial⟩
          rcases List.mem_cons.mp hb with rfl | hb
          · exact ⟨_, hO, trivial⟩
          · obtain ⟨q, hq, rfl⟩ := List.mem_map.mp hb
            obtain ⟨o, ho, _⟩ := st.it q hq
            exact ⟨o, ho, trivial⟩
        exact absurd (Heap.lt_size ho) (by rw [e]; exact Nat.lt_irrefl _)
      obtain ⟨vws, hv, hy⟩ : ∃ vws : List V, Vals vws ws ∧ P2 (fun (xs : List V) x => xs[i]? = some x) xss vws := by
        exact pick rL wl wv
      have hN2 : TupAt h2 s.heap.objs.size ws := (hs2.2 _ (fun e => hne z (by simp) e.symm)).trans hN
      refine ⟨.ref s.heap.objs.size, upd H s.heap.objs.size (.tup vws), turned_new (s := s) (t' := s.toks) I hf kk (Nat.le_refl _) ⟨?_, ws, hv, ⟨_, hN2, rfl, rfl, _, rfl⟩⟩, rfl, ⟨_, vws, fun yss h => by rw [srcs_inj h hq]; exact hy, I.hok.fresh (Nat.le_refl _), rfl, rfl⟩, ?_, fun b hb => ?_⟩
      · rw [hv.length, wl, sizeLine_eq]; omega
      · refine ⟨hz2, (hs2.2 _ D0.TIz).trans ?_, ⟨ws, by rw [wl, lT], (hs2.2 _ D0.TOz).trans hO'⟩, fun q hq2 => ?_⟩
        · exact kp _ _ D0.TIz D0.TITO (fun h => by
            rw [← eC] at h
            obtain ⟨q, hq2, e⟩ := List.mem_map.mp h
            exact (D0.c q hq2).2.1 e) st.ti
        · rw [← eL] at hq2
          obtain ⟨r, hr, rfl⟩ := List.mem_map.mp hq2
          exact (on' r hr).1.at fun o q => (hs2.2 _ (D.c r hr).1).trans q
      · rw [upd_ne (hne b hb)]; exact (hf b hb).1
    · exfalso
      obtain ⟨q, hqm, hle⟩ := hend
      obtain ⟨j, hj⟩ := List.getElem?_of_mem hqm
      obtain ⟨xs, hxs, rv⟩ := rL.getL hj
      have := hx xs (List.mem_of_getElem? hxs)
      have := rv.length
      simp at this
      omega
  done := by
    intro X hP hw hK hc i pins s σ H E I hf st hg
    subst hP hw hK
    obtain ⟨xss, hq, xs0, hx0, hxl⟩ := hg
    obtain ⟨L, eL, at_, rL⟩ := lie I hq
    have eT : T.map (fun q => (Value.ref q.2.1)) = L.map fun q => .ref q.c := by rw [← eL, List.map_map]; rfl
    have eC : T.map (fun q => q.2.1) = L.map fun q => q.c := by rw [← eL, List.map_map]; rfl
    have lT : T.length = L.length := by rw [← eL, List.length_map]
    have inT : ∀ q ∈ L, (q.k, q.c, q.l) ∈ T := fun q h => by rw [← eL]; exact List.mem_map_of_mem (f := fun q : Sr => (q.k, q.c, q.l)) h
    have lne : ∀ q ∈ L, ∀ b ∈ z :: TI :: TO :: T.map (·.2.1), q.l ≠ b := fun q h b hb e => (at_ q h).2 (by rw [e]; exact (hf b hb).1)
    have D : Ap z TI TO L := ⟨D0.TIz, D0.TOz, D0.TITO, by rw [← eC]; exact D0.nd, fun q h => D0.c _ (inT q h), fun q h => ⟨lne q h z (by simp), lne q h TO (by simp), fun r hr => lne q h r.c (by rw [eC]; simp only [List.mem_cons]; exact .inr (.inr (.inr (List.mem_map_of_mem (f := fun q : Sr => q.c) hr))))⟩⟩
    have hO := st.to
    obtain ⟨vs, vl, hO⟩ := hO
    have hTI := st.ti
    rw [eT] at hTI
    have hty : s.TypeIs (.ref z) "zip" := ⟨_, st.zz, rfl⟩
    unfold pyNext
    refine wpAny_bind (wpAny_attempt (wpAny_callSpecial?_slot (name := Str.ofString "__next__") hty F.slot_zip_next (wpAny_call_entry F.slot_zip_next hty F.entry_zip_next
      (zip_next (by first | exact I.ok.hd hc | (simp; exact I.ok.hd hc)) D (fun e => hT0 (by rw [e] at lT; exact List.eq_nil_of_length_eq_zero lT)) st.zz hTI hO (by rw [vl, lT]) (by omega) (fun q h => ⟨st.it _ (inT q h), (at_ q h).1⟩) (fun h' ws hz' wl wv hO' hN on' kp => ?_) (fun h' e kp he hend => ?_)) (F.args_zip_next_1 _))))
    · exfalso
      obtain ⟨j, hj⟩ := List.getElem?_of_mem hx0
      obtain ⟨q, hqj, rv⟩ := rL.getR hj
      have := (wv j q hqj).2
      have := rv.length
      simp at this
      omega
    · obtain ⟨o, ho, hcl⟩ := he
      refine wpAny_bind (wpAny_isInstance (T := "StopIteration") (b := true) ⟨o, ho, hcl⟩ isSubtype_stop (wpAny_pure ⟨rfl, ?_⟩))
      exact turned_all (s := s) (t' := s.toks) I hf fun b o hb q => by
        simp only [List.mem_cons, not_or] at hb
        exact kp b o hb.1 hb.2.2.1 (by rw [← eC]; exact hb.2.2.2) q
  self := fun _ i s Q E st h => wpAny_pyIter_zip st.zz h
end Zp
set_option Elab.async false
set_option linter.all false
set_option maxRecDepth 100000
set_option maxHeartbeats 4000000
namespace Mi
def dQItems : D → Rs (List D)
  | .lst ds => .ok ds
  | .tup ds => .ok ds
  | _ => .no
def iZip2q (a b : E) : I := fun e => (a e).bind fun x => (b e).bind fun y => (dQItems x).bind fun ds => (dQItems y).bind fun es => .ok (dZip2 ds es)
end Mi
namespace Zp
open PySem PySem.Spec PyProof.Rows L2 A
open Mi (D W Rs Fin fin_bind)
variable [Tb : A.Tabs]
theorem SqB.same {H H' : Hp} {s : Bool × Addr} {xs : List V} (h : Same H H') (q : SqB H s xs) : SqB H' s xs := by
  obtain ⟨k, a⟩ := s
  cases k
  · exact h _ _ q
  · exact Lst.same (a := a) h q
theorem srcs_same {H H' : Hp} {S : List (Bool × Addr)} {xss : List (List V)} (h : Same H H') (q : Srcs H S xss) : Srcs H' S xss := q.imp fun _ _ x => x.same h
def Zips (dss : List (List D)) (dz : List D) : Prop := (∀ i, i < dz.length → ∃ us, dz[i]? = some (.tup us) ∧ P2 (fun (ds : List D) u => ds[i]? = some u) dss us) ∧ ∃ ds ∈ dss, ds.length = dz.length
theorem picks {Hv : Hp} {i : Nat} : ∀ {dss : List (List D)} {xss : List (List V)} {us : List D} {ws : List V}, P2 (P2 (Rep Hv)) dss xss → P2 (fun (ds : List D) u => ds[i]? = some u) dss us → P2 (fun (xs : List V) x => xs[i]? = some x) xss ws → P2 (Rep Hv) us ws
  | _, _, _, _, .nil, .nil, .nil => .nil
  | _, _, _, _, .cons a r, .cons b s, .cons c t => .cons (a.get b c) (picks r s t)
theorem p2_mem {α β : Type} {F : α → β → Prop} : ∀ {l : List α} {m : List β} {b : β}, P2 F l m → b ∈ m → ∃ a ∈ l, F a b
  | _, _, _, .cons x t, h => by
    rcases List.mem_cons.mp h with rfl | h
    · exact ⟨_, List.mem_cons_self .., x⟩
    · obtain ⟨a, ha, q⟩ := p2_mem t h
      exact ⟨a, List.mem_cons_of_mem _ ha, q⟩
theorem p2_memL {α β : Type} {F : α → β → Prop} : ∀ {l : List α} {m : List β} {a : α}, P2 F l m → a ∈ l → ∃ b ∈ m, F a b
  | _, _, _, .cons x t, h => by
    rcases List.mem_cons.mp h with rfl | h
    · exact ⟨_, List.mem_cons_self .., x⟩
    · obtain ⟨a, ha, q⟩ := p2_memL t h
      exact ⟨a, List.mem_cons_of_mem _ ha, q⟩
def ZP (S : List (Bool × Addr)) (dss : List (List D)) (xss : List (List V)) (_ Hv : Hp) : Prop := Srcs Hv S xss ∧ P2 (P2 (Rep Hv)) dss xss
theorem itD_zip {S : List (Bool × Addr)} {dss : List (List D)} {xss : List (List V)} {dz : List D} (hz : Zips dss dz) : ItD (Itz S) (ZP S dss xss) dz := by
  refine ⟨fun i H Hv p v hi => ?_, fun i H Hv x H' p v hi y => ?_, fun H Hv p v => ?_⟩
  · obtain ⟨us, _, hu⟩ := hz.1 i hi
    refine ⟨xss, srcs_same v.sub p.1, fun xs hx => ?_⟩
    obtain ⟨ds, hd, r⟩ := p2_mem p.2 hx
    obtain ⟨u, _, e⟩ := p2_memL hu hd
    have := (List.getElem?_eq_some_iff.mp e).1
    rw [← r.len]; exact this
  · obtain ⟨us, hd, hu⟩ := hz.1 i hi
    obtain ⟨q, ws, hw, hq, rfl, rfl⟩ := y
    have r := picks p.2 hu (hw xss (srcs_same v.sub p.1))
    obtain ⟨g, k⟩ := new_kT v r hq
    exact ⟨_, .tup us, g, hd, k⟩
  · obtain ⟨ds, hd, e⟩ := hz.2
    obtain ⟨xs, hx, r⟩ := p2_memL p.2 hd
    exact ⟨xss, srcs_same v.sub p.1, xs, hx, by rw [← r.len]; omega⟩
theorem zips2 : ∀ ds es : List D, Zips [ds, es] (Mi.dZip2 ds es)
  | [], es => ⟨fun i h => absurd h (by simp [Mi.dZip2]), [], by simp, by simp [Mi.dZip2]⟩
  | d :: r, [] => ⟨fun i h => absurd h (by simp [Mi.dZip2]), [], by simp, by simp [Mi.dZip2]⟩
  | d :: r, e :: s => by
    obtain ⟨h1, ds, hd, hl⟩ := zips2 r s
    refine ⟨fun i hi => ?_, ?_⟩
    · cases i with
      | zero => exact ⟨[d, e], rfl, .cons rfl (.cons rfl .nil)⟩
      | succ i =>
        obtain ⟨us, a, b⟩ := h1 i (by simpa [Mi.dZip2] using hi)
        refine ⟨us, by simpa [Mi.dZip2] using a, ?_⟩
        cases b with
        | cons x t =>
          cases t with
          | cons y t => cases t; exact .cons (by simpa using x) (.cons (by simpa using y) .nil)
    · rcases List.mem_cons.mp hd with rfl | hd
      · exact ⟨d :: ds, by simp, by simp [Mi.dZip2, hl]⟩
      · obtain rfl := List.mem_singleton.mp hd
        exact ⟨e :: ds, by simp, by simp [Mi.dZip2, hl]⟩
theorem dQ_ok {x : D} {k : List D → Prop} (h : Fin (Mi.dQItems x) k) : ∃ ds, (x = .lst ds ∨ x = .tup ds) ∧ k ds := by
  cases x with
  | lst b => exact ⟨b, .inl rfl, h⟩
  | tup b => exact ⟨b, .inr rfl, h⟩
  | _ => exact h.elim
theorem dQ_rep {H : Hp} {x : D} {ds : List D} {v : V} (h : x = .lst ds ∨ x = .tup ds) (r : Rep H x v) : ∃ k a xs, v = .ref a ∧ SqB H (k, a) xs ∧ P2 (Rep H) ds xs := by
  rcases h with rfl | rfl
  · obtain ⟨a, xs, e, l, r⟩ := rep_lst.mp r
    exact ⟨true, a, xs, e, l, r⟩
  · obtain ⟨a, xs, e, l, r⟩ := rep_tup.mp r
    exact ⟨false, a, xs, e, l, r⟩
section
variable {X : Cx} {elts : List Expr} {k1 : Nat} {tpos : Pos} {M : Nat → Bool}
theorem neA {a b : Nat} (h : a ≠ b) : @Ne Addr a b := h
theorem ge_of {n : Nat} : ∀ {b : Nat}, b ∈ ([n + 4, n + 2, n + 3, n, n + 1] : List Nat) → n ≤ b := fun {b} h => by simp at h; omega
theorem ap2 (n : Nat) (k k' : Bool) (l l' : Addr) : Ap0 (n + 4) (n + 2) (n + 3) [(k, n, l), (k', n + 1, l')] :=
  ⟨neA (by omega), neA (by omega), neA (by omega), by show ([n, n + 1] : List Nat).Nodup; simp, fun q hq => by
    rcases List.mem_cons.mp hq with rfl | hq
    · exact ⟨neA (show n ≠ n + 4 by omega), neA (show n ≠ n + 2 by omega), neA (show n ≠ n + 3 by omega)⟩
    · obtain rfl := List.mem_singleton.mp hq
      exact ⟨neA (show n + 1 ≠ n + 4 by omega), neA (show n + 1 ≠ n + 2 by omega), neA (show n + 1 ≠ n + 3 by omega)⟩⟩
def iZL2 (ta tb : TE) : TI := fun σ H R => ta σ H fun x H1 => tb σ H1 fun y H2 => ∃ S xss, [x, y] = S.map (fun s : Bool × Addr => V.ref s.2) ∧ S.length = 2 ∧ Srcs H2 S xss ∧ R (Itz S) H2
theorem pi_zip2 {a b : Expr} {ta tb : TE} {p pos : Pos} (hg : Gl X "zip") (hm : X.mg "zip" = none) (ha : PE X a ta) (hb : PE X b tb) (hs : starEach [a, b] X.env = [(false, eval a X.env), (false, eval b X.env)] := by rfl) (hs0 : starEach [a, b] X.env = (false, eval a X.env) :: starEach [b] X.env := by rfl) (hs1 : starEach [b] X.env = (false, eval b X.env) :: starEach [] X.env := by rfl) (hpl : (backTo pos (starEach [b] X.env)).any (·.1) = false := by rfl) :
    PI X (.Tuple elts k1 tpos) (.Call (.Name "zip" p) [a, b] [] pos) (iZL2 ta tb) := by
  intro pins s σ H R I h
  refine Call_ (ld_blt I hg hm boot_zip (PyProof.Rows.callWith_type1 (thn (pa_cons ha (pa_cons hb pa_nil hs1) hs0 pos pins s σ H (fun vs H1 => ∃ S xss, vs = S.map (fun s : Bool × Addr => V.ref s.2) ∧ S.length = 2 ∧ Srcs H1 S xss ∧ R (Itz S) H1) I ?_) fun us s1 ⟨vs, H1, I1, r1, q1⟩ => ?_) hs0 hpl))
  · exact h
  · obtain ⟨S, xss, e, hl, hS, q⟩ := q1
    obtain ⟨⟨k, l⟩, ⟨k', l'⟩, rfl⟩ : ∃ x y, S = [x, y] := by
      match S, hl with
      | [x, y], _ => exact ⟨x, y, rfl⟩
    subst e
    have hS0 := hS
    cases hS with
    | cons s1' t =>
    cases t with
    | cons s2' t =>
    cases t
    cases r1 with
    | cons u1 r1 =>
    cases r1 with
    | cons u2 r1 =>
    cases r1
    cases u1; cases u2
    obtain ⟨i1, _, a1⟩ := s1'.at I1
    obtain ⟨i2, _, a2⟩ := s2'.at I1
    refine call2 a1 a2 fun h' hZ hk => wpAny_pyIter_zip hZ.zz ?_
    have I2 : Inv X pins σ H1 { s1 with heap := h' } := I1.kept (t' := s1.toks) fun b o e => hk b o e
    refine ⟨_, _, _, _, H1, rfl, I2, turn_zip (z := s1.heap.objs.size + 4) (TI := s1.heap.objs.size + 2) (TO := s1.heap.objs.size + 3) (ap2 _ k k' l l') (by simp) (by simp), hZ, fun b hb => ?_, q⟩
    have hb : s1.heap.objs.size ≤ b := ge_of hb
    exact I1.fpOk hb (I1.hok.fresh hb)
theorem ai_zip2 {ta tb : TE} {a b : Mi.E} (ha : AE M qV ta a) (hb : AE M qV tb b) : AIf M (iZL2 ta tb) (Mi.iZip2q a b) := fun e σ H Hv R I h =>
  ha e σ H Hv _ I ((fin_bind.mp h).mono fun x hx v H1 Hv1 g1 rx => hb e σ H1 Hv1 _ (I.grow g1) ((fin_bind.mp hx).mono fun y hy u H2 Hv2 g2 ry => by
    obtain ⟨ds, hd, hk⟩ := dQ_ok (fin_bind.mp hy)
    obtain ⟨es, he, hk⟩ := dQ_ok (fin_bind.mp hk)
    obtain ⟨k, a, xs, rfl, s1, r1⟩ := dQ_rep hd (rep_same g2.vis (show Rep Hv1 x v from rx))
    obtain ⟨k', a', ys, rfl, s2, r2⟩ := dQ_rep he (show Rep Hv2 y u from ry)
    have S2 : Srcs Hv2 [(k, a), (k', a')] [xs, ys] := .cons s1 (.cons s2 .nil)
    exact ⟨[(k, a), (k', a')], [xs, ys], rfl, rfl, srcs_same g2.vw.sub S2, hk (Itz [(k, a), (k', a')]) H2 Hv2 (ZP [(k, a), (k', a')] [ds, es] [xs, ys]) (g1.trans g2) (itD_zip (zips2 ds es)) ⟨S2, .cons r1 (.cons r2 .nil)⟩ fun _ _ _ _ z s _ => ⟨srcs_same s z.1, z.2.imp fun _ _ q => p2_same s q⟩⟩))
end
end Zp
set_option Elab.async false
set_option linter.all false
set_option maxRecDepth 100000
set_option maxHeartbeats 4000000
namespace Zp
open PySem PySem.Spec PyProof.Rows L2 A
open Mi (D W Rs Fin fin_bind)
variable [Tb : A.Tabs]
section
variable {X : Cx} {pins : List (Addr × Obj)} {σ : L2.St} {H : Hp} {s : Shared} {B : Around} {E : Value → Shared → Prop} {Q : Value → Shared → Prop} {b : Bool}
theorem kit_at {x : V} {u t : Value} (I : Inv X pins σ H s) (rx : RelV x u) (ty : TyOf X.K H x t) : ∃ P : Heap → Prop, PySem.W.KitX X.K u t P ∧ P s.heap ∧ u ≠ .builtin "__main__.__loader__#opaque" := by
  cases ty with
  | non => cases (show u = Value.none from rx); exact ⟨_, PySem.W.kitx_none, True.intro, fun z => nomatch z⟩
  | bl y => cases (show u = Value.bool y from rx); exact ⟨_, PySem.W.kitx_bool, True.intro, fun z => nomatch z⟩
  | int i => obtain ⟨t, q⟩ := (show ∃ t, u = Value.int i t from rx); cases q; exact ⟨_, PySem.W.kitx_int, True.intro, fun z => nomatch z⟩
  | str y => obtain ⟨t, q⟩ := (show ∃ t, u = Value.str y t from rx); cases q; exact ⟨_, PySem.W.kitx_str, True.intro, fun z => nomatch z⟩
  | flt y => obtain ⟨t, q⟩ := (show ∃ t, u = Value.float y t from rx); cases q; exact ⟨_, PySem.W.kitx_float, True.intro, fun z => nomatch z⟩
  | @lst a xs ea =>
    cases (show u = Value.ref a from rx)
    obtain ⟨_, _, n, _, h1⟩ := (show ObjOk X.prog X.w H s.heap a (.lst xs) from I.hok a _ ea)
    exact ⟨_, PySem.W.kitx_list, ⟨_, h1, rfl⟩, fun z => nomatch z⟩
  | @frz a ob xs ea =>
    cases (show u = Value.ref a from rx)
    obtain ⟨_, _, _, n, _, h1⟩ := (show ObjOk X.prog X.w H s.heap a (.frz ob (.lst xs)) from I.hok a _ ea)
    exact ⟨_, PySem.W.kitx_list, ⟨_, h1, rfl⟩, fun z => nomatch z⟩
  | @tup a xs ea =>
    cases (show u = Value.ref a from rx)
    obtain ⟨_, _, _, o, h1, h2, _⟩ := (show ObjOk X.prog X.w H s.heap a (.tup xs) from I.hok a _ ea)
    exact ⟨_, PySem.W.kitx_tuple, ⟨o, h1, h2⟩, fun z => nomatch z⟩
  | @dK a kvs ea =>
    cases (show u = Value.ref a from rx)
    obtain ⟨_, _, vs, _, o, es, ep, h1, h2, _⟩ := (show ObjOk X.prog X.w H s.heap a (.dK kvs) from I.hok a _ ea)
    exact ⟨_, PySem.W.kitx_dict, ⟨o, h1, h2.1⟩, fun z => nomatch z⟩
  | @dT a kvs ea =>
    cases (show u = Value.ref a from rx)
    obtain ⟨_, _, xs, _, o, es, ep, h1, h2, _⟩ := (show ObjOk X.prog X.w H s.heap a (.dT kvs) from I.hok a _ ea)
    exact ⟨_, PySem.W.kitx_dict, ⟨o, h1, h2.1⟩, fun z => nomatch z⟩
  | @ins a C dx fs ea cl ha hn htk hm =>
    cases (show u = Value.ref a from rx)
    obtain ⟨mA, O, _⟩ := ins_get I.hok ea
    obtain ⟨od, J, _⟩ := O.look
    exact ⟨_, PySem.W.kitx_own (cl.get _) cl.hd ha hn htk hm, J, fun z => nomatch z⟩
theorem vals_ty : ∀ {Ts : List String} {us : List Value}, Vals (Ts.map V.ty) us → us = Ts.map .type
  | [], _, .nil => rfl
  | T :: r, _, .cons a t => by
    have a : _ = Value.type T := a
    rw [a, vals_ty t]; rfl
def rIsTs (K : PySem.W.Frag) : List V → Hp → VK → Prop := fun xs H Q => ∃ (x : V) (t : Value) (tp : Addr) (Ts : List String) (b : Bool), xs = [x, .ref tp] ∧ H tp = some (.tup (Ts.map V.ty)) ∧ TyOf K H x t ∧ PySem.W.kitAny K t (Ts.map .type) = some b ∧ Q (.bl b) H
theorem call_isTs : CallR X (.builtin "isinstance") (rIsTs X.K) := by
  intro pins s σ H xs us Q I r h
  obtain ⟨x, t, tp, Ts, b, rfl, ht, ty, e, q⟩ := h
  obtain ⟨u, w', rfl, rx, rt⟩ := vals2 r
  cases (show w' = Value.ref tp from rt)
  obtain ⟨_, its, rv, o, h1, h2, _, n, h3⟩ := (show ObjOk X.prog X.w H s.heap tp (.tup (Ts.map V.ty)) from I.hok tp _ ht)
  obtain rfl := vals_ty rv
  obtain ⟨c, d, dt, sl⟩ := o
  simp only at h2 h3
  subst h2 h3
  obtain ⟨P, kx, p, hn⟩ := kit_at I rx ty
  exact PySem.W.kia_tup kx I.kIn p h1 e hn fun tk => ⟨.bl b, H, I.tok tk, rfl, q⟩
end
theorem any_of {K : PySem.W.Frag} {d : D} : ∀ {Ts : List String}, (∀ T ∈ Ts, TyIs K T) → PySem.W.kitAny K (.type (Mi.tyName d)) (Ts.map .type) = some (Ts.any fun t => Mi.isTy t d)
  | [], _ => rfl
  | T :: r, h => by
    have h1 := h T (List.mem_cons_self ..) d
    have h2 := any_of (d := d) fun T' hT => h T' (List.mem_cons_of_mem _ hT)
    rw [List.map_cons, PySem.W.kitAny, h1]
    cases e : Mi.isTy T d
    · simp only [List.any_cons, e, Bool.false_or]
      exact h2
    · simp only [List.any_cons, e, Bool.true_or]
theorem tys2 {K : PySem.W.Frag} {S T : String} (h : TyIs K S) (g : TyIs K T) : ∀ U ∈ [S, T], TyIs K U := fun U hU => by
  rcases List.mem_cons.mp hU with rfl | hU
  · exact h
  · obtain rfl := List.mem_singleton.mp hU
    exact g
def tTys : List String → TA
  | [] => tNil
  | T :: r => tCons (tC (.ty T)) (tTys r)
theorem tTys_ok : ∀ (Ts : List String) (σ : L2.St) (H : Hp) (Q : List V → Hp → Prop), Q (Ts.map V.ty) H → tTys Ts σ H Q
  | [], _, _, _, h => h
  | T :: r, σ, H, Q, h => tTys_ok r σ H _ h
section
variable {M : Nat → Bool} {K : PySem.W.Frag} {ta : TE} {a : Mi.E}
theorem a_iss {Ts : List String} (hT : ∀ T ∈ Ts, TyIs K T) (hl : Ts.length ≤ 8) (ha : AE M qP ta a) : AE M qV (tCB (rIsTs K) (tCons ta (tCons (tTup (tTys Ts)) tNil))) (Mi.m1 (Mi.bIs Ts) a) := fun e σ H Hv Q I h =>
  ha e σ H Hv _ I ((fin_bind.mp h).mono fun x hx v H1 Hv1 g1 rx => tTys_ok Ts σ H1 _ ⟨by rw [List.length_map, sizeLine_eq]; omega, fun p hp => by
    have g2 : Grow H1 Hv1 (upd H1 p (.tup (Ts.map V.ty))) (upd Hv1 p (.tup (Ts.map V.ty))) := .new g1.vw hp
    have g := g1.trans g2
    exact ⟨v, _, p, Ts, _, rfl, upd_same, ty_of g.vw (RB.grow g2 rx), any_of hT, (Mi.fin_now hx) _ _ _ g qv_bl⟩⟩)
end
end Zp
set_option Elab.async false
set_option linter.all false
set_option maxRecDepth 100000
set_option maxHeartbeats 4000000
namespace Mi
end Mi
namespace Zp
open PySem PySem.Spec PyProof.Rows L2 A
open Mi (D W Rs Fin fin_bind)
open AutoSeq1 (wpAny_loadPart')
variable [Tb : A.Tabs]
section
variable {X : Cx} {elts : List Expr} {k1 : Nat} {tpos : Pos} {M : Nat → Bool}
end
end Zp
set_option Elab.async false
set_option linter.all false
set_option maxRecDepth 100000
set_option maxHeartbeats 4000000
namespace Mi
def wDict1 (k v : E) : EW := fun e => (k e).bind fun d => (v e).bind fun x => (ofO (dKey d)).bind fun y => .ok (.dk [(y, x)])
end Mi
namespace Zp
open PySem PySem.Spec PyProof.Rows L2 A
open Mi (D W Rs Fin fin_bind)
variable [Tb : A.Tabs]
section
variable {X : Cx} {M : Nat → Bool} {κ : Kd}
theorem pe_disp1 {k v : Expr} {tk tv : TE} {pos : Pos} (hk : PE X k tk) (hv : PE X v tv) : PE X (.Dict [some k] [v] pos) (tDisp [(tk, tv)]) := pe_disp (pps_cons hk hv pps_nil) rfl rfl (by simp) (by simp)
theorem aw_disp1 {tk tv : TE} {k v : Mi.E} (hk : AE M qV tk k) (hv : AE M qV tv v) : AW M qN (tDisp [(tk, tv)]) (Mi.wDict1 k v) := fun e σ H Hv Q I h p hp => by
  have g0 : Grow H Hv (upd H p (.dK [])) Hv := .newH I.vw trivial hp
  refine hk e σ _ Hv _ (I.grow g0) ((fin_bind.mp h).mono fun d hd x H1 Hv1 g1 rx => hv e σ H1 Hv1 _ ((I.grow g0).grow g1) ((fin_bind.mp hd).mono fun c hc y H2 Hv2 g2 ry => ?_))
  obtain ⟨z, hz, hq⟩ := ofO_ok (fin_bind.mp hc)
  have hx := key_rep hz (show Rep Hv1 d x from rx)
  subst hx
  have hp2 : H2 p = some (.dK []) := g2.old.at (g1.old.at upd_same)
  have n1 : Hv1 p = none := g1.hid p _ upd_same (vis_none I.vw hp)
  have n2 : Hv2 p = none := g2.hid p _ (g1.old.at upd_same) n1
  have G := g0.trans (g1.trans g2)
  refine ⟨hp2, [(z, y)], rfl, by simp, hq (.ref p) (upd H2 p (.dK [(z, y)])) Hv2 ⟨G.old.put hp hp2, g1.vis.trans g2.vis, ⟨fun b u q => ?_, fun b xs q => ?_, fun b o u q => ?_, g2.vw.cd.put hp2 trivial trivial, g2.vw.nv⟩, G.hid⟩ ⟨p, .dK [(z, y)], rfl, hp, upd_same, n2, .cons ⟨rfl, show Rep Hv2 c y from ry⟩ .nil⟩⟩
  · have hb : b ≠ p := ne_of_none q n2
    rw [upd_ne hb]; exact g2.vw.sub _ _ q
  · by_cases hb : b = p
    · subst hb; rw [upd_same] at q; cases q
    · rw [upd_ne hb] at q; exact g2.vw.tup _ _ q
  · by_cases hb : b = p
    · subst hb; rw [upd_same] at q; cases q
    · rw [upd_ne hb] at q; exact g2.vw.frz _ _ _ q
end
end Zp
set_option Elab.async false
set_option linter.all false
set_option maxRecDepth 100000
set_option maxHeartbeats 4000000
namespace Mi
abbrev SN := List D → List D → Env → Rs Out
end Mi
namespace Zp
open PySem PySem.Spec PyProof.Rows L2 A
open Mi (D W Rs Fin fin_bind Out)
variable [Tb : A.Tabs]
def isTF : Option HO → Bool
  | some (.tup _) => true
  | some (.frz _ _) => true
  | _ => false
def Ho' (H' Ho : Hp) : Hp := fun a => if isTF (H' a) then H' a else Ho a
theorem grow_back {H Ho H' : Hp} (v : Vw H Ho) (s : Old H H') (k : CodeOk H') : Grow H Ho H' (Ho' H' Ho) := by
  refine ⟨s, fun a o q => ?_, ⟨fun a o q => ?_, fun a xs q => ?_, fun a o u q => ?_, k, fun a o q => ?_⟩, fun a o q n => ?_⟩
  · unfold Ho'
    split
    · exact s.at (v.sub _ _ q) (v.nv _ _ q)
    · exact q
  · unfold Ho' at q
    split at q
    · exact q
    · exact s.at (v.sub _ _ q) (v.nv _ _ q)
  · unfold Ho'; rw [q]; rfl
  · unfold Ho'; rw [q]; rfl
  · unfold Ho' at q
    split at q
    · rename_i h
      rw [q] at h
      cases o <;> first | trivial | cases h
    · exact v.nv _ _ q
  · unfold Ho'
    split
    · rename_i h
      exfalso
      cases o with
      | tup xs => rw [v.tup _ _ q] at n; cases n
      | frz ob u => rw [v.frz _ _ _ q] at n; cases n
      | tbl w ps =>
        obtain ⟨p, z⟩ := s.tb _ _ _ q
        rw [z] at h; cases h
      | _ => rw [s.at q] at h; cases h
    · exact n
section
variable {M : Nat → Bool} {H0 Hv0 : Hp} {E : Mi.Env} {σ : L2.St} {H Ho : Hp} {i : Nat} {p0 p1 p2 : Addr} {ra rb : List D}
end
section
variable {M : Nat → Bool} {i : Nat} {K : PySem.W.Frag} {u : TS} {r : Mi.SN}
end
end Zp
namespace A
end A
namespace A
end A
set_option linter.all false
namespace Mi
open PySem
end Mi
namespace A
end A
namespace A
end A
namespace So
end So
namespace So
end So
namespace So
end So
namespace L2
end L2
namespace So
end So
namespace L2
end L2
namespace L2
end L2
set_option linter.all false
namespace Mi
open PySem
end Mi
namespace A
end A
namespace So
end So
namespace A
end A
namespace L2
end L2
namespace A
end A
set_option Elab.async false
set_option linter.all false
set_option maxRecDepth 100000
set_option maxHeartbeats 1000000
namespace Mi
end Mi
namespace A
open PySem L2 PyProof.Rows So
open Mi (D W Rs Fin fin_bind Out Tg)
variable [Tb : Tabs]
section
variable {K : PySem.W.Frag} {M : Nat → Bool} {t : TE} {m : Mi.E} {w : Mi.EW}
end
end A
set_option Elab.async false
set_option linter.all false
set_option maxRecDepth 100000
set_option maxHeartbeats 1000000
namespace L2
open PySem PySem.Spec PyProof.Rows
def ExcAt (h : Heap) (e T : Addr) (cls fl : Value) : Prop :=
  ∃ oe vs oT ts, h.get? e = some oe ∧ (oe.cls = cls ∧ oe.dict = none) ∧ oe.data = .fields vs ∧ vs[1]? = some (.ref T) ∧ T ≠ e ∧ h.get? T = some oT ∧ oT.data = .fields ts ∧ ts[3]? = some fl
def ExcNew (h : Heap) (e : Addr) (cls : Value) : Prop := ∃ oe vs, h.get? e = some oe ∧ (oe.cls = cls ∧ oe.dict = none) ∧ oe.data = .fields vs ∧ vs[1]? = some .none
structure Noted (fs no : List Addr) (h h' : Heap) : Prop where
  keep : ∀ b o, h.get? b = some o → b ∉ fs → b ∉ no → h'.get? b = some o
  slot : ∀ b o, h.get? b = some o → b ∉ no → ∃ sl, h'.get? b = some { o with slots := sl }
  there : ∀ b o, h.get? b = some o → ∃ o', h'.get? b = some o'
theorem Noted.trans {fs no no' : List Addr} {h h1 h2 : Heap} (a : Noted fs no h h1) (b : Noted fs no' h1 h2) : Noted fs (no ++ no') h h2 := by
  refine ⟨fun x o e f n => ?_, fun x o e n => ?_, fun x o e => ?_⟩
  · have n1 : x ∉ no := fun z => n (List.mem_append_left _ z)
    have n2 : x ∉ no' := fun z => n (List.mem_append_right _ z)
    exact b.keep x o (a.keep x o e f n1) f n2
  · have n1 : x ∉ no := fun z => n (List.mem_append_left _ z)
    have n2 : x ∉ no' := fun z => n (List.mem_append_right _ z)
    obtain ⟨sl, e1⟩ := a.slot x o e n1
    obtain ⟨sl2, e2⟩ := b.slot x _ e1 n2
    exact ⟨sl2, e2⟩
  · obtain ⟨o1, e1⟩ := a.there x o e
    exact b.there x o1 e1
theorem Noted.of_keeps {fs : List Addr} {h h' : Heap} (k : ∀ b o, h.get? b = some o → h'.get? b = some o) : Noted fs [] h h' :=
  ⟨fun b o e _ _ => k b o e, fun b o e _ => ⟨o.slots, k b o e⟩, fun b o e => ⟨o, k b o e⟩⟩
theorem Noted.more {fs no no' : List Addr} {h h' : Heap} (a : Noted fs no h h') (s : ∀ b ∈ no, b ∈ no') : Noted fs no' h h' :=
  ⟨fun x o e f n => a.keep x o e f fun z => n (s x z), fun x o e n => a.slot x o e fun z => n (s x z), a.there⟩
theorem Noted.funs {fs no : List Addr} {h h' base : Heap} {l : List Env} (a : Noted fs no h h') (hl : h.FunFrames base l) (hn : ∀ b ∈ no, ∀ o, h.get? b = some o → ∃ vs, o.data = .fields vs) : h'.FunFrames base l :=
  hl.of_keeps fun b o hb hnf => by
    obtain ⟨sl, e⟩ := a.slot b o hb fun z => by
      obtain ⟨vs, q⟩ := hn b z o hb
      exact hnf vs q
    exact ⟨_, e, rfl⟩
theorem dict_map (f : Array Value → Array Value) (o : Obj) : (Obj.mapFields f o).dict = o.dict := by
  obtain ⟨c, d, dt, sl⟩ := o
  cases dt <;> rfl
section
variable {M : Model} {A : Around} {E : Value → Shared → Prop} {s : Shared}
theorem note_new {base : Heap} {env : Env} {outer : List Env} {L e : Addr} {oe : Obj} {vs : Array Value} {head : Value} {hadNext : Bool} {Q : Unit → Shared → Prop}
    (hfr : A.frames = some (env :: outer)) (hl : s.heap.FunFrames base (env :: outer)) (hf : env.frame = some L) (he : s.heap.get? e = some oe) (hdc : oe.dict = none) (hd : oe.data = .fields vs) (hsz : 1 < vs.size)
    (h : ∀ h' T, s.heap.objs.size ≤ T → Noted (frs (env :: outer)) [e] s.heap h' → ExcAt h' e T oe.cls (rawInt L) → Q () { s with heap := h' }) :
    wpAny M A (do let a ← frameOf env; let pl ← entryPlaceOf L hadNext; let b ← EntryCells.newEntry head a .none (rawInt L) .none pl; setField (.ref e) 1 b) Q E s := by
  have hene : e ∉ (env :: outer).filterMap (·.frame) := fun hm => by
    obtain ⟨_, o, ho, hnf⟩ := hl.mem hm
    rw [he] at ho; injection ho with ho; subst ho; exact hnf vs hd
  refine wpAny_bind (wpAny_frameOf_fun hfr hl hf fun h₁ hs₁ => ?_)
  refine wpAny_bind (wpAny_entryPlaceOf fun pl hpl => ?_)
  unfold EntryCells.newEntry newFields
  refine wpAny_bind (wpAny_newObj_type ?_ (hpl.sizeOk5 _ _ _ _ _))
  have he₁ : h₁.get? e = some oe := (hs₁.2.1 e hene).trans he
  have he₂ := Heap.get?_push_of_some (h := h₁) { cls := .type "traceback", dict := none, data := .fields ([head, .ref L, .none, rawInt L, .none] ++ (if pl.isEmpty then List.replicate 6 Value.none else pl)).toArray } he₁
  refine wpAny_setField he₂ hd hsz (h _ h₁.objs.size (Nat.le_of_eq hs₁.1.symm) ?_ ?_)
  · have keep : ∀ b o, b ≠ e → h₁.get? b = some o →
        ((h₁.push { cls := .type "traceback", dict := none, data := .fields ([head, .ref L, .none, rawInt L, .none] ++ (if pl.isEmpty then List.replicate 6 Value.none else pl)).toArray }).update e (Obj.mapFields (·.setIfInBounds 1 (Value.ref h₁.objs.size)))).get? b = some o :=
      fun b o hbe hb => by
        rw [Heap.get?_update_other _ _ (Ne.symm hbe)]
        exact Heap.get?_push_of_some _ hb
    have hd₃ := Obj.data_mapFields hd (·.setIfInBounds 1 (Value.ref h₁.objs.size))
    refine ⟨fun b o hb n1 n2 => keep b o (fun z => n2 (by rw [z]; exact List.mem_singleton.mpr rfl)) ((hs₁.2.1 b n1).trans hb), fun b o hb n2 => ?_, fun b o hb => ?_⟩
    · obtain ⟨sl, q⟩ := hs₁.2.2 b o hb
      exact ⟨sl, keep b _ (fun z => n2 (by rw [z]; exact List.mem_singleton.mpr rfl)) q⟩
    · by_cases z : b = e
      · subst z
        exact ⟨_, Heap.get?_update_self (Obj.mapFields (·.setIfInBounds 1 (Value.ref h₁.objs.size))) he₂ (Obj.isFreed_of_fields hd₃)⟩
      · obtain ⟨sl, q⟩ := hs₁.2.2 b o hb
        exact ⟨_, keep b _ z q⟩
  · have hTe : h₁.objs.size ≠ e := Nat.ne_of_gt (Heap.lt_size he₁)
    have hd₃ := Obj.data_mapFields hd (·.setIfInBounds 1 (Value.ref h₁.objs.size))
    have he₃ := Heap.get?_update_self (Obj.mapFields (·.setIfInBounds 1 (Value.ref h₁.objs.size))) he₂ (Obj.isFreed_of_fields hd₃)
    have hT₃ := (Heap.get?_update_other (h₁.push { cls := .type "traceback", dict := none, data := .fields ([head, .ref L, .none, rawInt L, .none] ++ (if pl.isEmpty then List.replicate 6 Value.none else pl)).toArray })
      (Obj.mapFields (·.setIfInBounds 1 (Value.ref h₁.objs.size))) (Ne.symm hTe)).trans (Heap.get?_push_size h₁ rfl)
    exact ⟨_, _, _, _, he₃, ⟨Obj.cls_mapFields _ _, (dict_map _ _).trans hdc⟩, hd₃, by simp [hsz], hTe, hT₃, rfl, by first | (simp; done) | (rcases hpl with rfl | ⟨_, _, _, _, _, _, _, rfl⟩ <;> simp)⟩
theorem note_first {base : Heap} {env : Env} {outer : List Env} {L e : Addr} {cls : Value} {Q : Unit → Shared → Prop}
    (hfr : A.frames = some (env :: outer)) (hl : s.heap.FunFrames base (env :: outer)) (hf : env.frame = some L) (hx : ExcNew s.heap e cls)
    (h : ∀ h' T, s.heap.objs.size ≤ T → Noted (frs (env :: outer)) [e] s.heap h' → ExcAt h' e T cls (rawInt L) → Q () { s with heap := h' }) : wpAny M A (noteFrame (.ref e) env) Q E s := by
  obtain ⟨oe, vs, he, ⟨rfl, hdc⟩, hd, h1⟩ := hx
  unfold noteFrame
  simp only [hf]
  refine wpAny_bind (wpAny_field he hd h1 ?_)
  rw [if_neg (by decide)]
  exact note_new hfr hl hf he hdc hd (Array.getElem?_eq_some_iff.mp h1).1 h
theorem note_on {base : Heap} {env : Env} {outer : List Env} {L e T : Addr} {cls : Value} {Q : Unit → Shared → Prop}
    (hfr : A.frames = some (env :: outer)) (hl : s.heap.FunFrames base (env :: outer)) (hf : env.frame = some L) (hx : ExcAt s.heap e T cls .none)
    (h : ∀ h' T', s.heap.objs.size ≤ T' → Noted (frs (env :: outer)) [e, T] s.heap h' → ExcAt h' e T' cls (rawInt L) → Q () { s with heap := h' }) : wpAny M A (noteFrame (.ref e) env) Q E s := by
  obtain ⟨oe, vs, oT, ts, he, ⟨rfl, hdc⟩, hd, h1, hTe, hT, hdT, h3⟩ := hx
  unfold noteFrame
  simp only [hf]
  refine wpAny_bind (wpAny_field he hd h1 ?_)
  rw [if_pos (show (Value.ref T != Value.none) = true from by simp)]
  refine wpAny_bind (wpAny_field hT hdT h3 ?_)
  rw [if_neg (show ¬ ((Value.none == rawInt L) = true) from by simp [rawInt])]
  refine wpAny_bind (wpAny_setField hT hdT (Array.getElem?_eq_some_iff.mp h3).1 ?_)
  have other : ∀ b, b ≠ T → (s.heap.update T (Obj.mapFields (·.setIfInBounds 3 Value.none))).get? b = s.heap.get? b := fun b hb => Heap.get?_update_other _ _ (Ne.symm hb)
  have hself := Heap.get?_update_self (Obj.mapFields (·.setIfInBounds 3 Value.none)) hT (Obj.isFreed_of_fields (Obj.data_mapFields hdT _))
  have n0 : Noted (frs (env :: outer)) [T] s.heap (s.heap.update T (Obj.mapFields (·.setIfInBounds 3 Value.none))) := by
    refine ⟨fun b o q _ n => (other b fun z => n (by rw [z]; exact List.mem_singleton.mpr rfl)).trans q, fun b o q n => ⟨o.slots, (other b fun z => n (by rw [z]; exact List.mem_singleton.mpr rfl)).trans q⟩, fun b o q => ?_⟩
    by_cases z : b = T
    · subst z; exact ⟨_, hself⟩
    · exact ⟨o, (other b z).trans q⟩
  refine note_new hfr (n0.funs hl fun b z o q => ?_) hf ((other e (Ne.symm hTe)).trans he) hdc hd (Array.getElem?_eq_some_iff.mp h1).1 fun h' T' hT' n x => h h' T' (Nat.le_trans (Nat.le_of_eq (by simp [Heap.update])) hT') ((n0.trans n).more fun b hb => ?_) x
  · rw [List.mem_singleton.mp z, hT] at q; cases q; exact ⟨ts, hdT⟩
  · simp only [List.singleton_append, List.mem_cons, List.not_mem_nil, or_false] at hb ⊢
    exact hb.symm
theorem flight_off {e T : Addr} {cls fl : Value} {Q : Unit → Shared → Prop} (hx : ExcAt s.heap e T cls fl) (h : ∀ h', Noted [] [T] s.heap h' → s.heap.objs.size = h'.objs.size → ExcAt h' e T cls .none → Q () { s with heap := h' }) : wpAny M A (setFlight (.ref e) none) Q E s := by
  obtain ⟨oe, vs, oT, ts, he, hc, hd, h1, hTe, hT, hdT, h3⟩ := hx
  have hsz3 : 3 < ts.size := (Array.getElem?_eq_some_iff.mp h3).1
  have other : ∀ b, b ≠ T → (s.heap.update T (Obj.mapFields (·.setIfInBounds 3 ((none : Option Addr).elim Value.none fun f => rawInt f)))).get? b = s.heap.get? b := fun b hb => Heap.get?_update_other _ _ (Ne.symm hb)
  have hself := Heap.get?_update_self (Obj.mapFields (·.setIfInBounds 3 ((none : Option Addr).elim Value.none fun f => rawInt f))) hT (Obj.isFreed_of_fields (Obj.data_mapFields hdT _))
  unfold setFlight
  refine wpAny_bind (wpAny_field he hd h1 ?_)
  rw [if_pos (show (Value.ref T != Value.none) = true from by simp)]
  refine wpAny_setField hT hdT hsz3 (h _ ?_ (by simp [Heap.update]) ?_)
  · refine ⟨fun b o q _ n => (other b fun z => n (by rw [z]; exact List.mem_singleton.mpr rfl)).trans q, fun b o q n => ⟨o.slots, (other b fun z => n (by rw [z]; exact List.mem_singleton.mpr rfl)).trans q⟩, fun b o q => ?_⟩
    by_cases z : b = T
    · subst z; exact ⟨_, hself⟩
    · exact ⟨o, (other b z).trans q⟩
  · exact ⟨oe, vs, _, _, (other e (Ne.symm hTe)).trans he, hc, hd, h1, hTe, hself, Obj.data_mapFields hdT _, by simp [hsz3]⟩
theorem leave_first {base : Heap} {env : Env} {outer : List Env} {L e : Addr} {cls : Value} {Q : Unit → Shared → Prop}
    (hfr : A.frames = some (env :: outer)) (hl : s.heap.FunFrames base (env :: outer)) (hf : env.frame = some L) (hx : ExcNew s.heap e cls)
    (h : ∀ h' T, s.heap.objs.size ≤ T → Noted (frs (env :: outer)) [e, T] s.heap h' → ExcAt h' e T cls .none → Q () { s with heap := h' }) : wpAny M A (leaving env (.ref e)) Q E s := by
  unfold leaving
  refine wpAny_bind (note_first hfr hl hf hx fun h1 T hT n x => ?_)
  refine flight_off x fun h2 n2 _ x2 => h h2 T hT ((n.trans (no' := [T]) ⟨fun b o q _ => n2.keep b o q (by simp), n2.slot, n2.there⟩).more fun b hb => by simpa using hb) x2
theorem leave_on {base : Heap} {env : Env} {outer : List Env} {L e T : Addr} {cls : Value} {Q : Unit → Shared → Prop}
    (hfr : A.frames = some (env :: outer)) (hl : s.heap.FunFrames base (env :: outer)) (hf : env.frame = some L) (hx : ExcAt s.heap e T cls .none)
    (h : ∀ h' T', s.heap.objs.size ≤ T' → Noted (frs (env :: outer)) [e, T, T'] s.heap h' → ExcAt h' e T' cls .none → Q () { s with heap := h' }) : wpAny M A (leaving env (.ref e)) Q E s := by
  unfold leaving
  refine wpAny_bind (note_on hfr hl hf hx fun h1 T' hT n x => ?_)
  refine flight_off x fun h2 n2 _ x2 => h h2 T' hT ((n.trans (no' := [T']) ⟨fun b o q _ => n2.keep b o q (by simp), n2.slot, n2.there⟩).more fun b hb => by simpa [or_assoc] using hb) x2
end
end L2
set_option Elab.async false
set_option linter.all false
set_option maxRecDepth 100000
set_option maxHeartbeats 1000000
namespace L2
open PySem PySem.Spec PyProof.Rows
def CX1 (P : Program) (w : World) : CXT := fun outer H s E e s' =>
  ∃ ea T C H', e = .ref ea ∧ s'.os = s.os ∧ AllBare s'.gens ∧ Un (frs outer) [] H H' s.heap s'.heap ∧ HOk P w H' s'.heap ∧ s.heap.get? ea = none ∧ s.heap.get? T = none ∧ H' ea = none ∧ H' T = none ∧ ExcAt s'.heap ea T (.ref C) .none ∧ E (.ref C) (some ea) H'
theorem ObjOk.there {P : Program} {w : World} {H : Hp} {h : Heap} {a : Addr} {o : HO} (x : ObjOk P w H h a o) : ∃ ob, h.get? a = some ob := by
  have hlt := x.stay (h' := h) (H' := H) (fun _ _ _ q => q) (fun _ q => q) fun _ _ q => q
  cases o with
  | lst xs => obtain ⟨z, its, n, r, e⟩ := x; exact ⟨_, e⟩
  | tup xs => obtain ⟨z, its, r, ob, e, c⟩ := x; exact ⟨_, e⟩
  | dK kvs => obtain ⟨_, _, _, _, ob, es, ep, e, c⟩ := x; exact ⟨_, e⟩
  | dT kvs => obtain ⟨_, _, _, _, ob, es, ep, e, c⟩ := x; exact ⟨_, e⟩
  | set S n => obtain ⟨ob, es, ep, t, e, c⟩ := x; exact ⟨_, e⟩
  | ins C dx fs => obtain ⟨d, z, ne, e, _⟩ := x; exact ⟨_, e⟩
  | own y => exact x
  | xd fs => obtain ⟨mA, ⟨od, es, ep, e, c⟩, r⟩ := x; exact ⟨_, e⟩
  | rng lo hi => obtain ⟨t, u, v, e⟩ := x; exact ⟨_, e⟩
  | frz ob u => exact ⟨_, x.1⟩
  | tbl w ps => exact ⟨_, x⟩
  | met f y => exact ⟨_, x⟩
  | ext φ => exact x.2.1
theorem HOk.none_of {P : Program} {w : World} {H : Hp} {h : Heap} (k : HOk P w H h) {a : Addr} (e : h.get? a = none) : H a = none := by
  cases q : H a with
  | none => rfl
  | some o =>
    obtain ⟨ob, z⟩ := (k a o q).there
    rw [e] at z; cases z
section
variable {CX : CXT} {P : Program} {w : World} {K : PySem.W.Frag} {mg : Str → Option Value} {base : Heap} {N : List Str} {qual : Str} {scope : Scope} {f : Addr} {cd : Value} {A : Around} {outer : List Env} {s : Shared} {H : Hp} {E : XK}
theorem exit_cx {pins : List (Addr × Obj)} {σ : St} {H1 : Hp} {s1 : Shared} {h2 : Heap} {no : List Addr} (I : Inv (cxOf CX P w K mg base N qual scope f cd A outer s H E) pins σ H1 s1)
    (n : Noted (frs (envOfC qual scope s.heap.objs.size f cd :: outer)) no s1.heap h2) (hn : ∀ b ∈ no, s.heap.get? b = none ∧ H1 b = none) : Un (frs outer) [] H H1 s.heap h2 ∧ HOk P w H1 h2 := by
  have B : Un (frs outer) [] H H1 s.heap s1.heap := I.base
  have hL : ∀ b o, s.heap.get? b = some o → b ∉ frs outer → b ∉ frs (envOfC qual scope s.heap.objs.size f cd :: outer) := fun b o e nf z => by
    have hz : frs (envOfC qual scope s.heap.objs.size f cd :: outer) = s.heap.objs.size :: frs outer := rfl
    rw [hz] at z
    rcases List.mem_cons.mp z with q | q
    · have := Heap.lt_size e
      rw [q] at this; exact absurd this (Nat.lt_irrefl _)
    · exact nf q
  have hno : ∀ b o, s.heap.get? b = some o → b ∉ no := fun b o e z => by rw [(hn b z).1] at e; cases e
  refine ⟨⟨fun b o e z nf nx => n.keep b o (B.keep b o e z nf nx) (hL b o e nf) (hno b o e), fun b o e z nf nx => ?_, B.free, fun b o e nx => ?_, B.tups, B.frzs, B.tbls⟩, fun a o e => ?_⟩
  · obtain ⟨sl, q⟩ := B.slot b o e z nf nx
    obtain ⟨sl2, q2⟩ := n.slot b _ q (hno b o e)
    exact ⟨sl2, q2⟩
  · obtain ⟨o1, q⟩ := B.there b o e nx
    exact n.there b o1 q
  · have hok : HOk P w H1 s1.heap := I.hok
    refine (hok a o e).stay (fun b u hb q => ?_) (fun _ q => q) fun _ _ q => q
    have tr : ∃ ob, H1 b = some ob := by
      rcases hb with rfl | hb
      · exact ⟨_, e⟩
      · exact ⟨_, hb⟩
    obtain ⟨ob, tr⟩ := tr
    refine n.keep b u q (fun z => ?_) fun z => ?_
    · have := I.stkFree b z
      rw [tr] at this; cases this
    · rw [(hn b z).2] at tr; cases tr
theorem xe_new {pins : List (Addr × Obj)} {σ : St} {H1 : Hp} {s1 : Shared} {h1 : Heap} {e C : Addr} {vs : List Value} (I : Inv (cxOf (CX1 P w) P w K mg base N qual scope f cd A outer s H E) pins σ H1 s1)
    (m : Heap.MadeExcOf s1.heap h1 e (.ref C) vs) (q : E (.ref C) (some e) H1) : (cxOf (CX1 P w) P w K mg base N qual scope f cd A outer s H E).xe (.ref e) { s1 with heap := h1 } := by
  have hfr := I.ok.frames
  have hl : s1.heap.FunFrames base (envOfC qual scope s.heap.objs.size f cd :: outer) := I.stack
  have nk : Noted (frs (envOfC qual scope s.heap.objs.size f cd :: outer)) [] s1.heap h1 := .of_keeps m.keeps
  have x : ExcNew h1 e (.ref C) := by
    obtain ⟨t, he, _⟩ := m.there
    exact ⟨_, _, he, ⟨rfl, rfl⟩, rfl, rfl⟩
  have B : Un (frs outer) [] H H1 s.heap s1.heap := I.base
  have new : ∀ {b : Addr}, s1.heap.get? b = none → s.heap.get? b = none ∧ H1 b = none := fun {b} z => by
    refine ⟨?_, I.hok.none_of z⟩
    cases q : s.heap.get? b with
    | none => rfl
    | some o =>
      obtain ⟨o', z2⟩ := B.there b o q (by simp)
      rw [z] at z2; cases z2
  refine leave_first (base := base) (s := { s1 with heap := h1 }) hfr (nk.funs hl fun b z => absurd z (by simp)) rfl x fun h2 T hT n2 x2 => ?_
  have hTn : s1.heap.get? T = none := by
    cases q2 : s1.heap.get? T with
    | none => rfl
    | some o => exact absurd (Heap.lt_size (m.keeps T o q2)) (Nat.not_lt.mpr hT)
  have nn : ∀ b ∈ [] ++ [e, T], s.heap.get? b = none ∧ H1 b = none := fun b hb => by
    simp only [List.nil_append, List.mem_cons, List.not_mem_nil, or_false] at hb
    rcases hb with rfl | rfl
    · exact new m.new
    · exact new hTn
  obtain ⟨u1, u2⟩ := exit_cx I (nk.trans n2) nn
  exact ⟨e, T, C, H1, rfl, I.os, I.bare, u1, u2, (nn e (by simp)).1, (nn T (by simp)).1, (nn e (by simp)).2, (nn T (by simp)).2, x2, q⟩
theorem passes1 : Passes (CX1 P w) (cxOf (CX1 P w) P w K mg base N qual scope f cd A outer s H E) E := by
  rintro pins σ H1 s1 e s2 I ⟨ea, T, C, H2, rfl, os2, bare2, un2, ok2, n1, n2, n3, n4, x, q⟩
  have un2' : Un (frs (envOfC qual scope s.heap.objs.size f cd :: outer)) [] H1 H2 s1.heap s2.heap := un2
  have I2 : Inv (cxOf (CX1 P w) P w K mg base N qual scope f cd A outer s H E) pins σ H2 s2 := I.call' os2 (ch := []) un2 ok2 bare2 (fun b z => absurd z (by simp))
  have hfr := I2.ok.frames
  have hl : s2.heap.FunFrames base (envOfC qual scope s.heap.objs.size f cd :: outer) := I2.stack
  have B : Un (frs outer) [] H H1 s.heap s1.heap := I.base
  have old : ∀ {b : Addr}, s1.heap.get? b = none → s.heap.get? b = none := fun {b} z => by
    cases q : s.heap.get? b with
    | none => rfl
    | some o =>
      obtain ⟨o', z2⟩ := B.there b o q (by simp)
      rw [z] at z2; cases z2
  refine leave_on (base := base) (s := s2) hfr hl rfl x fun h3 T' hT' n x3 => ?_
  have hTn : s2.heap.get? T' = none := by
    cases q2 : s2.heap.get? T' with
    | none => rfl
    | some o => exact absurd (Heap.lt_size q2) (Nat.not_lt.mpr hT')
  have hTs : s1.heap.get? T' = none := by
    cases q2 : s1.heap.get? T' with
    | none => rfl
    | some o =>
      obtain ⟨o', z2⟩ := un2'.there T' o q2 (by simp)
      rw [hTn] at z2; cases z2
  have nn : ∀ b ∈ [ea, T, T'], s.heap.get? b = none ∧ H2 b = none := fun b hb => by
    simp only [List.mem_cons, List.not_mem_nil, or_false] at hb
    rcases hb with rfl | rfl | rfl
    · exact ⟨old n1, n3⟩
    · exact ⟨old n2, n4⟩
    · exact ⟨old hTs, ok2.none_of hTn⟩
  obtain ⟨u1, u2⟩ := exit_cx I2 n nn
  exact ⟨ea, T', C, H2, rfl, I2.os, bare2, u1, u2, (nn ea (by simp)).1, (nn T' (by simp)).1, (nn ea (by simp)).2, (nn T' (by simp)).2, x3, q⟩
theorem passesOwn1 : PassesOwn (model P w) (cxOf CX P w K mg base N qual scope f cd A outer s H E).A (cxOf CX P w K mg base N qual scope f cd A outer s H E).env (cxOf CX P w K mg base N qual scope f cd A outer s H E).xe := fun e s' h =>
  wpAny_leaving_again (SameStack.refl _) h
end
end L2
set_option Elab.async false
set_option linter.all false
set_option maxRecDepth 100000
set_option maxHeartbeats 1000000
namespace L2
open PySem PySem.Spec PyProof.Rows
def FP (X : Cx) (e : Expr) (ok : St → Hp → Prop) : Prop := ∀ (pins : List (Addr × Obj)) (s : Shared) (σ : St) (H : Hp), Inv X pins σ H s → ok σ H →
  wpAny (model X.prog X.w) X.A (eval e X.env) (fun v s1 => ∃ y t, v = .str y t ∧ y.length ≤ 100000 ∧ Inv X pins σ H s1) X.xe s
section
variable {X : Cx}
theorem fp_text {x : Str} {j pos} (h : x.length ≤ 100000) : FP X (.Constant (.str x) j pos) fun _ _ => True := fun pins s σ H I _ =>
  wpAny_mono (pe_str (X := X) pins s σ H (fun v H' => v = .str x ∧ H' = H) I ⟨rfl, rfl⟩) (fun v s1 ⟨v', H', I', r, e1, e2⟩ => by
    subst e1 e2
    obtain ⟨t, rfl⟩ := r
    exact ⟨x, t, rfl, h, I'⟩) fun _ _ z => z
theorem fp_repr {e : Expr} {te : TE} {pos : Pos} (he : PE X e te) : FP X (.FormattedValue e 114 none pos) fun σ H => te σ H fun v H' => H' = H ∧ ∃ z : Str, v = .str z ∧ (PySem.reprText z).length ≤ 100000 := fun pins s σ H I h => by
  refine wpAny_FormattedValue_repr (thn (he pins s σ H _ I h) fun v s1 ⟨v', H', I', r, e2, z, e1, hz⟩ => ?_)
  subst e1 e2
  obtain ⟨t, rfl⟩ := r
  have hz' : (reprText z).length ≤ sizeLine := by rw [sizeLine_eq]; omega
  refine wpAny_pyReprObj_str ?_ hz'
  exact wpAny_formatField_str ⟨_, _, rfl, hz, I'.tok _⟩ ⟨_, _, rfl, hz, (I'.tok _).tok _⟩ hz'
def FPs (X : Cx) : List Expr → List (St → Hp → Prop) → Prop
  | [], [] => True
  | e :: es, p :: ps => FP X e p ∧ FPs X es ps
  | _, _ => False
theorem joins_ok {pins : List (Addr × Obj)} {σ : St} {H : Hp} {Q : Str → Shared → Prop} : ∀ (es : List Expr) (ps : List (St → Hp → Prop)) (acc : Str) (s : Shared), FPs X es ps → (∀ p ∈ ps, p σ H) → acc.length + 100000 * es.length ≤ sizeLine → Inv X pins σ H s →
    (∀ z s', z.length ≤ sizeLine → Inv X pins σ H s' → Q z s') → Joins (model X.prog X.w) X.A X.xe (evalEach es X.env) acc Q s
  | [], [], acc, s, _, _, hl, I, q => q acc s (by simp at hl; exact hl) I
  | [], _ :: _, _, _, f, _, _, _, _ => f.elim
  | _ :: _, [], _, _, f, _, _, _, _ => f.elim
  | e :: es, p :: ps, acc, s, f, hp, hl, I, q => by
    refine wpAny_mono (f.1 pins s σ H I (hp p List.mem_cons_self)) (fun v s1 ⟨y, t, ev, hy, I1⟩ => ?_) fun _ _ z => z
    rw [List.length_cons] at hl
    have ha : (acc ++ y).length ≤ acc.length + 100000 := by rw [strLen_append]; omega
    exact ⟨y, t, ev, by omega, joins_ok es ps (acc ++ y) s1 f.2 (fun p' h' => hp p' (List.mem_cons_of_mem _ h')) (by omega) I1 q⟩
theorem pe_fstr {e1 e2 : Expr} {es : List Expr} {ps : List (St → Hp → Prop)} {pos : Pos} (f : FPs X (e1 :: e2 :: es) ps) (hl : (e1 :: e2 :: es).length ≤ 100) : PE X (.JoinedStr (e1 :: e2 :: es) pos) (fun σ H Q => (∀ p ∈ ps, p σ H) ∧ ∀ z : Str, z.length ≤ sizeLine → Q (.str z) H) := fun pins s σ H Q I h =>
  wpAny_JoinedStr (joins_ok _ ps Str.empty s f h.1 (by rw [sizeLine_eq]; have : Str.empty.length = 0 := rfl; omega) I fun z s' hz I' => ⟨hz, .str z, H, I'.tok _, ⟨_, rfl⟩, h.2 z hz⟩)
end
section
variable {P : Program} {w : World} {K : PySem.W.Frag} {mg : Str → Option Value} {base : Heap} {N : List Str} {qual : Str} {scope : Scope} {f : Addr} {cd : Value} {A : Around} {outer : List Env} {s : Shared} {H : Hp} {E : XK}
theorem ps_raise {x : Str} {C : Addr} {bm : List Value} {B newId initId : String} {e : Expr} {te : TE} {np cpos pos : Pos} (FB : ExcBaseFacts B newId initId bm) (O : OwnCls x C bm newId mg base)
    (he : PE (cxOf (CX1 P w) P w K mg base N qual scope f cd A outer s H E) e te) (hg : Gl (cxOf (CX1 P w) P w K mg base N qual scope f cd A outer s H E) x) (hd : (x == ("__debug__" : Str)) = false := by decide)
    (hs : starEach [e] (cxOf (CX1 P w) P w K mg base N qual scope f cd A outer s H E).env = (false, eval e (cxOf (CX1 P w) P w K mg base N qual scope f cd A outer s H E).env) :: starEach [] (cxOf (CX1 P w) P w K mg base N qual scope f cd A outer s H E).env := by rfl) :
    PS (cxOf (CX1 P w) P w K mg base N qual scope f cd A outer s H E) (.Raise (some (.Call (.Name x np) [e] [] cpos)) none pos) (fun _ σ H1 => te σ H1 fun _ H2 => ∀ ea, H2 ea = none → E (.ref C) (some ea) H2) := by
  intro pins s1 σ H1 D I h
  obtain ⟨tl, N', nm, q, bs, hdct, sn, sub, ab, col, dd, k0, k1, k2, k3, k5, mN, hC, hN, hni, T⟩ := O.obj
  refine wpAny_Raise_call_subT (C := C) (nm := nm) (q := q) (N := N') (bs := bs) (bm := tl) (hdct := hdct) (sn := sn) (sub := sub) (ab := ab) (col := col) (dd := dd) (k0 := k0) (k1 := k1) (k2 := k2) (k3 := k3) (k5 := k5)
    FB (mN := mN) (T.hasType FB.hasBase) (I.ok.hd rfl) (by rw [hs]; rfl) hni (ld_glob I hg O.bound ⟨rfl, ?_⟩ hd)
  rw [hs]
  refine Calls.evalArgs_plain (Calls.spliced_cons (thn (he pins s1 σ H1 _ I h) fun v s2 ⟨v', H2, I2, r, q2⟩ => Calls.spliced_nil ?_))
  exact ⟨rfl, by rw [sizeLine_eq]; simp, I2.bk _ _ hC, hN.keeps I2.bk, T.keeps I2.bk, fun h' e' m => xe_new I2 m (q2 e' (I2.hok.none_of m.new))⟩
end
end L2
set_option Elab.async false
set_option linter.all false
set_option maxRecDepth 100000
set_option maxHeartbeats 1000000
namespace Mi
open PySem
def FinX {α : Type} (r : Rs α) (k : α → Prop) (x : Exn → Prop) : Prop := match r with
  | .ok a => k a
  | .ex z => x z
  | .no => False
theorem finx_bind {α β : Type} {r : Rs α} {f : α → Rs β} {k : β → Prop} {x : Exn → Prop} : FinX (r.bind f) k x ↔ FinX r (fun a => FinX (f a) k x) x := by cases r <;> exact Iff.rfl
theorem FinX.mono {α : Type} {r : Rs α} {k k' : α → Prop} {x x' : Exn → Prop} (h : FinX r k x) (m : ∀ a, k a → k' a) (n : ∀ z, x z → x' z) : FinX r k' x' := by
  cases r with
  | ok a => exact m a h
  | ex z => exact n z h
  | no => exact h
theorem FinX.fin {α : Type} {r : Rs α} {k : α → Prop} {x : Exn → Prop} (h : FinX r k x) (hn : ∀ z, r ≠ .ex z) : Fin r k := by
  cases r with
  | ok a => exact h
  | ex z => exact absurd rfl (hn z)
  | no => exact h
theorem finx_guard {α : Type} {c : Prop} [Decidable c] {r : Rs α} {k : α → Prop} {x : Exn → Prop} (h : FinX (guardR c r) k x) : c ∧ FinX r k x := by
  unfold guardR at h
  split at h
  · exact ⟨‹_›, h⟩
  · exact h.elim
theorem finx_t {α : Type} {r s : Rs α} {k : α → Prop} {x : Exn → Prop} (h : FinX (if true = true then r else s) k x) : FinX r k x := by simpa using h
theorem finx_f {α : Type} {r s : Rs α} {k : α → Prop} {x : Exn → Prop} (h : FinX (if false = true then r else s) k x) : FinX s k x := by simpa using h
def still {α : Type} : Rs α → Rs α
  | .ex _ => .no
  | r => r
theorem still_fin {α : Type} {r : Rs α} {k : α → Prop} {x : Exn → Prop} (h : FinX (still r) k x) : Fin r k := by cases r <;> exact h
theorem still_ok {α : Type} {r : Rs α} {a : α} (h : r = .ok a) : still r = .ok a := by rw [h]; rfl
def sP (m : S) : S := fun e => still (m e)
def cP (c : C) : C := fun e => still (c e)
def iP (it : I) : I := fun e => still (it e)
theorem put_noex : ∀ (tg : Tg) (x : D) (e : Env) (z : Exn), tg.put x e ≠ .ex z := by
  have key : ∀ (is : List Nat) (ds : List D) (e : Env) (z : Exn), setAll is ds e ≠ .ex z := fun is => by
    induction is with
    | nil => intro ds e z h; cases ds <;> cases h
    | cons i r ih =>
      intro ds e z h
      cases ds with
      | nil => cases h
      | cons d t => exact ih t _ z h
  intro tg x e z h
  cases tg with
  | n i => cases h
  | t is => cases x with
    | tup ds => exact key is ds e z h
    | _ => cases h
def sRaise (cls : String) (gs : List (Env → Bool)) : S := fun e => if (gs.all fun g => g e) = true then .ex ⟨cls, []⟩ else .no
def gR (i : Nat) : Env → Bool := fun e => match e[i]? with
  | some (some (.d (.str z))) => decide ((PySem.reprText z).length ≤ 100000)
  | _ => false
def sCallX (f : Fn) (ws : List EW) : S := fun e => (still (mArgsW ws e)).bind fun vs => (f vs).bind fun _ => .ok (.nx e)
end Mi
namespace A
open PySem L2 PyProof.Rows So
open Mi (D W Rs Fin FinX fin_bind finx_bind Out Tg Exn)
variable [Tb : Tabs]
def wish (cl : String → Addr) (E : XK) : Exn → Hp → Prop := fun z H' => ∀ ea, H' ea = none → E (.ref (cl z.cls)) (some ea) H'
def ASX (M : Nat → Bool) (κ : Kd) (x : Exn → Hp → Prop) (t : TS) (m : Mi.S) : Prop := ∀ H0 Hv0 e σ H Hv D, R1 M H0 Hv0 e σ H Hv → FinX (m e) (OutOk M κ H0 Hv0 D Hv) (fun z => ∀ H' Hv', Grow H0 Hv0 H' Hv' → x z H') → t D σ H
section
variable {M : Nat → Bool} {κ : Kd} {x : Exn → Hp → Prop} {t u : TS} {m n : Mi.S} {cl : String → Addr} {E : XK}
theorem asx_of (h : AS M κ t m) : ASX M κ x t (Mi.sP m) := fun H0 Hv0 e σ H Hv D I f => h H0 Hv0 e σ H Hv D I (Mi.still_fin f)
theorem asx_seq (h1 : ASX M κ x t m) (h2 : ASX M κ x u n) : ASX M κ x (tSeq t u) (Mi.sSeq m n) := fun H0 Hv0 e σ H Hv D I h =>
  h1 H0 Hv0 e σ H Hv _ I ((finx_bind.mp h).mono (fun o ho => by
    cases o with
    | nx e' => exact fun σ' H' Hv' I' s => h2 H0 Hv0 e' σ' H' Hv' D I' (FinX.mono ho (fun o z => z.up s) fun _ z => z)
    | rt w => exact ho
    | bk e' => exact ho
    | ct e' => exact ho) fun _ z => z)
theorem asx_if {tt : TT} {c : Mi.C} (hc : AT M tt c) (h1 : ASX M κ x t m) (h2 : ASX M κ x u n) : ASX M κ x (tIfS tt t u) (Mi.sIf (Mi.cP c) m n) := fun H0 Hv0 e σ H Hv D I h =>
  hc e σ H Hv _ I.toR0 ((Mi.still_fin (finx_bind.mp h)).mono fun b hb H1 Hv1 g1 => by
    cases b with
    | true => exact iteT (h1 H0 Hv0 e σ H1 Hv1 D (I.grow g1) ((Mi.finx_t hb).mono (fun o z => z.up g1.vis) fun _ z => z))
    | false => exact iteF (h2 H0 Hv0 e σ H1 Hv1 D (I.grow g1) ((Mi.finx_f hb).mono (fun o z => z.up g1.vis) fun _ z => z)))
theorem asx_for {K : PySem.W.Frag} {wi : TI} {it : Mi.I} {tg : Tg} (hi : AIf M wi it) (hm : ∀ i ∈ tgVars tg, M i = false) (hb : ASX M κ x t m) : ASX M κ x (tFor wi (tgG K tg) t) (Mi.sFor (Mi.iP it) tg m) := fun H0 Hv0 e σ H Hv D I h =>
  hi e σ H Hv _ I.toR0 ((Mi.still_fin (finx_bind.mp h)).mono fun ds h1 J H1 Hv1 P g1 O p1 per => by
    refine ⟨fun i k σ' H' => k = ds.length - i ∧ i ≤ ds.length ∧ ∃ e' Hv', R1 M H0 Hv0 e' σ' H' Hv' ∧ P H' Hv' ∧ FinX (Mi.forD tg m (ds.drop i) e') (OutOk M κ H0 Hv0 D Hv') (fun z => ∀ H' Hv', Grow H0 Hv0 H' Hv' → x z H'),
      ⟨ds.length, by simp, Nat.zero_le _, e, Hv1, I.grow g1, p1, by rw [List.drop_zero]; exact h1.mono (fun o z => z.up g1.vis) fun _ z => z⟩, ?_⟩
    rintro i k σ' H' ⟨rfl, hle, e', Hv', I', pp, hf⟩
    by_cases hlt : i < ds.length
    · refine .inr ⟨O.go i H' Hv' pp I'.vw hlt, fun σ2 H2 => ∃ e2 Hv2, R1 M H0 Hv0 e2 σ2 H2 Hv2 ∧ P H2 Hv2 ∧ FinX (Mi.forD tg m (ds.drop (i + 1)) e2) (OutOk M κ H0 Hv0 D Hv2) (fun z => ∀ H' Hv', Grow H0 Hv0 H' Hv' → x z H'),
        fun σ2 H2 z => ⟨ds.length - (i + 1), by omega, rfl, hlt, z⟩, fun y H2 q => ?_⟩
      obtain ⟨Hv2, d, g2, hd, rx⟩ := O.yld i H' Hv' y H2 pp I'.vw hlt q
      have I2 := I'.grow g2
      have hdr : ds.drop i = d :: ds.drop (i + 1) := by
        obtain ⟨hl, e1⟩ := List.getElem?_eq_some_iff.mp hd
        rw [List.drop_eq_getElem_cons hl, e1]
      rw [hdr] at hf
      refine tg_put (P := fun e1 σ1 => R1 M H0 Hv0 e1 σ1 H2 Hv2) g2.vw (fun j hj e1 σ1 d1 v1 r1 z => r1.set (hm j hj) z) I2 rx (((finx_bind.mp hf).fin (Mi.put_noex tg d e')).mono fun e1 h1 σ1 I1 => ?_)
      refine hb H0 Hv0 e1 σ1 H2 Hv2 _ I1 ((finx_bind.mp h1).mono (fun o ho => ?_) fun _ z => z)
      cases o with
      | nx e2 => exact fun σ2 H3 Hv3 I3 s3 => ⟨e2, Hv3, I3, per _ _ _ _ pp (g2.vis.trans s3) I3.vw, FinX.mono ho (fun o z => z.up (g2.vis.trans s3)) fun _ z => z⟩
      | ct e2 => exact fun σ2 H3 Hv3 I3 s3 => ⟨e2, Hv3, I3, per _ _ _ _ pp (g2.vis.trans s3) I3.vw, FinX.mono ho (fun o z => z.up (g2.vis.trans s3)) fun _ z => z⟩
      | bk e2 => exact fun σ2 H3 Hv3 I3 s3 => ho σ2 H3 Hv3 I3 (g2.vis.trans s3)
      | rt w => exact ho
    · have hi : i = ds.length := by omega
      subst hi
      refine .inl ⟨O.stop H' Hv' pp I'.vw, ?_⟩
      rw [List.drop_of_length_le (Nat.le_refl _)] at hf
      exact hf σ' H' Hv' I' (Same.refl _))
def spX (cl : String → Addr) (f : Mi.Fn) : Sp := fun vs H Q E => ∃ Hv ws, Vw H Hv ∧ P2 (RepW Hv) ws vs ∧ FinX (f ws) (fun w => ∀ v H' Hv', Grow H Hv H' Hv' → qV H H' Hv' w v → Q v H') (fun z => ∀ H' Hv', Grow H Hv H' Hv' → wish cl E z H')
theorem asx_call {f : Mi.Fn} {ws : List Mi.EW} {tr : TA} (ha : AAW M qV tr (Mi.mArgsW ws)) : ASX M κ (wish cl E) (tDrop (tCall (spX cl f) [] E tr)) (Mi.sCallX f ws) := fun H0 Hv0 e σ H Hv D I h =>
  ha e σ H Hv _ I.toR0 ((Mi.still_fin (finx_bind.mp h)).mono fun ds hx vs H1 Hv1 g1 rx => by
    rw [List.append_nil]
    refine ⟨Hv1, ds, g1.vw, rx, (finx_bind.mp hx).mono (fun w hw v H3 Hv3 g3 r => ?_) fun z hz H3 Hv3 g3 => ?_⟩
    · exact hw σ H3 Hv3 (I.grow (g1.trans g3)) (g1.trans g3).vis
    · exact hz H3 Hv3 (I.gw.trans (g1.trans g3)))
def PG (M : Nat → Bool) (g : Mi.Env → Bool) (p : L2.St → Hp → Prop) : Prop := ∀ e σ H Hv, R0 M e σ H Hv → g e = true → p σ H
theorem pg_text : PG M (fun _ => true) (fun _ _ => True) := fun _ _ _ _ _ _ => trivial
theorem pg_repr (i : Nat) (hm : M i = false) : PG M (Mi.gR i) (fun σ H => tVar i σ H fun v H' => H' = H ∧ ∃ z : Str, v = .str z ∧ (PySem.reprText z).length ≤ 100000) := fun e σ H Hv I h => by
  unfold Mi.gR at h
  split at h
  · rename_i z hz
    obtain ⟨v, hv, r⟩ := I.nob i _ hz hm
    have r : v = .str z := (rep_str (H := Hv)).mp r
    subst r
    exact ⟨_, hv, rfl, z, rfl, of_decide_eq_true h⟩
  · cases h
def PGs (M : Nat → Bool) : List (Mi.Env → Bool) → List (L2.St → Hp → Prop) → Prop
  | [], [] => True
  | g :: gs, p :: ps => PG M g p ∧ PGs M gs ps
  | _, _ => False
theorem pgs_all : ∀ {gs : List (Mi.Env → Bool)} {ps : List (L2.St → Hp → Prop)}, PGs M gs ps → ∀ {e σ H Hv}, R0 M e σ H Hv → (gs.all fun g => g e) = true → ∀ p ∈ ps, p σ H
  | [], [], _, _, _, _, _, _, _, p, hp => by cases hp
  | [], _ :: _, f, _, _, _, _, _, _, _, _ => f.elim
  | _ :: _, [], f, _, _, _, _, _, _, _, _ => f.elim
  | g :: gs, p :: ps, f, e, σ, H, Hv, I, h, q, hq => by
    rw [List.all_cons, Bool.and_eq_true] at h
    rcases List.mem_cons.mp hq with rfl | hq
    · exact f.1 e σ H Hv I h.1
    · exact pgs_all f.2 I h.2 q hq
theorem asx_raise {cls : String} {gs : List (Mi.Env → Bool)} {ps : List (L2.St → Hp → Prop)} (hp : PGs M gs ps) : ASX M κ (wish cl E) (fun _ σ H1 => ((∀ p ∈ ps, p σ H1) ∧ ∀ z : Str, z.length ≤ sizeLine → ∀ ea, H1 ea = none → E (.ref (cl cls)) (some ea) H1)) (Mi.sRaise cls gs) := fun H0 Hv0 e σ H Hv D I h => by
  unfold Mi.sRaise at h
  split at h
  · rename_i hg
    exact ⟨pgs_all hp I.toR0 hg, fun z _ ea hea => h H Hv I.gw ea hea⟩
  · exact h.elim
theorem lenX {f : Mi.S} {k n : Nat} {vs : List V} {H : Hp} {Q : VK} {E : XK} (h : spX cl (Mi.fnM k n f) vs H Q E) : vs.length = k := by
  obtain ⟨Hv, ws, _, p, q⟩ := h
  rw [← p.len]; exact (Mi.finx_guard q).1
theorem runX {N : List Str} {k : Nat} {vs : List V} {H : Hp} {Q : VK} (hA : ASX M qV (wish cl E) t m) (hM : ∀ i, i < k → M i = false) (h : spX cl (Mi.fnM k N.length m) vs H Q E) : t { nx := fun _ H' => Q .non H', rt := Q } (start N vs) H := by
  obtain ⟨Hv, ws, vw, p, q⟩ := h
  obtain ⟨hk, q⟩ := Mi.finx_guard q
  refine hA H Hv _ _ H Hv _ (start_R1 vw p hk hM) ((finx_bind.mp q).mono (fun o ho => ?_) fun z hz => hz)
  cases o with
  | nx e => exact fun σ H' Hv' I s => ho _ H' Hv' I.gw qv_non
  | rt w => exact fun v H' Hv' g r => ho v H' Hv' g r
  | bk e => exact ho.elim
  | ct e => exact ho.elim
end
theorem _root_.L2.Fun.okX {P : Program} {w : World} {K : PySem.W.Frag} {mg : Str → Option Value} {base : Heap} {x qual : Str} {st : Stmt} {f : Addr} {fd : FuncData} {N ps : List Str} {k : Nat} {sp : Sp} (F : Fun K x qual st f fd) (S : FnScope N ps (defScope st)) (len : ∀ vs H Q E, sp vs H Q E → vs.length = ps.length)
    (hbody : ∀ (cdv : Value) (A : Around) (outer : List Env) (s : Shared) (H : Hp) (vs : List V) (Q : VK) (E : XK), Room k (A.deeper (envOfC qual (defScope st) s.heap.objs.size f cdv)) → sp vs H Q E →
      ∃ t, PSs (cxOf (CX1 P w) P w K mg base N qual (defScope st) f cdv A outer s H E) (defBody st) t ∧ t { nx := fun _ H' => Q .non H', rt := Q } (start N vs) H) : FnOk P w K mg base (CX1 P w) (k + 1) f fd ps sp := by
  obtain ⟨oc, od, kV, doc, pm, an, cdv, ct, osl, rfl, lk, hcd⟩ := F.ex
  exact fn_of lk hcd S len fun A outer s H vs Q E hr hsp => hbody cdv A outer s H vs Q E hr hsp
end A
set_option Elab.async false
set_option linter.all false
set_option maxRecDepth 100000
set_option maxHeartbeats 1000000
namespace L2
open PySem PySem.Spec PyProof.Rows
abbrev XF := Addr → Addr → St → Hp → Prop
abbrev TSX := Ends → XF → St → Hp → Prop
def XP (X : Cx) (pins : List (Addr × Obj)) (F : XF) (e : Value) (s' : Shared) : Prop :=
  ∃ σ H1 s1, Inv X pins σ H1 s1 ∧ CX1 X.prog X.w X.stack H1 s1 (fun c oa H2 => ∃ C ea, c = .ref C ∧ oa = some ea ∧ F C ea σ H2) e s'
def PSX (X : Cx) (st : Stmt) (t : TSX) : Prop := ∀ (pins : List (Addr × Obj)) (s : Shared) (σ : St) (H : Hp) (D : Ends) (F : XF), Inv X pins σ H s → t D F σ H → wpAny (model X.prog X.w) X.A (exec st X.env) (SP X pins D) (XP X pins F) s
def PSXs (X : Cx) (st : List Stmt) (t : TSX) : Prop := ∀ (pins : List (Addr × Obj)) (s : Shared) (σ : St) (H : Hp) (D : Ends) (F : XF), Inv X pins σ H s → t D F σ H → wpAny (model X.prog X.w) X.A (execs st X.env) (SP X pins D) (XP X pins F) s
section
variable {X : Cx} {st : Stmt} {t u : TSX}
theorem psx_one (h : PSX X st t) : PSXs X [st] t := by
  intro pins s σ H D F I q
  refine wpAny_execs_cons (wpAny_mono (h pins s σ H D F I q) (fun f s1 q => ?_) fun _ _ z => z)
  cases f with
  | next => exact wpAny_execs_nil q
  | ret v => exact q
  | brk => exact q
  | cont => exact q
def tIfX (tc : TT) (t u : TSX) : TSX := fun D F σ H => tc σ H fun k H1 => match k with
  | true => t D F σ H1
  | false => u D F σ H1
theorem psx_if {c : Expr} {a b : List Stmt} {tc : TT} {pos : Pos} (hx : X.xe = fun _ _ => False) (hc : PT X c tc) (ha : PSXs X a t) (hb : PSXs X b u) : PSX X (.If c a b pos) (tIfX tc t u) := by
  intro pins s σ H D F I h
  refine wpAny_If (wpAny_mono (hc pins s σ H _ I h) (fun d s1 ⟨H1, I1, q1⟩ => ?_) fun _ _ z => by rw [hx] at z; exact z.elim)
  cases d with
  | true => exact ha pins s1 σ H1 D F I1 q1
  | false => exact hb pins s1 σ H1 D F I1 q1
def tCallX (sp : Sp) (t : TA) : TSX := fun D F σ H => t σ H fun vs H1 => sp vs H1 (fun _ H2 => D.nx σ H2) (fun c oa H2 => ∃ C ea, c = .ref C ∧ oa = some ea ∧ F C ea σ H2)
theorem psx_call {k : Nat} {x : Str} {ps : List Str} {sp : Sp} {e : Expr} {es : List Expr} {t : TA} {p cpos pos : Pos} (hx : X.xe = fun _ _ => False) (C : Cal X.prog X.w X.K X.mg X.base (CX1 X.prog X.w) k x ps sp) (hr : Room k X.A) (hg : Gl X x)
    (ha : PA X (e :: es) t) (hdb : (x == ("__debug__" : Str)) = false := by decide) (he : starEach (e :: es) X.env = (false, eval e X.env) :: starEach es X.env := by rfl) (hpl : (backTo cpos (starEach es X.env)).any (·.1) = false := by rfl)
    (hs : swapsWith (.Call (.Name x p) (e :: es) [] cpos) none pos.line X.env = pure false := by rfl) : PSX X (.Expr (.Call (.Name x p) (e :: es) [] cpos) pos) (tCallX sp t) := by
  intro pins s σ H D F I h
  obtain ⟨f, fd, hm, hk, hb, Fo⟩ := C.ex
  refine wpAny_Expr_any ?_ I.quiet hs
  refine wpAny_Call_Name_kw (ld_glob I hg hm ?_ hdb)
  refine PySem.W.callWith_K (h₀ := X.base) I.ok.mod.kin hk (wpAny_mono (ha cpos pins s σ H _ I h) (fun us s1 ⟨vs, H1, I1, r, q⟩ => ⟨I1.kIn, ?_⟩) fun _ _ z => by rw [hx] at z; exact z.elim) he hpl
  have hl : us.length = ps.length := by rw [← r.length]; exact Fo.len _ _ _ _ q
  refine wpAny_call (codeAny_mono (Fo.run X.A X.stack s1 H1 ⟨us, []⟩ us vs _ _ hr I1.env0 (by have := hb s1 us I1.kIn (by rw [List.append_nil]; exact hl); rwa [List.append_nil] at this) r q) fun res s' hq => ?_)
  cases res with
  | error e' => exact ⟨σ, H1, s1, I1, hq⟩
  | ok fl =>
    cases fl with
    | ret v =>
      obtain ⟨v', H2, I2, _, q2⟩ := I1.after hq
      exact ⟨σ, H2, I2, q2⟩
    | next => exact False.elim hq
    | brk => exact False.elim hq
    | cont => exact False.elim hq
end
def Cx.held (X : Cx) (e : Value) : Cx := { X with A := X.A.mark (some e), calm := false, xe := fun _ _ => False }
section
variable {X : Cx} {pins : List (Addr × Obj)} {σ : St} {H : Hp} {s : Shared}
theorem Inv.held (I : Inv X pins σ H s) (e : Value) : Inv (X.held e) pins σ H s :=
  ⟨⟨I.ok.mod, I.ok.kind, I.ok.glob, I.ok.blt, I.ok.above, I.ok.inj, I.ok.has, I.ok.cab, fun z => (nomatch z), I.ok.frames, I.ok.stk, I.ok.exf, I.ok.bs, I.ok.bsz, I.ok.noex, I.ok.exfs, I.ok.funs, I.ok.frf⟩, I.os, I.bare, I.base, I.loc, I.cell, I.free, I.freeC, I.pin, I.hok, I.len⟩
theorem Inv.unheld {e : Value} (J : X.Ok) (I : Inv (X.held e) pins σ H s) : Inv X pins σ H s :=
  ⟨J, I.os, I.bare, I.base, I.loc, I.cell, I.free, I.freeC, I.pin, I.hok, I.len⟩
end
end L2
set_option Elab.async false
set_option linter.all false
set_option maxRecDepth 100000
set_option maxHeartbeats 1000000
namespace L2
open PySem PySem.Spec PyProof.Rows
open A (excX)
section
variable {X : Cx} {pins : List (Addr × Obj)} {σ : St} {H : Hp} {s : Shared}
theorem name_off {M : Model} {A : Around} {E : Value → Shared → Prop} {i : Nat} {n : Str} {pos : Pos} {Q : Unit → Shared → Prop} (I : Inv X pins σ H s) (hN : X.N.Nodup) (hi : X.N[i]? = some n) (hk : X.env.scope.names.lookup n = some .local)
    (h : ∀ s', Inv X pins (σ.set i none) H s' → Q () s') : wpAny M A (do bindName X.env n .none; unbindBehindTheSuite X.env n pos) Q E s := by
  have hcls : (X.env.scope.kind == .class || (X.env.scope.kind == .module && X.env.locals != X.env.globals)) = false := by rw [I.ok.kind]; rfl
  have hiσ : i < σ.length := by rw [I.len]; exact (List.getElem?_eq_some_iff.mp hi).1
  refine wpAny_bind (wpAny_bindName (store_ok (v := .non) (u := .none) I hN hi (.inl hk) rfl (fun s1 I1 => ?_) (.inr hk)))
  obtain ⟨m, hn, hl⟩ := id I1.loc
  have hsome : (m n).isSome = true := by
    obtain ⟨u, _, q⟩ := hl i n .non hi (List.getElem?_set_self hiσ) (.inl hk)
    rcases q with ⟨_, e⟩ | ⟨k, _⟩
    · rw [e]; rfl
    · have hk' : X.env.kindOf n = some .local := hk
      rcases k with k | k <;> (rw [hk'] at k; cases k)
  have hk' : X.env.kindOf n = some .local := hk
  unfold unbindBehindTheSuite
  refine wpAny_onRaise ?_
  unfold unbindName
  refine wpAny_bind (wpAny_point (wpAny_bind ?_))
  unfold deleteName
  simp only [hk', hcls]
  rw [if_neg (by decide)]
  refine wpAny_bind (wpAny_nsDel_keeps hn fun h2 v hn2 hs2 => ?_)
  rw [hsome]
  simp only [if_true, Bool.not_true, Bool.false_eq_true, if_false]
  refine wpAny_pure (wpAny_point (h _ ?_))
  obtain ⟨oL, _, _, hoL, _⟩ := id hn
  have ne : ∀ {b o}, X.s₀.heap.get? b = some o → b ≠ X.env.locals := fun {b o} e => Nat.ne_of_lt (Nat.lt_of_lt_of_le (Heap.lt_size e) I1.ok.above)
  refine ⟨I1.ok, I1.os, I1.bare, ⟨fun b o e z hb hx => (hs2.2 b (ne e)).trans (I1.base.keep b o e z hb hx), fun b o e z hb hx => ?_, I1.base.free, fun b o e hx => ?_, I1.base.tups, I1.base.frzs, I1.base.tbls⟩, ⟨_, hn2, fun j y v' e1 e2 e3 => ?_⟩, fun y c e => ?_, I1.free, I1.freeC, fun p hp => ?_, ?_, by simpa using I1.len⟩
  · obtain ⟨sl, e1⟩ := I1.base.slot b o e z hb hx
    exact ⟨sl, (hs2.2 b (ne e)).trans e1⟩
  · obtain ⟨o', e1⟩ := I1.base.there b o e hx
    exact ⟨o', (hs2.2 b (ne e)).trans e1⟩
  · by_cases hj : j = i
    · subst hj
      rw [List.getElem?_set_self hiσ] at e2; cases e2
    · have e2' : (σ.set i (some V.non))[j]? = some (some v') := by
        rw [List.getElem?_set_ne (Ne.symm hj)] at e2 ⊢; exact e2
      obtain ⟨u', r', q⟩ := hl j y v' e1 e2' e3
      refine ⟨u', r', ?_⟩
      rcases q with ⟨k, e⟩ | ⟨k, c, e, z⟩
      · refine .inl ⟨k, ?_⟩
        have : y ≠ n := fun e => hj (nodup_ix hN e1 (e ▸ hi))
        simp [this, e]
      · refine .inr ⟨k, c, e, ?_⟩
        obtain ⟨o, ho, hd⟩ := z
        exact ⟨o, (hs2.2 c (I1.cne y c e)).trans ho, hd⟩
  · obtain ⟨v2, o, ho, hd⟩ := I1.cell y c e
    exact ⟨v2, o, (hs2.2 c (I1.cne y c e)).trans ho, hd⟩
  · obtain ⟨q1, q2, q3, q4⟩ := I1.pin p hp
    exact ⟨(hs2.2 _ q3).trans q1, q2, q3, q4⟩
  · intro b ob e
    refine (I1.hok b ob e).stay (fun c w' hc q => (hs2.2 c ?_).trans q) (fun _ q => q) fun _ _ q => q
    rintro rfl
    rcases hc with rfl | hc
    · rw [I1.free] at e; cases e
    · rw [I1.free] at hc; cases hc
theorem Inv.caught {H1 H2 : Hp} {s1 s' : Shared} {h4 : Heap} {ea C : Addr} {no : List Addr} {oe : Obj} (I1 : Inv X pins σ H1 s1) (os : s'.os = s1.os) (bare : AllBare s'.gens) (un : Un (frs X.stack) [] H1 H2 s1.heap s'.heap) (ok2 : HOk X.prog X.w H2 s'.heap)
    (n : Noted (frs X.stack) no s'.heap h4) (hno : ∀ b ∈ no, s1.heap.get? b = none ∧ H2 b = none) (he : ea ∈ no) (hx : h4.get? ea = some oe) (hc : oe.cls = .ref C) (hcd : oe.dict = none) (hcf : ∃ vs, oe.data = .fields vs) : Inv X pins σ (upd H2 ea (.ext (excX ea C))) { s' with heap := h4 } := by
  have I2 : Inv X pins σ H2 s' := I1.call' os (ch := []) un ok2 bare (fun b z => absurd z (by simp))
  have old : ∀ {b o}, s1.heap.get? b = some o → b ∉ no := fun {b o} e z => by rw [(hno b z).1] at e; cases e
  have nee : ∀ {b o}, H2 b = some o → b ≠ ea := fun {b o} e z => by rw [z, (hno ea he).2] at e; cases e
  refine I1.call' (s' := { s' with heap := h4 }) os (ch := []) ⟨fun b o e z nf nx => n.keep b o (un.keep b o e z nf nx) nf (old e), fun b o e z nf nx => ?_, fun b o e z nx => ?_, fun b o e nx => ?_, fun b xs e => ?_, fun b o u e => ?_, fun b w ps e => ?_⟩ ?_ bare (fun b z => absurd z (by simp))
  · obtain ⟨sl, q⟩ := un.slot b o e z nf nx
    obtain ⟨sl2, q2⟩ := n.slot b _ q (old e)
    exact ⟨sl2, q2⟩
  · rw [upd_ne (fun y : b = ea => old e (by rw [y]; exact he))]
    exact un.free b o e z nx
  · obtain ⟨o1, q⟩ := un.there b o e nx
    exact n.there b o1 q
  · have q := un.tups b xs e
    rw [upd_ne (nee q)]; exact q
  · have q := un.frzs b o u e
    rw [upd_ne (nee q)]; exact q
  · obtain ⟨more, q⟩ := un.tbls b w ps e
    exact ⟨more, by rw [upd_ne (nee q)]; exact q⟩
  · intro a o e
    by_cases ha : a = ea
    · subst ha
      rw [upd_same] at e; cases e
      refine ⟨⟨oe, hx, hc, hcd, hcf⟩, ⟨oe, hx⟩, fun k1 k2 ⟨o, q1, q2⟩ kk => ⟨o, kk o q1, q2⟩⟩
    · rw [upd_ne ha] at e
      refine (ok2 a o e).stay (fun b u hb q => ?_) (fun b q => by rw [upd_ne (nee q)]; exact q) fun b xs q => by rw [upd_ne (nee q)]; exact q
      have tr : ∃ ob, H2 b = some ob := by
        rcases hb with rfl | hb
        · exact ⟨_, e⟩
        · exact ⟨_, hb⟩
      obtain ⟨ob, tr⟩ := tr
      refine n.keep b u q (fun z => ?_) fun z => ?_
      · have := I2.stkFree b z
        rw [tr] at this; cases this
      · rw [(hno b z).2] at tr; cases tr
def offE (i : Nat) (D : Ends) : Ends := { nx := fun σ H => D.nx (σ.set i none) H, rt := D.rt, bk := fun σ H => D.bk (σ.set i none) H, ct := fun σ H => D.ct (σ.set i none) H }
def tTry (i : Nat) (okC : Addr → Prop) (tb : TSX) (th : TS) : TS := fun D σ H => tb D (fun C ea σ' H2 => okC C ∧ th (offE i D) (σ'.set i (some (.ref ea))) (upd H2 ea (.ext (excX ea C)))) σ H
theorem ps_try {body suite : List Stmt} {b0 : Stmt} {tb : TSX} {th : TS} {x n : Str} {i : Nat} {C0 : Addr} {np hpos pos : Pos} {okC : Addr → Prop} (hx : X.xe = fun _ _ => False) (hst : X.stack = X.env :: X.outer) (hfr : X.env.frame = some X.env.locals)
    (hN : X.N.Nodup) (hi : X.N[i]? = some n) (hk : X.env.scope.names.lookup n = some .local) (hg : Gl X x) (hm : X.mg x = some (.ref C0)) (hmatch : ∀ C, okC C → PySem.W.exmOne X.K (.ref C) (.ref C0) = some true)
    (hb : PSXs X body tb) (hh : ∀ ea, PSs (X.held (.ref ea)) (b0 :: suite) th) (hdb : (x == ("__debug__" : Str)) = false := by decide) :
    PS X (.Try body [.ExceptHandler (some (.Name x np)) (some n) (b0 :: suite) hpos] [] [] pos) (tTry i okC tb th) := by
  intro pins s σ0 H0 D I h
  refine wpAny_Try_except (wpAny_mono (hb pins s σ0 H0 D _ I h) (fun f s1 q => ?_) fun e s' xp => ?_)
  · cases f with
    | next => exact wpAny_execs_nil q
    | ret v => exact q
    | brk => exact q
    | cont => exact q
  obtain ⟨σ, H1, s1, I1, ea, T, C, H2, rfl, os, bare, un, ok2, n1, n2, n3, n4, xx, C', ea', eC, eE, okc, ht⟩ := xp
  cases eC; cases eE
  have I2 : Inv X pins σ H2 s' := I1.call' os (ch := []) un ok2 bare (fun b z => absurd z (by simp))
  have hfr2 : X.A.frames = some (X.env :: X.outer) := by rw [← hst]; exact I2.ok.frames
  have hl : s'.heap.FunFrames X.base (X.env :: X.outer) := by rw [← hst]; exact I2.stack
  refine note_on (base := X.base) hfr2 hl hfr xx fun h3 T' hT' n x3 => ?_
  refine flight_off (s := { s' with heap := h3 }) x3 fun h4 m4 _ x4 => ?_
  have newT : s1.heap.get? T' = none ∧ H2 T' = none := by
    have hTn : s'.heap.get? T' = none := by
      cases q2 : s'.heap.get? T' with
      | none => rfl
      | some o => exact absurd (Heap.lt_size q2) (Nat.not_lt.mpr hT')
    refine ⟨?_, ok2.none_of hTn⟩
    cases q2 : s1.heap.get? T' with
    | none => rfl
    | some o =>
      obtain ⟨o', z2⟩ := un.there T' o q2 (by simp)
      rw [hTn] at z2; cases z2
  have nn : ∀ b ∈ [ea, T, T'], s1.heap.get? b = none ∧ H2 b = none := fun b hb => by
    simp only [List.mem_cons, List.not_mem_nil, or_false] at hb
    rcases hb with rfl | rfl | rfl
    · exact ⟨n1, n3⟩
    · exact ⟨n2, n4⟩
    · exact newT
  have wide : ∀ {k k' : Heap}, Noted [] [T'] k k' → Noted (frs X.stack) [T'] k k' := fun z => ⟨fun b o q _ => z.keep b o q (by simp), z.slot, z.there⟩
  have n' : Noted (frs X.stack) [ea, T] s'.heap h3 := by rw [hst]; exact n
  have N4 : Noted (frs X.stack) [ea, T, T'] s'.heap h4 := (n'.trans (wide m4)).more fun b hb => by simpa [or_assoc] using hb
  have x4' := x4
  obtain ⟨oe, vs, oT, ts, he, ⟨hc, hcd⟩, hcf, _⟩ := x4'
  have I4 := I1.caught os bare un ok2 N4 nn (by simp) he hc hcd ⟨vs, hcf⟩
  refine wpAny_handleBy_cons (codeAny_handlers_test ?_) (by intro q; cases q)
  refine ld_glob (X := X.held (.ref ea)) (I4.held _) hg hm ?_ hdb
  have LT : PySem.W.Looks (model X.prog X.w) h4 (typeOf (.ref ea)) (.ref C) := by
    rw [← hc]
    exact (PySem.W.Looks.ld he).andThen .now
  refine PySem.W.exm_one (K := X.K) I4.kIn LT (hmatch C okc) _ _ _ { s' with heap := h4 } (fun _ _ q => q) ?_
  refine codeAny_handlers_suite_as ?_
  refine flight_off (s := { s' with heap := h4 }) x4 fun h5 m5 _ x5 => ?_
  have N5 : Noted (frs X.stack) [ea, T, T'] s'.heap h5 := (N4.trans (wide m5)).more fun b hb => by
    simp only [List.cons_append, List.nil_append, List.mem_cons, List.not_mem_nil, or_false] at hb ⊢
    rcases hb with z | z | z | z
    · exact .inl z
    · exact .inr (.inl z)
    · exact .inr (.inr z)
    · exact .inr (.inr z)
  obtain ⟨oe5, vs5, _, _, he5, ⟨hc5, hcd5⟩, hcf5, _⟩ := x5
  have I5 := I1.caught os bare un ok2 N5 nn (by simp) he5 hc5 hcd5 ⟨vs5, hcf5⟩
  refine store_ok (X := X.held (.ref ea)) (i := i) (v := .ref ea) (I5.held _) hN hi (.inl hk) rfl (fun s6 I6 => ?_) (.inr hk)
  refine wpAny_mono (hh ea pins s6 _ _ _ I6 ht) (fun f s7 q => ?_) fun _ _ z => z.elim
  have J := I.ok
  cases f with
  | next =>
    obtain ⟨σ', H', I7, q⟩ := q
    exact name_off (I7.unheld J) hN hi hk fun s8 I8 => ⟨_, _, I8, q⟩
  | brk =>
    obtain ⟨σ', H', I7, q⟩ := q
    exact name_off (I7.unheld J) hN hi hk fun s8 I8 => ⟨_, _, I8, q⟩
  | cont =>
    obtain ⟨σ', H', I7, q⟩ := q
    exact name_off (I7.unheld J) hN hi hk fun s8 I8 => ⟨_, _, I8, q⟩
  | ret v =>
    obtain ⟨v', σ', H', I7, r, q⟩ := q
    exact name_off (I7.unheld J) hN hi hk fun s8 I8 => ⟨v', _, _, I8, r, q⟩
end
end L2
set_option Elab.async false
set_option linter.all false
set_option maxRecDepth 100000
set_option maxHeartbeats 1000000
namespace L2
open PySem PySem.Spec PyProof.Rows
structure RoomH (k : Nat) (A : Around) : Prop where
  dp : A.depth + 3 * k + 5 < recursionLimit
  un : A.units + 16 * k + 200 < cLine
theorem Room.heldH {k : Nat} {A : Around} (r : Room k A) (e : Value) : RoomH k (A.mark (some e)) := ⟨r.dp, r.un⟩
theorem RoomH.deeper {k : Nat} {A : Around} (r : RoomH (k + 1) A) (env : Env) : RoomH k (A.deeper env) :=
  ⟨by have := r.dp; show A.depth + 1 + 3 * k + 5 < _; omega, by have := r.un; show A.units + 3 + 16 * k + 200 < _; omega⟩
theorem RoomH.depth {k : Nat} {A : Around} (r : RoomH k A) : A.depth < recursionLimit := by have := r.dp; omega
theorem RoomH.units {k : Nat} {A : Around} (r : RoomH k A) : A.units + 64 < cLine := by have := r.un; omega
structure FnOkH (P : Program) (w : World) (K : PySem.W.Frag) (mg : Str → Option Value) (base : Heap) (k : Nat) (f : Addr) (fd : FuncData) (ps : List Str) (sp : Sp) : Prop where
  len : ∀ vs H Q E, sp vs H Q E → vs.length = ps.length
  run : ∀ (A : Around) (outer : List Env) (s : Shared) (H : Hp) (args : Args) (us : List Value) (vs : List V) (Q : VK) (E : XK), RoomH k A → Env0 P w K mg base A outer s H → BindsTo s fd args (ps.zip us) → Vals vs us → sp vs H Q E →
    codeAny (model P w) A (.call (.ref f) args) (CR CX0 outer P w H s Q E) s
def cxH (P : Program) (w : World) (K : PySem.W.Frag) (mg : Str → Option Value) (base : Heap) (N : List Str) (qual : Str) (scope : Scope) (f : Addr) (cd : Value) (A : Around) (outer : List Env) (s : Shared) (H : Hp) (E : XK) : Cx :=
  { cxOf CX0 P w K mg base N qual scope f cd A outer s H E with calm := false, xe := fun _ _ => False }
theorem fnH_of {P : Program} {w : World} {K : PySem.W.Frag} {mg : Str → Option Value} {base : Heap} {k : Nat} {f : Addr} {name qual : Str} {params : Arguments} {body : List Stmt} {scope : Scope} {dV kV doc pm cdv ct oc : Value} {an od : Option Addr}
    {osl : Array (Option Value)} {N ps : List Str} {sp : Sp} (lk : K.lookup f = some ⟨oc, od, .func (PySem.W.fnOf name qual params body scope dV kV doc pm an cdv ct), osl⟩) (hcd : PySem.W.codeIn K cdv qual = true) (S : FnScope N ps scope)
    (len : ∀ vs H Q E, sp vs H Q E → vs.length = ps.length)
    (hbody : ∀ (A : Around) (outer : List Env) (s : Shared) (H : Hp) (vs : List V) (Q : VK) (E : XK), RoomH k (A.deeper (envOfC qual scope s.heap.objs.size f cdv)) → sp vs H Q E →
      ∃ t, PSs (cxH P w K mg base N qual scope f cdv A outer s H E) body t ∧ t { nx := fun _ H' => Q .non H', rt := Q } (start N vs) H) :
    FnOkH P w K mg base (k + 1) f (PySem.W.fnOf name qual params body scope dV kV doc pm an cdv ct) ps sp := by
  refine ⟨len, fun A outer s H args us vs Q E hr e0 hb r hsp => ?_⟩
  have hl := len _ _ _ _ hsp
  have KX : K.In s.heap := e0.mod.kin.keeps fun b o e => (e0.bs b o e).1
  have lim : s.heap.NoLimit := e0.mod.nolimit.keeps fun b o e => (e0.bs b o e).1
  have hkind : ∀ y ∈ ps.zip us, scope.names.lookup y.1 = some .local ∨ (scope.names.lookup y.1 = some .cell ∧ ((cellsFrom (s.heap.objs.size + 1) scope.names []).lookup y.1).isSome = true) := fun ⟨n, v⟩ hy => by
    rcases S.par n (List.of_mem_zip hy).1 with q | q
    · exact .inl q
    · exact .inr ⟨q, PySem.W.cellsFrom_some _ _ _ (.inl q)⟩
  refine codeAny_call_function hr.depth (KX _ _ lk) rfl S.co S.gen rfl (PySem.W.codeRec_of KX hcd) (hb _ _ _ _ ?_)
  refine wpAny_newFunctionEnv_cells S.kind hkind fun env he s1 x => ?_
  subst he
  refine ⟨lim.keeps x.toInCall.keep, codeAny_func ?_⟩
  obtain ⟨t, ht, hq⟩ := hbody A outer s H vs Q E (hr.deeper _) hsp
  have e1 : Env0 P w K mg base { A with handled := none } outer s H := ⟨e0.frames, e0.mod, e0.bs, e0.bsz, e0.funs, e0.frf, e0.hok, e0.bare⟩
  have I1 : Inv (cxOf CX0 P w K mg base N qual scope f cdv { A with handled := none } outer s H E) [] (start N vs) H s1 := inv_start S rfl e1 hl r x
  have I : Inv (cxH P w K mg base N qual scope f cdv A outer s H E) [] (start N vs) H s1 :=
    ⟨⟨I1.ok.mod, I1.ok.kind, I1.ok.glob, I1.ok.blt, I1.ok.above, I1.ok.inj, I1.ok.has, I1.ok.cab, fun z => (nomatch z), Around.frames_deeper e0.frames, I1.ok.stk, I1.ok.exf, I1.ok.bs, I1.ok.bsz, I1.ok.noex, I1.ok.exfs, I1.ok.funs, I1.ok.frf⟩, I1.os, I1.bare, I1.base, I1.loc, I1.cell, I1.free, I1.freeC, I1.pin, I1.hok, I1.len⟩
  refine wpAny_mono (ht [] s1 (start N vs) H _ I hq) (fun fl s' hs => ?_) fun e s' hs => hs.elim
  have fin : ∀ {σ' : St} {H' : Hp} {v : V} {u : Value}, Inv (cxH P w K mg base N qual scope f cdv A outer s H E) [] σ' H' s' → RelV v u → Q v H' → CE outer P w H s Q u s' :=
    fun {σ' H' v u} J rv q => ⟨v, H', J.os, J.bare, J.base, J.hok, rv, q⟩
  cases fl with
  | ret u =>
    obtain ⟨v, σ', H', J, rv, q⟩ := hs
    exact fin J rv q
  | next =>
    obtain ⟨σ', H', J, q⟩ := hs
    exact fin (v := V.non) (u := Value.none) J rfl q
  | brk =>
    obtain ⟨_, _, _, q⟩ := hs
    exact False.elim q
  | cont =>
    obtain ⟨_, _, _, q⟩ := hs
    exact False.elim q
theorem Fun.okH {P : Program} {w : World} {K : PySem.W.Frag} {mg : Str → Option Value} {base : Heap} {x qual : Str} {st : Stmt} {f : Addr} {fd : FuncData} {N ps : List Str} {k : Nat} {sp : Sp} (F : Fun K x qual st f fd) (S : FnScope N ps (defScope st)) (len : ∀ vs H Q E, sp vs H Q E → vs.length = ps.length)
    (hbody : ∀ (cdv : Value) (A : Around) (outer : List Env) (s : Shared) (H : Hp) (vs : List V) (Q : VK) (E : XK), RoomH k (A.deeper (envOfC qual (defScope st) s.heap.objs.size f cdv)) → sp vs H Q E →
      ∃ t, PSs (cxH P w K mg base N qual (defScope st) f cdv A outer s H E) (defBody st) t ∧ t { nx := fun _ H' => Q .non H', rt := Q } (start N vs) H) : FnOkH P w K mg base (k + 1) f fd ps sp := by
  obtain ⟨oc, od, kV, doc, pm, an, cdv, ct, osl, rfl, lk, hcd⟩ := F.ex
  exact fnH_of lk hcd S len fun A outer s H vs Q E hr hsp => hbody cdv A outer s H vs Q E hr hsp
structure CalH (P : Program) (w : World) (K : PySem.W.Frag) (mg : Str → Option Value) (base : Heap) (k : Nat) (x : Str) (ps : List Str) (sp : Sp) : Prop where
  ex : ∃ (f : Addr) (fd : FuncData), mg x = some (.ref f) ∧ PySem.W.keepIn K (.ref f) = true ∧ Binds K fd ps [] ∧ FnOkH P w K mg base k f fd ps sp
theorem FnD.calH {P : Program} {w : World} {K : PySem.W.Frag} {mg : Str → Option Value} {base : Heap} {k : Nat} {x : Str} {st : Stmt} {ps : List Str} {sp : Sp} (F : FnD K mg x st ps) (h : ∀ f fd, Fun K x x st f fd → FnOkH P w K mg base k f fd ps sp) : CalH P w K mg base k x ps sp := by
  obtain ⟨f, fd, h1, h2, h3, _, h4⟩ := F.ex
  exact ⟨f, fd, h1, h2, h3, h f fd h4⟩
theorem pe_calH {X : Cx} {k : Nat} {x : Str} {ps : List Str} {sp : Sp} {E : XK} {e : Expr} {es : List Expr} {t : TA} {p pos : Pos} (C : CalH X.prog X.w X.K X.mg X.base k x ps sp) (hr : RoomH k X.A) (hg : Gl X x) (ha : PA X (e :: es) t)
    (hdb : (x == ("__debug__" : Str)) = false := by decide) (he : starEach (e :: es) X.env = (false, eval e X.env) :: starEach es X.env := by rfl) (hpl : (backTo pos (starEach es X.env)).any (·.1) = false := by rfl) :
    PE X (.Call (.Name x p) (e :: es) [] pos) (tCall sp [] E t) := by
  obtain ⟨f, fd, hm, hk, hb, F⟩ := C.ex
  intro pins s σ H Q I h
  refine wpAny_Call_Name_kw (ld_glob I hg hm ?_ hdb)
  refine PySem.W.callWith_K (h₀ := X.base) I.ok.mod.kin hk (thn (ha pos pins s σ H _ I h) fun us s1 ⟨vs, H1, I1, r, q⟩ => ⟨I1.kIn, ?_⟩) he hpl
  have q : sp (vs ++ []) H1 Q E := q
  rw [List.append_nil] at q
  have hl : us.length = ps.length := by rw [← r.length]; exact F.len _ _ _ _ q
  refine wpAny_call (codeAny_mono (F.run X.A X.stack s1 H1 ⟨us, []⟩ us vs _ _ hr I1.env0 (by have := hb s1 us I1.kIn (by rw [List.append_nil]; exact hl); rwa [List.append_nil] at this) r q) fun res s' hq => ?_)
  cases res with
  | error e' => exact hq.elim
  | ok fl =>
    cases fl with
    | ret u => exact I1.after hq
    | next => exact False.elim hq
    | brk => exact False.elim hq
    | cont => exact False.elim hq
end L2
namespace Mi
open PySem
def offI (i : Nat) : Out → Out
  | .nx e => .nx (e.set i none)
  | .rt w => .rt w
  | .bk e => .bk (e.set i none)
  | .ct e => .ct (e.set i none)
def sTry (i : Nat) (cs : List String) (body hb : S) : S := fun e => match body e with
  | .ok o => .ok o
  | .ex z => guardR (z.cls ∈ cs) ((still (hb (e.set i (some (.ex z.cls))))).bind fun o => .ok (offI i o))
  | .no => .no
end Mi
namespace A
open PySem L2 PyProof.Rows So
open Mi (D W Rs Fin FinX fin_bind finx_bind Out Tg Exn)
variable [Tb : Tabs]
def AX (M : Nat → Bool) (κ : Kd) (t : TSX) (m : Mi.S) : Prop := ∀ H0 Hv0 e σ H Hv D F, R1 M H0 Hv0 e σ H Hv → FinX (m e) (OutOk M κ H0 Hv0 D Hv) (fun z => ∀ ea H' Hv', R1 M H0 Hv0 e σ H' Hv' → Same Hv Hv' → H' ea = none → F (Tb.cl z.cls) ea σ H') → t D F σ H
section
variable {M : Nat → Bool} {κ : Kd} {t u : TSX} {m n : Mi.S}
theorem ax_if {tt : TT} {c : Mi.C} (hc : AT M tt c) (h1 : AX M κ t m) (h2 : AX M κ u n) : AX M κ (tIfX tt t u) (Mi.sIf (Mi.cP c) m n) := fun H0 Hv0 e σ H Hv D F I h =>
  hc e σ H Hv _ I.toR0 ((Mi.still_fin (finx_bind.mp h)).mono fun b hb H1 Hv1 g1 => by
    cases b with
    | true => exact h1 H0 Hv0 e σ H1 Hv1 D F (I.grow g1) ((Mi.finx_t hb).mono (fun o z => z.up g1.vis) fun _ z ea H' Hv' I' s' => z ea H' Hv' I' (g1.vis.trans s'))
    | false => exact h2 H0 Hv0 e σ H1 Hv1 D F (I.grow g1) ((Mi.finx_f hb).mono (fun o z => z.up g1.vis) fun _ z ea H' Hv' I' s' => z ea H' Hv' I' (g1.vis.trans s')))
theorem ax_call {f : Mi.Fn} {ws : List Mi.EW} {tr : TA} (ha : AAW M qV tr (Mi.mArgsW ws)) : AX M κ (tCallX (spX Tb.cl f) tr) (Mi.sCallX f ws) := fun H0 Hv0 e σ H Hv D F I h =>
  ha e σ H Hv _ I.toR0 ((Mi.still_fin (finx_bind.mp h)).mono fun ds hx vs H1 Hv1 g1 rx => by
    refine ⟨Hv1, ds, g1.vw, rx, (finx_bind.mp hx).mono (fun w hw v H3 Hv3 g3 r => ?_) fun z hz H3 Hv3 g3 ea hea => ?_⟩
    · exact hw σ H3 Hv3 (I.grow (g1.trans g3)) (g1.trans g3).vis
    · exact ⟨_, _, rfl, rfl, hz ea H3 Hv3 (I.grow (g1.trans g3)) (g1.trans g3).vis hea⟩)
theorem R1.off {H0 Hv0 : Hp} {e : Mi.Env} {σ : L2.St} {H Hv : Hp} (I : R1 M H0 Hv0 e σ H Hv) (i : Nat) : R1 M H0 Hv0 (e.set i none) (σ.set i none) H Hv := by
  have get : ∀ {j : Nat} {w : W}, (e.set i none)[j]? = some (some w) → i ≠ j ∧ e[j]? = some (some w) := fun {j w} h => by
    rcases set_get h with ⟨_, h, _⟩ | z
    · cases h
    · exact z
  have st : ∀ {j : Nat} {v : V}, i ≠ j → σ[j]? = some (some v) → (σ.set i none)[j]? = some (some v) := fun {j v} n h => by rw [List.getElem?_set_ne n]; exact h
  have ts : ∀ {j : Nat} {v : V}, i ≠ j → (σ.set i none)[j]? = some (some v) → σ[j]? = some (some v) := fun {j v} n h => by rw [List.getElem?_set_ne n] at h; exact h
  refine ⟨⟨I.vw, by rw [List.length_set, List.length_set]; exact I.len, fun j w h mm => ?_, fun j w h mm => ?_⟩, I.gw, fun j w a h mm q => ?_, fun j k w w' a b hjk h1 h2 m1 m2 q1 q2 => ?_⟩
  · obtain ⟨nj, h⟩ := get h
    obtain ⟨v, hv, r⟩ := I.nob j w h mm
    exact ⟨v, st nj hv, r⟩
  · obtain ⟨nj, h⟩ := get h
    obtain ⟨v, hv, r⟩ := I.own j w h mm
    exact ⟨v, st nj hv, r⟩
  · obtain ⟨nj, h⟩ := get h
    exact I.fresh j w a h mm (ts nj q)
  · obtain ⟨nj, h1⟩ := get h1
    obtain ⟨nk, h2⟩ := get h2
    exact I.sep j k w w' a b hjk h1 h2 m1 m2 (ts nj q1) (ts nk q2)
theorem as_try {i : Nat} {cs : List String} {th : TS} {hb : Mi.S} (hi : M i = false) (h1 : AX M κ t m) (h2 : AS M κ th hb) : AS M κ (tTry i (fun C => ∃ c ∈ cs, C = Tb.cl c) t th) (Mi.sTry i cs m hb) := fun H0 Hv0 e σ H Hv D I h => by
  refine h1 H0 Hv0 e σ H Hv D _ I ?_
  unfold Mi.sTry at h
  cases hm : m e with
  | ok o => rw [hm] at h; exact h
  | no => rw [hm] at h; exact h.elim
  | ex z =>
    rw [hm] at h
    obtain ⟨hz, h⟩ := Mi.fin_guard h
    intro ea H' Hv' I' s' hea
    have g : Grow H' Hv' (upd H' ea (.ext (excX ea (Tb.cl z.cls)))) (upd Hv' ea (.ext (excX ea (Tb.cl z.cls)))) := .new I'.vw hea
    have r : RepW (upd Hv' ea (.ext (excX ea (Tb.cl z.cls)))) (.ex z.cls) (.ref ea) := ⟨ea, rfl, upd_same⟩
    refine ⟨⟨z.cls, hz, rfl⟩, h2 H0 Hv0 _ _ _ _ _ ((I'.grow g).set hi r) ?_⟩
    have h := fin_bind.mp h
    cases hh : hb (e.set i (some (.ex z.cls))) with
    | no => rw [hh] at h; exact h.elim
    | ex y => rw [hh] at h; exact h.elim
    | ok o =>
      rw [hh] at h
      have sm : Same Hv (upd Hv' ea (.ext (excX ea (Tb.cl z.cls)))) := s'.trans g.vis
      cases o with
      | nx e2 => exact fun σ2 H2 Hv2 I2 s2 => h (σ2.set i none) H2 Hv2 (I2.off i) (sm.trans s2)
      | rt w => exact h
      | bk e2 => exact fun σ2 H2 Hv2 I2 s2 => h (σ2.set i none) H2 Hv2 (I2.off i) (sm.trans s2)
      | ct e2 => exact fun σ2 H2 Hv2 I2 s2 => h (σ2.set i none) H2 Hv2 (I2.off i) (sm.trans s2)
end
end A
set_option Elab.async false
set_option linter.all false
set_option maxRecDepth 100000
set_option maxHeartbeats 1000000
namespace PySem.W
open PySem PySem.Spec PySem.Calls PyProof.Rows
section
variable {prog : Program} {w : World} {A : Around} {E : Value → Shared → Prop} {s : Shared} {K : Frag} {x D : Addr} {ox : Obj}
variable (hga : findIn K (.ref D) "__getattribute__" = some (some (.builtin "BaseException.__getattribute__"))) (hgt : findIn K (.ref D) "__getattr__" = some none) (hcd : (clsIn K D).isSome = true)
  (ha : findIn K (.ref D) "__class__" = some (some (.builtin "object.__class__"))) (hn : specialIn K (.builtin "object.__class__") "__get__" = some (some (.builtin "getset_descriptor.__get__"))) (htk : takesIn K (.builtin "object.__class__") = some true)
  (hm : mroIn K D (.type "object") = some true) (hb : mroIn K D (.type "BaseException") = some true)
include hga hgt hcd ha hn htk hm hb
theorem exc_ga_call {tk : Tok} {R : Result → Shared → Prop} (X : K.In s.heap) (I : InstAt s.heap x ox D none) (h : R (.ok (.ret (.ref D))) s) :
    codeAny (model prog w) A (.call (.builtin "BaseException.__getattribute__") ⟨[.ref x, .str "__class__" tk], []⟩) R s := by
  obtain ⟨hh, g, d, t, os⟩ := s
  have hf : findObj K D none "__class__" = some (.bind (.builtin "getset_descriptor.__get__") (.builtin "object.__class__")) := by
    obtain ⟨cd, hc⟩ := Option.isSome_iff_exists.mp hcd
    unfold findObj
    rw [hc, Option.bind_some, ha, Option.bind_some]
    simp [hn, htk]
  have L0 := I.type (M := model prog w)
  have L1 := looks_find (M := model prog w) X I hf
  have L2 := looks_mroIn (M := model prog w) X hb
  have hk : builtinKind "BaseException.__getattribute__" = some .slot := by decide +kernel
  have hsplit : splitId "BaseException.__getattribute__" = some ("BaseException", "__getattribute__") := by decide +kernel
  have hargs := F.args_bexc_ga (.ref x) (.str "__class__" tk)
  refine codeAny_call_builtin (F.excAttr_ValueError).ga.plain F.entry_bexc_ga ?_
  simp only [checkBuiltinCall, hk, hsplit]
  refine wpAny_bind ?_
  unfold isInstance
  refine wpAny_bind (L0.at ?_)
  refine L2.at ?_
  repeat (any_goals (first | assumption | (refine wpAny_bind (L0.at ?_)) | (refine wpAny_bind (L1.at ?_)) | wp_step))
  refine class_get (s := ⟨hh, g, d, t, os⟩) X I hm ?_
  exact wpAny_pure h
theorem exc_class_attr {Q : Option Value → Shared → Prop} (X : K.In s.heap) (I : InstAt s.heap x ox D none) (h : Q (some (.ref D)) { s with toks := s.toks + 1 }) : wpAny (model prog w) A (getAttr? (.ref x) "__class__") Q E s := by
  obtain ⟨hh, g, d, t, os⟩ := s
  have L0 := I.type (M := model prog w)
  have L1 := looks_findIn (M := model prog w) X hga
  have L2 := looks_findIn (M := model prog w) X hgt
  have f3 := (F.excAttr_ValueError).ga.bind (.ref x)
  have hx2 : (Value.builtin "BaseException.__getattribute__" == Value.builtin "object.__getattribute__") = false := by decide +kernel
  have hx1 : (onTheHeap (Value.ref D) && Value.builtin "BaseException.__getattribute__" == Value.builtin "object.__getattribute__") = false := by rw [hx2, Bool.and_false]
  unfold getAttr? getAttrBy? getAttrBy
  refine wpAny_bind (wpAny_mkText (wpAny_bind (wpAny_attempt (wpAny_holding (wpAny_bind (L0.at (wpAny_bind (L1.at ?_))))))))
  dsimp only
  rw [if_neg (by rw [hx1]; exact Bool.false_ne_true)]
  unfold getAttrByItsOwn
  repeat (any_goals (first | assumption | (refine wpAny_bind (L2.at ?_)) | (refine L2.at ?_) | wp_step))
  refine exc_ga_call (s := ⟨hh, g, d, t + 1, os⟩) hga hgt hcd ha hn htk hm hb X I ?_
  exact handed_on rfl (wpAny_pure h)
theorem kitx_exc : KitX K (.ref x) (.ref D) (fun h => ∃ ox, InstAt h x ox D none) where
  ty := fun _ _ _ ⟨_, I⟩ => I.type
  it := fun _ _ X _ => by
    obtain ⟨cd, hc⟩ := Option.isSome_iff_exists.mp hcd
    unfold clsIn at hc
    split at hc
    · rename_i c' d' cd' sl' ho
      intro A' Q' E' s' k q
      unfold isType loadHead
      exact wpAny_bind (wpAny_loadPart (k _ _ (X _ _ ho)) (wpAny_pure q))
    · cases hc
  ne := fun h tp dd its n sl X htp => by
    obtain ⟨cd, hc⟩ := Option.isSome_iff_exists.mp hcd
    refine Bool.eq_false_iff.mpr fun q => ?_
    have e : D = tp := Value.ref.inj (beq_iff_eq.mp q)
    subst e
    unfold clsIn at hc
    split at hc
    · rename_i c' d' cd' sl' ho
      have z := (X _ _ ho).symm.trans htp
      cases z
    · cases hc
  ca := fun X ⟨_, I⟩ k => exc_class_attr hga hgt hcd ha hn htk hm hb X I k
end
end PySem.W
set_option Elab.async false
set_option linter.all false
set_option maxRecDepth 100000
set_option maxHeartbeats 1000000
namespace L2
open PySem PySem.Spec PyProof.Rows
open A (excX)
theorem fps_nil {X : Cx} : FPs X [] [] := trivial
theorem fps_cons {X : Cx} {e : Expr} {es : List Expr} {p : St → Hp → Prop} {ps : List (St → Hp → Prop)} (h : FP X e p) (t : FPs X es ps) : FPs X (e :: es) (p :: ps) := ⟨h, t⟩
structure ExcCls (K : PySem.W.Frag) (D : Addr) : Prop where
  ga : PySem.W.findIn K (.ref D) "__getattribute__" = some (some (.builtin "BaseException.__getattribute__"))
  gt : PySem.W.findIn K (.ref D) "__getattr__" = some none
  cd : (PySem.W.clsIn K D).isSome = true
  at_ : PySem.W.findIn K (.ref D) "__class__" = some (some (.builtin "object.__class__"))
  gn : PySem.W.specialIn K (.builtin "object.__class__") "__get__" = some (some (.builtin "getset_descriptor.__get__"))
  tk : PySem.W.takesIn K (.builtin "object.__class__") = some true
  mo : PySem.W.mroIn K D (.type "object") = some true
  mb : PySem.W.mroIn K D (.type "BaseException") = some true
section
variable {X : Cx} {pins : List (Addr × Obj)} {σ : St} {H : Hp} {s : Shared}
theorem Inv.instX (I : Inv X pins σ H s) {ea C : Addr} (h : H ea = some (.ext (excX ea C))) : ∃ ox, PySem.W.InstAt s.heap ea ox C none := by
  obtain ⟨⟨o, h1, h2, h3, vs, h4⟩, _⟩ := (show ObjOk X.prog X.w H s.heap ea (.ext (excX ea C)) from I.hok ea _ h)
  refine ⟨o, h1, h2, ?_, by rw [h3]; trivial⟩
  unfold PySem.W.notCls
  rw [h4]
inductive ClsV : V → Value → Prop
  | own (C : Addr) : ClsV (.ref C) (.ref C)
  | blt (T : String) : ClsV (.ty T) (.type T)
def rIsX (K : PySem.W.Frag) : List V → Hp → VK → Prop := fun xs H Q => ∃ ea C c c' b, xs = [.ref ea, c] ∧ H ea = some (.ext (excX ea C)) ∧ ExcCls K C ∧ ClsV c c' ∧ PySem.W.kitOne K (.ref C) c' = some b ∧ Q (.bl b) H
theorem call_isX : CallR X (.builtin "isinstance") (rIsX X.K) := by
  intro pins s σ H xs us Q I r h
  obtain ⟨ea, C, c, c', b, rfl, he, k, hc, e, q⟩ := h
  obtain ⟨u, w', rfl, rx, rt⟩ := vals2 r
  cases (show u = Value.ref ea from rx)
  have hw : w' = c' := by
    cases hc with
    | own C => exact (show w' = Value.ref C from rt)
    | blt T => exact (show w' = Value.type T from rt)
  subst hw
  exact PySem.W.kia_one (PySem.W.kitx_exc k.ga k.gt k.cd k.at_ k.gn k.tk k.mo k.mb) I.kIn (I.instX he) e (fun z => nomatch z) fun tk => ⟨.bl b, H, I.tok tk, rfl, q⟩
theorem vals_refs : ∀ {Cs : List Addr} {us : List Value}, Vals (Cs.map V.ref) us → us = Cs.map .ref
  | [], _, .nil => rfl
  | T :: r, _, .cons a t => by
    have a : _ = Value.ref T := a
    rw [a, vals_refs t]; rfl
def rIsXs (K : PySem.W.Frag) : List V → Hp → VK → Prop := fun xs H Q => ∃ (ea C tp : Addr) (Cs : List Addr) (b : Bool), xs = [.ref ea, .ref tp] ∧ H tp = some (.tup (Cs.map V.ref)) ∧ H ea = some (.ext (excX ea C)) ∧ ExcCls K C ∧ PySem.W.kitAny K (.ref C) (Cs.map .ref) = some b ∧ Q (.bl b) H
theorem call_isXs : CallR X (.builtin "isinstance") (rIsXs X.K) := by
  intro pins s σ H xs us Q I r h
  obtain ⟨ea, C, tp, Cs, b, rfl, ht, he, k, e, q⟩ := h
  obtain ⟨u, w', rfl, rx, rt⟩ := vals2 r
  cases (show u = Value.ref ea from rx)
  cases (show w' = Value.ref tp from rt)
  obtain ⟨_, its, rv, o, h1, h2, _, n, h3⟩ := (show ObjOk X.prog X.w H s.heap tp (.tup (Cs.map V.ref)) from I.hok tp _ ht)
  obtain rfl := vals_refs rv
  obtain ⟨c, d, dt, sl⟩ := o
  simp only at h2 h3
  subst h2 h3
  exact PySem.W.kia_tup (PySem.W.kitx_exc k.ga k.gt k.cd k.at_ k.gn k.tk k.mo k.mb) I.kIn (I.instX he) h1 e (fun z => nomatch z) fun tk => ⟨.bl b, H, I.tok tk, rfl, q⟩
end
end L2
namespace Mi
open PySem
def mIsX (i : Nat) (b : String → Option Bool) : E := fun e => match e[i]? with
  | some (some (.ex c)) => match b c with
    | some k => .ok (.bl k)
    | none => .no
  | _ => .no
end Mi
namespace A
open PySem L2 PyProof.Rows So
open Mi (D W Rs Fin FinX fin_bind finx_bind Out Tg Exn)
variable [Tb : Tabs]
section
variable {K : PySem.W.Frag} {M : Nat → Bool} {b : String → Option Bool}
theorem pgx_nil : PGs M [] [] := trivial
theorem pgx_cons {g : Mi.Env → Bool} {p : L2.St → Hp → Prop} {gs : List (Mi.Env → Bool)} {ps : List (L2.St → Hp → Prop)} (h : PG M g p) (t : PGs M gs ps) : PGs M (g :: gs) (p :: ps) := ⟨h, t⟩
theorem isX_at {i : Nat} {e : Mi.Env} {k : D → Prop} (h : Fin (Mi.mIsX i b e) k) : ∃ c q, e[i]? = some (some (.ex c)) ∧ b c = some q ∧ k (.bl q) := by
  unfold Mi.mIsX at h
  split at h
  · rename_i c hc
    split at h
    · rename_i q hq
      exact ⟨c, q, hc, hq, h⟩
    · exact h.elim
  · exact h.elim
theorem a_isX {i : Nat} {c : V} {c' : Value} (hm : M i = false) (hc : ClsV c c') (hb : ∀ x k, b x = some k → ExcCls K (Tb.cl x) ∧ PySem.W.kitOne K (.ref (Tb.cl x)) c' = some k) : AE M qV (tCB (rIsX K) (tCons (tVar i) (tCons (tC c) tNil))) (Mi.mIsX i b) := fun e σ H Hv Q I h => by
  obtain ⟨x, k, he, hk, q⟩ := isX_at h
  obtain ⟨v, hv, a, rfl, ha⟩ := I.nob i _ he hm
  obtain ⟨h1, h2⟩ := hb x k hk
  exact ⟨_, hv, a, _, c, c', k, rfl, I.vw.sub _ _ ha, h1, hc, h2, q _ H Hv (.refl I.vw) qv_bl⟩
def tRefs : List Addr → TA
  | [] => tNil
  | C :: r => tCons (tC (.ref C)) (tRefs r)
theorem tRefs_ok : ∀ (Cs : List Addr) (σ : L2.St) (H : Hp) (Q : List V → Hp → Prop), Q (Cs.map V.ref) H → tRefs Cs σ H Q
  | [], _, _, _, h => h
  | C :: r, σ, H, Q, h => tRefs_ok r σ H _ h
theorem a_isXs {i : Nat} {Cs : List Addr} (hm : M i = false) (hl : Cs.length ≤ 100) (hb : ∀ x k, b x = some k → ExcCls K (Tb.cl x) ∧ PySem.W.kitAny K (.ref (Tb.cl x)) (Cs.map .ref) = some k) : AE M qV (tCB (rIsXs K) (tCons (tVar i) (tCons (tTup (tRefs Cs)) tNil))) (Mi.mIsX i b) := fun e σ H Hv Q I h => by
  obtain ⟨x, k, he, hk, q⟩ := isX_at h
  obtain ⟨v, hv, a, rfl, ha⟩ := I.nob i _ he hm
  obtain ⟨h1, h2⟩ := hb x k hk
  refine ⟨_, hv, tRefs_ok Cs σ H _ ⟨by rw [List.length_map, sizeLine_eq]; omega, fun p hp => ?_⟩⟩
  have g : Grow H Hv (upd H p (.tup (Cs.map V.ref))) (upd Hv p (.tup (Cs.map V.ref))) := .new I.vw hp
  exact ⟨a, _, p, Cs, k, rfl, upd_same, g.old.at (I.vw.sub _ _ ha) trivial, h1, h2, q _ _ _ g qv_bl⟩
end
end A
set_option Elab.async false
set_option linter.all false
set_option maxRecDepth 100000
set_option maxHeartbeats 1000000
namespace Mi
open PySem
def upS (x : Str) : Str := ⟨PySem.placed x fun _ c => Unicode.upperOf c⟩
def dUpper : D → Rs D
  | .str x => guardR ((upS x).length ≤ 16777216) (.ok (.str (upS x)))
  | _ => .no
end Mi
namespace L2
open PySem PySem.Spec PyProof.Rows
section
variable {X : Cx}
def rUp : V → List V → Hp → VK → Prop := fun x vs H Q => ∃ y : Str, x = .str y ∧ vs = [] ∧ (Mi.upS y).length ≤ sizeLine ∧ Q (.str (Mi.upS y)) H
theorem mt_upper : MtR X "str.upper" rUp := by
  intro pins s σ H x vs v us Q I rx rv h
  obtain ⟨y, rfl, rfl, hz, q⟩ := h
  obtain ⟨t, rfl⟩ := rx
  cases rv
  have hl : PySem.Builtin.Str.tooLong (PySem.placed y fun _ c => Unicode.upperOf c).size = false := by
    unfold PySem.Builtin.Str.tooLong
    exact decide_eq_false (Nat.not_lt.mpr hz)
  exact call_gives F.slot_str_upper (typeIs_str s y t) F.entry_str_upper (F.args_str_upper_1 _) (gives_str_upper y t hl) ⟨hz, .str (Mi.upS y), H, I.tok _, ⟨_, rfl⟩, q⟩
end
end L2
namespace A
open PySem L2 PyProof.Rows So
open Mi (D W Rs Fin fin_bind)
variable [Tb : Tabs]
section
variable {K : PySem.W.Frag} {M : Nat → Bool} {ta : TE} {a : Mi.E}
theorem a_upper (ha : AE M qP ta a) : AE M qV (tBM0 K "str" rUp ta) (Mi.m1 Mi.dUpper a) := fun e σ H Hv Q I h =>
  ha e σ H Hv _ I ((fin_bind.mp h).mono fun x hx v H1 Hv1 g1 rx => by
    cases x with
    | str y =>
      obtain ⟨hz, hk⟩ := Mi.fin_guard (show Fin (Mi.guardR ((Mi.upS y).length ≤ 16777216) _) _ from hx)
      cases RD.str rx
      exact ⟨rfl, y, rfl, rfl, by rw [sizeLine_eq]; exact hz, (Mi.fin_now hk) _ H1 Hv1 g1 qv_str⟩
    | _ => exact hx.elim)
end
end A
set_option Elab.async false
set_option linter.all false
set_option maxRecDepth 100000
set_option maxHeartbeats 1000000
namespace Mi
def sTail (m : S) : S := fun e => match m e with
  | .ok (.rt w) => .ok (.rt w)
  | _ => .no
end Mi
namespace A
open PySem L2 PyProof.Rows So
open Mi (D W Rs Fin fin_bind Out Tg)
variable [Tb : Tabs]
section
variable {M : Nat → Bool} {κ : Kd} {t : TS} {m : Mi.S}
theorem as_pub (y : Nat) (hy : M y = true) (h : AS (fun j => M j && !(j == y)) κ t m) : AS M κ t (Mi.sTail m) := fun H0 Hv0 e σ H Hv D I f => by
  have nb : ∀ {j : Nat}, (M j && !(j == y)) = false → M j = false ∨ j = y := fun {j} z => by
    cases q : M j with
    | false => exact .inl rfl
    | true => rw [q] at z; exact .inr (by simpa using z)
  have nt : ∀ {j : Nat}, (M j && !(j == y)) = true → M j = true ∧ j ≠ y := fun {j} z => by simpa using z
  have fin : ∀ Hv', Grow H0 Hv0 H Hv' → R0 (fun j => M j && !(j == y)) e σ H Hv' → t D σ H := fun Hv' gw R => by
    refine h H0 Hv0 e σ H Hv' D ⟨R, gw, fun i w a q1 q2 q3 => I.fresh i w a q1 (nt q2).1 q3, fun i j w w' a b hij q1 q2 q3 q4 q5 q6 => I.sep i j w w' a b hij q1 q2 (nt q3).1 (nt q4).1 q5 q6⟩ ?_
    unfold Mi.sTail at f
    cases hm : m e with
    | no => rw [hm] at f; exact f.elim
    | ex z => rw [hm] at f; exact f.elim
    | ok o =>
      rw [hm] at f
      cases o with
      | rt w => exact f
      | nx e2 => exact f.elim
      | bk e2 => exact f.elim
      | ct e2 => exact f.elim
  have other : (∀ w0, e[y]? ≠ some (some w0)) → t D σ H := fun none => fin Hv I.gw ⟨I.vw, I.len, fun j w' z q => by
    rcases nb q with q | rfl
    · exact I.nob j w' z q
    · exact absurd z (none w'), fun j w' z q => I.own j w' z (nt q).1⟩
  cases he : e[y]? with
  | none => exact other fun w0 z => by rw [he] at z; cases z
  | some ow =>
    cases ow with
    | none => exact other fun w0 z => by rw [he] at z; cases z
    | some w0 =>
      obtain ⟨p, Hv', q, I', s, r⟩ := I.reveal hy he
      refine fin Hv' I'.gw ⟨I'.vw, I.len, fun j w' z q2 => ?_, fun j w' z q2 => ?_⟩
      · by_cases hj : j = y
        · subst hj
          rw [he] at z; cases z
          exact ⟨_, q, r⟩
        · exact I'.nob j w' (by rw [List.getElem?_set_ne (Ne.symm hj)]; exact z) ((nb q2).resolve_right hj)
      · obtain ⟨m1, hj⟩ := nt q2
        exact I'.own j w' (by rw [List.getElem?_set_ne (Ne.symm hj)]; exact z) m1
end
end A
set_option Elab.async false
set_option linter.all false
set_option maxRecDepth 100000
set_option maxHeartbeats 1000000
namespace Mi
open PySem
end Mi
namespace L2
open PySem PySem.Spec PyProof.Rows
section
variable {X : Cx}
end
end L2
namespace A
open PySem L2 PyProof.Rows So
open Mi (D W Rs Fin fin_bind)
variable [Tb : Tabs]
section
variable {X : Cx}
end
end A
set_option Elab.async false
set_option linter.all false
set_option maxRecDepth 100000
set_option maxHeartbeats 1000000
namespace Mi
open PySem
end Mi
namespace A
open PySem L2 PyProof.Rows So
open Mi (D W Rs Fin FinX fin_bind finx_bind Out Tg Exn)
variable [Tb : Tabs]
section
variable {M : Nat → Bool} {κ : Kd} {t u : TS} {m n : Mi.S} {cl : String → Addr} {E : XK}
end
end A
set_option Elab.async false
set_option linter.all false
set_option maxRecDepth 100000
set_option maxHeartbeats 1000000
namespace L2
open PySem PySem.Spec PyProof.Rows
section
variable {pr : Program} {wo : World} {Ar : Around} {Ex : Value → Shared → Prop}
end
end L2
namespace Mi
open PySem
end Mi
namespace A
open PySem L2 PyProof.Rows So
open Mi (D W Rs Fin fin_bind Out Tg)
variable [Tb : Tabs]
section
variable {X : Cx} {pos : Pos}
end
section
variable {M : Nat → Bool} {κ : Kd} {te : TE} {a : Mi.E}
end
end A
set_option Elab.async false
set_option linter.all false
set_option maxRecDepth 100000
set_option maxHeartbeats 1000000
namespace Mi
open PySem
end Mi
namespace L2
open PySem PySem.Spec PyProof.Rows
section
variable {pr : Program} {wo : World} {Ar : Around} {Ex : Value → Shared → Prop} {z : Shared}
end
end L2
namespace A
open PySem L2 PyProof.Rows
open Mi (D W Rs Fin fin_bind)
variable [Tb : Tabs]
section
variable {X : Cx} {K : PySem.W.Frag}
end
end A
set_option Elab.async false
set_option linter.all false
set_option maxRecDepth 100000
set_option maxHeartbeats 1000000
namespace Mi
open PySem
end Mi
namespace L2
open PySem PySem.Spec PyProof.Rows
section
variable {X : Cx}
end
end L2
namespace A
open PySem L2 PyProof.Rows
open Mi (D W Rs Fin fin_bind)
variable [Tb : Tabs]
section
variable {M : Nat → Bool}
end
end A
set_option linter.all false
set_option maxRecDepth 100000
namespace Mr
open PySem Mi
def b_refuse_strangers : S :=
  (sFor (iOf (mV 1)) (.n 2)
  (sIf (cB (m2 dNotIn (mV 2) (mV 0)))
  sNever
  sNext))
def m_refuse_strangers : Fn := fnM 2 3 b_refuse_strangers
def b_l_words : S :=
  (sSeq (sSet 2 (mC (.str "etaoinshrdlucmfwypvbgkqjxz")))
  (sSeq (sIf (cB (m2 dLt (m2 dMod (mV 0) (mC (.int 4))) (mC (.int 2))))
  (sSeq (sSet 3 (m2 dJoin (mC (.str "")) (mComp [some 2, some 0, none] (iRange1 (mC (.int 8))) (.n 2) cYes (m2 dIx (mV 0) (m2 dMod (m2 dDiv (mV 1) (m2 dAdd (mC (.int 4)) (m2 dMulI (mC (.int 3)) (mV 2)))) (mC (.int 26)))))))
  (sSeq (sIf (cB (m2 dEq (m2 dMod (mV 0) (mC (.int 4))) (mC (.int 0))))
  (sRet (wD (mComp [some 3, none] (iRange1 (mV 1)) (.n 1) cYes (mSlF dSl (mV 0) none (some (m2 dAdd (mV 1) (mC (.int 1))))))))
  sNext)
  (sRet (wD (mComp [some 3, none] (iRange1 (mV 1)) (.n 1) cYes (mSlF dSl (mV 0) (some (m2 dSub (mC (.int 7)) (mV 1))) none))))))
  sNext)
  (sSeq (sSet 4 (m2 dMod (m2 dDiv (mV 0) (mC (.int 4))) (mC (.int 8))))
  (sSeq (sSet 5 (m2 dJoin (mC (.str "")) (mComp [some 2, some 0, none] (iRange1 (mV 4)) (.n 2) cYes (m2 dIx (mV 0) (m2 dMod (m2 dAdd (m2 dAdd (m2 dDiv (mV 1) (mC (.int 32))) (m2 dMulI (mC (.int 5)) (mV 2))) (m2 dMulI (mV 2) (mV 2))) (mC (.int 26)))))))
  (sSeq (sSet 6 (m2 dMod (m2 dDiv (mV 0) (mC (.int 256))) (m2 dAdd (mV 4) (mC (.int 1)))))
  (sRet (wD (mComp [some 5, some 2, some 6, some 0, none] (iRange1 (mV 1)) (.n 4) cYes (m2 dAdd (m2 dAdd (mSlF dSl (mV 0) none (some (mV 2))) (m2 dIx (mV 1) (m2 dMod (m2 dAdd (m2 dDiv (mV 3) (mC (.int 7))) (m2 dMulI (mC (.int 5)) (mV 4))) (mC (.int 26))))) (mSlF dSl (mV 0) (some (mV 2)) none))))))))))
def m_l_words : Fn := fnN 2 7 b_l_words
def b_names_along : S :=
  (sSeq (sSetW 3 (wDict1 (mV 2) (mC (.bl true))))
  (sSeq (sSet 4 (mN dLst [(mV 2)]))
  (sSeq (sWhile 20 (cTru (mV 4))
  (sSeq (sPop 5 4)
  (sFor (iOf (mV 1)) (.t [6, 7])
  (sIf (cAnd (cB (m2 dEq (mV 6) (mV 5))) (cB (mDNotIn 3 (mV 7))))
  (sSeq (sDPut 3 (mV 7) (mC (.bl true)))
  (sAppend 4 (mV 7)))
  sNext))))
  (sRet (wD (mComp [some 3, none] (iOf (mV 0)) (.n 1) (cB (mDIn 0 (mV 1))) (mV 1)))))))
def m_names_along : Fn := fnN 3 8 b_names_along
def b_names_below : S :=
  (sSeq (sDrop (mCall m_refuse_strangers [(wD (m2 dIx (mV 0) (mC (.int 0)))), (wD (mN dLst [(mV 1)]))]))
  (sRet (wD (mCall m_names_along [(wD (m2 dIx (mV 0) (mC (.int 0)))), (wD (m2 dIx (mV 0) (mC (.int 1)))), (wD (mV 1))]))))
def m_names_below : Fn := fnN 2 2 b_names_below
def b_l_cell : S :=
  (sSeq (sIf (cB (m2 dLt (mV 1) (mN bLen [(mV 0)])))
  (sRet (wD (m2 dIx (mV 0) (mV 1))))
  sNext)
  (sSeq (sSet 2 (m2 dAdd (mC (.int 30011)) (m2 dMulI (m2 dMulI (mC (.int 709)) (mV 1)) (mV 1))))
  (sSeq (sIf (cB (m2 dGt (mN bLen [(mV 0)]) (mC (.int 0))))
  (sSet 2 (m2 dAdd (mV 2) (m2 dMulI (m2 dMod (m2 dIx (mV 0) (mC (.int 0))) (mC (.int 99991))) (m2 dAdd (m2 dAdd (m2 dMulI (mV 1) (mV 1)) (m2 dMulI (mC (.int 2)) (mV 1))) (mC (.int 5))))))
  sNext)
  (sRet (wD (mV 2))))))
def m_l_cell : Fn := fnM 2 3 b_l_cell
def b_l_ranks_2 : S :=
  (sSeq (sSet 2 (mComp [none] (iRange1 (mV 1)) (.n 0) cYes (mV 0)))
  (sSeq (sSet 3 (mN dLst []))
  (sSeq (sSet 4 (m2 dMod (mV 0) (mC (.int 2147483647))))
  (sSeq (sFor (iRange1 (mV 1)) (.n 5)
  (sSeq (sSet 4 (m2 dMod (m2 dAdd (m2 dAdd (m2 dMulI (mV 4) (mC (.int 48271))) (m2 dMulI (mC (.int 7)) (mV 5))) (mC (.int 1))) (mC (.int 2147483647))))
  (sAppendPop 3 2 (m2 dMod (m2 dDiv (mV 4) (mC (.int 32))) (mN bLen [(mV 2)])))))
  (sRet (wV 3))))))
def m_l_ranks_2 : Fn := fnN 2 6 b_l_ranks_2
def b_l_net_2 : S :=
  (sSeq (sSet 2 (m2 dAdd (mC (.int 1)) (m2 dMod (mCall m_l_cell [(wD (mV 0)), (wD (mC (.int 0)))]) (mV 1))))
  (sSeq (sSet 3 (mCall m_l_words [(wD (mCall m_l_cell [(wD (mV 0)), (wD (mC (.int 1)))])), (wD (mV 2))]))
  (sSeq (sSet 4 (mCall m_l_ranks_2 [(wD (mCall m_l_cell [(wD (mV 0)), (wD (mC (.int 2)))])), (wD (mV 2))]))
  (sSeq (sSet 5 (m2 dIx (mN dLst [(mC (.int 4)), (mC (.int 1)), (mC (.int 2)), (mC (.int 3)), (mC (.int 2)), (mC (.int 3))]) (m2 dMod (mCall m_l_cell [(wD (mV 0)), (wD (mC (.int 3)))]) (mC (.int 6)))))
  (sSeq (sSet 6 (mN dLst []))
  (sSeq (sFor (iRange1 (mV 2)) (.n 7)
  (sFor (iRange1 (mV 2)) (.n 8)
  (sSeq (sSet 9 (mCall m_l_cell [(wD (mV 0)), (wD (m2 dAdd (m2 dAdd (mC (.int 4)) (m2 dDiv (m2 dMulI (mN bMax [(mV 7), (mV 8)]) (m2 dSub (mN bMax [(mV 7), (mV 8)]) (mC (.int 1)))) (mC (.int 2)))) (mN bMin [(mV 7), (mV 8)])))]))
  (sIf (cAnd (cB (m2 dLt (m2 dIx (mV 4) (mV 7)) (m2 dIx (mV 4) (mV 8)))) (cB (m2 dLt (m2 dMod (m2 dDiv (m2 dMod (m2 dMulI (mV 9) (mC (.int 48271))) (mC (.int 2147483647))) (mC (.int 16))) (mC (.int 4))) (mV 5))))
  (sAppend 6 (mN dTup [(m2 dIx (mV 3) (mV 7)), (m2 dIx (mV 3) (mV 8))]))
  sNext))))
  (sRet (wD (mN dTup [(mN bTuple [(mV 3)]), (mN bTuple [(mV 6)])])))))))))
def m_l_net_2 : Fn := fnM 2 10 b_l_net_2
def b_l_alike (F : Fn) : S :=
  (sSeq (sIf (cOr (cB (m1 (bIs ["str"]) (mV 1))) (cB (m1 (bIs ["int"]) (mV 1))))
  (sSeq (sIf (cOr (cB (m2 dNe (m1 (bIs ["bool"]) (mV 0)) (m1 (bIs ["bool"]) (mV 1)))) (cB (m2 dNe (m1 (bIs ["str"]) (mV 0)) (m1 (bIs ["str"]) (mV 1)))))
  (sRet (wD (mC (.bl false))))
  sNext)
  (sRet (wD (mAnd (m1 (bIs ["int", "str"]) (mV 0)) (m2 dEq (mV 0) (mV 1))))))
  sNext)
  (sSeq (sIf (cOr (cB (m2 dNe (m1 (bIs ["list"]) (mV 0)) (m1 (bIs ["list"]) (mV 1)))) (cNot (cB (m1 (bIs ["list", "tuple"]) (mV 0)))))
  (sRet (wD (mC (.bl false))))
  sNext)
  (sSeq (sIf (cB (m2 dNe (mN bLen [(mV 0)]) (mN bLen [(mV 1)])))
  (sRet (wD (mC (.bl false))))
  sNext)
  (sSeq (sFor (iZip2q (mV 0) (mV 1)) (.t [2, 3])
  (sIf (cNot (cB (mCall F [(wD (mV 2)), (wD (mV 3))])))
  (sRet (wD (mC (.bl false))))
  sNext))
  (sRet (wD (mC (.bl true))))))))
def m_l_alike : Nat → Fn
  | 0 => fnZ
  | n + 1 => fnM 2 4 (b_l_alike (m_l_alike n))
def b_l_spread : S :=
  (sSeq (sSet 2 (mN dLst [(mV 1)]))
  (sSeq (sFor (iRange1 (mC (.int 7))) (.n 3)
  (sFor (iOf (mV 0)) (.t [4, 5])
  (sIf (cAnd (cB (m2 dIn (mV 4) (mV 2))) (cB (m2 dNotIn (mV 5) (mV 2))))
  (sAppend 2 (mV 5))
  sNext)))
  (sRet (wV 2))))
def m_l_spread : Fn := fnN 2 6 b_l_spread
def b_l_below : S :=
  (sSeq (sSet 2 (mCall m_l_spread [(wD (m2 dIx (mV 0) (mC (.int 1)))), (wD (mV 1))]))
  (sRet (wD (mComp [some 2, none] (iOf (m2 dIx (mV 0) (mC (.int 0)))) (.n 1) (cB (m2 dIn (mV 1) (mV 0))) (mV 1)))))
def m_l_below : Fn := fnN 2 3 b_l_below
def bX_refuse_strangers : S :=
  (sFor (iP (iOf (mV 1))) (.n 2)
  (sIf (cP (cB (m2 dNotIn (mV 2) (mV 0))))
  (sRaise "NoName" [(gR 2), (fun _ => true)])
  (sP sNext)))
def mX_refuse_strangers : Fn := fnM 2 3 bX_refuse_strangers
def b_l_stranger : S :=
  (sSeq (sSet 2 (m2 dIx (mV 0) (m2 dMod (mV 1) (mN bLen [(mV 0)]))))
  (sSeq (sSet 3 (mC (.str "zqxjkvbpygfwmucldrhsnioate")))
  (sSeq (sSet 4 (mN dLst [(m2 dAdd (mV 2) (m2 dIx (mV 3) (m2 dMod (m2 dDiv (mV 1) (mC (.int 8))) (mC (.int 26))))), (mSlF dSl (mV 2) (some (mC (.int 1))) none), (mSlF dSl (mV 2) none (some (m1 dNeg (mC (.int 1))))), (m2 dAdd (m2 dIx (mV 3) (m2 dMod (m2 dDiv (mV 1) (mC (.int 5))) (mC (.int 26)))) (mV 2)), (m1 dUpper (mV 2))]))
  (sSeq (sSet 4 (m2 dAdd (mV 4) (mComp [none] (iOf (mV 3)) (.n 0) cYes (mV 0))))
  (sSeq (sSet 4 (mComp [some 0, none] (iOf (mV 4)) (.n 1) (cAnd (cB (m2 dNotIn (mV 1) (mV 0))) (cB (m2 dNe (mV 1) (mC (.str ""))))) (mV 1)))
  (sRet (wD (m2 dIx (mV 4) (m2 dMod (m2 dDiv (mV 1) (mC (.int 3))) (mN bMin [(mC (.int 5)), (mN bLen [(mV 4)])]))))))))))
def m_l_stranger : Fn := fnM 2 5 b_l_stranger
def b_l_kinds : S :=
  (sSeq (sSet 1 (mN dLst []))
  (sSeq (sIf (cB (mIsX 0 (fun c => ([("NoName", false)] : List (String × Bool)).lookup c)))
  (sAppend 1 (mC (.str "Locked, NoArrow, NoLabel or NoNet")))
  sNext)
  (sSeq (sIf (cB (mIsX 0 (fun c => ([("NoName", false)] : List (String × Bool)).lookup c)))
  (sAppend 1 (mC (.str "NoRow, NoSuch, NoText, NoTie or Unlike")))
  sNext)
  (sSeq (sIf (cB (mIsX 0 (fun c => ([("NoName", true)] : List (String × Bool)).lookup c)))
  (sAppend 1 (mC (.str "NoName")))
  sNext)
  (sSeq (sIf (cB (mIsX 0 (fun c => ([("NoName", false)] : List (String × Bool)).lookup c)))
  (sAppend 1 (mC (.str "NoWord")))
  sNext)
  (sSeq (sIf (cB (mIsX 0 (fun c => ([("NoName", false)] : List (String × Bool)).lookup c)))
  (sAppend 1 (mC (.str "Ring")))
  sNext)
  (sSeq (sIf (cB (mIsX 0 (fun c => ([("NoName", false)] : List (String × Bool)).lookup c)))
  (sAppend 1 (mC (.str "Twice")))
  sNext)
  (sSeq (sIf (cB (mIsX 0 (fun c => ([("NoName", false)] : List (String × Bool)).lookup c)))
  (sAppend 1 (mC (.str "WrongSize")))
  sNext)
  (sSeq (sIf (cNot (cB (mIsX 0 (fun c => ([("NoName", true)] : List (String × Bool)).lookup c))))
  (sAppend 1 (mC (.str "no ValueError")))
  sNext)
  (sRet (wV 1)))))))))))
def m_l_kinds : Fn := fnN 1 2 b_l_kinds
end Mr
set_option linter.all false
namespace Mi
open PySem
@[simp] theorem ofO_some {α : Type} (a : α) : ofO (some a) = .ok a := rfl
@[simp] theorem guard_true {α : Type} {c : Prop} [Decidable c] (h : c) (r : Rs α) : guardR c r = r := if_pos h
@[simp] theorem pyEq_str (a b : Str) : pyEq (.str a) (.str b) = decide (a = b) := by rw [pyEq]; by_cases h : a = b <;> simp [h]
@[simp] theorem pyEq_int (a b : Int) : pyEq (.int a) (.int b) = decide (a = b) := by rw [pyEq]; by_cases h : a = b <;> simp [h]
@[simp] theorem dep_str (x : Str) : (D.str x).dep = 0 := by simp [D.dep]
@[simp] theorem dep_int (x : Int) : (D.int x).dep = 0 := by simp [D.dep]
@[simp] theorem dep_bl (x : Bool) : (D.bl x).dep = 0 := by simp [D.dep]
@[simp] theorem dep_non : D.non.dep = 0 := by simp [D.dep]
@[simp] theorem dep_lst (ds : List D) : (D.lst ds).dep = depAll ds + 1 := by simp [D.dep]
@[simp] theorem dep_tup (ds : List D) : (D.tup ds).dep = depAll ds + 1 := by simp [D.dep]
@[simp] theorem depAll_nil : depAll [] = 0 := rfl
@[simp] theorem depAll_cons (d : D) (r : List D) : depAll (d :: r) = max d.dep (depAll r) := by rw [depAll]
@[simp] theorem depAll_str : ∀ xs : List Str, depAll (xs.map D.str) = 0
  | [] => rfl
  | x :: r => by rw [List.map_cons, depAll_cons, dep_str, depAll_str r]; rfl
theorem any_str (xs : List Str) (x : Str) : ((xs.map D.str).any fun e => pyEq e (.str x)) = decide (x ∈ xs) := by
  induction xs with
  | nil => rfl
  | cons y r ih =>
    rw [List.map_cons, List.any_cons, ih, pyEq_str]
    by_cases h : y = x
    · simp [h]
    · have h2 : ¬ x = y := fun z => h z.symm
      simp [h, h2]
theorem dIn_str (xs : List Str) (x : Str) : dIn (.str x) (.lst (xs.map D.str)) = .ok (.bl (decide (x ∈ xs))) := by
  show guardR _ _ = _
  rw [guardR_pos (by rw [depAll_str]; omega), any_str]
theorem dNotIn_str (xs : List Str) (x : Str) : dNotIn (.str x) (.lst (xs.map D.str)) = .ok (.bl (!decide (x ∈ xs))) := by
  show guardR _ _ = _
  rw [guardR_pos (by rw [depAll_str]; omega), any_str]
theorem dNotInT_str (xs : List Str) (x : Str) : dNotIn (.str x) (.tup (xs.map D.str)) = .ok (.bl (!decide (x ∈ xs))) := by
  show guardR _ _ = _
  rw [guardR_pos (by rw [depAll_str]; omega), any_str]
theorem dEq_str (x y : Str) : dEq (.str x) (.str y) = .ok (.bl (decide (x = y))) := by
  show guardR _ _ = _
  rw [guardR_pos (by simp), pyEq_str]
theorem dNe_str (x y : Str) : dNe (.str x) (.str y) = .ok (.bl (!decide (x = y))) := by
  show guardR _ _ = _
  rw [guardR_pos (by simp), pyEq_str]
theorem dEq_int (x y : Int) : dEq (.int x) (.int y) = .ok (.bl (decide (x = y))) := by
  show guardR _ _ = _
  rw [guardR_pos (by simp), pyEq_int]
theorem dNe_int (x y : Int) : dNe (.int x) (.int y) = .ok (.bl (!decide (x = y))) := by
  show guardR _ _ = _
  rw [guardR_pos (by simp), pyEq_int]
theorem asSs_map (xs : List Str) : asSs (xs.map D.str) = some xs := by
  induction xs with
  | nil => rfl
  | cons a r ih => rw [List.map_cons, asSs, ih]; rfl
theorem fnM1 (n : Nat) (b : S) (a0 : W) : fnM 1 n b [a0] = (b ([some a0] ++ List.replicate (n - 1) none)).bind fnOut := guardR_pos rfl
theorem fnM2 (n : Nat) (b : S) (a0 a1 : W) : fnM 2 n b [a0, a1] = (b ([some a0, some a1] ++ List.replicate (n - 2) none)).bind fnOut := guardR_pos rfl
theorem fnM3 (n : Nat) (b : S) (a0 a1 a2 : W) : fnM 3 n b [a0, a1, a2] = (b ([some a0, some a1, some a2] ++ List.replicate (n - 3) none)).bind fnOut := guardR_pos rfl
theorem fnN2 (n : Nat) (b : S) (a0 a1 : W) : fnN 2 n b [a0, a1] = (b ([some a0, some a1] ++ List.replicate (n - 2) none)).bind fnOutN := guardR_pos rfl
theorem fnN3 (n : Nat) (b : S) (a0 a1 a2 : W) : fnN 3 n b [a0, a1, a2] = (b ([some a0, some a1, some a2] ++ List.replicate (n - 3) none)).bind fnOutN := guardR_pos rfl
theorem add_ii (i j : Int) : dAdd (.int i) (.int j) = .ok (.int (i + j)) := rfl
theorem add_ss (i j : Str) : dAdd (.str i) (.str j) = guardR (i.length + j.length ≤ 16777216) (.ok (.str (i ++ j))) := rfl
theorem add_ll (i j : List D) : dAdd (.lst i) (.lst j) = guardR (i.length + j.length ≤ 16777216) (.ok (.lst (i ++ j))) := rfl
theorem sub_ii (i j : Int) : dSub (.int i) (.int j) = .ok (.int (i - j)) := rfl
theorem mul_ii (i j : Int) : dMulI (.int i) (.int j) = guardR (okMul i j) (.ok (.int (i * j))) := rfl
theorem div_ii (i j : Int) : dDiv (.int i) (.int j) = guardR (okDiv j) (.ok (.int (i / j))) := rfl
theorem mod_ii (i j : Int) : dMod (.int i) (.int j) = guardR (0 < j) (.ok (.int (i % j))) := rfl
theorem lt_ii (i j : Int) : dLt (.int i) (.int j) = .ok (.bl (decide (i < j))) := rfl
theorem len_l (ds : List D) : bLen [.lst ds] = .ok (.int ds.length) := rfl
theorem max_ii (i j : Int) : bMax [.int i, .int j] = .ok (.int (max i j)) := rfl
theorem min_ii (i j : Int) : bMin [.int i, .int j] = .ok (.int (min i j)) := rfl
theorem sl_s (z : Str) (lo hi : Option Int) : dSl (.str z) lo hi = guardR (z.length ≤ 16777216) (.ok (.str (cutStr z lo hi))) := rfl
theorem items_l (ds : List D) : dItems (.lst ds) = .ok ds := rfl
theorem asB_b (b : Bool) : asB (.bl b) = .ok b := rfl
theorem asI_i (b : Int) : asI (.int b) = .ok b := rfl
theorem asD_d (x : D) : asD (.d x) = .ok x := rfl
theorem put_n (i : Nat) (d : D) (e : Mi.Env) : (Tg.n i).put d e = .ok (e.set i (some (.d d))) := rfl
theorem all_cons (i : Nat) (is : List Nat) (d : D) (ds : List D) (e : Mi.Env) : setAll (i :: is) (d :: ds) e = setAll is ds (e.set i (some (.d d))) := rfl
theorem out_nx (e : Mi.Env) : fnOut (.nx e) = .ok (.d .non) := rfl
theorem outN_rt (w : W) : fnOutN (.rt w) = .ok w := rfl
theorem m2_ok {f : D → D → Rs D} {a b : E} {e : Mi.Env} {x y : D} {z : Rs D} (ha : a e = .ok x) (hb : b e = .ok y) (h : f x y = z) : m2 f a b e = z := by
  unfold m2; rw [ha, bind_ok, hb, bind_ok, h]
theorem seq_ok {s t : S} {e e' : Mi.Env} (h : s e = .ok (.nx e')) : sSeq s t e = t e' := by unfold sSeq; rw [h]; rfl
theorem seq_rt {s t : S} {e : Mi.Env} {w : W} (h : s e = .ok (.rt w)) : sSeq s t e = .ok (.rt w) := by unfold sSeq; rw [h]; rfl
theorem set_ok {i : Nat} {a : E} {e : Mi.Env} {d : D} (h : a e = .ok d) : sSet i a e = .ok (.nx (e.set i (some (.d d)))) := by unfold sSet; rw [h]; rfl
theorem ret_ok {a : EW} {e : Mi.Env} {w : W} (h : a e = .ok w) : sRet a e = .ok (.rt w) := by unfold sRet; rw [h]; rfl
theorem wD_ok {a : E} {e : Mi.Env} {d : D} (h : a e = .ok d) : wD a e = .ok (.d d) := by unfold wD; rw [h]; rfl
theorem if_tt {c : C} {s t : S} {e : Mi.Env} (h : c e = .ok true) : sIf c s t e = s e := by unfold sIf; rw [h]; rfl
theorem if_ff {c : C} {s t : S} {e : Mi.Env} (h : c e = .ok false) : sIf c s t e = t e := by unfold sIf; rw [h]; rfl
theorem cB_ok {a : E} {e : Mi.Env} {b : Bool} (h : a e = .ok (.bl b)) : cB a e = .ok b := by unfold cB; rw [h]; rfl
theorem comp_ok {ρ : List (Option Nat)} {it : I} {tg : Tg} {c : C} {a : E} {e : Mi.Env} {xs ys : List D} (h : it e = .ok xs) (hl : xs.length ≤ 16777216) (hc : compD tg c a (pickE ρ e) xs = .ok ys) : mComp ρ it tg c a e = .ok (.lst ys) := by
  unfold mComp; rw [h, bind_ok, guardR_pos hl, hc, bind_ok]
theorem rng_ok {a : E} {e : Mi.Env} {n : Int} (h : a e = .ok (.int n)) (hr : okR n) : iRange1 a e = .ok (dRange 0 n) := by
  unfold iRange1; rw [h, bind_ok, asI_i, bind_ok, guardR_pos hr]
theorem for_ok {it : I} {tg : Tg} {b : S} {e : Mi.Env} {xs : List D} (h : it e = .ok xs) : sFor it tg b e = forD tg b xs e := by unfold sFor; rw [h]; rfl
theorem iOf_ok {a : E} {e : Mi.Env} {x : D} {xs : List D} (h : a e = .ok x) (hx : dItems x = .ok xs) : iOf a e = .ok xs := by unfold iOf; rw [h, bind_ok, hx]
theorem append_ok {i : Nat} {a : E} {e : Mi.Env} {d : D} {ds : List D} (h : a e = .ok d) (hg : getL e i = .ok ds) (hl : ds.length < 16777216) : sAppend i a e = .ok (.nx (putL e i (ds ++ [d]))) := by
  unfold sAppend; rw [h, bind_ok, hg, bind_ok, guardR_pos hl]
theorem n1_ok {f : List D → Rs D} {a : E} {e : Mi.Env} {x : D} (h : a e = .ok x) : mN f [a] e = f [x] := by unfold mN; rw [mArgs, h]; rfl
theorem n2_ok {f : List D → Rs D} {a b : E} {e : Mi.Env} {x y : D} (h : a e = .ok x) (h' : b e = .ok y) : mN f [a, b] e = f [x, y] := by unfold mN; rw [mArgs, h, bind_ok, mArgs, h']; rfl
theorem lst1 {a : E} {e : Mi.Env} {x : D} (h : a e = .ok x) : mN dLst [a] e = .ok (.lst [x]) := by
  rw [n1_ok h]
  exact guardR_pos (by simp)
theorem tup2 {a b : E} {e : Mi.Env} {x y : D} (h : a e = .ok x) (h' : b e = .ok y) : mN dTup [a, b] e = .ok (.tup [x, y]) := by
  rw [n2_ok h h']
  exact guardR_pos (by simp)
theorem call1 {f : Fn} {a : EW} {e : Mi.Env} {x : W} {d : D} (h : a e = .ok x) (hf : f [x] = .ok (.d d)) : mCall f [a] e = .ok d := by unfold mCall wCall; rw [mArgsW, h]; simp only [bind_ok, mArgsW, hf, asD_d]
theorem call2 {f : Fn} {a b : EW} {e : Mi.Env} {x y : W} {d : D} (h : a e = .ok x) (h' : b e = .ok y) (hf : f [x, y] = .ok (.d d)) : mCall f [a, b] e = .ok d := by unfold mCall wCall; rw [mArgsW, h, bind_ok, mArgsW, h']; simp only [bind_ok, mArgsW, hf, asD_d]
theorem call3 {f : Fn} {a b c : EW} {e : Mi.Env} {x y z : W} {d : D} (h : a e = .ok x) (h' : b e = .ok y) (h'' : c e = .ok z) (hf : f [x, y, z] = .ok (.d d)) : mCall f [a, b, c] e = .ok d := by unfold mCall wCall; rw [mArgsW, h, bind_ok, mArgsW, h', bind_ok, mArgsW, h'']; simp only [bind_ok, mArgsW, hf, asD_d]
theorem comp_map {α : Type} {tg : Tg} {c : C} {a : E} {e : Mi.Env} (f g : α → D) (p : α → Bool) : ∀ (xs : List α), (∀ x ∈ xs, ∃ e1, tg.put (f x) e = .ok e1 ∧ c e1 = .ok (p x) ∧ (p x = true → a e1 = .ok (g x))) → compD tg c a e (xs.map f) = .ok ((xs.filter p).map g)
  | [], _ => rfl
  | x :: r, h => by
    obtain ⟨e1, h1, h2, h3⟩ := h x List.mem_cons_self
    have ih := comp_map (tg := tg) (c := c) (a := a) (e := e) f g p r fun y hy => h y (List.mem_cons_of_mem _ hy)
    rw [List.map_cons, compD, h1, bind_ok, h2, bind_ok]
    cases hp : p x with
    | true => rw [if_pos rfl, h3 hp, bind_ok, ih, bind_ok, List.filter_cons_of_pos hp]; rfl
    | false => rw [if_neg Bool.false_ne_true, ih, List.filter_cons_of_neg (by rw [hp]; exact Bool.false_ne_true)]
theorem for_inv {tg : Tg} {body : S} (Inv : Nat → Mi.Env → Prop) : ∀ (xs : List D) (k : Nat), (∀ i x e, xs[i]? = some x → Inv (k + i) e → ∃ e1 e2, tg.put x e = .ok e1 ∧ body e1 = .ok (.nx e2) ∧ Inv (k + i + 1) e2) → ∀ e, Inv k e → ∃ e', forD tg body xs e = .ok (.nx e') ∧ Inv (k + xs.length) e'
  | [], k, _, e, h => ⟨e, rfl, h⟩
  | x :: r, k, hs, e, h => by
    obtain ⟨e1, e2, h1, h2, h3⟩ := hs 0 x e rfl h
    obtain ⟨e', h4, h5⟩ := for_inv Inv r (k + 1) (fun i y e hy hi => by
      have := hs (i + 1) y e (by simpa using hy) (by rw [show k + (i + 1) = k + 1 + i by omega]; exact hi)
      rw [show k + (i + 1) + 1 = k + 1 + i + 1 by omega] at this
      exact this) e2 h3
    refine ⟨e', ?_, by rw [List.length_cons, show k + (r.length + 1) = k + 1 + r.length by omega]; exact h5⟩
    rw [forD, h1, bind_ok, h2, bind_ok]
    exact h4
end Mi
set_option linter.all false
namespace Mr
open PySem Mi
abbrev Ar := Str × Str
def pairD (p : Ar) : D := .tup [.str p.1, .str p.2]
def nmD (names : List Str) : D := .tup (names.map D.str)
def arD (arrows : List Ar) : D := .tup (arrows.map pairD)
def netD (names : List Str) (arrows : List Ar) : D := .tup [nmD names, arD arrows]
def strL (xs : List Str) : D := .lst (xs.map D.str)
theorem at0 {α : Type} (a : α) (r : List α) : atI (a :: r) 0 = some a := by simp [atI, ixN]
theorem at1 {α : Type} (a b : α) (r : List α) : atI (a :: b :: r) 1 = some b := by
  unfold atI ixN
  rw [if_pos (by decide), if_pos (by simp only [List.length_cons]; omega)]; rfl
theorem ix0 (names : List Str) (arrows : List Ar) : dIx (netD names arrows) (.int 0) = .ok (nmD names) := by
  unfold netD dIx
  simp [at0]
theorem ix1 (names : List Str) (arrows : List Ar) : dIx (netD names arrows) (.int 1) = .ok (arD arrows) := by
  unfold netD dIx
  simp [at1]
theorem refuse_ok {names asked : List Str} (h : ∀ x ∈ asked, x ∈ names) : m_refuse_strangers [.d (nmD names), .d (strL asked)] = .ok (.d .non) := by
  have key : ∀ (xs : List Str) (o : Option W), (∀ x ∈ xs, x ∈ names) → ∃ o', forD (.n 2) (sIf (cB (m2 dNotIn (mV 2) (mV 0))) sNever sNext) (xs.map D.str) [some (.d (nmD names)), some (.d (strL asked)), o] = .ok (.nx [some (.d (nmD names)), some (.d (strL asked)), o']) := by
    intro xs
    induction xs with
    | nil => exact fun o _ => ⟨o, rfl⟩
    | cons x r ih =>
      intro o hx
      obtain ⟨o', e⟩ := ih (some (.d (.str x))) fun y hy => hx y (List.mem_cons_of_mem _ hy)
      refine ⟨o', ?_⟩
      rw [List.map_cons, forD]
      have : x ∈ names := hx x List.mem_cons_self
      simp only [nmD, put_n, List.set_cons_succ, List.set_cons_zero, sIf, cB, m2, mV, sNext, bind_ok, List.getElem?_cons_succ, List.getElem?_cons_zero, dNotInT_str, this, decide_true, Bool.not_true, asB_b, Bool.false_eq_true, if_false]
      exact e
  obtain ⟨o', e⟩ := key asked none h
  unfold strL at e
  unfold m_refuse_strangers b_refuse_strangers
  rw [fnM2]
  simp only [sFor, iOf, mV, strL, Nat.reduceSub, List.replicate_succ, List.replicate_zero, List.cons_append, List.nil_append, List.getElem?_cons_succ, List.getElem?_cons_zero, bind_ok, items_l, e, out_nx]
structure Net (names : List Str) (arrows : List Ar) : Prop where
  nd : names.Nodup
  pos : 1 ≤ names.length
  le : names.length ≤ 8
  al : arrows.length ≤ 64
  tl : ∀ p ∈ arrows, p.1 ∈ names
  rk : ∃ r : Str → Int, ∀ p ∈ arrows, r p.1 < r p.2
theorem nodup_sub_len {α : Type} [DecidableEq α] : ∀ {l m : List α}, l.Nodup → (∀ x ∈ l, x ∈ m) → l.length ≤ m.length
  | [], _, _, _ => Nat.zero_le _
  | a :: l, m, nd, h => by
    have nd := List.nodup_cons.mp nd
    have : l.length ≤ (m.erase a).length := nodup_sub_len nd.2 fun x hx => (List.mem_erase_of_ne (fun z : x = a => nd.1 (z ▸ hx))).mpr (h x (List.mem_cons_of_mem _ hx))
    have hm := h a List.mem_cons_self
    rw [List.length_erase_of_mem hm] at this
    have : 0 < m.length := List.length_pos_of_mem hm
    rw [List.length_cons]; omega
end Mr
set_option linter.all false
set_option maxRecDepth 10000
namespace Mr
open PySem Mi
end Mr
set_option linter.all false
namespace My
def wl : List Nat := [101, 116, 97, 111, 105, 110, 115, 104, 114, 100, 108, 117, 99, 109, 102, 119, 121, 112, 118, 98, 103, 107, 113, 106, 120, 122]
def lt26 (n : Int) : Nat := wl.getD (n % 26).toNat 0
def wlong (c : Int) : List Nat := (List.range 8).map fun (k : Nat) => lt26 (c / (4 + 3 * (k : Int)))
def wstem (c : Int) (n : Nat) : List Nat := (List.range n).map fun (k : Nat) => lt26 (c / 32 + 5 * (k : Int) + (k : Int) * (k : Int))
def words (c : Int) (many : Nat) : List (List Nat) :=
  if c % 4 < 2 then
    if c % 4 = 0 then (List.range many).map fun (k : Nat) => (wlong c).take (k + 1)
    else (List.range many).map fun (k : Nat) => (wlong c).drop (7 - k)
  else
    (List.range many).map fun (k : Nat) => (wstem c (c / 4 % 8).toNat).take (c / 256 % (c / 4 % 8 + 1)).toNat ++ [lt26 (c / 7 + 5 * (k : Int))] ++ (wstem c (c / 4 % 8).toNat).drop (c / 256 % (c / 4 % 8 + 1)).toNat
def Word (x : List Nat) : Prop := 1 ≤ x.length ∧ x.length ≤ 8 ∧ ∀ c ∈ x, 97 ≤ c ∧ c ≤ 122
theorem wl_low : ∀ c ∈ wl, 97 ≤ c ∧ c ≤ 122 := by decide
theorem wl_nd : wl.Nodup := by decide
theorem wl_len : wl.length = 26 := by decide
theorem lt26_mem (n : Int) : lt26 n ∈ wl := by
  unfold lt26
  have h1 := Int.emod_nonneg n (b := 26) (by decide)
  have h2 := Int.emod_lt_of_pos n (b := 26) (by decide)
  have h3 : (n % 26).toNat < wl.length := by rw [wl_len]; omega
  rw [List.getD_eq_getElem?_getD, List.getElem?_eq_getElem h3]
  exact List.getElem_mem h3
theorem lt26_inj {n m : Int} (h : lt26 n = lt26 m) : n % 26 = m % 26 := by
  unfold lt26 at h
  have h1 := Int.emod_nonneg n (b := 26) (by decide)
  have h2 := Int.emod_lt_of_pos n (b := 26) (by decide)
  have h3 : (n % 26).toNat < wl.length := by rw [wl_len]; omega
  have h1' := Int.emod_nonneg m (b := 26) (by decide)
  have h2' := Int.emod_lt_of_pos m (b := 26) (by decide)
  have h3' : (m % 26).toNat < wl.length := by rw [wl_len]; omega
  rw [List.getD_eq_getElem?_getD, List.getElem?_eq_getElem h3, List.getD_eq_getElem?_getD, List.getElem?_eq_getElem h3'] at h
  have := (List.getElem_inj wl_nd).mp h
  omega
theorem wlong_len (c : Int) : (wlong c).length = 8 := by simp [wlong]
theorem wstem_len (c : Int) (n : Nat) : (wstem c n).length = n := by simp [wstem]
theorem wlong_low (c : Int) : ∀ x ∈ wlong c, 97 ≤ x ∧ x ≤ 122 := fun x hx => by
  obtain ⟨k, _, rfl⟩ := List.mem_map.mp hx
  exact wl_low _ (lt26_mem _)
theorem wstem_low (c : Int) (n : Nat) : ∀ x ∈ wstem c n, 97 ≤ x ∧ x ≤ 122 := fun x hx => by
  obtain ⟨k, _, rfl⟩ := List.mem_map.mp hx
  exact wl_low _ (lt26_mem _)
theorem words_len (c : Int) (many : Nat) : (words c many).length = many := by
  unfold words; split <;> (try split) <;> simp
theorem nodup_map_range {α : Type} (f : Nat → α) (n : Nat) (h : ∀ i j, i < n → j < n → f i = f j → i = j) : ((List.range n).map f).Nodup := by
  induction n with
  | zero => simp
  | succ n ih =>
    rw [List.range_succ, List.map_append, List.map_singleton]
    rw [List.nodup_append]
    refine ⟨ih fun i j hi hj => h i j (by omega) (by omega), by simp, fun a ha b hb => ?_⟩
    obtain ⟨i, hi, rfl⟩ := List.mem_map.mp ha
    have hi := List.mem_range.mp hi
    have hb : b = f n := by simpa using hb
    subst hb
    intro e
    have := h i n (by omega) (by omega) e
    omega
theorem words_nd (c : Int) (many : Nat) (hm : many ≤ 8) : (words c many).Nodup := by
  unfold words
  split
  · split
    · refine nodup_map_range _ _ fun i j hi hj e => ?_
      have := congrArg List.length e
      rw [List.length_take, List.length_take, wlong_len] at this
      omega
    · refine nodup_map_range _ _ fun i j hi hj e => ?_
      have := congrArg List.length e
      rw [List.length_drop, List.length_drop, wlong_len] at this
      omega
  · refine nodup_map_range _ _ fun i j hi hj e => ?_
    rw [List.append_assoc, List.append_assoc] at e
    have e1 := List.append_cancel_left e
    have e2 := List.append_cancel_right e1
    have e3 : lt26 (c / 7 + 5 * (i : Int)) = lt26 (c / 7 + 5 * (j : Int)) := by simpa using e2
    have := lt26_inj e3
    omega
theorem words_word (c : Int) (many : Nat) (hm : many ≤ 8) : ∀ x ∈ words c many, Word x := by
  unfold words
  split
  · split
    · intro x hx
      obtain ⟨k, hk, rfl⟩ := List.mem_map.mp hx
      have hk := List.mem_range.mp hk
      refine ⟨by rw [List.length_take, wlong_len]; omega, by rw [List.length_take, wlong_len]; omega, fun y hy => wlong_low c y (List.mem_of_mem_take hy)⟩
    · intro x hx
      obtain ⟨k, hk, rfl⟩ := List.mem_map.mp hx
      have hk := List.mem_range.mp hk
      refine ⟨by rw [List.length_drop, wlong_len]; omega, by rw [List.length_drop, wlong_len]; omega, fun y hy => wlong_low c y (List.mem_of_mem_drop hy)⟩
  · intro x hx
    obtain ⟨k, hk, rfl⟩ := List.mem_map.mp hx
    have h1 := Int.emod_nonneg (c / 4) (b := 8) (by decide)
    have h2 := Int.emod_lt_of_pos (c / 4) (b := 8) (by decide)
    have h3 := Int.emod_nonneg (c / 256) (b := c / 4 % 8 + 1) (by omega)
    have h4 := Int.emod_lt_of_pos (c / 256) (b := c / 4 % 8 + 1) (by omega)
    have hl : ((wstem c (c / 4 % 8).toNat).take (c / 256 % (c / 4 % 8 + 1)).toNat ++ [lt26 (c / 7 + 5 * (k : Int))] ++ (wstem c (c / 4 % 8).toNat).drop (c / 256 % (c / 4 % 8 + 1)).toNat).length = (c / 4 % 8).toNat + 1 := by
      rw [List.length_append, List.length_append, List.length_take, List.length_drop, wstem_len]; simp; omega
    refine ⟨by rw [hl]; omega, by rw [hl]; omega, fun y hy => ?_⟩
    rcases List.mem_append.mp hy with hy | hy
    · rcases List.mem_append.mp hy with hy | hy
      · exact wstem_low c _ y (List.mem_of_mem_take hy)
      · have : y = lt26 (c / 7 + 5 * (k : Int)) := by simpa using hy
        subst this; exact wl_low _ (lt26_mem _)
    · exact wstem_low c _ y (List.mem_of_mem_drop hy)
end My
set_option linter.all false
namespace Mi
open PySem
def S' (l : List Nat) : Str := ⟨l.toArray⟩
theorem S'_list (l : List Nat) : (S' l).cps.toList = l := rfl
theorem S'_len (l : List Nat) : (S' l).length = l.length := by simp [S', Str.length]
theorem str_ext' {x y : Str} (h : x.cps.toList = y.cps.toList) : x = y := by
  obtain ⟨a⟩ := x
  obtain ⟨b⟩ := y
  have h : a.toList = b.toList := h
  rw [Array.toList_inj.mp h]
theorem S'_inj {l m : List Nat} (h : S' l = S' m) : l = m := by
  have := congrArg (fun x : Str => x.cps.toList) h
  simpa [S'] using this
theorem S'_app (l m : List Nat) : S' l ++ S' m = S' (l ++ m) := by
  show (⟨l.toArray ++ m.toArray⟩ : Str) = ⟨(l ++ m).toArray⟩
  simp
theorem join_list' : ∀ l : List Str, (Str.join "" l).cps.toList = l.flatMap (·.cps.toList)
  | [] => by simp [Str.join, Str.empty]
  | [x] => by simp [Str.join]
  | x :: y :: r => by
    have ih := join_list' (y :: r)
    have e : Str.join "" (x :: y :: r) = x ++ "" ++ Str.join "" (y :: r) := rfl
    have e2 : ("" : Str).cps.toList = [] := by decide +kernel
    rw [e]
    show ((x.cps ++ ("" : Str).cps) ++ (Str.join "" (y :: r)).cps).toList = _
    rw [Array.toList_append, Array.toList_append, e2, ih]
    simp
theorem join_ones (l : List Nat) : Str.join "" (l.map fun x => S' [x]) = S' l := by
  refine str_ext' ?_
  rw [join_list', S'_list]
  induction l with
  | nil => rfl
  | cons a r ih => rw [List.map_cons, List.flatMap_cons, ih]; rfl
theorem cut_head {α : Type} (xs : List α) (k : Nat) : cutL xs none (some (k : Int)) = xs.take k := by
  show (xs.drop 0).take ((if (k : Int) < 0 then ((k : Int) + (xs.length : Int)).toNat else min (k : Int).toNat xs.length) - 0) = _
  rw [if_neg (by omega), List.drop_zero, Nat.sub_zero, Int.toNat_natCast]
  rcases Nat.le_total k xs.length with h | h
  · rw [Nat.min_eq_left h]
  · rw [Nat.min_eq_right h, List.take_of_length_le (Nat.le_refl _), List.take_of_length_le h]
theorem cut_tail {α : Type} (xs : List α) (k : Nat) : cutL xs (some (k : Int)) none = xs.drop k := by
  show (xs.drop (if (k : Int) < 0 then ((k : Int) + (xs.length : Int)).toNat else min (k : Int).toNat xs.length)).take (xs.length - (if (k : Int) < 0 then ((k : Int) + (xs.length : Int)).toNat else min (k : Int).toNat xs.length)) = _
  rw [if_neg (by omega), Int.toNat_natCast]
  rcases Nat.le_total k xs.length with h | h
  · rw [Nat.min_eq_left h]
    exact List.take_of_length_le (by rw [List.length_drop]; exact Nat.le_refl _)
  · rw [Nat.min_eq_right h, List.drop_of_length_le (Nat.le_refl _), List.drop_of_length_le h]; simp
theorem cutStr_head (l : List Nat) (k : Nat) : cutStr (S' l) none (some (k : Int)) = S' (l.take k) := by
  unfold cutStr; rw [S'_list, cut_head]; rfl
theorem cutStr_tail (l : List Nat) (k : Nat) : cutStr (S' l) (some (k : Int)) none = S' (l.drop k) := by
  unfold cutStr; rw [S'_list, cut_tail]; rfl
def ltrs' : Str := "etaoinshrdlucmfwypvbgkqjxz"
theorem ltrs'_list : ltrs'.cps.toList = My.wl := by decide +kernel
theorem ltrs'_len : ltrs'.length ≤ 16777216 := by decide +kernel
theorem at_ok {α : Type} {xs : List α} {i : Int} (h0 : 0 ≤ i) (h1 : i < xs.length) (d : α) : atI xs i = some (xs.getD i.toNat d) := by
  unfold atI ixN
  rw [if_pos h0, if_pos h1]
  have h3 : i.toNat < xs.length := by omega
  show xs[i.toNat]? = _
  rw [List.getD_eq_getElem?_getD, List.getElem?_eq_getElem h3]; rfl
theorem at_ltrs (n : Int) : atI ltrs'.cps.toList (n % 26) = some (My.lt26 n) := by
  rw [ltrs'_list]
  have h1 := Int.emod_nonneg n (b := 26) (by decide)
  have h2 := Int.emod_lt_of_pos n (b := 26) (by decide)
  exact at_ok h1 (by rw [My.wl_len]; omega) 0
theorem ix_ints {cs : List Int} {i : Int} (h0 : 0 ≤ i) (h1 : i < cs.length) : dIx (.lst (cs.map D.int)) (.int i) = .ok (.int (cs.getD i.toNat 0)) := by
  show ofO (atI (cs.map D.int) i) = _
  rw [at_ok h0 (by rw [List.length_map]; exact h1) (.int 0), ofO_some]
  have h3 : i.toNat < cs.length := by omega
  rw [List.getD_eq_getElem?_getD, List.getElem?_map, List.getD_eq_getElem?_getD, List.getElem?_eq_getElem h3]; rfl
theorem ix_strs {cs : List Str} {i : Int} (h0 : 0 ≤ i) (h1 : i < cs.length) : dIx (.lst (cs.map D.str)) (.int i) = .ok (.str (cs.getD i.toNat Str.empty)) := by
  show ofO (atI (cs.map D.str) i) = _
  rw [at_ok h0 (by rw [List.length_map]; exact h1) (.str Str.empty), ofO_some]
  have h3 : i.toNat < cs.length := by omega
  rw [List.getD_eq_getElem?_getD, List.getElem?_map, List.getD_eq_getElem?_getD, List.getElem?_eq_getElem h3]; rfl
theorem dRange_map (n : Nat) : dRange 0 (n : Int) = (List.range n).map fun (k : Nat) => D.int (k : Int) := by
  unfold dRange
  rw [show ((n : Int) - 0).toNat = n by omega]
  exact List.map_congr_left fun k _ => by rw [Int.zero_add]
theorem dRange_len (n : Nat) : (dRange 0 (n : Int)).length = n := by rw [dRange_map]; simp
theorem dRange_get {n i : Nat} {x : D} (h : (dRange 0 (n : Int))[i]? = some x) : i < n ∧ x = .int (i : Int) := by
  rw [dRange_map, List.getElem?_map] at h
  cases hr : (List.range n)[i]? with
  | none => rw [hr] at h; cases h
  | some k =>
    rw [hr] at h
    obtain ⟨h1, h2⟩ := List.getElem?_eq_some_iff.mp hr
    rw [List.getElem_range] at h2
    subst h2
    rw [List.length_range] at h1
    exact ⟨h1, (Option.some.inj h).symm⟩
theorem comp_range {tg : Tg} {a : E} {e : Mi.Env} (g : Nat → D) (n : Nat) (h : ∀ k < n, ∃ e1, tg.put (.int (k : Int)) e = .ok e1 ∧ a e1 = .ok (g k)) : compD tg cYes a e (dRange 0 (n : Int)) = .ok ((List.range n).map g) := by
  rw [dRange_map, comp_map (fun (k : Nat) => D.int (k : Int)) g (fun _ => true) (List.range n) fun k hk => ?_]
  · rw [List.filter_eq_self.mpr fun _ _ => rfl]
  · obtain ⟨e1, h1, h2⟩ := h k (List.mem_range.mp hk)
    exact ⟨e1, h1, rfl, fun _ => h2⟩
theorem okR_small {i : Int} (h0 : -1000 ≤ i) (h1 : i ≤ 1000) : okR i := by unfold okR; omega
theorem okMul_l {i j : Int} (h0 : -(2 ^ 64) < i) (h1 : i < 2 ^ 64) : okMul i j := .inl ⟨h0, h1⟩
theorem okMul_r {i j : Int} (h0 : -(2 ^ 64) < j) (h1 : j < 2 ^ 64) : okMul i j := .inr ⟨h0, h1⟩
theorem okDiv_small {j : Int} (h0 : 0 < j) (h1 : j < 2 ^ 64) : okDiv j := by
  refine ⟨h0, ?_⟩
  have h2 : j.natAbs < 2 ^ 64 := by omega
  have h3 : j.natAbs ≠ 0 := by omega
  have := (Nat.log2_lt h3).mpr h2
  omega
end Mi
set_option linter.all false
set_option maxRecDepth 10000
namespace Mr
open PySem Mi
open My (words wlong wstem lt26 wlong_len wstem_len words_len words_nd)
theorem dIx_ltrs (n : Int) : dIx (.str ltrs') (.int (n % 26)) = .ok (.str (S' [lt26 n])) := by
  show guardR _ _ = _
  rw [guardR_pos ltrs'_len, at_ltrs]; rfl
theorem join_codes (l : List Nat) (h : l.length ≤ 8) : dJoin (.str "") (.lst (l.map fun x => D.str (S' [x]))) = .ok (.str (S' l)) := by
  show (ofO (asSs (l.map fun x => D.str (S' [x])))).bind _ = _
  have e : l.map (fun x => D.str (S' [x])) = (l.map fun x => S' [x]).map D.str := by rw [List.map_map]; rfl
  rw [e, asSs_map, ofO_some, bind_ok, guardR_pos ?_, join_ones]
  have h1 : ((l.map fun x => S' [x]).map (·.length)).sum = l.length := by
    clear h e
    induction l with
    | nil => rfl
    | cons a r ih => rw [List.map_cons, List.map_cons, List.sum_cons, ih, S'_len, List.length_cons]; simp; omega
  have h2 : ("" : Str).length = 0 := by decide +kernel
  rw [h1, h2]; omega
theorem st1 (c : Int) (k : Nat) (d32 : okDiv 32) (m5 : okMul 5 (k : Int)) (mk : okMul (k : Int) k) : (m2 dAdd (m2 dAdd (m2 dDiv (mV 1) (mC (.int 32))) (m2 dMulI (mC (.int 5)) (mV 2))) (m2 dMulI (mV 2) (mV 2))) [some (.d (.str ltrs')), some (.d (.int c)), some (.d (.int k))] = .ok (.int (c / 32 + 5 * (k : Int) + (k : Int) * (k : Int))) :=
  (m2_ok (m2_ok (m2_ok rfl rfl (guardR_pos d32)) (m2_ok rfl rfl (guardR_pos m5)) rfl) (m2_ok rfl rfl (guardR_pos mk)) rfl)
theorem st2 (c : Int) (e : Mi.Env) (a : E) (h : a e = .ok (.int c)) (h0 : e[0]? = some (some (.d (.str ltrs')))) : m2 dIx (mV 0) (m2 dMod a (mC (.int 26))) e = .ok (.str (S' [lt26 c])) :=
  m2_ok (x := .str ltrs') (by unfold mV; rw [h0]) (m2_ok h rfl (guardR_pos (by decide))) (dIx_ltrs _)
theorem okMul_kk {k n : Nat} (h : k < n) (h8 : n < 8) : okMul (k : Int) k := okMul_l (by omega) (by omega)
theorem size_of (c : Int) : ∃ n : Nat, c / 4 % 8 = (n : Int) ∧ n < 8 := by
  have z1 := Int.emod_nonneg (c / 4) (b := 8) (by decide)
  have z2 := Int.emod_lt_of_pos (c / 4) (b := 8) (by decide)
  exact ⟨(c / 4 % 8).toNat, by omega, by omega⟩
theorem at_of (c : Int) (n : Nat) : ∃ t : Nat, c / 256 % ((n : Int) + 1) = (t : Int) ∧ t ≤ n := by
  have z3 := Int.emod_nonneg (c / 256) (b := (n : Int) + 1) (by omega)
  have z4 := Int.emod_lt_of_pos (c / 256) (b := (n : Int) + 1) (by omega)
  exact ⟨(c / 256 % ((n : Int) + 1)).toNat, by omega, by omega⟩
theorem words_ok (c : Int) (m : Nat) (hm : m ≤ 8) : m_l_words [.d (.int c), .d (.int (m : Int))] = .ok (.d (strL ((words c m).map S'))) := by
  unfold m_l_words b_l_words
  rw [fnN2]
  have hr8 : okR 8 := okR_small (by decide) (by decide)
  have hrm : okR (m : Int) := okR_small (by omega) (by omega)
  have hl0 : (PySem.Str.ofString "etaoinshrdlucmfwypvbgkqjxz") = ltrs' := rfl
  have g4 : ∀ r : Rs D, guardR ((0 : Int) < 4) r = r := fun r => guardR_pos (by decide)
  have g26 : ∀ r : Rs D, guardR ((0 : Int) < 26) r = r := fun r => guardR_pos (by decide)
  have g8 : ∀ r : Rs D, guardR ((0 : Int) < 8) r = r := fun r => guardR_pos (by decide)
  by_cases c1 : c % 4 < 2
  · have hlong : compD (.n 2) cYes (m2 dIx (mV 0) (m2 dMod (m2 dDiv (mV 1) (m2 dAdd (mC (.int 4)) (m2 dMulI (mC (.int 3)) (mV 2)))) (mC (.int 26)))) [some (.d (.str ltrs')), some (.d (.int c)), none] (dRange 0 8) = .ok ((wlong c).map fun x => D.str (S' [x])) := by
      have := comp_range (tg := .n 2) (a := m2 dIx (mV 0) (m2 dMod (m2 dDiv (mV 1) (m2 dAdd (mC (.int 4)) (m2 dMulI (mC (.int 3)) (mV 2)))) (mC (.int 26)))) (e := [some (.d (.str ltrs')), some (.d (.int c)), none]) (fun k => D.str (S' [lt26 (c / (4 + 3 * (k : Int)))])) 8 fun k hk => ⟨[some (.d (.str ltrs')), some (.d (.int c)), some (.d (.int k))], rfl, by
        simp only [m2, mV, List.getElem?_cons_zero, List.getElem?_cons_succ, mC, bind_ok, mul_ii]
        rw [guardR_pos (okMul_l (by decide) (by decide))]
        simp only [bind_ok, add_ii, div_ii]
        rw [guardR_pos (okDiv_small (by omega) (by omega))]
        simp only [bind_ok, mod_ii, g26, dIx_ltrs]⟩
      rw [show ((8 : Nat) : Int) = 8 from rfl] at this
      rw [this]
      unfold wlong
      rw [List.map_map]; rfl
    have hp : pickE [some 2, some 0, none] [some (.d (.int c)), some (.d (.int (m : Int))), some (.d (.str ltrs')), none, none, none, none] = [some (.d (.str ltrs')), some (.d (.int c)), none] := rfl
    have hj := join_codes (wlong c) (by rw [wlong_len]; omega)
    have hw8 : (dRange 0 8).length ≤ 16777216 := by rw [show (8 : Int) = ((8 : Nat) : Int) from rfl, dRange_len]; omega
    have hwm : (dRange 0 (m : Int)).length ≤ 16777216 := by rw [dRange_len]; omega
    by_cases c2 : c % 4 = 0
    · have hc : compD (.n 1) cYes (mSlF dSl (mV 0) none (some (m2 dAdd (mV 1) (mC (.int 1))))) [some (.d (.str (S' (wlong c)))), none] (dRange 0 (m : Int)) = .ok ((words c m).map fun l => D.str (S' l)) := by
        rw [comp_range (fun k => D.str (S' ((wlong c).take (k + 1)))) m fun k hk => ⟨[some (.d (.str (S' (wlong c)))), some (.d (.int k))], rfl, by
          simp only [mSlF, mV, List.getElem?_cons_zero, mPart, m2, List.getElem?_cons_succ, mC, bind_ok, add_ii, asI_i, sl_s]
          rw [guardR_pos (by rw [S'_len, wlong_len]; omega), show (k : Int) + 1 = ((k + 1 : Nat) : Int) by omega, cutStr_head]⟩]
        unfold words
        rw [if_pos c1, if_pos c2, List.map_map]; rfl
      have hp2 : ∀ z, pickE [some 3, none] [some (.d (.int c)), some (.d (.int (m : Int))), some (.d (.str ltrs')), some z, none, none, none] = [some z, none] := fun _ => rfl
      have hmod : cB (m2 dLt (m2 dMod (mV 0) (mC (.int 4))) (mC (.int 2))) [some (.d (.int c)), some (.d (.int (m : Int))), some (.d (.str ltrs')), none, none, none, none] = .ok true :=
        cB_ok ((m2_ok (m2_ok rfl rfl (g4 _)) rfl rfl).trans (by rw [lt_ii, decide_eq_true c1]))
      have hmod2 : cB (m2 dEq (m2 dMod (mV 0) (mC (.int 4))) (mC (.int 0))) [some (.d (.int c)), some (.d (.int (m : Int))), some (.d (.str ltrs')), some (.d (.str (S' (wlong c)))), none, none, none] = .ok true :=
        cB_ok ((m2_ok (m2_ok rfl rfl (g4 _)) rfl rfl).trans (by rw [dEq_int, decide_eq_true c2]))
      show Rs.bind _ fnOutN = _
      rw [seq_ok (e' := [some (.d (.int c)), some (.d (.int (m : Int))), some (.d (.str ltrs')), none, none, none, none]) (set_ok rfl)]
      refine (congrArg (fun r => Rs.bind r fnOutN) (seq_rt (w := .d (strL ((words c m).map S'))) ?_)).trans rfl
      rw [if_tt hmod, seq_ok (e' := [some (.d (.int c)), some (.d (.int (m : Int))), some (.d (.str ltrs')), some (.d (.str (S' (wlong c)))), none, none, none]) (set_ok (m2_ok rfl (comp_ok (rng_ok rfl hr8) hw8 hlong) hj))]
      rw [seq_rt ((if_tt hmod2).trans (ret_ok (wD_ok (comp_ok (rng_ok rfl hrm) hwm hc))))]
      rw [strL, List.map_map]
      rfl
    · have hc : compD (.n 1) cYes (mSlF dSl (mV 0) (some (m2 dSub (mC (.int 7)) (mV 1))) none) [some (.d (.str (S' (wlong c)))), none] (dRange 0 (m : Int)) = .ok ((words c m).map fun l => D.str (S' l)) := by
        rw [comp_range (fun k => D.str (S' ((wlong c).drop (7 - k)))) m fun k hk => ⟨[some (.d (.str (S' (wlong c)))), some (.d (.int k))], rfl, by
          simp only [mSlF, mV, List.getElem?_cons_zero, mPart, m2, mC, List.getElem?_cons_succ, bind_ok, sub_ii, asI_i, sl_s]
          rw [guardR_pos (by rw [S'_len, wlong_len]; omega), show (7 : Int) - (k : Int) = ((7 - k : Nat) : Int) by omega, cutStr_tail]⟩]
        unfold words
        rw [if_pos c1, if_neg c2, List.map_map]; rfl
      have hp2 : ∀ z, pickE [some 3, none] [some (.d (.int c)), some (.d (.int (m : Int))), some (.d (.str ltrs')), some z, none, none, none] = [some z, none] := fun _ => rfl
      have hmod : cB (m2 dLt (m2 dMod (mV 0) (mC (.int 4))) (mC (.int 2))) [some (.d (.int c)), some (.d (.int (m : Int))), some (.d (.str ltrs')), none, none, none, none] = .ok true :=
        cB_ok ((m2_ok (m2_ok rfl rfl (g4 _)) rfl rfl).trans (by rw [lt_ii, decide_eq_true c1]))
      have hmod2 : cB (m2 dEq (m2 dMod (mV 0) (mC (.int 4))) (mC (.int 0))) [some (.d (.int c)), some (.d (.int (m : Int))), some (.d (.str ltrs')), some (.d (.str (S' (wlong c)))), none, none, none] = .ok false :=
        cB_ok ((m2_ok (m2_ok rfl rfl (g4 _)) rfl rfl).trans (by rw [dEq_int, decide_eq_false c2]))
      show Rs.bind _ fnOutN = _
      rw [seq_ok (e' := [some (.d (.int c)), some (.d (.int (m : Int))), some (.d (.str ltrs')), none, none, none, none]) (set_ok rfl)]
      refine (congrArg (fun r => Rs.bind r fnOutN) (seq_rt (w := .d (strL ((words c m).map S'))) ?_)).trans rfl
      rw [if_tt hmod, seq_ok (e' := [some (.d (.int c)), some (.d (.int (m : Int))), some (.d (.str ltrs')), some (.d (.str (S' (wlong c)))), none, none, none]) (set_ok (m2_ok rfl (comp_ok (rng_ok rfl hr8) hw8 hlong) hj))]
      rw [seq_ok (if_ff hmod2), ret_ok (wD_ok (comp_ok (rng_ok rfl hrm) hwm hc))]
      rw [strL, List.map_map]
      rfl
  · obtain ⟨n, hn, hn8⟩ := size_of c
    obtain ⟨t, ht, ht8⟩ := at_of c n
    have hrn : okR (n : Int) := okR_small (by omega) (by omega)
    have d4 : okDiv 4 := okDiv_small (by decide) (by decide)
    have d32 : okDiv 32 := okDiv_small (by decide) (by decide)
    have d256 : okDiv 256 := okDiv_small (by decide) (by decide)
    have d7 : okDiv 7 := okDiv_small (by decide) (by decide)
    have hstem : compD (.n 2) cYes (m2 dIx (mV 0) (m2 dMod (m2 dAdd (m2 dAdd (m2 dDiv (mV 1) (mC (.int 32))) (m2 dMulI (mC (.int 5)) (mV 2))) (m2 dMulI (mV 2) (mV 2))) (mC (.int 26)))) [some (.d (.str ltrs')), some (.d (.int c)), none] (dRange 0 (n : Int)) = .ok ((wstem c n).map fun x => D.str (S' [x])) := by
      rw [comp_range (fun k => D.str (S' [lt26 (c / 32 + 5 * (k : Int) + (k : Int) * (k : Int))])) n fun k hk => ⟨[some (.d (.str ltrs')), some (.d (.int c)), some (.d (.int k))], rfl, by
        exact st2 _ _ _ (st1 c k d32 (okMul_l (by decide) (by decide)) (okMul_kk hk hn8)) rfl⟩]
      unfold wstem
      rw [List.map_map]; rfl
    have hp : pickE [some 2, some 0, none] [some (.d (.int c)), some (.d (.int (m : Int))), some (.d (.str ltrs')), none, some (.d (.int (n : Int))), none, none] = [some (.d (.str ltrs')), some (.d (.int c)), none] := rfl
    have hj := join_codes (wstem c n) (by rw [wstem_len]; omega)
    have hwn : (dRange 0 (n : Int)).length ≤ 16777216 := by rw [dRange_len]; omega
    have hwm : (dRange 0 (m : Int)).length ≤ 16777216 := by rw [dRange_len]; omega
    have hc : compD (.n 4) cYes (m2 dAdd (m2 dAdd (mSlF dSl (mV 0) none (some (mV 2))) (m2 dIx (mV 1) (m2 dMod (m2 dAdd (m2 dDiv (mV 3) (mC (.int 7))) (m2 dMulI (mC (.int 5)) (mV 4))) (mC (.int 26))))) (mSlF dSl (mV 0) (some (mV 2)) none))
        [some (.d (.str (S' (wstem c n)))), some (.d (.str ltrs')), some (.d (.int (t : Int))), some (.d (.int c)), none] (dRange 0 (m : Int)) = .ok ((words c m).map fun l => D.str (S' l)) := by
      rw [comp_range (fun k => D.str (S' ((wstem c n).take t ++ [lt26 (c / 7 + 5 * (k : Int))] ++ (wstem c n).drop t))) m fun k hk => ⟨[some (.d (.str (S' (wstem c n)))), some (.d (.str ltrs')), some (.d (.int (t : Int))), some (.d (.int c)), some (.d (.int k))], rfl, by
        have gS : ∀ r : Rs D, guardR ((S' (wstem c n)).length ≤ 16777216) r = r := fun r => guardR_pos (by rw [S'_len, wstem_len]; omega)
        have gM : ∀ r : Rs D, guardR (okMul 5 (k : Int)) r = r := fun r => guardR_pos (okMul_l (by decide) (by decide))
        simp only [m2, mSlF, mV, List.getElem?_cons_zero, mPart, List.getElem?_cons_succ, bind_ok, asI_i, sl_s, cutStr_head, gS, mC, div_ii, guardR_pos d7, mul_ii, gM, add_ii, mod_ii, g26, dIx_ltrs, add_ss, cutStr_tail]
        rw [guardR_pos (by rw [S'_len, S'_len, List.length_take, wstem_len]; simp; omega)]
        simp only [S'_app, bind_ok, add_ss]
        rw [guardR_pos (by rw [S'_len, S'_len, List.length_append, List.length_take, List.length_drop, wstem_len]; simp; omega)]⟩]
      unfold words
      rw [if_neg c1, List.map_map, hn, ht]
      rfl
    have hmod : cB (m2 dLt (m2 dMod (mV 0) (mC (.int 4))) (mC (.int 2))) [some (.d (.int c)), some (.d (.int (m : Int))), some (.d (.str ltrs')), none, none, none, none] = .ok false :=
      cB_ok ((m2_ok (m2_ok rfl rfl (g4 _)) rfl rfl).trans (by rw [lt_ii, decide_eq_false c1]))
    show Rs.bind _ fnOutN = _
    rw [seq_ok (e' := [some (.d (.int c)), some (.d (.int (m : Int))), some (.d (.str ltrs')), none, none, none, none]) (set_ok rfl)]
    rw [seq_ok (if_ff hmod)]
    rw [seq_ok (e' := [some (.d (.int c)), some (.d (.int (m : Int))), some (.d (.str ltrs')), none, some (.d (.int (n : Int))), none, none]) (set_ok (d := .int (n : Int)) ((m2_ok (m2_ok rfl rfl (guardR_pos d4)) rfl (g8 _)).trans (by rw [hn])))]
    rw [seq_ok (e' := [some (.d (.int c)), some (.d (.int (m : Int))), some (.d (.str ltrs')), none, some (.d (.int (n : Int))), some (.d (.str (S' (wstem c n)))), none]) (set_ok (m2_ok rfl (comp_ok (rng_ok rfl hrn) hwn hstem) hj))]
    rw [seq_ok (e' := [some (.d (.int c)), some (.d (.int (m : Int))), some (.d (.str ltrs')), none, some (.d (.int (n : Int))), some (.d (.str (S' (wstem c n)))), some (.d (.int (t : Int)))]) (set_ok (d := .int (t : Int)) ((m2_ok (m2_ok rfl rfl (guardR_pos d256)) (m2_ok rfl rfl rfl) (guardR_pos (by omega))).trans (by rw [ht])))]
    rw [ret_ok (wD_ok (comp_ok (rng_ok rfl hrm) hwm hc))]
    simp only [bind_ok, outN_rt, strL, List.map_map]
    rfl
end Mr
set_option linter.all false
set_option maxRecDepth 10000
namespace Mr
open PySem Mi
open My (words words_len words_nd)
theorem seqD (n : Nat) (h : n ≤ 8) : okR (n : Int) := okR_small (by omega) (by omega)
theorem popAt_ints {ls : List Int} {z : Int} (h0 : 0 ≤ z) (h1 : z < ls.length) (hl : ls.length ≤ 100) : popAt (ls.map D.int) z = .ok (.int (ls.getD z.toNat 0), (ls.eraseIdx z.toNat).map D.int) := by
  have h3 : z.toNat < ls.length := by omega
  unfold popAt
  rw [guardR_pos (by omega), show ixN (ls.map D.int).length z = some z.toNat by
    unfold ixN
    rw [if_pos h0, if_pos (by rw [List.length_map]; exact h1)], ofO_some, bind_ok, List.getElem?_map, List.getElem?_eq_getElem h3, List.getD_eq_getElem?_getD, List.getElem?_eq_getElem h3]
  show Rs.ok (D.int ls[z.toNat], (ls.map D.int).eraseIdx z.toNat) = _
  have : ∀ (l : List Int) (k : Nat), (l.map D.int).eraseIdx k = (l.eraseIdx k).map D.int := by
    intro l
    induction l with
    | nil => intro k; rfl
    | cons a r ih =>
      intro k
      cases k with
      | zero => rfl
      | succ k => rw [List.map_cons, List.eraseIdx_cons_succ, ih k]; rfl
  rw [this]; rfl
theorem lst0 (e : Mi.Env) : mN dLst [] e = .ok (.lst []) := by
  show guardR (([] : List D).length ≤ 16777216) (Rs.ok (D.lst [])) = _
  exact guardR_pos (by simp)
end Mr
set_option linter.all false
set_option maxRecDepth 10000
namespace Mr
open PySem Mi
end Mr
set_option linter.all false
set_option maxRecDepth 10000
namespace Mr
open PySem Mi
abbrev Ix := Nat × Nat
def lexL (p q : Ix) : Prop := p.1 < q.1 ∨ (p.1 = q.1 ∧ p.2 < q.2)
def nth (names : List Str) (i : Nat) : Str := names.getD i Str.empty
def arrOf (names : List Str) (p : Ix) : Ar := (nth names p.1, nth names p.2)
structure IxNet (names : List Str) (A : List Ix) (r : Nat → Int) : Prop where
  nd : names.Nodup
  pos : 1 ≤ names.length
  le : names.length ≤ 8
  srt : A.Pairwise lexL
  all : ∀ p ∈ A, p.1 < names.length ∧ p.2 < names.length ∧ r p.1 < r p.2
  al : A.length ≤ 64
theorem nth_mem {names : List Str} {i : Nat} (h : i < names.length) : nth names i ∈ names := by
  unfold nth
  rw [List.getD_eq_getElem?_getD, List.getElem?_eq_getElem h]
  exact List.getElem_mem h
theorem nth_inj {names : List Str} (nd : names.Nodup) {i j : Nat} (hi : i < names.length) (hj : j < names.length) (h : nth names i = nth names j) : i = j := by
  unfold nth at h
  rw [List.getD_eq_getElem?_getD, List.getElem?_eq_getElem hi, List.getD_eq_getElem?_getD, List.getElem?_eq_getElem hj] at h
  exact (List.getElem_inj nd).mp h
theorem IxNet.net {names : List Str} {A : List Ix} {r : Nat → Int} (N : IxNet names A r) : Net names (A.map (arrOf names)) := by
  refine ⟨N.nd, N.pos, N.le, by rw [List.length_map]; exact N.al, fun p hp => ?_, fun x => r (names.idxOf x), fun p hp => ?_⟩
  · obtain ⟨q, hq, rfl⟩ := List.mem_map.mp hp
    exact nth_mem (N.all q hq).1
  · obtain ⟨q, hq, rfl⟩ := List.mem_map.mp hp
    obtain ⟨h1, h2, h3⟩ := N.all q hq
    have key : ∀ i, i < names.length → names.idxOf (nth names i) = i := fun i hi => by
      have hm := nth_mem hi
      have hl : names.idxOf (nth names i) < names.length := List.idxOf_lt_length_of_mem hm
      refine nth_inj N.nd hl hi ?_
      have h4 : names[names.idxOf (nth names i)] = nth names i := List.getElem_idxOf hl
      show names.getD (names.idxOf (nth names i)) Str.empty = _
      rw [List.getD_eq_getElem?_getD, List.getElem?_eq_getElem hl]
      exact h4
    show r (names.idxOf (nth names q.1)) < r (names.idxOf (nth names q.2))
    rw [key _ h1, key _ h2]; exact h3
def good (m : Nat) (r : Nat → Int) (A : List Ix) (j k : Nat) : Prop := A.Pairwise lexL ∧ (∀ p ∈ A, p.1 < m ∧ p.2 < m ∧ r p.1 < r p.2 ∧ (p.1 < j ∨ (p.1 = j ∧ p.2 < k))) ∧ A.length ≤ 8 * j + k
theorem good.skip {m : Nat} {r : Nat → Int} {A : List Ix} {j k : Nat} (h : good m r A j k) : good m r A j (k + 1) :=
  ⟨h.1, fun p hp => ⟨(h.2.1 p hp).1, (h.2.1 p hp).2.1, (h.2.1 p hp).2.2.1, by have := (h.2.1 p hp).2.2.2; omega⟩, by have := h.2.2; omega⟩
theorem good.add {m : Nat} {r : Nat → Int} {A : List Ix} {j k : Nat} (h : good m r A j k) (hj : j < m) (hk : k < m) (hr : r j < r k) : good m r (A ++ [(j, k)]) j (k + 1) := by
  refine ⟨List.pairwise_append.mpr ⟨h.1, List.pairwise_singleton _ _, fun p hp q hq => ?_⟩, fun p hp => ?_, by rw [List.length_append]; have := h.2.2; simp; omega⟩
  · have : q = (j, k) := by simpa using hq
    subst this
    have := (h.2.1 p hp).2.2.2
    exact this
  · rcases List.mem_append.mp hp with hp | hp
    · exact (h.skip.2.1 p hp)
    · have : p = (j, k) := by simpa using hp
      subst this
      exact ⟨hj, hk, hr, .inr ⟨rfl, by omega⟩⟩
theorem good.next {m : Nat} {r : Nat → Int} {A : List Ix} {j k : Nat} (h : good m r A j k) (hk : k ≤ 8) : good m r A (j + 1) 0 :=
  ⟨h.1, fun p hp => ⟨(h.2.1 p hp).1, (h.2.1 p hp).2.1, (h.2.1 p hp).2.2.1, by have := (h.2.1 p hp).2.2.2; omega⟩, by have := h.2.2; omega⟩
def arsD (names : List Str) (A : List Ix) : D := .lst ((A.map (arrOf names)).map pairD)
theorem tri_le {a : Int} (h0 : 0 ≤ a) (h1 : a < 8) : -(2 ^ 64) < a ∧ a < 2 ^ 64 ∧ 0 ≤ a * (a - 1) / 2 ∧ a * (a - 1) / 2 ≤ 21 := by
  have : a = 0 ∨ a = 1 ∨ a = 2 ∨ a = 3 ∨ a = 4 ∨ a = 5 ∨ a = 6 ∨ a = 7 := by omega
  rcases this with h | h | h | h | h | h | h | h <;> subst h <;> decide
end Mr
set_option linter.all false
set_option maxRecDepth 10000
namespace Mr
open PySem Mi
open My (words words_len words_nd)
theorem cell_ok (ns : List Int) (k : Nat) (hk : k ≤ 100) : ∃ c : Int, m_l_cell [.d (.lst (ns.map D.int)), .d (.int (k : Int))] = .ok (.d (.int c)) := by
  unfold m_l_cell b_l_cell
  rw [fnM2]
  have hl : mN bLen [mV 0] [some (.d (.lst (ns.map D.int))), some (.d (.int (k : Int))), none] = .ok (.int (ns.length : Int)) := by show Rs.ok (D.int ((ns.map D.int).length : Int)) = _; rw [List.length_map]
  have c1 : cB (m2 dLt (mV 1) (mN bLen [(mV 0)])) [some (.d (.lst (ns.map D.int))), some (.d (.int (k : Int))), none] = .ok (decide ((k : Int) < (ns.length : Int))) := cB_ok (m2_ok rfl hl rfl)
  by_cases h : (k : Int) < (ns.length : Int)
  · rw [decide_eq_true h] at c1
    exact ⟨_, by
      rw [show ([some (W.d (.lst (ns.map D.int))), some (.d (.int (k : Int)))] ++ List.replicate (3 - 2) none) = [some (.d (.lst (ns.map D.int))), some (.d (.int (k : Int))), none] from rfl]
      rw [seq_rt ((if_tt c1).trans (ret_ok (wD_ok (m2_ok rfl rfl (ix_ints (by omega) h)))))]; rfl⟩
  · rw [decide_eq_false h] at c1
    have s1 : sSet 2 (m2 dAdd (mC (.int 30011)) (m2 dMulI (m2 dMulI (mC (.int 709)) (mV 1)) (mV 1))) [some (.d (.lst (ns.map D.int))), some (.d (.int (k : Int))), none] = .ok (.nx [some (.d (.lst (ns.map D.int))), some (.d (.int (k : Int))), some (.d (.int (30011 + 709 * (k : Int) * (k : Int))))]) :=
      set_ok (m2_ok rfl (m2_ok (m2_ok rfl rfl (guardR_pos (okMul_l (by decide) (by decide)))) rfl (guardR_pos (okMul_r (by omega) (by omega)))) rfl)
    have hl2 : mN bLen [mV 0] [some (.d (.lst (ns.map D.int))), some (.d (.int (k : Int))), some (.d (.int (30011 + 709 * (k : Int) * (k : Int))))] = .ok (.int (ns.length : Int)) := by show Rs.ok (D.int ((ns.map D.int).length : Int)) = _; rw [List.length_map]
    have c2 : cB (m2 dGt (mN bLen [(mV 0)]) (mC (.int 0))) [some (.d (.lst (ns.map D.int))), some (.d (.int (k : Int))), some (.d (.int (30011 + 709 * (k : Int) * (k : Int))))] = .ok (decide ((0 : Int) < (ns.length : Int))) := cB_ok (m2_ok hl2 rfl rfl)
    by_cases h0 : (0 : Int) < (ns.length : Int)
    · rw [decide_eq_true h0] at c2
      refine ⟨_, by
        rw [show ([some (W.d (.lst (ns.map D.int))), some (.d (.int (k : Int)))] ++ List.replicate (3 - 2) none) = [some (.d (.lst (ns.map D.int))), some (.d (.int (k : Int))), none] from rfl]
        rw [seq_ok ((if_ff c1).trans rfl), seq_ok s1, seq_ok ((if_tt c2).trans (set_ok (m2_ok rfl (m2_ok (m2_ok (m2_ok rfl rfl (ix_ints (by decide) h0)) rfl (guardR_pos (by decide))) (m2_ok (m2_ok (m2_ok rfl rfl (guardR_pos (okMul_l (by omega) (by omega)))) (m2_ok rfl rfl (guardR_pos (okMul_l (by decide) (by decide)))) rfl) rfl rfl) (guardR_pos (okMul_l ?_ ?_))) rfl)))]
        rfl⟩
      · have := Int.emod_nonneg (ns.getD (0 : Int).toNat 0) (b := 99991) (by decide); omega
      · have := Int.emod_lt_of_pos (ns.getD (0 : Int).toNat 0) (b := 99991) (by decide); omega
    · rw [decide_eq_false h0] at c2
      exact ⟨_, by
        rw [show ([some (W.d (.lst (ns.map D.int))), some (.d (.int (k : Int)))] ++ List.replicate (3 - 2) none) = [some (.d (.lst (ns.map D.int))), some (.d (.int (k : Int))), none] from rfl]
        rw [seq_ok ((if_ff c1).trans rfl), seq_ok s1, seq_ok ((if_ff c2).trans rfl)]
        rfl⟩
theorem ranks2_ok (d : Int) (m : Nat) (hm : m ≤ 8) : ∃ rs : List Int, m_l_ranks_2 [.d (.int d), .d (.int (m : Int))] = .ok (.d (.lst (rs.map D.int))) ∧ rs.length = m := by
  unfold m_l_ranks_2 b_l_ranks_2
  rw [fnN2]
  have hw : (dRange 0 (m : Int)).length ≤ 16777216 := by rw [dRange_len]; omega
  have hc : compD (.n 0) cYes (mV 0) [none] (dRange 0 (m : Int)) = .ok ((List.range m).map fun (k : Nat) => D.int (k : Int)) :=
    comp_range (fun k => D.int (k : Int)) m fun k _ => ⟨[some (.d (.int k))], rfl, rfl⟩
  have hr : ((List.range m).map fun (k : Nat) => D.int (k : Int)) = ((List.range m).map fun (k : Nat) => (k : Int)).map D.int := by rw [List.map_map]; rfl
  rw [hr] at hc
  obtain ⟨e', h1, h2⟩ := for_inv (tg := .n 5) (body := sSeq (sSet 4 (m2 dMod (m2 dAdd (m2 dAdd (m2 dMulI (mV 4) (mC (.int 48271))) (m2 dMulI (mC (.int 7)) (mV 5))) (mC (.int 1))) (mC (.int 2147483647)))) (sAppendPop 3 2 (m2 dMod (m2 dDiv (mV 4) (mC (.int 32))) (mN bLen [(mV 2)]))))
    (fun i e => ∃ (x : Int) (ls rs : List Int) (o : Option W), e = [some (.d (.int d)), some (.d (.int (m : Int))), some (.d (.lst (ls.map D.int))), some (.d (.lst (rs.map D.int))), some (.d (.int x)), o] ∧ ls.length + i = m ∧ rs.length = i) (dRange 0 (m : Int)) 0 (fun i x e hx ⟨x0, ls, rs, o, he, hl, hrs⟩ => by
      obtain ⟨hi, rfl⟩ := dRange_get hx
      subst he
      rw [Nat.zero_add] at hl hrs
      have hpos : (0 : Int) < (ls.length : Int) := by omega
      obtain ⟨y, hy⟩ : ∃ y, y = (x0 * 48271 + 7 * (i : Int) + 1) % 2147483647 := ⟨_, rfl⟩
      have z1 := Int.emod_nonneg (y / 32) (b := (ls.length : Int)) (by omega)
      have z2 := Int.emod_lt_of_pos (y / 32) hpos
      refine ⟨[some (.d (.int d)), some (.d (.int (m : Int))), some (.d (.lst (ls.map D.int))), some (.d (.lst (rs.map D.int))), some (.d (.int x0)), some (.d (.int (i : Int)))], [some (.d (.int d)), some (.d (.int (m : Int))), some (.d (.lst ((ls.eraseIdx (y / 32 % (ls.length : Int)).toNat).map D.int))), some (.d (.lst ((rs ++ [ls.getD (y / 32 % (ls.length : Int)).toNat 0]).map D.int))), some (.d (.int y)), some (.d (.int (i : Int)))], rfl, ?_, y, ls.eraseIdx (y / 32 % (ls.length : Int)).toNat, rs ++ [ls.getD (y / 32 % (ls.length : Int)).toNat 0], some (.d (.int (i : Int))), rfl, ?_, ?_⟩
      · have h0 : m2 dMod (m2 dDiv (mV 4) (mC (.int 32))) (mN bLen [(mV 2)]) [some (.d (.int d)), some (.d (.int (m : Int))), some (.d (.lst (ls.map D.int))), some (.d (.lst (rs.map D.int))), some (.d (.int y)), some (.d (.int (i : Int)))] = .ok (.int (y / 32 % (ls.length : Int))) :=
          m2_ok (x := .int (y / 32)) (y := .int (ls.length : Int)) (m2_ok rfl rfl (guardR_pos (okDiv_small (by decide) (by decide)))) (by show Rs.ok (D.int ((ls.map D.int).length : Int)) = _; rw [List.length_map]) (guardR_pos hpos)
        rw [seq_ok (e' := [some (.d (.int d)), some (.d (.int (m : Int))), some (.d (.lst (ls.map D.int))), some (.d (.lst (rs.map D.int))), some (.d (.int y)), some (.d (.int (i : Int)))])]
        · unfold sAppendPop
          rw [h0]
          simp only [bind_ok, asI_i, getL, List.getElem?_cons_succ, List.getElem?_cons_zero, popAt_ints z1 z2 (by omega), putL, List.set_cons_succ, List.set_cons_zero]
          rw [guardR_pos (by rw [List.length_map]; omega), List.map_append]
          rfl
        · rw [hy]
          exact set_ok (m2_ok (m2_ok (m2_ok (m2_ok rfl rfl (guardR_pos (okMul_r (by decide) (by decide)))) (m2_ok rfl rfl (guardR_pos (okMul_l (by decide) (by decide)))) rfl) rfl rfl) rfl (guardR_pos (by decide)))
      · rw [List.length_eraseIdx_of_lt (by omega)]; omega
      · rw [List.length_append, hrs]; simp) [some (.d (.int d)), some (.d (.int (m : Int))), some (.d (.lst (((List.range m).map fun (k : Nat) => (k : Int)).map D.int))), some (.d (.lst [])), some (.d (.int (d % 2147483647))), none] ⟨_, _, [], none, rfl, by simp, rfl⟩
  obtain ⟨d2, ls, rs, o, he, hl, hrs⟩ := h2
  subst he
  rw [dRange_len, Nat.zero_add] at hl hrs
  refine ⟨rs, ?_, hrs⟩
  rw [seq_ok (e' := [some (.d (.int d)), some (.d (.int (m : Int))), some (.d (.lst (((List.range m).map fun (k : Nat) => (k : Int)).map D.int))), none, none, none]) (set_ok (comp_ok (rng_ok rfl (seqD m hm)) hw hc))]
  rw [seq_ok (e' := [some (.d (.int d)), some (.d (.int (m : Int))), some (.d (.lst (((List.range m).map fun (k : Nat) => (k : Int)).map D.int))), some (.d (.lst [])), none, none]) (set_ok (lst0 _))]
  rw [seq_ok (e' := [some (.d (.int d)), some (.d (.int (m : Int))), some (.d (.lst (((List.range m).map fun (k : Nat) => (k : Int)).map D.int))), some (.d (.lst [])), some (.d (.int (d % 2147483647))), none]) (set_ok (m2_ok rfl rfl (guardR_pos (by decide))))]
  rw [seq_ok ((for_ok (rng_ok rfl (seqD m hm))).trans h1)]
  rfl
end Mr
set_option linter.all false
set_option maxRecDepth 10000
namespace Mr
open PySem Mi
open My (words words_len words_nd)
theorem cell_tri (ns : List Int) {e : Mi.Env} {j k : Nat} (hj : j < 8) (hk : k < 8) (e0 : mV 0 e = .ok (.lst (ns.map D.int))) (e7 : mV 7 e = .ok (.int (j : Int))) (e8 : mV 8 e = .ok (.int (k : Int))) : ∃ c : Int, (mCall m_l_cell [(wD (mV 0)), (wD (m2 dAdd (m2 dAdd (mC (.int 4)) (m2 dDiv (m2 dMulI (mN bMax [(mV 7), (mV 8)]) (m2 dSub (mN bMax [(mV 7), (mV 8)]) (mC (.int 1)))) (mC (.int 2)))) (mN bMin [(mV 7), (mV 8)])))]) e = .ok (.int c) := by
  have hx : mN bMax [(mV 7), (mV 8)] e = .ok (.int (max (j : Int) (k : Int))) := (n2_ok e7 e8).trans (max_ii _ _)
  have hn : mN bMin [(mV 7), (mV 8)] e = .ok (.int (min (j : Int) (k : Int))) := (n2_ok e7 e8).trans (min_ii _ _)
  obtain ⟨t1, t2, t3, t4⟩ := tri_le (a := max (j : Int) (k : Int)) (by omega) (by omega)
  obtain ⟨z, hz⟩ : ∃ z : Nat, 4 + max (j : Int) (k : Int) * (max (j : Int) (k : Int) - 1) / 2 + min (j : Int) (k : Int) = (z : Int) := ⟨(4 + max (j : Int) (k : Int) * (max (j : Int) (k : Int) - 1) / 2 + min (j : Int) (k : Int)).toNat, by omega⟩
  obtain ⟨c, hc⟩ := cell_ok ns z (by omega)
  refine ⟨c, call2 (wD_ok e0) (wD_ok (m2_ok (m2_ok rfl (m2_ok (m2_ok hx (m2_ok hx rfl rfl) (guardR_pos (okMul_l t1 t2))) rfl (guardR_pos (okDiv_small (by decide) (by decide)))) rfl) hn rfl)) ?_⟩
  rw [hz]; exact hc
theorem net2w_ok (ns : List Int) (hi : Nat) (h0 : 1 ≤ hi) (h2 : hi ≤ 8) :
    ∃ names A r, m_l_net_2 [.d (.lst (ns.map D.int)), .d (.int (hi : Int))] = .ok (.d (netD names (A.map (arrOf names)))) ∧ IxNet names A r ∧ ∃ (c : Int) (m : Nat), m ≤ 8 ∧ names = (words c m).map S' := by
  obtain ⟨c0, hc0⟩ := cell_ok ns 0 (by decide)
  obtain ⟨c1, hc1⟩ := cell_ok ns 1 (by decide)
  obtain ⟨c2, hc2⟩ := cell_ok ns 2 (by decide)
  obtain ⟨c3, hc3⟩ := cell_ok ns 3 (by decide)
  have hw : (0 : Int) < (hi : Int) := by omega
  have q1 := Int.emod_nonneg c0 (b := (hi : Int)) (by omega)
  have q2 := Int.emod_lt_of_pos c0 hw
  obtain ⟨m, hm⟩ : ∃ m : Nat, 1 + c0 % (hi : Int) = (m : Int) := ⟨(1 + c0 % (hi : Int)).toNat, by omega⟩
  have hm1 : 1 ≤ m := by omega
  have hm2 : m ≤ hi := by omega
  have hm8 : m ≤ 8 := by omega
  obtain ⟨names, hnm⟩ : ∃ names, names = (words c1 m).map S' := ⟨_, rfl⟩
  have hn := words_ok c1 m hm8
  rw [← hnm] at hn
  have hnl : names.length = m := by rw [hnm, List.length_map]; exact words_len c1 m
  have hnd : names.Nodup := by rw [hnm]; exact List.Pairwise.map _ (fun a b h z => h (S'_inj z)) (words_nd _ _ hm8)
  obtain ⟨rs, hr, hrl⟩ := ranks2_ok c2 m hm8
  have q3 := Int.emod_nonneg c3 (b := 6) (by decide)
  have q4 := Int.emod_lt_of_pos c3 (b := 6) (by decide)
  obtain ⟨th, hth⟩ : ∃ th, dIx (.lst ([4, 1, 2, 3, 2, 3].map D.int)) (.int (c3 % 6)) = .ok (.int th) := ⟨_, ix_ints q3 (by simp; omega)⟩
  have hrx : ∀ i : Nat, i < m → dIx (.lst (rs.map D.int)) (.int (i : Int)) = .ok (.int (rs.getD i 0)) := fun i hi => by
    have := ix_ints (cs := rs) (i := (i : Int)) (by omega) (by omega)
    rwa [Int.toNat_natCast] at this
  have hnx : ∀ i : Nat, i < m → dIx (strL names) (.int (i : Int)) = .ok (.str (nth names i)) := fun i hi => by
    have := ix_strs (cs := names) (i := (i : Int)) (by omega) (by omega)
    rwa [Int.toNat_natCast] at this
  have inner : ∀ (j : Nat) (A : List Ix) (o8 o9 : Option W), j < m → good m (fun i => rs.getD i 0) A j 0 → ∃ (A' : List Ix) (p8 p9 : Option W), forD (.n 8) (sSeq (sSet 9 (mCall m_l_cell [(wD (mV 0)), (wD (m2 dAdd (m2 dAdd (mC (.int 4)) (m2 dDiv (m2 dMulI (mN bMax [(mV 7), (mV 8)]) (m2 dSub (mN bMax [(mV 7), (mV 8)]) (mC (.int 1)))) (mC (.int 2)))) (mN bMin [(mV 7), (mV 8)])))])) (sIf (cAnd (cB (m2 dLt (m2 dIx (mV 4) (mV 7)) (m2 dIx (mV 4) (mV 8)))) (cB (m2 dLt (m2 dMod (m2 dDiv (m2 dMod (m2 dMulI (mV 9) (mC (.int 48271))) (mC (.int 2147483647))) (mC (.int 16))) (mC (.int 4))) (mV 5)))) (sAppend 6 (mN dTup [(m2 dIx (mV 3) (mV 7)), (m2 dIx (mV 3) (mV 8))])) sNext)) (dRange 0 (m : Int)) [some (.d (.lst (ns.map D.int))), some (.d (.int (hi : Int))), some (.d (.int (m : Int))), some (.d (strL names)), some (.d (.lst (rs.map D.int))), some (.d (.int th)), some (.d (arsD names A)), some (.d (.int (j : Int))), o8, o9] = .ok (.nx [some (.d (.lst (ns.map D.int))), some (.d (.int (hi : Int))), some (.d (.int (m : Int))), some (.d (strL names)), some (.d (.lst (rs.map D.int))), some (.d (.int th)), some (.d (arsD names A')), some (.d (.int (j : Int))), p8, p9]) ∧ good m (fun i => rs.getD i 0) A' (j + 1) 0 := by
    intro j A o8 o9 hj hg
    obtain ⟨e', f1, A', p8, p9, he, hg'⟩ := for_inv (tg := .n 8) (body := (sSeq (sSet 9 (mCall m_l_cell [(wD (mV 0)), (wD (m2 dAdd (m2 dAdd (mC (.int 4)) (m2 dDiv (m2 dMulI (mN bMax [(mV 7), (mV 8)]) (m2 dSub (mN bMax [(mV 7), (mV 8)]) (mC (.int 1)))) (mC (.int 2)))) (mN bMin [(mV 7), (mV 8)])))])) (sIf (cAnd (cB (m2 dLt (m2 dIx (mV 4) (mV 7)) (m2 dIx (mV 4) (mV 8)))) (cB (m2 dLt (m2 dMod (m2 dDiv (m2 dMod (m2 dMulI (mV 9) (mC (.int 48271))) (mC (.int 2147483647))) (mC (.int 16))) (mC (.int 4))) (mV 5)))) (sAppend 6 (mN dTup [(m2 dIx (mV 3) (mV 7)), (m2 dIx (mV 3) (mV 8))])) sNext))) (fun k e => ∃ (A : List Ix) (o8 o9 : Option W), e = [some (.d (.lst (ns.map D.int))), some (.d (.int (hi : Int))), some (.d (.int (m : Int))), some (.d (strL names)), some (.d (.lst (rs.map D.int))), some (.d (.int th)), some (.d (arsD names A)), some (.d (.int (j : Int))), o8, o9] ∧ good m (fun i => rs.getD i 0) A j k)
      (dRange 0 (m : Int)) 0 (fun k x e hx ⟨A, o8, o9, he, hg⟩ => by
        obtain ⟨hk, rfl⟩ := dRange_get hx
        subst he
        rw [Nat.zero_add] at hg
        obtain ⟨c, hc⟩ := cell_tri ns (e := [some (.d (.lst (ns.map D.int))), some (.d (.int (hi : Int))), some (.d (.int (m : Int))), some (.d (strL names)), some (.d (.lst (rs.map D.int))), some (.d (.int th)), some (.d (arsD names A)), some (.d (.int (j : Int))), some (.d (.int (k : Int))), o9]) (j := j) (k := k) (by omega) (by omega) rfl rfl rfl
        have c1 : cB (m2 dLt (m2 dIx (mV 4) (mV 7)) (m2 dIx (mV 4) (mV 8))) [some (.d (.lst (ns.map D.int))), some (.d (.int (hi : Int))), some (.d (.int (m : Int))), some (.d (strL names)), some (.d (.lst (rs.map D.int))), some (.d (.int th)), some (.d (arsD names A)), some (.d (.int (j : Int))), some (.d (.int (k : Int))), some (.d (.int c))] = .ok (decide (rs.getD j 0 < rs.getD k 0)) := cB_ok (m2_ok (m2_ok rfl rfl (hrx j hj)) (m2_ok rfl rfl (hrx k hk)) rfl)
        have c2 : cB (m2 dLt (m2 dMod (m2 dDiv (m2 dMod (m2 dMulI (mV 9) (mC (.int 48271))) (mC (.int 2147483647))) (mC (.int 16))) (mC (.int 4))) (mV 5)) [some (.d (.lst (ns.map D.int))), some (.d (.int (hi : Int))), some (.d (.int (m : Int))), some (.d (strL names)), some (.d (.lst (rs.map D.int))), some (.d (.int th)), some (.d (arsD names A)), some (.d (.int (j : Int))), some (.d (.int (k : Int))), some (.d (.int c))] = .ok (decide (c * 48271 % 2147483647 / 16 % 4 < th)) := cB_ok (m2_ok (m2_ok (m2_ok (m2_ok (m2_ok rfl rfl (guardR_pos (okMul_r (by decide) (by decide)))) rfl (guardR_pos (by decide))) rfl (guardR_pos (okDiv_small (by decide) (by decide)))) rfl (guardR_pos (by decide))) rfl rfl)
        by_cases hb : rs.getD j 0 < rs.getD k 0 ∧ c * 48271 % 2147483647 / 16 % 4 < th
        · refine ⟨[some (.d (.lst (ns.map D.int))), some (.d (.int (hi : Int))), some (.d (.int (m : Int))), some (.d (strL names)), some (.d (.lst (rs.map D.int))), some (.d (.int th)), some (.d (arsD names A)), some (.d (.int (j : Int))), some (.d (.int (k : Int))), o9], [some (.d (.lst (ns.map D.int))), some (.d (.int (hi : Int))), some (.d (.int (m : Int))), some (.d (strL names)), some (.d (.lst (rs.map D.int))), some (.d (.int th)), some (.d (arsD names (A ++ [(j, k)]))), some (.d (.int (j : Int))), some (.d (.int (k : Int))), some (.d (.int c))], rfl, ?_, A ++ [(j, k)], some (.d (.int (k : Int))), some (.d (.int c)), rfl, by rw [Nat.zero_add]; exact hg.add hj hk hb.1⟩
          rw [seq_ok (e' := [some (.d (.lst (ns.map D.int))), some (.d (.int (hi : Int))), some (.d (.int (m : Int))), some (.d (strL names)), some (.d (.lst (rs.map D.int))), some (.d (.int th)), some (.d (arsD names A)), some (.d (.int (j : Int))), some (.d (.int (k : Int))), some (.d (.int c))]) (set_ok hc)]
          rw [if_tt (by unfold cAnd; rw [c1, bind_ok, decide_eq_true hb.1, if_pos rfl, c2, decide_eq_true hb.2])]
          rw [append_ok (d := pairD (nth names j, nth names k)) (ds := (A.map (arrOf names)).map pairD) (tup2 (m2_ok rfl rfl (hnx j hj)) (m2_ok rfl rfl (hnx k hk))) rfl (by rw [List.length_map, List.length_map]; have := hg.2.2; omega)]
          show Rs.ok (Out.nx [_, _, _, _, _, _, some (W.d (D.lst ((A.map (arrOf names)).map pairD ++ [pairD (nth names j, nth names k)]))), _, _, _]) = _
          rw [arsD, List.map_append, List.map_append]; rfl
        · refine ⟨[some (.d (.lst (ns.map D.int))), some (.d (.int (hi : Int))), some (.d (.int (m : Int))), some (.d (strL names)), some (.d (.lst (rs.map D.int))), some (.d (.int th)), some (.d (arsD names A)), some (.d (.int (j : Int))), some (.d (.int (k : Int))), o9], [some (.d (.lst (ns.map D.int))), some (.d (.int (hi : Int))), some (.d (.int (m : Int))), some (.d (strL names)), some (.d (.lst (rs.map D.int))), some (.d (.int th)), some (.d (arsD names A)), some (.d (.int (j : Int))), some (.d (.int (k : Int))), some (.d (.int c))], rfl, ?_, A, some (.d (.int (k : Int))), some (.d (.int c)), rfl, by rw [Nat.zero_add]; exact hg.skip⟩
          rw [seq_ok (e' := [some (.d (.lst (ns.map D.int))), some (.d (.int (hi : Int))), some (.d (.int (m : Int))), some (.d (strL names)), some (.d (.lst (rs.map D.int))), some (.d (.int th)), some (.d (arsD names A)), some (.d (.int (j : Int))), some (.d (.int (k : Int))), some (.d (.int c))]) (set_ok hc)]
          rw [if_ff (by
            unfold cAnd
            rw [c1, bind_ok]
            by_cases hb1 : rs.getD j 0 < rs.getD k 0
            · rw [decide_eq_true hb1, if_pos rfl, c2, decide_eq_false fun z => hb ⟨hb1, z⟩]
            · rw [decide_eq_false hb1, if_neg Bool.false_ne_true])]
          rfl) _ ⟨A, o8, o9, rfl, hg⟩
    subst he
    rw [dRange_len, Nat.zero_add] at hg'
    exact ⟨A', p8, p9, f1, hg'.next hm8⟩
  obtain ⟨e', f1, A, p7, p8, p9, he, hg⟩ := for_inv (tg := .n 7) (body := (sFor (iRange1 (mV 2)) (.n 8) (sSeq (sSet 9 (mCall m_l_cell [(wD (mV 0)), (wD (m2 dAdd (m2 dAdd (mC (.int 4)) (m2 dDiv (m2 dMulI (mN bMax [(mV 7), (mV 8)]) (m2 dSub (mN bMax [(mV 7), (mV 8)]) (mC (.int 1)))) (mC (.int 2)))) (mN bMin [(mV 7), (mV 8)])))])) (sIf (cAnd (cB (m2 dLt (m2 dIx (mV 4) (mV 7)) (m2 dIx (mV 4) (mV 8)))) (cB (m2 dLt (m2 dMod (m2 dDiv (m2 dMod (m2 dMulI (mV 9) (mC (.int 48271))) (mC (.int 2147483647))) (mC (.int 16))) (mC (.int 4))) (mV 5)))) (sAppend 6 (mN dTup [(m2 dIx (mV 3) (mV 7)), (m2 dIx (mV 3) (mV 8))])) sNext)))) (fun j e => ∃ (A : List Ix) (o7 o8 o9 : Option W), e = [some (.d (.lst (ns.map D.int))), some (.d (.int (hi : Int))), some (.d (.int (m : Int))), some (.d (strL names)), some (.d (.lst (rs.map D.int))), some (.d (.int th)), some (.d (arsD names A)), o7, o8, o9] ∧ good m (fun i => rs.getD i 0) A j 0)
    (dRange 0 (m : Int)) 0 (fun j x e hx ⟨A, o7, o8, o9, he, hg⟩ => by
      obtain ⟨hj, rfl⟩ := dRange_get hx
      subst he
      rw [Nat.zero_add] at hg
      obtain ⟨A', p8, p9, f1, hg'⟩ := inner j A o8 o9 hj hg
      exact ⟨_, _, rfl, (for_ok (rng_ok rfl (seqD m hm8))).trans f1, A', _, p8, p9, rfl, by rw [Nat.zero_add]; exact hg'⟩)
    [some (.d (.lst (ns.map D.int))), some (.d (.int (hi : Int))), some (.d (.int (m : Int))), some (.d (strL names)), some (.d (.lst (rs.map D.int))), some (.d (.int th)), some (.d (.lst [])), none, none, none] ⟨[], none, none, none, rfl, List.Pairwise.nil, fun p hp => absurd hp (by simp), Nat.zero_le _⟩
  subst he
  rw [dRange_len, Nat.zero_add] at hg
  refine ⟨names, A, fun i => rs.getD i 0, ?_, ⟨hnd, by omega, by omega, hg.1, fun p hp => ?_, by have := hg.2.2; omega⟩, c1, m, hm8, hnm⟩
  · unfold m_l_net_2 b_l_net_2
    rw [fnM2]
    rw [show ((0 : Nat) : Int) = 0 from rfl] at hc0
    rw [show ((1 : Nat) : Int) = 1 from rfl] at hc1
    rw [show ((2 : Nat) : Int) = 2 from rfl] at hc2
    rw [show ((3 : Nat) : Int) = 3 from rfl] at hc3
    rw [seq_ok (e' := [some (.d (.lst (ns.map D.int))), some (.d (.int (hi : Int))), some (.d (.int (m : Int))), none, none, none, none, none, none, none]) (set_ok (d := .int (m : Int)) ((m2_ok rfl (m2_ok (call2 rfl rfl hc0) rfl (guardR_pos hw)) rfl).trans (by rw [add_ii, hm])))]
    rw [seq_ok (e' := [some (.d (.lst (ns.map D.int))), some (.d (.int (hi : Int))), some (.d (.int (m : Int))), some (.d (strL names)), none, none, none, none, none, none]) (set_ok (call2 (wD_ok (call2 rfl rfl hc1)) rfl hn))]
    rw [seq_ok (e' := [some (.d (.lst (ns.map D.int))), some (.d (.int (hi : Int))), some (.d (.int (m : Int))), some (.d (strL names)), some (.d (.lst (rs.map D.int))), none, none, none, none, none]) (set_ok (call2 (wD_ok (call2 rfl rfl hc2)) rfl hr))]
    have hl6 : mN dLst [(mC (.int 4)), (mC (.int 1)), (mC (.int 2)), (mC (.int 3)), (mC (.int 2)), (mC (.int 3))] [some (.d (.lst (ns.map D.int))), some (.d (.int (hi : Int))), some (.d (.int (m : Int))), some (.d (strL names)), some (.d (.lst (rs.map D.int))), none, none, none, none, none] = .ok (.lst ([4, 1, 2, 3, 2, 3].map D.int)) := by
      show guardR (([4, 1, 2, 3, 2, 3].map D.int).length ≤ 16777216) _ = _
      exact guardR_pos (by simp)
    rw [seq_ok (e' := [some (.d (.lst (ns.map D.int))), some (.d (.int (hi : Int))), some (.d (.int (m : Int))), some (.d (strL names)), some (.d (.lst (rs.map D.int))), some (.d (.int th)), none, none, none, none]) (set_ok (m2_ok hl6 (m2_ok (call2 rfl rfl hc3) rfl (guardR_pos (by decide))) hth))]
    rw [seq_ok (e' := [some (.d (.lst (ns.map D.int))), some (.d (.int (hi : Int))), some (.d (.int (m : Int))), some (.d (strL names)), some (.d (.lst (rs.map D.int))), some (.d (.int th)), some (.d (.lst [])), none, none, none]) (set_ok (lst0 _))]
    rw [seq_ok ((for_ok (rng_ok rfl (seqD m hm8))).trans f1)]
    rw [ret_ok (wD_ok (tup2 (x := nmD names) (y := arD (A.map (arrOf names))) (n1_ok (x := strL names) rfl) (n1_ok (x := arsD names A) rfl)))]
    rfl
  · obtain ⟨a, b, c, _⟩ := hg.2.1 p hp
    exact ⟨by omega, by omega, c⟩
end Mr
set_option linter.all false
set_option maxRecDepth 10000
namespace Mr
open PySem Mi
end Mr
set_option linter.all false
set_option maxRecDepth 10000
namespace Mr
open PySem Mi
inductive Rch (arrows : List Ar) (x : Str) : Str → Prop
  | refl : Rch arrows x x
  | step {y z : Str} : Rch arrows x y → (y, z) ∈ arrows → Rch arrows x z
structure Good (names : List Str) (arrows : List Ar) (x : Str) (met : List Str) : Prop where
  nd : met.Nodup
  sub : ∀ y ∈ met, y ∈ names
  r : ∀ y ∈ met, Rch arrows x y
  x : x ∈ met
def Closed (arrows : List Ar) (met : List Str) : Prop := ∀ p ∈ arrows, p.1 ∈ met → p.2 ∈ met
theorem Closed.all {arrows : List Ar} {met : List Str} (h : Closed arrows met) {x : Str} (hx : x ∈ met) : ∀ {y : Str}, Rch arrows x y → y ∈ met
  | _, .refl => hx
  | _, .step r a => h _ a (h.all hx r)
theorem Good.iff {names : List Str} {arrows : List Ar} {x : Str} {met : List Str} (g : Good names arrows x met) (h : Closed arrows met) (y : Str) : y ∈ met ↔ Rch arrows x y := ⟨g.r y, h.all g.x⟩
theorem full_of {names met : List Str} (nd : met.Nodup) (sub : ∀ y ∈ met, y ∈ names) (h : names.length ≤ met.length) : ∀ y ∈ names, y ∈ met := fun y hy => by
  apply Classical.byContradiction
  intro hn
  have := nodup_sub_len (l := y :: met) (m := names) (List.nodup_cons.mpr ⟨hn, nd⟩) (fun z hz => by
    rcases List.mem_cons.mp hz with rfl | hz
    · exact hy
    · exact sub z hz)
  simp at this; omega
theorem spread_ok {names : List Str} {arrows : List Ar} (N : Net names arrows) (hd : ∀ p ∈ arrows, p.2 ∈ names) {x : Str} (hx : x ∈ names) :
    ∃ met, m_l_spread [.d (arD arrows), .d (.str x)] = .ok (.d (strL met)) ∧ met.length ≤ 8 ∧ ∀ y, y ∈ met ↔ Rch arrows x y := by
  have inner : ∀ (met : List Str) (o3 o4 o5 : Option W), Good names arrows x met → ∃ (met' : List Str) (p4 p5 : Option W), forD (.t [4, 5]) (sIf (cAnd (cB (m2 dIn (mV 4) (mV 2))) (cB (m2 dNotIn (mV 5) (mV 2)))) (sAppend 2 (mV 5)) sNext) (arrows.map pairD)
      [some (.d (arD arrows)), some (.d (.str x)), some (.d (strL met)), o3, o4, o5] = .ok (.nx [some (.d (arD arrows)), some (.d (.str x)), some (.d (strL met')), o3, p4, p5]) ∧ Good names arrows x met' ∧ (met.length < met'.length ∨ (met' = met ∧ Closed arrows met)) := by
    intro met o3 o4 o5 g
    obtain ⟨e', f1, met', p4, p5, he, g', hc⟩ := for_inv (tg := .t [4, 5]) (body := (sIf (cAnd (cB (m2 dIn (mV 4) (mV 2))) (cB (m2 dNotIn (mV 5) (mV 2)))) (sAppend 2 (mV 5)) sNext))
      (fun i e => ∃ (met' : List Str) (o4 o5 : Option W), e = [some (.d (arD arrows)), some (.d (.str x)), some (.d (strL met')), o3, o4, o5] ∧ Good names arrows x met' ∧ (met.length < met'.length ∨ (met' = met ∧ ∀ j p, j < i → arrows[j]? = some p → p.1 ∈ met → p.2 ∈ met))) (arrows.map pairD) 0 (fun i d e hi ⟨m1, o4, o5, he, g1, hc⟩ => by
        subst he
        rw [Nat.zero_add] at hc ⊢
        rw [List.getElem?_map] at hi
        obtain ⟨p, hp, rfl⟩ := Option.map_eq_some_iff.mp hi
        have hpm := List.mem_of_getElem? hp
        have c1 : cB (m2 dIn (mV 4) (mV 2)) [some (.d (arD arrows)), some (.d (.str x)), some (.d (strL m1)), o3, some (.d (.str p.1)), some (.d (.str p.2))] = .ok (decide (p.1 ∈ m1)) := cB_ok ((m2_ok rfl rfl rfl).trans (dIn_str _ _))
        have c2 : cB (m2 dNotIn (mV 5) (mV 2)) [some (.d (arD arrows)), some (.d (.str x)), some (.d (strL m1)), o3, some (.d (.str p.1)), some (.d (.str p.2))] = .ok (!decide (p.2 ∈ m1)) := cB_ok ((m2_ok rfl rfl rfl).trans (dNotIn_str _ _))
        have hl8 : m1.length ≤ 8 := Nat.le_trans (nodup_sub_len g1.nd g1.sub) N.le
        by_cases hb : p.1 ∈ m1 ∧ p.2 ∉ m1
        · refine ⟨[some (.d (arD arrows)), some (.d (.str x)), some (.d (strL m1)), o3, some (.d (.str p.1)), some (.d (.str p.2))], [some (.d (arD arrows)), some (.d (.str x)), some (.d (strL (m1 ++ [p.2]))), o3, some (.d (.str p.1)), some (.d (.str p.2))], rfl, ?_, m1 ++ [p.2], _, _, rfl, ⟨?_, fun y hy => ?_, fun y hy => ?_, List.mem_append_left _ g1.x⟩, .inl ?_⟩
          · rw [if_tt (by unfold cAnd; rw [c1, bind_ok, decide_eq_true hb.1, if_pos rfl, c2, decide_eq_false hb.2]; rfl), append_ok (d := .str p.2) (ds := m1.map D.str) rfl rfl (by rw [List.length_map]; omega)]
            show Rs.ok (Out.nx [_, _, some (W.d (D.lst (m1.map D.str ++ [.str p.2]))), _, _, _]) = _
            rw [strL, List.map_append]; rfl
          · refine List.nodup_append.mpr ⟨g1.nd, by simp, fun a ha b hb' => ?_⟩
            have : b = p.2 := by simpa using hb'
            subst this
            exact fun z => hb.2 (z ▸ ha)
          · rcases List.mem_append.mp hy with h | h
            · exact g1.sub y h
            · have : y = p.2 := by simpa using h
              subst this; exact hd p hpm
          · rcases List.mem_append.mp hy with h | h
            · exact g1.r y h
            · have : y = p.2 := by simpa using h
              subst this; exact .step (g1.r _ hb.1) hpm
          · rw [List.length_append]
            rcases hc with h | ⟨rfl, _⟩
            · simp; omega
            · simp
        · refine ⟨[some (.d (arD arrows)), some (.d (.str x)), some (.d (strL m1)), o3, some (.d (.str p.1)), some (.d (.str p.2))], [some (.d (arD arrows)), some (.d (.str x)), some (.d (strL m1)), o3, some (.d (.str p.1)), some (.d (.str p.2))], rfl, ?_, m1, _, _, rfl, g1, ?_⟩
          · rw [if_ff (by
              unfold cAnd
              rw [c1, bind_ok]
              by_cases h1 : p.1 ∈ m1
              · rw [decide_eq_true h1, if_pos rfl, c2, decide_eq_true (Classical.byContradiction fun z => hb ⟨h1, z⟩)]; rfl
              · rw [decide_eq_false h1, if_neg Bool.false_ne_true])]
            rfl
          · rcases hc with h | ⟨rfl, h⟩
            · exact .inl h
            · refine .inr ⟨rfl, fun j q hj hq h1 => ?_⟩
              by_cases hji : j = i
              · subst hji
                rw [hp] at hq; cases hq
                exact Classical.byContradiction fun z => hb ⟨h1, z⟩
              · exact h j q (by omega) hq h1) _ ⟨met, o4, o5, rfl, g, .inr ⟨rfl, fun j p h => absurd h (Nat.not_lt_zero _)⟩⟩
    subst he
    refine ⟨met', p4, p5, f1, g', ?_⟩
    rcases hc with h | ⟨h1, h2⟩
    · exact .inl h
    · refine .inr ⟨h1, fun p hp h => ?_⟩
      obtain ⟨j, hj⟩ := List.getElem?_of_mem hp
      exact h2 j p (by rw [List.length_map]; have := (List.getElem?_eq_some_iff.mp hj).1; omega) hj h
  obtain ⟨e', f1, met, o3, o4, o5, he, g, hc⟩ := for_inv (tg := .n 3) (body := (sFor (iOf (mV 0)) (.t [4, 5]) (sIf (cAnd (cB (m2 dIn (mV 4) (mV 2))) (cB (m2 dNotIn (mV 5) (mV 2)))) (sAppend 2 (mV 5)) sNext)))
    (fun i e => ∃ (met : List Str) (o3 o4 o5 : Option W), e = [some (.d (arD arrows)), some (.d (.str x)), some (.d (strL met)), o3, o4, o5] ∧ Good names arrows x met ∧ (i + 1 ≤ met.length ∨ Closed arrows met)) (dRange 0 ((7 : Nat) : Int)) 0 (fun i d e hi ⟨met, o3, o4, o5, he, g, hc⟩ => by
      subst he
      rw [Nat.zero_add] at hc ⊢
      obtain ⟨met', p4, p5, f1, g', hc'⟩ := inner met (some (.d d)) o4 o5 g
      refine ⟨_, _, rfl, (for_ok (iOf_ok (x := arD arrows) rfl rfl)).trans f1, met', some (.d d), p4, p5, rfl, g', ?_⟩
      rcases hc' with h | ⟨rfl, h⟩
      · rcases hc with h1 | h1
        · exact .inl (by omega)
        · exact .inr fun p hp hm => by
            have hxm : ∀ y, y ∈ met' → y ∈ met := fun y hy => h1.all g.x (g'.r y hy)
            have := nodup_sub_len g'.nd hxm
            omega
      · exact .inr h) [some (.d (arD arrows)), some (.d (.str x)), some (.d (strL [x])), none, none, none] ⟨[x], none, none, none, rfl, ⟨by simp, fun y hy => by simp at hy; subst hy; exact hx, fun y hy => by simp at hy; subst hy; exact .refl, by simp⟩, .inl (by simp)⟩
  subst he
  rw [dRange_len] at hc
  have hcl : Closed arrows met := by
    rcases hc with h | h
    · exact fun p hp _ => full_of g.nd g.sub (by have := N.le; omega) _ (hd p hp)
    · exact h
  refine ⟨met, ?_, Nat.le_trans (nodup_sub_len g.nd g.sub) N.le, g.iff hcl⟩
  unfold m_l_spread b_l_spread
  rw [fnN2]
  rw [seq_ok (e' := [some (.d (arD arrows)), some (.d (.str x)), some (.d (strL [x])), none, none, none]) (set_ok (lst1 rfl))]
  rw [show (7 : Int) = ((7 : Nat) : Int) from rfl]
  rw [seq_ok ((for_ok (rng_ok rfl (seqD 7 (by decide)))).trans f1)]
  rfl
end Mr
set_option linter.all false
set_option maxRecDepth 10000
namespace Mr
open PySem Mi
noncomputable def rch (arrows : List Ar) (x y : Str) : Bool := @decide (Rch arrows x y) (Classical.propDecidable _)
theorem rch_iff {arrows : List Ar} {x y : Str} : rch arrows x y = true ↔ Rch arrows x y := by unfold rch; exact @decide_eq_true_iff _ (Classical.propDecidable _)
noncomputable def belw (names : List Str) (arrows : List Ar) (x : Str) : List Str := names.filter (rch arrows x)
theorem mem_rch {arrows : List Ar} {x : Str} {met : List Str} (h : ∀ y, y ∈ met ↔ Rch arrows x y) (y : Str) : decide (y ∈ met) = rch arrows x y := by
  rw [Bool.eq_iff_iff, rch_iff, decide_eq_true_iff]; exact h y
theorem l_below_ok {names : List Str} {arrows : List Ar} (N : Net names arrows) (hd : ∀ p ∈ arrows, p.2 ∈ names) {x : Str} (hx : x ∈ names) : m_l_below [.d (netD names arrows), .d (.str x)] = .ok (.d (strL (belw names arrows x))) := by
  obtain ⟨met, h1, _, h3⟩ := spread_ok N hd hx
  unfold m_l_below b_l_below
  rw [fnN2]
  rw [seq_ok (e' := [some (.d (netD names arrows)), some (.d (.str x)), some (.d (strL met))]) (set_ok (call2 (wD_ok (m2_ok rfl rfl (ix1 _ _))) rfl h1))]
  have hc : compD (.n 1) (cB (m2 dIn (mV 1) (mV 0))) (mV 1) [some (.d (strL met)), none] (names.map D.str) = .ok ((names.filter (rch arrows x)).map D.str) :=
    comp_map D.str D.str _ names fun y _ => ⟨[some (.d (strL met)), some (.d (.str y))], rfl, cB_ok ((m2_ok rfl rfl rfl).trans ((dIn_str _ _).trans (by rw [mem_rch h3]))), fun _ => rfl⟩
  rw [ret_ok (wD_ok (comp_ok (iOf_ok (m2_ok rfl rfl (ix0 _ _)) rfl) (by rw [List.length_map]; have := N.le; omega) hc))]
  rfl
def dkS (fs : List Str) : W := .dk (fs.map fun y => ((Sum.inr y : Ky), D.bl true))
theorem valS (fs : List Str) (y : Str) : (valK (fs.map fun y => ((Sum.inr y : Ky), D.bl true)) (Sum.inr y)).isSome = decide (y ∈ fs) := by
  unfold valK
  induction fs with
  | nil => rfl
  | cons a r ih =>
    rw [List.map_cons, List.find?_cons]
    by_cases h : a = y
    · subst h; simp
    · rw [decide_eq_false (fun z : (Sum.inr a : Ky) = Sum.inr y => h (Sum.inr.inj z))]
      simp only [ih]
      rw [decide_eq_decide]
      exact ⟨fun z => List.mem_cons_of_mem _ z, fun z => by
        rcases List.mem_cons.mp z with z | z
        · exact absurd z.symm h
        · exact z⟩
theorem din_S {i : Nat} {k : E} {e : Mi.Env} {fs : List Str} {y : Str} (hk : k e = .ok (.str y)) (hw : wV i e = .ok (dkS fs)) : mDIn i k e = .ok (.bl (decide (y ∈ fs))) := by
  unfold mDIn; rw [hk, bind_ok, hw, bind_ok, ← valS]; rfl
theorem dnin_S {i : Nat} {k : E} {e : Mi.Env} {fs : List Str} {y : Str} (hk : k e = .ok (.str y)) (hw : wV i e = .ok (dkS fs)) : mDNotIn i k e = .ok (.bl (!decide (y ∈ fs))) := by
  unfold mDNotIn; rw [hk, bind_ok, hw, bind_ok, ← valS]; rfl
theorem dput_S {i : Nat} {k : E} {e : Mi.Env} {fs : List Str} {y : Str} (hk : k e = .ok (.str y)) (hw : wV i e = .ok (dkS fs)) (hn : y ∉ fs) (hl : fs.length ≤ 1000) : sDPut i k (mC (.bl true)) e = .ok (.nx (e.set i (some (dkS (fs ++ [y]))))) := by
  unfold sDPut
  have h1 : dPut (dkS fs) (.str y) (.bl true) = .ok (dkS (fs ++ [y])) := by
    show guardR ((fs.map fun y => ((Sum.inr y : Ky), D.bl true)).length < 16777216) ((ofO (dKey (.str y))).bind fun k => Rs.ok (W.dk (Mi.putK k (.bl true) (fs.map fun y => ((Sum.inr y : Ky), D.bl true))))) = _
    rw [guardR_pos (by rw [List.length_map]; omega)]
    show Rs.ok (W.dk (Mi.putK (Sum.inr y : Ky) (.bl true) (fs.map fun y => ((Sum.inr y : Ky), D.bl true)))) = _
    unfold Mi.putK
    rw [if_neg (by
      rw [List.any_map, Bool.not_eq_true, List.any_eq_false]
      intro z hz
      simp only [Function.comp, decide_eq_true_eq]
      exact fun q => hn (Sum.inr.inj q ▸ hz))]
    unfold dkS
    rw [List.map_append]; rfl
  show (k e).bind _ = _
  rw [hk, bind_ok, hw, bind_ok, h1]; rfl
structure Wst (names : List Str) (arrows : List Ar) (x : Str) (h : Option Str) (fs ws : List Str) : Prop where
  g : Good names arrows x fs
  wnd : ws.Nodup
  wsub : ∀ y ∈ ws, y ∈ fs
  ex : ∀ y ∈ fs, y ∉ ws → h = some y ∨ ∀ p ∈ arrows, p.1 = y → p.2 ∈ fs
abbrev alBody : S := (sSeq (sPop 5 4)
  (sFor (iOf (mV 1)) (.t [6, 7])
  (sIf (cAnd (cB (m2 dEq (mV 6) (mV 5))) (cB (mDNotIn 3 (mV 7))))
  (sSeq (sDPut 3 (mV 7) (mC (.bl true)))
  (sAppend 4 (mV 7)))
  sNext)))
theorem along_turn {names : List Str} {arrows : List Ar} (N : Net names arrows) (hd : ∀ p ∈ arrows, p.2 ∈ names) {x h : Str} {fs ws : List Str} (w : Wst names arrows x none fs (ws ++ [h])) (o5 o6 o7 : Option W) :
    ∃ fs' ws' p6 p7, alBody [some (.d (nmD names)), some (.d (arD arrows)), some (.d (.str x)), some (dkS fs), some (.d (strL (ws ++ [h]))), o5, o6, o7] = .ok (.nx [some (.d (nmD names)), some (.d (arD arrows)), some (.d (.str x)), some (dkS fs'), some (.d (strL ws')), some (.d (.str h)), p6, p7]) ∧
      Wst names arrows x none fs' ws' ∧ fs.length ≤ fs'.length ∧ ws'.length + fs.length = ws.length + fs'.length := by
  have hnd := List.nodup_append.mp w.wnd
  have hh : h ∈ fs := w.wsub h (by simp)
  have hnw : h ∉ ws := fun z => hnd.2.2 h z h (by simp) rfl
  obtain ⟨e', f1, fs', ws', p6, p7, he, w', hl, hl2, hx, _⟩ := for_inv (tg := .t [6, 7]) (body := (sIf (cAnd (cB (m2 dEq (mV 6) (mV 5))) (cB (mDNotIn 3 (mV 7)))) (sSeq (sDPut 3 (mV 7) (mC (.bl true))) (sAppend 4 (mV 7))) sNext))
    (fun i e => ∃ (fs' ws' : List Str) (o6 o7 : Option W), e = [some (.d (nmD names)), some (.d (arD arrows)), some (.d (.str x)), some (dkS fs'), some (.d (strL ws')), some (.d (.str h)), o6, o7] ∧ Wst names arrows x (some h) fs' ws' ∧ fs.length ≤ fs'.length ∧ ws'.length + fs.length = ws.length + fs'.length ∧ (∀ j p, j < i → arrows[j]? = some p → p.1 = h → p.2 ∈ fs') ∧ h ∈ fs') (arrows.map pairD) 0 (fun i d e hi ⟨f1, w1, o6, o7, he, W1, hl, hl2, hx, hf1⟩ => by
      subst he
      rw [Nat.zero_add] at hx ⊢
      rw [List.getElem?_map] at hi
      obtain ⟨p, hp, rfl⟩ := Option.map_eq_some_iff.mp hi
      have hpm := List.mem_of_getElem? hp
      have c1 : cB (m2 dEq (mV 6) (mV 5)) [some (.d (nmD names)), some (.d (arD arrows)), some (.d (.str x)), some (dkS f1), some (.d (strL w1)), some (.d (.str h)), some (.d (.str p.1)), some (.d (.str p.2))] = .ok (decide (p.1 = h)) := cB_ok ((m2_ok rfl rfl rfl).trans (dEq_str _ _))
      have c2 : cB (mDNotIn 3 (mV 7)) [some (.d (nmD names)), some (.d (arD arrows)), some (.d (.str x)), some (dkS f1), some (.d (strL w1)), some (.d (.str h)), some (.d (.str p.1)), some (.d (.str p.2))] = .ok (!decide (p.2 ∈ f1)) := cB_ok (dnin_S rfl rfl)
      have hl8 : f1.length ≤ 8 := Nat.le_trans (nodup_sub_len W1.g.nd W1.g.sub) N.le
      have hw8 : w1.length ≤ 8 := Nat.le_trans (nodup_sub_len W1.wnd (fun y hy => W1.g.sub y (W1.wsub y hy))) N.le
      by_cases hb : p.1 = h ∧ p.2 ∉ f1
      · refine ⟨[some (.d (nmD names)), some (.d (arD arrows)), some (.d (.str x)), some (dkS f1), some (.d (strL w1)), some (.d (.str h)), some (.d (.str p.1)), some (.d (.str p.2))], [some (.d (nmD names)), some (.d (arD arrows)), some (.d (.str x)), some (dkS (f1 ++ [p.2])), some (.d (strL (w1 ++ [p.2]))), some (.d (.str h)), some (.d (.str p.1)), some (.d (.str p.2))], rfl, ?_, f1 ++ [p.2], w1 ++ [p.2], _, _, rfl, ⟨⟨?_, fun y hy => ?_, fun y hy => ?_, List.mem_append_left _ W1.g.x⟩, ?_, fun y hy => ?_, fun y hy hn => ?_⟩, by rw [List.length_append]; omega, by rw [List.length_append, List.length_append]; simp; omega, fun j q hj hq h1 => ?_, List.mem_append_left _ hf1⟩
        · rw [if_tt (by unfold cAnd; rw [c1, bind_ok, decide_eq_true hb.1, if_pos rfl, c2, decide_eq_false hb.2]; rfl)]
          rw [seq_ok (dput_S (y := p.2) (fs := f1) rfl rfl hb.2 (by omega))]
          rw [append_ok (d := .str p.2) (ds := w1.map D.str) rfl rfl (by rw [List.length_map]; omega)]
          show Rs.ok (Out.nx [_, _, _, _, some (W.d (D.lst (w1.map D.str ++ [.str p.2]))), _, _, _]) = _
          rw [strL, List.map_append]; rfl
        · exact List.nodup_append.mpr ⟨W1.g.nd, by simp, fun a ha b hb' => by
            have : b = p.2 := by simpa using hb'
            subst this
            exact fun z => hb.2 (z ▸ ha)⟩
        · rcases List.mem_append.mp hy with z | z
          · exact W1.g.sub y z
          · have : y = p.2 := by simpa using z
            subst this; exact hd p hpm
        · rcases List.mem_append.mp hy with z | z
          · exact W1.g.r y z
          · have : y = p.2 := by simpa using z
            subst this
            exact .step (W1.g.r p.1 (hb.1 ▸ hf1)) hpm
        · exact List.nodup_append.mpr ⟨W1.wnd, by simp, fun a ha b hb' => by
            have : b = p.2 := by simpa using hb'
            subst this
            exact fun z => hb.2 (z ▸ W1.wsub a ha)⟩
        · rcases List.mem_append.mp hy with z | z
          · exact List.mem_append_left _ (W1.wsub y z)
          · exact List.mem_append_right _ z
        · rcases List.mem_append.mp hy with z | z
          · rcases W1.ex y z (fun q => hn (List.mem_append_left _ q)) with q | q
            · exact .inl q
            · exact .inr fun r hr h1 => List.mem_append_left _ (q r hr h1)
          · exact absurd (List.mem_append_right _ z) hn
        · by_cases hji : j = i
          · subst hji
            rw [hp] at hq; cases hq
            simp
          · exact List.mem_append_left _ (hx j q (by omega) hq h1)
      · refine ⟨[some (.d (nmD names)), some (.d (arD arrows)), some (.d (.str x)), some (dkS f1), some (.d (strL w1)), some (.d (.str h)), some (.d (.str p.1)), some (.d (.str p.2))], [some (.d (nmD names)), some (.d (arD arrows)), some (.d (.str x)), some (dkS f1), some (.d (strL w1)), some (.d (.str h)), some (.d (.str p.1)), some (.d (.str p.2))], rfl, ?_, f1, w1, _, _, rfl, W1, hl, hl2, fun j q hj hq h1 => ?_, hf1⟩
        · rw [if_ff (by
            unfold cAnd
            rw [c1, bind_ok]
            by_cases h1 : p.1 = h
            · rw [decide_eq_true h1, if_pos rfl, c2, decide_eq_true (Classical.byContradiction fun z => hb ⟨h1, z⟩)]; rfl
            · rw [decide_eq_false h1, if_neg Bool.false_ne_true])]
          rfl
        · by_cases hji : j = i
          · subst hji
            rw [hp] at hq; cases hq
            exact Classical.byContradiction fun z => hb ⟨h1, z⟩
          · exact hx j q (by omega) hq h1) [some (.d (nmD names)), some (.d (arD arrows)), some (.d (.str x)), some (dkS fs), some (.d (strL ws)), some (.d (.str h)), o6, o7]
    ⟨fs, ws, o6, o7, rfl, ⟨w.g, hnd.1, fun y hy => w.wsub y (List.mem_append_left _ hy), fun y hy hn => by
      by_cases hyh : y = h
      · exact .inl (by rw [hyh])
      · rcases w.ex y hy (fun z => by
          rcases List.mem_append.mp z with z | z
          · exact hn z
          · exact hyh (by simpa using z)) with q | q
        · cases q
        · exact .inr q⟩, Nat.le_refl _, rfl, fun j p hj => absurd hj (Nat.not_lt_zero _), hh⟩
  subst he
  refine ⟨fs', ws', p6, p7, ?_, ⟨w'.g, w'.wnd, w'.wsub, fun y hy hn => .inr ?_⟩, hl, hl2⟩
  · rw [show alBody = sSeq (sPop 5 4) (sFor (iOf (mV 1)) (.t [6, 7]) (sIf (cAnd (cB (m2 dEq (mV 6) (mV 5))) (cB (mDNotIn 3 (mV 7)))) (sSeq (sDPut 3 (mV 7) (mC (.bl true))) (sAppend 4 (mV 7))) sNext)) from rfl]
    rw [seq_ok (e' := [some (.d (nmD names)), some (.d (arD arrows)), some (.d (.str x)), some (dkS fs), some (.d (strL ws)), some (.d (.str h)), o6, o7]) (by
      show (ofO (((ws ++ [h]).map D.str)[((ws ++ [h]).map D.str).length - 1]?)).bind _ = _
      have e1 : ((ws ++ [h]).map D.str)[((ws ++ [h]).map D.str).length - 1]? = some (.str h) := by simp
      have e2 : ((ws ++ [h]).map D.str).dropLast = ws.map D.str := by simp
      rw [e1, ofO_some, bind_ok, e2]; rfl)]
    exact (for_ok (iOf_ok (x := arD arrows) rfl rfl)).trans f1
  · rcases w'.ex y hy hn with q | q
    · cases q
      intro p hp h1
      obtain ⟨j, hj⟩ := List.getElem?_of_mem hp
      exact hx j p (by rw [List.length_map]; have := (List.getElem?_eq_some_iff.mp hj).1; omega) hj h1
    · exact q
end Mr
set_option linter.all false
set_option maxRecDepth 10000
namespace Mr
open PySem Mi
theorem along_while {names : List Str} {arrows : List Ar} (N : Net names arrows) (hd : ∀ p ∈ arrows, p.2 ∈ names) {x : Str} : ∀ (n : Nat) (fs ws : List Str) (o5 o6 o7 : Option W), Wst names arrows x none fs ws → (names.length - fs.length) + ws.length < n →
    ∃ fs' p5 p6 p7, whileD (cTru (mV 4)) alBody n [some (.d (nmD names)), some (.d (arD arrows)), some (.d (.str x)), some (dkS fs), some (.d (strL ws)), o5, o6, o7] = .ok (.nx [some (.d (nmD names)), some (.d (arD arrows)), some (.d (.str x)), some (dkS fs'), some (.d (strL [])), p5, p6, p7]) ∧ Wst names arrows x none fs' []
  | 0, _, _, _, _, _, _, h => absurd h (Nat.not_lt_zero _)
  | n + 1, fs, ws, o5, o6, o7, w, h => by
    have hc : cTru (mV 4) [some (.d (nmD names)), some (.d (arD arrows)), some (.d (.str x)), some (dkS fs), some (.d (strL ws)), o5, o6, o7] = .ok (!(ws.map D.str).isEmpty) := rfl
    rcases List.eq_nil_or_concat ws with rfl | ⟨ws1, y, rfl⟩
    · exact ⟨fs, o5, o6, o7, by rw [whileD, hc]; rfl, w⟩
    · rw [List.concat_eq_append] at w h hc ⊢
      obtain ⟨fs', ws', p6, p7, f1, w', l1, l2⟩ := along_turn N hd w o5 o6 o7
      have l3 : fs'.length ≤ names.length := nodup_sub_len w'.g.nd w'.g.sub
      obtain ⟨fs2, q5, q6, q7, f2, w2⟩ := along_while N hd n fs' ws' (some (.d (.str y))) p6 p7 w' (by rw [List.length_append] at h; simp at h; omega)
      refine ⟨fs2, q5, q6, q7, ?_, w2⟩
      rw [whileD, hc, show (!((ws1 ++ [y]).map D.str).isEmpty) = true by simp, bind_ok, if_pos rfl, f1, bind_ok]
      exact f2
theorem along_ok {names : List Str} {arrows : List Ar} (N : Net names arrows) (hd : ∀ p ∈ arrows, p.2 ∈ names) {x : Str} (hx : x ∈ names) : m_names_along [.d (nmD names), .d (arD arrows), .d (.str x)] = .ok (.d (strL (belw names arrows x))) := by
  have w0 : Wst names arrows x none [x] [x] := ⟨⟨by simp, fun y hy => by simp at hy; subst hy; exact hx, fun y hy => by simp at hy; subst hy; exact .refl, by simp⟩, by simp, fun y hy => hy, fun y hy hn => absurd hy hn⟩
  obtain ⟨fs, p5, p6, p7, f1, w⟩ := along_while N hd 20 [x] [x] none none none w0 (by have := N.le; simp; omega)
  have hcl : Closed arrows fs := fun p hp h1 => by
    rcases w.ex p.1 h1 (by simp) with q | q
    · cases q
    · exact q p hp rfl
  unfold m_names_along b_names_along
  rw [fnN3]
  rw [seq_ok (e' := [some (.d (nmD names)), some (.d (arD arrows)), some (.d (.str x)), some (dkS [x]), none, none, none, none]) rfl]
  rw [seq_ok (e' := [some (.d (nmD names)), some (.d (arD arrows)), some (.d (.str x)), some (dkS [x]), some (.d (strL [x])), none, none, none]) (set_ok (lst1 rfl))]
  rw [seq_ok (show sWhile 20 (cTru (mV 4)) alBody _ = _ from f1)]
  have hc : compD (.n 1) (cB (mDIn 0 (mV 1))) (mV 1) [some (dkS fs), none] (names.map D.str) = .ok ((names.filter (rch arrows x)).map D.str) :=
    comp_map D.str D.str _ names fun y _ => ⟨[some (dkS fs), some (.d (.str y))], rfl, cB_ok ((din_S rfl rfl).trans (by rw [mem_rch (w.g.iff hcl)])), fun _ => rfl⟩
  rw [ret_ok (wD_ok (comp_ok (iOf_ok (x := nmD names) rfl rfl) (by rw [List.length_map]; have := N.le; omega) hc))]
  rfl
theorem below_ok {names : List Str} {arrows : List Ar} (N : Net names arrows) (hd : ∀ p ∈ arrows, p.2 ∈ names) {x : Str} (hx : x ∈ names) : m_names_below [.d (netD names arrows), .d (.str x)] = .ok (.d (strL (belw names arrows x))) := by
  unfold m_names_below b_names_below
  rw [fnN2]
  have hr : m_refuse_strangers [.d (nmD names), .d (strL [x])] = .ok (.d .non) := refuse_ok fun y hy => by simp at hy; subst hy; exact hx
  rw [seq_ok (e' := [some (.d (netD names arrows)), some (.d (.str x))]) (by unfold sDrop; rw [call2 (wD_ok (m2_ok rfl rfl (ix0 _ _))) (wD_ok (lst1 rfl)) hr]; rfl)]
  rw [ret_ok (wD_ok (call3 (wD_ok (m2_ok rfl rfl (ix0 _ _))) (wD_ok (m2_ok rfl rfl (ix1 _ _))) rfl (along_ok N hd hx)))]
  rfl
noncomputable def hb (names : List Str) (arrows : List Ar) (held : List Str) (x : Str) : Bool := (belw names arrows x).any fun y => decide (y ∈ held)
end Mr
set_option linter.all false
set_option maxRecDepth 10000
namespace Mr
open PySem Mi
abbrev Tr3 := Str × Str × Str
def mt (arrows : List Ar) (t : Tr3) : Bool := decide ((t.1, t.2.1) ∈ arrows) && decide ((t.2.2, t.2.1) ∈ arrows)
end Mr
set_option linter.all false
set_option maxRecDepth 10000
namespace Mr
open PySem Mi
end Mr
set_option linter.all false
set_option maxRecDepth 10000
namespace Mr
open PySem Mi
end Mr
set_option linter.all false
set_option maxRecDepth 10000
namespace Mr
open PySem Mi
end Mr
set_option linter.all false
set_option maxRecDepth 10000
namespace Mr
open PySem Mi
end Mr
set_option linter.all false
set_option maxRecDepth 10000
namespace Mr
open PySem Mi
end Mr
set_option linter.all false
set_option maxRecDepth 10000
namespace Mr
open PySem Mi
def sw (t : Tr3) : Tr3 := (t.2.2, t.2.1, t.1)
theorem alike_str (n : Nat) (x : Str) : m_l_alike (n + 1) [.d (.str x), .d (.str x)] = .ok (.d (.bl true)) := by
  show fnM 2 4 (b_l_alike (m_l_alike n)) _ = _
  unfold b_l_alike
  rw [fnM2]
  have c0 : cOr (cB (m1 (bIs ["str"]) (mV 1))) (cB (m1 (bIs ["int"]) (mV 1))) [some (.d (.str x)), some (.d (.str x)), none, none] = .ok true := rfl
  have c1 : cOr (cB (m2 dNe (m1 (bIs ["bool"]) (mV 0)) (m1 (bIs ["bool"]) (mV 1)))) (cB (m2 dNe (m1 (bIs ["str"]) (mV 0)) (m1 (bIs ["str"]) (mV 1)))) [some (.d (.str x)), some (.d (.str x)), none, none] = .ok false := rfl
  have c2 : mAnd (m1 (bIs ["int", "str"]) (mV 0)) (m2 dEq (mV 0) (mV 1)) [some (.d (.str x)), some (.d (.str x)), none, none] = .ok (.bl true) := by
    show m2 dEq (mV 0) (mV 1) [some (.d (.str x)), some (.d (.str x)), none, none] = _
    exact (m2_ok rfl rfl rfl).trans ((dEq_str x x).trans (by rw [decide_eq_true rfl]))
  exact (congrArg (fun r => Rs.bind r fnOut) (seq_rt ((if_tt c0).trans ((seq_ok ((if_ff c1).trans rfl)).trans (ret_ok (wD_ok c2)))))).trans rfl
def pr2 (x : Str) : D := .tup [.str x, .str x]
theorem zip_same : ∀ xs : List Str, dZip2 (xs.map D.str) (xs.map D.str) = xs.map pr2
  | [] => rfl
  | x :: r => by rw [List.map_cons, dZip2, zip_same r]; rfl
theorem alike_strs (n : Nat) (xs : List Str) : m_l_alike (n + 2) [.d (strL xs), .d (strL xs)] = .ok (.d (.bl true)) := by
  show fnM 2 4 (b_l_alike (m_l_alike (n + 1))) _ = _
  unfold b_l_alike
  rw [fnM2]
  have c0 : cOr (cB (m1 (bIs ["str"]) (mV 1))) (cB (m1 (bIs ["int"]) (mV 1))) [some (.d (strL xs)), some (.d (strL xs)), none, none] = .ok false := rfl
  have c1 : cOr (cB (m2 dNe (m1 (bIs ["list"]) (mV 0)) (m1 (bIs ["list"]) (mV 1)))) (cNot (cB (m1 (bIs ["list", "tuple"]) (mV 0)))) [some (.d (strL xs)), some (.d (strL xs)), none, none] = .ok false := rfl
  have c2 : cB (m2 dNe (mN bLen [(mV 0)]) (mN bLen [(mV 1)])) [some (.d (strL xs)), some (.d (strL xs)), none, none] = .ok false :=
    cB_ok ((m2_ok rfl rfl rfl).trans ((dNe_int _ _).trans (by rw [decide_eq_true rfl]; rfl)))
  obtain ⟨e', f1, o2, o3, he⟩ := for_inv (tg := .t [2, 3]) (body := (sIf (cNot (cB (mCall (m_l_alike (n + 1)) [(wD (mV 2)), (wD (mV 3))]))) (sRet (wD (mC (.bl false)))) sNext))
    (fun i e => ∃ o2 o3 : Option W, e = [some (.d (strL xs)), some (.d (strL xs)), o2, o3]) (xs.map pr2) 0 (fun i d e hi ⟨o2, o3, he⟩ => by
      subst he
      rw [List.getElem?_map] at hi
      obtain ⟨x, hx, rfl⟩ := Option.map_eq_some_iff.mp hi
      have ct : cNot (cB (mCall (m_l_alike (n + 1)) [(wD (mV 2)), (wD (mV 3))])) [some (.d (strL xs)), some (.d (strL xs)), some (.d (.str x)), some (.d (.str x))] = .ok false := by
        unfold cNot; rw [cB_ok (call2 rfl rfl (alike_str n x))]; rfl
      exact ⟨[some (.d (strL xs)), some (.d (strL xs)), some (.d (.str x)), some (.d (.str x))], _, rfl, (if_ff ct).trans rfl, _, _, rfl⟩) [some (.d (strL xs)), some (.d (strL xs)), none, none] ⟨none, none, rfl⟩
  subst he
  have hit : iZip2q (mV 0) (mV 1) [some (.d (strL xs)), some (.d (strL xs)), none, none] = .ok (xs.map pr2) := by rw [← zip_same]; rfl
  exact (congrArg (fun r => Rs.bind r fnOut) ((seq_ok ((if_ff c0).trans rfl)).trans ((seq_ok ((if_ff c1).trans rfl)).trans ((seq_ok ((if_ff c2).trans rfl)).trans ((seq_ok ((for_ok hit).trans f1)).trans (ret_ok (wD_ok rfl))))))).trans rfl
theorem not_ff {a : E} {e : Mi.Env} (h : a e = .ok (.bl true)) : cNot (cB a) e = .ok false := by unfold cNot; rw [cB_ok h]; rfl
end Mr
set_option linter.all false
set_option maxRecDepth 10000
namespace Mr
open PySem Mi
theorem cAnd_ok {a b : C} {e : Mi.Env} {p q : Bool} (ha : a e = .ok p) (hb : p = true → b e = .ok q) : cAnd a b e = .ok (p && q) := by
  unfold cAnd; rw [ha, bind_ok]
  cases p with
  | true => rw [if_pos rfl, hb rfl]; rfl
  | false => rfl
theorem cOr_ok {a b : C} {e : Mi.Env} {p q : Bool} (ha : a e = .ok p) (hb : p = false → b e = .ok q) : cOr a b e = .ok (p || q) := by
  unfold cOr; rw [ha, bind_ok]
  cases p with
  | true => rfl
  | false => rw [if_neg Bool.false_ne_true, hb rfl]; rfl
theorem mAnd_ok {a b : E} {e : Mi.Env} {p q : Bool} (ha : a e = .ok (.bl p)) (hb : p = true → b e = .ok (.bl q)) : mAnd a b e = .ok (.bl (p && q)) := by
  unfold mAnd; rw [ha, bind_ok, asB_b, bind_ok]
  cases p with
  | true => rw [if_pos rfl, hb rfl]; rfl
  | false => rfl
theorem slf_ok {f : D → Option Int → Option Int → Rs D} {a b : E} {e : Mi.Env} {x : D} {i : Int} (h : a e = .ok x) (h' : b e = .ok (.int i)) : mSlF f a (some b) none e = f x (some i) none := by unfold mSlF; rw [h, bind_ok, show mPart (some b) e = .ok (some i) from by rw [mPart, h']; rfl]; rfl
theorem slu_ok {f : D → Option Int → Option Int → Rs D} {a b : E} {e : Mi.Env} {x : D} {i : Int} (h : a e = .ok x) (h' : b e = .ok (.int i)) : mSlF f a none (some b) e = f x none (some i) := by unfold mSlF; rw [h, bind_ok, show mPart (some b) e = .ok (some i) from by rw [mPart, h']; rfl]; rfl
end Mr
set_option linter.all false
set_option maxRecDepth 10000
namespace Mr
open PySem Mi
end Mr
set_option linter.all false
set_option maxRecDepth 10000
namespace Mr
open PySem Mi
def srt (names : List Str) (arrows : List Ar) : List Ar := names.flatMap fun t => (names.filter fun h => decide ((t, h) ∈ arrows)).map fun h => (t, h)
end Mr
set_option linter.all false
set_option maxRecDepth 10000
namespace Mr
open PySem Mi
def sq (k : Bool) (ds : List D) : D := if k then .lst ds else .tup ds
end Mr
set_option linter.all false
set_option maxRecDepth 10000
namespace Mr
open PySem Mi
section
variable {α : Type} (key : α → List Int)
end
def ky (names row : List Str) : List Int := row.map fun x => ((names.idxOf x : Nat) : Int)
end Mr
set_option linter.all false
set_option maxRecDepth 10000
namespace Mr
open PySem Mi
def tr (t : Tr3) : List Str := [t.1, t.2.1, t.2.2]
end Mr
set_option linter.all false
set_option maxRecDepth 10000
namespace Mr
open PySem Mi
end Mr
set_option linter.all false
set_option maxRecDepth 10000
namespace Mr
open PySem Mi
open My (words Word words_word)
def both (xs : List Ar) : List Ar := xs.flatMap fun p => [p, (p.2, p.1)]
end Mr
set_option linter.all false
set_option maxRecDepth 10000
namespace Mr
open PySem Mi
open My (words Word words_word)
end Mr
set_option linter.all false
set_option maxRecDepth 10000
namespace Mr
open PySem Mi
def Sh (x : Str) : Prop := x.length ≤ 100 ∧ ∀ c ∈ x.cps.toList, c < 128
theorem Sh.rep {x : Str} (h : Sh x) : (PySem.reprText x).length ≤ 100000 := by
  have h1 := PySem.StrLaws.reprText_len x fun c hc => Nat.lt_trans (h.2 c hc) (by decide)
  have h2 := h.1
  omega
theorem cP_ok {c : C} {e : Mi.Env} {b : Bool} (h : c e = .ok b) : cP c e = .ok b := still_ok h
theorem iP_ok {m : I} {e : Mi.Env} {o : List D} (h : m e = .ok o) : iP m e = .ok o := still_ok h
theorem raise_ok {c : String} {gs : List (Mi.Env → Bool)} {e : Mi.Env} (h : (gs.all fun g => g e) = true) : sRaise c gs e = .ex ⟨c, []⟩ := if_pos h
theorem seq_ex {s t : S} {e : Mi.Env} {z : Exn} (h : s e = .ex z) : sSeq s t e = .ex z := by unfold sSeq; rw [h]; rfl
theorem callX2_ex {f : Fn} {a b : EW} {e : Mi.Env} {x y : W} {z : Exn} (h : a e = .ok x) (h' : b e = .ok y) (hf : f [x, y] = .ex z) : sCallX f [a, b] e = .ex z := by
  unfold sCallX
  rw [mArgsW, h, bind_ok, mArgsW, h', bind_ok, mArgsW, bind_ok]
  show ((f [x, y]).bind fun _ => _) = _
  rw [hf]; rfl
theorem gR_ok {i : Nat} {e : Mi.Env} {x : Str} (h : e[i]? = some (some (.d (.str x)))) (s : Sh x) : gR i e = true := by
  unfold gR
  rw [h]
  exact decide_eq_true s.rep
abbrev xNo : Exn := ⟨"NoName", []⟩
theorem xrefuse {names asked : List Str} (h : ∃ x ∈ asked, x ∉ names) (hs : ∀ x ∈ asked, Sh x) : mX_refuse_strangers [.d (nmD names), .d (strL asked)] = .ex xNo := by
  unfold mX_refuse_strangers bX_refuse_strangers
  rw [fnM2]
  rw [show ([some (W.d (nmD names)), some (W.d (strL asked))] ++ List.replicate (3 - 2) none) = [some (W.d (nmD names)), some (W.d (strL asked)), none] from rfl]
  have key : ∀ (l : List Str) (o : Option W), (∃ x ∈ l, x ∉ names) → (∀ x ∈ l, Sh x) → forD (.n 2) (sIf (cP (cB (m2 dNotIn (mV 2) (mV 0)))) (sRaise "NoName" [(gR 2), (fun _ => true)]) (sP sNext)) (l.map D.str) [some (W.d (nmD names)), some (W.d (strL asked)), o] = .ex xNo := by
    intro l
    induction l with
    | nil => intro o hx; obtain ⟨x, hx, _⟩ := hx; exact nomatch hx
    | cons a r ih =>
      intro o hx hsh
      rw [List.map_cons, forD]
      show (Rs.bind (sIf _ _ _ [some (W.d (nmD names)), some (W.d (strL asked)), some (.d (.str a))]) _) = _
      have ct : cP (cB (m2 dNotIn (mV 2) (mV 0))) [some (W.d (nmD names)), some (W.d (strL asked)), some (.d (.str a))] = .ok (!decide (a ∈ names)) := cP_ok (cB_ok (m2_ok rfl rfl (dNotInT_str names a)))
      by_cases ha : a ∈ names
      · rw [decide_eq_true ha] at ct
        rw [if_ff ct]
        obtain ⟨x, hx, hn⟩ := hx
        rcases List.mem_cons.mp hx with rfl | hx
        · exact absurd ha hn
        · exact ih _ ⟨x, hx, hn⟩ fun y hy => hsh y (List.mem_cons_of_mem _ hy)
      · rw [decide_eq_false ha] at ct
        rw [if_tt ct, raise_ok (by
          show (gR 2 [some (W.d (nmD names)), some (W.d (strL asked)), some (.d (.str a))] && (true && true)) = true
          rw [gR_ok rfl (hsh a (List.mem_cons_self ..))]; rfl)]
        rfl
  rw [for_ok (iP_ok (iOf_ok (a := mV 1) (x := strL asked) rfl rfl)), key asked none h hs]
  rfl
abbrev nn : D := .lst [.str "NoName"]
theorem try_ex {i : Nat} {cs : List String} {b h : S} {e : Mi.Env} {z : Exn} {o : Out} (hb : b e = .ex z) (hc : z.cls ∈ cs) (hh : h (e.set i (some (.ex z.cls))) = .ok o) : sTry i cs b h e = .ok (offI i o) := by
  unfold sTry
  rw [hb]
  show guardR _ _ = _
  rw [guardR_pos hc, hh]; rfl
theorem kinds_nn : m_l_kinds [.ex "NoName"] = .ok (.d nn) := by rfl
def ltr5 : Str := "zqxjkvbpygfwmucldrhsnioate"
theorem ltr5_len : ltr5.length = 26 := by decide +kernel
theorem ltr5_low : ∀ c ∈ ltr5.cps.toList, c < 128 := by decide +kernel
def one1 (c : Nat) : Str := ⟨#[c]⟩
def ltrs5 : List Str := ltr5.cps.toList.map one1
theorem ltrs5_len : ltrs5.length = 26 := by decide +kernel
theorem ltrs5_nd : ltrs5.Nodup := by decide +kernel
theorem ltrs5_ne : ∀ x ∈ ltrs5, x ≠ Str.empty := by decide +kernel
theorem one1_sh {c : Nat} (h : c < 128) : Sh (one1 c) := ⟨by show 1 ≤ 100; omega, fun d hd => by
  have : d ∈ [c] := hd
  rw [List.mem_singleton.mp this]; exact h⟩
theorem ltrs5_sh : ∀ x ∈ ltrs5, Sh x := fun x hx => by
  obtain ⟨c, hc, rfl⟩ := List.mem_map.mp hx
  exact one1_sh (ltr5_low c hc)
theorem Sh.cat {x y : Str} {k : Nat} (hx : x.length ≤ 50) (hy : y.length ≤ 50) (ax : ∀ c ∈ x.cps.toList, c < 128) (ay : ∀ c ∈ y.cps.toList, c < 128) : Sh (x ++ y) := by
  have e : (x ++ y).cps.toList = x.cps.toList ++ y.cps.toList := by show (x.cps ++ y.cps).toList = _; rw [Array.toList_append]
  refine ⟨?_, fun c hc => ?_⟩
  · show (x ++ y).cps.size ≤ 100
    rw [← Array.length_toList, e, List.length_append, Array.length_toList, Array.length_toList]
    have h1 : x.cps.size ≤ 50 := hx
    have h2 : y.cps.size ≤ 50 := hy
    omega
  · rw [e] at hc
    rcases List.mem_append.mp hc with h | h
    · exact ax c h
    · exact ay c h
theorem cutL_len {α : Type} (xs : List α) (lo hi : Option Int) : (cutL xs lo hi).length ≤ xs.length := by
  unfold cutL
  rw [List.length_take, List.length_drop]; omega
theorem cutL_mem {α : Type} {xs : List α} {lo hi : Option Int} {x : α} (h : x ∈ cutL xs lo hi) : x ∈ xs := List.mem_of_mem_drop (List.mem_of_mem_take h)
theorem Sh.cut {x : Str} (h : Sh x) (lo hi : Option Int) : Sh (cutStr x lo hi) := by
  refine ⟨?_, fun c hc => h.2 c (cutL_mem (show c ∈ cutL x.cps.toList lo hi from hc))⟩
  show (cutL x.cps.toList lo hi).toArray.size ≤ 100
  rw [List.size_toArray]
  have h1 := cutL_len x.cps.toList lo hi
  have h3 : x.cps.toList.length = x.cps.size := Array.length_toList
  have h2 : x.cps.size ≤ 100 := h.1
  omega
theorem up_low : ∀ c, c < 128 → ∀ d ∈ Unicode.upperOf c, d < 128 := by decide +kernel
theorem Sh.up {x : Str} (h : x.length ≤ 30) (a : ∀ c ∈ x.cps.toList, c < 128) : Sh (upS x) := by
  have hl : (upS x).length ≤ 3 * x.length := PyProof.Rows.len_upper x
  refine ⟨by omega, fun c hc => ?_⟩
  have hc : c ∈ (PySem.placed x fun _ c => Unicode.upperOf c).toList := hc
  unfold PySem.placed at hc
  rw [Array.mem_toList_iff, Array.mem_flatten] at hc
  obtain ⟨b, hb, hcb⟩ := hc
  obtain ⟨i, hi, rfl⟩ := Array.mem_mapIdx.mp hb
  exact up_low _ (a _ (by rw [Array.mem_toList_iff]; exact Array.getElem_mem hi)) c (by simpa using hcb)
end Mr
set_option linter.all false
set_option maxRecDepth 10000
namespace Mr
open PySem Mi
open My (words Word words_word)
theorem n5_lst {a b c d g : E} {e : Mi.Env} {x y z u v : D} (h1 : a e = .ok x) (h2 : b e = .ok y) (h3 : c e = .ok z) (h4 : d e = .ok u) (h5 : g e = .ok v) : mN dLst [a, b, c, d, g] e = .ok (.lst [x, y, z, u, v]) := by
  unfold mN
  rw [mArgs, h1, bind_ok, mArgs, h2, bind_ok, mArgs, h3, bind_ok, mArgs, h4, bind_ok, mArgs, h5, bind_ok]; rfl
theorem m1_ok {f : D → Rs D} {a : E} {e : Mi.Env} {x : D} (h : a e = .ok x) : m1 f a e = f x := by unfold m1; rw [h]; rfl
theorem ix_ltr5 {i : Int} (h0 : 0 ≤ i) (h1 : i < 26) : ∃ c, c < 128 ∧ dIx (.str ltr5) (.int i) = .ok (.str (one1 c)) := by
  have hl : (ltr5.cps.toList.length : Int) = 26 := by
    have := ltr5_len
    rw [Array.length_toList]
    exact congrArg Int.ofNat this
  have hi : i < (ltr5.cps.toList.length : Int) := by rw [hl]; exact h1
  have ha := at_ok (xs := ltr5.cps.toList) h0 hi 0
  refine ⟨ltr5.cps.toList.getD i.toNat 0, ltr5_low _ ?_, ?_⟩
  · have hn : i.toNat < ltr5.cps.toList.length := by omega
    rw [List.getD_eq_getElem?_getD, List.getElem?_eq_getElem hn]
    exact List.getElem_mem hn
  · show guardR _ _ = _
    rw [guardR_pos (by rw [ltr5_len]; decide), ha]; rfl
theorem stranger_ok {names : List Str} (hp : 1 ≤ names.length) (h8 : names.length ≤ 8) (hs : ∀ x ∈ names, x.length ≤ 8 ∧ ∀ c ∈ x.cps.toList, c < 128) (d : Int) : ∃ x, m_l_stranger [.d (strL names), .d (.int d)] = .ok (.d (.str x)) ∧ x ∉ names ∧ Sh x := by
  have q0 := Int.emod_nonneg d (b := (names.length : Int)) (by omega)
  have q1 := Int.emod_lt_of_pos d (b := (names.length : Int)) (by omega)
  have hone := ix_strs (cs := names) q0 q1
  obtain ⟨one, e1⟩ : ∃ one, one = names.getD (d % (names.length : Int)).toNat Str.empty := ⟨_, rfl⟩
  have mo1 : one ∈ names := by rw [e1]; exact nth_mem (by omega)
  rw [← e1] at hone
  obtain ⟨l1, a1⟩ := hs one mo1
  have s1 : Sh one := ⟨by omega, a1⟩
  obtain ⟨ca, va, xa⟩ := ix_ltr5 (Int.emod_nonneg (d / 8) (b := 26) (by decide)) (Int.emod_lt_of_pos (d / 8) (b := 26) (by decide))
  obtain ⟨cb, vb, xb⟩ := ix_ltr5 (Int.emod_nonneg (d / 5) (b := 26) (by decide)) (Int.emod_lt_of_pos (d / 5) (b := 26) (by decide))
  have pa := (one1_sh va).2
  have pb := (one1_sh vb).2
  have l1' : one.length ≤ 50 := by omega
  have o50 : ∀ c, (one1 c).length ≤ 50 := fun c => by show 1 ≤ 50; omega
  obtain ⟨ts, ets⟩ : ∃ ts : List Str, ts = [one ++ one1 ca, cutStr one (some 1) none, cutStr one none (some (-1)), one1 cb ++ one, upS one] := ⟨_, rfl⟩
  have tsh : ∀ x ∈ ts, Sh x := fun x hx => by
    rw [ets] at hx
    simp only [List.mem_cons, List.not_mem_nil, or_false] at hx
    rcases hx with rfl | rfl | rfl | rfl | rfl
    · exact Sh.cat (k := 0) l1' (o50 _) a1 pa
    · exact s1.cut _ _
    · exact s1.cut _ _
    · exact Sh.cat (k := 0) (o50 _) l1' pb a1
    · exact Sh.up (by omega) a1
  have ts5 : ts.length = 5 := by rw [ets]; rfl
  obtain ⟨fs, efs⟩ : ∃ fs : List Str, fs = (ts ++ ltrs5).filter fun t => !decide (t ∈ names) && !decide (t = ("" : Str)) := ⟨_, rfl⟩
  have fin : ∀ x ∈ fs, x ∉ names ∧ Sh x := fun x hx => by
    rw [efs] at hx
    obtain ⟨h1, h2⟩ := List.mem_filter.mp hx
    rw [Bool.and_eq_true, Bool.not_eq_true', Bool.not_eq_true'] at h2
    refine ⟨of_decide_eq_false h2.1, ?_⟩
    rcases List.mem_append.mp h1 with h | h
    · exact tsh x h
    · exact ltrs5_sh x h
  have fpos : 1 ≤ fs.length := by
    rcases Nat.eq_zero_or_pos fs.length with h | h
    · exfalso
      have all : ∀ x ∈ ltrs5, x ∈ names := fun x hx => by
        by_cases hn : x ∈ names
        · exact hn
        · have : x ∈ fs := by
            rw [efs]
            refine List.mem_filter.mpr ⟨List.mem_append_right _ hx, ?_⟩
            rw [decide_eq_false hn, decide_eq_false (show x ≠ ("" : Str) from ltrs5_ne x hx)]; rfl
          rw [List.length_eq_zero_iff.mp h] at this
          exact nomatch this
      have := nodup_sub_len ltrs5_nd all
      rw [ltrs5_len] at this; omega
    · exact h
  have flen : fs.length ≤ 31 := by
    rw [efs]
    refine Nat.le_trans (List.length_filter_le _ _) ?_
    rw [List.length_append, ts5, ltrs5_len]; decide
  have mpos : 0 < min (5 : Int) (fs.length : Int) := by omega
  have z0 := Int.emod_nonneg (d / 3) (b := min (5 : Int) (fs.length : Int)) (by omega)
  have z1 := Int.emod_lt_of_pos (d / 3) (b := min (5 : Int) (fs.length : Int)) (by omega)
  have zix := ix_strs (cs := fs) z0 (by omega)
  have zm : fs.getD (d / 3 % min (5 : Int) (fs.length : Int)).toNat Str.empty ∈ fs := nth_mem (by omega)
  refine ⟨fs.getD (d / 3 % min (5 : Int) (fs.length : Int)).toNat Str.empty, ?_, (fin _ zm).1, (fin _ zm).2⟩
  unfold m_l_stranger b_l_stranger
  rw [fnM2]
  rw [show ([some (W.d (strL names)), some (W.d (.int d))] ++ List.replicate (5 - 2) none) = [some (W.d (strL names)), some (W.d (.int d)), none, none, none] from rfl]
  have hlen : ∀ e : Mi.Env, mV 0 e = .ok (strL names) → mN bLen [(mV 0)] e = .ok (.int (names.length : Int)) := fun e h => (n1_ok h).trans (by unfold strL; rw [len_l, List.length_map])
  rw [seq_ok (e' := [some (W.d (strL names)), some (W.d (.int d)), some (W.d (.str one)), none, none]) (set_ok (m2_ok rfl (m2_ok rfl (hlen _ rfl) ((mod_ii _ _).trans (guardR_pos (by omega)))) hone))]
  rw [seq_ok (e' := [some (W.d (strL names)), some (W.d (.int d)), some (W.d (.str one)), some (W.d (.str ltr5)), none]) (set_ok rfl)]
  have dv : ∀ (k : Int) (e : Mi.Env), 0 < k → k < 2 ^ 64 → mV 1 e = .ok (.int d) → m2 dMod (m2 dDiv (mV 1) (mC (.int k))) (mC (.int 26)) e = .ok (.int (d / k % 26)) := fun k e k0 k1 h => m2_ok (m2_ok h rfl ((div_ii _ _).trans (guardR_pos (okDiv_small k0 k1)))) rfl ((mod_ii _ _).trans (guardR_pos (by decide)))
  have five := n5_lst (e := [some (W.d (strL names)), some (W.d (.int d)), some (W.d (.str one)), some (W.d (.str ltr5)), none])
    (m2_ok (a := mV 2) (b := m2 dIx (mV 3) (m2 dMod (m2 dDiv (mV 1) (mC (.int 8))) (mC (.int 26)))) rfl (m2_ok rfl (dv 8 _ (by decide) (by decide) rfl) xa) ((add_ss _ _).trans (guardR_pos (by have := o50 ca; omega))))
    ((slf_ok (f := dSl) (a := mV 2) (b := mC (.int 1)) rfl rfl).trans ((sl_s _ _ _).trans (guardR_pos (by omega))))
    ((slu_ok (f := dSl) (a := mV 2) (b := m1 dNeg (mC (.int 1))) rfl rfl).trans ((sl_s _ _ _).trans (guardR_pos (by omega))))
    (m2_ok (a := m2 dIx (mV 3) (m2 dMod (m2 dDiv (mV 1) (mC (.int 5))) (mC (.int 26)))) (b := mV 2) (m2_ok rfl (dv 5 _ (by decide) (by decide) rfl) xb) rfl ((add_ss _ _).trans (guardR_pos (by have := o50 cb; omega))))
    ((m1_ok (f := dUpper) (a := mV 2) (x := .str one) rfl).trans (guardR_pos (by have : (upS one).length ≤ 3 * one.length := PyProof.Rows.len_upper one; omega)))
  rw [show ([D.str (one ++ one1 ca), .str (cutStr one (some 1) none), .str (cutStr one none (some (-1))), .str (one1 cb ++ one), .str (upS one)] : List D) = ts.map D.str from by rw [ets]; rfl] at five
  rw [seq_ok (e' := [some (W.d (strL names)), some (W.d (.int d)), some (W.d (.str one)), some (W.d (.str ltr5)), some (W.d (strL ts))]) (set_ok five)]
  have cl : compD (.n 0) cYes (mV 0) [none] (ltrs5.map D.str) = .ok ((ltrs5.filter fun _ => true).map D.str) := comp_map D.str D.str (fun _ => true) _ fun t _ => ⟨[some (.d (.str t))], rfl, rfl, fun _ => rfl⟩
  rw [List.filter_eq_self.mpr (fun _ _ => rfl)] at cl
  have hl5 := comp_ok (ρ := [none]) (e := [some (W.d (strL names)), some (W.d (.int d)), some (W.d (.str one)), some (W.d (.str ltr5)), some (W.d (strL ts))]) (it := iOf (mV 3)) (xs := ltrs5.map D.str) (iOf_ok (a := mV 3) (x := .str ltr5) rfl (by show Rs.ok _ = _; unfold ltrs5; rw [List.map_map]; rfl)) (by rw [List.length_map, ltrs5_len]; decide) cl
  rw [seq_ok (e' := [some (W.d (strL names)), some (W.d (.int d)), some (W.d (.str one)), some (W.d (.str ltr5)), some (W.d (strL (ts ++ ltrs5)))])
    (set_ok (m2_ok (x := strL ts) rfl hl5 ((add_ll _ _).trans ((guardR_pos (by rw [List.length_map, List.length_map, ts5, ltrs5_len]; decide)).trans (by unfold strL; rw [List.map_append])))))]
  have cf : compD (.n 1) (cAnd (cB (m2 dNotIn (mV 1) (mV 0))) (cB (m2 dNe (mV 1) (mC (.str ""))))) (mV 1) [some (.d (strL names)), none] ((ts ++ ltrs5).map D.str) = .ok (((ts ++ ltrs5).filter fun t => !decide (t ∈ names) && !decide (t = ("" : Str))).map D.str) :=
    comp_map D.str D.str _ _ fun t _ => ⟨[some (.d (strL names)), some (.d (.str t))], rfl, cAnd_ok (cB_ok (m2_ok rfl rfl (dNotIn_str names t))) fun _ => cB_ok (m2_ok rfl rfl (dNe_str t "")), fun _ => rfl⟩
  rw [← efs] at cf
  rw [seq_ok (e' := [some (W.d (strL names)), some (W.d (.int d)), some (W.d (.str one)), some (W.d (.str ltr5)), some (W.d (strL fs))])
    (set_ok (comp_ok (ρ := [some 0, none]) (iOf_ok (a := mV 4) (x := strL (ts ++ ltrs5)) rfl rfl) (by rw [List.length_map, List.length_append, ts5, ltrs5_len]; decide) cf))]
  have hln : ∀ e : Mi.Env, mV 4 e = .ok (strL fs) → mN bMin [(mC (.int 5)), (mN bLen [(mV 4)])] e = .ok (.int (min (5 : Int) (fs.length : Int))) := fun e h => (n2_ok rfl ((n1_ok h).trans (by unfold strL; rw [len_l, List.length_map]))).trans (min_ii _ _)
  rw [ret_ok (wD_ok (m2_ok (x := strL fs) rfl (m2_ok (m2_ok rfl rfl ((div_ii _ _).trans (guardR_pos (okDiv_small (by decide) (by decide))))) (hln _ rfl) ((mod_ii _ _).trans (guardR_pos mpos))) zix))]
  rfl
theorem dEq_nn : dEq nn nn = .ok (.bl true) := by rfl
end Mr
set_option Elab.async false
set_option linter.all false
set_option maxRecDepth 100000
set_option maxHeartbeats 1000000
namespace Mi
open PySem
def sDPutN (i : Nat) (k v : E) : S := fun e => (v e).bind fun x => match x with
  | .lst ds => guardR (imms ds = true) ((k e).bind fun d => (wV i e).bind fun w => (dPut w d x).bind fun w' => .ok (.nx (e.set i (some w'))))
  | _ => .no
def sBag (i j : Nat) (m : S) : S := fun e => match e[i]?, e[j]? with
  | some (some (.dk [])), some (some (.dk [])) => sTail m e
  | _, _ => .no
def sUnp (i j : Nat) (r : List Ky → List Ky → S) : S := fun e => match e[i]?, e[j]? with
  | some (some (.dk k1)), some (some (.dk k2)) => sTail (r (k1.map (·.1)) (k2.map (·.1))) ((e.set i none).set j none)
  | _, _ => .no
def sKClr (ks : List Ky) (k : E) : S := fun e => (k e).bind fun d => (ofO (dKey d)).bind fun y => guardR ((ks.any fun z => decide (z = y)) = true) (.ok (.nx e))
end Mi
namespace A
open PySem L2 PyProof.Rows So
open Mi (D W Rs Fin fin_bind Out Tg)
open Zp (Ho' grow_back)
variable [Tb : Tabs]
abbrev F0 : Nat → Bool := fun _ => false
structure Good (H0 Hv0 : Hp) (Rl : Mi.Env → L2.St → Hp → Hp → Prop) : Prop where
  vw : ∀ {e σ H Ho}, Rl e σ H Ho → Vw H Ho
  sh : ∀ {e σ H Ho}, Rl e σ H Ho → ∃ Hs, R0 F0 e σ H Hs
  gr : ∀ {e σ H Ho H1 Ho1}, Rl e σ H Ho → Grow H Ho H1 Ho1 → Rl e σ H1 Ho1
  gw : ∀ {e σ H Ho}, Rl e σ H Ho → Grow H0 Hv0 H Ho
def OutL (H0 Hv0 : Hp) (Rl : Mi.Env → L2.St → Hp → Hp → Prop) (D : Ends) (Ho : Hp) : Out → Prop
  | .nx e => ∀ σ H' Ho', Rl e σ H' Ho' → Same Ho Ho' → D.nx σ H'
  | .rt w => ∀ v H' Hv', Grow H0 Hv0 H' Hv' → qV H0 H' Hv' w v → D.rt v H'
  | .bk e => ∀ σ H' Ho', Rl e σ H' Ho' → Same Ho Ho' → D.bk σ H'
  | .ct e => ∀ σ H' Ho', Rl e σ H' Ho' → Same Ho Ho' → D.ct σ H'
theorem OutL.up {H0 Hv0 : Hp} {Rl : Mi.Env → L2.St → Hp → Hp → Prop} {D : Ends} {Ho Ho1 : Hp} (s : Same Ho Ho1) {o : Out} (z : OutL H0 Hv0 Rl D Ho o) : OutL H0 Hv0 Rl D Ho1 o := by
  cases o with
  | nx e2 => exact fun σ2 H2 Hv2 I2 s2 => z σ2 H2 Hv2 I2 (s.trans s2)
  | rt w => exact z
  | bk e2 => exact fun σ2 H2 Hv2 I2 s2 => z σ2 H2 Hv2 I2 (s.trans s2)
  | ct e2 => exact fun σ2 H2 Hv2 I2 s2 => z σ2 H2 Hv2 I2 (s.trans s2)
def LS (H0 Hv0 : Hp) (Rl : Mi.Env → L2.St → Hp → Hp → Prop) (t : TS) (m : Mi.S) : Prop := ∀ e σ H Ho D, Rl e σ H Ho → Fin (m e) (OutL H0 Hv0 Rl D Ho) → t D σ H
section
variable {H0 Hv0 : Hp} {Rl : Mi.Env → L2.St → Hp → Hp → Prop} {t u : TS} {m n : Mi.S}
theorem Good.bk (G : Good H0 Hv0 Rl) {e : Mi.Env} {σ : L2.St} {H Ho H1 : Hp} (r : Rl e σ H Ho) (s : Old H H1) (k : CodeOk H1) : Rl e σ H1 (Ho' H1 Ho) ∧ Same Ho (Ho' H1 Ho) :=
  have g := grow_back (G.vw r) s k
  ⟨G.gr r g, g.vis⟩
theorem ls_seq (h1 : LS H0 Hv0 Rl t m) (h2 : LS H0 Hv0 Rl u n) : LS H0 Hv0 Rl (tSeq t u) (Mi.sSeq m n) := fun e σ H Ho D r h =>
  h1 e σ H Ho _ r ((fin_bind.mp h).mono fun o ho => by
    cases o with
    | nx e2 => exact fun σ2 H2 Ho2 r2 s2 => h2 e2 σ2 H2 Ho2 D r2 (Fin.mono ho fun o z => z.up s2)
    | rt w => exact ho
    | bk e2 => exact ho
    | ct e2 => exact ho)
theorem ls_test (G : Good H0 Hv0 Rl) {tt : TT} {c : Mi.C} {b : Bool} (hc : AT F0 tt c) : LS H0 Hv0 Rl (tIfS tt (tRet (tC (.bl b))) tNext) (Mi.sIf c (Mi.sRet (Mi.wD (Mi.mC (.bl b)))) Mi.sNext) := fun e σ H Ho D r h => by
  obtain ⟨Hs, I⟩ := G.sh r
  refine hc e σ H Hs _ I ((fin_bind.mp h).mono fun x hx H1 Hv1 g1 => ?_)
  obtain ⟨r1, s1⟩ := G.bk r g1.old g1.vw.cd
  cases x with
  | true =>
    have hx : OutL H0 Hv0 Rl D Ho (.rt (.d (.bl b))) := hx
    exact iteT (hx (.bl b) H1 _ (G.gw r1) qv_bl)
  | false =>
    have hx : OutL H0 Hv0 Rl D Ho (.nx e) := hx
    exact iteF (hx σ H1 _ r1 s1)
theorem ls_for {K : PySem.W.Frag} {π : Mi.Env → Mi.Env} {wi : TI} {it : Mi.I} {tg : Tg} (G : Good H0 Hv0 Rl) (pr : ∀ {e σ H Ho}, Rl e σ H Ho → R0 F0 (π e) σ H Ho) (hit : ∀ e, it (π e) = it e) (hi : AIf F0 wi it)
    (st : ∀ k ∈ tgVars tg, ∀ e σ d v H Ho, Rl e σ H Ho → Rep Ho d v → Rl (e.set k (some (.d d))) (σ.set k (some v)) H Ho) (hb : LS H0 Hv0 Rl t m) : LS H0 Hv0 Rl (tFor wi (tgG K tg) t) (Mi.sFor it tg m) := fun e σ H Ho D r h =>
  hi (π e) σ H Ho _ (pr r) (by
    rw [hit]
    refine (fin_bind.mp h).mono fun ds h1 J H1 Hv1 P g1 O p1 per => ?_
    refine ⟨fun i k σ' H' => k = ds.length - i ∧ i ≤ ds.length ∧ ∃ e' Hv', Rl e' σ' H' Hv' ∧ P H' Hv' ∧ Fin (Mi.forD tg m (ds.drop i) e') (OutL H0 Hv0 Rl D Hv'),
      ⟨ds.length, by simp, Nat.zero_le _, e, Hv1, G.gr r g1, p1, by rw [List.drop_zero]; exact h1.mono fun o z => z.up g1.vis⟩, ?_⟩
    rintro i k σ' H' ⟨rfl, hle, e', Hv', I', pp, hf⟩
    by_cases hlt : i < ds.length
    · refine .inr ⟨O.go i H' Hv' pp (G.vw I') hlt, fun σ2 H2 => ∃ e2 Hv2, Rl e2 σ2 H2 Hv2 ∧ P H2 Hv2 ∧ Fin (Mi.forD tg m (ds.drop (i + 1)) e2) (OutL H0 Hv0 Rl D Hv2),
        fun σ2 H2 z => ⟨ds.length - (i + 1), by omega, rfl, hlt, z⟩, fun x H2 y => ?_⟩
      obtain ⟨Hv2, d, g2, hd, rx⟩ := O.yld i H' Hv' x H2 pp (G.vw I') hlt y
      have I2 := G.gr I' g2
      have hdr : ds.drop i = d :: ds.drop (i + 1) := by
        obtain ⟨hl, e1⟩ := List.getElem?_eq_some_iff.mp hd
        rw [List.drop_eq_getElem_cons hl, e1]
      rw [hdr] at hf
      refine tg_put (P := fun e1 σ1 => Rl e1 σ1 H2 Hv2) g2.vw (fun j hj e1 σ1 d1 v1 r1 z => st j hj e1 σ1 d1 v1 H2 Hv2 r1 z) I2 rx ((fin_bind.mp hf).mono fun e1 h1 σ1 I1 => ?_)
      refine hb e1 σ1 H2 Hv2 _ I1 ((fin_bind.mp h1).mono fun o ho => ?_)
      cases o with
      | nx e2 => exact fun σ2 H3 Hv3 I3 s3 => ⟨e2, Hv3, I3, per _ _ _ _ pp (g2.vis.trans s3) (G.vw I3), Fin.mono ho fun o z => z.up (g2.vis.trans s3)⟩
      | ct e2 => exact fun σ2 H3 Hv3 I3 s3 => ⟨e2, Hv3, I3, per _ _ _ _ pp (g2.vis.trans s3) (G.vw I3), Fin.mono ho fun o z => z.up (g2.vis.trans s3)⟩
      | bk e2 => exact fun σ2 H3 Hv3 I3 s3 => ho σ2 H3 Hv3 I3 (g2.vis.trans s3)
      | rt w => exact ho
    · have hi : i = ds.length := by omega
      subst hi
      refine .inl ⟨O.stop H' Hv' pp (G.vw I'), ?_⟩
      rw [List.drop_of_length_le (Nat.le_refl _)] at hf
      exact hf σ' H' Hv' I' (Same.refl _))
end
def hd2 (i j : Nat) (e : Mi.Env) : Mi.Env := (e.set i none).set j none
theorem hd2_len {i j : Nat} {e : Mi.Env} : (hd2 i j e).length = e.length := by unfold hd2; rw [List.length_set, List.length_set]
theorem hd2_ne {i j k : Nat} {e : Mi.Env} (h1 : k ≠ i) (h2 : k ≠ j) : (hd2 i j e)[k]? = e[k]? := by unfold hd2; rw [List.getElem?_set_ne (Ne.symm h2), List.getElem?_set_ne (Ne.symm h1)]
theorem hd2_no {i j k : Nat} {e : Mi.Env} {w : W} (h : (hd2 i j e)[k]? = some (some w)) : k ≠ i ∧ k ≠ j ∧ e[k]? = some (some w) := by
  unfold hd2 at h
  rcases set_get h with ⟨_, z, _⟩ | ⟨n1, h⟩
  · cases z
  · rcases set_get h with ⟨_, z, _⟩ | ⟨n2, h⟩
    · cases z
    · exact ⟨Ne.symm n2, Ne.symm n1, h⟩
def Hl (H0 Ho H : Hp) (v : V) (xs : List V) : Prop := ∃ p, v = .ref p ∧ H p = some (.lst xs) ∧ Ho p = none ∧ H0 p = none
theorem Hl.grow {H0 Ho H Ho1 H1 : Hp} {v : V} {xs : List V} (g : Grow H Ho H1 Ho1) (h : Hl H0 Ho H v xs) : Hl H0 Ho1 H1 v xs := by
  obtain ⟨p, e, q, n, z⟩ := h
  exact ⟨p, e, g.old.at q, g.hid _ _ q n, z⟩
def Bk (H0 Ho H : Hp) (x : Mi.Ky × D) (y : Key × V) : Prop := x.1 = y.1 ∧ ∃ xs ds, x.2 = .lst ds ∧ Hl H0 Ho H y.2 xs ∧ P2 (Rep Ho) ds xs
def Dc (H0 Ho H : Hp) (v : V) (kvs : List (Mi.Ky × D)) : Prop := ∃ a kv, v = .ref a ∧ H a = some (.dK kv) ∧ Ho a = none ∧ H0 a = none ∧ P2 (Bk H0 Ho H) kvs kv
theorem Dc.grow {H0 Ho H Ho1 H1 : Hp} {v : V} {kvs : List (Mi.Ky × D)} (g : Grow H Ho H1 Ho1) (h : Dc H0 Ho H v kvs) : Dc H0 Ho1 H1 v kvs := by
  obtain ⟨a, kv, e, q, n, z, p⟩ := h
  exact ⟨a, kv, e, g.old.at q, g.hid _ _ q n, z, P2.imp (fun x y ⟨b, xs, ds, c, l, r⟩ => ⟨b, xs, ds, c, l.grow g, p2_same g.vis r⟩) p⟩
def Cl (H0 Ho H : Hp) (v : V) (ks : List Mi.Ky) : Prop := ∃ a kv, v = .ref a ∧ H a = some (.dK kv) ∧ Ho a = none ∧ H0 a = none ∧ kv.map (·.1) = ks ∧ ∀ y ∈ kv, ∃ xs, Hl H0 Ho H y.2 xs
theorem Cl.grow {H0 Ho H Ho1 H1 : Hp} {v : V} {ks : List Mi.Ky} (g : Grow H Ho H1 Ho1) (h : Cl H0 Ho H v ks) : Cl H0 Ho1 H1 v ks := by
  obtain ⟨a, kv, e, q, n, z, m, p⟩ := h
  exact ⟨a, kv, e, g.old.at q, g.hid _ _ q n, z, m, fun y hy => let ⟨xs, l⟩ := p y hy; ⟨xs, l.grow g⟩⟩
theorem P2.keys {H0 Ho H : Hp} : ∀ {kvs : List (Mi.Ky × D)} {kv : List (Key × V)}, P2 (Bk H0 Ho H) kvs kv → kv.map (·.1) = kvs.map (·.1) ∧ ∀ y ∈ kv, ∃ xs, Hl H0 Ho H y.2 xs
  | [], [], _ => ⟨rfl, fun y hy => nomatch hy⟩
  | x :: r, y :: s, .cons h t => by
    obtain ⟨i1, i2⟩ := P2.keys t
    obtain ⟨b, xs, ds, c, l, q⟩ := h
    refine ⟨by rw [List.map_cons, List.map_cons, i1, b], fun z hz => ?_⟩
    rcases List.mem_cons.mp hz with rfl | hz
    · exact ⟨xs, l⟩
    · exact i2 z hz
theorem Dc.cl {H0 Ho H : Hp} {v : V} {kvs : List (Mi.Ky × D)} (h : Dc H0 Ho H v kvs) : Cl H0 Ho H v (kvs.map (·.1)) := by
  obtain ⟨a, kv, e, q, n, z, p⟩ := h
  obtain ⟨k1, k2⟩ := P2.keys p
  exact ⟨a, kv, e, q, n, z, k1, k2⟩
structure RG (i j : Nat) (H0 Hv0 : Hp) (e : Mi.Env) (σ : L2.St) (H Ho : Hp) : Prop where
  I : R1 F0 H0 Hv0 (hd2 i j e) σ H Ho
  ne : ∀ v v', σ[i]? = some (some v) → σ[j]? = some (some v') → v ≠ v'
  di : ∃ kvs v, e[i]? = some (some (.dk kvs)) ∧ σ[i]? = some (some v) ∧ Dc H0 Ho H v kvs
  dj : ∃ kvs v, e[j]? = some (some (.dk kvs)) ∧ σ[j]? = some (some v) ∧ Dc H0 Ho H v kvs
structure RC (i j : Nat) (k1 k2 : List Mi.Ky) (H0 Hv0 : Hp) (e : Mi.Env) (σ : L2.St) (H Ho : Hp) : Prop where
  I : R1 F0 H0 Hv0 e σ H Ho
  di : ∃ v, σ[i]? = some (some v) ∧ Cl H0 Ho H v k1
  dj : ∃ v, σ[j]? = some (some v) ∧ Cl H0 Ho H v k2
theorem Dc.rep {H0 Ho H : Hp} {v : V} {kvs : List (Mi.Ky × D)} (vw : Vw H Ho) (h : Dc H0 Ho H v kvs) : RepW (noT H) (.dk kvs) v := by
  have s : Same Ho (noT H) := fun a o e => noT_some (vw.sub a o e) (vw.nv a o e)
  obtain ⟨a, kv, e, q, n, z, p⟩ := h
  refine ⟨a, kv, e, noT_some q trivial, P2.imp (fun x y ⟨b, xs, ds, c, l, r⟩ => ⟨b, ?_⟩) p⟩
  obtain ⟨p, e1, q1, _, _⟩ := l
  rw [c]
  exact rep_lst.mpr ⟨p, xs, e1, .inl (noT_some q1 trivial), p2_same s r⟩
theorem rg_good (i j : Nat) (H0 Hv0 : Hp) : Good H0 Hv0 (RG i j H0 Hv0) where
  vw r := r.I.vw
  gr r g := ⟨r.I.grow g, r.ne, let ⟨kvs, v, a, b, c⟩ := r.di; ⟨kvs, v, a, b, c.grow g⟩, let ⟨kvs, v, a, b, c⟩ := r.dj; ⟨kvs, v, a, b, c.grow g⟩⟩
  gw r := r.I.gw
  sh {e σ H Ho} r := by
    have s : Same Ho (noT H) := fun a o e => noT_some (r.I.vw.sub a o e) (r.I.vw.nv a o e)
    refine ⟨noT H, .all r.I.vw.cd, by rw [r.I.len, hd2_len], fun k w h m => ?_, fun k w h m => by cases m⟩
    by_cases h1 : k = i
    · subst h1
      obtain ⟨kvs, v, a, b, c⟩ := r.di
      rw [a] at h; cases h
      exact ⟨v, b, c.rep r.I.vw⟩
    · by_cases h2 : k = j
      · subst h2
        obtain ⟨kvs, v, a, b, c⟩ := r.dj
        rw [a] at h; cases h
        exact ⟨v, b, c.rep r.I.vw⟩
      · obtain ⟨v, q, z⟩ := r.I.nob k w (by rw [hd2_ne h1 h2]; exact h) rfl
        exact ⟨v, q, repW_same s z⟩
theorem rc_good (i j : Nat) (k1 k2 : List Mi.Ky) (H0 Hv0 : Hp) : Good H0 Hv0 (RC i j k1 k2 H0 Hv0) where
  vw r := r.I.vw
  gr r g := ⟨r.I.grow g, let ⟨v, b, c⟩ := r.di; ⟨v, b, c.grow g⟩, let ⟨v, b, c⟩ := r.dj; ⟨v, b, c.grow g⟩⟩
  gw r := r.I.gw
  sh {e σ H Ho} r := ⟨Ho, r.I.toR0⟩
theorem hd2_set {i j k : Nat} {e : Mi.Env} {w : Option W} (h1 : k ≠ i) (h2 : k ≠ j) : hd2 i j (e.set k w) = (hd2 i j e).set k w := by
  unfold hd2
  rw [List.set_comm _ _ h1, List.set_comm _ _ h2]
theorem rg_set {i j k : Nat} {H0 Hv0 : Hp} (h1 : k ≠ i) (h2 : k ≠ j) (e : Mi.Env) (σ : L2.St) (d : D) (v : V) (H Ho : Hp) (r : RG i j H0 Hv0 e σ H Ho) (z : Rep Ho d v) : RG i j H0 Hv0 (e.set k (some (.d d))) (σ.set k (some v)) H Ho := by
  have g1 : ∀ {x : Option V}, (σ.set k x)[i]? = σ[i]? := List.getElem?_set_ne h1
  have g2 : ∀ {x : Option V}, (σ.set k x)[j]? = σ[j]? := List.getElem?_set_ne h2
  have f1 : ∀ {x : Option W}, (e.set k x)[i]? = e[i]? := List.getElem?_set_ne h1
  have f2 : ∀ {x : Option W}, (e.set k x)[j]? = e[j]? := List.getElem?_set_ne h2
  exact ⟨by rw [hd2_set h1 h2]; exact r.I.set rfl z, by rw [g1, g2]; exact r.ne, by rw [g1, f1]; exact r.di, by rw [g2, f2]; exact r.dj⟩
theorem rc_set {i j k : Nat} {k1 k2 : List Mi.Ky} {H0 Hv0 : Hp} (h1 : k ≠ i) (h2 : k ≠ j) (e : Mi.Env) (σ : L2.St) (d : D) (v : V) (H Ho : Hp) (r : RC i j k1 k2 H0 Hv0 e σ H Ho) (z : Rep Ho d v) : RC i j k1 k2 H0 Hv0 (e.set k (some (.d d))) (σ.set k (some v)) H Ho := by
  have g1 : ∀ {x : Option V}, (σ.set k x)[i]? = σ[i]? := List.getElem?_set_ne h1
  have g2 : ∀ {x : Option V}, (σ.set k x)[j]? = σ[j]? := List.getElem?_set_ne h2
  exact ⟨r.I.set rfl z, by rw [g1]; exact r.di, by rw [g2]; exact r.dj⟩
theorem R1.hup {H0 Hv0 : Hp} {e : Mi.Env} {σ : L2.St} {H Ho : Hp} {a : Addr} {o o' : HO} (I : R1 F0 H0 Hv0 e σ H Ho) (h : H a = some o) (c : Cell1 o) (n : NT o') (ht : ∀ ys, o' ≠ .tup ys) (hf : ∀ x u, o' ≠ .frz x u) (n1 : Ho a = none) (n2 : H0 a = none) : R1 F0 H0 Hv0 e σ (upd H a o') Ho := by
  have vw : Vw (upd H a o') Ho := by
    refine ⟨fun b u z => ?_, fun b ys z => ?_, fun b x u z => ?_, I.vw.cd.put h c n, I.vw.nv⟩
    · rw [upd_ne (ne_of_none z n1)]; exact I.vw.sub b u z
    · by_cases hb : b = a
      · subst hb; rw [upd_same] at z; exact absurd (Option.some.inj z) (ht ys)
      · rw [upd_ne hb] at z; exact I.vw.tup b ys z
    · by_cases hb : b = a
      · subst hb; rw [upd_same] at z; exact absurd (Option.some.inj z) (hf x u)
      · rw [upd_ne hb] at z; exact I.vw.frz b x u z
  exact ⟨⟨vw, I.len, I.nob, fun j w h m => by cases m⟩, ⟨I.gw.old.put n2 h, I.gw.vis, vw, I.gw.hid⟩, I.fresh, I.sep⟩
theorem Hl.upd {H0 Ho H : Hp} {v : V} {xs : List V} {a : Addr} {kv : List (Key × V)} {o : HO} (ha : H a = some (.dK kv)) (h : Hl H0 Ho H v xs) : Hl H0 Ho (upd H a o) v xs := by
  obtain ⟨p, e, q, n, z⟩ := h
  exact ⟨p, e, by rw [upd_ne (fun y => by rw [y, ha] at q; cases q)]; exact q, n, z⟩
theorem bk_put {H0 Ho H : Hp} {k : Mi.Ky} {d : D} {v : V} {kvs : List (Mi.Ky × D)} {kv : List (Key × V)} (r : Bk H0 Ho H (k, d) (k, v)) (h : P2 (Bk H0 Ho H) kvs kv) : P2 (Bk H0 Ho H) (Mi.putK k d kvs) (L2.putK kv k v) := by
  have e : (kvs.any fun x => decide (x.1 = k)) = (kv.any fun x => decide (x.1 = k)) := by
    induction h with
    | nil => rfl
    | @cons p q l m hpq t ih => rw [List.any_cons, List.any_cons, ih, hpq.1]
  unfold Mi.putK L2.putK
  rw [e]
  split
  · rename_i hh
    clear hh e
    induction h with
    | nil => exact .nil
    | @cons p q l m hpq t ih =>
      rw [List.map_cons, List.map_cons]
      refine .cons ?_ ih
      · by_cases hk : q.1 = k
        · rw [if_pos hk, if_pos (hpq.1.trans hk)]; exact ⟨hpq.1, r.2⟩
        · rw [if_neg hk, if_neg (fun z => hk (hpq.1.symm.trans z))]; exact hpq
  · exact P2.append h (.cons r .nil)
theorem p2_imm {H H' : Hp} (t : ∀ a xs, H a = some (.tup xs) → H' a = some (.tup xs)) : ∀ {ds : List D} {vs : List V}, Mi.imms ds = true → P2 (Rep H) ds vs → P2 (Rep H') ds vs
  | [], [], _, _ => .nil
  | d :: ds, v :: vs, z, .cons a b => by
    rw [Mi.imms, Bool.and_eq_true] at z
    exact .cons (rep_imm t z.1 a) (p2_imm t z.2 b)
theorem ho_tup {H Ho : Hp} {a : Addr} {o : HO} (h : H a = some o) (n : Zp.isTF (some o) = false) : Ho' H Ho a = Ho a := by
  unfold Ho'
  rw [h, n]; rfl
section
variable {i j : Nat} {H0 Hv0 : Hp} {t : TS} {m : Mi.S}
theorem ls_put (hij : i ≠ j) {tk tv : TE} {k v : Mi.E} (hk : AE F0 qV tk k) (hv : AE F0 qN tv v) : LS H0 Hv0 (RG i j H0 Hv0) (L2.sDPut (tVar i) tk tv) (Mi.sDPutN i k v) := fun e σ H Ho D r h => by
  obtain ⟨x, hx, h⟩ := fin_ok (fin_bind.mp h)
  have G := rg_good i j H0 Hv0
  obtain ⟨Hs, I⟩ := G.sh r
  refine hv e σ H Hs _ I (by
    rw [hx]
    intro vv H1 Hv1 g1 q1
    cases x with
    | lst ds =>
      obtain ⟨hg, h⟩ := Mi.fin_guard h
      obtain ⟨p, o, rfl, n0, q, nv, c⟩ := q1
      cases o with
      | lst xs =>
        have c : P2 (Rep Hv1) ds xs := c
        obtain ⟨r1, s1⟩ := G.bk r g1.old g1.vw.cd
        obtain ⟨y, hy, h⟩ := fin_ok (fin_bind.mp h)
        obtain ⟨w, he, h⟩ := wV_ok (fin_bind.mp h)
        obtain ⟨kvs, va, he1, hσ, dc⟩ := r1.di
        rw [he1] at he; cases he
        obtain ⟨hz, h⟩ := Mi.fin_guard (fin_bind.mp h)
        obtain ⟨ky, hky, h⟩ := ofO_ok (fin_bind.mp h)
        obtain ⟨Hs1, I1⟩ := G.sh r1
        refine ⟨va, hσ, hk e σ H1 Hs1 _ I1 (by
          rw [hy]
          intro u H2 Hv2 g2 ru
          obtain ⟨r2, s2⟩ := G.bk r1 g2.old g2.vw.cd
          have g12 := grow_back r1.I.vw g2.old g2.vw.cd
          obtain ⟨a, kv, rfl, qa, na, za, pa⟩ := dc.grow g12
          have hu := key_rep hky ru
          subst hu
          have hp : Ho p = none := by
            cases z : Ho p with
            | none => rfl
            | some o => rw [r.I.vw.sub _ _ z] at n0; cases n0
          have q2 : H2 p = some (.lst xs) := g2.old.at q
          have hp2 : Ho' H2 (Ho' H1 Ho) p = none := by rw [ho_tup q2 rfl, ho_tup q rfl]; exact hp
          have tu : ∀ b ys, Hv1 b = some (.tup ys) → Ho' H2 (Ho' H1 Ho) b = some (.tup ys) := fun b ys z => r2.I.vw.tup _ _ (g2.old.at (g1.vw.sub _ _ z))
          have hl : Hl H0 (Ho' H2 (Ho' H1 Ho)) H2 (.ref p) xs := ⟨p, rfl, q2, hp2, r.I.gw.old.free n0⟩
          have bk : Bk H0 (Ho' H2 (Ho' H1 Ho)) H2 (ky, .lst ds) (ky, .ref p) := ⟨rfl, xs, ds, rfl, hl, p2_imm tu hg c⟩
          refine ⟨a, _, rfl, DPut.k qa (by rw [← P2.len pa, sizeLine_eq]; exact hz), ?_⟩
          refine h σ _ (Ho' H2 (Ho' H1 Ho)) ⟨?_, r2.ne, ⟨Mi.putK ky (.lst ds) kvs, .ref a, ?_, hσ, a, L2.putK kv ky (.ref p), rfl, upd_same, na, za, ?_⟩, ?_⟩ (s1.trans s2)
          · rw [show hd2 i j (e.set i (some (.dk (Mi.putK ky (.lst ds) kvs)))) = hd2 i j e by unfold hd2; rw [List.set_set]]
            exact r2.I.hup qa trivial trivial (fun _ z => by cases z) (fun _ _ z => by cases z) na za
          · exact List.getElem?_set_self (List.getElem?_eq_some_iff.mp he1).1
          · exact P2.imp (fun x y ⟨b, xs, ds, c, l, r⟩ => ⟨b, xs, ds, c, l.upd qa, r⟩) (bk_put bk pa)
          · obtain ⟨kvs2, v2, f1, f2, b, kv2, rfl, qb, nb, zb, pb⟩ := r2.dj
            refine ⟨kvs2, .ref b, by rw [List.getElem?_set_ne hij]; exact f1, f2, b, kv2, rfl, ?_, nb, zb, P2.imp (fun x y ⟨b, xs, ds, c, l, r⟩ => ⟨b, xs, ds, c, l.upd qa, r⟩) pb⟩
            rw [upd_ne (fun z => r2.ne _ _ hσ f2 (by rw [z]))]; exact qb)⟩
      | _ => exact c.elim
    | _ => exact h.elim)
theorem rg_swap (hij : i ≠ j) : RG i j H0 Hv0 = RG j i H0 Hv0 := by
  have sw : ∀ {i j : Nat}, i ≠ j → ∀ {e σ H Ho}, RG i j H0 Hv0 e σ H Ho → RG j i H0 Hv0 e σ H Ho := fun {i j} hij {e σ H Ho} r => by
    refine ⟨?_, fun v v' a b => Ne.symm (r.ne v' v b a), r.dj, r.di⟩
    have : hd2 j i e = hd2 i j e := by unfold hd2; rw [List.set_comm _ _ hij]
    rw [this]; exact r.I
  funext e σ H Ho
  exact propext ⟨sw hij, sw (Ne.symm hij)⟩
theorem ls_putj (hij : i ≠ j) {tk tv : TE} {k v : Mi.E} (hk : AE F0 qV tk k) (hv : AE F0 qN tv v) : LS H0 Hv0 (RG i j H0 Hv0) (L2.sDPut (tVar j) tk tv) (Mi.sDPutN j k v) := by
  rw [rg_swap hij]
  exact ls_put (Ne.symm hij) hk hv
theorem val_any {k : Mi.Ky} : ∀ {kv : List (Key × V)}, ((kv.map (·.1)).any fun z => decide (z = k)) = true → ∃ y ∈ kv, valV kv k = some y.2
  | [], h => by cases h
  | y :: r, h => by
    unfold valV
    rw [List.find?_cons]
    by_cases q : y.1 = k
    · rw [decide_eq_true q]
      exact ⟨y, List.mem_cons_self .., rfl⟩
    · rw [decide_eq_false q]
      rw [List.map_cons, List.any_cons, decide_eq_false q, Bool.false_or] at h
      obtain ⟨z, hz, e⟩ := val_any h
      exact ⟨z, List.mem_cons_of_mem _ hz, e⟩
theorem Cl.clr {Ho H : Hp} {v : V} {ks : List Mi.Ky} {p : Addr} {xs : List V} (hp : H p = some (.lst xs)) (c : Cl H0 Ho H v ks) : Cl H0 Ho (L2.upd H p (.lst [])) v ks := by
  obtain ⟨a, kv, e, q, n, z, m, l⟩ := c
  refine ⟨a, kv, e, by rw [upd_ne (fun y => by rw [y, hp] at q; cases q)]; exact q, n, z, m, fun y hy => ?_⟩
  obtain ⟨ys, p', e1, q1, n1, z1⟩ := l y hy
  by_cases h : p' = p
  · subst h
    exact ⟨[], p', e1, upd_same, n1, z1⟩
  · exact ⟨ys, p', e1, by rw [upd_ne h]; exact q1, n1, z1⟩
theorem ls_clr {K : PySem.W.Frag} {k1 k2 : List Mi.Ky} {tk : TE} {k : Mi.E} (hk : AE F0 qV tk k) : LS H0 Hv0 (RC i j k1 k2 H0 Hv0) (tDrop (tBM0 K "list" rClear (tDGet (tVar i) tk))) (Mi.sKClr k1 k) := fun e σ H Ho D r h => by
  obtain ⟨d, hd, h⟩ := fin_ok (fin_bind.mp h)
  obtain ⟨y, hy, h⟩ := ofO_ok (fin_bind.mp h)
  obtain ⟨hg, h⟩ := Mi.fin_guard h
  obtain ⟨v, hσ, c⟩ := r.di
  refine ⟨v, hσ, hk e σ H Ho _ r.I.toR0 (by
    rw [hd]
    intro u H2 Hv2 g2 ru
    have r2 := (rc_good i j k1 k2 H0 Hv0).gr r g2
    have c2 := c.grow g2
    obtain ⟨a, kv, rfl, q, n, z, m, l⟩ := c2
    have hu := key_rep hy ru
    subst hu
    rw [← m] at hg
    obtain ⟨w, hw, ev⟩ := val_any hg
    obtain ⟨xs, p, e1, q1, n1, z1⟩ := l w hw
    rw [e1] at ev
    refine ⟨a, .ref p, rfl, by rw [← ev]; exact DGet.k q, .inl ⟨rfl, xs, .inl (.inl q1)⟩, p, xs, rfl, rfl, q1, ?_⟩
    obtain ⟨v1, h1, c1⟩ := r2.di
    obtain ⟨v2, h2, c2⟩ := r2.dj
    exact h σ _ Hv2 ⟨r2.I.hup q1 trivial trivial (fun _ z => by cases z) (fun _ _ z => by cases z) n1 z1, ⟨v1, h1, c1.clr q1⟩, ⟨v2, h2, c2.clr q1⟩⟩ g2.vis)⟩
theorem rc_swap {k1 k2 : List Mi.Ky} : RC i j k1 k2 H0 Hv0 = RC j i k2 k1 H0 Hv0 := by
  funext e σ H Ho
  exact propext ⟨fun r => ⟨r.I, r.dj, r.di⟩, fun r => ⟨r.I, r.dj, r.di⟩⟩
theorem ls_clrj {K : PySem.W.Frag} {k1 k2 : List Mi.Ky} {tk : TE} {k : Mi.E} (hk : AE F0 qV tk k) : LS H0 Hv0 (RC i j k1 k2 H0 Hv0) (tDrop (tBM0 K "list" rClear (tDGet (tVar j) tk))) (Mi.sKClr k2 k) := by
  rw [rc_swap]
  exact ls_clr hk
theorem tail_rt {m : Mi.S} {e : Mi.Env} {P : Out → Prop} (f : Fin (Mi.sTail m e) P) : Fin (m e) fun o => match o with | .rt w => P (.rt w) | _ => False := by
  unfold Mi.sTail at f
  cases hm : m e with
  | no => rw [hm] at f; exact f.elim
  | ex z => rw [hm] at f; exact f.elim
  | ok o =>
    rw [hm] at f
    cases o with
    | rt w => exact f
    | nx e2 => exact f.elim
    | bk e2 => exact f.elim
    | ct e2 => exact f.elim
theorem ls_last {k1 k2 : List Mi.Ky} (h : AS F0 qV t m) : LS H0 Hv0 (RC i j k1 k2 H0 Hv0) t (Mi.sTail m) := fun e σ H Ho D r f =>
  h H0 Hv0 e σ H Ho D r.I ((tail_rt f).mono fun o z => by
    cases o with
    | rt w => exact z
    | _ => exact z.elim)
theorem ls_unp {r : List Mi.Ky → List Mi.Ky → Mi.S} (h : ∀ k1 k2, LS H0 Hv0 (RC i j k1 k2 H0 Hv0) t (r k1 k2)) : LS H0 Hv0 (RG i j H0 Hv0) t (Mi.sUnp i j r) := fun e σ H Ho D g f => by
  obtain ⟨kv1, v1, a1, b1, c1⟩ := g.di
  obtain ⟨kv2, v2, a2, b2, c2⟩ := g.dj
  unfold Mi.sUnp at f
  rw [a1, a2] at f
  exact h _ _ (hd2 i j e) σ H Ho D ⟨g.I, ⟨v1, b1, c1.cl⟩, ⟨v2, b2, c2.cl⟩⟩ ((tail_rt f).mono fun o z => by
    cases o with
    | rt w => exact z
    | _ => exact z.elim)
theorem as_bag {M : Nat → Bool} (hij : i ≠ j) (hi : M i = true) (hj : M j = true) (hM : ∀ k, M k = true → k = i ∨ k = j) (h : ∀ H0 Hv0, LS H0 Hv0 (RG i j H0 Hv0) t m) : AS M qV t (Mi.sBag i j m) := fun H0 Hv0 e σ H Hv D I f => by
  unfold Mi.sBag at f
  split at f
  · rename_i e1 e2
    obtain ⟨v1, h1, a, o1, rfl, q1, n1, c1⟩ := I.own i _ e1 hi
    obtain ⟨v2, h2, b, o2, rfl, q2, n2, c2⟩ := I.own j _ e2 hj
    cases o1 with
    | dK kv1 =>
      cases o2 with
      | dK kv2 =>
        have c1 : KVs Hv [] kv1 := c1
        have c2 : KVs Hv [] kv2 := c2
        cases c1
        cases c2
        refine h H0 Hv0 e σ H Hv D ⟨⟨⟨I.vw, by rw [hd2_len]; exact I.len, fun k w q m => ?_, (fun k w q m => by cases m)⟩, I.gw, (fun k w a q m => by cases m), (fun k l w w' a b z q q' m => by cases m)⟩, ?_, ⟨[], _, e1, h1, a, _, rfl, q1, n1, I.fresh i _ a e1 hi h1, .nil⟩, ⟨[], _, e2, h2, b, _, rfl, q2, n2, I.fresh j _ b e2 hj h2, .nil⟩⟩ ((tail_rt f).mono fun o z => by
          cases o with
          | rt w => exact z
          | _ => exact z.elim)
        · obtain ⟨z1, z2, z3⟩ := hd2_no q
          refine I.nob k w z3 ?_
          cases y : M k with
          | false => rfl
          | true => exact ((hM k y).elim z1 z2).elim
        · intro v v' w1 w2 z
          rw [h1] at w1; rw [h2] at w2
          cases w1; cases w2
          exact I.sep i j _ _ a b hij e1 e2 hi hj h1 h2 (V.ref.inj z)
      | _ => exact c2.elim
    | _ => exact c1.elim
  · exact f.elim
theorem it_hd {k : Nat} (h1 : k ≠ i) (h2 : k ≠ j) (e : Mi.Env) : Mi.iOf (Mi.mV k) (hd2 i j e) = Mi.iOf (Mi.mV k) e := by
  unfold Mi.iOf Mi.mV
  rw [hd2_ne h1 h2]
theorem ls_forG {K : PySem.W.Frag} {wi : TI} {q : Nat} {tg : Tg} (h1 : q ≠ i) (h2 : q ≠ j) (hi : AIf F0 wi (Mi.iOf (Mi.mV q))) (ht : ∀ k ∈ tgVars tg, k ≠ i ∧ k ≠ j) (hb : LS H0 Hv0 (RG i j H0 Hv0) t m) : LS H0 Hv0 (RG i j H0 Hv0) (tFor wi (tgG K tg) t) (Mi.sFor (Mi.iOf (Mi.mV q)) tg m) :=
  ls_for (π := hd2 i j) (rg_good i j H0 Hv0) (fun r => r.I.toR0) (it_hd h1 h2) hi (fun k hk => rg_set (ht k hk).1 (ht k hk).2) hb
theorem ls_forC {K : PySem.W.Frag} {k1 k2 : List Mi.Ky} {wi : TI} {it : Mi.I} {tg : Tg} (hi : AIf F0 wi it) (ht : ∀ k ∈ tgVars tg, k ≠ i ∧ k ≠ j) (hb : LS H0 Hv0 (RC i j k1 k2 H0 Hv0) t m) : LS H0 Hv0 (RC i j k1 k2 H0 Hv0) (tFor wi (tgG K tg) t) (Mi.sFor it tg m) :=
  ls_for (π := id) (rc_good i j k1 k2 H0 Hv0) (fun r => r.I.toR0) (fun _ => rfl) hi (fun k hk => rc_set (ht k hk).1 (ht k hk).2) hb
end
end A
set_option linter.all false
set_option maxRecDepth 100000
namespace Mr
open PySem Mi
def b_names_above : S :=
  (sSeq (sDrop (mCall m_refuse_strangers [(wD (m2 dIx (mV 0) (mC (.int 0)))), (wD (mN dLst [(mV 1)]))]))
  (sRet (wD (mCall m_names_along [(wD (m2 dIx (mV 0) (mC (.int 0)))), (wD (mComp [none, none] (iOf (m2 dIx (mV 0) (mC (.int 1)))) (.t [0, 1]) cYes (mN dTup [(mV 1), (mV 0)]))), (wD (mV 1))]))))
def m_names_above : Fn := fnN 2 2 b_names_above
def bX_names_above : S :=
  (sSeq (sCallX mX_refuse_strangers [(wD (m2 dIx (mV 0) (mC (.int 0)))), (wD (mN dLst [(mV 1)]))])
  (sP sNever))
def mX_names_above : Fn := fnM 2 2 bX_names_above
def bX_names_below : S :=
  (sSeq (sCallX mX_refuse_strangers [(wD (m2 dIx (mV 0) (mC (.int 0)))), (wD (mN dLst [(mV 1)]))])
  (sP sNever))
def mX_names_below : Fn := fnM 2 2 bX_names_below
def b_l_above : S :=
  (sSeq (sSet 2 (mCall m_l_spread [(wD (mComp [none, none] (iOf (m2 dIx (mV 0) (mC (.int 1)))) (.t [0, 1]) cYes (mN dTup [(mV 1), (mV 0)]))), (wD (mV 1))]))
  (sRet (wD (mComp [some 2, none] (iOf (m2 dIx (mV 0) (mC (.int 0)))) (.n 1) (cB (m2 dIn (mV 1) (mV 0))) (mV 1)))))
def m_l_above : Fn := fnN 2 3 b_l_above
def b_l_refused_5 : S :=
  (sSeq (sSet 3 (mN dLst []))
  (sSeq (sTry 4 ["NoName"]
  (sIf (cP (cB (m2 dEq (mV 2) (mC (.int 0)))))
  (sCallX mX_names_above [(wD (mV 0)), (wD (mV 1))])
  (sCallX mX_names_below [(wD (mV 0)), (wD (mV 1))]))
  (sSet 3 (mCall m_l_kinds [(wV 4)])))
  (sRet (wD (mV 3)))))
def m_l_refused_5 : Fn := fnM 3 5 b_l_refused_5
def b_law_k06 : S :=
  (sSeq (sSet 1 (mCall m_l_net_2 [(wD (mV 0)), (wD (mC (.int 8)))]))
  (sSeq (sSet 2 (mCall m_l_cell [(wD (mV 0)), (wD (mC (.int 32)))]))
  (sSeq (sSet 3 (mN bList [(m2 dIx (mV 1) (mC (.int 0)))]))
  (sSeq (sIf (cB (m2 dEq (m2 dMod (mV 2) (mC (.int 2))) (mC (.int 1))))
  (sReverse 3)
  sNext)
  (sSeq (sSetW 4 (fun _ => .ok (.dk [])))
  (sSeq (sSetW 5 (fun _ => .ok (.dk [])))
  (sTail (sBag 4 5 (sSeq (sFor (iOf (mV 3)) (.n 6)
  (sSeq (sDPutN 4 (mV 6) (mCall m_names_above [(wD (mV 1)), (wD (mV 6))]))
  (sSeq (sDPutN 5 (mV 6) (mCall m_names_below [(wD (mV 1)), (wD (mV 6))]))
  (sIf (cOr (cNot (cB (mCall (m_l_alike 3) [(wD (mDGet 4 (mV 6))), (wD (mCall m_l_above [(wD (mV 1)), (wD (mV 6))]))]))) (cNot (cB (mCall (m_l_alike 3) [(wD (mDGet 5 (mV 6))), (wD (mCall m_l_below [(wD (mV 1)), (wD (mV 6))]))]))))
  (sRet (wD (mC (.bl false))))
  sNext))))
  (sSeq (sFor (iOf (mV 3)) (.n 7)
  (sFor (iOf (mV 3)) (.n 8)
  (sIf (cB (m2 dNe (m2 dIn (mV 7) (mDGet 4 (mV 8))) (m2 dIn (mV 8) (mDGet 5 (mV 7)))))
  (sRet (wD (mC (.bl false))))
  sNext)))
  (sUnp 4 5 fun k1 k2 => (sSeq (sFor (iOf (mV 3)) (.n 6)
  (sSeq (sKClr k1 (mV 6))
  (sSeq (sKClr k2 (mV 6))
  (sSeq (sIf (cNot (cB (mCall (m_l_alike 3) [(wD (mCall m_names_above [(wD (mV 1)), (wD (mV 6))])), (wD (mCall m_l_above [(wD (mV 1)), (wD (mV 6))]))])))
  (sRet (wD (mC (.bl false))))
  sNext)
  (sIf (cNot (cB (mCall (m_l_alike 3) [(wD (mCall m_names_below [(wD (mV 1)), (wD (mV 6))])), (wD (mCall m_l_below [(wD (mV 1)), (wD (mV 6))]))])))
  (sRet (wD (mC (.bl false))))
  sNext)))))
  (sTail (sSeq (sSet 7 (mCall m_l_stranger [(wD (mN bList [(m2 dIx (mV 1) (mC (.int 0)))])), (wD (m2 dDiv (mV 2) (mC (.int 2))))]))
  (sRet (wD (mAnd (m2 dEq (mCall m_l_refused_5 [(wD (mV 1)), (wD (mV 7)), (wD (mC (.int 0)))]) (mN dLst [(mC (.str "NoName"))])) (m2 dEq (mCall m_l_refused_5 [(wD (mV 1)), (wD (mV 7)), (wD (mC (.int 1)))]) (mN dLst [(mC (.str "NoName"))])))))))))))))))))))
def m_law_k06 : Fn := fnM 1 9 b_law_k06
end Mr
set_option Elab.async false
set_option linter.all false
set_option maxRecDepth 100000
set_option maxHeartbeats 4000000
namespace Mk06
open PySem L2 PyProof.Rows A
open Mr
def top (i : Nat) : Stmt := PySem.Challenge.pw_arrowfind_k06_above_and_below.main.body.getD i (.Pass ⟨0, 0, 0, 0⟩)
structure Txt (mg : Str → Option Value) : Prop where
  b_len : mg "len" = none
  b_range : mg "range" = none
  b_max : mg "max" = none
  b_min : mg "min" = none
  b_tuple : mg "tuple" = none
  b_list : mg "list" = none
  b_isinstance : mg "isinstance" = none
  b_all : mg "all" = none
  b_any : mg "any" = none
  b_bool : mg "bool" = none
  b_str : mg "str" = none
  b_int : mg "int" = none
  b_zip : mg "zip" = none
  b_enumerate : mg "enumerate" = none
  b_sorted : mg "sorted" = none
  b_reversed : mg "reversed" = none
  b_set : mg "set" = none
section
variable [Tb : Tabs]
structure Own (mg : Str → Option Value) (base : Heap) : Prop where
  o_NoName : OwnCls "NoName" (Tb.cl "NoName") [.type "ValueError", .type "Exception", .type "BaseException", .type "object"] "ValueError.__new__" mg base
  b_ArrowError : mg "ArrowError" = some (.ref (Tb.cl "ArrowError"))
  b_WrongSize : mg "WrongSize" = some (.ref (Tb.cl "WrongSize"))
  b_NoWord : mg "NoWord" = some (.ref (Tb.cl "NoWord"))
  b_Twice : mg "Twice" = some (.ref (Tb.cl "Twice"))
  b_NoName : mg "NoName" = some (.ref (Tb.cl "NoName"))
  b_Ring : mg "Ring" = some (.ref (Tb.cl "Ring"))
  b_Unlike : mg "Unlike" = some (.ref (Tb.cl "Unlike"))
  b_NoArrow : mg "NoArrow" = some (.ref (Tb.cl "NoArrow"))
  b_Locked : mg "Locked" = some (.ref (Tb.cl "Locked"))
  b_NoTie : mg "NoTie" = some (.ref (Tb.cl "NoTie"))
  b_NoSuch : mg "NoSuch" = some (.ref (Tb.cl "NoSuch"))
  b_NoNet : mg "NoNet" = some (.ref (Tb.cl "NoNet"))
  b_NoText : mg "NoText" = some (.ref (Tb.cl "NoText"))
  b_NoRow : mg "NoRow" = some (.ref (Tb.cl "NoRow"))
  b_NoLabel : mg "NoLabel" = some (.ref (Tb.cl "NoLabel"))
  n_ValueError : mg "ValueError" = none
end
section
variable {P : Program} {w : World} {K : PySem.W.Frag} {mg : Str → Option Value} {base : Heap} [Tb : Tabs]
structure Kit (K : PySem.W.Frag) : Prop where
  k_ValueError : ∀ x k, (fun c => ([("NoName", true)] : List (String × Bool)).lookup c) x = some k → ExcCls K (Tb.cl x) ∧ PySem.W.kitOne K (.ref (Tb.cl x)) (.type "ValueError") = some k
  k_WrongSize : ∀ x k, (fun c => ([("NoName", false)] : List (String × Bool)).lookup c) x = some k → ExcCls K (Tb.cl x) ∧ PySem.W.kitOne K (.ref (Tb.cl x)) (.ref (Tb.cl "WrongSize")) = some k
  k_Twice : ∀ x k, (fun c => ([("NoName", false)] : List (String × Bool)).lookup c) x = some k → ExcCls K (Tb.cl x) ∧ PySem.W.kitOne K (.ref (Tb.cl x)) (.ref (Tb.cl "Twice")) = some k
  k_Ring : ∀ x k, (fun c => ([("NoName", false)] : List (String × Bool)).lookup c) x = some k → ExcCls K (Tb.cl x) ∧ PySem.W.kitOne K (.ref (Tb.cl x)) (.ref (Tb.cl "Ring")) = some k
  k_NoWord : ∀ x k, (fun c => ([("NoName", false)] : List (String × Bool)).lookup c) x = some k → ExcCls K (Tb.cl x) ∧ PySem.W.kitOne K (.ref (Tb.cl x)) (.ref (Tb.cl "NoWord")) = some k
  k_NoName : ∀ x k, (fun c => ([("NoName", true)] : List (String × Bool)).lookup c) x = some k → ExcCls K (Tb.cl x) ∧ PySem.W.kitOne K (.ref (Tb.cl x)) (.ref (Tb.cl "NoName")) = some k
  k_NoRow_NoSuch_NoText_NoTie_Unlike : ∀ x k, (fun c => ([("NoName", false)] : List (String × Bool)).lookup c) x = some k → ExcCls K (Tb.cl x) ∧ PySem.W.kitAny K (.ref (Tb.cl x)) (([Tb.cl "NoRow", Tb.cl "NoSuch", Tb.cl "NoText", Tb.cl "NoTie", Tb.cl "Unlike"] : List Addr).map .ref) = some k
  k_Locked_NoArrow_NoLabel_NoNet : ∀ x k, (fun c => ([("NoName", false)] : List (String × Bool)).lookup c) x = some k → ExcCls K (Tb.cl x) ∧ PySem.W.kitAny K (.ref (Tb.cl x)) (([Tb.cl "Locked", Tb.cl "NoArrow", Tb.cl "NoLabel", Tb.cl "NoNet"] : List Addr).map .ref) = some k
  m_ArrowError : ∀ C, (∃ c ∈ (["NoName"] : List String), C = Tb.cl c) → PySem.W.exmOne K (.ref C) (.ref (Tb.cl "ArrowError")) = some true
abbrev s_refuse_strangers : Stmt := top 20
theorem sc_refuse_strangers : FnScope ["names", "asked", "name"] ["names", "asked"] (defScope s_refuse_strangers) := ⟨rfl, rfl, rfl, by decide +kernel, rfl, by decide +kernel, by decide +kernel⟩
theorem ok_refuse_strangers {f : Addr} {fd : FuncData} (F : Fun K "refuse_strangers" "refuse_strangers" s_refuse_strangers f fd) (T : Txt mg)  : FnOk P w K mg base CX0 1 f fd ["names", "asked"] (spD m_refuse_strangers) :=
  F.ok sc_refuse_strangers (fun vs H Q E h => lenD h) (fun cdv A outer s H vs Q E hr h => by
    have nd := sc_refuse_strangers.nd
    have hu := hu_of hr
    have hu64 := hr.units
    exact ⟨_, (pss_one (ps_for PassesOwn.never rfl (pi_seq (pv 1)) (pg_name (i := 2) nd rfl (Or.inl rfl))
  (pss_one (ps_if (pt_cmpR (op_notInD hu64) (pv 2) (pv 0) rfl)
  (pss_one ps_never)
  pss_nil)))),
    _root_.A.runD (N := ["names", "asked", "name"]) (M := Mo []) (as_for (K := K) (tg := (.n 2)) (ai_seq (a_var 1 rfl)) (by decide)
  (as_if (at_test (AE.p (a_bin b_notin (AE.p (a_var 2 rfl)) (AE.p (a_var 0 rfl)))))
  as_never
  as_next)) (by decide) h⟩)
theorem okX_refuse_strangers {f : Addr} {fd : FuncData} (F : Fun K "refuse_strangers" "refuse_strangers" s_refuse_strangers f fd) (T : Txt mg) (O : Own mg base)   : FnOk P w K mg base (CX1 P w) 1 f fd ["names", "asked"] (spX Tb.cl mX_refuse_strangers) :=
  F.okX sc_refuse_strangers (fun vs H Q E h => lenX h) (fun cdv A outer s H vs Q E hr h => by
    have nd := sc_refuse_strangers.nd
    have hu := hu_of hr
    have hu64 := hr.units
    exact ⟨_, (pss_one (ps_for passesOwn1 rfl (pi_seq (pv 1)) (pg_name (i := 2) nd rfl (Or.inl rfl))
  (pss_one (ps_if (pt_cmpR (op_notInD hu64) (pv 2) (pv 0) rfl)
  (pss_one (ps_raise PySem.F.excBase_ValueError O.o_NoName (pe_fstr (fps_cons (fp_repr (pv 2)) (fps_cons (fp_text (by decide +kernel)) fps_nil)) (by decide)) rfl))
  pss_nil)))),
    _root_.A.runX (N := ["names", "asked", "name"]) (M := Mo []) (asx_for (K := K) (tg := (.n 2)) (ai_seq (a_var 1 rfl)) (by decide)
  (asx_if (at_test (AE.p (a_bin b_notin (AE.p (a_var 2 rfl)) (AE.p (a_var 0 rfl)))))
  (asx_raise (pgx_cons (pg_repr 2 rfl) (pgx_cons pg_text pgx_nil)))
  (asx_of as_next))) (by decide) h⟩)
abbrev s_names_along : Stmt := top 21
theorem sc_names_along : FnScope ["names", "steps", "name", "found", "waiting", "here", "start", "end"] ["names", "steps", "name"] (defScope s_names_along) := ⟨rfl, rfl, rfl, by decide +kernel, rfl, by decide +kernel, by decide +kernel⟩
theorem ok_names_along {f : Addr} {fd : FuncData} (F : Fun K "names_along" "names_along" s_names_along f fd) (T : Txt mg)  : FnOk P w K mg base CX0 1 f fd ["names", "steps", "name"] (spN m_names_along) :=
  F.ok sc_names_along (fun vs H Q E h => lenN h) (fun cdv A outer s H vs Q E hr h => by
    have nd := sc_names_along.nd
    have hu := hu_of hr
    have hu64 := hr.units
    exact ⟨_, (pss_cons (ps_set (i := 3) nd rfl (Or.inr rfl) (Zp.pe_disp1 (pv 2) pe_bl))
  (pss_cons (ps_set (i := 4) nd rfl (Or.inl rfl) (pe_lst (pa_cons (pv 2) pa_nil)))
  (pss_cons (ps_while PassesOwn.never (pt_truth (pv 4) (by intro _; rfl))
  (pss_cons (ps_set (i := 5) nd rfl (Or.inl rfl) (pe_bm0 PySem.F.plainAttrs_list PySem.F.slot_list_pop PySem.F.type_list_pop mt_pop (pv 4)))
  (pss_one (ps_for PassesOwn.never rfl (pi_seq (pv 1)) (pg_tup rfl (pgs_cons (pg_name (i := 6) nd rfl (Or.inl rfl)) (pgs_cons (pg_name (i := 7) nd rfl (Or.inl rfl)) pgs_nil)))
  (pss_one (ps_if (PW.pt (pw_and (pt_cmpR (op_eqD hu64) (pv 6) (pv 5) (nomark _)) (pw_and1 (pt_cmp (pc_dnotin hu (pv 7) (pv 3)) rfl))))
  (pss_cons (ps_dput hu (pv 3) (pv 7) pe_bl rfl)
  (pss_one (ps_expr (pe_bm PySem.F.plainAttrs_list PySem.F.slot_list_append PySem.F.type_list_append mt_append (pv 4) (pa_cons (pv 7) pa_nil)))))
  pss_nil))))))
  (pss_one (ps_ret (pe_comp (N' := ["found", "each"]) (ρ := [some 3, none]) rfl (CompSc.of rfl (by kernel_rfl)) (pi_seq (pv 0)) (fun _ _ _ _ _ => (pg_name (i := 1) (by show (["found", "each"] : List Str).Nodup; decide +kernel) rfl (Or.inl rfl))) (gk_name rfl) (fun _ _ _ _ _ => (pts_one (pt_cmp (pc_din hu (pv 1) (pv 0)) rfl))) (fun _ _ _ _ _ => (pv 1)))))))),
    _root_.A.runN (N := ["names", "steps", "name", "found", "waiting", "here", "start", "end"]) (M := Mo [3, 4]) (as_seq (as_newW 3 rfl (Zp.aw_disp1 (a_var 2 rfl) a_bl))
  (as_seq (as_new 4 rfl (a_lst (aa_cons (a_var 2 rfl) aa_nil)))
  (as_seq (as_while 20 (at_truth (a_varP 4))
  (as_seq (as_pop 5 4 rfl rfl)
  (as_for (K := K) (tg := (.t [6, 7])) (ai_seq (a_var 1 rfl)) (by decide)
  (as_if (at_and (at_test (AE.p (a_bin b_eq (AE.p (a_var 6 rfl)) (AE.p (a_var 5 rfl))))) (at_b (AE.p (a_dnotin 3 (a_var 7 rfl)))))
  (as_seq (as_dput 3 rfl (a_var 7 rfl) a_bl)
  (as_append 4 rfl (a_var 7 rfl)))
  as_next))))
  (as_retN (AE.w (a_comp (K := K) (tg := (.n 1)) (ai_seqC (AE.p (a_var 0 rfl))) (by decide) (at_b (AE.p (a_din 0 (a_var 1 rfl)))) (a_var 1 rfl))))))) (by decide) h⟩)
abbrev s_names_above : Stmt := top 18
theorem sc_names_above : FnScope ["net", "name"] ["net", "name"] (defScope s_names_above) := ⟨rfl, rfl, rfl, by decide +kernel, rfl, by decide +kernel, by decide +kernel⟩
theorem ok_names_above {f : Addr} {fd : FuncData} (F : Fun K "names_above" "names_above" s_names_above f fd) (T : Txt mg) (C_refuse_strangers : Cal P w K mg base CX0 1 "refuse_strangers" ["names", "asked"] (spD m_refuse_strangers)) (C_names_along : Cal P w K mg base CX0 1 "names_along" ["names", "steps", "name"] (spN m_names_along)) : FnOk P w K mg base CX0 2 f fd ["net", "name"] (spN m_names_above) :=
  F.ok sc_names_above (fun vs H Q E h => lenN h) (fun cdv A outer s H vs Q E hr h => by
    have nd := sc_names_above.nd
    have hu := hu_of hr
    have hu64 := hr.units
    have hr_refuse_strangers := hr.mono (show 1 ≤ _ by decide)
    have hr_names_along := hr.mono (show 1 ≤ _ by decide)
    exact ⟨_, (pss_cons (ps_expr (pe_cal C_refuse_strangers hr_refuse_strangers rfl pass0 (pa_cons (pe_ix ix_seq (pv 0) pe_int (fun _ _ => rfl)) (pa_cons (pe_lst (pa_cons (pv 1) pa_nil)) pa_nil))))
  (pss_one (ps_ret (pe_cal C_names_along hr_names_along rfl pass0 (pa_cons (pe_ix ix_seq (pv 0) pe_int (fun _ _ => rfl)) (pa_cons (pe_comp (N' := ["tail", "head"]) (ρ := [none, none]) rfl (CompSc.of rfl (by kernel_rfl)) (pi_seq (pe_ix ix_seq (pv 0) pe_int (fun _ _ => rfl))) (fun _ _ _ _ _ => (pg_tup rfl (pgs_cons (pg_name (i := 0) (by show (["tail", "head"] : List Str).Nodup; decide +kernel) rfl (Or.inl rfl)) (pgs_cons (pg_name (i := 1) (by show (["tail", "head"] : List Str).Nodup; decide +kernel) rfl (Or.inl rfl)) pgs_nil)))) (gk_tup (gk_cons1 rfl (gk_cons1 rfl gk_nil gm_nil) (gm_cons gm_nil))) (fun _ _ _ _ _ => pts_nil) (fun _ _ _ _ _ => (pe_tup (pa_cons (pv 1) (pa_cons (pv 0) pa_nil))))) (pa_cons (pv 1) pa_nil))))))),
    _root_.A.runN (N := ["net", "name"]) (M := Mo []) (as_seq (as_drop (AE.p (a_call (aw_cons (AE.w (a_bin b_ix (AE.p (a_var 0 rfl)) (AE.p a_int))) (aw_cons (AW.nv (AE.w (a_lst (aa_cons (a_var 1 rfl) aa_nil)))) aw_nil)))))
  (as_retN (AE.w (a_callN (aw_cons (AE.w (a_bin b_ix (AE.p (a_var 0 rfl)) (AE.p a_int))) (aw_cons (AW.nv (AE.w (a_comp (K := K) (tg := (.t [0, 1])) (ai_seqC (AE.p (a_bin b_ix (AE.p (a_var 0 rfl)) (AE.p a_int)))) (by decide) at_yes (a_tup (aa_cons (a_var 1 rfl) (aa_cons (a_var 0 rfl) aa_nil)))))) (aw_cons (AE.w (a_var 1 rfl)) aw_nil))))))) (by decide) h⟩)
theorem okX_names_above {f : Addr} {fd : FuncData} (F : Fun K "names_above" "names_above" s_names_above f fd) (T : Txt mg) (O : Own mg base) (C_names_along : Cal P w K mg base CX0 1 "names_along" ["names", "steps", "name"] (spN m_names_along)) (CX_refuse_strangers : Cal P w K mg base (CX1 P w) 1 "refuse_strangers" ["names", "asked"] (spX Tb.cl mX_refuse_strangers)) : FnOk P w K mg base (CX1 P w) 2 f fd ["net", "name"] (spX Tb.cl mX_names_above) :=
  F.okX sc_names_above (fun vs H Q E h => lenX h) (fun cdv A outer s H vs Q E hr h => by
    have nd := sc_names_above.nd
    have hu := hu_of hr
    have hu64 := hr.units
    have hrX_refuse_strangers := hr.mono (show 1 ≤ _ by decide)
    have hr_names_along := hr.mono (show 1 ≤ _ by decide)
    exact ⟨_, (pss_cons (ps_expr (pe_cal CX_refuse_strangers hrX_refuse_strangers rfl passes1 (pa_cons (pe_ix ix_seq (pv 0) pe_int (fun _ _ => rfl)) (pa_cons (pe_lst (pa_cons (pv 1) pa_nil)) pa_nil))))
  (pss_one ps_never)),
    _root_.A.runX (N := ["net", "name"]) (M := Mo []) (asx_seq (asx_call (aw_cons (AE.w (a_bin b_ix (AE.p (a_var 0 rfl)) (AE.p a_int))) (aw_cons (AW.nv (AE.w (a_lst (aa_cons (a_var 1 rfl) aa_nil)))) aw_nil)))
  (asx_of as_never)) (by decide) h⟩)
abbrev s_names_below : Stmt := top 19
theorem sc_names_below : FnScope ["net", "name"] ["net", "name"] (defScope s_names_below) := ⟨rfl, rfl, rfl, by decide +kernel, rfl, by decide +kernel, by decide +kernel⟩
theorem ok_names_below {f : Addr} {fd : FuncData} (F : Fun K "names_below" "names_below" s_names_below f fd) (T : Txt mg) (C_refuse_strangers : Cal P w K mg base CX0 1 "refuse_strangers" ["names", "asked"] (spD m_refuse_strangers)) (C_names_along : Cal P w K mg base CX0 1 "names_along" ["names", "steps", "name"] (spN m_names_along)) : FnOk P w K mg base CX0 2 f fd ["net", "name"] (spN m_names_below) :=
  F.ok sc_names_below (fun vs H Q E h => lenN h) (fun cdv A outer s H vs Q E hr h => by
    have nd := sc_names_below.nd
    have hu := hu_of hr
    have hu64 := hr.units
    have hr_refuse_strangers := hr.mono (show 1 ≤ _ by decide)
    have hr_names_along := hr.mono (show 1 ≤ _ by decide)
    exact ⟨_, (pss_cons (ps_expr (pe_cal C_refuse_strangers hr_refuse_strangers rfl pass0 (pa_cons (pe_ix ix_seq (pv 0) pe_int (fun _ _ => rfl)) (pa_cons (pe_lst (pa_cons (pv 1) pa_nil)) pa_nil))))
  (pss_one (ps_ret (pe_cal C_names_along hr_names_along rfl pass0 (pa_cons (pe_ix ix_seq (pv 0) pe_int (fun _ _ => rfl)) (pa_cons (pe_ix ix_seq (pv 0) pe_int (fun _ _ => rfl)) (pa_cons (pv 1) pa_nil))))))),
    _root_.A.runN (N := ["net", "name"]) (M := Mo []) (as_seq (as_drop (AE.p (a_call (aw_cons (AE.w (a_bin b_ix (AE.p (a_var 0 rfl)) (AE.p a_int))) (aw_cons (AW.nv (AE.w (a_lst (aa_cons (a_var 1 rfl) aa_nil)))) aw_nil)))))
  (as_retN (AE.w (a_callN (aw_cons (AE.w (a_bin b_ix (AE.p (a_var 0 rfl)) (AE.p a_int))) (aw_cons (AE.w (a_bin b_ix (AE.p (a_var 0 rfl)) (AE.p a_int))) (aw_cons (AE.w (a_var 1 rfl)) aw_nil))))))) (by decide) h⟩)
theorem okX_names_below {f : Addr} {fd : FuncData} (F : Fun K "names_below" "names_below" s_names_below f fd) (T : Txt mg) (O : Own mg base) (C_names_along : Cal P w K mg base CX0 1 "names_along" ["names", "steps", "name"] (spN m_names_along)) (CX_refuse_strangers : Cal P w K mg base (CX1 P w) 1 "refuse_strangers" ["names", "asked"] (spX Tb.cl mX_refuse_strangers)) : FnOk P w K mg base (CX1 P w) 2 f fd ["net", "name"] (spX Tb.cl mX_names_below) :=
  F.okX sc_names_below (fun vs H Q E h => lenX h) (fun cdv A outer s H vs Q E hr h => by
    have nd := sc_names_below.nd
    have hu := hu_of hr
    have hu64 := hr.units
    have hrX_refuse_strangers := hr.mono (show 1 ≤ _ by decide)
    have hr_names_along := hr.mono (show 1 ≤ _ by decide)
    exact ⟨_, (pss_cons (ps_expr (pe_cal CX_refuse_strangers hrX_refuse_strangers rfl passes1 (pa_cons (pe_ix ix_seq (pv 0) pe_int (fun _ _ => rfl)) (pa_cons (pe_lst (pa_cons (pv 1) pa_nil)) pa_nil))))
  (pss_one ps_never)),
    _root_.A.runX (N := ["net", "name"]) (M := Mo []) (asx_seq (asx_call (aw_cons (AE.w (a_bin b_ix (AE.p (a_var 0 rfl)) (AE.p a_int))) (aw_cons (AW.nv (AE.w (a_lst (aa_cons (a_var 1 rfl) aa_nil)))) aw_nil)))
  (asx_of as_never)) (by decide) h⟩)
abbrev s_l_cell : Stmt := top 23
theorem sc_l_cell : FnScope ["_law_script", "_law_k", "_law_spare"] ["_law_script", "_law_k"] (defScope s_l_cell) := ⟨rfl, rfl, rfl, by decide +kernel, rfl, by decide +kernel, by decide +kernel⟩
theorem ok_l_cell {f : Addr} {fd : FuncData} (F : Fun K "_law_cell" "_law_cell" s_l_cell f fd) (T : Txt mg)  : FnOk P w K mg base CX0 1 f fd ["_law_script", "_law_k"] (spD m_l_cell) :=
  F.ok sc_l_cell (fun vs H Q E h => lenD h) (fun cdv A outer s H vs Q E hr h => by
    have nd := sc_l_cell.nd
    have hu := hu_of hr
    have hu64 := hr.units
    exact ⟨_, (pss_cons (ps_if (pt_cmpR op_ltU (pv 1) (pe_callB call_lenU rfl T.b_len PySem.boot_len (pa_cons (pv 0) pa_nil)) (nomark _))
  (pss_one (ps_ret (pe_ix ix_seq (pv 0) (pv 1) (fun _ _ => rfl))))
  pss_nil)
  (pss_cons (ps_set (i := 2) nd rfl (Or.inl rfl) (pe_op op_addU pe_int (pe_op op_mul (pe_op op_mul pe_int (pv 1)) (pv 1))))
  (pss_cons (ps_if (pt_cmpR op_gtU (pe_callB call_lenU rfl T.b_len PySem.boot_len (pa_cons (pv 0) pa_nil)) pe_int (nomark _))
  (pss_one (ps_set (i := 2) nd rfl (Or.inl rfl) (pe_op op_addU (pv 2) (pe_op op_mul (pe_op op_mod (pe_ix ix_seq (pv 0) pe_int (fun _ _ => rfl)) pe_int) (pe_op op_addU (pe_op op_addU (pe_op op_mul (pv 1) (pv 1)) (pe_op op_mul pe_int (pv 1))) pe_int)))))
  pss_nil)
  (pss_one (ps_ret (pv 2)))))),
    _root_.A.runD (N := ["_law_script", "_law_k", "_law_spare"]) (M := Mo []) (as_seq (as_if (at_test (AE.p (a_bin b_lt (AE.p (a_var 1 rfl)) (AE.p (a_cb b_len (aa_cons (AE.p (a_var 0 rfl)) aa_nil))))))
  (as_ret (AE.w (a_bin b_ix (AE.p (a_var 0 rfl)) (AE.p (a_var 1 rfl)))))
  as_next)
  (as_seq (as_set 2 rfl (a_bin b_add (AE.p a_int) (AE.p (a_bin b_mul (AE.p (a_bin b_mul (AE.p a_int) (AE.p (a_var 1 rfl)))) (AE.p (a_var 1 rfl))))))
  (as_seq (as_if (at_test (AE.p (a_bin b_gt (AE.p (a_cb b_len (aa_cons (AE.p (a_var 0 rfl)) aa_nil))) (AE.p a_int))))
  (as_set 2 rfl (a_bin b_add (AE.p (a_var 2 rfl)) (AE.p (a_bin b_mul (AE.p (a_bin b_mod (AE.p (a_bin b_ix (AE.p (a_var 0 rfl)) (AE.p a_int))) (AE.p a_int))) (AE.p (a_bin b_add (AE.p (a_bin b_add (AE.p (a_bin b_mul (AE.p (a_var 1 rfl)) (AE.p (a_var 1 rfl)))) (AE.p (a_bin b_mul (AE.p a_int) (AE.p (a_var 1 rfl)))))) (AE.p a_int)))))))
  as_next)
  (as_ret (AE.w (a_var 2 rfl)))))) (by decide) h⟩)
abbrev s_l_words : Stmt := top 24
theorem sc_l_words : FnScope ["_law_cell_here", "_law_many", "_law_letters", "_law_long", "_law_size", "_law_stem", "_law_at"] ["_law_cell_here", "_law_many"] (defScope s_l_words) := ⟨rfl, rfl, rfl, by decide +kernel, rfl, by decide +kernel, by decide +kernel⟩
theorem ok_l_words {f : Addr} {fd : FuncData} (F : Fun K "_law_words" "_law_words" s_l_words f fd) (T : Txt mg)  : FnOk P w K mg base CX0 1 f fd ["_law_cell_here", "_law_many"] (spN m_l_words) :=
  F.ok sc_l_words (fun vs H Q E h => lenN h) (fun cdv A outer s H vs Q E hr h => by
    have nd := sc_l_words.nd
    have hu := hu_of hr
    have hu64 := hr.units
    exact ⟨_, (pss_cons (ps_set (i := 2) nd rfl (Or.inr rfl) pe_str)
  (pss_cons (ps_if (pt_cmpR op_ltU (pe_op op_mod (pv 0) pe_int) pe_int (nomark _))
  (pss_cons (ps_set (i := 3) nd rfl (Or.inr rfl) (pe_bm PySem.F.plainAttrs_str PySem.F.slot_str_join PySem.F.type_str_join mt_join pe_str (pa_cons (pe_comp (N' := ["_law_letters", "_law_cell_here", "_law_k"]) (ρ := [some 2, some 0, none]) rfl (CompSc.of rfl (by kernel_rfl)) (pi_range1 rfl T.b_range (pa_cons pe_int pa_nil)) (fun _ _ _ _ _ => (pg_name (i := 2) (by show (["_law_letters", "_law_cell_here", "_law_k"] : List Str).Nodup; decide +kernel) rfl (Or.inl rfl))) (gk_name rfl) (fun _ _ _ _ _ => pts_nil) (fun _ _ _ _ _ => (pe_ix ix_seq (pv 0) (pe_op op_mod (pe_op op_fdivB (pv 1) (pe_op op_addU pe_int (pe_op op_mul pe_int (pv 2)))) pe_int) (fun _ _ => rfl)))) pa_nil)))
  (pss_cons (ps_if (pt_cmpR (op_eqD hu64) (pe_op op_mod (pv 0) pe_int) pe_int (nomark _))
  (pss_one (ps_ret (pe_comp (N' := ["_law_long", "_law_k"]) (ρ := [some 3, none]) rfl (CompSc.of rfl (by kernel_rfl)) (pi_range1 rfl T.b_range (pa_cons (pv 1) pa_nil)) (fun _ _ _ _ _ => (pg_name (i := 1) (by show (["_law_long", "_law_k"] : List Str).Nodup; decide +kernel) rfl (Or.inl rfl))) (gk_name rfl) (fun _ _ _ _ _ => pts_nil) (fun _ _ _ _ _ => (pe_slice sl_U (pv 0) po_none (po_some (pe_op op_addU (pv 1) pe_int)))))))
  pss_nil)
  (pss_one (ps_ret (pe_comp (N' := ["_law_long", "_law_k"]) (ρ := [some 3, none]) rfl (CompSc.of rfl (by kernel_rfl)) (pi_range1 rfl T.b_range (pa_cons (pv 1) pa_nil)) (fun _ _ _ _ _ => (pg_name (i := 1) (by show (["_law_long", "_law_k"] : List Str).Nodup; decide +kernel) rfl (Or.inl rfl))) (gk_name rfl) (fun _ _ _ _ _ => pts_nil) (fun _ _ _ _ _ => (pe_slice sl_U (pv 0) (po_some (pe_op op_sub pe_int (pv 1))) po_none)))))))
  pss_nil)
  (pss_cons (ps_set (i := 4) nd rfl (Or.inl rfl) (pe_op op_mod (pe_op op_fdivB (pv 0) pe_int) pe_int))
  (pss_cons (ps_set (i := 5) nd rfl (Or.inr rfl) (pe_bm PySem.F.plainAttrs_str PySem.F.slot_str_join PySem.F.type_str_join mt_join pe_str (pa_cons (pe_comp (N' := ["_law_letters", "_law_cell_here", "_law_k"]) (ρ := [some 2, some 0, none]) rfl (CompSc.of rfl (by kernel_rfl)) (pi_range1 rfl T.b_range (pa_cons (pv 4) pa_nil)) (fun _ _ _ _ _ => (pg_name (i := 2) (by show (["_law_letters", "_law_cell_here", "_law_k"] : List Str).Nodup; decide +kernel) rfl (Or.inl rfl))) (gk_name rfl) (fun _ _ _ _ _ => pts_nil) (fun _ _ _ _ _ => (pe_ix ix_seq (pv 0) (pe_op op_mod (pe_op op_addU (pe_op op_addU (pe_op op_fdivB (pv 1) pe_int) (pe_op op_mul pe_int (pv 2))) (pe_op op_mul (pv 2) (pv 2))) pe_int) (fun _ _ => rfl)))) pa_nil)))
  (pss_cons (ps_set (i := 6) nd rfl (Or.inr rfl) (pe_op op_mod (pe_op op_fdivB (pv 0) pe_int) (pe_op op_addU (pv 4) pe_int)))
  (pss_one (ps_ret (pe_comp (N' := ["_law_stem", "_law_letters", "_law_at", "_law_cell_here", "_law_k"]) (ρ := [some 5, some 2, some 6, some 0, none]) rfl (CompSc.of rfl (by kernel_rfl)) (pi_range1 rfl T.b_range (pa_cons (pv 1) pa_nil)) (fun _ _ _ _ _ => (pg_name (i := 4) (by show (["_law_stem", "_law_letters", "_law_at", "_law_cell_here", "_law_k"] : List Str).Nodup; decide +kernel) rfl (Or.inl rfl))) (gk_name rfl) (fun _ _ _ _ _ => pts_nil) (fun _ _ _ _ _ => (pe_op op_addU (pe_op op_addU (pe_slice sl_U (pv 0) po_none (po_some (pv 2))) (pe_ix ix_seq (pv 1) (pe_op op_mod (pe_op op_addU (pe_op op_fdivB (pv 3) pe_int) (pe_op op_mul pe_int (pv 4))) pe_int) (fun _ _ => rfl))) (pe_slice sl_U (pv 0) (po_some (pv 2)) po_none))))))))))),
    _root_.A.runN (N := ["_law_cell_here", "_law_many", "_law_letters", "_law_long", "_law_size", "_law_stem", "_law_at"]) (M := Mo []) (as_seq (as_set 2 rfl a_str)
  (as_seq (as_if (at_test (AE.p (a_bin b_lt (AE.p (a_bin b_mod (AE.p (a_var 0 rfl)) (AE.p a_int))) (AE.p a_int))))
  (as_seq (as_set 3 rfl (a_join (AE.p a_str) (AE.np (a_comp (K := K) (tg := (.n 2)) (AIf.c (ai_range1 (AE.p a_int))) (by decide) at_yes (a_bin b_ix (AE.p (a_var 0 rfl)) (AE.p (a_bin b_mod (AE.p (a_bin b_div (AE.p (a_var 1 rfl)) (AE.p (a_bin b_add (AE.p a_int) (AE.p (a_bin b_mul (AE.p a_int) (AE.p (a_var 2 rfl)))))))) (AE.p a_int))))))))
  (as_seq (as_if (at_test (AE.p (a_bin b_eq (AE.p (a_bin b_mod (AE.p (a_var 0 rfl)) (AE.p a_int))) (AE.p a_int))))
  (as_retN (AE.w (a_comp (K := K) (tg := (.n 1)) (AIf.c (ai_range1 (AE.p (a_var 1 rfl)))) (by decide) at_yes (a_sl b_slV (AE.p (a_var 0 rfl)) ao_none (ao_some (AE.p (a_bin b_add (AE.p (a_var 1 rfl)) (AE.p a_int))))))))
  as_next)
  (as_retN (AE.w (a_comp (K := K) (tg := (.n 1)) (AIf.c (ai_range1 (AE.p (a_var 1 rfl)))) (by decide) at_yes (a_sl b_slV (AE.p (a_var 0 rfl)) (ao_some (AE.p (a_bin b_sub (AE.p a_int) (AE.p (a_var 1 rfl))))) ao_none))))))
  as_next)
  (as_seq (as_set 4 rfl (a_bin b_mod (AE.p (a_bin b_div (AE.p (a_var 0 rfl)) (AE.p a_int))) (AE.p a_int)))
  (as_seq (as_set 5 rfl (a_join (AE.p a_str) (AE.np (a_comp (K := K) (tg := (.n 2)) (AIf.c (ai_range1 (AE.p (a_var 4 rfl)))) (by decide) at_yes (a_bin b_ix (AE.p (a_var 0 rfl)) (AE.p (a_bin b_mod (AE.p (a_bin b_add (AE.p (a_bin b_add (AE.p (a_bin b_div (AE.p (a_var 1 rfl)) (AE.p a_int))) (AE.p (a_bin b_mul (AE.p a_int) (AE.p (a_var 2 rfl)))))) (AE.p (a_bin b_mul (AE.p (a_var 2 rfl)) (AE.p (a_var 2 rfl)))))) (AE.p a_int))))))))
  (as_seq (as_set 6 rfl (a_bin b_mod (AE.p (a_bin b_div (AE.p (a_var 0 rfl)) (AE.p a_int))) (AE.p (a_bin b_add (AE.p (a_var 4 rfl)) (AE.p a_int)))))
  (as_retN (AE.w (a_comp (K := K) (tg := (.n 4)) (AIf.c (ai_range1 (AE.p (a_var 1 rfl)))) (by decide) at_yes (a_bin b_add (AE.p (a_bin b_add (AE.p (a_sl b_slV (AE.p (a_var 0 rfl)) ao_none (ao_some (AE.p (a_var 2 rfl))))) (AE.p (a_bin b_ix (AE.p (a_var 1 rfl)) (AE.p (a_bin b_mod (AE.p (a_bin b_add (AE.p (a_bin b_div (AE.p (a_var 3 rfl)) (AE.p a_int))) (AE.p (a_bin b_mul (AE.p a_int) (AE.p (a_var 4 rfl)))))) (AE.p a_int))))))) (AE.p (a_sl b_slV (AE.p (a_var 0 rfl)) (ao_some (AE.p (a_var 2 rfl))) ao_none))))))))))) (by decide) h⟩)
abbrev s_l_ranks : Stmt := top 25
theorem sc_l_ranks : FnScope ["_law_cell_here", "_law_many", "_law_left", "_law_ranks_here", "_law_draw", "_law_k"] ["_law_cell_here", "_law_many"] (defScope s_l_ranks) := ⟨rfl, rfl, rfl, by decide +kernel, rfl, by decide +kernel, by decide +kernel⟩
theorem ok_l_ranks {f : Addr} {fd : FuncData} (F : Fun K "_law_ranks" "_law_ranks" s_l_ranks f fd) (T : Txt mg)  : FnOk P w K mg base CX0 1 f fd ["_law_cell_here", "_law_many"] (spN m_l_ranks_2) :=
  F.ok sc_l_ranks (fun vs H Q E h => lenN h) (fun cdv A outer s H vs Q E hr h => by
    have nd := sc_l_ranks.nd
    have hu := hu_of hr
    have hu64 := hr.units
    exact ⟨_, (pss_cons (ps_setC (i := 2) (N' := ["_law_k"]) (ρ := [none]) rfl nd rfl (Or.inl rfl) (CompSc.of rfl (by kernel_rfl)) (pi_range1 rfl T.b_range (pa_cons (pv 1) pa_nil)) (fun _ _ _ _ _ => (pg_name (i := 0) (by show (["_law_k"] : List Str).Nodup; decide +kernel) rfl (Or.inl rfl))) (gk_name rfl) (fun _ _ _ _ _ => pts_nil) (fun _ _ _ _ _ => (pv 0)))
  (pss_cons (ps_set (i := 3) nd rfl (Or.inl rfl) (pe_lst pa_nil))
  (pss_cons (ps_set (i := 4) nd rfl (Or.inl rfl) (pe_op op_mod (pv 0) pe_int))
  (pss_cons (ps_for PassesOwn.never rfl (pi_range1 rfl T.b_range (pa_cons (pv 1) pa_nil)) (pg_name (i := 5) nd rfl (Or.inl rfl))
  (pss_cons (ps_set (i := 4) nd rfl (Or.inl rfl) (pe_op op_mod (pe_op op_addU (pe_op op_addU (pe_op op_mul (pv 4) pe_int) (pe_op op_mul pe_int (pv 5))) pe_int) pe_int))
  (pss_one (ps_expr (pe_bm PySem.F.plainAttrs_list PySem.F.slot_list_append PySem.F.type_list_append mt_append (pv 3) (pa_cons (pe_bm PySem.F.plainAttrs_list PySem.F.slot_list_pop PySem.F.type_list_pop mt_popAt (pv 2) (pa_cons (pe_op op_mod (pe_op op_fdivB (pv 4) pe_int) (pe_callB call_lenU rfl T.b_len PySem.boot_len (pa_cons (pv 2) pa_nil))) pa_nil)) pa_nil))))))
  (pss_one (ps_ret (pv 3))))))),
    _root_.A.runN (N := ["_law_cell_here", "_law_many", "_law_left", "_law_ranks_here", "_law_draw", "_law_k"]) (M := Mo [2, 3]) (as_seq (as_new 2 rfl (a_comp (K := K) (tg := (.n 0)) (AIf.c (ai_range1 (AE.p (a_var 1 rfl)))) (by decide) at_yes (a_var 0 rfl)))
  (as_seq (as_new 3 rfl (a_lst aa_nil))
  (as_seq (as_set 4 rfl (a_bin b_mod (AE.p (a_var 0 rfl)) (AE.p a_int)))
  (as_seq (as_for (K := K) (tg := (.n 5)) (ai_range1 (AE.p (a_var 1 rfl))) (by decide)
  (as_seq (as_set 4 rfl (a_bin b_mod (AE.p (a_bin b_add (AE.p (a_bin b_add (AE.p (a_bin b_mul (AE.p (a_var 4 rfl)) (AE.p a_int))) (AE.p (a_bin b_mul (AE.p a_int) (AE.p (a_var 5 rfl)))))) (AE.p a_int))) (AE.p a_int)))
  (as_appendPop 3 2 (by decide) rfl rfl (AE.p (a_bin b_mod (AE.p (a_bin b_div (AE.p (a_var 4 rfl)) (AE.p a_int))) (AE.p (a_cb b_len (aa_cons (a_varP 2) aa_nil))))))))
  (as_retOwn 3 rfl))))) (by decide) h⟩)
abbrev s_l_net : Stmt := top 26
theorem sc_l_net : FnScope ["_law_script", "_law_most", "_law_many", "_law_names", "_law_ranks_here", "_law_thick", "_law_arrows", "_law_j", "_law_k", "_law_cell_here"] ["_law_script", "_law_most"] (defScope s_l_net) := ⟨rfl, rfl, rfl, by decide +kernel, rfl, by decide +kernel, by decide +kernel⟩
theorem ok_l_net {f : Addr} {fd : FuncData} (F : Fun K "_law_net" "_law_net" s_l_net f fd) (T : Txt mg) (C_l_cell : Cal P w K mg base CX0 1 "_law_cell" ["_law_script", "_law_k"] (spD m_l_cell)) (C_l_words : Cal P w K mg base CX0 1 "_law_words" ["_law_cell_here", "_law_many"] (spN m_l_words)) (C_l_ranks : Cal P w K mg base CX0 1 "_law_ranks" ["_law_cell_here", "_law_many"] (spN m_l_ranks_2)) : FnOk P w K mg base CX0 2 f fd ["_law_script", "_law_most"] (spD m_l_net_2) :=
  F.ok sc_l_net (fun vs H Q E h => lenD h) (fun cdv A outer s H vs Q E hr h => by
    have nd := sc_l_net.nd
    have hu := hu_of hr
    have hu64 := hr.units
    have hr_l_cell := hr.mono (show 1 ≤ _ by decide)
    have hr_l_words := hr.mono (show 1 ≤ _ by decide)
    have hr_l_ranks := hr.mono (show 1 ≤ _ by decide)
    exact ⟨_, (pss_cons (ps_set (i := 2) nd rfl (Or.inl rfl) (pe_op op_addU pe_int (pe_op op_mod (pe_cal C_l_cell hr_l_cell rfl pass0 (pa_cons (pv 0) (pa_cons pe_int pa_nil))) (pv 1))))
  (pss_cons (ps_set (i := 3) nd rfl (Or.inl rfl) (pe_cal C_l_words hr_l_words rfl pass0 (pa_cons (pe_cal C_l_cell hr_l_cell rfl pass0 (pa_cons (pv 0) (pa_cons pe_int pa_nil))) (pa_cons (pv 2) pa_nil))))
  (pss_cons (ps_set (i := 4) nd rfl (Or.inl rfl) (pe_cal C_l_ranks hr_l_ranks rfl pass0 (pa_cons (pe_cal C_l_cell hr_l_cell rfl pass0 (pa_cons (pv 0) (pa_cons pe_int pa_nil))) (pa_cons (pv 2) pa_nil))))
  (pss_cons (ps_set (i := 5) nd rfl (Or.inl rfl) (pe_ix ix_seq (pe_lst (pa_cons pe_int (pa_cons pe_int (pa_cons pe_int (pa_cons pe_int (pa_cons pe_int (pa_cons pe_int pa_nil))))))) (pe_op op_mod (pe_cal C_l_cell hr_l_cell rfl pass0 (pa_cons (pv 0) (pa_cons pe_int pa_nil))) pe_int) (fun _ _ => rfl)))
  (pss_cons (ps_set (i := 6) nd rfl (Or.inl rfl) (pe_lst pa_nil))
  (pss_cons (ps_for PassesOwn.never rfl (pi_range1 rfl T.b_range (pa_cons (pv 2) pa_nil)) (pg_name (i := 7) nd rfl (Or.inl rfl))
  (pss_one (ps_for PassesOwn.never rfl (pi_range1 rfl T.b_range (pa_cons (pv 2) pa_nil)) (pg_name (i := 8) nd rfl (Or.inl rfl))
  (pss_cons (ps_set (i := 9) nd rfl (Or.inl rfl) (pe_cal C_l_cell hr_l_cell rfl pass0 (pa_cons (pv 0) (pa_cons (pe_op op_addU (pe_op op_addU pe_int (pe_op op_fdivB (pe_op op_mul (pe_callB (call_maxU rfl) rfl T.b_max boot_max (pa_cons (pv 7) (pa_cons (pv 8) pa_nil))) (pe_op op_sub (pe_callB (call_maxU rfl) rfl T.b_max boot_max (pa_cons (pv 7) (pa_cons (pv 8) pa_nil))) pe_int)) pe_int)) (pe_callB (call_minU rfl) rfl T.b_min boot_min (pa_cons (pv 7) (pa_cons (pv 8) pa_nil)))) pa_nil))))
  (pss_one (ps_if (PW.pt (pw_and (pt_cmpR op_ltU (pe_ix ix_seq (pv 4) (pv 7) (fun _ _ => rfl)) (pe_ix ix_seq (pv 4) (pv 8) (fun _ _ => rfl)) (nomark _)) (pw_and1 (pt_cmpR op_ltU (pe_op op_mod (pe_op op_fdivB (pe_op op_mod (pe_op op_mul (pv 9) pe_int) pe_int) pe_int) pe_int) (pv 5) (nomark _)))))
  (pss_one (ps_expr (pe_bm PySem.F.plainAttrs_list PySem.F.slot_list_append PySem.F.type_list_append mt_append (pv 6) (pa_cons (pe_tup (pa_cons (pe_ix ix_seq (pv 3) (pv 7) (fun _ _ => rfl)) (pa_cons (pe_ix ix_seq (pv 3) (pv 8) (fun _ _ => rfl)) pa_nil))) pa_nil))))
  pss_nil))))))
  (pss_one (ps_ret (pe_tup (pa_cons (pe_callTy call_tupleU rfl T.b_tuple boot_tuple (pa_cons (pv 3) pa_nil)) (pa_cons (pe_callTy call_tupleU rfl T.b_tuple boot_tuple (pa_cons (pv 6) pa_nil)) pa_nil))))))))))),
    _root_.A.runD (N := ["_law_script", "_law_most", "_law_many", "_law_names", "_law_ranks_here", "_law_thick", "_law_arrows", "_law_j", "_law_k", "_law_cell_here"]) (M := Mo [6]) (as_seq (as_set 2 rfl (a_bin b_add (AE.p a_int) (AE.p (a_bin b_mod (AE.p (a_call (aw_cons (AE.w (a_var 0 rfl)) (aw_cons (AE.w a_int) aw_nil)))) (AE.p (a_var 1 rfl))))))
  (as_seq (as_set 3 rfl (AE.nv (a_callN (aw_cons (AE.w (a_call (aw_cons (AE.w (a_var 0 rfl)) (aw_cons (AE.w a_int) aw_nil)))) (aw_cons (AE.w (a_var 2 rfl)) aw_nil)))))
  (as_seq (as_set 4 rfl (AE.nv (a_callN (aw_cons (AE.w (a_call (aw_cons (AE.w (a_var 0 rfl)) (aw_cons (AE.w a_int) aw_nil)))) (aw_cons (AE.w (a_var 2 rfl)) aw_nil)))))
  (as_seq (as_set 5 rfl (a_bin b_ix (AE.np (a_lst (aa_cons a_int (aa_cons a_int (aa_cons a_int (aa_cons a_int (aa_cons a_int (aa_cons a_int aa_nil)))))))) (AE.p (a_bin b_mod (AE.p (a_call (aw_cons (AE.w (a_var 0 rfl)) (aw_cons (AE.w a_int) aw_nil)))) (AE.p a_int)))))
  (as_seq (as_new 6 rfl (a_lst aa_nil))
  (as_seq (as_for (K := K) (tg := (.n 7)) (ai_range1 (AE.p (a_var 2 rfl))) (by decide)
  (as_for (K := K) (tg := (.n 8)) (ai_range1 (AE.p (a_var 2 rfl))) (by decide)
  (as_seq (as_set 9 rfl (a_call (aw_cons (AE.w (a_var 0 rfl)) (aw_cons (AE.w (a_bin b_add (AE.p (a_bin b_add (AE.p a_int) (AE.p (a_bin b_div (AE.p (a_bin b_mul (AE.p (a_cb b_max (aa_cons (AE.p (a_var 7 rfl)) (aa_cons (AE.p (a_var 8 rfl)) aa_nil)))) (AE.p (a_bin b_sub (AE.p (a_cb b_max (aa_cons (AE.p (a_var 7 rfl)) (aa_cons (AE.p (a_var 8 rfl)) aa_nil)))) (AE.p a_int))))) (AE.p a_int))))) (AE.p (a_cb b_min (aa_cons (AE.p (a_var 7 rfl)) (aa_cons (AE.p (a_var 8 rfl)) aa_nil)))))) aw_nil))))
  (as_if (at_and (at_test (AE.p (a_bin b_lt (AE.p (a_bin b_ix (AE.p (a_var 4 rfl)) (AE.p (a_var 7 rfl)))) (AE.p (a_bin b_ix (AE.p (a_var 4 rfl)) (AE.p (a_var 8 rfl))))))) (at_test (AE.p (a_bin b_lt (AE.p (a_bin b_mod (AE.p (a_bin b_div (AE.p (a_bin b_mod (AE.p (a_bin b_mul (AE.p (a_var 9 rfl)) (AE.p a_int))) (AE.p a_int))) (AE.p a_int))) (AE.p a_int))) (AE.p (a_var 5 rfl))))))
  (as_append 6 rfl (a_tup (aa_cons (a_bin b_ix (AE.p (a_var 3 rfl)) (AE.p (a_var 7 rfl))) (aa_cons (a_bin b_ix (AE.p (a_var 3 rfl)) (AE.p (a_var 8 rfl))) aa_nil))))
  as_next))))
  (as_ret (AE.w (a_tup (aa_cons (a_cb b_tuple (aa_cons (AE.p (a_var 3 rfl)) aa_nil)) (aa_cons (a_cb b_tuple (aa_cons (a_varP 6) aa_nil)) aa_nil))))))))))) (by decide) h⟩)
abbrev s_l_alike : Stmt := top 27
theorem sc_l_alike : FnScope ["_law_found", "_law_due", "_law_one", "_law_other"] ["_law_found", "_law_due"] (defScope s_l_alike) := ⟨rfl, rfl, rfl, by decide +kernel, rfl, by decide +kernel, by decide +kernel⟩
theorem ok_l_alike {f : Addr} {fd : FuncData} (F : Fun K "_law_alike" "_law_alike" s_l_alike f fd) (T : Txt mg)  (self : ∀ n, FnOk P w K mg base CX0 (n + 1) f fd ["_law_found", "_law_due"] (spD (m_l_alike n)) → Cal P w K mg base CX0 (n + 1) "_law_alike" ["_law_found", "_law_due"] (spD (m_l_alike n))) : ∀ n, FnOk P w K mg base CX0 (n + 1) f fd ["_law_found", "_law_due"] (spD (m_l_alike n))
  | 0 => fnOk_zero
  | n + 1 => F.ok sc_l_alike (fun vs H Q E h => lenD h) (fun cdv A outer s H vs Q E hr h => by
    have C_l_alike : ∀ m : Nat, m = n → Cal P w K mg base CX0 (m + 1) "_law_alike" ["_law_found", "_law_due"] (spD (m_l_alike m)) := fun m e => by subst e; exact self m (ok_l_alike F T  self m)
    have C_l_alike := fun m : Nat => (C_l_alike n rfl : Cal P w K mg base CX0 (n + 1) "_law_alike" ["_law_found", "_law_due"] (spD (m_l_alike n)))
    have nd := sc_l_alike.nd
    have hu := hu_of hr
    have hu64 := hr.units
    have hr_l_alike := hr.mono (show (n + 1) ≤ _ by omega)
    exact ⟨_, (pss_cons (ps_if (PW.pt (pw_or (pt_val (pe_callB call_isT rfl T.b_isinstance boot_isinstance (pa_cons (pv 1) (pa_cons (pe_ty rfl T.b_str boot_str) pa_nil)))) (pw_or1 (pt_val (pe_callB call_isT rfl T.b_isinstance boot_isinstance (pa_cons (pv 1) (pa_cons (pe_ty rfl T.b_int boot_int) pa_nil)))))))
  (pss_cons (ps_if (PW.pt (pw_or (pt_cmpR (op_neD hu64) (pe_callB call_isT rfl T.b_isinstance boot_isinstance (pa_cons (pv 0) (pa_cons (pe_ty rfl T.b_bool boot_bool) pa_nil))) (pe_callB call_isT rfl T.b_isinstance boot_isinstance (pa_cons (pv 1) (pa_cons (pe_ty rfl T.b_bool boot_bool) pa_nil))) (nomark _)) (pw_or1 (pt_cmpR (op_neD hu64) (pe_callB call_isT rfl T.b_isinstance boot_isinstance (pa_cons (pv 0) (pa_cons (pe_ty rfl T.b_str boot_str) pa_nil))) (pe_callB call_isT rfl T.b_isinstance boot_isinstance (pa_cons (pv 1) (pa_cons (pe_ty rfl T.b_str boot_str) pa_nil))) (nomark _)))))
  (pss_one (ps_ret pe_bl))
  pss_nil)
  (pss_one (ps_ret (pe_and (pe_callB Zp.call_isTs rfl T.b_isinstance boot_isinstance (pa_cons (pv 0) (pa_cons (pe_tup (pa_cons (pe_ty rfl T.b_int boot_int) (pa_cons (pe_ty rfl T.b_str boot_str) pa_nil))) pa_nil))) (pe_one (pe_cmpR (op_eqD hu64) (pv 0) (pv 1) (nomark _)))))))
  pss_nil)
  (pss_cons (ps_if (PW.pt (pw_or (pt_cmpR (op_neD hu64) (pe_callB call_isT rfl T.b_isinstance boot_isinstance (pa_cons (pv 0) (pa_cons (pe_ty rfl T.b_list boot_list) pa_nil))) (pe_callB call_isT rfl T.b_isinstance boot_isinstance (pa_cons (pv 1) (pa_cons (pe_ty rfl T.b_list boot_list) pa_nil))) (nomark _)) (pw_or1 (pt_not (pt_val (pe_callB Zp.call_isTs rfl T.b_isinstance boot_isinstance (pa_cons (pv 0) (pa_cons (pe_tup (pa_cons (pe_ty rfl T.b_list boot_list) (pa_cons (pe_ty rfl T.b_tuple boot_tuple) pa_nil))) pa_nil))))))))
  (pss_one (ps_ret pe_bl))
  pss_nil)
  (pss_cons (ps_if (pt_cmpR (op_neD hu64) (pe_callB call_lenU rfl T.b_len PySem.boot_len (pa_cons (pv 0) pa_nil)) (pe_callB call_lenU rfl T.b_len PySem.boot_len (pa_cons (pv 1) pa_nil)) (nomark _))
  (pss_one (ps_ret pe_bl))
  pss_nil)
  (pss_cons (ps_for PassesOwn.never rfl (Zp.pi_zip2 rfl T.b_zip (pv 0) (pv 1)) (pg_tup rfl (pgs_cons (pg_name (i := 2) nd rfl (Or.inl rfl)) (pgs_cons (pg_name (i := 3) nd rfl (Or.inl rfl)) pgs_nil)))
  (pss_one (ps_if (pt_not (pt_val (pe_cal (C_l_alike n) hr_l_alike rfl pass0 (pa_cons (pv 2) (pa_cons (pv 3) pa_nil)))))
  (pss_one (ps_ret pe_bl))
  pss_nil)))
  (pss_one (ps_ret pe_bl)))))),
    _root_.A.runD (N := ["_law_found", "_law_due", "_law_one", "_law_other"]) (M := Mo []) (as_seq (as_if (at_or (at_b (AE.p (a_is (ty_str K) (AE.p (a_var 1 rfl))))) (at_b (AE.p (a_is (ty_int K) (AE.p (a_var 1 rfl))))))
  (as_seq (as_if (at_or (at_test (AE.p (a_bin b_ne (AE.p (a_is (ty_bool K) (AE.p (a_var 0 rfl)))) (AE.p (a_is (ty_bool K) (AE.p (a_var 1 rfl))))))) (at_test (AE.p (a_bin b_ne (AE.p (a_is (ty_str K) (AE.p (a_var 0 rfl)))) (AE.p (a_is (ty_str K) (AE.p (a_var 1 rfl))))))))
  (as_ret (AE.w a_bl))
  as_next)
  (as_ret (AE.w (a_and (AE.p (Zp.a_iss (Zp.tys2 (ty_int K) (ty_str K)) (by decide) (AE.p (a_var 0 rfl)))) (a_bin b_eq (AE.p (a_var 0 rfl)) (AE.p (a_var 1 rfl)))))))
  as_next)
  (as_seq (as_if (at_or (at_test (AE.p (a_bin b_ne (AE.p (a_is (ty_list K) (AE.p (a_var 0 rfl)))) (AE.p (a_is (ty_list K) (AE.p (a_var 1 rfl))))))) (at_not (at_b (AE.p (Zp.a_iss (Zp.tys2 (ty_list K) (ty_tuple K)) (by decide) (AE.p (a_var 0 rfl)))))))
  (as_ret (AE.w a_bl))
  as_next)
  (as_seq (as_if (at_test (AE.p (a_bin b_ne (AE.p (a_cb b_len (aa_cons (AE.p (a_var 0 rfl)) aa_nil))) (AE.p (a_cb b_len (aa_cons (AE.p (a_var 1 rfl)) aa_nil))))))
  (as_ret (AE.w a_bl))
  as_next)
  (as_seq (as_for (K := K) (tg := (.t [2, 3])) (Zp.ai_zip2 (a_var 0 rfl) (a_var 1 rfl)) (by decide)
  (as_if (at_not (at_b (AE.p (a_call (aw_cons (AE.w (a_var 2 rfl)) (aw_cons (AE.w (a_var 3 rfl)) aw_nil))))))
  (as_ret (AE.w a_bl))
  as_next))
  (as_ret (AE.w a_bl)))))) (by decide) h⟩)
abbrev s_l_stranger : Stmt := top 28
theorem sc_l_stranger : FnScope ["_law_names", "_law_cell_here", "_law_one", "_law_letters", "_law_some"] ["_law_names", "_law_cell_here"] (defScope s_l_stranger) := ⟨rfl, rfl, rfl, by decide +kernel, rfl, by decide +kernel, by decide +kernel⟩
theorem ok_l_stranger {f : Addr} {fd : FuncData} (F : Fun K "_law_stranger" "_law_stranger" s_l_stranger f fd) (T : Txt mg)  : FnOk P w K mg base CX0 1 f fd ["_law_names", "_law_cell_here"] (spD m_l_stranger) :=
  F.ok sc_l_stranger (fun vs H Q E h => lenD h) (fun cdv A outer s H vs Q E hr h => by
    have nd := sc_l_stranger.nd
    have hu := hu_of hr
    have hu64 := hr.units
    exact ⟨_, (pss_cons (ps_set (i := 2) nd rfl (Or.inl rfl) (pe_ix ix_seq (pv 0) (pe_op op_mod (pv 1) (pe_callB call_lenU rfl T.b_len PySem.boot_len (pa_cons (pv 0) pa_nil))) (fun _ _ => rfl)))
  (pss_cons (ps_set (i := 3) nd rfl (Or.inl rfl) pe_str)
  (pss_cons (ps_set (i := 4) nd rfl (Or.inl rfl) (pe_lst (pa_cons (pe_op op_addU (pv 2) (pe_ix ix_seq (pv 3) (pe_op op_mod (pe_op op_fdivB (pv 1) pe_int) pe_int) (fun _ _ => rfl))) (pa_cons (pe_slice sl_U (pv 2) (po_some pe_int) po_none) (pa_cons (pe_slice sl_U (pv 2) po_none (po_some (pe_un un_neg pe_int))) (pa_cons (pe_op op_addU (pe_ix ix_seq (pv 3) (pe_op op_mod (pe_op op_fdivB (pv 1) pe_int) pe_int) (fun _ _ => rfl)) (pv 2)) (pa_cons (pe_bm0 PySem.F.plainAttrs_str PySem.F.slot_str_upper PySem.F.type_str_upper mt_upper (pv 2)) pa_nil)))))))
  (pss_cons (ps_set (i := 4) nd rfl (Or.inl rfl) (pe_op op_addU (pv 4) (pe_comp (N' := ["_law_sign"]) (ρ := [none]) rfl (CompSc.of rfl (by kernel_rfl)) (pi_seq (pv 3)) (fun _ _ _ _ _ => (pg_name (i := 0) (by show (["_law_sign"] : List Str).Nodup; decide +kernel) rfl (Or.inl rfl))) (gk_name rfl) (fun _ _ _ _ _ => pts_nil) (fun _ _ _ _ _ => (pv 0)))))
  (pss_cons (ps_setC (i := 4) (N' := ["_law_names", "_law_text"]) (ρ := [some 0, none]) rfl nd rfl (Or.inl rfl) (CompSc.of rfl (by kernel_rfl)) (pi_seq (pv 4)) (fun _ _ _ _ _ => (pg_name (i := 1) (by show (["_law_names", "_law_text"] : List Str).Nodup; decide +kernel) rfl (Or.inl rfl))) (gk_name rfl) (fun _ _ _ _ _ => (pts_one (PW.pt (pw_and (pt_cmpR (op_notInD hu64) (pv 1) (pv 0) rfl) (pw_and1 (pt_cmpR (op_neD hu64) (pv 1) pe_str (nomark _))))))) (fun _ _ _ _ _ => (pv 1)))
  (pss_one (ps_ret (pe_ix ix_seq (pv 4) (pe_op op_mod (pe_op op_fdivB (pv 1) pe_int) (pe_callB (call_minU rfl) rfl T.b_min boot_min (pa_cons pe_int (pa_cons (pe_callB call_lenU rfl T.b_len PySem.boot_len (pa_cons (pv 4) pa_nil)) pa_nil)))) (fun _ _ => rfl))))))))),
    _root_.A.runD (N := ["_law_names", "_law_cell_here", "_law_one", "_law_letters", "_law_some"]) (M := Mo []) (as_seq (as_set 2 rfl (a_bin b_ix (AE.p (a_var 0 rfl)) (AE.p (a_bin b_mod (AE.p (a_var 1 rfl)) (AE.p (a_cb b_len (aa_cons (AE.p (a_var 0 rfl)) aa_nil)))))))
  (as_seq (as_set 3 rfl a_str)
  (as_seq (as_set 4 rfl (AE.nv (a_lst (aa_cons (a_bin b_add (AE.p (a_var 2 rfl)) (AE.p (a_bin b_ix (AE.p (a_var 3 rfl)) (AE.p (a_bin b_mod (AE.p (a_bin b_div (AE.p (a_var 1 rfl)) (AE.p a_int))) (AE.p a_int)))))) (aa_cons (a_sl b_slV (AE.p (a_var 2 rfl)) (ao_some (AE.p a_int)) ao_none) (aa_cons (a_sl b_slV (AE.p (a_var 2 rfl)) ao_none (ao_some (AE.p (a_un b_neg (AE.p a_int))))) (aa_cons (a_bin b_add (AE.p (a_bin b_ix (AE.p (a_var 3 rfl)) (AE.p (a_bin b_mod (AE.p (a_bin b_div (AE.p (a_var 1 rfl)) (AE.p a_int))) (AE.p a_int))))) (AE.p (a_var 2 rfl))) (aa_cons (a_upper (AE.p (a_var 2 rfl))) aa_nil))))))))
  (as_seq (as_set 4 rfl (a_bin b_add (AE.p (a_var 4 rfl)) (AE.np (a_comp (K := K) (tg := (.n 0)) (ai_seqC (AE.p (a_var 3 rfl))) (by decide) at_yes (a_var 0 rfl)))))
  (as_seq (as_set 4 rfl (AE.nv (a_comp (K := K) (tg := (.n 1)) (ai_seqC (AE.p (a_var 4 rfl))) (by decide) (at_and (at_test (AE.p (a_bin b_notin (AE.p (a_var 1 rfl)) (AE.p (a_var 0 rfl))))) (at_test (AE.p (a_bin b_ne (AE.p (a_var 1 rfl)) (AE.p a_str))))) (a_var 1 rfl))))
  (as_ret (AE.w (a_bin b_ix (AE.p (a_var 4 rfl)) (AE.p (a_bin b_mod (AE.p (a_bin b_div (AE.p (a_var 1 rfl)) (AE.p a_int))) (AE.p (a_cb b_min (aa_cons (AE.p a_int) (aa_cons (AE.p (a_cb b_len (aa_cons (AE.p (a_var 4 rfl)) aa_nil))) aa_nil)))))))))))))) (by decide) h⟩)
abbrev s_l_spread : Stmt := top 30
theorem sc_l_spread : FnScope ["_law_arrows", "_law_name", "_law_met", "_law_turn", "_law_tail", "_law_head"] ["_law_arrows", "_law_name"] (defScope s_l_spread) := ⟨rfl, rfl, rfl, by decide +kernel, rfl, by decide +kernel, by decide +kernel⟩
theorem ok_l_spread {f : Addr} {fd : FuncData} (F : Fun K "_law_spread" "_law_spread" s_l_spread f fd) (T : Txt mg)  : FnOk P w K mg base CX0 1 f fd ["_law_arrows", "_law_name"] (spN m_l_spread) :=
  F.ok sc_l_spread (fun vs H Q E h => lenN h) (fun cdv A outer s H vs Q E hr h => by
    have nd := sc_l_spread.nd
    have hu := hu_of hr
    have hu64 := hr.units
    exact ⟨_, (pss_cons (ps_set (i := 2) nd rfl (Or.inl rfl) (pe_lst (pa_cons (pv 1) pa_nil)))
  (pss_cons (ps_for PassesOwn.never rfl (pi_range1 rfl T.b_range (pa_cons pe_int pa_nil)) (pg_name (i := 3) nd rfl (Or.inl rfl))
  (pss_one (ps_for PassesOwn.never rfl (pi_seq (pv 0)) (pg_tup rfl (pgs_cons (pg_name (i := 4) nd rfl (Or.inl rfl)) (pgs_cons (pg_name (i := 5) nd rfl (Or.inl rfl)) pgs_nil)))
  (pss_one (ps_if (PW.pt (pw_and (pt_cmpR (op_inU hu64) (pv 4) (pv 2) rfl) (pw_and1 (pt_cmpR (op_notInD hu64) (pv 5) (pv 2) rfl))))
  (pss_one (ps_expr (pe_bm PySem.F.plainAttrs_list PySem.F.slot_list_append PySem.F.type_list_append mt_append (pv 2) (pa_cons (pv 5) pa_nil))))
  pss_nil)))))
  (pss_one (ps_ret (pv 2))))),
    _root_.A.runN (N := ["_law_arrows", "_law_name", "_law_met", "_law_turn", "_law_tail", "_law_head"]) (M := Mo [2]) (as_seq (as_new 2 rfl (a_lst (aa_cons (a_var 1 rfl) aa_nil)))
  (as_seq (as_for (K := K) (tg := (.n 3)) (ai_range1 (AE.p a_int)) (by decide)
  (as_for (K := K) (tg := (.t [4, 5])) (ai_seq (a_var 0 rfl)) (by decide)
  (as_if (at_and (at_test (AE.p (a_bin b_in (AE.p (a_var 4 rfl)) (a_varP 2)))) (at_test (AE.p (a_bin b_notin (AE.p (a_var 5 rfl)) (a_varP 2)))))
  (as_append 2 rfl (a_var 5 rfl))
  as_next)))
  (as_retOwn 2 rfl))) (by decide) h⟩)
abbrev s_l_below : Stmt := top 31
theorem sc_l_below : FnScope ["_law_net_here", "_law_name", "_law_met"] ["_law_net_here", "_law_name"] (defScope s_l_below) := ⟨rfl, rfl, rfl, by decide +kernel, rfl, by decide +kernel, by decide +kernel⟩
theorem ok_l_below {f : Addr} {fd : FuncData} (F : Fun K "_law_below" "_law_below" s_l_below f fd) (T : Txt mg) (C_l_spread : Cal P w K mg base CX0 1 "_law_spread" ["_law_arrows", "_law_name"] (spN m_l_spread)) : FnOk P w K mg base CX0 2 f fd ["_law_net_here", "_law_name"] (spN m_l_below) :=
  F.ok sc_l_below (fun vs H Q E h => lenN h) (fun cdv A outer s H vs Q E hr h => by
    have nd := sc_l_below.nd
    have hu := hu_of hr
    have hu64 := hr.units
    have hr_l_spread := hr.mono (show 1 ≤ _ by decide)
    exact ⟨_, (pss_cons (ps_set (i := 2) nd rfl (Or.inr rfl) (pe_cal C_l_spread hr_l_spread rfl pass0 (pa_cons (pe_ix ix_seq (pv 0) pe_int (fun _ _ => rfl)) (pa_cons (pv 1) pa_nil))))
  (pss_one (ps_ret (pe_comp (N' := ["_law_met", "_law_one"]) (ρ := [some 2, none]) rfl (CompSc.of rfl (by kernel_rfl)) (pi_seq (pe_ix ix_seq (pv 0) pe_int (fun _ _ => rfl))) (fun _ _ _ _ _ => (pg_name (i := 1) (by show (["_law_met", "_law_one"] : List Str).Nodup; decide +kernel) rfl (Or.inl rfl))) (gk_name rfl) (fun _ _ _ _ _ => (pts_one (pt_cmpR (op_inU hu64) (pv 1) (pv 0) rfl))) (fun _ _ _ _ _ => (pv 1)))))),
    _root_.A.runN (N := ["_law_net_here", "_law_name", "_law_met"]) (M := Mo []) (as_seq (as_set 2 rfl (AE.nv (a_callN (aw_cons (AE.w (a_bin b_ix (AE.p (a_var 0 rfl)) (AE.p a_int))) (aw_cons (AE.w (a_var 1 rfl)) aw_nil)))))
  (as_retN (AE.w (a_comp (K := K) (tg := (.n 1)) (ai_seqC (AE.p (a_bin b_ix (AE.p (a_var 0 rfl)) (AE.p a_int)))) (by decide) (at_test (AE.p (a_bin b_in (AE.p (a_var 1 rfl)) (AE.p (a_var 0 rfl))))) (a_var 1 rfl))))) (by decide) h⟩)
abbrev s_l_above : Stmt := top 32
theorem sc_l_above : FnScope ["_law_net_here", "_law_name", "_law_met"] ["_law_net_here", "_law_name"] (defScope s_l_above) := ⟨rfl, rfl, rfl, by decide +kernel, rfl, by decide +kernel, by decide +kernel⟩
theorem ok_l_above {f : Addr} {fd : FuncData} (F : Fun K "_law_above" "_law_above" s_l_above f fd) (T : Txt mg) (C_l_spread : Cal P w K mg base CX0 1 "_law_spread" ["_law_arrows", "_law_name"] (spN m_l_spread)) : FnOk P w K mg base CX0 2 f fd ["_law_net_here", "_law_name"] (spN m_l_above) :=
  F.ok sc_l_above (fun vs H Q E h => lenN h) (fun cdv A outer s H vs Q E hr h => by
    have nd := sc_l_above.nd
    have hu := hu_of hr
    have hu64 := hr.units
    have hr_l_spread := hr.mono (show 1 ≤ _ by decide)
    exact ⟨_, (pss_cons (ps_set (i := 2) nd rfl (Or.inr rfl) (pe_cal C_l_spread hr_l_spread rfl pass0 (pa_cons (pe_comp (N' := ["_law_tail", "_law_head"]) (ρ := [none, none]) rfl (CompSc.of rfl (by kernel_rfl)) (pi_seq (pe_ix ix_seq (pv 0) pe_int (fun _ _ => rfl))) (fun _ _ _ _ _ => (pg_tup rfl (pgs_cons (pg_name (i := 0) (by show (["_law_tail", "_law_head"] : List Str).Nodup; decide +kernel) rfl (Or.inl rfl)) (pgs_cons (pg_name (i := 1) (by show (["_law_tail", "_law_head"] : List Str).Nodup; decide +kernel) rfl (Or.inl rfl)) pgs_nil)))) (gk_tup (gk_cons1 rfl (gk_cons1 rfl gk_nil gm_nil) (gm_cons gm_nil))) (fun _ _ _ _ _ => pts_nil) (fun _ _ _ _ _ => (pe_tup (pa_cons (pv 1) (pa_cons (pv 0) pa_nil))))) (pa_cons (pv 1) pa_nil))))
  (pss_one (ps_ret (pe_comp (N' := ["_law_met", "_law_one"]) (ρ := [some 2, none]) rfl (CompSc.of rfl (by kernel_rfl)) (pi_seq (pe_ix ix_seq (pv 0) pe_int (fun _ _ => rfl))) (fun _ _ _ _ _ => (pg_name (i := 1) (by show (["_law_met", "_law_one"] : List Str).Nodup; decide +kernel) rfl (Or.inl rfl))) (gk_name rfl) (fun _ _ _ _ _ => (pts_one (pt_cmpR (op_inU hu64) (pv 1) (pv 0) rfl))) (fun _ _ _ _ _ => (pv 1)))))),
    _root_.A.runN (N := ["_law_net_here", "_law_name", "_law_met"]) (M := Mo []) (as_seq (as_set 2 rfl (AE.nv (a_callN (aw_cons (AW.nv (AE.w (a_comp (K := K) (tg := (.t [0, 1])) (ai_seqC (AE.p (a_bin b_ix (AE.p (a_var 0 rfl)) (AE.p a_int)))) (by decide) at_yes (a_tup (aa_cons (a_var 1 rfl) (aa_cons (a_var 0 rfl) aa_nil)))))) (aw_cons (AE.w (a_var 1 rfl)) aw_nil)))))
  (as_retN (AE.w (a_comp (K := K) (tg := (.n 1)) (ai_seqC (AE.p (a_bin b_ix (AE.p (a_var 0 rfl)) (AE.p a_int)))) (by decide) (at_test (AE.p (a_bin b_in (AE.p (a_var 1 rfl)) (AE.p (a_var 0 rfl))))) (a_var 1 rfl))))) (by decide) h⟩)
abbrev s_l_kinds : Stmt := top 29
theorem sc_l_kinds : FnScope ["_law_e", "_law_some"] ["_law_e"] (defScope s_l_kinds) := ⟨rfl, rfl, rfl, by decide +kernel, rfl, by decide +kernel, by decide +kernel⟩
theorem ok_l_kinds {f : Addr} {fd : FuncData} (F : Fun K "_law_kinds" "_law_kinds" s_l_kinds f fd) (T : Txt mg) (O : Own mg base) (Kt : Kit K) : FnOkH P w K mg base 1 f fd ["_law_e"] (spN m_l_kinds) :=
  F.okH sc_l_kinds (fun vs H Q E h => lenN h) (fun cdv A outer s H vs Q E hr h => by
    have nd := sc_l_kinds.nd
    have hu64 := hr.units
    exact ⟨_, (pss_cons (ps_set (i := 1) nd rfl (Or.inl rfl) (pe_lst pa_nil))
  (pss_cons (ps_if (pt_val (pe_callB call_isXs rfl T.b_isinstance boot_isinstance (pa_cons (pv 0) (pa_cons (pe_tup (pa_cons (pe_glob (v := .ref (Tb.cl "Locked")) rfl O.b_Locked rfl) (pa_cons (pe_glob (v := .ref (Tb.cl "NoArrow")) rfl O.b_NoArrow rfl) (pa_cons (pe_glob (v := .ref (Tb.cl "NoLabel")) rfl O.b_NoLabel rfl) (pa_cons (pe_glob (v := .ref (Tb.cl "NoNet")) rfl O.b_NoNet rfl) pa_nil))))) pa_nil))))
  (pss_one (ps_expr (pe_bm PySem.F.plainAttrs_list PySem.F.slot_list_append PySem.F.type_list_append mt_append (pv 1) (pa_cons pe_str pa_nil))))
  pss_nil)
  (pss_cons (ps_if (pt_val (pe_callB call_isXs rfl T.b_isinstance boot_isinstance (pa_cons (pv 0) (pa_cons (pe_tup (pa_cons (pe_glob (v := .ref (Tb.cl "NoRow")) rfl O.b_NoRow rfl) (pa_cons (pe_glob (v := .ref (Tb.cl "NoSuch")) rfl O.b_NoSuch rfl) (pa_cons (pe_glob (v := .ref (Tb.cl "NoText")) rfl O.b_NoText rfl) (pa_cons (pe_glob (v := .ref (Tb.cl "NoTie")) rfl O.b_NoTie rfl) (pa_cons (pe_glob (v := .ref (Tb.cl "Unlike")) rfl O.b_Unlike rfl) pa_nil)))))) pa_nil))))
  (pss_one (ps_expr (pe_bm PySem.F.plainAttrs_list PySem.F.slot_list_append PySem.F.type_list_append mt_append (pv 1) (pa_cons pe_str pa_nil))))
  pss_nil)
  (pss_cons (ps_if (pt_val (pe_callB call_isX rfl T.b_isinstance boot_isinstance (pa_cons (pv 0) (pa_cons (pe_glob (v := .ref (Tb.cl "NoName")) rfl O.b_NoName rfl) pa_nil))))
  (pss_one (ps_expr (pe_bm PySem.F.plainAttrs_list PySem.F.slot_list_append PySem.F.type_list_append mt_append (pv 1) (pa_cons pe_str pa_nil))))
  pss_nil)
  (pss_cons (ps_if (pt_val (pe_callB call_isX rfl T.b_isinstance boot_isinstance (pa_cons (pv 0) (pa_cons (pe_glob (v := .ref (Tb.cl "NoWord")) rfl O.b_NoWord rfl) pa_nil))))
  (pss_one (ps_expr (pe_bm PySem.F.plainAttrs_list PySem.F.slot_list_append PySem.F.type_list_append mt_append (pv 1) (pa_cons pe_str pa_nil))))
  pss_nil)
  (pss_cons (ps_if (pt_val (pe_callB call_isX rfl T.b_isinstance boot_isinstance (pa_cons (pv 0) (pa_cons (pe_glob (v := .ref (Tb.cl "Ring")) rfl O.b_Ring rfl) pa_nil))))
  (pss_one (ps_expr (pe_bm PySem.F.plainAttrs_list PySem.F.slot_list_append PySem.F.type_list_append mt_append (pv 1) (pa_cons pe_str pa_nil))))
  pss_nil)
  (pss_cons (ps_if (pt_val (pe_callB call_isX rfl T.b_isinstance boot_isinstance (pa_cons (pv 0) (pa_cons (pe_glob (v := .ref (Tb.cl "Twice")) rfl O.b_Twice rfl) pa_nil))))
  (pss_one (ps_expr (pe_bm PySem.F.plainAttrs_list PySem.F.slot_list_append PySem.F.type_list_append mt_append (pv 1) (pa_cons pe_str pa_nil))))
  pss_nil)
  (pss_cons (ps_if (pt_val (pe_callB call_isX rfl T.b_isinstance boot_isinstance (pa_cons (pv 0) (pa_cons (pe_glob (v := .ref (Tb.cl "WrongSize")) rfl O.b_WrongSize rfl) pa_nil))))
  (pss_one (ps_expr (pe_bm PySem.F.plainAttrs_list PySem.F.slot_list_append PySem.F.type_list_append mt_append (pv 1) (pa_cons pe_str pa_nil))))
  pss_nil)
  (pss_cons (ps_if (pt_not (pt_val (pe_callB call_isX rfl T.b_isinstance boot_isinstance (pa_cons (pv 0) (pa_cons (pe_ty rfl O.n_ValueError (by kernel_rfl)) pa_nil)))))
  (pss_one (ps_expr (pe_bm PySem.F.plainAttrs_list PySem.F.slot_list_append PySem.F.type_list_append mt_append (pv 1) (pa_cons pe_str pa_nil))))
  pss_nil)
  (pss_one (ps_ret (pv 1)))))))))))),
    _root_.A.runN (N := ["_law_e", "_law_some"]) (M := Mo [1]) (as_seq (as_new 1 rfl (a_lst aa_nil))
  (as_seq (as_if (at_b (AE.p (a_isXs (Cs := [Tb.cl "Locked", Tb.cl "NoArrow", Tb.cl "NoLabel", Tb.cl "NoNet"]) rfl (by simp) Kt.k_Locked_NoArrow_NoLabel_NoNet)))
  (as_append 1 rfl a_str)
  as_next)
  (as_seq (as_if (at_b (AE.p (a_isXs (Cs := [Tb.cl "NoRow", Tb.cl "NoSuch", Tb.cl "NoText", Tb.cl "NoTie", Tb.cl "Unlike"]) rfl (by simp) Kt.k_NoRow_NoSuch_NoText_NoTie_Unlike)))
  (as_append 1 rfl a_str)
  as_next)
  (as_seq (as_if (at_b (AE.p (a_isX rfl (.own _) Kt.k_NoName)))
  (as_append 1 rfl a_str)
  as_next)
  (as_seq (as_if (at_b (AE.p (a_isX rfl (.own _) Kt.k_NoWord)))
  (as_append 1 rfl a_str)
  as_next)
  (as_seq (as_if (at_b (AE.p (a_isX rfl (.own _) Kt.k_Ring)))
  (as_append 1 rfl a_str)
  as_next)
  (as_seq (as_if (at_b (AE.p (a_isX rfl (.own _) Kt.k_Twice)))
  (as_append 1 rfl a_str)
  as_next)
  (as_seq (as_if (at_b (AE.p (a_isX rfl (.own _) Kt.k_WrongSize)))
  (as_append 1 rfl a_str)
  as_next)
  (as_seq (as_if (at_not (at_b (AE.p (a_isX rfl (.blt _) Kt.k_ValueError))))
  (as_append 1 rfl a_str)
  as_next)
  (as_retOwn 1 rfl)))))))))) (by decide) h⟩)
abbrev s_l_refused : Stmt := top 33
theorem sc_l_refused : FnScope ["_law_net_here", "_law_name", "_law_way", "_law_kinds_here", "_law_e"] ["_law_net_here", "_law_name", "_law_way"] (defScope s_l_refused) := ⟨rfl, rfl, rfl, by decide +kernel, rfl, by decide +kernel, by decide +kernel⟩
theorem ok_l_refused {f : Addr} {fd : FuncData} (F : Fun K "_law_refused" "_law_refused" s_l_refused f fd) (T : Txt mg) (O : Own mg base) (Kt : Kit K)  (CX_names_above : Cal P w K mg base (CX1 P w) 2 "names_above" ["net", "name"] (spX Tb.cl mX_names_above)) (CX_names_below : Cal P w K mg base (CX1 P w) 2 "names_below" ["net", "name"] (spX Tb.cl mX_names_below)) (CH_l_kinds : CalH P w K mg base 1 "_law_kinds" ["_law_e"] (spN m_l_kinds)) : FnOk P w K mg base CX0 3 f fd ["_law_net_here", "_law_name", "_law_way"] (spD m_l_refused_5) :=
  F.ok sc_l_refused (fun vs H Q E h => lenD h) (fun cdv A outer s H vs Q E hr h => by
    have nd := sc_l_refused.nd
    have hu := hu_of hr
    have hu64 := hr.units
    have hrX_names_above := hr.mono (show 2 ≤ _ by decide)
    have hrX_names_below := hr.mono (show 2 ≤ _ by decide)
    have hrH_l_kinds := fun ea : Addr => (hr.mono (show 1 ≤ _ by decide)).heldH (.ref ea)
    exact ⟨_, (pss_cons (ps_set (i := 3) nd rfl (Or.inl rfl) (pe_lst pa_nil))
  (pss_cons (ps_try (i := 4) rfl rfl rfl nd rfl rfl rfl O.b_ArrowError Kt.m_ArrowError
  (psx_one (psx_if rfl (pt_cmpR (op_eqD hu64) (pv 2) pe_int (nomark _))
  (psx_one (psx_call rfl CX_names_above hrX_names_above rfl (pa_cons (pv 0) (pa_cons (pv 1) pa_nil))))
  (psx_one (psx_call rfl CX_names_below hrX_names_below rfl (pa_cons (pv 0) (pa_cons (pv 1) pa_nil))))))
  (fun ea => (pss_one (ps_set (i := 3) nd rfl (Or.inl rfl) (pe_calH (E := fun _ _ _ => False) CH_l_kinds (hrH_l_kinds ea) rfl (pa_cons (pv 4) pa_nil))))))
  (pss_one (ps_ret (pv 3))))),
    _root_.A.runD (N := ["_law_net_here", "_law_name", "_law_way", "_law_kinds_here", "_law_e"]) (M := Mo []) (as_seq (as_set 3 rfl (AE.nv (a_lst aa_nil)))
  (as_seq (as_try (cs := ["NoName"]) rfl
  (ax_if (at_test (AE.p (a_bin b_eq (AE.p (a_var 2 rfl)) (AE.p a_int))))
  (ax_call (aw_cons (AE.w (a_var 0 rfl)) (aw_cons (AE.w (a_var 1 rfl)) aw_nil)))
  (ax_call (aw_cons (AE.w (a_var 0 rfl)) (aw_cons (AE.w (a_var 1 rfl)) aw_nil))))
  (as_set 3 rfl (AE.nv (a_callN (aw_cons (aw_var 4 rfl) aw_nil)))))
  (as_ret (AE.w (a_var 3 rfl))))) (by decide) h⟩)
abbrev s_law : Stmt := top 34
theorem sc_law : FnScope ["_law_script", "_law_net_here", "_law_cell_here", "_law_names", "_law_above_here", "_law_below_here", "_law_name", "_law_one", "_law_other"] ["_law_script"] (defScope s_law) := ⟨rfl, rfl, rfl, by decide +kernel, rfl, by decide +kernel, by decide +kernel⟩
theorem ok_law {f : Addr} {fd : FuncData} (F : Fun K "law" "law" s_law f fd) (T : Txt mg) (C_names_above : Cal P w K mg base CX0 2 "names_above" ["net", "name"] (spN m_names_above)) (C_names_below : Cal P w K mg base CX0 2 "names_below" ["net", "name"] (spN m_names_below)) (C_l_cell : Cal P w K mg base CX0 1 "_law_cell" ["_law_script", "_law_k"] (spD m_l_cell)) (C_l_net : Cal P w K mg base CX0 2 "_law_net" ["_law_script", "_law_most"] (spD m_l_net_2)) (C_l_alike : ∀ n, Cal P w K mg base CX0 (n + 1) "_law_alike" ["_law_found", "_law_due"] (spD (m_l_alike n))) (C_l_stranger : Cal P w K mg base CX0 1 "_law_stranger" ["_law_names", "_law_cell_here"] (spD m_l_stranger)) (C_l_below : Cal P w K mg base CX0 2 "_law_below" ["_law_net_here", "_law_name"] (spN m_l_below)) (C_l_above : Cal P w K mg base CX0 2 "_law_above" ["_law_net_here", "_law_name"] (spN m_l_above)) (C_l_refused : Cal P w K mg base CX0 3 "_law_refused" ["_law_net_here", "_law_name", "_law_way"] (spD m_l_refused_5)) : FnOk P w K mg base CX0 5 f fd ["_law_script"] (spD m_law_k06) :=
  F.ok sc_law (fun vs H Q E h => lenD h) (fun cdv A outer s H vs Q E hr h => by
    have nd := sc_law.nd
    have hu := hu_of hr
    have hu64 := hr.units
    have hr_names_above := hr.mono (show 2 ≤ _ by decide)
    have hr_names_below := hr.mono (show 2 ≤ _ by decide)
    have hr_l_cell := hr.mono (show 1 ≤ _ by decide)
    have hr_l_net := hr.mono (show 2 ≤ _ by decide)
    have hr_l_alike := hr.mono (show (3 + 1) ≤ _ by decide)
    have hr_l_stranger := hr.mono (show 1 ≤ _ by decide)
    have hr_l_below := hr.mono (show 2 ≤ _ by decide)
    have hr_l_above := hr.mono (show 2 ≤ _ by decide)
    have hr_l_refused := hr.mono (show 3 ≤ _ by decide)
    exact ⟨_, (pss_cons (ps_set (i := 1) nd rfl (Or.inl rfl) (pe_cal C_l_net hr_l_net rfl pass0 (pa_cons (pv 0) (pa_cons pe_int pa_nil))))
  (pss_cons (ps_set (i := 2) nd rfl (Or.inl rfl) (pe_cal C_l_cell hr_l_cell rfl pass0 (pa_cons (pv 0) (pa_cons pe_int pa_nil))))
  (pss_cons (ps_set (i := 3) nd rfl (Or.inl rfl) (pe_callTy call_listU rfl T.b_list boot_list (pa_cons (pe_ix ix_seq (pv 1) pe_int (fun _ _ => rfl)) pa_nil)))
  (pss_cons (ps_if (pt_cmpR (op_eqD hu64) (pe_op op_mod (pv 2) pe_int) pe_int (nomark _))
  (pss_one (ps_expr (pe_bm0 PySem.F.plainAttrs_list PySem.F.slot_list_reverse PySem.F.type_list_reverse mt_reverse (pv 3))))
  pss_nil)
  (pss_cons (ps_set (i := 4) nd rfl (Or.inl rfl) pe_dnewK)
  (pss_cons (ps_set (i := 5) nd rfl (Or.inl rfl) pe_dnewK)
  (pss_cons (ps_for PassesOwn.never rfl (pi_seq (pv 3)) (pg_name (i := 6) nd rfl (Or.inl rfl))
  (pss_cons (ps_dput hu (pv 4) (pv 6) (pe_cal C_names_above hr_names_above rfl pass0 (pa_cons (pv 1) (pa_cons (pv 6) pa_nil))) rfl)
  (pss_cons (ps_dput hu (pv 5) (pv 6) (pe_cal C_names_below hr_names_below rfl pass0 (pa_cons (pv 1) (pa_cons (pv 6) pa_nil))) rfl)
  (pss_one (ps_if (PW.pt (pw_or (pt_not (pt_val (pe_cal (C_l_alike 3) hr_l_alike rfl pass0 (pa_cons (pe_dget hu (pv 4) (pv 6) (fun _ _ => rfl)) (pa_cons (pe_cal C_l_above hr_l_above rfl pass0 (pa_cons (pv 1) (pa_cons (pv 6) pa_nil))) pa_nil))))) (pw_or1 (pt_not (pt_val (pe_cal (C_l_alike 3) hr_l_alike rfl pass0 (pa_cons (pe_dget hu (pv 5) (pv 6) (fun _ _ => rfl)) (pa_cons (pe_cal C_l_below hr_l_below rfl pass0 (pa_cons (pv 1) (pa_cons (pv 6) pa_nil))) pa_nil))))))))
  (pss_one (ps_ret pe_bl))
  pss_nil)))))
  (pss_cons (ps_for PassesOwn.never rfl (pi_seq (pv 3)) (pg_name (i := 7) nd rfl (Or.inl rfl))
  (pss_one (ps_for PassesOwn.never rfl (pi_seq (pv 3)) (pg_name (i := 8) nd rfl (Or.inl rfl))
  (pss_one (ps_if (pt_cmpR (op_neD hu64) (pe_cmpR (op_inU hu64) (pv 7) (pe_dget hu (pv 4) (pv 8) (fun _ _ => rfl)) rfl) (pe_cmpR (op_inU hu64) (pv 8) (pe_dget hu (pv 5) (pv 7) (fun _ _ => rfl)) rfl) (nomark _))
  (pss_one (ps_ret pe_bl))
  pss_nil)))))
  (pss_cons (ps_for PassesOwn.never rfl (pi_seq (pv 3)) (pg_name (i := 6) nd rfl (Or.inl rfl))
  (pss_cons (ps_expr (pe_bm0 PySem.F.plainAttrs_list PySem.F.slot_list_clear PySem.F.type_list_clear mt_clear (pe_dget hu (pv 4) (pv 6) (fun _ _ => rfl))))
  (pss_cons (ps_expr (pe_bm0 PySem.F.plainAttrs_list PySem.F.slot_list_clear PySem.F.type_list_clear mt_clear (pe_dget hu (pv 5) (pv 6) (fun _ _ => rfl))))
  (pss_cons (ps_if (pt_not (pt_val (pe_cal (C_l_alike 3) hr_l_alike rfl pass0 (pa_cons (pe_cal C_names_above hr_names_above rfl pass0 (pa_cons (pv 1) (pa_cons (pv 6) pa_nil))) (pa_cons (pe_cal C_l_above hr_l_above rfl pass0 (pa_cons (pv 1) (pa_cons (pv 6) pa_nil))) pa_nil)))))
  (pss_one (ps_ret pe_bl))
  pss_nil)
  (pss_one (ps_if (pt_not (pt_val (pe_cal (C_l_alike 3) hr_l_alike rfl pass0 (pa_cons (pe_cal C_names_below hr_names_below rfl pass0 (pa_cons (pv 1) (pa_cons (pv 6) pa_nil))) (pa_cons (pe_cal C_l_below hr_l_below rfl pass0 (pa_cons (pv 1) (pa_cons (pv 6) pa_nil))) pa_nil)))))
  (pss_one (ps_ret pe_bl))
  pss_nil))))))
  (pss_cons (ps_set (i := 7) nd rfl (Or.inl rfl) (pe_cal C_l_stranger hr_l_stranger rfl pass0 (pa_cons (pe_callTy call_listU rfl T.b_list boot_list (pa_cons (pe_ix ix_seq (pv 1) pe_int (fun _ _ => rfl)) pa_nil)) (pa_cons (pe_op op_fdivB (pv 2) pe_int) pa_nil))))
  (pss_one (ps_ret (pe_and (pe_cmpR (op_eqD hu64) (pe_cal C_l_refused hr_l_refused rfl pass0 (pa_cons (pv 1) (pa_cons (pv 7) (pa_cons pe_int pa_nil)))) (pe_lst (pa_cons pe_str pa_nil)) (nomark _)) (pe_one (pe_cmpR (op_eqD hu64) (pe_cal C_l_refused hr_l_refused rfl pass0 (pa_cons (pv 1) (pa_cons (pv 7) (pa_cons pe_int pa_nil)))) (pe_lst (pa_cons pe_str pa_nil)) (nomark _)))))))))))))))),
    _root_.A.runD (N := ["_law_script", "_law_net_here", "_law_cell_here", "_law_names", "_law_above_here", "_law_below_here", "_law_name", "_law_one", "_law_other"]) (M := Mo [3, 4, 5]) (as_seq (as_set 1 rfl (a_call (aw_cons (AE.w (a_var 0 rfl)) (aw_cons (AE.w a_int) aw_nil))))
  (as_seq (as_set 2 rfl (a_call (aw_cons (AE.w (a_var 0 rfl)) (aw_cons (AE.w a_int) aw_nil))))
  (as_seq (as_new 3 rfl (a_cb b_list (aa_cons (AE.p (a_bin b_ix (AE.p (a_var 1 rfl)) (AE.p a_int))) aa_nil)))
  (as_seq (as_if (at_test (AE.p (a_bin b_eq (AE.p (a_bin b_mod (AE.p (a_var 2 rfl)) (AE.p a_int))) (AE.p a_int))))
  (as_reverse 3 rfl)
  as_next)
  (as_seq (as_newW 4 rfl aw_dnewK)
  (as_seq (as_newW 5 rfl aw_dnewK)
  (as_pub 3 rfl (as_bag (i := 4) (j := 5) (by decide) rfl rfl (fun k h => by simp [Mo] at h; omega) fun H0 Hv0 => (ls_seq (ls_forG (K := K) (i := 4) (j := 5) (tg := (.n 6)) (by decide) (by decide) (ai_seq (a_var 3 rfl)) (by decide)
  (ls_seq (ls_put (by decide) (a_var 6 rfl) (a_callN (aw_cons (AE.w (a_var 1 rfl)) (aw_cons (AE.w (a_var 6 rfl)) aw_nil))))
  (ls_seq (ls_putj (by decide) (a_var 6 rfl) (a_callN (aw_cons (AE.w (a_var 1 rfl)) (aw_cons (AE.w (a_var 6 rfl)) aw_nil))))
  (ls_test (rg_good 4 5 H0 Hv0) (at_or (at_not (at_b (AE.p (a_call (aw_cons (AE.w (a_dget 4 (a_var 6 rfl))) (aw_cons (AW.nv (AE.w (a_callN (aw_cons (AE.w (a_var 1 rfl)) (aw_cons (AE.w (a_var 6 rfl)) aw_nil))))) aw_nil)))))) (at_not (at_b (AE.p (a_call (aw_cons (AE.w (a_dget 5 (a_var 6 rfl))) (aw_cons (AW.nv (AE.w (a_callN (aw_cons (AE.w (a_var 1 rfl)) (aw_cons (AE.w (a_var 6 rfl)) aw_nil))))) aw_nil)))))))))))
  (ls_seq (ls_forG (K := K) (i := 4) (j := 5) (tg := (.n 7)) (by decide) (by decide) (ai_seq (a_var 3 rfl)) (by decide)
  (ls_forG (K := K) (i := 4) (j := 5) (tg := (.n 8)) (by decide) (by decide) (ai_seq (a_var 3 rfl)) (by decide)
  (ls_test (rg_good 4 5 H0 Hv0) (at_test (AE.p (a_bin b_ne (AE.p (a_bin b_in (AE.p (a_var 7 rfl)) (AE.p (a_dget 4 (a_var 8 rfl))))) (AE.p (a_bin b_in (AE.p (a_var 8 rfl)) (AE.p (a_dget 5 (a_var 7 rfl)))))))))))
  (ls_unp fun k1 k2 => (ls_seq (ls_forC (K := K) (i := 4) (j := 5) (tg := (.n 6)) (ai_seq (a_var 3 rfl)) (by decide)
  (ls_seq (ls_clr (a_var 6 rfl))
  (ls_seq (ls_clrj (a_var 6 rfl))
  (ls_seq (ls_test (rc_good 4 5 k1 k2 H0 Hv0) (at_not (at_b (AE.p (a_call (aw_cons (AW.nv (AE.w (a_callN (aw_cons (AE.w (a_var 1 rfl)) (aw_cons (AE.w (a_var 6 rfl)) aw_nil))))) (aw_cons (AW.nv (AE.w (a_callN (aw_cons (AE.w (a_var 1 rfl)) (aw_cons (AE.w (a_var 6 rfl)) aw_nil))))) aw_nil)))))))
  (ls_test (rc_good 4 5 k1 k2 H0 Hv0) (at_not (at_b (AE.p (a_call (aw_cons (AW.nv (AE.w (a_callN (aw_cons (AE.w (a_var 1 rfl)) (aw_cons (AE.w (a_var 6 rfl)) aw_nil))))) (aw_cons (AW.nv (AE.w (a_callN (aw_cons (AE.w (a_var 1 rfl)) (aw_cons (AE.w (a_var 6 rfl)) aw_nil))))) aw_nil)))))))))))
  (ls_last (as_seq (as_set 7 rfl (a_call (aw_cons (AW.nv (AE.w (a_cb b_list (aa_cons (AE.p (a_bin b_ix (AE.p (a_var 1 rfl)) (AE.p a_int))) aa_nil)))) (aw_cons (AE.w (a_bin b_div (AE.p (a_var 2 rfl)) (AE.p a_int))) aw_nil))))
  (as_ret (AE.w (a_and (AE.p (a_bin b_eq (AE.p (a_call (aw_cons (AE.w (a_var 1 rfl)) (aw_cons (AE.w (a_var 7 rfl)) (aw_cons (AE.w a_int) aw_nil))))) (AE.np (a_lst (aa_cons a_str aa_nil))))) (a_bin b_eq (AE.p (a_call (aw_cons (AE.w (a_var 1 rfl)) (aw_cons (AE.w (a_var 7 rfl)) (aw_cons (AE.w a_int) aw_nil))))) (AE.np (a_lst (aa_cons a_str aa_nil))))))))))))))))))))) (by decide) h⟩)
end
end Mk06
set_option Elab.async false
set_option linter.all false
set_option maxRecDepth 100000
set_option maxHeartbeats 1000000
namespace L2
open PySem PySem.Spec PyProof.Rows
theorem own_in {K : PySem.W.Frag} {h : Heap} {mg : Str → Option Value} {y : Str} {D : Addr} {bb : List Value} {nw : String} (X : K.In h) (G : h.Ns mainGlobals mg) (a : PySem.W.nsIn K mainGlobals y = some (some (.ref D))) (t : PySem.W.excIn K D bb nw = true) : OwnCls y D bb nw mg h := by
  refine ⟨PySem.W.mg_of X G a, ?_⟩
  simp only [PySem.W.excIn] at t
  split at t
  case h_2 => cases t
  case h_1 d1 c1 s1 e1 =>
    split at t
    case h_2 => cases t
    case h_1 D' m1 p0 p1 p2 p3 b1 p5 em es =>
      obtain ⟨n1, bs, mr, N1, qn, hd, sn, sb, ab, co, de⟩ := c1
      obtain ⟨l1⟩ := s1
      dsimp only at em es t
      subst em
      subst es
      have t1 := Bool.and_eq_true_iff.mp t
      have t2 := Bool.and_eq_true_iff.mp t1.1
      have t3 := Bool.and_eq_true_iff.mp t2.1
      have t4 := Bool.and_eq_true_iff.mp t3.1
      have t5 := Bool.and_eq_true_iff.mp t4.1
      have u1 := beq_iff_eq.mp t5.1
      have u2 := beq_iff_eq.mp t5.2
      have u3 : de = false := by simpa using t4.2
      subst u1 u2 u3
      exact ⟨m1, N1, n1, qn, bs, hd, sn, sb, ab, co, d1, p0, p1, p2, p3, p5, h.nsMap N1, X _ _ e1, .of_isNs (PySem.W.isNs_of_in X t2.2), PySem.W.nsMap_none_of_in X t2.2 (beq_iff_eq.mp t1.2), PySem.W.tail_of_in X t3.2⟩
theorem lk_nil {R : String → Bool → Prop} : ∀ x k, (fun c => ([] : List (String × Bool)).lookup c) x = some k → R x k := fun _ _ h => nomatch h
theorem lk_cons {n : String} {b : Bool} {l : List (String × Bool)} {R : String → Bool → Prop} (h : R n b) (t : ∀ x k, (fun c => l.lookup c) x = some k → R x k) : ∀ x k, (fun c => ((n, b) :: l).lookup c) x = some k → R x k := by
  intro x k e
  simp only [List.lookup] at e
  split at e
  · rename_i q
    cases e
    rw [beq_iff_eq.mp q]; exact h
  · exact t x k e
theorem mc_nil {R : Addr → Prop} {cl : String → Addr} : ∀ C, (∃ c ∈ ([] : List String), C = cl c) → R C := fun C ⟨c, h, _⟩ => nomatch h
theorem mc_cons {n : String} {l : List String} {R : Addr → Prop} {cl : String → Addr} (h : R (cl n)) (t : ∀ C, (∃ c ∈ l, C = cl c) → R C) : ∀ C, (∃ c ∈ n :: l, C = cl c) → R C := fun C ⟨c, hc, e⟩ => by
  cases hc with
  | head => rw [e]; exact h
  | tail _ k => exact t C ⟨c, k, e⟩
theorem only_code [Tb : A.Tabs] (h0 : Tb.l = []) {H : Hp} (o : Only H) : A.CodeOk H := ⟨fun p hp => by rw [h0] at hp; exact (nomatch hp), fun T q ps e => by
  rcases o T with z | ⟨u, xs, z⟩ <;> rw [z] at e <;> cases e⟩
theorem FnD.law0 {P : Program} {w : World} {K : PySem.W.Frag} {mg : Str → Option Value} {CX : CXT} {k : Nat} {x p : Str} {st : Stmt} {sp : Sp} {fa : Addr} (F : FnD K mg x st [p]) (hm : mg x = some (.ref fa)) (h : ∀ base, K.In base → base.Ns mainGlobals mg → ∀ f fd, Fun K x x st f fd → FnOk P w K mg base CX k f fd [p] sp) :
    ∃ fd : FuncData, (∀ (s : Shared) (u : Value), BindsTo s fd ⟨[u], []⟩ [(p, u)]) ∧ ∀ base : Heap, K.In base → base.Ns mainGlobals mg → FnOk P w K mg base CX k fa fd [p] sp := by
  obtain ⟨f, fd, h1, h2, h3, h5, h4⟩ := F.ex
  rw [h1] at hm; cases hm
  exact ⟨fd, fun s u => h5 s [u] rfl, fun base kb nb => h base kb nb _ fd h4⟩
theorem calR {P : Program} {w : World} {K : PySem.W.Frag} {mg : Str → Option Value} {base : Heap} {CX : CXT} {lv : Nat → Nat} {x : Str} {st : Stmt} {ps : List Str} {sp : Nat → Sp} (F : FnD K mg x st ps)
    (h : ∀ f fd, Fun K x x st f fd → (∀ n, FnOk P w K mg base CX (lv n) f fd ps (sp n) → Cal P w K mg base CX (lv n) x ps (sp n)) → ∀ n, FnOk P w K mg base CX (lv n) f fd ps (sp n)) (n : Nat) : Cal P w K mg base CX (lv n) x ps (sp n) := by
  obtain ⟨f, fd, h1, h2, h3, _, h4⟩ := F.ex
  have self : ∀ n, FnOk P w K mg base CX (lv n) f fd ps (sp n) → Cal P w K mg base CX (lv n) x ps (sp n) := fun n k => ⟨f, fd, h1, h2, h3, k⟩
  exact self n (h f fd h4 self n)
def noLst (K : PySem.W.Frag) : Bool := K.all fun p => match p.2.cls with | .type "list" => false | _ => true
theorem noLst_of {K : PySem.W.Frag} (h : noLst K = true) {a : Addr} {o : Obj} (e : K.lookup a = some o) (c : o.cls = .type "list") : False := by
  have hm : (a, o) ∈ K := by
    clear h
    induction K with
    | nil => cases e
    | cons p r ih =>
      obtain ⟨b, x⟩ := p
      simp only [List.lookup] at e
      split at e
      · rename_i q; cases e; rw [beq_iff_eq.mp q]; exact List.Mem.head _
      · exact List.Mem.tail _ (ih e)
  have h2 := List.all_eq_true.mp h _ hm
  simp only [c] at h2
  cases h2
end L2
set_option linter.all false
set_option maxRecDepth 10000
namespace Mr
open PySem Mi
def arL (arrows : List Ar) : D := .lst (arrows.map pairD)
theorem spreadL_ok {names : List Str} {arrows : List Ar} (N : Net names arrows) (hd : ∀ p ∈ arrows, p.2 ∈ names) {x : Str} (hx : x ∈ names) :
    ∃ met, m_l_spread [.d (arL arrows), .d (.str x)] = .ok (.d (strL met)) ∧ met.length ≤ 8 ∧ ∀ y, y ∈ met ↔ Rch arrows x y := by
  have inner : ∀ (met : List Str) (o3 o4 o5 : Option W), Good names arrows x met → ∃ (met' : List Str) (p4 p5 : Option W), forD (.t [4, 5]) (sIf (cAnd (cB (m2 dIn (mV 4) (mV 2))) (cB (m2 dNotIn (mV 5) (mV 2)))) (sAppend 2 (mV 5)) sNext) (arrows.map pairD)
      [some (.d (arL arrows)), some (.d (.str x)), some (.d (strL met)), o3, o4, o5] = .ok (.nx [some (.d (arL arrows)), some (.d (.str x)), some (.d (strL met')), o3, p4, p5]) ∧ Good names arrows x met' ∧ (met.length < met'.length ∨ (met' = met ∧ Closed arrows met)) := by
    intro met o3 o4 o5 g
    obtain ⟨e', f1, met', p4, p5, he, g', hc⟩ := for_inv (tg := .t [4, 5]) (body := (sIf (cAnd (cB (m2 dIn (mV 4) (mV 2))) (cB (m2 dNotIn (mV 5) (mV 2)))) (sAppend 2 (mV 5)) sNext))
      (fun i e => ∃ (met' : List Str) (o4 o5 : Option W), e = [some (.d (arL arrows)), some (.d (.str x)), some (.d (strL met')), o3, o4, o5] ∧ Good names arrows x met' ∧ (met.length < met'.length ∨ (met' = met ∧ ∀ j p, j < i → arrows[j]? = some p → p.1 ∈ met → p.2 ∈ met))) (arrows.map pairD) 0 (fun i d e hi ⟨m1, o4, o5, he, g1, hc⟩ => by
        subst he
        rw [Nat.zero_add] at hc ⊢
        rw [List.getElem?_map] at hi
        obtain ⟨p, hp, rfl⟩ := Option.map_eq_some_iff.mp hi
        have hpm := List.mem_of_getElem? hp
        have c1 : cB (m2 dIn (mV 4) (mV 2)) [some (.d (arL arrows)), some (.d (.str x)), some (.d (strL m1)), o3, some (.d (.str p.1)), some (.d (.str p.2))] = .ok (decide (p.1 ∈ m1)) := cB_ok ((m2_ok rfl rfl rfl).trans (dIn_str _ _))
        have c2 : cB (m2 dNotIn (mV 5) (mV 2)) [some (.d (arL arrows)), some (.d (.str x)), some (.d (strL m1)), o3, some (.d (.str p.1)), some (.d (.str p.2))] = .ok (!decide (p.2 ∈ m1)) := cB_ok ((m2_ok rfl rfl rfl).trans (dNotIn_str _ _))
        have hl8 : m1.length ≤ 8 := Nat.le_trans (nodup_sub_len g1.nd g1.sub) N.le
        by_cases hb : p.1 ∈ m1 ∧ p.2 ∉ m1
        · refine ⟨[some (.d (arL arrows)), some (.d (.str x)), some (.d (strL m1)), o3, some (.d (.str p.1)), some (.d (.str p.2))], [some (.d (arL arrows)), some (.d (.str x)), some (.d (strL (m1 ++ [p.2]))), o3, some (.d (.str p.1)), some (.d (.str p.2))], rfl, ?_, m1 ++ [p.2], _, _, rfl, ⟨?_, fun y hy => ?_, fun y hy => ?_, List.mem_append_left _ g1.x⟩, .inl ?_⟩
          · rw [if_tt (by unfold cAnd; rw [c1, bind_ok, decide_eq_true hb.1, if_pos rfl, c2, decide_eq_false hb.2]; rfl), append_ok (d := .str p.2) (ds := m1.map D.str) rfl rfl (by rw [List.length_map]; omega)]
            show Rs.ok (Out.nx [_, _, some (W.d (D.lst (m1.map D.str ++ [.str p.2]))), _, _, _]) = _
            rw [strL, List.map_append]; rfl
          · refine List.nodup_append.mpr ⟨g1.nd, by simp, fun a ha b hb' => ?_⟩
            have : b = p.2 := by simpa using hb'
            subst this
            exact fun z => hb.2 (z ▸ ha)
          · rcases List.mem_append.mp hy with h | h
            · exact g1.sub y h
            · have : y = p.2 := by simpa using h
              subst this; exact hd p hpm
          · rcases List.mem_append.mp hy with h | h
            · exact g1.r y h
            · have : y = p.2 := by simpa using h
              subst this; exact .step (g1.r _ hb.1) hpm
          · rw [List.length_append]
            rcases hc with h | ⟨rfl, _⟩
            · simp; omega
            · simp
        · refine ⟨[some (.d (arL arrows)), some (.d (.str x)), some (.d (strL m1)), o3, some (.d (.str p.1)), some (.d (.str p.2))], [some (.d (arL arrows)), some (.d (.str x)), some (.d (strL m1)), o3, some (.d (.str p.1)), some (.d (.str p.2))], rfl, ?_, m1, _, _, rfl, g1, ?_⟩
          · rw [if_ff (by
              unfold cAnd
              rw [c1, bind_ok]
              by_cases h1 : p.1 ∈ m1
              · rw [decide_eq_true h1, if_pos rfl, c2, decide_eq_true (Classical.byContradiction fun z => hb ⟨h1, z⟩)]; rfl
              · rw [decide_eq_false h1, if_neg Bool.false_ne_true])]
            rfl
          · rcases hc with h | ⟨rfl, h⟩
            · exact .inl h
            · refine .inr ⟨rfl, fun j q hj hq h1 => ?_⟩
              by_cases hji : j = i
              · subst hji
                rw [hp] at hq; cases hq
                exact Classical.byContradiction fun z => hb ⟨h1, z⟩
              · exact h j q (by omega) hq h1) _ ⟨met, o4, o5, rfl, g, .inr ⟨rfl, fun j p h => absurd h (Nat.not_lt_zero _)⟩⟩
    subst he
    refine ⟨met', p4, p5, f1, g', ?_⟩
    rcases hc with h | ⟨h1, h2⟩
    · exact .inl h
    · refine .inr ⟨h1, fun p hp h => ?_⟩
      obtain ⟨j, hj⟩ := List.getElem?_of_mem hp
      exact h2 j p (by rw [List.length_map]; have := (List.getElem?_eq_some_iff.mp hj).1; omega) hj h
  obtain ⟨e', f1, met, o3, o4, o5, he, g, hc⟩ := for_inv (tg := .n 3) (body := (sFor (iOf (mV 0)) (.t [4, 5]) (sIf (cAnd (cB (m2 dIn (mV 4) (mV 2))) (cB (m2 dNotIn (mV 5) (mV 2)))) (sAppend 2 (mV 5)) sNext)))
    (fun i e => ∃ (met : List Str) (o3 o4 o5 : Option W), e = [some (.d (arL arrows)), some (.d (.str x)), some (.d (strL met)), o3, o4, o5] ∧ Good names arrows x met ∧ (i + 1 ≤ met.length ∨ Closed arrows met)) (dRange 0 ((7 : Nat) : Int)) 0 (fun i d e hi ⟨met, o3, o4, o5, he, g, hc⟩ => by
      subst he
      rw [Nat.zero_add] at hc ⊢
      obtain ⟨met', p4, p5, f1, g', hc'⟩ := inner met (some (.d d)) o4 o5 g
      refine ⟨_, _, rfl, (for_ok (iOf_ok (x := arL arrows) rfl rfl)).trans f1, met', some (.d d), p4, p5, rfl, g', ?_⟩
      rcases hc' with h | ⟨rfl, h⟩
      · rcases hc with h1 | h1
        · exact .inl (by omega)
        · exact .inr fun p hp hm => by
            have hxm : ∀ y, y ∈ met' → y ∈ met := fun y hy => h1.all g.x (g'.r y hy)
            have := nodup_sub_len g'.nd hxm
            omega
      · exact .inr h) [some (.d (arL arrows)), some (.d (.str x)), some (.d (strL [x])), none, none, none] ⟨[x], none, none, none, rfl, ⟨by simp, fun y hy => by simp at hy; subst hy; exact hx, fun y hy => by simp at hy; subst hy; exact .refl, by simp⟩, .inl (by simp)⟩
  subst he
  rw [dRange_len] at hc
  have hcl : Closed arrows met := by
    rcases hc with h | h
    · exact fun p hp _ => full_of g.nd g.sub (by have := N.le; omega) _ (hd p hp)
    · exact h
  refine ⟨met, ?_, Nat.le_trans (nodup_sub_len g.nd g.sub) N.le, g.iff hcl⟩
  unfold m_l_spread b_l_spread
  rw [fnN2]
  rw [seq_ok (e' := [some (.d (arL arrows)), some (.d (.str x)), some (.d (strL [x])), none, none, none]) (set_ok (lst1 rfl))]
  rw [show (7 : Int) = ((7 : Nat) : Int) from rfl]
  rw [seq_ok ((for_ok (rng_ok rfl (seqD 7 (by decide)))).trans f1)]
  rfl
theorem along_turnL {names : List Str} {arrows : List Ar} (N : Net names arrows) (hd : ∀ p ∈ arrows, p.2 ∈ names) {x h : Str} {fs ws : List Str} (w : Wst names arrows x none fs (ws ++ [h])) (o5 o6 o7 : Option W) :
    ∃ fs' ws' p6 p7, alBody [some (.d (nmD names)), some (.d (arL arrows)), some (.d (.str x)), some (dkS fs), some (.d (strL (ws ++ [h]))), o5, o6, o7] = .ok (.nx [some (.d (nmD names)), some (.d (arL arrows)), some (.d (.str x)), some (dkS fs'), some (.d (strL ws')), some (.d (.str h)), p6, p7]) ∧
      Wst names arrows x none fs' ws' ∧ fs.length ≤ fs'.length ∧ ws'.length + fs.length = ws.length + fs'.length := by
  have hnd := List.nodup_append.mp w.wnd
  have hh : h ∈ fs := w.wsub h (by simp)
  have hnw : h ∉ ws := fun z => hnd.2.2 h z h (by simp) rfl
  obtain ⟨e', f1, fs', ws', p6, p7, he, w', hl, hl2, hx, _⟩ := for_inv (tg := .t [6, 7]) (body := (sIf (cAnd (cB (m2 dEq (mV 6) (mV 5))) (cB (mDNotIn 3 (mV 7)))) (sSeq (sDPut 3 (mV 7) (mC (.bl true))) (sAppend 4 (mV 7))) sNext))
    (fun i e => ∃ (fs' ws' : List Str) (o6 o7 : Option W), e = [some (.d (nmD names)), some (.d (arL arrows)), some (.d (.str x)), some (dkS fs'), some (.d (strL ws')), some (.d (.str h)), o6, o7] ∧ Wst names arrows x (some h) fs' ws' ∧ fs.length ≤ fs'.length ∧ ws'.length + fs.length = ws.length + fs'.length ∧ (∀ j p, j < i → arrows[j]? = some p → p.1 = h → p.2 ∈ fs') ∧ h ∈ fs') (arrows.map pairD) 0 (fun i d e hi ⟨f1, w1, o6, o7, he, W1, hl, hl2, hx, hf1⟩ => by
      subst he
      rw [Nat.zero_add] at hx ⊢
      rw [List.getElem?_map] at hi
      obtain ⟨p, hp, rfl⟩ := Option.map_eq_some_iff.mp hi
      have hpm := List.mem_of_getElem? hp
      have c1 : cB (m2 dEq (mV 6) (mV 5)) [some (.d (nmD names)), some (.d (arL arrows)), some (.d (.str x)), some (dkS f1), some (.d (strL w1)), some (.d (.str h)), some (.d (.str p.1)), some (.d (.str p.2))] = .ok (decide (p.1 = h)) := cB_ok ((m2_ok rfl rfl rfl).trans (dEq_str _ _))
      have c2 : cB (mDNotIn 3 (mV 7)) [some (.d (nmD names)), some (.d (arL arrows)), some (.d (.str x)), some (dkS f1), some (.d (strL w1)), some (.d (.str h)), some (.d (.str p.1)), some (.d (.str p.2))] = .ok (!decide (p.2 ∈ f1)) := cB_ok (dnin_S rfl rfl)
      have hl8 : f1.length ≤ 8 := Nat.le_trans (nodup_sub_len W1.g.nd W1.g.sub) N.le
      have hw8 : w1.length ≤ 8 := Nat.le_trans (nodup_sub_len W1.wnd (fun y hy => W1.g.sub y (W1.wsub y hy))) N.le
      by_cases hb : p.1 = h ∧ p.2 ∉ f1
      · refine ⟨[some (.d (nmD names)), some (.d (arL arrows)), some (.d (.str x)), some (dkS f1), some (.d (strL w1)), some (.d (.str h)), some (.d (.str p.1)), some (.d (.str p.2))], [some (.d (nmD names)), some (.d (arL arrows)), some (.d (.str x)), some (dkS (f1 ++ [p.2])), some (.d (strL (w1 ++ [p.2]))), some (.d (.str h)), some (.d (.str p.1)), some (.d (.str p.2))], rfl, ?_, f1 ++ [p.2], w1 ++ [p.2], _, _, rfl, ⟨⟨?_, fun y hy => ?_, fun y hy => ?_, List.mem_append_left _ W1.g.x⟩, ?_, fun y hy => ?_, fun y hy hn => ?_⟩, by rw [List.length_append]; omega, by rw [List.length_append, List.length_append]; simp; omega, fun j q hj hq h1 => ?_, List.mem_append_left _ hf1⟩
        · rw [if_tt (by unfold cAnd; rw [c1, bind_ok, decide_eq_true hb.1, if_pos rfl, c2, decide_eq_false hb.2]; rfl)]
          rw [seq_ok (dput_S (y := p.2) (fs := f1) rfl rfl hb.2 (by omega))]
          rw [append_ok (d := .str p.2) (ds := w1.map D.str) rfl rfl (by rw [List.length_map]; omega)]
          show Rs.ok (Out.nx [_, _, _, _, some (W.d (D.lst (w1.map D.str ++ [.str p.2]))), _, _, _]) = _
          rw [strL, List.map_append]; rfl
        · exact List.nodup_append.mpr ⟨W1.g.nd, by simp, fun a ha b hb' => by
            have : b = p.2 := by simpa using hb'
            subst this
            exact fun z => hb.2 (z ▸ ha)⟩
        · rcases List.mem_append.mp hy with z | z
          · exact W1.g.sub y z
          · have : y = p.2 := by simpa using z
            subst this; exact hd p hpm
        · rcases List.mem_append.mp hy with z | z
          · exact W1.g.r y z
          · have : y = p.2 := by simpa using z
            subst this
            exact .step (W1.g.r p.1 (hb.1 ▸ hf1)) hpm
        · exact List.nodup_append.mpr ⟨W1.wnd, by simp, fun a ha b hb' => by
            have : b = p.2 := by simpa using hb'
            subst this
            exact fun z => hb.2 (z ▸ W1.wsub a ha)⟩
        · rcases List.mem_append.mp hy with z | z
          · exact List.mem_append_left _ (W1.wsub y z)
          · exact List.mem_append_right _ z
        · rcases List.mem_append.mp hy with z | z
          · rcases W1.ex y z (fun q => hn (List.mem_append_left _ q)) with q | q
            · exact .inl q
            · exact .inr fun r hr h1 => List.mem_append_left _ (q r hr h1)
          · exact absurd (List.mem_append_right _ z) hn
        · by_cases hji : j = i
          · subst hji
            rw [hp] at hq; cases hq
            simp
          · exact List.mem_append_left _ (hx j q (by omega) hq h1)
      · refine ⟨[some (.d (nmD names)), some (.d (arL arrows)), some (.d (.str x)), some (dkS f1), some (.d (strL w1)), some (.d (.str h)), some (.d (.str p.1)), some (.d (.str p.2))], [some (.d (nmD names)), some (.d (arL arrows)), some (.d (.str x)), some (dkS f1), some (.d (strL w1)), some (.d (.str h)), some (.d (.str p.1)), some (.d (.str p.2))], rfl, ?_, f1, w1, _, _, rfl, W1, hl, hl2, fun j q hj hq h1 => ?_, hf1⟩
        · rw [if_ff (by
            unfold cAnd
            rw [c1, bind_ok]
            by_cases h1 : p.1 = h
            · rw [decide_eq_true h1, if_pos rfl, c2, decide_eq_true (Classical.byContradiction fun z => hb ⟨h1, z⟩)]; rfl
            · rw [decide_eq_false h1, if_neg Bool.false_ne_true])]
          rfl
        · by_cases hji : j = i
          · subst hji
            rw [hp] at hq; cases hq
            exact Classical.byContradiction fun z => hb ⟨h1, z⟩
          · exact hx j q (by omega) hq h1) [some (.d (nmD names)), some (.d (arL arrows)), some (.d (.str x)), some (dkS fs), some (.d (strL ws)), some (.d (.str h)), o6, o7]
    ⟨fs, ws, o6, o7, rfl, ⟨w.g, hnd.1, fun y hy => w.wsub y (List.mem_append_left _ hy), fun y hy hn => by
      by_cases hyh : y = h
      · exact .inl (by rw [hyh])
      · rcases w.ex y hy (fun z => by
          rcases List.mem_append.mp z with z | z
          · exact hn z
          · exact hyh (by simpa using z)) with q | q
        · cases q
        · exact .inr q⟩, Nat.le_refl _, rfl, fun j p hj => absurd hj (Nat.not_lt_zero _), hh⟩
  subst he
  refine ⟨fs', ws', p6, p7, ?_, ⟨w'.g, w'.wnd, w'.wsub, fun y hy hn => .inr ?_⟩, hl, hl2⟩
  · rw [show alBody = sSeq (sPop 5 4) (sFor (iOf (mV 1)) (.t [6, 7]) (sIf (cAnd (cB (m2 dEq (mV 6) (mV 5))) (cB (mDNotIn 3 (mV 7)))) (sSeq (sDPut 3 (mV 7) (mC (.bl true))) (sAppend 4 (mV 7))) sNext)) from rfl]
    rw [seq_ok (e' := [some (.d (nmD names)), some (.d (arL arrows)), some (.d (.str x)), some (dkS fs), some (.d (strL ws)), some (.d (.str h)), o6, o7]) (by
      show (ofO (((ws ++ [h]).map D.str)[((ws ++ [h]).map D.str).length - 1]?)).bind _ = _
      have e1 : ((ws ++ [h]).map D.str)[((ws ++ [h]).map D.str).length - 1]? = some (.str h) := by simp
      have e2 : ((ws ++ [h]).map D.str).dropLast = ws.map D.str := by simp
      rw [e1, ofO_some, bind_ok, e2]; rfl)]
    exact (for_ok (iOf_ok (x := arL arrows) rfl rfl)).trans f1
  · rcases w'.ex y hy hn with q | q
    · cases q
      intro p hp h1
      obtain ⟨j, hj⟩ := List.getElem?_of_mem hp
      exact hx j p (by rw [List.length_map]; have := (List.getElem?_eq_some_iff.mp hj).1; omega) hj h1
    · exact q
theorem along_whileL {names : List Str} {arrows : List Ar} (N : Net names arrows) (hd : ∀ p ∈ arrows, p.2 ∈ names) {x : Str} : ∀ (n : Nat) (fs ws : List Str) (o5 o6 o7 : Option W), Wst names arrows x none fs ws → (names.length - fs.length) + ws.length < n →
    ∃ fs' p5 p6 p7, whileD (cTru (mV 4)) alBody n [some (.d (nmD names)), some (.d (arL arrows)), some (.d (.str x)), some (dkS fs), some (.d (strL ws)), o5, o6, o7] = .ok (.nx [some (.d (nmD names)), some (.d (arL arrows)), some (.d (.str x)), some (dkS fs'), some (.d (strL [])), p5, p6, p7]) ∧ Wst names arrows x none fs' []
  | 0, _, _, _, _, _, _, h => absurd h (Nat.not_lt_zero _)
  | n + 1, fs, ws, o5, o6, o7, w, h => by
    have hc : cTru (mV 4) [some (.d (nmD names)), some (.d (arL arrows)), some (.d (.str x)), some (dkS fs), some (.d (strL ws)), o5, o6, o7] = .ok (!(ws.map D.str).isEmpty) := rfl
    rcases List.eq_nil_or_concat ws with rfl | ⟨ws1, y, rfl⟩
    · exact ⟨fs, o5, o6, o7, by rw [whileD, hc]; rfl, w⟩
    · rw [List.concat_eq_append] at w h hc ⊢
      obtain ⟨fs', ws', p6, p7, f1, w', l1, l2⟩ := along_turnL N hd w o5 o6 o7
      have l3 : fs'.length ≤ names.length := nodup_sub_len w'.g.nd w'.g.sub
      obtain ⟨fs2, q5, q6, q7, f2, w2⟩ := along_whileL N hd n fs' ws' (some (.d (.str y))) p6 p7 w' (by rw [List.length_append] at h; simp at h; omega)
      refine ⟨fs2, q5, q6, q7, ?_, w2⟩
      rw [whileD, hc, show (!((ws1 ++ [y]).map D.str).isEmpty) = true by simp, bind_ok, if_pos rfl, f1, bind_ok]
      exact f2
theorem alongL_ok {names : List Str} {arrows : List Ar} (N : Net names arrows) (hd : ∀ p ∈ arrows, p.2 ∈ names) {x : Str} (hx : x ∈ names) : m_names_along [.d (nmD names), .d (arL arrows), .d (.str x)] = .ok (.d (strL (belw names arrows x))) := by
  have w0 : Wst names arrows x none [x] [x] := ⟨⟨by simp, fun y hy => by simp at hy; subst hy; exact hx, fun y hy => by simp at hy; subst hy; exact .refl, by simp⟩, by simp, fun y hy => hy, fun y hy hn => absurd hy hn⟩
  obtain ⟨fs, p5, p6, p7, f1, w⟩ := along_whileL N hd 20 [x] [x] none none none w0 (by have := N.le; simp; omega)
  have hcl : Closed arrows fs := fun p hp h1 => by
    rcases w.ex p.1 h1 (by simp) with q | q
    · cases q
    · exact q p hp rfl
  unfold m_names_along b_names_along
  rw [fnN3]
  rw [seq_ok (e' := [some (.d (nmD names)), some (.d (arL arrows)), some (.d (.str x)), some (dkS [x]), none, none, none, none]) rfl]
  rw [seq_ok (e' := [some (.d (nmD names)), some (.d (arL arrows)), some (.d (.str x)), some (dkS [x]), some (.d (strL [x])), none, none, none]) (set_ok (lst1 rfl))]
  rw [seq_ok (show sWhile 20 (cTru (mV 4)) alBody _ = _ from f1)]
  have hc : compD (.n 1) (cB (mDIn 0 (mV 1))) (mV 1) [some (dkS fs), none] (names.map D.str) = .ok ((names.filter (rch arrows x)).map D.str) :=
    comp_map D.str D.str _ names fun y _ => ⟨[some (dkS fs), some (.d (.str y))], rfl, cB_ok ((din_S rfl rfl).trans (by rw [mem_rch (w.g.iff hcl)])), fun _ => rfl⟩
  rw [ret_ok (wD_ok (comp_ok (iOf_ok (x := nmD names) rfl rfl) (by rw [List.length_map]; have := N.le; omega) hc))]
  rfl
def swp (arrows : List Ar) : List Ar := arrows.map fun p => (p.2, p.1)
theorem mem_swp {arrows : List Ar} {x y : Str} : (x, y) ∈ swp arrows ↔ (y, x) ∈ arrows := by
  unfold swp
  rw [List.mem_map]
  exact ⟨fun ⟨p, hp, e⟩ => by cases e; exact hp, fun h => ⟨(y, x), h, rfl⟩⟩
theorem Rch.trans {arrows : List Ar} {x y z : Str} (h : Rch arrows x y) (g : Rch arrows y z) : Rch arrows x z := by
  induction g with
  | refl => exact h
  | step _ m ih => exact .step ih m
theorem Rch.swap {arrows : List Ar} {x y : Str} (h : Rch arrows x y) : Rch (swp arrows) y x := by
  induction h with
  | refl => exact .refl
  | step _ m ih => exact Rch.trans (.step .refl (mem_swp.mpr m)) ih
theorem swp_swp (arrows : List Ar) : swp (swp arrows) = arrows := by
  unfold swp
  rw [List.map_map]
  exact (List.map_congr_left fun p _ => rfl).trans (List.map_id _)
theorem rch_swp {arrows : List Ar} {x y : Str} : rch (swp arrows) x y = rch arrows y x := by
  rw [Bool.eq_iff_iff, rch_iff, rch_iff]
  exact ⟨fun h => by have := h.swap; rw [swp_swp] at this; exact this, fun h => h.swap⟩
theorem net_swp {names : List Str} {arrows : List Ar} (N : Net names arrows) (hd : ∀ p ∈ arrows, p.2 ∈ names) : Net names (swp arrows) := by
  obtain ⟨r, hr⟩ := N.rk
  refine ⟨N.nd, N.pos, N.le, ?_, fun p hp => ?_, fun x => - r x, fun p hp => ?_⟩
  · unfold swp; rw [List.length_map]; exact N.al
  · exact hd (p.2, p.1) (mem_swp.mp (show (p.1, p.2) ∈ _ from hp))
  · have := hr (p.2, p.1) (mem_swp.mp (show (p.1, p.2) ∈ _ from hp))
    show - r p.1 < - r p.2
    simp only at this
    omega
theorem hd_swp {names : List Str} {arrows : List Ar} (N : Net names arrows) : ∀ p ∈ swp arrows, p.2 ∈ names := fun p hp => N.tl (p.2, p.1) (mem_swp.mp (show (p.1, p.2) ∈ _ from hp))
theorem swp_comp {arrows : List Ar} {ρ : List (Option Nat)} {e : Mi.Env} (hp : pickE ρ e = [none, none]) {a : E} (ha : a e = .ok (arD arrows)) (hl : arrows.length ≤ 64) : mComp ρ (iOf a) (.t [0, 1]) cYes (mN dTup [(mV 1), (mV 0)]) e = .ok (arL (swp arrows)) := by
  have hc : compD (.t [0, 1]) cYes (mN dTup [(mV 1), (mV 0)]) [none, none] (arrows.map pairD) = .ok ((arrows.filter fun _ => true).map fun p => pairD (p.2, p.1)) :=
    comp_map pairD (fun p => pairD (p.2, p.1)) _ arrows fun p _ => ⟨[some (.d (.str p.1)), some (.d (.str p.2))], rfl, rfl, fun _ => tup2 rfl rfl⟩
  rw [List.filter_eq_self.mpr (fun _ _ => rfl)] at hc
  rw [comp_ok (iOf_ok ha rfl) (by rw [List.length_map]; omega) (by rw [hp]; exact hc)]
  unfold arL swp
  rw [List.map_map]
  rfl
noncomputable def abov (names : List Str) (arrows : List Ar) (x : Str) : List Str := belw names (swp arrows) x
theorem mem_abov {names : List Str} {arrows : List Ar} {x y : Str} (hy : y ∈ names) : y ∈ abov names arrows x ↔ rch arrows y x = true := by
  unfold abov belw
  rw [List.mem_filter, rch_swp]
  exact ⟨fun h => h.2, fun h => ⟨hy, h⟩⟩
theorem mem_belw {names : List Str} {arrows : List Ar} {x y : Str} (hy : y ∈ names) : y ∈ belw names arrows x ↔ rch arrows x y = true := by
  unfold belw
  rw [List.mem_filter]
  exact ⟨fun h => h.2, fun h => ⟨hy, h⟩⟩
theorem l_above_ok {names : List Str} {arrows : List Ar} (N : Net names arrows) (hd : ∀ p ∈ arrows, p.2 ∈ names) {x : Str} (hx : x ∈ names) : m_l_above [.d (netD names arrows), .d (.str x)] = .ok (.d (strL (abov names arrows x))) := by
  obtain ⟨met, h1, _, h3⟩ := spreadL_ok (net_swp N hd) (hd_swp N) hx
  unfold m_l_above b_l_above
  rw [fnN2]
  rw [seq_ok (e' := [some (.d (netD names arrows)), some (.d (.str x)), some (.d (strL met))]) (set_ok (call2 (wD_ok (swp_comp rfl (m2_ok rfl rfl (ix1 _ _)) N.al)) rfl h1))]
  have hc : compD (.n 1) (cB (m2 dIn (mV 1) (mV 0))) (mV 1) [some (.d (strL met)), none] (names.map D.str) = .ok ((names.filter (rch (swp arrows) x)).map D.str) :=
    comp_map D.str D.str _ names fun y _ => ⟨[some (.d (strL met)), some (.d (.str y))], rfl, cB_ok ((m2_ok rfl rfl rfl).trans ((dIn_str _ _).trans (by rw [mem_rch h3]))), fun _ => rfl⟩
  rw [ret_ok (wD_ok (comp_ok (iOf_ok (m2_ok rfl rfl (ix0 _ _)) rfl) (by rw [List.length_map]; have := N.le; omega) hc))]
  rfl
theorem above_ok {names : List Str} {arrows : List Ar} (N : Net names arrows) (hd : ∀ p ∈ arrows, p.2 ∈ names) {x : Str} (hx : x ∈ names) : m_names_above [.d (netD names arrows), .d (.str x)] = .ok (.d (strL (abov names arrows x))) := by
  unfold m_names_above b_names_above
  rw [fnN2]
  have hr : m_refuse_strangers [.d (nmD names), .d (strL [x])] = .ok (.d .non) := refuse_ok fun y hy => by simp at hy; subst hy; exact hx
  rw [seq_ok (e' := [some (.d (netD names arrows)), some (.d (.str x))]) (by unfold sDrop; rw [call2 (wD_ok (m2_ok rfl rfl (ix0 _ _))) (wD_ok (lst1 rfl)) hr]; rfl)]
  rw [ret_ok (wD_ok (call3 (wD_ok (m2_ok rfl rfl (ix0 _ _))) (wD_ok (swp_comp rfl (m2_ok rfl rfl (ix1 _ _)) N.al)) rfl (alongL_ok (net_swp N hd) (hd_swp N) hx)))]
  rfl
theorem xabove {names : List Str} {arrows : List Ar} {x : Str} (hx : x ∉ names) (hs : Sh x) : mX_names_above [.d (netD names arrows), .d (.str x)] = .ex xNo := by
  unfold mX_names_above bX_names_above
  rw [fnM2]
  rw [seq_ex (callX2_ex (wD_ok (m2_ok rfl rfl (ix0 names arrows))) (wD_ok (lst1 rfl)) (xrefuse (names := names) (asked := [x]) ⟨x, List.mem_cons_self .., hx⟩ fun z hz => by rw [List.mem_singleton.mp hz]; exact hs))]
  rfl
theorem xbelow {names : List Str} {arrows : List Ar} {x : Str} (hx : x ∉ names) (hs : Sh x) : mX_names_below [.d (netD names arrows), .d (.str x)] = .ex xNo := by
  unfold mX_names_below bX_names_below
  rw [fnM2]
  rw [seq_ex (callX2_ex (wD_ok (m2_ok rfl rfl (ix0 names arrows))) (wD_ok (lst1 rfl)) (xrefuse (names := names) (asked := [x]) ⟨x, List.mem_cons_self .., hx⟩ fun z hz => by rw [List.mem_singleton.mp hz]; exact hs))]
  rfl
theorem refused5_of {net one : D} {way : Int} (hb : (sIf (cP (cB (m2 dEq (mV 2) (mC (.int 0))))) (sCallX mX_names_above [(wD (mV 0)), (wD (mV 1))]) (sCallX mX_names_below [(wD (mV 0)), (wD (mV 1))])) [some (.d net), some (.d one), some (.d (.int way)), some (.d (.lst [])), none] = .ex xNo) :
    m_l_refused_5 [.d net, .d one, .d (.int way)] = .ok (.d nn) := by
  unfold m_l_refused_5 b_l_refused_5
  rw [fnM3]
  rw [show ([some (W.d net), some (W.d one), some (W.d (.int way))] ++ List.replicate (5 - 3) none) = [some (W.d net), some (W.d one), some (W.d (.int way)), none, none] from rfl]
  rw [seq_ok (e' := [some (W.d net), some (W.d one), some (W.d (.int way)), some (W.d (.lst [])), none]) (set_ok (lst0 _))]
  have hh := set_ok (i := 3) (call1 (f := m_l_kinds) (a := wV 4) (e := [some (W.d net), some (W.d one), some (W.d (.int way)), some (W.d (.lst [])), some (.ex "NoName")]) rfl kinds_nn)
  rw [seq_ok (e' := [some (W.d net), some (W.d one), some (W.d (.int way)), some (W.d nn), none]) (try_ex (o := .nx [some (W.d net), some (W.d one), some (W.d (.int way)), some (W.d nn), some (.ex "NoName")]) hb (List.mem_cons_self ..) hh)]
  rw [ret_ok (wD_ok rfl)]
  rfl
theorem way5 {net one : D} {way k : Int} : cP (cB (m2 dEq (mV 2) (mC (.int k)))) [some (.d net), some (.d one), some (.d (.int way)), some (.d (.lst [])), none] = .ok (decide (way = k)) :=
  cP_ok (cB_ok (m2_ok rfl rfl (dEq_int way k)))
theorem refused50 {names : List Str} {arrows : List Ar} {x : Str} (hx : x ∉ names) (hs : Sh x) : m_l_refused_5 [.d (netD names arrows), .d (.str x), .d (.int 0)] = .ok (.d nn) :=
  refused5_of ((if_tt way5).trans (callX2_ex rfl rfl (xabove hx hs)))
theorem refused51 {names : List Str} {arrows : List Ar} {x : Str} (hx : x ∉ names) (hs : Sh x) : m_l_refused_5 [.d (netD names arrows), .d (.str x), .d (.int 1)] = .ok (.d nn) :=
  refused5_of ((if_ff way5).trans (callX2_ex rfl rfl (xbelow hx hs)))
end Mr
set_option linter.all false
set_option maxRecDepth 10000
namespace Mr
open PySem Mi
open My (words_word)
def dkG (fs : List Str) (g : Str → D) : W := .dk (fs.map fun y => ((Sum.inr y : Ky), g y))
theorem valG (g : Str → D) (y : Str) : ∀ {fs : List Str}, y ∈ fs → valK (fs.map fun y => ((Sum.inr y : Ky), g y)) (Sum.inr y) = some (g y)
  | [], h => nomatch h
  | a :: r, h => by
    unfold valK
    rw [List.map_cons, List.find?_cons]
    by_cases q : a = y
    · subst q
      rw [decide_eq_true rfl]; rfl
    · rw [decide_eq_false (fun z : (Sum.inr a : Ky) = Sum.inr y => q (Sum.inr.inj z))]
      have ih := valG g y (fs := r) ((List.mem_cons.mp h).resolve_left (Ne.symm q))
      unfold valK at ih
      exact ih
theorem dget_G {i : Nat} {k : E} {e : Mi.Env} {fs : List Str} {g : Str → D} {y : Str} (hk : k e = .ok (.str y)) (hw : wV i e = .ok (dkG fs g)) (hy : y ∈ fs) : mDGet i k e = .ok (g y) := by
  unfold mDGet; rw [hk, bind_ok, hw, bind_ok]
  show (Rs.ok (valK (fs.map fun y => ((Sum.inr y : Ky), g y)) (Sum.inr y))).bind ofO = _
  rw [valG g y hy]; rfl
theorem imms_strs : ∀ (xs : List Str), imms (xs.map D.str) = true
  | [] => rfl
  | x :: r => by rw [List.map_cons, imms, imms_strs r]; rfl
theorem dputN_G {i : Nat} {k v : E} {e : Mi.Env} {fs : List Str} {g : Str → D} {y : Str} (hv : v e = .ok (g y)) (hk : k e = .ok (.str y)) (hw : wV i e = .ok (dkG fs g)) (hn : y ∉ fs) (hl : fs.length ≤ 1000) {zs : List Str} (hz : g y = strL zs) : sDPutN i k v e = .ok (.nx (e.set i (some (dkG (fs ++ [y]) g)))) := by
  unfold sDPutN
  have h1 : dPut (dkG fs g) (.str y) (g y) = .ok (dkG (fs ++ [y]) g) := by
    show guardR ((fs.map fun y => ((Sum.inr y : Ky), g y)).length < 16777216) ((ofO (dKey (.str y))).bind fun k => Rs.ok (W.dk (Mi.putK k (g y) (fs.map fun y => ((Sum.inr y : Ky), g y))))) = _
    rw [guardR_pos (by rw [List.length_map]; omega)]
    show Rs.ok (W.dk (Mi.putK (Sum.inr y : Ky) (g y) (fs.map fun y => ((Sum.inr y : Ky), g y)))) = _
    unfold Mi.putK
    rw [if_neg (by
      rw [List.any_map, Bool.not_eq_true, List.any_eq_false]
      intro z hz
      simp only [Function.comp, decide_eq_true_eq]
      exact fun q => hn (Sum.inr.inj q ▸ hz))]
    unfold dkG
    rw [List.map_append]; rfl
  show (v e).bind _ = _
  rw [hv, bind_ok]
  rw [hz] at h1 ⊢
  show guardR (imms (zs.map D.str) = true) _ = _
  rw [guardR_pos (imms_strs zs), hk, bind_ok, hw, bind_ok, h1]; rfl
theorem kclr_ok {ks : List Ky} {k : E} {e : Mi.Env} {y : Str} {fs : List Str} (hk : k e = .ok (.str y)) (hy : y ∈ fs) (hks : ks = fs.map fun z => (Sum.inr z : Ky)) : sKClr ks k e = .ok (.nx e) := by
  unfold sKClr
  rw [hk, bind_ok]
  show guardR ((ks.any fun z => decide (z = (Sum.inr y : Ky))) = true) _ = _
  rw [guardR_pos (by rw [hks, List.any_map, List.any_eq_true]; exact ⟨y, hy, decide_eq_true rfl⟩)]
theorem dNe_bl (b : Bool) : dNe (.bl b) (.bl b) = .ok (.bl false) := by cases b <;> rfl
theorem tail_ok {m : S} {e : Mi.Env} {w : W} (h : m e = .ok (.rt w)) : sTail m e = .ok (.rt w) := by unfold sTail; rw [h]
theorem law_k06_holds (ns : List Int) (hl : ns.length ≤ 63) : m_law_k06 [.d (.lst (ns.map D.int))] = .ok (.d (.bl true)) := by
  obtain ⟨names, A, r, hnet, IN, cw, mw, hm8, hnm⟩ := net2w_ok ns 8 (by decide) (by decide)
  rw [show ((8 : Nat) : Int) = 8 from rfl] at hnet
  have hs : ∀ x ∈ names, x.length ≤ 8 ∧ ∀ c ∈ x.cps.toList, c < 128 := fun x hx => by
    rw [hnm] at hx
    obtain ⟨l, hl, rfl⟩ := List.mem_map.mp hx
    obtain ⟨h1, h2, h3⟩ := words_word cw mw hm8 l hl
    exact ⟨by rw [S'_len]; exact h2, fun c hc => by have := h3 c hc; omega⟩
  have N := IN.net
  have hd : ∀ p ∈ A.map (arrOf names), p.2 ∈ names := fun p hp => by
    obtain ⟨q, hq, rfl⟩ := List.mem_map.mp hp
    exact nth_mem (IN.all q hq).2.1
  have hn8 := IN.le
  have hn1 := IN.pos
  generalize A.map (arrOf names) = arrows at hnet N hd
  obtain ⟨c, hc⟩ := cell_ok ns 32 (by decide)
  rw [show ((32 : Nat) : Int) = 32 from rfl] at hc
  obtain ⟨x0, hx0, hn0, sx0⟩ := stranger_ok hn1 hn8 hs (c / 2)
  unfold m_law_k06 b_law_k06
  rw [fnM1]
  rw [show ([some (W.d (.lst (ns.map D.int)))] ++ List.replicate (9 - 1) none) = [some (W.d (.lst (ns.map D.int))), none, none, none, none, none, none, none, none] from rfl]
  rw [seq_ok (e' := [some (.d (.lst (ns.map D.int))), some (.d (netD names arrows)), none, none, none, none, none, none, none]) (set_ok (call2 rfl rfl hnet))]
  rw [seq_ok (e' := [some (.d (.lst (ns.map D.int))), some (.d (netD names arrows)), some (.d (.int c)), none, none, none, none, none, none]) (set_ok (call2 rfl rfl hc))]
  rw [seq_ok (e' := [some (.d (.lst (ns.map D.int))), some (.d (netD names arrows)), some (.d (.int c)), some (.d (strL names)), none, none, none, none, none]) (set_ok ((n1_ok (m2_ok rfl rfl (ix0 names arrows))).trans rfl))]
  obtain ⟨xs, hp, nd, hx8, hif⟩ : ∃ xs : List Str, (∀ x ∈ xs, x ∈ names) ∧ xs.Nodup ∧ xs.length ≤ 8 ∧ (sIf (cB (m2 dEq (m2 dMod (mV 2) (mC (.int 2))) (mC (.int 1)))) (sReverse 3) sNext) [some (.d (.lst (ns.map D.int))), some (.d (netD names arrows)), some (.d (.int c)), some (.d (strL names)), none, none, none, none, none] =
      .ok (.nx [some (.d (.lst (ns.map D.int))), some (.d (netD names arrows)), some (.d (.int c)), some (.d (strL xs)), none, none, none, none, none]) := by
    have ct : cB (m2 dEq (m2 dMod (mV 2) (mC (.int 2))) (mC (.int 1))) [some (.d (.lst (ns.map D.int))), some (.d (netD names arrows)), some (.d (.int c)), some (.d (strL names)), none, none, none, none, none] = .ok (decide (c % 2 = 1)) :=
      cB_ok (m2_ok (m2_ok rfl rfl (guardR_pos (by decide))) rfl (dEq_int _ _))
    by_cases h2 : c % 2 = 1
    · rw [decide_eq_true h2] at ct
      refine ⟨names.reverse, fun x hx => List.mem_reverse.mp hx, List.pairwise_reverse.mpr (N.nd.imp fun h => Ne.symm h), by rw [List.length_reverse]; exact hn8, (if_tt ct).trans ?_⟩
      show Rs.ok (Out.nx [_, _, _, some (W.d (.lst (names.map D.str).reverse)), _, _, _, _, _]) = _
      unfold strL
      rw [List.map_reverse]
    · rw [decide_eq_false h2] at ct
      exact ⟨_, fun x hx => hx, N.nd, hn8, (if_ff ct).trans rfl⟩
  rw [seq_ok hif]
  rw [seq_ok (e' := [some (.d (.lst (ns.map D.int))), some (.d (netD names arrows)), some (.d (.int c)), some (.d (strL xs)), some (.dk []), none, none, none, none]) rfl]
  rw [seq_ok (e' := [some (.d (.lst (ns.map D.int))), some (.d (netD names arrows)), some (.d (.int c)), some (.d (strL xs)), some (.dk []), some (.dk []), none, none, none]) rfl]
  have tk : ∀ {i : Nat} {x : Str}, xs[i]? = some x → xs.take (i + 1) = xs.take i ++ [x] := fun {i x} h => by rw [List.take_succ, h]; rfl
  have tn : ∀ {i : Nat} {x : Str}, xs[i]? = some x → x ∉ xs.take i := fun {i x} h q => by
    have z : (xs.take (i + 1)).Nodup := List.Nodup.sublist (List.take_sublist _ _) nd
    rw [tk h] at z
    exact (List.nodup_append.mp z).2.2 x q x (by simp) rfl
  obtain ⟨gA, eA⟩ : ∃ gA : Str → D, gA = fun x => strL (abov names arrows x) := ⟨_, rfl⟩
  obtain ⟨gB, eB⟩ : ∃ gB : Str → D, gB = fun x => strL (belw names arrows x) := ⟨_, rfl⟩
  have hA : ∀ x, x ∈ names → m_names_above [.d (netD names arrows), .d (.str x)] = .ok (.d (gA x)) := fun x hx => by rw [eA]; exact above_ok N hd hx
  have hB : ∀ x, x ∈ names → m_names_below [.d (netD names arrows), .d (.str x)] = .ok (.d (gB x)) := fun x hx => by rw [eB]; exact below_ok N hd hx
  have lA : ∀ x, x ∈ names → m_l_above [.d (netD names arrows), .d (.str x)] = .ok (.d (gA x)) := fun x hx => by rw [eA]; exact l_above_ok N hd hx
  have lB : ∀ x, x ∈ names → m_l_below [.d (netD names arrows), .d (.str x)] = .ok (.d (gB x)) := fun x hx => by rw [eB]; exact l_below_ok N hd hx
  have kA : ∀ x, m_l_alike 3 [.d (gA x), .d (gA x)] = .ok (.d (.bl true)) := fun x => by rw [eA]; exact alike_strs 1 _
  have kB : ∀ x, m_l_alike 3 [.d (gB x), .d (gB x)] = .ok (.d (.bl true)) := fun x => by rw [eB]; exact alike_strs 1 _
  have tA : ∀ x, gA x = strL (abov names arrows x) := fun x => by rw [eA]
  have tB : ∀ x, gB x = strL (belw names arrows x) := fun x => by rw [eB]
  have iA : ∀ x y, dIn (.str x) (gA y) = .ok (.bl (decide (x ∈ abov names arrows y))) := fun x y => by rw [eA]; exact dIn_str _ _
  have iB : ∀ x y, dIn (.str x) (gB y) = .ok (.bl (decide (x ∈ belw names arrows y))) := fun x y => by rw [eB]; exact dIn_str _ _
  have ab : ∀ x y, x ∈ names → y ∈ names → decide (x ∈ abov names arrows y) = decide (y ∈ belw names arrows x) := fun x y hx hy => by
    rw [decide_eq_decide, mem_abov hx, mem_belw hy]
  clear eA eB
  generalize hS : (W.d (.lst (ns.map D.int))) = S0
  generalize hN : (W.d (netD names arrows)) = N0 at hA hB lA lB ⊢
  -- the first loop
  obtain ⟨e1, f1, p6, he1⟩ := for_inv (tg := .n 6) (body := (sSeq (sDPutN 4 (mV 6) (mCall m_names_above [(wD (mV 1)), (wD (mV 6))]))
  (sSeq (sDPutN 5 (mV 6) (mCall m_names_below [(wD (mV 1)), (wD (mV 6))]))
  (sIf (cOr (cNot (cB (mCall (m_l_alike 3) [(wD (mDGet 4 (mV 6))), (wD (mCall m_l_above [(wD (mV 1)), (wD (mV 6))]))]))) (cNot (cB (mCall (m_l_alike 3) [(wD (mDGet 5 (mV 6))), (wD (mCall m_l_below [(wD (mV 1)), (wD (mV 6))]))]))))
  (sRet (wD (mC (.bl false))))
  sNext)))) (fun i e => ∃ o6 : Option W, e = [some S0, some N0, some (.d (.int c)), some (.d (strL xs)), some (dkG (xs.take i) gA), some (dkG (xs.take i) gB), o6, none, none]) (xs.map D.str) 0 (fun i d e hi ⟨o6, he⟩ => by
      subst he
      rw [List.getElem?_map] at hi
      obtain ⟨x, hx, rfl⟩ := Option.map_eq_some_iff.mp hi
      have mx := hp x (List.mem_of_getElem? hx)
      have tl : (xs.take (0 + i)).length ≤ 1000 := by rw [List.length_take]; omega
      have mt : x ∈ xs.take (i + 1) := by rw [tk hx]; simp
      rw [Nat.zero_add] at tl ⊢
      refine ⟨[some S0, some N0, some (.d (.int c)), some (.d (strL xs)), some (dkG (xs.take i) gA), some (dkG (xs.take i) gB), some (.d (.str x)), none, none], [some S0, some N0, some (.d (.int c)), some (.d (strL xs)), some (dkG (xs.take (i + 1)) gA), some (dkG (xs.take (i + 1)) gB), some (.d (.str x)), none, none], rfl, ?_, _, rfl⟩
      subst hN
      rw [seq_ok (e' := [some S0, some (W.d (netD names arrows)), some (.d (.int c)), some (.d (strL xs)), some (dkG (xs.take (i + 1)) gA), some (dkG (xs.take i) gB), some (.d (.str x)), none, none])
        ((dputN_G (g := gA) (y := x) (call2 rfl rfl (hA x mx)) rfl rfl (tn hx) tl (tA x)).trans (by rw [tk hx]; rfl))]
      rw [seq_ok (e' := [some S0, some (W.d (netD names arrows)), some (.d (.int c)), some (.d (strL xs)), some (dkG (xs.take (i + 1)) gA), some (dkG (xs.take (i + 1)) gB), some (.d (.str x)), none, none])
        ((dputN_G (g := gB) (y := x) (call2 rfl rfl (hB x mx)) rfl rfl (tn hx) tl (tB x)).trans (by rw [← tk hx]; rfl))]
      have ct := cOr_ok (not_ff (call2 (f := m_l_alike 3) (a := wD (mDGet 4 (mV 6))) (b := wD (mCall m_l_above [(wD (mV 1)), (wD (mV 6))])) (e := [some S0, some (W.d (netD names arrows)), some (.d (.int c)), some (.d (strL xs)), some (dkG (xs.take (i + 1)) gA), some (dkG (xs.take (i + 1)) gB), some (.d (.str x)), none, none]) (wD_ok (dget_G (g := gA) (y := x) rfl rfl mt)) (wD_ok (call2 rfl rfl (lA x mx))) (kA x)))
        fun _ => not_ff (call2 (f := m_l_alike 3) (a := wD (mDGet 5 (mV 6))) (b := wD (mCall m_l_below [(wD (mV 1)), (wD (mV 6))])) (wD_ok (dget_G (g := gB) (y := x) rfl rfl mt)) (wD_ok (call2 rfl rfl (lB x mx))) (kB x))
      exact (if_ff ct).trans rfl) [some S0, some N0, some (.d (.int c)), some (.d (strL xs)), some (.dk []), some (.dk []), none, none, none] ⟨none, rfl⟩
  rw [List.length_map, Nat.zero_add, List.take_length] at he1
  subst he1
  -- the second one
  have inner : ∀ (x : Str), x ∈ xs → ∀ o8 : Option W, ∃ p8 : Option W, forD (.n 8) (sIf (cB (m2 dNe (m2 dIn (mV 7) (mDGet 4 (mV 8))) (m2 dIn (mV 8) (mDGet 5 (mV 7)))))
  (sRet (wD (mC (.bl false))))
  sNext) (xs.map D.str) [some S0, some N0, some (.d (.int c)), some (.d (strL xs)), some (dkG xs gA), some (dkG xs gB), p6, some (.d (.str x)), o8] = .ok (.nx [some S0, some N0, some (.d (.int c)), some (.d (strL xs)), some (dkG xs gA), some (dkG xs gB), p6, some (.d (.str x)), p8]) := fun x hx o8 => by
    obtain ⟨e', f, p8, he⟩ := for_inv (tg := .n 8) (body := (sIf (cB (m2 dNe (m2 dIn (mV 7) (mDGet 4 (mV 8))) (m2 dIn (mV 8) (mDGet 5 (mV 7)))))
  (sRet (wD (mC (.bl false))))
  sNext)) (fun i e => ∃ o8 : Option W, e = [some S0, some N0, some (.d (.int c)), some (.d (strL xs)), some (dkG xs gA), some (dkG xs gB), p6, some (.d (.str x)), o8]) (xs.map D.str) 0 (fun i d e hi ⟨o8, he⟩ => by
        subst he
        rw [List.getElem?_map] at hi
        obtain ⟨y, hy, rfl⟩ := Option.map_eq_some_iff.mp hi
        have my := List.mem_of_getElem? hy
        refine ⟨[some S0, some N0, some (.d (.int c)), some (.d (strL xs)), some (dkG xs gA), some (dkG xs gB), p6, some (.d (.str x)), some (.d (.str y))], [some S0, some N0, some (.d (.int c)), some (.d (strL xs)), some (dkG xs gA), some (dkG xs gB), p6, some (.d (.str x)), some (.d (.str y))], rfl, ?_, _, rfl⟩
        have c1 : m2 dIn (mV 7) (mDGet 4 (mV 8)) [some S0, some N0, some (.d (.int c)), some (.d (strL xs)), some (dkG xs gA), some (dkG xs gB), p6, some (.d (.str x)), some (.d (.str y))] = .ok (.bl (decide (x ∈ abov names arrows y))) :=
          m2_ok rfl (dget_G (g := gA) (y := y) rfl rfl my) (iA x y)
        have c2 : m2 dIn (mV 8) (mDGet 5 (mV 7)) [some S0, some N0, some (.d (.int c)), some (.d (strL xs)), some (dkG xs gA), some (dkG xs gB), p6, some (.d (.str x)), some (.d (.str y))] = .ok (.bl (decide (x ∈ abov names arrows y))) :=
          m2_ok rfl (dget_G (g := gB) (y := x) rfl rfl hx) ((iB y x).trans (by rw [ab x y (hp x hx) (hp y my)]))
        exact (if_ff (cB_ok (m2_ok c1 c2 (dNe_bl _)))).trans rfl) _ ⟨o8, rfl⟩
    subst he
    exact ⟨p8, f⟩
  obtain ⟨e2, f2, p7, p8, he2⟩ := for_inv (tg := .n 7) (body := (sFor (iOf (mV 3)) (.n 8)
  (sIf (cB (m2 dNe (m2 dIn (mV 7) (mDGet 4 (mV 8))) (m2 dIn (mV 8) (mDGet 5 (mV 7)))))
  (sRet (wD (mC (.bl false))))
  sNext))) (fun i e => ∃ o7 o8 : Option W, e = [some S0, some N0, some (.d (.int c)), some (.d (strL xs)), some (dkG xs gA), some (dkG xs gB), p6, o7, o8]) (xs.map D.str) 0 (fun i d e hi ⟨o7, o8, he⟩ => by
      subst he
      rw [List.getElem?_map] at hi
      obtain ⟨x, hx, rfl⟩ := Option.map_eq_some_iff.mp hi
      obtain ⟨p8, f⟩ := inner x (List.mem_of_getElem? hx) o8
      exact ⟨_, _, rfl, (for_ok (iOf_ok (a := mV 3) (x := strL xs) rfl rfl)).trans f, _, _, rfl⟩) _ ⟨none, none, rfl⟩
  subst he2
  -- the third one
  obtain ⟨e3, f3, q6, he3⟩ := for_inv (tg := .n 6) (body := (sSeq (sKClr ((xs.map fun y => ((Sum.inr y : Ky), gA y)).map (·.1)) (mV 6))
  (sSeq (sKClr ((xs.map fun y => ((Sum.inr y : Ky), gB y)).map (·.1)) (mV 6))
  (sSeq (sIf (cNot (cB (mCall (m_l_alike 3) [(wD (mCall m_names_above [(wD (mV 1)), (wD (mV 6))])), (wD (mCall m_l_above [(wD (mV 1)), (wD (mV 6))]))])))
  (sRet (wD (mC (.bl false))))
  sNext)
  (sIf (cNot (cB (mCall (m_l_alike 3) [(wD (mCall m_names_below [(wD (mV 1)), (wD (mV 6))])), (wD (mCall m_l_below [(wD (mV 1)), (wD (mV 6))]))])))
  (sRet (wD (mC (.bl false))))
  sNext))))) (fun i e => ∃ o6 : Option W, e = [some S0, some N0, some (.d (.int c)), some (.d (strL xs)), none, none, o6, p7, p8]) (xs.map D.str) 0 (fun i d e hi ⟨o6, he⟩ => by
      subst he
      rw [List.getElem?_map] at hi
      obtain ⟨x, hx, rfl⟩ := Option.map_eq_some_iff.mp hi
      have mx := List.mem_of_getElem? hx
      refine ⟨[some S0, some N0, some (.d (.int c)), some (.d (strL xs)), none, none, some (.d (.str x)), p7, p8], [some S0, some N0, some (.d (.int c)), some (.d (strL xs)), none, none, some (.d (.str x)), p7, p8], rfl, ?_, _, rfl⟩
      rw [seq_ok (kclr_ok (y := x) rfl mx (by rw [List.map_map]; rfl)), seq_ok (kclr_ok (y := x) rfl mx (by rw [List.map_map]; rfl))]
      subst hN
      rw [seq_ok ((if_ff (not_ff (call2 (f := m_l_alike 3) (wD_ok (call2 (x := .d (netD names arrows)) (y := .d (.str x)) rfl rfl (hA x (hp x mx)))) (wD_ok (call2 (x := .d (netD names arrows)) (y := .d (.str x)) rfl rfl (lA x (hp x mx)))) (kA x)))).trans rfl)]
      exact (if_ff (not_ff (call2 (f := m_l_alike 3) (wD_ok (call2 (x := .d (netD names arrows)) (y := .d (.str x)) rfl rfl (hB x (hp x mx)))) (wD_ok (call2 (x := .d (netD names arrows)) (y := .d (.str x)) rfl rfl (lB x (hp x mx)))) (kB x)))).trans rfl) [some S0, some N0, some (.d (.int c)), some (.d (strL xs)), none, none, p6, p7, p8] ⟨p6, rfl⟩
  subst he3
  subst hN
  have ln : ∀ e : Mi.Env, mN dLst [(mC (.str "NoName"))] e = .ok nn := fun e => lst1 rfl
  have it : ∀ {e : Mi.Env}, mV 3 e = .ok (strL xs) → iOf (mV 3) e = .ok (xs.map D.str) := fun {e} h => iOf_ok (x := strL xs) h rfl
  have bag : ∀ {m : S} {e : Mi.Env} {w : W}, e[4]? = some (some (.dk [])) → e[5]? = some (some (.dk [])) → m e = .ok (.rt w) → sBag 4 5 m e = .ok (.rt w) := fun {m e w} a b h => by
    unfold sBag; rw [a, b]; exact tail_ok h
  have unp : ∀ {r : List Ky → List Ky → S} {e : Mi.Env} {w : W} {ka kb : List (Ky × D)}, e[4]? = some (some (.dk ka)) → e[5]? = some (some (.dk kb)) → r (ka.map (·.1)) (kb.map (·.1)) ((e.set 4 none).set 5 none) = .ok (.rt w) → sUnp 4 5 r e = .ok (.rt w) := fun {r e w ka kb} a b h => by
    unfold sUnp; rw [a, b]; exact tail_ok h
  rw [tail_ok (bag rfl rfl ((seq_ok ((for_ok (it rfl)).trans f1)).trans ((seq_ok ((for_ok (it rfl)).trans f2)).trans (unp (ka := xs.map fun y => ((Sum.inr y : Ky), gA y)) (kb := xs.map fun y => ((Sum.inr y : Ky), gB y)) rfl rfl ((seq_ok ((for_ok (it rfl)).trans f3)).trans (tail_ok
    ((seq_ok (e' := [some S0, some (W.d (netD names arrows)), some (.d (.int c)), some (.d (strL xs)), none, none, q6, some (.d (.str x0)), p8])
      (set_ok (call2 (x := .d (strL names)) (wD_ok ((n1_ok (m2_ok rfl rfl (ix0 names arrows))).trans rfl)) (wD_ok (m2_ok rfl rfl ((div_ii _ _).trans (guardR_pos (okDiv_small (by decide) (by decide)))))) hx0))).trans
      (ret_ok (wD_ok (mAnd_ok (m2_ok (call3 (x := .d (netD names arrows)) (y := .d (.str x0)) (z := .d (.int 0)) rfl rfl rfl (refused50 hn0 sx0)) (ln _) dEq_nn) fun _ => m2_ok (call3 (x := .d (netD names arrows)) (y := .d (.str x0)) (z := .d (.int 1)) rfl rfl rfl (refused51 hn0 sx0)) (ln _) dEq_nn))))))))))]
  rfl
end Mr
set_option Elab.async false
set_option linter.all false
set_option maxRecDepth 100000
set_option maxHeartbeats 4000000
namespace Mk06
open PySem L2 PyProof.Rows
instance tabsI : A.Tabs := ⟨[], fun c => if c = "ArrowError" then 29 else if c = "WrongSize" then 42 else if c = "NoWord" then 54 else if c = "Twice" then 66 else if c = "NoName" then 78 else if c = "Ring" then 97 else if c = "Unlike" then 109 else if c = "NoArrow" then 121 else if c = "Locked" then 133 else if c = "NoTie" then 145 else if c = "NoSuch" then 157 else if c = "NoNet" then 176 else if c = "NoText" then 188 else if c = "NoRow" then 200 else if c = "NoLabel" then 212 else 0⟩
theorem walk {l : PySem.W.OpenLaw} {q : Program} {loose : List Str} {XP : (Str → Option Value) → Heap → Prop} {YP : World → Heap → Prop} {d : DefRec} {K : Params → PySem.W.Frag} (hn : l.most = some 63) (hdf : d.params.defaults = [])
    (hY : ∀ (w : World) (h : Heap), YP w h → (K w.params).In h) (hL : ∀ w : World, noLst (K w.params) = true)
    (F : ∀ (w : World) (mg : Str → Option Value) (fa : Addr) (h : Heap), (K w.params).In h → h.Ns mainGlobals mg → mg d.name = some (.ref fa) →
      ∃ fd : FuncData, (∀ (s : Shared) (u : Value), BindsTo s fd ⟨[u], []⟩ [("_law_script", u)]) ∧ ∀ base : Heap, (K w.params).In base → base.Ns mainGlobals mg → FnOk l.prog w (K w.params) mg base CX0 5 fa fd ["_law_script"] A.spLaw) :
    PySem.W.WalkO q loose XP YP l.row.toRowW d [] (fun f vs => PySem.call f vs) :=
  L2.walk_of (n := 63) (k := 5) (x := "_law_script") (CX := fun _ => CX0) (sp := fun w => A.spLaw) hn (by decide) hdf ⟨rfl, by decide, by decide⟩ hY F (fun w _ a ns hl hO hS => ⟨a, ns, rfl, (match hS with
    | .inl r => r
    | .inr ⟨_, _, _, e, c, _⟩ => (noLst_of (hL w) e c).elim), hl, only_code rfl hO, fun _ => rfl⟩) fun _ _ _ _ _ z => z
theorem txt_mk {K : PySem.W.Frag} {h : Heap} {mg : Str → Option Value} (X : K.In h) (G : h.Ns mainGlobals mg) (z_b_len : PySem.W.nsIn K mainGlobals "len" = some none) (z_b_range : PySem.W.nsIn K mainGlobals "range" = some none) (z_b_max : PySem.W.nsIn K mainGlobals "max" = some none) (z_b_min : PySem.W.nsIn K mainGlobals "min" = some none) (z_b_tuple : PySem.W.nsIn K mainGlobals "tuple" = some none) (z_b_list : PySem.W.nsIn K mainGlobals "list" = some none) (z_b_isinstance : PySem.W.nsIn K mainGlobals "isinstance" = some none) (z_b_all : PySem.W.nsIn K mainGlobals "all" = some none) (z_b_any : PySem.W.nsIn K mainGlobals "any" = some none) (z_b_bool : PySem.W.nsIn K mainGlobals "bool" = some none) (z_b_str : PySem.W.nsIn K mainGlobals "str" = some none) (z_b_int : PySem.W.nsIn K mainGlobals "int" = some none) (z_b_zip : PySem.W.nsIn K mainGlobals "zip" = some none) (z_b_enumerate : PySem.W.nsIn K mainGlobals "enumerate" = some none) (z_b_sorted : PySem.W.nsIn K mainGlobals "sorted" = some none) (z_b_reversed : PySem.W.nsIn K mainGlobals "reversed" = some none) (z_b_set : PySem.W.nsIn K mainGlobals "set" = some none)  : Txt mg :=
  ⟨PySem.W.mg_none_of X G z_b_len, PySem.W.mg_none_of X G z_b_range, PySem.W.mg_none_of X G z_b_max, PySem.W.mg_none_of X G z_b_min, PySem.W.mg_none_of X G z_b_tuple, PySem.W.mg_none_of X G z_b_list, PySem.W.mg_none_of X G z_b_isinstance, PySem.W.mg_none_of X G z_b_all, PySem.W.mg_none_of X G z_b_any, PySem.W.mg_none_of X G z_b_bool, PySem.W.mg_none_of X G z_b_str, PySem.W.mg_none_of X G z_b_int, PySem.W.mg_none_of X G z_b_zip, PySem.W.mg_none_of X G z_b_enumerate, PySem.W.mg_none_of X G z_b_sorted, PySem.W.mg_none_of X G z_b_reversed, PySem.W.mg_none_of X G z_b_set⟩
structure OwnK (K : PySem.W.Frag) : Prop where
  y_ArrowError : PySem.W.nsIn K mainGlobals "ArrowError" = some (some (.ref (tabsI.cl "ArrowError")))
  y_WrongSize : PySem.W.nsIn K mainGlobals "WrongSize" = some (some (.ref (tabsI.cl "WrongSize")))
  y_NoWord : PySem.W.nsIn K mainGlobals "NoWord" = some (some (.ref (tabsI.cl "NoWord")))
  y_Twice : PySem.W.nsIn K mainGlobals "Twice" = some (some (.ref (tabsI.cl "Twice")))
  y_NoName : PySem.W.nsIn K mainGlobals "NoName" = some (some (.ref (tabsI.cl "NoName")))
  y_Ring : PySem.W.nsIn K mainGlobals "Ring" = some (some (.ref (tabsI.cl "Ring")))
  y_Unlike : PySem.W.nsIn K mainGlobals "Unlike" = some (some (.ref (tabsI.cl "Unlike")))
  y_NoArrow : PySem.W.nsIn K mainGlobals "NoArrow" = some (some (.ref (tabsI.cl "NoArrow")))
  y_Locked : PySem.W.nsIn K mainGlobals "Locked" = some (some (.ref (tabsI.cl "Locked")))
  y_NoTie : PySem.W.nsIn K mainGlobals "NoTie" = some (some (.ref (tabsI.cl "NoTie")))
  y_NoSuch : PySem.W.nsIn K mainGlobals "NoSuch" = some (some (.ref (tabsI.cl "NoSuch")))
  y_NoNet : PySem.W.nsIn K mainGlobals "NoNet" = some (some (.ref (tabsI.cl "NoNet")))
  y_NoText : PySem.W.nsIn K mainGlobals "NoText" = some (some (.ref (tabsI.cl "NoText")))
  y_NoRow : PySem.W.nsIn K mainGlobals "NoRow" = some (some (.ref (tabsI.cl "NoRow")))
  y_NoLabel : PySem.W.nsIn K mainGlobals "NoLabel" = some (some (.ref (tabsI.cl "NoLabel")))
  x_NoName : PySem.W.excIn K (tabsI.cl "NoName") [.type "ValueError", .type "Exception", .type "BaseException", .type "object"] "ValueError.__new__" = true
  v_ : PySem.W.nsIn K mainGlobals "ValueError" = some none
theorem own_mk {K : PySem.W.Frag} {h : Heap} {mg : Str → Option Value} (X : K.In h) (G : h.Ns mainGlobals mg) (z : OwnK K) : Own mg h :=
  ⟨own_in X G z.y_NoName z.x_NoName, PySem.W.mg_of X G z.y_ArrowError, PySem.W.mg_of X G z.y_WrongSize, PySem.W.mg_of X G z.y_NoWord, PySem.W.mg_of X G z.y_Twice, PySem.W.mg_of X G z.y_NoName, PySem.W.mg_of X G z.y_Ring, PySem.W.mg_of X G z.y_Unlike, PySem.W.mg_of X G z.y_NoArrow, PySem.W.mg_of X G z.y_Locked, PySem.W.mg_of X G z.y_NoTie, PySem.W.mg_of X G z.y_NoSuch, PySem.W.mg_of X G z.y_NoNet, PySem.W.mg_of X G z.y_NoText, PySem.W.mg_of X G z.y_NoRow, PySem.W.mg_of X G z.y_NoLabel, PySem.W.mg_none_of X G z.v_⟩
structure KitF (K : PySem.W.Frag) : Prop where
  h0 : PySem.W.kitOne K (.ref (tabsI.cl "NoName")) (.type "ValueError") = some true
  h1 : PySem.W.kitOne K (.ref (tabsI.cl "NoName")) (.ref (tabsI.cl "WrongSize")) = some false
  h2 : PySem.W.kitOne K (.ref (tabsI.cl "NoName")) (.ref (tabsI.cl "Twice")) = some false
  h3 : PySem.W.kitOne K (.ref (tabsI.cl "NoName")) (.ref (tabsI.cl "Ring")) = some false
  h4 : PySem.W.kitOne K (.ref (tabsI.cl "NoName")) (.ref (tabsI.cl "NoWord")) = some false
  h5 : PySem.W.kitOne K (.ref (tabsI.cl "NoName")) (.ref (tabsI.cl "NoName")) = some true
  h6 : PySem.W.kitAny K (.ref (tabsI.cl "NoName")) (([tabsI.cl "NoRow", tabsI.cl "NoSuch", tabsI.cl "NoText", tabsI.cl "NoTie", tabsI.cl "Unlike"] : List Addr).map .ref) = some false
  h7 : PySem.W.kitAny K (.ref (tabsI.cl "NoName")) (([tabsI.cl "Locked", tabsI.cl "NoArrow", tabsI.cl "NoLabel", tabsI.cl "NoNet"] : List Addr).map .ref) = some false
  h8 : PySem.W.exmOne K (.ref (tabsI.cl "NoName")) (.ref (tabsI.cl "ArrowError")) = some true
theorem kit_mk {K : PySem.W.Frag} (e_NoName : ExcCls K (tabsI.cl "NoName")) (z : KitF K) : Kit K :=
  ⟨(lk_cons ⟨e_NoName, z.h0⟩ lk_nil), (lk_cons ⟨e_NoName, z.h1⟩ lk_nil), (lk_cons ⟨e_NoName, z.h2⟩ lk_nil), (lk_cons ⟨e_NoName, z.h3⟩ lk_nil), (lk_cons ⟨e_NoName, z.h4⟩ lk_nil), (lk_cons ⟨e_NoName, z.h5⟩ lk_nil), (lk_cons ⟨e_NoName, z.h6⟩ lk_nil), (lk_cons ⟨e_NoName, z.h7⟩ lk_nil), (mc_cons z.h8 mc_nil)⟩
theorem all_mk {l : PySem.W.OpenLaw} {w : World} {K : PySem.W.Frag} {mg : Str → Option Value} {fa : Addr} (hfa : mg "law" = some (.ref fa)) (T : Txt mg) (OK : OwnK K) (Kt : Kit K) (F_refuse_strangers : FnD K mg "refuse_strangers" s_refuse_strangers ["names", "asked"]) (F_names_along : FnD K mg "names_along" s_names_along ["names", "steps", "name"]) (F_names_above : FnD K mg "names_above" s_names_above ["net", "name"]) (F_names_below : FnD K mg "names_below" s_names_below ["net", "name"]) (F_l_cell : FnD K mg "_law_cell" s_l_cell ["_law_script", "_law_k"]) (F_l_words : FnD K mg "_law_words" s_l_words ["_law_cell_here", "_law_many"]) (F_l_ranks : FnD K mg "_law_ranks" s_l_ranks ["_law_cell_here", "_law_many"]) (F_l_net : FnD K mg "_law_net" s_l_net ["_law_script", "_law_most"]) (F_l_alike : FnD K mg "_law_alike" s_l_alike ["_law_found", "_law_due"]) (F_l_stranger : FnD K mg "_law_stranger" s_l_stranger ["_law_names", "_law_cell_here"]) (F_l_spread : FnD K mg "_law_spread" s_l_spread ["_law_arrows", "_law_name"]) (F_l_below : FnD K mg "_law_below" s_l_below ["_law_net_here", "_law_name"]) (F_l_above : FnD K mg "_law_above" s_l_above ["_law_net_here", "_law_name"]) (F_l_kinds : FnD K mg "_law_kinds" s_l_kinds ["_law_e"]) (F_l_refused : FnD K mg "_law_refused" s_l_refused ["_law_net_here", "_law_name", "_law_way"]) (F_law : FnD K mg "law" s_law ["_law_script"]) :
    ∃ fd : FuncData, (∀ (s : Shared) (u : Value), BindsTo s fd ⟨[u], []⟩ [("_law_script", u)]) ∧ ∀ base : Heap, K.In base → base.Ns mainGlobals mg → FnOk l.prog w K mg base CX0 5 fa fd ["_law_script"] A.spLaw :=
  FnD.law0 F_law hfa fun base kb nb f fd F => by
    have O : Own mg base := own_mk kb nb OK
    have C_refuse_strangers := F_refuse_strangers.cal (P := l.prog) (w := w) (base := base) (CX := CX0) fun f fd F => ok_refuse_strangers F T
    have CX_refuse_strangers := F_refuse_strangers.cal (P := l.prog) (w := w) (base := base) (CX := CX1 l.prog w) fun f fd F => okX_refuse_strangers F T O
    have C_names_along := F_names_along.cal (P := l.prog) (w := w) (base := base) (CX := CX0) fun f fd F => ok_names_along F T
    have C_names_above := F_names_above.cal (P := l.prog) (w := w) (base := base) (CX := CX0) fun f fd F => ok_names_above F T C_refuse_strangers C_names_along
    have CX_names_above := F_names_above.cal (P := l.prog) (w := w) (base := base) (CX := CX1 l.prog w) fun f fd F => okX_names_above F T O C_names_along CX_refuse_strangers
    have C_names_below := F_names_below.cal (P := l.prog) (w := w) (base := base) (CX := CX0) fun f fd F => ok_names_below F T C_refuse_strangers C_names_along
    have CX_names_below := F_names_below.cal (P := l.prog) (w := w) (base := base) (CX := CX1 l.prog w) fun f fd F => okX_names_below F T O C_names_along CX_refuse_strangers
    have C_l_cell := F_l_cell.cal (P := l.prog) (w := w) (base := base) (CX := CX0) fun f fd F => ok_l_cell F T
    have C_l_words := F_l_words.cal (P := l.prog) (w := w) (base := base) (CX := CX0) fun f fd F => ok_l_words F T
    have C_l_ranks := F_l_ranks.cal (P := l.prog) (w := w) (base := base) (CX := CX0) fun f fd F => ok_l_ranks F T
    have C_l_net := F_l_net.cal (P := l.prog) (w := w) (base := base) (CX := CX0) fun f fd F => ok_l_net F T C_l_cell C_l_words C_l_ranks
    have C_l_alike := calR (P := l.prog) (w := w) (base := base) (CX := CX0) F_l_alike fun f fd F self => ok_l_alike F T self
    have C_l_stranger := F_l_stranger.cal (P := l.prog) (w := w) (base := base) (CX := CX0) fun f fd F => ok_l_stranger F T
    have C_l_spread := F_l_spread.cal (P := l.prog) (w := w) (base := base) (CX := CX0) fun f fd F => ok_l_spread F T
    have C_l_below := F_l_below.cal (P := l.prog) (w := w) (base := base) (CX := CX0) fun f fd F => ok_l_below F T C_l_spread
    have C_l_above := F_l_above.cal (P := l.prog) (w := w) (base := base) (CX := CX0) fun f fd F => ok_l_above F T C_l_spread
    have CH_l_kinds := F_l_kinds.calH (P := l.prog) (w := w) (base := base) fun f fd F => ok_l_kinds F T O Kt
    have C_l_refused := F_l_refused.cal (P := l.prog) (w := w) (base := base) (CX := CX0) fun f fd F => ok_l_refused F T O Kt CX_names_above CX_names_below CH_l_kinds
    exact A.law_of (ok_law F T C_names_above C_names_below C_l_cell C_l_net C_l_alike C_l_stranger C_l_below C_l_above C_l_refused) fun ns hl => by first | exact Mr.law_k06_holds ns | exact Mr.law_k06_holds ns hl
end Mk06
namespace PySem.W.Fast
def tw7450127888054165536 := 0
def tw10837522327172850784 := 0
def tw9501343703812346208 := 0
def tw6059059201186620032 := 0
def tw1109476989409575584 := 0
def tw9758938237055095552 := 0
def tw14410342184931369856 := 0
def tw17836767674502040577 := 0
def tw18287017996812937441 := 0
def tw8794478821173173505 := 0
def tw9413956101870735809 := 0
def tw3577588655155940225 := 0
def tw13934494033055475649 := 0
def tw16781953534026173377 := 0
def tw15535859478852515426 := 0
def tw13806083303805961122 := 0
def tw13864661822454375523 := 0
def tw14732577985813445923 := 0
def tw2441959864128569667 := 0
def tw10082144683949148643 := 0
def tw16866894143917856291 := 0
def tw5338615406282070659 := 0
def tw10567776538837914371 := 0
def tw9993817491054847747 := 0
def tw2023726450947465508 := 0
def tw11381912659183163876 := 0
def tw2957274488349319684 := 0
def tw6340749917405152836 := 0
def tw15805846792807718500 := 0
def tw12840992874881798788 := 0
def tw7355063503987278660 := 0
def tw8766818686770588548 := 0
def tw2307980834423517381 := 0
def tw18327778887894774053 := 0
def tw13282614555345020325 := 0
def tw11239843817882748357 := 0
def tw14050638171730045062 := 0
def tw13051708711907727590 := 0
def tw17705453610343685510 := 0
def tw6249921859183163814 := 0
def tw12852822279605250662 := 0
def tw11938949433970875110 := 0
def tw6233541924055218982 := 0
def tw13936371075113162759 := 0
def tw6307576732449627463 := 0
def tw14338684259755392487 := 0
def tw16876836047240732199 := 0
def tw13359241796881917511 := 0
def tw6550447800147875495 := 0
def tw6798461310603120359 := 0
def tw15320605712557398887 := 0
def tw14916383358024532903 := 0
def tw14529501911870227464 := 0
def tw5394555358870389992 := 0
def tw14918652020564714792 := 0
def tw14917696521400481961 := 0
def tw11122360130598140329 := 0
def tw10317738359964131977 := 0
def tw13907894706350105610 := 0
def tw14468684576817450250 := 0
def tw12085596230900842794 := 0
def tw16352397487088137546 := 0
def tw4013203247308961258 := 0
def tw7805718114466716138 := 0
def tw1330900001051187882 := 0
def tw17243255312428564202 := 0
def tw11852340145864858442 := 0
def tw6627219222787686218 := 0
def tw1676718498195396458 := 0
def tw5718718511669085034 := 0
def tw3647220506238165994 := 0
def tw13008172262740911275 := 0
def tw16177240346767519563 := 0
def tw7818381835035966315 := 0
def tw14818767758892358828 := 0
def tw8514087547986647308 := 0
def tw4771293760998261036 := 0
def tw962034521010765100 := 0
def tw3354521982182230412 := 0
def tw5757435778925952460 := 0
def tw12553810671238281740 := 0
def tw909058981634907724 := 0
def tw9407587385856371372 := 0
def tw3497581436356927212 := 0
def tw6529024722258664172 := 0
def tw10608011520755021965 := 0
def tw15891118869905744109 := 0
def tw15076306849975221773 := 0
def tw13018745973106829901 := 0
def tw9809710487424790125 := 0
def tw17019466051866129486 := 0
def tw16474915430375311694 := 0
def tw1720758071086549486 := 0
def tw1522513647646903822 := 0
def tw9208388514121346063 := 0
def tw7104991435045173263 := 0
def tw10638365971018945711 := 0
def tw6806303954364393743 := 0
def tw10798205647974680015 := 0
def tw4461097813293812431 := 0
def tw2818892448667885391 := 0
def tw5941059413341972335 := 0
def tw1771686769022580623 := 0
def tw5749858272184271920 := 0
def tw12887433816427006032 := 0
def tw18126757856421512592 := 0
def tw8922311287327290896 := 0
def tw6999045778348271248 := 0
def tw16446559105102161680 := 0
def tw1810019048290260752 := 0
def tw5989593935455451952 := 0
def tw5187208924448568657 := 0
def tw3482515865833609969 := 0
def tw5220757365834308337 := 0
def tw6515311892037403473 := 0
def tw14723567553509342193 := 0
def tw4038063494717242482 := 0
def tw13990052794256568082 := 0
def tw14773403969136132946 := 0
def tw14294884281587721299 := 0
def tw11716668271328852243 := 0
def tw1645637734911685971 := 0
def tw5208082434432756147 := 0
def tw15142935438017660371 := 0
def tw14055142442352077587 := 0
def tw12678649807082656563 := 0
def tw17011708555602876307 := 0
def tw9637467168808998100 := 0
def tw1439901254663321108 := 0
def tw7437150909864058708 := 0
def tw1784671516838018069 := 0
def tw18382633164248611957 := 0
def tw15571718168476854613 := 0
def tw16308093604311790101 := 0
def tw10745589097014148693 := 0
def tw8405299132759894645 := 0
def tw17347408602903618197 := 0
def tw9091771186063064725 := 0
def tw12233643567833711349 := 0
def tw17778219816460065878 := 0
def tw10676156065768037462 := 0
def tw6445923351598188726 := 0
def tw1827078040594864374 := 0
def tw12198928598724142358 := 0
def tw11483016801089897782 := 0
def tw13901348573606356566 := 0
def tw11911384508376211094 := 0
def tw11229967816792687703 := 0
def tw3794824928050500791 := 0
def tw2855694607732106455 := 0
def tw6994640814182545655 := 0
def tw16395575119972182359 := 0
def tw5071019486460659031 := 0
def tw6286143338888093079 := 0
def tw2062621937716354519 := 0
def tw770110963246950103 := 0
def tw12681985730281188183 := 0
def tw16154564410648404823 := 0
def tw4598941304071197720 := 0
def tw8577112630565382552 := 0
def tw9401454219156650424 := 0
def tw16275111171456458168 := 0
def tw10256593584859394552 := 0
def tw5278191321688639096 := 0
def tw863526976697510840 := 0
def tw2627745984769654873 := 0
def tw9256143213368774777 := 0
def tw6920548626492268057 := 0
def tw16110741936521044697 := 0
def tw15244735985134785241 := 0
def tw3824814234600103002 := 0
def tw15453491079478705274 := 0
def tw6593997526115053370 := 0
def tw13718531493316944987 := 0
def tw10228157024860358779 := 0
def tw14212076583955501211 := 0
def tw9333708604149378267 := 0
def tw7074683146907390235 := 0
def tw2738556718164858171 := 0
def tw15549948527626981883 := 0
def tw18360830261736172155 := 0
def tw399481844994720475 := 0
def tw9250366251927036635 := 0
def tw6807928949673700572 := 0
def tw15887472523345909980 := 0
def tw14325662722554110332 := 0
def tw10931402316132217436 := 0
def tw6753955556908143228 := 0
def tw13427613041160921724 := 0
def tw16595332717499286524 := 0
def tw8748225891997821149 := 0
def tw1762448465342518493 := 0
def tw2945823783690917309 := 0
def tw14426891819434190397 := 0
def tw4994894061731447421 := 0
def tw11236334005715627773 := 0
def tw2649457042623338269 := 0
def tw5895529733570232221 := 0
def tw14104631493494239165 := 0
def tw4843898585059475486 := 0
def tw12085570642495706174 := 0
def tw13753747771120077182 := 0
def tw13182494382767712670 := 0
def tw13753525820514171358 := 0
def tw14434806370136686046 := 0
def tw3328704829107151358 := 0
def tw18169615830097620478 := 0
def tw10524485040194490910 := 0
def tw15830862907789067806 := 0
def tw3817577485609995006 := 0
def tw13682846235565473758 := 0
def tw12089115943854915775 := 0
def tw9472681078159635647 := 0
def tw4231166869914713375 := 0
def tw11822821949394735423 := 0
def tw16136491715491034527 := 0
def tw17860260736814822943 := 0
def tw1186925588458296927 := 0
def tw7196977232240509599 := 0
def tw9452813504931127103 := 0
def tw7057303373990484895 := 0
def tw2051105004191517631 := 0
end PySem.W.Fast
open PySem PySem.W PyProof.Rows
set_option maxRecDepth 100000 in
set_option maxHeartbeats 0 in
theorem PySem.Challenge.cw_arrowfind_k06_above_and_below_holds : PySem.Challenge.rw_arrowfind_k06_above_and_below.Holds := by
  w_on; o_law; k_head; (case hw => w_witness2)
  k_fill
  refine Mk06.walk (l := PySem.Challenge.rw_arrowfind_k06_above_and_below) rfl rfl (fun w h Y => PySem.W.kIn_of Y) ?L ?F
  case L =>
    intro w
    kernel_rfl
  case F =>
    intro w mg fa h KX G hmg
    refine' Mk06.all_mk hmg ?T ?O ?Kt ?F_refuse_strangers ?F_names_along ?F_names_above ?F_names_below ?F_l_cell ?F_l_words ?F_l_ranks ?F_l_net ?F_l_alike ?F_l_stranger ?F_l_spread ?F_l_below ?F_l_above ?F_l_kinds ?F_l_refused ?F_law
    case T =>
      refine' Mk06.txt_mk KX G ?z_b_len ?z_b_range ?z_b_max ?z_b_min ?z_b_tuple ?z_b_list ?z_b_isinstance ?z_b_all ?z_b_any ?z_b_bool ?z_b_str ?z_b_int ?z_b_zip ?z_b_enumerate ?z_b_sorted ?z_b_reversed ?z_b_set
      (case z_b_len => k_is)
      (case z_b_range => k_is)
      (case z_b_max => k_is)
      (case z_b_min => k_is)
      (case z_b_tuple => k_is)
      (case z_b_list => k_is)
      (case z_b_isinstance => k_is)
      (case z_b_all => k_is)
      (case z_b_any => k_is)
      (case z_b_bool => k_is)
      (case z_b_str => k_is)
      (case z_b_int => k_is)
      (case z_b_zip => k_is)
      (case z_b_enumerate => k_is)
      (case z_b_sorted => k_is)
      (case z_b_reversed => k_is)
      (case z_b_set => k_is)
    case O =>
      constructor
      (case y_ArrowError => kernel_rfl)
      (case y_WrongSize => kernel_rfl)
      (case y_NoWord => kernel_rfl)
      (case y_Twice => kernel_rfl)
      (case y_NoName => kernel_rfl)
      (case y_Ring => kernel_rfl)
      (case y_Unlike => kernel_rfl)
      (case y_NoArrow => kernel_rfl)
      (case y_Locked => kernel_rfl)
      (case y_NoTie => kernel_rfl)
      (case y_NoSuch => kernel_rfl)
      (case y_NoNet => kernel_rfl)
      (case y_NoText => kernel_rfl)
      (case y_NoRow => kernel_rfl)
      (case y_NoLabel => kernel_rfl)
      all_goals kernel_rfl
    case Kt =>
      refine' Mk06.kit_mk ?e_NoName ?z
      (case e_NoName => constructor <;> kernel_rfl)
      (case z => constructor <;> kernel_rfl)
    all_goals
      first
        | (refine' L2.fnD_mk KX G (fun _ _ _ _ _ _ us hl => match us, hl with | [_], _ => rfl) ?a ?l ?c ?k; (case a => k_is); (case l => k_is); (case c => k_is); (case k => k_is))
        | (refine' L2.fnD_mk KX G (fun _ _ _ _ _ _ us hl => match us, hl with | [_, _], _ => rfl) ?a ?l ?c ?k; (case a => k_is); (case l => k_is); (case c => k_is); (case k => k_is))
        | (refine' L2.fnD_mk KX G (fun _ _ _ _ _ _ us hl => match us, hl with | [_, _, _], _ => rfl) ?a ?l ?c ?k; (case a => k_is); (case l => k_is); (case c => k_is); (case k => k_is))
