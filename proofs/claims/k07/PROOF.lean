import PyProof.Rows.All
import Wide.All
import OpenK.AllK
import Wide.FinOn
import Lean
import PyProof.EqAt
import PyProof.EqKinds
import PyProof.TupleCall
import PySem.Str
import PyProof.NeKinds
import PyProof.Draws
import PyProof.EnumMake
import PySem.Challenge.RW_arrowfind_k07_whole_in_turn
set_option Elab.async false
set_option linter.all false
set_option maxRecDepth 100000
/-! THE HAND LAYER, for ints, bools, texts, own classes, LISTS and tuples (index, slices, in, append, pop ..), calls, loops. Paste it whole ahead of your own text; what your proof does not reach may be deleted. -/
namespace L2
open PySem PySem.Spec PyProof.Rows

/-- a key: an int or a str -/
abbrev Key := Sum Int Str
def keyIs : Key → Value → Bool
  | .inl k, v => Value.isInt k v
  | .inr x, v => Value.isStrOf x v
def keyH (w : World) : Key → Int
  | .inl k => hashInt k
  | .inr x => hashStr w x
theorem keyIs_shape : ∀ {k : Key} {v : Value}, keyIs k v = true → (∃ i t, k = Sum.inl i ∧ v = Value.int i t) ∨ (∃ x t, k = Sum.inr x ∧ v = Value.str x t)
  | .inl i, v, h => by
    obtain ⟨t, e⟩ := Value.isInt_shape (k := i) (v := v) h
    exact .inl ⟨i, t, rfl, e⟩
  | .inr x, v, h => by
    obtain ⟨t, e⟩ := Value.isStrOf_shape (x := x) (v := v) h
    exact .inr ⟨x, t, rfl, e⟩
theorem keyIs_int (i : Int) (t : Tok) : keyIs (.inl i) (.int i t) = true := by simp [keyIs, Value.isInt]
theorem keyIs_str (x : Str) (t : Tok) : keyIs (.inr x) (.str x t) = true := by simp [keyIs, Value.isStrOf]
theorem key_ll (a b : Int) : decide ((Sum.inl a : Key) = Sum.inl b) = (a == b) := by
  by_cases e : a = b
  · subst e; simp
  · have h : ¬ (Sum.inl a : Key) = Sum.inl b := fun q => e (Sum.inl.inj q)
    rw [decide_eq_false h]
    exact (beq_eq_false_iff_ne.mpr e).symm
theorem key_rr (a b : Str) : decide ((Sum.inr a : Key) = Sum.inr b) = decide (a = b) := by
  by_cases e : a = b
  · subst e; simp
  · have h : ¬ (Sum.inr a : Key) = Sum.inr b := fun q => e (Sum.inr.inj q)
    rw [decide_eq_false h, decide_eq_false e]
theorem key_lr (a : Int) (b : Str) : decide ((Sum.inl a : Key) = Sum.inr b) = false := decide_eq_false (fun q => nomatch q)
theorem key_rl (a : Str) (b : Int) : decide ((Sum.inr a : Key) = Sum.inl b) = false := decide_eq_false (fun q => nomatch q)

def mixKind (prog : Program) (w : World) : PySem.KeyKind prog w Key where
  is := keyIs
  hash := keyH w
  inj := fun v a b ha hb => by
    rcases keyIs_shape ha with ⟨i, t, rfl, rfl⟩ | ⟨x, t, rfl, rfl⟩
    · rcases keyIs_shape hb with ⟨j, u, rfl, e⟩ | ⟨y, u, rfl, e⟩
      · injection e with e1 _; rw [e1]
      · exact nomatch e
    · rcases keyIs_shape hb with ⟨j, u, rfl, e⟩ | ⟨y, u, rfl, e⟩
      · exact nomatch e
      · injection e with e1 _; rw [e1]
  byValue := fun k v h => by
    rcases keyIs_shape h with ⟨i, t, rfl, rfl⟩ | ⟨x, t, rfl, rfl⟩ <;> rfl
  pyHash := fun hv h => by
    rcases keyIs_shape hv with ⟨i, t, rfl, rfl⟩ | ⟨x, t, rfl, rfl⟩
    · exact wpAny_pyHash_int h
    · exact wpAny_pyHash_str h
  eqBool := fun hu hv h => by
    rcases keyIs_shape hu with ⟨i, t, rfl, rfl⟩ | ⟨x, t, rfl, rfl⟩
    · rcases keyIs_shape hv with ⟨j, u, rfl, rfl⟩ | ⟨y, u, rfl, rfl⟩
      · rw [key_ll] at h; exact wpAny_eqBool_int h
      · rw [key_lr] at h; exact SeqAt.EqAt.int_str i t y u _ _ _ _ h
    · rcases keyIs_shape hv with ⟨j, u, rfl, rfl⟩ | ⟨y, u, rfl, rfl⟩
      · rw [key_rl] at h; exact SeqAt.EqAt.str_int x t j u _ _ _ _ h
      · rw [key_rr] at h; exact wpAny_eqBool_str h
  «strs» := fun k x t v h => by
    rcases keyIs_shape h with ⟨i, u, rfl, e⟩ | ⟨y, u, rfl, e⟩
    · exact nomatch e
    · injection e with e1 _
      subst e1
      cases v <;> rfl

theorem mixKind_is (prog : Program) (w : World) (k : Key) (v : Value) : (mixKind prog w).is k v = keyIs k v := rfl
theorem mixKind_int (prog : Program) (w : World) (i : Int) (t : Tok) : (mixKind prog w).is (.inl i) (.int i t) = true := keyIs_int i t
theorem mixKind_str (prog : Program) (w : World) (x : Str) (t : Tok) : (mixKind prog w).is (.inr x) (.str x t) = true := keyIs_str x t
end L2

namespace L2
open PySem PySem.Spec PyProof.Rows

/-- a value, without the heap -/
inductive V where
  | non | bl (b : Bool) | int (i : Int) | str (x : Str) | byt (b : Array UInt8) | flt (b : UInt64) | ref (a : Addr) | ty (n : String)
  deriving DecidableEq

def RelV : V → Value → Prop
  | .non, u => u = Value.none
  | .bl b, u => u = Value.bool b
  | .int i, u => ∃ t, u = Value.int i t
  | .str x, u => ∃ t, u = Value.str x t
  | .byt b, u => ∃ t, u = Value.bytes b t
  | .flt b, u => ∃ t, u = Value.float b t
  | .ref a, u => u = Value.ref a
  | .ty n, u => u = Value.type n

abbrev Vals : List V → List Value → Prop := Paired RelV
theorem Vals.length {xs : List V} {us : List Value} (r : Vals xs us) : xs.length = us.length := Paired.length r
theorem Vals.get : ∀ {xs : List V} {us : List Value} {i : Nat} {x : V}, Vals xs us → xs[i]? = some x → ∃ u, us[i]? = some u ∧ RelV x u
  | _, _, _, _, .nil, e => by simp at e
  | _, _, 0, _, .cons r _, e => by simp at e; subst e; exact ⟨_, rfl, r⟩
  | _, _, i + 1, x, .cons _ t, e => by
    obtain ⟨u, h1, h2⟩ := Vals.get (i := i) (x := x) t (by simpa using e)
    exact ⟨u, by simpa using h1, h2⟩
theorem Vals.set {x : V} {u : Value} (r : RelV x u) : ∀ {xs : List V} {us : List Value} (i : Nat), Vals xs us → Vals (xs.set i x) (us.set i u)
  | _, _, _, .nil => .nil
  | _, _, 0, .cons _ t => .cons r t
  | _, _, i + 1, .cons q t => .cons q (Vals.set r i t)
theorem Vals.append : ∀ {xs ys : List V} {us ws : List Value}, Vals xs us → Vals ys ws → Vals (xs ++ ys) (us ++ ws)
  | _, _, _, _, .nil, s => s
  | _, _, _, _, .cons r t, s => .cons r (Vals.append t s)
theorem Vals.take : ∀ {xs : List V} {us : List Value} (n : Nat), Vals xs us → Vals (xs.take n) (us.take n)
  | _, _, 0, _ => .nil
  | _, _, _ + 1, .nil => .nil
  | _, _, n + 1, .cons r t => .cons r (Vals.take n t)
theorem Vals.drop : ∀ {xs : List V} {us : List Value} (n : Nat), Vals xs us → Vals (xs.drop n) (us.drop n)
  | _, _, 0, r => r
  | _, _, _ + 1, .nil => .nil
  | _, _, n + 1, .cons _ t => Vals.drop n t
theorem Vals.none_of : ∀ {xs : List V} {us : List Value} {i : Nat}, Vals xs us → xs[i]? = none → us[i]? = none := fun {xs us i} r e => by
  have h1 := r.length
  have h2 : xs.length ≤ i := List.getElem?_eq_none_iff.mp e
  exact List.getElem?_eq_none_iff.mpr (by omega)

def RelO : Option V → Option Value → Prop
  | some v, some u => RelV v u
  | none, none => True
  | _, _ => False
def KV {κ : Type} : List (κ × V) → List (κ × Value) → Prop := Paired fun (p : κ × V) (q : κ × Value) => p.1 = q.1 ∧ RelV p.2 q.2

/-- a key of a dict (00_mix): an int or a text -/
def kV : Key → V
  | .inl i => .int i
  | .inr x => .str x

/-- what stands at a tracked address -/
inductive HO where
  /-- a list -/
  | lst (xs : List V)
  /-- a tuple (never changes) -/
  | tup (xs : List V)
  /-- a dict whose keys are ints and texts; one whose keys are tuples of ints and texts (the empty one is both) -/
  | dK (kvs : List (Key × V)) | dT (kvs : List (List Key × V))
  /-- a set of ints: its members, its size -/
  | set (S : Int → Bool) (n : Nat)
  /-- an instance of the class at C, its dict at dx, its attributes -/
  | ins (C dx : Addr) (fs : List (Str × V))
  /-- the dict of the instance at x -/
  | own (x : Addr)
  /-- the dict of an exception -/
  | xd (fs : List (Str × V))
  /-- a bound method, f of x -/
  | met (f x : Addr)
  /-- a range object lo, lo + 1, .. below hi -/
  | rng (lo hi : Int)
  /-- a thing that is known to the object (the script; a dict while a loop walks it): read, never written while it is so -/
  | frz (o : Obj) (u : HO)
  /-- a code object's table -/
  | tbl (ps : Array Value)
  /-- any other thing, by what is true of its one object (a def of one's own: SetO a S n := HO.ext fun h => ..) -/
  | ext (φ : Heap → Prop)

abbrev Hp := Addr → Option HO
def upd (H : Hp) (a : Addr) (o : HO) : Hp := fun b => if b = a then some o else H b
theorem upd_same {H : Hp} {a : Addr} {o : HO} : upd H a o a = some o := by unfold upd; rw [if_pos rfl]
theorem upd_ne {H : Hp} {a b : Addr} {o : HO} (h : b ≠ a) : upd H a o b = H b := by unfold upd; rw [if_neg h]
theorem upd_upd {H : Hp} {a : Addr} {o u : HO} : upd (upd H a o) a u = upd H a u := by
  funext b; unfold upd; split <;> rfl
/-- two objects of different content stand apart -/
theorem ne_of {H : Hp} {a b : Addr} {o u : HO} (h : H a = some o) (h' : H b = some u) (d : o ≠ u) : a ≠ b := by
  intro e; subst e; rw [h] at h'; exact d (Option.some.inj h')
theorem ne_of_none {H : Hp} {a b : Addr} {o : HO} (h : H a = some o) (h' : H b = none) : a ≠ b := by
  intro e; subst e; rw [h] at h'; cases h'

section
variable (P : Program) (w : World)
def ObjOk (H : Hp) (h : Heap) (a : Addr) : HO → Prop
  | .lst xs => xs.length ≤ sizeLine ∧ ∃ (its : List Value) (n : Nat), Vals xs its ∧ h.get? a = some { cls := .type "list", data := .seq its.toArray n }
  | .tup xs => xs.length ≤ sizeLine ∧ ∃ its : List Value, Vals xs its ∧ IsTup h a its.toArray
  | .dK kvs => kvs.length ≤ sizeLine ∧ (a == sysModules) = false ∧ ∃ vs, KV kvs vs ∧ h.DictOf (mixKind P w) a vs
  | .dT kvs => kvs.length ≤ sizeLine ∧ (a == sysModules) = false ∧ ∃ xs : List (List Key × Addr × Value),
      Paired (fun (p : List Key × V) (q : List Key × Addr × Value) => p.1 = q.1 ∧ H q.2.1 = some (.tup (p.1.map kV)) ∧ RelV p.2 q.2.2) kvs xs ∧
      ∃ o es ep, h.get? a = some o ∧ o.ExactDict ∧ o.data = .dict es ep ∧ es.toList = xs.map (entryOfKey (tupleKind (mixKind P w))) ∧ (xs.map (·.1)).Nodup
  | .set S n => h.SetOf (intKind P w) a S n
  | .ins C dx fs => H dx = some (.own a) ∧ fs.length ≤ 1000 ∧ dx ≠ a ∧ h.get? a = some (PySem.W.instObj C dx) ∧
      ∃ mA, h.Ns1 dx mA ∧ (∀ f, RelO (fs.lookup f) (mA f)) ∧ PySem.Within mA (fs.map (·.1))
  | .own _ => ∃ o, h.get? a = some o
  | .xd fs => ∃ mA, h.Ns1 a mA ∧ ∀ f, RelO (fs.lookup f) (mA f)
  | .rng lo hi => ∃ t u v, h.get? a = some { cls := .type "range", data := .fields #[.int lo t, .int hi u, .int 1 v] }
  | .frz o u => h.get? a = some o ∧ ObjOk H h a u
  | .tbl ps => h.get? a = some { cls := .none, data := .fields ps }
  | .met f x => h.get? a = some (PySem.W.methodObj (.ref f) (.ref x))
  | .ext φ => φ h ∧ (∃ o, h.get? a = some o) ∧ ∀ h1 h2 : Heap, φ h1 → (∀ o, h1.get? a = some o → h2.get? a = some o) → φ h2
/-- the abstract heap is held -/
def HOk (H : Hp) (h : Heap) : Prop := ∀ a o, H a = some o → ObjOk P w H h a o
end

section
variable {P : Program} {w : World} {H H' : Hp} {h h' : Heap} {a : Addr} {o : HO}
theorem ObjOk.lt (x : ObjOk P w H h a o) : a < h.objs.size := by
  cases o with
  | lst xs => obtain ⟨_, _, _, _, e⟩ := x; exact Heap.lt_size e
  | tup xs => obtain ⟨_, _, _, p⟩ := x; exact p.lt
  | dK kvs => obtain ⟨_, _, _, _, o, _, _, e, _⟩ := x; exact Heap.lt_size e
  | dT kvs => obtain ⟨_, _, _, _, o, _, _, e, _⟩ := x; exact Heap.lt_size e
  | set S n => obtain ⟨o, _, _, _, e, _⟩ := x; exact Heap.lt_size e
  | ins C dx fs => obtain ⟨_, _, _, e, _⟩ := x; exact Heap.lt_size e
  | own y => obtain ⟨_, e⟩ := x; exact Heap.lt_size e
  | xd fs => obtain ⟨_, ⟨_, _, _, e, _⟩, _⟩ := x; exact Heap.lt_size e
  | rng lo hi => obtain ⟨_, _, _, e⟩ := x; exact Heap.lt_size e
  | frz ob u => obtain ⟨e, _⟩ := x; exact Heap.lt_size e
  | tbl ps => exact Heap.lt_size (show h.get? a = some _ from x)
  | met f y => exact Heap.lt_size (show h.get? a = some _ from x)
  | ext φ => obtain ⟨_, ⟨_, e⟩, _⟩ := x; exact Heap.lt_size e
theorem Paired.mapP {α β : Type} {F G : α → β → Prop} : ∀ {l₁ : List α} {l₂ : List β}, Paired F l₁ l₂ → (∀ a b, F a b → G a b) → Paired G l₁ l₂
  | _, _, .nil, _ => .nil
  | _, _, .cons r t, f => .cons (f _ _ r) (Paired.mapP t f)
theorem Paired.imp' {α β : Type} {F G : α → β → Prop} (f : ∀ a b, F a b → G a b) {l₁ : List α} {l₂ : List β} (r : Paired F l₁ l₂) : Paired G l₁ l₂ := Paired.mapP r f
/-- what an object's description leans on: its own object, its own dict, the tuples -/
theorem ObjOk.stay (x : ObjOk P w H h a o) (k : ∀ b u, (b = a ∨ H b = some (.own a)) → h.get? b = some u → h'.get? b = some u)
    (ho : ∀ b, H b = some (.own a) → H' b = some (.own a)) (ht : ∀ b xs, H b = some (.tup xs) → H' b = some (.tup xs)) : ObjOk P w H' h' a o := by
  induction o with
  | lst xs => obtain ⟨z, its, n, r, e⟩ := x; exact ⟨z, its, n, r, k _ _ (.inl rfl) e⟩
  | tup xs => obtain ⟨z, its, r, ob, e, c⟩ := x; exact ⟨z, its, r, ob, k _ _ (.inl rfl) e, c⟩
  | dK kvs => obtain ⟨z, y, vs, r, ob, es, ep, e, c⟩ := x; exact ⟨z, y, vs, r, ob, es, ep, k _ _ (.inl rfl) e, c⟩
  | dT kvs =>
    obtain ⟨z, y, xs, r, ob, es, ep, e, c⟩ := x
    exact ⟨z, y, xs, Paired.mapP r fun p q z => ⟨z.1, ht _ _ z.2.1, z.2.2⟩, ob, es, ep, k _ _ (.inl rfl) e, c⟩
  | set S n => obtain ⟨ob, es, ep, t, e, c⟩ := x; exact ⟨ob, es, ep, t, k _ _ (.inl rfl) e, c⟩
  | ins C dx fs =>
    obtain ⟨d, z, ne, e, mA, ⟨od, es, ep, e2, c⟩, r⟩ := x
    exact ⟨ho _ d, z, ne, k _ _ (.inl rfl) e, mA, ⟨od, es, ep, k _ _ (.inr d) e2, c⟩, r⟩
  | own y => obtain ⟨ob, e⟩ := x; exact ⟨ob, k _ _ (.inl rfl) e⟩
  | xd fs => obtain ⟨mA, ⟨od, es, ep, e, c⟩, r⟩ := x; exact ⟨mA, ⟨od, es, ep, k _ _ (.inl rfl) e, c⟩, r⟩
  | rng lo hi => obtain ⟨t, u, v, e⟩ := x; exact ⟨t, u, v, k _ _ (.inl rfl) e⟩
  | frz ob u ih => obtain ⟨e, q⟩ := x; exact ⟨k _ _ (.inl rfl) e, ih q⟩
  | tbl ps =>
    have e : h.get? a = some { cls := .none, data := .fields ps } := x
    show h'.get? a = some { cls := .none, data := .fields ps }
    exact k a _ (.inl rfl) e
  | met f y =>
    have e : h.get? a = some (PySem.W.methodObj (.ref f) (.ref y)) := x
    show h'.get? a = some (PySem.W.methodObj (.ref f) (.ref y))
    exact k a _ (.inl rfl) e
  | ext φ => obtain ⟨p, ⟨o, e⟩, st⟩ := x; exact ⟨st _ _ p fun o q => k _ _ (.inl rfl) q, ⟨o, k _ _ (.inl rfl) e⟩, st⟩
theorem HOk.lt (x : HOk P w H h) (e : H a = some o) : a < h.objs.size := (x a o e).lt
theorem HOk.fresh (x : HOk P w H h) (e : h.objs.size ≤ a) : H a = none := by
  cases q : H a with
  | none => rfl
  | some u => exact absurd (Nat.lt_of_lt_of_le (x.lt q) e) (Nat.lt_irrefl _)
/-- every object of the heap is kept -/
theorem HOk.kept (x : HOk P w H h) (k : ∀ b u, h.get? b = some u → h'.get? b = some u) : HOk P w H h' := fun a o e =>
  (x a o e).stay (fun b u _ q => k b u q) (fun _ q => q) fun _ _ q => q
/-- a new object is laid and tracked -/
theorem HOk.laid (x : HOk P w H h) (k : ∀ b u, h.get? b = some u → h'.get? b = some u) (hp : h.objs.size ≤ a) (new : ObjOk P w (upd H a o) h' a o) : HOk P w (upd H a o) h' := fun b u e => by
  have hn := x.fresh hp
  by_cases hb : b = a
  · subst hb; rw [upd_same] at e; cases e; exact new
  · rw [upd_ne hb] at e
    exact (x b u e).stay (fun c v _ q => k c v q) (fun c q => by rw [upd_ne (ne_of_none q hn)]; exact q) fun c xs q => by rw [upd_ne (ne_of_none q hn)]; exact q
end

/-- what may be read as u: it is u, or a known u -/
def Rd (H : Hp) (a : Addr) (u : HO) : Prop := H a = some u ∨ ∃ o, H a = some (.frz o u)
theorem Rd.of {H : Hp} {a : Addr} {u : HO} (h : H a = some u) : Rd H a u := .inl h
theorem Rd.ok {P : Program} {w : World} {H : Hp} {h : Heap} {a : Addr} {u : HO} (r : Rd H a u) (x : HOk P w H h) : ObjOk P w H h a u := by
  rcases r with r | ⟨o, r⟩
  · exact x a u r
  · obtain ⟨_, q⟩ := x a _ r
    exact q
/-- what may be written -/
def Mut : Option HO → Prop
  | some (.lst _) => True
  | some (.dK _) => True
  | some (.dT _) => True
  | some (.set _ _) => True
  | some (.ins _ _ _) => True
  | some (.ext _) => True
  | _ => False
section
variable {P : Program} {w : World} {H : Hp} {h h' : Heap} {x e : Addr} {o' : HO}
/-- the object at e is changed: x itself, or the dict of the instance x -/
theorem HOk.write (ok : HOk P w H h) (mu : Mut (H x)) (he : e = x ∨ H e = some (.own x)) (k : ∀ b u, b ≠ e → h.get? b = some u → h'.get? b = some u) (heo : ∃ u, h'.get? e = some u)
    (new : ObjOk P w (upd H x o') h' x o') : HOk P w (upd H x o') h' := fun b u q => by
  have nown : ∀ c y, H c = some (.own y) → c ≠ x := fun c y r z => by subst z; rw [r] at mu; exact mu
  have ntup : ∀ c xs, H c = some (.tup xs) → c ≠ x := fun c xs r z => by subst z; rw [r] at mu; exact mu
  by_cases hb : b = x
  · subst hb; rw [upd_same] at q; cases q; exact new
  · rw [upd_ne hb] at q
    by_cases hbe : b = e
    · have q' : H b = some (.own x) := by
        rcases he with z | z
        · exact absurd (hbe.trans z) hb
        · rw [hbe]; exact z
      rw [q] at q'; cases q'
      obtain ⟨v, hv⟩ := heo
      exact ⟨v, by rw [hbe]; exact hv⟩
    · refine (ok b u q).stay (fun c v hc r => k c v ?_ r) (fun c r => by rw [upd_ne (nown c b r)]; exact r) fun c xs r => by rw [upd_ne (ntup c xs r)]; exact r
      rcases hc with rfl | hc
      · exact hbe
      · rintro rfl
        rcases he with z | z
        · exact nown c b hc z
        · rw [hc] at z; cases z; exact hb rfl
end

/-! ### kept unless tracked; of the frames at fs (the callers') the slots may change (an exception that passes writes there); of the records at ex (iterators) nothing is said -/
structure Un (fs ex : List Addr) (H H' : Hp) (h h' : Heap) : Prop where
  keep : ∀ b o, h.get? b = some o → H b = none → b ∉ fs → b ∉ ex → h'.get? b = some o
  slot : ∀ b o, h.get? b = some o → H b = none → b ∈ fs → b ∉ ex → ∃ sl, h'.get? b = some { o with slots := sl }
  free : ∀ b o, h.get? b = some o → H b = none → b ∉ ex → H' b = none
  there : ∀ b o, h.get? b = some o → b ∉ ex → ∃ o', h'.get? b = some o'
  tups : ∀ b xs, H b = some (.tup xs) → H' b = some (.tup xs)
  frzs : ∀ b o u, H b = some (.frz o u) → H' b = some (.frz o u)
  tbls : ∀ b ps, H b = some (.tbl ps) → ∃ more, H' b = some (.tbl (ps ++ more))
section
variable {fs fs' ex ex' : List Addr} {H H1 H2 : Hp} {h h1 h2 h' : Heap} {a x e : Addr} {o : HO}
theorem Un.any (u : Un fs ex H H1 h h1) {b : Addr} {ob : Obj} (q : h.get? b = some ob) (n : H b = none) (hx : b ∉ ex) : ∃ sl, h1.get? b = some { ob with slots := sl } := by
  by_cases hb : b ∈ fs
  · exact u.slot b ob q n hb hx
  · exact ⟨ob.slots, u.keep b ob q n hb hx⟩
theorem Un.trans (a : Un fs ex H H1 h h1) (b : Un fs ex H1 H2 h1 h2) : Un fs ex H H2 h h2 where
  keep := fun c ob q n hc hx => b.keep c ob (a.keep c ob q n hc hx) (a.free c ob q n hx) hc hx
  slot := fun c ob q n hc hx => by
    obtain ⟨sl, e1⟩ := a.slot c ob q n hc hx
    obtain ⟨sl', e2⟩ := b.slot c _ e1 (a.free c ob q n hx) hc hx
    exact ⟨sl', e2⟩
  free := fun c ob q n hx => by
    obtain ⟨o', e1⟩ := a.there c ob q hx
    exact b.free c o' e1 (a.free c ob q n hx) hx
  there := fun c ob q hx => by
    obtain ⟨o', e1⟩ := a.there c ob q hx
    exact b.there c o' e1 hx
  tups := fun c xs q => b.tups c xs (a.tups c xs q)
  frzs := fun c ob xs q => b.frzs c ob xs (a.frzs c ob xs q)
  tbls := fun c ps q => by
    obtain ⟨m1, e1⟩ := a.tbls c ps q
    obtain ⟨m2, e2⟩ := b.tbls c _ e1
    exact ⟨m1 ++ m2, by rw [e2, Array.append_assoc]⟩
theorem Un.kept (k : ∀ b u, h.get? b = some u → h'.get? b = some u) : Un fs ex H H h h' :=
  ⟨fun b ob q _ _ _ => k b ob q, fun b ob q _ _ _ => ⟨ob.slots, k b ob q⟩, fun _ _ _ n _ => n, fun b ob q _ => ⟨ob, k b ob q⟩, fun _ _ q => q, fun _ _ _ q => q, fun _ ps q => ⟨#[], by rw [q]; simp⟩⟩
theorem Un.refl : Un fs ex H H h h := Un.kept fun _ _ q => q
theorem Un.laid (k : ∀ b u, h.get? b = some u → h'.get? b = some u) (hp : h.objs.size ≤ a) (hn : H a = none) : Un fs ex H (upd H a o) h h' where
  keep := fun b u q _ _ _ => k b u q
  slot := fun b u q _ _ _ => ⟨u.slots, k b u q⟩
  free := fun b u q n _ => by rw [upd_ne (Nat.ne_of_lt (Nat.lt_of_lt_of_le (Heap.lt_size q) hp))]; exact n
  there := fun b u q _ => ⟨u, k b u q⟩
  tups := fun b xs q => by rw [upd_ne (ne_of_none q hn)]; exact q
  frzs := fun b u xs q => by rw [upd_ne (ne_of_none q hn)]; exact q
  tbls := fun b ps q => ⟨#[], by rw [upd_ne (ne_of_none q hn), q]; simp⟩
theorem Un.write (mu : Mut (H x)) (he : e = x ∨ H e = some (.own x)) (k : ∀ b u, b ≠ e → h.get? b = some u → h'.get? b = some u) (heo : ∃ u, h'.get? e = some u) : Un fs ex H (upd H x o) h h' := by
  have hx : ∀ b, H b = none → b ≠ x := fun b n z => by subst z; rw [n] at mu; exact mu
  have hb : ∀ b, H b = none → b ≠ e := fun b n z => by
    subst z
    rcases he with r | r
    · exact hx b n r
    · rw [n] at r; cases r
  have hm : ∀ b u, H b = some u → ¬ Mut (some u) → b ≠ x := fun b u q nm z => by subst z; rw [q] at mu; exact nm mu
  refine ⟨fun b u q n _ _ => k b u (hb b n) q, fun b u q n _ _ => ⟨u.slots, k b u (hb b n) q⟩, fun b u q n _ => by rw [upd_ne (hx b n)]; exact n, fun b u q _ => ?_,
    fun b xs q => by rw [upd_ne (hm b _ q fun z => z)]; exact q, fun b u xs q => by rw [upd_ne (hm b _ q fun z => z)]; exact q, fun b ps q => ⟨#[], by rw [upd_ne (hm b _ q fun z => z), q]; simp⟩⟩
  by_cases hbe : b = e
  · subst hbe; exact heo
  · exact ⟨u, k b u hbe q⟩
theorem Un.mono (u : Un fs ex H H1 h h1) (hs : ∀ b ∈ fs, b ∈ fs') (hx : ∀ b ∈ ex, b ∈ ex') : Un fs' ex' H H1 h h1 :=
  ⟨fun b ob q n hb he => u.keep b ob q n (fun z => hb (hs b z)) fun z => he (hx b z), fun _ _ q n _ he => u.any q n fun z => he (hx _ z), fun b ob q n he => u.free b ob q n fun z => he (hx b z), fun b ob q he => u.there b ob q fun z => he (hx b z), u.tups, u.frzs, u.tbls⟩
end

/-! ### the heap without what is tracked -/
def trk (h : Heap) (H : Hp) : List Addr := (List.range h.objs.size).filter fun a => (H a).isSome
def hidT (h : Heap) (H : Hp) : Heap := PySem.W.hideAll h (trk h H)
theorem hidT_size (h : Heap) (H : Hp) : (hidT h H).objs.size = h.objs.size := PySem.W.hideAll_size _ _
theorem hidT_get {h : Heap} {H : Hp} {b : Addr} {o : Obj} (e : h.get? b = some o) (n : H b = none) : (hidT h H).get? b = some o :=
  PySem.W.hideAll_get _ e fun hm => by
    have q : (H b).isSome = true := (List.mem_filter.mp hm).2
    rw [n] at q; simp at q
theorem of_hidT {h : Heap} {H : Hp} {b : Addr} {o : Obj} (e : (hidT h H).get? b = some o) : h.get? b = some o ∧ H b = none := by
  have e' : h.get? b = some o := PySem.W.of_hideAll (trk h H) e
  refine ⟨e', ?_⟩
  cases q : H b with
  | none => rfl
  | some x =>
    have hm : b ∈ trk h H := List.mem_filter.mpr ⟨List.mem_range.mpr (Heap.lt_size e'), by simp [q]⟩
    have z : (hidT h H).get? b = none := PySem.W.hideAll_none (trk h H) hm
    rw [z] at e; cases e

/-! ### OpenK's ledger, filled with every new object but one -/
def allNews (g h : Heap) (L : Addr) : List (Addr × Obj) := (List.range h.objs.size).filterMap fun a => if a = L ∨ (g.get? a).isSome = true then none else (h.get? a).map fun o => (a, o)
theorem mem_allNews {g h : Heap} {L a : Addr} {o : Obj} (h1 : a ≠ L) (h2 : g.get? a = none) (h3 : h.get? a = some o) : (a, o) ∈ allNews g h L :=
  List.mem_filterMap.mpr ⟨a, List.mem_range.mpr (Heap.lt_size h3), by simp [h1, h2, h3]⟩
theorem of_mem_allNews {g h : Heap} {L : Addr} {p : Addr × Obj} (hp : p ∈ allNews g h L) : p.1 ≠ L ∧ g.get? p.1 = none ∧ h.get? p.1 = some p.2 := by
  obtain ⟨b, _, e⟩ := List.mem_filterMap.mp hp
  split at e
  · cases e
  · rename_i hn
    cases q : h.get? b with
    | none => rw [q] at e; simp at e
    | some u =>
      rw [q] at e
      simp only [Option.map_some, Option.some.injEq] at e
      subst e
      refine ⟨fun z => hn (.inl z), ?_, q⟩
      show g.get? b = none
      cases r : g.get? b with
      | none => rfl
      | some v => exact (hn (.inr (by simp [r]))).elim
def rest (g h : Heap) (L d : Addr) : List (Addr × Obj) := (allNews g h L).filter fun p => decide (p.1 ≠ d)
theorem rest_ne {g h : Heap} {L d : Addr} : ∀ p ∈ rest g h L d, p.1 ≠ d := fun p hp => of_decide_eq_true (List.mem_filter.mp hp).2
theorem mem_rest {g h : Heap} {L d a : Addr} {o : Obj} (h1 : a ≠ L) (h2 : g.get? a = none) (h3 : h.get? a = some o) (h4 : a ≠ d) : (a, o) ∈ rest g h L d :=
  List.mem_filter.mpr ⟨mem_allNews h1 h2 h3, decide_eq_true h4⟩
theorem news_all {g h : Heap} {L : Addr} : News g L h (allNews g h L) := fun p hp => let ⟨a, b, c⟩ := of_mem_allNews hp; ⟨c, a, b⟩
theorem news_at {g h : Heap} {L d : Addr} {o : Obj} (h1 : d ≠ L) (h2 : g.get? d = none) (h3 : h.get? d = some o) : News g L h ((d, o) :: rest g h L d) := fun p hp => by
  rcases List.mem_cons.mp hp with rfl | hp
  · exact ⟨h3, h1, h2⟩
  · exact news_all p (List.mem_filter.mp hp).1
/-- behind a rule that changed d alone: all else but the frame is kept -/
theorem kept_of_news {g h h' : Heap} {L d : Addr} {m : Str → Option Value} (k : ∀ b o, g.get? b = some o → h.get? b = some o) (F : Fr g L h' m) (N : News g L h' (rest g h L d)) :
    ∀ b o, b ≠ L → b ≠ d → h.get? b = some o → h'.get? b = some o := fun b o h1 h2 e => by
  cases q : g.get? b with
  | some u =>
    have := k b u q
    rw [e] at this; cases this
    exact F.keep b _ q
  | none => exact (N (b, o) (mem_rest h1 q e h2)).1
end L2

namespace L2
open PySem PySem.Spec PyProof.Rows

/-- the module's facts, over the base: the heap at the law's entry without what is tracked there -/
structure Mod (K : PySem.W.Frag) (mg : Str → Option Value) (base : Heap) : Prop where
  kin : K.In base
  glob : base.Ns mainGlobals mg
  blt : ∃ mb, base.Ns builtinsNs mb ∧ ∀ x : Str, x ≠ "__name__" → mb x = bootBuiltins x
  nolimit : base.NoLimit

/-- the context: a def's body (or a comprehension's block) running. base: fixed through the whole law; s₀, H₀: the entry; outer: the frames whose slots others may change (a def's callers); stack: all frames that run;
   ex: iterators that were made ahead of the entry and are walked here (a comprehension's); fn: the names whose cells were made at the entry (a def: all; a comprehension's block: its own); calm: not within an except suite; pn: pins that every state bears; xe: what is wanted of an exception that leaves the code -/
structure Cx where
  prog : Program
  w : World
  K : PySem.W.Frag
  mg : Str → Option Value
  base : Heap
  A : Around
  N : List Str
  s₀ : Shared
  H₀ : Hp
  env : Env
  outer : List Env
  stack : List Env
  ex : List Addr
  fn : Str → Bool
  calm : Bool
  pn : List (Addr × Obj)
  xe : Value → Shared → Prop
/-- the callers' frames -/
def frs (l : List Env) : List Addr := l.filterMap (·.frame)
abbrev Cx.fs (X : Cx) : List Addr := frs X.outer

def Vis (sc : Scope) (x : Str) : Prop := sc.names.lookup x = some .local ∨ sc.names.lookup x = some .cell ∨ sc.names.lookup x = some .free
def Loc (sc : Scope) (x : Str) : Prop := sc.names.lookup x = some .local ∨ sc.names.lookup x = some .cell
def Look (env : Env) (h : Heap) (m : Str → Option Value) (x : Str) (u : Value) : Prop :=
  (env.kindOf x = some .local ∧ m x = some u) ∨ ((env.kindOf x = some .cell ∨ env.kindOf x = some .free) ∧ ∃ c, env.cells.lookup x = some c ∧ h.IsCell c (some u))

structure Cx.Ok (X : Cx) : Prop where
  mod : Mod X.K X.mg X.base
  kind : X.env.scope.kind = .function
  glob : X.env.globals = mainGlobals
  blt : X.env.builtins = builtinsNs
  above : X.s₀.heap.objs.size ≤ X.env.locals
  inj : ∀ x y c, X.env.cells.lookup x = some c → X.env.cells.lookup y = some c → x = y
  has : ∀ x, (X.env.kindOf x = some .cell ∨ X.env.kindOf x = some .free) → ∃ c, X.env.cells.lookup x = some c
  cab : ∀ x c, X.fn x = true → X.env.cells.lookup x = some c → X.s₀.heap.objs.size ≤ c
  hd : X.calm = true → X.A.handled = none
  frames : X.A.frames = some X.stack
  stk : X.stack = X.outer ∨ (X.stack = X.env :: X.outer ∧ X.env.frame = some X.env.locals)
  exf : ∀ b ∈ X.ex, b ≠ X.env.locals ∧ ∀ x c, X.env.cells.lookup x = some c → c ≠ b
  bs : ∀ b o, X.base.get? b = some o → X.s₀.heap.get? b = some o ∧ X.H₀ b = none
  bsz : X.base.objs.size ≤ X.s₀.heap.objs.size
  noex : ∀ b o, X.base.get? b = some o → b ∉ X.ex
  exfs : ∀ b ∈ X.ex, b ∉ X.fs
  funs : X.s₀.heap.FunFrames X.base X.outer
  frf : ∀ b ∈ X.fs, X.H₀ b = none

structure Inv (X : Cx) (pins : List (Addr × Obj)) (σ : List (Option V)) (H : Hp) (s : Shared) : Prop where
  ok : X.Ok
  os : s.os = X.s₀.os
  bare : AllBare s.gens
  base : Un X.fs X.ex X.H₀ H X.s₀.heap s.heap
  loc : ∃ m, s.heap.Ns X.env.locals m ∧ ∀ (i : Nat) (x : Str) (v : V), X.N[i]? = some x → σ[i]? = some (some v) → Vis X.env.scope x → ∃ u, RelV v u ∧ Look X.env s.heap m x u
  cell : ∀ x c, X.env.cells.lookup x = some c → ∃ v, s.heap.IsCell c v
  free : H X.env.locals = none
  freeC : ∀ x c, X.env.cells.lookup x = some c → H c = none
  pin : ∀ p ∈ X.pn ++ pins, s.heap.get? p.1 = some p.2 ∧ H p.1 = none ∧ p.1 ≠ X.env.locals ∧ p.1 ∉ X.fs ∧ ∀ v, p.2.data ≠ .cell v
  hok : HOk X.prog X.w H s.heap
  len : σ.length = X.N.length

section
variable {X : Cx} {pins : List (Addr × Obj)} {σ : List (Option V)} {H H' : Hp} {s : Shared} {h' : Heap}

theorem Cx.Ok.nofr (ok : X.Ok) {b : Addr} {o : Obj} (e : X.base.get? b = some o) : b ∉ X.fs := fun hb => by
  have := (ok.funs.mem hb).1
  rw [e] at this; cases this
theorem Inv.bs (I : Inv X pins σ H s) : ∀ b o, X.base.get? b = some o → s.heap.get? b = some o ∧ H b = none := fun b o e =>
  ⟨I.base.keep b o (I.ok.bs b o e).1 (I.ok.bs b o e).2 (I.ok.nofr e) (I.ok.noex b o e), I.base.free b o (I.ok.bs b o e).1 (I.ok.bs b o e).2 (I.ok.noex b o e)⟩
theorem Inv.bk (I : Inv X pins σ H s) : ∀ b o, X.base.get? b = some o → s.heap.get? b = some o := fun b o e => (I.bs b o e).1
theorem Inv.mod (I : Inv X pins σ H s) : Mod X.K X.mg X.base := I.ok.mod
theorem Inv.kIn (I : Inv X pins σ H s) : X.K.In s.heap := I.ok.mod.kin.keeps I.bk
theorem Inv.nolimit (I : Inv X pins σ H s) : s.heap.NoLimit := I.ok.mod.nolimit.keeps I.bk
/-- the frame over the base: for OpenK's rules (K.In X.base is I.mod.kin) -/
theorem Inv.fr (I : Inv X pins σ H s) : ∃ m, Fr X.base X.env.locals s.heap m :=
  let ⟨m, hn, _⟩ := I.loc
  ⟨m, hn, I.bk, Nat.le_trans I.ok.bsz I.ok.above⟩
theorem Inv.lt (I : Inv X pins σ H s) : X.env.locals < s.heap.objs.size := let ⟨_, hn, _⟩ := I.loc; hn.lt
theorem Inv.sz (I : Inv X pins σ H s) : X.s₀.heap.objs.size ≤ s.heap.objs.size := Nat.le_trans I.ok.above (Nat.le_of_lt I.lt)
theorem Inv.nofs (I : Inv X pins σ H s) {a : Addr} (h : s.heap.objs.size ≤ a) : a ∉ X.fs := fun hb => by
  obtain ⟨_, o, ho, _⟩ := I.ok.funs.mem hb
  exact absurd (Nat.lt_of_lt_of_le (Heap.lt_size ho) (Nat.le_trans I.sz h)) (Nat.lt_irrefl _)
theorem Inv.cne (I : Inv X pins σ H s) : ∀ x c, X.env.cells.lookup x = some c → c ≠ X.env.locals := fun x c e z => by
  obtain ⟨v, o, ho, hd⟩ := I.cell x c e
  obtain ⟨m, ⟨o', es, ep, ho', hd', _⟩, _⟩ := I.loc
  rw [z, ho'] at ho; cases ho; rw [hd'] at hd; cases hd
theorem Inv.funs (I : Inv X pins σ H s) : s.heap.FunFrames X.base X.outer := by
  have all : ∀ (l : List Env), (∀ b ∈ frs l, b ∈ X.fs) → X.s₀.heap.FunFrames X.base l → s.heap.FunFrames X.base l := by
    intro l
    induction l with
    | nil => intro _ _; trivial
    | cons env r ih =>
      intro hs hl
      obtain ⟨hk, ⟨L, o, hf, hn, ho, hd⟩, hr⟩ := hl
      have hL : L ∈ X.fs := hs L (by unfold frs; rw [List.filterMap_cons, hf]; exact List.mem_cons_self)
      obtain ⟨sl, e⟩ := I.base.slot L o ho (I.ok.frf L hL) hL fun z => I.ok.exfs L z hL
      exact ⟨hk, ⟨L, _, hf, hn, e, hd⟩, ih (fun b hb => hs b (by unfold frs; rw [List.filterMap_cons, hf]; exact List.mem_cons_of_mem _ hb)) hr⟩
  exact all X.outer (fun _ hb => hb) I.ok.funs

/-- the frames that run, for a call -/
theorem Inv.stack (I : Inv X pins σ H s) : s.heap.FunFrames X.base X.stack := by
  rcases I.ok.stk with e | ⟨e, hf⟩
  · rw [e]; exact I.funs
  · rw [e]
    obtain ⟨m, hn, _⟩ := I.loc
    refine .cons (by rw [I.ok.kind]; decide) hf hn ?_ I.funs
    exact Heap.get?_none_of_le (Nat.le_trans I.ok.bsz I.ok.above)
theorem Inv.stkSub (I : Inv X pins σ H s) : ∀ b ∈ frs X.stack, b ∈ X.env.locals :: X.fs := fun b hb => by
  rcases I.ok.stk with e | ⟨e, hf⟩
  · rw [e] at hb; exact List.mem_cons_of_mem _ hb
  · rw [e] at hb
    unfold frs at hb
    rw [List.filterMap_cons, hf] at hb
    exact hb
theorem Inv.stkFree (I : Inv X pins σ H s) : ∀ b ∈ frs X.stack, H b = none := fun b hb => by
  rcases List.mem_cons.mp (I.stkSub b hb) with e | hb
  · rw [e]; exact I.free
  · obtain ⟨_, o, ho, _⟩ := I.ok.funs.mem hb
    exact I.base.free b o ho (I.ok.frf b hb) fun z => I.ok.exfs b z hb

/-- THE STEP: the untracked objects but the frame and the records at ch are kept (the callers' frames up to slots), the frame's map is kept, the new abstract heap is held -/
theorem Inv.step {g' : Array GenState} {t' : Nat} {d' : Drawn} {ch : List Addr} (I : Inv X pins σ H s)
    (hch : ∀ b ∈ ch, (b ∈ X.ex ∨ X.s₀.heap.objs.size ≤ b) ∧ b ≠ X.env.locals ∧ (∀ x c, X.env.cells.lookup x = some c → c ≠ b) ∧ ∀ p ∈ X.pn ++ pins, p.1 ≠ b)
    (keep : ∀ b o, b ≠ X.env.locals → b ∉ X.fs → b ∉ ch → s.heap.get? b = some o → H b = none → h'.get? b = some o)
    (slot : ∀ b o, b ≠ X.env.locals → b ∈ X.fs → b ∉ ch → s.heap.get? b = some o → H b = none → ∃ sl, h'.get? b = some { o with slots := sl }) (free : ∀ b o, b ∉ ch → s.heap.get? b = some o → H b = none → H' b = none)
    (there : ∀ b o, b ∉ ch → s.heap.get? b = some o → ∃ o', h'.get? b = some o')
    (tups : ∀ b xs, H b = some (.tup xs) → H' b = some (.tup xs)) (frzs : ∀ b o u, H b = some (.frz o u) → H' b = some (.frz o u)) (tbls : ∀ b ps, H b = some (.tbl ps) → ∃ more, H' b = some (.tbl (ps ++ more)))
    (ns : ∀ m, s.heap.Ns X.env.locals m → h'.Ns X.env.locals m) (hok : HOk X.prog X.w H' h') (hg : AllBare g') :
    Inv X pins σ H' { s with heap := h', gens := g', drawn := d', toks := t' } := by
  have neL : ∀ b o, X.s₀.heap.get? b = some o → b ≠ X.env.locals := fun b o e => Nat.ne_of_lt (Nat.lt_of_lt_of_le (Heap.lt_size e) I.ok.above)
  have neC : ∀ b o, X.s₀.heap.get? b = some o → b ∉ X.ex → b ∉ ch := fun b o e hx hb => by
    rcases (hch b hb).1 with z | z
    · exact hx z
    · exact absurd (Nat.lt_of_lt_of_le (Heap.lt_size e) z) (Nat.lt_irrefl _)
  have cellK : ∀ x c, X.env.cells.lookup x = some c → ∀ v, s.heap.IsCell c v → h'.IsCell c v := fun x c e v ⟨o, ho, hd⟩ => by
    have nch : c ∉ ch := fun z => (hch c z).2.2.1 x c e rfl
    by_cases hc : c ∈ X.fs
    · obtain ⟨sl, q⟩ := slot c o (I.cne x c e) hc nch ho (I.freeC x c e)
      exact ⟨_, q, hd⟩
    · exact ⟨o, keep c o (I.cne x c e) hc nch ho (I.freeC x c e), hd⟩
  refine ⟨I.ok, I.os, hg, ⟨fun b o e n hb hx => ?_, fun b o e n hb hx => ?_, fun b o e n hx => ?_, fun b o e hx => ?_, fun b xs e => tups b xs (I.base.tups b xs e), fun b o xs e => frzs b o xs (I.base.frzs b o xs e), fun b ps e => ?_⟩, ?_, fun x c e => ?_, ?_, fun x c e => ?_, fun p hp => ?_, hok, I.len⟩
  · exact keep b o (neL b o e) hb (neC b o e hx) (I.base.keep b o e n hb hx) (I.base.free b o e n hx)
  · obtain ⟨sl, e1⟩ := I.base.slot b o e n hb hx
    obtain ⟨sl', e2⟩ := slot b _ (neL b o e) hb (neC b o e hx) e1 (I.base.free b o e n hx)
    exact ⟨sl', e2⟩
  · obtain ⟨o', e1⟩ := I.base.there b o e hx
    exact free b o' (neC b o e hx) e1 (I.base.free b o e n hx)
  · obtain ⟨o', e1⟩ := I.base.there b o e hx
    exact there b o' (neC b o e hx) e1
  · obtain ⟨m1, e1⟩ := I.base.tbls b ps e
    obtain ⟨m2, e2⟩ := tbls b _ e1
    exact ⟨m1 ++ m2, by rw [e2, Array.append_assoc]⟩
  · obtain ⟨m, hn, hl⟩ := I.loc
    refine ⟨m, ns m hn, fun i x v e1 e2 e3 => ?_⟩
    obtain ⟨u, r, l⟩ := hl i x v e1 e2 e3
    refine ⟨u, r, ?_⟩
    rcases l with l | ⟨k, c, e, z⟩
    · exact .inl l
    · exact .inr ⟨k, c, e, cellK x c e _ z⟩
  · obtain ⟨v, z⟩ := I.cell x c e
    exact ⟨v, cellK x c e v z⟩
  · obtain ⟨m, ⟨o, _, _, ho, _⟩, _⟩ := I.loc
    exact free _ o (fun z => (hch _ z).2.1 rfl) ho I.free
  · obtain ⟨v, o, ho, hd⟩ := I.cell x c e
    exact free c o (fun z => (hch c z).2.2.1 x c e rfl) ho (I.freeC x c e)
  · obtain ⟨e, n, ne, nf, d⟩ := I.pin p hp
    have nch : p.1 ∉ ch := fun z => (hch p.1 z).2.2.2 p hp rfl
    exact ⟨keep p.1 p.2 ne nf nch e n, free p.1 p.2 nch e n, ne, nf, d⟩
/-- .. where the frame's own object is kept too -/
theorem Inv.un {t' : Nat} (I : Inv X pins σ H s) (u : Un X.fs [] H H' s.heap h') (hok : HOk X.prog X.w H' h') : Inv X pins σ H' { s with heap := h', toks := t' } := by
  obtain ⟨m, ⟨o, es, ep, ho, r⟩, _⟩ := id I.loc
  obtain ⟨sl, hL⟩ := u.any ho I.free (by simp)
  exact I.step (g' := s.gens) (d' := s.drawn) (ch := []) (fun _ z => nomatch z) (fun b o _ hb _ e n => u.keep b o e n hb (by simp)) (fun b o _ hb _ e n => u.slot b o e n hb (by simp)) (fun b o _ e n => u.free b o e n (by simp)) (fun b o _ e => u.there b o e (by simp)) u.tups u.frzs u.tbls (fun m' hm => by
    obtain ⟨o', es', ep', ho', r'⟩ := hm
    rw [ho] at ho'; cases ho'
    exact ⟨_, es', ep', hL, r'⟩) hok I.bare
/-- behind a call (or a comprehension's block): the slots of this frame may have changed too, the records at ch may have turned -/
theorem Inv.call {g' : Array GenState} {t' : Nat} {d' : Drawn} {ch : List Addr} (I : Inv X pins σ H s) (u : Un (frs X.stack) ch H H' s.heap h') (hok : HOk X.prog X.w H' h') (hg : AllBare g')
    (hch : ∀ b ∈ ch, (b ∈ X.ex ∨ X.s₀.heap.objs.size ≤ b) ∧ b ≠ X.env.locals ∧ (∀ x c, X.env.cells.lookup x = some c → c ≠ b) ∧ ∀ p ∈ X.pn ++ pins, p.1 ≠ b) :
    Inv X pins σ H' { s with heap := h', gens := g', drawn := d', toks := t' } := by
  obtain ⟨m, ⟨o, es, ep, ho, r⟩, _⟩ := id I.loc
  obtain ⟨sl, hL⟩ := u.any ho I.free fun z => (hch _ z).2.1 rfl
  exact I.step (ch := ch) hch (fun b o hL hb hc e n => u.keep b o e n (fun z => (List.mem_cons.mp (I.stkSub b z)).elim hL hb) hc) (fun b o _ _ hc e n => u.any e n hc) (fun b o hc e n => u.free b o e n hc) (fun b o hc e => u.there b o e hc) u.tups u.frzs u.tbls (fun m' hm => by
    obtain ⟨o', es', ep', ho', r'⟩ := hm
    rw [ho] at ho'; cases ho'
    exact ⟨_, es', ep', hL, r'⟩) hok hg
/-- an untracked record of ours (an iterator) has turned -/
theorem Inv.turned {t' : Nat} {it : Addr} (I : Inv X pins σ H s) (k : ∀ b o, b ≠ it → s.heap.get? b = some o → h'.get? b = some o) (hn : H it = none) (hL : it ≠ X.env.locals)
    (h1 : it ∈ X.ex ∨ X.s₀.heap.objs.size ≤ it) (h2 : ∀ x c, X.env.cells.lookup x = some c → c ≠ it) (h3 : ∀ p ∈ X.pn ++ pins, p.1 ≠ it) : Inv X pins σ H { s with heap := h', toks := t' } := by
  have nit : ∀ b u, H b = some u → b ≠ it := fun b u e z => by rw [z, hn] at e; cases e
  refine I.step (g' := s.gens) (d' := s.drawn) (ch := [it]) (fun b hb => ?_) (fun b o _ _ hc e _ => k b o (fun z => hc (by simp [z])) e) (fun b o _ _ hc e _ => ⟨o.slots, k b o (fun z => hc (by simp [z])) e⟩) (fun _ _ _ _ n => n)
    (fun b o hc e => ⟨o, k b o (fun z => hc (by simp [z])) e⟩) (fun _ _ e => e) (fun _ _ _ e => e) (fun b ps e => ⟨#[], by rw [e]; simp⟩) (fun m hm => ?_) (fun b u e => ?_) I.bare
  · have e : b = it := by simpa using hb
    subst e
    exact ⟨h1, hL, h2, h3⟩
  · obtain ⟨o, es, ep, ho, r⟩ := hm
    exact ⟨o, es, ep, k _ o (Ne.symm hL) ho, r⟩
  · refine (I.hok b u e).stay (fun c v hc q => k c v ?_ q) (fun _ q => q) fun _ _ q => q
    rcases hc with z | z
    · rw [z]; exact nit b u e
    · exact nit c _ z
theorem Inv.tok (I : Inv X pins σ H s) (t : Nat) : Inv X pins σ H { s with toks := t } := I.un (h' := s.heap) (t' := t) Un.refl I.hok
/-- all objects kept -/
theorem Inv.kept {t' : Nat} (I : Inv X pins σ H s) (k : ∀ b u, s.heap.get? b = some u → h'.get? b = some u) : Inv X pins σ H { s with heap := h', toks := t' } := I.un (Un.kept k) (I.hok.kept k)
/-- a new object laid and tracked -/
theorem Inv.laid {a : Addr} {o : HO} {t' : Nat} (I : Inv X pins σ H s) (k : ∀ b u, s.heap.get? b = some u → h'.get? b = some u) (hp : s.heap.objs.size ≤ a) (new : ObjOk X.prog X.w (upd H a o) h' a o) :
    Inv X pins σ (upd H a o) { s with heap := h', toks := t' } := I.un (Un.laid k hp (I.hok.fresh hp)) (I.hok.laid k hp new)
/-- an object written -/
theorem Inv.write {x e : Addr} {o : HO} {t' : Nat} (I : Inv X pins σ H s) (mu : Mut (H x)) (he : e = x ∨ H e = some (.own x)) (k : ∀ b u, b ≠ e → s.heap.get? b = some u → h'.get? b = some u) (heo : ∃ u, h'.get? e = some u)
    (new : ObjOk X.prog X.w (upd H x o) h' x o) : Inv X pins σ (upd H x o) { s with heap := h', toks := t' } := I.un (Un.write mu he k heo) (I.hok.write mu he k heo new)
/-- forgetting slots, pins -/
theorem Inv.weak {σ' : List (Option V)} (I : Inv X pins σ H s) (hl : σ'.length = σ.length) (w : ∀ (i : Nat) v, σ'[i]? = some (some v) → σ[i]? = some (some v)) : Inv X pins σ' H s :=
  ⟨I.ok, I.os, I.bare, I.base, let ⟨m, hn, hl'⟩ := I.loc; ⟨m, hn, fun i x v e1 e2 e3 => hl' i x v e1 (w i v e2) e3⟩, I.cell, I.free, I.freeC, I.pin, I.hok, hl.trans I.len⟩
theorem Inv.pins_of {pins' : List (Addr × Obj)} (I : Inv X pins σ H s) (h : ∀ p ∈ pins', s.heap.get? p.1 = some p.2 ∧ H p.1 = none ∧ p.1 ≠ X.env.locals ∧ p.1 ∉ X.fs ∧ ∀ v, p.2.data ≠ .cell v) : Inv X pins' σ H s :=
  ⟨I.ok, I.os, I.bare, I.base, I.loc, I.cell, I.free, I.freeC, fun p hp => (List.mem_append.mp hp).elim (fun z => I.pin p (List.mem_append_left _ z)) (h p), I.hok, I.len⟩

theorem nodup_ix {N : List Str} (hN : N.Nodup) {i j : Nat} {x : Str} (a : N[i]? = some x) (b : N[j]? = some x) : i = j := by
  obtain ⟨h1, e1⟩ := List.getElem?_eq_some_iff.mp a
  obtain ⟨h2, e2⟩ := List.getElem?_eq_some_iff.mp b
  exact (List.getElem_inj hN).mp (e1.trans e2.symm)

/-- a name is stored; what changed -/
theorem store_ok2 {M : Model} {A : Around} {E : Value → Shared → Prop} {i : Nat} {x : Str} {v : V} {u : Value} {Q : Unit → Shared → Prop} (I : Inv X pins σ H s) (hN : X.N.Nodup) (hi : X.N[i]? = some x) (hx : Loc X.env.scope x) (r : RelV v u)
    (h : ∀ s', Inv X pins (σ.set i (some v)) H s' → (∃ a, Heap.SameBut a s.heap s'.heap ∧ (a = X.env.locals ∨ X.env.cells.lookup x = some a)) → Q () s') (hf : X.fn x = true ∨ X.env.scope.names.lookup x = some .local := by first | exact .inl rfl | exact .inr rfl | assumption) : wpAny M A (storeName X.env x u) Q E s := by
  obtain ⟨m, hn, hl⟩ := id I.loc
  have hcls : (X.env.scope.kind == .class || (X.env.scope.kind == .module && X.env.locals != X.env.globals)) = false := by rw [I.ok.kind]; rfl
  have hiσ : i < σ.length := by rw [I.len]; exact (List.getElem?_eq_some_iff.mp hi).1
  have cne := I.cne
  have tracked : ∀ {a : Addr} {h' : Heap}, (∃ o, s.heap.get? a = some o ∧ H a = none) → Heap.SameBut a s.heap h' → HOk X.prog X.w H h' := fun {a h'} ha hs b ob e => by
    obtain ⟨_, _, hfree⟩ := ha
    refine (I.hok b ob e).stay (fun c w' hc q => (hs.2 c ?_).trans q) (fun _ q => q) fun _ _ q => q
    rintro rfl
    rcases hc with rfl | hc
    · rw [hfree] at e; cases e
    · rw [hfree] at hc; cases hc
  rcases hx with hk | hk
  · refine wpAny_storeName_local hk hn (fun h' hn' hs => ?_) hcls
    obtain ⟨oL, _, _, hoL, _⟩ := id hn
    refine h _ ⟨I.ok, I.os, I.bare, ⟨fun b o e n hb hx => ?_, fun b o e n hb hx => ?_, I.base.free, fun b o e hx => ?_, I.base.tups, I.base.frzs, I.base.tbls⟩, ⟨_, hn', fun j y v' e1 e2 e3 => ?_⟩, fun y c e => ?_, I.free, I.freeC, fun p hp => ?_, tracked ⟨oL, hoL, I.free⟩ hs, by simpa using I.len⟩ ⟨_, hs, .inl rfl⟩
    · exact (hs.2 b (Nat.ne_of_lt (Nat.lt_of_lt_of_le (Heap.lt_size e) I.ok.above))).trans (I.base.keep b o e n hb hx)
    · obtain ⟨sl, e1⟩ := I.base.slot b o e n hb hx
      exact ⟨sl, (hs.2 b (Nat.ne_of_lt (Nat.lt_of_lt_of_le (Heap.lt_size e) I.ok.above))).trans e1⟩
    · obtain ⟨o', e1⟩ := I.base.there b o e hx
      exact ⟨o', (hs.2 b (Nat.ne_of_lt (Nat.lt_of_lt_of_le (Heap.lt_size e) I.ok.above))).trans e1⟩
    · by_cases hj : j = i
      · subst hj
        rw [hi] at e1; cases e1
        rw [List.getElem?_set_self hiσ] at e2
        cases e2
        exact ⟨u, r, .inl ⟨hk, by simp⟩⟩
      · rw [List.getElem?_set_ne (Ne.symm hj)] at e2
        obtain ⟨u', r', q⟩ := hl j y v' e1 e2 e3
        refine ⟨u', r', ?_⟩
        rcases q with ⟨k, e⟩ | ⟨k, c, e, z⟩
        · refine .inl ⟨k, ?_⟩
          have : y ≠ x := fun e => hj (nodup_ix hN e1 (e ▸ hi))
          simp [this, e]
        · exact .inr ⟨k, c, e, z.sameBut hs (cne y c e)⟩
    · obtain ⟨w', z⟩ := I.cell y c e
      exact ⟨w', z.sameBut hs (cne y c e)⟩
    · obtain ⟨e, n, ne, nf, d⟩ := I.pin p hp
      exact ⟨(hs.2 p.1 ne).trans e, n, ne, nf, d⟩
  · have hfn : X.fn x = true := by
      rcases hf with z | z
      · exact z
      · rw [z] at hk; cases hk
    obtain ⟨c, hc⟩ := I.ok.has x (.inl hk)
    obtain ⟨w', z⟩ := I.cell x c hc
    refine wpAny_storeName_cell I.ok.kind hk hc z (fun h' hc' hs => ?_)
    obtain ⟨oc, hoc, hocd⟩ := id z
    refine h { s with heap := h' } ⟨I.ok, I.os, I.bare, ⟨fun b o e n hb hx => ?_, fun b o e n hb hx => ?_, I.base.free, fun b o e hx => ?_, I.base.tups, I.base.frzs, I.base.tbls⟩, ⟨m, hn.sameBut hs (Ne.symm (cne x c hc)), fun j y v' e1 e2 e3 => ?_⟩, fun y c' e => ?_, I.free, I.freeC, fun p hp => ?_, tracked ⟨oc, hoc, I.freeC x c hc⟩ hs, by simpa using I.len⟩ ⟨c, hs, .inr hc⟩
    · exact (hs.2 b (Nat.ne_of_lt (Nat.lt_of_lt_of_le (Heap.lt_size e) (I.ok.cab x c hfn hc)))).trans (I.base.keep b o e n hb hx)
    · obtain ⟨sl, e1⟩ := I.base.slot b o e n hb hx
      exact ⟨sl, (hs.2 b (Nat.ne_of_lt (Nat.lt_of_lt_of_le (Heap.lt_size e) (I.ok.cab x c hfn hc)))).trans e1⟩
    · obtain ⟨o', e1⟩ := I.base.there b o e hx
      exact ⟨o', (hs.2 b (Nat.ne_of_lt (Nat.lt_of_lt_of_le (Heap.lt_size e) (I.ok.cab x c hfn hc)))).trans e1⟩
    · by_cases hj : j = i
      · subst hj
        rw [hi] at e1; cases e1
        rw [List.getElem?_set_self hiσ] at e2
        cases e2
        exact ⟨u, r, .inr ⟨.inl hk, c, hc, hc'⟩⟩
      · rw [List.getElem?_set_ne (Ne.symm hj)] at e2
        obtain ⟨u', r', q⟩ := hl j y v' e1 e2 e3
        refine ⟨u', r', ?_⟩
        rcases q with q | ⟨k, c', e, z'⟩
        · exact .inl q
        · refine .inr ⟨k, c', e, z'.sameBut hs ?_⟩
          rintro rfl
          exact hj (nodup_ix hN e1 (I.ok.inj _ _ _ e hc ▸ hi))
    · by_cases hcc : c' = c
      · subst hcc; exact ⟨_, hc'⟩
      · obtain ⟨w2, z2⟩ := I.cell y c' e
        exact ⟨w2, z2.sameBut hs hcc⟩
    · obtain ⟨e, n, ne, nf, d⟩ := I.pin p hp
      refine ⟨(hs.2 p.1 ?_).trans e, n, ne, nf, d⟩
      intro q
      rw [q, hoc] at e
      have q' : oc = p.2 := Option.some.inj e
      exact d w' (by rw [← q']; exact hocd)
theorem store_ok {M : Model} {A : Around} {E : Value → Shared → Prop} {i : Nat} {x : Str} {v : V} {u : Value} {Q : Unit → Shared → Prop} (I : Inv X pins σ H s) (hN : X.N.Nodup) (hi : X.N[i]? = some x) (hx : Loc X.env.scope x) (r : RelV v u)
    (h : ∀ s', Inv X pins (σ.set i (some v)) H s' → Q () s') (hf : X.fn x = true ∨ X.env.scope.names.lookup x = some .local := by first | exact .inl rfl | exact .inr rfl | assumption) : wpAny M A (storeName X.env x u) Q E s :=
  store_ok2 I hN hi hx r (fun s' I' _ => h s' I') hf
/-- behind a call or a block, the state as it is -/
theorem Inv.call' {s' : Shared} {ch : List Addr} (I : Inv X pins σ H s) (ho : s'.os = s.os) (u : Un (frs X.stack) ch H H' s.heap s'.heap) (hok : HOk X.prog X.w H' s'.heap) (hg : AllBare s'.gens)
    (hch : ∀ b ∈ ch, (b ∈ X.ex ∨ X.s₀.heap.objs.size ≤ b) ∧ b ≠ X.env.locals ∧ (∀ x c, X.env.cells.lookup x = some c → c ≠ b) ∧ ∀ p ∈ X.pn ++ pins, p.1 ≠ b) : Inv X pins σ H' s' := by
  obtain ⟨h', g', d', t', o'⟩ := s'
  have e : o' = s.os := ho
  subst e
  exact I.call (g' := g') (t' := t') (d' := d') u hok hg hch
end

/-! ### the judgements -/
/-- an exception: its class, its own dict's address (where it has one), the abstract heap behind it -/
abbrev XK := Value → Option Addr → Hp → Prop
abbrev St := List (Option V)
abbrev VK := V → Hp → Prop
/-- an expression's reading; a test's; an argument list's -/
abbrev TE := St → Hp → VK → Prop
abbrev TT := St → Hp → (Bool → Hp → Prop) → Prop
abbrev TA := St → Hp → (List V → Hp → Prop) → Prop
/-- what is wanted behind a statement -/
structure Ends where
  nx : St → Hp → Prop
  rt : VK
  bk : St → Hp → Prop := fun _ _ => False
  ct : St → Hp → Prop := fun _ _ => False
abbrev TS := Ends → St → Hp → Prop

def EP (X : Cx) (pins : List (Addr × Obj)) (σ : St) (Q : VK) (u : Value) (s' : Shared) : Prop := ∃ v H', Inv X pins σ H' s' ∧ RelV v u ∧ Q v H'
def TP (X : Cx) (pins : List (Addr × Obj)) (σ : St) (Q : Bool → Hp → Prop) (b : Bool) (s' : Shared) : Prop := ∃ H', Inv X pins σ H' s' ∧ Q b H'
def AP (X : Cx) (pins : List (Addr × Obj)) (σ : St) (Q : List V → Hp → Prop) (us : List Value) (s' : Shared) : Prop := ∃ vs H', Inv X pins σ H' s' ∧ Vals vs us ∧ Q vs H'
def SP (X : Cx) (pins : List (Addr × Obj)) (D : Ends) (f : Flow) (s' : Shared) : Prop :=
  match f with
  | .next => ∃ σ' H', Inv X pins σ' H' s' ∧ D.nx σ' H'
  | .brk => ∃ σ' H', Inv X pins σ' H' s' ∧ D.bk σ' H'
  | .cont => ∃ σ' H', Inv X pins σ' H' s' ∧ D.ct σ' H'
  | .ret u => ∃ v σ' H', Inv X pins σ' H' s' ∧ RelV v u ∧ D.rt v H'

def PE (X : Cx) (e : Expr) (t : TE) : Prop :=
  ∀ (pins : List (Addr × Obj)) (s : Shared) (σ : St) (H : Hp) (Q : VK), Inv X pins σ H s → t σ H Q → wpAny (model X.prog X.w) X.A (eval e X.env) (EP X pins σ Q) X.xe s
def PT (X : Cx) (e : Expr) (t : TT) : Prop :=
  ∀ (pins : List (Addr × Obj)) (s : Shared) (σ : St) (H : Hp) (Q : Bool → Hp → Prop), Inv X pins σ H s → t σ H Q → wpAny (model X.prog X.w) X.A (isTrue e X.env (eval e X.env)) (TP X pins σ Q) X.xe s
/-- a test whatever its 'whole' is (and, or) -/
def PW (X : Cx) (e : Expr) (t : TT) : Prop :=
  ∀ (whole : Sem Value) (pins : List (Addr × Obj)) (s : Shared) (σ : St) (H : Hp) (Q : Bool → Hp → Prop), Inv X pins σ H s → t σ H Q → wpAny (model X.prog X.w) X.A (isTrue e X.env whole) (TP X pins σ Q) X.xe s
theorem PW.pt {X : Cx} {e : Expr} {t : TT} (h : PW X e t) : PT X e t := h _
/-- an argument list (no star), from the left -/
def PA (X : Cx) (es : List Expr) (t : TA) : Prop :=
  ∀ (pos : Pos) (pins : List (Addr × Obj)) (s : Shared) (σ : St) (H : Hp) (Q : List V → Hp → Prop), Inv X pins σ H s → t σ H Q → wpAny (model X.prog X.w) X.A (spliced (backTo pos (starEach es X.env))) (AP X pins σ Q) X.xe s
def PS (X : Cx) (st : Stmt) (t : TS) : Prop :=
  ∀ (pins : List (Addr × Obj)) (s : Shared) (σ : St) (H : Hp) (D : Ends), Inv X pins σ H s → t D σ H → wpAny (model X.prog X.w) X.A (exec st X.env) (SP X pins D) X.xe s
def PSs (X : Cx) (st : List Stmt) (t : TS) : Prop :=
  ∀ (pins : List (Addr × Obj)) (s : Shared) (σ : St) (H : Hp) (D : Ends), Inv X pins σ H s → t D σ H → wpAny (model X.prog X.w) X.A (execs st X.env) (SP X pins D) X.xe s
/-- weaken the end -/
theorem thn {α : Type} {t : Sem α} {Q Q' : α → Shared → Prop} {M : Model} {A : Around} {E : Value → Shared → Prop} {s : Shared} (h : wpAny M A t Q E s) (hQ : ∀ a s, Q a s → Q' a s) : wpAny M A t Q' E s := wpAny_mono h hQ fun _ _ x => x
end L2

namespace L2
open PySem PySem.Spec PyProof.Rows
section
variable {X : Cx}

/-- two expressions in a row -/
theorem bin {a b : Expr} {ta tb : TE} (ha : PE X a ta) (hb : PE X b tb) {pins : List (Addr × Obj)} {s : Shared} {σ : St} {H : Hp} {R : V → V → Hp → Prop} (I : Inv X pins σ H s) (h : ta σ H fun x H1 => tb σ H1 fun y H2 => R x y H2)
    {α : Type} {Q : α → Shared → Prop} {f : Value → Value → Sem α}
    (hf : ∀ v u s2 x y H2, Inv X pins σ H2 s2 → RelV x v → RelV y u → R x y H2 → wpAny (model X.prog X.w) X.A (f v u) Q X.xe s2) :
    wpAny (model X.prog X.w) X.A (eval a X.env) (fun v s₁ => wpAny (model X.prog X.w) X.A (eval b X.env) (fun u s₂ => wpAny (model X.prog X.w) X.A (f v u) Q X.xe s₂) X.xe s₁) X.xe s := by
  refine thn (ha pins s σ H _ I h) fun v s1 ⟨x, H1, I1, r1, q1⟩ => ?_
  refine thn (hb pins s1 σ H1 _ I1 q1) fun u s2 ⟨y, H2, I2, r2, q2⟩ => ?_
  exact hf v u s2 x y H2 I2 r1 r2 q2

/-! ### names and constants -/
def tVar (i : Nat) : TE := fun σ H Q => ∃ v, σ[i]? = some (some v) ∧ Q v H
def tC (v : V) : TE := fun _ H Q => Q v H
theorem pe_var {i : Nat} {x : Str} {pos : Pos} (hN : X.N[i]? = some x) (hv : Vis X.env.scope x) (hd : (x == ("__debug__" : Str)) = false := by decide) (hcd : (x == ("__classdict__" : Str)) = false := by decide) : PE X (.Name x pos) (tVar i) := by
  intro pins s σ H Q I h
  obtain ⟨v, e, h⟩ := h
  obtain ⟨m, hn, hl⟩ := I.loc
  obtain ⟨u, r, l⟩ := hl i x v hN e hv
  have fin : EP X pins σ Q u s := ⟨v, H, I, r, h⟩
  rcases l with ⟨hk, hm⟩ | ⟨hk, c, hc, hcell⟩
  · exact wpAny_Name (wpAny_loadName_local I.ok.kind hk hn hm fin) hd
  · rcases hk with hk | hk
    · exact wpAny_Name (wpAny_loadName_cell I.ok.kind hk hc hcell fin) hd
    · exact wpAny_Name (wpAny_loadName_free I.ok.kind hk hc hcell fin hcd) hd
theorem pe_int {i j pos} : PE X (.Constant (.int i) j pos) (tC (.int i)) := fun _ _ _ H _ I h => wpAny_Constant_int ⟨.int i, H, I.tok _, ⟨_, rfl⟩, h⟩
theorem pe_bl {b j pos} : PE X (.Constant (.bool b) j pos) (tC (.bl b)) := fun _ _ _ H _ I h => Constant_bool ⟨.bl b, H, I, rfl, h⟩
theorem pe_non {j pos} : PE X (.Constant .none j pos) (tC .non) := fun _ _ _ H _ I h => Constant_none ⟨.non, H, I, rfl, h⟩
theorem pe_str {x j pos} : PE X (.Constant (.str x) j pos) (tC (.str x)) := fun _ _ _ H _ I h => Calls.Constant_str ⟨.str x, H, I.tok _, ⟨_, rfl⟩, h⟩

/-- a global name of the def -/
def Gl (X : Cx) (x : Str) : Prop := X.env.kindOf x = some .globalImplicit
theorem ld_glob {E : Value → Shared → Prop} {pins : List (Addr × Obj)} {s : Shared} {σ : St} {H : Hp} {x : Str} {u : Value} {pos : Pos} {Q : Value → Shared → Prop} (I : Inv X pins σ H s) (hg : Gl X x) (hm : X.mg x = some u) (h : Q u s)
    (hd : (x == ("__debug__" : Str)) = false := by decide) : wpAny (model X.prog X.w) X.A (eval (.Name x pos) X.env) Q E s :=
  Calls.Name_function_global I.ok.kind hg (Calls.loadGlobal_global (by rw [I.ok.glob]; exact I.mod.glob.keeps I.bk) hm h) hd
theorem ld_blt {E : Value → Shared → Prop} {pins : List (Addr × Obj)} {s : Shared} {σ : St} {H : Hp} {x : Str} {u : Value} {pos : Pos} {Q : Value → Shared → Prop} (I : Inv X pins σ H s) (hg : Gl X x) (hm : X.mg x = none) (hv : bootBuiltins x = some u) (h : Q u s)
    (hn : x ≠ "__name__" := by decide) (hd : (x == ("__debug__" : Str)) = false := by decide) : wpAny (model X.prog X.w) X.A (eval (.Name x pos) X.env) Q E s := by
  obtain ⟨mb, h1, h2⟩ := I.mod.blt
  exact Calls.Name_function_global I.ok.kind hg (Calls.loadGlobal_builtin (by rw [I.ok.glob]; exact I.mod.glob.keeps I.bk) hm (by rw [I.ok.blt]; exact h1.keeps I.bk) ((h2 x hn).trans hv) h) hd
/-- a module's constant, a class, a function, as a value -/
theorem pe_glob {x : Str} {v : V} {u : Value} {pos : Pos} (hg : Gl X x) (hm : X.mg x = some u) (r : RelV v u) (hd : (x == ("__debug__" : Str)) = false := by decide) : PE X (.Name x pos) (tC v) :=
  fun _ _ _ H _ I h => ld_glob I hg hm ⟨v, H, I, r, h⟩ hd
theorem pe_bltn {x : Str} {v : V} {u : Value} {pos : Pos} (hg : Gl X x) (hm : X.mg x = none) (hv : bootBuiltins x = some u) (r : RelV v u) (hn : x ≠ "__name__" := by decide) (hd : (x == ("__debug__" : Str)) = false := by decide) : PE X (.Name x pos) (tC v) :=
  fun _ _ _ H _ I h => ld_blt I hg hm hv ⟨v, H, I, r, h⟩ hn hd

/-! ### arithmetic -/
/-- two ints -/
def t2I (ta tb : TE) (k : Int → Int → Hp → Prop) : St → Hp → Prop := fun σ H => ta σ H fun x H1 => tb σ H1 fun y H2 => ∃ i j, x = .int i ∧ y = .int j ∧ k i j H2
def tAdd (ta tb : TE) : TE := fun σ H Q => t2I ta tb (fun i j H2 => Q (.int (i + j)) H2) σ H
def tSub (ta tb : TE) : TE := fun σ H Q => t2I ta tb (fun i j H2 => Q (.int (i - j)) H2) σ H
/-- the left factor below 2^64 -/
def tMul (ta tb : TE) : TE := fun σ H Q => t2I ta tb (fun i j H2 => (-(2 ^ 64) < i ∧ i < 2 ^ 64) ∧ Q (.int (i * j)) H2) σ H
variable {a b : Expr} {ta tb : TE} {pos : Pos}
theorem pe_add (ha : PE X a ta) (hb : PE X b tb) : PE X (.BinOp a .Add b pos) (tAdd ta tb) := by
  intro pins s σ H Q I h
  refine wpAny_BinOp (bin ha hb I h fun v u s2 x y H2 I2 rx ry q => ?_)
  obtain ⟨i, j, rfl, rfl, q⟩ := q
  obtain ⟨t, rfl⟩ := rx
  obtain ⟨t', rfl⟩ := ry
  exact add_int ⟨.int _, H2, I2.tok _, ⟨_, rfl⟩, q⟩
theorem pe_sub (ha : PE X a ta) (hb : PE X b tb) : PE X (.BinOp a .Sub b pos) (tSub ta tb) := by
  intro pins s σ H Q I h
  refine wpAny_BinOp (bin ha hb I h fun v u s2 x y H2 I2 rx ry q => ?_)
  obtain ⟨i, j, rfl, rfl, q⟩ := q
  obtain ⟨t, rfl⟩ := rx
  obtain ⟨t', rfl⟩ := ry
  exact sub_int ⟨.int _, H2, I2.tok _, ⟨_, rfl⟩, q⟩
theorem pe_mul (ha : PE X a ta) (hb : PE X b tb) : PE X (.BinOp a .Mult b pos) (tMul ta tb) := by
  intro pins s σ H Q I h
  refine wpAny_BinOp (bin ha hb I h fun v u s2 x y H2 I2 rx ry q => ?_)
  obtain ⟨i, j, rfl, rfl, ⟨q1, q2⟩, q⟩ := q
  obtain ⟨t, rfl⟩ := rx
  obtain ⟨t', rfl⟩ := ry
  exact mul_int ⟨.int _, H2, I2.tok _, ⟨_, rfl⟩, q⟩ (.of_left (intBits_le_64 q1 q2))

/-! ### comparisons -/
def PC (X : Cx) (op : CmpOp) (a b : Expr) (t : TE) : Prop :=
  ∀ (pins : List (Addr × Obj)) (s : Shared) (σ : St) (H : Hp) (Q : VK), Inv X pins σ H s → t σ H Q →
    wpAny (model X.prog X.w) X.A (eval a X.env) (fun v s₁ => wpAny (model X.prog X.w) X.A (eval b X.env) (fun u s₂ => wpAny (model X.prog X.w) X.A (compareOp op v u) (EP X pins σ Q) X.xe s₂) X.xe s₁) X.xe s
theorem nobehind (b : Expr) {op : CmpOp} (h : op ≠ .In) (h2 : op ≠ .NotIn) : behindInMarks op b = false := by
  have e1 : (op == CmpOp.In) = false := by cases op <;> first | rfl | exact absurd rfl h
  have e2 : (op == CmpOp.NotIn) = false := by cases op <;> first | rfl | exact absurd rfl h2
  cases b <;> simp [behindInMarks, e1, e2]
def tCmp (p : Int → Int → Bool) (ta tb : TE) : TE := fun σ H Q => t2I ta tb (fun i j H2 => Q (.bl (p i j)) H2) σ H
abbrev tLt : TE → TE → TE := tCmp fun i j => decide (i < j)
abbrev tLe : TE → TE → TE := tCmp fun i j => decide (i ≤ j)
abbrev tGt : TE → TE → TE := tCmp fun i j => decide (j < i)
abbrev tGe : TE → TE → TE := tCmp fun i j => decide (j ≤ i)
abbrev tEqI : TE → TE → TE := tCmp fun i j => decide (i = j)
abbrev tNeI : TE → TE → TE := tCmp fun i j => !decide (i = j)
/-- a comparison of two ints, by its rule -/
theorem pc_int {op : CmpOp} {p : Int → Int → Bool} (ha : PE X a ta) (hb : PE X b tb)
    (rule : ∀ (i j : Int) (t u : Tok) (Q : Value → Shared → Prop) (s : Shared), Q (.bool (p i j)) s → wpAny (model X.prog X.w) X.A (compareOp op (.int i t) (.int j u)) Q X.xe s) : PC X op a b (tCmp p ta tb) := by
  intro pins s σ H Q I h
  refine bin ha hb I h fun v u s2 x y H2 I2 rx ry q => ?_
  obtain ⟨i, j, rfl, rfl, q⟩ := q
  obtain ⟨t, rfl⟩ := rx
  obtain ⟨t', rfl⟩ := ry
  exact rule i j t t' _ s2 ⟨.bl _, H2, I2, rfl, q⟩
theorem pc_lt (ha : PE X a ta) (hb : PE X b tb) : PC X .Lt a b (tLt ta tb) := pc_int ha hb fun _ _ _ _ _ _ h => lt_int h
theorem pc_le (ha : PE X a ta) (hb : PE X b tb) : PC X .LtE a b (tLe ta tb) := pc_int ha hb fun _ _ _ _ _ _ h => le_int h
theorem pc_gt (ha : PE X a ta) (hb : PE X b tb) : PC X .Gt a b (tGt ta tb) := pc_int ha hb fun _ _ _ _ _ _ h => gt_int h
theorem pc_ge (ha : PE X a ta) (hb : PE X b tb) : PC X .GtE a b (tGe ta tb) := pc_int ha hb fun _ _ _ _ _ _ h => ge_int h
theorem pc_eqI (ha : PE X a ta) (hb : PE X b tb) : PC X .Eq a b (tEqI ta tb) := pc_int ha hb fun _ _ _ _ _ _ h => eq_int (by rw [Bool.beq_eq_decide_eq]; exact h)
theorem pc_neI (ha : PE X a ta) (hb : PE X b tb) : PC X .NotEq a b (tNeI ta tb) := pc_int ha hb fun _ _ _ _ _ _ h => ne_int (by rw [bne, Bool.beq_eq_decide_eq]; exact h)
/-- is None -/
def tIsN (ta : TE) : TE := fun σ H Q => ta σ H fun x H1 => Q (.bl (decide (x = .non))) H1
def tNotN (ta : TE) : TE := fun σ H Q => ta σ H fun x H1 => Q (.bl (!decide (x = .non))) H1
theorem RelV.none_iff {x : V} {v : Value} (r : RelV x v) : (v == Value.none) = decide (x = .non) := by
  cases x with
  | non => cases r; rfl
  | bl _ => cases r; rfl
  | int _ => obtain ⟨t, rfl⟩ := r; rfl
  | str _ => obtain ⟨t, rfl⟩ := r; rfl
  | byt _ => obtain ⟨t, rfl⟩ := r; rfl
  | flt _ => obtain ⟨t, rfl⟩ := r; rfl
  | ref _ => cases r; rfl
  | ty _ => cases r; rfl
theorem pc_isN {j pos'} (ha : PE X a ta) : PC X .Is a (.Constant .none j pos') (tIsN ta) := by
  intro pins s σ H Q I h
  refine thn (ha pins s σ H _ I h) fun v s1 ⟨x, H1, I1, r1, q1⟩ => ?_
  exact Constant_none (is_none_gen ⟨.bl _, H1, I1, by rw [r1.none_iff]; rfl, q1⟩)
theorem pc_notN {j pos'} (ha : PE X a ta) : PC X .IsNot a (.Constant .none j pos') (tNotN ta) := by
  intro pins s σ H Q I h
  refine thn (ha pins s σ H _ I h) fun v s1 ⟨x, H1, I1, r1, q1⟩ => ?_
  exact Constant_none (isnot_none_gen ⟨.bl _, H1, I1, by rw [r1.none_iff]; rfl, q1⟩)
/-- a comparison as a value, as a test -/
def tB (t : TE) : TT := fun σ H Q => t σ H fun x H1 => ∃ c, x = .bl c ∧ Q c H1
theorem pe_cmp {op : CmpOp} {t : TE} (h : PC X op a b t) (h1 : behindInMarks op b = false := by first | exact nobehind _ (by decide) (by decide) | rfl) : PE X (.Compare a [op] [b] pos) t := fun pins s σ H Q I hw => wpAny_Compare1 (h pins s σ H Q I hw) h1
theorem pt_cmp {op : CmpOp} {t : TE} (h : PC X op a b t) (h1 : behindInMarks op b = false := by first | exact nobehind _ (by decide) (by decide) | rfl) : PT X (.Compare a [op] [b] pos) (tB t) := by
  intro pins s σ H Q I hw
  refine wpAny_isTrue_Compare1 (thn (h pins s σ H _ I hw) fun v s1 h1 => thn h1 fun u s2 h2 => thn h2 fun c s3 ⟨x, H1, I1, r1, q1⟩ => ?_) h1
  obtain ⟨d, rfl, q⟩ := q1
  cases r1
  exact wpAny_truthy_bool ⟨H1, I1, q⟩
/-- an expression whose value is a bool, as a test -/
theorem pt_val {e : Expr} {t : TE} (h : PE X e t) (he : ∀ whole, isTrue e X.env whole = (do let v ← whole; standAt e.pos; holding [v] (truthy v)) := by intro _; rfl) : PT X e (tB t) := by
  intro pins s σ H Q I hw
  refine isTrue_plain (thn (h pins s σ H _ I hw) fun v s1 ⟨x, H1, I1, r1, q1⟩ => ?_) (he _)
  obtain ⟨d, rfl, q⟩ := q1
  cases r1
  exact wpAny_truthy_bool ⟨H1, I1, q⟩

/-! ### and, or, not -/
variable {tA tB' : TT} {rest : List Expr}
def tAnd (t u : TT) : TT := fun σ H Q => t σ H fun c H1 => if c = true then u σ H1 Q else Q false H1
def tOr (t u : TT) : TT := fun σ H Q => t σ H fun c H1 => if c = true then Q true H1 else u σ H1 Q
def tNot (t : TT) : TT := fun σ H Q => t σ H fun c H1 => Q (!c) H1
theorem pw_and1 (ha : PT X a tA) : PW X (.BoolOp .And [a] pos) tA := by
  intro wh pins s σ H Q I h
  refine isTrue_and (thn (ha pins s σ H Q I h) fun c s1 e => ?_)
  cases c with
  | true => exact isTrue_and_nil e
  | false => exact e
theorem pw_or1 (ha : PT X a tA) : PW X (.BoolOp .Or [a] pos) tA := by
  intro wh pins s σ H Q I h
  refine isTrue_or (thn (ha pins s σ H Q I h) fun c s1 e => ?_)
  cases c with
  | false => exact isTrue_or_nil e
  | true => exact e
theorem pw_and (ha : PT X a tA) (hb : PW X (.BoolOp .And (b :: rest) pos) tB') : PW X (.BoolOp .And (a :: b :: rest) pos) (tAnd tA tB') := by
  intro wh pins s σ H Q I h
  refine isTrue_and (thn (ha pins s σ H _ I h) fun c s1 ⟨H1, I1, q1⟩ => ?_)
  cases c with
  | true => exact hb wh pins s1 σ H1 Q I1 q1
  | false => exact ⟨H1, I1, q1⟩
theorem pw_or (ha : PT X a tA) (hb : PW X (.BoolOp .Or (b :: rest) pos) tB') : PW X (.BoolOp .Or (a :: b :: rest) pos) (tOr tA tB') := by
  intro wh pins s σ H Q I h
  refine isTrue_or (thn (ha pins s σ H _ I h) fun c s1 ⟨H1, I1, q1⟩ => ?_)
  cases c with
  | true => exact ⟨H1, I1, q1⟩
  | false => exact hb wh pins s1 σ H1 Q I1 q1
theorem pt_not (ha : PT X a tA) : PT X (.UnaryOp .Not a pos) (tNot tA) := by
  intro pins s σ H Q I h
  exact isTrue_not (ha pins s σ H (fun c H1 => Q (!c) H1) I h)
/-- .. as values (bools) -/
def tAndV (ta tb : TE) : TE := fun σ H Q => ta σ H fun x H1 => ∃ c, x = .bl c ∧ if c = true then tb σ H1 Q else Q (.bl false) H1
def tOrV (ta tb : TE) : TE := fun σ H Q => ta σ H fun x H1 => ∃ c, x = .bl c ∧ if c = true then Q (.bl true) H1 else tb σ H1 Q
def tNotV (ta : TE) : TE := fun σ H Q => ta σ H fun x H1 => ∃ c, x = .bl c ∧ Q (.bl (!c)) H1
theorem pe_one {op} {t : TE} (h : PE X a t) : PE X (.BoolOp op [a] pos) t := fun pins s σ H Q I hw => BoolOp_one (h pins s σ H Q I hw)
theorem pe_and (ha : PE X a ta) (hb : PE X (.BoolOp .And (b :: rest) pos) tb) : PE X (.BoolOp .And (a :: b :: rest) pos) (tAndV ta tb) := by
  intro pins s σ H Q I h
  refine BoolOp_and (thn (ha pins s σ H _ I h) fun v s1 ⟨x, H1, I1, r1, q1⟩ => ?_)
  obtain ⟨c, rfl, q1⟩ := q1
  cases r1
  refine wpAny_truthy_bool ?_
  cases c with
  | true => exact hb pins s1 σ H1 Q I1 q1
  | false => exact ⟨.bl false, H1, I1, rfl, q1⟩
theorem pe_or (ha : PE X a ta) (hb : PE X (.BoolOp .Or (b :: rest) pos) tb) : PE X (.BoolOp .Or (a :: b :: rest) pos) (tOrV ta tb) := by
  intro pins s σ H Q I h
  refine BoolOp_or (thn (ha pins s σ H _ I h) fun v s1 ⟨x, H1, I1, r1, q1⟩ => ?_)
  obtain ⟨c, rfl, q1⟩ := q1
  cases r1
  refine wpAny_truthy_bool ?_
  cases c with
  | false => exact hb pins s1 σ H1 Q I1 q1
  | true => exact ⟨.bl true, H1, I1, rfl, q1⟩
theorem pe_not (ha : PE X a ta) : PE X (.UnaryOp .Not a pos) (tNotV ta) := by
  intro pins s σ H Q I h
  refine UnaryOp_ (thn (ha pins s σ H _ I h) fun v s1 ⟨x, H1, I1, r1, q1⟩ => ?_)
  obtain ⟨c, rfl, q1⟩ := q1
  cases r1
  exact not_of (wpAny_truthy_bool ⟨.bl (!c), H1, I1, rfl, q1⟩)
/-- a if t else b -/
def tIf (t : TT) (ta tb : TE) : TE := fun σ H Q => t σ H fun c H1 => if c = true then ta σ H1 Q else tb σ H1 Q
theorem pe_ifExp {c : Expr} (hc : PT X c tA) (ha : PE X a ta) (hb : PE X b tb) : PE X (.IfExp c a b pos) (tIf tA ta tb) := by
  intro pins s σ H Q I h
  refine wpAny_IfExp (thn (hc pins s σ H _ I h) fun d s1 ⟨H1, I1, q1⟩ => ?_)
  cases d with
  | true => exact ha pins s1 σ H1 Q I1 q1
  | false => exact hb pins s1 σ H1 Q I1 q1
end
end L2

namespace L2
open PySem PySem.Spec PyProof.Rows

/-! ### a list, a tuple that is read: tracked, frozen, or an object of the module -/
def SqL (K : PySem.W.Frag) (H : Hp) (a : Addr) (xs : List V) : Prop :=
  Rd H a (.lst xs) ∨
    ∃ (o : Obj) (its : Array Value) (n : Nat), K.lookup a = some o ∧ o.cls = .type "list" ∧ o.dict = none ∧ o.data = .seq its n ∧ its.size ≤ sizeLine ∧ Vals xs its.toList
def SqT (K : PySem.W.Frag) (H : Hp) (a : Addr) (xs : List V) : Prop :=
  Rd H a (.tup xs) ∨
    ∃ (o : Obj) (its : Array Value) (n : Nat), K.lookup a = some o ∧ o.cls = .type "tuple" ∧ o.data = .seq its n ∧ its.size ≤ sizeLine ∧ Vals xs its.toList
def absV : Value → Option V
  | .none => some .non
  | .bool b => some (.bl b)
  | .int i _ => some (.int i)
  | .str x _ => some (.str x)
  | .bytes b _ => some (.byt b)
  | .float b _ => some (.flt b)
  | .ref a => some (.ref a)
  | .type n => some (.ty n)
  | _ => none
theorem RelV.abs {x : V} {u : Value} (r : RelV x u) : absV u = some x := by
  cases x with
  | non => cases r; rfl
  | bl _ => cases r; rfl
  | int _ => obtain ⟨t, rfl⟩ := r; rfl
  | str _ => obtain ⟨t, rfl⟩ := r; rfl
  | byt _ => obtain ⟨t, rfl⟩ := r; rfl
  | flt _ => obtain ⟨t, rfl⟩ := r; rfl
  | ref _ => cases r; rfl
  | ty _ => cases r; rfl
theorem RelV.inj {x y : V} {u : Value} (r : RelV x u) (q : RelV y u) : x = y := Option.some.inj (r.abs.symm.trans q.abs)
theorem Vals.inj : ∀ {xs ys : List V} {us : List Value}, Vals xs us → Vals ys us → xs = ys
  | _, _, _, .nil, .nil => rfl
  | _, _, _, .cons r t, .cons r' t' => by rw [r.inj r', Vals.inj t t']
section
variable {X : Cx} {pins : List (Addr × Obj)} {σ : St} {H : Hp} {s : Shared} {a : Addr} {xs ys : List V}
theorem SqL.of {K : PySem.W.Frag} (h : H a = some (.lst xs)) : SqL K H a xs := .inl (.inl h)
theorem SqT.of {K : PySem.W.Frag} (h : H a = some (.tup xs)) : SqT K H a xs := .inl (.inl h)
theorem Inv.list (I : Inv X pins σ H s) (h : SqL X.K H a xs) : ∃ its : List Value, Vals xs its ∧ PlainL s.heap a its.toArray ∧ xs.length ≤ sizeLine := by
  rcases h with h | ⟨o, its, n, hk, hc, hd, hs, hz, r⟩
  · obtain ⟨z, its, n, r, e⟩ := h.ok I.hok
    exact ⟨its, r, ⟨_, n, e, rfl, rfl, rfl⟩, z⟩
  · refine ⟨its.toList, r, ⟨o, n, I.kIn a o hk, hc, hd, by simpa using hs⟩, ?_⟩
    have e := r.length
    simp only [Array.length_toList] at e
    omega
theorem Inv.tuple (I : Inv X pins σ H s) (h : SqT X.K H a xs) : ∃ its : List Value, Vals xs its ∧ IsTup s.heap a its.toArray ∧ xs.length ≤ sizeLine := by
  rcases h with h | ⟨o, its, n, hk, hc, hs, hz, r⟩
  · obtain ⟨z, its, r, p⟩ := h.ok I.hok
    exact ⟨its, r, p, z⟩
  · refine ⟨its.toList, r, ⟨o, I.kIn a o hk, hc, n, by simpa using hs⟩, ?_⟩
    have e := r.length
    simp only [Array.length_toList] at e
    omega
theorem Inv.list_inj (I : Inv X pins σ H s) (h : SqL X.K H a xs) (h' : SqL X.K H a ys) : xs = ys := by
  obtain ⟨its, r, ⟨o, n, e, _, _, d⟩, _⟩ := I.list h
  obtain ⟨its', r', ⟨o', n', e', _, _, d'⟩, _⟩ := I.list h'
  rw [e] at e'; cases e'
  rw [d] at d'
  injection d' with d1 _
  have : its = its' := by simpa using congrArg Array.toList d1
  subst this
  exact r.inj r'
theorem Inv.tuple_inj (I : Inv X pins σ H s) (h : SqT X.K H a xs) (h' : SqT X.K H a ys) : xs = ys := by
  obtain ⟨its, r, ⟨o, e, _, n, d⟩, _⟩ := I.tuple h
  obtain ⟨its', r', ⟨o', e', _, n', d'⟩, _⟩ := I.tuple h'
  rw [e] at e'; cases e'
  rw [d] at d'
  injection d' with d1 _
  have : its = its' := by simpa using congrArg Array.toList d1
  subst this
  exact r.inj r'
end

/-! ### another wish about exceptions -/
abbrev Cx.wish (X : Cx) (E : Value → Shared → Prop) : Cx := { X with xe := E }
/-- no exception leaves -/
abbrev Cx.nox (X : Cx) : Cx := X.wish fun _ _ => False
theorem Cx.Ok.wish {X : Cx} (ok : X.Ok) (E : Value → Shared → Prop) : (X.wish E).Ok :=
  ⟨ok.mod, ok.kind, ok.glob, ok.blt, ok.above, ok.inj, ok.has, ok.cab, ok.hd, ok.frames, ok.stk, ok.exf, ok.bs, ok.bsz, ok.noex, ok.exfs, ok.funs, ok.frf⟩
theorem Cx.Ok.unwish {X : Cx} {E : Value → Shared → Prop} (ok : (X.wish E).Ok) : X.Ok :=
  ⟨ok.mod, ok.kind, ok.glob, ok.blt, ok.above, ok.inj, ok.has, ok.cab, ok.hd, ok.frames, ok.stk, ok.exf, ok.bs, ok.bsz, ok.noex, ok.exfs, ok.funs, ok.frf⟩
section
variable {X : Cx} {pins : List (Addr × Obj)} {σ : St} {H : Hp} {s : Shared} {E : Value → Shared → Prop}
theorem Inv.wish (I : Inv X pins σ H s) (E : Value → Shared → Prop) : Inv (X.wish E) pins σ H s := ⟨I.ok.wish E, I.os, I.bare, I.base, I.loc, I.cell, I.free, I.freeC, I.pin, I.hok, I.len⟩
theorem Inv.unwish (I : Inv (X.wish E) pins σ H s) : Inv X pins σ H s := ⟨I.ok.unwish, I.os, I.bare, I.base, I.loc, I.cell, I.free, I.freeC, I.pin, I.hok, I.len⟩
theorem SP.unwish {D : Ends} {f : Flow} {s' : Shared} (h : SP (X.wish E) pins D f s') : SP X pins D f s' := by
  cases f with
  | next => obtain ⟨σ', H', I, q⟩ := h; exact ⟨σ', H', I.unwish, q⟩
  | brk => obtain ⟨σ', H', I, q⟩ := h; exact ⟨σ', H', I.unwish, q⟩
  | cont => obtain ⟨σ', H', I, q⟩ := h; exact ⟨σ', H', I.unwish, q⟩
  | ret u => obtain ⟨v, σ', H', I, r, q⟩ := h; exact ⟨v, σ', H', I.unwish, r, q⟩
theorem PE.nox {e : Expr} {t : TE} (h : PE X.nox e t) : PE X e t := fun pins s σ H Q I hw =>
  wpAny_mono (h pins s σ H Q (I.wish _) hw) (fun _ _ ⟨v, H', I', r, q⟩ => ⟨v, H', I'.unwish, r, q⟩) fun _ _ z => False.elim z
theorem PT.nox {e : Expr} {t : TT} (h : PT X.nox e t) : PT X e t := fun pins s σ H Q I hw =>
  wpAny_mono (h pins s σ H Q (I.wish _) hw) (fun _ _ ⟨H', I', q⟩ => ⟨H', I'.unwish, q⟩) fun _ _ z => False.elim z
theorem PSs.nox {st : List Stmt} {t : TS} (h : PSs X.nox st t) : PSs X st t := fun pins s σ H D I hw =>
  wpAny_mono (h pins s σ H D (I.wish _) hw) (fun _ _ q => q.unwish) fun _ _ z => False.elim z
end

/-! ### blocks and small statements -/
section
variable {X : Cx} {st : Stmt} {rest : List Stmt} {t u : TS} {e : Expr} {te : TE} {pos : Pos}
def tNext : TS := fun D σ H => D.nx σ H
def tSeq (t u : TS) : TS := fun D σ H => t { D with nx := u D } σ H
theorem pss_nil : PSs X [] tNext := fun _ _ σ H _ I h => wpAny_execs_nil ⟨σ, H, I, h⟩
theorem pss_cons (h1 : PS X st t) (h2 : PSs X rest u) : PSs X (st :: rest) (tSeq t u) := by
  intro pins s σ H D I h
  refine wpAny_execs_cons (thn (h1 pins s σ H { D with nx := u D } I h) fun f s1 q => ?_)
  cases f with
  | next =>
    obtain ⟨σ', H', I', q⟩ := q
    exact h2 pins s1 σ' H' D I' q
  | ret v => exact q
  | brk => exact q
  | cont => exact q
theorem pss_one (h1 : PS X st t) : PSs X [st] t := by
  intro pins s σ H D I h
  refine wpAny_execs_cons (thn (h1 pins s σ H D I h) fun f s1 q => ?_)
  cases f with
  | next => exact wpAny_execs_nil q
  | ret v => exact q
  | brk => exact q
  | cont => exact q
def tBreak : TS := fun D σ H => D.bk σ H
def tCont : TS := fun D σ H => D.ct σ H
theorem ps_pass : PS X (.Pass pos) tNext := fun _ _ σ H _ I h => wpAny_Pass ⟨σ, H, I, h⟩
theorem ps_break : PS X (.Break pos) tBreak := fun _ _ σ H _ I h => wpAny_Break ⟨σ, H, I, h⟩
theorem ps_continue : PS X (.Continue pos) tCont := fun _ _ σ H _ I h => wpAny_Continue ⟨σ, H, I, h⟩
/-- in a def's body nothing is shown -/
theorem Inv.quiet {pins : List (Addr × Obj)} {σ : St} {H : Hp} {s : Shared} (I : Inv X pins σ H s) : interactive X.env = false := by simp [interactive, I.ok.kind]
/-- a docstring -/
theorem ps_doc {x j pos pos'} : PS X (.Expr (.Constant (.str x) j pos) pos') tNext := fun _ s σ H _ I h => wpAny_Expr (Calls.Constant_str (show SP X _ _ .next { s with toks := s.toks + 1 } from ⟨σ, H, I.tok _, h⟩)) I.quiet
/-- an expression whose value is dropped -/
def tDrop (te : TE) : TS := fun D σ H => te σ H fun _ H1 => D.nx σ H1
theorem ps_expr (he : PE X e te) (hs : swapsWith e none pos.line X.env = pure false := by rfl) : PS X (.Expr e pos) (tDrop te) := by
  intro pins s σ H D I h
  exact wpAny_Expr_any (thn (he pins s σ H _ I h) fun v s1 ⟨x, H1, I1, r1, q1⟩ => ⟨σ, H1, I1, q1⟩) I.quiet hs
def tRet (te : TE) : TS := fun D σ H => te σ H D.rt
theorem ps_ret (he : PE X e te) : PS X (.Return (some e) pos) (tRet te) := by
  intro pins s σ H D I h
  exact wpAny_Return_some (thn (he pins s σ H _ I h) fun v s1 ⟨x, H1, I1, r1, q1⟩ => ⟨x, σ, H1, I1, r1, q1⟩)
def tRetN : TS := fun D _ H => D.rt .non H
theorem ps_retN : PS X (.Return none pos) tRetN := fun _ _ σ H _ I h => wpAny_Return_none ⟨.non, σ, H, I, rfl, h⟩
def tIfS (c : TT) (t u : TS) : TS := fun D σ H => c σ H fun b H1 => if b = true then t D σ H1 else u D σ H1
theorem ps_if {c : Expr} {a b : List Stmt} {tc : TT} (hc : PT X c tc) (ha : PSs X a t) (hb : PSs X b u) : PS X (.If c a b pos) (tIfS tc t u) := by
  intro pins s σ H D I h
  refine wpAny_If (thn (hc pins s σ H _ I h) fun d s1 ⟨H1, I1, q1⟩ => ?_)
  cases d with
  | true => exact ha pins s1 σ H1 D I1 q1
  | false => exact hb pins s1 σ H1 D I1 q1
/-- code that the proof never comes to -/
def tNever : TS := fun _ _ _ => False
theorem ps_never : PS X st tNever := fun _ _ _ _ _ _ h => h.elim
theorem pss_never {sts : List Stmt} : PSs X sts tNever := fun _ _ _ _ _ _ h => h.elim
end

/-! ### targets -/
abbrev TG := V → St → Hp → (St → Hp → Prop) → Prop
abbrev TGs := List V → St → Hp → (St → Hp → Prop) → Prop
def PG (X : Cx) (target : Expr) (t : TG) : Prop :=
  ∀ (pins : List (Addr × Obj)) (s : Shared) (σ : St) (H : Hp) (v : V) (u : Value) (Q : St → Hp → Prop), Inv X pins σ H s → RelV v u → t v σ H Q →
    wpAny (model X.prog X.w) X.A (assign target X.env u) (fun _ s' => ∃ σ' H', Inv X pins σ' H' s' ∧ Q σ' H') X.xe s
/-- several targets, one after another -/
def PGs (X : Cx) (ts : List Expr) (t : TGs) : Prop :=
  ∀ (pins : List (Addr × Obj)) (s : Shared) (σ : St) (H : Hp) (vs : List V) (us : List Value) (Q : St → Hp → Prop), Inv X pins σ H s → Vals vs us → t vs σ H Q →
    wpAny (model X.prog X.w) X.A (assignInOrder ((assignEach ts X.env).map (·.2)) us) (fun _ s' => ∃ σ' H', Inv X pins σ' H' s' ∧ Q σ' H') X.xe s
/-- o[i] = v, by values -/
abbrev TSet := V → V → V → Hp → (Hp → Prop) → Prop
def PSet (X : Cx) (t : TSet) : Prop :=
  ∀ (pins : List (Addr × Obj)) (s : Shared) (σ : St) (H : Hp) (o i v : V) (ov iv u : Value) (Q : Hp → Prop), Inv X pins σ H s → RelV o ov → RelV i iv → RelV v u → t o i v H Q →
    wpAny (model X.prog X.w) X.A (setItem ov iv u) (fun _ s' => ∃ H', Inv X pins σ H' s' ∧ Q H') X.xe s
/-- a op= b, by values -/
abbrev TIp := V → V → Hp → VK → Prop
def PIp (X : Cx) (op : Operator) (t : TIp) : Prop :=
  ∀ (pins : List (Addr × Obj)) (s : Shared) (σ : St) (H : Hp) (x y : V) (v u : Value) (Q : VK), Inv X pins σ H s → RelV x v → RelV y u → t x y H Q →
    wpAny (model X.prog X.w) X.A (inplaceOp op v u) (EP X pins σ Q) X.xe s
section
variable {X : Cx} {pos : Pos}
def gName (i : Nat) : TG := fun v σ H Q => Q (σ.set i (some v)) H
theorem pg_name {i : Nat} {x : Str} (hN : X.N.Nodup) (hi : X.N[i]? = some x) (hx : Loc X.env.scope x) (hf : X.fn x = true ∨ X.env.scope.names.lookup x = some .local := by first | exact .inl rfl | exact .inr rfl | assumption) : PG X (.Name x pos) (gName i) := by
  intro pins s σ H v u Q I r h
  exact wpAny_assign_Name (store_ok I hN hi hx r (fun s' I' => ⟨_, H, I', h⟩) hf)
def gNil : TGs := fun vs σ H Q => vs = [] ∧ Q σ H
def gCons (t : TG) (u : TGs) : TGs := fun vs σ H Q => ∃ v r, vs = v :: r ∧ t v σ H fun σ' H' => u r σ' H' Q
theorem pgs_nil : PGs X [] gNil := by
  intro pins s σ H vs us Q I r h
  obtain ⟨e, h⟩ := h
  subst e
  cases r
  exact assignInOrder_nil ⟨σ, H, I, h⟩
theorem pgs_cons {e : Expr} {es : List Expr} {t : TG} {u : TGs} (h1 : PG X e t) (h2 : PGs X es u)
    (hs : (assignEach (e :: es) X.env).map (·.2) = assign e X.env :: (assignEach es X.env).map (·.2) := by rfl) : PGs X (e :: es) (gCons t u) := by
  intro pins s σ H vs us Q I r h
  obtain ⟨v, vr, e1, h⟩ := h
  subst e1
  cases r with
  | cons r rr =>
    rw [hs]
    refine assignInOrder_cons (thn (h1 pins s σ H _ _ _ I r h) fun _ s1 ⟨σ1, H1, I1, q1⟩ => ?_)
    exact h2 pins s1 σ1 H1 _ _ Q I1 rr q1
/-- (a, b, ..) = a tuple of that length -/
def gTup (K : PySem.W.Frag) (n : Nat) (t : TGs) : TG := fun v σ H Q => ∃ a xs, v = .ref a ∧ SqT K H a xs ∧ xs.length = n ∧ t xs σ H Q
theorem pg_tup {es : List Expr} {k : Nat} {t : TGs} {n : Nat} (hc : X.calm = true) (h : PGs X es t)
    (hn : (assignEach es X.env).length = n := by rfl) (hst : (assignEach es X.env).findIdx? (·.1) = none := by rfl) : PG X (.Tuple es k pos) (gTup X.K n t) := by
  intro pins s σ H v u Q I r hw
  obtain ⟨a, xs, e1, hq, hl, hw⟩ := hw
  subst e1
  cases r
  obtain ⟨its, rv, ht, hz⟩ := I.tuple hq
  refine assign_Tuple_tuple (I.ok.hd hc) ht (by simp [hn, ← hl, rv.length]) hst fun h' hx => ?_
  have I1 : Inv X pins σ H { s with heap := h' } := I.kept (t' := s.toks) fun b o e => hx b o (Nat.ne_of_lt (Heap.lt_size e)) e
  exact h pins _ σ H xs _ Q I1 (by simpa using rv) hw
/-- o[i] = .. -/
def gSub (to ti : TE) (t : TSet) : TG := fun v σ H Q => to σ H fun o H1 => ti σ H1 fun i H2 => t o i v H2 fun H3 => Q σ H3
theorem pg_sub {o i : Expr} {to ti : TE} {t : TSet} (ho : PE X o to) (hi : PE X i ti) (hs : PSet X t)
    (ha : ∀ v, assign (.Subscript o i pos) X.env v = (do
      let ov ← holding [v] (eval o X.env)
      let iv ← holding [v, ov] (eval i X.env)
      standAt pos
      holding [v, ov, iv] (setItem ov iv v)
      release [v, ov, iv] []) := by intro _; rfl) : PG X (.Subscript o i pos) (gSub to ti t) := by
  intro pins s σ H v u Q I r h
  rw [ha]
  refine wpAny_bind (wpAny_holding (thn (ho pins s σ H _ I h) fun ov s1 ⟨x, H1, I1, r1, q1⟩ => ?_))
  refine wpAny_bind (wpAny_holding (thn (hi pins s1 σ H1 _ I1 q1) fun iv s2 ⟨y, H2, I2, r2, q2⟩ => ?_))
  refine wpAny_bind (wpAny_standAt (wpAny_bind (wpAny_holding (thn (hs pins s2 σ H2 x y v ov iv u _ I2 r1 r2 r q2) fun _ s3 ⟨H3, I3, q3⟩ => ?_))))
  exact wpAny_release ⟨σ, H3, I3, q3⟩
/-- target = value -/
def tAsg (te : TE) (g : TG) : TS := fun D σ H => te σ H fun x H1 => g x σ H1 D.nx
theorem ps_asg {tg e : Expr} {te : TE} {g : TG} (he : PE X e te) (hg : PG X tg g) (hs : swapsWithSole [tg] e pos.line X.env = pure false := by rfl) (hw : swappedStores [tg] e X.env = pure none := by rfl)
    (h1 : (assignEach [tg] X.env).map (·.2) = [assign tg X.env] := by rfl) : PS X (.Assign [tg] e pos) (tAsg te g) := by
  intro pins s σ H D I h
  refine wpAny_Assign_stores (thn (he pins s σ H _ I h) fun v s1 ⟨x, H1, I1, r1, q1⟩ => ?_) hs hw
  rw [h1]
  exact thn (hg pins s1 σ H1 x v _ I1 r1 q1) fun _ s2 q => q
/-- name = value -/
theorem ps_set {i : Nat} {x : Str} {e : Expr} {te : TE} {pos' : Pos} (hN : X.N.Nodup) (hi : X.N[i]? = some x) (hx : Loc X.env.scope x) (he : PE X e te) (hs : swapsWith e (some (.Name x pos')) pos.line X.env = pure false := by rfl) (hf : X.fn x = true ∨ X.env.scope.names.lookup x = some .local := by first | exact .inl rfl | exact .inr rfl | assumption) :
    PS X (.Assign [.Name x pos'] e pos) (tAsg te (gName i)) := by
  intro pins s σ H D I h
  refine wpAny_Assign_Name (thn (he pins s σ H _ I h) fun v s1 ⟨y, H1, I1, r1, q1⟩ => ?_) hs
  exact store_ok I1 hN hi hx r1 (fun s2 I2 => ⟨_, H1, I2, q1⟩) hf
/-- a, b = x, y with plain local names: stored from the right; the pair itself is not tracked (the opening rows as in PyProof/Rows/TupAssign.lean:23) -/
def tPar (i j : Nat) (ta : TA) : TS := fun D σ H => ta σ H fun vs H1 => ∃ v w, vs = [v, w] ∧ D.nx ((σ.set i (some v)).set j (some w)) H1
theorem ps_par {i j : Nat} {x y : Str} {a b : Expr} {ta : TA} {px py pt : Pos} {kt k2 pt2} (hc : X.calm = true) (hN : X.N.Nodup) (hi : X.N[i]? = some x) (hj : X.N[j]? = some y) (hij : i ≠ j)
    (hx : X.env.scope.names.lookup x = some .local) (hy : X.env.scope.names.lookup y = some .local) (ha : PA X [a, b] ta)
    (hw : swappedStores [.Tuple [.Name x px, .Name y py] kt pt] (.Tuple [a, b] k2 pt2) X.env = pure (some [x, y]))
    (hs : swapsWithSole [.Tuple [.Name x px, .Name y py] kt pt] (.Tuple [a, b] k2 pt2) pos.line X.env = pure false := by rfl) :
    PS X (.Assign [.Tuple [.Name x px, .Name y py] kt pt] (.Tuple [a, b] k2 pt2) pos) (tPar i j ta) := by
  intro pins s σ H D I h
  rw [exec_Assign_arm]
  refine wpAny_bind (wpAny_standAt ?_)
  rw [hs]
  refine wpAny_bind (wpAny_pure ?_)
  rw [if_neg (by decide)]
  refine wpAny_bind (Tuple_ (thn (ha _ pins s σ H _ I h) fun us s1 ⟨vs, H1, I1, r1, q1⟩ => ?_))
  obtain ⟨v, w, e1, q1⟩ := q1
  subst e1
  obtain ⟨u1, u2, rfl, rv, rw'⟩ : ∃ u1 u2, us = [u1, u2] ∧ RelV v u1 ∧ RelV w u2 := by
    cases r1 with
    | cons p q =>
      cases q with
      | cons p' q' =>
        cases q'
        exact ⟨_, _, rfl, p, p'⟩
  refine wpAny_newObj_type ?_ (by show 2 ≤ sizeLine; decide)
  have I2 : Inv X pins σ H1 { s1 with heap := s1.heap.push { cls := .type "tuple", data := .seq [u1, u2].toArray } } := I1.kept (t' := s1.toks) fun b o e => Heap.get?_push_of_some _ e
  rw [hw]
  refine wpAny_bind (wpAny_pure ?_)
  show wpAny (model X.prog X.w) X.A (do rule "assign.swapped-stores"; let items ← unpackItems (.ref s1.heap.objs.size) 2 none; assignInOrder [fun v => bindName X.env y v, fun v => bindName X.env x v] items.reverse; pure Flow.next) _ _ _
  refine wpAny_bind (wpAny_rule (wpAny_bind (unpackItems_tuple (items := #[u1, u2]) (I.ok.hd hc) (IsTup.new s1.heap _) fun h' hx' => ?_)))
  have I3 := I2.kept (h' := h') (t' := s1.toks) fun b o e => hx' b o (Nat.ne_of_lt (Heap.lt_size e)) e
  show wpAny _ _ (assignInOrder [fun v => bindName X.env y v, fun v => bindName X.env x v] [u2, u1] >>= fun _ => pure Flow.next) _ _ _
  refine wpAny_bind (assignInOrder_cons (wpAny_bindName (store_ok I3 hN hj (.inl hy) rw' (fun s2 I4 => ?_) (.inr hy))))
  refine assignInOrder_cons (wpAny_bindName (store_ok I4 hN hi (.inl hx) rv (fun s3 I5 => assignInOrder_nil (wpAny_pure ?_)) (.inr hx)))
  rw [List.set_comm _ _ (Ne.symm hij)] at I5
  exact ⟨_, H1, I5, q1⟩
/-- name op= e -/
def tAug (i : Nat) (te : TE) (ti : TIp) : TS := fun D σ H => ∃ x, σ[i]? = some (some x) ∧ te σ H fun y H1 => ti x y H1 fun z H2 => D.nx (σ.set i (some z)) H2
theorem ps_aug {i : Nat} {x : Str} {e : Expr} {te : TE} {op : Operator} {ti : TIp} {pos' : Pos} (hN : X.N.Nodup) (hi : X.N[i]? = some x) (hx : Loc X.env.scope x) (he : PE X e te) (ho : PIp X op ti) (hf : X.fn x = true ∨ X.env.scope.names.lookup x = some .local := by first | exact .inl rfl | exact .inr rfl | assumption) :
    PS X (.AugAssign (.Name x pos') op e pos) (tAug i te ti) := by
  intro pins s σ H D I h
  obtain ⟨v, e1, h⟩ := h
  obtain ⟨m, hn, hl⟩ := I.loc
  have vis : Vis X.env.scope x := by rcases hx with k | k; exact .inl k; exact .inr (.inl k)
  obtain ⟨u, r, l⟩ := hl i x v hi e1 vis
  refine wpAny_AugAssign_Name ?_
  have go : wpAny (model X.prog X.w) X.A (eval e X.env) (fun w s₂ => wpAny (model X.prog X.w) X.A (inplaceOp op u w) (fun r s₃ => wpAny (model X.prog X.w) X.A (storeName X.env x r) (fun _ => SP X pins D .next) X.xe s₃) X.xe s₂) X.xe s := by
    refine thn (he pins s σ H _ I h) fun w s1 ⟨y, H1, I1, r1, q1⟩ => ?_
    refine thn (ho pins s1 σ H1 v y u w _ I1 r r1 q1) fun z s2 ⟨zv, H2, I2, r2, q2⟩ => ?_
    exact store_ok I2 hN hi hx r2 (fun s3 I3 => ⟨_, H2, I3, q2⟩) hf
  rcases l with ⟨hk, hm⟩ | ⟨hk, c, hc, hcell⟩
  · exact wpAny_loadName_local I.ok.kind hk hn hm go
  · rcases hk with hk | hk
    · exact wpAny_loadName_cell I.ok.kind hk hc hcell go
    · rcases hx with k | k
      · have : X.env.scope.names.lookup x = some .free := hk
        rw [k] at this; cases this
      · have : X.env.scope.names.lookup x = some .free := hk
        rw [k] at this; cases this
/-- o[i] op= e -/
def tAugS (to ti te : TE) (tget : V → V → Hp → VK → Prop) (tip : TIp) (tset : TSet) : TS := fun D σ H => to σ H fun o H1 => ti σ H1 fun i H2 => tget o i H2 fun x H3 => te σ H3 fun y H4 => tip x y H4 fun z H5 => tset o i z H5 fun H6 => D.nx σ H6
/-- o[i], by values -/
def PGet (X : Cx) (t : V → V → Hp → VK → Prop) : Prop :=
  ∀ (pins : List (Addr × Obj)) (s : Shared) (σ : St) (H : Hp) (o i : V) (ov iv : Value) (Q : VK), Inv X pins σ H s → RelV o ov → RelV i iv → t o i H Q →
    wpAny (model X.prog X.w) X.A (getItem ov iv) (EP X pins σ Q) X.xe s
theorem ps_augS {o i e : Expr} {to ti te : TE} {tget : V → V → Hp → VK → Prop} {tip : TIp} {tset : TSet} {op : Operator} {tpos : Pos} (ho : PE X o to) (hi : PE X i ti) (hg : PGet X tget) (he : PE X e te) (hp : PIp X op tip) (hs : PSet X tset)
    (ha : ∀ ov iv new, augStore i ov iv new = (do holding [new, ov, iv] (setItem ov iv new); release [new, ov, iv] []; pure .next) := by intros; rfl) : PS X (.AugAssign (.Subscript o i tpos) op e pos) (tAugS to ti te tget tip tset) := by
  intro pins s σ H D I h
  refine wpAny_AugAssign_SubscriptAny (thn (ho pins s σ H _ I h) fun ov s1 ⟨x1, H1, I1, r1, q1⟩ => ?_) ha
  refine thn (hi pins s1 σ H1 _ I1 q1) fun iv s2 ⟨x2, H2, I2, r2, q2⟩ => ?_
  refine thn (hg pins s2 σ H2 x1 x2 ov iv _ I2 r1 r2 q2) fun old s3 ⟨x3, H3, I3, r3, q3⟩ => ?_
  refine thn (he pins s3 σ H3 _ I3 q3) fun v s4 ⟨x4, H4, I4, r4, q4⟩ => ?_
  refine thn (hp pins s4 σ H4 x3 x4 old v _ I4 r3 r4 q4) fun new s5 ⟨x5, H5, I5, r5, q5⟩ => ?_
  exact thn (hs pins s5 σ H5 x1 x2 x5 ov iv new _ I5 r1 r2 r5 q5) fun _ s6 ⟨H6, I6, q6⟩ => ⟨σ, H6, I6, q6⟩
/-- ints -/
def ipI (f : Int → Int → Int) : TIp := fun x y H Q => ∃ i j, x = .int i ∧ y = .int j ∧ Q (.int (f i j)) H
theorem ip_add : PIp X .Add (ipI fun i j => i + j) := by
  intro pins s σ H x y v u Q I r1 r2 h
  obtain ⟨i, j, e1, e2, q⟩ := h
  subst e1; subst e2
  obtain ⟨t, rfl⟩ := r1
  obtain ⟨t', rfl⟩ := r2
  exact iadd_int ⟨.int _, H, I.tok _, ⟨_, rfl⟩, q⟩
theorem ip_sub : PIp X .Sub (ipI fun i j => i - j) := by
  intro pins s σ H x y v u Q I r1 r2 h
  obtain ⟨i, j, e1, e2, q⟩ := h
  subst e1; subst e2
  obtain ⟨t, rfl⟩ := r1
  obtain ⟨t', rfl⟩ := r2
  exact isub_int ⟨.int _, H, I.tok _, ⟨_, rfl⟩, q⟩
end

/-! ### while -/
section
variable {X : Cx} {pos : Pos}
/-- the invariant W with its measure -/
def tWhile (c : TT) (tb : TS) : TS := fun D σ H => ∃ W : Nat → St → Hp → Prop, (∃ m, W m σ H) ∧ ∀ m σ H, W m σ H →
  c σ H fun b H1 => if b = true then ∃ N : St → Hp → Prop, (∀ σ' H', N σ' H' → ∃ m', m' < m ∧ W m' σ' H') ∧ tb { D with nx := N, ct := N, bk := D.nx } σ H1 else D.nx σ H1
theorem ps_while {c : Expr} {body : List Stmt} {tc : TT} {tb : TS} (hp : PassesOwn (model X.prog X.w) X.A X.env X.xe) (hc : PT X c tc) (hb : PSs X body tb) : PS X (.While c body [] pos) (tWhile tc tb) := by
  intro pins s σ H D I h
  obtain ⟨W, ⟨m0, w0⟩, turn⟩ := h
  refine wpAny_While (codeAny_whileLoop (fun n s' => ∃ σ' H', Inv X pins σ' H' s' ∧ W n σ' H') ?_ m0 ⟨σ, H, I, w0⟩)
  rintro n s1 ⟨σ1, H1, I1, w1⟩
  refine wpAny_passesOwn hp (thn (hc pins s1 σ1 H1 _ I1 (turn n σ1 H1 w1)) fun b s2 ⟨H2, I2, q2⟩ => ?_)
  cases b with
  | true =>
    obtain ⟨N, hN, q2⟩ := q2
    rw [if_pos rfl]
    refine wpAny_passesOwn hp (thn (hb pins s2 σ1 H2 _ I2 q2) fun f s3 q3 => ?_)
    cases f with
    | next =>
      obtain ⟨σ3, H3, I3, n3⟩ := q3
      obtain ⟨m', hm, w3⟩ := hN σ3 H3 n3
      exact ⟨m', hm, σ3, H3, I3, w3⟩
    | cont =>
      obtain ⟨σ3, H3, I3, n3⟩ := q3
      obtain ⟨m', hm, w3⟩ := hN σ3 H3 n3
      exact ⟨m', hm, σ3, H3, I3, w3⟩
    | brk => exact q3
    | ret v => exact q3
  | false =>
    rw [if_neg Bool.false_ne_true]
    exact wpAny_execs_nil ⟨σ1, H2, I2, q2⟩
end

/-! ### what a loop or a comprehension walks -/
/-- at turn i: it yields x (the heap may grow), or it stops -/
structure It where
  go : Nat → Hp → Prop
  yld : Nat → Hp → V → Hp → Prop
  stop : Nat → Hp → Prop
/-- the iterator's own objects may turn: they are not the frame's, not pinned, younger than the entry (or a comprehension's own) -/
def FpOk (X : Cx) (pins : List (Addr × Obj)) (H : Hp) (b : Addr) : Prop :=
  H b = none ∧ b ≠ X.env.locals ∧ b ∉ X.fs ∧ (b ∈ X.ex ∨ X.s₀.heap.objs.size ≤ b) ∧ (∀ x c, X.env.cells.lookup x = some c → c ≠ b) ∧ ∀ p ∈ X.pn ++ pins, p.1 ≠ b
theorem Inv.fpOk {X : Cx} {pins : List (Addr × Obj)} {σ : St} {H H' : Hp} {s : Shared} {b : Addr} (I : Inv X pins σ H s) (hb : s.heap.objs.size ≤ b) (hn : H' b = none) : FpOk X pins H' b := by
  refine ⟨hn, Nat.ne_of_gt (Nat.lt_of_lt_of_le I.lt hb), I.nofs hb, .inr (Nat.le_trans I.sz hb), fun x c e z => ?_, fun p hp z => ?_⟩
  · obtain ⟨v, q⟩ := I.cell x c e
    exact absurd (Nat.lt_of_lt_of_le q.lt (by rw [z]; exact hb)) (Nat.lt_irrefl _)
  · exact absurd (Nat.lt_of_lt_of_le (Heap.lt_size (I.pin p hp).1) (by rw [z]; exact hb)) (Nat.lt_irrefl _)
structure Turn (P : Program) (w : World) (K : PySem.W.Frag) (tg : Expr) (J : It) (fp : List Addr) (it : Addr) (tn : Nat → Heap → Prop) : Prop where
  mem : it ∈ fp
  obj : ∀ i h, tn i h → ∀ b ∈ fp, ∃ o, h.get? b = some o ∧ ∀ v, o.data ≠ .cell v
  keep : ∀ i h h', tn i h → (∀ b ∈ fp, ∀ o, h.get? b = some o → h'.get? b = some o) → tn i h'
  item : ∀ (X : Cx), X.prog = P → X.w = w → X.K = K → X.calm = true → ∀ (i : Nat) (pins : List (Addr × Obj)) (s : Shared) (σ : St) (H : Hp) (E : Value → Shared → Prop), Inv X pins σ H s → (∀ b ∈ fp, FpOk X pins H b) → tn i s.heap → J.go i H →
    wpAny (model P w) X.A (pyNext (.ref it)) (fun r s1 => ∃ u, r = some u ∧
      wpAny (model P w) X.A (letOwnedTupleGo tg (.ref it) u) (fun _ s2 => ∃ x H', Inv X pins σ H' s2 ∧ RelV x u ∧ J.yld i H x H' ∧ tn (i + 1) s2.heap ∧ ∀ b ∈ fp, H' b = none) E s1) E s
  done : ∀ (X : Cx), X.prog = P → X.w = w → X.K = K → X.calm = true → ∀ (i : Nat) (pins : List (Addr × Obj)) (s : Shared) (σ : St) (H : Hp) (E : Value → Shared → Prop), Inv X pins σ H s → (∀ b ∈ fp, FpOk X pins H b) → tn i s.heap → J.stop i H →
    wpAny (model P w) X.A (pyNext (.ref it)) (fun r s1 => r = none ∧ Inv X pins σ H s1) E s
  self : ∀ (A : Around) (i : Nat) (s : Shared) (Q : Value → Shared → Prop) (E : Value → Shared → Prop), tn i s.heap → Q (.ref it) s → wpAny (model P w) A (pyIter (.ref it)) Q E s
abbrev TI := St → Hp → (It → Hp → Prop) → Prop
/-- an iterator has come -/
def PIE (X : Cx) (pins : List (Addr × Obj)) (σ : St) (tg : Expr) (R : It → Hp → Prop) (itv : Value) (s2 : Shared) : Prop :=
  ∃ (it : Addr) (fp : List Addr) (tn : Nat → Heap → Prop) (J : It) (H' : Hp), itv = .ref it ∧ Inv X pins σ H' s2 ∧ Turn X.prog X.w X.K tg J fp it tn ∧ tn 0 s2.heap ∧ (∀ b ∈ fp, FpOk X pins H' b) ∧ R J H'
def PI (X : Cx) (tg iter : Expr) (wi : TI) : Prop :=
  ∀ (pins : List (Addr × Obj)) (s : Shared) (σ : St) (H : Hp) (R : It → Hp → Prop), Inv X pins σ H s → wi σ H R →
    wpAny (model X.prog X.w) X.A (eval iter X.env) (fun v s1 => wpAny (model X.prog X.w) X.A (pyIter v) (PIE X pins σ tg R) X.xe s1) X.xe s

/-- the step ahead of the store is nothing for an iterator that keeps no tuple -/
theorem go_of {M : Model} {A : Around} {E : Value → Shared → Prop} {s : Shared} {tg : Expr} {it : Addr} {u : Value} {o : Obj} {n : String} {vs : Array Value} {Q : Unit → Shared → Prop} (ho : s.heap.get? it = some o) (hc : o.cls = .type n) (hd : o.data = .fields vs)
    (hn : ["enumerate", "zip", "dict_itemiterator", "dict_reverseitemiterator", "odict_iterator", "itertools.zip_longest", "itertools.pairwise"].contains n = false) (hQ : Q () s) : wpAny M A (letOwnedTupleGo tg (.ref it) u) Q E s := by
  unfold letOwnedTupleGo
  cases tg <;> first
    | exact wpAny_pure hQ
    | (cases u <;> first
        | exact wpAny_pure hQ
        | (refine wpAny_bind (wpAny_load ho ?_)
           rw [hc, hd]
           show wpAny M A (if (["enumerate", "zip", "dict_itemiterator", "dict_reverseitemiterator", "odict_iterator", "itertools.zip_longest", "itertools.pairwise"].contains n && vs[0]? == some (rawInt _)) = true then _ else _) Q E s
           rw [if_neg (by intro h; rw [hn, Bool.false_and] at h; cases h)]
           exact wpAny_pure hQ))

/-- the list at a, as it stands at each turn (a loop may append to it) -/
def Itl (K : PySem.W.Frag) (a : Addr) : It :=
  ⟨fun i H => ∃ xs x, SqL K H a xs ∧ xs[i]? = some x, fun i H x H' => H' = H ∧ ∀ xs, SqL K H a xs → xs[i]? = some x, fun i H => ∃ xs, SqL K H a xs ∧ xs.length ≤ i⟩
def Itt (K : PySem.W.Frag) (a : Addr) : It :=
  ⟨fun i H => ∃ xs x, SqT K H a xs ∧ xs[i]? = some x, fun i H x H' => H' = H ∧ ∀ xs, SqT K H a xs → xs[i]? = some x, fun i H => ∃ xs, SqT K H a xs ∧ xs.length ≤ i⟩
/-- lo, lo + 1, .. (n of them) -/
def Itr (lo : Int) (n : Nat) : It := ⟨fun i _ => i < n, fun i H x H' => H' = H ∧ x = .int (lo + i), fun i _ => n ≤ i⟩
theorem turn_list {P : Program} {w : World} {K : PySem.W.Frag} {tg : Expr} (a it : Addr) : Turn P w K tg (Itl K a) [it] it (fun i h => h.IsListIter it a i) where
  mem := by simp
  obj := fun i h st b hb => by
    have e : b = it := by simpa using hb
    subst e
    obtain ⟨o, e, c, d⟩ := st
    exact ⟨o, e, fun v z => by rw [d] at z; cases z⟩
  keep := fun i h h' st k => st.at fun o e => k it (by simp) o e
  item := by
    intro X hP hw hK hc i pins s σ H E I hf st hg
    subst hP hw hK
    obtain ⟨xs, x, hq, hx⟩ := hg
    obtain ⟨its, rv, p, hz⟩ := I.list hq
    obtain ⟨u, hu, ru⟩ := rv.get hx
    obtain ⟨f0, f1, f2, f3, f4, f5⟩ := hf it (by simp)
    refine wpAny_pyNext_list_item st p.isList (x := u) (by simpa using hu) fun h' st' sb => ?_
    have I1 : Inv X pins σ H { s with heap := h' } := I.turned (t' := s.toks) (fun b o hb e => (sb.2 b hb).trans e) f0 f1 f3 f4 f5
    obtain ⟨o, e, c, d⟩ := id st'
    exact ⟨u, rfl, go_of (s := { s with heap := h' }) e c d (by decide) ⟨x, H, I1, ru, ⟨rfl, fun ys hy => by rw [I.list_inj hy hq]; exact hx⟩, st', fun b hb => (hf b hb).1⟩⟩
  done := by
    intro X hP hw hK hc i pins s σ H E I hf st hg
    subst hP hw hK
    obtain ⟨xs, hq, hx⟩ := hg
    obtain ⟨its, rv, p, hz⟩ := I.list hq
    obtain ⟨f0, f1, f2, f3, f4, f5⟩ := hf it (by simp)
    have hl := rv.length
    exact wpAny_pyNext_list_end (I.ok.hd hc) st p.isList (by simp; omega) fun h' eb => ⟨rfl, I.turned (t' := s.toks) (fun b o hb e => eb b o hb e) f0 f1 f3 f4 f5⟩
  self := fun _ _ _ _ _ st h => wpAny_pyIter_listiter st h
theorem turn_tuple {P : Program} {w : World} {K : PySem.W.Frag} {tg : Expr} (a it : Addr) : Turn P w K tg (Itt K a) [it] it (fun i h => h.IsTupleIter it a i) where
  mem := by simp
  obj := fun i h st b hb => by
    have e : b = it := by simpa using hb
    subst e
    obtain ⟨o, e, c, d⟩ := st
    exact ⟨o, e, fun v z => by rw [d] at z; cases z⟩
  keep := fun i h h' st k => st.at fun o e => k it (by simp) o e
  item := by
    intro X hP hw hK hc i pins s σ H E I hf st hg
    subst hP hw hK
    obtain ⟨xs, x, hq, hx⟩ := hg
    obtain ⟨its, rv, p, hz⟩ := I.tuple hq
    obtain ⟨u, hu, ru⟩ := rv.get hx
    obtain ⟨f0, f1, f2, f3, f4, f5⟩ := hf it (by simp)
    refine wpAny_pyNext_tuple_item st (show s.heap.IsTuple a its.toArray from p) (x := u) (by simpa using hu) fun h' st' sb => ?_
    have I1 : Inv X pins σ H { s with heap := h' } := I.turned (t' := s.toks) (fun b o hb e => (sb.2 b hb).trans e) f0 f1 f3 f4 f5
    obtain ⟨o, e, c, d⟩ := id st'
    exact ⟨u, rfl, go_of (s := { s with heap := h' }) e c d (by decide) ⟨x, H, I1, ru, ⟨rfl, fun ys hy => by rw [I.tuple_inj hy hq]; exact hx⟩, st', fun b hb => (hf b hb).1⟩⟩
  done := by
    intro X hP hw hK hc i pins s σ H E I hf st hg
    subst hP hw hK
    obtain ⟨xs, hq, hx⟩ := hg
    obtain ⟨its, rv, p, hz⟩ := I.tuple hq
    obtain ⟨f0, f1, f2, f3, f4, f5⟩ := hf it (by simp)
    have hl := rv.length
    exact wpAny_pyNext_tuple_end (I.ok.hd hc) st (show s.heap.IsTuple a its.toArray from p) (by simp; omega) fun h' eb => ⟨rfl, I.turned (t' := s.toks) (fun b o hb e => eb b o hb e) f0 f1 f3 f4 f5⟩
  self := fun _ _ _ _ _ st h => wpAny_pyIter_tupleiter st h
theorem turn_range {P : Program} {w : World} {K : PySem.W.Frag} {tg : Expr} (it : Addr) (lo : Int) (n : Nat) : Turn P w K tg (Itr lo n) [it] it (fun i h => IsRangeIter h it (lo + (i : Nat) * 1) ((n : Int) - (i : Nat)) 1) where
  mem := by simp
  obj := fun i h st b hb => by
    have e : b = it := by simpa using hb
    subst e
    exact ⟨_, st, fun v z => by
      have z' : Data.fields _ = Data.cell v := z
      cases z'⟩
  keep := fun i h h' st k => k it (by simp) _ st
  item := by
    intro X hP hw hK hc i pins s σ H E I hf st hg
    subst hP hw hK
    obtain ⟨f0, f1, f2, f3, f4, f5⟩ := hf it (by simp)
    have W := Walks.range (prog := X.prog) (w := X.w) (I.ok.hd hc) it lo 1 n
    refine W.item i s _ _ hg st fun v h' tk hv st' kk => ?_
    obtain ⟨t, rfl⟩ := hv
    have I1 : Inv X pins σ H { s with heap := h', toks := tk } := I.turned (fun b o hb e => kk b o (by simpa using hb) e) f0 f1 f3 f4 f5
    refine ⟨_, rfl, go_of (s := { s with heap := h', toks := tk }) (n := "range_iterator") st' rfl rfl (by decide) ⟨.int (lo + i), H, I1, ⟨t, ?_⟩, ⟨rfl, rfl⟩, st', fun b hb => (hf b hb).1⟩⟩
    rw [Int.mul_one]
  done := by
    intro X hP hw hK hc i pins s σ H E I hf st hg
    subst hP hw hK
    obtain ⟨f0, f1, f2, f3, f4, f5⟩ := hf it (by simp)
    exact wpAny_pyNext_range_end (I.ok.hd hc) st (by have : n ≤ i := hg; omega) fun h' eb => ⟨rfl, I.turned (t' := s.toks) (fun b o hb e => eb b o hb e) f0 f1 f3 f4 f5⟩
  self := fun _ _ _ _ _ st h => wpAny_pyIter_rangeiter st h
end L2

namespace L2
open PySem PySem.Spec PyProof.Rows
section
variable {X : Cx} {tg : Expr}
def iList (K : PySem.W.Frag) (tl : TE) : TI := fun σ H R => tl σ H fun x H1 => ∃ a, x = .ref a ∧ (∃ xs, SqL K H1 a xs) ∧ R (Itl K a) H1
def iTup (K : PySem.W.Frag) (tl : TE) : TI := fun σ H R => tl σ H fun x H1 => ∃ a, x = .ref a ∧ (∃ xs, SqT K H1 a xs) ∧ R (Itt K a) H1
theorem pi_list {l : Expr} {tl : TE} (hl : PE X l tl) : PI X tg l (iList X.K tl) := by
  intro pins s σ H R I h
  refine thn (hl pins s σ H _ I h) fun v s1 ⟨x, H1, I1, r1, q1⟩ => ?_
  obtain ⟨a, e, ⟨xs, hq⟩, q⟩ := q1
  subst e
  cases r1
  obtain ⟨its, rv, p, hz⟩ := I1.list hq
  refine wpAny_pyIter_list p.isList ?_
  refine ⟨s1.heap.objs.size, [s1.heap.objs.size], _, _, H1, rfl, I1.kept (t' := s1.toks) fun b o e => Heap.get?_push_of_some _ e, turn_list a _, ⟨_, Heap.get?_push_size _ rfl, rfl, rfl⟩, fun b hb => ?_, q⟩
  have e : b = s1.heap.objs.size := by simpa using hb
  subst e
  exact I1.fpOk (Nat.le_refl _) (I1.hok.fresh (Nat.le_refl _))
theorem pi_tup {l : Expr} {tl : TE} (hl : PE X l tl) : PI X tg l (iTup X.K tl) := by
  intro pins s σ H R I h
  refine thn (hl pins s σ H _ I h) fun v s1 ⟨x, H1, I1, r1, q1⟩ => ?_
  obtain ⟨a, e, ⟨xs, hq⟩, q⟩ := q1
  subst e
  cases r1
  obtain ⟨its, rv, p, hz⟩ := I1.tuple hq
  refine wpAny_pyIter_tuple (show s1.heap.IsTuple a its.toArray from p) ?_
  refine ⟨s1.heap.objs.size, [s1.heap.objs.size], _, _, H1, rfl, I1.kept (t' := s1.toks) fun b o e => Heap.get?_push_of_some _ e, turn_tuple a _, ⟨_, Heap.get?_push_size _ rfl, rfl, rfl⟩, fun b hb => ?_, q⟩
  have e : b = s1.heap.objs.size := by simpa using hb
  subst e
  exact I1.fpOk (Nat.le_refl _) (I1.hok.fresh (Nat.le_refl _))
/-- a range object just made, walked -/
theorem range_it {pins : List (Addr × Obj)} {σ : St} {H : Hp} {s : Shared} {R : It → Hp → Prop} {E : Value → Shared → Prop} {lo hi : Int} {t u v : Tok} {tk : Nat} (I : Inv X pins σ H s) (h1 : -(2 ^ 62) ≤ lo) (h2 : lo < 2 ^ 62) (h3 : -(2 ^ 62) ≤ hi) (h4 : hi < 2 ^ 62)
    (q : R (Itr lo (hi - lo).toNat) H) : wpAny (model X.prog X.w) X.A (pyIter (.ref s.heap.objs.size)) (PIE X pins σ tg R) E { s with heap := s.heap.push { cls := .type "range", data := .fields #[.int lo t, .int hi u, .int 1 v] }, toks := tk } := by
  refine wpAny_pyIter_range (IsRange.new ..) (small_one h1 h2 h3 h4) ?_
  have I1 : Inv X pins σ H { s with heap := s.heap.push { cls := .type "range", data := .fields #[.int lo t, .int hi u, .int 1 v] }, toks := tk } := I.kept fun b o e => Heap.get?_push_of_some _ e
  refine ⟨(s.heap.push { cls := .type "range", data := .fields #[.int lo t, .int hi u, .int 1 v] }).objs.size, [(s.heap.push { cls := .type "range", data := .fields #[.int lo t, .int hi u, .int 1 v] }).objs.size], _, _, H, rfl,
    I1.kept (t' := tk) fun b o e => Heap.get?_push_of_some _ e, turn_range _ lo (hi - lo).toNat, ?_, fun b hb => ?_, q⟩
  · have e1 : lo + ((0 : Nat) : Int) * 1 = lo := by simp
    have e2 : (((hi - lo).toNat : Nat) : Int) - ((0 : Nat) : Int) = Builtin.Range.rangeSize lo hi 1 := by rw [rangeSize_one]; split <;> omega
    show IsRangeIter _ _ (lo + ((0 : Nat) : Int) * 1) ((((hi - lo).toNat : Nat) : Int) - ((0 : Nat) : Int)) 1
    rw [e1, e2]
    exact Heap.get?_push_size _ rfl
  · have e : b = (s.heap.push { cls := .type "range", data := .fields #[.int lo t, .int hi u, .int 1 v] }).objs.size := by simpa using hb
    subst e
    exact I1.fpOk (Nat.le_refl _) (I1.hok.fresh (Nat.le_refl _))
def iRng1 (ta : TA) : TI := fun σ H R => ta σ H fun vs H1 => ∃ j : Int, vs = [.int j] ∧ -(2 ^ 62) ≤ j ∧ j < 2 ^ 62 ∧ R (Itr 0 j.toNat) H1
def iRng2 (ta : TA) : TI := fun σ H R => ta σ H fun vs H1 => ∃ i j : Int, vs = [.int i, .int j] ∧ (-(2 ^ 62) ≤ i ∧ i < 2 ^ 62 ∧ -(2 ^ 62) ≤ j ∧ j < 2 ^ 62) ∧ R (Itr i (j - i).toNat) H1
theorem pi_range1 {a : Expr} {ta : TA} {p pos : Pos} (hg : Gl X "range") (hm : X.mg "range" = none) (ha : PA X [a] ta) (hs : starEach [a] X.env = [(false, eval a X.env)] := by rfl) : PI X tg (.Call (.Name "range" p) [a] [] pos) (iRng1 ta) := by
  intro pins s σ H R I h
  refine Call_ (ld_blt I hg hm boot_range (PyProof.Rows.callWith_type1 (thn (ha pos pins s σ H _ I h) fun us s1 ⟨vs, H1, I1, r1, q1⟩ => ?_) hs rfl))
  obtain ⟨j, e, q1, q2, q⟩ := q1
  subst e
  cases r1 with
  | cons r rr =>
    cases rr
    obtain ⟨t, rfl⟩ := r
    exact call_range_1 (range_it I1 (by omega) (by omega) q1 q2 (by simpa using q))
theorem pi_range2 {a b : Expr} {ta : TA} {p pos : Pos} (hg : Gl X "range") (hm : X.mg "range" = none) (ha : PA X [a, b] ta) (hs : starEach [a, b] X.env = [(false, eval a X.env), (false, eval b X.env)] := by rfl) (hs2 : starEach [b] X.env = [(false, eval b X.env)] := by rfl) :
    PI X tg (.Call (.Name "range" p) [a, b] [] pos) (iRng2 ta) := by
  intro pins s σ H R I h
  refine Call_ (ld_blt I hg hm boot_range (PyProof.Rows.callWith_type1 (thn (ha pos pins s σ H _ I h) fun us s1 ⟨vs, H1, I1, r1, q1⟩ => ?_) (by rw [hs, hs2]) (by rw [hs2]; rfl)))
  obtain ⟨i, j, e, ⟨q1, q2, q3, q4⟩, q⟩ := q1
  subst e
  cases r1 with
  | cons r rr =>
    cases rr with
    | cons r' rr =>
      cases rr
      obtain ⟨t, rfl⟩ := r
      obtain ⟨t', rfl⟩ := r'
      exact call_range_2 (range_it I1 q1 q2 q3 q4 q)

/-! ### for -/
/-- W: the invariant by the turn and a measure; N: what the body is to reach -/
def tFor (wi : TI) (g : TG) (tb : TS) : TS := fun D σ H => wi σ H fun J H1 => ∃ W : Nat → Nat → St → Hp → Prop, (∃ m, W 0 m σ H1) ∧ ∀ i m σ H, W i m σ H →
  (J.stop i H ∧ D.nx σ H) ∨ (J.go i H ∧ ∃ N : St → Hp → Prop, (∀ σ' H', N σ' H' → ∃ m', m' < m ∧ W (i + 1) m' σ' H') ∧ ∀ x H', J.yld i H x H' → g x σ H' fun σ2 H2 => tb { D with nx := N, ct := N, bk := D.nx } σ2 H2)
/-- the records at fp as they stand -/
def pinsAt (fp : List Addr) (h : Heap) : List (Addr × Obj) := fp.filterMap fun b => (h.get? b).map fun o => (b, o)
theorem mem_pinsAt {fp : List Addr} {h : Heap} {b : Addr} {o : Obj} (hb : b ∈ fp) (e : h.get? b = some o) : (b, o) ∈ pinsAt fp h := List.mem_filterMap.mpr ⟨b, hb, by rw [e]; rfl⟩
theorem of_pinsAt {fp : List Addr} {h : Heap} {p : Addr × Obj} (hp : p ∈ pinsAt fp h) : p.1 ∈ fp ∧ h.get? p.1 = some p.2 := by
  obtain ⟨b, hb, e⟩ := List.mem_filterMap.mp hp
  cases q : h.get? b with
  | none => rw [q] at e; cases e
  | some o =>
    rw [q] at e
    have e' : (b, o) = p := Option.some.inj e
    subst e'
    exact ⟨hb, q⟩
theorem Inv.pinned {pins : List (Addr × Obj)} {σ : St} {H : Hp} {s : Shared} {fp : List Addr} (I : Inv X pins σ H s) (hf : ∀ b ∈ fp, FpOk X pins H b) (ho : ∀ b ∈ fp, ∃ o, s.heap.get? b = some o ∧ ∀ v, o.data ≠ .cell v) : Inv X (pins ++ pinsAt fp s.heap) σ H s :=
  I.pins_of fun p hp => (List.mem_append.mp hp).elim (fun z => I.pin p (List.mem_append_right _ z)) fun z => by
    obtain ⟨hb, e⟩ := of_pinsAt z
    obtain ⟨f0, f1, f2, _⟩ := hf p.1 hb
    obtain ⟨o, e', d⟩ := ho p.1 hb
    rw [e] at e'; cases e'
    exact ⟨e, f0, f1, f2, d⟩
theorem Inv.unpinned {pins pl : List (Addr × Obj)} {σ : St} {H : Hp} {s : Shared} (I : Inv X (pins ++ pl) σ H s) : Inv X pins σ H s := I.pins_of fun p hp => I.pin p (List.mem_append_right _ (List.mem_append_left _ hp))
theorem ps_for {iter : Expr} {body : List Stmt} {wi : TI} {g : TG} {tb : TS} {pos : Pos} (hp : PassesOwn (model X.prog X.w) X.A X.env X.xe) (hc : X.calm = true) (hi : PI X tg iter wi) (hg : PG X tg g) (hb : PSs X body tb)
    (hs : ∀ x, foldedSetIterable iter X.env x = pure x := by intro _; rfl) : PS X (.For tg iter body [] pos) (tFor wi g tb) := by
  intro pins s σ H D I h
  refine wpAny_For (thn (hi pins s σ H _ I h) fun v s1 h1 => thn h1 fun itv s2 h2 => ?_) hs
  obtain ⟨it, fp, tn, J, H2, e, I2, T, st2, f2, W, ⟨m0, w0⟩, turn⟩ := h2
  subst e
  -- what stays true of the iterator's objects through the loop
  have stat : ∀ {H' : Hp}, (∀ b ∈ fp, H' b = none) → ∀ b ∈ fp, FpOk X pins H' b := fun hn b hb => ⟨hn b hb, (f2 b hb).2⟩
  refine codeAny_forLoop_any (fun n s' => ∃ i σ' H', Inv X pins σ' H' s' ∧ tn i s'.heap ∧ (∀ b ∈ fp, H' b = none) ∧ W i n σ' H') ?_ m0 ⟨0, σ, H2, I2, st2, fun b hb => (f2 b hb).1, w0⟩
  rintro n s3 ⟨i, σ3, H3, I3, st3, fr3, w3⟩
  rcases turn i n σ3 H3 w3 with ⟨stop, qn⟩ | ⟨go, N, hN, step⟩
  · refine wpAny_passesOwn hp (thn (T.done X rfl rfl rfl hc i pins s3 σ3 H3 X.xe I3 (stat fr3) st3 stop) fun r s4 ⟨hr, I4⟩ => ?_)
    subst hr
    exact wpAny_execs_nil ⟨σ3, H3, I4, qn⟩
  · refine wpAny_passesOwn hp (thn (T.item X rfl rfl rfl hc i pins s3 σ3 H3 X.xe I3 (stat fr3) st3 go) fun r s4 ⟨u, hr, h4⟩ => ?_)
    subst hr
    refine wpAny_passesOwn hp (thn h4 fun _ s5 ⟨x, H5, I5, r5, y5, st5, fr5⟩ => ?_)
    have I5' := I5.pinned (stat fr5) (T.obj _ _ st5)
    refine wpAny_passesOwn hp (thn (hg _ s5 σ3 H5 x u _ I5' r5 (step x H5 y5)) fun _ s6 ⟨σ6, H6, I6, q6⟩ => ?_)
    refine wpAny_passesOwn hp (thn (hb _ s6 σ6 H6 _ I6 q6) fun f s7 q7 => ?_)
    have again : ∀ {σ7 : St} {H7 : Hp}, Inv X (pins ++ pinsAt fp s5.heap) σ7 H7 s7 → N σ7 H7 → ∃ m, m < n ∧ ∃ i σ' H', Inv X pins σ' H' s7 ∧ tn i s7.heap ∧ (∀ b ∈ fp, H' b = none) ∧ W i m σ' H' := fun {σ7 H7} I7 n7 => by
      obtain ⟨m', hm, w7⟩ := hN σ7 H7 n7
      refine ⟨m', hm, i + 1, σ7, H7, I7.unpinned, T.keep _ _ _ st5 fun b hb o e => (I7.pin (b, o) (List.mem_append_right _ (List.mem_append_right _ (mem_pinsAt hb e)))).1, fun b hb => ?_, w7⟩
      obtain ⟨o, e, d⟩ := T.obj _ _ st5 b hb
      exact (I7.pin (b, o) (List.mem_append_right _ (List.mem_append_right _ (mem_pinsAt hb e)))).2.1
    cases f with
    | next => obtain ⟨σ7, H7, I7, n7⟩ := q7; exact again I7 n7
    | cont => obtain ⟨σ7, H7, I7, n7⟩ := q7; exact again I7 n7
    | brk => obtain ⟨σ7, H7, I7, q7⟩ := q7; exact ⟨σ7, H7, I7.unpinned, q7⟩
    | ret v => obtain ⟨x7, σ7, H7, I7, r7, q7⟩ := q7; exact ⟨x7, σ7, H7, I7.unpinned, r7, q7⟩
end

/-! ### the forms one uses -/
/-- over a list that the body leaves as it is -/
theorem for_list {K : PySem.W.Frag} {a : Addr} {xs : List V} {g : TG} {tb : TS} {D : Ends} {σ : St} {H : Hp} (Pv : Nat → St → Hp → Prop) (h0 : Pv 0 σ H) (hl : ∀ i σ H, i ≤ xs.length → Pv i σ H → SqL K H a xs)
    (hs : ∀ i x σ H, xs[i]? = some x → Pv i σ H → g x σ H fun σ2 H2 => tb { D with nx := Pv (i + 1), ct := Pv (i + 1), bk := D.nx } σ2 H2) (hd : ∀ σ H, Pv xs.length σ H → D.nx σ H) :
    ∃ W : Nat → Nat → St → Hp → Prop, (∃ m, W 0 m σ H) ∧ ∀ i m σ H, W i m σ H →
      ((Itl K a).stop i H ∧ D.nx σ H) ∨ ((Itl K a).go i H ∧ ∃ N : St → Hp → Prop, (∀ σ' H', N σ' H' → ∃ m', m' < m ∧ W (i + 1) m' σ' H') ∧ ∀ x H', (Itl K a).yld i H x H' → g x σ H' fun σ2 H2 => tb { D with nx := N, ct := N, bk := D.nx } σ2 H2) := by
  refine ⟨fun i m σ H => m = xs.length - i ∧ i ≤ xs.length ∧ Pv i σ H, ⟨xs.length, by simp, Nat.zero_le _, h0⟩, ?_⟩
  rintro i m σ H ⟨rfl, hi, p⟩
  have q := hl i σ H hi p
  by_cases hlt : i < xs.length
  · refine .inr ⟨⟨xs, xs[i], q, by simp [hlt]⟩, Pv (i + 1), fun σ' H' p' => ⟨xs.length - (i + 1), by omega, rfl, hlt, p'⟩, fun x H' y => ?_⟩
    obtain ⟨e, y⟩ := y
    subst e
    exact hs i x σ _ (y xs q) p
  · have e : i = xs.length := by omega
    subst e
    exact .inl ⟨⟨xs, q, Nat.le_refl _⟩, hd σ H p⟩
theorem for_tup {K : PySem.W.Frag} {a : Addr} {xs : List V} {g : TG} {tb : TS} {D : Ends} {σ : St} {H : Hp} (Pv : Nat → St → Hp → Prop) (h0 : Pv 0 σ H) (hl : ∀ i σ H, i ≤ xs.length → Pv i σ H → SqT K H a xs)
    (hs : ∀ i x σ H, xs[i]? = some x → Pv i σ H → g x σ H fun σ2 H2 => tb { D with nx := Pv (i + 1), ct := Pv (i + 1), bk := D.nx } σ2 H2) (hd : ∀ σ H, Pv xs.length σ H → D.nx σ H) :
    ∃ W : Nat → Nat → St → Hp → Prop, (∃ m, W 0 m σ H) ∧ ∀ i m σ H, W i m σ H →
      ((Itt K a).stop i H ∧ D.nx σ H) ∨ ((Itt K a).go i H ∧ ∃ N : St → Hp → Prop, (∀ σ' H', N σ' H' → ∃ m', m' < m ∧ W (i + 1) m' σ' H') ∧ ∀ x H', (Itt K a).yld i H x H' → g x σ H' fun σ2 H2 => tb { D with nx := N, ct := N, bk := D.nx } σ2 H2) := by
  refine ⟨fun i m σ H => m = xs.length - i ∧ i ≤ xs.length ∧ Pv i σ H, ⟨xs.length, by simp, Nat.zero_le _, h0⟩, ?_⟩
  rintro i m σ H ⟨rfl, hi, p⟩
  have q := hl i σ H hi p
  by_cases hlt : i < xs.length
  · refine .inr ⟨⟨xs, xs[i], q, by simp [hlt]⟩, Pv (i + 1), fun σ' H' p' => ⟨xs.length - (i + 1), by omega, rfl, hlt, p'⟩, fun x H' y => ?_⟩
    obtain ⟨e, y⟩ := y
    subst e
    exact hs i x σ _ (y xs q) p
  · have e : i = xs.length := by omega
    subst e
    exact .inl ⟨⟨xs, q, Nat.le_refl _⟩, hd σ H p⟩
theorem for_range {lo : Int} {n : Nat} {g : TG} {tb : TS} {D : Ends} {σ : St} {H : Hp} (Pv : Nat → St → Hp → Prop) (h0 : Pv 0 σ H)
    (hs : ∀ i σ H, i < n → Pv i σ H → g (.int (lo + i)) σ H fun σ2 H2 => tb { D with nx := Pv (i + 1), ct := Pv (i + 1), bk := D.nx } σ2 H2) (hd : ∀ σ H, Pv n σ H → D.nx σ H) :
    ∃ W : Nat → Nat → St → Hp → Prop, (∃ m, W 0 m σ H) ∧ ∀ i m σ H, W i m σ H →
      ((Itr lo n).stop i H ∧ D.nx σ H) ∨ ((Itr lo n).go i H ∧ ∃ N : St → Hp → Prop, (∀ σ' H', N σ' H' → ∃ m', m' < m ∧ W (i + 1) m' σ' H') ∧ ∀ x H', (Itr lo n).yld i H x H' → g x σ H' fun σ2 H2 => tb { D with nx := N, ct := N, bk := D.nx } σ2 H2) := by
  refine ⟨fun i m σ H => m = n - i ∧ i ≤ n ∧ Pv i σ H, ⟨n, by simp, Nat.zero_le _, h0⟩, ?_⟩
  rintro i m σ H ⟨rfl, hi, p⟩
  by_cases hlt : i < n
  · refine .inr ⟨hlt, Pv (i + 1), fun σ' H' p' => ⟨n - (i + 1), by omega, rfl, hlt, p'⟩, fun x H' y => ?_⟩
    obtain ⟨e, y⟩ := y
    subst e y
    exact hs i σ _ hlt p
  · have e : i = n := by omega
    subst e
    exact .inl ⟨Nat.le_refl _, hd σ H p⟩
/-- while, by a word and a measure of the state -/
theorem while_by {c : TT} {tb : TS} {D : Ends} {σ : St} {H : Hp} (Pv : St → Hp → Prop) (μ : St → Hp → Nat) (h0 : Pv σ H)
    (hs : ∀ σ H, Pv σ H → c σ H fun b H1 => if b = true then tb { D with nx := fun σ' H' => Pv σ' H' ∧ μ σ' H' < μ σ H, ct := fun σ' H' => Pv σ' H' ∧ μ σ' H' < μ σ H, bk := D.nx } σ H1 else D.nx σ H1)
    (mono : ∀ σ H Q Q', (∀ b H1, Q b H1 → Q' b H1) → c σ H Q → c σ H Q') : tWhile c tb D σ H := by
  refine ⟨fun m σ H => m = μ σ H ∧ Pv σ H, ⟨_, rfl, h0⟩, ?_⟩
  rintro m σ H ⟨rfl, p⟩
  refine mono σ H _ _ (fun b H1 q => ?_) (hs σ H p)
  cases b with
  | true => exact ⟨_, fun σ' H' ⟨p', l⟩ => ⟨_, l, rfl, p'⟩, q⟩
  | false => exact q
end L2

namespace L2
open PySem PySem.Spec PyProof.Rows

abbrev R2 := V → V → Hp → VK → Prop
/-- a two-place operation on values: f is binaryOp op, inplaceOp op or compareOp op -/
def OpR (X : Cx) (f : Value → Value → Sem Value) (r : R2) : Prop :=
  ∀ (pins : List (Addr × Obj)) (s : Shared) (σ : St) (H : Hp) (x y : V) (v u : Value) (Q : VK), Inv X pins σ H s → RelV x v → RelV y u → r x y H Q →
    wpAny (model X.prog X.w) X.A (f v u) (EP X pins σ Q) X.xe s
/-- a one-place operation -/
def UnR (X : Cx) (f : Value → Sem Value) (r : V → Hp → VK → Prop) : Prop :=
  ∀ (pins : List (Addr × Obj)) (s : Shared) (σ : St) (H : Hp) (x : V) (v : Value) (Q : VK), Inv X pins σ H s → RelV x v → r x H Q →
    wpAny (model X.prog X.w) X.A (f v) (EP X pins σ Q) X.xe s
/-- a call of a value that is known (a builtin, a type) with values -/
def CallR (X : Cx) (f : Value) (r : List V → Hp → VK → Prop) : Prop :=
  ∀ (pins : List (Addr × Obj)) (s : Shared) (σ : St) (H : Hp) (xs : List V) (us : List Value) (Q : VK), Inv X pins σ H s → Vals xs us → r xs H Q →
    wpAny (model X.prog X.w) X.A (call f us) (EP X pins σ Q) X.xe s
/-- a value's truth -/
def TruR (X : Cx) (r : V → Hp → (Bool → Hp → Prop) → Prop) : Prop :=
  ∀ (pins : List (Addr × Obj)) (s : Shared) (σ : St) (H : Hp) (x : V) (v : Value) (Q : Bool → Hp → Prop), Inv X pins σ H s → RelV x v → r x H Q →
    wpAny (model X.prog X.w) X.A (truthy v) (TP X pins σ Q) X.xe s

def tOp (r : R2) (ta tb : TE) : TE := fun σ H Q => ta σ H fun x H1 => tb σ H1 fun y H2 => r x y H2 Q
def tUn (r : V → Hp → VK → Prop) (ta : TE) : TE := fun σ H Q => ta σ H fun x H1 => r x H1 Q
/-- ints in, under C, and a value out -/
def rI (C : Int → Int → Prop) (g : Int → Int → V) : R2 := fun x y H Q => ∃ i j, x = .int i ∧ y = .int j ∧ C i j ∧ Q (g i j) H
def rI0 (g : Int → Int → V) : R2 := fun x y H Q => ∃ i j, x = .int i ∧ y = .int j ∧ Q (g i j) H
def rU (g : Int → V) : V → Hp → VK → Prop := fun x H Q => ∃ i, x = .int i ∧ Q (g i) H

section
variable {X : Cx} {a b c : Expr} {ta tb tc : TE} {pos : Pos}

theorem binT (ha : PE X a ta) (hb : PE X b tb) {pins : List (Addr × Obj)} {s : Shared} {σ : St} {H : Hp} {R : V → V → Hp → Prop} (I : Inv X pins σ H s)
    (h : ta σ H fun x H1 => tb σ H1 fun y H2 => R x y H2) {Q : Value → Shared → Prop} {f : Value → Value → Sem Value}
    (hf : ∀ v u s2 x y H2, Inv X pins σ H2 s2 → RelV x v → RelV y u → R x y H2 → wpAny (model X.prog X.w) X.A (f v u) Q X.xe s2) :
    wpAny (model X.prog X.w) X.A (eval a X.env) (fun v s₁ => wpAny (model X.prog X.w) X.A (eval b X.env) (fun u s₂ => wpAny (model X.prog X.w) X.A (f v u) Q X.xe s₂) X.xe s₁) X.xe s := by
  refine thn (ha pins s σ H _ I h) fun v s1 ⟨x, H1, I1, r1, q1⟩ => ?_
  refine thn (hb pins s1 σ H1 _ I1 q1) fun u s2 ⟨y, H2, I2, r2, q2⟩ => ?_
  exact hf v u s2 x y H2 I2 r1 r2 q2

theorem pe_op {op : Operator} {r : R2} (ho : OpR X (binaryOp op) r) (ha : PE X a ta) (hb : PE X b tb) : PE X (.BinOp a op b pos) (tOp r ta tb) := by
  intro pins s σ H Q I h
  exact wpAny_BinOp (binT ha hb I h fun v u s2 x y H2 I2 rx ry q => ho pins s2 σ H2 x y v u Q I2 rx ry q)
theorem pe_un {op : UnaryOp} {r : V → Hp → VK → Prop} (ho : UnR X (unaryOp op) r) (ha : PE X a ta) : PE X (.UnaryOp op a pos) (tUn r ta) := by
  intro pins s σ H Q I h
  exact UnaryOp_ (thn (ha pins s σ H _ I h) fun v s1 ⟨x, H1, I1, r1, q1⟩ => ho pins s1 σ H1 x v Q I1 r1 q1)
/-- a op= e at a name: the name's slot i -/
theorem augR {op : Operator} {r : R2} (ho : OpR X (inplaceOp op) r) {pins : List (Addr × Obj)} {s : Shared} {σ : St} {H : Hp} {x y : V} {v u : Value} {Q : VK} (I : Inv X pins σ H s)
    (rx : RelV x v) (ry : RelV y u) (q : r x y H Q) : wpAny (model X.prog X.w) X.A (inplaceOp op v u) (EP X pins σ Q) X.xe s := ho pins s σ H x y v u Q I rx ry q

/-! ### ints -/
theorem opI {f : Value → Value → Sem Value} {C : Int → Int → Prop} {g : Int → Int → Int}
    (rule : ∀ (i j : Int) (t u : Tok) (s : Shared) (Q : Value → Shared → Prop) (E : Value → Shared → Prop), C i j → Q (.int (g i j) s.toks) { s with toks := s.toks + 1 } → wpAny (model X.prog X.w) X.A (f (.int i t) (.int j u)) Q E s) :
    OpR X f (rI C fun i j => .int (g i j)) := by
  intro pins s σ H x y v u Q I rx ry h
  obtain ⟨i, j, rfl, rfl, hc, q⟩ := h
  obtain ⟨t, rfl⟩ := rx
  obtain ⟨t', rfl⟩ := ry
  exact rule i j t t' s _ _ hc ⟨.int (g i j), H, I.tok _, ⟨_, rfl⟩, q⟩
theorem opI0 {f : Value → Value → Sem Value} {g : Int → Int → Int}
    (rule : ∀ (i j : Int) (t u : Tok) (s : Shared) (Q : Value → Shared → Prop) (E : Value → Shared → Prop), Q (.int (g i j) s.toks) { s with toks := s.toks + 1 } → wpAny (model X.prog X.w) X.A (f (.int i t) (.int j u)) Q E s) :
    OpR X f (rI0 fun i j => .int (g i j)) := by
  intro pins s σ H x y v u Q I rx ry h
  obtain ⟨i, j, rfl, rfl, q⟩ := h
  obtain ⟨t, rfl⟩ := rx
  obtain ⟨t', rfl⟩ := ry
  exact rule i j t t' s _ _ ⟨.int (g i j), H, I.tok _, ⟨_, rfl⟩, q⟩
theorem opB0 {f : Value → Value → Sem Value} {g : Int → Int → Bool}
    (rule : ∀ (i j : Int) (t u : Tok) (s : Shared) (Q : Value → Shared → Prop) (E : Value → Shared → Prop), Q (.bool (g i j)) s → wpAny (model X.prog X.w) X.A (f (.int i t) (.int j u)) Q E s) :
    OpR X f (rI0 fun i j => .bl (g i j)) := by
  intro pins s σ H x y v u Q I rx ry h
  obtain ⟨i, j, rfl, rfl, q⟩ := h
  obtain ⟨t, rfl⟩ := rx
  obtain ⟨t', rfl⟩ := ry
  exact rule i j t t' s _ _ ⟨.bl (g i j), H, I, rfl, q⟩

def CDiv (i j : Int) : Prop := 0 < j ∧ j < 1073741824
def CDivN (i j : Int) : Prop := j ≠ 0 ∧ j.natAbs < 1073741824
def CPow (i j : Int) : Prop := 0 ≤ j ∧ j ≤ 1000000 ∧ i.natAbs < 2 ^ 64
def CMul (i j : Int) : Prop := (-(2 ^ 64) < i ∧ i < 2 ^ 64) ∨ (-(2 ^ 64) < j ∧ j < 2 ^ 64)
theorem CMul.ok {i j : Int} (h : CMul i j) : IntMulOk i j := by
  rcases h with ⟨h1, h2⟩ | ⟨h1, h2⟩
  · exact .of_left (intBits_le_64 h1 h2)
  · exact .of_right (intBits_le_64 h1 h2)
theorem two_pow_nn (k : Nat) : (0 : Int) ≤ 2 ^ k := by
  rw [two_pow_cast]
  exact Int.natCast_nonneg _

theorem op_add : OpR X (binaryOp .Add) (rI0 fun i j => .int (i + j)) := opI0 fun _ _ _ _ _ _ _ q => add_int q
theorem op_sub : OpR X (binaryOp .Sub) (rI0 fun i j => .int (i - j)) := opI0 fun _ _ _ _ _ _ _ q => sub_int q
theorem op_mul : OpR X (binaryOp .Mult) (rI CMul fun i j => .int (i * j)) := opI fun _ _ _ _ _ _ _ hc q => mul_int q hc.ok
/-- // by a positive divisor -/
theorem op_fdiv : OpR X (binaryOp .FloorDiv) (rI CDiv fun i j => .int (i / j)) := opI fun i j _ _ _ _ _ hc q => by
  have h1 : (0 : Int) < j := hc.1
  have h2 : j < 1073741824 := hc.2
  exact floordiv_int (by omega) (by rw [Int.fdiv_eq_ediv_of_nonneg i (by omega)]; exact q) (.inl (PyProof.noPylong_small (by omega)))
theorem op_fdivN : OpR X (binaryOp .FloorDiv) (rI CDivN fun i j => .int (i.fdiv j)) := opI fun _ _ _ _ _ _ _ hc q => floordiv_int hc.1 q (.inl (PyProof.noPylong_small hc.2))
/-- % by a positive divisor of any size -/
theorem op_mod : OpR X (binaryOp .Mod) (rI (fun _ j => 0 < j) fun i j => .int (i % j)) := opI fun i j _ _ _ _ _ hc q => by
  have h1 : (0 : Int) < j := hc
  exact mod_int' (by omega) (by rw [Int.fmod_eq_emod_of_nonneg i (by omega)]; exact q)
theorem op_modN : OpR X (binaryOp .Mod) (rI (fun _ j => j ≠ 0) fun i j => .int (i.fmod j)) := opI fun _ _ _ _ _ _ _ hc q => mod_int' hc q
theorem op_pow : OpR X (binaryOp .Pow) (rI CPow fun i j => .int (i ^ j.toNat)) := opI fun _ _ _ _ _ _ _ hc q => pow_int_small hc.1 hc.2.1 hc.2.2 q
theorem op_shl : OpR X (binaryOp .LShift) (rI CPow fun i j => .int (i * 2 ^ j.toNat)) := opI fun _ _ _ _ _ _ _ hc q => lshift_int_small hc.1 hc.2.1 hc.2.2 q
theorem op_shr : OpR X (binaryOp .RShift) (rI (fun _ j => 0 ≤ j) fun i j => .int (i / 2 ^ j.toNat)) := opI fun i j _ _ _ _ _ hc q =>
  rshift_int hc (by rw [Int.fdiv_eq_ediv_of_nonneg i (two_pow_nn _)]; exact q)
theorem op_and : OpR X (binaryOp .BitAnd) (rI0 fun i j => .int (Builtin.bitAnd i j)) := opI0 fun _ _ _ _ _ _ _ q => and_int q
theorem op_or : OpR X (binaryOp .BitOr) (rI0 fun i j => .int (Builtin.bitOr i j)) := opI0 fun _ _ _ _ _ _ _ q => or_int q
theorem op_xor : OpR X (binaryOp .BitXor) (rI0 fun i j => .int (Builtin.bitXor i j)) := opI0 fun _ _ _ _ _ _ _ q => xor_int q

theorem iop_add : OpR X (inplaceOp .Add) (rI0 fun i j => .int (i + j)) := opI0 fun _ _ _ _ _ _ _ q => iadd_int q
theorem iop_sub : OpR X (inplaceOp .Sub) (rI0 fun i j => .int (i - j)) := opI0 fun _ _ _ _ _ _ _ q => isub_int q
theorem iop_mul : OpR X (inplaceOp .Mult) (rI CMul fun i j => .int (i * j)) := opI fun _ _ _ _ _ _ _ hc q => imul_int q hc.ok
theorem iop_fdiv : OpR X (inplaceOp .FloorDiv) (rI CDiv fun i j => .int (i / j)) := opI fun i j _ _ _ _ _ hc q => by
  have h1 : (0 : Int) < j := hc.1
  have h2 : j < 1073741824 := hc.2
  exact ifloordiv_int (by omega) (by rw [Int.fdiv_eq_ediv_of_nonneg i (by omega)]; exact q) (.inl (PyProof.noPylong_small (by omega)))
theorem iop_mod : OpR X (inplaceOp .Mod) (rI (fun _ j => 0 < j) fun i j => .int (i % j)) := opI fun i j _ _ _ _ _ hc q => by
  have h1 : (0 : Int) < j := hc
  exact imod_int (by omega) (by rw [Int.fmod_eq_emod_of_nonneg i (by omega)]; exact q)
theorem iop_shl : OpR X (inplaceOp .LShift) (rI CPow fun i j => .int (i * 2 ^ j.toNat)) := opI fun _ _ _ _ _ _ _ hc q => ilshift_int_small hc.1 hc.2.1 hc.2.2 q
theorem iop_shr : OpR X (inplaceOp .RShift) (rI (fun _ j => 0 ≤ j) fun i j => .int (i / 2 ^ j.toNat)) := opI fun i j _ _ _ _ _ hc q =>
  irshift_int hc (by rw [Int.fdiv_eq_ediv_of_nonneg i (two_pow_nn _)]; exact q)
theorem iop_and : OpR X (inplaceOp .BitAnd) (rI0 fun i j => .int (Builtin.bitAnd i j)) := opI0 fun _ _ _ _ _ _ _ q => iand_int q
theorem iop_or : OpR X (inplaceOp .BitOr) (rI0 fun i j => .int (Builtin.bitOr i j)) := opI0 fun _ _ _ _ _ _ _ q => ior_int q
theorem iop_xor : OpR X (inplaceOp .BitXor) (rI0 fun i j => .int (Builtin.bitXor i j)) := opI0 fun _ _ _ _ _ _ _ q => ixor_int q

theorem unI {f : Value → Sem Value} {g : Int → Int}
    (rule : ∀ (i : Int) (t : Tok) (s : Shared) (Q : Value → Shared → Prop) (E : Value → Shared → Prop), Q (.int (g i) s.toks) { s with toks := s.toks + 1 } → wpAny (model X.prog X.w) X.A (f (.int i t)) Q E s) :
    UnR X f (rU fun i => .int (g i)) := by
  intro pins s σ H x v Q I rx h
  obtain ⟨i, rfl, q⟩ := h
  obtain ⟨t, rfl⟩ := rx
  exact rule i t s _ _ ⟨.int (g i), H, I.tok _, ⟨_, rfl⟩, q⟩
theorem un_neg : UnR X (unaryOp .USub) (rU fun i => .int (-i)) := unI fun _ _ _ _ _ q => neg_int q
theorem un_inv : UnR X (unaryOp .Invert) (rU fun i => .int (Builtin.bitNot i)) := unI fun _ _ _ _ _ q => invert_int q

/-! ### bools among ints: n += (a < b) -/
theorem op_add_ib : OpR X (binaryOp .Add) (fun x y H Q => ∃ i k, x = .int i ∧ y = .bl k ∧ Q (.int (i + b2i k)) H) := by
  intro pins s σ H x y v u Q I rx ry h
  obtain ⟨i, k, rfl, rfl, q⟩ := h
  obtain ⟨t, rfl⟩ := rx
  cases ry
  exact add_int_bool ⟨.int (i + b2i k), H, I.tok _, ⟨_, rfl⟩, q⟩
end

/-! ### comparisons -/
/-- the scalars that == tells apart as data does -/
def scal : V → V → Bool
  | .non, .non => true | .non, .int _ => true | .int _, .non => true | .non, .bl _ => true | .bl _, .non => true | .non, .str _ => true | .str _, .non => true
  | .int _, .int _ => true | .bl _, .bl _ => true | .str _, .str _ => true | .byt _, .byt _ => true
  | .int _, .str _ => true | .str _, .int _ => true | .bl _, .str _ => true | .str _, .bl _ => true
  | _, _ => false
def rEq : R2 := fun x y H Q => scal x y = true ∧ Q (.bl (decide (x = y))) H
def rNe : R2 := fun x y H Q => scal x y = true ∧ Q (.bl (!decide (x = y))) H

theorem dec_int {i j : Int} : decide (V.int i = V.int j) = (i == j) := by
  rw [Bool.eq_iff_iff]
  simp
theorem dec_bl {i j : Bool} : decide (V.bl i = V.bl j) = (i == j) := by
  rw [Bool.eq_iff_iff]
  simp
theorem dec_str {i j : Str} : decide (V.str i = V.str j) = (i == j) := by
  rw [Bool.eq_iff_iff]
  simp
theorem dec_byt {i j : Array UInt8} : decide (V.byt i = V.byt j) = (i.toList == j.toList) := by
  rw [Bool.eq_iff_iff]
  cases i
  cases j
  simp

section
variable {X : Cx} {a b c : Expr} {ta tb tc : TE} {pos : Pos}
theorem fin_bl {pins : List (Addr × Obj)} {σ : St} {H : Hp} {s : Shared} {Q : VK} {k k' : Bool} (I : Inv X pins σ H s) (q : Q (.bl k) H) (e : k = k') : EP X pins σ Q (.bool k') s := by
  subst e
  exact ⟨.bl k, H, I, rfl, q⟩
theorem op_eq : OpR X (compareOp .Eq) rEq := by
  intro pins s σ H x y v u Q I rx ry h
  obtain ⟨hs, q⟩ := h
  cases x with
  | non =>
    cases rx
    cases y with
    | non => cases ry; exact PySem.EqNone.eq_none_none (fin_bl I q (by simp))
    | bl j => cases ry; exact PySem.EqNone.eq_none_bool (fin_bl I q (by simp))
    | int j => obtain ⟨t', rfl⟩ := ry; exact PySem.EqNone.eq_none_int (fin_bl I q (by simp))
    | str j => obtain ⟨t', rfl⟩ := ry; exact PySem.EqNone.eq_none_str (fin_bl I q (by simp))
    | _ => exact absurd (show false = true from hs) Bool.false_ne_true
  | bl i =>
    cases rx
    cases y with
    | non => cases ry; exact PySem.EqNone.eq_bool_none (fin_bl I q (by simp))
    | bl j => cases ry; exact eq_bool (fin_bl I q dec_bl)
    | str j => obtain ⟨t', rfl⟩ := ry; exact PySem.EqMixed.eq_bool_str (fin_bl I q (by simp))
    | _ => exact absurd (show false = true from hs) Bool.false_ne_true
  | int i =>
    obtain ⟨t, rfl⟩ := rx
    cases y with
    | non => cases ry; exact PySem.EqNone.eq_int_none (fin_bl I q (by simp))
    | int j => obtain ⟨t', rfl⟩ := ry; exact eq_int (fin_bl I q dec_int)
    | str j => obtain ⟨t', rfl⟩ := ry; exact PySem.EqMixed.eq_int_str (fin_bl I q (by simp))
    | _ => exact absurd (show false = true from hs) Bool.false_ne_true
  | str i =>
    obtain ⟨t, rfl⟩ := rx
    cases y with
    | non => cases ry; exact PySem.EqNone.eq_str_none (fin_bl I q (by simp))
    | bl j => cases ry; exact PySem.EqMixed.eq_str_bool (fin_bl I q (by simp))
    | int j => obtain ⟨t', rfl⟩ := ry; exact PySem.EqMixed.eq_str_int (fin_bl I q (by simp))
    | str j => obtain ⟨t', rfl⟩ := ry; exact eq_str (fin_bl I q dec_str)
    | _ => exact absurd (show false = true from hs) Bool.false_ne_true
  | byt i =>
    obtain ⟨t, rfl⟩ := rx
    cases y with
    | byt j => obtain ⟨t', rfl⟩ := ry; exact PySem.W.eq_bytes (fin_bl I q dec_byt)
    | _ => exact absurd (show false = true from hs) Bool.false_ne_true
  | _ => cases y <;> exact absurd (show false = true from hs) Bool.false_ne_true
theorem op_ne : OpR X (compareOp .NotEq) rNe := by
  intro pins s σ H x y v u Q I rx ry h
  obtain ⟨hs, q⟩ := h
  cases x with
  | non =>
    cases rx
    cases y with
    | non => cases ry; exact PySem.EqNone.ne_none_none (fin_bl I q (by simp))
    | bl j => cases ry; exact PySem.EqNone.ne_none_bool (fin_bl I q (by simp))
    | int j => obtain ⟨t', rfl⟩ := ry; exact PySem.EqNone.ne_none_int (fin_bl I q (by simp))
    | str j => obtain ⟨t', rfl⟩ := ry; exact PySem.EqNone.ne_none_str (fin_bl I q (by simp))
    | _ => exact absurd (show false = true from hs) Bool.false_ne_true
  | bl i =>
    cases rx
    cases y with
    | non => cases ry; exact PySem.EqNone.ne_bool_none (fin_bl I q (by simp))
    | bl j => cases ry; exact ne_bool (fin_bl I q (congrArg not dec_bl))
    | str j => obtain ⟨t', rfl⟩ := ry; exact PySem.EqMixed.ne_bool_str (fin_bl I q (by simp))
    | _ => exact absurd (show false = true from hs) Bool.false_ne_true
  | int i =>
    obtain ⟨t, rfl⟩ := rx
    cases y with
    | non => cases ry; exact PySem.EqNone.ne_int_none (fin_bl I q (by simp))
    | int j => obtain ⟨t', rfl⟩ := ry; exact ne_int (fin_bl I q (congrArg not dec_int))
    | str j => obtain ⟨t', rfl⟩ := ry; exact PySem.EqMixed.ne_int_str (fin_bl I q (by simp))
    | _ => exact absurd (show false = true from hs) Bool.false_ne_true
  | str i =>
    obtain ⟨t, rfl⟩ := rx
    cases y with
    | non => cases ry; exact PySem.EqNone.ne_str_none (fin_bl I q (by simp))
    | bl j => cases ry; exact PySem.EqMixed.ne_str_bool (fin_bl I q (by simp))
    | int j => obtain ⟨t', rfl⟩ := ry; exact PySem.EqMixed.ne_str_int (fin_bl I q (by simp))
    | str j => obtain ⟨t', rfl⟩ := ry; exact ne_str (fin_bl I q (congrArg not dec_str))
    | _ => exact absurd (show false = true from hs) Bool.false_ne_true
  | byt i =>
    obtain ⟨t, rfl⟩ := rx
    cases y with
    | byt j => obtain ⟨t', rfl⟩ := ry; exact PySem.W.ne_bytes (fin_bl I q (congrArg not dec_byt))
    | _ => exact absurd (show false = true from hs) Bool.false_ne_true
  | _ => cases y <;> exact absurd (show false = true from hs) Bool.false_ne_true

theorem op_lt : OpR X (compareOp .Lt) (rI0 fun i j => .bl (decide (i < j))) := opB0 fun _ _ _ _ _ _ _ q => lt_int q
theorem op_le : OpR X (compareOp .LtE) (rI0 fun i j => .bl (decide (i ≤ j))) := opB0 fun _ _ _ _ _ _ _ q => le_int q
theorem op_gt : OpR X (compareOp .Gt) (rI0 fun i j => .bl (decide (j < i))) := opB0 fun _ _ _ _ _ _ _ q => gt_int q
theorem op_ge : OpR X (compareOp .GtE) (rI0 fun i j => .bl (decide (j ≤ i))) := opB0 fun _ _ _ _ _ _ _ q => ge_int q
theorem op_lt_str : OpR X (compareOp .Lt) (fun x y H Q => ∃ i j, x = .str i ∧ y = .str j ∧ Q (.bl (decide (i.cps.toList < j.cps.toList))) H) := by
  intro pins s σ H x y v u Q I rx ry h
  obtain ⟨i, j, rfl, rfl, q⟩ := h
  obtain ⟨t, rfl⟩ := rx
  obtain ⟨t', rfl⟩ := ry
  exact lt_str (fin_bl I q rfl)
/-- the one string within the other -/
theorem op_in_str : OpR X (compareOp .In) (fun x y H Q => ∃ i j, x = .str i ∧ y = .str j ∧ Q (.bl (!(Builtin.Str.occurrences j i 0 j.length 1).isEmpty)) H) := by
  intro pins s σ H x y v u Q I rx ry h
  obtain ⟨i, j, rfl, rfl, q⟩ := h
  obtain ⟨t, rfl⟩ := rx
  obtain ⟨t', rfl⟩ := ry
  exact in_str (fin_bl I q rfl)

/-- is None, is not None: the right side a value none -/
theorem op_isN : OpR X (compareOp .Is) (fun x y H Q => y = .non ∧ Q (.bl (decide (x = .non))) H) := by
  intro pins s σ H x y v u Q I rx ry h
  obtain ⟨rfl, q⟩ := h
  cases ry
  refine is_none_gen (fin_bl I q ?_)
  cases x <;> first
    | (cases rx; rfl)
    | (obtain ⟨t, rfl⟩ := rx; rfl)
theorem op_notN : OpR X (compareOp .IsNot) (fun x y H Q => y = .non ∧ Q (.bl (!decide (x = .non))) H) := by
  intro pins s σ H x y v u Q I rx ry h
  obtain ⟨rfl, q⟩ := h
  cases ry
  refine isnot_none_gen (fin_bl I q ?_)
  cases x <;> first
    | (cases rx; rfl)
    | (obtain ⟨t, rfl⟩ := rx; rfl)

theorem op_notin_str : OpR X (compareOp .NotIn) (fun x y H Q => ∃ i j, x = .str i ∧ y = .str j ∧ Q (.bl (!(!(Builtin.Str.occurrences j i 0 j.length 1).isEmpty))) H) := by
  intro pins s σ H x y v u Q I rx ry h
  obtain ⟨i, j, rfl, rfl, q⟩ := h
  obtain ⟨t, rfl⟩ := rx
  obtain ⟨t', rfl⟩ := ry
  exact notIn_str (fin_bl I q rfl)
/-- is, is not of two objects that are tracked lists or instances -/
def isObj : HO → Bool
  | .lst _ => true
  | .ins _ _ _ => true
  | _ => false
theorem obj_there {pins : List (Addr × Obj)} {s : Shared} {σ : St} {H : Hp} {a : Addr} {o : HO} (I : Inv X pins σ H s) (h : H a = some o) (p : isObj o = true) : ∃ ob, s.heap.get? a = some ob ∧ ob.cls ≠ .type "tuple" := by
  cases o with
  | lst xs =>
    obtain ⟨_, its, n, _, e⟩ : xs.length ≤ sizeLine ∧ ∃ (its : List Value) (n : Nat), Vals xs its ∧ s.heap.get? a = some { cls := .type "list", data := .seq its.toArray n } := I.hok a _ h
    exact ⟨_, e, (by show Value.type "list" ≠ .type "tuple"; decide +kernel)⟩
  | ins C dx fs =>
    have x := I.hok a _ h
    obtain ⟨_, _, _, e, _⟩ := x
    exact ⟨_, e, (by show Value.ref C ≠ .type "tuple"; exact fun z => by cases z)⟩
  | _ => exact absurd (show false = true from p) Bool.false_ne_true
theorem op_is_ref : OpR X (compareOp .Is) (fun x y H Q => ∃ a b oa ob, x = .ref a ∧ y = .ref b ∧ H a = some oa ∧ isObj oa = true ∧ H b = some ob ∧ isObj ob = true ∧ Q (.bl (decide (a = b))) H) := by
  intro pins s σ H x y v u Q I rx ry h
  obtain ⟨a, b, oa, ob, rfl, rfl, ha, pa, hb, pb, q⟩ := h
  cases rx
  cases ry
  obtain ⟨o1, e1, n1⟩ := obj_there I ha pa
  obtain ⟨o2, e2, _⟩ := obj_there I hb pb
  by_cases z : a = b
  · subst z
    exact wpAny_is_ref_self (fin_bl I q (by simp))
  · exact wpAny_is_ref_other z e1 e2 n1 (fin_bl I q (by simp [z]))
theorem op_isnot_ref : OpR X (compareOp .IsNot) (fun x y H Q => ∃ a b oa ob, x = .ref a ∧ y = .ref b ∧ H a = some oa ∧ isObj oa = true ∧ H b = some ob ∧ isObj ob = true ∧ Q (.bl (!decide (a = b))) H) := by
  intro pins s σ H x y v u Q I rx ry h
  obtain ⟨a, b, oa, ob, rfl, rfl, ha, pa, hb, pb, q⟩ := h
  cases rx
  cases ry
  obtain ⟨o1, e1, n1⟩ := obj_there I ha pa
  obtain ⟨o2, e2, _⟩ := obj_there I hb pb
  by_cases z : a = b
  · subst z
    exact wpAny_isNot_ref_self (fin_bl I q (by simp))
  · exact wpAny_isNot_ref_other z e1 e2 n1 (fin_bl I q (by simp [z]))

/-- two rules for one operation: by cases -/
theorem OpR.or {f : Value → Value → Sem Value} {r r' : R2} (h : OpR X f r) (h' : OpR X f r') : OpR X f (fun x y H Q => r x y H Q ∨ r' x y H Q) := by
  intro pins s σ H x y v u Q I rx ry q
  rcases q with q | q
  · exact h pins s σ H x y v u Q I rx ry q
  · exact h' pins s σ H x y v u Q I rx ry q

theorem nomark (b : Expr) {op : CmpOp} (h : op ≠ .In := by decide) (h2 : op ≠ .NotIn := by decide) : behindInMarks op b = false := by
  have e1 : (op == CmpOp.In) = false := by cases op <;> first | rfl | exact absurd rfl h
  have e2 : (op == CmpOp.NotIn) = false := by cases op <;> first | rfl | exact absurd rfl h2
  cases b <;> simp [behindInMarks, e1, e2]
/-- a comparison as a value; hm: nomark b, or (for in, not in) by with_unfolding_all rfl -/
theorem pe_cmpR {op : CmpOp} {r : R2} (ho : OpR X (compareOp op) r) (ha : PE X a ta) (hb : PE X b tb) (hm : behindInMarks op b = false) : PE X (.Compare a [op] [b] pos) (tOp r ta tb) := by
  intro pins s σ H Q I h
  exact wpAny_Compare1 (binT ha hb I h fun v u s2 x y H2 I2 rx ry q => ho pins s2 σ H2 x y v u Q I2 rx ry q) hm
/-- a reading of a value as a test -/
def tTest (t : TE) : TT := fun σ H Q => t σ H fun x H' => ∃ k, x = .bl k ∧ Q k H'
theorem pt_cmpR {op : CmpOp} {r : R2} (ho : OpR X (compareOp op) r) (ha : PE X a ta) (hb : PE X b tb) (hm : behindInMarks op b = false) : PT X (.Compare a [op] [b] pos) (tTest (tOp r ta tb)) := by
  intro pins s σ H Q I h
  refine wpAny_isTrue_Compare1 (thn (ha pins s σ H _ I h) fun v s1 ⟨x, H1, I1, r1, q1⟩ => thn (hb pins s1 σ H1 _ I1 q1) fun u s2 ⟨y, H2, I2, r2, q2⟩ =>
    thn (ho pins s2 σ H2 x y v u _ I2 r1 r2 q2) fun c s3 ⟨z, H3, I3, r3, k, e, q3⟩ => ?_) hm
  subst e
  cases r3
  exact wpAny_truthy_bool ⟨H3, I3, q3⟩
/-- a op1 b op2 c -/
def tChain (r r' : R2) (ta tb tc : TE) : TE := fun σ H Q => ta σ H fun x H1 => tb σ H1 fun y H2 => r x y H2 fun z H3 => ∃ k, z = .bl k ∧
  (if k = true then tc σ H3 fun w' H4 => r' y w' H4 Q else Q (.bl false) H3)
theorem pe_chain {op op' : CmpOp} {r r' : R2} (ho : OpR X (compareOp op) r) (ho' : OpR X (compareOp op') r') (ha : PE X a ta) (hb : PE X b tb) (hc : PE X c tc)
    (hm : lastMarks [op, op'] [b, c] = false := by with_unfolding_all rfl) : PE X (.Compare a [op, op'] [b, c] pos) (tChain r r' ta tb tc) := by
  intro pins s σ H Q I h
  refine Compare_chain (thn (ha pins s σ H _ I h) fun v s1 ⟨x, H1, I1, r1, q1⟩ => chain_link (thn (hb pins s1 σ H1 _ I1 q1) fun u s2 ⟨y, H2, I2, r2, q2⟩ =>
    thn (ho pins s2 σ H2 x y v u _ I2 r1 r2 q2) fun d s3 ⟨z, H3, I3, r3, k, e, q3⟩ => ?_)) hm
  subst e
  cases r3
  refine wpAny_truthy_bool ?_
  cases k with
  | false => exact ite_ff ⟨.bl false, H3, I3, rfl, q3⟩
  | true => exact ite_tt (chain_last (thn (hc pins s3 σ H3 _ I3 q3) fun w' s4 ⟨z', H4, I4, r4, q4⟩ => ho' pins s4 σ H4 y z' u w' Q I4 r2 r4 q4))
theorem pt_chain {op op' : CmpOp} {r r' : R2} (ho : OpR X (compareOp op) r) (ho' : OpR X (compareOp op') r') (ha : PE X a ta) (hb : PE X b tb) (hc : PE X c tc)
    (hm : lastMarks [op, op'] [b, c] = false := by with_unfolding_all rfl) : PT X (.Compare a [op, op'] [b, c] pos) (tTest (tChain r r' ta tb tc)) := by
  intro pins s σ H Q I h
  refine isTrue_chain (thn (ha pins s σ H _ I h) fun v s1 ⟨x, H1, I1, r1, q1⟩ => test_link (thn (hb pins s1 σ H1 _ I1 q1) fun u s2 ⟨y, H2, I2, r2, q2⟩ =>
    thn (ho pins s2 σ H2 x y v u _ I2 r1 r2 q2) fun d s3 ⟨z, H3, I3, r3, k, e, q3⟩ => ?_)) hm
  subst e
  cases r3
  refine wpAny_truthy_bool ?_
  cases k with
  | false =>
    obtain ⟨k', e', q'⟩ := q3
    cases e'
    exact ite_ff ⟨H3, I3, q'⟩
  | true =>
    refine ite_tt (test_last (thn (hc pins s3 σ H3 _ I3 q3) fun w' s4 ⟨z', H4, I4, r4, q4⟩ => thn (ho' pins s4 σ H4 y z' u w' _ I4 r2 r4 q4) fun d' s5 ⟨z2, H5, I5, r5, k2, e2, q5⟩ => ?_))
    subst e2
    cases r5
    exact wpAny_truthy_bool ⟨H5, I5, q5⟩

/-! ### truth -/
/-- a value's truth by the abstract heap -/
def TruV (K : PySem.W.Frag) (x : V) (H : Hp) (k : Bool) : Prop :=
  match x with
  | .non => k = false
  | .bl b => k = b
  | .int i => k = (i != 0)
  | .str y => y.length ≤ sizeLine ∧ k = ((y.length : Int) != 0)
  | .byt y => y.size ≤ sizeLine ∧ k = ((y.size : Int) != 0)
  | .ref p => (∃ xs, SqL K H p xs ∧ k = !xs.isEmpty) ∨ (∃ xs, SqT K H p xs ∧ k = !xs.isEmpty) ∨ ∃ kvs, H p = some (.dK kvs) ∧ k = !kvs.isEmpty
  | _ => False
theorem isEmpty_kv {κ : Type} {kvs : List (κ × V)} {vs : List (κ × Value)} (r : KV kvs vs) : (!vs.isEmpty) = !kvs.isEmpty := by
  cases r <;> rfl
theorem isEmpty_of {xs : List V} {its : List Value} (r : Vals xs its) : (!its.toArray.isEmpty) = !xs.isEmpty := by
  cases r <;> simp
theorem line63 : (sizeLine : Nat) < 2 ^ 63 := by rw [sizeLine_eq]; decide
theorem tru_ok : TruR X (fun x H Q => ∃ k, TruV X.K x H k ∧ Q k H) := by
  intro pins s σ H x v Q I rx h
  obtain ⟨k, e, q⟩ := h
  have hl := line63
  have hs : sizeLine = 16777216 := sizeLine_eq
  cases x with
  | non =>
    cases rx
    have e' : k = false := e
    subst e'
    exact truthy_none ⟨H, I, q⟩
  | bl b =>
    cases rx
    have e' : k = b := e
    subst e'
    exact wpAny_truthy_bool ⟨H, I, q⟩
  | int i =>
    obtain ⟨t, rfl⟩ := rx
    have e' : k = (i != 0) := e
    subst e'
    exact PySem.P.truthy_int ⟨H, I, q⟩
  | str y =>
    obtain ⟨t, rfl⟩ := rx
    obtain ⟨hy, e'⟩ : y.length ≤ sizeLine ∧ k = ((y.length : Int) != 0) := e
    subst e'
    exact PySem.P.truthy_str (by omega) ⟨H, I.tok _, q⟩
  | byt y =>
    obtain ⟨t, rfl⟩ := rx
    obtain ⟨hy, e'⟩ : y.size ≤ sizeLine ∧ k = ((y.size : Int) != 0) := e
    subst e'
    exact PySem.W.truthy_bytes (by omega) ⟨H, I.tok _, q⟩
  | ref p =>
    cases rx
    have e' : (∃ xs, SqL X.K H p xs ∧ k = !xs.isEmpty) ∨ (∃ xs, SqT X.K H p xs ∧ k = !xs.isEmpty) ∨ ∃ kvs, H p = some (.dK kvs) ∧ k = !kvs.isEmpty := e
    rcases e' with ⟨xs, hx, e'⟩ | ⟨xs, hx, e'⟩ | ⟨kvs, hx, e'⟩
    · subst e'
      obtain ⟨its, r, pl, hz⟩ := I.list hx
      have hlen := r.length
      exact wpAny_truthy_list pl.isList (by simp only [List.size_toArray]; omega) ⟨H, I.tok _, by rw [isEmpty_of r]; exact q⟩
    · subst e'
      obtain ⟨its, r, pl, hz⟩ := I.tuple hx
      have hlen := r.length
      exact truthy_tuple pl (by simp only [List.size_toArray]; omega) ⟨H, I.tok _, by rw [isEmpty_of r]; exact q⟩
    · subst e'
      obtain ⟨hz, hS, vs, r, m⟩ : kvs.length ≤ sizeLine ∧ (p == sysModules) = false ∧ ∃ vs, KV kvs vs ∧ s.heap.DictOf (mixKind X.prog X.w) p vs := I.hok p _ hx
      have hlen : kvs.length = vs.length := Paired.length r
      exact wpAny_truthy_dict hS m (by omega) ⟨H, I.tok _, by rw [isEmpty_kv r]; exact q⟩
  | _ => exact (show False from e).elim
/-- any expression whose test is its value's truth (a name, a call, a subscript, a field ..: he by fun _ => rfl) -/
theorem pt_truth (ha : PE X a ta) (he : ∀ whole, isTrue a X.env whole = (do let v ← whole; standAt a.pos; holding [v] (truthy v))) :
    PT X a (fun σ H Q => ta σ H fun x H' => ∃ k, TruV X.K x H' k ∧ Q k H') := by
  intro pins s σ H Q I h
  exact isTrue_plain (thn (ha pins s σ H _ I h) fun v s1 ⟨x, H1, I1, r1, q1⟩ => tru_ok pins s1 σ H1 x v Q I1 r1 q1) (he _)

/-! ### strs and bytes -/
theorem pe_byt {x : List UInt8} {k : Nat} : PE X (.Constant (.bytes x) k pos) (fun _ H Q => Q (.byt x.toArray) H) := fun _ _ _ H _ I h => PySem.W.Constant_bytes ⟨.byt x.toArray, H, I.tok _, ⟨_, rfl⟩, h⟩
theorem op_add_str : OpR X (binaryOp .Add) (fun x y H Q => ∃ i j, x = .str i ∧ y = .str j ∧ i.length + j.length ≤ sizeLine ∧ Q (.str (i ++ j)) H) := by
  intro pins s σ H x y v u Q I rx ry h
  obtain ⟨i, j, rfl, rfl, hz, q⟩ := h
  obtain ⟨t, rfl⟩ := rx
  obtain ⟨t', rfl⟩ := ry
  exact add_str (fun t' tk => ⟨.str (i ++ j), H, I.tok _, ⟨_, rfl⟩, q⟩) hz
theorem iop_add_str : OpR X (inplaceOp .Add) (fun x y H Q => ∃ i j, x = .str i ∧ y = .str j ∧ i.length + j.length ≤ sizeLine ∧ Q (.str (i ++ j)) H) := by
  intro pins s σ H x y v u Q I rx ry h
  obtain ⟨i, j, rfl, rfl, hz, q⟩ := h
  obtain ⟨t, rfl⟩ := rx
  obtain ⟨t', rfl⟩ := ry
  exact iadd_str (fun t' tk => ⟨.str (i ++ j), H, I.tok _, ⟨_, rfl⟩, q⟩) hz
theorem op_add_byt : OpR X (binaryOp .Add) (fun x y H Q => ∃ i j, x = .byt i ∧ y = .byt j ∧ i.size + j.size ≤ 16777216 ∧ Q (.byt (i ++ j)) H) := by
  intro pins s σ H x y v u Q I rx ry h
  obtain ⟨i, j, rfl, rfl, hz, q⟩ := h
  obtain ⟨t, rfl⟩ := rx
  obtain ⟨t', rfl⟩ := ry
  exact PySem.W.KBy.add_bytes hz (fun t' tk => ⟨.byt (i ++ j), H, I.tok _, ⟨_, rfl⟩, q⟩)

def PlainIxT (b : Expr) : Prop := ∀ o i, subscripted b false o i = operate [o, i] (getItem o i)
/-- s[i], 0 ≤ i < len -/
theorem pe_item_str (ha : PE X a ta) (hb : PE X b tb) (hs : PlainIxT b) :
    PE X (.Subscript a b pos) (tOp (fun x y H Q => ∃ z i c, x = .str z ∧ y = .int i ∧ 0 ≤ i ∧ i < 2 ^ 63 ∧ i < z.length ∧ z.cps[i.toNat]? = some c ∧ Q (.str ⟨#[c]⟩) H) ta tb) := by
  intro pins s σ H Q I h
  refine Subscript_ (binT ha hb I h fun v u s2 x y H2 I2 rx ry q => ?_)
  obtain ⟨z, i, c, rfl, rfl, h0, h63, h1, hc, q⟩ := q
  obtain ⟨t, rfl⟩ := rx
  obtain ⟨t', rfl⟩ := ry
  have e : seqIndex? i z.length = some i.toNat := PySem.StrLaws.seqIndex_nonneg h0 h1
  exact tail_any (typeIs_str s2 z t) slot_str_getitem.lookup (getItem_str (c := c) (by
    have e1 : decide (i < -(2 ^ 63 : Int)) = false := decide_eq_false (by omega)
    have e2 : decide (i ≥ 2 ^ 63) = false := decide_eq_false (by omega)
    rw [e1, e2] <;> rfl) (by rw [e]; exact hc) ⟨.str ⟨#[c]⟩, H2, I2.tok _, ⟨_, rfl⟩, q⟩) (hs _ _)
/-- b[i], 0 ≤ i < len -/
theorem pe_item_byt (ha : PE X a ta) (hb : PE X b tb) (hs : PlainIxT b) :
    PE X (.Subscript a b pos) (tOp (fun x y H Q => ∃ (z : List UInt8) (i : Int), x = .byt z.toArray ∧ y = .int i ∧ z.length ≤ sizeLine ∧ 0 ≤ i ∧ i < z.length ∧ Q (.int ((z.getD i.toNat 0).toNat : Nat)) H) ta tb) := by
  intro pins s σ H Q I h
  refine Subscript_ (binT ha hb I h fun v u s2 x y H2 I2 rx ry q => ?_)
  obtain ⟨z, i, rfl, rfl, hz, h0, h1, q⟩ := q
  obtain ⟨t, rfl⟩ := rx
  obtain ⟨t', rfl⟩ := ry
  have hl : sizeLine = 16777216 := sizeLine_eq
  exact tail_any (PySem.W.typeIs_bytes s2 z.toArray t) PySem.W.FB.slot_bytes_getitem.lookup (PySem.W.getItem_bytes (by omega) h0 h1 ⟨.int ((z.getD i.toNat 0).toNat : Nat), H2, I2.tok _, ⟨_, rfl⟩, q⟩) (hs _ _)

/-! ### scalar builtins, by CallR -/
theorem vals1 {x : V} {us : List Value} (r : Vals [x] us) : ∃ u, us = [u] ∧ RelV x u := by
  cases r with
  | cons r1 r2 => cases r2; exact ⟨_, rfl, r1⟩
theorem vals2 {x y : V} {us : List Value} (r : Vals [x, y] us) : ∃ u w', us = [u, w'] ∧ RelV x u ∧ RelV y w' := by
  cases r with
  | cons r1 r2 =>
    cases r2 with
    | cons r3 r4 => cases r4; exact ⟨_, _, rfl, r1, r3⟩
theorem call_abs : CallR X (.builtin "abs") (fun xs H Q => ∃ i, xs = [.int i] ∧ Q (.int (if i < 0 then -i else i)) H) := by
  intro pins s σ H xs us Q I r h
  obtain ⟨i, rfl, q⟩ := h
  obtain ⟨u, rfl, t, rfl⟩ := vals1 r
  exact call_abs_int fun u tk => ⟨.int (if i < 0 then -i else i), H, I.tok _, ⟨_, rfl⟩, q⟩
theorem call_max2 (hc : X.calm = true) : CallR X (.builtin "max") (fun xs H Q => ∃ i j, xs = [.int i, .int j] ∧ Q (.int (if j > i then j else i)) H) := by
  intro pins s σ H xs us Q I r h
  obtain ⟨i, j, rfl, q⟩ := h
  obtain ⟨u, w', rfl, ⟨t, rfl⟩, ⟨t', rfl⟩⟩ := vals2 r
  refine max_two_ints (I.ok.hd hc) fun h' tk k => ⟨_, H, I.kept k, ?_, q⟩
  by_cases hj : j > i
  · rw [if_pos hj, if_pos hj]; exact ⟨_, rfl⟩
  · rw [if_neg hj, if_neg hj]; exact ⟨_, rfl⟩
theorem call_min2 (hc : X.calm = true) : CallR X (.builtin "min") (fun xs H Q => ∃ i j, xs = [.int i, .int j] ∧ Q (.int (if j < i then j else i)) H) := by
  intro pins s σ H xs us Q I r h
  obtain ⟨i, j, rfl, q⟩ := h
  obtain ⟨u, w', rfl, ⟨t, rfl⟩, ⟨t', rfl⟩⟩ := vals2 r
  refine min_two_ints (I.ok.hd hc) fun h' tk k => ⟨_, H, I.kept k, ?_, q⟩
  by_cases hj : j < i
  · rw [if_pos hj, if_pos hj]; exact ⟨_, rfl⟩
  · rw [if_neg hj, if_neg hj]; exact ⟨_, rfl⟩
theorem call_int1 : CallR X (.type "int") (fun xs H Q => (∃ i, xs = [.int i] ∧ Q (.int i) H) ∨ ∃ k, xs = [.bl k] ∧ Q (.int (if k then 1 else 0)) H) := by
  intro pins s σ H xs us Q I r h
  rcases h with ⟨i, rfl, q⟩ | ⟨k, rfl, q⟩
  · obtain ⟨u, rfl, t, rfl⟩ := vals1 r
    exact call_int_int ⟨.int i, H, I, ⟨_, rfl⟩, q⟩
  · obtain ⟨u, rfl, r1⟩ := vals1 r
    cases r1
    exact call_int_bool ⟨.int (if k then 1 else 0), H, I.tok _, ⟨_, rfl⟩, q⟩
theorem call_bool1 : CallR X (.type "bool") (fun xs H Q => (∃ i, xs = [.int i] ∧ Q (.bl (i != 0)) H) ∨ ∃ k, xs = [.bl k] ∧ Q (.bl k) H) := by
  intro pins s σ H xs us Q I r h
  rcases h with ⟨i, rfl, q⟩ | ⟨k, rfl, q⟩
  · obtain ⟨u, rfl, t, rfl⟩ := vals1 r
    exact call_bool_int ⟨.bl (i != 0), H, I, rfl, q⟩
  · obtain ⟨u, rfl, r1⟩ := vals1 r
    cases r1
    exact call_bool_bool ⟨.bl k, H, I, rfl, q⟩
theorem call_str_int : CallR X (.type "str") (fun xs H Q => ∃ i, xs = [.int i] ∧ i.natAbs.log2 < 1920 ∧ Q (.str (toString i)) H) := by
  intro pins s σ H xs us Q I r h
  obtain ⟨i, rfl, hz, q⟩ := h
  obtain ⟨u, rfl, t, rfl⟩ := vals1 r
  exact PySem.P.str_of_int hz ⟨.str _, H, I.tok _, ⟨_, rfl⟩, q⟩
theorem call_ord : CallR X (.builtin "ord") (fun xs H Q => ∃ x, xs = [.str x] ∧ x.length = 1 ∧ Q (.int (x.cps.getD 0 0 : Nat)) H) := by
  intro pins s σ H xs us Q I r h
  obtain ⟨x, rfl, hz, q⟩ := h
  obtain ⟨u, rfl, t, rfl⟩ := vals1 r
  exact ord_of_one hz ⟨.int _, H, I.tok _, ⟨_, rfl⟩, q⟩
theorem call_chr : CallR X (.builtin "chr") (fun xs H Q => ∃ i, xs = [.int i] ∧ 0 ≤ i ∧ i ≤ 1114111 ∧ Q (.str ⟨#[i.toNat]⟩) H) := by
  intro pins s σ H xs us Q I r h
  obtain ⟨i, rfl, h0, h1, q⟩ := h
  obtain ⟨u, rfl, t, rfl⟩ := vals1 r
  exact chr_of_range h0 h1 ⟨.str _, H, I.tok _, ⟨_, rfl⟩, q⟩
/-- len of a str, a bytes, a list, a tuple -/
def LenV (K : PySem.W.Frag) (x : V) (H : Hp) (n : Nat) : Prop :=
  match x with
  | .str y => y.length ≤ sizeLine ∧ n = y.length
  | .byt y => y.size ≤ sizeLine ∧ n = y.size
  | .ref p => (∃ xs, SqL K H p xs ∧ n = xs.length) ∨ ∃ xs, SqT K H p xs ∧ n = xs.length
  | _ => False
theorem call_len : CallR X (.builtin "len") (fun xs H Q => ∃ x n, xs = [x] ∧ LenV X.K x H n ∧ Q (.int n) H) := by
  intro pins s σ H xs us Q I r h
  obtain ⟨x, n, rfl, e, q⟩ := h
  obtain ⟨u, rfl, rx⟩ := vals1 r
  have hl := line63
  have hs : sizeLine = 16777216 := sizeLine_eq
  cases x with
  | str y =>
    obtain ⟨t, rfl⟩ := rx
    obtain ⟨hy, e'⟩ : y.length ≤ sizeLine ∧ n = y.length := e
    subst e'
    exact len_str (by omega) ⟨.int _, H, I.tok _, ⟨_, rfl⟩, q⟩
  | byt y =>
    obtain ⟨t, rfl⟩ := rx
    obtain ⟨hy, e'⟩ : y.size ≤ sizeLine ∧ n = y.size := e
    subst e'
    exact PySem.W.len_bytes (by omega) ⟨.int _, H, I.tok _, ⟨_, rfl⟩, q⟩
  | ref p =>
    cases rx
    have e' : (∃ xs, SqL X.K H p xs ∧ n = xs.length) ∨ ∃ xs, SqT X.K H p xs ∧ n = xs.length := e
    rcases e' with ⟨xs, hx, e'⟩ | ⟨xs, hx, e'⟩
    · subst e'
      obtain ⟨its, r', pl, hz⟩ := I.list hx
      have hlen := r'.length
      exact Calls.call_len_list pl.isList (by simp only [List.size_toArray]; omega) ⟨.int xs.length, H, I.tok _, ⟨_, by simp only [List.size_toArray]; rw [hlen]⟩, q⟩
    · subst e'
      obtain ⟨its, r', pl, hz⟩ := I.tuple hx
      have hlen := r'.length
      exact len_tuple pl (by simp only [List.size_toArray]; omega) ⟨.int xs.length, H, I.tok _, ⟨_, by simp only [List.size_toArray]; rw [hlen]⟩, q⟩
  | _ => exact (show False from e).elim
/-- divmod: a new tuple -/
theorem call_divmod : CallR X (.builtin "divmod") (fun xs H Q => ∃ i j, xs = [.int i, .int j] ∧ CDiv i j ∧ ∀ p, H p = none → Q (.ref p) (upd H p (.tup [.int (i / j), .int (i % j)]))) := by
  intro pins s σ H xs us Q I r h
  obtain ⟨i, j, rfl, ⟨h1, h2⟩, q⟩ := h
  obtain ⟨u, w', rfl, ⟨t, rfl⟩, ⟨t', rfl⟩⟩ := vals2 r
  refine divmod_int (by omega) ?_ (.inl (PyProof.noPylong_small (by omega)))
  rw [Int.fdiv_eq_ediv_of_nonneg i (by omega), Int.fmod_eq_emod_of_nonneg i (by omega)]
  have hn : H s.heap.objs.size = none := I.hok.fresh (Nat.le_refl _)
  refine ⟨.ref s.heap.objs.size, _, ?_, rfl, q _ hn⟩
  refine I.laid (fun b o e => Heap.get?_push_of_some _ e) (Nat.le_refl _) ⟨by simp only [List.length_cons, List.length_nil]; rw [sizeLine_eq]; decide, [.int (i / j) s.toks, .int (i % j) (s.toks + 1)], .cons ⟨_, rfl⟩ (.cons ⟨_, rfl⟩ .nil), ?_⟩
  exact ⟨_, Heap.get?_push_size s.heap rfl, rfl, 0, rfl⟩
end
end L2

namespace L2
open PySem PySem.Spec PyProof.Rows

/-! ### an instance, its attributes a map -/
structure ObjM (h : Heap) (x dx C : Addr) (mA : Str → Option Value) : Prop where
  obj : h.get? x = some (PySem.W.instObj C dx)
  ns : h.Ns1 dx mA
  ne : dx ≠ x

theorem lookIn_ns {h : Heap} {dx : Addr} {mA : Str → Option Value} (n : h.Ns1 dx mA) : ∃ od, h.get? dx = some od ∧ ∀ name, PySem.W.lookIn name od = some (mA name) := by
  obtain ⟨o, es, ep, ho, hd, hk, _, hm⟩ := n
  refine ⟨o, ho, fun name => ?_⟩
  have e := hm name
  unfold nsFind findBy at e
  rw [← Array.find?_toList] at e
  unfold PySem.W.lookIn
  rw [hd]
  dsimp only
  split
  · rename_i y q
    rw [q] at e
    exact congrArg some e
  · rename_i q
    rw [q] at e
    have a : es.toList.any (·.refKey) = false := by
      rw [List.any_eq_false]
      intro y hy
      obtain ⟨z, t, hkey⟩ := hk y (Array.mem_toList_iff.mp hy)
      simp [DictEntry.refKey, hkey]
    have a' : ¬ es.toList.any (·.refKey) = true := by rw [a]; exact Bool.false_ne_true
    rw [if_neg a']
    exact congrArg some e

theorem ObjM.look {h : Heap} {x dx C : Addr} {mA : Str → Option Value} (I : ObjM h x dx C mA) : ∃ od, PySem.W.InstAt h x (PySem.W.instObj C dx) C (some od) ∧ ∀ name, PySem.W.lookIn name od = some (mA name) :=
  let ⟨od, ho, hl⟩ := lookIn_ns I.ns
  ⟨od, ⟨I.obj, rfl, rfl, ho⟩, hl⟩

section
variable {prog : Program} {w : World} {A : Around} {E : Value → Shared → Prop} {s : Shared} {K : PySem.W.Frag} {x dx C f : Addr} {mA : Str → Option Value} {name : Str} {v : Value}

theorem get_map {expr : Bool} {Q : Value → Shared → Prop} (X : K.In s.heap) (I : ObjM s.heap x dx C mA) (hg : PySem.W.plainGet K C name = true) (hh : PySem.W.hasDictIn K C = true)
    (ha : PySem.W.findIn K (.ref C) name = some none) (hv : mA name = some v) (hv' : PySem.W.handedIn v = true) (h : Q v { s with toks := s.toks + 1 }) :
    wpAny (model prog w) A (getAttr (.ref x) name expr) Q E s := by
  obtain ⟨od, J, hl⟩ := I.look
  exact PySem.W.get_value X J (PySem.W.plainGet_of hg).1 (PySem.W.findObj_own hh ha rfl (by rw [hl, hv])) hv' h

theorem get_const {expr : Bool} {a : Value} {Q : Value → Shared → Prop} (X : K.In s.heap) (I : ObjM s.heap x dx C mA) (hg : PySem.W.plainGet K C name = true) (hh : PySem.W.hasDictIn K C = true)
    (ha : PySem.W.findIn K (.ref C) name = some (some a)) (hn : PySem.W.specialIn K a "__get__" = some none) (hc : PySem.W.copiedNames.contains name = false) (hv : mA name = none) (hv' : PySem.W.handedIn a = true)
    (h : Q a { s with toks := s.toks + 1 }) : wpAny (model prog w) A (getAttr (.ref x) name expr) Q E s := by
  obtain ⟨od, J, hl⟩ := I.look
  exact PySem.W.get_value X J (PySem.W.plainGet_of hg).1 (PySem.W.findObj_cls hh ha hn hv' hc (by rw [hl, hv])) hv' h

theorem get_meth {pl : Sem Bool} {Q : Value × List Value → Shared → Prop} (X : K.In s.heap) (I : ObjM s.heap x dx C mA) (hg : PySem.W.plainGet K C name = true)
    (hf : PySem.W.findIn K (.ref C) name = some (some (.ref f))) (ht : PySem.W.isFn K (.ref f) = true) (hv : mA name = none) (h : Q (.ref f, [.ref x]) s) :
    wpAny (model prog w) A (getMethod (.ref x) name pl) Q E s := by
  obtain ⟨od, J, hl⟩ := I.look
  exact PySem.W.method_fn X J (PySem.W.plainGet_of hg).1 (PySem.W.plainGet_of hg).2 hf (beq_iff_eq.mp ht) (by show (PySem.W.lookIn name od).map (·.isSome) = some false; rw [hl, hv]; rfl) h

theorem set_map {ns : List Str} {Q : Unit → Shared → Prop} (X : K.In s.heap) (I : ObjM s.heap x dx C mA)
    (hs : PySem.W.findIn K (.ref C) "__setattr__" = some (some (.builtin "object.__setattr__"))) (hp : PySem.W.plainOver K C = true) (ht : PySem.W.takerIn K C name = some none) (hh : PySem.W.hasDictIn K C = true)
    (hw : PySem.Within mA ns) (hsz : ns.length ≤ sizeLine)
    (h : ∀ h', ObjM h' x dx C (fun y => if y = name then some v else mA y) → Heap.SameBut dx s.heap h' → Q () { s with heap := h', toks := s.toks + 2 }) :
    wpAny (model prog w) A (setAttr (.ref x) name v) Q E s := by
  obtain ⟨od, J, hl⟩ := I.look
  refine PySem.W.set_plain X J hs (PySem.W.osa_open (s := { s with toks := s.toks + 1 }) (r := none) X J hp ht fun b => ?_)
  obtain ⟨cd, hc, hd'⟩ := PySem.W.any_some hh
  have hx : s.heap.get? x = some ⟨.ref C, some dx, .plain, #[]⟩ := I.obj
  refine wpAny_bind (wpAny_pure (wpAny_bind (wpAny_bind (wpAny_loadPart hx (wpAny_bind (PySem.W.Looks.here (s := { s with toks := s.toks + 1 }) (PySem.W.looks_clsIn X hc) ?_))))))
  rw [hd']
  refine wpAny_pure (a := some dx) (wpAny_bind (wpAny_pure (wpAny_bind ?_)))
  refine wpAny_nsSet1 (s := { s with toks := s.toks + 1 }) I.ns fun h' hn2 hs2 => ?_
  obtain ⟨oD, esD, epD, hoD, hdD, hcD⟩ := hn2.count (PySem.Within.cons name v hw)
  refine wpAny_bind (wpAny_lookBehind hoD (by rw [hdD]; exact pastItsLine_dict (Nat.le_trans hcD (by rw [List.length_cons]; omega))) ?_)
  exact wpAny_pure (h _ ⟨(hs2.2 _ (Ne.symm I.ne)).trans I.obj, hn2, I.ne⟩ hs2)

/-- C(..): the dict at the heap's end, the instance behind it; then its __init__ -/
theorem make_map {R : Result → Shared → Prop} {vs : List Value} {kw : List (Str × Value)} (X : K.In s.heap) (hm : PySem.W.makesIn K C = true)
    (hi : PySem.W.findIn K (.ref C) "__init__" = some (some (.ref f))) (hf : PySem.W.typeIn K (.ref f) = some (.type "function"))
    (h : codeAny (model prog w) (A.under (.builtin "type.__call__" ⟨.ref C :: vs, kw⟩)) (.call (.ref f) ⟨.ref (s.heap.objs.size + 1) :: vs, kw⟩) (PySem.W.InitBack (s.heap.objs.size + 1) R)
      { s with heap := (s.heap.push PySem.W.emptyDict).push (PySem.W.instObj C s.heap.objs.size) }) :
    codeAny (model prog w) A (.call (.ref C) ⟨vs, kw⟩) R s := by
  obtain ⟨hh, g, d, t, os⟩ := s
  exact PySem.W.make_core (PySem.W.makes_of X hm) (PySem.W.looks_findIn X hi) (fun self => PySem.W.bind_fn X self hf) (.inl rfl) h
/-- C() where there is no __init__ but object's -/
theorem make_map0 {R : Result → Shared → Prop} (X : K.In s.heap) (hm : PySem.W.makesIn K C = true)
    (hi : PySem.W.findIn K (.ref C) "__init__" = some (some (.builtin "object.__init__")))
    (hb : ∀ self, PySem.W.Looks (model prog w) s.heap (bindSpecial (.builtin "object.__init__") self) (.builtin "object.__init__", [self]))
    (h : codeAny (model prog w) (A.under (.builtin "type.__call__" ⟨[.ref C], []⟩)) (.call (.builtin "object.__init__") ⟨[.ref (s.heap.objs.size + 1)], []⟩) (PySem.W.InitBack (s.heap.objs.size + 1) R)
      { s with heap := (s.heap.push PySem.W.emptyDict).push (PySem.W.instObj C s.heap.objs.size) }) :
    codeAny (model prog w) A (.call (.ref C) ⟨[], []⟩) R s := by
  obtain ⟨hh, g, d, t, os⟩ := s
  exact PySem.W.make_core (PySem.W.makes_of X hm) (PySem.W.looks_findIn X hi) hb (.inr ⟨rfl, rfl⟩) h
end

/-! ### the attributes as a list of pairs -/
def putF (f : Str) (v : V) : List (Str × V) → List (Str × V)
  | [] => [(f, v)]
  | (g, x) :: r => if g = f then (g, v) :: r else (g, x) :: putF f v r
theorem lookup_putF (f g : Str) (v : V) : ∀ fs : List (Str × V), (putF f v fs).lookup g = if g = f then some v else fs.lookup g
  | [] => by
    show List.lookup g [(f, v)] = _
    by_cases h : g = f
    · have hb : (g == f) = true := beq_iff_eq.mpr h
      simp only [List.lookup, hb, if_pos h]
    · have hb : (g == f) = false := beq_eq_false_iff_ne.mpr h
      simp only [List.lookup, hb, if_neg h]
  | (k, x) :: r => by
    have ih := lookup_putF f g v r
    rw [show putF f v ((k, x) :: r) = (if k = f then (k, v) :: r else (k, x) :: putF f v r) from rfl]
    by_cases hk : k = f
    · rw [if_pos hk]
      by_cases h : g = k
      · have hb : (g == k) = true := beq_iff_eq.mpr h
        simp only [List.lookup, hb, if_pos (h.trans hk)]
      · have hb : (g == k) = false := beq_eq_false_iff_ne.mpr h
        simp only [List.lookup, hb, if_neg (fun e : g = f => h (e.trans hk.symm))]
    · rw [if_neg hk]
      by_cases h : g = k
      · have hb : (g == k) = true := beq_iff_eq.mpr h
        simp only [List.lookup, hb, if_neg (fun e : g = f => hk (h.symm.trans e))]
      · have hb : (g == k) = false := beq_eq_false_iff_ne.mpr h
        simp only [List.lookup, hb]
        exact ih
theorem keys_putF (f : Str) (v : V) : ∀ fs : List (Str × V), f ∈ (putF f v fs).map (·.1) ∧ ∀ g, g ∈ fs.map (·.1) → g ∈ (putF f v fs).map (·.1)
  | [] => ⟨by simp [putF], fun g h => by simp at h⟩
  | (k, x) :: r => by
    obtain ⟨i1, i2⟩ := keys_putF f v r
    rw [show putF f v ((k, x) :: r) = (if k = f then (k, v) :: r else (k, x) :: putF f v r) from rfl]
    by_cases hk : k = f
    · rw [if_pos hk]
      subst hk
      exact ⟨by simp, fun g h => by simpa using h⟩
    · rw [if_neg hk]
      refine ⟨?_, fun g h => ?_⟩
      · rw [List.map_cons]
        exact List.mem_cons_of_mem _ i1
      · rw [List.map_cons] at h ⊢
        rcases List.mem_cons.mp h with e | e
        · exact List.mem_cons.mpr (.inl e)
        · exact List.mem_cons_of_mem _ (i2 g e)
theorem length_putF (f : Str) (v : V) : ∀ fs : List (Str × V), (putF f v fs).length ≤ fs.length + 1
  | [] => by simp [putF]
  | (k, x) :: r => by
    have ih := length_putF f v r
    rw [show putF f v ((k, x) :: r) = (if k = f then (k, v) :: r else (k, x) :: putF f v r) from rfl]
    by_cases hk : k = f
    · rw [if_pos hk, List.length_cons, List.length_cons]; omega
    · rw [if_neg hk, List.length_cons, List.length_cons]; omega

theorem RelO.some_of {v : V} {o : Option Value} (r : RelO (some v) o) : ∃ u, o = some u ∧ RelV v u := by
  cases o with
  | none => exact (show False from r).elim
  | some u => exact ⟨u, rfl, r⟩
theorem RelO.none_of {o : Option Value} (r : RelO none o) : o = none := by
  cases o with
  | none => rfl
  | some u => exact (show False from r).elim
theorem handed_of {v : V} {u : Value} (r : RelV v u) : PySem.W.handedIn u = true := by
  cases v with
  | non => cases (show u = Value.none from r); rfl
  | bl b => cases (show u = Value.bool b from r); rfl
  | int i => obtain ⟨t, e⟩ := (show ∃ t, u = Value.int i t from r); cases e; rfl
  | str x => obtain ⟨t, e⟩ := (show ∃ t, u = Value.str x t from r); cases e; rfl
  | byt b => obtain ⟨t, e⟩ := (show ∃ t, u = Value.bytes b t from r); cases e; rfl
  | flt b => obtain ⟨t, e⟩ := (show ∃ t, u = Value.float b t from r); cases e; rfl
  | ref a => cases (show u = Value.ref a from r); rfl
  | ty n => cases (show u = Value.type n from r); rfl

section
variable {P : Program} {w : World} {H H' : Hp} {h h' : Heap} {a C dx : Addr} {fs fs' : List (Str × V)}
theorem ins_get (hok : HOk P w H h) (e : H a = some (.ins C dx fs)) : ∃ mA, ObjM h a dx C mA ∧ (∀ f, RelO (fs.lookup f) (mA f)) ∧ PySem.Within mA (fs.map (·.1)) ∧ fs.length ≤ 1000 ∧ H dx = some (.own a) := by
  obtain ⟨d, z, ne, ob, mA, n, r, q⟩ := (show ObjOk P w H h a (.ins C dx fs) from hok a _ e)
  exact ⟨mA, ⟨ob, n, ne⟩, r, q, z, d⟩
end

/-! ### what of the text a class must have -/
structure Cls (K : PySem.W.Frag) (C : Addr) : Prop where
  pg : PySem.W.plainGet K C Str.empty = true
  hd : PySem.W.hasDictIn K C = true
  po : PySem.W.plainOver K C = true
  sa : PySem.W.findIn K (.ref C) "__setattr__" = some (some (.builtin "object.__setattr__"))
theorem Cls.get {K : PySem.W.Frag} {C : Addr} (c : Cls K C) (f : Str) : PySem.W.plainGet K C f = true := c.pg
/-- no class of it has the name -/
def NoAttr (K : PySem.W.Frag) (C : Addr) (f : Str) : Prop := PySem.W.findIn K (.ref C) f = some none
theorem NoAttr.taker {K : PySem.W.Frag} {C : Addr} {f : Str} (n : NoAttr K C f) : PySem.W.takerIn K C f = some none := by
  unfold PySem.W.takerIn
  rw [show PySem.W.findIn K (.ref C) f = some none from n]
  rfl
/-- a constant of the class -/
structure Con (K : PySem.W.Frag) (C : Addr) (f : Str) (v : V) (u : Value) : Prop where
  at_ : PySem.W.findIn K (.ref C) f = some (some u)
  rel : RelV v u
  get : PySem.W.specialIn K u "__get__" = some none
  cp : PySem.W.copiedNames.contains f = false
/-- a method: a plain def of the class or of one above it -/
structure Meth (K : PySem.W.Frag) (C : Addr) (m : Str) (f : Addr) : Prop where
  at_ : PySem.W.findIn K (.ref C) m = some (some (.ref f))
  fn : PySem.W.isFn K (.ref f) = true
  kp : PySem.W.keepIn K (.ref f) = true

section
variable {X : Cx} {pins : List (Addr × Obj)} {σ : St} {H : Hp} {s : Shared} {a C dx : Addr} {fs : List (Str × V)} {f : Str} {v : V} {A : Around} {E : Value → Shared → Prop}

theorem getattr_ok {b : Bool} {Q : Value → Shared → Prop} (I : Inv X pins σ H s) (e : H a = some (.ins C dx fs)) (c : Cls X.K C) (n : NoAttr X.K C f) (l : fs.lookup f = some v)
    (h : ∀ u s', Inv X pins σ H s' → RelV v u → Q u s') : wpAny (model X.prog X.w) A (getAttr (.ref a) f b) Q E s := by
  obtain ⟨mA, O, r, _, _, _⟩ := ins_get I.hok e
  obtain ⟨u, hu, ru⟩ := RelO.some_of (v := v) (o := mA f) (by rw [← l]; exact r f)
  exact get_map I.kIn O (c.get f) c.hd n hu (handed_of ru) (h u _ (I.tok _) ru)

theorem getcon_ok {b : Bool} {u : Value} {Q : Value → Shared → Prop} (I : Inv X pins σ H s) (e : H a = some (.ins C dx fs)) (c : Cls X.K C) (k : Con X.K C f v u) (l : fs.lookup f = none)
    (h : ∀ s', Inv X pins σ H s' → Q u s') : wpAny (model X.prog X.w) A (getAttr (.ref a) f b) Q E s := by
  obtain ⟨mA, O, r, _, _, _⟩ := ins_get I.hok e
  have hn : mA f = none := RelO.none_of (by rw [← l]; exact r f)
  exact get_const I.kIn O (c.get f) c.hd k.at_ k.get k.cp hn (handed_of k.rel) (h _ (I.tok _))

theorem getmeth_ok {m : Str} {g : Addr} {pl : Sem Bool} {Q : Value × List Value → Shared → Prop} (I : Inv X pins σ H s) (e : H a = some (.ins C dx fs)) (c : Cls X.K C) (k : Meth X.K C m g) (l : fs.lookup m = none)
    (h : Q (.ref g, [.ref a]) s) : wpAny (model X.prog X.w) A (getMethod (.ref a) m pl) Q E s := by
  obtain ⟨mA, O, r, _, _, _⟩ := ins_get I.hok e
  have hn : mA m = none := RelO.none_of (by rw [← l]; exact r m)
  exact get_meth I.kIn O (c.get m) k.at_ k.fn hn h

theorem setattr_ok {y : V} {u : Value} {Q : Unit → Shared → Prop} (I : Inv X pins σ H s) (e : H a = some (.ins C dx fs)) (c : Cls X.K C) (n : NoAttr X.K C f) (hl : fs.length < 1000) (ry : RelV y u)
    (h : ∀ s', Inv X pins σ (upd H a (.ins C dx (putF f y fs))) s' → Q () s') : wpAny (model X.prog X.w) A (setAttr (.ref a) f u) Q E s := by
  obtain ⟨mA, O, r, wi, _, ho⟩ := ins_get I.hok e
  have hz : (fs.map (·.1)).length ≤ sizeLine := by rw [List.length_map, sizeLine_eq]; omega
  refine set_map I.kIn O c.sa c.po n.taker c.hd wi hz fun h' O' sb => h _ ?_
  have hd : ∃ o, h'.get? dx = some o := let ⟨o, _, _, e', _⟩ := O'.ns; ⟨o, e'⟩
  refine I.write (x := a) (e := dx) (by rw [e]; exact True.intro) (.inr ho) (fun b q hb z => (sb.2 b hb).trans z) hd ?_
  refine ⟨by rw [upd_ne O.ne]; exact ho, ?_, O.ne, O'.obj, _, O'.ns, fun g => ?_, fun g hg => ?_⟩
  · have := length_putF f y fs; omega
  · show RelO ((putF f y fs).lookup g) (if g = f then some u else mA g)
    rw [lookup_putF]
    by_cases q : g = f
    · rw [if_pos q, if_pos q]; exact ry
    · rw [if_neg q, if_neg q]; exact r g
  · by_cases q : g = f
    · rw [q]; exact (keys_putF f y fs).1
    · refine (keys_putF f y fs).2 g (wi g fun z => hg ?_)
      show (if g = f then some u else mA g) = none
      rw [if_neg q]; exact z

/-- a new instance, tracked, without attributes -/
theorem Inv.made (I : Inv X pins σ H s) : Inv X pins σ (upd (upd H s.heap.objs.size (.own (s.heap.objs.size + 1))) (s.heap.objs.size + 1) (.ins C s.heap.objs.size []))
    { s with heap := (s.heap.push PySem.W.emptyDict).push (PySem.W.instObj C s.heap.objs.size) } := by
  have e1 : (s.heap.push PySem.W.emptyDict).get? s.heap.objs.size = some PySem.W.emptyDict := Heap.get?_push_size s.heap rfl
  have e2 : ((s.heap.push PySem.W.emptyDict).push (PySem.W.instObj C s.heap.objs.size)).get? (s.heap.objs.size + 1) = some (PySem.W.instObj C s.heap.objs.size) := by
    have := Heap.get?_push_size (s.heap.push PySem.W.emptyDict) (o := PySem.W.instObj C s.heap.objs.size) rfl
    rwa [Heap.size_push] at this
  have e3 : (s.heap.push PySem.W.emptyDict).Ns s.heap.objs.size (fun _ => none) := ⟨PySem.W.emptyDict, #[], _, e1, rfl, (fun e he => absurd he (by simp)), fun _ => rfl⟩
  have I1 := I.laid (a := s.heap.objs.size) (o := .own (s.heap.objs.size + 1)) (h' := s.heap.push PySem.W.emptyDict) (t' := s.toks) (fun b u q => Heap.get?_push_of_some _ q) (Nat.le_refl _) ⟨_, e1⟩
  refine I1.laid (a := s.heap.objs.size + 1) (o := .ins C s.heap.objs.size []) (t' := s.toks) (fun b u q => Heap.get?_push_of_some _ q) (Nat.le_of_eq (Heap.size_push _ _)) ?_
  have ne : s.heap.objs.size ≠ s.heap.objs.size + 1 := Nat.ne_of_lt (Nat.lt_succ_self _)
  refine ⟨by rw [upd_ne ne, upd_same], Nat.zero_le _, ne, e2, fun _ => none, (Heap.Ns1.of_empty e3).at fun o q => Heap.get?_push_of_some _ q, fun _ => True.intro, fun y hy => absurd rfl hy⟩

/-- e.f where nothing but the object is asked: through attributeBase (super) and the last hold -/
theorem attr_of {prog : Program} {w : World} {env : Env} {e : Expr} {f : Str} {pos : Pos} {s : Shared} {Q : Value → Shared → Prop} (hb : attributeBase e f env (eval e env) = eval e env)
    (h : wpAny (model prog w) A (eval e env) (fun o s₁ => wpAny (model prog w) A (getAttr o f true) Q E s₁) E s) : wpAny (model prog w) A (eval (.Attribute e f pos) env) Q E s :=
  Attribute_any_ h (by rw [arm_eval_Attribute, hb])
end

/-! ### readings and rules -/
/-- e.f, an attribute of the instance -/
def tFld (K : PySem.W.Frag) (ta : TE) (f : Str) : TE := fun σ H Q => ta σ H fun x H1 => ∃ a C dx fs v, x = .ref a ∧ H1 a = some (.ins C dx fs) ∧ Cls K C ∧ NoAttr K C f ∧ fs.lookup f = some v ∧ Q v H1
/-- e.f, a constant of the class -/
def tCon (K : PySem.W.Frag) (ta : TE) (f : Str) : TE := fun σ H Q => ta σ H fun x H1 => ∃ a C dx fs v u, x = .ref a ∧ H1 a = some (.ins C dx fs) ∧ Cls K C ∧ Con K C f v u ∧ fs.lookup f = none ∧ Q v H1
/-- e.f = value -/
def sFld (K : PySem.W.Frag) (ta tv : TE) (f : Str) : TS := fun D σ H => tv σ H fun y H1 => ta σ H1 fun x H2 => ∃ a C dx fs, x = .ref a ∧ H2 a = some (.ins C dx fs) ∧ Cls K C ∧ NoAttr K C f ∧ fs.length < 1000 ∧
  D.nx σ (upd H2 a (.ins C dx (putF f y fs)))
/-- an augmented operator on two values -/
def InOp (X : Cx) (op : Operator) (rd : V → V → Hp → VK → Prop) : Prop :=
  ∀ (pins : List (Addr × Obj)) (s : Shared) (σ : St) (H : Hp) (x y : V) (u v : Value) (Q : VK), Inv X pins σ H s → RelV x u → RelV y v → rd x y H Q → wpAny (model X.prog X.w) X.A (inplaceOp op u v) (EP X pins σ Q) X.xe s
/-- e.f op= value -/
def sFldAug (K : PySem.W.Frag) (ta tv : TE) (rd : V → V → Hp → VK → Prop) (f : Str) : TS := fun D σ H => ta σ H fun x H1 => ∃ a C dx fs v, x = .ref a ∧ H1 a = some (.ins C dx fs) ∧ Cls K C ∧ NoAttr K C f ∧ fs.lookup f = some v ∧
  tv σ H1 fun y H2 => rd v y H2 fun z H3 => ∃ dx' fs', H3 a = some (.ins C dx' fs') ∧ fs'.length < 1000 ∧ D.nx σ (upd H3 a (.ins C dx' (putF f z fs')))

section
variable {X : Cx} {o e value : Expr} {f : Str} {pos pos' tpos : Pos} {ta tv : TE}
theorem pe_fld (he : PE X e ta) (hb : attributeBase e f X.env (eval e X.env) = eval e X.env) : PE X (.Attribute e f pos) (tFld X.K ta f) := by
  intro pins s σ H Q I h
  refine attr_of hb (thn (he pins s σ H _ I h) fun u s1 ⟨x, H1, I1, rx, a, C, dx, fs, v, ex, ea, c, n, l, q⟩ => ?_)
  subst ex
  obtain rfl : u = Value.ref a := rx
  exact getattr_ok I1 ea c n l fun u' s2 I2 ru => ⟨v, H1, I2, ru, q⟩
theorem pe_con (he : PE X e ta) (hb : attributeBase e f X.env (eval e X.env) = eval e X.env) : PE X (.Attribute e f pos) (tCon X.K ta f) := by
  intro pins s σ H Q I h
  refine attr_of hb (thn (he pins s σ H _ I h) fun u s1 ⟨x, H1, I1, rx, a, C, dx, fs, v, u0, ex, ea, c, k, l, q⟩ => ?_)
  subst ex
  obtain rfl : u = Value.ref a := rx
  exact getcon_ok I1 ea c k l fun s2 I2 => ⟨v, H1, I2, k.rel, q⟩
theorem ps_fld (ha : PE X o ta) (hv : PE X value tv) (hs : swapsWith value (some (.Attribute o f pos')) pos.line X.env = pure false) : PS X (.Assign [.Attribute o f pos'] value pos) (sFld X.K ta tv f) := by
  intro pins s σ H D I h
  refine plainObj_wpAny_Assign_Attribute (thn (hv pins s σ H _ I h) fun u s1 ⟨y, H1, I1, ry, q⟩ => thn (ha pins s1 σ H1 _ I1 q) fun ov s2 ⟨x, H2, I2, rx, a, C, dx, fs, ex, ea, c, n, l, q2⟩ => ?_) hs
  subst ex
  obtain rfl : ov = Value.ref a := rx
  exact setattr_ok I2 ea c n l ry fun s3 I3 => ⟨σ, _, I3, q2⟩
theorem ps_fldaug {op : Operator} {rd : V → V → Hp → VK → Prop} (ha : PE X o ta) (hv : PE X value tv) (hop : InOp X op rd) : PS X (.AugAssign (.Attribute o f tpos) op value pos) (sFldAug X.K ta tv rd f) := by
  intro pins s σ H D I h
  refine wpAny_AugAssign_AttributeAny (thn (ha pins s σ H _ I h) fun ov s1 ⟨x, H1, I1, rx, a, C, dx, fs, v, ex, ea, c, n, l, q⟩ => ?_)
  subst ex
  obtain rfl : ov = Value.ref a := rx
  refine getattr_ok I1 ea c n l fun u s2 I2 ru => thn (hv pins s2 σ H1 _ I2 q) fun w3 s3 ⟨y, H2, I3, ry, q3⟩ => thn (hop pins s3 σ H2 v y u w3 _ I3 ru ry q3) fun w4 s4 ⟨z, H3, I4, rz, dx', fs', ea', l', q4⟩ => ?_
  exact setattr_ok I4 ea' c n l' rz fun s5 I5 => ⟨σ, _, I5, q4⟩
def rAdd : V → V → Hp → VK → Prop := fun x y H Q => ∃ i j, x = .int i ∧ y = .int j ∧ Q (.int (i + j)) H
def rSub : V → V → Hp → VK → Prop := fun x y H Q => ∃ i j, x = .int i ∧ y = .int j ∧ Q (.int (i - j)) H
theorem in_add : InOp X .Add rAdd := by
  rintro pins s σ H x y u v Q I rx ry ⟨i, j, rfl, rfl, q⟩
  obtain ⟨t, rfl⟩ := (show ∃ t, u = Value.int i t from rx)
  obtain ⟨t', rfl⟩ := (show ∃ t', v = Value.int j t' from ry)
  exact PyProof.Rows.iadd_int ⟨.int (i + j), H, I.tok _, ⟨_, rfl⟩, q⟩
theorem in_sub : InOp X .Sub rSub := by
  rintro pins s σ H x y u v Q I rx ry ⟨i, j, rfl, rfl, q⟩
  obtain ⟨t, rfl⟩ := (show ∃ t, u = Value.int i t from rx)
  obtain ⟨t', rfl⟩ := (show ∃ t', v = Value.int j t' from ry)
  exact PyProof.Rows.isub_int ⟨.int (i - j), H, I.tok _, ⟨_, rfl⟩, q⟩

/-- what is between an instance and its method: the tree of a method call -/
theorem methcall_of {pl : Sem Bool} {m : Str} {apos : Pos} {args : List Expr} {pins : List (Addr × Obj)} {s : Shared} {σ : St} {H : Hp} {Q : Value → Shared → Prop} {te : TE} (he : PE X e te) (I : Inv X pins σ H s)
    (h : te σ H fun x H1 => ∃ a C dx fs g, x = .ref a ∧ H1 a = some (.ins C dx fs) ∧ Cls X.K C ∧ Meth X.K C m g ∧ fs.lookup m = none ∧
      ∀ s1, Inv X pins σ H1 s1 → wpAny (model X.prog X.w) X.A (callWith pos (.ref g) [.ref a] (backTo pos (starEach args X.env)) (backToKw pos (keywordEach [] X.env))) Q X.xe s1)
    (ht : eval (.Call (.Attribute e m apos) args [] pos) X.env = (do
      let ov ← eval e X.env
      standAt apos.atName
      let (f, first) ← holding [ov] (getMethod ov m pl)
      callWith pos f first (backTo pos (starEach args X.env)) (backToKw pos (keywordEach [] X.env)))) :
    wpAny (model X.prog X.w) X.A (eval (.Call (.Attribute e m apos) args [] pos) X.env) Q X.xe s := by
  refine PySem.W.methodCall_KW (pl := pl) (thn (he pins s σ H _ I h) fun u s1 ⟨x, H1, I1, rx, a, C, dx, fs, g, ex, ea, c, k, l, q⟩ => ?_) ht
  subst ex
  obtain rfl : u = Value.ref a := rx
  exact getmeth_ok I1 ea c k l (q s1 I1)
end

/-! ### isinstance -/
section
variable {X : Cx} {pins : List (Addr × Obj)} {σ : St} {H : Hp} {s : Shared} {A : Around} {E : Value → Shared → Prop} {Q : Value → Shared → Prop} {c : Value} {b : Bool}
/-- the type of a value, as the fragment's deciders take it; for an instance its class -/
inductive TyOf (K : PySem.W.Frag) (H : Hp) : V → Value → Prop where
  | non : TyOf K H .non (.type "NoneType")
  | bl (x : Bool) : TyOf K H (.bl x) (.type "bool")
  | int (i : Int) : TyOf K H (.int i) (.type "int")
  | str (x : Str) : TyOf K H (.str x) (.type "str")
  | flt (x : UInt64) : TyOf K H (.flt x) (.type "float")
  | lst {a : Addr} {xs : List V} (e : H a = some (.lst xs)) : TyOf K H (.ref a) (.type "list")
  | frz {a : Addr} {o : Obj} {xs : List V} (e : H a = some (.frz o (.lst xs))) : TyOf K H (.ref a) (.type "list")
  | tup {a : Addr} {xs : List V} (e : H a = some (.tup xs)) : TyOf K H (.ref a) (.type "tuple")
  | dK {a : Addr} {kvs : List (Key × V)} (e : H a = some (.dK kvs)) : TyOf K H (.ref a) (.type "dict")
  | dT {a : Addr} {kvs : List (List Key × V)} (e : H a = some (.dT kvs)) : TyOf K H (.ref a) (.type "dict")
  | ins {a C dx : Addr} {fs : List (Str × V)} (e : H a = some (.ins C dx fs)) (cl : Cls K C) (ha : PySem.W.findIn K (.ref C) "__class__" = some (some (.builtin "object.__class__")))
      (hn : PySem.W.specialIn K (.builtin "object.__class__") "__get__" = some (some (.builtin "getset_descriptor.__get__"))) (htk : PySem.W.takesIn K (.builtin "object.__class__") = some true)
      (hm : PySem.W.mroIn K C (.type "object") = some true) : TyOf K H (.ref a) (.ref C)
/-- isinstance(x, c) for one class c, a built-in or an own one: kitOne's answer -/
theorem isinst_ok {x : V} {u t : Value} (I : Inv X pins σ H s) (rx : RelV x u) (ty : TyOf X.K H x t) (e : PySem.W.kitOne X.K t c = some b) (h : ∀ tk, Q (.bool b) { s with toks := tk }) :
    wpAny (model X.prog X.w) A (call (.builtin "isinstance") [u, c]) Q E s := by
  cases ty with
  | non => cases (show u = Value.none from rx); exact PySem.W.kia_one PySem.W.kitx_none I.kIn True.intro e (fun z => nomatch z) h
  | bl y => cases (show u = Value.bool y from rx); exact PySem.W.kia_one PySem.W.kitx_bool I.kIn True.intro e (fun z => nomatch z) h
  | int i => obtain ⟨t, q⟩ := (show ∃ t, u = Value.int i t from rx); cases q; exact PySem.W.kia_one PySem.W.kitx_int I.kIn True.intro e (fun z => nomatch z) h
  | str y => obtain ⟨t, q⟩ := (show ∃ t, u = Value.str y t from rx); cases q; exact PySem.W.kia_one PySem.W.kitx_str I.kIn True.intro e (fun z => nomatch z) h
  | flt y => obtain ⟨t, q⟩ := (show ∃ t, u = Value.float y t from rx); cases q; exact PySem.W.kia_one PySem.W.kitx_float I.kIn True.intro e (fun z => nomatch z) h
  | @lst a xs ea =>
    cases (show u = Value.ref a from rx)
    obtain ⟨_, _, n, _, h1⟩ := (show ObjOk X.prog X.w H s.heap a (.lst xs) from I.hok a _ ea)
    exact PySem.W.kia_one PySem.W.kitx_list I.kIn ⟨_, h1, rfl⟩ e (fun z => nomatch z) h
  | @frz a ob xs ea =>
    cases (show u = Value.ref a from rx)
    obtain ⟨_, _, _, n, _, h1⟩ := (show ObjOk X.prog X.w H s.heap a (.frz ob (.lst xs)) from I.hok a _ ea)
    exact PySem.W.kia_one PySem.W.kitx_list I.kIn ⟨_, h1, rfl⟩ e (fun z => nomatch z) h
  | @tup a xs ea =>
    cases (show u = Value.ref a from rx)
    obtain ⟨_, _, _, p⟩ := (show ObjOk X.prog X.w H s.heap a (.tup xs) from I.hok a _ ea)
    obtain ⟨o, h1, h2, _⟩ := p
    exact PySem.W.kia_one PySem.W.kitx_tuple I.kIn ⟨o, h1, h2⟩ e (fun z => nomatch z) h
  | @dK a kvs ea =>
    cases (show u = Value.ref a from rx)
    obtain ⟨_, _, vs, _, p⟩ := (show ObjOk X.prog X.w H s.heap a (.dK kvs) from I.hok a _ ea)
    obtain ⟨o, es, ep, h1, h2, _⟩ := p
    exact PySem.W.kia_one PySem.W.kitx_dict I.kIn ⟨o, h1, h2.1⟩ e (fun z => nomatch z) h
  | @dT a kvs ea =>
    cases (show u = Value.ref a from rx)
    obtain ⟨_, _, xs, _, o, es, ep, h1, h2, _⟩ := (show ObjOk X.prog X.w H s.heap a (.dT kvs) from I.hok a _ ea)
    exact PySem.W.kia_one PySem.W.kitx_dict I.kIn ⟨o, h1, h2.1⟩ e (fun z => nomatch z) h
  | @ins a C dx fs ea cl ha hn htk hm =>
    cases (show u = Value.ref a from rx)
    obtain ⟨mA, O, _⟩ := ins_get I.hok ea
    obtain ⟨od, J, _⟩ := O.look
    exact PySem.W.kia_one (PySem.W.kitx_own (cl.get _) cl.hd ha hn htk hm) I.kIn J e (fun z => nomatch z) h
end
end L2

namespace L2
open PySem PySem.Spec PyProof.Rows

/-! ### room -/
structure Room (k : Nat) (A : Around) : Prop where
  hd : A.handled = none
  dp : A.depth + 3 * k + 5 < recursionLimit
  un : A.units + 16 * k + 200 < cLine
theorem Room.mono {j k : Nat} {A : Around} (r : Room k A) (h : j ≤ k) : Room j A := ⟨r.hd, by have := r.dp; omega, by have := r.un; omega⟩
theorem Room.deeper {k : Nat} {A : Around} (r : Room (k + 1) A) (env : Env) : Room k (A.deeper env) :=
  ⟨r.hd, by have := r.dp; show A.depth + 1 + 3 * k + 5 < _; omega, by have := r.un; show A.units + 3 + 16 * k + 200 < _; omega⟩
theorem Room.in1 {k : Nat} {A : Around} (r : Room (k + 1) A) : Room k A.in1 :=
  ⟨r.hd, by have := r.dp; show A.depth + 3 * k + 5 < _; omega, by have := r.un; show A.units + 1 + 16 * k + 200 < _; omega⟩
theorem make_depth {A : Around} {C : Addr} {us : List Value} {kw : List (Str × Value)} : (A.under (.builtin "type.__call__" ⟨.ref C :: us, kw⟩)).depth = A.depth + 1 := by
  first | rfl | simp [Around.under, Code.weight, Code.isCreation, Code.isGuard, Code.isCaller, Code.frames, Code.isFrame, guardIds]
theorem make_units {A : Around} {C : Addr} {us : List Value} {kw : List (Str × Value)} : (A.under (.builtin "type.__call__" ⟨.ref C :: us, kw⟩)).units = A.units + 1 := by
  first | rfl | simp [Around.under, Code.cUnits, Code.frames, Code.isFrame]
theorem Room.make {k : Nat} {A : Around} (r : Room (k + 1) A) (C : Addr) (us : List Value) (kw : List (Str × Value)) : Room k (A.under (.builtin "type.__call__" ⟨.ref C :: us, kw⟩)) :=
  ⟨r.hd, by have := r.dp; rw [make_depth]; omega, by have := r.un; rw [make_units]; omega⟩
theorem Room.depth {k : Nat} {A : Around} (r : Room k A) : A.depth < recursionLimit := by have := r.dp; omega
theorem Room.units {k : Nat} {A : Around} (r : Room k A) : A.units + 64 < cLine := by have := r.un; omega
theorem Room.units0 {k : Nat} {A : Around} (r : Room k A) : A.units < cLine := by have := r.un; omega

/-! ### argument lists and displays -/
def tNil : TA := fun _ H Q => Q [] H
def tCons (ta : TE) (tr : TA) : TA := fun σ H Q => ta σ H fun x H1 => tr σ H1 fun xs H2 => Q (x :: xs) H2
section
variable {X : Cx} {e : Expr} {es : List Expr} {te : TE} {t : TA} {pos : Pos}
theorem pa_nil : PA X [] tNil := fun _ _ _ _ H Q I h => Calls.spliced_nil ⟨[], H, I, .nil, h⟩
theorem pa_cons (ha : PE X e te) (hr : PA X es t) (hs : starEach (e :: es) X.env = (false, eval e X.env) :: starEach es X.env := by rfl) : PA X (e :: es) (tCons te t) := by
  intro pos pins s σ H Q I h
  rw [hs]
  show wpAny _ _ (spliced ((false, eval e X.env) :: backTo pos (starEach es X.env))) _ _ s
  refine Calls.spliced_cons (thn (ha pins s σ H _ I h) fun u s1 ⟨x, H1, I1, r1, q1⟩ => ?_)
  exact thn (hr pos pins s1 σ H1 _ I1 q1) fun us s2 ⟨xs, H2, I2, r2, q2⟩ => ⟨x :: xs, H2, I2, .cons r1 r2, q2⟩

/-- a tuple, a list of written items -/
def tTup (t : TA) : TE := fun σ H Q => t σ H fun xs H1 => xs.length ≤ sizeLine ∧ ∀ p, H1 p = none → Q (.ref p) (upd H1 p (.tup xs))
def tLst (t : TA) : TE := fun σ H Q => t σ H fun xs H1 => xs.length ≤ sizeLine ∧ ∀ p, H1 p = none → Q (.ref p) (upd H1 p (.lst xs))
theorem pe_tup {x1} (h : PA X es t) : PE X (.Tuple es x1 pos) (tTup t) := by
  intro pins s σ H Q I hq
  refine wpAny_Tuple_spliced (thn (h pos pins s σ H _ I hq) fun us s1 ⟨xs, H1, I1, r, z, q⟩ => ⟨by rw [← r.length]; exact z, ?_⟩)
  have hf : H1 s1.heap.objs.size = none := I1.hok.fresh (Nat.le_refl _)
  refine ⟨.ref s1.heap.objs.size, upd H1 s1.heap.objs.size (.tup xs), I1.laid (t' := s1.toks) (fun b u e => Heap.get?_push_of_some _ e) (Nat.le_refl _) ?_, rfl, q _ hf⟩
  exact ⟨z, us, r, ⟨_, Heap.get?_push_size _ rfl, rfl, _, rfl⟩⟩
theorem pe_lst (h : PA X es t) : PE X (.List es pos) (tLst t) := by
  intro pins s σ H Q I hq
  refine wpAny_List_spliced (thn (h pos pins s σ H _ I hq) fun us s1 ⟨xs, H1, I1, r, z, q⟩ => ⟨by rw [← r.length]; exact z, ?_⟩)
  have hf : H1 s1.heap.objs.size = none := I1.hok.fresh (Nat.le_refl _)
  refine ⟨.ref s1.heap.objs.size, upd H1 s1.heap.objs.size (.lst xs), I1.laid (t' := s1.toks) (fun b u e => Heap.get?_push_of_some _ e) (Nat.le_refl _) ?_, rfl, q _ hf⟩
  exact ⟨z, us, 0, r, Heap.get?_push_size _ rfl⟩
end

/-! ### what a def promises -/
/-- a def's promise: the bound arguments in the parameters' order, the heap, the wanted end, the wanted exception -/
abbrev Sp := List V → Hp → VK → XK → Prop
/-- how an exception lies behind a call (file 08 gives it): the callers' frames, abstract heap and state ahead of the call, the wish, the exception, the state -/
abbrev CXT := List Env → Hp → Shared → XK → Value → Shared → Prop

/-- the state at a call -/
structure Env0 (P : Program) (w : World) (K : PySem.W.Frag) (mg : Str → Option Value) (base : Heap) (A : Around) (outer : List Env) (s : Shared) (H : Hp) : Prop where
  frames : A.frames = some outer
  mod : Mod K mg base
  bs : ∀ b o, base.get? b = some o → s.heap.get? b = some o ∧ H b = none
  bsz : base.objs.size ≤ s.heap.objs.size
  funs : s.heap.FunFrames base outer
  frf : ∀ b ∈ frs outer, H b = none
  hok : HOk P w H s.heap
  bare : AllBare s.gens
/-- a call's end -/
def CE (outer : List Env) (P : Program) (w : World) (H : Hp) (s : Shared) (Q : VK) (u : Value) (s' : Shared) : Prop :=
  ∃ v H', s'.os = s.os ∧ AllBare s'.gens ∧ Un (frs outer) [] H H' s.heap s'.heap ∧ HOk P w H' s'.heap ∧ RelV v u ∧ Q v H'
def CR (CX : CXT) (outer : List Env) (P : Program) (w : World) (H : Hp) (s : Shared) (Q : VK) (E : XK) (r : Result) (s' : Shared) : Prop :=
  match r with
  | .ok (.ret u) => CE outer P w H s Q u s'
  | .ok _ => False
  | .error e => CX outer H s E e s'
structure FnOk (P : Program) (w : World) (K : PySem.W.Frag) (mg : Str → Option Value) (base : Heap) (CX : CXT) (k : Nat) (f : Addr) (fd : FuncData) (ps : List Str) (sp : Sp) : Prop where
  len : ∀ vs H Q E, sp vs H Q E → vs.length = ps.length
  run : ∀ (A : Around) (outer : List Env) (s : Shared) (H : Hp) (args : Args) (us : List Value) (vs : List V) (Q : VK) (E : XK), Room k A → Env0 P w K mg base A outer s H → BindsTo s fd args (ps.zip us) → Vals vs us → sp vs H Q E →
    codeAny (model P w) A (.call (.ref f) args) (CR CX outer P w H s Q E) s
theorem FnOk.mono {P : Program} {w : World} {K : PySem.W.Frag} {mg : Str → Option Value} {base : Heap} {CX : CXT} {j k : Nat} {f : Addr} {fd : FuncData} {ps : List Str} {sp : Sp} (F : FnOk P w K mg base CX j f fd ps sp) (h : j ≤ k) :
    FnOk P w K mg base CX k f fd ps sp := ⟨F.len, fun A outer s H args us vs Q E hr => F.run A outer s H args us vs Q E (hr.mono h)⟩
/-- a weaker promise -/
theorem FnOk.imp {P : Program} {w : World} {K : PySem.W.Frag} {mg : Str → Option Value} {base : Heap} {CX : CXT} {k : Nat} {f : Addr} {fd : FuncData} {ps : List Str} {sp sp' : Sp} (F : FnOk P w K mg base CX k f fd ps sp)
    (h : ∀ vs H Q E, sp' vs H Q E → sp vs H Q E) : FnOk P w K mg base CX k f fd ps sp' :=
  ⟨fun vs H Q E q => F.len vs H Q E (h _ _ _ _ q), fun A outer s H args us vs Q E hr he hb hv hs => F.run A outer s H args us vs Q E hr he hb hv (h _ _ _ _ hs)⟩

theorem Env0.make {P : Program} {w : World} {K : PySem.W.Frag} {mg : Str → Option Value} {base : Heap} {A : Around} {outer : List Env} {s : Shared} {H : Hp} (e : Env0 P w K mg base A outer s H) (C : Addr) (us : List Value) (kw : List (Str × Value)) :
    Env0 P w K mg base (A.under (.builtin "type.__call__" ⟨.ref C :: us, kw⟩)) outer s H := ⟨by first | exact e.frames | (simpa [Around.under, Code.envs, Code.isFrame, pushEnvs] using e.frames), e.mod, e.bs, e.bsz, e.funs, e.frf, e.hok, e.bare⟩
theorem Env0.in1 {P : Program} {w : World} {K : PySem.W.Frag} {mg : Str → Option Value} {base : Heap} {A : Around} {outer : List Env} {s : Shared} {H : Hp} (e : Env0 P w K mg base A outer s H) :
    Env0 P w K mg base A.in1 outer s H := ⟨e.frames, e.mod, e.bs, e.bsz, e.funs, e.frf, e.hok, e.bare⟩

section
variable {X : Cx} {pins : List (Addr × Obj)} {σ : St} {H : Hp} {s s' : Shared}
/-- from a body: what a callee wants -/
theorem Inv.env0 (I : Inv X pins σ H s) : Env0 X.prog X.w X.K X.mg X.base X.A X.stack s H :=
  ⟨I.ok.frames, I.ok.mod, I.bs, Nat.le_trans I.ok.bsz I.sz, I.stack, I.stkFree, I.hok, I.bare⟩
/-- behind a call -/
theorem Inv.after {Q : VK} {u : Value} (I : Inv X pins σ H s) (h : CE X.stack X.prog X.w H s Q u s') : EP X pins σ Q u s' := by
  obtain ⟨v, H', os, bare, un, hok, r, q⟩ := h
  obtain ⟨hh, g, d, t, os'⟩ := s'
  obtain rfl : os' = s.os := os
  exact ⟨v, H', I.call (h' := hh) (g' := g) (d' := d) (t' := t) (ch := []) un hok bare (fun b z => absurd z (by simp)), r, q⟩
end

/-! ### calls -/
/-- f(..): the written arguments, then the defaults dvs; E: what is wanted of an exception -/
def tCall (sp : Sp) (dvs : List V) (E : XK) (t : TA) : TE := fun σ H Q => t σ H fun vs H1 => sp (vs ++ dvs) H1 Q E
/-- o.m(..) of an instance of the class at C -/
def tMeth (C : Addr) (m : Str) (sp : Sp) (dvs : List V) (E : XK) (ta : TE) (t : TA) : TE := fun σ H Q => ta σ H fun x H1 => ∃ a dx fs, x = .ref a ∧ H1 a = some (.ins C dx fs) ∧ fs.lookup m = none ∧
  t σ H1 fun vs H2 => sp (x :: (vs ++ dvs)) H2 Q E
/-- C(..): a new instance and its dict, then __init__ -/
def tMake (C : Addr) (sp : Sp) (dvs : List V) (E : XK) (t : TA) : TE := fun σ H Q => t σ H fun vs H1 => ∀ x dx, H1 x = none → H1 dx = none → dx ≠ x →
  sp (.ref x :: (vs ++ dvs)) (upd (upd H1 dx (.own x)) x (.ins C dx [])) (fun v H2 => v = .non ∧ Q (.ref x) H2) E

/-- how the parameters are bound: us the positional arguments, kw the keywords' values by name, ds the defaults that fill up -/
def Binds (K : PySem.W.Frag) (fd : FuncData) (ps : List Str) (ds : List Value) : Prop :=
  ∀ (s : Shared) (us : List Value), K.In s.heap → (us ++ ds).length = ps.length → BindsTo s fd ⟨us, []⟩ (ps.zip (us ++ ds))
/-- every parameter is given -/
theorem Binds.all {K : PySem.W.Frag} {fd : FuncData} {ps : List Str} (h : ∀ us : List Value, us.length = ps.length → bindArgs fd ⟨us, []⟩ = pure (ps.zip us)) : Binds K fd ps [] := fun s us _ hl => by
  rw [List.append_nil] at hl ⊢
  exact .of_eq (h us hl)

/-- an exception of a callee reaches what this body wants of exceptions -/
def Passes (CX : CXT) (X : Cx) (E : XK) : Prop := ∀ (pins : List (Addr × Obj)) (σ : St) (H : Hp) (s : Shared) (e : Value) (s' : Shared), Inv X pins σ H s → CX X.stack H s E e s' → X.xe e s'

section
variable {X : Cx} {CX : CXT} {k : Nat} {f C : Addr} {fd : FuncData} {ps : List Str} {sp : Sp} {dvs : List V} {ds : List Value} {E : XK} {x m : Str} {p pos apos : Pos} {e o : Expr} {es : List Expr} {ta : TE} {t : TA}

/-- the callee runs -/
theorem run_fn {pins : List (Addr × Obj)} {σ : St} {H : Hp} {s : Shared} {Q : VK} {us : List Value} {vs : List V} (F : FnOk X.prog X.w X.K X.mg X.base CX k f fd ps sp) (hr : Room k X.A) (hb : Binds X.K fd ps ds) (hd : Vals dvs ds) (hx : Passes CX X E)
    (I : Inv X pins σ H s) (r : Vals vs us) (h : sp (vs ++ dvs) H Q E) : wpAny (model X.prog X.w) X.A (call (.ref f) us) (EP X pins σ Q) X.xe s := by
  have r2 : Vals (vs ++ dvs) (us ++ ds) := r.append hd
  have hl : (us ++ ds).length = ps.length := by rw [← r2.length]; exact F.len _ _ _ _ h
  refine wpAny_call (codeAny_mono (F.run X.A X.stack s H ⟨us, []⟩ (us ++ ds) (vs ++ dvs) Q E hr I.env0 (hb s us I.kIn hl) r2 h) fun r s' hq => ?_)
  cases r with
  | error e => exact hx pins σ H s e s' I hq
  | ok fl =>
    cases fl with
    | ret u => exact I.after hq
    | next => exact False.elim hq
    | brk => exact False.elim hq
    | cont => exact False.elim hq

theorem pe_call (F : FnOk X.prog X.w X.K X.mg X.base CX k f fd ps sp) (hr : Room k X.A) (hg : Gl X x) (hm : X.mg x = some (.ref f)) (hk : PySem.W.keepIn X.K (.ref f) = true) (hb : Binds X.K fd ps ds) (hd : Vals dvs ds) (hx : Passes CX X E)
    (ha : PA X (e :: es) t) (hdb : (x == ("__debug__" : Str)) = false := by decide) (he : starEach (e :: es) X.env = (false, eval e X.env) :: starEach es X.env := by rfl) (hpl : (backTo pos (starEach es X.env)).any (·.1) = false := by rfl) :
    PE X (.Call (.Name x p) (e :: es) [] pos) (tCall sp dvs E t) := by
  intro pins s σ H Q I h
  refine wpAny_Call_Name_kw (ld_glob I hg hm ?_ hdb)
  refine PySem.W.callWith_K (h₀ := X.base) I.ok.mod.kin hk (thn (ha pos pins s σ H _ I h) fun us s1 ⟨vs, H1, I1, r, q⟩ => ⟨I1.kIn, ?_⟩) he hpl
  exact run_fn F hr hb hd hx I1 r q
theorem pe_call0 (F : FnOk X.prog X.w X.K X.mg X.base CX k f fd ps sp) (hr : Room k X.A) (hg : Gl X x) (hm : X.mg x = some (.ref f)) (hk : PySem.W.keepIn X.K (.ref f) = true) (hb : Binds X.K fd ps ds) (hd : Vals dvs ds) (hx : Passes CX X E)
    (hdb : (x == ("__debug__" : Str)) = false := by decide) : PE X (.Call (.Name x p) [] [] pos) (tCall sp dvs E tNil) := by
  intro pins s σ H Q I h
  refine wpAny_Call_Name_kw (ld_glob I hg hm ?_ hdb)
  exact PySem.W.callWith_K0 I.kIn hk (run_fn (us := []) F hr hb hd hx I .nil h)

/-- o.m(e, ..) -/
theorem pe_meth {pl : Sem Bool} (he : PE X o ta) (c : Cls X.K C) (hm : Meth X.K C m f) (F : FnOk X.prog X.w X.K X.mg X.base CX k f fd ps sp) (hr : Room k X.A) (hb : Binds X.K fd ps ds) (hd : Vals dvs ds) (hx : Passes CX X E) (ha : PA X (e :: es) t)
    (hst : starEach (e :: es) X.env = (false, eval e X.env) :: starEach es X.env := by rfl) (hpl : (backTo pos (starEach es X.env)).any (·.1) = false := by rfl)
    (ht : eval (.Call (.Attribute o m apos) (e :: es) [] pos) X.env = (do
      let ov ← eval o X.env
      standAt apos.atName
      let (f, first) ← holding [ov] (getMethod ov m pl)
      callWith pos f first (backTo pos (starEach (e :: es) X.env)) (backToKw pos (keywordEach [] X.env))) := by rfl) :
    PE X (.Call (.Attribute o m apos) (e :: es) [] pos) (tMeth C m sp dvs E ta t) := by
  intro pins s σ H Q I h
  refine PySem.W.methodCall_KW (pl := pl) (thn (he pins s σ H _ I h) fun u s1 ⟨x, H1, I1, rx, a, dx, fs, ex, ea, l, q⟩ => ?_) ht
  subst ex
  obtain rfl : u = Value.ref a := rx
  refine getmeth_ok I1 ea c hm l ?_
  refine PySem.W.callWith_K (first := [.ref a]) (h₀ := X.base) I.ok.mod.kin hm.kp (thn (ha pos pins s1 σ H1 _ I1 q) fun us s2 ⟨vs, H2, I2, r, q2⟩ => ⟨I2.kIn, ?_⟩) hst hpl
  exact run_fn (us := .ref a :: us) (vs := .ref a :: vs) F hr hb hd hx I2 (.cons rfl r) q2
/-- o.m() -/
theorem pe_meth0 {pl : Sem Bool} (he : PE X o ta) (c : Cls X.K C) (hm : Meth X.K C m f) (F : FnOk X.prog X.w X.K X.mg X.base CX k f fd ps sp) (hr : Room k X.A) (hb : Binds X.K fd ps ds) (hd : Vals dvs ds) (hx : Passes CX X E)
    (ht : eval (.Call (.Attribute o m apos) [] [] pos) X.env = (do
      let ov ← eval o X.env
      standAt apos.atName
      let (f, first) ← holding [ov] (getMethod ov m pl)
      callWith pos f first (backTo pos (starEach [] X.env)) (backToKw pos (keywordEach [] X.env))) := by rfl) :
    PE X (.Call (.Attribute o m apos) [] [] pos) (tMeth C m sp dvs E ta tNil) := by
  intro pins s σ H Q I h
  refine PySem.W.methodCall_KW (pl := pl) (thn (he pins s σ H _ I h) fun u s1 ⟨x, H1, I1, rx, a, dx, fs, ex, ea, l, q⟩ => ?_) ht
  subst ex
  obtain rfl : u = Value.ref a := rx
  refine getmeth_ok I1 ea c hm l ?_
  exact PySem.W.callWith_K0 (first := [.ref a]) I1.kIn hm.kp (run_fn (us := [.ref a]) (vs := [.ref a]) F hr hb hd hx I1 (.cons rfl .nil) q)

/-- what a class must have to be made -/
structure Mk (K : PySem.W.Frag) (C f : Addr) : Prop where
  makes : PySem.W.makesIn K C = true
  init : PySem.W.findIn K (.ref C) "__init__" = some (some (.ref f))
  fn : PySem.W.isFn K (.ref f) = true
  kp : PySem.W.keepIn K (.ref C) = true

theorem run_make {pins : List (Addr × Obj)} {σ : St} {H : Hp} {s : Shared} {Q : VK} {us : List Value} {vs : List V} (M : Mk X.K C f) (F : FnOk X.prog X.w X.K X.mg X.base CX k f fd ps sp) (hr : Room (k + 1) X.A) (hb : Binds X.K fd ps ds) (hd : Vals dvs ds)
    (hx : Passes CX X E) (I : Inv X pins σ H s) (r : Vals vs us)
    (h : ∀ x dx, H x = none → H dx = none → dx ≠ x → sp (.ref x :: (vs ++ dvs)) (upd (upd H dx (.own x)) x (.ins C dx [])) (fun v H2 => v = .non ∧ Q (.ref x) H2) E) :
    wpAny (model X.prog X.w) X.A (call (.ref C) us) (EP X pins σ Q) X.xe s := by
  have hq := h (s.heap.objs.size + 1) s.heap.objs.size (I.hok.fresh (Nat.le_succ _)) (I.hok.fresh (Nat.le_refl _)) (Nat.ne_of_lt (Nat.lt_succ_self _))
  have I2 := Inv.made (C := C) I
  have r2 : Vals (V.ref (s.heap.objs.size + 1) :: (vs ++ dvs)) (Value.ref (s.heap.objs.size + 1) :: (us ++ ds)) := .cons rfl (r.append hd)
  have hl : (Value.ref (s.heap.objs.size + 1) :: us ++ ds).length = ps.length := by
    have e := r2.length
    rw [F.len _ _ _ _ hq] at e
    exact e.symm
  refine wpAny_call (make_map (f := f) I.kIn M.makes M.init (beq_iff_eq.mp M.fn) (codeAny_mono (F.run _ X.stack _ _ ⟨Value.ref (s.heap.objs.size + 1) :: us, []⟩ (Value.ref (s.heap.objs.size + 1) :: (us ++ ds)) _ _ E (hr.make C us [])
    (I2.env0.make C us []) (hb _ (Value.ref (s.heap.objs.size + 1) :: us) I2.kIn hl) r2 hq) fun r s' hq' => ?_))
  cases r with
  | error e => exact hx pins σ _ _ e s' I2 hq'
  | ok fl =>
    cases fl with
    | ret u =>
      obtain ⟨v, H', I3, rv, ev, q3⟩ := I2.after hq'
      subst ev
      exact ⟨rv, ⟨V.ref (s.heap.objs.size + 1), H', I3, rfl, q3⟩⟩
    | next => exact False.elim hq'
    | brk => exact False.elim hq'
    | cont => exact False.elim hq'
theorem pe_make (M : Mk X.K C f) (F : FnOk X.prog X.w X.K X.mg X.base CX k f fd ps sp) (hr : Room (k + 1) X.A) (hg : Gl X x) (hm : X.mg x = some (.ref C)) (hb : Binds X.K fd ps ds) (hd : Vals dvs ds) (hx : Passes CX X E)
    (ha : PA X (e :: es) t) (hdb : (x == ("__debug__" : Str)) = false := by decide) (he : starEach (e :: es) X.env = (false, eval e X.env) :: starEach es X.env := by rfl) (hpl : (backTo pos (starEach es X.env)).any (·.1) = false := by rfl) :
    PE X (.Call (.Name x p) (e :: es) [] pos) (tMake C sp dvs E t) := by
  intro pins s σ H Q I h
  refine wpAny_Call_Name_kw (ld_glob I hg hm ?_ hdb)
  refine PySem.W.callWith_K (h₀ := X.base) I.ok.mod.kin M.kp (thn (ha pos pins s σ H _ I h) fun us s1 ⟨vs, H1, I1, r, q⟩ => ⟨I1.kIn, ?_⟩) he hpl
  exact run_make M F hr hb hd hx I1 r q
theorem pe_make0 (M : Mk X.K C f) (F : FnOk X.prog X.w X.K X.mg X.base CX k f fd ps sp) (hr : Room (k + 1) X.A) (hg : Gl X x) (hm : X.mg x = some (.ref C)) (hb : Binds X.K fd ps ds) (hd : Vals dvs ds) (hx : Passes CX X E)
    (hdb : (x == ("__debug__" : Str)) = false := by decide) : PE X (.Call (.Name x p) [] [] pos) (tMake C sp dvs E tNil) := by
  intro pins s σ H Q I h
  refine wpAny_Call_Name_kw (ld_glob I hg hm ?_ hdb)
  exact PySem.W.callWith_K0 I.kIn M.kp (run_make (us := []) M F hr hb hd hx I .nil h)
end

/-! ### keywords -/
/-- the values of the keywords, from the left -/
def PK (X : Cx) (kws : List Keyword) (t : TA) : Prop :=
  ∀ (pos : Pos) (pins : List (Addr × Obj)) (s : Shared) (σ : St) (H : Hp) (Q : List V → Hp → Prop), Inv X pins σ H s → t σ H Q → wpAny (model X.prog X.w) X.A (evalAll ((backToKw pos (keywordEach kws X.env)).map (·.2))) (AP X pins σ Q) X.xe s
section
variable {X : Cx} {CX : CXT} {k : Nat} {f C : Addr} {fd : FuncData} {ps ks : List Str} {sp : Sp} {E : XK} {x m : Str} {p pos apos kpos : Pos} {e o : Expr} {es : List Expr} {kws : List Keyword} {te ta : TE} {t tk : TA} {nm : Option Str}
theorem pk_nil : PK X [] tNil := fun _ _ _ _ H Q I h => wpAny_evalAll_nil ⟨[], H, I, .nil, h⟩
theorem pk_cons (ha : PE X e te) (hr : PK X kws t) : PK X (⟨nm, e, kpos⟩ :: kws) (tCons te t) := by
  intro pos pins s σ H Q I h
  show wpAny _ _ (evalAll ((do let v ← eval e X.env; standAt pos; pure v) :: (backToKw pos (keywordEach kws X.env)).map (·.2))) _ _ s
  refine wpAny_evalAll_cons (wpAny_bind (thn (ha pins s σ H _ I h) fun u s1 ⟨x, H1, I1, r1, q1⟩ => wpAny_bind (wpAny_standAt (wpAny_pure ?_))))
  exact thn (hr pos pins s1 σ H1 _ I1 q1) fun us s2 ⟨xs, H2, I2, r2, q2⟩ => ⟨x :: xs, H2, I2, .cons r1 r2, q2⟩

/-- how a call with keywords binds: g puts the positional values us and the keywords' values ws (names ks) in the parameters' order, defaults among them -/
structure KBinds (K : PySem.W.Frag) (fd : FuncData) (ps ks : List Str) (g : List Value → List Value → List Value) (gV : List V → List V → List V) : Prop where
  to : ∀ (s : Shared) (us ws : List Value), K.In s.heap → (g us ws).length = ps.length → BindsTo s fd ⟨us, ks.zip ws⟩ (ps.zip (g us ws))
  rel : ∀ {vs : List V} {us : List Value} {zs : List V} {ws : List Value}, Vals vs us → Vals zs ws → Vals (gV vs zs) (g us ws)
def tCallK (sp : Sp) (gV : List V → List V → List V) (E : XK) (t tk : TA) : TE := fun σ H Q => t σ H fun vs H1 => tk σ H1 fun zs H2 => sp (gV vs zs) H2 Q E
variable {g : List Value → List Value → List Value} {gV : List V → List V → List V}
theorem run_fnk {pins : List (Addr × Obj)} {σ : St} {H : Hp} {s : Shared} {Q : VK} {us ws : List Value} {vs zs : List V} (F : FnOk X.prog X.w X.K X.mg X.base CX k f fd ps sp) (hr : Room k X.A) (hb : KBinds X.K fd ps ks g gV) (hx : Passes CX X E)
    (I : Inv X pins σ H s) (r : Vals vs us) (rz : Vals zs ws) (h : sp (gV vs zs) H Q E) : wpAny (model X.prog X.w) X.A (call (.ref f) us (ks.zip ws)) (EP X pins σ Q) X.xe s := by
  have r2 := hb.rel r rz
  have hl : (g us ws).length = ps.length := by rw [← r2.length]; exact F.len _ _ _ _ h
  refine wpAny_call (codeAny_mono (F.run X.A X.stack s H ⟨us, ks.zip ws⟩ (g us ws) (gV vs zs) Q E hr I.env0 (hb.to s us ws I.kIn hl) r2 h) fun r s' hq => ?_)
  cases r with
  | error e => exact hx pins σ H s e s' I hq
  | ok fl =>
    cases fl with
    | ret u => exact I.after hq
    | next => exact False.elim hq
    | brk => exact False.elim hq
    | cont => exact False.elim hq
/-- f(e, .., k = v, ..) -/
theorem pe_callK (F : FnOk X.prog X.w X.K X.mg X.base CX k f fd ps sp) (hr : Room k X.A) (hg : Gl X x) (hm : X.mg x = some (.ref f)) (hk : PySem.W.keepIn X.K (.ref f) = true) (hb : KBinds X.K fd ps ks g gV) (hx : Passes CX X E)
    (ha : PA X (e :: es) t) (hkw : PK X kws tk) (hall : (backToKw pos (keywordEach kws X.env)).all (·.1.isSome) = true := by rfl) (hks : (backToKw pos (keywordEach kws X.env)).filterMap (·.1) = ks := by rfl)
    (hdb : (x == ("__debug__" : Str)) = false := by decide) (he : starEach (e :: es) X.env = (false, eval e X.env) :: starEach es X.env := by rfl)
    (hpl : ((backTo pos (starEach (e :: es) X.env)).any (·.1) || (backToKw pos (keywordEach kws X.env)).any (·.1.isNone)) = false := by rfl) :
    PE X (.Call (.Name x p) (e :: es) kws pos) (tCallK sp gV E t tk) := by
  intro pins s σ H Q I h
  refine wpAny_Call_Name_kw (ld_glob I hg hm ?_ hdb)
  refine PySem.W.callWith_KW (h₀ := X.base) I.ok.mod.kin hk hall (thn (ha pos pins s σ H _ I h) fun us s1 ⟨vs, H1, I1, r, q⟩ => ?_) hpl he
  refine thn (hkw pos pins s1 σ H1 _ I1 q) fun ws s2 ⟨zs, H2, I2, rz, q2⟩ => ⟨I2.kIn, ?_⟩
  rw [hks]
  exact run_fnk F hr hb hx I2 r rz q2
end

/-! ### a def's body keeps its promise -/
/-- names: the parameters first -/
structure FnScope (N P : List Str) (sc : Scope) : Prop where
  kind : sc.kind = .function
  co : sc.isCoroutine = false
  gen : sc.isGenerator = false
  nd : N.Nodup
  pre : N.take P.length = P
  par : ∀ x ∈ P, sc.names.lookup x = some .local ∨ sc.names.lookup x = some .cell
  nofree : ∀ y ∈ sc.names, y.2 ≠ .free

theorem bindL_out {kindOf : Str → Option NameKind} {x : Str} : ∀ {binds : List (Str × Value)} {m : Str → Option Value}, (∀ v, (x, v) ∉ binds) → bindL kindOf binds m x = m x
  | [], _, _ => rfl
  | (n, v) :: r, m, h => by
    unfold bindL
    rw [bindL_out fun w hw => h w (List.mem_cons_of_mem _ hw)]
    split
    · have : x ≠ n := by rintro rfl; exact h v List.mem_cons_self
      simp [this]
    · rfl
theorem bindC_out {kindOf : Str → Option NameKind} {x : Str} : ∀ {binds : List (Str × Value)} {m : Str → Option Value}, (∀ v, (x, v) ∉ binds) → bindC kindOf binds m x = m x
  | [], _, _ => rfl
  | (n, v) :: r, m, h => by
    unfold bindC
    rw [bindC_out fun w hw => h w (List.mem_cons_of_mem _ hw)]
    split
    · rfl
    · have : x ≠ n := by rintro rfl; exact h v List.mem_cons_self
      simp [this]
theorem bindL_get {kindOf : Str → Option NameKind} {x : Str} {v : Value} : ∀ {P : List Str} {vs : List Value} {i : Nat} {m : Str → Option Value}, P.Nodup → P[i]? = some x → vs[i]? = some v → kindOf x = some .local →
    bindL kindOf (P.zip vs) m x = some v
  | [], _, _, _, _, h, _, _ => by simp at h
  | _ :: _, [], _, _, _, _, h, _ => by simp at h
  | p :: P, w :: vs, 0, m, nd, h1, h2, hk => by
    simp at h1 h2; subst h1; subst h2
    show bindL kindOf ((p, w) :: P.zip vs) m p = _
    unfold bindL
    rw [bindL_out fun v hv => (List.nodup_cons.mp nd).1 (List.of_mem_zip hv).1, if_pos hk]
    simp
  | p :: P, w :: vs, i + 1, m, nd, h1, h2, hk => by
    show bindL kindOf ((p, w) :: P.zip vs) m x = _
    unfold bindL
    exact bindL_get (i := i) (List.nodup_cons.mp nd).2 (by simpa using h1) (by simpa using h2) hk
theorem bindC_get {kindOf : Str → Option NameKind} {x : Str} {v : Value} : ∀ {P : List Str} {vs : List Value} {i : Nat} {m : Str → Option Value}, P.Nodup → P[i]? = some x → vs[i]? = some v → kindOf x ≠ some .local →
    bindC kindOf (P.zip vs) m x = some v
  | [], _, _, _, _, h, _, _ => by simp at h
  | _ :: _, [], _, _, _, _, h, _ => by simp at h
  | p :: P, w :: vs, 0, m, nd, h1, h2, hk => by
    simp at h1 h2; subst h1; subst h2
    show bindC kindOf ((p, w) :: P.zip vs) m p = _
    unfold bindC
    rw [bindC_out fun v hv => (List.nodup_cons.mp nd).1 (List.of_mem_zip hv).1, if_neg hk]
    simp
  | p :: P, w :: vs, i + 1, m, nd, h1, h2, hk => by
    show bindC kindOf ((p, w) :: P.zip vs) m x = _
    unfold bindC
    exact bindC_get (i := i) (List.nodup_cons.mp nd).2 (by simpa using h1) (by simpa using h2) hk

/-- the names' values at the entry -/
def start (N : List Str) (vs : List V) : St := vs.map some ++ List.replicate (N.length - vs.length) none

/-- the context of a def's body, at its entry; an exception leaves the frame, then lies as CX says -/
def cxOf (CX : CXT) (P : Program) (w : World) (K : PySem.W.Frag) (mg : Str → Option Value) (base : Heap) (N : List Str) (qual : Str) (scope : Scope) (f : Addr) (cd : Value) (A : Around) (outer : List Env) (s : Shared) (H : Hp) (E : XK) : Cx where
  prog := P
  w := w
  K := K
  mg := mg
  base := base
  A := A.deeper (envOfC qual scope s.heap.objs.size f cd)
  N := N
  s₀ := s
  H₀ := H
  env := envOfC qual scope s.heap.objs.size f cd
  outer := outer
  stack := envOfC qual scope s.heap.objs.size f cd :: outer
  ex := []
  calm := true
  fn := fun _ => true
  pn := []
  xe := fun e s' => wpAny (model P w) (A.deeper (envOfC qual scope s.heap.objs.size f cd)) (leaving (envOfC qual scope s.heap.objs.size f cd) e) (fun _ s'' => CX outer H s E e s'') (fun e' s'' => CX outer H s E e' s'') s'

theorem cell_has {sc : Scope} {n : Nat} {x : Str} (h : sc.names.lookup x = some .cell) : ∃ c, (cellsFrom n sc.names []).lookup x = some c := by
  have q := PySem.W.cellsFrom_some sc.names n [] (.inl h)
  exact Option.isSome_iff_exists.mp q

theorem inv_start {CX : CXT} {P : Program} {w : World} {K : PySem.W.Frag} {mg : Str → Option Value} {base : Heap} {N ps : List Str} {qual : Str} {scope : Scope} {f : Addr} {cd : Value} {A : Around} {outer : List Env} {s s1 : Shared} {H : Hp} {E : XK} {us : List Value} {vs : List V}
    (S : FnScope N ps scope) (hd : A.handled = none) (e0 : Env0 P w K mg base A outer s H) (hl : vs.length = ps.length) (r : Vals vs us)
    (x : InCallC s s.heap.objs.size (bindL (envOfC qual scope s.heap.objs.size f cd).kindOf (ps.zip us) fun _ => none) (cellsFrom (s.heap.objs.size + 1) scope.names []) (bindC (envOfC qual scope s.heap.objs.size f cd).kindOf (ps.zip us) fun _ => none) s1) :
    Inv (cxOf CX P w K mg base N qual scope f cd A outer s H E) [] (start N vs) H s1 := by
  have hpl : ps.length ≤ N.length := by have := congrArg List.length S.pre; rw [List.length_take] at this; omega
  obtain ⟨h1, tk, rfl, hk⟩ := x.done
  have noA : ∀ b : Addr, b ∉ (cxOf CX P w K mg base N qual scope f cd A outer s H E).ex := fun b z => absurd (show b ∈ ([] : List Addr) from z) (by simp)
  refine ⟨⟨e0.mod, S.kind, rfl, rfl, Nat.le_refl _, fun y z c h1 h2 => ?_, fun y hy => ?_, fun y c _ h => ?_, fun _ => hd, Around.frames_deeper e0.frames, .inr ⟨rfl, rfl⟩, fun b z => absurd z (noA b), e0.bs, e0.bsz, fun b _ _ => noA b, fun b z => absurd z (noA b), e0.funs, e0.frf⟩,
    rfl, e0.bare, Un.kept hk, ⟨_, x.toInCall.ns, fun i y v h1 h2 h3 => ?_⟩, fun y c h => ⟨_, x.cell y c h⟩, e0.hok.fresh (Nat.le_refl _), fun y c h => ?_, fun p hp => absurd (show p ∈ ([] : List (Addr × Obj)) from hp) (by simp), e0.hok.kept hk, ?_⟩
  · exact name_of_addr x.apart (PySem.mem_of_lookup h1) (PySem.mem_of_lookup h2)
  · have hy : scope.names.lookup y = some .cell ∨ scope.names.lookup y = some .free := hy
    rcases hy with hy | hy
    · exact cell_has hy
    · exact absurd rfl (S.nofree _ (PySem.mem_of_lookup hy))
  · exact Nat.le_of_lt (x.above y c (PySem.mem_of_lookup h))
  · have hi : i < vs.length := by
      unfold start at h2
      by_cases hi : i < vs.length
      · exact hi
      · rw [List.getElem?_append_right (by simpa using hi)] at h2
        rw [List.getElem?_replicate] at h2
        split at h2 <;> cases h2
    have ha : vs[i]? = some v := by
      unfold start at h2
      rw [List.getElem?_append_left (by simpa using hi), List.getElem?_map] at h2
      cases e : vs[i]? with
      | none => rw [e] at h2; cases h2
      | some a => rw [e] at h2; cases h2; rfl
    obtain ⟨u, hu, rv⟩ := r.get ha
    have hp : ps[i]? = some y := by
      rw [← S.pre, List.getElem?_take_of_lt (by omega)]; exact h1
    have ndP : ps.Nodup := by rw [← S.pre]; exact S.nd.sublist (List.take_sublist _ _)
    refine ⟨u, rv, ?_⟩
    rcases S.par y (List.mem_of_getElem? hp) with k | k
    · exact .inl ⟨k, bindL_get ndP hp hu k⟩
    · obtain ⟨c, e⟩ := cell_has (n := s.heap.objs.size + 1) k
      refine .inr ⟨.inl k, c, e, ?_⟩
      have q := x.cell y c e
      rw [bindC_get ndP hp hu (by show scope.names.lookup y ≠ _; rw [k]; decide)] at q
      exact q
  · exact e0.hok.fresh (Nat.le_of_lt (x.above y c (PySem.mem_of_lookup h)))
  · unfold start
    show _ = N.length
    rw [List.length_append, List.length_map, List.length_replicate]
    omega

/-- THE RULE: a def (or a method) of the text, by its body. The body's reading t is chosen for each entry; it is run at the parameters' values -/
theorem fn_of {CX : CXT} {P : Program} {w : World} {K : PySem.W.Frag} {mg : Str → Option Value} {base : Heap} {k : Nat} {f : Addr} {name qual : Str} {params : Arguments} {body : List Stmt} {scope : Scope} {dV kV doc pm cdv ct oc : Value} {an od : Option Addr}
    {osl : Array (Option Value)} {N ps : List Str} {sp : Sp} (lk : K.lookup f = some ⟨oc, od, .func (PySem.W.fnOf name qual params body scope dV kV doc pm an cdv ct), osl⟩) (hcd : PySem.W.codeIn K cdv qual = true) (S : FnScope N ps scope)
    (len : ∀ vs H Q E, sp vs H Q E → vs.length = ps.length)
    (hbody : ∀ (A : Around) (outer : List Env) (s : Shared) (H : Hp) (vs : List V) (Q : VK) (E : XK), Room k (A.deeper (envOfC qual scope s.heap.objs.size f cdv)) → sp vs H Q E →
      ∃ t, PSs (cxOf CX P w K mg base N qual scope f cdv A outer s H E) body t ∧ t { nx := fun _ H' => Q .non H', rt := Q } (start N vs) H) :
    FnOk P w K mg base CX (k + 1) f (PySem.W.fnOf name qual params body scope dV kV doc pm an cdv ct) ps sp := by
  refine ⟨len, fun A outer s H args us vs Q E hr e0 hb r hsp => ?_⟩
  have hl := len _ _ _ _ hsp
  have KX : K.In s.heap := e0.mod.kin.keeps fun b o e => (e0.bs b o e).1
  have lim : s.heap.NoLimit := e0.mod.nolimit.keeps fun b o e => (e0.bs b o e).1
  have hkind : ∀ y ∈ ps.zip us, scope.names.lookup y.1 = some .local ∨ (scope.names.lookup y.1 = some .cell ∧ ((cellsFrom (s.heap.objs.size + 1) scope.names []).lookup y.1).isSome = true) := fun ⟨n, v⟩ hy => by
    rcases S.par n (List.of_mem_zip hy).1 with q | q
    · exact .inl q
    · exact .inr ⟨q, PySem.W.cellsFrom_some _ _ _ (.inl q)⟩
  refine codeAny_call_function hr.depth (KX _ _ lk) rfl S.co S.gen rfl (PySem.W.codeRec_of KX hcd) (hb _ _ _ _ ?_)
  refine wpAny_newFunctionEnv_cells S.kind hkind fun env he s1 x => ?_
  subst he
  refine ⟨lim.keeps x.toInCall.keep, codeAny_func ?_⟩
  obtain ⟨t, ht, hq⟩ := hbody A outer s H vs Q E (hr.deeper _) hsp
  have I : Inv (cxOf CX P w K mg base N qual scope f cdv A outer s H E) [] (start N vs) H s1 := inv_start S hr.hd e0 hl r x
  refine wpAny_mono (ht [] s1 (start N vs) H _ I hq) (fun fl s' hs => ?_) fun e s' hs => hs
  have fin : ∀ {σ' : St} {H' : Hp} {v : V} {u : Value}, Inv (cxOf CX P w K mg base N qual scope f cdv A outer s H E) [] σ' H' s' → RelV v u → Q v H' → CE outer P w H s Q u s' :=
    fun {σ' H' v u} J rv q => ⟨v, H', J.os, J.bare, J.base, J.hok, rv, q⟩
  cases fl with
  | ret u =>
    obtain ⟨v, σ', H', J, rv, q⟩ := hs
    exact fin J rv q
  | next =>
    obtain ⟨σ', H', J, q⟩ := hs
    exact fin (v := V.non) (u := Value.none) J rfl q
  | brk =>
    obtain ⟨_, _, _, q⟩ := hs
    exact False.elim q
  | cont =>
    obtain ⟨_, _, _, q⟩ := hs
    exact False.elim q
end L2

namespace L2
open PySem PySem.Spec PyProof.Rows
section
variable {X : Cx} {x : Str} {p pos : Pos} {e : Expr} {es : List Expr} {t : TA} {id T : String} {r : List V → Hp → VK → Prop}

def tCB (r : List V → Hp → VK → Prop) (t : TA) : TE := fun σ H Q => t σ H fun vs H1 => r vs H1 Q
/-- f(e, ..), f a built-in function -/
theorem pe_callB (hc : CallR X (.builtin id) r) (hg : Gl X x) (hm : X.mg x = none) (hv : bootBuiltins x = some (.builtin id)) (ha : PA X (e :: es) t) (hn : x ≠ "__name__" := by decide) (hdb : (x == ("__debug__" : Str)) = false := by decide)
    (he : starEach (e :: es) X.env = (false, eval e X.env) :: starEach es X.env := by rfl) (hpl : (backTo pos (starEach es X.env)).any (·.1) = false := by rfl) : PE X (.Call (.Name x p) (e :: es) [] pos) (tCB r t) := by
  intro pins s σ H Q I h
  refine wpAny_Call_Name_kw (ld_blt I hg hm hv ?_ hn hdb)
  exact PyProof.Rows.callWith_builtin1 (thn (ha pos pins s σ H _ I h) fun us s1 ⟨vs, H1, I1, r1, q1⟩ => hc pins s1 σ H1 vs us Q I1 r1 q1) he hpl
/-- T(e, ..), T a built-in type -/
theorem pe_callTy (hc : CallR X (.type T) r) (hg : Gl X x) (hm : X.mg x = none) (hv : bootBuiltins x = some (.type T)) (ha : PA X (e :: es) t) (hn : x ≠ "__name__" := by decide) (hdb : (x == ("__debug__" : Str)) = false := by decide)
    (he : starEach (e :: es) X.env = (false, eval e X.env) :: starEach es X.env := by rfl) (hpl : (backTo pos (starEach es X.env)).any (·.1) = false := by rfl) : PE X (.Call (.Name x p) (e :: es) [] pos) (tCB r t) := by
  intro pins s σ H Q I h
  refine wpAny_Call_Name_kw (ld_blt I hg hm hv ?_ hn hdb)
  exact PyProof.Rows.callWith_type1 (thn (ha pos pins s σ H _ I h) fun us s1 ⟨vs, H1, I1, r1, q1⟩ => hc pins s1 σ H1 vs us Q I1 r1 q1) he hpl
/-- T() -/
theorem pe_callTy0 (hc : CallR X (.type T) r) (hg : Gl X x) (hm : X.mg x = none) (hv : bootBuiltins x = some (.type T)) (hn : x ≠ "__name__" := by decide) (hdb : (x == ("__debug__" : Str)) = false := by decide) :
    PE X (.Call (.Name x p) [] [] pos) (tCB r tNil) := by
  intro pins s σ H Q I h
  refine wpAny_Call_Name_kw (ld_blt I hg hm hv ?_ hn hdb)
  exact PyProof.Rows.callWith_type0 (hc pins s σ H [] [] Q I .nil h)
end
end L2

namespace HT
open PySem PyProof.Rows

/-- t < u of tuples of ints -/
def lexLt : List Int → List Int → Bool
  | [], [] => false
  | [], _ :: _ => true
  | _ :: _, [] => false
  | x :: xs, y :: ys => if x = y then lexLt xs ys else decide (x < y)
theorem lexLt_cons (x y : Int) (xs ys : List Int) : lexLt (x :: xs) (y :: ys) = if x = y then lexLt xs ys else decide (x < y) := rfl
theorem lexLt_nil_nil : lexLt [] [] = false := rfl
theorem lexLt_nil_cons (y : Int) (ys : List Int) : lexLt [] (y :: ys) = true := rfl
theorem lexLt_cons_nil (x : Int) (xs : List Int) : lexLt (x :: xs) [] = false := rfl

theorem eqAt_int (A : Around) (s : Shared) (a : Int) (t : Tok) (c : Int) (u : Tok) : ∃ e, SeqAt.EqAt A s (.int a t) (.int c u) e ∧ (e = true ↔ a = c) :=
  ⟨(a == c), SeqAt.EqAt.int_int a t c u, by simp⟩
theorem rcLt_int (A : Around) (s : Shared) (a : Int) (t : Tok) (c : Int) (u : Tok) (prog : Program) (w : World) (E : Value → Shared → Prop) (Q : Value → Shared → Prop) (h : Q (.bool (decide (a < c))) s) :
    wpAny (model prog w) A (richCompare .Lt (.int a t) (.int c u)) Q E s :=
  (PyProof.Rows.lt_int h : wpAny (model prog w) A (compareOp .Lt (.int a t) (.int c u)) Q E s)

section
open PySem.SeqAt
open PySem.AutoSeq1 (wpAny_loadPart')
open PySem.MeetsSeq PySem.MeetsSeq2 PySem.MeetsSeq3

theorem tuple_lt_ints (l b : Addr) (items items2 : Array Value) (n n2 : Nat) (dd dd2 : Option Addr) (sl sl2 : Array (Option Value)) (ns ms : List Int) (hi : IntsAre items.toList ns) (hj : IntsAre items2.toList ms) :
    Meets (Builtin.«tuple.__lt__» ⟨[.ref l, .ref b], []⟩)
      (fun _ R s => s.heap.get? l = some { cls := .type "tuple", dict := dd, data := .seq items n, slots := sl } ∧ s.heap.get? b = some { cls := .type "tuple", dict := dd2, data := .seq items2 n2, slots := sl2 } ∧
        R (.ok (.ret (.bool (lexLt ns ms)))) s) :=
  .of_wp fun prog w A R s h => by
    obtain ⟨hp, g, d, tk, os⟩ := s; obtain ⟨hl, hb, h⟩ := h
    have f2 := AutoSeq1.sub_tuple_tuple
    have z1 : items.size = ns.length := by rw [← hi.length]; simp
    have z2 : items2.size = ms.length := by rw [← hj.length]; simp
    wp_walk using wpAny_loadPart' hl, wpAny_loadPart' hb, wpAny_forIn_list _ (fun rest b s' => b.1 = none ∧ s' = ⟨hp, g, d, tk, os⟩ ∧ ∃ (vs ws : List Value) (ns' ms' : List Int), rest = vs.zip ws ∧
      IntsAre vs ns' ∧ IntsAre ws ms' ∧ ns'.length + items2.size = ms'.length + items.size ∧ R (.ok (.ret (.bool (lexLt ns' ms')))) ⟨hp, g, d, tk, os⟩) _
    case turn =>
      rintro ⟨y, x⟩ rest b s' ⟨hb', rfl, vs, ws, ns', ms', hz, hvi, hwi, hlen, hR⟩
      cases hvi with
      | nil => rw [List.zip_nil_left] at hz; cases hz
      | cons a t hvi' =>
        cases hwi with
        | nil => rw [List.zip_nil_right] at hz; cases hz
        | cons c u hwi' =>
          rw [List.zip_cons_cons] at hz
          injection hz with hyx hrest
          injection hyx with hy hx
          subst hy hx
          rw [lexLt_cons] at hR
          simp only [List.length_cons] at hlen
          obtain ⟨e, he, hiff⟩ := eqAt_int A.in1 ⟨hp, g, d, tk, os⟩ a t c u
          refine wpAny_bind (he prog w _ _ ?_)
          cases e with
          | true =>
            rw [if_pos (hiff.mp rfl)] at hR
            wp_walk
            exact ⟨rfl, rfl, _, _, _, _, hrest, hvi', hwi', by omega, hR⟩
          | false =>
            rw [if_neg (fun q => absurd (hiff.mpr q) Bool.false_ne_true)] at hR
            have hri := rcLt_int A.in1 ⟨hp, g, d, tk, os⟩ a t c u prog w
            wp_walk using hri
            exact ⟨_, rfl, by simpa using hR⟩
    case fin =>
      rintro ⟨b1, b2⟩ s' ⟨hb', rfl, vs, ws, ns', ms', hz, hvi, hwi, hlen, hR⟩
      simp only at hb'
      subst hb'
      have hv : lexLt ns' ms' = decide (items.size < items2.size) := by
        cases hvi with
        | nil =>
          cases hwi with
          | nil =>
            simp only [List.length_nil] at hlen
            rw [lexLt_nil_nil]
            exact (decide_eq_false (by omega)).symm
          | cons c u hw =>
            simp only [List.length_nil, List.length_cons] at hlen
            rw [lexLt_nil_cons]
            exact (decide_eq_true (by omega)).symm
        | cons a t hv =>
          cases hwi with
          | nil =>
            simp only [List.length_nil, List.length_cons] at hlen
            rw [lexLt_cons_nil]
            exact (decide_eq_false (by omega)).symm
          | cons c u hw =>
            rw [List.zip_cons_cons] at hz
            cases hz
      rw [hv] at hR
      wp_walk
      exact ⟨_, rfl, by simpa [Builtin.Tuple.tupleCompareSizes] using hR⟩
    case h =>
      exact ⟨rfl, rfl, items.toList, items2.toList, ns, ms, rfl, hi, hj, by omega, h⟩
end

section
variable {prog : Program} {w : World} {A : Around} {E : Value → Shared → Prop} {s : Shared}

theorem lt_tupInts {l b : Addr} {items items2 : Array Value} {ns ms : List Int} {Q : Value → Shared → Prop} (hl : IsTup s.heap l items) (hb : IsTup s.heap b items2) (hi : IntsAre items.toList ns) (hj : IntsAre items2.toList ms)
    (hu : A.units < cLine) (h : Q (.bool (lexLt ns ms)) s) : wpAny (model prog w) A (compareOp .Lt (.ref l) (.ref b)) Q E s := by
  obtain ⟨⟨cls, dd, data, sl⟩, ho, hc, n, hd⟩ := id hl
  obtain ⟨⟨cls2, dd2, data2, sl2⟩, ho2, hc2, n2, hd2⟩ := id hb
  simp only at hc hd hc2 hd2
  subst hc hd hc2 hd2
  exact richCompare_meets_room (op := .Lt) ⟨_, ho, rfl⟩ ⟨_, ho2, rfl⟩ PySem.F.slot_tuple_lt PySem.F.entry_tuple_lt (PySem.F.args_tuple_lt_2 _ _) (tuple_lt_ints l b items items2 n n2 dd dd2 sl sl2 ns ms hi hj)
    ⟨ho, ho2, show Value.bool (lexLt ns ms) ≠ Value.notImplemented ∧ Q (.bool (lexLt ns ms)) s from ⟨(fun x => nomatch x), h⟩⟩ hu

/-- t + u, t not empty -/
theorem cat_tup {t b : Addr} {vs ws : List Value} {Q : Value → Shared → Prop} (ht : IsTup s.heap t vs.toArray) (hb : IsTup s.heap b ws.toArray) (hv : vs ≠ [])
    (h1 : ws = [] → Q (.ref t) s) (h2 : ws ≠ [] → Q (.ref s.heap.objs.size) { s with heap := s.heap.push { cls := .type "tuple", data := .seq (vs ++ ws).toArray } })
    (hsz : vs.length + ws.length ≤ sizeLine) : wpAny (model prog w) A (binaryOp .Add (.ref t) (.ref b)) Q E s := by
  obtain ⟨⟨cls, dd, data, sl⟩, ho, hc, n, hd⟩ := id ht
  obtain ⟨⟨cls2, dd2, data2, sl2⟩, ho2, hc2, n2, hd2⟩ := id hb
  simp only at hc hd hc2 hd2
  subst hc hd hc2 hd2
  have e : vs.toArray ++ ws.toArray = (vs ++ ws).toArray := by simp
  by_cases hw : ws = []
  · exact concat_meets ⟨_, ho, rfl⟩ ⟨_, ho2, rfl⟩ noFill_tuple_add seq_tuple_add PySem.F.slot_tuple_add PySem.F.entry_tuple_add (PySem.F.args_tuple_add_2 _ _)
      (tuple_addW1 t b vs.toArray ws.toArray n n2 dd dd2 sl sl2 (by simpa using hv) (by simp [hw])) ⟨ho, ho2, h1 hw⟩
  · refine concat_meets ⟨_, ho, rfl⟩ ⟨_, ho2, rfl⟩ noFill_tuple_add seq_tuple_add PySem.F.slot_tuple_add PySem.F.entry_tuple_add (PySem.F.args_tuple_add_2 _ _)
      (tuple_addW2 t b vs.toArray ws.toArray n n2 dd dd2 sl sl2 (by simpa using hv) (by simpa using hw) (by rw [List.size_toArray, List.size_toArray]; exact hsz)) ⟨ho, ho2, ?_⟩
    rw [e]
    exact h2 hw

/-! ### t[a:b], not the whole -/
/-- a slice's bound as a place among n (d where it is left out) -/
def sIx (n d : Nat) : Option Int → Nat
  | none => d
  | some v => if v < 0 then (v + (n : Int)).toNat else min v.toNat n
theorem sIx_none (n d : Nat) : sIx n d none = d := rfl
theorem sIx_nat (n d k : Nat) : sIx n d (some (k : Int)) = min k n := by
  show (if (k : Int) < 0 then ((k : Int) + (n : Int)).toNat else min (k : Int).toNat n) = min k n
  rw [if_neg (by omega), Int.toNat_natCast]
theorem sIx_le (n d : Nat) (hd : d ≤ n) (o : Option Int) : sIx n d o ≤ n := by
  cases o with
  | none => exact hd
  | some v =>
    show (if v < 0 then (v + (n : Int)).toNat else min v.toNat n) ≤ n
    by_cases hv : v < 0
    · rw [if_pos hv]; omega
    · rw [if_neg hv]; exact Nat.min_le_right _ _
theorem clip_eq (v : Int) (n d : Nat) : (if v < 0 then max (v + (n : Int)) 0 else min v (n : Int)) = ((sIx n d (some v) : Nat) : Int) := by
  show (if v < 0 then max (v + (n : Int)) 0 else min v (n : Int)) = (((if v < 0 then (v + (n : Int)).toNat else min v.toNat n) : Nat) : Int)
  by_cases hv : v < 0
  · simp only [if_pos hv]; omega
  · simp only [if_neg hv]; omega
theorem adjust_gen (lo hi : Option Int) (n : Nat) : Builtin.Slice.sliceAdjust lo hi 1 (n : Int) = (((sIx n 0 lo : Nat) : Int), ((sIx n n hi : Nat) : Int)) := by
  have h1 : ¬ ((1 : Int) < 0) := by omega
  unfold Builtin.Slice.sliceAdjust
  simp only [h1, if_false]
  refine Prod.ext ?_ ?_
  · cases lo with
    | none => rfl
    | some v => exact clip_eq v n 0
  · cases hi with
    | none => rfl
    | some v => exact clip_eq v n n
theorem places_gen (i j : Nat) : Builtin.Slice.slicePlaces (i : Int) (j : Int) 1 = j - i := by
  unfold Builtin.Slice.slicePlaces
  have h1 : (1 : Int) > 0 := by omega
  simp only [h1, if_true, Int.ediv_one]
  split <;> omega
theorem slicePart_ {v : Value} {o : Option Int} {Q : Option Int → Shared → Prop} (p : IsPart v o) (h : Q o s) : wpAny (model prog w) A (Builtin.Slice.slicePartIndex v) Q E s := by
  cases p with
  | none => exact slicePart_none h
  | int i t => exact slicePart_int h
theorem sliceApplied_gen {sl : Addr} {vl vu : Value} {lo hi : Option Int} {n : Nat} {Q : Int × Int × Nat → Shared → Prop} (hs : s.heap.IsSliceOf sl vl vu .none) (pl : IsPart vl lo) (pu : IsPart vu hi)
    (h : Q (((sIx n 0 lo : Nat) : Int), 1, sIx n n hi - sIx n 0 lo) s) : wpAny (model prog w) A (Builtin.Slice.sliceApplied (.ref sl) (pure (n : Int))) Q E s := by
  obtain ⟨os, hos, hcs, hds⟩ := id hs
  unfold Builtin.Slice.sliceApplied Builtin.Slice.sliceFields
  refine wpAny_bind (wpAny_bind (wpAny_field hos hds (x := vl) rfl (wpAny_bind (wpAny_field hos hds (x := vu) rfl (wpAny_bind (wpAny_field hos hds (x := .none) rfl (wpAny_pure ?_)))))))
  refine wpAny_bind (slicePart_none ?_)
  show wpAny _ _ (if ((1 : Int) == 0) = true then _ else _) _ _ s
  rw [if_neg (by decide)]
  refine wpAny_bind (slicePart_ pl (wpAny_bind (slicePart_ pu (wpAny_bind (wpAny_pure ?_)))))
  show wpAny _ _ (match Builtin.Slice.sliceAdjust lo hi 1 (n : Int) with | (lo, hi) => pure (lo, (1 : Int), Builtin.Slice.slicePlaces lo hi 1)) _ _ s
  rw [adjust_gen lo hi n]
  show wpAny _ _ (pure (((sIx n 0 lo : Nat) : Int), (1 : Int), Builtin.Slice.slicePlaces ((sIx n 0 lo : Nat) : Int) ((sIx n n hi : Nat) : Int) 1)) _ _ s
  rw [places_gen]
  exact wpAny_pure h
theorem pick_gen (xs : Array Value) (i k : Nat) : ((List.range k).filterMap fun (m : Nat) => xs[((i : Int) + (m : Int) * 1).toNat]?).toArray = ((xs.toList.drop i).take k).toArray := by
  have e : (fun (m : Nat) => xs[((i : Int) + (m : Int) * 1).toNat]?) = fun m => xs[i + m]? := by
    funext m
    have : ((i : Int) + (m : Int) * 1).toNat = i + m := by omega
    rw [this]
  rw [e]
  have := pick_run xs i k
  rw [List.filterMap_map] at this
  have e2 : ((fun x => xs[x]?) ∘ fun x => i + x) = fun m => xs[i + m]? := rfl
  rw [e2] at this
  rw [this]

theorem getItem_tuple_cut {t sl : Addr} {items : Array Value} {vl vu : Value} {lo hi : Option Int} {Q : Value → Shared → Prop} (ht : IsTup s.heap t items) (hs : s.heap.IsSliceOf sl vl vu .none) (pl : IsPart vl lo) (pu : IsPart vu hi)
    (hw : ¬ (sIx items.size 0 lo = 0 ∧ sIx items.size items.size hi = items.size))
    (h : Q (.ref s.heap.objs.size) { s with heap := s.heap.push { cls := .type "tuple", data := .seq ((items.toList.drop (sIx items.size 0 lo)).take (sIx items.size items.size hi - sIx items.size 0 lo)).toArray } })
    (hsz : items.size ≤ sizeLine) : wpAny (model prog w) A (getItem (.ref t) (.ref sl)) Q E s := by
  have htake : sizeOk (.seq ((items.toList.drop (sIx items.size 0 lo)).take (sIx items.size items.size hi - sIx items.size 0 lo)).toArray) := by
    show ((items.toList.drop (sIx items.size 0 lo)).take (sIx items.size items.size hi - sIx items.size 0 lo)).toArray.size ≤ sizeLine
    rw [List.size_toArray, List.length_take, List.length_drop, Array.length_toList]
    omega
  have hj : sIx items.size items.size hi ≤ items.size := sIx_le _ _ (Nat.le_refl _) hi
  obtain ⟨os, hos, hcs, hds⟩ := id hs
  have hTs : s.TypeIs (.ref sl) "slice" := ⟨os, hos, hcs⟩
  unfold getItem
  try with_reducible refine wpAny_holding ?_
  first | refine wpAny_bind (wpAny_pure ?_) | skip
  refine wpAny_bind (wpAny_sequenceKey ht.typeIs (by decide) ?_)
  refine wpAny_bind (wpAny_callSpecial?_slot (name := Str.ofString "__getitem__") ht.typeIs PyProof.Rows.slot_tuple_getitem
    (wpAny_call_entry PyProof.Rows.slot_tuple_getitem ht.typeIs entry_tuple_getitem ?_ (args_tuple_getitem _ _)))
  show wpAny _ _ (Builtin.Tuple.tupleItemsOf (.ref t) >>= _) _ _ s
  refine wpAny_bind (tupleItemsOf_ ht ?_)
  refine wpAny_bind (wpAny_typeOf hTs ?_)
  rw [if_pos (by decide)]
  refine wpAny_bind (sliceApplied_gen hs pl pu ?_)
  have hno : ¬ ((((sIx items.size 0 lo : Nat) : Int) == 0 && (1 : Int) == 1 && (sIx items.size items.size hi - sIx items.size 0 lo) == items.size) = true) := by
    intro q
    rw [Bool.and_eq_true, Bool.and_eq_true] at q
    have q1 : ((sIx items.size 0 lo : Nat) : Int) = 0 := eq_of_beq q.1.1
    have q2 : sIx items.size items.size hi - sIx items.size 0 lo = items.size := eq_of_beq q.2
    exact hw ⟨by omega, by omega⟩
  show wpAny _ _ (if (((sIx items.size 0 lo : Nat) : Int) == 0 && (1 : Int) == 1 && (sIx items.size items.size hi - sIx items.size 0 lo) == items.size) = true then _ else _) _ _ s
  rw [if_neg hno, pick_gen]
  first
    | exact wpAny_bind (m := Builtin.Tuple.tupleExact _) (wpAny_newObj_type (wpAny_pure ⟨_, rfl, wpAny_pure h⟩) htake)
    | exact wpAny_bind (m := Builtin.Tuple.tupleExact _) (wpAny_newObj_type (wpAny_bind (wpAny_pure (wpAny_pure ⟨_, rfl, wpAny_pure h⟩))) htake)
    | exact wpAny_bind (wpAny_bind (m := Builtin.Tuple.tupleExact _) (wpAny_newObj_type (wpAny_pure (wpAny_pure ⟨_, rfl, wpAny_pure h⟩)) htake))
    | exact wpAny_bind (wpAny_bind (m := Builtin.Tuple.tupleExact _) (wpAny_newObj_type (wpAny_pure ⟨_, rfl, wpAny_pure h⟩) htake))
end
end HT

namespace L2
open PySem PySem.Spec PyProof.Rows

/-! ### the parts of a slice -/
abbrev TO := St → Hp → (Option Int → Hp → Prop) → Prop
/-- a slice's part (left out, or an int) -/
def PO (X : Cx) (e : Option Expr) (t : TO) : Prop :=
  ∀ (pins : List (Addr × Obj)) (s : Shared) (σ : St) (H : Hp) (Q : Option Int → Hp → Prop), Inv X pins σ H s → t σ H Q →
    wpAny (model X.prog X.w) X.A (evalPart e X.env) (fun u s' => ∃ o H', Inv X pins σ H' s' ∧ IsPart u o ∧ Q o H') X.xe s
def tNoPart : TO := fun _ H Q => Q none H
def tPart (t : TE) : TO := fun σ H Q => t σ H fun x H1 => ∃ i, x = .int i ∧ Q (some i) H1

theorem intsAre_of {ns : List Int} : ∀ {us : List Value}, Vals (ns.map V.int) us → IntsAre us ns := by
  induction ns with
  | nil => intro us r; rw [List.map_nil] at r; cases r; exact .nil
  | cons n ns ih =>
    intro us r
    rw [List.map_cons] at r
    cases r with
    | cons r1 r2 =>
      obtain ⟨t, e⟩ := r1
      subst e
      exact .cons n t (ih r2)

section
variable {X : Cx} {e : Expr} {te : TE} {lo hi : Option Expr} {tl th : TO} {pos p2 : Pos}

theorem po_none : PO X none tNoPart := by
  intro pins s σ H Q I h
  rw [evalPart_none]
  exact wpAny_pure ⟨none, H, I, .none, h⟩
theorem po_some (h : PE X e te) : PO X (some e) (tPart te) := by
  intro pins s σ H Q I hw
  rw [evalPart_some]
  refine thn (h pins s σ H _ I hw) fun u s1 ⟨x, H1, I1, r1, q1⟩ => ?_
  obtain ⟨i, rfl, q⟩ := q1
  obtain ⟨t, rfl⟩ := r1
  exact ⟨some i, H1, I1, .int i t, q⟩

/-- what a slice of a value is, by values: the slice object stands at sl -/
def SlR (X : Cx) (r : V → Option Int → Option Int → Hp → VK → Prop) : Prop :=
  ∀ (pins : List (Addr × Obj)) (s : Shared) (σ : St) (H : Hp) (x : V) (v vl vu : Value) (lo hi : Option Int) (sl : Addr) (Q : VK), Inv X pins σ H s → RelV x v → s.heap.IsSliceOf sl vl vu .none → IsPart vl lo → IsPart vu hi → r x lo hi H Q →
    ∃ T id, typeLookup (.type T) "__getitem__" = pure (some (.builtin id)) ∧ s.TypeIs v T ∧ wpAny (model X.prog X.w) X.A (getItem v (.ref sl)) (EP X pins σ Q) X.xe s
theorem SlR.or {r r' : V → Option Int → Option Int → Hp → VK → Prop} (h : SlR X r) (h' : SlR X r') : SlR X (fun x lo hi H Q => r x lo hi H Q ∨ r' x lo hi H Q) := by
  intro pins s σ H x v vl vu lo hi sl Q I rx hs pl pu q
  rcases q with q | q
  · exact h pins s σ H x v vl vu lo hi sl Q I rx hs pl pu q
  · exact h' pins s σ H x v vl vu lo hi sl Q I rx hs pl pu q
def tSl (r : V → Option Int → Option Int → Hp → VK → Prop) (te : TE) (tl th : TO) : TE := fun σ H Q => te σ H fun x H1 => tl σ H1 fun l H2 => th σ H2 fun u H3 => r x l u H3 Q
/-- a[lo:hi], any a -/
theorem pe_slice {r : V → Option Int → Option Int → Hp → VK → Prop} (hr : SlR X r) (he : PE X e te) (hl : PO X lo tl) (hu : PO X hi th) : PE X (.Subscript e (.Slice lo hi none p2) pos) (tSl r te tl th) := by
  intro pins s σ H Q I h
  refine Subscript_ (thn (he pins s σ H _ I h) fun v s1 ⟨x, H1, I1, r1, q1⟩ => ?_)
  refine wpAny_Slice (thn (hl pins s1 σ H1 _ I1 q1) fun vl s2 ⟨l, H2, I2, pl, q2⟩ => thn (hu pins s2 σ H2 _ I2 q2) fun vu s3 ⟨u, H3, I3, pu, q3⟩ => ?_)
  rw [evalPart_none]
  refine wpAny_pure ?_
  have I4 : Inv X pins σ H3 { s3 with heap := s3.heap.push { cls := .type "slice", data := .fields #[vl, vu, .none] } } := I3.kept (t' := s3.toks) fun b ob q => Heap.get?_push_of_some _ q
  obtain ⟨T, id, hT, ht, hg⟩ := hr pins { s3 with heap := s3.heap.push { cls := .type "slice", data := .fields #[vl, vu, .none] } } σ H3 x v vl vu l u s3.heap.objs.size Q I4 r1 (Heap.IsSliceOf.new ..) pl pu q3
  show wpAny (model X.prog X.w) X.A (subscriptTail e (.Slice lo hi none p2) v (.ref s3.heap.objs.size)) (EP X pins σ Q) X.xe { s3 with heap := s3.heap.push { cls := .type "slice", data := .fields #[vl, vu, .none] } }
  exact tail_any (ops := [.ref s3.heap.objs.size, v]) ht hT hg (by with_unfolding_all rfl)

/-- the items of xs[lo:hi] -/
def cutV (xs : List V) (lo hi : Option Int) : List V := (xs.drop (HT.sIx xs.length 0 lo)).take (HT.sIx xs.length xs.length hi - HT.sIx xs.length 0 lo)
theorem cutV_length (xs : List V) (lo hi : Option Int) : (cutV xs lo hi).length ≤ xs.length := by
  unfold cutV
  rw [List.length_take, List.length_drop]
  omega
/-- t[lo:hi], not the whole of it (the whole would be t itself) -/
def rSlT (K : PySem.W.Frag) : V → Option Int → Option Int → Hp → VK → Prop := fun x lo hi H Q => ∃ a xs, x = .ref a ∧ SqT K H a xs ∧
  ¬ (HT.sIx xs.length 0 lo = 0 ∧ HT.sIx xs.length xs.length hi = xs.length) ∧ ∀ p, H p = none → Q (.ref p) (upd H p (.tup (cutV xs lo hi)))
theorem sl_tup : SlR X (rSlT X.K) := by
  intro pins s σ H x v vl vu lo hi sl Q I rx hs pl pu h
  obtain ⟨a, xs, rfl, hx, hw, q⟩ := h
  cases rx
  obtain ⟨its, r, ht, hz⟩ := I.tuple hx
  have hlen : its.toArray.size = xs.length := by rw [List.size_toArray]; exact r.length.symm
  refine ⟨"tuple", _, PyProof.Rows.slot_tuple_getitem.lookup, ht.typeIs, ?_⟩
  refine HT.getItem_tuple_cut ht hs pl pu (by rw [hlen]; exact hw) ?_ (by rw [hlen]; exact hz)
  rw [hlen]
  refine ⟨.ref s.heap.objs.size, _, I.laid (t' := s.toks) (o := .tup (cutV xs lo hi)) (fun b ob q => Heap.get?_push_of_some _ q) (Nat.le_refl _) ?_, rfl, q _ (I.hok.fresh (Nat.le_refl _))⟩
  exact ⟨Nat.le_trans (cutV_length xs lo hi) hz, _, (r.drop (HT.sIx xs.length 0 lo)).take (HT.sIx xs.length xs.length hi - HT.sIx xs.length 0 lo), IsTup.new _ _⟩

/-! ### t < u, t + u -/
def rLtT (K : PySem.W.Frag) : R2 := fun x y H Q => ∃ a b ns ms, x = .ref a ∧ y = .ref b ∧ SqT K H a (ns.map V.int) ∧ SqT K H b (ms.map V.int) ∧ Q (.bl (HT.lexLt ns ms)) H
theorem op_ltT (hu : X.A.units < cLine) : OpR X (compareOp .Lt) (rLtT X.K) := by
  intro pins s σ H x y v u Q I rx ry h
  obtain ⟨a, b, ns, ms, rfl, rfl, ha, hb, q⟩ := h
  cases rx
  cases ry
  obtain ⟨its, r1, p1, _⟩ := I.tuple ha
  obtain ⟨its2, r2, p2, _⟩ := I.tuple hb
  have i1 : IntsAre its.toArray.toList ns := intsAre_of r1
  have i2 : IntsAre its2.toArray.toList ms := intsAre_of r2
  exact HT.lt_tupInts p1 p2 i1 i2 hu ⟨.bl (HT.lexLt ns ms), H, I, rfl, q⟩
/-- t + u, t not empty: u empty gives t itself -/
def rCatT (K : PySem.W.Frag) : R2 := fun x y H Q => ∃ a b xs ys, x = .ref a ∧ y = .ref b ∧ SqT K H a xs ∧ SqT K H b ys ∧ xs ≠ [] ∧ xs.length + ys.length ≤ sizeLine ∧
  (ys = [] → Q (.ref a) H) ∧ (ys ≠ [] → ∀ p, H p = none → Q (.ref p) (upd H p (.tup (xs ++ ys))))
theorem Vals.nil_iff {xs : List V} {us : List Value} (r : Vals xs us) : us = [] ↔ xs = [] := by
  cases r with
  | nil => simp
  | cons _ _ => simp
theorem op_catT : OpR X (binaryOp .Add) (rCatT X.K) := by
  intro pins s σ H x y v u Q I rx ry h
  obtain ⟨a, b, xs, ys, rfl, rfl, ha, hb, hx, hz, q1, q2⟩ := h
  cases rx
  cases ry
  obtain ⟨its, r1, p1, _⟩ := I.tuple ha
  obtain ⟨its2, r2, p2, _⟩ := I.tuple hb
  refine HT.cat_tup p1 p2 (fun z => hx (r1.nil_iff.mp z)) (fun z => ⟨.ref a, H, I, rfl, q1 (r2.nil_iff.mp z)⟩) (fun z => ?_) (by rw [← r1.length, ← r2.length]; exact hz)
  refine ⟨.ref s.heap.objs.size, _, I.laid (t' := s.toks) (o := .tup (xs ++ ys)) (fun b ob q => Heap.get?_push_of_some _ q) (Nat.le_refl _) ?_, rfl, q2 (fun w => z (r2.nil_iff.mpr w)) _ (I.hok.fresh (Nat.le_refl _))⟩
  exact ⟨by rw [List.length_append]; exact hz, _, r1.append r2, IsTup.new _ _⟩
/-- tuple(t) -/
theorem call_tupleT : CallR X (.type "tuple") (fun xs H Q => ∃ a ys, xs = [.ref a] ∧ SqT X.K H a ys ∧ Q (.ref a) H) := by
  intro pins s σ H xs us Q I r h
  obtain ⟨a, ys, rfl, ha, q⟩ := h
  obtain ⟨u, rfl, ru⟩ := vals1 r
  cases ru
  obtain ⟨its, _, p1, _⟩ := I.tuple ha
  exact call_tuple_same (items := its.toArray) p1 ⟨.ref a, H, I, rfl, q⟩
end
end L2

namespace L2
open PySem PySem.Spec PyProof.Rows

/-! ### places -/
/-- the place that an index of any sign means -/
def ixN (n : Nat) (i : Int) : Option Nat := if 0 ≤ i then (if i < n then some i.toNat else none) else if -(n : Int) ≤ i then some (i + n).toNat else none
def atI {α : Type} (xs : List α) (i : Int) : Option α := (ixN xs.length i).bind fun j => xs[j]?
theorem ixN_seq {n : Nat} {i : Int} {j : Nat} (h : ixN n i = some j) : seqIndex? i n = some j ∧ j < n ∧ -(n : Int) ≤ i ∧ i < n := by
  unfold ixN at h
  by_cases h0 : 0 ≤ i
  · rw [if_pos h0] at h
    by_cases h1 : i < n
    · rw [if_pos h1] at h
      have e : i.toNat = j := Option.some.inj h
      exact ⟨by rw [seqIndex_of h0 h1, e], by omega, by omega, h1⟩
    · rw [if_neg h1] at h; cases h
  · rw [if_neg h0] at h
    by_cases h1 : -(n : Int) ≤ i
    · rw [if_pos h1] at h
      have e : (i + n).toNat = j := Option.some.inj h
      exact ⟨by rw [seqIndex_neg (by omega) h1, e], by omega, h1, by omega⟩
    · rw [if_neg h1] at h; cases h
theorem atI_get {α : Type} {xs : List α} {i : Int} {v : α} (h : atI xs i = some v) : ∃ j, seqIndex? i xs.length = some j ∧ xs[j]? = some v ∧ j < xs.length ∧ -(xs.length : Int) ≤ i ∧ i < xs.length := by
  unfold atI at h
  cases e : ixN xs.length i with
  | none => rw [e] at h; cases h
  | some j =>
    rw [e] at h
    obtain ⟨h1, h2, h3, h4⟩ := ixN_seq e
    exact ⟨j, h1, h, h2, h3, h4⟩
theorem atI_nat {α : Type} {xs : List α} {j : Nat} {v : α} (h : xs[j]? = some v) : atI xs (j : Int) = some v := by
  have hj : j < xs.length := (List.getElem?_eq_some_iff.mp h).1
  have e : ixN xs.length (j : Int) = some j := by
    unfold ixN
    rw [if_pos (by omega), if_pos (by omega)]; simp
  unfold atI; rw [e]; exact h
theorem atI_last {α : Type} (xs : List α) (v : α) : atI (xs ++ [v]) (-1) = some v := by
  have hl : (xs ++ [v]).length = xs.length + 1 := by simp
  have e : ixN (xs ++ [v]).length (-1) = some xs.length := by
    unfold ixN
    rw [hl, if_neg (by decide), if_pos (by omega)]
    congr 1
    omega
  unfold atI
  rw [e]
  show (xs ++ [v])[xs.length]? = some v
  simp

/-! ### what may be subscripted -/
/-- what stands as an index of a plain subscript -/
def PlainIx (b : Expr) : Prop := ∀ o i, subscripted b false o i = operate [o, i] (getItem o i)
/-- a subscript by values -/
def IxR (X : Cx) (r : R2) : Prop :=
  ∀ (value slice : Expr) (pins : List (Addr × Obj)) (s : Shared) (σ : St) (H : Hp) (x y : V) (v u : Value) (Q : VK), Inv X pins σ H s → RelV x v → RelV y u → r x y H Q →
    subscripted slice false v u = operate [v, u] (getItem v u) → wpAny (model X.prog X.w) X.A (subscriptTail value slice v u) (EP X pins σ Q) X.xe s
/-- a call of a builtin's method by values: the receiver, the arguments -/
def MtR (X : Cx) (id : String) (r : V → List V → Hp → VK → Prop) : Prop :=
  ∀ (pins : List (Addr × Obj)) (s : Shared) (σ : St) (H : Hp) (x : V) (xs : List V) (v : Value) (us : List Value) (Q : VK), Inv X pins σ H s → RelV x v → Vals xs us → r x xs H Q →
    wpAny (model X.prog X.w) X.A (call (.builtin id) (v :: us)) (EP X pins σ Q) X.xe s
section
variable {X : Cx} {a b : Expr} {ta tb : TE} {pos : Pos}
theorem IxR.or {r r' : R2} (h : IxR X r) (h' : IxR X r') : IxR X (fun x y H Q => r x y H Q ∨ r' x y H Q) := by
  intro value slice pins s σ H x y v u Q I rx ry q hs
  rcases q with q | q
  · exact h value slice pins s σ H x y v u Q I rx ry q hs
  · exact h' value slice pins s σ H x y v u Q I rx ry q hs
theorem MtR.or {id : String} {r r' : V → List V → Hp → VK → Prop} (h : MtR X id r) (h' : MtR X id r') : MtR X id (fun x xs H Q => r x xs H Q ∨ r' x xs H Q) := by
  intro pins s σ H x xs v us Q I rx rs q
  rcases q with q | q
  · exact h pins s σ H x xs v us Q I rx rs q
  · exact h' pins s σ H x xs v us Q I rx rs q
/-- a[b] -/
theorem pe_ix {r : R2} (hr : IxR X r) (ha : PE X a ta) (hb : PE X b tb) (hs : PlainIx b) : PE X (.Subscript a b pos) (tOp r ta tb) := by
  intro pins s σ H Q I h
  exact Subscript_ (binT ha hb I h fun v u s2 x y H2 I2 rx ry q => hr a b pins s2 σ H2 x y v u Q I2 rx ry q (hs _ _))

def rIxL (K : PySem.W.Frag) : R2 := fun x y H Q => ∃ p xs i v, x = .ref p ∧ y = .int i ∧ SqL K H p xs ∧ atI xs i = some v ∧ Q v H
def rIxT (K : PySem.W.Frag) : R2 := fun x y H Q => ∃ p xs i v, x = .ref p ∧ y = .int i ∧ SqT K H p xs ∧ atI xs i = some v ∧ Q v H
def rIxS : R2 := fun x y H Q => ∃ z i c, x = .str z ∧ y = .int i ∧ z.length ≤ sizeLine ∧ atI z.cps.toList i = some c ∧ Q (.str ⟨#[c]⟩) H
theorem ix_list : IxR X (rIxL X.K) := by
  intro value slice pins s σ H x y v u Q I rx ry h hs
  obtain ⟨p, xs, i, z, rfl, rfl, hq, he, q⟩ := h
  cases rx
  obtain ⟨t, rfl⟩ := ry
  obtain ⟨its, r, pl, hz⟩ := I.list hq
  obtain ⟨j, h1, h2, h3, h4, h5⟩ := atI_get he
  obtain ⟨w, ew, rw'⟩ := r.get h2
  have hl := r.length
  have hn := line63
  have fin : EP X pins σ Q w s := ⟨z, H, I, rw', q⟩
  by_cases h0 : 0 ≤ i
  · have hj : i.toNat = j := by
      rw [seqIndex_of h0 h5] at h1
      exact Option.some.inj h1
    exact item_listR pl.isList h0 (by omega) (by rw [hj]; simpa using ew) fin hs
  · have hj : (i + (its.toArray.size : Int)).toNat = j := by
      rw [seqIndex_neg (by omega) h4] at h1
      rw [List.size_toArray, ← hl]
      exact Option.some.inj h1
    exact subscriptTail_builtinR (x := w) pl.isList.typeIs slot_list_getitem.lookup
      (wpAny_getItem_list_neg (Q := fun r s' => r = w ∧ EP X pins σ Q r s') pl.isList (by omega) (by rw [List.size_toArray] <;> omega) (by omega) (by rw [hj]; simpa using ew) ⟨rfl, fin⟩) hs
theorem ix_tup : IxR X (rIxT X.K) := by
  intro value slice pins s σ H x y v u Q I rx ry h hs
  obtain ⟨p, xs, i, z, rfl, rfl, hq, he, q⟩ := h
  cases rx
  obtain ⟨t, rfl⟩ := ry
  obtain ⟨its, r, pl, hz⟩ := I.tuple hq
  obtain ⟨j, h1, h2, h3, h4, h5⟩ := atI_get he
  obtain ⟨w, ew, rw'⟩ := r.get h2
  have hl := r.length
  have hn := line63
  have fin : EP X pins σ Q w s := ⟨z, H, I, rw', q⟩
  exact subscriptTail_builtinR (x := w) pl.typeIs slot_tuple_getitem.lookup
    (getItem_tuple (j := j) (Q := fun r s' => r = w ∧ EP X pins σ Q r s') pl (by omega) (by omega) (by rw [List.size_toArray, ← hl]; exact h1) (by simpa using ew) ⟨rfl, fin⟩) hs
theorem ix_str : IxR X rIxS := by
  intro value slice pins s σ H x y v u Q I rx ry h hs
  obtain ⟨z, i, c, rfl, rfl, hz, he, q⟩ := h
  obtain ⟨t, rfl⟩ := rx
  obtain ⟨t', rfl⟩ := ry
  obtain ⟨j, h1, h2, h3, h4, h5⟩ := atI_get he
  have hl : z.cps.toList.length = z.length := by simp [Str.length]
  rw [hl] at h1 h4 h5
  have hn := line63
  exact tail_any (typeIs_str s z t) slot_str_getitem.lookup (getItem_str (c := c) (by
    have e1 : decide (i < -(2 ^ 63 : Int)) = false := decide_eq_false (by omega)
    have e2 : decide (i ≥ 2 ^ 63) = false := decide_eq_false (by omega)
    rw [e1, e2, Bool.or_false]) (by rw [h1]; simpa using h2) ⟨.str ⟨#[c]⟩, H, I.tok _, ⟨_, rfl⟩, q⟩) hs
/-- list, tuple or str -/
def rIx (K : PySem.W.Frag) : R2 := fun x y H Q => rIxL K x y H Q ∨ rIxT K x y H Q ∨ rIxS x y H Q
theorem ix_seq : IxR X (rIx X.K) := ix_list.or (ix_tup.or ix_str)

/-! ### xs[i] = v, any sign -/
/-- the list's object behind a store -/
theorem mapSeq_set (its : List Value) (n j : Nat) (u : Value) : Obj.mapSeq (·.setIfInBounds j u) { cls := .type "list", data := .seq its.toArray n } = { cls := .type "list", data := .seq (its.set j u).toArray n } := by
  simp [Obj.mapSeq]
theorem Inv.lst {pins : List (Addr × Obj)} {σ : St} {H : Hp} {s : Shared} {p : Addr} {xs : List V} (I : Inv X pins σ H s) (h : H p = some (.lst xs)) :
    ∃ (its : List Value) (n : Nat), Vals xs its ∧ s.heap.get? p = some { cls := .type "list", data := .seq its.toArray n } ∧ xs.length ≤ sizeLine := by
  obtain ⟨z, its, n, r, e⟩ := I.hok p _ h
  exact ⟨its, n, r, e, z⟩
/-- the list at p is written by an update of its object -/
theorem Inv.lstUpd {pins : List (Addr × Obj)} {σ : St} {H : Hp} {s : Shared} {p : Addr} {xs ys : List V} {its its' : List Value} {n n' : Nat} {f : Obj → Obj} (I : Inv X pins σ H s) (h : H p = some (.lst xs))
    (ho : s.heap.get? p = some { cls := .type "list", data := .seq its.toArray n }) (hf : f { cls := .type "list", data := .seq its.toArray n } = { cls := .type "list", data := .seq its'.toArray n' }) (r : Vals ys its') (hz : ys.length ≤ sizeLine) (t : Nat) :
    Inv X pins σ (upd H p (.lst ys)) { s with heap := s.heap.update p f, toks := t } := by
  have e : (s.heap.update p f).get? p = some { cls := .type "list", data := .seq its'.toArray n' } := by
    rw [Heap.get?_update_self f ho (by rw [hf] <;> rfl), hf]
  refine I.write (x := p) (e := p) (by rw [h]; trivial) (.inl rfl) (fun b u hb q => (Heap.get?_update_other _ _ (Ne.symm hb)).trans q) ⟨_, e⟩ ?_
  exact ⟨hz, its', n', r, e⟩
def rSetL : V → V → V → Hp → (Hp → Prop) → Prop := fun o i v H Q => ∃ p xs k j, o = .ref p ∧ i = .int k ∧ H p = some (.lst xs) ∧ ixN xs.length k = some j ∧ Q (upd H p (.lst (xs.set j v)))
theorem set_list : PSet X rSetL := by
  intro pins s σ H o i v ov iv u Q I ro ri rv h
  obtain ⟨p, xs, k, j, rfl, rfl, hp, hj, q⟩ := h
  cases ro
  obtain ⟨t, rfl⟩ := ri
  obtain ⟨its, n, r, ho, hz⟩ := I.lst hp
  obtain ⟨h1, h2, h3, h4⟩ := ixN_seq hj
  have hl := r.length
  have hn := line63
  have I' : Inv X pins σ (upd H p (.lst (xs.set j v))) { s with heap := s.heap.update p (Obj.mapSeq (·.setIfInBounds j u)) } :=
    I.lstUpd hp ho (mapSeq_set its n j u) (r.set rv j) (by rw [List.length_set]; exact hz) s.toks
  by_cases h0 : 0 ≤ k
  · have hk : k.toNat = j := by
      rw [seqIndex_of h0 h4] at h1
      exact Option.some.inj h1
    exact PySem.W.ki_setAt ho h0 (by omega) (by rw [List.size_toArray, ← hl]; exact h4) (by rw [hk]; exact ⟨_, I', q⟩)
  · have hk : (k + (its.toArray.size : Int)).toNat = j := by
      rw [seqIndex_neg (by omega) h3] at h1
      rw [List.size_toArray, ← hl]
      exact Option.some.inj h1
    exact PySem.W.ki_setBack ho (by omega) (by rw [List.size_toArray, ← hl]; exact h3) (by omega) (by rw [hk]; exact ⟨_, I', q⟩)

/-! ### slices -/
theorem slice_bounds (lo hi : Option Int) (n : Nat) : (sliceBounds lo hi none n).1 = ((HT.sIx n 0 lo : Nat) : Int) ∧ (sliceBounds lo hi none n).2.1 = ((HT.sIx n n hi : Nat) : Int) ∧ (sliceBounds lo hi none n).2.2 = 1 := by
  refine ⟨?_, ?_, rfl⟩
  · cases lo with
    | none => simp [sliceBounds, HT.sIx]
    | some i =>
      simp only [sliceBounds, HT.sIx, Option.getD_none, show (1 : Int) > 0 by decide, if_true]
      by_cases h : i < 0
      · simp only [h, if_true] <;> omega
      · simp only [h, if_false] <;> omega
  · cases hi with
    | none => simp [sliceBounds, HT.sIx]
    | some i =>
      simp only [sliceBounds, HT.sIx, Option.getD_none, show (1 : Int) > 0 by decide, if_true]
      by_cases h : i < 0
      · simp only [h, if_true] <;> omega
      · simp only [h, if_false] <;> omega
theorem slicePick_cut (its : List Value) (lo hi : Option Int) : slicePick its.toArray lo hi none = ((its.drop (HT.sIx its.length 0 lo)).take (HT.sIx its.length its.length hi - HT.sIx its.length 0 lo)).toArray := by
  obtain ⟨h1, h2, h3⟩ := slice_bounds lo hi its.toArray.size
  unfold slicePick
  rw [h1, h2, h3]
  simp only [sliceRange_one, pick_run, List.size_toArray] <;> rfl
/-- xs[lo:hi] of a list: a new list -/
def rSlL (K : PySem.W.Frag) : V → Option Int → Option Int → Hp → VK → Prop := fun x lo hi H Q => ∃ a xs, x = .ref a ∧ SqL K H a xs ∧ ∀ p, H p = none → Q (.ref p) (upd H p (.lst (cutV xs lo hi)))
theorem sl_list : SlR X (rSlL X.K) := by
  intro pins s σ H x v vl vu lo hi sl Q I rx hs pl pu h
  obtain ⟨a, xs, rfl, hx, q⟩ := h
  cases rx
  obtain ⟨its, r, ht, hz⟩ := I.list hx
  have hlen := r.length
  refine ⟨"list", _, slot_list_getitem.lookup, ht.isList.typeIs, ?_⟩
  refine wpAny_getItem_list_slice ht.isList hs pl pu .none (by simp) ?_ (by rw [List.size_toArray] <;> omega)
  rw [slicePick_cut, ← hlen]
  refine ⟨.ref s.heap.objs.size, _, I.laid (t' := s.toks) (o := .lst (cutV xs lo hi)) (fun b ob q => Heap.get?_push_of_some _ q) (Nat.le_refl _) ?_, rfl, q _ (I.hok.fresh (Nat.le_refl _))⟩
  exact ⟨Nat.le_trans (cutV_length xs lo hi) hz, _, 0, (r.drop (HT.sIx xs.length 0 lo)).take (HT.sIx xs.length xs.length hi - HT.sIx xs.length 0 lo), Heap.get?_push_size _ rfl⟩

/-! ### in, not in: flat items -/
def flatV : V → Bool
  | .non => true
  | .bl _ => true
  | .int _ => true
  | .str _ => true
  | _ => false
/-- == of flat values -/
def eqV : V → V → Bool
  | .non, .non => true
  | .bl a, .bl b => a == b
  | .bl a, .int b => (if a then 1 else 0) == b
  | .int a, .bl b => a == (if b then 1 else 0)
  | .int a, .int b => a == b
  | .str a, .str b => a == b
  | _, _ => false
theorem eqAt_V {A : Around} {s : Shared} {y x : V} {u v : Value} (ry : RelV y u) (rx : RelV x v) (fy : flatV y = true) (fx : flatV x = true) : SeqAt.EqAt A s u v (eqV y x) := by
  cases y with
  | non =>
    cases ry
    cases x with
    | non => cases rx; exact SeqAt.EqAt.same _
    | bl b => cases rx; exact SeqAt.EqAt.none_bool b
    | int b => obtain ⟨t, rfl⟩ := rx; exact SeqAt.EqAt.none_int b t
    | str b => obtain ⟨t, rfl⟩ := rx; exact SeqAt.EqAt.none_str b t
    | _ => exact absurd (show false = true from fx) Bool.false_ne_true
  | bl a =>
    cases ry
    cases x with
    | non => cases rx; exact SeqAt.EqAt.bool_none a
    | bl b => cases rx; exact SeqAt.EqAt.bool_bool a b
    | int b => obtain ⟨t, rfl⟩ := rx; exact SeqAt.EqAt.bool_int a b t
    | str b => obtain ⟨t, rfl⟩ := rx; exact SeqAt.EqAt.bool_str a b t
    | _ => exact absurd (show false = true from fx) Bool.false_ne_true
  | int a =>
    obtain ⟨t', rfl⟩ := ry
    cases x with
    | non => cases rx; exact SeqAt.EqAt.int_none a t'
    | bl b => cases rx; exact SeqAt.EqAt.int_bool a t' b
    | int b => obtain ⟨t, rfl⟩ := rx; exact SeqAt.EqAt.int_int a t' b t
    | str b => obtain ⟨t, rfl⟩ := rx; exact SeqAt.EqAt.int_str a t' b t
    | _ => exact absurd (show false = true from fx) Bool.false_ne_true
  | str a =>
    obtain ⟨t', rfl⟩ := ry
    cases x with
    | non => cases rx; exact SeqAt.EqAt.str_none a t'
    | bl b => cases rx; exact SeqAt.EqAt.str_bool a t' b
    | int b => obtain ⟨t, rfl⟩ := rx; exact SeqAt.EqAt.str_int a t' b t
    | str b => obtain ⟨t, rfl⟩ := rx; exact SeqAt.EqAt.str_str a t' b t
    | _ => exact absurd (show false = true from fx) Bool.false_ne_true
  | _ => exact absurd (show false = true from fy) Bool.false_ne_true
/-- the items' answers, read off the values (a value's own answer does not lean on its token) -/
def eqU (x : V) (u : Value) : Bool := match u with
  | .none => eqV .non x
  | .bool b => eqV (.bl b) x
  | .int i _ => eqV (.int i) x
  | .str z _ => eqV (.str z) x
  | _ => false
theorem eqU_of {x y : V} {u : Value} (r : RelV y u) (f : flatV y = true) : eqU x u = eqV y x := by
  cases y with
  | non => cases r; rfl
  | bl b => cases r; rfl
  | int i => obtain ⟨t, rfl⟩ := r; rfl
  | str z => obtain ⟨t, rfl⟩ := r; rfl
  | _ => exact absurd (show false = true from f) Bool.false_ne_true
theorem any_eqU {x : V} : ∀ {xs : List V} {us : List Value}, Vals xs us → xs.all flatV = true → us.any (eqU x) = xs.any fun y => eqV y x
  | _, _, .nil, _ => rfl
  | y :: xs, u :: us, .cons r t, f => by
    rw [List.all_cons, Bool.and_eq_true] at f
    rw [List.any_cons, List.any_cons, eqU_of r f.1, any_eqU t f.2]
theorem mem_eqAt {A : Around} {s : Shared} {x : V} {v : Value} (rx : RelV x v) (fx : flatV x = true) : ∀ {xs : List V} {us : List Value}, Vals xs us → xs.all flatV = true → ∀ u ∈ us, SeqAt.EqAt A s u v (eqU x u)
  | _, _, .nil, _ => fun u hu => by cases hu
  | y :: xs, u :: us, .cons r t, f => fun u' hu => by
    rw [List.all_cons, Bool.and_eq_true] at f
    rcases List.mem_cons.mp hu with rfl | hu
    · rw [eqU_of r f.1]; exact eqAt_V r rx f.1 fx
    · exact mem_eqAt rx fx t f.2 u' hu
def inV (x : V) (xs : List V) : Bool := xs.any fun y => eqV y x
/-- x in a list or tuple of flat items -/
def rIn (K : PySem.W.Frag) (neg : Bool) : R2 := fun x y H Q => ∃ p xs, y = .ref p ∧ (SqL K H p xs ∨ SqT K H p xs) ∧ flatV x = true ∧ xs.all flatV = true ∧ Q (.bl (if neg then !inV x xs else inV x xs)) H
theorem op_in_seq : OpR X (compareOp .In) (rIn X.K false) := by
  intro pins s σ H x y v u Q I rx ry h
  obtain ⟨p, xs, rfl, hq, fx, fs, q⟩ := h
  cases ry
  rcases hq with hq | hq
  · obtain ⟨its, r, pl, hz⟩ := I.list hq
    refine SeqAt.in_listAt (eqU x) pl.isList (fun w hw => mem_eqAt rx fx r fs w (by simpa using hw)) ⟨.bl _, H, I, rfl, ?_⟩
    rw [show its.toArray.any (eqU x) = its.any (eqU x) by simp, any_eqU r fs]
    exact q
  · obtain ⟨its, r, pl, hz⟩ := I.tuple hq
    refine SeqAt.in_tupleAt (eqU x) pl (fun w hw => mem_eqAt rx fx r fs w (by simpa using hw)) ⟨.bl _, H, I, rfl, ?_⟩
    rw [show its.toArray.any (eqU x) = its.any (eqU x) by simp, any_eqU r fs]
    exact q
theorem op_notIn_seq : OpR X (compareOp .NotIn) (rIn X.K true) := by
  intro pins s σ H x y v u Q I rx ry h
  obtain ⟨p, xs, rfl, hq, fx, fs, q⟩ := h
  cases ry
  rcases hq with hq | hq
  · obtain ⟨its, r, pl, hz⟩ := I.list hq
    refine SeqAt.notIn_listAt (eqU x) pl.isList (fun w hw => mem_eqAt rx fx r fs w (by simpa using hw)) ⟨.bl _, H, I, rfl, ?_⟩
    rw [show its.toArray.any (eqU x) = its.any (eqU x) by simp, any_eqU r fs]
    exact q
  · obtain ⟨its, r, pl, hz⟩ := I.tuple hq
    refine SeqAt.notIn_tupleAt (eqU x) pl (fun w hw => mem_eqAt rx fx r fs w (by simpa using hw)) ⟨.bl _, H, I, rfl, ?_⟩
    rw [show its.toArray.any (eqU x) = its.any (eqU x) by simp, any_eqU r fs]
    exact q
theorem op_notIn_str : OpR X (compareOp .NotIn) (fun x y H Q => ∃ i j, x = .str i ∧ y = .str j ∧ Q (.bl (!(!(Builtin.Str.occurrences j i 0 j.length 1).isEmpty))) H) := by
  intro pins s σ H x y v u Q I rx ry h
  obtain ⟨i, j, rfl, rfl, q⟩ := h
  obtain ⟨t, rfl⟩ := rx
  obtain ⟨t', rfl⟩ := ry
  exact notIn_str ⟨.bl _, H, I, rfl, q⟩

/-! ### len, list(x), tuple(x) of any list or tuple that is read -/
theorem call_len_seq : CallR X (.builtin "len") (fun xs H Q => ∃ p ys, xs = [.ref p] ∧ (SqL X.K H p ys ∨ SqT X.K H p ys) ∧ Q (.int ys.length) H) := by
  intro pins s σ H xs us Q I r h
  obtain ⟨p, ys, rfl, hq, q⟩ := h
  obtain ⟨u, rfl, rx⟩ := vals1 r
  cases rx
  have hn := line63
  rcases hq with hq | hq
  · obtain ⟨its, r', pl, hz⟩ := I.list hq
    have hlen := r'.length
    exact Calls.call_len_list pl.isList (by simp only [List.size_toArray] <;> omega) ⟨.int ys.length, H, I.tok _, ⟨s.toks + 1, by rw [List.size_toArray, hlen]⟩, q⟩
  · obtain ⟨its, r', pl, hz⟩ := I.tuple hq
    have hlen := r'.length
    exact len_tuple pl (by simp only [List.size_toArray] <;> omega) ⟨.int ys.length, H, I.tok _, ⟨s.toks + 1, by rw [List.size_toArray, hlen]⟩, q⟩
theorem call_len_str : CallR X (.builtin "len") (fun xs H Q => ∃ z, xs = [.str z] ∧ z.length ≤ sizeLine ∧ Q (.int z.length) H) := by
  intro pins s σ H xs us Q I r h
  obtain ⟨z, rfl, hz, q⟩ := h
  obtain ⟨u, rfl, t, rfl⟩ := vals1 r
  have hn := line63
  exact len_str (by omega) ⟨.int z.length, H, I.tok _, ⟨_, rfl⟩, q⟩
theorem CallR.or {f : Value} {r r' : List V → Hp → VK → Prop} (h : CallR X f r) (h' : CallR X f r') : CallR X f (fun xs H Q => r xs H Q ∨ r' xs H Q) := by
  intro pins s σ H xs us Q I rs q
  rcases q with q | q
  · exact h pins s σ H xs us Q I rs q
  · exact h' pins s σ H xs us Q I rs q
theorem call_list_of : CallR X (.type "list") (fun xs H Q => ∃ p ys, xs = [.ref p] ∧ (SqL X.K H p ys ∨ SqT X.K H p ys) ∧ ∀ l, H l = none → Q (.ref l) (upd H l (.lst ys))) := by
  intro pins s σ H xs us Q I r h
  obtain ⟨p, ys, rfl, hq, q⟩ := h
  obtain ⟨u, rfl, rx⟩ := vals1 r
  cases rx
  have fin : ∀ (its : List Value), Vals ys its → ys.length ≤ sizeLine → ∀ (h' : Heap) (c' : Nat), (∀ b o', s.heap.get? b = some o' → h'.get? b = some o') →
      h'.get? s.heap.objs.size = some { cls := .type "list", dict := none, data := .seq its.toArray c', slots := #[] } → EP X pins σ Q (.ref s.heap.objs.size) { s with heap := h' } := fun its r' hz h' c' kp e =>
    ⟨.ref s.heap.objs.size, _, I.laid (t' := s.toks) kp (Nat.le_refl _) (show ObjOk X.prog X.w _ h' _ (.lst ys) from ⟨hz, its, c', r', e⟩), rfl, q _ (I.hok.fresh (Nat.le_refl _))⟩
  rcases hq with hq | hq
  · obtain ⟨its, r', pl, hz⟩ := I.list hq
    have hlen := r'.length
    obtain ⟨o, ho, hc, n, hd⟩ := pl.isList
    exact call_list_seq p (.inl rfl) ho hc hd (fun h' c' kp e => fin its r' hz h' c' kp e) (by simp only [List.size_toArray] <;> omega)
  · obtain ⟨its, r', pl, hz⟩ := I.tuple hq
    have hlen := r'.length
    obtain ⟨o, ho, hc, n, hd⟩ := pl
    exact call_list_seq p (.inr rfl) ho hc hd (fun h' c' kp e => fin its r' hz h' c' kp e) (by simp only [List.size_toArray] <;> omega)
theorem call_tuple_of : CallR X (.type "tuple") (fun xs H Q => ∃ p ys, xs = [.ref p] ∧ ((SqL X.K H p ys ∧ ∀ l, H l = none → Q (.ref l) (upd H l (.tup ys))) ∨ (SqT X.K H p ys ∧ Q (.ref p) H))) := by
  intro pins s σ H xs us Q I r h
  obtain ⟨p, ys, rfl, h⟩ := h
  obtain ⟨u, rfl, rx⟩ := vals1 r
  cases rx
  rcases h with ⟨hq, q⟩ | ⟨hq, q⟩
  · obtain ⟨its, r', pl, hz⟩ := I.list hq
    have hlen := r'.length
    refine call_tuple_list pl.isList (fun h' kp => ?_) (by simp only [List.size_toArray] <;> omega)
    have I1 : Inv X pins σ H { s with heap := h' } := I.kept (t' := s.toks) kp
    have I2 : Inv X pins σ (upd H h'.objs.size (.tup ys)) { s with heap := h'.push { cls := .type "tuple", data := .seq its.toArray } } :=
      I1.laid (t' := s.toks) (fun b o e => Heap.get?_push_of_some _ e) (Nat.le_refl _) (show ObjOk X.prog X.w _ _ _ (.tup ys) from ⟨hz, its, r', IsTup.new _ _⟩)
    exact ⟨.ref h'.objs.size, _, I2, rfl, q _ (I1.hok.fresh (Nat.le_refl _))⟩
  · obtain ⟨its, r', pl, hz⟩ := I.tuple hq
    exact call_tuple_same pl ⟨.ref p, H, I, rfl, q⟩

/-! ### the call of a builtin's method: o.m(..) -/
/-- the value is of that builtin type -/
def tyV (K : PySem.W.Frag) (T : String) (x : V) (H : Hp) : Prop := match x with
  | .str _ => T = "str"
  | .int _ => T = "int"
  | .ref p => (T = "list" ∧ ∃ xs, SqL K H p xs) ∨ (T = "tuple" ∧ ∃ o, K.lookup p = some o ∧ o.cls = .type "tuple" ∧ o.dict = none) ∨
      (T = "dict" ∧ ((∃ kvs, H p = some (.dK kvs)) ∨ ∃ kvs, H p = some (.dT kvs))) ∨ (T = "set" ∧ ∃ S n, H p = some (.set S n))
  | _ => False
theorem tyV_is {pins : List (Addr × Obj)} {σ : St} {H : Hp} {s : Shared} {T : String} {x : V} {v : Value} (I : Inv X pins σ H s) (r : RelV x v) (ty : tyV X.K T x H) :
    s.TypeIs v T ∧ ∀ a, v = .ref a → ∃ ob, s.heap.get? a = some ob ∧ ob.dict = none := by
  cases x with
  | str z =>
    obtain ⟨t, rfl⟩ := r
    cases (show T = "str" from ty)
    exact ⟨typeIs_str s z t, fun _ e => nomatch e⟩
  | int i =>
    obtain ⟨t, rfl⟩ := r
    cases (show T = "int" from ty)
    exact ⟨typeIs_int s i t, fun _ e => nomatch e⟩
  | ref p =>
    cases r
    rcases ty with ⟨rfl, xs, hq⟩ | ⟨rfl, o, hk, hc, hd⟩ | ⟨rfl, hk⟩ | ⟨rfl, S, n, hk⟩
    · obtain ⟨its, _, pl, _⟩ := I.list hq
      refine ⟨pl.isList.typeIs, fun a e => ?_⟩
      cases e
      obtain ⟨o, n, e, c, hd, _⟩ := pl
      exact ⟨o, e, hd⟩
    · refine ⟨⟨o, I.kIn p o hk, hc⟩, fun a e => ?_⟩
      cases e
      exact ⟨o, I.kIn _ o hk, hd⟩
    · have z : ∃ o, s.heap.get? p = some o ∧ o.ExactDict := by
        rcases hk with ⟨kvs, hk⟩ | ⟨kvs, hk⟩
        · obtain ⟨_, _, _, _, o, _, _, e, ex, _⟩ := I.hok p _ hk
          exact ⟨o, e, ex⟩
        · obtain ⟨_, _, _, _, o, _, _, e, ex, _⟩ := I.hok p _ hk
          exact ⟨o, e, ex⟩
      obtain ⟨o, e, ex⟩ := z
      refine ⟨⟨o, e, ex.1⟩, fun a e2 => ?_⟩
      cases e2
      exact ⟨o, e, ex.2.1⟩
    · obtain ⟨o, _, _, _, e, ex, _⟩ := I.hok p _ hk
      refine ⟨⟨o, e, ex.1⟩, fun a e2 => ?_⟩
      cases e2
      exact ⟨o, e, ex.2.1⟩
  | _ => exact False.elim ty
def tBM0 (K : PySem.W.Frag) (T : String) (r : V → List V → Hp → VK → Prop) (to : TE) : TE := fun σ H Q => to σ H fun x H1 => tyV K T x H1 ∧ r x [] H1 Q
def tBM (K : PySem.W.Frag) (T : String) (r : V → List V → Hp → VK → Prop) (to : TE) (t : TA) : TE := fun σ H Q => to σ H fun x H1 => tyV K T x H1 ∧ t σ H1 fun xs H2 => r x xs H2 Q
variable {o e : Expr} {es : List Expr} {to : TE} {t : TA} {name : Str} {apos cpos : Pos} {T id : String} {r : V → List V → Hp → VK → Prop}
theorem pe_bm0 (pa : PlainAttrs T) (slot : Slot T name id) (hty : typeOf (.builtin id) = pure (.type "method_descriptor")) (hm : MtR X id r) (ho : PE X o to)
    (hbase : attributeBase o name X.env (eval o X.env) = eval o X.env := by rfl) (hline : (apos.endLine == cpos.line) = true := by rfl) : PE X (.Call (.Attribute o name apos) [] [] cpos) (tBM0 X.K T r to) := by
  intro pins s σ H Q I h
  refine wpAny_Call_method0_late hbase hline (thn (ho pins s σ H _ I h) fun v s1 ⟨x, H1, I1, r1, ty, q1⟩ => ?_)
  obtain ⟨h1, h2⟩ := tyV_is I1 r1 ty
  exact ⟨T, id, pa, slot, hty, h1, h2, Calls.callWith_builtin rfl (PySem.evalArgs_none (hm pins s1 σ H1 x [] v [] Q I1 r1 .nil q1))⟩
theorem pe_bm (pa : PlainAttrs T) (slot : Slot T name id) (hty : typeOf (.builtin id) = pure (.type "method_descriptor")) (hm : MtR X id r) (ho : PE X o to) (ha : PA X (e :: es) t)
    (hbase : attributeBase o name X.env (eval o X.env) = eval o X.env := by rfl)
    (hfew : ((backTo cpos (starEach (e :: es) X.env)).all (fun x => !x.1) && (backToKw cpos (keywordEach [] X.env)).all (fun x => x.1.isSome)
      && decide ((e :: es).length + ([] : List Keyword).length + (if ([] : List Keyword).isEmpty then 0 else 1) < 30)) = true := by rfl)
    (hline : (apos.endLine == cpos.line) = true := by rfl) (hs : starEach (e :: es) X.env = (false, eval e X.env) :: starEach es X.env := by rfl) (hplain : (backTo cpos (starEach es X.env)).any (·.1) = false := by rfl) :
    PE X (.Call (.Attribute o name apos) (e :: es) [] cpos) (tBM X.K T r to t) := by
  intro pins s σ H Q I h
  refine wpAny_Call_method_late hbase hfew hline rfl (thn (ho pins s σ H _ I h) fun v s1 ⟨x, H1, I1, r1, ty, q1⟩ => ?_)
  obtain ⟨h1, h2⟩ := tyV_is I1 r1 ty
  refine ⟨T, id, pa, slot, hty, h1, h2, ?_⟩
  have hA := ha cpos pins s1 σ H1 _ I1 q1
  rw [hs] at hA ⊢
  refine Calls.callWith_builtin (by show (false || (backTo cpos (starEach es X.env)).any (·.1)) = false; rw [hplain] <;> rfl) (Calls.evalArgs_plain ?_)
  exact thn hA fun us s2 ⟨vs, H2, I2, r2, q2⟩ => hm pins s2 σ H2 x vs v us Q I2 r1 r2 q2
/- xs.append(e), list.index on a module's tuple .. are MtR facts of 06m -/
end
end L2

namespace L2
open PySem PySem.Spec PyProof.Rows

def MtM (X : Cx) (id : String) (r : V → List V → Hp → VK → Prop) : Prop :=
  ∀ (pins : List (Addr × Obj)) (s : Shared) (σ : St) (H : Hp) (x : V) (xs : List V) (v : Value) (us : List Value) (Q : VK), Inv X pins σ H s → RelV x v → Vals xs us → r x xs H Q →
    wpAny (model X.prog X.w) X.A (call (.builtin id) (v :: us)) (EP X pins σ Q) X.xe s

/-! ### lists of values -/
theorem Vals.one : ∀ {x : V} {us : List Value}, Vals [x] us → ∃ u, us = [u] ∧ RelV x u
  | _, _, .cons r .nil => ⟨_, rfl, r⟩
theorem Vals.two : ∀ {x y : V} {us : List Value}, Vals [x, y] us → ∃ u v, us = [u, v] ∧ RelV x u ∧ RelV y v
  | _, _, _, .cons r (.cons q .nil) => ⟨_, _, rfl, r, q⟩
theorem Vals.zero : ∀ {us : List Value}, Vals [] us → us = []
  | _, .nil => rfl
theorem Vals.dropLast {xs : List V} {us : List Value} (h : Vals xs us) : Vals xs.dropLast us.dropLast := by
  induction h with
  | nil => exact .nil
  | cons r t ih =>
    cases t with
    | nil => exact .nil
    | cons q t' => exact .cons r ih
theorem Vals.eraseIdx : ∀ {xs : List V} {us : List Value} (i : Nat), Vals xs us → Vals (xs.eraseIdx i) (us.eraseIdx i)
  | _, _, _, .nil => .nil
  | _, _, 0, .cons _ t => t
  | _, _, i + 1, .cons r t => .cons r (Vals.eraseIdx i t)
theorem Vals.reverse {xs : List V} {us : List Value} (h : Vals xs us) : Vals xs.reverse us.reverse := by
  induction h with
  | nil => exact .nil
  | cons r t ih => rw [List.reverse_cons, List.reverse_cons]; exact Vals.append ih (.cons r .nil)
theorem Vals.rep {xs : List V} {us : List Value} (h : Vals xs us) : ∀ k : Nat, Vals (List.replicate k xs).flatten (List.replicate k us).flatten
  | 0 => .nil
  | k + 1 => by
    rw [List.replicate_succ, List.replicate_succ, List.flatten_cons, List.flatten_cons]
    exact Vals.append h (Vals.rep h k)
theorem erase_last {α : Type} (l : List α) : l.eraseIdx (l.length - 1) = l.dropLast := by
  induction l with
  | nil => rfl
  | cons a r ih =>
    cases r with
    | nil => rfl
    | cons b r =>
      have e : (a :: b :: r).length - 1 = ((b :: r).length - 1) + 1 := by
        have h1 : (a :: b :: r).length = r.length + 2 := rfl
        have h2 : (b :: r).length = r.length + 1 := rfl
        omega
      rw [e, List.eraseIdx_cons_succ, ih]
      all_goals rfl
theorem len_erase {α : Type} : ∀ (l : List α) (i : Nat), (l.eraseIdx i).length ≤ l.length
  | [], _ => Nat.le_refl _
  | _ :: _, 0 => Nat.le_succ _
  | _ :: r, i + 1 => Nat.succ_le_succ (len_erase r i)
theorem foldl_rep (its : List Value) : ∀ (k : Nat) (acc : List Value),
    List.foldl (fun x1 x2 => x1 ++ x2) acc.toArray (List.replicate k its.toArray) = (acc ++ (List.replicate k its).flatten).toArray
  | 0, acc => by simp
  | k + 1, acc => by
    have e : acc.toArray ++ its.toArray = (acc ++ its).toArray := by simp
    have e2 : (acc ++ its) ++ (List.replicate k its).flatten = acc ++ (List.replicate (k + 1) its).flatten := by
      rw [List.replicate_succ, List.flatten_cons, List.append_assoc]
    rw [← e2, ← foldl_rep its k (acc ++ its), ← e, List.replicate_succ, List.foldl_cons]

section
variable {X : Cx} {pins : List (Addr × Obj)} {σ : St} {H : Hp} {s : Shared} {l b : Addr} {xs ys zs : List V}

/-! ### the two steps: a tracked list is rewritten, a new list is laid -/
theorem Inv.lset {its its' : List Value} {n : Nat} {f : Array Value → Array Value} {t' : Nat} (I : Inv X pins σ H s) (hH : H l = some (.lst xs))
    (e : s.heap.get? l = some { cls := .type "list", data := .seq its.toArray n }) (hf : f its.toArray = its'.toArray) (hv : Vals ys its') (hz : ys.length ≤ sizeLine) :
    Inv X pins σ (upd H l (.lst ys)) { s with heap := s.heap.update l (Obj.mapSeq f), toks := t' } := by
  have q := PySem.IsL.update e f
  rw [hf] at q
  refine I.write (x := l) (e := l) (by rw [hH]; exact trivial) (.inl rfl) (fun b' u hb hu => (Heap.get?_update_other s.heap (Obj.mapSeq f) (Ne.symm hb)).trans hu) ⟨_, q⟩ ?_
  exact ⟨hz, its', _, hv, q⟩
theorem Inv.lnew {its : List Value} {t' : Nat} (I : Inv X pins σ H s) (hv : Vals ys its) (hz : ys.length ≤ sizeLine) :
    Inv X pins σ (upd H s.heap.objs.size (.lst ys)) { s with heap := s.heap.push { cls := .type "list", data := .seq its.toArray }, toks := t' } :=
  I.laid (fun _ _ q => Heap.get?_push_of_some _ q) (Nat.le_refl _) ⟨hz, its, 0, hv, Heap.get?_push_size _ rfl⟩
theorem Inv.fresh (I : Inv X pins σ H s) : H s.heap.objs.size = none := I.hok.fresh (Nat.le_refl _)
theorem Inv.lstM (I : Inv X pins σ H s) (hH : H l = some (.lst xs)) : xs.length ≤ sizeLine ∧ ∃ (its : List Value) (n : Nat), Vals xs its ∧ xs.length = its.length ∧ s.heap.get? l = some { cls := .type "list", data := .seq its.toArray n } := by
  obtain ⟨z, its, n, r, e⟩ := I.hok l _ hH
  exact ⟨z, its, n, r, r.length, e⟩

theorem notLongL {n : Nat} (h : n ≤ sizeLine) : Builtin.List.listTooLong n = false := by
  unfold Builtin.List.listTooLong
  exact decide_eq_false (by omega)
end

section
variable {X : Cx}

/-! ### methods -/
def rAppend : V → List V → Hp → VK → Prop := fun x vs H Q => ∃ l xs y, x = .ref l ∧ vs = [y] ∧ H l = some (.lst xs) ∧ xs.length < sizeLine ∧ Q .non (upd H l (.lst (xs ++ [y])))
theorem mt_append : MtM X "list.append" rAppend := by
  intro pins s σ H x vs v us Q I rx rv h
  obtain ⟨l, xs, y, rfl, rfl, hH, hz, q⟩ := h
  cases rx
  obtain ⟨u, rfl, ru⟩ := rv.one
  obtain ⟨z, its, n, r, hl, e⟩ := I.lstM hH
  refine call_meets F.slot_list_append ⟨_, e, rfl⟩ F.entry_list_append (F.args_list_append_2 _ _) (PySem.list_append l its.toArray n u (by rw [List.size_toArray]; omega)) ⟨e, ?_⟩
  refine ⟨.non, _, I.lset (its' := its ++ [u]) hH e (by simp) (r.append (.cons ru .nil)) ?_, rfl, q⟩
  rw [List.length_append, List.length_singleton]
  omega

def rExtend : V → List V → Hp → VK → Prop := fun x vs H Q => ∃ l b xs zs, x = .ref l ∧ vs = [.ref b] ∧ H l = some (.lst xs) ∧ H b = some (.lst zs) ∧ xs.length + zs.length ≤ sizeLine ∧ Q .non (upd H l (.lst (xs ++ zs)))
theorem mt_extend : MtM X "list.extend" rExtend := by
  intro pins s σ H x vs v us Q I rx rv h
  obtain ⟨l, b, xs, zs, rfl, rfl, hH, hB, hz, q⟩ := h
  cases rx
  obtain ⟨u, rfl, ru⟩ := rv.one
  cases ru
  obtain ⟨z, its, n, r, hl, e⟩ := I.lstM hH
  obtain ⟨z2, its2, n2, r2, hl2, e2⟩ := I.lstM hB
  have hsz : its.toArray.size + its2.toArray.size ≤ sizeLine := by rw [List.size_toArray, List.size_toArray]; omega
  have hlong : ¬ (!its.toArray.isEmpty && Builtin.List.listTooLong (its.toArray.size + its2.toArray.size)) = true := by
    rw [notLongL hsz, Bool.and_false]
    exact Bool.false_ne_true
  refine call_meets F.slot_list_extend ⟨_, e, rfl⟩ F.entry_list_extend (F.args_list_extend_2 _ _)
    (AutoSeq1.list_extend_list_list_0 l its.toArray n b its2.toArray n2 hlong (by rw [List.size_toArray]; omega) (by omega)) ⟨e, e2, ?_⟩
  refine ⟨.non, _, I.lset (its' := its ++ its2) hH e (by simp) (r.append r2) ?_, rfl, q⟩
  rw [List.length_append]
  omega

def rPop : V → List V → Hp → VK → Prop := fun x vs H Q => ∃ l xs y, x = .ref l ∧ vs = [] ∧ H l = some (.lst xs) ∧ xs[xs.length - 1]? = some y ∧ Q y (upd H l (.lst xs.dropLast))
theorem mt_pop : MtM X "list.pop" rPop := by
  intro pins s σ H x vs v us Q I rx rv h
  obtain ⟨l, xs, y, rfl, rfl, hH, hy, q⟩ := h
  cases rx
  have hus := rv.zero
  subst hus
  obtain ⟨z, its, n, r, hl, e⟩ := I.lstM hH
  obtain ⟨u, hu, ru⟩ := r.get hy
  have hy' : its.toArray[its.toArray.size - 1]? = some u := by
    show its.toArray[its.length - 1]? = some u
    rw [← Array.getElem?_toList, ← hl]
    exact hu
  refine call_meets F.slot_list_pop ⟨_, e, rfl⟩ F.entry_list_pop (F.args_list_pop_1 _) (MeetsSeq.list_pop_last l its.toArray n u hy' (by rw [List.size_toArray]; omega)) ⟨e, ?_⟩
  refine ⟨y, _, I.lset (its' := its.dropLast) hH e ?_ r.dropLast ?_, ru, q⟩
  · show its.toArray.eraseIdxIfInBounds (its.toArray.size - 1) = its.dropLast.toArray
    rw [List.size_toArray, List.eraseIdxIfInBounds_toArray, erase_last]
  · rw [List.length_dropLast]
    omega

def rPopAt : V → List V → Hp → VK → Prop := fun x vs H Q => ∃ l xs i k y, x = .ref l ∧ vs = [.int i] ∧ H l = some (.lst xs) ∧ -(2 ^ 63) ≤ i ∧ i < 2 ^ 63 ∧ seqIndex? i xs.length = some k ∧ xs[k]? = some y ∧ Q y (upd H l (.lst (xs.eraseIdx k)))
theorem mt_popAt : MtM X "list.pop" rPopAt := by
  intro pins s σ H x vs v us Q I rx rv h
  obtain ⟨l, xs, i, k, y, rfl, rfl, hH, h1, h2, hk, hy, q⟩ := h
  cases rx
  obtain ⟨u, rfl, ru⟩ := rv.one
  obtain ⟨t, rfl⟩ := ru
  obtain ⟨z, its, n, r, hl, e⟩ := I.lstM hH
  obtain ⟨w, hw, rw'⟩ := r.get hy
  refine call_meets F.slot_list_pop ⟨_, e, rfl⟩ F.entry_list_pop (F.args_list_pop_2 _ _)
    (MeetsSeq.list_pop_at l its.toArray n i t k w (fitsIndex_both h1 h2) (by rw [List.size_toArray, ← hl]; exact hk) (by rw [← Array.getElem?_toList]; exact hw) (by rw [List.size_toArray]; omega)) ⟨e, ?_⟩
  refine ⟨y, _, I.lset (its' := its.eraseIdx k) hH e ?_ (r.eraseIdx k) ?_, rw', q⟩
  · show its.toArray.eraseIdxIfInBounds k = (its.eraseIdx k).toArray
    rw [List.eraseIdxIfInBounds_toArray]
  · have := len_erase xs k
    omega

def rReverse : V → List V → Hp → VK → Prop := fun x vs H Q => ∃ l xs, x = .ref l ∧ vs = [] ∧ H l = some (.lst xs) ∧ Q .non (upd H l (.lst xs.reverse))
theorem mt_reverse : MtM X "list.reverse" rReverse := by
  intro pins s σ H x vs v us Q I rx rv h
  obtain ⟨l, xs, rfl, rfl, hH, q⟩ := h
  cases rx
  have hus := rv.zero
  subst hus
  obtain ⟨z, its, n, r, hl, e⟩ := I.lstM hH
  refine call_meets F.slot_list_reverse ⟨_, e, rfl⟩ F.entry_list_reverse (F.args_list_reverse_1 _) (AutoSeq1.list_reverse_list_0 l its.toArray n (by rw [List.size_toArray]; omega)) ⟨e, ?_⟩
  refine ⟨.non, _, I.lset (its' := its.reverse) hH e (by simp) r.reverse ?_, rfl, q⟩
  rw [List.length_reverse]
  omega

def rClear : V → List V → Hp → VK → Prop := fun x vs H Q => ∃ l xs, x = .ref l ∧ vs = [] ∧ H l = some (.lst xs) ∧ Q .non (upd H l (.lst []))
theorem mt_clear : MtM X "list.clear" rClear := by
  intro pins s σ H x vs v us Q I rx rv h
  obtain ⟨l, xs, rfl, rfl, hH, q⟩ := h
  cases rx
  have hus := rv.zero
  subst hus
  obtain ⟨z, its, n, r, hl, e⟩ := I.lstM hH
  refine call_meets F.slot_list_clear ⟨_, e, rfl⟩ F.entry_list_clear (F.args_list_clear_1 _) (AutoSeq1.list_clear_list_0 l its.toArray n (by rw [List.size_toArray]; omega)) ⟨e, ?_⟩
  exact ⟨.non, _, I.lset (its' := []) (ys := []) hH e rfl .nil (Nat.zero_le _), rfl, q⟩

/-! ### list + list, list += list, list * int -/
def rCat : R2 := fun x y H Q => ∃ l b xs zs, x = .ref l ∧ y = .ref b ∧ H l = some (.lst xs) ∧ H b = some (.lst zs) ∧ xs.length + zs.length ≤ sizeLine ∧ ∀ p, H p = none → Q (.ref p) (upd H p (.lst (xs ++ zs)))
theorem op_cat : OpR X (binaryOp .Add) rCat := by
  intro pins s σ H x y v u Q I rx ry h
  obtain ⟨l, b, xs, zs, rfl, rfl, hH, hB, hz, q⟩ := h
  cases rx
  cases ry
  obtain ⟨z, its, n, r, hl, e⟩ := I.lstM hH
  obtain ⟨z2, its2, n2, r2, hl2, e2⟩ := I.lstM hB
  refine PySem.P.add_list e e2 ?_ (by rw [List.size_toArray, List.size_toArray]; omega)
  have ea : its.toArray ++ its2.toArray = (its ++ its2).toArray := by simp
  rw [ea]
  exact ⟨.ref _, _, I.lnew (t' := s.toks) (r.append r2) (by rw [List.length_append]; omega), rfl, q _ I.fresh⟩
/-- a list times an int (a negative one is nothing) -/
def rRep : R2 := fun x y H Q => ∃ l k xs, x = .ref l ∧ y = .int k ∧ H l = some (.lst xs) ∧ -(2 ^ 63) ≤ k ∧ k < 2 ^ 63 ∧ xs.length * k.toNat ≤ sizeLine ∧
  ∀ p, H p = none → Q (.ref p) (upd H p (.lst (List.replicate k.toNat xs).flatten))
theorem len_rep {α : Type} (xs : List α) (k : Nat) : (List.replicate k xs).flatten.length = k * xs.length := by
  induction k with
  | zero => simp
  | succ k ih => rw [List.replicate_succ, List.flatten_cons, List.length_append, ih, Nat.succ_mul, Nat.add_comm]
theorem op_rep : OpR X (binaryOp .Mult) rRep := by
  intro pins s σ H x y v u Q I rx ry h
  obtain ⟨l, k, xs, rfl, rfl, hH, h1, h2, hz, q⟩ := h
  cases rx
  obtain ⟨t, rfl⟩ := ry
  obtain ⟨z, its, n, r, hl, e⟩ := I.lstM hH
  have hlen : its.toArray.size * k.toNat ≤ sizeLine := by rw [List.size_toArray, ← hl]; exact hz
  have hcap : ¬ its.toArray.size * k.toNat > (2 ^ 63 - 1) / 8 := by
    have : (sizeLine : Nat) ≤ (2 ^ 63 - 1) / 8 := by decide
    omega
  have hfit : ¬ (!Builtin.List.listFitsIndex k) = true := by
    rw [fitsIndex_both h1 h2]
    exact Bool.false_ne_true
  have hlong : ¬ Builtin.List.listTooLong (its.toArray.size * k.toNat) = true := by
    rw [notLongL hlen]
    exact Bool.false_ne_true
  have hnew : List.foldl (fun x1 x2 => x1 ++ x2) #[] (List.replicate (if its.toArray.isEmpty = true then 0 else k.toNat) its.toArray) = (List.replicate k.toNat its).flatten.toArray := by
    have f0 : ∀ m : Nat, List.foldl (fun x1 x2 => x1 ++ x2) #[] (List.replicate m its.toArray) = (List.replicate m its).flatten.toArray := fun m => by
      have := foldl_rep its m []
      rw [List.nil_append] at this
      exact this
    rw [f0]
    cases its with
    | nil => simp
    | cons a r' => rw [if_neg (by simp)]
  refine wpAny_binaryOp_repeat_ref (T := "list") (U := "int") (by decide) ⟨_, e, rfl⟩ (fun s' => typeIs_int s' k t) noFill_list_mul F.fills_int_mul F.slot_int_rmul repeat_list F.slot_int_index.lookup
    (call_meets F.slot_int_rmul (typeIs_int s k t) F.entry_int_rmul (F.args_int_rmul_2 _ _) (int___rmul___int_list k t l its.toArray n)
      ⟨e, rfl, ⟨_, e, rfl⟩, call_meets F.slot_list_mul ⟨_, e, rfl⟩ F.entry_list_mul (F.args_list_mul_2 _ _) (AutoListH.list___mul___list_int_3 l its.toArray n k t hfit hcap hlong) ⟨e, ?_⟩⟩)
  rw [hnew]
  exact ⟨.ref _, _, I.lnew (t' := s.toks) (r.rep k.toNat) (by rw [len_rep, Nat.mul_comm]; exact hz), rfl, q _ I.fresh⟩

/-! ### del xs[i] -/
theorem del_list {pins : List (Addr × Obj)} {s : Shared} {σ : St} {H : Hp} {l : Addr} {xs : List V} {i : Int} {t : Tok} {k : Nat} {Q : Unit → Shared → Prop} (I : Inv X pins σ H s) (hH : H l = some (.lst xs))
    (h1 : -(2 ^ 63) ≤ i) (h2 : i < 2 ^ 63) (hk : seqIndex? i xs.length = some k) (h : ∀ s', Inv X pins σ (upd H l (.lst (xs.eraseIdx k))) s' → Q () s') :
    wpAny (model X.prog X.w) X.A (delItem (.ref l) (.int i t)) Q X.xe s := by
  obtain ⟨z, its, n, r, hl, e⟩ := I.lstM hH
  refine PySem.P.delItem_list (k := k) e (fitsIndex_both h1 h2) (by rw [List.size_toArray, ← hl]; exact hk) (h _ ?_) (by rw [List.size_toArray]; omega)
  refine I.lset (its' := its.eraseIdx k) (t' := s.toks) hH e ?_ (r.eraseIdx k) ?_
  · show its.toArray.eraseIdxIfInBounds k = (its.eraseIdx k).toArray
    rw [List.eraseIdxIfInBounds_toArray]
  · have := len_erase xs k
    omega
end

/-! ### xs[a:b] = ys -/
section
variable {prog : Program} {w : World} {A : Around} {E : Value → Shared → Prop} {s : Shared}
theorem splice_eq (its its2 : List Value) (a c : Nat) : its.toArray.extract 0 a ++ its2.toArray ++ its.toArray.extract c its.toArray.size = (its.take a ++ its2 ++ its.drop c).toArray := by
  apply Array.toList_inj.mp
  first
    | (simp
       exact List.take_of_length_le (by simp))
    | simp [List.take_of_length_le]
    | simp
theorem bounds_run {a c n : Nat} (hac : a ≤ c) (hc : c ≤ n) : sliceBounds (some (a : Int)) (some (c : Int)) none n = ((a : Int), (c : Int), 1) := by
  simp only [sliceBounds, Option.getD_none]
  have h1 : ¬ ((a : Int) < 0) := by omega
  have h2 : ¬ ((c : Int) < 0) := by omega
  simp only [h1, h2, if_false, show (1 : Int) > 0 by decide, if_true]
  congr 1
  · omega
  · congr 1; omega
set_option maxRecDepth 100000 in
/-- list.__setitem__ with a slice of step one and another list -/
theorem setItem_slice {l b sl : Addr} {items new : Array Value} {n n2 : Nat} {vl vu : Value} {a c : Nat} {Q : Unit → Shared → Prop}
    (e : s.heap.get? l = some { cls := .type "list", data := .seq items n }) (e2 : s.heap.get? b = some { cls := .type "list", data := .seq new n2 }) (hne : l ≠ b)
    (hs : s.heap.IsSliceOf sl vl vu .none) (pl : IsPart vl (some (a : Int))) (pu : IsPart vu (some (c : Int))) (hac : a ≤ c) (hc : c ≤ items.size)
    (hsz : items.size + new.size ≤ sizeLine) (h : Q () { s with heap := s.heap.update l (Obj.mapSeq fun xs => xs.extract 0 a ++ new ++ xs.extract c xs.size) }) :
    wpAny (model prog w) A (setItem (.ref l) (.ref sl) (.ref b)) Q E s := by
  have hl : s.heap.IsList l items := PySem.IsL.isList e
  have hb : s.heap.IsList b new := PySem.IsL.isList e2
  obtain ⟨os, hos, hcs, hds⟩ := id hs
  have hTs : s.TypeIs (.ref sl) "slice" := ⟨os, hos, hcs⟩
  have hstep : ¬ ((rawPart none == rawInt 0) = true) := Bool.false_ne_true
  have hsame : Builtin.List.listSameRef (.ref l) (.ref b) = false := by
    unfold Builtin.List.listSameRef
    exact beq_eq_false_iff_ne.mpr hne
  have hmax : (max (a : Int) (c : Int)).toNat = c := by omega
  have hz' : ((fun xs : Array Value => xs.extract 0 a ++ new ++ xs.extract c xs.size) items).size ≤ sizeLine + 1 := by
    simp only [Array.size_append, Array.size_extract]
    omega
  unfold setItem
  try with_reducible refine wpAny_holding ?_
  first | refine wpAny_bind (wpAny_pure ?_) | skip
  refine wpAny_bind (wpAny_sequenceKey hl.typeIs (by decide) ?_)
  refine wpAny_bind (wpAny_callSpecial?_slot (name := Str.ofString "__setitem__") hl.typeIs slot_list_setitem
    (wpAny_call_entry slot_list_setitem hl.typeIs entry_list_setitem ?_ (args_list_setitem _ _ _)))
  show wpAny _ _ (Builtin.List.listSubscript? (.ref sl) >>= _) _ _ s
  refine wpAny_bind ?_
  unfold Builtin.List.listSubscript?
  refine wpAny_bind (wpAny_specialOf hTs slice_no_index ?_)
  simp only [Option.isNone_none, if_true]
  refine wpAny_pure ?_
  show wpAny _ _ (typeOf (.ref sl) >>= _) _ _ s
  refine wpAny_bind (wpAny_typeOf hTs ?_)
  first
    | rw [if_neg (by decide)]
    | refine PySem.W.KFB.if_not (by decide) ?_
  rw [listSliceParts_eq]
  refine wpAny_bind (wpAny_bind (wpAny_field hos hds (x := .none) rfl (wpAny_bind (wpAny_listPart .none ?_))))
  rw [if_neg hstep]
  refine wpAny_bind (wpAny_field hos hds (x := vl) rfl (wpAny_bind (wpAny_listPart pl ?_)))
  refine wpAny_bind (wpAny_field hos hds (x := vu) rfl (wpAny_bind (wpAny_listPart pu (wpAny_pure ?_))))
  first
    | simp only [hsame, Bool.false_eq_true, if_false]
    | refine PySem.W.KFB.if_not hsame ?_
    | (dsimp only
       rw [if_neg (by rw [hsame]; exact Bool.false_ne_true)])
  refine wpAny_bind (m := Builtin.List.listAllItems (.ref b) "must assign iterable to extended slice") ?_
  unfold Builtin.List.listAllItems
  refine wpAny_bind (wpAny_typeOf hb.typeIs ?_)
  first
    | refine PySem.W.KFB.if_so (by decide) ?_
    | rw [if_pos (by decide)]
    | simp only [beq_self_eq_true, Bool.true_or, if_true]
  unfold Builtin.List.listItems
  refine wpAny_bind (wpAny_seqItems e2 rfl (wpAny_pure ?_))
  refine wpAny_bind (wpAny_bind (wpAny_seqItems e rfl (wpAny_pure ?_)))
  refine wpAny_bind (wpAny_of_eq ((sliceIndices_raw (some (a : Int)) (some (c : Int)) none items.size (by simp)).trans (congrArg (pure : Int × Int × Int → Sem (Int × Int × Int)) (bounds_run hac hc))) ?_)
  show wpAny _ _ (if ((1 : Int) == 1) = true then _ else _) _ _ s
  rw [if_pos (by decide)]
  refine wpAny_bind (wpAny_rule ?_)
  first
    | simp only [notLongL hsz, Bool.false_eq_true, if_false]
    | refine PySem.W.KFB.if_not (notLongL hsz) ?_
  first | refine wpAny_bind (wpAny_pure ?_) | skip
  show wpAny _ _ (updateSeq l (fun xs => xs.extract 0 ((a : Int)).toNat ++ new ++ xs.extract (max (a : Int) (c : Int)).toNat xs.size) >>= _) _ _ s
  rw [hmax, Int.toNat_natCast]
  refine wpAny_bind (wpAny_updateSeq (hz := Nat.le_trans (Nat.le_add_right _ _) hsz) (_hz' := hz') e rfl ?_)
  refine wpAny_bind (wpAny_letGo ?_)
  first
    | exact wpAny_bind (wpAny_pure (wpAny_pure ⟨.none, rfl, wpAny_pure h⟩))
    | exact wpAny_pure ⟨.none, rfl, wpAny_pure h⟩
end

section
variable {X : Cx}
/-- xs[a:c] = ys of another list, at the value level: sl is the slice object that was just made -/
theorem set_slice {pins : List (Addr × Obj)} {s : Shared} {σ : St} {H : Hp} {l b sl : Addr} {xs ys : List V} {a c : Int} {vl vu : Value} {Q : Unit → Shared → Prop} (I : Inv X pins σ H s)
    (hH : H l = some (.lst xs)) (hB : H b = some (.lst ys)) (hne : l ≠ b) (hs : s.heap.IsSliceOf sl vl vu .none) (ra : RelV (.int a) vl) (rc : RelV (.int c) vu) (h0 : 0 ≤ a) (hac : a ≤ c) (hc : c ≤ xs.length)
    (hz : xs.length + ys.length ≤ sizeLine) (h : ∀ s', Inv X pins σ (upd H l (.lst (xs.take a.toNat ++ ys ++ xs.drop c.toNat))) s' → Q () s') :
    wpAny (model X.prog X.w) X.A (setItem (.ref l) (.ref sl) (.ref b)) Q X.xe s := by
  obtain ⟨ta, rfl⟩ := ra
  obtain ⟨tc, rfl⟩ := rc
  obtain ⟨z, its, n, r, hl, e⟩ := I.lstM hH
  obtain ⟨z2, its2, n2, r2, hl2, e2⟩ := I.lstM hB
  obtain ⟨a', rfl⟩ := Int.eq_ofNat_of_zero_le h0
  obtain ⟨c', rfl⟩ := Int.eq_ofNat_of_zero_le (Int.le_trans h0 hac)
  simp only [Int.toNat_natCast] at h
  refine setItem_slice (a := a') (c := c') e e2 hne hs (.int _ _) (.int _ _) (by omega) (by rw [List.size_toArray]; omega) (by rw [List.size_toArray, List.size_toArray]; omega) (h _ ?_)
  refine I.lset (its' := its.take a' ++ its2 ++ its.drop c') (t' := s.toks) hH e ?_ (Vals.append (Vals.append (r.take _) r2) (r.drop _)) ?_
  · exact splice_eq its its2 a' c'
  · rw [List.length_append, List.length_append, List.length_take, List.length_drop]
    omega
end
end L2

namespace L2
open PySem PySem.Spec PyProof.Rows

/-! ### lists of pairs as tables -/
section
variable {κ : Type} [DecidableEq κ]
def valV (kvs : List (κ × V)) (k : κ) : Option V := (kvs.find? fun kv => decide (kv.1 = k)).map (·.2)
/-- in its place, or at the end -/
def putK (kvs : List (κ × V)) (k : κ) (v : V) : List (κ × V) :=
  if (kvs.any fun kv => decide (kv.1 = k)) = true then kvs.map (fun kv => if kv.1 = k then (kv.1, v) else kv) else kvs ++ [(k, v)]
def dropK (kvs : List (κ × V)) (k : κ) : List (κ × V) := kvs.filter fun kv => decide (kv.1 ≠ k)

theorem valV_nil {k : κ} : valV ([] : List (κ × V)) k = none := rfl
theorem valV_pos {p : κ × V} {r : List (κ × V)} {k : κ} (e : p.1 = k) : valV (p :: r) k = some p.2 := by simp [valV, List.find?_cons, e]
theorem valV_neg {p : κ × V} {r : List (κ × V)} {k : κ} (e : ¬ p.1 = k) : valV (p :: r) k = valV r k := by simp [valV, List.find?_cons, e]
theorem valV_any (k : κ) : ∀ kvs : List (κ × V), (kvs.any fun kv => decide (kv.1 = k)) = (valV kvs k).isSome
  | [] => rfl
  | p :: r => by
    rw [List.any_cons]
    by_cases e : p.1 = k
    · simp only [valV_pos e, decide_eq_true e, Bool.true_or, Option.isSome_some]
    · rw [valV_neg e, decide_eq_false e, Bool.false_or]; exact valV_any k r
theorem valV_map (k j : κ) (y : V) : ∀ kvs : List (κ × V), valV (kvs.map fun kv => if kv.1 = k then (kv.1, y) else kv) j = (valV kvs j).map fun x => if j = k then y else x
  | [] => rfl
  | p :: r => by
    have ih := valV_map k j y r
    rw [List.map_cons]
    by_cases h : p.1 = k
    · rw [if_pos h]
      by_cases e : p.1 = j
      · rw [valV_pos (p := (p.1, y)) e, valV_pos e, Option.map_some, if_pos (e.symm.trans h)]
      · rw [valV_neg (p := (p.1, y)) e, valV_neg e, ih]
    · rw [if_neg h]
      by_cases e : p.1 = j
      · rw [valV_pos (p := p) e, valV_pos e, Option.map_some, if_neg (fun z => h (e.trans z))]
      · rw [valV_neg (p := p) e, valV_neg e, ih]
theorem valV_snoc (k j : κ) (y : V) : ∀ kvs : List (κ × V), valV kvs k = none → valV (kvs ++ [(k, y)]) j = if j = k then some y else valV kvs j
  | [], _ => by
    by_cases e : k = j
    · rw [if_pos e.symm]; exact valV_pos (p := (k, y)) e
    · rw [if_neg (fun z => e z.symm)]; exact valV_neg (p := (k, y)) e
  | p :: r, hn => by
    rw [List.cons_append]
    have hk : ¬ p.1 = k := fun z => by rw [valV_pos z] at hn; cases hn
    rw [valV_neg hk] at hn
    have ih := valV_snoc k j y r hn
    by_cases e : p.1 = j
    · rw [valV_pos e, valV_pos e, if_neg (fun z => hk (e.trans z))]
    · rw [valV_neg e, valV_neg e, ih]
theorem valV_put (kvs : List (κ × V)) (k j : κ) (y : V) : valV (putK kvs k y) j = if j = k then some y else valV kvs j := by
  unfold putK
  by_cases a : (kvs.any fun kv => decide (kv.1 = k)) = true
  · rw [if_pos a, valV_map]
    rw [valV_any] at a
    by_cases e : j = k
    · obtain ⟨x, hx⟩ := Option.isSome_iff_exists.mp a
      rw [if_pos e, e, hx, Option.map_some, if_pos rfl]
    · rw [if_neg e]
      cases valV kvs j with
      | none => rfl
      | some x => rw [Option.map_some, if_neg e]
  · rw [if_neg a]
    refine valV_snoc k j y kvs ?_
    rw [valV_any] at a
    cases q : valV kvs k with
    | none => rfl
    | some x => rw [q] at a; exact (a rfl).elim
theorem length_putK (kvs : List (κ × V)) (k : κ) (v : V) : (putK kvs k v).length ≤ kvs.length + 1 := by
  unfold putK
  split
  · rw [List.length_map]; omega
  · rw [List.length_append, List.length_cons, List.length_nil]; omega
theorem putK_new {kvs : List (κ × V)} {k : κ} (v : V) (h : valV kvs k = none) : putK kvs k v = kvs ++ [(k, v)] := by
  unfold putK
  rw [valV_any, h]
  exact if_neg (by decide)

theorem RelO.isSome_eq {o : Option V} {u : Option Value} (r : RelO o u) : o.isSome = u.isSome := by
  cases o with
  | none => cases u with
    | none => rfl
    | some _ => exact (show False from r).elim
  | some _ => cases u with
    | none => exact (show False from r).elim
    | some _ => rfl
theorem RelO.getD {o : Option V} {u : Option Value} {d : V} {d' : Value} (r : RelO o u) (rd : RelV d d') : RelV (o.getD d) (u.getD d') := by
  cases o with
  | none => cases u with
    | none => exact rd
    | some _ => exact (show False from r).elim
  | some _ => cases u with
    | none => exact (show False from r).elim
    | some _ => exact r

/-- raw tables of the same keys -/
theorem KV.val {kvs : List (κ × V)} {vs : List (κ × Value)} (r : KV kvs vs) (k : κ) : RelO (valV kvs k) (valueAt vs k) := by
  unfold KV at r
  induction r with
  | nil => exact True.intro
  | @cons p q ps qs h t ih =>
    obtain ⟨h1, h2⟩ := h
    by_cases e : p.1 = k
    · have e' : q.1 = k := h1.symm.trans e
      have b : valueAt (q :: qs) k = some q.2 := by simp [valueAt, List.find?_cons, e']
      rw [valV_pos e, b]; exact h2
    · have e' : ¬ q.1 = k := fun z => e (h1.trans z)
      have b : valueAt (q :: qs) k = valueAt qs k := by simp [valueAt, List.find?_cons, e']
      rw [valV_neg e, b]; exact ih
theorem KV.any {kvs : List (κ × V)} {vs : List (κ × Value)} (r : KV kvs vs) (k : κ) : (kvs.any fun kv => decide (kv.1 = k)) = vs.any fun kv => decide (kv.1 = k) := by
  unfold KV at r
  induction r with
  | nil => rfl
  | cons h t ih => rw [List.any_cons, List.any_cons, ih, h.1]
theorem KV.repl {kvs : List (κ × V)} {vs : List (κ × Value)} (r : KV kvs vs) (k : κ) {y : V} {u : Value} (ry : RelV y u) :
    KV (kvs.map fun kv => if kv.1 = k then (kv.1, y) else kv) (vs.map fun kv => if kv.1 = k then (kv.1, u) else kv) := by
  unfold KV at r ⊢
  induction r with
  | nil => exact .nil
  | @cons p q ps qs h t ih =>
    rw [List.map_cons, List.map_cons]
    refine .cons ?_ ih
    obtain ⟨h1, h2⟩ := h
    by_cases e : p.1 = k
    · rw [if_pos e, if_pos (h1.symm.trans e)]; exact ⟨h1, ry⟩
    · rw [if_neg e, if_neg (fun z => e (h1.trans z))]; exact ⟨h1, h2⟩
theorem KV.put {kvs : List (κ × V)} {vs : List (κ × Value)} (r : KV kvs vs) (k : κ) {y : V} {u : Value} (ry : RelV y u) : KV (putK kvs k y) (stored vs k u) := by
  unfold putK stored
  rw [r.any k]
  by_cases e : (vs.any fun kv => decide (kv.1 = k)) = true
  · rw [if_pos e, if_pos e]; exact r.repl k ry
  · rw [if_neg e, if_neg e]; exact Paired.snoc r ⟨rfl, ry⟩
theorem KV.drop {kvs : List (κ × V)} {vs : List (κ × Value)} (r : KV kvs vs) (k : κ) : KV (dropK kvs k) (without vs k) := by
  unfold KV at r ⊢
  unfold dropK without
  induction r with
  | nil => exact .nil
  | @cons p q ps qs h t ih =>
    obtain ⟨h1, h2⟩ := h
    rw [List.filter_cons, List.filter_cons]
    by_cases e : p.1 = k
    · have a : ¬ decide (p.1 ≠ k) = true := by simp [e]
      have b : ¬ decide (q.1 ≠ k) = true := by simp [h1.symm.trans e]
      rw [if_neg a, if_neg b]; exact ih
    · have e' : ¬ q.1 = k := fun z => e (h1.trans z)
      have a : decide (p.1 ≠ k) = true := by simp [e]
      have b : decide (q.1 ≠ k) = true := by simp [e']
      rw [if_pos a, if_pos b]; exact .cons ⟨h1, h2⟩ ih
theorem KV.keys {kvs : List (κ × V)} {vs : List (κ × Value)} (r : KV kvs vs) : kvs.map (·.1) = vs.map (·.1) := by
  unfold KV at r
  induction r with
  | nil => rfl
  | cons h t ih => rw [List.map_cons, List.map_cons, ih, h.1]
theorem KV.length {kvs : List (κ × V)} {vs : List (κ × Value)} (r : KV kvs vs) : kvs.length = vs.length := Paired.length r
theorem dropK_le (kvs : List (κ × V)) (k : κ) : (dropK kvs k).length ≤ kvs.length := List.length_filter_le _ _
end


/-! ### a tracked dict, its keys ints and texts or tuples of these -/
theorem kV_is {P : Program} {w : World} {k : Key} {u : Value} (r : RelV (kV k) u) : (mixKind P w).is k u = true := by
  cases k with
  | inl i => obtain ⟨t, e⟩ := (show ∃ t, u = Value.int i t from r); subst e; exact mixKind_int P w i t
  | inr x => obtain ⟨t, e⟩ := (show ∃ t, u = Value.str x t from r); subst e; exact mixKind_str P w x t
theorem kV_inj {a b : Key} (e : kV a = kV b) : a = b := by
  cases a with
  | inl i => cases b with
    | inl j => have e' : V.int i = V.int j := e; injection e' with e'; rw [e']
    | inr y => exact nomatch (show V.int i = V.str y from e)
  | inr x => cases b with
    | inl j => exact nomatch (show V.str x = V.int j from e)
    | inr y => have e' : V.str x = V.str y := e; injection e' with e'; rw [e']
theorem kVs_inj : ∀ {a b : List Key}, a.map kV = b.map kV → a = b
  | [], [], _ => rfl
  | [], _ :: _, e => by simp at e
  | _ :: _, [], e => by simp at e
  | x :: xs, y :: ys, e => by
    rw [List.map_cons, List.map_cons] at e
    injection e with e1 e2
    rw [kV_inj e1, kVs_inj e2]
theorem items_are {P : Program} {w : World} : ∀ {ks : List Key} {us : List Value}, Vals (ks.map kV) us → ItemsAre (mixKind P w) ks us
  | [], _, r => by rw [List.map_nil] at r; cases r; exact .nil
  | k :: ks, _, r => by
    rw [List.map_cons] at r
    cases r with
    | cons h t => exact .cons (kV_is h) (items_are t)

/-- raw entries of a dict with tuple keys -/
abbrev KT (H : Hp) : List (List Key × V) → List (List Key × Addr × Value) → Prop := Paired fun p q => p.1 = q.1 ∧ H q.2.1 = some (.tup (p.1.map kV)) ∧ RelV p.2 q.2.2
theorem KT.val {H : Hp} {kvs : List (List Key × V)} {xs : List (List Key × Addr × Value)} (r : KT H kvs xs) (k : List Key) : RelO (valV kvs k) ((atKey xs k).map (·.2)) := by
  induction r with
  | nil => exact True.intro
  | @cons p q ps qs h t ih =>
    obtain ⟨h1, _, h2⟩ := h
    by_cases e : p.1 = k
    · have e' : q.1 = k := h1.symm.trans e
      have b : atKey (q :: qs) k = some q.2 := by simp [atKey, List.find?_cons, e']
      rw [valV_pos e, b]; exact h2
    · have e' : ¬ q.1 = k := fun z => e (h1.trans z)
      have b : atKey (q :: qs) k = atKey qs k := by simp [atKey, List.find?_cons, e']
      rw [valV_neg e, b]; exact ih
theorem KT.repl {H : Hp} {kvs : List (List Key × V)} {xs : List (List Key × Addr × Value)} (r : KT H kvs xs) (k : List Key) {y : V} {u : Value} (ry : RelV y u) :
    KT H (kvs.map fun kv => if kv.1 = k then (kv.1, y) else kv) (xs.map (putAt k u)) := by
  induction r with
  | nil => exact .nil
  | @cons p q ps qs h t ih =>
    rw [List.map_cons, List.map_cons]
    refine .cons ?_ ih
    obtain ⟨h1, h2, h3⟩ := h
    unfold putAt
    by_cases e : p.1 = k
    · rw [if_pos e, if_pos (h1.symm.trans e)]; exact ⟨h1, h2, ry⟩
    · rw [if_neg e, if_neg (fun z => e (h1.trans z))]; exact ⟨h1, h2, h3⟩
theorem KT.put {H : Hp} {kvs : List (List Key × V)} {xs : List (List Key × Addr × Value)} (r : KT H kvs xs) (k : List Key) {b : Addr} {y : V} {u : Value} (hb : H b = some (.tup (k.map kV))) (ry : RelV y u) :
    KT H (putK kvs k y) (storedH xs k b u) := by
  have e : (kvs.any fun kv => decide (kv.1 = k)) = (atKey xs k).isSome := by
    rw [valV_any, (r.val k).isSome_eq, Option.isSome_map]
  unfold putK storedH
  rw [e]
  by_cases q : (atKey xs k).isSome = true
  · rw [if_pos q, if_pos q]; exact r.repl k ry
  · rw [if_neg q, if_neg q]; exact Paired.snoc r ⟨rfl, hb, ry⟩
theorem KT.keeps {H H' : Hp} {kvs : List (List Key × V)} {xs : List (List Key × Addr × Value)} (r : KT H kvs xs) (ht : ∀ b ys, H b = some (.tup ys) → H' b = some (.tup ys)) : KT H' kvs xs :=
  Paired.mapP r fun _ _ z => ⟨z.1, ht _ _ z.2.1, z.2.2⟩

section
variable {P : Program} {w : World} {H : Hp} {h : Heap} {a : Addr}
theorem rd_of {u : HO} (ok : HOk P w H h) (e : Rd H a u) : ObjOk P w H h a u := e.ok ok
theorem dk_rd {kvs : List (Key × V)} (ok : HOk P w H h) (e : Rd H a (.dK kvs)) : kvs.length ≤ sizeLine ∧ (a == sysModules) = false ∧ ∃ vs, KV kvs vs ∧ h.DictOf (mixKind P w) a vs :=
  show ObjOk P w H h a (.dK kvs) from rd_of ok e
theorem dk_of {kvs : List (Key × V)} (ok : HOk P w H h) (e : H a = some (.dK kvs)) : kvs.length ≤ sizeLine ∧ (a == sysModules) = false ∧ ∃ vs, KV kvs vs ∧ h.DictOf (mixKind P w) a vs := dk_rd ok (.inl e)
/-- a tracked tuple of ints and texts is a key -/
theorem key_of {ks : List Key} (ok : HOk P w H h) (e : H a = some (.tup (ks.map kV))) : (tupleKind (mixKind P w)).is h ks a := by
  obtain ⟨_, its, r, o, h1, h2, n, h3⟩ := (show ObjOk P w H h a (.tup (ks.map kV)) from ok a _ e)
  exact ⟨o, its.toArray, n, h1, h2, h3, by simpa using items_are r⟩
theorem dt_rd {kvs : List (List Key × V)} (ok : HOk P w H h) (e : Rd H a (.dT kvs)) : kvs.length ≤ sizeLine ∧ (a == sysModules) = false ∧
    ∃ xs, KT H kvs xs ∧ h.DictOfH (tupleKind (mixKind P w)) a xs := by
  obtain ⟨z, y, xs, r, o, es, ep, h1, h2, h3, h4, h5⟩ := (show ObjOk P w H h a (.dT kvs) from rd_of ok e)
  refine ⟨z, y, xs, r, o, es, ep, h1, h2, h3, h4, fun x hx => ?_, h5⟩
  have all : ∀ {l : List (List Key × V)} {m : List (List Key × Addr × Value)}, KT H l m → ∀ x ∈ m, (tupleKind (mixKind P w)).is h x.1 x.2.1 := by
    intro l m q
    induction q with
    | nil => intro x hx; exact nomatch hx
    | @cons p q ps qs hq t ih =>
      intro x hx
      rcases List.mem_cons.mp hx with e | hx
      · subst e
        exact key_of ok (by rw [← hq.1]; exact hq.2.1)
      · exact ih x hx
  exact all r x hx
theorem dt_of {kvs : List (List Key × V)} (ok : HOk P w H h) (e : H a = some (.dT kvs)) : kvs.length ≤ sizeLine ∧ (a == sysModules) = false ∧
    ∃ xs, KT H kvs xs ∧ h.DictOfH (tupleKind (mixKind P w)) a xs := dt_rd ok (.inl e)
end

/-- what the dict at a holds at the key y -/
def DGet (H : Hp) (a : Addr) (y : V) (r : Option V) : Prop :=
  (∃ kvs k, Rd H a (.dK kvs) ∧ y = kV k ∧ r = valV kvs k) ∨ ∃ kvs k b, Rd H a (.dT kvs) ∧ y = .ref b ∧ H b = some (.tup (k.map kV)) ∧ r = valV kvs k
/-- the heap behind a[y] = v -/
def DPut (H : Hp) (a : Addr) (y v : V) (H' : Hp) : Prop :=
  (∃ kvs k, H a = some (.dK kvs) ∧ y = kV k ∧ kvs.length < sizeLine ∧ H' = upd H a (.dK (putK kvs k v))) ∨
  ∃ kvs k b, H a = some (.dT kvs) ∧ y = .ref b ∧ H b = some (.tup (k.map kV)) ∧ kvs.length < sizeLine ∧ H' = upd H a (.dT (putK kvs k v))
theorem DGet.k {H : Hp} {a : Addr} {kvs : List (Key × V)} {k : Key} (e : H a = some (.dK kvs)) : DGet H a (kV k) (valV kvs k) := .inl ⟨kvs, k, .inl e, rfl, rfl⟩
theorem DGet.t {H : Hp} {a b : Addr} {kvs : List (List Key × V)} {k : List Key} (e : H a = some (.dT kvs)) (eb : H b = some (.tup (k.map kV))) : DGet H a (.ref b) (valV kvs k) := .inr ⟨kvs, k, b, .inl e, rfl, eb, rfl⟩
theorem DPut.k {H : Hp} {a : Addr} {kvs : List (Key × V)} {k : Key} {v : V} (e : H a = some (.dK kvs)) (hl : kvs.length < sizeLine) : DPut H a (kV k) v (upd H a (.dK (putK kvs k v))) := .inl ⟨kvs, k, e, rfl, hl, rfl⟩
theorem DPut.t {H : Hp} {a b : Addr} {kvs : List (List Key × V)} {k : List Key} {v : V} (e : H a = some (.dT kvs)) (eb : H b = some (.tup (k.map kV))) (hl : kvs.length < sizeLine) :
    DPut H a (.ref b) v (upd H a (.dT (putK kvs k v))) := .inr ⟨kvs, k, b, e, rfl, eb, hl, rfl⟩


section
variable {X : Cx} {pins : List (Addr × Obj)} {σ : St} {H : Hp} {s : Shared} {a : Addr} {y v : V} {u r : Value} {o : Option V} {A : Around} {E : Value → Shared → Prop}

theorem Inv.big (I : Inv X pins σ H s) : sysModules < s.heap.objs.size := by
  have h : mainGlobals < s.heap.objs.size := (I.mod.glob.keeps I.bk).lt
  exact Nat.lt_trans (by decide) h

/-- d[y], there -/
theorem d_getItem {Q : Value → Shared → Prop} (hu : A.units + 1 < cLine) (I : Inv X pins σ H s) (g : DGet H a y (some v)) (ry : RelV y u) (h : ∀ w' s', Inv X pins σ H s' → RelV v w' → Q w' s') :
    wpAny (model X.prog X.w) A (getItem (.ref a) u) Q E s := by
  rcases g with ⟨kvs, k, e, ey, l⟩ | ⟨kvs, k, b, e, ey, eb, l⟩
  · subst ey
    obtain ⟨z, hd, vs, rel, dd⟩ := dk_rd I.hok e
    obtain ⟨w', hw, rw'⟩ := RelO.some_of (v := v) (o := valueAt vs k) (by rw [l]; exact rel.val k)
    exact wpAny_getItem_of (kV_is ry) dd.mapOf hw (h w' _ (I.tok _) rw')
  · subst ey
    cases (show u = Value.ref b from ry)
    obtain ⟨z, hd, xs, rel, dd⟩ := dt_rd I.hok e
    obtain ⟨w', hw, rw'⟩ := RelO.some_of (v := v) (o := (atKey xs k).map (·.2)) (by rw [l]; exact rel.val k)
    obtain ⟨p, hp, hp2⟩ := Option.map_eq_some_iff.mp hw
    refine wpAny_getItem_heap (tupleKind_room_in1 hu) (key_of I.hok eb) dd hp ?_
    rw [hp2]
    exact h w' _ (I.tok _) rw'
/-- y in d -/
theorem d_in {Q : Value → Shared → Prop} (hu : A.units + 1 < cLine) (I : Inv X pins σ H s) (g : DGet H a y o) (ry : RelV y u) (h : ∀ s', Inv X pins σ H s' → Q (.bool o.isSome) s') :
    wpAny (model X.prog X.w) A (compareOp .In u (.ref a)) Q E s := by
  rcases g with ⟨kvs, k, e, ey, l⟩ | ⟨kvs, k, b, e, ey, eb, l⟩
  · subst ey
    obtain ⟨z, hd, vs, rel, dd⟩ := dk_rd I.hok e
    refine wpAny_in_of (kV_is ry) hd dd.mapOf ?_
    rw [← (rel.val k).isSome_eq, ← l]
    exact h _ (I.tok _)
  · subst ey
    cases (show u = Value.ref b from ry)
    obtain ⟨z, hd, xs, rel, dd⟩ := dt_rd I.hok e
    refine wpAny_in_heap (tupleKind_room_in1 hu) (key_of I.hok eb) hd dd ?_
    have q := (rel.val k).isSome_eq
    rw [Option.isSome_map] at q
    rw [← q, ← l]
    exact h _ (I.tok _)
theorem d_notIn {Q : Value → Shared → Prop} (hu : A.units + 1 < cLine) (I : Inv X pins σ H s) (g : DGet H a y o) (ry : RelV y u) (h : ∀ s', Inv X pins σ H s' → Q (.bool (!o.isSome)) s') :
    wpAny (model X.prog X.w) A (compareOp .NotIn u (.ref a)) Q E s := by
  rcases g with ⟨kvs, k, e, ey, l⟩ | ⟨kvs, k, b, e, ey, eb, l⟩
  · subst ey
    obtain ⟨z, hd, vs, rel, dd⟩ := dk_rd I.hok e
    refine wpAny_notIn_of (kV_is ry) hd dd.mapOf ?_
    rw [← (rel.val k).isSome_eq, ← l]
    exact h _ (I.tok _)
  · subst ey
    cases (show u = Value.ref b from ry)
    obtain ⟨z, hd, xs, rel, dd⟩ := dt_rd I.hok e
    refine wpAny_notIn_heap (tupleKind_room_in1 hu) (key_of I.hok eb) hd dd ?_
    have q := (rel.val k).isSome_eq
    rw [Option.isSome_map] at q
    rw [← q, ← l]
    exact h _ (I.tok _)
/-- a dict's object is replaced -/
theorem d_write {h' : Heap} {t' : Nat} {ob : HO} (I : Inv X pins σ H s) (mu : Mut (H a)) (hs : Heap.SameBut a s.heap h') (he : ∃ q, h'.get? a = some q) (new : ObjOk X.prog X.w (upd H a ob) h' a ob) :
    Inv X pins σ (upd H a ob) { s with heap := h', toks := t' } :=
  I.write (x := a) (e := a) mu (.inl rfl) (fun b q hb z => (hs.2 b hb).trans z) he new
theorem dk_new {P : Program} {w : World} {H' : Hp} {h' : Heap} {kvs : List (Key × V)} {vs : List (Key × Value)} (z : kvs.length ≤ sizeLine) (hd : (a == sysModules) = false) (rel : KV kvs vs) (dd : h'.DictOf (mixKind P w) a vs) :
    ObjOk P w H' h' a (.dK kvs) := ⟨z, hd, vs, rel, dd⟩
/-- d[y] = v -/
theorem d_setItem {H' : Hp} {Q : Unit → Shared → Prop} (hu : A.units + 1 < cLine) (I : Inv X pins σ H s) (g : DPut H a y v H') (ry : RelV y u) (rv : RelV v r) (h : ∀ s', Inv X pins σ H' s' → Q () s') :
    wpAny (model X.prog X.w) A (setItem (.ref a) u r) Q E s := by
  rcases g with ⟨kvs, k, e, ey, l, eH⟩ | ⟨kvs, k, b, e, ey, eb, l, eH⟩
  · subst ey eH
    obtain ⟨z, hd, vs, rel, dd⟩ := dk_of I.hok e
    have hz : vs.length ≤ sizeLine := by rw [← rel.length]; exact z
    have hl : (putK kvs k v).length ≤ sizeLine := by have := length_putK kvs k v; omega
    refine wpAny_setItem_pairs (hsz := hz) (kV_is ry) dd fun h' dd' hs => h _ ?_
    have he : ∃ q, h'.get? a = some q := let ⟨q, _, _, hq, _⟩ := dd'; ⟨q, hq⟩
    exact d_write I (by rw [e]; exact True.intro) hs he (dk_new hl hd (rel.put k rv) dd')
  · subst ey eH
    cases (show u = Value.ref b from ry)
    obtain ⟨z, hd, xs, rel, dd⟩ := dt_of I.hok e
    have hz : xs.length ≤ sizeLine := by rw [← Paired.length rel]; exact z
    have hl : (putK kvs k v).length ≤ sizeLine := by have := length_putK kvs k v; omega
    refine wpAny_setItem_heap (hsz := hz) (tupleKind_room_in1 hu) (key_of I.hok eb) dd fun h' dd' hs => h _ ?_
    obtain ⟨q, es, ep, hq, h2, h3, h4, _, h5⟩ := dd'
    refine d_write I (by rw [e]; exact True.intro) hs ⟨q, hq⟩ ⟨hl, hd, _, (rel.put k eb rv).keeps fun c ys ec => ?_, q, es, ep, hq, h2, h3, h4, h5⟩
    rw [upd_ne (ne_of ec e (fun z => nomatch z))]
    exact ec
end

section
variable {X : Cx} {pins : List (Addr × Obj)} {σ : St} {H : Hp} {s : Shared} {a : Addr} {kvs : List (Key × V)} {k : Key} {u : Value} {A : Around} {E : Value → Shared → Prop}
/-- del d[k] -/
theorem d_delItem {Q : Unit → Shared → Prop} (I : Inv X pins σ H s) (e : H a = some (.dK kvs)) (ry : RelV (kV k) u) (l : (valV kvs k).isSome = true) (h : ∀ s', Inv X pins σ (upd H a (.dK (dropK kvs k))) s' → Q () s') :
    wpAny (model X.prog X.w) A (delItem (.ref a) u) Q E s := by
  obtain ⟨z, hd, vs, rel, dd⟩ := dk_of I.hok e
  refine wpAny_delItem_slot dd.typeIs (by decide) PySem.F.slot_dict_delitem
    (call_meetsIn PySem.F.slot_dict_delitem dd.typeIs PySem.F.entry_dict_delitem (PySem.F.args_dict_delitem_2 _ _) (meets_dict_delitem_pairs (mixKind X.prog X.w) a (kV_is ry)) ⟨vs, dd, by rw [← rel.length]; exact z, by rw [← (rel.val k).isSome_eq]; exact l, fun h' dd' hs => h _ ?_⟩)
  have he : ∃ q, h'.get? a = some q := let ⟨q, _, _, hq, _⟩ := dd'; ⟨q, hq⟩
  exact d_write I (by rw [e]; exact True.intro) hs he (dk_new (Nat.le_trans (dropK_le kvs k) z) hd (rel.drop k) dd')
/-- d.pop(k[, x]), there -/
theorem d_pop {v : V} {more : List Value} {Q : Value → Shared → Prop} (I : Inv X pins σ H s) (e : H a = some (.dK kvs)) (ry : RelV (kV k) u) (l : valV kvs k = some v) (hm : more = [] ∨ ∃ x, more = [x])
    (h : ∀ w' s', Inv X pins σ (upd H a (.dK (dropK kvs k))) s' → RelV v w' → Q w' s') : wpAny (model X.prog X.w) A (call (.builtin "dict.pop") (.ref a :: u :: more)) Q E s := by
  obtain ⟨z, hd, vs, rel, dd⟩ := dk_of I.hok e
  obtain ⟨w', hw, rw'⟩ := RelO.some_of (v := v) (o := valueAt vs k) (by rw [← l]; exact rel.val k)
  have hp : (keyPart u).isSome = true := by
    cases k with
    | inl i => obtain ⟨t, q⟩ := (show ∃ t, u = Value.int i t from ry); subst q; rfl
    | inr x => obtain ⟨t, q⟩ := (show ∃ t, u = Value.str x t from ry); subst q; rfl
  have ha : argsOk "dict.pop" ⟨.ref a :: u :: more, []⟩ := by
    rcases hm with q | ⟨x, q⟩
    · subst q; exact PySem.F.args_dict_pop_2 _ _
    · subst q; exact PySem.F.args_dict_pop_3 _ _ _
  refine call_meetsIn PySem.F.slot_dict_pop dd.typeIs PySem.F.entry_dict_pop ha (meets_dict_pop_there (mixKind X.prog X.w) a (kV_is ry) more hm hp)
    ⟨vs, w', dd, by rw [← rel.length]; exact z, hw, fun h' dd' hs => h w' _ ?_ rw'⟩
  have he : ∃ q, h'.get? a = some q := let ⟨q, _, _, hq, _⟩ := dd'; ⟨q, hq⟩
  exact d_write I (by rw [e]; exact True.intro) hs he (dk_new (Nat.le_trans (dropK_le kvs k) z) hd (rel.drop k) dd')
/-- d.pop(k, x), not there -/
theorem d_popD {r : Value} {Q : Value → Shared → Prop} (I : Inv X pins σ H s) (e : H a = some (.dK kvs)) (ry : RelV (kV k) u) (l : valV kvs k = none) (h : ∀ s', Inv X pins σ H s' → Q r s') :
    wpAny (model X.prog X.w) A (call (.builtin "dict.pop") [.ref a, u, r]) Q E s := by
  obtain ⟨z, hd, vs, rel, dd⟩ := dk_of I.hok e
  have hn : valueAt vs k = none := RelO.none_of (by rw [← l]; exact rel.val k)
  have hp : (keyPart u).isSome = true := by
    cases k with
    | inl i => obtain ⟨t, q⟩ := (show ∃ t, u = Value.int i t from ry); subst q; rfl
    | inr x => obtain ⟨t, q⟩ := (show ∃ t, u = Value.str x t from ry); subst q; rfl
  exact call_meetsIn PySem.F.slot_dict_pop dd.typeIs PySem.F.entry_dict_pop (PySem.F.args_dict_pop_3 _ _ _) (meets_dict_pop_default (mixKind X.prog X.w) a (kV_is ry) hd hp r) ⟨vs, dd, hn, h _ (I.tok _)⟩
/-- d.clear() -/
theorem d_clear {Q : Value → Shared → Prop} (I : Inv X pins σ H s) (e : H a = some (.dK kvs)) (h : ∀ s', Inv X pins σ (upd H a (.dK [])) s' → Q .none s') : wpAny (model X.prog X.w) A (call (.builtin "dict.clear") [.ref a]) Q E s := by
  obtain ⟨z, hd, vs, rel, dd⟩ := dk_of I.hok e
  refine call_meetsIn PySem.F.slot_dict_clear dd.typeIs PySem.F.entry_dict_clear (PySem.F.args_dict_clear_1 _) (meets_dict_clear (mixKind X.prog X.w) a) ⟨vs, dd, by rw [← rel.length]; exact z, fun h' dd' hs => h _ ?_⟩
  have he : ∃ q, h'.get? a = some q := let ⟨q, _, _, hq, _⟩ := dd'; ⟨q, hq⟩
  exact d_write (t' := s.toks) I (by rw [e]; exact True.intro) hs he (dk_new (Nat.zero_le _) hd .nil dd')
/-- len(d) -/
theorem d_len {Q : Value → Shared → Prop} (I : Inv X pins σ H s) (e : Rd H a (.dK kvs)) (h : ∀ t s', Inv X pins σ H s' → Q (.int kvs.length t) s') : wpAny (model X.prog X.w) A (call (.builtin "len") [.ref a]) Q E s := by
  obtain ⟨z, hd, vs, rel, dd⟩ := dk_rd I.hok e
  refine call_len_dict hd dd (by rw [← rel.length]; rw [sizeLine_eq] at z; omega) ?_
  rw [← rel.length]
  exact h _ _ (I.tok _)
/-- if d -/
theorem d_truth {Q : Bool → Shared → Prop} (I : Inv X pins σ H s) (e : Rd H a (.dK kvs)) (h : ∀ s', Inv X pins σ H s' → Q (!kvs.isEmpty) s') : wpAny (model X.prog X.w) A (truthy (.ref a)) Q E s := by
  obtain ⟨z, hd, vs, rel, dd⟩ := dk_rd I.hok e
  refine wpAny_truthy_dict hd dd (by rw [← rel.length]; rw [sizeLine_eq] at z; omega) ?_
  have q : kvs.isEmpty = vs.isEmpty := by cases rel <;> rfl
  rw [← q]
  exact h _ (I.tok _)
end


/-! ### readings and rules -/
/-- the element of a subscription, not a slice -/
def NoSl (i : Expr) : Prop := ∀ ov iv, subscripted i false ov iv = operate [ov, iv] (getItem ov iv)
theorem subD_of {prog : Program} {w : World} {A : Around} {E : Value → Shared → Prop} {s : Shared} {env : Env} {value slice : Expr} {pos : Pos} {T id : String} {Q : Value → Shared → Prop}
    (hl : typeLookup (.type T) "__getitem__" = pure (some (.builtin id))) (hs : NoSl slice)
    (h : wpAny (model prog w) A (eval value env) (fun o s₁ => wpAny (model prog w) A (eval slice env) (fun i s₂ => s₂.TypeIs o T ∧ wpAny (model prog w) A (getItem o i) Q E s₂) E s₁) E s) :
    wpAny (model prog w) A (eval (.Subscript value slice pos) env) Q E s := by
  refine Subscript_ (wpAny_mono h (fun o s₁ h₁ => wpAny_mono h₁ (fun i s₂ h₂ => ?_) fun _ _ x => x) fun _ _ x => x)
  obtain ⟨hT, h₂⟩ := h₂
  unfold subscriptTail
  refine wpAny_bind ?_
  rw [getitemInPython_of_ne hT.not_modules]
  refine wpAny_bind (wpAny_specialOf hT hl ?_)
  have fin : wpAny (model prog w) A (subscripted slice false o i) (fun r s₃ => wpAny (model prog w) A (letTemporaryGo value o r >>= fun _ => pure r) Q E s₃) E s₂ := by
    rw [hs o i]
    exact wpAny_operating (wpAny_mono h₂ (fun r s₃ h₃ => wpAny_bind (wpAny_letTemporaryGo (wpAny_pure h₃))) fun _ _ x => x)
  first
    | exact wpAny_pure (wpAny_bind fin)
    | exact wpAny_bind (wpAny_pure (wpAny_bind fin))
    | exact wpAny_bind fin

theorem dict_typeIs {X : Cx} {pins : List (Addr × Obj)} {σ : St} {H : Hp} {s : Shared} {a : Addr} {y : V} {o : Option V} (I : Inv X pins σ H s) (g : DGet H a y o) : s.TypeIs (.ref a) "dict" := by
  rcases g with ⟨kvs, k, e, _, _⟩ | ⟨kvs, k, b, e, _, _, _⟩
  · obtain ⟨_, _, vs, _, dd⟩ := dk_rd I.hok e
    exact dd.typeIs
  · obtain ⟨_, _, xs, _, dd⟩ := dt_rd I.hok e
    exact dd.typeIs
theorem dict_noDict {X : Cx} {pins : List (Addr × Obj)} {σ : St} {H : Hp} {s : Shared} {a : Addr} {y : V} {o : Option V} (I : Inv X pins σ H s) (g : DGet H a y o) :
    ∀ b, Value.ref a = .ref b → ∃ ob, s.heap.get? b = some ob ∧ ob.dict = none := fun b q => by
  cases q
  rcases g with ⟨kvs, k, e, _, _⟩ | ⟨kvs, k, b, e, _, _, _⟩
  · obtain ⟨_, _, vs, _, ob, _, _, h1, h2, _⟩ := dk_rd I.hok e
    exact ⟨ob, h1, h2.2.1⟩
  · obtain ⟨_, _, xs, _, ob, _, _, h1, h2, _⟩ := dt_rd I.hok e
    exact ⟨ob, h1, h2.2.1⟩

/-- d[y] -/
def tDGet (td ty : TE) : TE := fun σ H Q => td σ H fun x H1 => ty σ H1 fun y H2 => ∃ a v, x = .ref a ∧ DGet H2 a y (some v) ∧ Q v H2
/-- y in d, y not in d -/
def tDIn (ty td : TE) : TE := fun σ H Q => ty σ H fun y H1 => td σ H1 fun x H2 => ∃ a o, x = .ref a ∧ DGet H2 a y o ∧ Q (.bl o.isSome) H2
def tDNotIn (ty td : TE) : TE := fun σ H Q => ty σ H fun y H1 => td σ H1 fun x H2 => ∃ a o, x = .ref a ∧ DGet H2 a y o ∧ Q (.bl (!o.isSome)) H2
/-- d[y] = v -/
def sDPut (td ty tv : TE) : TS := fun D σ H => tv σ H fun v H1 => td σ H1 fun x H2 => ty σ H2 fun y H3 => ∃ a H4, x = .ref a ∧ DPut H3 a y v H4 ∧ D.nx σ H4
/-- d[y] op= v -/
def sDAug (td ty tv : TE) (rd : V → V → Hp → VK → Prop) : TS := fun D σ H => td σ H fun x H1 => ty σ H1 fun y H2 => ∃ a v, x = .ref a ∧ DGet H2 a y (some v) ∧
  tv σ H2 fun y2 H3 => rd v y2 H3 fun z H4 => ∃ H5, DPut H4 a y z H5 ∧ D.nx σ H5
/-- del d[y] -/
def sDDel (td ty : TE) : TS := fun D σ H => td σ H fun x H1 => ty σ H1 fun y H2 => ∃ a kvs k, x = .ref a ∧ H2 a = some (.dK kvs) ∧ y = kV k ∧ (valV kvs k).isSome = true ∧ D.nx σ (upd H2 a (.dK (dropK kvs k)))

section
variable {X : Cx} {o i e value : Expr} {pos pos' tpos : Pos} {td ty tv : TE}
theorem pe_dget (hu : X.A.units + 1 < cLine) (ho : PE X o td) (hi : PE X i ty) (hs : NoSl i) : PE X (.Subscript o i pos) (tDGet td ty) := by
  intro pins s σ H Q I h
  refine subD_of PySem.F.slot_dict_getitem.lookup hs (thn (ho pins s σ H _ I h) fun u s1 ⟨x, H1, I1, rx, q1⟩ => thn (hi pins s1 σ H1 _ I1 q1) fun iv s2 ⟨y, H2, I2, ry, a, v, ex, g, q2⟩ => ?_)
  subst ex
  obtain rfl : u = Value.ref a := rx
  exact ⟨dict_typeIs I2 g, d_getItem hu I2 g ry fun w' s3 I3 rw' => ⟨v, H2, I3, rw', q2⟩⟩
theorem pc_din (hu : X.A.units + 1 < cLine) (hi : PE X i ty) (ho : PE X o td) : PC X .In i o (tDIn ty td) := by
  intro pins s σ H Q I h
  refine thn (hi pins s σ H _ I h) fun iv s1 ⟨y, H1, I1, ry, q1⟩ => thn (ho pins s1 σ H1 _ I1 q1) fun u s2 ⟨x, H2, I2, rx, a, ov, ex, g, q2⟩ => ?_
  subst ex
  obtain rfl : u = Value.ref a := rx
  exact d_in hu I2 g ry fun s3 I3 => ⟨.bl ov.isSome, H2, I3, rfl, q2⟩
theorem pc_dnotin (hu : X.A.units + 1 < cLine) (hi : PE X i ty) (ho : PE X o td) : PC X .NotIn i o (tDNotIn ty td) := by
  intro pins s σ H Q I h
  refine thn (hi pins s σ H _ I h) fun iv s1 ⟨y, H1, I1, ry, q1⟩ => thn (ho pins s1 σ H1 _ I1 q1) fun u s2 ⟨x, H2, I2, rx, a, ov, ex, g, q2⟩ => ?_
  subst ex
  obtain rfl : u = Value.ref a := rx
  exact d_notIn hu I2 g ry fun s3 I3 => ⟨.bl (!ov.isSome), H2, I3, rfl, q2⟩
theorem ps_dput (hu : X.A.units + 1 < cLine) (ho : PE X o td) (hi : PE X i ty) (hv : PE X value tv) (hs : swapsWith value (some (.Subscript o i pos')) pos.line X.env = pure false) :
    PS X (.Assign [.Subscript o i pos'] value pos) (sDPut td ty tv) := by
  intro pins s σ H D I h
  refine wpAny_Assign_Subscript (thn (hv pins s σ H _ I h) fun r s1 ⟨v, H1, I1, rv, q1⟩ => thn (ho pins s1 σ H1 _ I1 q1) fun u s2 ⟨x, H2, I2, rx, q2⟩ => thn (hi pins s2 σ H2 _ I2 q2) fun iv s3 ⟨y, H3, I3, ry, a, H4, ex, g, q3⟩ => ?_) hs
  subst ex
  obtain rfl : u = Value.ref a := rx
  exact d_setItem hu I3 g ry rv fun s4 I4 => ⟨σ, H4, I4, q3⟩
theorem ps_daug {op : Operator} {rd : V → V → Hp → VK → Prop} (hu : X.A.units + 1 < cLine) (ho : PE X o td) (hi : PE X i ty) (hv : PE X value tv) (hop : InOp X op rd)
    (ha : ∀ ov iv new, augStore i ov iv new = (do holding [new, ov, iv] (setItem ov iv new); release [new, ov, iv] []; pure .next)) : PS X (.AugAssign (.Subscript o i tpos) op value pos) (sDAug td ty tv rd) := by
  intro pins s σ H D I h
  refine wpAny_AugAssign_SubscriptAny (thn (ho pins s σ H _ I h) fun u s1 ⟨x, H1, I1, rx, q1⟩ => thn (hi pins s1 σ H1 _ I1 q1) fun iv s2 ⟨y, H2, I2, ry, a, v, ex, g, q2⟩ => ?_) ha
  subst ex
  obtain rfl : u = Value.ref a := rx
  refine d_getItem hu I2 g ry fun w' s3 I3 rw' => thn (hv pins s3 σ H2 _ I3 q2) fun w2 s4 ⟨y2, H3, I4, ry2, q3⟩ => thn (hop pins s4 σ H3 v y2 w' w2 _ I4 rw' ry2 q3) fun w3 s5 ⟨z, H4, I5, rz, H5, g5, q4⟩ => ?_
  exact d_setItem hu I5 g5 ry rz fun s6 I6 => ⟨σ, H5, I6, q4⟩
theorem ps_ddel (ho : PE X o td) (hi : PE X i ty) : PS X (.Delete [.Subscript o i tpos] pos) (sDDel td ty) := by
  intro pins s σ H D I h
  refine wpAny_Delete (wpAny_deleteEach_cons (wpAny_delete_Subscript (thn (ho pins s σ H _ I h) fun u s1 ⟨x, H1, I1, rx, q1⟩ => thn (hi pins s1 σ H1 _ I1 q1) fun iv s2 ⟨y, H2, I2, ry, a, kvs, k, ex, e, ey, l, q2⟩ => ?_)))
  subst ex ey
  obtain rfl : u = Value.ref a := rx
  exact d_delItem I2 e ry l fun s3 I3 => wpAny_deleteEach_nil ⟨σ, _, I3, q2⟩
end


/-! ### displays -/
theorem dk_empty {P : Program} {w : World} {H : Hp} (h : Heap) (hb : sysModules < h.objs.size) : ObjOk P w H (h.push { cls := .type "dict", data := .dict #[] }) h.objs.size (.dK []) :=
  ⟨Nat.zero_le _, beq_eq_false_iff_ne.mpr (Ne.symm (Nat.ne_of_lt hb)), [], .nil, Heap.DictOf.new h⟩
theorem dt_empty {P : Program} {w : World} {H : Hp} (h : Heap) (hb : sysModules < h.objs.size) : ObjOk P w H (h.push { cls := .type "dict", data := .dict #[] }) h.objs.size (.dT []) :=
  ⟨Nat.zero_le _, beq_eq_false_iff_ne.mpr (Ne.symm (Nat.ne_of_lt hb)), [], .nil, _, #[], 0, Heap.get?_push_size _ rfl, ⟨rfl, rfl, rfl⟩, rfl, rfl, List.nodup_nil⟩
/-- {}, to be a dict of the kind that is wanted -/
def tDNewK : TE := fun _ H Q => ∀ p, H p = none → Q (.ref p) (upd H p (.dK []))
def tDNewT : TE := fun _ H Q => ∀ p, H p = none → Q (.ref p) (upd H p (.dT []))
section
variable {X : Cx} {pos : Pos}
theorem pe_dnewK : PE X (.Dict [] [] pos) tDNewK := fun pins s σ H Q I h =>
  wpAny_Dict_empty ⟨.ref s.heap.objs.size, _, I.laid (a := s.heap.objs.size) (o := .dK []) (t' := s.toks) (fun _ _ q => Heap.get?_push_of_some _ q) (Nat.le_refl _) (dk_empty s.heap I.big), rfl, h _ (I.hok.fresh (Nat.le_refl _))⟩
theorem pe_dnewT : PE X (.Dict [] [] pos) tDNewT := fun pins s σ H Q I h =>
  wpAny_Dict_empty ⟨.ref s.heap.objs.size, _, I.laid (a := s.heap.objs.size) (o := .dT []) (t' := s.toks) (fun _ _ q => Heap.get?_push_of_some _ q) (Nat.le_refl _) (dt_empty s.heap I.big), rfl, h _ (I.hok.fresh (Nat.le_refl _))⟩
end

/-- the pairs of a display, from the left -/
def tPairs : List (TE × TE) → St → Hp → (List (V × V) → Hp → Prop) → Prop
  | [], _, H, Q => Q [] H
  | (tk, tv) :: r, σ, H, Q => tk σ H fun x H1 => tv σ H1 fun y H2 => tPairs r σ H2 fun ps H3 => Q ((x, y) :: ps) H3
abbrev VV : List (V × V) → List (Value × Value) → Prop := Paired fun p q => RelV p.1 q.1 ∧ RelV p.2 q.2
def PPs (X : Cx) (pos : Pos) (keys : List (Option Expr)) (values : List Expr) (trs : List (TE × TE)) : Prop :=
  ∀ (pins : List (Addr × Obj)) (s : Shared) (σ : St) (H : Hp) (Q : List (V × V) → Hp → Prop), Inv X pins σ H s → tPairs trs σ H Q →
    wpAny (model X.prog X.w) X.A (evalPairs (pairTrees keys values X.env pos)) (fun vs s' => ∃ ps H', Inv X pins σ H' s' ∧ VV ps vs ∧ Q ps H') X.xe s
theorem pps_nil {X : Cx} {pos : Pos} : PPs X pos [] [] [] := fun pins s σ H Q I h => pairTrees_nil_walk ⟨[], H, I, .nil, h⟩
theorem pps_cons {X : Cx} {pos : Pos} {k v : Expr} {ks : List (Option Expr)} {vs : List Expr} {tk tv : TE} {trs : List (TE × TE)} (hk : PE X k tk) (hv : PE X v tv) (hr : PPs X pos ks vs trs) :
    PPs X pos (some k :: ks) (v :: vs) ((tk, tv) :: trs) := fun pins s σ H Q I h =>
  pairTrees_cons_walk (thn (hk pins s σ H _ I h) fun u s1 ⟨x, H1, I1, rx, q1⟩ => thn (hv pins s1 σ H1 _ I1 q1) fun w2 s2 ⟨y, H2, I2, ry, q2⟩ =>
    thn (hr pins s2 σ H2 _ I2 q2) fun ws s3 ⟨ps, H3, I3, rel, q3⟩ => ⟨(x, y) :: ps, H3, I3, .cons ⟨rx, ry⟩ rel, q3⟩)

def mergeK (kvs more : List (Key × V)) : List (Key × V) := more.foldl (fun acc kv => putK acc kv.1 kv.2) kvs
theorem KV.merge : ∀ {more : List (Key × V)} {rs : List (Key × Value)} {kvs : List (Key × V)} {vs : List (Key × Value)}, KV more rs → KV kvs vs → KV (mergeK kvs more) (merged vs rs) := by
  intro more rs kvs vs r
  unfold KV at r
  induction r generalizing kvs vs with
  | nil => intro q; exact q
  | @cons p q ps qs h t ih =>
    intro r0
    have e : KV (putK kvs p.1 p.2) (stored vs q.1 q.2) := by
      have := r0.put p.1 h.2
      rw [← h.1]; exact this
    exact ih e
theorem length_mergeK : ∀ (more kvs : List (Key × V)), (mergeK kvs more).length ≤ kvs.length + more.length
  | [], kvs => by show kvs.length ≤ kvs.length + 0; omega
  | p :: r, kvs => by
    have h1 := length_mergeK r (putK kvs p.1 p.2)
    have h2 := length_putK kvs p.1 p.2
    show (mergeK (putK kvs p.1 p.2) r).length ≤ _
    rw [List.length_cons]; omega
theorem carries_of {P : Program} {w : World} : ∀ {kvs : List (Key × V)} {ws : List (Value × Value)}, VV (kvs.map fun kv => (kV kv.1, kv.2)) ws → ∃ rs, Carries (mixKind P w) ws rs ∧ KV kvs rs
  | [], _, r => by rw [List.map_nil] at r; cases r; exact ⟨[], True.intro, .nil⟩
  | p :: kvs, _, r => by
    rw [List.map_cons] at r
    cases r with
    | @cons a b as bs h t =>
      obtain ⟨rs, c, q⟩ := carries_of (P := P) (w := w) t
      obtain ⟨b1, b2⟩ := b
      exact ⟨(p.1, b2) :: rs, ⟨kV_is h.1, rfl, c⟩, .cons ⟨rfl, h.2⟩ q⟩
/-- {k: v, ..} with keys ints and texts; the new dict stands empty while the pairs are made -/
def tDisp (trs : List (TE × TE)) : TE := fun σ H Q => ∀ p, H p = none → tPairs trs σ (upd H p (.dK [])) fun ps H2 => H2 p = some (.dK []) ∧ ∃ kvs : List (Key × V), ps = kvs.map (fun kv => (kV kv.1, kv.2)) ∧ kvs.length ≤ 15 ∧ Q (.ref p) (upd H2 p (.dK (mergeK [] kvs)))
theorem pe_disp {X : Cx} {pos : Pos} {keys : List (Option Expr)} {values : List Expr} {trs : List (TE × TE)} (h : PPs X pos keys values trs) (hall : keys.all (·.isSome) = true) (hl : keys.length = values.length) (h0 : keys ≠ [])
    (h15 : keys.length ≤ 15) : PE X (.Dict keys values pos) (tDisp trs) := by
  intro pins s σ H Q I q
  have hn := I.hok.fresh (Nat.le_refl s.heap.objs.size)
  have I1 := I.laid (a := s.heap.objs.size) (o := .dK []) (h' := s.heap.push { cls := .type "dict", data := .dict #[] }) (t' := s.toks) (fun _ _ q => Heap.get?_push_of_some _ q) (Nat.le_refl _) (dk_empty s.heap I.big)
  refine wpAny_Dict_walk (knd := mixKind X.prog X.w) hall hl h0 h15 (thn (h pins _ σ _ _ I1 (q _ hn)) fun ws s2 ⟨ps, H2, I2, rel, e, kvs, ep, lk, q2⟩ => ?_)
  subst ep
  obtain ⟨rs, c, rk⟩ := carries_of (P := X.prog) (w := X.w) rel
  obtain ⟨z, hd, vs0, r0, dd⟩ := dk_of I2.hok e
  cases r0
  refine ⟨rs, c, dd, fun h' dd' hs => ⟨.ref s.heap.objs.size, _, ?_, rfl, q2⟩⟩
  have hz : (mergeK [] kvs).length ≤ sizeLine := by
    have h1 := length_mergeK kvs []
    rw [List.length_nil] at h1
    rw [sizeLine_eq]; omega
  have he : ∃ q, h'.get? s.heap.objs.size = some q := let ⟨q, _, _, hq, _⟩ := dd'; ⟨q, hq⟩
  exact d_write I2 (by rw [e]; exact True.intro) hs he (dk_new hz hd (rk.merge .nil) dd')


/-! ### methods -/
/-- a method call o.m(e) of a built-in, with one argument: what must be seen of the text -/
structure M1 (X : Cx) (o : Expr) (m : Str) (apos : Pos) (e : Expr) (cpos : Pos) : Prop where
  base : attributeBase o m X.env (eval o X.env) = eval o X.env
  few : ((backTo cpos (starEach [e] X.env)).all (fun x => !x.1) && (backToKw cpos (keywordEach [] X.env)).all (fun x => x.1.isSome)
    && decide (([e] : List Expr).length + ([] : List Keyword).length + (if ([] : List Keyword).isEmpty then 0 else 1) < 30)) = true
  line : (apos.endLine == cpos.line) = true
  trees : backTo cpos (starEach [e] X.env) = [(false, eval e X.env)]
structure M2 (X : Cx) (o : Expr) (m : Str) (apos : Pos) (e f : Expr) (cpos : Pos) : Prop where
  base : attributeBase o m X.env (eval o X.env) = eval o X.env
  few : ((backTo cpos (starEach [e, f] X.env)).all (fun x => !x.1) && (backToKw cpos (keywordEach [] X.env)).all (fun x => x.1.isSome)
    && decide (([e, f] : List Expr).length + ([] : List Keyword).length + (if ([] : List Keyword).isEmpty then 0 else 1) < 30)) = true
  line : (apos.endLine == cpos.line) = true
  trees : backTo cpos (starEach [e, f] X.env) = [(false, eval e X.env), (false, eval f X.env)]

/-- a is a dict, whatever its keys -/
def IsD (H : Hp) (a : Addr) : Prop := (∃ kvs, Rd H a (.dK kvs)) ∨ ∃ kvs, Rd H a (.dT kvs)
theorem isD_at {X : Cx} {pins : List (Addr × Obj)} {σ : St} {H : Hp} {s : Shared} {a : Addr} (I : Inv X pins σ H s) (d : IsD H a) :
    s.TypeIs (.ref a) "dict" ∧ (∀ b, Value.ref a = .ref b → ∃ ob, s.heap.get? b = some ob ∧ ob.dict = none) ∧ (a == sysModules) = false := by
  rcases d with ⟨kvs, e⟩ | ⟨kvs, e⟩
  · obtain ⟨_, hd, vs, _, dd⟩ := dk_rd I.hok e
    refine ⟨dd.typeIs, fun b q => ?_, hd⟩
    cases q
    obtain ⟨ob, _, _, h1, h2, _⟩ := dd
    exact ⟨ob, h1, h2.2.1⟩
  · obtain ⟨_, hd, xs, _, dd⟩ := dt_rd I.hok e
    refine ⟨dd.typeIs, fun b q => ?_, hd⟩
    cases q
    obtain ⟨ob, _, _, h1, h2, _⟩ := dd
    exact ⟨ob, h1, h2.2.1⟩

section
variable {X : Cx} {pins : List (Addr × Obj)} {σ : St} {H : Hp} {s : Shared} {a : Addr} {y d : V} {u r : Value} {o : Option V} {A : Around} {E : Value → Shared → Prop}
/-- d.get(y) -/
theorem d_get1 {Q : Value → Shared → Prop} (hu : A.units + 1 < cLine) (I : Inv X pins σ H s) (g : DGet H a y o) (ry : RelV y u) (h : ∀ w' s', Inv X pins σ H s' → RelV (o.getD .non) w' → Q w' s') :
    wpAny (model X.prog X.w) A (call (.builtin "dict.get") [.ref a, u]) Q E s := by
  rcases g with ⟨kvs, k, e, ey, l⟩ | ⟨kvs, k, b, e, ey, eb, l⟩
  · subst ey
    obtain ⟨z, hd, vs, rel, dd⟩ := dk_rd I.hok e
    refine call_meetsIn PySem.F.slot_dict_get dd.typeIs PySem.F.entry_dict_get (PySem.F.args_dict_get_2 _ _) (meets_dict_get (mixKind X.prog X.w) a (kV_is ry) hd) ⟨_, dd.mapOf, h _ _ (I.tok _) ?_⟩
    rw [l]
    exact (rel.val k).getD rfl
  · subst ey
    cases (show u = Value.ref b from ry)
    obtain ⟨z, hd, xs, rel, dd⟩ := dt_rd I.hok e
    refine call_meetsIn PySem.F.slot_dict_get dd.typeIs PySem.F.entry_dict_get (PySem.F.args_dict_get_2 _ _) (meetsH_dict_get (tupleKind (mixKind X.prog X.w)) a b hd) ⟨tupleKind_room_in1 hu, k, xs, key_of I.hok eb, dd, h _ _ (I.tok _) ?_⟩
    rw [l]
    exact (rel.val k).getD rfl
/-- d.get(y, x) -/
theorem d_get2 {Q : Value → Shared → Prop} (hu : A.units + 1 < cLine) (I : Inv X pins σ H s) (g : DGet H a y o) (ry : RelV y u) (rd : RelV d r) (h : ∀ w' s', Inv X pins σ H s' → RelV (o.getD d) w' → Q w' s') :
    wpAny (model X.prog X.w) A (call (.builtin "dict.get") [.ref a, u, r]) Q E s := by
  rcases g with ⟨kvs, k, e, ey, l⟩ | ⟨kvs, k, b, e, ey, eb, l⟩
  · subst ey
    obtain ⟨z, hd, vs, rel, dd⟩ := dk_rd I.hok e
    refine call_meetsIn PySem.F.slot_dict_get dd.typeIs PySem.F.entry_dict_get (PySem.F.args_dict_get_3 _ _ _) (meets_dict_get_default (mixKind X.prog X.w) a (kV_is ry) hd r) ⟨_, dd.mapOf, h _ _ (I.tok _) ?_⟩
    rw [l]
    exact (rel.val k).getD rd
  · subst ey
    cases (show u = Value.ref b from ry)
    obtain ⟨z, hd, xs, rel, dd⟩ := dt_rd I.hok e
    refine call_meetsIn PySem.F.slot_dict_get dd.typeIs PySem.F.entry_dict_get (PySem.F.args_dict_get_3 _ _ _) (meetsH_dict_get_default (tupleKind (mixKind X.prog X.w)) a b hd r) ⟨tupleKind_room_in1 hu, k, xs, key_of I.hok eb, dd, h _ _ (I.tok _) ?_⟩
    rw [l]
    exact (rel.val k).getD rd
end

def tDGet1 (td ty : TE) : TE := fun σ H Q => td σ H fun x H1 => ∃ a, x = .ref a ∧ IsD H1 a ∧ ty σ H1 fun y H2 => ∃ o, DGet H2 a y o ∧ Q (o.getD .non) H2
def tDGet2 (td ty tx : TE) : TE := fun σ H Q => td σ H fun x H1 => ∃ a, x = .ref a ∧ IsD H1 a ∧ ty σ H1 fun y H2 => tx σ H2 fun z H3 => ∃ o, DGet H3 a y o ∧ Q (o.getD z) H3
/-- d.pop(k): there; d.pop(k, x): there or not -/
def tDPop1 (td ty : TE) : TE := fun σ H Q => td σ H fun x H1 => ∃ a, x = .ref a ∧ IsD H1 a ∧ ty σ H1 fun y H2 => ∃ kvs k v, H2 a = some (.dK kvs) ∧ y = kV k ∧ valV kvs k = some v ∧ Q v (upd H2 a (.dK (dropK kvs k)))
def tDPop2 (td ty tx : TE) : TE := fun σ H Q => td σ H fun x H1 => ∃ a, x = .ref a ∧ IsD H1 a ∧ ty σ H1 fun y H2 => tx σ H2 fun z H3 => ∃ kvs k, H3 a = some (.dK kvs) ∧ y = kV k ∧
  (∀ v, valV kvs k = some v → Q v (upd H3 a (.dK (dropK kvs k)))) ∧ (valV kvs k = none → Q z H3)
section
variable {X : Cx} {o e f : Expr} {apos cpos : Pos} {td ty tx : TE}
theorem pe_dget1 (hu : X.A.units + 1 < cLine) (ho : PE X o td) (he : PE X e ty) (m : M1 X o "get" apos e cpos) : PE X (.Call (.Attribute o "get" apos) [e] [] cpos) (tDGet1 td ty) := by
  intro pins s σ H Q I h
  refine wpAny_Call_method m.base m.few m.line PySem.F.plainAttrs_dict PySem.F.slot_dict_get PySem.F.type_dict_get (thn (ho pins s σ H _ I h) fun u s1 ⟨x, H1, I1, rx, a, ex, d, q1⟩ => ?_)
  subst ex
  obtain rfl : u = Value.ref a := rx
  obtain ⟨t1, t2, _⟩ := isD_at I1 d
  refine ⟨t1, t2, ?_⟩
  rw [m.trees]
  refine Calls.callWith_builtin rfl (Calls.evalArgs_plain (Calls.spliced_cons (thn (he pins s1 σ H1 _ I1 q1) fun iv s2 ⟨y, H2, I2, ry, ov, g, q2⟩ => Calls.spliced_nil ?_)))
  exact d_get1 hu I2 g ry fun w' s3 I3 rw' => ⟨_, H2, I3, rw', q2⟩
theorem pe_dget2 (hu : X.A.units + 1 < cLine) (ho : PE X o td) (he : PE X e ty) (hf : PE X f tx) (m : M2 X o "get" apos e f cpos) : PE X (.Call (.Attribute o "get" apos) [e, f] [] cpos) (tDGet2 td ty tx) := by
  intro pins s σ H Q I h
  refine wpAny_Call_method m.base m.few m.line PySem.F.plainAttrs_dict PySem.F.slot_dict_get PySem.F.type_dict_get (thn (ho pins s σ H _ I h) fun u s1 ⟨x, H1, I1, rx, a, ex, d, q1⟩ => ?_)
  subst ex
  obtain rfl : u = Value.ref a := rx
  obtain ⟨t1, t2, _⟩ := isD_at I1 d
  refine ⟨t1, t2, ?_⟩
  rw [m.trees]
  refine Calls.callWith_builtin rfl (Calls.evalArgs_plain (Calls.spliced_cons (thn (he pins s1 σ H1 _ I1 q1) fun iv s2 ⟨y, H2, I2, ry, q2⟩ =>
    Calls.spliced_cons (thn (hf pins s2 σ H2 _ I2 q2) fun fv s3 ⟨z, H3, I3, rz, ov, g, q3⟩ => Calls.spliced_nil ?_))))
  exact d_get2 hu I3 g ry rz fun w' s4 I4 rw' => ⟨_, H3, I4, rw', q3⟩
theorem pe_dpop1 (ho : PE X o td) (he : PE X e ty) (m : M1 X o "pop" apos e cpos) : PE X (.Call (.Attribute o "pop" apos) [e] [] cpos) (tDPop1 td ty) := by
  intro pins s σ H Q I h
  refine wpAny_Call_method m.base m.few m.line PySem.F.plainAttrs_dict PySem.F.slot_dict_pop PySem.F.type_dict_pop (thn (ho pins s σ H _ I h) fun u s1 ⟨x, H1, I1, rx, a, ex, d, q1⟩ => ?_)
  subst ex
  obtain rfl : u = Value.ref a := rx
  obtain ⟨t1, t2, _⟩ := isD_at I1 d
  refine ⟨t1, t2, ?_⟩
  rw [m.trees]
  refine Calls.callWith_builtin rfl (Calls.evalArgs_plain (Calls.spliced_cons (thn (he pins s1 σ H1 _ I1 q1) fun iv s2 ⟨y, H2, I2, ry, kvs, k, v, ea, ey, l, q2⟩ => Calls.spliced_nil ?_)))
  subst ey
  exact d_pop I2 ea ry l (.inl rfl) fun w' s3 I3 rw' => ⟨v, _, I3, rw', q2⟩
theorem pe_dpop2 (ho : PE X o td) (he : PE X e ty) (hf : PE X f tx) (m : M2 X o "pop" apos e f cpos) : PE X (.Call (.Attribute o "pop" apos) [e, f] [] cpos) (tDPop2 td ty tx) := by
  intro pins s σ H Q I h
  refine wpAny_Call_method m.base m.few m.line PySem.F.plainAttrs_dict PySem.F.slot_dict_pop PySem.F.type_dict_pop (thn (ho pins s σ H _ I h) fun u s1 ⟨x, H1, I1, rx, a, ex, d, q1⟩ => ?_)
  subst ex
  obtain rfl : u = Value.ref a := rx
  obtain ⟨t1, t2, _⟩ := isD_at I1 d
  refine ⟨t1, t2, ?_⟩
  rw [m.trees]
  refine Calls.callWith_builtin rfl (Calls.evalArgs_plain (Calls.spliced_cons (thn (he pins s1 σ H1 _ I1 q1) fun iv s2 ⟨y, H2, I2, ry, q2⟩ =>
    Calls.spliced_cons (thn (hf pins s2 σ H2 _ I2 q2) fun fv s3 ⟨z, H3, I3, rz, kvs, k, ea, ey, q3, q4⟩ => Calls.spliced_nil ?_))))
  subst ey
  cases l : valV kvs k with
  | some v => exact d_pop I3 ea ry l (.inr ⟨fv, rfl⟩) fun w' s4 I4 rw' => ⟨v, _, I4, rw', q3 v l⟩
  | none => exact d_popD I3 ea ry l fun s4 I4 => ⟨z, H3, I4, rz, q4 l⟩
end

/-! ### dict(d): a copy -/
section
variable {X : Cx} {pins : List (Addr × Obj)} {σ : St} {H : Hp} {s : Shared} {a : Addr} {kvs : List (Key × V)} {A : Around} {E : Value → Shared → Prop}
theorem d_copyOf {Q : Value → Shared → Prop} (I : Inv X pins σ H s) (e : Rd H a (.dK kvs)) (h : ∀ p s', H p = none → Inv X pins σ (upd H p (.dK kvs)) s' → Q (.ref p) s') : wpAny (model X.prog X.w) A (call (.type "dict") [.ref a]) Q E s := by
  obtain ⟨z, hd, vs, rel, dd⟩ := dk_rd I.hok e
  refine kt_call_dict hd dd (by rw [← rel.length]; exact z) fun h' dd' hs => ?_
  refine h _ _ (I.hok.fresh (Nat.le_refl _)) (I.laid (a := s.heap.objs.size) (o := .dK kvs) (t' := s.toks) (fun b q hq => ?_) (Nat.le_refl _) (dk_new z (beq_eq_false_iff_ne.mpr (Ne.symm (Nat.ne_of_lt I.big))) rel dd'))
  exact (hs.2 b (Nat.ne_of_lt (Heap.lt_size hq))).trans (Heap.get?_push_of_some _ hq)
end


section
variable {X : Cx} {pins : List (Addr × Obj)} {σ : St} {H : Hp} {s : Shared} {a : Addr} {y : V} {u : Value} {A : Around} {E : Value → Shared → Prop}
/-- d[y], not there: a KeyError -/
theorem d_missing {Q : Value → Shared → Prop} (hu : A.units + 1 < cLine) (hh : A.handled = none) (I : Inv X pins σ H s) (g : DGet H a y none) (ry : RelV y u)
    (h : ∀ h' e t', Heap.NewExc s.heap h' e "KeyError" → E (.ref e) { s with heap := h', toks := t' }) : wpAny (model X.prog X.w) A (getItem (.ref a) u) Q E s := by
  rcases g with ⟨kvs, k, e, ey, l⟩ | ⟨kvs, k, b, e, ey, eb, l⟩
  · subst ey
    obtain ⟨z, hd, vs, rel, dd⟩ := dk_rd I.hok e
    have hn : valueAt vs k = none := RelO.none_of (by rw [l]; exact rel.val k)
    exact wpAny_getItem_missing_of (kV_is ry) hd hh dd.mapOf hn fun h' ex ne => h h' ex _ ne
  · subst ey
    cases (show u = Value.ref b from ry)
    obtain ⟨z, hd, xs, rel, dd⟩ := dt_rd I.hok e
    have hn : (atKey xs k).map (·.2) = none := RelO.none_of (by rw [l]; exact rel.val k)
    exact wpAny_getItem_missing_heap (tupleKind_room_in1 hu) (key_of I.hok eb) hd hh dd (Option.map_eq_none_iff.mp hn) fun h' ex ne => h h' ex _ ne
end
end L2

namespace Att
open PySem PySem.W PySem.Calls PyProof.Rows

/-! ### the script -/
theorem ints_of_wellAll {P : Params} {h : Heap} : ∀ (ns : List Int) (vs : List Value), WellAll P h vs (ns.map WData.int) → IntsAre vs ns := by
  intro ns
  induction ns with
  | nil =>
    intro vs w
    rw [List.map_nil] at w
    cases w
    exact .nil
  | cons n ns ih =>
    intro vs w
    rw [List.map_cons] at w
    cases w with
    | cons a b =>
      cases a
      exact .cons _ _ (ih _ b)

theorem script_of {l : OpenLaw} {n : Nat} (hn : l.most = some n) {P : Params} {h : Heap} {args : List WData} {vals : List Value}
    (hpre : l.row.toRowW.claim.pre args = true) (hwl : WellAll P h vals args) :
    ∃ a vs ns, vals = [Value.ref a] ∧ args = [WData.list (ns.map WData.int)] ∧ h.get? a = some { cls := .type "list", data := .seq vs.toArray } ∧ IntsAre vs ns ∧ ns.length ≤ n := by
  have hsh : WShape.hasAll [] args [.list .int] = true := (pre_splitW hpre).1
  have hc : l.pre.holds [] { args := args } = true := (pre_splitW hpre).2
  obtain ⟨d, r, rfl, h1, h2⟩ := hasAllW_cons hsh
  obtain rfl := hasAllW_nil h2
  obtain ⟨xs, rfl, h3⟩ := hasW_list h1
  obtain ⟨ns, rfl⟩ := items_int h3
  have hlen : ns.length ≤ n := by
    unfold OpenLaw.pre at hc
    have h4 : (WTm.not (.lt (.lit (.int (n : Int))) (.len (.arg 0)))).holds [] { args := [.list (ns.map .int)] } = true := by
      have h4 := (holds_andW hc).1
      rw [hn] at h4
      exact h4
    have h5 := condW_of h4 (w_not (w_lt w_lit (w_len_list (w_arg rfl))))
    rw [List.length_map] at h5
    refine Nat.le_of_not_lt fun q => ?_
    have q' : (n : Int) < ((ns.length : Nat) : Int) := by omega
    first
      | (rw [decide_eq_true q'] at h5; exact absurd h5 (by decide))
      | (simp at h5; omega)
  cases hwl with
  | cons w1 w2 =>
    cases w2
    cases w1 with
    | list ho hall => exact ⟨_, _, ns, rfl, rfl, ho, ints_of_wellAll ns _ hall, hlen⟩

theorem post_true (l : OpenLaw) (args : List WData) : l.row.toRowW.claim.post args (.bool true) args = true :=
  postW_of (r := l.row.toRowW) (X := (true == true))
    (show WShape.has [] (.bool true) .bool = true by first | rfl | decide | simp [WShape.has, WShape.arms, WShape.armsAll])
    (show (WTm.eq .res (.lit (.bool true))).value [] { args := args, res := some (.bool true), after := args } = some (.bool (true == true)) from w_eq_bool (w_res rfl) w_lit) rfl

/-! ### the attachment: holds_open's last premise (the goal 'hc' behind k_head) from a wpAny of the law's body -/
theorem attach {l : OpenLaw} {n : Nat} {q : Program} {loose : List Str} {XP : (Str → Option Value) → Heap → Prop} {YP : World → Heap → Prop} {d : DefRec} {x : Str}
    (hn : l.most = some n) (hdf : d.params.defaults = [])
    (hbind : ∀ pm cd doc v : Value, bindArgs (docDef d.name d.params d.body d.scope pm cd doc) ⟨[v], []⟩ = pure [(x, v)])
    (hx : d.scope.names.lookup x = some .local ∨ d.scope.names.lookup x = some .cell)
    (hk : d.scope.kind = .function) (hco : d.scope.isCoroutine = false) (hgen : d.scope.isGenerator = false)
    (body : ∀ (w : World) (s₀ s₁ s : Shared) (mg mb : Str → Option Value) (fa : Addr) (o : Obj) (pm cd doc : Value) (a : Addr) (vs : List Value) (ns : List Int),
      Ground q loose [] XP w s₀ mg mb s₁.heap → YP w s₁.heap →
      s₁.heap.get? fa = some o → o.data = .func (docDef d.name d.params d.body d.scope pm cd doc) → s₁.heap.CodeRec cd d.name → mg d.name = some (.ref fa) →
      s₁.heap.get? a = some { cls := .type "list", data := .seq vs.toArray } → IntsAre vs ns → ns.length ≤ n →
      s.gens = #[] → s.os = s₁.os →
      Fr s₁.heap s₁.heap.objs.size s.heap (bindL (envOfC d.name d.scope s₁.heap.objs.size fa cd).kindOf [(x, .ref a)] fun _ => none) →
      Cl s₁.heap.objs.size (cellsFrom (s₁.heap.objs.size + 1) d.scope.names []) s.heap (bindC (envOfC d.name d.scope s₁.heap.objs.size fa cd).kindOf [(x, .ref a)] fun _ => none) →
      wpAny (model l.prog w) (callerA.deeper (envOfC d.name d.scope s₁.heap.objs.size fa cd)) (execs d.body (envOfC d.name d.scope s₁.heap.objs.size fa cd))
        (fun f s' => f = .ret (.bool true) ∧ OldK s₁.heap s'.heap ∧ s'.os = s₁.os ∧ AllBare s'.gens) (fun _ _ => False) s) :
    WalkO q loose XP YP l.row.toRowW d [] (fun f vs => PySem.call f vs) := by
  intro w s₀ s₁ mg mb G Y fa o pm cd doc dV kV ho hd hcd hD hmg hg args vals as hpre hlay hrd hwl hlo
  obtain rfl : dV = .none := Dflts.none hD hdf
  obtain rfl : kV = .none := Dflts.noKw hD
  obtain ⟨a, vs, ns, rfl, rfl, hobj, hints, hlen⟩ := script_of hn hpre hwl
  refine enter_call ?_
  refine call_cells_ret (o := o) (by rw [depth_caller]; decide) ho (fd_plain hd) G.T.nolimit hcd (hbind pm cd doc (.ref a)) (fun y hy => ?_) (fun h₁ tk F X => ?_) hco hgen hk
  · obtain rfl : y = (x, Value.ref a) := List.mem_singleton.mp hy
    rcases hx with e | e
    · exact .inl e
    · exact .inr ⟨e, cellsFrom_some _ _ _ (.inl e)⟩
  · refine wpAny_mono (body w s₀ s₁ { s₁ with heap := h₁, toks := tk } mg mb fa o pm cd doc a vs ns G Y ho (fd_plain hd) hcd hmg hobj hints hlen hg rfl F X) (fun f s' hq => ?_) (fun _ _ hq => hq)
    obtain ⟨rfl, h2, h3, h4⟩ := hq
    exact ⟨.inl ⟨.bool true, .bool true, [], rfl, fun _ => rfl, .bool true, post_true l _, fun _ => ⟨List.Pairwise.nil, fun _ hm => (nomatch hm)⟩⟩, h2, h3, h4⟩

/-- the same from a codeAny of the CALL (for a layer whose function contracts speak of calls) -/
theorem attach_call {l : OpenLaw} {n : Nat} {q : Program} {loose : List Str} {XP : (Str → Option Value) → Heap → Prop} {YP : World → Heap → Prop} {d : DefRec}
    (hn : l.most = some n) (hdf : d.params.defaults = [])
    (call : ∀ (w : World) (s₀ s₁ : Shared) (mg mb : Str → Option Value) (fa : Addr) (o : Obj) (pm cd doc : Value) (a : Addr) (vs : List Value) (ns : List Int),
      Ground q loose [] XP w s₀ mg mb s₁.heap → YP w s₁.heap →
      s₁.heap.get? fa = some o → o.data = .func (docDef d.name d.params d.body d.scope pm cd doc) → s₁.heap.CodeRec cd d.name → mg d.name = some (.ref fa) →
      s₁.heap.get? a = some { cls := .type "list", data := .seq vs.toArray } → IntsAre vs ns → ns.length ≤ n → s₁.gens = #[] →
      codeAny (model l.prog w) callerA (.call (.ref fa) ⟨[.ref a], []⟩) (fun r s' => r = .ok (.ret (.bool true)) ∧ OldK s₁.heap s'.heap ∧ s'.os = s₁.os ∧ AllBare s'.gens) s₁) :
    WalkO q loose XP YP l.row.toRowW d [] (fun f vs => PySem.call f vs) := by
  intro w s₀ s₁ mg mb G Y fa o pm cd doc dV kV ho hd hcd hD hmg hg args vals as hpre hlay hrd hwl hlo
  obtain rfl : dV = .none := Dflts.none hD hdf
  obtain rfl : kV = .none := Dflts.noKw hD
  obtain ⟨a, vs, ns, rfl, rfl, hobj, hints, hlen⟩ := script_of hn hpre hwl
  refine enter_call (codeAny_mono (call w s₀ s₁ mg mb fa o pm cd doc a vs ns G Y ho (fd_plain hd) hcd hmg hobj hints hlen hg) fun r s' hq => ?_)
  obtain ⟨rfl, h2, h3, h4⟩ := hq
  exact ⟨.inl ⟨.bool true, .bool true, [], rfl, fun _ => rfl, .bool true, post_true l _, fun _ => ⟨List.Pairwise.nil, fun _ hm => (nomatch hm)⟩⟩, h2, h3, h4⟩

/-- the same where the top left finished generators (o_head chose holds_openN): nothing may have changed at all and no generator may be left -/
theorem attachN {l : OpenLaw} {n : Nat} {q : Program} {loose : List Str} {XP : (Str → Option Value) → Heap → Prop} {YP : World → Heap → Prop} {d : DefRec} {x : Str}
    (hn : l.most = some n) (hdf : d.params.defaults = [])
    (hbind : ∀ pm cd doc v : Value, bindArgs (docDef d.name d.params d.body d.scope pm cd doc) ⟨[v], []⟩ = pure [(x, v)])
    (hx : d.scope.names.lookup x = some .local ∨ d.scope.names.lookup x = some .cell)
    (hk : d.scope.kind = .function) (hco : d.scope.isCoroutine = false) (hgen : d.scope.isGenerator = false)
    (body : ∀ (w : World) (s₀ s₁ s : Shared) (mg mb : Str → Option Value) (fa : Addr) (o : Obj) (pm cd doc : Value) (a : Addr) (vs : List Value) (ns : List Int),
      Ground q loose [] XP w s₀ mg mb s₁.heap → YP w s₁.heap →
      s₁.heap.get? fa = some o → o.data = .func (docDef d.name d.params d.body d.scope pm cd doc) → s₁.heap.CodeRec cd d.name → mg d.name = some (.ref fa) →
      s₁.heap.get? a = some { cls := .type "list", data := .seq vs.toArray } → IntsAre vs ns → ns.length ≤ n →
      s.gens = #[] → s.os = s₁.os →
      Fr s₁.heap s₁.heap.objs.size s.heap (bindL (envOfC d.name d.scope s₁.heap.objs.size fa cd).kindOf [(x, .ref a)] fun _ => none) →
      Cl s₁.heap.objs.size (cellsFrom (s₁.heap.objs.size + 1) d.scope.names []) s.heap (bindC (envOfC d.name d.scope s₁.heap.objs.size fa cd).kindOf [(x, .ref a)] fun _ => none) →
      wpAny (model l.prog w) (callerA.deeper (envOfC d.name d.scope s₁.heap.objs.size fa cd)) (execs d.body (envOfC d.name d.scope s₁.heap.objs.size fa cd))
        (fun f s' => f = .ret (.bool true) ∧ (∀ b o, s₁.heap.get? b = some o → s'.heap.get? b = some o) ∧ s'.os = s₁.os ∧ s'.gens = #[]) (fun _ _ => False) s) :
    WalkN q loose XP YP l.row.toRowW d [] (fun f vs => PySem.call f vs) := by
  intro w s₀ s₁ mg mb G Y fa o pm cd doc dV kV ho hd hcd hD hmg hg args vals as hpre hlay hrd hwl hlo
  obtain rfl : dV = .none := Dflts.none hD hdf
  obtain rfl : kV = .none := Dflts.noKw hD
  obtain ⟨a, vs, ns, rfl, rfl, hobj, hints, hlen⟩ := script_of hn hpre hwl
  refine enter_callW ?_
  refine call_cells_ret (o := o) (by rw [depth_caller]; decide) ho (fd_plain hd) G.T.nolimit hcd (hbind pm cd doc (.ref a)) (fun y hy => ?_) (fun h₁ tk F X => ?_) hco hgen hk
  · obtain rfl : y = (x, Value.ref a) := List.mem_singleton.mp hy
    rcases hx with e | e
    · exact .inl e
    · exact .inr ⟨e, cellsFrom_some _ _ _ (.inl e)⟩
  · refine wpAny_mono (body w s₀ s₁ { s₁ with heap := h₁, toks := tk } mg mb fa o pm cd doc a vs ns G Y ho (fd_plain hd) hcd hmg hobj hints hlen hg rfl F X) (fun f s' hq => ?_) (fun _ _ hq => hq)
    obtain ⟨rfl, h2, h3, h4⟩ := hq
    exact ⟨.inl ⟨.bool true, .bool true, [], rfl, fun _ => rfl, .bool true, post_true l _, fun _ => ⟨List.Pairwise.nil, fun _ hm => (nomatch hm)⟩⟩, h2, h3, h4⟩

/-! ### rules over ANY heap (no ledger) from facts about the written part K: the library's own take a ledger (News) for what they write -/
section
variable {prog : Program} {w : World} {A : Around} {E : Value → Shared → Prop} {s : Shared} {K : Frag}

/-- a def of the module, or a method (qual 'C.m'), entered: the frame is the next address; cells behind it -/
theorem call_fn {R : Result → Shared → Prop} {name qual : Str} {params : Arguments} {body : List Stmt} {scope : Scope} {dV kV doc pm cdv ct oc : Value} {an od : Option Addr} {osl : Array (Option Value)} {f : Addr} {args : Args} {binds : List (Str × Value)}
    (X : K.In s.heap) (hlim : s.heap.NoLimit) (ho : K.lookup f = some ⟨oc, od, .func (fnOf name qual params body scope dV kV doc pm an cdv ct), osl⟩) (hcd : codeIn K cdv qual = true) (hroom : A.depth < recursionLimit)
    (hbind : BindsTo s (fnOf name qual params body scope dV kV doc pm an cdv ct) args binds)
    (hkind : (binds.all fun y => scope.names.lookup y.1 == some .local || scope.names.lookup y.1 == some .cell) = true)
    (h : ∀ s₁, InCallC s s.heap.objs.size (bindL (envOfC qual scope s.heap.objs.size f cdv).kindOf binds fun _ => none) (cellsFrom (s.heap.objs.size + 1) scope.names [])
        (bindC (envOfC qual scope s.heap.objs.size f cdv).kindOf binds fun _ => none) s₁ →
      wpAny (model prog w) (A.deeper (envOfC qual scope s.heap.objs.size f cdv)) (execs body (envOfC qual scope s.heap.objs.size f cdv))
        (fun fl s' => R (.ok (.ret (match fl with | .ret v => v | _ => .none))) s')
        (fun e s' => wpAny (model prog w) (A.deeper (envOfC qual scope s.heap.objs.size f cdv)) (leaving (envOfC qual scope s.heap.objs.size f cdv) e) (fun _ s'' => R (.error e) s'') (fun e' s'' => R (.error e') s'') s') s₁)
    (hco : scope.isCoroutine = false) (hgen : scope.isGenerator = false) (hk : scope.kind = .function) : codeAny (model prog w) A (.call (.ref f) args) R s := by
  refine codeAny_call_function hroom (X _ _ ho) rfl hco hgen rfl (codeRec_of X hcd) (hbind _ _ _ _ ?_)
  refine wpAny_newFunctionEnv_cells hk (kindsX hkind _) fun env he s₁ x => ?_
  subst he
  exact ⟨hlim.keeps x.toInCall.keep, codeAny_func (h s₁ x)⟩

/-- C(..): dict at size, instance at size + 1, then __init__ -/
theorem make_obj {R : Result → Shared → Prop} {C fI : Addr} {rest : List Value} {kw : List (Str × Value)}
    (X : K.In s.heap) (hm : makesIn K C = true) (hi : findIn K (.ref C) "__init__" = some (some (.ref fI))) (hf : isFn K (.ref fI) = true)
    (h : codeAny (model prog w) (A.under (.builtin "type.__call__" ⟨.ref C :: rest, kw⟩)) (.call (.ref fI) ⟨.ref (s.heap.objs.size + 1) :: rest, kw⟩) (InitBack (s.heap.objs.size + 1) R)
      { s with heap := (s.heap.push emptyDict).push (instObj C s.heap.objs.size) }) : codeAny (model prog w) A (.call (.ref C) ⟨rest, kw⟩) R s := by
  obtain ⟨hh, g, d, t, os⟩ := s
  exact make_core (makes_of X hm) (looks_findIn X hi) (fun self => bind_fn X self (beq_iff_eq.mp hf)) (.inl rfl) h

/-- x.name where the instance's dict holds the name and the class does not -/
theorem get_field {x C : Addr} {ox : Obj} {es : List DictEntry} {n : Nat} {name : Str} {expr : Bool} {v : Value} {Q : Value → Shared → Prop}
    (X : K.In s.heap) (I : PySem.W.InstAt s.heap x ox C (some (dictOf es n))) (hg : plainGet K C name = true) (hh : hasDictIn K C = true) (ha : findIn K (.ref C) name = some none)
    (hl : getL name es = some (some v)) (hv : handedIn v = true) (h : Q v { s with toks := s.toks + 1 }) : wpAny (model prog w) A (getAttr (.ref x) name expr) Q E s :=
  get_value X I (plainGet_of hg).1 (findObj_own hh ha rfl hl) hv h

/-- x.m(..): the method found in the class -/
theorem get_method {x C f : Addr} {ox : Obj} {es : List DictEntry} {n : Nat} {name : Str} {pl : Sem Bool} {Q : Value × List Value → Shared → Prop}
    (X : K.In s.heap) (I : PySem.W.InstAt s.heap x ox C (some (dictOf es n))) (hg : plainGet K C name = true) (hf : findIn K (.ref C) name = some (some (.ref f))) (ht : isFn K (.ref f) = true)
    (hl : getL name es = some none) (h : Q (.ref f, [.ref x]) s) : wpAny (model prog w) A (getMethod (.ref x) name pl) Q E s :=
  method_fn X I (plainGet_of hg).1 (plainGet_of hg).2 hf (beq_iff_eq.mp ht) (by show (lookIn name (dictOf es n)).map _ = _; rw [lookIn_dict, hl]; rfl) h

/-! the whole heap as the ledger: makes every rule that writes through a ledger a rule over any heap -/
def noObjs (h : Heap) : Heap := { h with objs := #[] }
theorem noObjs_get (h : Heap) (b : Addr) : (noObjs h).get? b = none := by
  cases e : (noObjs h).get? b with
  | none => rfl
  | some o => exact absurd (Heap.lt_size e) (Nat.not_lt_zero _)
def ledger (h : Heap) (L d : Addr) : List (Addr × Obj) := (List.range h.objs.size).filterMap fun a => if a = L ∨ a = d then none else (h.get? a).map fun o => (a, o)
theorem mem_ledger {h : Heap} {L d a : Addr} {o : Obj} : (a, o) ∈ ledger h L d ↔ a ≠ L ∧ a ≠ d ∧ h.get? a = some o := by
  unfold ledger
  rw [List.mem_filterMap]
  constructor
  · rintro ⟨b, _, e⟩
    split at e
    · cases e
    · rename_i hb
      obtain ⟨o', ho, e'⟩ := Option.map_eq_some_iff.mp e
      cases e'
      exact ⟨fun q => hb (.inl q), fun q => hb (.inr q), ho⟩
  · rintro ⟨n1, n2, ho⟩
    refine ⟨a, List.mem_range.mpr (Heap.lt_size ho), ?_⟩
    rw [if_neg (show ¬ (a = L ∨ a = d) from fun q => q.elim n1 n2), ho] <;> rfl
theorem news_ledger {h : Heap} {L d : Addr} {od : Obj} (hne : d ≠ L) (ho : h.get? d = some od) : News (noObjs h) L h ([] ++ (d, od) :: ledger h L d) := by
  rintro ⟨a, o⟩ hp
  rcases List.mem_cons.mp hp with e | hp
  · cases e
    exact ⟨ho, hne, noObjs_get _ _⟩
  · obtain ⟨n1, n2, e⟩ := mem_ledger.mp hp
    exact ⟨e, n1, noObjs_get _ _⟩
theorem fr_all {h : Heap} {L : Addr} {m : Str → Option Value} (n : h.Ns L m) : Fr (noObjs h) L h m :=
  ⟨n, fun b o e => (by rw [noObjs_get] at e; cases e), Nat.zero_le _⟩
/-- Upd of the head entry (for append_K, setItem_K ..) -/
theorem upd_ledger {h : Heap} {L d : Addr} {o o' : Obj} : Upd d o o' ((d, o) :: ledger h L d) ((d, o') :: ledger h L d) :=
  .head fun ⟨_, _⟩ hp => (mem_ledger.mp hp).2.1

/-- x.name = v over any heap: L is any namespace of the heap (the frame's, say): its map stays, its object is not told; all else but the dict stays -/
theorem set_field {x C dx L : Addr} {ox : Obj} {m : Str → Option Value} {es es' : List DictEntry} {n n' : Nat} {name : Str} {v : Value} {Q : Unit → Shared → Prop}
    (X : K.In s.heap) (I : PySem.W.InstAt s.heap x ox C (some (dictOf es n))) (hd : ox.dict = some dx) (hL : s.heap.Ns L m) (hne : dx ≠ L)
    (hs : findIn K (.ref C) "__setattr__" = some (some (.builtin "object.__setattr__"))) (hp : plainOver K C = true) (ht : takerIn K C name = some none) (hh : hasDictIn K C = true) (hl : (getL name es).isSome = true)
    (e : (putL name (PyData.keyHash w.params name) (.str name (s.toks + 1)) v es, putN name es n) = (es', n')) (hz : es'.length ≤ 1000)
    (h : ∀ h' : Heap, h'.Ns L m → h'.get? dx = some (dictOf es' n') → (∀ b o, b ≠ dx → b ≠ L → s.heap.get? b = some o → h'.get? b = some o) → Q () { s with heap := h', toks := s.toks + 2 }) :
    wpAny (model prog w) A (setAttr (.ref x) name v) Q E s := by
  obtain ⟨e1, e2⟩ := Prod.mk.inj e
  have hdx : s.heap.get? dx = some (dictOf es n) := by
    have := I.dict
    rw [hd] at this
    exact this
  refine set_plain X I hs (osa_dict (s := { s with toks := s.toks + 1 }) (h₀ := noObjs s.heap) (L := L) (m := m) (od := dictOf es n) (od' := dictOf es' n') (es := es') (n := n') (pre := []) (post := ledger s.heap L dx)
    (fr_all hL) (news_ledger hne hdx) X I hd hp ht hh hl (fun _ q => nomatch q) (fun ⟨_, _⟩ q => (mem_ledger.mp q).2.1) (by rw [putName_dict, e1, e2]) rfl hz fun h' F' N' => ?_)
  exact h h' F'.ns (N'.get (List.Mem.head _)) fun b o n1 n2 ho => N'.get (List.Mem.tail _ (mem_ledger.mpr ⟨n2, n1, ho⟩))
end
end Att

namespace L2
open PySem PySem.Spec PyProof.Rows

theorem vals_ints : ∀ {vs : List Value} {ns : List Int}, IntsAre vs ns → Vals (ns.map V.int) vs
  | _, _, .nil => .nil
  | _, _, .cons n t h => .cons ⟨t, rfl⟩ (vals_ints h)

/-- nothing is tracked but the script, known to the object (or it is an object of the module) -/
def Only (H : Hp) : Prop := ∀ b, H b = none ∨ ∃ o xs, H b = some (.frz o (.lst xs))

/-- THE HEAD: the law's promise, at the heap behind the top. F, the promise of the law's def, may use that base is part of the heap (so K.In base, base.Ns mainGlobals mg stand in Mod) -/
theorem law_call {P : Program} {w : World} {K : PySem.W.Frag} {mg mb : Str → Option Value} {CX : CXT} {k : Nat} {fa a : Addr} {fd : FuncData} {x : Str} {sp : Sp} {s₁ : Shared} {vs : List Value} {ns : List Int}
    (KX : K.In s₁.heap) (hns : s₁.heap.Ns mainGlobals mg) (hb : s₁.heap.Ns builtinsNs mb) (hbb : ∀ x : Str, x ≠ "__name__" → mb x = bootBuiltins x) (hlim : s₁.heap.NoLimit) (hg : s₁.gens = #[])
    (ha : s₁.heap.get? a = some { cls := .type "list", data := .seq vs.toArray }) (hi : IntsAre vs ns) (hl : ns.length ≤ sizeLine) (hr : Room k callerA)
    (F : ∀ base : Heap, K.In base → base.Ns mainGlobals mg → FnOk P w K mg base CX k fa fd [x] sp) (hbind : ∀ (s : Shared) (u : Value), BindsTo s fd ⟨[u], []⟩ [(x, u)])
    (hsp : ∀ H : Hp, Only H → SqL K H a (ns.map V.int) → sp [.ref a] H (fun v _ => v = .bl true) fun _ _ _ => False)
    (hCX : ∀ H e s', CX [] H s₁ (fun _ _ _ => False) e s' → False) :
    codeAny (model P w) callerA (.call (.ref fa) ⟨[.ref a], []⟩) (fun r s' => r = .ok (.ret (.bool true)) ∧ OldK s₁.heap s'.heap ∧ s'.os = s₁.os ∧ AllBare s'.gens) s₁ := by
  have rv := vals_ints hi
  have lenV := hi.length
  -- from an abstract heap in which nothing but the script may be tracked
  have core : ∀ H : Hp, Only H → SqL K H a (ns.map V.int) → HOk P w H s₁.heap → (∀ b, H b ≠ none → b = a) → (H a ≠ none → K.lookup a = none) →
      codeAny (model P w) callerA (.call (.ref fa) ⟨[.ref a], []⟩) (fun r s' => r = .ok (.ret (.bool true)) ∧ OldK s₁.heap s'.heap ∧ s'.os = s₁.os ∧ AllBare s'.gens) s₁ := by
    intro H hO hS hok hA hK
    have base_of : ∀ {b : Addr} {o : Obj}, s₁.heap.get? b = some o → H b = none → (hidT s₁.heap H).get? b = some o := fun e n => hidT_get e n
    have noA : ∀ {b : Addr} {o : Obj} {es : Array DictEntry} {ep : Nat}, s₁.heap.get? b = some o → o.data = .dict es ep → H b = none := fun {b o es ep} e d => by
      cases q : H b with
      | none => rfl
      | some u =>
        have e' : b = a := hA b (by rw [q]; simp)
        subst e'
        rw [ha] at e; cases e
        have d' : Data.seq vs.toArray _ = Data.dict es ep := d
        cases d'
    have nsK : ∀ {b : Addr} {m : Str → Option Value}, s₁.heap.Ns b m → (hidT s₁.heap H).Ns b m := fun {b m} ⟨o, es, ep, e, d, r⟩ => ⟨o, es, ep, base_of e (noA e d), d, r⟩
    have hKb : K.In (hidT s₁.heap H) := fun b o e => base_of (KX b o e) (by
      cases q : H b with
      | none => rfl
      | some u =>
        have e' : b = a := hA b (by rw [q]; simp)
        subst e'
        rw [hK (by rw [q]; simp)] at e; cases e)
    have hM : Mod K mg (hidT s₁.heap H) := ⟨hKb, nsK hns, ⟨mb, nsK hb, hbb⟩, let ⟨mc, h1, h2⟩ := hlim; ⟨mc, nsK h1, h2⟩⟩
    have e0 : Env0 P w K mg (hidT s₁.heap H) callerA [] s₁ H := ⟨rfl, hM, fun b o e => of_hidT e, Nat.le_of_eq (hidT_size _ _), trivial, fun b hb => absurd (show b ∈ ([] : List Addr) from hb) (by simp), hok, .of_eq hg⟩
    refine codeAny_mono ((F _ hKb (nsK hns)).run callerA [] s₁ H ⟨[.ref a], []⟩ [.ref a] [.ref a] _ _ hr e0 (hbind s₁ (.ref a)) (.cons rfl .nil) (hsp H hO hS)) fun r s' h => ?_
    cases r with
    | error e => exact (hCX H e s' h).elim
    | ok fl =>
      cases fl with
      | next => exact False.elim h
      | brk => exact False.elim h
      | cont => exact False.elim h
      | ret u =>
        obtain ⟨v, H', os, bare, un, hok', r', q⟩ := h
        have q' : v = .bl true := q
        subst q'
        obtain rfl : u = Value.bool true := r'
        refine ⟨rfl, OldK.of_keep fun b o e => ?_, os, bare⟩
        cases q : H b with
        | none => exact un.keep b o e q (by intro z; exact absurd (show b ∈ ([] : List Addr) from z) (by simp)) (by simp)
        | some u =>
          rcases hO b with z | ⟨ob, xs, z⟩
          · rw [q] at z; cases z
          · have z2 := un.frzs b ob _ z
            obtain ⟨e1, _⟩ := hok b _ z
            obtain ⟨e2, _⟩ := hok' b _ z2
            rw [e] at e1; cases e1
            exact e2
  cases hk : K.lookup a with
  | some o =>
    -- the script is one of the module's own objects
    have e := KX a o hk
    rw [ha] at e
    cases e
    refine core (fun _ => none) (fun _ => .inl rfl) (.inr ⟨_, vs.toArray, _, hk, rfl, rfl, rfl, by rw [List.size_toArray, lenV]; exact hl, by simpa using rv⟩) (fun b u z => by have z' : (none : Option HO) = some u := z; cases z') (fun b z => absurd rfl z) fun z => absurd rfl z
  | none =>
    refine core (fun b => if b = a then some (.frz { cls := .type "list", data := .seq vs.toArray } (.lst (ns.map V.int))) else none) (fun b => ?_) (.inl (.inr ⟨{ cls := .type "list", data := .seq vs.toArray }, if_pos rfl⟩)) (fun b u z => ?_) (fun b z => ?_) fun _ => hk
    · by_cases hb : b = a
      · exact .inr ⟨_, _, if_pos hb⟩
      · exact .inl (if_neg hb)
    · by_cases hb : b = a
      · have z' := (if_pos hb).symm.trans z
        cases z'
        subst hb
        exact ⟨ha, by rw [List.length_map]; exact hl, vs, _, rv, ha⟩
      · have z' := (if_neg hb).symm.trans z
        cases z'
    · by_cases hb : b = a
      · exact hb
      · exact absurd (if_neg hb) z
end L2

namespace L2
open PySem PySem.Spec PyProof.Rows

abbrev KOf {K : PySem.W.Frag} {h : Heap} (_ : K.In h) : PySem.W.Frag := K

/-- the goal that k_head leaves (case hc), from the law's promise. F gives the function object fd (K's own) once, then the promise over every base -/
theorem walk_of {l : PySem.W.OpenLaw} {n k : Nat} {q : Program} {loose : List Str} {XP : (Str → Option Value) → Heap → Prop} {YP : World → Heap → Prop} {d : DefRec} {K : Params → PySem.W.Frag} {CX : World → CXT} {sp : World → Sp} {x : Str}
    (hn : l.most = some n) (hn2 : n ≤ sizeLine) (hdf : d.params.defaults = []) (hr : Room k callerA)
    (hY : ∀ (w : World) (h : Heap), YP w h → (K w.params).In h)
    (F : ∀ (w : World) (mg : Str → Option Value) (fa : Addr) (h : Heap), (K w.params).In h → h.Ns mainGlobals mg → mg d.name = some (.ref fa) →
      ∃ fd : FuncData, (∀ (s : Shared) (u : Value), BindsTo s fd ⟨[u], []⟩ [(x, u)]) ∧
        ∀ base : Heap, (K w.params).In base → base.Ns mainGlobals mg → FnOk l.prog w (K w.params) mg base (CX w) k fa fd [x] (sp w))
    (hsp : ∀ (w : World) (H : Hp) (a : Addr) (ns : List Int), ns.length ≤ n → Only H → SqL (K w.params) H a (ns.map V.int) → sp w [.ref a] H (fun v _ => v = .bl true) fun _ _ _ => False)
    (hCX : ∀ (w : World) (H : Hp) (s : Shared) (e : Value) (s' : Shared), CX w [] H s (fun _ _ _ => False) e s' → False) :
    PySem.W.WalkO q loose XP YP l.row.toRowW d [] (fun f vs => PySem.call f vs) := by
  refine Att.attach_call hn hdf fun w s₀ s₁ mg mb fa o pm cd doc a vs ns G Y ho hd hcd hmg hobj hints hlen hg => ?_
  have KX := hY w _ Y
  obtain ⟨fd, hb, hF⟩ := F w mg fa _ KX G.T.g hmg
  exact law_call KX G.T.g G.T.b G.T.builtins G.T.nolimit hg hobj hints (Nat.le_trans hlen hn2) hr hF hb (fun H hO hS => hsp w H a ns hlen hO hS) fun H e s' => hCX w H s₁ e s'
/-- the same where the promise hangs on the written part alone: (sp := My.sp_law), no hole under a binder -/
theorem walk_ofK {l : PySem.W.OpenLaw} {n k : Nat} {q : Program} {loose : List Str} {XP : (Str → Option Value) → Heap → Prop} {YP : World → Heap → Prop} {d : DefRec} {K : Params → PySem.W.Frag} {CX : CXT} {sp : PySem.W.Frag → Sp} {x : Str}
    (hn : l.most = some n) (hn2 : n ≤ sizeLine) (hdf : d.params.defaults = []) (hr : Room k callerA)
    (hY : ∀ (w : World) (h : Heap), YP w h → (K w.params).In h)
    (F : ∀ (w : World) (mg : Str → Option Value) (fa : Addr) (h : Heap), (K w.params).In h → h.Ns mainGlobals mg → mg d.name = some (.ref fa) →
      ∃ fd : FuncData, (∀ (s : Shared) (u : Value), BindsTo s fd ⟨[u], []⟩ [(x, u)]) ∧
        ∀ base : Heap, (K w.params).In base → base.Ns mainGlobals mg → FnOk l.prog w (K w.params) mg base CX k fa fd [x] (sp (K w.params)))
    (hsp : ∀ (K : PySem.W.Frag) (H : Hp) (a : Addr) (ns : List Int), ns.length ≤ n → Only H → SqL K H a (ns.map V.int) → sp K [.ref a] H (fun v _ => v = .bl true) fun _ _ _ => False)
    (hCX : ∀ (H : Hp) (s : Shared) (e : Value) (s' : Shared), CX [] H s (fun _ _ _ => False) e s' → False) :
    PySem.W.WalkO q loose XP YP l.row.toRowW d [] (fun f vs => PySem.call f vs) :=
  walk_of (K := K) (CX := fun _ => CX) (sp := fun w => sp (K w.params)) hn hn2 hdf hr hY F (fun w H a ns h1 h2 h3 => hsp (K w.params) H a ns h1 h2 h3) fun _ H s e s' => hCX H s e s'
end L2

namespace L2
open PySem PySem.Spec PyProof.Rows

/-! ### the text by places -/
/-- the j-th statement of a class's body -/
def inClass (s : Stmt) (j : Nat) : Stmt := match s with
  | .ClassDef _ _ _ body _ _ _ _ _ _ _ => body.getD j (.Pass ⟨0, 0, 0, 0⟩)
  | _ => .Pass ⟨0, 0, 0, 0⟩
def defArgs (s : Stmt) : Arguments := match s with
  | .FunctionDef _ a _ _ _ _ _ _ _ _ => a
  | _ => { posonlyargs := [], args := [], vararg := none, kwonlyargs := [], kw_defaults := [], kwarg := none, defaults := [] }
def defBody (s : Stmt) : List Stmt := match s with
  | .FunctionDef _ _ b _ _ _ _ _ _ _ => b
  | _ => []
def defScope (s : Stmt) : Scope := match s with
  | .FunctionDef _ _ _ _ _ _ sc _ _ _ => sc
  | _ => { kind := .function, names := [], isGenerator := false, isCoroutine := false }

/-! ### no exception leaves a def -/
abbrev CX0 : CXT := fun _ _ _ _ _ _ => False
abbrev E0 : XK := fun _ _ _ => False
theorem pass0 {X : Cx} : Passes CX0 X E0 := fun _ _ _ _ _ _ _ h => h.elim

/-! ### a def (or method) of the text as it stands behind the top -/
structure Fun (K : PySem.W.Frag) (x qual : Str) (st : Stmt) (f : Addr) (fd : FuncData) : Prop where
  ex : ∃ (oc : Value) (od : Option Addr) (kV doc pm : Value) (an : Option Addr) (cdv ct : Value) (osl : Array (Option Value)),
    fd = PySem.W.fnOf x qual (defArgs st) (defBody st) (defScope st) .none kV doc pm an cdv ct ∧ K.lookup f = some ⟨oc, od, .func fd, osl⟩ ∧ PySem.W.codeIn K cdv qual = true
  kp : PySem.W.keepIn K (.ref f) = true
section
variable {P : Program} {w : World} {K : PySem.W.Frag} {mg : Str → Option Value} {base : Heap}
/-- THE RULE for a def: its body as a term of rules, and the reading of that term -/
theorem Fun.ok {x qual : Str} {st : Stmt} {f : Addr} {fd : FuncData} {N ps : List Str} {k : Nat} {sp : Sp} (F : Fun K x qual st f fd) (S : FnScope N ps (defScope st)) (len : ∀ vs H Q E, sp vs H Q E → vs.length = ps.length)
    (hbody : ∀ (cdv : Value) (A : Around) (outer : List Env) (s : Shared) (H : Hp) (vs : List V) (Q : VK) (E : XK), Room k (A.deeper (envOfC qual (defScope st) s.heap.objs.size f cdv)) → sp vs H Q E →
      ∃ t, PSs (cxOf CX0 P w K mg base N qual (defScope st) f cdv A outer s H E).nox (defBody st) t ∧ t { nx := fun _ H' => Q .non H', rt := Q } (start N vs) H) : FnOk P w K mg base CX0 (k + 1) f fd ps sp := by
  obtain ⟨oc, od, kV, doc, pm, an, cdv, ct, osl, rfl, lk, hcd⟩ := F.ex
  refine fn_of lk hcd S len fun A outer s H vs Q E hr hsp => ?_
  obtain ⟨t, h, q⟩ := hbody cdv A outer s H vs Q E hr hsp
  exact ⟨t, h.nox, q⟩
/-- how its arguments bind (no defaults): h is «fun _ _ _ _ _ _ us hl => match us, hl with | [_, _], _ => rfl», one _ a parameter -/
theorem Fun.binds {x qual : Str} {st : Stmt} {f : Addr} {fd : FuncData} {ps : List Str} (F : Fun K x qual st f fd)
    (h : ∀ (kV doc pm : Value) (an : Option Addr) (cdv ct : Value) (us : List Value), us.length = ps.length → bindArgs (PySem.W.fnOf x qual (defArgs st) (defBody st) (defScope st) .none kV doc pm an cdv ct) ⟨us, []⟩ = pure (ps.zip us)) : Binds K fd ps [] := by
  obtain ⟨oc, od, kV, doc, pm, an, cdv, ct, osl, rfl, lk, hcd⟩ := F.ex
  exact .all (h kV doc pm an cdv ct)
theorem fun_mk {x qual : Str} {st : Stmt} {f : Addr} {oc : Value} {od an : Option Addr} {osl : Array (Option Value)} {kV doc pm cdv ct : Value} (l : K.lookup f = some ⟨oc, od, .func (PySem.W.fnOf x qual (defArgs st) (defBody st) (defScope st) .none kV doc pm an cdv ct), osl⟩)
    (c : PySem.W.codeIn K cdv qual = true) (k : PySem.W.keepIn K (.ref f) = true) : Fun K x qual st f (PySem.W.fnOf x qual (defArgs st) (defBody st) (defScope st) .none kV doc pm an cdv ct) := ⟨⟨oc, od, kV, doc, pm, an, cdv, ct, osl, rfl, l, c⟩, k⟩
end
theorem hu_of {A : Around} {k : Nat} (hr : Room k A) : A.units + 1 < cLine := Nat.lt_of_le_of_lt (Nat.add_le_add_left (by decide : 1 ≤ 64) _) hr.units
theorem small1000 {n : Nat} (h : n ≤ 1000) : n < sizeLine := Nat.lt_of_le_of_lt h (by decide)

/-! ### expressions in short: the name that stands in the i-th slot -/
section
variable {X : Cx}
theorem pv (i : Nat) {x : Str} {pos : Pos} (hN : X.N[i]? = some x := by rfl) (hv : Vis X.env.scope x := by first | exact Or.inl rfl | exact Or.inr (Or.inl rfl) | exact Or.inr (Or.inr rfl)) (hd : (x == ("__debug__" : Str)) = false := by decide)
    (hcd : (x == ("__classdict__" : Str)) = false := by decide) : PE X (.Name x pos) (tVar i) := pe_var hN hv hd hcd
end

/-! ### tests -/
theorem iteF {A B : Prop} (h : B) : if false = true then A else B := by
  rw [if_neg Bool.false_ne_true]
  exact h
theorem iteT {A B : Prop} (h : A) : if true = true then A else B := by
  rw [if_pos rfl]
  exact h
theorem ite2 {c A B : Prop} [Decidable c] (h1 : c → A) (h2 : ¬ c → B) : if c then A else B := by
  by_cases h : c
  · rw [if_pos h]
    exact h1 h
  · rw [if_neg h]
    exact h2 h
theorem iteNS {c A B : Prop} [Decidable c] (hc : c) (h : B) : if (!decide c) = true then A else B := by
  rw [decide_eq_true hc]
  exact iteF h

/-! ### heaps -/
/-- all that was tracked is as it was -/
def Same (H H' : Hp) : Prop := ∀ b o, H b = some o → H' b = some o
theorem Same.refl (H : Hp) : Same H H := fun _ _ h => h
theorem Same.trans {H H1 H2 : Hp} (a : Same H H1) (b : Same H1 H2) : Same H H2 := fun c o h => b c o (a c o h)
theorem Same.free {H H' : Hp} (e : Same H H') {l : Addr} (h : H' l = Option.none) : H l = Option.none := by
  cases q : H l with
  | none => rfl
  | some o =>
    rw [e l o q] at h
    cases h
theorem Same.seq {K : PySem.W.Frag} {H H' : Hp} {a : Addr} {xs : List V} (e : Same H H') (h : SqL K H a xs) : SqL K H' a xs := by
  rcases h with (h | ⟨o, h⟩) | h
  · exact .inl (.inl (e _ _ h))
  · exact .inl (.inr ⟨o, e _ _ h⟩)
  · exact .inr h

section
variable {X : Cx}
/-- len of a dict -/
theorem call_lenD : CallR X (.builtin "len") (fun xs H Q => ∃ a kvs, xs = [V.ref a] ∧ H a = some (.dK kvs) ∧ Q (.int kvs.length) H) := by
  intro pins s σ H xs us Q I r h
  obtain ⟨a, kvs, rfl, ha, q⟩ := h
  obtain ⟨u, rfl, ru⟩ := vals1 r
  cases ru
  exact d_len I (.inl ha) fun t s' I' => ⟨.int kvs.length, H, I', ⟨t, rfl⟩, q⟩
end
/-! ### a dict's pairs: keys that differ -/
section
variable {κ : Type} [DecidableEq κ]
theorem valV_not {kvs : List (κ × V)} {k : κ} (h : valV kvs k = none) : ¬ k ∈ kvs.map (·.1) := by
  intro m
  obtain ⟨p, hp, e⟩ := List.mem_map.mp m
  have q : (kvs.any fun kv => decide (kv.1 = k)) = true := List.any_eq_true.mpr ⟨p, hp, decide_eq_true e⟩
  rw [valV_any, h] at q
  exact absurd q (by simp)
theorem valV_in {kvs : List (κ × V)} {k : κ} {v : V} (h : valV kvs k = some v) : k ∈ kvs.map (·.1) := by
  have q : (kvs.any fun kv => decide (kv.1 = k)) = true := by
    rw [valV_any, h]
    all_goals rfl
  obtain ⟨p, hp, e⟩ := List.any_eq_true.mp q
  exact List.mem_map.mpr ⟨p, hp, of_decide_eq_true e⟩
theorem nd_snoc : ∀ {l : List κ} {k : κ}, l.Nodup → ¬ k ∈ l → (l ++ [k]).Nodup
  | [], k, _, _ => by simp
  | a :: r, k, h, hk => by
    obtain ⟨h1, h2⟩ := List.nodup_cons.mp h
    show (a :: (r ++ [k])).Nodup
    refine List.nodup_cons.mpr ⟨fun m => ?_, nd_snoc h2 fun m => hk (List.mem_cons.mpr (Or.inr m))⟩
    rcases List.mem_append.mp m with q | q
    · exact h1 q
    · exact hk (List.mem_cons.mpr (Or.inl (List.mem_singleton.mp q).symm))
theorem nd_putK {kvs : List (κ × V)} {k : κ} (v : V) (hn : (kvs.map (·.1)).Nodup) (h : valV kvs k = none) : ((putK kvs k v).map (·.1)).Nodup := by
  rw [putK_new v h, List.map_append]
  exact nd_snoc hn (valV_not h)
theorem dropK_pos {p : κ × V} {r : List (κ × V)} {k : κ} (e : p.1 = k) : dropK (p :: r) k = dropK r k := by
  unfold dropK
  rw [List.filter_cons, if_neg (by simp [e])]
theorem dropK_neg {p : κ × V} {r : List (κ × V)} {k : κ} (e : ¬ p.1 = k) : dropK (p :: r) k = p :: dropK r k := by
  unfold dropK
  rw [List.filter_cons, if_pos (by simp [e])]
theorem dropK_no : ∀ {kvs : List (κ × V)} {k : κ}, ¬ k ∈ kvs.map (·.1) → dropK kvs k = kvs
  | [], _, _ => rfl
  | p :: r, k, h => by
    have h' : ¬ k ∈ r.map (·.1) := fun m => by
      obtain ⟨q, hq, e⟩ := List.mem_map.mp m
      exact h (List.mem_map.mpr ⟨q, List.mem_cons.mpr (Or.inr hq), e⟩)
    rw [dropK_neg fun e => h (List.mem_map.mpr ⟨p, List.mem_cons.mpr (Or.inl rfl), e⟩), dropK_no h']
theorem dropK_mem {kvs : List (κ × V)} {k : κ} {p : κ × V} (h : p ∈ dropK kvs k) : p ∈ kvs := (List.mem_filter.mp h).1
theorem nd_dropK : ∀ {kvs : List (κ × V)} {k : κ}, (kvs.map (·.1)).Nodup → ((dropK kvs k).map (·.1)).Nodup
  | [], _, _ => List.nodup_nil
  | p :: r, k, h => by
    have h : (p.1 :: r.map (·.1)).Nodup := h
    obtain ⟨h1, h2⟩ := List.nodup_cons.mp h
    by_cases e : p.1 = k
    · rw [dropK_pos e]
      exact nd_dropK h2
    · rw [dropK_neg e]
      show (p.1 :: (dropK r k).map (·.1)).Nodup
      refine List.nodup_cons.mpr ⟨fun m => h1 ?_, nd_dropK h2⟩
      obtain ⟨q, hq, eq⟩ := List.mem_map.mp m
      exact List.mem_map.mpr ⟨q, dropK_mem hq, eq⟩
theorem dropK_len : ∀ {kvs : List (κ × V)} {k : κ}, (kvs.map (·.1)).Nodup → k ∈ kvs.map (·.1) → (dropK kvs k).length + 1 = kvs.length
  | [], _, _, m => by simp at m
  | p :: r, k, h, m => by
    have h : (p.1 :: r.map (·.1)).Nodup := h
    have m : k = p.1 ∨ k ∈ r.map (·.1) := List.mem_cons.mp m
    obtain ⟨h1, h2⟩ := List.nodup_cons.mp h
    by_cases e : p.1 = k
    · subst e
      rw [dropK_pos rfl, dropK_no h1]
      all_goals rfl
    · have m' : k ∈ r.map (·.1) := m.resolve_left fun z => e z.symm
      have q := dropK_len h2 m'
      rw [dropK_neg e, List.length_cons, List.length_cons]
      omega
end
end L2


set_option Elab.async false
set_option linter.all false
set_option maxRecDepth 100000
set_option maxHeartbeats 4000000
namespace L2
open PySem PySem.Spec PyProof.Rows

/-! ### comprehensions: one clause, at most one test; nothing in it raises -/
section
variable {prog : Program} {w : World} {A : Around} {R : Result → Shared → Prop} {s : Shared}
theorem compLoop_any {elt target iter : Expr} {ifs : List Expr} {scope : Scope} {pos : Pos} {it acc : Value} {env : Env} (I : Nat → Shared → Prop)
    (turn : ∀ n s, I n s → wpAny (model prog w) A (pyNext it) (fun r s₁ => match r with
      | none => R (.ok .next) s₁
      | some v => wpAny (model prog w) A (letOwnedTupleGo target it v) (fun _ s₂ => wpAny (model prog w) A (assign target env v) (fun _ s₃ =>
          wpAny (model prog w) A (forIn ifs true fun c r => if r = true then do let ok ← isTrue c env (eval c env); pure (ForInStep.yield ok) else pure (ForInStep.yield r)) (fun ok s₄ =>
            if ok = true then wpAny (model prog w) A (eval elt env) (fun x s₅ =>
              wpAny (model prog w) A (call (.builtin "list.append") [acc, x]) (fun _ s₆ => ∃ m, m < n ∧ I m s₆) (fun _ _ => False) s₅) (fun _ _ => False) s₄
            else ∃ m, m < n ∧ I m s₄) (fun _ _ => False) s₃) (fun _ _ => False) s₂) (fun _ _ => False) s₁) (fun _ _ => False) s)
    (n : Nat) (h : I n s) :
    codeAny (model prog w) A (.compLoop (.ListComp elt [⟨target, iter, ifs, 0⟩] scope pos) 0 it acc env) R s := by
  refine codeAny_loop rfl I (fun n s hI => ?_) n h
  show wpAny _ A ((compTurn (.ListComp elt [⟨target, iter, ifs, 0⟩] scope pos) 0 it acc env).onRaise (fun x => do noteFrame x env; theTreesLotGoes x)) _ _ s
  refine wpAny_noted (wpAny_mono (E := fun _ _ => False) ?_ (fun _ _ q => q) fun _ _ q => q.elim)
  rw [compTurn_list]
  refine wpAny_bind (wpAny_standAt (wpAny_bind (thn (turn n s hI) fun r s₁ h₁ => ?_)))
  cases r with
  | none => exact wpAny_pure h₁
  | some v =>
    refine wpAny_bind (thn h₁ fun _ s₂ h₂ => wpAny_bind (thn h₂ fun _ s₃ h₃ => wpAny_bind (thn h₃ fun ok s₄ h₄ => ?_)))
    cases ok with
    | false => exact wpAny_pure ⟨rfl, h₄⟩
    | true => exact wpAny_bind (wpAny_bind (thn h₄ fun x s₅ h₅ => wpAny_bind (thn h₅ fun _ s₆ h₆ => wpAny_pure (wpAny_pure ⟨rfl, h₆⟩))))
end

theorem HOk.track {P : Program} {w : World} {H : Hp} {h : Heap} {a : Addr} {o : HO} (x : HOk P w H h) (hn : H a = none) (new : ObjOk P w (upd H a o) h a o) : HOk P w (upd H a o) h := fun b u e => by
  by_cases hb : b = a
  · subst hb; rw [upd_same] at e; cases e; exact new
  · rw [upd_ne hb] at e
    exact (x b u e).stay (fun c v _ q => q) (fun c q => by rw [upd_ne (ne_of_none q hn)]; exact q) fun c xs q => by rw [upd_ne (ne_of_none q hn)]; exact q

theorem lookup_mem {α : Type} : ∀ {l : List (Str × α)} {x : Str} {k : α}, l.lookup x = some k → (x, k) ∈ l
  | [], _, _, h => by simp at h
  | (n, k') :: r, x, k, h => by
    rw [List.lookup_cons] at h
    cases hx : x == n with
    | true =>
      rw [hx] at h
      have : x = n := by simpa using hx
      cases h; subst this; exact List.mem_cons_self
    | false => rw [hx] at h; exact List.mem_cons_of_mem _ (lookup_mem h)

theorem lookup_relabel {env : Env} : ∀ {names : List (Str × NameKind)} {x : Str} {k : NameKind}, 
    (names.map fun (n, k) => if (k == NameKind.free && env.scope.kind == .function && env.kindOf n == some .cell) then (n, NameKind.cell) else (n, k)).lookup x = some k →
    ∃ k', names.lookup x = some k' ∧ (k = k' ∨ (k' = .free ∧ k = .cell))
  | [], _, _, h => by simp at h
  | (n, k0) :: r, x, k, h => by
    have ih := @lookup_relabel env r x k
    have h' : List.lookup x ((if (k0 == NameKind.free && env.scope.kind == .function && env.kindOf n == some .cell) = true then (n, NameKind.cell) else (n, k0)) ::
      (r.map fun (n, k) => if (k == NameKind.free && env.scope.kind == .function && env.kindOf n == some .cell) then (n, NameKind.cell) else (n, k))) = some k := h
    by_cases hc : (k0 == NameKind.free && env.scope.kind == .function && env.kindOf n == some .cell) = true
    · rw [if_pos hc, List.lookup_cons] at h'
      rw [List.lookup_cons]
      cases hx : x == n with
      | true =>
        rw [hx] at h'; cases h'
        simp only [Bool.and_eq_true] at hc
        exact ⟨k0, rfl, .inr ⟨by simpa using hc.1.1, rfl⟩⟩
      | false => rw [hx] at h'; exact ih h'
    · rw [if_neg hc, List.lookup_cons] at h'
      rw [List.lookup_cons]
      cases hx : x == n with
      | true => rw [hx] at h'; cases h'; exact ⟨_, rfl, .inl rfl⟩
      | false => rw [hx] at h'; exact ih h'

theorem forIn_clos {env : Env} {f : (Str × NameKind) → List (Str × Addr) → Sem (ForInStep (List (Str × Addr)))}
    (hf : ∀ n k r, f (n, k) r = if (k == NameKind.free) = true then (cellOf env n >>= fun a => pure (ForInStep.yield ((n, a) :: r))) else pure (ForInStep.yield r)) :
    ∀ (names : List (Str × NameKind)) (acc : List (Str × Addr)), (∀ y ∈ names, y.2 = .free → ∃ c, env.cells.lookup y.1 = some c) → (∀ x c, acc.lookup x = some c → env.cells.lookup x = some c) →
      ∃ cl, forIn names acc f = pure cl ∧ (∀ x c, cl.lookup x = some c → env.cells.lookup x = some c) ∧ (∀ x, (∃ c, acc.lookup x = some c) → ∃ c, cl.lookup x = some c) ∧ ∀ x, (x, NameKind.free) ∈ names → ∃ c, cl.lookup x = some c
  | [], acc, _, hacc => ⟨acc, rfl, hacc, fun _ h => h, fun _ h => by simp at h⟩
  | (n, k) :: r, acc, hn, hacc => by
    have hr : ∀ y ∈ r, y.2 = .free → ∃ c, env.cells.lookup y.1 = some c := fun y hy => hn y (List.mem_cons_of_mem _ hy)
    by_cases hk : (k == NameKind.free) = true
    · have hk' : k = .free := by simpa using hk
      obtain ⟨c, hc⟩ := hn (n, k) List.mem_cons_self hk'
      obtain ⟨cl, e, h1, h2, h3⟩ := forIn_clos hf r ((n, c) :: acc) hr (fun x c' h => by
        rw [List.lookup_cons] at h
        cases hx : x == n with
        | true => rw [hx] at h; cases h; have : x = n := by simpa using hx
                  subst this; exact hc
        | false => rw [hx] at h; exact hacc x c' h)
      refine ⟨cl, ?_, h1, fun x ⟨c', hx⟩ => h2 x ?_, fun x hx => ?_⟩
      · rw [List.forIn_cons, hf, if_pos hk]
        have : cellOf env n = pure c := by unfold cellOf; rw [hc]
        rw [this]
        exact e
      · rw [List.lookup_cons]
        cases x == n with
        | true => exact ⟨_, rfl⟩
        | false => exact ⟨c', hx⟩
      · rcases List.mem_cons.mp hx with e | hx
        · cases e
          exact h2 _ ⟨c, by rw [List.lookup_cons]; simp⟩
        · exact h3 x hx
    · obtain ⟨cl, e, h1, h2, h3⟩ := forIn_clos hf r acc hr hacc
      refine ⟨cl, ?_, h1, h2, fun x hx => ?_⟩
      · rw [List.forIn_cons, hf, if_neg hk]
        exact e
      · rcases List.mem_cons.mp hx with e | hx
        · cases e
          exact absurd rfl hk
        · exact h3 x hx
theorem clos_of {sc : Scope} {env : Env} (h : ∀ y ∈ sc.names, y.2 = .free → ∃ c, env.cells.lookup y.1 = some c) :
    ∃ cl, closureFor sc env = pure cl ∧ (∀ x c, cl.lookup x = some c → env.cells.lookup x = some c) ∧ ∀ x, (x, NameKind.free) ∈ sc.names → ∃ c, cl.lookup x = some c := by
  obtain ⟨cl, e, h1, _, h3⟩ := forIn_clos (env := env) (f := fun x r => match x with | (name, kind) => if (kind == NameKind.free) = true then (cellOf env name >>= fun a => pure (ForInStep.yield ((name, a) :: r))) else pure (ForInStep.yield r))
    (fun n k r => rfl) sc.names [] h (fun _ _ h => by simp at h)
  refine ⟨cl, ?_, h1, h3⟩
  unfold closureFor
  refine Eq.trans ?_ e
  exact bind_pure _

/-- the block's slots: from the def's -/
def pick (ρ : List (Option Nat)) (σ : St) : St := ρ.map fun o => o.bind fun j => (σ[j]?).join
/-- the block's context -/
def cxB (X : Cx) (N' : List Str) (sc : Scope) (cl : List (Str × Addr)) (C : Addr) (s : Shared) (H : Hp) (fp : List Addr) : Cx :=
  { X with N := N', s₀ := s, H₀ := H, env := compEnvC sc cl C X.env, outer := X.stack, ex := fp, fn := fun _ => false, xe := fun _ _ => False }
structure CompSc (X : Cx) (N' : List Str) (ρ : List (Option Nat)) (sc : Scope) : Prop where
  kind : sc.kind = .function
  nocell : ∀ y ∈ sc.names, y.2 ≠ .cell
  names : ∀ y ∈ sc.names, y.2 = .local → sc.names.lookup y.1 = some .local
  free : ∀ y ∈ sc.names, y.2 = .free → (X.env.kindOf y.1 = some .cell ∨ X.env.kindOf y.1 = some .free)
  len : ρ.length = N'.length
  ix : ∀ (i j : Nat), ρ[i]? = some (some j) → ∃ x, N'[i]? = some x ∧ X.N[j]? = some x ∧ sc.names.lookup x = some .free
def PTs (X : Cx) (ifs : List Expr) (t : TT) : Prop :=
  ∀ (pins : List (Addr × Obj)) (s : Shared) (σ : St) (H : Hp) (Q : Bool → Hp → Prop), Inv X pins σ H s → t σ H Q →
    wpAny (model X.prog X.w) X.A (forIn ifs true fun c r => if r = true then do let ok ← isTrue c X.env (eval c X.env); pure (ForInStep.yield ok) else pure (ForInStep.yield r)) (TP X pins σ Q) X.xe s
def tYes : TT := fun _ H Q => Q true H
theorem pts_nil {X : Cx} : PTs X [] tYes := fun _ _ _ H _ I h => wpAny_tests_nil ⟨H, I, h⟩
theorem pts_one {X : Cx} {c : Expr} {t : TT} (h : PT X c t) : PTs X [c] t := fun pins s σ H Q I hw => wpAny_tests_one (h pins s σ H Q I hw)
/-- the target leaves the def's own names as they are -/
def GKeep (ρ : List (Option Nat)) (g : TG) : Prop := ∀ v σ H Q, g v σ H Q → g v σ H fun σ2 H2 => (σ2.length = σ.length ∧ ∀ (i j : Nat), ρ[i]? = some (some j) → σ2[i]? = σ[i]?) ∧ Q σ2 H2
def GsKeep (ρ : List (Option Nat)) (g : TGs) : Prop := ∀ v σ H Q, g v σ H Q → g v σ H fun σ2 H2 => (σ2.length = σ.length ∧ ∀ (i j : Nat), ρ[i]? = some (some j) → σ2[i]? = σ[i]?) ∧ Q σ2 H2
theorem gk_name {ρ : List (Option Nat)} {i : Nat} (h : ρ[i]? = some none) : GKeep ρ (gName i) := fun v σ H Q q => by
  refine ⟨⟨List.length_set, fun k j e => ?_⟩, q⟩
  have : i ≠ k := by intro z; subst z; rw [h] at e; cases e
  rw [List.getElem?_set_ne this]
theorem gk_nil {ρ : List (Option Nat)} : GsKeep ρ gNil := fun v σ H Q ⟨e, q⟩ => ⟨e, ⟨rfl, fun _ _ _ => rfl⟩, q⟩
theorem GKeep.mono {ρ : List (Option Nat)} {g : TG} (m : ∀ v σ H Q Q', (∀ a b, Q a b → Q' a b) → g v σ H Q → g v σ H Q') : True := trivial
theorem gk_cons1 {ρ : List (Option Nat)} {i : Nat} {u : TGs} (h : ρ[i]? = some none) (hu : GsKeep ρ u) (mu : ∀ v σ H Q Q', (∀ a b, Q a b → Q' a b) → u v σ H Q → u v σ H Q') : GsKeep ρ (gCons (gName i) u) := fun vs σ H Q ⟨v, r, e, q⟩ => by
  refine ⟨v, r, e, ?_⟩
  refine mu _ _ _ _ _ (fun a b ⟨⟨l, k⟩, z⟩ => ⟨⟨l.trans List.length_set, fun i' j' e' => (k i' j' e').trans ?_⟩, z⟩) (hu _ _ _ _ q)
  have : i ≠ i' := by intro z; subst z; rw [h] at e'; cases e'
  rw [List.getElem?_set_ne this]
theorem gm_nil : ∀ v σ H Q Q', (∀ a b, Q a b → Q' a b) → gNil v σ H Q → gNil v σ H Q' := fun _ _ _ _ _ m ⟨e, q⟩ => ⟨e, m _ _ q⟩
theorem gm_cons {i : Nat} {u : TGs} (mu : ∀ v σ H Q Q', (∀ a b, Q a b → Q' a b) → u v σ H Q → u v σ H Q') : ∀ v σ H Q Q', (∀ a b, Q a b → Q' a b) → gCons (gName i) u v σ H Q → gCons (gName i) u v σ H Q' :=
  fun _ _ _ _ _ m ⟨v, r, e, q⟩ => ⟨v, r, e, mu _ _ _ _ _ m q⟩
theorem gk_tup {ρ : List (Option Nat)} {K : PySem.W.Frag} {n : Nat} {u : TGs} (hu : GsKeep ρ u) : GKeep ρ (gTup K n u) := fun v σ H Q ⟨a, xs, e, hq, hl, q⟩ => ⟨a, xs, e, hq, hl, hu _ _ _ _ q⟩

/-- the loop of a comprehension, by an invariant over the turn, a measure, what is gathered, the heap -/
def CompG (J : It) (ρ : List (Option Nat)) (g : TG) (tc : TT) (te : TE) (σ : St) (H1 : Hp) (Q : VK) : Prop := ∃ W : Nat → Nat → List V → Hp → Prop, (∃ m, W 0 m [] H1) ∧ ∀ i m acc H, W i m acc H →
  (J.stop i H ∧ ∀ p, H p = none → Q (.ref p) (upd H p (.lst acc))) ∨
  (J.go i H ∧ acc.length < sizeLine ∧ ∃ N : List V → Hp → Prop, (∀ acc' H', N acc' H' → ∃ m', m' < m ∧ W (i + 1) m' acc' H') ∧
    ∀ x H', J.yld i H x H' → g x (pick ρ σ) H' fun σ2 H2 => tc σ2 H2 fun b H3 => if b = true then te σ2 H3 fun y H4 => N (acc ++ [y]) H4 else N acc H3)
def tComp (wi : TI) (ρ : List (Option Nat)) (g : TG) (tc : TT) (te : TE) : TE := fun σ H Q => wi σ H fun J H1 => CompG J ρ g tc te σ H1 Q

section
variable {X : Cx} {elt tg iter : Expr} {ifs : List Expr} {sc : Scope} {pos cpos : Pos} {N' : List Str} {ρ : List (Option Nat)} {wi : TI} {g : TG} {tc : TT} {te : TE}
theorem comp_main (hcalm : X.calm = true) (S : CompSc X N' ρ sc) (hi : PI X tg iter wi)
    (hg : ∀ cl C s H fp, PG (cxB X N' sc cl C s H fp) tg g) (gk : GKeep ρ g) (hc : ∀ cl C s H fp, PTs (cxB X N' sc cl C s H fp) ifs tc) (he : ∀ cl C s H fp, PE (cxB X N' sc cl C s H fp) elt te)
    (hs : ∀ x, foldedSetIterable iter X.env x = pure x)
    (use : Option (Value → Sem Unit)) {R : Value → Shared → Prop} {pins : List (Addr × Obj)} {s : Shared} {σ : St} {H : Hp} {Q : VK} (I : Inv X pins σ H s) (h : tComp wi ρ g tc te σ H Q)
    (hR : ∀ s' D C H', Inv X pins σ H' s' → Q (.ref D) H' → (∃ m, s'.heap.Ns C m) → FpOk X pins H' C → compPost (model X.prog X.w) X.A X.xe use R (.ref D) C (.ok .next) s') :
    wpAny (model X.prog X.w) X.A (comprehension (.ListComp elt [⟨tg, iter, ifs, 0⟩] sc pos) sc X.env cpos (newList []) false (eval iter X.env) use) R X.xe s := by
  obtain ⟨cl, hcl, hsub, hall⟩ := clos_of (sc := sc) (env := X.env) fun y hy hf => I.ok.has y.1 (S.free y hy hf)
  refine wpAny_comprehension_free rfl hs hcl S.kind S.names (thn (hi pins s σ H _ I h) fun v s1 h1 => thn h1 fun itv s2 h2 => ?_)
  obtain ⟨it, fp, tn, J, H2, e, I2, T, st2, f2, W, ⟨m0, w0⟩, turn⟩ := h2
  subst e
  refine wpAny_newList (items := []) ?_
  refine wpAny_newFunctionEnv S.nocell (by intro y hy; simp at hy) (fun h₁ hns hsb => ?_) S.kind
  dsimp only at hns hsb ⊢
  generalize hH2 : s2.heap.push { cls := .type "list", data := .seq ([] : List Value).toArray } = Hh at hns hsb ⊢
  have hCs : Hh.objs.size = s2.heap.objs.size + 1 := by rw [← hH2, Heap.size_push]
  generalize hD : s2.heap.objs.size = D at *
  generalize hCC : Hh.objs.size = C at *
  have hDC : D ≠ C := by omega
  have ltC : ∀ b : Nat, b < s2.heap.objs.size → b ≠ C ∧ b ≠ D ∧ b < D := fun b h => by omega
  have ltD : ∀ b : Nat, b < D → b ≠ C ∧ b ≠ D := fun b h => by omega
  have old : ∀ b o, s2.heap.get? b = some o → h₁.get? b = some o := fun b o e => hsb.extBut b o (ltC b (Heap.lt_size e)).1 (Heap.get?_push_of_some _ (by rw [← hH2]; exact Heap.get?_push_of_some _ e))
  have newD : h₁.get? D = some { cls := .type "list", data := .seq ([] : List Value).toArray } := hsb.extBut _ _ hDC (Heap.get?_push_of_some _ (by rw [← hH2, ← hD]; exact Heap.get?_push_size _ rfl))
  have ltb : ∀ b ∈ fp, b < D := fun b hb => by
    obtain ⟨o, e, _⟩ := T.obj _ _ st2 b hb
    exact (ltC b (Heap.lt_size e)).2.2
  have fD : FpOk X pins H2 D := I2.fpOk (by omega) (I2.hok.fresh (by omega))
  have fC : FpOk X pins H2 C := I2.fpOk (by omega) (I2.hok.fresh (by omega))
  have nst : ∀ b, b ≠ X.env.locals → b ∉ X.fs → b ∉ frs X.stack := fun b h1 h2 hb => by
    rcases List.mem_cons.mp (I2.stkSub b hb) with e | e
    · exact h1 e
    · exact h2 e
  -- the block's context is well
  have ok' : (cxB X N' sc cl C s2 H2 fp).Ok := by
    refine ⟨I2.ok.mod, S.kind, I2.ok.glob, I2.ok.blt, (by show s2.heap.objs.size ≤ C; omega), fun x y c e1 e2 => I2.ok.inj x y c (hsub _ _ e1) (hsub _ _ e2), fun x hx => ?_, fun x c z => (by cases z), I2.ok.hd, I2.ok.frames, .inl rfl,
      fun b hb => ⟨(ltD b (ltb b hb)).1, fun x c e => (f2 b hb).2.2.2.2.1 x c (hsub _ _ e)⟩, I2.bs, (by show X.base.objs.size ≤ s2.heap.objs.size; exact Nat.le_trans I2.ok.bsz I2.sz), fun b o e hb => ?_, fun b hb => nst b (f2 b hb).2.1 (f2 b hb).2.2.1, I2.stack, I2.stkFree⟩
    · have hx' : ∃ k', sc.names.lookup x = some k' ∧ (k' = .cell ∨ k' = .free) := by
        rcases hx with hx | hx
        · obtain ⟨k', e1, e2⟩ := lookup_relabel (env := X.env) (names := sc.names) hx
          rcases e2 with e2 | ⟨e2, _⟩
          · exact ⟨k', e1, .inl e2.symm⟩
          · exact ⟨k', e1, .inr e2⟩
        · obtain ⟨k', e1, e2⟩ := lookup_relabel (env := X.env) (names := sc.names) hx
          rcases e2 with e2 | ⟨e2, _⟩
          · exact ⟨k', e1, .inr e2.symm⟩
          · exact ⟨k', e1, .inr e2⟩
      obtain ⟨k', e1, e2⟩ := hx'
      have hm := lookup_mem e1
      rcases e2 with e2 | e2
      · exact absurd e2 (S.nocell _ hm)
      · subst e2; exact hall x hm
    · rcases (f2 b hb).2.2.2.1 with z | z
      · exact I2.ok.noex b o e z
      · exact absurd (Nat.lt_of_lt_of_le (Heap.lt_size e) (Nat.le_trans I2.ok.bsz z)) (Nat.lt_irrefl _)
  have pinOld : ∀ p ∈ X.pn ++ pins, p.1 < D := fun p hp => (ltC p.1 (Heap.lt_size (I2.pin p hp).1)).2.2
  have celOld : ∀ x c, cl.lookup x = some c → c < D := fun x c e => by
    obtain ⟨v, q⟩ := I2.cell x c (hsub _ _ e)
    exact (ltC c q.lt).2.2
  -- the state at the block's start
  have I' : ∀ tk, Inv (cxB X N' sc cl C s2 H2 fp) (pins ++ [(D, { cls := .type "list", data := .seq ([] : List Value).toArray })]) (pick ρ σ) H2 { s2 with heap := h₁, toks := tk } := fun tk => by
    refine ⟨ok', rfl, I2.bare, Un.kept old, ⟨_, hns, fun i x v e1 e2 e3 => ?_⟩, fun x c e => ?_, fC.1, fun x c e => I2.freeC x c (hsub _ _ e), fun p hp => ?_, I2.hok.kept old, ?_⟩
    · have e2' : ∃ j, ρ[i]? = some (some j) ∧ σ[j]? = some (some v) := by
        unfold pick at e2
        rw [List.getElem?_map] at e2
        cases hr : ρ[i]? with
        | none => rw [hr] at e2; cases e2
        | some o =>
          rw [hr] at e2
          cases o with
          | none => cases e2
          | some j =>
            refine ⟨j, rfl, ?_⟩
            have e2 : (σ[j]?).join = some v := Option.some.inj e2
            cases hq : σ[j]? with
            | none => rw [hq] at e2; cases e2
            | some o' => rw [hq] at e2; have e2 : o' = some v := e2
                         rw [e2]
      obtain ⟨j, hj, hv⟩ := e2'
      obtain ⟨y, ey, eN, ef⟩ := S.ix i j hj
      have e1' : N'[i]? = some x := e1
      rw [ey] at e1'; cases e1'
      obtain ⟨m, hn, hl⟩ := I2.loc
      have hm := lookup_mem ef
      have kX := S.free _ hm rfl
      obtain ⟨u, ru, lk⟩ := hl j x v eN hv (by rcases kX with k | k; exact .inr (.inl k); exact .inr (.inr k))
      refine ⟨u, ru, .inr ⟨?_, ?_⟩⟩
      · show (relabel sc X.env).names.lookup x = some .cell ∨ (relabel sc X.env).names.lookup x = some .free
        rcases e3 with e3 | e3 | e3
        · obtain ⟨k', q1, q2⟩ := lookup_relabel (env := X.env) (names := sc.names) e3
          rw [ef] at q1; cases q1
          rcases q2 with q2 | ⟨_, q2⟩ <;> cases q2
        · exact .inl e3
        · exact .inr e3
      · obtain ⟨c, hc'⟩ := hall x hm
        refine ⟨c, hc', ?_⟩
        rcases lk with ⟨k, _⟩ | ⟨_, c', ec, z⟩
        · rcases kX with k' | k' <;> (rw [k] at k'; cases k')
        · rw [hsub _ _ hc'] at ec; cases ec
          obtain ⟨o, ho, hd⟩ := z
          exact ⟨o, old _ _ ho, hd⟩
    · obtain ⟨v, o, ho, hd⟩ := I2.cell x c (hsub _ _ e)
      exact ⟨v, o, old _ _ ho, hd⟩
    · have hp' : p ∈ X.pn ++ pins ∨ p = (D, { cls := .type "list", data := .seq ([] : List Value).toArray }) := by
        rcases List.mem_append.mp hp with z | z
        · exact .inl (List.mem_append_left _ z)
        · rcases List.mem_append.mp z with z | z
          · exact .inl (List.mem_append_right _ z)
          · exact .inr (by simpa using z)
      rcases hp' with z | z
      · obtain ⟨q1, q2, q3, q4, q5⟩ := I2.pin p z
        exact ⟨old _ _ q1, q2, (ltD p.1 (pinOld p z)).1, nst _ q3 q4, q5⟩
      · subst z
        exact ⟨newD, fD.1, hDC, nst _ fD.2.1 fD.2.2.1, fun v z => by cases z⟩
    · show (pick ρ σ).length = N'.length
      unfold pick; rw [List.length_map]; exact S.len
  have stat : ∀ {H' : Hp} {o : Obj}, (∀ b ∈ fp, H' b = none) → ∀ b ∈ fp, FpOk (cxB X N' sc cl C s2 H2 fp) (pins ++ [(D, o)]) H' b := fun {H' o} hn b hb => by
    refine ⟨hn b hb, (ltD b (ltb b hb)).1, nst b (f2 b hb).2.1 (f2 b hb).2.2.1, .inl hb, fun x c e => (f2 b hb).2.2.2.2.1 x c (hsub _ _ e), fun p hp => ?_⟩
    rcases List.mem_append.mp hp with z | z
    · exact (f2 b hb).2.2.2.2.2 p (List.mem_append_left _ z)
    · rcases List.mem_append.mp z with z | z
      · exact (f2 b hb).2.2.2.2.2 p (List.mem_append_right _ z)
      · have e : p = (D, o) := by simpa using z
        subst e
        exact Ne.symm (ltD b (ltb b hb)).2
  have loop : ∀ tk, codeAny (model X.prog X.w) X.A (.compLoop (.ListComp elt [⟨tg, iter, ifs, 0⟩] sc pos) 0 (.ref it) (.ref D) (compEnvC sc cl C X.env)) (compPost (model X.prog X.w) X.A X.xe use R (.ref D) C) { s2 with heap := h₁, toks := tk } := fun tk => by
    refine compLoop_any (fun n s' => ∃ (i : Nat) (acc : List V) (its : List Value) (k : Nat) (H' : Hp), Inv (cxB X N' sc cl C s2 H2 fp) (pins ++ [(D, { cls := .type "list", data := .seq its.toArray k })]) (pick ρ σ) H' s' ∧ Vals acc its ∧ acc.length ≤ sizeLine ∧ tn i s'.heap ∧ (∀ b ∈ fp, H' b = none) ∧ W i n acc H')
      ?_ m0 ⟨0, [], [], 0, H2, I' tk, .nil, Nat.zero_le _, T.keep _ _ _ st2 fun b hb o e => old b o e, fun b hb => (f2 b hb).1, w0⟩
    rintro n s3 ⟨i, acc, its, k, H3, I3, va, hz0, st3, fr3, w3⟩
    rcases turn i n acc H3 w3 with ⟨stop, qn⟩ | ⟨go, hz, Nn, hN, step⟩
    · refine thn (T.done (cxB X N' sc cl C s2 H2 fp) rfl rfl rfl hcalm i _ s3 _ H3 (fun _ _ => False) I3 (stat fr3) st3 stop) fun r s4 ⟨hr, I4⟩ => ?_
      subst hr
      obtain ⟨p1, p2, p3, p4, p5⟩ := I4.pin (D, { cls := .type "list", data := .seq its.toArray k }) (by simp)
      have p1 : s4.heap.get? D = some { cls := .type "list", data := .seq its.toArray k } := p1
      have p2 : H3 D = none := p2
      have B := I4.base
      have upn : ∀ b o, H3 b = some o → upd H3 D (.lst acc) b = some o := fun b o e => by rw [upd_ne (ne_of_none e p2)]; exact e
      have IX : Inv X pins σ (upd H3 D (.lst acc)) s4 := by
        refine I2.call' (ch := fp) I4.os ⟨fun b o q1 q2 q3 q4 => B.keep b o q1 q2 q3 q4, fun b o q1 q2 q3 q4 => B.slot b o q1 q2 q3 q4, fun b o q1 q2 q3 => ?_, fun b o q1 q2 => B.there b o q1 q2,
          fun b xs q => upn _ _ (B.tups b xs q), fun b o u q => upn _ _ (B.frzs b o u q), fun b ps q => ?_⟩ (I4.hok.track p2 ⟨hz0, its, k, va, p1⟩) I4.bare fun b hb => ⟨(f2 b hb).2.2.2.1, (f2 b hb).2.1, (f2 b hb).2.2.2.2.1, (f2 b hb).2.2.2.2.2⟩
        · rw [upd_ne (ltC b (Heap.lt_size q1)).2.1]
          exact B.free b o q1 q2 q3
        · obtain ⟨more, q'⟩ := B.tbls b ps q
          exact ⟨more, upn _ _ q'⟩
      obtain ⟨m, hm, _⟩ := I4.loc
      refine hR s4 D C _ IX (qn D p2) ⟨m, hm⟩ (I2.fpOk (by omega) ?_)
      rw [upd_ne (Ne.symm hDC)]
      exact I4.free
    · refine thn (T.item (cxB X N' sc cl C s2 H2 fp) rfl rfl rfl hcalm i _ s3 _ H3 (fun _ _ => False) I3 (stat fr3) st3 go) fun r s4 ⟨u, hr, h4⟩ => ?_
      subst hr
      refine thn h4 fun _ s5 ⟨x, H5, I5, r5, y5, st5, fr5⟩ => ?_
      have I5' := I5.pinned (stat fr5) (T.obj _ _ st5)
      refine thn (hg cl C s2 H2 fp _ s5 _ H5 x u _ I5' r5 (gk _ _ _ _ (step x H5 y5))) fun _ s6 ⟨σ6, H6, I6, ⟨l6, k6⟩, q6⟩ => ?_
      refine thn (hc cl C s2 H2 fp _ s6 σ6 H6 _ I6 q6) fun ok s7 ⟨H7, I7, q7⟩ => ?_
      have wk : ∀ {pins' : List (Addr × Obj)} {H' : Hp} {s' : Shared}, Inv (cxB X N' sc cl C s2 H2 fp) pins' σ6 H' s' → Inv (cxB X N' sc cl C s2 H2 fp) pins' (pick ρ σ) H' s' := fun {pins' H' s'} J' =>
        J'.weak l6.symm fun j v e => by
          have : ∃ j', ρ[j]? = some (some j') := by
            unfold pick at e
            rw [List.getElem?_map] at e
            cases hr : ρ[j]? with
            | none => rw [hr] at e; cases e
            | some o =>
              rw [hr] at e
              cases o with
              | none => cases e
              | some j' => exact ⟨j', rfl⟩
          obtain ⟨j', hj'⟩ := this
          rw [k6 j j' hj']; exact e
      cases ok with
      | false =>
        have q7 : Nn acc H7 := by simpa using q7
        rw [if_neg Bool.false_ne_true]
        obtain ⟨m', hm, w7⟩ := hN acc H7 q7
        refine ⟨m', hm, i + 1, acc, its, k, H7, wk I7.unpinned, va, hz0, T.keep _ _ _ st5 fun b hb o e => (I7.pin (b, o) (List.mem_append_right _ (List.mem_append_right _ (mem_pinsAt hb e)))).1, fun b hb => ?_, w7⟩
        obtain ⟨o, e, d⟩ := T.obj _ _ st5 b hb
        exact (I7.pin (b, o) (List.mem_append_right _ (List.mem_append_right _ (mem_pinsAt hb e)))).2.1
      | true =>
        have q7 : te σ6 H7 fun y H4 => Nn (acc ++ [y]) H4 := by simpa using q7
        rw [if_pos rfl]
        refine thn (he cl C s2 H2 fp _ s7 σ6 H7 _ I7 q7) fun xv s8 ⟨y, H8, I8, r8, n8⟩ => ?_
        obtain ⟨p1, p2, p3, p4, p5⟩ := I8.pin (D, { cls := .type "list", data := .seq its.toArray k }) (by simp)
        have p1 : s8.heap.get? D = some { cls := .type "list", data := .seq its.toArray k } := p1
        have p2 : H8 D = none := p2
        refine wpAny_list_append_plain ⟨k, p1⟩ (fun h' pl sb => ?_) (by rw [List.size_toArray, ← va.length]; omega)
        obtain ⟨k', pl⟩ := pl
        obtain ⟨m', hm, w8⟩ := hN _ _ n8
        have Ia : Inv (cxB X N' sc cl C s2 H2 fp) pins σ6 H8 s8 := I8.unpinned.unpinned
        have Ib : Inv (cxB X N' sc cl C s2 H2 fp) pins σ6 H8 { s8 with heap := h' } := Ia.turned (t' := s8.toks) (it := D) (fun b o hb e => (sb.2 b hb).trans e) p2 hDC (.inr (by show s2.heap.objs.size ≤ D; omega)) (fun x c e => (ltD c (celOld x c e)).2) fun p hp => (ltD p.1 (pinOld p hp)).2
        have pl' : h'.get? D = some { cls := .type "list", data := .seq (its ++ [xv]).toArray k' } := by rw [pl]; simp
        have Ic : Inv (cxB X N' sc cl C s2 H2 fp) (pins ++ [(D, { cls := .type "list", data := .seq (its ++ [xv]).toArray k' })]) σ6 H8 { s8 with heap := h' } := Ib.pins_of fun p hp => by
          rcases List.mem_append.mp hp with z | z
          · exact Ib.pin p (List.mem_append_right _ z)
          · have e : p = (D, { cls := .type "list", data := .seq (its ++ [xv]).toArray k' }) := by simpa using z
            subst e
            exact ⟨pl', p2, p3, p4, fun v z => by cases z⟩
        refine ⟨m', hm, i + 1, acc ++ [y], its ++ [xv], k', H8, wk Ic, va.append (.cons r8 .nil), (by rw [List.length_append, List.length_singleton]; omega), T.keep _ _ _ st5 fun b hb o e => ?_, fun b hb => ?_, w8⟩
        · exact (sb.2 b (ltD b (ltb b hb)).2).trans (I8.pin (b, o) (List.mem_append_right _ (List.mem_append_right _ (mem_pinsAt hb e)))).1
        · obtain ⟨o, e, d⟩ := T.obj _ _ st5 b hb
          exact (I8.pin (b, o) (List.mem_append_right _ (List.mem_append_right _ (mem_pinsAt hb e)))).2.1
  refine codeAny_compStart_list (loop _) (T.self X.A 0 _ _ _ (T.keep _ _ _ st2 fun b hb o e => old b o e) (loop _))

theorem pe_comp (hcalm : X.calm = true) (S : CompSc X N' ρ sc) (hi : PI X tg iter wi)
    (hg : ∀ cl C s H fp, PG (cxB X N' sc cl C s H fp) tg g) (gk : GKeep ρ g) (hc : ∀ cl C s H fp, PTs (cxB X N' sc cl C s H fp) ifs tc) (he : ∀ cl C s H fp, PE (cxB X N' sc cl C s H fp) elt te)
    (hs : ∀ x, foldedSetIterable iter X.env x = pure x := by intro _; rfl) :
    PE X (.ListComp elt [⟨tg, iter, ifs, 0⟩] sc pos) (tComp wi ρ g tc te) := by
  intro pins s σ H Q I h
  rw [eval_ListComp]
  refine comp_main hcalm S hi hg gk hc he hs none I h fun s' D C H' I' q ⟨m, hm⟩ f => ⟨m, hm, fun h' sb => ?_⟩
  exact ⟨.ref D, H', I'.turned (t' := s'.toks) (it := C) (fun b o hb e => (sb.2 b hb).trans e) f.1 f.2.1 f.2.2.2.1 f.2.2.2.2.1 f.2.2.2.2.2, rfl, q⟩

theorem ps_setC {i : Nat} {x : Str} {px : Pos} (hcalm : X.calm = true) (hN : X.N.Nodup) (hix : X.N[i]? = some x) (hx : Loc X.env.scope x) (S : CompSc X N' ρ sc) (hi : PI X tg iter wi)
    (hg : ∀ cl C s H fp, PG (cxB X N' sc cl C s H fp) tg g) (gk : GKeep ρ g) (hc : ∀ cl C s H fp, PTs (cxB X N' sc cl C s H fp) ifs tc) (he : ∀ cl C s H fp, PE (cxB X N' sc cl C s H fp) elt te)
    (hsw : swapsWith (.ListComp elt [⟨tg, iter, ifs, 0⟩] sc pos) (some (.Name x px)) cpos.line X.env = pure true := by rfl)
    (hs : ∀ x, foldedSetIterable iter X.env x = pure x := by intro _; rfl)
    (hf : X.fn x = true ∨ X.env.scope.names.lookup x = some .local := by first | exact .inl rfl | exact .inr rfl | assumption) :
    PS X (.Assign [.Name x px] (.ListComp elt [⟨tg, iter, ifs, 0⟩] sc pos) cpos) (tAsg (tComp wi ρ g tc te) (gName i)) := by
  intro pins s σ H D I h
  rw [exec_Assign_Name_used _ _ _ _ hsw]
  refine wpAny_bind (wpAny_standAt (wpAny_bind ?_))
  show wpAny _ X.A (do let _ ← comprehension (.ListComp elt [⟨tg, iter, ifs, 0⟩] sc pos) sc X.env _ (newList []) false (eval iter X.env) (some (assign (.Name x px) X.env))) _ _ s
  refine wpAny_bind (thn (comp_main (Q := fun y H1 => D.nx (σ.set i (some y)) H1) (R := fun _ s' => SP X pins D .next s') hcalm S hi hg gk hc he hs (some (assign (.Name x px) X.env)) I h fun s' Da C H' I' q ⟨m, hm⟩ f => ?_) fun _ s' hq => wpAny_pure (wpAny_pure hq))
  show wpAny _ X.A (assign (.Name x px) X.env (.ref Da)) _ _ _
  refine wpAny_assign_Name (store_ok2 I' hN hix hx (v := .ref Da) rfl (fun s2 I2 ⟨a, sb, ha⟩ => ⟨m, hm.sameBut sb ?_, fun h' sb2 => ?_⟩) hf)
  · rcases ha with e | e
    · subst e; exact f.2.1
    · exact fun z => f.2.2.2.2.1 x a e z.symm
  · exact ⟨_, H', I2.turned (t' := s2.toks) (it := C) (fun b o hb e => (sb2.2 b hb).trans e) f.1 f.2.1 f.2.2.2.1 f.2.2.2.2.1 f.2.2.2.2.2, q⟩
end

/-! ### sources of a known content -/
structure It.Of (J : It) (Ok : Hp → Prop) (xs : List V) : Prop where
  go : ∀ i H, Ok H → i < xs.length → J.go i H
  yld : ∀ i H x H', Ok H → i < xs.length → J.yld i H x H' → H' = H ∧ xs[i]? = some x
  stop : ∀ H, Ok H → J.stop xs.length H
theorem of_list {K : PySem.W.Frag} {a : Addr} {xs : List V} : (Itl K a).Of (fun H => SqL K H a xs) xs :=
  ⟨fun i H h hi => ⟨xs, xs[i], h, by simp [hi]⟩, fun i H x H' h _ y => ⟨y.1, y.2 xs h⟩, fun H h => ⟨xs, h, Nat.le_refl _⟩⟩
theorem of_tup {K : PySem.W.Frag} {a : Addr} {xs : List V} : (Itt K a).Of (fun H => SqT K H a xs) xs :=
  ⟨fun i H h hi => ⟨xs, xs[i], h, by simp [hi]⟩, fun i H x H' h _ y => ⟨y.1, y.2 xs h⟩, fun H h => ⟨xs, h, Nat.le_refl _⟩⟩
def rngV (lo : Int) (n : Nat) : List V := (List.range n).map fun i => V.int (lo + (i : Nat))
theorem rngV_len (lo : Int) (n : Nat) : (rngV lo n).length = n := by simp [rngV]
theorem rngV_get {lo : Int} {n i : Nat} (h : i < n) : (rngV lo n)[i]? = some (.int (lo + i)) := by simp [rngV, h]
theorem of_range {lo : Int} {n : Nat} : (Itr lo n).Of (fun _ => True) (rngV lo n) :=
  ⟨fun i H _ hi => by rw [rngV_len] at hi; exact hi, fun i H x H' _ hi y => ⟨y.1, by rw [rngV_len] at hi; rw [y.2]; exact rngV_get hi⟩, fun H _ => by rw [rngV_len]; exact Nat.le_refl _⟩
theorem for_of {J : It} {Ok : Hp → Prop} {xs : List V} (O : J.Of Ok xs) {g : TG} {tb : TS} {D : Ends} {σ : St} {H : Hp} (Pv : Nat → St → Hp → Prop) (h0 : Pv 0 σ H) (hl : ∀ i σ H, i ≤ xs.length → Pv i σ H → Ok H)
    (hs : ∀ i x σ H, xs[i]? = some x → Pv i σ H → g x σ H fun σ2 H2 => tb { D with nx := Pv (i + 1), ct := Pv (i + 1), bk := D.nx } σ2 H2) (hd : ∀ σ H, Pv xs.length σ H → D.nx σ H) :
    ∃ W : Nat → Nat → St → Hp → Prop, (∃ m, W 0 m σ H) ∧ ∀ i m σ H, W i m σ H →
      (J.stop i H ∧ D.nx σ H) ∨ (J.go i H ∧ ∃ N : St → Hp → Prop, (∀ σ' H', N σ' H' → ∃ m', m' < m ∧ W (i + 1) m' σ' H') ∧ ∀ x H', J.yld i H x H' → g x σ H' fun σ2 H2 => tb { D with nx := N, ct := N, bk := D.nx } σ2 H2) := by
  refine ⟨fun i m σ H => m = xs.length - i ∧ i ≤ xs.length ∧ Pv i σ H, ⟨xs.length, by simp, Nat.zero_le _, h0⟩, ?_⟩
  rintro i m σ H ⟨rfl, hi, p⟩
  have q := hl i σ H hi p
  by_cases hlt : i < xs.length
  · refine .inr ⟨O.go i H q hlt, Pv (i + 1), fun σ' H' p' => ⟨xs.length - (i + 1), by omega, rfl, hlt, p'⟩, fun x H' y => ?_⟩
    obtain ⟨e, y'⟩ := O.yld i H x H' q hlt y
    subst e
    exact hs i x σ _ y' p
  · have e : i = xs.length := by omega
    subst e
    exact .inl ⟨O.stop H q, hd σ H p⟩
theorem comp_of {J : It} {Ok : Hp → Prop} {xs : List V} (O : J.Of Ok xs) {ρ : List (Option Nat)} {g : TG} {tc : TT} {te : TE} {σ : St} {H : Hp} {Q : VK} (Pv : Nat → List V → Hp → Prop) (hz : xs.length ≤ sizeLine) (h0 : Pv 0 [] H)
    (hl : ∀ i acc H, i ≤ xs.length → Pv i acc H → Ok H ∧ acc.length ≤ i)
    (hs : ∀ i x acc H, xs[i]? = some x → Pv i acc H → g x (pick ρ σ) H fun σ2 H2 => tc σ2 H2 fun b H3 => if b = true then te σ2 H3 fun y H4 => Pv (i + 1) (acc ++ [y]) H4 else Pv (i + 1) acc H3)
    (hd : ∀ acc H, Pv xs.length acc H → ∀ p, H p = none → Q (.ref p) (upd H p (.lst acc))) :
    CompG J ρ g tc te σ H Q := by
  refine ⟨fun i m acc H => m = xs.length - i ∧ i ≤ xs.length ∧ Pv i acc H, ⟨xs.length, by simp, Nat.zero_le _, h0⟩, ?_⟩
  rintro i m acc H ⟨rfl, hi, p⟩
  obtain ⟨q, ql⟩ := hl i acc H hi p
  by_cases hlt : i < xs.length
  · refine .inr ⟨O.go i H q hlt, by omega, Pv (i + 1), fun σ' H' p' => ⟨xs.length - (i + 1), by omega, rfl, hlt, p'⟩, fun x H' y => ?_⟩
    obtain ⟨e, y'⟩ := O.yld i H x H' q hlt y
    subst e
    exact hs i x acc _ y' p
  · have e : i = xs.length := by omega
    subst e
    exact .inl ⟨O.stop H q, hd acc H p⟩
/-- nothing is made but the list itself -/
theorem comp_pure {J : It} {Ok : Hp → Prop} {xs : List V} (O : J.Of Ok xs) {ρ : List (Option Nat)} {g : TG} {tc : TT} {te : TE} {σ : St} {H : Hp} {Q : VK} (p : V → Bool) (f : V → V) (hz : xs.length ≤ sizeLine) (hOk : Ok H)
    (hs : ∀ x ∈ xs, ∀ (acc : List V) (N : List V → Hp → Prop), (p x = true → N (acc ++ [f x]) H) → (p x = false → N acc H) →
      g x (pick ρ σ) H fun σ2 H2 => tc σ2 H2 fun b H3 => if b = true then te σ2 H3 fun y H4 => N (acc ++ [y]) H4 else N acc H3)
    (hd : ∀ q, H q = none → Q (.ref q) (upd H q (.lst ((xs.filter p).map f)))) :
    CompG J ρ g tc te σ H Q := by
  refine comp_of O (fun i acc H' => H' = H ∧ acc = ((xs.take i).filter p).map f) hz ⟨rfl, by simp⟩ (fun i acc H' hi ⟨e, e2⟩ => ?_) (fun i x acc H' hx ⟨e, e2⟩ => ?_) (fun acc H' ⟨e, e2⟩ => ?_)
  · subst e e2
    refine ⟨hOk, ?_⟩
    rw [List.length_map]
    exact Nat.le_trans (List.length_filter_le _ _) (by rw [List.length_take]; omega)
  · subst e e2
    have hm : x ∈ xs := List.mem_of_getElem? hx
    have tk : xs.take (i + 1) = xs.take i ++ [x] := by rw [List.take_add_one, hx]; rfl
    refine hs x hm _ (fun acc' H4 => H4 = H' ∧ acc' = ((xs.take (i + 1)).filter p).map f) (fun hp => ⟨rfl, ?_⟩) (fun hp => ⟨rfl, ?_⟩)
    · rw [tk, List.filter_append]; simp [hp]
    · rw [tk, List.filter_append]; simp [hp]
  · subst e e2
    rw [List.take_length]
    exact hd
end L2

set_option Elab.async false
set_option linter.all false
set_option maxRecDepth 100000
set_option maxHeartbeats 4000000
namespace L2
open PySem PySem.Spec PyProof.Rows

/-! ### a text's sgns -/
def sgn (c : Nat) : V := .str ⟨#[c]⟩
def sgns (x : Str) : List V := x.cps.toList.map sgn
theorem sgns_len (x : Str) : (sgns x).length = x.length := by simp [sgns, Str.length]
def Its (x : Str) : It := ⟨fun i _ => i < x.length, fun i H y H' => H' = H ∧ (sgns x)[i]? = some y, fun i _ => i = x.length⟩
theorem of_str {x : Str} : (Its x).Of (fun _ => True) (sgns x) :=
  ⟨fun i H _ hi => by rw [sgns_len] at hi; exact hi, fun i H y H' _ _ h => h, fun H _ => sgns_len x⟩
theorem turn_str {P : Program} {w : World} {K : PySem.W.Frag} {tg : Expr} (it : Addr) (x : Str) (t : Tok) (ty : String)
    (hty : ["enumerate", "zip", "dict_itemiterator", "dict_reverseitemiterator", "odict_iterator", "itertools.zip_longest", "itertools.pairwise"].contains ty = false)
    (W : ∀ A' : Around, A'.handled = none → Walks P w A' it [it] [it] x.cps.size (SignAt x) (fun i h => h.IsStrIter it ty x t i))
    (sf : ∀ (A : Around) (i : Nat) (s : Shared) (Q : Value → Shared → Prop) (E : Value → Shared → Prop), s.heap.IsStrIter it ty x t i → Q (.ref it) s → wpAny (model P w) A (pyIter (.ref it)) Q E s) :
    Turn P w K tg (Its x) [it] it (fun i h => h.IsStrIter it ty x t i) where
  mem := by simp
  obj := fun i h st b hb => by
    have e : b = it := by simpa using hb
    subst e
    obtain ⟨o, e, c, d⟩ := st
    exact ⟨o, e, fun v z => by rw [d] at z; cases z⟩
  keep := fun i h h' st k => let ⟨o, ho, r⟩ := st; ⟨o, k it (by simp) o ho, r⟩
  item := by
    intro X hP hw hK hc i pins s σ H E I hf st hg
    subst hP hw hK
    obtain ⟨f0, f1, f2, f3, f4, f5⟩ := hf it (by simp)
    refine (W X.A (I.ok.hd hc)).item i s _ _ hg st fun v h' tk hv st' kk => ?_
    obtain ⟨c, u, e, rfl⟩ := hv
    have I1 : Inv X pins σ H { s with heap := h', toks := tk } := I.turned (fun b o hb e => kk b o (by simpa using hb) e) f0 f1 f3 f4 f5
    obtain ⟨o, e', c', d'⟩ := id st'
    refine ⟨_, rfl, go_of (s := { s with heap := h', toks := tk }) e' c' d' hty ⟨sgn c, H, I1, ⟨u, rfl⟩, ⟨rfl, ?_⟩, st', fun b hb => (hf b hb).1⟩⟩
    unfold sgns
    rw [List.getElem?_map, Array.getElem?_toList, e]
    rfl
  done := by
    intro X hP hw hK hc i pins s σ H E I hf st hg
    subst hP hw hK
    obtain ⟨f0, f1, f2, f3, f4, f5⟩ := hf it (by simp)
    have hg : i = x.length := hg
    subst hg
    exact (W X.A (I.ok.hd hc)).done s _ _ st fun h' tk kk => ⟨rfl, I.turned (fun b o hb e => kk b o (by simpa using hb) e) f0 f1 f3 f4 f5⟩
  self := sf
section
variable {X : Cx} {tg : Expr}
def iStr (tl : TE) : TI := fun σ H R => tl σ H fun x H1 => ∃ z, x = .str z ∧ R (Its z) H1
theorem pi_str {l : Expr} {tl : TE} (hl : PE X l tl) : PI X tg l (iStr tl) := by
  intro pins s σ H R I h
  refine thn (hl pins s σ H _ I h) fun v s1 ⟨x, H1, I1, r1, q1⟩ => ?_
  obtain ⟨z, e, q⟩ := q1
  subst e
  obtain ⟨t, rfl⟩ := r1
  cases ha : z.cps.all (· < 128)
  · refine wpAny_pyIter_wide ha ?_
    refine ⟨s1.heap.objs.size, [s1.heap.objs.size], _, Its z, H1, rfl, I1.kept (t' := s1.toks) fun b o e => Heap.get?_push_of_some _ e, turn_str _ z t "str_iterator" (by decide) (fun A' hA => Walks.strWide hA _ z t) (fun _ _ _ _ _ st hQ => wpAny_pyIter_striter_wide st hQ), ⟨_, Heap.get?_push_size _ rfl, rfl, rfl⟩, fun b hb => ?_, q⟩
    have e : b = s1.heap.objs.size := by simpa using hb
    subst e
    exact I1.fpOk (Nat.le_refl _) (I1.hok.fresh (Nat.le_refl _))
  · refine wpAny_pyIter_ascii ha ?_
    refine ⟨s1.heap.objs.size, [s1.heap.objs.size], _, Its z, H1, rfl, I1.kept (t' := s1.toks) fun b o e => Heap.get?_push_of_some _ e, turn_str _ z t "str_ascii_iterator" (by decide) (fun A' hA => Walks.strAscii hA _ z t) (fun _ _ _ _ _ st hQ => wpAny_pyIter_striter_ascii st hQ), ⟨_, Heap.get?_push_size _ rfl, rfl, rfl⟩, fun b hb => ?_, q⟩
    have e : b = s1.heap.objs.size := by simpa using hb
    subst e
    exact I1.fpOk (Nat.le_refl _) (I1.hok.fresh (Nat.le_refl _))

/-! ### all, any of a list of truths -/
theorem vals_bl : ∀ {bs : List Bool} {us : List Value}, Vals (bs.map V.bl) us → us = bs.map Value.bool
  | [], _, .nil => rfl
  | b :: r, _, .cons q t => by rw [vals_bl t, show _ = Value.bool b from q]; rfl
theorem range_all (bs : List Bool) : (List.range bs.length).all (fun i => bs.getD i false) = bs.all id := by
  induction bs with
  | nil => rfl
  | cons b r ih =>
    rw [List.length_cons, List.range_succ_eq_map, List.all_cons, List.all_map, List.all_cons]
    congr 1
theorem range_any (bs : List Bool) : (List.range bs.length).any (fun i => bs.getD i false) = bs.any id := by
  induction bs with
  | nil => rfl
  | cons b r ih =>
    rw [List.length_cons, List.range_succ_eq_map, List.any_cons, List.any_map, List.any_cons]
    congr 1
def rAll (K : PySem.W.Frag) (f : List Bool → Bool) : List V → Hp → VK → Prop := fun xs H Q => ∃ a bs, xs = [.ref a] ∧ SqL K H a (bs.map V.bl) ∧ Q (.bl (f bs)) H
theorem truth_bs {P : Program} {w : World} {A : Around} (bs : List Bool) : TruthOf P w A (fun i v => (bs.map Value.bool).toArray[i]? = some v) (fun i => bs.getD i false) := by
  intro i v s Q E hv hq
  have : v = .bool (bs.getD i false) := by
    rw [List.getElem?_toArray, List.getElem?_map] at hv
    cases hb : bs[i]? with
    | none => rw [hb] at hv; cases hv
    | some b =>
      rw [hb] at hv
      rw [List.getD_eq_getElem?_getD, hb]
      exact (Option.some.inj hv).symm
  subst this
  exact wpAny_truthy_bool hq
theorem call_all (hc : X.calm = true) : CallR X (.builtin "all") (rAll X.K (·.all id)) := by
  intro pins s σ H xs us Q I r h
  obtain ⟨a, bs, rfl, hq, q⟩ := h
  obtain ⟨u, rfl, ru⟩ := vals1 r
  cases ru
  obtain ⟨its, rv, p, hz⟩ := I.list hq
  have e := vals_bl rv
  subst e
  have hlt : a < s.heap.objs.size := by obtain ⟨o, n, e, _⟩ := p; exact Heap.lt_size e
  refine call_all_walk (wpAny_pyIter_list p.isList ⟨_, _, _, _, _, _, fun i => bs.getD i false, rfl, Walks.list (A := X.A.in1) (I.ok.hd hc) _ a (Nat.ne_of_lt hlt) (bs.map Value.bool).toArray, ⟨⟨_, Heap.get?_push_size _ rfl, rfl, rfl⟩, (p.keeps fun b o e => Heap.get?_push_of_some _ e).isList⟩, truth_bs bs, fun h' tk kk => ?_⟩)
  refine ⟨.bl (bs.all id), H, I.kept fun b o e => kk b o (by simpa using Nat.ne_of_lt (Heap.lt_size e)) (Heap.get?_push_of_some _ e), ?_, q⟩
  show Value.bool _ = Value.bool _
  rw [← range_all]
  simp
theorem call_any (hc : X.calm = true) : CallR X (.builtin "any") (rAll X.K (·.any id)) := by
  intro pins s σ H xs us Q I r h
  obtain ⟨a, bs, rfl, hq, q⟩ := h
  obtain ⟨u, rfl, ru⟩ := vals1 r
  cases ru
  obtain ⟨its, rv, p, hz⟩ := I.list hq
  have e := vals_bl rv
  subst e
  have hlt : a < s.heap.objs.size := by obtain ⟨o, n, e, _⟩ := p; exact Heap.lt_size e
  refine call_any_walk (wpAny_pyIter_list p.isList ⟨_, _, _, _, _, _, fun i => bs.getD i false, rfl, Walks.list (A := X.A.in1) (I.ok.hd hc) _ a (Nat.ne_of_lt hlt) (bs.map Value.bool).toArray, ⟨⟨_, Heap.get?_push_size _ rfl, rfl, rfl⟩, (p.keeps fun b o e => Heap.get?_push_of_some _ e).isList⟩, truth_bs bs, fun h' tk kk => ?_⟩)
  refine ⟨.bl (bs.any id), H, I.kept fun b o e => kk b o (by simpa using Nat.ne_of_lt (Heap.lt_size e)) (Heap.get?_push_of_some _ e), ?_, q⟩
  show Value.bool _ = Value.bool _
  rw [← range_any]
  simp

/-! ### texts: greater, a part, one sign within -/
theorem op_gt_str : OpR X (compareOp .Gt) (fun x y H Q => ∃ i j, x = .str i ∧ y = .str j ∧ Q (.bl (decide (j.cps.toList < i.cps.toList))) H) := by
  intro pins s σ H x y v u Q I rx ry h
  obtain ⟨i, j, rfl, rfl, q⟩ := h
  obtain ⟨t, rfl⟩ := rx
  obtain ⟨t', rfl⟩ := ry
  exact PySem.P.gt_str (fin_bl I q rfl)
def cutS (x : Str) (lo hi : Option Int) : Str := ⟨((x.cps.toList.drop (HT.sIx x.length 0 lo)).take (HT.sIx x.length x.length hi - HT.sIx x.length 0 lo)).toArray⟩
theorem cutS_list (x : Str) (lo hi : Option Int) : (cutS x lo hi).cps.toList = (x.cps.toList.drop (HT.sIx x.length 0 lo)).take (HT.sIx x.length x.length hi - HT.sIx x.length 0 lo) := by simp [cutS]
theorem slice_ix (lo hi : Option Int) (n : Nat) : Builtin.Str.strSliceIndices lo hi 1 n = (List.range (HT.sIx n n hi - HT.sIx n 0 lo)).map (fun k => HT.sIx n 0 lo + k) := by
  have h1 : ∀ (v : Option Int) (d : Nat), d ≤ n → (match v with | none => (d : Int) | some i => max 0 (min (if i < 0 then i + (n : Int) else i) (n : Int))) = ((HT.sIx n d v : Nat) : Int) := by
    intro v d hd
    cases v with
    | none => rfl
    | some i =>
      show max 0 (min (if i < 0 then i + (n : Int) else i) (n : Int)) = (((if i < 0 then (i + (n : Int)).toNat else min i.toNat n) : Nat) : Int)
      by_cases hv : i < 0
      · simp only [if_pos hv]; omega
      · simp only [if_neg hv]; omega
  have fin : ∀ (p q : Int) (a b : Nat), p = (a : Int) → q = (b : Int) → sliceRange p q 1 = (List.range (b - a)).map (fun k => a + k) := by
    intro p q a b e1 e2
    subst e1 e2
    unfold sliceRange
    simp only [show ((1 : Int) > 0) = True from by simp, if_true]
    by_cases hlt : (a : Int) < b
    · have e3 : (((b : Int) - a + 1 - 1) / 1).toNat = b - a := by first | omega | (simp; done) | (simp; omega)
      simp only [hlt, if_true, e3]
      refine List.map_congr_left fun k _ => ?_
      omega
    · have : b - a = 0 := by omega
      simp [hlt, this]
  unfold Builtin.Str.strSliceIndices
  refine fin _ _ _ _ ?_ ?_
  · have := h1 lo 0 (Nat.zero_le _)
    cases lo with
    | none => exact this
    | some i => exact this
  · have := h1 hi n (Nat.le_refl _)
    cases hi with
    | none => exact this
    | some i => exact this
theorem slice_cut (x : Str) (lo hi : Option Int) : Txt.slice x lo hi = cutS x lo hi := by
  have hle : HT.sIx x.length x.length hi ≤ x.length := HT.sIx_le _ _ (Nat.le_refl _) hi
  have ha : HT.sIx x.length 0 lo ≤ x.length := HT.sIx_le _ _ (Nat.zero_le _) lo
  unfold Txt.slice cutS
  rw [slice_ix]
  generalize HT.sIx x.length 0 lo = a at *
  generalize HT.sIx x.length x.length hi = b at *
  have hp : ((List.range (b - a)).map (fun k => a + k)).filterMap (fun i => x.cps[i]?) = (x.cps.toList.drop a).take (b - a) := by
    have h := StrLaws.picks x.cps.toList (b - a) a (by simp [Str.length] at hle ha ⊢; omega)
    simpa using h
  split
  · rename_i h
    simp only [List.length_map, List.length_range, beq_self_eq_true, Bool.true_and, beq_iff_eq] at h
    have e : a = 0 ∨ x.length = 0 := by omega
    have e2 : (x.cps.toList.drop a).take (b - a) = x.cps.toList := by
      rw [h]
      rcases e with e | e
      · subst e
        rw [List.drop_zero]
        exact List.take_of_length_le (by simp [Str.length])
      · have : x.cps.toList = [] := List.eq_nil_of_length_eq_zero (by simpa [Str.length] using e)
        rw [this]; simp
    rw [e2]
  · rw [hp]
def rSlS : V → Option Int → Option Int → Hp → VK → Prop := fun x lo hi H Q => ∃ z, x = .str z ∧ z.length ≤ sizeLine ∧ Q (.str (cutS z lo hi)) H
theorem sl_str : SlR X rSlS := by
  intro pins s σ H x v vl vu lo hi sl Q I rx hs pl pu h
  obtain ⟨z, rfl, hz, q⟩ := h
  obtain ⟨t, rfl⟩ := rx
  have fin : ∀ (l u : Option (Int × Tok)), vl = partValue l → vu = partValue u → lo = l.map (·.1) → hi = u.map (·.1) →
      wpAny (model X.prog X.w) X.A (getItem (.str z t) (.ref sl)) (EP X pins σ Q) X.xe s := by
    intro l u e1 e2 e3 e4
    subst e1 e2 e3 e4
    refine wpAny_getItem_str_slice (l := l) (u := u) (st := none) hs rfl ?_
    refine post_val_or_str ⟨Nat.le_trans (Txt.slice_le z _ _) hz, fun t' k => ?_⟩
    refine ⟨.str (cutS z _ _), H, I.tok k, ⟨t', ?_⟩, q⟩
    show Value.str (Txt.slice z _ _) t' = _
    rw [slice_cut]
  refine ⟨"str", _, F.slot_str_getitem.lookup, typeIs_str _ _ _, ?_⟩
  cases pl with
  | none => cases pu with
    | none => exact fin none none rfl rfl rfl rfl
    | int j tj => exact fin none (some (j, tj)) rfl rfl rfl rfl
  | int i ti => cases pu with
    | none => exact fin (some (i, ti)) none rfl rfl rfl rfl
    | int j tj => exact fin (some (i, ti)) (some (j, tj)) rfl rfl rfl rfl
def rInS (neg : Bool) : R2 := fun x y H Q => ∃ c z, x = sgn c ∧ y = .str z ∧ Q (.bl (if neg then !decide (c ∈ z.cps.toList) else decide (c ∈ z.cps.toList))) H
theorem op_in1 : OpR X (compareOp .In) (rInS false) := by
  intro pins s σ H x y v u Q I rx ry h
  obtain ⟨c, z, rfl, rfl, q⟩ := h
  refine op_in_str pins s σ H _ _ v u Q I rx ry ⟨_, z, rfl, rfl, ?_⟩
  rw [StrLaws.found_one]; exact q

/-! ### isinstance, one built-in type -/
def rIsT (K : PySem.W.Frag) : List V → Hp → VK → Prop := fun xs H Q => ∃ x t T b, xs = [x, .ty T] ∧ TyOf K H x t ∧ PySem.W.kitOne K t (.type T) = some b ∧ Q (.bl b) H
theorem call_isT : CallR X (.builtin "isinstance") (rIsT X.K) := by
  intro pins s σ H xs us Q I r h
  obtain ⟨x, t, T, b, rfl, ty, e, q⟩ := h
  obtain ⟨u, w', rfl, rx, rt⟩ := vals2 r
  cases (show w' = Value.type T from rt)
  exact isinst_ok I rx ty e fun tk => ⟨.bl b, H, I.tok tk, rfl, q⟩
end
end L2

set_option Elab.async false
set_option linter.all false
set_option maxRecDepth 100000
set_option maxHeartbeats 4000000
namespace L2
open PySem PySem.Spec PyProof.Rows

/-! ### short words -/
def compOk (osc : Scope) (N N' : List Str) (ρ : List (Option Nat)) (sc : Scope) : Bool :=
  sc.names.all (fun y => !(decide (y.2 = .cell))) && sc.names.all (fun y => !(decide (y.2 = .local)) || decide (sc.names.lookup y.1 = some .local)) &&
  sc.names.all (fun y => !(decide (y.2 = .free)) || (decide (osc.names.lookup y.1 = some .cell) || decide (osc.names.lookup y.1 = some .free))) &&
  decide (ρ.length = N'.length) && (List.range ρ.length).all fun i => match ρ[i]? with
    | some (some j) => (match N'[i]? with | some x => decide (N[j]? = some x) && decide (sc.names.lookup x = some .free) | none => false)
    | _ => true
theorem CompSc.of {X : Cx} {N' : List Str} {ρ : List (Option Nat)} {sc : Scope} (hk : sc.kind = .function) (h : compOk X.env.scope X.N N' ρ sc = true) : CompSc X N' ρ sc := by
  unfold compOk at h
  simp only [Bool.and_eq_true, List.all_eq_true, Bool.or_eq_true, Bool.not_eq_true', decide_eq_true_eq, decide_eq_false_iff_not] at h
  obtain ⟨⟨⟨⟨h1, h2⟩, h3⟩, h4⟩, h5⟩ := h
  refine ⟨hk, fun y hy => h1 y hy, fun y hy e => (h2 y hy).resolve_left (fun z => z e), fun y hy e => (h3 y hy).resolve_left (fun z => z e), h4, fun i j e => ?_⟩
  have hi : i < ρ.length := (List.getElem?_eq_some_iff.mp e).1
  have q := h5 i (List.mem_range.mpr hi)
  rw [e] at q
  cases hN : N'[i]? with
  | none => rw [hN] at q; cases q
  | some x =>
    rw [hN] at q
    simp only [Bool.and_eq_true, decide_eq_true_eq] at q
    exact ⟨x, rfl, q.1, q.2⟩

/-- a def of the text, by its name -/
structure Cal (P : Program) (w : World) (K : PySem.W.Frag) (mg : Str → Option Value) (base : Heap) (CX : CXT) (k : Nat) (x : Str) (ps : List Str) (sp : Sp) : Prop where
  ex : ∃ (f : Addr) (fd : FuncData), mg x = some (.ref f) ∧ PySem.W.keepIn K (.ref f) = true ∧ Binds K fd ps [] ∧ FnOk P w K mg base CX k f fd ps sp
theorem pe_cal {X : Cx} {CX : CXT} {k : Nat} {x : Str} {ps : List Str} {sp : Sp} {E : XK} {e : Expr} {es : List Expr} {t : TA} {p pos : Pos} (C : Cal X.prog X.w X.K X.mg X.base CX k x ps sp) (hr : Room k X.A) (hg : Gl X x) (hx : Passes CX X E)
    (ha : PA X (e :: es) t) (hdb : (x == ("__debug__" : Str)) = false := by decide) (he : starEach (e :: es) X.env = (false, eval e X.env) :: starEach es X.env := by rfl) (hpl : (backTo pos (starEach es X.env)).any (·.1) = false := by rfl) :
    PE X (.Call (.Name x p) (e :: es) [] pos) (tCall sp [] E t) := by
  obtain ⟨f, fd, hm, hk, hb, F⟩ := C.ex
  exact pe_call F hr hg hm hk hb .nil hx ha hdb he hpl
/-- a built-in type's name -/
theorem pe_ty {X : Cx} {x : Str} {T : String} {pos : Pos} (hg : Gl X x) (hm : X.mg x = none) (hv : bootBuiltins x = some (.type T)) (hn : x ≠ "__name__" := by decide) (hd : (x == ("__debug__" : Str)) = false := by decide) : PE X (.Name x pos) (tC (.ty T)) :=
  pe_bltn hg hm hv rfl hn hd

/-! ### a def of the text behind the top -/
structure FnD (K : PySem.W.Frag) (mg : Str → Option Value) (x : Str) (st : Stmt) (ps : List Str) : Prop where
  ex : ∃ (f : Addr) (fd : FuncData), mg x = some (.ref f) ∧ PySem.W.keepIn K (.ref f) = true ∧ Binds K fd ps [] ∧ (∀ (s : Shared) (us : List Value), us.length = ps.length → BindsTo s fd ⟨us, []⟩ (ps.zip us)) ∧ Fun K x x st f fd
theorem fnD_mk {K : PySem.W.Frag} {h : Heap} {mg : Str → Option Value} {x : Str} {st : Stmt} {ps : List Str} {f : Addr} {oc : Value} {od an : Option Addr} {osl : Array (Option Value)} {kV doc pm cdv ct : Value} (X : K.In h) (G : h.Ns mainGlobals mg)
    (hb : ∀ (kV doc pm : Value) (an : Option Addr) (cdv ct : Value) (us : List Value), us.length = ps.length → bindArgs (PySem.W.fnOf x x (defArgs st) (defBody st) (defScope st) .none kV doc pm an cdv ct) ⟨us, []⟩ = pure (ps.zip us))
    (a : PySem.W.nsIn K mainGlobals x = some (some (.ref f))) (l : K.lookup f = some ⟨oc, od, .func (PySem.W.fnOf x x (defArgs st) (defBody st) (defScope st) .none kV doc pm an cdv ct), osl⟩)
    (c : PySem.W.codeIn K cdv x = true) (k : PySem.W.keepIn K (.ref f) = true) : FnD K mg x st ps := by
  have F := fun_mk (st := st) l c k
  exact ⟨f, _, PySem.W.mg_of X G a, k, F.binds hb, fun s us hl => .of_eq (hb kV doc pm an cdv ct us hl), F⟩
theorem FnD.cal {P : Program} {w : World} {K : PySem.W.Frag} {mg : Str → Option Value} {base : Heap} {CX : CXT} {k : Nat} {x : Str} {st : Stmt} {ps : List Str} {sp : Sp} (F : FnD K mg x st ps) (h : ∀ f fd, Fun K x x st f fd → FnOk P w K mg base CX k f fd ps sp) :
    Cal P w K mg base CX k x ps sp := by
  obtain ⟨f, fd, h1, h2, h3, _, h4⟩ := F.ex
  exact ⟨f, fd, h1, h2, h3, h f fd h4⟩
/-- the law's own -/
theorem FnD.law {P : Program} {w : World} {K : PySem.W.Frag} {mg : Str → Option Value} {CX : CXT} {k : Nat} {x p : Str} {st : Stmt} {sp : Sp} {fa : Addr} (F : FnD K mg x st [p]) (hm : mg x = some (.ref fa)) (h : ∀ base, K.In base → base.Ns mainGlobals mg → ∀ f fd, Fun K x x st f fd → FnOk P w K mg base CX k f fd [p] sp) :
    ∃ fd : FuncData, (∀ (s : Shared) (u : Value), BindsTo s fd ⟨[u], []⟩ [(p, u)]) ∧ ∀ base : Heap, K.In base → base.Ns mainGlobals mg → FnOk P w K mg base CX k fa fd [p] sp := by
  obtain ⟨f, fd, h1, h2, h3, h5, h4⟩ := F.ex
  rw [h1] at hm; cases hm
  exact ⟨fd, fun s u => h5 s [u] rfl, fun base kb nb => h base kb nb _ fd h4⟩
end L2

set_option linter.all false
namespace Mi
open PySem
/-! ### trees of data -/
inductive D where
  | non | bl (b : Bool) | int (i : Int) | str (x : Str) | lst (ds : List D) | tup (ds : List D)
mutual
def D.dep : D → Nat
  | .lst ds => depAll ds + 1
  | .tup ds => depAll ds + 1
  | _ => 0
def depAll : List D → Nat
  | [] => 0
  | d :: r => max d.dep (depAll r)
end
mutual
/-- Python's == -/
def pyEq : D → D → Bool
  | .non, .non => true
  | .bl a, .bl b => a == b
  | .bl a, .int b => (if a then 1 else 0) == b
  | .int a, .bl b => a == (if b then 1 else 0)
  | .int a, .int b => a == b
  | .str a, .str b => a == b
  | .lst a, .lst b => pyEqs a b
  | .tup a, .tup b => pyEqs a b
  | _, _ => false
def pyEqs : List D → List D → Bool
  | [], [] => true
  | a :: r, b :: s => pyEq a b && pyEqs r s
  | _, _ => false
end
mutual
/-- no list in it -/
def imm : D → Bool
  | .lst _ => false
  | .tup ds => imms ds
  | _ => true
def imms : List D → Bool
  | [] => true
  | d :: r => imm d && imms r
end
/-- the place that a possibly negative index means -/
def ixN (n : Nat) (i : Int) : Option Nat := if 0 ≤ i then (if i < n then some i.toNat else none) else if -(n : Int) ≤ i then some (i + n).toNat else none
def atI {α : Type} (xs : List α) (i : Int) : Option α := (ixN xs.length i).bind fun j => xs[j]?
/-- a slice's end -/
def sIx (n d : Nat) : Option Int → Nat
  | none => d
  | some v => if v < 0 then (v + (n : Int)).toNat else min v.toNat n
def cutL {α : Type} (xs : List α) (lo hi : Option Int) : List α := (xs.drop (sIx xs.length 0 lo)).take (sIx xs.length xs.length hi - sIx xs.length 0 lo)
/-! ### answers -/
abbrev Ky := Sum Int Str
inductive W where
  | d (x : D) | dk (kvs : List (Ky × D)) | dt (kvs : List (List Ky × D))
abbrev Env := List (Option W)
structure Exn where
  cls : String
  val : List D
inductive Rs (α : Type) where
  | ok (a : α) | ex (x : Exn) | no
def Rs.bind {α β : Type} : Rs α → (α → Rs β) → Rs β
  | .ok a, f => f a
  | .ex x, _ => .ex x
  | .no, _ => .no
@[simp] theorem bind_ok {α β : Type} (a : α) (f : α → Rs β) : (Rs.ok a).bind f = f a := rfl
@[simp] theorem bind_ex {α β : Type} (x : Exn) (f : α → Rs β) : (Rs.ex x).bind f = .ex x := rfl
@[simp] theorem bind_no {α β : Type} (f : α → Rs β) : (Rs.no).bind f = .no := rfl
theorem bind_assoc {α β γ : Type} (r : Rs α) (f : α → Rs β) (g : β → Rs γ) : (r.bind f).bind g = r.bind fun a => (f a).bind g := by cases r <;> rfl
/-- what is wanted of an answer -/
def Fin {α : Type} (r : Rs α) (k : α → Prop) : Prop := match r with
  | .ok a => k a
  | _ => False
theorem fin_bind {α β : Type} {r : Rs α} {f : α → Rs β} {k : β → Prop} : Fin (r.bind f) k ↔ Fin r fun a => Fin (f a) k := by cases r <;> exact Iff.rfl
theorem Fin.mono {α : Type} {r : Rs α} {k k' : α → Prop} (h : Fin r k) (m : ∀ a, k a → k' a) : Fin r k' := by
  cases r with
  | ok a => exact m a h
  | ex x => exact h
  | no => exact h
theorem fin_t {α : Type} {r s : Rs α} {k : α → Prop} (h : Fin (if true = true then r else s) k) : Fin r k := by simpa using h
theorem fin_f {α : Type} {r s : Rs α} {k : α → Prop} (h : Fin (if false = true then r else s) k) : Fin s k := by simpa using h
theorem fin_now {α : Type} {a : α} {k : α → Prop} (h : Fin (.ok a) k) : k a := h
def ofO {α : Type} : Option α → Rs α
  | some a => .ok a
  | none => .no
def guardR {α : Type} (c : Prop) [Decidable c] (r : Rs α) : Rs α := if c then r else .no
theorem guardR_pos {α : Type} {c : Prop} [Decidable c] {r : Rs α} (h : c) : guardR c r = r := if_pos h
theorem fin_guard {α : Type} {c : Prop} [Decidable c] {r : Rs α} {k : α → Prop} (h : Fin (guardR c r) k) : c ∧ Fin r k := by
  unfold guardR at h
  split at h
  · exact ⟨‹_›, h⟩
  · exact h.elim
/-! ### expressions -/
abbrev E := Env → Rs D
abbrev C := Env → Rs Bool
def mC (d : D) : E := fun _ => .ok d
def mV (i : Nat) : E := fun e => match e[i]? with
  | some (some (.d x)) => .ok x
  | _ => .no
def m1 (f : D → Rs D) (a : E) : E := fun e => (a e).bind f
def m2 (f : D → D → Rs D) (a b : E) : E := fun e => (a e).bind fun x => (b e).bind fun y => f x y
def mArgs : List E → Env → Rs (List D)
  | [], _ => .ok []
  | a :: r, e => (a e).bind fun x => (mArgs r e).bind fun xs => .ok (x :: xs)
def mN (f : List D → Rs D) (as : List E) : E := fun e => (mArgs as e).bind f
def dTup (ds : List D) : Rs D := guardR (ds.length ≤ 16777216) (.ok (.tup ds))
def dLst (ds : List D) : Rs D := guardR (ds.length ≤ 16777216) (.ok (.lst ds))
def asB : D → Rs Bool
  | .bl b => .ok b
  | _ => .no
def mAnd (a b : E) : E := fun e => (a e).bind fun x => (asB x).bind fun c => if c = true then b e else .ok (.bl false)
def mOr (a b : E) : E := fun e => (a e).bind fun x => (asB x).bind fun c => if c = true then .ok (.bl true) else b e
def mNot (a : E) : E := fun e => (a e).bind fun x => (asB x).bind fun c => .ok (.bl (!c))
def mIfE (c : C) (a b : E) : E := fun e => (c e).bind fun k => if k = true then a e else b e
def mChain (f g : D → D → Rs D) (a b c : E) : E := fun e => (a e).bind fun x => (b e).bind fun y => (f x y).bind fun z => (asB z).bind fun k => if k = true then (c e).bind fun w => g y w else .ok (.bl false)
def asI : D → Rs Int
  | .int i => .ok i
  | _ => .no
def mPart : Option E → Env → Rs (Option Int)
  | none, _ => .ok none
  | some a, e => (a e).bind fun x => (asI x).bind fun i => .ok (some i)
def cutStr (x : Str) (lo hi : Option Int) : Str := ⟨(cutL x.cps.toList lo hi).toArray⟩
def dSl (x : D) (lo hi : Option Int) : Rs D := match x with
  | .lst ds => .ok (.lst (cutL ds lo hi))
  | .str z => guardR (z.length ≤ 16777216) (.ok (.str (cutStr z lo hi)))
  | _ => .no
def dSlL (x : D) (lo hi : Option Int) : Rs D := match x with
  | .lst ds => .ok (.lst (cutL ds lo hi))
  | _ => .no
def mSlF (f : D → Option Int → Option Int → Rs D) (a : E) (lo hi : Option E) : E := fun e => (a e).bind fun x => (mPart lo e).bind fun l => (mPart hi e).bind fun h => f x l h
/-! tests -/
def cB (a : E) : C := fun e => (a e).bind asB
def cAnd (a b : C) : C := fun e => (a e).bind fun c => if c = true then b e else .ok false
def cOr (a b : C) : C := fun e => (a e).bind fun c => if c = true then .ok true else b e
def cNot (a : C) : C := fun e => (a e).bind fun c => .ok (!c)
def dTru : D → Rs Bool
  | .non => .ok false
  | .bl b => .ok b
  | .int i => .ok (i != 0)
  | .str y => guardR (y.length ≤ 16777216) (.ok ((y.length : Int) != 0))
  | .lst ds => .ok (!ds.isEmpty)
  | .tup ds => .ok (!ds.isEmpty)
def cTru (a : E) : C := fun e => (a e).bind dTru
/-! what is walked -/
abbrev I := Env → Rs (List D)
def dItems : D → Rs (List D)
  | .lst ds => .ok ds
  | .tup ds => .ok ds
  | .str x => .ok (x.cps.toList.map fun c => .str ⟨#[c]⟩)
  | _ => .no
def iOf (a : E) : I := fun e => (a e).bind dItems
def dRange (lo hi : Int) : List D := (List.range (hi - lo).toNat).map fun k => .int (lo + (k : Nat))
def okR (i : Int) : Prop := -(2 ^ 62) ≤ i ∧ i < 2 ^ 62
instance (i : Int) : Decidable (okR i) := inferInstanceAs (Decidable (_ ∧ _))
def iRange1 (a : E) : I := fun e => (a e).bind fun x => (asI x).bind fun j => guardR (okR j) (.ok (dRange 0 j))
def iRange2 (a b : E) : I := fun e => (a e).bind fun x => (b e).bind fun y => (asI x).bind fun i => (asI y).bind fun j => guardR (okR i ∧ okR j) (.ok (dRange i j))
def dEnum (k : Nat) : List D → List D
  | [] => []
  | d :: r => .tup [.int k, d] :: dEnum (k + 1) r
def dLstItems : D → Rs (List D)
  | .lst ds => .ok ds
  | _ => .no
def iEnum (a : E) : I := fun e => (a e).bind fun x => (dLstItems x).bind fun ds => .ok (dEnum 0 ds)
def dZip2 : List D → List D → List D
  | a :: r, b :: s => .tup [a, b] :: dZip2 r s
  | _, _ => []
def iZip2 (a b : E) : I := fun e => (a e).bind fun x => (b e).bind fun y => (dLstItems x).bind fun ds => (dLstItems y).bind fun es => .ok (dZip2 ds es)
def dZip3 : List D → List D → List D → List D
  | a :: r, b :: s, c :: t => .tup [a, b, c] :: dZip3 r s t
  | _, _, _ => []
def iZip3 (a b c : E) : I := fun e => (a e).bind fun x => (b e).bind fun y => (c e).bind fun z => (dLstItems x).bind fun ds => (dLstItems y).bind fun es => (dLstItems z).bind fun fs => .ok (dZip3 ds es fs)
/-- a target: a name, or a tuple of names -/
inductive Tg where
  | n (i : Nat) | t (is : List Nat)
def setAll : List Nat → List D → Env → Rs Env
  | [], [], e => .ok e
  | i :: is, d :: ds, e => setAll is ds (e.set i (some (.d d)))
  | _, _, _ => .no
def Tg.put : Tg → D → Env → Rs Env
  | .n i, d, e => .ok (e.set i (some (.d d)))
  | .t is, .tup ds, e => setAll is ds e
  | _, _, _ => .no
def pickE (ρ : List (Option Nat)) (e : Env) : Env := ρ.map fun o => o.bind fun j => (e[j]?).join
def compD (tg : Tg) (c : C) (a : E) (e : Env) : List D → Rs (List D)
  | [] => .ok []
  | x :: r => (tg.put x e).bind fun e1 => (c e1).bind fun k => if k = true then (a e1).bind fun y => (compD tg c a e r).bind fun ys => .ok (y :: ys) else compD tg c a e r
def cYes : C := fun _ => .ok true
def mComp (ρ : List (Option Nat)) (it : I) (tg : Tg) (c : C) (a : E) : E := fun e => (it e).bind fun xs => guardR (xs.length ≤ 16777216) ((compD tg c a (pickE ρ e) xs).bind fun ys => .ok (.lst ys))
/-! calls of defs -/
abbrev Fn := List W → Rs W
abbrev EW := Env → Rs W
def wD (a : E) : EW := fun e => (a e).bind fun x => .ok (.d x)
def wV (i : Nat) : EW := fun e => match e[i]? with
  | some (some w) => .ok w
  | _ => .no
def mArgsW : List EW → Env → Rs (List W)
  | [], _ => .ok []
  | a :: r, e => (a e).bind fun x => (mArgsW r e).bind fun xs => .ok (x :: xs)
def wCall (f : Fn) (as : List EW) : EW := fun e => (mArgsW as e).bind f
def asD : W → Rs D
  | .d x => .ok x
  | _ => .no
def mCall (f : Fn) (as : List EW) : E := fun e => (wCall f as e).bind asD
/-- .. whose answer has no list in it -/
def asImm : W → Rs D
  | .d x => guardR (imm x = true) (.ok x)
  | _ => .no
def mCallI (f : Fn) (as : List EW) : E := fun e => (wCall f as e).bind asImm
/-! ### statements -/
inductive Out where
  | nx (e : Env) | rt (w : W) | bk (e : Env) | ct (e : Env)
abbrev S := Env → Rs Out
def sNext : S := fun e => .ok (.nx e)
def sBreak : S := fun e => .ok (.bk e)
def sCont : S := fun e => .ok (.ct e)
def sSeq (s t : S) : S := fun e => (s e).bind fun o => match o with
  | .nx e' => t e'
  | o => .ok o
def sSetW (i : Nat) (a : EW) : S := fun e => (a e).bind fun w => .ok (.nx (e.set i (some w)))
def sSet (i : Nat) (a : E) : S := fun e => (a e).bind fun d => .ok (.nx (e.set i (some (.d d))))
def sPut (tg : Tg) (a : E) : S := fun e => (a e).bind fun d => (tg.put d e).bind fun e' => .ok (.nx e')
def sDrop (a : E) : S := fun e => (a e).bind fun _ => .ok (.nx e)
def sRet (a : EW) : S := fun e => (a e).bind fun w => .ok (.rt w)
def sRetN : S := fun _ => .ok (.rt (.d .non))
def sIf (c : C) (s t : S) : S := fun e => (c e).bind fun k => if k = true then s e else t e
def sNever : S := fun _ => .no
def forD (tg : Tg) (body : S) : List D → Env → Rs Out
  | [], e => .ok (.nx e)
  | x :: r, e => (tg.put x e).bind fun e1 => (body e1).bind fun o => match o with
    | .nx e2 => forD tg body r e2
    | .ct e2 => forD tg body r e2
    | .bk e2 => .ok (.nx e2)
    | .rt w => .ok (.rt w)
def sFor (it : I) (tg : Tg) (body : S) : S := fun e => (it e).bind fun xs => forD tg body xs e
def whileD (c : C) (body : S) : Nat → Env → Rs Out
  | 0, _ => .no
  | n + 1, e => (c e).bind fun k => if k = true then (body e).bind fun o => match o with
    | .nx e2 => whileD c body n e2
    | .ct e2 => whileD c body n e2
    | .bk e2 => .ok (.nx e2)
    | .rt w => .ok (.rt w)
    else .ok (.nx e)
def sWhile (n : Nat) (c : C) (body : S) : S := whileD c body n
/-! a list that a name alone holds -/
def getL (e : Env) (i : Nat) : Rs (List D) := match e[i]? with
  | some (some (.d (.lst ds))) => .ok ds
  | _ => .no
def putL (e : Env) (i : Nat) (ds : List D) : Env := e.set i (some (.d (.lst ds)))
def sAppend (i : Nat) (a : E) : S := fun e => (a e).bind fun d => (getL e i).bind fun ds => guardR (ds.length < 16777216) (.ok (.nx (putL e i (ds ++ [d]))))
def sExtend (i : Nat) (a : E) : S := fun e => (a e).bind fun d => (getL e i).bind fun ds => match d with
  | .lst xs => guardR (ds.length + xs.length ≤ 16777216) (.ok (.nx (putL e i (ds ++ xs))))
  | _ => .no
def sReverse (i : Nat) : S := fun e => (getL e i).bind fun ds => .ok (.nx (putL e i ds.reverse))
def sClear (i : Nat) : S := fun e => (getL e i).bind fun ds => .ok (.nx (putL e i []))
/-- x = y.pop() -/
def sPop (x y : Nat) : S := fun e => (getL e y).bind fun ds => (ofO ds[ds.length - 1]?).bind fun d => .ok (.nx ((putL e y ds.dropLast).set x (some (.d d))))
def popAt (ds : List D) (i : Int) : Rs (D × List D) := guardR (-(2 ^ 63) ≤ i ∧ i < 2 ^ 63) ((ofO (ixN ds.length i)).bind fun k => (ofO ds[k]?).bind fun d => .ok (d, ds.eraseIdx k))
/-- x = y.pop(k) -/
def sPopAt (x y : Nat) (k : E) : S := fun e => (k e).bind fun z => (asI z).bind fun i => (getL e y).bind fun ds => (popAt ds i).bind fun p => .ok (.nx ((putL e y p.2).set x (some (.d p.1))))
/-- x.append(y.pop(k)) -/
def sAppendPop (x y : Nat) (k : E) : S := fun e => (k e).bind fun z => (asI z).bind fun i => (getL e y).bind fun ds => (popAt ds i).bind fun p => (getL (putL e y p.2) x).bind fun es =>
  guardR (es.length < 16777216) (.ok (.nx (putL (putL e y p.2) x (es ++ [p.1]))))
/-- x[k] = a -/
def sSetAt (x : Nat) (k a : E) : S := fun e => (a e).bind fun d => (k e).bind fun z => (asI z).bind fun i => (getL e x).bind fun ds => (ofO (ixN ds.length i)).bind fun j => .ok (.nx (putL e x (ds.set j d)))
/-- x = y, which holds it no more -/
def sMove (x y : Nat) : S := fun e => match e[y]? with
  | some (some w) => .ok (.nx ((e.set y none).set x (some w)))
  | _ => .no
/-! dicts -/
def dKey : D → Option Ky
  | .int i => some (.inl i)
  | .str x => some (.inr x)
  | _ => none
def dKeys : List D → Option (List Ky)
  | [] => some []
  | d :: r => match dKey d, dKeys r with
    | some k, some ks => some (k :: ks)
    | _, _ => none
def valK {κ : Type} [DecidableEq κ] (kvs : List (κ × D)) (k : κ) : Option D := (kvs.find? fun kv => decide (kv.1 = k)).map (·.2)
def dGet (w : W) (k : D) : Rs (Option D) := match w with
  | .dk kvs => (ofO (dKey k)).bind fun k => .ok (valK kvs k)
  | .dt kvs => match k with
    | .tup ds => (ofO (dKeys ds)).bind fun k => .ok (valK kvs k)
    | _ => .no
  | _ => .no
def putK {κ : Type} [DecidableEq κ] (k : κ) (v : D) (kvs : List (κ × D)) : List (κ × D) :=
  if (kvs.any fun kv => decide (kv.1 = k)) = true then kvs.map (fun kv => if kv.1 = k then (kv.1, v) else kv) else kvs ++ [(k, v)]
def dPut (w : W) (k v : D) : Rs W := match w with
  | .dk kvs => guardR (kvs.length < 16777216) ((ofO (dKey k)).bind fun k => .ok (.dk (putK k v kvs)))
  | .dt kvs => match k with
    | .tup ds => guardR (kvs.length < 16777216) ((ofO (dKeys ds)).bind fun k => .ok (.dt (putK k v kvs)))
    | _ => .no
  | _ => .no
def mDIn (i : Nat) (k : E) : E := fun e => (k e).bind fun d => (wV i e).bind fun w => (dGet w d).bind fun o => .ok (.bl o.isSome)
def mDNotIn (i : Nat) (k : E) : E := fun e => (k e).bind fun d => (wV i e).bind fun w => (dGet w d).bind fun o => .ok (.bl (!o.isSome))
def mDGet (i : Nat) (k : E) : E := fun e => (k e).bind fun d => (wV i e).bind fun w => (dGet w d).bind ofO
def sDPut (i : Nat) (k v : E) : S := fun e => (v e).bind fun x => (k e).bind fun d => (wV i e).bind fun w => (dPut w d x).bind fun w' => .ok (.nx (e.set i (some w')))
/-! ### a def -/
def fnOut : Out → Rs W
  | .rt w => .ok w
  | .nx _ => .ok (.d .non)
  | _ => .no
def fnM (k n : Nat) (body : S) : Fn := fun ws => guardR (ws.length = k) ((body (ws.map some ++ List.replicate (n - ws.length) none)).bind fnOut)
/-- .. that always hands back a new list or dict -/
def fnOutN : Out → Rs W
  | .rt w => .ok w
  | _ => .no
def fnN (k n : Nat) (body : S) : Fn := fun ws => guardR (ws.length = k) ((body (ws.map some ++ List.replicate (n - ws.length) none)).bind fnOutN)
def fnZ : Fn := fun _ => .no
/-! ### operations -/
def okMul (i j : Int) : Prop := (-(2 ^ 64) < i ∧ i < 2 ^ 64) ∨ (-(2 ^ 64) < j ∧ j < 2 ^ 64)
instance (i j : Int) : Decidable (okMul i j) := inferInstanceAs (Decidable (_ ∨ _))
def okDiv (j : Int) : Prop := 0 < j ∧ j.natAbs.log2 < 9000
instance (j : Int) : Decidable (okDiv j) := inferInstanceAs (Decidable (_ ∧ _))
def okPow (i j : Int) : Prop := 0 ≤ j ∧ j ≤ 1000000 ∧ i.natAbs < 2 ^ 64
instance (i j : Int) : Decidable (okPow i j) := inferInstanceAs (Decidable (_ ∧ _))
def dAdd : D → D → Rs D
  | .int i, .int j => .ok (.int (i + j))
  | .str i, .str j => guardR (i.length + j.length ≤ 16777216) (.ok (.str (i ++ j)))
  | .lst i, .lst j => guardR (i.length + j.length ≤ 16777216) (.ok (.lst (i ++ j)))
  | _, _ => .no
def dSub : D → D → Rs D
  | .int i, .int j => .ok (.int (i - j))
  | _, _ => .no
def dCat : D → D → Rs D
  | .lst i, .lst j => guardR (i.length + j.length ≤ 16777216) (.ok (.lst (i ++ j)))
  | _, _ => .no
def dMulI : D → D → Rs D
  | .int i, .int j => guardR (okMul i j) (.ok (.int (i * j)))
  | _, _ => .no
def dRep : D → D → Rs D
  | .lst ds, .int k => guardR (-(2 ^ 63) ≤ k ∧ k < 2 ^ 63 ∧ ds.length * k.toNat ≤ 16777216) (.ok (.lst (List.replicate k.toNat ds).flatten))
  | _, _ => .no
def dDiv : D → D → Rs D
  | .int i, .int j => guardR (okDiv j) (.ok (.int (i / j)))
  | _, _ => .no
def dMod : D → D → Rs D
  | .int i, .int j => guardR (0 < j) (.ok (.int (i % j)))
  | _, _ => .no
def dPow : D → D → Rs D
  | .int i, .int j => guardR (okPow i j) (.ok (.int (i ^ j.toNat)))
  | _, _ => .no
def dNeg : D → Rs D
  | .int i => .ok (.int (-i))
  | _ => .no
def dLt : D → D → Rs D
  | .int i, .int j => .ok (.bl (decide (i < j)))
  | .str i, .str j => .ok (.bl (decide (i.cps.toList < j.cps.toList)))
  | _, _ => .no
def dGt : D → D → Rs D
  | .int i, .int j => .ok (.bl (decide (j < i)))
  | .str i, .str j => .ok (.bl (decide (j.cps.toList < i.cps.toList)))
  | _, _ => .no
def dLe : D → D → Rs D
  | .int i, .int j => .ok (.bl (decide (i ≤ j)))
  | _, _ => .no
def dGe : D → D → Rs D
  | .int i, .int j => .ok (.bl (decide (j ≤ i)))
  | _, _ => .no
def dEq (x y : D) : Rs D := guardR (x.dep ≤ 16) (.ok (.bl (pyEq x y)))
def dNe (x y : D) : Rs D := guardR (x.dep ≤ 16) (.ok (.bl (!pyEq x y)))
def isNon : D → Bool
  | .non => true
  | _ => false
def dIs (x y : D) : Rs D := match y with
  | .non => .ok (.bl (isNon x))
  | _ => .no
def dIsNot (x y : D) : Rs D := match y with
  | .non => .ok (.bl (!isNon x))
  | _ => .no
def dIn (x y : D) : Rs D := match y with
  | .lst ds => guardR (depAll ds ≤ 16) (.ok (.bl (ds.any fun e => pyEq e x)))
  | .tup ds => guardR (depAll ds ≤ 16) (.ok (.bl (ds.any fun e => pyEq e x)))
  | .str z => match x with
    | .str s => guardR (s.length = 1) (.ok (.bl (decide (s.cps.getD 0 0 ∈ z.cps.toList))))
    | _ => .no
  | _ => .no
def dNotIn (x y : D) : Rs D := match y with
  | .lst ds => guardR (depAll ds ≤ 16) (.ok (.bl (!ds.any fun e => pyEq e x)))
  | .tup ds => guardR (depAll ds ≤ 16) (.ok (.bl (!ds.any fun e => pyEq e x)))
  | _ => .no
def dIx (x y : D) : Rs D := match x, y with
  | .lst ds, .int i => ofO (atI ds i)
  | .tup ds, .int i => ofO (atI ds i)
  | .str z, .int i => guardR (z.length ≤ 16777216) ((ofO (atI z.cps.toList i)).bind fun c => .ok (.str ⟨#[c]⟩))
  | _, _ => .no
/-! ### built-ins -/
def bLen : List D → Rs D
  | [.lst ds] => .ok (.int ds.length)
  | [.tup ds] => .ok (.int ds.length)
  | [.str z] => guardR (z.length ≤ 16777216) (.ok (.int z.length))
  | _ => .no
def bMax : List D → Rs D
  | [.int i, .int j] => .ok (.int (max i j))
  | _ => .no
def bMin : List D → Rs D
  | [.int i, .int j] => .ok (.int (min i j))
  | _ => .no
def asBs : List D → Option (List Bool)
  | [] => some []
  | .bl b :: r => (asBs r).map (b :: ·)
  | _ => none
def bAll : List D → Rs D
  | [.lst ds] => (ofO (asBs ds)).bind fun bs => .ok (.bl (bs.all id))
  | _ => .no
def bAny : List D → Rs D
  | [.lst ds] => (ofO (asBs ds)).bind fun bs => .ok (.bl (bs.any id))
  | _ => .no
def bList : List D → Rs D
  | [.lst ds] => .ok (.lst ds)
  | [.tup ds] => .ok (.lst ds)
  | _ => .no
def bTuple : List D → Rs D
  | [.lst ds] => .ok (.tup ds)
  | [.tup ds] => .ok (.tup ds)
  | _ => .no
def bInt : List D → Rs D
  | [.int i] => .ok (.int i)
  | [.bl k] => .ok (.int (if k then 1 else 0))
  | _ => .no
/-- isinstance against bool, int, str, list, tuple -/
def isTy (t : String) : D → Bool
  | .non => false
  | .bl _ => t == "bool" || t == "int"
  | .int _ => t == "int"
  | .str _ => t == "str"
  | .lst _ => t == "list"
  | .tup _ => t == "tuple"
def tyName : D → String
  | .non => "NoneType" | .bl _ => "bool" | .int _ => "int" | .str _ => "str" | .lst _ => "list" | .tup _ => "tuple"
def bIs (ts : List String) (x : D) : Rs D := .ok (.bl (ts.any fun t => isTy t x))
def asSs : List D → Option (List Str)
  | [] => some []
  | .str b :: r => (asSs r).map (b :: ·)
  | _ => none
def dJoin (x y : D) : Rs D := match x, y with
  | .str sep, .lst ds => (ofO (asSs ds)).bind fun ys => guardR ((ys.map (·.length)).sum + ys.length * sep.length ≤ 16777216) (.ok (.str (Str.join sep ys)))
  | _, _ => .no
/-- the texts that are met, each once -/
def met (val : Nat → Str) : Nat → List Str
  | 0 => []
  | i + 1 => if val i ∈ met val i then met val i else met val i ++ [val i]
def lenSet (ys : List Str) : Nat := (met (fun i => ys.getD i Str.empty) ys.length).length
/-- len(set(a list of texts)) -/
def dLenSet : D → Rs D
  | .lst ds => (ofO (asSs ds)).bind fun ys => guardR (ys.length + 1 < 4096) (.ok (.int (lenSet ys)))
  | _ => .no
/-! .index of a list or tuple -/
def bIndex (x y : D) : Rs D := match x with
  | .lst ds => guardR (depAll ds ≤ 16) ((ofO (ds.findIdx? fun e => pyEq e y)).bind fun k => .ok (.int k))
  | .tup ds => guardR (depAll ds ≤ 16) ((ofO (ds.findIdx? fun e => pyEq e y)).bind fun k => .ok (.int k))
  | _ => .no
end Mi

set_option Elab.async false
set_option linter.all false
set_option maxRecDepth 100000
set_option maxHeartbeats 4000000
namespace L2
open PySem PySem.Spec PyProof.Rows

/-! ### trees of data -/
open Mi (D depAll pyEq pyEqs)
mutual
theorem pyEq_refl : ∀ d : D, pyEq d d = true
  | .non => rfl
  | .bl b => by simp [pyEq]
  | .int i => by simp [pyEq]
  | .str x => by simp [pyEq]
  | .lst ds => by rw [pyEq]; exact pyEqs_refl ds
  | .tup ds => by rw [pyEq]; exact pyEqs_refl ds
theorem pyEqs_refl : ∀ ds : List D, pyEqs ds ds = true
  | [] => rfl
  | d :: r => by rw [pyEqs, pyEq_refl d, pyEqs_refl r]; rfl
end
theorem pyEqs_len : ∀ {ds es : List D}, ds.length ≠ es.length → pyEqs ds es = false
  | [], [], h => absurd rfl h
  | [], _ :: _, _ => rfl
  | _ :: _, [], _ => rfl
  | d :: r, e :: s, h => by rw [pyEqs, pyEqs_len (fun z => h (by rw [List.length_cons, List.length_cons, z])), Bool.and_false]
theorem pyEqs_all : ∀ {ds es : List D}, ds.length = es.length → pyEqs ds es = (List.range ds.length).all fun j => pyEq (ds.getD j .non) (es.getD j .non)
  | [], [], _ => rfl
  | [], _ :: _, h => by simp at h
  | _ :: _, [], h => by simp at h
  | d :: r, e :: s, h => by
    rw [pyEqs, pyEqs_all (by simpa using h), List.length_cons, List.range_succ_eq_map, List.all_cons, List.all_map]
    rfl
mutual
/-- the value v in the heap H is the tree d -/
def Rep (K : PySem.W.Frag) (H : Hp) : D → V → Prop
  | .non, v => v = .non
  | .bl b, v => v = .bl b
  | .int i, v => v = .int i
  | .str x, v => v = .str x
  | .lst ds, v => ∃ a xs, v = .ref a ∧ SqL K H a xs ∧ Reps K H ds xs
  | .tup ds, v => ∃ a xs, v = .ref a ∧ SqT K H a xs ∧ Reps K H ds xs
def Reps (K : PySem.W.Frag) (H : Hp) : List D → List V → Prop
  | [], vs => vs = []
  | d :: ds, vs => ∃ v r, vs = v :: r ∧ Rep K H d v ∧ Reps K H ds r
end
theorem Reps.length {K : PySem.W.Frag} {H : Hp} : ∀ {ds : List D} {vs : List V}, Reps K H ds vs → ds.length = vs.length
  | [], vs, h => by rw [Reps] at h; subst h; rfl
  | d :: ds, vs, h => by
    rw [Reps] at h
    obtain ⟨v, r, rfl, _, q⟩ := h
    rw [List.length_cons, List.length_cons, Reps.length q]
theorem Reps.get {K : PySem.W.Frag} {H : Hp} : ∀ {ds : List D} {vs : List V} {j : Nat} {v : V}, Reps K H ds vs → vs[j]? = some v → Rep K H (ds.getD j .non) v
  | [], vs, j, v, h, e => by rw [Reps] at h; subst h; simp at e
  | d :: ds, vs, 0, v, h, e => by
    rw [Reps] at h
    obtain ⟨v', r, rfl, p, q⟩ := h
    simp at e; subst e; exact p
  | d :: ds, vs, j + 1, v, h, e => by
    rw [Reps] at h
    obtain ⟨v', r, rfl, p, q⟩ := h
    have := Reps.get (j := j) (v := v) q (by simpa using e)
    simpa using this
/-- tuples stay, lists of the tree stay -/
theorem Same.tup {K : PySem.W.Frag} {H H' : Hp} {a : Addr} {xs : List V} (e : Same H H') (h : SqT K H a xs) : SqT K H' a xs := by
  rcases h with (h | ⟨o, h⟩) | h
  · exact .inl (.inl (e _ _ h))
  · exact .inl (.inr ⟨o, e _ _ h⟩)
  · exact .inr h
mutual
theorem Rep.same {K : PySem.W.Frag} {H H' : Hp} (s : Same H H') : ∀ {d : D} {v : V}, Rep K H d v → Rep K H' d v
  | .non, v, h => by rw [Rep] at h ⊢; exact h
  | .bl b, v, h => by rw [Rep] at h ⊢; exact h
  | .int i, v, h => by rw [Rep] at h ⊢; exact h
  | .str x, v, h => by rw [Rep] at h ⊢; exact h
  | .lst ds, v, h => by
    rw [Rep] at h ⊢
    obtain ⟨a, xs, e, q, r⟩ := h
    exact ⟨a, xs, e, s.seq q, Reps.same s r⟩
  | .tup ds, v, h => by
    rw [Rep] at h ⊢
    obtain ⟨a, xs, e, q, r⟩ := h
    exact ⟨a, xs, e, s.tup q, Reps.same s r⟩
theorem Reps.same {K : PySem.W.Frag} {H H' : Hp} (s : Same H H') : ∀ {ds : List D} {vs : List V}, Reps K H ds vs → Reps K H' ds vs
  | [], vs, h => by rw [Reps] at h ⊢; exact h
  | d :: ds, vs, h => by
    rw [Reps] at h ⊢
    obtain ⟨v, r, e, p, q⟩ := h
    exact ⟨v, r, e, Rep.same s p, Reps.same s q⟩
end
section
variable {X : Cx} {pins : List (Addr × Obj)} {σ : St} {H : Hp} {s : Shared}
theorem Inv.list_tup (I : Inv X pins σ H s) {a : Addr} {xs ys : List V} (h : SqL X.K H a xs) (h' : SqT X.K H a ys) : False := by
  obtain ⟨its, _, p, _⟩ := I.list h
  obtain ⟨its', _, q, _⟩ := I.tuple h'
  obtain ⟨o, n, e, c, _⟩ := p
  obtain ⟨o', e', c', _⟩ := q
  rw [e] at e'; cases e'
  rw [c] at c'
  exact absurd (Value.type.inj c') (by decide)
mutual
theorem Rep.inj (I : Inv X pins σ H s) : ∀ {d e : D} {v : V}, Rep X.K H d v → Rep X.K H e v → d = e
  | .non, e, v, h, h' => by
    rw [Rep] at h; subst h
    cases e <;> rw [Rep] at h' <;> first | rfl | (obtain ⟨_, _, z, _⟩ := h'; cases z) | cases h'
  | .bl b, e, v, h, h' => by
    rw [Rep] at h; subst h
    cases e <;> rw [Rep] at h' <;> first | (obtain ⟨_, _, z, _⟩ := h'; cases z) | (cases h'; rfl) | cases h'
  | .int b, e, v, h, h' => by
    rw [Rep] at h; subst h
    cases e <;> rw [Rep] at h' <;> first | (obtain ⟨_, _, z, _⟩ := h'; cases z) | (cases h'; rfl) | cases h'
  | .str b, e, v, h, h' => by
    rw [Rep] at h; subst h
    cases e <;> rw [Rep] at h' <;> first | (obtain ⟨_, _, z, _⟩ := h'; cases z) | (cases h'; rfl) | cases h'
  | .lst ds, e, v, h, h' => by
    rw [Rep] at h
    obtain ⟨a, xs, rfl, q, r⟩ := h
    cases e with
    | lst es =>
      rw [Rep] at h'
      obtain ⟨a', xs', z, q', r'⟩ := h'
      cases z
      rw [I.list_inj q' q] at r'
      rw [Reps.inj I r r']
    | tup es =>
      rw [Rep] at h'
      obtain ⟨a', xs', z, q', r'⟩ := h'
      cases z
      exact (I.list_tup q q').elim
    | _ => rw [Rep] at h'; cases h'
  | .tup ds, e, v, h, h' => by
    rw [Rep] at h
    obtain ⟨a, xs, rfl, q, r⟩ := h
    cases e with
    | tup es =>
      rw [Rep] at h'
      obtain ⟨a', xs', z, q', r'⟩ := h'
      cases z
      rw [I.tuple_inj q' q] at r'
      rw [Reps.inj I r r']
    | lst es =>
      rw [Rep] at h'
      obtain ⟨a', xs', z, q', r'⟩ := h'
      cases z
      exact (I.list_tup q' q).elim
    | _ => rw [Rep] at h'; cases h'
theorem Reps.inj (I : Inv X pins σ H s) : ∀ {ds es : List D} {vs : List V}, Reps X.K H ds vs → Reps X.K H es vs → ds = es
  | [], es, vs, h, h' => by
    rw [Reps] at h; subst h
    cases es with
    | nil => rfl
    | cons e es => rw [Reps] at h'; obtain ⟨_, _, z, _⟩ := h'; cases z
  | d :: ds, es, vs, h, h' => by
    rw [Reps] at h
    obtain ⟨v, r, rfl, p, q⟩ := h
    cases es with
    | nil => rw [Reps] at h'; cases h'
    | cons e es =>
      rw [Reps] at h'
      obtain ⟨v', r', z, p', q'⟩ := h'
      cases z
      rw [Rep.inj I p p', Reps.inj I q q']
end
theorem depAll_le : ∀ {ds : List D} {j : Nat}, (ds.getD j .non).dep ≤ depAll ds
  | [], j => by simp [D.dep]
  | d :: ds, 0 => by simp [depAll]; omega
  | d :: ds, j + 1 => by
    have := depAll_le (ds := ds) (j := j)
    have e : (d :: ds).getD (j + 1) .non = ds.getD j .non := by simp
    rw [e, depAll]; omega
def _root_.Mi.D.flat : D → Bool
  | .lst _ => false
  | .tup _ => false
  | _ => true
def _root_.Mi.D.toV : D → V
  | .non => .non | .bl b => .bl b | .int i => .int i | .str x => .str x | .lst _ => .non | .tup _ => .non
theorem Rep.flat {K : PySem.W.Frag} : ∀ {d : D} {v : V}, d.flat = true → Rep K H d v → v = d.toV ∧ flatV v = true
  | .non, v, _, h => by rw [Rep] at h; subst h; exact ⟨rfl, rfl⟩
  | .bl b, v, _, h => by rw [Rep] at h; subst h; exact ⟨rfl, rfl⟩
  | .int b, v, _, h => by rw [Rep] at h; subst h; exact ⟨rfl, rfl⟩
  | .str b, v, _, h => by rw [Rep] at h; subst h; exact ⟨rfl, rfl⟩
  | .lst _, v, z, h => by cases z
  | .tup _, v, z, h => by cases z
theorem pyEq_flat : ∀ {d e : D}, d.flat = true → e.flat = true → pyEq d e = eqV d.toV e.toV := by
  intro d e h1 h2
  cases d <;> cases e <;> first | rfl | exact absurd (show false = true from h1) Bool.false_ne_true | exact absurd (show false = true from h2) Bool.false_ne_true
open SeqAt in
theorem eqAt_D (I : Inv X pins σ H s) : ∀ (n : Nat) (d e : D) (A : Around) {x y : V} {u u' : Value}, d.dep ≤ n → A.units + n < cLine → Rep X.K H d x → Rep X.K H e y → RelV x u → RelV y u' → EqAt A s u u' (pyEq d e) := by
  intro n
  induction n using Nat.strongRecOn with
  | ind n ih =>
    intro d e A x y u u' hd hu h h' r r'
    have hu0 : A.units < cLine := by omega
    by_cases hdf : d.flat = true
    · obtain ⟨ex, fx⟩ := h.flat hdf
      subst ex
      by_cases hef : e.flat = true
      · obtain ⟨ey, fy⟩ := h'.flat hef
        subst ey
        rw [pyEq_flat hdf hef]
        exact eqAt_V r r' fx fy
      · cases e with
        | lst es =>
          rw [Rep] at h'
          obtain ⟨a, xs, rfl, q, _⟩ := h'
          cases r'
          obtain ⟨its, _, p, _⟩ := I.list q
          cases d with
          | non => cases r; exact EqAt.none_list p.isList hu0
          | bl b => cases r; exact EqAt.bool_list b p.isList hu0
          | int b => obtain ⟨t, rfl⟩ := r; exact EqAt.int_list b t p.isList hu0
          | str b => obtain ⟨t, rfl⟩ := r; exact EqAt.str_list b t p.isList hu0
          | _ => cases hdf
        | tup es =>
          rw [Rep] at h'
          obtain ⟨a, xs, rfl, q, _⟩ := h'
          cases r'
          obtain ⟨its, _, p, _⟩ := I.tuple q
          cases d with
          | non => cases r; exact EqAt.none_tuple p hu0
          | bl b => cases r; exact EqAt.bool_tuple b p hu0
          | int b => obtain ⟨t, rfl⟩ := r; exact EqAt.int_tuple b t p hu0
          | str b => obtain ⟨t, rfl⟩ := r; exact EqAt.str_tuple b t p hu0
          | _ => cases hdf
        | _ => exact absurd rfl hef
    · by_cases hef : e.flat = true
      · obtain ⟨ey, fy⟩ := h'.flat hef
        subst ey
        cases d with
        | lst ds =>
          rw [Rep] at h
          obtain ⟨a, xs, rfl, q, _⟩ := h
          cases r
          obtain ⟨its, _, p, _⟩ := I.list q
          cases e with
          | non => cases r'; exact EqAt.list_none p.isList hu0
          | bl b => cases r'; exact EqAt.list_bool b p.isList hu0
          | int b => obtain ⟨t, rfl⟩ := r'; exact EqAt.list_int b t p.isList hu0
          | str b => obtain ⟨t, rfl⟩ := r'; exact EqAt.list_str b t p.isList hu0
          | _ => cases hef
        | tup ds =>
          rw [Rep] at h
          obtain ⟨a, xs, rfl, q, _⟩ := h
          cases r
          obtain ⟨its, _, p, _⟩ := I.tuple q
          cases e with
          | non => cases r'; exact EqAt.tuple_none p hu0
          | bl b => cases r'; exact EqAt.tuple_bool b p hu0
          | int b => obtain ⟨t, rfl⟩ := r'; exact EqAt.tuple_int b t p hu0
          | str b => obtain ⟨t, rfl⟩ := r'; exact EqAt.tuple_str b t p hu0
          | _ => cases hef
        | _ => exact absurd rfl hdf
      · -- both are lists or tuples
        have item : ∀ {ds es : List D} {xs ys : List V} {its its' : List Value}, depAll ds + 1 ≤ n → Reps X.K H ds xs → Reps X.K H es ys → Vals xs its → Vals ys its' →
            ∀ j (h1 : j < its.toArray.size) (h2 : j < its'.toArray.size), EqAt A.in1 s its.toArray[j] its'.toArray[j] (pyEq (ds.getD j .non) (es.getD j .non)) := by
          intro ds es xs ys its its' hn q q' v v' j h1 h2
          have h1' : j < its.length := by simpa using h1
          have h2' : j < its'.length := by simpa using h2
          have e1 : j < xs.length := by rw [v.length]; exact h1'
          have e2 : j < ys.length := by rw [v'.length]; exact h2'
          have g1 : xs[j]? = some xs[j] := by simp [e1]
          have g2 : ys[j]? = some ys[j] := by simp [e2]
          obtain ⟨w1, k1, r1⟩ := v.get g1
          obtain ⟨w2, k2, r2⟩ := v'.get g2
          have t1 : its.toArray[j] = w1 := by obtain ⟨_, k1⟩ := List.getElem?_eq_some_iff.mp k1; simpa using k1
          have t2 : its'.toArray[j] = w2 := by obtain ⟨_, k2⟩ := List.getElem?_eq_some_iff.mp k2; simpa using k2
          rw [t1, t2]
          have := depAll_le (ds := ds) (j := j)
          refine ih (n - 1) (by omega) _ _ A.in1 (by omega) ?_ (q.get g1) (q'.get g2) r1 r2
          show A.units + 1 + (n - 1) < cLine
          omega
        cases d with
        | lst ds =>
          rw [Rep] at h
          obtain ⟨a, xs, rfl, q, rr⟩ := h
          cases r
          obtain ⟨its, v, p, _⟩ := I.list q
          have hn : depAll ds + 1 ≤ n := by simpa [D.dep] using hd
          cases e with
          | lst es =>
            rw [Rep] at h'
            obtain ⟨b, ys, rfl, q', rr'⟩ := h'
            cases r'
            obtain ⟨its', v', p', _⟩ := I.list q'
            by_cases hab : a = b
            · subst hab
              rw [I.list_inj q' q] at rr'
              rw [Reps.inj I rr rr', pyEq_refl]
              exact EqAt.same _
            · have l1 := rr.length
              have l2 := rr'.length
              have l3 := v.length
              have l4 := v'.length
              by_cases hl : ds.length = es.length
              · rw [pyEq, pyEqs_all hl]
                have := RcAt.lists p.isList p'.isList (by simp; omega) hu0 (item hn rr rr' v v')
                have e : its.toArray.size = ds.length := by simp; omega
                rw [e] at this
                exact .of_refs hab this
              · rw [pyEq, pyEqs_len hl]
                exact .of_refs hab (RcAt.lists_lengths p.isList p'.isList (by simp; omega) hu0)
          | tup es =>
            rw [Rep] at h'
            obtain ⟨b, ys, rfl, q', _⟩ := h'
            cases r'
            obtain ⟨its', _, p', _⟩ := I.tuple q'
            exact EqAt.list_tuple p.isList p' hu0
          | _ => exact absurd rfl hef
        | tup ds =>
          rw [Rep] at h
          obtain ⟨a, xs, rfl, q, rr⟩ := h
          cases r
          obtain ⟨its, v, p, _⟩ := I.tuple q
          have hn : depAll ds + 1 ≤ n := by simpa [D.dep] using hd
          cases e with
          | tup es =>
            rw [Rep] at h'
            obtain ⟨b, ys, rfl, q', rr'⟩ := h'
            cases r'
            obtain ⟨its', v', p', _⟩ := I.tuple q'
            by_cases hab : a = b
            · subst hab
              rw [I.tuple_inj q' q] at rr'
              rw [Reps.inj I rr rr', pyEq_refl]
              exact EqAt.same _
            · have l1 := rr.length
              have l2 := rr'.length
              have l3 := v.length
              have l4 := v'.length
              have R := RcAt.tuples p p' hu0 (item hn rr rr' v v')
              have e1 : its.toArray.size = ds.length := by simp; omega
              have e2 : its'.toArray.size = es.length := by simp; omega
              rw [e1, e2] at R
              by_cases hl : ds.length = es.length
              · rw [pyEq, pyEqs_all hl]
                rw [hl, Nat.min_self, beq_self_eq_true, Bool.and_true, ← hl] at R
                exact .of_refs hab R
              · rw [pyEq, pyEqs_len hl]
                have : (ds.length == es.length) = false := by simpa using hl
                rw [this, Bool.and_false] at R
                exact .of_refs hab R
          | lst es =>
            rw [Rep] at h'
            obtain ⟨b, ys, rfl, q', _⟩ := h'
            cases r'
            obtain ⟨its', _, p', _⟩ := I.list q'
            exact EqAt.tuple_list p p'.isList hu0
          | _ => exact absurd rfl hef
        | _ => exact absurd rfl hdf

/-! ### x in a list or tuple of trees; == and != of trees -/
def rInD (K : PySem.W.Frag) (neg : Bool) : R2 := fun x y H Q => ∃ (p : Addr) (xs : List V) (d : D) (ds : List D), y = .ref p ∧ (SqL K H p xs ∨ SqT K H p xs) ∧ Rep K H d x ∧ Reps K H ds xs ∧ depAll ds ≤ 16 ∧
  Q (.bl (if neg then !ds.any (fun e => pyEq e d) else ds.any (fun e => pyEq e d))) H
theorem Reps.main {K : PySem.W.Frag} : ∀ {ds : List D} {xs : List V} {us : List Value}, Reps K H ds xs → Vals xs us → ∀ u ∈ us, ∃ b ∈ ds, ∃ y, Rep K H b y ∧ RelV y u
  | [], xs, us, hr, hv, u, hu => by
    rw [Reps] at hr; subst hr; cases hv; cases hu
  | b :: bs, xs, us, hr, hv, u, hu => by
    rw [Reps] at hr
    obtain ⟨y, r, rfl, p, q⟩ := hr
    cases hv with
    | cons ry t =>
      rcases List.mem_cons.mp hu with rfl | hu
      · exact ⟨b, List.mem_cons_self, _, p, ry⟩
      · obtain ⟨b', hb', w⟩ := Reps.main q t u hu
        exact ⟨b', List.mem_cons_of_mem _ hb', w⟩
theorem Reps.any {K : PySem.W.Frag} {e : Value → Bool} {f : D → Bool} (key : ∀ b y u, Rep K H b y → RelV y u → e u = f b) : ∀ {ds : List D} {xs : List V} {us : List Value}, Reps K H ds xs → Vals xs us → us.any e = ds.any f
  | [], xs, us, hr, hv => by
    rw [Reps] at hr; subst hr; cases hv; rfl
  | b :: bs, xs, us, hr, hv => by
    rw [Reps] at hr
    obtain ⟨y, r, rfl, p, q⟩ := hr
    cases hv with
    | cons ry t => rw [List.any_cons, List.any_cons, key b y _ p ry, Reps.any key q t]
theorem dep_mem : ∀ {ds : List D} {b : D}, b ∈ ds → b.dep ≤ depAll ds
  | d :: ds, b, h => by
    rw [depAll]
    rcases List.mem_cons.mp h with rfl | h
    · omega
    · have := dep_mem h; omega
open Classical in
theorem mem_eqD (I : Inv X pins σ H s) {A : Around} (hu : A.units + 16 < cLine) {d : D} {x : V} {v : Value} (hx : Rep X.K H d x) (rx : RelV x v) {ds : List D} {xs : List V} {us : List Value} (hd : depAll ds ≤ 16) (hr : Reps X.K H ds xs) (hv : Vals xs us) :
    ∃ e : Value → Bool, (∀ u ∈ us, SeqAt.EqAt A s u v (e u)) ∧ us.any e = ds.any (fun b => pyEq b d) := by
  have key : ∀ b y u, Rep X.K H b y → RelV y u → (fun u => decide (∃ b y, Rep X.K H b y ∧ RelV y u ∧ pyEq b d = true)) u = pyEq b d := by
    intro b y u hb hy
    cases hp : pyEq b d with
    | true => exact decide_eq_true ⟨b, y, hb, hy, hp⟩
    | false =>
      refine decide_eq_false ?_
      rintro ⟨b', y', hb', hy', hp'⟩
      have := hy.inj hy'
      subst this
      rw [Rep.inj I hb hb', hp'] at hp
      cases hp
  refine ⟨fun u => decide (∃ b y, Rep X.K H b y ∧ RelV y u ∧ pyEq b d = true), fun u hu' => ?_, Reps.any key hr hv⟩
  obtain ⟨b, hb, y, rb, ry⟩ := Reps.main hr hv u hu'
  rw [key b y u rb ry]
  exact eqAt_D I 16 b d A (Nat.le_trans (dep_mem hb) hd) hu rb hx ry rx
theorem op_inD (hu : X.A.units + 64 < cLine) : OpR X (compareOp .In) (rInD X.K false) := by
  intro pins s σ H x y v u Q I rx ry h
  obtain ⟨p, xs, d, ds, rfl, hq, hx, hr, hd, q⟩ := h
  cases ry
  have hu1 : X.A.in1.units + 16 < cLine := by show X.A.units + 1 + 16 < cLine; omega
  rcases hq with hq | hq
  · obtain ⟨its, r, pl, hz⟩ := I.list hq
    obtain ⟨e, he, ea⟩ := mem_eqD I hu1 hx rx hd hr r
    refine SeqAt.in_listAt e pl.isList (fun w hw => he w (by simpa using hw)) ⟨.bl _, H, I, rfl, ?_⟩
    rw [show its.toArray.any e = its.any e by simp, ea]
    exact q
  · obtain ⟨its, r, pl, hz⟩ := I.tuple hq
    obtain ⟨e, he, ea⟩ := mem_eqD I hu1 hx rx hd hr r
    refine SeqAt.in_tupleAt e pl (fun w hw => he w (by simpa using hw)) ⟨.bl _, H, I, rfl, ?_⟩
    rw [show its.toArray.any e = its.any e by simp, ea]
    exact q
theorem op_notInD (hu : X.A.units + 64 < cLine) : OpR X (compareOp .NotIn) (rInD X.K true) := by
  intro pins s σ H x y v u Q I rx ry h
  obtain ⟨p, xs, d, ds, rfl, hq, hx, hr, hd, q⟩ := h
  cases ry
  have hu1 : X.A.in1.units + 16 < cLine := by show X.A.units + 1 + 16 < cLine; omega
  rcases hq with hq | hq
  · obtain ⟨its, r, pl, hz⟩ := I.list hq
    obtain ⟨e, he, ea⟩ := mem_eqD I hu1 hx rx hd hr r
    refine SeqAt.notIn_listAt e pl.isList (fun w hw => he w (by simpa using hw)) ⟨.bl _, H, I, rfl, ?_⟩
    rw [show its.toArray.any e = its.any e by simp, ea]
    exact q
  · obtain ⟨its, r, pl, hz⟩ := I.tuple hq
    obtain ⟨e, he, ea⟩ := mem_eqD I hu1 hx rx hd hr r
    refine SeqAt.notIn_tupleAt e pl (fun w hw => he w (by simpa using hw)) ⟨.bl _, H, I, rfl, ?_⟩
    rw [show its.toArray.any e = its.any e by simp, ea]
    exact q
end
end L2

set_option Elab.async false
set_option linter.all false
set_option maxRecDepth 100000
set_option maxHeartbeats 4000000
namespace L2
open PySem PySem.Spec PyProof.Rows
theorem same_new {H : Hp} {p : Addr} {o : HO} (hp : H p = none) : Same H (upd H p o) := fun b u e => by rw [upd_ne (ne_of_none e hp)]; exact e
/-- an object that was not yet there is written -/
theorem Same.upd {H H' : Hp} {p : Addr} {o : HO} (s : Same H H') (hp : H p = none) : Same H (L2.upd H' p o) := fun b u e => by rw [upd_ne (ne_of_none e hp)]; exact s b u e
theorem strsAre_of : ∀ {ys : List Str} {us : List Value}, Vals (ys.map V.str) us → StrsAre us ys
  | [], _, .nil => .nil
  | y :: ys, _, .cons r t => by
    obtain ⟨tk, rfl⟩ := (show ∃ tk, _ = Value.str y tk from r)
    exact .cons y tk (strsAre_of t)
theorem join0 : ∀ l : List Str, (Str.join "" l).cps.toList = l.flatMap (·.cps.toList)
  | [] => by simp [Str.join, Str.empty]
  | [x] => by simp [Str.join]
  | x :: y :: r => by
    have ih := join0 (y :: r)
    have e : Str.join "" (x :: y :: r) = x ++ "" ++ Str.join "" (y :: r) := rfl
    have e2 : ("" : Str).cps.toList = [] := by decide +kernel
    rw [e]
    show ((x.cps ++ ("" : Str).cps) ++ (Str.join "" (y :: r)).cps).toList = _
    rw [Array.toList_append, Array.toList_append, e2, ih]
    simp
section
variable {X : Cx}
def rJoin (K : PySem.W.Frag) : V → List V → Hp → VK → Prop := fun x vs H Q => ∃ (sep : Str) (p : Addr) (ys : List Str), x = .str sep ∧ vs = [.ref p] ∧ SqL K H p (ys.map V.str) ∧ (ys.map (·.length)).sum + ys.length * sep.length ≤ 16777216 ∧ Q (.str (Str.join sep ys)) H
theorem mt_join : MtR X "str.join" (rJoin X.K) := by
  intro pins s σ H x vs v us Q I rx rv h
  obtain ⟨sep, p, ys, rfl, rfl, hq, hz, q⟩ := h
  obtain ⟨t, rfl⟩ := rx
  obtain ⟨u, rfl, ru⟩ := rv.one
  cases ru
  obtain ⟨its, r, pl, _⟩ := I.list hq
  refine join_list pl.isList (by simpa using strsAre_of r) hz fun t' k => ⟨.str (Str.join sep ys), H, I.tok k, ⟨t', ?_⟩, q⟩
  show Value.str (Builtin.Str.glued sep ys) t' = _
  rw [StrLaws.glued_eq_join]
/-- // by a greater number -/
def CDivB (i j : Int) : Prop := 0 < j ∧ j.natAbs.log2 < 9000
theorem op_fdivB : OpR X (binaryOp .FloorDiv) (rI CDivB fun i j => .int (i / j)) := opI fun i j _ _ _ _ _ hc q => by
  refine floordiv_int (by have := hc.1; omega) ?_ (.inl (PyProof.noPylong_of_log2 hc.2))
  rw [Int.fdiv_eq_ediv_of_nonneg i (by have := hc.1; omega)]
  exact q
/-! ### the operations again, their values as letters -/
def rE (C : Int → Int → Prop) (f : Int → Int → Int) : R2 := fun x y H Q => ∃ i j z, x = .int i ∧ y = .int j ∧ C i j ∧ f i j = z ∧ Q (.int z) H
def rE0 (f : Int → Int → Int) : R2 := fun x y H Q => ∃ i j z, x = .int i ∧ y = .int j ∧ f i j = z ∧ Q (.int z) H
def rB (p : Int → Int → Bool) : R2 := fun x y H Q => ∃ i j b, x = .int i ∧ y = .int j ∧ p i j = b ∧ Q (.bl b) H
theorem opE {f : Value → Value → Sem Value} {C : Int → Int → Prop} {g : Int → Int → Int} (h : OpR X f (rI C fun i j => .int (g i j))) : OpR X f (rE C g) := by
  intro pins s σ H x y v u Q I rx ry ⟨i, j, z, e1, e2, c, e3, q⟩
  subst e3
  exact h pins s σ H x y v u Q I rx ry ⟨i, j, e1, e2, c, q⟩
theorem opE0 {f : Value → Value → Sem Value} {g : Int → Int → Int} (h : OpR X f (rI0 fun i j => .int (g i j))) : OpR X f (rE0 g) := by
  intro pins s σ H x y v u Q I rx ry ⟨i, j, z, e1, e2, e3, q⟩
  subst e3
  exact h pins s σ H x y v u Q I rx ry ⟨i, j, e1, e2, q⟩
theorem opB {f : Value → Value → Sem Value} {p : Int → Int → Bool} (h : OpR X f (rI0 fun i j => .bl (p i j))) : OpR X f (rB p) := by
  intro pins s σ H x y v u Q I rx ry ⟨i, j, z, e1, e2, e3, q⟩
  subst e3
  exact h pins s σ H x y v u Q I rx ry ⟨i, j, e1, e2, q⟩
theorem opE_add : OpR X (binaryOp .Add) (rE0 fun i j => i + j) := opE0 op_add
theorem opE_sub : OpR X (binaryOp .Sub) (rE0 fun i j => i - j) := opE0 op_sub
theorem opE_mul : OpR X (binaryOp .Mult) (rE CMul fun i j => i * j) := opE op_mul
theorem opE_fdiv : OpR X (binaryOp .FloorDiv) (rE CDivB fun i j => i / j) := opE op_fdivB
theorem opE_mod : OpR X (binaryOp .Mod) (rE (fun _ j => 0 < j) fun i j => i % j) := opE op_mod
theorem opE_lt : OpR X (compareOp .Lt) (rB fun i j => decide (i < j)) := opB op_lt
theorem opE_le : OpR X (compareOp .LtE) (rB fun i j => decide (i ≤ j)) := opB op_le
theorem opE_gt : OpR X (compareOp .Gt) (rB fun i j => decide (j < i)) := opB op_gt
theorem opE_ge : OpR X (compareOp .GtE) (rB fun i j => decide (j ≤ i)) := opB op_ge
theorem opE_eq : OpR X (compareOp .Eq) (fun x y H Q => ∃ b, scal x y = true ∧ decide (x = y) = b ∧ Q (.bl b) H) := by
  intro pins s σ H x y v u Q I rx ry ⟨b, e1, e2, q⟩
  subst e2
  exact op_eq pins s σ H x y v u Q I rx ry ⟨e1, q⟩
theorem opE_ne : OpR X (compareOp .NotEq) (fun x y H Q => ∃ b, scal x y = true ∧ (!decide (x = y)) = b ∧ Q (.bl b) H) := by
  intro pins s σ H x y v u Q I rx ry ⟨b, e1, e2, q⟩
  subst e2
  exact op_ne pins s σ H x y v u Q I rx ry ⟨e1, q⟩
theorem call_lenE : CallR X (.builtin "len") (fun xs H Q => ∃ p ys n, xs = [.ref p] ∧ (SqL X.K H p ys ∨ SqT X.K H p ys) ∧ (ys.length : Int) = n ∧ Q (.int n) H) := by
  intro pins s σ H xs us Q I r ⟨p, ys, n, e1, e2, e3, q⟩
  subst e3
  exact call_len_seq pins s σ H xs us Q I r ⟨p, ys, e1, e2, q⟩
theorem call_lenSE : CallR X (.builtin "len") (fun xs H Q => ∃ z n, xs = [.str z] ∧ z.length ≤ sizeLine ∧ (z.length : Int) = n ∧ Q (.int n) H) := by
  intro pins s σ H xs us Q I r ⟨p, n, e1, e2, e3, q⟩
  subst e3
  exact call_len_str pins s σ H xs us Q I r ⟨p, e1, e2, q⟩
theorem callE_max2 (hc : X.calm = true) : CallR X (.builtin "max") (fun xs H Q => ∃ i j z, xs = [.int i, .int j] ∧ max i j = z ∧ Q (.int z) H) := by
  intro pins s σ H xs us Q I r ⟨i, j, z, e1, e2, q⟩
  subst e2
  refine call_max2 hc pins s σ H xs us Q I r ⟨i, j, e1, ?_⟩
  rw [show (if j > i then j else i) = max i j by split <;> omega]
  exact q
theorem callE_min2 (hc : X.calm = true) : CallR X (.builtin "min") (fun xs H Q => ∃ i j z, xs = [.int i, .int j] ∧ min i j = z ∧ Q (.int z) H) := by
  intro pins s σ H xs us Q I r ⟨i, j, z, e1, e2, q⟩
  subst e2
  refine call_min2 hc pins s σ H xs us Q I r ⟨i, j, e1, ?_⟩
  rw [show (if j < i then j else i) = min i j by split <;> omega]
  exact q
end
end L2

set_option Elab.async false
set_option linter.all false
set_option maxRecDepth 100000
set_option maxHeartbeats 4000000
namespace A
open PySem L2 PyProof.Rows
open Mi (D W Rs Fin fin_bind)
/-! ### two lists side by side -/
inductive P2 {α β : Type} (F : α → β → Prop) : List α → List β → Prop
  | nil : P2 F [] []
  | cons {a b l m} : F a b → P2 F l m → P2 F (a :: l) (b :: m)
section
variable {α β : Type} {F G : α → β → Prop}
theorem P2.imp (h : ∀ a b, F a b → G a b) : ∀ {l m}, P2 F l m → P2 G l m
  | _, _, .nil => .nil
  | _, _, .cons x t => .cons (h _ _ x) (t.imp h)
theorem P2.len : ∀ {l m}, P2 F l m → l.length = m.length
  | _, _, .nil => rfl
  | _, _, .cons _ t => by rw [List.length_cons, List.length_cons, t.len]
theorem P2.append : ∀ {l m l' m'}, P2 F l m → P2 F l' m' → P2 F (l ++ l') (m ++ m')
  | _, _, _, _, .nil, s => s
  | _, _, _, _, .cons x t, s => .cons x (t.append s)
theorem P2.get : ∀ {l m} {i : Nat} {a b}, P2 F l m → l[i]? = some a → m[i]? = some b → F a b
  | _, _, _, _, _, .nil, e, _ => by simp at e
  | _, _, 0, _, _, .cons x _, e, e' => by simp at e e'; subst e e'; exact x
  | _, _, i + 1, a, b, .cons _ t, e, e' => t.get (i := i) (by simpa using e) (by simpa using e')
theorem P2.getL {l m} {i : Nat} {a} (t : P2 F l m) (e : l[i]? = some a) : ∃ b, m[i]? = some b ∧ F a b := by
  have h : i < m.length := by rw [← t.len]; exact (List.getElem?_eq_some_iff.mp e).1
  exact ⟨m[i], by simp [h], t.get e (by simp [h])⟩
theorem P2.getR {l m} {i : Nat} {b} (t : P2 F l m) (e : m[i]? = some b) : ∃ a, l[i]? = some a ∧ F a b := by
  have h : i < l.length := by rw [t.len]; exact (List.getElem?_eq_some_iff.mp e).1
  exact ⟨l[i], by simp [h], t.get (by simp [h]) e⟩
theorem P2.set {a b} (x : F a b) : ∀ {l m} (i : Nat), P2 F l m → P2 F (l.set i a) (m.set i b)
  | _, _, _, .nil => .nil
  | _, _, 0, .cons _ t => .cons x t
  | _, _, i + 1, .cons y t => .cons y (t.set x i)
theorem P2.take : ∀ {l m} (n : Nat), P2 F l m → P2 F (l.take n) (m.take n)
  | _, _, 0, _ => .nil
  | _, _, _ + 1, .nil => .nil
  | _, _, n + 1, .cons x t => .cons x (t.take n)
theorem P2.drop : ∀ {l m} (n : Nat), P2 F l m → P2 F (l.drop n) (m.drop n)
  | _, _, 0, t => t
  | _, _, _ + 1, .nil => .nil
  | _, _, n + 1, .cons _ t => t.drop n
theorem P2.erase : ∀ {l m} (n : Nat), P2 F l m → P2 F (l.eraseIdx n) (m.eraseIdx n)
  | _, _, _, .nil => .nil
  | _, _, 0, .cons _ t => t
  | _, _, n + 1, .cons x t => .cons x (t.erase n)
theorem P2.rev : ∀ {l m}, P2 F l m → P2 F l.reverse m.reverse
  | _, _, .nil => .nil
  | _, _, .cons x t => by rw [List.reverse_cons, List.reverse_cons]; exact t.rev.append (.cons x .nil)
theorem P2.dropLast : ∀ {l m}, P2 F l m → P2 F l.dropLast m.dropLast
  | _, _, .nil => .nil
  | _, _, .cons x .nil => .nil
  | _, _, .cons x (.cons y t) => .cons x (P2.dropLast (.cons y t))
theorem P2.rep {l m} (t : P2 F l m) : ∀ n : Nat, P2 F (List.replicate n l).flatten (List.replicate n m).flatten
  | 0 => .nil
  | n + 1 => by rw [List.replicate_succ, List.replicate_succ, List.flatten_cons, List.flatten_cons]; exact t.append (P2.rep t n)
end
/-! ### trees in the heap -/
def Lst (H : Hp) (a : Addr) (xs : List V) : Prop := H a = some (.lst xs) ∨ ∃ o, H a = some (.frz o (.lst xs))
mutual
def Rep (H : Hp) : D → V → Prop
  | .non, v => v = .non
  | .bl b, v => v = .bl b
  | .int i, v => v = .int i
  | .str x, v => v = .str x
  | .lst ds, v => ∃ a xs, v = .ref a ∧ Lst H a xs ∧ Reps H ds xs
  | .tup ds, v => ∃ a xs, v = .ref a ∧ H a = some (.tup xs) ∧ Reps H ds xs
def Reps (H : Hp) : List D → List V → Prop
  | [], vs => vs = []
  | d :: ds, vs => ∃ v r, vs = v :: r ∧ Rep H d v ∧ Reps H ds r
end
theorem reps_iff {H : Hp} : ∀ {ds : List D} {vs : List V}, Reps H ds vs ↔ P2 (Rep H) ds vs
  | [], vs => by
    rw [Reps]
    exact ⟨fun h => by subst h; exact .nil, fun h => by cases h; rfl⟩
  | d :: ds, vs => by
    rw [Reps]
    constructor
    · rintro ⟨v, r, rfl, p, q⟩
      exact .cons p (reps_iff.mp q)
    · intro h
      cases h with
      | cons p q => exact ⟨_, _, rfl, p, reps_iff.mpr q⟩
@[simp] theorem rep_non {H : Hp} {v : V} : Rep H .non v ↔ v = .non := by rw [Rep]
@[simp] theorem rep_bl {H : Hp} {v : V} {b : Bool} : Rep H (.bl b) v ↔ v = .bl b := by rw [Rep]
@[simp] theorem rep_int {H : Hp} {v : V} {b : Int} : Rep H (.int b) v ↔ v = .int b := by rw [Rep]
@[simp] theorem rep_str {H : Hp} {v : V} {b : Str} : Rep H (.str b) v ↔ v = .str b := by rw [Rep]
theorem rep_lst {H : Hp} {v : V} {ds : List D} : Rep H (.lst ds) v ↔ ∃ a xs, v = .ref a ∧ Lst H a xs ∧ P2 (Rep H) ds xs := by
  rw [Rep]; exact ⟨fun ⟨a, xs, e, l, r⟩ => ⟨a, xs, e, l, reps_iff.mp r⟩, fun ⟨a, xs, e, l, r⟩ => ⟨a, xs, e, l, reps_iff.mpr r⟩⟩
theorem rep_tup {H : Hp} {v : V} {ds : List D} : Rep H (.tup ds) v ↔ ∃ a xs, v = .ref a ∧ H a = some (.tup xs) ∧ P2 (Rep H) ds xs := by
  rw [Rep]; exact ⟨fun ⟨a, xs, e, l, r⟩ => ⟨a, xs, e, l, reps_iff.mp r⟩, fun ⟨a, xs, e, l, r⟩ => ⟨a, xs, e, l, reps_iff.mpr r⟩⟩
theorem Lst.same {H H' : Hp} {a : Addr} {xs : List V} (s : Same H H') (h : Lst H a xs) : Lst H' a xs := by
  rcases h with h | ⟨o, h⟩
  · exact .inl (s _ _ h)
  · exact .inr ⟨o, s _ _ h⟩
theorem Lst.sq {K : PySem.W.Frag} {H : Hp} {a : Addr} {xs : List V} (h : Lst H a xs) : SqL K H a xs := .inl h
mutual
theorem rep_same {H H' : Hp} (s : Same H H') : ∀ {d : D} {v : V}, Rep H d v → Rep H' d v
  | .non, v, h => by rw [Rep] at h ⊢; exact h
  | .bl b, v, h => by rw [Rep] at h ⊢; exact h
  | .int i, v, h => by rw [Rep] at h ⊢; exact h
  | .str x, v, h => by rw [Rep] at h ⊢; exact h
  | .lst ds, v, h => by
    rw [Rep] at h ⊢
    obtain ⟨a, xs, e, q, r⟩ := h
    exact ⟨a, xs, e, q.same s, reps_same s r⟩
  | .tup ds, v, h => by
    rw [Rep] at h ⊢
    obtain ⟨a, xs, e, q, r⟩ := h
    exact ⟨a, xs, e, s _ _ q, reps_same s r⟩
theorem reps_same {H H' : Hp} (s : Same H H') : ∀ {ds : List D} {vs : List V}, Reps H ds vs → Reps H' ds vs
  | [], vs, h => by rw [Reps] at h ⊢; exact h
  | d :: ds, vs, h => by
    rw [Reps] at h ⊢
    obtain ⟨v, r, e, p, q⟩ := h
    exact ⟨v, r, e, rep_same s p, reps_same s q⟩
end
theorem p2_same {H H' : Hp} (s : Same H H') {ds : List D} {vs : List V} (h : P2 (Rep H) ds vs) : P2 (Rep H') ds vs := h.imp fun _ _ => rep_same s
/-! .. is the tree of the other reading -/
mutual
theorem rep_up (K : PySem.W.Frag) {H : Hp} : ∀ {d : D} {v : V}, Rep H d v → L2.Rep K H d v
  | .non, v, h => by rw [Rep] at h; rw [L2.Rep]; exact h
  | .bl b, v, h => by rw [Rep] at h; rw [L2.Rep]; exact h
  | .int i, v, h => by rw [Rep] at h; rw [L2.Rep]; exact h
  | .str x, v, h => by rw [Rep] at h; rw [L2.Rep]; exact h
  | .lst ds, v, h => by
    rw [Rep] at h
    rw [L2.Rep]
    obtain ⟨a, xs, e, q, r⟩ := h
    exact ⟨a, xs, e, q.sq, reps_up K r⟩
  | .tup ds, v, h => by
    rw [Rep] at h
    rw [L2.Rep]
    obtain ⟨a, xs, e, q, r⟩ := h
    exact ⟨a, xs, e, .inl (.inl q), reps_up K r⟩
theorem reps_up (K : PySem.W.Frag) {H : Hp} : ∀ {ds : List D} {vs : List V}, Reps H ds vs → L2.Reps K H ds vs
  | [], vs, h => by rw [Reps] at h; rw [L2.Reps]; exact h
  | d :: ds, vs, h => by
    rw [Reps] at h
    rw [L2.Reps]
    obtain ⟨v, r, e, p, q⟩ := h
    exact ⟨v, r, e, rep_up K p, reps_up K q⟩
end
/-! ### the part of the heap that may be looked at -/
structure Vw (H Hv : Hp) : Prop where
  sub : Same Hv H
  tup : ∀ a xs, H a = some (.tup xs) → Hv a = some (.tup xs)
  frz : ∀ a o u, H a = some (.frz o u) → Hv a = some (.frz o u)
structure Grow (H Hv H' Hv' : Hp) : Prop where
  old : Same H H'
  vis : Same Hv Hv'
  vw : Vw H' Hv'
  hid : ∀ a o, H a = some o → Hv a = none → Hv' a = none
theorem Vw.refl (H : Hp) : Vw H H := ⟨Same.refl H, fun _ _ e => e, fun _ _ _ e => e⟩
theorem Grow.refl {H Hv : Hp} (v : Vw H Hv) : Grow H Hv H Hv := ⟨Same.refl _, Same.refl _, v, fun _ _ _ e => e⟩
theorem Grow.trans {H Hv H1 Hv1 H2 Hv2 : Hp} (g : Grow H Hv H1 Hv1) (k : Grow H1 Hv1 H2 Hv2) : Grow H Hv H2 Hv2 :=
  ⟨g.old.trans k.old, g.vis.trans k.vis, k.vw, fun a o e n => k.hid a o (g.old a o e) (g.hid a o e n)⟩
theorem vis_none {H Hv : Hp} (v : Vw H Hv) {p : Addr} (h : H p = none) : Hv p = none := v.sub.free h
/-- a new object that may be looked at -/
theorem Grow.new {H Hv : Hp} (v : Vw H Hv) {p : Addr} {o : HO} (h : H p = none) : Grow H Hv (upd H p o) (upd Hv p o) := by
  refine ⟨same_new h, same_new (vis_none v h), ⟨fun b u e => ?_, fun b xs e => ?_, fun b q u e => ?_⟩, fun b u e n => ?_⟩
  · by_cases hb : b = p
    · subst hb; rw [upd_same] at e ⊢; exact e
    · rw [upd_ne hb] at e ⊢; exact v.sub b u e
  · by_cases hb : b = p
    · subst hb; rw [upd_same] at e ⊢; exact e
    · rw [upd_ne hb] at e ⊢; exact v.tup b xs e
  · by_cases hb : b = p
    · subst hb; rw [upd_same] at e ⊢; exact e
    · rw [upd_ne hb] at e ⊢; exact v.frz b q u e
  · rw [upd_ne (ne_of_none e h)]; exact n
/-- what may be changed -/
def Cell : HO → Prop
  | .lst _ => True
  | .dK _ => True
  | .dT _ => True
  | .ext _ => True
  | _ => False
/-- a new object that is kept out of sight -/
theorem Grow.newH {H Hv : Hp} (v : Vw H Hv) {p : Addr} {o : HO} (c : Cell o) (h : H p = none) : Grow H Hv (upd H p o) Hv := by
  refine ⟨same_new h, Same.refl _, ⟨fun b u e => ?_, fun b xs e => ?_, fun b q u e => ?_⟩, fun b u e n => n⟩
  · rw [upd_ne (ne_of_none (v.sub b u e) h)]; exact v.sub b u e
  · by_cases hb : b = p
    · subst hb; rw [upd_same] at e; cases e; exact c.elim
    · rw [upd_ne hb] at e; exact v.tup b xs e
  · by_cases hb : b = p
    · subst hb; rw [upd_same] at e; cases e; exact c.elim
    · rw [upd_ne hb] at e; exact v.frz b q u e
/-- what is out of sight is shown -/
theorem Vw.show {H Hv : Hp} (v : Vw H Hv) {a : Addr} {o : HO} (h : H a = some o) (n : Hv a = none) : Vw H (upd Hv a o) ∧ Same Hv (upd Hv a o) := by
  refine ⟨⟨fun b u e => ?_, fun b xs e => ?_, fun b q u e => ?_⟩, same_new n⟩
  · by_cases hb : b = a
    · subst hb; rw [upd_same] at e; rw [h]; exact e
    · rw [upd_ne hb] at e; exact v.sub b u e
  · by_cases hb : b = a
    · subst hb; rw [upd_same]; rw [h] at e; exact e
    · rw [upd_ne hb]; exact v.tup b xs e
  · by_cases hb : b = a
    · subst hb; rw [upd_same]; rw [h] at e; exact e
    · rw [upd_ne hb]; exact v.frz b q u e
/-! trees without lists -/
mutual
theorem rep_imm {H H' : Hp} (t : ∀ a xs, H a = some (.tup xs) → H' a = some (.tup xs)) : ∀ {d : D} {v : V}, Mi.imm d = true → Rep H d v → Rep H' d v
  | .non, v, _, h => by rw [Rep] at h ⊢; exact h
  | .bl b, v, _, h => by rw [Rep] at h ⊢; exact h
  | .int i, v, _, h => by rw [Rep] at h ⊢; exact h
  | .str x, v, _, h => by rw [Rep] at h ⊢; exact h
  | .lst ds, v, z, h => by rw [Mi.imm] at z; cases z
  | .tup ds, v, z, h => by
    rw [Mi.imm] at z
    rw [Rep] at h ⊢
    obtain ⟨a, xs, e, q, r⟩ := h
    exact ⟨a, xs, e, t _ _ q, reps_imm t z r⟩
theorem reps_imm {H H' : Hp} (t : ∀ a xs, H a = some (.tup xs) → H' a = some (.tup xs)) : ∀ {ds : List D} {vs : List V}, Mi.imms ds = true → Reps H ds vs → Reps H' ds vs
  | [], vs, _, h => by rw [Reps] at h ⊢; exact h
  | d :: ds, vs, z, h => by
    rw [Mi.imms, Bool.and_eq_true] at z
    rw [Reps] at h ⊢
    obtain ⟨v, r, e, p, q⟩ := h
    exact ⟨v, r, e, rep_imm t z.1 p, reps_imm t z.2 q⟩
end
/-! ### answers in the heap -/
def KVs {κ : Type} (H : Hp) (kvs : List (κ × D)) (kv : List (κ × V)) : Prop := P2 (fun p q => p.1 = q.1 ∧ Rep H p.2 q.2) kvs kv
theorem KVs.same {κ : Type} {H H' : Hp} (s : Same H H') {kvs : List (κ × D)} {kv : List (κ × V)} (h : KVs H kvs kv) : KVs H' kvs kv := P2.imp (fun _ _ z => ⟨z.1, rep_same s z.2⟩) h
/-- the content of the cell at a -/
def CellIs (Hv : Hp) : W → HO → Prop
  | .d (.lst ds), .lst xs => P2 (Rep Hv) ds xs
  | .dk kvs, .dK kv => KVs Hv kvs kv
  | .dt kvs, .dT kv => KVs Hv kvs kv
  | _, _ => False
theorem CellIs.same {H H' : Hp} (s : Same H H') : ∀ {w : W} {o : HO}, CellIs H w o → CellIs H' w o := fun {w o} h => by
  cases w with
  | d x =>
    cases x with
    | lst ds => cases o with
      | lst xs => exact p2_same s h
      | _ => exact h.elim
    | _ => cases o <;> exact h.elim
  | dk kvs => cases o with
    | dK kv => exact KVs.same s h
    | _ => exact h.elim
  | dt kvs => cases o with
    | dT kv => exact KVs.same s h
    | _ => exact h.elim
theorem CellIs.cell {H : Hp} {w : W} {o : HO} (h : CellIs H w o) : Cell o := by
  cases w with
  | d x =>
    cases x with
    | lst ds => cases o with
      | lst xs => trivial
      | _ => exact h.elim
    | _ => cases o <;> exact h.elim
  | dk kvs => cases o with
    | dK kv => trivial
    | _ => exact h.elim
  | dt kvs => cases o with
    | dT kv => trivial
    | _ => exact h.elim
def RepW (H : Hp) : W → V → Prop
  | .d x, v => Rep H x v
  | .dk kvs, v => ∃ a kv, v = .ref a ∧ H a = some (.dK kv) ∧ KVs H kvs kv
  | .dt kvs, v => ∃ a kv, v = .ref a ∧ H a = some (.dT kv) ∧ KVs H kvs kv
theorem repW_same {H H' : Hp} (s : Same H H') : ∀ {w : W} {v : V}, RepW H w v → RepW H' w v
  | .d x, v, h => rep_same (d := x) s h
  | .dk kvs, v, ⟨a, kv, e, q, r⟩ => ⟨a, kv, e, s _ _ q, r.same s⟩
  | .dt kvs, v, ⟨a, kv, e, q, r⟩ => ⟨a, kv, e, s _ _ q, r.same s⟩
theorem repW_cell {H : Hp} {w : W} {a : Addr} {o : HO} (h : H a = some o) (c : CellIs H w o) : RepW H w (.ref a) := by
  cases w with
  | d x =>
    cases x with
    | lst ds => cases o with
      | lst xs => exact rep_lst.mpr ⟨a, xs, rfl, .inl h, c⟩
      | _ => exact c.elim
    | _ => cases o <;> exact c.elim
  | dk kvs => cases o with
    | dK kv => exact ⟨a, kv, rfl, h, c⟩
    | _ => exact c.elim
  | dt kvs => cases o with
    | dT kv => exact ⟨a, kv, rfl, h, c⟩
    | _ => exact c.elim
/-- a cell of one's own, out of sight -/
def Own (H Hv : Hp) (w : W) (v : V) : Prop := ∃ a o, v = .ref a ∧ H a = some o ∧ Hv a = none ∧ CellIs Hv w o
/-- read only: in sight, or a cell whose content is in sight -/
def RB (H Hv : Hp) (w : W) (v : V) : Prop := RepW Hv w v ∨ ∃ a o, v = .ref a ∧ H a = some o ∧ CellIs Hv w o
theorem RB.grow {H Hv H' Hv' : Hp} (g : Grow H Hv H' Hv') {w : W} {v : V} (h : RB H Hv w v) : RB H' Hv' w v := by
  rcases h with h | ⟨a, o, e, q, c⟩
  · exact .inl (repW_same g.vis h)
  · exact .inr ⟨a, o, e, g.old _ _ q, c.same g.vis⟩
theorem Own.grow {H Hv H' Hv' : Hp} (g : Grow H Hv H' Hv') {w : W} {v : V} (h : Own H Hv w v) : Own H' Hv' w v := by
  obtain ⟨a, o, e, q, n, c⟩ := h
  exact ⟨a, o, e, g.old _ _ q, g.hid _ _ q n, c.same g.vis⟩
theorem RB.full {H Hv : Hp} (v : Vw H Hv) {w : W} {x : V} (h : RB H Hv w x) : RepW H w x := by
  rcases h with h | ⟨a, o, rfl, q, c⟩
  · exact repW_same v.sub h
  · exact repW_cell q (c.same v.sub)
abbrev RD (H Hv : Hp) (d : D) (v : V) : Prop := RB H Hv (.d d) v
theorem RD.scal {H Hv : Hp} {d : D} {v : V} (h : RD H Hv d v) (n : ∀ ds, d ≠ .lst ds) : Rep Hv d v := by
  rcases h with h | ⟨a, o, e, q, c⟩
  · exact h
  · cases d with
    | lst ds => exact absurd rfl (n ds)
    | _ => cases o <;> exact c.elim
theorem RD.lst {H Hv : Hp} (w : Vw H Hv) {ds : List D} {v : V} (h : RD H Hv (.lst ds) v) : ∃ a xs, v = .ref a ∧ Lst H a xs ∧ P2 (Rep Hv) ds xs := by
  rcases h with h | ⟨a, o, e, q, c⟩
  · obtain ⟨a, xs, e, l, r⟩ := rep_lst.mp h
    exact ⟨a, xs, e, l.same w.sub, r⟩
  · cases o with
    | lst xs => exact ⟨a, xs, e, .inl q, c⟩
    | _ => exact c.elim
theorem RD.tup {H Hv : Hp} (w : Vw H Hv) {ds : List D} {v : V} (h : RD H Hv (.tup ds) v) : ∃ a xs, v = .ref a ∧ H a = some (.tup xs) ∧ Hv a = some (.tup xs) ∧ P2 (Rep Hv) ds xs := by
  obtain ⟨a, xs, e, l, r⟩ := rep_tup.mp (h.scal fun _ z => by cases z)
  exact ⟨a, xs, e, w.sub _ _ l, l, r⟩
theorem RD.int {H Hv : Hp} {i : Int} {v : V} (h : RD H Hv (.int i) v) : v = .int i := rep_int.mp (h.scal fun _ z => by cases z)
theorem RD.str {H Hv : Hp} {i : Str} {v : V} (h : RD H Hv (.str i) v) : v = .str i := rep_str.mp (h.scal fun _ z => by cases z)
theorem RD.bl {H Hv : Hp} {i : Bool} {v : V} (h : RD H Hv (.bl i) v) : v = .bl i := rep_bl.mp (h.scal fun _ z => by cases z)
theorem RD.non {H Hv : Hp} {v : V} (h : RD H Hv .non v) : v = .non := rep_non.mp (h.scal fun _ z => by cases z)
theorem RD.full {H Hv : Hp} (v : Vw H Hv) {d : D} {x : V} (h : RD H Hv d x) : Rep H d x := RB.full v h
/-! ### the kinds of an answer -/
abbrev Kd := Hp → Hp → Hp → W → V → Prop
def qP : Kd := fun _ H' Hv' w v => RB H' Hv' w v
def qV : Kd := fun _ _ Hv' w v => RepW Hv' w v
def qN : Kd := fun H H' Hv' w v => ∃ a o, v = .ref a ∧ H a = none ∧ H' a = some o ∧ Hv' a = none ∧ CellIs Hv' w o
theorem qv_int {H H' Hv' : Hp} {i : Int} : qV H H' Hv' (.d (.int i)) (.int i) := (rep_int (H := Hv')).mpr rfl
theorem qv_str {H H' Hv' : Hp} {i : Str} : qV H H' Hv' (.d (.str i)) (.str i) := (rep_str (H := Hv')).mpr rfl
theorem qv_bl {H H' Hv' : Hp} {i : Bool} : qV H H' Hv' (.d (.bl i)) (.bl i) := (rep_bl (H := Hv')).mpr rfl
theorem qv_non {H H' Hv' : Hp} : qV H H' Hv' (.d .non) .non := (rep_non (H := Hv')).mpr rfl
class KM (κ : Kd) : Prop where
  mono : ∀ {H H1 H' Hv' w v}, Same H H1 → κ H1 H' Hv' w v → κ H H' Hv' w v
instance : KM qP := ⟨fun _ h => h⟩
instance : KM qV := ⟨fun _ h => h⟩
instance : KM qN := ⟨fun s ⟨a, o, e, n, r⟩ => ⟨a, o, e, s.free n, r⟩⟩
/-! ### names and their values -/
structure R0 (M : Nat → Bool) (e : Mi.Env) (σ : L2.St) (H Hv : Hp) : Prop where
  vw : Vw H Hv
  len : σ.length = e.length
  nob : ∀ i w, e[i]? = some (some w) → M i = false → ∃ v, σ[i]? = some (some v) ∧ RepW Hv w v
  own : ∀ i w, e[i]? = some (some w) → M i = true → ∃ v, σ[i]? = some (some v) ∧ Own H Hv w v
theorem R0.grow {M : Nat → Bool} {e : Mi.Env} {σ : L2.St} {H Hv H' Hv' : Hp} (r : R0 M e σ H Hv) (g : Grow H Hv H' Hv') : R0 M e σ H' Hv' :=
  ⟨g.vw, r.len, fun i w h m => let ⟨v, q, z⟩ := r.nob i w h m; ⟨v, q, repW_same g.vis z⟩, fun i w h m => let ⟨v, q, z⟩ := r.own i w h m; ⟨v, q, z.grow g⟩⟩
/-- .. in a def's body: H0, Hv0 at its entry -/
structure R1 (M : Nat → Bool) (H0 Hv0 : Hp) (e : Mi.Env) (σ : L2.St) (H Hv : Hp) : Prop extends R0 M e σ H Hv where
  gw : Grow H0 Hv0 H Hv
  fresh : ∀ i w a, e[i]? = some (some w) → M i = true → σ[i]? = some (some (.ref a)) → H0 a = none
  sep : ∀ i j w w' a b, i ≠ j → e[i]? = some (some w) → e[j]? = some (some w') → M i = true → M j = true → σ[i]? = some (some (.ref a)) → σ[j]? = some (some (.ref b)) → a ≠ b
theorem R1.grow {M : Nat → Bool} {H0 Hv0 : Hp} {e : Mi.Env} {σ : L2.St} {H Hv H' Hv' : Hp} (r : R1 M H0 Hv0 e σ H Hv) (g : Grow H Hv H' Hv') : R1 M H0 Hv0 e σ H' Hv' :=
  ⟨r.toR0.grow g, r.gw.trans g, r.fresh, r.sep⟩
end A

set_option Elab.async false
set_option linter.all false
set_option maxRecDepth 100000
set_option maxHeartbeats 4000000
namespace A
open PySem L2 PyProof.Rows
open Mi (D W Rs Fin fin_bind)
abbrev MEnv := Mi.Env
class KG (κ : Kd) : Prop where
  go : ∀ {H H1 Hv1 H2 Hv2 w v}, Grow H1 Hv1 H2 Hv2 → κ H H1 Hv1 w v → κ H H2 Hv2 w v
instance : KG qP := ⟨fun g h => h.grow g⟩
instance : KG qV := ⟨fun g h => repW_same g.vis h⟩
instance : KG qN := ⟨fun g ⟨a, o, e, n, q, z, c⟩ => ⟨a, o, e, n, g.old _ _ q, g.hid _ _ q z, c.same g.vis⟩⟩
/-! ### expressions -/
def AW (M : Nat → Bool) (κ : Kd) (t : TE) (m : Mi.EW) : Prop := ∀ e σ H Hv Q, R0 M e σ H Hv → Fin (m e) (fun w => ∀ v H' Hv', Grow H Hv H' Hv' → κ H H' Hv' w v → Q v H') → t σ H Q
def AE (M : Nat → Bool) (κ : Kd) (t : TE) (m : Mi.E) : Prop := ∀ e σ H Hv Q, R0 M e σ H Hv → Fin (m e) (fun d => ∀ v H' Hv', Grow H Hv H' Hv' → κ H H' Hv' (.d d) v → Q v H') → t σ H Q
def AT (M : Nat → Bool) (t : TT) (m : Mi.C) : Prop := ∀ e σ H Hv Q, R0 M e σ H Hv → Fin (m e) (fun b => ∀ H' Hv', Grow H Hv H' Hv' → Q b H') → t σ H Q
def AA (M : Nat → Bool) (κ : Kd) (t : TA) (m : MEnv → Rs (List D)) : Prop := ∀ e σ H Hv Q, R0 M e σ H Hv → Fin (m e) (fun ds => ∀ vs H' Hv', Grow H Hv H' Hv' → P2 (fun d v => κ H H' Hv' (.d d) v) ds vs → Q vs H') → t σ H Q
def AAW (M : Nat → Bool) (κ : Kd) (t : TA) (m : MEnv → Rs (List W)) : Prop := ∀ e σ H Hv Q, R0 M e σ H Hv → Fin (m e) (fun ws => ∀ vs H' Hv', Grow H Hv H' Hv' → P2 (fun w v => κ H H' Hv' w v) ws vs → Q vs H') → t σ H Q
def AO (M : Nat → Bool) (t : TO) (m : MEnv → Rs (Option Int)) : Prop := ∀ e σ H Hv Q, R0 M e σ H Hv → Fin (m e) (fun o => ∀ H' Hv', Grow H Hv H' Hv' → Q o H') → t σ H Q
section
variable {M : Nat → Bool} {κ : Kd} {t ta tb tc te : TE} {a b c : Mi.E} {r r' : R2} {f g : D → D → Rs D}
theorem AE.w (h : AE M κ t a) : AW M κ t (Mi.wD a) := fun e σ H Hv Q I q => h e σ H Hv Q I ((fin_bind.mp q).mono fun d z => z)
theorem kV_kP {H H' Hv' : Hp} {w : W} {v : V} (h : qV H H' Hv' w v) : qP H H' Hv' w v := .inl h
theorem kN_kP {H H' Hv' : Hp} {w : W} {v : V} (h : qN H H' Hv' w v) : qP H H' Hv' w v := by
  obtain ⟨a, o, e, _, q, _, c⟩ := h
  exact .inr ⟨a, o, e, q, c⟩
theorem kN_show {H Hv H' Hv' : Hp} (g : Grow H Hv H' Hv') {w : W} {v : V} (h : qN H H' Hv' w v) : ∃ Hv'', Grow H Hv H' Hv'' ∧ RepW Hv'' w v := by
  obtain ⟨a, o, rfl, n, q, z, c⟩ := h
  obtain ⟨vw, s⟩ := g.vw.show q z
  refine ⟨upd Hv' a o, ⟨g.old, g.vis.trans s, vw, fun b u e m => ?_⟩, repW_cell upd_same (c.same s)⟩
  rw [upd_ne (ne_of_none e n)]; exact g.hid b u e m
theorem AW.p (h : AW M qV t m) : AW M qP t m := fun e σ H Hv Q I q => h e σ H Hv Q I (q.mono fun w z v H' Hv' g k => z v H' Hv' g (kV_kP k))
theorem AW.np (h : AW M qN t m) : AW M qP t m := fun e σ H Hv Q I q => h e σ H Hv Q I (q.mono fun w z v H' Hv' g k => z v H' Hv' g (kN_kP k))
theorem AW.nv (h : AW M qN t m) : AW M qV t m := fun e σ H Hv Q I q => h e σ H Hv Q I (q.mono fun w z v H' Hv' g k => let ⟨Hv'', g', r⟩ := kN_show g k; z v H' Hv'' g' r)
theorem AE.p (h : AE M qV t a) : AE M qP t a := fun e σ H Hv Q I q => h e σ H Hv Q I (q.mono fun w z v H' Hv' g k => z v H' Hv' g (kV_kP k))
theorem AE.np (h : AE M qN t a) : AE M qP t a := fun e σ H Hv Q I q => h e σ H Hv Q I (q.mono fun w z v H' Hv' g k => z v H' Hv' g (kN_kP k))
theorem AE.nv (h : AE M qN t a) : AE M qV t a := fun e σ H Hv Q I q => h e σ H Hv Q I (q.mono fun w z v H' Hv' g k => let ⟨Hv'', g', r⟩ := kN_show g k; z v H' Hv'' g' r)
theorem a_int {i : Int} : AE M qV (tC (.int i)) (Mi.mC (.int i)) := fun e σ H Hv Q I h => h _ H Hv (.refl I.vw) qv_int
theorem a_str {i : Str} : AE M qV (tC (.str i)) (Mi.mC (.str i)) := fun e σ H Hv Q I h => h _ H Hv (.refl I.vw) qv_str
theorem a_bl {i : Bool} : AE M qV (tC (.bl i)) (Mi.mC (.bl i)) := fun e σ H Hv Q I h => h _ H Hv (.refl I.vw) qv_bl
theorem a_non : AE M qV (tC .non) (Mi.mC .non) := fun e σ H Hv Q I h => h _ H Hv (.refl I.vw) qv_non
theorem mV_ok {e : MEnv} {i : Nat} {k : D → Prop} (h : Fin (Mi.mV i e) k) : ∃ d, e[i]? = some (some (.d d)) ∧ k d := by
  unfold Mi.mV at h
  split at h
  · exact ⟨_, ‹_›, h⟩
  · exact h.elim
theorem wV_ok {e : MEnv} {i : Nat} {k : W → Prop} (h : Fin (Mi.wV i e) k) : ∃ w, e[i]? = some (some w) ∧ k w := by
  unfold Mi.wV at h
  split at h
  · exact ⟨_, ‹_›, h⟩
  · exact h.elim
theorem a_var (i : Nat) (hm : M i = false) : AE M qV (tVar i) (Mi.mV i) := fun e σ H Hv Q I h => by
  obtain ⟨d, he, k⟩ := mV_ok h
  obtain ⟨v, q, z⟩ := I.nob i _ he hm
  exact ⟨v, q, k v H Hv (.refl I.vw) z⟩
theorem own_kP {H Hv : Hp} {w : W} {v : V} (h : Own H Hv w v) : RB H Hv w v := by
  obtain ⟨a, o, e, q, _, c⟩ := h
  exact .inr ⟨a, o, e, q, c⟩
theorem R0.any {e : MEnv} {σ : L2.St} {H Hv : Hp} (I : R0 M e σ H Hv) {i : Nat} {w : W} (he : e[i]? = some (some w)) : ∃ v, σ[i]? = some (some v) ∧ RB H Hv w v := by
  cases hm : M i with
  | false =>
    obtain ⟨v, q, z⟩ := I.nob i w he hm
    exact ⟨v, q, .inl z⟩
  | true =>
    obtain ⟨v, q, z⟩ := I.own i w he hm
    exact ⟨v, q, own_kP z⟩
theorem a_varP (i : Nat) : AE M qP (tVar i) (Mi.mV i) := fun e σ H Hv Q I h => by
  obtain ⟨d, he, k⟩ := mV_ok h
  obtain ⟨v, q, z⟩ := I.any he
  exact ⟨v, q, k v H Hv (.refl I.vw) z⟩
theorem aw_var (i : Nat) (hm : M i = false) : AW M qV (tVar i) (Mi.wV i) := fun e σ H Hv Q I h => by
  obtain ⟨d, he, k⟩ := wV_ok h
  obtain ⟨v, q, z⟩ := I.nob i _ he hm
  exact ⟨v, q, k v H Hv (.refl I.vw) z⟩
theorem aw_varP (i : Nat) : AW M qP (tVar i) (Mi.wV i) := fun e σ H Hv Q I h => by
  obtain ⟨d, he, k⟩ := wV_ok h
  obtain ⟨v, q, z⟩ := I.any he
  exact ⟨v, q, k v H Hv (.refl I.vw) z⟩
/-! ### operations -/
def B2 (κ : Kd) (r : R2) (f : D → D → Rs D) : Prop := ∀ x y v u H Hv Q, Vw H Hv → RD H Hv x v → RD H Hv y u → Fin (f x y) (fun d => ∀ w H' Hv', Grow H Hv H' Hv' → κ H H' Hv' (.d d) w → Q w H') → r v u H Q
def B1 (κ : Kd) (r : V → Hp → VK → Prop) (f : D → Rs D) : Prop := ∀ x v H Hv Q, Vw H Hv → RD H Hv x v → Fin (f x) (fun d => ∀ w H' Hv', Grow H Hv H' Hv' → κ H H' Hv' (.d d) w → Q w H') → r v H Q
def BN (κ : Kd) (r : List V → Hp → VK → Prop) (f : List D → Rs D) : Prop := ∀ ds vs H Hv Q, Vw H Hv → P2 (RD H Hv) ds vs → Fin (f ds) (fun d => ∀ w H' Hv', Grow H Hv H' Hv' → κ H H' Hv' (.d d) w → Q w H') → r vs H Q
theorem a_bin [KM κ] (hr : B2 κ r f) (ha : AE M qP ta a) (hb : AE M qP tb b) : AE M κ (tOp r ta tb) (Mi.m2 f a b) := fun e σ H Hv Q I h =>
  ha e σ H Hv _ I ((fin_bind.mp h).mono fun x hx v H1 Hv1 g1 rx => hb e σ H1 Hv1 _ (I.grow g1) ((fin_bind.mp hx).mono fun y hy u H2 Hv2 g2 ry =>
    hr x y v u H2 Hv2 Q g2.vw (RB.grow g2 rx) ry (hy.mono fun d hd w H3 Hv3 g3 rw => hd w H3 Hv3 (g1.trans (g2.trans g3)) (KM.mono (g1.old.trans g2.old) rw))))
theorem a_un [KM κ] {r : V → Hp → VK → Prop} {f : D → Rs D} (hr : B1 κ r f) (ha : AE M qP ta a) : AE M κ (tUn r ta) (Mi.m1 f a) := fun e σ H Hv Q I h =>
  ha e σ H Hv _ I ((fin_bind.mp h).mono fun x hx v H1 Hv1 g1 rx => hr x v H1 Hv1 Q g1.vw rx (hx.mono fun d hd w H3 Hv3 g3 rw => hd w H3 Hv3 (g1.trans g3) (KM.mono g1.old rw)))
theorem asB_ok {x : D} {k : Bool → Prop} (h : Fin (Mi.asB x) k) : ∃ b, x = .bl b ∧ k b := by
  cases x with
  | bl b => exact ⟨b, rfl, h⟩
  | _ => exact h.elim
theorem asI_ok {x : D} {k : Int → Prop} (h : Fin (Mi.asI x) k) : ∃ b, x = .int b ∧ k b := by
  cases x with
  | int b => exact ⟨b, rfl, h⟩
  | _ => exact h.elim
theorem a_and (ha : AE M qP ta a) (hb : AE M qV tb b) : AE M qV (tAndV ta tb) (Mi.mAnd a b) := fun e σ H Hv Q I h =>
  ha e σ H Hv _ I ((fin_bind.mp h).mono fun x hx v H1 Hv1 g1 rx => by
    obtain ⟨k, rfl, hk⟩ := asB_ok (fin_bind.mp hx)
    cases RD.bl rx
    refine ⟨k, rfl, ?_⟩
    cases k with
    | true => exact iteT (hb e σ H1 Hv1 Q (I.grow g1) (Fin.mono (Mi.fin_t hk) fun d hd w H2 Hv2 g2 rw => hd w H2 Hv2 (g1.trans g2) rw))
    | false => exact iteF ((Mi.fin_now (Mi.fin_f hk)) _ H1 Hv1 g1 qv_bl))
theorem a_or (ha : AE M qP ta a) (hb : AE M qV tb b) : AE M qV (tOrV ta tb) (Mi.mOr a b) := fun e σ H Hv Q I h =>
  ha e σ H Hv _ I ((fin_bind.mp h).mono fun x hx v H1 Hv1 g1 rx => by
    obtain ⟨k, rfl, hk⟩ := asB_ok (fin_bind.mp hx)
    cases RD.bl rx
    refine ⟨k, rfl, ?_⟩
    cases k with
    | false => exact iteF (hb e σ H1 Hv1 Q (I.grow g1) (Fin.mono (Mi.fin_f hk) fun d hd w H2 Hv2 g2 rw => hd w H2 Hv2 (g1.trans g2) rw))
    | true => exact iteT ((Mi.fin_now (Mi.fin_t hk)) _ H1 Hv1 g1 qv_bl))
theorem a_not (ha : AE M qP ta a) : AE M qV (tNotV ta) (Mi.mNot a) := fun e σ H Hv Q I h =>
  ha e σ H Hv _ I ((fin_bind.mp h).mono fun x hx v H1 Hv1 g1 rx => by
    obtain ⟨k, rfl, hk⟩ := asB_ok (fin_bind.mp hx)
    cases RD.bl rx
    exact ⟨k, rfl, hk _ H1 Hv1 g1 qv_bl⟩)
theorem a_ifE [KM κ] {tt : TT} {k : Mi.C} (hc : AT M tt k) (ha : AE M κ ta a) (hb : AE M κ tb b) : AE M κ (tIf tt ta tb) (Mi.mIfE k a b) := fun e σ H Hv Q I h =>
  hc e σ H Hv _ I ((fin_bind.mp h).mono fun x hx H1 Hv1 g1 => by
    cases x with
    | true => exact iteT (ha e σ H1 Hv1 Q (I.grow g1) (Fin.mono (Mi.fin_t hx) fun d hd w H2 Hv2 g2 rw => hd w H2 Hv2 (g1.trans g2) (KM.mono g1.old rw)))
    | false => exact iteF (hb e σ H1 Hv1 Q (I.grow g1) (Fin.mono (Mi.fin_f hx) fun d hd w H2 Hv2 g2 rw => hd w H2 Hv2 (g1.trans g2) (KM.mono g1.old rw))))
theorem a_chain (h1 : B2 qV r f) (h2 : B2 qV r' g) (ha : AE M qP ta a) (hb : AE M qP tb b) (hc : AE M qP tc c) : AE M qV (tChain r r' ta tb tc) (Mi.mChain f g a b c) := fun e σ H Hv Q I h =>
  ha e σ H Hv _ I ((fin_bind.mp h).mono fun x hx v H1 Hv1 g1 rx => hb e σ H1 Hv1 _ (I.grow g1) ((fin_bind.mp hx).mono fun y hy u H2 Hv2 g2 ry =>
    h1 x y v u H2 Hv2 _ g2.vw (RB.grow g2 rx) ry ((fin_bind.mp hy).mono fun d hd w H3 Hv3 g3 rw => by
      obtain ⟨k, rfl, hk⟩ := asB_ok (fin_bind.mp hd)
      cases (rep_bl (H := Hv3)).mp rw
      refine ⟨k, rfl, ?_⟩
      cases k with
      | false => exact iteF ((Mi.fin_now (Mi.fin_f hk)) _ H3 Hv3 (g1.trans (g2.trans g3)) qv_bl)
      | true => exact iteT (hc e σ H3 Hv3 _ (I.grow (g1.trans (g2.trans g3))) ((fin_bind.mp (Mi.fin_t hk)).mono fun z hz w4 H4 Hv4 g4 rz =>
          h2 y z u w4 H4 Hv4 Q g4.vw (RB.grow (g3.trans g4) ry) rz (hz.mono fun d hd w5 H5 Hv5 g5 r5 => hd w5 H5 Hv5 (g1.trans (g2.trans (g3.trans (g4.trans g5)))) r5))))))
/-! slices -/
theorem ao_none : AO M tNoPart (Mi.mPart none) := fun e σ H Hv Q I h => h H Hv (.refl I.vw)
theorem ao_some (ha : AE M qP ta a) : AO M (tPart ta) (Mi.mPart (some a)) := fun e σ H Hv Q I h =>
  ha e σ H Hv _ I ((fin_bind.mp h).mono fun x hx v H1 Hv1 g1 rx => by
    obtain ⟨i, rfl, hk⟩ := asI_ok (fin_bind.mp hx)
    exact ⟨i, RD.int rx, hk H1 Hv1 g1⟩)
def BS (κ : Kd) (r : V → Option Int → Option Int → Hp → VK → Prop) (f : D → Option Int → Option Int → Rs D) : Prop := ∀ x lo hi v H Hv Q, Vw H Hv → RD H Hv x v → Fin (f x lo hi) (fun d => ∀ w H' Hv', Grow H Hv H' Hv' → κ H H' Hv' (.d d) w → Q w H') → r v lo hi H Q
theorem a_sl [KM κ] {r : V → Option Int → Option Int → Hp → VK → Prop} {tl th : TO} {lo hi : Option Mi.E} {f : D → Option Int → Option Int → Rs D} (hr : BS κ r f) (ha : AE M qP ta a) (hl : AO M tl (Mi.mPart lo)) (hh : AO M th (Mi.mPart hi)) : AE M κ (tSl r ta tl th) (Mi.mSlF f a lo hi) := fun e σ H Hv Q I h =>
  ha e σ H Hv _ I ((fin_bind.mp h).mono fun x hx v H1 Hv1 g1 rx => hl e σ H1 Hv1 _ (I.grow g1) ((fin_bind.mp hx).mono fun l hl H2 Hv2 g2 => hh e σ H2 Hv2 _ (I.grow (g1.trans g2)) ((fin_bind.mp hl).mono fun u hu H3 Hv3 g3 =>
    hr x l u v H3 Hv3 Q g3.vw (RB.grow (g2.trans g3) rx) (hu.mono fun d hd w H4 Hv4 g4 rw => hd w H4 Hv4 (g1.trans (g2.trans (g3.trans g4))) (KM.mono (g1.old.trans (g2.old.trans g3.old)) rw)))))
/-! tests -/
theorem at_b (ha : AE M qP ta a) : AT M (tB ta) (Mi.cB a) := fun e σ H Hv Q I h =>
  ha e σ H Hv _ I ((fin_bind.mp h).mono fun x hx v H1 Hv1 g1 rx => by
    obtain ⟨k, rfl, hk⟩ := asB_ok hx
    exact ⟨k, RD.bl rx, hk H1 Hv1 g1⟩)
theorem at_test (ha : AE M qP ta a) : AT M (tTest ta) (Mi.cB a) := at_b ha
theorem at_truth {K : PySem.W.Frag} (ha : AE M qP ta a) : AT M (fun σ H Q => ta σ H fun x H' => ∃ k, TruV K x H' k ∧ Q k H') (Mi.cTru a) := fun e σ H Hv Q I h =>
  ha e σ H Hv _ I ((fin_bind.mp h).mono fun x hx v H1 Hv1 g1 rx => by
    cases x with
    | non => cases RD.non rx; exact ⟨false, rfl, hx H1 Hv1 g1⟩
    | bl b => cases RD.bl rx; exact ⟨b, rfl, hx H1 Hv1 g1⟩
    | int i => cases RD.int rx; exact ⟨_, rfl, hx H1 Hv1 g1⟩
    | str y =>
      cases RD.str rx
      obtain ⟨hz, hq⟩ := Mi.fin_guard hx
      exact ⟨_, ⟨by rw [sizeLine_eq]; exact hz, rfl⟩, hq H1 Hv1 g1⟩
    | lst ds =>
      obtain ⟨p, xs, rfl, l, r⟩ := RD.lst g1.vw rx
      refine ⟨!xs.isEmpty, .inl ⟨xs, l.sq, rfl⟩, ?_⟩
      have : ds.isEmpty = xs.isEmpty := by cases r <;> rfl
      rw [← this]; exact hx H1 Hv1 g1
    | tup ds =>
      obtain ⟨p, xs, rfl, l, _, r⟩ := RD.tup g1.vw rx
      refine ⟨!xs.isEmpty, .inr (.inl ⟨xs, .inl (.inl l), rfl⟩), ?_⟩
      have : ds.isEmpty = xs.isEmpty := by cases r <;> rfl
      rw [← this]; exact hx H1 Hv1 g1)
variable {tt uu : TT} {k l : Mi.C}
theorem at_and (ha : AT M tt k) (hb : AT M uu l) : AT M (tAnd tt uu) (Mi.cAnd k l) := fun e σ H Hv Q I h =>
  ha e σ H Hv _ I ((fin_bind.mp h).mono fun x hx H1 Hv1 g1 => by
    cases x with
    | true => exact iteT (hb e σ H1 Hv1 Q (I.grow g1) (Fin.mono (Mi.fin_t hx) fun b hd H2 Hv2 g2 => hd H2 Hv2 (g1.trans g2)))
    | false => exact iteF ((Mi.fin_now (Mi.fin_f hx)) H1 Hv1 g1))
theorem at_or (ha : AT M tt k) (hb : AT M uu l) : AT M (tOr tt uu) (Mi.cOr k l) := fun e σ H Hv Q I h =>
  ha e σ H Hv _ I ((fin_bind.mp h).mono fun x hx H1 Hv1 g1 => by
    cases x with
    | false => exact iteF (hb e σ H1 Hv1 Q (I.grow g1) (Fin.mono (Mi.fin_f hx) fun b hd H2 Hv2 g2 => hd H2 Hv2 (g1.trans g2)))
    | true => exact iteT ((Mi.fin_now (Mi.fin_t hx)) H1 Hv1 g1))
theorem at_not (ha : AT M tt k) : AT M (tNot tt) (Mi.cNot k) := fun e σ H Hv Q I h =>
  ha e σ H Hv _ I ((fin_bind.mp h).mono fun x hx H1 Hv1 g1 => hx H1 Hv1 g1)
theorem at_yes : AT M tYes Mi.cYes := fun e σ H Hv Q I h => h H Hv (.refl I.vw)
/-! arguments -/
variable {tr : TA} {as : List Mi.E} {ws : List Mi.EW}
theorem aa_nil : AA M κ tNil (Mi.mArgs []) := fun e σ H Hv Q I h => h [] H Hv (.refl I.vw) .nil
theorem aa_cons [KM κ] [KG κ] (ha : AE M κ ta a) (hr : AA M κ tr (Mi.mArgs as)) : AA M κ (tCons ta tr) (Mi.mArgs (a :: as)) := fun e σ H Hv Q I h =>
  ha e σ H Hv _ I ((fin_bind.mp h).mono fun x hx v H1 Hv1 g1 rx => hr e σ H1 Hv1 _ (I.grow g1) ((fin_bind.mp hx).mono fun xs hs vs H2 Hv2 g2 rs =>
    hs (v :: vs) H2 Hv2 (g1.trans g2) (.cons (KG.go g2 rx) (rs.imp fun _ _ z => KM.mono g1.old z))))
theorem aw_nil : AAW M κ tNil (Mi.mArgsW []) := fun e σ H Hv Q I h => h [] H Hv (.refl I.vw) .nil
theorem aw_cons [KM κ] [KG κ] {w : Mi.EW} (ha : AW M κ ta w) (hr : AAW M κ tr (Mi.mArgsW ws)) : AAW M κ (tCons ta tr) (Mi.mArgsW (w :: ws)) := fun e σ H Hv Q I h =>
  ha e σ H Hv _ I ((fin_bind.mp h).mono fun x hx v H1 Hv1 g1 rx => hr e σ H1 Hv1 _ (I.grow g1) ((fin_bind.mp hx).mono fun xs hs vs H2 Hv2 g2 rs =>
    hs (v :: vs) H2 Hv2 (g1.trans g2) (.cons (KG.go g2 rx) (rs.imp fun _ _ z => KM.mono g1.old z))))
theorem a_cb [KM κ] {r : List V → Hp → VK → Prop} {f : List D → Rs D} (hr : BN κ r f) (ha : AA M qP tr (Mi.mArgs as)) : AE M κ (tCB r tr) (Mi.mN f as) := fun e σ H Hv Q I h =>
  ha e σ H Hv _ I ((fin_bind.mp h).mono fun ds hx vs H1 Hv1 g1 rx => hr ds vs H1 Hv1 Q g1.vw rx (hx.mono fun d hd w H3 Hv3 g3 rw => hd w H3 Hv3 (g1.trans g3) (KM.mono g1.old rw)))
theorem a_tup (ha : AA M qV tr (Mi.mArgs as)) : AE M qV (tTup tr) (Mi.mN Mi.dTup as) := fun e σ H Hv Q I h =>
  ha e σ H Hv _ I ((fin_bind.mp h).mono fun ds hx vs H1 Hv1 g1 rx => by
    obtain ⟨hz, hq⟩ := Mi.fin_guard hx
    refine ⟨by rw [← rx.len, sizeLine_eq]; exact hz, fun p hp => ?_⟩
    have g2 : Grow H1 Hv1 (upd H1 p (.tup vs)) (upd Hv1 p (.tup vs)) := .new g1.vw hp
    exact hq _ _ _ (g1.trans g2) (rep_tup.mpr ⟨p, vs, rfl, upd_same, p2_same g2.vis rx⟩))
theorem a_lst (ha : AA M qV tr (Mi.mArgs as)) : AE M qN (tLst tr) (Mi.mN Mi.dLst as) := fun e σ H Hv Q I h =>
  ha e σ H Hv _ I ((fin_bind.mp h).mono fun ds hx vs H1 Hv1 g1 rx => by
    obtain ⟨hz, hq⟩ := Mi.fin_guard hx
    refine ⟨by rw [← rx.len, sizeLine_eq]; exact hz, fun p hp => ?_⟩
    have g2 : Grow H1 Hv1 (upd H1 p (.lst vs)) Hv1 := .newH g1.vw trivial hp
    exact hq _ _ _ (g1.trans g2) ⟨p, .lst vs, rfl, g1.old.free hp, upd_same, vis_none g1.vw hp, rx⟩)
/-! ### calls of defs -/
def spD (f : Mi.Fn) : Sp := fun vs H Q _ => ∃ Hv ws, Vw H Hv ∧ P2 (RepW Hv) ws vs ∧ Fin (f ws) (fun w => ∀ v H' Hv', Grow H Hv H' Hv' → qV H H' Hv' w v → Q v H')
def spN (f : Mi.Fn) : Sp := fun vs H Q _ => ∃ Hv ws, Vw H Hv ∧ P2 (RepW Hv) ws vs ∧ Fin (f ws) (fun w => ∀ v H' Hv', Grow H Hv H' Hv' → qN H H' Hv' w v → Q v H')
theorem spD_spN {f : Mi.Fn} {vs : List V} {H : Hp} {Q : VK} {E : XK} (h : spD f vs H Q E) : spN f vs H Q E := by
  obtain ⟨Hv, ws, v, p, q⟩ := h
  exact ⟨Hv, ws, v, p, q.mono fun w z v H' Hv' g k => let ⟨Hv'', g', r⟩ := kN_show g k; z v H' Hv'' g' r⟩
variable {fn : Mi.Fn} {E : XK}
theorem aw_call (ha : AAW M qV tr (Mi.mArgsW ws)) : AW M qV (tCall (spD fn) [] E tr) (Mi.wCall fn ws) := fun e σ H Hv Q I h =>
  ha e σ H Hv _ I ((fin_bind.mp h).mono fun ds hx vs H1 Hv1 g1 rx => by
    rw [List.append_nil]
    exact ⟨Hv1, ds, g1.vw, rx, hx.mono fun d hd w H3 Hv3 g3 rw => hd w H3 Hv3 (g1.trans g3) rw⟩)
theorem aw_callN (ha : AAW M qV tr (Mi.mArgsW ws)) : AW M qN (tCall (spN fn) [] E tr) (Mi.wCall fn ws) := fun e σ H Hv Q I h =>
  ha e σ H Hv _ I ((fin_bind.mp h).mono fun ds hx vs H1 Hv1 g1 rx => by
    rw [List.append_nil]
    exact ⟨Hv1, ds, g1.vw, rx, hx.mono fun d hd w H3 Hv3 g3 rw => hd w H3 Hv3 (g1.trans g3) (KM.mono (κ := qN) g1.old rw)⟩)
theorem asD_ok {w : W} {k : D → Prop} (h : Fin (Mi.asD w) k) : ∃ d, w = .d d ∧ k d := by
  cases w with
  | d x => exact ⟨x, rfl, h⟩
  | _ => exact h.elim
theorem AW.d {w : Mi.EW} (h : AW M κ t w) : AE M κ t (fun e => (w e).bind Mi.asD) := fun e σ H Hv Q I q =>
  h e σ H Hv Q I ((fin_bind.mp q).mono fun w z v H' Hv' g k => by
    obtain ⟨d, rfl, z⟩ := asD_ok z
    exact z v H' Hv' g k)
theorem a_call (ha : AAW M qV tr (Mi.mArgsW ws)) : AE M qV (tCall (spD fn) [] E tr) (Mi.mCall fn ws) := (aw_call ha).d
theorem a_callN (ha : AAW M qV tr (Mi.mArgsW ws)) : AE M qN (tCall (spN fn) [] E tr) (Mi.mCall fn ws) := (aw_callN ha).d
/-- the part in sight behind a call that saw all -/
def seen (H Hv H' : Hp) : Hp := fun a => match Hv a, H a with
  | none, some _ => none
  | _, _ => H' a
theorem seen_grow {H Hv H' : Hp} (v : Vw H Hv) (s : Same H H') : Grow H Hv H' (seen H Hv H') := by
  have key : ∀ a, (∃ o, H a = some o ∧ Hv a = none ∧ seen H Hv H' a = none) ∨ (seen H Hv H' a = H' a ∧ ∀ o, H a = some o → Hv a = some o) := fun a => by
    cases h1 : Hv a with
    | none =>
      cases h2 : H a with
      | none => exact .inr ⟨by unfold seen; rw [h1, h2], fun o e => by cases e⟩
      | some o => exact .inl ⟨o, rfl, rfl, by unfold seen; rw [h1, h2]⟩
    | some o =>
      refine .inr ⟨by unfold seen; rw [h1], fun u e => ?_⟩
      rw [v.sub a o h1] at e; exact e
  refine ⟨s, fun b o e => ?_, ⟨fun b o e => ?_, fun b xs e => ?_, fun b q u e => ?_⟩, fun b o e n => ?_⟩
  · rcases key b with ⟨u, _, z, _⟩ | ⟨z, _⟩
    · rw [e] at z; cases z
    · rw [z]; exact s b o (v.sub b o e)
  · rcases key b with ⟨u, _, _, z⟩ | ⟨z, _⟩
    · rw [e] at z; cases z
    · rw [← z]; exact e
  · rcases key b with ⟨u, h1, h2, _⟩ | ⟨z, _⟩
    · have := s b u h1
      rw [e] at this; cases this
      rw [v.tup b xs h1] at h2; cases h2
    · rw [z]; exact e
  · rcases key b with ⟨w, h1, h2, _⟩ | ⟨z, _⟩
    · have := s b w h1
      rw [e] at this; cases this
      rw [v.frz b q u h1] at h2; cases h2
    · rw [z]; exact e
  · rcases key b with ⟨u, h1, h2, z⟩ | ⟨z, k⟩
    · exact z
    · rw [k o e] at n; cases n
/-- lists of one's own are lent: the answer has no list in it -/
theorem a_callI (ha : AAW M qP tr (Mi.mArgsW ws)) : AE M qV (tCall (spD fn) [] E tr) (Mi.mCallI fn ws) := fun e σ H Hv Q I h =>
  ha e σ H Hv _ I ((fin_bind.mp (fin_bind.mp h)).mono fun ds hx vs H1 Hv1 g1 rx => by
    rw [List.append_nil]
    refine ⟨H1, ds, .refl _, rx.imp fun w v z => RB.full g1.vw z, hx.mono fun w hd v H3 Hv3 g3 rw => ?_⟩
    cases w with
    | d x =>
      obtain ⟨hi, hd⟩ := Mi.fin_guard hd
      have g4 := seen_grow g1.vw g3.old
      refine hd v H3 _ (g1.trans g4) (rep_imm g4.vw.tup hi (rep_same g3.vw.sub rw))
    | _ => exact hd.elim)
end
end A

set_option Elab.async false
set_option linter.all false
set_option maxRecDepth 100000
set_option maxHeartbeats 4000000
namespace A
open PySem L2 PyProof.Rows
open Mi (D W Rs Fin fin_bind Out Tg)
/-! ### what is walked -/
/-- the iterator yields the trees ds, as long as P holds -/
structure ItD (J : It) (P : Hp → Hp → Prop) (ds : List D) : Prop where
  go : ∀ i H Hv, P H Hv → Vw H Hv → i < ds.length → J.go i H
  yld : ∀ i H Hv x H', P H Hv → Vw H Hv → i < ds.length → J.yld i H x H' → ∃ Hv' d, Grow H Hv H' Hv' ∧ ds[i]? = some d ∧ Rep Hv' d x
  stop : ∀ H Hv, P H Hv → Vw H Hv → J.stop ds.length H
/-- for a comprehension: nothing is changed meanwhile -/
def AIc (M : Nat → Bool) (wi : TI) (it : Mi.I) : Prop := ∀ e σ H Hv (R : It → Hp → Prop), R0 M e σ H Hv → Fin (it e) (fun ds => ∀ (J : It) H' Hv' (P : Hp → Hp → Prop), Grow H Hv H' Hv' → ItD J P ds → P H' Hv' → (∀ H1 Hv1 H2 Hv2, P H1 Hv1 → Grow H1 Hv1 H2 Hv2 → P H2 Hv2) → R J H') → wi σ H R
/-- for a loop -/
def AIf (M : Nat → Bool) (wi : TI) (it : Mi.I) : Prop := ∀ e σ H Hv (R : It → Hp → Prop), R0 M e σ H Hv → Fin (it e) (fun ds => ∀ (J : It) H' Hv' (P : Hp → Hp → Prop), Grow H Hv H' Hv' → ItD J P ds → P H' Hv' → (∀ H1 Hv1 H2 Hv2, P H1 Hv1 → Same Hv1 Hv2 → Vw H2 Hv2 → P H2 Hv2) → R J H') → wi σ H R
theorem fin_ok {α : Type} {r : Rs α} {k : α → Prop} (h : Fin r k) : ∃ x, r = .ok x ∧ k x := by
  cases r with
  | ok x => exact ⟨x, rfl, h⟩
  | _ => exact h.elim
section
variable {M : Nat → Bool} {ta tb : TE} {a b : Mi.E} {wi : TI} {it : Mi.I} {tr : TA} {as : List Mi.E}
theorem AIf.c (h : AIf M wi it) : AIc M wi it := fun e σ H Hv R I q => h e σ H Hv R I (q.mono fun ds z J H' Hv' P g o p k => z J H' Hv' P g o p fun H1 Hv1 H2 Hv2 p g' => k H1 Hv1 H2 Hv2 p g'.vis g'.vw)
/-- a source that yields what it has -/
theorem itD_of {J : It} {Ok : Hp → Prop} {xs : List V} (O : J.Of Ok xs) {ds : List D} {P : Hp → Hp → Prop} (ok : ∀ H Hv, P H Hv → Vw H Hv → Ok H) (r : ∀ H Hv, P H Hv → P2 (Rep Hv) ds xs) (ex : ∃ H Hv, P H Hv) : ItD J P ds := by
  have hl : ds.length = xs.length := by obtain ⟨H, Hv, p⟩ := ex; exact (r H Hv p).len
  refine ⟨fun i H Hv p v hi => O.go i H (ok H Hv p v) (by omega), fun i H Hv x H' p v hi y => ?_, fun H Hv p v => by rw [hl]; exact O.stop H (ok H Hv p v)⟩
  obtain ⟨rfl, hx⟩ := O.yld i H x H' (ok H Hv p v) (by omega) y
  obtain ⟨d, hd, rx⟩ := (r H' Hv p).getR hx
  exact ⟨Hv, d, .refl v, hd, rx⟩
/-- a list, a tuple, a text -/
def iSeq (K : PySem.W.Frag) (tl : TE) : TI := fun σ H R => iList K tl σ H R ∨ iTup K tl σ H R ∨ iStr tl σ H R
theorem pi_seq {X : Cx} {tg l : Expr} {tl : TE} (hl : PE X l tl) : PI X tg l (iSeq X.K tl) := fun pins s σ H R I h => by
  rcases h with h | h | h
  · exact pi_list hl pins s σ H R I h
  · exact pi_tup hl pins s σ H R I h
  · exact pi_str hl pins s σ H R I h
theorem sgns_rep (H : Hp) (z : Str) : P2 (Rep H) (z.cps.toList.map fun c => D.str ⟨#[c]⟩) (sgns z) := by
  unfold sgns
  induction z.cps.toList with
  | nil => exact .nil
  | cons c r ih => exact .cons (rep_str.mpr rfl) ih
theorem ai_seqC {K : PySem.W.Frag} (ha : AE M qP ta a) : AIc M (iSeq K ta) (Mi.iOf a) := fun e σ H Hv R I h => by
  obtain ⟨d, hd, h⟩ := fin_ok (fin_bind.mp h)
  have run : ∀ Q : VK, (∀ v H' Hv', Grow H Hv H' Hv' → RD H' Hv' d v → Q v H') → ta σ H Q := fun Q q => ha e σ H Hv Q I (by rw [hd]; exact q)
  cases d with
  | lst ds =>
    refine .inl (run _ fun v H' Hv' g r => ?_)
    obtain ⟨p, xs, rfl, l, r⟩ := RD.lst g.vw r
    exact ⟨p, rfl, ⟨xs, l.sq⟩, h (Itl K p) H' Hv' (fun H Hv => Lst H p xs ∧ P2 (Rep Hv) ds xs) g (itD_of of_list (fun H Hv p v => p.1.sq) (fun H Hv p => p.2) ⟨H', Hv', l, r⟩) ⟨l, r⟩ fun H1 Hv1 H2 Hv2 z g' => ⟨z.1.same g'.old, p2_same g'.vis z.2⟩⟩
  | tup ds =>
    refine .inr (.inl (run _ fun v H' Hv' g r => ?_))
    obtain ⟨p, xs, rfl, l, _, r⟩ := RD.tup g.vw r
    exact ⟨p, rfl, ⟨xs, .inl (.inl l)⟩, h (Itt K p) H' Hv' (fun H Hv => H p = some (.tup xs) ∧ P2 (Rep Hv) ds xs) g (itD_of of_tup (fun H Hv p v => .inl (.inl p.1)) (fun H Hv p => p.2) ⟨H', Hv', l, r⟩) ⟨l, r⟩ fun H1 Hv1 H2 Hv2 z g' => ⟨g'.old _ _ z.1, p2_same g'.vis z.2⟩⟩
  | str z =>
    refine .inr (.inr (run _ fun v H' Hv' g r => ?_))
    exact ⟨z, RD.str r, h (Its z) H' Hv' (fun _ _ => True) g (itD_of of_str (fun _ _ _ _ => trivial) (fun H Hv _ => sgns_rep Hv z) ⟨H, Hv, trivial⟩) trivial fun _ _ _ _ _ _ => trivial⟩
  | _ => exact h.elim
theorem ai_seq {K : PySem.W.Frag} (ha : AE M qV ta a) : AIf M (iSeq K ta) (Mi.iOf a) := fun e σ H Hv R I h => by
  obtain ⟨d, hd, h⟩ := fin_ok (fin_bind.mp h)
  have run : ∀ Q : VK, (∀ v H' Hv', Grow H Hv H' Hv' → Rep Hv' d v → Q v H') → ta σ H Q := fun Q q => ha e σ H Hv Q I (by rw [hd]; exact q)
  cases d with
  | lst ds =>
    refine .inl (run _ fun v H' Hv' g r => ?_)
    obtain ⟨p, xs, rfl, l, r⟩ := rep_lst.mp r
    exact ⟨p, rfl, ⟨xs, (l.same g.vw.sub).sq⟩, h (Itl K p) H' Hv' (fun H Hv => Lst Hv p xs ∧ P2 (Rep Hv) ds xs) g (itD_of of_list (fun H Hv p v => (p.1.same v.sub).sq) (fun H Hv p => p.2) ⟨H', Hv', l, r⟩) ⟨l, r⟩ fun H1 Hv1 H2 Hv2 z s v => ⟨z.1.same s, p2_same s z.2⟩⟩
  | tup ds =>
    refine .inr (.inl (run _ fun v H' Hv' g r => ?_))
    obtain ⟨p, xs, rfl, l, r⟩ := rep_tup.mp r
    exact ⟨p, rfl, ⟨xs, .inl (.inl (g.vw.sub _ _ l))⟩, h (Itt K p) H' Hv' (fun H Hv => Hv p = some (.tup xs) ∧ P2 (Rep Hv) ds xs) g (itD_of of_tup (fun H Hv p v => .inl (.inl (v.sub _ _ p.1))) (fun H Hv p => p.2) ⟨H', Hv', l, r⟩) ⟨l, r⟩ fun H1 Hv1 H2 Hv2 z s v => ⟨s _ _ z.1, p2_same s z.2⟩⟩
  | str z =>
    refine .inr (.inr (run _ fun v H' Hv' g r => ?_))
    exact ⟨z, rep_str.mp r, h (Its z) H' Hv' (fun _ _ => True) g (itD_of of_str (fun _ _ _ _ => trivial) (fun H Hv _ => sgns_rep Hv z) ⟨H, Hv, trivial⟩) trivial fun _ _ _ _ _ _ _ => trivial⟩
  | _ => exact h.elim
theorem rng_rep (H : Hp) (lo hi : Int) : P2 (Rep H) (Mi.dRange lo hi) (rngV lo (hi - lo).toNat) := by
  unfold Mi.dRange rngV
  induction List.range (hi - lo).toNat with
  | nil => exact .nil
  | cons c r ih => exact .cons (rep_int.mpr rfl) ih
theorem itD_range (lo hi : Int) (H Hv : Hp) : ItD (Itr lo (hi - lo).toNat) (fun _ _ => True) (Mi.dRange lo hi) := itD_of of_range (fun _ _ _ _ => trivial) (fun H Hv _ => rng_rep Hv lo hi) ⟨H, Hv, trivial⟩
theorem ai_range1 (ha : AE M qP ta a) : AIf M (iRng1 (tCons ta tNil)) (Mi.iRange1 a) := fun e σ H Hv R I h =>
  ha e σ H Hv _ I ((fin_bind.mp h).mono fun x hx v H1 Hv1 g1 rx => by
    obtain ⟨j, rfl, hk⟩ := asI_ok (fin_bind.mp hx)
    obtain ⟨hz, hq⟩ := Mi.fin_guard hk
    cases RD.int rx
    refine ⟨j, rfl, hz.1, hz.2, ?_⟩
    have := hq (Itr 0 (j - 0).toNat) H1 Hv1 _ g1 (itD_range 0 j H Hv) trivial fun _ _ _ _ _ _ _ => trivial
    rw [Int.sub_zero] at this
    exact this)
theorem ai_range2 (ha : AE M qP ta a) (hb : AE M qP tb b) : AIf M (iRng2 (tCons ta (tCons tb tNil))) (Mi.iRange2 a b) := fun e σ H Hv R I h =>
  ha e σ H Hv _ I ((fin_bind.mp h).mono fun x hx v H1 Hv1 g1 rx => hb e σ H1 Hv1 _ (I.grow g1) ((fin_bind.mp hx).mono fun y hy u H2 Hv2 g2 ry => by
    obtain ⟨i, rfl, hk⟩ := asI_ok (fin_bind.mp hy)
    obtain ⟨j, rfl, hk⟩ := asI_ok (fin_bind.mp hk)
    obtain ⟨hz, hq⟩ := Mi.fin_guard hk
    cases RD.int rx
    cases RD.int ry
    exact ⟨i, j, rfl, ⟨hz.1.1, hz.1.2, hz.2.1, hz.2.2⟩, hq (Itr i (j - i).toNat) H2 Hv2 _ (g1.trans g2) (itD_range i j H Hv) trivial fun _ _ _ _ _ _ _ => trivial⟩))
end
/-! ### targets -/
def gsOf : List Nat → TGs
  | [] => gNil
  | i :: r => gCons (gName i) (gsOf r)
def tgVars : Tg → List Nat
  | .n i => [i]
  | .t is => is
def tgG (K : PySem.W.Frag) : Tg → TG
  | .n i => gName i
  | .t is => gTup K is.length (gsOf is)
section
variable {P : Mi.Env → L2.St → Prop} {H Hv : Hp}
theorem gs_put : ∀ {is : List Nat} {ds : List D} {xs : List V} {e : Mi.Env} {σ : L2.St} {Q : L2.St → Hp → Prop}, (∀ i ∈ is, ∀ e σ d v, P e σ → Rep Hv d v → P (e.set i (some (.d d))) (σ.set i (some v))) → P e σ → P2 (Rep Hv) ds xs →
    Fin (Mi.setAll is ds e) (fun e' => ∀ σ', P e' σ' → Q σ' H) → gsOf is xs σ H Q
  | [], [], xs, e, σ, Q, cl, p, r, h => by
    cases r
    exact ⟨rfl, h σ p⟩
  | [], _ :: _, xs, e, σ, Q, cl, p, r, h => h.elim
  | _ :: _, [], xs, e, σ, Q, cl, p, r, h => h.elim
  | i :: is, d :: ds, xs, e, σ, Q, cl, p, r, h => by
    cases r with
    | cons x t => exact ⟨_, _, rfl, gs_put (fun j hj => cl j (List.mem_cons_of_mem _ hj)) (cl i List.mem_cons_self _ _ _ _ p x) t h⟩
theorem setAll_len : ∀ {is : List Nat} {ds : List D} {e : Mi.Env} {k : Mi.Env → Prop}, Fin (Mi.setAll is ds e) k → ds.length = is.length
  | [], [], _, _, _ => rfl
  | [], _ :: _, _, _, h => h.elim
  | _ :: _, [], _, _, h => h.elim
  | i :: is, d :: ds, e, k, h => by rw [List.length_cons, List.length_cons, setAll_len (is := is) (ds := ds) (k := k) h]
theorem tg_put {K : PySem.W.Frag} (vw : Vw H Hv) {tg : Tg} {d : D} {v : V} {e : Mi.Env} {σ : L2.St} {Q : L2.St → Hp → Prop} (cl : ∀ i ∈ tgVars tg, ∀ e σ d v, P e σ → Rep Hv d v → P (e.set i (some (.d d))) (σ.set i (some v))) (p : P e σ) (r : Rep Hv d v)
    (h : Fin (tg.put d e) (fun e' => ∀ σ', P e' σ' → Q σ' H)) : tgG K tg v σ H Q := by
  cases tg with
  | n i => exact h _ (cl i (by simp [tgVars]) _ _ _ _ p r)
  | t is =>
    cases d with
    | tup ds =>
      obtain ⟨a, xs, e1, l, r⟩ := rep_tup.mp r
      exact ⟨a, xs, e1, .inl (.inl (vw.sub _ _ l)), by rw [← r.len]; exact setAll_len h, gs_put cl p r h⟩
    | _ => exact h.elim
end
theorem set_get {α : Type} {l : List α} {i j : Nat} {x y : α} (h : (l.set i x)[j]? = some y) : (i = j ∧ x = y ∧ i < l.length) ∨ (i ≠ j ∧ l[j]? = some y) := by
  rw [List.getElem?_set] at h
  split at h
  · split at h
    · exact .inl ⟨‹_›, Option.some.inj h, by omega⟩
    · cases h
  · exact .inr ⟨‹_›, h⟩
theorem R0.set {M : Nat → Bool} {e : Mi.Env} {σ : L2.St} {H Hv : Hp} (I : R0 M e σ H Hv) {i : Nat} {w : W} {v : V} (hm : M i = false) (r : RepW Hv w v) : R0 M (e.set i (some w)) (σ.set i (some v)) H Hv := by
  refine ⟨I.vw, by rw [List.length_set, List.length_set]; exact I.len, fun j w' h m => ?_, fun j w' h m => ?_⟩
  · rcases set_get h with ⟨rfl, h, l⟩ | ⟨n, h⟩
    · cases h
      exact ⟨v, by rw [List.getElem?_set_self (by rw [I.len]; exact l)], r⟩
    · obtain ⟨u, q, z⟩ := I.nob j w' h m
      exact ⟨u, by rw [List.getElem?_set_ne n]; exact q, z⟩
  · rcases set_get h with ⟨rfl, h, l⟩ | ⟨n, h⟩
    · rw [hm] at m; cases m
    · obtain ⟨u, q, z⟩ := I.own j w' h m
      exact ⟨u, by rw [List.getElem?_set_ne n]; exact q, z⟩
theorem R1.set {M : Nat → Bool} {H0 Hv0 : Hp} {e : Mi.Env} {σ : L2.St} {H Hv : Hp} (I : R1 M H0 Hv0 e σ H Hv) {i : Nat} {w : W} {v : V} (hm : M i = false) (r : RepW Hv w v) : R1 M H0 Hv0 (e.set i (some w)) (σ.set i (some v)) H Hv := by
  have nj : ∀ {j : Nat} {w' : W}, (e.set i (some w))[j]? = some (some w') → M j = true → i ≠ j ∧ e[j]? = some (some w') := fun {j w'} h m => by
    rcases set_get h with ⟨rfl, _, _⟩ | ⟨n, h⟩
    · rw [hm] at m; cases m
    · exact ⟨n, h⟩
  refine ⟨I.toR0.set hm r, I.gw, fun j w' a h m q => ?_, fun j k w1 w2 a b hjk h1 h2 m1 m2 q1 q2 => ?_⟩
  · obtain ⟨n, h⟩ := nj h m
    rw [List.getElem?_set_ne n] at q
    exact I.fresh j w' a h m q
  · obtain ⟨n1, h1⟩ := nj h1 m1
    obtain ⟨n2, h2⟩ := nj h2 m2
    rw [List.getElem?_set_ne n1] at q1
    rw [List.getElem?_set_ne n2] at q2
    exact I.sep j k w1 w2 a b hjk h1 h2 m1 m2 q1 q2
/-! ### comprehensions -/
def pickM (ρ : List (Option Nat)) (M : Nat → Bool) : Nat → Bool := fun i => match ρ[i]? with
  | some (some j) => M j
  | _ => false
theorem pick_get {α : Type} {ρ : List (Option Nat)} {e : List (Option α)} {i : Nat} {w : α} (h : (ρ.map fun o => o.bind fun j => (e[j]?).join)[i]? = some (some w)) : ∃ j, ρ[i]? = some (some j) ∧ e[j]? = some (some w) := by
  rw [List.getElem?_map] at h
  cases hr : ρ[i]? with
  | none => rw [hr] at h; cases h
  | some o =>
    rw [hr] at h
    cases o with
    | none => cases h
    | some j =>
      refine ⟨j, rfl, ?_⟩
      have h : (e[j]?).join = some w := Option.some.inj h
      cases hq : e[j]? with
      | none => rw [hq] at h; cases h
      | some o' => rw [hq] at h; have h : o' = some w := h
                   rw [h]
theorem pick_of {α : Type} {ρ : List (Option Nat)} {e : List (Option α)} {i j : Nat} {w : α} (h1 : ρ[i]? = some (some j)) (h2 : e[j]? = some (some w)) : (ρ.map fun o => o.bind fun j => (e[j]?).join)[i]? = some (some w) := by
  rw [List.getElem?_map, h1]
  show some ((e[j]?).join) = _
  rw [h2]; rfl
theorem R0.pick {M : Nat → Bool} {e : Mi.Env} {σ : L2.St} {H Hv : Hp} (I : R0 M e σ H Hv) (ρ : List (Option Nat)) : R0 (pickM ρ M) (Mi.pickE ρ e) (L2.pick ρ σ) H Hv := by
  refine ⟨I.vw, by unfold Mi.pickE L2.pick; rw [List.length_map, List.length_map], fun i w h m => ?_, fun i w h m => ?_⟩
  · obtain ⟨j, h1, h2⟩ := pick_get h
    have m : M j = false := by unfold pickM at m; rw [h1] at m; exact m
    obtain ⟨v, q, z⟩ := I.nob j w h2 m
    exact ⟨v, pick_of h1 q, z⟩
  · obtain ⟨j, h1, h2⟩ := pick_get h
    have m : M j = true := by unfold pickM at m; rw [h1] at m; exact m
    obtain ⟨v, q, z⟩ := I.own j w h2 m
    exact ⟨v, pick_of h1 q, z⟩
theorem compD_fin {tg : Tg} {c : Mi.C} {a : Mi.E} {e : Mi.Env} {x : D} {r : List D} {k : List D → Prop} (h : Fin (Mi.compD tg c a e (x :: r)) k) :
    Fin (tg.put x e) fun e1 => Fin (c e1) fun b => if b = true then Fin (a e1) fun y => Fin (Mi.compD tg c a e r) fun ys => k (y :: ys) else Fin (Mi.compD tg c a e r) k := by
  refine (fin_bind.mp h).mono fun e1 h1 => (fin_bind.mp h1).mono fun b h2 => ?_
  cases b with
  | true => exact iteT ((fin_bind.mp (Mi.fin_t h2)).mono fun y h3 => (fin_bind.mp h3).mono fun ys h4 => h4)
  | false => exact iteF (Mi.fin_f h2)
theorem a_comp {M : Nat → Bool} {K : PySem.W.Frag} {ρ : List (Option Nat)} {wi : TI} {it : Mi.I} {tg : Tg} {tc : TT} {c : Mi.C} {te : TE} {a : Mi.E} (hi : AIc M wi it) (hm : ∀ i ∈ tgVars tg, pickM ρ M i = false) (hc : AT (pickM ρ M) tc c) (he : AE (pickM ρ M) qV te a) :
    AE M qN (tComp wi ρ (tgG K tg) tc te) (Mi.mComp ρ it tg c a) := fun e σ H Hv Q I h =>
  hi e σ H Hv _ I ((fin_bind.mp h).mono fun ds h1 J H1 Hv1 P g1 O p1 per => by
    obtain ⟨hz, h1⟩ := Mi.fin_guard h1
    have h1 := fin_bind.mp h1
    have I1 := I.grow g1
    refine ⟨fun i m acc H' => m = ds.length - i ∧ i ≤ ds.length ∧ ∃ Hv', Grow H1 Hv1 H' Hv' ∧ P H' Hv' ∧ acc.length ≤ i ∧ ∃ done, P2 (Rep Hv') done acc ∧ Fin (Mi.compD tg c a (Mi.pickE ρ e) (ds.drop i)) fun ys => ∀ v H2 Hv2, Grow H Hv H2 Hv2 → qN H H2 Hv2 (.d (.lst (done ++ ys))) v → Q v H2,
      ⟨ds.length, by simp, Nat.zero_le _, Hv1, .refl g1.vw, p1, Nat.le_refl _, [], .nil, by rw [List.drop_zero]; exact h1.mono fun ys z => z⟩, ?_⟩
    rintro i m acc H' ⟨rfl, hle, Hv', g, pp, l, done, pd, hf⟩
    by_cases hlt : i < ds.length
    · refine .inr ⟨O.go i H' Hv' pp g.vw hlt, by rw [sizeLine_eq]; omega, fun acc' H2 => ∃ Hv2, Grow H1 Hv1 H2 Hv2 ∧ P H2 Hv2 ∧ acc'.length ≤ i + 1 ∧ ∃ done, P2 (Rep Hv2) done acc' ∧ Fin (Mi.compD tg c a (Mi.pickE ρ e) (ds.drop (i + 1))) fun ys => ∀ v H3 Hv3, Grow H Hv H3 Hv3 → qN H H3 Hv3 (.d (.lst (done ++ ys))) v → Q v H3,
        fun acc' H2 z => ⟨ds.length - (i + 1), by omega, rfl, hlt, z⟩, fun x H2 y => ?_⟩
      obtain ⟨Hv2, d, g2, hd, rx⟩ := O.yld i H' Hv' x H2 pp g.vw hlt y
      have g12 := g.trans g2
      have hdr : ds.drop i = d :: ds.drop (i + 1) := by
        obtain ⟨hl, e1⟩ := List.getElem?_eq_some_iff.mp hd
        rw [List.drop_eq_getElem_cons hl, e1]
      rw [hdr] at hf
      have hf := compD_fin hf
      refine tg_put (P := fun e1 σ1 => R0 (pickM ρ M) e1 σ1 H2 Hv2) g2.vw (fun j hj e1 σ1 d1 v1 r1 z => r1.set (hm j hj) z) ((I1.grow g12).pick ρ) rx (hf.mono fun e1 hf1 σ1 r1 => ?_)
      refine hc e1 σ1 H2 Hv2 _ r1 (hf1.mono fun b hb H3 Hv3 g3 => ?_)
      cases b with
      | true =>
        refine iteT (he e1 σ1 H3 Hv3 _ (r1.grow g3) (Fin.mono (by simpa using hb) fun y hy v H4 Hv4 g4 ry => ?_))
        exact ⟨Hv4, g12.trans (g3.trans g4), per _ _ _ _ pp (g2.trans (g3.trans g4)), by rw [List.length_append, List.length_singleton]; omega, done ++ [y], (p2_same (g2.trans (g3.trans g4)).vis pd).append (.cons ry .nil), hy.mono fun ys z v H5 Hv5 g5 k => z v H5 Hv5 g5 (by rw [List.append_assoc] at k; exact k)⟩
      | false => exact iteF ⟨Hv3, g12.trans g3, per _ _ _ _ pp (g2.trans g3), by omega, done, p2_same (g2.trans g3).vis pd, by simpa using hb⟩
    · have hi : i = ds.length := by omega
      subst hi
      refine .inl ⟨O.stop H' Hv' pp g.vw, fun p hp => ?_⟩
      rw [List.drop_of_length_le (Nat.le_refl _)] at hf
      have g2 : Grow H' Hv' (upd H' p (.lst acc)) Hv' := .newH g.vw trivial hp
      refine hf _ _ _ (g1.trans (g.trans g2)) ⟨p, .lst acc, rfl, (g1.old.trans g.old).free hp, upd_same, vis_none g.vw hp, ?_⟩
      show P2 (Rep Hv') (done ++ []) acc
      rw [List.append_nil]; exact pd)
/-! ### statements -/
def OutOk (M : Nat → Bool) (κ : Kd) (H0 Hv0 : Hp) (D : Ends) (Hv : Hp) : Out → Prop
  | .nx e => ∀ σ H' Hv', R1 M H0 Hv0 e σ H' Hv' → Same Hv Hv' → D.nx σ H'
  | .rt w => ∀ v H' Hv', Grow H0 Hv0 H' Hv' → κ H0 H' Hv' w v → D.rt v H'
  | .bk e => ∀ σ H' Hv', R1 M H0 Hv0 e σ H' Hv' → Same Hv Hv' → D.bk σ H'
  | .ct e => ∀ σ H' Hv', R1 M H0 Hv0 e σ H' Hv' → Same Hv Hv' → D.ct σ H'
def AS (M : Nat → Bool) (κ : Kd) (t : TS) (m : Mi.S) : Prop := ∀ H0 Hv0 e σ H Hv D, R1 M H0 Hv0 e σ H Hv → Fin (m e) (OutOk M κ H0 Hv0 D Hv) → t D σ H
section
variable {M : Nat → Bool} {κ : Kd} {t u : TS} {m n : Mi.S} {te : TE} {a b : Mi.E} {w : Mi.EW}
theorem as_next : AS M κ tNext Mi.sNext := fun H0 Hv0 e σ H Hv D I h => h σ H Hv I (Same.refl _)
theorem as_break : AS M κ tBreak Mi.sBreak := fun H0 Hv0 e σ H Hv D I h => h σ H Hv I (Same.refl _)
theorem as_cont : AS M κ tCont Mi.sCont := fun H0 Hv0 e σ H Hv D I h => h σ H Hv I (Same.refl _)
theorem as_never : AS M κ tNever Mi.sNever := fun H0 Hv0 e σ H Hv D I h => h
theorem as_seq (h1 : AS M κ t m) (h2 : AS M κ u n) : AS M κ (tSeq t u) (Mi.sSeq m n) := fun H0 Hv0 e σ H Hv D I h =>
  h1 H0 Hv0 e σ H Hv _ I ((fin_bind.mp h).mono fun o ho => by
    cases o with
    | nx e' => exact fun σ' H' Hv' I' s => h2 H0 Hv0 e' σ' H' Hv' D I' (Fin.mono ho fun o z => by
        cases o with
        | nx e2 => exact fun σ2 H2 Hv2 I2 s2 => z σ2 H2 Hv2 I2 (s.trans s2)
        | rt w => exact z
        | bk e2 => exact fun σ2 H2 Hv2 I2 s2 => z σ2 H2 Hv2 I2 (s.trans s2)
        | ct e2 => exact fun σ2 H2 Hv2 I2 s2 => z σ2 H2 Hv2 I2 (s.trans s2))
    | rt w => exact ho
    | bk e' => exact ho
    | ct e' => exact ho)
theorem as_drop (ha : AE M qP te a) : AS M κ (tDrop te) (Mi.sDrop a) := fun H0 Hv0 e σ H Hv D I h =>
  ha e σ H Hv _ I.toR0 ((fin_bind.mp h).mono fun d hd v H1 Hv1 g1 r => hd σ H1 Hv1 (I.grow g1) g1.vis)
theorem as_set (i : Nat) (hm : M i = false) (ha : AE M qV te a) : AS M κ (tAsg te (gName i)) (Mi.sSet i a) := fun H0 Hv0 e σ H Hv D I h =>
  ha e σ H Hv _ I.toR0 ((fin_bind.mp h).mono fun d hd v H1 Hv1 g1 r => hd _ H1 Hv1 ((I.grow g1).set hm r) g1.vis)
theorem as_setW (i : Nat) (hm : M i = false) (ha : AW M qV te w) : AS M κ (tAsg te (gName i)) (Mi.sSetW i w) := fun H0 Hv0 e σ H Hv D I h =>
  ha e σ H Hv _ I.toR0 ((fin_bind.mp h).mono fun d hd v H1 Hv1 g1 r => hd _ H1 Hv1 ((I.grow g1).set hm r) g1.vis)
theorem as_put {K : PySem.W.Frag} (tg : Tg) (hm : ∀ i ∈ tgVars tg, M i = false) (ha : AE M qV te a) : AS M κ (tAsg te (tgG K tg)) (Mi.sPut tg a) := fun H0 Hv0 e σ H Hv D I h =>
  ha e σ H Hv _ I.toR0 ((fin_bind.mp h).mono fun d hd v H1 Hv1 g1 r =>
    tg_put (P := fun e1 σ1 => R1 M H0 Hv0 e1 σ1 H1 Hv1) g1.vw (fun j hj e1 σ1 d1 v1 r1 z => r1.set (hm j hj) z) (I.grow g1) r ((fin_bind.mp hd).mono fun e1 h1 σ1 I1 => h1 σ1 H1 Hv1 I1 g1.vis))
theorem as_ret (ha : AW M qV te w) : AS M qV (tRet te) (Mi.sRet w) := fun H0 Hv0 e σ H Hv D I h =>
  ha e σ H Hv _ I.toR0 ((fin_bind.mp h).mono fun d hd v H1 Hv1 g1 r => hd v H1 Hv1 (I.gw.trans g1) r)
theorem as_retN (ha : AW M qN te w) : AS M qN (tRet te) (Mi.sRet w) := fun H0 Hv0 e σ H Hv D I h =>
  ha e σ H Hv _ I.toR0 ((fin_bind.mp h).mono fun d hd v H1 Hv1 g1 r => hd v H1 Hv1 (I.gw.trans g1) (KM.mono (κ := qN) I.gw.old r))
theorem as_ret0 : AS M qV tRetN Mi.sRetN := fun H0 Hv0 e σ H Hv D I h => h _ H Hv I.gw qv_non
theorem as_if {tt : TT} {c : Mi.C} (hc : AT M tt c) (h1 : AS M κ t m) (h2 : AS M κ u n) : AS M κ (tIfS tt t u) (Mi.sIf c m n) := fun H0 Hv0 e σ H Hv D I h =>
  hc e σ H Hv _ I.toR0 ((fin_bind.mp h).mono fun b hb H1 Hv1 g1 => by
    have up : ∀ o, OutOk M κ H0 Hv0 D Hv o → OutOk M κ H0 Hv0 D Hv1 o := fun o z => by
      cases o with
      | nx e2 => exact fun σ2 H2 Hv2 I2 s2 => z σ2 H2 Hv2 I2 (g1.vis.trans s2)
      | rt w => exact z
      | bk e2 => exact fun σ2 H2 Hv2 I2 s2 => z σ2 H2 Hv2 I2 (g1.vis.trans s2)
      | ct e2 => exact fun σ2 H2 Hv2 I2 s2 => z σ2 H2 Hv2 I2 (g1.vis.trans s2)
    cases b with
    | true => exact iteT (h1 H0 Hv0 e σ H1 Hv1 D (I.grow g1) (Fin.mono (Mi.fin_t hb) up))
    | false => exact iteF (h2 H0 Hv0 e σ H1 Hv1 D (I.grow g1) (Fin.mono (Mi.fin_f hb) up)))
theorem OutOk.up {H0 Hv0 Hv Hv1 : Hp} {D : Ends} (s : Same Hv Hv1) {o : Out} (z : OutOk M κ H0 Hv0 D Hv o) : OutOk M κ H0 Hv0 D Hv1 o := by
  cases o with
  | nx e2 => exact fun σ2 H2 Hv2 I2 s2 => z σ2 H2 Hv2 I2 (s.trans s2)
  | rt w => exact z
  | bk e2 => exact fun σ2 H2 Hv2 I2 s2 => z σ2 H2 Hv2 I2 (s.trans s2)
  | ct e2 => exact fun σ2 H2 Hv2 I2 s2 => z σ2 H2 Hv2 I2 (s.trans s2)
theorem as_for {K : PySem.W.Frag} {wi : TI} {it : Mi.I} {tg : Tg} (hi : AIf M wi it) (hm : ∀ i ∈ tgVars tg, M i = false) (hb : AS M κ t m) : AS M κ (tFor wi (tgG K tg) t) (Mi.sFor it tg m) := fun H0 Hv0 e σ H Hv D I h =>
  hi e σ H Hv _ I.toR0 ((fin_bind.mp h).mono fun ds h1 J H1 Hv1 P g1 O p1 per => by
    refine ⟨fun i k σ' H' => k = ds.length - i ∧ i ≤ ds.length ∧ ∃ e' Hv', R1 M H0 Hv0 e' σ' H' Hv' ∧ P H' Hv' ∧ Fin (Mi.forD tg m (ds.drop i) e') (OutOk M κ H0 Hv0 D Hv'),
      ⟨ds.length, by simp, Nat.zero_le _, e, Hv1, I.grow g1, p1, by rw [List.drop_zero]; exact h1.mono fun o z => z.up g1.vis⟩, ?_⟩
    rintro i k σ' H' ⟨rfl, hle, e', Hv', I', pp, hf⟩
    by_cases hlt : i < ds.length
    · refine .inr ⟨O.go i H' Hv' pp I'.vw hlt, fun σ2 H2 => ∃ e2 Hv2, R1 M H0 Hv0 e2 σ2 H2 Hv2 ∧ P H2 Hv2 ∧ Fin (Mi.forD tg m (ds.drop (i + 1)) e2) (OutOk M κ H0 Hv0 D Hv2),
        fun σ2 H2 z => ⟨ds.length - (i + 1), by omega, rfl, hlt, z⟩, fun x H2 y => ?_⟩
      obtain ⟨Hv2, d, g2, hd, rx⟩ := O.yld i H' Hv' x H2 pp I'.vw hlt y
      have I2 := I'.grow g2
      have hdr : ds.drop i = d :: ds.drop (i + 1) := by
        obtain ⟨hl, e1⟩ := List.getElem?_eq_some_iff.mp hd
        rw [List.drop_eq_getElem_cons hl, e1]
      rw [hdr] at hf
      refine tg_put (P := fun e1 σ1 => R1 M H0 Hv0 e1 σ1 H2 Hv2) g2.vw (fun j hj e1 σ1 d1 v1 r1 z => r1.set (hm j hj) z) I2 rx ((fin_bind.mp hf).mono fun e1 h1 σ1 I1 => ?_)
      refine hb H0 Hv0 e1 σ1 H2 Hv2 _ I1 ((fin_bind.mp h1).mono fun o ho => ?_)
      cases o with
      | nx e2 => exact fun σ2 H3 Hv3 I3 s3 => ⟨e2, Hv3, I3, per _ _ _ _ pp (g2.vis.trans s3) I3.vw, Fin.mono ho fun o z => z.up (g2.vis.trans s3)⟩
      | ct e2 => exact fun σ2 H3 Hv3 I3 s3 => ⟨e2, Hv3, I3, per _ _ _ _ pp (g2.vis.trans s3) I3.vw, Fin.mono ho fun o z => z.up (g2.vis.trans s3)⟩
      | bk e2 => exact fun σ2 H3 Hv3 I3 s3 => ho σ2 H3 Hv3 I3 (g2.vis.trans s3)
      | rt w => exact ho
    · have hi : i = ds.length := by omega
      subst hi
      refine .inl ⟨O.stop H' Hv' pp I'.vw, ?_⟩
      rw [List.drop_of_length_le (Nat.le_refl _)] at hf
      exact hf σ' H' Hv' I' (Same.refl _))
theorem as_while {tt : TT} {c : Mi.C} (k : Nat) (hc : AT M tt c) (hb : AS M κ t m) : AS M κ (tWhile tt t) (Mi.sWhile k c m) := fun H0 Hv0 e σ H Hv D I h => by
  refine ⟨fun j σ' H' => ∃ e' Hv', R1 M H0 Hv0 e' σ' H' Hv' ∧ Fin (Mi.whileD c m j e') (OutOk M κ H0 Hv0 D Hv'), ⟨k, e, Hv, I, h⟩, ?_⟩
  rintro j σ' H' ⟨e', Hv', I', hf⟩
  cases j with
  | zero => exact hf.elim
  | succ j =>
    refine hc e' σ' H' Hv' _ I'.toR0 ((fin_bind.mp hf).mono fun b hb' H1 Hv1 g1 => ?_)
    cases b with
    | false => exact iteF ((Mi.fin_now (Mi.fin_f hb')) σ' H1 Hv1 (I'.grow g1) g1.vis)
    | true =>
      refine iteT ⟨fun σ2 H2 => ∃ e2 Hv2, R1 M H0 Hv0 e2 σ2 H2 Hv2 ∧ Fin (Mi.whileD c m j e2) (OutOk M κ H0 Hv0 D Hv2), fun σ2 H2 z => ⟨j, Nat.lt_succ_self j, z⟩, ?_⟩
      refine hb H0 Hv0 e' σ' H1 Hv1 _ (I'.grow g1) ((fin_bind.mp (Mi.fin_t hb')).mono fun o ho => ?_)
      cases o with
      | nx e2 => exact fun σ2 H2 Hv2 I2 s2 => ⟨e2, Hv2, I2, Fin.mono ho fun o z => z.up (g1.vis.trans s2)⟩
      | ct e2 => exact fun σ2 H2 Hv2 I2 s2 => ⟨e2, Hv2, I2, Fin.mono ho fun o z => z.up (g1.vis.trans s2)⟩
      | bk e2 => exact fun σ2 H2 Hv2 I2 s2 => ho σ2 H2 Hv2 I2 (g1.vis.trans s2)
      | rt w => exact ho
end
end A

set_option Elab.async false
set_option linter.all false
set_option maxRecDepth 100000
set_option maxHeartbeats 4000000
namespace A
open PySem L2 PyProof.Rows
open Mi (D W Rs Fin fin_bind Out Tg)
section
variable {M : Nat → Bool} {κ : Kd} {te : TE} {a b : Mi.E} {w : Mi.EW} {K : PySem.W.Frag}
/-! ### a cell of one's own -/
theorem R1.write {H0 Hv0 : Hp} {e : Mi.Env} {σ : L2.St} {H Hv : Hp} (I : R1 M H0 Hv0 e σ H Hv) {i : Nat} {w w' : W} {p : Addr} {o : HO} (hm : M i = true) (he : e[i]? = some (some w)) (hs : σ[i]? = some (some (.ref p))) (c : CellIs Hv w' o) : R1 M H0 Hv0 (e.set i (some w')) σ (upd H p o) Hv := by
  have hp : ∃ o', H p = some o' ∧ Hv p = none := by
    obtain ⟨v, q, a, o', e1, q1, n, _⟩ := I.own i w he hm
    rw [hs] at q; cases q; cases e1
    exact ⟨o', q1, n⟩
  obtain ⟨o', hp, hn⟩ := hp
  have h0 : H0 p = none := I.fresh i w p he hm hs
  have vw : Vw (upd H p o) Hv := by
    refine ⟨fun b u q => ?_, fun b xs q => ?_, fun b z u q => ?_⟩
    · rw [upd_ne (ne_of_none q hn)]; exact I.vw.sub b u q
    · by_cases hb : b = p
      · subst hb; rw [upd_same] at q; cases q; exact c.cell.elim
      · rw [upd_ne hb] at q; exact I.vw.tup b xs q
    · by_cases hb : b = p
      · subst hb; rw [upd_same] at q; cases q; exact c.cell.elim
      · rw [upd_ne hb] at q; exact I.vw.frz b z u q
  have get : ∀ {j : Nat} {w2 : W}, (e.set i (some w'))[j]? = some (some w2) → (i = j ∧ w' = w2) ∨ (i ≠ j ∧ e[j]? = some (some w2)) := fun {j w2} h => by
    rcases set_get h with ⟨x, y, _⟩ | z
    · exact .inl ⟨x, Option.some.inj y⟩
    · exact .inr z
  have get' : ∀ {j : Nat} {w2 : W}, (e.set i (some w'))[j]? = some (some w2) → ∃ w3, e[j]? = some (some w3) := fun {j w2} h => by
    rcases get h with ⟨x, _⟩ | ⟨_, z⟩
    · subst x; exact ⟨w, he⟩
    · exact ⟨w2, z⟩
  refine ⟨⟨vw, by rw [List.length_set]; exact I.len, fun j w2 h m => ?_, fun j w2 h m => ?_⟩, ⟨fun b u q => ?_, I.gw.vis, vw, I.gw.hid⟩, fun j w2 x h m q => ?_, fun j k w1 w2 x y hjk h1 h2 m1 m2 q1 q2 => ?_⟩
  · rcases get h with ⟨rfl, _⟩ | ⟨_, z⟩
    · rw [hm] at m; cases m
    · exact I.nob j w2 z m
  · rcases get h with ⟨rfl, rfl⟩ | ⟨n, z⟩
    · exact ⟨.ref p, hs, p, o, rfl, upd_same, hn, c⟩
    · obtain ⟨v, q, x, u, e1, q1, n1, c1⟩ := I.own j w2 z m
      subst e1
      have := I.sep i j w w2 p x n he z hm m hs q
      exact ⟨.ref x, q, x, u, rfl, by rw [upd_ne (Ne.symm this)]; exact q1, n1, c1⟩
  · rw [upd_ne (ne_of_none q h0)]; exact I.gw.old b u q
  · obtain ⟨w3, z⟩ := get' h
    exact I.fresh j w3 x z m q
  · obtain ⟨w3, z3⟩ := get' h1
    obtain ⟨w4, z4⟩ := get' h2
    exact I.sep j k w3 w4 x y hjk z3 z4 m1 m2 q1 q2
theorem R1.cell {H0 Hv0 : Hp} {e : Mi.Env} {σ : L2.St} {H Hv : Hp} (I : R1 M H0 Hv0 e σ H Hv) {i : Nat} {w : W} (hm : M i = true) (he : e[i]? = some (some w)) : ∃ p o, σ[i]? = some (some (.ref p)) ∧ H p = some o ∧ Hv p = none ∧ H0 p = none ∧ CellIs Hv w o := by
  obtain ⟨v, q, p, o, rfl, q1, n, c⟩ := I.own i w he hm
  exact ⟨p, o, q, q1, n, I.fresh i w p he hm q, c⟩
theorem getL_ok {e : Mi.Env} {i : Nat} {k : List D → Prop} (h : Fin (Mi.getL e i) k) : ∃ ds, e[i]? = some (some (.d (.lst ds))) ∧ k ds := by
  unfold Mi.getL at h
  split at h
  · exact ⟨_, ‹_›, h⟩
  · exact h.elim
theorem R1.list {H0 Hv0 : Hp} {e : Mi.Env} {σ : L2.St} {H Hv : Hp} (I : R1 M H0 Hv0 e σ H Hv) {i : Nat} {ds : List D} (hm : M i = true) (he : e[i]? = some (some (.d (.lst ds)))) : ∃ p xs, σ[i]? = some (some (.ref p)) ∧ H p = some (.lst xs) ∧ Hv p = none ∧ P2 (Rep Hv) ds xs := by
  obtain ⟨p, o, q, q1, n, _, c⟩ := I.cell hm he
  cases o with
  | lst xs => exact ⟨p, xs, q, q1, n, c⟩
  | _ => exact c.elim
/-- a new cell is named -/
theorem R1.name {H0 Hv0 : Hp} {e : Mi.Env} {σ : L2.St} {H Hv H1 Hv1 : Hp} (I : R1 M H0 Hv0 e σ H Hv) (g : Grow H Hv H1 Hv1) {i : Nat} {w : W} {v : V} (hm : M i = true) (k : qN H H1 Hv1 w v) : R1 M H0 Hv0 (e.set i (some w)) (σ.set i (some v)) H1 Hv1 := by
  obtain ⟨p, o, rfl, hf, hp, hn, c⟩ := k
  have I1 := I.grow g
  have other : ∀ {j : Nat} {w2 : W} {x : Addr}, e[j]? = some (some w2) → M j = true → σ[j]? = some (some (.ref x)) → x ≠ p := fun {j w2 x} h m q => by
    obtain ⟨p', o', q', q1, _⟩ := I.cell m h
    rw [q] at q'; cases q'
    exact ne_of_none q1 hf
  refine ⟨⟨I1.vw, by rw [List.length_set, List.length_set]; exact I.len, fun j w2 h m => ?_, fun j w2 h m => ?_⟩, I1.gw, fun j w2 x h m q => ?_, fun j k w1 w2 x y hjk h1 h2 m1 m2 q1 q2 => ?_⟩
  · rcases set_get h with ⟨rfl, _⟩ | ⟨n, z⟩
    · rw [hm] at m; cases m
    · obtain ⟨u, q, r⟩ := I1.nob j w2 z m
      exact ⟨u, by rw [List.getElem?_set_ne n]; exact q, r⟩
  · rcases set_get h with ⟨rfl, h, l⟩ | ⟨n, z⟩
    · cases h
      exact ⟨.ref p, by rw [List.getElem?_set_self (by rw [I.len]; exact l)], p, o, rfl, hp, hn, c⟩
    · obtain ⟨u, q, r⟩ := I1.own j w2 z m
      exact ⟨u, by rw [List.getElem?_set_ne n]; exact q, r⟩
  · rcases set_get h with ⟨rfl, h, l⟩ | ⟨n, z⟩
    · rw [List.getElem?_set_self (by rw [I.len]; exact l)] at q
      cases q
      exact I.gw.old.free hf
    · rw [List.getElem?_set_ne n] at q
      exact I.fresh j w2 x z m q
  · rcases set_get h1 with ⟨rfl, _, l⟩ | ⟨n, z⟩
    · rw [List.getElem?_set_self (by rw [I.len]; exact l)] at q1
      cases q1
      rcases set_get h2 with ⟨rfl, _, _⟩ | ⟨n2, z2⟩
      · exact absurd rfl hjk
      · rw [List.getElem?_set_ne n2] at q2
        exact Ne.symm (other z2 m2 q2)
    · rw [List.getElem?_set_ne n] at q1
      rcases set_get h2 with ⟨rfl, _, l⟩ | ⟨n2, z2⟩
      · rw [List.getElem?_set_self (by rw [I.len]; exact l)] at q2
        cases q2
        exact other z m1 q1
      · rw [List.getElem?_set_ne n2] at q2
        exact I.sep j k w1 w2 x y hjk z z2 m1 m2 q1 q2
theorem as_new (i : Nat) (hm : M i = true) (ha : AE M qN te a) : AS M κ (tAsg te (gName i)) (Mi.sSet i a) := fun H0 Hv0 e σ H Hv D I h =>
  ha e σ H Hv _ I.toR0 ((fin_bind.mp h).mono fun d hd v H1 Hv1 g1 r => hd _ H1 Hv1 (I.name g1 hm r) g1.vis)
theorem as_newW (i : Nat) (hm : M i = true) (ha : AW M qN te w) : AS M κ (tAsg te (gName i)) (Mi.sSetW i w) := fun H0 Hv0 e σ H Hv D I h =>
  ha e σ H Hv _ I.toR0 ((fin_bind.mp h).mono fun d hd v H1 Hv1 g1 r => hd _ H1 Hv1 (I.name g1 hm r) g1.vis)
theorem aw_dnewK : AW M qN tDNewK (fun _ => .ok (.dk [])) := fun e σ H Hv Q I h p hp =>
  h _ _ Hv (.newH I.vw trivial hp) ⟨p, .dK [], rfl, hp, upd_same, vis_none I.vw hp, .nil⟩
theorem aw_dnewT : AW M qN tDNewT (fun _ => .ok (.dt [])) := fun e σ H Hv Q I h p hp =>
  h _ _ Hv (.newH I.vw trivial hp) ⟨p, .dT [], rfl, hp, upd_same, vis_none I.vw hp, .nil⟩
theorem as_append (i : Nat) (hm : M i = true) (ha : AE M qV te a) : AS M κ (tDrop (tBM K "list" rAppend (tVar i) (tCons te tNil))) (Mi.sAppend i a) := fun H0 Hv0 e σ H Hv D I h => by
  obtain ⟨d, hd, h⟩ := fin_ok (fin_bind.mp h)
  obtain ⟨ds, he, h⟩ := getL_ok (fin_bind.mp h)
  obtain ⟨hz, h⟩ := Mi.fin_guard h
  obtain ⟨p, xs, q, q1, n, c⟩ := I.list hm he
  refine ⟨.ref p, q, .inl ⟨rfl, xs, .inl (.inl q1)⟩, ha e σ H Hv _ I.toR0 (by
    rw [hd]
    intro v H1 Hv1 g1 r
    have I1 := I.grow g1
    refine ⟨p, xs, v, rfl, rfl, g1.old _ _ q1, by rw [← c.len, sizeLine_eq]; exact hz, ?_⟩
    exact h σ _ Hv1 (I1.write hm he q (show CellIs Hv1 (.d (.lst (ds ++ [d]))) (.lst (xs ++ [v])) from (p2_same g1.vis c).append (.cons r .nil))) g1.vis)⟩
theorem as_reverse (i : Nat) (hm : M i = true) : AS M κ (tDrop (tBM0 K "list" rReverse (tVar i))) (Mi.sReverse i) := fun H0 Hv0 e σ H Hv D I h => by
  obtain ⟨ds, he, h⟩ := getL_ok (fin_bind.mp h)
  obtain ⟨p, xs, q, q1, n, c⟩ := I.list hm he
  exact ⟨.ref p, q, .inl ⟨rfl, xs, .inl (.inl q1)⟩, p, xs, rfl, rfl, q1, h σ _ Hv (I.write hm he q (show CellIs Hv (.d (.lst ds.reverse)) (.lst xs.reverse) from c.rev)) (Same.refl _)⟩
theorem as_clear (i : Nat) (hm : M i = true) : AS M κ (tDrop (tBM0 K "list" rClear (tVar i))) (Mi.sClear i) := fun H0 Hv0 e σ H Hv D I h => by
  obtain ⟨ds, he, h⟩ := getL_ok (fin_bind.mp h)
  obtain ⟨p, xs, q, q1, n, c⟩ := I.list hm he
  exact ⟨.ref p, q, .inl ⟨rfl, xs, .inl (.inl q1)⟩, p, xs, rfl, rfl, q1, h σ _ Hv (I.write hm he q (show CellIs Hv (.d (.lst [])) (.lst []) from .nil)) (Same.refl _)⟩
theorem ofO_ok {α : Type} {o : Option α} {k : α → Prop} (h : Fin (Mi.ofO o) k) : ∃ x, o = some x ∧ k x := by
  cases o with
  | some x => exact ⟨x, rfl, h⟩
  | none => exact h.elim
theorem as_pop (x y : Nat) (hx : M x = false) (hy : M y = true) : AS M κ (tAsg (tBM0 K "list" rPop (tVar y)) (gName x)) (Mi.sPop x y) := fun H0 Hv0 e σ H Hv D I h => by
  obtain ⟨ds, he, h⟩ := getL_ok (fin_bind.mp h)
  obtain ⟨d, hd, h⟩ := ofO_ok (fin_bind.mp h)
  obtain ⟨p, xs, q, q1, n, c⟩ := I.list hy he
  rw [c.len] at hd
  obtain ⟨v, hv, r⟩ := c.getL hd
  exact ⟨.ref p, q, .inl ⟨rfl, xs, .inl (.inl q1)⟩, p, xs, v, rfl, rfl, q1, hv, h _ _ Hv ((I.write hy he q (show CellIs Hv (.d (.lst ds.dropLast)) (.lst xs.dropLast) from c.dropLast)).set hx r) (Same.refl _)⟩
theorem seqIx {n : Nat} {i : Int} {k : Nat} (h : Mi.ixN n i = some k) : seqIndex? i n = some k := by
  unfold Mi.ixN at h
  split at h
  · split at h
    · rw [seqIndex_of (by omega) (by omega)]; exact h
    · cases h
  · split at h
    · rw [seqIndex_neg (by omega) (by omega)]; exact h
    · cases h
theorem popAt_ok {ds : List D} {i : Int} {k : D × List D → Prop} (h : Fin (Mi.popAt ds i) k) : -(2 ^ 63) ≤ i ∧ i < 2 ^ 63 ∧ ∃ j d, Mi.ixN ds.length i = some j ∧ ds[j]? = some d ∧ k (d, ds.eraseIdx j) := by
  obtain ⟨⟨h1, h2⟩, h⟩ := Mi.fin_guard h
  obtain ⟨j, hj, h⟩ := ofO_ok (fin_bind.mp h)
  obtain ⟨d, hd, h⟩ := ofO_ok (fin_bind.mp h)
  exact ⟨h1, h2, j, d, hj, hd, h⟩
theorem as_popAt (x y : Nat) (hx : M x = false) (hy : M y = true) (ha : AE M qP te a) : AS M κ (tAsg (tBM K "list" rPopAt (tVar y) (tCons te tNil)) (gName x)) (Mi.sPopAt x y a) := fun H0 Hv0 e σ H Hv D I h => by
  obtain ⟨z, hz, h⟩ := fin_ok (fin_bind.mp h)
  obtain ⟨i, rfl, h⟩ := asI_ok (fin_bind.mp h)
  obtain ⟨ds, he, h⟩ := getL_ok (fin_bind.mp h)
  obtain ⟨h1, h2, j, d, hj, hd, h⟩ := popAt_ok (fin_bind.mp h)
  obtain ⟨p, xs, q, q1, n, c⟩ := I.list hy he
  refine ⟨.ref p, q, .inl ⟨rfl, xs, .inl (.inl q1)⟩, ha e σ H Hv _ I.toR0 (by
    rw [hz]
    intro v H1 Hv1 g1 r
    have I1 := I.grow g1
    cases RD.int r
    obtain ⟨u, hu, ru⟩ := c.getL hd
    rw [c.len] at hj
    refine ⟨p, xs, i, j, u, rfl, rfl, g1.old _ _ q1, h1, h2, seqIx hj, hu, ?_⟩
    exact h _ _ Hv1 ((I1.write hy he q (show CellIs Hv1 (.d (.lst (ds.eraseIdx j))) (.lst (xs.eraseIdx j)) from (p2_same g1.vis c).erase j)).set hx (rep_same g1.vis ru)) g1.vis)⟩
theorem as_appendPop (x y : Nat) (hxy : x ≠ y) (hx : M x = true) (hy : M y = true) (ha : AE M qP te a) : AS M κ (tDrop (tBM K "list" rAppend (tVar x) (tCons (tBM K "list" rPopAt (tVar y) (tCons te tNil)) tNil))) (Mi.sAppendPop x y a) := fun H0 Hv0 e σ H Hv D I h => by
  obtain ⟨z, hz, h⟩ := fin_ok (fin_bind.mp h)
  obtain ⟨i, rfl, h⟩ := asI_ok (fin_bind.mp h)
  obtain ⟨ds, he, h⟩ := getL_ok (fin_bind.mp h)
  obtain ⟨h1, h2, j, d, hj, hd, h⟩ := popAt_ok (fin_bind.mp h)
  obtain ⟨es, he2, h⟩ := getL_ok (fin_bind.mp h)
  obtain ⟨hsz, h⟩ := Mi.fin_guard h
  have he2' : e[x]? = some (some (.d (.lst es))) := by
    have he2 : (e.set y (some (.d (.lst (ds.eraseIdx j)))))[x]? = _ := he2
    rwa [List.getElem?_set_ne (Ne.symm hxy)] at he2
  obtain ⟨p, xs, q, q1, n, c⟩ := I.list hy he
  obtain ⟨p', xs', q', q1', n', c'⟩ := I.list hx he2'
  have hpp : p' ≠ p := I.sep x y _ _ p' p hxy he2' he hx hy q' q
  refine ⟨.ref p', q', .inl ⟨rfl, xs', .inl (.inl q1')⟩, .ref p, q, .inl ⟨rfl, xs, .inl (.inl q1)⟩, ha e σ H Hv _ I.toR0 (by
    rw [hz]
    intro v H1 Hv1 g1 r
    have I1 := I.grow g1
    cases RD.int r
    obtain ⟨u, hu, ru⟩ := c.getL hd
    rw [c.len] at hj
    refine ⟨p, xs, i, j, u, rfl, rfl, g1.old _ _ q1, h1, h2, seqIx hj, hu, ?_⟩
    have I2 := I1.write hy he q (show CellIs Hv1 (.d (.lst (ds.eraseIdx j))) (.lst (xs.eraseIdx j)) from (p2_same g1.vis c).erase j)
    refine ⟨p', xs', u, rfl, rfl, by rw [upd_ne hpp]; exact g1.old _ _ q1', by rw [← c'.len, sizeLine_eq]; exact hsz, ?_⟩
    exact h σ _ Hv1 (I2.write hx he2 q' (show CellIs Hv1 (.d (.lst (es ++ [d]))) (.lst (xs' ++ [u])) from (p2_same g1.vis c').append (.cons (rep_same g1.vis ru) .nil))) g1.vis)⟩
/-- x[k] = a -/
theorem as_setAt {tk : TE} {k : Mi.E} (x : Nat) (hx : M x = true) (ha : AE M qV te a) (hk : AE M qP tk k) : AS M κ (tAsg te (gSub (tVar x) tk rSetL)) (Mi.sSetAt x k a) := fun H0 Hv0 e σ H Hv D I h => by
  obtain ⟨d, hd, h⟩ := fin_ok (fin_bind.mp h)
  obtain ⟨z, hz, h⟩ := fin_ok (fin_bind.mp h)
  obtain ⟨i, rfl, h⟩ := asI_ok (fin_bind.mp h)
  obtain ⟨ds, he, h⟩ := getL_ok (fin_bind.mp h)
  obtain ⟨j, hj, h⟩ := ofO_ok (fin_bind.mp h)
  obtain ⟨p, xs, q, q1, n, c⟩ := I.list hx he
  refine ha e σ H Hv _ I.toR0 (by
    rw [hd]
    intro v H1 Hv1 g1 r
    refine ⟨.ref p, q, hk e σ H1 Hv1 _ (I.toR0.grow g1) (by
      rw [hz]
      intro v2 H2 Hv2 g2 r2
      cases RD.int r2
      have I2 := (I.grow g1).grow g2
      rw [c.len] at hj
      refine ⟨p, xs, i, j, rfl, rfl, g2.old _ _ (g1.old _ _ q1), hj, ?_⟩
      exact h σ _ Hv2 (I2.write hx he q (show CellIs Hv2 (.d (.lst (ds.set j d))) (.lst (xs.set j v)) from P2.set (rep_same g2.vis r) j (p2_same (g1.trans g2).vis c))) (g1.trans g2).vis)⟩)
/-- return x -/
theorem as_retOwn (i : Nat) (hm : M i = true) : AS M qN (tRet (tVar i)) (Mi.sRet (Mi.wV i)) := fun H0 Hv0 e σ H Hv D I h => by
  obtain ⟨w, he, h⟩ := wV_ok (fin_bind.mp h)
  obtain ⟨p, o, q, q1, n, h0, c⟩ := I.cell hm he
  exact ⟨.ref p, q, h _ H Hv I.gw ⟨p, o, rfl, h0, q1, n, c⟩⟩
theorem as_retOwnV (i : Nat) (hm : M i = true) : AS M qV (tRet (tVar i)) (Mi.sRet (Mi.wV i)) := fun H0 Hv0 e σ H Hv D I h => by
  obtain ⟨w, he, h⟩ := wV_ok (fin_bind.mp h)
  obtain ⟨p, o, q, q1, n, h0, c⟩ := I.cell hm he
  obtain ⟨Hv'', g, r⟩ := kN_show I.gw (w := w) (v := .ref p) ⟨p, o, rfl, h0, q1, n, c⟩
  exact ⟨.ref p, q, h _ H Hv'' g r⟩
/-- a cell of one's own comes in sight -/
theorem R1.reveal {H0 Hv0 : Hp} {e : Mi.Env} {σ : L2.St} {H Hv : Hp} (I : R1 M H0 Hv0 e σ H Hv) {y : Nat} {w : W} (hy : M y = true) (he : e[y]? = some (some w)) : ∃ p Hv', σ[y]? = some (some (.ref p)) ∧ R1 M H0 Hv0 (e.set y none) σ H Hv' ∧ Same Hv Hv' ∧ RepW Hv' w (.ref p) := by
  obtain ⟨p, o, q, q1, n, h0, c⟩ := I.cell hy he
  obtain ⟨vw, s⟩ := I.vw.show q1 n
  have nj : ∀ {j : Nat} {w' : W}, (e.set y none)[j]? = some (some w') → y ≠ j ∧ e[j]? = some (some w') := fun {j w'} h => by
    rcases set_get h with ⟨_, h, _⟩ | z
    · cases h
    · exact z
  refine ⟨p, upd Hv p o, q, ⟨⟨vw, by rw [List.length_set]; exact I.len, fun j w' h m => ?_, fun j w' h m => ?_⟩, ⟨I.gw.old, I.gw.vis.trans s, vw, fun b u z1 z2 => ?_⟩, fun j w' x h m z => ?_, fun j k w1 w2 x z hjk h1 h2 m1 m2 z1 z2 => ?_⟩, s, repW_cell upd_same (c.same s)⟩
  · obtain ⟨_, h⟩ := nj h
    obtain ⟨v, z, r⟩ := I.nob j w' h m
    exact ⟨v, z, repW_same s r⟩
  · obtain ⟨hne, h⟩ := nj h
    obtain ⟨v, z, x, u, e1, q2, n2, c2⟩ := I.own j w' h m
    subst e1
    have := I.sep y j w w' p x hne he h hy m q z
    exact ⟨.ref x, z, x, u, rfl, q2, by rw [upd_ne (Ne.symm this)]; exact n2, c2.same s⟩
  · rw [upd_ne (ne_of_none z1 h0)]; exact I.gw.hid b u z1 z2
  · exact I.fresh j w' x (nj h).2 m z
  · exact I.sep j k w1 w2 x z hjk (nj h1).2 (nj h2).2 m1 m2 z1 z2
theorem as_move (x y : Nat) (hx : M x = false) (hy : M y = true) : AS M κ (tAsg (tVar y) (gName x)) (Mi.sMove x y) := fun H0 Hv0 e σ H Hv D I h => by
  unfold Mi.sMove at h
  split at h
  · rename_i w he
    obtain ⟨p, Hv', q, I', s, r⟩ := I.reveal hy he
    exact ⟨.ref p, q, h _ H Hv' (I'.set hx r) s⟩
  · exact h.elim
/-! ### dicts -/
theorem kvs_val {κ' : Type} [DecidableEq κ'] {H : Hp} {k : κ'} {kvs : List (κ' × D)} {kv : List (κ' × V)} (h : KVs H kvs kv) : match Mi.valK kvs k with
    | some d => ∃ v, valV kv k = some v ∧ Rep H d v
    | none => valV kv k = none := by
  unfold Mi.valK valV
  induction h with
  | nil => rfl
  | @cons p q l m hpq t ih =>
    rw [List.find?_cons, List.find?_cons, hpq.1]
    by_cases hk : q.1 = k
    · rw [decide_eq_true hk]
      exact ⟨q.2, rfl, hpq.2⟩
    · rw [decide_eq_false hk]
      exact ih
theorem kvs_put {κ' : Type} [DecidableEq κ'] {H : Hp} {k : κ'} {d : D} {v : V} (r : Rep H d v) {kvs : List (κ' × D)} {kv : List (κ' × V)} (h : KVs H kvs kv) : KVs H (Mi.putK k d kvs) (L2.putK kv k v) := by
  have e : (kvs.any fun x => decide (x.1 = k)) = (kv.any fun x => decide (x.1 = k)) := by
    induction h with
    | nil => rfl
    | @cons p q l m hpq t ih => rw [List.any_cons, List.any_cons, ih, hpq.1]
  unfold Mi.putK L2.putK
  rw [e]
  split
  · rename_i hh
    clear hh e
    induction h with
    | nil => exact .nil
    | @cons p q l m hpq t ih =>
      rw [List.map_cons, List.map_cons]
      refine .cons ?_ ih
      · by_cases hk : q.1 = k
        · rw [if_pos hk, if_pos (hpq.1.trans hk)]; exact ⟨hpq.1, r⟩
        · rw [if_neg hk, if_neg (fun z => hk (hpq.1.symm.trans z))]; exact hpq
  · exact P2.append h (.cons ⟨rfl, r⟩ .nil)
end
end A

set_option Elab.async false
set_option linter.all false
set_option maxRecDepth 100000
set_option maxHeartbeats 4000000
namespace A
open PySem L2 PyProof.Rows
open Mi (D W Rs Fin fin_bind Out Tg)
theorem sl_ge : (16777216 : Nat) = sizeLine := sizeLine_eq.symm
section
variable {X : Cx} {K : PySem.W.Frag}
/-! ### the operations over all kinds -/
def rStrAdd : R2 := fun x y H Q => ∃ i j, x = .str i ∧ y = .str j ∧ i.length + j.length ≤ sizeLine ∧ Q (.str (i ++ j)) H
theorem lstL {pins : List (Addr × Obj)} {σ : L2.St} {H : Hp} {s : Shared} {a : Addr} {xs : List V} (I : Inv X pins σ H s) (h : Lst H a xs) : ∃ (its : List Value) (n : Nat), Vals xs its ∧ xs.length ≤ sizeLine ∧ s.heap.get? a = some { cls := .type "list", data := .seq its.toArray n } := by
  rcases h with h | ⟨o, h⟩
  · obtain ⟨z, its, n, r, e⟩ := I.hok a _ h
    exact ⟨its, n, r, z, e⟩
  · obtain ⟨_, z, its, n, r, e⟩ := I.hok a _ h
    exact ⟨its, n, r, z, e⟩
def rCatS : R2 := fun x y H Q => ∃ l b xs zs, x = .ref l ∧ y = .ref b ∧ Lst H l xs ∧ Lst H b zs ∧ xs.length + zs.length ≤ sizeLine ∧ ∀ p, H p = none → Q (.ref p) (upd H p (.lst (xs ++ zs)))
theorem op_catS : OpR X (binaryOp .Add) rCatS := by
  intro pins s σ H x y v u Q I rx ry h
  obtain ⟨l, b, xs, zs, rfl, rfl, hH, hB, hz, q⟩ := h
  cases rx
  cases ry
  obtain ⟨its, n, r, z, e⟩ := lstL I hH
  obtain ⟨its2, n2, r2, z2, e2⟩ := lstL I hB
  have hl := r.length
  have hl2 := r2.length
  refine PySem.P.add_list e e2 ?_ (by rw [List.size_toArray, List.size_toArray]; omega)
  have ea : its.toArray ++ its2.toArray = (its ++ its2).toArray := by simp
  rw [ea]
  exact ⟨.ref _, _, I.lnew (t' := s.toks) (r.append r2) (by rw [List.length_append]; omega), rfl, q _ I.fresh⟩
def rAddU : R2 := fun x y H Q => rI0 (fun i j => .int (i + j)) x y H Q ∨ rStrAdd x y H Q ∨ rCatS x y H Q
theorem op_addU : OpR X (binaryOp .Add) rAddU := op_add.or (OpR.or op_add_str op_catS)
theorem p2_app_lst {Hv : Hp} {a b : List D} {xs ys : List V} (h : P2 (Rep Hv) a xs) (k : P2 (Rep Hv) b ys) : P2 (Rep Hv) (a ++ b) (xs ++ ys) := h.append k
/-- a new list, kept out of sight -/
theorem new_kN {H Hv : Hp} (vw : Vw H Hv) {ds : List D} {xs : List V} (r : P2 (Rep Hv) ds xs) {p : Addr} (hp : H p = none) : Grow H Hv (upd H p (.lst xs)) Hv ∧ qN H (upd H p (.lst xs)) Hv (.d (.lst ds)) (.ref p) :=
  ⟨.newH vw trivial hp, p, .lst xs, rfl, hp, upd_same, vis_none vw hp, r⟩
theorem new_kV {H Hv : Hp} (vw : Vw H Hv) {ds : List D} {xs : List V} (r : P2 (Rep Hv) ds xs) {p : Addr} (hp : H p = none) : Grow H Hv (upd H p (.lst xs)) (upd Hv p (.lst xs)) ∧ qV H (upd H p (.lst xs)) (upd Hv p (.lst xs)) (.d (.lst ds)) (.ref p) := by
  have g : Grow H Hv (upd H p (.lst xs)) (upd Hv p (.lst xs)) := .new vw hp
  exact ⟨g, rep_lst.mpr ⟨p, xs, rfl, .inl upd_same, p2_same g.vis r⟩⟩
theorem new_kT {H Hv : Hp} (vw : Vw H Hv) {ds : List D} {xs : List V} (r : P2 (Rep Hv) ds xs) {p : Addr} (hp : H p = none) : Grow H Hv (upd H p (.tup xs)) (upd Hv p (.tup xs)) ∧ qV H (upd H p (.tup xs)) (upd Hv p (.tup xs)) (.d (.tup ds)) (.ref p) := by
  have g : Grow H Hv (upd H p (.tup xs)) (upd Hv p (.tup xs)) := .new vw hp
  exact ⟨g, rep_tup.mpr ⟨p, xs, rfl, upd_same, p2_same g.vis r⟩⟩
theorem b_add : B2 qV rAddU Mi.dAdd := fun x y v u H Hv Q vw rx ry h => by
  cases x with
  | int i => cases y with
    | int j => cases RD.int rx; cases RD.int ry; exact .inl ⟨i, j, rfl, rfl, h _ H Hv (.refl vw) qv_int⟩
    | _ => exact h.elim
  | str i => cases y with
    | str j =>
      cases RD.str rx; cases RD.str ry
      obtain ⟨hz, h⟩ := Mi.fin_guard h
      exact .inr (.inl ⟨i, j, rfl, rfl, by rw [sizeLine_eq]; exact hz, h _ H Hv (.refl vw) qv_str⟩)
    | _ => exact h.elim
  | lst a => cases y with
    | lst b =>
      obtain ⟨hz, h⟩ := Mi.fin_guard h
      obtain ⟨p, xs, rfl, l1, r1⟩ := RD.lst vw rx
      obtain ⟨q, ys, rfl, l2, r2⟩ := RD.lst vw ry
      refine .inr (.inr ⟨p, q, xs, ys, rfl, rfl, l1, l2, by rw [← r1.len, ← r2.len, sizeLine_eq]; exact hz, fun a ha => ?_⟩)
      obtain ⟨g, k⟩ := new_kV vw (r1.append r2) ha
      exact h _ _ _ g k
    | _ => exact h.elim
  | _ => cases y <;> exact h.elim
/-- two lists, the answer to be named -/
theorem b_cat : B2 qN rCatS Mi.dCat := fun x y v u H Hv Q vw rx ry h => by
  cases x with
  | lst a => cases y with
    | lst b =>
      obtain ⟨hz, h⟩ := Mi.fin_guard h
      obtain ⟨p, xs, rfl, l1, r1⟩ := RD.lst vw rx
      obtain ⟨q, ys, rfl, l2, r2⟩ := RD.lst vw ry
      refine ⟨p, q, xs, ys, rfl, rfl, l1, l2, by rw [← r1.len, ← r2.len, sizeLine_eq]; exact hz, fun a ha => ?_⟩
      obtain ⟨g, k⟩ := new_kN vw (r1.append r2) ha
      exact h _ _ _ g k
    | _ => exact h.elim
  | _ => cases y <;> exact h.elim
theorem b_sub : B2 qV (rI0 fun i j => .int (i - j)) Mi.dSub := fun x y v u H Hv Q vw rx ry h => by
  cases x with
  | int i => cases y with
    | int j => cases RD.int rx; cases RD.int ry; exact ⟨i, j, rfl, rfl, h _ H Hv (.refl vw) qv_int⟩
    | _ => exact h.elim
  | _ => cases y <;> exact h.elim
theorem b_mul : B2 qV (rI CMul fun i j => .int (i * j)) Mi.dMulI := fun x y v u H Hv Q vw rx ry h => by
  cases x with
  | int i => cases y with
    | int j => cases RD.int rx; cases RD.int ry; obtain ⟨hz, h⟩ := Mi.fin_guard h; exact ⟨i, j, rfl, rfl, hz, h _ H Hv (.refl vw) qv_int⟩
    | _ => exact h.elim
  | _ => cases y <;> exact h.elim
theorem b_div : B2 qV (rI CDivB fun i j => .int (i / j)) Mi.dDiv := fun x y v u H Hv Q vw rx ry h => by
  cases x with
  | int i => cases y with
    | int j => cases RD.int rx; cases RD.int ry; obtain ⟨hz, h⟩ := Mi.fin_guard h; exact ⟨i, j, rfl, rfl, hz, h _ H Hv (.refl vw) qv_int⟩
    | _ => exact h.elim
  | _ => cases y <;> exact h.elim
theorem b_mod : B2 qV (rI (fun _ j => 0 < j) fun i j => .int (i % j)) Mi.dMod := fun x y v u H Hv Q vw rx ry h => by
  cases x with
  | int i => cases y with
    | int j => cases RD.int rx; cases RD.int ry; obtain ⟨hz, h⟩ := Mi.fin_guard h; exact ⟨i, j, rfl, rfl, hz, h _ H Hv (.refl vw) qv_int⟩
    | _ => exact h.elim
  | _ => cases y <;> exact h.elim
theorem b_pow : B2 qV (rI CPow fun i j => .int (i ^ j.toNat)) Mi.dPow := fun x y v u H Hv Q vw rx ry h => by
  cases x with
  | int i => cases y with
    | int j => cases RD.int rx; cases RD.int ry; obtain ⟨hz, h⟩ := Mi.fin_guard h; exact ⟨i, j, rfl, rfl, hz, h _ H Hv (.refl vw) qv_int⟩
    | _ => exact h.elim
  | _ => cases y <;> exact h.elim
theorem b_neg : B1 qV (rU fun i => .int (-i)) Mi.dNeg := fun x v H Hv Q vw rx h => by
  cases x with
  | int i => cases RD.int rx; exact ⟨i, rfl, h _ H Hv (.refl vw) qv_int⟩
  | _ => exact h.elim
/-! comparisons -/
def rLtU : R2 := fun x y H Q => rI0 (fun i j => .bl (decide (i < j))) x y H Q ∨ ∃ i j, x = .str i ∧ y = .str j ∧ Q (.bl (decide (i.cps.toList < j.cps.toList))) H
theorem op_ltU : OpR X (compareOp .Lt) rLtU := op_lt.or op_lt_str
def rGtU : R2 := fun x y H Q => rI0 (fun i j => .bl (decide (j < i))) x y H Q ∨ ∃ i j, x = .str i ∧ y = .str j ∧ Q (.bl (decide (j.cps.toList < i.cps.toList))) H
theorem op_gtU : OpR X (compareOp .Gt) rGtU := op_gt.or op_gt_str
theorem b_lt : B2 qV rLtU Mi.dLt := fun x y v u H Hv Q vw rx ry h => by
  cases x with
  | int i => cases y with
    | int j => cases RD.int rx; cases RD.int ry; exact .inl ⟨i, j, rfl, rfl, h _ H Hv (.refl vw) qv_bl⟩
    | _ => exact h.elim
  | str i => cases y with
    | str j => cases RD.str rx; cases RD.str ry; exact .inr ⟨i, j, rfl, rfl, h _ H Hv (.refl vw) qv_bl⟩
    | _ => exact h.elim
  | _ => cases y <;> exact h.elim
theorem b_gt : B2 qV rGtU Mi.dGt := fun x y v u H Hv Q vw rx ry h => by
  cases x with
  | int i => cases y with
    | int j => cases RD.int rx; cases RD.int ry; exact .inl ⟨i, j, rfl, rfl, h _ H Hv (.refl vw) qv_bl⟩
    | _ => exact h.elim
  | str i => cases y with
    | str j => cases RD.str rx; cases RD.str ry; exact .inr ⟨i, j, rfl, rfl, h _ H Hv (.refl vw) qv_bl⟩
    | _ => exact h.elim
  | _ => cases y <;> exact h.elim
theorem b_le : B2 qV (rI0 fun i j => .bl (decide (i ≤ j))) Mi.dLe := fun x y v u H Hv Q vw rx ry h => by
  cases x with
  | int i => cases y with
    | int j => cases RD.int rx; cases RD.int ry; exact ⟨i, j, rfl, rfl, h _ H Hv (.refl vw) qv_bl⟩
    | _ => exact h.elim
  | _ => cases y <;> exact h.elim
theorem b_ge : B2 qV (rI0 fun i j => .bl (decide (j ≤ i))) Mi.dGe := fun x y v u H Hv Q vw rx ry h => by
  cases x with
  | int i => cases y with
    | int j => cases RD.int rx; cases RD.int ry; exact ⟨i, j, rfl, rfl, h _ H Hv (.refl vw) qv_bl⟩
    | _ => exact h.elim
  | _ => cases y <;> exact h.elim
def rEqD (K : PySem.W.Frag) (neg : Bool) : R2 := fun x y H Q => ∃ d e, L2.Rep K H d x ∧ L2.Rep K H e y ∧ d.dep ≤ 16 ∧ Q (.bl (if neg then !Mi.pyEq d e else Mi.pyEq d e)) H
theorem b_eq : B2 qV (rEqD K false) Mi.dEq := fun x y v u H Hv Q vw rx ry h => by
  obtain ⟨hz, h⟩ := Mi.fin_guard h
  exact ⟨x, y, rep_up K (RD.full vw rx), rep_up K (RD.full vw ry), hz, h _ H Hv (.refl vw) qv_bl⟩
theorem b_ne : B2 qV (rEqD K true) Mi.dNe := fun x y v u H Hv Q vw rx ry h => by
  obtain ⟨hz, h⟩ := Mi.fin_guard h
  exact ⟨x, y, rep_up K (RD.full vw rx), rep_up K (RD.full vw ry), hz, h _ H Hv (.refl vw) qv_bl⟩
def rIsN (neg : Bool) : R2 := fun x y H Q => y = .non ∧ Q (.bl (if neg then !decide (x = .non) else decide (x = .non))) H
theorem op_isNU : OpR X (compareOp .Is) (rIsN false) := op_isN
theorem op_notNU : OpR X (compareOp .IsNot) (rIsN true) := op_notN
theorem rd_non {H Hv : Hp} {d : D} {v : V} (r : RD H Hv d v) : decide (v = .non) = Mi.isNon d := by
  cases d with
  | non => cases RD.non r; rfl
  | bl b => cases RD.bl r; rfl
  | int b => cases RD.int r; rfl
  | str b => cases RD.str r; rfl
  | lst ds =>
    rcases r with r | ⟨a, o, e, _⟩
    · obtain ⟨a, xs, e, _⟩ := rep_lst.mp r
      subst e; rfl
    · subst e; rfl
  | tup ds =>
    obtain ⟨a, xs, e, _⟩ := rep_tup.mp (r.scal fun _ z => by cases z)
    subst e; rfl
theorem b_is : B2 qV (rIsN false) Mi.dIs := fun x y v u H Hv Q vw rx ry h => by
  cases y with
  | non =>
    cases RD.non ry
    refine ⟨rfl, ?_⟩
    show Q (.bl (decide (v = .non))) H
    rw [rd_non rx]
    exact h _ H Hv (.refl vw) qv_bl
  | _ => exact h.elim
theorem b_isnot : B2 qV (rIsN true) Mi.dIsNot := fun x y v u H Hv Q vw rx ry h => by
  cases y with
  | non =>
    cases RD.non ry
    refine ⟨rfl, ?_⟩
    show Q (.bl (!decide (v = .non))) H
    rw [rd_non rx]
    exact h _ H Hv (.refl vw) qv_bl
  | _ => exact h.elim
def rInU (K : PySem.W.Frag) : R2 := fun x y H Q => rInD K false x y H Q ∨ rInS false x y H Q
theorem op_inU (hu : X.A.units + 64 < cLine) : OpR X (compareOp .In) (rInU X.K) := (op_inD hu).or op_in1
theorem p2_up {H : Hp} {ds : List D} {xs : List V} (h : P2 (Rep H) ds xs) : L2.Reps K H ds xs := reps_up K (reps_iff.mpr h)
theorem b_in : B2 qV (rInU K) Mi.dIn := fun x y v u H Hv Q vw rx ry h => by
  cases y with
  | lst ds =>
    obtain ⟨hz, h⟩ := Mi.fin_guard h
    obtain ⟨p, xs, rfl, l1, r1⟩ := RD.lst vw ry
    exact .inl ⟨p, xs, x, ds, rfl, .inl l1.sq, rep_up K (RD.full vw rx), p2_up (p2_same vw.sub r1), hz, h _ H Hv (.refl vw) qv_bl⟩
  | tup ds =>
    obtain ⟨hz, h⟩ := Mi.fin_guard h
    obtain ⟨p, xs, rfl, l1, _, r1⟩ := RD.tup vw ry
    exact .inl ⟨p, xs, x, ds, rfl, .inr (.inl (.inl l1)), rep_up K (RD.full vw rx), p2_up (p2_same vw.sub r1), hz, h _ H Hv (.refl vw) qv_bl⟩
  | str z => cases x with
    | str c =>
      obtain ⟨hz, h⟩ := Mi.fin_guard h
      cases RD.str rx; cases RD.str ry
      obtain ⟨⟨l⟩⟩ := c
      match l, hz with
      | [c], _ => exact .inr ⟨c, z, rfl, rfl, h _ H Hv (.refl vw) qv_bl⟩
    | _ => exact h.elim
  | _ => exact h.elim
theorem b_notin : B2 qV (rInD K true) Mi.dNotIn := fun x y v u H Hv Q vw rx ry h => by
  cases y with
  | lst ds =>
    obtain ⟨hz, h⟩ := Mi.fin_guard h
    obtain ⟨p, xs, rfl, l1, r1⟩ := RD.lst vw ry
    exact ⟨p, xs, x, ds, rfl, .inl l1.sq, rep_up K (RD.full vw rx), p2_up (p2_same vw.sub r1), hz, h _ H Hv (.refl vw) qv_bl⟩
  | tup ds =>
    obtain ⟨hz, h⟩ := Mi.fin_guard h
    obtain ⟨p, xs, rfl, l1, _, r1⟩ := RD.tup vw ry
    exact ⟨p, xs, x, ds, rfl, .inr (.inl (.inl l1)), rep_up K (RD.full vw rx), p2_up (p2_same vw.sub r1), hz, h _ H Hv (.refl vw) qv_bl⟩
  | _ => exact h.elim
theorem atI_eq {α : Type} (xs : List α) (i : Int) : Mi.atI xs i = L2.atI xs i := rfl
theorem at_p2 {α β : Type} {F : α → β → Prop} {l : List α} {m : List β} (h : P2 F l m) {i : Int} {a : α} (e : Mi.atI l i = some a) : ∃ b, L2.atI m i = some b ∧ F a b := by
  unfold Mi.atI at e
  cases hj : Mi.ixN l.length i with
  | none => rw [hj] at e; cases e
  | some j =>
    rw [hj] at e
    have e : l[j]? = some a := e
    obtain ⟨b, hb, r⟩ := h.getL e
    refine ⟨b, ?_, r⟩
    rw [← atI_eq]
    unfold Mi.atI
    rw [← h.len, hj]; exact hb
theorem b_ix : B2 qV (rIx K) Mi.dIx := fun x y v u H Hv Q vw rx ry h => by
  cases y with
  | int i =>
    cases RD.int ry
    cases x with
    | lst ds =>
      obtain ⟨d, e, h⟩ := ofO_ok h
      obtain ⟨p, xs, rfl, l1, r1⟩ := RD.lst vw rx
      obtain ⟨z, ez, rz⟩ := at_p2 r1 e
      exact .inl ⟨p, xs, i, z, rfl, rfl, l1.sq, ez, h z H Hv (.refl vw) rz⟩
    | tup ds =>
      obtain ⟨d, e, h⟩ := ofO_ok h
      obtain ⟨p, xs, rfl, l1, _, r1⟩ := RD.tup vw rx
      obtain ⟨z, ez, rz⟩ := at_p2 r1 e
      exact .inr (.inl ⟨p, xs, i, z, rfl, rfl, .inl (.inl l1), ez, h z H Hv (.refl vw) rz⟩)
    | str z =>
      cases RD.str rx
      obtain ⟨hz, h⟩ := Mi.fin_guard h
      obtain ⟨c, e, h⟩ := ofO_ok (fin_bind.mp h)
      exact .inr (.inr ⟨z, i, c, rfl, rfl, by rw [sizeLine_eq]; exact hz, e, h _ H Hv (.refl vw) qv_str⟩)
    | _ => exact h.elim
  | _ => cases x <;> exact h.elim
/-! slices -/
theorem cut_p2 {F : D → V → Prop} {l : List D} {m : List V} (h : P2 F l m) (lo hi : Option Int) : P2 F (Mi.cutL l lo hi) (L2.cutV m lo hi) := by
  unfold Mi.cutL L2.cutV
  rw [h.len]
  exact (h.drop _).take _
def rSlU (K : PySem.W.Frag) : V → Option Int → Option Int → Hp → VK → Prop := fun x lo hi H Q => rSlL K x lo hi H Q ∨ rSlS x lo hi H Q
theorem sl_U : SlR X (rSlU X.K) := sl_list.or sl_str
theorem cutS_eq (z : Str) (lo hi : Option Int) : cutS z lo hi = Mi.cutStr z lo hi := by
  unfold cutS Mi.cutStr Mi.cutL
  have : z.cps.toList.length = z.length := by simp [Str.length]
  rw [this]; rfl
theorem b_slV : BS qV (rSlU K) Mi.dSl := fun x lo hi v H Hv Q vw rx h => by
  cases x with
  | lst ds =>
    obtain ⟨p, xs, rfl, l1, r1⟩ := RD.lst vw rx
    refine .inl ⟨p, xs, rfl, l1.sq, fun a ha => ?_⟩
    obtain ⟨g, k⟩ := new_kV vw (cut_p2 r1 lo hi) ha
    exact h _ _ _ g k
  | str z =>
    cases RD.str rx
    obtain ⟨hz, h⟩ := Mi.fin_guard h
    exact .inr ⟨z, rfl, by rw [sizeLine_eq]; exact hz, h _ H Hv (.refl vw) (by rw [cutS_eq]; exact qv_str)⟩
  | _ => exact h.elim
theorem b_slN : BS qN (rSlL K) Mi.dSlL := fun x lo hi v H Hv Q vw rx h => by
  cases x with
  | lst ds =>
    obtain ⟨p, xs, rfl, l1, r1⟩ := RD.lst vw rx
    refine ⟨p, xs, rfl, l1.sq, fun a ha => ?_⟩
    obtain ⟨g, k⟩ := new_kN vw (cut_p2 r1 lo hi) ha
    exact h _ _ _ g k
  | _ => exact h.elim
/-! built-ins -/
theorem p2_one {F : D → V → Prop} {d : D} {vs : List V} (h : P2 F [d] vs) : ∃ v, vs = [v] ∧ F d v := by
  cases h with
  | cons r t => cases t; exact ⟨_, rfl, r⟩
theorem p2_two {F : D → V → Prop} {d e : D} {vs : List V} (h : P2 F [d, e] vs) : ∃ v u, vs = [v, u] ∧ F d v ∧ F e u := by
  cases h with
  | cons r t => cases t with
    | cons r' t => cases t; exact ⟨_, _, rfl, r, r'⟩
def rLen (K : PySem.W.Frag) : List V → Hp → VK → Prop := fun xs H Q => ∃ x n, xs = [x] ∧ LenV K x H n ∧ Q (.int n) H
theorem call_lenU : CallR X (.builtin "len") (rLen X.K) := call_len
theorem b_len : BN qV (rLen K) Mi.bLen := fun ds vs H Hv Q vw r h => by
  match ds, r, h with
  | [.lst ds], r, h =>
    obtain ⟨v, ev, rr⟩ := p2_one r
    subst ev
    replace r := rr
    obtain ⟨p, xs, rfl, l1, r1⟩ := RD.lst vw r
    refine ⟨_, xs.length, rfl, .inl ⟨xs, l1.sq, rfl⟩, ?_⟩
    rw [← r1.len]
    exact h _ H Hv (.refl vw) qv_int
  | [.tup ds], r, h =>
    obtain ⟨v, ev, rr⟩ := p2_one r
    subst ev
    replace r := rr
    obtain ⟨p, xs, rfl, l1, _, r1⟩ := RD.tup vw r
    refine ⟨_, xs.length, rfl, .inr ⟨xs, .inl (.inl l1), rfl⟩, ?_⟩
    rw [← r1.len]
    exact h _ H Hv (.refl vw) qv_int
  | [.str z], r, h =>
    obtain ⟨v, ev, rr⟩ := p2_one r
    subst ev
    replace r := rr
    cases RD.str r
    obtain ⟨hz, h⟩ := Mi.fin_guard h
    exact ⟨_, z.length, rfl, ⟨by rw [sizeLine_eq]; exact hz, rfl⟩, h _ H Hv (.refl vw) qv_int⟩
def rMax : List V → Hp → VK → Prop := fun xs H Q => ∃ i j z, xs = [.int i, .int j] ∧ max i j = z ∧ Q (.int z) H
def rMin : List V → Hp → VK → Prop := fun xs H Q => ∃ i j z, xs = [.int i, .int j] ∧ min i j = z ∧ Q (.int z) H
theorem call_maxU (hc : X.calm = true) : CallR X (.builtin "max") rMax := callE_max2 hc
theorem call_minU (hc : X.calm = true) : CallR X (.builtin "min") rMin := callE_min2 hc
theorem b_max : BN qV rMax Mi.bMax := fun ds vs H Hv Q vw r h => by
  match ds, r, h with
  | [.int i, .int j], r, h =>
    obtain ⟨v, u, ev, rr, r'⟩ := p2_two r
    subst ev
    replace r := rr
    cases RD.int r; cases RD.int r'
    exact ⟨i, j, _, rfl, rfl, h _ H Hv (.refl vw) qv_int⟩
theorem b_min : BN qV rMin Mi.bMin := fun ds vs H Hv Q vw r h => by
  match ds, r, h with
  | [.int i, .int j], r, h =>
    obtain ⟨v, u, ev, rr, r'⟩ := p2_two r
    subst ev
    replace r := rr
    cases RD.int r; cases RD.int r'
    exact ⟨i, j, _, rfl, rfl, h _ H Hv (.refl vw) qv_int⟩
theorem asBs_ok {Hv : Hp} : ∀ {ds : List D} {xs : List V} {bs : List Bool}, Mi.asBs ds = some bs → P2 (Rep Hv) ds xs → xs = bs.map V.bl
  | [], _, bs, e, r => by cases e; cases r; rfl
  | .bl b :: ds, _, bs, e, r => by
    cases r with
    | cons x t =>
      cases hb : Mi.asBs ds with
      | none => rw [Mi.asBs, hb] at e; cases e
      | some cs =>
        rw [Mi.asBs, hb] at e
        cases e
        rw [asBs_ok hb t, rep_bl.mp x]; rfl
  | .non :: _, _, _, e, _ => by cases e
  | .int _ :: _, _, _, e, _ => by cases e
  | .str _ :: _, _, _, e, _ => by cases e
  | .lst _ :: _, _, _, e, _ => by cases e
  | .tup _ :: _, _, _, e, _ => by cases e
theorem b_all : BN qV (rAll K (·.all id)) Mi.bAll := fun ds vs H Hv Q vw r h => by
  match ds, r, h with
  | [.lst ds], r, h =>
    obtain ⟨v, ev, rr⟩ := p2_one r
    subst ev
    replace r := rr
    obtain ⟨bs, e, h⟩ := ofO_ok (fin_bind.mp h)
    obtain ⟨p, xs, rfl, l1, r1⟩ := RD.lst vw r
    have := asBs_ok e r1
    subst this
    exact ⟨p, bs, rfl, l1.sq, h _ H Hv (.refl vw) qv_bl⟩
theorem b_any : BN qV (rAll K (·.any id)) Mi.bAny := fun ds vs H Hv Q vw r h => by
  match ds, r, h with
  | [.lst ds], r, h =>
    obtain ⟨v, ev, rr⟩ := p2_one r
    subst ev
    replace r := rr
    obtain ⟨bs, e, h⟩ := ofO_ok (fin_bind.mp h)
    obtain ⟨p, xs, rfl, l1, r1⟩ := RD.lst vw r
    have := asBs_ok e r1
    subst this
    exact ⟨p, bs, rfl, l1.sq, h _ H Hv (.refl vw) qv_bl⟩
def rList (K : PySem.W.Frag) : List V → Hp → VK → Prop := fun xs H Q => ∃ p ys, xs = [.ref p] ∧ (SqL K H p ys ∨ SqT K H p ys) ∧ ∀ l, H l = none → Q (.ref l) (upd H l (.lst ys))
theorem call_listU : CallR X (.type "list") (rList X.K) := call_list_of
theorem b_list : BN qN (rList K) Mi.bList := fun ds vs H Hv Q vw r h => by
  match ds, r, h with
  | [.lst ds], r, h =>
    obtain ⟨v, ev, rr⟩ := p2_one r
    subst ev
    replace r := rr
    obtain ⟨p, xs, rfl, l1, r1⟩ := RD.lst vw r
    refine ⟨p, xs, rfl, .inl l1.sq, fun a ha => ?_⟩
    obtain ⟨g, k⟩ := new_kN vw r1 ha
    exact h _ _ _ g k
  | [.tup ds], r, h =>
    obtain ⟨v, ev, rr⟩ := p2_one r
    subst ev
    replace r := rr
    obtain ⟨p, xs, rfl, l1, _, r1⟩ := RD.tup vw r
    refine ⟨p, xs, rfl, .inr (.inl (.inl l1)), fun a ha => ?_⟩
    obtain ⟨g, k⟩ := new_kN vw r1 ha
    exact h _ _ _ g k
def rTuple (K : PySem.W.Frag) : List V → Hp → VK → Prop := fun xs H Q => ∃ p ys, xs = [.ref p] ∧ ((SqL K H p ys ∧ ∀ l, H l = none → Q (.ref l) (upd H l (.tup ys))) ∨ (SqT K H p ys ∧ Q (.ref p) H))
theorem call_tupleU : CallR X (.type "tuple") (rTuple X.K) := call_tuple_of
theorem b_tuple : BN qV (rTuple K) Mi.bTuple := fun ds vs H Hv Q vw r h => by
  match ds, r, h with
  | [.lst ds], r, h =>
    obtain ⟨v, ev, rr⟩ := p2_one r
    subst ev
    replace r := rr
    obtain ⟨p, xs, rfl, l1, r1⟩ := RD.lst vw r
    refine ⟨p, xs, rfl, .inl ⟨l1.sq, fun a ha => ?_⟩⟩
    obtain ⟨g, k⟩ := new_kT vw r1 ha
    exact h _ _ _ g k
  | [.tup ds], r, h =>
    obtain ⟨v, ev, rr⟩ := p2_one r
    subst ev
    replace r := rr
    obtain ⟨p, xs, rfl, l1, l2, r1⟩ := RD.tup vw r
    exact ⟨p, xs, rfl, .inr ⟨.inl (.inl l1), h _ H Hv (.refl vw) (rep_tup.mpr ⟨p, xs, rfl, l2, r1⟩)⟩⟩
def rInt : List V → Hp → VK → Prop := fun xs H Q => (∃ i, xs = [.int i] ∧ Q (.int i) H) ∨ ∃ k, xs = [.bl k] ∧ Q (.int (if k then 1 else 0)) H
theorem call_intU : CallR X (.type "int") rInt := call_int1
theorem b_int : BN qV rInt Mi.bInt := fun ds vs H Hv Q vw r h => by
  match ds, r, h with
  | [.int i], r, h =>
    obtain ⟨v, ev, rr⟩ := p2_one r
    subst ev
    replace r := rr
    cases RD.int r
    exact .inl ⟨i, rfl, h _ H Hv (.refl vw) qv_int⟩
  | [.bl k], r, h =>
    obtain ⟨v, ev, rr⟩ := p2_one r
    subst ev
    replace r := rr
    cases RD.bl r
    exact .inr ⟨k, rfl, h _ H Hv (.refl vw) qv_int⟩
end
end A

set_option Elab.async false
set_option linter.all false
set_option maxRecDepth 100000
set_option maxHeartbeats 4000000
namespace A
open PySem L2 PyProof.Rows
open Mi (D W Rs Fin fin_bind Out Tg)
/-! ### == and != of trees -/
section
variable {X : Cx} {pins : List (Addr × Obj)} {σ : L2.St} {H : Hp} {s : Shared}
open SeqAt in
theorem rc_flat : ∀ {d e : D} {A : Around} {x y : V} {u u' : Value}, d.flat = true → e.flat = true → L2.Rep X.K H d x → L2.Rep X.K H e y → RelV x u → RelV y u' → RcAt A s u u' (Mi.pyEq d e) ∧ RcNeAt A s u u' (!Mi.pyEq d e) := by
  intro d e A x y u u' h1 h2 r1 r2 q1 q2
  cases d with
  | non =>
    rw [L2.Rep] at r1; subst r1; cases q1
    cases e with
    | non => rw [L2.Rep] at r2; subst r2; cases q2; exact ⟨RcAt.none_none, RcNeAt.none_none⟩
    | bl b => rw [L2.Rep] at r2; subst r2; cases q2; exact ⟨RcAt.none_bool b, RcNeAt.none_bool b⟩
    | int b => rw [L2.Rep] at r2; subst r2; obtain ⟨t, rfl⟩ := q2; exact ⟨RcAt.none_int b t, RcNeAt.none_int b t⟩
    | str b => rw [L2.Rep] at r2; subst r2; obtain ⟨t, rfl⟩ := q2; exact ⟨RcAt.none_str b t, RcNeAt.none_str b t⟩
    | _ => cases h2
  | bl a =>
    rw [L2.Rep] at r1; subst r1; cases q1
    cases e with
    | non => rw [L2.Rep] at r2; subst r2; cases q2; exact ⟨RcAt.bool_none a, RcNeAt.bool_none a⟩
    | bl b => rw [L2.Rep] at r2; subst r2; cases q2; rw [Mi.pyEq]; exact ⟨RcAt.bool_bool a b, RcNeAt.bool_bool a b⟩
    | int b => rw [L2.Rep] at r2; subst r2; obtain ⟨t, rfl⟩ := q2; rw [Mi.pyEq]; exact ⟨RcAt.bool_int a b t, RcNeAt.bool_int a b t⟩
    | str b => rw [L2.Rep] at r2; subst r2; obtain ⟨t, rfl⟩ := q2; exact ⟨RcAt.bool_str a b t, RcNeAt.bool_str a b t⟩
    | _ => cases h2
  | int a =>
    rw [L2.Rep] at r1; subst r1; obtain ⟨t1, rfl⟩ := q1
    cases e with
    | non => rw [L2.Rep] at r2; subst r2; cases q2; exact ⟨RcAt.int_none a t1, RcNeAt.int_none a t1⟩
    | bl b => rw [L2.Rep] at r2; subst r2; cases q2; rw [Mi.pyEq]; exact ⟨RcAt.int_bool a t1 b, RcNeAt.int_bool a t1 b⟩
    | int b => rw [L2.Rep] at r2; subst r2; obtain ⟨t, rfl⟩ := q2; rw [Mi.pyEq]; exact ⟨RcAt.int_int a t1 b t, RcNeAt.int_int a t1 b t⟩
    | str b => rw [L2.Rep] at r2; subst r2; obtain ⟨t, rfl⟩ := q2; exact ⟨RcAt.int_str a t1 b t, RcNeAt.int_str a t1 b t⟩
    | _ => cases h2
  | str a =>
    rw [L2.Rep] at r1; subst r1; obtain ⟨t1, rfl⟩ := q1
    cases e with
    | non => rw [L2.Rep] at r2; subst r2; cases q2; exact ⟨RcAt.str_none a t1, RcNeAt.str_none a t1⟩
    | bl b => rw [L2.Rep] at r2; subst r2; cases q2; exact ⟨RcAt.str_bool a t1 b, RcNeAt.str_bool a t1 b⟩
    | int b => rw [L2.Rep] at r2; subst r2; obtain ⟨t, rfl⟩ := q2; exact ⟨RcAt.str_int a t1 b t, RcNeAt.str_int a t1 b t⟩
    | str b => rw [L2.Rep] at r2; subst r2; obtain ⟨t, rfl⟩ := q2; rw [Mi.pyEq]; exact ⟨RcAt.str_str a t1 b t, RcNeAt.str_str a t1 b t⟩
    | _ => cases h2
  | _ => cases h1
open SeqAt in
theorem rc_D (I : Inv X pins σ H s) : ∀ (d e : D) (A : Around) {x y : V} {u u' : Value}, d.dep ≤ 16 → A.units + 17 < cLine → L2.Rep X.K H d x → L2.Rep X.K H e y → RelV x u → RelV y u' → RcAt A s u u' (Mi.pyEq d e) ∧ RcNeAt A s u u' (!Mi.pyEq d e) := by
  intro d e A x y u u' hd hu h h' r r'
  have hu0 : A.units < cLine := by omega
  have item : ∀ {ds es : List D} {xs ys : List V} {its its' : List Value}, Mi.depAll ds ≤ 16 → L2.Reps X.K H ds xs → L2.Reps X.K H es ys → Vals xs its → Vals ys its' →
      ∀ j (h1 : j < its.toArray.size) (h2 : j < its'.toArray.size), EqAt A.in1 s its.toArray[j] its'.toArray[j] (Mi.pyEq (ds.getD j .non) (es.getD j .non)) := by
    intro ds es xs ys its its' hn q q' v v' j h1 h2
    have h1' : j < its.length := by simpa using h1
    have h2' : j < its'.length := by simpa using h2
    have e1 : j < xs.length := by rw [v.length]; exact h1'
    have e2 : j < ys.length := by rw [v'.length]; exact h2'
    have g1 : xs[j]? = some xs[j] := by simp [e1]
    have g2 : ys[j]? = some ys[j] := by simp [e2]
    obtain ⟨w1, k1, r1⟩ := v.get g1
    obtain ⟨w2, k2, r2⟩ := v'.get g2
    have t1 : its.toArray[j] = w1 := by obtain ⟨_, k1⟩ := List.getElem?_eq_some_iff.mp k1; simpa using k1
    have t2 : its'.toArray[j] = w2 := by obtain ⟨_, k2⟩ := List.getElem?_eq_some_iff.mp k2; simpa using k2
    rw [t1, t2]
    have := depAll_le (ds := ds) (j := j)
    refine eqAt_D I 16 _ _ A.in1 (by omega) ?_ (q.get g1) (q'.get g2) r1 r2
    show A.units + 1 + 16 < cLine
    omega
  by_cases hdf : d.flat = true
  · by_cases hef : e.flat = true
    · exact rc_flat hdf hef h h' r r'
    · cases e with
      | lst es =>
        rw [L2.Rep] at h'
        obtain ⟨a, xs, rfl, q, _⟩ := h'
        cases r'
        obtain ⟨its, _, p, _⟩ := I.list q
        cases d with
        | non => rw [L2.Rep] at h; subst h; cases r; exact ⟨RcAt.none_list p.isList hu0, RcNeAt.none_list p.isList hu0⟩
        | bl b => rw [L2.Rep] at h; subst h; cases r; exact ⟨RcAt.bool_list b p.isList hu0, RcNeAt.bool_list b p.isList hu0⟩
        | int b => rw [L2.Rep] at h; subst h; obtain ⟨t, rfl⟩ := r; exact ⟨RcAt.int_list b t p.isList hu0, RcNeAt.int_list b t p.isList hu0⟩
        | str b => rw [L2.Rep] at h; subst h; obtain ⟨t, rfl⟩ := r; exact ⟨RcAt.str_list b t p.isList hu0, RcNeAt.str_list b t p.isList hu0⟩
        | _ => cases hdf
      | tup es =>
        rw [L2.Rep] at h'
        obtain ⟨a, xs, rfl, q, _⟩ := h'
        cases r'
        obtain ⟨its, _, p, _⟩ := I.tuple q
        cases d with
        | non => rw [L2.Rep] at h; subst h; cases r; exact ⟨RcAt.none_tuple p hu0, RcNeAt.none_tuple p hu0⟩
        | bl b => rw [L2.Rep] at h; subst h; cases r; exact ⟨RcAt.bool_tuple b p hu0, RcNeAt.bool_tuple b p hu0⟩
        | int b => rw [L2.Rep] at h; subst h; obtain ⟨t, rfl⟩ := r; exact ⟨RcAt.int_tuple b t p hu0, RcNeAt.int_tuple b t p hu0⟩
        | str b => rw [L2.Rep] at h; subst h; obtain ⟨t, rfl⟩ := r; exact ⟨RcAt.str_tuple b t p hu0, RcNeAt.str_tuple b t p hu0⟩
        | _ => cases hdf
      | _ => exact absurd rfl hef
  · cases d with
    | lst ds =>
      rw [L2.Rep] at h
      obtain ⟨a, xs, rfl, q, rr⟩ := h
      cases r
      obtain ⟨its, v, p, _⟩ := I.list q
      have hn : Mi.depAll ds ≤ 16 := by rw [Mi.D.dep] at hd; omega
      cases e with
      | non => rw [L2.Rep] at h'; subst h'; cases r'; exact ⟨RcAt.list_none p.isList hu0, RcNeAt.list_none p.isList hu0⟩
      | bl b => rw [L2.Rep] at h'; subst h'; cases r'; exact ⟨RcAt.list_bool b p.isList hu0, RcNeAt.list_bool b p.isList hu0⟩
      | int b => rw [L2.Rep] at h'; subst h'; obtain ⟨t, rfl⟩ := r'; exact ⟨RcAt.list_int b t p.isList hu0, RcNeAt.list_int b t p.isList hu0⟩
      | str b => rw [L2.Rep] at h'; subst h'; obtain ⟨t, rfl⟩ := r'; exact ⟨RcAt.list_str b t p.isList hu0, RcNeAt.list_str b t p.isList hu0⟩
      | lst es =>
        rw [L2.Rep] at h'
        obtain ⟨b, ys, rfl, q', rr'⟩ := h'
        cases r'
        obtain ⟨its', v', p', _⟩ := I.list q'
        have l1 := rr.length
        have l2 := rr'.length
        have l3 := v.length
        have l4 := v'.length
        by_cases hl : ds.length = es.length
        · rw [Mi.pyEq, pyEqs_all hl]
          have e1 : its.toArray.size = ds.length := by simp; omega
          have k1 := RcAt.lists p.isList p'.isList (by simp; omega) hu0 (item hn rr rr' v v')
          have k2 := RcNeAt.lists p.isList p'.isList (by simp; omega) hu0 (item hn rr rr' v v')
          rw [e1] at k1 k2
          exact ⟨k1, k2⟩
        · rw [Mi.pyEq, pyEqs_len hl]
          exact ⟨RcAt.lists_lengths p.isList p'.isList (by simp; omega) hu0, RcNeAt.lists_lengths p.isList p'.isList (by simp; omega) hu0⟩
      | tup es =>
        rw [L2.Rep] at h'
        obtain ⟨b, ys, rfl, q', _⟩ := h'
        cases r'
        obtain ⟨its', _, p', _⟩ := I.tuple q'
        exact ⟨RcAt.list_tuple p.isList p' hu0, RcNeAt.list_tuple p.isList p' hu0⟩
    | tup ds =>
      rw [L2.Rep] at h
      obtain ⟨a, xs, rfl, q, rr⟩ := h
      cases r
      obtain ⟨its, v, p, _⟩ := I.tuple q
      have hn : Mi.depAll ds ≤ 16 := by rw [Mi.D.dep] at hd; omega
      cases e with
      | non => rw [L2.Rep] at h'; subst h'; cases r'; exact ⟨RcAt.tuple_none p hu0, RcNeAt.tuple_none p hu0⟩
      | bl b => rw [L2.Rep] at h'; subst h'; cases r'; exact ⟨RcAt.tuple_bool b p hu0, RcNeAt.tuple_bool b p hu0⟩
      | int b => rw [L2.Rep] at h'; subst h'; obtain ⟨t, rfl⟩ := r'; exact ⟨RcAt.tuple_int b t p hu0, RcNeAt.tuple_int b t p hu0⟩
      | str b => rw [L2.Rep] at h'; subst h'; obtain ⟨t, rfl⟩ := r'; exact ⟨RcAt.tuple_str b t p hu0, RcNeAt.tuple_str b t p hu0⟩
      | tup es =>
        rw [L2.Rep] at h'
        obtain ⟨b, ys, rfl, q', rr'⟩ := h'
        cases r'
        obtain ⟨its', v', p', _⟩ := I.tuple q'
        have l1 := rr.length
        have l2 := rr'.length
        have l3 := v.length
        have l4 := v'.length
        have k1 := RcAt.tuples p p' hu0 (item hn rr rr' v v')
        have k2 := RcNeAt.tuples p p' hu0 (item hn rr rr' v v')
        have e1 : its.toArray.size = ds.length := by simp; omega
        have e2 : its'.toArray.size = es.length := by simp; omega
        rw [e1, e2] at k1 k2
        by_cases hl : ds.length = es.length
        · rw [Mi.pyEq, pyEqs_all hl]
          rw [hl, Nat.min_self, beq_self_eq_true, Bool.and_true, ← hl] at k1 k2
          exact ⟨k1, k2⟩
        · rw [Mi.pyEq, pyEqs_len hl]
          have : (ds.length == es.length) = false := by simpa using hl
          rw [this, Bool.and_false] at k1 k2
          exact ⟨k1, k2⟩
      | lst es =>
        rw [L2.Rep] at h'
        obtain ⟨b, ys, rfl, q', _⟩ := h'
        cases r'
        obtain ⟨its', _, p', _⟩ := I.list q'
        exact ⟨RcAt.tuple_list p p'.isList hu0, RcNeAt.tuple_list p p'.isList hu0⟩
    | _ => exact absurd rfl hdf
theorem op_eqD (hu : X.A.units + 64 < cLine) : OpR X (compareOp .Eq) (rEqD X.K false) := by
  intro pins s σ H x y v u Q I rx ry h
  obtain ⟨d, e, r1, r2, hz, q⟩ := h
  exact (rc_D I d e X.A hz (by omega) r1 r2 rx ry).1 _ _ _ _ ⟨.bl _, H, I, rfl, q⟩
theorem op_neD (hu : X.A.units + 64 < cLine) : OpR X (compareOp .NotEq) (rEqD X.K true) := by
  intro pins s σ H x y v u Q I rx ry h
  obtain ⟨d, e, r1, r2, hz, q⟩ := h
  exact (rc_D I d e X.A hz (by omega) r1 r2 rx ry).2 _ _ _ _ ⟨.bl _, H, I, rfl, q⟩
end
section
variable {X : Cx} {K : PySem.W.Frag} {M : Nat → Bool} {κ : Kd} {ta tb te : TE} {a b : Mi.E}
/-! ### a list times an int -/
def rRepS : R2 := fun x y H Q => ∃ l k xs, x = .ref l ∧ y = .int k ∧ H l = some (.lst xs) ∧ -(2 ^ 63) ≤ k ∧ k < 2 ^ 63 ∧ xs.length * k.toNat ≤ sizeLine ∧ ∀ p, H p = none → Q (.ref p) (upd H p (.lst (List.replicate k.toNat xs).flatten))
theorem op_repS : OpR X (binaryOp .Mult) rRepS := op_rep
/-- a written list times an int -/
theorem a_rep {tr : TA} {as : List Mi.E} (ha : AA M qV tr (Mi.mArgs as)) (hb : AE M qP tb b) : AE M qN (tOp rRepS (tLst tr) tb) (Mi.m2 Mi.dRep (Mi.mN Mi.dLst as) b) := fun e σ H Hv Q I h =>
  a_lst ha e σ H Hv _ I ((fin_bind.mp h).mono fun x hx v H1 Hv1 g1 rx => hb e σ H1 Hv1 _ (I.grow g1) ((fin_bind.mp hx).mono fun y hy u H2 Hv2 g2 ry => by
    obtain ⟨p, o, rfl, hf, hp, hn, c⟩ := rx
    cases x with
    | lst ds => cases o with
      | lst xs => cases y with
        | int k =>
          obtain ⟨⟨h1, h2, h3⟩, hy⟩ := Mi.fin_guard hy
          cases RD.int ry
          have c : P2 (Rep Hv1) ds xs := c
          refine ⟨p, k, xs, rfl, rfl, g2.old _ _ hp, h1, h2, by rw [← c.len, sizeLine_eq]; exact h3, fun l hl => ?_⟩
          obtain ⟨g, kk⟩ := new_kN g2.vw ((p2_same g2.vis c).rep k.toNat) hl
          exact hy _ _ _ (g1.trans (g2.trans g)) (KM.mono (κ := qN) (g1.old.trans g2.old) kk)
        | _ => exact hy.elim
      | _ => exact c.elim
    | _ => cases y <;> exact hy.elim))
/-! ### isinstance -/
theorem ty_of {H Hv : Hp} (vw : Vw H Hv) {d : D} {v : V} (r : RD H Hv d v) : TyOf K H v (.type (Mi.tyName d)) := by
  cases d with
  | non => cases RD.non r; exact .non
  | bl b => cases RD.bl r; exact .bl b
  | int b => cases RD.int r; exact .int b
  | str b => cases RD.str r; exact .str b
  | lst ds =>
    obtain ⟨p, xs, rfl, l, _⟩ := RD.lst vw r
    rcases l with l | ⟨o, l⟩
    · exact .lst l
    · exact .frz l
  | tup ds =>
    obtain ⟨p, xs, rfl, l, _⟩ := RD.tup vw r
    exact .tup l
/-- what isinstance says of each kind against T -/
def TyIs (K : PySem.W.Frag) (T : String) : Prop := ∀ d : D, PySem.W.kitOne K (.type (Mi.tyName d)) (.type T) = some (Mi.isTy T d)
theorem a_is {T : String} (hT : TyIs K T) (ha : AE M qP ta a) : AE M qV (tCB (rIsT K) (tCons ta (tCons (tC (.ty T)) tNil))) (Mi.m1 (Mi.bIs [T]) a) := fun e σ H Hv Q I h =>
  ha e σ H Hv _ I ((fin_bind.mp h).mono fun x hx v H1 Hv1 g1 rx => ⟨v, _, T, _, rfl, ty_of g1.vw rx, hT x, (Mi.fin_now hx) _ H1 Hv1 g1 (by
    have : ([T].any fun t => Mi.isTy t x) = Mi.isTy T x := by simp
    rw [this]; exact qv_bl)⟩)
theorem ty_bool (K : PySem.W.Frag) : TyIs K "bool" := fun d => by cases d <;> rfl
theorem ty_int (K : PySem.W.Frag) : TyIs K "int" := fun d => by cases d <;> rfl
theorem ty_str (K : PySem.W.Frag) : TyIs K "str" := fun d => by cases d <;> rfl
theorem ty_list (K : PySem.W.Frag) : TyIs K "list" := fun d => by cases d <;> rfl
theorem ty_tuple (K : PySem.W.Frag) : TyIs K "tuple" := fun d => by cases d <;> rfl
end
end A

set_option Elab.async false
set_option linter.all false
set_option maxRecDepth 100000
set_option maxHeartbeats 4000000
namespace A
open PySem L2 PyProof.Rows
open Mi (D W Rs Fin fin_bind Out Tg)
/-! ### a def's entry -/
def Mo (l : List Nat) : Nat → Bool := fun i => l.contains i
theorem start_R1 {M : Nat → Bool} {N : List Str} {k : Nat} {ws : List W} {vs : List V} {H Hv : Hp} (vw : Vw H Hv) (p : P2 (RepW Hv) ws vs) (hk : ws.length = k) (hM : ∀ i, i < k → M i = false) :
    R1 M H Hv (ws.map some ++ List.replicate (N.length - ws.length) none) (start N vs) H Hv := by
  have get : ∀ {i : Nat} {w : W}, (ws.map some ++ List.replicate (N.length - ws.length) none)[i]? = some (some w) → ws[i]? = some w ∧ i < k := fun {i w} h => by
    by_cases hi : i < ws.length
    · rw [List.getElem?_append_left (by simpa using hi), List.getElem?_map] at h
      cases e : ws[i]? with
      | none => rw [e] at h; cases h
      | some a => rw [e] at h; cases h; exact ⟨rfl, by omega⟩
    · rw [List.getElem?_append_right (by simpa using hi), List.getElem?_replicate] at h
      split at h <;> cases h
  have no : ∀ {i : Nat} {w : W}, (ws.map some ++ List.replicate (N.length - ws.length) none)[i]? = some (some w) → M i = true → False := fun {i w} h m => by
    rw [hM i (get h).2] at m; cases m
  refine ⟨⟨vw, ?_, fun i w h m => ?_, fun i w h m => (no h m).elim⟩, .refl vw, fun i w a h m => (no h m).elim, fun i j w w' a b _ h _ m => (no h m).elim⟩
  · unfold L2.start
    rw [List.length_append, List.length_append, List.length_map, List.length_map, List.length_replicate, List.length_replicate, p.len]
  · obtain ⟨hw, hi⟩ := get h
    obtain ⟨v, hv, r⟩ := p.getL hw
    refine ⟨v, ?_, r⟩
    unfold L2.start
    rw [List.getElem?_append_left (by rw [List.length_map, ← p.len]; omega), List.getElem?_map, hv]; rfl
theorem lenD {f : Mi.S} {k n : Nat} {vs : List V} {H : Hp} {Q : VK} {E : XK} (h : spD (Mi.fnM k n f) vs H Q E) : vs.length = k := by
  obtain ⟨Hv, ws, _, p, q⟩ := h
  rw [← p.len]; exact (Mi.fin_guard q).1
theorem lenN {f : Mi.S} {k n : Nat} {vs : List V} {H : Hp} {Q : VK} {E : XK} (h : spN (Mi.fnN k n f) vs H Q E) : vs.length = k := by
  obtain ⟨Hv, ws, _, p, q⟩ := h
  rw [← p.len]; exact (Mi.fin_guard q).1
theorem runD {N : List Str} {M : Nat → Bool} {k : Nat} {t : TS} {m : Mi.S} (hA : AS M qV t m) (hM : ∀ i, i < k → M i = false) {vs : List V} {H : Hp} {Q : VK} {E : XK} (h : spD (Mi.fnM k N.length m) vs H Q E) :
    t { nx := fun _ H' => Q .non H', rt := Q } (start N vs) H := by
  obtain ⟨Hv, ws, vw, p, q⟩ := h
  obtain ⟨hk, q⟩ := Mi.fin_guard q
  refine hA H Hv _ _ H Hv _ (start_R1 vw p hk hM) ((fin_bind.mp q).mono fun o ho => ?_)
  cases o with
  | nx e => exact fun σ H' Hv' I s => ho _ H' Hv' I.gw qv_non
  | rt w => exact fun v H' Hv' g r => ho v H' Hv' g r
  | bk e => exact ho.elim
  | ct e => exact ho.elim
theorem runN {N : List Str} {M : Nat → Bool} {k : Nat} {t : TS} {m : Mi.S} (hA : AS M qN t m) (hM : ∀ i, i < k → M i = false) {vs : List V} {H : Hp} {Q : VK} {E : XK} (h : spN (Mi.fnN k N.length m) vs H Q E) :
    t { nx := fun _ H' => Q .non H', rt := Q } (start N vs) H := by
  obtain ⟨Hv, ws, vw, p, q⟩ := h
  obtain ⟨hk, q⟩ := Mi.fin_guard q
  refine hA H Hv _ _ H Hv _ (start_R1 vw p hk hM) ((fin_bind.mp q).mono fun o ho => ?_)
  cases o with
  | rt w => exact fun v H' Hv' g r => ho v H' Hv' g r
  | nx e => exact ho.elim
  | bk e => exact ho.elim
  | ct e => exact ho.elim
theorem _root_.L2.Cal.nd {P : Program} {w : World} {K : PySem.W.Frag} {mg : Str → Option Value} {base : Heap} {CX : CXT} {k : Nat} {x : Str} {ps : List Str} {f : Mi.Fn} (C : Cal P w K mg base CX k x ps (spN f)) : Cal P w K mg base CX k x ps (spD f) := by
  obtain ⟨a, fd, h1, h2, h3, h4⟩ := C.ex
  exact ⟨a, fd, h1, h2, h3, h4.imp fun vs H Q E z => spD_spN z⟩
theorem fnOk_zero {P : Program} {w : World} {K : PySem.W.Frag} {mg : Str → Option Value} {base : Heap} {CX : CXT} {k : Nat} {f : Addr} {fd : FuncData} {ps : List Str} : FnOk P w K mg base CX k f fd ps (spD Mi.fnZ) :=
  ⟨fun vs H Q E h => by obtain ⟨_, _, _, _, q⟩ := h; exact q.elim, fun A outer s H args us vs Q E _ _ _ _ h => by obtain ⟨_, _, _, _, q⟩ := h; exact q.elim⟩
theorem fnOk_zeroN {P : Program} {w : World} {K : PySem.W.Frag} {mg : Str → Option Value} {base : Heap} {CX : CXT} {k : Nat} {f : Addr} {fd : FuncData} {ps : List Str} : FnOk P w K mg base CX k f fd ps (spN Mi.fnZ) :=
  ⟨fun vs H Q E h => by obtain ⟨_, _, _, _, q⟩ := h; exact q.elim, fun A outer s H args us vs Q E _ _ _ _ h => by obtain ⟨_, _, _, _, q⟩ := h; exact q.elim⟩
/-- the law's own -/
def spLaw : Sp := fun vs H Q _ => ∃ (a : Addr) (ns : List Int), vs = [.ref a] ∧ Lst H a (ns.map V.int) ∧ ns.length ≤ 63 ∧ ∀ H', Q (.bl true) H'
theorem ints_rep (H : Hp) : ∀ ns : List Int, P2 (Rep H) (ns.map D.int) (ns.map V.int)
  | [] => .nil
  | n :: r => .cons (rep_int.mpr rfl) (ints_rep H r)
theorem law_of {P : Program} {w : World} {K : PySem.W.Frag} {mg : Str → Option Value} {base : Heap} {CX : CXT} {k : Nat} {f : Addr} {fd : FuncData} {ps : List Str} {m : Mi.Fn} (F : FnOk P w K mg base CX k f fd ps (spD m))
    (h : ∀ ns : List Int, ns.length ≤ 63 → m [.d (.lst (ns.map D.int))] = .ok (.d (.bl true))) : FnOk P w K mg base CX k f fd ps spLaw :=
  F.imp fun vs H Q E ⟨a, ns, e, l, hl, q⟩ => by
    subst e
    refine ⟨H, [.d (.lst (ns.map D.int))], .refl _, .cons (rep_lst.mpr ⟨a, _, rfl, l, ints_rep H ns⟩) .nil, ?_⟩
    rw [h ns hl]
    intro v H' Hv' g r
    cases (rep_bl (H := Hv')).mp r
    exact q H'
/-! ### enumerate(list) -/
def Ite (K : PySem.W.Frag) (a : Addr) : It :=
  ⟨fun i H => ∃ xs x, SqL K H a xs ∧ xs[i]? = some x, fun i H v H' => ∃ p x, (∀ xs, SqL K H a xs → xs[i]? = some x) ∧ H p = none ∧ v = .ref p ∧ H' = upd H p (.tup [.int i, x]), fun i H => ∃ xs, SqL K H a xs ∧ xs.length = i⟩
/-- several objects turn, a new one is laid -/
theorem turned_new {X : Cx} {pins : List (Addr × Obj)} {σ : L2.St} {H : Hp} {s : Shared} {fp : List Addr} {T : Addr} {o : HO} {h' : Heap} {t' : Nat} (I : Inv X pins σ H s) (hf : ∀ b ∈ fp, FpOk X pins H b)
    (k : ∀ b u, b ∉ fp → s.heap.get? b = some u → h'.get? b = some u) (hT : s.heap.objs.size ≤ T) (new : ObjOk X.prog X.w (upd H T o) h' T o) : Inv X pins σ (upd H T o) { s with heap := h', toks := t' } := by
  have hn : H T = none := I.hok.fresh hT
  have nfp : ∀ b u, H b = some u → b ∉ fp := fun b u e z => by rw [(hf b z).1] at e; cases e
  refine I.call' (s' := { s with heap := h', toks := t' }) (ch := fp) rfl ⟨fun b u e _ _ hb => k b u hb e, fun b u e _ _ hb => ⟨u.slots, k b u hb e⟩, fun b u e hb _ => ?_, fun b u e hb => ⟨u, k b u hb e⟩, fun b xs e => ?_, fun b q u e => ?_, fun b ps e => ⟨#[], ?_⟩⟩ ?_ I.bare
    fun b hb => ⟨(hf b hb).2.2.2.1, (hf b hb).2.1, (hf b hb).2.2.2.2.1, (hf b hb).2.2.2.2.2⟩
  · have : b ≠ T := Nat.ne_of_lt (Nat.lt_of_lt_of_le (Heap.lt_size e) hT)
    rw [upd_ne this]; exact hb
  · rw [upd_ne (ne_of_none e hn)]; exact e
  · rw [upd_ne (ne_of_none e hn)]; exact e
  · rw [upd_ne (ne_of_none e hn), e]; simp
  · intro b u e
    by_cases hb : b = T
    · subst hb; rw [upd_same] at e; cases e; exact new
    · rw [upd_ne hb] at e
      refine (I.hok b u e).stay (fun c v hc q => k c v ?_ q) (fun c q => by rw [upd_ne (ne_of_none q hn)]; exact q) fun c xs q => by rw [upd_ne (ne_of_none q hn)]; exact q
      rcases hc with z | z
      · rw [z]; exact nfp b u e
      · exact nfp c _ z
theorem turned_all {X : Cx} {pins : List (Addr × Obj)} {σ : L2.St} {H : Hp} {s : Shared} {fp : List Addr} {h' : Heap} {t' : Nat} (I : Inv X pins σ H s) (hf : ∀ b ∈ fp, FpOk X pins H b)
    (k : ∀ b u, b ∉ fp → s.heap.get? b = some u → h'.get? b = some u) : Inv X pins σ H { s with heap := h', toks := t' } := by
  have nfp : ∀ b u, H b = some u → b ∉ fp := fun b u e z => by rw [(hf b z).1] at e; cases e
  refine I.call' (s' := { s with heap := h', toks := t' }) (ch := fp) rfl ⟨fun b u e _ _ hb => k b u hb e, fun b u e _ _ hb => ⟨u.slots, k b u hb e⟩, fun b u e hb _ => hb, fun b u e hb => ⟨u, k b u hb e⟩, fun b xs e => e, fun b q u e => e, fun b ps e => ⟨#[], by rw [e]; simp⟩⟩ ?_ I.bare
    fun b hb => ⟨(hf b hb).2.2.2.1, (hf b hb).2.1, (hf b hb).2.2.2.2.1, (hf b hb).2.2.2.2.2⟩
  intro b u e
  refine (I.hok b u e).stay (fun c v hc q => k c v ?_ q) (fun c q => q) fun c xs q => q
  rcases hc with z | z
  · rw [z]; exact nfp b u e
  · exact nfp c _ z
theorem turn_enum {P : Program} {w : World} {K : PySem.W.Frag} {elts : List Expr} {k1 : Nat} {pos : Pos} (a e it : Addr) (hne : e ≠ it) : Turn P w K (.Tuple elts k1 pos) (Ite K a) [e, it] e (fun i h => (∃ old, IsEnum h e it i old) ∧ h.IsListIter it a i) where
  mem := by simp
  obj := fun i h st b hb => by
    obtain ⟨⟨old, he⟩, o, ho, c, d⟩ := st
    rcases List.mem_cons.mp hb with rfl | hb
    · exact ⟨_, he, fun v z => by cases z⟩
    · have e1 : b = it := by simpa using hb
      subst e1
      exact ⟨o, ho, fun v z => by rw [d] at z; cases z⟩
  keep := fun i h h' st kk => ⟨let ⟨old, he⟩ := st.1; ⟨old, kk e (by simp) _ he⟩, st.2.at fun o q => kk it (by simp) o q⟩
  item := by
    intro X hP hw hK hc i pins s σ H E I hf st hg
    subst hP hw hK
    obtain ⟨xs, x, hq, hx⟩ := hg
    obtain ⟨its, rv, p, hz⟩ := I.list hq
    obtain ⟨u, hu, ru⟩ := rv.get hx
    obtain ⟨⟨old, he⟩, hli⟩ := st
    have hlt : i < its.toArray.size := by rw [List.size_toArray]; exact (List.getElem?_eq_some_iff.mp hu).1
    have hai : a ≠ it := by
      rintro rfl
      obtain ⟨o, ho, c, _⟩ := hli
      obtain ⟨o', n, ho', c', _⟩ := p
      rw [ho] at ho'; cases ho'
      rw [c] at c'; exact absurd (Value.type.inj c') (by decide)
    have hea : e ≠ a := by
      rintro rfl
      obtain ⟨o', n, ho', c', _⟩ := p
      rw [he] at ho'; cases ho'
      exact absurd (Value.type.inj c') (by decide)
    refine wpAny_pyNext_enum_itemD (Draws.list (by first | exact I.ok.hd hc | (simp; exact I.ok.hd hc)) it a hai its.toArray) he ⟨hli, p.isList⟩ hlt hne (by simp [hne, hea]) fun y h' tk hy ho hs' hT hsz hk => ?_
    have hy : y = u := by
      have hu' : its.toArray[i]? = some u := by simpa using hu
      rw [hu'] at hy; exact (Option.some.inj hy).symm
    subst hy
    refine ⟨_, rfl, wpAny_letOwnedTupleGo_enum ho fun h2 he2 hs2 => ?_⟩
    have kk : ∀ b o, b ∉ [e, it] → s.heap.get? b = some o → h2.get? b = some o := fun b o hb q => by
      simp at hb
      exact (hs2.2 b hb.1).trans (hk b o hb.1 hb.2 q)
    have hTn : s.heap.objs.size ≠ e := fun z => absurd (Heap.lt_size he) (by rw [z]; exact Nat.lt_irrefl _)
    refine ⟨.ref s.heap.objs.size, upd H s.heap.objs.size (.tup [.int i, x]), turned_new (s := s) (t' := tk + 1) I hf kk (Nat.le_refl _) ?_, rfl, ⟨_, x, fun ys hy => by rw [I.list_inj hy hq]; exact hx, I.hok.fresh (Nat.le_refl _), rfl, rfl⟩, ⟨⟨_, he2⟩, ?_⟩, fun b hb => ?_⟩
    · exact ⟨by simp only [List.length_cons, List.length_nil]; rw [sizeLine_eq]; decide, [.int i tk, y], .cons ⟨_, rfl⟩ (.cons ru .nil), ⟨_, (hs2.2 _ hTn).trans hT, rfl, _, rfl⟩⟩
    · exact hs'.1.at fun o q => (hs2.2 it (Ne.symm hne)).trans q
    · have : b ≠ s.heap.objs.size := fun z => by
        subst z
        rcases List.mem_cons.mp hb with z | z
        · exact hTn z
        · have z : s.heap.objs.size = it := by simpa using z
          obtain ⟨o, ho, _⟩ := hli
          exact absurd (Heap.lt_size ho) (by rw [← z]; exact Nat.lt_irrefl _)
      rw [upd_ne this]; exact (hf b hb).1
  done := by
    intro X hP hw hK hc i pins s σ H E I hf st hg
    subst hP hw hK
    obtain ⟨xs, hq, hx⟩ := hg
    obtain ⟨its, rv, p, hz⟩ := I.list hq
    obtain ⟨⟨old, he⟩, hli⟩ := st
    have hl := rv.length
    have hai : a ≠ it := by
      rintro rfl
      obtain ⟨o, ho, c, _⟩ := hli
      obtain ⟨o', n, ho', c', _⟩ := p
      rw [ho] at ho'; cases ho'
      rw [c] at c'; exact absurd (Value.type.inj c') (by decide)
    subst hx
    have D := Draws.list (prog := X.prog) (w := X.w) (A := X.A.in1) (by first | exact I.ok.hd hc | (simp; exact I.ok.hd hc)) it a hai its.toArray
    have hn : its.toArray.size = xs.length := by simp; omega
    rw [hn] at D
    exact wpAny_pyNext_enum_endD D he ⟨hli, p.isList⟩ fun h' hx => ⟨rfl, turned_all (s := s) (t' := s.toks) I hf fun b o hb q => hx b o (fun z => hb (by simp [z])) q⟩
  self := fun _ i s Q E st h => let ⟨⟨old, he⟩, _⟩ := st; wpAny_pyIter_enum he h
section
variable {X : Cx} {elts : List Expr} {k1 : Nat} {tpos : Pos}
def iEnumL (K : PySem.W.Frag) (tl : TE) : TI := fun σ H R => tl σ H fun x H1 => ∃ a, [x] = [V.ref a] ∧ (∃ xs, SqL K H1 a xs) ∧ R (Ite K a) H1
theorem pi_enum {a : Expr} {ta : TE} {p pos : Pos} (hg : Gl X "enumerate") (hm : X.mg "enumerate" = none) (ha : PE X a ta) (hs : starEach [a] X.env = [(false, eval a X.env)] := by rfl) (hs0 : starEach [a] X.env = (false, eval a X.env) :: starEach [] X.env := by rfl) :
    PI X (.Tuple elts k1 tpos) (.Call (.Name "enumerate" p) [a] [] pos) (iEnumL X.K ta) := by
  intro pins s σ H R I h
  refine Call_ (ld_blt I hg hm boot_enumerate (PyProof.Rows.callWith_type1 (thn (pa_cons ha pa_nil hs0 pos pins s σ H (fun vs H1 => ∃ l, vs = [.ref l] ∧ (∃ xs, SqL X.K H1 l xs) ∧ R (Ite X.K l) H1) I ?_) fun us s1 ⟨vs, H1, I1, r1, q1⟩ => ?_) hs rfl))
  · exact h
  · obtain ⟨l, e, ⟨xs, hq⟩, q⟩ := q1
    subst e
    obtain ⟨u, rfl, ru⟩ := vals1 r1
    cases ru
    obtain ⟨its, rv, pl, hz⟩ := I1.list hq
    refine call_enumerate_list pl.isList fun h' hE hI hsz hk => ?_
    refine wpAny_pyIter_enum hE ?_
    have I2 : Inv X pins σ H1 { s1 with heap := h' } := I1.kept (t' := s1.toks) fun b o e => hk b o e
    refine ⟨_, [s1.heap.objs.size + 1, s1.heap.objs.size], _, _, H1, rfl, I2, turn_enum l (s1.heap.objs.size + 1) s1.heap.objs.size (Nat.ne_of_gt (Nat.lt_succ_self _)), ⟨⟨_, hE⟩, hI⟩, fun b hb => ?_, q⟩
    have hb : s1.heap.objs.size ≤ b := by
      rcases List.mem_cons.mp hb with z | z
      · rw [z]; exact Nat.le_succ _
      · have z : b = s1.heap.objs.size := by simpa using z
        rw [z]; exact Nat.le_refl _
    exact I1.fpOk hb (I1.hok.fresh hb)
theorem enum_get : ∀ {ds : List D} {k i : Nat} {d : D}, ds[i]? = some d → (Mi.dEnum k ds)[i]? = some (.tup [.int ((k + i : Nat) : Int), d])
  | [], _, _, _, h => by simp at h
  | d :: r, k, 0, e, h => by simp at h; subst h; rfl
  | d :: r, k, i + 1, e, h => by
    have := enum_get (ds := r) (k := k + 1) (i := i) (d := e) (by simpa using h)
    rw [Mi.dEnum, List.getElem?_cons_succ, this]
    rw [show k + 1 + i = k + (i + 1) by omega]
theorem enum_len : ∀ (ds : List D) (k : Nat), (Mi.dEnum k ds).length = ds.length
  | [], _ => rfl
  | d :: r, k => by rw [Mi.dEnum, List.length_cons, List.length_cons, enum_len r]
theorem dLst_ok {x : D} {k : List D → Prop} (h : Fin (Mi.dLstItems x) k) : ∃ ds, x = .lst ds ∧ k ds := by
  cases x with
  | lst b => exact ⟨b, rfl, h⟩
  | _ => exact h.elim
theorem itD_enum {K : PySem.W.Frag} {a : Addr} {ds : List D} {P : Hp → Hp → Prop} (ok : ∀ H Hv, P H Hv → Vw H Hv → ∃ xs, SqL K H a xs ∧ P2 (Rep Hv) ds xs) : ItD (Ite K a) P (Mi.dEnum 0 ds) := by
  refine ⟨fun i H Hv p v hi => ?_, fun i H Hv x H' p v hi y => ?_, fun H Hv p v => ?_⟩
  · obtain ⟨xs, l, r⟩ := ok H Hv p v
    rw [enum_len] at hi
    obtain ⟨x, hx, _⟩ := r.getL (i := i) (a := ds[i]) (by simp [hi])
    exact ⟨xs, x, l, hx⟩
  · obtain ⟨xs, l, r⟩ := ok H Hv p v
    rw [enum_len] at hi
    obtain ⟨q, z, hz, hq, rfl, rfl⟩ := y
    obtain ⟨x, hx, rx⟩ := r.getL (i := i) (a := ds[i]) (by simp [hi])
    rw [hz xs l] at hx
    cases hx
    obtain ⟨g, k⟩ := new_kT v (ds := [.int i, ds[i]]) (xs := [.int i, z]) (.cons (rep_int.mpr rfl) (.cons rx .nil)) hq
    refine ⟨_, .tup [.int i, ds[i]], g, ?_, k⟩
    rw [enum_get (i := i) (d := ds[i]) (by simp [hi])]
    simp
  · obtain ⟨xs, l, r⟩ := ok H Hv p v
    exact ⟨xs, l, by rw [enum_len, r.len]⟩
theorem ai_enum {M : Nat → Bool} {K : PySem.W.Frag} {ta : TE} {a : Mi.E} (ha : AE M qV ta a) : AIf M (iEnumL K ta) (Mi.iEnum a) := fun e σ H Hv R I h =>
  ha e σ H Hv _ I ((fin_bind.mp h).mono fun x hx v H1 Hv1 g1 rx => by
    obtain ⟨ds, rfl, hk⟩ := dLst_ok (fin_bind.mp hx)
    obtain ⟨p, xs, rfl, l, r⟩ := (rep_lst (H := Hv1)).mp rx
    exact ⟨p, rfl, ⟨xs, (l.same g1.vw.sub).sq⟩, hk (Ite K p) H1 Hv1 (fun H Hv => Lst Hv p xs ∧ P2 (Rep Hv) ds xs) g1 (itD_enum fun H Hv z v => ⟨xs, (z.1.same v.sub).sq, z.2⟩) ⟨l, r⟩ fun H1 Hv1 H2 Hv2 z s v => ⟨z.1.same s, p2_same s z.2⟩⟩)
end
end A

set_option Elab.async false
set_option linter.all false
set_option maxRecDepth 100000
set_option maxHeartbeats 4000000
namespace A
open PySem L2 PyProof.Rows
open Mi (D W Rs Fin fin_bind Out Tg)
section
variable {X : Cx} {K : PySem.W.Frag} {M : Nat → Bool} {κ : Kd} {ta tb te tk : TE} {a b k : Mi.E}
/-! ### join -/
theorem asSs_ok {Hv : Hp} : ∀ {ds : List D} {xs : List V} {bs : List Str}, Mi.asSs ds = some bs → P2 (Rep Hv) ds xs → xs = bs.map V.str
  | [], _, bs, e, r => by cases e; cases r; rfl
  | .str b :: ds, _, bs, e, r => by
    cases r with
    | cons x t =>
      cases hb : Mi.asSs ds with
      | none => rw [Mi.asSs, hb] at e; cases e
      | some cs =>
        rw [Mi.asSs, hb] at e
        cases e
        rw [asSs_ok hb t, rep_str.mp x]; rfl
  | .non :: _, _, _, e, _ => by cases e
  | .int _ :: _, _, _, e, _ => by cases e
  | .bl _ :: _, _, _, e, _ => by cases e
  | .lst _ :: _, _, _, e, _ => by cases e
  | .tup _ :: _, _, _, e, _ => by cases e
theorem a_join (ha : AE M qP ta a) (hb : AE M qP tb b) : AE M qV (tBM K "str" (rJoin K) ta (tCons tb tNil)) (Mi.m2 Mi.dJoin a b) := fun e σ H Hv Q I h => by
  obtain ⟨x, hx, h⟩ := fin_ok (fin_bind.mp h)
  obtain ⟨y, hy, h⟩ := fin_ok (fin_bind.mp h)
  cases x with
  | str sep => cases y with
    | lst ds =>
      obtain ⟨ys, hs, h⟩ := ofO_ok (fin_bind.mp h)
      obtain ⟨hz, h⟩ := Mi.fin_guard h
      refine ha e σ H Hv _ I (by
        rw [hx]
        intro v H1 Hv1 g1 r1
        cases RD.str r1
        refine ⟨rfl, hb e σ H1 Hv1 _ (I.grow g1) (by
          rw [hy]
          intro v2 H2 Hv2 g2 r2
          obtain ⟨p, xs, rfl, l, r⟩ := RD.lst g2.vw r2
          have := asSs_ok hs r
          subst this
          exact ⟨sep, p, ys, rfl, rfl, l.sq, hz, (Mi.fin_now h) _ H2 Hv2 (g1.trans g2) qv_str⟩)⟩)
    | _ => exact h.elim
  | _ => cases y <;> exact h.elim
/-! ### extend -/
def rExtendS : V → List V → Hp → VK → Prop := fun x vs H Q => ∃ l b xs zs, x = .ref l ∧ vs = [.ref b] ∧ H l = some (.lst xs) ∧ Lst H b zs ∧ xs.length + zs.length ≤ sizeLine ∧ Q .non (upd H l (.lst (xs ++ zs)))
theorem mt_extendS : MtM X "list.extend" rExtendS := by
  intro pins s σ H x vs v us Q I rx rv h
  obtain ⟨l, b, xs, zs, rfl, rfl, hH, hB, hz, q⟩ := h
  cases rx
  obtain ⟨u, rfl, ru⟩ := rv.one
  cases ru
  obtain ⟨z, its, n, r, hl, e⟩ := I.lstM hH
  obtain ⟨its2, n2, r2, z2, e2⟩ := lstL I hB
  have hl2 := r2.length
  have hsz : its.toArray.size + its2.toArray.size ≤ sizeLine := by rw [List.size_toArray, List.size_toArray]; omega
  have hlong : ¬ (!its.toArray.isEmpty && Builtin.List.listTooLong (its.toArray.size + its2.toArray.size)) = true := by
    rw [notLongL hsz, Bool.and_false]
    exact Bool.false_ne_true
  refine call_meets F.slot_list_extend ⟨_, e, rfl⟩ F.entry_list_extend (F.args_list_extend_2 _ _)
    (AutoSeq1.list_extend_list_list_0 l its.toArray n b its2.toArray n2 hlong (by rw [List.size_toArray]; omega) (by omega)) ⟨e, e2, ?_⟩
  refine ⟨.non, _, I.lset (its' := its ++ its2) hH e (by simp) (r.append r2) ?_, rfl, q⟩
  rw [List.length_append]
  omega
theorem as_extend (i : Nat) (hm : M i = true) (ha : AE M qV te a) : AS M κ (tDrop (tBM K "list" rExtendS (tVar i) (tCons te tNil))) (Mi.sExtend i a) := fun H0 Hv0 e σ H Hv D I h => by
  obtain ⟨d, hd, h⟩ := fin_ok (fin_bind.mp h)
  obtain ⟨ds, he, h⟩ := getL_ok (fin_bind.mp h)
  cases d with
  | lst es =>
    obtain ⟨hz, h⟩ := Mi.fin_guard h
    obtain ⟨p, xs, q, q1, n, c⟩ := I.list hm he
    refine ⟨.ref p, q, .inl ⟨rfl, xs, .inl (.inl q1)⟩, ha e σ H Hv _ I.toR0 (by
      rw [hd]
      intro v H1 Hv1 g1 r
      have I1 := I.grow g1
      obtain ⟨b, ys, rfl, l, r⟩ := (rep_lst (H := Hv1)).mp r
      refine ⟨p, b, xs, ys, rfl, rfl, g1.old _ _ q1, l.same g1.vw.sub, by rw [← c.len, ← r.len, sizeLine_eq]; exact hz, ?_⟩
      exact h σ _ Hv1 (I1.write hm he q (show CellIs Hv1 (.d (.lst (ds ++ es))) (.lst (xs ++ ys)) from (p2_same g1.vis c).append r)) g1.vis)⟩
  | _ => exact h.elim
/-! ### dicts -/
theorem key_rep {H : Hp} {d : D} {v : V} {y : Mi.Ky} (h : Mi.dKey d = some y) (r : Rep H d v) : v = kV y := by
  cases d with
  | int i => cases h; exact rep_int.mp r
  | str i => cases h; exact rep_str.mp r
  | _ => cases h
theorem keys_rep {H : Hp} : ∀ {ds : List D} {vs : List V} {ys : List Mi.Ky}, Mi.dKeys ds = some ys → P2 (Rep H) ds vs → vs = ys.map kV
  | [], _, _, h, r => by cases h; cases r; rfl
  | d :: ds, _, ys, h, r => by
    cases r with
    | cons x t =>
      unfold Mi.dKeys at h
      cases h1 : Mi.dKey d with
      | none => rw [h1] at h; cases h
      | some y =>
        cases h2 : Mi.dKeys ds with
        | none => rw [h1, h2] at h; cases h
        | some zs =>
          rw [h1, h2] at h
          cases h
          rw [key_rep h1 x, keys_rep h2 t]; rfl
/-- what the dict of a name holds -/
theorem dget_ok {H Hv : Hp} (vw : Vw H Hv) {w : W} {x : V} {d : D} {v : V} {q : Option D → Prop} (hw : RB H Hv w x) (r : Rep Hv d v) (h : Fin (Mi.dGet w d) q) : ∃ a o o', x = .ref a ∧ DGet H a v o ∧ q o' ∧ match o' with
    | some d' => ∃ v', o = some v' ∧ Rep Hv d' v'
    | none => o = none := by
  cases w with
  | d x => exact h.elim
  | dk kvs =>
    obtain ⟨y, hy, h⟩ := ofO_ok (fin_bind.mp h)
    have h : q (Mi.valK kvs y) := h
    have : ∃ a kv, x = .ref a ∧ H a = some (.dK kv) ∧ KVs Hv kvs kv := by
      rcases hw with ⟨a, kv, e, z, c⟩ | ⟨a, o, e, z, c⟩
      · exact ⟨a, kv, e, vw.sub _ _ z, c⟩
      · cases o with
        | dK kv => exact ⟨a, kv, e, z, c⟩
        | _ => exact c.elim
    obtain ⟨a, kv, e, z, c⟩ := this
    have hv := key_rep hy r
    subst hv
    exact ⟨a, _, _, e, DGet.k z, h, kvs_val c⟩
  | dt kvs =>
    cases d with
    | tup ds =>
      obtain ⟨y, hy, h⟩ := ofO_ok (fin_bind.mp h)
      have h : q (Mi.valK kvs y) := h
      have : ∃ a kv, x = .ref a ∧ H a = some (.dT kv) ∧ KVs Hv kvs kv := by
        rcases hw with ⟨a, kv, e, z, c⟩ | ⟨a, o, e, z, c⟩
        · exact ⟨a, kv, e, vw.sub _ _ z, c⟩
        · cases o with
          | dT kv => exact ⟨a, kv, e, z, c⟩
          | _ => exact c.elim
      obtain ⟨a, kv, e, z, c⟩ := this
      obtain ⟨b, xs, rfl, l, r⟩ := rep_tup.mp r
      have hv := keys_rep hy r
      subst hv
      exact ⟨a, _, _, e, DGet.t z (vw.sub _ _ l), h, kvs_val c⟩
    | _ => exact h.elim
theorem a_din (i : Nat) (hk : AE M qV tk k) : AE M qV (tDIn tk (tVar i)) (Mi.mDIn i k) := fun e σ H Hv Q I h =>
  hk e σ H Hv _ I ((fin_bind.mp h).mono fun d hd v H1 Hv1 g1 r => by
    obtain ⟨w, he, hd⟩ := wV_ok (fin_bind.mp hd)
    have I1 := I.grow g1
    obtain ⟨x, q, z⟩ := I1.any he
    obtain ⟨a, o, o', e1, g, h2, m⟩ := dget_ok g1.vw z r (fin_bind.mp hd)
    refine ⟨x, q, a, o, e1, g, ?_⟩
    have : o.isSome = o'.isSome := by
      cases o' with
      | none => have m : o = none := m; rw [m]; rfl
      | some d' => obtain ⟨v', m, _⟩ := m; rw [m]; rfl
    rw [this]
    exact h2 _ H1 Hv1 g1 qv_bl)
theorem a_dnotin (i : Nat) (hk : AE M qV tk k) : AE M qV (tDNotIn tk (tVar i)) (Mi.mDNotIn i k) := fun e σ H Hv Q I h =>
  hk e σ H Hv _ I ((fin_bind.mp h).mono fun d hd v H1 Hv1 g1 r => by
    obtain ⟨w, he, hd⟩ := wV_ok (fin_bind.mp hd)
    have I1 := I.grow g1
    obtain ⟨x, q, z⟩ := I1.any he
    obtain ⟨a, o, o', e1, g, h2, m⟩ := dget_ok g1.vw z r (fin_bind.mp hd)
    refine ⟨x, q, a, o, e1, g, ?_⟩
    have : o.isSome = o'.isSome := by
      cases o' with
      | none => have m : o = none := m; rw [m]; rfl
      | some d' => obtain ⟨v', m, _⟩ := m; rw [m]; rfl
    rw [this]
    exact h2 _ H1 Hv1 g1 qv_bl)
theorem a_dget (i : Nat) (hk : AE M qV tk k) : AE M qV (tDGet (tVar i) tk) (Mi.mDGet i k) := fun e σ H Hv Q I h => by
  obtain ⟨d, hd, h⟩ := fin_ok (fin_bind.mp h)
  obtain ⟨w, he, h⟩ := wV_ok (fin_bind.mp h)
  obtain ⟨x, q, z⟩ := I.any he
  refine ⟨x, q, hk e σ H Hv _ I (by
    rw [hd]
    intro v H1 Hv1 g1 r
    obtain ⟨a, o, o', e1, g, h2, m⟩ := dget_ok g1.vw (z.grow g1) r (fin_bind.mp h)
    cases o' with
    | none => exact h2.elim
    | some d' =>
      obtain ⟨v', rfl, rv⟩ := m
      exact ⟨a, v', e1, g, h2 v' H1 Hv1 g1 rv⟩)⟩
theorem as_dput {tv : TE} {v : Mi.E} (i : Nat) (hm : M i = true) (hk : AE M qV tk k) (hv : AE M qV tv v) : AS M κ (L2.sDPut (tVar i) tk tv) (Mi.sDPut i k v) := fun H0 Hv0 e σ H Hv D I h => by
  obtain ⟨d, hd, h⟩ := fin_ok (fin_bind.mp h)
  obtain ⟨y, hy, h⟩ := fin_ok (fin_bind.mp h)
  obtain ⟨w, he, h⟩ := wV_ok (fin_bind.mp h)
  refine hv e σ H Hv _ I.toR0 (by
    rw [hd]
    intro x H1 Hv1 g1 rx
    have I1 := I.grow g1
    obtain ⟨p, o, q, q1, n, h0, c⟩ := I1.cell hm he
    refine ⟨.ref p, q, hk e σ H1 Hv1 _ I1.toR0 (by
      rw [hy]
      intro u H2 Hv2 g2 ru
      have I2 := I1.grow g2
      have c2 := c.same g2.vis
      have q2 := g2.old _ _ q1
      have g12 := g1.trans g2
      have rx2 := rep_same g2.vis rx
      cases w with
      | d x => exact (show False from fin_bind.mp h).elim
      | dk kvs =>
        obtain ⟨hz, h⟩ := Mi.fin_guard (fin_bind.mp h)
        obtain ⟨ky, hky, h⟩ := ofO_ok (fin_bind.mp h)
        cases o with
        | dK kv =>
          have c2 : KVs Hv2 kvs kv := c2
          have hu := key_rep hky ru
          subst hu
          refine ⟨p, _, rfl, DPut.k q2 (by rw [← P2.len c2, sizeLine_eq]; exact hz), ?_⟩
          exact h σ _ Hv2 (I2.write hm he q (show CellIs Hv2 (.dk (Mi.putK ky d kvs)) (.dK (L2.putK kv ky x)) from kvs_put rx2 c2)) g12.vis
        | _ => exact c2.elim
      | dt kvs =>
        cases y with
        | tup ds =>
          obtain ⟨hz, h⟩ := Mi.fin_guard (fin_bind.mp h)
          obtain ⟨ky, hky, h⟩ := ofO_ok (fin_bind.mp h)
          cases o with
          | dT kv =>
            have c2 : KVs Hv2 kvs kv := c2
            obtain ⟨b, xs, rfl, l, r⟩ := (rep_tup (H := Hv2)).mp ru
            have hu := keys_rep hky r
            subst hu
            refine ⟨p, _, rfl, DPut.t q2 (g2.vw.sub _ _ l) (by rw [← P2.len c2, sizeLine_eq]; exact hz), ?_⟩
            exact h σ _ Hv2 (I2.write hm he q (show CellIs Hv2 (.dt (Mi.putK ky d kvs)) (.dT (L2.putK kv ky x)) from kvs_put rx2 c2)) g12.vis
          | _ => exact c2.elim
        | _ => exact (show False from fin_bind.mp h).elim)⟩)
end
end A

set_option Elab.async false
set_option linter.all false
set_option maxRecDepth 100000
set_option maxHeartbeats 4000000
namespace A
open PySem L2 PyProof.Rows
open Mi (D W Rs Fin fin_bind Out Tg)
/-! ### set(a list of texts), for its len -/
open Mi (met)
theorem met_len (val : Nat → Str) : ∀ i, (met val i).length ≤ i
  | 0 => Nat.le_refl _
  | i + 1 => by
    have ih := met_len val i
    unfold met
    split
    · omega
    · rw [List.length_append, List.length_singleton]; omega
theorem met_mem (val : Nat → Str) (i : Nat) (x : Str) : decide (x ∈ met val (i + 1)) = (decide (x ∈ met val i) || decide (x = val i)) := by
  rw [met]
  split
  · rename_i h
    by_cases e : x = val i
    · subst e; simp [h]
    · simp [e]
  · rw [show decide (x ∈ met val i ++ [val i]) = (decide (x ∈ met val i) || decide (x = val i)) from by simp]
section
variable {prog : Program} {w : World} {Ar : Around} {R : Result → Shared → Prop} {I S : Addr} {fp wr : List Addr} {n : Nat} {P : Nat → Value → Prop} {St : Nat → Heap → Prop}
theorem set_same {h : Heap} {a : Addr} {F G : Str → Bool} {n m : Nat} (hS : h.SetOf (PySem.strKind prog w) a F n) (e : ∀ k, F k = G k) (en : n = m) : h.SetOf (PySem.strKind prog w) a G m := by
  rw [← funext e, ← en]; exact hS
theorem set_keep {h h' : Heap} {a : Addr} {F : Str → Bool} {n : Nat} (hS : h.SetOf (PySem.strKind prog w) a F n) (k : ∀ o, h.get? a = some o → h'.get? a = some o) : h'.SetOf (PySem.strKind prog w) a F n :=
  let ⟨o, es, ep, t, ho, r⟩ := hS; ⟨o, es, ep, t, k o ho, r⟩
theorem set_loop (W : Walks prog w Ar.in1 I fp wr n P St) (hSf : S ∉ fp) (val : Nat → Str) (hv : ∀ i v, P i v → ∃ t, v = .str (val i) t) (hb : n + 1 < scanBound) :
    ∀ (k i : Nat) (s : Shared), n = i + k → St i s.heap → s.heap.SetOf (PySem.strKind prog w) S (fun x => decide (x ∈ met val i)) (met val i).length →
      (∀ h' tk, (∀ b o, b ≠ S → b ∉ wr → s.heap.get? b = some o → h'.get? b = some o) → h'.SetOf (PySem.strKind prog w) S (fun x => decide (x ∈ met val n)) (met val n).length → R (.ok (.ret .none)) { s with heap := h', toks := tk }) →
      codeAny (model prog w) Ar (.builtin "set.update.loop" ⟨[.ref S, .ref I], []⟩) R s := by
  have hSw : S ∉ wr := fun z => hSf (W.sub _ z)
  intro k
  induction k with
  | zero =>
    intro i s hk st hS hR
    obtain rfl : n = i := hk
    refine codeAny_builtin PyProof.Rows.F.entry_set_update_loop (by
      rw [Around.under_plainId PyProof.Rows.F.plain_set_update_loop _]
      show wpAny _ Ar.in1 (pyNext (.ref I) >>= _) _ _ s
      refine wpAny_bind (W.done s _ _ st fun h' tk hm => ?_)
      exact wpAny_pure (hR h' tk (fun b o _ hw e => hm b o hw e) (set_keep hS fun o e => hm S o hSw e)))
  | succ k ih =>
    intro i s hk st hS hR
    have hlt : i < n := by omega
    refine codeAny_builtin PyProof.Rows.F.entry_set_update_loop (by
      rw [Around.under_plainId PyProof.Rows.F.plain_set_update_loop _]
      show wpAny _ Ar.in1 (pyNext (.ref I) >>= _) _ _ s
      refine wpAny_bind (W.item i s _ _ hlt st fun v h1 tk hP st1 hm => ?_)
      obtain ⟨t, rfl⟩ := hv i v hP
      have hS1 := set_keep hS fun o e => hm S o hSw e
      show wpAny _ Ar.in1 (holding [Value.str (val i) t] (setAdd S (.str (val i) t)) >>= _) _ _ _
      refine wpAny_bind (wpAny_holding ?_)
      unfold setAdd
      refine wpAny_holding (wpAny_bind ((PySem.strKind prog w).pyHash (k := val i) (strKind_is _ _ _ _) ?_))
      have room : (met val i).length + 1 < scanBound := by have := met_len val i; omega
      refine wpAny_setAddHashed_of (knd := PySem.strKind prog w) (strKind_is _ _ _ _) rfl hS1 room fun h2 sb hS2 => ?_
      have hS3 : h2.SetOf (PySem.strKind prog w) S (fun x => decide (x ∈ met val (i + 1))) (met val (i + 1)).length := by
        refine set_same hS2 (fun x => (met_mem val i x).symm) ?_
        rw [met]
        by_cases hm : val i ∈ met val i
        · simp [hm]
        · simp [hm]
      refine wpAny_pure ⟨plainId_quiet PyProof.Rows.F.plain_set_update_loop _, ih (i + 1) _ (by omega) (W.frame _ _ _ st1 fun b hb o e => (sb.2 b fun z => hSf (z ▸ hb)).trans e) hS3 fun h3 tk3 hm3 hS4 => ?_⟩
      exact hR h3 tk3 (fun b o hbS hw e => hm3 b o hbS hw ((sb.2 b hbS).trans (hm b o hw e))) hS4)
abbrev setO (led : Bool) : Obj := { cls := .type "set", dict := none, data := .set #[] 0 (.fresh 0 0 led) }
set_option maxHeartbeats 8000000 in
theorem call_set_strs {E : Value → Shared → Prop} {s : Shared} {l : Addr} {items : Array Value} {xs : List Str} {Q : Value → Shared → Prop} (hh : Ar.handled = none) (hl : s.heap.IsList l items) (hx : ∀ i v, items[i]? = some v → ∃ t, v = Value.str (xs.getD i Str.empty) t) (hb : items.size + 1 < scanBound)
    (h : ∀ h' tk, h'.SetOf (PySem.strKind prog w) s.heap.objs.size (fun x => decide (x ∈ met (fun i => xs.getD i Str.empty) items.size)) (met (fun i => xs.getD i Str.empty) items.size).length →
      (∀ b o, b < s.heap.objs.size → s.heap.get? b = some o → h'.get? b = some o) → Q (.ref s.heap.objs.size) { s with heap := h', toks := tk }) : wpAny (model prog w) Ar (call (.type "set") [.ref l]) Q E s := by
  obtain ⟨c0, tl0, hmro⟩ := PySem.F.called_set.mro
  have mk1 := PySem.F.called_set.made
  have mk2 := PySem.F.called_set.sub
  refine wpAny_call (codeAny_of_tree (by
    show wpAny _ _ (callAny (.type "set") _) _ _ _
    refine wpAny_pure ⟨Code.quiet_builtin _ (by decide +kernel), codeAny_builtin PySem.F.entry_type_call (by
      rw [Around.under_plain (weight_type_call_type "set" [.ref l] []) rfl]
      have mk3 := PySem.F.called_set.notType
      have mk4 := PySem.F.called_set.canCreate
      have mk5 := PySem.F.typeCall_set_1 (.ref l)
      repeat (any_goals (first | assumption | wp_step))
      refine codeAny_mono (code_set_new_1 (.ref l) (E := E) (Q₁ := fun obj s1 => ∃ led : Bool, obj = .ref s.heap.objs.size ∧ s1 = { s with heap := s.heap.push { cls := .type "set", dict := none, data := .set #[] 0 (.fresh 0 0 led) } }) fun led => ⟨led, rfl, rfl⟩) fun r s1 hr => ?_
      cases r with
      | error e => exact hr
      | ok fl =>
        cases fl with
        | ret obj =>
          obtain ⟨led, rfl, rfl⟩ := hr
          have gS : (s.heap.push (setO led)).get? s.heap.objs.size = some (setO led) := Heap.get?_push_size _ rfl
          have tS : Shared.TypeIs { s with heap := s.heap.push (setO led) } (.ref s.heap.objs.size) "set" := ⟨_, gS, rfl⟩
          have mk6 := PySem.F.called_set.init.lookup
          have mk7 := PySem.F.called_set.init.bind (.ref s.heap.objs.size)
          repeat (any_goals (first | assumption | wp_step))
          refine codeAny_mono (codeAny_call_builtin (R := wants (fun v s2 => v = .none ∧ ∃ h' tk, s2 = { s with heap := h', toks := tk } ∧ h'.SetOf (PySem.strKind prog w) s.heap.objs.size (fun x => decide (x ∈ met (fun i => xs.getD i Str.empty) items.size)) (met (fun i => xs.getD i Str.empty) items.size).length ∧
              ∀ b o, b < s.heap.objs.size → s.heap.get? b = some o → h'.get? b = some o) E) PySem.F.called_set.init.plain PySem.F.entry_set_init (check_set_init_1 tS (by
            obtain ⟨⟨oc, od, oda, osl⟩, hol, hcl, nl, hdl⟩ := hl
            obtain rfl : oc = .type "list" := hcl
            obtain rfl : oda = .seq items nl := hdl
            have lS : l < s.heap.objs.size := Heap.lt_size hol
            have gl : (s.heap.push (setO led)).get? l = some ⟨.type "list", od, .seq items nl, osl⟩ := Heap.get?_push_of_some _ hol
            have n1 := PySem.F.sub_list_set
            have n2 := PySem.F.sub_list_frozenset
            have n3 : (Value.type "list" == Value.type "dict") = false := by decide
            have li : (s.heap.push (setO led)).IsList l items := ⟨_, gl, rfl, nl, rfl⟩
            unfold Builtin.«set.__init__» noKeywords Builtin.Frozenset.updateFrom
            generalize gp : pyIter = PI
            wp_walk
            subst gp
            refine wpAny_pyIter_list li (wpAny_bind (wpAny_runValue ?_))
            have sz : (s.heap.push (setO led)).objs.size = s.heap.objs.size + 1 := Heap.size_push ..
            have nI : l ≠ (s.heap.push (setO led)).objs.size := by rw [sz]; exact Nat.ne_of_lt (Nat.lt_succ_of_lt lS)
            have nS : s.heap.objs.size ∉ [(s.heap.push (setO led)).objs.size, l] := by
              rw [sz]
              intro z
              rcases List.mem_cons.mp z with z | z
              · exact Nat.ne_of_lt (Nat.lt_succ_self _) z
              · exact Nat.ne_of_gt lS (by simpa using z)
            refine set_loop (Walks.list (by simp [hh]) _ l nI items) nS (fun i => xs.getD i Str.empty) hx hb items.size 0 _ (by omega) ⟨⟨_, Heap.get?_push_size _ rfl, rfl, rfl⟩, li.push _⟩ ?_ ?_
            · exact set_same ((setObjOf_fresh (knd := PySem.strKind prog w) led).setOf (Heap.get?_push_of_some _ gS) (by unfold scanBound; omega)) (fun _ => rfl) rfl
            · intro h' tk hk hS
              show wpAny _ _ _ _ _ _
              refine wpAny_pure ?_
              show wpAny _ _ (ret Value.none) _ _ _
              refine wpAny_pure ⟨rfl, h', tk, rfl, hS, fun b o hb e => ?_⟩
              refine hk b o (Nat.ne_of_lt hb) (fun z => ?_) (Heap.get?_push_of_some _ (Heap.get?_push_of_some _ e))
              have z : b = (s.heap.push (setO led)).objs.size := by simpa using z
              rw [sz] at z
              exact absurd hb (by rw [z]; exact Nat.not_lt.mpr (Nat.le_succ _))))) fun r2 s2 h2 => ?_
          cases r2 with
          | error e => exact h2
          | ok fl2 =>
            cases fl2 with
            | ret v =>
              obtain ⟨rfl, h', tk, rfl, hS, hk⟩ := h2
              repeat (any_goals (first | assumption | wp_step))
              exact h _ _ hS hk
            | _ => exact h2.elim
        | _ => exact hr.elim)⟩))
end
section
variable {X : Cx} {M : Nat → Bool} {te : TE} {a : Mi.E}
def setX (X : Cx) (a : Addr) (n : Nat) : HO := .ext fun h => ∃ F, h.SetOf (PySem.strKind X.prog X.w) a F n
def rSetX (X : Cx) : List V → Hp → VK → Prop := fun xs H Q => ∃ p ys, xs = [.ref p] ∧ SqL X.K H p (ys.map V.str) ∧ ys.length + 1 < 4096 ∧ ∀ l, H l = none → Q (.ref l) (upd H l (setX X l (Mi.lenSet ys)))
theorem strs_at : ∀ {ys : List Str} {us : List Value} (i : Nat) (v : Value), Vals (ys.map V.str) us → us[i]? = some v → ∃ t, v = Value.str (ys.getD i Str.empty) t
  | [], _, i, v, .nil, h => by simp at h
  | y :: ys, _, 0, v, .cons r _, h => by
    simp at h
    subst h
    exact r
  | y :: ys, _, i + 1, v, .cons _ t, h => by
    have := strs_at (ys := ys) i v t (by simpa using h)
    simpa using this
theorem call_setX (hc : X.calm = true) : CallR X (.type "set") (rSetX X) := by
  intro pins s σ H xs us Q I r h
  obtain ⟨p, ys, rfl, hq, hz, q⟩ := h
  obtain ⟨u, rfl, ru⟩ := vals1 r
  cases ru
  obtain ⟨its, rv, pl, _⟩ := I.list hq
  have hl := rv.length
  have e : its.toArray.size = ys.length := by rw [List.size_toArray, ← hl, List.length_map]
  refine call_set_strs (xs := ys) (I.ok.hd hc) pl.isList (fun i v hv => strs_at i v rv (by simpa using hv)) (by rw [e]; exact hz) fun h' tk hS hk => ?_
  rw [e] at hS
  refine ⟨.ref s.heap.objs.size, upd H s.heap.objs.size (setX X s.heap.objs.size (Mi.lenSet ys)), I.laid (fun b o q => hk b o (Heap.lt_size q) q) (Nat.le_refl _) ⟨⟨_, hS⟩, ?_, fun h1 h2 ⟨F, z⟩ k => ⟨F, set_keep z k⟩⟩, rfl, q _ (I.hok.fresh (Nat.le_refl _))⟩
  obtain ⟨o, _, _, _, ho, _⟩ := hS
  exact ⟨o, ho⟩
def rLenX (X : Cx) : List V → Hp → VK → Prop := fun xs H Q => ∃ a n, xs = [.ref a] ∧ H a = some (setX X a n) ∧ Q (.int n) H
theorem call_lenX : CallR X (.builtin "len") (rLenX X) := by
  intro pins s σ H xs us Q I r h
  obtain ⟨a, n, rfl, hq, q⟩ := h
  obtain ⟨u, rfl, ru⟩ := vals1 r
  cases ru
  obtain ⟨⟨F, o, es, ep, t, ho, hex, hd, _, _, hb, hf, hn⟩, _⟩ := I.hok a _ hq
  refine call_len_set ho hex hd hf (by unfold scanBound at hb; omega) ⟨.int n, H, I.tok _, ⟨_, by rw [hn]⟩, q⟩
theorem a_lenset (ha : AE M qP te a) : AE M qV (tCB (rLenX X) (tCons (tCB (rSetX X) (tCons te tNil)) tNil)) (Mi.m1 Mi.dLenSet a) := fun e σ H Hv Q I h =>
  ha e σ H Hv _ I ((fin_bind.mp h).mono fun x hx v H1 Hv1 g1 rx => by
    cases x with
    | lst ds =>
      obtain ⟨ys, hs, hx⟩ := ofO_ok (fin_bind.mp hx)
      obtain ⟨hz, hx⟩ := Mi.fin_guard hx
      obtain ⟨p, xs, rfl, l, r⟩ := RD.lst g1.vw rx
      have := asSs_ok hs r
      subst this
      refine ⟨p, ys, rfl, l.sq, hz, fun b hb => ?_⟩
      have g2 : Grow H1 Hv1 (upd H1 b (setX X b (Mi.lenSet ys))) Hv1 := .newH g1.vw trivial hb
      exact ⟨b, _, rfl, upd_same, (Mi.fin_now hx) _ _ _ (g1.trans g2) qv_int⟩
    | _ => exact hx.elim)
end
end A

set_option linter.all false
set_option maxRecDepth 100000
namespace Mr
open PySem Mi
/-- 0 names, 1 asked, 2 name -/
def b_refuse_strangers : S :=
  (sFor (iOf (mV 1)) (.n 2)
  (sIf (cB (m2 dNotIn (mV 2) (mV 0)))
  sNever
  sNext))
def m_refuse_strangers : Fn := fnM 2 3 b_refuse_strangers
/-- 0 net, 1 name -/
def b_elders_of : S :=
  (sSeq (sDrop (mCall m_refuse_strangers [(wD (m2 dIx (mV 0) (mC (.int 0)))), (wD (mN dLst [(mV 1)]))]))
  (sRet (wD (mN bTuple [(mComp [some 1, none, none] (iOf (m2 dIx (mV 0) (mC (.int 1)))) (.t [1, 2]) (cB (m2 dEq (mV 2) (mV 0))) (mV 1))]))))
def m_elders_of : Fn := fnM 2 2 b_elders_of
/-- 0 net, 1 told, 2 name -/
def b_first_ready : S :=
  (sSeq (sFor (iOf (m2 dIx (mV 0) (mC (.int 0)))) (.n 2)
  (sIf (cAnd (cB (m2 dNotIn (mV 2) (mV 1))) (cB (mN bAll [(mComp [some 1, none] (iOf (mCall m_elders_of [(wD (mV 0)), (wD (mV 2))])) (.n 1) cYes (m2 dIn (mV 1) (mV 0)))])))
  (sRet (wD (mV 2)))
  sNext))
  (sRet (wD (mC .non))))
def m_first_ready : Fn := fnM 2 3 b_first_ready
/-- 0 net, 1 told*, 2 name -/
def b_in_turn : S :=
  (sSeq (sSet 1 (mN dLst []))
  (sSeq (sSet 2 (mCallI m_first_ready [(wD (mV 0)), (wD (mV 1))]))
  (sSeq (sWhile 100 (cB (m2 dIsNot (mV 2) (mC .non)))
  (sSeq (sAppend 1 (mV 2))
  (sSet 2 (mCallI m_first_ready [(wD (mV 0)), (wD (mV 1))]))))
  (sRet (wV 1)))))
def m_in_turn : Fn := fnN 1 3 b_in_turn
/-- 0 _law_script, 1 _law_cells*, 2 _law_many, 3 _law_way, 4 _law_left*, 5 _law_draws_here*, 6 _law_k, 7 _law_at, 8 _law_once -/
def b_l_draws : S :=
  (sSeq (sSet 1 (m2 dCat (mN bList [(mSlF dSl (mV 0) none (some (mC (.int 63))))]) (m2 dRep (mN dLst [(mC (.int 60023))]) (mN bInt [(m2 dEq (mN bLen [(mV 0)]) (mC (.int 0)))]))))
  (sSeq (sSet 2 (mN bLen [(mV 1)]))
  (sSeq (sSet 3 (m2 dMod (m2 dIx (mV 1) (mC (.int 0))) (mC (.int 2))))
  (sSeq (sSetAt 1 (mC (.int 0)) (m2 dDiv (m2 dIx (mV 1) (mC (.int 0))) (mC (.int 2))))
  (sSeq (sSet 4 (mN bList [(mV 1)]))
  (sSeq (sSet 5 (mN dLst []))
  (sSeq (sFor (iRange1 (mC (.int 63))) (.n 6)
  (sSeq (sSet 7 (m2 dMod (mV 6) (mV 2)))
  (sSeq (sSet 8 (m2 dMod (m2 dMulI (m2 dAdd (m2 dAdd (m2 dMod (m2 dIx (mV 1) (mV 7)) (mC (.int 2147483647))) (mC (.int 12011))) (m2 dMulI (mV 6) (mV 6))) (m2 dAdd (mC (.int 48271)) (m2 dMulI (mC (.int 614)) (mV 6)))) (mC (.int 2147483647))))
  (sIf (cAnd (cB (m2 dEq (mV 3) (mC (.int 0)))) (cB (m2 dGt (m2 dIx (mV 4) (mV 7)) (mC (.int 0)))))
  (sSeq (sAppend 5 (m2 dMod (m2 dIx (mV 4) (mV 7)) (mC (.int 2147483647))))
  (sSetAt 4 (mV 7) (m2 dDiv (m2 dIx (mV 4) (mV 7)) (mC (.int 2147483647)))))
  (sAppend 5 (m2 dMod (m2 dMulI (m2 dAdd (m2 dAdd (mV 8) (m2 dMulI (mC (.int 709)) (mV 6))) (mC (.int 5))) (m2 dAdd (mC (.int 69621)) (m2 dMulI (m2 dMulI (mC (.int 18)) (mV 6)) (mV 6)))) (mC (.int 2147483629))))))))
  (sRet (wV 5)))))))))
def m_l_draws : Fn := fnN 1 9 b_l_draws
/-- 0 _law_cell, 1 _law_many, 2 _law_letters, 3 _law_long, 4 _law_size, 5 _law_stem, 6 _law_at -/
def b_l_words : S :=
  (sSeq (sSet 2 (mC (.str "etaoinshrdlucmfwypvbgkqjxz")))
  (sSeq (sIf (cB (m2 dLt (m2 dMod (mV 0) (mC (.int 4))) (mC (.int 2))))
  (sSeq (sSet 3 (m2 dJoin (mC (.str "")) (mComp [some 2, some 0, none] (iRange1 (mC (.int 8))) (.n 2) cYes (m2 dIx (mV 0) (m2 dMod (m2 dDiv (mV 1) (m2 dAdd (mC (.int 4)) (m2 dMulI (mC (.int 3)) (mV 2)))) (mC (.int 26)))))))
  (sSeq (sIf (cB (m2 dEq (m2 dMod (mV 0) (mC (.int 4))) (mC (.int 0))))
  (sRet (wD (mComp [some 3, none] (iRange1 (mV 1)) (.n 1) cYes (mSlF dSl (mV 0) none (some (m2 dAdd (mV 1) (mC (.int 1))))))))
  sNext)
  (sRet (wD (mComp [some 3, none] (iRange1 (mV 1)) (.n 1) cYes (mSlF dSl (mV 0) (some (m2 dSub (mC (.int 7)) (mV 1))) none))))))
  sNext)
  (sSeq (sSet 4 (m2 dMod (m2 dDiv (mV 0) (mC (.int 4))) (mC (.int 8))))
  (sSeq (sSet 5 (m2 dJoin (mC (.str "")) (mComp [some 2, some 0, none] (iRange1 (mV 4)) (.n 2) cYes (m2 dIx (mV 0) (m2 dMod (m2 dAdd (m2 dAdd (m2 dDiv (mV 1) (mC (.int 32))) (m2 dMulI (mC (.int 5)) (mV 2))) (m2 dMulI (mV 2) (mV 2))) (mC (.int 26)))))))
  (sSeq (sSet 6 (m2 dMod (m2 dDiv (mV 0) (mC (.int 256))) (m2 dAdd (mV 4) (mC (.int 1)))))
  (sRet (wD (mComp [some 5, some 2, some 6, some 0, none] (iRange1 (mV 1)) (.n 4) cYes (m2 dAdd (m2 dAdd (mSlF dSl (mV 0) none (some (mV 2))) (m2 dIx (mV 1) (m2 dMod (m2 dAdd (m2 dDiv (mV 3) (mC (.int 7))) (m2 dMulI (mC (.int 5)) (mV 4))) (mC (.int 26))))) (mSlF dSl (mV 0) (some (mV 2)) none))))))))))
def m_l_words : Fn := fnN 2 7 b_l_words
/-- 0 _law_draws_here, 1 _law_many, 2 _law_letters, 3 _law_names_here*, 4 _law_k, 5 _law_rest, 6 _law_name, 7 _law_turn -/
def b_l_names : S :=
  (sSeq (sSet 2 (mC (.str "abcdefghijklmnopqrstuvwxyz")))
  (sSeq (sSet 3 (mN dLst []))
  (sSeq (sFor (iRange1 (mV 1)) (.n 4)
  (sSeq (sSet 5 (m2 dDiv (m2 dIx (mV 0) (m2 dAdd (mC (.int 48)) (mV 4))) (mC (.int 6))))
  (sSeq (sSet 6 (mC (.str "")))
  (sSeq (sFor (iRange1 (m2 dAdd (mC (.int 1)) (m2 dMod (m2 dIx (mV 0) (m2 dAdd (mC (.int 48)) (mV 4))) (mC (.int 6))))) (.n 7)
  (sSeq (sSet 6 (m2 dAdd (mV 6) (m2 dIx (mV 2) (m2 dMod (mV 5) (mC (.int 26))))))
  (sSet 5 (m2 dDiv (mV 5) (mC (.int 26))))))
  (sAppend 3 (mV 6))))))
  (sSeq (sIf (cOr (cB (m2 dEq (m2 dMod (m2 dIx (mV 0) (mC (.int 1))) (mC (.int 2))) (mC (.int 0)))) (cB (m2 dLt (m1 dLenSet (mV 3)) (mV 1))))
  (sRet (wD (mCall m_l_words [(wD (m2 dDiv (m2 dIx (mV 0) (mC (.int 1))) (mC (.int 2)))), (wD (mV 1))])))
  sNext)
  (sRet (wV 3))))))
def m_l_names : Fn := fnN 2 8 b_l_names
/-- 0 _law_draw, 1 _law_many, 2 _law_left*, 3 _law_ranks_here*, 4 _law_k -/
def b_l_ranks : S :=
  (sSeq (sSet 2 (mComp [none] (iRange1 (mV 1)) (.n 0) cYes (mV 0)))
  (sSeq (sSet 3 (mN dLst []))
  (sSeq (sFor (iRange1 (mV 1)) (.n 4)
  (sSeq (sAppendPop 3 2 (m2 dMod (mV 0) (mN bLen [(mV 2)])))
  (sSet 0 (m2 dDiv (mV 0) (m2 dSub (mV 1) (mV 4))))))
  (sRet (wV 3)))))
def m_l_ranks : Fn := fnN 2 5 b_l_ranks
/-- 0 _law_draws_here, 1 _law_least, 2 _law_most, 3 _law_many, 4 _law_names_here, 5 _law_ranks_here, 6 _law_thick, 7 _law_arrows*, 8 _law_j, 9 _law_k, 10 _law_cell -/
def b_l_net : S :=
  (sSeq (sSet 3 (m2 dAdd (mV 1) (m2 dMod (m2 dIx (mV 0) (mC (.int 0))) (m2 dAdd (m2 dSub (mV 2) (mV 1)) (mC (.int 1))))))
  (sSeq (sSet 4 (mCall m_l_names [(wD (mV 0)), (wD (mV 3))]))
  (sSeq (sSet 5 (mCall m_l_ranks [(wD (m2 dIx (mV 0) (mC (.int 2)))), (wD (mV 3))]))
  (sSeq (sSet 6 (m2 dIx (mN dLst [(mC (.int 4)), (mC (.int 1)), (mC (.int 2)), (mC (.int 3)), (mC (.int 2)), (mC (.int 3))]) (m2 dMod (m2 dIx (mV 0) (mC (.int 3))) (mC (.int 6)))))
  (sSeq (sSet 7 (mN dLst []))
  (sSeq (sFor (iRange1 (mV 3)) (.n 8)
  (sFor (iRange1 (mV 3)) (.n 9)
  (sSeq (sSet 10 (m2 dIx (mV 0) (m2 dAdd (m2 dAdd (mC (.int 4)) (m2 dDiv (m2 dMulI (mN bMax [(mV 8), (mV 9)]) (m2 dSub (mN bMax [(mV 8), (mV 9)]) (mC (.int 1)))) (mC (.int 2)))) (mN bMin [(mV 8), (mV 9)]))))
  (sIf (cAnd (cB (m2 dLt (m2 dIx (mV 5) (mV 8)) (m2 dIx (mV 5) (mV 9)))) (cB (m2 dLt (m2 dMod (mV 10) (mC (.int 4))) (mV 6))))
  (sAppend 7 (mN dTup [(m2 dIx (mV 4) (mV 8)), (m2 dIx (mV 4) (mV 9))]))
  sNext))))
  (sRet (wD (mN dTup [(mN bTuple [(mV 4)]), (mN bTuple [(mV 7)])])))))))))
def m_l_net : Fn := fnM 3 11 b_l_net
/-- 0 _law_net_here, 1 _law_told, 2 _law_found*, 3 _law_name, 4 _law_waiting -/
def b_l_ready : S :=
  (sSeq (sSet 2 (mN dLst []))
  (sSeq (sFor (iOf (m2 dIx (mV 0) (mC (.int 0)))) (.n 3)
  (sSeq (sSet 4 (mComp [some 3, some 1, none, none] (iOf (m2 dIx (mV 0) (mC (.int 1)))) (.t [2, 3]) (cAnd (cB (m2 dEq (mV 3) (mV 0))) (cB (m2 dNotIn (mV 2) (mV 1)))) (mV 2)))
  (sIf (cAnd (cB (m2 dNotIn (mV 3) (mV 1))) (cB (m2 dEq (mN bLen [(mV 4)]) (mC (.int 0)))))
  (sAppend 2 (mV 3))
  sNext)))
  (sRet (wV 2))))
def m_l_ready : Fn := fnN 2 5 b_l_ready
/-- 0 _law_net_here, 1 _law_told, 2 _law_k, 3 _law_name -/
def b_l_right : S :=
  (sSeq (sIf (cOr (cNot (cB (m1 (bIs ["list"]) (mV 1)))) (cB (m2 dNe (mN bLen [(mV 1)]) (mN bLen [(m2 dIx (mV 0) (mC (.int 0)))]))))
  (sRet (wD (mC (.bl false))))
  sNext)
  (sSeq (sFor (iEnum (mV 1)) (.t [2, 3])
  (sIf (cOr (cNot (cB (m1 (bIs ["str"]) (mV 3)))) (cB (m2 dNe (mSlF dSl (mCall m_l_ready [(wD (mV 0)), (wD (mSlF dSl (mV 1) none (some (mV 2))))]) none (some (mC (.int 1)))) (mN dLst [(mV 3)]))))
  (sRet (wD (mC (.bl false))))
  sNext))
  (sRet (wD (mC (.bl true))))))
def m_l_right : Fn := fnM 2 4 b_l_right
/-- 0 _law_script, 1 _law_net_here, 2 _law_told*, 3 _law_other -/
def b_law_k07 : S :=
  (sSeq (sSet 1 (mCall m_l_net [(wD (mCall m_l_draws [(wD (mV 0))])), (wD (mC (.int 1))), (wD (mC (.int 8)))]))
  (sSeq (sSet 2 (mCall m_in_turn [(wD (mV 1))]))
  (sSeq (sIf (cNot (cB (mCallI m_l_right [(wD (mV 1)), (wD (mV 2))])))
  (sRet (wD (mC (.bl false))))
  sNext)
  (sSeq (sSet 3 (mN dTup [(m2 dIx (mV 1) (mC (.int 0))), (mN bTuple [(mComp [some 2, none, none] (iOf (m2 dIx (mV 1) (mC (.int 1)))) (.t [1, 2]) (cB (m2 dNe (mV 2) (m2 dIx (mV 0) (m1 dNeg (mC (.int 1)))))) (mN dTup [(mV 1), (mV 2)]))])]))
  (sSeq (sIf (cNot (cB (mCall m_l_right [(wD (mV 3)), (wD (mCall m_in_turn [(wD (mV 3))]))])))
  (sRet (wD (mC (.bl false))))
  sNext)
  (sSeq (sClear 2)
  (sRet (wD (mCall m_l_right [(wD (mV 1)), (wD (mCall m_in_turn [(wD (mV 1))]))])))))))))
def m_law_k07 : Fn := fnM 1 4 b_law_k07
end Mr

set_option Elab.async false
set_option linter.all false
set_option maxRecDepth 100000
set_option maxHeartbeats 4000000
namespace Mk07
open PySem L2 PyProof.Rows A
open Mr
def top (i : Nat) : Stmt := PySem.Challenge.pw_arrowfind_k07_whole_in_turn.main.body.getD i (.Pass ⟨0, 0, 0, 0⟩)
structure Txt (mg : Str → Option Value) : Prop where
  b_len : mg "len" = none
  b_range : mg "range" = none
  b_max : mg "max" = none
  b_min : mg "min" = none
  b_tuple : mg "tuple" = none
  b_list : mg "list" = none
  b_isinstance : mg "isinstance" = none
  b_all : mg "all" = none
  b_any : mg "any" = none
  b_bool : mg "bool" = none
  b_str : mg "str" = none
  b_int : mg "int" = none
  b_zip : mg "zip" = none
  b_enumerate : mg "enumerate" = none
  b_sorted : mg "sorted" = none
  b_reversed : mg "reversed" = none
  b_set : mg "set" = none
section
variable {P : Program} {w : World} {K : PySem.W.Frag} {mg : Str → Option Value} {base : Heap}
abbrev s_refuse_strangers : Stmt := top 6
theorem sc_refuse_strangers : FnScope ["names", "asked", "name"] ["names", "asked"] (defScope s_refuse_strangers) := ⟨rfl, rfl, rfl, by decide +kernel, rfl, by decide +kernel, by decide +kernel⟩
theorem ok_refuse_strangers {f : Addr} {fd : FuncData} (F : Fun K "refuse_strangers" "refuse_strangers" s_refuse_strangers f fd) (T : Txt mg)  : FnOk P w K mg base CX0 1 f fd ["names", "asked"] (spD m_refuse_strangers) :=
  F.ok sc_refuse_strangers (fun vs H Q E h => lenD h) (fun cdv A outer s H vs Q E hr h => by
    have nd := sc_refuse_strangers.nd
    have hu := hu_of hr
    have hu64 := hr.units
    exact ⟨_, (pss_one (ps_for PassesOwn.never rfl (pi_seq (pv 1)) (pg_name (i := 2) nd rfl (Or.inl rfl))
  (pss_one (ps_if (pt_cmpR (op_notInD hu64) (pv 2) (pv 0) rfl)
  (pss_one ps_never)
  pss_nil)))),
    _root_.A.runD (N := ["names", "asked", "name"]) (M := Mo []) (as_for (K := K) (tg := (.n 2)) (ai_seq (a_var 1 rfl)) (by decide)
  (as_if (at_test (AE.p (a_bin b_notin (AE.p (a_var 2 rfl)) (AE.p (a_var 0 rfl)))))
  as_never
  as_next)) (by decide) h⟩)

abbrev s_elders_of : Stmt := top 4
theorem sc_elders_of : FnScope ["net", "name"] ["net", "name"] (defScope s_elders_of) := ⟨rfl, rfl, rfl, by decide +kernel, rfl, by decide +kernel, by decide +kernel⟩
theorem ok_elders_of {f : Addr} {fd : FuncData} (F : Fun K "elders_of" "elders_of" s_elders_of f fd) (T : Txt mg) (C_refuse_strangers : Cal P w K mg base CX0 1 "refuse_strangers" ["names", "asked"] (spD m_refuse_strangers)) : FnOk P w K mg base CX0 2 f fd ["net", "name"] (spD m_elders_of) :=
  F.ok sc_elders_of (fun vs H Q E h => lenD h) (fun cdv A outer s H vs Q E hr h => by
    have nd := sc_elders_of.nd
    have hu := hu_of hr
    have hu64 := hr.units
    have hr_refuse_strangers := hr.mono (show 1 ≤ _ by decide)
    exact ⟨_, (pss_cons (ps_expr (pe_cal C_refuse_strangers hr_refuse_strangers rfl pass0 (pa_cons (pe_ix ix_seq (pv 0) pe_int (fun _ _ => rfl)) (pa_cons (pe_lst (pa_cons (pv 1) pa_nil)) pa_nil))))
  (pss_one (ps_ret (pe_callTy call_tupleU rfl T.b_tuple boot_tuple (pa_cons (pe_comp (N' := ["name", "tail", "head"]) (ρ := [some 1, none, none]) rfl (CompSc.of rfl (by kernel_rfl)) (pi_seq (pe_ix ix_seq (pv 0) pe_int (fun _ _ => rfl))) (fun _ _ _ _ _ => (pg_tup rfl (pgs_cons (pg_name (i := 1) (by show (["name", "tail", "head"] : List Str).Nodup; decide +kernel) rfl (Or.inl rfl)) (pgs_cons (pg_name (i := 2) (by show (["name", "tail", "head"] : List Str).Nodup; decide +kernel) rfl (Or.inl rfl)) pgs_nil)))) (gk_tup (gk_cons1 rfl (gk_cons1 rfl gk_nil gm_nil) (gm_cons gm_nil))) (fun _ _ _ _ _ => (pts_one (pt_cmpR (op_eqD hu64) (pv 2) (pv 0) (nomark _)))) (fun _ _ _ _ _ => (pv 1))) pa_nil))))),
    _root_.A.runD (N := ["net", "name"]) (M := Mo []) (as_seq (as_drop (AE.p (a_call (aw_cons (AE.w (a_bin b_ix (AE.p (a_var 0 rfl)) (AE.p a_int))) (aw_cons (AW.nv (AE.w (a_lst (aa_cons (a_var 1 rfl) aa_nil)))) aw_nil)))))
  (as_ret (AE.w (a_cb b_tuple (aa_cons (AE.np (a_comp (K := K) (tg := (.t [1, 2])) (ai_seqC (AE.p (a_bin b_ix (AE.p (a_var 0 rfl)) (AE.p a_int)))) (by decide) (at_test (AE.p (a_bin b_eq (AE.p (a_var 2 rfl)) (AE.p (a_var 0 rfl))))) (a_var 1 rfl))) aa_nil))))) (by decide) h⟩)

abbrev s_first_ready : Stmt := top 7
theorem sc_first_ready : FnScope ["net", "told", "name"] ["net", "told"] (defScope s_first_ready) := ⟨rfl, rfl, rfl, by decide +kernel, rfl, by decide +kernel, by decide +kernel⟩
theorem ok_first_ready {f : Addr} {fd : FuncData} (F : Fun K "first_ready" "first_ready" s_first_ready f fd) (T : Txt mg) (C_elders_of : Cal P w K mg base CX0 2 "elders_of" ["net", "name"] (spD m_elders_of)) : FnOk P w K mg base CX0 3 f fd ["net", "told"] (spD m_first_ready) :=
  F.ok sc_first_ready (fun vs H Q E h => lenD h) (fun cdv A outer s H vs Q E hr h => by
    have nd := sc_first_ready.nd
    have hu := hu_of hr
    have hu64 := hr.units
    have hr_elders_of := hr.mono (show 2 ≤ _ by decide)
    exact ⟨_, (pss_cons (ps_for PassesOwn.never rfl (pi_seq (pe_ix ix_seq (pv 0) pe_int (fun _ _ => rfl))) (pg_name (i := 2) nd rfl (Or.inl rfl))
  (pss_one (ps_if (PW.pt (pw_and (pt_cmpR (op_notInD hu64) (pv 2) (pv 1) rfl) (pw_and1 (pt_val (pe_callB (call_all rfl) rfl T.b_all boot_all (pa_cons (pe_comp (N' := ["told", "elder"]) (ρ := [some 1, none]) rfl (CompSc.of rfl (by kernel_rfl)) (pi_seq (pe_cal C_elders_of hr_elders_of rfl pass0 (pa_cons (pv 0) (pa_cons (pv 2) pa_nil)))) (fun _ _ _ _ _ => (pg_name (i := 1) (by show (["told", "elder"] : List Str).Nodup; decide +kernel) rfl (Or.inl rfl))) (gk_name rfl) (fun _ _ _ _ _ => pts_nil) (fun _ _ _ _ _ => (pe_cmpR (op_inU hu64) (pv 1) (pv 0) rfl))) pa_nil))))))
  (pss_one (ps_ret (pv 2)))
  pss_nil)))
  (pss_one (ps_ret pe_non))),
    _root_.A.runD (N := ["net", "told", "name"]) (M := Mo []) (as_seq (as_for (K := K) (tg := (.n 2)) (ai_seq (a_bin b_ix (AE.p (a_var 0 rfl)) (AE.p a_int))) (by decide)
  (as_if (at_and (at_test (AE.p (a_bin b_notin (AE.p (a_var 2 rfl)) (AE.p (a_var 1 rfl))))) (at_b (AE.p (a_cb b_all (aa_cons (AE.np (a_comp (K := K) (tg := (.n 1)) (ai_seqC (AE.p (a_call (aw_cons (AE.w (a_var 0 rfl)) (aw_cons (AE.w (a_var 2 rfl)) aw_nil))))) (by decide) at_yes (a_bin b_in (AE.p (a_var 1 rfl)) (AE.p (a_var 0 rfl))))) aa_nil)))))
  (as_ret (AE.w (a_var 2 rfl)))
  as_next))
  (as_ret (AE.w a_non))) (by decide) h⟩)

abbrev s_in_turn : Stmt := top 5
theorem sc_in_turn : FnScope ["net", "told", "name"] ["net"] (defScope s_in_turn) := ⟨rfl, rfl, rfl, by decide +kernel, rfl, by decide +kernel, by decide +kernel⟩
theorem ok_in_turn {f : Addr} {fd : FuncData} (F : Fun K "in_turn" "in_turn" s_in_turn f fd) (T : Txt mg) (C_first_ready : Cal P w K mg base CX0 3 "first_ready" ["net", "told"] (spD m_first_ready)) : FnOk P w K mg base CX0 4 f fd ["net"] (spN m_in_turn) :=
  F.ok sc_in_turn (fun vs H Q E h => lenN h) (fun cdv A outer s H vs Q E hr h => by
    have nd := sc_in_turn.nd
    have hu := hu_of hr
    have hu64 := hr.units
    have hr_first_ready := hr.mono (show 3 ≤ _ by decide)
    exact ⟨_, (pss_cons (ps_set (i := 1) nd rfl (Or.inl rfl) (pe_lst pa_nil))
  (pss_cons (ps_set (i := 2) nd rfl (Or.inl rfl) (pe_cal C_first_ready hr_first_ready rfl pass0 (pa_cons (pv 0) (pa_cons (pv 1) pa_nil))))
  (pss_cons (ps_while PassesOwn.never (pt_cmpR op_notNU (pv 2) pe_non (nomark _))
  (pss_cons (ps_expr (pe_bm PySem.F.plainAttrs_list PySem.F.slot_list_append PySem.F.type_list_append mt_append (pv 1) (pa_cons (pv 2) pa_nil)))
  (pss_one (ps_set (i := 2) nd rfl (Or.inl rfl) (pe_cal C_first_ready hr_first_ready rfl pass0 (pa_cons (pv 0) (pa_cons (pv 1) pa_nil)))))))
  (pss_one (ps_ret (pv 1)))))),
    _root_.A.runN (N := ["net", "told", "name"]) (M := Mo [1]) (as_seq (as_new 1 rfl (a_lst aa_nil))
  (as_seq (as_set 2 rfl (a_callI (aw_cons (AW.p (AE.w (a_var 0 rfl))) (aw_cons (AE.w (a_varP 1)) aw_nil))))
  (as_seq (as_while 100 (at_test (AE.p (a_bin b_isnot (AE.p (a_var 2 rfl)) (AE.p a_non))))
  (as_seq (as_append 1 rfl (a_var 2 rfl))
  (as_set 2 rfl (a_callI (aw_cons (AW.p (AE.w (a_var 0 rfl))) (aw_cons (AE.w (a_varP 1)) aw_nil))))))
  (as_retOwn 1 rfl)))) (by decide) h⟩)

abbrev s_l_draws : Stmt := top 9
theorem sc_l_draws : FnScope ["_law_script", "_law_cells", "_law_many", "_law_way", "_law_left", "_law_draws_here", "_law_k", "_law_at", "_law_once"] ["_law_script"] (defScope s_l_draws) := ⟨rfl, rfl, rfl, by decide +kernel, rfl, by decide +kernel, by decide +kernel⟩
theorem ok_l_draws {f : Addr} {fd : FuncData} (F : Fun K "_law_draws" "_law_draws" s_l_draws f fd) (T : Txt mg)  : FnOk P w K mg base CX0 1 f fd ["_law_script"] (spN m_l_draws) :=
  F.ok sc_l_draws (fun vs H Q E h => lenN h) (fun cdv A outer s H vs Q E hr h => by
    have nd := sc_l_draws.nd
    have hu := hu_of hr
    have hu64 := hr.units
    exact ⟨_, (pss_cons (ps_set (i := 1) nd rfl (Or.inl rfl) (pe_op op_catS (pe_callTy call_listU rfl T.b_list boot_list (pa_cons (pe_slice sl_U (pv 0) po_none (po_some pe_int)) pa_nil)) (pe_op op_repS (pe_lst (pa_cons pe_int pa_nil)) (pe_callTy call_intU rfl T.b_int boot_int (pa_cons (pe_cmpR (op_eqD hu64) (pe_callB call_lenU rfl T.b_len PySem.boot_len (pa_cons (pv 0) pa_nil)) pe_int (nomark _)) pa_nil)))))
  (pss_cons (ps_set (i := 2) nd rfl (Or.inl rfl) (pe_callB call_lenU rfl T.b_len PySem.boot_len (pa_cons (pv 1) pa_nil)))
  (pss_cons (ps_set (i := 3) nd rfl (Or.inl rfl) (pe_op op_mod (pe_ix ix_seq (pv 1) pe_int (fun _ _ => rfl)) pe_int))
  (pss_cons (ps_asg (pe_op op_fdivB (pe_ix ix_seq (pv 1) pe_int (fun _ _ => rfl)) pe_int) (pg_sub (pv 1) pe_int set_list))
  (pss_cons (ps_set (i := 4) nd rfl (Or.inl rfl) (pe_callTy call_listU rfl T.b_list boot_list (pa_cons (pv 1) pa_nil)))
  (pss_cons (ps_set (i := 5) nd rfl (Or.inl rfl) (pe_lst pa_nil))
  (pss_cons (ps_for PassesOwn.never rfl (pi_range1 rfl T.b_range (pa_cons pe_int pa_nil)) (pg_name (i := 6) nd rfl (Or.inl rfl))
  (pss_cons (ps_set (i := 7) nd rfl (Or.inl rfl) (pe_op op_mod (pv 6) (pv 2)))
  (pss_cons (ps_set (i := 8) nd rfl (Or.inl rfl) (pe_op op_mod (pe_op op_mul (pe_op op_addU (pe_op op_addU (pe_op op_mod (pe_ix ix_seq (pv 1) (pv 7) (fun _ _ => rfl)) pe_int) pe_int) (pe_op op_mul (pv 6) (pv 6))) (pe_op op_addU pe_int (pe_op op_mul pe_int (pv 6)))) pe_int))
  (pss_one (ps_if (PW.pt (pw_and (pt_cmpR (op_eqD hu64) (pv 3) pe_int (nomark _)) (pw_and1 (pt_cmpR op_gtU (pe_ix ix_seq (pv 4) (pv 7) (fun _ _ => rfl)) pe_int (nomark _)))))
  (pss_cons (ps_expr (pe_bm PySem.F.plainAttrs_list PySem.F.slot_list_append PySem.F.type_list_append mt_append (pv 5) (pa_cons (pe_op op_mod (pe_ix ix_seq (pv 4) (pv 7) (fun _ _ => rfl)) pe_int) pa_nil)))
  (pss_one (ps_asg (pe_op op_fdivB (pe_ix ix_seq (pv 4) (pv 7) (fun _ _ => rfl)) pe_int) (pg_sub (pv 4) (pv 7) set_list))))
  (pss_one (ps_expr (pe_bm PySem.F.plainAttrs_list PySem.F.slot_list_append PySem.F.type_list_append mt_append (pv 5) (pa_cons (pe_op op_mod (pe_op op_mul (pe_op op_addU (pe_op op_addU (pv 8) (pe_op op_mul pe_int (pv 6))) pe_int) (pe_op op_addU pe_int (pe_op op_mul (pe_op op_mul pe_int (pv 6)) (pv 6)))) pe_int) pa_nil)))))))))
  (pss_one (ps_ret (pv 5)))))))))),
    _root_.A.runN (N := ["_law_script", "_law_cells", "_law_many", "_law_way", "_law_left", "_law_draws_here", "_law_k", "_law_at", "_law_once"]) (M := Mo [1, 4, 5]) (as_seq (as_new 1 rfl (a_bin b_cat (AE.np (a_cb b_list (aa_cons (AE.p (a_sl b_slV (AE.p (a_var 0 rfl)) ao_none (ao_some (AE.p a_int)))) aa_nil))) (AE.np (a_rep (aa_cons a_int aa_nil) (AE.p (a_cb b_int (aa_cons (AE.p (a_bin b_eq (AE.p (a_cb b_len (aa_cons (AE.p (a_var 0 rfl)) aa_nil))) (AE.p a_int))) aa_nil)))))))
  (as_seq (as_set 2 rfl (a_cb b_len (aa_cons (a_varP 1) aa_nil)))
  (as_seq (as_set 3 rfl (a_bin b_mod (AE.p (a_bin b_ix (a_varP 1) (AE.p a_int))) (AE.p a_int)))
  (as_seq (as_setAt 1 rfl (a_bin b_div (AE.p (a_bin b_ix (a_varP 1) (AE.p a_int))) (AE.p a_int)) (AE.p a_int))
  (as_seq (as_new 4 rfl (a_cb b_list (aa_cons (a_varP 1) aa_nil)))
  (as_seq (as_new 5 rfl (a_lst aa_nil))
  (as_seq (as_for (K := K) (tg := (.n 6)) (ai_range1 (AE.p a_int)) (by decide)
  (as_seq (as_set 7 rfl (a_bin b_mod (AE.p (a_var 6 rfl)) (AE.p (a_var 2 rfl))))
  (as_seq (as_set 8 rfl (a_bin b_mod (AE.p (a_bin b_mul (AE.p (a_bin b_add (AE.p (a_bin b_add (AE.p (a_bin b_mod (AE.p (a_bin b_ix (a_varP 1) (AE.p (a_var 7 rfl)))) (AE.p a_int))) (AE.p a_int))) (AE.p (a_bin b_mul (AE.p (a_var 6 rfl)) (AE.p (a_var 6 rfl)))))) (AE.p (a_bin b_add (AE.p a_int) (AE.p (a_bin b_mul (AE.p a_int) (AE.p (a_var 6 rfl)))))))) (AE.p a_int)))
  (as_if (at_and (at_test (AE.p (a_bin b_eq (AE.p (a_var 3 rfl)) (AE.p a_int)))) (at_test (AE.p (a_bin b_gt (AE.p (a_bin b_ix (a_varP 4) (AE.p (a_var 7 rfl)))) (AE.p a_int)))))
  (as_seq (as_append 5 rfl (a_bin b_mod (AE.p (a_bin b_ix (a_varP 4) (AE.p (a_var 7 rfl)))) (AE.p a_int)))
  (as_setAt 4 rfl (a_bin b_div (AE.p (a_bin b_ix (a_varP 4) (AE.p (a_var 7 rfl)))) (AE.p a_int)) (AE.p (a_var 7 rfl))))
  (as_append 5 rfl (a_bin b_mod (AE.p (a_bin b_mul (AE.p (a_bin b_add (AE.p (a_bin b_add (AE.p (a_var 8 rfl)) (AE.p (a_bin b_mul (AE.p a_int) (AE.p (a_var 6 rfl)))))) (AE.p a_int))) (AE.p (a_bin b_add (AE.p a_int) (AE.p (a_bin b_mul (AE.p (a_bin b_mul (AE.p a_int) (AE.p (a_var 6 rfl)))) (AE.p (a_var 6 rfl)))))))) (AE.p a_int)))))))
  (as_retOwn 5 rfl)))))))) (by decide) h⟩)

abbrev s_l_words : Stmt := top 10
theorem sc_l_words : FnScope ["_law_cell", "_law_many", "_law_letters", "_law_long", "_law_size", "_law_stem", "_law_at"] ["_law_cell", "_law_many"] (defScope s_l_words) := ⟨rfl, rfl, rfl, by decide +kernel, rfl, by decide +kernel, by decide +kernel⟩
theorem ok_l_words {f : Addr} {fd : FuncData} (F : Fun K "_law_words" "_law_words" s_l_words f fd) (T : Txt mg)  : FnOk P w K mg base CX0 1 f fd ["_law_cell", "_law_many"] (spN m_l_words) :=
  F.ok sc_l_words (fun vs H Q E h => lenN h) (fun cdv A outer s H vs Q E hr h => by
    have nd := sc_l_words.nd
    have hu := hu_of hr
    have hu64 := hr.units
    exact ⟨_, (pss_cons (ps_set (i := 2) nd rfl (Or.inr rfl) pe_str)
  (pss_cons (ps_if (pt_cmpR op_ltU (pe_op op_mod (pv 0) pe_int) pe_int (nomark _))
  (pss_cons (ps_set (i := 3) nd rfl (Or.inr rfl) (pe_bm PySem.F.plainAttrs_str PySem.F.slot_str_join PySem.F.type_str_join mt_join pe_str (pa_cons (pe_comp (N' := ["_law_letters", "_law_cell", "_law_k"]) (ρ := [some 2, some 0, none]) rfl (CompSc.of rfl (by kernel_rfl)) (pi_range1 rfl T.b_range (pa_cons pe_int pa_nil)) (fun _ _ _ _ _ => (pg_name (i := 2) (by show (["_law_letters", "_law_cell", "_law_k"] : List Str).Nodup; decide +kernel) rfl (Or.inl rfl))) (gk_name rfl) (fun _ _ _ _ _ => pts_nil) (fun _ _ _ _ _ => (pe_ix ix_seq (pv 0) (pe_op op_mod (pe_op op_fdivB (pv 1) (pe_op op_addU pe_int (pe_op op_mul pe_int (pv 2)))) pe_int) (fun _ _ => rfl)))) pa_nil)))
  (pss_cons (ps_if (pt_cmpR (op_eqD hu64) (pe_op op_mod (pv 0) pe_int) pe_int (nomark _))
  (pss_one (ps_ret (pe_comp (N' := ["_law_long", "_law_k"]) (ρ := [some 3, none]) rfl (CompSc.of rfl (by kernel_rfl)) (pi_range1 rfl T.b_range (pa_cons (pv 1) pa_nil)) (fun _ _ _ _ _ => (pg_name (i := 1) (by show (["_law_long", "_law_k"] : List Str).Nodup; decide +kernel) rfl (Or.inl rfl))) (gk_name rfl) (fun _ _ _ _ _ => pts_nil) (fun _ _ _ _ _ => (pe_slice sl_U (pv 0) po_none (po_some (pe_op op_addU (pv 1) pe_int)))))))
  pss_nil)
  (pss_one (ps_ret (pe_comp (N' := ["_law_long", "_law_k"]) (ρ := [some 3, none]) rfl (CompSc.of rfl (by kernel_rfl)) (pi_range1 rfl T.b_range (pa_cons (pv 1) pa_nil)) (fun _ _ _ _ _ => (pg_name (i := 1) (by show (["_law_long", "_law_k"] : List Str).Nodup; decide +kernel) rfl (Or.inl rfl))) (gk_name rfl) (fun _ _ _ _ _ => pts_nil) (fun _ _ _ _ _ => (pe_slice sl_U (pv 0) (po_some (pe_op op_sub pe_int (pv 1))) po_none)))))))
  pss_nil)
  (pss_cons (ps_set (i := 4) nd rfl (Or.inl rfl) (pe_op op_mod (pe_op op_fdivB (pv 0) pe_int) pe_int))
  (pss_cons (ps_set (i := 5) nd rfl (Or.inr rfl) (pe_bm PySem.F.plainAttrs_str PySem.F.slot_str_join PySem.F.type_str_join mt_join pe_str (pa_cons (pe_comp (N' := ["_law_letters", "_law_cell", "_law_k"]) (ρ := [some 2, some 0, none]) rfl (CompSc.of rfl (by kernel_rfl)) (pi_range1 rfl T.b_range (pa_cons (pv 4) pa_nil)) (fun _ _ _ _ _ => (pg_name (i := 2) (by show (["_law_letters", "_law_cell", "_law_k"] : List Str).Nodup; decide +kernel) rfl (Or.inl rfl))) (gk_name rfl) (fun _ _ _ _ _ => pts_nil) (fun _ _ _ _ _ => (pe_ix ix_seq (pv 0) (pe_op op_mod (pe_op op_addU (pe_op op_addU (pe_op op_fdivB (pv 1) pe_int) (pe_op op_mul pe_int (pv 2))) (pe_op op_mul (pv 2) (pv 2))) pe_int) (fun _ _ => rfl)))) pa_nil)))
  (pss_cons (ps_set (i := 6) nd rfl (Or.inr rfl) (pe_op op_mod (pe_op op_fdivB (pv 0) pe_int) (pe_op op_addU (pv 4) pe_int)))
  (pss_one (ps_ret (pe_comp (N' := ["_law_stem", "_law_letters", "_law_at", "_law_cell", "_law_k"]) (ρ := [some 5, some 2, some 6, some 0, none]) rfl (CompSc.of rfl (by kernel_rfl)) (pi_range1 rfl T.b_range (pa_cons (pv 1) pa_nil)) (fun _ _ _ _ _ => (pg_name (i := 4) (by show (["_law_stem", "_law_letters", "_law_at", "_law_cell", "_law_k"] : List Str).Nodup; decide +kernel) rfl (Or.inl rfl))) (gk_name rfl) (fun _ _ _ _ _ => pts_nil) (fun _ _ _ _ _ => (pe_op op_addU (pe_op op_addU (pe_slice sl_U (pv 0) po_none (po_some (pv 2))) (pe_ix ix_seq (pv 1) (pe_op op_mod (pe_op op_addU (pe_op op_fdivB (pv 3) pe_int) (pe_op op_mul pe_int (pv 4))) pe_int) (fun _ _ => rfl))) (pe_slice sl_U (pv 0) (po_some (pv 2)) po_none))))))))))),
    _root_.A.runN (N := ["_law_cell", "_law_many", "_law_letters", "_law_long", "_law_size", "_law_stem", "_law_at"]) (M := Mo []) (as_seq (as_set 2 rfl a_str)
  (as_seq (as_if (at_test (AE.p (a_bin b_lt (AE.p (a_bin b_mod (AE.p (a_var 0 rfl)) (AE.p a_int))) (AE.p a_int))))
  (as_seq (as_set 3 rfl (a_join (AE.p a_str) (AE.np (a_comp (K := K) (tg := (.n 2)) (AIf.c (ai_range1 (AE.p a_int))) (by decide) at_yes (a_bin b_ix (AE.p (a_var 0 rfl)) (AE.p (a_bin b_mod (AE.p (a_bin b_div (AE.p (a_var 1 rfl)) (AE.p (a_bin b_add (AE.p a_int) (AE.p (a_bin b_mul (AE.p a_int) (AE.p (a_var 2 rfl)))))))) (AE.p a_int))))))))
  (as_seq (as_if (at_test (AE.p (a_bin b_eq (AE.p (a_bin b_mod (AE.p (a_var 0 rfl)) (AE.p a_int))) (AE.p a_int))))
  (as_retN (AE.w (a_comp (K := K) (tg := (.n 1)) (AIf.c (ai_range1 (AE.p (a_var 1 rfl)))) (by decide) at_yes (a_sl b_slV (AE.p (a_var 0 rfl)) ao_none (ao_some (AE.p (a_bin b_add (AE.p (a_var 1 rfl)) (AE.p a_int))))))))
  as_next)
  (as_retN (AE.w (a_comp (K := K) (tg := (.n 1)) (AIf.c (ai_range1 (AE.p (a_var 1 rfl)))) (by decide) at_yes (a_sl b_slV (AE.p (a_var 0 rfl)) (ao_some (AE.p (a_bin b_sub (AE.p a_int) (AE.p (a_var 1 rfl))))) ao_none))))))
  as_next)
  (as_seq (as_set 4 rfl (a_bin b_mod (AE.p (a_bin b_div (AE.p (a_var 0 rfl)) (AE.p a_int))) (AE.p a_int)))
  (as_seq (as_set 5 rfl (a_join (AE.p a_str) (AE.np (a_comp (K := K) (tg := (.n 2)) (AIf.c (ai_range1 (AE.p (a_var 4 rfl)))) (by decide) at_yes (a_bin b_ix (AE.p (a_var 0 rfl)) (AE.p (a_bin b_mod (AE.p (a_bin b_add (AE.p (a_bin b_add (AE.p (a_bin b_div (AE.p (a_var 1 rfl)) (AE.p a_int))) (AE.p (a_bin b_mul (AE.p a_int) (AE.p (a_var 2 rfl)))))) (AE.p (a_bin b_mul (AE.p (a_var 2 rfl)) (AE.p (a_var 2 rfl)))))) (AE.p a_int))))))))
  (as_seq (as_set 6 rfl (a_bin b_mod (AE.p (a_bin b_div (AE.p (a_var 0 rfl)) (AE.p a_int))) (AE.p (a_bin b_add (AE.p (a_var 4 rfl)) (AE.p a_int)))))
  (as_retN (AE.w (a_comp (K := K) (tg := (.n 4)) (AIf.c (ai_range1 (AE.p (a_var 1 rfl)))) (by decide) at_yes (a_bin b_add (AE.p (a_bin b_add (AE.p (a_sl b_slV (AE.p (a_var 0 rfl)) ao_none (ao_some (AE.p (a_var 2 rfl))))) (AE.p (a_bin b_ix (AE.p (a_var 1 rfl)) (AE.p (a_bin b_mod (AE.p (a_bin b_add (AE.p (a_bin b_div (AE.p (a_var 3 rfl)) (AE.p a_int))) (AE.p (a_bin b_mul (AE.p a_int) (AE.p (a_var 4 rfl)))))) (AE.p a_int))))))) (AE.p (a_sl b_slV (AE.p (a_var 0 rfl)) (ao_some (AE.p (a_var 2 rfl))) ao_none))))))))))) (by decide) h⟩)

abbrev s_l_names : Stmt := top 11
theorem sc_l_names : FnScope ["_law_draws_here", "_law_many", "_law_letters", "_law_names_here", "_law_k", "_law_rest", "_law_name", "_law_turn"] ["_law_draws_here", "_law_many"] (defScope s_l_names) := ⟨rfl, rfl, rfl, by decide +kernel, rfl, by decide +kernel, by decide +kernel⟩
theorem ok_l_names {f : Addr} {fd : FuncData} (F : Fun K "_law_names" "_law_names" s_l_names f fd) (T : Txt mg) (C_l_words : Cal P w K mg base CX0 1 "_law_words" ["_law_cell", "_law_many"] (spN m_l_words)) : FnOk P w K mg base CX0 2 f fd ["_law_draws_here", "_law_many"] (spN m_l_names) :=
  F.ok sc_l_names (fun vs H Q E h => lenN h) (fun cdv A outer s H vs Q E hr h => by
    have nd := sc_l_names.nd
    have hu := hu_of hr
    have hu64 := hr.units
    have hr_l_words := hr.mono (show 1 ≤ _ by decide)
    exact ⟨_, (pss_cons (ps_set (i := 2) nd rfl (Or.inl rfl) pe_str)
  (pss_cons (ps_set (i := 3) nd rfl (Or.inl rfl) (pe_lst pa_nil))
  (pss_cons (ps_for PassesOwn.never rfl (pi_range1 rfl T.b_range (pa_cons (pv 1) pa_nil)) (pg_name (i := 4) nd rfl (Or.inl rfl))
  (pss_cons (ps_set (i := 5) nd rfl (Or.inl rfl) (pe_op op_fdivB (pe_ix ix_seq (pv 0) (pe_op op_addU pe_int (pv 4)) (fun _ _ => rfl)) pe_int))
  (pss_cons (ps_set (i := 6) nd rfl (Or.inl rfl) pe_str)
  (pss_cons (ps_for PassesOwn.never rfl (pi_range1 rfl T.b_range (pa_cons (pe_op op_addU pe_int (pe_op op_mod (pe_ix ix_seq (pv 0) (pe_op op_addU pe_int (pv 4)) (fun _ _ => rfl)) pe_int)) pa_nil)) (pg_name (i := 7) nd rfl (Or.inl rfl))
  (pss_cons (ps_set (i := 6) nd rfl (Or.inl rfl) (pe_op op_addU (pv 6) (pe_ix ix_seq (pv 2) (pe_op op_mod (pv 5) pe_int) (fun _ _ => rfl))))
  (pss_one (ps_set (i := 5) nd rfl (Or.inl rfl) (pe_op op_fdivB (pv 5) pe_int)))))
  (pss_one (ps_expr (pe_bm PySem.F.plainAttrs_list PySem.F.slot_list_append PySem.F.type_list_append mt_append (pv 3) (pa_cons (pv 6) pa_nil))))))))
  (pss_cons (ps_if (PW.pt (pw_or (pt_cmpR (op_eqD hu64) (pe_op op_mod (pe_ix ix_seq (pv 0) pe_int (fun _ _ => rfl)) pe_int) pe_int (nomark _)) (pw_or1 (pt_cmpR op_ltU (pe_callB call_lenX rfl T.b_len PySem.boot_len (pa_cons (pe_callTy (call_setX rfl) rfl T.b_set boot_set (pa_cons (pv 3) pa_nil)) pa_nil)) (pv 1) (nomark _)))))
  (pss_one (ps_ret (pe_cal C_l_words hr_l_words rfl pass0 (pa_cons (pe_op op_fdivB (pe_ix ix_seq (pv 0) pe_int (fun _ _ => rfl)) pe_int) (pa_cons (pv 1) pa_nil)))))
  pss_nil)
  (pss_one (ps_ret (pv 3))))))),
    _root_.A.runN (N := ["_law_draws_here", "_law_many", "_law_letters", "_law_names_here", "_law_k", "_law_rest", "_law_name", "_law_turn"]) (M := Mo [3]) (as_seq (as_set 2 rfl a_str)
  (as_seq (as_new 3 rfl (a_lst aa_nil))
  (as_seq (as_for (K := K) (tg := (.n 4)) (ai_range1 (AE.p (a_var 1 rfl))) (by decide)
  (as_seq (as_set 5 rfl (a_bin b_div (AE.p (a_bin b_ix (AE.p (a_var 0 rfl)) (AE.p (a_bin b_add (AE.p a_int) (AE.p (a_var 4 rfl)))))) (AE.p a_int)))
  (as_seq (as_set 6 rfl a_str)
  (as_seq (as_for (K := K) (tg := (.n 7)) (ai_range1 (AE.p (a_bin b_add (AE.p a_int) (AE.p (a_bin b_mod (AE.p (a_bin b_ix (AE.p (a_var 0 rfl)) (AE.p (a_bin b_add (AE.p a_int) (AE.p (a_var 4 rfl)))))) (AE.p a_int)))))) (by decide)
  (as_seq (as_set 6 rfl (a_bin b_add (AE.p (a_var 6 rfl)) (AE.p (a_bin b_ix (AE.p (a_var 2 rfl)) (AE.p (a_bin b_mod (AE.p (a_var 5 rfl)) (AE.p a_int)))))))
  (as_set 5 rfl (a_bin b_div (AE.p (a_var 5 rfl)) (AE.p a_int)))))
  (as_append 3 rfl (a_var 6 rfl))))))
  (as_seq (as_if (at_or (at_test (AE.p (a_bin b_eq (AE.p (a_bin b_mod (AE.p (a_bin b_ix (AE.p (a_var 0 rfl)) (AE.p a_int))) (AE.p a_int))) (AE.p a_int)))) (at_test (AE.p (a_bin b_lt (AE.p (a_lenset (a_varP 3))) (AE.p (a_var 1 rfl))))))
  (as_retN (AE.w (a_callN (aw_cons (AE.w (a_bin b_div (AE.p (a_bin b_ix (AE.p (a_var 0 rfl)) (AE.p a_int))) (AE.p a_int))) (aw_cons (AE.w (a_var 1 rfl)) aw_nil)))))
  as_next)
  (as_retOwn 3 rfl))))) (by decide) h⟩)

abbrev s_l_ranks : Stmt := top 12
theorem sc_l_ranks : FnScope ["_law_draw", "_law_many", "_law_left", "_law_ranks_here", "_law_k"] ["_law_draw", "_law_many"] (defScope s_l_ranks) := ⟨rfl, rfl, rfl, by decide +kernel, rfl, by decide +kernel, by decide +kernel⟩
theorem ok_l_ranks {f : Addr} {fd : FuncData} (F : Fun K "_law_ranks" "_law_ranks" s_l_ranks f fd) (T : Txt mg)  : FnOk P w K mg base CX0 1 f fd ["_law_draw", "_law_many"] (spN m_l_ranks) :=
  F.ok sc_l_ranks (fun vs H Q E h => lenN h) (fun cdv A outer s H vs Q E hr h => by
    have nd := sc_l_ranks.nd
    have hu := hu_of hr
    have hu64 := hr.units
    exact ⟨_, (pss_cons (ps_setC (i := 2) (N' := ["_law_k"]) (ρ := [none]) rfl nd rfl (Or.inl rfl) (CompSc.of rfl (by kernel_rfl)) (pi_range1 rfl T.b_range (pa_cons (pv 1) pa_nil)) (fun _ _ _ _ _ => (pg_name (i := 0) (by show (["_law_k"] : List Str).Nodup; decide +kernel) rfl (Or.inl rfl))) (gk_name rfl) (fun _ _ _ _ _ => pts_nil) (fun _ _ _ _ _ => (pv 0)))
  (pss_cons (ps_set (i := 3) nd rfl (Or.inl rfl) (pe_lst pa_nil))
  (pss_cons (ps_for PassesOwn.never rfl (pi_range1 rfl T.b_range (pa_cons (pv 1) pa_nil)) (pg_name (i := 4) nd rfl (Or.inl rfl))
  (pss_cons (ps_expr (pe_bm PySem.F.plainAttrs_list PySem.F.slot_list_append PySem.F.type_list_append mt_append (pv 3) (pa_cons (pe_bm PySem.F.plainAttrs_list PySem.F.slot_list_pop PySem.F.type_list_pop mt_popAt (pv 2) (pa_cons (pe_op op_mod (pv 0) (pe_callB call_lenU rfl T.b_len PySem.boot_len (pa_cons (pv 2) pa_nil))) pa_nil)) pa_nil)))
  (pss_one (ps_set (i := 0) nd rfl (Or.inl rfl) (pe_op op_fdivB (pv 0) (pe_op op_sub (pv 1) (pv 4)))))))
  (pss_one (ps_ret (pv 3)))))),
    _root_.A.runN (N := ["_law_draw", "_law_many", "_law_left", "_law_ranks_here", "_law_k"]) (M := Mo [2, 3]) (as_seq (as_new 2 rfl (a_comp (K := K) (tg := (.n 0)) (AIf.c (ai_range1 (AE.p (a_var 1 rfl)))) (by decide) at_yes (a_var 0 rfl)))
  (as_seq (as_new 3 rfl (a_lst aa_nil))
  (as_seq (as_for (K := K) (tg := (.n 4)) (ai_range1 (AE.p (a_var 1 rfl))) (by decide)
  (as_seq (as_appendPop 3 2 (by decide) rfl rfl (AE.p (a_bin b_mod (AE.p (a_var 0 rfl)) (AE.p (a_cb b_len (aa_cons (a_varP 2) aa_nil))))))
  (as_set 0 rfl (a_bin b_div (AE.p (a_var 0 rfl)) (AE.p (a_bin b_sub (AE.p (a_var 1 rfl)) (AE.p (a_var 4 rfl))))))))
  (as_retOwn 3 rfl)))) (by decide) h⟩)

abbrev s_l_net : Stmt := top 13
theorem sc_l_net : FnScope ["_law_draws_here", "_law_least", "_law_most", "_law_many", "_law_names_here", "_law_ranks_here", "_law_thick", "_law_arrows", "_law_j", "_law_k", "_law_cell"] ["_law_draws_here", "_law_least", "_law_most"] (defScope s_l_net) := ⟨rfl, rfl, rfl, by decide +kernel, rfl, by decide +kernel, by decide +kernel⟩
theorem ok_l_net {f : Addr} {fd : FuncData} (F : Fun K "_law_net" "_law_net" s_l_net f fd) (T : Txt mg) (C_l_names : Cal P w K mg base CX0 2 "_law_names" ["_law_draws_here", "_law_many"] (spN m_l_names)) (C_l_ranks : Cal P w K mg base CX0 1 "_law_ranks" ["_law_draw", "_law_many"] (spN m_l_ranks)) : FnOk P w K mg base CX0 3 f fd ["_law_draws_here", "_law_least", "_law_most"] (spD m_l_net) :=
  F.ok sc_l_net (fun vs H Q E h => lenD h) (fun cdv A outer s H vs Q E hr h => by
    have nd := sc_l_net.nd
    have hu := hu_of hr
    have hu64 := hr.units
    have hr_l_names := hr.mono (show 2 ≤ _ by decide)
    have hr_l_ranks := hr.mono (show 1 ≤ _ by decide)
    exact ⟨_, (pss_cons (ps_set (i := 3) nd rfl (Or.inl rfl) (pe_op op_addU (pv 1) (pe_op op_mod (pe_ix ix_seq (pv 0) pe_int (fun _ _ => rfl)) (pe_op op_addU (pe_op op_sub (pv 2) (pv 1)) pe_int))))
  (pss_cons (ps_set (i := 4) nd rfl (Or.inl rfl) (pe_cal C_l_names hr_l_names rfl pass0 (pa_cons (pv 0) (pa_cons (pv 3) pa_nil))))
  (pss_cons (ps_set (i := 5) nd rfl (Or.inl rfl) (pe_cal C_l_ranks hr_l_ranks rfl pass0 (pa_cons (pe_ix ix_seq (pv 0) pe_int (fun _ _ => rfl)) (pa_cons (pv 3) pa_nil))))
  (pss_cons (ps_set (i := 6) nd rfl (Or.inl rfl) (pe_ix ix_seq (pe_lst (pa_cons pe_int (pa_cons pe_int (pa_cons pe_int (pa_cons pe_int (pa_cons pe_int (pa_cons pe_int pa_nil))))))) (pe_op op_mod (pe_ix ix_seq (pv 0) pe_int (fun _ _ => rfl)) pe_int) (fun _ _ => rfl)))
  (pss_cons (ps_set (i := 7) nd rfl (Or.inl rfl) (pe_lst pa_nil))
  (pss_cons (ps_for PassesOwn.never rfl (pi_range1 rfl T.b_range (pa_cons (pv 3) pa_nil)) (pg_name (i := 8) nd rfl (Or.inl rfl))
  (pss_one (ps_for PassesOwn.never rfl (pi_range1 rfl T.b_range (pa_cons (pv 3) pa_nil)) (pg_name (i := 9) nd rfl (Or.inl rfl))
  (pss_cons (ps_set (i := 10) nd rfl (Or.inl rfl) (pe_ix ix_seq (pv 0) (pe_op op_addU (pe_op op_addU pe_int (pe_op op_fdivB (pe_op op_mul (pe_callB (call_maxU rfl) rfl T.b_max boot_max (pa_cons (pv 8) (pa_cons (pv 9) pa_nil))) (pe_op op_sub (pe_callB (call_maxU rfl) rfl T.b_max boot_max (pa_cons (pv 8) (pa_cons (pv 9) pa_nil))) pe_int)) pe_int)) (pe_callB (call_minU rfl) rfl T.b_min boot_min (pa_cons (pv 8) (pa_cons (pv 9) pa_nil)))) (fun _ _ => rfl)))
  (pss_one (ps_if (PW.pt (pw_and (pt_cmpR op_ltU (pe_ix ix_seq (pv 5) (pv 8) (fun _ _ => rfl)) (pe_ix ix_seq (pv 5) (pv 9) (fun _ _ => rfl)) (nomark _)) (pw_and1 (pt_cmpR op_ltU (pe_op op_mod (pv 10) pe_int) (pv 6) (nomark _)))))
  (pss_one (ps_expr (pe_bm PySem.F.plainAttrs_list PySem.F.slot_list_append PySem.F.type_list_append mt_append (pv 7) (pa_cons (pe_tup (pa_cons (pe_ix ix_seq (pv 4) (pv 8) (fun _ _ => rfl)) (pa_cons (pe_ix ix_seq (pv 4) (pv 9) (fun _ _ => rfl)) pa_nil))) pa_nil))))
  pss_nil))))))
  (pss_one (ps_ret (pe_tup (pa_cons (pe_callTy call_tupleU rfl T.b_tuple boot_tuple (pa_cons (pv 4) pa_nil)) (pa_cons (pe_callTy call_tupleU rfl T.b_tuple boot_tuple (pa_cons (pv 7) pa_nil)) pa_nil))))))))))),
    _root_.A.runD (N := ["_law_draws_here", "_law_least", "_law_most", "_law_many", "_law_names_here", "_law_ranks_here", "_law_thick", "_law_arrows", "_law_j", "_law_k", "_law_cell"]) (M := Mo [7]) (as_seq (as_set 3 rfl (a_bin b_add (AE.p (a_var 1 rfl)) (AE.p (a_bin b_mod (AE.p (a_bin b_ix (AE.p (a_var 0 rfl)) (AE.p a_int))) (AE.p (a_bin b_add (AE.p (a_bin b_sub (AE.p (a_var 2 rfl)) (AE.p (a_var 1 rfl)))) (AE.p a_int)))))))
  (as_seq (as_set 4 rfl (AE.nv (a_callN (aw_cons (AE.w (a_var 0 rfl)) (aw_cons (AE.w (a_var 3 rfl)) aw_nil)))))
  (as_seq (as_set 5 rfl (AE.nv (a_callN (aw_cons (AE.w (a_bin b_ix (AE.p (a_var 0 rfl)) (AE.p a_int))) (aw_cons (AE.w (a_var 3 rfl)) aw_nil)))))
  (as_seq (as_set 6 rfl (a_bin b_ix (AE.np (a_lst (aa_cons a_int (aa_cons a_int (aa_cons a_int (aa_cons a_int (aa_cons a_int (aa_cons a_int aa_nil)))))))) (AE.p (a_bin b_mod (AE.p (a_bin b_ix (AE.p (a_var 0 rfl)) (AE.p a_int))) (AE.p a_int)))))
  (as_seq (as_new 7 rfl (a_lst aa_nil))
  (as_seq (as_for (K := K) (tg := (.n 8)) (ai_range1 (AE.p (a_var 3 rfl))) (by decide)
  (as_for (K := K) (tg := (.n 9)) (ai_range1 (AE.p (a_var 3 rfl))) (by decide)
  (as_seq (as_set 10 rfl (a_bin b_ix (AE.p (a_var 0 rfl)) (AE.p (a_bin b_add (AE.p (a_bin b_add (AE.p a_int) (AE.p (a_bin b_div (AE.p (a_bin b_mul (AE.p (a_cb b_max (aa_cons (AE.p (a_var 8 rfl)) (aa_cons (AE.p (a_var 9 rfl)) aa_nil)))) (AE.p (a_bin b_sub (AE.p (a_cb b_max (aa_cons (AE.p (a_var 8 rfl)) (aa_cons (AE.p (a_var 9 rfl)) aa_nil)))) (AE.p a_int))))) (AE.p a_int))))) (AE.p (a_cb b_min (aa_cons (AE.p (a_var 8 rfl)) (aa_cons (AE.p (a_var 9 rfl)) aa_nil))))))))
  (as_if (at_and (at_test (AE.p (a_bin b_lt (AE.p (a_bin b_ix (AE.p (a_var 5 rfl)) (AE.p (a_var 8 rfl)))) (AE.p (a_bin b_ix (AE.p (a_var 5 rfl)) (AE.p (a_var 9 rfl))))))) (at_test (AE.p (a_bin b_lt (AE.p (a_bin b_mod (AE.p (a_var 10 rfl)) (AE.p a_int))) (AE.p (a_var 6 rfl))))))
  (as_append 7 rfl (a_tup (aa_cons (a_bin b_ix (AE.p (a_var 4 rfl)) (AE.p (a_var 8 rfl))) (aa_cons (a_bin b_ix (AE.p (a_var 4 rfl)) (AE.p (a_var 9 rfl))) aa_nil))))
  as_next))))
  (as_ret (AE.w (a_tup (aa_cons (a_cb b_tuple (aa_cons (AE.p (a_var 4 rfl)) aa_nil)) (aa_cons (a_cb b_tuple (aa_cons (a_varP 7) aa_nil)) aa_nil))))))))))) (by decide) h⟩)

abbrev s_l_ready : Stmt := top 14
theorem sc_l_ready : FnScope ["_law_net_here", "_law_told", "_law_found", "_law_name", "_law_waiting"] ["_law_net_here", "_law_told"] (defScope s_l_ready) := ⟨rfl, rfl, rfl, by decide +kernel, rfl, by decide +kernel, by decide +kernel⟩
theorem ok_l_ready {f : Addr} {fd : FuncData} (F : Fun K "_law_ready" "_law_ready" s_l_ready f fd) (T : Txt mg)  : FnOk P w K mg base CX0 1 f fd ["_law_net_here", "_law_told"] (spN m_l_ready) :=
  F.ok sc_l_ready (fun vs H Q E h => lenN h) (fun cdv A outer s H vs Q E hr h => by
    have nd := sc_l_ready.nd
    have hu := hu_of hr
    have hu64 := hr.units
    exact ⟨_, (pss_cons (ps_set (i := 2) nd rfl (Or.inl rfl) (pe_lst pa_nil))
  (pss_cons (ps_for PassesOwn.never rfl (pi_seq (pe_ix ix_seq (pv 0) pe_int (fun _ _ => rfl))) (pg_name (i := 3) nd rfl (Or.inr rfl))
  (pss_cons (ps_setC (i := 4) (N' := ["_law_name", "_law_told", "_law_tail", "_law_head"]) (ρ := [some 3, some 1, none, none]) rfl nd rfl (Or.inl rfl) (CompSc.of rfl (by kernel_rfl)) (pi_seq (pe_ix ix_seq (pv 0) pe_int (fun _ _ => rfl))) (fun _ _ _ _ _ => (pg_tup rfl (pgs_cons (pg_name (i := 2) (by show (["_law_name", "_law_told", "_law_tail", "_law_head"] : List Str).Nodup; decide +kernel) rfl (Or.inl rfl)) (pgs_cons (pg_name (i := 3) (by show (["_law_name", "_law_told", "_law_tail", "_law_head"] : List Str).Nodup; decide +kernel) rfl (Or.inl rfl)) pgs_nil)))) (gk_tup (gk_cons1 rfl (gk_cons1 rfl gk_nil gm_nil) (gm_cons gm_nil))) (fun _ _ _ _ _ => (pts_one (PW.pt (pw_and (pt_cmpR (op_eqD hu64) (pv 3) (pv 0) (nomark _)) (pw_and1 (pt_cmpR (op_notInD hu64) (pv 2) (pv 1) rfl)))))) (fun _ _ _ _ _ => (pv 2)))
  (pss_one (ps_if (PW.pt (pw_and (pt_cmpR (op_notInD hu64) (pv 3) (pv 1) rfl) (pw_and1 (pt_cmpR (op_eqD hu64) (pe_callB call_lenU rfl T.b_len PySem.boot_len (pa_cons (pv 4) pa_nil)) pe_int (nomark _)))))
  (pss_one (ps_expr (pe_bm PySem.F.plainAttrs_list PySem.F.slot_list_append PySem.F.type_list_append mt_append (pv 2) (pa_cons (pv 3) pa_nil))))
  pss_nil))))
  (pss_one (ps_ret (pv 2))))),
    _root_.A.runN (N := ["_law_net_here", "_law_told", "_law_found", "_law_name", "_law_waiting"]) (M := Mo [2]) (as_seq (as_new 2 rfl (a_lst aa_nil))
  (as_seq (as_for (K := K) (tg := (.n 3)) (ai_seq (a_bin b_ix (AE.p (a_var 0 rfl)) (AE.p a_int))) (by decide)
  (as_seq (as_set 4 rfl (AE.nv (a_comp (K := K) (tg := (.t [2, 3])) (ai_seqC (AE.p (a_bin b_ix (AE.p (a_var 0 rfl)) (AE.p a_int)))) (by decide) (at_and (at_test (AE.p (a_bin b_eq (AE.p (a_var 3 rfl)) (AE.p (a_var 0 rfl))))) (at_test (AE.p (a_bin b_notin (AE.p (a_var 2 rfl)) (AE.p (a_var 1 rfl)))))) (a_var 2 rfl))))
  (as_if (at_and (at_test (AE.p (a_bin b_notin (AE.p (a_var 3 rfl)) (AE.p (a_var 1 rfl))))) (at_test (AE.p (a_bin b_eq (AE.p (a_cb b_len (aa_cons (AE.p (a_var 4 rfl)) aa_nil))) (AE.p a_int)))))
  (as_append 2 rfl (a_var 3 rfl))
  as_next)))
  (as_retOwn 2 rfl))) (by decide) h⟩)

abbrev s_l_right : Stmt := top 15
theorem sc_l_right : FnScope ["_law_net_here", "_law_told", "_law_k", "_law_name"] ["_law_net_here", "_law_told"] (defScope s_l_right) := ⟨rfl, rfl, rfl, by decide +kernel, rfl, by decide +kernel, by decide +kernel⟩
theorem ok_l_right {f : Addr} {fd : FuncData} (F : Fun K "_law_right" "_law_right" s_l_right f fd) (T : Txt mg) (C_l_ready : Cal P w K mg base CX0 1 "_law_ready" ["_law_net_here", "_law_told"] (spN m_l_ready)) : FnOk P w K mg base CX0 2 f fd ["_law_net_here", "_law_told"] (spD m_l_right) :=
  F.ok sc_l_right (fun vs H Q E h => lenD h) (fun cdv A outer s H vs Q E hr h => by
    have nd := sc_l_right.nd
    have hu := hu_of hr
    have hu64 := hr.units
    have hr_l_ready := hr.mono (show 1 ≤ _ by decide)
    exact ⟨_, (pss_cons (ps_if (PW.pt (pw_or (pt_not (pt_val (pe_callB call_isT rfl T.b_isinstance boot_isinstance (pa_cons (pv 1) (pa_cons (pe_ty rfl T.b_list boot_list) pa_nil))))) (pw_or1 (pt_cmpR (op_neD hu64) (pe_callB call_lenU rfl T.b_len PySem.boot_len (pa_cons (pv 1) pa_nil)) (pe_callB call_lenU rfl T.b_len PySem.boot_len (pa_cons (pe_ix ix_seq (pv 0) pe_int (fun _ _ => rfl)) pa_nil)) (nomark _)))))
  (pss_one (ps_ret pe_bl))
  pss_nil)
  (pss_cons (ps_for PassesOwn.never rfl (pi_enum rfl T.b_enumerate (pv 1)) (pg_tup rfl (pgs_cons (pg_name (i := 2) nd rfl (Or.inl rfl)) (pgs_cons (pg_name (i := 3) nd rfl (Or.inl rfl)) pgs_nil)))
  (pss_one (ps_if (PW.pt (pw_or (pt_not (pt_val (pe_callB call_isT rfl T.b_isinstance boot_isinstance (pa_cons (pv 3) (pa_cons (pe_ty rfl T.b_str boot_str) pa_nil))))) (pw_or1 (pt_cmpR (op_neD hu64) (pe_slice sl_U (pe_cal C_l_ready hr_l_ready rfl pass0 (pa_cons (pv 0) (pa_cons (pe_slice sl_U (pv 1) po_none (po_some (pv 2))) pa_nil))) po_none (po_some pe_int)) (pe_lst (pa_cons (pv 3) pa_nil)) (nomark _)))))
  (pss_one (ps_ret pe_bl))
  pss_nil)))
  (pss_one (ps_ret pe_bl)))),
    _root_.A.runD (N := ["_law_net_here", "_law_told", "_law_k", "_law_name"]) (M := Mo []) (as_seq (as_if (at_or (at_not (at_b (AE.p (a_is (ty_list K) (AE.p (a_var 1 rfl)))))) (at_test (AE.p (a_bin b_ne (AE.p (a_cb b_len (aa_cons (AE.p (a_var 1 rfl)) aa_nil))) (AE.p (a_cb b_len (aa_cons (AE.p (a_bin b_ix (AE.p (a_var 0 rfl)) (AE.p a_int))) aa_nil)))))))
  (as_ret (AE.w a_bl))
  as_next)
  (as_seq (as_for (K := K) (tg := (.t [2, 3])) (ai_enum (a_var 1 rfl)) (by decide)
  (as_if (at_or (at_not (at_b (AE.p (a_is (ty_str K) (AE.p (a_var 3 rfl)))))) (at_test (AE.p (a_bin b_ne (AE.p (a_sl b_slV (AE.np (a_callN (aw_cons (AE.w (a_var 0 rfl)) (aw_cons (AE.w (a_sl b_slV (AE.p (a_var 1 rfl)) ao_none (ao_some (AE.p (a_var 2 rfl))))) aw_nil)))) ao_none (ao_some (AE.p a_int)))) (AE.np (a_lst (aa_cons (a_var 3 rfl) aa_nil)))))))
  (as_ret (AE.w a_bl))
  as_next))
  (as_ret (AE.w a_bl)))) (by decide) h⟩)

abbrev s_law : Stmt := top 16
theorem sc_law : FnScope ["_law_script", "_law_net_here", "_law_told", "_law_other"] ["_law_script"] (defScope s_law) := ⟨rfl, rfl, rfl, by decide +kernel, rfl, by decide +kernel, by decide +kernel⟩
theorem ok_law {f : Addr} {fd : FuncData} (F : Fun K "law" "law" s_law f fd) (T : Txt mg) (C_in_turn : Cal P w K mg base CX0 4 "in_turn" ["net"] (spN m_in_turn)) (C_l_draws : Cal P w K mg base CX0 1 "_law_draws" ["_law_script"] (spN m_l_draws)) (C_l_net : Cal P w K mg base CX0 3 "_law_net" ["_law_draws_here", "_law_least", "_law_most"] (spD m_l_net)) (C_l_right : Cal P w K mg base CX0 2 "_law_right" ["_law_net_here", "_law_told"] (spD m_l_right)) : FnOk P w K mg base CX0 5 f fd ["_law_script"] (spD m_law_k07) :=
  F.ok sc_law (fun vs H Q E h => lenD h) (fun cdv A outer s H vs Q E hr h => by
    have nd := sc_law.nd
    have hu := hu_of hr
    have hu64 := hr.units
    have hr_in_turn := hr.mono (show 4 ≤ _ by decide)
    have hr_l_draws := hr.mono (show 1 ≤ _ by decide)
    have hr_l_net := hr.mono (show 3 ≤ _ by decide)
    have hr_l_right := hr.mono (show 2 ≤ _ by decide)
    exact ⟨_, (pss_cons (ps_set (i := 1) nd rfl (Or.inl rfl) (pe_cal C_l_net hr_l_net rfl pass0 (pa_cons (pe_cal C_l_draws hr_l_draws rfl pass0 (pa_cons (pv 0) pa_nil)) (pa_cons pe_int (pa_cons pe_int pa_nil)))))
  (pss_cons (ps_set (i := 2) nd rfl (Or.inr rfl) (pe_cal C_in_turn hr_in_turn rfl pass0 (pa_cons (pv 1) pa_nil)))
  (pss_cons (ps_if (pt_not (pt_val (pe_cal C_l_right hr_l_right rfl pass0 (pa_cons (pv 1) (pa_cons (pv 2) pa_nil)))))
  (pss_one (ps_ret pe_bl))
  pss_nil)
  (pss_cons (ps_set (i := 3) nd rfl (Or.inl rfl) (pe_tup (pa_cons (pe_ix ix_seq (pv 1) pe_int (fun _ _ => rfl)) (pa_cons (pe_callTy call_tupleU rfl T.b_tuple boot_tuple (pa_cons (pe_comp (N' := ["_law_told", "_law_tail", "_law_head"]) (ρ := [some 2, none, none]) rfl (CompSc.of rfl (by kernel_rfl)) (pi_seq (pe_ix ix_seq (pv 1) pe_int (fun _ _ => rfl))) (fun _ _ _ _ _ => (pg_tup rfl (pgs_cons (pg_name (i := 1) (by show (["_law_told", "_law_tail", "_law_head"] : List Str).Nodup; decide +kernel) rfl (Or.inl rfl)) (pgs_cons (pg_name (i := 2) (by show (["_law_told", "_law_tail", "_law_head"] : List Str).Nodup; decide +kernel) rfl (Or.inl rfl)) pgs_nil)))) (gk_tup (gk_cons1 rfl (gk_cons1 rfl gk_nil gm_nil) (gm_cons gm_nil))) (fun _ _ _ _ _ => (pts_one (pt_cmpR (op_neD hu64) (pv 2) (pe_ix ix_seq (pv 0) (pe_un un_neg pe_int) (fun _ _ => rfl)) (nomark _)))) (fun _ _ _ _ _ => (pe_tup (pa_cons (pv 1) (pa_cons (pv 2) pa_nil))))) pa_nil)) pa_nil))))
  (pss_cons (ps_if (pt_not (pt_val (pe_cal C_l_right hr_l_right rfl pass0 (pa_cons (pv 3) (pa_cons (pe_cal C_in_turn hr_in_turn rfl pass0 (pa_cons (pv 3) pa_nil)) pa_nil)))))
  (pss_one (ps_ret pe_bl))
  pss_nil)
  (pss_cons (ps_expr (pe_bm0 PySem.F.plainAttrs_list PySem.F.slot_list_clear PySem.F.type_list_clear mt_clear (pv 2)))
  (pss_one (ps_ret (pe_cal C_l_right hr_l_right rfl pass0 (pa_cons (pv 1) (pa_cons (pe_cal C_in_turn hr_in_turn rfl pass0 (pa_cons (pv 1) pa_nil)) pa_nil))))))))))),
    _root_.A.runD (N := ["_law_script", "_law_net_here", "_law_told", "_law_other"]) (M := Mo [2]) (as_seq (as_set 1 rfl (a_call (aw_cons (AW.nv (AE.w (a_callN (aw_cons (AE.w (a_var 0 rfl)) aw_nil)))) (aw_cons (AE.w a_int) (aw_cons (AE.w a_int) aw_nil)))))
  (as_seq (as_new 2 rfl (a_callN (aw_cons (AE.w (a_var 1 rfl)) aw_nil)))
  (as_seq (as_if (at_not (at_b (AE.p (a_callI (aw_cons (AW.p (AE.w (a_var 1 rfl))) (aw_cons (AE.w (a_varP 2)) aw_nil))))))
  (as_ret (AE.w a_bl))
  as_next)
  (as_seq (as_set 3 rfl (a_tup (aa_cons (a_bin b_ix (AE.p (a_var 1 rfl)) (AE.p a_int)) (aa_cons (a_cb b_tuple (aa_cons (AE.np (a_comp (K := K) (tg := (.t [1, 2])) (ai_seqC (AE.p (a_bin b_ix (AE.p (a_var 1 rfl)) (AE.p a_int)))) (by decide) (at_test (AE.p (a_bin b_ne (AE.p (a_var 2 rfl)) (AE.p (a_bin b_ix (a_varP 0) (AE.p (a_un b_neg (AE.p a_int)))))))) (a_tup (aa_cons (a_var 1 rfl) (aa_cons (a_var 2 rfl) aa_nil))))) aa_nil)) aa_nil))))
  (as_seq (as_if (at_not (at_b (AE.p (a_call (aw_cons (AE.w (a_var 3 rfl)) (aw_cons (AW.nv (AE.w (a_callN (aw_cons (AE.w (a_var 3 rfl)) aw_nil)))) aw_nil))))))
  (as_ret (AE.w a_bl))
  as_next)
  (as_seq (as_clear 2 rfl)
  (as_ret (AE.w (a_call (aw_cons (AE.w (a_var 1 rfl)) (aw_cons (AW.nv (AE.w (a_callN (aw_cons (AE.w (a_var 1 rfl)) aw_nil)))) aw_nil))))))))))) (by decide) h⟩)

end
end Mk07

set_option linter.all false
namespace Mi
open PySem
/-! ### mirrors in use -/
@[simp] theorem ofO_some {α : Type} (a : α) : ofO (some a) = .ok a := rfl
@[simp] theorem guard_true {α : Type} {c : Prop} [Decidable c] (h : c) (r : Rs α) : guardR c r = r := if_pos h
@[simp] theorem pyEq_str (a b : Str) : pyEq (.str a) (.str b) = decide (a = b) := by rw [pyEq]; by_cases h : a = b <;> simp [h]
@[simp] theorem pyEq_int (a b : Int) : pyEq (.int a) (.int b) = decide (a = b) := by rw [pyEq]; by_cases h : a = b <;> simp [h]
@[simp] theorem dep_str (x : Str) : (D.str x).dep = 0 := by simp [D.dep]
@[simp] theorem dep_int (x : Int) : (D.int x).dep = 0 := by simp [D.dep]
@[simp] theorem dep_bl (x : Bool) : (D.bl x).dep = 0 := by simp [D.dep]
@[simp] theorem dep_non : D.non.dep = 0 := by simp [D.dep]
@[simp] theorem dep_lst (ds : List D) : (D.lst ds).dep = depAll ds + 1 := by simp [D.dep]
@[simp] theorem dep_tup (ds : List D) : (D.tup ds).dep = depAll ds + 1 := by simp [D.dep]
@[simp] theorem depAll_nil : depAll [] = 0 := rfl
@[simp] theorem depAll_cons (d : D) (r : List D) : depAll (d :: r) = max d.dep (depAll r) := by rw [depAll]
@[simp] theorem depAll_str : ∀ xs : List Str, depAll (xs.map D.str) = 0
  | [] => rfl
  | x :: r => by rw [List.map_cons, depAll_cons, dep_str, depAll_str r]; rfl
theorem any_str (xs : List Str) (x : Str) : ((xs.map D.str).any fun e => pyEq e (.str x)) = decide (x ∈ xs) := by
  induction xs with
  | nil => rfl
  | cons y r ih =>
    rw [List.map_cons, List.any_cons, ih, pyEq_str]
    by_cases h : y = x
    · simp [h]
    · have h2 : ¬ x = y := fun z => h z.symm
      simp [h, h2]
theorem dIn_str (xs : List Str) (x : Str) : dIn (.str x) (.lst (xs.map D.str)) = .ok (.bl (decide (x ∈ xs))) := by
  show guardR _ _ = _
  rw [guardR_pos (by rw [depAll_str]; omega), any_str]
theorem dInT_str (xs : List Str) (x : Str) : dIn (.str x) (.tup (xs.map D.str)) = .ok (.bl (decide (x ∈ xs))) := by
  show guardR _ _ = _
  rw [guardR_pos (by rw [depAll_str]; omega), any_str]
theorem dNotIn_str (xs : List Str) (x : Str) : dNotIn (.str x) (.lst (xs.map D.str)) = .ok (.bl (!decide (x ∈ xs))) := by
  show guardR _ _ = _
  rw [guardR_pos (by rw [depAll_str]; omega), any_str]
theorem dNotInT_str (xs : List Str) (x : Str) : dNotIn (.str x) (.tup (xs.map D.str)) = .ok (.bl (!decide (x ∈ xs))) := by
  show guardR _ _ = _
  rw [guardR_pos (by rw [depAll_str]; omega), any_str]
theorem dEq_str (x y : Str) : dEq (.str x) (.str y) = .ok (.bl (decide (x = y))) := by
  show guardR _ _ = _
  rw [guardR_pos (by simp), pyEq_str]
theorem dNe_str (x y : Str) : dNe (.str x) (.str y) = .ok (.bl (!decide (x = y))) := by
  show guardR _ _ = _
  rw [guardR_pos (by simp), pyEq_str]
theorem dEq_int (x y : Int) : dEq (.int x) (.int y) = .ok (.bl (decide (x = y))) := by
  show guardR _ _ = _
  rw [guardR_pos (by simp), pyEq_int]
theorem dNe_int (x y : Int) : dNe (.int x) (.int y) = .ok (.bl (!decide (x = y))) := by
  show guardR _ _ = _
  rw [guardR_pos (by simp), pyEq_int]
theorem asBs_map {α : Type} (f : α → Bool) (xs : List α) : asBs (xs.map fun x => D.bl (f x)) = some (xs.map f) := by
  induction xs with
  | nil => rfl
  | cons a r ih => rw [List.map_cons, asBs, ih]; rfl
theorem asSs_map (xs : List Str) : asSs (xs.map D.str) = some xs := by
  induction xs with
  | nil => rfl
  | cons a r ih => rw [List.map_cons, asSs, ih]; rfl
theorem fnM1 (n : Nat) (b : S) (a0 : W) : fnM 1 n b [a0] = (b ([some a0] ++ List.replicate (n - 1) none)).bind fnOut := guardR_pos rfl
theorem fnM2 (n : Nat) (b : S) (a0 a1 : W) : fnM 2 n b [a0, a1] = (b ([some a0, some a1] ++ List.replicate (n - 2) none)).bind fnOut := guardR_pos rfl
theorem fnM3 (n : Nat) (b : S) (a0 a1 a2 : W) : fnM 3 n b [a0, a1, a2] = (b ([some a0, some a1, some a2] ++ List.replicate (n - 3) none)).bind fnOut := guardR_pos rfl
theorem fnM4 (n : Nat) (b : S) (a0 a1 a2 a3 : W) : fnM 4 n b [a0, a1, a2, a3] = (b ([some a0, some a1, some a2, some a3] ++ List.replicate (n - 4) none)).bind fnOut := guardR_pos rfl
theorem fnN1 (n : Nat) (b : S) (a0 : W) : fnN 1 n b [a0] = (b ([some a0] ++ List.replicate (n - 1) none)).bind fnOutN := guardR_pos rfl
theorem fnN2 (n : Nat) (b : S) (a0 a1 : W) : fnN 2 n b [a0, a1] = (b ([some a0, some a1] ++ List.replicate (n - 2) none)).bind fnOutN := guardR_pos rfl
theorem fnN3 (n : Nat) (b : S) (a0 a1 a2 : W) : fnN 3 n b [a0, a1, a2] = (b ([some a0, some a1, some a2] ++ List.replicate (n - 3) none)).bind fnOutN := guardR_pos rfl
theorem fnN4 (n : Nat) (b : S) (a0 a1 a2 a3 : W) : fnN 4 n b [a0, a1, a2, a3] = (b ([some a0, some a1, some a2, some a3] ++ List.replicate (n - 4) none)).bind fnOutN := guardR_pos rfl
theorem gle0 {α : Type} (r : Rs α) : guardR (0 ≤ 16777216) r = r := guardR_pos (by decide)
theorem gle1 {α : Type} (r : Rs α) : guardR (1 ≤ 16777216) r = r := guardR_pos (by decide)
theorem gle2 {α : Type} (r : Rs α) : guardR (2 ≤ 16777216) r = r := guardR_pos (by decide)
theorem gle3 {α : Type} (r : Rs α) : guardR (3 ≤ 16777216) r = r := guardR_pos (by decide)
theorem gle4 {α : Type} (r : Rs α) : guardR (4 ≤ 16777216) r = r := guardR_pos (by decide)
theorem gle5 {α : Type} (r : Rs α) : guardR (5 ≤ 16777216) r = r := guardR_pos (by decide)
theorem gle6 {α : Type} (r : Rs α) : guardR (6 ≤ 16777216) r = r := guardR_pos (by decide)
theorem gle7 {α : Type} (r : Rs α) : guardR (7 ≤ 16777216) r = r := guardR_pos (by decide)
theorem gle8 {α : Type} (r : Rs α) : guardR (8 ≤ 16777216) r = r := guardR_pos (by decide)
theorem add_ii (i j : Int) : dAdd (.int i) (.int j) = .ok (.int (i + j)) := rfl
theorem add_ss (i j : Str) : dAdd (.str i) (.str j) = guardR (i.length + j.length ≤ 16777216) (.ok (.str (i ++ j))) := rfl
theorem add_ll (i j : List D) : dAdd (.lst i) (.lst j) = guardR (i.length + j.length ≤ 16777216) (.ok (.lst (i ++ j))) := rfl
theorem cat_ll (i j : List D) : dCat (.lst i) (.lst j) = guardR (i.length + j.length ≤ 16777216) (.ok (.lst (i ++ j))) := rfl
theorem sub_ii (i j : Int) : dSub (.int i) (.int j) = .ok (.int (i - j)) := rfl
theorem mul_ii (i j : Int) : dMulI (.int i) (.int j) = guardR (okMul i j) (.ok (.int (i * j))) := rfl
theorem div_ii (i j : Int) : dDiv (.int i) (.int j) = guardR (okDiv j) (.ok (.int (i / j))) := rfl
theorem mod_ii (i j : Int) : dMod (.int i) (.int j) = guardR (0 < j) (.ok (.int (i % j))) := rfl
theorem lt_ii (i j : Int) : dLt (.int i) (.int j) = .ok (.bl (decide (i < j))) := rfl
theorem gt_ii (i j : Int) : dGt (.int i) (.int j) = .ok (.bl (decide (j < i))) := rfl
theorem le_ii (i j : Int) : dLe (.int i) (.int j) = .ok (.bl (decide (i ≤ j))) := rfl
theorem ge_ii (i j : Int) : dGe (.int i) (.int j) = .ok (.bl (decide (j ≤ i))) := rfl
theorem neg_i (i : Int) : dNeg (.int i) = .ok (.int (-i)) := rfl
theorem is_n (x : D) : dIs x .non = .ok (.bl (isNon x)) := rfl
theorem isnot_n (x : D) : dIsNot x .non = .ok (.bl (!isNon x)) := rfl
theorem non_n : isNon .non = true := rfl
theorem non_s (x : Str) : isNon (.str x) = false := rfl
theorem non_l (x : List D) : isNon (.lst x) = false := rfl
theorem non_t (x : List D) : isNon (.tup x) = false := rfl
theorem len_l (ds : List D) : bLen [.lst ds] = .ok (.int ds.length) := rfl
theorem len_t (ds : List D) : bLen [.tup ds] = .ok (.int ds.length) := rfl
theorem len_s (z : Str) : bLen [.str z] = guardR (z.length ≤ 16777216) (.ok (.int z.length)) := rfl
theorem max_ii (i j : Int) : bMax [.int i, .int j] = .ok (.int (max i j)) := rfl
theorem min_ii (i j : Int) : bMin [.int i, .int j] = .ok (.int (min i j)) := rfl
theorem all_l (ds : List D) : bAll [.lst ds] = (ofO (asBs ds)).bind fun bs => .ok (.bl (bs.all id)) := rfl
theorem any_l (ds : List D) : bAny [.lst ds] = (ofO (asBs ds)).bind fun bs => .ok (.bl (bs.any id)) := rfl
theorem list_l (ds : List D) : bList [.lst ds] = .ok (.lst ds) := rfl
theorem list_t (ds : List D) : bList [.tup ds] = .ok (.lst ds) := rfl
theorem tuple_l (ds : List D) : bTuple [.lst ds] = .ok (.tup ds) := rfl
theorem tuple_t (ds : List D) : bTuple [.tup ds] = .ok (.tup ds) := rfl
theorem int_i (i : Int) : bInt [.int i] = .ok (.int i) := rfl
theorem int_b (k : Bool) : bInt [.bl k] = .ok (.int (if k then 1 else 0)) := rfl
theorem sl_l (ds : List D) (lo hi : Option Int) : dSl (.lst ds) lo hi = .ok (.lst (cutL ds lo hi)) := rfl
theorem sl_s (z : Str) (lo hi : Option Int) : dSl (.str z) lo hi = guardR (z.length ≤ 16777216) (.ok (.str (cutStr z lo hi))) := rfl
theorem slL_l (ds : List D) (lo hi : Option Int) : dSlL (.lst ds) lo hi = .ok (.lst (cutL ds lo hi)) := rfl
theorem items_l (ds : List D) : dItems (.lst ds) = .ok ds := rfl
theorem items_t (ds : List D) : dItems (.tup ds) = .ok ds := rfl
theorem litems_l (ds : List D) : dLstItems (.lst ds) = .ok ds := rfl
theorem asB_b (b : Bool) : asB (.bl b) = .ok b := rfl
theorem asI_i (b : Int) : asI (.int b) = .ok b := rfl
theorem asD_d (x : D) : asD (.d x) = .ok x := rfl
theorem asImm_d (x : D) : asImm (.d x) = guardR (imm x = true) (.ok x) := rfl
theorem tru_l (ds : List D) : dTru (.lst ds) = .ok (!ds.isEmpty) := rfl
theorem tru_t (ds : List D) : dTru (.tup ds) = .ok (!ds.isEmpty) := rfl
theorem put_n (i : Nat) (d : D) (e : Mi.Env) : (Tg.n i).put d e = .ok (e.set i (some (.d d))) := rfl
theorem put_t (is : List Nat) (ds : List D) (e : Mi.Env) : (Tg.t is).put (.tup ds) e = setAll is ds e := rfl
theorem all_nil (e : Mi.Env) : setAll [] [] e = .ok e := rfl
theorem all_cons (i : Nat) (is : List Nat) (d : D) (ds : List D) (e : Mi.Env) : setAll (i :: is) (d :: ds) e = setAll is ds (e.set i (some (.d d))) := rfl
theorem out_rt (w : W) : fnOut (.rt w) = .ok w := rfl
theorem out_nx (e : Mi.Env) : fnOut (.nx e) = .ok (.d .non) := rfl
theorem outN_rt (w : W) : fnOutN (.rt w) = .ok w := rfl
theorem ty_l (t : String) (x : List D) : isTy t (.lst x) = (t == "list") := rfl
theorem ty_s (t : String) (x : Str) : isTy t (.str x) = (t == "str") := rfl
theorem ty_t (t : String) (x : List D) : isTy t (.tup x) = (t == "tuple") := rfl
theorem ty_i (t : String) (x : Int) : isTy t (.int x) = (t == "int") := rfl
theorem ty_b (t : String) (x : Bool) : isTy t (.bl x) = (t == "bool" || t == "int") := rfl
theorem m2_ok {f : D → D → Rs D} {a b : E} {e : Mi.Env} {x y : D} {z : Rs D} (ha : a e = .ok x) (hb : b e = .ok y) (h : f x y = z) : m2 f a b e = z := by
  unfold m2; rw [ha, bind_ok, hb, bind_ok, h]
theorem seq_ok {s t : S} {e e' : Mi.Env} (h : s e = .ok (.nx e')) : sSeq s t e = t e' := by unfold sSeq; rw [h]; rfl
theorem seq_rt {s t : S} {e : Mi.Env} {w : W} (h : s e = .ok (.rt w)) : sSeq s t e = .ok (.rt w) := by unfold sSeq; rw [h]; rfl
theorem set_ok {i : Nat} {a : E} {e : Mi.Env} {d : D} (h : a e = .ok d) : sSet i a e = .ok (.nx (e.set i (some (.d d)))) := by unfold sSet; rw [h]; rfl
theorem ret_ok {a : EW} {e : Mi.Env} {w : W} (h : a e = .ok w) : sRet a e = .ok (.rt w) := by unfold sRet; rw [h]; rfl
theorem wD_ok {a : E} {e : Mi.Env} {d : D} (h : a e = .ok d) : wD a e = .ok (.d d) := by unfold wD; rw [h]; rfl
theorem if_tt {c : C} {s t : S} {e : Mi.Env} (h : c e = .ok true) : sIf c s t e = s e := by unfold sIf; rw [h]; rfl
theorem if_ff {c : C} {s t : S} {e : Mi.Env} (h : c e = .ok false) : sIf c s t e = t e := by unfold sIf; rw [h]; rfl
theorem cB_ok {a : E} {e : Mi.Env} {b : Bool} (h : a e = .ok (.bl b)) : cB a e = .ok b := by unfold cB; rw [h]; rfl
theorem comp_ok {ρ : List (Option Nat)} {it : I} {tg : Tg} {c : C} {a : E} {e : Mi.Env} {xs ys : List D} (h : it e = .ok xs) (hl : xs.length ≤ 16777216) (hc : compD tg c a (pickE ρ e) xs = .ok ys) : mComp ρ it tg c a e = .ok (.lst ys) := by
  unfold mComp; rw [h, bind_ok, guardR_pos hl, hc, bind_ok]
theorem rng_ok {a : E} {e : Mi.Env} {n : Int} (h : a e = .ok (.int n)) (hr : okR n) : iRange1 a e = .ok (dRange 0 n) := by
  unfold iRange1; rw [h, bind_ok, asI_i, bind_ok, guardR_pos hr]
theorem for_ok {it : I} {tg : Tg} {b : S} {e : Mi.Env} {xs : List D} (h : it e = .ok xs) : sFor it tg b e = forD tg b xs e := by unfold sFor; rw [h]; rfl
theorem iOf_ok {a : E} {e : Mi.Env} {x : D} {xs : List D} (h : a e = .ok x) (hx : dItems x = .ok xs) : iOf a e = .ok xs := by unfold iOf; rw [h, bind_ok, hx]
theorem append_ok {i : Nat} {a : E} {e : Mi.Env} {d : D} {ds : List D} (h : a e = .ok d) (hg : getL e i = .ok ds) (hl : ds.length < 16777216) : sAppend i a e = .ok (.nx (putL e i (ds ++ [d]))) := by
  unfold sAppend; rw [h, bind_ok, hg, bind_ok, guardR_pos hl]
theorem n1_ok {f : List D → Rs D} {a : E} {e : Mi.Env} {x : D} (h : a e = .ok x) : mN f [a] e = f [x] := by unfold mN; rw [mArgs, h]; rfl
theorem n2_ok {f : List D → Rs D} {a b : E} {e : Mi.Env} {x y : D} (h : a e = .ok x) (h' : b e = .ok y) : mN f [a, b] e = f [x, y] := by unfold mN; rw [mArgs, h, bind_ok, mArgs, h']; rfl
theorem lst1 {a : E} {e : Mi.Env} {x : D} (h : a e = .ok x) : mN dLst [a] e = .ok (.lst [x]) := by
  rw [n1_ok h]
  exact guardR_pos (by simp)
theorem tup2 {a b : E} {e : Mi.Env} {x y : D} (h : a e = .ok x) (h' : b e = .ok y) : mN dTup [a, b] e = .ok (.tup [x, y]) := by
  rw [n2_ok h h']
  exact guardR_pos (by simp)
theorem call1 {f : Fn} {a : EW} {e : Mi.Env} {x : W} {d : D} (h : a e = .ok x) (hf : f [x] = .ok (.d d)) : mCall f [a] e = .ok d := by unfold mCall wCall; rw [mArgsW, h]; simp only [bind_ok, mArgsW, hf, asD_d]
theorem call2 {f : Fn} {a b : EW} {e : Mi.Env} {x y : W} {d : D} (h : a e = .ok x) (h' : b e = .ok y) (hf : f [x, y] = .ok (.d d)) : mCall f [a, b] e = .ok d := by unfold mCall wCall; rw [mArgsW, h, bind_ok, mArgsW, h']; simp only [bind_ok, mArgsW, hf, asD_d]
theorem call3 {f : Fn} {a b c : EW} {e : Mi.Env} {x y z : W} {d : D} (h : a e = .ok x) (h' : b e = .ok y) (h'' : c e = .ok z) (hf : f [x, y, z] = .ok (.d d)) : mCall f [a, b, c] e = .ok d := by unfold mCall wCall; rw [mArgsW, h, bind_ok, mArgsW, h', bind_ok, mArgsW, h'']; simp only [bind_ok, mArgsW, hf, asD_d]
theorem callI2 {f : Fn} {a b : EW} {e : Mi.Env} {x y : W} {d : D} (h : a e = .ok x) (h' : b e = .ok y) (hf : f [x, y] = .ok (.d d)) (hi : imm d = true) : mCallI f [a, b] e = .ok d := by unfold mCallI wCall; rw [mArgsW, h, bind_ok, mArgsW, h']; simp only [bind_ok, mArgsW, hf, asImm_d, guardR_pos hi]
/-- a comprehension whose parts are known -/
theorem comp_map {α : Type} {tg : Tg} {c : C} {a : E} {e : Mi.Env} (f g : α → D) (p : α → Bool) : ∀ (xs : List α), (∀ x ∈ xs, ∃ e1, tg.put (f x) e = .ok e1 ∧ c e1 = .ok (p x) ∧ (p x = true → a e1 = .ok (g x))) → compD tg c a e (xs.map f) = .ok ((xs.filter p).map g)
  | [], _ => rfl
  | x :: r, h => by
    obtain ⟨e1, h1, h2, h3⟩ := h x List.mem_cons_self
    have ih := comp_map (tg := tg) (c := c) (a := a) (e := e) f g p r fun y hy => h y (List.mem_cons_of_mem _ hy)
    rw [List.map_cons, compD, h1, bind_ok, h2, bind_ok]
    cases hp : p x with
    | true => rw [if_pos rfl, h3 hp, bind_ok, ih, bind_ok, List.filter_cons_of_pos hp]; rfl
    | false => rw [if_neg Bool.false_ne_true, ih, List.filter_cons_of_neg (by rw [hp]; exact Bool.false_ne_true)]
/-- a loop without an end of its own, by an invariant -/
theorem for_inv {tg : Tg} {body : S} (Inv : Nat → Mi.Env → Prop) : ∀ (xs : List D) (k : Nat), (∀ i x e, xs[i]? = some x → Inv (k + i) e → ∃ e1 e2, tg.put x e = .ok e1 ∧ body e1 = .ok (.nx e2) ∧ Inv (k + i + 1) e2) → ∀ e, Inv k e → ∃ e', forD tg body xs e = .ok (.nx e') ∧ Inv (k + xs.length) e'
  | [], k, _, e, h => ⟨e, rfl, h⟩
  | x :: r, k, hs, e, h => by
    obtain ⟨e1, e2, h1, h2, h3⟩ := hs 0 x e rfl h
    obtain ⟨e', h4, h5⟩ := for_inv Inv r (k + 1) (fun i y e hy hi => by
      have := hs (i + 1) y e (by simpa using hy) (by rw [show k + (i + 1) = k + 1 + i by omega]; exact hi)
      rw [show k + (i + 1) + 1 = k + 1 + i + 1 by omega] at this
      exact this) e2 h3
    refine ⟨e', ?_, by rw [List.length_cons, show k + (r.length + 1) = k + 1 + r.length by omega]; exact h5⟩
    rw [forD, h1, bind_ok, h2, bind_ok]
    exact h4
/-- a loop that goes round without leaving anything but its name -/
theorem for_skip {α : Type} {tg : Tg} {body : S} {e : Mi.Env} {w : Out} (f : α → D) (st : Option α → Mi.Env) (p : α → Bool) (out : α → Out) : ∀ (xs : List α) (o : Option α),
    (∀ x ∈ xs, ∀ o, ∃ e1, tg.put (f x) (st o) = .ok e1 ∧ body e1 = .ok (if p x = true then out x else .nx (st (some x)))) →
    (∀ x ∈ xs, p x = true → ∃ w, out x = .rt w) →
    forD tg body (xs.map f) (st o) = .ok (match xs.find? p with | some x => out x | none => .nx (st (xs.getLast?.or o)))
  | [], o, _, _ => by cases o <;> rfl
  | x :: r, o, h, ho => by
    obtain ⟨e1, h1, h2⟩ := h x List.mem_cons_self o
    rw [List.map_cons, forD, h1, bind_ok, h2, bind_ok]
    cases hp : p x with
    | true =>
      obtain ⟨w, hw⟩ := ho x List.mem_cons_self hp
      rw [List.find?_cons_of_pos hp]
      simp only [if_true, hw]
    | false =>
      rw [List.find?_cons_of_neg (by rw [hp]; exact Bool.false_ne_true)]
      have ih := for_skip (e := e) (w := w) f st p out r (some x) (fun y hy => h y (List.mem_cons_of_mem _ hy)) fun y hy => ho y (List.mem_cons_of_mem _ hy)
      simp only [Bool.false_eq_true, if_false]
      rw [ih]
      have : (r.getLast?.or (some x)) = ((x :: r).getLast?.or o) := by
        cases r with
        | nil => rfl
        | cons y t => simp [List.getLast?_cons]
      rw [this]
end Mi

set_option linter.all false
namespace Mr
open PySem Mi
/-! ### nets -/
abbrev Ar := Str × Str
def pairD (p : Ar) : D := .tup [.str p.1, .str p.2]
def nmD (names : List Str) : D := .tup (names.map D.str)
def arD (arrows : List Ar) : D := .tup (arrows.map pairD)
def netD (names : List Str) (arrows : List Ar) : D := .tup [nmD names, arD arrows]
def strL (xs : List Str) : D := .lst (xs.map D.str)
theorem at0 {α : Type} (a : α) (r : List α) : atI (a :: r) 0 = some a := by simp [atI, ixN]
theorem at1 {α : Type} (a b : α) (r : List α) : atI (a :: b :: r) 1 = some b := by
  unfold atI ixN
  rw [if_pos (by decide), if_pos (by simp only [List.length_cons]; omega)]; rfl
theorem ix0 (names : List Str) (arrows : List Ar) : dIx (netD names arrows) (.int 0) = .ok (nmD names) := by
  unfold netD dIx
  simp [at0]
theorem ix1 (names : List Str) (arrows : List Ar) : dIx (netD names arrows) (.int 1) = .ok (arD arrows) := by
  unfold netD dIx
  simp [at1]
theorem refuse_ok {names asked : List Str} (h : ∀ x ∈ asked, x ∈ names) : m_refuse_strangers [.d (nmD names), .d (strL asked)] = .ok (.d .non) := by
  have key : ∀ (xs : List Str) (o : Option W), (∀ x ∈ xs, x ∈ names) → ∃ o', forD (.n 2) (sIf (cB (m2 dNotIn (mV 2) (mV 0))) sNever sNext) (xs.map D.str) [some (.d (nmD names)), some (.d (strL asked)), o] = .ok (.nx [some (.d (nmD names)), some (.d (strL asked)), o']) := by
    intro xs
    induction xs with
    | nil => exact fun o _ => ⟨o, rfl⟩
    | cons x r ih =>
      intro o hx
      obtain ⟨o', e⟩ := ih (some (.d (.str x))) fun y hy => hx y (List.mem_cons_of_mem _ hy)
      refine ⟨o', ?_⟩
      rw [List.map_cons, forD]
      have : x ∈ names := hx x List.mem_cons_self
      simp only [gle0, gle1, gle2, gle3, gle4, gle5, gle6, gle7, gle8, mV, m1, m2, mN, mArgs, mC, mAnd, mOr, mNot, mIfE, mChain, mPart, mSlF, cB, cAnd, cOr, cNot, cTru, cYes, iOf, iRange1, iRange2, iEnum, iZip2, iZip3, sSeq, sSet, sSetW, sPut, sDrop, sRet, sRetN, sIf, sFor, sWhile, sNext, sAppend, sExtend, sReverse, sClear, sPop, sPopAt, sAppendPop, sSetAt, sMove, sDPut, mDIn, mDNotIn, mDGet, wD, wV, mArgsW, wCall, mCall, mCallI, dTup, dLst, add_ii, add_ss, add_ll, cat_ll, sub_ii, mul_ii, div_ii, mod_ii, lt_ii, gt_ii, le_ii, ge_ii, neg_i, is_n, isnot_n, non_n, non_s, non_l, non_t, len_l, len_t, len_s, max_ii, min_ii, all_l, any_l, list_l, list_t, tuple_l, tuple_t, int_i, int_b, sl_l, sl_s, slL_l, items_l, items_t, litems_l, asB_b, asI_i, asD_d, asImm_d, tru_l, tru_t, put_n, put_t, all_nil, all_cons, out_rt, out_nx, outN_rt, ty_l, ty_s, ty_t, ty_i, ty_b, bIs, getL, putL, bind_ok, ofO_some, fnM1, fnM2, fnM3, fnM4, fnN1, fnN2, fnN3, fnN4, List.map_cons, List.map_nil, List.length_cons, List.length_nil, List.cons_append, List.nil_append, List.replicate_succ, List.replicate_zero, List.getElem?_cons_zero, List.getElem?_cons_succ, List.set_cons_zero, List.set_cons_succ, Nat.reduceSub, Nat.reduceAdd, Nat.zero_add, nmD, dNotInT_str, this, decide_true, Bool.not_true, Bool.false_eq_true, if_false]
      exact e
  obtain ⟨o', e⟩ := key asked none h
  unfold strL at e
  unfold m_refuse_strangers b_refuse_strangers
  rw [fnM2]
  simp only [gle0, gle1, gle2, gle3, gle4, gle5, gle6, gle7, gle8, mV, m1, m2, mN, mArgs, mC, mAnd, mOr, mNot, mIfE, mChain, mPart, mSlF, cB, cAnd, cOr, cNot, cTru, cYes, iOf, iRange1, iRange2, iEnum, iZip2, iZip3, sSeq, sSet, sSetW, sPut, sDrop, sRet, sRetN, sIf, sFor, sWhile, sNext, sAppend, sExtend, sReverse, sClear, sPop, sPopAt, sAppendPop, sSetAt, sMove, sDPut, mDIn, mDNotIn, mDGet, wD, wV, mArgsW, wCall, mCall, mCallI, dTup, dLst, add_ii, add_ss, add_ll, cat_ll, sub_ii, mul_ii, div_ii, mod_ii, lt_ii, gt_ii, le_ii, ge_ii, neg_i, is_n, isnot_n, non_n, non_s, non_l, non_t, len_l, len_t, len_s, max_ii, min_ii, all_l, any_l, list_l, list_t, tuple_l, tuple_t, int_i, int_b, sl_l, sl_s, slL_l, items_l, items_t, litems_l, asB_b, asI_i, asD_d, asImm_d, tru_l, tru_t, put_n, put_t, all_nil, all_cons, out_rt, out_nx, outN_rt, ty_l, ty_s, ty_t, ty_i, ty_b, bIs, getL, putL, bind_ok, ofO_some, fnM1, fnM2, fnM3, fnM4, fnN1, fnN2, fnN3, fnN4, List.map_cons, List.map_nil, List.length_cons, List.length_nil, List.cons_append, List.nil_append, List.replicate_succ, List.replicate_zero, List.getElem?_cons_zero, List.getElem?_cons_succ, List.set_cons_zero, List.set_cons_succ, Nat.reduceSub, Nat.reduceAdd, Nat.zero_add, strL, e]
/-! ### elders -/
def elders (arrows : List Ar) (x : Str) : List Str := (arrows.filter fun p => decide (p.2 = x)).map (·.1)
theorem elders_ok {names : List Str} {arrows : List Ar} {x : Str} (hx : x ∈ names) (hl : arrows.length ≤ 64) : m_elders_of [.d (netD names arrows), .d (.str x)] = .ok (.d (.tup ((elders arrows x).map D.str))) := by
  have hr := refuse_ok (names := names) (asked := [x]) (by simpa using hx)
  unfold m_elders_of b_elders_of
  rw [fnM2]
  have hc : compD (.t [1, 2]) (cB (m2 dEq (mV 2) (mV 0))) (mV 1) [some (.d (.str x)), none, none] (arrows.map pairD) = .ok ((arrows.filter fun p => decide (p.2 = x)).map fun p => D.str p.1) :=
    comp_map pairD (fun p => D.str p.1) (fun p => decide (p.2 = x)) arrows fun p _ => ⟨[some (.d (.str x)), some (.d (.str p.1)), some (.d (.str p.2))], rfl, by simp only [gle0, gle1, gle2, gle3, gle4, gle5, gle6, gle7, gle8, mV, m1, m2, mN, mArgs, mC, mAnd, mOr, mNot, mIfE, mChain, mPart, mSlF, cB, cAnd, cOr, cNot, cTru, cYes, iOf, iRange1, iRange2, iEnum, iZip2, iZip3, sSeq, sSet, sSetW, sPut, sDrop, sRet, sRetN, sIf, sFor, sWhile, sNext, sAppend, sExtend, sReverse, sClear, sPop, sPopAt, sAppendPop, sSetAt, sMove, sDPut, mDIn, mDNotIn, mDGet, wD, wV, mArgsW, wCall, mCall, mCallI, dTup, dLst, add_ii, add_ss, add_ll, cat_ll, sub_ii, mul_ii, div_ii, mod_ii, lt_ii, gt_ii, le_ii, ge_ii, neg_i, is_n, isnot_n, non_n, non_s, non_l, non_t, len_l, len_t, len_s, max_ii, min_ii, all_l, any_l, list_l, list_t, tuple_l, tuple_t, int_i, int_b, sl_l, sl_s, slL_l, items_l, items_t, litems_l, asB_b, asI_i, asD_d, asImm_d, tru_l, tru_t, put_n, put_t, all_nil, all_cons, out_rt, out_nx, outN_rt, ty_l, ty_s, ty_t, ty_i, ty_b, bIs, getL, putL, bind_ok, ofO_some, fnM1, fnM2, fnM3, fnM4, fnN1, fnN2, fnN3, fnN4, List.map_cons, List.map_nil, List.length_cons, List.length_nil, List.cons_append, List.nil_append, List.replicate_succ, List.replicate_zero, List.getElem?_cons_zero, List.getElem?_cons_succ, List.set_cons_zero, List.set_cons_succ, Nat.reduceSub, Nat.reduceAdd, Nat.zero_add, dEq_str], fun _ => by simp only [gle0, gle1, gle2, gle3, gle4, gle5, gle6, gle7, gle8, mV, m1, m2, mN, mArgs, mC, mAnd, mOr, mNot, mIfE, mChain, mPart, mSlF, cB, cAnd, cOr, cNot, cTru, cYes, iOf, iRange1, iRange2, iEnum, iZip2, iZip3, sSeq, sSet, sSetW, sPut, sDrop, sRet, sRetN, sIf, sFor, sWhile, sNext, sAppend, sExtend, sReverse, sClear, sPop, sPopAt, sAppendPop, sSetAt, sMove, sDPut, mDIn, mDNotIn, mDGet, wD, wV, mArgsW, wCall, mCall, mCallI, dTup, dLst, add_ii, add_ss, add_ll, cat_ll, sub_ii, mul_ii, div_ii, mod_ii, lt_ii, gt_ii, le_ii, ge_ii, neg_i, is_n, isnot_n, non_n, non_s, non_l, non_t, len_l, len_t, len_s, max_ii, min_ii, all_l, any_l, list_l, list_t, tuple_l, tuple_t, int_i, int_b, sl_l, sl_s, slL_l, items_l, items_t, litems_l, asB_b, asI_i, asD_d, asImm_d, tru_l, tru_t, put_n, put_t, all_nil, all_cons, out_rt, out_nx, outN_rt, ty_l, ty_s, ty_t, ty_i, ty_b, bIs, getL, putL, bind_ok, ofO_some, fnM1, fnM2, fnM3, fnM4, fnN1, fnN2, fnN3, fnN4, List.map_cons, List.map_nil, List.length_cons, List.length_nil, List.cons_append, List.nil_append, List.replicate_succ, List.replicate_zero, List.getElem?_cons_zero, List.getElem?_cons_succ, List.set_cons_zero, List.set_cons_succ, Nat.reduceSub, Nat.reduceAdd, Nat.zero_add]⟩
  have hg : guardR (([D.str x] : List D).length ≤ 16777216) (Rs.ok (D.lst [D.str x])) = .ok (.lst [.str x]) := guardR_pos (by simp)
  unfold strL at hr
  have hp : pickE [some 1, none, none] [some (W.d (netD names arrows)), some (W.d (D.str x))] = [some (.d (.str x)), none, none] := rfl
  simp only [gle0, gle1, gle2, gle3, gle4, gle5, gle6, gle7, gle8, mV, m1, m2, mN, mArgs, mC, mAnd, mOr, mNot, mIfE, mChain, mPart, mSlF, cB, cAnd, cOr, cNot, cTru, cYes, iOf, iRange1, iRange2, iEnum, iZip2, iZip3, sSeq, sSet, sSetW, sPut, sDrop, sRet, sRetN, sIf, sFor, sWhile, sNext, sAppend, sExtend, sReverse, sClear, sPop, sPopAt, sAppendPop, sSetAt, sMove, sDPut, mDIn, mDNotIn, mDGet, wD, wV, mArgsW, wCall, mCall, mCallI, dTup, dLst, add_ii, add_ss, add_ll, cat_ll, sub_ii, mul_ii, div_ii, mod_ii, lt_ii, gt_ii, le_ii, ge_ii, neg_i, is_n, isnot_n, non_n, non_s, non_l, non_t, len_l, len_t, len_s, max_ii, min_ii, all_l, any_l, list_l, list_t, tuple_l, tuple_t, int_i, int_b, sl_l, sl_s, slL_l, items_l, items_t, litems_l, asB_b, asI_i, asD_d, asImm_d, tru_l, tru_t, put_n, put_t, all_nil, all_cons, out_rt, out_nx, outN_rt, ty_l, ty_s, ty_t, ty_i, ty_b, bIs, getL, putL, bind_ok, ofO_some, fnM1, fnM2, fnM3, fnM4, fnN1, fnN2, fnN3, fnN4, List.map_cons, List.map_nil, List.length_cons, List.length_nil, List.cons_append, List.nil_append, List.replicate_succ, List.replicate_zero, List.getElem?_cons_zero, List.getElem?_cons_succ, List.set_cons_zero, List.set_cons_succ, Nat.reduceSub, Nat.reduceAdd, Nat.zero_add] at hg
  simp only [gle0, gle1, gle2, gle3, gle4, gle5, gle6, gle7, gle8, mV, m1, m2, mN, mArgs, mC, mAnd, mOr, mNot, mIfE, mChain, mPart, mSlF, cB, cAnd, cOr, cNot, cTru, cYes, iOf, iRange1, iRange2, iEnum, iZip2, iZip3, sSeq, sSet, sSetW, sPut, sDrop, sRet, sRetN, sIf, sFor, sWhile, sNext, sAppend, sExtend, sReverse, sClear, sPop, sPopAt, sAppendPop, sSetAt, sMove, sDPut, mDIn, mDNotIn, mDGet, wD, wV, mArgsW, wCall, mCall, mCallI, dTup, dLst, add_ii, add_ss, add_ll, cat_ll, sub_ii, mul_ii, div_ii, mod_ii, lt_ii, gt_ii, le_ii, ge_ii, neg_i, is_n, isnot_n, non_n, non_s, non_l, non_t, len_l, len_t, len_s, max_ii, min_ii, all_l, any_l, list_l, list_t, tuple_l, tuple_t, int_i, int_b, sl_l, sl_s, slL_l, items_l, items_t, litems_l, asB_b, asI_i, asD_d, asImm_d, tru_l, tru_t, put_n, put_t, all_nil, all_cons, out_rt, out_nx, outN_rt, ty_l, ty_s, ty_t, ty_i, ty_b, bIs, getL, putL, bind_ok, ofO_some, fnM1, fnM2, fnM3, fnM4, fnN1, fnN2, fnN3, fnN4, List.map_cons, List.map_nil, List.length_cons, List.length_nil, List.cons_append, List.nil_append, List.replicate_succ, List.replicate_zero, List.getElem?_cons_zero, List.getElem?_cons_succ, List.set_cons_zero, List.set_cons_succ, Nat.reduceSub, Nat.reduceAdd, Nat.zero_add, ix0, ix1, hg, List.map_cons, List.map_nil] at hr ⊢
  rw [hr]
  simp only [gle0, gle1, gle2, gle3, gle4, gle5, gle6, gle7, gle8, mV, m1, m2, mN, mArgs, mC, mAnd, mOr, mNot, mIfE, mChain, mPart, mSlF, cB, cAnd, cOr, cNot, cTru, cYes, iOf, iRange1, iRange2, iEnum, iZip2, iZip3, sSeq, sSet, sSetW, sPut, sDrop, sRet, sRetN, sIf, sFor, sWhile, sNext, sAppend, sExtend, sReverse, sClear, sPop, sPopAt, sAppendPop, sSetAt, sMove, sDPut, mDIn, mDNotIn, mDGet, wD, wV, mArgsW, wCall, mCall, mCallI, dTup, dLst, add_ii, add_ss, add_ll, cat_ll, sub_ii, mul_ii, div_ii, mod_ii, lt_ii, gt_ii, le_ii, ge_ii, neg_i, is_n, isnot_n, non_n, non_s, non_l, non_t, len_l, len_t, len_s, max_ii, min_ii, all_l, any_l, list_l, list_t, tuple_l, tuple_t, int_i, int_b, sl_l, sl_s, slL_l, items_l, items_t, litems_l, asB_b, asI_i, asD_d, asImm_d, tru_l, tru_t, put_n, put_t, all_nil, all_cons, out_rt, out_nx, outN_rt, ty_l, ty_s, ty_t, ty_i, ty_b, bIs, getL, putL, bind_ok, ofO_some, fnM1, fnM2, fnM3, fnM4, fnN1, fnN2, fnN3, fnN4, List.map_cons, List.map_nil, List.length_cons, List.length_nil, List.cons_append, List.nil_append, List.replicate_succ, List.replicate_zero, List.getElem?_cons_zero, List.getElem?_cons_succ, List.set_cons_zero, List.set_cons_succ, Nat.reduceSub, Nat.reduceAdd, Nat.zero_add, mComp, ix1, arD, hp]
  rw [guardR_pos (by rw [List.length_map]; omega), hc]
  simp only [gle0, gle1, gle2, gle3, gle4, gle5, gle6, gle7, gle8, mV, m1, m2, mN, mArgs, mC, mAnd, mOr, mNot, mIfE, mChain, mPart, mSlF, cB, cAnd, cOr, cNot, cTru, cYes, iOf, iRange1, iRange2, iEnum, iZip2, iZip3, sSeq, sSet, sSetW, sPut, sDrop, sRet, sRetN, sIf, sFor, sWhile, sNext, sAppend, sExtend, sReverse, sClear, sPop, sPopAt, sAppendPop, sSetAt, sMove, sDPut, mDIn, mDNotIn, mDGet, wD, wV, mArgsW, wCall, mCall, mCallI, dTup, dLst, add_ii, add_ss, add_ll, cat_ll, sub_ii, mul_ii, div_ii, mod_ii, lt_ii, gt_ii, le_ii, ge_ii, neg_i, is_n, isnot_n, non_n, non_s, non_l, non_t, len_l, len_t, len_s, max_ii, min_ii, all_l, any_l, list_l, list_t, tuple_l, tuple_t, int_i, int_b, sl_l, sl_s, slL_l, items_l, items_t, litems_l, asB_b, asI_i, asD_d, asImm_d, tru_l, tru_t, put_n, put_t, all_nil, all_cons, out_rt, out_nx, outN_rt, ty_l, ty_s, ty_t, ty_i, ty_b, bIs, getL, putL, bind_ok, ofO_some, fnM1, fnM2, fnM3, fnM4, fnN1, fnN2, fnN3, fnN4, List.map_cons, List.map_nil, List.length_cons, List.length_nil, List.cons_append, List.nil_append, List.replicate_succ, List.replicate_zero, List.getElem?_cons_zero, List.getElem?_cons_succ, List.set_cons_zero, List.set_cons_succ, Nat.reduceSub, Nat.reduceAdd, Nat.zero_add, elders, List.map_map]
  rfl
/-! ### first_ready, in_turn -/
def ready (arrows : List Ar) (told : List Str) (x : Str) : Bool := !decide (x ∈ told) && (elders arrows x).all fun y => decide (y ∈ told)
def nxt (names : List Str) (arrows : List Ar) (told : List Str) : Option Str := names.find? (ready arrows told)
def optD : Option Str → D
  | some x => .str x
  | none => .non
theorem optD_some (x : Str) : optD (some x) = .str x := rfl
theorem optD_none : optD none = .non := rfl
theorem elders_len {arrows : List Ar} {x : Str} (hl : arrows.length ≤ 64) : (elders arrows x).length ≤ 64 := by
  unfold elders
  rw [List.length_map]
  exact Nat.le_trans (List.length_filter_le _ _) hl
theorem first_ready_ok {names : List Str} {arrows : List Ar} (hl : arrows.length ≤ 64) (told : List Str) : m_first_ready [.d (netD names arrows), .d (strL told)] = .ok (.d (optD (nxt names arrows told))) := by
  unfold m_first_ready b_first_ready
  rw [fnM2]
  have step : ∀ x ∈ names, ∀ o : Option Str, ∃ e1, (Tg.n 2).put (D.str x) [some (.d (netD names arrows)), some (.d (strL told)), o.map fun y => W.d (.str y)] = .ok e1 ∧
      (sIf (cAnd (cB (m2 dNotIn (mV 2) (mV 1))) (cB (mN bAll [(mComp [some 1, none] (iOf (mCall m_elders_of [(wD (mV 0)), (wD (mV 2))])) (.n 1) cYes (m2 dIn (mV 1) (mV 0)))]))) (sRet (wD (mV 2))) sNext) e1 =
        .ok (if ready arrows told x = true then .rt (.d (.str x)) else .nx [some (.d (netD names arrows)), some (.d (strL told)), (some x).map fun y => W.d (.str y)]) := by
    intro x hx o
    refine ⟨[some (.d (netD names arrows)), some (.d (strL told)), some (.d (.str x))], rfl, ?_⟩
    have hc : compD (.n 1) cYes (m2 dIn (mV 1) (mV 0)) [some (.d (strL told)), none] ((elders arrows x).map D.str) = .ok (((elders arrows x).filter fun _ => true).map fun y => D.bl (decide (y ∈ told))) :=
      comp_map D.str (fun y => D.bl (decide (y ∈ told))) (fun _ => true) _ fun y _ => ⟨[some (.d (strL told)), some (.d (.str y))], rfl, rfl, fun _ => by simp only [gle0, gle1, gle2, gle3, gle4, gle5, gle6, gle7, gle8, mV, m1, m2, mN, mArgs, mC, mAnd, mOr, mNot, mIfE, mChain, mPart, mSlF, cB, cAnd, cOr, cNot, cTru, cYes, iOf, iRange1, iRange2, iEnum, iZip2, iZip3, sSeq, sSet, sSetW, sPut, sDrop, sRet, sRetN, sIf, sFor, sWhile, sNext, sAppend, sExtend, sReverse, sClear, sPop, sPopAt, sAppendPop, sSetAt, sMove, sDPut, mDIn, mDNotIn, mDGet, wD, wV, mArgsW, wCall, mCall, mCallI, dTup, dLst, add_ii, add_ss, add_ll, cat_ll, sub_ii, mul_ii, div_ii, mod_ii, lt_ii, gt_ii, le_ii, ge_ii, neg_i, is_n, isnot_n, non_n, non_s, non_l, non_t, len_l, len_t, len_s, max_ii, min_ii, all_l, any_l, list_l, list_t, tuple_l, tuple_t, int_i, int_b, sl_l, sl_s, slL_l, items_l, items_t, litems_l, asB_b, asI_i, asD_d, asImm_d, tru_l, tru_t, put_n, put_t, all_nil, all_cons, out_rt, out_nx, outN_rt, ty_l, ty_s, ty_t, ty_i, ty_b, bIs, getL, putL, bind_ok, ofO_some, fnM1, fnM2, fnM3, fnM4, fnN1, fnN2, fnN3, fnN4, List.map_cons, List.map_nil, List.length_cons, List.length_nil, List.cons_append, List.nil_append, List.replicate_succ, List.replicate_zero, List.getElem?_cons_zero, List.getElem?_cons_succ, List.set_cons_zero, List.set_cons_succ, Nat.reduceSub, Nat.reduceAdd, Nat.zero_add, strL, dIn_str]⟩
    have hf : ((elders arrows x).filter fun _ => true) = elders arrows x := List.filter_eq_self.mpr fun _ _ => rfl
    rw [hf] at hc
    have hp : pickE [some 1, none] [some (W.d (netD names arrows)), some (W.d (strL told)), some (W.d (D.str x))] = [some (.d (strL told)), none] := rfl
    have hn : dNotIn (.str x) (strL told) = .ok (.bl (!decide (x ∈ told))) := dNotIn_str told x
    simp only [gle0, gle1, gle2, gle3, gle4, gle5, gle6, gle7, gle8, mV, m1, m2, mN, mArgs, mC, mAnd, mOr, mNot, mIfE, mChain, mPart, mSlF, cB, cAnd, cOr, cNot, cTru, cYes, iOf, iRange1, iRange2, iEnum, iZip2, iZip3, sSeq, sSet, sSetW, sPut, sDrop, sRet, sRetN, sIf, sFor, sWhile, sNext, sAppend, sExtend, sReverse, sClear, sPop, sPopAt, sAppendPop, sSetAt, sMove, sDPut, mDIn, mDNotIn, mDGet, wD, wV, mArgsW, wCall, mCall, mCallI, dTup, dLst, add_ii, add_ss, add_ll, cat_ll, sub_ii, mul_ii, div_ii, mod_ii, lt_ii, gt_ii, le_ii, ge_ii, neg_i, is_n, isnot_n, non_n, non_s, non_l, non_t, len_l, len_t, len_s, max_ii, min_ii, all_l, any_l, list_l, list_t, tuple_l, tuple_t, int_i, int_b, sl_l, sl_s, slL_l, items_l, items_t, litems_l, asB_b, asI_i, asD_d, asImm_d, tru_l, tru_t, put_n, put_t, all_nil, all_cons, out_rt, out_nx, outN_rt, ty_l, ty_s, ty_t, ty_i, ty_b, bIs, getL, putL, bind_ok, ofO_some, fnM1, fnM2, fnM3, fnM4, fnN1, fnN2, fnN3, fnN4, List.map_cons, List.map_nil, List.length_cons, List.length_nil, List.cons_append, List.nil_append, List.replicate_succ, List.replicate_zero, List.getElem?_cons_zero, List.getElem?_cons_succ, List.set_cons_zero, List.set_cons_succ, Nat.reduceSub, Nat.reduceAdd, Nat.zero_add, hn]
    unfold ready
    cases hm : decide (x ∈ told) with
    | true => rfl
    | false =>
      simp only [Bool.not_false, if_true, gle0, gle1, gle2, gle3, gle4, gle5, gle6, gle7, gle8, mV, m1, m2, mN, mArgs, mC, mAnd, mOr, mNot, mIfE, mChain, mPart, mSlF, cB, cAnd, cOr, cNot, cTru, cYes, iOf, iRange1, iRange2, iEnum, iZip2, iZip3, sSeq, sSet, sSetW, sPut, sDrop, sRet, sRetN, sIf, sFor, sWhile, sNext, sAppend, sExtend, sReverse, sClear, sPop, sPopAt, sAppendPop, sSetAt, sMove, sDPut, mDIn, mDNotIn, mDGet, wD, wV, mArgsW, wCall, mCall, mCallI, dTup, dLst, add_ii, add_ss, add_ll, cat_ll, sub_ii, mul_ii, div_ii, mod_ii, lt_ii, gt_ii, le_ii, ge_ii, neg_i, is_n, isnot_n, non_n, non_s, non_l, non_t, len_l, len_t, len_s, max_ii, min_ii, all_l, any_l, list_l, list_t, tuple_l, tuple_t, int_i, int_b, sl_l, sl_s, slL_l, items_l, items_t, litems_l, asB_b, asI_i, asD_d, asImm_d, tru_l, tru_t, put_n, put_t, all_nil, all_cons, out_rt, out_nx, outN_rt, ty_l, ty_s, ty_t, ty_i, ty_b, bIs, getL, putL, bind_ok, ofO_some, fnM1, fnM2, fnM3, fnM4, fnN1, fnN2, fnN3, fnN4, List.map_cons, List.map_nil, List.length_cons, List.length_nil, List.cons_append, List.nil_append, List.replicate_succ, List.replicate_zero, List.getElem?_cons_zero, List.getElem?_cons_succ, List.set_cons_zero, List.set_cons_succ, Nat.reduceSub, Nat.reduceAdd, Nat.zero_add, mComp, elders_ok hx hl, hp]
      rw [guardR_pos (by rw [List.length_map]; have := elders_len (x := x) hl; omega), hc]
      simp only [gle0, gle1, gle2, gle3, gle4, gle5, gle6, gle7, gle8, mV, m1, m2, mN, mArgs, mC, mAnd, mOr, mNot, mIfE, mChain, mPart, mSlF, cB, cAnd, cOr, cNot, cTru, cYes, iOf, iRange1, iRange2, iEnum, iZip2, iZip3, sSeq, sSet, sSetW, sPut, sDrop, sRet, sRetN, sIf, sFor, sWhile, sNext, sAppend, sExtend, sReverse, sClear, sPop, sPopAt, sAppendPop, sSetAt, sMove, sDPut, mDIn, mDNotIn, mDGet, wD, wV, mArgsW, wCall, mCall, mCallI, dTup, dLst, add_ii, add_ss, add_ll, cat_ll, sub_ii, mul_ii, div_ii, mod_ii, lt_ii, gt_ii, le_ii, ge_ii, neg_i, is_n, isnot_n, non_n, non_s, non_l, non_t, len_l, len_t, len_s, max_ii, min_ii, all_l, any_l, list_l, list_t, tuple_l, tuple_t, int_i, int_b, sl_l, sl_s, slL_l, items_l, items_t, litems_l, asB_b, asI_i, asD_d, asImm_d, tru_l, tru_t, put_n, put_t, all_nil, all_cons, out_rt, out_nx, outN_rt, ty_l, ty_s, ty_t, ty_i, ty_b, bIs, getL, putL, bind_ok, ofO_some, fnM1, fnM2, fnM3, fnM4, fnN1, fnN2, fnN3, fnN4, List.map_cons, List.map_nil, List.length_cons, List.length_nil, List.cons_append, List.nil_append, List.replicate_succ, List.replicate_zero, List.getElem?_cons_zero, List.getElem?_cons_succ, List.set_cons_zero, List.set_cons_succ, Nat.reduceSub, Nat.reduceAdd, Nat.zero_add, asBs_map, List.all_map, Bool.true_and]
      have : (List.all (elders arrows x) (id ∘ fun y => decide (y ∈ told))) = (elders arrows x).all fun y => decide (y ∈ told) := rfl
      rw [this]
      cases (elders arrows x).all fun y => decide (y ∈ told) <;> rfl
  have hf := for_skip (e := []) (w := .rt (.d .non)) D.str (fun o => [some (.d (netD names arrows)), some (.d (strL told)), o.map fun y => W.d (.str y)]) (ready arrows told) (fun x => .rt (.d (.str x))) names none step fun x _ _ => ⟨_, rfl⟩
  simp only [Option.map_none] at hf
  simp only [gle0, gle1, gle2, gle3, gle4, gle5, gle6, gle7, gle8, mV, m1, m2, mN, mArgs, mC, mAnd, mOr, mNot, mIfE, mChain, mPart, mSlF, cB, cAnd, cOr, cNot, cTru, cYes, iOf, iRange1, iRange2, iEnum, iZip2, iZip3, sSeq, sSet, sSetW, sPut, sDrop, sRet, sRetN, sIf, sFor, sWhile, sNext, sAppend, sExtend, sReverse, sClear, sPop, sPopAt, sAppendPop, sSetAt, sMove, sDPut, mDIn, mDNotIn, mDGet, wD, wV, mArgsW, wCall, mCall, mCallI, dTup, dLst, add_ii, add_ss, add_ll, cat_ll, sub_ii, mul_ii, div_ii, mod_ii, lt_ii, gt_ii, le_ii, ge_ii, neg_i, is_n, isnot_n, non_n, non_s, non_l, non_t, len_l, len_t, len_s, max_ii, min_ii, all_l, any_l, list_l, list_t, tuple_l, tuple_t, int_i, int_b, sl_l, sl_s, slL_l, items_l, items_t, litems_l, asB_b, asI_i, asD_d, asImm_d, tru_l, tru_t, put_n, put_t, all_nil, all_cons, out_rt, out_nx, outN_rt, ty_l, ty_s, ty_t, ty_i, ty_b, bIs, getL, putL, bind_ok, ofO_some, fnM1, fnM2, fnM3, fnM4, fnN1, fnN2, fnN3, fnN4, List.map_cons, List.map_nil, List.length_cons, List.length_nil, List.cons_append, List.nil_append, List.replicate_succ, List.replicate_zero, List.getElem?_cons_zero, List.getElem?_cons_succ, List.set_cons_zero, List.set_cons_succ, Nat.reduceSub, Nat.reduceAdd, Nat.zero_add, ix0, nmD, hf]
  unfold nxt
  cases names.find? (ready arrows told) with
  | none => rfl
  | some x => rfl
/-- a net's own: no ring, no name twice -/
structure Net (names : List Str) (arrows : List Ar) : Prop where
  nd : names.Nodup
  pos : 1 ≤ names.length
  le : names.length ≤ 8
  al : arrows.length ≤ 64
  tl : ∀ p ∈ arrows, p.1 ∈ names
  rk : ∃ r : Str → Int, ∀ p ∈ arrows, r p.1 < r p.2
theorem mem_elders {arrows : List Ar} {x y : Str} : y ∈ elders arrows x ↔ (y, x) ∈ arrows := by
  unfold elders
  constructor
  · intro h
    obtain ⟨p, hp, rfl⟩ := List.mem_map.mp h
    obtain ⟨h1, h2⟩ := List.mem_filter.mp hp
    have : p.2 = x := by simpa using h2
    rw [← this]; exact h1
  · intro h
    exact List.mem_map.mpr ⟨(y, x), List.mem_filter.mpr ⟨h, by simp⟩, rfl⟩
theorem min_by {α : Type} (f : α → Int) : ∀ (l : List α), l ≠ [] → ∃ x ∈ l, ∀ y ∈ l, f x ≤ f y
  | [], h => absurd rfl h
  | [a], _ => ⟨a, by simp, by simp⟩
  | a :: b :: r, _ => by
    obtain ⟨x, hx, hm⟩ := min_by f (b :: r) (by simp)
    by_cases h : f a ≤ f x
    · refine ⟨a, List.mem_cons_self, fun y hy => ?_⟩
      rcases List.mem_cons.mp hy with rfl | hy
      · exact Int.le_refl _
      · exact Int.le_trans h (hm y hy)
    · refine ⟨x, List.mem_cons_of_mem _ hx, fun y hy => ?_⟩
      rcases List.mem_cons.mp hy with rfl | hy
      · omega
      · exact hm y hy
theorem Net.next {names : List Str} {arrows : List Ar} (N : Net names arrows) {told : List Str} (h : ∃ x ∈ names, x ∉ told) : ∃ x, nxt names arrows told = some x ∧ x ∈ names ∧ x ∉ told := by
  obtain ⟨r, hr⟩ := N.rk
  obtain ⟨x0, h1, h2⟩ := h
  obtain ⟨x, hx, hm⟩ := min_by r (names.filter fun x => !decide (x ∈ told)) (fun z => by
    have : x0 ∈ names.filter fun x => !decide (x ∈ told) := List.mem_filter.mpr ⟨h1, by simpa using h2⟩
    rw [z] at this; cases this)
  obtain ⟨hx1, hx2⟩ := List.mem_filter.mp hx
  have hx2 : x ∉ told := by simpa using hx2
  have rd : ready arrows told x = true := by
    unfold ready
    rw [Bool.and_eq_true]
    refine ⟨by simpa using hx2, List.all_eq_true.mpr fun y hy => ?_⟩
    have hy := mem_elders.mp hy
    by_cases hyt : y ∈ told
    · simpa using hyt
    · have := hm y (List.mem_filter.mpr ⟨N.tl _ hy, by simpa using hyt⟩)
      have := hr _ hy
      have : r y < r x := this
      omega
  unfold nxt
  cases hf : names.find? (ready arrows told) with
  | none => exact absurd rd (by simpa using List.find?_eq_none.mp hf x hx1)
  | some z =>
    have hz := List.find?_some hf
    refine ⟨z, rfl, List.mem_of_find?_eq_some hf, fun hzt => ?_⟩
    unfold ready at hz
    rw [Bool.and_eq_true] at hz
    simp [hzt] at hz
/-- the names told after k turns -/
def ord (names : List Str) (arrows : List Ar) : Nat → List Str
  | 0 => []
  | k + 1 => match nxt names arrows (ord names arrows k) with
    | some x => ord names arrows k ++ [x]
    | none => ord names arrows k
theorem nodup_sub_len {α : Type} [DecidableEq α] : ∀ {l m : List α}, l.Nodup → (∀ x ∈ l, x ∈ m) → l.length ≤ m.length
  | [], _, _, _ => Nat.zero_le _
  | a :: l, m, nd, h => by
    have nd := List.nodup_cons.mp nd
    have : l.length ≤ (m.erase a).length := nodup_sub_len nd.2 fun x hx => (List.mem_erase_of_ne (fun z : x = a => nd.1 (z ▸ hx))).mpr (h x (List.mem_cons_of_mem _ hx))
    have hm := h a List.mem_cons_self
    rw [List.length_erase_of_mem hm] at this
    have : 0 < m.length := List.length_pos_of_mem hm
    rw [List.length_cons]; omega
theorem Net.ord_ok {names : List Str} {arrows : List Ar} (N : Net names arrows) : ∀ k, k ≤ names.length → (ord names arrows k).length = k ∧ (ord names arrows k).Nodup ∧ (∀ x ∈ ord names arrows k, x ∈ names)
  | 0, _ => ⟨rfl, List.nodup_nil, by simp [ord]⟩
  | k + 1, h => by
    obtain ⟨h1, h2, h3⟩ := N.ord_ok k (by omega)
    have ex : ∃ x ∈ names, x ∉ ord names arrows k := by
      refine Classical.byContradiction fun z => ?_
      have hall : ∀ x ∈ names, x ∈ ord names arrows k := fun x hx => Classical.byContradiction fun y => z ⟨x, hx, y⟩
      have := nodup_sub_len N.nd hall
      omega
    obtain ⟨x, hx, hm, hn⟩ := N.next ex
    rw [ord, hx]
    refine ⟨by simp [h1], ?_, fun y hy => ?_⟩
    · rw [List.nodup_append]
      refine ⟨h2, by simp, fun a ha b hb => ?_⟩
      have : b = x := by simpa using hb
      subst this
      exact fun z => hn (z ▸ ha)
    · rcases List.mem_append.mp hy with hy | hy
      · exact h3 y hy
      · have : y = x := by simpa using hy
        rw [this]; exact hm
theorem Net.nxt_some {names : List Str} {arrows : List Ar} (N : Net names arrows) {k : Nat} (h : k < names.length) : ∃ x, nxt names arrows (ord names arrows k) = some x ∧ ord names arrows (k + 1) = ord names arrows k ++ [x] := by
  obtain ⟨h1, h2, h3⟩ := N.ord_ok k (by omega)
  have ex : ∃ x ∈ names, x ∉ ord names arrows k := by
    refine Classical.byContradiction fun z => ?_
    have hall : ∀ x ∈ names, x ∈ ord names arrows k := fun x hx => Classical.byContradiction fun y => z ⟨x, hx, y⟩
    have := nodup_sub_len N.nd hall
    omega
  obtain ⟨x, hx, _⟩ := N.next ex
  exact ⟨x, hx, by rw [ord, hx]⟩
theorem Net.ord_all {names : List Str} {arrows : List Ar} (N : Net names arrows) : ∀ x ∈ names, x ∈ ord names arrows names.length := fun x hx => by
  obtain ⟨h1, h2, h3⟩ := N.ord_ok names.length (Nat.le_refl _)
  refine Classical.byContradiction fun z => ?_
  have : (x :: ord names arrows names.length).length ≤ names.length := nodup_sub_len (List.nodup_cons.mpr ⟨z, h2⟩) fun y hy => by
    rcases List.mem_cons.mp hy with rfl | hy
    · exact hx
    · exact h3 y hy
  rw [List.length_cons] at this
  omega
theorem Net.nxt_none {names : List Str} {arrows : List Ar} (N : Net names arrows) : nxt names arrows (ord names arrows names.length) = none := by
  unfold nxt
  refine List.find?_eq_none.mpr fun x hx => ?_
  unfold ready
  simp [N.ord_all x hx]
theorem Net.ord_take {names : List Str} {arrows : List Ar} (N : Net names arrows) : ∀ {n k : Nat}, k ≤ n → n ≤ names.length → (ord names arrows n).take k = ord names arrows k
  | 0, k, h, _ => by obtain rfl : k = 0 := by omega
                     rfl
  | n + 1, k, h, hn => by
    obtain ⟨x, _, e⟩ := N.nxt_some (k := n) (by omega)
    have hl := (N.ord_ok n (by omega)).1
    rcases Nat.lt_or_ge k (n + 1) with hk | hk
    · rw [e, List.take_append_of_le_length (by omega)]
      exact N.ord_take (by omega) (by omega)
    · obtain rfl : k = n + 1 := by omega
      exact List.take_of_length_le (by rw [(N.ord_ok (n + 1) hn).1]; exact Nat.le_refl _)
theorem imm_opt (o : Option Str) : imm (optD o) = true := by cases o <;> simp [optD, imm]
theorem in_turn_ok {names : List Str} {arrows : List Ar} (N : Net names arrows) : m_in_turn [.d (netD names arrows)] = .ok (.d (strL (ord names arrows names.length))) := by
  have fr := fun told => first_ready_ok (names := names) N.al told
  have fr' : ∀ told : List Str, m_first_ready [.d (netD names arrows), .d (.lst (told.map D.str))] = .ok (.d (optD (nxt names arrows told))) := fr
  have key : ∀ (j k : Nat), k + j = names.length → ∃ o, whileD (cB (m2 dIsNot (mV 2) (mC .non))) (sSeq (sAppend 1 (mV 2)) (sSet 2 (mCallI m_first_ready [(wD (mV 0)), (wD (mV 1))]))) (j + 92)
      [some (.d (netD names arrows)), some (.d (strL (ord names arrows k))), some (.d (optD (nxt names arrows (ord names arrows k))))] = .ok (.nx [some (.d (netD names arrows)), some (.d (strL (ord names arrows names.length))), o]) := by
    intro j
    induction j with
    | zero =>
      intro k hk
      obtain rfl : k = names.length := by omega
      refine ⟨some (.d .non), ?_⟩
      rw [whileD, N.nxt_none]
      simp only [gle0, gle1, gle2, gle3, gle4, gle5, gle6, gle7, gle8, mV, m1, m2, mN, mArgs, mC, mAnd, mOr, mNot, mIfE, mChain, mPart, mSlF, cB, cAnd, cOr, cNot, cTru, cYes, iOf, iRange1, iRange2, iEnum, iZip2, iZip3, sSeq, sSet, sSetW, sPut, sDrop, sRet, sRetN, sIf, sFor, sWhile, sNext, sAppend, sExtend, sReverse, sClear, sPop, sPopAt, sAppendPop, sSetAt, sMove, sDPut, mDIn, mDNotIn, mDGet, wD, wV, mArgsW, wCall, mCall, mCallI, dTup, dLst, add_ii, add_ss, add_ll, cat_ll, sub_ii, mul_ii, div_ii, mod_ii, lt_ii, gt_ii, le_ii, ge_ii, neg_i, is_n, isnot_n, non_n, non_s, non_l, non_t, len_l, len_t, len_s, max_ii, min_ii, all_l, any_l, list_l, list_t, tuple_l, tuple_t, int_i, int_b, sl_l, sl_s, slL_l, items_l, items_t, litems_l, asB_b, asI_i, asD_d, asImm_d, tru_l, tru_t, put_n, put_t, all_nil, all_cons, out_rt, out_nx, outN_rt, ty_l, ty_s, ty_t, ty_i, ty_b, bIs, getL, putL, bind_ok, ofO_some, fnM1, fnM2, fnM3, fnM4, fnN1, fnN2, fnN3, fnN4, List.map_cons, List.map_nil, List.length_cons, List.length_nil, List.cons_append, List.nil_append, List.replicate_succ, List.replicate_zero, List.getElem?_cons_zero, List.getElem?_cons_succ, List.set_cons_zero, List.set_cons_succ, Nat.reduceSub, Nat.reduceAdd, Nat.zero_add, optD_none, Bool.not_true, Bool.false_eq_true, if_false]
    | succ j ih =>
      intro k hk
      obtain ⟨x, hx, e⟩ := N.nxt_some (k := k) (by omega)
      obtain ⟨o, ho⟩ := ih (k + 1) (by omega)
      refine ⟨o, ?_⟩
      have hl := (N.ord_ok k (by omega)).1
      have hg : ((ord names arrows k).map D.str).length < 16777216 := by rw [List.length_map, hl]; have := N.le; omega
      have hs : D.lst ((ord names arrows k).map D.str ++ [D.str x]) = strL (ord names arrows (k + 1)) := by rw [e, strL, List.map_append]; rfl
      rw [show j + 1 + 92 = (j + 92) + 1 by omega, whileD, hx]
      simp only [gle0, gle1, gle2, gle3, gle4, gle5, gle6, gle7, gle8, mV, m1, m2, mN, mArgs, mC, mAnd, mOr, mNot, mIfE, mChain, mPart, mSlF, cB, cAnd, cOr, cNot, cTru, cYes, iOf, iRange1, iRange2, iEnum, iZip2, iZip3, sSeq, sSet, sSetW, sPut, sDrop, sRet, sRetN, sIf, sFor, sWhile, sNext, sAppend, sExtend, sReverse, sClear, sPop, sPopAt, sAppendPop, sSetAt, sMove, sDPut, mDIn, mDNotIn, mDGet, wD, wV, mArgsW, wCall, mCall, mCallI, dTup, dLst, add_ii, add_ss, add_ll, cat_ll, sub_ii, mul_ii, div_ii, mod_ii, lt_ii, gt_ii, le_ii, ge_ii, neg_i, is_n, isnot_n, non_n, non_s, non_l, non_t, len_l, len_t, len_s, max_ii, min_ii, all_l, any_l, list_l, list_t, tuple_l, tuple_t, int_i, int_b, sl_l, sl_s, slL_l, items_l, items_t, litems_l, asB_b, asI_i, asD_d, asImm_d, tru_l, tru_t, put_n, put_t, all_nil, all_cons, out_rt, out_nx, outN_rt, ty_l, ty_s, ty_t, ty_i, ty_b, bIs, getL, putL, bind_ok, ofO_some, fnM1, fnM2, fnM3, fnM4, fnN1, fnN2, fnN3, fnN4, List.map_cons, List.map_nil, List.length_cons, List.length_nil, List.cons_append, List.nil_append, List.replicate_succ, List.replicate_zero, List.getElem?_cons_zero, List.getElem?_cons_succ, List.set_cons_zero, List.set_cons_succ, Nat.reduceSub, Nat.reduceAdd, Nat.zero_add, optD_some, strL, Bool.not_false, if_true, guardR_pos hg, hs, fr', guardR_pos (imm_opt _)]
      exact ho
  obtain ⟨o, ho⟩ := key names.length 0 (by omega)
  unfold m_in_turn b_in_turn
  rw [fnN1]
  have hw : ∀ (c : C) (b : S) (e e' : Mi.Env) (n m : Nat), whileD c b n e = .ok (.nx e') → whileD c b (n + m) e = .ok (.nx e') := by
    intro c b e e' n m
    induction n generalizing e with
    | zero => intro h; cases h
    | succ n ih =>
      intro h
      rw [show n + 1 + m = (n + m) + 1 by omega, whileD]
      rw [whileD] at h
      revert h
      cases c e with
      | ok k =>
        cases k with
        | false => exact id
        | true =>
          simp only [bind_ok, if_true]
          cases b e with
          | ok o' =>
            cases o' with
            | nx e2 => exact ih _
            | ct e2 => exact ih _
            | bk e2 => exact id
            | rt w => exact id
          | ex x => exact id
          | no => exact id
      | ex x => exact id
      | no => exact id
  have ho := hw _ _ _ _ _ (8 - names.length) ho
  rw [show names.length + 92 + (8 - names.length) = 100 by have := N.le; omega] at ho
  have f0 := fr []
  have h0 : strL [] = D.lst [] := rfl
  rw [h0] at f0
  have hg0 : guardR (([] : List D).length ≤ 16777216) (Rs.ok (D.lst [])) = .ok (.lst []) := guardR_pos (by simp)
  simp only [List.length_nil] at hg0
  have ho : whileD (cB (m2 dIsNot (mV 2) (mC .non))) (sSeq (sAppend 1 (mV 2)) (sSet 2 (mCallI m_first_ready [(wD (mV 0)), (wD (mV 1))]))) 100 [some (.d (netD names arrows)), some (.d (.lst [])), some (.d (optD (nxt names arrows [])))] = .ok (.nx [some (.d (netD names arrows)), some (.d (strL (ord names arrows names.length))), o]) := ho
  simp only [sSeq, sSet, sWhile, mN, mArgs, dLst, bind_ok, hg0, List.length_nil, List.cons_append, List.nil_append, List.replicate_succ, List.replicate_zero, Nat.reduceSub, List.set_cons_zero, List.set_cons_succ, mCallI, wCall, mArgsW, wD, mV, List.getElem?_cons_zero, List.getElem?_cons_succ, f0, asImm, guardR_pos (imm_opt _), List.map_cons, List.map_nil]
  rw [ho]
  rfl
end Mr

set_option linter.all false
set_option maxRecDepth 10000
namespace Mr
open PySem Mi
theorem l_ready_ok {names : List Str} {arrows : List Ar} (hl : arrows.length ≤ 64) (hn : names.length ≤ 64) (told : List Str) : m_l_ready [.d (netD names arrows), .d (strL told)] = .ok (.d (strL (names.filter (ready arrows told)))) := by
  unfold m_l_ready b_l_ready
  rw [fnN2]
  have key : ∀ (xs acc : List Str) (o1 o2 : Option W), acc.length + xs.length ≤ 64 → ∃ o3 o4, forD (.n 3) (sSeq (sSet 4 (mComp [some 3, some 1, none, none] (iOf (m2 dIx (mV 0) (mC (.int 1)))) (.t [2, 3]) (cAnd (cB (m2 dEq (mV 3) (mV 0))) (cB (m2 dNotIn (mV 2) (mV 1)))) (mV 2)))
      (sIf (cAnd (cB (m2 dNotIn (mV 3) (mV 1))) (cB (m2 dEq (mN bLen [(mV 4)]) (mC (.int 0))))) (sAppend 2 (mV 3)) sNext)) (xs.map D.str) [some (.d (netD names arrows)), some (.d (strL told)), some (.d (strL acc)), o1, o2] =
      .ok (.nx [some (.d (netD names arrows)), some (.d (strL told)), some (.d (strL (acc ++ xs.filter (ready arrows told)))), o3, o4]) := by
    intro xs
    induction xs with
    | nil => intro acc o1 o2 _; exact ⟨o1, o2, by rw [List.filter_nil, List.append_nil]; rfl⟩
    | cons x r ih =>
      intro acc o1 o2 hz
      rw [List.length_cons] at hz
      have hc : compD (.t [2, 3]) (cAnd (cB (m2 dEq (mV 3) (mV 0))) (cB (m2 dNotIn (mV 2) (mV 1)))) (mV 2) [some (.d (.str x)), some (.d (strL told)), none, none] (arrows.map pairD) = .ok ((arrows.filter fun p => decide (p.2 = x) && !decide (p.1 ∈ told)).map fun p => D.str p.1) :=
        comp_map pairD (fun p => D.str p.1) _ arrows fun p _ => ⟨[some (.d (.str x)), some (.d (strL told)), some (.d (.str p.1)), some (.d (.str p.2))], rfl, by
          simp only [gle0, gle1, gle2, gle3, gle4, gle5, gle6, gle7, gle8, mV, m1, m2, mN, mArgs, mC, mAnd, mOr, mNot, mIfE, mChain, mPart, mSlF, cB, cAnd, cOr, cNot, cTru, cYes, iOf, iRange1, iRange2, iEnum, iZip2, iZip3, sSeq, sSet, sSetW, sPut, sDrop, sRet, sRetN, sIf, sFor, sWhile, sNext, sAppend, sExtend, sReverse, sClear, sPop, sPopAt, sAppendPop, sSetAt, sMove, sDPut, mDIn, mDNotIn, mDGet, wD, wV, mArgsW, wCall, mCall, mCallI, dTup, dLst, add_ii, add_ss, add_ll, cat_ll, sub_ii, mul_ii, div_ii, mod_ii, lt_ii, gt_ii, le_ii, ge_ii, neg_i, is_n, isnot_n, non_n, non_s, non_l, non_t, len_l, len_t, len_s, max_ii, min_ii, all_l, any_l, list_l, list_t, tuple_l, tuple_t, int_i, int_b, sl_l, sl_s, slL_l, items_l, items_t, litems_l, asB_b, asI_i, asD_d, asImm_d, tru_l, tru_t, put_n, put_t, all_nil, all_cons, out_rt, out_nx, outN_rt, ty_l, ty_s, ty_t, ty_i, ty_b, bIs, getL, putL, bind_ok, ofO_some, fnM1, fnM2, fnM3, fnM4, fnN1, fnN2, fnN3, fnN4, List.map_cons, List.map_nil, List.length_cons, List.length_nil, List.cons_append, List.nil_append, List.replicate_succ, List.replicate_zero, List.getElem?_cons_zero, List.getElem?_cons_succ, List.set_cons_zero, List.set_cons_succ, Nat.reduceSub, Nat.reduceAdd, Nat.zero_add, dEq_str]
          cases decide (p.2 = x) with
          | false => rfl
          | true => simp only [if_true, gle0, gle1, gle2, gle3, gle4, gle5, gle6, gle7, gle8, mV, m1, m2, mN, mArgs, mC, mAnd, mOr, mNot, mIfE, mChain, mPart, mSlF, cB, cAnd, cOr, cNot, cTru, cYes, iOf, iRange1, iRange2, iEnum, iZip2, iZip3, sSeq, sSet, sSetW, sPut, sDrop, sRet, sRetN, sIf, sFor, sWhile, sNext, sAppend, sExtend, sReverse, sClear, sPop, sPopAt, sAppendPop, sSetAt, sMove, sDPut, mDIn, mDNotIn, mDGet, wD, wV, mArgsW, wCall, mCall, mCallI, dTup, dLst, add_ii, add_ss, add_ll, cat_ll, sub_ii, mul_ii, div_ii, mod_ii, lt_ii, gt_ii, le_ii, ge_ii, neg_i, is_n, isnot_n, non_n, non_s, non_l, non_t, len_l, len_t, len_s, max_ii, min_ii, all_l, any_l, list_l, list_t, tuple_l, tuple_t, int_i, int_b, sl_l, sl_s, slL_l, items_l, items_t, litems_l, asB_b, asI_i, asD_d, asImm_d, tru_l, tru_t, put_n, put_t, all_nil, all_cons, out_rt, out_nx, outN_rt, ty_l, ty_s, ty_t, ty_i, ty_b, bIs, getL, putL, bind_ok, ofO_some, fnM1, fnM2, fnM3, fnM4, fnN1, fnN2, fnN3, fnN4, List.map_cons, List.map_nil, List.length_cons, List.length_nil, List.cons_append, List.nil_append, List.replicate_succ, List.replicate_zero, List.getElem?_cons_zero, List.getElem?_cons_succ, List.set_cons_zero, List.set_cons_succ, Nat.reduceSub, Nat.reduceAdd, Nat.zero_add, strL, dNotIn_str, Bool.true_and], fun _ => by simp only [gle0, gle1, gle2, gle3, gle4, gle5, gle6, gle7, gle8, mV, m1, m2, mN, mArgs, mC, mAnd, mOr, mNot, mIfE, mChain, mPart, mSlF, cB, cAnd, cOr, cNot, cTru, cYes, iOf, iRange1, iRange2, iEnum, iZip2, iZip3, sSeq, sSet, sSetW, sPut, sDrop, sRet, sRetN, sIf, sFor, sWhile, sNext, sAppend, sExtend, sReverse, sClear, sPop, sPopAt, sAppendPop, sSetAt, sMove, sDPut, mDIn, mDNotIn, mDGet, wD, wV, mArgsW, wCall, mCall, mCallI, dTup, dLst, add_ii, add_ss, add_ll, cat_ll, sub_ii, mul_ii, div_ii, mod_ii, lt_ii, gt_ii, le_ii, ge_ii, neg_i, is_n, isnot_n, non_n, non_s, non_l, non_t, len_l, len_t, len_s, max_ii, min_ii, all_l, any_l, list_l, list_t, tuple_l, tuple_t, int_i, int_b, sl_l, sl_s, slL_l, items_l, items_t, litems_l, asB_b, asI_i, asD_d, asImm_d, tru_l, tru_t, put_n, put_t, all_nil, all_cons, out_rt, out_nx, outN_rt, ty_l, ty_s, ty_t, ty_i, ty_b, bIs, getL, putL, bind_ok, ofO_some, fnM1, fnM2, fnM3, fnM4, fnN1, fnN2, fnN3, fnN4, List.map_cons, List.map_nil, List.length_cons, List.length_nil, List.cons_append, List.nil_append, List.replicate_succ, List.replicate_zero, List.getElem?_cons_zero, List.getElem?_cons_succ, List.set_cons_zero, List.set_cons_succ, Nat.reduceSub, Nat.reduceAdd, Nat.zero_add]⟩
      have hp : pickE [some 3, some 1, none, none] [some (W.d (netD names arrows)), some (W.d (strL told)), some (W.d (strL acc)), some (W.d (D.str x)), o2] = [some (.d (.str x)), some (.d (strL told)), none, none] := rfl
      have hrd : ready arrows told x = (!decide (x ∈ told) && decide ((((arrows.filter fun p => decide (p.2 = x) && !decide (p.1 ∈ told)).map fun p => D.str p.1).length : Int) = 0)) := by
        unfold ready
        congr 1
        rw [List.length_map]
        by_cases h : ((arrows.filter fun p => decide (p.2 = x) && !decide (p.1 ∈ told)).length : Int) = 0
        · rw [decide_eq_true h, List.all_eq_true]
          intro y hy
          have h0 : (arrows.filter fun p => decide (p.2 = x) && !decide (p.1 ∈ told)) = [] := List.eq_nil_of_length_eq_zero (by omega)
          have := List.filter_eq_nil_iff.mp h0 (y, x) (mem_elders.mp hy)
          simpa using this
        · rw [decide_eq_false h, List.all_eq_false]
          cases hq : (arrows.filter fun p => decide (p.2 = x) && !decide (p.1 ∈ told)) with
          | nil => rw [hq] at h; exact absurd rfl h
          | cons p l =>
            have hm : p ∈ (arrows.filter fun p => decide (p.2 = x) && !decide (p.1 ∈ told)) := by rw [hq]; exact List.mem_cons_self
            obtain ⟨h1, h2⟩ := List.mem_filter.mp hm
            rw [Bool.and_eq_true] at h2
            have e2 : p.2 = x := by simpa using h2.1
            exact ⟨p.1, mem_elders.mpr (by rw [← e2]; exact h1), by simpa using h2.2⟩
      rw [List.map_cons, forD]
      have hn' : dNotIn (.str x) (strL told) = .ok (.bl (!decide (x ∈ told))) := dNotIn_str told x
      simp only [gle0, gle1, gle2, gle3, gle4, gle5, gle6, gle7, gle8, mV, m1, m2, mN, mArgs, mC, mAnd, mOr, mNot, mIfE, mChain, mPart, mSlF, cB, cAnd, cOr, cNot, cTru, cYes, iOf, iRange1, iRange2, iEnum, iZip2, iZip3, sSeq, sSet, sSetW, sPut, sDrop, sRet, sRetN, sIf, sFor, sWhile, sNext, sAppend, sExtend, sReverse, sClear, sPop, sPopAt, sAppendPop, sSetAt, sMove, sDPut, mDIn, mDNotIn, mDGet, wD, wV, mArgsW, wCall, mCall, mCallI, dTup, dLst, add_ii, add_ss, add_ll, cat_ll, sub_ii, mul_ii, div_ii, mod_ii, lt_ii, gt_ii, le_ii, ge_ii, neg_i, is_n, isnot_n, non_n, non_s, non_l, non_t, len_l, len_t, len_s, max_ii, min_ii, all_l, any_l, list_l, list_t, tuple_l, tuple_t, int_i, int_b, sl_l, sl_s, slL_l, items_l, items_t, litems_l, asB_b, asI_i, asD_d, asImm_d, tru_l, tru_t, put_n, put_t, all_nil, all_cons, out_rt, out_nx, outN_rt, ty_l, ty_s, ty_t, ty_i, ty_b, bIs, getL, putL, bind_ok, ofO_some, fnM1, fnM2, fnM3, fnM4, fnN1, fnN2, fnN3, fnN4, List.map_cons, List.map_nil, List.length_cons, List.length_nil, List.cons_append, List.nil_append, List.replicate_succ, List.replicate_zero, List.getElem?_cons_zero, List.getElem?_cons_succ, List.set_cons_zero, List.set_cons_succ, Nat.reduceSub, Nat.reduceAdd, Nat.zero_add, mComp, ix1, arD, hp]
      rw [guardR_pos (by rw [List.length_map]; omega), hc]
      simp only [gle0, gle1, gle2, gle3, gle4, gle5, gle6, gle7, gle8, mV, m1, m2, mN, mArgs, mC, mAnd, mOr, mNot, mIfE, mChain, mPart, mSlF, cB, cAnd, cOr, cNot, cTru, cYes, iOf, iRange1, iRange2, iEnum, iZip2, iZip3, sSeq, sSet, sSetW, sPut, sDrop, sRet, sRetN, sIf, sFor, sWhile, sNext, sAppend, sExtend, sReverse, sClear, sPop, sPopAt, sAppendPop, sSetAt, sMove, sDPut, mDIn, mDNotIn, mDGet, wD, wV, mArgsW, wCall, mCall, mCallI, dTup, dLst, add_ii, add_ss, add_ll, cat_ll, sub_ii, mul_ii, div_ii, mod_ii, lt_ii, gt_ii, le_ii, ge_ii, neg_i, is_n, isnot_n, non_n, non_s, non_l, non_t, len_l, len_t, len_s, max_ii, min_ii, all_l, any_l, list_l, list_t, tuple_l, tuple_t, int_i, int_b, sl_l, sl_s, slL_l, items_l, items_t, litems_l, asB_b, asI_i, asD_d, asImm_d, tru_l, tru_t, put_n, put_t, all_nil, all_cons, out_rt, out_nx, outN_rt, ty_l, ty_s, ty_t, ty_i, ty_b, bIs, getL, putL, bind_ok, ofO_some, fnM1, fnM2, fnM3, fnM4, fnN1, fnN2, fnN3, fnN4, List.map_cons, List.map_nil, List.length_cons, List.length_nil, List.cons_append, List.nil_append, List.replicate_succ, List.replicate_zero, List.getElem?_cons_zero, List.getElem?_cons_succ, List.set_cons_zero, List.set_cons_succ, Nat.reduceSub, Nat.reduceAdd, Nat.zero_add, hn', dEq_int]
      cases hr : ready arrows told x with
      | true =>
        rw [hrd, Bool.and_eq_true] at hr
        obtain ⟨o3, o4, e⟩ := ih (acc ++ [x]) (some (.d (.str x))) (some (.d (.lst ((arrows.filter fun p => decide (p.2 = x) && !decide (p.1 ∈ told)).map fun p => D.str p.1)))) (by rw [List.length_append, List.length_singleton]; omega)
        refine ⟨o3, o4, ?_⟩
        rw [hr.1, hr.2]
        simp only [if_true, gle0, gle1, gle2, gle3, gle4, gle5, gle6, gle7, gle8, mV, m1, m2, mN, mArgs, mC, mAnd, mOr, mNot, mIfE, mChain, mPart, mSlF, cB, cAnd, cOr, cNot, cTru, cYes, iOf, iRange1, iRange2, iEnum, iZip2, iZip3, sSeq, sSet, sSetW, sPut, sDrop, sRet, sRetN, sIf, sFor, sWhile, sNext, sAppend, sExtend, sReverse, sClear, sPop, sPopAt, sAppendPop, sSetAt, sMove, sDPut, mDIn, mDNotIn, mDGet, wD, wV, mArgsW, wCall, mCall, mCallI, dTup, dLst, add_ii, add_ss, add_ll, cat_ll, sub_ii, mul_ii, div_ii, mod_ii, lt_ii, gt_ii, le_ii, ge_ii, neg_i, is_n, isnot_n, non_n, non_s, non_l, non_t, len_l, len_t, len_s, max_ii, min_ii, all_l, any_l, list_l, list_t, tuple_l, tuple_t, int_i, int_b, sl_l, sl_s, slL_l, items_l, items_t, litems_l, asB_b, asI_i, asD_d, asImm_d, tru_l, tru_t, put_n, put_t, all_nil, all_cons, out_rt, out_nx, outN_rt, ty_l, ty_s, ty_t, ty_i, ty_b, bIs, getL, putL, bind_ok, ofO_some, fnM1, fnM2, fnM3, fnM4, fnN1, fnN2, fnN3, fnN4, List.map_cons, List.map_nil, List.length_cons, List.length_nil, List.cons_append, List.nil_append, List.replicate_succ, List.replicate_zero, List.getElem?_cons_zero, List.getElem?_cons_succ, List.set_cons_zero, List.set_cons_succ, Nat.reduceSub, Nat.reduceAdd, Nat.zero_add, strL]
        rw [guardR_pos (by rw [List.length_map]; omega)]
        rw [List.filter_cons_of_pos (by rw [hrd, hr.1, hr.2]; rfl)]
        rw [show acc ++ x :: List.filter (ready arrows told) r = acc ++ [x] ++ List.filter (ready arrows told) r by simp]
        have hs : strL (acc ++ [x]) = D.lst (acc.map D.str ++ [D.str x]) := by rw [strL, List.map_append]; rfl
        rw [hs] at e
        exact e
      | false =>
        obtain ⟨o3, o4, e⟩ := ih acc (some (.d (.str x))) (some (.d (.lst ((arrows.filter fun p => decide (p.2 = x) && !decide (p.1 ∈ told)).map fun p => D.str p.1)))) (by omega)
        refine ⟨o3, o4, ?_⟩
        rw [List.filter_cons_of_neg (by rw [hr]; exact Bool.false_ne_true), ← e]
        rw [hrd] at hr
        cases h1 : !decide (x ∈ told) with
        | false => rfl
        | true =>
          rw [h1, Bool.true_and] at hr
          rw [hr]; rfl
  obtain ⟨o3, o4, e⟩ := key names [] none none (by simpa using hn)
  have hg0 : guardR (0 ≤ 16777216) (Rs.ok (D.lst [])) = .ok (.lst []) := guardR_pos (by simp)
  simp only [strL, List.map_nil, List.nil_append] at e
  simp only [gle0, gle1, gle2, gle3, gle4, gle5, gle6, gle7, gle8, mV, m1, m2, mN, mArgs, mC, mAnd, mOr, mNot, mIfE, mChain, mPart, mSlF, cB, cAnd, cOr, cNot, cTru, cYes, iOf, iRange1, iRange2, iEnum, iZip2, iZip3, sSeq, sSet, sSetW, sPut, sDrop, sRet, sRetN, sIf, sFor, sWhile, sNext, sAppend, sExtend, sReverse, sClear, sPop, sPopAt, sAppendPop, sSetAt, sMove, sDPut, mDIn, mDNotIn, mDGet, wD, wV, mArgsW, wCall, mCall, mCallI, dTup, dLst, add_ii, add_ss, add_ll, cat_ll, sub_ii, mul_ii, div_ii, mod_ii, lt_ii, gt_ii, le_ii, ge_ii, neg_i, is_n, isnot_n, non_n, non_s, non_l, non_t, len_l, len_t, len_s, max_ii, min_ii, all_l, any_l, list_l, list_t, tuple_l, tuple_t, int_i, int_b, sl_l, sl_s, slL_l, items_l, items_t, litems_l, asB_b, asI_i, asD_d, asImm_d, tru_l, tru_t, put_n, put_t, all_nil, all_cons, out_rt, out_nx, outN_rt, ty_l, ty_s, ty_t, ty_i, ty_b, bIs, getL, putL, bind_ok, ofO_some, fnM1, fnM2, fnM3, fnM4, fnN1, fnN2, fnN3, fnN4, List.map_cons, List.map_nil, List.length_cons, List.length_nil, List.cons_append, List.nil_append, List.replicate_succ, List.replicate_zero, List.getElem?_cons_zero, List.getElem?_cons_succ, List.set_cons_zero, List.set_cons_succ, Nat.reduceSub, Nat.reduceAdd, Nat.zero_add, hg0, ix0, nmD, strL, e]
theorem cut_to {α : Type} (xs : List α) (k : Nat) : cutL xs none (some (k : Int)) = xs.take k := by
  show (xs.drop 0).take ((if (k : Int) < 0 then ((k : Int) + (xs.length : Int)).toNat else min (k : Int).toNat xs.length) - 0) = _
  rw [if_neg (by omega), List.drop_zero, Nat.sub_zero, Int.toNat_natCast]
  rcases Nat.le_total k xs.length with h | h
  · rw [Nat.min_eq_left h]
  · rw [Nat.min_eq_right h, List.take_of_length_le (Nat.le_refl _), List.take_of_length_le h]
theorem find_filter {α : Type} (p : α → Bool) : ∀ (xs : List α) {x : α}, xs.find? p = some x → (xs.filter p).take 1 = [x]
  | [], x, h => by cases h
  | y :: r, x, h => by
    by_cases hp : p y = true
    · rw [List.find?_cons_of_pos hp] at h
      cases h
      rw [List.filter_cons_of_pos hp]; rfl
    · rw [List.find?_cons_of_neg hp] at h
      rw [List.filter_cons_of_neg hp]
      exact find_filter p r h
theorem pyEqs_strs : ∀ xs ys : List Str, pyEqs (xs.map D.str) (ys.map D.str) = decide (xs = ys)
  | [], [] => rfl
  | [], _ :: _ => rfl
  | _ :: _, [] => rfl
  | x :: xs, y :: ys => by
    rw [List.map_cons, List.map_cons, pyEqs, pyEq_str, pyEqs_strs xs ys]
    by_cases h1 : x = y <;> by_cases h2 : xs = ys <;> simp [h1, h2]
theorem dNe_strs (xs ys : List Str) : dNe (strL xs) (strL ys) = .ok (.bl (!decide (xs = ys))) := by
  unfold dNe strL
  rw [guardR_pos (by simp), pyEq, pyEqs_strs]
theorem l_right_ok {names : List Str} {arrows : List Ar} (N : Net names arrows) : m_l_right [.d (netD names arrows), .d (strL (ord names arrows names.length))] = .ok (.d (.bl true)) := by
  unfold m_l_right b_l_right
  rw [fnM2]
  generalize hT : ord names arrows names.length = T
  have hTl : T.length = names.length := by rw [← hT]; exact (N.ord_ok _ (Nat.le_refl _)).1
  have key : ∀ (j i : Nat) (o1 o2 : Option W), i + j = names.length → ∃ o3 o4, forD (.t [2, 3]) (sIf (cOr (cNot (cB (m1 (bIs ["str"]) (mV 3)))) (cB (m2 dNe (mSlF dSl (mCall m_l_ready [(wD (mV 0)), (wD (mSlF dSl (mV 1) none (some (mV 2))))]) none (some (mC (.int 1)))) (mN dLst [(mV 3)])))) (sRet (wD (mC (.bl false)))) sNext)
      (dEnum i ((T.drop i).map D.str)) [some (.d (netD names arrows)), some (.d (strL T)), o1, o2] = .ok (.nx [some (.d (netD names arrows)), some (.d (strL T)), o3, o4]) := by
    intro j
    induction j with
    | zero =>
      intro i o1 o2 h
      rw [List.drop_of_length_le (by omega)]
      exact ⟨o1, o2, rfl⟩
    | succ j ih =>
      intro i o1 o2 h
      have hi : i < T.length := by omega
      obtain ⟨o3, o4, e⟩ := ih (i + 1) (some (.d (.int i))) (some (.d (.str T[i]))) (by omega)
      refine ⟨o3, o4, ?_⟩
      obtain ⟨x, hx, e2⟩ := N.nxt_some (k := i) (by omega)
      have hxi : T[i] = x := by
        have h1 : T.take (i + 1) = ord names arrows (i + 1) := by rw [← hT]; exact N.ord_take (by omega) (Nat.le_refl _)
        have h2 : T.take i = ord names arrows i := by rw [← hT]; exact N.ord_take (by omega) (Nat.le_refl _)
        rw [List.take_succ_eq_append_getElem hi, h2, e2] at h1
        have := List.append_cancel_left h1
        simpa using this
      have htk : T.take i = ord names arrows i := by rw [← hT]; exact N.ord_take (by omega) (Nat.le_refl _)
      have hcut : cutL (T.map D.str) none (some (i : Int)) = (ord names arrows i).map D.str := by rw [cut_to, ← List.map_take, htk]
      have hrd := l_ready_ok (names := names) N.al (by have := N.le; omega) (ord names arrows i)
      have hff : (names.filter (ready arrows (ord names arrows i))).take 1 = [x] := find_filter _ names hx
      have hcut2 : cutL ((names.filter (ready arrows (ord names arrows i))).map D.str) none (some 1) = [x].map D.str := by
        have := cut_to ((names.filter (ready arrows (ord names arrows i))).map D.str) 1
        rw [show ((1 : Nat) : Int) = 1 from rfl] at this
        rw [this, ← List.map_take, hff]
      rw [List.drop_eq_getElem_cons hi, List.map_cons, dEnum, forD]
      have hg : guardR (1 ≤ 16777216) (Rs.ok (D.lst [D.str T[i]])) = .ok (.lst [.str T[i]]) := guardR_pos (by simp)
      have hne := dNe_strs [x] [x]
      unfold strL at hne hrd
      simp only [List.map_cons, List.map_nil] at hne
      simp only [gle0, gle1, gle2, gle3, gle4, gle5, gle6, gle7, gle8, mV, m1, m2, mN, mArgs, mC, mAnd, mOr, mNot, mIfE, mChain, mPart, mSlF, cB, cAnd, cOr, cNot, cTru, cYes, iOf, iRange1, iRange2, iEnum, iZip2, iZip3, sSeq, sSet, sSetW, sPut, sDrop, sRet, sRetN, sIf, sFor, sWhile, sNext, sAppend, sExtend, sReverse, sClear, sPop, sPopAt, sAppendPop, sSetAt, sMove, sDPut, mDIn, mDNotIn, mDGet, wD, wV, mArgsW, wCall, mCall, mCallI, dTup, dLst, add_ii, add_ss, add_ll, cat_ll, sub_ii, mul_ii, div_ii, mod_ii, lt_ii, gt_ii, le_ii, ge_ii, neg_i, is_n, isnot_n, non_n, non_s, non_l, non_t, len_l, len_t, len_s, max_ii, min_ii, all_l, any_l, list_l, list_t, tuple_l, tuple_t, int_i, int_b, sl_l, sl_s, slL_l, items_l, items_t, litems_l, asB_b, asI_i, asD_d, asImm_d, tru_l, tru_t, put_n, put_t, all_nil, all_cons, out_rt, out_nx, outN_rt, ty_l, ty_s, ty_t, ty_i, ty_b, bIs, getL, putL, bind_ok, ofO_some, fnM1, fnM2, fnM3, fnM4, fnN1, fnN2, fnN3, fnN4, List.map_cons, List.map_nil, List.length_cons, List.length_nil, List.cons_append, List.nil_append, List.replicate_succ, List.replicate_zero, List.getElem?_cons_zero, List.getElem?_cons_succ, List.set_cons_zero, List.set_cons_succ, Nat.reduceSub, Nat.reduceAdd, Nat.zero_add, List.any_cons, List.any_nil, Bool.or_false, beq_self_eq_true, Bool.not_true, Bool.false_eq_true, if_false, strL, hcut, hrd, hcut2, hg, hxi, hne, decide_true]
      rw [hxi] at e
      exact e
  obtain ⟨o3, o4, e⟩ := key names.length 0 none none (by omega)
  rw [List.drop_zero] at e
  unfold strL at e
  simp only [gle0, gle1, gle2, gle3, gle4, gle5, gle6, gle7, gle8, mV, m1, m2, mN, mArgs, mC, mAnd, mOr, mNot, mIfE, mChain, mPart, mSlF, cB, cAnd, cOr, cNot, cTru, cYes, iOf, iRange1, iRange2, iEnum, iZip2, iZip3, sSeq, sSet, sSetW, sPut, sDrop, sRet, sRetN, sIf, sFor, sWhile, sNext, sAppend, sExtend, sReverse, sClear, sPop, sPopAt, sAppendPop, sSetAt, sMove, sDPut, mDIn, mDNotIn, mDGet, wD, wV, mArgsW, wCall, mCall, mCallI, dTup, dLst, add_ii, add_ss, add_ll, cat_ll, sub_ii, mul_ii, div_ii, mod_ii, lt_ii, gt_ii, le_ii, ge_ii, neg_i, is_n, isnot_n, non_n, non_s, non_l, non_t, len_l, len_t, len_s, max_ii, min_ii, all_l, any_l, list_l, list_t, tuple_l, tuple_t, int_i, int_b, sl_l, sl_s, slL_l, items_l, items_t, litems_l, asB_b, asI_i, asD_d, asImm_d, tru_l, tru_t, put_n, put_t, all_nil, all_cons, out_rt, out_nx, outN_rt, ty_l, ty_s, ty_t, ty_i, ty_b, bIs, getL, putL, bind_ok, ofO_some, fnM1, fnM2, fnM3, fnM4, fnN1, fnN2, fnN3, fnN4, List.map_cons, List.map_nil, List.length_cons, List.length_nil, List.cons_append, List.nil_append, List.replicate_succ, List.replicate_zero, List.getElem?_cons_zero, List.getElem?_cons_succ, List.set_cons_zero, List.set_cons_succ, Nat.reduceSub, Nat.reduceAdd, Nat.zero_add, strL, List.any_cons, List.any_nil, Bool.or_false, beq_self_eq_true, Bool.not_true, Bool.false_eq_true, if_false, ix0, nmD, List.length_map, hTl, dNe_int, decide_true, e]
end Mr

set_option linter.all false
namespace My
/-! ### the law's words: any number of them up to eight are unlike words -/
def wl : List Nat := [101, 116, 97, 111, 105, 110, 115, 104, 114, 100, 108, 117, 99, 109, 102, 119, 121, 112, 118, 98, 103, 107, 113, 106, 120, 122]
def lt26 (n : Int) : Nat := wl.getD (n % 26).toNat 0
def wlong (c : Int) : List Nat := (List.range 8).map fun (k : Nat) => lt26 (c / (4 + 3 * (k : Int)))
def wstem (c : Int) (n : Nat) : List Nat := (List.range n).map fun (k : Nat) => lt26 (c / 32 + 5 * (k : Int) + (k : Int) * (k : Int))
def words (c : Int) (many : Nat) : List (List Nat) :=
  if c % 4 < 2 then
    if c % 4 = 0 then (List.range many).map fun (k : Nat) => (wlong c).take (k + 1)
    else (List.range many).map fun (k : Nat) => (wlong c).drop (7 - k)
  else
    (List.range many).map fun (k : Nat) => (wstem c (c / 4 % 8).toNat).take (c / 256 % (c / 4 % 8 + 1)).toNat ++ [lt26 (c / 7 + 5 * (k : Int))] ++ (wstem c (c / 4 % 8).toNat).drop (c / 256 % (c / 4 % 8 + 1)).toNat
def Word (x : List Nat) : Prop := 1 ≤ x.length ∧ x.length ≤ 8 ∧ ∀ c ∈ x, 97 ≤ c ∧ c ≤ 122
theorem wl_low : ∀ c ∈ wl, 97 ≤ c ∧ c ≤ 122 := by decide
theorem wl_nd : wl.Nodup := by decide
theorem wl_len : wl.length = 26 := by decide
theorem lt26_mem (n : Int) : lt26 n ∈ wl := by
  unfold lt26
  have h1 := Int.emod_nonneg n (b := 26) (by decide)
  have h2 := Int.emod_lt_of_pos n (b := 26) (by decide)
  have h3 : (n % 26).toNat < wl.length := by rw [wl_len]; omega
  rw [List.getD_eq_getElem?_getD, List.getElem?_eq_getElem h3]
  exact List.getElem_mem h3
theorem lt26_inj {n m : Int} (h : lt26 n = lt26 m) : n % 26 = m % 26 := by
  unfold lt26 at h
  have h1 := Int.emod_nonneg n (b := 26) (by decide)
  have h2 := Int.emod_lt_of_pos n (b := 26) (by decide)
  have h3 : (n % 26).toNat < wl.length := by rw [wl_len]; omega
  have h1' := Int.emod_nonneg m (b := 26) (by decide)
  have h2' := Int.emod_lt_of_pos m (b := 26) (by decide)
  have h3' : (m % 26).toNat < wl.length := by rw [wl_len]; omega
  rw [List.getD_eq_getElem?_getD, List.getElem?_eq_getElem h3, List.getD_eq_getElem?_getD, List.getElem?_eq_getElem h3'] at h
  have := (List.getElem_inj wl_nd).mp h
  omega
theorem wlong_len (c : Int) : (wlong c).length = 8 := by simp [wlong]
theorem wstem_len (c : Int) (n : Nat) : (wstem c n).length = n := by simp [wstem]
theorem wlong_low (c : Int) : ∀ x ∈ wlong c, 97 ≤ x ∧ x ≤ 122 := fun x hx => by
  obtain ⟨k, _, rfl⟩ := List.mem_map.mp hx
  exact wl_low _ (lt26_mem _)
theorem wstem_low (c : Int) (n : Nat) : ∀ x ∈ wstem c n, 97 ≤ x ∧ x ≤ 122 := fun x hx => by
  obtain ⟨k, _, rfl⟩ := List.mem_map.mp hx
  exact wl_low _ (lt26_mem _)
theorem words_len (c : Int) (many : Nat) : (words c many).length = many := by
  unfold words; split <;> (try split) <;> simp
theorem nodup_map_range {α : Type} (f : Nat → α) (n : Nat) (h : ∀ i j, i < n → j < n → f i = f j → i = j) : ((List.range n).map f).Nodup := by
  induction n with
  | zero => simp
  | succ n ih =>
    rw [List.range_succ, List.map_append, List.map_singleton]
    rw [List.nodup_append]
    refine ⟨ih fun i j hi hj => h i j (by omega) (by omega), by simp, fun a ha b hb => ?_⟩
    obtain ⟨i, hi, rfl⟩ := List.mem_map.mp ha
    have hi := List.mem_range.mp hi
    have hb : b = f n := by simpa using hb
    subst hb
    intro e
    have := h i n (by omega) (by omega) e
    omega
theorem words_nd (c : Int) (many : Nat) (hm : many ≤ 8) : (words c many).Nodup := by
  unfold words
  split
  · split
    · refine nodup_map_range _ _ fun i j hi hj e => ?_
      have := congrArg List.length e
      rw [List.length_take, List.length_take, wlong_len] at this
      omega
    · refine nodup_map_range _ _ fun i j hi hj e => ?_
      have := congrArg List.length e
      rw [List.length_drop, List.length_drop, wlong_len] at this
      omega
  · refine nodup_map_range _ _ fun i j hi hj e => ?_
    rw [List.append_assoc, List.append_assoc] at e
    have e1 := List.append_cancel_left e
    have e2 := List.append_cancel_right e1
    have e3 : lt26 (c / 7 + 5 * (i : Int)) = lt26 (c / 7 + 5 * (j : Int)) := by simpa using e2
    have := lt26_inj e3
    omega
theorem words_word (c : Int) (many : Nat) (hm : many ≤ 8) : ∀ x ∈ words c many, Word x := by
  unfold words
  split
  · split
    · intro x hx
      obtain ⟨k, hk, rfl⟩ := List.mem_map.mp hx
      have hk := List.mem_range.mp hk
      refine ⟨by rw [List.length_take, wlong_len]; omega, by rw [List.length_take, wlong_len]; omega, fun y hy => wlong_low c y (List.mem_of_mem_take hy)⟩
    · intro x hx
      obtain ⟨k, hk, rfl⟩ := List.mem_map.mp hx
      have hk := List.mem_range.mp hk
      refine ⟨by rw [List.length_drop, wlong_len]; omega, by rw [List.length_drop, wlong_len]; omega, fun y hy => wlong_low c y (List.mem_of_mem_drop hy)⟩
  · intro x hx
    obtain ⟨k, hk, rfl⟩ := List.mem_map.mp hx
    have h1 := Int.emod_nonneg (c / 4) (b := 8) (by decide)
    have h2 := Int.emod_lt_of_pos (c / 4) (b := 8) (by decide)
    have h3 := Int.emod_nonneg (c / 256) (b := c / 4 % 8 + 1) (by omega)
    have h4 := Int.emod_lt_of_pos (c / 256) (b := c / 4 % 8 + 1) (by omega)
    have hl : ((wstem c (c / 4 % 8).toNat).take (c / 256 % (c / 4 % 8 + 1)).toNat ++ [lt26 (c / 7 + 5 * (k : Int))] ++ (wstem c (c / 4 % 8).toNat).drop (c / 256 % (c / 4 % 8 + 1)).toNat).length = (c / 4 % 8).toNat + 1 := by
      rw [List.length_append, List.length_append, List.length_take, List.length_drop, wstem_len]; simp; omega
    refine ⟨by rw [hl]; omega, by rw [hl]; omega, fun y hy => ?_⟩
    rcases List.mem_append.mp hy with hy | hy
    · rcases List.mem_append.mp hy with hy | hy
      · exact wstem_low c _ y (List.mem_of_mem_take hy)
      · have : y = lt26 (c / 7 + 5 * (k : Int)) := by simpa using hy
        subst this; exact wl_low _ (lt26_mem _)
    · exact wstem_low c _ y (List.mem_of_mem_drop hy)
end My

set_option linter.all false
namespace Mi
open PySem
/-! ### texts as lists of codes -/
def S' (l : List Nat) : Str := ⟨l.toArray⟩
theorem S'_list (l : List Nat) : (S' l).cps.toList = l := rfl
theorem S'_len (l : List Nat) : (S' l).length = l.length := by simp [S', Str.length]
theorem str_ext' {x y : Str} (h : x.cps.toList = y.cps.toList) : x = y := by
  obtain ⟨a⟩ := x
  obtain ⟨b⟩ := y
  have h : a.toList = b.toList := h
  rw [Array.toList_inj.mp h]
theorem S'_inj {l m : List Nat} (h : S' l = S' m) : l = m := by
  have := congrArg (fun x : Str => x.cps.toList) h
  simpa [S'] using this
theorem S'_app (l m : List Nat) : S' l ++ S' m = S' (l ++ m) := by
  show (⟨l.toArray ++ m.toArray⟩ : Str) = ⟨(l ++ m).toArray⟩
  simp
theorem join_list' : ∀ l : List Str, (Str.join "" l).cps.toList = l.flatMap (·.cps.toList)
  | [] => by simp [Str.join, Str.empty]
  | [x] => by simp [Str.join]
  | x :: y :: r => by
    have ih := join_list' (y :: r)
    have e : Str.join "" (x :: y :: r) = x ++ "" ++ Str.join "" (y :: r) := rfl
    have e2 : ("" : Str).cps.toList = [] := by decide +kernel
    rw [e]
    show ((x.cps ++ ("" : Str).cps) ++ (Str.join "" (y :: r)).cps).toList = _
    rw [Array.toList_append, Array.toList_append, e2, ih]
    simp
theorem join_ones (l : List Nat) : Str.join "" (l.map fun x => S' [x]) = S' l := by
  refine str_ext' ?_
  rw [join_list', S'_list]
  induction l with
  | nil => rfl
  | cons a r ih => rw [List.map_cons, List.flatMap_cons, ih]; rfl
theorem cut_head {α : Type} (xs : List α) (k : Nat) : cutL xs none (some (k : Int)) = xs.take k := by
  show (xs.drop 0).take ((if (k : Int) < 0 then ((k : Int) + (xs.length : Int)).toNat else min (k : Int).toNat xs.length) - 0) = _
  rw [if_neg (by omega), List.drop_zero, Nat.sub_zero, Int.toNat_natCast]
  rcases Nat.le_total k xs.length with h | h
  · rw [Nat.min_eq_left h]
  · rw [Nat.min_eq_right h, List.take_of_length_le (Nat.le_refl _), List.take_of_length_le h]
theorem cut_tail {α : Type} (xs : List α) (k : Nat) : cutL xs (some (k : Int)) none = xs.drop k := by
  show (xs.drop (if (k : Int) < 0 then ((k : Int) + (xs.length : Int)).toNat else min (k : Int).toNat xs.length)).take (xs.length - (if (k : Int) < 0 then ((k : Int) + (xs.length : Int)).toNat else min (k : Int).toNat xs.length)) = _
  rw [if_neg (by omega), Int.toNat_natCast]
  rcases Nat.le_total k xs.length with h | h
  · rw [Nat.min_eq_left h]
    exact List.take_of_length_le (by rw [List.length_drop]; exact Nat.le_refl _)
  · rw [Nat.min_eq_right h, List.drop_of_length_le (Nat.le_refl _), List.drop_of_length_le h]; simp
theorem cutStr_head (l : List Nat) (k : Nat) : cutStr (S' l) none (some (k : Int)) = S' (l.take k) := by
  unfold cutStr; rw [S'_list, cut_head]; rfl
theorem cutStr_tail (l : List Nat) (k : Nat) : cutStr (S' l) (some (k : Int)) none = S' (l.drop k) := by
  unfold cutStr; rw [S'_list, cut_tail]; rfl
def ltrs' : Str := "etaoinshrdlucmfwypvbgkqjxz"
theorem ltrs'_list : ltrs'.cps.toList = My.wl := by decide +kernel
theorem ltrs'_len : ltrs'.length ≤ 16777216 := by decide +kernel
theorem at_ok {α : Type} {xs : List α} {i : Int} (h0 : 0 ≤ i) (h1 : i < xs.length) (d : α) : atI xs i = some (xs.getD i.toNat d) := by
  unfold atI ixN
  rw [if_pos h0, if_pos h1]
  have h3 : i.toNat < xs.length := by omega
  show xs[i.toNat]? = _
  rw [List.getD_eq_getElem?_getD, List.getElem?_eq_getElem h3]; rfl
theorem at_ltrs (n : Int) : atI ltrs'.cps.toList (n % 26) = some (My.lt26 n) := by
  rw [ltrs'_list]
  have h1 := Int.emod_nonneg n (b := 26) (by decide)
  have h2 := Int.emod_lt_of_pos n (b := 26) (by decide)
  exact at_ok h1 (by rw [My.wl_len]; omega) 0
theorem ix_ints {cs : List Int} {i : Int} (h0 : 0 ≤ i) (h1 : i < cs.length) : dIx (.lst (cs.map D.int)) (.int i) = .ok (.int (cs.getD i.toNat 0)) := by
  show ofO (atI (cs.map D.int) i) = _
  rw [at_ok h0 (by rw [List.length_map]; exact h1) (.int 0), ofO_some]
  have h3 : i.toNat < cs.length := by omega
  rw [List.getD_eq_getElem?_getD, List.getElem?_map, List.getD_eq_getElem?_getD, List.getElem?_eq_getElem h3]; rfl
theorem ix_strs {cs : List Str} {i : Int} (h0 : 0 ≤ i) (h1 : i < cs.length) : dIx (.lst (cs.map D.str)) (.int i) = .ok (.str (cs.getD i.toNat Str.empty)) := by
  show ofO (atI (cs.map D.str) i) = _
  rw [at_ok h0 (by rw [List.length_map]; exact h1) (.str Str.empty), ofO_some]
  have h3 : i.toNat < cs.length := by omega
  rw [List.getD_eq_getElem?_getD, List.getElem?_map, List.getD_eq_getElem?_getD, List.getElem?_eq_getElem h3]; rfl
theorem dRange_map (n : Nat) : dRange 0 (n : Int) = (List.range n).map fun (k : Nat) => D.int (k : Int) := by
  unfold dRange
  rw [show ((n : Int) - 0).toNat = n by omega]
  exact List.map_congr_left fun k _ => by rw [Int.zero_add]
theorem dRange_len (n : Nat) : (dRange 0 (n : Int)).length = n := by rw [dRange_map]; simp
theorem dRange_get {n i : Nat} {x : D} (h : (dRange 0 (n : Int))[i]? = some x) : i < n ∧ x = .int (i : Int) := by
  rw [dRange_map, List.getElem?_map] at h
  cases hr : (List.range n)[i]? with
  | none => rw [hr] at h; cases h
  | some k =>
    rw [hr] at h
    obtain ⟨h1, h2⟩ := List.getElem?_eq_some_iff.mp hr
    rw [List.getElem_range] at h2
    subst h2
    rw [List.length_range] at h1
    exact ⟨h1, (Option.some.inj h).symm⟩
/-- a comprehension over a range -/
theorem comp_range {tg : Tg} {a : E} {e : Mi.Env} (g : Nat → D) (n : Nat) (h : ∀ k < n, ∃ e1, tg.put (.int (k : Int)) e = .ok e1 ∧ a e1 = .ok (g k)) : compD tg cYes a e (dRange 0 (n : Int)) = .ok ((List.range n).map g) := by
  rw [dRange_map, comp_map (fun (k : Nat) => D.int (k : Int)) g (fun _ => true) (List.range n) fun k hk => ?_]
  · rw [List.filter_eq_self.mpr fun _ _ => rfl]
  · obtain ⟨e1, h1, h2⟩ := h k (List.mem_range.mp hk)
    exact ⟨e1, h1, rfl, fun _ => h2⟩
theorem okR_small {i : Int} (h0 : -1000 ≤ i) (h1 : i ≤ 1000) : okR i := by unfold okR; omega
theorem okMul_l {i j : Int} (h0 : -(2 ^ 64) < i) (h1 : i < 2 ^ 64) : okMul i j := .inl ⟨h0, h1⟩
theorem okMul_r {i j : Int} (h0 : -(2 ^ 64) < j) (h1 : j < 2 ^ 64) : okMul i j := .inr ⟨h0, h1⟩
theorem okDiv_small {j : Int} (h0 : 0 < j) (h1 : j < 2 ^ 64) : okDiv j := by
  refine ⟨h0, ?_⟩
  have h2 : j.natAbs < 2 ^ 64 := by omega
  have h3 : j.natAbs ≠ 0 := by omega
  have := (Nat.log2_lt h3).mpr h2
  omega
end Mi

set_option linter.all false
set_option maxRecDepth 10000
namespace Mr
open PySem Mi
open My (words wlong wstem lt26 wlong_len wstem_len words_len words_nd)
theorem emod26 (n : Int) : 0 ≤ n % 26 ∧ n % 26 < 26 := ⟨Int.emod_nonneg n (by decide), Int.emod_lt_of_pos n (by decide)⟩
theorem dIx_ltrs (n : Int) : dIx (.str ltrs') (.int (n % 26)) = .ok (.str (S' [lt26 n])) := by
  show guardR _ _ = _
  rw [guardR_pos ltrs'_len, at_ltrs]; rfl
theorem join_codes (l : List Nat) (h : l.length ≤ 8) : dJoin (.str "") (.lst (l.map fun x => D.str (S' [x]))) = .ok (.str (S' l)) := by
  show (ofO (asSs (l.map fun x => D.str (S' [x])))).bind _ = _
  have e : l.map (fun x => D.str (S' [x])) = (l.map fun x => S' [x]).map D.str := by rw [List.map_map]; rfl
  rw [e, asSs_map, ofO_some, bind_ok, guardR_pos ?_, join_ones]
  have h1 : ((l.map fun x => S' [x]).map (·.length)).sum = l.length := by
    clear h e
    induction l with
    | nil => rfl
    | cons a r ih => rw [List.map_cons, List.map_cons, List.sum_cons, ih, S'_len, List.length_cons]; simp; omega
  have h2 : ("" : Str).length = 0 := by decide +kernel
  rw [h1, h2]; omega
theorem st1 (c : Int) (k : Nat) (d32 : okDiv 32) (m5 : okMul 5 (k : Int)) (mk : okMul (k : Int) k) : (m2 dAdd (m2 dAdd (m2 dDiv (mV 1) (mC (.int 32))) (m2 dMulI (mC (.int 5)) (mV 2))) (m2 dMulI (mV 2) (mV 2))) [some (.d (.str ltrs')), some (.d (.int c)), some (.d (.int k))] = .ok (.int (c / 32 + 5 * (k : Int) + (k : Int) * (k : Int))) :=
  (m2_ok (m2_ok (m2_ok rfl rfl (guardR_pos d32)) (m2_ok rfl rfl (guardR_pos m5)) rfl) (m2_ok rfl rfl (guardR_pos mk)) rfl)
theorem st2 (c : Int) (e : Mi.Env) (a : E) (h : a e = .ok (.int c)) (h0 : e[0]? = some (some (.d (.str ltrs')))) : m2 dIx (mV 0) (m2 dMod a (mC (.int 26))) e = .ok (.str (S' [lt26 c])) :=
  m2_ok (x := .str ltrs') (by unfold mV; rw [h0]) (m2_ok h rfl (guardR_pos (by decide))) (dIx_ltrs _)
theorem okMul_kk {k n : Nat} (h : k < n) (h8 : n < 8) : okMul (k : Int) k := okMul_l (by omega) (by omega)
theorem size_of (c : Int) : ∃ n : Nat, c / 4 % 8 = (n : Int) ∧ n < 8 := by
  have z1 := Int.emod_nonneg (c / 4) (b := 8) (by decide)
  have z2 := Int.emod_lt_of_pos (c / 4) (b := 8) (by decide)
  exact ⟨(c / 4 % 8).toNat, by omega, by omega⟩
theorem at_of (c : Int) (n : Nat) : ∃ t : Nat, c / 256 % ((n : Int) + 1) = (t : Int) ∧ t ≤ n := by
  have z3 := Int.emod_nonneg (c / 256) (b := (n : Int) + 1) (by omega)
  have z4 := Int.emod_lt_of_pos (c / 256) (b := (n : Int) + 1) (by omega)
  exact ⟨(c / 256 % ((n : Int) + 1)).toNat, by omega, by omega⟩
theorem words_ok (c : Int) (m : Nat) (hm : m ≤ 8) : m_l_words [.d (.int c), .d (.int (m : Int))] = .ok (.d (strL ((words c m).map S'))) := by
  unfold m_l_words b_l_words
  rw [fnN2]
  have hr8 : okR 8 := okR_small (by decide) (by decide)
  have hrm : okR (m : Int) := okR_small (by omega) (by omega)
  have hl0 : (PySem.Str.ofString "etaoinshrdlucmfwypvbgkqjxz") = ltrs' := rfl
  have g4 : ∀ r : Rs D, guardR ((0 : Int) < 4) r = r := fun r => guardR_pos (by decide)
  have g26 : ∀ r : Rs D, guardR ((0 : Int) < 26) r = r := fun r => guardR_pos (by decide)
  have g8 : ∀ r : Rs D, guardR ((0 : Int) < 8) r = r := fun r => guardR_pos (by decide)
  by_cases c1 : c % 4 < 2
  · have hlong : compD (.n 2) cYes (m2 dIx (mV 0) (m2 dMod (m2 dDiv (mV 1) (m2 dAdd (mC (.int 4)) (m2 dMulI (mC (.int 3)) (mV 2)))) (mC (.int 26)))) [some (.d (.str ltrs')), some (.d (.int c)), none] (dRange 0 8) = .ok ((wlong c).map fun x => D.str (S' [x])) := by
      have := comp_range (tg := .n 2) (a := m2 dIx (mV 0) (m2 dMod (m2 dDiv (mV 1) (m2 dAdd (mC (.int 4)) (m2 dMulI (mC (.int 3)) (mV 2)))) (mC (.int 26)))) (e := [some (.d (.str ltrs')), some (.d (.int c)), none]) (fun k => D.str (S' [lt26 (c / (4 + 3 * (k : Int)))])) 8 fun k hk => ⟨[some (.d (.str ltrs')), some (.d (.int c)), some (.d (.int k))], rfl, by
        simp only [gle0, gle1, gle2, gle3, gle4, gle5, gle6, gle7, gle8, mV, m1, m2, mN, mArgs, mC, mAnd, mOr, mNot, mIfE, mChain, mPart, mSlF, cB, cAnd, cOr, cNot, cTru, cYes, iOf, iRange1, iRange2, iEnum, iZip2, iZip3, sSeq, sSet, sSetW, sPut, sDrop, sRet, sRetN, sIf, sFor, sWhile, sNext, sAppend, sExtend, sReverse, sClear, sPop, sPopAt, sAppendPop, sSetAt, sMove, sDPut, mDIn, mDNotIn, mDGet, wD, wV, mArgsW, wCall, mCall, mCallI, dTup, dLst, add_ii, add_ss, add_ll, cat_ll, sub_ii, mul_ii, div_ii, mod_ii, lt_ii, gt_ii, le_ii, ge_ii, neg_i, is_n, isnot_n, non_n, non_s, non_l, non_t, len_l, len_t, len_s, max_ii, min_ii, all_l, any_l, list_l, list_t, tuple_l, tuple_t, int_i, int_b, sl_l, sl_s, slL_l, items_l, items_t, litems_l, asB_b, asI_i, asD_d, asImm_d, tru_l, tru_t, put_n, put_t, all_nil, all_cons, out_rt, out_nx, outN_rt, ty_l, ty_s, ty_t, ty_i, ty_b, bIs, getL, putL, bind_ok, ofO_some, fnM1, fnM2, fnM3, fnM4, fnN1, fnN2, fnN3, fnN4, List.map_cons, List.map_nil, List.length_cons, List.length_nil, List.cons_append, List.nil_append, List.replicate_succ, List.replicate_zero, List.getElem?_cons_zero, List.getElem?_cons_succ, List.set_cons_zero, List.set_cons_succ, Nat.reduceSub, Nat.reduceAdd, Nat.zero_add]
        rw [guardR_pos (okMul_l (by decide) (by decide))]
        simp only [gle0, gle1, gle2, gle3, gle4, gle5, gle6, gle7, gle8, mV, m1, m2, mN, mArgs, mC, mAnd, mOr, mNot, mIfE, mChain, mPart, mSlF, cB, cAnd, cOr, cNot, cTru, cYes, iOf, iRange1, iRange2, iEnum, iZip2, iZip3, sSeq, sSet, sSetW, sPut, sDrop, sRet, sRetN, sIf, sFor, sWhile, sNext, sAppend, sExtend, sReverse, sClear, sPop, sPopAt, sAppendPop, sSetAt, sMove, sDPut, mDIn, mDNotIn, mDGet, wD, wV, mArgsW, wCall, mCall, mCallI, dTup, dLst, add_ii, add_ss, add_ll, cat_ll, sub_ii, mul_ii, div_ii, mod_ii, lt_ii, gt_ii, le_ii, ge_ii, neg_i, is_n, isnot_n, non_n, non_s, non_l, non_t, len_l, len_t, len_s, max_ii, min_ii, all_l, any_l, list_l, list_t, tuple_l, tuple_t, int_i, int_b, sl_l, sl_s, slL_l, items_l, items_t, litems_l, asB_b, asI_i, asD_d, asImm_d, tru_l, tru_t, put_n, put_t, all_nil, all_cons, out_rt, out_nx, outN_rt, ty_l, ty_s, ty_t, ty_i, ty_b, bIs, getL, putL, bind_ok, ofO_some, fnM1, fnM2, fnM3, fnM4, fnN1, fnN2, fnN3, fnN4, List.map_cons, List.map_nil, List.length_cons, List.length_nil, List.cons_append, List.nil_append, List.replicate_succ, List.replicate_zero, List.getElem?_cons_zero, List.getElem?_cons_succ, List.set_cons_zero, List.set_cons_succ, Nat.reduceSub, Nat.reduceAdd, Nat.zero_add]
        rw [guardR_pos (okDiv_small (by omega) (by omega))]
        simp only [gle0, gle1, gle2, gle3, gle4, gle5, gle6, gle7, gle8, mV, m1, m2, mN, mArgs, mC, mAnd, mOr, mNot, mIfE, mChain, mPart, mSlF, cB, cAnd, cOr, cNot, cTru, cYes, iOf, iRange1, iRange2, iEnum, iZip2, iZip3, sSeq, sSet, sSetW, sPut, sDrop, sRet, sRetN, sIf, sFor, sWhile, sNext, sAppend, sExtend, sReverse, sClear, sPop, sPopAt, sAppendPop, sSetAt, sMove, sDPut, mDIn, mDNotIn, mDGet, wD, wV, mArgsW, wCall, mCall, mCallI, dTup, dLst, add_ii, add_ss, add_ll, cat_ll, sub_ii, mul_ii, div_ii, mod_ii, lt_ii, gt_ii, le_ii, ge_ii, neg_i, is_n, isnot_n, non_n, non_s, non_l, non_t, len_l, len_t, len_s, max_ii, min_ii, all_l, any_l, list_l, list_t, tuple_l, tuple_t, int_i, int_b, sl_l, sl_s, slL_l, items_l, items_t, litems_l, asB_b, asI_i, asD_d, asImm_d, tru_l, tru_t, put_n, put_t, all_nil, all_cons, out_rt, out_nx, outN_rt, ty_l, ty_s, ty_t, ty_i, ty_b, bIs, getL, putL, bind_ok, ofO_some, fnM1, fnM2, fnM3, fnM4, fnN1, fnN2, fnN3, fnN4, List.map_cons, List.map_nil, List.length_cons, List.length_nil, List.cons_append, List.nil_append, List.replicate_succ, List.replicate_zero, List.getElem?_cons_zero, List.getElem?_cons_succ, List.set_cons_zero, List.set_cons_succ, Nat.reduceSub, Nat.reduceAdd, Nat.zero_add, g26, dIx_ltrs]⟩
      rw [show ((8 : Nat) : Int) = 8 from rfl] at this
      rw [this]
      unfold wlong
      rw [List.map_map]; rfl
    have hp : pickE [some 2, some 0, none] [some (.d (.int c)), some (.d (.int (m : Int))), some (.d (.str ltrs')), none, none, none, none] = [some (.d (.str ltrs')), some (.d (.int c)), none] := rfl
    have hj := join_codes (wlong c) (by rw [wlong_len]; omega)
    have hw8 : (dRange 0 8).length ≤ 16777216 := by rw [show (8 : Int) = ((8 : Nat) : Int) from rfl, dRange_len]; omega
    have hwm : (dRange 0 (m : Int)).length ≤ 16777216 := by rw [dRange_len]; omega
    by_cases c2 : c % 4 = 0
    · have hc : compD (.n 1) cYes (mSlF dSl (mV 0) none (some (m2 dAdd (mV 1) (mC (.int 1))))) [some (.d (.str (S' (wlong c)))), none] (dRange 0 (m : Int)) = .ok ((words c m).map fun l => D.str (S' l)) := by
        rw [comp_range (fun k => D.str (S' ((wlong c).take (k + 1)))) m fun k hk => ⟨[some (.d (.str (S' (wlong c)))), some (.d (.int k))], rfl, by
          simp only [gle0, gle1, gle2, gle3, gle4, gle5, gle6, gle7, gle8, mV, m1, m2, mN, mArgs, mC, mAnd, mOr, mNot, mIfE, mChain, mPart, mSlF, cB, cAnd, cOr, cNot, cTru, cYes, iOf, iRange1, iRange2, iEnum, iZip2, iZip3, sSeq, sSet, sSetW, sPut, sDrop, sRet, sRetN, sIf, sFor, sWhile, sNext, sAppend, sExtend, sReverse, sClear, sPop, sPopAt, sAppendPop, sSetAt, sMove, sDPut, mDIn, mDNotIn, mDGet, wD, wV, mArgsW, wCall, mCall, mCallI, dTup, dLst, add_ii, add_ss, add_ll, cat_ll, sub_ii, mul_ii, div_ii, mod_ii, lt_ii, gt_ii, le_ii, ge_ii, neg_i, is_n, isnot_n, non_n, non_s, non_l, non_t, len_l, len_t, len_s, max_ii, min_ii, all_l, any_l, list_l, list_t, tuple_l, tuple_t, int_i, int_b, sl_l, sl_s, slL_l, items_l, items_t, litems_l, asB_b, asI_i, asD_d, asImm_d, tru_l, tru_t, put_n, put_t, all_nil, all_cons, out_rt, out_nx, outN_rt, ty_l, ty_s, ty_t, ty_i, ty_b, bIs, getL, putL, bind_ok, ofO_some, fnM1, fnM2, fnM3, fnM4, fnN1, fnN2, fnN3, fnN4, List.map_cons, List.map_nil, List.length_cons, List.length_nil, List.cons_append, List.nil_append, List.replicate_succ, List.replicate_zero, List.getElem?_cons_zero, List.getElem?_cons_succ, List.set_cons_zero, List.set_cons_succ, Nat.reduceSub, Nat.reduceAdd, Nat.zero_add]
          rw [guardR_pos (by rw [S'_len, wlong_len]; omega), show (k : Int) + 1 = ((k + 1 : Nat) : Int) by omega, cutStr_head]⟩]
        unfold words
        rw [if_pos c1, if_pos c2, List.map_map]; rfl
      have hp2 : ∀ z, pickE [some 3, none] [some (.d (.int c)), some (.d (.int (m : Int))), some (.d (.str ltrs')), some z, none, none, none] = [some z, none] := fun _ => rfl
      have hmod : cB (m2 dLt (m2 dMod (mV 0) (mC (.int 4))) (mC (.int 2))) [some (.d (.int c)), some (.d (.int (m : Int))), some (.d (.str ltrs')), none, none, none, none] = .ok true :=
        cB_ok ((m2_ok (m2_ok rfl rfl (g4 _)) rfl rfl).trans (by rw [lt_ii, decide_eq_true c1]))
      have hmod2 : cB (m2 dEq (m2 dMod (mV 0) (mC (.int 4))) (mC (.int 0))) [some (.d (.int c)), some (.d (.int (m : Int))), some (.d (.str ltrs')), some (.d (.str (S' (wlong c)))), none, none, none] = .ok true :=
        cB_ok ((m2_ok (m2_ok rfl rfl (g4 _)) rfl rfl).trans (by rw [dEq_int, decide_eq_true c2]))
      show Rs.bind _ fnOutN = _
      rw [seq_ok (e' := [some (.d (.int c)), some (.d (.int (m : Int))), some (.d (.str ltrs')), none, none, none, none]) (set_ok rfl)]
      refine (congrArg (fun r => Rs.bind r fnOutN) (seq_rt (w := .d (strL ((words c m).map S'))) ?_)).trans rfl
      rw [if_tt hmod, seq_ok (e' := [some (.d (.int c)), some (.d (.int (m : Int))), some (.d (.str ltrs')), some (.d (.str (S' (wlong c)))), none, none, none]) (set_ok (m2_ok rfl (comp_ok (rng_ok rfl hr8) hw8 hlong) hj))]
      rw [seq_rt ((if_tt hmod2).trans (ret_ok (wD_ok (comp_ok (rng_ok rfl hrm) hwm hc))))]
      rw [strL, List.map_map]
      rfl
    · have hc : compD (.n 1) cYes (mSlF dSl (mV 0) (some (m2 dSub (mC (.int 7)) (mV 1))) none) [some (.d (.str (S' (wlong c)))), none] (dRange 0 (m : Int)) = .ok ((words c m).map fun l => D.str (S' l)) := by
        rw [comp_range (fun k => D.str (S' ((wlong c).drop (7 - k)))) m fun k hk => ⟨[some (.d (.str (S' (wlong c)))), some (.d (.int k))], rfl, by
          simp only [gle0, gle1, gle2, gle3, gle4, gle5, gle6, gle7, gle8, mV, m1, m2, mN, mArgs, mC, mAnd, mOr, mNot, mIfE, mChain, mPart, mSlF, cB, cAnd, cOr, cNot, cTru, cYes, iOf, iRange1, iRange2, iEnum, iZip2, iZip3, sSeq, sSet, sSetW, sPut, sDrop, sRet, sRetN, sIf, sFor, sWhile, sNext, sAppend, sExtend, sReverse, sClear, sPop, sPopAt, sAppendPop, sSetAt, sMove, sDPut, mDIn, mDNotIn, mDGet, wD, wV, mArgsW, wCall, mCall, mCallI, dTup, dLst, add_ii, add_ss, add_ll, cat_ll, sub_ii, mul_ii, div_ii, mod_ii, lt_ii, gt_ii, le_ii, ge_ii, neg_i, is_n, isnot_n, non_n, non_s, non_l, non_t, len_l, len_t, len_s, max_ii, min_ii, all_l, any_l, list_l, list_t, tuple_l, tuple_t, int_i, int_b, sl_l, sl_s, slL_l, items_l, items_t, litems_l, asB_b, asI_i, asD_d, asImm_d, tru_l, tru_t, put_n, put_t, all_nil, all_cons, out_rt, out_nx, outN_rt, ty_l, ty_s, ty_t, ty_i, ty_b, bIs, getL, putL, bind_ok, ofO_some, fnM1, fnM2, fnM3, fnM4, fnN1, fnN2, fnN3, fnN4, List.map_cons, List.map_nil, List.length_cons, List.length_nil, List.cons_append, List.nil_append, List.replicate_succ, List.replicate_zero, List.getElem?_cons_zero, List.getElem?_cons_succ, List.set_cons_zero, List.set_cons_succ, Nat.reduceSub, Nat.reduceAdd, Nat.zero_add]
          rw [guardR_pos (by rw [S'_len, wlong_len]; omega), show (7 : Int) - (k : Int) = ((7 - k : Nat) : Int) by omega, cutStr_tail]⟩]
        unfold words
        rw [if_pos c1, if_neg c2, List.map_map]; rfl
      have hp2 : ∀ z, pickE [some 3, none] [some (.d (.int c)), some (.d (.int (m : Int))), some (.d (.str ltrs')), some z, none, none, none] = [some z, none] := fun _ => rfl
      have hmod : cB (m2 dLt (m2 dMod (mV 0) (mC (.int 4))) (mC (.int 2))) [some (.d (.int c)), some (.d (.int (m : Int))), some (.d (.str ltrs')), none, none, none, none] = .ok true :=
        cB_ok ((m2_ok (m2_ok rfl rfl (g4 _)) rfl rfl).trans (by rw [lt_ii, decide_eq_true c1]))
      have hmod2 : cB (m2 dEq (m2 dMod (mV 0) (mC (.int 4))) (mC (.int 0))) [some (.d (.int c)), some (.d (.int (m : Int))), some (.d (.str ltrs')), some (.d (.str (S' (wlong c)))), none, none, none] = .ok false :=
        cB_ok ((m2_ok (m2_ok rfl rfl (g4 _)) rfl rfl).trans (by rw [dEq_int, decide_eq_false c2]))
      show Rs.bind _ fnOutN = _
      rw [seq_ok (e' := [some (.d (.int c)), some (.d (.int (m : Int))), some (.d (.str ltrs')), none, none, none, none]) (set_ok rfl)]
      refine (congrArg (fun r => Rs.bind r fnOutN) (seq_rt (w := .d (strL ((words c m).map S'))) ?_)).trans rfl
      rw [if_tt hmod, seq_ok (e' := [some (.d (.int c)), some (.d (.int (m : Int))), some (.d (.str ltrs')), some (.d (.str (S' (wlong c)))), none, none, none]) (set_ok (m2_ok rfl (comp_ok (rng_ok rfl hr8) hw8 hlong) hj))]
      rw [seq_ok (if_ff hmod2), ret_ok (wD_ok (comp_ok (rng_ok rfl hrm) hwm hc))]
      rw [strL, List.map_map]
      rfl
  · obtain ⟨n, hn, hn8⟩ := size_of c
    obtain ⟨t, ht, ht8⟩ := at_of c n
    have hrn : okR (n : Int) := okR_small (by omega) (by omega)
    have d4 : okDiv 4 := okDiv_small (by decide) (by decide)
    have d32 : okDiv 32 := okDiv_small (by decide) (by decide)
    have d256 : okDiv 256 := okDiv_small (by decide) (by decide)
    have d7 : okDiv 7 := okDiv_small (by decide) (by decide)
    have hstem : compD (.n 2) cYes (m2 dIx (mV 0) (m2 dMod (m2 dAdd (m2 dAdd (m2 dDiv (mV 1) (mC (.int 32))) (m2 dMulI (mC (.int 5)) (mV 2))) (m2 dMulI (mV 2) (mV 2))) (mC (.int 26)))) [some (.d (.str ltrs')), some (.d (.int c)), none] (dRange 0 (n : Int)) = .ok ((wstem c n).map fun x => D.str (S' [x])) := by
      rw [comp_range (fun k => D.str (S' [lt26 (c / 32 + 5 * (k : Int) + (k : Int) * (k : Int))])) n fun k hk => ⟨[some (.d (.str ltrs')), some (.d (.int c)), some (.d (.int k))], rfl, by
        exact st2 _ _ _ (st1 c k d32 (okMul_l (by decide) (by decide)) (okMul_kk hk hn8)) rfl⟩]
      unfold wstem
      rw [List.map_map]; rfl
    have hp : pickE [some 2, some 0, none] [some (.d (.int c)), some (.d (.int (m : Int))), some (.d (.str ltrs')), none, some (.d (.int (n : Int))), none, none] = [some (.d (.str ltrs')), some (.d (.int c)), none] := rfl
    have hj := join_codes (wstem c n) (by rw [wstem_len]; omega)
    have hwn : (dRange 0 (n : Int)).length ≤ 16777216 := by rw [dRange_len]; omega
    have hwm : (dRange 0 (m : Int)).length ≤ 16777216 := by rw [dRange_len]; omega
    have hc : compD (.n 4) cYes (m2 dAdd (m2 dAdd (mSlF dSl (mV 0) none (some (mV 2))) (m2 dIx (mV 1) (m2 dMod (m2 dAdd (m2 dDiv (mV 3) (mC (.int 7))) (m2 dMulI (mC (.int 5)) (mV 4))) (mC (.int 26))))) (mSlF dSl (mV 0) (some (mV 2)) none))
        [some (.d (.str (S' (wstem c n)))), some (.d (.str ltrs')), some (.d (.int (t : Int))), some (.d (.int c)), none] (dRange 0 (m : Int)) = .ok ((words c m).map fun l => D.str (S' l)) := by
      rw [comp_range (fun k => D.str (S' ((wstem c n).take t ++ [lt26 (c / 7 + 5 * (k : Int))] ++ (wstem c n).drop t))) m fun k hk => ⟨[some (.d (.str (S' (wstem c n)))), some (.d (.str ltrs')), some (.d (.int (t : Int))), some (.d (.int c)), some (.d (.int k))], rfl, by
        have gS : ∀ r : Rs D, guardR ((S' (wstem c n)).length ≤ 16777216) r = r := fun r => guardR_pos (by rw [S'_len, wstem_len]; omega)
        have gM : ∀ r : Rs D, guardR (okMul 5 (k : Int)) r = r := fun r => guardR_pos (okMul_l (by decide) (by decide))
        simp only [gle0, gle1, gle2, gle3, gle4, gle5, gle6, gle7, gle8, mV, m1, m2, mN, mArgs, mC, mAnd, mOr, mNot, mIfE, mChain, mPart, mSlF, cB, cAnd, cOr, cNot, cTru, cYes, iOf, iRange1, iRange2, iEnum, iZip2, iZip3, sSeq, sSet, sSetW, sPut, sDrop, sRet, sRetN, sIf, sFor, sWhile, sNext, sAppend, sExtend, sReverse, sClear, sPop, sPopAt, sAppendPop, sSetAt, sMove, sDPut, mDIn, mDNotIn, mDGet, wD, wV, mArgsW, wCall, mCall, mCallI, dTup, dLst, add_ii, add_ss, add_ll, cat_ll, sub_ii, mul_ii, div_ii, mod_ii, lt_ii, gt_ii, le_ii, ge_ii, neg_i, is_n, isnot_n, non_n, non_s, non_l, non_t, len_l, len_t, len_s, max_ii, min_ii, all_l, any_l, list_l, list_t, tuple_l, tuple_t, int_i, int_b, sl_l, sl_s, slL_l, items_l, items_t, litems_l, asB_b, asI_i, asD_d, asImm_d, tru_l, tru_t, put_n, put_t, all_nil, all_cons, out_rt, out_nx, outN_rt, ty_l, ty_s, ty_t, ty_i, ty_b, bIs, getL, putL, bind_ok, ofO_some, fnM1, fnM2, fnM3, fnM4, fnN1, fnN2, fnN3, fnN4, List.map_cons, List.map_nil, List.length_cons, List.length_nil, List.cons_append, List.nil_append, List.replicate_succ, List.replicate_zero, List.getElem?_cons_zero, List.getElem?_cons_succ, List.set_cons_zero, List.set_cons_succ, Nat.reduceSub, Nat.reduceAdd, Nat.zero_add, guardR_pos d7, gS, gM, g26, dIx_ltrs, cutStr_head, cutStr_tail]
        rw [guardR_pos (by rw [S'_len, S'_len, List.length_take, wstem_len]; simp; omega)]
        simp only [gle0, gle1, gle2, gle3, gle4, gle5, gle6, gle7, gle8, mV, m1, m2, mN, mArgs, mC, mAnd, mOr, mNot, mIfE, mChain, mPart, mSlF, cB, cAnd, cOr, cNot, cTru, cYes, iOf, iRange1, iRange2, iEnum, iZip2, iZip3, sSeq, sSet, sSetW, sPut, sDrop, sRet, sRetN, sIf, sFor, sWhile, sNext, sAppend, sExtend, sReverse, sClear, sPop, sPopAt, sAppendPop, sSetAt, sMove, sDPut, mDIn, mDNotIn, mDGet, wD, wV, mArgsW, wCall, mCall, mCallI, dTup, dLst, add_ii, add_ss, add_ll, cat_ll, sub_ii, mul_ii, div_ii, mod_ii, lt_ii, gt_ii, le_ii, ge_ii, neg_i, is_n, isnot_n, non_n, non_s, non_l, non_t, len_l, len_t, len_s, max_ii, min_ii, all_l, any_l, list_l, list_t, tuple_l, tuple_t, int_i, int_b, sl_l, sl_s, slL_l, items_l, items_t, litems_l, asB_b, asI_i, asD_d, asImm_d, tru_l, tru_t, put_n, put_t, all_nil, all_cons, out_rt, out_nx, outN_rt, ty_l, ty_s, ty_t, ty_i, ty_b, bIs, getL, putL, bind_ok, ofO_some, fnM1, fnM2, fnM3, fnM4, fnN1, fnN2, fnN3, fnN4, List.map_cons, List.map_nil, List.length_cons, List.length_nil, List.cons_append, List.nil_append, List.replicate_succ, List.replicate_zero, List.getElem?_cons_zero, List.getElem?_cons_succ, List.set_cons_zero, List.set_cons_succ, Nat.reduceSub, Nat.reduceAdd, Nat.zero_add, S'_app]
        rw [guardR_pos (by rw [S'_len, S'_len, List.length_append, List.length_take, List.length_drop, wstem_len]; simp; omega)]⟩]
      unfold words
      rw [if_neg c1, List.map_map, hn, ht]
      rfl
    have hmod : cB (m2 dLt (m2 dMod (mV 0) (mC (.int 4))) (mC (.int 2))) [some (.d (.int c)), some (.d (.int (m : Int))), some (.d (.str ltrs')), none, none, none, none] = .ok false :=
      cB_ok ((m2_ok (m2_ok rfl rfl (g4 _)) rfl rfl).trans (by rw [lt_ii, decide_eq_false c1]))
    show Rs.bind _ fnOutN = _
    rw [seq_ok (e' := [some (.d (.int c)), some (.d (.int (m : Int))), some (.d (.str ltrs')), none, none, none, none]) (set_ok rfl)]
    rw [seq_ok (if_ff hmod)]
    rw [seq_ok (e' := [some (.d (.int c)), some (.d (.int (m : Int))), some (.d (.str ltrs')), none, some (.d (.int (n : Int))), none, none]) (set_ok (d := .int (n : Int)) ((m2_ok (m2_ok rfl rfl (guardR_pos d4)) rfl (g8 _)).trans (by rw [hn])))]
    rw [seq_ok (e' := [some (.d (.int c)), some (.d (.int (m : Int))), some (.d (.str ltrs')), none, some (.d (.int (n : Int))), some (.d (.str (S' (wstem c n)))), none]) (set_ok (m2_ok rfl (comp_ok (rng_ok rfl hrn) hwn hstem) hj))]
    rw [seq_ok (e' := [some (.d (.int c)), some (.d (.int (m : Int))), some (.d (.str ltrs')), none, some (.d (.int (n : Int))), some (.d (.str (S' (wstem c n)))), some (.d (.int (t : Int)))]) (set_ok (d := .int (t : Int)) ((m2_ok (m2_ok rfl rfl (guardR_pos d256)) (m2_ok rfl rfl rfl) (guardR_pos (by omega))).trans (by rw [ht])))]
    rw [ret_ok (wD_ok (comp_ok (rng_ok rfl hrm) hwm hc))]
    simp only [gle0, gle1, gle2, gle3, gle4, gle5, gle6, gle7, gle8, mV, m1, m2, mN, mArgs, mC, mAnd, mOr, mNot, mIfE, mChain, mPart, mSlF, cB, cAnd, cOr, cNot, cTru, cYes, iOf, iRange1, iRange2, iEnum, iZip2, iZip3, sSeq, sSet, sSetW, sPut, sDrop, sRet, sRetN, sIf, sFor, sWhile, sNext, sAppend, sExtend, sReverse, sClear, sPop, sPopAt, sAppendPop, sSetAt, sMove, sDPut, mDIn, mDNotIn, mDGet, wD, wV, mArgsW, wCall, mCall, mCallI, dTup, dLst, add_ii, add_ss, add_ll, cat_ll, sub_ii, mul_ii, div_ii, mod_ii, lt_ii, gt_ii, le_ii, ge_ii, neg_i, is_n, isnot_n, non_n, non_s, non_l, non_t, len_l, len_t, len_s, max_ii, min_ii, all_l, any_l, list_l, list_t, tuple_l, tuple_t, int_i, int_b, sl_l, sl_s, slL_l, items_l, items_t, litems_l, asB_b, asI_i, asD_d, asImm_d, tru_l, tru_t, put_n, put_t, all_nil, all_cons, out_rt, out_nx, outN_rt, ty_l, ty_s, ty_t, ty_i, ty_b, bIs, getL, putL, bind_ok, ofO_some, fnM1, fnM2, fnM3, fnM4, fnN1, fnN2, fnN3, fnN4, List.map_cons, List.map_nil, List.length_cons, List.length_nil, List.cons_append, List.nil_append, List.replicate_succ, List.replicate_zero, List.getElem?_cons_zero, List.getElem?_cons_succ, List.set_cons_zero, List.set_cons_succ, Nat.reduceSub, Nat.reduceAdd, Nat.zero_add, strL, List.map_map]
    rfl
end Mr

set_option linter.all false
set_option maxRecDepth 10000
namespace Mr
open PySem Mi
open My (words words_len words_nd)
theorem seqD (n : Nat) (h : n ≤ 8) : okR (n : Int) := okR_small (by omega) (by omega)
theorem popAt_ints {ls : List Int} {z : Int} (h0 : 0 ≤ z) (h1 : z < ls.length) (hl : ls.length ≤ 100) : popAt (ls.map D.int) z = .ok (.int (ls.getD z.toNat 0), (ls.eraseIdx z.toNat).map D.int) := by
  have h3 : z.toNat < ls.length := by omega
  unfold popAt
  rw [guardR_pos (by omega), show ixN (ls.map D.int).length z = some z.toNat by
    unfold ixN
    rw [if_pos h0, if_pos (by rw [List.length_map]; exact h1)], ofO_some, bind_ok, List.getElem?_map, List.getElem?_eq_getElem h3, List.getD_eq_getElem?_getD, List.getElem?_eq_getElem h3]
  show Rs.ok (D.int ls[z.toNat], (ls.map D.int).eraseIdx z.toNat) = _
  have : ∀ (l : List Int) (k : Nat), (l.map D.int).eraseIdx k = (l.eraseIdx k).map D.int := by
    intro l
    induction l with
    | nil => intro k; rfl
    | cons a r ih =>
      intro k
      cases k with
      | zero => rfl
      | succ k => rw [List.map_cons, List.eraseIdx_cons_succ, ih k]; rfl
  rw [this]; rfl
theorem lst0 (e : Mi.Env) : mN dLst [] e = .ok (.lst []) := by
  show guardR (([] : List D).length ≤ 16777216) (Rs.ok (D.lst [])) = _
  exact guardR_pos (by simp)
theorem ranks_ok (d : Int) (m : Nat) (hm : m ≤ 8) : ∃ rs : List Int, m_l_ranks [.d (.int d), .d (.int (m : Int))] = .ok (.d (.lst (rs.map D.int))) ∧ rs.length = m := by
  unfold m_l_ranks b_l_ranks
  rw [fnN2]
  have hw : (dRange 0 (m : Int)).length ≤ 16777216 := by rw [dRange_len]; omega
  have hc : compD (.n 0) cYes (mV 0) [none] (dRange 0 (m : Int)) = .ok ((List.range m).map fun (k : Nat) => D.int (k : Int)) :=
    comp_range (fun k => D.int (k : Int)) m fun k _ => ⟨[some (.d (.int k))], rfl, rfl⟩
  have hr : ((List.range m).map fun (k : Nat) => D.int (k : Int)) = ((List.range m).map fun (k : Nat) => (k : Int)).map D.int := by rw [List.map_map]; rfl
  rw [hr] at hc
  obtain ⟨e', h1, h2⟩ := for_inv (tg := .n 4) (body := sSeq (sAppendPop 3 2 (m2 dMod (mV 0) (mN bLen [(mV 2)]))) (sSet 0 (m2 dDiv (mV 0) (m2 dSub (mV 1) (mV 4)))))
    (fun i e => ∃ (d : Int) (ls rs : List Int) (o : Option W), e = [some (.d (.int d)), some (.d (.int (m : Int))), some (.d (.lst (ls.map D.int))), some (.d (.lst (rs.map D.int))), o] ∧ ls.length + i = m ∧ rs.length = i) (dRange 0 (m : Int)) 0 (fun i x e hx ⟨d, ls, rs, o, he, hl, hrs⟩ => by
      obtain ⟨hi, rfl⟩ := dRange_get hx
      subst he
      rw [Nat.zero_add] at hl hrs
      have hpos : (0 : Int) < (ls.length : Int) := by omega
      have z1 := Int.emod_nonneg d (b := (ls.length : Int)) (by omega)
      have z2 := Int.emod_lt_of_pos d hpos
      refine ⟨[some (.d (.int d)), some (.d (.int (m : Int))), some (.d (.lst (ls.map D.int))), some (.d (.lst (rs.map D.int))), some (.d (.int (i : Int)))], [some (.d (.int (d / ((m : Int) - (i : Int))))), some (.d (.int (m : Int))), some (.d (.lst ((ls.eraseIdx (d % (ls.length : Int)).toNat).map D.int))), some (.d (.lst ((rs ++ [ls.getD (d % (ls.length : Int)).toNat 0]).map D.int))), some (.d (.int (i : Int)))], rfl, ?_, d / ((m : Int) - (i : Int)), ls.eraseIdx (d % (ls.length : Int)).toNat, rs ++ [ls.getD (d % (ls.length : Int)).toNat 0], some (.d (.int (i : Int))), rfl, ?_, ?_⟩
      · have h0 : m2 dMod (mV 0) (mN bLen [(mV 2)]) [some (.d (.int d)), some (.d (.int (m : Int))), some (.d (.lst (ls.map D.int))), some (.d (.lst (rs.map D.int))), some (.d (.int (i : Int)))] = .ok (.int (d % (ls.length : Int))) :=
          m2_ok (x := .int d) (y := .int (ls.length : Int)) rfl (by show Rs.ok (D.int ((ls.map D.int).length : Int)) = _; rw [List.length_map]) (guardR_pos hpos)
        rw [seq_ok (e' := [some (.d (.int d)), some (.d (.int (m : Int))), some (.d (.lst ((ls.eraseIdx (d % (ls.length : Int)).toNat).map D.int))), some (.d (.lst ((rs ++ [ls.getD (d % (ls.length : Int)).toNat 0]).map D.int))), some (.d (.int (i : Int)))])]
        · exact set_ok (m2_ok rfl (m2_ok rfl rfl rfl) (guardR_pos (okDiv_small (by omega) (by omega))))
        · unfold sAppendPop
          rw [h0]
          simp only [bind_ok, asI_i, getL, List.getElem?_cons_succ, List.getElem?_cons_zero, popAt_ints z1 z2 (by omega), putL, List.set_cons_succ, List.set_cons_zero]
          rw [guardR_pos (by rw [List.length_map]; omega), List.map_append]
          rfl
      · rw [List.length_eraseIdx_of_lt (by omega)]; omega
      · rw [List.length_append, hrs]; simp) [some (.d (.int d)), some (.d (.int (m : Int))), some (.d (.lst (((List.range m).map fun (k : Nat) => (k : Int)).map D.int))), some (.d (.lst [])), none] ⟨d, _, [], none, rfl, by simp, rfl⟩
  obtain ⟨d2, ls, rs, o, he, hl, hrs⟩ := h2
  subst he
  rw [dRange_len, Nat.zero_add] at hl hrs
  refine ⟨rs, ?_, hrs⟩
  rw [seq_ok (e' := [some (.d (.int d)), some (.d (.int (m : Int))), some (.d (.lst (((List.range m).map fun (k : Nat) => (k : Int)).map D.int))), none, none]) (set_ok (comp_ok (rng_ok rfl (seqD m hm)) hw hc))]
  rw [seq_ok (e' := [some (.d (.int d)), some (.d (.int (m : Int))), some (.d (.lst (((List.range m).map fun (k : Nat) => (k : Int)).map D.int))), some (.d (.lst [])), none]) (set_ok (lst0 _))]
  rw [seq_ok ((for_ok (rng_ok rfl (seqD m hm))).trans h1)]
  rfl
/-! ### lists without anything twice, by len(set(..)) -/
theorem met_len' (val : Nat → Str) : ∀ i, (met val i).length ≤ i
  | 0 => Nat.le_refl _
  | i + 1 => by
    have ih := met_len' val i
    unfold met
    split
    · omega
    · rw [List.length_append, List.length_singleton]; omega
theorem met_full (val : Nat → Str) : ∀ n, (met val n).length = n → met val n = (List.range n).map val ∧ (met val n).Nodup
  | 0, _ => ⟨rfl, List.nodup_nil⟩
  | n + 1, h => by
    have hl := met_len' val n
    unfold met at h ⊢
    split at h
    · omega
    · rename_i hm
      rw [if_neg hm]
      rw [List.length_append, List.length_singleton] at h
      obtain ⟨e, nd⟩ := met_full val n (by omega)
      refine ⟨by rw [e, List.range_succ, List.map_append]; rfl, ?_⟩
      rw [List.nodup_append]
      refine ⟨nd, by simp, fun a ha b hb => ?_⟩
      have : b = val n := by simpa using hb
      subst this
      exact fun z => hm (z ▸ ha)
theorem nodup_of_lenSet {ys : List Str} (h : ys.length ≤ lenSet ys) : ys.Nodup := by
  unfold lenSet at h
  have hl := met_len' (fun i => ys.getD i Str.empty) ys.length
  obtain ⟨e, nd⟩ := met_full _ ys.length (Nat.le_antisymm hl h)
  have : (List.range ys.length).map (fun i => ys.getD i Str.empty) = ys := by
    refine List.ext_getElem (by simp) fun i h1 h2 => ?_
    simp [List.getD_eq_getElem?_getD, h2]
  rw [this] at e
  rw [← e]; exact nd
def abc : Str := "abcdefghijklmnopqrstuvwxyz"
theorem abc_len : abc.length ≤ 16777216 := by decide +kernel
theorem abc_size : abc.cps.toList.length = 26 := by decide +kernel
theorem dIx_abc (n : Int) : ∃ c, dIx (.str abc) (.int (n % 26)) = .ok (.str (S' [c])) := by
  have h1 := Int.emod_nonneg n (b := 26) (by decide)
  have h2 := Int.emod_lt_of_pos n (b := 26) (by decide)
  refine ⟨abc.cps.toList.getD (n % 26).toNat 0, ?_⟩
  show guardR _ _ = _
  rw [guardR_pos abc_len, at_ok h1 (by rw [abc_size]; omega) 0]; rfl
theorem names_ok (ds : List Int) (hd : ds.length = 63) (m : Nat) (hm : m ≤ 8) : ∃ names : List Str, m_l_names [.d (.lst (ds.map D.int)), .d (.int (m : Int))] = .ok (.d (strL names)) ∧ names.length = m ∧ names.Nodup := by
  have inner : ∀ (k : Nat) (x : Str) (o : Option W) (rest : Int) (ns : List Str), ∀ j : Nat, x.length + j ≤ 64 → ∃ (x' : Str) (o' : Option W) (rest' : Int), forD (.n 7) (sSeq (sSet 6 (m2 dAdd (mV 6) (m2 dIx (mV 2) (m2 dMod (mV 5) (mC (.int 26)))))) (sSet 5 (m2 dDiv (mV 5) (mC (.int 26)))))
      (dRange 0 (j : Int)) [some (.d (.lst (ds.map D.int))), some (.d (.int (m : Int))), some (.d (.str abc)), some (.d (strL ns)), some (.d (.int (k : Int))), some (.d (.int rest)), some (.d (.str x)), o] =
      .ok (.nx [some (.d (.lst (ds.map D.int))), some (.d (.int (m : Int))), some (.d (.str abc)), some (.d (strL ns)), some (.d (.int (k : Int))), some (.d (.int rest')), some (.d (.str x')), o']) := by
    intro k x o rest ns j hj
    obtain ⟨e', h1, x', rest', o', he, hl⟩ := for_inv (tg := .n 7) (body := sSeq (sSet 6 (m2 dAdd (mV 6) (m2 dIx (mV 2) (m2 dMod (mV 5) (mC (.int 26)))))) (sSet 5 (m2 dDiv (mV 5) (mC (.int 26)))))
      (fun i e => ∃ (y : Str) (r : Int) (o : Option W), e = [some (.d (.lst (ds.map D.int))), some (.d (.int (m : Int))), some (.d (.str abc)), some (.d (strL ns)), some (.d (.int (k : Int))), some (.d (.int r)), some (.d (.str y)), o] ∧ y.length = x.length + i) (dRange 0 (j : Int)) 0 (fun i z e hz ⟨y, r, o, he, hl⟩ => by
        obtain ⟨hi, rfl⟩ := dRange_get hz
        subst he
        obtain ⟨c, hc⟩ := dIx_abc r
        refine ⟨[some (.d (.lst (ds.map D.int))), some (.d (.int (m : Int))), some (.d (.str abc)), some (.d (strL ns)), some (.d (.int (k : Int))), some (.d (.int r)), some (.d (.str y)), some (.d (.int (i : Int)))],
          [some (.d (.lst (ds.map D.int))), some (.d (.int (m : Int))), some (.d (.str abc)), some (.d (strL ns)), some (.d (.int (k : Int))), some (.d (.int (r / 26))), some (.d (.str (y ++ S' [c]))), some (.d (.int (i : Int)))], rfl, ?_, y ++ S' [c], r / 26, _, rfl, ?_⟩
        · rw [seq_ok (e' := [some (.d (.lst (ds.map D.int))), some (.d (.int (m : Int))), some (.d (.str abc)), some (.d (strL ns)), some (.d (.int (k : Int))), some (.d (.int r)), some (.d (.str (y ++ S' [c]))), some (.d (.int (i : Int)))]) (set_ok (m2_ok (x := .str y) (y := .str (S' [c])) rfl ((m2_ok rfl (m2_ok rfl rfl (guardR_pos (by decide))) hc)) (guardR_pos (by rw [S'_len]; simp; omega))))]
          exact set_ok (m2_ok rfl rfl (guardR_pos (okDiv_small (by decide) (by decide))))
        · show (y.cps ++ (S' [c]).cps).size = _
          rw [Array.size_append]
          show y.length + 1 = _
          omega) _ ⟨x, rest, o, rfl, rfl⟩
    subst he
    exact ⟨x', o', rest', h1⟩
  have hd48 : ∀ (k : Nat), k < 8 → dIx (.lst (ds.map D.int)) (.int (48 + (k : Int))) = .ok (.int (ds.getD (48 + k) 0)) := fun k hk => by
    have := ix_ints (cs := ds) (i := 48 + (k : Int)) (by omega) (by omega)
    rw [show (48 + (k : Int)).toNat = 48 + k by omega] at this
    exact this
  have hd1 : dIx (.lst (ds.map D.int)) (.int 1) = .ok (.int (ds.getD 1 0)) := ix_ints (by decide) (by omega)
  unfold m_l_names b_l_names
  rw [fnN2]
  have hab : (PySem.Str.ofString "abcdefghijklmnopqrstuvwxyz") = abc := rfl
  obtain ⟨e', h1, ns, o4, o5, o6, o7, he, hl⟩ := for_inv (tg := .n 4) (body := (sSeq (sSet 5 (m2 dDiv (m2 dIx (mV 0) (m2 dAdd (mC (.int 48)) (mV 4))) (mC (.int 6))))
      (sSeq (sSet 6 (mC (.str "")))
      (sSeq (sFor (iRange1 (m2 dAdd (mC (.int 1)) (m2 dMod (m2 dIx (mV 0) (m2 dAdd (mC (.int 48)) (mV 4))) (mC (.int 6))))) (.n 7)
      (sSeq (sSet 6 (m2 dAdd (mV 6) (m2 dIx (mV 2) (m2 dMod (mV 5) (mC (.int 26))))))
      (sSet 5 (m2 dDiv (mV 5) (mC (.int 26))))))
      (sAppend 3 (mV 6))))))
    (fun i e => ∃ (ns : List Str) (o4 o5 o6 o7 : Option W), e = [some (.d (.lst (ds.map D.int))), some (.d (.int (m : Int))), some (.d (.str abc)), some (.d (strL ns)), o4, o5, o6, o7] ∧ ns.length = i) (dRange 0 (m : Int)) 0 (fun i x e hx ⟨ns, o4, o5, o6, o7, he, hl⟩ => by
      obtain ⟨hi, rfl⟩ := dRange_get hx
      subst he
      rw [Nat.zero_add] at hl
      obtain ⟨v, hv⟩ : ∃ v, ds.getD (48 + i) 0 = v := ⟨_, rfl⟩
      have hi48 := hd48 i (by omega)
      rw [hv] at hi48
      have q1 := Int.emod_nonneg v (b := 6) (by decide)
      have q2 := Int.emod_lt_of_pos v (b := 6) (by decide)
      obtain ⟨j, hj⟩ : ∃ j : Nat, 1 + v % 6 = (j : Int) := ⟨(1 + v % 6).toNat, by omega⟩
      have e0 : ("" : Str).length = 0 := by decide +kernel
      obtain ⟨x', o', rest', hin⟩ := inner i "" o7 (v / 6) ns j (by rw [e0]; omega)
      refine ⟨[some (.d (.lst (ds.map D.int))), some (.d (.int (m : Int))), some (.d (.str abc)), some (.d (strL ns)), some (.d (.int (i : Int))), o5, o6, o7], [some (.d (.lst (ds.map D.int))), some (.d (.int (m : Int))), some (.d (.str abc)), some (.d (strL (ns ++ [x']))), some (.d (.int (i : Int))), some (.d (.int rest')), some (.d (.str x')), o'], rfl, ?_, ns ++ [x'], _, _, _, _, rfl, by rw [List.length_append, hl]; simp⟩
      rw [seq_ok (e' := [some (.d (.lst (ds.map D.int))), some (.d (.int (m : Int))), some (.d (.str abc)), some (.d (strL ns)), some (.d (.int (i : Int))), some (.d (.int (v / 6))), o6, o7]) (set_ok (m2_ok (m2_ok rfl (m2_ok rfl rfl rfl) hi48) rfl (guardR_pos (okDiv_small (by decide) (by decide)))))]
      rw [seq_ok (e' := [some (.d (.lst (ds.map D.int))), some (.d (.int (m : Int))), some (.d (.str abc)), some (.d (strL ns)), some (.d (.int (i : Int))), some (.d (.int (v / 6))), some (.d (.str "")), o7]) (set_ok rfl)]
      rw [seq_ok ((for_ok (rng_ok (n := (j : Int)) ((m2_ok rfl (m2_ok (m2_ok rfl (m2_ok rfl rfl rfl) hi48) rfl (guardR_pos (by decide))) rfl).trans (by rw [add_ii, hj])) (okR_small (by omega) (by omega)))).trans hin)]
      rw [append_ok (d := .str x') (ds := ns.map D.str) rfl rfl (by rw [List.length_map]; omega)]
      show Rs.ok (Out.nx [_, _, _, some (W.d (D.lst (ns.map D.str ++ [D.str x']))), _, _, _, _]) = _
      rw [strL, List.map_append]; rfl) [some (.d (.lst (ds.map D.int))), some (.d (.int (m : Int))), some (.d (.str abc)), some (.d (.lst [])), none, none, none, none] ⟨[], none, none, none, none, rfl, rfl⟩
  subst he
  rw [dRange_len, Nat.zero_add] at hl
  rw [seq_ok (e' := [some (.d (.lst (ds.map D.int))), some (.d (.int (m : Int))), some (.d (.str abc)), none, none, none, none, none]) (set_ok rfl)]
  rw [seq_ok (e' := [some (.d (.lst (ds.map D.int))), some (.d (.int (m : Int))), some (.d (.str abc)), some (.d (.lst [])), none, none, none, none]) (set_ok (lst0 _))]
  rw [seq_ok ((for_ok (rng_ok rfl (seqD m hm))).trans h1)]
  obtain ⟨v, hv⟩ : ∃ v, ds.getD 1 0 = v := ⟨_, rfl⟩
  rw [hv] at hd1
  have hset : m1 dLenSet (mV 3) [some (.d (.lst (ds.map D.int))), some (.d (.int (m : Int))), some (.d (.str abc)), some (.d (strL ns)), o4, o5, o6, o7] = .ok (.int (lenSet ns : Int)) := by
    show (ofO (asSs (ns.map D.str))).bind _ = _
    rw [asSs_map, ofO_some, bind_ok, guardR_pos (by omega)]
  have hw := words_ok (v / 2) m hm
  by_cases hcond : v % 2 = 0 ∨ (lenSet ns : Int) < (m : Int)
  · refine ⟨(words (v / 2) m).map S', ?_, by rw [List.length_map, words_len], ?_⟩
    · refine (congrArg (fun r => Rs.bind r fnOutN) (seq_rt (w := .d (strL ((words (v / 2) m).map S'))) ?_)).trans rfl
      rw [if_tt]
      · exact ret_ok (wD_ok (by
          unfold mCall wCall
          simp only [mArgsW, wD]
          rw [show m2 dDiv (m2 dIx (mV 0) (mC (.int 1))) (mC (.int 2)) [some (.d (.lst (ds.map D.int))), some (.d (.int (m : Int))), some (.d (.str abc)), some (.d (strL ns)), o4, o5, o6, o7] = .ok (.int (v / 2)) from m2_ok (m2_ok rfl rfl hd1) rfl (guardR_pos (okDiv_small (by decide) (by decide)))]
          simp only [bind_ok, mV, List.getElem?_cons_succ, List.getElem?_cons_zero, hw, asD_d]))
      · unfold cOr
        rw [cB_ok (b := decide (v % 2 = 0)) ((m2_ok (m2_ok (m2_ok rfl rfl hd1) rfl (guardR_pos (by decide))) rfl rfl).trans (dEq_int _ _)), bind_ok]
        by_cases hv2 : v % 2 = 0
        · rw [decide_eq_true hv2]; rfl
        · rw [decide_eq_false hv2, if_neg Bool.false_ne_true]
          exact cB_ok ((m2_ok hset rfl rfl).trans (by rw [lt_ii, decide_eq_true (hcond.resolve_left hv2)]))
    · refine List.Pairwise.map _ (fun a b h z => h (S'_inj z)) (words_nd _ _ hm)
  · have h1 : ¬ v % 2 = 0 := fun z => hcond (.inl z)
    have h2 : ¬ (lenSet ns : Int) < (m : Int) := fun z => hcond (.inr z)
    refine ⟨ns, ?_, hl, nodup_of_lenSet (by omega)⟩
    rw [seq_ok (e' := [some (.d (.lst (ds.map D.int))), some (.d (.int (m : Int))), some (.d (.str abc)), some (.d (strL ns)), o4, o5, o6, o7])]
    · rfl
    · rw [if_ff]
      · rfl
      · unfold cOr
        rw [cB_ok (b := decide (v % 2 = 0)) ((m2_ok (m2_ok (m2_ok rfl rfl hd1) rfl (guardR_pos (by decide))) rfl rfl).trans (dEq_int _ _)), bind_ok, decide_eq_false h1, if_neg Bool.false_ne_true]
        exact cB_ok ((m2_ok hset rfl rfl).trans (by rw [lt_ii, decide_eq_false h2]))
end Mr

set_option linter.all false
set_option maxRecDepth 10000
namespace Mr
open PySem Mi
theorem setAt_ints {ls : List Int} {z v : Int} (h0 : 0 ≤ z) (h1 : z < ls.length) : ∃ j, ixN (ls.map D.int).length z = some j ∧ (ls.map D.int).set j (.int v) = (ls.set j v).map D.int := by
  refine ⟨z.toNat, ?_, ?_⟩
  · unfold ixN
    rw [if_pos h0, if_pos (by rw [List.length_map]; exact h1)]
  · rw [List.map_set]
theorem set_at {i : Nat} {k a : E} {e : Mi.Env} {ls : List Int} {z v : Int} (ha : a e = .ok (.int v)) (hk : k e = .ok (.int z)) (hg : getL e i = .ok (ls.map D.int)) (h0 : 0 ≤ z) (h1 : z < ls.length) : ∃ ls' : List Int, ls'.length = ls.length ∧ sSetAt i k a e = .ok (.nx (putL e i (ls'.map D.int))) := by
  obtain ⟨j, hj, hs⟩ := setAt_ints (v := v) h0 h1
  refine ⟨ls.set j v, by simp, ?_⟩
  unfold sSetAt
  rw [ha, bind_ok, hk, bind_ok, asI_i, bind_ok, hg, bind_ok, hj, ofO_some, bind_ok, hs]
theorem cells_ok (ns : List Int) : ∃ cs : List Int, m2 dCat (mN bList [(mSlF dSl (mV 0) none (some (mC (.int 63))))]) (m2 dRep (mN dLst [(mC (.int 60023))]) (mN bInt [(m2 dEq (mN bLen [(mV 0)]) (mC (.int 0)))])) [some (.d (.lst (ns.map D.int))), none, none, none, none, none, none, none, none] = .ok (.lst (cs.map D.int)) ∧ 1 ≤ cs.length ∧ cs.length ≤ 64 := by
  have h1 : mN bList [(mSlF dSl (mV 0) none (some (mC (.int 63))))] [some (.d (.lst (ns.map D.int))), none, none, none, none, none, none, none, none] = .ok (.lst ((ns.take 63).map D.int)) := by
    have := cut_head (ns.map D.int) 63
    rw [show ((63 : Nat) : Int) = 63 from rfl] at this
    simp only [gle0, gle1, gle2, gle3, gle4, gle5, gle6, gle7, gle8, mV, m1, m2, mN, mArgs, mC, mAnd, mOr, mNot, mIfE, mChain, mPart, mSlF, cB, cAnd, cOr, cNot, cTru, cYes, iOf, iRange1, iRange2, iEnum, iZip2, iZip3, sSeq, sSet, sSetW, sPut, sDrop, sRet, sRetN, sIf, sFor, sWhile, sNext, sAppend, sExtend, sReverse, sClear, sPop, sPopAt, sAppendPop, sSetAt, sMove, sDPut, mDIn, mDNotIn, mDGet, wD, wV, mArgsW, wCall, mCall, mCallI, dTup, dLst, add_ii, add_ss, add_ll, cat_ll, sub_ii, mul_ii, div_ii, mod_ii, lt_ii, gt_ii, le_ii, ge_ii, neg_i, is_n, isnot_n, non_n, non_s, non_l, non_t, len_l, len_t, len_s, max_ii, min_ii, all_l, any_l, list_l, list_t, tuple_l, tuple_t, int_i, int_b, sl_l, sl_s, slL_l, items_l, items_t, litems_l, asB_b, asI_i, asD_d, asImm_d, tru_l, tru_t, put_n, put_t, all_nil, all_cons, out_rt, out_nx, outN_rt, ty_l, ty_s, ty_t, ty_i, ty_b, bIs, getL, putL, bind_ok, ofO_some, fnM1, fnM2, fnM3, fnM4, fnN1, fnN2, fnN3, fnN4, List.map_cons, List.map_nil, List.length_cons, List.length_nil, List.cons_append, List.nil_append, List.replicate_succ, List.replicate_zero, List.getElem?_cons_zero, List.getElem?_cons_succ, List.set_cons_zero, List.set_cons_succ, Nat.reduceSub, Nat.reduceAdd, Nat.zero_add, this, List.map_take]
  have h2 : m2 dEq (mN bLen [(mV 0)]) (mC (.int 0)) [some (.d (.lst (ns.map D.int))), none, none, none, none, none, none, none, none] = .ok (.bl (decide ((ns.length : Int) = 0))) :=
    (m2_ok (x := .int (ns.length : Int)) (y := .int 0) (by show Rs.ok (D.int ((ns.map D.int).length : Int)) = _; rw [List.length_map]) rfl rfl).trans (dEq_int _ _)
  have h3 : mN dLst [(mC (.int 60023))] [some (.d (.lst (ns.map D.int))), none, none, none, none, none, none, none, none] = .ok (.lst [.int 60023]) := by
    show guardR (([D.int 60023] : List D).length ≤ 16777216) _ = _
    exact guardR_pos (by simp)
  have h4 : mN bInt [(m2 dEq (mN bLen [(mV 0)]) (mC (.int 0)))] [some (.d (.lst (ns.map D.int))), none, none, none, none, none, none, none, none] = .ok (.int (if decide ((ns.length : Int) = 0) then 1 else 0)) := by
    exact (n1_ok h2).trans rfl
  by_cases hz : ns.length = 0
  · refine ⟨[60023], ?_, by simp, by simp⟩
    rw [decide_eq_true (by omega)] at h4
    have : ns = [] := List.eq_nil_of_length_eq_zero hz
    subst this
    refine (m2_ok h1 (m2_ok h3 h4 (z := .ok (.lst [.int 60023])) ?_) (z := .ok (.lst [.int 60023])) ?_)
    · show guardR _ _ = _
      rw [guardR_pos (by decide)]; rfl
    · show guardR _ _ = _
      rw [guardR_pos (by simp)]; rfl
  · refine ⟨ns.take 63, ?_, by rw [List.length_take]; omega, by rw [List.length_take]; omega⟩
    rw [decide_eq_false (by omega)] at h4
    refine (m2_ok h1 (m2_ok h3 h4 (z := .ok (.lst [])) ?_) (z := .ok (.lst ((ns.take 63).map D.int))) ?_)
    · show guardR _ _ = _
      rw [guardR_pos (by decide)]; rfl
    · show guardR _ _ = _
      rw [guardR_pos (by rw [List.length_map, List.length_take]; simp; omega), List.append_nil]
theorem ge_dv (k : Nat) (h : k < 63) (c : Int) : okMul (c % 2147483647 + 12011 + (k : Int) * (k : Int)) (48271 + 614 * (k : Int)) := by
  refine okMul_r ?_ ?_ <;> omega
theorem once_ok {cs : List Int} {k : Nat} {z : Int} {e : Mi.Env} (hk : k < 63) (h0 : 0 ≤ z) (h1 : z < cs.length) (e1 : mV 1 e = .ok (.lst (cs.map D.int))) (e6 : mV 6 e = .ok (.int (k : Int))) (e7 : mV 7 e = .ok (.int z)) :
    ∃ o : Int, 0 ≤ o ∧ o < 2147483647 ∧ m2 dMod (m2 dMulI (m2 dAdd (m2 dAdd (m2 dMod (m2 dIx (mV 1) (mV 7)) (mC (.int 2147483647))) (mC (.int 12011))) (m2 dMulI (mV 6) (mV 6))) (m2 dAdd (mC (.int 48271)) (m2 dMulI (mC (.int 614)) (mV 6)))) (mC (.int 2147483647)) e = .ok (.int o) :=
  ⟨_, Int.emod_nonneg _ (by decide), Int.emod_lt_of_pos _ (by decide), m2_ok (m2_ok (m2_ok (m2_ok (m2_ok (m2_ok e1 e7 (ix_ints h0 h1)) rfl (guardR_pos (by decide))) rfl rfl) (m2_ok e6 e6 (guardR_pos (okMul_l (by omega) (by omega)))) rfl) (m2_ok rfl (m2_ok rfl e6 (guardR_pos (okMul_l (by decide) (by decide)))) rfl) (guardR_pos (ge_dv k hk _))) rfl (guardR_pos (by decide))⟩
theorem draws_ok (ns : List Int) : ∃ ds : List Int, m_l_draws [.d (.lst (ns.map D.int))] = .ok (.d (.lst (ds.map D.int))) ∧ ds.length = 63 := by
  obtain ⟨cs0, hcs, hp0, hp1⟩ := cells_ok ns
  unfold m_l_draws b_l_draws
  rw [fnN1]
  have hm : ∀ cs : List Int, mN bLen [(mV 1)] [some (.d (.lst (ns.map D.int))), some (.d (.lst (cs.map D.int))), none, none, none, none, none, none, none] = .ok (.int (cs.length : Int)) := fun cs => by
    show Rs.ok (D.int ((cs.map D.int).length : Int)) = _
    rw [List.length_map]
  have hx0 : dIx (.lst (cs0.map D.int)) (.int 0) = .ok (.int (cs0.getD 0 0)) := ix_ints (by decide) (by omega)
  obtain ⟨c0, hc0⟩ : ∃ v, cs0.getD 0 0 = v := ⟨_, rfl⟩
  rw [hc0] at hx0
  obtain ⟨cs, hcl, hset⟩ := set_at (i := 1) (k := mC (.int 0)) (a := m2 dDiv (m2 dIx (mV 1) (mC (.int 0))) (mC (.int 2))) (e := [some (.d (.lst (ns.map D.int))), some (.d (.lst (cs0.map D.int))), some (.d (.int (cs0.length : Int))), some (.d (.int (c0 % 2))), none, none, none, none, none]) (ls := cs0) (z := 0) (v := c0 / 2)
    (m2_ok (m2_ok rfl rfl hx0) rfl (guardR_pos (okDiv_small (by decide) (by decide)))) rfl rfl (by decide) (by omega)
  have hL : cs.length = cs0.length := hcl
  obtain ⟨e', h1, left, ds, o6, o7, o8, he, hl, hd⟩ := for_inv (tg := .n 6) (body := (sSeq (sSet 7 (m2 dMod (mV 6) (mV 2)))
      (sSeq (sSet 8 (m2 dMod (m2 dMulI (m2 dAdd (m2 dAdd (m2 dMod (m2 dIx (mV 1) (mV 7)) (mC (.int 2147483647))) (mC (.int 12011))) (m2 dMulI (mV 6) (mV 6))) (m2 dAdd (mC (.int 48271)) (m2 dMulI (mC (.int 614)) (mV 6)))) (mC (.int 2147483647))))
      (sIf (cAnd (cB (m2 dEq (mV 3) (mC (.int 0)))) (cB (m2 dGt (m2 dIx (mV 4) (mV 7)) (mC (.int 0)))))
      (sSeq (sAppend 5 (m2 dMod (m2 dIx (mV 4) (mV 7)) (mC (.int 2147483647))))
      (sSetAt 4 (mV 7) (m2 dDiv (m2 dIx (mV 4) (mV 7)) (mC (.int 2147483647)))))
      (sAppend 5 (m2 dMod (m2 dMulI (m2 dAdd (m2 dAdd (mV 8) (m2 dMulI (mC (.int 709)) (mV 6))) (mC (.int 5))) (m2 dAdd (mC (.int 69621)) (m2 dMulI (m2 dMulI (mC (.int 18)) (mV 6)) (mV 6)))) (mC (.int 2147483629))))))))
    (fun i e => ∃ (left ds : List Int) (o6 o7 o8 : Option W), e = [some (.d (.lst (ns.map D.int))), some (.d (.lst (cs.map D.int))), some (.d (.int (cs0.length : Int))), some (.d (.int (c0 % 2))), some (.d (.lst (left.map D.int))), some (.d (.lst (ds.map D.int))), o6, o7, o8] ∧ left.length = cs0.length ∧ ds.length = i)
    (dRange 0 (63 : Int)) 0 (fun i x e hx ⟨left, ds, o6, o7, o8, he, hl, hd⟩ => by
      obtain ⟨hi, rfl⟩ := dRange_get (n := 63) hx
      subst he
      rw [Nat.zero_add] at hd
      have hpos : (0 : Int) < (cs0.length : Int) := by omega
      obtain ⟨z, hz⟩ : ∃ z, (i : Int) % (cs0.length : Int) = z := ⟨_, rfl⟩
      have z0 : 0 ≤ z := by rw [← hz]; exact Int.emod_nonneg _ (by omega)
      have z1 : z < (cs0.length : Int) := by rw [← hz]; exact Int.emod_lt_of_pos _ hpos
      obtain ⟨on, on0, on1, hon⟩ := once_ok (cs := cs) (k := i) (z := z) (e := [some (.d (.lst (ns.map D.int))), some (.d (.lst (cs.map D.int))), some (.d (.int (cs0.length : Int))), some (.d (.int (c0 % 2))), some (.d (.lst (left.map D.int))), some (.d (.lst (ds.map D.int))), some (.d (.int (i : Int))), some (.d (.int z)), o8]) hi z0 (by omega) rfl rfl rfl
      have hlx : dIx (.lst (left.map D.int)) (.int z) = .ok (.int (left.getD z.toNat 0)) := ix_ints z0 (by omega)
      obtain ⟨lv, hlv⟩ : ∃ v, left.getD z.toNat 0 = v := ⟨_, rfl⟩
      rw [hlv] at hlx
      have q1 : cB (m2 dEq (mV 3) (mC (.int 0))) [some (.d (.lst (ns.map D.int))), some (.d (.lst (cs.map D.int))), some (.d (.int (cs0.length : Int))), some (.d (.int (c0 % 2))), some (.d (.lst (left.map D.int))), some (.d (.lst (ds.map D.int))), some (.d (.int (i : Int))), some (.d (.int z)), some (.d (.int on))] = .ok (decide (c0 % 2 = 0)) := cB_ok ((m2_ok rfl rfl rfl).trans (dEq_int _ _))
      have q2 : cB (m2 dGt (m2 dIx (mV 4) (mV 7)) (mC (.int 0))) [some (.d (.lst (ns.map D.int))), some (.d (.lst (cs.map D.int))), some (.d (.int (cs0.length : Int))), some (.d (.int (c0 % 2))), some (.d (.lst (left.map D.int))), some (.d (.lst (ds.map D.int))), some (.d (.int (i : Int))), some (.d (.int z)), some (.d (.int on))] = .ok (decide (0 < lv)) := cB_ok (m2_ok (m2_ok rfl rfl hlx) rfl rfl)
      have pre : ∀ t : S, sSeq (sSet 7 (m2 dMod (mV 6) (mV 2))) (sSeq (sSet 8 (m2 dMod (m2 dMulI (m2 dAdd (m2 dAdd (m2 dMod (m2 dIx (mV 1) (mV 7)) (mC (.int 2147483647))) (mC (.int 12011))) (m2 dMulI (mV 6) (mV 6))) (m2 dAdd (mC (.int 48271)) (m2 dMulI (mC (.int 614)) (mV 6)))) (mC (.int 2147483647)))) t)
          [some (.d (.lst (ns.map D.int))), some (.d (.lst (cs.map D.int))), some (.d (.int (cs0.length : Int))), some (.d (.int (c0 % 2))), some (.d (.lst (left.map D.int))), some (.d (.lst (ds.map D.int))), some (.d (.int (i : Int))), o7, o8] = t [some (.d (.lst (ns.map D.int))), some (.d (.lst (cs.map D.int))), some (.d (.int (cs0.length : Int))), some (.d (.int (c0 % 2))), some (.d (.lst (left.map D.int))), some (.d (.lst (ds.map D.int))), some (.d (.int (i : Int))), some (.d (.int z)), some (.d (.int on))] := fun t => by
        rw [seq_ok (e' := [some (.d (.lst (ns.map D.int))), some (.d (.lst (cs.map D.int))), some (.d (.int (cs0.length : Int))), some (.d (.int (c0 % 2))), some (.d (.lst (left.map D.int))), some (.d (.lst (ds.map D.int))), some (.d (.int (i : Int))), some (.d (.int z)), o8]) (set_ok (d := .int z) ((m2_ok rfl rfl (guardR_pos hpos)).trans (by rw [hz])))]
        rw [seq_ok (e' := [some (.d (.lst (ns.map D.int))), some (.d (.lst (cs.map D.int))), some (.d (.int (cs0.length : Int))), some (.d (.int (c0 % 2))), some (.d (.lst (left.map D.int))), some (.d (.lst (ds.map D.int))), some (.d (.int (i : Int))), some (.d (.int z)), some (.d (.int on))]) (set_ok hon)]
      by_cases hb : c0 % 2 = 0 ∧ 0 < lv
      · obtain ⟨left', hl', hs'⟩ := set_at (i := 4) (k := mV 7) (a := m2 dDiv (m2 dIx (mV 4) (mV 7)) (mC (.int 2147483647))) (e := [some (.d (.lst (ns.map D.int))), some (.d (.lst (cs.map D.int))), some (.d (.int (cs0.length : Int))), some (.d (.int (c0 % 2))), some (.d (.lst (left.map D.int))), some (.d (.lst ((ds ++ [lv % 2147483647]).map D.int))), some (.d (.int (i : Int))), some (.d (.int z)), some (.d (.int on))]) (ls := left) (z := z) (v := lv / 2147483647)
          (m2_ok (m2_ok rfl rfl hlx) rfl (guardR_pos (okDiv_small (by decide) (by decide)))) rfl rfl z0 (by omega)
        refine ⟨[some (.d (.lst (ns.map D.int))), some (.d (.lst (cs.map D.int))), some (.d (.int (cs0.length : Int))), some (.d (.int (c0 % 2))), some (.d (.lst (left.map D.int))), some (.d (.lst (ds.map D.int))), some (.d (.int (i : Int))), o7, o8],
          [some (.d (.lst (ns.map D.int))), some (.d (.lst (cs.map D.int))), some (.d (.int (cs0.length : Int))), some (.d (.int (c0 % 2))), some (.d (.lst (left'.map D.int))), some (.d (.lst ((ds ++ [lv % 2147483647]).map D.int))), some (.d (.int (i : Int))), some (.d (.int z)), some (.d (.int on))], rfl, ?_, left', ds ++ [lv % 2147483647], _, _, _, rfl, by omega, by rw [List.length_append, hd]; simp⟩
        rw [pre, if_tt (by unfold cAnd; rw [q1, bind_ok, decide_eq_true hb.1, if_pos rfl, q2, decide_eq_true hb.2])]
        rw [seq_ok (e' := [some (.d (.lst (ns.map D.int))), some (.d (.lst (cs.map D.int))), some (.d (.int (cs0.length : Int))), some (.d (.int (c0 % 2))), some (.d (.lst (left.map D.int))), some (.d (.lst ((ds ++ [lv % 2147483647]).map D.int))), some (.d (.int (i : Int))), some (.d (.int z)), some (.d (.int on))]), hs']
        · rfl
        · rw [append_ok (d := .int (lv % 2147483647)) (ds := ds.map D.int) (m2_ok (m2_ok rfl rfl hlx) rfl (guardR_pos (by decide))) rfl (by rw [List.length_map]; omega), List.map_append]
          rfl
      · obtain ⟨v, hv⟩ : ∃ v, m2 dMod (m2 dMulI (m2 dAdd (m2 dAdd (mV 8) (m2 dMulI (mC (.int 709)) (mV 6))) (mC (.int 5))) (m2 dAdd (mC (.int 69621)) (m2 dMulI (m2 dMulI (mC (.int 18)) (mV 6)) (mV 6)))) (mC (.int 2147483629)) [some (.d (.lst (ns.map D.int))), some (.d (.lst (cs.map D.int))), some (.d (.int (cs0.length : Int))), some (.d (.int (c0 % 2))), some (.d (.lst (left.map D.int))), some (.d (.lst (ds.map D.int))), some (.d (.int (i : Int))), some (.d (.int z)), some (.d (.int on))] = .ok (.int v) :=
          ⟨_, m2_ok (m2_ok (m2_ok (m2_ok rfl (m2_ok rfl rfl (guardR_pos (okMul_l (by decide) (by decide)))) rfl) rfl rfl) (m2_ok rfl (m2_ok (m2_ok rfl rfl (guardR_pos (okMul_l (by decide) (by decide)))) rfl (guardR_pos (okMul_r (by omega) (by omega)))) rfl) (guardR_pos (okMul_l (by omega) (by omega)))) rfl (guardR_pos (by decide))⟩
        refine ⟨[some (.d (.lst (ns.map D.int))), some (.d (.lst (cs.map D.int))), some (.d (.int (cs0.length : Int))), some (.d (.int (c0 % 2))), some (.d (.lst (left.map D.int))), some (.d (.lst (ds.map D.int))), some (.d (.int (i : Int))), o7, o8],
          [some (.d (.lst (ns.map D.int))), some (.d (.lst (cs.map D.int))), some (.d (.int (cs0.length : Int))), some (.d (.int (c0 % 2))), some (.d (.lst (left.map D.int))), some (.d (.lst ((ds ++ [v]).map D.int))), some (.d (.int (i : Int))), some (.d (.int z)), some (.d (.int on))], rfl, ?_, left, ds ++ [v], _, _, _, rfl, hl, by rw [List.length_append, hd]; simp⟩
        rw [pre, if_ff (by
          unfold cAnd
          rw [q1, bind_ok]
          by_cases hb1 : c0 % 2 = 0
          · rw [decide_eq_true hb1, if_pos rfl, q2, decide_eq_false fun z => hb ⟨hb1, z⟩]
          · rw [decide_eq_false hb1, if_neg Bool.false_ne_true])]
        rw [append_ok (d := .int v) (ds := ds.map D.int) hv rfl (by rw [List.length_map]; omega), List.map_append]
        rfl) [some (.d (.lst (ns.map D.int))), some (.d (.lst (cs.map D.int))), some (.d (.int (cs0.length : Int))), some (.d (.int (c0 % 2))), some (.d (.lst (cs.map D.int))), some (.d (.lst [])), none, none, none] ⟨cs, [], none, none, none, rfl, hL, rfl⟩
  subst he
  have hlen := dRange_len 63
  rw [show ((63 : Nat) : Int) = 63 from rfl] at hlen
  rw [hlen, Nat.zero_add] at hd
  refine ⟨ds, ?_, hd⟩
  rw [seq_ok (e' := [some (.d (.lst (ns.map D.int))), some (.d (.lst (cs0.map D.int))), none, none, none, none, none, none, none]) (set_ok hcs)]
  rw [seq_ok (e' := [some (.d (.lst (ns.map D.int))), some (.d (.lst (cs0.map D.int))), some (.d (.int (cs0.length : Int))), none, none, none, none, none, none]) (set_ok (hm cs0))]
  rw [seq_ok (e' := [some (.d (.lst (ns.map D.int))), some (.d (.lst (cs0.map D.int))), some (.d (.int (cs0.length : Int))), some (.d (.int (c0 % 2))), none, none, none, none, none]) (set_ok (m2_ok (m2_ok rfl rfl hx0) rfl (guardR_pos (by decide))))]
  rw [seq_ok (e' := [some (.d (.lst (ns.map D.int))), some (.d (.lst (cs.map D.int))), some (.d (.int (cs0.length : Int))), some (.d (.int (c0 % 2))), none, none, none, none, none]) hset]
  rw [seq_ok (e' := [some (.d (.lst (ns.map D.int))), some (.d (.lst (cs.map D.int))), some (.d (.int (cs0.length : Int))), some (.d (.int (c0 % 2))), some (.d (.lst (cs.map D.int))), none, none, none, none]) (set_ok rfl)]
  rw [seq_ok (e' := [some (.d (.lst (ns.map D.int))), some (.d (.lst (cs.map D.int))), some (.d (.int (cs0.length : Int))), some (.d (.int (c0 % 2))), some (.d (.lst (cs.map D.int))), some (.d (.lst [])), none, none, none]) (set_ok (lst0 _))]
  rw [seq_ok ((for_ok (rng_ok rfl (okR_small (by decide) (by decide)))).trans h1)]
  rfl
end Mr

set_option linter.all false
set_option maxRecDepth 10000
namespace Mr
open PySem Mi
abbrev Ix := Nat × Nat
def lexL (p q : Ix) : Prop := p.1 < q.1 ∨ (p.1 = q.1 ∧ p.2 < q.2)
def nth (names : List Str) (i : Nat) : Str := names.getD i Str.empty
def arrOf (names : List Str) (p : Ix) : Ar := (nth names p.1, nth names p.2)
/-- a net by its places -/
structure IxNet (names : List Str) (A : List Ix) (r : Nat → Int) : Prop where
  nd : names.Nodup
  pos : 1 ≤ names.length
  le : names.length ≤ 8
  srt : A.Pairwise lexL
  all : ∀ p ∈ A, p.1 < names.length ∧ p.2 < names.length ∧ r p.1 < r p.2
  al : A.length ≤ 64
theorem nth_mem {names : List Str} {i : Nat} (h : i < names.length) : nth names i ∈ names := by
  unfold nth
  rw [List.getD_eq_getElem?_getD, List.getElem?_eq_getElem h]
  exact List.getElem_mem h
theorem nth_inj {names : List Str} (nd : names.Nodup) {i j : Nat} (hi : i < names.length) (hj : j < names.length) (h : nth names i = nth names j) : i = j := by
  unfold nth at h
  rw [List.getD_eq_getElem?_getD, List.getElem?_eq_getElem hi, List.getD_eq_getElem?_getD, List.getElem?_eq_getElem hj] at h
  exact (List.getElem_inj nd).mp h
theorem nth_ix {names : List Str} {x : Str} (h : x ∈ names) : ∃ i, i < names.length ∧ nth names i = x := by
  obtain ⟨i, hi, e⟩ := List.getElem_of_mem h
  refine ⟨i, hi, ?_⟩
  unfold nth
  rw [List.getD_eq_getElem?_getD, List.getElem?_eq_getElem hi]; exact e
theorem IxNet.net {names : List Str} {A : List Ix} {r : Nat → Int} (N : IxNet names A r) : Net names (A.map (arrOf names)) := by
  refine ⟨N.nd, N.pos, N.le, by rw [List.length_map]; exact N.al, fun p hp => ?_, fun x => r (names.idxOf x), fun p hp => ?_⟩
  · obtain ⟨q, hq, rfl⟩ := List.mem_map.mp hp
    exact nth_mem (N.all q hq).1
  · obtain ⟨q, hq, rfl⟩ := List.mem_map.mp hp
    obtain ⟨h1, h2, h3⟩ := N.all q hq
    have key : ∀ i, i < names.length → names.idxOf (nth names i) = i := fun i hi => by
      have hm := nth_mem hi
      have hl : names.idxOf (nth names i) < names.length := List.idxOf_lt_length_of_mem hm
      refine nth_inj N.nd hl hi ?_
      have h4 : names[names.idxOf (nth names i)] = nth names i := List.getElem_idxOf hl
      show names.getD (names.idxOf (nth names i)) Str.empty = _
      rw [List.getD_eq_getElem?_getD, List.getElem?_eq_getElem hl]
      exact h4
    show r (names.idxOf (nth names q.1)) < r (names.idxOf (nth names q.2))
    rw [key _ h1, key _ h2]; exact h3
def good (m : Nat) (r : Nat → Int) (A : List Ix) (j k : Nat) : Prop := A.Pairwise lexL ∧ (∀ p ∈ A, p.1 < m ∧ p.2 < m ∧ r p.1 < r p.2 ∧ (p.1 < j ∨ (p.1 = j ∧ p.2 < k))) ∧ A.length ≤ 8 * j + k
theorem good.skip {m : Nat} {r : Nat → Int} {A : List Ix} {j k : Nat} (h : good m r A j k) : good m r A j (k + 1) :=
  ⟨h.1, fun p hp => ⟨(h.2.1 p hp).1, (h.2.1 p hp).2.1, (h.2.1 p hp).2.2.1, by have := (h.2.1 p hp).2.2.2; omega⟩, by have := h.2.2; omega⟩
theorem good.add {m : Nat} {r : Nat → Int} {A : List Ix} {j k : Nat} (h : good m r A j k) (hj : j < m) (hk : k < m) (hr : r j < r k) : good m r (A ++ [(j, k)]) j (k + 1) := by
  refine ⟨List.pairwise_append.mpr ⟨h.1, List.pairwise_singleton _ _, fun p hp q hq => ?_⟩, fun p hp => ?_, by rw [List.length_append]; have := h.2.2; simp; omega⟩
  · have : q = (j, k) := by simpa using hq
    subst this
    have := (h.2.1 p hp).2.2.2
    exact this
  · rcases List.mem_append.mp hp with hp | hp
    · exact (h.skip.2.1 p hp)
    · have : p = (j, k) := by simpa using hp
      subst this
      exact ⟨hj, hk, hr, .inr ⟨rfl, by omega⟩⟩
theorem good.next {m : Nat} {r : Nat → Int} {A : List Ix} {j k : Nat} (h : good m r A j k) (hk : k ≤ 8) : good m r A (j + 1) 0 :=
  ⟨h.1, fun p hp => ⟨(h.2.1 p hp).1, (h.2.1 p hp).2.1, (h.2.1 p hp).2.2.1, by have := (h.2.1 p hp).2.2.2; omega⟩, by have := h.2.2; omega⟩
def arsD (names : List Str) (A : List Ix) : D := .lst ((A.map (arrOf names)).map pairD)
theorem tri_le {a : Int} (h0 : 0 ≤ a) (h1 : a < 8) : -(2 ^ 64) < a ∧ a < 2 ^ 64 ∧ 0 ≤ a * (a - 1) / 2 ∧ a * (a - 1) / 2 ≤ 21 := by
  have : a = 0 ∨ a = 1 ∨ a = 2 ∨ a = 3 ∨ a = 4 ∨ a = 5 ∨ a = 6 ∨ a = 7 := by omega
  rcases this with h | h | h | h | h | h | h | h <;> subst h <;> decide
theorem cell_at {ds : List Int} (hd : ds.length = 63) {e : Mi.Env} {j k : Nat} (hj : j < 8) (hk : k < 8) (e0 : mV 0 e = .ok (.lst (ds.map D.int))) (e8 : mV 8 e = .ok (.int (j : Int))) (e9 : mV 9 e = .ok (.int (k : Int))) :
    ∃ c : Int, m2 dIx (mV 0) (m2 dAdd (m2 dAdd (mC (.int 4)) (m2 dDiv (m2 dMulI (mN bMax [(mV 8), (mV 9)]) (m2 dSub (mN bMax [(mV 8), (mV 9)]) (mC (.int 1)))) (mC (.int 2)))) (mN bMin [(mV 8), (mV 9)])) e = .ok (.int c) := by
  have hx : mN bMax [(mV 8), (mV 9)] e = .ok (.int (max (j : Int) (k : Int))) := (n2_ok e8 e9).trans (max_ii _ _)
  have hn : mN bMin [(mV 8), (mV 9)] e = .ok (.int (min (j : Int) (k : Int))) := (n2_ok e8 e9).trans (min_ii _ _)
  obtain ⟨t1, t2, t3, t4⟩ := tri_le (a := max (j : Int) (k : Int)) (by omega) (by omega)
  exact ⟨_, m2_ok e0 (m2_ok (m2_ok rfl (m2_ok (m2_ok hx (m2_ok hx rfl rfl) (guardR_pos (okMul_l t1 t2))) rfl (guardR_pos (okDiv_small (by decide) (by decide)))) rfl) hn rfl) (ix_ints (by omega) (by omega))⟩
theorem net_ok (ds : List Int) (hd : ds.length = 63) (lo hi : Nat) (h0 : 1 ≤ lo) (h1 : lo ≤ hi) (h2 : hi ≤ 8) :
    ∃ names A r, m_l_net [.d (.lst (ds.map D.int)), .d (.int (lo : Int)), .d (.int (hi : Int))] = .ok (.d (netD names (A.map (arrOf names)))) ∧ IxNet names A r ∧ lo ≤ names.length ∧ names.length ≤ hi := by
  have hx : ∀ i : Nat, i < 4 → dIx (.lst (ds.map D.int)) (.int (i : Int)) = .ok (.int (ds.getD i 0)) := fun i hi => by
    have := ix_ints (cs := ds) (i := (i : Int)) (by omega) (by omega)
    rwa [Int.toNat_natCast] at this
  have hw : (0 : Int) < (hi : Int) - (lo : Int) + 1 := by omega
  have q1 := Int.emod_nonneg (ds.getD 0 0) (b := (hi : Int) - (lo : Int) + 1) (by omega)
  have q2 := Int.emod_lt_of_pos (ds.getD 0 0) hw
  obtain ⟨m, hm⟩ : ∃ m : Nat, (lo : Int) + ds.getD 0 0 % ((hi : Int) - (lo : Int) + 1) = (m : Int) := ⟨((lo : Int) + ds.getD 0 0 % ((hi : Int) - (lo : Int) + 1)).toNat, by omega⟩
  have hm1 : lo ≤ m := by omega
  have hm2 : m ≤ hi := by omega
  have hm8 : m ≤ 8 := by omega
  obtain ⟨names, hn, hnl, hnd⟩ := names_ok ds hd m hm8
  obtain ⟨rs, hr, hrl⟩ := ranks_ok (ds.getD 2 0) m hm8
  have q3 := Int.emod_nonneg (ds.getD 3 0) (b := 6) (by decide)
  have q4 := Int.emod_lt_of_pos (ds.getD 3 0) (b := 6) (by decide)
  obtain ⟨th, hth⟩ : ∃ th, dIx (.lst ([4, 1, 2, 3, 2, 3].map D.int)) (.int (ds.getD 3 0 % 6)) = .ok (.int th) := ⟨_, ix_ints q3 (by simp; omega)⟩
  have hrx : ∀ i : Nat, i < m → dIx (.lst (rs.map D.int)) (.int (i : Int)) = .ok (.int (rs.getD i 0)) := fun i hi => by
    have := ix_ints (cs := rs) (i := (i : Int)) (by omega) (by omega)
    rwa [Int.toNat_natCast] at this
  have hnx : ∀ i : Nat, i < m → dIx (strL names) (.int (i : Int)) = .ok (.str (nth names i)) := fun i hi => by
    have := ix_strs (cs := names) (i := (i : Int)) (by omega) (by omega)
    rwa [Int.toNat_natCast] at this
  have inner : ∀ (j : Nat) (A : List Ix) (o9 o10 : Option W), j < m → good m (fun i => rs.getD i 0) A j 0 → ∃ (A' : List Ix) (p9 p10 : Option W), forD (.n 9) (sSeq (sSet 10 (m2 dIx (mV 0) (m2 dAdd (m2 dAdd (mC (.int 4)) (m2 dDiv (m2 dMulI (mN bMax [(mV 8), (mV 9)]) (m2 dSub (mN bMax [(mV 8), (mV 9)]) (mC (.int 1)))) (mC (.int 2)))) (mN bMin [(mV 8), (mV 9)]))))
      (sIf (cAnd (cB (m2 dLt (m2 dIx (mV 5) (mV 8)) (m2 dIx (mV 5) (mV 9)))) (cB (m2 dLt (m2 dMod (mV 10) (mC (.int 4))) (mV 6)))) (sAppend 7 (mN dTup [(m2 dIx (mV 4) (mV 8)), (m2 dIx (mV 4) (mV 9))])) sNext)) (dRange 0 (m : Int))
      [some (.d (.lst (ds.map D.int))), some (.d (.int (lo : Int))), some (.d (.int (hi : Int))), some (.d (.int (m : Int))), some (.d (strL names)), some (.d (.lst (rs.map D.int))), some (.d (.int th)), some (.d (arsD names A)), some (.d (.int (j : Int))), o9, o10] =
      .ok (.nx [some (.d (.lst (ds.map D.int))), some (.d (.int (lo : Int))), some (.d (.int (hi : Int))), some (.d (.int (m : Int))), some (.d (strL names)), some (.d (.lst (rs.map D.int))), some (.d (.int th)), some (.d (arsD names A')), some (.d (.int (j : Int))), p9, p10]) ∧ good m (fun i => rs.getD i 0) A' (j + 1) 0 := by
    intro j A o9 o10 hj hg
    obtain ⟨e', f1, A', p9, p10, he, hg'⟩ := for_inv (tg := .n 9) (body := sSeq (sSet 10 (m2 dIx (mV 0) (m2 dAdd (m2 dAdd (mC (.int 4)) (m2 dDiv (m2 dMulI (mN bMax [(mV 8), (mV 9)]) (m2 dSub (mN bMax [(mV 8), (mV 9)]) (mC (.int 1)))) (mC (.int 2)))) (mN bMin [(mV 8), (mV 9)]))))
      (sIf (cAnd (cB (m2 dLt (m2 dIx (mV 5) (mV 8)) (m2 dIx (mV 5) (mV 9)))) (cB (m2 dLt (m2 dMod (mV 10) (mC (.int 4))) (mV 6)))) (sAppend 7 (mN dTup [(m2 dIx (mV 4) (mV 8)), (m2 dIx (mV 4) (mV 9))])) sNext))
      (fun k e => ∃ (A : List Ix) (o9 o10 : Option W), e = [some (.d (.lst (ds.map D.int))), some (.d (.int (lo : Int))), some (.d (.int (hi : Int))), some (.d (.int (m : Int))), some (.d (strL names)), some (.d (.lst (rs.map D.int))), some (.d (.int th)), some (.d (arsD names A)), some (.d (.int (j : Int))), o9, o10] ∧ good m (fun i => rs.getD i 0) A j k)
      (dRange 0 (m : Int)) 0 (fun k x e hx ⟨A, o9, o10, he, hg⟩ => by
        obtain ⟨hk, rfl⟩ := dRange_get hx
        subst he
        rw [Nat.zero_add] at hg
        obtain ⟨c, hc⟩ := cell_at hd (e := [some (.d (.lst (ds.map D.int))), some (.d (.int (lo : Int))), some (.d (.int (hi : Int))), some (.d (.int (m : Int))), some (.d (strL names)), some (.d (.lst (rs.map D.int))), some (.d (.int th)), some (.d (arsD names A)), some (.d (.int (j : Int))), some (.d (.int (k : Int))), o10]) (j := j) (k := k) (by omega) (by omega) rfl rfl rfl
        have c1 : cB (m2 dLt (m2 dIx (mV 5) (mV 8)) (m2 dIx (mV 5) (mV 9))) [some (.d (.lst (ds.map D.int))), some (.d (.int (lo : Int))), some (.d (.int (hi : Int))), some (.d (.int (m : Int))), some (.d (strL names)), some (.d (.lst (rs.map D.int))), some (.d (.int th)), some (.d (arsD names A)), some (.d (.int (j : Int))), some (.d (.int (k : Int))), some (.d (.int c))] = .ok (decide (rs.getD j 0 < rs.getD k 0)) := cB_ok (m2_ok (m2_ok rfl rfl (hrx j hj)) (m2_ok rfl rfl (hrx k hk)) rfl)
        have c2 : cB (m2 dLt (m2 dMod (mV 10) (mC (.int 4))) (mV 6)) [some (.d (.lst (ds.map D.int))), some (.d (.int (lo : Int))), some (.d (.int (hi : Int))), some (.d (.int (m : Int))), some (.d (strL names)), some (.d (.lst (rs.map D.int))), some (.d (.int th)), some (.d (arsD names A)), some (.d (.int (j : Int))), some (.d (.int (k : Int))), some (.d (.int c))] = .ok (decide (c % 4 < th)) := cB_ok (m2_ok (m2_ok rfl rfl (guardR_pos (by decide))) rfl rfl)
        by_cases hb : rs.getD j 0 < rs.getD k 0 ∧ c % 4 < th
        · refine ⟨[some (.d (.lst (ds.map D.int))), some (.d (.int (lo : Int))), some (.d (.int (hi : Int))), some (.d (.int (m : Int))), some (.d (strL names)), some (.d (.lst (rs.map D.int))), some (.d (.int th)), some (.d (arsD names A)), some (.d (.int (j : Int))), some (.d (.int (k : Int))), o10],
            [some (.d (.lst (ds.map D.int))), some (.d (.int (lo : Int))), some (.d (.int (hi : Int))), some (.d (.int (m : Int))), some (.d (strL names)), some (.d (.lst (rs.map D.int))), some (.d (.int th)), some (.d (arsD names (A ++ [(j, k)]))), some (.d (.int (j : Int))), some (.d (.int (k : Int))), some (.d (.int c))], rfl, ?_, A ++ [(j, k)], some (.d (.int (k : Int))), some (.d (.int c)), rfl, by rw [Nat.zero_add]; exact hg.add hj hk hb.1⟩
          rw [seq_ok (e' := [some (.d (.lst (ds.map D.int))), some (.d (.int (lo : Int))), some (.d (.int (hi : Int))), some (.d (.int (m : Int))), some (.d (strL names)), some (.d (.lst (rs.map D.int))), some (.d (.int th)), some (.d (arsD names A)), some (.d (.int (j : Int))), some (.d (.int (k : Int))), some (.d (.int c))]) (set_ok hc)]
          rw [if_tt (by unfold cAnd; rw [c1, bind_ok, decide_eq_true hb.1, if_pos rfl, c2, decide_eq_true hb.2])]
          rw [append_ok (d := pairD (nth names j, nth names k)) (ds := (A.map (arrOf names)).map pairD) (tup2 (m2_ok rfl rfl (hnx j hj)) (m2_ok rfl rfl (hnx k hk))) rfl (by rw [List.length_map, List.length_map]; have := hg.2.2; omega)]
          show Rs.ok (Out.nx [_, _, _, _, _, _, _, some (W.d (D.lst ((A.map (arrOf names)).map pairD ++ [pairD (nth names j, nth names k)]))), _, _, _]) = _
          rw [arsD, List.map_append, List.map_append]; rfl
        · refine ⟨[some (.d (.lst (ds.map D.int))), some (.d (.int (lo : Int))), some (.d (.int (hi : Int))), some (.d (.int (m : Int))), some (.d (strL names)), some (.d (.lst (rs.map D.int))), some (.d (.int th)), some (.d (arsD names A)), some (.d (.int (j : Int))), some (.d (.int (k : Int))), o10],
            [some (.d (.lst (ds.map D.int))), some (.d (.int (lo : Int))), some (.d (.int (hi : Int))), some (.d (.int (m : Int))), some (.d (strL names)), some (.d (.lst (rs.map D.int))), some (.d (.int th)), some (.d (arsD names A)), some (.d (.int (j : Int))), some (.d (.int (k : Int))), some (.d (.int c))], rfl, ?_, A, some (.d (.int (k : Int))), some (.d (.int c)), rfl, by rw [Nat.zero_add]; exact hg.skip⟩
          rw [seq_ok (e' := [some (.d (.lst (ds.map D.int))), some (.d (.int (lo : Int))), some (.d (.int (hi : Int))), some (.d (.int (m : Int))), some (.d (strL names)), some (.d (.lst (rs.map D.int))), some (.d (.int th)), some (.d (arsD names A)), some (.d (.int (j : Int))), some (.d (.int (k : Int))), some (.d (.int c))]) (set_ok hc)]
          rw [if_ff (by
            unfold cAnd
            rw [c1, bind_ok]
            by_cases hb1 : rs.getD j 0 < rs.getD k 0
            · rw [decide_eq_true hb1, if_pos rfl, c2, decide_eq_false fun z => hb ⟨hb1, z⟩]
            · rw [decide_eq_false hb1, if_neg Bool.false_ne_true])]
          rfl) _ ⟨A, o9, o10, rfl, hg⟩
    subst he
    rw [dRange_len, Nat.zero_add] at hg'
    exact ⟨A', p9, p10, f1, hg'.next hm8⟩
  obtain ⟨e', f1, A, p8, p9, p10, he, hg⟩ := for_inv (tg := .n 8) (body := (sFor (iRange1 (mV 3)) (.n 9)
      (sSeq (sSet 10 (m2 dIx (mV 0) (m2 dAdd (m2 dAdd (mC (.int 4)) (m2 dDiv (m2 dMulI (mN bMax [(mV 8), (mV 9)]) (m2 dSub (mN bMax [(mV 8), (mV 9)]) (mC (.int 1)))) (mC (.int 2)))) (mN bMin [(mV 8), (mV 9)]))))
      (sIf (cAnd (cB (m2 dLt (m2 dIx (mV 5) (mV 8)) (m2 dIx (mV 5) (mV 9)))) (cB (m2 dLt (m2 dMod (mV 10) (mC (.int 4))) (mV 6)))) (sAppend 7 (mN dTup [(m2 dIx (mV 4) (mV 8)), (m2 dIx (mV 4) (mV 9))])) sNext))))
    (fun j e => ∃ (A : List Ix) (o8 o9 o10 : Option W), e = [some (.d (.lst (ds.map D.int))), some (.d (.int (lo : Int))), some (.d (.int (hi : Int))), some (.d (.int (m : Int))), some (.d (strL names)), some (.d (.lst (rs.map D.int))), some (.d (.int th)), some (.d (arsD names A)), o8, o9, o10] ∧ good m (fun i => rs.getD i 0) A j 0)
    (dRange 0 (m : Int)) 0 (fun j x e hx ⟨A, o8, o9, o10, he, hg⟩ => by
      obtain ⟨hj, rfl⟩ := dRange_get hx
      subst he
      rw [Nat.zero_add] at hg
      obtain ⟨A', p9, p10, f1, hg'⟩ := inner j A o9 o10 hj hg
      exact ⟨_, _, rfl, (for_ok (rng_ok rfl (seqD m hm8))).trans f1, A', _, p9, p10, rfl, by rw [Nat.zero_add]; exact hg'⟩)
    [some (.d (.lst (ds.map D.int))), some (.d (.int (lo : Int))), some (.d (.int (hi : Int))), some (.d (.int (m : Int))), some (.d (strL names)), some (.d (.lst (rs.map D.int))), some (.d (.int th)), some (.d (.lst [])), none, none, none] ⟨[], none, none, none, rfl, List.Pairwise.nil, fun p hp => absurd hp (by simp), Nat.zero_le _⟩
  subst he
  rw [dRange_len, Nat.zero_add] at hg
  refine ⟨names, A, fun i => rs.getD i 0, ?_, ⟨hnd, by omega, by omega, hg.1, fun p hp => ?_, by have := hg.2.2; omega⟩, by omega, by omega⟩
  · unfold m_l_net b_l_net
    rw [fnM3]
    have hx0 := hx 0 (by decide)
    have hx2 := hx 2 (by decide)
    have hx3 := hx 3 (by decide)
    rw [show ((0 : Nat) : Int) = 0 from rfl] at hx0
    rw [show ((2 : Nat) : Int) = 2 from rfl] at hx2
    rw [show ((3 : Nat) : Int) = 3 from rfl] at hx3
    rw [seq_ok (e' := [some (.d (.lst (ds.map D.int))), some (.d (.int (lo : Int))), some (.d (.int (hi : Int))), some (.d (.int (m : Int))), none, none, none, none, none, none, none]) (set_ok (d := .int (m : Int)) ((m2_ok rfl (m2_ok (m2_ok rfl rfl hx0) (m2_ok (m2_ok rfl rfl rfl) rfl rfl) (guardR_pos hw)) rfl).trans (by rw [add_ii, hm])))]
    rw [seq_ok (e' := [some (.d (.lst (ds.map D.int))), some (.d (.int (lo : Int))), some (.d (.int (hi : Int))), some (.d (.int (m : Int))), some (.d (strL names)), none, none, none, none, none, none]) (set_ok (call2 rfl rfl hn))]
    rw [seq_ok (e' := [some (.d (.lst (ds.map D.int))), some (.d (.int (lo : Int))), some (.d (.int (hi : Int))), some (.d (.int (m : Int))), some (.d (strL names)), some (.d (.lst (rs.map D.int))), none, none, none, none, none]) (set_ok (call2 (wD_ok (m2_ok rfl rfl hx2)) rfl hr))]
    have hl6 : mN dLst [(mC (.int 4)), (mC (.int 1)), (mC (.int 2)), (mC (.int 3)), (mC (.int 2)), (mC (.int 3))] [some (.d (.lst (ds.map D.int))), some (.d (.int (lo : Int))), some (.d (.int (hi : Int))), some (.d (.int (m : Int))), some (.d (strL names)), some (.d (.lst (rs.map D.int))), none, none, none, none, none] = .ok (.lst ([4, 1, 2, 3, 2, 3].map D.int)) := by
      show guardR (([4, 1, 2, 3, 2, 3].map D.int).length ≤ 16777216) _ = _
      exact guardR_pos (by simp)
    rw [seq_ok (e' := [some (.d (.lst (ds.map D.int))), some (.d (.int (lo : Int))), some (.d (.int (hi : Int))), some (.d (.int (m : Int))), some (.d (strL names)), some (.d (.lst (rs.map D.int))), some (.d (.int th)), none, none, none, none]) (set_ok (m2_ok hl6 (m2_ok (m2_ok rfl rfl hx3) rfl (guardR_pos (by decide))) hth))]
    rw [seq_ok (e' := [some (.d (.lst (ds.map D.int))), some (.d (.int (lo : Int))), some (.d (.int (hi : Int))), some (.d (.int (m : Int))), some (.d (strL names)), some (.d (.lst (rs.map D.int))), some (.d (.int th)), some (.d (.lst [])), none, none, none]) (set_ok (lst0 _))]
    rw [seq_ok ((for_ok (rng_ok rfl (seqD m hm8))).trans f1)]
    rw [ret_ok (wD_ok (tup2 (x := nmD names) (y := arD (A.map (arrOf names))) (n1_ok (x := strL names) rfl) (n1_ok (x := arsD names A) rfl)))]
    rfl
  · obtain ⟨a, b, c, _⟩ := hg.2.1 p hp
    exact ⟨by omega, by omega, c⟩
/-- the drawn net of the laws over the whole -/
theorem drawn_net (ns : List Int) (lo hi : Nat) (h0 : 1 ≤ lo) (h1 : lo ≤ hi) (h2 : hi ≤ 8) :
    ∃ (ds : List Int) (names : List Str) (A : List Ix) (r : Nat → Int), m_l_draws [.d (.lst (ns.map D.int))] = .ok (.d (.lst (ds.map D.int))) ∧ ds.length = 63 ∧ m_l_net [.d (.lst (ds.map D.int)), .d (.int (lo : Int)), .d (.int (hi : Int))] = .ok (.d (netD names (A.map (arrOf names)))) ∧ IxNet names A r ∧ lo ≤ names.length ∧ names.length ≤ hi := by
  obtain ⟨ds, hds, hl⟩ := draws_ok ns
  obtain ⟨names, A, r, h⟩ := net_ok ds hl lo hi h0 h1 h2
  exact ⟨ds, names, A, r, hds, hl, h⟩
end Mr

set_option linter.all false
set_option maxRecDepth 10000
namespace Mr
open PySem Mi
theorem Net.sub {names : List Str} {arrows : List Ar} (N : Net names arrows) (p : Ar → Bool) : Net names (arrows.filter p) := by
  obtain ⟨r, hr⟩ := N.rk
  exact ⟨N.nd, N.pos, N.le, Nat.le_trans (List.length_filter_le _ _) N.al, fun q hq => N.tl q (List.mem_filter.mp hq).1, r, fun q hq => hr q (List.mem_filter.mp hq).1⟩
theorem last_strs {T : List Str} (h : 1 ≤ T.length) : ∃ x, dIx (strL T) (.int (-1)) = .ok (.str x) := by
  refine ⟨T.getD (T.length - 1) Str.empty, ?_⟩
  show ofO (atI (T.map D.str) (-1)) = _
  unfold atI ixN
  rw [if_neg (by decide), if_pos (by rw [List.length_map]; omega)]
  rw [List.length_map, show (-1 + (T.length : Int)).toNat = T.length - 1 by omega]
  show ofO ((T.map D.str)[T.length - 1]?) = _
  have h3 : T.length - 1 < T.length := by omega
  rw [List.getElem?_map, List.getElem?_eq_getElem h3, List.getD_eq_getElem?_getD, List.getElem?_eq_getElem h3]; rfl
theorem law_k07_holds (ns : List Int) : m_law_k07 [.d (.lst (ns.map D.int))] = .ok (.d (.bl true)) := by
  obtain ⟨ds, names, A, r, hds, hdl, hnet, IN, _, _⟩ := drawn_net ns 1 8 (by decide) (by decide) (by decide)
  have N := IN.net
  generalize hA : A.map (arrOf names) = arrows at hnet N
  have hT := in_turn_ok N
  have hR := l_right_ok N
  generalize hTT : ord names arrows names.length = T at hT hR
  have hTl : T.length = names.length := by rw [← hTT]; exact (N.ord_ok _ (Nat.le_refl _)).1
  obtain ⟨x, hx⟩ := last_strs (T := T) (by have := N.pos; omega)
  have N2 := N.sub fun p => !decide (p.2 = x)
  have hT2 := in_turn_ok N2
  have hR2 := l_right_ok N2
  unfold m_law_k07 b_law_k07
  rw [fnM1]
  rw [show ((1 : Nat) : Int) = 1 from rfl, show ((8 : Nat) : Int) = 8 from rfl] at hnet
  have hcomp : compD (.t [1, 2]) (cB (m2 dNe (mV 2) (m2 dIx (mV 0) (m1 dNeg (mC (.int 1)))))) (mN dTup [(mV 1), (mV 2)]) [some (.d (strL T)), none, none] (arrows.map pairD) = .ok ((arrows.filter fun p => !decide (p.2 = x)).map pairD) :=
    comp_map pairD pairD _ arrows fun p _ => ⟨[some (.d (strL T)), some (.d (.str p.1)), some (.d (.str p.2))], rfl, cB_ok ((m2_ok rfl (m2_ok rfl rfl hx) rfl).trans (dNe_str _ _)), fun _ => tup2 rfl rfl⟩
  have hal : (arrows.map pairD).length ≤ 16777216 := by rw [List.length_map]; have := N.al; omega
  rw [seq_ok (e' := [some (.d (.lst (ns.map D.int))), some (.d (netD names arrows)), none, none]) (set_ok (call3 (wD_ok (call1 rfl hds)) rfl rfl hnet))]
  rw [seq_ok (e' := [some (.d (.lst (ns.map D.int))), some (.d (netD names arrows)), some (.d (strL T)), none]) (set_ok (call1 rfl hT))]
  rw [seq_ok (e' := [some (.d (.lst (ns.map D.int))), some (.d (netD names arrows)), some (.d (strL T)), none]) ((if_ff (by unfold cNot; rw [cB_ok (callI2 rfl rfl hR (by simp [imm]))]; rfl)).trans rfl)]
  rw [seq_ok (e' := [some (.d (.lst (ns.map D.int))), some (.d (netD names arrows)), some (.d (strL T)), some (.d (netD names (arrows.filter fun p => !decide (p.2 = x))))]) (set_ok (tup2 (x := nmD names) (y := arD (arrows.filter fun p => !decide (p.2 = x))) (m2_ok rfl rfl (ix0 _ _)) ((n1_ok (comp_ok (iOf_ok (m2_ok rfl rfl (ix1 _ _)) rfl) hal hcomp)).trans rfl)))]
  rw [seq_ok (e' := [some (.d (.lst (ns.map D.int))), some (.d (netD names arrows)), some (.d (strL T)), some (.d (netD names (arrows.filter fun p => !decide (p.2 = x))))]) ((if_ff (by unfold cNot; rw [cB_ok (call2 rfl (wD_ok (call1 rfl hT2)) hR2)]; rfl)).trans rfl)]
  rw [seq_ok (e' := [some (.d (.lst (ns.map D.int))), some (.d (netD names arrows)), some (.d (.lst [])), some (.d (netD names (arrows.filter fun p => !decide (p.2 = x))))]) rfl]
  rw [ret_ok (wD_ok (call2 rfl (wD_ok (call1 rfl hT)) hR))]
  rfl
end Mr

set_option Elab.async false
set_option linter.all false
set_option maxRecDepth 100000
set_option maxHeartbeats 4000000
namespace Mk07
open PySem L2 PyProof.Rows
def noLst (K : PySem.W.Frag) : Bool := K.all fun p => match p.2.cls with | .type "list" => false | _ => true
theorem noLst_of {K : PySem.W.Frag} (h : noLst K = true) {a : Addr} {o : Obj} (e : K.lookup a = some o) (c : o.cls = .type "list") : False := by
  have hm : (a, o) ∈ K := by
    clear h
    induction K with
    | nil => cases e
    | cons p r ih =>
      obtain ⟨b, x⟩ := p
      simp only [List.lookup] at e
      split at e
      · rename_i q; cases e; rw [beq_iff_eq.mp q]; exact List.Mem.head _
      · exact List.Mem.tail _ (ih e)
  have h2 := List.all_eq_true.mp h _ hm
  simp only [c] at h2
  cases h2
theorem walk {l : PySem.W.OpenLaw} {q : Program} {loose : List Str} {XP : (Str → Option Value) → Heap → Prop} {YP : World → Heap → Prop} {d : DefRec} {K : Params → PySem.W.Frag} (hn : l.most = some 63) (hdf : d.params.defaults = [])
    (hY : ∀ (w : World) (h : Heap), YP w h → (K w.params).In h) (hL : ∀ w : World, noLst (K w.params) = true)
    (F : ∀ (w : World) (mg : Str → Option Value) (fa : Addr) (h : Heap), (K w.params).In h → h.Ns mainGlobals mg → mg d.name = some (.ref fa) →
      ∃ fd : FuncData, (∀ (s : Shared) (u : Value), BindsTo s fd ⟨[u], []⟩ [("_law_script", u)]) ∧ ∀ base : Heap, (K w.params).In base → base.Ns mainGlobals mg → FnOk l.prog w (K w.params) mg base CX0 5 fa fd ["_law_script"] A.spLaw) :
    PySem.W.WalkO q loose XP YP l.row.toRowW d [] (fun f vs => PySem.call f vs) :=
  L2.walk_of (n := 63) (k := 5) (x := "_law_script") (CX := fun _ => CX0) (sp := fun w => A.spLaw) hn (by decide) hdf ⟨rfl, by decide, by decide⟩ hY F (fun w _ a ns hl _ hS => ⟨a, ns, rfl, (match hS with
    | .inl r => r
    | .inr ⟨_, _, _, e, c, _⟩ => (noLst_of (hL w) e c).elim), hl, fun _ => rfl⟩) fun _ _ _ _ _ z => z
theorem txt_mk {K : PySem.W.Frag} {h : Heap} {mg : Str → Option Value} (X : K.In h) (G : h.Ns mainGlobals mg) (z_b_len : PySem.W.nsIn K mainGlobals "len" = some none) (z_b_range : PySem.W.nsIn K mainGlobals "range" = some none) (z_b_max : PySem.W.nsIn K mainGlobals "max" = some none) (z_b_min : PySem.W.nsIn K mainGlobals "min" = some none) (z_b_tuple : PySem.W.nsIn K mainGlobals "tuple" = some none) (z_b_list : PySem.W.nsIn K mainGlobals "list" = some none) (z_b_isinstance : PySem.W.nsIn K mainGlobals "isinstance" = some none) (z_b_all : PySem.W.nsIn K mainGlobals "all" = some none) (z_b_any : PySem.W.nsIn K mainGlobals "any" = some none) (z_b_bool : PySem.W.nsIn K mainGlobals "bool" = some none) (z_b_str : PySem.W.nsIn K mainGlobals "str" = some none) (z_b_int : PySem.W.nsIn K mainGlobals "int" = some none) (z_b_zip : PySem.W.nsIn K mainGlobals "zip" = some none) (z_b_enumerate : PySem.W.nsIn K mainGlobals "enumerate" = some none) (z_b_sorted : PySem.W.nsIn K mainGlobals "sorted" = some none) (z_b_reversed : PySem.W.nsIn K mainGlobals "reversed" = some none) (z_b_set : PySem.W.nsIn K mainGlobals "set" = some none)  : Txt mg :=
  ⟨PySem.W.mg_none_of X G z_b_len, PySem.W.mg_none_of X G z_b_range, PySem.W.mg_none_of X G z_b_max, PySem.W.mg_none_of X G z_b_min, PySem.W.mg_none_of X G z_b_tuple, PySem.W.mg_none_of X G z_b_list, PySem.W.mg_none_of X G z_b_isinstance, PySem.W.mg_none_of X G z_b_all, PySem.W.mg_none_of X G z_b_any, PySem.W.mg_none_of X G z_b_bool, PySem.W.mg_none_of X G z_b_str, PySem.W.mg_none_of X G z_b_int, PySem.W.mg_none_of X G z_b_zip, PySem.W.mg_none_of X G z_b_enumerate, PySem.W.mg_none_of X G z_b_sorted, PySem.W.mg_none_of X G z_b_reversed, PySem.W.mg_none_of X G z_b_set⟩
theorem all_mk {l : PySem.W.OpenLaw} {w : World} {K : PySem.W.Frag} {mg : Str → Option Value} {fa : Addr} (hfa : mg "law" = some (.ref fa)) (T : Txt mg) (F_refuse_strangers : FnD K mg "refuse_strangers" s_refuse_strangers ["names", "asked"]) (F_elders_of : FnD K mg "elders_of" s_elders_of ["net", "name"]) (F_first_ready : FnD K mg "first_ready" s_first_ready ["net", "told"]) (F_in_turn : FnD K mg "in_turn" s_in_turn ["net"]) (F_l_draws : FnD K mg "_law_draws" s_l_draws ["_law_script"]) (F_l_words : FnD K mg "_law_words" s_l_words ["_law_cell", "_law_many"]) (F_l_names : FnD K mg "_law_names" s_l_names ["_law_draws_here", "_law_many"]) (F_l_ranks : FnD K mg "_law_ranks" s_l_ranks ["_law_draw", "_law_many"]) (F_l_net : FnD K mg "_law_net" s_l_net ["_law_draws_here", "_law_least", "_law_most"]) (F_l_ready : FnD K mg "_law_ready" s_l_ready ["_law_net_here", "_law_told"]) (F_l_right : FnD K mg "_law_right" s_l_right ["_law_net_here", "_law_told"]) (F_law : FnD K mg "law" s_law ["_law_script"]) :
    ∃ fd : FuncData, (∀ (s : Shared) (u : Value), BindsTo s fd ⟨[u], []⟩ [("_law_script", u)]) ∧ ∀ base : Heap, K.In base → base.Ns mainGlobals mg → FnOk l.prog w K mg base CX0 5 fa fd ["_law_script"] A.spLaw :=
  F_law.law hfa fun base kb nb f fd F => by
    have C_refuse_strangers := F_refuse_strangers.cal (P := l.prog) (w := w) (base := base) (CX := CX0) fun f fd F => ok_refuse_strangers F T 
    have C_elders_of := F_elders_of.cal (P := l.prog) (w := w) (base := base) (CX := CX0) fun f fd F => ok_elders_of F T C_refuse_strangers
    have C_first_ready := F_first_ready.cal (P := l.prog) (w := w) (base := base) (CX := CX0) fun f fd F => ok_first_ready F T C_elders_of
    have C_in_turn := F_in_turn.cal (P := l.prog) (w := w) (base := base) (CX := CX0) fun f fd F => ok_in_turn F T C_first_ready
    have C_l_draws := F_l_draws.cal (P := l.prog) (w := w) (base := base) (CX := CX0) fun f fd F => ok_l_draws F T 
    have C_l_words := F_l_words.cal (P := l.prog) (w := w) (base := base) (CX := CX0) fun f fd F => ok_l_words F T 
    have C_l_names := F_l_names.cal (P := l.prog) (w := w) (base := base) (CX := CX0) fun f fd F => ok_l_names F T C_l_words
    have C_l_ranks := F_l_ranks.cal (P := l.prog) (w := w) (base := base) (CX := CX0) fun f fd F => ok_l_ranks F T 
    have C_l_net := F_l_net.cal (P := l.prog) (w := w) (base := base) (CX := CX0) fun f fd F => ok_l_net F T C_l_names C_l_ranks
    have C_l_ready := F_l_ready.cal (P := l.prog) (w := w) (base := base) (CX := CX0) fun f fd F => ok_l_ready F T 
    have C_l_right := F_l_right.cal (P := l.prog) (w := w) (base := base) (CX := CX0) fun f fd F => ok_l_right F T C_l_ready
    exact A.law_of (ok_law F T C_in_turn C_l_draws C_l_net C_l_right) fun ns _ => Mr.law_k07_holds ns
end Mk07
open PySem PySem.W PyProof.Rows
set_option maxRecDepth 100000 in
set_option maxHeartbeats 0 in
theorem PySem.Challenge.cw_arrowfind_k07_whole_in_turn_holds : PySem.Challenge.rw_arrowfind_k07_whole_in_turn.Holds := by
  w_on; o_law; k_head; (case hw => w_witness2)
  k_fill
  refine Mk07.walk (l := PySem.Challenge.rw_arrowfind_k07_whole_in_turn) rfl rfl (fun w h Y => PySem.W.kIn_of Y) ?L ?F
  case L =>
    intro w
    kernel_rfl
  case F =>
    intro w mg fa h KX G hmg
    refine' Mk07.all_mk hmg ?T ?F_refuse_strangers ?F_elders_of ?F_first_ready ?F_in_turn ?F_l_draws ?F_l_words ?F_l_names ?F_l_ranks ?F_l_net ?F_l_ready ?F_l_right ?F_law
    case T =>
      refine' Mk07.txt_mk KX G ?z_b_len ?z_b_range ?z_b_max ?z_b_min ?z_b_tuple ?z_b_list ?z_b_isinstance ?z_b_all ?z_b_any ?z_b_bool ?z_b_str ?z_b_int ?z_b_zip ?z_b_enumerate ?z_b_sorted ?z_b_reversed ?z_b_set
      (case z_b_len => k_is)
      (case z_b_range => k_is)
      (case z_b_max => k_is)
      (case z_b_min => k_is)
      (case z_b_tuple => k_is)
      (case z_b_list => k_is)
      (case z_b_isinstance => k_is)
      (case z_b_all => k_is)
      (case z_b_any => k_is)
      (case z_b_bool => k_is)
      (case z_b_str => k_is)
      (case z_b_int => k_is)
      (case z_b_zip => k_is)
      (case z_b_enumerate => k_is)
      (case z_b_sorted => k_is)
      (case z_b_reversed => k_is)
      (case z_b_set => k_is)
    case F_refuse_strangers =>
      refine' L2.fnD_mk KX G (fun _ _ _ _ _ _ us hl => match us, hl with | [_, _], _ => rfl) ?a ?l ?c ?k
      (case a => k_is); (case l => k_is); (case c => k_is); (case k => k_is)
    case F_elders_of =>
      refine' L2.fnD_mk KX G (fun _ _ _ _ _ _ us hl => match us, hl with | [_, _], _ => rfl) ?a ?l ?c ?k
      (case a => k_is); (case l => k_is); (case c => k_is); (case k => k_is)
    case F_first_ready =>
      refine' L2.fnD_mk KX G (fun _ _ _ _ _ _ us hl => match us, hl with | [_, _], _ => rfl) ?a ?l ?c ?k
      (case a => k_is); (case l => k_is); (case c => k_is); (case k => k_is)
    case F_in_turn =>
      refine' L2.fnD_mk KX G (fun _ _ _ _ _ _ us hl => match us, hl with | [_], _ => rfl) ?a ?l ?c ?k
      (case a => k_is); (case l => k_is); (case c => k_is); (case k => k_is)
    case F_l_draws =>
      refine' L2.fnD_mk KX G (fun _ _ _ _ _ _ us hl => match us, hl with | [_], _ => rfl) ?a ?l ?c ?k
      (case a => k_is); (case l => k_is); (case c => k_is); (case k => k_is)
    case F_l_words =>
      refine' L2.fnD_mk KX G (fun _ _ _ _ _ _ us hl => match us, hl with | [_, _], _ => rfl) ?a ?l ?c ?k
      (case a => k_is); (case l => k_is); (case c => k_is); (case k => k_is)
    case F_l_names =>
      refine' L2.fnD_mk KX G (fun _ _ _ _ _ _ us hl => match us, hl with | [_, _], _ => rfl) ?a ?l ?c ?k
      (case a => k_is); (case l => k_is); (case c => k_is); (case k => k_is)
    case F_l_ranks =>
      refine' L2.fnD_mk KX G (fun _ _ _ _ _ _ us hl => match us, hl with | [_, _], _ => rfl) ?a ?l ?c ?k
      (case a => k_is); (case l => k_is); (case c => k_is); (case k => k_is)
    case F_l_net =>
      refine' L2.fnD_mk KX G (fun _ _ _ _ _ _ us hl => match us, hl with | [_, _, _], _ => rfl) ?a ?l ?c ?k
      (case a => k_is); (case l => k_is); (case c => k_is); (case k => k_is)
    case F_l_ready =>
      refine' L2.fnD_mk KX G (fun _ _ _ _ _ _ us hl => match us, hl with | [_, _], _ => rfl) ?a ?l ?c ?k
      (case a => k_is); (case l => k_is); (case c => k_is); (case k => k_is)
    case F_l_right =>
      refine' L2.fnD_mk KX G (fun _ _ _ _ _ _ us hl => match us, hl with | [_, _], _ => rfl) ?a ?l ?c ?k
      (case a => k_is); (case l => k_is); (case c => k_is); (case k => k_is)
    case F_law =>
      refine' L2.fnD_mk KX G (fun _ _ _ _ _ _ us hl => match us, hl with | [_], _ => rfl) ?a ?l ?c ?k
      (case a => k_is); (case l => k_is); (case c => k_is); (case k => k_is)
#print axioms PySem.Challenge.cw_arrowfind_k07_whole_in_turn_holds

