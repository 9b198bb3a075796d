import PyProof.Rows.All
import Wide.All
import OpenK.AllK
import Wide.FinOn
import Lean
import PyProof.EqAt
import PyProof.EqKinds
import PyProof.TupleCall
import PySem.Str
import PyProof.NeKinds
import PyProof.Draws
import PyProof.EnumMake
import PyProof.ZipIter
import KE.KSortTup
import KE.KLam
import PyProof.Rows.SortStr
import PyProof.Rows.FactsT3
import PyProof.StrOps2
import KE.KDictList
import KE.KRevIter
import PyProof.CollectIter
import PyProof.TupleOfGen
import PyProof.Rows.StrNews2
import PyProof.Rows.StrFacts2
import PyProof.ExcClass2
import PyProof.ExcInit
import PyProof.InstStoreFacts
import PyProof.ReprRoads
import KE.KSortAsk
import PyProof.SumWalk
import PyProof.Rows.SeqCalls
import PyProof.Rows.Range3
import PyProof.ListRange
import PyProof.StrLawsRepr
import PyProof.Rows.StrCase
import PySem.Challenge.RW_arrowfind_k51_numbers_there_and_back
namespace L2
end L2
namespace HT
end HT
namespace Att
end Att
namespace L2
end L2
namespace L2
end L2
namespace L2
end L2
set_option linter.all false
namespace Mi
open PySem
inductive D where
  | non | bl (b : Bool) | int (i : Int) | str (x : Str) | lst (ds : List D) | tup (ds : List D)
mutual
/-- Python's == -/
def pyEq : D → D → Bool
  | .non, .non => true
  | .bl a, .bl b => a == b
  | .bl a, .int b => (if a then 1 else 0) == b
  | .int a, .bl b => a == (if b then 1 else 0)
  | .int a, .int b => a == b
  | .str a, .str b => a == b
  | .lst a, .lst b => pyEqs a b
  | .tup a, .tup b => pyEqs a b
  | _, _ => false
def pyEqs : List D → List D → Bool
  | [], [] => true
  | a :: r, b :: s => pyEq a b && pyEqs r s
  | _, _ => false
end
abbrev Ky := Sum Bool Str
structure Kp where
  a : Nat
  c : Nat
  q : Str
  ga : List Nat
  deriving DecidableEq
inductive W where
  | d (x : D) | dk (kvs : List (Ky × D)) | dt (kvs : List (List Ky × D)) | df (kvs : List (List Ky × D)) | ex (c : String) | fn (κ : Kp) (caps : List D) | xr (c : String) (x : D) | mm (U : List (List Ky)) (g : List Ky → D → Prop)
abbrev Env := List (Option W)
structure Exn where
  cls : String
  val : List D
inductive Rs (α : Type) where
  | ok (a : α) | ex (x : Exn) | no
@[simp] theorem bind_ok {α β : Type} (a : α) (f : α → Rs β) : (Rs.ok a).bind f = f a := rfl
@[simp] theorem bind_ex {α β : Type} (x : Exn) (f : α → Rs β) : (Rs.ex x).bind f = .ex x := rfl
@[simp] theorem bind_no {α β : Type} (f : α → Rs β) : (Rs.no).bind f = .no := rfl
def Fin {α : Type} (r : Rs α) (k : α → Prop) : Prop := match r with
  | .ok a => k a
  | _ => False
theorem fin_bind {α β : Type} {r : Rs α} {f : α → Rs β} {k : β → Prop} : Fin (r.bind f) k ↔ Fin r fun a => Fin (f a) k := by cases r <;> exact Iff.rfl
def ofO {α : Type} : Option α → Rs α
  | some a => .ok a
  | none => .no
def guardR {α : Type} (c : Prop) [Decidable c] (r : Rs α) : Rs α := if c then r else .no
abbrev E := Env → Rs D
abbrev C := Env → Rs Bool
abbrev I := Env → Rs (List D)
def dItems : D → Rs (List D)
  | .lst ds => .ok ds
  | .tup ds => .ok ds
  | .str x => .ok (x.cps.toList.map fun c => .str ⟨#[c]⟩)
  | _ => .no
def okR (i : Int) : Prop := -(2 ^ 62) ≤ i ∧ i < 2 ^ 62
instance (i : Int) : Decidable (okR i) := inferInstanceAs (Decidable (_ ∧ _))
inductive Tg where
  | n (i : Nat) | t (is : List Nat)
abbrev Fn := List W → Rs W
abbrev EW := Env → Rs W
inductive Out where
  | nx (e : Env) | rt (w : W) | bk (e : Env) | ct (e : Env)
abbrev S := Env → Rs Out
def okMul (i j : Int) : Prop := (-(2 ^ 64) < i ∧ i < 2 ^ 64) ∨ (-(2 ^ 64) < j ∧ j < 2 ^ 64)
instance (i j : Int) : Decidable (okMul i j) := inferInstanceAs (Decidable (_ ∨ _))
def okDiv (j : Int) : Prop := 0 < j ∧ j.natAbs.log2 < 9000
instance (j : Int) : Decidable (okDiv j) := inferInstanceAs (Decidable (_ ∧ _))
def okPow (i j : Int) : Prop := 0 ≤ j ∧ j ≤ 1000000 ∧ i.natAbs < 2 ^ 64
instance (i j : Int) : Decidable (okPow i j) := inferInstanceAs (Decidable (_ ∧ _))
end Mi
namespace L2
end L2
namespace L2
end L2
set_option Elab.async false
set_option linter.all false
set_option maxRecDepth 100000
set_option maxHeartbeats 4000000
namespace A
open PySem L2 PyProof.Rows
open Mi (D W Rs Fin fin_bind)
section
variable {α β : Type} {F G : α → β → Prop}
end
class Tabs where
  l : List (Addr × Str)
  cl : String → Addr
variable [Tb : Tabs]
class KM (κ : Kd) : Prop where
  mono : ∀ {H H1 H' Hv' w v}, Old H H1 → κ H1 H' Hv' w v → κ H H' Hv' w v
instance : KM qP := ⟨fun _ h => h⟩
instance : KM qV := ⟨fun _ h => h⟩
instance : KM qN := ⟨fun s ⟨a, o, e, n, r⟩ => ⟨a, o, e, s.free n, r⟩⟩
end A
set_option Elab.async false
set_option linter.all false
set_option maxRecDepth 100000
set_option maxHeartbeats 4000000
namespace A
open PySem L2 PyProof.Rows
open Mi (D W Rs Fin fin_bind)
variable [Tb : Tabs]
class KG (κ : Kd) : Prop where
  go : ∀ {H H1 Hv1 H2 Hv2 w v}, Grow H1 Hv1 H2 Hv2 → κ H H1 Hv1 w v → κ H H2 Hv2 w v
instance : KG qP := ⟨fun g h => h.grow g⟩
instance : KG qV := ⟨fun g h => repW_same g.vis h⟩
instance : KG qN := ⟨fun g ⟨a, o, e, n, q, z, c⟩ => ⟨a, o, e, n, g.old.at q c.nt, g.hid _ _ q z, c.same g.vis⟩⟩
section
variable {M : Nat → Bool} {κ : Kd} {t ta tb tc te : TE} {a b c : Mi.E} {r r' : R2} {f g : D → D → Rs D}
variable {tt uu : TT} {k l : Mi.C}
variable {tr : TA} {as : List Mi.E} {ws : List Mi.EW}
variable {fn : Mi.Fn} {E : XK}
end
end A
namespace A
end A
namespace A
end A
namespace A
end A
namespace A
end A
namespace A
end A
namespace A
end A
namespace Zp
end Zp
namespace Zp
end Zp
namespace Zp
end Zp
namespace Zp
end Zp
set_option Elab.async false
set_option linter.all false
set_option maxRecDepth 100000
set_option maxHeartbeats 4000000
namespace Mi
end Mi
namespace Zp
open PySem PySem.Spec PyProof.Rows L2 A
open Mi (D W Rs Fin fin_bind)
variable [Tb : A.Tabs]
section
variable {X : Cx} {elts : List Expr} {k1 : Nat} {tpos : Pos} {M : Nat → Bool}
end
end Zp
namespace Zp
end Zp
set_option Elab.async false
set_option linter.all false
set_option maxRecDepth 100000
set_option maxHeartbeats 4000000
namespace Mi
end Mi
namespace Zp
open PySem PySem.Spec PyProof.Rows L2 A
open Mi (D W Rs Fin fin_bind)
open AutoSeq1 (wpAny_loadPart')
variable [Tb : A.Tabs]
section
variable {X : Cx} {elts : List Expr} {k1 : Nat} {tpos : Pos} {M : Nat → Bool}
end
end Zp
set_option Elab.async false
set_option linter.all false
set_option maxRecDepth 100000
set_option maxHeartbeats 4000000
namespace Mi
end Mi
namespace Zp
open PySem PySem.Spec PyProof.Rows L2 A
open Mi (D W Rs Fin fin_bind)
variable [Tb : A.Tabs]
section
variable {X : Cx} {M : Nat → Bool} {κ : Kd}
end
end Zp
set_option Elab.async false
set_option linter.all false
set_option maxRecDepth 100000
set_option maxHeartbeats 4000000
namespace Mi
abbrev SN := List D → List D → Env → Rs Out
end Mi
namespace Zp
open PySem PySem.Spec PyProof.Rows L2 A
open Mi (D W Rs Fin fin_bind Out)
variable [Tb : A.Tabs]
section
variable {M : Nat → Bool} {H0 Hv0 : Hp} {E : Mi.Env} {σ : L2.St} {H Ho : Hp} {i : Nat} {p0 p1 p2 : Addr} {ra rb : List D}
end
section
variable {M : Nat → Bool} {i : Nat} {K : PySem.W.Frag} {u : TS} {r : Mi.SN}
end
end Zp
namespace A
end A
namespace A
end A
set_option linter.all false
namespace Mi
open PySem
end Mi
namespace A
end A
namespace A
end A
namespace So
end So
namespace So
end So
namespace So
end So
namespace L2
end L2
namespace So
end So
namespace L2
end L2
namespace L2
end L2
set_option linter.all false
namespace Mi
open PySem
end Mi
namespace A
end A
namespace So
end So
namespace A
end A
namespace L2
end L2
namespace A
end A
set_option Elab.async false
set_option linter.all false
set_option maxRecDepth 100000
set_option maxHeartbeats 1000000
namespace Mi
end Mi
namespace A
open PySem L2 PyProof.Rows So
open Mi (D W Rs Fin fin_bind Out Tg)
variable [Tb : Tabs]
section
variable {K : PySem.W.Frag} {M : Nat → Bool} {t : TE} {m : Mi.E} {w : Mi.EW}
end
end A
namespace L2
end L2
namespace L2
end L2
namespace L2
end L2
set_option Elab.async false
set_option linter.all false
set_option maxRecDepth 100000
set_option maxHeartbeats 1000000
namespace Mi
open PySem
def FinX {α : Type} (r : Rs α) (k : α → Prop) (x : Exn → Prop) : Prop := match r with
  | .ok a => k a
  | .ex z => x z
  | .no => False
theorem finx_bind {α β : Type} {r : Rs α} {f : α → Rs β} {k : β → Prop} {x : Exn → Prop} : FinX (r.bind f) k x ↔ FinX r (fun a => FinX (f a) k x) x := by cases r <;> exact Iff.rfl
end Mi
namespace A
open PySem L2 PyProof.Rows So
open Mi (D W Rs Fin FinX fin_bind finx_bind Out Tg Exn)
variable [Tb : Tabs]
section
variable {M : Nat → Bool} {κ : Kd} {x : Exn → Hp → Hp → Prop} {t u : TS} {m n : Mi.S} {cl : String → Addr} {E : XK}
end
end A
namespace L2
end L2
namespace L2
end L2
set_option Elab.async false
set_option linter.all false
set_option maxRecDepth 100000
set_option maxHeartbeats 1000000
namespace L2
open PySem PySem.Spec PyProof.Rows
end L2
namespace Mi
open PySem
end Mi
namespace A
open PySem L2 PyProof.Rows So
open Mi (D W Rs Fin FinX fin_bind finx_bind Out Tg Exn)
variable [Tb : Tabs]
section
variable {M : Nat → Bool} {κ : Kd} {t u : TSX} {m n : Mi.S}
end
end A
namespace PySem.W
end PySem.W
set_option Elab.async false
set_option linter.all false
set_option maxRecDepth 100000
set_option maxHeartbeats 1000000
namespace L2
open PySem PySem.Spec PyProof.Rows
open A (excX)
section
variable {X : Cx} {pins : List (Addr × Obj)} {σ : St} {H : Hp} {s : Shared}
end
end L2
namespace Mi
open PySem
end Mi
namespace A
open PySem L2 PyProof.Rows So
open Mi (D W Rs Fin FinX fin_bind finx_bind Out Tg Exn)
variable [Tb : Tabs]
section
variable {K : PySem.W.Frag} {M : Nat → Bool} {b : String → Option Bool}
end
end A
set_option Elab.async false
set_option linter.all false
set_option maxRecDepth 100000
set_option maxHeartbeats 1000000
namespace Mi
open PySem
end Mi
namespace L2
open PySem PySem.Spec PyProof.Rows
section
variable {X : Cx}
end
end L2
namespace A
open PySem L2 PyProof.Rows So
open Mi (D W Rs Fin fin_bind)
variable [Tb : Tabs]
section
variable {K : PySem.W.Frag} {M : Nat → Bool} {ta : TE} {a : Mi.E}
end
end A
set_option Elab.async false
set_option linter.all false
set_option maxRecDepth 100000
set_option maxHeartbeats 1000000
namespace Mi
end Mi
namespace A
open PySem L2 PyProof.Rows So
open Mi (D W Rs Fin fin_bind Out Tg)
variable [Tb : Tabs]
section
variable {M : Nat → Bool} {κ : Kd} {t : TS} {m : Mi.S}
end
end A
set_option Elab.async false
set_option linter.all false
set_option maxRecDepth 100000
set_option maxHeartbeats 1000000
namespace Mi
open PySem
end Mi
namespace L2
open PySem PySem.Spec PyProof.Rows
section
variable {X : Cx}
end
end L2
namespace A
open PySem L2 PyProof.Rows So
open Mi (D W Rs Fin fin_bind)
variable [Tb : Tabs]
section
variable {X : Cx}
end
end A
set_option Elab.async false
set_option linter.all false
set_option maxRecDepth 100000
set_option maxHeartbeats 1000000
namespace Mi
open PySem
end Mi
namespace A
open PySem L2 PyProof.Rows So
open Mi (D W Rs Fin FinX fin_bind finx_bind Out Tg Exn)
variable [Tb : Tabs]
section
variable {M : Nat → Bool} {κ : Kd} {t u : TS} {m n : Mi.S} {cl : String → Addr} {E : XK}
end
end A
set_option Elab.async false
set_option linter.all false
set_option maxRecDepth 100000
set_option maxHeartbeats 1000000
namespace L2
open PySem PySem.Spec PyProof.Rows
section
variable {pr : Program} {wo : World} {Ar : Around} {Ex : Value → Shared → Prop}
end
end L2
namespace Mi
open PySem
end Mi
namespace A
open PySem L2 PyProof.Rows So
open Mi (D W Rs Fin fin_bind Out Tg)
variable [Tb : Tabs]
section
variable {X : Cx} {pos : Pos}
end
section
variable {M : Nat → Bool} {κ : Kd} {te : TE} {a : Mi.E}
end
end A
set_option Elab.async false
set_option linter.all false
set_option maxRecDepth 100000
set_option maxHeartbeats 1000000
namespace Mi
open PySem
end Mi
namespace L2
open PySem PySem.Spec PyProof.Rows
section
variable {pr : Program} {wo : World} {Ar : Around} {Ex : Value → Shared → Prop} {z : Shared}
end
end L2
namespace A
open PySem L2 PyProof.Rows
open Mi (D W Rs Fin fin_bind)
variable [Tb : Tabs]
section
variable {X : Cx} {K : PySem.W.Frag}
end
end A
set_option Elab.async false
set_option linter.all false
set_option maxRecDepth 100000
set_option maxHeartbeats 1000000
namespace Mi
open PySem
end Mi
namespace A
open PySem L2 PyProof.Rows
open Mi (D W Rs Fin fin_bind)
variable [Tb : Tabs]
section
variable {X : Cx} {K : PySem.W.Frag}
end
end A
set_option Elab.async false
set_option linter.all false
set_option maxRecDepth 100000
set_option maxHeartbeats 1000000
namespace Mi
open PySem
end Mi
namespace L2
open PySem PySem.Spec PyProof.Rows
section
variable {X : Cx}
end
end L2
namespace A
open PySem L2 PyProof.Rows
open Mi (D W Rs Fin fin_bind)
variable [Tb : Tabs]
section
variable {M : Nat → Bool}
end
end A
set_option Elab.async false
set_option linter.all false
set_option maxRecDepth 100000
set_option maxHeartbeats 1000000
namespace Mi
open PySem
end Mi
namespace A
open PySem L2 PyProof.Rows So
open Mi (D W Rs Fin fin_bind Out Tg)
variable [Tb : Tabs]
section
variable {H0 Hv0 : Hp} {Rl : Mi.Env → L2.St → Hp → Hp → Prop} {t u : TS} {m n : Mi.S}
end
section
variable {i j : Nat} {H0 Hv0 : Hp} {t : TS} {m : Mi.S}
end
end A
namespace L2
end L2
set_option linter.all false
namespace So
end So
namespace Mi
open PySem
end Mi
namespace L2
end L2
namespace A
end A
namespace L2
end L2
namespace A
end A
namespace L2
end L2
namespace Rv
end Rv
namespace L2
end L2
namespace A
end A
namespace So
end So
namespace L2
end L2
namespace A
end A
set_option Elab.async false
set_option linter.all false
set_option maxRecDepth 100000
set_option maxHeartbeats 1000000
namespace Mi
open PySem
end Mi
namespace L2
open PySem PySem.Spec PyProof.Rows
open PySem.Builtin PySem.Builtin.Str
section
variable {X : Cx}
end
end L2
namespace A
open PySem L2 PyProof.Rows So
open Mi (D W Rs Fin fin_bind)
variable [Tb : Tabs]
section
variable {K : PySem.W.Frag} {M : Nat → Bool} {ta tb : TE} {a b : Mi.E}
end
end A
set_option Elab.async false
set_option linter.all false
set_option maxRecDepth 100000
set_option maxHeartbeats 1000000
namespace Mi
open PySem
end Mi
namespace L2
open PySem PySem.Spec PyProof.Rows
section
variable {X : Cx}
end
end L2
namespace A
open PySem L2 PyProof.Rows So
open Mi (D W Rs Fin fin_bind)
variable [Tb : Tabs]
section
variable {M : Nat → Bool}
end
end A
set_option Elab.async false
set_option linter.all false
namespace Mi
end Mi
namespace A
open PySem L2 PyProof.Rows
open Mi (D W Rs Fin fin_bind)
variable [Tb : Tabs]
end A
set_option Elab.async false
set_option linter.all false
namespace Mi
end Mi
namespace A
open PySem L2 PyProof.Rows
open Mi (D W Rs Fin fin_bind)
variable [Tb : Tabs] {M : Nat → Bool} {κ : Kd} {tr : TA} {a b : Mi.E}
end A
namespace A
end A
namespace A
end A
namespace A
end A
set_option Elab.async false
set_option linter.all false
set_option maxHeartbeats 4000000
namespace Mi
end Mi
namespace A
open PySem L2 PyProof.Rows
open Mi (D W Rs Fin fin_bind Out)
section
variable [Tb : Tabs] {M : Nat → Bool} {κ : Kd}
end
end A
namespace A
end A
namespace L2
end L2
set_option linter.all false
namespace Mi
end Mi
namespace A
end A
namespace L2
end L2
set_option Elab.async false
set_option linter.all false
set_option maxRecDepth 100000
set_option maxHeartbeats 4000000
namespace Mi
end Mi
namespace L2
open PySem PySem.Spec PyProof.Rows
section
variable {P : Program} {w : World} {A : Around} {E : Value → Shared → Prop} {s : Shared} {d it : Addr} {es : Array DictEntry} {ep i : Nat}
end
section
variable {X : Cx} {pins : List (Addr × Obj)} {σ : St} {H : Hp} {s : Shared} {a : Addr} {kv : List (List Key × V)}
end
end L2
namespace A
open PySem L2 PyProof.Rows
open Mi (D W Rs Fin fin_bind Tg)
variable [Tb : Tabs] {M : Nat → Bool} {κ : Kd} {K : PySem.W.Frag}
end A
set_option Elab.async false
set_option linter.all false
set_option maxRecDepth 100000
set_option maxHeartbeats 1000000
namespace Mi
def b01 (b : Bool) : Int := if b = true then 1 else 0
end Mi
namespace So
open PySem PySem.W PyProof.Rows
open Mi (b01)
section
variable {prog : Program} {w : World} {A : Around} {E : Value → Shared → Prop} {s : Shared}
end
end So
namespace L2
end L2
namespace A
end A
namespace L2
end L2
set_option Elab.async false
set_option linter.all false
set_option maxRecDepth 100000
set_option maxHeartbeats 4000000
namespace Mi
end Mi
namespace L2
open PySem PySem.Spec PyProof.Rows A
variable [Tb : Tabs]
section
variable {X : Cx}
end
end L2
namespace A
open PySem L2 PyProof.Rows
open Mi (D W Rs Fin fin_bind)
variable [Tb : Tabs] {M : Nat → Bool}
end A
namespace PySem
end PySem
namespace PySem.W
end PySem.W
namespace PySem
end PySem
namespace L2
end L2
namespace L2
end L2
set_option Elab.async false
set_option linter.all false
set_option maxRecDepth 100000
set_option maxHeartbeats 1000000
namespace Mi
open PySem
end Mi
namespace A
open PySem L2 PyProof.Rows So
open Mi (D W Rs Fin FinX fin_bind finx_bind Out Tg Exn)
variable [Tb : Tabs]
section
variable {M : Nat → Bool} {κ : Kd} {cl : String → Addr} {E : XK}
end
end A
set_option Elab.async false
set_option linter.all false
set_option maxRecDepth 100000
set_option maxHeartbeats 1000000
namespace L2
open PySem PySem.Spec PyProof.Rows
section
variable {X : Cx} {K : PySem.W.Frag} {H : Hp} {a e : Addr} {xs : List V} {o : HO}
end
end L2
namespace Mi
open PySem
end Mi
namespace A
open PySem L2 PyProof.Rows So
open Mi (D W Rs Fin FinX fin_bind finx_bind Out Tg Exn)
variable [Tb : Tabs]
section
variable {M : Nat → Bool} {κ : Kd} {cl : String → Addr} {E : XK}
end
end A
namespace PySem.W
end PySem.W
set_option Elab.async false
set_option linter.all false
set_option maxRecDepth 100000
set_option maxHeartbeats 1000000
namespace L2
open PySem PySem.Spec PyProof.Rows
open A (excX)
section
variable {X : Cx}
end
end L2
namespace Mi
open PySem
end Mi
namespace A
open PySem L2 PyProof.Rows So
open Mi (D W Rs Fin FinX fin_bind finx_bind Out Tg Exn)
variable [Tb : Tabs]
section
variable {K : PySem.W.Frag} {M : Nat → Bool} {κ : Kd} {b : String → Option Bool} {t : TSX} {m : Mi.S}
end
end A
set_option Elab.async false
set_option linter.all false
set_option maxRecDepth 100000
set_option maxHeartbeats 1000000
namespace L2
open PySem PySem.Spec PyProof.Rows
open A (excX)
section
variable {X : Cx}
end
end L2
namespace Mi
open PySem
end Mi
namespace A
open PySem L2 PyProof.Rows So
open Mi (D W Rs Fin FinX fin_bind finx_bind Out Tg Exn)
variable [Tb : Tabs]
section
variable {M : Nat → Bool}
end
end A
namespace Tm
end Tm
namespace Tm
end Tm
namespace Tm
end Tm
namespace So
end So
set_option Elab.async false
set_option linter.all false
set_option maxRecDepth 100000
set_option maxHeartbeats 1000000
namespace Mi
open PySem
end Mi
namespace A
open PySem L2 PyProof.Rows So
open Mi (D W Rs Fin fin_bind)
variable [Tb : Tabs]
section
variable {X : Cx}
end
end A
set_option Elab.async false
set_option linter.all false
set_option maxRecDepth 100000
set_option maxHeartbeats 1000000
namespace Mi
open PySem
end Mi
namespace L2
open PySem PySem.Spec PyProof.Rows
section
variable {X : Cx}
end
end L2
namespace A
open PySem L2 PyProof.Rows
open Mi (D W Rs Fin fin_bind)
variable [Tb : Tabs]
end A
set_option Elab.async false
set_option linter.all false
set_option maxRecDepth 100000
set_option maxHeartbeats 1000000
namespace Mi
open PySem
end Mi
namespace L2
open PySem PySem.Spec PyProof.Rows
section
variable {X : Cx}
end
end L2
namespace A
open PySem L2 PyProof.Rows
open Mi (D W Rs Fin fin_bind)
variable [Tb : Tabs]
end A
set_option Elab.async false
set_option linter.all false
set_option maxRecDepth 100000
set_option maxHeartbeats 1000000
namespace Mi
end Mi
namespace L2
open PySem PySem.Spec PyProof.Rows
section
variable {X : Cx} {tg : Expr}
end
end L2
namespace L2
open PySem PySem.Spec PyProof.Rows
section
variable {X : Cx} {tg : Expr}
end
end L2
namespace A
open PySem L2 PyProof.Rows
open Mi (D W Rs Fin fin_bind Out Tg)
variable [Tb : Tabs]
section
variable {M : Nat → Bool} {ta : TE} {a : Mi.E}
end
end A
namespace L2
end L2
set_option Elab.async false
set_option linter.all false
set_option maxRecDepth 100000
set_option maxHeartbeats 1000000
namespace Mi
open PySem
end Mi
namespace A
open PySem L2 PyProof.Rows
open Mi (D W Rs Fin fin_bind)
variable [Tb : Tabs]
section
variable {M : Nat → Bool}
end
end A
namespace A
end A
set_option Elab.async false
set_option linter.all false
set_option maxHeartbeats 4000000
namespace Mi
end Mi
namespace A
open PySem L2 PyProof.Rows
open Mi (D W Rs Fin fin_bind Out)
section
variable [Tb : Tabs] {M : Nat → Bool} {κ : Kd}
end
end A
set_option Elab.async false
set_option linter.all false
namespace Mi
end Mi
namespace L2
open PySem PySem.Spec PyProof.Rows
variable {X : Cx}
end L2
namespace A
open PySem L2 PyProof.Rows
variable [Tb : Tabs]
end A
set_option Elab.async false
set_option linter.all false
set_option maxHeartbeats 4000000
namespace Mi
end Mi
namespace A
open PySem L2 PyProof.Rows
open Mi (D W Rs Fin fin_bind Out Tg)
section
variable [Tb : Tabs] {M : Nat → Bool} {κ : Kd}
end
end A
set_option Elab.async false
set_option linter.all false
set_option maxHeartbeats 4000000
namespace Mi
end Mi
namespace A
open PySem L2 PyProof.Rows
open Mi (D W Rs Fin fin_bind Out Tg)
section
variable [Tb : Tabs] {M : Nat → Bool} {κ : Kd}
end
end A
set_option Elab.async false
set_option linter.all false
set_option maxHeartbeats 4000000
namespace Mi
end Mi
namespace A
open PySem L2 PyProof.Rows
open Mi (D W Rs Fin fin_bind Out Tg)
section
variable [Tb : Tabs] {M : Nat → Bool} {κ : Kd}
end
end A
namespace A
end A
set_option Elab.async false
set_option linter.all false
set_option maxHeartbeats 4000000
namespace Mi
end Mi
namespace A
open PySem L2 PyProof.Rows
open Mi (D W Rs Fin fin_bind Out Tg)
section
variable [Tb : Tabs] {M : Nat → Bool} {κ : Kd}
instance : KM qO := ⟨fun s h => h.imp id (KM.mono (κ := qN) s)⟩
end
end A
set_option Elab.async false
set_option linter.all false
set_option maxRecDepth 100000
set_option maxHeartbeats 1000000
namespace Mi
end Mi
namespace L2
open PySem PyProof.Rows
end L2
namespace A
open PySem L2 PyProof.Rows
open Mi (D W Rs Fin fin_bind)
variable [Tb : Tabs]
end A
set_option Elab.async false
set_option linter.all false
set_option maxRecDepth 100000
set_option maxHeartbeats 1000000
namespace Mi
end Mi
namespace Zp
open PySem PySem.Spec PyProof.Rows L2 A
open Mi (D W Rs Fin fin_bind Out)
variable [Tb : A.Tabs] {M : Nat → Bool} {i : Nat} {u s1 : TS} {r m : Mi.SN}
end Zp
set_option linter.all false
set_option maxRecDepth 100000
namespace Mr
open PySem Mi
noncomputable section
end
end Mr
namespace A
end A
namespace Mk51
end Mk51
namespace L2
end L2
set_option linter.all false
namespace Mi
open PySem
@[simp] theorem ofO_some {α : Type} (a : α) : ofO (some a) = .ok a := rfl
@[simp] theorem guard_true {α : Type} {c : Prop} [Decidable c] (h : c) (r : Rs α) : guardR c r = r := if_pos h
@[simp] theorem pyEq_str (a b : Str) : pyEq (.str a) (.str b) = decide (a = b) := by rw [pyEq]; by_cases h : a = b <;> simp [h]
@[simp] theorem pyEq_int (a b : Int) : pyEq (.int a) (.int b) = decide (a = b) := by rw [pyEq]; by_cases h : a = b <;> simp [h]
@[simp] theorem dep_str (x : Str) : (D.str x).dep = 0 := by simp [D.dep]
@[simp] theorem dep_int (x : Int) : (D.int x).dep = 0 := by simp [D.dep]
@[simp] theorem dep_bl (x : Bool) : (D.bl x).dep = 0 := by simp [D.dep]
@[simp] theorem dep_non : D.non.dep = 0 := by simp [D.dep]
@[simp] theorem dep_lst (ds : List D) : (D.lst ds).dep = depAll ds + 1 := by simp [D.dep]
@[simp] theorem dep_tup (ds : List D) : (D.tup ds).dep = depAll ds + 1 := by simp [D.dep]
@[simp] theorem depAll_nil : depAll [] = 0 := rfl
@[simp] theorem depAll_cons (d : D) (r : List D) : depAll (d :: r) = max d.dep (depAll r) := by rw [depAll]
@[simp] theorem depAll_str : ∀ xs : List Str, depAll (xs.map D.str) = 0
  | [] => rfl
  | x :: r => by rw [List.map_cons, depAll_cons, dep_str, depAll_str r]; rfl
end Mi
set_option linter.all false
namespace Mr
open PySem Mi
abbrev Ar := Str × Str
def pairD (p : Ar) : D := .tup [.str p.1, .str p.2]
def nmD (names : List Str) : D := .tup (names.map D.str)
def arD (arrows : List Ar) : D := .tup (arrows.map pairD)
def netD (names : List Str) (arrows : List Ar) : D := .tup [nmD names, arD arrows]
end Mr
set_option linter.all false
set_option maxRecDepth 10000
namespace Mr
open PySem Mi
end Mr
set_option linter.all false
namespace My
def wl : List Nat := [101, 116, 97, 111, 105, 110, 115, 104, 114, 100, 108, 117, 99, 109, 102, 119, 121, 112, 118, 98, 103, 107, 113, 106, 120, 122]
def lt26 (n : Int) : Nat := wl.getD (n % 26).toNat 0
def wlong (c : Int) : List Nat := (List.range 8).map fun (k : Nat) => lt26 (c / (4 + 3 * (k : Int)))
def wstem (c : Int) (n : Nat) : List Nat := (List.range n).map fun (k : Nat) => lt26 (c / 32 + 5 * (k : Int) + (k : Int) * (k : Int))
def words (c : Int) (many : Nat) : List (List Nat) :=
  if c % 4 < 2 then
    if c % 4 = 0 then (List.range many).map fun (k : Nat) => (wlong c).take (k + 1)
    else (List.range many).map fun (k : Nat) => (wlong c).drop (7 - k)
  else
    (List.range many).map fun (k : Nat) => (wstem c (c / 4 % 8).toNat).take (c / 256 % (c / 4 % 8 + 1)).toNat ++ [lt26 (c / 7 + 5 * (k : Int))] ++ (wstem c (c / 4 % 8).toNat).drop (c / 256 % (c / 4 % 8 + 1)).toNat
def Word (x : List Nat) : Prop := 1 ≤ x.length ∧ x.length ≤ 8 ∧ ∀ c ∈ x, 97 ≤ c ∧ c ≤ 122
theorem wl_low : ∀ c ∈ wl, 97 ≤ c ∧ c ≤ 122 := by decide
theorem wl_nd : wl.Nodup := by decide
theorem wl_len : wl.length = 26 := by decide
theorem lt26_mem (n : Int) : lt26 n ∈ wl := by
  unfold lt26
  have h1 := Int.emod_nonneg n (b := 26) (by decide)
  have h2 := Int.emod_lt_of_pos n (b := 26) (by decide)
  have h3 : (n % 26).toNat < wl.length := by rw [wl_len]; omega
  rw [List.getD_eq_getElem?_getD, List.getElem?_eq_getElem h3]
  exact List.getElem_mem h3
theorem lt26_inj {n m : Int} (h : lt26 n = lt26 m) : n % 26 = m % 26 := by
  unfold lt26 at h
  have h1 := Int.emod_nonneg n (b := 26) (by decide)
  have h2 := Int.emod_lt_of_pos n (b := 26) (by decide)
  have h3 : (n % 26).toNat < wl.length := by rw [wl_len]; omega
  have h1' := Int.emod_nonneg m (b := 26) (by decide)
  have h2' := Int.emod_lt_of_pos m (b := 26) (by decide)
  have h3' : (m % 26).toNat < wl.length := by rw [wl_len]; omega
  rw [List.getD_eq_getElem?_getD, List.getElem?_eq_getElem h3, List.getD_eq_getElem?_getD, List.getElem?_eq_getElem h3'] at h
  have := (List.getElem_inj wl_nd).mp h
  omega
theorem wlong_len (c : Int) : (wlong c).length = 8 := by simp [wlong]
theorem wstem_len (c : Int) (n : Nat) : (wstem c n).length = n := by simp [wstem]
theorem wlong_low (c : Int) : ∀ x ∈ wlong c, 97 ≤ x ∧ x ≤ 122 := fun x hx => by
  obtain ⟨k, _, rfl⟩ := List.mem_map.mp hx
  exact wl_low _ (lt26_mem _)
theorem wstem_low (c : Int) (n : Nat) : ∀ x ∈ wstem c n, 97 ≤ x ∧ x ≤ 122 := fun x hx => by
  obtain ⟨k, _, rfl⟩ := List.mem_map.mp hx
  exact wl_low _ (lt26_mem _)
theorem words_len (c : Int) (many : Nat) : (words c many).length = many := by
  unfold words; split <;> (try split) <;> simp
theorem nodup_map_range {α : Type} (f : Nat → α) (n : Nat) (h : ∀ i j, i < n → j < n → f i = f j → i = j) : ((List.range n).map f).Nodup := by
  induction n with
  | zero => simp
  | succ n ih =>
    rw [List.range_succ, List.map_append, List.map_singleton]
    rw [List.nodup_append]
    refine ⟨ih fun i j hi hj => h i j (by omega) (by omega), by simp, fun a ha b hb => ?_⟩
    obtain ⟨i, hi, rfl⟩ := List.mem_map.mp ha
    have hi := List.mem_range.mp hi
    have hb : b = f n := by simpa using hb
    subst hb
    intro e
    have := h i n (by omega) (by omega) e
    omega
theorem words_nd (c : Int) (many : Nat) (hm : many ≤ 8) : (words c many).Nodup := by
  unfold words
  split
  · split
    · refine nodup_map_range _ _ fun i j hi hj e => ?_
      have := congrArg List.length e
      rw [List.length_take, List.length_take, wlong_len] at this
      omega
    · refine nodup_map_range _ _ fun i j hi hj e => ?_
      have := congrArg List.length e
      rw [List.length_drop, List.length_drop, wlong_len] at this
      omega
  · refine nodup_map_range _ _ fun i j hi hj e => ?_
    rw [List.append_assoc, List.append_assoc] at e
    have e1 := List.append_cancel_left e
    have e2 := List.append_cancel_right e1
    have e3 : lt26 (c / 7 + 5 * (i : Int)) = lt26 (c / 7 + 5 * (j : Int)) := by simpa using e2
    have := lt26_inj e3
    omega
theorem words_word (c : Int) (many : Nat) (hm : many ≤ 8) : ∀ x ∈ words c many, Word x := by
  unfold words
  split
  · split
    · intro x hx
      obtain ⟨k, hk, rfl⟩ := List.mem_map.mp hx
      have hk := List.mem_range.mp hk
      refine ⟨by rw [List.length_take, wlong_len]; omega, by rw [List.length_take, wlong_len]; omega, fun y hy => wlong_low c y (List.mem_of_mem_take hy)⟩
    · intro x hx
      obtain ⟨k, hk, rfl⟩ := List.mem_map.mp hx
      have hk := List.mem_range.mp hk
      refine ⟨by rw [List.length_drop, wlong_len]; omega, by rw [List.length_drop, wlong_len]; omega, fun y hy => wlong_low c y (List.mem_of_mem_drop hy)⟩
  · intro x hx
    obtain ⟨k, hk, rfl⟩ := List.mem_map.mp hx
    have h1 := Int.emod_nonneg (c / 4) (b := 8) (by decide)
    have h2 := Int.emod_lt_of_pos (c / 4) (b := 8) (by decide)
    have h3 := Int.emod_nonneg (c / 256) (b := c / 4 % 8 + 1) (by omega)
    have h4 := Int.emod_lt_of_pos (c / 256) (b := c / 4 % 8 + 1) (by omega)
    have hl : ((wstem c (c / 4 % 8).toNat).take (c / 256 % (c / 4 % 8 + 1)).toNat ++ [lt26 (c / 7 + 5 * (k : Int))] ++ (wstem c (c / 4 % 8).toNat).drop (c / 256 % (c / 4 % 8 + 1)).toNat).length = (c / 4 % 8).toNat + 1 := by
      rw [List.length_append, List.length_append, List.length_take, List.length_drop, wstem_len]; simp; omega
    refine ⟨by rw [hl]; omega, by rw [hl]; omega, fun y hy => ?_⟩
    rcases List.mem_append.mp hy with hy | hy
    · rcases List.mem_append.mp hy with hy | hy
      · exact wstem_low c _ y (List.mem_of_mem_take hy)
      · have : y = lt26 (c / 7 + 5 * (k : Int)) := by simpa using hy
        subst this; exact wl_low _ (lt26_mem _)
    · exact wstem_low c _ y (List.mem_of_mem_drop hy)
end My
set_option linter.all false
namespace Mi
open PySem
end Mi
set_option linter.all false
set_option maxRecDepth 10000
namespace Mr
open PySem Mi
open My (words wlong wstem lt26 wlong_len wstem_len words_len words_nd)
end Mr
set_option linter.all false
set_option maxRecDepth 10000
namespace Mr
open PySem Mi
open My (words words_len words_nd Word)
end Mr
set_option linter.all false
set_option maxRecDepth 10000
namespace Mr
open PySem Mi
end Mr
set_option linter.all false
set_option maxRecDepth 10000
namespace Mr
open PySem Mi
def nth (names : List Str) (i : Nat) : Str := names.getD i Str.empty
end Mr
set_option linter.all false
set_option maxRecDepth 10000
namespace Mr
open PySem Mi
open My (words words_len words_nd)
end Mr
set_option linter.all false
set_option maxRecDepth 10000
namespace Mr
open PySem Mi
open My (words words_len words_nd)
end Mr
set_option linter.all false
set_option maxRecDepth 10000
namespace Mr
open PySem Mi
end Mr
set_option linter.all false
set_option maxRecDepth 10000
namespace Mr
open PySem Mi
inductive Rch (arrows : List Ar) (x : Str) : Str → Prop
  | refl : Rch arrows x x
  | step {y z : Str} : Rch arrows x y → (y, z) ∈ arrows → Rch arrows x z
end Mr
set_option linter.all false
set_option maxRecDepth 10000
namespace Mr
open PySem Mi
noncomputable def rch (arrows : List Ar) (x y : Str) : Bool := @decide (Rch arrows x y) (Classical.propDecidable _)
noncomputable def belw (names : List Str) (arrows : List Ar) (x : Str) : List Str := names.filter (rch arrows x)
end Mr
set_option linter.all false
set_option maxRecDepth 10000
namespace Mr
open PySem Mi
noncomputable def hb (names : List Str) (arrows : List Ar) (held : List Str) (x : Str) : Bool := (belw names arrows x).any fun y => decide (y ∈ held)
end Mr
set_option linter.all false
set_option maxRecDepth 10000
namespace Mr
open PySem Mi
abbrev Tr3 := Str × Str × Str
end Mr
set_option linter.all false
set_option maxRecDepth 10000
namespace Mr
open PySem Mi
def Rk (arrows : List Ar) : Prop := ∃ r : Str → Int, ∀ p ∈ arrows, r p.1 < r p.2
def crn (arrows : List Ar) (a m b : Str) : Bool := (decide ((a, m) ∈ arrows) && decide ((b, m) ∈ arrows)) && !(decide ((a, b) ∈ arrows) || decide ((b, a) ∈ arrows))
end Mr
set_option linter.all false
set_option maxRecDepth 10000
namespace Mr
open PySem Mi
end Mr
set_option linter.all false
set_option maxRecDepth 10000
namespace Mr
open PySem Mi
end Mr
set_option linter.all false
set_option maxRecDepth 10000
namespace Mr
open PySem Mi
def tie (arrows : List Ar) (a b : Str) : Bool := decide ((a, b) ∈ arrows) || decide ((b, a) ∈ arrows)
end Mr
set_option linter.all false
set_option maxRecDepth 10000
namespace Mr
open PySem Mi
end Mr
set_option linter.all false
set_option maxRecDepth 10000
namespace Mr
open PySem Mi
end Mr
set_option linter.all false
set_option maxRecDepth 10000
namespace Mr
open PySem Mi
end Mr
set_option linter.all false
set_option maxRecDepth 10000
namespace Mr
open PySem Mi
structure Nt (names : List Str) (arrows : List Ar) : Prop where
  nd : names.Nodup
  le : names.length ≤ 8
  al : arrows.length ≤ 64
  inn : ∀ p ∈ arrows, p.1 ∈ names ∧ p.2 ∈ names
  rk : Rk arrows
end Mr
set_option linter.all false
set_option maxRecDepth 10000
namespace Mr
open PySem Mi
def srt (names : List Str) (arrows : List Ar) : List Ar := names.flatMap fun t => (names.filter fun h => decide ((t, h) ∈ arrows)).map fun h => (t, h)
end Mr
set_option linter.all false
set_option maxRecDepth 10000
namespace Mr
open PySem Mi
end Mr
set_option linter.all false
set_option maxRecDepth 10000
namespace Mr
open PySem Mi
section
variable {α : Type} (key : α → List Int)
end
end Mr
set_option linter.all false
set_option maxRecDepth 10000
namespace Mr
open PySem Mi
def prs (names : List Str) : List Ar := (List.range names.length).flatMap fun k => (names.drop (k + 1)).map fun b => (nth names k, b)
def tr (t : Tr3) : List Str := [t.1, t.2.1, t.2.2]
end Mr
set_option linter.all false
set_option maxRecDepth 10000
namespace Mr
open PySem Mi
end Mr
set_option linter.all false
set_option maxRecDepth 10000
namespace Mr
open PySem Mi
open My (words Word words_word)
def both (xs : List Ar) : List Ar := xs.flatMap fun p => [p, (p.2, p.1)]
end Mr
set_option linter.all false
set_option maxRecDepth 10000
namespace Mr
open PySem Mi
open My (words Word words_word)
end Mr
set_option linter.all false
set_option maxRecDepth 10000
namespace Mr
open PySem Mi
def Sh (x : Str) : Prop := x.length ≤ 100 ∧ ∀ c ∈ x.cps.toList, c < 128
end Mr
set_option linter.all false
set_option maxRecDepth 10000
namespace Mr
open PySem Mi
open My (words Word words_word)
end Mr
set_option linter.all false
set_option maxRecDepth 10000
namespace Mr
open PySem Mi
open My (words Word words_word)
end Mr
set_option linter.all false
set_option maxRecDepth 10000
namespace Mr
open PySem Mi
open My (words Word words_word)
structure Gd (names : List Str) (arrows : List Ar) : Prop where
  nd : names.Nodup
  pos : 1 ≤ names.length
  le : names.length ≤ 8
  rk : Rk arrows
  srt : srt names arrows = arrows
  wd : ∀ x ∈ names, m_is_word [.d (.str x)] = .ok (.d (.bl true))
end Mr
set_option linter.all false
set_option maxRecDepth 10000
namespace Mr
open PySem Mi
open My (words Word words_word)
end Mr
set_option linter.all false
set_option maxRecDepth 10000
namespace Mr
open PySem Mi
open My (words Word words_word)
end Mr
set_option linter.all false
set_option maxRecDepth 10000
namespace Mr
open PySem Mi
open My (words Word words_word)
end Mr
set_option linter.all false
set_option maxRecDepth 10000
namespace Mr
open PySem Mi
open My (words Word words_word)
end Mr
set_option linter.all false
set_option maxRecDepth 10000
namespace Mr
open PySem Mi
open My (words Word words_word)
end Mr
set_option linter.all false
set_option maxRecDepth 10000
namespace Mr
open PySem Mi
def rk (r : List Str) : List Ky := r.map Sum.inr
abbrev Tld := List (Ar × D)
def arT (told : Tld) : List Ar := told.map (·.1)
end Mr
set_option linter.all false
set_option maxRecDepth 10000
namespace Mr
open PySem Mi
structure Dc (names : List Str) (A : List Ar) (KT KC : List (List Str)) : Prop where
  kt : ∀ a ∈ names, ∀ b ∈ names, a ≠ b → ([a, b] ∈ KT ↔ tie A a b = true)
  ktm : ∀ k ∈ KT, ∃ a b, k = [a, b] ∧ a ∈ names ∧ b ∈ names ∧ a ≠ b ∧ tie A a b = true
  kc : ∀ a ∈ names, ∀ m ∈ names, ∀ b ∈ names, [a, m, b] ∈ KC ↔ a ≠ b ∧ crn A a m b = true
inductive Rl (names : List Str) (A P : List Ar) (t h : Str) : Str → List Str → Prop
  | corner {z : Str} (zn : z ∈ names) (ne : t ≠ z) (c : crn A t h z = true) : Rl names A P t h "corner" [z]
  | on {z : Str} (zn : z ∈ names) (ne : z ≠ h) (nt : tie A z h = false) (nc : crn A z t h = false) (p : (z, t) ∈ P) : Rl names A P t h "on" [z]
  | over {z : Str} (zn : z ∈ names) (p : (t, z) ∈ P) (q : (z, h) ∈ P) : Rl names A P t h "over" [z]
  | both {z w : Str} (zn : z ∈ names) (wn : w ∈ names) (ne : z ≠ w) (nt : tie A z w = false) (nc : crn A z t w = false) (t1 : tie A z t = true) (t2 : tie A w t = true) (p : (z, h) ∈ P) (q : (w, h) ∈ P) : Rl names A P t h "both" [z, w]
section
variable {names : List Str} {A : List Ar} {KT KC : List (List Str)} (N : Nt names A) (D' : Dc names A KT KC) {told : Tld} (ht : ∀ p ∈ arT told, p ∈ A) {t h : Str} (tn : t ∈ names) (hn : h ∈ names) (th : tie A t h = true)
include N D' tn hn th in
include N D' ht tn hn th in
include N ht th in
include N D' ht tn hn th in
end
end Mr
set_option linter.all false
set_option maxRecDepth 10000
namespace Mr
open PySem Mi
section
variable {names : List Str} {A : List Ar} {KT KC : List (List Str)}
end
end Mr
set_option linter.all false
set_option maxRecDepth 10000
namespace Mr
open PySem Mi
section
variable {names : List Str} {A : List Ar} {KT KC : List (List Str)} {T Cn : D}
end
end Mr
set_option linter.all false
set_option maxRecDepth 10000
namespace Mr
open PySem Mi
def picD (names : List Str) (R S : List Ar) : D := .tup [nmD names, arD R, arD S]
end Mr
set_option linter.all false
set_option maxRecDepth 10000
namespace Mr
open PySem Mi
end Mr
set_option linter.all false
set_option maxRecDepth 10000
namespace Mr
open PySem Mi
end Mr
set_option linter.all false
set_option maxRecDepth 10000
namespace Mr
open PySem Mi
end Mr
set_option linter.all false
set_option maxRecDepth 10000
namespace Mr
open PySem Mi
end Mr
set_option linter.all false
set_option maxRecDepth 10000
namespace Mr
open PySem Mi
end Mr
set_option linter.all false
set_option maxRecDepth 10000
namespace Mr
open PySem Mi
noncomputable def islS (names : List Str) (St : List Ar) (acc : List (List Str)) (x : Str) : List (List Str) := if 1 < (belw names St x).length ∧ belw names St x ∉ acc then acc ++ [belw names St x] else acc
noncomputable def isl (names : List Str) (St : List Ar) (xs : List Str) : List (List Str) := xs.foldl (islS names St) []
end Mr
set_option linter.all false
set_option maxRecDepth 10000
namespace Mr
open PySem Mi
end Mr
set_option linter.all false
set_option maxRecDepth 10000
namespace Mr
open PySem Mi
open My (words Word words_word)
end Mr
namespace Cd
end Cd
namespace Cd
end Cd
namespace Cd
end Cd
set_option linter.all false
set_option maxRecDepth 10000
namespace Mr
open PySem Mi
def Tp (T : List Ar) (a b : Str) : Prop := (a, b) ∈ T ∨ (b, a) ∈ T
section
variable {X : D} {s : Str} {St : List Ar} {Tq : Str → Str → Prop} (hs : ∀ p : Ar, p ∈ St ↔ Tq p.1 p.2) (sl : St.length ≤ 200)
include hs sl in
include hs sl in
end
end Mr
set_option linter.all false
set_option maxRecDepth 10000
namespace Mr
open PySem Mi
abbrev Sk (A : List Ar) : Str → Str → Prop := fun a b => tie A a b = true
abbrev Kk (A : List Ar) : Str → Str → Str → Prop := fun a b c => a ≠ c ∧ crn A a b c = true
structure Pg (names : List Str) (S : Str → Str → Prop) (K : Str → Str → Str → Prop) (L T : List Ar) : Prop where
  iv : Cd.Iv S (fun a b => (a, b) ∈ L) (Tp T) K
  nd : L.Nodup
  il : ∀ p ∈ L, p.1 ∈ names ∧ p.2 ∈ names
  it : ∀ p ∈ T, p.1 ∈ names ∧ p.2 ∈ names
section
variable {names : List Str} {S : Str → Str → Prop} {K : Str → Str → Str → Prop} {L T : List Ar}
end
end Mr
namespace Cd
end Cd
namespace Cd
end Cd
namespace Cd
end Cd
namespace Cd
end Cd
namespace Cd
end Cd
namespace Cd
end Cd
set_option linter.all false
set_option maxRecDepth 10000
namespace Mr
open PySem Mi
def pwI (I : List Str) (T : List Ar) : List Ar := T.filter fun p => decide (p.1 ∈ I) && decide (p.2 ∈ I)
noncomputable def lfL (T : List Ar) (I : List Str) (s : Str) : List Ar := (pwI I T).filter fun p => @decide (Cd.Lf (Tp (pwI I T)) s p.1 p.2) (Classical.propDecidable _)
def bw (L : List Ar) : List Ar := L ++ L.map fun p => (p.2, p.1)
noncomputable def innL (T : List Ar) (I : List Str) (s : Str) : List (List Str) := isl I (bw (lfL T I s)) I
end Mr
set_option linter.all false
set_option maxRecDepth 10000
namespace Mr
open PySem Mi
structure Wor (names : List Str) (T : List Ar) (X : D) : Prop where
  nd : names.Nodup
  n8 : names.length ≤ 8
  hX : dItems X = .ok (T.map pairD)
  tl : T.length ≤ 64
  ts : T.Nodup
  tp : ∀ p ∈ T, p ∈ prs names
section
variable {names : List Str} {T : List Ar} {X : D} {Mw : W} (w : Wor names T X)
include w
omit w
noncomputable def cI (T : List Ar) (J : List Str) : Nat := Cd.cnt (innL T) 9 J
include w
omit w
include w
omit w
include w
omit w
include w
end
end Mr
set_option linter.all false
set_option maxRecDepth 10000
namespace Cd
open Classical
variable {α : Type}
end Cd
namespace Mr
open PySem Mi
section
variable {names : List Str} {T : List Ar} {X : D} (w : Wor names T X)
include w
omit w in
end
end Mr
set_option linter.all false
set_option maxRecDepth 10000
namespace Cd
open Classical
variable {α : Type}
end Cd
namespace Mr
open PySem Mi
section
variable {names : List Str} {T : List Ar} {X : D} (w : Wor names T X) {A : List Ar} {AX : D} (hA : dItems AX = .ok (A.map pairD)) (al : A.length ≤ 1000)
include hA al
include w
end
end Mr
set_option linter.all false
set_option maxRecDepth 10000
namespace Mr
open PySem Mi
section
variable {names : List Str} {A L : List Ar} {c n : Int}
end
end Mr
set_option linter.all false
set_option maxRecDepth 10000
namespace Mr
open PySem Mi
open My (words Word words_word)
end Mr
set_option linter.all false
set_option maxRecDepth 10000
namespace Mr
open PySem Mi
open My (words Word words_word)
end Mr
set_option linter.all false
set_option maxRecDepth 10000
namespace Mr
open PySem Mi
section
variable {names : List Str} {A P : List Ar} {t h : Str}
end
end Mr
set_option linter.all false
set_option maxRecDepth 10000
namespace Mr
open PySem Mi
open My (words Word words_word)
section
variable {names : List Str} {S : Str → Str → Prop} {K : Str → Str → Str → Prop} {R T : List Ar} (nd : names.Nodup) (h1 : 1 ≤ names.length) (h8 : names.length ≤ 8) (wd : ∀ x ∈ names, m_is_word [.d (.str x)] = .ok (.d (.bl true))) (hl : T.length < 60) (hr : R.length ≤ 64) (g : Pg names S K R T)
include nd h1 h8 wd hl hr g
end
end Mr
set_option linter.all false
set_option maxRecDepth 10000
namespace Mr
open PySem Mi
open My (words Word words_word)
section
variable {names : List Str} {R T : List Ar} {t h : Str} (st : Sh t) (sh : Sh h)
include st sh
end
end Mr
set_option linter.all false
set_option maxRecDepth 10000
namespace Cd
end Cd
namespace Mr
open PySem Mi
structure PicS (names : List Str) (A R T : List Ar) : Prop where
  pg : Pg names (Sk A) (Kk A) R T
  tl : T.length < 60
  rl : R.length ≤ 64
  ts : T.Nodup
  tp : ∀ p ∈ T, p ∈ prs names
  rs : ∀ p ∈ R, p ∈ A
noncomputable def isls (names : List Str) (T : List Ar) : List (List Str) := isl names (bw T) names
noncomputable def many (names : List Str) (T : List Ar) : Nat := Cd.prod (cI T) (isls names T)
section
variable {names : List Str} {A R T : List Ar} (G : Gd names A) (P : PicS names A R T)
include G P
end
end Mr
set_option linter.all false
set_option maxRecDepth 10000
namespace Mr
open PySem Mi
open My (words Word words_word)
section
variable {names : List Str} {A R T : List Ar} (G : Gd names A) (hs : ∀ x ∈ names, x.length ≤ 8 ∧ ∀ c ∈ x.cps.toList, c < 128) (g : Pg names (Sk A) (Kk A) R T) (tl : T.length < 60) (rl : R.length ≤ 64)
include G g tl rl in
include G hs g tl rl in
end
end Mr
set_option linter.all false
set_option maxRecDepth 10000
namespace Mr
open PySem Mi
open My (words Word words_word)
section
variable {names : List Str} {A P : List Ar} {t h s : Str} {x : List Str}
end
end Mr
set_option linter.all false
set_option maxRecDepth 10000
namespace Mr
open PySem Mi
section
variable {names : List Str} {rs : List Int} {w : Int}
end
end Mr
set_option linter.all false
set_option maxRecDepth 10000
namespace Mr
open PySem Mi
end Mr
set_option linter.all false
set_option maxRecDepth 10000
namespace Mr
open PySem Mi
end Mr
set_option linter.all false
set_option maxRecDepth 10000
namespace Mr
open PySem Mi
section
variable {names : List Str} {A R T : List Ar} (G : Gd names A) (P : PicS names A R T)
include G P
end
end Mr
set_option linter.all false
set_option maxRecDepth 10000
namespace Mr
open PySem Mi
section
variable {names : List Str} {A R T : List Ar} (G : Gd names A) (P : PicS names A R T)
include G P
end
end Mr
set_option linter.all false
set_option maxRecDepth 10000
namespace Mr
open PySem Mi
section
variable {names : List Str} {A R T : List Ar} (G : Gd names A) (P : PicS names A R T) (hp : m_picture_of [.d (netD names A)] = .ok (.d (picD names R T)))
include G P hp
end
end Mr
set_option linter.all false
set_option maxRecDepth 10000
namespace Mr
open PySem Mi
section
variable {names : List Str} {A R T : List Ar} (G : Gd names A) (P : PicS names A R T) (hp : m_picture_of [.d (netD names A)] = .ok (.d (picD names R T)))
omit G P hp in
include G P hp
end
end Mr
set_option linter.all false
set_option maxRecDepth 10000
namespace Mr
open PySem Mi
open My (words Word words_word words_len words_nd)
end Mr
set_option linter.all false
set_option maxRecDepth 10000
namespace Mr
open PySem Mi
open My (words Word words_word words_len words_nd)
end Mr
set_option linter.all false
set_option maxRecDepth 10000
namespace Mr
open PySem Mi
open My (words Word words_word words_len words_nd)
section
variable {names : List Str} {A T : List Ar} {g : Nat} (G : Gd names A) (P : PicS names A [] T) (ht : ∀ a ∈ names, ∀ b ∈ names, (tie A a b = true ↔ a ≠ b ∧ names.idxOf a % g = names.idxOf b % g))
include G P ht
end
end Mr
set_option linter.all false
set_option maxRecDepth 10000
namespace Mr
open PySem Mi
open My (words Word words_word words_len words_nd)
end Mr
set_option Elab.async false
set_option linter.all false
set_option maxRecDepth 100000
set_option maxHeartbeats 4000000
namespace Mk51
open PySem L2 PyProof.Rows
instance tabsI : A.Tabs := ⟨[(tN, lamQ "sorted_rows")], fun c => if c = "ArrowError" then 29 else if c = "WrongSize" then 42 else if c = "NoWord" then 54 else if c = "Twice" then 66 else if c = "NoName" then 78 else if c = "Ring" then 97 else if c = "Unlike" then 109 else if c = "NoArrow" then 121 else if c = "Locked" then 133 else if c = "NoTie" then 145 else if c = "NoSuch" then 157 else if c = "NoNet" then 176 else if c = "NoText" then 188 else if c = "NoRow" then 200 else if c = "NoLabel" then 212 else 0⟩
end Mk51
open PySem PySem.W PyProof.Rows
