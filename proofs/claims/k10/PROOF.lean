import PyProof.Rows.All
import Wide.All
import OpenK.AllK
import Wide.FinOn
import Lean
import PyProof.EqAt
import PyProof.EqKinds
import PyProof.TupleCall
import PySem.Str
import PyProof.NeKinds
import PyProof.Draws
import PyProof.EnumMake
import PyProof.ZipIter
import KE.KSortTup
import KE.KLam
import PyProof.Rows.SortStr
import PyProof.Rows.FactsT3
import PyProof.StrOps2
import KE.KDictList
import KE.KRevIter
import PyProof.CollectIter
import PyProof.TupleOfGen
import PyProof.Rows.StrNews2
import PyProof.Rows.StrFacts2
import PyProof.ExcClass2
import PyProof.ExcInit
import PyProof.InstStoreFacts
import PyProof.ReprRoads
import KE.KSortAsk
import PyProof.StrLawsRepr
import PyProof.Rows.StrCase
import PyProof.Rows.StrSplit
import PySem.Challenge.RW_arrowfind_k10_all_roads
open PySem.W renaming Frag->aB,mg_none_of->fB,nsIn->ff,kia_one->i3,fnOf->lh,keepIn->oa,kitx_list->tu,kitx_dict->tw,codeIn->tD,methodObj->wX,instObj->wY,OpenLaw->wZ,lookIn->w5,kitOne->w6,kitAny->w9,cellsFrom_some->DI,kas_item->og,kitx_float->DJ,kitx_tuple->DK,kitx_none->DL,kitx_bool->DM,plainGet->DN,kitx_int->DO,kitx_str->DP,kitx_own->DQ,findIn->DR
open List renaming length_map->aS,getElem?_eq_some_iff->cV,length_append->bB,mem_singleton->bC,size_toArray->bG,mem_cons_of_mem->cA,getElem?_eq_getElem->dm,getD_eq_getElem?_getD->dH,mem_cons_self->cC,length_cons->ce,length_singleton->dI,mem_cons->bK,length_take->cO,mem_append_right->dX,getElem?_set_ne->dY,range->bn,getElem?_map->dw,map_cons->cD,flatMap_cons->eD,replicate->dE,mem_append->dZ,mem_map->dq,length_drop->fg,mem_range->d3,map_map->dA,all_eq_true->fE,map_append->fh,append_assoc->gp,getElem?_append_right->kg,getElem?_cons_succ->jA,getElem?_set_self->jB,mem_of_getElem?->i4,length_set->gq,getElem?_cons_zero->kh,nodup_append->iz,map_flatMap->iA,nodup_cons->iB,getElem?_append_left->mn,drop_eq_getElem_cons->mo,getElem?_take_of_lt->mq,mem_append_left->li,append_nil->jC,find?_cons->jD,idxOf_lt_length_iff->oh,getElem_inj->ki,eq_nil_of_length_eq_zero->qu,mem_flatMap->kj,getElem?_of_mem->mv,any_cons->i5,finRange->i6,mem_filter->kl,mem_map_of_mem->my,lookup_cons->lj,reverse_cons->mz,nil_append->ll,map_congr_left->oi,cons_append->mB,take_of_length_le->qv,length_nil->mD,forIn_cons->mE,toArray->km,filter_eq_self->qw,filter_cons_of_pos->tE,drop_of_length_le->tF,getElem?_set->qx,pairwise_map->qy,getElem_mem->qz,mem_of_mem_take->tG,reverse_reverse->tH,length_reverse->tI,map_nil->oj,pairwise_cons->tJ,getElem?_drop->tK,getElem_idxOf->tL,drop_zero->qA,filter_cons_of_neg->xa,pairwise_singleton->xb,drop_eq_nil_of_le->xc,length_replicate->xf,filterMap_cons->xg,length->qB,map_drop->tM,getElem_range->xh,any_eq_false->xi,length_range->xj,ext_getElem->xk,getElem_map->xm,of_mem_zip->xo,forIn_nil->xp,pairwise_iff_getElem->DS,take_succ->xq,length_erase_of_mem->DT,mem_of_mem_eraseIdx->DU,getElem?_replicate->DV,map_take->xt,append_cancel_left->DW,eraseIdx_cons_succ->DX,reverse_eq_nil_iff->DY,eraseIdx_sublist->DZ,length_filter_le->D1,mem_erase_of_ne->D2,mem_of_mem_drop->D3,length_eraseIdx->D4,filter_sublist->D5,reverse_append->D6,mem_filterMap->D7,set_cons_succ->D8,set_cons_zero->D9,filter_congr->Ea
open PySem renaming wpAny_bind->aA,Value->ag,Shared->ak,Addr->ah,wpAny_pure->bo,Program->bb,sizeLine_eq->dh,FuncData->bS,World->aT,Around->br,boot_len->kn,wpAny_mono->gI,Heap->aI,wpAny_holding->jE,wpAny_call_entry->mF,Expr->aO,wpAny_truthy_bool->om,mem_of_lookup->qC,wpAny_callSpecial?_slot->tP,wpAny_field->lm,typeIs_bool->tQ,wpAny_passesOwn->qD,wpAny_setField_rec->tR,wpAny_seqItems->qE,Stmt->bD,wpAny_specialOf->tS,NameKind->ln,call_meets->oo,Scope->fF,wpAny_standAt->tT,wpAny_Call_Name_kw->xu,tupleKind_room_in1->xw,Fin->qF,wpAny_pyIter_list->xx,BindsTo->lp,Paired->oq,seqIndex_neg->tU,Builtin->jF,wpAny_execs_nil->xz,seqIndex_of->tV,PlainAttrs->tW,call->xA,wpAny_newList->xB,wpAny_attempt->xC,wpAny_pyNext_list_item->Eb,wpAny_Call_method_late->Ec
open PySem.Heap renaming get?_push_of_some->cP,lt_size->bH,get?_push_size->eE,SameBut->mG,size_push->qG,get?_update_self->xD,get?_update_other->Ed,ExtBut->xE
open Nat renaming le_refl->bg,lt_of_lt_of_le->fR,le_trans->d5,zero_add->eV,zero_le->fi,ne_of_lt->gs,lt_irrefl->jG,add_sub_cancel->qH,le_succ->qI,ne_of_gt->tX,le_of_lt->xF,pow_succ->xG,mul_le_mul_right->Ee,pow_le_pow_right->Ef
open Bool renaming false_ne_true->cW,and_eq_true->fS,false_or->jH,false_eq_true->ou,not_eq_true'->qJ,and_false->tY,true_or->xH
open Option renaming map->bI,map_eq_some_iff->mH,toList_some->Eg,isSome_map->Eh,getD_none->Ei
open PySem.F renaming plainAttrs_list->gJ,slot_list_append->ox,type_list_append->oy,slot_tuple_iterator_next->tZ,slot_list_pop->xI,type_list_pop->xJ,slot_list_lt->xK,slot_bool_hash->t5,args_tuple_iterator_next_1->Ej,entry_tuple_iterator_next->Ek,slot_zip_next->t6,slot_tuple_index->El,slot_list_index->Em,slot_list_clear->En,type_list_clear->Eo,plainAttrs_str->Ep,slot_str_join->Er,type_str_join->Es
open Int renaming emod_lt_of_pos->fT,emod_nonneg->fG,toNat_natCast->jI,ofNat->qK
open Option.some renaming inj->fj
open PySem.Value renaming ref->cE,none->d6,str->ko,bool->mI,type->t7,float->xL
open Iff renaming rfl->bq
open PySem.PassesOwn renaming never->gu
open PySem.Builtin.SmallTypes renaming nextOf->mJ,ownedTupleHandOut->Et,ownedTupleIsFree->Eu
open PySem.Str renaming empty->d8,join->iC,length->mK,ofString->t8
open ForInStep renaming yield->jJ
open PyProof.Rows renaming boot_isinstance->jK,listItems_at->i7,callWith_type1->t9,Keyed->bw,SortSt->dJ,IntsAre->iD,AllBare->kq,SortKind->oz,wpS_modify->ua,subscriptTail_builtinR->Ev
open True renaming intro->gK
open PySem.NameKind renaming free->kr,cell->xM
open PySem.Obj renaming mapSeq->g6,data_mapFields->Ew
open Ne renaming symm->dS
open Std.Legacy.Range renaming forIn_eq_forIn_range'->xN
open Classical renaming byContradiction->ub
open Array renaming perm_iff_toList_perm->uc,toList_inj->oA,toArray_toList->xO,getElem?_toList->Ey,length_toList->Ez,toList_append->EA,ext_getElem?->EB,toList_map->EC
open List.Pairwise renaming nil->qL
open PyProof.Rows.SortSt renaming mk'->jL
open False renaming elim->jM
open Sum renaming inr->fH,inl->mL
open PySem.Calls renaming callWith_builtin->ud,evalArgs_plain->xP,Name_function_global->ED
open PySem.Heap.SameBut renaming update->ue
open PySem.Builtin.List renaming listTooLong->xQ,listItems->EE
open Or renaming inl->fk,inr->i8
open PySem.Value.type renaming inj->uf
open List.Sublist renaming refl->xR
open PySem.Builtin.Str renaming strSliceIndices->EF
open PySem.MeetsSeq renaming EqGives->EG
open Sum.inr renaming inj->ug
open PySem.MeetsSeq3 renaming plain_eq_loop->uh
open PySem.SeqAt.EqAt renaming bool_bool->EH,bool_str->EI,str_bool->EJ
open PySem.Paired renaming length->xS
open PySem.Around renaming under_plainId->EK
open PySem.SeqRoads2.EqGives renaming str->Ll
open Array.Perm renaming refl->EL
open Option renaming some->ab,none->ae
abbrev bx:=@decide_eq_false
abbrev aw:=@if_pos
abbrev ay:=@if_neg
abbrev cM:=@decide_eq_true
abbrev ke:=@decide_eq_true_eq
abbrev jR:=@beq_self_eq_true
abbrev mO:=@decide_eq_false_iff_not
abbrev gg:=@if_false
abbrev j7:=@beq_iff_eq
abbrev qp:=@of_decide_eq_true
abbrev rA:=@beq_eq_false_iff_ne
abbrev gX:=@if_true
abbrev rD:=@decide_eq_true_iff
abbrev vL:=@decide_eq_decide
set_option maxRecDepth 100000
set_option maxHeartbeats 4000000
set_option Elab.async false
set_option linter.all false
set_option bootstrap.genMatcherCode false
noncomputable section
namespace L2
open PySem PySem.Spec PyProof.Rows
abbrev Key:=Sum Bool Str
def z6(k:Bool):ag->Bool
 |.bool b=>b==k
 |_=>false
def oY:Key->ag->Bool
 |.inl k,v=>z6 k v
 |.inr x,v=>Value.isStrOf x v
def IZ(w:aT):Key->Int
 |.inl k=>hashInt (if k then 1 else 0)
 |.inr x=>hashStr w x
theorem IE{k:Bool}:∀{v:ag},z6 k v=true->v=.bool k
 |.bool b,h=>by rw[show b=k from eq_of_beq h]
theorem jV:∀{k:Key} {v:ag},oY k v=true->(∃i,k=mL i/\v=mI i)\/(∃x t,k=fH x/\v=ko x t)
 |.inl i,v,h=>.inl ⟨i,rfl,IE h⟩
 |.inr x,v,h=>by
  obtain⟨t,e⟩:=Value.isStrOf_shape (x:=x) (v:=v) h;exact .inr ⟨x,t,rfl,e⟩
theorem Jm(i:Bool):oY (.inl i) (.bool i)=true:=jR i
theorem Iz{prog:bb}{w:aT}{A:br}{E:ag->ak->Prop}{s:ak}{b:Bool}{Q:Int->ak->Prop}(h:Q (hashInt (if b then 1 else 0)) { s with toks:=s.toks+1 }) :
 wpAny (model prog w) A (pyHash (.bool b)) Q E s:=by
 have hr:=rawHash_range (if b then 1 else 0);unfold pyHash;have hv:[mI b].any Value.onHeap=false:=rfl;refine aA ?_;rw[cRoomFor,ay (by rw[hv];exact cW)];refine bo ?_;refine aA (tS (tQ s b) t5.lookup ?_);show wpAny _ _ (if(ab (Value.builtin "int.__hash__")==ab d6)=true then _ else _) Q E s;rw[ay (by rw[beq_builtin_none];exact cW)];refine aA (tS (tQ s b) t5.lookup ?_);show wpAny _ _ (callSpecialIfBoundUnlessNone? (.bool b) "__hash__" _ >>= _) Q E s;refine aA (wpAny_callSpecialIfBoundUnlessNone?_slot (tQ s b) t5
  (mF t5 (tQ s b) F.entry_int_hash
   (show wpAny _ _ (do ret (<- mkInt (rawHash (if b then 1 else 0)))) _ _ s from wpAny_ret_mkInt ?_) (F.args_int_hash_1 _)))
 show wpAny _ _ (if(decide (-(2:Int) ^ 63<=rawHash (if b then 1 else 0))&&decide (rawHash (if b then 1 else 0)<2 ^ 63))=true then _ else _) Q E _;rw[aw (by rw[cM hr.1,cM hr.2];rfl)];exact bo h
theorem Kf(x:Str)(t:Tok):oY (.inr x) (.str x t)=true:=by simp[oY,Value.isStrOf]
theorem G7(a b:Bool):decide ((mL a:Key)=mL b)=(a==b):=by
 by_cases e:a=b
 ·subst e;simp
 ·have h:¬ (mL a:Key)=mL b:=λq=>e (Sum.inl.inj q);rw[bx h];exact(rA.mpr e).symm
theorem Hm(a b:Str):decide ((fH a:Key)=fH b)=decide (a=b):=by
 by_cases e:a=b
 ·subst e;simp
 ·have h:¬ (fH a:Key)=fH b:=λq=>e (ug q);rw[bx h,bx e]
theorem Iy(a:Bool)(b:Str):decide ((mL a:Key)=fH b)=false:=bx (λq=>nomatch q)
theorem Gm(a:Str)(b:Bool):decide ((fH a:Key)=mL b)=false:=bx (λq=>nomatch q)
def gO(prog:bb)(w:aT):PySem.KeyKind prog w Key where
 is:=oY
 hash:=IZ w
 inj:=λv a b ha hb=>by
  rcases jV ha with ⟨i,rfl,rfl⟩|⟨x,t,rfl,rfl⟩
  ·rcases jV hb with ⟨j,rfl,e⟩|⟨y,u,rfl,e⟩
   ·injection e with e1;rw[e1]
   ·exact nomatch e
  ·rcases jV hb with ⟨j,rfl,e⟩|⟨y,u,rfl,e⟩
   ·exact nomatch e
   ·injection e with e1 _;rw[e1]
 byValue:=λk v h=>by
  rcases jV h with ⟨i,rfl,rfl⟩|⟨x,t,rfl,rfl⟩<;>rfl
 pyHash:=λhv h=>by
  rcases jV hv with ⟨i,rfl,rfl⟩|⟨x,t,rfl,rfl⟩
  ·exact Iz h
  ·exact wpAny_pyHash_str h
 eqBool:=λhu hv h=>by
  rcases jV hu with ⟨i,rfl,rfl⟩|⟨x,t,rfl,rfl⟩
  ·rcases jV hv with ⟨j,rfl,rfl⟩|⟨y,u,rfl,rfl⟩
   ·rw[G7]at h;exact EH i j _ _ _ _ h
   ·rw[Iy]at h;exact EI i y u _ _ _ _ h
  ·rcases jV hv with ⟨j,rfl,rfl⟩|⟨y,u,rfl,rfl⟩
   ·rw[Gm]at h;exact EJ x t j _ _ _ _ h
   ·rw[Hm]at h;exact wpAny_eqBool_str h
 «strs»:=λk x t v h=>by
  rcases jV h with ⟨i,rfl,e⟩|⟨y,u,rfl,e⟩
  ·exact nomatch e
  ·injection e with e1 _;subst e1;cases v<;>rfl
theorem Fl(prog:bb)(w:aT)(i:Bool):(gO prog w).is (.inl i) (.bool i)=true:=Jm i
theorem Jj(prog:bb)(w:aT)(x:Str)(t:Tok):(gO prog w).is (.inr x) (.str x t)=true:=Kf x t
inductive V where
 |non|bl (b:Bool)|int (i:Int)|str (x:Str)|byt (b:Array UInt8)|flt (b:UInt64)|ref (a:ah)|ty (n:String)
 deriving DecidableEq
def RelV:V->ag->Prop
 |.non,u=>u=d6
 |.bl b,u=>u=mI b
 |.int i,u=>∃t,u=Value.int i t
 |.str x,u=>∃t,u=ko x t
 |.byt b,u=>∃t,u=Value.bytes b t
 |.flt b,u=>∃t,u=xL b t
 |.ref a,u=>u=cE a
 |.ty n,u=>u=t7 n
abbrev Vals:List V->List ag->Prop:=oq RelV
theorem Vals.length{xs:List V}{us:List ag}(r:Vals xs us):xs.length=us.length:=xS r
theorem Vals.get:∀{xs:List V} {us:List ag} {i:Nat} {x:V},Vals xs us->xs[i]? = ab x->∃u,us[i]? = ab u/\RelV x u
 |_,_,_,_,.nil,e=>by simp at e
 |_,_,0,_,.cons r _,e=>by simp at e;subst e;exact⟨_,rfl,r⟩
 |_,_,i+1,x,.cons _ t,e=>by
  obtain⟨u,h1,h2⟩:=Vals.get (i:=i) (x:=x) t (by simpa using e);exact⟨u,by simpa using h1,h2⟩
theorem Vals.set{x:V}{u:ag}(r:RelV x u):∀{xs:List V} {us:List ag} (i:Nat),Vals xs us->Vals (xs.set i x) (us.set i u)
 |_,_,_,.nil=>.nil
 |_,_,0,.cons _ t=>.cons r t
 |_,_,i+1,.cons q t=>.cons q (Vals.set r i t)
theorem Vals.append:∀{xs ys:List V} {us ws:List ag},Vals xs us->Vals ys ws->Vals (xs++ys) (us++ws)
 |_,_,_,_,.nil,s=>s
 |_,_,_,_,.cons r t,s=>.cons r (Vals.append t s)
theorem Vals.take:∀{xs:List V} {us:List ag} (n:Nat),Vals xs us->Vals (xs.take n) (us.take n)
 |_,_,0,_=>.nil
 |_,_,_+1,.nil=>.nil
 |_,_,n+1,.cons r t=>.cons r (Vals.take n t)
theorem Vals.drop:∀{xs:List V} {us:List ag} (n:Nat),Vals xs us->Vals (xs.drop n) (us.drop n)
 |_,_,0,r=>r
 |_,_,_+1,.nil=>.nil
 |_,_,n+1,.cons _ t=>Vals.drop n t
def iK:Option V->Option ag->Prop
 |some v,ab u=>RelV v u
 |none,ae=>True
 |_,_=>False
def KV{κ:Type}:List (κ×V)->List (κ×ag)->Prop:=oq λ(p:κ×V) (q:κ×ag)=>p.1=q.1/\RelV p.2 q.2
def kV:Key->V
 |.inl i=>.bl i
 |.inr x=>.str x
def mU(h:aI)(a:ah)(ai:Array ag):Prop:=∃o,h.get? a=ab o/\o.cls=.type "tuple" /\ o.dict=ae/\∃n,o.data=.seq ai n
theorem mU.tup{h:aI}{a:ah}{ai:Array ag}(x:mU h a ai):IsTup h a ai:=let ⟨o,e,c,_,d⟩:=x;⟨o,e,c,d⟩
theorem mU.new(h:aI)(ai:Array ag):mU (h.push { cls:=.type "tuple", data:=.seq ai }) h.objs.size ai:=⟨_,eE _ rfl,rfl,rfl,_,rfl⟩
inductive HO where
 /-- a list -/
 |lst (xs:List V)
 /-- a tuple (never changes) -/
 |tup (xs:List V)
 /-- a dict whose keys are ints and texts;one whose keys are tuples of ints and texts (the empty one is both) -/
 |dK (am:List (Key×V))|dT (am:List (List Key×V))
 /-- a set of ints: ai members,ai size -/
 |set (S:Int->Bool) (n:Nat)
 /-- an instance of the class at C,ai dict at dx,ai attributes -/
 |ins (C dx:ah) (fs:List (Str×V))
 /-- the dict of the instance at x -/
 |own (x:ah)
 /-- the dict of an exception -/
 |xd (fs:List (Str×V))
 /-- a bound method,f of x -/
 |met (f x:ah)
 /-- a range object lo,lo+1,.. below hi -/
 |rng (lo hi:Int)
 /-- a thing that is known to the object (the script;a dict while a loop walks it): read,never written while it is so -/
 |frz (o:Obj) (u:HO)
 /-- a code object's table -/
 |tbl (w:Str) (ps:Array ag)
 /-- any other thing,by what is true of ai one object (a def of one's own: LW a S n:=HO.ext λh=>..) -/
 |ext (φ : aI->Prop)
abbrev Hp:=ah->Option HO
def upd(H:Hp)(a:ah)(o:HO):Hp:=λb=>if b=a then ab o else H b
theorem cg{H:Hp}{a:ah}{o:HO}:upd H a o a=ab o:=by unfold upd;rw[aw rfl]
theorem aQ{H:Hp}{a b:ah}{o:HO}(h:b≠a):upd H a o b=H b:=by unfold upd;rw[ay h]
theorem KN{H:Hp}{a b:ah}{o u:HO}(h:H a=ab o)(h':H b=ab u)(d:o≠u):a≠b:=by intro e;subst e;rw[h]at h';exact d (fj h')
theorem cQ{H:Hp}{a b:ah}{o:HO}(h:H a=ab o)(h':H b=ae):a≠b:=by intro e;subst e;rw[h]at h';cases h'
section
variable(P:bb)(w:aT)
def bP(H:Hp)(h:aI)(a:ah):HO->Prop
 |.lst xs=>xs.length<=sizeLine/\∃(ai:List ag) (n:Nat),Vals xs ai/\h.get? a=ab { cls:=.type "list", data:=.seq ai.toArray n }
 |.tup xs=>xs.length<=sizeLine/\∃ai:List ag,Vals xs ai/\mU h a ai.toArray
 |.dK am=>am.length<=sizeLine/\(a==sysModules)=false/\∃vs,KV am vs/\h.DictOf (gO P w) a vs
 | .dT am=>am.length<=sizeLine/\(a==sysModules)=false/\∃xs:List (List Key×ah×ag),
  oq (λ(p:List Key×V) (q:List Key×ah×ag)=>p.1=q.1/\H q.2.1=ab (.tup (p.1.map kV))/\RelV p.2 q.2.2) am xs /\
  ∃o es ep,h.get? a=ab o/\o.ExactDict/\o.data=.dict es ep/\es.toList=xs.map (entryOfKey (tupleKind (gO P w)))/\(xs.map (·.1)).Nodup
 |.set S n=>h.SetOf (intKind P w) a S n
 | .ins C dx fs=>H dx=ab (.own a)/\fs.length<=1000/\dx≠a/\h.get? a=ab (wY C dx) /\
  ∃mA,h.Ns1 dx mA/\(∀f,iK (fs.lookup f) (mA f))/\PySem.Within mA (fs.map (·.1))
 |.own _=>∃o,h.get? a=ab o
 |.xd fs=>∃mA,h.Ns1 a mA/\∀f,iK (fs.lookup f) (mA f)
 |.rng lo hi=>∃t u v,h.get? a=ab { cls:=.type "range", data:=.fields #[.int lo t,.int hi u,.int 1 v] }
 |.frz o u=>h.get? a=ab o/\bP H h a u
 |.tbl _ ps=>h.get? a=ab { cls:=.none,data:=.fields ps }
 |.met f x=>h.get? a=ab (wX (.ref f) (.ref x))
 |.ext φ=>φ h/\(∃o,h.get? a=ab o)/\∀h1 h2:aI,φ h1->(∀o,h1.get? a=ab o->h2.get? a=ab o)->φ h2
def cz(H:Hp)(h:aI):Prop:=∀a o,H a=ab o->bP P w H h a o
end
section
variable{P:bb}{w:aT}{H H':Hp}{h h':aI}{a:ah}{o:HO}
theorem bP.lt(x:bP P w H h a o):a<h.objs.size:=by
 cases o with
 |lst xs=>obtain⟨_,_,_,_,e⟩:=x;exact bH e
 |tup xs=>obtain⟨_,_,_,p⟩:=x;exact p.tup.lt
 |dK am=>obtain⟨_,_,_,_,o,_,_,e,_⟩:=x;exact bH e
 |dT am=>obtain⟨_,_,_,_,o,_,_,e,_⟩:=x;exact bH e
 |set S n=>obtain⟨o,_,_,_,e,_⟩:=x;exact bH e
 |ins C dx fs=>obtain⟨_,_,_,e,_⟩:=x;exact bH e
 |own y=>obtain⟨_,e⟩:=x;exact bH e
 |xd fs=>obtain⟨_,⟨_,_,_,e,_⟩,_⟩:=x;exact bH e
 |rng lo hi=>obtain⟨_,_,_,e⟩:=x;exact bH e
 |frz ob u=>obtain⟨e,_⟩:=x;exact bH e
 |tbl w ps=>exact bH (show h.get? a=ab _ from x)
 |met f y=>exact bH (show h.get? a=ab _ from x)
 |ext φ=>obtain⟨_,⟨_,e⟩,_⟩:=x;exact bH e
theorem Paired.wJ{α β:Type}{F G:α->β->Prop}:∀{l₁:List α} {l₂:List β},oq F l₁ l₂->(∀a b,F a b->G a b)->oq G l₁ l₂
 |_,_,.nil,_=>.nil
 |_,_,.cons r t,f=>.cons (f _ _ r) (Paired.wJ t f)
theorem bP.stay(x:bP P w H h a o)(k:∀b u,(b=a\/H b=ab (.own a))->h.get? b=ab u->h'.get? b=ab u)
 (ho:∀b,H b=ab (.own a)->H' b=ab (.own a)) (ht:∀b xs,H b=ab (.tup xs)->H' b=ab (.tup xs)):bP P w H' h' a o:=by
 induction o with
 |lst xs=>obtain⟨z,ai,n,r,e⟩:=x;exact⟨z,ai,n,r,k _ _ (.inl rfl) e⟩
 |tup xs=>obtain⟨z,ai,r,ob,e,c⟩:=x;exact⟨z,ai,r,ob,k _ _ (.inl rfl) e,c⟩
 |dK am=>obtain⟨z,y,vs,r,ob,es,ep,e,c⟩:=x;exact⟨z,y,vs,r,ob,es,ep,k _ _ (.inl rfl) e,c⟩
 |dT am=>
  obtain⟨z,y,xs,r,ob,es,ep,e,c⟩:=x;exact⟨z,y,xs,Paired.wJ r λp q z=>⟨z.1,ht _ _ z.2.1,z.2.2⟩,ob,es,ep,k _ _ (.inl rfl) e,c⟩
 |set S n=>obtain⟨ob,es,ep,t,e,c⟩:=x;exact⟨ob,es,ep,t,k _ _ (.inl rfl) e,c⟩
 |ins C dx fs=>
  obtain⟨d,z,ne,e,mA,⟨od,es,ep,e2,c⟩,r⟩:=x;exact⟨ho _ d,z,ne,k _ _ (.inl rfl) e,mA,⟨od,es,ep,k _ _ (.inr d) e2,c⟩,r⟩
 |own y=>obtain⟨ob,e⟩:=x;exact⟨ob,k _ _ (.inl rfl) e⟩
 |xd fs=>obtain⟨mA,⟨od,es,ep,e,c⟩,r⟩:=x;exact⟨mA,⟨od,es,ep,k _ _ (.inl rfl) e,c⟩,r⟩
 |rng lo hi=>obtain⟨t,u,v,e⟩:=x;exact⟨t,u,v,k _ _ (.inl rfl) e⟩
 |frz ob u ih=>obtain⟨e,q⟩:=x;exact⟨k _ _ (.inl rfl) e,ih q⟩
 |tbl w ps=>
  have e:h.get? a=ab { cls:=.none,data:=.fields ps }:=x;show h'.get? a=ab { cls:=.none,data:=.fields ps };exact k a _ (.inl rfl) e
 |met f y=>
  have e:h.get? a=ab (wX (.ref f) (.ref y)):=x;show h'.get? a=ab (wX (.ref f) (.ref y));exact k a _ (.inl rfl) e
 |ext φ=>obtain⟨p,⟨o,e⟩,st⟩:=x;exact⟨st _ _ p λo q=>k _ _ (.inl rfl) q,⟨o,k _ _ (.inl rfl) e⟩,st⟩
theorem cz.lt(x:cz P w H h)(e:H a=ab o):a<h.objs.size:=(x a o e).lt
theorem cz.fresh(x:cz P w H h)(e:h.objs.size<=a):H a=ae:=by
 cases q:H a with
 |none=>rfl
 |some u=>exact absurd (fR (x.lt q) e) (jG _)
theorem cz.kept(x:cz P w H h)(k:∀b u,h.get? b=ab u->h'.get? b=ab u):cz P w H h':=λa o e=>
 (x a o e).stay (λb u _ q=>k b u q) (λ_ q=>q) λ_ _ q=>q
theorem cz.laid(x:cz P w H h)(k:∀b u,h.get? b=ab u->h'.get? b=ab u)(hp:h.objs.size<=a)(new:bP P w (upd H a o) h' a o):cz P w (upd H a o) h':=λb u e=>by
 have hn:=x.fresh hp;by_cases hb:b=a
 ·subst hb;rw[cg]at e;cases e;exact new
 ·rw[aQ hb]at e;exact(x b u e).stay (λc v _ q=>k c v q) (λc q=>by rw[aQ (cQ q hn)];exact q) λc xs q=>by rw[aQ (cQ q hn)];exact q
end
def Rd(H:Hp)(a:ah)(u:HO):Prop:=H a=ab u\/∃o,H a=ab (.frz o u)
theorem Rd.ok{P:bb}{w:aT}{H:Hp}{h:aI}{a:ah}{u:HO}(r:Rd H a u)(x:cz P w H h):bP P w H h a u:=by
 rcases r with r|⟨o,r⟩
 ·exact x a u r
 ·obtain⟨_,q⟩:=x a _ r;exact q
def py:Option HO->Prop
 |some (.lst _)=>True
 |some (.dK _)=>True
 |some (.dT _)=>True
 |some (.set _ _)=>True
 |some (.ins _ _ _)=>True
 |some (.ext _)=>True
 |_=>False
section
variable{P:bb}{w:aT}{H:Hp}{h h':aI}{x e:ah}{o':HO}
theorem cz.write(ok:cz P w H h)(mu:py (H x))(he:e=x\/H e=ab (.own x))(k:∀b u,b≠e->h.get? b=ab u->h'.get? b=ab u)(heo:∃u,h'.get? e=ab u)
 (new:bP P w (upd H x o') h' x o'):cz P w (upd H x o') h':=λb u q=>by
 have EM:∀c y,H c=ab (.own y)->c≠x:=λc y r z=>by subst z;rw[r]at mu;exact mu
 have Lm:∀c xs,H c=ab (.tup xs)->c≠x:=λc xs r z=>by subst z;rw[r]at mu;exact mu
 by_cases hb:b=x
 ·subst hb;rw[cg]at q;cases q;exact new
 ·rw[aQ hb]at q;by_cases hbe:b=e
  ·have q':H b=ab (.own x):=by
    rcases he with z|z
    ·exact absurd (hbe.trans z) hb
    ·rw[hbe];exact z
   rw[q]at q';cases q';obtain⟨v,hv⟩:=heo;exact⟨v,by rw[hbe];exact hv⟩
  ·refine(ok b u q).stay (λc v hc r=>k c v ?_ r) (λc r=>by rw[aQ (EM c b r)];exact r) λc xs r=>by rw[aQ (Lm c xs r)];exact r
   rcases hc with rfl|hc
   ·exact hbe
   ·rintro rfl;rcases he with z|z
    ·exact EM c b hc z
    ·rw[hc]at z;cases z;exact hb rfl
end
structure Un(fs ex:List ah)(H H':Hp)(h h':aI):Prop where
 keep:∀b o,h.get? b=ab o->H b=ae->b∉fs->b∉ex->h'.get? b=ab o
 slot:∀b o,h.get? b=ab o->H b=ae->b∈fs->b∉ex->∃sl,h'.get? b=ab { o with slots:=sl }
 free:∀b o,h.get? b=ab o->H b=ae->b∉ex->H' b=ae
 there:∀b o,h.get? b=ab o->b∉ex->∃o',h'.get? b=ab o'
 tups:∀b xs,H b=ab (.tup xs)->H' b=ab (.tup xs)
 jN:∀b o u,H b=ab (.frz o u)->H' b=ab (.frz o u)
 ku:∀b w ps,H b=ab (.tbl w ps)->∃more,H' b=ab (.tbl w (ps++more))
section
variable{fs fs' ex ex':List ah}{H H1 H2:Hp}{h h1 h2 h':aI}{a x e:ah}{o:HO}
theorem Un.any(u:Un fs ex H H1 h h1){b:ah}{ob:Obj}(q:h.get? b=ab ob)(n:H b=ae)(hx:b∉ex):∃sl,h1.get? b=ab { ob with slots:=sl }:=by
 by_cases hb:b∈fs
 ·exact u.slot b ob q n hb hx
 ·exact⟨ob.slots,u.keep b ob q n hb hx⟩
theorem Un.kept(k:∀b u,h.get? b=ab u->h'.get? b=ab u):Un fs ex H H h h':=⟨λb ob q _ _ _=>k b ob q,λb ob q _ _ _=>⟨ob.slots,k b ob q⟩,λ_ _ _ n _=>n,λb ob q _=>⟨ob,k b ob q⟩,λ_ _ q=>q,λ_ _ _ q=>q,λ_ w ps q=>⟨#[],by rw[q];simp⟩⟩
theorem Un.refl:Un fs ex H H h h:=Un.kept λ_ _ q=>q
theorem Un.laid(k:∀b u,h.get? b=ab u->h'.get? b=ab u)(hp:h.objs.size<=a)(hn:H a=ae):Un fs ex H (upd H a o) h h' where
 keep:=λb u q _ _ _=>k b u q
 slot:=λb u q _ _ _=>⟨u.slots,k b u q⟩
 free:=λb u q n _=>by rw[aQ (gs (fR (bH q) hp))];exact n
 there:=λb u q _=>⟨u,k b u q⟩
 tups:=λb xs q=>by rw[aQ (cQ q hn)];exact q
 jN:=λb u xs q=>by rw[aQ (cQ q hn)];exact q
 ku:=λb w ps q=>⟨#[],by rw[aQ (cQ q hn),q];simp⟩
theorem Un.write(mu:py (H x))(he:e=x\/H e=ab (.own x))(k:∀b u,b≠e->h.get? b=ab u->h'.get? b=ab u)(heo:∃u,h'.get? e=ab u):Un fs ex H (upd H x o) h h':=by
 have hx:∀b,H b=ae->b≠x:=λb n z=>by subst z;rw[n]at mu;exact mu
 have hb:∀b,H b=ae->b≠e:=λb n z=>by
  subst z;rcases he with r|r
  ·exact hx b n r
  ·rw[n]at r;cases r
 have hm:∀b u,H b=ab u->¬ py (ab u)->b≠x:=λb u q nm z=>by subst z;rw[q]at mu;exact nm mu
 refine⟨λb u q n _ _=>k b u (hb b n) q,λb u q n _ _=>⟨u.slots,k b u (hb b n) q⟩,λb u q n _=>by rw[aQ (hx b n)];exact n,λb u q _=>?_,
  λb xs q=>by rw[aQ (hm b _ q λz=>z)];exact q,λb u xs q=>by rw[aQ (hm b _ q λz=>z)];exact q,λb w ps q=>⟨#[],by rw[aQ (hm b _ q λz=>z),q];simp⟩⟩
 by_cases hbe:b=e
 ·subst hbe;exact heo
 ·exact⟨u,k b u hbe q⟩
end
def re(h:aI)(H:Hp):List ah:=(bn h.objs.size).filter λa=>(H a).isSome
def j3(h:aI)(H:Hp):aI:=PySem.W.hideAll h (re h H)
theorem Hb(h:aI)(H:Hp):(j3 h H).objs.size=h.objs.size:=PySem.W.hideAll_size _ _
theorem FW{h:aI}{H:Hp}{b:ah}{o:Obj}(e:h.get? b=ab o)(n:H b=ae):(j3 h H).get? b=ab o:=
 PySem.W.hideAll_get _ e λhm=>by
  have q:(H b).isSome=true:=(kl.mp hm).2;rw[n]at q;simp at q
theorem Hf{h:aI}{H:Hp}{b:ah}{o:Obj}(e:(j3 h H).get? b=ab o):h.get? b=ab o/\H b=ae:=by
 have e':h.get? b=ab o:=PySem.W.of_hideAll (re h H) e;refine⟨e',?_⟩;cases q:H b with
 |none=>rfl
 |some x=>
  have hm:b∈re h H:=kl.mpr ⟨d3.mpr (bH e'),by simp[q]⟩;have z:(j3 h H).get? b=ae:=PySem.W.hideAll_none (re h H) hm;rw[z]at e;cases e
structure Mod(K:aB)(mg:Str->Option ag)(base:aI):Prop where
 kin:K.In base
 glob:base.Ns mainGlobals mg
 blt:∃mb,base.Ns builtinsNs mb/\∀x:Str,x ≠ "__name__" -> mb x=bootBuiltins x
 nolimit:base.NoLimit
structure Cx where
 prog:bb
 w:aT
 K:aB
 mg:Str->Option ag
 base:aI
 A:br
 N:List Str
 s₀:ak
 H₀:Hp
 env:Env
 outer:List Env
 stack:List Env
 ex:List ah
 fn:Str->Bool
 calm:Bool
 pn:List (ah×Obj)
 xe:ag->ak->Prop
def frs(l:List Env):List ah:=l.filterMap (·.frame)
abbrev Cx.fs(X:Cx):List ah:=frs X.outer
def qS(sc:fF)(x:Str):Prop:=sc.names.lookup x=ab .local\/sc.names.lookup x=ab .cell\/sc.names.lookup x=ab .free
def Loc(sc:fF)(x:Str):Prop:=sc.names.lookup x=ab .local\/sc.names.lookup x=ab .cell
def Look(env:Env)(h:aI)(m:Str->Option ag)(x:Str)(u:ag):Prop:=(env.kindOf x=ab .local/\m x=ab u)\/((env.kindOf x=ab .cell\/env.kindOf x=ab .free)/\∃c,env.cells.lookup x=ab c/\h.IsCell c (ab u))
structure Cx.Ok(X:Cx):Prop where
 mod:Mod X.K X.mg X.base
 kind:X.env.scope.kind=.function
 glob:X.env.globals=mainGlobals
 blt:X.env.builtins=builtinsNs
 above:X.s₀.heap.objs.size<=X.env.locals
 inj:∀x y c,X.env.cells.lookup x=ab c->X.env.cells.lookup y=ab c->x=y
 has:∀x,(X.env.kindOf x=ab .cell\/X.env.kindOf x=ab .free)->∃c,X.env.cells.lookup x=ab c
 cab:∀x c,X.fn x=true->X.env.cells.lookup x=ab c->X.s₀.heap.objs.size<=c
 hd:X.calm=true->X.A.handled=ae
 frames:X.A.frames=ab X.stack
 stk:X.stack=X.outer\/(X.stack=X.env::X.outer/\X.env.frame=ab X.env.locals)
 exf:∀b∈X.ex,b≠X.env.locals/\∀x c,X.env.cells.lookup x=ab c->c≠b
 bs:∀b o,X.base.get? b=ab o->X.s₀.heap.get? b=ab o/\X.H₀ b=ae
 bsz:X.base.objs.size<=X.s₀.heap.objs.size
 qM:∀b o,X.base.get? b=ab o->b∉X.ex
 ui:∀b∈X.ex,b∉X.fs
 iZ:X.s₀.heap.FunFrames X.base X.outer
 frf:∀b∈X.fs,X.H₀ b=ae
structure Inv(X:Cx)(af:List (ah×Obj))(σ:List (Option V))(H:Hp)(s:ak):Prop where
 ok:X.Ok
 os:s.os=X.s₀.os
 bare:kq s.gens
 base:Un X.fs X.ex X.H₀ H X.s₀.heap s.heap
 loc:∃m,s.heap.Ns X.env.locals m/\∀(i:Nat) (x:Str) (v:V),X.N[i]? = ab x->σ[i]? = ab (ab v)->qS X.env.scope x->∃u,RelV v u/\Look X.env s.heap m x u
 cell:∀x c,X.env.cells.lookup x=ab c->∃v,s.heap.IsCell c v
 free:H X.env.locals=ae
 i9:∀x c,X.env.cells.lookup x=ab c->H c=ae
 pin:∀p∈X.pn++af,s.heap.get? p.1=ab p.2/\H p.1=ae/\p.1≠X.env.locals/\p.1∉X.fs/\∀v,p.2.data≠.cell v
 hok:cz X.prog X.w H s.heap
 len:σ.length=X.N.length
section
variable{X:Cx}{af:List (ah×Obj)}{σ:List (Option V)}{H H':Hp}{s:ak}{h':aI}
theorem Cx.Ok.Jn(ok:X.Ok){b:ah}{o:Obj}(e:X.base.get? b=ab o):b∉X.fs:=λhb=>by
 have:=(ok.iZ.mem hb).1;rw[e]at this;cases this
theorem Inv.bs(I:Inv X af σ H s):∀b o,X.base.get? b=ab o->s.heap.get? b=ab o/\H b=ae:=λb o e=>
 ⟨I.base.keep b o (I.ok.bs b o e).1 (I.ok.bs b o e).2 (I.ok.Jn e) (I.ok.qM b o e),I.base.free b o (I.ok.bs b o e).1 (I.ok.bs b o e).2 (I.ok.qM b o e)⟩
theorem Inv.bk(I:Inv X af σ H s):∀b o,X.base.get? b=ab o->s.heap.get? b=ab o:=λb o e=>(I.bs b o e).1
theorem Inv.mod(I:Inv X af σ H s):Mod X.K X.mg X.base:=I.ok.mod
theorem Inv.eX(I:Inv X af σ H s):X.K.In s.heap:=I.ok.mod.kin.keeps I.bk
theorem Inv.lt(I:Inv X af σ H s):X.env.locals<s.heap.objs.size:=let ⟨_,hn,_⟩:=I.loc;hn.lt
theorem Inv.sz(I:Inv X af σ H s):X.s₀.heap.objs.size<=s.heap.objs.size:=d5 I.ok.above (xF I.lt)
theorem Inv.Lc(I:Inv X af σ H s){a:ah}(h:s.heap.objs.size<=a):a∉X.fs:=λhb=>by
 obtain⟨_,o,ho,_⟩:=I.ok.iZ.mem hb;exact absurd (fR (bH ho) (d5 I.sz h)) (jG _)
theorem Inv.lA(I:Inv X af σ H s):∀x c,X.env.cells.lookup x=ab c->c≠X.env.locals:=λx c e z=>by
 obtain⟨v,o,ho,hd⟩:=I.cell x c e;obtain⟨m,⟨o',es,ep,ho',hd',_⟩,_⟩:=I.loc;rw[z,ho']at ho;cases ho;rw[hd']at hd;cases hd
theorem Inv.iZ(I:Inv X af σ H s):s.heap.FunFrames X.base X.outer:=by
 have all:∀(l:List Env),(∀b∈frs l,b∈X.fs)->X.s₀.heap.FunFrames X.base l->s.heap.FunFrames X.base l:=by
  intro l
  induction l with
  |nil=>intro _ _;trivial
  |cons env r ih=>
   intro hs hl;obtain⟨hk,⟨L,o,hf,hn,ho,hd⟩,hr⟩:=hl;have hL:L∈X.fs:=hs L (by unfold frs;rw[xg,hf];exact cC);obtain⟨sl,e⟩:=I.base.slot L o ho (I.ok.frf L hL) hL λz=>I.ok.ui L z hL;exact⟨hk,⟨L,_,hf,hn,e,hd⟩,ih (λb hb=>hs b (by unfold frs;rw[xg,hf];exact cA _ hb)) hr⟩
 exact all X.outer (λ_ hb=>hb) I.ok.iZ
theorem Inv.stack(I:Inv X af σ H s):s.heap.FunFrames X.base X.stack:=by
 rcases I.ok.stk with e|⟨e,hf⟩
 ·rw[e];exact I.iZ
 ·rw[e];obtain⟨m,hn,_⟩:=I.loc;refine .cons (by rw[I.ok.kind];decide) hf hn ?_ I.iZ;exact Heap.get?_none_of_le (d5 I.ok.bsz I.ok.above)
theorem Inv.v7(I:Inv X af σ H s):∀b∈frs X.stack,b∈X.env.locals::X.fs:=λb hb=>by
 rcases I.ok.stk with e|⟨e,hf⟩
 ·rw[e]at hb;exact cA _ hb
 ·rw[e]at hb;unfold frs at hb;rw[xg,hf]at hb;exact hb
theorem Inv.BR(I:Inv X af σ H s):∀b∈frs X.stack,H b=ae:=λb hb=>by
 rcases bK.mp (I.v7 b hb)with e|hb
 ·rw[e];exact I.free
 ·obtain⟨_,o,ho,_⟩:=I.ok.iZ.mem hb;exact I.base.free b o ho (I.ok.frf b hb) λz=>I.ok.ui b z hb
theorem Inv.step{g':Array GenState}{t':Nat}{d':Drawn}{ch:List ah}(I:Inv X af σ H s)
 (hch:∀b∈ch,(b∈X.ex\/X.s₀.heap.objs.size<=b)/\b≠X.env.locals/\(∀x c,X.env.cells.lookup x=ab c->c≠b)/\∀p∈X.pn++af,p.1≠b)
 (keep:∀b o,b≠X.env.locals->b∉X.fs->b∉ch->s.heap.get? b=ab o->H b=ae->h'.get? b=ab o)
 (slot:∀b o,b≠X.env.locals->b∈X.fs->b∉ch->s.heap.get? b=ab o->H b=ae->∃sl,h'.get? b=ab { o with slots:=sl }) (free:∀b o,b∉ch->s.heap.get? b=ab o->H b=ae->H' b=ae)
 (there:∀b o,b∉ch->s.heap.get? b=ab o->∃o',h'.get? b=ab o')
 (tups:∀b xs,H b=ab (.tup xs)->H' b=ab (.tup xs)) (jN:∀b o u,H b=ab (.frz o u)->H' b=ab (.frz o u)) (ku:∀b w ps,H b=ab (.tbl w ps)->∃more,H' b=ab (.tbl w (ps++more)))
 (ns:∀m,s.heap.Ns X.env.locals m->h'.Ns X.env.locals m) (hok:cz X.prog X.w H' h') (hg:kq g') :
 Inv X af σ H' { s with heap:=h',gens:=g',drawn:=d',toks:=t' }:=by
 have neL:∀b o,X.s₀.heap.get? b=ab o->b≠X.env.locals:=λb o e=>gs (fR (bH e) I.ok.above);have neC:∀b o,X.s₀.heap.get? b=ab o->b∉X.ex->b∉ch:=λb o e hx hb=>by
  rcases(hch b hb).1 with z|z
  ·exact hx z
  ·exact absurd (fR (bH e) z) (jG _)
 have cellK:∀x c,X.env.cells.lookup x=ab c->∀v,s.heap.IsCell c v->h'.IsCell c v:=λx c e v ⟨o,ho,hd⟩=>by
  have nch:c∉ch:=λz=>(hch c z).2.2.1 x c e rfl;by_cases hc:c∈X.fs
  ·obtain⟨sl,q⟩:=slot c o (I.lA x c e) hc nch ho (I.i9 x c e);exact⟨_,q,hd⟩
  ·exact⟨o,keep c o (I.lA x c e) hc nch ho (I.i9 x c e),hd⟩
 refine⟨I.ok,I.os,hg,⟨λb o e n hb hx=>?_,λb o e n hb hx=>?_,λb o e n hx=>?_,λb o e hx=>?_,λb xs e=>tups b xs (I.base.tups b xs e),λb o xs e=>jN b o xs (I.base.jN b o xs e),λb w ps e=>?_⟩,?_,λx c e=>?_,?_,λx c e=>?_,λp hp=>?_,hok,I.len⟩
 ·exact keep b o (neL b o e) hb (neC b o e hx) (I.base.keep b o e n hb hx) (I.base.free b o e n hx)
 ·obtain⟨sl,e1⟩:=I.base.slot b o e n hb hx;obtain⟨sl',e2⟩:=slot b _ (neL b o e) hb (neC b o e hx) e1 (I.base.free b o e n hx);exact⟨sl',e2⟩
 ·obtain⟨o',e1⟩:=I.base.there b o e hx;exact free b o' (neC b o e hx) e1 (I.base.free b o e n hx)
 ·obtain⟨o',e1⟩:=I.base.there b o e hx;exact there b o' (neC b o e hx) e1
 ·obtain⟨m1,e1⟩:=I.base.ku b w ps e;obtain⟨m2,e2⟩:=ku b w _ e1;exact⟨m1++m2,by rw[e2,Array.append_assoc]⟩
 ·obtain⟨m,hn,hl⟩:=I.loc;refine⟨m,ns m hn,λi x v e1 e2 e3=>?_⟩;obtain⟨u,r,l⟩:=hl i x v e1 e2 e3;refine⟨u,r,?_⟩;rcases l with l|⟨k,c,e,z⟩
  ·exact .inl l
  ·exact .inr ⟨k,c,e,cellK x c e _ z⟩
 ·obtain⟨v,z⟩:=I.cell x c e;exact⟨v,cellK x c e v z⟩
 ·obtain⟨m,⟨o,_,_,ho,_⟩,_⟩:=I.loc;exact free _ o (λz=>(hch _ z).2.1 rfl) ho I.free
 ·obtain⟨v,o,ho,hd⟩:=I.cell x c e;exact free c o (λz=>(hch c z).2.2.1 x c e rfl) ho (I.i9 x c e)
 ·obtain⟨e,n,ne,nf,d⟩:=I.pin p hp;have nch:p.1∉ch:=λz=>(hch p.1 z).2.2.2 p hp rfl;exact⟨keep p.1 p.2 ne nf nch e n,free p.1 p.2 nch e n,ne,nf,d⟩
theorem Inv.un{t':Nat}(I:Inv X af σ H s)(u:Un X.fs [] H H' s.heap h')(hok:cz X.prog X.w H' h'):Inv X af σ H' { s with heap:=h',toks:=t' }:=by
 obtain⟨m,⟨o,es,ep,ho,r⟩,_⟩:=id I.loc;obtain⟨sl,hL⟩:=u.any ho I.free (by simp);exact I.step (g':=s.gens) (d':=s.drawn) (ch:=[]) (λ_ z=>nomatch z) (λb o _ hb _ e n=>u.keep b o e n hb (by simp)) (λb o _ hb _ e n=>u.slot b o e n hb (by simp)) (λb o _ e n=>u.free b o e n (by simp)) (λb o _ e=>u.there b o e (by simp)) u.tups u.jN u.ku (λm' hm=>by
  obtain⟨o',es',ep',ho',r'⟩:=hm;rw[ho]at ho';cases ho';exact⟨_,es',ep',hL,r'⟩) hok I.bare
theorem Inv.call{g':Array GenState}{t':Nat}{d':Drawn}{ch:List ah}(I:Inv X af σ H s)(u:Un (frs X.stack) ch H H' s.heap h')(hok:cz X.prog X.w H' h')(hg:kq g')
 (hch:∀b∈ch,(b∈X.ex\/X.s₀.heap.objs.size<=b)/\b≠X.env.locals/\(∀x c,X.env.cells.lookup x=ab c->c≠b)/\∀p∈X.pn++af,p.1≠b) :
 Inv X af σ H' { s with heap:=h',gens:=g',drawn:=d',toks:=t' }:=by
 obtain⟨m,⟨o,es,ep,ho,r⟩,_⟩:=id I.loc;obtain⟨sl,hL⟩:=u.any ho I.free λz=>(hch _ z).2.1 rfl;exact I.step (ch:=ch) hch (λb o hL hb hc e n=>u.keep b o e n (λz=>(bK.mp (I.v7 b z)).elim hL hb) hc) (λb o _ _ hc e n=>u.any e n hc) (λb o hc e n=>u.free b o e n hc) (λb o hc e=>u.there b o e hc) u.tups u.jN u.ku (λm' hm=>by
  obtain⟨o',es',ep',ho',r'⟩:=hm;rw[ho]at ho';cases ho';exact⟨_,es',ep',hL,r'⟩) hok hg
theorem Inv.turned{t':Nat}{it:ah}(I:Inv X af σ H s)(k:∀b o,b≠it->s.heap.get? b=ab o->h'.get? b=ab o)(hn:H it=ae)(hL:it≠X.env.locals)
 (h1:it∈X.ex\/X.s₀.heap.objs.size<=it) (h2:∀x c,X.env.cells.lookup x=ab c->c≠it) (h3:∀p∈X.pn++af,p.1≠it):Inv X af σ H { s with heap:=h',toks:=t' }:=by
 have nit:∀b u,H b=ab u->b≠it:=λb u e z=>by rw[z,hn]at e;cases e
 refine I.step (g':=s.gens) (d':=s.drawn) (ch:=[it]) (λb hb=>?_) (λb o _ _ hc e _=>k b o (λz=>hc (by simp[z])) e) (λb o _ _ hc e _=>⟨o.slots,k b o (λz=>hc (by simp[z])) e⟩) (λ_ _ _ _ n=>n)
  (λb o hc e=>⟨o,k b o (λz=>hc (by simp[z])) e⟩) (λ_ _ e=>e) (λ_ _ _ e=>e) (λb w ps e=>⟨#[],by rw[e];simp⟩) (λm hm=>?_) (λb u e=>?_) I.bare
 ·have e:b=it:=by simpa using hb
  subst e;exact⟨h1,hL,h2,h3⟩
 ·obtain⟨o,es,ep,ho,r⟩:=hm;exact⟨o,es,ep,k _ o (dS hL) ho,r⟩
 ·refine(I.hok b u e).stay (λc v hc q=>k c v ?_ q) (λ_ q=>q) λ_ _ q=>q;rcases hc with z|z
  ·rw[z];exact nit b u e
  ·exact nit c _ z
theorem Inv.tok(I:Inv X af σ H s)(t:Nat):Inv X af σ H { s with toks:=t }:=I.un (h':=s.heap) (t':=t) Un.refl I.hok
theorem Inv.kept{t':Nat}(I:Inv X af σ H s)(k:∀b u,s.heap.get? b=ab u->h'.get? b=ab u):Inv X af σ H { s with heap:=h',toks:=t' }:=I.un (Un.kept k) (I.hok.kept k)
theorem Inv.laid{a:ah}{o:HO}{t':Nat}(I:Inv X af σ H s)(k:∀b u,s.heap.get? b=ab u->h'.get? b=ab u)(hp:s.heap.objs.size<=a)(new:bP X.prog X.w (upd H a o) h' a o) :
 Inv X af σ (upd H a o) { s with heap:=h',toks:=t' }:=I.un (Un.laid k hp (I.hok.fresh hp)) (I.hok.laid k hp new)
theorem Inv.write{x e:ah}{o:HO}{t':Nat}(I:Inv X af σ H s)(mu:py (H x))(he:e=x\/H e=ab (.own x))(k:∀b u,b≠e->s.heap.get? b=ab u->h'.get? b=ab u)(heo:∃u,h'.get? e=ab u)
 (new:bP X.prog X.w (upd H x o) h' x o):Inv X af σ (upd H x o) { s with heap:=h',toks:=t' }:=I.un (Un.write mu he k heo) (I.hok.write mu he k heo new)
theorem Inv.weak{σ':List (Option V)}(I:Inv X af σ H s)(hl:σ'.length = σ.length)(w:∀(i:Nat) v,σ'[i]? = ab (ab v)->σ[i]? = ab (ab v)):Inv X af σ' H s:=⟨I.ok,I.os,I.bare,I.base,let ⟨m,hn,hl'⟩:=I.loc;⟨m,hn,λi x v e1 e2 e3=>hl' i x v e1 (w i v e2) e3⟩,I.cell,I.free,I.i9,I.pin,I.hok,hl.trans I.len⟩
theorem Inv.wu{oB:List (ah×Obj)}(I:Inv X af σ H s)(h:∀p∈oB,s.heap.get? p.1=ab p.2/\H p.1=ae/\p.1≠X.env.locals/\p.1∉X.fs/\∀v,p.2.data≠.cell v):Inv X oB σ H s:=⟨I.ok,I.os,I.bare,I.base,I.loc,I.cell,I.free,I.i9,λp hp=>(dZ.mp hp).elim (λz=>I.pin p (li _ z)) (h p),I.hok,I.len⟩
theorem Cw{N:List Str}(hN:N.Nodup){i j:Nat}{x:Str}(a:N[i]? = ab x)(b:N[j]? = ab x):i=j:=by obtain⟨h1,e1⟩:=cV.mp a;obtain⟨h2,e2⟩:=cV.mp b;exact(ki hN).mp (e1.trans e2.symm)
theorem CN{M:Model}{A:br}{E:ag->ak->Prop}{i:Nat}{x:Str}{v:V}{u:ag}{Q:Unit->ak->Prop}(I:Inv X af σ H s)(hN:X.N.Nodup)(hi:X.N[i]? = ab x)(hx:Loc X.env.scope x)(r:RelV v u)
 (h:∀s',Inv X af (σ.set i (ab v)) H s'->(∃a,mG a s.heap s'.heap/\(a=X.env.locals\/X.env.cells.lookup x=ab a))->Q () s') (hf:X.fn x=true\/X.env.scope.names.lookup x=ab .local:=by first|exact .inl rfl|exact .inr rfl|assumption):wpAny M A (storeName X.env x u) Q E s:=by
 obtain⟨m,hn,hl⟩:=id I.loc;have hcls:(X.env.scope.kind==.class||(X.env.scope.kind==.module&&X.env.locals != X.env.globals))=false:=by rw[I.ok.kind];rfl
 have hiσ:i < σ.length:=by rw[I.len];exact(cV.mp hi).1
 have lA:=I.lA;have tracked:∀{a:ah} {h':aI},(∃o,s.heap.get? a=ab o/\H a=ae)->mG a s.heap h'->cz X.prog X.w H h':=λ{a h'} ha hs b ob e=>by
  obtain⟨_,_,hfree⟩:=ha;refine(I.hok b ob e).stay (λc w' hc q=>(hs.2 c ?_).trans q) (λ_ q=>q) λ_ _ q=>q;rintro rfl;rcases hc with rfl|hc
  ·rw[hfree]at e;cases e
  ·rw[hfree]at hc;cases hc
 rcases hx with hk|hk
 ·refine wpAny_storeName_local hk hn (λh' hn' hs=>?_) hcls;obtain⟨oL,_,_,hoL,_⟩:=id hn;refine h _ ⟨I.ok,I.os,I.bare,⟨λb o e n hb hx=>?_,λb o e n hb hx=>?_,I.base.free,λb o e hx=>?_,I.base.tups,I.base.jN,I.base.ku⟩,⟨_,hn',λj y v' e1 e2 e3=>?_⟩,λy c e=>?_,I.free,I.i9,λp hp=>?_,tracked ⟨oL,hoL,I.free⟩ hs,by simpa using I.len⟩ ⟨_,hs,.inl rfl⟩
  ·exact(hs.2 b (gs (fR (bH e) I.ok.above))).trans (I.base.keep b o e n hb hx)
  ·obtain⟨sl,e1⟩:=I.base.slot b o e n hb hx;exact⟨sl,(hs.2 b (gs (fR (bH e) I.ok.above))).trans e1⟩
  ·obtain⟨o',e1⟩:=I.base.there b o e hx;exact⟨o',(hs.2 b (gs (fR (bH e) I.ok.above))).trans e1⟩
  ·by_cases hj:j=i
   ·subst hj;rw[hi]at e1;cases e1;rw[jB hiσ]at e2;cases e2;exact⟨u,r,.inl ⟨hk,by simp⟩⟩
   ·rw[dY (dS hj)]at e2;obtain⟨u',r',q⟩:=hl j y v' e1 e2 e3;refine⟨u',r',?_⟩;rcases q with ⟨k,e⟩|⟨k,c,e,z⟩
    ·refine .inl ⟨k,?_⟩;have:y≠x:=λe=>hj (Cw hN e1 (e ▸ hi));simp[this,e]
    ·exact .inr ⟨k,c,e,z.sameBut hs (lA y c e)⟩
  ·obtain⟨w',z⟩:=I.cell y c e;exact⟨w',z.sameBut hs (lA y c e)⟩
  ·obtain⟨e,n,ne,nf,d⟩:=I.pin p hp;exact⟨(hs.2 p.1 ne).trans e,n,ne,nf,d⟩
 ·have hfn:X.fn x=true:=by
   rcases hf with z|z
   ·exact z
   ·rw[z]at hk;cases hk
  obtain⟨c,hc⟩:=I.ok.has x (.inl hk);obtain⟨w',z⟩:=I.cell x c hc;refine wpAny_storeName_cell I.ok.kind hk hc z (λh' hc' hs=>?_);obtain⟨oc,hoc,Ln⟩:=id z;refine h { s with heap:=h' } ⟨I.ok,I.os,I.bare,⟨λb o e n hb hx=>?_,λb o e n hb hx=>?_,I.base.free,λb o e hx=>?_,I.base.tups,I.base.jN,I.base.ku⟩,⟨m,hn.sameBut hs (dS (lA x c hc)),λj y v' e1 e2 e3=>?_⟩,λy c' e=>?_,I.free,I.i9,λp hp=>?_,tracked ⟨oc,hoc,I.i9 x c hc⟩ hs,by simpa using I.len⟩ ⟨c,hs,.inr hc⟩
  ·exact(hs.2 b (gs (fR (bH e) (I.ok.cab x c hfn hc)))).trans (I.base.keep b o e n hb hx)
  ·obtain⟨sl,e1⟩:=I.base.slot b o e n hb hx;exact⟨sl,(hs.2 b (gs (fR (bH e) (I.ok.cab x c hfn hc)))).trans e1⟩
  ·obtain⟨o',e1⟩:=I.base.there b o e hx;exact⟨o',(hs.2 b (gs (fR (bH e) (I.ok.cab x c hfn hc)))).trans e1⟩
  ·by_cases hj:j=i
   ·subst hj;rw[hi]at e1;cases e1;rw[jB hiσ]at e2;cases e2;exact⟨u,r,.inr ⟨.inl hk,c,hc,hc'⟩⟩
   ·rw[dY (dS hj)]at e2;obtain⟨u',r',q⟩:=hl j y v' e1 e2 e3;refine⟨u',r',?_⟩;rcases q with q|⟨k,c',e,z'⟩
    ·exact .inl q
    ·refine .inr ⟨k,c',e,z'.sameBut hs ?_⟩;rintro rfl;exact hj (Cw hN e1 (I.ok.inj _ _ _ e hc ▸ hi))
  ·by_cases hcc:c'=c
   ·subst hcc;exact⟨_,hc'⟩
   ·obtain⟨w2,z2⟩:=I.cell y c' e;exact⟨w2,z2.sameBut hs hcc⟩
  ·obtain⟨e,n,ne,nf,d⟩:=I.pin p hp;refine⟨(hs.2 p.1 ?_).trans e,n,ne,nf,d⟩;intro q;rw[q,hoc]at e;have q':oc=p.2:=fj e;exact d w' (by rw[<- q'];exact Ln)
theorem Do{M:Model}{A:br}{E:ag->ak->Prop}{i:Nat}{x:Str}{v:V}{u:ag}{Q:Unit->ak->Prop}(I:Inv X af σ H s)(hN:X.N.Nodup)(hi:X.N[i]? = ab x)(hx:Loc X.env.scope x)(r:RelV v u)
 (h:∀s',Inv X af (σ.set i (ab v)) H s'->Q () s') (hf:X.fn x=true\/X.env.scope.names.lookup x=ab .local:=by first|exact .inl rfl|exact .inr rfl|assumption):wpAny M A (storeName X.env x u) Q E s:=
 CN I hN hi hx r (λs' I' _=>h s' I') hf
theorem Inv.call'{s':ak}{ch:List ah}(I:Inv X af σ H s)(ho:s'.os=s.os)(u:Un (frs X.stack) ch H H' s.heap s'.heap)(hok:cz X.prog X.w H' s'.heap)(hg:kq s'.gens)
 (hch:∀b∈ch,(b∈X.ex\/X.s₀.heap.objs.size<=b)/\b≠X.env.locals/\(∀x c,X.env.cells.lookup x=ab c->c≠b)/\∀p∈X.pn++af,p.1≠b):Inv X af σ H' s':=by
 obtain⟨h',g',d',t',o'⟩:=s';have e:o'=s.os:=ho;subst e;exact I.call (g':=g') (t':=t') (d':=d') u hok hg hch
end
abbrev XK:=ag->Option ah->Hp->Prop
abbrev St:=List (Option V)
abbrev VK:=V->Hp->Prop
abbrev TE:=St->Hp->VK->Prop
abbrev TT:=St->Hp->(Bool->Hp->Prop)->Prop
abbrev TA:=St->Hp->(List V->Hp->Prop)->Prop
structure Ends where
 nx:St->Hp->Prop
 rt:VK
 bk:St->Hp->Prop:=λ_ _=>False
 ct:St->Hp->Prop:=λ_ _=>False
abbrev TS:=Ends->St->Hp->Prop
def EP(X:Cx)(af:List (ah×Obj))(σ:St)(Q:VK)(u:ag)(s':ak):Prop:=∃v H',Inv X af σ H' s'/\RelV v u/\Q v H'
def TP(X:Cx)(af:List (ah×Obj))(σ:St)(Q:Bool->Hp->Prop)(b:Bool)(s':ak):Prop:=∃H',Inv X af σ H' s'/\Q b H'
def AP(X:Cx)(af:List (ah×Obj))(σ:St)(Q:List V->Hp->Prop)(us:List ag)(s':ak):Prop:=∃vs H',Inv X af σ H' s'/\Vals vs us/\Q vs H'
def SP(X:Cx)(af:List (ah×Obj))(D:Ends)(f:Flow)(s':ak):Prop:=
 match f with
 |.next=>∃σ' H',Inv X af σ' H' s'/\D.nx σ' H'
 |.brk=>∃σ' H',Inv X af σ' H' s'/\D.bk σ' H'
 |.cont=>∃σ' H',Inv X af σ' H' s'/\D.ct σ' H'
 |.ret u=>∃v σ' H',Inv X af σ' H' s'/\RelV v u/\D.rt v H'
def PE(X:Cx)(e:aO)(t:TE):Prop:=∀(af:List (ah×Obj)) (s:ak) (σ:St) (H:Hp) (Q:VK),Inv X af σ H s->t σ H Q->wpAny (model X.prog X.w) X.A (eval e X.env) (EP X af σ Q) X.xe s
def PT(X:Cx)(e:aO)(t:TT):Prop:=∀(af:List (ah×Obj)) (s:ak) (σ:St) (H:Hp) (Q:Bool->Hp->Prop),Inv X af σ H s->t σ H Q->wpAny (model X.prog X.w) X.A (isTrue e X.env (eval e X.env)) (TP X af σ Q) X.xe s
def PW(X:Cx)(e:aO)(t:TT):Prop:=∀(whole:Sem ag) (af:List (ah×Obj)) (s:ak) (σ:St) (H:Hp) (Q:Bool->Hp->Prop),Inv X af σ H s->t σ H Q->wpAny (model X.prog X.w) X.A (isTrue e X.env whole) (TP X af σ Q) X.xe s
theorem PW.pt{X:Cx}{e:aO}{t:TT}(h:PW X e t):PT X e t:=h _
def PA(X:Cx)(es:List aO)(t:TA):Prop:=∀(pos:Pos) (af:List (ah×Obj)) (s:ak) (σ:St) (H:Hp) (Q:List V->Hp->Prop),Inv X af σ H s->t σ H Q->wpAny (model X.prog X.w) X.A (spliced (backTo pos (starEach es X.env))) (AP X af σ Q) X.xe s
def PS(X:Cx)(st:bD)(t:TS):Prop:=∀(af:List (ah×Obj)) (s:ak) (σ:St) (H:Hp) (D:Ends),Inv X af σ H s->t D σ H->wpAny (model X.prog X.w) X.A (exec st X.env) (SP X af D) X.xe s
def gF(X:Cx)(st:List bD)(t:TS):Prop:=∀(af:List (ah×Obj)) (s:ak) (σ:St) (H:Hp) (D:Ends),Inv X af σ H s->t D σ H->wpAny (model X.prog X.w) X.A (execs st X.env) (SP X af D) X.xe s
theorem aK{α:Type}{t:Sem α}{Q Q':α->ak->Prop}{M:Model}{A:br}{E:ag->ak->Prop}{s:ak}(h:wpAny M A t Q E s)(hQ:∀a s,Q a s->Q' a s):wpAny M A t Q' E s:=gI h hQ λ_ _ x=>x
section
variable{X:Cx}
def cZ(i:Nat):TE:=λσ H Q=>∃v,σ[i]? = ab (ab v)/\Q v H
def tC(v:V):TE:=λ_ H Q=>Q v H
theorem F8{i:Nat}{x:Str}{pos:Pos}(hN:X.N[i]? = ab x)(hv:qS X.env.scope x)(hd:(x==("__debug__" : Str))=false:=by decide)(hcd:(x==("__classdict__" : Str))=false:=by decide):PE X (.Name x pos) (cZ i):=by
 intro af s σ H Q I h;obtain⟨v,e,h⟩:=h;obtain⟨m,hn,hl⟩:=I.loc;obtain⟨u,r,l⟩:=hl i x v hN e hv;have fin:EP X af σ Q u s:=⟨v,H,I,r,h⟩;rcases l with ⟨hk,hm⟩|⟨hk,c,hc,hcell⟩
 ·exact wpAny_Name (wpAny_loadName_local I.ok.kind hk hn hm fin) hd
 ·rcases hk with hk|hk
  ·exact wpAny_Name (wpAny_loadName_cell I.ok.kind hk hc hcell fin) hd
  ·exact wpAny_Name (wpAny_loadName_free I.ok.kind hk hc hcell fin hcd) hd
theorem aC{i j pos}:PE X (.Constant (.int i) j pos) (tC (.int i)):=λ_ _ _ H _ I h=>wpAny_Constant_int ⟨.int i,H,I.tok _,⟨_,rfl⟩,h⟩
theorem js{b j pos}:PE X (.Constant (.bool b) j pos) (tC (.bl b)):=λ_ _ _ H _ I h=>Constant_bool ⟨.bl b,H,I,rfl,h⟩
theorem uE{x j pos}:PE X (.Constant (.str x) j pos) (tC (.str x)):=λ_ _ _ H _ I h=>Calls.Constant_str ⟨.str x,H,I.tok _,⟨_,rfl⟩,h⟩
def Gl(X:Cx)(x:Str):Prop:=X.env.kindOf x=ab .globalImplicit
theorem GZ{E:ag->ak->Prop}{af:List (ah×Obj)}{s:ak}{σ:St}{H:Hp}{x:Str}{u:ag}{pos:Pos}{Q:ag->ak->Prop}(I:Inv X af σ H s)(hg:Gl X x)(hm:X.mg x=ab u)(h:Q u s)
 (hd:(x==("__debug__" : Str))=false:=by decide):wpAny (model X.prog X.w) X.A (eval (.Name x pos) X.env) Q E s:=
 ED I.ok.kind hg (Calls.loadGlobal_global (by rw[I.ok.glob];exact I.mod.glob.keeps I.bk) hm h) hd
theorem nE{E:ag->ak->Prop}{af:List (ah×Obj)}{s:ak}{σ:St}{H:Hp}{x:Str}{u:ag}{pos:Pos}{Q:ag->ak->Prop}(I:Inv X af σ H s)(hg:Gl X x)(hm:X.mg x=ae)(hv:bootBuiltins x=ab u)(h:Q u s)
 (hn:x ≠ "__name__" := by decide) (hd:(x==("__debug__" : Str))=false:=by decide):wpAny (model X.prog X.w) X.A (eval (.Name x pos) X.env) Q E s:=by
 obtain⟨mb,h1,h2⟩:=I.mod.blt;exact ED I.ok.kind hg (Calls.loadGlobal_builtin (by rw[I.ok.glob];exact I.mod.glob.keeps I.bk) hm (by rw[I.ok.blt];exact h1.keeps I.bk) ((h2 x hn).trans hv) h) hd
theorem Fj{x:Str}{v:V}{u:ag}{pos:Pos}(hg:Gl X x)(hm:X.mg x=ae)(hv:bootBuiltins x=ab u)(r:RelV v u)(hn:x ≠ "__name__" := by decide)(hd:(x==("__debug__" : Str))=false:=by decide):PE X (.Name x pos) (tC v):=λ_ _ _ H _ I h=>nE I hg hm hv ⟨v,H,I,r,h⟩ hn hd
variable{a b:aO}{ta tb:TE}{pos:Pos}
def PC(X:Cx)(op:CmpOp)(a b:aO)(t:TE):Prop:=
 ∀(af:List (ah×Obj)) (s:ak) (σ:St) (H:Hp) (Q:VK),Inv X af σ H s->t σ H Q ->
  wpAny (model X.prog X.w) X.A (eval a X.env) (λv s₁=>wpAny (model X.prog X.w) X.A (eval b X.env) (λu s₂=>wpAny (model X.prog X.w) X.A (compareOp op v u) (EP X af σ Q) X.xe s₂) X.xe s₁) X.xe s
def tB(t:TE):TT:=λσ H Q=>t σ H λx H1=>∃c,x=.bl c/\Q c H1
theorem Jt{op:CmpOp}{t:TE}(h:PC X op a b t)(h1:behindInMarks op b=false:=by first|exact LX _ (by decide) (by decide)|rfl):PT X (.Compare a [op] [b] pos) (tB t):=by intro af s σ H Q I hw;refine wpAny_isTrue_Compare1 (aK (h af s σ H _ I hw) λv s1 h1=>aK h1 λu s2 h2=>aK h2 λc s3 ⟨x,H1,I1,r1,q1⟩=>?_) h1;obtain⟨d,rfl,q⟩:=q1;cases r1;exact om ⟨H1,I1,q⟩
theorem jr{e:aO}{t:TE}(h:PE X e t)(he:∀whole,isTrue e X.env whole=(do let v <- whole;standAt e.pos;holding [v] (truthy v)):=by intro _;rfl):PT X e (tB t):=by intro af s σ H Q I hw;refine isTrue_plain (aK (h af s σ H _ I hw) λv s1 ⟨x,H1,I1,r1,q1⟩=>?_) (he _);obtain⟨d,rfl,q⟩:=q1;cases r1;exact om ⟨H1,I1,q⟩
variable{tA tB':TT}{rest:List aO}
def CM(t u:TT):TT:=λσ H Q=>t σ H λc H1=>if c=true then u σ H1 Q else Q false H1
def CU(t u:TT):TT:=λσ H Q=>t σ H λc H1=>if c=true then Q true H1 else u σ H1 Q
def C5(t:TT):TT:=λσ H Q=>t σ H λc H1=>Q (!c) H1
theorem pw_and1(ha:PT X a tA):PW X (.BoolOp .And [a] pos) tA:=by
 intro wh af s σ H Q I h;refine isTrue_and (aK (ha af s σ H Q I h) λc s1 e=>?_);cases c with
 |true=>exact isTrue_and_nil e
 |false=>exact e
theorem pw_or1(ha:PT X a tA):PW X (.BoolOp .Or [a] pos) tA:=by
 intro wh af s σ H Q I h;refine isTrue_or (aK (ha af s σ H Q I h) λc s1 e=>?_);cases c with
 |false=>exact isTrue_or_nil e
 |true=>exact e
theorem pw_and(ha:PT X a tA)(hb:PW X (.BoolOp .And (b::rest) pos) tB'):PW X (.BoolOp .And (a::b::rest) pos) (CM tA tB'):=by
 intro wh af s σ H Q I h;refine isTrue_and (aK (ha af s σ H _ I h) λc s1 ⟨H1,I1,q1⟩=>?_);cases c with
 |true=>exact hb wh af s1 σ H1 Q I1 q1
 |false=>exact⟨H1,I1,q1⟩
theorem pw_or(ha:PT X a tA)(hb:PW X (.BoolOp .Or (b::rest) pos) tB'):PW X (.BoolOp .Or (a::b::rest) pos) (CU tA tB'):=by
 intro wh af s σ H Q I h;refine isTrue_or (aK (ha af s σ H _ I h) λc s1 ⟨H1,I1,q1⟩=>?_);cases c with
 |true=>exact⟨H1,I1,q1⟩
 |false=>exact hb wh af s1 σ H1 Q I1 q1
theorem qi(ha:PT X a tA):PT X (.UnaryOp .Not a pos) (C5 tA):=by intro af s σ H Q I h;exact isTrue_not (ha af s σ H (λc H1=>Q (!c) H1) I h)
def y6(ta tb:TE):TE:=λσ H Q=>ta σ H λx H1=>∃c,x=.bl c/\if c=true then tb σ H1 Q else Q (.bl false) H1
def Cu(ta tb:TE):TE:=λσ H Q=>ta σ H λx H1=>∃c,x=.bl c/\if c=true then Q (.bl true) H1 else tb σ H1 Q
theorem wM{op}{t:TE}(h:PE X a t):PE X (.BoolOp op [a] pos) t:=λaf s σ H Q I hw=>BoolOp_one (h af s σ H Q I hw)
theorem HE(ha:PE X a ta)(hb:PE X (.BoolOp .And (b::rest) pos) tb):PE X (.BoolOp .And (a::b::rest) pos) (y6 ta tb):=by
 intro af s σ H Q I h;refine BoolOp_and (aK (ha af s σ H _ I h) λv s1 ⟨x,H1,I1,r1,q1⟩=>?_);obtain⟨c,rfl,q1⟩:=q1;cases r1;refine om ?_;cases c with
 |true=>exact hb af s1 σ H1 Q I1 q1
 |false=>exact⟨.bl false,H1,I1,rfl,q1⟩
theorem y4(ha:PE X a ta)(hb:PE X (.BoolOp .Or (b::rest) pos) tb):PE X (.BoolOp .Or (a::b::rest) pos) (Cu ta tb):=by
 intro af s σ H Q I h;refine BoolOp_or (aK (ha af s σ H _ I h) λv s1 ⟨x,H1,I1,r1,q1⟩=>?_);obtain⟨c,rfl,q1⟩:=q1;cases r1;refine om ?_;cases c with
 |false=>exact hb af s1 σ H1 Q I1 q1
 |true=>exact⟨.bl true,H1,I1,rfl,q1⟩
end
def cI(K:aB)(H:Hp)(a:ah)(xs:List V):Prop:=
 Rd H a (.lst xs) \/
  ∃(o:Obj) (ai:Array ag) (n:Nat),K.lookup a=ab o/\o.cls=.type "list" /\ o.dict=ae/\o.data=.seq ai n/\ai.size<=sizeLine/\Vals xs ai.toList
def eM(K:aB)(H:Hp)(a:ah)(xs:List V):Prop:=
 Rd H a (.tup xs) \/
  ∃(o:Obj) (ai:Array ag) (n:Nat),K.lookup a=ab o/\o.cls=.type "tuple" /\ o.data=.seq ai n/\ai.size<=sizeLine/\Vals xs ai.toList
def Lf:ag->Option V
 |.none=>ab .non
 |.bool b=>ab (.bl b)
 |.int i _=>ab (.int i)
 |.str x _=>ab (.str x)
 |.bytes b _=>ab (.byt b)
 |.float b _=>ab (.flt b)
 |.ref a=>ab (.ref a)
 |.type n=>ab (.ty n)
 |_=>ae
theorem RelV.abs{x:V}{u:ag}(r:RelV x u):Lf u=ab x:=by
 cases x with
 |non=>cases r;rfl
 |bl _=>cases r;rfl
 |int _=>obtain⟨t,rfl⟩:=r;rfl
 |str _=>obtain⟨t,rfl⟩:=r;rfl
 |byt _=>obtain⟨t,rfl⟩:=r;rfl
 |flt _=>obtain⟨t,rfl⟩:=r;rfl
 |ref _=>cases r;rfl
 |ty _=>cases r;rfl
theorem RelV.inj{x y:V}{u:ag}(r:RelV x u)(q:RelV y u):x=y:=fj (r.abs.symm.trans q.abs)
theorem Vals.inj:∀{xs ys:List V} {us:List ag},Vals xs us->Vals ys us->xs=ys
 |_,_,_,.nil,.nil=>rfl
 |_,_,_,.cons r t,.cons r' t'=>by rw[r.inj r',Vals.inj t t']
section
variable{X:Cx}{af:List (ah×Obj)}{σ:St}{H:Hp}{s:ak}{a:ah}{xs ys:List V}
theorem Inv.list(I:Inv X af σ H s)(h:cI X.K H a xs):∃ai:List ag,Vals xs ai/\PlainL s.heap a ai.toArray/\xs.length<=sizeLine:=by
 rcases h with h|⟨o,ai,n,hk,hc,hd,hs,hz,r⟩
 ·obtain⟨z,ai,n,r,e⟩:=h.ok I.hok;exact⟨ai,r,⟨_,n,e,rfl,rfl,rfl⟩,z⟩
 ·refine⟨ai.toList,r,⟨o,n,I.eX a o hk,hc,hd,by simpa using hs⟩,?_⟩;have e:=r.length;simp only[Ez]at e;omega
theorem Inv.tuple(I:Inv X af σ H s)(h:eM X.K H a xs):∃ai:List ag,Vals xs ai/\IsTup s.heap a ai.toArray/\xs.length<=sizeLine:=by
 rcases h with h|⟨o,ai,n,hk,hc,hs,hz,r⟩
 ·obtain⟨z,ai,r,p⟩:=h.ok I.hok;exact⟨ai,r,p.tup,z⟩
 ·refine⟨ai.toList,r,⟨o,I.eX a o hk,hc,n,by simpa using hs⟩,?_⟩;have e:=r.length;simp only[Ez]at e;omega
theorem Inv.rJ(I:Inv X af σ H s)(h:cI X.K H a xs)(h':cI X.K H a ys):xs=ys:=by
 obtain⟨ai,r,⟨o,n,e,_,_,d⟩,_⟩:=I.list h;obtain⟨its',r',⟨o',n',e',_,_,d'⟩,_⟩:=I.list h';rw[e]at e';cases e';rw[d]at d';injection d' with d1 _;have:ai=its':=by simpa using congrArg Array.toList d1
 subst this;exact r.inj r'
theorem Inv.u7(I:Inv X af σ H s)(h:eM X.K H a xs)(h':eM X.K H a ys):xs=ys:=by
 obtain⟨ai,r,⟨o,e,_,n,d⟩,_⟩:=I.tuple h;obtain⟨its',r',⟨o',e',_,n',d'⟩,_⟩:=I.tuple h';rw[e]at e';cases e';rw[d]at d';injection d' with d1 _;have:ai=its':=by simpa using congrArg Array.toList d1
 subst this;exact r.inj r'
end
abbrev Cx.wish(X:Cx)(E:ag->ak->Prop):Cx:={ X with xe:=E }
abbrev Cx.nH(X:Cx):Cx:=X.wish λ_ _=>False
theorem Cx.Ok.wish{X:Cx}(ok:X.Ok)(E:ag->ak->Prop):(X.wish E).Ok:=⟨ok.mod,ok.kind,ok.glob,ok.blt,ok.above,ok.inj,ok.has,ok.cab,ok.hd,ok.frames,ok.stk,ok.exf,ok.bs,ok.bsz,ok.qM,ok.ui,ok.iZ,ok.frf⟩
theorem Cx.Ok.kA{X:Cx}{E:ag->ak->Prop}(ok:(X.wish E).Ok):X.Ok:=⟨ok.mod,ok.kind,ok.glob,ok.blt,ok.above,ok.inj,ok.has,ok.cab,ok.hd,ok.frames,ok.stk,ok.exf,ok.bs,ok.bsz,ok.qM,ok.ui,ok.iZ,ok.frf⟩
section
variable{X:Cx}{af:List (ah×Obj)}{σ:St}{H:Hp}{s:ak}{E:ag->ak->Prop}
theorem Inv.wish(I:Inv X af σ H s)(E:ag->ak->Prop):Inv (X.wish E) af σ H s:=⟨I.ok.wish E,I.os,I.bare,I.base,I.loc,I.cell,I.free,I.i9,I.pin,I.hok,I.len⟩
theorem Inv.kA(I:Inv (X.wish E) af σ H s):Inv X af σ H s:=⟨I.ok.kA,I.os,I.bare,I.base,I.loc,I.cell,I.free,I.i9,I.pin,I.hok,I.len⟩
theorem SP.kA{D:Ends}{f:Flow}{s':ak}(h:SP (X.wish E) af D f s'):SP X af D f s':=by
 cases f with
 |next=>obtain⟨σ',H',I,q⟩:=h;exact⟨σ',H',I.kA,q⟩
 |brk=>obtain⟨σ',H',I,q⟩:=h;exact⟨σ',H',I.kA,q⟩
 |cont=>obtain⟨σ',H',I,q⟩:=h;exact⟨σ',H',I.kA,q⟩
 |ret u=>obtain⟨v,σ',H',I,r,q⟩:=h;exact⟨v,σ',H',I.kA,r,q⟩
theorem gF.nH{st:List bD}{t:TS}(h:gF X.nH st t):gF X st t:=λaf s σ H D I hw=>
 gI (h af s σ H D (I.wish _) hw) (λ_ _ q=>q.kA) λ_ _ z=>jM z
end
section
variable{X:Cx}{st:bD}{rest:List bD}{t u:TS}{e:aO}{te:TE}{pos:Pos}
def wj:TS:=λD σ H=>D.nx σ H
def kJ(t u:TS):TS:=λD σ H=>t { D with nx:=u D } σ H
theorem eB:gF X [] wj:=λ_ _ σ H _ I h=>xz ⟨σ,H,I,h⟩
theorem aY(h1:PS X st t)(h2:gF X rest u):gF X (st::rest) (kJ t u):=by
 intro af s σ H D I h;refine wpAny_execs_cons (aK (h1 af s σ H { D with nx:=u D } I h) λf s1 q=>?_);cases f with
 |next=>
  obtain⟨σ',H',I',q⟩:=q;exact h2 af s1 σ' H' D I' q
 |ret v=>exact q
 |brk=>exact q
 |cont=>exact q
theorem ba(h1:PS X st t):gF X [st] t:=by
 intro af s σ H D I h;refine wpAny_execs_cons (aK (h1 af s σ H D I h) λf s1 q=>?_);cases f with
 |next=>exact xz q
 |ret v=>exact q
 |brk=>exact q
 |cont=>exact q
theorem Inv.quiet{af:List (ah×Obj)}{σ:St}{H:Hp}{s:ak}(I:Inv X af σ H s):interactive X.env=false:=by simp[interactive,I.ok.kind]
def iX(te:TE):TS:=λD σ H=>te σ H λ_ H1=>D.nx σ H1
theorem gB(he:PE X e te)(hs:swapsWith e ae pos.line X.env=pure false:=by rfl):PS X (.Expr e pos) (iX te):=by intro af s σ H D I h;exact wpAny_Expr_any (aK (he af s σ H _ I h) λv s1 ⟨x,H1,I1,r1,q1⟩=>⟨σ,H1,I1,q1⟩) I.quiet hs
def rS(te:TE):TS:=λD σ H=>te σ H D.rt
theorem c6(he:PE X e te):PS X (.Return (ab e) pos) (rS te):=by intro af s σ H D I h;exact wpAny_Return_some (aK (he af s σ H _ I h) λv s1 ⟨x,H1,I1,r1,q1⟩=>⟨x,σ,H1,I1,r1,q1⟩)
def vW(c:TT)(t u:TS):TS:=λD σ H=>c σ H λb H1=>if b=true then t D σ H1 else u D σ H1
theorem dO{c:aO}{a b:List bD}{tc:TT}(hc:PT X c tc)(ha:gF X a t)(hb:gF X b u):PS X (.If c a b pos) (vW tc t u):=by
 intro af s σ H D I h;refine wpAny_If (aK (hc af s σ H _ I h) λd s1 ⟨H1,I1,q1⟩=>?_);cases d with
 |true=>exact ha af s1 σ H1 D I1 q1
 |false=>exact hb af s1 σ H1 D I1 q1
def C7:TS:=λ_ _ _=>False
theorem DF:PS X st C7:=λ_ _ _ _ _ _ h=>h.elim
end
abbrev TG:=V->St->Hp->(St->Hp->Prop)->Prop
abbrev jy:=List V->St->Hp->(St->Hp->Prop)->Prop
def PG(X:Cx)(target:aO)(t:TG):Prop:=
 ∀(af:List (ah×Obj)) (s:ak) (σ:St) (H:Hp) (v:V) (u:ag) (Q:St->Hp->Prop),Inv X af σ H s->RelV v u->t v σ H Q ->
  wpAny (model X.prog X.w) X.A (assign target X.env u) (λ_ s'=>∃σ' H',Inv X af σ' H' s'/\Q σ' H') X.xe s
def pK(X:Cx)(ts:List aO)(t:jy):Prop:=
 ∀(af:List (ah×Obj)) (s:ak) (σ:St) (H:Hp) (vs:List V) (us:List ag) (Q:St->Hp->Prop),Inv X af σ H s->Vals vs us->t vs σ H Q ->
  wpAny (model X.prog X.w) X.A (assignInOrder ((assignEach ts X.env).map (·.2)) us) (λ_ s'=>∃σ' H',Inv X af σ' H' s'/\Q σ' H') X.xe s
abbrev vt:=V->V->V->Hp->(Hp->Prop)->Prop
def zF(X:Cx)(t:vt):Prop:=
 ∀(af:List (ah×Obj)) (s:ak) (σ:St) (H:Hp) (o i v:V) (ov iv u:ag) (Q:Hp->Prop),Inv X af σ H s->RelV o ov->RelV i iv->RelV v u->t o i v H Q ->
  wpAny (model X.prog X.w) X.A (setItem ov iv u) (λ_ s'=>∃H',Inv X af σ H' s'/\Q H') X.xe s
section
variable{X:Cx}{pos:Pos}
def fu(i:Nat):TG:=λv σ H Q=>Q (σ.set i (ab v)) H
theorem gP{i:Nat}{x:Str}(hN:X.N.Nodup)(hi:X.N[i]? = ab x)(hx:Loc X.env.scope x)(hf:X.fn x=true\/X.env.scope.names.lookup x=ab .local:=by first|exact .inl rfl|exact .inr rfl|assumption):PG X (.Name x pos) (fu i):=by intro af s σ H v u Q I r h;exact wpAny_assign_Name (Do I hN hi hx r (λs' I'=>⟨_,H,I',h⟩) hf)
def AY:jy:=λvs σ H Q=>vs=[]/\Q σ H
def yT(t:TG)(u:jy):jy:=λvs σ H Q=>∃v r,vs=v::r/\t v σ H λσ' H'=>u r σ' H' Q
theorem vC:pK X [] AY:=by intro af s σ H vs us Q I r h;obtain⟨e,h⟩:=h;subst e;cases r;exact assignInOrder_nil ⟨σ,H,I,h⟩
theorem lX{e:aO}{es:List aO}{t:TG}{u:jy}(h1:PG X e t)(h2:pK X es u)
 (hs:(assignEach (e::es) X.env).map (·.2)=assign e X.env::(assignEach es X.env).map (·.2):=by rfl):pK X (e::es) (yT t u):=by
 intro af s σ H vs us Q I r h;obtain⟨v,vr,e1,h⟩:=h;subst e1;cases r with
 |cons r rr=>
  rw[hs];refine assignInOrder_cons (aK (h1 af s σ H _ _ _ I r h) λ_ s1 ⟨σ1,H1,I1,q1⟩=>?_);exact h2 af s1 σ1 H1 _ _ Q I1 rr q1
def DH(K:aB)(n:Nat)(t:jy):TG:=λv σ H Q=>∃a xs,v=.ref a/\eM K H a xs/\xs.length=n/\t xs σ H Q
theorem Cq{es:List aO}{k:Nat}{t:jy}{n:Nat}(hc:X.calm=true)(h:pK X es t)
 (hn:(assignEach es X.env).length=n:=by rfl) (hst:(assignEach es X.env).findIdx? (·.1)=ae:=by rfl):PG X (.Tuple es k pos) (DH X.K n t):=by
 intro af s σ H v u Q I r hw;obtain⟨a,xs,e1,hq,hl,hw⟩:=hw;subst e1;cases r;obtain⟨ai,rv,ht,hz⟩:=I.tuple hq;refine assign_Tuple_tuple (I.ok.hd hc) ht (by simp[hn,<- hl,rv.length]) hst λh' hx=>?_;have I1:Inv X af σ H { s with heap:=h' }:=I.kept (t':=s.toks) λb o e=>hx b o (gs (bH e)) e;exact h af _ σ H xs _ Q I1 (by simpa using rv) hw
def B5(to ti:TE)(t:vt):TG:=λv σ H Q=>to σ H λo H1=>ti σ H1 λi H2=>t o i v H2 λH3=>Q σ H3
theorem Kk{o i:aO}{to ti:TE}{t:vt}(ho:PE X o to)(hi:PE X i ti)(hs:zF X t)
 (ha:∀v,assign (.Subscript o i pos) X.env v=(do
  let ov <- holding [v] (eval o X.env)
  let iv <- holding [v,ov] (eval i X.env)
  standAt pos
  holding [v,ov,iv] (setItem ov iv v)
  release [v,ov,iv] []):=by intro _;rfl):PG X (.Subscript o i pos) (B5 to ti t):=by
 intro af s σ H v u Q I r h;rw[ha];refine aA (jE (aK (ho af s σ H _ I h) λov s1 ⟨x,H1,I1,r1,q1⟩=>?_));refine aA (jE (aK (hi af s1 σ H1 _ I1 q1) λiv s2 ⟨y,H2,I2,r2,q2⟩=>?_));refine aA (tT (aA (jE (aK (hs af s2 σ H2 x y v ov iv u _ I2 r1 r2 r q2) λ_ s3 ⟨H3,I3,q3⟩=>?_))));exact wpAny_release ⟨σ,H3,I3,q3⟩
def iq(te:TE)(g:TG):TS:=λD σ H=>te σ H λx H1=>g x σ H1 D.nx
theorem Cg{tg e:aO}{te:TE}{g:TG}(he:PE X e te)(hg:PG X tg g)(hs:swapsWithSole [tg] e pos.line X.env=pure false:=by rfl)(hw:swappedStores [tg] e X.env=pure ae:=by rfl)
 (h1:(assignEach [tg] X.env).map (·.2)=[assign tg X.env]:=by rfl):PS X (.Assign [tg] e pos) (iq te g):=by
 intro af s σ H D I h;refine wpAny_Assign_stores (aK (he af s σ H _ I h) λv s1 ⟨x,H1,I1,r1,q1⟩=>?_) hs hw;rw[h1];exact aK (hg af s1 σ H1 x v _ I1 r1 q1) λ_ s2 q=>q
theorem pU{i:Nat}{x:Str}{e:aO}{te:TE}{pos':Pos}(hN:X.N.Nodup)(hi:X.N[i]? = ab x)(hx:Loc X.env.scope x)(he:PE X e te)(hs:swapsWith e (ab (.Name x pos')) pos.line X.env=pure false:=by rfl)(hf:X.fn x=true\/X.env.scope.names.lookup x=ab .local:=by first|exact .inl rfl|exact .inr rfl|assumption) :
 PS X (.Assign [.Name x pos'] e pos) (iq te (fu i)):=by
 intro af s σ H D I h;refine wpAny_Assign_Name (aK (he af s σ H _ I h) λv s1 ⟨y,H1,I1,r1,q1⟩=>?_) hs;exact Do I1 hN hi hx r1 (λs2 I2=>⟨_,H1,I2,q1⟩) hf
end
structure It where
 go:Nat->Hp->Prop
 yld:Nat->Hp->V->Hp->Prop
 stop:Nat->Hp->Prop
def gZ(X:Cx)(af:List (ah×Obj))(H:Hp)(b:ah):Prop:=H b=ae/\b≠X.env.locals/\b∉X.fs/\(b∈X.ex\/X.s₀.heap.objs.size<=b)/\(∀x c,X.env.cells.lookup x=ab c->c≠b)/\∀p∈X.pn++af,p.1≠b
theorem Inv.iO{X:Cx}{af:List (ah×Obj)}{σ:St}{H H':Hp}{s:ak}{b:ah}(I:Inv X af σ H s)(hb:s.heap.objs.size<=b)(hn:H' b=ae):gZ X af H' b:=by
 refine⟨hn,tX (fR I.lt hb),I.Lc hb,.inr (d5 I.sz hb),λx c e z=>?_,λp hp z=>?_⟩
 ·obtain⟨v,q⟩:=I.cell x c e;exact absurd (fR q.lt (by rw[z];exact hb)) (jG _)
 ·exact absurd (fR (bH (I.pin p hp).1) (by rw[z];exact hb)) (jG _)
structure Turn(P:bb)(w:aT)(K:aB)(tg:aO)(J:It)(fp:List ah)(it:ah)(tn:Nat->aI->Prop):Prop where
 mem:it∈fp
 obj:∀i h,tn i h->∀b∈fp,∃o,h.get? b=ab o/\∀v,o.data≠.cell v
 keep:∀i h h',tn i h->(∀b∈fp,∀o,h.get? b=ab o->h'.get? b=ab o)->tn i h'
 item:∀(X:Cx),X.prog=P->X.w=w->X.K=K->X.calm=true->∀(i:Nat) (af:List (ah×Obj)) (s:ak) (σ:St) (H:Hp) (E:ag->ak->Prop),Inv X af σ H s->(∀b∈fp,gZ X af H b)->tn i s.heap->J.go i H ->
  wpAny (model P w) X.A (pyNext (.ref it)) (λr s1=>∃u,r=ab u /\
   wpAny (model P w) X.A (letOwnedTupleGo tg (.ref it) u) (λ_ s2=>∃x H',Inv X af σ H' s2/\RelV x u/\J.yld i H x H'/\tn (i+1) s2.heap/\∀b∈fp,H' b=ae) E s1) E s
 done:∀(X:Cx),X.prog=P->X.w=w->X.K=K->X.calm=true->∀(i:Nat) (af:List (ah×Obj)) (s:ak) (σ:St) (H:Hp) (E:ag->ak->Prop),Inv X af σ H s->(∀b∈fp,gZ X af H b)->tn i s.heap->J.stop i H ->
  wpAny (model P w) X.A (pyNext (.ref it)) (λr s1=>r=ae/\Inv X af σ H s1) E s
 self:∀(A:br) (i:Nat) (s:ak) (Q:ag->ak->Prop) (E:ag->ak->Prop),tn i s.heap->Q (.ref it) s->wpAny (model P w) A (pyIter (.ref it)) Q E s
abbrev TI:=St->Hp->(It->Hp->Prop)->Prop
def PIE(X:Cx)(af:List (ah×Obj))(σ:St)(tg:aO)(R:It->Hp->Prop)(itv:ag)(s2:ak):Prop:=∃(it:ah) (fp:List ah) (tn:Nat->aI->Prop) (J:It) (H':Hp),itv=.ref it/\Inv X af σ H' s2/\Turn X.prog X.w X.K tg J fp it tn/\tn 0 s2.heap/\(∀b∈fp,gZ X af H' b)/\R J H'
def PI(X:Cx)(tg iter:aO)(wi:TI):Prop:=
 ∀(af:List (ah×Obj)) (s:ak) (σ:St) (H:Hp) (R:It->Hp->Prop),Inv X af σ H s->wi σ H R ->
  wpAny (model X.prog X.w) X.A (eval iter X.env) (λv s1=>wpAny (model X.prog X.w) X.A (pyIter v) (PIE X af σ tg R) X.xe s1) X.xe s
theorem r6{M:Model}{A:br}{E:ag->ak->Prop}{s:ak}{tg:aO}{it:ah}{u:ag}{o:Obj}{n:String}{vs:Array ag}{Q:Unit->ak->Prop}(ho:s.heap.get? it=ab o)(hc:o.cls=.type n)(hd:o.data=.fields vs)
 (hn:["enumerate","zip","dict_itemiterator","dict_reverseitemiterator","odict_iterator","itertools.zip_longest","itertools.pairwise"].contains n=false) (hQ:Q () s):wpAny M A (letOwnedTupleGo tg (.ref it) u) Q E s:=by
 unfold letOwnedTupleGo;cases tg<;>first
  |exact bo hQ
  | (cases u<;>first
   |exact bo hQ
   | (refine aA (wpAny_load ho ?_)
      rw[hc,hd];show wpAny M A (if(["enumerate","zip","dict_itemiterator","dict_reverseitemiterator","odict_iterator","itertools.zip_longest","itertools.pairwise"].contains n&&vs[0]? == ab (rawInt _))=true then _ else _) Q E s;rw[ay (by intro h;rw[hn,Bool.false_and]at h;cases h)];exact bo hQ))
def oG(K:aB)(a:ah):It:=⟨λi H=>∃xs x,cI K H a xs/\xs[i]? = ab x,λi H x H'=>H'=H/\∀xs,cI K H a xs->xs[i]? = ab x,λi H=>∃xs,cI K H a xs/\xs.length<=i⟩
def oV(K:aB)(a:ah):It:=⟨λi H=>∃xs x,eM K H a xs/\xs[i]? = ab x,λi H x H'=>H'=H/\∀xs,eM K H a xs->xs[i]? = ab x,λi H=>∃xs,eM K H a xs/\xs.length<=i⟩
def nr(lo:Int)(n:Nat):It:=⟨λi _=>i<n,λi H x H'=>H'=H/\x=.int (lo+i),λi _=>n<=i⟩
theorem G5{P:bb}{w:aT}{K:aB}{tg:aO}(a it:ah):Turn P w K tg (oG K a) [it] it (λi h=>h.IsListIter it a i) where
 mem:=by simp
 obj:=λi h st b hb=>by
  have e:b=it:=by simpa using hb
  subst e;obtain⟨o,e,c,d⟩:=st;exact⟨o,e,λv z=>by rw[d]at z;cases z⟩
 keep:=λi h h' st k=>st.at λo e=>k it (by simp) o e
 item:=by intro X hP hw hK hc i af s σ H E I hf st hg;subst hP hw hK;obtain⟨xs,x,hq,hx⟩:=hg;obtain⟨ai,rv,p,hz⟩:=I.list hq;obtain⟨u,hu,ru⟩:=rv.get hx;obtain⟨f0,f1,f2,f3,f4,f5⟩:=hf it (by simp);refine Eb st p.isList (x:=u) (by simpa using hu) λh' st' sb=>?_;have I1:Inv X af σ H { s with heap:=h' }:=I.turned (t':=s.toks) (λb o hb e=>(sb.2 b hb).trans e) f0 f1 f3 f4 f5;obtain⟨o,e,c,d⟩:=id st';exact⟨u,rfl,r6 (s:={ s with heap:=h' }) e c d (by decide) ⟨x,H,I1,ru,⟨rfl,λys hy=>by rw[I.rJ hy hq];exact hx⟩,st',λb hb=>(hf b hb).1⟩⟩
 done:=by intro X hP hw hK hc i af s σ H E I hf st hg;subst hP hw hK;obtain⟨xs,hq,hx⟩:=hg;obtain⟨ai,rv,p,hz⟩:=I.list hq;obtain⟨f0,f1,f2,f3,f4,f5⟩:=hf it (by simp);have hl:=rv.length;exact wpAny_pyNext_list_end (I.ok.hd hc) st p.isList (by simp;omega) λh' eb=>⟨rfl,I.turned (t':=s.toks) (λb o hb e=>eb b o hb e) f0 f1 f3 f4 f5⟩
 self:=λ_ _ _ _ _ st h=>wpAny_pyIter_listiter st h
theorem Gp{P:bb}{w:aT}{K:aB}{tg:aO}(a it:ah):Turn P w K tg (oV K a) [it] it (λi h=>h.IsTupleIter it a i) where
 mem:=by simp
 obj:=λi h st b hb=>by
  have e:b=it:=by simpa using hb
  subst e;obtain⟨o,e,c,d⟩:=st;exact⟨o,e,λv z=>by rw[d]at z;cases z⟩
 keep:=λi h h' st k=>st.at λo e=>k it (by simp) o e
 item:=by intro X hP hw hK hc i af s σ H E I hf st hg;subst hP hw hK;obtain⟨xs,x,hq,hx⟩:=hg;obtain⟨ai,rv,p,hz⟩:=I.tuple hq;obtain⟨u,hu,ru⟩:=rv.get hx;obtain⟨f0,f1,f2,f3,f4,f5⟩:=hf it (by simp);refine wpAny_pyNext_tuple_item st (show s.heap.IsTuple a ai.toArray from p) (x:=u) (by simpa using hu) λh' st' sb=>?_;have I1:Inv X af σ H { s with heap:=h' }:=I.turned (t':=s.toks) (λb o hb e=>(sb.2 b hb).trans e) f0 f1 f3 f4 f5;obtain⟨o,e,c,d⟩:=id st';exact⟨u,rfl,r6 (s:={ s with heap:=h' }) e c d (by decide) ⟨x,H,I1,ru,⟨rfl,λys hy=>by rw[I.u7 hy hq];exact hx⟩,st',λb hb=>(hf b hb).1⟩⟩
 done:=by intro X hP hw hK hc i af s σ H E I hf st hg;subst hP hw hK;obtain⟨xs,hq,hx⟩:=hg;obtain⟨ai,rv,p,hz⟩:=I.tuple hq;obtain⟨f0,f1,f2,f3,f4,f5⟩:=hf it (by simp);have hl:=rv.length;exact wpAny_pyNext_tuple_end (I.ok.hd hc) st (show s.heap.IsTuple a ai.toArray from p) (by simp;omega) λh' eb=>⟨rfl,I.turned (t':=s.toks) (λb o hb e=>eb b o hb e) f0 f1 f3 f4 f5⟩
 self:=λ_ _ _ _ _ st h=>wpAny_pyIter_tupleiter st h
theorem Kj{P:bb}{w:aT}{K:aB}{tg:aO}(it:ah)(lo:Int)(n:Nat):Turn P w K tg (nr lo n) [it] it (λi h=>IsRangeIter h it (lo+(i:Nat)*1) ((n:Int)-(i:Nat)) 1) where
 mem:=by simp
 obj:=λi h st b hb=>by
  have e:b=it:=by simpa using hb
  subst e;exact⟨_,st,λv z=>by
   have z':Data.fields _=Data.cell v:=z;cases z'⟩
 keep:=λi h h' st k=>k it (by simp) _ st
 item:=by intro X hP hw hK hc i af s σ H E I hf st hg;subst hP hw hK;obtain⟨f0,f1,f2,f3,f4,f5⟩:=hf it (by simp);have W:=Walks.range (prog:=X.prog) (w:=X.w) (I.ok.hd hc) it lo 1 n;refine W.item i s _ _ hg st λv h' tk hv st' kk=>?_;obtain⟨t,rfl⟩:=hv;have I1:Inv X af σ H { s with heap:=h',toks:=tk }:=I.turned (λb o hb e=>kk b o (by simpa using hb) e) f0 f1 f3 f4 f5;refine⟨_,rfl,r6 (s:={ s with heap:=h',toks:=tk }) (n := "range_iterator") st' rfl rfl (by decide) ⟨.int (lo+i),H,I1,⟨t,?_⟩,⟨rfl,rfl⟩,st',λb hb=>(hf b hb).1⟩⟩;rw[Int.mul_one]
 done:=by intro X hP hw hK hc i af s σ H E I hf st hg;subst hP hw hK;obtain⟨f0,f1,f2,f3,f4,f5⟩:=hf it (by simp);exact wpAny_pyNext_range_end (I.ok.hd hc) st (by have:n<=i:=hg;omega) λh' eb=>⟨rfl,I.turned (t':=s.toks) (λb o hb e=>eb b o hb e) f0 f1 f3 f4 f5⟩
 self:=λ_ _ _ _ _ st h=>wpAny_pyIter_rangeiter st h
section
variable{X:Cx}{tg:aO}
def AC(K:aB)(tl:TE):TI:=λσ H R=>tl σ H λx H1=>∃a,x=.ref a/\(∃xs,cI K H1 a xs)/\R (oG K a) H1
def Be(K:aB)(tl:TE):TI:=λσ H R=>tl σ H λx H1=>∃a,x=.ref a/\(∃xs,eM K H1 a xs)/\R (oV K a) H1
theorem GU{l:aO}{tl:TE}(hl:PE X l tl):PI X tg l (AC X.K tl):=by
 intro af s σ H R I h;refine aK (hl af s σ H _ I h) λv s1 ⟨x,H1,I1,r1,q1⟩=>?_;obtain⟨a,e,⟨xs,hq⟩,q⟩:=q1;subst e;cases r1;obtain⟨ai,rv,p,hz⟩:=I1.list hq;refine xx p.isList ?_;refine⟨s1.heap.objs.size,[s1.heap.objs.size],_,_,H1,rfl,I1.kept (t':=s1.toks) λb o e=>cP _ e,G5 a _,⟨_,eE _ rfl,rfl,rfl⟩,λb hb=>?_,q⟩;have e:b=s1.heap.objs.size:=by simpa using hb
 subst e;exact I1.iO (bg _) (I1.hok.fresh (bg _))
theorem Jg{l:aO}{tl:TE}(hl:PE X l tl):PI X tg l (Be X.K tl):=by
 intro af s σ H R I h;refine aK (hl af s σ H _ I h) λv s1 ⟨x,H1,I1,r1,q1⟩=>?_;obtain⟨a,e,⟨xs,hq⟩,q⟩:=q1;subst e;cases r1;obtain⟨ai,rv,p,hz⟩:=I1.tuple hq;refine wpAny_pyIter_tuple (show s1.heap.IsTuple a ai.toArray from p) ?_;refine⟨s1.heap.objs.size,[s1.heap.objs.size],_,_,H1,rfl,I1.kept (t':=s1.toks) λb o e=>cP _ e,Gp a _,⟨_,eE _ rfl,rfl,rfl⟩,λb hb=>?_,q⟩;have e:b=s1.heap.objs.size:=by simpa using hb
 subst e;exact I1.iO (bg _) (I1.hok.fresh (bg _))
theorem IC{af:List (ah×Obj)}{σ:St}{H:Hp}{s:ak}{R:It->Hp->Prop}{E:ag->ak->Prop}{lo hi:Int}{t u v:Tok}{tk:Nat}(I:Inv X af σ H s)(h1:-(2 ^ 62)<=lo)(h2:lo<2 ^ 62)(h3:-(2 ^ 62)<=hi)(h4:hi<2 ^ 62)
 (q:R (nr lo (hi-lo).toNat) H):wpAny (model X.prog X.w) X.A (pyIter (.ref s.heap.objs.size)) (PIE X af σ tg R) E { s with heap:=s.heap.push { cls:=.type "range", data:=.fields #[.int lo t,.int hi u,.int 1 v] },toks:=tk }:=by
 refine wpAny_pyIter_range (IsRange.new ..) (small_one h1 h2 h3 h4) ?_;have I1:Inv X af σ H { s with heap:=s.heap.push { cls:=.type "range",data:=.fields #[.int lo t,.int hi u,.int 1 v] },toks:=tk }:=I.kept λb o e=>cP _ e;refine⟨(s.heap.push { cls:=.type "range",data:=.fields #[.int lo t,.int hi u,.int 1 v] }).objs.size,[(s.heap.push { cls:=.type "range", data:=.fields #[.int lo t,.int hi u,.int 1 v] }).objs.size],_,_,H,rfl,
  I1.kept (t':=tk) λb o e=>cP _ e,Kj _ lo (hi-lo).toNat,?_,λb hb=>?_,q⟩
 ·have e1:lo+((0:Nat):Int)*1=lo:=by simp
  have e2:(((hi-lo).toNat:Nat):Int)-((0:Nat):Int)=Builtin.Range.rangeSize lo hi 1:=by rw[rangeSize_one];split<;>omega
  show IsRangeIter _ _ (lo+((0:Nat):Int)*1) ((((hi-lo).toNat:Nat):Int)-((0:Nat):Int)) 1;rw[e1,e2];exact eE _ rfl
 ·have e:b=(s.heap.push { cls:=.type "range", data:=.fields #[.int lo t,.int hi u,.int 1 v] }).objs.size:=by simpa using hb
  subst e;exact I1.iO (bg _) (I1.hok.fresh (bg _))
def B0(ta:TA):TI:=λσ H R=>ta σ H λvs H1=>∃j:Int,vs=[.int j]/\-(2 ^ 62)<=j/\j<2 ^ 62/\R (nr 0 j.toNat) H1
theorem iU{a:aO}{ta:TA}{p pos:Pos}(hg:Gl X "range")(hm:X.mg "range" = ae)(ha:PA X [a] ta)(hs:starEach [a] X.env=[(false,eval a X.env)]:=by rfl):PI X tg (.Call (.Name "range" p) [a] [] pos) (B0 ta):=by
 intro af s σ H R I h;refine Call_ (nE I hg hm boot_range (t9 (aK (ha pos af s σ H _ I h) λus s1 ⟨vs,H1,I1,r1,q1⟩=>?_) hs rfl));obtain⟨j,e,q1,q2,q⟩:=q1;subst e;cases r1 with
 |cons r rr=>
  cases rr;obtain⟨t,rfl⟩:=r;exact call_range_1 (IC I1 (by omega) (by omega) q1 q2 (by simpa using q))
def pc(wi:TI)(g:TG)(tb:TS):TS:=λD σ H=>wi σ H λJ H1=>∃W:Nat->Nat->St->Hp->Prop,(∃m,W 0 m σ H1)/\∀i m σ H,W i m σ H ->
 (J.stop i H/\D.nx σ H)\/(J.go i H/\∃N:St->Hp->Prop,(∀σ' H',N σ' H'->∃m',m'<m/\W (i+1) m' σ' H')/\∀x H',J.yld i H x H'->g x σ H' λσ2 H2=>tb { D with nx:=N,ct:=N,bk:=D.nx } σ2 H2)
def sh(fp:List ah)(h:aI):List (ah×Obj):=fp.filterMap λb=>(h.get? b).map λo=>(b,o)
theorem nO{fp:List ah}{h:aI}{b:ah}{o:Obj}(hb:b∈fp)(e:h.get? b=ab o):(b,o)∈sh fp h:=D7.mpr ⟨b,hb,by rw[e];rfl⟩
theorem JB{fp:List ah}{h:aI}{p:ah×Obj}(hp:p∈sh fp h):p.1∈fp/\h.get? p.1=ab p.2:=by
 obtain⟨b,hb,e⟩:=D7.mp hp;cases q:h.get? b with
 |none=>rw[q]at e;cases e
 |some o=>
  rw[q]at e;have e':(b,o)=p:=fj e;subst e';exact⟨hb,q⟩
theorem Inv.pinned{af:List (ah×Obj)}{σ:St}{H:Hp}{s:ak}{fp:List ah}(I:Inv X af σ H s)(hf:∀b∈fp,gZ X af H b)(ho:∀b∈fp,∃o,s.heap.get? b=ab o/\∀v,o.data≠.cell v):Inv X (af++sh fp s.heap) σ H s:=
 I.wu λp hp=>(dZ.mp hp).elim (λz=>I.pin p (dX _ z)) λz=>by
  obtain⟨hb,e⟩:=JB z;obtain⟨f0,f1,f2,_⟩:=hf p.1 hb;obtain⟨o,e',d⟩:=ho p.1 hb;rw[e]at e';cases e';exact⟨e,f0,f1,f2,d⟩
theorem Inv.mX{af pl:List (ah×Obj)}{σ:St}{H:Hp}{s:ak}(I:Inv X (af++pl) σ H s):Inv X af σ H s:=I.wu λp hp=>I.pin p (dX _ (li _ hp))
theorem ge{iter:aO}{body:List bD}{wi:TI}{g:TG}{tb:TS}{pos:Pos}(hp:PassesOwn (model X.prog X.w) X.A X.env X.xe)(hc:X.calm=true)(hi:PI X tg iter wi)(hg:PG X tg g)(hb:gF X body tb)
 (hs:∀x,foldedSetIterable iter X.env x=pure x:=by intro _;rfl):PS X (.For tg iter body [] pos) (pc wi g tb):=by
 intro af s σ H D I h;refine wpAny_For (aK (hi af s σ H _ I h) λv s1 h1=>aK h1 λitv s2 h2=>?_) hs;obtain⟨it,fp,tn,J,H2,e,I2,T,st2,f2,W,⟨m0,w0⟩,turn⟩:=h2;subst e;have stat:∀{H':Hp},(∀b∈fp,H' b=ae)->∀b∈fp,gZ X af H' b:=λhn b hb=>⟨hn b hb,(f2 b hb).2⟩;refine codeAny_forLoop_any (λn s'=>∃i σ' H',Inv X af σ' H' s'/\tn i s'.heap/\(∀b∈fp,H' b=ae)/\W i n σ' H') ?_ m0 ⟨0,σ,H2,I2,st2,λb hb=>(f2 b hb).1,w0⟩;rintro n s3 ⟨i,σ3,H3,I3,st3,fr3,w3⟩;rcases turn i n σ3 H3 w3 with ⟨stop,qn⟩|⟨go,N,hN,step⟩
 ·refine qD hp (aK (T.done X rfl rfl rfl hc i af s3 σ3 H3 X.xe I3 (stat fr3) st3 stop) λr s4 ⟨hr,I4⟩=>?_);subst hr;exact xz ⟨σ3,H3,I4,qn⟩
 ·refine qD hp (aK (T.item X rfl rfl rfl hc i af s3 σ3 H3 X.xe I3 (stat fr3) st3 go) λr s4 ⟨u,hr,h4⟩=>?_);subst hr;refine qD hp (aK h4 λ_ s5 ⟨x,H5,I5,r5,y5,st5,fr5⟩=>?_);have I5':=I5.pinned (stat fr5) (T.obj _ _ st5);refine qD hp (aK (hg _ s5 σ3 H5 x u _ I5' r5 (step x H5 y5)) λ_ s6 ⟨σ6,H6,I6,q6⟩=>?_);refine qD hp (aK (hb _ s6 σ6 H6 _ I6 q6) λf s7 q7=>?_);have again:∀{σ7:St} {H7:Hp},Inv X (af++sh fp s5.heap) σ7 H7 s7->N σ7 H7->∃m,m<n/\∃i σ' H',Inv X af σ' H' s7/\tn i s7.heap/\(∀b∈fp,H' b=ae)/\W i m σ' H':=λ{σ7 H7} I7 n7=>by
   obtain⟨m',hm,w7⟩:=hN σ7 H7 n7;refine⟨m',hm,i+1,σ7,H7,I7.mX,T.keep _ _ _ st5 λb hb o e=>(I7.pin (b,o) (dX _ (dX _ (nO hb e)))).1,λb hb=>?_,w7⟩;obtain⟨o,e,d⟩:=T.obj _ _ st5 b hb;exact(I7.pin (b,o) (dX _ (dX _ (nO hb e)))).2.1
  cases f with
  |next=>obtain⟨σ7,H7,I7,n7⟩:=q7;exact again I7 n7
  |cont=>obtain⟨σ7,H7,I7,n7⟩:=q7;exact again I7 n7
  |brk=>obtain⟨σ7,H7,I7,q7⟩:=q7;exact⟨σ7,H7,I7.mX,q7⟩
  |ret v=>obtain⟨x7,σ7,H7,I7,r7,q7⟩:=q7;exact⟨x7,σ7,H7,I7.mX,r7,q7⟩
end
abbrev R2:=V->V->Hp->VK->Prop
def cm(X:Cx)(f:ag->ag->Sem ag)(r:R2):Prop:=
 ∀(af:List (ah×Obj)) (s:ak) (σ:St) (H:Hp) (x y:V) (v u:ag) (Q:VK),Inv X af σ H s->RelV x v->RelV y u->r x y H Q ->
  wpAny (model X.prog X.w) X.A (f v u) (EP X af σ Q) X.xe s
def vI(X:Cx)(f:ag->Sem ag)(r:V->Hp->VK->Prop):Prop:=
 ∀(af:List (ah×Obj)) (s:ak) (σ:St) (H:Hp) (x:V) (v:ag) (Q:VK),Inv X af σ H s->RelV x v->r x H Q ->
  wpAny (model X.prog X.w) X.A (f v) (EP X af σ Q) X.xe s
def fo(X:Cx)(f:ag)(r:List V->Hp->VK->Prop):Prop:=
 ∀(af:List (ah×Obj)) (s:ak) (σ:St) (H:Hp) (xs:List V) (us:List ag) (Q:VK),Inv X af σ H s->Vals xs us->r xs H Q ->
  wpAny (model X.prog X.w) X.A (call f us) (EP X af σ Q) X.xe s
def nh(r:R2)(ta tb:TE):TE:=λσ H Q=>ta σ H λx H1=>tb σ H1 λy H2=>r x y H2 Q
def B8(r:V->Hp->VK->Prop)(ta:TE):TE:=λσ H Q=>ta σ H λx H1=>r x H1 Q
def rI(C:Int->Int->Prop)(g:Int->Int->V):R2:=λx y H Q=>∃i j,x=.int i/\y=.int j/\C i j/\Q (g i j) H
def jw(g:Int->Int->V):R2:=λx y H Q=>∃i j,x=.int i/\y=.int j/\Q (g i j) H
def rU(g:Int->V):V->Hp->VK->Prop:=λx H Q=>∃i,x=.int i/\Q (g i) H
section
variable{X:Cx}{a b c:aO}{ta tb tc:TE}{pos:Pos}
theorem vc(ha:PE X a ta)(hb:PE X b tb){af:List (ah×Obj)}{s:ak}{σ:St}{H:Hp}{R:V->V->Hp->Prop}(I:Inv X af σ H s)
 (h:ta σ H λx H1=>tb σ H1 λy H2=>R x y H2) {Q:ag->ak->Prop} {f:ag->ag->Sem ag}
 (hf:∀v u s2 x y H2,Inv X af σ H2 s2->RelV x v->RelV y u->R x y H2->wpAny (model X.prog X.w) X.A (f v u) Q X.xe s2) :
 wpAny (model X.prog X.w) X.A (eval a X.env) (λv s₁=>wpAny (model X.prog X.w) X.A (eval b X.env) (λu s₂=>wpAny (model X.prog X.w) X.A (f v u) Q X.xe s₂) X.xe s₁) X.xe s:=by
 refine aK (ha af s σ H _ I h) λv s1 ⟨x,H1,I1,r1,q1⟩=>?_;refine aK (hb af s1 σ H1 _ I1 q1) λu s2 ⟨y,H2,I2,r2,q2⟩=>?_;exact hf v u s2 x y H2 I2 r1 r2 q2
theorem aH{op:Operator}{r:R2}(ho:cm X (binaryOp op) r)(ha:PE X a ta)(hb:PE X b tb):PE X (.BinOp a op b pos) (nh r ta tb):=by intro af s σ H Q I h;exact wpAny_BinOp (vc ha hb I h λv u s2 x y H2 I2 rx ry q=>ho af s2 σ H2 x y v u Q I2 rx ry q)
theorem sH{op:UnaryOp}{r:V->Hp->VK->Prop}(ho:vI X (unaryOp op) r)(ha:PE X a ta):PE X (.UnaryOp op a pos) (B8 r ta):=by intro af s σ H Q I h;exact UnaryOp_ (aK (ha af s σ H _ I h) λv s1 ⟨x,H1,I1,r1,q1⟩=>ho af s1 σ H1 x v Q I1 r1 q1)
theorem tq{f:ag->ag->Sem ag}{C:Int->Int->Prop}{g:Int->Int->Int}
 (rule:∀(i j:Int) (t u:Tok) (s:ak) (Q:ag->ak->Prop) (E:ag->ak->Prop),C i j->Q (.int (g i j) s.toks) { s with toks:=s.toks+1 }->wpAny (model X.prog X.w) X.A (f (.int i t) (.int j u)) Q E s) :
 cm X f (rI C λi j=>.int (g i j)):=by
 intro af s σ H x y v u Q I rx ry h;obtain⟨i,j,rfl,rfl,hc,q⟩:=h;obtain⟨t,rfl⟩:=rx;obtain⟨t',rfl⟩:=ry;exact rule i j t t' s _ _ hc ⟨.int (g i j),H,I.tok _,⟨_,rfl⟩,q⟩
theorem Aw{f:ag->ag->Sem ag}{g:Int->Int->Int}
 (rule:∀(i j:Int) (t u:Tok) (s:ak) (Q:ag->ak->Prop) (E:ag->ak->Prop),Q (.int (g i j) s.toks) { s with toks:=s.toks+1 }->wpAny (model X.prog X.w) X.A (f (.int i t) (.int j u)) Q E s) :
 cm X f (jw λi j=>.int (g i j)):=by
 intro af s σ H x y v u Q I rx ry h;obtain⟨i,j,rfl,rfl,q⟩:=h;obtain⟨t,rfl⟩:=rx;obtain⟨t',rfl⟩:=ry;exact rule i j t t' s _ _ ⟨.int (g i j),H,I.tok _,⟨_,rfl⟩,q⟩
theorem AL{f:ag->ag->Sem ag}{g:Int->Int->Bool}
 (rule:∀(i j:Int) (t u:Tok) (s:ak) (Q:ag->ak->Prop) (E:ag->ak->Prop),Q (.bool (g i j)) s->wpAny (model X.prog X.w) X.A (f (.int i t) (.int j u)) Q E s) :
 cm X f (jw λi j=>.bl (g i j)):=by
 intro af s σ H x y v u Q I rx ry h;obtain⟨i,j,rfl,rfl,q⟩:=h;obtain⟨t,rfl⟩:=rx;obtain⟨t',rfl⟩:=ry;exact rule i j t t' s _ _ ⟨.bl (g i j),H,I,rfl,q⟩
def Cy(i j:Int):Prop:=0<=j/\j<=1000000/\i.natAbs<2 ^ 64
def sg(i j:Int):Prop:=(-(2 ^ 64)<i/\i<2 ^ 64)\/(-(2 ^ 64)<j/\j<2 ^ 64)
theorem sg.ok{i j:Int}(h:sg i j):IntMulOk i j:=by
 rcases h with ⟨h1,h2⟩|⟨h1,h2⟩
 ·exact .of_left (intBits_le_64 h1 h2)
 ·exact .of_right (intBits_le_64 h1 h2)
theorem HD:cm X (binaryOp .Add) (jw λi j=>.int (i+j)):=Aw λ_ _ _ _ _ _ _ q=>add_int q
theorem rm:cm X (binaryOp .Sub) (jw λi j=>.int (i-j)):=Aw λ_ _ _ _ _ _ _ q=>sub_int q
theorem e9:cm X (binaryOp .Mult) (rI sg λi j=>.int (i*j)):=tq λ_ _ _ _ _ _ _ hc q=>mul_int q hc.ok
theorem c5:cm X (binaryOp .Mod) (rI (λ_ j=>0<j) λi j=>.int (i%j)):=tq λi j _ _ _ _ _ hc q=>by
 have h1:(0:Int)<j:=hc;exact mod_int' (by omega) (by rw[Int.fmod_eq_emod_of_nonneg i (by omega)];exact q)
theorem HH:cm X (binaryOp .Pow) (rI Cy λi j=>.int (i ^ j.toNat)):=tq λ_ _ _ _ _ _ _ hc q=>pow_int_small hc.1 hc.2.1 hc.2.2 q
theorem JV{f:ag->Sem ag}{g:Int->Int}
 (rule:∀(i:Int) (t:Tok) (s:ak) (Q:ag->ak->Prop) (E:ag->ak->Prop),Q (.int (g i) s.toks) { s with toks:=s.toks+1 }->wpAny (model X.prog X.w) X.A (f (.int i t)) Q E s) :
 vI X f (rU λi=>.int (g i)):=by
 intro af s σ H x v Q I rx h;obtain⟨i,rfl,q⟩:=h;obtain⟨t,rfl⟩:=rx;exact rule i t s _ _ ⟨.int (g i),H,I.tok _,⟨_,rfl⟩,q⟩
theorem sI:vI X (unaryOp .USub) (rU λi=>.int (-i)):=JV λ_ _ _ _ _ q=>neg_int q
end
section
variable{X:Cx}{a b c:aO}{ta tb tc:TE}{pos:Pos}
theorem uV{af:List (ah×Obj)}{σ:St}{H:Hp}{s:ak}{Q:VK}{k k':Bool}(I:Inv X af σ H s)(q:Q (.bl k) H)(e:k=k'):EP X af σ Q (.bool k') s:=by subst e;exact⟨.bl k,H,I,rfl,q⟩
theorem JY:cm X (compareOp .Lt) (jw λi j=>.bl (decide (i<j))):=AL λ_ _ _ _ _ _ _ q=>lt_int q
theorem JU:cm X (compareOp .Gt) (jw λi j=>.bl (decide (j<i))):=AL λ_ _ _ _ _ _ _ q=>gt_int q
theorem KR:cm X (compareOp .Lt) (λx y H Q=>∃i j,x=.str i/\y=.str j/\Q (.bl (decide (i.cps.toList<j.cps.toList))) H):=by intro af s σ H x y v u Q I rx ry h;obtain⟨i,j,rfl,rfl,q⟩:=h;obtain⟨t,rfl⟩:=rx;obtain⟨t',rfl⟩:=ry;exact lt_str (uV I q rfl)
theorem GC:cm X (compareOp .In) (λx y H Q=>∃i j,x=.str i/\y=.str j/\Q (.bl (!(Builtin.Str.occurrences j i 0 j.length 1).isEmpty)) H):=by intro af s σ H x y v u Q I rx ry h;obtain⟨i,j,rfl,rfl,q⟩:=h;obtain⟨t,rfl⟩:=rx;obtain⟨t',rfl⟩:=ry;exact in_str (uV I q rfl)
theorem cm.or{f:ag->ag->Sem ag}{r r':R2}(h:cm X f r)(h':cm X f r'):cm X f (λx y H Q=>r x y H Q\/r' x y H Q):=by
 intro af s σ H x y v u Q I rx ry q;rcases q with q|q
 ·exact h af s σ H x y v u Q I rx ry q
 ·exact h' af s σ H x y v u Q I rx ry q
theorem fm(b:aO){op:CmpOp}(h:op≠.In:=by decide)(h2:op≠.NotIn:=by decide):behindInMarks op b=false:=by
 have e1:(op==CmpOp.In)=false:=by cases op<;>first|rfl|exact absurd rfl h
 have e2:(op==CmpOp.NotIn)=false:=by cases op<;>first|rfl|exact absurd rfl h2
 cases b<;>simp[behindInMarks,e1,e2]
theorem qq{op:CmpOp}{r:R2}(ho:cm X (compareOp op) r)(ha:PE X a ta)(hb:PE X b tb)(hm:behindInMarks op b=false):PE X (.Compare a [op] [b] pos) (nh r ta tb):=by intro af s σ H Q I h;exact wpAny_Compare1 (vc ha hb I h λv u s2 x y H2 I2 rx ry q=>ho af s2 σ H2 x y v u Q I2 rx ry q) hm
def Cb(t:TE):TT:=λσ H Q=>t σ H λx H'=>∃k,x=.bl k/\Q k H'
theorem eI{op:CmpOp}{r:R2}(ho:cm X (compareOp op) r)(ha:PE X a ta)(hb:PE X b tb)(hm:behindInMarks op b=false):PT X (.Compare a [op] [b] pos) (Cb (nh r ta tb)):=by
 intro af s σ H Q I h;refine wpAny_isTrue_Compare1 (aK (ha af s σ H _ I h) λv s1 ⟨x,H1,I1,r1,q1⟩=>aK (hb af s1 σ H1 _ I1 q1) λu s2 ⟨y,H2,I2,r2,q2⟩=>
  aK (ho af s2 σ H2 x y v u _ I2 r1 r2 q2) λc s3 ⟨z,H3,I3,r3,k,e,q3⟩=>?_) hm
 subst e;cases r3;exact om ⟨H3,I3,q3⟩
theorem qa:(sizeLine:Nat)<2 ^ 63:=by rw[dh];decide
theorem Jc:cm X (binaryOp .Add) (λx y H Q=>∃i j,x=.str i/\y=.str j/\i.length+j.length<=sizeLine/\Q (.str (i++j)) H):=by intro af s σ H x y v u Q I rx ry h;obtain⟨i,j,rfl,rfl,hz,q⟩:=h;obtain⟨t,rfl⟩:=rx;obtain⟨t',rfl⟩:=ry;exact add_str (λt' tk=>⟨.str (i++j),H,I.tok _,⟨_,rfl⟩,q⟩) hz
theorem vals1{x:V}{us:List ag}(r:Vals [x] us):∃u,us=[u]/\RelV x u:=by
 cases r with
 |cons r1 r2=>cases r2;exact⟨_,rfl,r1⟩
theorem vals2{x y:V}{us:List ag}(r:Vals [x,y] us):∃u w',us=[u,w']/\RelV x u/\RelV y w':=by
 cases r with
 |cons r1 r2=>
  cases r2 with
  |cons r3 r4=>cases r4;exact⟨_,_,rfl,r1,r3⟩
theorem FM(hc:X.calm=true):fo X (.builtin "max") (λxs H Q=>∃i j,xs=[.int i,.int j]/\Q (.int (if j>i then j else i)) H):=by
 intro af s σ H xs us Q I r h;obtain⟨i,j,rfl,q⟩:=h;obtain⟨u,w',rfl,⟨t,rfl⟩,⟨t',rfl⟩⟩:=vals2 r;refine max_two_ints (I.ok.hd hc) λh' tk k=>⟨_,H,I.kept k,?_,q⟩;by_cases hj:j>i
 ·rw[aw hj,aw hj];exact⟨_,rfl⟩
 ·rw[ay hj,ay hj];exact⟨_,rfl⟩
theorem G0(hc:X.calm=true):fo X (.builtin "min") (λxs H Q=>∃i j,xs=[.int i,.int j]/\Q (.int (if j<i then j else i)) H):=by
 intro af s σ H xs us Q I r h;obtain⟨i,j,rfl,q⟩:=h;obtain⟨u,w',rfl,⟨t,rfl⟩,⟨t',rfl⟩⟩:=vals2 r;refine min_two_ints (I.ok.hd hc) λh' tk k=>⟨_,H,I.kept k,?_,q⟩;by_cases hj:j<i
 ·rw[aw hj,aw hj];exact⟨_,rfl⟩
 ·rw[ay hj,ay hj];exact⟨_,rfl⟩
def zq(K:aB)(x:V)(H:Hp)(n:Nat):Prop:=
 match x with
 |.str y=>y.length<=sizeLine/\n=y.length
 |.byt y=>y.size<=sizeLine/\n=y.size
 |.ref p=>(∃xs,cI K H p xs/\n=xs.length)\/∃xs,eM K H p xs/\n=xs.length
 |_=>False
theorem FV:fo X (.builtin "len") (λxs H Q=>∃x n,xs=[x]/\zq X.K x H n/\Q (.int n) H):=by
 intro af s σ H xs us Q I r h;obtain⟨x,n,rfl,e,q⟩:=h;obtain⟨u,rfl,rx⟩:=vals1 r;have hl:=qa;have hs:sizeLine=16777216:=dh;cases x with
 |str y=>
  obtain⟨t,rfl⟩:=rx;obtain⟨hy,e'⟩ : y.length<=sizeLine/\n=y.length:=e;subst e';exact len_str (by omega) ⟨.int _,H,I.tok _,⟨_,rfl⟩,q⟩
 |byt y=>
  obtain⟨t,rfl⟩:=rx;obtain⟨hy,e'⟩ : y.size<=sizeLine/\n=y.size:=e;subst e';exact PySem.W.len_bytes (by omega) ⟨.int _,H,I.tok _,⟨_,rfl⟩,q⟩
 |ref p=>
  cases rx;have e':(∃xs,cI X.K H p xs/\n=xs.length)\/∃xs,eM X.K H p xs/\n=xs.length:=e;rcases e' with ⟨xs,hx,e'⟩|⟨xs,hx,e'⟩
  ·subst e';obtain⟨ai,r',pl,hz⟩:=I.list hx;have hlen:=r'.length;exact Calls.call_len_list pl.isList (by simp only[bG];omega) ⟨.int xs.length,H,I.tok _,⟨_,by simp only[bG];rw[hlen]⟩,q⟩
  ·subst e';obtain⟨ai,r',pl,hz⟩:=I.tuple hx;have hlen:=r'.length;exact len_tuple pl (by simp only[bG];omega) ⟨.int xs.length,H,I.tok _,⟨_,by simp only[bG];rw[hlen]⟩,q⟩
 |_=>exact(show False from e).elim
end
structure vg(h:aI)(x dx C:ah)(mA:Str->Option ag):Prop where
 obj:h.get? x=ab (wY C dx)
 ns:h.Ns1 dx mA
 ne:dx≠x
theorem I9{h:aI}{dx:ah}{mA:Str->Option ag}(n:h.Ns1 dx mA):∃od,h.get? dx=ab od/\∀name,w5 name od=ab (mA name):=by
 obtain⟨o,es,ep,ho,hd,hk,_,hm⟩:=n;refine⟨o,ho,λname=>?_⟩;have e:=hm name;unfold nsFind findBy at e;rw[<- Array.find?_toList]at e;unfold w5;rw[hd];dsimp only;split
 ·rename_i y q;rw[q]at e;exact congrArg ab e
 ·rename_i q;rw[q]at e;have a:es.toList.any (·.refKey)=false:=by
   rw[xi];intro y hy;obtain⟨z,t,hkey⟩:=hk y (Array.mem_toList_iff.mp hy);simp[DictEntry.refKey,hkey]
  have a':¬ es.toList.any (·.refKey)=true:=by rw[a];exact cW
  rw[ay a'];exact congrArg ab e
theorem vg.look{h:aI}{x dx C:ah}{mA:Str->Option ag}(I:vg h x dx C mA):∃od,PySem.W.InstAt h x (wY C dx) C (ab od)/\∀name,w5 name od=ab (mA name):=
 let ⟨od,ho,hl⟩:=I9 I.ns
 ⟨od,⟨I.obj,rfl,rfl,ho⟩,hl⟩
theorem iK.some_of{v:V}{o:Option ag}(r:iK (ab v) o):∃u,o=ab u/\RelV v u:=by
 cases o with
 |none=>exact(show False from r).elim
 |some u=>exact⟨u,rfl,r⟩
section
variable{P:bb}{w:aT}{H H':Hp}{h h':aI}{a C dx:ah}{fs fs':List (Str×V)}
theorem zQ(hok:cz P w H h)(e:H a=ab (.ins C dx fs)):∃mA,vg h a dx C mA/\(∀f,iK (fs.lookup f) (mA f))/\PySem.Within mA (fs.map (·.1))/\fs.length<=1000/\H dx=ab (.own a):=by obtain⟨d,z,ne,ob,mA,n,r,q⟩:=(show bP P w H h a (.ins C dx fs)from hok a _ e);exact⟨mA,⟨ob,n,ne⟩,r,q,z,d⟩
end
structure wC(K:aB)(C:ah):Prop where
 pg:DN K C d8=true
 hd:PySem.W.hasDictIn K C=true
 po:PySem.W.plainOver K C=true
 sa:DR K (.ref C) "__setattr__" = ab (ab (.builtin "object.__setattr__"))
theorem wC.get{K:aB}{C:ah}(c:wC K C)(f:Str):DN K C f=true:=c.pg
section
variable{X:Cx}{af:List (ah×Obj)}{σ:St}{H:Hp}{s:ak}{A:br}{E:ag->ak->Prop}{Q:ag->ak->Prop}{c:ag}{b:Bool}
inductive fK(K:aB)(H:Hp):V->ag->Prop where
 |non:fK K H .non (.type "NoneType")
 |bl (x:Bool):fK K H (.bl x) (.type "bool")
 |int (i:Int):fK K H (.int i) (.type "int")
 |str (x:Str):fK K H (.str x) (.type "str")
 |flt (x:UInt64):fK K H (.flt x) (.type "float")
 |lst {a:ah} {xs:List V} (e:H a=ab (.lst xs)):fK K H (.ref a) (.type "list")
 |frz {a:ah} {o:Obj} {xs:List V} (e:H a=ab (.frz o (.lst xs))):fK K H (.ref a) (.type "list")
 |tup {a:ah} {xs:List V} (e:H a=ab (.tup xs)):fK K H (.ref a) (.type "tuple")
 |dK {a:ah} {am:List (Key×V)} (e:H a=ab (.dK am)):fK K H (.ref a) (.type "dict")
 |dT {a:ah} {am:List (List Key×V)} (e:H a=ab (.dT am)):fK K H (.ref a) (.type "dict")
 | ins {a C dx:ah} {fs:List (Str×V)} (e:H a=ab (.ins C dx fs)) (cl:wC K C) (ha:DR K (.ref C) "__class__" = ab (ab (.builtin "object.__class__")))
  (hn:PySem.W.specialIn K (.builtin "object.__class__") "__get__" = ab (ab (.builtin "getset_descriptor.__get__"))) (htk:PySem.W.takesIn K (.builtin "object.__class__")=ab true)
  (hm:PySem.W.mroIn K C (.type "object")=ab true):fK K H (.ref a) (.ref C)
theorem Fz{x:V}{u t:ag}(I:Inv X af σ H s)(rx:RelV x u)(ty:fK X.K H x t)(e:w6 X.K t c=ab b)(h:∀tk,Q (.bool b) { s with toks:=tk }) :
 wpAny (model X.prog X.w) A (call (.builtin "isinstance") [u,c]) Q E s:=by
 cases ty with
 |non=>cases(show u=d6 from rx);exact i3 DL I.eX gK e (λz=>nomatch z) h
 |bl y=>cases(show u=mI y from rx);exact i3 DM I.eX gK e (λz=>nomatch z) h
 |int i=>obtain⟨t,q⟩:=(show∃t,u=Value.int i t from rx);cases q;exact i3 DO I.eX gK e (λz=>nomatch z) h
 |str y=>obtain⟨t,q⟩:=(show∃t,u=ko y t from rx);cases q;exact i3 DP I.eX gK e (λz=>nomatch z) h
 |flt y=>obtain⟨t,q⟩:=(show∃t,u=xL y t from rx);cases q;exact i3 DJ I.eX gK e (λz=>nomatch z) h
 | @lst a xs ea=>
  cases(show u=cE a from rx);obtain⟨_,_,n,_,h1⟩:=(show bP X.prog X.w H s.heap a (.lst xs)from I.hok a _ ea);exact i3 tu I.eX ⟨_,h1,rfl⟩ e (λz=>nomatch z) h
 | @frz a ob xs ea=>
  cases(show u=cE a from rx);obtain⟨_,_,_,n,_,h1⟩:=(show bP X.prog X.w H s.heap a (.frz ob (.lst xs))from I.hok a _ ea);exact i3 tu I.eX ⟨_,h1,rfl⟩ e (λz=>nomatch z) h
 | @tup a xs ea=>
  cases(show u=cE a from rx);obtain⟨_,_,_,p⟩:=(show bP X.prog X.w H s.heap a (.tup xs)from I.hok a _ ea);obtain⟨o,h1,h2,_⟩:=p;exact i3 DK I.eX ⟨o,h1,h2⟩ e (λz=>nomatch z) h
 | @dK a am ea=>
  cases(show u=cE a from rx);obtain⟨_,_,vs,_,p⟩:=(show bP X.prog X.w H s.heap a (.dK am)from I.hok a _ ea);obtain⟨o,es,ep,h1,h2,_⟩:=p;exact i3 tw I.eX ⟨o,h1,h2.1⟩ e (λz=>nomatch z) h
 | @dT a am ea=>
  cases(show u=cE a from rx);obtain⟨_,_,xs,_,o,es,ep,h1,h2,_⟩:=(show bP X.prog X.w H s.heap a (.dT am)from I.hok a _ ea);exact i3 tw I.eX ⟨o,h1,h2.1⟩ e (λz=>nomatch z) h
 | @ins a C dx fs ea cl ha hn htk hm=>
  cases(show u=cE a from rx);obtain⟨mA,O,_⟩:=zQ I.hok ea;obtain⟨od,J,_⟩:=O.look;exact i3 (DQ (cl.get _) cl.hd ha hn htk hm) I.eX J e (λz=>nomatch z) h
end
structure dP(k:Nat)(A:br):Prop where
 hd:A.handled=ae
 dp:A.depth+3*k+5<recursionLimit
 un:A.units+16*k+200<cLine
 gd:A.guards=ab []
theorem dP.mono{j k:Nat}{A:br}(r:dP k A)(h:j<=k):dP j A:=⟨r.hd,by have:=r.dp;omega,by have:=r.un;omega,r.gd⟩
theorem dP.deeper{k:Nat}{A:br}(r:dP (k+1) A)(env:Env):dP k (A.deeper env):=⟨r.hd,by have:=r.dp;show A.depth+1+3*k+5<_;omega,by have:=r.un;show A.units+3+16*k+200<_;omega,r.gd⟩
theorem dP.depth{k:Nat}{A:br}(r:dP k A):A.depth<recursionLimit:=by have:=r.dp;omega
theorem dP.units{k:Nat}{A:br}(r:dP k A):A.units+64<cLine:=by have:=r.un;omega
def gn:TA:=λ_ H Q=>Q [] H
def fw(ta:TE)(tr:TA):TA:=λσ H Q=>ta σ H λx H1=>tr σ H1 λxs H2=>Q (x::xs) H2
section
variable{X:Cx}{e:aO}{es:List aO}{te:TE}{t:TA}{pos:Pos}
theorem bc:PA X [] gn:=λ_ _ _ _ H Q I h=>Calls.spliced_nil ⟨[],H,I,.nil,h⟩
theorem ax(ha:PE X e te)(hr:PA X es t)(hs:starEach (e::es) X.env=(false,eval e X.env)::starEach es X.env:=by rfl):PA X (e::es) (fw te t):=by intro pos af s σ H Q I h;rw[hs];show wpAny _ _ (spliced ((false,eval e X.env)::backTo pos (starEach es X.env))) _ _ s;refine Calls.spliced_cons (aK (ha af s σ H _ I h) λu s1 ⟨x,H1,I1,r1,q1⟩=>?_);exact aK (hr pos af s1 σ H1 _ I1 q1) λus s2 ⟨xs,H2,I2,r2,q2⟩=>⟨x::xs,H2,I2,.cons r1 r2,q2⟩
def u0(t:TA):TE:=λσ H Q=>t σ H λxs H1=>xs.length<=sizeLine/\∀p,H1 p=ae->Q (.ref p) (upd H1 p (.tup xs))
def Ck(t:TA):TE:=λσ H Q=>t σ H λxs H1=>xs.length<=sizeLine/\∀p,H1 p=ae->Q (.ref p) (upd H1 p (.lst xs))
theorem k4{x1}(h:PA X es t):PE X (.Tuple es x1 pos) (u0 t):=by intro af s σ H Q I hq;refine wpAny_Tuple_spliced (aK (h pos af s σ H _ I hq) λus s1 ⟨xs,H1,I1,r,z,q⟩=>⟨by rw[<- r.length];exact z,?_⟩);have hf:H1 s1.heap.objs.size=ae:=I1.hok.fresh (bg _);refine⟨.ref s1.heap.objs.size,upd H1 s1.heap.objs.size (.tup xs),I1.laid (t':=s1.toks) (λb u e=>cP _ e) (bg _) ?_,rfl,q _ hf⟩;exact⟨z,us,r,⟨_,eE _ rfl,rfl,rfl,_,rfl⟩⟩
theorem eU(h:PA X es t):PE X (.List es pos) (Ck t):=by intro af s σ H Q I hq;refine wpAny_List_spliced (aK (h pos af s σ H _ I hq) λus s1 ⟨xs,H1,I1,r,z,q⟩=>⟨by rw[<- r.length];exact z,?_⟩);have hf:H1 s1.heap.objs.size=ae:=I1.hok.fresh (bg _);refine⟨.ref s1.heap.objs.size,upd H1 s1.heap.objs.size (.lst xs),I1.laid (t':=s1.toks) (λb u e=>cP _ e) (bg _) ?_,rfl,q _ hf⟩;exact⟨z,us,0,r,eE _ rfl⟩
end
abbrev Sp:=List V->Hp->VK->XK->Prop
abbrev eY:=List Env->Hp->ak->XK->ag->ak->Prop
structure sZ(P:bb)(w:aT)(K:aB)(mg:Str->Option ag)(base:aI)(A:br)(outer:List Env)(s:ak)(H:Hp):Prop where
 frames:A.frames=ab outer
 mod:Mod K mg base
 bs:∀b o,base.get? b=ab o->s.heap.get? b=ab o/\H b=ae
 bsz:base.objs.size<=s.heap.objs.size
 iZ:s.heap.FunFrames base outer
 frf:∀b∈frs outer,H b=ae
 hok:cz P w H s.heap
 bare:kq s.gens
def CE(outer:List Env)(P:bb)(w:aT)(H:Hp)(s:ak)(Q:VK)(u:ag)(s':ak):Prop:=∃v H',s'.os=s.os/\kq s'.gens/\Un (frs outer) [] H H' s.heap s'.heap/\cz P w H' s'.heap/\RelV v u/\Q v H'
def CR(CX:eY)(outer:List Env)(P:bb)(w:aT)(H:Hp)(s:ak)(Q:VK)(E:XK)(r:Result)(s':ak):Prop:=
 match r with
 |.ok (.ret u)=>CE outer P w H s Q u s'
 |.ok _=>False
 |.error e=>CX outer H s E e s'
structure bt(P:bb)(w:aT)(K:aB)(mg:Str->Option ag)(base:aI)(CX:eY)(k:Nat)(f:ah)(fd:bS)(ps:List Str)(sp:Sp):Prop where
 len:∀vs H Q E,sp vs H Q E->vs.length=ps.length
 run:∀(A:br) (outer:List Env) (s:ak) (H:Hp) (args:Args) (us:List ag) (vs:List V) (Q:VK) (E:XK),dP k A->sZ P w K mg base A outer s H->lp s fd args (ps.zip us)->Vals vs us->sp vs H Q E ->
  codeAny (model P w) A (.call (.ref f) args) (CR CX outer P w H s Q E) s
theorem bt.imp{P:bb}{w:aT}{K:aB}{mg:Str->Option ag}{base:aI}{CX:eY}{k:Nat}{f:ah}{fd:bS}{ps:List Str}{sp sp':Sp}(F:bt P w K mg base CX k f fd ps sp)
 (h:∀vs H Q E,sp' vs H Q E->sp vs H Q E):bt P w K mg base CX k f fd ps sp':=
 ⟨λvs H Q E q=>F.len vs H Q E (h _ _ _ _ q),λA outer s H args us vs Q E hr he hb hv hs=>F.run A outer s H args us vs Q E hr he hb hv (h _ _ _ _ hs)⟩
section
variable{X:Cx}{af:List (ah×Obj)}{σ:St}{H:Hp}{s s':ak}
theorem Inv.env0(I:Inv X af σ H s):sZ X.prog X.w X.K X.mg X.base X.A X.stack s H:=⟨I.ok.frames,I.ok.mod,I.bs,d5 I.ok.bsz I.sz,I.stack,I.BR,I.hok,I.bare⟩
theorem Inv.after{Q:VK}{u:ag}(I:Inv X af σ H s)(h:CE X.stack X.prog X.w H s Q u s'):EP X af σ Q u s':=by obtain⟨v,H',os,bare,un,hok,r,q⟩:=h;obtain⟨hh,g,d,t,os'⟩:=s';obtain rfl:os'=s.os:=os;exact⟨v,H',I.call (h':=hh) (g':=g) (d':=d) (t':=t) (ch:=[]) un hok bare (λb z=>absurd z (by simp)),r,q⟩
end
def mj(sp:Sp)(dvs:List V)(E:XK)(t:TA):TE:=λσ H Q=>t σ H λvs H1=>sp (vs++dvs) H1 Q E
def Binds(K:aB)(fd:bS)(ps:List Str)(ds:List ag):Prop:=∀(s:ak) (us:List ag),K.In s.heap->(us++ds).length=ps.length->lp s fd ⟨us,[]⟩ (ps.zip (us++ds))
theorem Binds.all{K:aB}{fd:bS}{ps:List Str}(h:∀us:List ag,us.length=ps.length->bindArgs fd ⟨us,[]⟩=pure (ps.zip us)):Binds K fd ps []:=λs us _ hl=>by
 rw[jC]at hl ⊢;exact .of_eq (h us hl)
def rX(CX:eY)(X:Cx)(E:XK):Prop:=∀(af:List (ah×Obj)) (σ:St) (H:Hp) (s:ak) (e:ag) (s':ak),Inv X af σ H s->CX X.stack H s E e s'->X.xe e s'
section
variable{X:Cx}{CX:eY}{k:Nat}{f C:ah}{fd:bS}{ps:List Str}{sp:Sp}{dvs:List V}{ds:List ag}{E:XK}{x m:Str}{p pos apos:Pos}{e o:aO}{es:List aO}{ta:TE}{t:TA}
theorem JW{af:List (ah×Obj)}{σ:St}{H:Hp}{s:ak}{Q:VK}{us:List ag}{vs:List V}(F:bt X.prog X.w X.K X.mg X.base CX k f fd ps sp)(hr:dP k X.A)(hb:Binds X.K fd ps ds)(hd:Vals dvs ds)(hx:rX CX X E)
 (I:Inv X af σ H s) (r:Vals vs us) (h:sp (vs++dvs) H Q E):wpAny (model X.prog X.w) X.A (call (.ref f) us) (EP X af σ Q) X.xe s:=by
 have r2:Vals (vs++dvs) (us++ds):=r.append hd;have hl:(us++ds).length=ps.length:=by rw[<- r2.length];exact F.len _ _ _ _ h
 refine wpAny_call (codeAny_mono (F.run X.A X.stack s H ⟨us,[]⟩ (us++ds) (vs++dvs) Q E hr I.env0 (hb s us I.eX hl) r2 h) λr s' hq=>?_);cases r with
 |error e=>exact hx af σ H s e s' I hq
 |ok fl=>
  cases fl with
  |ret u=>exact I.after hq
  |next=>exact jM hq
  |brk=>exact jM hq
  |cont=>exact jM hq
theorem HV(F:bt X.prog X.w X.K X.mg X.base CX k f fd ps sp)(hr:dP k X.A)(hg:Gl X x)(hm:X.mg x=ab (.ref f))(hk:oa X.K (.ref f)=true)(hb:Binds X.K fd ps ds)(hd:Vals dvs ds)(hx:rX CX X E)
 (ha:PA X (e::es) t) (hdb:(x==("__debug__" : Str))=false:=by decide) (he:starEach (e::es) X.env=(false,eval e X.env)::starEach es X.env:=by rfl) (hpl:(backTo pos (starEach es X.env)).any (·.1)=false:=by rfl) :
 PE X (.Call (.Name x p) (e::es) [] pos) (mj sp dvs E t):=by
 intro af s σ H Q I h;refine xu (GZ I hg hm ?_ hdb);refine PySem.W.callWith_K (h₀:=X.base) I.ok.mod.kin hk (aK (ha pos af s σ H _ I h) λus s1 ⟨vs,H1,I1,r,q⟩=>⟨I1.eX,?_⟩) he hpl;exact JW F hr hb hd hx I1 r q
end
structure dv(N P:List Str)(sc:fF):Prop where
 kind:sc.kind=.function
 co:sc.isCoroutine=false
 gen:sc.isGenerator=false
 nd:N.Nodup
 pre:N.take P.length=P
 par:∀x∈P,sc.names.lookup x=ab .local\/sc.names.lookup x=ab .cell
 Lo:∀y∈sc.names,y.2≠.free
theorem zR{kindOf:Str->Option ln}{x:Str}:∀{binds:List (Str×ag)} {m:Str->Option ag},(∀v,(x,v)∉binds)->bindL kindOf binds m x=m x
 |[],_,_=>rfl
 |(n,v)::r,m,h=>by
  unfold bindL;rw[zR λw hw=>h w (cA _ hw)];split
  ·have:x≠n:=by rintro rfl;exact h v cC
   simp[this]
  ·rfl
theorem Bg{kindOf:Str->Option ln}{x:Str}:∀{binds:List (Str×ag)} {m:Str->Option ag},(∀v,(x,v)∉binds)->bindC kindOf binds m x=m x
 |[],_,_=>rfl
 |(n,v)::r,m,h=>by
  unfold bindC;rw[Bg λw hw=>h w (cA _ hw)];split
  ·rfl
  ·have:x≠n:=by rintro rfl;exact h v cC
   simp[this]
theorem zr{kindOf:Str->Option ln}{x:Str}{v:ag}:∀{P:List Str} {vs:List ag} {i:Nat} {m:Str->Option ag},P.Nodup->P[i]? = ab x->vs[i]? = ab v->kindOf x=ab .local ->
 bindL kindOf (P.zip vs) m x=ab v
 |[],_,_,_,_,h,_,_=>by simp at h
 |_::_,[],_,_,_,_,h,_=>by simp at h
 |p::P,w::vs,0,m,nd,h1,h2,hk=>by
  simp at h1 h2;subst h1;subst h2;show bindL kindOf ((p,w)::P.zip vs) m p=_;unfold bindL;rw[zR λv hv=>(iB.mp nd).1 (xo hv).1,aw hk];simp
 |p::P,w::vs,i+1,m,nd,h1,h2,hk=>by
  show bindL kindOf ((p,w)::P.zip vs) m x=_;unfold bindL;exact zr (i:=i) (iB.mp nd).2 (by simpa using h1) (by simpa using h2) hk
theorem Bi{kindOf:Str->Option ln}{x:Str}{v:ag}:∀{P:List Str} {vs:List ag} {i:Nat} {m:Str->Option ag},P.Nodup->P[i]? = ab x->vs[i]? = ab v->kindOf x≠ab .local ->
 bindC kindOf (P.zip vs) m x=ab v
 |[],_,_,_,_,h,_,_=>by simp at h
 |_::_,[],_,_,_,_,h,_=>by simp at h
 |p::P,w::vs,0,m,nd,h1,h2,hk=>by
  simp at h1 h2;subst h1;subst h2;show bindC kindOf ((p,w)::P.zip vs) m p=_;unfold bindC;rw[Bg λv hv=>(iB.mp nd).1 (xo hv).1,ay hk];simp
 |p::P,w::vs,i+1,m,nd,h1,h2,hk=>by
  show bindC kindOf ((p,w)::P.zip vs) m x=_;unfold bindC;exact Bi (i:=i) (iB.mp nd).2 (by simpa using h1) (by simpa using h2) hk
def start(N:List Str)(vs:List V):St:=vs.map ab++dE (N.length-vs.length) ae
def kS(CX:eY)(P:bb)(w:aT)(K:aB)(mg:Str->Option ag)(base:aI)(N:List Str)(qual:Str)(scope:fF)(f:ah)(cd:ag)(A:br)(outer:List Env)(s:ak)(H:Hp)(E:XK):Cx where
 prog:=P
 w:=w
 K:=K
 mg:=mg
 base:=base
 A:=A.deeper (envOfC qual scope s.heap.objs.size f cd)
 N:=N
 s₀:=s
 H₀:=H
 env:=envOfC qual scope s.heap.objs.size f cd
 outer:=outer
 stack:=envOfC qual scope s.heap.objs.size f cd::outer
 ex:=[]
 calm:=true
 fn:=λ_=>true
 pn:=[]
 xe:=λe s'=>wpAny (model P w) (A.deeper (envOfC qual scope s.heap.objs.size f cd)) (leaving (envOfC qual scope s.heap.objs.size f cd) e) (λ_ s''=>CX outer H s E e s'') (λe' s''=>CX outer H s E e' s'') s'
theorem Cr{sc:fF}{n:Nat}{x:Str}(h:sc.names.lookup x=ab .cell):∃c,(cellsFrom n sc.names []).lookup x=ab c:=by have q:=DI sc.names n [] (.inl h);exact Option.isSome_iff_exists.mp q
theorem K0{CX:eY}{P:bb}{w:aT}{K:aB}{mg:Str->Option ag}{base:aI}{N ps:List Str}{qual:Str}{scope:fF}{f:ah}{cd:ag}{A:br}{outer:List Env}{s s1:ak}{H:Hp}{E:XK}{us:List ag}{vs:List V}
 (S:dv N ps scope) (hd:A.handled=ae) (e0:sZ P w K mg base A outer s H) (hl:vs.length=ps.length) (r:Vals vs us)
 (x:InCallC s s.heap.objs.size (bindL (envOfC qual scope s.heap.objs.size f cd).kindOf (ps.zip us) λ_=>ae) (cellsFrom (s.heap.objs.size+1) scope.names []) (bindC (envOfC qual scope s.heap.objs.size f cd).kindOf (ps.zip us) λ_=>ae) s1) :
 Inv (kS CX P w K mg base N qual scope f cd A outer s H E) [] (start N vs) H s1:=by
 have hpl:ps.length<=N.length:=by have:=congrArg qB S.pre;rw[cO]at this;omega
 obtain⟨h1,tk,rfl,hk⟩:=x.done;have noA:∀b:ah,b∉(kS CX P w K mg base N qual scope f cd A outer s H E).ex:=λb z=>absurd (show b∈([]:List ah)from z) (by simp);refine⟨⟨e0.mod,S.kind,rfl,rfl,bg _,λy z c h1 h2=>?_,λy hy=>?_,λy c _ h=>?_,λ_=>hd,Around.frames_deeper e0.frames,.inr ⟨rfl,rfl⟩,λb z=>absurd z (noA b),e0.bs,e0.bsz,λb _ _=>noA b,λb z=>absurd z (noA b),e0.iZ,e0.frf⟩,
  rfl,e0.bare,Un.kept hk,⟨_,x.toInCall.ns,λi y v h1 h2 h3=>?_⟩,λy c h=>⟨_,x.cell y c h⟩,e0.hok.fresh (bg _),λy c h=>?_,λp hp=>absurd (show p∈([]:List (ah×Obj))from hp) (by simp),e0.hok.kept hk,?_⟩
 ·exact name_of_addr x.apart (qC h1) (qC h2)
 ·have hy:scope.names.lookup y=ab .cell\/scope.names.lookup y=ab .free:=hy;rcases hy with hy|hy
  ·exact Cr hy
  ·exact absurd rfl (S.Lo _ (qC hy))
 ·exact xF (x.above y c (qC h))
 ·have hi:i<vs.length:=by
   unfold start at h2;by_cases hi:i<vs.length
   ·exact hi
   ·rw[kg (by simpa using hi)]at h2;rw[DV]at h2;split at h2<;>cases h2
  have ha:vs[i]? = ab v:=by
   unfold start at h2;rw[mn (by simpa using hi),dw]at h2;cases e:vs[i]? with
   |none=>rw[e]at h2;cases h2
   |some a=>rw[e]at h2;cases h2;rfl
  obtain⟨u,hu,rv⟩:=r.get ha;have hp:ps[i]? = ab y:=by rw[<- S.pre,mq (by omega)];exact h1
  have ndP:ps.Nodup:=by rw[<- S.pre];exact S.nd.sublist (List.take_sublist _ _)
  refine⟨u,rv,?_⟩;rcases S.par y (i4 hp)with k|k
  ·exact .inl ⟨k,zr ndP hp hu k⟩
  ·obtain⟨c,e⟩:=Cr (n:=s.heap.objs.size+1) k;refine .inr ⟨.inl k,c,e,?_⟩;have q:=x.cell y c e;rw[Bi ndP hp hu (by show scope.names.lookup y≠_;rw[k];decide)]at q;exact q
 ·exact e0.hok.fresh (xF (x.above y c (qC h)))
 ·unfold start;show _=N.length;rw[bB,aS,xf];omega
theorem Jv{CX:eY}{P:bb}{w:aT}{K:aB}{mg:Str->Option ag}{base:aI}{k:Nat}{f:ah}{name qual:Str}{params:Arguments}{body:List bD}{scope:fF}{dV kV doc pm cdv ct oc:ag}{an od:Option ah}
 {osl:Array (Option ag)} {N ps:List Str} {sp:Sp} (lk:K.lookup f=ab ⟨oc,od,.func (lh name qual params body scope dV kV doc pm an cdv ct),osl⟩) (hcd:tD K cdv qual=true) (S:dv N ps scope)
 (len:∀vs H Q E,sp vs H Q E->vs.length=ps.length)
 (hbody:∀(A:br) (outer:List Env) (s:ak) (H:Hp) (vs:List V) (Q:VK) (E:XK),dP k (A.deeper (envOfC qual scope s.heap.objs.size f cdv))->sp vs H Q E ->
  ∃t,gF (kS CX P w K mg base N qual scope f cdv A outer s H E) body t/\t { nx:=λ_ H'=>Q .non H',rt:=Q } (start N vs) H) :
 bt P w K mg base CX (k+1) f (lh name qual params body scope dV kV doc pm an cdv ct) ps sp:=by
 refine⟨len,λA outer s H args us vs Q E hr e0 hb r hsp=>?_⟩;have hl:=len _ _ _ _ hsp;have KX:K.In s.heap:=e0.mod.kin.keeps λb o e=>(e0.bs b o e).1;have lim:s.heap.NoLimit:=e0.mod.nolimit.keeps λb o e=>(e0.bs b o e).1;have hkind:∀y∈ps.zip us,scope.names.lookup y.1=ab .local\/(scope.names.lookup y.1=ab .cell/\((cellsFrom (s.heap.objs.size+1) scope.names []).lookup y.1).isSome=true):=λ⟨n,v⟩ hy=>by
  rcases S.par n (xo hy).1 with q|q
  ·exact .inl q
  ·exact .inr ⟨q,DI _ _ _ (.inl q)⟩
 refine codeAny_call_function hr.depth (KX _ _ lk) rfl S.co S.gen rfl (PySem.W.codeRec_of KX hcd) (hb _ _ _ _ ?_);refine wpAny_newFunctionEnv_cells S.kind hkind λenv he s1 x=>?_;subst he;refine⟨lim.keeps x.toInCall.keep,codeAny_func ?_⟩;obtain⟨t,ht,hq⟩:=hbody A outer s H vs Q E (hr.deeper _) hsp;have I:Inv (kS CX P w K mg base N qual scope f cdv A outer s H E) [] (start N vs) H s1:=K0 S hr.hd e0 hl r x;refine gI (ht [] s1 (start N vs) H _ I hq) (λfl s' hs=>?_) λe s' hs=>hs;have fin:∀{σ':St} {H':Hp} {v:V} {u:ag},Inv (kS CX P w K mg base N qual scope f cdv A outer s H E) [] σ' H' s'->RelV v u->Q v H'->CE outer P w H s Q u s':=
  λ{σ' H' v u} J rv q=>⟨v,H',J.os,J.bare,J.base,J.hok,rv,q⟩
 cases fl with
 |ret u=>
  obtain⟨v,σ',H',J,rv,q⟩:=hs;exact fin J rv q
 |next=>
  obtain⟨σ',H',J,q⟩:=hs;exact fin (v:=V.non) (u:=d6) J rfl q
 |brk=>
  obtain⟨_,_,_,q⟩:=hs;exact jM q
 |cont=>
  obtain⟨_,_,_,q⟩:=hs;exact jM q
section
variable{X:Cx}{x:Str}{p pos:Pos}{e:aO}{es:List aO}{t:TA}{id T:String}{r:List V->Hp->VK->Prop}
def oH(r:List V->Hp->VK->Prop)(t:TA):TE:=λσ H Q=>t σ H λvs H1=>r vs H1 Q
theorem dF(hc:fo X (.builtin id) r)(hg:Gl X x)(hm:X.mg x=ae)(hv:bootBuiltins x=ab (.builtin id))(ha:PA X (e::es) t)(hn:x ≠ "__name__" := by decide)(hdb:(x==("__debug__" : Str))=false:=by decide)
 (he:starEach (e::es) X.env=(false,eval e X.env)::starEach es X.env:=by rfl) (hpl:(backTo pos (starEach es X.env)).any (·.1)=false:=by rfl):PE X (.Call (.Name x p) (e::es) [] pos) (oH r t):=by
 intro af s σ H Q I h;refine xu (nE I hg hm hv ?_ hn hdb);exact PyProof.Rows.callWith_builtin1 (aK (ha pos af s σ H _ I h) λus s1 ⟨vs,H1,I1,r1,q1⟩=>hc af s1 σ H1 vs us Q I1 r1 q1) he hpl
theorem vY(hc:fo X (.type T) r)(hg:Gl X x)(hm:X.mg x=ae)(hv:bootBuiltins x=ab (.type T))(ha:PA X (e::es) t)(hn:x ≠ "__name__" := by decide)(hdb:(x==("__debug__" : Str))=false:=by decide)
 (he:starEach (e::es) X.env=(false,eval e X.env)::starEach es X.env:=by rfl) (hpl:(backTo pos (starEach es X.env)).any (·.1)=false:=by rfl):PE X (.Call (.Name x p) (e::es) [] pos) (oH r t):=by
 intro af s σ H Q I h;refine xu (nE I hg hm hv ?_ hn hdb);exact t9 (aK (ha pos af s σ H _ I h) λus s1 ⟨vs,H1,I1,r1,q1⟩=>hc af s1 σ H1 vs us Q I1 r1 q1) he hpl
end
end L2
namespace HT
open PySem PyProof.Rows
section
variable{prog:bb}{w:aT}{A:br}{E:ag->ak->Prop}{s:ak}
def cJ(n d:Nat):Option Int->Nat
 |none=>d
 |some v=>if v<0 then(v+(n:Int)).toNat else min v.toNat n
theorem DB(n d:Nat)(hd:d<=n)(o:Option Int):cJ n d o<=n:=by
 cases o with
 |none=>exact hd
 |some v=>
  show(if v<0 then(v+(n:Int)).toNat else min v.toNat n)<=n;by_cases hv:v<0
  ·rw[aw hv];omega
  ·rw[ay hv];exact Nat.min_le_right _ _
end
end HT
namespace L2
open PySem PySem.Spec PyProof.Rows
abbrev TO:=St->Hp->(Option Int->Hp->Prop)->Prop
def PO(X:Cx)(e:Option aO)(t:TO):Prop:=
 ∀(af:List (ah×Obj)) (s:ak) (σ:St) (H:Hp) (Q:Option Int->Hp->Prop),Inv X af σ H s->t σ H Q ->
  wpAny (model X.prog X.w) X.A (evalPart e X.env) (λu s'=>∃o H',Inv X af σ H' s'/\IsPart u o/\Q o H') X.xe s
def Cz:TO:=λ_ H Q=>Q ae H
def zK(t:TE):TO:=λσ H Q=>t σ H λx H1=>∃i,x=.int i/\Q (ab i) H1
section
variable{X:Cx}{e:aO}{te:TE}{lo hi:Option aO}{tl th:TO}{pos p2:Pos}
theorem qm:PO X ae Cz:=by intro af s σ H Q I h;rw[evalPart_none];exact bo ⟨ae,H,I,.none,h⟩
theorem mm(h:PE X e te):PO X (ab e) (zK te):=by intro af s σ H Q I hw;rw[evalPart_some];refine aK (h af s σ H _ I hw) λu s1 ⟨x,H1,I1,r1,q1⟩=>?_;obtain⟨i,rfl,q⟩:=q1;obtain⟨t,rfl⟩:=r1;exact⟨ab i,H1,I1,.int i t,q⟩
def kG(X:Cx)(r:V->Option Int->Option Int->Hp->VK->Prop):Prop:=
 ∀(af:List (ah×Obj)) (s:ak) (σ:St) (H:Hp) (x:V) (v vl vu:ag) (lo hi:Option Int) (sl:ah) (Q:VK),Inv X af σ H s->RelV x v->s.heap.IsSliceOf sl vl vu .none->IsPart vl lo->IsPart vu hi->r x lo hi H Q ->
  ∃T id,typeLookup (.type T) "__getitem__" = pure (ab (.builtin id))/\s.TypeIs v T/\wpAny (model X.prog X.w) X.A (getItem v (.ref sl)) (EP X af σ Q) X.xe s
theorem kG.or{r r':V->Option Int->Option Int->Hp->VK->Prop}(h:kG X r)(h':kG X r'):kG X (λx lo hi H Q=>r x lo hi H Q\/r' x lo hi H Q):=by
 intro af s σ H x v vl vu lo hi sl Q I rx hs pl pu q;rcases q with q|q
 ·exact h af s σ H x v vl vu lo hi sl Q I rx hs pl pu q
 ·exact h' af s σ H x v vl vu lo hi sl Q I rx hs pl pu q
def Cp(r:V->Option Int->Option Int->Hp->VK->Prop)(te:TE)(tl th:TO):TE:=λσ H Q=>te σ H λx H1=>tl σ H1 λl H2=>th σ H2 λu H3=>r x l u H3 Q
theorem nR{r:V->Option Int->Option Int->Hp->VK->Prop}(hr:kG X r)(he:PE X e te)(hl:PO X lo tl)(hu:PO X hi th):PE X (.Subscript e (.Slice lo hi ae p2) pos) (Cp r te tl th):=by intro af s σ H Q I h;refine Subscript_ (aK (he af s σ H _ I h) λv s1 ⟨x,H1,I1,r1,q1⟩=>?_);refine wpAny_Slice (aK (hl af s1 σ H1 _ I1 q1) λvl s2 ⟨l,H2,I2,pl,q2⟩=>aK (hu af s2 σ H2 _ I2 q2) λvu s3 ⟨u,H3,I3,pu,q3⟩=>?_);rw[evalPart_none];refine bo ?_;have I4:Inv X af σ H3 { s3 with heap:=s3.heap.push { cls:=.type "slice",data:=.fields #[vl,vu,.none] } }:=I3.kept (t':=s3.toks) λb ob q=>cP _ q;obtain⟨T,id,hT,ht,hg⟩:=hr af { s3 with heap:=s3.heap.push { cls:=.type "slice",data:=.fields #[vl,vu,.none] } } σ H3 x v vl vu l u s3.heap.objs.size Q I4 r1 (Heap.IsSliceOf.new ..) pl pu q3;show wpAny (model X.prog X.w) X.A (subscriptTail e (.Slice lo hi ae p2) v (.ref s3.heap.objs.size)) (EP X af σ Q) X.xe { s3 with heap:=s3.heap.push { cls:=.type "slice", data:=.fields #[vl,vu,.none] } };exact tail_any (ops:=[.ref s3.heap.objs.size,v]) ht hT hg (by with_unfolding_all rfl)
def n5(xs:List V)(lo hi:Option Int):List V:=(xs.drop (HT.cJ xs.length 0 lo)).take (HT.cJ xs.length xs.length hi-HT.cJ xs.length 0 lo)
theorem HU(xs:List V)(lo hi:Option Int):(n5 xs lo hi).length<=xs.length:=by unfold n5;rw[cO,fg];omega
end
def dB(n:Nat)(i:Int):Option Nat:=if 0<=i then(if i<n then ab i.toNat else ae)else if -(n:Int)<=i then ab (i+n).toNat else ae
def cU{α:Type}(xs:List α)(i:Int):Option α:=(dB xs.length i).bind λj=>xs[j]?
theorem CB{n:Nat}{i:Int}{j:Nat}(h:dB n i=ab j):seqIndex? i n=ab j/\j<n/\-(n:Int)<=i/\i<n:=by
 unfold dB at h;by_cases h0:0<=i
 ·rw[aw h0]at h;by_cases h1:i<n
  ·rw[aw h1]at h;have e:i.toNat=j:=fj h;exact⟨by rw[tV h0 h1,e],by omega,by omega,h1⟩
  ·rw[ay h1]at h;cases h
 ·rw[ay h0]at h;by_cases h1:-(n:Int)<=i
  ·rw[aw h1]at h;have e:(i+n).toNat=j:=fj h;exact⟨by rw[tU (by omega) h1,e],by omega,h1,by omega⟩
  ·rw[ay h1]at h;cases h
theorem vb{α:Type}{xs:List α}{i:Int}{v:α}(h:cU xs i=ab v):∃j,seqIndex? i xs.length=ab j/\xs[j]? = ab v/\j<xs.length/\-(xs.length:Int)<=i/\i<xs.length:=by
 unfold cU at h;cases e:dB xs.length i with
 |none=>rw[e]at h;cases h
 |some j=>
  rw[e]at h;obtain⟨h1,h2,h3,h4⟩:=CB e;exact⟨j,h1,h,h2,h3,h4⟩
def Af(b:aO):Prop:=∀o i,subscripted b false o i=operate [o,i] (getItem o i)
def j5(X:Cx)(r:R2):Prop:=
 ∀(value slice:aO) (af:List (ah×Obj)) (s:ak) (σ:St) (H:Hp) (x y:V) (v u:ag) (Q:VK),Inv X af σ H s->RelV x v->RelV y u->r x y H Q ->
  subscripted slice false v u=operate [v,u] (getItem v u)->wpAny (model X.prog X.w) X.A (subscriptTail value slice v u) (EP X af σ Q) X.xe s
def ka(X:Cx)(id:String)(r:V->List V->Hp->VK->Prop):Prop:=
 ∀(af:List (ah×Obj)) (s:ak) (σ:St) (H:Hp) (x:V) (xs:List V) (v:ag) (us:List ag) (Q:VK),Inv X af σ H s->RelV x v->Vals xs us->r x xs H Q ->
  wpAny (model X.prog X.w) X.A (call (.builtin id) (v::us)) (EP X af σ Q) X.xe s
section
variable{X:Cx}{a b:aO}{ta tb:TE}{pos:Pos}
theorem j5.or{r r':R2}(h:j5 X r)(h':j5 X r'):j5 X (λx y H Q=>r x y H Q\/r' x y H Q):=by
 intro value slice af s σ H x y v u Q I rx ry q hs;rcases q with q|q
 ·exact h value slice af s σ H x y v u Q I rx ry q hs
 ·exact h' value slice af s σ H x y v u Q I rx ry q hs
theorem CH{r:R2}(hr:j5 X r)(ha:PE X a ta)(hb:PE X b tb)(hs:Af b):PE X (.Subscript a b pos) (nh r ta tb):=by intro af s σ H Q I h;exact Subscript_ (vc ha hb I h λv u s2 x y H2 I2 rx ry q=>hr a b af s2 σ H2 x y v u Q I2 rx ry q (hs _ _))
def zl(K:aB):R2:=λx y H Q=>∃p xs i v,x=.ref p/\y=.int i/\cI K H p xs/\cU xs i=ab v/\Q v H
def Cv(K:aB):R2:=λx y H Q=>∃p xs i v,x=.ref p/\y=.int i/\eM K H p xs/\cU xs i=ab v/\Q v H
def yV:R2:=λx y H Q=>∃z i c,x=.str z/\y=.int i/\z.length<=sizeLine/\cU z.cps.toList i=ab c/\Q (.str ⟨#[c]⟩) H
theorem Fq:j5 X (zl X.K):=by
 intro value slice af s σ H x y v u Q I rx ry h hs;obtain⟨p,xs,i,z,rfl,rfl,hq,he,q⟩:=h;cases rx;obtain⟨t,rfl⟩:=ry;obtain⟨ai,r,pl,hz⟩:=I.list hq;obtain⟨j,h1,h2,h3,h4,h5⟩:=vb he;obtain⟨w,ew,rw'⟩:=r.get h2;have hl:=r.length;have hn:=qa;have fin:EP X af σ Q w s:=⟨z,H,I,rw',q⟩;by_cases h0:0<=i
 ·have hj:i.toNat=j:=by
   rw[tV h0 h5]at h1;exact fj h1
  exact item_listR pl.isList h0 (by omega) (by rw[hj];simpa using ew) fin hs
 ·have hj:(i+(ai.toArray.size:Int)).toNat=j:=by
   rw[tU (by omega) h4]at h1;rw[bG,<- hl];exact fj h1
  exact Ev (x:=w) pl.isList.typeIs slot_list_getitem.lookup
   (wpAny_getItem_list_neg (Q:=λr s'=>r=w/\EP X af σ Q r s') pl.isList (by omega) (by rw[bG]<;>omega) (by omega) (by rw[hj];simpa using ew) ⟨rfl,fin⟩) hs
theorem Ht:j5 X (Cv X.K):=by
 intro value slice af s σ H x y v u Q I rx ry h hs;obtain⟨p,xs,i,z,rfl,rfl,hq,he,q⟩:=h;cases rx;obtain⟨t,rfl⟩:=ry;obtain⟨ai,r,pl,hz⟩:=I.tuple hq;obtain⟨j,h1,h2,h3,h4,h5⟩:=vb he;obtain⟨w,ew,rw'⟩:=r.get h2;have hl:=r.length;have hn:=qa;have fin:EP X af σ Q w s:=⟨z,H,I,rw',q⟩;exact Ev (x:=w) pl.typeIs slot_tuple_getitem.lookup
  (getItem_tuple (j:=j) (Q:=λr s'=>r=w/\EP X af σ Q r s') pl (by omega) (by omega) (by rw[bG,<- hl];exact h1) (by simpa using ew) ⟨rfl,fin⟩) hs
theorem HZ:j5 X yV:=by
 intro value slice af s σ H x y v u Q I rx ry h hs;obtain⟨z,i,c,rfl,rfl,hz,he,q⟩:=h;obtain⟨t,rfl⟩:=rx;obtain⟨t',rfl⟩:=ry;obtain⟨j,h1,h2,h3,h4,h5⟩:=vb he;have hl:z.cps.toList.length=z.length:=by simp[mK]
 rw[hl]at h1 h4 h5;have hn:=qa;exact tail_any (typeIs_str s z t) slot_str_getitem.lookup (getItem_str (c:=c) (by
  have e1:decide (i < -(2 ^ 63:Int))=false:=bx (by omega);have e2:decide (i >= 2 ^ 63)=false:=bx (by omega);rw[e1,e2,Bool.or_false]) (by rw[h1];simpa using h2) ⟨.str ⟨#[c]⟩,H,I.tok _,⟨_,rfl⟩,q⟩) hs
def v4(K:aB):R2:=λx y H Q=>zl K x y H Q\/Cv K x y H Q\/yV x y H Q
theorem Ci:j5 X (v4 X.K):=Fq.or (Ht.or HZ)
theorem K3(ai:List ag)(n j:Nat)(u:ag):g6 (·.setIfInBounds j u) { cls:=.type "list",data:=.seq ai.toArray n }={ cls:=.type "list", data:=.seq (ai.set j u).toArray n }:=by simp[g6]
theorem Inv.lst{af:List (ah×Obj)}{σ:St}{H:Hp}{s:ak}{p:ah}{xs:List V}(I:Inv X af σ H s)(h:H p=ab (.lst xs)) :
 ∃(ai:List ag) (n:Nat),Vals xs ai/\s.heap.get? p=ab { cls:=.type "list", data:=.seq ai.toArray n }/\xs.length<=sizeLine:=by
 obtain⟨z,ai,n,r,e⟩:=I.hok p _ h;exact⟨ai,n,r,e,z⟩
theorem Inv.FJ{af:List (ah×Obj)}{σ:St}{H:Hp}{s:ak}{p:ah}{xs ys:List V}{ai its':List ag}{n n':Nat}{f:Obj->Obj}(I:Inv X af σ H s)(h:H p=ab (.lst xs))
 (ho:s.heap.get? p=ab { cls:=.type "list",data:=.seq ai.toArray n }) (hf:f { cls:=.type "list",data:=.seq ai.toArray n }={ cls:=.type "list", data:=.seq its'.toArray n' }) (r:Vals ys its') (hz:ys.length<=sizeLine) (t:Nat) :
 Inv X af σ (upd H p (.lst ys)) { s with heap:=s.heap.update p f,toks:=t }:=by
 have e:(s.heap.update p f).get? p=ab { cls:=.type "list", data:=.seq its'.toArray n' }:=by rw[xD f ho (by rw[hf]<;>rfl),hf]
 refine I.write (x:=p) (e:=p) (by rw[h];trivial) (.inl rfl) (λb u hb q=>(Ed _ _ (dS hb)).trans q) ⟨_,e⟩ ?_;exact⟨hz,its',n',r,e⟩
def De:V->V->V->Hp->(Hp->Prop)->Prop:=λo i v H Q=>∃p xs k j,o=.ref p/\i=.int k/\H p=ab (.lst xs)/\dB xs.length k=ab j/\Q (upd H p (.lst (xs.set j v)))
theorem set_list:zF X De:=by
 intro af s σ H o i v ov iv u Q I ro ri rv h;obtain⟨p,xs,k,j,rfl,rfl,hp,hj,q⟩:=h;cases ro;obtain⟨t,rfl⟩:=ri;obtain⟨ai,n,r,ho,hz⟩:=I.lst hp;obtain⟨h1,h2,h3,h4⟩:=CB hj;have hl:=r.length;have hn:=qa;have I':Inv X af σ (upd H p (.lst (xs.set j v))) { s with heap:=s.heap.update p (g6 (·.setIfInBounds j u)) }:=
  I.FJ hp ho (K3 ai n j u) (r.set rv j) (by rw[gq];exact hz) s.toks
 by_cases h0:0<=k
 ·have hk:k.toNat=j:=by
   rw[tV h0 h4]at h1;exact fj h1
  exact PySem.W.ki_setAt ho h0 (by omega) (by rw[bG,<- hl];exact h4) (by rw[hk];exact⟨_,I',q⟩)
 ·have hk:(k+(ai.toArray.size:Int)).toNat=j:=by
   rw[tU (by omega) h3]at h1;rw[bG,<- hl];exact fj h1
  exact PySem.W.ki_setBack ho (by omega) (by rw[bG,<- hl];exact h3) (by omega) (by rw[hk];exact⟨_,I',q⟩)
theorem Kw(lo hi:Option Int)(n:Nat):(sliceBounds lo hi ae n).1=((HT.cJ n 0 lo:Nat):Int)/\(sliceBounds lo hi ae n).2.1=((HT.cJ n n hi:Nat):Int)/\(sliceBounds lo hi ae n).2.2=1:=by
 refine⟨?_,?_,rfl⟩
 ·cases lo with
  |none=>simp[sliceBounds,HT.cJ]
  |some i=>
   simp only[sliceBounds,HT.cJ,Ei,show(1:Int)>0 by decide,gX];by_cases h:i<0
   ·simp only[h,gX]<;>omega
   ·simp only[h,gg]<;>omega
 ·cases hi with
  |none=>simp[sliceBounds,HT.cJ]
  |some i=>
   simp only[sliceBounds,HT.cJ,Ei,show(1:Int)>0 by decide,gX];by_cases h:i<0
   ·simp only[h,gX]<;>omega
   ·simp only[h,gg]<;>omega
theorem GX(ai:List ag)(lo hi:Option Int):slicePick ai.toArray lo hi ae=((ai.drop (HT.cJ ai.length 0 lo)).take (HT.cJ ai.length ai.length hi-HT.cJ ai.length 0 lo)).toArray:=by obtain⟨h1,h2,h3⟩:=Kw lo hi ai.toArray.size;unfold slicePick;rw[h1,h2,h3];simp only[sliceRange_one,pick_run,bG]<;>rfl
def C6(K:aB):V->Option Int->Option Int->Hp->VK->Prop:=λx lo hi H Q=>∃a xs,x=.ref a/\cI K H a xs/\∀p,H p=ae->Q (.ref p) (upd H p (.lst (n5 xs lo hi)))
theorem FZ:kG X (C6 X.K):=by intro af s σ H x v vl vu lo hi sl Q I rx hs pl pu h;obtain⟨a,xs,rfl,hx,q⟩:=h;cases rx;obtain⟨ai,r,ht,hz⟩:=I.list hx;have hlen:=r.length;refine⟨"list", _,slot_list_getitem.lookup,ht.isList.typeIs,?_⟩;refine wpAny_getItem_list_slice ht.isList hs pl pu .none (by simp) ?_ (by rw[bG]<;>omega);rw[GX,<- hlen];refine⟨.ref s.heap.objs.size,_,I.laid (t':=s.toks) (o:=.lst (n5 xs lo hi)) (λb ob q=>cP _ q) (bg _) ?_,rfl,q _ (I.hok.fresh (bg _))⟩;exact⟨d5 (HU xs lo hi) hz,_,0,(r.drop (HT.cJ xs.length 0 lo)).take (HT.cJ xs.length xs.length hi-HT.cJ xs.length 0 lo),eE _ rfl⟩
def ve:V->Bool
 |.non=>true
 |.bl _=>true
 |.int _=>true
 |.str _=>true
 |_=>false
def yR:V->V->Bool
 |.non,.non=>true
 |.bl a,.bl b=>a==b
 |.bl a,.int b=>(if a then 1 else 0)==b
 |.int a,.bl b=>a==(if b then 1 else 0)
 |.int a,.int b=>a==b
 |.str a,.str b=>a==b
 |_,_=>false
theorem Gv{A:br}{s:ak}{y x:V}{u v:ag}(ry:RelV y u)(rx:RelV x v)(fy:ve y=true)(fx:ve x=true):SeqAt.EqAt A s u v (yR y x):=by
 cases y with
 |non=>
  cases ry;cases x with
  |non=>cases rx;exact SeqAt.EqAt.same _
  |bl b=>cases rx;exact SeqAt.EqAt.none_bool b
  |int b=>obtain⟨t,rfl⟩:=rx;exact SeqAt.EqAt.none_int b t
  |str b=>obtain⟨t,rfl⟩:=rx;exact SeqAt.EqAt.none_str b t
  |_=>exact absurd (show false=true from fx) cW
 |bl a=>
  cases ry;cases x with
  |non=>cases rx;exact SeqAt.EqAt.bool_none a
  |bl b=>cases rx;exact EH a b
  |int b=>obtain⟨t,rfl⟩:=rx;exact SeqAt.EqAt.bool_int a b t
  |str b=>obtain⟨t,rfl⟩:=rx;exact EI a b t
  |_=>exact absurd (show false=true from fx) cW
 |int a=>
  obtain⟨t',rfl⟩:=ry;cases x with
  |non=>cases rx;exact SeqAt.EqAt.int_none a t'
  |bl b=>cases rx;exact SeqAt.EqAt.int_bool a t' b
  |int b=>obtain⟨t,rfl⟩:=rx;exact SeqAt.EqAt.int_int a t' b t
  |str b=>obtain⟨t,rfl⟩:=rx;exact SeqAt.EqAt.int_str a t' b t
  |_=>exact absurd (show false=true from fx) cW
 |str a=>
  obtain⟨t',rfl⟩:=ry;cases x with
  |non=>cases rx;exact SeqAt.EqAt.str_none a t'
  |bl b=>cases rx;exact EJ a t' b
  |int b=>obtain⟨t,rfl⟩:=rx;exact SeqAt.EqAt.str_int a t' b t
  |str b=>obtain⟨t,rfl⟩:=rx;exact SeqAt.EqAt.str_str a t' b t
  |_=>exact absurd (show false=true from fx) cW
 |_=>exact absurd (show false=true from fy) cW
theorem Ks:fo X (.type "list") (λxs H Q=>∃p ys,xs=[.ref p]/\(cI X.K H p ys\/eM X.K H p ys)/\∀l,H l=ae->Q (.ref l) (upd H l (.lst ys))):=by
 intro af s σ H xs us Q I r h;obtain⟨p,ys,rfl,hq,q⟩:=h;obtain⟨u,rfl,rx⟩:=vals1 r;cases rx;have fin:∀(ai:List ag),Vals ys ai->ys.length<=sizeLine->∀(h':aI) (c':Nat),(∀b o',s.heap.get? b=ab o'->h'.get? b=ab o') ->
  h'.get? s.heap.objs.size=ab { cls:=.type "list", dict:=ae,data:=.seq ai.toArray c',slots:=#[] }->EP X af σ Q (.ref s.heap.objs.size) { s with heap:=h' }:=λai r' hz h' c' kp e=>
  ⟨.ref s.heap.objs.size,_,I.laid (t':=s.toks) kp (bg _) (show bP X.prog X.w _ h' _ (.lst ys)from⟨hz,ai,c',r',e⟩),rfl,q _ (I.hok.fresh (bg _))⟩
 rcases hq with hq|hq
 ·obtain⟨ai,r',pl,hz⟩:=I.list hq;have hlen:=r'.length;obtain⟨o,ho,hc,n,hd⟩:=pl.isList;exact call_list_seq p (.inl rfl) ho hc hd (λh' c' kp e=>fin ai r' hz h' c' kp e) (by simp only[bG]<;>omega)
 ·obtain⟨ai,r',pl,hz⟩:=I.tuple hq;have hlen:=r'.length;obtain⟨o,ho,hc,n,hd⟩:=pl;exact call_list_seq p (.inr rfl) ho hc hd (λh' c' kp e=>fin ai r' hz h' c' kp e) (by simp only[bG]<;>omega)
theorem K4:fo X (.type "tuple") (λxs H Q=>∃p ys,xs=[.ref p]/\((cI X.K H p ys/\∀l,H l=ae->Q (.ref l) (upd H l (.tup ys)))\/(eM X.K H p ys/\Q (.ref p) H))):=by
 intro af s σ H xs us Q I r h;obtain⟨p,ys,rfl,h⟩:=h;obtain⟨u,rfl,rx⟩:=vals1 r;cases rx;rcases h with ⟨hq,q⟩|⟨hq,q⟩
 ·obtain⟨ai,r',pl,hz⟩:=I.list hq;have hlen:=r'.length;refine call_tuple_list pl.isList (λh' kp=>?_) (by simp only[bG]<;>omega);have I1:Inv X af σ H { s with heap:=h' }:=I.kept (t':=s.toks) kp;have I2:Inv X af σ (upd H h'.objs.size (.tup ys)) { s with heap:=h'.push { cls:=.type "tuple", data:=.seq ai.toArray } }:=
   I1.laid (t':=s.toks) (λb o e=>cP _ e) (bg _) (show bP X.prog X.w _ _ _ (.tup ys)from⟨hz,ai,r',mU.new _ _⟩)
  exact⟨.ref h'.objs.size,_,I2,rfl,q _ (I1.hok.fresh (bg _))⟩
 ·obtain⟨ai,r',pl,hz⟩:=I.tuple hq;exact call_tuple_same pl ⟨.ref p,H,I,rfl,q⟩
def rP(K:aB)(T:String)(x:V)(H:Hp):Prop:=match x with
 |.str _=>T = "str"
 |.int _=>T = "int"
 | .ref p=>(T = "list" /\ ∃xs,cI K H p xs)\/(T = "tuple" /\ ∃o,K.lookup p=ab o/\o.cls=.type "tuple" /\ o.dict=ae) \/
  (T = "dict" /\ ((∃am,H p=ab (.dK am))\/∃am,H p=ab (.dT am)))\/(T = "set" /\ ∃S n,H p=ab (.set S n))
 |_=>False
theorem v5{af:List (ah×Obj)}{σ:St}{H:Hp}{s:ak}{T:String}{x:V}{v:ag}(I:Inv X af σ H s)(r:RelV x v)(ty:rP X.K T x H) :
 s.TypeIs v T/\∀a,v=.ref a->∃ob,s.heap.get? a=ab ob/\ob.dict=ae:=by
 cases x with
 |str z=>
  obtain⟨t,rfl⟩:=r;cases(show T = "str" from ty);exact⟨typeIs_str s z t,λ_ e=>nomatch e⟩
 |int i=>
  obtain⟨t,rfl⟩:=r;cases(show T = "int" from ty);exact⟨typeIs_int s i t,λ_ e=>nomatch e⟩
 |ref p=>
  cases r;rcases ty with ⟨rfl,xs,hq⟩|⟨rfl,o,hk,hc,hd⟩|⟨rfl,hk⟩|⟨rfl,S,n,hk⟩
  ·obtain⟨ai,_,pl,_⟩:=I.list hq;refine⟨pl.isList.typeIs,λa e=>?_⟩;cases e;obtain⟨o,n,e,c,hd,_⟩:=pl;exact⟨o,e,hd⟩
  ·refine⟨⟨o,I.eX p o hk,hc⟩,λa e=>?_⟩;cases e;exact⟨o,I.eX _ o hk,hd⟩
  ·have z:∃o,s.heap.get? p=ab o/\o.ExactDict:=by
    rcases hk with ⟨am,hk⟩|⟨am,hk⟩
    ·obtain⟨_,_,_,_,o,_,_,e,ex,_⟩:=I.hok p _ hk;exact⟨o,e,ex⟩
    ·obtain⟨_,_,_,_,o,_,_,e,ex,_⟩:=I.hok p _ hk;exact⟨o,e,ex⟩
   obtain⟨o,e,ex⟩:=z;refine⟨⟨o,e,ex.1⟩,λa e2=>?_⟩;cases e2;exact⟨o,e,ex.2.1⟩
  ·obtain⟨o,_,_,_,e,ex,_⟩:=I.hok p _ hk;refine⟨⟨o,e,ex.1⟩,λa e2=>?_⟩;cases e2;exact⟨o,e,ex.2.1⟩
 |_=>exact jM ty
def lN(K:aB)(T:String)(r:V->List V->Hp->VK->Prop)(to:TE):TE:=λσ H Q=>to σ H λx H1=>rP K T x H1/\r x [] H1 Q
def lP(K:aB)(T:String)(r:V->List V->Hp->VK->Prop)(to:TE)(t:TA):TE:=λσ H Q=>to σ H λx H1=>rP K T x H1/\t σ H1 λxs H2=>r x xs H2 Q
variable{o e:aO}{es:List aO}{to:TE}{t:TA}{name:Str}{apos cpos:Pos}{T id:String}{r:V->List V->Hp->VK->Prop}
theorem ww(pa:tW T)(slot:Slot T name id)(hty:typeOf (.builtin id)=pure (.type "method_descriptor"))(hm:ka X id r)(ho:PE X o to)
 (hbase:attributeBase o name X.env (eval o X.env)=eval o X.env:=by rfl) (hline:(apos.endLine==cpos.line)=true:=by rfl):PE X (.Call (.Attribute o name apos) [] [] cpos) (lN X.K T r to):=by
 intro af s σ H Q I h;refine wpAny_Call_method0_late hbase hline (aK (ho af s σ H _ I h) λv s1 ⟨x,H1,I1,r1,ty,q1⟩=>?_);obtain⟨h1,h2⟩:=v5 I1 r1 ty;exact⟨T,id,pa,slot,hty,h1,h2,ud rfl (PySem.evalArgs_none (hm af s1 σ H1 x [] v [] Q I1 r1 .nil q1))⟩
theorem hW(pa:tW T)(slot:Slot T name id)(hty:typeOf (.builtin id)=pure (.type "method_descriptor"))(hm:ka X id r)(ho:PE X o to)(ha:PA X (e::es) t)
 (hbase:attributeBase o name X.env (eval o X.env)=eval o X.env:=by rfl)
 (hfew:((backTo cpos (starEach (e::es) X.env)).all (λx=>!x.1)&&(backToKw cpos (keywordEach [] X.env)).all (λx=>x.1.isSome)
  && decide ((e::es).length+([]:List Keyword).length+(if([]:List Keyword).isEmpty then 0 else 1)<30))=true:=by rfl)
 (hline:(apos.endLine==cpos.line)=true:=by rfl) (hs:starEach (e::es) X.env=(false,eval e X.env)::starEach es X.env:=by rfl) (hplain:(backTo cpos (starEach es X.env)).any (·.1)=false:=by rfl) :
 PE X (.Call (.Attribute o name apos) (e::es) [] cpos) (lP X.K T r to t):=by
 intro af s σ H Q I h;refine Ec hbase hfew hline rfl (aK (ho af s σ H _ I h) λv s1 ⟨x,H1,I1,r1,ty,q1⟩=>?_);obtain⟨h1,h2⟩:=v5 I1 r1 ty;refine⟨T,id,pa,slot,hty,h1,h2,?_⟩;have hA:=ha cpos af s1 σ H1 _ I1 q1;rw[hs]at hA ⊢;refine ud (by show(false||(backTo cpos (starEach es X.env)).any (·.1))=false;rw[hplain]<;>rfl) (xP ?_);exact aK hA λus s2 ⟨vs,H2,I2,r2,q2⟩=>hm af s2 σ H2 x vs v us Q I2 r1 r2 q2
end
def pB(X:Cx)(id:String)(r:V->List V->Hp->VK->Prop):Prop:=
 ∀(af:List (ah×Obj)) (s:ak) (σ:St) (H:Hp) (x:V) (xs:List V) (v:ag) (us:List ag) (Q:VK),Inv X af σ H s->RelV x v->Vals xs us->r x xs H Q ->
  wpAny (model X.prog X.w) X.A (call (.builtin id) (v::us)) (EP X af σ Q) X.xe s
theorem Vals.one:∀{x:V} {us:List ag},Vals [x] us->∃u,us=[u]/\RelV x u
 |_,_,.cons r .nil=>⟨_,rfl,r⟩
theorem Vals.zero:∀{us:List ag},Vals [] us->us=[]
 |_,.nil=>rfl
theorem Vals.eraseIdx:∀{xs:List V} {us:List ag} (i:Nat),Vals xs us->Vals (xs.eraseIdx i) (us.eraseIdx i)
 |_,_,_,.nil=>.nil
 |_,_,0,.cons _ t=>t
 |_,_,i+1,.cons r t=>.cons r (Vals.eraseIdx i t)
theorem Vals.reverse{xs:List V}{us:List ag}(h:Vals xs us):Vals xs.reverse us.reverse:=by
 induction h with
 |nil=>exact .nil
 |cons r t ih=>rw[mz,mz];exact Vals.append ih (.cons r .nil)
theorem y8{α:Type}:∀(l:List α) (i:Nat),(l.eraseIdx i).length<=l.length
 |[],_=>bg _
 |_::_,0=>qI _
 |_::r,i+1=>Nat.succ_le_succ (y8 r i)
section
variable{X:Cx}{af:List (ah×Obj)}{σ:St}{H:Hp}{s:ak}{l b:ah}{xs ys zs:List V}
theorem Inv.pD{ai its':List ag}{n:Nat}{f:Array ag->Array ag}{t':Nat}(I:Inv X af σ H s)(hH:H l=ab (.lst xs))
 (e:s.heap.get? l=ab { cls:=.type "list", data:=.seq ai.toArray n }) (hf:f ai.toArray=its'.toArray) (hv:Vals ys its') (hz:ys.length<=sizeLine) :
 Inv X af σ (upd H l (.lst ys)) { s with heap:=s.heap.update l (g6 f),toks:=t' }:=by
 have q:=PySem.IsL.update e f;rw[hf]at q;refine I.write (x:=l) (e:=l) (by rw[hH];exact trivial) (.inl rfl) (λb' u hb hu=>(Ed s.heap (g6 f) (dS hb)).trans hu) ⟨_,q⟩ ?_;exact⟨hz,its',_,hv,q⟩
theorem Inv.J3{ai:List ag}{t':Nat}(I:Inv X af σ H s)(hv:Vals ys ai)(hz:ys.length<=sizeLine) :
 Inv X af σ (upd H s.heap.objs.size (.lst ys)) { s with heap:=s.heap.push { cls:=.type "list", data:=.seq ai.toArray },toks:=t' }:=
 I.laid (λ_ _ q=>cP _ q) (bg _) ⟨hz,ai,0,hv,eE _ rfl⟩
theorem Inv.fresh(I:Inv X af σ H s):H s.heap.objs.size=ae:=I.hok.fresh (bg _)
theorem Inv.pQ(I:Inv X af σ H s)(hH:H l=ab (.lst xs)):xs.length<=sizeLine/\∃(ai:List ag) (n:Nat),Vals xs ai/\xs.length=ai.length/\s.heap.get? l=ab { cls:=.type "list", data:=.seq ai.toArray n }:=by obtain⟨z,ai,n,r,e⟩:=I.hok l _ hH;exact⟨z,ai,n,r,r.length,e⟩
theorem JS{n:Nat}(h:n<=sizeLine):xQ n=false:=by unfold xQ;exact bx (by omega)
end
section
variable{X:Cx}
def vj:V->List V->Hp->VK->Prop:=λx vs H Q=>∃l xs y,x=.ref l/\vs=[y]/\H l=ab (.lst xs)/\xs.length<sizeLine/\Q .non (upd H l (.lst (xs++[y])))
theorem m8:pB X "list.append" vj:=by intro af s σ H x vs v us Q I rx rv h;obtain⟨l,xs,y,rfl,rfl,hH,hz,q⟩:=h;cases rx;obtain⟨u,rfl,ru⟩:=rv.one;obtain⟨z,ai,n,r,hl,e⟩:=I.pQ hH;refine oo F.slot_list_append ⟨_,e,rfl⟩ F.entry_list_append (F.args_list_append_2 _ _) (PySem.list_append l ai.toArray n u (by rw[bG];omega)) ⟨e,?_⟩;refine⟨.non,_,I.pD (its':=ai++[u]) hH e (by simp) (r.append (.cons ru .nil)) ?_,rfl,q⟩;rw[bB,dI];omega
def uA:V->List V->Hp->VK->Prop:=λx vs H Q=>∃l xs i k y,x=.ref l/\vs=[.int i]/\H l=ab (.lst xs)/\-(2 ^ 63)<=i/\i<2 ^ 63/\seqIndex? i xs.length=ab k/\xs[k]? = ab y/\Q y (upd H l (.lst (xs.eraseIdx k)))
theorem wf:pB X "list.pop" uA:=by
 intro af s σ H x vs v us Q I rx rv h;obtain⟨l,xs,i,k,y,rfl,rfl,hH,h1,h2,hk,hy,q⟩:=h;cases rx;obtain⟨u,rfl,ru⟩:=rv.one;obtain⟨t,rfl⟩:=ru;obtain⟨z,ai,n,r,hl,e⟩:=I.pQ hH;obtain⟨w,hw,rw'⟩:=r.get hy;refine oo F.slot_list_pop ⟨_,e,rfl⟩ F.entry_list_pop (F.args_list_pop_2 _ _)
  (MeetsSeq.list_pop_at l ai.toArray n i t k w (fitsIndex_both h1 h2) (by rw[bG,<- hl];exact hk) (by rw[<- Ey];exact hw) (by rw[bG];omega)) ⟨e,?_⟩
 refine⟨y,_,I.pD (its':=ai.eraseIdx k) hH e ?_ (r.eraseIdx k) ?_,rw',q⟩
 ·show ai.toArray.eraseIdxIfInBounds k=(ai.eraseIdx k).toArray;rw[List.eraseIdxIfInBounds_toArray]
 ·have:=y8 xs k;omega
def BJ:V->List V->Hp->VK->Prop:=λx vs H Q=>∃l xs,x=.ref l/\vs=[]/\H l=ab (.lst xs)/\Q .non (upd H l (.lst xs.reverse))
theorem Hq:pB X "list.reverse" BJ:=by intro af s σ H x vs v us Q I rx rv h;obtain⟨l,xs,rfl,rfl,hH,q⟩:=h;cases rx;have hus:=rv.zero;subst hus;obtain⟨z,ai,n,r,hl,e⟩:=I.pQ hH;refine oo F.slot_list_reverse ⟨_,e,rfl⟩ F.entry_list_reverse (F.args_list_reverse_1 _) (AutoSeq1.list_reverse_list_0 l ai.toArray n (by rw[bG];omega)) ⟨e,?_⟩;refine⟨.non,_,I.pD (its':=ai.reverse) hH e (by simp) r.reverse ?_,rfl,q⟩;rw[tI];omega
def nW:V->List V->Hp->VK->Prop:=λx vs H Q=>∃l xs,x=.ref l/\vs=[]/\H l=ab (.lst xs)/\Q .non (upd H l (.lst []))
theorem zW:pB X "list.clear" nW:=by intro af s σ H x vs v us Q I rx rv h;obtain⟨l,xs,rfl,rfl,hH,q⟩:=h;cases rx;have hus:=rv.zero;subst hus;obtain⟨z,ai,n,r,hl,e⟩:=I.pQ hH;refine oo F.slot_list_clear ⟨_,e,rfl⟩ F.entry_list_clear (F.args_list_clear_1 _) (AutoSeq1.list_clear_list_0 l ai.toArray n (by rw[bG];omega)) ⟨e,?_⟩;exact⟨.non,_,I.pD (its':=[]) (ys:=[]) hH e rfl .nil (fi _),rfl,q⟩
end
section
variable{κ:Type}[DecidableEq κ]
def f9(am:List (κ×V))(k:κ):Option V:=(am.find? λkv=>decide (kv.1=k)).map (·.2)
def putK(am:List (κ×V))(k:κ)(v:V):List (κ×V):=if(am.any λkv=>decide (kv.1=k))=true then am.map (λkv=>if kv.1=k then(kv.1,v)else kv)else am++[(k,v)]
theorem wy{p:κ×V}{r:List (κ×V)}{k:κ}(e:p.1=k):f9 (p::r) k=ab p.2:=by simp[f9,jD,e]
theorem wc{p:κ×V}{r:List (κ×V)}{k:κ}(e:¬ p.1=k):f9 (p::r) k=f9 r k:=by simp[f9,jD,e]
theorem Bj(k:κ):∀am:List (κ×V),(am.any λkv=>decide (kv.1=k))=(f9 am k).isSome
 |[]=>rfl
 |p::r=>by
  rw[i5];by_cases e:p.1=k
  ·simp only[wy e,cM e,xH,Option.isSome_some]
  ·rw[wc e,bx e,jH];exact Bj k r
theorem At(am:List (κ×V))(k:κ)(v:V):(putK am k v).length<=am.length+1:=by
 unfold putK;split
 ·rw[aS];omega
 ·rw[bB,ce,mD];omega
theorem iK.vz{o:Option V}{u:Option ag}(r:iK o u):o.isSome=u.isSome:=by
 cases o with
 | none=>cases u with
  |none=>rfl
  |some _=>exact(show False from r).elim
 | some _=>cases u with
  |none=>exact(show False from r).elim
  |some _=>rfl
theorem KV.val{am:List (κ×V)}{vs:List (κ×ag)}(r:KV am vs)(k:κ):iK (f9 am k) (valueAt vs k):=by
 unfold KV at r
 induction r with
 |nil=>exact gK
 | @cons p q ps qs h t ih=>
  obtain⟨h1,h2⟩:=h;by_cases e:p.1=k
  ·have e':q.1=k:=h1.symm.trans e;have b:valueAt (q::qs) k=ab q.2:=by simp[valueAt,jD,e']
   rw[wy e,b];exact h2
  ·have e':¬ q.1=k:=λz=>e (h1.trans z);have b:valueAt (q::qs) k=valueAt qs k:=by simp[valueAt,jD,e']
   rw[wc e,b];exact ih
theorem KV.any{am:List (κ×V)}{vs:List (κ×ag)}(r:KV am vs)(k:κ):(am.any λkv=>decide (kv.1=k))=vs.any λkv=>decide (kv.1=k):=by
 unfold KV at r
 induction r with
 |nil=>rfl
 |cons h t ih=>rw[i5,i5,ih,h.1]
theorem KV.repl{am:List (κ×V)}{vs:List (κ×ag)}(r:KV am vs)(k:κ){y:V}{u:ag}(ry:RelV y u) :
 KV (am.map λkv=>if kv.1=k then(kv.1,y)else kv) (vs.map λkv=>if kv.1=k then(kv.1,u)else kv):=by
 unfold KV at r ⊢
 induction r with
 |nil=>exact .nil
 | @cons p q ps qs h t ih=>
  rw[cD,cD];refine .cons ?_ ih;obtain⟨h1,h2⟩:=h;by_cases e:p.1=k
  ·rw[aw e,aw (h1.symm.trans e)];exact⟨h1,ry⟩
  ·rw[ay e,ay (λz=>e (h1.trans z))];exact⟨h1,h2⟩
theorem KV.put{am:List (κ×V)}{vs:List (κ×ag)}(r:KV am vs)(k:κ){y:V}{u:ag}(ry:RelV y u):KV (putK am k y) (stored vs k u):=by
 unfold putK stored;rw[r.any k];by_cases e:(vs.any λkv=>decide (kv.1=k))=true
 ·rw[aw e,aw e];exact r.repl k ry
 ·rw[ay e,ay e];exact Paired.snoc r ⟨rfl,ry⟩
theorem KV.length{am:List (κ×V)}{vs:List (κ×ag)}(r:KV am vs):am.length=vs.length:=xS r
end
theorem rV{P:bb}{w:aT}{k:Key}{u:ag}(r:RelV (kV k) u):(gO P w).is k u=true:=by
 cases k with
 |inl i=>obtain e:=(show u=mI i from r);subst e;exact Fl P w i
 |inr x=>obtain⟨t,e⟩:=(show∃t,u=ko x t from r);subst e;exact Jj P w x t
theorem BX{P:bb}{w:aT}:∀{ks:List Key} {us:List ag},Vals (ks.map kV) us->ItemsAre (gO P w) ks us
 |[],_,r=>by rw[oj]at r;cases r;exact .nil
 |k::ks,_,r=>by
  rw[cD]at r;cases r with
  |cons h t=>exact .cons (rV h) (BX t)
abbrev KT(H:Hp):List (List Key×V)->List (List Key×ah×ag)->Prop:=oq λp q=>p.1=q.1/\H q.2.1=ab (.tup (p.1.map kV))/\RelV p.2 q.2.2
theorem KT.val{H:Hp}{am:List (List Key×V)}{xs:List (List Key×ah×ag)}(r:KT H am xs)(k:List Key):iK (f9 am k) ((atKey xs k).map (·.2)):=by
 induction r with
 |nil=>exact gK
 | @cons p q ps qs h t ih=>
  obtain⟨h1,_,h2⟩:=h;by_cases e:p.1=k
  ·have e':q.1=k:=h1.symm.trans e;have b:atKey (q::qs) k=ab q.2:=by simp[atKey,jD,e']
   rw[wy e,b];exact h2
  ·have e':¬ q.1=k:=λz=>e (h1.trans z);have b:atKey (q::qs) k=atKey qs k:=by simp[atKey,jD,e']
   rw[wc e,b];exact ih
theorem KT.repl{H:Hp}{am:List (List Key×V)}{xs:List (List Key×ah×ag)}(r:KT H am xs)(k:List Key){y:V}{u:ag}(ry:RelV y u) :
 KT H (am.map λkv=>if kv.1=k then(kv.1,y)else kv) (xs.map (putAt k u)):=by
 induction r with
 |nil=>exact .nil
 | @cons p q ps qs h t ih=>
  rw[cD,cD];refine .cons ?_ ih;obtain⟨h1,h2,h3⟩:=h;unfold putAt;by_cases e:p.1=k
  ·rw[aw e,aw (h1.symm.trans e)];exact⟨h1,h2,ry⟩
  ·rw[ay e,ay (λz=>e (h1.trans z))];exact⟨h1,h2,h3⟩
theorem KT.put{H:Hp}{am:List (List Key×V)}{xs:List (List Key×ah×ag)}(r:KT H am xs)(k:List Key){b:ah}{y:V}{u:ag}(hb:H b=ab (.tup (k.map kV)))(ry:RelV y u) :
 KT H (putK am k y) (storedH xs k b u):=by
 have e:(am.any λkv=>decide (kv.1=k))=(atKey xs k).isSome:=by rw[Bj,(r.val k).vz,Eh]
 unfold putK storedH;rw[e];by_cases q:(atKey xs k).isSome=true
 ·rw[aw q,aw q];exact r.repl k ry
 ·rw[ay q,ay q];exact Paired.snoc r ⟨rfl,hb,ry⟩
theorem KT.keeps{H H':Hp}{am:List (List Key×V)}{xs:List (List Key×ah×ag)}(r:KT H am xs)(ht:∀b ys,H b=ab (.tup ys)->H' b=ab (.tup ys)):KT H' am xs:=Paired.wJ r λ_ _ z=>⟨z.1,ht _ _ z.2.1,z.2.2⟩
section
variable{P:bb}{w:aT}{H:Hp}{h:aI}{a:ah}
theorem BU{u:HO}(ok:cz P w H h)(e:Rd H a u):bP P w H h a u:=e.ok ok
theorem qT{am:List (Key×V)}(ok:cz P w H h)(e:Rd H a (.dK am)):am.length<=sizeLine/\(a==sysModules)=false/\∃vs,KV am vs/\h.DictOf (gO P w) a vs:=show bP P w H h a (.dK am)from BU ok e
theorem FY{am:List (Key×V)}(ok:cz P w H h)(e:H a=ab (.dK am)):am.length<=sizeLine/\(a==sysModules)=false/\∃vs,KV am vs/\h.DictOf (gO P w) a vs:=qT ok (.inl e)
theorem sA{ks:List Key}(ok:cz P w H h)(e:H a=ab (.tup (ks.map kV))):(tupleKind (gO P w)).is h ks a:=by obtain⟨_,ai,r,o,h1,h2,_,n,h3⟩:=(show bP P w H h a (.tup (ks.map kV))from ok a _ e);exact⟨o,ai.toArray,n,h1,h2,h3,by simpa using BX r⟩
theorem rB{am:List (List Key×V)}(ok:cz P w H h)(e:Rd H a (.dT am)):am.length<=sizeLine/\(a==sysModules)=false /\
 ∃xs,KT H am xs/\h.DictOfH (tupleKind (gO P w)) a xs:=by
 obtain⟨z,y,xs,r,o,es,ep,h1,h2,h3,h4,h5⟩:=(show bP P w H h a (.dT am)from BU ok e);refine⟨z,y,xs,r,o,es,ep,h1,h2,h3,h4,λx hx=>?_,h5⟩;have all:∀{l:List (List Key×V)} {m:List (List Key×ah×ag)},KT H l m->∀x∈m,(tupleKind (gO P w)).is h x.1 x.2.1:=by
  intro l m q
  induction q with
  |nil=>intro x hx;exact nomatch hx
  | @cons p q ps qs hq t ih=>
   intro x hx;rcases bK.mp hx with e|hx
   ·subst e;exact sA ok (by rw[<- hq.1];exact hq.2.1)
   ·exact ih x hx
 exact all r x hx
theorem F2{am:List (List Key×V)}(ok:cz P w H h)(e:H a=ab (.dT am)):am.length<=sizeLine/\(a==sysModules)=false /\
 ∃xs,KT H am xs/\h.DictOfH (tupleKind (gO P w)) a xs:=rB ok (.inl e)
end
def ib(H:Hp)(a:ah)(y:V)(r:Option V):Prop:=(∃am k,Rd H a (.dK am)/\y=kV k/\r=f9 am k)\/∃am k b,Rd H a (.dT am)/\y=.ref b/\H b=ab (.tup (k.map kV))/\r=f9 am k
def kW(H:Hp)(a:ah)(y v:V)(H':Hp):Prop:=
 (∃am k,H a=ab (.dK am)/\y=kV k/\am.length<sizeLine/\H'=upd H a (.dK (putK am k v))) \/
 ∃am k b,H a=ab (.dT am)/\y=.ref b/\H b=ab (.tup (k.map kV))/\am.length<sizeLine/\H'=upd H a (.dT (putK am k v))
theorem ib.k{H:Hp}{a:ah}{am:List (Key×V)}{k:Key}(e:H a=ab (.dK am)):ib H a (kV k) (f9 am k):=.inl ⟨am,k,.inl e,rfl,rfl⟩
theorem ib.t{H:Hp}{a b:ah}{am:List (List Key×V)}{k:List Key}(e:H a=ab (.dT am))(eb:H b=ab (.tup (k.map kV))):ib H a (.ref b) (f9 am k):=.inr ⟨am,k,b,.inl e,rfl,eb,rfl⟩
theorem kW.k{H:Hp}{a:ah}{am:List (Key×V)}{k:Key}{v:V}(e:H a=ab (.dK am))(hl:am.length<sizeLine):kW H a (kV k) v (upd H a (.dK (putK am k v))):=.inl ⟨am,k,e,rfl,hl,rfl⟩
theorem kW.t{H:Hp}{a b:ah}{am:List (List Key×V)}{k:List Key}{v:V}(e:H a=ab (.dT am))(eb:H b=ab (.tup (k.map kV)))(hl:am.length<sizeLine) :
 kW H a (.ref b) v (upd H a (.dT (putK am k v))):=.inr ⟨am,k,b,e,rfl,eb,hl,rfl⟩
section
variable{X:Cx}{af:List (ah×Obj)}{σ:St}{H:Hp}{s:ak}{a:ah}{y v:V}{u r:ag}{o:Option V}{A:br}{E:ag->ak->Prop}
theorem Inv.big(I:Inv X af σ H s):sysModules<s.heap.objs.size:=by have h:mainGlobals<s.heap.objs.size:=(I.mod.glob.keeps I.bk).lt;exact Nat.lt_trans (by decide) h
theorem Gs{Q:ag->ak->Prop}(hu:A.units+1<cLine)(I:Inv X af σ H s)(g:ib H a y (ab v))(ry:RelV y u)(h:∀w' s',Inv X af σ H s'->RelV v w'->Q w' s') :
 wpAny (model X.prog X.w) A (getItem (.ref a) u) Q E s:=by
 rcases g with ⟨am,k,e,ey,l⟩|⟨am,k,b,e,ey,eb,l⟩
 ·subst ey;obtain⟨z,hd,vs,rel,dd⟩:=qT I.hok e;obtain⟨w',hw,rw'⟩:=iK.some_of (v:=v) (o:=valueAt vs k) (by rw[l];exact rel.val k);exact wpAny_getItem_of (rV ry) dd.mapOf hw (h w' _ (I.tok _) rw')
 ·subst ey;cases(show u=cE b from ry);obtain⟨z,hd,xs,rel,dd⟩:=rB I.hok e;obtain⟨w',hw,rw'⟩:=iK.some_of (v:=v) (o:=(atKey xs k).map (·.2)) (by rw[l];exact rel.val k);obtain⟨p,hp,hp2⟩:=mH.mp hw;refine wpAny_getItem_heap (xw hu) (sA I.hok eb) dd hp ?_;rw[hp2];exact h w' _ (I.tok _) rw'
theorem HC{Q:ag->ak->Prop}(hu:A.units+1<cLine)(I:Inv X af σ H s)(g:ib H a y o)(ry:RelV y u)(h:∀s',Inv X af σ H s'->Q (.bool o.isSome) s') :
 wpAny (model X.prog X.w) A (compareOp .In u (.ref a)) Q E s:=by
 rcases g with ⟨am,k,e,ey,l⟩|⟨am,k,b,e,ey,eb,l⟩
 ·subst ey;obtain⟨z,hd,vs,rel,dd⟩:=qT I.hok e;refine wpAny_in_of (rV ry) hd dd.mapOf ?_;rw[<- (rel.val k).vz,<- l];exact h _ (I.tok _)
 ·subst ey;cases(show u=cE b from ry);obtain⟨z,hd,xs,rel,dd⟩:=rB I.hok e;refine wpAny_in_heap (xw hu) (sA I.hok eb) hd dd ?_;have q:=(rel.val k).vz;rw[Eh]at q;rw[<- q,<- l];exact h _ (I.tok _)
theorem Ai{h':aI}{t':Nat}{ob:HO}(I:Inv X af σ H s)(mu:py (H a))(hs:mG a s.heap h')(he:∃q,h'.get? a=ab q)(new:bP X.prog X.w (upd H a ob) h' a ob) :
 Inv X af σ (upd H a ob) { s with heap:=h',toks:=t' }:=
 I.write (x:=a) (e:=a) mu (.inl rfl) (λb q hb z=>(hs.2 b hb).trans z) he new
theorem JD{P:bb}{w:aT}{H':Hp}{h':aI}{am:List (Key×V)}{vs:List (Key×ag)}(z:am.length<=sizeLine)(hd:(a==sysModules)=false)(rel:KV am vs)(dd:h'.DictOf (gO P w) a vs) :
 bP P w H' h' a (.dK am):=⟨z,hd,vs,rel,dd⟩
theorem Kv{H':Hp}{Q:Unit->ak->Prop}(hu:A.units+1<cLine)(I:Inv X af σ H s)(g:kW H a y v H')(ry:RelV y u)(rv:RelV v r)(h:∀s',Inv X af σ H' s'->Q () s') :
 wpAny (model X.prog X.w) A (setItem (.ref a) u r) Q E s:=by
 rcases g with ⟨am,k,e,ey,l,eH⟩|⟨am,k,b,e,ey,eb,l,eH⟩
 ·subst ey eH;obtain⟨z,hd,vs,rel,dd⟩:=FY I.hok e;have hz:vs.length<=sizeLine:=by rw[<- rel.length];exact z
  have hl:(putK am k v).length<=sizeLine:=by have:=At am k v;omega
  refine wpAny_setItem_pairs (hsz:=hz) (rV ry) dd λh' dd' hs=>h _ ?_;have he:∃q,h'.get? a=ab q:=let ⟨q,_,_,hq,_⟩:=dd';⟨q,hq⟩;exact Ai I (by rw[e];exact gK) hs he (JD hl hd (rel.put k rv) dd')
 ·subst ey eH;cases(show u=cE b from ry);obtain⟨z,hd,xs,rel,dd⟩:=F2 I.hok e;have hz:xs.length<=sizeLine:=by rw[<- xS rel];exact z
  have hl:(putK am k v).length<=sizeLine:=by have:=At am k v;omega
  refine wpAny_setItem_heap (hsz:=hz) (xw hu) (sA I.hok eb) dd λh' dd' hs=>h _ ?_;obtain⟨q,es,ep,hq,h2,h3,h4,_,h5⟩:=dd';refine Ai I (by rw[e];exact gK) hs ⟨q,hq⟩ ⟨hl,hd,_,(rel.put k eb rv).keeps λc ys ec=>?_,q,es,ep,hq,h2,h3,h4,h5⟩;rw[aQ (KN ec e (λz=>nomatch z))];exact ec
end
def zZ(i:aO):Prop:=∀ov iv,subscripted i false ov iv=operate [ov,iv] (getItem ov iv)
theorem Fy{prog:bb}{w:aT}{A:br}{E:ag->ak->Prop}{s:ak}{env:Env}{value slice:aO}{pos:Pos}{T id:String}{Q:ag->ak->Prop}
 (hl:typeLookup (.type T) "__getitem__" = pure (ab (.builtin id))) (hs:zZ slice)
 (h:wpAny (model prog w) A (eval value env) (λo s₁=>wpAny (model prog w) A (eval slice env) (λi s₂=>s₂.TypeIs o T/\wpAny (model prog w) A (getItem o i) Q E s₂) E s₁) E s) :
 wpAny (model prog w) A (eval (.Subscript value slice pos) env) Q E s:=by
 refine Subscript_ (gI h (λo s₁ h₁=>gI h₁ (λi s₂ h₂=>?_) λ_ _ x=>x) λ_ _ x=>x);obtain⟨hT,h₂⟩:=h₂;unfold subscriptTail;refine aA ?_;rw[getitemInPython_of_ne hT.not_modules];refine aA (tS hT hl ?_);have fin:wpAny (model prog w) A (subscripted slice false o i) (λr s₃=>wpAny (model prog w) A (letTemporaryGo value o r >>= λ_=>pure r) Q E s₃) E s₂:=by rw[hs o i];exact wpAny_operating (gI h₂ (λr s₃ h₃=>aA (wpAny_letTemporaryGo (bo h₃))) λ_ _ x=>x)
 first
  |exact bo (aA fin)
  |exact aA (bo (aA fin))
  |exact aA fin
theorem JE{X:Cx}{af:List (ah×Obj)}{σ:St}{H:Hp}{s:ak}{a:ah}{y:V}{o:Option V}(I:Inv X af σ H s)(g:ib H a y o):s.TypeIs (.ref a) "dict":= by
 rcases g with ⟨am,k,e,_,_⟩|⟨am,k,b,e,_,_,_⟩
 ·obtain⟨_,_,vs,_,dd⟩:=qT I.hok e;exact dd.typeIs
 ·obtain⟨_,_,xs,_,dd⟩:=rB I.hok e;exact dd.typeIs
def zU(td ty:TE):TE:=λσ H Q=>td σ H λx H1=>ty σ H1 λy H2=>∃a v,x=.ref a/\ib H2 a y (ab v)/\Q v H2
def AN(ty td:TE):TE:=λσ H Q=>ty σ H λy H1=>td σ H1 λx H2=>∃a o,x=.ref a/\ib H2 a y o/\Q (.bl o.isSome) H2
def iN(td ty tv:TE):TS:=λD σ H=>tv σ H λv H1=>td σ H1 λx H2=>ty σ H2 λy H3=>∃a H4,x=.ref a/\kW H3 a y v H4/\D.nx σ H4
section
variable{X:Cx}{o i e value:aO}{pos pos' tpos:Pos}{td ty tv:TE}
theorem JQ(hu:X.A.units+1<cLine)(ho:PE X o td)(hi:PE X i ty)(hs:zZ i):PE X (.Subscript o i pos) (zU td ty):=by intro af s σ H Q I h;refine Fy PySem.F.slot_dict_getitem.lookup hs (aK (ho af s σ H _ I h) λu s1 ⟨x,H1,I1,rx,q1⟩=>aK (hi af s1 σ H1 _ I1 q1) λiv s2 ⟨y,H2,I2,ry,a,v,ex,g,q2⟩=>?_);subst ex;obtain rfl:u=cE a:=rx;exact⟨JE I2 g,Gs hu I2 g ry λw' s3 I3 rw'=>⟨v,H2,I3,rw',q2⟩⟩
theorem Gb(hu:X.A.units+1<cLine)(hi:PE X i ty)(ho:PE X o td):PC X .In i o (AN ty td):=by intro af s σ H Q I h;refine aK (hi af s σ H _ I h) λiv s1 ⟨y,H1,I1,ry,q1⟩=>aK (ho af s1 σ H1 _ I1 q1) λu s2 ⟨x,H2,I2,rx,a,ov,ex,g,q2⟩=>?_;subst ex;obtain rfl:u=cE a:=rx;exact HC hu I2 g ry λs3 I3=>⟨.bl ov.isSome,H2,I3,rfl,q2⟩
theorem za(hu:X.A.units+1<cLine)(ho:PE X o td)(hi:PE X i ty)(hv:PE X value tv)(hs:swapsWith value (ab (.Subscript o i pos')) pos.line X.env=pure false) :
 PS X (.Assign [.Subscript o i pos'] value pos) (iN td ty tv):=by
 intro af s σ H D I h;refine wpAny_Assign_Subscript (aK (hv af s σ H _ I h) λr s1 ⟨v,H1,I1,rv,q1⟩=>aK (ho af s1 σ H1 _ I1 q1) λu s2 ⟨x,H2,I2,rx,q2⟩=>aK (hi af s2 σ H2 _ I2 q2) λiv s3 ⟨y,H3,I3,ry,a,H4,ex,g,q3⟩=>?_) hs;subst ex;obtain rfl:u=cE a:=rx;exact Kv hu I3 g ry rv λs4 I4=>⟨σ,H4,I4,q3⟩
end
theorem Ft{P:bb}{w:aT}{H:Hp}(h:aI)(hb:sysModules<h.objs.size):bP P w H (h.push { cls:=.type "dict", data:=.dict #[] }) h.objs.size (.dK []):=⟨fi _,rA.mpr (dS (gs hb)),[],.nil,Heap.DictOf.new h⟩
def Ch:TE:=λ_ H Q=>∀p,H p=ae->Q (.ref p) (upd H p (.dK []))
section
variable{X:Cx}{pos:Pos}
theorem Ct:PE X (.Dict [] [] pos) Ch:=λaf s σ H Q I h=>
 wpAny_Dict_empty ⟨.ref s.heap.objs.size,_,I.laid (a:=s.heap.objs.size) (o:=.dK []) (t':=s.toks) (λ_ _ q=>cP _ q) (bg _) (Ft s.heap I.big),rfl,h _ (I.hok.fresh (bg _))⟩
end
end L2
namespace Att
open PySem PySem.W PySem.Calls PyProof.Rows
theorem Hy{P:Params}{h:aI}:∀(ns:List Int) (vs:List ag),WellAll P h vs (ns.map WData.int)->iD vs ns:=by
 intro ns
 induction ns with
 |nil=>
  intro vs w;rw[oj]at w;cases w;exact .nil
 |cons n ns ih=>
  intro vs w;rw[cD]at w;cases w with
  |cons a b=>
   cases a;exact .cons _ _ (ih _ b)
theorem Jx{l:OpenLaw}{n:Nat}(hn:l.most=ab n){P:Params}{h:aI}{args:List WData}{vals:List ag}
 (hpre:l.row.toRowW.claim.pre args=true) (hwl:WellAll P h vals args) :
 ∃a vs ns,vals=[cE a]/\args=[WData.list (ns.map WData.int)]/\h.get? a=ab { cls:=.type "list", data:=.seq vs.toArray }/\iD vs ns/\ns.length<=n:=by
 have hsh:WShape.hasAll [] args [.list .int]=true:=(pre_splitW hpre).1;have hc:l.pre.holds [] { args:=args }=true:=(pre_splitW hpre).2;obtain⟨d,r,rfl,h1,h2⟩:=hasAllW_cons hsh;obtain rfl:=hasAllW_nil h2;obtain⟨xs,rfl,h3⟩:=hasW_list h1;obtain⟨ns,rfl⟩:=items_int h3;have hlen:ns.length<=n:=by
  unfold OpenLaw.pre at hc;have h4:(WTm.not (.lt (.lit (.int (n:Int))) (.len (.arg 0)))).holds [] { args:=[.list (ns.map .int)] }=true:=by have h4:=(holds_andW hc).1;rw[hn]at h4;exact h4
  have h5:=condW_of h4 (w_not (w_lt w_lit (w_len_list (w_arg rfl))));rw[aS]at h5;refine Nat.le_of_not_lt λq=>?_;have q':(n:Int)<((ns.length:Nat):Int):=by omega
  first
   |(rw[cM q']at h5;exact absurd h5 (by decide))
   |(simp at h5;omega)
 cases hwl with
 |cons w1 w2=>
  cases w2;cases w1 with
  |list ho hall=>exact⟨_,_,ns,rfl,rfl,ho,Hy ns _ hall,hlen⟩
theorem GG(l:OpenLaw)(args:List WData):l.row.toRowW.claim.post args (.bool true) args=true:=
 postW_of (r:=l.row.toRowW) (X:=(true==true))
  (show WShape.has [] (.bool true) .bool=true by first|rfl|decide|simp[WShape.has,WShape.arms,WShape.armsAll])
  (show(WTm.eq .res (.lit (.bool true))).value [] { args:=args,res:=ab (.bool true),after:=args }=ab (.bool (true==true))from w_eq_bool (w_res rfl) w_lit) rfl
theorem Gf{l:OpenLaw}{n:Nat}{q:bb}{loose:List Str}{XP:(Str->Option ag)->aI->Prop}{YP:aT->aI->Prop}{d:DefRec}
 (hn:l.most=ab n) (hdf:d.params.defaults=[])
 (call:∀(w:aT) (s₀ s₁:ak) (mg mb:Str->Option ag) (fa:ah) (o:Obj) (pm cd doc:ag) (a:ah) (vs:List ag) (ns:List Int),
  Ground q loose [] XP w s₀ mg mb s₁.heap->YP w s₁.heap ->
  s₁.heap.get? fa=ab o->o.data=.func (docDef d.name d.params d.body d.scope pm cd doc)->s₁.heap.CodeRec cd d.name->mg d.name=ab (.ref fa) ->
  s₁.heap.get? a=ab { cls:=.type "list", data:=.seq vs.toArray }->iD vs ns->ns.length<=n->s₁.gens = #[] ->
  codeAny (model l.prog w) callerA (.call (.ref fa) ⟨[.ref a],[]⟩) (λr s'=>r=.ok (.ret (.bool true))/\OldK s₁.heap s'.heap/\s'.os=s₁.os/\kq s'.gens) s₁) :
 WalkO q loose XP YP l.row.toRowW d [] (λf vs=>xA f vs):=by
 intro w s₀ s₁ mg mb G Y fa o pm cd doc dV kV ho hd hcd hD hmg hg args vals as hpre hlay hrd hwl hlo;obtain rfl:dV=.none:=Dflts.none hD hdf;obtain rfl:kV=.none:=Dflts.noKw hD;obtain⟨a,vs,ns,rfl,rfl,hobj,hints,hlen⟩:=Jx hn hpre hwl;refine enter_call (codeAny_mono (call w s₀ s₁ mg mb fa o pm cd doc a vs ns G Y ho (fd_plain hd) hcd hmg hobj hints hlen hg) λr s' hq=>?_);obtain⟨rfl,h2,h3,h4⟩:=hq;exact⟨.inl ⟨.bool true,.bool true,[],rfl,λ_=>rfl,.bool true,GG l _,λ_=>⟨qL,λ_ hm=>(nomatch hm)⟩⟩,h2,h3,h4⟩
end Att
namespace L2
open PySem PySem.Spec PyProof.Rows
theorem A8:∀{vs:List ag} {ns:List Int},iD vs ns->Vals (ns.map V.int) vs
 |_,_,.nil=>.nil
 |_,_,.cons n t h=>.cons ⟨t,rfl⟩ (A8 h)
def Only(H:Hp):Prop:=∀b,H b=ae\/∃o,∃ns:List Int,H b=ab (.frz o (.lst (ns.map V.int)))
theorem FC{P:bb}{w:aT}{K:aB}{mg mb:Str->Option ag}{CX:eY}{k:Nat}{fa a:ah}{fd:bS}{x:Str}{sp:Sp}{s₁:ak}{vs:List ag}{ns:List Int}
 (KX:K.In s₁.heap) (hns:s₁.heap.Ns mainGlobals mg) (hb:s₁.heap.Ns builtinsNs mb) (hbb:∀x:Str,x ≠ "__name__" -> mb x=bootBuiltins x) (hlim:s₁.heap.NoLimit) (hg:s₁.gens = #[])
 (ha:s₁.heap.get? a=ab { cls:=.type "list", data:=.seq vs.toArray }) (hi:iD vs ns) (hl:ns.length<=sizeLine) (hr:dP k callerA)
 (F:∀base:aI,K.In base->base.Ns mainGlobals mg->bt P w K mg base CX k fa fd [x] sp) (hbind:∀(s:ak) (u:ag),lp s fd ⟨[u],[]⟩ [(x,u)])
 (hsp:∀H:Hp,Only H->cI K H a (ns.map V.int)->sp [.ref a] H (λv _=>v=.bl true) λ_ _ _=>False)
 (hCX:∀H e s',CX [] H s₁ (λ_ _ _=>False) e s'->False) :
 codeAny (model P w) callerA (.call (.ref fa) ⟨[.ref a],[]⟩) (λr s'=>r=.ok (.ret (.bool true))/\OldK s₁.heap s'.heap/\s'.os=s₁.os/\kq s'.gens) s₁:=by
 have rv:=A8 hi;have lenV:=hi.length;have core:∀H:Hp,Only H->cI K H a (ns.map V.int)->cz P w H s₁.heap->(∀b,H b≠ae->b=a)->(H a≠ae->K.lookup a=ae) ->
  codeAny (model P w) callerA (.call (.ref fa) ⟨[.ref a],[]⟩) (λr s'=>r=.ok (.ret (.bool true))/\OldK s₁.heap s'.heap/\s'.os=s₁.os/\kq s'.gens) s₁:=by
  intro H hO hS hok hA hK;have EN:∀{b:ah} {o:Obj},s₁.heap.get? b=ab o->H b=ae->(j3 s₁.heap H).get? b=ab o:=λe n=>FW e n;have noA:∀{b:ah} {o:Obj} {es:Array DictEntry} {ep:Nat},s₁.heap.get? b=ab o->o.data=.dict es ep->H b=ae:=λ{b o es ep} e d=>by
   cases q:H b with
   |none=>rfl
   |some u=>
    have e':b=a:=hA b (by rw[q];simp);subst e';rw[ha]at e;cases e;have d':Data.seq vs.toArray _=Data.dict es ep:=d;cases d'
  have nsK:∀{b:ah} {m:Str->Option ag},s₁.heap.Ns b m->(j3 s₁.heap H).Ns b m:=λ{b m} ⟨o,es,ep,e,d,r⟩=>⟨o,es,ep,EN e (noA e d),d,r⟩;have hKb:K.In (j3 s₁.heap H):=λb o e=>EN (KX b o e) (by
   cases q:H b with
   |none=>rfl
   |some u=>
    have e':b=a:=hA b (by rw[q];simp);subst e';rw[hK (by rw[q];simp)]at e;cases e)
  have hM:Mod K mg (j3 s₁.heap H):=⟨hKb,nsK hns,⟨mb,nsK hb,hbb⟩,let ⟨mc,h1,h2⟩:=hlim;⟨mc,nsK h1,h2⟩⟩;have e0:sZ P w K mg (j3 s₁.heap H) callerA [] s₁ H:=⟨rfl,hM,λb o e=>Hf e,Nat.le_of_eq (Hb _ _),trivial,λb hb=>absurd (show b∈([]:List ah)from hb) (by simp),hok,.of_eq hg⟩;refine codeAny_mono ((F _ hKb (nsK hns)).run callerA [] s₁ H ⟨[.ref a],[]⟩ [.ref a] [.ref a] _ _ hr e0 (hbind s₁ (.ref a)) (.cons rfl .nil) (hsp H hO hS)) λr s' h=>?_;cases r with
  |error e=>exact(hCX H e s' h).elim
  |ok fl=>
   cases fl with
   |next=>exact jM h
   |brk=>exact jM h
   |cont=>exact jM h
   |ret u=>
    obtain⟨v,H',os,bare,un,hok',r',q⟩:=h;have q':v=.bl true:=q;subst q';obtain rfl:u=mI true:=r';refine⟨rfl,OldK.of_keep λb o e=>?_,os,bare⟩;cases q:H b with
    |none=>exact un.keep b o e q (by intro z;exact absurd (show b∈([]:List ah)from z) (by simp)) (by simp)
    |some u=>
     rcases hO b with z|⟨ob,xs,z⟩
     ·rw[q]at z;cases z
     ·have z2:=un.jN b ob _ z;obtain⟨e1,_⟩:=hok b _ z;obtain⟨e2,_⟩:=hok' b _ z2;rw[e]at e1;cases e1;exact e2
 cases hk:K.lookup a with
 |some o=>
  have e:=KX a o hk;rw[ha]at e;cases e;refine core (λ_=>ae) (λ_=>.inl rfl) (.inr ⟨_,vs.toArray,_,hk,rfl,rfl,rfl,by rw[bG,lenV];exact hl,by simpa using rv⟩) (λb u z=>by have z':(ae:Option HO)=ab u:=z;cases z') (λb z=>absurd rfl z) λz=>absurd rfl z
 |none=>
  refine core (λb=>if b=a then ab (.frz { cls:=.type "list",data:=.seq vs.toArray } (.lst (ns.map V.int)))else ae) (λb=>?_) (.inl (.inr ⟨{ cls:=.type "list", data:=.seq vs.toArray },aw rfl⟩)) (λb u z=>?_) (λb z=>?_) λ_=>hk
  ·by_cases hb:b=a
   ·exact .inr ⟨_,_,aw hb⟩
   ·exact .inl (ay hb)
  ·by_cases hb:b=a
   ·have z':=(aw hb).symm.trans z;cases z';subst hb;exact⟨ha,by rw[aS];exact hl,vs,_,rv,ha⟩
   ·have z':=(ay hb).symm.trans z;cases z'
  ·by_cases hb:b=a
   ·exact hb
   ·exact absurd (ay hb) z
theorem Gz{l:wZ}{n k:Nat}{q:bb}{loose:List Str}{XP:(Str->Option ag)->aI->Prop}{YP:aT->aI->Prop}{d:DefRec}{K:Params->aB}{CX:aT->eY}{sp:aT->Sp}{x:Str}
 (hn:l.most=ab n) (hn2:n<=sizeLine) (hdf:d.params.defaults=[]) (hr:dP k callerA)
 (hY:∀(w:aT) (h:aI),YP w h->(K w.params).In h)
 (F:∀(w:aT) (mg:Str->Option ag) (fa:ah) (h:aI),(K w.params).In h->h.Ns mainGlobals mg->mg d.name=ab (.ref fa) ->
  ∃fd:bS,(∀(s:ak) (u:ag),lp s fd ⟨[u],[]⟩ [(x,u)]) /\
   ∀base:aI,(K w.params).In base->base.Ns mainGlobals mg->bt l.prog w (K w.params) mg base (CX w) k fa fd [x] (sp w))
 (hsp:∀(w:aT) (H:Hp) (a:ah) (ns:List Int),ns.length<=n->Only H->cI (K w.params) H a (ns.map V.int)->sp w [.ref a] H (λv _=>v=.bl true) λ_ _ _=>False)
 (hCX:∀(w:aT) (H:Hp) (s:ak) (e:ag) (s':ak),CX w [] H s (λ_ _ _=>False) e s'->False) :
 PySem.W.WalkO q loose XP YP l.row.toRowW d [] (λf vs=>xA f vs):=by
 refine Att.Gf hn hdf λw s₀ s₁ mg mb fa o pm cd doc a vs ns G Y ho hd hcd hmg hobj hints hlen hg=>?_;have KX:=hY w _ Y;obtain⟨fd,hb,hF⟩:=F w mg fa _ KX G.T.g hmg;exact FC KX G.T.g G.T.b G.T.builtins G.T.nolimit hg hobj hints (d5 hlen hn2) hr hF hb (λH hO hS=>hsp w H a ns hlen hO hS) λH e s'=>hCX w H s₁ e s'
def m9(s:bD):Arguments:=match s with
 |.FunctionDef _ a _ _ _ _ _ _ _ _=>a
 |_=>{ posonlyargs:=[],args:=[],vararg:=ae,kwonlyargs:=[],kw_defaults:=[],kwarg:=ae,defaults:=[] }
def jT(s:bD):List bD:=match s with
 |.FunctionDef _ _ b _ _ _ _ _ _ _=>b
 |_=>[]
def bM(s:bD):fF:=match s with
 |.FunctionDef _ _ _ _ _ _ sc _ _ _=>sc
 |_=>{ kind:=.function,names:=[],isGenerator:=false,isCoroutine:=false }
abbrev aL:eY:=λ_ _ _ _ _ _=>False
abbrev E0:XK:=λ_ _ _=>False
theorem lI{X:Cx}:rX aL X E0:=λ_ _ _ _ _ _ _ h=>h.elim
structure cL(K:aB)(x qual:Str)(st:bD)(f:ah)(fd:bS):Prop where
 ex:∃(oc:ag) (od:Option ah) (kV doc pm:ag) (an:Option ah) (cdv ct:ag) (osl:Array (Option ag)),
  fd=lh x qual (m9 st) (jT st) (bM st) .none kV doc pm an cdv ct/\K.lookup f=ab ⟨oc,od,.func fd,osl⟩/\tD K cdv qual=true
 kp:oa K (.ref f)=true
section
variable{P:bb}{w:aT}{K:aB}{mg:Str->Option ag}{base:aI}
theorem cL.ok{x qual:Str}{st:bD}{f:ah}{fd:bS}{N ps:List Str}{k:Nat}{sp:Sp}(F:cL K x qual st f fd)(S:dv N ps (bM st))(len:∀vs H Q E,sp vs H Q E->vs.length=ps.length)
 (hbody:∀(cdv:ag) (A:br) (outer:List Env) (s:ak) (H:Hp) (vs:List V) (Q:VK) (E:XK),dP k (A.deeper (envOfC qual (bM st) s.heap.objs.size f cdv))->sp vs H Q E ->
  ∃t,gF (kS aL P w K mg base N qual (bM st) f cdv A outer s H E).nH (jT st) t/\t { nx:=λ_ H'=>Q .non H',rt:=Q } (start N vs) H):bt P w K mg base aL (k+1) f fd ps sp:=by
 obtain⟨oc,od,kV,doc,pm,an,cdv,ct,osl,rfl,lk,hcd⟩:=F.ex;refine Jv lk hcd S len λA outer s H vs Q E hr hsp=>?_;obtain⟨t,h,q⟩:=hbody cdv A outer s H vs Q E hr hsp;exact⟨t,h.nH,q⟩
theorem cL.binds{x qual:Str}{st:bD}{f:ah}{fd:bS}{ps:List Str}(F:cL K x qual st f fd)
 (h:∀(kV doc pm:ag) (an:Option ah) (cdv ct:ag) (us:List ag),us.length=ps.length->bindArgs (lh x qual (m9 st) (jT st) (bM st) .none kV doc pm an cdv ct) ⟨us,[]⟩=pure (ps.zip us)):Binds K fd ps []:=by
 obtain⟨oc,od,kV,doc,pm,an,cdv,ct,osl,rfl,lk,hcd⟩:=F.ex;exact .all (h kV doc pm an cdv ct)
theorem HB{x qual:Str}{st:bD}{f:ah}{oc:ag}{od an:Option ah}{osl:Array (Option ag)}{kV doc pm cdv ct:ag}(l:K.lookup f=ab ⟨oc,od,.func (lh x qual (m9 st) (jT st) (bM st) .none kV doc pm an cdv ct),osl⟩)
 (c:tD K cdv qual=true) (k:oa K (.ref f)=true):cL K x qual st f (lh x qual (m9 st) (jT st) (bM st) .none kV doc pm an cdv ct):=⟨⟨oc,od,kV,doc,pm,an,cdv,ct,osl,rfl,l,c⟩,k⟩
end
theorem rW{A:br}{k:Nat}(hr:dP k A):A.units+1<cLine:=Nat.lt_of_le_of_lt (Nat.add_le_add_left (by decide:1<=64) _) hr.units
section
variable{X:Cx}
theorem pv(i:Nat){x:Str}{pos:Pos}(hN:X.N[i]? = ab x:=by rfl)(hv:qS X.env.scope x:=by first|exact fk rfl|exact i8 (fk rfl)|exact i8 (i8 rfl))(hd:(x==("__debug__" : Str))=false:=by decide)
 (hcd:(x==("__classdict__" : Str))=false:=by decide):PE X (.Name x pos) (cZ i):=F8 hN hv hd hcd
end
theorem lM{A B:Prop}(h:B):if false=true then A else B:=by rw[ay cW];exact h
theorem lZ{A B:Prop}(h:A):if true=true then A else B:=by rw[aw rfl];exact h
def cq(H H':Hp):Prop:=∀b o,H b=ab o->H' b=ab o
theorem cq.refl(H:Hp):cq H H:=λ_ _ h=>h
theorem cq.trans{H H1 H2:Hp}(a:cq H H1)(b:cq H1 H2):cq H H2:=λc o h=>b c o (a c o h)
theorem cq.free{H H':Hp}(e:cq H H'){l:ah}(h:H' l=Option.none):H l=Option.none:=by
 cases q:H l with
 |none=>rfl
 |some o=>
  rw[e l o q]at h;cases h
section
variable{prog:bb}{w:aT}{A:br}{R:Result->ak->Prop}{s:ak}
theorem Gr{elt target iter:aO}{ifs:List aO}{scope:fF}{pos:Pos}{it acc:ag}{env:Env}(I:Nat->ak->Prop)
 (turn:∀n s,I n s->wpAny (model prog w) A (pyNext it) (λr s₁=>match r with
  |none=>R (.ok .next) s₁
  |some v=>wpAny (model prog w) A (letOwnedTupleGo target it v) (λ_ s₂=>wpAny (model prog w) A (assign target env v) (λ_ s₃=>
   wpAny (model prog w) A (forIn ifs true λc r=>if r=true then do let ok <- isTrue c env (eval c env);pure (jJ ok)else pure (jJ r)) (λok s₄=>
    if ok=true then wpAny (model prog w) A (eval elt env) (λx s₅=>
     wpAny (model prog w) A (call (.builtin "list.append") [acc,x]) (λ_ s₆=>∃m,m<n/\I m s₆) (λ_ _=>False) s₅) (λ_ _=>False) s₄
    else∃m,m<n/\I m s₄) (λ_ _=>False) s₃) (λ_ _=>False) s₂) (λ_ _=>False) s₁) (λ_ _=>False) s)
 (n:Nat) (h:I n s) :
 codeAny (model prog w) A (.compLoop (.ListComp elt [⟨target,iter,ifs,0⟩] scope pos) 0 it acc env) R s:=by
 refine codeAny_loop rfl I (λn s hI=>?_) n h;show wpAny _ A ((compTurn (.ListComp elt [⟨target,iter,ifs,0⟩] scope pos) 0 it acc env).onRaise (λx=>do noteFrame x env;theTreesLotGoes x)) _ _ s;refine wpAny_noted (gI (E:=λ_ _=>False) ?_ (λ_ _ q=>q) λ_ _ q=>q.elim);rw[compTurn_list];refine aA (tT (aA (aK (turn n s hI) λr s₁ h₁=>?_)));cases r with
 |none=>exact bo h₁
 |some v=>
  refine aA (aK h₁ λ_ s₂ h₂=>aA (aK h₂ λ_ s₃ h₃=>aA (aK h₃ λok s₄ h₄=>?_)));cases ok with
  |false=>exact bo ⟨rfl,h₄⟩
  |true=>exact aA (aA (aK h₄ λx s₅ h₅=>aA (aK h₅ λ_ s₆ h₆=>bo (bo ⟨rfl,h₆⟩))))
end
theorem cz.track{P:bb}{w:aT}{H:Hp}{h:aI}{a:ah}{o:HO}(x:cz P w H h)(hn:H a=ae)(new:bP P w (upd H a o) h a o):cz P w (upd H a o) h:=λb u e=>by
 by_cases hb:b=a
 ·subst hb;rw[cg]at e;cases e;exact new
 ·rw[aQ hb]at e;exact(x b u e).stay (λc v _ q=>q) (λc q=>by rw[aQ (cQ q hn)];exact q) λc xs q=>by rw[aQ (cQ q hn)];exact q
theorem lookup_mem{α:Type}:∀{l:List (Str×α)} {x:Str} {k:α},l.lookup x=ab k->(x,k)∈l
 |[],_,_,h=>by simp at h
 |(n,k')::r,x,k,h=>by
  rw[lj]at h;cases hx:x==n with
  |true=>
   rw[hx]at h;have:x=n:=by simpa using hx
   cases h;subst this;exact cC
  |false=>rw[hx]at h;exact cA _ (lookup_mem h)
theorem rO{env:Env}:∀{names:List (Str×ln)} {x:Str} {k:ln},
 (names.map λ(n,k)=>if(k==kr&&env.scope.kind==.function&&env.kindOf n==ab .cell)then(n,xM)else(n,k)).lookup x=ab k ->
 ∃k',names.lookup x=ab k'/\(k=k'\/(k'=.free/\k=.cell))
 |[],_,_,h=>by simp at h
 |(n,k0)::r,x,k,h=>by
  have ih:=@rO env r x k;have h':List.lookup x ((if(k0==kr&&env.scope.kind==.function&&env.kindOf n==ab .cell)=true then(n,xM)else(n,k0)) ::
   (r.map λ(n,k)=>if(k==kr&&env.scope.kind==.function&&env.kindOf n==ab .cell)then(n,xM)else(n,k)))=ab k:=h
  by_cases hc:(k0==kr&&env.scope.kind==.function&&env.kindOf n==ab .cell)=true
  ·rw[aw hc,lj]at h';rw[lj];cases hx:x==n with
   |true=>
    rw[hx]at h';cases h';simp only[fS]at hc;exact⟨k0,rfl,.inr ⟨by simpa using hc.1.1,rfl⟩⟩
   |false=>rw[hx]at h';exact ih h'
  ·rw[ay hc,lj]at h';rw[lj];cases hx:x==n with
   |true=>rw[hx]at h';cases h';exact⟨_,rfl,.inl rfl⟩
   |false=>rw[hx]at h';exact ih h'
theorem wt{env:Env}{f:(Str×ln)->List (Str×ah)->Sem (ForInStep (List (Str×ah)))}
 (hf:∀n k r,f (n,k) r=if(k==kr)=true then(cellOf env n >>= λa=>pure (jJ ((n,a)::r)))else pure (jJ r)) :
 ∀(names:List (Str×ln)) (acc:List (Str×ah)),(∀y∈names,y.2=.free->∃c,env.cells.lookup y.1=ab c)->(∀x c,acc.lookup x=ab c->env.cells.lookup x=ab c) ->
  ∃cl,forIn names acc f=pure cl/\(∀x c,cl.lookup x=ab c->env.cells.lookup x=ab c)/\(∀x,(∃c,acc.lookup x=ab c)->∃c,cl.lookup x=ab c)/\∀x,(x,kr)∈names->∃c,cl.lookup x=ab c
 |[],acc,_,hacc=>⟨acc,rfl,hacc,λ_ h=>h,λ_ h=>by simp at h⟩
 |(n,k)::r,acc,hn,hacc=>by
  have hr:∀y∈r,y.2=.free->∃c,env.cells.lookup y.1=ab c:=λy hy=>hn y (cA _ hy);by_cases hk:(k==kr)=true
  ·have hk':k=.free:=by simpa using hk
   obtain⟨c,hc⟩:=hn (n,k) cC hk';obtain⟨cl,e,h1,h2,h3⟩:=wt hf r ((n,c)::acc) hr (λx c' h=>by
    rw[lj]at h;cases hx:x==n with
    | true => rw [hx] at h; cases h; have : x = n := by simpa using hx
              subst this;exact hc
    |false=>rw[hx]at h;exact hacc x c' h)
   refine⟨cl,?_,h1,λx ⟨c',hx⟩=>h2 x ?_,λx hx=>?_⟩
   ·rw[mE,hf,aw hk];have:cellOf env n=pure c:=by unfold cellOf;rw[hc]
    rw[this];exact e
   ·rw[lj];cases x==n with
    |true=>exact⟨_,rfl⟩
    |false=>exact⟨c',hx⟩
   ·rcases bK.mp hx with e|hx
    ·cases e;exact h2 _ ⟨c,by rw[lj];simp⟩
    ·exact h3 x hx
  ·obtain⟨cl,e,h1,h2,h3⟩:=wt hf r acc hr hacc;refine⟨cl,?_,h1,h2,λx hx=>?_⟩
   ·rw[mE,hf,ay hk];exact e
   ·rcases bK.mp hx with e|hx
    ·cases e;exact absurd rfl hk
    ·exact h3 x hx
theorem FX{sc:fF}{env:Env}(h:∀y∈sc.names,y.2=.free->∃c,env.cells.lookup y.1=ab c) :
 ∃cl,closureFor sc env=pure cl/\(∀x c,cl.lookup x=ab c->env.cells.lookup x=ab c)/\∀x,(x,kr)∈sc.names->∃c,cl.lookup x=ab c:=by
 obtain⟨cl,e,h1,_,h3⟩:=wt (env:=env) (f:=λx r=>match x with|(name,kind)=>if(kind==kr)=true then(cellOf env name >>= λa=>pure (jJ ((name,a)::r)))else pure (jJ r))
  (λn k r=>rfl) sc.names [] h (λ_ _ h=>by simp at h)
 refine⟨cl,?_,h1,h3⟩;unfold closureFor;refine Eq.trans ?_ e;exact bind_pure _
def pick(ρ:List (Option Nat))(σ:St):St:=ρ.map λo=>o.bind λj=>(σ[j]?).join
def eo(X:Cx)(N':List Str)(sc:fF)(cl:List (Str×ah))(C:ah)(s:ak)(H:Hp)(fp:List ah):Cx:={ X with N:=N',s₀:=s,H₀:=H,env:=compEnvC sc cl C X.env,outer:=X.stack,ex:=fp,fn:=λ_=>false,xe:=λ_ _=>False }
structure fM(X:Cx)(N':List Str)(ρ:List (Option Nat))(sc:fF):Prop where
 kind:sc.kind=.function
 EO:∀y∈sc.names,y.2≠.cell
 names:∀y∈sc.names,y.2=.local->sc.names.lookup y.1=ab .local
 free:∀y∈sc.names,y.2=.free->(X.env.kindOf y.1=ab .cell\/X.env.kindOf y.1=ab .free)
 len:ρ.length=N'.length
 ix:∀(i j:Nat),ρ[i]? = ab (ab j)->∃x,N'[i]? = ab x/\X.N[j]? = ab x/\sc.names.lookup x=ab .free
def oQ(X:Cx)(ifs:List aO)(t:TT):Prop:=
 ∀(af:List (ah×Obj)) (s:ak) (σ:St) (H:Hp) (Q:Bool->Hp->Prop),Inv X af σ H s->t σ H Q ->
  wpAny (model X.prog X.w) X.A (forIn ifs true λc r=>if r=true then do let ok <- isTrue c X.env (eval c X.env);pure (jJ ok)else pure (jJ r)) (TP X af σ Q) X.xe s
def Cj:TT:=λ_ H Q=>Q true H
theorem jq{X:Cx}:oQ X [] Cj:=λ_ _ _ H _ I h=>wpAny_tests_nil ⟨H,I,h⟩
theorem H9{X:Cx}{c:aO}{t:TT}(h:PT X c t):oQ X [c] t:=λaf s σ H Q I hw=>wpAny_tests_one (h af s σ H Q I hw)
def sx(ρ:List (Option Nat))(g:TG):Prop:=∀v σ H Q,g v σ H Q->g v σ H λσ2 H2=>(σ2.length = σ.length/\∀(i j:Nat),ρ[i]? = ab (ab j)->σ2[i]? = σ[i]?)/\Q σ2 H2
theorem iG{ρ:List (Option Nat)}{i:Nat}(h:ρ[i]? = ab ae):sx ρ (fu i):=λv σ H Q q=>by
 refine⟨⟨gq,λk j e=>?_⟩,q⟩;have:i≠k:=by intro z;subst z;rw[h]at e;cases e
 rw[dY this]
def FA(J:It)(ρ:List (Option Nat))(g:TG)(tc:TT)(te:TE)(σ:St)(H1:Hp)(Q:VK):Prop:=∃W:Nat->Nat->List V->Hp->Prop,(∃m,W 0 m [] H1)/\∀i m acc H,W i m acc H ->
 (J.stop i H/\∀p,H p=ae->Q (.ref p) (upd H p (.lst acc))) \/
 (J.go i H/\acc.length<sizeLine/\∃N:List V->Hp->Prop,(∀acc' H',N acc' H'->∃m',m'<m/\W (i+1) m' acc' H') /\
  ∀x H',J.yld i H x H'->g x (pick ρ σ) H' λσ2 H2=>tc σ2 H2 λb H3=>if b=true then te σ2 H3 λy H4=>N (acc++[y]) H4 else N acc H3)
def sn(wi:TI)(ρ:List (Option Nat))(g:TG)(tc:TT)(te:TE):TE:=λσ H Q=>wi σ H λJ H1=>FA J ρ g tc te σ H1 Q
section
variable{X:Cx}{elt tg iter:aO}{ifs:List aO}{sc:fF}{pos cpos:Pos}{N':List Str}{ρ:List (Option Nat)}{wi:TI}{g:TG}{tc:TT}{te:TE}
theorem CT(hcalm:X.calm=true)(S:fM X N' ρ sc)(hi:PI X tg iter wi)
 (hg:∀cl C s H fp,PG (eo X N' sc cl C s H fp) tg g) (gk:sx ρ g) (hc:∀cl C s H fp,oQ (eo X N' sc cl C s H fp) ifs tc) (he:∀cl C s H fp,PE (eo X N' sc cl C s H fp) elt te)
 (hs:∀x,foldedSetIterable iter X.env x=pure x)
 (use:Option (ag->Sem Unit)) {R:ag->ak->Prop} {af:List (ah×Obj)} {s:ak} {σ:St} {H:Hp} {Q:VK} (I:Inv X af σ H s) (h:sn wi ρ g tc te σ H Q)
 (hR:∀s' D C H',Inv X af σ H' s'->Q (.ref D) H'->(∃m,s'.heap.Ns C m)->gZ X af H' C->compPost (model X.prog X.w) X.A X.xe use R (.ref D) C (.ok .next) s') :
 wpAny (model X.prog X.w) X.A (comprehension (.ListComp elt [⟨tg,iter,ifs,0⟩] sc pos) sc X.env cpos (newList []) false (eval iter X.env) use) R X.xe s:=by
 obtain⟨cl,hcl,hsub,hall⟩:=FX (sc:=sc) (env:=X.env) λy hy hf=>I.ok.has y.1 (S.free y hy hf);refine wpAny_comprehension_free rfl hs hcl S.kind S.names (aK (hi af s σ H _ I h) λv s1 h1=>aK h1 λitv s2 h2=>?_);obtain⟨it,fp,tn,J,H2,e,I2,T,st2,f2,W,⟨m0,w0⟩,turn⟩:=h2;subst e;refine xB (items:=[]) ?_;refine wpAny_newFunctionEnv S.EO (by intro y hy;simp at hy) (λh₁ hns hsb=>?_) S.kind;dsimp only at hns hsb ⊢;generalize hH2:s2.heap.push { cls:=.type "list", data:=.seq ([]:List ag).toArray }=Hh at hns hsb ⊢;have hCs:Hh.objs.size=s2.heap.objs.size+1:=by rw[<- hH2,qG]
 generalize hD:s2.heap.objs.size=D at *;generalize hCC:Hh.objs.size=C at *;have hDC:D≠C:=by omega
 have ltC:∀b:Nat,b<s2.heap.objs.size->b≠C/\b≠D/\b<D:=λb h=>by omega
 have ltD:∀b:Nat,b<D->b≠C/\b≠D:=λb h=>by omega
 have old:∀b o,s2.heap.get? b=ab o->h₁.get? b=ab o:=λb o e=>hsb.extBut b o (ltC b (bH e)).1 (cP _ (by rw[<- hH2];exact cP _ e));have newD:h₁.get? D=ab { cls:=.type "list", data:=.seq ([]:List ag).toArray }:=hsb.extBut _ _ hDC (cP _ (by rw[<- hH2,<- hD];exact eE _ rfl));have ltb:∀b∈fp,b<D:=λb hb=>by
  obtain⟨o,e,_⟩:=T.obj _ _ st2 b hb;exact(ltC b (bH e)).2.2
 have fD:gZ X af H2 D:=I2.iO (by omega) (I2.hok.fresh (by omega));have fC:gZ X af H2 C:=I2.iO (by omega) (I2.hok.fresh (by omega));have nst:∀b,b≠X.env.locals->b∉X.fs->b∉frs X.stack:=λb h1 h2 hb=>by
  rcases bK.mp (I2.v7 b hb)with e|e
  ·exact h1 e
  ·exact h2 e
 have ok':(eo X N' sc cl C s2 H2 fp).Ok:=by
  refine⟨I2.ok.mod,S.kind,I2.ok.glob,I2.ok.blt,(by show s2.heap.objs.size<=C;omega),λx y c e1 e2=>I2.ok.inj x y c (hsub _ _ e1) (hsub _ _ e2),λx hx=>?_,λx c z=>(by cases z),I2.ok.hd,I2.ok.frames,.inl rfl,
   λb hb=>⟨(ltD b (ltb b hb)).1,λx c e=>(f2 b hb).2.2.2.2.1 x c (hsub _ _ e)⟩,I2.bs,(by show X.base.objs.size<=s2.heap.objs.size;exact d5 I2.ok.bsz I2.sz),λb o e hb=>?_,λb hb=>nst b (f2 b hb).2.1 (f2 b hb).2.2.1,I2.stack,I2.BR⟩
  ·have hx':∃k',sc.names.lookup x=ab k'/\(k'=.cell\/k'=.free):=by
    rcases hx with hx|hx
    ·obtain⟨k',e1,e2⟩:=rO (env:=X.env) (names:=sc.names) hx;rcases e2 with e2|⟨e2,_⟩
     ·exact⟨k',e1,.inl e2.symm⟩
     ·exact⟨k',e1,.inr e2⟩
    ·obtain⟨k',e1,e2⟩:=rO (env:=X.env) (names:=sc.names) hx;rcases e2 with e2|⟨e2,_⟩
     ·exact⟨k',e1,.inr e2.symm⟩
     ·exact⟨k',e1,.inr e2⟩
   obtain⟨k',e1,e2⟩:=hx';have hm:=lookup_mem e1;rcases e2 with e2|e2
   ·exact absurd e2 (S.EO _ hm)
   ·subst e2;exact hall x hm
  ·rcases(f2 b hb).2.2.2.1 with z|z
   ·exact I2.ok.qM b o e z
   ·exact absurd (fR (bH e) (d5 I2.ok.bsz z)) (jG _)
 have EQ:∀p∈X.pn++af,p.1<D:=λp hp=>(ltC p.1 (bH (I2.pin p hp).1)).2.2;have Lp:∀x c,cl.lookup x=ab c->c<D:=λx c e=>by
  obtain⟨v,q⟩:=I2.cell x c (hsub _ _ e);exact(ltC c q.lt).2.2
 have I':∀tk,Inv (eo X N' sc cl C s2 H2 fp) (af++[(D,{ cls:=.type "list", data:=.seq ([]:List ag).toArray })]) (pick ρ σ) H2 { s2 with heap:=h₁,toks:=tk }:=λtk=>by
  refine⟨ok',rfl,I2.bare,Un.kept old,⟨_,hns,λi x v e1 e2 e3=>?_⟩,λx c e=>?_,fC.1,λx c e=>I2.i9 x c (hsub _ _ e),λp hp=>?_,I2.hok.kept old,?_⟩
  ·have e2':∃j,ρ[i]? = ab (ab j)/\σ[j]? = ab (ab v):=by
    unfold pick at e2;rw[dw]at e2;cases hr:ρ[i]? with
    |none=>rw[hr]at e2;cases e2
    |some o=>
     rw[hr]at e2;cases o with
     |none=>cases e2
     |some j=>
      refine⟨j,rfl,?_⟩;have e2:(σ[j]?).join=ab v:=fj e2;cases hq:σ[j]? with
      |none=>rw[hq]at e2;cases e2
      | some o' => rw [hq] at e2; have e2 : o' = ab v := e2
                   rw[e2]
   obtain⟨j,hj,hv⟩:=e2';obtain⟨y,ey,eN,ef⟩:=S.ix i j hj;have e1':N'[i]? = ab x:=e1;rw[ey]at e1';cases e1';obtain⟨m,hn,hl⟩:=I2.loc;have hm:=lookup_mem ef;have kX:=S.free _ hm rfl;obtain⟨u,ru,lk⟩:=hl j x v eN hv (by rcases kX with k|k;exact .inr (.inl k);exact .inr (.inr k));refine⟨u,ru,.inr ⟨?_,?_⟩⟩
   ·show(relabel sc X.env).names.lookup x=ab .cell\/(relabel sc X.env).names.lookup x=ab .free;rcases e3 with e3|e3|e3
    ·obtain⟨k',q1,q2⟩:=rO (env:=X.env) (names:=sc.names) e3;rw[ef]at q1;cases q1;rcases q2 with q2|⟨_,q2⟩<;>cases q2
    ·exact .inl e3
    ·exact .inr e3
   ·obtain⟨c,hc'⟩:=hall x hm;refine⟨c,hc',?_⟩;rcases lk with ⟨k,_⟩|⟨_,c',ec,z⟩
    ·rcases kX with k'|k'<;>(rw[k]at k';cases k')
    ·rw[hsub _ _ hc']at ec;cases ec;obtain⟨o,ho,hd⟩:=z;exact⟨o,old _ _ ho,hd⟩
  ·obtain⟨v,o,ho,hd⟩:=I2.cell x c (hsub _ _ e);exact⟨v,o,old _ _ ho,hd⟩
  ·have hp':p∈X.pn++af\/p=(D,{ cls:=.type "list", data:=.seq ([]:List ag).toArray }):=by
    rcases dZ.mp hp with z|z
    ·exact .inl (li _ z)
    ·rcases dZ.mp z with z|z
     ·exact .inl (dX _ z)
     ·exact .inr (by simpa using z)
   rcases hp' with z|z
   ·obtain⟨q1,q2,q3,q4,q5⟩:=I2.pin p z;exact⟨old _ _ q1,q2,(ltD p.1 (EQ p z)).1,nst _ q3 q4,q5⟩
   ·subst z;exact⟨newD,fD.1,hDC,nst _ fD.2.1 fD.2.2.1,λv z=>by cases z⟩
  ·show(pick ρ σ).length=N'.length;unfold pick;rw[aS];exact S.len
 have stat:∀{H':Hp} {o:Obj},(∀b∈fp,H' b=ae)->∀b∈fp,gZ (eo X N' sc cl C s2 H2 fp) (af++[(D,o)]) H' b:=λ{H' o} hn b hb=>by
  refine⟨hn b hb,(ltD b (ltb b hb)).1,nst b (f2 b hb).2.1 (f2 b hb).2.2.1,.inl hb,λx c e=>(f2 b hb).2.2.2.2.1 x c (hsub _ _ e),λp hp=>?_⟩;rcases dZ.mp hp with z|z
  ·exact(f2 b hb).2.2.2.2.2 p (li _ z)
  ·rcases dZ.mp z with z|z
   ·exact(f2 b hb).2.2.2.2.2 p (dX _ z)
   ·have e:p=(D,o):=by simpa using z
    subst e;exact dS (ltD b (ltb b hb)).2
 have loop:∀tk,codeAny (model X.prog X.w) X.A (.compLoop (.ListComp elt [⟨tg,iter,ifs,0⟩] sc pos) 0 (.ref it) (.ref D) (compEnvC sc cl C X.env)) (compPost (model X.prog X.w) X.A X.xe use R (.ref D) C) { s2 with heap:=h₁,toks:=tk }:=λtk=>by
  refine Gr (λn s'=>∃(i:Nat) (acc:List V) (ai:List ag) (k:Nat) (H':Hp),Inv (eo X N' sc cl C s2 H2 fp) (af++[(D,{ cls:=.type "list", data:=.seq ai.toArray k })]) (pick ρ σ) H' s'/\Vals acc ai/\acc.length<=sizeLine/\tn i s'.heap/\(∀b∈fp,H' b=ae)/\W i n acc H')
   ?_ m0 ⟨0,[],[],0,H2,I' tk,.nil,fi _,T.keep _ _ _ st2 λb hb o e=>old b o e,λb hb=>(f2 b hb).1,w0⟩
  rintro n s3 ⟨i,acc,ai,k,H3,I3,va,hz0,st3,fr3,w3⟩;rcases turn i n acc H3 w3 with ⟨stop,qn⟩|⟨go,hz,Nn,hN,step⟩
  ·refine aK (T.done (eo X N' sc cl C s2 H2 fp) rfl rfl rfl hcalm i _ s3 _ H3 (λ_ _=>False) I3 (stat fr3) st3 stop) λr s4 ⟨hr,I4⟩=>?_;subst hr;obtain⟨p1,p2,p3,p4,p5⟩:=I4.pin (D,{ cls:=.type "list",data:=.seq ai.toArray k }) (by simp);have p1:s4.heap.get? D=ab { cls:=.type "list", data:=.seq ai.toArray k }:=p1;have p2:H3 D=ae:=p2;have B:=I4.base;have upn:∀b o,H3 b=ab o->upd H3 D (.lst acc) b=ab o:=λb o e=>by rw[aQ (cQ e p2)];exact e
   have IX:Inv X af σ (upd H3 D (.lst acc)) s4:=by
    refine I2.call' (ch:=fp) I4.os ⟨λb o q1 q2 q3 q4=>B.keep b o q1 q2 q3 q4,λb o q1 q2 q3 q4=>B.slot b o q1 q2 q3 q4,λb o q1 q2 q3=>?_,λb o q1 q2=>B.there b o q1 q2,
     λb xs q=>upn _ _ (B.tups b xs q),λb o u q=>upn _ _ (B.jN b o u q),λb w ps q=>?_⟩ (I4.hok.track p2 ⟨hz0,ai,k,va,p1⟩) I4.bare λb hb=>⟨(f2 b hb).2.2.2.1,(f2 b hb).2.1,(f2 b hb).2.2.2.2.1,(f2 b hb).2.2.2.2.2⟩
    ·rw[aQ (ltC b (bH q1)).2.1];exact B.free b o q1 q2 q3
    ·obtain⟨more,q'⟩:=B.ku b w ps q;exact⟨more,upn _ _ q'⟩
   obtain⟨m,hm,_⟩:=I4.loc;refine hR s4 D C _ IX (qn D p2) ⟨m,hm⟩ (I2.iO (by omega) ?_);rw[aQ (dS hDC)];exact I4.free
  ·refine aK (T.item (eo X N' sc cl C s2 H2 fp) rfl rfl rfl hcalm i _ s3 _ H3 (λ_ _=>False) I3 (stat fr3) st3 go) λr s4 ⟨u,hr,h4⟩=>?_;subst hr;refine aK h4 λ_ s5 ⟨x,H5,I5,r5,y5,st5,fr5⟩=>?_;have I5':=I5.pinned (stat fr5) (T.obj _ _ st5);refine aK (hg cl C s2 H2 fp _ s5 _ H5 x u _ I5' r5 (gk _ _ _ _ (step x H5 y5))) λ_ s6 ⟨σ6,H6,I6,⟨l6,k6⟩,q6⟩=>?_;refine aK (hc cl C s2 H2 fp _ s6 σ6 H6 _ I6 q6) λok s7 ⟨H7,I7,q7⟩=>?_;have wk:∀{oB:List (ah×Obj)} {H':Hp} {s':ak},Inv (eo X N' sc cl C s2 H2 fp) oB σ6 H' s'->Inv (eo X N' sc cl C s2 H2 fp) oB (pick ρ σ) H' s':=λ{oB H' s'} J'=>
    J'.weak l6.symm λj v e=>by
     have:∃j',ρ[j]? = ab (ab j'):=by
      unfold pick at e;rw[dw]at e;cases hr:ρ[j]? with
      |none=>rw[hr]at e;cases e
      |some o=>
       rw[hr]at e;cases o with
       |none=>cases e
       |some j'=>exact⟨j',rfl⟩
     obtain⟨j',hj'⟩:=this;rw[k6 j j' hj'];exact e
   cases ok with
   |false=>
    have q7:Nn acc H7:=by simpa using q7
    rw[ay cW];obtain⟨m',hm,w7⟩:=hN acc H7 q7;refine⟨m',hm,i+1,acc,ai,k,H7,wk I7.mX,va,hz0,T.keep _ _ _ st5 λb hb o e=>(I7.pin (b,o) (dX _ (dX _ (nO hb e)))).1,λb hb=>?_,w7⟩;obtain⟨o,e,d⟩:=T.obj _ _ st5 b hb;exact(I7.pin (b,o) (dX _ (dX _ (nO hb e)))).2.1
   |true=>
    have q7:te σ6 H7 λy H4=>Nn (acc++[y]) H4:=by simpa using q7
    rw[aw rfl];refine aK (he cl C s2 H2 fp _ s7 σ6 H7 _ I7 q7) λxv s8 ⟨y,H8,I8,r8,n8⟩=>?_;obtain⟨p1,p2,p3,p4,p5⟩:=I8.pin (D,{ cls:=.type "list",data:=.seq ai.toArray k }) (by simp);have p1:s8.heap.get? D=ab { cls:=.type "list",data:=.seq ai.toArray k }:=p1;have p2:H8 D=ae:=p2;refine wpAny_list_append_plain ⟨k,p1⟩ (λh' pl sb=>?_) (by rw[bG,<- va.length];omega);obtain⟨k',pl⟩:=pl;obtain⟨m',hm,w8⟩:=hN _ _ n8;have Ia:Inv (eo X N' sc cl C s2 H2 fp) af σ6 H8 s8:=I8.mX.mX;have Ib:Inv (eo X N' sc cl C s2 H2 fp) af σ6 H8 { s8 with heap:=h' }:=Ia.turned (t':=s8.toks) (it:=D) (λb o hb e=>(sb.2 b hb).trans e) p2 hDC (.inr (by show s2.heap.objs.size<=D;omega)) (λx c e=>(ltD c (Lp x c e)).2) λp hp=>(ltD p.1 (EQ p hp)).2;have pl':h'.get? D=ab { cls:=.type "list", data:=.seq (ai++[xv]).toArray k' }:=by rw[pl];simp
    have Ic:Inv (eo X N' sc cl C s2 H2 fp) (af++[(D,{ cls:=.type "list", data:=.seq (ai++[xv]).toArray k' })]) σ6 H8 { s8 with heap:=h' }:=Ib.wu λp hp=>by
     rcases dZ.mp hp with z|z
     ·exact Ib.pin p (dX _ z)
     ·have e:p=(D,{ cls:=.type "list", data:=.seq (ai++[xv]).toArray k' }):=by simpa using z
      subst e;exact⟨pl',p2,p3,p4,λv z=>by cases z⟩
    refine⟨m',hm,i+1,acc++[y],ai++[xv],k',H8,wk Ic,va.append (.cons r8 .nil),(by rw[bB,dI];omega),T.keep _ _ _ st5 λb hb o e=>?_,λb hb=>?_,w8⟩
    ·exact(sb.2 b (ltD b (ltb b hb)).2).trans (I8.pin (b,o) (dX _ (dX _ (nO hb e)))).1
    ·obtain⟨o,e,d⟩:=T.obj _ _ st5 b hb;exact(I8.pin (b,o) (dX _ (dX _ (nO hb e)))).2.1
 refine codeAny_compStart_list (loop _) (T.self X.A 0 _ _ _ (T.keep _ _ _ st2 λb hb o e=>old b o e) (loop _))
theorem jf(hcalm:X.calm=true)(S:fM X N' ρ sc)(hi:PI X tg iter wi)
 (hg:∀cl C s H fp,PG (eo X N' sc cl C s H fp) tg g) (gk:sx ρ g) (hc:∀cl C s H fp,oQ (eo X N' sc cl C s H fp) ifs tc) (he:∀cl C s H fp,PE (eo X N' sc cl C s H fp) elt te)
 (hs:∀x,foldedSetIterable iter X.env x=pure x:=by intro _;rfl) :
 PE X (.ListComp elt [⟨tg,iter,ifs,0⟩] sc pos) (sn wi ρ g tc te):=by
 intro af s σ H Q I h;rw[eval_ListComp];refine CT hcalm S hi hg gk hc he hs ae I h λs' D C H' I' q ⟨m,hm⟩ f=>⟨m,hm,λh' sb=>?_⟩;exact⟨.ref D,H',I'.turned (t':=s'.toks) (it:=C) (λb o hb e=>(sb.2 b hb).trans e) f.1 f.2.1 f.2.2.2.1 f.2.2.2.2.1 f.2.2.2.2.2,rfl,q⟩
theorem KH{i:Nat}{x:Str}{px:Pos}(hcalm:X.calm=true)(hN:X.N.Nodup)(hix:X.N[i]? = ab x)(hx:Loc X.env.scope x)(S:fM X N' ρ sc)(hi:PI X tg iter wi)
 (hg:∀cl C s H fp,PG (eo X N' sc cl C s H fp) tg g) (gk:sx ρ g) (hc:∀cl C s H fp,oQ (eo X N' sc cl C s H fp) ifs tc) (he:∀cl C s H fp,PE (eo X N' sc cl C s H fp) elt te)
 (hsw:swapsWith (.ListComp elt [⟨tg,iter,ifs,0⟩] sc pos) (ab (.Name x px)) cpos.line X.env=pure true:=by rfl)
 (hs:∀x,foldedSetIterable iter X.env x=pure x:=by intro _;rfl)
 (hf:X.fn x=true\/X.env.scope.names.lookup x=ab .local:=by first|exact .inl rfl|exact .inr rfl|assumption) :
 PS X (.Assign [.Name x px] (.ListComp elt [⟨tg,iter,ifs,0⟩] sc pos) cpos) (iq (sn wi ρ g tc te) (fu i)):=by
 intro af s σ H D I h;rw[exec_Assign_Name_used _ _ _ _ hsw];refine aA (tT (aA ?_));show wpAny _ X.A (do let _ <- comprehension (.ListComp elt [⟨tg,iter,ifs,0⟩] sc pos) sc X.env _ (newList []) false (eval iter X.env) (ab (assign (.Name x px) X.env))) _ _ s;refine aA (aK (CT (Q:=λy H1=>D.nx (σ.set i (ab y)) H1) (R:=λ_ s'=>SP X af D .next s') hcalm S hi hg gk hc he hs (ab (assign (.Name x px) X.env)) I h λs' Da C H' I' q ⟨m,hm⟩ f=>?_) λ_ s' hq=>bo (bo hq));show wpAny _ X.A (assign (.Name x px) X.env (.ref Da)) _ _ _;refine wpAny_assign_Name (CN I' hN hix hx (v:=.ref Da) rfl (λs2 I2 ⟨a,sb,ha⟩=>⟨m,hm.sameBut sb ?_,λh' sb2=>?_⟩) hf)
 ·rcases ha with e|e
  ·subst e;exact f.2.1
  ·exactλz=>f.2.2.2.2.1 x a e z.symm
 ·exact⟨_,H',I2.turned (t':=s2.toks) (it:=C) (λb o hb e=>(sb2.2 b hb).trans e) f.1 f.2.1 f.2.2.2.1 f.2.2.2.2.1 f.2.2.2.2.2,q⟩
end
structure It.Of(J:It)(Ok:Hp->Prop)(xs:List V):Prop where
 go:∀i H,Ok H->i<xs.length->J.go i H
 yld:∀i H x H',Ok H->i<xs.length->J.yld i H x H'->H'=H/\xs[i]? = ab x
 stop:∀H,Ok H->J.stop xs.length H
theorem Cs{K:aB}{a:ah}{xs:List V}:(oG K a).Of (λH=>cI K H a xs) xs:=⟨λi H h hi=>⟨xs,xs[i],h,by simp[hi]⟩,λi H x H' h _ y=>⟨y.1,y.2 xs h⟩,λH h=>⟨xs,h,bg _⟩⟩
theorem AF{K:aB}{a:ah}{xs:List V}:(oV K a).Of (λH=>eM K H a xs) xs:=⟨λi H h hi=>⟨xs,xs[i],h,by simp[hi]⟩,λi H x H' h _ y=>⟨y.1,y.2 xs h⟩,λH h=>⟨xs,h,bg _⟩⟩
def lC(lo:Int)(n:Nat):List V:=(bn n).map λi=>V.int (lo+(i:Nat))
theorem wW(lo:Int)(n:Nat):(lC lo n).length=n:=by simp[lC]
theorem Ku{lo:Int}{n i:Nat}(h:i<n):(lC lo n)[i]? = ab (.int (lo+i)):=by simp[lC,h]
theorem JJ{lo:Int}{n:Nat}:(nr lo n).Of (λ_=>True) (lC lo n):=⟨λi H _ hi=>by rw[wW]at hi;exact hi,λi H x H' _ hi y=>⟨y.1,by rw[wW]at hi;rw[y.2];exact Ku hi⟩,λH _=>by rw[wW];exact bg _⟩
def sgn(c:Nat):V:=.str ⟨#[c]⟩
def l5(x:Str):List V:=x.cps.toList.map sgn
theorem zX(x:Str):(l5 x).length=x.length:=by simp[l5,mK]
def ma(x:Str):It:=⟨λi _=>i<x.length,λi H y H'=>H'=H/\(l5 x)[i]? = ab y,λi _=>i=x.length⟩
theorem C3{x:Str}:(ma x).Of (λ_=>True) (l5 x):=⟨λi H _ hi=>by rw[zX]at hi;exact hi,λi H y H' _ _ h=>h,λH _=>zX x⟩
theorem BZ{P:bb}{w:aT}{K:aB}{tg:aO}(it:ah)(x:Str)(t:Tok)(ty:String)
 (hty:["enumerate","zip","dict_itemiterator","dict_reverseitemiterator","odict_iterator","itertools.zip_longest","itertools.pairwise"].contains ty=false)
 (W:∀A':br,A'.handled=ae->Walks P w A' it [it] [it] x.cps.size (SignAt x) (λi h=>h.IsStrIter it ty x t i))
 (sf:∀(A:br) (i:Nat) (s:ak) (Q:ag->ak->Prop) (E:ag->ak->Prop),s.heap.IsStrIter it ty x t i->Q (.ref it) s->wpAny (model P w) A (pyIter (.ref it)) Q E s) :
 Turn P w K tg (ma x) [it] it (λi h=>h.IsStrIter it ty x t i) where
 mem:=by simp
 obj:=λi h st b hb=>by
  have e:b=it:=by simpa using hb
  subst e;obtain⟨o,e,c,d⟩:=st;exact⟨o,e,λv z=>by rw[d]at z;cases z⟩
 keep:=λi h h' st k=>let ⟨o,ho,r⟩:=st;⟨o,k it (by simp) o ho,r⟩
 item:=by intro X hP hw hK hc i af s σ H E I hf st hg;subst hP hw hK;obtain⟨f0,f1,f2,f3,f4,f5⟩:=hf it (by simp);refine(W X.A (I.ok.hd hc)).item i s _ _ hg st λv h' tk hv st' kk=>?_;obtain⟨c,u,e,rfl⟩:=hv;have I1:Inv X af σ H { s with heap:=h',toks:=tk }:=I.turned (λb o hb e=>kk b o (by simpa using hb) e) f0 f1 f3 f4 f5;obtain⟨o,e',c',d'⟩:=id st';refine⟨_,rfl,r6 (s:={ s with heap:=h',toks:=tk }) e' c' d' hty ⟨sgn c,H,I1,⟨u,rfl⟩,⟨rfl,?_⟩,st',λb hb=>(hf b hb).1⟩⟩;unfold l5;rw[dw,Ey,e];rfl
 done:=by intro X hP hw hK hc i af s σ H E I hf st hg;subst hP hw hK;obtain⟨f0,f1,f2,f3,f4,f5⟩:=hf it (by simp);have hg:i=x.length:=hg;subst hg;exact(W X.A (I.ok.hd hc)).done s _ _ st λh' tk kk=>⟨rfl,I.turned (λb o hb e=>kk b o (by simpa using hb) e) f0 f1 f3 f4 f5⟩
 self:=sf
section
variable{X:Cx}{tg:aO}
def yS(tl:TE):TI:=λσ H R=>tl σ H λx H1=>∃z,x=.str z/\R (ma z) H1
theorem HP{l:aO}{tl:TE}(hl:PE X l tl):PI X tg l (yS tl):=by
 intro af s σ H R I h;refine aK (hl af s σ H _ I h) λv s1 ⟨x,H1,I1,r1,q1⟩=>?_;obtain⟨z,e,q⟩:=q1;subst e;obtain⟨t,rfl⟩:=r1;cases ha:z.cps.all (· < 128)
 ·refine wpAny_pyIter_wide ha ?_;refine⟨s1.heap.objs.size,[s1.heap.objs.size],_,ma z,H1,rfl,I1.kept (t':=s1.toks) λb o e=>cP _ e,BZ _ z t "str_iterator" (by decide) (λA' hA=>Walks.strWide hA _ z t) (λ_ _ _ _ _ st hQ=>wpAny_pyIter_striter_wide st hQ),⟨_,eE _ rfl,rfl,rfl⟩,λb hb=>?_,q⟩;have e:b=s1.heap.objs.size:=by simpa using hb
  subst e;exact I1.iO (bg _) (I1.hok.fresh (bg _))
 ·refine wpAny_pyIter_ascii ha ?_;refine⟨s1.heap.objs.size,[s1.heap.objs.size],_,ma z,H1,rfl,I1.kept (t':=s1.toks) λb o e=>cP _ e,BZ _ z t "str_ascii_iterator" (by decide) (λA' hA=>Walks.strAscii hA _ z t) (λ_ _ _ _ _ st hQ=>wpAny_pyIter_striter_ascii st hQ),⟨_,eE _ rfl,rfl,rfl⟩,λb hb=>?_,q⟩;have e:b=s1.heap.objs.size:=by simpa using hb
  subst e;exact I1.iO (bg _) (I1.hok.fresh (bg _))
theorem Lj:cm X (compareOp .Gt) (λx y H Q=>∃i j,x=.str i/\y=.str j/\Q (.bl (decide (j.cps.toList<i.cps.toList))) H):=by intro af s σ H x y v u Q I rx ry h;obtain⟨i,j,rfl,rfl,q⟩:=h;obtain⟨t,rfl⟩:=rx;obtain⟨t',rfl⟩:=ry;exact PySem.P.gt_str (uV I q rfl)
def mQ(x:Str)(lo hi:Option Int):Str:=⟨((x.cps.toList.drop (HT.cJ x.length 0 lo)).take (HT.cJ x.length x.length hi-HT.cJ x.length 0 lo)).toArray⟩
theorem K5(lo hi:Option Int)(n:Nat):EF lo hi 1 n=(bn (HT.cJ n n hi-HT.cJ n 0 lo)).map (λk=>HT.cJ n 0 lo+k):=by
 have h1:∀(v:Option Int) (d:Nat),d<=n->(match v with|none=>(d:Int)|some i=>max 0 (min (if i<0 then i+(n:Int)else i) (n:Int)))=((HT.cJ n d v:Nat):Int):=by
  intro v d hd;cases v with
  |none=>rfl
  |some i=>
   show max 0 (min (if i<0 then i+(n:Int)else i) (n:Int))=(((if i<0 then(i+(n:Int)).toNat else min i.toNat n):Nat):Int);by_cases hv:i<0
   ·simp only[aw hv];omega
   ·simp only[ay hv];omega
 have fin:∀(p q:Int) (a b:Nat),p=(a:Int)->q=(b:Int)->sliceRange p q 1=(bn (b-a)).map (λk=>a+k):=by
  intro p q a b e1 e2;subst e1 e2;unfold sliceRange;simp only[show((1:Int)>0)=True from by simp,gX];by_cases hlt:(a:Int)<b
  ·have e3:(((b:Int)-a+1-1)/1).toNat=b-a:=by first|omega|(simp;done)|(simp;omega)
   simp only[hlt,gX,e3];refine oi λk _=>?_;omega
  ·have:b-a=0:=by omega
   simp[hlt,this]
 unfold EF;refine fin _ _ _ _ ?_ ?_
 ·have:=h1 lo 0 (fi _);cases lo with
  |none=>exact this
  |some i=>exact this
 ·have:=h1 hi n (bg _);cases hi with
  |none=>exact this
  |some i=>exact this
theorem Ie(x:Str)(lo hi:Option Int):Txt.slice x lo hi=mQ x lo hi:=by
 have hle:HT.cJ x.length x.length hi<=x.length:=HT.DB _ _ (bg _) hi;have ha:HT.cJ x.length 0 lo<=x.length:=HT.DB _ _ (fi _) lo;unfold Txt.slice mQ;rw[K5];generalize HT.cJ x.length 0 lo=a at *;generalize HT.cJ x.length x.length hi=b at *;have hp:((bn (b-a)).map (λk=>a+k)).filterMap (λi=>x.cps[i]?)=(x.cps.toList.drop a).take (b-a):=by have h:=StrLaws.picks x.cps.toList (b-a) a (by simp[mK]at hle ha ⊢;omega);simpa using h
 split
 ·rename_i h;simp only[aS,xj,jR,Bool.true_and,j7]at h;have e:a=0\/x.length=0:=by omega
  have e2:(x.cps.toList.drop a).take (b-a)=x.cps.toList:=by
   rw[h];rcases e with e|e
   ·subst e;rw[qA];exact qv (by simp[mK])
   ·have:x.cps.toList=[]:=qu (by simpa [mK]using e);rw[this];simp
  rw[e2]
 ·rw[hp]
def CJ:V->Option Int->Option Int->Hp->VK->Prop:=λx lo hi H Q=>∃z,x=.str z/\z.length<=sizeLine/\Q (.str (mQ z lo hi)) H
theorem F6:kG X CJ:=by
 intro af s σ H x v vl vu lo hi sl Q I rx hs pl pu h;obtain⟨z,rfl,hz,q⟩:=h;obtain⟨t,rfl⟩:=rx;have fin:∀(l u:Option (Int×Tok)),vl=partValue l->vu=partValue u->lo=l.map (·.1)->hi=u.map (·.1) ->
  wpAny (model X.prog X.w) X.A (getItem (.str z t) (.ref sl)) (EP X af σ Q) X.xe s:=by
  intro l u e1 e2 e3 e4;subst e1 e2 e3 e4;refine wpAny_getItem_str_slice (l:=l) (u:=u) (st:=ae) hs rfl ?_;refine post_val_or_str ⟨d5 (Txt.slice_le z _ _) hz,λt' k=>?_⟩;refine⟨.str (mQ z _ _),H,I.tok k,⟨t',?_⟩,q⟩;show ko (Txt.slice z _ _) t'=_;rw[Ie]
 refine⟨"str", _,F.slot_str_getitem.lookup,typeIs_str _ _ _,?_⟩;cases pl with
 | none=>cases pu with
  |none=>exact fin ae ae rfl rfl rfl rfl
  |int j tj=>exact fin ae (ab (j,tj)) rfl rfl rfl rfl
 | int i ti=>cases pu with
  |none=>exact fin (ab (i,ti)) ae rfl rfl rfl rfl
  |int j tj=>exact fin (ab (i,ti)) (ab (j,tj)) rfl rfl rfl rfl
def zJ(neg:Bool):R2:=λx y H Q=>∃c z,x=sgn c/\y=.str z/\Q (.bl (if neg then !decide (c∈z.cps.toList)else decide (c∈z.cps.toList))) H
theorem Hj:cm X (compareOp .In) (zJ false):=by intro af s σ H x y v u Q I rx ry h;obtain⟨c,z,rfl,rfl,q⟩:=h;refine GC af s σ H _ _ v u Q I rx ry ⟨_,z,rfl,rfl,?_⟩;rw[StrLaws.found_one];exact q
def yN(K:aB):List V->Hp->VK->Prop:=λxs H Q=>∃x t T b,xs=[x,.ty T]/\fK K H x t/\w6 K t (.type T)=ab b/\Q (.bl b) H
theorem kQ:fo X (.builtin "isinstance") (yN X.K):=by intro af s σ H xs us Q I r h;obtain⟨x,t,T,b,rfl,ty,e,q⟩:=h;obtain⟨u,w',rfl,rx,rt⟩:=vals2 r;cases(show w'=t7 T from rt);exact Fz I rx ty e λtk=>⟨.bl b,H,I.tok tk,rfl,q⟩
end
def BP(osc:fF)(N N':List Str)(ρ:List (Option Nat))(sc:fF):Bool:=
 sc.names.all (λy=>!(decide (y.2=.cell)))&&sc.names.all (λy=>!(decide (y.2=.local))||decide (sc.names.lookup y.1=ab .local)) &&
 sc.names.all (λy=>!(decide (y.2=.free))||(decide (osc.names.lookup y.1=ab .cell)||decide (osc.names.lookup y.1=ab .free))) &&
 decide (ρ.length=N'.length)&&(bn ρ.length).all λi=>match ρ[i]? with
  |some (ab j)=>(match N'[i]? with|some x=>decide (N[j]? = ab x)&&decide (sc.names.lookup x=ab .free)|none=>false)
  |_=>true
theorem fM.of{X:Cx}{N':List Str}{ρ:List (Option Nat)}{sc:fF}(hk:sc.kind=.function)(h:BP X.env.scope X.N N' ρ sc=true):fM X N' ρ sc:=by
 unfold BP at h;simp only[fS,fE,Bool.or_eq_true,qJ,ke,mO]at h;obtain⟨⟨⟨⟨h1,h2⟩,h3⟩,h4⟩,h5⟩:=h;refine⟨hk,λy hy=>h1 y hy,λy hy e=>(h2 y hy).resolve_left (λz=>z e),λy hy e=>(h3 y hy).resolve_left (λz=>z e),h4,λi j e=>?_⟩;have hi:i < ρ.length:=(cV.mp e).1;have q:=h5 i (d3.mpr hi);rw[e]at q;cases hN:N'[i]? with
 |none=>rw[hN]at q;cases q
 |some x=>
  rw[hN]at q;simp only[fS,ke]at q;exact⟨x,rfl,q.1,q.2⟩
structure cx(P:bb)(w:aT)(K:aB)(mg:Str->Option ag)(base:aI)(CX:eY)(k:Nat)(x:Str)(ps:List Str)(sp:Sp):Prop where
 ex:∃(f:ah) (fd:bS),mg x=ab (.ref f)/\oa K (.ref f)=true/\Binds K fd ps []/\bt P w K mg base CX k f fd ps sp
theorem lJ{X:Cx}{CX:eY}{k:Nat}{x:Str}{ps:List Str}{sp:Sp}{E:XK}{e:aO}{es:List aO}{t:TA}{p pos:Pos}(C:cx X.prog X.w X.K X.mg X.base CX k x ps sp)(hr:dP k X.A)(hg:Gl X x)(hx:rX CX X E)
 (ha:PA X (e::es) t) (hdb:(x==("__debug__" : Str))=false:=by decide) (he:starEach (e::es) X.env=(false,eval e X.env)::starEach es X.env:=by rfl) (hpl:(backTo pos (starEach es X.env)).any (·.1)=false:=by rfl) :
 PE X (.Call (.Name x p) (e::es) [] pos) (mj sp [] E t):=by
 obtain⟨f,fd,hm,hk,hb,F⟩:=C.ex;exact HV F hr hg hm hk hb .nil hx ha hdb he hpl
theorem iw{X:Cx}{x:Str}{T:String}{pos:Pos}(hg:Gl X x)(hm:X.mg x=ae)(hv:bootBuiltins x=ab (.type T))(hn:x ≠ "__name__" := by decide)(hd:(x==("__debug__" : Str))=false:=by decide):PE X (.Name x pos) (tC (.ty T)):=Fj hg hm hv rfl hn hd
structure dj(K:aB)(mg:Str->Option ag)(x:Str)(st:bD)(ps:List Str):Prop where
 ex:∃(f:ah) (fd:bS),mg x=ab (.ref f)/\oa K (.ref f)=true/\Binds K fd ps []/\(∀(s:ak) (us:List ag),us.length=ps.length->lp s fd ⟨us,[]⟩ (ps.zip us))/\cL K x x st f fd
theorem u8{K:aB}{h:aI}{mg:Str->Option ag}{x:Str}{st:bD}{ps:List Str}{f:ah}{oc:ag}{od an:Option ah}{osl:Array (Option ag)}{kV doc pm cdv ct:ag}(X:K.In h)(G:h.Ns mainGlobals mg)
 (hb:∀(kV doc pm:ag) (an:Option ah) (cdv ct:ag) (us:List ag),us.length=ps.length->bindArgs (lh x x (m9 st) (jT st) (bM st) .none kV doc pm an cdv ct) ⟨us,[]⟩=pure (ps.zip us))
 (a:ff K mainGlobals x=ab (ab (.ref f))) (l:K.lookup f=ab ⟨oc,od,.func (lh x x (m9 st) (jT st) (bM st) .none kV doc pm an cdv ct),osl⟩)
 (c:tD K cdv x=true) (k:oa K (.ref f)=true):dj K mg x st ps:=by
 have F:=HB (st:=st) l c k;exact⟨f,_,PySem.W.mg_of X G a,k,F.binds hb,λs us hl=>.of_eq (hb kV doc pm an cdv ct us hl),F⟩
theorem dj.cal{P:bb}{w:aT}{K:aB}{mg:Str->Option ag}{base:aI}{CX:eY}{k:Nat}{x:Str}{st:bD}{ps:List Str}{sp:Sp}(F:dj K mg x st ps)(h:∀f fd,cL K x x st f fd->bt P w K mg base CX k f fd ps sp) :
 cx P w K mg base CX k x ps sp:=by
 obtain⟨f,fd,h1,h2,h3,_,h4⟩:=F.ex;exact⟨f,fd,h1,h2,h3,h f fd h4⟩
end L2
namespace Mi
open PySem
inductive D where
 |non|bl (b:Bool)|int (i:Int)|str (x:Str)|lst (ds:List D)|tup (ds:List D)
mutual
def D.dep:D->Nat
 |.lst ds=>cS ds+1
 |.tup ds=>cS ds+1
 |_=>0
def cS:List D->Nat
 |[]=>0
 |d::r=>max d.dep (cS r)
end
mutual
/-- Python's == -/
def bh:D->D->Bool
 |.non,.non=>true
 |.bl a,.bl b=>a==b
 |.bl a,.int b=>(if a then 1 else 0)==b
 |.int a,.bl b=>a==(if b then 1 else 0)
 |.int a,.int b=>a==b
 |.str a,.str b=>a==b
 |.lst a,.lst b=>gQ a b
 |.tup a,.tup b=>gQ a b
 |_,_=>false
def gQ:List D->List D->Bool
 |[],[]=>true
 |a::r,b::s=>bh a b&&gQ r s
 |_,_=>false
end
mutual
/-- no list in it -/
def CK:D->Bool
 |.lst _=>false
 |.tup ds=>yC ds
 |_=>true
def yC:List D->Bool
 |[]=>true
 |d::r=>CK d&&yC r
end
def dB(n:Nat)(i:Int):Option Nat:=if 0<=i then(if i<n then ab i.toNat else ae)else if -(n:Int)<=i then ab (i+n).toNat else ae
def cU{α:Type}(xs:List α)(i:Int):Option α:=(dB xs.length i).bind λj=>xs[j]?
def cJ(n d:Nat):Option Int->Nat
 |none=>d
 |some v=>if v<0 then(v+(n:Int)).toNat else min v.toNat n
def iu{α:Type}(xs:List α)(lo hi:Option Int):List α:=(xs.drop (cJ xs.length 0 lo)).take (cJ xs.length xs.length hi-cJ xs.length 0 lo)
abbrev Ky:=Sum Bool Str
structure Kp where
 a:Nat
 c:Nat
 q:Str
 ga:List Nat
 deriving DecidableEq
inductive W where
 |d (x:D)|dk (am:List (Ky×D))|dt (am:List (List Ky×D))|df (am:List (List Ky×D))|ex (c:String)|fn (κ:Kp) (uj:List D)|xr (c:String) (x:D)
abbrev Env:=List (Option W)
structure hV where
 cls:String
 val:List D
inductive Rs(α:Type) where
 |ok (a:α)|ex (x:hV)|no
noncomputable def Rs.bind{α β:Type}:Rs α->(α->Rs β)->Rs β
 |.ok a,f=>f a
 |.ex x,_=>.ex x
 |.no,_=>.no
@[simp] theorem aN {α β:Type} (a:α) (f:α->Rs β):(Rs.ok a).bind f=f a:=rfl
@[simp] theorem LI {α β:Type} (x:hV) (f:α->Rs β):(Rs.ex x).bind f=.ex x:=rfl
@[simp] theorem LG {α β:Type} (f:α->Rs β):(Rs.no).bind f=.no:=rfl
def Fin{α:Type}(r:Rs α)(k:α->Prop):Prop:=match r with
 |.ok a=>k a
 |_=>False
theorem ao{α β:Type}{r:Rs α}{f:α->Rs β}{k:β->Prop}:Fin (r.bind f) k↔Fin r λa=>Fin (f a) k:=by cases r<;>exact bq
theorem Fin.mono{α:Type}{r:Rs α}{k k':α->Prop}(h:Fin r k)(m:∀a,k a->k' a):Fin r k':=by
 cases r with
 |ok a=>exact m a h
 |ex x=>exact h
 |no=>exact h
theorem nP{α:Type}{r s:Rs α}{k:α->Prop}(h:Fin (if true=true then r else s) k):Fin r k:=by simpa using h
theorem mZ{α:Type}{r s:Rs α}{k:α->Prop}(h:Fin (if false=true then r else s) k):Fin s k:=by simpa using h
theorem j1{α:Type}{a:α}{k:α->Prop}(h:Fin (.ok a) k):k a:=h
def cN{α:Type}:Option α->Rs α
 |some a=>.ok a
 |none=>.no
def a6{α:Type}(c:Prop)[Decidable c](r:Rs α):Rs α:=if c then r else .no
theorem aE{α:Type}{c:Prop}[Decidable c]{r:Rs α}(h:c):a6 c r=r:=aw h
theorem cy{α:Type}{c:Prop}[Decidable c]{r:Rs α}{k:α->Prop}(h:Fin (a6 c r) k):c/\Fin r k:=by
 unfold a6 at h;split at h
 ·exact⟨‹_›,h⟩
 ·exact h.elim
abbrev E:=Env->Rs D
abbrev C:=Env->Rs Bool
def mC(d:D):E:=λ_=>.ok d
def mV(i:Nat):E:=λe=>match e[i]? with
 |some (ab (.d x))=>.ok x
 |_=>.no
def m1(f:D->Rs D)(a:E):E:=λe=>(a e).bind f
def m2(f:D->D->Rs D)(a b:E):E:=λe=>(a e).bind λx=>(b e).bind λy=>f x y
def fQ:List E->Env->Rs (List D)
 |[],_=>.ok []
 |a::r,e=>(a e).bind λx=>(fQ r e).bind λxs=>.ok (x::xs)
def mN(f:List D->Rs D)(as:List E):E:=λe=>(fQ as e).bind f
def dTup(ds:List D):Rs D:=a6 (ds.length<=16777216) (.ok (.tup ds))
def cH(ds:List D):Rs D:=a6 (ds.length<=16777216) (.ok (.lst ds))
def nK:D->Rs Bool
 |.bl b=>.ok b
 |_=>.no
def wF(a b:E):E:=λe=>(a e).bind λx=>(nK x).bind λc=>if c=true then b e else .ok (.bl false)
def kE(a b:E):E:=λe=>(a e).bind λx=>(nK x).bind λc=>if c=true then .ok (.bl true)else b e
def lx:D->Rs Int
 |.int i=>.ok i
 |_=>.no
def jX:Option E->Env->Rs (Option Int)
 |none,_=>.ok ae
 |some a,e=>(a e).bind λx=>(lx x).bind λi=>.ok (ab i)
def kY(x:Str)(lo hi:Option Int):Str:=⟨(iu x.cps.toList lo hi).toArray⟩
def gA(x:D)(lo hi:Option Int):Rs D:=match x with
 |.lst ds=>.ok (.lst (iu ds lo hi))
 |.str z=>a6 (z.length<=16777216) (.ok (.str (kY z lo hi)))
 |_=>.no
def fL(f:D->Option Int->Option Int->Rs D)(a:E)(lo hi:Option E):E:=λe=>(a e).bind λx=>(jX lo e).bind λl=>(jX hi e).bind λh=>f x l h
def cB(a:E):C:=λe=>(a e).bind nK
def fb(a b:C):C:=λe=>(a e).bind λc=>if c=true then b e else .ok false
def jd(a b:C):C:=λe=>(a e).bind λc=>if c=true then .ok true else b e
def eF(a:C):C:=λe=>(a e).bind λc=>.ok (!c)
abbrev I:=Env->Rs (List D)
def rZ:D->Rs (List D)
 |.lst ds=>.ok ds
 |.tup ds=>.ok ds
 |.str x=>.ok (x.cps.toList.map λc=>.str ⟨#[c]⟩)
 |_=>.no
def c9(a:E):I:=λe=>(a e).bind rZ
def c8(lo hi:Int):List D:=(bn (hi-lo).toNat).map λk=>.int (lo+(k:Nat))
def okR(i:Int):Prop:=-(2 ^ 62)<=i/\i<2 ^ 62
instance (i:Int):Decidable (okR i):=inferInstanceAs (Decidable (_/\_))
def f8(a:E):I:=λe=>(a e).bind λx=>(lx x).bind λj=>a6 (okR j) (.ok (c8 0 j))
def gW(k:Nat):List D->List D
 |[]=>[]
 |d::r=>.tup [.int k,d]::gW (k+1) r
def Ba:D->Rs (List D)
 |.lst ds=>.ok ds
 |_=>.no
def wH(a:E):I:=λe=>(a e).bind λx=>(Ba x).bind λds=>.ok (gW 0 ds)
def fW:List D->List D->List D
 |a::r,b::s=>.tup [a,b]::fW r s
 |_,_=>[]
inductive Tg where
 |n (i:Nat)|t (is:List Nat)
def lg:List Nat->List D->Env->Rs Env
 |[],[],e=>.ok e
 |i::is,d::ds,e=>lg is ds (e.set i (ab (.d d)))
 |_,_,_=>.no
def Tg.put:Tg->D->Env->Rs Env
 |.n i,d,e=>.ok (e.set i (ab (.d d)))
 |.t is,.tup ds,e=>lg is ds e
 |_,_,_=>.no
def je(ρ:List (Option Nat))(e:Env):Env:=ρ.map λo=>o.bind λj=>(e[j]?).join
def ee(tg:Tg)(c:C)(a:E)(e:Env):List D->Rs (List D)
 |[]=>.ok []
 |x::r=>(tg.put x e).bind λe1=>(c e1).bind λk=>if k=true then(a e1).bind λy=>(ee tg c a e r).bind λys=>.ok (y::ys)else ee tg c a e r
def dD:C:=λ_=>.ok true
def eu(ρ:List (Option Nat))(it:I)(tg:Tg)(c:C)(a:E):E:=λe=>(it e).bind λxs=>a6 (xs.length<=16777216) ((ee tg c a (je ρ e) xs).bind λys=>.ok (.lst ys))
abbrev Fn:=List W->Rs W
abbrev EW:=Env->Rs W
def wD(a:E):EW:=λe=>(a e).bind λx=>.ok (.d x)
def wV(i:Nat):EW:=λe=>match e[i]? with
 |some (ab w)=>.ok w
 |_=>.no
def eW:List EW->Env->Rs (List W)
 |[],_=>.ok []
 |a::r,e=>(a e).bind λx=>(eW r e).bind λxs=>.ok (x::xs)
def kM(f:Fn)(as:List EW):EW:=λe=>(eW as e).bind f
def sY:W->Rs D
 |.d x=>.ok x
 |_=>.no
def aX(f:Fn)(as:List EW):E:=λe=>(kM f as e).bind sY
inductive Out where
 |nx (e:Env)|rt (w:W)|bk (e:Env)|ct (e:Env)
abbrev S:=Env->Rs Out
def cn:S:=λe=>.ok (.nx e)
def aP(s t:S):S:=λe=>(s e).bind λo=>match o with
 |.nx e'=>t e'
 |o=>.ok o
def uP(i:Nat)(a:EW):S:=λe=>(a e).bind λw=>.ok (.nx (e.set i (ab w)))
def bE(i:Nat)(a:E):S:=λe=>(a e).bind λd=>.ok (.nx (e.set i (ab (.d d))))
def iR(a:E):S:=λe=>(a e).bind λ_=>.ok (.nx e)
def bJ(a:EW):S:=λe=>(a e).bind λw=>.ok (.rt w)
def bA(c:C)(s t:S):S:=λe=>(c e).bind λk=>if k=true then s e else t e
def pz:S:=λ_=>.no
def gf(tg:Tg)(body:S):List D->Env->Rs Out
 |[],e=>.ok (.nx e)
 | x::r,e=>(tg.put x e).bind λe1=>(body e1).bind λo=>match o with
  |.nx e2=>gf tg body r e2
  |.ct e2=>gf tg body r e2
  |.bk e2=>.ok (.nx e2)
  |.rt w=>.ok (.rt w)
def dM(it:I)(tg:Tg)(body:S):S:=λe=>(it e).bind λxs=>gf tg body xs e
def getL(e:Env)(i:Nat):Rs (List D):=match e[i]? with
 |some (ab (.d (.lst ds)))=>.ok ds
 |_=>.no
def putL(e:Env)(i:Nat)(ds:List D):Env:=e.set i (ab (.d (.lst ds)))
def fV(i:Nat)(a:E):S:=λe=>(a e).bind λd=>(getL e i).bind λds=>a6 (ds.length<16777216) (.ok (.nx (putL e i (ds++[d]))))
def sB(i:Nat)(a:E):S:=λe=>(a e).bind λd=>(getL e i).bind λds=>match d with
 |.lst xs=>a6 (ds.length+xs.length<=16777216) (.ok (.nx (putL e i (ds++xs))))
 |_=>.no
def wT(i:Nat):S:=λe=>(getL e i).bind λds=>.ok (.nx (putL e i ds.reverse))
def jZ(ds:List D)(i:Int):Rs (D×List D):=a6 (-(2 ^ 63)<=i/\i<2 ^ 63) ((cN (dB ds.length i)).bind λk=>(cN ds[k]?).bind λd=>.ok (d,ds.eraseIdx k))
def lS(x y:Nat)(k:E):S:=λe=>(k e).bind λz=>(lx z).bind λi=>(getL e y).bind λds=>(jZ ds i).bind λp=>.ok (.nx ((putL e y p.2).set x (ab (.d p.1))))
def r0(x y:Nat)(k:E):S:=λe=>(k e).bind λz=>(lx z).bind λi=>(getL e y).bind λds=>(jZ ds i).bind λp=>(getL (putL e y p.2) x).bind λes=>
 a6 (es.length<16777216) (.ok (.nx (putL (putL e y p.2) x (es++[p.1]))))
def o0(x:Nat)(k a:E):S:=λe=>(a e).bind λd=>(k e).bind λz=>(lx z).bind λi=>(getL e x).bind λds=>(cN (dB ds.length i)).bind λj=>.ok (.nx (putL e x (ds.set j d)))
def sN(x y:Nat):S:=λe=>match e[y]? with
 |some (ab w)=>.ok (.nx ((e.set y ae).set x (ab w)))
 |_=>.no
def lW:D->Option Ky
 |.bl i=>ab (.inl i)
 |.str x=>ab (.inr x)
 |_=>ae
def lL:List D->Option (List Ky)
 |[]=>ab []
 | d::r=>match lW d,lL r with
  |some k,ab ks=>ab (k::ks)
  |_,_=>ae
def gU{κ:Type}[DecidableEq κ](am:List (κ×D))(k:κ):Option D:=(am.find? λkv=>decide (kv.1=k)).map (·.2)
def vi(w:W)(k:D):Rs (Option D):=match w with
 |.dk am=>(cN (lW k)).bind λk=>.ok (gU am k)
 | .dt am=>match k with
  |.tup ds=>(cN (lL ds)).bind λk=>.ok (gU am k)
  |_=>.no
 | .df am=>match k with
  |.tup ds=>(cN (lL ds)).bind λk=>.ok (gU am k)
  |_=>.no
 |_=>.no
def putK{κ:Type}[DecidableEq κ](k:κ)(v:D)(am:List (κ×D)):List (κ×D):=if(am.any λkv=>decide (kv.1=k))=true then am.map (λkv=>if kv.1=k then(kv.1,v)else kv)else am++[(k,v)]
def wN(w:W)(k v:D):Rs W:=match w with
 |.dk am=>a6 (am.length<16777216) ((cN (lW k)).bind λk=>.ok (.dk (putK k v am)))
 | .dt am=>match k with
  |.tup ds=>a6 (am.length<16777216) ((cN (lL ds)).bind λk=>.ok (.dt (putK k v am)))
  |_=>.no
 |_=>.no
def pk(i:Nat)(k:E):E:=λe=>(k e).bind λd=>(wV i e).bind λw=>(vi w d).bind λo=>.ok (.bl o.isSome)
def sR(i:Nat)(k:E):E:=λe=>(k e).bind λd=>(wV i e).bind λw=>(vi w d).bind cN
def iN(i:Nat)(k v:E):S:=λe=>(v e).bind λx=>(k e).bind λd=>(wV i e).bind λw=>(wN w d x).bind λw'=>.ok (.nx (e.set i (ab w')))
def j8:Out->Rs W
 |.rt w=>.ok w
 |.nx _=>.ok (.d .non)
 |_=>.no
def eP(k n:Nat)(body:S):Fn:=λws=>a6 (ws.length=k) ((body (ws.map ab++dE (n-ws.length) ae)).bind j8)
def jh:Out->Rs W
 |.rt w=>.ok w
 |_=>.no
def gc(k n:Nat)(body:S):Fn:=λws=>a6 (ws.length=k) ((body (ws.map ab++dE (n-ws.length) ae)).bind jh)
def v0:Fn:=λ_=>.no
def jQ(i j:Int):Prop:=(-(2 ^ 64)<i/\i<2 ^ 64)\/(-(2 ^ 64)<j/\j<2 ^ 64)
instance (i j:Int):Decidable (jQ i j):=inferInstanceAs (Decidable (_\/_))
def j4(j:Int):Prop:=0<j/\j.natAbs.log2<9000
instance (j:Int):Decidable (j4 j):=inferInstanceAs (Decidable (_/\_))
def C1(i j:Int):Prop:=0<=j/\j<=1000000/\i.natAbs<2 ^ 64
instance (i j:Int):Decidable (C1 i j):=inferInstanceAs (Decidable (_/\_))
def aW:D->D->Rs D
 |.int i,.int j=>.ok (.int (i+j))
 |.str i,.str j=>a6 (i.length+j.length<=16777216) (.ok (.str (i++j)))
 |.lst i,.lst j=>a6 (i.length+j.length<=16777216) (.ok (.lst (i++j)))
 |_,_=>.no
def iS:D->D->Rs D
 |.int i,.int j=>.ok (.int (i-j))
 |_,_=>.no
def bp:D->D->Rs D
 |.int i,.int j=>a6 (jQ i j) (.ok (.int (i*j)))
 |_,_=>.no
def bN:D->D->Rs D
 |.int i,.int j=>a6 (j4 j) (.ok (.int (i/j)))
 |_,_=>.no
def aU:D->D->Rs D
 |.int i,.int j=>a6 (0<j) (.ok (.int (i%j)))
 |_,_=>.no
def vG:D->D->Rs D
 |.int i,.int j=>a6 (C1 i j) (.ok (.int (i ^ j.toNat)))
 |_,_=>.no
def gC:D->Rs D
 |.int i=>.ok (.int (-i))
 |_=>.no
def dR:D->D->Rs D
 |.int i,.int j=>.ok (.bl (decide (i<j)))
 |.str i,.str j=>.ok (.bl (decide (i.cps.toList<j.cps.toList)))
 |_,_=>.no
def uX:D->D->Rs D
 |.int i,.int j=>.ok (.bl (decide (j<i)))
 |.str i,.str j=>.ok (.bl (decide (j.cps.toList<i.cps.toList)))
 |_,_=>.no
def et(x y:D):Rs D:=a6 (x.dep<=16) (.ok (.bl (bh x y)))
def fO(x y:D):Rs D:=a6 (x.dep<=16) (.ok (.bl (!bh x y)))
def ia(x y:D):Rs D:=match y with
 |.lst ds=>a6 (cS ds<=16) (.ok (.bl (ds.any λe=>bh e x)))
 |.tup ds=>a6 (cS ds<=16) (.ok (.bl (ds.any λe=>bh e x)))
 | .str z=>match x with
  |.str s=>a6 (s.length=1) (.ok (.bl (decide (s.cps.getD 0 0∈z.cps.toList))))
  |_=>.no
 |_=>.no
def iL(x y:D):Rs D:=match y with
 |.lst ds=>a6 (cS ds<=16) (.ok (.bl (!ds.any λe=>bh e x)))
 |.tup ds=>a6 (cS ds<=16) (.ok (.bl (!ds.any λe=>bh e x)))
 |_=>.no
def aG(x y:D):Rs D:=match x,y with
 |.lst ds,.int i=>cN (cU ds i)
 |.tup ds,.int i=>cN (cU ds i)
 |.str z,.int i=>a6 (z.length<=16777216) ((cN (cU z.cps.toList i)).bind λc=>.ok (.str ⟨#[c]⟩))
 |_,_=>.no
def da:List D->Rs D
 |[.lst ds]=>.ok (.int ds.length)
 |[.tup ds]=>.ok (.int ds.length)
 |[.str z]=>a6 (z.length<=16777216) (.ok (.int z.length))
 |_=>.no
def gY:List D->Rs D
 |[.int i,.int j]=>.ok (.int (max i j))
 |_=>.no
def lc:List D->Rs D
 |[.int i,.int j]=>.ok (.int (min i j))
 |_=>.no
def AX:List D->Rs D
 |[.lst ds]=>.ok (.lst ds)
 |[.tup ds]=>.ok (.lst ds)
 |_=>.no
def u6:List D->Rs D
 |[.lst ds]=>.ok (.tup ds)
 |[.tup ds]=>.ok (.tup ds)
 |_=>.no
def nB(t:String):D->Bool
 |.non=>false
 |.bl _=>t == "bool" || t == "int"
 |.int _=>t == "int"
 |.str _=>t == "str"
 |.lst _=>t == "list"
 |.tup _=>t == "tuple"
def vH:D->String
 |.non => "NoneType" | .bl _ => "bool" | .int _ => "int" | .str _ => "str" | .lst _ => "list" | .tup _ => "tuple"
def cT(ts:List String)(x:D):Rs D:=.ok (.bl (ts.any λt=>nB t x))
def iY:List D->Option (List Str)
 |[]=>ab []
 |.str b::r=>(iY r).map (b :: ·)
 |_=>ae
def rY(x y:D):Rs D:=match x,y with
 |.str sep,.lst ds=>(cN (iY ds)).bind λys=>a6 ((ys.map (·.length)).sum+ys.length*sep.length<=16777216) (.ok (.str (iC sep ys)))
 |_,_=>.no
def met(val:Nat->Str):Nat->List Str
 |0=>[]
 |i+1=>if val i∈met val i then met val i else met val i++[val i]
end Mi
namespace L2
open PySem PySem.Spec PyProof.Rows
open Mi (D cS bh gQ)
mutual
theorem u5:∀d:D,bh d d=true
 |.non=>rfl
 |.bl b=>by simp[bh]
 |.int i=>by simp[bh]
 |.str x=>by simp[bh]
 |.lst ds=>by rw[bh];exact uC ds
 |.tup ds=>by rw[bh];exact uC ds
theorem uC:∀ds:List D,gQ ds ds=true
 |[]=>rfl
 |d::r=>by rw[gQ,u5 d,uC r];rfl
end
theorem oF:∀{ds es:List D},ds.length≠es.length->gQ ds es=false
 |[],[],h=>absurd rfl h
 |[],_::_,_=>rfl
 |_::_,[],_=>rfl
 |d::r,e::s,h=>by rw[gQ,oF (λz=>h (by rw[ce,ce,z])),tY]
theorem oZ:∀{ds es:List D},ds.length=es.length->gQ ds es=(bn ds.length).all λj=>bh (ds.getD j .non) (es.getD j .non)
 |[],[],_=>rfl
 |[],_::_,h=>by simp at h
 |_::_,[],h=>by simp at h
 |d::r,e::s,h=>by
  rw[gQ,oZ (by simpa using h),ce,List.range_succ_eq_map,List.all_cons,List.all_map];rfl
mutual
/-- the value v in the heap H is the tree d -/
def Rep(K:aB)(H:Hp):D->V->Prop
 |.non,v=>v=.non
 |.bl b,v=>v=.bl b
 |.int i,v=>v=.int i
 |.str x,v=>v=.str x
 |.lst ds,v=>∃a xs,v=.ref a/\cI K H a xs/\aV K H ds xs
 |.tup ds,v=>∃a xs,v=.ref a/\eM K H a xs/\aV K H ds xs
def aV(K:aB)(H:Hp):List D->List V->Prop
 |[],vs=>vs=[]
 |d::ds,vs=>∃v r,vs=v::r/\Rep K H d v/\aV K H ds r
end
theorem aV.length{K:aB}{H:Hp}:∀{ds:List D} {vs:List V},aV K H ds vs->ds.length=vs.length
 |[],vs,h=>by rw[aV]at h;subst h;rfl
 |d::ds,vs,h=>by
  rw[aV]at h;obtain⟨v,r,rfl,_,q⟩:=h;rw[ce,ce,aV.length q]
theorem aV.get{K:aB}{H:Hp}:∀{ds:List D} {vs:List V} {j:Nat} {v:V},aV K H ds vs->vs[j]? = ab v->Rep K H (ds.getD j .non) v
 |[],vs,j,v,h,e=>by rw[aV]at h;subst h;simp at e
 |d::ds,vs,0,v,h,e=>by
  rw[aV]at h;obtain⟨v',r,rfl,p,q⟩:=h;simp at e;subst e;exact p
 |d::ds,vs,j+1,v,h,e=>by
  rw[aV]at h;obtain⟨v',r,rfl,p,q⟩:=h;have:=aV.get (j:=j) (v:=v) q (by simpa using e);simpa using this
section
variable{X:Cx}{af:List (ah×Obj)}{σ:St}{H:Hp}{s:ak}
theorem Inv.yU(I:Inv X af σ H s){a:ah}{xs ys:List V}(h:cI X.K H a xs)(h':eM X.K H a ys):False:=by obtain⟨ai,_,p,_⟩:=I.list h;obtain⟨its',_,q,_⟩:=I.tuple h';obtain⟨o,n,e,c,_⟩:=p;obtain⟨o',e',c',_⟩:=q;rw[e]at e';cases e';rw[c]at c';exact absurd (uf c') (by decide)
mutual
theorem Rep.inj(I:Inv X af σ H s):∀{d e:D} {v:V},Rep X.K H d v->Rep X.K H e v->d=e
 |.non,e,v,h,h'=>by
  rw[Rep]at h;subst h;cases e<;>rw[Rep]at h'<;>first|rfl|(obtain⟨_,_,z,_⟩:=h';cases z)|cases h'
 |.bl b,e,v,h,h'=>by
  rw[Rep]at h;subst h;cases e<;>rw[Rep]at h'<;>first|(obtain⟨_,_,z,_⟩:=h';cases z)|(cases h';rfl)|cases h'
 |.int b,e,v,h,h'=>by
  rw[Rep]at h;subst h;cases e<;>rw[Rep]at h'<;>first|(obtain⟨_,_,z,_⟩:=h';cases z)|(cases h';rfl)|cases h'
 |.str b,e,v,h,h'=>by
  rw[Rep]at h;subst h;cases e<;>rw[Rep]at h'<;>first|(obtain⟨_,_,z,_⟩:=h';cases z)|(cases h';rfl)|cases h'
 |.lst ds,e,v,h,h'=>by
  rw[Rep]at h;obtain⟨a,xs,rfl,q,r⟩:=h;cases e with
  |lst es=>
   rw[Rep]at h';obtain⟨a',xs',z,q',r'⟩:=h';cases z;rw[I.rJ q' q]at r';rw[aV.inj I r r']
  |tup es=>
   rw[Rep]at h';obtain⟨a',xs',z,q',r'⟩:=h';cases z;exact(I.yU q q').elim
  |_=>rw[Rep]at h';cases h'
 |.tup ds,e,v,h,h'=>by
  rw[Rep]at h;obtain⟨a,xs,rfl,q,r⟩:=h;cases e with
  |tup es=>
   rw[Rep]at h';obtain⟨a',xs',z,q',r'⟩:=h';cases z;rw[I.u7 q' q]at r';rw[aV.inj I r r']
  |lst es=>
   rw[Rep]at h';obtain⟨a',xs',z,q',r'⟩:=h';cases z;exact(I.yU q' q).elim
  |_=>rw[Rep]at h';cases h'
theorem aV.inj(I:Inv X af σ H s):∀{ds es:List D} {vs:List V},aV X.K H ds vs->aV X.K H es vs->ds=es
 |[],es,vs,h,h'=>by
  rw[aV]at h;subst h;cases es with
  |nil=>rfl
  |cons e es=>rw[aV]at h';obtain⟨_,_,z,_⟩:=h';cases z
 |d::ds,es,vs,h,h'=>by
  rw[aV]at h;obtain⟨v,r,rfl,p,q⟩:=h;cases es with
  |nil=>rw[aV]at h';cases h'
  |cons e es=>
   rw[aV]at h';obtain⟨v',r',z,p',q'⟩:=h';cases z;rw[Rep.inj I p p',aV.inj I q q']
end
theorem uQ:∀{ds:List D} {j:Nat},(ds.getD j .non).dep<=cS ds
 |[],j=>by simp[D.dep]
 |d::ds,0=>by simp[cS];omega
 |d::ds,j+1=>by
  have:=uQ (ds:=ds) (j:=j);have e:(d::ds).getD (j+1) .non=ds.getD j .non:=by simp
  rw[e,cS];omega
def _root_.Mi.D.flat:D->Bool
 |.lst _=>false
 |.tup _=>false
 |_=>true
def _root_.Mi.D.toV:D->V
 |.non=>.non|.bl b=>.bl b|.int i=>.int i|.str x=>.str x|.lst _=>.non|.tup _=>.non
theorem Rep.flat{K:aB}:∀{d:D} {v:V},d.flat=true->Rep K H d v->v=d.toV/\ve v=true
 |.non,v,_,h=>by rw[Rep]at h;subst h;exact⟨rfl,rfl⟩
 |.bl b,v,_,h=>by rw[Rep]at h;subst h;exact⟨rfl,rfl⟩
 |.int b,v,_,h=>by rw[Rep]at h;subst h;exact⟨rfl,rfl⟩
 |.str b,v,_,h=>by rw[Rep]at h;subst h;exact⟨rfl,rfl⟩
 |.lst _,v,z,h=>by cases z
 |.tup _,v,z,h=>by cases z
theorem KW:∀{d e:D},d.flat=true->e.flat=true->bh d e=yR d.toV e.toV:=by intro d e h1 h2;cases d<;>cases e<;>first|rfl|exact absurd (show false=true from h1) cW|exact absurd (show false=true from h2) cW
open SeqAt in
theorem Az(I:Inv X af σ H s):∀(n:Nat) (d e:D) (A:br) {x y:V} {u u':ag},d.dep<=n->A.units+n<cLine->Rep X.K H d x->Rep X.K H e y->RelV x u->RelV y u'->EqAt A s u u' (bh d e):=by
 intro n
 induction n using Nat.strongRecOn with
 |ind n ih=>
  intro d e A x y u u' hd hu h h' r r';have hu0:A.units<cLine:=by omega
  by_cases hdf:d.flat=true
  ·obtain⟨ex,fx⟩:=h.flat hdf;subst ex;by_cases hef:e.flat=true
   ·obtain⟨ey,fy⟩:=h'.flat hef;subst ey;rw[KW hdf hef];exact Gv r r' fx fy
   ·cases e with
    |lst es=>
     rw[Rep]at h';obtain⟨a,xs,rfl,q,_⟩:=h';cases r';obtain⟨ai,_,p,_⟩:=I.list q;cases d with
     |non=>cases r;exact EqAt.none_list p.isList hu0
     |bl b=>cases r;exact EqAt.bool_list b p.isList hu0
     |int b=>obtain⟨t,rfl⟩:=r;exact EqAt.int_list b t p.isList hu0
     |str b=>obtain⟨t,rfl⟩:=r;exact EqAt.str_list b t p.isList hu0
     |_=>cases hdf
    |tup es=>
     rw[Rep]at h';obtain⟨a,xs,rfl,q,_⟩:=h';cases r';obtain⟨ai,_,p,_⟩:=I.tuple q;cases d with
     |non=>cases r;exact EqAt.none_tuple p hu0
     |bl b=>cases r;exact EqAt.bool_tuple b p hu0
     |int b=>obtain⟨t,rfl⟩:=r;exact EqAt.int_tuple b t p hu0
     |str b=>obtain⟨t,rfl⟩:=r;exact EqAt.str_tuple b t p hu0
     |_=>cases hdf
    |_=>exact absurd rfl hef
  ·by_cases hef:e.flat=true
   ·obtain⟨ey,fy⟩:=h'.flat hef;subst ey;cases d with
    |lst ds=>
     rw[Rep]at h;obtain⟨a,xs,rfl,q,_⟩:=h;cases r;obtain⟨ai,_,p,_⟩:=I.list q;cases e with
     |non=>cases r';exact EqAt.list_none p.isList hu0
     |bl b=>cases r';exact EqAt.list_bool b p.isList hu0
     |int b=>obtain⟨t,rfl⟩:=r';exact EqAt.list_int b t p.isList hu0
     |str b=>obtain⟨t,rfl⟩:=r';exact EqAt.list_str b t p.isList hu0
     |_=>cases hef
    |tup ds=>
     rw[Rep]at h;obtain⟨a,xs,rfl,q,_⟩:=h;cases r;obtain⟨ai,_,p,_⟩:=I.tuple q;cases e with
     |non=>cases r';exact EqAt.tuple_none p hu0
     |bl b=>cases r';exact EqAt.tuple_bool b p hu0
     |int b=>obtain⟨t,rfl⟩:=r';exact EqAt.tuple_int b t p hu0
     |str b=>obtain⟨t,rfl⟩:=r';exact EqAt.tuple_str b t p hu0
     |_=>cases hef
    |_=>exact absurd rfl hdf
   ·-- both are lists or tuples
    have item:∀{ds es:List D} {xs ys:List V} {ai its':List ag},cS ds+1<=n->aV X.K H ds xs->aV X.K H es ys->Vals xs ai->Vals ys its' ->
     ∀j (h1:j<ai.toArray.size) (h2:j<its'.toArray.size),EqAt A.in1 s ai.toArray[j] its'.toArray[j] (bh (ds.getD j .non) (es.getD j .non)):=by
     intro ds es xs ys ai its' hn q q' v v' j h1 h2;have h1':j<ai.length:=by simpa using h1
     have h2':j<its'.length:=by simpa using h2
     have e1:j<xs.length:=by rw[v.length];exact h1'
     have e2:j<ys.length:=by rw[v'.length];exact h2'
     have g1:xs[j]? = ab xs[j]:=by simp[e1]
     have g2:ys[j]? = ab ys[j]:=by simp[e2]
     obtain⟨w1,k1,r1⟩:=v.get g1;obtain⟨w2,k2,r2⟩:=v'.get g2;have t1:ai.toArray[j]=w1:=by obtain⟨_,k1⟩:=cV.mp k1;simpa using k1
     have t2:its'.toArray[j]=w2:=by obtain⟨_,k2⟩:=cV.mp k2;simpa using k2
     rw[t1,t2];have:=uQ (ds:=ds) (j:=j);refine ih (n-1) (by omega) _ _ A.in1 (by omega) ?_ (q.get g1) (q'.get g2) r1 r2;show A.units+1+(n-1)<cLine;omega
    cases d with
    |lst ds=>
     rw[Rep]at h;obtain⟨a,xs,rfl,q,rr⟩:=h;cases r;obtain⟨ai,v,p,_⟩:=I.list q;have hn:cS ds+1<=n:=by simpa [D.dep]using hd
     cases e with
     |lst es=>
      rw[Rep]at h';obtain⟨b,ys,rfl,q',rr'⟩:=h';cases r';obtain⟨its',v',p',_⟩:=I.list q';by_cases hab:a=b
      ·subst hab;rw[I.rJ q' q]at rr';rw[aV.inj I rr rr',u5];exact EqAt.same _
      ·have l1:=rr.length;have l2:=rr'.length;have l3:=v.length;have l4:=v'.length;by_cases hl:ds.length=es.length
       ·rw[bh,oZ hl];have:=RcAt.lists p.isList p'.isList (by simp;omega) hu0 (item hn rr rr' v v');have e:ai.toArray.size=ds.length:=by simp;omega
        rw[e]at this;exact .of_refs hab this
       ·rw[bh,oF hl];exact .of_refs hab (RcAt.lists_lengths p.isList p'.isList (by simp;omega) hu0)
     |tup es=>
      rw[Rep]at h';obtain⟨b,ys,rfl,q',_⟩:=h';cases r';obtain⟨its',_,p',_⟩:=I.tuple q';exact EqAt.list_tuple p.isList p' hu0
     |_=>exact absurd rfl hef
    |tup ds=>
     rw[Rep]at h;obtain⟨a,xs,rfl,q,rr⟩:=h;cases r;obtain⟨ai,v,p,_⟩:=I.tuple q;have hn:cS ds+1<=n:=by simpa [D.dep]using hd
     cases e with
     |tup es=>
      rw[Rep]at h';obtain⟨b,ys,rfl,q',rr'⟩:=h';cases r';obtain⟨its',v',p',_⟩:=I.tuple q';by_cases hab:a=b
      ·subst hab;rw[I.u7 q' q]at rr';rw[aV.inj I rr rr',u5];exact EqAt.same _
      ·have l1:=rr.length;have l2:=rr'.length;have l3:=v.length;have l4:=v'.length;have R:=RcAt.tuples p p' hu0 (item hn rr rr' v v');have e1:ai.toArray.size=ds.length:=by simp;omega
       have e2:its'.toArray.size=es.length:=by simp;omega
       rw[e1,e2]at R;by_cases hl:ds.length=es.length
       ·rw[bh,oZ hl];rw[hl,Nat.min_self,jR,Bool.and_true,<- hl]at R;exact .of_refs hab R
       ·rw[bh,oF hl];have:(ds.length==es.length)=false:=by simpa using hl
        rw[this,tY]at R;exact .of_refs hab R
     |lst es=>
      rw[Rep]at h';obtain⟨b,ys,rfl,q',_⟩:=h';cases r';obtain⟨its',_,p',_⟩:=I.list q';exact EqAt.tuple_list p p'.isList hu0
     |_=>exact absurd rfl hef
    |_=>exact absurd rfl hdf
def sE(K:aB)(neg:Bool):R2:=λx y H Q=>∃(p:ah) (xs:List V) (d:D) (ds:List D),y=.ref p/\(cI K H p xs\/eM K H p xs)/\Rep K H d x/\aV K H ds xs/\cS ds<=16 /\
 Q (.bl (if neg then !ds.any (λe=>bh e d)else ds.any (λe=>bh e d))) H
theorem aV.main{K:aB}:∀{ds:List D} {xs:List V} {us:List ag},aV K H ds xs->Vals xs us->∀u∈us,∃b∈ds,∃y,Rep K H b y/\RelV y u
 |[],xs,us,hr,hv,u,hu=>by
  rw[aV]at hr;subst hr;cases hv;cases hu
 |b::bs,xs,us,hr,hv,u,hu=>by
  rw[aV]at hr;obtain⟨y,r,rfl,p,q⟩:=hr;cases hv with
  |cons ry t=>
   rcases bK.mp hu with rfl|hu
   ·exact⟨b,cC,_,p,ry⟩
   ·obtain⟨b',hb',w⟩:=aV.main q t u hu;exact⟨b',cA _ hb',w⟩
theorem aV.any{K:aB}{e:ag->Bool}{f:D->Bool}(key:∀b y u,Rep K H b y->RelV y u->e u=f b):∀{ds:List D} {xs:List V} {us:List ag},aV K H ds xs->Vals xs us->us.any e=ds.any f
 |[],xs,us,hr,hv=>by
  rw[aV]at hr;subst hr;cases hv;rfl
 |b::bs,xs,us,hr,hv=>by
  rw[aV]at hr;obtain⟨y,r,rfl,p,q⟩:=hr;cases hv with
  |cons ry t=>rw[i5,i5,key b y _ p ry,aV.any key q t]
theorem BC:∀{ds:List D} {b:D},b∈ds->b.dep<=cS ds
 |d::ds,b,h=>by
  rw[cS];rcases bK.mp h with rfl|h
  ·omega
  ·have:=BC h;omega
open Classical in
theorem rT(I:Inv X af σ H s){A:br}(hu:A.units+16<cLine){d:D}{x:V}{v:ag}(hx:Rep X.K H d x)(rx:RelV x v){ds:List D}{xs:List V}{us:List ag}(hd:cS ds<=16)(hr:aV X.K H ds xs)(hv:Vals xs us) :
 ∃e:ag->Bool,(∀u∈us,SeqAt.EqAt A s u v (e u))/\us.any e=ds.any (λb=>bh b d):=by
 have key:∀b y u,Rep X.K H b y->RelV y u->(λu=>decide (∃b y,Rep X.K H b y/\RelV y u/\bh b d=true)) u=bh b d:=by
  intro b y u hb hy;cases hp:bh b d with
  |true=>exact cM ⟨b,y,hb,hy,hp⟩
  |false=>
   refine bx ?_;rintro⟨b',y',hb',hy',hp'⟩;have:=hy.inj hy';subst this;rw[Rep.inj I hb hb',hp']at hp;cases hp
 refine⟨λu=>decide (∃b y,Rep X.K H b y/\RelV y u/\bh b d=true),λu hu'=>?_,aV.any key hr hv⟩;obtain⟨b,hb,y,rb,ry⟩:=aV.main hr hv u hu';rw[key b y u rb ry];exact Az I 16 b d A (d5 (BC hb) hd) hu rb hx ry rx
theorem IV(hu:X.A.units+64<cLine):cm X (compareOp .In) (sE X.K false):=by
 intro af s σ H x y v u Q I rx ry h;obtain⟨p,xs,d,ds,rfl,hq,hx,hr,hd,q⟩:=h;cases ry;have hu1:X.A.in1.units+16<cLine:=by show X.A.units+1+16<cLine;omega
 rcases hq with hq|hq
 ·obtain⟨ai,r,pl,hz⟩:=I.list hq;obtain⟨e,he,ea⟩:=rT I hu1 hx rx hd hr r;refine SeqAt.in_listAt e pl.isList (λw hw=>he w (by simpa using hw)) ⟨.bl _,H,I,rfl,?_⟩;rw[show ai.toArray.any e=ai.any e by simp,ea];exact q
 ·obtain⟨ai,r,pl,hz⟩:=I.tuple hq;obtain⟨e,he,ea⟩:=rT I hu1 hx rx hd hr r;refine SeqAt.in_tupleAt e pl (λw hw=>he w (by simpa using hw)) ⟨.bl _,H,I,rfl,?_⟩;rw[show ai.toArray.any e=ai.any e by simp,ea];exact q
theorem vn(hu:X.A.units+64<cLine):cm X (compareOp .NotIn) (sE X.K true):=by
 intro af s σ H x y v u Q I rx ry h;obtain⟨p,xs,d,ds,rfl,hq,hx,hr,hd,q⟩:=h;cases ry;have hu1:X.A.in1.units+16<cLine:=by show X.A.units+1+16<cLine;omega
 rcases hq with hq|hq
 ·obtain⟨ai,r,pl,hz⟩:=I.list hq;obtain⟨e,he,ea⟩:=rT I hu1 hx rx hd hr r;refine SeqAt.notIn_listAt e pl.isList (λw hw=>he w (by simpa using hw)) ⟨.bl _,H,I,rfl,?_⟩;rw[show ai.toArray.any e=ai.any e by simp,ea];exact q
 ·obtain⟨ai,r,pl,hz⟩:=I.tuple hq;obtain⟨e,he,ea⟩:=rT I hu1 hx rx hd hr r;refine SeqAt.notIn_tupleAt e pl (λw hw=>he w (by simpa using hw)) ⟨.bl _,H,I,rfl,?_⟩;rw[show ai.toArray.any e=ai.any e by simp,ea];exact q
end
end L2
namespace L2
open PySem PySem.Spec PyProof.Rows
theorem rE{H:Hp}{p:ah}{o:HO}(hp:H p=ae):cq H (upd H p o):=λb u e=>by rw[aQ (cQ e hp)];exact e
theorem y9:∀{ys:List Str} {us:List ag},Vals (ys.map V.str) us->StrsAre us ys
 |[],_,.nil=>.nil
 |y::ys,_,.cons r t=>by
  obtain⟨tk,rfl⟩:=(show∃tk,_=ko y tk from r);exact .cons y tk (y9 t)
section
variable{X:Cx}
def rJoin(K:aB):V->List V->Hp->VK->Prop:=λx vs H Q=>∃(sep:Str) (p:ah) (ys:List Str),x=.str sep/\vs=[.ref p]/\cI K H p (ys.map V.str)/\(ys.map (·.length)).sum+ys.length*sep.length<=16777216/\Q (.str (iC sep ys)) H
theorem AG:ka X "str.join" (rJoin X.K):=by intro af s σ H x vs v us Q I rx rv h;obtain⟨sep,p,ys,rfl,rfl,hq,hz,q⟩:=h;obtain⟨t,rfl⟩:=rx;obtain⟨u,rfl,ru⟩:=rv.one;cases ru;obtain⟨ai,r,pl,_⟩:=I.list hq;refine join_list pl.isList (by simpa using y9 r) hz λt' k=>⟨.str (iC sep ys),H,I.tok k,⟨t',?_⟩,q⟩;show ko (Builtin.Str.glued sep ys) t'=_;rw[StrLaws.glued_eq_join]
def Dw(i j:Int):Prop:=0<j/\j.natAbs.log2<9000
theorem gT:cm X (binaryOp .FloorDiv) (rI Dw λi j=>.int (i/j)):=tq λi j _ _ _ _ _ hc q=>by
 refine floordiv_int (by have:=hc.1;omega) ?_ (.inl (PyProof.noPylong_of_log2 hc.2));rw[Int.fdiv_eq_ediv_of_nonneg i (by have:=hc.1;omega)];exact q
theorem HX(hc:X.calm=true):fo X (.builtin "max") (λxs H Q=>∃i j z,xs=[.int i,.int j]/\max i j=z/\Q (.int z) H):=by intro af s σ H xs us Q I r ⟨i,j,z,e1,e2,q⟩;subst e2;refine FM hc af s σ H xs us Q I r ⟨i,j,e1,?_⟩;rw[show(if j>i then j else i)=max i j by split<;>omega];exact q
theorem Fx(hc:X.calm=true):fo X (.builtin "min") (λxs H Q=>∃i j z,xs=[.int i,.int j]/\min i j=z/\Q (.int z) H):=by intro af s σ H xs us Q I r ⟨i,j,z,e1,e2,q⟩;subst e2;refine G0 hc af s σ H xs us Q I r ⟨i,j,e1,?_⟩;rw[show(if j<i then j else i)=min i j by split<;>omega];exact q
end
end L2
namespace A
open PySem L2 PyProof.Rows
open Mi (D W Rs Fin ao)
inductive P2{α β:Type}(F:α->β->Prop):List α->List β->Prop
 |nil:P2 F [] []
 |cons {a b l m}:F a b->P2 F l m->P2 F (a::l) (b::m)
section
variable{α β:Type}{F G:α->β->Prop}
theorem P2.imp(h:∀a b,F a b->G a b):∀{l m},P2 F l m->P2 G l m
 |_,_,.nil=>.nil
 |_,_,.cons x t=>.cons (h _ _ x) (t.imp h)
theorem P2.len:∀{l m},P2 F l m->l.length=m.length
 |_,_,.nil=>rfl
 |_,_,.cons _ t=>by rw[ce,ce,t.len]
theorem P2.append:∀{l m l' m'},P2 F l m->P2 F l' m'->P2 F (l++l') (m++m')
 |_,_,_,_,.nil,s=>s
 |_,_,_,_,.cons x t,s=>.cons x (t.append s)
theorem P2.get:∀{l m} {i:Nat} {a b},P2 F l m->l[i]? = ab a->m[i]? = ab b->F a b
 |_,_,_,_,_,.nil,e,_=>by simp at e
 |_,_,0,_,_,.cons x _,e,e'=>by simp at e e';subst e e';exact x
 |_,_,i+1,a,b,.cons _ t,e,e'=>t.get (i:=i) (by simpa using e) (by simpa using e')
theorem P2.getL{l m}{i:Nat}{a}(t:P2 F l m)(e:l[i]? = ab a):∃b,m[i]? = ab b/\F a b:=by
 have h:i<m.length:=by rw[<- t.len];exact(cV.mp e).1
 exact⟨m[i],by simp[h],t.get e (by simp[h])⟩
theorem P2.uI{l m}{i:Nat}{b}(t:P2 F l m)(e:m[i]? = ab b):∃a,l[i]? = ab a/\F a b:=by
 have h:i<l.length:=by rw[t.len];exact(cV.mp e).1
 exact⟨l[i],by simp[h],t.get (by simp[h]) e⟩
theorem P2.set{a b}(x:F a b):∀{l m} (i:Nat),P2 F l m->P2 F (l.set i a) (m.set i b)
 |_,_,_,.nil=>.nil
 |_,_,0,.cons _ t=>.cons x t
 |_,_,i+1,.cons y t=>.cons y (t.set x i)
theorem P2.take:∀{l m} (n:Nat),P2 F l m->P2 F (l.take n) (m.take n)
 |_,_,0,_=>.nil
 |_,_,_+1,.nil=>.nil
 |_,_,n+1,.cons x t=>.cons x (t.take n)
theorem P2.drop:∀{l m} (n:Nat),P2 F l m->P2 F (l.drop n) (m.drop n)
 |_,_,0,t=>t
 |_,_,_+1,.nil=>.nil
 |_,_,n+1,.cons _ t=>t.drop n
theorem P2.erase:∀{l m} (n:Nat),P2 F l m->P2 F (l.eraseIdx n) (m.eraseIdx n)
 |_,_,_,.nil=>.nil
 |_,_,0,.cons _ t=>t
 |_,_,n+1,.cons x t=>.cons x (t.erase n)
theorem P2.rev:∀{l m},P2 F l m->P2 F l.reverse m.reverse
 |_,_,.nil=>.nil
 |_,_,.cons x t=>by rw[mz,mz];exact t.rev.append (.cons x .nil)
end
def Lst(H:Hp)(a:ah)(xs:List V):Prop:=H a=ab (.lst xs)\/∃o,H a=ab (.frz o (.lst xs))
mutual
def Rep(H:Hp):D->V->Prop
 |.non,v=>v=.non
 |.bl b,v=>v=.bl b
 |.int i,v=>v=.int i
 |.str x,v=>v=.str x
 |.lst ds,v=>∃a xs,v=.ref a/\Lst H a xs/\aV H ds xs
 |.tup ds,v=>∃a xs,v=.ref a/\H a=ab (.tup xs)/\aV H ds xs
def aV(H:Hp):List D->List V->Prop
 |[],vs=>vs=[]
 |d::ds,vs=>∃v r,vs=v::r/\Rep H d v/\aV H ds r
end
theorem lQ{H:Hp}:∀{ds:List D} {vs:List V},aV H ds vs↔P2 (Rep H) ds vs
 |[],vs=>by
  rw[aV];exact⟨λh=>by subst h;exact .nil,λh=>by cases h;rfl⟩
 |d::ds,vs=>by
  rw[aV];constructor
  ·rintro⟨v,r,rfl,p,q⟩;exact .cons p (lQ.mp q)
  ·intro h;cases h with
   |cons p q=>exact⟨_,_,rfl,p,lQ.mpr q⟩
@[simp] theorem Ah {H:Hp} {v:V}:Rep H .non v↔v=.non:=by rw[Rep]
@[simp] theorem rg {H:Hp} {v:V} {b:Bool}:Rep H (.bl b) v↔v=.bl b:=by rw[Rep]
@[simp] theorem nD {H:Hp} {v:V} {b:Int}:Rep H (.int b) v↔v=.int b:=by rw[Rep]
@[simp] theorem lY {H:Hp} {v:V} {b:Str}:Rep H (.str b) v↔v=.str b:=by rw[Rep]
theorem iW{H:Hp}{v:V}{ds:List D}:Rep H (.lst ds) v↔∃a xs,v=.ref a/\Lst H a xs/\P2 (Rep H) ds xs:=by rw[Rep];exact⟨λ⟨a,xs,e,l,r⟩=>⟨a,xs,e,l,lQ.mp r⟩,λ⟨a,xs,e,l,r⟩=>⟨a,xs,e,l,lQ.mpr r⟩⟩
theorem jc{H:Hp}{v:V}{ds:List D}:Rep H (.tup ds) v↔∃a xs,v=.ref a/\H a=ab (.tup xs)/\P2 (Rep H) ds xs:=by rw[Rep];exact⟨λ⟨a,xs,e,l,r⟩=>⟨a,xs,e,l,lQ.mp r⟩,λ⟨a,xs,e,l,r⟩=>⟨a,xs,e,l,lQ.mpr r⟩⟩
theorem Lst.same{H H':Hp}{a:ah}{xs:List V}(s:cq H H')(h:Lst H a xs):Lst H' a xs:=by
 rcases h with h|⟨o,h⟩
 ·exact .inl (s _ _ h)
 ·exact .inr ⟨o,s _ _ h⟩
theorem Lst.sq{K:aB}{H:Hp}{a:ah}{xs:List V}(h:Lst H a xs):cI K H a xs:=.inl h
mutual
theorem iV{H H':Hp}(s:cq H H'):∀{d:D} {v:V},Rep H d v->Rep H' d v
 |.non,v,h=>by rw[Rep]at h ⊢;exact h
 |.bl b,v,h=>by rw[Rep]at h ⊢;exact h
 |.int i,v,h=>by rw[Rep]at h ⊢;exact h
 |.str x,v,h=>by rw[Rep]at h ⊢;exact h
 |.lst ds,v,h=>by
  rw[Rep]at h ⊢;obtain⟨a,xs,e,q,r⟩:=h;exact⟨a,xs,e,q.same s,uL s r⟩
 |.tup ds,v,h=>by
  rw[Rep]at h ⊢;obtain⟨a,xs,e,q,r⟩:=h;exact⟨a,xs,e,s _ _ q,uL s r⟩
theorem uL{H H':Hp}(s:cq H H'):∀{ds:List D} {vs:List V},aV H ds vs->aV H' ds vs
 |[],vs,h=>by rw[aV]at h ⊢;exact h
 |d::ds,vs,h=>by
  rw[aV]at h ⊢;obtain⟨v,r,e,p,q⟩:=h;exact⟨v,r,e,iV s p,uL s q⟩
end
theorem dL{H H':Hp}(s:cq H H'){ds:List D}{vs:List V}(h:P2 (Rep H) ds vs):P2 (Rep H') ds vs:=h.imp λ_ _=>iV s
mutual
theorem j6(K:aB){H:Hp}:∀{d:D} {v:V},Rep H d v->L2.Rep K H d v
 |.non,v,h=>by rw[Rep]at h;rw[L2.Rep];exact h
 |.bl b,v,h=>by rw[Rep]at h;rw[L2.Rep];exact h
 |.int i,v,h=>by rw[Rep]at h;rw[L2.Rep];exact h
 |.str x,v,h=>by rw[Rep]at h;rw[L2.Rep];exact h
 |.lst ds,v,h=>by
  rw[Rep]at h;rw[L2.Rep];obtain⟨a,xs,e,q,r⟩:=h;exact⟨a,xs,e,q.sq,rc K r⟩
 |.tup ds,v,h=>by
  rw[Rep]at h;rw[L2.Rep];obtain⟨a,xs,e,q,r⟩:=h;exact⟨a,xs,e,.inl (.inl q),rc K r⟩
theorem rc(K:aB){H:Hp}:∀{ds:List D} {vs:List V},aV H ds vs->L2.aV K H ds vs
 |[],vs,h=>by rw[aV]at h;rw[L2.aV];exact h
 |d::ds,vs,h=>by
  rw[aV]at h;rw[L2.aV];obtain⟨v,r,e,p,q⟩:=h;exact⟨v,r,e,j6 K p,rc K q⟩
end
def NT:HO->Prop
 |.tbl _ _=>False
 |_=>True
def NW:HO->Prop
 |.tbl _ _=>False
 |.frz _ (.lst _)=>False
 |_=>True
theorem NW.nt:∀{o:HO},NW o->NT o:=λ{o} c=>by cases o<;>first|exact c.elim|trivial
structure Old(H H':Hp):Prop where
 nt:∀a o,H a=ab o->NT o->H' a=ab o
 dom:∀a,H' a=ae->H a=ae
 tb:∀a w ps,H a=ab (.tbl w ps)->∃ps',H' a=ab (.tbl w ps')
theorem Old.at{H H':Hp}(s:Old H H'){a:ah}{o:HO}(q:H a=ab o)(n:NT o:=by trivial):H' a=ab o:=s.nt a o q n
theorem Old.free{H H':Hp}(s:Old H H'){a:ah}(h:H' a=ae):H a=ae:=s.dom a h
theorem Old.refl(H:Hp):Old H H:=⟨λ_ _ e _=>e,λ_ e=>e,λ_ _ ps e=>⟨ps,e⟩⟩
theorem Old.trans{H H1 H2:Hp}(a:Old H H1)(b:Old H1 H2):Old H H2:=⟨λx o e n=>b.nt x o (a.nt x o e n) n,λx e=>a.dom x (b.dom x e),λx w ps e=>let ⟨p1,e1⟩:=a.tb x w ps e;b.tb x w p1 e1⟩
theorem Old.of{H H':Hp}(s:cq H H'):Old H H':=⟨λa o e _=>s a o e,λa e=>s.free e,λa w ps e=>⟨ps,s a _ e⟩⟩
theorem Old.put{H0 H:Hp}(s:Old H0 H){p:ah}{o u:HO}(h0:H0 p=ae)(h:H p=ab u):Old H0 (upd H p o):=
 ⟨λa v e n=>by rw[aQ (cQ e h0)];exact s.nt a v e n,λa e=>by
  by_cases hp:a=p
  ·subst hp;exact h0
  ·rw[aQ hp]at e;exact s.dom a e,λa w ps e=>by rw[aQ (cQ e h0)];exact s.tb a w ps e⟩
def Aq(c:ah)(q:Str):aI->Prop:=λh=>∃o vs t,h.get? c=ab o/\o.data=.fields vs/\vs[1]? = ab (.str q t)
class a8 where
 l:List (ah×Str)
 cl:String->ah
variable[Tb:a8]
structure jt(H:Hp):Prop where
 has:∀p∈Tb.l,∃ps,H p.1=ab (.tbl p.2 ps)
 cd:∀T q ps,H T=ab (.tbl q ps)->TriplesOk ps.toList/\∀pos v,codeAmong pos ps.toList=ab v->∃c,v=.ref c/\H c=ab (.ext (Aq c q))
 fz:∀a o xs,H a=ab (.frz o (.lst xs))->∀x∈xs,∃i,x=V.int i
theorem jt.new{H:Hp}(k:jt H){p:ah}{o:HO}(h:H p=ae)(n:NW o):jt (upd H p o):=⟨λr hr=>let ⟨ps,e⟩:=k.has r hr;⟨ps,by rw[aQ (cQ e h)];exact e⟩,λT q ps e=>by
 by_cases hp:T=p
 ·subst hp;rw[cg]at e;cases e;exact n.elim
 ·rw[aQ hp]at e;obtain⟨t,r⟩:=k.cd T q ps e;refine⟨t,λpos v z=>?_⟩;obtain⟨c,e1,e2⟩:=r pos v z;exact⟨c,e1,by rw[aQ (cQ e2 h)];exact e2⟩,λa q xs e=>by
 by_cases hp:a=p
 ·subst hp;rw[cg]at e;cases e;exact n.elim
 ·rw[aQ hp]at e;exact k.fz a q xs e⟩
def Cell:HO->Prop
 |.lst _=>True
 |.dK _=>True
 |.dT _=>True
 |.ext _=>True
 |_=>False
theorem Cell.nw:∀{o:HO},Cell o->NW o:=λ{o} c=>by cases o<;>first|exact c.elim|trivial
theorem Cell.nt:∀{o:HO},Cell o->NT o:=λ{o} c=>by cases o<;>first|exact c.elim|trivial
def qb:HO->Prop
 |.lst _=>True
 |.dK _=>True
 |.dT _=>True
 |_=>False
theorem qb.cell:∀{o:HO},qb o->Cell o:=λ{o} c=>by cases o<;>first|exact c.elim|trivial
theorem jt.put{H:Hp}(k:jt H){p:ah}{o u:HO}(h:H p=ab u)(c:qb u)(n:NW o):jt (upd H p o):=⟨λr hr=>let ⟨ps,e⟩:=k.has r hr;⟨ps,by rw[aQ (λy=>by rw[y,h]at e;cases e;exact c.elim)];exact e⟩,λT q ps e=>by
 by_cases hp:T=p
 ·subst hp;rw[cg]at e;cases e;exact n.elim
 ·rw[aQ hp]at e;obtain⟨t,r⟩:=k.cd T q ps e;refine⟨t,λpos v z=>?_⟩;obtain⟨x,e1,e2⟩:=r pos v z;refine⟨x,e1,?_⟩;rw[aQ (λy=>by subst y;rw[h]at e2;cases e2;exact c.elim)];exact e2,λa q xs e=>by
 by_cases hp:a=p
 ·subst hp;rw[cg]at e;cases e;exact n.elim
 ·rw[aQ hp]at e;exact k.fz a q xs e⟩
structure Vw(H Hv:Hp):Prop where
 sub:cq Hv H
 tup:∀a xs,H a=ab (.tup xs)->Hv a=ab (.tup xs)
 frz:∀a o u,H a=ab (.frz o u)->Hv a=ab (.frz o u)
 cd:jt H
 nv:∀a o,Hv a=ab o->NT o
structure aZ(H Hv H' Hv':Hp):Prop where
 old:Old H H'
 vis:cq Hv Hv'
 vw:Vw H' Hv'
 hid:∀a o,H a=ab o->Hv a=ae->Hv' a=ae
theorem aZ.refl{H Hv:Hp}(v:Vw H Hv):aZ H Hv H Hv:=⟨Old.refl _,cq.refl _,v,λ_ _ _ e=>e⟩
theorem Old.some{H H':Hp}(s:Old H H'){a:ah}{o:HO}(q:H a=ab o):∃o',H' a=ab o':=by
 cases h:H' a with
 |none=>rw[s.dom a h]at q;cases q
 |some o'=>exact⟨o',rfl⟩
theorem aZ.trans{H Hv H1 Hv1 H2 Hv2:Hp}(g:aZ H Hv H1 Hv1)(k:aZ H1 Hv1 H2 Hv2):aZ H Hv H2 Hv2:=⟨g.old.trans k.old,g.vis.trans k.vis,k.vw,λa o e n=>let ⟨o',e'⟩:=g.old.some e;k.hid a o' e' (g.hid a o e n)⟩
theorem ph{H Hv:Hp}(v:Vw H Hv){p:ah}(h:H p=ae):Hv p=ae:=v.sub.free h
theorem aZ.new{H Hv:Hp}(v:Vw H Hv){p:ah}{o:HO}(h:H p=ae)(nt:NW o:=by trivial):aZ H Hv (upd H p o) (upd Hv p o):=by
 refine⟨.of (rE h),rE (ph v h),⟨λb u e=>?_,λb xs e=>?_,λb q u e=>?_,v.cd.new h nt,λb u e=>?_⟩,λb u e n=>?_⟩
 ·by_cases hb:b=p
  ·subst hb;rw[cg]at e ⊢;exact e
  ·rw[aQ hb]at e ⊢;exact v.sub b u e
 ·by_cases hb:b=p
  ·subst hb;rw[cg]at e ⊢;exact e
  ·rw[aQ hb]at e ⊢;exact v.tup b xs e
 ·by_cases hb:b=p
  ·subst hb;rw[cg]at e ⊢;exact e
  ·rw[aQ hb]at e ⊢;exact v.frz b q u e
 ·by_cases hb:b=p
  ·subst hb;rw[cg]at e;cases e;exact nt.nt
  ·rw[aQ hb]at e;exact v.nv b u e
 ·rw[aQ (cQ e h)];exact n
theorem aZ.sU{H Hv:Hp}(v:Vw H Hv){p:ah}{o:HO}(c:Cell o)(h:H p=ae):aZ H Hv (upd H p o) Hv:=by
 refine⟨.of (rE h),cq.refl _,⟨λb u e=>?_,λb xs e=>?_,λb q u e=>?_,v.cd.new h c.nw,v.nv⟩,λb u e n=>n⟩
 ·rw[aQ (cQ (v.sub b u e) h)];exact v.sub b u e
 ·by_cases hb:b=p
  ·subst hb;rw[cg]at e;cases e;exact c.elim
  ·rw[aQ hb]at e;exact v.tup b xs e
 ·by_cases hb:b=p
  ·subst hb;rw[cg]at e;cases e;exact c.elim
  ·rw[aQ hb]at e;exact v.frz b q u e
theorem Vw.show{H Hv:Hp}(v:Vw H Hv){a:ah}{o:HO}(h:H a=ab o)(n:Hv a=ae)(nt:NT o):Vw H (upd Hv a o)/\cq Hv (upd Hv a o):=by
 refine⟨⟨λb u e=>?_,λb xs e=>?_,λb q u e=>?_,v.cd,λb u e=>?_⟩,rE n⟩
 ·by_cases hb:b=a
  ·subst hb;rw[cg]at e;rw[h];exact e
  ·rw[aQ hb]at e;exact v.sub b u e
 ·by_cases hb:b=a
  ·subst hb;rw[cg];rw[h]at e;exact e
  ·rw[aQ hb];exact v.tup b xs e
 ·by_cases hb:b=a
  ·subst hb;rw[cg];rw[h]at e;exact e
  ·rw[aQ hb];exact v.frz b q u e
 ·by_cases hb:b=a
  ·subst hb;rw[cg]at e;cases e;exact nt
  ·rw[aQ hb]at e;exact v.nv b u e
theorem Lst.old{H H':Hp}{a:ah}{xs:List V}(s:Old H H')(h:Lst H a xs):Lst H' a xs:=by
 rcases h with h|⟨o,h⟩
 ·exact .inl (s.at h)
 ·exact .inr ⟨o,s.at h⟩
def fc{κ:Type}(H:Hp)(am:List (κ×D))(kv:List (κ×V)):Prop:=P2 (λp q=>p.1=q.1/\Rep H p.2 q.2) am kv
theorem fc.same{κ:Type}{H H':Hp}(s:cq H H'){am:List (κ×D)}{kv:List (κ×V)}(h:fc H am kv):fc H' am kv:=P2.imp (λ_ _ z=>⟨z.1,iV s z.2⟩) h
def di(Hv:Hp):W->HO->Prop
 |.d (.lst ds),.lst xs=>P2 (Rep Hv) ds xs
 |.dk am,.dK kv=>fc Hv am kv
 |.dt am,.dT kv=>fc Hv am kv
 |_,_=>False
theorem di.same{H H':Hp}(s:cq H H'):∀{w:W} {o:HO},di H w o->di H' w o:=λ{w o} h=>by
 cases w with
 |d x=>
  cases x with
  | lst ds=>cases o with
   |lst xs=>exact dL s h
   |_=>exact h.elim
  |_=>cases o<;>exact h.elim
 | dk am=>cases o with
  |dK kv=>exact fc.same s h
  |_=>exact h.elim
 | dt am=>cases o with
  |dT kv=>exact fc.same s h
  |_=>exact h.elim
 |df am=>exact h.elim
 |ex c=>exact h.elim
 |fn c=>exact h.elim
 |xr c x=>exact h.elim
theorem di.CD{H:Hp}{w:W}{o:HO}(h:di H w o):qb o:=by
 cases w with
 |d x=>
  cases x with
  | lst ds=>cases o with
   |lst xs=>trivial
   |_=>exact h.elim
  |_=>cases o<;>exact h.elim
 | dk am=>cases o with
  |dK kv=>trivial
  |_=>exact h.elim
 | dt am=>cases o with
  |dT kv=>trivial
  |_=>exact h.elim
 |df am=>exact h.elim
 |ex c=>exact h.elim
 |fn c=>exact h.elim
 |xr c x=>exact h.elim
theorem di.cell{H:Hp}{w:W}{o:HO}(h:di H w o):Cell o:=h.CD.cell
theorem di.nw{H:Hp}{w:W}{o:HO}(h:di H w o):NW o:=h.cell.nw
theorem di.nt{H:Hp}{w:W}{o:HO}(h:di H w o):NT o:=h.cell.nt
def oI(a C:ah)(dc:Option ah):aI->Prop:=λh=>∃o,h.get? a=ab o/\o.cls=.ref C/\o.dict=dc/\∃vs,o.data=.fields vs
def gD(H:Hp):W->V->Prop
 |.d x,v=>Rep H x v
 |.dk am,v=>∃a kv,v=.ref a/\H a=ab (.dK kv)/\fc H am kv
 |.dt am,v=>∃a kv,v=.ref a/\H a=ab (.dT kv)/\fc H am kv
 |.df am,v=>∃a ob kv,v=.ref a/\H a=ab (.frz ob (.dT kv))/\fc H am kv
 |.ex c,v=>∃a dc,v=.ref a/\H a=ab (.ext (oI a (Tb.cl c) dc))
 |.fn κ uj,v=>v=.ref κ.a/\H κ.c=ab (.ext (Aq κ.c κ.q))/\P2 (λd a=>Rep H d (.ref a)) uj κ.ga
 |.xr c x,v=>∃a dx u,v=.ref a/\H a=ab (.ext (oI a (Tb.cl c) (ab dx)))/\H dx=ab (.xd [("ring", u)])/\Rep H x u
theorem mW{H H':Hp}(s:cq H H'):∀{w:W} {v:V},gD H w v->gD H' w v
 |.d x,v,h=>iV (d:=x) s h
 |.dk am,v,⟨a,kv,e,q,r⟩=>⟨a,kv,e,s _ _ q,r.same s⟩
 |.dt am,v,⟨a,kv,e,q,r⟩=>⟨a,kv,e,s _ _ q,r.same s⟩
 |.df am,v,⟨a,ob,kv,e,q,r⟩=>⟨a,ob,kv,e,s _ _ q,r.same s⟩
 |.ex c,v,⟨a,dc,e,q⟩=>⟨a,dc,e,s _ _ q⟩
 |.fn κ uj,v,⟨e,q,r⟩=>⟨e,s _ _ q,r.imp λ_ _ z=>iV s z⟩
 |.xr c x,v,⟨a,dx,u,e,q1,q2,r⟩=>⟨a,dx,u,e,s _ _ q1,s _ _ q2,iV s r⟩
theorem uB{H:Hp}{w:W}{a:ah}{o:HO}(h:H a=ab o)(c:di H w o):gD H w (.ref a):=by
 cases w with
 |d x=>
  cases x with
  | lst ds=>cases o with
   |lst xs=>exact iW.mpr ⟨a,xs,rfl,.inl h,c⟩
   |_=>exact c.elim
  |_=>cases o<;>exact c.elim
 | dk am=>cases o with
  |dK kv=>exact⟨a,kv,rfl,h,c⟩
  |_=>exact c.elim
 | dt am=>cases o with
  |dT kv=>exact⟨a,kv,rfl,h,c⟩
  |_=>exact c.elim
 |df am=>exact c.elim
 |ex z=>exact c.elim
 |fn z=>exact c.elim
 |xr z x=>exact c.elim
def Own(H Hv:Hp)(w:W)(v:V):Prop:=∃a o,v=.ref a/\H a=ab o/\Hv a=ae/\di Hv w o
def RB(H Hv:Hp)(w:W)(v:V):Prop:=gD Hv w v\/∃a o,v=.ref a/\H a=ab o/\di Hv w o
theorem RB.grow{H Hv H' Hv':Hp}(g:aZ H Hv H' Hv'){w:W}{v:V}(h:RB H Hv w v):RB H' Hv' w v:=by
 rcases h with h|⟨a,o,e,q,c⟩
 ·exact .inl (mW g.vis h)
 ·exact .inr ⟨a,o,e,g.old.at q c.nt,c.same g.vis⟩
theorem Own.grow{H Hv H' Hv':Hp}(g:aZ H Hv H' Hv'){w:W}{v:V}(h:Own H Hv w v):Own H' Hv' w v:=by obtain⟨a,o,e,q,n,c⟩:=h;exact⟨a,o,e,g.old.at q c.nt,g.hid _ _ q n,c.same g.vis⟩
theorem RB.full{H Hv:Hp}(v:Vw H Hv){w:W}{x:V}(h:RB H Hv w x):gD H w x:=by
 rcases h with h|⟨a,o,rfl,q,c⟩
 ·exact mW v.sub h
 ·exact uB q (c.same v.sub)
abbrev RD(H Hv:Hp)(d:D)(v:V):Prop:=RB H Hv (.d d) v
theorem RD.qe{H Hv:Hp}{d:D}{v:V}(h:RD H Hv d v)(n:∀ds,d≠.lst ds):Rep Hv d v:=by
 rcases h with h|⟨a,o,e,q,c⟩
 ·exact h
 ·cases d with
  |lst ds=>exact absurd rfl (n ds)
  |_=>cases o<;>exact c.elim
theorem RD.lst{H Hv:Hp}(w:Vw H Hv){ds:List D}{v:V}(h:RD H Hv (.lst ds) v):∃a xs,v=.ref a/\Lst H a xs/\P2 (Rep Hv) ds xs:=by
 rcases h with h|⟨a,o,e,q,c⟩
 ·obtain⟨a,xs,e,l,r⟩:=iW.mp h;exact⟨a,xs,e,l.same w.sub,r⟩
 ·cases o with
  |lst xs=>exact⟨a,xs,e,.inl q,c⟩
  |_=>exact c.elim
theorem RD.tup{H Hv:Hp}(w:Vw H Hv){ds:List D}{v:V}(h:RD H Hv (.tup ds) v):∃a xs,v=.ref a/\H a=ab (.tup xs)/\Hv a=ab (.tup xs)/\P2 (Rep Hv) ds xs:=by obtain⟨a,xs,e,l,r⟩:=jc.mp (h.qe λ_ z=>by cases z);exact⟨a,xs,e,w.sub _ _ l,l,r⟩
theorem RD.int{H Hv:Hp}{i:Int}{v:V}(h:RD H Hv (.int i) v):v=.int i:=nD.mp (h.qe λ_ z=>by cases z)
theorem RD.str{H Hv:Hp}{i:Str}{v:V}(h:RD H Hv (.str i) v):v=.str i:=lY.mp (h.qe λ_ z=>by cases z)
theorem RD.bl{H Hv:Hp}{i:Bool}{v:V}(h:RD H Hv (.bl i) v):v=.bl i:=rg.mp (h.qe λ_ z=>by cases z)
theorem RD.non{H Hv:Hp}{v:V}(h:RD H Hv .non v):v=.non:=Ah.mp (h.qe λ_ z=>by cases z)
theorem RD.full{H Hv:Hp}(v:Vw H Hv){d:D}{x:V}(h:RD H Hv d x):Rep H d x:=RB.full v h
abbrev Kd:=Hp->Hp->Hp->W->V->Prop
def qP:Kd:=λ_ H' Hv' w v=>RB H' Hv' w v
def qV:Kd:=λ_ _ Hv' w v=>gD Hv' w v
def qN:Kd:=λH H' Hv' w v=>∃a o,v=.ref a/\H a=ae/\H' a=ab o/\Hv' a=ae/\di Hv' w o
theorem f6{H H' Hv':Hp}{i:Int}:qV H H' Hv' (.d (.int i)) (.int i):=(nD (H:=Hv')).mpr rfl
theorem qg{H H' Hv':Hp}{i:Str}:qV H H' Hv' (.d (.str i)) (.str i):=(lY (H:=Hv')).mpr rfl
theorem fq{H H' Hv':Hp}{i:Bool}:qV H H' Hv' (.d (.bl i)) (.bl i):=(rg (H:=Hv')).mpr rfl
theorem Jz{H H' Hv':Hp}:qV H H' Hv' (.d .non) .non:=(Ah (H:=Hv')).mpr rfl
class KM (κ:Kd):Prop where
 mono:∀{H H1 H' Hv' w v},Old H H1->κ H1 H' Hv' w v->κ H H' Hv' w v
instance:KM qP:=⟨λ_ h=>h⟩
instance:KM qV:=⟨λ_ h=>h⟩
instance:KM qN:=⟨λs ⟨a,o,e,n,r⟩=>⟨a,o,e,s.free n,r⟩⟩
structure R0(M:Nat->Bool)(e:Mi.Env)(σ:L2.St)(H Hv:Hp):Prop where
 vw:Vw H Hv
 len:σ.length=e.length
 nob:∀i w,e[i]? = ab (ab w)->M i=false->∃v,σ[i]? = ab (ab v)/\gD Hv w v
 own:∀i w,e[i]? = ab (ab w)->M i=true->∃v,σ[i]? = ab (ab v)/\Own H Hv w v
theorem R0.grow{M:Nat->Bool}{e:Mi.Env}{σ:L2.St}{H Hv H' Hv':Hp}(r:R0 M e σ H Hv)(g:aZ H Hv H' Hv'):R0 M e σ H' Hv':=⟨g.vw,r.len,λi w h m=>let ⟨v,q,z⟩:=r.nob i w h m;⟨v,q,mW g.vis z⟩,λi w h m=>let ⟨v,q,z⟩:=r.own i w h m;⟨v,q,z.grow g⟩⟩
structure R1(M:Nat->Bool)(H0 Hv0:Hp)(e:Mi.Env)(σ:L2.St)(H Hv:Hp):Prop extends R0 M e σ H Hv where
 gw:aZ H0 Hv0 H Hv
 fresh:∀i w a,e[i]? = ab (ab w)->M i=true->σ[i]? = ab (ab (.ref a))->H0 a=ae
 sep:∀i j w w' a b,i≠j->e[i]? = ab (ab w)->e[j]? = ab (ab w')->M i=true->M j=true->σ[i]? = ab (ab (.ref a))->σ[j]? = ab (ab (.ref b))->a≠b
theorem R1.grow{M:Nat->Bool}{H0 Hv0:Hp}{e:Mi.Env}{σ:L2.St}{H Hv H' Hv':Hp}(r:R1 M H0 Hv0 e σ H Hv)(g:aZ H Hv H' Hv'):R1 M H0 Hv0 e σ H' Hv':=⟨r.toR0.grow g,r.gw.trans g,r.fresh,r.sep⟩
variable[Tb:a8]
abbrev nS:=Mi.Env
class KG (κ:Kd):Prop where
 go:∀{H H1 Hv1 H2 Hv2 w v},aZ H1 Hv1 H2 Hv2->κ H H1 Hv1 w v->κ H H2 Hv2 w v
instance:KG qP:=⟨λg h=>h.grow g⟩
instance:KG qV:=⟨λg h=>mW g.vis h⟩
instance:KG qN:=⟨λg ⟨a,o,e,n,q,z,c⟩=>⟨a,o,e,n,g.old.at q c.nt,g.hid _ _ q z,c.same g.vis⟩⟩
def AW(M:Nat->Bool)(κ:Kd)(t:TE)(m:Mi.EW):Prop:=∀e σ H Hv Q,R0 M e σ H Hv->Fin (m e) (λw=>∀v H' Hv',aZ H Hv H' Hv'->κ H H' Hv' w v->Q v H')->t σ H Q
def AE(M:Nat->Bool)(κ:Kd)(t:TE)(m:Mi.E):Prop:=∀e σ H Hv Q,R0 M e σ H Hv->Fin (m e) (λd=>∀v H' Hv',aZ H Hv H' Hv'->κ H H' Hv' (.d d) v->Q v H')->t σ H Q
def AT(M:Nat->Bool)(t:TT)(m:Mi.C):Prop:=∀e σ H Hv Q,R0 M e σ H Hv->Fin (m e) (λb=>∀H' Hv',aZ H Hv H' Hv'->Q b H')->t σ H Q
def AA(M:Nat->Bool)(κ:Kd)(t:TA)(m:nS->Rs (List D)):Prop:=∀e σ H Hv Q,R0 M e σ H Hv->Fin (m e) (λds=>∀vs H' Hv',aZ H Hv H' Hv'->P2 (λd v=>κ H H' Hv' (.d d) v) ds vs->Q vs H')->t σ H Q
def AAW(M:Nat->Bool)(κ:Kd)(t:TA)(m:nS->Rs (List W)):Prop:=∀e σ H Hv Q,R0 M e σ H Hv->Fin (m e) (λws=>∀vs H' Hv',aZ H Hv H' Hv'->P2 (λw v=>κ H H' Hv' w v) ws vs->Q vs H')->t σ H Q
def AO(M:Nat->Bool)(t:TO)(m:nS->Rs (Option Int)):Prop:=∀e σ H Hv Q,R0 M e σ H Hv->Fin (m e) (λo=>∀H' Hv',aZ H Hv H' Hv'->Q o H')->t σ H Q
section
variable{M:Nat->Bool}{κ:Kd}{t ta tb tc te:TE}{a b c:Mi.E}{r r':R2}{f g:D->D->Rs D}
theorem AE.w(h:AE M κ t a):AW M κ t (Mi.wD a):=λe σ H Hv Q I q=>h e σ H Hv Q I ((ao.mp q).mono λd z=>z)
theorem G2{H H' Hv':Hp}{w:W}{v:V}(h:qV H H' Hv' w v):qP H H' Hv' w v:=.inl h
theorem F3{H H' Hv':Hp}{w:W}{v:V}(h:qN H H' Hv' w v):qP H H' Hv' w v:=by obtain⟨a,o,e,_,q,_,c⟩:=h;exact .inr ⟨a,o,e,q,c⟩
theorem uZ{H Hv H' Hv':Hp}(g:aZ H Hv H' Hv'){w:W}{v:V}(h:qN H H' Hv' w v):∃oC,aZ H Hv H' oC/\gD oC w v:=by obtain⟨a,o,rfl,n,q,z,c⟩:=h;obtain⟨vw,s⟩:=g.vw.show q z c.nt;refine⟨upd Hv' a o,⟨g.old,g.vis.trans s,vw,λb u e m=>?_⟩,uB cg (c.same s)⟩;rw[aQ (cQ e n)];exact g.hid b u e m
theorem AW.nv(h:AW M qN t m):AW M qV t m:=λe σ H Hv Q I q=>h e σ H Hv Q I (q.mono λw z v H' Hv' g k=>let ⟨oC,g',r⟩:=uZ g k;z v H' oC g' r)
theorem AE.p(h:AE M qV t a):AE M qP t a:=λe σ H Hv Q I q=>h e σ H Hv Q I (q.mono λw z v H' Hv' g k=>z v H' Hv' g (G2 k))
theorem AE.np(h:AE M qN t a):AE M qP t a:=λe σ H Hv Q I q=>h e σ H Hv Q I (q.mono λw z v H' Hv' g k=>z v H' Hv' g (F3 k))
theorem AE.nv(h:AE M qN t a):AE M qV t a:=λe σ H Hv Q I q=>h e σ H Hv Q I (q.mono λw z v H' Hv' g k=>let ⟨oC,g',r⟩:=uZ g k;z v H' oC g' r)
theorem aD{i:Int}:AE M qV (tC (.int i)) (Mi.mC (.int i)):=λe σ H Hv Q I h=>h _ H Hv (.refl I.vw) f6
theorem vV{i:Str}:AE M qV (tC (.str i)) (Mi.mC (.str i)):=λe σ H Hv Q I h=>h _ H Hv (.refl I.vw) qg
theorem jo{i:Bool}:AE M qV (tC (.bl i)) (Mi.mC (.bl i)):=λe σ H Hv Q I h=>h _ H Hv (.refl I.vw) fq
theorem CI{e:nS}{i:Nat}{k:D->Prop}(h:Fin (Mi.mV i e) k):∃d,e[i]? = ab (ab (.d d))/\k d:=by
 unfold Mi.mV at h;split at h
 ·exact⟨_,‹_›,h⟩
 ·exact h.elim
theorem pP{e:nS}{i:Nat}{k:W->Prop}(h:Fin (Mi.wV i e) k):∃w,e[i]? = ab (ab w)/\k w:=by
 unfold Mi.wV at h;split at h
 ·exact⟨_,‹_›,h⟩
 ·exact h.elim
theorem zd(i:Nat)(hm:M i=false):AE M qV (cZ i) (Mi.mV i):=λe σ H Hv Q I h=>by
 obtain⟨d,he,k⟩:=CI h;obtain⟨v,q,z⟩:=I.nob i _ he hm;exact⟨v,q,k v H Hv (.refl I.vw) z⟩
theorem JH{H Hv:Hp}{w:W}{v:V}(h:Own H Hv w v):RB H Hv w v:=by obtain⟨a,o,e,q,_,c⟩:=h;exact .inr ⟨a,o,e,q,c⟩
theorem R0.any{e:nS}{σ:L2.St}{H Hv:Hp}(I:R0 M e σ H Hv){i:Nat}{w:W}(he:e[i]? = ab (ab w)):∃v,σ[i]? = ab (ab v)/\RB H Hv w v:=by
 cases hm:M i with
 |false=>
  obtain⟨v,q,z⟩:=I.nob i w he hm;exact⟨v,q,.inl z⟩
 |true=>
  obtain⟨v,q,z⟩:=I.own i w he hm;exact⟨v,q,JH z⟩
theorem aq(i:Nat):AE M qP (cZ i) (Mi.mV i):=λe σ H Hv Q I h=>by
 obtain⟨d,he,k⟩:=CI h;obtain⟨v,q,z⟩:=I.any he;exact⟨v,q,k v H Hv (.refl I.vw) z⟩
theorem Gh(i:Nat)(hm:M i=false):AW M qV (cZ i) (Mi.wV i):=λe σ H Hv Q I h=>by
 obtain⟨d,he,k⟩:=pP h;obtain⟨v,q,z⟩:=I.nob i _ he hm;exact⟨v,q,k v H Hv (.refl I.vw) z⟩
def B2(κ:Kd)(r:R2)(f:D->D->Rs D):Prop:=∀x y v u H Hv Q,Vw H Hv->RD H Hv x v->RD H Hv y u->Fin (f x y) (λd=>∀w H' Hv',aZ H Hv H' Hv'->κ H H' Hv' (.d d) w->Q w H')->r v u H Q
def B1(κ:Kd)(r:V->Hp->VK->Prop)(f:D->Rs D):Prop:=∀x v H Hv Q,Vw H Hv->RD H Hv x v->Fin (f x) (λd=>∀w H' Hv',aZ H Hv H' Hv'->κ H H' Hv' (.d d) w->Q w H')->r v H Q
def BN(κ:Kd)(r:List V->Hp->VK->Prop)(f:List D->Rs D):Prop:=∀ds vs H Hv Q,Vw H Hv->P2 (RD H Hv) ds vs->Fin (f ds) (λd=>∀w H' Hv',aZ H Hv H' Hv'->κ H H' Hv' (.d d) w->Q w H')->r vs H Q
theorem au[KM κ](hr:B2 κ r f)(ha:AE M qP ta a)(hb:AE M qP tb b):AE M κ (nh r ta tb) (Mi.m2 f a b):=λe σ H Hv Q I h=>
 ha e σ H Hv _ I ((ao.mp h).mono λx hx v H1 Hv1 g1 rx=>hb e σ H1 Hv1 _ (I.grow g1) ((ao.mp hx).mono λy hy u H2 Hv2 g2 ry=>
  hr x y v u H2 Hv2 Q g2.vw (RB.grow g2 rx) ry (hy.mono λd hd w H3 Hv3 g3 rw=>hd w H3 Hv3 (g1.trans (g2.trans g3)) (KM.mono (g1.old.trans g2.old) rw))))
theorem sX[KM κ]{r:V->Hp->VK->Prop}{f:D->Rs D}(hr:B1 κ r f)(ha:AE M qP ta a):AE M κ (B8 r ta) (Mi.m1 f a):=λe σ H Hv Q I h=>
 ha e σ H Hv _ I ((ao.mp h).mono λx hx v H1 Hv1 g1 rx=>hr x v H1 Hv1 Q g1.vw rx (hx.mono λd hd w H3 Hv3 g3 rw=>hd w H3 Hv3 (g1.trans g3) (KM.mono g1.old rw)))
theorem ux{x:D}{k:Bool->Prop}(h:Fin (Mi.nK x) k):∃b,x=.bl b/\k b:=by
 cases x with
 |bl b=>exact⟨b,rfl,h⟩
 |_=>exact h.elim
theorem pA{x:D}{k:Int->Prop}(h:Fin (Mi.lx x) k):∃b,x=.int b/\k b:=by
 cases x with
 |int b=>exact⟨b,rfl,h⟩
 |_=>exact h.elim
theorem IJ(ha:AE M qP ta a)(hb:AE M qV tb b):AE M qV (y6 ta tb) (Mi.wF a b):=λe σ H Hv Q I h=>
 ha e σ H Hv _ I ((ao.mp h).mono λx hx v H1 Hv1 g1 rx=>by
  obtain⟨k,rfl,hk⟩:=ux (ao.mp hx);cases RD.bl rx;refine⟨k,rfl,?_⟩;cases k with
  |true=>exact lZ (hb e σ H1 Hv1 Q (I.grow g1) (Fin.mono (Mi.nP hk) λd hd w H2 Hv2 g2 rw=>hd w H2 Hv2 (g1.trans g2) rw))
  |false=>exact lM ((Mi.j1 (Mi.mZ hk)) _ H1 Hv1 g1 fq))
theorem BB(ha:AE M qP ta a)(hb:AE M qV tb b):AE M qV (Cu ta tb) (Mi.kE a b):=λe σ H Hv Q I h=>
 ha e σ H Hv _ I ((ao.mp h).mono λx hx v H1 Hv1 g1 rx=>by
  obtain⟨k,rfl,hk⟩:=ux (ao.mp hx);cases RD.bl rx;refine⟨k,rfl,?_⟩;cases k with
  |false=>exact lM (hb e σ H1 Hv1 Q (I.grow g1) (Fin.mono (Mi.mZ hk) λd hd w H2 Hv2 g2 rw=>hd w H2 Hv2 (g1.trans g2) rw))
  |true=>exact lZ ((Mi.j1 (Mi.nP hk)) _ H1 Hv1 g1 fq))
theorem pH:AO M Cz (Mi.jX ae):=λe σ H Hv Q I h=>h H Hv (.refl I.vw)
theorem ml(ha:AE M qP ta a):AO M (zK ta) (Mi.jX (ab a)):=λe σ H Hv Q I h=>
 ha e σ H Hv _ I ((ao.mp h).mono λx hx v H1 Hv1 g1 rx=>by
  obtain⟨i,rfl,hk⟩:=pA (ao.mp hx);exact⟨i,RD.int rx,hk H1 Hv1 g1⟩)
def BS(κ:Kd)(r:V->Option Int->Option Int->Hp->VK->Prop)(f:D->Option Int->Option Int->Rs D):Prop:=∀x lo hi v H Hv Q,Vw H Hv->RD H Hv x v->Fin (f x lo hi) (λd=>∀w H' Hv',aZ H Hv H' Hv'->κ H H' Hv' (.d d) w->Q w H')->r v lo hi H Q
theorem ng[KM κ]{r:V->Option Int->Option Int->Hp->VK->Prop}{tl th:TO}{lo hi:Option Mi.E}{f:D->Option Int->Option Int->Rs D}(hr:BS κ r f)(ha:AE M qP ta a)(hl:AO M tl (Mi.jX lo))(hh:AO M th (Mi.jX hi)):AE M κ (Cp r ta tl th) (Mi.fL f a lo hi):=λe σ H Hv Q I h=>
 ha e σ H Hv _ I ((ao.mp h).mono λx hx v H1 Hv1 g1 rx=>hl e σ H1 Hv1 _ (I.grow g1) ((ao.mp hx).mono λl hl H2 Hv2 g2=>hh e σ H2 Hv2 _ (I.grow (g1.trans g2)) ((ao.mp hl).mono λu hu H3 Hv3 g3=>
  hr x l u v H3 Hv3 Q g3.vw (RB.grow (g2.trans g3) rx) (hu.mono λd hd w H4 Hv4 g4 rw=>hd w H4 Hv4 (g1.trans (g2.trans (g3.trans g4))) (KM.mono (g1.old.trans (g2.old.trans g3.old)) rw)))))
theorem hJ(ha:AE M qP ta a):AT M (tB ta) (Mi.cB a):=λe σ H Hv Q I h=>
 ha e σ H Hv _ I ((ao.mp h).mono λx hx v H1 Hv1 g1 rx=>by
  obtain⟨k,rfl,hk⟩:=ux hx;exact⟨k,RD.bl rx,hk H1 Hv1 g1⟩)
theorem eO(ha:AE M qP ta a):AT M (Cb ta) (Mi.cB a):=hJ ha
variable{tt uu:TT}{k l:Mi.C}
theorem sJ(ha:AT M tt k)(hb:AT M uu l):AT M (CM tt uu) (Mi.fb k l):=λe σ H Hv Q I h=>
 ha e σ H Hv _ I ((ao.mp h).mono λx hx H1 Hv1 g1=>by
  cases x with
  |true=>exact lZ (hb e σ H1 Hv1 Q (I.grow g1) (Fin.mono (Mi.nP hx) λb hd H2 Hv2 g2=>hd H2 Hv2 (g1.trans g2)))
  |false=>exact lM ((Mi.j1 (Mi.mZ hx)) H1 Hv1 g1))
theorem u3(ha:AT M tt k)(hb:AT M uu l):AT M (CU tt uu) (Mi.jd k l):=λe σ H Hv Q I h=>
 ha e σ H Hv _ I ((ao.mp h).mono λx hx H1 Hv1 g1=>by
  cases x with
  |false=>exact lM (hb e σ H1 Hv1 Q (I.grow g1) (Fin.mono (Mi.mZ hx) λb hd H2 Hv2 g2=>hd H2 Hv2 (g1.trans g2)))
  |true=>exact lZ ((Mi.j1 (Mi.nP hx)) H1 Hv1 g1))
theorem pL(ha:AT M tt k):AT M (C5 tt) (Mi.eF k):=λe σ H Hv Q I h=>
 ha e σ H Hv _ I ((ao.mp h).mono λx hx H1 Hv1 g1=>hx H1 Hv1 g1)
theorem jv:AT M Cj Mi.dD:=λe σ H Hv Q I h=>h H Hv (.refl I.vw)
variable{tr:TA}{as:List Mi.E}{ws:List Mi.EW}
theorem bF:AA M κ gn (Mi.fQ []):=λe σ H Hv Q I h=>h [] H Hv (.refl I.vw) .nil
theorem bi[KM κ][KG κ](ha:AE M κ ta a)(hr:AA M κ tr (Mi.fQ as)):AA M κ (fw ta tr) (Mi.fQ (a::as)):=λe σ H Hv Q I h=>
 ha e σ H Hv _ I ((ao.mp h).mono λx hx v H1 Hv1 g1 rx=>hr e σ H1 Hv1 _ (I.grow g1) ((ao.mp hx).mono λxs hs vs H2 Hv2 g2 rs=>
  hs (v::vs) H2 Hv2 (g1.trans g2) (.cons (KG.go g2 rx) (rs.imp λ_ _ z=>KM.mono g1.old z))))
theorem cv:AAW M κ gn (Mi.eW []):=λe σ H Hv Q I h=>h [] H Hv (.refl I.vw) .nil
theorem aM[KM κ][KG κ]{w:Mi.EW}(ha:AW M κ ta w)(hr:AAW M κ tr (Mi.eW ws)):AAW M κ (fw ta tr) (Mi.eW (w::ws)):=λe σ H Hv Q I h=>
 ha e σ H Hv _ I ((ao.mp h).mono λx hx v H1 Hv1 g1 rx=>hr e σ H1 Hv1 _ (I.grow g1) ((ao.mp hx).mono λxs hs vs H2 Hv2 g2 rs=>
  hs (v::vs) H2 Hv2 (g1.trans g2) (.cons (KG.go g2 rx) (rs.imp λ_ _ z=>KM.mono g1.old z))))
theorem fP[KM κ]{r:List V->Hp->VK->Prop}{f:List D->Rs D}(hr:BN κ r f)(ha:AA M qP tr (Mi.fQ as)):AE M κ (oH r tr) (Mi.mN f as):=λe σ H Hv Q I h=>
 ha e σ H Hv _ I ((ao.mp h).mono λds hx vs H1 Hv1 g1 rx=>hr ds vs H1 Hv1 Q g1.vw rx (hx.mono λd hd w H3 Hv3 g3 rw=>hd w H3 Hv3 (g1.trans g3) (KM.mono g1.old rw)))
theorem nT(ha:AA M qV tr (Mi.fQ as)):AE M qV (u0 tr) (Mi.mN Mi.dTup as):=λe σ H Hv Q I h=>
 ha e σ H Hv _ I ((ao.mp h).mono λds hx vs H1 Hv1 g1 rx=>by
  obtain⟨hz,hq⟩:=Mi.cy hx;refine⟨by rw[<- rx.len,dh];exact hz,λp hp=>?_⟩;have g2:aZ H1 Hv1 (upd H1 p (.tup vs)) (upd Hv1 p (.tup vs)):=.new g1.vw hp;exact hq _ _ _ (g1.trans g2) (jc.mpr ⟨p,vs,rfl,cg,dL g2.vis rx⟩))
theorem eS(ha:AA M qV tr (Mi.fQ as)):AE M qN (Ck tr) (Mi.mN Mi.cH as):=λe σ H Hv Q I h=>
 ha e σ H Hv _ I ((ao.mp h).mono λds hx vs H1 Hv1 g1 rx=>by
  obtain⟨hz,hq⟩:=Mi.cy hx;refine⟨by rw[<- rx.len,dh];exact hz,λp hp=>?_⟩;have g2:aZ H1 Hv1 (upd H1 p (.lst vs)) Hv1:=.sU g1.vw trivial hp;exact hq _ _ _ (g1.trans g2) ⟨p,.lst vs,rfl,g1.old.free hp,cg,ph g1.vw hp,rx⟩)
def ck(f:Mi.Fn):Sp:=λvs H Q _=>∃Hv ws,Vw H Hv/\P2 (gD Hv) ws vs/\Fin (f ws) (λw=>∀v H' Hv',aZ H Hv H' Hv'->qV H H' Hv' w v->Q v H')
def de(f:Mi.Fn):Sp:=λvs H Q _=>∃Hv ws,Vw H Hv/\P2 (gD Hv) ws vs/\Fin (f ws) (λw=>∀v H' Hv',aZ H Hv H' Hv'->qN H H' Hv' w v->Q v H')
variable{fn:Mi.Fn}{E:XK}
theorem Fs(ha:AAW M qV tr (Mi.eW ws)):AW M qV (mj (ck fn) [] E tr) (Mi.kM fn ws):=λe σ H Hv Q I h=>
 ha e σ H Hv _ I ((ao.mp h).mono λds hx vs H1 Hv1 g1 rx=>by
  rw[jC];exact⟨Hv1,ds,g1.vw,rx,hx.mono λd hd w H3 Hv3 g3 rw=>hd w H3 Hv3 (g1.trans g3) rw⟩)
theorem Df(ha:AAW M qV tr (Mi.eW ws)):AW M qN (mj (de fn) [] E tr) (Mi.kM fn ws):=λe σ H Hv Q I h=>
 ha e σ H Hv _ I ((ao.mp h).mono λds hx vs H1 Hv1 g1 rx=>by
  rw[jC];exact⟨Hv1,ds,g1.vw,rx,hx.mono λd hd w H3 Hv3 g3 rw=>hd w H3 Hv3 (g1.trans g3) (KM.mono (κ:=qN) g1.old rw)⟩)
theorem Ih{w:W}{k:D->Prop}(h:Fin (Mi.sY w) k):∃d,w=.d d/\k d:=by
 cases w with
 |d x=>exact⟨x,rfl,h⟩
 |_=>exact h.elim
theorem AW.d{w:Mi.EW}(h:AW M κ t w):AE M κ t (λe=>(w e).bind Mi.sY):=λe σ H Hv Q I q=>
 h e σ H Hv Q I ((ao.mp q).mono λw z v H' Hv' g k=>by
  obtain⟨d,rfl,z⟩:=Ih z;exact z v H' Hv' g k)
theorem eA(ha:AAW M qV tr (Mi.eW ws)):AE M qV (mj (ck fn) [] E tr) (Mi.aX fn ws):=(Fs ha).d
theorem io(ha:AAW M qV tr (Mi.eW ws)):AE M qN (mj (de fn) [] E tr) (Mi.aX fn ws):=(Df ha).d
def lU(H:Hp):Hp:=λa=>match H a with
 |some (.tbl _ _)=>ae
 |x=>x
theorem sL{H:Hp}{a:ah}{o:HO}(h:H a=ab o)(n:NT o):lU H a=ab o:=by unfold lU;rw[h];cases o<;>first|rfl|exact n.elim
theorem BG{H:Hp}{a:ah}{o:HO}(h:lU H a=ab o):H a=ab o/\NT o:=by
 unfold lU at h;cases q:H a with
 |none=>rw[q]at h;cases h
 |some u=>
  rw[q]at h;cases u with
  |tbl w ps=>cases h
  |_=>cases h;exact⟨rfl,trivial⟩
theorem Vw.all{H:Hp}(k:jt H):Vw H (lU H):=⟨λa o e=>(BG e).1,λa xs e=>sL e trivial,λa o u e=>sL e trivial,k,λa o e=>(BG e).2⟩
end
end A
namespace A
open PySem L2 PyProof.Rows
open Mi (D W Rs Fin ao Out Tg)
variable[Tb:a8]
structure nM(J:It)(P:Hp->Hp->Prop)(ds:List D):Prop where
 go:∀i H Hv,P H Hv->Vw H Hv->i<ds.length->J.go i H
 yld:∀i H Hv x H',P H Hv->Vw H Hv->i<ds.length->J.yld i H x H'->∃Hv' d,aZ H Hv H' Hv'/\ds[i]? = ab d/\Rep Hv' d x
 stop:∀H Hv,P H Hv->Vw H Hv->J.stop ds.length H
def wK(M:Nat->Bool)(wi:TI)(it:Mi.I):Prop:=∀e σ H Hv (R:It->Hp->Prop),R0 M e σ H Hv->Fin (it e) (λds=>∀(J:It) H' Hv' (P:Hp->Hp->Prop),aZ H Hv H' Hv'->nM J P ds->P H' Hv'->(∀H1 Hv1 H2 Hv2,P H1 Hv1->aZ H1 Hv1 H2 Hv2->P H2 Hv2)->R J H')->wi σ H R
def gN(M:Nat->Bool)(wi:TI)(it:Mi.I):Prop:=∀e σ H Hv (R:It->Hp->Prop),R0 M e σ H Hv->Fin (it e) (λds=>∀(J:It) H' Hv' (P:Hp->Hp->Prop),aZ H Hv H' Hv'->nM J P ds->P H' Hv'->(∀H1 Hv1 H2 Hv2,P H1 Hv1->cq Hv1 Hv2->Vw H2 Hv2->P H2 Hv2)->R J H')->wi σ H R
theorem gE{α:Type}{r:Rs α}{k:α->Prop}(h:Fin r k):∃x,r=.ok x/\k x:=by
 cases r with
 |ok x=>exact⟨x,rfl,h⟩
 |_=>exact h.elim
section
variable{M:Nat->Bool}{ta tb:TE}{a b:Mi.E}{wi:TI}{it:Mi.I}{tr:TA}{as:List Mi.E}
theorem gN.c(h:gN M wi it):wK M wi it:=λe σ H Hv R I q=>h e σ H Hv R I (q.mono λds z J H' Hv' P g o p k=>z J H' Hv' P g o p λH1 Hv1 H2 Hv2 p g'=>k H1 Hv1 H2 Hv2 p g'.vis g'.vw)
theorem lG{J:It}{Ok:Hp->Prop}{xs:List V}(O:J.Of Ok xs){ds:List D}{P:Hp->Hp->Prop}(ok:∀H Hv,P H Hv->Vw H Hv->Ok H)(r:∀H Hv,P H Hv->P2 (Rep Hv) ds xs)(ex:∃H Hv,P H Hv):nM J P ds:=by
 have hl:ds.length=xs.length:=by obtain⟨H,Hv,p⟩:=ex;exact(r H Hv p).len
 refine⟨λi H Hv p v hi=>O.go i H (ok H Hv p v) (by omega),λi H Hv x H' p v hi y=>?_,λH Hv p v=>by rw[hl];exact O.stop H (ok H Hv p v)⟩;obtain⟨rfl,hx⟩:=O.yld i H x H' (ok H Hv p v) (by omega) y;obtain⟨d,hd,rx⟩:=(r H' Hv p).uI hx;exact⟨Hv,d,.refl v,hd,rx⟩
def nQ(K:aB)(tl:TE):TI:=λσ H R=>AC K tl σ H R\/Be K tl σ H R\/yS tl σ H R
theorem gV{X:Cx}{tg l:aO}{tl:TE}(hl:PE X l tl):PI X tg l (nQ X.K tl):=λaf s σ H R I h=>by
 rcases h with h|h|h
 ·exact GU hl af s σ H R I h
 ·exact Jg hl af s σ H R I h
 ·exact HP hl af s σ H R I h
theorem Bz(H:Hp)(z:Str):P2 (Rep H) (z.cps.toList.map λc=>D.str ⟨#[c]⟩) (l5 z):=by
 unfold l5
 induction z.cps.toList with
 |nil=>exact .nil
 |cons c r ih=>exact .cons (lY.mpr rfl) ih
theorem oU{K:aB}(ha:AE M qP ta a):wK M (nQ K ta) (Mi.c9 a):=λe σ H Hv R I h=>by
 obtain⟨d,hd,h⟩:=gE (ao.mp h);have run:∀Q:VK,(∀v H' Hv',aZ H Hv H' Hv'->RD H' Hv' d v->Q v H')->ta σ H Q:=λQ q=>ha e σ H Hv Q I (by rw[hd];exact q);cases d with
 |lst ds=>
  refine .inl (run _ λv H' Hv' g r=>?_);obtain⟨p,xs,rfl,l,r⟩:=RD.lst g.vw r;exact⟨p,rfl,⟨xs,l.sq⟩,h (oG K p) H' Hv' (λH Hv=>Lst H p xs/\P2 (Rep Hv) ds xs) g (lG Cs (λH Hv p v=>p.1.sq) (λH Hv p=>p.2) ⟨H',Hv',l,r⟩) ⟨l,r⟩ λH1 Hv1 H2 Hv2 z g'=>⟨z.1.old g'.old,dL g'.vis z.2⟩⟩
 |tup ds=>
  refine .inr (.inl (run _ λv H' Hv' g r=>?_));obtain⟨p,xs,rfl,l,_,r⟩:=RD.tup g.vw r;exact⟨p,rfl,⟨xs,.inl (.inl l)⟩,h (oV K p) H' Hv' (λH Hv=>H p=ab (.tup xs)/\P2 (Rep Hv) ds xs) g (lG AF (λH Hv p v=>.inl (.inl p.1)) (λH Hv p=>p.2) ⟨H',Hv',l,r⟩) ⟨l,r⟩ λH1 Hv1 H2 Hv2 z g'=>⟨g'.old.at z.1,dL g'.vis z.2⟩⟩
 |str z=>
  refine .inr (.inr (run _ λv H' Hv' g r=>?_));exact⟨z,RD.str r,h (ma z) H' Hv' (λ_ _=>True) g (lG C3 (λ_ _ _ _=>trivial) (λH Hv _=>Bz Hv z) ⟨H,Hv,trivial⟩) trivial λ_ _ _ _ _ _=>trivial⟩
 |_=>exact h.elim
theorem lK{K:aB}(ha:AE M qV ta a):gN M (nQ K ta) (Mi.c9 a):=λe σ H Hv R I h=>by
 obtain⟨d,hd,h⟩:=gE (ao.mp h);have run:∀Q:VK,(∀v H' Hv',aZ H Hv H' Hv'->Rep Hv' d v->Q v H')->ta σ H Q:=λQ q=>ha e σ H Hv Q I (by rw[hd];exact q);cases d with
 |lst ds=>
  refine .inl (run _ λv H' Hv' g r=>?_);obtain⟨p,xs,rfl,l,r⟩:=iW.mp r;exact⟨p,rfl,⟨xs,(l.same g.vw.sub).sq⟩,h (oG K p) H' Hv' (λH Hv=>Lst Hv p xs/\P2 (Rep Hv) ds xs) g (lG Cs (λH Hv p v=>(p.1.same v.sub).sq) (λH Hv p=>p.2) ⟨H',Hv',l,r⟩) ⟨l,r⟩ λH1 Hv1 H2 Hv2 z s v=>⟨z.1.same s,dL s z.2⟩⟩
 |tup ds=>
  refine .inr (.inl (run _ λv H' Hv' g r=>?_));obtain⟨p,xs,rfl,l,r⟩:=jc.mp r;exact⟨p,rfl,⟨xs,.inl (.inl (g.vw.sub _ _ l))⟩,h (oV K p) H' Hv' (λH Hv=>Hv p=ab (.tup xs)/\P2 (Rep Hv) ds xs) g (lG AF (λH Hv p v=>.inl (.inl (v.sub _ _ p.1))) (λH Hv p=>p.2) ⟨H',Hv',l,r⟩) ⟨l,r⟩ λH1 Hv1 H2 Hv2 z s v=>⟨s _ _ z.1,dL s z.2⟩⟩
 |str z=>
  refine .inr (.inr (run _ λv H' Hv' g r=>?_));exact⟨z,lY.mp r,h (ma z) H' Hv' (λ_ _=>True) g (lG C3 (λ_ _ _ _=>trivial) (λH Hv _=>Bz Hv z) ⟨H,Hv,trivial⟩) trivial λ_ _ _ _ _ _ _=>trivial⟩
 |_=>exact h.elim
theorem Ip(H:Hp)(lo hi:Int):P2 (Rep H) (Mi.c8 lo hi) (lC lo (hi-lo).toNat):=by
 unfold Mi.c8 lC
 induction bn (hi-lo).toNat with
 |nil=>exact .nil
 |cons c r ih=>exact .cons (nD.mpr rfl) ih
theorem IY(lo hi:Int)(H Hv:Hp):nM (nr lo (hi-lo).toNat) (λ_ _=>True) (Mi.c8 lo hi):=lG JJ (λ_ _ _ _=>trivial) (λH Hv _=>Ip Hv lo hi) ⟨H,Hv,trivial⟩
theorem iQ(ha:AE M qP ta a):gN M (B0 (fw ta gn)) (Mi.f8 a):=λe σ H Hv R I h=>
 ha e σ H Hv _ I ((ao.mp h).mono λx hx v H1 Hv1 g1 rx=>by
  obtain⟨j,rfl,hk⟩:=pA (ao.mp hx);obtain⟨hz,hq⟩:=Mi.cy hk;cases RD.int rx;refine⟨j,rfl,hz.1,hz.2,?_⟩;have:=hq (nr 0 (j-0).toNat) H1 Hv1 _ g1 (IY 0 j H Hv) trivial λ_ _ _ _ _ _ _=>trivial;rw[Int.sub_zero]at this;exact this)
end
def sw:List Nat->jy
 |[]=>AY
 |i::r=>yT (fu i) (sw r)
def sk:Tg->List Nat
 |.n i=>[i]
 |.t is=>is
def ur(K:aB):Tg->TG
 |.n i=>fu i
 |.t is=>DH K is.length (sw is)
section
variable{P:Mi.Env->L2.St->Prop}{H Hv:Hp}
theorem vB:∀{is:List Nat} {ds:List D} {xs:List V} {e:Mi.Env} {σ:L2.St} {Q:L2.St->Hp->Prop},(∀i∈is,∀e σ d v,P e σ->Rep Hv d v->P (e.set i (ab (.d d))) (σ.set i (ab v)))->P e σ->P2 (Rep Hv) ds xs ->
 Fin (Mi.lg is ds e) (λe'=>∀σ',P e' σ'->Q σ' H)->sw is xs σ H Q
 |[],[],xs,e,σ,Q,cl,p,r,h=>by
  cases r;exact⟨rfl,h σ p⟩
 |[],_::_,xs,e,σ,Q,cl,p,r,h=>h.elim
 |_::_,[],xs,e,σ,Q,cl,p,r,h=>h.elim
 |i::is,d::ds,xs,e,σ,Q,cl,p,r,h=>by
  cases r with
  |cons x t=>exact⟨_,_,rfl,vB (λj hj=>cl j (cA _ hj)) (cl i cC _ _ _ _ p x) t h⟩
theorem vN:∀{is:List Nat} {ds:List D} {e:Mi.Env} {k:Mi.Env->Prop},Fin (Mi.lg is ds e) k->ds.length=is.length
 |[],[],_,_,_=>rfl
 |[],_::_,_,_,h=>h.elim
 |_::_,[],_,_,h=>h.elim
 |i::is,d::ds,e,k,h=>by rw[ce,ce,vN (is:=is) (ds:=ds) (k:=k) h]
theorem AZ{K:aB}(vw:Vw H Hv){tg:Tg}{d:D}{v:V}{e:Mi.Env}{σ:L2.St}{Q:L2.St->Hp->Prop}(cl:∀i∈sk tg,∀e σ d v,P e σ->Rep Hv d v->P (e.set i (ab (.d d))) (σ.set i (ab v)))(p:P e σ)(r:Rep Hv d v)
 (h:Fin (tg.put d e) (λe'=>∀σ',P e' σ'->Q σ' H)):ur K tg v σ H Q:=by
 cases tg with
 |n i=>exact h _ (cl i (by simp[sk]) _ _ _ _ p r)
 |t is=>
  cases d with
  |tup ds=>
   obtain⟨a,xs,e1,l,r⟩:=jc.mp r;exact⟨a,xs,e1,.inl (.inl (vw.sub _ _ l)),by rw[<- r.len];exact vN h,vB cl p r h⟩
  |_=>exact h.elim
end
theorem iT{α:Type}{l:List α}{i j:Nat}{x y:α}(h:(l.set i x)[j]? = ab y):(i=j/\x=y/\i<l.length)\/(i≠j/\l[j]? = ab y):=by
 rw[qx]at h;split at h
 ·split at h
  ·exact .inl ⟨‹_›,fj h,by omega⟩
  ·cases h
 ·exact .inr ⟨‹_›,h⟩
theorem R0.set{M:Nat->Bool}{e:Mi.Env}{σ:L2.St}{H Hv:Hp}(I:R0 M e σ H Hv){i:Nat}{w:W}{v:V}(hm:M i=false)(r:gD Hv w v):R0 M (e.set i (ab w)) (σ.set i (ab v)) H Hv:=by
 refine⟨I.vw,by rw[gq,gq];exact I.len,λj w' h m=>?_,λj w' h m=>?_⟩
 ·rcases iT h with ⟨rfl,h,l⟩|⟨n,h⟩
  ·cases h;exact⟨v,by rw[jB (by rw[I.len];exact l)],r⟩
  ·obtain⟨u,q,z⟩:=I.nob j w' h m;exact⟨u,by rw[dY n];exact q,z⟩
 ·rcases iT h with ⟨rfl,h,l⟩|⟨n,h⟩
  ·rw[hm]at m;cases m
  ·obtain⟨u,q,z⟩:=I.own j w' h m;exact⟨u,by rw[dY n];exact q,z⟩
theorem R1.set{M:Nat->Bool}{H0 Hv0:Hp}{e:Mi.Env}{σ:L2.St}{H Hv:Hp}(I:R1 M H0 Hv0 e σ H Hv){i:Nat}{w:W}{v:V}(hm:M i=false)(r:gD Hv w v):R1 M H0 Hv0 (e.set i (ab w)) (σ.set i (ab v)) H Hv:=by
 have nj:∀{j:Nat} {w':W},(e.set i (ab w))[j]? = ab (ab w')->M j=true->i≠j/\e[j]? = ab (ab w'):=λ{j w'} h m=>by
  rcases iT h with ⟨rfl,_,_⟩|⟨n,h⟩
  ·rw[hm]at m;cases m
  ·exact⟨n,h⟩
 refine⟨I.toR0.set hm r,I.gw,λj w' a h m q=>?_,λj k w1 w2 a b hjk h1 h2 m1 m2 q1 q2=>?_⟩
 ·obtain⟨n,h⟩:=nj h m;rw[dY n]at q;exact I.fresh j w' a h m q
 ·obtain⟨n1,h1⟩:=nj h1 m1;obtain⟨n2,h2⟩:=nj h2 m2;rw[dY n1]at q1;rw[dY n2]at q2;exact I.sep j k w1 w2 a b hjk h1 h2 m1 m2 q1 q2
def lB(ρ:List (Option Nat))(M:Nat->Bool):Nat->Bool:=λi=>match ρ[i]? with
 |some (ab j)=>M j
 |_=>false
theorem Bo{α:Type}{ρ:List (Option Nat)}{e:List (Option α)}{i:Nat}{w:α}(h:(ρ.map λo=>o.bind λj=>(e[j]?).join)[i]? = ab (ab w)):∃j,ρ[i]? = ab (ab j)/\e[j]? = ab (ab w):=by
 rw[dw]at h;cases hr:ρ[i]? with
 |none=>rw[hr]at h;cases h
 |some o=>
  rw[hr]at h;cases o with
  |none=>cases h
  |some j=>
   refine⟨j,rfl,?_⟩;have h:(e[j]?).join=ab w:=fj h;cases hq:e[j]? with
   |none=>rw[hq]at h;cases h
   | some o' => rw [hq] at h; have h : o' = ab w := h
                rw[h]
theorem zf{α:Type}{ρ:List (Option Nat)}{e:List (Option α)}{i j:Nat}{w:α}(h1:ρ[i]? = ab (ab j))(h2:e[j]? = ab (ab w)):(ρ.map λo=>o.bind λj=>(e[j]?).join)[i]? = ab (ab w):=by rw[dw,h1];show ab ((e[j]?).join)=_;rw[h2];rfl
theorem R0.pick{M:Nat->Bool}{e:Mi.Env}{σ:L2.St}{H Hv:Hp}(I:R0 M e σ H Hv)(ρ:List (Option Nat)):R0 (lB ρ M) (Mi.je ρ e) (L2.pick ρ σ) H Hv:=by
 refine⟨I.vw,by unfold Mi.je L2.pick;rw[aS,aS],λi w h m=>?_,λi w h m=>?_⟩
 ·obtain⟨j,h1,h2⟩:=Bo h;have m:M j=false:=by unfold lB at m;rw[h1]at m;exact m
  obtain⟨v,q,z⟩:=I.nob j w h2 m;exact⟨v,zf h1 q,z⟩
 ·obtain⟨j,h1,h2⟩:=Bo h;have m:M j=true:=by unfold lB at m;rw[h1]at m;exact m
  obtain⟨v,q,z⟩:=I.own j w h2 m;exact⟨v,zf h1 q,z⟩
theorem GF{tg:Tg}{c:Mi.C}{a:Mi.E}{e:Mi.Env}{x:D}{r:List D}{k:List D->Prop}(h:Fin (Mi.ee tg c a e (x::r)) k) :
 Fin (tg.put x e) λe1=>Fin (c e1) λb=>if b=true then Fin (a e1) λy=>Fin (Mi.ee tg c a e r) λys=>k (y::ys)else Fin (Mi.ee tg c a e r) k:=by
 refine(ao.mp h).mono λe1 h1=>(ao.mp h1).mono λb h2=>?_;cases b with
 |true=>exact lZ ((ao.mp (Mi.nP h2)).mono λy h3=>(ao.mp h3).mono λys h4=>h4)
 |false=>exact lM (Mi.mZ h2)
theorem iF{M:Nat->Bool}{K:aB}{ρ:List (Option Nat)}{wi:TI}{it:Mi.I}{tg:Tg}{tc:TT}{c:Mi.C}{te:TE}{a:Mi.E}(hi:wK M wi it)(hm:∀i∈sk tg,lB ρ M i=false)(hc:AT (lB ρ M) tc c)(he:AE (lB ρ M) qV te a) :
 AE M qN (sn wi ρ (ur K tg) tc te) (Mi.eu ρ it tg c a):=λe σ H Hv Q I h=>
 hi e σ H Hv _ I ((ao.mp h).mono λds h1 J H1 Hv1 P g1 O p1 per=>by
  obtain⟨hz,h1⟩:=Mi.cy h1;have h1:=ao.mp h1;have I1:=I.grow g1;refine⟨λi m acc H'=>m=ds.length-i/\i<=ds.length/\∃Hv',aZ H1 Hv1 H' Hv'/\P H' Hv'/\acc.length<=i/\∃done,P2 (Rep Hv') done acc/\Fin (Mi.ee tg c a (Mi.je ρ e) (ds.drop i)) λys=>∀v H2 Hv2,aZ H Hv H2 Hv2->qN H H2 Hv2 (.d (.lst (done++ys))) v->Q v H2,
   ⟨ds.length,by simp,fi _,Hv1,.refl g1.vw,p1,bg _,[],.nil,by rw[qA];exact h1.mono λys z=>z⟩,?_⟩
  rintro i m acc H' ⟨rfl,hle,Hv',g,pp,l,done,pd,hf⟩;by_cases hlt:i<ds.length
  ·refine .inr ⟨O.go i H' Hv' pp g.vw hlt,by rw[dh];omega,λacc' H2=>∃Hv2,aZ H1 Hv1 H2 Hv2/\P H2 Hv2/\acc'.length<=i+1/\∃done,P2 (Rep Hv2) done acc'/\Fin (Mi.ee tg c a (Mi.je ρ e) (ds.drop (i+1))) λys=>∀v H3 Hv3,aZ H Hv H3 Hv3->qN H H3 Hv3 (.d (.lst (done++ys))) v->Q v H3,
    λacc' H2 z=>⟨ds.length-(i+1),by omega,rfl,hlt,z⟩,λx H2 y=>?_⟩
   obtain⟨Hv2,d,g2,hd,rx⟩:=O.yld i H' Hv' x H2 pp g.vw hlt y;have g12:=g.trans g2;have hdr:ds.drop i=d::ds.drop (i+1):=by obtain⟨hl,e1⟩:=cV.mp hd;rw[mo hl,e1]
   rw[hdr]at hf;have hf:=GF hf;refine AZ (P:=λe1 σ1=>R0 (lB ρ M) e1 σ1 H2 Hv2) g2.vw (λj hj e1 σ1 d1 v1 r1 z=>r1.set (hm j hj) z) ((I1.grow g12).pick ρ) rx (hf.mono λe1 hf1 σ1 r1=>?_);refine hc e1 σ1 H2 Hv2 _ r1 (hf1.mono λb hb H3 Hv3 g3=>?_);cases b with
   |true=>
    refine lZ (he e1 σ1 H3 Hv3 _ (r1.grow g3) (Fin.mono (by simpa using hb) λy hy v H4 Hv4 g4 ry=>?_));exact⟨Hv4,g12.trans (g3.trans g4),per _ _ _ _ pp (g2.trans (g3.trans g4)),by rw[bB,dI];omega,done++[y],(dL (g2.trans (g3.trans g4)).vis pd).append (.cons ry .nil),hy.mono λys z v H5 Hv5 g5 k=>z v H5 Hv5 g5 (by rw[gp]at k;exact k)⟩
   |false=>exact lM ⟨Hv3,g12.trans g3,per _ _ _ _ pp (g2.trans g3),by omega,done,dL (g2.trans g3).vis pd,by simpa using hb⟩
  ·have hi:i=ds.length:=by omega
   subst hi;refine .inl ⟨O.stop H' Hv' pp g.vw,λp hp=>?_⟩;rw[tF (bg _)]at hf;have g2:aZ H' Hv' (upd H' p (.lst acc)) Hv':=.sU g.vw trivial hp;refine hf _ _ _ (g1.trans (g.trans g2)) ⟨p,.lst acc,rfl,(g1.old.trans g.old).free hp,cg,ph g.vw hp,?_⟩;show P2 (Rep Hv') (done++[]) acc;rw[jC];exact pd)
def kT(M:Nat->Bool)(κ:Kd)(H0 Hv0:Hp)(D:Ends)(Hv:Hp):Out->Prop
 |.nx e=>∀σ H' Hv',R1 M H0 Hv0 e σ H' Hv'->cq Hv Hv'->D.nx σ H'
 |.rt w=>∀v H' Hv',aZ H0 Hv0 H' Hv'->κ H0 H' Hv' w v->D.rt v H'
 |.bk e=>∀σ H' Hv',R1 M H0 Hv0 e σ H' Hv'->cq Hv Hv'->D.bk σ H'
 |.ct e=>∀σ H' Hv',R1 M H0 Hv0 e σ H' Hv'->cq Hv Hv'->D.ct σ H'
def AS(M:Nat->Bool)(κ:Kd)(t:TS)(m:Mi.S):Prop:=∀H0 Hv0 e σ H Hv D,R1 M H0 Hv0 e σ H Hv->Fin (m e) (kT M κ H0 Hv0 D Hv)->t D σ H
section
variable{M:Nat->Bool}{κ:Kd}{t u:TS}{m n:Mi.S}{te:TE}{a b:Mi.E}{w:Mi.EW}
theorem eQ:AS M κ wj Mi.cn:=λH0 Hv0 e σ H Hv D I h=>h σ H Hv I (cq.refl _)
theorem CS:AS M κ C7 Mi.pz:=λH0 Hv0 e σ H Hv D I h=>h
theorem a9(h1:AS M κ t m)(h2:AS M κ u n):AS M κ (kJ t u) (Mi.aP m n):=λH0 Hv0 e σ H Hv D I h=>
 h1 H0 Hv0 e σ H Hv _ I ((ao.mp h).mono λo ho=>by
  cases o with
  |nx e'=>exactλσ' H' Hv' I' s=>h2 H0 Hv0 e' σ' H' Hv' D I' (Fin.mono ho λo z=>by
   cases o with
   |nx e2=>exactλσ2 H2 Hv2 I2 s2=>z σ2 H2 Hv2 I2 (s.trans s2)
   |rt w=>exact z
   |bk e2=>exactλσ2 H2 Hv2 I2 s2=>z σ2 H2 Hv2 I2 (s.trans s2)
   |ct e2=>exactλσ2 H2 Hv2 I2 s2=>z σ2 H2 Hv2 I2 (s.trans s2))
  |rt w=>exact ho
  |bk e'=>exact ho
  |ct e'=>exact ho)
theorem rN(ha:AE M qP te a):AS M κ (iX te) (Mi.iR a):=λH0 Hv0 e σ H Hv D I h=>
 ha e σ H Hv _ I.toR0 ((ao.mp h).mono λd hd v H1 Hv1 g1 r=>hd σ H1 Hv1 (I.grow g1) g1.vis)
theorem dU(i:Nat)(hm:M i=false)(ha:AE M qV te a):AS M κ (iq te (fu i)) (Mi.bE i a):=λH0 Hv0 e σ H Hv D I h=>
 ha e σ H Hv _ I.toR0 ((ao.mp h).mono λd hd v H1 Hv1 g1 r=>hd _ H1 Hv1 ((I.grow g1).set hm r) g1.vis)
theorem fJ(ha:AW M qV te w):AS M qV (rS te) (Mi.bJ w):=λH0 Hv0 e σ H Hv D I h=>
 ha e σ H Hv _ I.toR0 ((ao.mp h).mono λd hd v H1 Hv1 g1 r=>hd v H1 Hv1 (I.gw.trans g1) r)
theorem lu(ha:AW M qN te w):AS M qN (rS te) (Mi.bJ w):=λH0 Hv0 e σ H Hv D I h=>
 ha e σ H Hv _ I.toR0 ((ao.mp h).mono λd hd v H1 Hv1 g1 r=>hd v H1 Hv1 (I.gw.trans g1) (KM.mono (κ:=qN) I.gw.old r))
theorem dW{tt:TT}{c:Mi.C}(hc:AT M tt c)(h1:AS M κ t m)(h2:AS M κ u n):AS M κ (vW tt t u) (Mi.bA c m n):=λH0 Hv0 e σ H Hv D I h=>
 hc e σ H Hv _ I.toR0 ((ao.mp h).mono λb hb H1 Hv1 g1=>by
  have up:∀o,kT M κ H0 Hv0 D Hv o->kT M κ H0 Hv0 D Hv1 o:=λo z=>by
   cases o with
   |nx e2=>exactλσ2 H2 Hv2 I2 s2=>z σ2 H2 Hv2 I2 (g1.vis.trans s2)
   |rt w=>exact z
   |bk e2=>exactλσ2 H2 Hv2 I2 s2=>z σ2 H2 Hv2 I2 (g1.vis.trans s2)
   |ct e2=>exactλσ2 H2 Hv2 I2 s2=>z σ2 H2 Hv2 I2 (g1.vis.trans s2)
  cases b with
  |true=>exact lZ (h1 H0 Hv0 e σ H1 Hv1 D (I.grow g1) (Fin.mono (Mi.nP hb) up))
  |false=>exact lM (h2 H0 Hv0 e σ H1 Hv1 D (I.grow g1) (Fin.mono (Mi.mZ hb) up)))
theorem kT.up{H0 Hv0 Hv Hv1:Hp}{D:Ends}(s:cq Hv Hv1){o:Out}(z:kT M κ H0 Hv0 D Hv o):kT M κ H0 Hv0 D Hv1 o:=by
 cases o with
 |nx e2=>exactλσ2 H2 Hv2 I2 s2=>z σ2 H2 Hv2 I2 (s.trans s2)
 |rt w=>exact z
 |bk e2=>exactλσ2 H2 Hv2 I2 s2=>z σ2 H2 Hv2 I2 (s.trans s2)
 |ct e2=>exactλσ2 H2 Hv2 I2 s2=>z σ2 H2 Hv2 I2 (s.trans s2)
theorem gv{K:aB}{wi:TI}{it:Mi.I}{tg:Tg}(hi:gN M wi it)(hm:∀i∈sk tg,M i=false)(hb:AS M κ t m):AS M κ (pc wi (ur K tg) t) (Mi.dM it tg m):=λH0 Hv0 e σ H Hv D I h=>
 hi e σ H Hv _ I.toR0 ((ao.mp h).mono λds h1 J H1 Hv1 P g1 O p1 per=>by
  refine⟨λi k σ' H'=>k=ds.length-i/\i<=ds.length/\∃e' Hv',R1 M H0 Hv0 e' σ' H' Hv'/\P H' Hv'/\Fin (Mi.gf tg m (ds.drop i) e') (kT M κ H0 Hv0 D Hv'),
   ⟨ds.length,by simp,fi _,e,Hv1,I.grow g1,p1,by rw[qA];exact h1.mono λo z=>z.up g1.vis⟩,?_⟩
  rintro i k σ' H' ⟨rfl,hle,e',Hv',I',pp,hf⟩;by_cases hlt:i<ds.length
  ·refine .inr ⟨O.go i H' Hv' pp I'.vw hlt,λσ2 H2=>∃e2 Hv2,R1 M H0 Hv0 e2 σ2 H2 Hv2/\P H2 Hv2/\Fin (Mi.gf tg m (ds.drop (i+1)) e2) (kT M κ H0 Hv0 D Hv2),
    λσ2 H2 z=>⟨ds.length-(i+1),by omega,rfl,hlt,z⟩,λx H2 y=>?_⟩
   obtain⟨Hv2,d,g2,hd,rx⟩:=O.yld i H' Hv' x H2 pp I'.vw hlt y;have I2:=I'.grow g2;have hdr:ds.drop i=d::ds.drop (i+1):=by obtain⟨hl,e1⟩:=cV.mp hd;rw[mo hl,e1]
   rw[hdr]at hf;refine AZ (P:=λe1 σ1=>R1 M H0 Hv0 e1 σ1 H2 Hv2) g2.vw (λj hj e1 σ1 d1 v1 r1 z=>r1.set (hm j hj) z) I2 rx ((ao.mp hf).mono λe1 h1 σ1 I1=>?_);refine hb H0 Hv0 e1 σ1 H2 Hv2 _ I1 ((ao.mp h1).mono λo ho=>?_);cases o with
   |nx e2=>exactλσ2 H3 Hv3 I3 s3=>⟨e2,Hv3,I3,per _ _ _ _ pp (g2.vis.trans s3) I3.vw,Fin.mono ho λo z=>z.up (g2.vis.trans s3)⟩
   |ct e2=>exactλσ2 H3 Hv3 I3 s3=>⟨e2,Hv3,I3,per _ _ _ _ pp (g2.vis.trans s3) I3.vw,Fin.mono ho λo z=>z.up (g2.vis.trans s3)⟩
   |bk e2=>exactλσ2 H3 Hv3 I3 s3=>ho σ2 H3 Hv3 I3 (g2.vis.trans s3)
   |rt w=>exact ho
  ·have hi:i=ds.length:=by omega
   subst hi;refine .inl ⟨O.stop H' Hv' pp I'.vw,?_⟩;rw[tF (bg _)]at hf;exact hf σ' H' Hv' I' (cq.refl _))
end
section
variable{M:Nat->Bool}{κ:Kd}{te:TE}{a b:Mi.E}{w:Mi.EW}{K:aB}
theorem R1.write{H0 Hv0:Hp}{e:Mi.Env}{σ:L2.St}{H Hv:Hp}(I:R1 M H0 Hv0 e σ H Hv){i:Nat}{w w':W}{p:ah}{o:HO}(hm:M i=true)(he:e[i]? = ab (ab w))(hs:σ[i]? = ab (ab (.ref p)))(c:di Hv w' o):R1 M H0 Hv0 (e.set i (ab w')) σ (upd H p o) Hv:=by
 have hp:∃o',H p=ab o'/\Hv p=ae/\qb o':=by obtain⟨v,q,a,o',e1,q1,n,c'⟩:=I.own i w he hm;rw[hs]at q;cases q;cases e1;exact⟨o',q1,n,c'.CD⟩
 obtain⟨o',hp,hn,hcc⟩:=hp;have h0:H0 p=ae:=I.fresh i w p he hm hs;have vw:Vw (upd H p o) Hv:=by
  refine⟨λb u q=>?_,λb xs q=>?_,λb z u q=>?_,I.vw.cd.put hp hcc c.nw,I.vw.nv⟩
  ·rw[aQ (cQ q hn)];exact I.vw.sub b u q
  ·by_cases hb:b=p
   ·subst hb;rw[cg]at q;cases q;exact c.cell.elim
   ·rw[aQ hb]at q;exact I.vw.tup b xs q
  ·by_cases hb:b=p
   ·subst hb;rw[cg]at q;cases q;exact c.cell.elim
   ·rw[aQ hb]at q;exact I.vw.frz b z u q
 have get:∀{j:Nat} {w2:W},(e.set i (ab w'))[j]? = ab (ab w2)->(i=j/\w'=w2)\/(i≠j/\e[j]? = ab (ab w2)):=λ{j w2} h=>by
  rcases iT h with ⟨x,y,_⟩|z
  ·exact .inl ⟨x,fj y⟩
  ·exact .inr z
 have get':∀{j:Nat} {w2:W},(e.set i (ab w'))[j]? = ab (ab w2)->∃w3,e[j]? = ab (ab w3):=λ{j w2} h=>by
  rcases get h with ⟨x,_⟩|⟨_,z⟩
  ·subst x;exact⟨w,he⟩
  ·exact⟨w2,z⟩
 refine⟨⟨vw,by rw[gq];exact I.len,λj w2 h m=>?_,λj w2 h m=>?_⟩,⟨I.gw.old.put h0 hp,I.gw.vis,vw,I.gw.hid⟩,λj w2 x h m q=>?_,λj k w1 w2 x y hjk h1 h2 m1 m2 q1 q2=>?_⟩
 ·rcases get h with ⟨rfl,_⟩|⟨_,z⟩
  ·rw[hm]at m;cases m
  ·exact I.nob j w2 z m
 ·rcases get h with ⟨rfl,rfl⟩|⟨n,z⟩
  ·exact⟨.ref p,hs,p,o,rfl,cg,hn,c⟩
  ·obtain⟨v,q,x,u,e1,q1,n1,c1⟩:=I.own j w2 z m;subst e1;have:=I.sep i j w w2 p x n he z hm m hs q;exact⟨.ref x,q,x,u,rfl,by rw[aQ (dS this)];exact q1,n1,c1⟩
 ·obtain⟨w3,z⟩:=get' h;exact I.fresh j w3 x z m q
 ·obtain⟨w3,z3⟩:=get' h1;obtain⟨w4,z4⟩:=get' h2;exact I.sep j k w3 w4 x y hjk z3 z4 m1 m2 q1 q2
theorem R1.cell{H0 Hv0:Hp}{e:Mi.Env}{σ:L2.St}{H Hv:Hp}(I:R1 M H0 Hv0 e σ H Hv){i:Nat}{w:W}(hm:M i=true)(he:e[i]? = ab (ab w)):∃p o,σ[i]? = ab (ab (.ref p))/\H p=ab o/\Hv p=ae/\H0 p=ae/\di Hv w o:=by obtain⟨v,q,p,o,rfl,q1,n,c⟩:=I.own i w he hm;exact⟨p,o,q,q1,n,I.fresh i w p he hm q,c⟩
theorem l7{e:Mi.Env}{i:Nat}{k:List D->Prop}(h:Fin (Mi.getL e i) k):∃ds,e[i]? = ab (ab (.d (.lst ds)))/\k ds:=by
 unfold Mi.getL at h;split at h
 ·exact⟨_,‹_›,h⟩
 ·exact h.elim
theorem R1.list{H0 Hv0:Hp}{e:Mi.Env}{σ:L2.St}{H Hv:Hp}(I:R1 M H0 Hv0 e σ H Hv){i:Nat}{ds:List D}(hm:M i=true)(he:e[i]? = ab (ab (.d (.lst ds)))):∃p xs,σ[i]? = ab (ab (.ref p))/\H p=ab (.lst xs)/\Hv p=ae/\P2 (Rep Hv) ds xs:=by
 obtain⟨p,o,q,q1,n,_,c⟩:=I.cell hm he;cases o with
 |lst xs=>exact⟨p,xs,q,q1,n,c⟩
 |_=>exact c.elim
theorem R1.name{H0 Hv0:Hp}{e:Mi.Env}{σ:L2.St}{H Hv H1 Hv1:Hp}(I:R1 M H0 Hv0 e σ H Hv)(g:aZ H Hv H1 Hv1){i:Nat}{w:W}{v:V}(hm:M i=true)(k:qN H H1 Hv1 w v):R1 M H0 Hv0 (e.set i (ab w)) (σ.set i (ab v)) H1 Hv1:=by
 obtain⟨p,o,rfl,hf,hp,hn,c⟩:=k;have I1:=I.grow g;have other:∀{j:Nat} {w2:W} {x:ah},e[j]? = ab (ab w2)->M j=true->σ[j]? = ab (ab (.ref x))->x≠p:=λ{j w2 x} h m q=>by
  obtain⟨p',o',q',q1,_⟩:=I.cell m h;rw[q]at q';cases q';exact cQ q1 hf
 refine⟨⟨I1.vw,by rw[gq,gq];exact I.len,λj w2 h m=>?_,λj w2 h m=>?_⟩,I1.gw,λj w2 x h m q=>?_,λj k w1 w2 x y hjk h1 h2 m1 m2 q1 q2=>?_⟩
 ·rcases iT h with ⟨rfl,_⟩|⟨n,z⟩
  ·rw[hm]at m;cases m
  ·obtain⟨u,q,r⟩:=I1.nob j w2 z m;exact⟨u,by rw[dY n];exact q,r⟩
 ·rcases iT h with ⟨rfl,h,l⟩|⟨n,z⟩
  ·cases h;exact⟨.ref p,by rw[jB (by rw[I.len];exact l)],p,o,rfl,hp,hn,c⟩
  ·obtain⟨u,q,r⟩:=I1.own j w2 z m;exact⟨u,by rw[dY n];exact q,r⟩
 ·rcases iT h with ⟨rfl,h,l⟩|⟨n,z⟩
  ·rw[jB (by rw[I.len];exact l)]at q;cases q;exact I.gw.old.free hf
  ·rw[dY n]at q;exact I.fresh j w2 x z m q
 ·rcases iT h1 with ⟨rfl,_,l⟩|⟨n,z⟩
  ·rw[jB (by rw[I.len];exact l)]at q1;cases q1;rcases iT h2 with ⟨rfl,_,_⟩|⟨n2,z2⟩
   ·exact absurd rfl hjk
   ·rw[dY n2]at q2;exact dS (other z2 m2 q2)
  ·rw[dY n]at q1;rcases iT h2 with ⟨rfl,_,l⟩|⟨n2,z2⟩
   ·rw[jB (by rw[I.len];exact l)]at q2;cases q2;exact other z m1 q1
   ·rw[dY n2]at q2;exact I.sep j k w1 w2 x y hjk z z2 m1 m2 q1 q2
theorem jW(i:Nat)(hm:M i=true)(ha:AE M qN te a):AS M κ (iq te (fu i)) (Mi.bE i a):=λH0 Hv0 e σ H Hv D I h=>
 ha e σ H Hv _ I.toR0 ((ao.mp h).mono λd hd v H1 Hv1 g1 r=>hd _ H1 Hv1 (I.name g1 hm r) g1.vis)
theorem B7(i:Nat)(hm:M i=true)(ha:AW M qN te w):AS M κ (iq te (fu i)) (Mi.uP i w):=λH0 Hv0 e σ H Hv D I h=>
 ha e σ H Hv _ I.toR0 ((ao.mp h).mono λd hd v H1 Hv1 g1 r=>hd _ H1 Hv1 (I.name g1 hm r) g1.vis)
theorem yM:AW M qN Ch (λ_=>.ok (.dk [])):=λe σ H Hv Q I h p hp=>
 h _ _ Hv (.sU I.vw trivial hp) ⟨p,.dK [],rfl,hp,cg,ph I.vw hp,.nil⟩
theorem pT(i:Nat)(hm:M i=true)(ha:AE M qV te a):AS M κ (iX (lP K "list" vj (cZ i) (fw te gn))) (Mi.fV i a):=λH0 Hv0 e σ H Hv D I h=>by
 obtain⟨d,hd,h⟩:=gE (ao.mp h);obtain⟨ds,he,h⟩:=l7 (ao.mp h);obtain⟨hz,h⟩:=Mi.cy h;obtain⟨p,xs,q,q1,n,c⟩:=I.list hm he;refine⟨.ref p,q,.inl ⟨rfl,xs,.inl (.inl q1)⟩,ha e σ H Hv _ I.toR0 (by
  rw[hd];intro v H1 Hv1 g1 r;have I1:=I.grow g1;refine⟨p,xs,v,rfl,rfl,g1.old.at q1,by rw[<- c.len,dh];exact hz,?_⟩;exact h σ _ Hv1 (I1.write hm he q (show di Hv1 (.d (.lst (ds++[d]))) (.lst (xs++[v]))from(dL g1.vis c).append (.cons r .nil))) g1.vis)⟩
theorem Jw(i:Nat)(hm:M i=true):AS M κ (iX (lN K "list" BJ (cZ i))) (Mi.wT i):=λH0 Hv0 e σ H Hv D I h=>by
 obtain⟨ds,he,h⟩:=l7 (ao.mp h);obtain⟨p,xs,q,q1,n,c⟩:=I.list hm he;exact⟨.ref p,q,.inl ⟨rfl,xs,.inl (.inl q1)⟩,p,xs,rfl,rfl,q1,h σ _ Hv (I.write hm he q (show di Hv (.d (.lst ds.reverse)) (.lst xs.reverse)from c.rev)) (cq.refl _)⟩
theorem gR{α:Type}{o:Option α}{k:α->Prop}(h:Fin (Mi.cN o) k):∃x,o=ab x/\k x:=by
 cases o with
 |some x=>exact⟨x,rfl,h⟩
 |none=>exact h.elim
theorem yH{n:Nat}{i:Int}{k:Nat}(h:Mi.dB n i=ab k):seqIndex? i n=ab k:=by
 unfold Mi.dB at h;split at h
 ·split at h
  ·rw[tV (by omega) (by omega)];exact h
  ·cases h
 ·split at h
  ·rw[tU (by omega) (by omega)];exact h
  ·cases h
theorem Dt{ds:List D}{i:Int}{k:D×List D->Prop}(h:Fin (Mi.jZ ds i) k):-(2 ^ 63)<=i/\i<2 ^ 63/\∃j d,Mi.dB ds.length i=ab j/\ds[j]? = ab d/\k (d,ds.eraseIdx j):=by obtain⟨⟨h1,h2⟩,h⟩:=Mi.cy h;obtain⟨j,hj,h⟩:=gR (ao.mp h);obtain⟨d,hd,h⟩:=gR (ao.mp h);exact⟨h1,h2,j,d,hj,hd,h⟩
theorem Ae(x y:Nat)(hx:M x=false)(hy:M y=true)(ha:AE M qP te a):AS M κ (iq (lP K "list" uA (cZ y) (fw te gn)) (fu x)) (Mi.lS x y a):=λH0 Hv0 e σ H Hv D I h=>by
 obtain⟨z,hz,h⟩:=gE (ao.mp h);obtain⟨i,rfl,h⟩:=pA (ao.mp h);obtain⟨ds,he,h⟩:=l7 (ao.mp h);obtain⟨h1,h2,j,d,hj,hd,h⟩:=Dt (ao.mp h);obtain⟨p,xs,q,q1,n,c⟩:=I.list hy he;refine⟨.ref p,q,.inl ⟨rfl,xs,.inl (.inl q1)⟩,ha e σ H Hv _ I.toR0 (by
  rw[hz];intro v H1 Hv1 g1 r;have I1:=I.grow g1;cases RD.int r;obtain⟨u,hu,ru⟩:=c.getL hd;rw[c.len]at hj;refine⟨p,xs,i,j,u,rfl,rfl,g1.old.at q1,h1,h2,yH hj,hu,?_⟩;exact h _ _ Hv1 ((I1.write hy he q (show di Hv1 (.d (.lst (ds.eraseIdx j))) (.lst (xs.eraseIdx j))from(dL g1.vis c).erase j)).set hx (iV g1.vis ru)) g1.vis)⟩
theorem Ji(x y:Nat)(hxy:x≠y)(hx:M x=true)(hy:M y=true)(ha:AE M qP te a):AS M κ (iX (lP K "list" vj (cZ x) (fw (lP K "list" uA (cZ y) (fw te gn)) gn))) (Mi.r0 x y a):=λH0 Hv0 e σ H Hv D I h=>by
 obtain⟨z,hz,h⟩:=gE (ao.mp h);obtain⟨i,rfl,h⟩:=pA (ao.mp h);obtain⟨ds,he,h⟩:=l7 (ao.mp h);obtain⟨h1,h2,j,d,hj,hd,h⟩:=Dt (ao.mp h);obtain⟨es,he2,h⟩:=l7 (ao.mp h);obtain⟨hsz,h⟩:=Mi.cy h;have ER:e[x]? = ab (ab (.d (.lst es))):=by
  have he2:(e.set y (ab (.d (.lst (ds.eraseIdx j)))))[x]? = _:=he2
  rwa [dY (dS hxy)]at he2
 obtain⟨p,xs,q,q1,n,c⟩:=I.list hy he;obtain⟨p',xs',q',q1',n',c'⟩:=I.list hx ER;have hpp:p'≠p:=I.sep x y _ _ p' p hxy ER he hx hy q' q;refine⟨.ref p',q',.inl ⟨rfl,xs',.inl (.inl q1')⟩,.ref p,q,.inl ⟨rfl,xs,.inl (.inl q1)⟩,ha e σ H Hv _ I.toR0 (by
  rw[hz];intro v H1 Hv1 g1 r;have I1:=I.grow g1;cases RD.int r;obtain⟨u,hu,ru⟩:=c.getL hd;rw[c.len]at hj;refine⟨p,xs,i,j,u,rfl,rfl,g1.old.at q1,h1,h2,yH hj,hu,?_⟩;have I2:=I1.write hy he q (show di Hv1 (.d (.lst (ds.eraseIdx j))) (.lst (xs.eraseIdx j))from(dL g1.vis c).erase j);refine⟨p',xs',u,rfl,rfl,by rw[aQ hpp];exact g1.old.at q1',by rw[<- c'.len,dh];exact hsz,?_⟩;exact h σ _ Hv1 (I2.write hx he2 q' (show di Hv1 (.d (.lst (es++[d]))) (.lst (xs'++[u]))from(dL g1.vis c').append (.cons (iV g1.vis ru) .nil))) g1.vis)⟩
theorem GJ{tk:TE}{k:Mi.E}(x:Nat)(hx:M x=true)(ha:AE M qV te a)(hk:AE M qP tk k):AS M κ (iq te (B5 (cZ x) tk De)) (Mi.o0 x k a):=λH0 Hv0 e σ H Hv D I h=>by
 obtain⟨d,hd,h⟩:=gE (ao.mp h);obtain⟨z,hz,h⟩:=gE (ao.mp h);obtain⟨i,rfl,h⟩:=pA (ao.mp h);obtain⟨ds,he,h⟩:=l7 (ao.mp h);obtain⟨j,hj,h⟩:=gR (ao.mp h);obtain⟨p,xs,q,q1,n,c⟩:=I.list hx he;refine ha e σ H Hv _ I.toR0 (by
  rw[hd];intro v H1 Hv1 g1 r;refine⟨.ref p,q,hk e σ H1 Hv1 _ (I.toR0.grow g1) (by
   rw[hz];intro v2 H2 Hv2 g2 r2;cases RD.int r2;have I2:=(I.grow g1).grow g2;rw[c.len]at hj;refine⟨p,xs,i,j,rfl,rfl,g2.old.at (g1.old.at q1),hj,?_⟩;exact h σ _ Hv2 (I2.write hx he q (show di Hv2 (.d (.lst (ds.set j d))) (.lst (xs.set j v))from P2.set (iV g2.vis r) j (dL (g1.trans g2).vis c))) (g1.trans g2).vis)⟩)
theorem pO(i:Nat)(hm:M i=true):AS M qN (rS (cZ i)) (Mi.bJ (Mi.wV i)):=λH0 Hv0 e σ H Hv D I h=>by
 obtain⟨w,he,h⟩:=pP (ao.mp h);obtain⟨p,o,q,q1,n,h0,c⟩:=I.cell hm he;exact⟨.ref p,q,h _ H Hv I.gw ⟨p,o,rfl,h0,q1,n,c⟩⟩
theorem R1.zc{H0 Hv0:Hp}{e:Mi.Env}{σ:L2.St}{H Hv:Hp}(I:R1 M H0 Hv0 e σ H Hv){y:Nat}{w:W}(hy:M y=true)(he:e[y]? = ab (ab w)):∃p Hv',σ[y]? = ab (ab (.ref p))/\R1 M H0 Hv0 (e.set y ae) σ H Hv'/\cq Hv Hv'/\gD Hv' w (.ref p):=by
 obtain⟨p,o,q,q1,n,h0,c⟩:=I.cell hy he;obtain⟨vw,s⟩:=I.vw.show q1 n c.nt;have nj:∀{j:Nat} {w':W},(e.set y ae)[j]? = ab (ab w')->y≠j/\e[j]? = ab (ab w'):=λ{j w'} h=>by
  rcases iT h with ⟨_,h,_⟩|z
  ·cases h
  ·exact z
 refine⟨p,upd Hv p o,q,⟨⟨vw,by rw[gq];exact I.len,λj w' h m=>?_,λj w' h m=>?_⟩,⟨I.gw.old,I.gw.vis.trans s,vw,λb u z1 z2=>?_⟩,λj w' x h m z=>?_,λj k w1 w2 x z hjk h1 h2 m1 m2 z1 z2=>?_⟩,s,uB cg (c.same s)⟩
 ·obtain⟨_,h⟩:=nj h;obtain⟨v,z,r⟩:=I.nob j w' h m;exact⟨v,z,mW s r⟩
 ·obtain⟨hne,h⟩:=nj h;obtain⟨v,z,x,u,e1,q2,n2,c2⟩:=I.own j w' h m;subst e1;have:=I.sep y j w w' p x hne he h hy m q z;exact⟨.ref x,z,x,u,rfl,q2,by rw[aQ (dS this)];exact n2,c2.same s⟩
 ·rw[aQ (cQ z1 h0)];exact I.gw.hid b u z1 z2
 ·exact I.fresh j w' x (nj h).2 m z
 ·exact I.sep j k w1 w2 x z hjk (nj h1).2 (nj h2).2 m1 m2 z1 z2
theorem Kq(x y:Nat)(hx:M x=false)(hy:M y=true):AS M κ (iq (cZ y) (fu x)) (Mi.sN x y):=λH0 Hv0 e σ H Hv D I h=>by
 unfold Mi.sN at h;split at h
 ·rename_i w he;obtain⟨p,Hv',q,I',s,r⟩:=I.zc hy he;exact⟨.ref p,q,h _ H Hv' (I'.set hx r) s⟩
 ·exact h.elim
theorem vk{κ':Type}[DecidableEq κ']{H:Hp}{k:κ'}{am:List (κ'×D)}{kv:List (κ'×V)}(h:fc H am kv):match Mi.gU am k with
 |some d=>∃v,f9 kv k=ab v/\Rep H d v
 |none=>f9 kv k=ae:=by
 unfold Mi.gU f9
 induction h with
 |nil=>rfl
 | @cons p q l m hpq t ih=>
  rw[jD,jD,hpq.1];by_cases hk:q.1=k
  ·rw[cM hk];exact⟨q.2,rfl,hpq.2⟩
  ·rw[bx hk];exact ih
theorem yB{κ':Type}[DecidableEq κ']{H:Hp}{k:κ'}{d:D}{v:V}(r:Rep H d v){am:List (κ'×D)}{kv:List (κ'×V)}(h:fc H am kv):fc H (Mi.putK k d am) (L2.putK kv k v):=by
 have e:(am.any λx=>decide (x.1=k))=(kv.any λx=>decide (x.1=k)):=by
  induction h with
  |nil=>rfl
  | @cons p q l m hpq t ih=>rw[i5,i5,ih,hpq.1]
 unfold Mi.putK L2.putK;rw[e];split
 ·rename_i hh;clear hh e
  induction h with
  |nil=>exact .nil
  | @cons p q l m hpq t ih=>
   rw[cD,cD];refine .cons ?_ ih
   ·by_cases hk:q.1=k
    ·rw[aw hk,aw (hpq.1.trans hk)];exact⟨hpq.1,r⟩
    ·rw[ay hk,ay (λz=>hk (hpq.1.symm.trans z))];exact hpq
 ·exact P2.append h (.cons ⟨rfl,r⟩ .nil)
end
section
variable{X:Cx}{K:aB}
def JM:R2:=λx y H Q=>∃i j,x=.str i/\y=.str j/\i.length+j.length<=sizeLine/\Q (.str (i++j)) H
theorem l0{af:List (ah×Obj)}{σ:L2.St}{H:Hp}{s:ak}{a:ah}{xs:List V}(I:Inv X af σ H s)(h:Lst H a xs):∃(ai:List ag) (n:Nat),Vals xs ai/\xs.length<=sizeLine/\s.heap.get? a=ab { cls:=.type "list", data:=.seq ai.toArray n }:=by
 rcases h with h|⟨o,h⟩
 ·obtain⟨z,ai,n,r,e⟩:=I.hok a _ h;exact⟨ai,n,r,z,e⟩
 ·obtain⟨_,z,ai,n,r,e⟩:=I.hok a _ h;exact⟨ai,n,r,z,e⟩
def Aa:R2:=λx y H Q=>∃l b xs zs,x=.ref l/\y=.ref b/\Lst H l xs/\Lst H b zs/\xs.length+zs.length<=sizeLine/\∀p,H p=ae->Q (.ref p) (upd H p (.lst (xs++zs)))
theorem I0:cm X (binaryOp .Add) Aa:=by
 intro af s σ H x y v u Q I rx ry h;obtain⟨l,b,xs,zs,rfl,rfl,hH,hB,hz,q⟩:=h;cases rx;cases ry;obtain⟨ai,n,r,z,e⟩:=l0 I hH;obtain⟨its2,n2,r2,z2,e2⟩:=l0 I hB;have hl:=r.length;have hl2:=r2.length;refine PySem.P.add_list e e2 ?_ (by rw[bG,bG];omega);have ea:ai.toArray++its2.toArray=(ai++its2).toArray:=by simp
 rw[ea];exact⟨.ref _,_,I.J3 (t':=s.toks) (r.append r2) (by rw[bB];omega),rfl,q _ I.fresh⟩
def zB:R2:=λx y H Q=>jw (λi j=>.int (i+j)) x y H Q\/JM x y H Q\/Aa x y H Q
theorem c7:cm X (binaryOp .Add) zB:=HD.or (cm.or Jc I0)
theorem uT{H Hv:Hp}(vw:Vw H Hv){ds:List D}{xs:List V}(r:P2 (Rep Hv) ds xs){p:ah}(hp:H p=ae):aZ H Hv (upd H p (.lst xs)) Hv/\qN H (upd H p (.lst xs)) Hv (.d (.lst ds)) (.ref p):=⟨.sU vw trivial hp,p,.lst xs,rfl,hp,cg,ph vw hp,r⟩
theorem Dz{H Hv:Hp}(vw:Vw H Hv){ds:List D}{xs:List V}(r:P2 (Rep Hv) ds xs){p:ah}(hp:H p=ae):aZ H Hv (upd H p (.lst xs)) (upd Hv p (.lst xs))/\qV H (upd H p (.lst xs)) (upd Hv p (.lst xs)) (.d (.lst ds)) (.ref p):=by have g:aZ H Hv (upd H p (.lst xs)) (upd Hv p (.lst xs)):=.new vw hp;exact⟨g,iW.mpr ⟨p,xs,rfl,.inl cg,dL g.vis r⟩⟩
theorem wg{H Hv:Hp}(vw:Vw H Hv){ds:List D}{xs:List V}(r:P2 (Rep Hv) ds xs){p:ah}(hp:H p=ae):aZ H Hv (upd H p (.tup xs)) (upd Hv p (.tup xs))/\qV H (upd H p (.tup xs)) (upd Hv p (.tup xs)) (.d (.tup ds)) (.ref p):=by have g:aZ H Hv (upd H p (.tup xs)) (upd Hv p (.tup xs)):=.new vw hp;exact⟨g,jc.mpr ⟨p,xs,rfl,cg,dL g.vis r⟩⟩
theorem dg:B2 qV zB Mi.aW:=λx y v u H Hv Q vw rx ry h=>by
 cases x with
 | int i=>cases y with
  |int j=>cases RD.int rx;cases RD.int ry;exact .inl ⟨i,j,rfl,rfl,h _ H Hv (.refl vw) f6⟩
  |_=>exact h.elim
 | str i=>cases y with
  |str j=>
   cases RD.str rx;cases RD.str ry;obtain⟨hz,h⟩:=Mi.cy h;exact .inr (.inl ⟨i,j,rfl,rfl,by rw[dh];exact hz,h _ H Hv (.refl vw) qg⟩)
  |_=>exact h.elim
 | lst a=>cases y with
  |lst b=>
   obtain⟨hz,h⟩:=Mi.cy h;obtain⟨p,xs,rfl,l1,r1⟩:=RD.lst vw rx;obtain⟨q,ys,rfl,l2,r2⟩:=RD.lst vw ry;refine .inr (.inr ⟨p,q,xs,ys,rfl,rfl,l1,l2,by rw[<- r1.len,<- r2.len,dh];exact hz,λa ha=>?_⟩);obtain⟨g,k⟩:=Dz vw (r1.append r2) ha;exact h _ _ _ g k
  |_=>exact h.elim
 |_=>cases y<;>exact h.elim
theorem rh:B2 qV (jw λi j=>.int (i-j)) Mi.iS:=λx y v u H Hv Q vw rx ry h=>by
 cases x with
 | int i=>cases y with
  |int j=>cases RD.int rx;cases RD.int ry;exact⟨i,j,rfl,rfl,h _ H Hv (.refl vw) f6⟩
  |_=>exact h.elim
 |_=>cases y<;>exact h.elim
theorem fe:B2 qV (rI sg λi j=>.int (i*j)) Mi.bp:=λx y v u H Hv Q vw rx ry h=>by
 cases x with
 | int i=>cases y with
  |int j=>cases RD.int rx;cases RD.int ry;obtain⟨hz,h⟩:=Mi.cy h;exact⟨i,j,rfl,rfl,hz,h _ H Hv (.refl vw) f6⟩
  |_=>exact h.elim
 |_=>cases y<;>exact h.elim
theorem gL:B2 qV (rI Dw λi j=>.int (i/j)) Mi.bN:=λx y v u H Hv Q vw rx ry h=>by
 cases x with
 | int i=>cases y with
  |int j=>cases RD.int rx;cases RD.int ry;obtain⟨hz,h⟩:=Mi.cy h;exact⟨i,j,rfl,rfl,hz,h _ H Hv (.refl vw) f6⟩
  |_=>exact h.elim
 |_=>cases y<;>exact h.elim
theorem cX:B2 qV (rI (λ_ j=>0<j) λi j=>.int (i%j)) Mi.aU:=λx y v u H Hv Q vw rx ry h=>by
 cases x with
 | int i=>cases y with
  |int j=>cases RD.int rx;cases RD.int ry;obtain⟨hz,h⟩:=Mi.cy h;exact⟨i,j,rfl,rfl,hz,h _ H Hv (.refl vw) f6⟩
  |_=>exact h.elim
 |_=>cases y<;>exact h.elim
theorem KJ:B2 qV (rI Cy λi j=>.int (i ^ j.toNat)) Mi.vG:=λx y v u H Hv Q vw rx ry h=>by
 cases x with
 | int i=>cases y with
  |int j=>cases RD.int rx;cases RD.int ry;obtain⟨hz,h⟩:=Mi.cy h;exact⟨i,j,rfl,rfl,hz,h _ H Hv (.refl vw) f6⟩
  |_=>exact h.elim
 |_=>cases y<;>exact h.elim
theorem qX:B1 qV (rU λi=>.int (-i)) Mi.gC:=λx v H Hv Q vw rx h=>by
 cases x with
 |int i=>cases RD.int rx;exact⟨i,rfl,h _ H Hv (.refl vw) f6⟩
 |_=>exact h.elim
def zk:R2:=λx y H Q=>jw (λi j=>.bl (decide (i<j))) x y H Q\/∃i j,x=.str i/\y=.str j/\Q (.bl (decide (i.cps.toList<j.cps.toList))) H
theorem qf:cm X (compareOp .Lt) zk:=JY.or KR
def Bw:R2:=λx y H Q=>jw (λi j=>.bl (decide (j<i))) x y H Q\/∃i j,x=.str i/\y=.str j/\Q (.bl (decide (j.cps.toList<i.cps.toList))) H
theorem GL:cm X (compareOp .Gt) Bw:=JU.or Lj
theorem pR:B2 qV zk Mi.dR:=λx y v u H Hv Q vw rx ry h=>by
 cases x with
 | int i=>cases y with
  |int j=>cases RD.int rx;cases RD.int ry;exact .inl ⟨i,j,rfl,rfl,h _ H Hv (.refl vw) fq⟩
  |_=>exact h.elim
 | str i=>cases y with
  |str j=>cases RD.str rx;cases RD.str ry;exact .inr ⟨i,j,rfl,rfl,h _ H Hv (.refl vw) fq⟩
  |_=>exact h.elim
 |_=>cases y<;>exact h.elim
theorem J1:B2 qV Bw Mi.uX:=λx y v u H Hv Q vw rx ry h=>by
 cases x with
 | int i=>cases y with
  |int j=>cases RD.int rx;cases RD.int ry;exact .inl ⟨i,j,rfl,rfl,h _ H Hv (.refl vw) fq⟩
  |_=>exact h.elim
 | str i=>cases y with
  |str j=>cases RD.str rx;cases RD.str ry;exact .inr ⟨i,j,rfl,rfl,h _ H Hv (.refl vw) fq⟩
  |_=>exact h.elim
 |_=>cases y<;>exact h.elim
def se(K:aB)(neg:Bool):R2:=λx y H Q=>∃d e,L2.Rep K H d x/\L2.Rep K H e y/\d.dep<=16/\Q (.bl (if neg then !Mi.bh d e else Mi.bh d e)) H
theorem nX:B2 qV (se K false) Mi.et:=λx y v u H Hv Q vw rx ry h=>by
 obtain⟨hz,h⟩:=Mi.cy h;exact⟨x,y,j6 K (RD.full vw rx),j6 K (RD.full vw ry),hz,h _ H Hv (.refl vw) fq⟩
theorem oR:B2 qV (se K true) Mi.fO:=λx y v u H Hv Q vw rx ry h=>by
 obtain⟨hz,h⟩:=Mi.cy h;exact⟨x,y,j6 K (RD.full vw rx),j6 K (RD.full vw ry),hz,h _ H Hv (.refl vw) fq⟩
def DA(K:aB):R2:=λx y H Q=>sE K false x y H Q\/zJ false x y H Q
theorem sP(hu:X.A.units+64<cLine):cm X (compareOp .In) (DA X.K):=(IV hu).or Hj
theorem rj{H:Hp}{ds:List D}{xs:List V}(h:P2 (Rep H) ds xs):L2.aV K H ds xs:=rc K (lQ.mpr h)
theorem rC:B2 qV (DA K) Mi.ia:=λx y v u H Hv Q vw rx ry h=>by
 cases y with
 |lst ds=>
  obtain⟨hz,h⟩:=Mi.cy h;obtain⟨p,xs,rfl,l1,r1⟩:=RD.lst vw ry;exact .inl ⟨p,xs,x,ds,rfl,.inl l1.sq,j6 K (RD.full vw rx),rj (dL vw.sub r1),hz,h _ H Hv (.refl vw) fq⟩
 |tup ds=>
  obtain⟨hz,h⟩:=Mi.cy h;obtain⟨p,xs,rfl,l1,_,r1⟩:=RD.tup vw ry;exact .inl ⟨p,xs,x,ds,rfl,.inr (.inl (.inl l1)),j6 K (RD.full vw rx),rj (dL vw.sub r1),hz,h _ H Hv (.refl vw) fq⟩
 | str z=>cases x with
  |str c=>
   obtain⟨hz,h⟩:=Mi.cy h;cases RD.str rx;cases RD.str ry;obtain⟨⟨l⟩⟩:=c
   match l,hz with
   |[c],_=>exact .inr ⟨c,z,rfl,rfl,h _ H Hv (.refl vw) fq⟩
  |_=>exact h.elim
 |_=>exact h.elim
theorem uY:B2 qV (sE K true) Mi.iL:=λx y v u H Hv Q vw rx ry h=>by
 cases y with
 |lst ds=>
  obtain⟨hz,h⟩:=Mi.cy h;obtain⟨p,xs,rfl,l1,r1⟩:=RD.lst vw ry;exact⟨p,xs,x,ds,rfl,.inl l1.sq,j6 K (RD.full vw rx),rj (dL vw.sub r1),hz,h _ H Hv (.refl vw) fq⟩
 |tup ds=>
  obtain⟨hz,h⟩:=Mi.cy h;obtain⟨p,xs,rfl,l1,_,r1⟩:=RD.tup vw ry;exact⟨p,xs,x,ds,rfl,.inr (.inl (.inl l1)),j6 K (RD.full vw rx),rj (dL vw.sub r1),hz,h _ H Hv (.refl vw) fq⟩
 |_=>exact h.elim
theorem Jy{α:Type}(xs:List α)(i:Int):Mi.cU xs i=L2.cU xs i:=rfl
theorem zY{α β:Type}{F:α->β->Prop}{l:List α}{m:List β}(h:P2 F l m){i:Int}{a:α}(e:Mi.cU l i=ab a):∃b,L2.cU m i=ab b/\F a b:=by
 unfold Mi.cU at e;cases hj:Mi.dB l.length i with
 |none=>rw[hj]at e;cases e
 |some j=>
  rw[hj]at e;have e:l[j]? = ab a:=e;obtain⟨b,hb,r⟩:=h.getL e;refine⟨b,?_,r⟩;rw[<- Jy];unfold Mi.cU;rw[<- h.len,hj];exact hb
theorem cK:B2 qV (v4 K) Mi.aG:=λx y v u H Hv Q vw rx ry h=>by
 cases y with
 |int i=>
  cases RD.int ry;cases x with
  |lst ds=>
   obtain⟨d,e,h⟩:=gR h;obtain⟨p,xs,rfl,l1,r1⟩:=RD.lst vw rx;obtain⟨z,ez,rz⟩:=zY r1 e;exact .inl ⟨p,xs,i,z,rfl,rfl,l1.sq,ez,h z H Hv (.refl vw) rz⟩
  |tup ds=>
   obtain⟨d,e,h⟩:=gR h;obtain⟨p,xs,rfl,l1,_,r1⟩:=RD.tup vw rx;obtain⟨z,ez,rz⟩:=zY r1 e;exact .inr (.inl ⟨p,xs,i,z,rfl,rfl,.inl (.inl l1),ez,h z H Hv (.refl vw) rz⟩)
  |str z=>
   cases RD.str rx;obtain⟨hz,h⟩:=Mi.cy h;obtain⟨c,e,h⟩:=gR (ao.mp h);exact .inr (.inr ⟨z,i,c,rfl,rfl,by rw[dh];exact hz,e,h _ H Hv (.refl vw) qg⟩)
  |_=>exact h.elim
 |_=>cases x<;>exact h.elim
theorem JA{F:D->V->Prop}{l:List D}{m:List V}(h:P2 F l m)(lo hi:Option Int):P2 F (Mi.iu l lo hi) (L2.n5 m lo hi):=by unfold Mi.iu L2.n5;rw[h.len];exact(h.drop _).take _
def Dv(K:aB):V->Option Int->Option Int->Hp->VK->Prop:=λx lo hi H Q=>C6 K x lo hi H Q\/CJ x lo hi H Q
theorem nN:kG X (Dv X.K):=FZ.or F6
theorem Ki(z:Str)(lo hi:Option Int):mQ z lo hi=Mi.kY z lo hi:=by
 unfold mQ Mi.kY Mi.iu;have:z.cps.toList.length=z.length:=by simp[mK]
 rw[this];rfl
theorem mR:BS qV (Dv K) Mi.gA:=λx lo hi v H Hv Q vw rx h=>by
 cases x with
 |lst ds=>
  obtain⟨p,xs,rfl,l1,r1⟩:=RD.lst vw rx;refine .inl ⟨p,xs,rfl,l1.sq,λa ha=>?_⟩;obtain⟨g,k⟩:=Dz vw (JA r1 lo hi) ha;exact h _ _ _ g k
 |str z=>
  cases RD.str rx;obtain⟨hz,h⟩:=Mi.cy h;exact .inr ⟨z,rfl,by rw[dh];exact hz,h _ H Hv (.refl vw) (by rw[Ki];exact qg)⟩
 |_=>exact h.elim
theorem k8{F:D->V->Prop}{d:D}{vs:List V}(h:P2 F [d] vs):∃v,vs=[v]/\F d v:=by
 cases h with
 |cons r t=>cases t;exact⟨_,rfl,r⟩
theorem CO{F:D->V->Prop}{d e:D}{vs:List V}(h:P2 F [d,e] vs):∃v u,vs=[v,u]/\F d v/\F e u:=by
 cases h with
 | cons r t=>cases t with
  |cons r' t=>cases t;exact⟨_,_,rfl,r,r'⟩
def Ag(K:aB):List V->Hp->VK->Prop:=λxs H Q=>∃x n,xs=[x]/\zq K x H n/\Q (.int n) H
theorem kf:fo X (.builtin "len") (Ag X.K):=FV
theorem eG:BN qV (Ag K) Mi.da:=λds vs H Hv Q vw r h=>by
 match ds,r,h with
 |[.lst ds],r,h=>
  obtain⟨v,ev,rr⟩:=k8 r;subst ev;replace r:=rr;obtain⟨p,xs,rfl,l1,r1⟩:=RD.lst vw r;refine⟨_,xs.length,rfl,.inl ⟨xs,l1.sq,rfl⟩,?_⟩;rw[<- r1.len];exact h _ H Hv (.refl vw) f6
 |[.tup ds],r,h=>
  obtain⟨v,ev,rr⟩:=k8 r;subst ev;replace r:=rr;obtain⟨p,xs,rfl,l1,_,r1⟩:=RD.tup vw r;refine⟨_,xs.length,rfl,.inr ⟨xs,.inl (.inl l1),rfl⟩,?_⟩;rw[<- r1.len];exact h _ H Hv (.refl vw) f6
 |[.str z],r,h=>
  obtain⟨v,ev,rr⟩:=k8 r;subst ev;replace r:=rr;cases RD.str r;obtain⟨hz,h⟩:=Mi.cy h;exact⟨_,z.length,rfl,⟨by rw[dh];exact hz,rfl⟩,h _ H Hv (.refl vw) f6⟩
def AJ:List V->Hp->VK->Prop:=λxs H Q=>∃i j z,xs=[.int i,.int j]/\max i j=z/\Q (.int z) H
def AH:List V->Hp->VK->Prop:=λxs H Q=>∃i j z,xs=[.int i,.int j]/\min i j=z/\Q (.int z) H
theorem Bu(hc:X.calm=true):fo X (.builtin "max") AJ:=HX hc
theorem F1(hc:X.calm=true):fo X (.builtin "min") AH:=Fx hc
theorem pN:BN qV AJ Mi.gY:=λds vs H Hv Q vw r h=>by
 match ds,r,h with
 |[.int i,.int j],r,h=>
  obtain⟨v,u,ev,rr,r'⟩:=CO r;subst ev;replace r:=rr;cases RD.int r;cases RD.int r';exact⟨i,j,_,rfl,rfl,h _ H Hv (.refl vw) f6⟩
theorem uG:BN qV AH Mi.lc:=λds vs H Hv Q vw r h=>by
 match ds,r,h with
 |[.int i,.int j],r,h=>
  obtain⟨v,u,ev,rr,r'⟩:=CO r;subst ev;replace r:=rr;cases RD.int r;cases RD.int r';exact⟨i,j,_,rfl,rfl,h _ H Hv (.refl vw) f6⟩
def yF(K:aB):List V->Hp->VK->Prop:=λxs H Q=>∃p ys,xs=[.ref p]/\(cI K H p ys\/eM K H p ys)/\∀l,H l=ae->Q (.ref l) (upd H l (.lst ys))
theorem FO:fo X (.type "list") (yF X.K):=Ks
theorem nG:BN qN (yF K) Mi.AX:=λds vs H Hv Q vw r h=>by
 match ds,r,h with
 |[.lst ds],r,h=>
  obtain⟨v,ev,rr⟩:=k8 r;subst ev;replace r:=rr;obtain⟨p,xs,rfl,l1,r1⟩:=RD.lst vw r;refine⟨p,xs,rfl,.inl l1.sq,λa ha=>?_⟩;obtain⟨g,k⟩:=uT vw r1 ha;exact h _ _ _ g k
 |[.tup ds],r,h=>
  obtain⟨v,ev,rr⟩:=k8 r;subst ev;replace r:=rr;obtain⟨p,xs,rfl,l1,_,r1⟩:=RD.tup vw r;refine⟨p,xs,rfl,.inr (.inl (.inl l1)),λa ha=>?_⟩;obtain⟨g,k⟩:=uT vw r1 ha;exact h _ _ _ g k
def Dk(K:aB):List V->Hp->VK->Prop:=λxs H Q=>∃p ys,xs=[.ref p]/\((cI K H p ys/\∀l,H l=ae->Q (.ref l) (upd H l (.tup ys)))\/(eM K H p ys/\Q (.ref p) H))
theorem zE:fo X (.type "tuple") (Dk X.K):=K4
theorem m7:BN qV (Dk K) Mi.u6:=λds vs H Hv Q vw r h=>by
 match ds,r,h with
 |[.lst ds],r,h=>
  obtain⟨v,ev,rr⟩:=k8 r;subst ev;replace r:=rr;obtain⟨p,xs,rfl,l1,r1⟩:=RD.lst vw r;refine⟨p,xs,rfl,.inl ⟨l1.sq,λa ha=>?_⟩⟩;obtain⟨g,k⟩:=wg vw r1 ha;exact h _ _ _ g k
 |[.tup ds],r,h=>
  obtain⟨v,ev,rr⟩:=k8 r;subst ev;replace r:=rr;obtain⟨p,xs,rfl,l1,l2,r1⟩:=RD.tup vw r;exact⟨p,xs,rfl,.inr ⟨.inl (.inl l1),h _ H Hv (.refl vw) (jc.mpr ⟨p,xs,rfl,l2,r1⟩)⟩⟩
end
section
variable{X:Cx}{af:List (ah×Obj)}{σ:L2.St}{H:Hp}{s:ak}
open SeqAt in
theorem GH:∀{d e:D} {A:br} {x y:V} {u u':ag},d.flat=true->e.flat=true->L2.Rep X.K H d x->L2.Rep X.K H e y->RelV x u->RelV y u'->RcAt A s u u' (Mi.bh d e)/\RcNeAt A s u u' (!Mi.bh d e):=by
 intro d e A x y u u' h1 h2 r1 r2 q1 q2;cases d with
 |non=>
  rw[L2.Rep]at r1;subst r1;cases q1;cases e with
  |non=>rw[L2.Rep]at r2;subst r2;cases q2;exact⟨RcAt.none_none,RcNeAt.none_none⟩
  |bl b=>rw[L2.Rep]at r2;subst r2;cases q2;exact⟨RcAt.none_bool b,RcNeAt.none_bool b⟩
  |int b=>rw[L2.Rep]at r2;subst r2;obtain⟨t,rfl⟩:=q2;exact⟨RcAt.none_int b t,RcNeAt.none_int b t⟩
  |str b=>rw[L2.Rep]at r2;subst r2;obtain⟨t,rfl⟩:=q2;exact⟨RcAt.none_str b t,RcNeAt.none_str b t⟩
  |_=>cases h2
 |bl a=>
  rw[L2.Rep]at r1;subst r1;cases q1;cases e with
  |non=>rw[L2.Rep]at r2;subst r2;cases q2;exact⟨RcAt.bool_none a,RcNeAt.bool_none a⟩
  |bl b=>rw[L2.Rep]at r2;subst r2;cases q2;rw[Mi.bh];exact⟨RcAt.bool_bool a b,RcNeAt.bool_bool a b⟩
  |int b=>rw[L2.Rep]at r2;subst r2;obtain⟨t,rfl⟩:=q2;rw[Mi.bh];exact⟨RcAt.bool_int a b t,RcNeAt.bool_int a b t⟩
  |str b=>rw[L2.Rep]at r2;subst r2;obtain⟨t,rfl⟩:=q2;exact⟨RcAt.bool_str a b t,RcNeAt.bool_str a b t⟩
  |_=>cases h2
 |int a=>
  rw[L2.Rep]at r1;subst r1;obtain⟨t1,rfl⟩:=q1;cases e with
  |non=>rw[L2.Rep]at r2;subst r2;cases q2;exact⟨RcAt.int_none a t1,RcNeAt.int_none a t1⟩
  |bl b=>rw[L2.Rep]at r2;subst r2;cases q2;rw[Mi.bh];exact⟨RcAt.int_bool a t1 b,RcNeAt.int_bool a t1 b⟩
  |int b=>rw[L2.Rep]at r2;subst r2;obtain⟨t,rfl⟩:=q2;rw[Mi.bh];exact⟨RcAt.int_int a t1 b t,RcNeAt.int_int a t1 b t⟩
  |str b=>rw[L2.Rep]at r2;subst r2;obtain⟨t,rfl⟩:=q2;exact⟨RcAt.int_str a t1 b t,RcNeAt.int_str a t1 b t⟩
  |_=>cases h2
 |str a=>
  rw[L2.Rep]at r1;subst r1;obtain⟨t1,rfl⟩:=q1;cases e with
  |non=>rw[L2.Rep]at r2;subst r2;cases q2;exact⟨RcAt.str_none a t1,RcNeAt.str_none a t1⟩
  |bl b=>rw[L2.Rep]at r2;subst r2;cases q2;exact⟨RcAt.str_bool a t1 b,RcNeAt.str_bool a t1 b⟩
  |int b=>rw[L2.Rep]at r2;subst r2;obtain⟨t,rfl⟩:=q2;exact⟨RcAt.str_int a t1 b t,RcNeAt.str_int a t1 b t⟩
  |str b=>rw[L2.Rep]at r2;subst r2;obtain⟨t,rfl⟩:=q2;rw[Mi.bh];exact⟨RcAt.str_str a t1 b t,RcNeAt.str_str a t1 b t⟩
  |_=>cases h2
 |_=>cases h1
open SeqAt in
theorem Ad(I:Inv X af σ H s):∀(d e:D) (A:br) {x y:V} {u u':ag},d.dep<=16->A.units+17<cLine->L2.Rep X.K H d x->L2.Rep X.K H e y->RelV x u->RelV y u'->RcAt A s u u' (Mi.bh d e)/\RcNeAt A s u u' (!Mi.bh d e):=by
 intro d e A x y u u' hd hu h h' r r';have hu0:A.units<cLine:=by omega
 have item:∀{ds es:List D} {xs ys:List V} {ai its':List ag},Mi.cS ds<=16->L2.aV X.K H ds xs->L2.aV X.K H es ys->Vals xs ai->Vals ys its' ->
  ∀j (h1:j<ai.toArray.size) (h2:j<its'.toArray.size),EqAt A.in1 s ai.toArray[j] its'.toArray[j] (Mi.bh (ds.getD j .non) (es.getD j .non)):=by
  intro ds es xs ys ai its' hn q q' v v' j h1 h2;have h1':j<ai.length:=by simpa using h1
  have h2':j<its'.length:=by simpa using h2
  have e1:j<xs.length:=by rw[v.length];exact h1'
  have e2:j<ys.length:=by rw[v'.length];exact h2'
  have g1:xs[j]? = ab xs[j]:=by simp[e1]
  have g2:ys[j]? = ab ys[j]:=by simp[e2]
  obtain⟨w1,k1,r1⟩:=v.get g1;obtain⟨w2,k2,r2⟩:=v'.get g2;have t1:ai.toArray[j]=w1:=by obtain⟨_,k1⟩:=cV.mp k1;simpa using k1
  have t2:its'.toArray[j]=w2:=by obtain⟨_,k2⟩:=cV.mp k2;simpa using k2
  rw[t1,t2];have:=uQ (ds:=ds) (j:=j);refine Az I 16 _ _ A.in1 (by omega) ?_ (q.get g1) (q'.get g2) r1 r2;show A.units+1+16<cLine;omega
 by_cases hdf:d.flat=true
 ·by_cases hef:e.flat=true
  ·exact GH hdf hef h h' r r'
  ·cases e with
   |lst es=>
    rw[L2.Rep]at h';obtain⟨a,xs,rfl,q,_⟩:=h';cases r';obtain⟨ai,_,p,_⟩:=I.list q;cases d with
    |non=>rw[L2.Rep]at h;subst h;cases r;exact⟨RcAt.none_list p.isList hu0,RcNeAt.none_list p.isList hu0⟩
    |bl b=>rw[L2.Rep]at h;subst h;cases r;exact⟨RcAt.bool_list b p.isList hu0,RcNeAt.bool_list b p.isList hu0⟩
    |int b=>rw[L2.Rep]at h;subst h;obtain⟨t,rfl⟩:=r;exact⟨RcAt.int_list b t p.isList hu0,RcNeAt.int_list b t p.isList hu0⟩
    |str b=>rw[L2.Rep]at h;subst h;obtain⟨t,rfl⟩:=r;exact⟨RcAt.str_list b t p.isList hu0,RcNeAt.str_list b t p.isList hu0⟩
    |_=>cases hdf
   |tup es=>
    rw[L2.Rep]at h';obtain⟨a,xs,rfl,q,_⟩:=h';cases r';obtain⟨ai,_,p,_⟩:=I.tuple q;cases d with
    |non=>rw[L2.Rep]at h;subst h;cases r;exact⟨RcAt.none_tuple p hu0,RcNeAt.none_tuple p hu0⟩
    |bl b=>rw[L2.Rep]at h;subst h;cases r;exact⟨RcAt.bool_tuple b p hu0,RcNeAt.bool_tuple b p hu0⟩
    |int b=>rw[L2.Rep]at h;subst h;obtain⟨t,rfl⟩:=r;exact⟨RcAt.int_tuple b t p hu0,RcNeAt.int_tuple b t p hu0⟩
    |str b=>rw[L2.Rep]at h;subst h;obtain⟨t,rfl⟩:=r;exact⟨RcAt.str_tuple b t p hu0,RcNeAt.str_tuple b t p hu0⟩
    |_=>cases hdf
   |_=>exact absurd rfl hef
 ·cases d with
  |lst ds=>
   rw[L2.Rep]at h;obtain⟨a,xs,rfl,q,rr⟩:=h;cases r;obtain⟨ai,v,p,_⟩:=I.list q;have hn:Mi.cS ds<=16:=by rw[Mi.D.dep]at hd;omega
   cases e with
   |non=>rw[L2.Rep]at h';subst h';cases r';exact⟨RcAt.list_none p.isList hu0,RcNeAt.list_none p.isList hu0⟩
   |bl b=>rw[L2.Rep]at h';subst h';cases r';exact⟨RcAt.list_bool b p.isList hu0,RcNeAt.list_bool b p.isList hu0⟩
   |int b=>rw[L2.Rep]at h';subst h';obtain⟨t,rfl⟩:=r';exact⟨RcAt.list_int b t p.isList hu0,RcNeAt.list_int b t p.isList hu0⟩
   |str b=>rw[L2.Rep]at h';subst h';obtain⟨t,rfl⟩:=r';exact⟨RcAt.list_str b t p.isList hu0,RcNeAt.list_str b t p.isList hu0⟩
   |lst es=>
    rw[L2.Rep]at h';obtain⟨b,ys,rfl,q',rr'⟩:=h';cases r';obtain⟨its',v',p',_⟩:=I.list q';have l1:=rr.length;have l2:=rr'.length;have l3:=v.length;have l4:=v'.length;by_cases hl:ds.length=es.length
    ·rw[Mi.bh,oZ hl];have e1:ai.toArray.size=ds.length:=by simp;omega
     have k1:=RcAt.lists p.isList p'.isList (by simp;omega) hu0 (item hn rr rr' v v');have k2:=RcNeAt.lists p.isList p'.isList (by simp;omega) hu0 (item hn rr rr' v v');rw[e1]at k1 k2;exact⟨k1,k2⟩
    ·rw[Mi.bh,oF hl];exact⟨RcAt.lists_lengths p.isList p'.isList (by simp;omega) hu0,RcNeAt.lists_lengths p.isList p'.isList (by simp;omega) hu0⟩
   |tup es=>
    rw[L2.Rep]at h';obtain⟨b,ys,rfl,q',_⟩:=h';cases r';obtain⟨its',_,p',_⟩:=I.tuple q';exact⟨RcAt.list_tuple p.isList p' hu0,RcNeAt.list_tuple p.isList p' hu0⟩
  |tup ds=>
   rw[L2.Rep]at h;obtain⟨a,xs,rfl,q,rr⟩:=h;cases r;obtain⟨ai,v,p,_⟩:=I.tuple q;have hn:Mi.cS ds<=16:=by rw[Mi.D.dep]at hd;omega
   cases e with
   |non=>rw[L2.Rep]at h';subst h';cases r';exact⟨RcAt.tuple_none p hu0,RcNeAt.tuple_none p hu0⟩
   |bl b=>rw[L2.Rep]at h';subst h';cases r';exact⟨RcAt.tuple_bool b p hu0,RcNeAt.tuple_bool b p hu0⟩
   |int b=>rw[L2.Rep]at h';subst h';obtain⟨t,rfl⟩:=r';exact⟨RcAt.tuple_int b t p hu0,RcNeAt.tuple_int b t p hu0⟩
   |str b=>rw[L2.Rep]at h';subst h';obtain⟨t,rfl⟩:=r';exact⟨RcAt.tuple_str b t p hu0,RcNeAt.tuple_str b t p hu0⟩
   |tup es=>
    rw[L2.Rep]at h';obtain⟨b,ys,rfl,q',rr'⟩:=h';cases r';obtain⟨its',v',p',_⟩:=I.tuple q';have l1:=rr.length;have l2:=rr'.length;have l3:=v.length;have l4:=v'.length;have k1:=RcAt.tuples p p' hu0 (item hn rr rr' v v');have k2:=RcNeAt.tuples p p' hu0 (item hn rr rr' v v');have e1:ai.toArray.size=ds.length:=by simp;omega
    have e2:its'.toArray.size=es.length:=by simp;omega
    rw[e1,e2]at k1 k2;by_cases hl:ds.length=es.length
    ·rw[Mi.bh,oZ hl];rw[hl,Nat.min_self,jR,Bool.and_true,<- hl]at k1 k2;exact⟨k1,k2⟩
    ·rw[Mi.bh,oF hl];have:(ds.length==es.length)=false:=by simpa using hl
     rw[this,tY]at k1 k2;exact⟨k1,k2⟩
   |lst es=>
    rw[L2.Rep]at h';obtain⟨b,ys,rfl,q',_⟩:=h';cases r';obtain⟨its',_,p',_⟩:=I.list q';exact⟨RcAt.tuple_list p p'.isList hu0,RcNeAt.tuple_list p p'.isList hu0⟩
  |_=>exact absurd rfl hdf
theorem nL(hu:X.A.units+64<cLine):cm X (compareOp .Eq) (se X.K false):=by intro af s σ H x y v u Q I rx ry h;obtain⟨d,e,r1,r2,hz,q⟩:=h;exact(Ad I d e X.A hz (by omega) r1 r2 rx ry).1 _ _ _ _ ⟨.bl _,H,I,rfl,q⟩
theorem oK(hu:X.A.units+64<cLine):cm X (compareOp .NotEq) (se X.K true):=by intro af s σ H x y v u Q I rx ry h;obtain⟨d,e,r1,r2,hz,q⟩:=h;exact(Ad I d e X.A hz (by omega) r1 r2 rx ry).2 _ _ _ _ ⟨.bl _,H,I,rfl,q⟩
end
section
variable{X:Cx}{K:aB}{M:Nat->Bool}{κ:Kd}{ta tb te:TE}{a b:Mi.E}
theorem A3{H Hv:Hp}(vw:Vw H Hv){d:D}{v:V}(r:RD H Hv d v):fK K H v (.type (Mi.vH d)):=by
 cases d with
 |non=>cases RD.non r;exact .non
 |bl b=>cases RD.bl r;exact .bl b
 |int b=>cases RD.int r;exact .int b
 |str b=>cases RD.str r;exact .str b
 |lst ds=>
  obtain⟨p,xs,rfl,l,_⟩:=RD.lst vw r;rcases l with l|⟨o,l⟩
  ·exact .lst l
  ·exact .frz l
 |tup ds=>
  obtain⟨p,xs,rfl,l,_⟩:=RD.tup vw r;exact .tup l
def iI(K:aB)(T:String):Prop:=∀d:D,w6 K (.type (Mi.vH d)) (.type T)=ab (Mi.nB T d)
theorem kP{T:String}(hT:iI K T)(ha:AE M qP ta a):AE M qV (oH (yN K) (fw ta (fw (tC (.ty T)) gn))) (Mi.m1 (Mi.cT [T]) a):=λe σ H Hv Q I h=>
 ha e σ H Hv _ I ((ao.mp h).mono λx hx v H1 Hv1 g1 rx=>⟨v,_,T,_,rfl,A3 g1.vw rx,hT x,(Mi.j1 hx) _ H1 Hv1 g1 (by
  have:([T].any λt=>Mi.nB t x)=Mi.nB T x:=by simp
  rw[this];exact fq)⟩)
theorem ty_bool(K:aB):iI K "bool" := λd=>by cases d<;>rfl
theorem ty_int(K:aB):iI K "int" := λd=>by cases d<;>rfl
theorem ty_str(K:aB):iI K "str" := λd=>by cases d<;>rfl
theorem ty_list(K:aB):iI K "list" := λd=>by cases d<;>rfl
theorem ty_tuple(K:aB):iI K "tuple" := λd=>by cases d<;>rfl
end
def Mo(l:List Nat):Nat->Bool:=λi=>l.contains i
theorem Bm{M:Nat->Bool}{N:List Str}{k:Nat}{ws:List W}{vs:List V}{H Hv:Hp}(vw:Vw H Hv)(p:P2 (gD Hv) ws vs)(hk:ws.length=k)(hM:∀i,i<k->M i=false) :
 R1 M H Hv (ws.map ab++dE (N.length-ws.length) ae) (start N vs) H Hv:=by
 have get:∀{i:Nat} {w:W},(ws.map ab++dE (N.length-ws.length) ae)[i]? = ab (ab w)->ws[i]? = ab w/\i<k:=λ{i w} h=>by
  by_cases hi:i<ws.length
  ·rw[mn (by simpa using hi),dw]at h;cases e:ws[i]? with
   |none=>rw[e]at h;cases h
   |some a=>rw[e]at h;cases h;exact⟨rfl,by omega⟩
  ·rw[kg (by simpa using hi),DV]at h;split at h<;>cases h
 have no:∀{i:Nat} {w:W},(ws.map ab++dE (N.length-ws.length) ae)[i]? = ab (ab w)->M i=true->False:=λ{i w} h m=>by
  rw[hM i (get h).2]at m;cases m
 refine⟨⟨vw,?_,λi w h m=>?_,λi w h m=>(no h m).elim⟩,.refl vw,λi w a h m=>(no h m).elim,λi j w w' a b _ h _ m=>(no h m).elim⟩
 ·unfold L2.start;rw[bB,bB,aS,aS,xf,xf,p.len]
 ·obtain⟨hw,hi⟩:=get h;obtain⟨v,hv,r⟩:=p.getL hw;refine⟨v,?_,r⟩;unfold L2.start;rw[mn (by rw[aS,<- p.len];omega),dw,hv];rfl
theorem yL{f:Mi.S}{k n:Nat}{vs:List V}{H:Hp}{Q:VK}{E:XK}(h:ck (Mi.eP k n f) vs H Q E):vs.length=k:=by obtain⟨Hv,ws,_,p,q⟩:=h;rw[<- p.len];exact(Mi.cy q).1
theorem AU{f:Mi.S}{k n:Nat}{vs:List V}{H:Hp}{Q:VK}{E:XK}(h:de (Mi.gc k n f) vs H Q E):vs.length=k:=by obtain⟨Hv,ws,_,p,q⟩:=h;rw[<- p.len];exact(Mi.cy q).1
theorem Co{N:List Str}{M:Nat->Bool}{k:Nat}{t:TS}{m:Mi.S}(hA:AS M qV t m)(hM:∀i,i<k->M i=false){vs:List V}{H:Hp}{Q:VK}{E:XK}(h:ck (Mi.eP k N.length m) vs H Q E) :
 t { nx:=λ_ H'=>Q .non H',rt:=Q } (start N vs) H:=by
 obtain⟨Hv,ws,vw,p,q⟩:=h;obtain⟨hk,q⟩:=Mi.cy q;refine hA H Hv _ _ H Hv _ (Bm vw p hk hM) ((ao.mp q).mono λo ho=>?_);cases o with
 |nx e=>exactλσ H' Hv' I s=>ho _ H' Hv' I.gw Jz
 |rt w=>exactλv H' Hv' g r=>ho v H' Hv' g r
 |bk e=>exact ho.elim
 |ct e=>exact ho.elim
theorem runN{N:List Str}{M:Nat->Bool}{k:Nat}{t:TS}{m:Mi.S}(hA:AS M qN t m)(hM:∀i,i<k->M i=false){vs:List V}{H:Hp}{Q:VK}{E:XK}(h:de (Mi.gc k N.length m) vs H Q E) :
 t { nx:=λ_ H'=>Q .non H',rt:=Q } (start N vs) H:=by
 obtain⟨Hv,ws,vw,p,q⟩:=h;obtain⟨hk,q⟩:=Mi.cy q;refine hA H Hv _ _ H Hv _ (Bm vw p hk hM) ((ao.mp q).mono λo ho=>?_);cases o with
 |rt w=>exactλv H' Hv' g r=>ho v H' Hv' g r
 |nx e=>exact ho.elim
 |bk e=>exact ho.elim
 |ct e=>exact ho.elim
theorem zC{P:bb}{w:aT}{K:aB}{mg:Str->Option ag}{base:aI}{CX:eY}{k:Nat}{f:ah}{fd:bS}{ps:List Str}:bt P w K mg base CX k f fd ps (ck Mi.v0):=⟨λvs H Q E h=>by obtain⟨_,_,_,_,q⟩:=h;exact q.elim,λA outer s H args us vs Q E _ _ _ _ h=>by obtain⟨_,_,_,_,q⟩:=h;exact q.elim⟩
def rM:Sp:=λvs H Q _=>∃(a:ah) (ns:List Int),vs=[.ref a]/\Lst H a (ns.map V.int)/\ns.length<=63/\jt H/\∀H',Q (.bl true) H'
theorem ints_rep(H:Hp):∀ns:List Int,P2 (Rep H) (ns.map D.int) (ns.map V.int)
 |[]=>.nil
 |n::r=>.cons (nD.mpr rfl) (ints_rep H r)
theorem GQ{P:bb}{w:aT}{K:aB}{mg:Str->Option ag}{base:aI}{CX:eY}{k:Nat}{f:ah}{fd:bS}{ps:List Str}{m:Mi.Fn}(F:bt P w K mg base CX k f fd ps (ck m))
 (h:∀ns:List Int,ns.length<=63->m [.d (.lst (ns.map D.int))]=.ok (.d (.bl true))):bt P w K mg base CX k f fd ps rM:=
 F.imp λvs H Q E ⟨a,ns,e,l,hl,k,q⟩=>by
  subst e;have l':Lst (lU H) a (ns.map V.int):=by
   rcases l with l|⟨o,l⟩
   ·exact .inl (sL l trivial)
   ·exact .inr ⟨o,sL l trivial⟩
  refine⟨lU H,[.d (.lst (ns.map D.int))],.all k,.cons (iW.mpr ⟨a,_,rfl,l',ints_rep _ ns⟩) .nil,?_⟩;rw[h ns hl];intro v H' Hv' g r;cases(rg (H:=Hv')).mp r;exact q H'
def pF(K:aB)(a:ah):It:=⟨λi H=>∃xs x,cI K H a xs/\xs[i]? = ab x,λi H v H'=>∃p x,(∀xs,cI K H a xs->xs[i]? = ab x)/\H p=ae/\v=.ref p/\H'=upd H p (.tup [.int i,x]),λi H=>∃xs,cI K H a xs/\xs.length=i⟩
theorem zp{X:Cx}{af:List (ah×Obj)}{σ:L2.St}{H:Hp}{s:ak}{fp:List ah}{T:ah}{o:HO}{h':aI}{t':Nat}(I:Inv X af σ H s)(hf:∀b∈fp,gZ X af H b)
 (k:∀b u,b∉fp->s.heap.get? b=ab u->h'.get? b=ab u) (hT:s.heap.objs.size<=T) (new:bP X.prog X.w (upd H T o) h' T o):Inv X af σ (upd H T o) { s with heap:=h',toks:=t' }:=by
 have hn:H T=ae:=I.hok.fresh hT;have nfp:∀b u,H b=ab u->b∉fp:=λb u e z=>by rw[(hf b z).1]at e;cases e
 refine I.call' (s':={ s with heap:=h',toks:=t' }) (ch:=fp) rfl ⟨λb u e _ _ hb=>k b u hb e,λb u e _ _ hb=>⟨u.slots,k b u hb e⟩,λb u e hb _=>?_,λb u e hb=>⟨u,k b u hb e⟩,λb xs e=>?_,λb q u e=>?_,λb w ps e=>⟨#[],?_⟩⟩ ?_ I.bare
  λb hb=>⟨(hf b hb).2.2.2.1,(hf b hb).2.1,(hf b hb).2.2.2.2.1,(hf b hb).2.2.2.2.2⟩
 ·have:b≠T:=gs (fR (bH e) hT);rw[aQ this];exact hb
 ·rw[aQ (cQ e hn)];exact e
 ·rw[aQ (cQ e hn)];exact e
 ·rw[aQ (cQ e hn),e];simp
 ·intro b u e;by_cases hb:b=T
  ·subst hb;rw[cg]at e;cases e;exact new
  ·rw[aQ hb]at e;refine(I.hok b u e).stay (λc v hc q=>k c v ?_ q) (λc q=>by rw[aQ (cQ q hn)];exact q) λc xs q=>by rw[aQ (cQ q hn)];exact q
   rcases hc with z|z
   ·rw[z];exact nfp b u e
   ·exact nfp c _ z
theorem BF{X:Cx}{af:List (ah×Obj)}{σ:L2.St}{H:Hp}{s:ak}{fp:List ah}{h':aI}{t':Nat}(I:Inv X af σ H s)(hf:∀b∈fp,gZ X af H b)
 (k:∀b u,b∉fp->s.heap.get? b=ab u->h'.get? b=ab u):Inv X af σ H { s with heap:=h',toks:=t' }:=by
 have nfp:∀b u,H b=ab u->b∉fp:=λb u e z=>by rw[(hf b z).1]at e;cases e
 refine I.call' (s':={ s with heap:=h',toks:=t' }) (ch:=fp) rfl ⟨λb u e _ _ hb=>k b u hb e,λb u e _ _ hb=>⟨u.slots,k b u hb e⟩,λb u e hb _=>hb,λb u e hb=>⟨u,k b u hb e⟩,λb xs e=>e,λb q u e=>e,λb w ps e=>⟨#[],by rw[e];simp⟩⟩ ?_ I.bare
  λb hb=>⟨(hf b hb).2.2.2.1,(hf b hb).2.1,(hf b hb).2.2.2.2.1,(hf b hb).2.2.2.2.2⟩
 intro b u e;refine(I.hok b u e).stay (λc v hc q=>k c v ?_ q) (λc q=>q) λc xs q=>q;rcases hc with z|z
 ·rw[z];exact nfp b u e
 ·exact nfp c _ z
theorem HI{P:bb}{w:aT}{K:aB}{elts:List aO}{k1:Nat}{pos:Pos}(a e it:ah)(hne:e≠it):Turn P w K (.Tuple elts k1 pos) (pF K a) [e,it] e (λi h=>(∃old,IsEnum h e it i old)/\h.IsListIter it a i) where
 mem:=by simp
 obj:=λi h st b hb=>by
  obtain⟨⟨old,he⟩,o,ho,c,d⟩:=st;rcases bK.mp hb with rfl|hb
  ·exact⟨_,he,λv z=>by cases z⟩
  ·have e1:b=it:=by simpa using hb
   subst e1;exact⟨o,ho,λv z=>by rw[d]at z;cases z⟩
 keep:=λi h h' st kk=>⟨let ⟨old,he⟩:=st.1;⟨old,kk e (by simp) _ he⟩,st.2.at λo q=>kk it (by simp) o q⟩
 item:=by
  intro X hP hw hK hc i af s σ H E I hf st hg;subst hP hw hK;obtain⟨xs,x,hq,hx⟩:=hg;obtain⟨ai,rv,p,hz⟩:=I.list hq;obtain⟨u,hu,ru⟩:=rv.get hx;obtain⟨⟨old,he⟩,hli⟩:=st;have hlt:i<ai.toArray.size:=by rw[bG];exact(cV.mp hu).1
  have hai:a≠it:=by rintro rfl;obtain⟨o,ho,c,_⟩:=hli;obtain⟨o',n,ho',c',_⟩:=p;rw[ho]at ho';cases ho';rw[c]at c';exact absurd (uf c') (by decide)
  have hea:e≠a:=by rintro rfl;obtain⟨o',n,ho',c',_⟩:=p;rw[he]at ho';cases ho';exact absurd (uf c') (by decide)
  refine wpAny_pyNext_enum_itemD (Draws.list (by first|exact I.ok.hd hc|(simp;exact I.ok.hd hc)) it a hai ai.toArray) he ⟨hli,p.isList⟩ hlt hne (by simp[hne,hea]) λy h' tk hy ho hs' hT hsz hk=>?_;have hy:y=u:=by
   have hu':ai.toArray[i]? = ab u:=by simpa using hu
   rw[hu']at hy;exact(fj hy).symm
  subst hy;refine⟨_,rfl,wpAny_letOwnedTupleGo_enum ho λh2 he2 hs2=>?_⟩;have kk:∀b o,b∉[e,it]->s.heap.get? b=ab o->h2.get? b=ab o:=λb o hb q=>by
   simp at hb;exact(hs2.2 b hb.1).trans (hk b o hb.1 hb.2 q)
  have hTn:s.heap.objs.size≠e:=λz=>absurd (bH he) (by rw[z];exact jG _);refine⟨.ref s.heap.objs.size,upd H s.heap.objs.size (.tup [.int i,x]),zp (s:=s) (t':=tk+1) I hf kk (bg _) ?_,rfl,⟨_,x,λys hy=>by rw[I.rJ hy hq];exact hx,I.hok.fresh (bg _),rfl,rfl⟩,⟨⟨_,he2⟩,?_⟩,λb hb=>?_⟩
  ·exact⟨by simp only[ce,mD];rw[dh];decide,[.int i tk,y],.cons ⟨_,rfl⟩ (.cons ru .nil),⟨_,(hs2.2 _ hTn).trans hT,rfl,rfl,_,rfl⟩⟩
  ·exact hs'.1.at λo q=>(hs2.2 it (dS hne)).trans q
  ·have:b≠s.heap.objs.size:=λz=>by
    subst z;rcases bK.mp hb with z|z
    ·exact hTn z
    ·have z:s.heap.objs.size=it:=by simpa using z
     obtain⟨o,ho,_⟩:=hli;exact absurd (bH ho) (by rw[<- z];exact jG _)
   rw[aQ this];exact(hf b hb).1
 done:=by
  intro X hP hw hK hc i af s σ H E I hf st hg;subst hP hw hK;obtain⟨xs,hq,hx⟩:=hg;obtain⟨ai,rv,p,hz⟩:=I.list hq;obtain⟨⟨old,he⟩,hli⟩:=st;have hl:=rv.length;have hai:a≠it:=by rintro rfl;obtain⟨o,ho,c,_⟩:=hli;obtain⟨o',n,ho',c',_⟩:=p;rw[ho]at ho';cases ho';rw[c]at c';exact absurd (uf c') (by decide)
  subst hx;have D:=Draws.list (prog:=X.prog) (w:=X.w) (A:=X.A.in1) (by first|exact I.ok.hd hc|(simp;exact I.ok.hd hc)) it a hai ai.toArray;have hn:ai.toArray.size=xs.length:=by simp;omega
  rw[hn]at D;exact wpAny_pyNext_enum_endD D he ⟨hli,p.isList⟩ λh' hx=>⟨rfl,BF (s:=s) (t':=s.toks) I hf λb o hb q=>hx b o (λz=>hb (by simp[z])) q⟩
 self:=λ_ i s Q E st h=>let ⟨⟨old,he⟩,_⟩:=st;wpAny_pyIter_enum he h
section
variable{X:Cx}{elts:List aO}{k1:Nat}{tpos:Pos}
def Bv(K:aB)(tl:TE):TI:=λσ H R=>tl σ H λx H1=>∃a,[x]=[V.ref a]/\(∃xs,cI K H1 a xs)/\R (pF K a) H1
theorem IF{a:aO}{ta:TE}{p pos:Pos}(hg:Gl X "enumerate")(hm:X.mg "enumerate" = ae)(ha:PE X a ta)(hs:starEach [a] X.env=[(false,eval a X.env)]:=by rfl)(hs0:starEach [a] X.env=(false,eval a X.env)::starEach [] X.env:=by rfl) :
 PI X (.Tuple elts k1 tpos) (.Call (.Name "enumerate" p) [a] [] pos) (Bv X.K ta):=by
 intro af s σ H R I h;refine Call_ (nE I hg hm boot_enumerate (t9 (aK (ax ha bc hs0 pos af s σ H (λvs H1=>∃l,vs=[.ref l]/\(∃xs,cI X.K H1 l xs)/\R (pF X.K l) H1) I ?_) λus s1 ⟨vs,H1,I1,r1,q1⟩=>?_) hs rfl))
 ·exact h
 ·obtain⟨l,e,⟨xs,hq⟩,q⟩:=q1;subst e;obtain⟨u,rfl,ru⟩:=vals1 r1;cases ru;obtain⟨ai,rv,pl,hz⟩:=I1.list hq;refine call_enumerate_list pl.isList λh' hE hI hsz hk=>?_;refine wpAny_pyIter_enum hE ?_;have I2:Inv X af σ H1 { s1 with heap:=h' }:=I1.kept (t':=s1.toks) λb o e=>hk b o e;refine⟨_,[s1.heap.objs.size+1,s1.heap.objs.size],_,_,H1,rfl,I2,HI l (s1.heap.objs.size+1) s1.heap.objs.size (tX (Nat.lt_succ_self _)),⟨⟨_,hE⟩,hI⟩,λb hb=>?_,q⟩;have hb:s1.heap.objs.size<=b:=by
   rcases bK.mp hb with z|z
   ·rw[z];exact qI _
   ·have z:b=s1.heap.objs.size:=by simpa using z
    rw[z];exact bg _
  exact I1.iO hb (I1.hok.fresh hb)
theorem Bc:∀{ds:List D} {k i:Nat} {d:D},ds[i]? = ab d->(Mi.gW k ds)[i]? = ab (.tup [.int ((k+i:Nat):Int),d])
 |[],_,_,_,h=>by simp at h
 |d::r,k,0,e,h=>by simp at h;subst h;rfl
 |d::r,k,i+1,e,h=>by
  have:=Bc (ds:=r) (k:=k+1) (i:=i) (d:=e) (by simpa using h);rw[Mi.gW,jA,this];rw[show k+1+i=k+(i+1)by omega]
theorem s0:∀(ds:List D) (k:Nat),(Mi.gW k ds).length=ds.length
 |[],_=>rfl
 |d::r,k=>by rw[Mi.gW,ce,ce,s0 r]
theorem KU{x:D}{k:List D->Prop}(h:Fin (Mi.Ba x) k):∃ds,x=.lst ds/\k ds:=by
 cases x with
 |lst b=>exact⟨b,rfl,h⟩
 |_=>exact h.elim
theorem IA{K:aB}{a:ah}{ds:List D}{P:Hp->Hp->Prop}(ok:∀H Hv,P H Hv->Vw H Hv->∃xs,cI K H a xs/\P2 (Rep Hv) ds xs):nM (pF K a) P (Mi.gW 0 ds):=by
 refine⟨λi H Hv p v hi=>?_,λi H Hv x H' p v hi y=>?_,λH Hv p v=>?_⟩
 ·obtain⟨xs,l,r⟩:=ok H Hv p v;rw[s0]at hi;obtain⟨x,hx,_⟩:=r.getL (i:=i) (a:=ds[i]) (by simp[hi]);exact⟨xs,x,l,hx⟩
 ·obtain⟨xs,l,r⟩:=ok H Hv p v;rw[s0]at hi;obtain⟨q,z,hz,hq,rfl,rfl⟩:=y;obtain⟨x,hx,rx⟩:=r.getL (i:=i) (a:=ds[i]) (by simp[hi]);rw[hz xs l]at hx;cases hx;obtain⟨g,k⟩:=wg v (ds:=[.int i,ds[i]]) (xs:=[.int i,z]) (.cons (nD.mpr rfl) (.cons rx .nil)) hq;refine⟨_,.tup [.int i,ds[i]],g,?_,k⟩;rw[Bc (i:=i) (d:=ds[i]) (by simp[hi])];simp
 ·obtain⟨xs,l,r⟩:=ok H Hv p v;exact⟨xs,l,by rw[s0,r.len]⟩
theorem Ii{M:Nat->Bool}{K:aB}{ta:TE}{a:Mi.E}(ha:AE M qV ta a):gN M (Bv K ta) (Mi.wH a):=λe σ H Hv R I h=>
 ha e σ H Hv _ I ((ao.mp h).mono λx hx v H1 Hv1 g1 rx=>by
  obtain⟨ds,rfl,hk⟩:=KU (ao.mp hx);obtain⟨p,xs,rfl,l,r⟩:=(iW (H:=Hv1)).mp rx;exact⟨p,rfl,⟨xs,(l.same g1.vw.sub).sq⟩,hk (pF K p) H1 Hv1 (λH Hv=>Lst Hv p xs/\P2 (Rep Hv) ds xs) g1 (IA λH Hv z v=>⟨xs,(z.1.same v.sub).sq,z.2⟩) ⟨l,r⟩ λH1 Hv1 H2 Hv2 z s v=>⟨z.1.same s,dL s z.2⟩⟩)
end
section
variable{X:Cx}{K:aB}{M:Nat->Bool}{κ:Kd}{ta tb te tk:TE}{a b k:Mi.E}
theorem rR{Hv:Hp}:∀{ds:List D} {xs:List V} {bs:List Str},Mi.iY ds=ab bs->P2 (Rep Hv) ds xs->xs=bs.map V.str
 |[],_,bs,e,r=>by cases e;cases r;rfl
 |.str b::ds,_,bs,e,r=>by
  cases r with
  |cons x t=>
   cases hb:Mi.iY ds with
   |none=>rw[Mi.iY,hb]at e;cases e
   |some cs=>
    rw[Mi.iY,hb]at e;cases e;rw[rR hb t,lY.mp x];rfl
 |.non::_,_,_,e,_=>by cases e
 |.int _::_,_,_,e,_=>by cases e
 |.bl _::_,_,_,e,_=>by cases e
 |.lst _::_,_,_,e,_=>by cases e
 |.tup _::_,_,_,e,_=>by cases e
theorem DD(ha:AE M qP ta a)(hb:AE M qP tb b):AE M qV (lP K "str" (rJoin K) ta (fw tb gn)) (Mi.m2 Mi.rY a b):=λe σ H Hv Q I h=>by
 obtain⟨x,hx,h⟩:=gE (ao.mp h);obtain⟨y,hy,h⟩:=gE (ao.mp h);cases x with
 | str sep=>cases y with
  |lst ds=>
   obtain⟨ys,hs,h⟩:=gR (ao.mp h);obtain⟨hz,h⟩:=Mi.cy h;refine ha e σ H Hv _ I (by
    rw[hx];intro v H1 Hv1 g1 r1;cases RD.str r1;refine⟨rfl,hb e σ H1 Hv1 _ (I.grow g1) (by
     rw[hy];intro v2 H2 Hv2 g2 r2;obtain⟨p,xs,rfl,l,r⟩:=RD.lst g2.vw r2;have:=rR hs r;subst this;exact⟨sep,p,ys,rfl,rfl,l.sq,hz,(Mi.j1 h) _ H2 Hv2 (g1.trans g2) qg⟩)⟩)
  |_=>exact h.elim
 |_=>cases y<;>exact h.elim
def Bp:V->List V->Hp->VK->Prop:=λx vs H Q=>∃l b xs zs,x=.ref l/\vs=[.ref b]/\H l=ab (.lst xs)/\Lst H b zs/\xs.length+zs.length<=sizeLine/\Q .non (upd H l (.lst (xs++zs)))
theorem F5:pB X "list.extend" Bp:=by
 intro af s σ H x vs v us Q I rx rv h;obtain⟨l,b,xs,zs,rfl,rfl,hH,hB,hz,q⟩:=h;cases rx;obtain⟨u,rfl,ru⟩:=rv.one;cases ru;obtain⟨z,ai,n,r,hl,e⟩:=I.pQ hH;obtain⟨its2,n2,r2,z2,e2⟩:=l0 I hB;have hl2:=r2.length;have hsz:ai.toArray.size+its2.toArray.size<=sizeLine:=by rw[bG,bG];omega
 have uk:¬ (!ai.toArray.isEmpty&&xQ (ai.toArray.size+its2.toArray.size))=true:=by rw[JS hsz,tY];exact cW
 refine oo F.slot_list_extend ⟨_,e,rfl⟩ F.entry_list_extend (F.args_list_extend_2 _ _)
  (AutoSeq1.list_extend_list_list_0 l ai.toArray n b its2.toArray n2 uk (by rw[bG];omega) (by omega)) ⟨e,e2,?_⟩
 refine⟨.non,_,I.pD (its':=ai++its2) hH e (by simp) (r.append r2) ?_,rfl,q⟩;rw[bB];omega
theorem IS(i:Nat)(hm:M i=true)(ha:AE M qV te a):AS M κ (iX (lP K "list" Bp (cZ i) (fw te gn))) (Mi.sB i a):=λH0 Hv0 e σ H Hv D I h=>by
 obtain⟨d,hd,h⟩:=gE (ao.mp h);obtain⟨ds,he,h⟩:=l7 (ao.mp h);cases d with
 |lst es=>
  obtain⟨hz,h⟩:=Mi.cy h;obtain⟨p,xs,q,q1,n,c⟩:=I.list hm he;refine⟨.ref p,q,.inl ⟨rfl,xs,.inl (.inl q1)⟩,ha e σ H Hv _ I.toR0 (by
   rw[hd];intro v H1 Hv1 g1 r;have I1:=I.grow g1;obtain⟨b,ys,rfl,l,r⟩:=(iW (H:=Hv1)).mp r;refine⟨p,b,xs,ys,rfl,rfl,g1.old.at q1,l.same g1.vw.sub,by rw[<- c.len,<- r.len,dh];exact hz,?_⟩;exact h σ _ Hv1 (I1.write hm he q (show di Hv1 (.d (.lst (ds++es))) (.lst (xs++ys))from(dL g1.vis c).append r)) g1.vis)⟩
 |_=>exact h.elim
theorem wR{H:Hp}{d:D}{v:V}{y:Mi.Ky}(h:Mi.lW d=ab y)(r:Rep H d v):v=kV y:=by
 cases d with
 |bl i=>cases h;exact rg.mp r
 |str i=>cases h;exact lY.mp r
 |_=>cases h
theorem qU{H:Hp}:∀{ds:List D} {vs:List V} {ys:List Mi.Ky},Mi.lL ds=ab ys->P2 (Rep H) ds vs->vs=ys.map kV
 |[],_,_,h,r=>by cases h;cases r;rfl
 |d::ds,_,ys,h,r=>by
  cases r with
  |cons x t=>
   unfold Mi.lL at h;cases h1:Mi.lW d with
   |none=>rw[h1]at h;cases h
   |some y=>
    cases h2:Mi.lL ds with
    |none=>rw[h1,h2]at h;cases h
    |some zs=>
     rw[h1,h2]at h;cases h;rw[wR h1 x,qU h2 t];rfl
theorem A4{H Hv:Hp}(vw:Vw H Hv){w:W}{x:V}{d:D}{v:V}{q:Option D->Prop}(hw:RB H Hv w x)(r:Rep Hv d v)(h:Fin (Mi.vi w d) q):∃a o o',x=.ref a/\ib H a v o/\q o'/\match o' with
 |some d'=>∃v',o=ab v'/\Rep Hv d' v'
 |none=>o=ae:=by
 cases w with
 |d x=>exact h.elim
 |ex z=>exact h.elim
 |fn z=>exact h.elim
 |xr z x=>exact h.elim
 |dk am=>
  obtain⟨y,hy,h⟩:=gR (ao.mp h);have h:q (Mi.gU am y):=h;have:∃a kv,x=.ref a/\H a=ab (.dK kv)/\fc Hv am kv:=by
   rcases hw with ⟨a,kv,e,z,c⟩|⟨a,o,e,z,c⟩
   ·exact⟨a,kv,e,vw.sub _ _ z,c⟩
   ·cases o with
    |dK kv=>exact⟨a,kv,e,z,c⟩
    |_=>exact c.elim
  obtain⟨a,kv,e,z,c⟩:=this;have hv:=wR hy r;subst hv;exact⟨a,_,_,e,ib.k z,h,vk c⟩
 |dt am=>
  cases d with
  |tup ds=>
   obtain⟨y,hy,h⟩:=gR (ao.mp h);have h:q (Mi.gU am y):=h;have:∃a kv,x=.ref a/\H a=ab (.dT kv)/\fc Hv am kv:=by
    rcases hw with ⟨a,kv,e,z,c⟩|⟨a,o,e,z,c⟩
    ·exact⟨a,kv,e,vw.sub _ _ z,c⟩
    ·cases o with
     |dT kv=>exact⟨a,kv,e,z,c⟩
     |_=>exact c.elim
   obtain⟨a,kv,e,z,c⟩:=this;obtain⟨b,xs,rfl,l,r⟩:=jc.mp r;have hv:=qU hy r;subst hv;exact⟨a,_,_,e,ib.t z (vw.sub _ _ l),h,vk c⟩
  |_=>exact h.elim
 |df am=>
  cases d with
  |tup ds=>
   obtain⟨y,hy,h⟩:=gR (ao.mp h);have h:q (Mi.gU am y):=h;have:∃a ob kv,x=.ref a/\H a=ab (.frz ob (.dT kv))/\fc Hv am kv:=by
    rcases hw with ⟨a,ob,kv,e,z,c⟩|⟨a,o,e,z,c⟩
    ·exact⟨a,ob,kv,e,vw.sub _ _ z,c⟩
    ·exact c.elim
   obtain⟨a,ob,kv,e,z,c⟩:=this;obtain⟨b,xs,rfl,l,r⟩:=jc.mp r;have hv:=qU hy r;subst hv;exact⟨a,_,_,e,.inr ⟨kv,y,b,.inr ⟨ob,z⟩,rfl,vw.sub _ _ l,rfl⟩,h,vk c⟩
  |_=>exact h.elim
theorem JI(i:Nat)(hk:AE M qV tk k):AE M qV (AN tk (cZ i)) (Mi.pk i k):=λe σ H Hv Q I h=>
 hk e σ H Hv _ I ((ao.mp h).mono λd hd v H1 Hv1 g1 r=>by
  obtain⟨w,he,hd⟩:=pP (ao.mp hd);have I1:=I.grow g1;obtain⟨x,q,z⟩:=I1.any he;obtain⟨a,o,o',e1,g,h2,m⟩:=A4 g1.vw z r (ao.mp hd);refine⟨x,q,a,o,e1,g,?_⟩;have:o.isSome=o'.isSome:=by
   cases o' with
   |none=>have m:o=ae:=m;rw[m];rfl
   |some d'=>obtain⟨v',m,_⟩:=m;rw[m];rfl
  rw[this];exact h2 _ H1 Hv1 g1 fq)
theorem G9(i:Nat)(hk:AE M qV tk k):AE M qV (zU (cZ i) tk) (Mi.sR i k):=λe σ H Hv Q I h=>by
 obtain⟨d,hd,h⟩:=gE (ao.mp h);obtain⟨w,he,h⟩:=pP (ao.mp h);obtain⟨x,q,z⟩:=I.any he;refine⟨x,q,hk e σ H Hv _ I (by
  rw[hd];intro v H1 Hv1 g1 r;obtain⟨a,o,o',e1,g,h2,m⟩:=A4 g1.vw (z.grow g1) r (ao.mp h);cases o' with
  |none=>exact h2.elim
  |some d'=>
   obtain⟨v',rfl,rv⟩:=m;exact⟨a,v',e1,g,h2 v' H1 Hv1 g1 rv⟩)⟩
theorem zL{tv:TE}{v:Mi.E}(i:Nat)(hm:M i=true)(hk:AE M qV tk k)(hv:AE M qV tv v):AS M κ (L2.iN (cZ i) tk tv) (Mi.iN i k v):=λH0 Hv0 e σ H Hv D I h=>by
 obtain⟨d,hd,h⟩:=gE (ao.mp h);obtain⟨y,hy,h⟩:=gE (ao.mp h);obtain⟨w,he,h⟩:=pP (ao.mp h);refine hv e σ H Hv _ I.toR0 (by
  rw[hd];intro x H1 Hv1 g1 rx;have I1:=I.grow g1;obtain⟨p,o,q,q1,n,h0,c⟩:=I1.cell hm he;refine⟨.ref p,q,hk e σ H1 Hv1 _ I1.toR0 (by
   rw[hy];intro u H2 Hv2 g2 ru;have I2:=I1.grow g2;have c2:=c.same g2.vis;have q2:=g2.old.at q1 c.nt;have g12:=g1.trans g2;have rx2:=iV g2.vis rx;cases w with
   |d x=>exact(show False from ao.mp h).elim
   |ex z=>exact(show False from ao.mp h).elim
   |fn z=>exact(show False from ao.mp h).elim
   |xr z x=>exact(show False from ao.mp h).elim
   |df z=>exact(show False from ao.mp h).elim
   |dk am=>
    obtain⟨hz,h⟩:=Mi.cy (ao.mp h);obtain⟨ky,hky,h⟩:=gR (ao.mp h);cases o with
    |dK kv=>
     have c2:fc Hv2 am kv:=c2;have hu:=wR hky ru;subst hu;refine⟨p,_,rfl,kW.k q2 (by rw[<- P2.len c2,dh];exact hz),?_⟩;exact h σ _ Hv2 (I2.write hm he q (show di Hv2 (.dk (Mi.putK ky d am)) (.dK (L2.putK kv ky x))from yB rx2 c2)) g12.vis
    |_=>exact c2.elim
   |dt am=>
    cases y with
    |tup ds=>
     obtain⟨hz,h⟩:=Mi.cy (ao.mp h);obtain⟨ky,hky,h⟩:=gR (ao.mp h);cases o with
     |dT kv=>
      have c2:fc Hv2 am kv:=c2;obtain⟨b,xs,rfl,l,r⟩:=(jc (H:=Hv2)).mp ru;have hu:=qU hky r;subst hu;refine⟨p,_,rfl,kW.t q2 (g2.vw.sub _ _ l) (by rw[<- P2.len c2,dh];exact hz),?_⟩;exact h σ _ Hv2 (I2.write hm he q (show di Hv2 (.dt (Mi.putK ky d am)) (.dT (L2.putK kv ky x))from yB rx2 c2)) g12.vis
     |_=>exact c2.elim
    |_=>exact(show False from ao.mp h).elim)⟩)
end
end A
namespace Zp
open PySem PySem.Spec PyProof.Rows L2
variable[Tb:A.a8]
section
variable{P:bb}{w:aT}{B:br}{F:ag->ak->Prop}{z:ak}
theorem K7{c t:ah}{i:Nat}{us:Array ag}{u:ag}{R:ag->ak->Prop}(hc:z.heap.IsTupleIter c t i)(ht:z.heap.IsTuple t us)(hu:us[i]? = ab u)
 (hR:∀h',h'.IsTupleIter c t (i+1)->mG c z.heap h'->R u { z with heap:=h' }):wpAny (model P w) B (mJ (.ref c)) R F z:=by
 obtain⟨ob,gb,cb,db⟩:=id hc;obtain⟨ol,gl,_,nl,dl⟩:=ht;unfold mJ;refine aA (tP (name:=t8 "__next__") hc.typeIs tZ (mF tZ hc.typeIs Ek ?_ (Ej _)));show wpAny _ _ (field (.ref c) 0 >>= _) _ _ z;refine aA (lm gb db (x:=.ref t) rfl ?_);show wpAny _ _ (if(cE t==d6)=true then _ else _) _ _ z;rw[ay (λq:(cE t==d6)=true=>nomatch q)];show wpAny _ _ (field (.ref c) 1 >>= _) _ _ z;refine aA (lm gb db (x:=.int i 0) rfl ?_);show wpAny _ _ (seqItems? (.ref t) >>= _) _ _ z;refine aA (qE gl dl ?_);simp only[jI,hu];refine aA (wpAny_setField gb db (by simp) (bo ⟨u,rfl,bo (hR _ ?_ (ue ..))⟩));refine⟨_,xD _ gb (Obj.isFreed_of_fields (Ew db _)),(Obj.cls_mapFields ..).trans cb,?_⟩;rw[Ew db];simp[rawInt]
theorem HR{c t:ah}{i:Nat}{us:Array ag}{R:ag->ak->Prop}(hn:B.handled=ae)(hc:z.heap.IsTupleIter c t i)(ht:z.heap.IsTuple t us)(hu:us[i]? = ae)
 (hF:∀h' e,xE c z.heap h'->(∃o,h'.get? e=ab o/\o.cls=.type "StopIteration")->F (.ref e) { z with heap:=h' }):wpAny (model P w) B (mJ (.ref c)) R F z:=by
 obtain⟨ob,gb,cb,db⟩:=id hc;obtain⟨ol,gl,_,nl,dl⟩:=ht;unfold mJ;refine aA (tP (name:=t8 "__next__") hc.typeIs tZ (mF tZ hc.typeIs Ek ?_ (Ej _)));show wpAny _ _ (field (.ref c) 0 >>= _) _ _ z;refine aA (lm gb db (x:=.ref t) rfl ?_);show wpAny _ _ (if(cE t==d6)=true then _ else _) _ _ z;rw[ay (λq:(cE t==d6)=true=>nomatch q)];show wpAny _ _ (field (.ref c) 1 >>= _) _ _ z;refine aA (lm gb db (x:=.int i 0) rfl ?_);show wpAny _ _ (seqItems? (.ref t) >>= _) _ _ z;refine aA (qE gl dl ?_);simp only[jI,hu];refine aA (wpAny_rule (aA (wpAny_setField gb db (by simp) ?_)));show wpAny _ _ (newExc (.type "StopIteration") [] >>= _) _ _ _;refine aA ?_;simp only[newExc,newTuple];refine aA (wpAny_newObj_type ?_ (by size_fits));refine aA (m:=firstArgMember _ _) (wpAny_of_eq (a:=d6) (by simp only[firstArgMember];rfl) (wpAny_newObj_type ?_ (by size_fits)));simp only[raiseNew];refine aA (wpAny_handled ?_)
 first|rw[show B.in1.handled=ae from hn]|rw[hn]
 exact aA (bo (wpAny_throw (hF _ _ (((ue ..).extBut.push _).push _) ⟨_,eE _ rfl,rfl⟩)))
end
def nm:Bool->String|true => "list" | false => "tuple"
def Dl:Bool->String|true => "list_iterator" | false => "tuple_iterator"
def fY(k:Bool)(h:aI)(l:ah)(us:Array ag):Prop:=∃o,h.get? l=ab o/\o.cls=.type (nm k)/\∃n,o.data=.seq us n
def ju(k:Bool)(h:aI)(c l:ah)(i:Nat):Prop:=∃o,h.get? c=ab o/\o.cls=.type (Dl k)/\o.data=.fields #[.ref l,.int i 0]
theorem fY.at{k:Bool}{h h':aI}{l:ah}{us:Array ag}(x:fY k h l us)(f:∀o,h.get? l=ab o->h'.get? l=ab o):fY k h' l us:=let ⟨o,e,r⟩:=x;⟨o,f o e,r⟩
theorem ju.at{k:Bool}{h h':aI}{c l:ah}{i:Nat}(x:ju k h c l i)(f:∀o,h.get? c=ab o->h'.get? c=ab o):ju k h' c l i:=let ⟨o,e,r⟩:=x;⟨o,f o e,r⟩
theorem ju.cell{k:Bool}{h:aI}{c l:ah}{i:Nat}(x:ju k h c l i):∃o,h.get? c=ab o/\∀v,o.data≠.cell v:=let ⟨o,e,_,d⟩:=x;⟨o,e,λv q=>by rw[d]at q;cases q⟩
section
variable{P:bb}{w:aT}{B:br}{F:ag->ak->Prop}{z:ak}
theorem nx{k:Bool}{c t:ah}{i:Nat}{us:Array ag}{u:ag}{R:ag->ak->Prop}(hc:ju k z.heap c t i)(ht:fY k z.heap t us)(hu:us[i]? = ab u)
 (hR:∀h',ju k h' c t (i+1)->mG c z.heap h'->R u { z with heap:=h' }):wpAny (model P w) B (mJ (.ref c)) R F z:=by
 cases k
 ·exact K7 hc ht hu hR
 ·exact wpAny_nextOf_list_item hc ht hu hR
theorem HN{k:Bool}{c t:ah}{i:Nat}{us:Array ag}{R:ag->ak->Prop}(hn:B.handled=ae)(hc:ju k z.heap c t i)(ht:fY k z.heap t us)(hu:us[i]? = ae)
 (hF:∀h' e,xE c z.heap h'->(∃o,h'.get? e=ab o/\o.cls=.type "StopIteration")->F (.ref e) { z with heap:=h' }):wpAny (model P w) B (mJ (.ref c)) R F z:=by
 cases k
 ·exact HR hn hc ht hu hF
 ·exact wpAny_nextOf_list_end hn hc ht hu hF
abbrev nV(k:Bool)(l:ah):Obj:={ cls:=.type (Dl k),data:=.fields #[.ref l,.int 0 0] }
theorem yQ{k:Bool}{l:ah}{us:Array ag}{R:ag->ak->Prop}(h:fY k z.heap l us)(hR:R (.ref z.heap.objs.size) { z with heap:=z.heap.push (nV k l) }):wpAny (model P w) B (pyIter (.ref l)) R F z:=by
 cases k
 ·exact wpAny_pyIter_tuple h hR
 ·exact xx h hR
end
structure Sr where
 k:Bool
 c:ah
 l:ah
 us:Array ag
def On(h:aI)(i:Nat)(q:Sr):Prop:=ju q.k h q.c q.l i/\fY q.k h q.l q.us
theorem On.at{h h':aI}{i:Nat}{q:Sr}(x:On h i q)(f:∀b o,b=q.c\/b=q.l->h.get? b=ab o->h'.get? b=ab o):On h' i q:=⟨x.1.at λo e=>f _ o (.inl rfl) e,x.2.at λo e=>f _ o (.inr rfl) e⟩
abbrev TupAt(h:aI)(T:ah)(vs:List ag):Prop:=h.get? T=ab { cls:=.type "tuple", data:=.seq vs.toArray }
structure Ap(z TI TO:ah)(L:List Sr):Prop where
 TIz:TI≠z
 TOz:TO≠z
 TITO:TI≠TO
 nd:(L.map (·.c)).Nodup
 c:∀q∈L,q.c≠z/\q.c≠TI/\q.c≠TO
 l:∀q∈L,q.l≠z/\q.l≠TO/\∀r∈L,q.l≠r.c
theorem zx{M:Model}{B:br}{α β:Type}{b:β}{f:α->β->Sem (ForInStep β)}{E:ag->ak->Prop}(I:Nat->ak->Prop):∀(xs:List α) (n:Nat) (s:ak),
 (∀j x,xs[j]? = ab x->∀s,I (n+j) s->wpAny M B (f x b) (λr s'=>r=.yield b/\I (n+j+1) s') E s)->I n s->wpAny M B (forIn xs b f) (λr s'=>r=b/\I (n+xs.length) s') E s
 |[],n,s,_,h=>by
  rw[xp];exact bo ⟨rfl,h⟩
 |x::r,n,s,hs,h=>by
  rw[mE];refine aA (gI (hs 0 x rfl s h) (λy s' hy=>?_) λ_ _ e=>e);obtain⟨rfl,hy⟩:=hy;refine gI (zx I r (n+1) s' (λj x' e s2 h2=>?_) hy) (λy s2 h2=>⟨h2.1,?_⟩) λ_ _ e=>e
  ·rw[show n+1+j=n+(j+1)by omega]at h2 ⊢;exact hs (j+1) x' (by simpa using e) s2 h2
  ·rw[ce,show n+(r.length+1)=n+1+r.length by omega];exact h2.2
section
variable{P:bb}{w:aT}{B:br}{F:ag->ak->Prop}{s:ak}
def Kp(z TO:ah)(L:List Sr)(h h':aI):Prop:=∀b o,b≠z->b≠TO->b∉L.map (·.c)->h.get? b=ab o->h'.get? b=ab o
structure Mid(s:ak)(z TI TO:ah)(L:List Sr)(i n:Nat)(s':ak):Prop where
 zz:IsZip s'.heap z TI TO .ellipsis
 vs:∃vs:List ag,vs.length=L.length/\TupAt s'.heap TO vs/\∀(j:Nat) (q:Sr),j<n->L[j]? = ab q->vs[j]? = q.us[i]?/\i<q.us.size
 on:∀(j:Nat) (q:Sr),L[j]? = ab q->On s'.heap (if j<n then i+1 else i) q
 sz:s'.heap.objs.size=s.heap.objs.size
 kp:Kp z TO L s.heap s'.heap
 eq:s'={ s with heap:=s'.heap }
theorem Gw{L:List Sr}(h:(L.map (·.c)).Nodup){i j:Nat}{p q:Sr}(hp:L[i]? = ab p)(hq:L[j]? = ab q)(hij:i≠j):p.c≠q.c:=by
 intro e;have h1:(L.map (·.c))[i]? = ab p.c:=by rw[dw,hp];rfl
 have h2:(L.map (·.c))[j]? = ab q.c:=by rw[dw,hq];rfl
 obtain⟨l1,g1⟩:=cV.mp h1;obtain⟨l2,g2⟩:=cV.mp h2;exact hij ((ki h).mp (by rw[g1,g2,e]))
theorem Dp{z TI TO:ah}{L:List Sr}{i:Nat}{vs:List ag}{R:ag->ak->Prop}(hh:B.handled=ae)(D:Ap z TI TO L)(h0:L≠[])
 (hz:IsZip s.heap z TI TO .none) (hI:TupAt s.heap TI (L.map λq=>.ref q.c)) (hO:TupAt s.heap TO vs) (hl:vs.length=L.length) (hL:L.length<=8) (hon:∀q∈L,On s.heap i q)
 (hR:∀(h':aI) (ws:List ag),IsZip h' z TI TO (rawInt s.heap.objs.size)->ws.length=L.length->(∀(j:Nat) (q:Sr),L[j]? = ab q->ws[j]? = q.us[i]?/\i<q.us.size)->TupAt h' TO ws->TupAt h' s.heap.objs.size ws->(∀q∈L,On h' (i+1) q) ->
  Kp z TO L s.heap h'->R (.ref s.heap.objs.size) { s with heap:=h' })
 (hF:∀(h':aI) (e:ah),Kp z TO L s.heap h'->(∃o,h'.get? e=ab o/\o.cls=.type "StopIteration")->(∃q∈L,q.us.size<=i)->F (.ref e) { s with heap:=h' }) :
 wpAny (model P w) B (jF.«zip.__next__» ⟨[.ref z],[]⟩) (λfin s'=>∃v,fin=.done (.ret v)/\R v s') F s:=by
 show wpAny _ _ (field (.ref z) 2 >>= _) _ _ _;refine aA (lm hz rfl (x:=.bool false) rfl ?_);show wpAny _ _ (field (.ref z) 3 >>= _) _ _ _;refine aA (lm hz rfl (x:=.ref TI) rfl ?_);refine aA (qE hI rfl ?_);have hne:((L.map λq=>cE q.c).toArray.isEmpty)=false:=by cases L with|nil=>exact absurd rfl h0|cons q r=>rfl
 simp only[hne,ou,gg];show wpAny _ _ (Eu (.ref z) >>= _) _ _ _;refine aA ?_;unfold Eu;refine aA (lm hz rfl (x:=.none) rfl (bo ?_));simp only[gX];refine aA (wpAny_rule (aA (lm hz rfl (x:=.ref TO) rfl (aA (tR hz (by simp) λh1 hz1 hs1=>?_)))));replace hz1:IsZip h1 z TI TO .ellipsis:=hz1;have M0:Mid s z TI TO L i 0 { s with heap:=h1 }:=⟨hz1,⟨vs,hl,hs1.extBut _ _ D.TOz hO,λj q h _=>absurd h (Nat.not_lt_zero _)⟩,λj q e=>(hon q (i4 e)).at λb o hb x=>by
  have hq:=i4 e;rcases hb with rfl|rfl
  ·exact hs1.extBut _ _ (D.c q hq).1 x
  ·exact hs1.extBut _ _ (D.l q hq).1 x,hs1.1,λb o b1 _ _ x=>hs1.extBut _ _ b1 x,rfl⟩
 refine aA (gI (zx (Mid s z TI TO L i) _ 0 _ ?_ M0) ?_ λ_ _ e=>e)
 ·intro j x e s2 M;rw[eV]at M ⊢;obtain⟨q,hq,rfl⟩ : ∃q,L[j]? = ab q/\x=(cE q.c,j):=by
   simp only[List.getElem?_zipIdx,dw,Option.map_map]at e;obtain⟨q,hq,e⟩:=mH.mp e;exact⟨q,hq,by rw[<- e];simp⟩
  have hqm:=i4 hq;have jlt:j<L.length:=(cV.mp hq).1;have onq:=M.on j q hq;rw[ay (jG j)]at onq;obtain⟨ws,wl,wO,wv⟩:=M.vs;refine aA (wpAny_onRaise ?_);show wpAny _ _ (mJ (.ref q.c) >>= _) _ _ _;cases hu:q.us[i]? with
  |none=>
   refine aA (HN hh onq.1 onq.2 hu λh3 e2 x3 he=>?_);obtain⟨oe,goe,coe⟩:=he;have hz3:IsZip h3 z TI TO .ellipsis:=x3 _ _ (D.c q hqm).1.symm M.zz;have hez:e2≠z:=λy=>by subst y;rw[hz3]at goe;cases goe;simp at coe
   refine tR hz3 (by simp) λh4 _ x4=>?_;rw[M.eq];exact hF h4 e2 (λb o b1 b2 b3 y=>x4.extBut _ _ b1 (x3 _ _ (λq'=>b3 (by rw[q'];exact my hqm)) (M.kp b o b1 b2 b3 y))) ⟨oe,x4.extBut _ _ hez goe,coe⟩ ⟨q,hqm,by simpa using hu⟩
  |some u=>
   refine aA (nx onq.1 onq.2 hu λh3 a3 x3=>bo ?_);have hO3:TupAt h3 TO ws:=x3.extBut _ _ (D.c q hqm).2.2.symm wO;refine aA (qE hO3 rfl (aA (wpAny_updateSeq hO3 rfl ?_ (by rw[bG,wl,dh];omega) (by simp only[Array.size_setIfInBounds,bG];rw[wl,dh];omega))));refine aA (wpAny_letGo (bo ⟨rfl,?_⟩));have x4:mG TO h3 (h3.update TO (g6 (·.setIfInBounds j u))):=ue ..;have hu':i<q.us.size:=(Array.getElem?_eq_some_iff.mp hu).1;have up:∀b o,b≠q.c->b≠TO->s2.heap.get? b=ab o->(h3.update TO (g6 (·.setIfInBounds j u))).get? b=ab o:=λb o b1 b2 y=>x4.extBut _ _ b2 (x3.extBut _ _ b1 y);refine⟨up _ _ (D.c q hqm).1.symm D.TOz.symm M.zz,⟨ws.set j u,by rw[gq];exact wl,?_,λk r hk hr=>?_⟩,λk r hr=>?_,?_,λb o b1 b2 b3 y=>up b o (λq'=>b3 (by rw[q'];exact my hqm)) b2 (M.kp b o b1 b2 b3 y),?_⟩
   ·show(h3.update TO _).get? TO=_;rw[xD _ hO3 rfl];simp[g6]
   ·by_cases hkj:k=j
    ·subst hkj;rw[hq]at hr;cases hr;rw[qx,aw rfl,aw (by omega),hu];exact⟨rfl,hu'⟩
    ·rw[qx,ay (λq=>hkj q.symm)];exact wv k r (by omega) hr
   ·have hrm:=i4 hr;by_cases hkj:k=j
    ·subst hkj;rw[hq]at hr;cases hr;rw[aw (Nat.lt_succ_self _)];exact⟨a3.at λo y=>x4.extBut _ _ (D.c q hqm).2.2 y,onq.2.at λo y=>up _ o ((D.l q hqm).2.2 q hqm) (D.l q hqm).2.1 y⟩
    ·have:=M.on k r hr;rw[show(if k<j then i+1 else i)=(if k<j+1 then i+1 else i)from by
      by_cases h:k<j
      ·rw[aw h,aw (by omega)]
      ·rw[ay h,ay (by omega)]]at this
     exact this.at λb o hb y=>by
      rcases hb with rfl|rfl
      ·exact up _ _ (Gw D.nd hr hq hkj) (D.c r hrm).2.2 y
      ·exact up _ _ ((D.l r hrm).2.2 q hqm) (D.l r hrm).2.1 y
   ·show(h3.update TO _).objs.size=_;rw[x4.1,x3.1,M.sz]
   ·rw[M.eq]
 ·rintro r s2 ⟨rfl,M⟩;have hL2:0+((L.map λq=>cE q.c).toArray.toList.zipIdx).length=L.length:=by simp
  rw[hL2]at M;obtain⟨ws,wl,wO,wv⟩:=M.vs;refine aA (qE wO rfl (aA (wpAny_newTuple ?_ (by show ws.length<=_;rw[wl,dh];omega))));show wpAny _ _ (Et (.ref z) (.ref s2.heap.objs.size) >>= _) _ _ _;refine aA ?_;unfold Et;have hz6:IsZip (s2.heap.push { cls:=.type "tuple", data:=.seq ws.toArray }) z TI TO .ellipsis:=cP _ M.zz;refine aA (tR hz6 (by simp) λh7 hz7 x7=>?_);replace hz7:IsZip h7 z TI TO (rawInt s2.heap.objs.size):=hz7;refine tR hz7 (by simp) λh8 hz8 x8=>?_;replace hz8:IsZip h8 z TI TO (rawInt s2.heap.objs.size):=hz8;have up:∀b o,b≠z->s2.heap.get? b=ab o->h8.get? b=ab o:=λb o b1 y=>x8.extBut _ _ b1 (x7.extBut _ _ b1 (cP _ y));have hzl:z<s2.heap.objs.size:=bH M.zz;have hT8:TupAt h8 s2.heap.objs.size ws:=x8.extBut _ _ (tX hzl) (x7.extBut _ _ (tX hzl) (eE _ rfl));refine bo ⟨_,rfl,?_⟩;show R (.ref s2.heap.objs.size) _;rw[M.sz]at hz8 hT8 ⊢;have e:=M.eq;rw[e];exact hR h8 ws hz8 wl (λj q hq=>wv j q (cV.mp hq).1 hq) (up _ _ D.TOz wO) hT8 (λq hq=>by
   obtain⟨j,hj⟩:=mv hq;have:=M.on j q hj;rw[aw (cV.mp hj).1]at this;exact this.at λb o hb y=>by
    rcases hb with rfl|rfl
    ·exact up _ _ (D.c q hq).1 y
    ·exact up _ _ (D.l q hq).1 y) λb o b1 b2 b3 y=>up b o b1 (M.kp b o b1 b2 b3 y)
end
section
variable{P:bb}{w:aT}{B:br}{F':ag->ak->Prop}{s:ak}
abbrev zO(TI TO:ah):Obj:={ cls:=.type "zip", data:=.fields #[.none,.bool false,.bool false,.ref TI,.ref TO] }
abbrev tO(vs:List ag):Obj:={ cls:=.type "tuple", data:=.seq vs.toArray }
theorem mk2(k1 k2:Bool)(l1 l2:ah)(xs ys:Array ag) :
 Meets (jF.«zip.__new__» ⟨[.type "zip", .ref l1,.ref l2],[]⟩) (λ_ R s=>fY k1 s.heap l1 xs/\fY k2 s.heap l2 ys /\
  ∀h1 h2 h3 h4:aI,h1=s.heap.push (nV k1 l1)->h2=h1.push (nV k2 l2)->h3=h2.push (tO [.ref s.heap.objs.size,.ref h1.objs.size])->h4=h3.push (tO [.none,.none]) ->
  R (.ok (.ret (.ref h4.objs.size))) { s with heap:=h4.push (zO h2.objs.size h3.objs.size) }):=
 .of_wp λprog w A R s h=>by
  obtain⟨hp,g,d,tk,os⟩:=s;obtain⟨a1,a2,h⟩:=h;have hsub:=sub_zip;have b1:fY k1 (Shared.heap ⟨hp,g,d,tk,os⟩) l1 xs:=a1;have b2:fY k2 (Shared.heap ⟨hp.push (nV k1 l1),g,d,tk,os⟩) l2 ys:=a2.at λo e=>cP _ e
  wp_walk using yQ b1,yQ b2
  exact⟨_,rfl,h _ _ _ _ rfl rfl rfl rfl⟩
abbrev Tr:=Bool×ah×ah
structure Zs(h:aI)(z TI TO:ah)(T:List Tr)(i:Nat):Prop where
 zz:IsZip h z TI TO .none
 ti:TupAt h TI (T.map λq=>.ref q.2.1)
 to:∃vs:List ag,vs.length=T.length/\TupAt h TO vs
 it:∀q∈T,ju q.1 h q.2.1 q.2.2 i
theorem call2{k1 k2:Bool}{l1 l2:ah}{xs ys:Array ag}{R:ag->ak->Prop}(a1:fY k1 s.heap l1 xs)(a2:fY k2 s.heap l2 ys)
 (h:∀h',Zs h' (s.heap.objs.size+4) (s.heap.objs.size+2) (s.heap.objs.size+3) [(k1,s.heap.objs.size,l1),(k2,s.heap.objs.size+1,l2)] 0->(∀c o,s.heap.get? c=ab o->h'.get? c=ab o) ->
  R (.ref (s.heap.objs.size+4)) { s with heap:=h' }):wpAny (model P w) B (call (.type "zip") [.ref l1,.ref l2]) R F' s:=by
 refine callType_new F.called_zip (by decide) (F.typeCall_zip_2 _ _) (F.newCall_zip_2 _ _) (λobj=>F.args_object_init_3 obj _ _) F.entry_zip_new (mk2 k1 k2 l1 l2 xs ys) ⟨a1,a2,?_⟩;intro h1 h2 h3 h4 e1 e2 e3 e4;have z1:h1.objs.size=s.heap.objs.size+1:=by rw[e1];exact qG ..
 have z2:h2.objs.size=s.heap.objs.size+2:=by rw[e2,qG,z1]
 have z3:h3.objs.size=s.heap.objs.size+3:=by rw[e3,qG,z2]
 have z4:h4.objs.size=s.heap.objs.size+4:=by rw[e4,qG,z3]
 have p1:∀c o,s.heap.get? c=ab o->h1.get? c=ab o:=λc o x=>by rw[e1];exact cP _ x
 have p2:∀c o,h1.get? c=ab o->h2.get? c=ab o:=λc o x=>by rw[e2];exact cP _ x
 have p3:∀c o,h2.get? c=ab o->h3.get? c=ab o:=λc o x=>by rw[e3];exact cP _ x
 have p4:∀c o,h3.get? c=ab o->h4.get? c=ab o:=λc o x=>by rw[e4];exact cP _ x
 have p5:∀c o,h4.get? c=ab o->(h4.push (zO h2.objs.size h3.objs.size)).get? c=ab o:=λc o x=>cP _ x;have g1:h1.get? s.heap.objs.size=ab (nV k1 l1):=by rw[e1];exact eE _ rfl
 have g2:h2.get? h1.objs.size=ab (nV k2 l2):=by rw[e2];exact eE _ rfl
 have g3:h3.get? h2.objs.size=ab (tO [.ref s.heap.objs.size,.ref h1.objs.size]):=by rw[e3];exact eE _ rfl
 have g4:h4.get? h3.objs.size=ab (tO [.none,.none]):=by rw[e4];exact eE _ rfl
 have g5:(h4.push (zO h2.objs.size h3.objs.size)).get? h4.objs.size=ab (zO h2.objs.size h3.objs.size):=eE _ rfl;show _/\_;refine⟨⟨_,g5,rfl⟩,?_⟩;rw[z1]at g2 g3;rw[z2]at g3;rw[z3]at g4;rw[z4]at g5 ⊢;rw[z2,z3]at g5 p5 ⊢;exact h _ ⟨g5,p5 _ _ (p4 _ _ g3),⟨_,rfl,p5 _ _ g4⟩,λq hq=>by
  rcases bK.mp hq with rfl|hq
  ·exact⟨_,p5 _ _ (p4 _ _ (p3 _ _ (p2 _ _ g1))),rfl,rfl⟩
  ·obtain rfl:=bC.mp hq;exact⟨_,p5 _ _ (p4 _ _ (p3 _ _ g2)),rfl,rfl⟩⟩ λc o x=>p5 _ _ (p4 _ _ (p3 _ _ (p2 _ _ (p1 _ _ x))))
end
end Zp
namespace Zp
open PySem PySem.Spec PyProof.Rows L2 A
variable[Tb:A.a8]
def ie(H:Hp)(s:Bool×ah)(xs:List V):Prop:=match s.1 with
 |true=>Lst H s.2 xs
 |false=>H s.2=ab (.tup xs)
theorem ie.nn{H:Hp}{s:Bool×ah}{xs:List V}(h:ie H s xs):H s.2≠ae:=by
 obtain⟨k,a⟩:=s;cases k
 ·have h:H a=_:=h;show H a≠ae;rw[h];simp
 ·rcases(show Lst H a xs from h)with h|⟨o,h⟩
  ·show H a≠ae;rw[h];simp
  ·show H a≠ae;rw[h];simp
theorem ie.inj{H:Hp}{s:Bool×ah}{xs ys:List V}(h:ie H s xs)(h':ie H s ys):xs=ys:=by
 obtain⟨k,a⟩:=s;cases k
 ·have h:H a=ab (.tup xs):=h;have h':H a=ab (.tup ys):=h';rw[h]at h';cases h';rfl
 ·rcases(show Lst H a xs from h)with h|⟨o,h⟩<;>rcases(show Lst H a ys from h')with h'|⟨o',h'⟩<;>rw[h]at h'<;>cases h'<;>rfl
theorem ie.at{X:Cx}{af:List (ah×Obj)}{σ:L2.St}{H:Hp}{s:ak}{k:Bool}{a:ah}{xs:List V}(I:Inv X af σ H s)(h:ie H (k,a) xs):∃ai:List ag,Vals xs ai/\fY k s.heap a ai.toArray:=by
 cases k
 ·have h:H a=ab (.tup xs):=h;obtain⟨_,ai,rv,o,e,c,_,d⟩:=I.hok a _ h;exact⟨ai,rv,o,e,c,d⟩
 ·have h:Lst H a xs:=h;obtain⟨ai,rv,⟨o,n,e,c,_,d⟩,_⟩:=I.list h.sq;exact⟨ai,rv,o,e,c,n,d⟩
abbrev ic(H:Hp)(S:List (Bool×ah))(xss:List (List V)):Prop:=P2 (λs xs=>ie H s xs) S xss
def oX(S:List (Bool×ah)):It:=
 ⟨fun i H => ∃ xss, ic H S xss ∧ ∀ xs ∈ xss, i < xs.length,
  λi H v H'=>∃p ws,(∀xss,ic H S xss->P2 (λ(xs:List V) x=>xs[i]? = ab x) xss ws)/\H p=ae/\v=.ref p/\H'=upd H p (.tup ws),
  λi H=>∃xss,ic H S xss/\∃xs∈xss,xs.length<=i⟩
theorem y1{H:Hp}:∀{S:List (Bool×ah)} {xss yss:List (List V)},ic H S xss->ic H S yss->xss=yss
 |_,_,_,.nil,.nil=>rfl
 |_,_,_,.cons a r,.cons b t=>by rw[a.inj b,y1 r t]
theorem lie{X:Cx}{af:List (ah×Obj)}{σ:L2.St}{H:Hp}{s:ak}(I:Inv X af σ H s):∀{T:List Tr} {xss:List (List V)},ic H (T.map λq=>(q.1,q.2.2)) xss ->
 ∃L:List Sr,L.map (λq=>(q.k,q.c,q.l))=T/\(∀q∈L,fY q.k s.heap q.l q.us/\H q.l≠ae)/\P2 (λ(q:Sr) xs=>Vals xs q.us.toList) L xss
 |[],_,.nil=>⟨[],rfl,λq h=>absurd h (by simp),.nil⟩
 |(k,c,l)::T,_,.cons a r=>by
  obtain⟨L,e,h,p⟩:=lie I r;obtain⟨ai,rv,q⟩:=a.at I;refine⟨⟨k,c,l,ai.toArray⟩::L,by rw[cD,e],λy hy=>?_,.cons rv p⟩;rcases bK.mp hy with rfl|hy
  ·exact⟨q,a.nn⟩
  ·exact h y hy
theorem pick{i:Nat}:∀{L:List Sr} {xss:List (List V)} {ws:List ag},P2 (λ(q:Sr) xs=>Vals xs q.us.toList) L xss->ws.length=L.length->(∀(j:Nat) (q:Sr),L[j]? = ab q->ws[j]? = q.us[i]?/\i<q.us.size) ->
 ∃vws:List V,Vals vws ws/\P2 (λ(xs:List V) x=>xs[i]? = ab x) xss vws
 |_,_,[],.nil,_,_=>⟨[],.nil,.nil⟩
 |_,_,w::ws,.cons (a:=q) (b:=xs) rv t,hl,h=>by
  obtain⟨vws,r,p⟩:=pick t (by simpa using hl) λj r hr=>by simpa using h (j+1) r (by simpa using hr)
  obtain⟨e,hi⟩:=h 0 q rfl;have hlen:=rv.length;have hix:i<xs.length:=by simp at hlen;omega
  obtain⟨u,hu,ru⟩:=rv.get (i:=i) (x:=xs[i]) (by simp[hix]);have:ab w=ab u:=by have e':ab w=q.us[i]?:=e;rw[e',<- hu];simp
  cases this;exact⟨xs[i]::vws,.cons ru r,.cons (by simp[hix]) p⟩
 |_,_,[],.cons _ _,hl,_=>by simp at hl
 |_,_,w::ws,.nil,hl,_=>by simp at hl
structure CZ(z TI TO:ah)(T:List Tr):Prop where
 TIz:TI≠z
 TOz:TO≠z
 TITO:TI≠TO
 nd:(T.map (·.2.1)).Nodup
 c:∀q∈T,q.2.1≠z/\q.2.1≠TI/\q.2.1≠TO
theorem J5{P:bb}{w:aT}{K:aB}{elts:List aO}{k1:Nat}{pos:Pos}{z TI TO:ah}{T:List Tr}(D0:CZ z TI TO T)(hT0:T≠[])(hT8:T.length<=8) :
 Turn P w K (.Tuple elts k1 pos) (oX (T.map λq=>(q.1,q.2.2))) (z::TI::TO::T.map (·.2.1)) z (λi h=>Zs h z TI TO T i) where
 mem:=by simp
 obj:=λi h st b hb=>by
  rcases bK.mp hb with rfl|hb
  ·exact⟨_,st.zz,λv q=>by cases q⟩
  rcases bK.mp hb with rfl|hb
  ·exact⟨_,st.ti,λv q=>by cases q⟩
  rcases bK.mp hb with rfl|hb
  ·obtain⟨vs,_,h⟩:=st.to;exact⟨_,h,λv q=>by cases q⟩
  ·obtain⟨q,hq,rfl⟩:=dq.mp hb;exact(st.it q hq).cell
 keep:=λi h h' st kk=>⟨kk z (by simp) _ st.zz,kk TI (by simp) _ st.ti,let ⟨vs,l,e⟩:=st.to;⟨vs,l,kk TO (by simp) _ e⟩,λq hq=>(st.it q hq).at λo e=>kk _ (by simp only[bK];exact .inr (.inr (.inr (my (f:=λq:Tr=>q.2.1) hq)))) o e⟩
 item:=by
  intro X hP hw hK hc i af s σ H E I hf st hg;subst hP hw hK;obtain⟨xss,hq,hx⟩:=hg;obtain⟨L,eL,at_,rL⟩:=lie I hq;have eT:T.map (λq=>(cE q.2.1))=L.map λq=>.ref q.c:=by rw[<- eL,dA];rfl
  have eC:T.map (λq=>q.2.1)=L.map λq=>q.c:=by rw[<- eL,dA];rfl
  have lT:T.length=L.length:=by rw[<- eL,aS]
  have inT:∀q∈L,(q.k,q.c,q.l)∈T:=λq h=>by rw[<- eL];exact my (f:=λq:Sr=>(q.k,q.c,q.l)) h
  have lne:∀q∈L,∀b∈z::TI::TO::T.map (·.2.1),q.l≠b:=λq h b hb e=>(at_ q h).2 (by rw[e];exact(hf b hb).1);have D:Ap z TI TO L:=⟨D0.TIz,D0.TOz,D0.TITO,by rw[<- eC];exact D0.nd,λq h=>D0.c _ (inT q h),λq h=>⟨lne q h z (by simp),lne q h TO (by simp),λr hr=>lne q h r.c (by rw[eC];simp only[bK];exact .inr (.inr (.inr (my (f:=λq:Sr=>q.c) hr))))⟩⟩;have hO:=st.to;obtain⟨vs,vl,hO⟩:=hO;have hTI:=st.ti;rw[eT]at hTI;have hty:s.TypeIs (.ref z) "zip" := ⟨_,st.zz,rfl⟩;unfold pyNext;refine aA (xC (tP (name:=t8 "__next__") hty t6 (mF t6 hty F.entry_zip_next
   (Dp (by first|exact I.ok.hd hc|(simp;exact I.ok.hd hc)) D (λe=>hT0 (by rw[e]at lT;exact qu lT)) st.zz hTI hO (by rw[vl,lT]) (by omega) (λq h=>⟨st.it _ (inT q h),(at_ q h).1⟩) (λh' ws hz' wl wv hO' hN on' kp=>bo ?_) (λh' e kp he hend=>?_)) (F.args_zip_next_1 _))))
  ·refine⟨_,rfl,wpAny_letOwnedTupleGo_zip hz' λh2 hz2 hs2=>?_⟩;have kk:∀b o,b∉z::TI::TO::T.map (·.2.1)->s.heap.get? b=ab o->h2.get? b=ab o:=λb o hb q=>by
    simp only[bK,not_or]at hb;exact(hs2.2 b hb.1).trans (kp b o hb.1 hb.2.2.1 (by rw[<- eC];exact hb.2.2.2) q)
   have hne:∀b∈z::TI::TO::T.map (·.2.1),b≠s.heap.objs.size:=λb hb e=>by
    obtain⟨o,ho,_⟩ : ∃o,s.heap.get? b=ab o/\True:=by
     rcases bK.mp hb with rfl|hb
     ·exact⟨_,st.zz,trivial⟩
     rcases bK.mp hb with rfl|hb
     ·exact⟨_,st.ti,trivial⟩
     rcases bK.mp hb with rfl|hb
     ·exact⟨_,hO,trivial⟩
     ·obtain⟨q,hq,rfl⟩:=dq.mp hb;obtain⟨o,ho,_⟩:=st.it q hq;exact⟨o,ho,trivial⟩
    exact absurd (bH ho) (by rw[e];exact jG _)
   obtain⟨vws,hv,hy⟩ : ∃vws:List V,Vals vws ws/\P2 (λ(xs:List V) x=>xs[i]? = ab x) xss vws:=by exact pick rL wl wv
   have hN2:TupAt h2 s.heap.objs.size ws:=(hs2.2 _ (λe=>hne z (by simp) e.symm)).trans hN;refine⟨.ref s.heap.objs.size,upd H s.heap.objs.size (.tup vws),zp (s:=s) (t':=s.toks) I hf kk (bg _) ⟨?_,ws,hv,⟨_,hN2,rfl,rfl,_,rfl⟩⟩,rfl,⟨_,vws,λyss h=>by rw[y1 h hq];exact hy,I.hok.fresh (bg _),rfl,rfl⟩,?_,λb hb=>?_⟩
   ·rw[hv.length,wl,dh];omega
   ·refine⟨hz2,(hs2.2 _ D0.TIz).trans ?_,⟨ws,by rw[wl,lT],(hs2.2 _ D0.TOz).trans hO'⟩,λq hq2=>?_⟩
    ·exact kp _ _ D0.TIz D0.TITO (λh=>by
      rw[<- eC]at h;obtain⟨q,hq2,e⟩:=dq.mp h;exact(D0.c q hq2).2.1 e) st.ti
    ·rw[<- eL]at hq2;obtain⟨r,hr,rfl⟩:=dq.mp hq2;exact(on' r hr).1.at λo q=>(hs2.2 _ (D.c r hr).1).trans q
   ·rw[aQ (hne b hb)];exact(hf b hb).1
  ·exfalso;obtain⟨q,hqm,hle⟩:=hend;obtain⟨j,hj⟩:=mv hqm;obtain⟨xs,hxs,rv⟩:=rL.getL hj;have:=hx xs (i4 hxs);have:=rv.length;simp at this;omega
 done:=by
  intro X hP hw hK hc i af s σ H E I hf st hg;subst hP hw hK;obtain⟨xss,hq,xs0,hx0,hxl⟩:=hg;obtain⟨L,eL,at_,rL⟩:=lie I hq;have eT:T.map (λq=>(cE q.2.1))=L.map λq=>.ref q.c:=by rw[<- eL,dA];rfl
  have eC:T.map (λq=>q.2.1)=L.map λq=>q.c:=by rw[<- eL,dA];rfl
  have lT:T.length=L.length:=by rw[<- eL,aS]
  have inT:∀q∈L,(q.k,q.c,q.l)∈T:=λq h=>by rw[<- eL];exact my (f:=λq:Sr=>(q.k,q.c,q.l)) h
  have lne:∀q∈L,∀b∈z::TI::TO::T.map (·.2.1),q.l≠b:=λq h b hb e=>(at_ q h).2 (by rw[e];exact(hf b hb).1);have D:Ap z TI TO L:=⟨D0.TIz,D0.TOz,D0.TITO,by rw[<- eC];exact D0.nd,λq h=>D0.c _ (inT q h),λq h=>⟨lne q h z (by simp),lne q h TO (by simp),λr hr=>lne q h r.c (by rw[eC];simp only[bK];exact .inr (.inr (.inr (my (f:=λq:Sr=>q.c) hr))))⟩⟩;have hO:=st.to;obtain⟨vs,vl,hO⟩:=hO;have hTI:=st.ti;rw[eT]at hTI;have hty:s.TypeIs (.ref z) "zip" := ⟨_,st.zz,rfl⟩;unfold pyNext;refine aA (xC (tP (name:=t8 "__next__") hty t6 (mF t6 hty F.entry_zip_next
   (Dp (by first|exact I.ok.hd hc|(simp;exact I.ok.hd hc)) D (λe=>hT0 (by rw[e]at lT;exact qu lT)) st.zz hTI hO (by rw[vl,lT]) (by omega) (λq h=>⟨st.it _ (inT q h),(at_ q h).1⟩) (λh' ws hz' wl wv hO' hN on' kp=>?_) (λh' e kp he hend=>?_)) (F.args_zip_next_1 _))))
  ·exfalso;obtain⟨j,hj⟩:=mv hx0;obtain⟨q,hqj,rv⟩:=rL.uI hj;have:=(wv j q hqj).2;have:=rv.length;simp at this;omega
  ·obtain⟨o,ho,hcl⟩:=he;refine aA (wpAny_isInstance (T := "StopIteration") (b:=true) ⟨o,ho,hcl⟩ isSubtype_stop (bo ⟨rfl,?_⟩));exact BF (s:=s) (t':=s.toks) I hf λb o hb q=>by
    simp only[bK,not_or]at hb;exact kp b o hb.1 hb.2.2.1 (by rw[<- eC];exact hb.2.2.2) q
 self:=λ_ i s Q E st h=>wpAny_pyIter_zip st.zz h
end Zp
namespace Mi
def we:D->Rs (List D)
 |.lst ds=>.ok ds
 |.tup ds=>.ok ds
 |_=>.no
def sW(a b:E):I:=λe=>(a e).bind λx=>(b e).bind λy=>(we x).bind λds=>(we y).bind λes=>.ok (fW ds es)
end Mi
namespace Zp
open PySem PySem.Spec PyProof.Rows L2 A
open Mi (D W Rs Fin ao)
variable[Tb:A.a8]
theorem ie.same{H H':Hp}{s:Bool×ah}{xs:List V}(h:cq H H')(q:ie H s xs):ie H' s xs:=by
 obtain⟨k,a⟩:=s;cases k
 ·exact h _ _ q
 ·exact Lst.same (a:=a) h q
theorem pW{H H':Hp}{S:List (Bool×ah)}{xss:List (List V)}(h:cq H H')(q:ic H S xss):ic H' S xss:=q.imp λ_ _ x=>x.same h
def zN(dss:List (List D))(dz:List D):Prop:=(∀i,i<dz.length->∃us,dz[i]? = ab (.tup us)/\P2 (λ(ds:List D) u=>ds[i]? = ab u) dss us)/\∃ds∈dss,ds.length=dz.length
theorem picks{Hv:Hp}{i:Nat}:∀{dss:List (List D)} {xss:List (List V)} {us:List D} {ws:List V},P2 (P2 (Rep Hv)) dss xss->P2 (λ(ds:List D) u=>ds[i]? = ab u) dss us->P2 (λ(xs:List V) x=>xs[i]? = ab x) xss ws->P2 (Rep Hv) us ws
 |_,_,_,_,.nil,.nil,.nil=>.nil
 |_,_,_,_,.cons a r,.cons b s,.cons c t=>.cons (a.get b c) (picks r s t)
theorem zg{α β:Type}{F:α->β->Prop}:∀{l:List α} {m:List β} {b:β},P2 F l m->b∈m->∃a∈l,F a b
 |_,_,_,.cons x t,h=>by
  rcases bK.mp h with rfl|h
  ·exact⟨_,cC ..,x⟩
  ·obtain⟨a,ha,q⟩:=zg t h;exact⟨a,cA _ ha,q⟩
theorem vy{α β:Type}{F:α->β->Prop}:∀{l:List α} {m:List β} {a:α},P2 F l m->a∈l->∃b∈m,F a b
 |_,_,_,.cons x t,h=>by
  rcases bK.mp h with rfl|h
  ·exact⟨_,cC ..,x⟩
  ·obtain⟨a,ha,q⟩:=vy t h;exact⟨a,cA _ ha,q⟩
def ZP(S:List (Bool×ah))(dss:List (List D))(xss:List (List V))(_ Hv:Hp):Prop:=ic Hv S xss/\P2 (P2 (Rep Hv)) dss xss
theorem HW{S:List (Bool×ah)}{dss:List (List D)}{xss:List (List V)}{dz:List D}(hz:zN dss dz):nM (oX S) (ZP S dss xss) dz:=by
 refine⟨λi H Hv p v hi=>?_,λi H Hv x H' p v hi y=>?_,λH Hv p v=>?_⟩
 ·obtain⟨us,_,hu⟩:=hz.1 i hi;refine⟨xss,pW v.sub p.1,λxs hx=>?_⟩;obtain⟨ds,hd,r⟩:=zg p.2 hx;obtain⟨u,_,e⟩:=vy hu hd;have:=(cV.mp e).1;rw[<- r.len];exact this
 ·obtain⟨us,hd,hu⟩:=hz.1 i hi;obtain⟨q,ws,hw,hq,rfl,rfl⟩:=y;have r:=picks p.2 hu (hw xss (pW v.sub p.1));obtain⟨g,k⟩:=wg v r hq;exact⟨_,.tup us,g,hd,k⟩
 ·obtain⟨ds,hd,e⟩:=hz.2;obtain⟨xs,hx,r⟩:=vy p.2 hd;exact⟨xss,pW v.sub p.1,xs,hx,by rw[<- r.len];omega⟩
theorem BV:∀ds es:List D,zN [ds,es] (Mi.fW ds es)
 |[],es=>⟨λi h=>absurd h (by simp[Mi.fW]),[],by simp,by simp[Mi.fW]⟩
 |d::r,[]=>⟨λi h=>absurd h (by simp[Mi.fW]),[],by simp,by simp[Mi.fW]⟩
 |d::r,e::s=>by
  obtain⟨h1,ds,hd,hl⟩:=BV r s;refine⟨λi hi=>?_,?_⟩
  ·cases i with
   |zero=>exact⟨[d,e],rfl,.cons rfl (.cons rfl .nil)⟩
   |succ i=>
    obtain⟨us,a,b⟩:=h1 i (by simpa [Mi.fW]using hi);refine⟨us,by simpa [Mi.fW]using a,?_⟩;cases b with
    |cons x t=>
     cases t with
     |cons y t=>cases t;exact .cons (by simpa using x) (.cons (by simpa using y) .nil)
  ·rcases bK.mp hd with rfl|hd
   ·exact⟨d::ds,by simp,by simp[Mi.fW,hl]⟩
   ·obtain rfl:=bC.mp hd;exact⟨e::ds,by simp,by simp[Mi.fW,hl]⟩
theorem BK{x:D}{k:List D->Prop}(h:Fin (Mi.we x) k):∃ds,(x=.lst ds\/x=.tup ds)/\k ds:=by
 cases x with
 |lst b=>exact⟨b,.inl rfl,h⟩
 |tup b=>exact⟨b,.inr rfl,h⟩
 |_=>exact h.elim
theorem DE{H:Hp}{x:D}{ds:List D}{v:V}(h:x=.lst ds\/x=.tup ds)(r:Rep H x v):∃k a xs,v=.ref a/\ie H (k,a) xs/\P2 (Rep H) ds xs:=by
 rcases h with rfl|rfl
 ·obtain⟨a,xs,e,l,r⟩:=iW.mp r;exact⟨true,a,xs,e,l,r⟩
 ·obtain⟨a,xs,e,l,r⟩:=jc.mp r;exact⟨false,a,xs,e,l,r⟩
section
variable{X:Cx}{elts:List aO}{k1:Nat}{tpos:Pos}{M:Nat->Bool}
theorem j0{a b:Nat}(h:a≠b):@Ne ah a b:=h
theorem FK{n:Nat}:∀{b:Nat},b∈([n+4,n+2,n+3,n,n+1]:List Nat)->n<=b:=λ{b} h=>by simp at h;omega
theorem G4(n:Nat)(k k':Bool)(l l':ah):CZ (n+4) (n+2) (n+3) [(k,n,l),(k',n+1,l')]:=
 ⟨j0 (by omega),j0 (by omega),j0 (by omega),by show([n,n+1]:List Nat).Nodup;simp,λq hq=>by
  rcases bK.mp hq with rfl|hq
  ·exact⟨j0 (show n≠n+4 by omega),j0 (show n≠n+2 by omega),j0 (show n≠n+3 by omega)⟩
  ·obtain rfl:=bC.mp hq;exact⟨j0 (show n+1≠n+4 by omega),j0 (show n+1≠n+2 by omega),j0 (show n+1≠n+3 by omega)⟩⟩
def B6(ta tb:TE):TI:=λσ H R=>ta σ H λx H1=>tb σ H1 λy H2=>∃S xss,[x,y]=S.map (λs:Bool×ah=>V.ref s.2)/\S.length=2/\ic H2 S xss/\R (oX S) H2
theorem Hg{a b:aO}{ta tb:TE}{p pos:Pos}(hg:Gl X "zip")(hm:X.mg "zip" = ae)(ha:PE X a ta)(hb:PE X b tb)(hs:starEach [a,b] X.env=[(false,eval a X.env),(false,eval b X.env)]:=by rfl)(hs0:starEach [a,b] X.env=(false,eval a X.env)::starEach [b] X.env:=by rfl)(hs1:starEach [b] X.env=(false,eval b X.env)::starEach [] X.env:=by rfl)(hpl:(backTo pos (starEach [b] X.env)).any (·.1)=false:=by rfl) :
 PI X (.Tuple elts k1 tpos) (.Call (.Name "zip" p) [a,b] [] pos) (B6 ta tb):=by
 intro af s σ H R I h;refine Call_ (nE I hg hm boot_zip (t9 (aK (ax ha (ax hb bc hs1) hs0 pos af s σ H (λvs H1=>∃S xss,vs=S.map (λs:Bool×ah=>V.ref s.2)/\S.length=2/\ic H1 S xss/\R (oX S) H1) I ?_) λus s1 ⟨vs,H1,I1,r1,q1⟩=>?_) hs0 hpl))
 ·exact h
 ·obtain⟨S,xss,e,hl,hS,q⟩:=q1;obtain⟨⟨k,l⟩,⟨k',l'⟩,rfl⟩ : ∃x y,S=[x,y]:=by
   match S,hl with
   |[x,y],_=>exact⟨x,y,rfl⟩
  subst e;have hS0:=hS;cases hS with
  |cons s1' t=>
  cases t with
  |cons s2' t=>
  cases t;cases r1 with
  |cons u1 r1=>
  cases r1 with
  |cons u2 r1=>
  cases r1;cases u1;cases u2;obtain⟨i1,_,a1⟩:=s1'.at I1;obtain⟨i2,_,a2⟩:=s2'.at I1;refine call2 a1 a2 λh' hZ hk=>wpAny_pyIter_zip hZ.zz ?_;have I2:Inv X af σ H1 { s1 with heap:=h' }:=I1.kept (t':=s1.toks) λb o e=>hk b o e;refine⟨_,_,_,_,H1,rfl,I2,J5 (z:=s1.heap.objs.size+4) (TI:=s1.heap.objs.size+2) (TO:=s1.heap.objs.size+3) (G4 _ k k' l l') (by simp) (by simp),hZ,λb hb=>?_,q⟩;have hb:s1.heap.objs.size<=b:=FK hb;exact I1.iO hb (I1.hok.fresh hb)
theorem FI{ta tb:TE}{a b:Mi.E}(ha:AE M qV ta a)(hb:AE M qV tb b):gN M (B6 ta tb) (Mi.sW a b):=λe σ H Hv R I h=>
 ha e σ H Hv _ I ((ao.mp h).mono λx hx v H1 Hv1 g1 rx=>hb e σ H1 Hv1 _ (I.grow g1) ((ao.mp hx).mono λy hy u H2 Hv2 g2 ry=>by
  obtain⟨ds,hd,hk⟩:=BK (ao.mp hy);obtain⟨es,he,hk⟩:=BK (ao.mp hk);obtain⟨k,a,xs,rfl,s1,r1⟩:=DE hd (iV g2.vis (show Rep Hv1 x v from rx));obtain⟨k',a',ys,rfl,s2,r2⟩:=DE he (show Rep Hv2 y u from ry);have S2:ic Hv2 [(k,a),(k',a')] [xs,ys]:=.cons s1 (.cons s2 .nil);exact⟨[(k,a),(k',a')],[xs,ys],rfl,rfl,pW g2.vw.sub S2,hk (oX [(k,a),(k',a')]) H2 Hv2 (ZP [(k,a),(k',a')] [ds,es] [xs,ys]) (g1.trans g2) (HW (BV ds es)) ⟨S2,.cons r1 (.cons r2 .nil)⟩ λ_ _ _ _ z s _=>⟨pW s z.1,z.2.imp λ_ _ q=>dL s q⟩⟩))
end
section
variable{X:Cx}{af:List (ah×Obj)}{σ:L2.St}{H:Hp}{s:ak}{B:br}{E:ag->ak->Prop}{Q:ag->ak->Prop}{b:Bool}
theorem kit_at{x:V}{u t:ag}(I:Inv X af σ H s)(rx:RelV x u)(ty:fK X.K H x t):∃P:aI->Prop,PySem.W.KitX X.K u t P/\P s.heap/\u≠.builtin "__main__.__loader__#opaque":= by
 cases ty with
 |non=>cases(show u=d6 from rx);exact⟨_,DL,gK,λz=>nomatch z⟩
 |bl y=>cases(show u=mI y from rx);exact⟨_,DM,gK,λz=>nomatch z⟩
 |int i=>obtain⟨t,q⟩:=(show∃t,u=Value.int i t from rx);cases q;exact⟨_,DO,gK,λz=>nomatch z⟩
 |str y=>obtain⟨t,q⟩:=(show∃t,u=ko y t from rx);cases q;exact⟨_,DP,gK,λz=>nomatch z⟩
 |flt y=>obtain⟨t,q⟩:=(show∃t,u=xL y t from rx);cases q;exact⟨_,DJ,gK,λz=>nomatch z⟩
 | @lst a xs ea=>
  cases(show u=cE a from rx);obtain⟨_,_,n,_,h1⟩:=(show bP X.prog X.w H s.heap a (.lst xs)from I.hok a _ ea);exact⟨_,tu,⟨_,h1,rfl⟩,λz=>nomatch z⟩
 | @frz a ob xs ea=>
  cases(show u=cE a from rx);obtain⟨_,_,_,n,_,h1⟩:=(show bP X.prog X.w H s.heap a (.frz ob (.lst xs))from I.hok a _ ea);exact⟨_,tu,⟨_,h1,rfl⟩,λz=>nomatch z⟩
 | @tup a xs ea=>
  cases(show u=cE a from rx);obtain⟨_,_,_,o,h1,h2,_⟩:=(show bP X.prog X.w H s.heap a (.tup xs)from I.hok a _ ea);exact⟨_,DK,⟨o,h1,h2⟩,λz=>nomatch z⟩
 | @dK a am ea=>
  cases(show u=cE a from rx);obtain⟨_,_,vs,_,o,es,ep,h1,h2,_⟩:=(show bP X.prog X.w H s.heap a (.dK am)from I.hok a _ ea);exact⟨_,tw,⟨o,h1,h2.1⟩,λz=>nomatch z⟩
 | @dT a am ea=>
  cases(show u=cE a from rx);obtain⟨_,_,xs,_,o,es,ep,h1,h2,_⟩:=(show bP X.prog X.w H s.heap a (.dT am)from I.hok a _ ea);exact⟨_,tw,⟨o,h1,h2.1⟩,λz=>nomatch z⟩
 | @ins a C dx fs ea cl ha hn htk hm=>
  cases(show u=cE a from rx);obtain⟨mA,O,_⟩:=zQ I.hok ea;obtain⟨od,J,_⟩:=O.look;exact⟨_,DQ (cl.get _) cl.hd ha hn htk hm,J,λz=>nomatch z⟩
theorem yY:∀{Ts:List String} {us:List ag},Vals (Ts.map V.ty) us->us=Ts.map .type
 |[],_,.nil=>rfl
 |T::r,_,.cons a t=>by
  have a:_=t7 T:=a;rw[a,yY t];rfl
def zG(K:aB):List V->Hp->VK->Prop:=λxs H Q=>∃(x:V) (t:ag) (tp:ah) (Ts:List String) (b:Bool),xs=[x,.ref tp]/\H tp=ab (.tup (Ts.map V.ty))/\fK K H x t/\w9 K t (Ts.map .type)=ab b/\Q (.bl b) H
theorem A9:fo X (.builtin "isinstance") (zG X.K):=by intro af s σ H xs us Q I r h;obtain⟨x,t,tp,Ts,b,rfl,ht,ty,e,q⟩:=h;obtain⟨u,w',rfl,rx,rt⟩:=vals2 r;cases(show w'=cE tp from rt);obtain⟨_,ai,rv,o,h1,h2,_,n,h3⟩:=(show bP X.prog X.w H s.heap tp (.tup (Ts.map V.ty))from I.hok tp _ ht);obtain rfl:=yY rv;obtain⟨c,d,dt,sl⟩:=o;simp only at h2 h3;subst h2 h3;obtain⟨P,kx,p,hn⟩:=kit_at I rx ty;exact PySem.W.kia_tup kx I.eX p h1 e hn λtk=>⟨.bl b,H,I.tok tk,rfl,q⟩
end
theorem AD{K:aB}{d:D}:∀{Ts:List String},(∀T∈Ts,iI K T)->w9 K (.type (Mi.vH d)) (Ts.map .type)=ab (Ts.any λt=>Mi.nB t d)
 |[],_=>rfl
 |T::r,h=>by
  have h1:=h T (cC ..) d;have h2:=AD (d:=d) λT' hT=>h T' (cA _ hT);rw[cD,w9,h1];cases e:Mi.nB T d
  ·simp only[i5,e,jH];exact h2
  ·simp only[i5,e,xH]
theorem zM{K:aB}{S T:String}(h:iI K S)(g:iI K T):∀U∈[S,T],iI K U:=λU hU=>by
 rcases bK.mp hU with rfl|hU
 ·exact h
 ·obtain rfl:=bC.mp hU;exact g
def uS:List String->TA
 |[]=>gn
 |T::r=>fw (tC (.ty T)) (uS r)
theorem B3:∀(Ts:List String) (σ:L2.St) (H:Hp) (Q:List V->Hp->Prop),Q (Ts.map V.ty) H->uS Ts σ H Q
 |[],_,_,_,h=>h
 |T::r,σ,H,Q,h=>B3 r σ H _ h
section
variable{M:Nat->Bool}{K:aB}{ta:TE}{a:Mi.E}
theorem Dx{Ts:List String}(hT:∀T∈Ts,iI K T)(hl:Ts.length<=8)(ha:AE M qP ta a):AE M qV (oH (zG K) (fw ta (fw (u0 (uS Ts)) gn))) (Mi.m1 (Mi.cT Ts) a):=λe σ H Hv Q I h=>
 ha e σ H Hv _ I ((ao.mp h).mono λx hx v H1 Hv1 g1 rx=>B3 Ts σ H1 _ ⟨by rw[aS,dh];omega,λp hp=>by
  have g2:aZ H1 Hv1 (upd H1 p (.tup (Ts.map V.ty))) (upd Hv1 p (.tup (Ts.map V.ty))):=.new g1.vw hp;have g:=g1.trans g2;exact⟨v,_,p,Ts,_,rfl,cg,A3 g.vw (RB.grow g2 rx),AD hT,(Mi.j1 hx) _ _ _ g fq⟩⟩)
end
end Zp
namespace Mi
abbrev SN:=List D->List D->Env->Rs Out
end Mi
namespace So
open PySem PySem.W PyProof.Rows
def gi{α:Type}(n:Nat)(lt:Nat->Nat->Bool):KasT α->(α->Prop)->Prop
 |.ret a,Q=>Q a
 |.ask i j k,Q=>i<n/\j<n/\gi n lt (k (lt i j)) Q
theorem n9{α β:Type}{n:Nat}{lt:Nat->Nat->Bool}{f:α->KasT β}{Q:β->Prop}:∀{t:KasT α},gi n lt t (λa=>gi n lt (f a) Q)->gi n lt (t.bind f) Q
 |.ret _,h=>h
 |.ask _ _ k,h=>⟨h.1,h.2.1,n9 (t:=k _) h.2.2⟩
theorem jz{α:Type}{n:Nat}{lt:Nat->Nat->Bool}{Q Q':α->Prop}(m:∀a,Q a->Q' a):∀{t:KasT α},gi n lt t Q->gi n lt t Q'
 |.ret _,h=>m _ h
 |.ask _ _ k,h=>⟨h.1,h.2.1,jz m (t:=k _) h.2.2⟩
theorem DG{α:Type}{n:Nat}{lt:Nat->Nat->Bool}{cmp:Nat->Nat->(Bool->ak->Prop)->ak->Prop}{s:ak}(hc:∀i j C,i<n->j<n->C (lt i j) s->cmp i j C s){Q:α->Prop}:∀{t:KasT α},gi n lt t Q->t.kasWp cmp (λa s'=>s'=s/\Q a) s
 |.ret _,h=>⟨rfl,h⟩
 |.ask i j k,h=>hc i j _ h.1 h.2.1 (DG hc (t:=k _) h.2.2)
section
variable{n:Nat}{lt:Nat->Nat->Bool}
structure sr(n:Nat)(lt:Nat->Nat->Bool):Prop where
 tot:∀i j,i<n->j<n->i≠j->lt i j=true\/lt j i=true
 asy:∀i j,i<n->j<n->lt i j=true->lt j i=false
 tr:∀i j k,i<n->j<n->k<n->lt i j=true->lt j k=true->lt i k=true
abbrev at'(p:Array Nat)(i:Nat):Nat:=p.getD i 0
structure Pm(n:Nat)(p:Array Nat):Prop where
 pm:p.Perm (km (bn n))
theorem Pm.size{p:Array Nat}(h:Pm n p):p.size=n:=by have:=h.pm.size_eq;simpa using this
theorem pe{p:Array Nat}{i:Nat}(h:i<p.size):at' p i=p[i]:=by simp[at',Array.getD,h]
theorem Pm.bd{p:Array Nat}(h:Pm n p){i:Nat}(hi:i<n):at' p i<n:=by
 have hs:i<p.size:=by rw[h.size];exact hi
 rw[pe hs];have:p[i]∈(km (bn n)).toList:=(uc.mp h.pm).mem_iff.mp (by simp);simpa using this
theorem Pm.inj{p:Array Nat}(h:Pm n p){i j:Nat}(hi:i<n)(hj:j<n)(e:at' p i=at' p j):i=j:=by
 have si:i<p.size:=by rw[h.size];exact hi
 have sj:j<p.size:=by rw[h.size];exact hj
 rw[pe si,pe sj]at e;have nd:p.toList.Nodup:=(uc.mp h.pm).nodup_iff.mpr (by simpa using List.nodup_range);have e2:p.toList[i]'(by simpa using si)=p.toList[j]'(by simpa using sj):=by simpa using e
 exact(ki nd).mp e2
def Sd(lt:Nat->Nat->Bool)(p:Array Nat)(k:Nat):Prop:=∀i j,i<j->j<k->lt (at' p i) (at' p j)=true
def Dd(lt:Nat->Nat->Bool)(p:Array Nat)(k:Nat):Prop:=∀i j,i<j->j<k->lt (at' p j) (at' p i)=true
variable(O:sr n lt)
include O
theorem not_lt{p:Array Nat}(h:Pm n p){i j:Nat}(hi:i<n)(hj:j<n)(ne:i≠j)(e:lt (at' p i) (at' p j)=false):lt (at' p j) (at' p i)=true:=by
 rcases O.tot _ _ (h.bd hi) (h.bd hj) (λz=>ne (h.inj hi hj z))with z|z
 ·rw[e]at z;cases z
 ·exact z
theorem Sd.more{p:Array Nat}(h:Pm n p){k:Nat}(s:Sd lt p k)(hk:1<=k)(hkn:k<n)(e:lt (at' p (k-1)) (at' p k)=true):Sd lt p (k+1):=λi j hij hj=>by
 by_cases hjk:j<k
 ·exact s i j hij hjk
 ·obtain rfl:j=k:=by omega
  by_cases hi:i=j-1
  ·subst hi;exact e
  ·exact O.tr _ _ _ (h.bd (by omega)) (h.bd (by omega)) (h.bd hkn) (s i (j-1) (by omega) (by omega)) e
theorem Dd.more{p:Array Nat}(h:Pm n p){k:Nat}(s:Dd lt p k)(hk:1<=k)(hkn:k<n)(e:lt (at' p k) (at' p (k-1))=true):Dd lt p (k+1):=λi j hij hj=>by
 by_cases hjk:j<k
 ·exact s i j hij hjk
 ·obtain rfl:j=k:=by omega
  by_cases hi:i=j-1
  ·subst hi;exact e
  ·exact O.tr _ _ _ (h.bd hkn) (h.bd (by omega)) (h.bd (by omega)) e (s i (j-1) (by omega) (by omega))
theorem vd{p:Array Nat}(h:Pm n p):∀(f k:Nat),1<=k->k+f<=n->Sd lt p k->gi n lt (kas_asc p f k) λm=>k<=m/\m<=k+f/\Sd lt p m/\(m=k+f\/lt (at' p m) (at' p (m-1))=true)
 |0,k,_,_,s=>⟨bg _,bg _,s,.inl rfl⟩
 |f+1,k,h1,h2,s=>by
  refine⟨h.bd (by omega),h.bd (by omega),?_⟩;cases e:lt (p.getD k 0) (p.getD (k-1) 0)with
  |true=>exact⟨bg _,by omega,s,.inr e⟩
  |false=>
   dsimp only;rw[ay cW];refine jz (λm hm=>?_) (vd h f (k+1) (by omega) (by omega) (Sd.more O h s h1 (by omega) (not_lt O h (by omega) (by omega) (by omega) e)));refine⟨by omega,by omega,hm.2.2.1,?_⟩;rcases hm.2.2.2 with z|z
   ·exact .inl (by omega)
   ·exact .inr z
theorem Cm{p:Array Nat}(h:Pm n p):∀(f k:Nat),1<=k->k+f<=n->Dd lt p k->gi n lt (kas_desc f p k 0) λr=>r.1=p/\k<=r.2.1/\r.2.1<=k+f/\r.2.2=0/\Dd lt p r.2.1
 |0,k,_,_,s=>⟨rfl,bg _,bg _,rfl,s⟩
 |f+1,k,h1,h2,s=>by
  refine⟨h.bd (by omega),h.bd (by omega),?_⟩;cases e:lt (p.getD k 0) (p.getD (k-1) 0)with
  |true=>
   dsimp only;rw[aw rfl,ay (by omega)];refine jz (λr hr=>⟨hr.1,by omega,by omega,hr.2.2.2⟩) (Cm h f (k+1) (by omega) (by omega) (Dd.more O h s h1 (by omega) e))
  |false=>
   dsimp only;rw[ay cW];refine⟨h.bd (by omega),h.bd (by omega),?_⟩;dsimp only;rw[show lt (p.getD (k-1) 0) (p.getD k 0)=true from not_lt O h (by omega) (by omega) (by omega) e,aw rfl];exact⟨rfl,bg _,by show k<=_;omega,rfl,s⟩
theorem C4{p:Array Nat}{k:Nat}(hk:k<=p.size)(i:Nat):at' (kas_rev p 0 k) i=if i<k then at' p (k-1-i)else at' p i:=by
 have e:=getElem?_mirror_all (xs:=p) (i:=0) (j:=k) hk i;show(kas_rev p 0 k).getD i 0=_;have g:∀(q:Array Nat) (j:Nat),q.getD j 0=(q[j]?).getD 0:=λq j=>by simp
 rw[g];unfold kas_rev;rw[e];by_cases hi:i<k
 ·rw[aw ⟨fi _,hi⟩,aw hi,<- g,show 0+k-1-i=k-1-i by omega]
 ·rw[ay (by omega),ay hi,<- g]
theorem Br{p:Array Nat}(h:Pm n p)(k:Nat):Pm n (kas_rev p 0 k):=⟨(mirror_perm _ _ _ _).trans h.pm⟩
theorem yK{p:Array Nat}(h:Pm n p){k:Nat}(h1:1<=k)(h2:k<=n)(s:Dd lt p k):gi n lt (kas_tail3 k n p) λr=>Pm n r.2/\1<=r.1/\r.1<=n/\Sd lt r.2 r.1:=by
 have sz:k<=p.size:=by rw[h.size];exact h2
 have s':Sd lt (kas_rev p 0 k) k:=λi j hij hj=>by
  rw[C4 O sz,C4 O sz,aw (by omega),aw hj];exact s _ _ (by omega) (by omega)
 refine n9 (jz (λm hm=>?_) (vd O (Br O h k) (n-k) k h1 (by omega) s'));exact⟨Br O h k,by omega,by omega,hm.2.2.1⟩
theorem JZ{p:Array Nat}(h:Pm n p){k:Nat}(h2:k+1<=n)(s:Dd lt p (k+1)):gi n lt (kas_descPart k n p) λr=>Pm n r.2/\1<=r.1/\r.1<=n/\Sd lt r.2 r.1:=by refine n9 (jz (λr hr=>?_) (Cm O h (n-(k+1)) (k+1) (by omega) (by omega) s));obtain⟨e1,l1,l2,e2,d⟩:=hr;rw[e2,ay (by omega),e1];exact yK O h (by omega) (by omega) d
theorem Ik{p:Array Nat}(h:Pm n p)(h1:1<=n):gi n lt (kas_count n p) λr=>Pm n r.2/\1<=r.1/\r.1<=n/\Sd lt r.2 r.1:=by
 refine n9 (jz (λm hm=>?_) (vd O h (n-1) 1 (bg _) (by omega) (λi j hij hj=>by omega)));obtain⟨m1,m2,s,e⟩:=hm;by_cases hn:m=n
 ·rw[aw (by simpa using hn)];exact⟨h,m1,by omega,s⟩
 ·rw[ay (by simpa using hn)];have e:=e.resolve_left (by omega);by_cases hg:m>1
  ·rw[aw hg];refine⟨h.bd (by omega),h.bd (by omega),?_⟩;dsimp only;rw[show lt (p.getD 0 0) (p.getD (m-1) 0)=true from s 0 (m-1) (by omega) (by omega),aw rfl];exact⟨h,m1,by omega,s⟩
  ·rw[ay hg];obtain rfl:m=1:=by omega
   refine JZ O h (by omega) λi j hij hj=>?_;obtain rfl:i=0:=by omega
   obtain rfl:j=1:=by omega
   exact e
theorem uv{p:Array Nat}(h:Pm n p){k:Nat}(hk:k<n)(s:Sd lt p k):∀(f l r:Nat),l<=r->r<=k->r-l<=f->(∀i,i<l->lt (at' p i) (at' p k)=true)->(∀i,r<=i->i<k->lt (at' p k) (at' p i)=true) ->
 gi n lt (kas_place p k f l r) λm=>m<=k/\(∀i,i<m->lt (at' p i) (at' p k)=true)/\(∀i,m<=i->i<k->lt (at' p k) (at' p i)=true)
 |0,l,r,h1,h2,h3,a,b=>by
  obtain rfl:l=r:=by omega
  exact⟨h2,a,b⟩
 |f+1,l,r,h1,h2,h3,a,b=>by
  unfold kas_place;by_cases g:l >= r
  ·rw[aw g];obtain rfl:l=r:=by omega
   exact⟨h2,a,b⟩
  ·rw[ay g];refine⟨h.bd hk,h.bd (by omega),?_⟩;cases e:lt (p.getD k 0) (p.getD ((l+r)/2) 0)with
   |true=>
    dsimp only;rw[aw rfl];refine uv h hk s f l ((l+r)/2) (by omega) (by omega) (by omega) a λi hi hk'=>?_;by_cases z:i=(l+r)/2
    ·subst z;exact e
    ·exact O.tr _ _ _ (h.bd hk) (h.bd (by omega)) (h.bd (by omega)) e (s _ _ (by omega) hk')
   |false=>
    dsimp only;rw[ay cW];have e':=not_lt O h hk (by omega) (by omega) e;refine uv h hk s f ((l+r)/2+1) r (by omega) h2 (by omega) (λi hi=>?_) b;by_cases z:i=(l+r)/2
    ·subst z;exact e'
    ·exact O.tr _ _ _ (h.bd (by omega)) (h.bd (by omega)) (h.bd hk) (s _ _ (by omega) (by omega)) e'
theorem AV{p:Array Nat}{k d:Nat}(hk:k<p.size)(hd:d<=k)(i:Nat):at' (bubble p k d) i=if i=k-d then at' p k else if k-d<i/\i<=k then at' p (i-1)else at' p i:=by
 have e:=getElem?_bubble hk d hd i;have g:∀(q:Array Nat) (j:Nat),q.getD j 0=(q[j]?).getD 0:=λq j=>by simp
 show(bubble p k d).getD i 0=_;rw[g,e];by_cases h1:i=k-d
 ·rw[aw h1,aw h1,<- g]
 ·rw[ay h1,ay h1];by_cases h2:k-d<i/\i<=k
  ·rw[aw h2,aw h2,<- g]
  ·rw[ay h2,ay h2,<- g]
theorem zT:∀(f:Nat) (p:Array Nat) (k:Nat),Pm n p->k+f<=n->Sd lt p k->gi n lt (kas_bin f p k) λq=>Pm n q/\Sd lt q (k+f)
 |0,p,k,h,_,s=>⟨h,s⟩
 |f+1,p,k,h,hk,s=>by
  have sz:k<p.size:=by rw[h.size];omega
  refine n9 (jz (λl hl=>?_) (uv O h (by omega) s k 0 k (by omega) (bg _) (by omega) (λi hi=>by omega) (λi h1 h2=>by omega)));obtain⟨l1,lo,hi⟩:=hl;have s':Sd lt (bubble p k (k-l)) (k+1):=λi j hij hj=>by
   rw[AV O sz (d:=k-l) (by omega),AV O sz (d:=k-l) (by omega),show k-(k-l)=l by omega];by_cases c1:i=l
   ·rw[aw c1,ay (by omega),aw (by omega)];exact hi _ (by omega) (by omega)
   ·rw[ay c1];by_cases c2:l<i/\i<=k
    ·rw[aw c2,ay (by omega),aw (by omega)];exact s _ _ (by omega) (by omega)
    ·rw[ay c2];by_cases c3:j=l
     ·rw[aw c3];exact lo _ (by omega)
     ·rw[ay c3];by_cases c4:l<j/\j<=k
      ·rw[aw c4];exact s _ _ (by omega) (by omega)
      ·rw[ay c4];exact s _ _ (by omega) (by omega)
  refine jz (λq hq=>⟨hq.1,?_⟩) (zT f (bubble p k (k-l)) (k+1) ⟨(bubble_perm _ _ _).trans h.pm⟩ (by omega) s');rw[show k+(f+1)=k+1+f by omega];exact hq.2
theorem FH(h1:1<=n):gi n lt (kas_sort n) λq=>Pm n q/\Sd lt q n:=by
 refine n9 (jz (λr hr=>?_) (Ik O ⟨EL _⟩ h1));obtain⟨pm,r1,r2,s⟩:=hr;by_cases hl:r.1<n
 ·rw[aw hl];refine jz (λq hq=>⟨hq.1,?_⟩) (zT O (n-max r.1 1) r.2 (max r.1 1) pm (by omega) (by rw[show max r.1 1=r.1 by omega];exact s));rw[show n=max r.1 1+(n-max r.1 1)by omega];exact hq.2
 ·rw[ay hl];exact⟨pm,by rw[show n=r.1 by omega];exact s⟩
end
end So
namespace So
open PySem PySem.W PyProof.Rows PySem.MeetsSeq3
def bv:List Int->List Int->Bool
 |[],[]=>false
 |[],_::_=>true
 |_::_,[]=>false
 |a::r,b::t=>if a==b then bv r t else decide (a<b)
section
variable{prog:bb}{w:aT}{Ar:br}
theorem C9{vs:List ag}{ns:List Int}(h:iD vs ns):∀{i:Nat} {n:Int},ns[i]? = ab n->∃t,vs[i]? = ab (.int n t):=by
 induction h with
 |nil=>intro i n e;simp at e
 |cons a t h ih=>
  intro i n e;cases i with
  |zero=>simp at e;subst e;exact⟨t,rfl⟩
  |succ i=>exact ih (by simpa using e)
theorem Gq{R:Result->ak->Prop}{s:ak}{l b:ah}{us vs:List ag}{xs ys:List Int}{o o2:Obj}{n n2:Nat}(ho:s.heap.get? l=ab o)(hd:o.data=.seq us.toArray n)(ho2:s.heap.get? b=ab o2)(hd2:o2.data=.seq vs.toArray n2)(hu:iD us xs)(hv:iD vs ys) :
 ∀(k i:Nat),xs.length-i<=k->i<=xs.length->i<=ys.length->R (.ok (.ret (.bool (bv (xs.drop i) (ys.drop i))))) s->codeAny (model prog w) Ar (.builtin "list.__eq__.loop" ⟨[.ref l,.ref b,rawInt i,rawInt 0],[]⟩) R s:=by
 have l1:=hu.length;have l2:=hv.length;have gx:∀i,i<xs.length->∃t,us.toArray[i]? = ab (.int (xs.getD i 0) t):=λi hi=>by
  obtain⟨t,e⟩:=C9 hu (i:=i) (n:=xs.getD i 0) (by simp[hi]);exact⟨t,by simpa using e⟩
 have gy:∀i,i<ys.length->∃t,vs.toArray[i]? = ab (.int (ys.getD i 0) t):=λi hi=>by
  obtain⟨t,e⟩:=C9 hv (i:=i) (n:=ys.getD i 0) (by simp[hi]);exact⟨t,by simpa using e⟩
 have nx:∀i,¬ i<xs.length->us.toArray[i]? = ae:=λi hi=>by simp;omega
 have ny:∀i,¬ i<ys.length->vs.toArray[i]? = ae:=λi hi=>by simp;omega
 have ES:∀i,i=xs.length->i<=ys.length->decide (us.toArray.size<vs.toArray.size)=bv (xs.drop i) (ys.drop i):=λi hi hj=>by
  rw[xc (by omega:xs.length<=i),bG,bG,l1,l2];by_cases h:i<ys.length
  ·rw[mo h];simp[bv];omega
  ·rw[xc (by omega:ys.length<=i)];simp[bv];omega
 have Lq:∀i,i<xs.length->i=ys.length->decide (us.toArray.size<vs.toArray.size)=bv (xs.drop i) (ys.drop i):=λi hi hj=>by
  rw[xc (by omega:ys.length<=i),mo hi,bG,bG,l1,l2];simp[bv];omega
 have fin:∀(i:Nat),(us.toArray[i]? = ae\/vs.toArray[i]? = ae)->R (.ok (.ret (.bool (decide (us.toArray.size<vs.toArray.size))))) s->codeAny (model prog w) Ar (.builtin "list.__eq__.loop" ⟨[.ref l,.ref b,rawInt i,rawInt 0],[]⟩) R s:=λi hn h=>by
  refine codeAny_builtin entry_eq_loop (by
   rw[EK uh _];unfold jF.«list.__eq__.loop»;show wpAny _ _ (EE (.ref l) >>= _) _ _ _;refine aA (i7 ho hd (aA (i7 ho2 hd2 ?_)));simp only[jI];rcases hn with e|e
   ·rw[e];dsimp only;refine aA (i7 ho hd (aA (i7 ho2 hd2 ?_)));exact bo h
   ·rw[e];cases us.toArray[i]? <;>
    ·dsimp only;refine aA (i7 ho hd (aA (i7 ho2 hd2 ?_)));exact bo h)
 intro k
 induction k with
 |zero=>
  intro i hk h1 h2 h;refine fin i (.inl (nx i (by omega))) ?_;rw[ES i (by omega) h2];exact h
 |succ k ih=>
  intro i hk h1 h2 h;by_cases hi:i<xs.length
  ·by_cases hj:i<ys.length
   ·obtain⟨t,e1⟩:=gx i hi;obtain⟨u,e2⟩:=gy i hj;have dx:xs.drop i=xs.getD i 0::xs.drop (i+1):=by rw[mo hi];simp[hi]
    have dy:ys.drop i=ys.getD i 0::ys.drop (i+1):=by rw[mo hj];simp[hj]
    rw[dx,dy]at h;refine codeAny_builtin entry_eq_loop (by
     rw[EK uh _];unfold jF.«list.__eq__.loop»;show wpAny _ _ (EE (.ref l) >>= _) _ _ _;refine aA (i7 ho hd (aA (i7 ho2 hd2 ?_)));simp only[jI];rw[e1,e2];dsimp only;refine aA (wpAny_eqBool_int ?_);cases hb:(xs.getD i 0==ys.getD i 0)with
     |true=>
      rw[aw rfl];rw[bv,hb,aw rfl]at h;refine bo ⟨plainId_quiet uh _,?_⟩;have:=ih (i+1) (by omega) hi hj h;rw[show rawInt ((i+1:Nat):Int)=rawInt ((i:Int)+1)from by rw[show((i+1:Nat):Int)=(i:Int)+1 by omega]]at this;exact this
     |false=>
      rw[ay cW];rw[bv,hb,ay cW]at h;refine aA (i7 ho hd (aA (i7 ho2 hd2 ?_)));rw[e1,e2];show wpAny _ _ (richCompare .Lt _ _ >>= _) _ _ _;exact aA (show wpAny _ _ (compareOp .Lt _ _) _ _ _ from wpAny_lt_int (bo h)))
   ·refine fin i (.inr (ny i hj)) ?_;rw[Lq i hi (by omega)];exact h
  ·refine fin i (.inl (nx i hi)) ?_;rw[ES i (by omega) h2];exact h
theorem Fu{E:ag->ak->Prop}{s:ak}{l b:ah}{us vs:List ag}{xs ys:List Int}{o o2:Obj}{n n2:Nat}{Q:Bool->ak->Prop}(ho:s.heap.get? l=ab o)(hc:o.cls=.type "list")(hd:o.data=.seq us.toArray n)(ho2:s.heap.get? b=ab o2)(hc2:o2.cls=.type "list")(hd2:o2.data=.seq vs.toArray n2)(hu:iD us xs)(hv:iD vs ys)
 (hun:Ar.units<cLine) (h:Q (bv xs ys) s):wpAny (model prog w) Ar (keyLt' oneType' (.ref l) (.ref b)) Q E s:=by
 have t1:s.TypeIs (.ref l) "list" := ⟨_,ho,hc⟩;have t2:s.TypeIs (.ref b) "list" := ⟨_,ho2,hc2⟩;rw[keyLt'_oneType,oneLt'_eq];simp only[gX];refine aA (wpAny_cRoomFor hun ?_);refine aA (wpAny_callSpecialIfBound?_slot t1 xK (wpAny_call (codeAny_call_builtin xK.plain PySem.F.entry_list_lt (xK.check _ _ _ _ _ _ _ _ t1 (PySem.F.args_list_lt_2 _ _) ?_))));unfold jF.«list.__lt__»;have sub:isSubtype (.type "list") (.type "list")=pure true:=by rw[isSubtype_type];kernel_rfl
 show wpAny _ _ (isInstance (.ref b) (.type "list") >>= _) _ _ _;refine aA (wpAny_isInstance t2 sub ?_);refine bo ⟨plainId_quiet uh _,?_⟩;refine Gq ho hd ho2 hd2 hu hv xs.length 0 (by omega) (fi _) (fi _) ?_;exact om h
end
end So
namespace So
theorem pZ:∀{a b:List Int},a≠b->bv a b=true\/bv b a=true
 |[],[],h=>absurd rfl h
 |[],_::_,_=>.inl rfl
 |_::_,[],_=>.inr rfl
 |a::r,b::t,h=>by
  rw[bv,bv];by_cases e:a=b
  ·subst e;simp only[jR,gX];exact pZ λz=>h (by rw[z])
  ·have e':¬ b=a:=λz=>e z.symm;simp only[j7,e,e',gg,ke];omega
theorem oW:∀{a b:List Int},bv a b=true->bv b a=false
 |[],[],h=>by simp[bv]at h
 |[],_::_,_=>rfl
 |_::_,[],h=>by simp[bv]at h
 |a::r,b::t,h=>by
  rw[bv]at h ⊢;by_cases e:a=b
  ·subst e;simp only[jR,gX]at h ⊢;exact oW h
  ·have e':¬ b=a:=λz=>e z.symm;simp only[j7,e,e',gg,ke,mO]at h ⊢;omega
theorem rQ:∀{a b c:List Int},bv a b=true->bv b c=true->bv a c=true
 |[],[],_,h,_=>by simp[bv]at h
 |[],_::_,[],_,h=>by simp[bv]at h
 |[],_::_,_::_,_,_=>rfl
 |_::_,[],_,h,_=>by simp[bv]at h
 |_::_,_::_,[],_,h=>by simp[bv]at h
 |a::r,b::t,c::u,h,k=>by
  rw[bv]at h k ⊢;by_cases e:a=b
  ·subst e;simp only[jR,gX]at h;by_cases f:a=c
   ·subst f;simp only[jR,gX]at k ⊢;exact rQ h k
   ·simp only[j7,f,gg]at k ⊢;exact k
  ·simp only[j7,e,gg,ke]at h;by_cases f:b=c
   ·subst f;simp only[j7,e,gg,ke];exact h
   ·simp only[j7,f,gg,ke]at k;have:¬ a=c:=by omega
    simp only[j7,this,gg,ke];omega
def nY(kz:List (List Int))(i j:Nat):Bool:=bv (kz.getD i []) (kz.getD j [])
theorem Kt{kz:List (List Int)}(nd:kz.Nodup):sr kz.length (nY kz):=by
 have inj:∀i j,i<kz.length->j<kz.length->i≠j->kz.getD i []≠kz.getD j []:=λi j hi hj ne e=>by
  rw[dH,dm hi,dH,dm hj]at e;exact ne ((ki nd).mp e)
 exact⟨λi j hi hj ne=>pZ (inj i j hi hj ne),λi j _ _ h=>oW h,λi j k _ _ _ h g=>rQ h g⟩
end So
namespace L2
open PySem PySem.Spec PyProof.Rows A So
variable[Tb:a8]
section
variable{X:Cx}{af:List (ah×Obj)}{σ:St}{H:Hp}{s:ak}
theorem adopt{fp:List ah}{D:ah}{o:HO}{h':aI}{t':Nat}(I:Inv X af σ H s)(hf:∀b∈fp,gZ X af H b)(hD:D∈fp)(k:∀b u,b∉fp->s.heap.get? b=ab u->h'.get? b=ab u)
 (new:bP X.prog X.w (upd H D o) h' D o):Inv X af σ (upd H D o) { s with heap:=h',toks:=t' }:=by
 have hn:H D=ae:=(hf D hD).1;have nfp:∀b u,H b=ab u->b∉fp:=λb u e z=>by rw[(hf b z).1]at e;cases e
 refine I.call' (s':={ s with heap:=h',toks:=t' }) (ch:=fp) rfl ⟨λb u e _ _ hb=>k b u hb e,λb u e _ _ hb=>⟨u.slots,k b u hb e⟩,λb u e hb hx=>?_,λb u e hb=>⟨u,k b u hb e⟩,λb xs e=>?_,λb q u e=>?_,λb w ps e=>⟨#[],?_⟩⟩ ?_ I.bare
  λb hb=>⟨(hf b hb).2.2.2.1,(hf b hb).2.1,(hf b hb).2.2.2.2.1,(hf b hb).2.2.2.2.2⟩
 ·rw[aQ (λz=>hx (by rw[z];exact hD))];exact hb
 ·rw[aQ (cQ e hn)];exact e
 ·rw[aQ (cQ e hn)];exact e
 ·rw[aQ (cQ e hn),e];simp
 ·intro b u e;by_cases hb:b=D
  ·subst hb;rw[cg]at e;cases e;exact new
  ·rw[aQ hb]at e;refine(I.hok b u e).stay (λc v hc q=>k c v ?_ q) (λc q=>by rw[aQ (cQ q hn)];exact q) λc xs q=>by rw[aQ (cQ q hn)];exact q
   rcases hc with z|z
   ·rw[z];exact nfp b u e
   ·exact nfp c _ z
theorem As:∀{ns:List Int} {ai:List ag},Vals (ns.map V.int) ai->iD ai ns
 |[],_,.nil=>.nil
 |n::r,_,.cons h t=>by
  obtain⟨t1,rfl⟩:=h;exact .cons n t1 (As t)
end
end L2
namespace Mi
open PySem
def uO:D->Option (List Str)
 |.tup ds=>iY ds
 |.lst ds=>iY ds
 |_=>ae
def rG(x y:D):Rs D:=match y with
 |.str z=>(cN (uO x)).bind λys=>a6 (z∈ys/\ys.length<=1000) (.ok (.int (ys.idxOf z:Nat)))
 |_=>.no
def ji:List D->Option (List Int)
 |[]=>ab []
 |.int i::r=>(ji r).map (i :: ·)
 |_=>ae
end Mi
namespace A
open PySem L2 PyProof.Rows
open Mi (D W Rs Fin ao Out Tg)
variable[Tb:a8]
section
variable{prog:bb}{w:aT}{Ar:br}
theorem ut(x y:Str)(t u:Tok):EG (.str x t) (.str y u) (x.cps.toList==y.cps.toList):=Ll x y t u
theorem qW{ys:List Str}{us:List ag}(r:Vals (ys.map V.str) us){i:Nat}(h:i<ys.length):∃t,us[i]? = ab (.str (ys.getD i d8) t):=by
 have e:(ys.map V.str)[i]? = ab (.str (ys.getD i d8)):=by simp[h]
 obtain⟨u,e2,r2⟩:=r.get e;obtain⟨t,rfl⟩:=r2;exact⟨t,e2⟩
theorem zS{ys:List Str}{z:Str}(h:z∈ys):ys.idxOf z<ys.length/\ys.getD (ys.idxOf z) d8=z/\∀m,m<ys.idxOf z->ys.getD m d8≠z:=by
 have hl:=List.idxOf_lt_length_of_mem h;refine⟨hl,by simp[hl],λm hm e=>?_⟩;have:m<ys.length:=Nat.lt_trans hm hl;have e2:ys[m]=z:=by simpa [this]using e
 have:=List.not_of_lt_findIdx (p:=(· == z)) (xs:=ys) (i:=m) hm;simp[e2]at this
theorem Gy{E:ag->ak->Prop}{s:ak}{t:ah}{us:List ag}{ys:List Str}{z:Str}{tz:Tok}{Q:ag->ak->Prop}(ht:IsTup s.heap t us.toArray)(r:Vals (ys.map V.str) us)(hz:z∈ys)
 (h:Q (.int (ys.idxOf z:Nat) s.toks) { s with toks:=s.toks+1 }):wpAny (model prog w) Ar (call (.builtin "tuple.index") [.ref t,.str z tz]) Q E s:=by
 obtain⟨h1,h2,h3⟩:=zS hz;have hl:=r.length;rw[aS]at hl;refine mF El ht.typeIs PySem.F.entry_tuple_index ?_ (PySem.F.args_tuple_index_2 _ _);show wpAny _ _ (Builtin.Tuple.tupleItemsOf (.ref t) >>= _) _ _ s;refine aA (tupleItemsOf_ ht ?_);refine aA (bo (aA (bo ?_)));dsimp only;rw[xN];have hsz:([0:min us.toArray.size us.toArray.size]:Std.Legacy.Range).size=us.length:=by simp[Std.Legacy.Range.size]
 rw[hsz];show wpAny _ _ (forIn (List.range' 0 us.length 1) _ _ >>= _) _ _ _;have go:∀(k i:Nat),ys.idxOf z=i+k->∀(G:Option qF×Unit->ak->Prop),G (ab (.done (.ret (.int (ys.idxOf z:Nat) s.toks))),()) { s with toks:=s.toks+1 } ->
  wpAny (model prog w) Ar.in1 (forIn (List.range' i (us.length - i) 1) ((ae, ()) : Option qF × Unit) fun (i : Nat) (__s : Option qF × Unit) => (match us.toArray[i]? with
          | some y=>do
           let b <- eqBool y (ko z tz)
           if b=true then do
            let r <- retInt (i:Int)
            pure (ForInStep.done (ab r,()))
            else pure (jJ (ae,()))
          |x=>pure (jJ (ae,())):Sem (ForInStep (Option qF×Unit)))) G E s:=by
  intro k
  induction k with
  |zero=>
   intro i hi G hG;have hlt:i<us.length:=by omega
   obtain⟨t1,e1⟩:=qW r (i:=i) (by omega);rw[show us.length-i=(us.length-i-1)+1 by omega,List.range'_succ,mE];have e2:us.toArray[i]? = ab (.str (ys.getD i d8) t1):=by simpa using e1
   rw[e2];have hz2:ys.getD i d8=z:=by rw[<- h2,hi];rfl
   rw[hz2];refine aA (aA (ut z z t1 tz prog w _ _ _ _ ?_));simp only[jR,gX];refine aA (aA (wpAny_mkInt (bo (bo ?_))));rw[show(i:Nat)=ys.idxOf z from hi.symm];exact bo hG
  |succ k ih=>
   intro i hi G hG;have hlt:i<us.length:=by omega
   obtain⟨t1,e1⟩:=qW r (i:=i) (by omega);rw[show us.length-i=(us.length-(i+1))+1 by omega,List.range'_succ,mE];have e2:us.toArray[i]? = ab (.str (ys.getD i d8) t1):=by simpa using e1
   rw[e2];have hz2:=h3 i (by omega);refine aA (aA (ut _ z t1 tz prog w _ _ _ _ ?_));have:((ys.getD i d8).cps.toList==z.cps.toList)=false:=by
    rw[rA];intro e;apply hz2;cases hq:ys.getD i d8 with
    | mk c=>cases z with
     |mk d=>
      rw[hq]at e;have:c=d:=oA.mp e;rw[this]
   rw[this];simp only[ou,gg];exact bo (ih (i+1) (by omega) G hG)
 refine aA (go (ys.idxOf z) 0 (by omega) _ ?_);exact bo ⟨_,rfl,h⟩
theorem KL{E:ag->ak->Prop}{s:ak}{t:ah}{us:List ag}{ys:List Str}{z:Str}{tz:Tok}{n:Nat}{Q:ag->ak->Prop}(ht:s.heap.get? t=ab { cls:=.type "list", data:=.seq us.toArray n })(r:Vals (ys.map V.str) us)(hz:z∈ys)(hl:ys.length<=1000)
 (h:Q (.int (ys.idxOf z:Nat) s.toks) { s with toks:=s.toks+1 }):wpAny (model prog w) Ar (call (.builtin "list.index") [.ref t,.str z tz]) Q E s:=by
 obtain⟨h1,h2,h3⟩:=zS hz;have hlu:=r.length;rw[aS]at hlu
 let e:ag->Bool:=λy=>match y with
  |.str a _=>a.cps.toList==z.cps.toList
  |_=>false
 have he:∀y,y∈us.toArray->EG y (.str z tz) (e y):=λy hy=>by
  obtain⟨i,hi⟩:=mv (by simpa using hy:y∈us);have hil:=(cV.mp hi).1;obtain⟨t1,e1⟩:=qW r (i:=i) (by omega);rw[e1]at hi;cases hi;exact ut _ z t1 tz
 have ei:∀i (hi:i<us.toArray.size),e us.toArray[i]=decide (ys.getD i d8=z):=λi hi=>by
  have hi':i<us.length:=by simpa using hi
  obtain⟨t1,e1⟩:=qW r (i:=i) (by omega);have:us.toArray[i]=.str (ys.getD i d8) t1:=by have:=(cV.mp e1).2;simpa using this
  rw[this];show((ys.getD i d8).cps.toList==z.cps.toList)=_;by_cases q:ys.getD i d8=z
  ·rw[q];simp
  ·rw[bx q,rA];intro y;apply q;cases hq:ys.getD i d8 with
   | mk c=>cases z with
    |mk d=>
     rw[hq]at y;have:c=d:=oA.mp y;rw[this]
 refine oo Em ⟨_,ht,rfl⟩ PySem.F.entry_list_index (PySem.F.args_list_index_2 _ _) (PySem.MeetsSeq.list_index t us.toArray n (.str z tz) e he (ys.idxOf z) (by simp;omega) (by omega) (by rw[ei];simp only[h2];simp) (λm hm hj=>by rw[ei];simp only[h3 m hj];simp)) ⟨ht,h⟩
end
section
variable{X:Cx}{K:aB}{M:Nat->Bool}{to ta tb:TE}{t:TA}{o e:aO}{es:List aO}{apos cpos:Pos}{a b:Mi.E}
theorem Lb:ka X "tuple.index" (λx xs H Q=>∃(p:ah) (ys:List Str) (z:Str),x=.ref p/\xs=[.str z]/\z∈ys/\H p=ab (.tup (ys.map V.str))/\Q (.int (ys.idxOf z:Nat)) H):=by intro af s σ H x xs v us Q I rx rv h;obtain⟨p,ys,z,rfl,rfl,hz,hp,q⟩:=h;cases rx;obtain⟨u,rfl,ru⟩:=vals1 rv;obtain⟨tz,rfl⟩:=ru;obtain⟨ai,r,pt,_⟩:=I.tuple (.inl (.inl hp));exact Gy pt r hz ⟨.int _,H,I.tok _,⟨_,rfl⟩,q⟩
theorem Jk:ka X "list.index" (λx xs H Q=>∃(p:ah) (ys:List Str) (z:Str),x=.ref p/\xs=[.str z]/\z∈ys/\ys.length<=1000/\Lst H p (ys.map V.str)/\Q (.int (ys.idxOf z:Nat)) H):=by intro af s σ H x xs v us Q I rx rv h;obtain⟨p,ys,z,rfl,rfl,hz,hl,hp,q⟩:=h;cases rx;obtain⟨u,rfl,ru⟩:=vals1 rv;obtain⟨tz,rfl⟩:=ru;obtain⟨ai,n,r,_,ho⟩:=l0 I hp;exact KL ho r hz hl ⟨.int _,H,I.tok _,⟨_,rfl⟩,q⟩
def Bn(K:aB)(T2:String)(r1 r2:V->List V->Hp->VK->Prop)(to:TE)(t:TA):TE:=λσ H Q=>to σ H λx H1=>((∃p xs,x=V.ref p/\H1 p=ab (.tup xs))/\t σ H1 λxs H2=>r1 x xs H2 Q)\/(rP K T2 x H1/\t σ H1 λxs H2=>r2 x xs H2 Q)
theorem Ge{T2 id1 id2:String}{r1 r2:V->List V->Hp->VK->Prop}{name:Str}(a7:tW "tuple")(slot1:Slot "tuple" name id1)(Lr:typeOf (.builtin id1)=pure (.type "method_descriptor"))(hm1:ka X id1 r1)
 (pa2:tW T2) (Lu:Slot T2 name id2) (Lv:typeOf (.builtin id2)=pure (.type "method_descriptor")) (hm2:ka X id2 r2) (ho:PE X o to) (ha:PA X (e::es) t)
 (hbase:attributeBase o name X.env (eval o X.env)=eval o X.env:=by rfl)
 (hfew:((backTo cpos (starEach (e::es) X.env)).all (λx=>!x.1)&&(backToKw cpos (keywordEach [] X.env)).all (λx=>x.1.isSome)
  && decide ((e::es).length+([]:List Keyword).length+(if([]:List Keyword).isEmpty then 0 else 1)<30))=true:=by rfl)
 (hline:(apos.endLine==cpos.line)=true:=by rfl) (hs:starEach (e::es) X.env=(false,eval e X.env)::starEach es X.env:=by rfl) (hplain:(backTo cpos (starEach es X.env)).any (·.1)=false:=by rfl) :
 PE X (.Call (.Attribute o name apos) (e::es) [] cpos) (Bn X.K T2 r1 r2 to t):=by
 intro af s σ H Q I h;refine Ec hbase hfew hline rfl (aK (ho af s σ H _ I h) λv s1 ⟨x,H1,I1,rx,q⟩=>?_);rcases q with ⟨ty,q1⟩|⟨ty,q1⟩
 ·obtain⟨p,xs,rfl,hp⟩:=ty;cases rx;have h12:s1.TypeIs (.ref p) "tuple" /\ ∀a,cE p=.ref a->∃ob,s1.heap.get? a=ab ob/\ob.dict=ae:=by
   obtain⟨_,ai,_,ob,e1,e2,e3,_⟩:=(show bP X.prog X.w H1 s1.heap p (.tup xs)from I1.hok p _ hp);exact⟨⟨ob,e1,e2⟩,λa z=>by cases z;exact⟨ob,e1,e3⟩⟩
  obtain⟨h1,h2⟩:=h12;have rx:RelV (.ref p) (cE p):=rfl;refine⟨"tuple", id1,a7,slot1,Lr,h1,h2,?_⟩;have hA:=ha cpos af s1 σ H1 _ I1 q1;rw[hs]at hA ⊢;refine ud (by show(false||(backTo cpos (starEach es X.env)).any (·.1))=false;rw[hplain]<;>rfl) (xP ?_);exact aK hA λus s2 ⟨vs,H2,I2,r2',q2⟩=>hm1 af s2 σ H2 _ vs _ us Q I2 rx r2' q2
 ·obtain⟨h1,h2⟩:=v5 I1 rx ty;refine⟨T2,id2,pa2,Lu,Lv,h1,h2,?_⟩;have hA:=ha cpos af s1 σ H1 _ I1 q1;rw[hs]at hA ⊢;refine ud (by show(false||(backTo cpos (starEach es X.env)).any (·.1))=false;rw[hplain]<;>rfl) (xP ?_);exact aK hA λus s2 ⟨vs,H2,I2,r2',q2⟩=>hm2 af s2 σ H2 x vs v us Q I2 rx r2' q2
end
end A
namespace A
open PySem L2 PyProof.Rows So
open Mi (D W Rs Fin ao Out Tg)
variable[Tb:a8]
section
variable{K:aB}{M:Nat->Bool}{ta tb:TE}{a b:Mi.E}
def AK:V->List V->Hp->VK->Prop:=λx xs H Q=>∃(p:ah) (ys:List Str) (z:Str),x=.ref p/\xs=[.str z]/\z∈ys/\H p=ab (.tup (ys.map V.str))/\Q (.int (ys.idxOf z:Nat)) H
def yI:V->List V->Hp->VK->Prop:=λx xs H Q=>∃(p:ah) (ys:List Str) (z:Str),x=.ref p/\xs=[.str z]/\z∈ys/\ys.length<=1000/\Lst H p (ys.map V.str)/\Q (.int (ys.idxOf z:Nat)) H
theorem KY{X:Cx}:ka X "tuple.index" AK:=Lb
theorem Ga{X:Cx}:ka X "list.index" yI:=Jk
theorem Jq(ha:AE M qP ta a)(hb:AE M qP tb b):AE M qV (Bn K "list" AK yI ta (fw tb gn)) (Mi.m2 Mi.rG a b):=λe σ H Hv Q I h=>
 ha e σ H Hv _ I ((ao.mp h).mono λx hx v H1 Hv1 g1 rx=>by
  obtain⟨y,hy,hk⟩:=gE (ao.mp hx);cases y with
  |str z=>
   obtain⟨ys,ey,q1⟩:=gR (ao.mp hk);obtain⟨⟨hz,hl⟩,q2⟩:=Mi.cy q1;have q3:=Mi.j1 q2;clear hk q1 q2 hx;cases x with
   |tup ds=>
    obtain⟨p,us,rfl,l,_,r⟩:=RD.tup g1.vw rx;have:=rR ey r;subst this;refine .inl ⟨⟨p,_,rfl,l⟩,hb e σ H1 Hv1 _ (I.grow g1) ?_⟩;rw[hy];intro v2 H2 Hv2 g2 ry;cases RD.str ry;exact⟨p,ys,z,rfl,rfl,hz,g2.old.at l,q3 _ _ _ (g1.trans g2) f6⟩
   |lst ds=>
    obtain⟨p,us,rfl,l,r⟩:=RD.lst g1.vw rx;have:=rR ey r;subst this;refine .inr ⟨.inl ⟨rfl,_,l.sq⟩,hb e σ H1 Hv1 _ (I.grow g1) ?_⟩;rw[hy];intro v2 H2 Hv2 g2 ry;cases RD.str ry;exact⟨p,ys,z,rfl,rfl,hz,hl,l.old g2.old,q3 _ _ _ (g1.trans g2) f6⟩
   |_=>cases ey
  |_=>exact hk.elim)
end
end A
namespace Mi
open PySem
def iJ{α:Type}(r:Rs α)(k:α->Prop)(x:hV->Prop):Prop:=match r with
 |.ok a=>k a
 |.ex z=>x z
 |.no=>False
theorem kO{α β:Type}{r:Rs α}{f:α->Rs β}{k:β->Prop}{x:hV->Prop}:iJ (r.bind f) k x↔iJ r (λa=>iJ (f a) k x) x:=by cases r<;>exact bq
end Mi
namespace PySem.W
end PySem.W
namespace Mi
open PySem
def v8(x:Str):Str:=⟨PySem.placed x λ_ c=>Unicode.upperOf c⟩
end Mi
namespace Mi
def mP(m:S):S:=λe=>match m e with
 |.ok (.rt w)=>.ok (.rt w)
 |_=>.no
end Mi
namespace A
open PySem L2 PyProof.Rows So
open Mi (D W Rs Fin ao Out Tg)
variable[Tb:a8]
section
variable{M:Nat->Bool}{κ:Kd}{t:TS}{m:Mi.S}
theorem Gx(y:Nat)(hy:M y=true)(h:AS (λj=>M j && !(j==y)) κ t m):AS M κ t (Mi.mP m):=λH0 Hv0 e σ H Hv D I f=>by
 have nb:∀{j:Nat},(M j && !(j==y))=false->M j=false\/j=y:=λ{j} z=>by
  cases q:M j with
  |false=>exact .inl rfl
  |true=>rw[q]at z;exact .inr (by simpa using z)
 have nt:∀{j:Nat},(M j && !(j==y))=true->M j=true/\j≠y:=λ{j} z=>by simpa using z
 have fin:∀Hv',aZ H0 Hv0 H Hv'->R0 (λj=>M j && !(j==y)) e σ H Hv'->t D σ H:=λHv' gw R=>by
  refine h H0 Hv0 e σ H Hv' D ⟨R,gw,λi w a q1 q2 q3=>I.fresh i w a q1 (nt q2).1 q3,λi j w w' a b hij q1 q2 q3 q4 q5 q6=>I.sep i j w w' a b hij q1 q2 (nt q3).1 (nt q4).1 q5 q6⟩ ?_;unfold Mi.mP at f;cases hm:m e with
  |no=>rw[hm]at f;exact f.elim
  |ex z=>rw[hm]at f;exact f.elim
  |ok o=>
   rw[hm]at f;cases o with
   |rt w=>exact f
   |nx e2=>exact f.elim
   |bk e2=>exact f.elim
   |ct e2=>exact f.elim
 have other:(∀w0,e[y]?≠ab (ab w0))->t D σ H:=λae=>fin Hv I.gw ⟨I.vw,I.len,λj w' z q=>by
  rcases nb q with q|rfl
  ·exact I.nob j w' z q
  ·exact absurd z (ae w'),λj w' z q=>I.own j w' z (nt q).1⟩
 cases he:e[y]? with
 |none=>exact other λw0 z=>by rw[he]at z;cases z
 |some ow=>
  cases ow with
  |none=>exact other λw0 z=>by rw[he]at z;cases z
  |some w0=>
   obtain⟨p,Hv',q,I',s,r⟩:=I.zc hy he;refine fin Hv' I'.gw ⟨I'.vw,I.len,λj w' z q2=>?_,λj w' z q2=>?_⟩
   ·by_cases hj:j=y
    ·subst hj;rw[he]at z;cases z;exact⟨_,q,r⟩
    ·exact I'.nob j w' (by rw[dY (dS hj)];exact z) ((nb q2).resolve_right hj)
   ·obtain⟨m1,hj⟩:=nt q2;exact I'.own j w' (by rw[dY (dS hj)];exact z) m1
end
end A
namespace Mi
open PySem
theorem uD{α:Type}{le:α->α->Prop}(ET:∀a b,le a b->le b a->a=b):∀(l m:List α),l.Perm m->l.Pairwise le->m.Pairwise le->l=m
 |[],m,h,_,_=>h.symm.eq_nil.symm
 |a::r,[],h,_,_=>nomatch h.eq_nil
 |a::r,b::t,h,hl,hm=>by
  have l1:=tJ.mp hl;have m1:=tJ.mp hm;have e:a=b:=by
   rcases bK.mp (h.mem_iff.mp (cC ..))with z|z
   ·exact z
   ·rcases bK.mp (h.mem_iff.mpr (cC ..))with y|y
    ·exact y.symm
    ·exact ET _ _ (l1.1 b y) (m1.1 a z)
  subst e;rw[uD ET r t ((List.perm_cons a).mp h) l1.2 m1.2]
end Mi
namespace L2
open PySem PySem.Spec PyProof.Rows
section
variable{pr:bb}{wo:aT}{Ar:br}{Ex:ag->ak->Prop}
theorem CC{it l:ah}{zs:Array ag}(ne:l≠it):∀(k j:Nat) (z:ak) (R:List ag->ak->Prop),z.heap.IsListIter it l j->z.heap.IsList l zs->j+k<=zs.size ->
 (∀g,g.IsListIter it l (j+k)->mG it z.heap g->R ((zs.toList.drop j).take k) { z with heap:=g })->wpAny (model pr wo) Ar (draw (.ref it) k) R Ex z
 |0,j,z,R,a,_,_,q=>by
  show wpAny _ _ (pure []) R Ex z;refine bo ?_;have:=q z.heap a (Heap.SameBut.refl ..);simpa using this
 |k+1,j,z,R,a,b,c,q=>by
  have lt:j<zs.size:=by omega
  show wpAny _ _ (pyNext (.ref it) >>= _) R Ex z;refine aA (Eb a b (x:=zs[j]) (by simp[lt]) λg1 a1 b1=>aA (jE ?_));refine CC ne k (j+1) _ _ a1 (b.extBut b1.extBut ne) (by omega) λg2 a2 b2=>bo ?_;have e:zs.toList.drop j=zs[j]::zs.toList.drop (j+1):=by simp[mo,lt]
  have r:=q g2 (by rw[show j+(k+1)=j+1+k by omega];exact a2) (b1.trans b2);rw[e,List.take_succ_cons]at r;exact r
theorem Lg{l:ah}{zs:Array ag}{z:ak}{R:List ag->ak->Prop}(h0:Ar.handled=ae)(b:z.heap.IsList l zs)(q:∀g,xE z.heap.objs.size z.heap g->R zs.toList { z with heap:=g }) :
 wpAny (model pr wo) Ar (unpackItems (.ref l) zs.size ae) R Ex z:=by
 have ne:l≠z.heap.objs.size:=by obtain⟨o,ho,_⟩:=b;exact gs (bH ho)
 unfold unpackItems notIterableAtAll;refine aA (aA (tS b.typeIs PySem.F.slot_list_iter.lookup (bo ?_)));simp only[ou,gg];refine aA (jE (xx b ?_));refine aA (jE (CC ne zs.size 0 _ _ ⟨_,eE _ rfl,rfl,rfl⟩ (b.push _) (by omega) λg1 a1 b1=>?_));rw[show List.take zs.size (List.drop 0 zs.toList)=zs.toList by rw[qA];exact qv (by simp),ay (by simp)];have c1:g1.IsList l zs:=(b.push _).extBut b1.extBut ne;refine aA (jE (wpAny_pyNext_list_end h0 a1 c1 (by simp) λg2 b2=>?_));simp only[Option.isSome_none,ou,gg];exact bo (q g2 λd o hd e=>b2 d o hd (b1.extBut d o hd (cP _ e)))
end
end L2
namespace Mi
open PySem
def oP(is:List Nat)(a:E):S:=λe=>(a e).bind λd=>match d with
 |.lst ds=>(lg is ds e).bind λe'=>.ok (.nx e')
 |_=>.no
end Mi
namespace A
open PySem L2 PyProof.Rows So
open Mi (D W Rs Fin ao Out Tg)
variable[Tb:a8]
section
variable{X:Cx}{pos:Pos}
def BO(n:Nat)(t:jy):TG:=λv σ H Q=>∃a xs,v=.ref a/\Lst H a xs/\xs.length=n/\t xs σ H Q
theorem Hd{es:List aO}{k:Nat}{t:jy}{n:Nat}(hc:X.calm=true)(h:L2.pK X es t)(hn:(assignEach es X.env).length=n:=by rfl)(hst:(assignEach es X.env).findIdx? (·.1)=ae:=by rfl):L2.PG X (.Tuple es k pos) (BO n t):=by
 intro af s σ H v u Q I r hw;obtain⟨a,xs,e1,hq,hl,hw⟩:=hw;subst e1;cases r;obtain⟨ai,n0,rv,hz,ho⟩:=l0 I hq;have hli:=rv.length;rw[assign_Tuple];refine aA (tT ?_);unfold unpack;rw[hn,hst];have sz:n=ai.toArray.size:=by rw[bG];omega
 rw[sz];refine aA (jE (Lg (I.ok.hd hc) ⟨_,ho,rfl,_,rfl⟩ λg hx=>?_));have I1:Inv X af σ H { s with heap:=g }:=I.kept (t':=s.toks) λb o e=>hx b o (gs (bH e)) e;exact h af _ σ H xs _ Q I1 (by simpa using rv) hw
end
section
variable{M:Nat->Bool}{κ:Kd}{te:TE}{a:Mi.E}
theorem HJ(is:List Nat)(hm:∀i∈is,M i=false)(ha:AE M qV te a):AS M κ (iq te (BO is.length (sw is))) (Mi.oP is a):=λH0 Hv0 e σ H Hv D I h=>
 ha e σ H Hv _ I.toR0 ((ao.mp h).mono λd hd v H1 Hv1 g1 r=>by
  cases d with
  |lst ds=>
   obtain⟨p,xs,rfl,l,rr⟩:=iW.mp r;have hd:=ao.mp (show Fin (Rs.bind (Mi.lg is ds e) _) _ from hd);have I2:=I.grow g1;refine⟨p,xs,rfl,l.same g1.vw.sub,by rw[<- rr.len];exact vN hd,?_⟩;exact vB (P:=λe1 σ1=>R1 M H0 Hv0 e1 σ1 H1 Hv1) (λi hi e1 σ1 d1 v1 p1 r1=>p1.set (hm i hi) r1) I2 rr (hd.mono λe' h' σ' p'=>h' σ' H1 Hv1 p' g1.vis)
  |_=>exact hd.elim)
end
end A
namespace Mi
open PySem
def GP:Ky->D
 |.inl i=>.bl i
 |.inr x=>.str x
end Mi
namespace Rv
end Rv
namespace Mi
open PySem
def HL(ys:List Str):Str:=ys.foldl (· ++ ·) d8
end Mi
namespace A
open PySem L2 PyProof.Rows
section
variable[Tb:a8]
def tv(Hv:Hp):Hp:=λa=>match Hv a with
 |some (.tup xs)=>ab (.tup xs)
 |some (.frz o u)=>ab (.frz o u)
 |_=>ae
theorem sT{Hv:Hp}{a:ah}{o:HO}(h:tv Hv a=ab o):Hv a=ab o:=by
 unfold tv at h;cases q:Hv a with
 |none=>rw[q]at h;cases h
 |some u=>
  rw[q]at h;cases u<;>first|exact h|cases h
theorem vJ{Hv:Hp}{a:ah}{xs:List V}(h:Hv a=ab (.tup xs)):tv Hv a=ab (.tup xs):=by unfold tv;rw[h]
theorem ze{Hv:Hp}{a:ah}{o:Obj}{u:HO}(h:Hv a=ab (.frz o u)):tv Hv a=ab (.frz o u):=by unfold tv;rw[h]
theorem vp{Hv:Hp}{a:ah}{o:HO}(h:tv Hv a=ab o):(∃xs,o=.tup xs)\/∃b u,o=.frz b u:=by
 unfold tv at h;cases q:Hv a with
 |none=>rw[q]at h;cases h
 |some u=>
  rw[q]at h;cases u<;>first|(cases h;exact .inl ⟨_,rfl⟩)|(cases h;exact .inr ⟨_,_,rfl⟩)|cases h
theorem Vw.tv{H Hv:Hp}(v:Vw H Hv):Vw H (tv Hv):=⟨λa o h=>v.sub a o (sT h),λa xs h=>vJ (v.tup a xs h),λa o u h=>ze (v.frz a o u h),v.cd,λa o h=>v.nv a o (sT h)⟩
def jn(Hv Hv':Hp):Hp:=λa=>match Hv a with
 |some o=>ab o
 |none=>Hv' a
theorem nk{Hv Hv':Hp}{a:ah}{o:HO}(h:Hv a=ab o):jn Hv Hv' a=ab o:=by unfold jn;rw[h]
theorem mY{Hv Hv':Hp}{a:ah}(h:Hv a=ae):jn Hv Hv' a=Hv' a:=by unfold jn;rw[h]
theorem aZ.join{H Hv H' Hv':Hp}(v:Vw H Hv)(g:aZ H (A.tv Hv) H' Hv'):aZ H Hv H' (jn Hv Hv'):=by
 have up:∀{a o},Hv a=ab o->H' a=ab o:=λ{a o} h=>g.old.nt a o (v.sub a o h) (v.nv a o h);refine⟨g.old,λa o h=>nk h,⟨λa o h=>?_,λa xs h=>?_,λa o u h=>?_,g.vw.cd,λa o h=>?_⟩,λa o h n=>?_⟩
 ·cases q:Hv a with
  |none=>rw[mY q]at h;exact g.vw.sub a o h
  |some u=>rw[nk q]at h;cases h;exact up q
 ·cases q:Hv a with
  |none=>rw[mY q];exact g.vw.tup a xs h
  |some u=>rw[nk q];have:=up q;rw[h]at this;exact this.symm
 ·cases q:Hv a with
  |none=>rw[mY q];exact g.vw.frz a o u h
  |some w=>rw[nk q];have:=up q;rw[h]at this;exact this.symm
 ·cases q:Hv a with
  |none=>rw[mY q]at h;exact g.vw.nv a o h
  |some u=>rw[nk q]at h;cases h;exact v.nv a o q
 ·rw[mY n];refine g.hid a o h ?_;unfold A.tv;rw[n]
theorem aZ.lists{H Hv H' Hv':Hp}(g:aZ H (A.tv Hv) H' Hv'){a:ah}{xs:List V}(h:Hv' a=ab (.lst xs)):H a=ae:=by
 cases q:H a with
 |none=>rfl
 |some o=>
  cases z:A.tv Hv a with
  |none=>rw[g.hid a o q z]at h;cases h
  |some u=>
   have e:=g.vis a u z;rw[h]at e;cases e;rcases vp z with ⟨_,k⟩|⟨_,_,k⟩<;>cases k
theorem La{H Hv H' Hv':Hp}(v:Vw H Hv)(g:aZ H (A.tv Hv) H' Hv'):cq Hv' (jn Hv Hv'):=λa o h=>by
 cases q:Hv a with
 |none=>rw[mY q];exact h
 |some u=>
  rw[nk q];have:=g.old.nt a u (v.sub a u q) (v.nv a u q);rw[g.vw.sub a o h]at this;exact this.symm
end
open Mi (D)
mutual
def fX:D->Bool
 |.lst _=>false
 |.tup ds=>kB ds
 |_=>true
def kB:List D->Bool
 |[]=>true
 |d::r=>fX d&&kB r
end
section
variable[Tb:a8]
mutual
theorem CL{Hv:Hp}:∀{d:D} {v:V},fX d=true->Rep Hv d v->Rep (tv Hv) d v
 |.non,v,_,h=>by rw[Rep]at h ⊢;exact h
 |.bl b,v,_,h=>by rw[Rep]at h ⊢;exact h
 |.int i,v,_,h=>by rw[Rep]at h ⊢;exact h
 |.str x,v,_,h=>by rw[Rep]at h ⊢;exact h
 |.lst ds,v,n,h=>by rw[fX]at n;cases n
 |.tup ds,v,n,h=>by
  rw[Rep]at h ⊢;rw[fX]at n;obtain⟨a,xs,e,q,r⟩:=h;exact⟨a,xs,e,vJ q,Di n r⟩
theorem Di{Hv:Hp}:∀{ds:List D} {vs:List V},kB ds=true->aV Hv ds vs->aV (tv Hv) ds vs
 |[],vs,_,h=>by rw[aV]at h ⊢;exact h
 |d::ds,vs,n,h=>by
  rw[aV]at h ⊢;rw[kB,fS]at n;obtain⟨v,r,e,p,q⟩:=h;exact⟨v,r,e,CL n.1 p,Di n.2 q⟩
end
def kp(Hv H:Hp):Hp:=λa=>match Hv a with
 |some o=>ab o
 |none=>tv H a
theorem pJ{Hv H:Hp}{a:ah}{o:HO}(h:Hv a=ab o):kp Hv H a=ab o:=by unfold kp;rw[h]
theorem oM{Hv H:Hp}{a:ah}(h:Hv a=ae):kp Hv H a=tv H a:=by unfold kp;rw[h]
def jx(H H1 H2:Hp):Prop:=∀a,H2 a=H1 a\/(H a=ae/\(∃xs,H1 a=ab (.lst xs))/\∃ys,H2 a=ab (.lst ys))
theorem jx.refl{H H1:Hp}:jx H H1 H1:=λ_=>.inl rfl
theorem jx.put{H H1 H2:Hp}(e:jx H H1 H2){p:ah}{xs ys:List V}(h:H p=ae)(q:H2 p=ab (.lst xs)):jx H H1 (upd H2 p (.lst ys)):=λa=>by
 by_cases z:a=p
 ·subst z;refine .inr ⟨h,?_,_,cg⟩;rcases e a with k|⟨_,k,_⟩
  ·exact⟨xs,by rw[<- k];exact q⟩
  ·exact k
 ·rw[aQ z];exact e a
theorem aZ.emptied{H Hv H1 Hv1 H2:Hp}(v:Vw H Hv)(g:aZ H Hv H1 Hv1)(e:jx H H1 H2):aZ H Hv H2 (kp Hv H2):=by
 have keep:∀{a o},H a=ab o->H2 a=H1 a:=λ{a o} h=>by
  rcases e a with k|⟨k,_⟩
  ·exact k
  ·rw[h]at k;cases k
 have same:∀{a o},H1 a=ab o->(∀xs,o≠.lst xs)->H2 a=ab o:=λ{a o} h n=>by
  rcases e a with k|⟨_,⟨xs,k⟩,_⟩
  ·rw[k];exact h
  ·rw[h]at k;cases k;exact absurd rfl (n xs)
 have back:∀{a o},H2 a=ab o->(∀xs,o≠.lst xs)->H1 a=ab o:=λ{a o} h n=>by
  rcases e a with k|⟨_,_,ys,k⟩
  ·rw[<- k];exact h
  ·rw[h]at k;cases k;exact absurd rfl (n ys)
 have up:∀{a o},Hv a=ab o->H2 a=ab o:=λ{a o} h=>by
  rw[keep (v.sub a o h)];exact g.old.nt a o (v.sub a o h) (v.nv a o h)
 refine⟨⟨λa o h n=>?_,λa h=>?_,λa w ps h=>?_⟩,λa o h=>pJ h,⟨λa o h=>?_,λa xs h=>?_,λa o u h=>?_,⟨λr hr=>?_,λT q ps h=>?_,λa o xs h=>?_⟩,λa o h=>?_⟩,λa o h n=>?_⟩
 ·rw[keep h];exact g.old.nt a o h n
 ·rcases e a with k|⟨k,_⟩
  ·rw[k]at h;exact g.old.dom a h
  ·exact k
 ·rw[keep h];exact g.old.tb a w ps h
 ·cases q:Hv a with
  |none=>rw[oM q]at h;exact sT h
  |some u=>rw[pJ q]at h;cases h;exact up q
 ·cases q:Hv a with
  |none=>rw[oM q];exact vJ h
  |some u=>rw[pJ q];have:=up q;rw[h]at this;exact this.symm
 ·cases q:Hv a with
  |none=>rw[oM q];exact ze h
  |some w=>rw[pJ q];have:=up q;rw[h]at this;exact this.symm
 ·obtain⟨ps,k⟩:=g.vw.cd.has r hr;exact⟨ps,same k (λ_ z=>by cases z)⟩
 ·obtain⟨t,k⟩:=g.vw.cd.cd T q ps (back h (λ_ z=>by cases z));refine⟨t,λpos x z=>?_⟩;obtain⟨c,c1,c2⟩:=k pos x z;exact⟨c,c1,same c2 (λ_ z=>by cases z)⟩
 ·exact g.vw.cd.fz a o xs (back h (λ_ z=>by cases z))
 ·cases q:Hv a with
  |none=>
   rw[oM q]at h;rcases vp h with ⟨_,k⟩|⟨_,_,k⟩<;>subst k<;>trivial
  |some u=>rw[pJ q]at h;cases h;exact v.nv a o q
 ·rw[oM n];cases z:tv H2 a with
  |none=>rfl
  |some u=>
   exfalso;have e1:=sT z;rw[keep h]at e1;rcases vp z with ⟨xs,k⟩|⟨b,w,k⟩
   ·subst k;by_cases t:NT o
    ·have:=g.old.nt a o h t;rw[e1]at this;cases this;rw[v.tup a xs h]at n;cases n
    ·cases o<;>first|exact t trivial|skip
     obtain⟨_,y⟩:=g.old.tb a _ _ h;rw[e1]at y;cases y
   ·subst k;by_cases t:NT o
    ·have:=g.old.nt a o h t;rw[e1]at this;cases this;rw[v.frz a b w h]at n;cases n
    ·cases o<;>first|exact t trivial|skip
     obtain⟨_,y⟩:=g.old.tb a _ _ h;rw[e1]at y;cases y
end
end A
namespace A
open PySem L2 PyProof.Rows
section
variable{K:aB}{i j:Nat}{D:Ends}{Hc:Hp}[Tb:a8]
def l9(Hc H:Hp)(l:ah)(x:V):Prop:=∃q ys,x=.ref q/\H q=ab (.lst ys)/\q≠l/\Hc q=ae
theorem l9.put{H:Hp}{l q:ah}{x:V}{ys:List V}(h:l9 Hc H l x):l9 Hc (upd H q (.lst ys)) l x:=by
 obtain⟨p,zs,e,h1,h2,h3⟩:=h;by_cases z:p=q
 ·subst z;exact⟨p,ys,e,cg,h2,h3⟩
 ·exact⟨p,zs,e,by rw[aQ z];exact h1,h2,h3⟩
theorem Jr(ij:i≠j){xs:List V}{l:ah}{σ:L2.St}{H:Hp}(hi:σ[i]? = ab (ab (.ref l)))(hj:j < σ.length)(hl:H l=ab (.lst xs))(hx:∀x∈xs,l9 Hc H l x)
 (h:∀(σ':L2.St) H',σ'.length = σ.length->(∀k,k≠j->σ'[k]? = σ[k]?)->jx Hc H H'->H' l=ab (.lst xs)->D.nx σ' H') :
 pc (nQ K (cZ i)) (fu j) (iX (lN K "list" nW (cZ j))) D σ H:=by
 refine .inl ⟨_,hi,l,rfl,⟨xs,.inl (.inl hl)⟩,?_⟩
 let W:Nat->Nat->L2.St->Hp->Prop:=λn m σ' H'=>m=xs.length-n/\n<=xs.length/\σ'.length = σ.length/\(∀k,k≠j->σ'[k]? = σ[k]?)/\jx Hc H H'/\H' l=ab (.lst xs)/\∀x∈xs,l9 Hc H' l x
 refine⟨W,⟨xs.length,rfl,fi _,rfl,λ_ _=>rfl,jx.refl,hl,hx⟩,?_⟩;rintro n m σ' H' ⟨rfl,hn,e1,e2,e3,e4,e5⟩;by_cases c:n<xs.length
 ·refine .inr ⟨⟨xs,xs[n],.inl (.inl e4),dm c⟩,λσ2 H2=>W (n+1) (xs.length-(n+1)) σ2 H2,λσ2 H2 w=>⟨_,by omega,w⟩,?_⟩;rintro x H2 ⟨rfl,y⟩;have hxn:=y xs (.inl (.inl e4));obtain⟨q,ys,rfl,q1,q2,q3⟩:=e5 x (i4 hxn);refine⟨.ref q,by rw[jB (by rw[e1];exact hj)],.inl ⟨rfl,ys,.inl (.inl q1)⟩,q,ys,rfl,rfl,q1,rfl,c,?_,?_,e3.put q3 q1,?_,λz hz=>(e5 z hz).put⟩
  ·rw[gq];exact e1
  ·intro k hk;rw[dY (dS hk)];exact e2 k hk
  ·rw[aQ (dS q2)];exact e4
 ·exact .inl ⟨⟨xs,.inl (.inl e4),by omega⟩,h σ' H' e1 e2 e3 e4⟩
theorem IL(ij:i≠j){xs:List V}{l:ah}{σ:L2.St}{H:Hp}(hi:σ[i]? = ab (ab (.ref l)))(hj:j < σ.length)(hl:H l=ab (.lst xs))(hc:Hc l=ae)(hx:∀x∈xs,l9 Hc H l x){t:TS}
 (h:∀(σ':L2.St) H',σ'.length = σ.length->(∀k,k≠j->σ'[k]? = σ[k]?)->jx Hc H H'->t D σ' H') :
 kJ (pc (nQ K (cZ i)) (fu j) (iX (lN K "list" nW (cZ j)))) (kJ (iX (lN K "list" nW (cZ i))) t) D σ H:=by
 refine Jr ij hi hj hl hx λσ' H' e1 e2 e3 e4=>?_;refine⟨.ref l,by rw[e2 i ij];exact hi,.inl ⟨rfl,xs,.inl (.inl e4)⟩,l,xs,rfl,rfl,e4,?_⟩;exact h σ' _ e1 e2 (e3.put hc e4)
end
end A
namespace Mi
def m3:Option W->Option W
 |some (.d d)=>if A.fX d=true then ab (.d d)else ae
 |_=>ae
theorem IH:∀{o:Option W} {w:W},m3 o=ab w->∃d,w=.d d/\A.fX d=true/\o=ab (.d d):=λ{o w} h=>by
 cases o with
 |none=>cases h
 |some u=>
  cases u with
  |d x=>
   by_cases z:A.fX x=true
   ·have h':(if A.fX x=true then ab (W.d x)else ae)=ab w:=h;rw[aw z]at h';injection h' with h';exact⟨x,h'.symm,z,rfl⟩
   ·have h':(if A.fX x=true then ab (W.d x)else ae)=ab w:=h;rw[ay z]at h';cases h'
  |_=>cases h
def kR(ks:List Nat):Nat->Env->Env
 |_,[]=>[]
 |n,o::r=>(if n∈ks then m3 o else ae)::kR ks (n+1) r
def nZ(ks:List Nat)(e:Env):Env:=kR ks 0 e
def freshD:D->Bool
 |.lst ds=>ds.all λy=>match y with|.lst (.str _::_)=>true|_=>false
 |_=>false
def qh(ks:List Nat)(i j:Nat)(a:E)(c:C)(f r:S):S:=λe=>
 (a (nZ ks e)).bind λd=>if(freshD d&&decide (i<e.length)&&decide (j<e.length))=true then
  (c (e.set i (ab (.d d)))).bind λb=>if b=true then(f (e.set i (ab (.d d)))).bind (λo=>match o with|.rt w=>.ok (.rt w)|_=>.no)else r ((e.set i ae).set j ae)
 else .no
theorem BM(ks:List Nat):∀(n:Nat) (e:Env),(kR ks n e).length=e.length
 |_,[]=>rfl
 |n,o::r=>by rw[kR,ce,ce,BM ks (n+1) r]
theorem uF(ks:List Nat):∀(n:Nat) (e:Env) {k:Nat} {w:W},(kR ks n e)[k]? = ab (ab w)->n+k∈ks/\∃d,w=.d d/\A.fX d=true/\e[k]? = ab (ab (.d d))
 |_,[],k,w,h=>by rw[kR]at h;cases h
 |n,o::r,0,w,h=>by
  rw[kR,kh]at h;by_cases c:n∈ks
  ·rw[aw c]at h;injection h with h;obtain⟨d,e1,e2,e3⟩:=IH h;exact⟨c,d,e1,e2,by rw[kh,e3]⟩
  ·rw[ay c]at h;cases h
 |n,o::r,k+1,w,h=>by
  rw[kR,jA]at h;obtain⟨h1,h2⟩:=uF ks (n+1) r h;exact⟨by rw[show n+(k+1)=n+1+k by omega];exact h1,by rw[jA];exact h2⟩
end Mi
namespace A
open PySem L2 PyProof.Rows
open Mi (D W Rs Fin ao Out)
section
variable[Tb:a8]{M:Nat->Bool}{κ:Kd}
theorem R0.nZ{e:Mi.Env}{σ:L2.St}{H Hv:Hp}(I:R0 M e σ H Hv){ks:List Nat}(hk:∀k∈ks,M k=false):R0 M (Mi.nZ ks e) σ H (tv Hv):=by
 refine⟨I.vw.tv,by rw[I.len];exact(Mi.BM ks 0 e).symm,λk w h m=>?_,λk w h m=>?_⟩
 ·obtain⟨_,d,rfl,n,h⟩:=Mi.uF ks 0 e h;obtain⟨v,q,z⟩:=I.nob k _ h m;exact⟨v,q,CL n z⟩
 ·obtain⟨h1,_⟩:=Mi.uF ks 0 e h;rw[eV]at h1;rw[hk k h1]at m;cases m
theorem qk{e:Mi.Env}{i j k:Nat}{w:W}(h:((e.set i ae).set j ae)[k]? = ab (ab w)):k≠i/\k≠j/\e[k]? = ab (ab w):=by
 have a:k≠j:=λz=>by
  subst z;rw[qx]at h;rw[aw rfl]at h;split at h<;>cases h
 rw[dY (dS a)]at h;have b:k≠i:=λz=>by
  subst z;rw[qx]at h;rw[aw rfl]at h;split at h<;>cases h
 rw[dY (dS b)]at h;exact⟨b,a,h⟩
theorem R1.FR{H0 Hv0:Hp}{e:Mi.Env}{σ σ':L2.St}{H Hv:Hp}{i j:Nat}(I:R1 M H0 Hv0 e σ H Hv)(hl:σ'.length = σ.length)(h:∀k,k≠i->k≠j->σ'[k]? = σ[k]?):R1 M H0 Hv0 ((e.set i ae).set j ae) σ' H Hv:=by
 refine⟨⟨I.vw,by rw[hl,I.len,gq,gq],λk w q m=>?_,λk w q m=>?_⟩,I.gw,λk w a q m z=>?_,λk k' w w' a b n q q' m m' z z'=>?_⟩
 ·obtain⟨n1,n2,q⟩:=qk q;rw[h k n1 n2];exact I.nob k w q m
 ·obtain⟨n1,n2,q⟩:=qk q;rw[h k n1 n2];exact I.own k w q m
 ·obtain⟨n1,n2,q⟩:=qk q;rw[h k n1 n2]at z;exact I.fresh k w a q m z
 ·obtain⟨n1,n2,q⟩:=qk q;obtain⟨n3,n4,q'⟩:=qk q';rw[h k n1 n2]at z;rw[h k' n3 n4]at z';exact I.sep k k' w w' a b n q q' m m' z z'
end
section
variable[Tb:a8]{M:Nat->Bool}{κ:Kd}
theorem Jo:∀{d:D},Mi.freshD d=true->∃ds,d=.lst ds/\∀y∈ds,∃s r,y=.lst (.str s::r):=λ{d} h=>by
 cases d with
 |lst ds=>
  refine⟨ds,rfl,λy hy=>?_⟩;have:=fE.mp (show ds.all _=true from h) y hy;cases y with
  |lst zs=>
   cases zs with
   |nil=>cases this
   |cons z r=>cases z<;>first|exact⟨_,_,rfl⟩|cases this
  |_=>cases this
 |_=>cases h
theorem IT{K:aB}{te:TE}{a:Mi.E}{tc:TT}{c:Mi.C}{tf tr:TS}{f r:Mi.S}(ks:List Nat)(i j:Nat)(ij:i≠j)(hk:∀k∈ks,M k=false)(hmi:M i=false)
 (ha:AE M qN te a) (hc:AT M tc c) (hf:AS M κ tf f) (hr:AS M κ tr r) :
 AS M κ (kJ (iq te (fu i)) (kJ (vW tc tf wj) (kJ (pc (nQ K (cZ i)) (fu j) (iX (lN K "list" nW (cZ j)))) (kJ (iX (lN K "list" nW (cZ i))) tr)))) (Mi.qh ks i j a c f r):=λH0 Hv0 e σ H Hv D I h=>by
 refine ha (Mi.nZ ks e) σ H (tv Hv) _ (I.toR0.nZ hk) ((ao.mp h).mono λd hd v H1 Hv1 g k=>?_);by_cases cd:(Mi.freshD d&&decide (i<e.length)&&decide (j<e.length))=true
 case neg=>rw[ay cd]at hd;exact hd.elim
 rw[aw cd]at hd;rw[fS,fS,rD,rD]at cd;obtain⟨⟨cf,ci⟩,cj⟩:=cd;obtain⟨Hs,g',rep⟩:=uZ g k;obtain⟨l,o,rfl,hn,hq,hz,hcell⟩:=k;obtain⟨ds,rfl,hds⟩:=Jo cf;cases o with
 |lst xs=>
  have hp:P2 (Rep Hv1) ds xs:=hcell;have new:∀x∈xs,l9 H H1 l x:=λx hx=>by
   obtain⟨n,hn1,hx1⟩:=List.mem_iff_getElem.mp hx;obtain⟨y,hy,ry⟩:=hp.uI (show xs[n]? = ab x by rw[dm hn1,hx1]);obtain⟨z,w,rfl⟩:=hds y (i4 hy);obtain⟨q,ys,rfl,lq,pq⟩:=iW.mp ry;cases pq with
   | @cons _ y0 _ yr p1 p2=>
    rw[lY]at p1;subst p1;rcases lq with lq|⟨ob,lq⟩
    ·exact⟨q,_,rfl,g.vw.sub _ _ lq,λz=>(by rw[z,hz]at lq;cases lq),g.lists lq⟩
    ·obtain⟨t,ht⟩:=g.vw.cd.fz q ob _ (g.vw.sub _ _ lq) _ (cC ..);cases ht
  have gj:=aZ.join I.vw g';have I1:=(I.grow gj).set hmi (mW (La I.vw g') rep);refine hc _ _ _ _ _ I1.toR0 ((ao.mp hd).mono λb hb H2 Hv2 g2=>?_);cases b with
  |true=>
   refine hf H0 Hv0 _ _ H2 Hv2 _ (I1.grow g2) ((ao.mp hb).mono λo ho=>?_);cases o with
   |rt w=>exact ho
   |_=>exact ho.elim
  |false=>
   refine IL (Hc:=H) ij (l:=l) (xs:=xs) (jB (by rw[I.len];exact ci)) (by rw[gq,I.len];exact cj) (g2.old.at hq) hn (λx hx=>?_) λσ' H3 e1 e2 em=>?_
   ·obtain⟨q,ys,q1,q2,q3,q4⟩:=new x hx;exact⟨q,ys,q1,g2.old.at q2,q3,q4⟩
   ·have gk:=aZ.emptied I.vw (gj.trans g2) em;refine hr H0 Hv0 _ σ' H3 _ D ((I.grow gk).FR (by rw[e1,gq]) λk n1 n2=>?_) (Fin.mono hb λo z=>z.up gk.vis);rw[e2 k n2,dY (dS n1)]
 |_=>exact(show False from hcell).elim
end
end A
namespace Mi
def Le(b:Bool):Int:=if b=true then 1 else 0
end Mi
namespace PySem
end PySem
namespace Tm
open PySem PyProof.Rows
structure Wd(m:Type->Type)(K V σ:Type) where
 el:V->Nat->m K
 lt:K->K->m (Option Bool)
 no:∀{α:Type},String->m α
 rl:String->m Unit
 gt:m σ
 st:σ->m Unit
 md:(σ->σ)->m Unit
 gm:σ->Nat
 sm:Nat->σ->σ
 ar:σ->V
 pd:σ->Array (Nat×Nat×Nat)
 sp:Array (Nat×Nat×Nat)->σ->σ
 ok:σ->Bool
 sz:V->Nat
 ex:V->Nat->Nat->V
 pu:V->K->V
 ap:V->V->V
 rv:V->V
 on:K->V
 mi:Nat->Nat->m Unit
 bu:Nat->Nat->m Unit
 wr:Nat->V->m Unit
section
variable{m:Type->Type}[Monad m]{K V σ:Type}
def jg(w:Wd m K V σ)(lf:Bool)(key:K)(u:V)(at0 n h:Nat):m (Option Nat):=do
 let far (i:Nat):m (Option Bool):=do
  let x <- w.el u (at0+i)
  if lf then w.lt x key else return (<- w.lt key x).map (!·)
 let mut p:=0
 let mut q:=1
 let mut lo:=0
 let mut hi:=0
 let .some r <- far h|return ae
 if r then
  let mx:=n-h
  for _ in[0:n] do
   if q >= mx then break
   let .some k <- far (h+q)|return ae
   if !k then break
   p:=q
   q:=2*q+1
  lo:=h+p+1
  hi:=h+min q mx
 else
  let mx:=h+1
  for _ in[0:n] do
   if q >= mx then break
   let .some k <- far (h-q)|return ae
   if k then break
   p:=q
   q:=2*q+1
  lo:=h+1-min q mx
  hi:=h-p
 for _ in[0:n] do
  if lo >= hi then break
  let c:=lo+(hi-lo)/2
  let .some k <- far c|return ae
  if k then lo:=c+1 else hi:=c
 return ab hi
def oT(w:Wd m K V σ)(u v:V):m V:=do
 w.rl "list.sort.merge-lo"
 let al:=w.sz u+w.sz v
 let e1 (z:V) (i j:Nat):=w.ap (w.ap z (w.ex u i (w.sz u))) (w.ex v j (w.sz v))
 let e2 (z:V) (i j:Nat):=w.ap (w.ap z (w.ex v j (w.sz v))) (w.ex u i (w.sz u))
 let mut z:=w.on (<- w.el v 0)
 let mut i:=0
 let mut j:=1
 if j==(w.sz v)then return e1 z i j
 if i+1==(w.sz u)then return e2 z i j
 let mut mg:=w.gm (<- w.gt)
 for _ in[0:al] do
  let mut nu:=0
  let mut nv:=0
  for _ in[0:al] do
   let .some b <- w.lt (<- w.el v j) (<- w.el u i)|return e1 z i j
   if b then
    z:=w.pu z (<- w.el v j);j:=j+1;nv:=nv+1;nu:=0
    if j==(w.sz v)then return e1 z i j
    if nv >= mg then break
   else
    z:=w.pu z (<- w.el u i);i:=i+1;nu:=nu+1;nv:=0
    if i+1==(w.sz u)then return e2 z i j
    if nu >= mg then break
  w.rl "list.sort.gallop"
  mg:=mg+1
  for _ in[0:al] do
   if mg>1 then mg:=mg-1
   w.md (w.sm mg)
   let .some k <- jg w false (<- w.el v j) u i (w.sz u-i) 0|return e1 z i j
   nu:=k
   if k>0 then
    z:=w.ap z (w.ex u i (i+k));i:=i+k
    if i+1==(w.sz u)then return e2 z i j
    if i==(w.sz u)then return e1 z i j
   z:=w.pu z (<- w.el v j);j:=j+1
   if j==(w.sz v)then return e1 z i j
   let .some k <- jg w true (<- w.el u i) v j (w.sz v-j) 0|return e1 z i j
   nv:=k
   if k>0 then
    z:=w.ap z (w.ex v j (j+k));j:=j+k
    if j==(w.sz v)then return e1 z i j
   z:=w.pu z (<- w.el u i);i:=i+1
   if i+1==(w.sz u)then return e2 z i j
   if nu<7&&nv<7 then break
  mg:=mg+1
  w.md (w.sm mg)
 w.no "internal:list.sort.merge-bound"
def qd(w:Wd m K V σ)(u v:V):m V:=do
 w.rl "list.sort.merge-hi"
 let al:=w.sz u+w.sz v
 let e1 (z:V) (i j:Nat):=w.ap (w.ap (w.ex u 0 i) (w.ex v 0 j)) (w.rv z)
 let e2 (z:V) (i j:Nat):=w.ap (w.ap (w.ex v 0 j) (w.ex u 0 i)) (w.rv z)
 let mut i:=w.sz u-1
 let mut j:=w.sz v
 let mut z:=w.on (<- w.el u i)
 if i==0 then return e1 z i j
 if j==1 then return e2 z i j
 let mut mg:=w.gm (<- w.gt)
 for _ in[0:al] do
  let mut nu:=0
  let mut nv:=0
  for _ in[0:al] do
   let .some b <- w.lt (<- w.el v (j-1)) (<- w.el u (i-1))|return e1 z i j
   if b then
    i:=i-1;z:=w.pu z (<- w.el u i);nu:=nu+1;nv:=0
    if i==0 then return e1 z i j
    if nu >= mg then break
   else
    j:=j-1;z:=w.pu z (<- w.el v j);nv:=nv+1;nu:=0
    if j==1 then return e2 z i j
    if nv >= mg then break
  w.rl "list.sort.gallop"
  mg:=mg+1
  for _ in[0:al] do
   if mg>1 then mg:=mg-1
   w.md (w.sm mg)
   let .some t <- jg w false (<- w.el v (j-1)) u 0 i (i-1)|return e1 z i j
   let k:=i-t
   nu:=k
   if k>0 then
    z:=w.ap z (w.rv (w.ex u t i));i:=t
    if i==0 then return e1 z i j
   j:=j-1;z:=w.pu z (<- w.el v j)
   if j==1 then return e2 z i j
   let .some t <- jg w true (<- w.el u (i-1)) v 0 j (j-1)|return e1 z i j
   let k:=j-t
   nv:=k
   if k>0 then
    z:=w.ap z (w.rv (w.ex v t j));j:=t
    if j==1 then return e2 z i j
    if j==0 then return e1 z i j
   i:=i-1;z:=w.pu z (<- w.el u i)
   if i==0 then return e1 z i j
   if nu<7&&nv<7 then break
  mg:=mg+1
  w.md (w.sm mg)
 w.no "internal:list.sort.merge-bound"
def mat(w:Wd m K V σ)(i:Nat):m Bool:=do
 let s <- w.gt
 let (.some (x,nx,pw),.some (y,ny,_)):=((w.pd s)[i]?,(w.pd s)[i+1]?)|w.no "internal:list.sort.pending"
 w.st (w.sp (((w.pd s).setIfInBounds i (x,nx+ny,pw)).eraseIdxIfInBounds (i+1)) s)
 let .some k <- jg w false (<- w.el (w.ar s) y) (w.ar s) x nx 0|return false
 let (x,nx):=(x+k,nx-k)
 if nx==0 then return true
 let .some ny <- jg w true (<- w.el (w.ar s) (x+nx-1)) (w.ar s) y ny (ny-1)|return false
 if ny==0 then return true
 let u:=w.ex (w.ar s) x y
 let v:=w.ex (w.ar s) y (y+ny)
 let z <- if nx<=ny then oT w u v else qd w u v
 w.wr x z
 return w.ok (<- w.gt)
def jU(w:Wd m K V σ)(i j:Nat):m (Option Bool):=do
 let a:=w.ar (<- w.gt)
 w.lt (<- w.el a i) (<- w.el a j)
def pE(w:Wd m K V σ)(x c:Nat):m (Option Nat):=do
 let mut n:=1
 for _ in[1:c] do
  let .some b <- jU w (x+n) (x+n-1)|return ae
  if b then break
  n:=n+1
 if n==c then return ab n
 if n>1 then
  let .some b <- jU w x (x+n-1)|return ae
  if b then return ab n
  w.mi x (x+n)
 w.rl "list.sort.descending-run"
 n:=n+1
 let mut e:=0
 for _ in[n:c] do
  let .some b <- jU w (x+n) (x+n-1)|return ae
  if b then
   if e>0 then w.mi (x+n-(e+1)) (x+n)
   e:=0
  else
   let .some b <- jU w (x+n-1) (x+n)|return ae
   if b then break
   e:=e+1
  n:=n+1
 if e>0 then w.mi (x+n-(e+1)) (x+n)
 w.mi x (x+n)
 for _ in[n:c] do
  let .some b <- jU w (x+n) (x+n-1)|return ae
  if b then break
  n:=n+1
 return ab n
def bins(w:Wd m K V σ)(x n f:Nat):m Bool:=do
 for k in[max f 1:n] do
  let mut l:=0
  let mut r:=k
  for _ in[0:k] do
   if l >= r then break
   let c:=(l+r)/2
   let .some b <- jU w (x+k) (x+c)|return false
   if b then r:=c else l:=c+1
  w.bu (x+k) (x+l)
 return true
def runs(w:Wd m K V σ):m Unit:=do
 let sz:=w.sz (w.ar (<- w.gt))
 let mr:=minRun' sz sz 0
 let mut x:=0
 for _ in[0:sz] do
  if x >= sz then break
  let .some f <- pE w x (sz-x)|return
  let mut n:=f
  if n<mr then
   w.rl "list.sort.binary-insertion"
   let f:=min (sz-x) mr
   if !(<- bins w x f n)then return
   n:=f
  if let .some (s1,n1,_):=(w.pd (<- w.gt)).back? then
   let pw:=power' sz (2*s1+n1) (2*s1+n1+n1+n) sz
   for _ in[0:sz] do
    let p:=w.pd (<- w.gt)
    let .some (_,_,od):=(if p.size>1 then p[p.size-2]? else ae)|break
    if od<=pw then break
    if !(<- mat w (p.size-2))then return
   w.md λs=>w.sp ((w.pd s).modify ((w.pd s).size-1) λ(st,len,_)=>(st,len,pw)) s
  w.md λs=>w.sp ((w.pd s).push (x,n,0)) s
  x:=x+n
 for _ in[0:sz] do
  let p:=w.pd (<- w.gt)
  if p.size<=1 then break
  let i:=p.size-2
  let bf:=if i>0 then p[i-1]?.map (·.2.1)else ae
  let i:=if bf.any (· < (p[i+1]?.elim 0 (·.2.1)))then i-1 else i
  if !(<- mat w i)then return
end
def Gd:Bool->bw->Array bw->Nat->Nat->Nat->StateT dJ Sem (Option Nat):=sortPriv% PySem.Builtin.gallop
def K2:Array bw->Array bw->StateT dJ Sem (Array bw):=sortPriv% PySem.Builtin.mergeLo
def GD:Array bw->Array bw->StateT dJ Sem (Array bw):=sortPriv% PySem.Builtin.mergeHi
def wS:Wd (StateT dJ Sem) bw (Array bw) dJ where
 el:=elem'
 lt:=lt'
 no:=λz=>unsupported z
 rl:=λz=>rule z
 gt:=get
 st:=set
 md:=modify
 gm:=gallopOf
 sm:=λg s=>jL (kindOf s) (arrOf s) (pendingOf s) g (failedOf s)
 ar:=arrOf
 pd:=pendingOf
 sp:=λp s=>setPending s p
 ok:=λs=>(failedOf s).isNone
 sz:=Array.size
 ex:=λu i j=>u.extract i j
 pu:=Array.push
 ap:=λu v=>u++v
 rv:=Array.reverse
 on:=λx=>#[x]
 mi:=reverseSlice'
 bu:=moveDown'
 wr:=λx z=>modify λs=>setArr s (z.toList.zipIdx.foldl (λa (p,j)=>a.setIfInBounds (x+j) p) (arrOf s))
theorem Io:Gd=jg wS:=rfl
theorem G8:K2=oT wS:=rfl
theorem JX:GD=qd wS:=rfl
theorem KQ:mergeAt'=mat wS:=by funext i;unfold mat;rw[<- Io,<- G8,<- JX];rfl
theorem Li:countRun'=pE wS:=rfl
theorem Hr:binarySort'=bins wS:=rfl
theorem Iv:sortRuns'=runs wS:=by unfold runs;rw[<- Li,<- Hr,<- KQ];rfl
structure PS(K:Type) where
 a:List K
 pd:Array (Nat×Nat×Nat)
 mg:Nat
abbrev PM(K:Type):=StateT (PS K) Option
def wP{K:Type}(L:K->K->Bool):Wd (PM K) K (List K) (PS K) where
 el:=λu i=>λs=>(u[i]?).map (·,s)
 lt:=λx y=>λs=>ab (ab (L x y),s)
 no:=λ_=>λ_=>ae
 rl:=λ_=>λs=>ab ((),s)
 gt:=λs=>ab (s,s)
 st:=λs _=>ab ((),s)
 md:=λf s=>ab ((),f s)
 gm:=PS.mg
 sm:=λg s=>⟨s.a,s.pd,g⟩
 ar:=PS.a
 pd:=PS.pd
 sp:=λp s=>⟨s.a,p,s.mg⟩
 ok:=λ_=>true
 sz:=qB
 ex:=λu i j=>(u.drop i).take (j-i)
 pu:=λu x=>u++[x]
 ap:=λu v=>u++v
 rv:=List.reverse
 on:=λx=>[x]
 mi:=λi j s=>if i<=j/\j<=s.a.length then ab ((),⟨s.a.take i++((s.a.drop i).take (j-i)).reverse++s.a.drop j,s.pd,s.mg⟩)else ae
 bu:=λi j s=>if j<=i/\i<s.a.length then ab ((),⟨s.a.take j++(s.a[i]?).toList++(s.a.drop j).take (i-j)++s.a.drop (i+1),s.pd,s.mg⟩)else ae
 wr:=λx z s=>if x+z.length<=s.a.length then ab ((),⟨s.a.take x++z++s.a.drop (x+z.length),s.pd,s.mg⟩)else ae
def kF{K:Type}(L:K->K->Bool)(xs:List K):Option (List K):=(runs (wP L) ⟨xs,#[],7⟩).map λr=>r.2.a
section
variable{K:Type}
def stp{β α:Type}(f:β->α):ForInStep β->ForInStep α
 |.done x=>.done (f x)
 |.yield x=>.yield (f x)
variable{prog:bb}{w:aT}{A:br}{E:ag->ak->Prop}{s:ak}
def arr(it:K->bw)(u:List K):Array bw:=(u.map it).toArray
def up(κ:oz)(it:K->bw)(ps:PS K):dJ:=jL κ (arr it ps.a) ps.pd ps.mg ae
theorem oN(it:K->bw)(u:List K):(arr it u).size=u.length:=by unfold arr;rw[bG,aS]
theorem cc(it:K->bw)(u v:List K):arr it (u++v)=arr it u++arr it v:=by unfold arr;rw[fh,List.append_toArray]
theorem bV(it:K->bw)(u:List K):arr it u.reverse=(arr it u).reverse:=by unfold arr;rw[List.map_reverse,List.reverse_toArray]
theorem bO(it:K->bw)(u:List K)(i j:Nat):arr it ((u.drop i).take (j-i))=(arr it u).extract i j:=by apply oA.mp;rw[Array.toList_extract];unfold arr;simp only[xt,tM,List.extract_eq_take_drop]
theorem kD(it:K->bw)(u:List K)(i:Nat):(arr it u)[i]? = (u[i]?).map it:=by unfold arr;rw[List.getElem?_toArray,dw]
def R(M:Model)(A:br)(E:ag->ak->Prop)(s:ak)(κ:oz)(it:K->bw){α β:Type}(G:β->α)(m:StateT dJ Sem α)(p:PM K β):Prop:=∀ps b ps',p ps=ab (b,ps')->∀Q:α->dJ->Prop,Q (G b) (up κ it ps')->wpS M A E s m Q (up κ it ps)
variable{M:Model}{κ:oz}{it:K->bw}{α β α' β':Type}{G:β->α}{G':β'->α'}{L:K->K->Bool}
theorem R.pure{a:α}{b:β}(h:G b=a):R M A E s κ it G (Pure.pure a) (Pure.pure b):=λps b' ps' e Q q=>by
 cases e;subst h;exact wpS_pure q
theorem R.bind{m:StateT dJ Sem α}{p:PM K β}{f:α->StateT dJ Sem α'}{f':β->PM K β'}(h:R M A E s κ it G m p)(k:∀b,R M A E s κ it G' (f (G b)) (f' b)):R M A E s κ it G' (m >>= f) (p >>= f'):=λps b' ps' e Q q=>by
 have e:(p ps).bind (λr=>f' r.1 r.2)=ab (b',ps'):=e;cases h1:p ps with
 |none=>rw[h1]at e;cases e
 |some r=>
  rw[h1]at e;exact wpS_bind (h ps r.1 r.2 h1 _ (k r.1 r.2 b' ps' e Q q))
theorem R.ite{c c':Prop}[Decidable c][Decidable c']{m n:StateT dJ Sem α}{p q:PM K β}(hc:c↔c')(h:R M A E s κ it G m p)(k:R M A E s κ it G n q):R M A E s κ it G (if c then m else n) (if c' then p else q):=by
 by_cases z:c
 ·rw[aw z,aw (hc.mp z)];exact h
 ·rw[ay z,ay (λy=>z (hc.mpr y))];exact k
theorem R.list{l:List Nat}{f:Nat->α->StateT dJ Sem (ForInStep α)}{f':Nat->β->PM K (ForInStep β)}(h:∀x b,R M A E s κ it (stp G) (f x (G b)) (f' x b)):∀{a:α} {b:β},G b=a->R M A E s κ it G (forIn l a f) (forIn l b f'):=by
 induction l with
 |nil=>intro a b e;rw[xp,xp];exact R.pure e
 |cons x r ih=>
  intro a b e;subst e;rw[mE,mE];refine R.bind (h x b) λz=>?_;cases z with
  |done y=>exact R.pure rfl
  |yield y=>exact ih rfl
theorem R.range{i j:Nat}{f:Nat->α->StateT dJ Sem (ForInStep α)}{f':Nat->β->PM K (ForInStep β)}{a:α}{b:β}(e:G b=a)(h:∀x b,R M A E s κ it (stp G) (f x (G b)) (f' x b)):R M A E s κ it G (forIn [i:j] a f) (forIn [i:j] b f'):=by rw[xN,xN];exact R.list h e
theorem R.el{u:List K}{i:Nat}:R M A E s κ it it (elem' (arr it u) i) ((wP L).el u i):=λps b ps' e Q q=>by
 have e:(u[i]?).map (·,ps)=ab (b,ps'):=e;rw[elem'_eq,kD];cases h:u[i]? with
 |none=>rw[h]at e;cases e
 |some x=>
  rw[h]at e;cases e;exact wpS_pure q
theorem R.rl{z:String}:R M A E s κ it id (rule z:StateT dJ Sem Unit) ((wP (K:=K) L).rl z):=λps b ps' e Q q=>by
 cases e;exact wpS_lift (wpAny_rule ⟨rfl,q⟩)
theorem R.md{f:dJ->dJ}{f':PS K->PS K}(h:∀ps,f (up κ it ps)=up κ it (f' ps)):R M A E s κ it id (modify f:StateT dJ Sem Unit) ((wP L).md f'):=λps b ps' e Q q=>by
 cases e;exact ua (by rw[h];exact q)
theorem R.gt:R M A E s κ it (up κ it) (get:StateT dJ Sem dJ) ((wP (K:=K) L).gt):=λps b ps' e Q q=>by
 cases e;exact wpS_get q
theorem R.st{st:dJ}{ps0:PS K}(h:st=up κ it ps0):R M A E s κ it id (set st:StateT dJ Sem Unit) ((wP L).st ps0):=λps b ps' e Q q=>by
 cases e;subst h;unfold wpS;exact bo ⟨rfl,q⟩
theorem R.mi{i j:Nat}:R M A E s κ it id (reverseSlice' i j) ((wP L).mi i j):=λps b ps' e Q q=>by
 have e:(if i<=j/\j<=ps.a.length then ab ((),(⟨ps.a.take i++((ps.a.drop i).take (j-i)).reverse++ps.a.drop j,ps.pd,ps.mg⟩ : PS K))else ae)=ab (b,ps'):=e;by_cases h:i<=j/\j<=ps.a.length
 ·rw[aw h]at e;cases e;rw[reverseSlice'_eq];refine ua ?_;have:mirror (arr it ps.a) i j ((j-i)/2)=arr it (ps.a.take i++((ps.a.drop i).take (j-i)).reverse++ps.a.drop j):=by
   apply EB;intro k;rw[getElem?_mirror_all (by rw[oN];exact h.2),kD,kD,kD];by_cases k1:k<i
   ·rw[ay (by omega),gp,mn (by rw[cO];omega),mq k1]
   ·by_cases k2:k<j
    ·rw[aw ⟨by omega,k2⟩,mn (by simp only[bB,cO,tI,fg];omega),kg (by rw[cO];omega),List.getElem?_reverse (by simp only[cO,fg];omega)];rw[mq (by simp only[cO,fg];omega),tK]
     congr 2
     simp only[cO,fg];omega
    ·rw[ay (by omega),kg (by simp only[bB,cO,tI,fg];omega),tK]
     congr 2
     simp only[bB,cO,tI,fg];omega
  show Q () (jL κ (mirror (arr it ps.a) i j ((j-i)/2)) ps.pd ps.mg ae);rw[this];exact q
 ·rw[ay h]at e;cases e
theorem R.bu{i j:Nat}:R M A E s κ it id (moveDown' i j) ((wP L).bu i j):=λps b ps' e Q q=>by
 have e:(if j<=i/\i<ps.a.length then ab ((),(⟨ps.a.take j++(ps.a[i]?).toList++(ps.a.drop j).take (i-j)++ps.a.drop (i+1),ps.pd,ps.mg⟩ : PS K))else ae)=ab (b,ps'):=e;by_cases h:j<=i/\i<ps.a.length
 ·rw[aw h]at e;cases e;rw[moveDown'_eq];refine ua ?_;have:bubble (arr it ps.a) i (i-j)=arr it (ps.a.take j++(ps.a[i]?).toList++(ps.a.drop j).take (i-j)++ps.a.drop (i+1)):=by
   apply EB;intro k;rw[getElem?_bubble (by rw[oN];exact h.2) _ (by omega),kD,kD,kD,kD];have hi:ps.a[i]? = ab ps.a[i]:=dm h.2;rw[hi,Eg];by_cases k1:k<j
   ·rw[ay (by omega),ay (by omega),gp,gp,mn (by rw[cO];omega),mq k1]
   ·by_cases k2:k=j
    ·rw[aw (by omega),gp,gp,kg (by rw[cO];omega),cO,show k-min j ps.a.length=0 by omega];rfl
    ·rw[ay (by omega)];by_cases k3:k<=i
     ·rw[aw (by omega),mn (by simp only[bB,cO,dI,fg];omega),kg (by simp only[bB,cO,dI];omega),mq (by simp only[bB,cO,dI];omega),tK]
      congr 2
      simp only[bB,cO,dI];omega
     ·rw[ay (by omega),kg (by simp only[bB,cO,dI,fg];omega),tK]
      congr 2
      simp only[bB,cO,dI,fg];omega
  show Q () (jL κ (bubble (arr it ps.a) i (i-j)) ps.pd ps.mg ae);rw[this];exact q
 ·rw[ay h]at e;cases e
theorem sM:∀(z:List bw) (x n:Nat) (a:List bw),x+n+z.length<=a.length->(z.zipIdx n).foldl (λ(a:Array bw) (p:bw×Nat)=>a.setIfInBounds (x+p.2) p.1) a.toArray=(a.take (x+n)++z++a.drop (x+n+z.length)).toArray
 |[],x,n,a,h=>by rw[List.zipIdx_nil,List.foldl_nil,jC,mD,Nat.add_zero,List.take_append_drop]
 |y::r,x,n,a,h=>by
  rw[ce]at h;rw[List.zipIdx_cons,List.foldl_cons];show((r.zipIdx (n+1)).foldl _ (a.toArray.setIfInBounds (x+n) y))=_;rw[List.setIfInBounds_toArray,sM r x (n+1) (a.set (x+n) y) (by rw[gq];omega)]
  congr 1
  rw[ce,show x+(n+1)=x+n+1 by omega,List.take_add_one,jB (by omega),List.take_set_of_le (bg _),List.drop_set_of_lt (by omega)];simp only[Eg,gp,List.singleton_append];rw[show x+n+1+r.length=x+n+(r.length+1)by omega]
theorem R.wr{x:Nat}{z:List K}:R M A E s κ it id (wS.wr x (arr it z)) ((wP L).wr x z):=λps b ps' e Q q=>by
 have e:(if x+z.length<=ps.a.length then ab ((),(⟨ps.a.take x++z++ps.a.drop (x+z.length),ps.pd,ps.mg⟩ : PS K))else ae)=ab (b,ps'):=e;by_cases h:x+z.length<=ps.a.length
 ·rw[aw h]at e;cases e;refine ua ?_;have:=sM (z.map it) x 0 (ps.a.map it) (by rw[aS,aS];omega);have t:((arr it z).toList.zipIdx.foldl (λ(a:Array bw) (p:bw×Nat)=>a.setIfInBounds (x+p.2) p.1) (arr it ps.a))=arr it (ps.a.take x++z++ps.a.drop (x+z.length)):=by
   refine this.trans ?_;unfold arr;rw[fh,fh,xt,tM,aS];rfl
  show Q () (jL κ ((arr it z).toList.zipIdx.foldl (λ(a:Array bw) (p:bw×Nat)=>a.setIfInBounds (x+p.2) p.1) (arr it ps.a)) ps.pd ps.mg ae);rw[t];exact q
 ·rw[ay h]at e;cases e
end
section
variable{K:Type}{L:K->K->Bool}{prog:bb}{w:aT}{A:br}{E:ag->ak->Prop}{s:ak}{M:Model}{κ:oz}{it:K->bw}
theorem mS(hL:∀x y,R M A E s κ it (G:=(id:Option Bool->Option Bool)) (lt' (it x) (it y)) ((wP L).lt x y))(lf:Bool)(key:K)(u:List K)(a n h:Nat):R M A E s κ it id (jg wS lf (it key) (arr it u) a n h) (jg (wP L) lf key u a n h):=by
 unfold jg;have far:∀i,R M A E s κ it id (do
  let x <- wS.el (arr it u) (a+i)
  if lf then wS.lt x (it key)else return (<- wS.lt (it key) x).map (!·)) (do
  let x <- (wP L).el u (a+i)
  if lf then(wP L).lt x key else return (<- (wP L).lt key x).map (!·)):=λi=>by
  refine R.bind R.el λx=>?_;refine R.ite bq (hL _ _) (R.bind (hL _ _) λy=>R.pure rfl)
 dsimp only;refine R.bind (far h) λr=>?_;cases r with
 |none=>exact R.pure rfl
 |some r=>
  dsimp only [id];refine R.ite bq ?_ ?_
  all_goals
   refine R.bind (G:=id) (R.range rfl λx b=>?_) λb=>?_
   ·refine R.ite bq (R.pure rfl) (R.bind (far _) λk=>?_);cases k with
    |none=>exact R.pure rfl
    |some k=>exact R.ite bq (R.pure rfl) (R.pure rfl)
   ·obtain⟨b1,b2,b3⟩:=b;cases b1 with
    |some r=>exact R.pure rfl
    |none=>
     refine R.bind (G:=id) (R.range rfl λx b=>?_) λb=>?_
     ·refine R.ite bq (R.pure rfl) (R.bind (far _) λk=>?_);cases k with
      |none=>exact R.pure rfl
      |some k=>exact R.ite bq (R.pure rfl) (R.pure rfl)
     ·obtain⟨b1,b2,b3⟩:=b;cases b1 with
      |some r=>exact R.pure rfl
      |none=>exact R.pure rfl
theorem B4(u:Array bw):wS.sz u=u.size:=id rfl
theorem A2(u:List K):(wP L).sz u=u.length:=id rfl
theorem bR(u:Array bw)(i j:Nat):wS.ex u i j=u.extract i j:=id rfl
theorem bQ(u:List K)(i j:Nat):(wP L).ex u i j=(u.drop i).take (j-i):=id rfl
theorem bY(u:Array bw)(x:bw):wS.pu u x=u ++ #[x]:=Array.push_eq_append
theorem bX(u:List K)(x:K):(wP L).pu u x=u++[x]:=id rfl
theorem b7(u v:Array bw):wS.ap u v=u++v:=id rfl
theorem bW(u v:List K):(wP L).ap u v=u++v:=id rfl
theorem bZ(u:Array bw):wS.rv u=u.reverse:=id rfl
theorem b9(u:List K):(wP L).rv u=u.reverse:=id rfl
theorem ca(x:bw):wS.on x = #[x]:=id rfl
theorem b8(x:K):(wP L).on x=[x]:=id rfl
theorem b6(x:K):arr it [x] = #[it x]:=id rfl
def gz(it:K->bw){γ : Type}(b:Option (List K)×List K×γ):Option (Array bw)×Array bw×γ:=(b.1.map (arr it),arr it b.2.1,b.2.2)
theorem sG(n:Nat):R M A E s κ it id (wS.md (wS.sm n)) ((wP L).md ((wP L).sm n)):=R.md λ_=>rfl
theorem Kh(hL:∀x y,R M A E s κ it (G:=(id:Option Bool->Option Bool)) (lt' (it x) (it y)) ((wP L).lt x y))(u v:List K):R M A E s κ it (arr it) (oT wS (arr it u) (arr it v)) (oT (wP L) u v):=by
 unfold oT;simp only[B4,A2,oN];refine R.bind R.rl λ_=>?_;refine R.bind R.el λx=>?_;refine R.ite bq (R.pure (by simp only[stp,gz,bI,bR,bQ,bY,bX,b7,bW,bZ,b9,ca,b8,cc,bO,bV,b6])) (R.ite bq (R.pure (by simp only[stp,gz,bI,bR,bQ,bY,bX,b7,bW,bZ,b9,ca,b8,cc,bO,bV,b6])) ?_);refine R.bind R.gt λps=>?_;refine R.bind (G:=gz it) (R.range rfl λ_ b=>?_) λb=>?_
 ·obtain⟨b1,z,i,j,mg⟩:=b;dsimp only [gz];refine R.bind (G:=gz it) (R.range rfl λ_ b=>?_) λb=>?_
  ·obtain⟨b1,z,i,j,nu,nv⟩:=b;dsimp only [gz];refine R.bind R.el λx=>R.bind R.el λy=>R.bind (hL _ _) λb=>?_;cases b with
   |none=>exact R.pure (by simp only[stp,gz,bI,bR,bQ,bY,bX,b7,bW,bZ,b9,ca,b8,cc,bO,bV,b6])
   |some b=>
    dsimp only [id];refine R.ite bq (R.bind R.el λe=>?_) (R.bind R.el λe=>?_)
    all_goals exact R.ite bq (R.pure (by simp only[stp,gz,bI,bR,bQ,bY,bX,b7,bW,bZ,b9,ca,b8,cc,bO,bV,b6])) (R.ite bq (R.pure (by simp only[stp,gz,bI,bR,bQ,bY,bX,b7,bW,bZ,b9,ca,b8,cc,bO,bV,b6])) (R.pure (by simp only[stp,gz,bI,bR,bQ,bY,bX,b7,bW,bZ,b9,ca,b8,cc,bO,bV,b6])))
  ·obtain⟨b1,z,i,j,nu,nv⟩:=b;cases b1 with
   |some r=>exact R.pure (by simp only[stp,gz,bI,bR,bQ,bY,bX,b7,bW,bZ,b9,ca,b8,cc,bO,bV,b6])
   |none=>
    dsimp only [gz,bI];refine R.bind R.rl λ_=>?_;refine R.bind (G:=gz it) (R.range rfl λ_ b=>?_) λb=>?_
    ·obtain⟨b1,z,i,j,mg,nu,nv⟩:=b;dsimp only [gz];refine R.ite bq ?_ ?_
     all_goals
      refine R.bind (sG _) λ_=>R.bind R.el λx=>R.bind (mS hL _ _ _ _ _ _) λk=>?_;cases k with
      |none=>exact R.pure (by simp only[stp,gz,bI,bR,bQ,bY,bX,b7,bW,bZ,b9,ca,b8,cc,bO,bV,b6])
      |some k=>
       dsimp only [id];refine R.ite bq (R.ite bq (R.pure (by simp only[stp,gz,bI,bR,bQ,bY,bX,b7,bW,bZ,b9,ca,b8,cc,bO,bV,b6])) (R.ite bq (R.pure (by simp only[stp,gz,bI,bR,bQ,bY,bX,b7,bW,bZ,b9,ca,b8,cc,bO,bV,b6])) ?_)) ?_
       all_goals
        refine R.bind R.el λx=>R.ite bq (R.pure (by simp only[stp,gz,bI,bR,bQ,bY,bX,b7,bW,bZ,b9,ca,b8,cc,bO,bV,b6])) ?_;refine R.bind R.el λx=>R.bind (mS hL _ _ _ _ _ _) λk=>?_;cases k with
        |none=>exact R.pure (by simp only[stp,gz,bI,bR,bQ,bY,bX,b7,bW,bZ,b9,ca,b8,cc,bO,bV,b6])
        |some k=>
         dsimp only [id];refine R.ite bq (R.ite bq (R.pure (by simp only[stp,gz,bI,bR,bQ,bY,bX,b7,bW,bZ,b9,ca,b8,cc,bO,bV,b6])) ?_) ?_
         all_goals
          refine R.bind R.el λx=>R.ite bq (R.pure (by simp only[stp,gz,bI,bR,bQ,bY,bX,b7,bW,bZ,b9,ca,b8,cc,bO,bV,b6])) ?_;exact R.ite bq (R.pure (by simp only[stp,gz,bI,bR,bQ,bY,bX,b7,bW,bZ,b9,ca,b8,cc,bO,bV,b6])) (R.pure (by simp only[stp,gz,bI,bR,bQ,bY,bX,b7,bW,bZ,b9,ca,b8,cc,bO,bV,b6]))
    ·obtain⟨b1,z,i,j,mg,nu,nv⟩:=b;cases b1 with
     |some r=>exact R.pure (by simp only[stp,gz,bI,bR,bQ,bY,bX,b7,bW,bZ,b9,ca,b8,cc,bO,bV,b6])
     |none=>
      dsimp only [gz,bI];exact R.bind (sG _) λ_=>R.pure (by simp only[stp,gz,bI,bR,bQ,bY,bX,b7,bW,bZ,b9,ca,b8,cc,bO,bV,b6])
 ·obtain⟨b1,z,i,j,mg⟩:=b;cases b1 with
  |some r=>exact R.pure rfl
  |none=>exactλps b ps' e=>by cases e
def gh(it:K->bw){γ : Type}(b:Option (List K)×Nat×Nat×List K×γ):Option (Array bw)×Nat×Nat×Array bw×γ:=(b.1.map (arr it),b.2.1,b.2.2.1,arr it b.2.2.2.1,b.2.2.2.2)
theorem KA(hL:∀x y,R M A E s κ it (G:=(id:Option Bool->Option Bool)) (lt' (it x) (it y)) ((wP L).lt x y))(u v:List K):R M A E s κ it (arr it) (qd wS (arr it u) (arr it v)) (qd (wP L) u v):=by
 unfold qd;simp only[B4,A2,oN];refine R.bind R.rl λ_=>?_;refine R.bind R.el λx=>?_;refine R.ite bq (R.pure (by simp only[stp,gh,bI,bR,bQ,bY,bX,b7,bW,bZ,b9,ca,b8,cc,bO,bV,b6])) (R.ite bq (R.pure (by simp only[stp,gh,bI,bR,bQ,bY,bX,b7,bW,bZ,b9,ca,b8,cc,bO,bV,b6])) ?_);refine R.bind R.gt λps=>?_;refine R.bind (G:=gh it) (R.range rfl λ_ b=>?_) λb=>?_
 ·obtain⟨b1,i,j,z,mg⟩:=b;dsimp only [gh];refine R.bind (G:=gh it) (R.range rfl λ_ b=>?_) λb=>?_
  ·obtain⟨b1,i,j,z,nu,nv⟩:=b;dsimp only [gh];refine R.bind R.el λx=>R.bind R.el λy=>R.bind (hL _ _) λb=>?_;cases b with
   |none=>exact R.pure (by simp only[stp,gh,bI,bR,bQ,bY,bX,b7,bW,bZ,b9,ca,b8,cc,bO,bV,b6])
   |some b=>
    dsimp only [id];refine R.ite bq (R.bind R.el λe=>?_) (R.bind R.el λe=>?_)
    all_goals exact R.ite bq (R.pure (by simp only[stp,gh,bI,bR,bQ,bY,bX,b7,bW,bZ,b9,ca,b8,cc,bO,bV,b6])) (R.ite bq (R.pure (by simp only[stp,gh,bI,bR,bQ,bY,bX,b7,bW,bZ,b9,ca,b8,cc,bO,bV,b6])) (R.pure (by simp only[stp,gh,bI,bR,bQ,bY,bX,b7,bW,bZ,b9,ca,b8,cc,bO,bV,b6])))
  ·obtain⟨b1,i,j,z,nu,nv⟩:=b;cases b1 with
   |some r=>exact R.pure (by simp only[stp,gh,bI,bR,bQ,bY,bX,b7,bW,bZ,b9,ca,b8,cc,bO,bV,b6])
   |none=>
    dsimp only [gh,bI];refine R.bind R.rl λ_=>?_;refine R.bind (G:=gh it) (R.range rfl λ_ b=>?_) λb=>?_
    ·obtain⟨b1,i,j,z,mg,nu,nv⟩:=b;dsimp only [gh];refine R.ite bq ?_ ?_
     all_goals
      refine R.bind (sG _) λ_=>R.bind R.el λx=>R.bind (mS hL _ _ _ _ _ _) λk=>?_;cases k with
      |none=>exact R.pure (by simp only[stp,gh,bI,bR,bQ,bY,bX,b7,bW,bZ,b9,ca,b8,cc,bO,bV,b6])
      |some k=>
       dsimp only [id];refine R.ite bq (R.ite bq (R.pure (by simp only[stp,gh,bI,bR,bQ,bY,bX,b7,bW,bZ,b9,ca,b8,cc,bO,bV,b6])) ?_) ?_
       all_goals
        refine R.bind R.el λx=>R.ite bq (R.pure (by simp only[stp,gh,bI,bR,bQ,bY,bX,b7,bW,bZ,b9,ca,b8,cc,bO,bV,b6])) ?_;refine R.bind R.el λx=>R.bind (mS hL _ _ _ _ _ _) λk=>?_;cases k with
        |none=>exact R.pure (by simp only[stp,gh,bI,bR,bQ,bY,bX,b7,bW,bZ,b9,ca,b8,cc,bO,bV,b6])
        |some k=>
         dsimp only [id];refine R.ite bq (R.ite bq (R.pure (by simp only[stp,gh,bI,bR,bQ,bY,bX,b7,bW,bZ,b9,ca,b8,cc,bO,bV,b6])) (R.ite bq (R.pure (by simp only[stp,gh,bI,bR,bQ,bY,bX,b7,bW,bZ,b9,ca,b8,cc,bO,bV,b6])) ?_)) ?_
         all_goals
          refine R.bind R.el λx=>R.ite bq (R.pure (by simp only[stp,gh,bI,bR,bQ,bY,bX,b7,bW,bZ,b9,ca,b8,cc,bO,bV,b6])) ?_;exact R.ite bq (R.pure (by simp only[stp,gh,bI,bR,bQ,bY,bX,b7,bW,bZ,b9,ca,b8,cc,bO,bV,b6])) (R.pure (by simp only[stp,gh,bI,bR,bQ,bY,bX,b7,bW,bZ,b9,ca,b8,cc,bO,bV,b6]))
    ·obtain⟨b1,i,j,z,mg,nu,nv⟩:=b;cases b1 with
     |some r=>exact R.pure (by simp only[stp,gh,bI,bR,bQ,bY,bX,b7,bW,bZ,b9,ca,b8,cc,bO,bV,b6])
     |none=>
      dsimp only [gh,bI];exact R.bind (sG _) λ_=>R.pure (by simp only[stp,gh,bI,bR,bQ,bY,bX,b7,bW,bZ,b9,ca,b8,cc,bO,bV,b6])
 ·obtain⟨b1,i,j,z,mg⟩:=b;cases b1 with
  |some r=>exact R.pure rfl
  |none=>exactλps b ps' e=>by cases e
theorem u9(hL:∀x y,R M A E s κ it (G:=(id:Option Bool->Option Bool)) (lt' (it x) (it y)) ((wP L).lt x y))(i:Nat):R M A E s κ it id (mat wS i) (mat (wP L) i):=by
 unfold mat;refine R.bind R.gt λps=>?_;have e1:wS.pd (up κ it ps)=ps.pd:=rfl;have e2:wS.ar (up κ it ps)=arr it ps.a:=rfl;have e3:(wP L).pd ps=ps.pd:=rfl;have e4:(wP L).ar ps=ps.a:=rfl;rw[e1,e2,e3,e4];generalize ps.pd[i]? = o1;generalize ps.pd[i+1]? = o2;rcases o1 with _|⟨x,nx,pw⟩
 ·exactλps b ps' e=>by cases e
 rcases o2 with _|⟨y,ny,pv⟩
 ·exactλps b ps' e=>by cases e
 dsimp only;refine R.bind (R.st rfl) λ_=>R.bind R.el λv=>R.bind (mS hL _ _ _ _ _ _) λk=>?_;cases k with
 |none=>exact R.pure rfl
 |some k=>
  dsimp only [id];refine R.ite bq (R.pure rfl) (R.bind R.el λv=>R.bind (mS hL _ _ _ _ _ _) λk=>?_);cases k with
  |none=>exact R.pure rfl
  |some k=>
   dsimp only [id];refine R.ite bq (R.pure rfl) ?_;have jp:∀(x:Nat) (z:List K),R M A E s κ it id (do
    wS.wr x (arr it z)
    return wS.ok (<- wS.gt)) (do
    (wP L).wr x z
    return (wP L).ok (<- (wP L).gt)):=λx z=>R.bind R.wr λ_=>R.bind R.gt λ_=>R.pure rfl
   simp only[bR,bQ,<- bO];exact R.ite bq (R.bind (Kh hL _ _) λz=>jp _ z) (R.bind (KA hL _ _) λz=>jp _ z)
theorem y2(hL:∀x y,R M A E s κ it (G:=(id:Option Bool->Option Bool)) (lt' (it x) (it y)) ((wP L).lt x y))(i j:Nat):R M A E s κ it id (jU wS i j) (jU (wP L) i j):=by unfold jU;exact R.bind R.gt λps=>R.bind (R.el (u:=ps.a)) λx=>R.bind (R.el (u:=ps.a)) λy=>hL _ _
theorem G6(hL:∀x y,R M A E s κ it (G:=(id:Option Bool->Option Bool)) (lt' (it x) (it y)) ((wP L).lt x y))(i j:Nat):R M A E s κ it id (pE wS i j) (pE (wP L) i j):=by
 unfold pE;dsimp only
 repeat' first
  |exact R.pure rfl
  |refine R.ite bq ?_ ?_
  |(refine R.bind (y2 hL _ _) λo=>?_;cases o<;>dsimp only [id])
  |refine R.bind R.mi λ_=>?_
  |refine R.bind R.rl λ_=>?_
  |(refine R.bind (G:=id) (R.range rfl λx b=>?_) λb=>?_;rotate_left;obtain⟨b1,b2⟩:=b;cases b1<;>dsimp only [id])
theorem Hn(hL:∀x y,R M A E s κ it (G:=(id:Option Bool->Option Bool)) (lt' (it x) (it y)) ((wP L).lt x y))(i j k:Nat):R M A E s κ it id (bins wS i j k) (bins (wP L) i j k):=by
 unfold bins;dsimp only
 repeat' first
  |exact R.pure rfl
  |refine R.ite bq ?_ ?_
  |(refine R.bind (y2 hL _ _) λo=>?_;cases o<;>dsimp only [id])
  |refine R.bind R.bu λ_=>?_
  |(refine R.bind (G:=id) (R.range rfl λx b=>?_) λb=>?_;rotate_left;obtain⟨b1,b2⟩:=b;cases b1<;>dsimp only [id])
theorem vU(ps:PS K):wS.pd (up κ it ps)=ps.pd:=id rfl
theorem wQ(ps:PS K):(wP L).pd ps=ps.pd:=id rfl
theorem GA(ps:PS K):wS.sz (wS.ar (up κ it ps))=ps.a.length:=oN ..
theorem Gn(ps:PS K):(wP L).sz ((wP L).ar ps)=ps.a.length:=id rfl
theorem GN(hL:∀x y,R M A E s κ it (G:=(id:Option Bool->Option Bool)) (lt' (it x) (it y)) ((wP L).lt x y)):R M A E s κ it id (runs wS) (runs (wP L)):=by
 unfold runs;dsimp only;refine R.bind R.gt λps=>?_;simp only[GA,Gn]
 repeat' first
  |exact R.pure rfl
  |refine R.ite bq ?_ ?_
  |(refine R.bind (G6 hL _ _) λo=>?_;cases o<;>dsimp only [id])
  |(refine R.bind (Hn hL _ _ _) λo=>?_;dsimp only [id])
  |(refine R.bind (u9 hL _) λo=>?_;dsimp only [id])
  |refine R.bind R.rl λ_=>?_
  |(refine R.bind (R.md λps=>rfl) λ_=>?_)
  |(refine R.bind (G:=id) (R.range rfl λx b=>?_) λb=>?_;rotate_left;obtain⟨b1,b2⟩:=b;cases b1<;>dsimp only [id])
  |(refine R.bind R.gt λps=>?_;rw[vU,wQ];generalize ps.pd.back? = o;rcases o with _|⟨o1,o2,o3⟩<;>dsimp only)
  |(generalize (if ps.pd.size>1 then ps.pd[ps.pd.size-2]? else ae)=o;rcases o with _|⟨o1,o2,o3⟩<;>dsimp only)
 ·refine R.bind R.gt λps=>?_;simp only[vU,wQ];exact R.ite bq (R.pure rfl) (R.bind (u9 hL _) λo=>R.ite bq (R.pure rfl) (R.pure rfl))
 all_goals
  refine R.bind R.gt λps=>?_;by_cases hc:ps.pd.size>1
  ·rw[aw (show(wS.pd (up κ it ps)).size>1 from hc),aw (show((wP L).pd ps).size>1 from hc),vU,wQ];rcases ps.pd[ps.pd.size-2]? with _|⟨o1,o2,o3⟩
   ·exact R.pure rfl
   ·exact R.ite bq (R.pure rfl) (R.bind (u9 hL _) λo=>R.ite bq (R.pure rfl) (R.pure rfl))
  ·rw[ay (show¬ (wS.pd (up κ it ps)).size>1 from hc),ay (show¬ ((wP L).pd ps).size>1 from hc)];exact R.pure rfl
end
end Tm
namespace So
open PySem PySem.W PyProof.Rows
section
variable{prog:bb}{w:aT}{A:br}{E:ag->ak->Prop}{s:ak}
def Ends(n:Nat)(lt:Nat->Nat->Bool)(p:List Nat):Prop:=(n<64/\Pm n p.toArray/\Sd lt p.toArray n)\/(64<=n/\∃q:List (_root_.Fin n),Tm.kF (λi j=>lt i.1 j.1) (i6 n)=ab q/\p=q.map (·.1)/\q.length=n)
theorem Ends.lt{n:Nat}{lt:Nat->Nat->Bool}{p:List Nat}(h:Ends n lt p):∀i∈p,i<n:=λi hi=>by
 rcases h with ⟨_,pm,_⟩|⟨_,q,_,rfl,_⟩
 ·have:=(uc.mp pm.pm).mem_iff.mp hi;simpa using this
 ·obtain⟨j,_,rfl⟩:=dq.mp hi;exact j.2
theorem Ends.len{n:Nat}{lt:Nat->Nat->Bool}{p:List Nat}(h:Ends n lt p):p.length=n:=by
 rcases h with ⟨_,pm,_⟩|⟨_,q,_,rfl,e⟩
 ·simpa using pm.size
 ·rw[aS,e]
theorem Ha{vs:List ag}{lt:Nat->Nat->Bool}{q:List (_root_.Fin vs.length)}(hq:Tm.kF (λi j:_root_.Fin vs.length=>lt i.1 j.1) (i6 vs.length)=ab q)
 (hcmp:∀i j C,i<vs.length->j<vs.length->C (lt i j) s->kas_ask prog w A oneType' vs i j C s) {Q:Unit->dJ->Prop}
 (h:∀st',arrOf st'=(q.map (·.1)).toArray.map (og (pairsOf vs))->failedOf st'=ae->Q () st'):wpS (model prog w) A E s sortRuns' Q (jL oneType' (vs.toArray.zip vs.toArray) #[] 7 ae):=by
 rw[Tm.Iv]
 let it:_root_.Fin vs.length->bw:=λi=>og (pairsOf vs) i.1
 have hL:∀x y,Tm.R (model prog w) A E s oneType' it (G:=(id:Option Bool->Option Bool)) (lt' (it x) (it y)) ((Tm.wP λi j:_root_.Fin vs.length=>lt i.1 j.1).lt x y):=λx y ps b ps' e Q q=>by
  cases e;rw[lt'_eq];refine wpS_bind (wpS_get ?_);have c:=hcmp x.1 y.1 (λb s'=>s'=s/\b=lt x.1 y.1) x.2 y.2 ⟨rfl,rfl⟩;rw[kas_ask_eq]at c;refine wpS_bind (wpS_lift (xC (gI c (λb s' hb=>?_) λ_ _ z=>z.elim)));obtain⟨rfl,rfl⟩:=hb;exact⟨rfl,wpS_pure q⟩
 have run:=Tm.GN (κ:=oneType') (it:=it) hL;unfold Tm.kF at hq;cases hr:Tm.runs (Tm.wP λi j:_root_.Fin vs.length=>lt i.1 j.1) ⟨i6 vs.length,#[],7⟩with
 |none=>rw[hr]at hq;cases hq
 |some r=>
  rw[hr]at hq;have hq:r.2.a=q:=fj hq;have:=run _ r.1 r.2 hr Q (h _ (by
   show Tm.arr it r.2.a=_;rw[<- hq];unfold Tm.arr;rw[List.map_toArray,dA];rfl) rfl)
  have e0:Tm.up oneType' it ⟨i6 vs.length,#[],7⟩=jL oneType' (vs.toArray.zip vs.toArray) #[] 7 ae:=by
   show jL oneType' (Tm.arr it (i6 vs.length)) #[] 7 ae=jL oneType' (pairsOf vs) #[] 7 ae
   congr 1
   rw[<- kas_range (pairsOf vs)];apply oA.mp;rw[EC,pairsOf_size];show(i6 vs.length).map it=(bn vs.length).map _;apply xk
   ·rw[aS,aS,List.length_finRange,xj]
   ·intro i h1 h2;rw[xm,xm,xh,List.getElem_finRange];rfl
  rw[e0]at this;exact this
theorem FF{a:ah}{vs:List ag}{lt:Nat->Nat->Bool}{n:Nat}{P:qF->ak->Prop}(ho:s.heap.get? a=ab (seqObj "list" vs.toArray n))(hlen:vs.length<=1000)(O:sr vs.length lt)
 (ht:64<=vs.length->∃q,Tm.kF (λi j:_root_.Fin vs.length=>lt i.1 j.1) (i6 vs.length)=ab q/\q.length=vs.length)
 (hT:∀h',(∀b o,b≠a->s.heap.get? b=ab o->h'.get? b=ab o)->2<=vs.length->∀(Q:oz->ak->Prop),Q oneType' { s with heap:=h' }->wpAny (model prog w) A (keyKind' vs.toArray) Q (λ_ _=>False) { s with heap:=h' })
 (hcmp:∀h',(∀b o,b≠a->s.heap.get? b=ab o->h'.get? b=ab o)->∀i j C,i<vs.length->j<vs.length->C (lt i j) { s with heap:=h' }->kas_ask prog w A oneType' vs i j C { s with heap:=h' })
 (h:∀p:List Nat,Ends vs.length lt p->P (.done (.ret .none)) { s with heap:=sortedHeap s.heap a vs (km (p.map λi=>vs.getD i d6)) }) :
 wpAny (model prog w) A (jF.«list.sort» ⟨[.ref a],[]⟩) P E s:=by
 rw[list_sort_plain];have su:=ue s.heap a (g6 λ_=>(#[]:Array ag));have la:a<s.heap.objs.size:=bH ho;refine aA (i7 ho rfl ?_);refine aA (listUpdate_at ho rfl ?_ (by rw[bG,dh];omega) (fi _));obtain⟨c1,hc1⟩ : ∃c1,(s.heap.update a (g6 λ_=>(#[]:Array ag))).get? a=ab (seqObj "list" #[] c1):=⟨_,get?_update_seq ho λ_=>#[]⟩;refine aA (seqEpoch_at hc1 rfl ?_);refine aA (wpAny_newTuple ?_ (by show vs.length<=_;rw[dh];omega));refine aA (xB ?_ (fi _));refine jE ?_;generalize hh:((s.heap.update a (g6 λ_=>(#[]:Array ag))).push (seqObj "tuple" vs.toArray 0)).push (seqObj "list" #[] 0)=h2;have k2:∀b o,b≠a->s.heap.get? b=ab o->h2.get? b=ab o:=λb o nb q=>by
  rw[<- hh];exact cP _ (cP _ ((su.2 b nb).trans q))
 have hc2:h2.get? a=ab (seqObj "list" #[] c1):=by rw[<- hh];exact cP _ (cP _ hc1)
 have eh:∀out,sortedHeap s.heap a vs out=h2.update a (g6 λ_=>out):=λout=>by rw[<- hh];rfl
 show wpAny (model prog w) A _ P E { s with heap:=h2 };dsimp only;have go:∀(st':dJ) (p:List Nat),Ends vs.length lt p->(arrOf st').map (·.2)=km (p.map λi=>vs.getD i d6)->failedOf st'=ae->wpAny (model prog w) A (do
  let touched:=(<- seqEpoch a) != c1
  Builtin.List.listUpdate (.ref a) λ_=>(arrOf st').map (·.2)
  if let ab e:=failedOf st' then rule "list.sort.comparison-raised"; throw e
  if touched then rule "list.sort.modified"; raiseError "ValueError" "list modified during sort"
  ret .none) P E { s with heap:=h2 }:=λst' p en e1 e2=>by
  rw[e1,e2];refine aA (seqEpoch_at hc2 rfl ?_);refine aA (listUpdate_at hc2 rfl ?_ (fi _) (by show(km (p.map λi=>vs.getD i d6)).size<=_;rw[bG,aS,en.len,dh];omega));simp only[bne_self_eq_false,ou,gg];have:=h p en;rw[eh]at this;exact bo this
 have item:∀p:List Nat,(p.toArray.map (og (pairsOf vs))).map (·.2)=km (p.map λi=>vs.getD i d6):=λp=>by
  apply oA.mp;rw[Array.map_map,EC];exact oi λi _=>by show(og (pairsOf vs) i).2=_;rw[kas_item_eq]
 by_cases h2':vs.toArray.size<2
 ·rw[aw h2',aw h2'];rw[bG]at h2';refine aA (bo ?_);rw[StateT.run_pure];refine aA (bo ?_);dsimp only;refine go (jL general' (vs.toArray.zip vs.toArray) #[] 7 ae) (bn vs.length) (.inl ⟨by omega,⟨EL _⟩,λi j hij hj=>by omega⟩) ?_ rfl;rw[<- item];show(pairsOf vs).map _=_;have:=kas_range (pairsOf vs);rw[pairsOf_size]at this;rw[this]
 ·rw[ay h2',ay h2'];rw[bG]at h2';refine aA (gI (hT h2 k2 (by omega) (λκ s'=>κ = oneType'/\s'={ s with heap:=h2 }) ⟨rfl,rfl⟩) (λκ s' hh=>?_) λ_ _ z=>z.elim);obtain⟨rfl,rfl⟩:=hh;by_cases h64:vs.length<64
  ·have wp:=DG (cmp:=kas_ask prog w A oneType' vs) (s:={ s with heap:=h2 }) (hcmp h2 k2) (FH O (by omega));refine aA (gI (kat_run (E:=E) (Q:=λst' s2=>s2={ s with heap:=h2 }/\∃p:Array Nat,Pm vs.length p/\Sd lt p vs.length/\arrOf st'=p.map (og (vs.toArray.zip vs.toArray))/\failedOf st'=ae) rfl (by omega) h64 (λp st' s2 _ a2 a3 a4=>⟨a4.1,p,a4.2.1,a4.2.2,a2,a3⟩) wp) ?_ λ_ _ z=>z);rintro⟨⟨⟩,st'⟩ s2 ⟨rfl,p,pm,sd,har,hf⟩;dsimp only;refine go st' p.toList (.inl ⟨h64,by rw[xO];exact pm,by rw[xO];exact sd⟩) ?_ hf;rw[<- item,xO,har];rfl
  ·obtain⟨q,hq,lq⟩:=ht (by omega);refine aA (gI (Ha hq (hcmp h2 k2) (E:=E) (Q:=λ_ st'=>arrOf st'=(q.map (·.1)).toArray.map (og (pairsOf vs))/\failedOf st'=ae) λst' a1 a2=>⟨a1,a2⟩) ?_ λ_ _ z=>z);rintro⟨⟨⟩,st'⟩ s2 ⟨rfl,har,hf⟩;dsimp only;refine go st' (q.map (·.1)) (.inr ⟨by omega,q,hq,rfl,lq⟩) ?_ hf;rw[<- item,har]
theorem ID{l:ah}{vs:List ag}{lt:Nat->Nat->Bool}{Q:ag->ak->Prop}(hl:s.heap.IsList l vs.toArray)(hlen:vs.length<=1000)(O:sr vs.length lt)
 (ht:64<=vs.length->∃q,Tm.kF (λi j:_root_.Fin vs.length=>lt i.1 j.1) (i6 vs.length)=ab q/\q.length=vs.length)
 (hT:∀h',(∀b o,s.heap.get? b=ab o->h'.get? b=ab o)->2<=vs.length->∀(Q:oz->ak->Prop),Q oneType' { s with heap:=h' }->wpAny (model prog w) A.in1.in1 (keyKind' vs.toArray) Q (λ_ _=>False) { s with heap:=h' })
 (hcmp:∀h',(∀b o,s.heap.get? b=ab o->h'.get? b=ab o)->∀i j C,i<vs.length->j<vs.length->C (lt i j) { s with heap:=h' }->kas_ask prog w A.in1.in1 oneType' vs i j C { s with heap:=h' })
 (h:∀p:List Nat,Ends vs.length lt p->Q (.ref (s.heap.objs.size+1)) { s with heap:=sortedAll s.heap vs (km (p.map λi=>vs.getD i d6)) }) :
 wpAny (model prog w) A (call (.builtin "sorted") [.ref l]) Q E s:=by
 refine Calls.call_function_entry kind_sorted plain_sorted entry_sorted (args_sorted1 _) ?_;unfold jF.«sorted»;refine aA (m:=checkCount "sorted" 1 1 _) (bo ?_);refine aA (collect_list hl ?_ (by rw[dh];omega));refine aA (xB ?_ (by rw[dh];omega));generalize hh1:((s.heap.push (seqObj "list" #[] 0)).update s.heap.objs.size (g6 (· ++ vs.toArray)))=h1;have z1:h1.objs.size=s.heap.objs.size+1:=by rw[<- hh1,Heap.size_update,size_push']
 have k1:∀b o,s.heap.get? b=ab o->h1.get? b=ab o:=λb o q=>by
  have hlt:b<s.heap.objs.size:=bH q;rw[<- hh1,Heap.get?_update_ne _ _ _ _ (gs hlt),Heap.get?_push_ne _ _ _ (gs hlt)];exact q
 have hoL:(h1.push (seqObj "list" vs.toArray 0)).get? (s.heap.objs.size+1)=ab (seqObj "list" vs.toArray 0):=by rw[<- z1];exact eE _ rfl
 show wpAny _ _ _ _ _ { s with heap:=h1.push (seqObj "list" vs.toArray 0) };rw[z1];have kk:∀h':aI,(∀b o,b≠s.heap.objs.size+1->(h1.push (seqObj "list" vs.toArray 0)).get? b=ab o->h'.get? b=ab o)->∀b o,s.heap.get? b=ab o->h'.get? b=ab o:=λh' kp b o q=>kp b o (λz=>by
  have hlt:b<s.heap.objs.size:=bH q;rw[z]at hlt;exact absurd hlt (Nat.not_lt.mpr (qI _))) (cP _ (k1 b o q))
 refine aA (jE (mF slot_list_sort ⟨_,hoL,rfl⟩ entry_list_sort (FF (lt:=lt) hoL hlen O ht (λh' kp=>hT h' (kk h' kp)) (λh' kp=>hcmp h' (kk h' kp)) λp en=>⟨_,rfl,?_⟩) (args_list_sort _)));have:=h p en;unfold sortedAll at this;rw[hh1]at this;exact bo ⟨_,rfl,this⟩
end
end So
namespace Mi
open PySem
def jj:List D->Option (List (List Int))
 |[]=>ab []
 |.lst ds::r=>(ji ds).bind λk=>(jj r).map (k :: ·)
 |_=>ae
def fI(a b:List Int):Bool:=!So.bv b a
def g9(rows:List (List Int)):Option (List (List Int)):=
 if rows.length<64 then ab (rows.mergeSort fI)else
  (Tm.kF (λi j:_root_.Fin rows.length=>So.nY rows i.1 j.1) (i6 rows.length)).bind λq=>if q.length=rows.length then ab (q.map λi=>rows.getD i.1 [])else ae
def dQ(r:List Int):D:=.lst (r.map D.int)
def wq:List D->Rs D
 |[.lst ds]=>(cN (jj ds)).bind λrows=>a6 (rows.Nodup/\rows.length<=1000) ((cN (g9 rows)).bind λres=>.ok (.lst (res.map dQ)))
 |_=>.no
theorem Cc(a b:List Int)(h:fI a b=true)(k:fI b a=true):a=b:=ub λz=>by
 unfold fI at h k;rcases So.pZ z with y|y
 ·rw[y]at k;cases k
 ·rw[y]at h;cases h
theorem FT(a b:List Int):(fI a b||fI b a)=true:=by
 unfold fI;cases h:So.bv a b with
 |false=>simp
 |true=>rw[So.oW h];rfl
theorem qr{a b:List Int}(h:So.bv a b=true):fI a b=true:=by unfold fI;rw[So.oW h];rfl
theorem FN(a b c:List Int)(h:fI a b=true)(k:fI b c=true):fI a c=true:=by
 by_cases e:a=b
 ·rw[e];exact k
 by_cases f:b=c
 ·rw[<- f];exact h
 have h1:So.bv a b=true:=(So.pZ e).resolve_right λz=>by unfold fI at h;rw[z]at h;cases h
 have h2:So.bv b c=true:=(So.pZ f).resolve_right λz=>by unfold fI at k;rw[z]at k;cases k
 exact qr (So.rQ h1 h2)
theorem BI{xs ys:List (List Int)}(hp:ys.Perm xs)(hs:ys.Pairwise λa b=>fI a b=true):ys=xs.mergeSort fI:=uD Cc _ _ (hp.trans (List.mergeSort_perm xs _).symm) hs (List.pairwise_mergeSort (λa b c=>FN a b c) (λa b=>FT a b) xs)
theorem GW{rows res:List (List Int)}{p:List Nat}(h:So.Ends rows.length (So.nY rows) p)(e:g9 rows=ab res):res=p.map λi=>rows.getD i []:=by
 rcases h with ⟨h64,pm,sd⟩|⟨h64,q,hq,rfl,lq⟩
 ·unfold g9 at e;rw[aw h64]at e;cases e;refine(BI ?_ ?_).symm
  ·have pp:p.Perm (bn rows.length):=by have:=uc.mp pm.pm;simpa using this
   refine(pp.map _).trans (List.Perm.of_eq ?_);apply xk (by simp);intro i h1 h2;simp[h2]
  ·rw[qy,DS];intro i j hi hj hij;have sz:p.length=rows.length:=by simpa using pm.size
   have:=sd i j hij (by omega);rw[So.pe (by simpa using hi),So.pe (by simpa using hj)]at this;simp only[List.getElem_toArray]at this;exact qr this
 ·unfold g9 at e;rw[ay (by omega),hq]at e;have e:(if q.length=rows.length then ab (q.map λi=>rows.getD i.1 [])else ae)=ab res:=e;rw[aw lq]at e;cases e;rw[dA];rfl
end Mi
namespace A
open PySem L2 PyProof.Rows So
open Mi (D W Rs Fin ao)
variable[Tb:a8]
section
variable{X:Cx}
def Dy(H:Hp)(r:List Int)(v:V):Prop:=∃p,v=.ref p/\Lst H p (r.map V.int)
def Bb:List V->Hp->VK->Prop:=λvs H Q=>∃(a:ah) (xs:List V) (rows res:List (List Int)),vs=[.ref a]/\Lst H a xs/\P2 (Dy H) rows xs/\rows.Nodup/\rows.length<=1000/\Mi.g9 rows=ab res/\∀(p:ah) (idx:List Nat),H p=ae->(∀i∈idx,i<rows.length)->res=(idx.map λi=>rows.getD i [])->Q (.ref p) (upd H p (.lst (idx.map λi=>xs.getD i .non)))
theorem Jh(hu:X.A.units+64<cLine):fo X (.builtin "sorted") Bb:=by
 intro af s σ H xs us Q I r h;obtain⟨a,xs,rows,res,rfl,hl,hr,nd,hlen,hsr,q⟩:=h;obtain⟨u,rfl,ru⟩:=vals1 r;cases(show u=cE a from ru);obtain⟨ai,n0,rv,hz,ho⟩:=l0 I hl;have hli:=rv.length;have hrl:rows.length=xs.length:=P2.len hr;have at_:∀i,i<ai.length->∃pp o us nn,ai.getD i d6=.ref pp/\s.heap.get? pp=ab o/\o.cls=.type "list" /\ o.data=.seq (km us) nn/\iD us (rows.getD i []):=λi hi=>by
  have e1:rows[i]? = ab (rows.getD i []):=by simp[show i<rows.length by omega]
  obtain⟨v,e2,pp,rfl,hp⟩:=P2.getL hr e1;obtain⟨u,e3,r3⟩:=rv.get e2;cases r3;obtain⟨us,nn,vu,_,ho⟩:=l0 I hp;exact⟨pp,_,us,nn,by simp[e3],ho,rfl,rfl,As vu⟩
 have hord:=Kt nd;rw[hrl,hli]at hord;refine ID (vs:=ai) (lt:=nY rows) ⟨_,ho,rfl,_,rfl⟩ (by omega) hord (λh64=>?_) (λh' kp h2 Q' hq'=>?_) (λh' kp i j C hi hj hC=>?_) λp en=>?_
 ·unfold Mi.g9 at hsr;rw[ay (by omega)]at hsr;have el:rows.length=ai.length:=by omega
  rw[<- el];cases ht:Tm.kF (λi j:_root_.Fin rows.length=>So.nY rows i.1 j.1) (i6 rows.length)with
  |none=>rw[ht]at hsr;cases hsr
  |some q'=>
   rw[ht]at hsr;have hsr:(if q'.length=rows.length then ab (q'.map λi=>rows.getD i.1 [])else ae)=ab res:=hsr;by_cases lq:q'.length=rows.length
   ·exact⟨q',rfl,lq⟩
   ·rw[ay lq]at hsr;cases hsr
 ·refine PySem.W.kas_kind (T:=t7 "list") h2 (λv hv=>?_) (by decide) (by decide) hq';obtain⟨i,hi⟩:=mv hv;have hil:=(cV.mp hi).1;obtain⟨pp,o,us,nn,e1,e2,e3,_⟩:=at_ i hil;have:v=.ref pp:=by
   rw[<- e1];simp[hi]
  rw[this,<- e3];exact(PySem.W.Looks.ld (kp _ _ e2)).andThen .now
 ·obtain⟨p1,o1,us1,n1,a1,a2,a3,a4,a5⟩:=at_ i hi;obtain⟨p2,o2,us2,n2,b1,b2,b3,b4,b5⟩:=at_ j hj;unfold PySem.W.kas_ask;rw[a1,b1];exact Fu (kp _ _ a2) a3 a4 (kp _ _ b2) b3 b4 a5 b5 (by show X.A.units+1+1<cLine;omega) hC
 ·have el:ai.length=rows.length:=by omega
  rw[el]at en;have ers:=Mi.GW en hsr;have plt:=en.lt;generalize hout:km (p.map λi=>ai.getD i d6)=out;obtain⟨e1,he⟩:=sortedAll_at s.heap ai out;have fr:H (s.heap.objs.size+1)=ae:=I.hok.fresh (qI _);have vo:Vals (p.map λi=>xs.getD i .non) out.toList:=by
   rw[<- hout];show Vals _ (p.map λi=>ai.getD i d6);have:∀l:List Nat,(∀i∈l,i<rows.length)->Vals (l.map λi=>xs.getD i .non) (l.map λi=>ai.getD i d6):=λl=>by
    induction l with
    |nil=>intro _;exact .nil
    |cons i r ih=>
     intro hl;have hi:=hl i cC;have e1:xs[i]? = ab (xs.getD i .non):=by simp[show i<xs.length by omega]
     obtain⟨u,e2,r2⟩:=rv.get e1;refine .cons ?_ (ih λj hj=>hl j (cA _ hj));have:ai.getD i d6=u:=by simp[e2]
     show RelV (xs.getD i .non) (ai.getD i d6);rw[this];exact r2
   exact this p plt
  refine⟨.ref (s.heap.objs.size+1),_,adopt (fp:=[s.heap.objs.size+1]) (D:=s.heap.objs.size+1) (o:=.lst (p.map λi=>xs.getD i .non)) (t':=s.toks) I (λb hb=>?_) (bC.mpr rfl) (λb u _ q=>sortedAll_old q) ⟨?_,out.toList,e1,vo,he⟩,rfl,q _ p fr plt ers⟩
  ·rw[bC.mp hb];exact I.iO (qI _) fr
  ·rw[aS,en.len,dh];omega
end
theorem Ce{Hv:Hp}:∀{ds:List D} {ss:List Int} {xs:List V},Mi.ji ds=ab ss->P2 (Rep Hv) ds xs->ds=ss.map D.int/\xs=ss.map V.int
 |[],ss,_,h,.nil=>by cases h;exact⟨rfl,rfl⟩
 |d::r,ss,_,h,.cons k t=>by
  cases d with
  |int z=>
   rw[Mi.ji]at h;cases e:Mi.ji r with
   |none=>rw[e]at h;cases h
   |some q=>
    rw[e]at h;cases h;obtain⟨h1,h2⟩:=Ce e t;rw[nD.mp k,h1,h2];exact⟨rfl,rfl⟩
  |_=>simp[Mi.ji]at h
theorem An{Hv:Hp}:∀{ds:List D} {rows:List (List Int)} {xs:List V},Mi.jj ds=ab rows->P2 (Rep Hv) ds xs->P2 (λr v=>Rep Hv (Mi.dQ r) v/\Dy Hv r v) rows xs
 |[],_,_,h,.nil=>by cases h;exact .nil
 |d::r,_,_,h,.cons k t=>by
  cases d with
  |lst z=>
   rw[Mi.jj]at h;cases e:Mi.ji z with
   |none=>rw[e]at h;cases h
   |some q=>
    cases f:Mi.jj r with
    |none=>rw[e,f]at h;cases h
    |some w=>
     rw[e,f]at h;cases h;obtain⟨a,ys,rfl,l,rr⟩:=iW.mp k;obtain⟨h1,h2⟩:=Ce e rr;refine .cons ⟨?_,a,rfl,?_⟩ (An f t)
     ·unfold Mi.dQ;rw[<- h1];exact k
     ·rw[<- h2];exact l
  |_=>simp[Mi.jj]at h
theorem JL:BN qN Bb Mi.wq:=λds vs H Hv Q vw r h=>by
 match ds,r,h with
 |[.lst ds],r,h=>
  obtain⟨v,ev,rr⟩:=k8 r;subst ev;obtain⟨p,xs,rfl,l1,r1⟩:=RD.lst vw rr;have h:=ao.mp h;cases e:Mi.jj ds with
  |none=>rw[e]at h;exact h.elim
  |some rows=>
   rw[e]at h;obtain⟨⟨nd,hlen⟩,h⟩:=Mi.cy (show Fin (Mi.a6 (rows.Nodup/\rows.length<=1000) _) _ from h);have rr:=An e r1;have h:=ao.mp h;cases f:Mi.g9 rows with
   |none=>rw[f]at h;exact h.elim
   |some res=>
    rw[f]at h;refine⟨p,xs,rows,res,rfl,l1,?_,nd,hlen,f,λa idx ha hi hres=>?_⟩
    ·exact P2.imp (λ_ _ z=>by obtain⟨q,e1,e2⟩:=z.2;exact⟨q,e1,e2.same vw.sub⟩) rr
    ·have r2:P2 (Rep Hv) (res.map Mi.dQ) (idx.map λi=>xs.getD i .non):=by
      rw[hres,dA];have:∀l:List Nat,(∀i∈l,i<rows.length)->P2 (Rep Hv) (l.map (Mi.dQ ∘ λi=>rows.getD i [])) (l.map λi=>xs.getD i .non):=λl=>by
       induction l with
       |nil=>intro _;exact .nil
       |cons i r ih=>
        intro hl;have hi:=hl i cC;have e1:rows[i]? = ab (rows.getD i []):=by simp[hi]
        obtain⟨u,e2,r2,_⟩:=P2.getL rr e1;refine .cons ?_ (ih λj hj=>hl j (cA _ hj));have:xs.getD i .non=u:=by simp[e2]
        show Rep Hv (Mi.dQ (rows.getD i [])) (xs.getD i .non);rw[this];exact r2
      exact this idx hi
     obtain⟨g,k⟩:=uT vw r2 ha;exact(Mi.j1 h) _ _ _ g k
 |[],_,h=>exact h.elim
 |[.non],_,h=>exact h.elim
 |[.bl _],_,h=>exact h.elim
 |[.int _],_,h=>exact h.elim
 |[.str _],_,h=>exact h.elim
 |[.tup _],_,h=>exact h.elim
 |d::_::_,_,h=>cases d<;>exact(show False from h).elim
end A
namespace Mr
open PySem Mi
def C2:S:=
 (dM (c9 (mV 1)) (.n 2)
 (bA (cB (m2 iL (mV 2) (mV 0)))
 pz
 cn))
def kU:Fn:=eP 2 3 C2
def AI:S:=
 (aP (bE 2 (mC (.str "etaoinshrdlucmfwypvbgkqjxz")))
 (aP (bA (cB (m2 dR (m2 aU (mV 0) (mC (.int 4))) (mC (.int 2))))
 (aP (bE 3 (m2 rY (mC (.str "")) (eu [ab 2,ab 0,ae] (f8 (mC (.int 8))) (.n 2) dD (m2 aG (mV 0) (m2 aU (m2 bN (mV 1) (m2 aW (mC (.int 4)) (m2 bp (mC (.int 3)) (mV 2)))) (mC (.int 26)))))))
 (aP (bA (cB (m2 et (m2 aU (mV 0) (mC (.int 4))) (mC (.int 0))))
 (bJ (wD (eu [ab 3,ae] (f8 (mV 1)) (.n 1) dD (fL gA (mV 0) ae (ab (m2 aW (mV 1) (mC (.int 1))))))))
 cn)
 (bJ (wD (eu [ab 3,ae] (f8 (mV 1)) (.n 1) dD (fL gA (mV 0) (ab (m2 iS (mC (.int 7)) (mV 1))) ae))))))
 cn)
 (aP (bE 4 (m2 aU (m2 bN (mV 0) (mC (.int 4))) (mC (.int 8))))
 (aP (bE 5 (m2 rY (mC (.str "")) (eu [ab 2,ab 0,ae] (f8 (mV 4)) (.n 2) dD (m2 aG (mV 0) (m2 aU (m2 aW (m2 aW (m2 bN (mV 1) (mC (.int 32))) (m2 bp (mC (.int 5)) (mV 2))) (m2 bp (mV 2) (mV 2))) (mC (.int 26)))))))
 (aP (bE 6 (m2 aU (m2 bN (mV 0) (mC (.int 256))) (m2 aW (mV 4) (mC (.int 1)))))
 (bJ (wD (eu [ab 5,ab 2,ab 6,ab 0,ae] (f8 (mV 1)) (.n 4) dD (m2 aW (m2 aW (fL gA (mV 0) ae (ab (mV 2))) (m2 aG (mV 1) (m2 aU (m2 aW (m2 bN (mV 3) (mC (.int 7))) (m2 bp (mC (.int 5)) (mV 4))) (mC (.int 26))))) (fL gA (mV 0) (ab (mV 2)) ae))))))))))
def ql:Fn:=gc 2 7 AI
def CW:S:=
 (aP (uP 1 (λ_=>.ok (.dk [])))
 (dM (c9 (mV 0)) (.n 2)
 (aP (bA (cB (pk 1 (mV 2)))
 pz
 cn)
 (iN 1 (mV 2) (mC (.bl true))))))
def p6:Fn:=eP 1 3 CW
def uH:S:=
 (aP (bA (cB (m2 dR (mV 1) (mN da [(mV 0)])))
 (bJ (wD (m2 aG (mV 0) (mV 1))))
 cn)
 (aP (bE 2 (m2 aW (mC (.int 30011)) (m2 bp (m2 bp (mC (.int 709)) (mV 1)) (mV 1))))
 (aP (bA (cB (m2 uX (mN da [(mV 0)]) (mC (.int 0))))
 (bE 2 (m2 aW (mV 2) (m2 bp (m2 aU (m2 aG (mV 0) (mC (.int 0))) (mC (.int 99991))) (m2 aW (m2 aW (m2 bp (mV 1) (mV 1)) (m2 bp (mC (.int 2)) (mV 1))) (mC (.int 5))))))
 cn)
 (bJ (wD (mV 2))))))
def d9:Fn:=eP 2 3 uH
def Du:S:=
 (aP (bE 2 (eu [ae] (f8 (mV 1)) (.n 0) dD (mV 0)))
 (aP (bE 3 (mN cH []))
 (aP (bE 4 (m2 aU (mV 0) (mC (.int 2147483647))))
 (aP (dM (f8 (mV 1)) (.n 5)
 (aP (bE 4 (m2 aU (m2 aW (m2 aW (m2 bp (mV 4) (mC (.int 48271))) (m2 bp (mC (.int 7)) (mV 5))) (mC (.int 1))) (mC (.int 2147483647))))
 (r0 3 2 (m2 aU (m2 bN (mV 4) (mC (.int 32))) (mN da [(mV 2)])))))
 (bJ (wV 3))))))
def pj:Fn:=gc 2 6 Du
def CF:S:=
 (aP (bE 2 (m2 aW (mC (.int 1)) (m2 aU (aX d9 [(wD (mV 0)),(wD (mC (.int 0)))]) (mV 1))))
 (aP (bE 3 (aX ql [(wD (aX d9 [(wD (mV 0)),(wD (mC (.int 1)))])),(wD (mV 2))]))
 (aP (bE 4 (aX pj [(wD (aX d9 [(wD (mV 0)),(wD (mC (.int 2)))])),(wD (mV 2))]))
 (aP (bE 5 (m2 aG (mN cH [(mC (.int 4)),(mC (.int 1)),(mC (.int 2)),(mC (.int 3)),(mC (.int 2)),(mC (.int 3))]) (m2 aU (aX d9 [(wD (mV 0)),(wD (mC (.int 3)))]) (mC (.int 6)))))
 (aP (bE 6 (mN cH []))
 (aP (dM (f8 (mV 2)) (.n 7)
 (dM (f8 (mV 2)) (.n 8)
 (aP (bE 9 (aX d9 [(wD (mV 0)),(wD (m2 aW (m2 aW (mC (.int 4)) (m2 bN (m2 bp (mN gY [(mV 7),(mV 8)]) (m2 iS (mN gY [(mV 7),(mV 8)]) (mC (.int 1)))) (mC (.int 2)))) (mN lc [(mV 7),(mV 8)])))]))
 (bA (fb (cB (m2 dR (m2 aG (mV 4) (mV 7)) (m2 aG (mV 4) (mV 8)))) (cB (m2 dR (m2 aU (m2 bN (m2 aU (m2 bp (mV 9) (mC (.int 48271))) (mC (.int 2147483647))) (mC (.int 16))) (mC (.int 4))) (mV 5))))
 (fV 6 (mN dTup [(m2 aG (mV 3) (mV 7)),(m2 aG (mV 3) (mV 8))]))
 cn))))
 (bJ (wD (mN dTup [(mN u6 [(mV 3)]),(mN u6 [(mV 6)])])))))))))
def qo:Fn:=eP 2 10 CF
def Cd:S:=
 (aP (bE 2 (aX d9 [(wD (mV 0)),(wD (mC (.int 0)))]))
 (aP (bE 3 (m2 aU (m2 bN (mV 2) (m2 iS (mV 1) (mC (.int 1)))) (m2 vG (mC (.int 10)) (mC (.int 9)))))
 (aP (bE 4 (m2 aW (m2 aW (mC (.int 1)) (m2 aU (mV 2) (m2 iS (mV 1) (mC (.int 1))))) (m2 bp (mV 1) (mV 3))))
 (bJ (wD (aX qo [(wD (m2 aW (mN cH [(mV 4)]) (fL gA (mV 0) (ab (mC (.int 1))) ae))),(wD (mV 1))]))))))
def qt:Fn:=eP 2 5 Cd
def lw(F:Fn):S:=
 (aP (bA (jd (cB (m1 (cT ["str"]) (mV 1))) (cB (m1 (cT ["int"]) (mV 1))))
 (aP (bA (jd (cB (m2 fO (m1 (cT ["bool"]) (mV 0)) (m1 (cT ["bool"]) (mV 1)))) (cB (m2 fO (m1 (cT ["str"]) (mV 0)) (m1 (cT ["str"]) (mV 1)))))
 (bJ (wD (mC (.bl false))))
 cn)
 (bJ (wD (wF (m1 (cT ["int","str"]) (mV 0)) (m2 et (mV 0) (mV 1))))))
 cn)
 (aP (bA (jd (cB (m2 fO (m1 (cT ["list"]) (mV 0)) (m1 (cT ["list"]) (mV 1)))) (eF (cB (m1 (cT ["list","tuple"]) (mV 0)))))
 (bJ (wD (mC (.bl false))))
 cn)
 (aP (bA (cB (m2 fO (mN da [(mV 0)]) (mN da [(mV 1)])))
 (bJ (wD (mC (.bl false))))
 cn)
 (aP (dM (sW (mV 0) (mV 1)) (.t [2,3])
 (bA (eF (cB (aX F [(wD (mV 2)),(wD (mV 3))])))
 (bJ (wD (mC (.bl false))))
 cn))
 (bJ (wD (mC (.bl true))))))))
def cR:Nat->Fn
 |0=>v0
 |n+1=>eP 2 4 (lw (cR n))
def zj:S:=
 (aP (bE 2 (mN cH [(m2 aU (aX d9 [(wD (mV 0)),(wD (mC (.int 39)))]) (mC (.int 2147483647)))]))
 (aP (dM (wH (fL gA (mV 0) (ab (mC (.int 40))) (ab (mC (.int 63))))) (.t [3,4])
 (bA (cB (m2 dR (m2 aW (mV 3) (mC (.int 1))) (mV 1)))
 (fV 2 (m2 aU (mV 4) (mC (.int 2147483647))))
 (o0 2 (m2 aU (mV 3) (mV 1)) (m2 aU (m2 aW (m2 bp (m2 aG (mV 2) (m2 aU (mV 3) (mV 1))) (mC (.int 69621))) (mV 4)) (mC (.int 2147483647))))))
 (bJ (wV 2))))
def pV:Fn:=gc 2 5 zj
def yD:S:=(bJ (wD (kE (m2 ia (mN dTup [(mV 1),(mV 2)]) (m2 aG (mV 0) (mC (.int 1)))) (m2 ia (mN dTup [(mV 2),(mV 1)]) (m2 aG (mV 0) (mC (.int 1)))))))
def iP:Fn:=eP 3 3 yD
def CV:S:=
 (aP (iR (aX kU [(wD (m2 aG (mV 0) (mC (.int 0)))),(wD (mN cH [(mV 1),(mV 2)]))]))
 (bJ (wD (kE (m2 ia (mN dTup [(mV 1),(mV 2)]) (m2 aG (mV 0) (mC (.int 1)))) (m2 ia (mN dTup [(mV 2),(mV 1)]) (m2 aG (mV 0) (mC (.int 1))))))))
def lO:Fn:=eP 3 3 CV
def Bq:S:=
 (aP (iR (aX kU [(wD (mV 0)),(wD (mV 1))]))
 (iR (aX p6 [(wD (mV 1))])))
def pY:Fn:=eP 2 2 Bq
def BW:S:=
 (aP (bE 2 (mN AX [(m2 aG (mV 0) (mC (.int 0)))]))
 (aP (lS 3 2 (m2 aU (mV 1) (mN da [(mV 2)])))
 (aP (lS 4 2 (m2 aU (m2 bN (mV 1) (mC (.int 8))) (mN da [(mV 2)])))
 (aP (bE 5 (mN cH []))
 (aP (dM (f8 (mN da [(mV 2)])) (.n 6)
 (bA (cB (m2 et (m2 aU (m2 bN (m2 aU (m2 bp (mV 1) (m2 aW (mC (.int 48271)) (m2 bp (m2 bp (mC (.int 614)) (mV 6)) (mV 6)))) (mC (.int 2147483647))) (mC (.int 16))) (m2 aW (mC (.int 2)) (m2 aU (m2 bN (mV 1) (mC (.int 64))) (mC (.int 2))))) (mC (.int 0))))
 (fV 5 (m2 aG (mV 2) (mV 6)))
 cn))
 (aP (bA (cB (m2 et (m2 aU (m2 bN (mV 1) (mC (.int 128))) (mC (.int 2))) (mC (.int 1))))
 (wT 5)
 cn)
 (mP (bJ (wD (mN cH [(mV 3),(mV 4),(mV 5)]))))))))))
def lE:Fn:=gc 2 7 BW
def Dm:S:=
 (aP (uP 1 (λ_=>.ok (.dk [])))
 (aP (dM (c9 (m2 aG (mV 0) (mC (.int 0)))) (.n 2)
 (iN 1 (mV 2) (eu [ab 0,ab 2,ae] (c9 (m2 aG (mV 0) (mC (.int 0)))) (.n 2) (cB (aX lO [(wD (mV 0)),(wD (mV 1)),(wD (mV 2))])) (mV 2))))
 (bJ (wV 1))))
def ly:Fn:=gc 1 3 Dm
def Bt(F:Fn):S:=
 (aP (bA (cB (m2 et (m2 aG (mV 1) (m1 gC (mC (.int 1)))) (mV 2)))
 (bJ (wD (mN cH [(mV 1)])))
 cn)
 (aP (bE 3 (mN cH []))
 (aP (dM (c9 (sR 0 (m2 aG (mV 1) (m1 gC (mC (.int 1)))))) (.n 4)
 (bA (cB (m2 iL (mV 4) (mV 1)))
 (sB 3 (aX F [(wV 0),(wD (m2 aW (mV 1) (mN cH [(mV 4)]))),(wD (mV 2))]))
 cn))
 (bJ (wV 3)))))
def iE:Nat->Fn
 |0=>v0
 |n+1=>gc 3 5 (Bt (iE n))
def BL:S:=
 (aP (iR (aX pY [(wD (m2 aG (mV 0) (mC (.int 0)))),(wD (mN cH [(mV 1),(mV 2)]))]))
 (bJ (wD (aX (iE 8) [(kM ly [(wD (mV 0))]),(wD (mN cH [(mV 1)])),(wD (mV 2))]))))
def i0:Fn:=gc 3 3 BL
def zy:S:=
 (aP (bE 3 (mN cH []))
 (aP (bE 4 (mN cH [(mN cH [(mV 1)])]))
 (aP (dM (f8 (mN da [(m2 aG (mV 0) (mC (.int 0)))])) (.n 5)
 (aP (bE 6 (mN cH []))
 (aP (dM (c9 (mV 4)) (.n 7)
 (dM (c9 (m2 aG (mV 0) (mC (.int 0)))) (.n 8)
 (bA (fb (cB (m2 et (mV 8) (mV 2))) (cB (aX iP [(wD (mV 0)),(wD (m2 aG (mV 7) (m1 gC (mC (.int 1))))),(wD (mV 8))])))
 (fV 3 (m2 aW (mV 7) (mN cH [(mV 8)])))
 (bA (fb (cB (m2 iL (mV 8) (mV 7))) (fb (cB (m2 fO (mV 8) (mV 2))) (cB (aX iP [(wD (mV 0)),(wD (m2 aG (mV 7) (m1 gC (mC (.int 1))))),(wD (mV 8))]))))
 (fV 6 (m2 aW (mV 7) (mN cH [(mV 8)])))
 cn))))
 (sN 4 6))))
 (bJ (wV 3)))))
def m4:Fn:=gc 3 9 zy
def CP:S:=
 (aP (bE 3 (mN wq [(eu [ab 0,ae] (c9 (aX m4 [(wD (mV 0)),(wD (mV 1)),(wD (mV 2))])) (.n 1) dD (eu [ab 0,ae] (c9 (mV 1)) (.n 1) dD (m2 rG (m2 aG (mV 0) (mC (.int 0))) (mV 1))))]))
 (bJ (wD (eu [ab 0,ae] (c9 (mV 3)) (.n 1) dD (eu [ab 0,ae] (c9 (mV 1)) (.n 1) dD (m2 aG (m2 aG (mV 0) (mC (.int 0))) (mV 1)))))))
def k9:Fn:=gc 3 4 CP
def C8:S:=
 (aP (bE 1 (aX qt [(wD (mV 0)),(wD (mC (.int 6)))]))
 (aP (dM (c9 (aX pV [(wD (mV 0)),(wD (mC (.int 3)))])) (.n 2)
 (aP (oP [3,4,5] (aX lE [(wD (mV 1)),(wD (mV 2))]))
 (aP (bE 6 (aX k9 [(wD (mV 1)),(wD (mV 3)),(wD (mV 4))]))
 (qh [1,3,4] 7 8 (aX i0 [(wD (mV 1)),(wD (mV 3)),(wD (mV 4))]) (eF (cB (aX (cR 4) [(wD (mV 7)),(wD (mV 6))])))
 (bJ (wD (mC (.bl false))))
 (aP (bA (eF (cB (aX (cR 4) [(wD (aX i0 [(wD (mV 1)),(wD (mV 4)),(wD (mV 3))])),(wD (aX k9 [(wD (mV 1)),(wD (mV 4)),(wD (mV 3))]))])))
 (bJ (wD (mC (.bl false))))
 cn)
 (bA (eF (cB (aX (cR 4) [(wD (aX i0 [(wD (mV 1)),(wD (mV 3)),(wD (mV 4))])),(wD (mV 6))])))
 (bJ (wD (mC (.bl false))))
 cn))))))
 (bJ (wD (mC (.bl true))))))
def vx:Fn:=eP 1 9 C8
end Mr
namespace A
open PySem L2 PyProof.Rows
section
variable{P:bb}{w:aT}{K:aB}{mg:Str->Option ag}{base:aI}[Tb:a8]
variable{x qual:Str}{st:bD}{f:ah}{fd:bS}{N ps:List Str}{k:Nat}{m:Mi.S}
theorem jP(M:Nat->Bool)(F:cL K x qual st f fd)(S:dv N ps (bM st))
 (hb:∀(cdv:ag) (A:br) (outer:List Env) (s:ak) (H:Hp) (E:XK),dP k (A.deeper (envOfC qual (bM st) s.heap.objs.size f cdv))->N.Nodup->(A.deeper (envOfC qual (bM st) s.heap.objs.size f cdv)).units+1<cLine->(A.deeper (envOfC qual (bM st) s.heap.objs.size f cdv)).units+64<cLine ->
  ∃t,gF (kS aL P w K mg base N qual (bM st) f cdv A outer s H E).nH (jT st) t/\AS M qV t m)
 (hM:∀i,i<ps.length->M i=false:=by decide):bt P w K mg base aL (k+1) f fd ps (ck (Mi.eP ps.length N.length m)):=
 F.ok S (λvs H Q E h=>yL h) λcdv A outer s H vs Q E hr h=>
  let ⟨t,a,b⟩:=hb cdv A outer s H E hr S.nd (rW hr) hr.units
  ⟨t,a,Co b hM h⟩
theorem okN(M:Nat->Bool)(F:cL K x qual st f fd)(S:dv N ps (bM st))
 (hb:∀(cdv:ag) (A:br) (outer:List Env) (s:ak) (H:Hp) (E:XK),dP k (A.deeper (envOfC qual (bM st) s.heap.objs.size f cdv))->N.Nodup->(A.deeper (envOfC qual (bM st) s.heap.objs.size f cdv)).units+1<cLine->(A.deeper (envOfC qual (bM st) s.heap.objs.size f cdv)).units+64<cLine ->
  ∃t,gF (kS aL P w K mg base N qual (bM st) f cdv A outer s H E).nH (jT st) t/\AS M qN t m)
 (hM:∀i,i<ps.length->M i=false:=by decide):bt P w K mg base aL (k+1) f fd ps (de (Mi.gc ps.length N.length m)):=
 F.ok S (λvs H Q E h=>AU h) λcdv A outer s H vs Q E hr h=>
  let ⟨t,a,b⟩:=hb cdv A outer s H E hr S.nd (rW hr) hr.units
  ⟨t,a,runN b hM h⟩
end
theorem eR{N P:List Str}{sc:fF}(a:sc.kind=.function:=by rfl)(b:sc.isCoroutine=false:=by rfl)(c:sc.isGenerator=false:=by rfl)(d:N.Nodup:=by decide +kernel)(e:N.take P.length=P:=by rfl)
 (f:∀x∈P,sc.names.lookup x=ab .local\/sc.names.lookup x=ab .cell:=by decide +kernel) (g:∀y∈sc.names,y.2≠.free:=by decide +kernel):dv N P sc:=⟨a,b,c,d,e,f,g⟩
section
variable{M:Nat->Bool}[Tb:a8]
theorem cF(i:Nat)(hm:M i=false:=by rfl):AE M qV (cZ i) (Mi.mV i):=zd i hm
theorem bj(i:Nat)(hm:M i=false:=by rfl):AW M qV (cZ i) (Mi.wD (Mi.mV i)):=AE.w (zd i hm)
end
section
variable{X:Cx}{e:aO}{te:TE}{pos pos':Pos}{x:Str}
theorem pS(i:Nat)(he:PE X e te)(hN:X.N.Nodup:=by assumption)(hi:X.N[i]? = ab x:=by rfl)(hx:Loc X.env.scope x:=by exact fk rfl)(hs:swapsWith e (ab (.Name x pos')) pos.line X.env=pure false:=by rfl)
 (hf:X.fn x=true\/X.env.scope.names.lookup x=ab .local:=by first|exact .inl rfl|exact .inr rfl|assumption):PS X (.Assign [.Name x pos'] e pos) (iq te (fu i)):=pU hN hi hx he hs hf
theorem pG(i:Nat)(hN:X.N.Nodup:=by assumption)(hi:X.N[i]? = ab x:=by rfl)(hx:Loc X.env.scope x:=by exact fk rfl)
 (hf:X.fn x=true\/X.env.scope.names.lookup x=ab .local:=by first|exact .inl rfl|exact .inr rfl|assumption):L2.PG X (.Name x pos) (fu i):=gP hN hi hx hf
theorem oS{a:Str}:[a].Nodup:=iB.mpr ⟨(λh=>nomatch h),List.nodup_nil⟩
theorem kC{a b:Str}(h:a≠b:=by decide):[a,b].Nodup:=iB.mpr ⟨λz=>h (bC.mp z),oS⟩
theorem pC{k k':Nat}{ps:List Str}{sp:Sp}{es:List aO}{t:TA}(C:cx X.prog X.w X.K X.mg X.base aL k x ps sp)(hr:dP k' X.A)(ha:PA X (e::es) t)(hle:k<=k':=by decide)(hg:Gl X x:=by rfl)
 (hdb:(x==("__debug__" : Str))=false:=by decide) (he:starEach (e::es) X.env=(false,eval e X.env)::starEach es X.env:=by rfl) (hpl:(backTo pos (starEach es X.env)).any (·.1)=false:=by rfl) :
 PE X (.Call (.Name x pos') (e::es) [] pos) (mj sp [] E0 t):=lJ C (hr.mono hle) hg lI ha hdb he hpl
theorem a7(i:Nat)(hN:X.N[i]? = ab x:=by rfl)(hv:qS X.env.scope x:=by first|exact fk rfl|exact i8 (fk rfl)|exact i8 (i8 rfl))(hd:(x==("__debug__" : Str))=false:=by decide)
 (hcd:(x==("__classdict__" : Str))=false:=by decide) (hs:starEach [Expr.Name x pos] X.env=(false,eval (.Name x pos) X.env)::starEach [] X.env:=by rfl):PA X [.Name x pos] (fw (cZ i) gn):=ax (pv i hN hv hd hcd) bc hs
theorem pX{a b:aO}{ta tb:TE}(ha:PE X a ta)(hb:PE X b tb)(hs:Af b:=by exactλ_ _=>rfl):PE X (.Subscript a b pos) (nh (v4 X.K) ta tb):=CH Ci ha hb hs
end
end A
namespace oD
open PySem L2 PyProof.Rows A
open Mr
def top(i:Nat):bD:=PySem.Challenge.pw_arrowfind_k10_all_roads.main.body.getD i (.Pass ⟨0,0,0,0⟩)
structure Txt(mg:Str->Option ag):Prop where
 eG:mg "len" = ae
 ja:mg "range" = ae
 pN:mg "max" = ae
 uG:mg "min" = ae
 m7:mg "tuple" = ae
 nG:mg "list" = ae
 jO:mg "isinstance" = ae
 LY:mg "all" = ae
 LZ:mg "any" = ae
 EU:mg "bool" = ae
 ul:mg "str" = ae
 EV:mg "int" = ae
 Lw:mg "zip" = ae
 Lx:mg "enumerate" = ae
 Ly:mg "sorted" = ae
 L0:mg "reversed" = ae
 L1:mg "set" = ae
section
variable{P:bb}{w:aT}{K:aB}{mg:Str->Option ag}{base:aI}[Tb:a8]
abbrev wI:bD:=top 6
theorem HF:dv ["names","asked","name"] ["names","asked"] (bM wI):=eR
theorem Gc{f:ah}{fd:bS}(F:cL K "refuse_strangers" "refuse_strangers" wI f fd)(T:Txt mg):bt P w K mg base aL 1 f fd ["names","asked"] (ck kU):=
 jP (Mo []) F HF (λcdv A outer s H E hr nd hu bT=>by
  exact⟨_,(ba (ge gu rfl (gV (pv 1)) (pG 2)
 (ba (dO (eI (vn bT) (pv 2) (pv 0) rfl)
 (ba DF)
 eB)))),
  (gv (K:=K) (tg:=(.n 2)) (lK (cF 1)) (by decide)
 (dW (eO (AE.p (au uY (aq 2) (aq 0))))
 CS
 eQ))⟩)
abbrev vh:bD:=top 7
theorem IM:dv ["asked","stood","name"] ["asked"] (bM vh):=eR
theorem GY{f:ah}{fd:bS}(F:cL K "refuse_repeats" "refuse_repeats" vh f fd)(T:Txt mg):bt P w K mg base aL 1 f fd ["asked"] (ck p6):=
 jP (Mo [1]) F IM (λcdv A outer s H E hr nd hu bT=>by
  exact⟨_,(aY (pS 1 Ct)
 (ba (ge gu rfl (gV (pv 0)) (pG 2)
 (aY (dO (Jt (Gb hu (pv 2) (pv 1)) rfl)
 (ba DF)
 eB)
 (ba (za hu (pv 1) (pv 2) js rfl)))))),
  (a9 (B7 1 rfl yM)
 (gv (K:=K) (tg:=(.n 2)) (lK (cF 0)) (by decide)
 (a9 (dW (hJ (AE.p (JI 1 (cF 2))))
 CS
 eQ)
 (zL 1 rfl (cF 2) jo))))⟩)
abbrev vA:bD:=top 8
theorem IR:dv ["names","asked"] ["names","asked"] (bM vA):=eR
theorem J8{f:ah}{fd:bS}(F:cL K "refuse_wrong_asks" "refuse_wrong_asks" vA f fd)(T:Txt mg)(oE:cx P w K mg base aL 1 "refuse_strangers" ["names","asked"] (ck kU))(xT:cx P w K mg base aL 1 "refuse_repeats" ["asked"] (ck p6)):bt P w K mg base aL 2 f fd ["names","asked"] (ck pY):=
 jP (Mo []) F IR (λcdv A outer s H E hr nd hu bT=>by
  exact⟨_,(aY (gB (pC oE hr (ax (pv 0) (a7 1))))
 (ba (gB (pC xT hr (a7 1))))),
  (a9 (rN (AE.p (eA (aM (bj 0) (aM (bj 1) cv)))))
 (rN (AE.p (eA (aM (bj 1) cv)))))⟩)
abbrev wm:bD:=top 5
theorem KZ:dv ["net","one","other"] ["net","one","other"] (bM wm):=eR
theorem K9{f:ah}{fd:bS}(F:cL K "are_tied" "are_tied" wm f fd)(T:Txt mg)(oE:cx P w K mg base aL 1 "refuse_strangers" ["names","asked"] (ck kU)):bt P w K mg base aL 2 f fd ["net","one","other"] (ck lO):=
 jP (Mo []) F KZ (λcdv A outer s H E hr nd hu bT=>by
  exact⟨_,(aY (gB (pC oE hr (ax (pX (pv 0) aC) (ax (eU (ax (pv 1) (a7 2))) bc))))
 (ba (c6 (y4 (qq (sP bT) (k4 (ax (pv 1) (a7 2))) (pX (pv 0) aC) rfl) (wM (qq (sP bT) (k4 (ax (pv 2) (a7 1))) (pX (pv 0) aC) rfl)))))),
  (a9 (rN (AE.p (eA (aM (AE.w (au cK (aq 0) (AE.p aD))) (aM (AW.nv (AE.w (eS (bi (cF 1) (bi (cF 2) bF))))) cv)))))
 (fJ (AE.w (BB (AE.p (au rC (AE.p (nT (bi (cF 1) (bi (cF 2) bF)))) (AE.p (au cK (aq 0) (AE.p aD))))) (au rC (AE.p (nT (bi (cF 2) (bi (cF 1) bF)))) (AE.p (au cK (aq 0) (AE.p aD))))))))⟩)
abbrev uN:bD:=top 11
theorem Ka:dv ["net","neighbours","name"] ["net"] (bM uN):=eR
theorem Hz{f:ah}{fd:bS}(F:cL K "neighbours_in" "neighbours_in" uN f fd)(T:Txt mg)(xU:cx P w K mg base aL 2 "are_tied" ["net","one","other"] (ck lO)):bt P w K mg base aL 3 f fd ["net"] (de ly):=
 okN (Mo [1]) F Ka (λcdv A outer s H E hr nd hu bT=>by
  exact⟨_,(aY (pS 1 Ct)
 (aY (ge gu rfl (gV (pX (pv 0) aC)) (gP (i:=2) nd rfl (i8 rfl))
 (ba (za hu (pv 1) (pv 2) (jf (N':=["net","name","near"]) (ρ:=[ab 0,ab 2,ae]) rfl (fM.of rfl (by kernel_rfl)) (gV (pX (pv 0) aC)) (λ_ _ _ _ _=>(gP (i:=2) (by show(["net","name","near"]:List Str).Nodup;decide +kernel) rfl (fk rfl))) (iG rfl) (λ_ _ _ _ _=>(H9 (jr (pC xU hr (ax (pv 0) (ax (pv 1) (a7 2))))))) (λ_ _ _ _ _=>(pv 2))) rfl)))
 (ba (c6 (pv 1))))),
  (a9 (B7 1 rfl yM)
 (a9 (gv (K:=K) (tg:=(.n 2)) (lK (au cK (aq 0) (AE.p aD))) (by decide)
 (zL 1 rfl (cF 2) (AE.nv (iF (K:=K) (tg:=(.n 2)) (oU (AE.p (au cK (aq 0) (AE.p aD)))) (by decide) (hJ (AE.p (eA (aM (bj 0) (aM (bj 1) (aM (bj 2) cv)))))) (cF 2)))))
 (pO 1 rfl)))⟩)
abbrev wE:bD:=top 12
theorem zv:dv ["neighbours","begun","other","roads","name"] ["neighbours","begun","other"] (bM wE):=eR
theorem Dh{f:ah}{fd:bS}(F:cL K "roads_begun" "roads_begun" wE f fd)(T:Txt mg)  (self:∀n,bt P w K mg base aL (n+1) f fd ["neighbours","begun","other"] (de (iE n))->cx P w K mg base aL (n+1) "roads_begun" ["neighbours","begun","other"] (de (iE n))):∀n,bt P w K mg base aL (n+1) f fd ["neighbours","begun","other"] (de (iE n))
 |0=>zC
 |n+1=>F.ok zv (λvs H Q E h=>AU h) (λcdv A outer s H vs Q E hr h=>by
  have mM:∀m:Nat,m=n->cx P w K mg base aL (m+1) "roads_begun" ["neighbours","begun","other"] (de (iE m)):=λm e=>by subst e;exact self m (Dh F T  self m)
  have mM:=λm:Nat=>(mM n rfl:cx P w K mg base aL (n+1) "roads_begun" ["neighbours","begun","other"] (de (iE n)));have nd:=zv.nd;have hu:=rW hr;have bT:=hr.units;have xV:=hr.mono (show(n+1)<=_ by omega);exact⟨_,(aY (dO (eI (nL bT) (pX (pv 1) (sH sI aC)) (pv 2) (fm _))
 (ba (c6 (eU (a7 1))))
 eB)
 (aY (pS 3 (eU bc))
 (aY (ge gu rfl (gV (JQ hu (pv 0) (pX (pv 1) (sH sI aC)) (λ_ _=>rfl))) (pG 4)
 (ba (dO (eI (vn bT) (pv 4) (pv 1) rfl)
 (ba (gB (hW gJ PySem.F.slot_list_extend PySem.F.type_list_extend F5 (pv 3) (ax (lJ (mM n) xV rfl lI (ax (pv 0) (ax (aH c7 (pv 1) (eU (a7 4))) (a7 2)))) bc))))
 eB)))
 (ba (c6 (pv 3)))))),
  _root_.A.runN (N:=["neighbours","begun","other","roads","name"]) (M:=Mo [3]) (a9 (dW (eO (AE.p (au nX (AE.p (au cK (aq 1) (AE.p (sX qX (AE.p aD))))) (aq 2))))
 (lu (AE.w (eS (bi (cF 1) bF))))
 eQ)
 (a9 (jW 3 rfl (eS bF))
 (a9 (gv (K:=K) (tg:=(.n 4)) (lK (G9 0 (au cK (aq 1) (AE.p (sX qX (AE.p aD)))))) (by decide)
 (dW (eO (AE.p (au uY (aq 4) (aq 1))))
 (IS 3 rfl (AE.nv (io (aM (Gh 0 rfl) (aM (AE.w (au dg (aq 1) (AE.np (eS (bi (cF 4) bF))))) (aM (bj 2) cv))))))
 eQ))
 (pO 3 rfl)))) (by decide) h⟩)
abbrev wa:bD:=top 10
theorem HG:dv ["net","one","other"] ["net","one","other"] (bM wa):=eR
theorem FQ{f:ah}{fd:bS}(F:cL K "all_roads" "all_roads" wa f fd)(T:Txt mg)(xW:cx P w K mg base aL 2 "refuse_wrong_asks" ["names","asked"] (ck pY))(xX:cx P w K mg base aL 3 "neighbours_in" ["net"] (de ly))(mM:∀n,cx P w K mg base aL (n+1) "roads_begun" ["neighbours","begun","other"] (de (iE n))):bt P w K mg base aL 10 f fd ["net","one","other"] (de i0):=
 okN (Mo []) F HG (λcdv A outer s H E hr nd hu bT=>by
  have xV:=hr.mono (show(8+1)<=_ by decide);exact⟨_,(aY (gB (pC xW hr (ax (pX (pv 0) aC) (ax (eU (ax (pv 1) (a7 2))) bc))))
 (ba (c6 (lJ (mM 8) xV rfl lI (ax (pC xX hr (a7 0)) (ax (eU (a7 1)) (a7 2))))))),
  (a9 (rN (AE.p (eA (aM (AE.w (au cK (aq 0) (AE.p aD))) (aM (AW.nv (AE.w (eS (bi (cF 1) (bi (cF 2) bF))))) cv)))))
 (lu (AE.w (io (aM (AW.nv (Df (aM (bj 0) cv))) (aM (AW.nv (AE.w (eS (bi (cF 1) bF)))) (aM (bj 2) cv)))))))⟩)
abbrev wx:bD:=top 18
theorem Ac:dv ["_law_found","_law_due_here","_law_one","_law_other"] ["_law_found","_law_due_here"] (bM wx):=eR
theorem yZ{f:ah}{fd:bS}(F:cL K "_law_alike" "_law_alike" wx f fd)(T:Txt mg)  (self:∀n,bt P w K mg base aL (n+1) f fd ["_law_found","_law_due_here"] (ck (cR n))->cx P w K mg base aL (n+1) "_law_alike" ["_law_found","_law_due_here"] (ck (cR n))):∀n,bt P w K mg base aL (n+1) f fd ["_law_found","_law_due_here"] (ck (cR n))
 |0=>zC
 |n+1=>F.ok Ac (λvs H Q E h=>yL h) (λcdv A outer s H vs Q E hr h=>by
  have kw:∀m:Nat,m=n->cx P w K mg base aL (m+1) "_law_alike" ["_law_found","_law_due_here"] (ck (cR m)):=λm e=>by subst e;exact self m (yZ F T  self m)
  have kw:=λm:Nat=>(kw n rfl:cx P w K mg base aL (n+1) "_law_alike" ["_law_found","_law_due_here"] (ck (cR n)));have nd:=Ac.nd;have hu:=rW hr;have bT:=hr.units;have qQ:=hr.mono (show(n+1)<=_ by omega);exact⟨_,(aY (dO (PW.pt (pw_or (jr (dF kQ rfl T.jO jK (ax (pv 1) (ax (iw rfl T.ul boot_str) bc)))) (pw_or1 (jr (dF kQ rfl T.jO jK (ax (pv 1) (ax (iw rfl T.EV boot_int) bc)))))))
 (aY (dO (PW.pt (pw_or (eI (oK bT) (dF kQ rfl T.jO jK (ax (pv 0) (ax (iw rfl T.EU boot_bool) bc))) (dF kQ rfl T.jO jK (ax (pv 1) (ax (iw rfl T.EU boot_bool) bc))) (fm _)) (pw_or1 (eI (oK bT) (dF kQ rfl T.jO jK (ax (pv 0) (ax (iw rfl T.ul boot_str) bc))) (dF kQ rfl T.jO jK (ax (pv 1) (ax (iw rfl T.ul boot_str) bc))) (fm _)))))
 (ba (c6 js))
 eB)
 (ba (c6 (HE (dF Zp.A9 rfl T.jO jK (ax (pv 0) (ax (k4 (ax (iw rfl T.EV boot_int) (ax (iw rfl T.ul boot_str) bc))) bc))) (wM (qq (nL bT) (pv 0) (pv 1) (fm _)))))))
 eB)
 (aY (dO (PW.pt (pw_or (eI (oK bT) (dF kQ rfl T.jO jK (ax (pv 0) (ax (iw rfl T.nG boot_list) bc))) (dF kQ rfl T.jO jK (ax (pv 1) (ax (iw rfl T.nG boot_list) bc))) (fm _)) (pw_or1 (qi (jr (dF Zp.A9 rfl T.jO jK (ax (pv 0) (ax (k4 (ax (iw rfl T.nG boot_list) (ax (iw rfl T.m7 boot_tuple) bc))) bc))))))))
 (ba (c6 js))
 eB)
 (aY (dO (eI (oK bT) (dF kf rfl T.eG kn (a7 0)) (dF kf rfl T.eG kn (a7 1)) (fm _))
 (ba (c6 js))
 eB)
 (aY (ge gu rfl (Zp.Hg rfl T.Lw (pv 0) (pv 1)) (Cq rfl (lX (pG 2) (lX (pG 3) vC)))
 (ba (dO (qi (jr (lJ (kw n) qQ rfl lI (ax (pv 2) (a7 3)))))
 (ba (c6 js))
 eB)))
 (ba (c6 js)))))),
  _root_.A.Co (N:=["_law_found","_law_due_here","_law_one","_law_other"]) (M:=Mo []) (a9 (dW (u3 (hJ (AE.p (kP (ty_str K) (aq 1)))) (hJ (AE.p (kP (ty_int K) (aq 1)))))
 (a9 (dW (u3 (eO (AE.p (au oR (AE.p (kP (ty_bool K) (aq 0))) (AE.p (kP (ty_bool K) (aq 1)))))) (eO (AE.p (au oR (AE.p (kP (ty_str K) (aq 0))) (AE.p (kP (ty_str K) (aq 1)))))))
 (fJ (AE.w jo))
 eQ)
 (fJ (AE.w (IJ (AE.p (Zp.Dx (Zp.zM (ty_int K) (ty_str K)) (by decide) (aq 0))) (au nX (aq 0) (aq 1))))))
 eQ)
 (a9 (dW (u3 (eO (AE.p (au oR (AE.p (kP (ty_list K) (aq 0))) (AE.p (kP (ty_list K) (aq 1)))))) (pL (hJ (AE.p (Zp.Dx (Zp.zM (ty_list K) (ty_tuple K)) (by decide) (aq 0))))))
 (fJ (AE.w jo))
 eQ)
 (a9 (dW (eO (AE.p (au oR (AE.p (fP eG (bi (aq 0) bF))) (AE.p (fP eG (bi (aq 1) bF))))))
 (fJ (AE.w jo))
 eQ)
 (a9 (gv (K:=K) (tg:=(.t [2,3])) (Zp.FI (cF 0) (cF 1)) (by decide)
 (dW (pL (hJ (AE.p (eA (aM (bj 2) (aM (bj 3) cv))))))
 (fJ (AE.w jo))
 eQ))
 (fJ (AE.w jo)))))) (by decide) h⟩)
abbrev vX:bD:=top 14
theorem IG:dv ["_law_script","_law_k","_law_spare"] ["_law_script","_law_k"] (bM vX):=eR
theorem IP{f:ah}{fd:bS}(F:cL K "_law_cell" "_law_cell" vX f fd)(T:Txt mg):bt P w K mg base aL 1 f fd ["_law_script","_law_k"] (ck d9):=
 jP (Mo []) F IG (λcdv A outer s H E hr nd hu bT=>by
  exact⟨_,(aY (dO (eI qf (pv 1) (dF kf rfl T.eG kn (a7 0)) (fm _))
 (ba (c6 (pX (pv 0) (pv 1))))
 eB)
 (aY (pS 2 (aH c7 aC (aH e9 (aH e9 aC (pv 1)) (pv 1))))
 (aY (dO (eI GL (dF kf rfl T.eG kn (a7 0)) aC (fm _))
 (ba (pS 2 (aH c7 (pv 2) (aH e9 (aH c5 (pX (pv 0) aC) aC) (aH c7 (aH c7 (aH e9 (pv 1) (pv 1)) (aH e9 aC (pv 1))) aC)))))
 eB)
 (ba (c6 (pv 2)))))),
  (a9 (dW (eO (AE.p (au pR (aq 1) (AE.p (fP eG (bi (aq 0) bF))))))
 (fJ (AE.w (au cK (aq 0) (aq 1))))
 eQ)
 (a9 (dU 2 rfl (au dg (AE.p aD) (AE.p (au fe (AE.p (au fe (AE.p aD) (aq 1))) (aq 1)))))
 (a9 (dW (eO (AE.p (au J1 (AE.p (fP eG (bi (aq 0) bF))) (AE.p aD))))
 (dU 2 rfl (au dg (aq 2) (AE.p (au fe (AE.p (au cX (AE.p (au cK (aq 0) (AE.p aD))) (AE.p aD))) (AE.p (au dg (AE.p (au dg (AE.p (au fe (aq 1) (aq 1))) (AE.p (au fe (AE.p aD) (aq 1))))) (AE.p aD)))))))
 eQ)
 (fJ (bj 2)))))⟩)
abbrev vT:bD:=top 15
theorem Ju:dv ["_law_cell_here","_law_many","_law_letters","_law_long","_law_size","_law_stem","_law_at"] ["_law_cell_here","_law_many"] (bM vT):=eR
theorem G3{f:ah}{fd:bS}(F:cL K "_law_words" "_law_words" vT f fd)(T:Txt mg):bt P w K mg base aL 1 f fd ["_law_cell_here","_law_many"] (de ql):=
 okN (Mo []) F Ju (λcdv A outer s H E hr nd hu bT=>by
  exact⟨_,(aY (pU (i:=2) nd rfl (i8 rfl) uE)
 (aY (dO (eI qf (aH c5 (pv 0) aC) aC (fm _))
 (aY (pU (i:=3) nd rfl (i8 rfl) (hW Ep Er Es AG uE (ax (jf (N':=["_law_letters","_law_cell_here","_law_k"]) (ρ:=[ab 2,ab 0,ae]) rfl (fM.of rfl (by kernel_rfl)) (iU rfl T.ja (ax aC bc)) (λ_ _ _ _ _=>(gP (i:=2) (by show(["_law_letters","_law_cell_here","_law_k"]:List Str).Nodup;decide +kernel) rfl (fk rfl))) (iG rfl) (λ_ _ _ _ _=>jq) (λ_ _ _ _ _=>(pX (pv 0) (aH c5 (aH gT (pv 1) (aH c7 aC (aH e9 aC (pv 2)))) aC)))) bc)))
 (aY (dO (eI (nL bT) (aH c5 (pv 0) aC) aC (fm _))
 (ba (c6 (jf (N':=["_law_long","_law_k"]) (ρ:=[ab 3,ae]) rfl (fM.of rfl (by kernel_rfl)) (iU rfl T.ja (a7 1)) (λ_ _ _ _ _=>(gP (i:=1) kC rfl (fk rfl))) (iG rfl) (λ_ _ _ _ _=>jq) (λ_ _ _ _ _=>(nR nN (pv 0) qm (mm (aH c7 (pv 1) aC)))))))
 eB)
 (ba (c6 (jf (N':=["_law_long","_law_k"]) (ρ:=[ab 3,ae]) rfl (fM.of rfl (by kernel_rfl)) (iU rfl T.ja (a7 1)) (λ_ _ _ _ _=>(gP (i:=1) kC rfl (fk rfl))) (iG rfl) (λ_ _ _ _ _=>jq) (λ_ _ _ _ _=>(nR nN (pv 0) (mm (aH rm aC (pv 1))) qm)))))))
 eB)
 (aY (pS 4 (aH c5 (aH gT (pv 0) aC) aC))
 (aY (pU (i:=5) nd rfl (i8 rfl) (hW Ep Er Es AG uE (ax (jf (N':=["_law_letters","_law_cell_here","_law_k"]) (ρ:=[ab 2,ab 0,ae]) rfl (fM.of rfl (by kernel_rfl)) (iU rfl T.ja (a7 4)) (λ_ _ _ _ _=>(gP (i:=2) (by show(["_law_letters","_law_cell_here","_law_k"]:List Str).Nodup;decide +kernel) rfl (fk rfl))) (iG rfl) (λ_ _ _ _ _=>jq) (λ_ _ _ _ _=>(pX (pv 0) (aH c5 (aH c7 (aH c7 (aH gT (pv 1) aC) (aH e9 aC (pv 2))) (aH e9 (pv 2) (pv 2))) aC)))) bc)))
 (aY (pU (i:=6) nd rfl (i8 rfl) (aH c5 (aH gT (pv 0) aC) (aH c7 (pv 4) aC)))
 (ba (c6 (jf (N':=["_law_stem","_law_letters","_law_at","_law_cell_here","_law_k"]) (ρ:=[ab 5,ab 2,ab 6,ab 0,ae]) rfl (fM.of rfl (by kernel_rfl)) (iU rfl T.ja (a7 1)) (λ_ _ _ _ _=>(gP (i:=4) (by show(["_law_stem","_law_letters","_law_at","_law_cell_here","_law_k"]:List Str).Nodup;decide +kernel) rfl (fk rfl))) (iG rfl) (λ_ _ _ _ _=>jq) (λ_ _ _ _ _=>(aH c7 (aH c7 (nR nN (pv 0) qm (mm (pv 2))) (pX (pv 1) (aH c5 (aH c7 (aH gT (pv 3) aC) (aH e9 aC (pv 4))) aC))) (nR nN (pv 0) (mm (pv 2)) qm))))))))))),
  (a9 (dU 2 rfl vV)
 (a9 (dW (eO (AE.p (au pR (AE.p (au cX (aq 0) (AE.p aD))) (AE.p aD))))
 (a9 (dU 3 rfl (DD (AE.p vV) (AE.np (iF (K:=K) (tg:=(.n 2)) (gN.c (iQ (AE.p aD))) (by decide) jv (au cK (aq 0) (AE.p (au cX (AE.p (au gL (aq 1) (AE.p (au dg (AE.p aD) (AE.p (au fe (AE.p aD) (aq 2))))))) (AE.p aD))))))))
 (a9 (dW (eO (AE.p (au nX (AE.p (au cX (aq 0) (AE.p aD))) (AE.p aD))))
 (lu (AE.w (iF (K:=K) (tg:=(.n 1)) (gN.c (iQ (aq 1))) (by decide) jv (ng mR (aq 0) pH (ml (AE.p (au dg (aq 1) (AE.p aD))))))))
 eQ)
 (lu (AE.w (iF (K:=K) (tg:=(.n 1)) (gN.c (iQ (aq 1))) (by decide) jv (ng mR (aq 0) (ml (AE.p (au rh (AE.p aD) (aq 1)))) pH))))))
 eQ)
 (a9 (dU 4 rfl (au cX (AE.p (au gL (aq 0) (AE.p aD))) (AE.p aD)))
 (a9 (dU 5 rfl (DD (AE.p vV) (AE.np (iF (K:=K) (tg:=(.n 2)) (gN.c (iQ (aq 4))) (by decide) jv (au cK (aq 0) (AE.p (au cX (AE.p (au dg (AE.p (au dg (AE.p (au gL (aq 1) (AE.p aD))) (AE.p (au fe (AE.p aD) (aq 2))))) (AE.p (au fe (aq 2) (aq 2))))) (AE.p aD))))))))
 (a9 (dU 6 rfl (au cX (AE.p (au gL (aq 0) (AE.p aD))) (AE.p (au dg (aq 4) (AE.p aD)))))
 (lu (AE.w (iF (K:=K) (tg:=(.n 4)) (gN.c (iQ (aq 1))) (by decide) jv (au dg (AE.p (au dg (AE.p (ng mR (aq 0) pH (ml (aq 2)))) (AE.p (au cK (aq 1) (AE.p (au cX (AE.p (au dg (AE.p (au gL (aq 3) (AE.p aD))) (AE.p (au fe (AE.p aD) (aq 4))))) (AE.p aD))))))) (AE.p (ng mR (aq 0) (ml (aq 2)) pH)))))))))))⟩)
abbrev v3:bD:=top 16
theorem FD:dv ["_law_cell_here","_law_many","_law_left","_law_ranks_here","_law_draw","_law_k"] ["_law_cell_here","_law_many"] (bM v3):=eR
theorem GO{f:ah}{fd:bS}(F:cL K "_law_ranks" "_law_ranks" v3 f fd)(T:Txt mg):bt P w K mg base aL 1 f fd ["_law_cell_here","_law_many"] (de pj):=
 okN (Mo [2,3]) F FD (λcdv A outer s H E hr nd hu bT=>by
  exact⟨_,(aY (KH (i:=2) (N':=["_law_k"]) (ρ:=[ae]) rfl nd rfl (fk rfl) (fM.of rfl (by kernel_rfl)) (iU rfl T.ja (a7 1)) (λ_ _ _ _ _=>(gP (i:=0) oS rfl (fk rfl))) (iG rfl) (λ_ _ _ _ _=>jq) (λ_ _ _ _ _=>(pv 0)))
 (aY (pS 3 (eU bc))
 (aY (pS 4 (aH c5 (pv 0) aC))
 (aY (ge gu rfl (iU rfl T.ja (a7 1)) (pG 5)
 (aY (pS 4 (aH c5 (aH c7 (aH c7 (aH e9 (pv 4) aC) (aH e9 aC (pv 5))) aC) aC))
 (ba (gB (hW gJ ox oy m8 (pv 3) (ax (hW gJ xI xJ wf (pv 2) (ax (aH c5 (aH gT (pv 4) aC) (dF kf rfl T.eG kn (a7 2))) bc)) bc))))))
 (ba (c6 (pv 3))))))),
  (a9 (jW 2 rfl (iF (K:=K) (tg:=(.n 0)) (gN.c (iQ (aq 1))) (by decide) jv (cF 0)))
 (a9 (jW 3 rfl (eS bF))
 (a9 (dU 4 rfl (au cX (aq 0) (AE.p aD)))
 (a9 (gv (K:=K) (tg:=(.n 5)) (iQ (aq 1)) (by decide)
 (a9 (dU 4 rfl (au cX (AE.p (au dg (AE.p (au dg (AE.p (au fe (aq 4) (AE.p aD))) (AE.p (au fe (AE.p aD) (aq 5))))) (AE.p aD))) (AE.p aD)))
 (Ji 3 2 (by decide) rfl rfl (AE.p (au cX (AE.p (au gL (aq 4) (AE.p aD))) (AE.p (fP eG (bi (aq 2) bF))))))))
 (pO 3 rfl)))))⟩)
abbrev wA:bD:=top 17
theorem Gg:dv ["_law_script","_law_most","_law_many","_law_names","_law_ranks_here","_law_thick","_law_arrows","_law_j","_law_k","_law_cell_here"] ["_law_script","_law_most"] (bM wA):=eR
theorem Ir{f:ah}{fd:bS}(F:cL K "_law_net" "_law_net" wA f fd)(T:Txt mg)(g7:cx P w K mg base aL 1 "_law_cell" ["_law_script","_law_k"] (ck d9))(xY:cx P w K mg base aL 1 "_law_words" ["_law_cell_here","_law_many"] (de ql))(xZ:cx P w K mg base aL 1 "_law_ranks" ["_law_cell_here","_law_many"] (de pj)):bt P w K mg base aL 2 f fd ["_law_script","_law_most"] (ck qo):=
 jP (Mo [6]) F Gg (λcdv A outer s H E hr nd hu bT=>by
  exact⟨_,(aY (pS 2 (aH c7 aC (aH c5 (pC g7 hr (ax (pv 0) (ax aC bc))) (pv 1))))
 (aY (pS 3 (pC xY hr (ax (pC g7 hr (ax (pv 0) (ax aC bc))) (a7 2))))
 (aY (pS 4 (pC xZ hr (ax (pC g7 hr (ax (pv 0) (ax aC bc))) (a7 2))))
 (aY (pS 5 (CH Ci (eU (ax aC (ax aC (ax aC (ax aC (ax aC (ax aC bc))))))) (aH c5 (pC g7 hr (ax (pv 0) (ax aC bc))) aC) (λ_ _=>rfl)))
 (aY (pS 6 (eU bc))
 (aY (ge gu rfl (iU rfl T.ja (a7 2)) (pG 7)
 (ba (ge gu rfl (iU rfl T.ja (a7 2)) (pG 8)
 (aY (pS 9 (pC g7 hr (ax (pv 0) (ax (aH c7 (aH c7 aC (aH gT (aH e9 (dF (Bu rfl) rfl T.pN boot_max (ax (pv 7) (a7 8))) (aH rm (dF (Bu rfl) rfl T.pN boot_max (ax (pv 7) (a7 8))) aC)) aC)) (dF (F1 rfl) rfl T.uG boot_min (ax (pv 7) (a7 8)))) bc))))
 (ba (dO (PW.pt (pw_and (eI qf (pX (pv 4) (pv 7)) (pX (pv 4) (pv 8)) (fm _)) (pw_and1 (eI qf (aH c5 (aH gT (aH c5 (aH e9 (pv 9) aC) aC) aC) aC) (pv 5) (fm _)))))
 (ba (gB (hW gJ ox oy m8 (pv 6) (ax (k4 (ax (pX (pv 3) (pv 7)) (ax (pX (pv 3) (pv 8)) bc))) bc))))
 eB))))))
 (ba (c6 (k4 (ax (vY zE rfl T.m7 boot_tuple (a7 3)) (ax (vY zE rfl T.m7 boot_tuple (a7 6)) bc))))))))))),
  (a9 (dU 2 rfl (au dg (AE.p aD) (AE.p (au cX (AE.p (eA (aM (bj 0) (aM (AE.w aD) cv)))) (aq 1)))))
 (a9 (dU 3 rfl (AE.nv (io (aM (AE.w (eA (aM (bj 0) (aM (AE.w aD) cv)))) (aM (bj 2) cv)))))
 (a9 (dU 4 rfl (AE.nv (io (aM (AE.w (eA (aM (bj 0) (aM (AE.w aD) cv)))) (aM (bj 2) cv)))))
 (a9 (dU 5 rfl (au cK (AE.np (eS (bi aD (bi aD (bi aD (bi aD (bi aD (bi aD bF)))))))) (AE.p (au cX (AE.p (eA (aM (bj 0) (aM (AE.w aD) cv)))) (AE.p aD)))))
 (a9 (jW 6 rfl (eS bF))
 (a9 (gv (K:=K) (tg:=(.n 7)) (iQ (aq 2)) (by decide)
 (gv (K:=K) (tg:=(.n 8)) (iQ (aq 2)) (by decide)
 (a9 (dU 9 rfl (eA (aM (bj 0) (aM (AE.w (au dg (AE.p (au dg (AE.p aD) (AE.p (au gL (AE.p (au fe (AE.p (fP pN (bi (aq 7) (bi (aq 8) bF)))) (AE.p (au rh (AE.p (fP pN (bi (aq 7) (bi (aq 8) bF)))) (AE.p aD))))) (AE.p aD))))) (AE.p (fP uG (bi (aq 7) (bi (aq 8) bF)))))) cv))))
 (dW (sJ (eO (AE.p (au pR (AE.p (au cK (aq 4) (aq 7))) (AE.p (au cK (aq 4) (aq 8)))))) (eO (AE.p (au pR (AE.p (au cX (AE.p (au gL (AE.p (au cX (AE.p (au fe (aq 9) (AE.p aD))) (AE.p aD))) (AE.p aD))) (AE.p aD))) (aq 5)))))
 (pT 6 rfl (nT (bi (au cK (aq 3) (aq 7)) (bi (au cK (aq 3) (aq 8)) bF))))
 eQ))))
 (fJ (AE.w (nT (bi (fP m7 (bi (aq 3) bF)) (bi (fP m7 (bi (aq 6) bF)) bF)))))))))))⟩)
abbrev vF:bD:=top 19
theorem Ko:dv ["_law_script","_law_most","_law_cell_here","_law_more","_law_first"] ["_law_script","_law_most"] (bM vF):=eR
theorem IQ{f:ah}{fd:bS}(F:cL K "_law_two" "_law_two" vF f fd)(T:Txt mg)(g7:cx P w K mg base aL 1 "_law_cell" ["_law_script","_law_k"] (ck d9))(x2:cx P w K mg base aL 2 "_law_net" ["_law_script","_law_most"] (ck qo)):bt P w K mg base aL 3 f fd ["_law_script","_law_most"] (ck qt):=
 jP (Mo []) F Ko (λcdv A outer s H E hr nd hu bT=>by
  exact⟨_,(aY (pS 2 (pC g7 hr (ax (pv 0) (ax aC bc))))
 (aY (pS 3 (aH c5 (aH gT (pv 2) (aH rm (pv 1) aC)) (aH HH aC aC)))
 (aY (pS 4 (aH c7 (aH c7 aC (aH c5 (pv 2) (aH rm (pv 1) aC))) (aH e9 (pv 1) (pv 3))))
 (ba (c6 (pC x2 hr (ax (aH c7 (eU (a7 4)) (nR nN (pv 0) (mm aC) qm)) (a7 1)))))))),
  (a9 (dU 2 rfl (eA (aM (bj 0) (aM (AE.w aD) cv))))
 (a9 (dU 3 rfl (au cX (AE.p (au gL (aq 2) (AE.p (au rh (aq 1) (AE.p aD))))) (AE.p (au KJ (AE.p aD) (AE.p aD)))))
 (a9 (dU 4 rfl (au dg (AE.p (au dg (AE.p aD) (AE.p (au cX (aq 2) (AE.p (au rh (aq 1) (AE.p aD))))))) (AE.p (au fe (aq 1) (aq 3)))))
 (fJ (AE.w (eA (aM (AE.w (au dg (AE.np (eS (bi (cF 4) bF))) (AE.p (ng mR (aq 0) (ml (AE.p aD)) pH)))) (aM (bj 1) cv))))))))⟩)
abbrev uU:bD:=top 20
theorem Ld:dv ["_law_script","_law_many","_law_found","_law_k","_law_cell_here"] ["_law_script","_law_many"] (bM uU):=eR
theorem Hw{f:ah}{fd:bS}(F:cL K "_law_questions" "_law_questions" uU f fd)(T:Txt mg)(g7:cx P w K mg base aL 1 "_law_cell" ["_law_script","_law_k"] (ck d9)):bt P w K mg base aL 2 f fd ["_law_script","_law_many"] (de pV):=
 okN (Mo [2]) F Ld (λcdv A outer s H E hr nd hu bT=>by
  exact⟨_,(aY (pS 2 (eU (ax (aH c5 (pC g7 hr (ax (pv 0) (ax aC bc))) aC) bc)))
 (aY (ge gu rfl (IF rfl T.Lx (nR nN (pv 0) (mm aC) (mm aC))) (Cq rfl (lX (pG 3) (lX (pG 4) vC)))
 (ba (dO (eI qf (aH c7 (pv 3) aC) (pv 1) (fm _))
 (ba (gB (hW gJ ox oy m8 (pv 2) (ax (aH c5 (pv 4) aC) bc))))
 (ba (Cg (aH c5 (aH c7 (aH e9 (pX (pv 2) (aH c5 (pv 3) (pv 1))) aC) (pv 4)) aC) (Kk (pv 2) (aH c5 (pv 3) (pv 1)) set_list))))))
 (ba (c6 (pv 2))))),
  (a9 (jW 2 rfl (eS (bi (au cX (AE.p (eA (aM (bj 0) (aM (AE.w aD) cv)))) (AE.p aD)) bF)))
 (a9 (gv (K:=K) (tg:=(.t [3,4])) (Ii (ng mR (aq 0) (ml (AE.p aD)) (ml (AE.p aD)))) (by decide)
 (dW (eO (AE.p (au pR (AE.p (au dg (aq 3) (AE.p aD))) (aq 1))))
 (pT 2 rfl (au cX (aq 4) (AE.p aD)))
 (GJ 2 rfl (au cX (AE.p (au dg (AE.p (au fe (AE.p (au cK (aq 2) (AE.p (au cX (aq 3) (aq 1))))) (AE.p aD))) (aq 4))) (AE.p aD)) (AE.p (au cX (aq 3) (aq 1))))))
 (pO 2 rfl)))⟩)
abbrev vZ:bD:=top 21
theorem KS:dv ["_law_net_here","_law_draw","_law_names","_law_one","_law_other","_law_held","_law_k"] ["_law_net_here","_law_draw"] (bM vZ):=eR
theorem GV{f:ah}{fd:bS}(F:cL K "_law_asked" "_law_asked" vZ f fd)(T:Txt mg):bt P w K mg base aL 1 f fd ["_law_net_here","_law_draw"] (de lE):=
 okN (Mo [2,5]) F KS (λcdv A outer s H E hr nd hu bT=>by
  exact⟨_,(aY (pS 2 (vY FO rfl T.nG boot_list (ax (pX (pv 0) aC) bc)))
 (aY (pS 3 (hW gJ xI xJ wf (pv 2) (ax (aH c5 (pv 1) (dF kf rfl T.eG kn (a7 2))) bc)))
 (aY (pS 4 (hW gJ xI xJ wf (pv 2) (ax (aH c5 (aH gT (pv 1) aC) (dF kf rfl T.eG kn (a7 2))) bc)))
 (aY (pS 5 (eU bc))
 (aY (ge gu rfl (iU rfl T.ja (ax (dF kf rfl T.eG kn (a7 2)) bc)) (pG 6)
 (ba (dO (eI (nL bT) (aH c5 (aH gT (aH c5 (aH e9 (pv 1) (aH c7 aC (aH e9 (aH e9 aC (pv 6)) (pv 6)))) aC) aC) (aH c7 aC (aH c5 (aH gT (pv 1) aC) aC))) aC (fm _))
 (ba (gB (hW gJ ox oy m8 (pv 5) (ax (pX (pv 2) (pv 6)) bc))))
 eB)))
 (aY (dO (eI (nL bT) (aH c5 (aH gT (pv 1) aC) aC) aC (fm _))
 (ba (gB (ww gJ PySem.F.slot_list_reverse PySem.F.type_list_reverse Hq (pv 5))))
 eB)
 (ba (c6 (eU (ax (pv 3) (ax (pv 4) (a7 5)))))))))))),
  (a9 (jW 2 rfl (fP nG (bi (AE.p (au cK (aq 0) (AE.p aD))) bF)))
 (a9 (Ae 3 2 rfl rfl (AE.p (au cX (aq 1) (AE.p (fP eG (bi (aq 2) bF))))))
 (a9 (Ae 4 2 rfl rfl (AE.p (au cX (AE.p (au gL (aq 1) (AE.p aD))) (AE.p (fP eG (bi (aq 2) bF))))))
 (a9 (jW 5 rfl (eS bF))
 (a9 (gv (K:=K) (tg:=(.n 6)) (iQ (AE.p (fP eG (bi (aq 2) bF)))) (by decide)
 (dW (eO (AE.p (au nX (AE.p (au cX (AE.p (au gL (AE.p (au cX (AE.p (au fe (aq 1) (AE.p (au dg (AE.p aD) (AE.p (au fe (AE.p (au fe (AE.p aD) (aq 6))) (aq 6))))))) (AE.p aD))) (AE.p aD))) (AE.p (au dg (AE.p aD) (AE.p (au cX (AE.p (au gL (aq 1) (AE.p aD))) (AE.p aD))))))) (AE.p aD))))
 (pT 5 rfl (au cK (aq 2) (aq 6)))
 eQ))
 (a9 (dW (eO (AE.p (au nX (AE.p (au cX (AE.p (au gL (aq 1) (AE.p aD))) (AE.p aD))) (AE.p aD))))
 (Jw 5 rfl)
 eQ)
 (Gx 5 rfl (lu (AE.w (eS (bi (cF 3) (bi (cF 4) (bi (cF 5) bF)))))))))))))⟩)
abbrev uw:bD:=top 22
theorem FL:dv ["_law_net_here","_law_one","_law_other"] ["_law_net_here","_law_one","_law_other"] (bM uw):=eR
theorem JC{f:ah}{fd:bS}(F:cL K "_law_tied" "_law_tied" uw f fd)(T:Txt mg):bt P w K mg base aL 1 f fd ["_law_net_here","_law_one","_law_other"] (ck iP):=
 jP (Mo []) F FL (λcdv A outer s H E hr nd hu bT=>by
  exact⟨_,(ba (c6 (y4 (qq (sP bT) (k4 (ax (pv 1) (a7 2))) (pX (pv 0) aC) rfl) (wM (qq (sP bT) (k4 (ax (pv 2) (a7 1))) (pX (pv 0) aC) rfl))))),
  (fJ (AE.w (BB (AE.p (au rC (AE.p (nT (bi (cF 1) (bi (cF 2) bF)))) (AE.p (au cK (aq 0) (AE.p aD))))) (au rC (AE.p (nT (bi (cF 2) (bi (cF 1) bF)))) (AE.p (au cK (aq 0) (AE.p aD)))))))⟩)
abbrev wL:bD:=top 23
theorem G1:dv ["_law_net_here","_law_one","_law_other","_law_due_here","_law_grown","_law_turn","_law_longer","_law_road","_law_name"] ["_law_net_here","_law_one","_law_other"] (bM wL):=eR
theorem HQ{f:ah}{fd:bS}(F:cL K "_law_roads" "_law_roads" wL f fd)(T:Txt mg)(um:cx P w K mg base aL 1 "_law_tied" ["_law_net_here","_law_one","_law_other"] (ck iP)):bt P w K mg base aL 2 f fd ["_law_net_here","_law_one","_law_other"] (de m4):=
 okN (Mo [3,6]) F G1 (λcdv A outer s H E hr nd hu bT=>by
  exact⟨_,(aY (pS 3 (eU bc))
 (aY (pS 4 (eU (ax (eU (a7 1)) bc)))
 (aY (ge gu rfl (iU rfl T.ja (ax (dF kf rfl T.eG kn (ax (pX (pv 0) aC) bc)) bc)) (pG 5)
 (aY (pS 6 (eU bc))
 (aY (ge gu rfl (gV (pv 4)) (pG 7)
 (ba (ge gu rfl (gV (pX (pv 0) aC)) (pG 8)
 (ba (dO (PW.pt (pw_and (eI (nL bT) (pv 8) (pv 2) (fm _)) (pw_and1 (jr (pC um hr (ax (pv 0) (ax (pX (pv 7) (sH sI aC)) (a7 8))))))))
 (ba (gB (hW gJ ox oy m8 (pv 3) (ax (aH c7 (pv 7) (eU (a7 8))) bc))))
 (ba (dO (PW.pt (pw_and (eI (vn bT) (pv 8) (pv 7) rfl) (pw_and (eI (oK bT) (pv 8) (pv 2) (fm _)) (pw_and1 (jr (pC um hr (ax (pv 0) (ax (pX (pv 7) (sH sI aC)) (a7 8)))))))))
 (ba (gB (hW gJ ox oy m8 (pv 6) (ax (aH c7 (pv 7) (eU (a7 8))) bc))))
 eB)))))))
 (ba (pS 4 (pv 6))))))
 (ba (c6 (pv 3)))))),
  (a9 (jW 3 rfl (eS bF))
 (a9 (dU 4 rfl (AE.nv (eS (bi (AE.nv (eS (bi (cF 1) bF))) bF))))
 (a9 (gv (K:=K) (tg:=(.n 5)) (iQ (AE.p (fP eG (bi (AE.p (au cK (aq 0) (AE.p aD))) bF)))) (by decide)
 (a9 (jW 6 rfl (eS bF))
 (a9 (gv (K:=K) (tg:=(.n 7)) (lK (cF 4)) (by decide)
 (gv (K:=K) (tg:=(.n 8)) (lK (au cK (aq 0) (AE.p aD))) (by decide)
 (dW (sJ (eO (AE.p (au nX (aq 8) (aq 2)))) (hJ (AE.p (eA (aM (bj 0) (aM (AE.w (au cK (aq 7) (AE.p (sX qX (AE.p aD))))) (aM (bj 8) cv)))))))
 (pT 3 rfl (au dg (aq 7) (AE.np (eS (bi (cF 8) bF)))))
 (dW (sJ (eO (AE.p (au uY (aq 8) (aq 7)))) (sJ (eO (AE.p (au oR (aq 8) (aq 2)))) (hJ (AE.p (eA (aM (bj 0) (aM (AE.w (au cK (aq 7) (AE.p (sX qX (AE.p aD))))) (aM (bj 8) cv))))))))
 (pT 6 rfl (au dg (aq 7) (AE.np (eS (bi (cF 8) bF)))))
 eQ))))
 (Kq 4 6 rfl rfl))))
 (pO 3 rfl))))⟩)
abbrev vv:bD:=top 24
theorem Kc:dv ["_law_net_here","_law_one","_law_other","_law_rows"] ["_law_net_here","_law_one","_law_other"] (bM vv):=eR
theorem Ja{f:ah}{fd:bS}(F:cL K "_law_due" "_law_due" vv f fd)(T:Txt mg)(x5:cx P w K mg base aL 2 "_law_roads" ["_law_net_here","_law_one","_law_other"] (de m4)):bt P w K mg base aL 3 f fd ["_law_net_here","_law_one","_law_other"] (de k9):=
 okN (Mo []) F Kc (λcdv A outer s H E hr nd hu bT=>by
  exact⟨_,(aY (pS 3 (dF (Jh bT) rfl T.Ly boot_sorted (ax (jf (N':=["_law_net_here","_law_road"]) (ρ:=[ab 0,ae]) rfl (fM.of rfl (by kernel_rfl)) (gV (pC x5 hr (ax (pv 0) (ax (pv 1) (a7 2))))) (λ_ _ _ _ _=>(gP (i:=1) kC rfl (fk rfl))) (iG rfl) (λ_ _ _ _ _=>jq) (λ_ _ _ _ _=>(jf (N':=["_law_net_here","_law_name"]) (ρ:=[ab 0,ae]) rfl (fM.of rfl (by kernel_rfl)) (gV (pv 1)) (λ_ _ _ _ _=>(gP (i:=1) kC rfl (fk rfl))) (iG rfl) (λ_ _ _ _ _=>jq) (λ_ _ _ _ _=>(Ge PySem.F.plainAttrs_tuple El PySem.F.type_tuple_index KY gJ Em PySem.F.type_list_index Ga (pX (pv 0) aC) (a7 1)))))) bc)))
 (ba (c6 (jf (N':=["_law_net_here","_law_row"]) (ρ:=[ab 0,ae]) rfl (fM.of rfl (by kernel_rfl)) (gV (pv 3)) (λ_ _ _ _ _=>(gP (i:=1) kC rfl (fk rfl))) (iG rfl) (λ_ _ _ _ _=>jq) (λ_ _ _ _ _=>(jf (N':=["_law_net_here","_law_k"]) (ρ:=[ab 0,ae]) rfl (fM.of rfl (by kernel_rfl)) (gV (pv 1)) (λ_ _ _ _ _=>(gP (i:=1) kC rfl (fk rfl))) (iG rfl) (λ_ _ _ _ _=>jq) (λ_ _ _ _ _=>(pX (pX (pv 0) aC) (pv 1))))))))),
  (a9 (dU 3 rfl (AE.nv (fP JL (bi (AE.np (iF (K:=K) (tg:=(.n 1)) (oU (AE.np (io (aM (bj 0) (aM (bj 1) (aM (bj 2) cv)))))) (by decide) jv (AE.nv (iF (K:=K) (tg:=(.n 1)) (oU (aq 1)) (by decide) jv (Jq (AE.p (au cK (aq 0) (AE.p aD))) (aq 1)))))) bF))))
 (lu (AE.w (iF (K:=K) (tg:=(.n 1)) (oU (aq 3)) (by decide) jv (AE.nv (iF (K:=K) (tg:=(.n 1)) (oU (aq 1)) (by decide) jv (au cK (AE.p (au cK (aq 0) (AE.p aD))) (aq 1))))))))⟩)
abbrev vR:bD:=top 25
theorem F7:dv ["_law_script","_law_net_here","_law_draw","_law_one","_law_other","_law_held","_law_due_here","_law_found","_law_road"] ["_law_script"] (bM vR):=eR
theorem Kg{f:ah}{fd:bS}(F:cL K "law" "law" vR f fd)(T:Txt mg)(qR:cx P w K mg base aL 10 "all_roads" ["net","one","other"] (de i0))(kw:∀n,cx P w K mg base aL (n+1) "_law_alike" ["_law_found","_law_due_here"] (ck (cR n)))(x6:cx P w K mg base aL 3 "_law_two" ["_law_script","_law_most"] (ck qt))(x9:cx P w K mg base aL 2 "_law_questions" ["_law_script","_law_many"] (de pV))(ya:cx P w K mg base aL 1 "_law_asked" ["_law_net_here","_law_draw"] (de lE))(uo:cx P w K mg base aL 3 "_law_due" ["_law_net_here","_law_one","_law_other"] (de k9)):bt P w K mg base aL 11 f fd ["_law_script"] (ck vx):=
 jP (Mo []) F F7 (λcdv A outer s H E hr nd hu bT=>by
  have qQ:=hr.mono (show(4+1)<=_ by decide);exact⟨_,(aY (pS 1 (pC x6 hr (ax (pv 0) (ax aC bc))))
 (aY (ge gu rfl (gV (pC x9 hr (ax (pv 0) (ax aC bc)))) (pG 2)
 (aY (Cg (pC ya hr (ax (pv 1) (a7 2))) (Hd rfl (lX (pG 3) (lX (pG 4) (lX (pG 5) vC)))))
 (aY (pS 6 (pC uo hr (ax (pv 1) (ax (pv 3) (a7 4)))))
 (aY (pS 7 (pC qR hr (ax (pv 1) (ax (pv 3) (a7 4)))))
 (aY (dO (qi (jr (lJ (kw 4) qQ rfl lI (ax (pv 7) (a7 6)))))
 (ba (c6 js))
 eB)
 (aY (ge gu rfl (gV (pv 7)) (pG 8)
 (ba (gB (ww gJ En Eo zW (pv 8)))))
 (aY (gB (ww gJ En Eo zW (pv 7)))
 (aY (dO (qi (jr (lJ (kw 4) qQ rfl lI (ax (pC qR hr (ax (pv 1) (ax (pv 4) (a7 3)))) (ax (pC uo hr (ax (pv 1) (ax (pv 4) (a7 3)))) bc)))))
 (ba (c6 js))
 eB)
 (ba (dO (qi (jr (lJ (kw 4) qQ rfl lI (ax (pC qR hr (ax (pv 1) (ax (pv 3) (a7 4)))) (a7 6)))))
 (ba (c6 js))
 eB))))))))))
 (ba (c6 js)))),
  (a9 (dU 1 rfl (eA (aM (bj 0) (aM (AE.w aD) cv))))
 (a9 (gv (K:=K) (tg:=(.n 2)) (lK (AE.nv (io (aM (bj 0) (aM (AE.w aD) cv))))) (by decide)
 (a9 (HJ [3,4,5] (by decide) (AE.nv (io (aM (bj 1) (aM (bj 2) cv)))))
 (a9 (dU 6 rfl (AE.nv (io (aM (bj 1) (aM (bj 3) (aM (bj 4) cv))))))
 (IT (K:=K) [1,3,4] 7 8 (by decide) (by decide) rfl (io (aM (bj 1) (aM (bj 3) (aM (bj 4) cv)))) (pL (hJ (AE.p (eA (aM (bj 7) (aM (bj 6) cv))))))
 (fJ (AE.w jo))
 (a9 (dW (pL (hJ (AE.p (eA (aM (AW.nv (AE.w (io (aM (bj 1) (aM (bj 4) (aM (bj 3) cv)))))) (aM (AW.nv (AE.w (io (aM (bj 1) (aM (bj 4) (aM (bj 3) cv)))))) cv))))))
 (fJ (AE.w jo))
 eQ)
 (dW (pL (hJ (AE.p (eA (aM (AW.nv (AE.w (io (aM (bj 1) (aM (bj 3) (aM (bj 4) cv)))))) (aM (bj 6) cv))))))
 (fJ (AE.w jo))
 eQ))))))
 (fJ (AE.w jo))))⟩)
end
end oD
namespace L2
open PySem PySem.Spec PyProof.Rows
theorem GS[Tb:A.a8](h0:Tb.l=[]){H:Hp}(o:Only H):A.jt H:=⟨λp hp=>by rw[h0]at hp;exact(nomatch hp),λT q ps e=>by
 rcases o T with z|⟨u,xs,z⟩<;>rw[z]at e<;>(cases e),λa q xs e=>by
 rcases o a with z|⟨u,ns,z⟩<;>rw[z]at e<;>(cases e);intro x hx;obtain⟨i,_,rfl⟩:=dq.mp hx;exact⟨i,rfl⟩⟩
theorem dj.Go{P:bb}{w:aT}{K:aB}{mg:Str->Option ag}{CX:eY}{k:Nat}{x p:Str}{st:bD}{sp:Sp}{fa:ah}(F:dj K mg x st [p])(hm:mg x=ab (.ref fa))(h:∀base,K.In base->base.Ns mainGlobals mg->∀f fd,cL K x x st f fd->bt P w K mg base CX k f fd [p] sp) :
 ∃fd:bS,(∀(s:ak) (u:ag),lp s fd ⟨[u],[]⟩ [(p,u)])/\∀base:aI,K.In base->base.Ns mainGlobals mg->bt P w K mg base CX k fa fd [p] sp:=by
 obtain⟨f,fd,h1,h2,h3,h5,h4⟩:=F.ex;rw[h1]at hm;cases hm;exact⟨fd,λs u=>h5 s [u] rfl,λbase kb nb=>h base kb nb _ fd h4⟩
theorem Aj{P:bb}{w:aT}{K:aB}{mg:Str->Option ag}{base:aI}{CX:eY}{lv:Nat->Nat}{x:Str}{st:bD}{ps:List Str}{sp:Nat->Sp}(F:dj K mg x st ps)
 (h:∀f fd,cL K x x st f fd->(∀n,bt P w K mg base CX (lv n) f fd ps (sp n)->cx P w K mg base CX (lv n) x ps (sp n))->∀n,bt P w K mg base CX (lv n) f fd ps (sp n)) (n:Nat):cx P w K mg base CX (lv n) x ps (sp n):=by
 obtain⟨f,fd,h1,h2,h3,_,h4⟩:=F.ex;have self:∀n,bt P w K mg base CX (lv n) f fd ps (sp n)->cx P w K mg base CX (lv n) x ps (sp n):=λn k=>⟨f,fd,h1,h2,h3,k⟩;exact self n (h f fd h4 self n)
def yO(K:aB):Bool:=K.all λp=>match p.2.cls with|.type "list" => false|_=>true
theorem He{K:aB}(h:yO K=true){a:ah}{o:Obj}(e:K.lookup a=ab o)(c:o.cls=.type "list"):False:=by
 have hm:(a,o)∈K:=by
  clear h
  induction K with
  |nil=>cases e
  |cons p r ih=>
   obtain⟨b,x⟩:=p;simp only[List.lookup]at e;split at e
   ·rename_i q;cases e;rw[j7.mp q];exact List.Mem.head _
   ·exact List.Mem.tail _ (ih e)
 have h2:=fE.mp h _ hm;simp only[c]at h2;cases h2
end L2
namespace Mi
open PySem
@[simp] theorem mh {α:Type} (a:α):cN (ab a)=.ok a:=rfl
@[simp] theorem LP {α:Type} {c:Prop} [Decidable c] (h:c) (r:Rs α):a6 c r=r:=aw h
@[simp] theorem pf (a b:Str):bh (.str a) (.str b)=decide (a=b):=by rw[bh];by_cases h:a=b<;>simp[h]
@[simp] theorem zm (a b:Int):bh (.int a) (.int b)=decide (a=b):=by rw[bh];by_cases h:a=b<;>simp[h]
@[simp] theorem Il (x:Str):(D.str x).dep=0:=by simp[D.dep]
@[simp] theorem LK (x:Int):(D.int x).dep=0:=by simp[D.dep]
@[simp] theorem LN (x:Bool):(D.bl x).dep=0:=by simp[D.dep]
@[simp] theorem LO:D.non.dep=0:=by simp[D.dep]
@[simp] theorem LH (ds:List D):(D.lst ds).dep=cS ds+1:=by simp[D.dep]
@[simp] theorem LL (ds:List D):(D.tup ds).dep=cS ds+1:=by simp[D.dep]
@[simp] theorem LQ:cS []=0:=rfl
@[simp] theorem BE (d:D) (r:List D):cS (d::r)=max d.dep (cS r):=by rw[cS]
@[simp] theorem wz:∀xs:List Str,cS (xs.map D.str)=0
 |[]=>rfl
 |x::r=>by rw[cD,BE,Il,wz r];rfl
theorem Dr(xs:List Str)(x:Str):((xs.map D.str).any λe=>bh e (.str x))=decide (x∈xs):=by
 induction xs with
 |nil=>rfl
 |cons y r ih=>
  rw[cD,i5,ih,pf];by_cases h:y=x
  ·simp[h]
  ·have h2:¬ x=y:=λz=>h z.symm;simp[h,h2]
theorem Ds(xs:List Str)(x:Str):iL (.str x) (.lst (xs.map D.str))=.ok (.bl (!decide (x∈xs))):=by show a6 _ _=_;rw[aE (by rw[wz];omega),Dr]
theorem Hl(xs:List Str)(x:Str):iL (.str x) (.tup (xs.map D.str))=.ok (.bl (!decide (x∈xs))):=by show a6 _ _=_;rw[aE (by rw[wz];omega),Dr]
theorem wb(x y:Str):et (.str x) (.str y)=.ok (.bl (decide (x=y))):=by show a6 _ _=_;rw[aE (by simp),pf]
theorem II(x y:Str):fO (.str x) (.str y)=.ok (.bl (!decide (x=y))):=by show a6 _ _=_;rw[aE (by simp),pf]
theorem sS(x y:Int):et (.int x) (.int y)=.ok (.bl (decide (x=y))):=by show a6 _ _=_;rw[aE (by simp),zm]
theorem zV(x y:Int):fO (.int x) (.int y)=.ok (.bl (!decide (x=y))):=by show a6 _ _=_;rw[aE (by simp),zm]
theorem Al(xs:List Str):iY (xs.map D.str)=ab xs:=by
 induction xs with
 |nil=>rfl
 |cons a r ih=>rw[cD,iY,ih];rfl
theorem zP(n:Nat)(b:S)(a0:W):eP 1 n b [a0]=(b ([ab a0]++dE (n-1) ae)).bind j8:=aE rfl
theorem jY(n:Nat)(b:S)(a0 a1:W):eP 2 n b [a0,a1]=(b ([ab a0,ab a1]++dE (n-2) ae)).bind j8:=aE rfl
theorem yW(n:Nat)(b:S)(a0 a1 a2:W):eP 3 n b [a0,a1,a2]=(b ([ab a0,ab a1,ab a2]++dE (n-3) ae)).bind j8:=aE rfl
theorem HY(n:Nat)(b:S)(a0:W):gc 1 n b [a0]=(b ([ab a0]++dE (n-1) ae)).bind jh:=aE rfl
theorem sK(n:Nat)(b:S)(a0 a1:W):gc 2 n b [a0,a1]=(b ([ab a0,ab a1]++dE (n-2) ae)).bind jh:=aE rfl
theorem sv(n:Nat)(b:S)(a0 a1 a2:W):gc 3 n b [a0,a1,a2]=(b ([ab a0,ab a1,ab a2]++dE (n-3) ae)).bind jh:=aE rfl
theorem lH(i j:Int):aW (.int i) (.int j)=.ok (.int (i+j)):=rfl
theorem yA(i j:Str):aW (.str i) (.str j)=a6 (i.length+j.length<=16777216) (.ok (.str (i++j))):=rfl
theorem Db(i j:List D):aW (.lst i) (.lst j)=a6 (i.length+j.length<=16777216) (.ok (.lst (i++j))):=rfl
theorem KO(i j:Int):iS (.int i) (.int j)=.ok (.int (i-j)):=rfl
theorem qj(i j:Int):bp (.int i) (.int j)=a6 (jQ i j) (.ok (.int (i*j))):=rfl
theorem div_ii(i j:Int):bN (.int i) (.int j)=a6 (j4 j) (.ok (.int (i/j))):=rfl
theorem kK(i j:Int):aU (.int i) (.int j)=a6 (0<j) (.ok (.int (i%j))):=rfl
theorem rH(i j:Int):dR (.int i) (.int j)=.ok (.bl (decide (i<j))):=rfl
theorem A7(ds:List D):da [.lst ds]=.ok (.int ds.length):=rfl
theorem Kz(ds:List D):da [.tup ds]=.ok (.int ds.length):=rfl
theorem GI(i j:Int):gY [.int i,.int j]=.ok (.int (max i j)):=rfl
theorem J4(i j:Int):lc [.int i,.int j]=.ok (.int (min i j)):=rfl
theorem v9(z:Str)(lo hi:Option Int):gA (.str z) lo hi=a6 (z.length<=16777216) (.ok (.str (kY z lo hi))):=rfl
theorem Hk(ds:List D):rZ (.lst ds)=.ok ds:=rfl
theorem uz(b:Bool):nK (.bl b)=.ok b:=rfl
theorem k7(b:Int):lx (.int b)=.ok b:=rfl
theorem uW(x:D):sY (.d x)=.ok x:=rfl
theorem K1(i:Nat)(d:D)(e:Mi.Env):(Tg.n i).put d e=.ok (e.set i (ab (.d d))):=rfl
theorem all_cons(i:Nat)(is:List Nat)(d:D)(ds:List D)(e:Mi.Env):lg (i::is) (d::ds) e=lg is ds (e.set i (ab (.d d))):=rfl
theorem HK(e:Mi.Env):j8 (.nx e)=.ok (.d .non):=rfl
theorem Fw(w:W):jh (.rt w)=.ok w:=rfl
theorem av{f:D->D->Rs D}{a b:E}{e:Mi.Env}{x y:D}{z:Rs D}(ha:a e=.ok x)(hb:b e=.ok y)(h:f x y=z):m2 f a b e=z:=by unfold m2;rw[ha,aN,hb,aN,h]
theorem aR{s t:S}{e e':Mi.Env}(h:s e=.ok (.nx e')):aP s t e=t e':=by unfold aP;rw[h];rfl
theorem mf{s t:S}{e:Mi.Env}{w:W}(h:s e=.ok (.rt w)):aP s t e=.ok (.rt w):=by unfold aP;rw[h];rfl
theorem cu{i:Nat}{a:E}{e:Mi.Env}{d:D}(h:a e=.ok d):bE i a e=.ok (.nx (e.set i (ab (.d d)))):=by unfold bE;rw[h];rfl
theorem fN{a:EW}{e:Mi.Env}{w:W}(h:a e=.ok w):bJ a e=.ok (.rt w):=by unfold bJ;rw[h];rfl
theorem cG{a:E}{e:Mi.Env}{d:D}(h:a e=.ok d):wD a e=.ok (.d d):=by unfold wD;rw[h];rfl
theorem fZ{c:C}{s t:S}{e:Mi.Env}(h:c e=.ok true):bA c s t e=s e:=by unfold bA;rw[h];rfl
theorem dr{c:C}{s t:S}{e:Mi.Env}(h:c e=.ok false):bA c s t e=t e:=by unfold bA;rw[h];rfl
theorem cY{a:E}{e:Mi.Env}{b:Bool}(h:a e=.ok (.bl b)):cB a e=.ok b:=by unfold cB;rw[h];rfl
theorem iy{ρ:List (Option Nat)}{it:I}{tg:Tg}{c:C}{a:E}{e:Mi.Env}{xs ys:List D}(h:it e=.ok xs)(hl:xs.length<=16777216)(hc:ee tg c a (je ρ e) xs=.ok ys):eu ρ it tg c a e=.ok (.lst ys):=by unfold eu;rw[h,aN,aE hl,hc,aN]
theorem ik{a:E}{e:Mi.Env}{n:Int}(h:a e=.ok (.int n))(hr:okR n):f8 a e=.ok (c8 0 n):=by unfold f8;rw[h,aN,k7,aN,aE hr]
theorem gG{it:I}{tg:Tg}{b:S}{e:Mi.Env}{xs:List D}(h:it e=.ok xs):dM it tg b e=gf tg b xs e:=by unfold dM;rw[h];rfl
theorem iM{a:E}{e:Mi.Env}{x:D}{xs:List D}(h:a e=.ok x)(hx:rZ x=.ok xs):c9 a e=.ok xs:=by unfold c9;rw[h,aN,hx]
theorem pI{i:Nat}{a:E}{e:Mi.Env}{d:D}{ds:List D}(h:a e=.ok d)(hg:getL e i=.ok ds)(hl:ds.length<16777216):fV i a e=.ok (.nx (putL e i (ds++[d]))):=by unfold fV;rw[h,aN,hg,aN,aE hl]
theorem kH{f:List D->Rs D}{a:E}{e:Mi.Env}{x:D}(h:a e=.ok x):mN f [a] e=f [x]:=by unfold mN;rw[fQ,h];rfl
theorem wB{f:List D->Rs D}{a b:E}{e:Mi.Env}{x y:D}(h:a e=.ok x)(h':b e=.ok y):mN f [a,b] e=f [x,y]:=by unfold mN;rw[fQ,h,aN,fQ,h'];rfl
theorem k5{a:E}{e:Mi.Env}{x:D}(h:a e=.ok x):mN cH [a] e=.ok (.lst [x]):=by rw[kH h];exact aE (by simp)
theorem nF{a b:E}{e:Mi.Env}{x y:D}(h:a e=.ok x)(h':b e=.ok y):mN dTup [a,b] e=.ok (.tup [x,y]):=by rw[wB h h'];exact aE (by simp)
theorem IW{f:Fn}{a:EW}{e:Mi.Env}{x:W}{d:D}(h:a e=.ok x)(hf:f [x]=.ok (.d d)):aX f [a] e=.ok d:=by unfold aX kM;rw[eW,h];simp only[aN,eW,hf,uW]
theorem call2{f:Fn}{a b:EW}{e:Mi.Env}{x y:W}{d:D}(h:a e=.ok x)(h':b e=.ok y)(hf:f [x,y]=.ok (.d d)):aX f [a,b] e=.ok d:=by unfold aX kM;rw[eW,h,aN,eW,h'];simp only[aN,eW,hf,uW]
theorem jk{f:Fn}{a b c:EW}{e:Mi.Env}{x y z:W}{d:D}(h:a e=.ok x)(h':b e=.ok y)(h'':c e=.ok z)(hf:f [x,y,z]=.ok (.d d)):aX f [a,b,c] e=.ok d:=by unfold aX kM;rw[eW,h,aN,eW,h',aN,eW,h''];simp only[aN,eW,hf,uW]
theorem lV{α:Type}{tg:Tg}{c:C}{a:E}{e:Mi.Env}(f g:α->D)(p:α->Bool):∀(xs:List α),(∀x∈xs,∃e1,tg.put (f x) e=.ok e1/\c e1=.ok (p x)/\(p x=true->a e1=.ok (g x)))->ee tg c a e (xs.map f)=.ok ((xs.filter p).map g)
 |[],_=>rfl
 |x::r,h=>by
  obtain⟨e1,h1,h2,h3⟩:=h x cC;have ih:=lV (tg:=tg) (c:=c) (a:=a) (e:=e) f g p r λy hy=>h y (cA _ hy);rw[cD,ee,h1,aN,h2,aN];cases hp:p x with
  |true=>rw[aw rfl,h3 hp,aN,ih,aN,tE hp];rfl
  |false=>rw[ay cW,ih,xa (by rw[hp];exact cW)]
theorem ip{tg:Tg}{body:S}(Inv:Nat->Mi.Env->Prop):∀(xs:List D) (k:Nat),(∀i x e,xs[i]? = ab x->Inv (k+i) e->∃e1 e2,tg.put x e=.ok e1/\body e1=.ok (.nx e2)/\Inv (k+i+1) e2)->∀e,Inv k e->∃e',gf tg body xs e=.ok (.nx e')/\Inv (k+xs.length) e'
 |[],k,_,e,h=>⟨e,rfl,h⟩
 |x::r,k,hs,e,h=>by
  obtain⟨e1,e2,h1,h2,h3⟩:=hs 0 x e rfl h;obtain⟨e',h4,h5⟩:=ip Inv r (k+1) (λi y e hy hi=>by
   have:=hs (i+1) y e (by simpa using hy) (by rw[show k+(i+1)=k+1+i by omega];exact hi);rw[show k+(i+1)+1=k+1+i+1 by omega]at this;exact this) e2 h3
  refine⟨e',?_,by rw[ce,show k+(r.length+1)=k+1+r.length by omega];exact h5⟩;rw[gf,h1,aN,h2,aN];exact h4
end Mi
namespace Mr
open PySem Mi
abbrev Ar:=Str×Str
def pairD(p:Ar):D:=.tup [.str p.1,.str p.2]
def fA(ac:List Str):D:=.tup (ac.map D.str)
def mT(aF:List Ar):D:=.tup (aF.map pairD)
def aJ(ac:List Str)(aF:List Ar):D:=.tup [fA ac,mT aF]
def aj(xs:List Str):D:=.lst (xs.map D.str)
theorem at0{α:Type}(a:α)(r:List α):cU (a::r) 0=ab a:=by simp[cU,dB]
theorem at1{α:Type}(a b:α)(r:List α):cU (a::b::r) 1=ab b:=by unfold cU dB;rw[aw (by decide),aw (by simp only[ce];omega)];rfl
theorem j9(ac:List Str)(aF:List Ar):aG (aJ ac aF) (.int 0)=.ok (fA ac):=by unfold aJ aG;simp[at0]
theorem sF(ac:List Str)(aF:List Ar):aG (aJ ac aF) (.int 1)=.ok (mT aF):=by unfold aJ aG;simp[at1]
theorem Bs{ac asked:List Str}(h:∀x∈asked,x∈ac):kU [.d (fA ac),.d (aj asked)]=.ok (.d .non):=by
 have key:∀(xs:List Str) (o:Option W),(∀x∈xs,x∈ac)->∃o',gf (.n 2) (bA (cB (m2 iL (mV 2) (mV 0))) pz cn) (xs.map D.str) [ab (.d (fA ac)),ab (.d (aj asked)),o]=.ok (.nx [ab (.d (fA ac)),ab (.d (aj asked)),o']):=by
  intro xs
  induction xs with
  |nil=>exactλo _=>⟨o,rfl⟩
  |cons x r ih=>
   intro o hx;obtain⟨o',e⟩:=ih (ab (.d (.str x))) λy hy=>hx y (cA _ hy);refine⟨o',?_⟩;rw[cD,gf];have:x∈ac:=hx x cC;simp only[fA,K1,D8,D9,bA,cB,m2,mV,cn,aN,jA,kh,Hl,this,decide_true,Bool.not_true,uz,ou,gg];exact e
 obtain⟨o',e⟩:=key asked ae h;unfold aj at e;unfold kU C2;rw[jY];simp only[dM,c9,mV,aj,Nat.reduceSub,List.replicate_succ,List.replicate_zero,mB,ll,jA,kh,aN,Hk,e,HK]
def z5(aF:List Ar)(x:Str):List Str:=(aF.filter λp=>decide (p.2=x)).map (·.1)
def ready(aF:List Ar)(told:List Str)(x:Str):Bool:=!decide (x∈told)&&(z5 aF x).all λy=>decide (y∈told)
def nxt(ac:List Str)(aF:List Ar)(told:List Str):Option Str:=ac.find? (ready aF told)
def ord(ac:List Str)(aF:List Ar):Nat->List Str
 |0=>[]
 | k+1=>match nxt ac aF (ord ac aF k)with
  |some x=>ord ac aF k++[x]
  |none=>ord ac aF k
theorem kN{α:Type}[DecidableEq α]:∀{l m:List α},l.Nodup->(∀x∈l,x∈m)->l.length<=m.length
 |[],_,_,_=>fi _
 |a::l,m,nd,h=>by
  have nd:=iB.mp nd;have:l.length<=(m.erase a).length:=kN nd.2 λx hx=>(D2 (λz:x=a=>nd.1 (z ▸ hx))).mpr (h x (cA _ hx));have hm:=h a cC;rw[DT hm]at this;have:0<m.length:=List.length_pos_of_mem hm;rw[ce];omega
end Mr
namespace My
def wl:List Nat:=[101,116,97,111,105,110,115,104,114,100,108,117,99,109,102,119,121,112,118,98,103,107,113,106,120,122]
def eJ(n:Int):Nat:=wl.getD (n%26).toNat 0
def eK(c:Int):List Nat:=(bn 8).map λ(k:Nat)=>eJ (c/(4+3*(k:Int)))
def eZ(c:Int)(n:Nat):List Nat:=(bn n).map λ(k:Nat)=>eJ (c/32+5*(k:Int)+(k:Int)*(k:Int))
def words(c:Int)(many:Nat):List (List Nat):=
 if c%4<2 then
  if c%4=0 then(bn many).map λ(k:Nat)=>(eK c).take (k+1)
  else(bn many).map λ(k:Nat)=>(eK c).drop (7-k)
 else
  (bn many).map λ(k:Nat)=>(eZ c (c/4%8).toNat).take (c/256%(c/4%8+1)).toNat++[eJ (c/7+5*(k:Int))]++(eZ c (c/4%8).toNat).drop (c/256%(c/4%8+1)).toNat
def dC(x:List Nat):Prop:=1<=x.length/\x.length<=8/\∀c∈x,97<=c/\c<=122
theorem vD:∀c∈wl,97<=c/\c<=122:=by decide
theorem Kr:wl.Nodup:=by decide
theorem sV:wl.length=26:=by decide
theorem uy(n:Int):eJ n∈wl:=by
 unfold eJ;have h1:=fG n (b:=26) (by decide);have h2:=fT n (b:=26) (by decide);have h3:(n%26).toNat<wl.length:=by rw[sV];omega
 rw[dH,dm h3];exact qz h3
theorem Iu{n m:Int}(h:eJ n=eJ m):n%26=m%26:=by
 unfold eJ at h;have h1:=fG n (b:=26) (by decide);have h2:=fT n (b:=26) (by decide);have h3:(n%26).toNat<wl.length:=by rw[sV];omega
 have h1':=fG m (b:=26) (by decide);have h2':=fT m (b:=26) (by decide);have h3':(m%26).toNat<wl.length:=by rw[sV];omega
 rw[dH,dm h3,dH,dm h3']at h;have:=(ki Kr).mp h;omega
theorem jb(c:Int):(eK c).length=8:=by simp[eK]
theorem na(c:Int)(n:Nat):(eZ c n).length=n:=by simp[eZ]
theorem A6(c:Int):∀x∈eK c,97<=x/\x<=122:=λx hx=>by
 obtain⟨k,_,rfl⟩:=dq.mp hx;exact vD _ (uy _)
theorem zI(c:Int)(n:Nat):∀x∈eZ c n,97<=x/\x<=122:=λx hx=>by
 obtain⟨k,_,rfl⟩:=dq.mp hx;exact vD _ (uy _)
theorem oO(c:Int)(many:Nat):(words c many).length=many:=by unfold words;split<;>(try split)<;>simp
theorem vq{α:Type}(f:Nat->α)(n:Nat)(h:∀i j,i<n->j<n->f i=f j->i=j):((bn n).map f).Nodup:=by
 induction n with
 |zero=>simp
 |succ n ih=>
  rw[List.range_succ,fh,List.map_singleton];rw[iz];refine⟨ih λi j hi hj=>h i j (by omega) (by omega),by simp,λa ha b hb=>?_⟩;obtain⟨i,hi,rfl⟩:=dq.mp ha;have hi:=d3.mp hi;have hb:b=f n:=by simpa using hb
  subst hb;intro e;have:=h i n (by omega) (by omega) e;omega
theorem oJ(c:Int)(many:Nat)(hm:many<=8):(words c many).Nodup:=by
 unfold words;split
 ·split
  ·refine vq _ _ λi j hi hj e=>?_;have:=congrArg qB e;rw[cO,cO,jb]at this;omega
  ·refine vq _ _ λi j hi hj e=>?_;have:=congrArg qB e;rw[fg,fg,jb]at this;omega
 ·refine vq _ _ λi j hi hj e=>?_;rw[gp,gp]at e;have e1:=DW e;have e2:=List.append_cancel_right e1;have e3:eJ (c/7+5*(i:Int))=eJ (c/7+5*(j:Int)):=by simpa using e2
  have:=Iu e3;omega
theorem dN(c:Int)(many:Nat)(hm:many<=8):∀x∈words c many,dC x:=by
 unfold words;split
 ·split
  ·intro x hx;obtain⟨k,hk,rfl⟩:=dq.mp hx;have hk:=d3.mp hk;refine⟨by rw[cO,jb];omega,by rw[cO,jb];omega,λy hy=>A6 c y (tG hy)⟩
  ·intro x hx;obtain⟨k,hk,rfl⟩:=dq.mp hx;have hk:=d3.mp hk;refine⟨by rw[fg,jb];omega,by rw[fg,jb];omega,λy hy=>A6 c y (D3 hy)⟩
 ·intro x hx;obtain⟨k,hk,rfl⟩:=dq.mp hx;have h1:=fG (c/4) (b:=8) (by decide);have h2:=fT (c/4) (b:=8) (by decide);have h3:=fG (c/256) (b:=c/4%8+1) (by omega);have h4:=fT (c/256) (b:=c/4%8+1) (by omega);have hl:((eZ c (c/4%8).toNat).take (c/256%(c/4%8+1)).toNat++[eJ (c/7+5*(k:Int))]++(eZ c (c/4%8).toNat).drop (c/256%(c/4%8+1)).toNat).length=(c/4%8).toNat+1:=by
   rw[bB,bB,cO,fg,na];simp;omega
  refine⟨by rw[hl];omega,by rw[hl];omega,λy hy=>?_⟩;rcases dZ.mp hy with hy|hy
  ·rcases dZ.mp hy with hy|hy
   ·exact zI c _ y (tG hy)
   ·have:y=eJ (c/7+5*(k:Int)):=by simpa using hy
    subst this;exact vD _ (uy _)
  ·exact zI c _ y (D3 hy)
end My
namespace Mi
open PySem
def S'(l:List Nat):Str:=⟨l.toArray⟩
theorem uK(l:List Nat):(S' l).cps.toList=l:=rfl
theorem kZ(l:List Nat):(S' l).length=l.length:=by simp[S',mK]
theorem J9{x y:Str}(h:x.cps.toList=y.cps.toList):x=y:=by obtain⟨a⟩:=x;obtain⟨b⟩:=y;have h:a.toList=b.toList:=h;rw[oA.mp h]
theorem Jp{l m:List Nat}(h:S' l=S' m):l=m:=by have:=congrArg (λx:Str=>x.cps.toList) h;simpa [S']using this
theorem Km(l m:List Nat):S' l++S' m=S' (l++m):=by show(⟨l.toArray++m.toArray⟩ : Str)=⟨(l++m).toArray⟩;simp
theorem BH:∀l:List Str,(iC "" l).cps.toList=l.flatMap (·.cps.toList)
 |[]=>by simp[iC,d8]
 |[x]=>by simp[iC]
 |x::y::r=>by
  have ih:=BH (y::r);have e:iC "" (x::y::r)=x ++ "" ++ iC "" (y::r):=rfl;have e2:("" : Str).cps.toList=[]:=by decide +kernel
  rw[e];show((x.cps++("" : Str).cps)++(iC "" (y::r)).cps).toList=_;rw[EA,EA,e2,ih];simp
theorem join_ones(l:List Nat):iC "" (l.map λx=>S' [x])=S' l:=by
 refine J9 ?_;rw[BH,uK]
 induction l with
 |nil=>rfl
 |cons a r ih=>rw[cD,eD,ih];rfl
theorem Fo{α:Type}(xs:List α)(k:Nat):iu xs ae (ab (k:Int))=xs.take k:=by
 show(xs.drop 0).take ((if(k:Int)<0 then((k:Int)+(xs.length:Int)).toNat else min (k:Int).toNat xs.length)-0)=_;rw[ay (by omega),qA,Nat.sub_zero,jI];rcases Nat.le_total k xs.length with h|h
 ·rw[Nat.min_eq_left h]
 ·rw[Nat.min_eq_right h,qv (bg _),qv h]
theorem Dg{α:Type}(xs:List α)(k:Nat):iu xs (ab (k:Int)) ae=xs.drop k:=by
 show(xs.drop (if(k:Int)<0 then((k:Int)+(xs.length:Int)).toNat else min (k:Int).toNat xs.length)).take (xs.length-(if(k:Int)<0 then((k:Int)+(xs.length:Int)).toNat else min (k:Int).toNat xs.length))=_;rw[ay (by omega),jI];rcases Nat.le_total k xs.length with h|h
 ·rw[Nat.min_eq_left h];exact qv (by rw[fg];exact bg _)
 ·rw[Nat.min_eq_right h,tF (bg _),tF h];simp
theorem Bk(l:List Nat)(k:Nat):kY (S' l) ae (ab (k:Int))=S' (l.take k):=by unfold kY;rw[uK,Fo];rfl
theorem B9(l:List Nat)(k:Nat):kY (S' l) (ab (k:Int)) ae=S' (l.drop k):=by unfold kY;rw[uK,Dg];rfl
def cr:Str := "etaoinshrdlucmfwypvbgkqjxz"
theorem Lh:cr.cps.toList=My.wl:=by decide +kernel
theorem J0:cr.length<=16777216:=by decide +kernel
theorem vf{α:Type}{xs:List α}{i:Int}(h0:0<=i)(h1:i<xs.length)(d:α):cU xs i=ab (xs.getD i.toNat d):=by
 unfold cU dB;rw[aw h0,aw h1];have h3:i.toNat<xs.length:=by omega
 show xs[i.toNat]? = _;rw[dH,dm h3];rfl
theorem Hu(n:Int):cU cr.cps.toList (n%26)=ab (My.eJ n):=by rw[Lh];have h1:=fG n (b:=26) (by decide);have h2:=fT n (b:=26) (by decide);exact vf h1 (by rw[My.sV];omega) 0
theorem pi{cs:List Int}{i:Int}(h0:0<=i)(h1:i<cs.length):aG (.lst (cs.map D.int)) (.int i)=.ok (.int (cs.getD i.toNat 0)):=by
 show cN (cU (cs.map D.int) i)=_;rw[vf h0 (by rw[aS];exact h1) (.int 0),mh];have h3:i.toNat<cs.length:=by omega
 rw[dH,dw,dH,dm h3];rfl
theorem z9{cs:List Str}{i:Int}(h0:0<=i)(h1:i<cs.length):aG (.lst (cs.map D.str)) (.int i)=.ok (.str (cs.getD i.toNat d8)):=by
 show cN (cU (cs.map D.str) i)=_;rw[vf h0 (by rw[aS];exact h1) (.str d8),mh];have h3:i.toNat<cs.length:=by omega
 rw[dH,dw,dH,dm h3];rfl
theorem vO(n:Nat):c8 0 (n:Int)=(bn n).map λ(k:Nat)=>D.int (k:Int):=by unfold c8;rw[show((n:Int)-0).toNat=n by omega];exact oi λk _=>by rw[Int.zero_add]
theorem jS(n:Nat):(c8 0 (n:Int)).length=n:=by rw[vO];simp
theorem pM{n i:Nat}{x:D}(h:(c8 0 (n:Int))[i]? = ab x):i<n/\x=.int (i:Int):=by
 rw[vO,dw]at h;cases hr:(bn n)[i]? with
 |none=>rw[hr]at h;cases h
 |some k=>
  rw[hr]at h;obtain⟨h1,h2⟩:=cV.mp hr;rw[xh]at h2;subst h2;rw[xj]at h1;exact⟨h1,(fj h).symm⟩
theorem nU{tg:Tg}{a:E}{e:Mi.Env}(g:Nat->D)(n:Nat)(h:∀k<n,∃e1,tg.put (.int (k:Int)) e=.ok e1/\a e1=.ok (g k)):ee tg dD a e (c8 0 (n:Int))=.ok ((bn n).map g):=by
 rw[vO,lV (λ(k:Nat)=>D.int (k:Int)) g (λ_=>true) (bn n) λk hk=>?_]
 ·rw[qw.mpr λ_ _=>rfl]
 ·obtain⟨e1,h1,h2⟩:=h k (d3.mp hk);exact⟨e1,h1,rfl,λ_=>h2⟩
theorem sQ{i:Int}(h0:-1000<=i)(h1:i<=1000):okR i:=by unfold okR;omega
theorem h9{i j:Int}(h0:-(2 ^ 64)<i)(h1:i<2 ^ 64):jQ i j:=.inl ⟨h0,h1⟩
theorem nI{i j:Int}(h0:-(2 ^ 64)<j)(h1:j<2 ^ 64):jQ i j:=.inr ⟨h0,h1⟩
theorem g0{j:Int}(h0:0<j)(h1:j<2 ^ 64):j4 j:=by
 refine⟨h0,?_⟩;have h2:j.natAbs<2 ^ 64:=by omega
 have h3:j.natAbs≠0:=by omega
 have:=(Nat.log2_lt h3).mpr h2;omega
end Mi
namespace Mr
open PySem Mi
open My (words eK eZ eJ jb na oO oJ)
theorem vP(n:Int):aG (.str cr) (.int (n%26))=.ok (.str (S' [eJ n])):=by show a6 _ _=_;rw[aE J0,Hu];rfl
theorem y3(l:List Nat)(h:l.length<=8):rY (.str "") (.lst (l.map λx=>D.str (S' [x])))=.ok (.str (S' l)):=by
 show(cN (iY (l.map λx=>D.str (S' [x])))).bind _=_;have e:l.map (λx=>D.str (S' [x]))=(l.map λx=>S' [x]).map D.str:=by rw[dA];rfl
 rw[e,Al,mh,aN,aE ?_,join_ones];have h1:((l.map λx=>S' [x]).map (·.length)).sum=l.length:=by
  clear h e
  induction l with
  |nil=>rfl
  |cons a r ih=>rw[cD,cD,List.sum_cons,ih,kZ,ce];simp;omega
 have h2:("" : Str).length=0:=by decide +kernel
 rw[h1,h2];omega
theorem st1(c:Int)(k:Nat)(d32:j4 32)(m5:jQ 5 (k:Int))(mk:jQ (k:Int) k):(m2 aW (m2 aW (m2 bN (mV 1) (mC (.int 32))) (m2 bp (mC (.int 5)) (mV 2))) (m2 bp (mV 2) (mV 2))) [ab (.d (.str cr)),ab (.d (.int c)),ab (.d (.int k))]=.ok (.int (c/32+5*(k:Int)+(k:Int)*(k:Int))):=(av (av (av rfl rfl (aE d32)) (av rfl rfl (aE m5)) rfl) (av rfl rfl (aE mk)) rfl)
theorem st2(c:Int)(e:Mi.Env)(a:E)(h:a e=.ok (.int c))(h0:e[0]? = ab (ab (.d (.str cr)))):m2 aG (mV 0) (m2 aU a (mC (.int 26))) e=.ok (.str (S' [eJ c])):=av (x:=.str cr) (by unfold mV;rw[h0]) (av h rfl (aE (by decide))) (vP _)
theorem IB{k n:Nat}(h:k<n)(h8:n<8):jQ (k:Int) k:=h9 (by omega) (by omega)
theorem size_of(c:Int):∃n:Nat,c/4%8=(n:Int)/\n<8:=by have z1:=fG (c/4) (b:=8) (by decide);have z2:=fT (c/4) (b:=8) (by decide);exact⟨(c/4%8).toNat,by omega,by omega⟩
theorem at_of(c:Int)(n:Nat):∃t:Nat,c/256%((n:Int)+1)=(t:Int)/\t<=n:=by have z3:=fG (c/256) (b:=(n:Int)+1) (by omega);have z4:=fT (c/256) (b:=(n:Int)+1) (by omega);exact⟨(c/256%((n:Int)+1)).toNat,by omega,by omega⟩
theorem FU(c:Int)(m:Nat)(hm:m<=8):ql [.d (.int c),.d (.int (m:Int))]=.ok (.d (aj ((words c m).map S'))):=by
 unfold ql AI;rw[sK];have hr8:okR 8:=sQ (by decide) (by decide);have hrm:okR (m:Int):=sQ (by omega) (by omega);have hl0:(PySem.Str.ofString "etaoinshrdlucmfwypvbgkqjxz")=cr:=rfl;have g4:∀r:Rs D,a6 ((0:Int)<4) r=r:=λr=>aE (by decide);have g26:∀r:Rs D,a6 ((0:Int)<26) r=r:=λr=>aE (by decide);have g8:∀r:Rs D,a6 ((0:Int)<8) r=r:=λr=>aE (by decide);by_cases c1:c%4<2
 ·have uk:ee (.n 2) dD (m2 aG (mV 0) (m2 aU (m2 bN (mV 1) (m2 aW (mC (.int 4)) (m2 bp (mC (.int 3)) (mV 2)))) (mC (.int 26)))) [ab (.d (.str cr)),ab (.d (.int c)),ae] (c8 0 8)=.ok ((eK c).map λx=>D.str (S' [x])):=by
   have:=nU (tg:=.n 2) (a:=m2 aG (mV 0) (m2 aU (m2 bN (mV 1) (m2 aW (mC (.int 4)) (m2 bp (mC (.int 3)) (mV 2)))) (mC (.int 26)))) (e:=[ab (.d (.str cr)),ab (.d (.int c)),ae]) (λk=>D.str (S' [eJ (c/(4+3*(k:Int)))])) 8 λk hk=>⟨[ab (.d (.str cr)),ab (.d (.int c)),ab (.d (.int k))],rfl,by
    simp only[m2,mV,kh,jA,mC,aN,qj];rw[aE (h9 (by decide) (by decide))];simp only[aN,lH,div_ii];rw[aE (g0 (by omega) (by omega))];simp only[aN,kK,g26,vP]⟩
   rw[show((8:Nat):Int)=8 from rfl]at this;rw[this];unfold eK;rw[dA];rfl
  have hp:je [ab 2,ab 0,ae] [ab (.d (.int c)),ab (.d (.int (m:Int))),ab (.d (.str cr)),ae,ae,ae,ae]=[ab (.d (.str cr)),ab (.d (.int c)),ae]:=rfl;have hj:=y3 (eK c) (by rw[jb];omega);have hw8:(c8 0 8).length<=16777216:=by rw[show(8:Int)=((8:Nat):Int)from rfl,jS];omega
  have hwm:(c8 0 (m:Int)).length<=16777216:=by rw[jS];omega
  by_cases c2:c%4=0
  ·have hc:ee (.n 1) dD (fL gA (mV 0) ae (ab (m2 aW (mV 1) (mC (.int 1))))) [ab (.d (.str (S' (eK c)))),ae] (c8 0 (m:Int))=.ok ((words c m).map λl=>D.str (S' l)):=by
    rw[nU (λk=>D.str (S' ((eK c).take (k+1)))) m λk hk=>⟨[ab (.d (.str (S' (eK c)))),ab (.d (.int k))],rfl,by
     simp only[fL,mV,kh,jX,m2,jA,mC,aN,lH,k7,v9];rw[aE (by rw[kZ,jb];omega),show(k:Int)+1=((k+1:Nat):Int)by omega,Bk]⟩]
    unfold words;rw[aw c1,aw c2,dA];rfl
   have hp2:∀z,je [ab 3,ae] [ab (.d (.int c)),ab (.d (.int (m:Int))),ab (.d (.str cr)),ab z,ae,ae,ae]=[ab z,ae]:=λ_=>rfl;have hmod:cB (m2 dR (m2 aU (mV 0) (mC (.int 4))) (mC (.int 2))) [ab (.d (.int c)),ab (.d (.int (m:Int))),ab (.d (.str cr)),ae,ae,ae,ae]=.ok true:=cY ((av (av rfl rfl (g4 _)) rfl rfl).trans (by rw[rH,cM c1]))
   have yb:cB (m2 et (m2 aU (mV 0) (mC (.int 4))) (mC (.int 0))) [ab (.d (.int c)),ab (.d (.int (m:Int))),ab (.d (.str cr)),ab (.d (.str (S' (eK c)))),ae,ae,ae]=.ok true:=cY ((av (av rfl rfl (g4 _)) rfl rfl).trans (by rw[sS,cM c2]))
   show Rs.bind _ jh=_;rw[aR (e':=[ab (.d (.int c)),ab (.d (.int (m:Int))),ab (.d (.str cr)),ae,ae,ae,ae]) (cu rfl)];refine(congrArg (λr=>Rs.bind r jh) (mf (w:=.d (aj ((words c m).map S'))) ?_)).trans rfl;rw[fZ hmod,aR (e':=[ab (.d (.int c)),ab (.d (.int (m:Int))),ab (.d (.str cr)),ab (.d (.str (S' (eK c)))),ae,ae,ae]) (cu (av rfl (iy (ik rfl hr8) hw8 uk) hj))];rw[mf ((fZ yb).trans (fN (cG (iy (ik rfl hrm) hwm hc))))];rw[aj,dA];rfl
  ·have hc:ee (.n 1) dD (fL gA (mV 0) (ab (m2 iS (mC (.int 7)) (mV 1))) ae) [ab (.d (.str (S' (eK c)))),ae] (c8 0 (m:Int))=.ok ((words c m).map λl=>D.str (S' l)):=by
    rw[nU (λk=>D.str (S' ((eK c).drop (7-k)))) m λk hk=>⟨[ab (.d (.str (S' (eK c)))),ab (.d (.int k))],rfl,by
     simp only[fL,mV,kh,jX,m2,mC,jA,aN,KO,k7,v9];rw[aE (by rw[kZ,jb];omega),show(7:Int)-(k:Int)=((7-k:Nat):Int)by omega,B9]⟩]
    unfold words;rw[aw c1,ay c2,dA];rfl
   have hp2:∀z,je [ab 3,ae] [ab (.d (.int c)),ab (.d (.int (m:Int))),ab (.d (.str cr)),ab z,ae,ae,ae]=[ab z,ae]:=λ_=>rfl;have hmod:cB (m2 dR (m2 aU (mV 0) (mC (.int 4))) (mC (.int 2))) [ab (.d (.int c)),ab (.d (.int (m:Int))),ab (.d (.str cr)),ae,ae,ae,ae]=.ok true:=cY ((av (av rfl rfl (g4 _)) rfl rfl).trans (by rw[rH,cM c1]))
   have yb:cB (m2 et (m2 aU (mV 0) (mC (.int 4))) (mC (.int 0))) [ab (.d (.int c)),ab (.d (.int (m:Int))),ab (.d (.str cr)),ab (.d (.str (S' (eK c)))),ae,ae,ae]=.ok false:=cY ((av (av rfl rfl (g4 _)) rfl rfl).trans (by rw[sS,bx c2]))
   show Rs.bind _ jh=_;rw[aR (e':=[ab (.d (.int c)),ab (.d (.int (m:Int))),ab (.d (.str cr)),ae,ae,ae,ae]) (cu rfl)];refine(congrArg (λr=>Rs.bind r jh) (mf (w:=.d (aj ((words c m).map S'))) ?_)).trans rfl;rw[fZ hmod,aR (e':=[ab (.d (.int c)),ab (.d (.int (m:Int))),ab (.d (.str cr)),ab (.d (.str (S' (eK c)))),ae,ae,ae]) (cu (av rfl (iy (ik rfl hr8) hw8 uk) hj))];rw[aR (dr yb),fN (cG (iy (ik rfl hrm) hwm hc))];rw[aj,dA];rfl
 ·obtain⟨n,hn,hn8⟩:=size_of c;obtain⟨t,ht,ht8⟩:=at_of c n;have hrn:okR (n:Int):=sQ (by omega) (by omega);have d4:j4 4:=g0 (by decide) (by decide);have d32:j4 32:=g0 (by decide) (by decide);have Lz:j4 256:=g0 (by decide) (by decide);have d7:j4 7:=g0 (by decide) (by decide);have LA:ee (.n 2) dD (m2 aG (mV 0) (m2 aU (m2 aW (m2 aW (m2 bN (mV 1) (mC (.int 32))) (m2 bp (mC (.int 5)) (mV 2))) (m2 bp (mV 2) (mV 2))) (mC (.int 26)))) [ab (.d (.str cr)),ab (.d (.int c)),ae] (c8 0 (n:Int))=.ok ((eZ c n).map λx=>D.str (S' [x])):=by
   rw[nU (λk=>D.str (S' [eJ (c/32+5*(k:Int)+(k:Int)*(k:Int))])) n λk hk=>⟨[ab (.d (.str cr)),ab (.d (.int c)),ab (.d (.int k))],rfl,by
    exact st2 _ _ _ (st1 c k d32 (h9 (by decide) (by decide)) (IB hk hn8)) rfl⟩]
   unfold eZ;rw[dA];rfl
  have hp:je [ab 2,ab 0,ae] [ab (.d (.int c)),ab (.d (.int (m:Int))),ab (.d (.str cr)),ae,ab (.d (.int (n:Int))),ae,ae]=[ab (.d (.str cr)),ab (.d (.int c)),ae]:=rfl;have hj:=y3 (eZ c n) (by rw[na];omega);have hwn:(c8 0 (n:Int)).length<=16777216:=by rw[jS];omega
  have hwm:(c8 0 (m:Int)).length<=16777216:=by rw[jS];omega
  have hc:ee (.n 4) dD (m2 aW (m2 aW (fL gA (mV 0) ae (ab (mV 2))) (m2 aG (mV 1) (m2 aU (m2 aW (m2 bN (mV 3) (mC (.int 7))) (m2 bp (mC (.int 5)) (mV 4))) (mC (.int 26))))) (fL gA (mV 0) (ab (mV 2)) ae))
   [ab (.d (.str (S' (eZ c n)))),ab (.d (.str cr)),ab (.d (.int (t:Int))),ab (.d (.int c)),ae] (c8 0 (m:Int))=.ok ((words c m).map λl=>D.str (S' l)):=by
   rw[nU (λk=>D.str (S' ((eZ c n).take t++[eJ (c/7+5*(k:Int))]++(eZ c n).drop t))) m λk hk=>⟨[ab (.d (.str (S' (eZ c n)))),ab (.d (.str cr)),ab (.d (.int (t:Int))),ab (.d (.int c)),ab (.d (.int k))],rfl,by
    have gS:∀r:Rs D,a6 ((S' (eZ c n)).length<=16777216) r=r:=λr=>aE (by rw[kZ,na];omega);have gM:∀r:Rs D,a6 (jQ 5 (k:Int)) r=r:=λr=>aE (h9 (by decide) (by decide));simp only[m2,fL,mV,kh,jX,jA,aN,k7,v9,Bk,gS,mC,div_ii,aE d7,qj,gM,lH,kK,g26,vP,yA,B9];rw[aE (by rw[kZ,kZ,cO,na];simp;omega)];simp only[Km,aN,yA];rw[aE (by rw[kZ,kZ,bB,cO,fg,na];simp;omega)]⟩]
   unfold words;rw[ay c1,dA,hn,ht];rfl
  have hmod:cB (m2 dR (m2 aU (mV 0) (mC (.int 4))) (mC (.int 2))) [ab (.d (.int c)),ab (.d (.int (m:Int))),ab (.d (.str cr)),ae,ae,ae,ae]=.ok false:=cY ((av (av rfl rfl (g4 _)) rfl rfl).trans (by rw[rH,bx c1]))
  show Rs.bind _ jh=_;rw[aR (e':=[ab (.d (.int c)),ab (.d (.int (m:Int))),ab (.d (.str cr)),ae,ae,ae,ae]) (cu rfl)];rw[aR (dr hmod)];rw[aR (e':=[ab (.d (.int c)),ab (.d (.int (m:Int))),ab (.d (.str cr)),ae,ab (.d (.int (n:Int))),ae,ae]) (cu (d:=.int (n:Int)) ((av (av rfl rfl (aE d4)) rfl (g8 _)).trans (by rw[hn])))];rw[aR (e':=[ab (.d (.int c)),ab (.d (.int (m:Int))),ab (.d (.str cr)),ae,ab (.d (.int (n:Int))),ab (.d (.str (S' (eZ c n)))),ae]) (cu (av rfl (iy (ik rfl hrn) hwn LA) hj))];rw[aR (e':=[ab (.d (.int c)),ab (.d (.int (m:Int))),ab (.d (.str cr)),ae,ab (.d (.int (n:Int))),ab (.d (.str (S' (eZ c n)))),ab (.d (.int (t:Int)))]) (cu (d:=.int (t:Int)) ((av (av rfl rfl (aE Lz)) (av rfl rfl rfl) (aE (by omega))).trans (by rw[ht])))];rw[fN (cG (iy (ik rfl hrm) hwm hc))];simp only[aN,Fw,aj,dA];rfl
end Mr
namespace Mr
open PySem Mi
open My (words oO oJ dC)
theorem nC(n:Nat)(h:n<=8):okR (n:Int):=sQ (by omega) (by omega)
theorem K8{ls:List Int}{z:Int}(h0:0<=z)(h1:z<ls.length)(hl:ls.length<=100):jZ (ls.map D.int) z=.ok (.int (ls.getD z.toNat 0),(ls.eraseIdx z.toNat).map D.int):=by
 have h3:z.toNat<ls.length:=by omega
 unfold jZ;rw[aE (by omega),show dB (ls.map D.int).length z=ab z.toNat by
  unfold dB;rw[aw h0,aw (by rw[aS];exact h1)],mh,aN,dw,dm h3,dH,dm h3]
 show Rs.ok (D.int ls[z.toNat],(ls.map D.int).eraseIdx z.toNat)=_;have:∀(l:List Int) (k:Nat),(l.map D.int).eraseIdx k=(l.eraseIdx k).map D.int:=by
  intro l
  induction l with
  |nil=>intro k;rfl
  |cons a r ih=>
   intro k;cases k with
   |zero=>rfl
   |succ k=>rw[cD,DX,ih k];rfl
 rw[this];rfl
theorem nq(e:Mi.Env):mN cH [] e=.ok (.lst []):=by show a6 (([]:List D).length<=16777216) (Rs.ok (D.lst []))=_;exact aE (by simp)
end Mr
namespace Mr
open PySem Mi
theorem JG{ls:List Int}{z v:Int}(h0:0<=z)(h1:z<ls.length):∃j,dB (ls.map D.int).length z=ab j/\(ls.map D.int).set j (.int v)=(ls.set j v).map D.int:=by
 refine⟨z.toNat,?_,?_⟩
 ·unfold dB;rw[aw h0,aw (by rw[aS];exact h1)]
 ·rw[List.map_set]
theorem sM{i:Nat}{k a:E}{e:Mi.Env}{ls:List Int}{z v:Int}(ha:a e=.ok (.int v))(hk:k e=.ok (.int z))(hg:getL e i=.ok (ls.map D.int))(h0:0<=z)(h1:z<ls.length):∃ls':List Int,ls'.length=ls.length/\o0 i k a e=.ok (.nx (putL e i (ls'.map D.int))):=by obtain⟨j,hj,hs⟩:=JG (v:=v) h0 h1;refine⟨ls.set j v,by simp,?_⟩;unfold o0;rw[ha,aN,hk,aN,k7,aN,hg,aN,hj,mh,aN,hs]
abbrev Ix:=Nat×Nat
def bv(p q:Ix):Prop:=p.1<q.1\/(p.1=q.1/\p.2<q.2)
def nth(ac:List Str)(i:Nat):Str:=ac.getD i d8
def arrOf(ac:List Str)(p:Ix):Ar:=(nth ac p.1,nth ac p.2)
structure qZ(ac:List Str)(A:List Ix)(r:Nat->Int):Prop where
 nd:ac.Nodup
 pos:1<=ac.length
 le:ac.length<=8
 sD:A.Pairwise bv
 all:∀p∈A,p.1<ac.length/\p.2<ac.length/\r p.1<r p.2
 al:A.length<=64
theorem CY{ac:List Str}{i:Nat}(h:i<ac.length):nth ac i∈ac:=by unfold nth;rw[dH,dm h];exact qz h
theorem lD{ac:List Str}(nd:ac.Nodup){i j:Nat}(hi:i<ac.length)(hj:j<ac.length)(h:nth ac i=nth ac j):i=j:=by unfold nth at h;rw[dH,dm hi,dH,dm hj]at h;exact(ki nd).mp h
def good(m:Nat)(r:Nat->Int)(A:List Ix)(j k:Nat):Prop:=A.Pairwise bv/\(∀p∈A,p.1<m/\p.2<m/\r p.1<r p.2/\(p.1<j\/(p.1=j/\p.2<k)))/\A.length<=8*j+k
theorem good.skip{m:Nat}{r:Nat->Int}{A:List Ix}{j k:Nat}(h:good m r A j k):good m r A j (k+1):=⟨h.1,λp hp=>⟨(h.2.1 p hp).1,(h.2.1 p hp).2.1,(h.2.1 p hp).2.2.1,by have:=(h.2.1 p hp).2.2.2;omega⟩,by have:=h.2.2;omega⟩
theorem good.add{m:Nat}{r:Nat->Int}{A:List Ix}{j k:Nat}(h:good m r A j k)(hj:j<m)(hk:k<m)(hr:r j<r k):good m r (A++[(j,k)]) j (k+1):=by
 refine⟨List.pairwise_append.mpr ⟨h.1,xb _ _,λp hp q hq=>?_⟩,λp hp=>?_,by rw[bB];have:=h.2.2;simp;omega⟩
 ·have:q=(j,k):=by simpa using hq
  subst this;have:=(h.2.1 p hp).2.2.2;exact this
 ·rcases dZ.mp hp with hp|hp
  ·exact(h.skip.2.1 p hp)
  ·have:p=(j,k):=by simpa using hp
   subst this;exact⟨hj,hk,hr,.inr ⟨rfl,by omega⟩⟩
theorem good.next{m:Nat}{r:Nat->Int}{A:List Ix}{j k:Nat}(h:good m r A j k)(hk:k<=8):good m r A (j+1) 0:=⟨h.1,λp hp=>⟨(h.2.1 p hp).1,(h.2.1 p hp).2.1,(h.2.1 p hp).2.2.1,by have:=(h.2.1 p hp).2.2.2;omega⟩,by have:=h.2.2;omega⟩
def fU(ac:List Str)(A:List Ix):D:=.lst ((A.map (arrOf ac)).map pairD)
theorem Ig{a:Int}(h0:0<=a)(h1:a<8):-(2 ^ 64)<a/\a<2 ^ 64/\0<=a*(a-1)/2/\a*(a-1)/2<=21:=by
 have:a=0\/a=1\/a=2\/a=3\/a=4\/a=5\/a=6\/a=7:=by omega
 rcases this with h|h|h|h|h|h|h|h<;>subst h<;>decide
open My (words oO oJ)
theorem me(ns:List Int)(k:Nat)(hk:k<=100):∃c:Int,d9 [.d (.lst (ns.map D.int)),.d (.int (k:Int))]=.ok (.d (.int c)):=by
 unfold d9 uH;rw[jY];have hl:mN da [mV 0] [ab (.d (.lst (ns.map D.int))),ab (.d (.int (k:Int))),ae]=.ok (.int (ns.length:Int)):=by show Rs.ok (D.int ((ns.map D.int).length:Int))=_;rw[aS]
 have c1:cB (m2 dR (mV 1) (mN da [(mV 0)])) [ab (.d (.lst (ns.map D.int))),ab (.d (.int (k:Int))),ae]=.ok (decide ((k:Int)<(ns.length:Int))):=cY (av rfl hl rfl);by_cases h:(k:Int)<(ns.length:Int)
 ·rw[cM h]at c1;exact⟨_,by
   rw[show([ab (W.d (.lst (ns.map D.int))),ab (.d (.int (k:Int)))]++dE (3-2) ae)=[ab (.d (.lst (ns.map D.int))),ab (.d (.int (k:Int))),ae]from rfl];rw[mf ((fZ c1).trans (fN (cG (av rfl rfl (pi (by omega) h)))))];rfl⟩
 ·rw[bx h]at c1;have s1:bE 2 (m2 aW (mC (.int 30011)) (m2 bp (m2 bp (mC (.int 709)) (mV 1)) (mV 1))) [ab (.d (.lst (ns.map D.int))),ab (.d (.int (k:Int))),ae]=.ok (.nx [ab (.d (.lst (ns.map D.int))),ab (.d (.int (k:Int))),ab (.d (.int (30011+709*(k:Int)*(k:Int))))]):=
   cu (av rfl (av (av rfl rfl (aE (h9 (by decide) (by decide)))) rfl (aE (nI (by omega) (by omega)))) rfl)
  have hl2:mN da [mV 0] [ab (.d (.lst (ns.map D.int))),ab (.d (.int (k:Int))),ab (.d (.int (30011+709*(k:Int)*(k:Int))))]=.ok (.int (ns.length:Int)):=by show Rs.ok (D.int ((ns.map D.int).length:Int))=_;rw[aS]
  have c2:cB (m2 uX (mN da [(mV 0)]) (mC (.int 0))) [ab (.d (.lst (ns.map D.int))),ab (.d (.int (k:Int))),ab (.d (.int (30011+709*(k:Int)*(k:Int))))]=.ok (decide ((0:Int)<(ns.length:Int))):=cY (av hl2 rfl rfl);by_cases h0:(0:Int)<(ns.length:Int)
  ·rw[cM h0]at c2;refine⟨_,by
    rw[show([ab (W.d (.lst (ns.map D.int))),ab (.d (.int (k:Int)))]++dE (3-2) ae)=[ab (.d (.lst (ns.map D.int))),ab (.d (.int (k:Int))),ae]from rfl];rw[aR ((dr c1).trans rfl),aR s1,aR ((fZ c2).trans (cu (av rfl (av (av (av rfl rfl (pi (by decide) h0)) rfl (aE (by decide))) (av (av (av rfl rfl (aE (h9 (by omega) (by omega)))) (av rfl rfl (aE (h9 (by decide) (by decide)))) rfl) rfl rfl) (aE (h9 ?_ ?_))) rfl)))];rfl⟩
   ·have:=fG (ns.getD (0:Int).toNat 0) (b:=99991) (by decide);omega
   ·have:=fT (ns.getD (0:Int).toNat 0) (b:=99991) (by decide);omega
  ·rw[bx h0]at c2;exact⟨_,by
    rw[show([ab (W.d (.lst (ns.map D.int))),ab (.d (.int (k:Int)))]++dE (3-2) ae)=[ab (.d (.lst (ns.map D.int))),ab (.d (.int (k:Int))),ae]from rfl];rw[aR ((dr c1).trans rfl),aR s1,aR ((dr c2).trans rfl)];rfl⟩
theorem Ho(d:Int)(m:Nat)(hm:m<=8):∃rs:List Int,pj [.d (.int d),.d (.int (m:Int))]=.ok (.d (.lst (rs.map D.int)))/\rs.length=m:=by
 unfold pj Du;rw[sK];have hw:(c8 0 (m:Int)).length<=16777216:=by rw[jS];omega
 have hc:ee (.n 0) dD (mV 0) [ae] (c8 0 (m:Int))=.ok ((bn m).map λ(k:Nat)=>D.int (k:Int)):=nU (λk=>D.int (k:Int)) m λk _=>⟨[ab (.d (.int k))],rfl,rfl⟩
 have hr:((bn m).map λ(k:Nat)=>D.int (k:Int))=((bn m).map λ(k:Nat)=>(k:Int)).map D.int:=by rw[dA];rfl
 rw[hr]at hc;obtain⟨e',h1,h2⟩:=ip (tg:=.n 5) (body:=aP (bE 4 (m2 aU (m2 aW (m2 aW (m2 bp (mV 4) (mC (.int 48271))) (m2 bp (mC (.int 7)) (mV 5))) (mC (.int 1))) (mC (.int 2147483647)))) (r0 3 2 (m2 aU (m2 bN (mV 4) (mC (.int 32))) (mN da [(mV 2)]))))
  (λi e=>∃(x:Int) (ls rs:List Int) (o:Option W),e=[ab (.d (.int d)),ab (.d (.int (m:Int))),ab (.d (.lst (ls.map D.int))),ab (.d (.lst (rs.map D.int))),ab (.d (.int x)),o]/\ls.length+i=m/\rs.length=i) (c8 0 (m:Int)) 0 (λi x e hx ⟨x0,ls,rs,o,he,hl,hrs⟩=>by
   obtain⟨hi,rfl⟩:=pM hx;subst he;rw[eV]at hl hrs;have hpos:(0:Int)<(ls.length:Int):=by omega
   obtain⟨y,hy⟩ : ∃y,y=(x0*48271+7*(i:Int)+1)%2147483647:=⟨_,rfl⟩;have z1:=fG (y/32) (b:=(ls.length:Int)) (by omega);have z2:=fT (y/32) hpos;refine⟨[ab (.d (.int d)),ab (.d (.int (m:Int))),ab (.d (.lst (ls.map D.int))),ab (.d (.lst (rs.map D.int))),ab (.d (.int x0)),ab (.d (.int (i:Int)))],[ab (.d (.int d)),ab (.d (.int (m:Int))),ab (.d (.lst ((ls.eraseIdx (y/32%(ls.length:Int)).toNat).map D.int))),ab (.d (.lst ((rs++[ls.getD (y/32%(ls.length:Int)).toNat 0]).map D.int))),ab (.d (.int y)),ab (.d (.int (i:Int)))],rfl,?_,y,ls.eraseIdx (y/32%(ls.length:Int)).toNat,rs++[ls.getD (y/32%(ls.length:Int)).toNat 0],ab (.d (.int (i:Int))),rfl,?_,?_⟩
   ·have h0:m2 aU (m2 bN (mV 4) (mC (.int 32))) (mN da [(mV 2)]) [ab (.d (.int d)),ab (.d (.int (m:Int))),ab (.d (.lst (ls.map D.int))),ab (.d (.lst (rs.map D.int))),ab (.d (.int y)),ab (.d (.int (i:Int)))]=.ok (.int (y/32%(ls.length:Int))):=
     av (x:=.int (y/32)) (y:=.int (ls.length:Int)) (av rfl rfl (aE (g0 (by decide) (by decide)))) (by show Rs.ok (D.int ((ls.map D.int).length:Int))=_;rw[aS]) (aE hpos)
    rw[aR (e':=[ab (.d (.int d)),ab (.d (.int (m:Int))),ab (.d (.lst (ls.map D.int))),ab (.d (.lst (rs.map D.int))),ab (.d (.int y)),ab (.d (.int (i:Int)))])]
    ·unfold r0;rw[h0];simp only[aN,k7,getL,jA,kh,K8 z1 z2 (by omega),putL,D8,D9];rw[aE (by rw[aS];omega),fh];rfl
    ·rw[hy];exact cu (av (av (av (av rfl rfl (aE (nI (by decide) (by decide)))) (av rfl rfl (aE (h9 (by decide) (by decide)))) rfl) rfl rfl) rfl (aE (by decide)))
   ·rw[List.length_eraseIdx_of_lt (by omega)];omega
   ·rw[bB,hrs];simp) [ab (.d (.int d)),ab (.d (.int (m:Int))),ab (.d (.lst (((bn m).map λ(k:Nat)=>(k:Int)).map D.int))),ab (.d (.lst [])),ab (.d (.int (d%2147483647))),ae] ⟨_,_,[],ae,rfl,by simp,rfl⟩
 obtain⟨d2,ls,rs,o,he,hl,hrs⟩:=h2;subst he;rw[jS,eV]at hl hrs;refine⟨rs,?_,hrs⟩;rw[aR (e':=[ab (.d (.int d)),ab (.d (.int (m:Int))),ab (.d (.lst (((bn m).map λ(k:Nat)=>(k:Int)).map D.int))),ae,ae,ae]) (cu (iy (ik rfl (nC m hm)) hw hc))];rw[aR (e':=[ab (.d (.int d)),ab (.d (.int (m:Int))),ab (.d (.lst (((bn m).map λ(k:Nat)=>(k:Int)).map D.int))),ab (.d (.lst [])),ae,ae]) (cu (nq _))];rw[aR (e':=[ab (.d (.int d)),ab (.d (.int (m:Int))),ab (.d (.lst (((bn m).map λ(k:Nat)=>(k:Int)).map D.int))),ab (.d (.lst [])),ab (.d (.int (d%2147483647))),ae]) (cu (av rfl rfl (aE (by decide))))];rw[aR ((gG (ik rfl (nC m hm))).trans h1)];rfl
theorem Kb(ns:List Int){e:Mi.Env}{j k:Nat}(hj:j<8)(hk:k<8)(e0:mV 0 e=.ok (.lst (ns.map D.int)))(e7:mV 7 e=.ok (.int (j:Int)))(e8:mV 8 e=.ok (.int (k:Int))):∃c:Int,(aX d9 [(wD (mV 0)),(wD (m2 aW (m2 aW (mC (.int 4)) (m2 bN (m2 bp (mN gY [(mV 7),(mV 8)]) (m2 iS (mN gY [(mV 7),(mV 8)]) (mC (.int 1)))) (mC (.int 2)))) (mN lc [(mV 7),(mV 8)])))]) e=.ok (.int c):=by have hx:mN gY [(mV 7),(mV 8)] e=.ok (.int (max (j:Int) (k:Int))):=(wB e7 e8).trans (GI _ _);have hn:mN lc [(mV 7),(mV 8)] e=.ok (.int (min (j:Int) (k:Int))):=(wB e7 e8).trans (J4 _ _);obtain⟨t1,t2,t3,t4⟩:=Ig (a:=max (j:Int) (k:Int)) (by omega) (by omega);obtain⟨z,hz⟩ : ∃z:Nat,4+max (j:Int) (k:Int)*(max (j:Int) (k:Int)-1)/2+min (j:Int) (k:Int)=(z:Int):=⟨(4+max (j:Int) (k:Int)*(max (j:Int) (k:Int)-1)/2+min (j:Int) (k:Int)).toNat,by omega⟩;obtain⟨c,hc⟩:=me ns z (by omega);refine⟨c,call2 (cG e0) (cG (av (av rfl (av (av hx (av hx rfl rfl) (aE (h9 t1 t2))) rfl (aE (g0 (by decide) (by decide)))) rfl) hn rfl)) ?_⟩;rw[hz];exact hc
theorem Hx(ns:List Int)(hi:Nat)(h0:1<=hi)(h2:hi<=8) :
 ∃ac A r,qo [.d (.lst (ns.map D.int)),.d (.int (hi:Int))]=.ok (.d (aJ ac (A.map (arrOf ac))))/\qZ ac A r/\(∃(c:Int) (m:Nat),m<=8/\ac=(words c m).map S')/\∃c0:Int,d9 [.d (.lst (ns.map D.int)),.d (.int 0)]=.ok (.d (.int c0))/\(ac.length:Int)=1+c0%(hi:Int):=by
 obtain⟨c0,hc0⟩:=me ns 0 (by decide);obtain⟨c1,hc1⟩:=me ns 1 (by decide);obtain⟨c2,hc2⟩:=me ns 2 (by decide);obtain⟨c3,hc3⟩:=me ns 3 (by decide);have hw:(0:Int)<(hi:Int):=by omega
 have q1:=fG c0 (b:=(hi:Int)) (by omega);have q2:=fT c0 hw;obtain⟨m,hm⟩ : ∃m:Nat,1+c0%(hi:Int)=(m:Int):=⟨(1+c0%(hi:Int)).toNat,by omega⟩;have hm1:1<=m:=by omega
 have hm2:m<=hi:=by omega
 have hm8:m<=8:=by omega
 obtain⟨ac,hnm⟩ : ∃ac,ac=(words c1 m).map S':=⟨_,rfl⟩;have hn:=FU c1 m hm8;rw[<- hnm]at hn;have hnl:ac.length=m:=by rw[hnm,aS];exact oO c1 m
 have hnd:ac.Nodup:=by rw[hnm];exact List.Pairwise.map _ (λa b h z=>h (Jp z)) (oJ _ _ hm8)
 obtain⟨rs,hr,hrl⟩:=Ho c2 m hm8;have q3:=fG c3 (b:=6) (by decide);have q4:=fT c3 (b:=6) (by decide);obtain⟨th,hth⟩ : ∃th,aG (.lst ([4,1,2,3,2,3].map D.int)) (.int (c3%6))=.ok (.int th):=⟨_,pi q3 (by simp;omega)⟩;have hrx:∀i:Nat,i<m->aG (.lst (rs.map D.int)) (.int (i:Int))=.ok (.int (rs.getD i 0)):=λi hi=>by
  have:=pi (cs:=rs) (i:=(i:Int)) (by omega) (by omega)
  rwa [jI]at this
 have hnx:∀i:Nat,i<m->aG (aj ac) (.int (i:Int))=.ok (.str (nth ac i)):=λi hi=>by
  have:=z9 (cs:=ac) (i:=(i:Int)) (by omega) (by omega)
  rwa [jI]at this
 have inner:∀(j:Nat) (A:List Ix) (o8 o9:Option W),j<m->good m (λi=>rs.getD i 0) A j 0->∃(A':List Ix) (p8 p9:Option W),gf (.n 8) (aP (bE 9 (aX d9 [(wD (mV 0)),(wD (m2 aW (m2 aW (mC (.int 4)) (m2 bN (m2 bp (mN gY [(mV 7),(mV 8)]) (m2 iS (mN gY [(mV 7),(mV 8)]) (mC (.int 1)))) (mC (.int 2)))) (mN lc [(mV 7),(mV 8)])))])) (bA (fb (cB (m2 dR (m2 aG (mV 4) (mV 7)) (m2 aG (mV 4) (mV 8)))) (cB (m2 dR (m2 aU (m2 bN (m2 aU (m2 bp (mV 9) (mC (.int 48271))) (mC (.int 2147483647))) (mC (.int 16))) (mC (.int 4))) (mV 5)))) (fV 6 (mN dTup [(m2 aG (mV 3) (mV 7)),(m2 aG (mV 3) (mV 8))])) cn)) (c8 0 (m:Int)) [ab (.d (.lst (ns.map D.int))),ab (.d (.int (hi:Int))),ab (.d (.int (m:Int))),ab (.d (aj ac)),ab (.d (.lst (rs.map D.int))),ab (.d (.int th)),ab (.d (fU ac A)),ab (.d (.int (j:Int))),o8,o9]=.ok (.nx [ab (.d (.lst (ns.map D.int))),ab (.d (.int (hi:Int))),ab (.d (.int (m:Int))),ab (.d (aj ac)),ab (.d (.lst (rs.map D.int))),ab (.d (.int th)),ab (.d (fU ac A')),ab (.d (.int (j:Int))),p8,p9])/\good m (λi=>rs.getD i 0) A' (j+1) 0:=by
  intro j A o8 o9 hj hg;obtain⟨e',f1,A',p8,p9,he,hg'⟩:=ip (tg:=.n 8) (body:=(aP (bE 9 (aX d9 [(wD (mV 0)),(wD (m2 aW (m2 aW (mC (.int 4)) (m2 bN (m2 bp (mN gY [(mV 7),(mV 8)]) (m2 iS (mN gY [(mV 7),(mV 8)]) (mC (.int 1)))) (mC (.int 2)))) (mN lc [(mV 7),(mV 8)])))])) (bA (fb (cB (m2 dR (m2 aG (mV 4) (mV 7)) (m2 aG (mV 4) (mV 8)))) (cB (m2 dR (m2 aU (m2 bN (m2 aU (m2 bp (mV 9) (mC (.int 48271))) (mC (.int 2147483647))) (mC (.int 16))) (mC (.int 4))) (mV 5)))) (fV 6 (mN dTup [(m2 aG (mV 3) (mV 7)),(m2 aG (mV 3) (mV 8))])) cn))) (λk e=>∃(A:List Ix) (o8 o9:Option W),e=[ab (.d (.lst (ns.map D.int))),ab (.d (.int (hi:Int))),ab (.d (.int (m:Int))),ab (.d (aj ac)),ab (.d (.lst (rs.map D.int))),ab (.d (.int th)),ab (.d (fU ac A)),ab (.d (.int (j:Int))),o8,o9]/\good m (λi=>rs.getD i 0) A j k)
   (c8 0 (m:Int)) 0 (λk x e hx ⟨A,o8,o9,he,hg⟩=>by
    obtain⟨hk,rfl⟩:=pM hx;subst he;rw[eV]at hg;obtain⟨c,hc⟩:=Kb ns (e:=[ab (.d (.lst (ns.map D.int))),ab (.d (.int (hi:Int))),ab (.d (.int (m:Int))),ab (.d (aj ac)),ab (.d (.lst (rs.map D.int))),ab (.d (.int th)),ab (.d (fU ac A)),ab (.d (.int (j:Int))),ab (.d (.int (k:Int))),o9]) (j:=j) (k:=k) (by omega) (by omega) rfl rfl rfl;have c1:cB (m2 dR (m2 aG (mV 4) (mV 7)) (m2 aG (mV 4) (mV 8))) [ab (.d (.lst (ns.map D.int))),ab (.d (.int (hi:Int))),ab (.d (.int (m:Int))),ab (.d (aj ac)),ab (.d (.lst (rs.map D.int))),ab (.d (.int th)),ab (.d (fU ac A)),ab (.d (.int (j:Int))),ab (.d (.int (k:Int))),ab (.d (.int c))]=.ok (decide (rs.getD j 0<rs.getD k 0)):=cY (av (av rfl rfl (hrx j hj)) (av rfl rfl (hrx k hk)) rfl);have c2:cB (m2 dR (m2 aU (m2 bN (m2 aU (m2 bp (mV 9) (mC (.int 48271))) (mC (.int 2147483647))) (mC (.int 16))) (mC (.int 4))) (mV 5)) [ab (.d (.lst (ns.map D.int))),ab (.d (.int (hi:Int))),ab (.d (.int (m:Int))),ab (.d (aj ac)),ab (.d (.lst (rs.map D.int))),ab (.d (.int th)),ab (.d (fU ac A)),ab (.d (.int (j:Int))),ab (.d (.int (k:Int))),ab (.d (.int c))]=.ok (decide (c*48271%2147483647/16%4<th)):=cY (av (av (av (av (av rfl rfl (aE (nI (by decide) (by decide)))) rfl (aE (by decide))) rfl (aE (g0 (by decide) (by decide)))) rfl (aE (by decide))) rfl rfl);by_cases hb:rs.getD j 0<rs.getD k 0/\c*48271%2147483647/16%4<th
    ·refine⟨[ab (.d (.lst (ns.map D.int))),ab (.d (.int (hi:Int))),ab (.d (.int (m:Int))),ab (.d (aj ac)),ab (.d (.lst (rs.map D.int))),ab (.d (.int th)),ab (.d (fU ac A)),ab (.d (.int (j:Int))),ab (.d (.int (k:Int))),o9],[ab (.d (.lst (ns.map D.int))),ab (.d (.int (hi:Int))),ab (.d (.int (m:Int))),ab (.d (aj ac)),ab (.d (.lst (rs.map D.int))),ab (.d (.int th)),ab (.d (fU ac (A++[(j,k)]))),ab (.d (.int (j:Int))),ab (.d (.int (k:Int))),ab (.d (.int c))],rfl,?_,A++[(j,k)],ab (.d (.int (k:Int))),ab (.d (.int c)),rfl,by rw[eV];exact hg.add hj hk hb.1⟩;rw[aR (e':=[ab (.d (.lst (ns.map D.int))),ab (.d (.int (hi:Int))),ab (.d (.int (m:Int))),ab (.d (aj ac)),ab (.d (.lst (rs.map D.int))),ab (.d (.int th)),ab (.d (fU ac A)),ab (.d (.int (j:Int))),ab (.d (.int (k:Int))),ab (.d (.int c))]) (cu hc)];rw[fZ (by unfold fb;rw[c1,aN,cM hb.1,aw rfl,c2,cM hb.2])];rw[pI (d:=pairD (nth ac j,nth ac k)) (ds:=(A.map (arrOf ac)).map pairD) (nF (av rfl rfl (hnx j hj)) (av rfl rfl (hnx k hk))) rfl (by rw[aS,aS];have:=hg.2.2;omega)];show Rs.ok (Out.nx [_,_,_,_,_,_,ab (W.d (D.lst ((A.map (arrOf ac)).map pairD++[pairD (nth ac j,nth ac k)]))),_,_,_])=_;rw[fU,fh,fh];rfl
    ·refine⟨[ab (.d (.lst (ns.map D.int))),ab (.d (.int (hi:Int))),ab (.d (.int (m:Int))),ab (.d (aj ac)),ab (.d (.lst (rs.map D.int))),ab (.d (.int th)),ab (.d (fU ac A)),ab (.d (.int (j:Int))),ab (.d (.int (k:Int))),o9],[ab (.d (.lst (ns.map D.int))),ab (.d (.int (hi:Int))),ab (.d (.int (m:Int))),ab (.d (aj ac)),ab (.d (.lst (rs.map D.int))),ab (.d (.int th)),ab (.d (fU ac A)),ab (.d (.int (j:Int))),ab (.d (.int (k:Int))),ab (.d (.int c))],rfl,?_,A,ab (.d (.int (k:Int))),ab (.d (.int c)),rfl,by rw[eV];exact hg.skip⟩;rw[aR (e':=[ab (.d (.lst (ns.map D.int))),ab (.d (.int (hi:Int))),ab (.d (.int (m:Int))),ab (.d (aj ac)),ab (.d (.lst (rs.map D.int))),ab (.d (.int th)),ab (.d (fU ac A)),ab (.d (.int (j:Int))),ab (.d (.int (k:Int))),ab (.d (.int c))]) (cu hc)];rw[dr (by
      unfold fb;rw[c1,aN];by_cases hb1:rs.getD j 0<rs.getD k 0
      ·rw[cM hb1,aw rfl,c2,bx λz=>hb ⟨hb1,z⟩]
      ·rw[bx hb1,ay cW])]
     rfl) _ ⟨A,o8,o9,rfl,hg⟩
  subst he;rw[jS,eV]at hg';exact⟨A',p8,p9,f1,hg'.next hm8⟩
 obtain⟨e',f1,A,p7,p8,p9,he,hg⟩:=ip (tg:=.n 7) (body:=(dM (f8 (mV 2)) (.n 8) (aP (bE 9 (aX d9 [(wD (mV 0)),(wD (m2 aW (m2 aW (mC (.int 4)) (m2 bN (m2 bp (mN gY [(mV 7),(mV 8)]) (m2 iS (mN gY [(mV 7),(mV 8)]) (mC (.int 1)))) (mC (.int 2)))) (mN lc [(mV 7),(mV 8)])))])) (bA (fb (cB (m2 dR (m2 aG (mV 4) (mV 7)) (m2 aG (mV 4) (mV 8)))) (cB (m2 dR (m2 aU (m2 bN (m2 aU (m2 bp (mV 9) (mC (.int 48271))) (mC (.int 2147483647))) (mC (.int 16))) (mC (.int 4))) (mV 5)))) (fV 6 (mN dTup [(m2 aG (mV 3) (mV 7)),(m2 aG (mV 3) (mV 8))])) cn)))) (λj e=>∃(A:List Ix) (o7 o8 o9:Option W),e=[ab (.d (.lst (ns.map D.int))),ab (.d (.int (hi:Int))),ab (.d (.int (m:Int))),ab (.d (aj ac)),ab (.d (.lst (rs.map D.int))),ab (.d (.int th)),ab (.d (fU ac A)),o7,o8,o9]/\good m (λi=>rs.getD i 0) A j 0)
  (c8 0 (m:Int)) 0 (λj x e hx ⟨A,o7,o8,o9,he,hg⟩=>by
   obtain⟨hj,rfl⟩:=pM hx;subst he;rw[eV]at hg;obtain⟨A',p8,p9,f1,hg'⟩:=inner j A o8 o9 hj hg;exact⟨_,_,rfl,(gG (ik rfl (nC m hm8))).trans f1,A',_,p8,p9,rfl,by rw[eV];exact hg'⟩)
  [ab (.d (.lst (ns.map D.int))),ab (.d (.int (hi:Int))),ab (.d (.int (m:Int))),ab (.d (aj ac)),ab (.d (.lst (rs.map D.int))),ab (.d (.int th)),ab (.d (.lst [])),ae,ae,ae] ⟨[],ae,ae,ae,rfl,qL,λp hp=>absurd hp (by simp),fi _⟩
 subst he;rw[jS,eV]at hg;refine⟨ac,A,λi=>rs.getD i 0,?_,⟨hnd,by omega,by omega,hg.1,λp hp=>?_,by have:=hg.2.2;omega⟩,⟨c1,m,hm8,hnm⟩,c0,hc0,by rw[hnl,<- hm]⟩
 ·unfold qo CF;rw[jY];rw[show((0:Nat):Int)=0 from rfl]at hc0;rw[show((1:Nat):Int)=1 from rfl]at hc1;rw[show((2:Nat):Int)=2 from rfl]at hc2;rw[show((3:Nat):Int)=3 from rfl]at hc3;rw[aR (e':=[ab (.d (.lst (ns.map D.int))),ab (.d (.int (hi:Int))),ab (.d (.int (m:Int))),ae,ae,ae,ae,ae,ae,ae]) (cu (d:=.int (m:Int)) ((av rfl (av (call2 rfl rfl hc0) rfl (aE hw)) rfl).trans (by rw[lH,hm])))];rw[aR (e':=[ab (.d (.lst (ns.map D.int))),ab (.d (.int (hi:Int))),ab (.d (.int (m:Int))),ab (.d (aj ac)),ae,ae,ae,ae,ae,ae]) (cu (call2 (cG (call2 rfl rfl hc1)) rfl hn))];rw[aR (e':=[ab (.d (.lst (ns.map D.int))),ab (.d (.int (hi:Int))),ab (.d (.int (m:Int))),ab (.d (aj ac)),ab (.d (.lst (rs.map D.int))),ae,ae,ae,ae,ae]) (cu (call2 (cG (call2 rfl rfl hc2)) rfl hr))];have hl6:mN cH [(mC (.int 4)),(mC (.int 1)),(mC (.int 2)),(mC (.int 3)),(mC (.int 2)),(mC (.int 3))] [ab (.d (.lst (ns.map D.int))),ab (.d (.int (hi:Int))),ab (.d (.int (m:Int))),ab (.d (aj ac)),ab (.d (.lst (rs.map D.int))),ae,ae,ae,ae,ae]=.ok (.lst ([4,1,2,3,2,3].map D.int)):=by
   show a6 (([4,1,2,3,2,3].map D.int).length<=16777216) _=_;exact aE (by simp)
  rw[aR (e':=[ab (.d (.lst (ns.map D.int))),ab (.d (.int (hi:Int))),ab (.d (.int (m:Int))),ab (.d (aj ac)),ab (.d (.lst (rs.map D.int))),ab (.d (.int th)),ae,ae,ae,ae]) (cu (av hl6 (av (call2 rfl rfl hc3) rfl (aE (by decide))) hth))];rw[aR (e':=[ab (.d (.lst (ns.map D.int))),ab (.d (.int (hi:Int))),ab (.d (.int (m:Int))),ab (.d (aj ac)),ab (.d (.lst (rs.map D.int))),ab (.d (.int th)),ab (.d (.lst [])),ae,ae,ae]) (cu (nq _))];rw[aR ((gG (ik rfl (nC m hm8))).trans f1)];rw[fN (cG (nF (x:=fA ac) (y:=mT (A.map (arrOf ac))) (kH (x:=aj ac) rfl) (kH (x:=fU ac A) rfl)))];rfl
 ·obtain⟨a,b,c,_⟩:=hg.2.1 p hp;exact⟨by omega,by omega,c⟩
end Mr
namespace Mr
open PySem Mi
theorem BD:∀{ds:List D} {k i:Nat} {x:D},(gW k ds)[i]? = ab x->∃d,ds[i]? = ab d/\x=.tup [.int ((k+i:Nat):Int),d]
 |[],_,_,_,h=>by simp[gW]at h
 |d::r,k,0,x,h=>by simp[gW]at h;exact⟨d,rfl,by rw[<- h];simp⟩
 |d::r,k,i+1,x,h=>by
  obtain⟨d',h1,h2⟩:=BD (ds:=r) (k:=k+1) (i:=i) (x:=x) (by simpa [gW]using h);exact⟨d',by simpa using h1,by rw[h2,show k+1+i=k+(i+1)by omega]⟩
theorem Fi(ns:List Int)(m:Nat)(h1:1<=m)(hm:m<=8):∃qs:List Int,pV [.d (.lst (ns.map D.int)),.d (.int (m:Int))]=.ok (.d (.lst (qs.map D.int))):=by
 obtain⟨c,hc⟩:=me ns 39 (by decide);rw[show((39:Nat):Int)=39 from rfl]at hc;unfold pV zj;rw[sK];obtain⟨xs,hxs⟩ : ∃xs:List Int,iu (ns.map D.int) (ab 40) (ab 63)=xs.map D.int:=⟨iu ns (ab 40) (ab 63),by unfold iu;simp only[aS,tM,xt]⟩;obtain⟨e',f1,ls,o3,o4,he,hls⟩:=ip (tg:=.t [3,4]) (body:=(bA (cB (m2 dR (m2 aW (mV 3) (mC (.int 1))) (mV 1)))
 (fV 2 (m2 aU (mV 4) (mC (.int 2147483647))))
 (o0 2 (m2 aU (mV 3) (mV 1)) (m2 aU (m2 aW (m2 bp (m2 aG (mV 2) (m2 aU (mV 3) (mV 1))) (mC (.int 69621))) (mV 4)) (mC (.int 2147483647))))))
  (λi e=>∃(ls:List Int) (o3 o4:Option W),e=[ab (.d (.lst (ns.map D.int))),ab (.d (.int (m:Int))),ab (.d (.lst (ls.map D.int))),o3,o4]/\ls.length=min (i+1) m) (gW 0 (xs.map D.int)) 0 (λi x e hx ⟨ls,o3,o4,he,hls⟩=>by
   obtain⟨d,hd,rfl⟩:=BD hx;subst he;rw[eV]at hls ⊢;obtain⟨v,rfl⟩ : ∃v:Int,d=.int v:=by obtain⟨v,_,rfl⟩:=dq.mp (i4 hd);exact⟨v,rfl⟩
   have ct:cB (m2 dR (m2 aW (mV 3) (mC (.int 1))) (mV 1)) [ab (.d (.lst (ns.map D.int))),ab (.d (.int (m:Int))),ab (.d (.lst (ls.map D.int))),ab (.d (.int (i:Int))),ab (.d (.int v))]=.ok (decide ((i:Int)+1<(m:Int))):=cY (av (av rfl rfl rfl) rfl rfl);by_cases hb:(i:Int)+1<(m:Int)
   ·rw[cM hb]at ct;refine⟨[ab (.d (.lst (ns.map D.int))),ab (.d (.int (m:Int))),ab (.d (.lst (ls.map D.int))),ab (.d (.int (i:Int))),ab (.d (.int v))],[ab (.d (.lst (ns.map D.int))),ab (.d (.int (m:Int))),ab (.d (.lst ((ls++[v%2147483647]).map D.int))),ab (.d (.int (i:Int))),ab (.d (.int v))],rfl,?_,ls++[v%2147483647],_,_,rfl,by rw[bB,hls];simp;omega⟩;rw[fZ ct,pI (d:=.int (v%2147483647)) (ds:=ls.map D.int) (av rfl rfl (aE (by decide))) rfl (by rw[aS];omega)];rw[fh];rfl
   ·rw[bx hb]at ct;have z0:=fG (i:Int) (b:=(m:Int)) (by omega);have z1:=fT (i:Int) (b:=(m:Int)) (by omega);have hk:∀e:Mi.Env,mV 3 e=.ok (.int (i:Int))->mV 1 e=.ok (.int (m:Int))->m2 aU (mV 3) (mV 1) e=.ok (.int ((i:Int)%(m:Int))):=λe a b=>av a b (aE (by omega));have hix:aG (.lst (ls.map D.int)) (.int ((i:Int)%(m:Int)))=.ok (.int (ls.getD ((i:Int)%(m:Int)).toNat 0)):=pi z0 (by omega);have hv:m2 aU (m2 aW (m2 bp (m2 aG (mV 2) (m2 aU (mV 3) (mV 1))) (mC (.int 69621))) (mV 4)) (mC (.int 2147483647)) [ab (.d (.lst (ns.map D.int))),ab (.d (.int (m:Int))),ab (.d (.lst (ls.map D.int))),ab (.d (.int (i:Int))),ab (.d (.int v))]=.ok (.int ((ls.getD ((i:Int)%(m:Int)).toNat 0*69621+v)%2147483647)):=
     av (av (av (av rfl (hk _ rfl rfl) hix) rfl (aE (nI (by decide) (by decide)))) rfl rfl) rfl (aE (by decide))
    obtain⟨ls',hl',hs⟩:=sM (i:=2) (e:=[ab (.d (.lst (ns.map D.int))),ab (.d (.int (m:Int))),ab (.d (.lst (ls.map D.int))),ab (.d (.int (i:Int))),ab (.d (.int v))]) (ls:=ls) hv (hk _ rfl rfl) rfl z0 (by omega);exact⟨[ab (.d (.lst (ns.map D.int))),ab (.d (.int (m:Int))),ab (.d (.lst (ls.map D.int))),ab (.d (.int (i:Int))),ab (.d (.int v))],[ab (.d (.lst (ns.map D.int))),ab (.d (.int (m:Int))),ab (.d (.lst (ls'.map D.int))),ab (.d (.int (i:Int))),ab (.d (.int v))],rfl,(dr ct).trans hs,ls',_,_,rfl,by omega⟩) [ab (.d (.lst (ns.map D.int))),ab (.d (.int (m:Int))),ab (.d (.lst ([c%2147483647].map D.int))),ae,ae] ⟨[c%2147483647],ae,ae,rfl,by simp;omega⟩
 subst he;refine⟨ls,?_⟩;rw[aR (e':=[ab (.d (.lst (ns.map D.int))),ab (.d (.int (m:Int))),ab (.d (.lst ([c%2147483647].map D.int))),ae,ae]) (cu (k5 (av (call2 rfl rfl hc) rfl (aE (by decide)))))];have hit:wH (fL gA (mV 0) (ab (mC (.int 40))) (ab (mC (.int 63)))) [ab (.d (.lst (ns.map D.int))),ab (.d (.int (m:Int))),ab (.d (.lst ([c%2147483647].map D.int))),ae,ae]=.ok (gW 0 (xs.map D.int)):=by rw[<- hxs];rfl
 rw[aR ((gG hit).trans f1)];rfl
inductive rq(aF:List Ar)(x:Str):Str->Prop
 |refl:rq aF x x
 |step {y z:Str}:rq aF x y->(y,z)∈aF->rq aF x z
noncomputable def rch (aF:List Ar) (x y:Str):Bool:=@decide (rq aF x y) (Classical.propDecidable _)
noncomputable def LB (ac:List Str) (aF:List Ar) (x:Str):List Str:=ac.filter (rch aF x)
def ig(fs:List Str):W:=.dk (fs.map λy=>((fH y:Ky),D.bl true))
theorem HA(fs:List Str)(y:Str):(gU (fs.map λy=>((fH y:Ky),D.bl true)) (fH y)).isSome=decide (y∈fs):=by
 unfold gU
 induction fs with
 |nil=>rfl
 |cons a r ih=>
  rw[cD,jD];by_cases h:a=y
  ·subst h;simp
  ·rw[bx (λz:(fH a:Ky)=fH y=>h (ug z))];simp only[ih];rw[vL];exact⟨λz=>cA _ z,λz=>by
    rcases bK.mp z with z|z
    ·exact absurd z.symm h
    ·exact z⟩
theorem Iw{i:Nat}{k:E}{e:Mi.Env}{fs:List Str}{y:Str}(hk:k e=.ok (.str y))(hw:wV i e=.ok (ig fs)):pk i k e=.ok (.bl (decide (y∈fs))):=by unfold pk;rw[hk,aN,hw,aN,<- HA];rfl
theorem JT{i:Nat}{k:E}{e:Mi.Env}{fs:List Str}{y:Str}(hk:k e=.ok (.str y))(hw:wV i e=.ok (ig fs))(hn:y∉fs)(hl:fs.length<=1000):iN i k (mC (.bl true)) e=.ok (.nx (e.set i (ab (ig (fs++[y]))))):=by
 unfold iN;have h1:wN (ig fs) (.str y) (.bl true)=.ok (ig (fs++[y])):=by
  show a6 ((fs.map λy=>((fH y:Ky),D.bl true)).length<16777216) ((cN (lW (.str y))).bind λk=>Rs.ok (W.dk (Mi.putK k (.bl true) (fs.map λy=>((fH y:Ky),D.bl true)))))=_;rw[aE (by rw[aS];omega)];show Rs.ok (W.dk (Mi.putK (fH y:Ky) (.bl true) (fs.map λy=>((fH y:Ky),D.bl true))))=_;unfold Mi.putK;rw[ay (by
   rw[List.any_map,Bool.not_eq_true,xi];intro z hz;simp only[Function.comp,ke];exactλq=>hn (ug q ▸ hz))]
  unfold ig;rw[fh];rfl
 show(k e).bind _=_;rw[hk,aN,hw,aN,h1];rfl
noncomputable def hb (ac:List Str) (aF:List Ar) (bm:List Str) (x:Str):Bool:=(LB ac aF x).any λy=>decide (y∈bm)
abbrev rK:=Str×Str×Str
def tri:List Str->List rK
 |a::b::c::r=>(a,b,c)::tri (b::c::r)
 |_=>[]
def zw(bU:List Str)(i:Nat):rK:=(nth bU i,nth bU (i+1),nth bU (i+2))
theorem Is(aF:List Ar)(p:Ar):((aF.map pairD).any λe=>bh e (pairD p))=decide (p∈aF):=by
 induction aF with
 |nil=>rfl
 |cons q r ih=>
  rw[cD,i5,ih];have:bh (pairD q) (pairD p)=decide (q=p):=by unfold pairD;rw[bh,gQ,gQ,gQ,pf,pf];obtain⟨a,b⟩:=q;obtain⟨c,d⟩:=p;by_cases h1:a=c<;>by_cases h2:b=d<;>simp[h1,h2]
  rw[this];by_cases h:q=p
  ·simp[h]
  ·have h2:¬ p=q:=λz=>h z.symm;simp[h,h2]
theorem zA:∀aF:List Ar,cS (aF.map pairD)<=1
 |[]=>by simp
 |p::r=>by
  have:=zA r;rw[cD,BE];have h:(pairD p).dep=1:=by simp[pairD]
  omega
theorem rp(aF:List Ar)(p:Ar):ia (pairD p) (mT aF)=.ok (.bl (decide (p∈aF))):=by show a6 _ _=_;rw[aE (by have:=zA aF;omega),Is]
theorem F9(ms:List Str)(x:Str):D.lst (ms.map D.str++[.str x])=aj (ms++[x]):=by unfold aj;rw[fh];rfl
def mt(aF:List Ar)(t:rK):Bool:=decide ((t.1,t.2.1)∈aF)&&decide ((t.2.2,t.2.1)∈aF)
def meets(aF:List Ar)(bU:List Str):List Str:=((tri bU).filter (mt aF)).map (·.2.1)
def hds(aF:List Ar)(l:List Str):List Str:=(aF.filter λp=>decide (p.1∈l)).map (·.2)
def Rk(aF:List Ar):Prop:=∃r:Str->Int,∀p∈aF,r p.1<r p.2
def qY(aF:List Ar)(a m b:Str):Bool:=(decide ((a,m)∈aF)&&decide ((b,m)∈aF)) && !(decide ((a,b)∈aF)||decide ((b,a)∈aF))
theorem JF{l:List Str}(nd:l.Nodup)(hl:l.length<=1000):p6 [.d (aj l)]=.ok (.d .non):=by
 unfold p6 CW;rw[zP];obtain⟨e',f1,o2,he⟩:=ip (tg:=.n 2) (body:=(aP (bA (cB (pk 1 (mV 2))) pz cn) (iN 1 (mV 2) (mC (.bl true)))))
  (λi e=>∃o2:Option W,e=[ab (.d (aj l)),ab (ig (l.take i)),o2]) (l.map D.str) 0 (λi d e hi ⟨o2,he⟩=>by
   subst he;rw[eV];rw[dw]at hi;obtain⟨x,hx,rfl⟩:=mH.mp hi;obtain⟨il,hxe⟩:=cV.mp hx;have hn:x∉l.take i:=λz=>by
    obtain⟨j,hj⟩:=mv z;have hj2:=(cV.mp hj).1;rw[cO]at hj2;rw[mq (by omega)]at hj;obtain⟨jl,hje⟩:=cV.mp hj;have:=(ki nd).mp (hje.trans hxe.symm);omega
   refine⟨[ab (.d (aj l)),ab (ig (l.take i)),ab (.d (.str x))],[ab (.d (aj l)),ab (ig (l.take (i+1))),ab (.d (.str x))],rfl,?_,_,rfl⟩;rw[aR (e':=[ab (.d (aj l)),ab (ig (l.take i)),ab (.d (.str x))]) ((dr (cY ((Iw (y:=x) (fs:=l.take i) rfl rfl).trans (by rw[bx hn])))).trans rfl)];rw[JT (y:=x) (fs:=l.take i) rfl rfl hn (by rw[cO];omega)];rw[xq,hx];rfl) [ab (.d (aj l)),ab (ig []),ae] ⟨ae,rfl⟩
 subst he;rw[aR (e':=[ab (.d (aj l)),ab (ig []),ae]) rfl];rw[gG (iM (x:=aj l) rfl rfl),f1];rfl
theorem F4{bU:List Str}{i:Nat}(h:i<bU.length):bU[i]? = ab (nth bU i):=by unfold nth;rw[dH,dm h];rfl
theorem AM{bU:List Str}(h:1<=bU.length):aG (aj bU) (.int (-1))=.ok (.str (nth bU (bU.length-1))):=by unfold aj;show cN (cU (bU.map D.str) (-1))=_;unfold cU dB;rw[ay (by decide),aw (by rw[aS];omega)];rw[aS,show(-1+(bU.length:Int)).toNat=bU.length-1 by omega];show cN ((bU.map D.str)[bU.length-1]?)=_;rw[dw,F4 (by omega)];rfl
def tie(aF:List Ar)(a b:Str):Bool:=decide ((a,b)∈aF)||decide ((b,a)∈aF)
theorem Jl{ac:List Str}{aF:List Ar}(a b:Str):iP [.d (aJ ac aF),.d (.str a),.d (.str b)]=.ok (.d (.bl (tie aF a b))):=by
 unfold iP yD;rw[yW];have a1:m2 ia (mN dTup [(mV 1),(mV 2)]) (m2 aG (mV 0) (mC (.int 1))) [ab (.d (aJ ac aF)),ab (.d (.str a)),ab (.d (.str b))]=.ok (.bl (decide ((a,b)∈aF))):=(av (nF rfl rfl) (av rfl rfl (sF _ _)) rfl).trans (rp aF (a,b));have a2:m2 ia (mN dTup [(mV 2),(mV 1)]) (m2 aG (mV 0) (mC (.int 1))) [ab (.d (aJ ac aF)),ab (.d (.str a)),ab (.d (.str b))]=.ok (.bl (decide ((b,a)∈aF))):=(av (nF rfl rfl) (av rfl rfl (sF _ _)) rfl).trans (rp aF (b,a));have aa:kE (m2 ia (mN dTup [(mV 1),(mV 2)]) (m2 aG (mV 0) (mC (.int 1)))) (m2 ia (mN dTup [(mV 2),(mV 1)]) (m2 aG (mV 0) (mC (.int 1)))) [ab (.d (aJ ac aF)),ab (.d (.str a)),ab (.d (.str b))]=.ok (.bl (tie aF a b)):=by
  unfold kE;rw[a1,aN];show(nK (.bl _)).bind _=_;rw[uz,aN];unfold tie;by_cases h:(a,b)∈aF
  ·rw[cM h,aw rfl,xH]
  ·rw[bx h,ay cW,a2,jH]
 exact(congrArg (λr=>Rs.bind r j8) (fN (cG aa))).trans rfl
theorem Im(n:Nat)(x:Str):cR (n+1) [.d (.str x),.d (.str x)]=.ok (.d (.bl true)):=by
 show eP 2 4 (lw (cR n)) _=_;unfold lw;rw[jY];have c0:jd (cB (m1 (cT ["str"]) (mV 1))) (cB (m1 (cT ["int"]) (mV 1))) [ab (.d (.str x)),ab (.d (.str x)),ae,ae]=.ok true:=rfl;have c1:jd (cB (m2 fO (m1 (cT ["bool"]) (mV 0)) (m1 (cT ["bool"]) (mV 1)))) (cB (m2 fO (m1 (cT ["str"]) (mV 0)) (m1 (cT ["str"]) (mV 1)))) [ab (.d (.str x)),ab (.d (.str x)),ae,ae]=.ok false:=rfl;have c2:wF (m1 (cT ["int","str"]) (mV 0)) (m2 et (mV 0) (mV 1)) [ab (.d (.str x)),ab (.d (.str x)),ae,ae]=.ok (.bl true):=by show m2 et (mV 0) (mV 1) [ab (.d (.str x)),ab (.d (.str x)),ae,ae]=_;exact(av rfl rfl rfl).trans ((wb x x).trans (by rw[cM rfl]))
 exact(congrArg (λr=>Rs.bind r j8) (mf ((fZ c0).trans ((aR ((dr c1).trans rfl)).trans (fN (cG c2)))))).trans rfl
def vE(x:Str):D:=.tup [.str x,.str x]
theorem yE:∀xs:List Str,fW (xs.map D.str) (xs.map D.str)=xs.map vE
 |[]=>rfl
 |x::r=>by rw[cD,fW,yE r];rfl
theorem IU(n:Nat)(xs:List Str):cR (n+2) [.d (aj xs),.d (aj xs)]=.ok (.d (.bl true)):=by
 show eP 2 4 (lw (cR (n+1))) _=_;unfold lw;rw[jY];have c0:jd (cB (m1 (cT ["str"]) (mV 1))) (cB (m1 (cT ["int"]) (mV 1))) [ab (.d (aj xs)),ab (.d (aj xs)),ae,ae]=.ok false:=rfl;have c1:jd (cB (m2 fO (m1 (cT ["list"]) (mV 0)) (m1 (cT ["list"]) (mV 1)))) (eF (cB (m1 (cT ["list","tuple"]) (mV 0)))) [ab (.d (aj xs)),ab (.d (aj xs)),ae,ae]=.ok false:=rfl;have c2:cB (m2 fO (mN da [(mV 0)]) (mN da [(mV 1)])) [ab (.d (aj xs)),ab (.d (aj xs)),ae,ae]=.ok false:=
  cY ((av rfl rfl rfl).trans ((zV _ _).trans (by rw[cM rfl];rfl)))
 obtain⟨e',f1,o2,o3,he⟩:=ip (tg:=.t [2,3]) (body:=(bA (eF (cB (aX (cR (n+1)) [(wD (mV 2)),(wD (mV 3))]))) (bJ (wD (mC (.bl false)))) cn))
  (λi e=>∃o2 o3:Option W,e=[ab (.d (aj xs)),ab (.d (aj xs)),o2,o3]) (xs.map vE) 0 (λi d e hi ⟨o2,o3,he⟩=>by
   subst he;rw[dw]at hi;obtain⟨x,hx,rfl⟩:=mH.mp hi;have ct:eF (cB (aX (cR (n+1)) [(wD (mV 2)),(wD (mV 3))])) [ab (.d (aj xs)),ab (.d (aj xs)),ab (.d (.str x)),ab (.d (.str x))]=.ok false:=by unfold eF;rw[cY (call2 rfl rfl (Im n x))];rfl
   exact⟨[ab (.d (aj xs)),ab (.d (aj xs)),ab (.d (.str x)),ab (.d (.str x))],_,rfl,(dr ct).trans rfl,_,_,rfl⟩) [ab (.d (aj xs)),ab (.d (aj xs)),ae,ae] ⟨ae,ae,rfl⟩
 subst he;have hit:sW (mV 0) (mV 1) [ab (.d (aj xs)),ab (.d (aj xs)),ae,ae]=.ok (xs.map vE):=by rw[<- yE];rfl
 exact(congrArg (λr=>Rs.bind r j8) ((aR ((dr c0).trans rfl)).trans ((aR ((dr c1).trans rfl)).trans ((aR ((dr c2).trans rfl)).trans ((aR ((gG hit).trans f1)).trans (fN (cG rfl))))))).trans rfl
theorem vQ{a b:C}{e:Mi.Env}{p q:Bool}(ha:a e=.ok p)(hb:p=true->b e=.ok q):fb a b e=.ok (p&&q):=by
 unfold fb;rw[ha,aN];cases p with
 |true=>rw[aw rfl,hb rfl];rfl
 |false=>rfl
theorem uJ{a:C}{e:Mi.Env}{p:Bool}(ha:a e=.ok p):eF a e=.ok (!p):=by unfold eF;rw[ha];rfl
theorem Fv{a b:E}{e:Mi.Env}{p q:Bool}(ha:a e=.ok (.bl p))(hb:p=false->b e=.ok (.bl q)):kE a b e=.ok (.bl (p||q)):=by
 unfold kE;rw[ha,aN,uz,aN];cases p with
 |true=>rfl
 |false=>rw[ay cW,hb rfl];rfl
theorem JK{f:List D->Rs D}{a b c:E}{e:Mi.Env}{x y z:D}(h:a e=.ok x)(h':b e=.ok y)(h'':c e=.ok z):mN f [a,b,c] e=f [x,y,z]:=by unfold mN;rw[fQ,h,aN,fQ,h',aN,fQ,h''];rfl
theorem CA{α:Type}{tg:Tg}{body:S}(f:α->D)(g:α->List D)(St:List D->Mi.Env->Prop):∀(xs:List α) (acc:List D) (e:Mi.Env),acc.length+(xs.flatMap g).length<=16777216->St acc e ->
 (∀x∈xs,∀acc e,acc.length+(g x).length<=16777216->St acc e->∃e1 e2,tg.put (f x) e=.ok e1/\body e1=.ok (.nx e2)/\St (acc++g x) e2) ->
 ∃e',gf tg body (xs.map f) e=.ok (.nx e')/\St (acc++xs.flatMap g) e'
 |[],acc,e,_,h,_=>⟨e,rfl,by simpa using h⟩
 |x::r,acc,e,hl,h,hs=>by
  rw[eD,bB]at hl;obtain⟨e1,e2,h1,h2,h3⟩:=hs x cC acc e (by omega) h;obtain⟨e',h4,h5⟩:=CA f g St r (acc++g x) e2 (by rw[bB];omega) h3 λy hy=>hs y (cA _ hy);refine⟨e',?_,by rw[eD,<- gp];exact h5⟩;rw[cD,gf,h1,aN,h2,aN];exact h4
structure Nt(ac:List Str)(aF:List Ar):Prop where
 nd:ac.Nodup
 le:ac.length<=8
 al:aF.length<=64
 inn:∀p∈aF,p.1∈ac/\p.2∈ac
 rk:Rk aF
def sD(ac:List Str)(aF:List Ar):List Ar:=ac.flatMap λt=>(ac.filter λh=>decide ((t,h)∈aF)).map λh=>(t,h)
def sq(k:Bool)(ds:List D):D:=if k then .lst ds else .tup ds
def ky(ac row:List Str):List Int:=row.map λx=>((ac.idxOf x:Nat):Int)
theorem GK{ac:List Str}(nd:ac.Nodup){i:Nat}(hi:i<ac.length):ac.idxOf (nth ac i)=i:=by
 have e:nth ac i=ac[i]:=by unfold nth;rw[dH,dm hi];rfl
 rw[e];exact nd.idxOf_getElem i hi
theorem A1{ac:List Str}{x y:Str}(hx:x∈ac)(hy:y∈ac)(h:ac.idxOf x=ac.idxOf y):x=y:=by
 have h1:=tL (oh.mpr hx);have h2:=tL (oh.mpr hy);rw[<- h1,<- h2]
 congr 1
def tr(t:rK):List Str:=[t.1,t.2.1,t.2.2]
theorem zh{a b:E}{e:Mi.Env}{x y:D}(h:a e=.ok x)(h':b e=.ok y):mN cH [a,b] e=.ok (.lst [x,y]):=by unfold mN;rw[fQ,h,aN,fQ,h',aN];rfl
theorem Kl{a:E}{e:Mi.Env}{x:D}(h:a e=.ok x):iR a e=.ok (.nx e):=by unfold iR;rw[h];rfl
theorem Gk{ac:List Str}{aF:List Ar}{a b:Str}(ha:a∈ac)(hb:b∈ac):lO [.d (aJ ac aF),.d (.str a),.d (.str b)]=.ok (.d (.bl (tie aF a b))):=by
 unfold lO CV;rw[yW];rw[show([ab (W.d (aJ ac aF)),ab (W.d (.str a)),ab (W.d (.str b))]++dE (3-3) ae)=[ab (W.d (aJ ac aF)),ab (W.d (.str a)),ab (W.d (.str b))]from rfl];have hr:kU [.d (fA ac),.d (aj [a,b])]=.ok (.d .non):=Bs λx hx=>by
  rcases bK.mp hx with rfl|hx
  ·exact ha
  ·rw[bC.mp hx];exact hb
 rw[aR (Kl (call2 (cG (av rfl rfl (j9 _ _))) (cG (zh rfl rfl)) hr))];have aa:kE (m2 ia (mN dTup [(mV 1),(mV 2)]) (m2 aG (mV 0) (mC (.int 1)))) (m2 ia (mN dTup [(mV 2),(mV 1)]) (m2 aG (mV 0) (mC (.int 1)))) [ab (.d (aJ ac aF)),ab (.d (.str a)),ab (.d (.str b))]=.ok (.bl (tie aF a b)):=
  Fv (av (nF rfl rfl) (av rfl rfl (sF ac aF)) (rp aF (a,b))) λ_=>av (nF rfl rfl) (av rfl rfl (sF ac aF)) (rp aF (b,a))
 rw[fN (cG aa)];rfl
open My (words dC dN)
theorem Av{α:Type}{l:List α}(nd:l.Nodup){i:Nat}{x:α}(hx:l[i]? = ab x):x∉l.take i:=λz=>by
 obtain⟨il,hxe⟩:=cV.mp hx;obtain⟨j,hj⟩:=mv z;have hj2:=(cV.mp hj).1;rw[cO]at hj2;rw[mq (by omega)]at hj;obtain⟨jl,hje⟩:=cV.mp hj;have:=(ki nd).mp (hje.trans hxe.symm);omega
def both(xs:List Ar):List Ar:=xs.flatMap λp=>[p,(p.2,p.1)]
structure Apart(ac:List Str)(xs:List Ar):Prop where
 inn:∀p∈xs,p.1∈ac/\p.2∈ac
 irr:∀p∈xs,p.1≠p.2
 pw:xs.Pairwise λp q=>p≠q/\p≠(q.2,q.1)
theorem qZ.apart{ac:List Str}{A:List Ix}{r:Nat->Int}(N:qZ ac A r):Apart ac (A.map (arrOf ac)):=by
 refine⟨λp hp=>?_,λp hp=>?_,?_⟩
 ·obtain⟨q,hq,rfl⟩:=dq.mp hp;exact⟨CY (N.all q hq).1,CY (N.all q hq).2.1⟩
 ·obtain⟨q,hq,rfl⟩:=dq.mp hp;obtain⟨h1,h2,h3⟩:=N.all q hq;intro z;have:=lD N.nd h1 h2 z;rw[this]at h3;omega
 ·rw[qy];refine List.Pairwise.imp_of_mem (λ{p q} hp hq h=>?_) N.sD;obtain⟨h1,h2,h3⟩:=N.all p hp;obtain⟨k1,k2,k3⟩:=N.all q hq;refine⟨λz=>?_,λz=>?_⟩
  ·have e1:=lD N.nd h1 k1 (congrArg Prod.fst z);have e2:=lD N.nd h2 k2 (congrArg Prod.snd z);rcases h with h|⟨_,h⟩<;>omega
  ·have e1:=lD N.nd h1 k2 (congrArg Prod.fst z);have e2:=lD N.nd h2 k1 (congrArg Prod.snd z);rw[e1,e2]at h3;omega
end Mr
namespace Mr
open PySem Mi
abbrev nn:D:=.lst [.str "NoName"]
open My (words dC dN)
def JN(aF:List Ar)(x:Str):List Str:=(aF.filter λp=>decide (p.1=x)).map (·.2)
structure Lk(ac:List Str)(aF:List Ar):Prop where
 nd:ac.Nodup
 le:ac.length<=8
 al:aF.length<=64
 inn:∀p∈aF,p.1∈ac/\p.2∈ac
 rk:Rk aF
 nda:aF.Nodup
end Mr
namespace Mr
open PySem Mi
def rk(r:List Str):List Ky:=r.map fH
abbrev Ab:=List (Ar×D)
def vM(told:Ab):List Ar:=told.map (·.1)
structure Dc(ac:List Str)(A:List Ar)(KT KC:List (List Str)):Prop where
 kt:∀a∈ac,∀b∈ac,a≠b->([a,b]∈KT↔tie A a b=true)
 ktm:∀k∈KT,∃a b,k=[a,b]/\a∈ac/\b∈ac/\a≠b/\tie A a b=true
 kc:∀a∈ac,∀m∈ac,∀b∈ac,[a,m,b]∈KC↔a≠b/\qY A a m b=true
def Fk(t h s:Str)(x:List Str):D:=.tup [.str t,.str h,.str s,.tup (x.map D.str)]
inductive Rl(ac:List Str)(A P:List Ar)(t h:Str):Str->List Str->Prop
 |LC {z:Str} (zn:z∈ac) (ne:t≠z) (c:qY A t h z=true):Rl ac A P t h "corner" [z]
 |on {z:Str} (zn:z∈ac) (ne:z≠h) (nt:tie A z h=false) (nc:qY A z t h=false) (p:(z,t)∈P):Rl ac A P t h "on" [z]
 |over {z:Str} (zn:z∈ac) (p:(t,z)∈P) (q:(z,h)∈P):Rl ac A P t h "over" [z]
 |both {z w:Str} (zn:z∈ac) (wn:w∈ac) (ne:z≠w) (nt:tie A z w=false) (nc:qY A z t w=false) (t1:tie A z t=true) (t2:tie A w t=true) (p:(z,h)∈P) (q:(w,h)∈P):Rl ac A P t h "both" [z,w]
structure Gt(ac:List Str)(A:List Ar)(told:Ab):Prop where
 nd:(vM told).Nodup
 sub:∀p∈vM told,p∈A
 ord:∀i q,told[i]? = ab q->∃s x,q.2=Fk q.1.1 q.1.2 s x/\Rl ac A (vM (told.take i)) q.1.1 q.1.2 s x
open PySem.Builtin PySem.Builtin.Str
def cl(x:Str):List Nat:=x.cps.toList
end Mr
namespace Mr
open PySem Mi
open My (words dC dN)
def Wd(x:Str):Prop:=∃l,x=S' l/\dC l
def AB(c:Str)(p:Ar):Str:=HL [p.1,c,p.2]
def BA(ac:List Str)(xs:List Ar):List Str:=ac++[(":" : Str)]++xs.map (AB ">")
def tx(ac:List Str)(xs:List Ar):Str:=iC " " (BA ac xs)
def nt(ac:List Str):List Nat:=ac.flatMap λn=>cl n++[32]
theorem IK{α:Type}{l:List α}{i:Nat}{x:α}(h:l[i]? = ab x):l.take (i+1)=l.take i++[x]:=by rw[xq,h];rfl
def tp(ac:List Str)(R S:List Ar):Str:=iC " " (BA ac R++S.map (AB "-"))
end Mr
namespace Vp
end Vp
namespace Mr
open PySem Mi
open Vp
def ar(A:List Ar)(u v:Str):Prop:=(u,v)∈A
def v6:List Str->List (List Str)
 |[]=>[[]]
 |x::r=>v6 r++(v6 r).map (· ++ [x])
def rst(ac:List Str)(i j:Str):List Str:=ac.filter λn=>!decide (n=i) && !decide (n=j)
end Mr
namespace Mr
open PySem Mi
open My (dN)
theorem yK{m:S}{e:Mi.Env}{w:W}(h:m e=.ok (.rt w)):mP m e=.ok (.rt w):=by unfold mP;rw[h]
end Mr
namespace Mr
open PySem Mi
open Vp
abbrev Qn:=Str×Str×List Str
def Ij(ac:List Str)(a b:Str):List Qn:=(v6 (rst ac a b).reverse).map λl=>(a,b,l)
def Hi(ac:List Str)(k:Nat):List Qn:=(ac.drop (k+1)).flatMap λb=>Ij ac (nth ac k) b
def qs(ac:List Str):List Qn:=(bn ac.length).flatMap (Hi ac)
class Kd (β:Type) where
 d:β->D
 k:β->Ky
 inj:∀a b,k a=k b->a=b
 key:∀b,lW (d b)=ab (k b)
 kd:∀b,GP (k b)=d b
 im:∀b,CK (d b)=true
instance:Kd Bool:=⟨.bl,.inl,λ_ _=>Sum.inl.inj,λ_=>rfl,λ_=>rfl,λ_=>rfl⟩
instance:Kd Str:=⟨.str,.inr,λ_ _=>ug,λ_=>rfl,λ_=>rfl,λ_=>rfl⟩
abbrev dG(β:Type):=Str×β
abbrev Spot:=dG Bool
abbrev lR(β:Type):=dG β×Option (dG β)
abbrev Bf:=lR Bool
section
variable{β:Type}[DecidableEq β][Kd β]
def ck(s:dG β):D:=.tup [.str s.1,Kd.d s.2]
def lb(bs:List (lR β)):List (dG β):=bs.map (·.1)
inductive nA(st:List (dG β))(nx:(dG β)->List (dG β)):List (lR β)->Prop
 |nil:nA st nx []
 |from{bs:List (lR β)} {s:(dG β)}:nA st nx bs->s∈st->nA st nx (bs++[(s,ae)])
 |on {bs:List (lR β)} {s h:(dG β)} {pre post:List (dG β)}:nA st nx bs->lb bs=pre++h::post->(∀t∈pre,s∉nx t)->s∉st->s∈nx h->nA st nx (bs++[(s,ab h)])
section
variable{κ:Kp}{f:Fn}{uj:List D}{X:D}{st U:List (dG β)}{nx:(dG β)->List (dG β)}
structure LS(st U:List (dG β))(nx:(dG β)->List (dG β))(bs:List (lR β))(ws:List (dG β)):Prop where
 tr:nA st nx bs
 nd:(lb bs).Nodup
 u:∀s∈lb bs,s∈U
 st:∀s∈st,s∈lb bs
 q:∃dn,lb bs=dn++ws/\∀s∈dn,∀t∈nx s,t∈lb bs
end
end
def BQ(A:List Ar)(x:Str):List Spot:=(JN A x).map λy=>(y,true)
def v8(A:List Ar)(x:Str):List Spot:=(z5 A x).map λy=>(y,false)
noncomputable def nxS (ac:List Str) (A:List Ar) (bm:List Str) (s:Spot):List Spot:=
 (if s.1∈bm then[]else BQ A s.1)++(if(if s.2=true then hb ac A bm s.1 else !decide (s.1∈bm))=true then v8 A s.1 else[])
def LM(A:List Ar)(x:Str):List Spot:=BQ A x++v8 A x
def LR(ac:List Str):List Spot:=ac.map (λx=>(x,true))++ac.map λx=>(x,false)
theorem GB{ac asked:List Str}(h:∀x∈asked,x∈ac)(nd:asked.Nodup)(hl:asked.length<=1000):pY [.d (fA ac),.d (aj asked)]=.ok (.d .non):=by unfold pY Bq;rw[jY];rw[aR (e':=[ab (.d (fA ac)),ab (.d (aj asked))]) (by unfold iR;rw[call2 rfl rfl (Bs h)];rfl)];show Rs.bind (iR _ _) _=_;unfold iR;rw[IW rfl (JF nd hl)];rfl
section
variable{β:Type}[DecidableEq β][Kd β]
structure LJ(st:List (dG β))(nx:(dG β)->List (dG β))(bs:List (lR β))(l:List (dG β)):Prop where
 hd:∃x r,l=x::r/\x∈st/\(x,ae)∈bs
 sub:l.Sublist (lb bs)
 step:∀(k:Nat) (u v:(dG β)),l[k]? = ab u->l[k+1]? = ab v->v∈nx u/\v∉st/\(v,ab u)∈bs/\∃pre post,lb bs=pre++u::post/\∀t∈pre,v∉nx t
end
open My (words dC dN)
theorem Cf{ls:List Str}{z:Int}(h0:0<=z)(h1:z<ls.length)(hl:ls.length<=100):∃(h:z.toNat<ls.length),jZ (ls.map D.str) z=.ok (.str ls[z.toNat],(ls.eraseIdx z.toNat).map D.str):=by
 have hz:z.toNat<ls.length:=by omega
 refine⟨hz,?_⟩;unfold jZ;rw[aE (by omega)];have:dB (ls.map D.str).length z=ab z.toNat:=by unfold dB;rw[aw h0,aw (by rw[aS];exact h1)]
 rw[this,mh,aN];rw[dw,dm hz,Option.map_some,mh,aN];have er:∀(l:List Str) (k:Nat),(l.map D.str).eraseIdx k=(l.eraseIdx k).map D.str:=by
  intro l
  induction l with
  |nil=>intro k;rfl
  |cons a r ih=>
   intro k;cases k with
   |zero=>rfl
   |succ k=>rw[cD,DX,ih k];rfl
 rw[er]
structure Ask(ac:List Str)(i j:Str)(bm:List Str):Prop where
 im:i∈ac
 jm:j∈ac
 ij:i≠j
 hs:∀x∈bm,x∈ac
 nd:bm.Nodup
 ni:i∉bm
 nj:j∉bm
theorem Fh{ac:List Str}{A:List Ar}(nd:ac.Nodup)(h2:2<=ac.length)(h8:ac.length<=8)(d:Int):∃i j bm,lE [.d (aJ ac A),.d (.int d)]=.ok (.d (.lst [.str i,.str j,aj bm]))/\Ask ac i j bm:=by
 have l1:(0:Int)<((ac.length:Nat):Int):=by omega
 obtain⟨a,ha⟩ : ∃a,a=d%((ac.length:Nat):Int):=⟨_,rfl⟩;have a0:0<=a:=by rw[ha];exact fG _ (by omega)
 have a1:a<((ac.length:Nat):Int):=by rw[ha];exact fT _ l1
 obtain⟨az,pa⟩:=Cf a0 a1 (by omega);obtain⟨i,hi⟩ : ∃i,i=ac[a.toNat]:=⟨_,rfl⟩;obtain⟨n1,hn1⟩ : ∃n1,n1=ac.eraseIdx a.toNat:=⟨_,rfl⟩;rw[<- hi,<- hn1]at pa;have ln1:n1.length=ac.length-1:=by rw[hn1,D4,aw az]
 have l2:(0:Int)<((n1.length:Nat):Int):=by omega
 obtain⟨b,hb⟩ : ∃b,b=d/8%((n1.length:Nat):Int):=⟨_,rfl⟩;have b0:0<=b:=by rw[hb];exact fG _ (by omega)
 have b1:b<((n1.length:Nat):Int):=by rw[hb];exact fT _ l2
 obtain⟨bz,pb⟩:=Cf b0 b1 (by omega);obtain⟨j,hj⟩ : ∃j,j=n1[b.toNat]:=⟨_,rfl⟩;obtain⟨n2,hn2⟩ : ∃n2,n2=n1.eraseIdx b.toNat:=⟨_,rfl⟩;rw[<- hj,<- hn2]at pb;have oS:n1.Nodup:=by rw[hn1];exact nd.sublist (DZ _ _)
 have kC:n2.Nodup:=by rw[hn2];exact oS.sublist (DZ _ _)
 have s1:∀x∈n1,x∈ac:=λx h=>by rw[hn1]at h;exact DU h
 have s2:∀x∈n2,x∈n1:=λx h=>by rw[hn2]at h;exact DU h
 have out:∀{l:List Str} {k:Nat} (h:k<l.length),l.Nodup->l[k]∉l.eraseIdx k:=λ{l k} h nd z=>by
  obtain⟨q,hq,ne,e⟩:=List.mem_eraseIdx_iff_getElem.mp z;exact ne ((ki (h₀:=hq) (h₁:=h) nd).mp e)
 have i1:i∉n1:=by rw[hi,hn1];exact out az nd
 have jm:j∈n1:=by rw[hj];exact qz bz
 have j2:j∉n2:=by rw[hj,hn2];exact out bz oS
 have l8:n2.length<=8:=by rw[hn2,D4,aw bz];omega
 obtain⟨w,hw⟩ : ∃w,w=2+d/64%2:=⟨_,rfl⟩;have w0:0<w:=by have:=fG (d/64) (b:=2) (by decide);omega
 obtain⟨e',f,bm,o6,he,hs,hnd⟩:=ip (tg:=.n 6) (body:=(bA (cB (m2 et (m2 aU (m2 bN (m2 aU (m2 bp (mV 1) (m2 aW (mC (.int 48271)) (m2 bp (m2 bp (mC (.int 614)) (mV 6)) (mV 6)))) (mC (.int 2147483647))) (mC (.int 16))) (m2 aW (mC (.int 2)) (m2 aU (m2 bN (mV 1) (mC (.int 64))) (mC (.int 2))))) (mC (.int 0))))
 (fV 5 (m2 aG (mV 2) (mV 6)))
 cn))
  (λn e=>∃(bm:List Str) (o6:Option W),e=[ab (W.d (aJ ac A)),ab (W.d (.int d)),ab (W.d (aj n2)),ab (W.d (.str i)),ab (W.d (.str j)),ab (W.d (aj bm)),o6]/\(∀x∈bm,x∈n2.take n)/\bm.Nodup) (c8 0 ((n2.length:Nat):Int)) 0 (λn x e hx ⟨bm,o6,he,hs,hnd⟩=>by
   subst he;obtain⟨hn,rfl⟩:=pM hx;rw[eV]at hs ⊢;have gx:n2[n]? = ab n2[n]:=dm hn;have ts:=IK gx;have new:=Av kC gx;have hl8:bm.length<=8:=d5 (kN hnd λx h=>tG (hs x h)) l8;have mono:∀y,y∈n2.take n->y∈n2.take (n+1):=λy hy=>by rw[ts];exact li _ hy
   have k1:614*(n:Int)*(n:Int)<614*64:=by have:(n:Int)*(n:Int)<=7*7:=Int.mul_le_mul (by omega) (by omega) (by omega) (by omega);rw[Int.mul_assoc];omega
   have k2:0<=614*(n:Int)*(n:Int):=Int.mul_nonneg (by omega) (by omega);obtain⟨v,ct⟩ : ∃v:Bool,cB (m2 et (m2 aU (m2 bN (m2 aU (m2 bp (mV 1) (m2 aW (mC (.int 48271)) (m2 bp (m2 bp (mC (.int 614)) (mV 6)) (mV 6)))) (mC (.int 2147483647))) (mC (.int 16))) (m2 aW (mC (.int 2)) (m2 aU (m2 bN (mV 1) (mC (.int 64))) (mC (.int 2))))) (mC (.int 0))) [ab (W.d (aJ ac A)),ab (W.d (.int d)),ab (W.d (aj n2)),ab (W.d (.str i)),ab (W.d (.str j)),ab (W.d (aj bm)),ab (W.d (.int (n:Int)))]=.ok v:=⟨_,cY (av (av (av (av (av rfl (av rfl (av (av rfl rfl ((qj _ _).trans (aE (h9 (by decide) (by decide))))) rfl ((qj _ _).trans (aE (nI (by omega) (by omega))))) (lH _ _)) ((qj _ _).trans (aE (nI (by omega) (by omega))))) rfl ((kK _ _).trans (aE (by decide)))) rfl ((div_ii _ _).trans (aE (g0 (by decide) (by decide))))) (av rfl (av (av rfl rfl ((div_ii _ _).trans (aE (g0 (by decide) (by decide))))) rfl ((kK _ _).trans (aE (by decide)))) (lH _ _)) ((kK _ _).trans (aE (by rw[<- hw];exact w0)))) rfl (sS _ _))⟩
   have ix:m2 aG (mV 2) (mV 6) [ab (W.d (aJ ac A)),ab (W.d (.int d)),ab (W.d (aj n2)),ab (W.d (.str i)),ab (W.d (.str j)),ab (W.d (aj bm)),ab (W.d (.int (n:Int)))]=.ok (.str n2[n]):=by refine av rfl rfl ?_;have:=z9 (cs:=n2) (i:=(n:Int)) (by omega) (by omega);rw[jI]at this;rw[show aG (aj n2) (.int (n:Int))=_ from this];simp[hn]
   cases v with
   |true=>
    refine⟨_,[ab (W.d (aJ ac A)),ab (W.d (.int d)),ab (W.d (aj n2)),ab (W.d (.str i)),ab (W.d (.str j)),ab (W.d (aj (bm++[n2[n]]))),ab (W.d (.int (n:Int)))],rfl,(fZ ct).trans ?_,bm++[n2[n]],_,rfl,λy hy=>?_,?_⟩
    ·rw[pI (d:=.str n2[n]) (ds:=bm.map D.str) ix rfl (by rw[aS];omega),<- F9];rfl
    ·rcases dZ.mp hy with z|z
     ·exact mono y (hs y z)
     ·rw[bC.mp z,ts];exact dX _ (bC.mpr rfl)
    ·exact iz.mpr ⟨hnd,by simp,λa ha b hb e=>by rw[bC.mp hb]at e;exact new (e ▸ hs a ha)⟩
   |false=>exact⟨_,_,rfl,(dr ct).trans rfl,bm,_,rfl,λy hy=>mono y (hs y hy),hnd⟩) [ab (W.d (aJ ac A)),ab (W.d (.int d)),ab (W.d (aj n2)),ab (W.d (.str i)),ab (W.d (.str j)),ab (W.d (aj [])),ae] ⟨[],ae,rfl,(by intro x h;cases h),(by simp)⟩
 subst he;have hs:∀x∈bm,x∈n2:=λx h=>tG (hs x h);obtain⟨hd,hif,hpe⟩ : ∃hd:List Str,(bA (cB (m2 et (m2 aU (m2 bN (mV 1) (mC (.int 128))) (mC (.int 2))) (mC (.int 1)))) (wT 5) cn) [ab (W.d (aJ ac A)),ab (W.d (.int d)),ab (W.d (aj n2)),ab (W.d (.str i)),ab (W.d (.str j)),ab (W.d (aj bm)),o6]=.ok (.nx [ab (W.d (aJ ac A)),ab (W.d (.int d)),ab (W.d (aj n2)),ab (W.d (.str i)),ab (W.d (.str j)),ab (W.d (aj hd)),o6])/\hd.Perm bm:=by
  have ct:cB (m2 et (m2 aU (m2 bN (mV 1) (mC (.int 128))) (mC (.int 2))) (mC (.int 1))) [ab (W.d (aJ ac A)),ab (W.d (.int d)),ab (W.d (aj n2)),ab (W.d (.str i)),ab (W.d (.str j)),ab (W.d (aj bm)),o6]=.ok (decide (d/128%2=1)):=cY (av (av (av rfl rfl ((div_ii _ _).trans (aE (g0 (by decide) (by decide))))) rfl ((kK _ _).trans (aE (by decide)))) rfl (sS _ _))
  by_cases h:d/128%2=1
  ·rw[cM h]at ct;refine⟨bm.reverse,(fZ ct).trans ?_,List.reverse_perm _⟩;show Rs.ok (Out.nx [_,_,_,_,_,ab (W.d (.lst (bm.map D.str).reverse)),_])=_;unfold aj;rw[List.map_reverse]
  ·rw[bx h]at ct;exact⟨bm,(dr ct).trans rfl,List.Perm.refl _⟩
 refine⟨i,j,hd,?_,⟨by rw[hi];exact qz az,s1 j jm,λe=>i1 (e ▸ jm),λx h=>s1 x (s2 x (hs x (hpe.mem_iff.mp h))),hpe.nodup_iff.mpr hnd,λh=>i1 (s2 i (hs i (hpe.mem_iff.mp h))),λh=>j2 (hs j (hpe.mem_iff.mp h))⟩⟩;unfold lE BW;rw[sK];rw[show([ab (W.d (aJ ac A)),ab (W.d (.int d))]++dE (7-2) ae)=[ab (W.d (aJ ac A)),ab (W.d (.int d)),ae,ae,ae,ae,ae]from rfl];rw[aR (e':=[ab (W.d (aJ ac A)),ab (W.d (.int d)),ab (W.d (aj ac)),ae,ae,ae,ae]) (cu ((kH (av rfl rfl (j9 ac A))).trans rfl))];have yc:∀(l:List Str) (e:Mi.Env),e[2]? = ab (ab (W.d (aj l)))->mN da [(mV 2)] e=.ok (.int ((l.length:Nat):Int)):=λl e h=>(kH (x:=aj l) (by unfold mV;rw[h])).trans (by unfold aj;rw[A7,aS]);have p1:lS 3 2 (m2 aU (mV 1) (mN da [(mV 2)])) [ab (W.d (aJ ac A)),ab (W.d (.int d)),ab (W.d (aj ac)),ae,ae,ae,ae]=.ok (.nx [ab (W.d (aJ ac A)),ab (W.d (.int d)),ab (W.d (aj n1)),ab (W.d (.str i)),ae,ae,ae]):=by unfold lS;rw[av (x:=.int d) (y:=.int ((ac.length:Nat):Int)) rfl (yc ac _ rfl) ((kK _ _).trans (aE l1)),aN,k7,aN,<- ha];show Rs.bind (jZ (ac.map D.str) a) _=_;rw[pa];rfl
 rw[aR p1];have p2:lS 4 2 (m2 aU (m2 bN (mV 1) (mC (.int 8))) (mN da [(mV 2)])) [ab (W.d (aJ ac A)),ab (W.d (.int d)),ab (W.d (aj n1)),ab (W.d (.str i)),ae,ae,ae]=.ok (.nx [ab (W.d (aJ ac A)),ab (W.d (.int d)),ab (W.d (aj n2)),ab (W.d (.str i)),ab (W.d (.str j)),ae,ae]):=by unfold lS;rw[av (x:=.int (d/8)) (y:=.int ((n1.length:Nat):Int)) (av rfl rfl ((div_ii _ _).trans (aE (g0 (by decide) (by decide))))) (yc n1 _ rfl) ((kK _ _).trans (aE l2)),aN,k7,aN,<- hb];show Rs.bind (jZ (n1.map D.str) b) _=_;rw[pb];rfl
 rw[aR p2];rw[aR (e':=[ab (W.d (aJ ac A)),ab (W.d (.int d)),ab (W.d (aj n2)),ab (W.d (.str i)),ab (W.d (.str j)),ab (W.d (aj [])),ae]) (cu (nq _))];rw[aR ((gG (ik (yc n2 _ rfl) (nC n2.length l8))).trans f),aR hif];have rt:bJ (wD (mN cH [(mV 3),(mV 4),(mV 5)])) [ab (W.d (aJ ac A)),ab (W.d (.int d)),ab (W.d (aj n2)),ab (W.d (.str i)),ab (W.d (.str j)),ab (W.d (aj hd)),o6]=.ok (.rt (.d (.lst [.str i,.str j,aj hd]))):=fN (cG ((JK rfl rfl rfl).trans (aE (by show(3:Nat)<=_;decide))));unfold mP;rw[rt];rfl
end Mr
namespace Mr
open PySem Mi
open Vp
structure Kn(A:List Ar)(bm:List Str)(x:Str)(way:List Str):Prop where
 hd:∃r,way=x::r
 st:∀(k:Nat) (u v:Str),way[k]? = ab u->way[k+1]? = ab v->(u,v)∈A
 inn:∀(k:Nat) (u:Str),way[k]? = ab u->k+1<way.length->u∉bm
theorem KP{ds:List Str}{y:Str}:aG (aj (ds++[y])) (.int (-1))=.ok (.str y):=by
 rw[AM (by simp)];have:nth (ds++[y]) ((ds++[y]).length-1)=y:=by unfold nth;rw[bB,dI,dH,kg (by omega),show ds.length+1-1-ds.length=0 by omega];rfl
 rw[this]
structure cm(ac:List Str)(A:List Ar)(bm:List Str)(i j:Str)(bU:List Str)(ways:List (List Str)):Prop where
 r2:2<=bU.length
 nd:bU.Nodup
 sub:∀x∈bU,x∈ac
 h0:nth bU 0=i
 hl:nth bU (bU.length-1)=j
 td:∀k,k+1<bU.length->tie A (nth bU k) (nth bU (k+1))=true
 ps:∀k,k+2<bU.length->mt A (zw bU k)=false->nth bU (k+1)∉bm
 wd:∃g:Str->List Str,ways=(meets A bU).map g/\∀x∈meets A bU,Kn A bm x (g x)/\(∀z∈g x,z∈ac)/\∃es z,g x=es++[z]/\z∈bm
section
variable{ac:List Str}{A:List Ar}{bm:List Str}
def inn(A:List Ar)(bU:List Str):List Nat:=(bn (bU.length-2)).filter λi=>mt A (zw bU i)
end
theorem y7{a b:E}{e:Mi.Env}{x y:List Str}(ha:a e=.ok (aj x))(hb:b e=.ok (aj y))(hl:x.length+y.length<=1000):m2 aW a b e=.ok (aj (x++y)):=by refine(av ha hb (Db _ _)).trans ?_;rw[aE (by rw[aS,aS];omega)];unfold aj;rw[fh]
structure Vl(ac:List Str)(A:List Ar)(ns bm:List Str):Prop where
 L:Lk ac A
 hs:∀x∈bm,x∈ac
 hn:bm.Nodup
 sb:∀x∈ns,x∈ac
 nn:ns.Nodup
 no:∀x∈ns,x∉bm
inductive ft(A:List Ar):Str->List Str->Str->Prop
 |nil (y:Str):ft A y [] y
 |cons {y z w:Str} {t:List Str}:tie A y z=true->ft A z t w->ft A y (z::t) w
theorem ft.fin{A:List Ar}{y w:Str}{t:List Str}(h:ft A y t w):t=[]/\y=w\/w∈t:=by
 induction h with
 |nil y=>exact .inl ⟨rfl,rfl⟩
 | @cons y z w t _ _ ih=>
  rcases ih with ⟨e,e2⟩|h
  ·exact .inr (by rw[e2];exact cC)
  ·exact .inr (cA _ h)
theorem ft.snoc{A:List Ar}{y w z:Str}{t:List Str}(h:ft A y t w)(a:tie A w z=true):ft A y (t++[z]) z:=by
 induction h with
 |nil y=>exact .cons a (.nil z)
 |cons b _ ih=>exact .cons b (ih a)
theorem ft.yP{A:List Ar}{y w z:Str}:∀{t:List Str},ft A y (t++[z]) w->w=z/\∃u,ft A y t u/\tie A u z=true:=λ{t}=>by
 induction t generalizing y with
 |nil=>
  intro h;cases h with
  |cons a h=>cases h;exact⟨rfl,y,.nil y,a⟩
 |cons x t ih=>
  intro h;cases h with
  |cons a h=>
   obtain⟨e,u,h1,h2⟩:=ih h;exact⟨e,u,.cons a h1,h2⟩
theorem ft.last{A:List Ar}{y w:Str}{t:List Str}(h:ft A y t w):nth (y::t) t.length=w:=by
 induction h with
 |nil y=>rfl
 | @cons y z w t _ _ ih=>exact ih
def gH(ac:List Str)(A:List Ar)(x:Str):List Str:=ac.filter λy=>tie A x y
def bL(ac:List Str)(A:List Ar)(l:List Str):List (Ky×D):=l.map λx=>(.inr x,aj (gH ac A x))
theorem FE{ac:List Str}{A:List Ar}{l:List Str}{x:Str}(h:x∉l):((bL ac A l).any λkv=>decide (kv.1=(.inr x:Ky)))=false:=by rw[xi];intro kv hk;obtain⟨y,hy,rfl⟩:=dq.mp hk;intro z;have:=qp z;simp only[Sum.inr.injEq]at this;exact h (this ▸ hy)
theorem FS{ac:List Str}{A:List Ar}{x:Str}:∀{l:List Str},x∈l->gU (bL ac A l) (.inr x:Ky)=ab (aj (gH ac A x)):=λ{l} h=>by
 unfold gU bL
 induction l with
 |nil=>cases h
 |cons y r ih=>
  rw[cD,jD];by_cases e:y=x
  ·subst e;rw[show decide (((.inr y:Ky),aj (gH ac A y)).1=(.inr y:Ky))=true from cM rfl];rfl
  ·rw[show decide (((.inr y:Ky),aj (gH ac A y)).1=(.inr x:Ky))=false from bx λz=>e (by simpa using z)];rcases bK.mp h with z|z
   ·exact absurd z.symm e
   ·exact ih z
theorem J7{ac:List Str}{A:List Ar}(nd:ac.Nodup)(n8:ac.length<=8):ly [.d (aJ ac A)]=.ok (.dk (bL ac A ac)):=by
 obtain⟨e',f,o2,he⟩:=ip (tg:=.n 2) (body:=(iN 1 (mV 2) (eu [ab 0,ab 2,ae] (c9 (m2 aG (mV 0) (mC (.int 0)))) (.n 2) (cB (aX lO [(wD (mV 0)),(wD (mV 1)),(wD (mV 2))])) (mV 2))))
  (λn e=>∃o2:Option W,e=[ab (W.d (aJ ac A)),ab (W.dk (bL ac A (ac.take n))),o2]) (ac.map D.str) 0 (λn x e hx ⟨o2,he⟩=>by
   subst he;rw[dw]at hx;obtain⟨x,hq,rfl⟩:=mH.mp hx;have hx:=hq;rw[eV];have xn:=i4 hx;have new:=Av nd hx;have ts:ac.take (n+1)=ac.take n++[x]:=by rw[xq,hx];rfl
   have cp:eu [ab 0,ab 2,ae] (c9 (m2 aG (mV 0) (mC (.int 0)))) (.n 2) (cB (aX lO [(wD (mV 0)),(wD (mV 1)),(wD (mV 2))])) (mV 2) [ab (W.d (aJ ac A)),ab (W.dk (bL ac A (ac.take n))),ab (W.d (.str x))]=.ok (aj (gH ac A x)):=by refine iy (iM (av rfl rfl (j9 _ _)) rfl) (by rw[aS];omega) ?_;exact lV D.str D.str _ _ λy hy=>⟨[ab (W.d (aJ ac A)),ab (W.d (.str x)),ab (W.d (.str y))],rfl,cY (jk rfl rfl rfl (Gk xn hy)),λ_=>rfl⟩
   refine⟨[ab (W.d (aJ ac A)),ab (W.dk (bL ac A (ac.take n))),ab (W.d (.str x))],[ab (W.d (aJ ac A)),ab (W.dk (bL ac A (ac.take (n+1)))),ab (W.d (.str x))],rfl,?_,_,rfl⟩;unfold iN;rw[cp,aN,show mV 2 [ab (W.d (aJ ac A)),ab (W.dk (bL ac A (ac.take n))),ab (W.d (.str x))]=.ok (.str x)from rfl,aN,show wV 1 [ab (W.d (aJ ac A)),ab (W.dk (bL ac A (ac.take n))),ab (W.d (.str x))]=.ok (W.dk (bL ac A (ac.take n)))from rfl,aN];have:wN (W.dk (bL ac A (ac.take n))) (.str x) (aj (gH ac A x))=.ok (W.dk (bL ac A (ac.take (n+1)))):=by show a6 ((bL ac A (ac.take n)).length<16777216) (Rs.ok (W.dk (Mi.putK (.inr x:Ky) (aj (gH ac A x)) (bL ac A (ac.take n)))))=_;rw[aE (by unfold bL;rw[aS,cO];omega)];unfold Mi.putK;rw[FE new,ay cW,ts];unfold bL;rw[fh];rfl
   rw[this,aN];rfl) [ab (W.d (aJ ac A)),ab (W.dk (bL ac A (ac.take 0))),ae] ⟨ae,rfl⟩
 subst he;rw[eV,aS,List.take_length]at f;unfold ly Dm;rw[HY];rw[show([ab (W.d (aJ ac A))]++dE (3-1) ae)=[ab (W.d (aJ ac A)),ae,ae]from rfl];rw[aR (e':=[ab (W.d (aJ ac A)),ab (W.dk (bL ac A (ac.take 0))),ae]) rfl];rw[aR ((gG (iM (av rfl rfl (j9 _ _)) rfl)).trans f)];rfl
section
variable(ac:List Str)(A:List Ar)(j:Str)
def rb:Nat->List Str->Str->List (List Str)
 |0,_,_=>[]
 |n+1,ds,y=>if y=j then[ds++[y]]else(gH ac A y).flatMap λz=>if z∈ds++[y]then[]else rb n (ds++[y]) z
variable{ac A j}
theorem q9{α β:Type}{f:α->List β}{m:Nat}:∀{l:List α},(∀x∈l,(f x).length<=m)->(l.flatMap f).length<=l.length*m
 |[],_=>by simp
 |x::r,h=>by
  rw[eD,bB,ce,Nat.succ_mul];have h1:=h x cC;have h2:=q9 (l:=r) λy hy=>h y (cA _ hy);omega
theorem K6(n8:ac.length<=8)(x:Str):(gH ac A x).length<=8:=by unfold gH;exact d5 (D1 _ _) n8
theorem CG(n8:ac.length<=8):∀(n:Nat) (ds:List Str) (y:Str),(rb ac A j n ds y).length<=8 ^ n
 |0,_,_=>by simp[rb]
 |n+1,ds,y=>by
  rw[rb];split
  ·simp only[ce,mD];exact Nat.pow_pos (by decide)
  ·have h1:=q9 (l:=gH ac A y) (f:=λz=>if z∈ds++[y]then[]else rb ac A j n (ds++[y]) z) (m:=8 ^ n) λz _=>by
    split
    ·exact fi _
    ·exact CG n8 n _ z
   refine d5 h1 ?_;rw[xG,Nat.mul_comm (8 ^ n)];exact Ee _ (K6 n8 y)
theorem By(n8:ac.length<=8):∀(n:Nat) (ds:List Str) (y:Str),n<=8->(ds++[y]).Nodup->(∀z∈ds++[y],z∈ac)->ac.length<n+(ds++[y]).length ->
 iE n [.dk (bL ac A ac),.d (aj (ds++[y])),.d (.str j)]=.ok (.d (.lst ((rb ac A j n ds y).map aj)))
 |0,ds,y,_,nd,sb,hl=>by
  have:=kN nd sb;omega
 |n+1,ds,y,hn,nd,sb,hl=>by
  have bl:=kN nd sb;have yn:y∈ac:=sb y (dX _ (bC.mpr rfl));rw[iE,sv];unfold Bt;rw[show([ab (W.dk (bL ac A ac)),ab (W.d (aj (ds++[y]))),ab (W.d (.str j))]++dE (5-3) ae)=[ab (W.dk (bL ac A ac)),ab (W.d (aj (ds++[y]))),ab (W.d (.str j)),ae,ae]from rfl];have ix:∀r:List (Option W),m2 aG (mV 1) (m1 gC (mC (.int 1))) (ab (W.dk (bL ac A ac))::ab (W.d (aj (ds++[y])))::r)=.ok (.str y):=λr=>av rfl rfl KP;have c1:cB (m2 et (m2 aG (mV 1) (m1 gC (mC (.int 1)))) (mV 2)) [ab (W.dk (bL ac A ac)),ab (W.d (aj (ds++[y]))),ab (W.d (.str j)),ae,ae]=.ok (decide (y=j)):=cY (av (ix _) rfl (wb _ _));rw[rb];by_cases yj:y=j
  ·rw[cM yj]at c1;rw[aw yj,mf ((fZ c1).trans (fN (cG (k5 rfl))))];rfl
  rw[bx yj]at c1;rw[ay yj,aR ((dr c1).trans rfl)];rw[aR (e':=[ab (W.dk (bL ac A ac)),ab (W.d (aj (ds++[y]))),ab (W.d (.str j)),ab (W.d (.lst [])),ae]) (cu (nq _))];have p8:8 ^ (n+1)<=16777216:=d5 (Ef (by decide) hn) (by decide);have tl:=CG (A:=A) (j:=j) n8 (n+1) ds y;rw[rb,ay yj]at tl;obtain⟨e',f,o4,he⟩:=CA (tg:=.n 4) (body:=(bA (cB (m2 iL (mV 4) (mV 1))) (sB 3 (aX (iE n) [(wV 0),(wD (m2 aW (mV 1) (mN cH [(mV 4)]))),(wD (mV 2))])) cn)) D.str (λz=>(if z∈ds++[y]then[]else rb ac A j n (ds++[y]) z).map aj)
   (λacc e=>∃o4:Option W,e=[ab (W.dk (bL ac A ac)),ab (W.d (aj (ds++[y]))),ab (W.d (.str j)),ab (W.d (.lst acc)),o4]) (gH ac A y) [] [ab (W.dk (bL ac A ac)),ab (W.d (aj (ds++[y]))),ab (W.d (.str j)),ab (W.d (.lst [])),ae] (by
    rw[<- iA,aS,mD];omega) ⟨ae,rfl⟩ (λz hz acc e hacc ⟨o4,he⟩=>by
    subst he;have zn:z∈ac:=(kl.mp hz).1;have c2:cB (m2 iL (mV 4) (mV 1)) [ab (W.dk (bL ac A ac)),ab (W.d (aj (ds++[y]))),ab (W.d (.str j)),ab (W.d (.lst acc)),ab (W.d (.str z))]=.ok (!decide (z∈ds++[y])):=cY (av rfl rfl (Ds _ _));by_cases zb:z∈ds++[y]
    ·rw[cM zb]at c2;refine⟨[ab (W.dk (bL ac A ac)),ab (W.d (aj (ds++[y]))),ab (W.d (.str j)),ab (W.d (.lst acc)),ab (W.d (.str z))],_,rfl,(dr c2).trans rfl,ab (W.d (.str z)),?_⟩;rw[aw zb,oj,jC]
    ·rw[bx zb]at c2;rw[ay zb]at hacc ⊢;have nd':((ds++[y])++[z]).Nodup:=iz.mpr ⟨nd,by simp,λa ha b hb e=>by rw[bC.mp hb]at e;exact zb (e ▸ ha)⟩;have sb':∀w∈(ds++[y])++[z],w∈ac:=λw hw=>by
      rcases dZ.mp hw with q|q
      ·exact sb w q
      ·rw[bC.mp q];exact zn
     have ih:=By n8 n (ds++[y]) z (by omega) nd' sb' (by rw[bB (bs:=[z]),dI];omega);have ad:m2 aW (mV 1) (mN cH [(mV 4)]) [ab (W.dk (bL ac A ac)),ab (W.d (aj (ds++[y]))),ab (W.d (.str j)),ab (W.d (.lst acc)),ab (W.d (.str z))]=.ok (aj ((ds++[y])++[z])):=y7 (x:=ds++[y]) (y:=[z]) rfl (k5 rfl) (by rw[dI];omega);refine⟨[ab (W.dk (bL ac A ac)),ab (W.d (aj (ds++[y]))),ab (W.d (.str j)),ab (W.d (.lst acc)),ab (W.d (.str z))],[ab (W.dk (bL ac A ac)),ab (W.d (aj (ds++[y]))),ab (W.d (.str j)),ab (W.d (.lst (acc++(rb ac A j n (ds++[y]) z).map aj))),ab (W.d (.str z))],rfl,(fZ c2).trans ?_,_,rfl⟩;unfold sB;rw[jk (x:=.dk (bL ac A ac)) (z:=.d (.str j)) rfl (cG ad) rfl ih,aN];show Rs.bind (Rs.ok acc) _=_;rw[aN];show a6 (acc.length+((rb ac A j n (ds++[y]) z).map aj).length<=16777216) _=_;rw[aE hacc];rfl)
  subst he;have it:c9 (sR 0 (m2 aG (mV 1) (m1 gC (mC (.int 1))))) [ab (W.dk (bL ac A ac)),ab (W.d (aj (ds++[y]))),ab (W.d (.str j)),ab (W.d (.lst [])),ae]=.ok ((gH ac A y).map D.str):=by refine iM (x:=aj (gH ac A y)) ?_ rfl;unfold sR;rw[ix,aN,show wV 0 [ab (W.dk (bL ac A ac)),ab (W.d (aj (ds++[y]))),ab (W.d (.str j)),ab (W.d (.lst [])),ae]=.ok (W.dk (bL ac A ac))from rfl,aN];show Rs.bind (Rs.ok (gU (bL ac A ac) (.inr y:Ky))) cN=_;rw[FS yn];rfl
  rw[aR ((gG it).trans f),ll,<- iA];rfl
end
section
variable{ac:List Str}{A:List Ar}{j:Str}
theorem wG:∀(n:Nat) (ds:List Str) (y:Str),(ds++[y]).Nodup->(∀z∈ds++[y],z∈ac)->ac.length<n+(ds++[y]).length->∀r,r∈rb ac A j n ds y↔∃t,r=ds++y::t/\ft A y t j/\r.Nodup/\∀z∈t,z∈ac
 |0,ds,y,nd,sb,hl,r=>by
  have:=kN nd sb;omega
 |n+1,ds,y,nd,sb,hl,r=>by
  have bl:=kN nd sb;rw[rb];by_cases yj:y=j
  ·rw[aw yj,bC];constructor
   ·intro e;exact⟨[],e,by rw[yj];exact .nil j,by rw[e];exact nd,λz hz=>nomatch hz⟩
   ·rintro⟨t,e,tk,rn,_⟩;rcases tk.fin with ⟨e2,_⟩|h
    ·rw[e,e2]
    ·exfalso;rw[e]at rn;have:=(iz.mp rn).2.1;rw[iB]at this;exact this.1 (by rw[yj];exact h)
  ·rw[ay yj,kj];constructor
   ·rintro⟨z,hz,h⟩;obtain⟨zn,zt⟩:=kl.mp hz;by_cases zb:z∈ds++[y]
    ·rw[aw zb]at h;cases h
    ·rw[ay zb]at h;have nd':((ds++[y])++[z]).Nodup:=iz.mpr ⟨nd,by simp,λa ha b hb e=>by rw[bC.mp hb]at e;exact zb (e ▸ ha)⟩;have sb':∀w∈(ds++[y])++[z],w∈ac:=λw hw=>by
      rcases dZ.mp hw with q|q
      ·exact sb w q
      ·rw[bC.mp q];exact zn
     obtain⟨t,e,tk,rn,tn⟩:=(wG n (ds++[y]) z nd' sb' (by rw[bB (bs:=[z]),dI];omega) r).mp h;refine⟨z::t,by rw[e,gp];rfl,.cons zt tk,rn,λw hw=>?_⟩;rcases bK.mp hw with q|q
     ·rw[q];exact zn
     ·exact tn w q
   ·rintro⟨t,e,tk,rn,tn⟩;cases tk with
    |nil=>exact absurd rfl yj
    | @cons _ z _ t a tk=>
     have zn:z∈ac:=tn z cC;have e2:r=(ds++[y])++z::t:=by rw[e,gp];rfl
     have zb:z∉ds++[y]:=λh=>by
      rw[e2]at rn;exact(iz.mp rn).2.2 z h z cC rfl
     refine⟨z,kl.mpr ⟨zn,a⟩,?_⟩;rw[ay zb];have nd':((ds++[y])++[z]).Nodup:=iz.mpr ⟨nd,by simp,λa ha b hb e=>by rw[bC.mp hb]at e;exact zb (e ▸ ha)⟩;have sb':∀w∈(ds++[y])++[z],w∈ac:=λw hw=>by
      rcases dZ.mp hw with q|q
      ·exact sb w q
      ·rw[bC.mp q];exact zn
     exact(wG n (ds++[y]) z nd' sb' (by rw[bB (bs:=[z]),dI];omega) r).mpr ⟨t,e2,tk,rn,λw hw=>tn w (cA _ hw)⟩
theorem sC{α β:Type}{f:α->List β}:∀{l:List α},l.Nodup->(∀x∈l,(f x).Nodup)->(∀x∈l,∀y∈l,∀b,b∈f x->b∈f y->x=y)->(l.flatMap f).Nodup
 |[],_,_,_=>by simp
 |x::r,nd,h1,h2=>by
  rw[iB]at nd;rw[eD];refine iz.mpr ⟨h1 x cC,sC nd.2 (λy hy=>h1 y (cA _ hy)) (λy hy z hz=>h2 y (cA _ hy) z (cA _ hz)),λa ha b hb e=>?_⟩;subst e;obtain⟨y,hy,hb⟩:=kj.mp hb;have:=h2 x cC y (cA _ hy) a ha hb;exact nd.1 (this ▸ hy)
theorem nz:∀(n:Nat) (ds:List Str) (y:Str) (r:List Str),r∈rb ac A j n ds y->∃t,r=ds++y::t
 |0,_,_,_,h=>by rw[rb]at h;cases h
 |n+1,ds,y,r,h=>by
  rw[rb]at h;split at h
  ·exact⟨[],bC.mp h⟩
  ·obtain⟨z,_,h⟩:=kj.mp h;split at h
   ·cases h
   ·obtain⟨t,e⟩:=nz n _ z r h;exact⟨z::t,by rw[e,gp];rfl⟩
theorem Ay(nd:ac.Nodup):∀(n:Nat) (ds:List Str) (y:Str),(rb ac A j n ds y).Nodup
 |0,_,_=>by rw[rb];exact .nil
 |n+1,ds,y=>by
  rw[rb];split
  ·simp
  ·refine sC (nd.sublist D5) (λz _=>?_) λx _ z _ b h1 h2=>?_
   ·split
    ·exact .nil
    ·exact Ay nd n _ z
   ·split at h1
    ·cases h1
    split at h2
    ·cases h2
    obtain⟨t1,e1⟩:=nz n _ x b h1;obtain⟨t2,e2⟩:=nz n _ z b h2;rw[e1]at e2;have:=DW e2;injection this
def SR(ac:List Str)(A:List Ar)(i j:Str)(r:List Str):Prop:=∃t,r=i::t/\ft A i t j/\r.Nodup/\∀z∈t,z∈ac
theorem zu(nd:ac.Nodup)(n8:ac.length<=8){i:Str}(hi:i∈ac)(hj:j∈ac)(ij:i≠j):i0 [.d (aJ ac A),.d (.str i),.d (.str j)]=.ok (.d (.lst ((rb ac A j 8 [] i).map aj))):=by
 have sb:∀z∈([]:List Str)++[i],z∈ac:=λz hz=>by rw[ll]at hz;rw[bC.mp hz];exact hi
 have hb:=By (A:=A) (j:=j) n8 8 [] i (by decide) (by simp) sb (by simp;omega);unfold i0 BL;rw[sv];rw[show([ab (W.d (aJ ac A)),ab (W.d (.str i)),ab (W.d (.str j))]++dE (3-3) ae)=[ab (W.d (aJ ac A)),ab (W.d (.str i)),ab (W.d (.str j))]from rfl];have asks:=GB (ac:=ac) (asked:=[i,j]) (λx hx=>by
  rcases bK.mp hx with rfl|z
  ·exact hi
  ·rw[bC.mp z];exact hj) (by simp[ij]) (by simp)
 rw[aR (e':=[ab (W.d (aJ ac A)),ab (W.d (.str i)),ab (W.d (.str j))]) (by unfold iR;rw[call2 (y:=.d (aj [i,j])) (cG (av rfl rfl (j9 ac A))) (cG (zh rfl rfl)) asks];rfl)];have nw:kM ly [(wD (mV 0))] [ab (W.d (aJ ac A)),ab (W.d (.str i)),ab (W.d (.str j))]=.ok (.dk (bL ac A ac)):=by show ly [.d (aJ ac A)]=_;exact J7 nd n8
 rw[fN (cG (jk (y:=.d (aj ([]++[i]))) nw (cG (k5 rfl)) rfl hb))];rfl
theorem yG(n8:ac.length<=8){i:Str}(hi:i∈ac)(r:List Str):r∈rb ac A j 8 [] i↔SR ac A i j r:=by
 have sb:∀z∈([]:List Str)++[i],z∈ac:=λz hz=>by rw[ll]at hz;rw[bC.mp hz];exact hi
 rw[wG 8 [] i (by simp) sb (by simp;omega) r];exact bq
variable(ac A j) in
def f7(r:List Str)(z:Str):Bool:=!decide (z∈r)&&(!decide (z=j)&&tie A (nth r (r.length-1)) z)
variable(ac A j) in
def gr(i:Str):Nat->List (List Str)
 |0=>[[i]]
 |k+1=>(gr i k).flatMap λr=>(ac.filter (f7 A j r)).map λz=>r++[z]
variable(ac A j) in
def du(i:Str):Nat->List (List Str)
 |0=>[]
 |k+1=>du i k++(gr ac A j i k).flatMap λr=>if tie A (nth r (r.length-1)) j=true then[r++[j]]else[]
theorem vS(n8:ac.length<=8)(i:Str):∀k,(gr ac A j i k).length<=8 ^ k
 |0=>by simp[gr]
 |k+1=>by
  rw[gr];refine d5 (q9 (m:=8) λr _=>?_) ?_
  ·rw[aS];exact d5 (D1 _ _) n8
  ·rw[xG];exact Ee _ (vS n8 i k)
theorem Bd(n8:ac.length<=8)(i:Str):∀k,(du ac A j i k).length<=8 ^ k
 |0=>by simp[du]
 |k+1=>by
  rw[du,bB];have h1:=Bd n8 i k;have h2:((gr ac A j i k).flatMap λr=>if tie A (nth r (r.length-1)) j=true then[r++[j]]else[]).length<=(gr ac A j i k).length*1:=q9 λr _=>by split<;>simp
  have h3:=vS (A:=A) (j:=j) n8 i k;rw[xG];omega
theorem z8{i:Str}{t:List Str}{z:Str}(nd:(i::t).Nodup)(hz:z∉i::t):(i::(t++[z])).Nodup:=by rw[<- mB];exact iz.mpr ⟨nd,by simp,λa ha b hb e=>by rw[bC.mp hb]at e;exact hz (e ▸ ha)⟩
theorem nJ{i:Str}(ij:i≠j):∀(k:Nat) (r:List Str),r∈gr ac A j i k↔∃t y,r=i::t/\ft A i t y/\r.Nodup/\(∀z∈t,z∈ac)/\j∉r/\t.length=k
 |0,r=>by
  rw[gr,bC];constructor
  ·intro e;subst e;exact⟨[],i,rfl,.nil i,by simp,(by intro z hz;cases hz),by simp[ij.symm],rfl⟩
  ·rintro⟨t,y,e,_,_,_,_,hl⟩;rw[e,qu hl]
 |k+1,r=>by
  rw[gr,kj];constructor
  ·rintro⟨r',hr,h⟩;obtain⟨z,hz,e⟩:=dq.mp h;obtain⟨zn,zo⟩:=kl.mp hz;obtain⟨t,y,e1,tk,nd,tn,nj,tl⟩:=(nJ ij k r').mp hr;unfold f7 at zo;rw[fS,fS,qJ,qJ,mO,mO]at zo;obtain⟨z1,z2,z3⟩:=zo;subst e e1;rw[ce,qH,tk.last]at z3;refine⟨t++[z],z,rfl,tk.snoc z3,z8 nd z1,λw hw=>?_,λh=>?_,by rw[bB,dI,tl]⟩
   ·rcases dZ.mp hw with q|q
    ·exact tn w q
    ·rw[bC.mp q];exact zn
   ·rcases dZ.mp h with q|q
    ·exact nj q
    ·exact z2 (bC.mp q).symm
  ·rintro⟨t,y,e,tk,nd,tn,nj,tl⟩;obtain⟨t',z,rfl⟩ : ∃t' z,t=t'++[z]:=by
    cases ht:t.reverse with
    |nil=>rw[DY.mp ht]at tl;cases tl
    |cons z q=>exact⟨q.reverse,z,by rw[<- tH t,ht,mz]⟩
   obtain⟨_,u,tk',a⟩:=tk.yP;subst e;rw[<- mB]at nd nj;obtain⟨n1,_,n3⟩:=iz.mp nd;refine⟨i::t',(nJ ij k _).mpr ⟨t',u,rfl,tk',n1,λw hw=>tn w (li _ hw),λh=>nj (li _ h),by rw[bB,dI]at tl;omega⟩,dq.mpr ⟨z,kl.mpr ⟨tn z (dX _ (bC.mpr rfl)),?_⟩,rfl⟩⟩;unfold f7;rw[fS,fS,qJ,qJ,mO,mO];refine⟨λh=>n3 z h z (bC.mpr rfl) rfl,λh=>nj (dX _ (by rw[h];exact bC.mpr rfl)),?_⟩;rw[ce,qH,tk'.last];exact a
theorem wU{α:Type}{a b:List α}{x y:α}(h:a++[x]=b++[y]):a=b/\x=y:=by have:=congrArg List.reverse h;rw[D6,D6]at this;simp only[mz,List.reverse_nil,ll,mB,List.cons.injEq]at this;exact⟨by rw[<- tH a,this.2,tH],this.1⟩
theorem z7(nd:ac.Nodup)(i:Str):∀k,(gr ac A j i k).Nodup
 |0=>by rw[gr];simp
 |k+1=>by
  rw[gr];refine sC (z7 nd i k) (λr _=>?_) λx _ y _ b h1 h2=>?_
  ·refine qy.mpr ((nd.sublist D5).imp λ{a b} h e=>h (wU e).2)
  ·obtain⟨z1,_,e1⟩:=dq.mp h1;obtain⟨z2,_,e2⟩:=dq.mp h2;rw[<- e2]at e1;exact(wU e1).1
theorem uR{i:Str}(ij:i≠j)(hj:j∈ac):∀(k:Nat) (r:List Str),r∈du ac A j i k↔∃t,r=i::t/\ft A i t j/\r.Nodup/\(∀z∈t,z∈ac)/\t.length<=k
 |0,r=>by
  rw[du];constructor
  ·intro h;cases h
  ·rintro⟨t,e,tk,_,_,tl⟩;have t0:t=[]:=qu (by omega);rw[t0]at tk;cases tk;exact absurd rfl ij
 |k+1,r=>by
  rw[du,dZ,uR ij hj k r,kj];constructor
  ·rintro(⟨t,e,tk,nd,tn,tl⟩|⟨r',hr,h⟩)
   ·exact⟨t,e,tk,nd,tn,by omega⟩
   ·split at h
    case isFalse=>cases h
    case isTrue a=>
     rw[bC]at h;obtain⟨t,y,e1,tk,nd,tn,nj,tl⟩:=(nJ ij k r').mp hr;subst h e1;rw[ce,qH,tk.last]at a;refine⟨t++[j],rfl,tk.snoc a,z8 nd nj,λw hw=>?_,by rw[bB,dI,tl];exact bg _⟩;rcases dZ.mp hw with q|q
     ·exact tn w q
     ·rw[bC.mp q];exact hj
  ·rintro⟨t,e,tk,nd,tn,tl⟩;by_cases hk:t.length<=k
   ·exact .inl ⟨t,e,tk,nd,tn,hk⟩
   ·refine .inr ?_;obtain⟨t',z,rfl⟩ : ∃t' z,t=t'++[z]:=by
     cases ht:t.reverse with
     |nil=>rw[DY.mp ht]at hk;exact absurd (fi _) hk
     |cons z q=>exact⟨q.reverse,z,by rw[<- tH t,ht,mz]⟩
    obtain⟨ez,u,tk',a⟩:=tk.yP;subst ez;subst e;rw[<- mB]at nd;obtain⟨n1,_,n3⟩:=iz.mp nd;have lt:t'.length=k:=by rw[bB,dI]at tl hk;omega
    refine⟨i::t',(nJ ij k _).mpr ⟨t',u,rfl,tk',n1,λw hw=>tn w (li _ hw),λh=>n3 j h j (bC.mpr rfl) rfl,lt⟩,?_⟩;rw[aw (by rw[ce,qH,tk'.last];exact a)];exact bC.mpr rfl
theorem Au(nd:ac.Nodup){i:Str}(ij:i≠j)(hj:j∈ac):∀k,(du ac A j i k).Nodup
 |0=>by rw[du];exact .nil
 |k+1=>by
  rw[du];refine iz.mpr ⟨Au nd ij hj k,sC (z7 nd i k) (λr _=>by split<;>simp) λx _ y _ b h1 h2=>?_,λa ha b hb e=>?_⟩
  ·split at h1
   case isFalse=>cases h1
   split at h2
   case isFalse=>cases h2
   rw[bC]at h1 h2;rw[h1]at h2;exact(wU h2).1
  ·subst e;obtain⟨t,e,_,_,_,tl⟩:=(uR ij hj k a).mp ha;obtain⟨r,hr,h⟩:=kj.mp hb;split at h
   case isFalse=>cases h
   rw[bC]at h;obtain⟨t',y,e1,_,_,_,_,tl'⟩:=(nJ ij k r).mp hr;have:a.length=t'.length+2:=by rw[h,e1,bB,ce,dI]
   have:a.length=t.length+1:=by rw[e,ce]
   omega
theorem Js{i:Str}(ij:i≠j)(hi:i∈ac)(hj:j∈ac)(r:List Str):r∈du ac A j i ac.length↔SR ac A i j r:=by
 rw[uR ij hj];constructor
 ·rintro⟨t,e,tk,nd,tn,_⟩;exact⟨t,e,tk,nd,tn⟩
 ·rintro⟨t,e,tk,nd,tn⟩;refine⟨t,e,tk,nd,tn,?_⟩;subst e;exact kN (iB.mp nd).2 tn
end
theorem u4{α:Type}{tg:Tg}{body:S}(f:α->D)(g h:α->List D)(St:List D->List D->Mi.Env->Prop):∀(xs:List α) (a b:List D) (e:Mi.Env),a.length+(xs.flatMap g).length<=16777216->b.length+(xs.flatMap h).length<=16777216->St a b e ->
 (∀x∈xs,∀a b e,a.length+(g x).length<=16777216->b.length+(h x).length<=16777216->St a b e->∃e1 e2,tg.put (f x) e=.ok e1/\body e1=.ok (.nx e2)/\St (a++g x) (b++h x) e2) ->
 ∃e',gf tg body (xs.map f) e=.ok (.nx e')/\St (a++xs.flatMap g) (b++xs.flatMap h) e'
 |[],a,b,e,_,_,h,_=>⟨e,rfl,by simpa using h⟩
 |x::r,a,b,e,ha,hb,hs,hh=>by
  rw[eD,bB]at ha hb;obtain⟨e1,e2,h1,h2,h3⟩:=hh x cC a b e (by omega) (by omega) hs;obtain⟨e',h4,h5⟩:=u4 f g h St r (a++g x) (b++h x) e2 (by rw[bB];omega) (by rw[bB];omega) h3 λy hy=>hh y (cA _ hy);refine⟨e',?_,by rw[eD,eD,<- gp,<- gp];exact h5⟩;rw[cD,gf,h1,aN,h2,aN];exact h4
section
variable{ac:List Str}{A:List Ar}{j:Str}
def dz(A:List Ar)(j:Str)(r:List Str)(z:Str):List (List Str):=if(decide (z=j)&&tie A (nth r (r.length-1)) z)=true then[r++[z]]else[]
def lz(A:List Ar)(j:Str)(r:List Str)(z:Str):List (List Str):=if f7 A j r z=true then[r++[z]]else[]
theorem uM(r:List Str):∀l:List Str,l.flatMap (lz A j r)=(l.filter (f7 A j r)).map λz=>r++[z]
 |[]=>rfl
 |z::l=>by
  rw[eD,uM r l,List.filter_cons];unfold lz;split<;>rfl
theorem Ak(r:List Str):∀l:List Str,j∉l->l.flatMap (dz A j r)=[]
 |[],_=>rfl
 |z::l,h=>by
  rw[eD,Ak r l λq=>h (cA _ q)];unfold dz;rw[ay];rfl;rw[fS,rD];exactλq=>h (by rw[q.1];exact cC)
theorem vm(r:List Str):∀l:List Str,l.Nodup->j∈l->l.flatMap (dz A j r)=if tie A (nth r (r.length-1)) j=true then[r++[j]]else[]
 |[],_,h=>nomatch h
 |z::l,nd,h=>by
  rw[iB]at nd;rw[eD];by_cases e:z=j
  ·subst e;rw[Ak r l nd.1,jC];unfold dz;rw[cM rfl,Bool.true_and]
  ·rw[vm r l nd.2 ((bK.mp h).resolve_left (dS e))];unfold dz;rw[bx e,Bool.false_and,ay cW];rfl
abbrev ii(ac:List Str)(A:List Ar)(i j:Str)(a:List D)(g:D)(o5:Option W)(b:List D)(o7 o8:Option W):Mi.Env:=[ab (W.d (aJ ac A)),ab (W.d (.str i)),ab (W.d (.str j)),ab (W.d (.lst a)),ab (W.d g),o5,ab (W.d (.lst b)),o7,o8]
abbrev rF:S:=(bA (fb (cB (m2 et (mV 8) (mV 2))) (cB (aX iP [(wD (mV 0)),(wD (m2 aG (mV 7) (m1 gC (mC (.int 1))))),(wD (mV 8))])))
 (fV 3 (m2 aW (mV 7) (mN cH [(mV 8)])))
 (bA (fb (cB (m2 iL (mV 8) (mV 7))) (fb (cB (m2 fO (mV 8) (mV 2))) (cB (aX iP [(wD (mV 0)),(wD (m2 aG (mV 7) (m1 gC (mC (.int 1))))),(wD (mV 8))]))))
 (fV 6 (m2 aW (mV 7) (mN cH [(mV 8)])))
 cn))
theorem Fm{i:Str}{g:D}{o5:Option W}{r:List Str}(r1:1<=r.length)(r9:r.length<=9)(z:Str)(a b:List D)(o8:Option W)(ha:a.length+((dz A j r z).map aj).length<=16777216)(hb:b.length+((lz A j r z).map aj).length<=16777216) :
 rF (ii ac A i j a g o5 b (ab (W.d (aj r))) (ab (W.d (.str z))))=.ok (.nx (ii ac A i j (a++(dz A j r z).map aj) g o5 (b++(lz A j r z).map aj) (ab (W.d (aj r))) (ab (W.d (.str z))))):=by
 have ix:m2 aG (mV 7) (m1 gC (mC (.int 1))) (ii ac A i j a g o5 b (ab (W.d (aj r))) (ab (W.d (.str z))))=.ok (.str (nth r (r.length-1))):=av rfl rfl (AM r1);have ti:cB (aX iP [(wD (mV 0)),(wD (m2 aG (mV 7) (m1 gC (mC (.int 1))))),(wD (mV 8))]) (ii ac A i j a g o5 b (ab (W.d (aj r))) (ab (W.d (.str z))))=.ok (tie A (nth r (r.length-1)) z):=cY (jk rfl (cG ix) rfl (Jl _ _));have c1:fb (cB (m2 et (mV 8) (mV 2))) (cB (aX iP [(wD (mV 0)),(wD (m2 aG (mV 7) (m1 gC (mC (.int 1))))),(wD (mV 8))])) (ii ac A i j a g o5 b (ab (W.d (aj r))) (ab (W.d (.str z))))=.ok (decide (z=j)&&tie A (nth r (r.length-1)) z):=vQ (cY (av rfl rfl (wb _ _))) λ_=>ti;have c2:fb (cB (m2 iL (mV 8) (mV 7))) (fb (cB (m2 fO (mV 8) (mV 2))) (cB (aX iP [(wD (mV 0)),(wD (m2 aG (mV 7) (m1 gC (mC (.int 1))))),(wD (mV 8))]))) (ii ac A i j a g o5 b (ab (W.d (aj r))) (ab (W.d (.str z))))=.ok (f7 A j r z):=vQ (cY (av rfl rfl (Ds _ _))) λ_=>vQ (cY (av rfl rfl (II _ _))) λ_=>ti;have ad:m2 aW (mV 7) (mN cH [(mV 8)]) (ii ac A i j a g o5 b (ab (W.d (aj r))) (ab (W.d (.str z))))=.ok (aj (r++[z])):=y7 (x:=r) (y:=[z]) rfl (k5 rfl) (by rw[dI];omega);unfold dz at ha ⊢;unfold lz at hb ⊢;cases h1:(decide (z=j)&&tie A (nth r (r.length-1)) z)with
 |true=>
  rw[h1]at c1;have h2:f7 A j r z=false:=by rw[fS,rD]at h1;unfold f7;rw[cM h1.1];simp
  rw[h2,aw rfl,ay cW,oj,jC];rw[h1,aw rfl]at ha;refine(fZ c1).trans ?_;rw[pI (d:=aj (r++[z])) (ds:=a) ad rfl (by rw[aS,dI]at ha;omega)];rfl
 |false=>
  rw[h1]at c1;rw[ay cW,oj,jC];refine(dr c1).trans ?_;cases h2:f7 A j r z with
  |true=>
   rw[h2]at c2;rw[h2,aw rfl]at hb;rw[aw rfl];refine(fZ c2).trans ?_;rw[pI (d:=aj (r++[z])) (ds:=b) ad rfl (by rw[aS,dI]at hb;omega)];rfl
  |false=>
   rw[h2]at c2;rw[ay cW,oj,jC];exact(dr c2).trans rfl
theorem Iq(nd:ac.Nodup)(n8:ac.length<=8){i:Str}(ij:i≠j)(hi:i∈ac)(hj:j∈ac):m4 [.d (aJ ac A),.d (.str i),.d (.str j)]=.ok (.d (.lst ((du ac A j i ac.length).map aj))):=by
 have p8:∀k,k<=8->8 ^ k<=16777216:=λk hk=>d5 (Ef (by decide) hk) (by decide);obtain⟨e',f,o5,o6,o7,o8,he⟩:=ip (tg:=.n 5) (body:=(aP (bE 6 (mN cH []))
 (aP (dM (c9 (mV 4)) (.n 7)
 (dM (c9 (m2 aG (mV 0) (mC (.int 0)))) (.n 8) rF))
 (sN 4 6))))
  (λn e=>∃o5 o6 o7 o8:Option W,e=[ab (W.d (aJ ac A)),ab (W.d (.str i)),ab (W.d (.str j)),ab (W.d (.lst ((du ac A j i n).map aj))),ab (W.d (.lst ((gr ac A j i n).map aj))),o5,o6,o7,o8]) (c8 0 (ac.length:Int)) 0 (λn x e hx ⟨o5,o6,o7,o8,he⟩=>by
   subst he;obtain⟨hn,rfl⟩:=pM hx;rw[eV];have b1:((du ac A j i n).map aj).length+((gr ac A j i n).flatMap λr=>(ac.flatMap (dz A j r)).map aj).length<=16777216:=by have h1:=Bd (A:=A) (j:=j) n8 i (n+1);rw[du,bB]at h1;rw[<- iA,aS,aS];rw[show(λr=>ac.flatMap (dz A j r))=λr=>if tie A (nth r (r.length-1)) j=true then[r++[j]]else[]from funext λr=>vm r ac nd hj];exact d5 h1 (p8 _ (by omega))
   have b2:([]:List D).length+((gr ac A j i n).flatMap λr=>(ac.flatMap (lz A j r)).map aj).length<=16777216:=by have h1:=vS (A:=A) (j:=j) n8 i (n+1);rw[gr]at h1;rw[<- iA,aS,mD,eV];rw[show(λr=>ac.flatMap (lz A j r))=λr=>(ac.filter (f7 A j r)).map λz=>r++[z]from funext λr=>uM r ac];exact d5 h1 (p8 _ (by omega))
   obtain⟨e2,f2,p7,p8',he2⟩:=u4 (tg:=.n 7) (body:=dM (c9 (m2 aG (mV 0) (mC (.int 0)))) (.n 8) rF) aj (λr=>(ac.flatMap (dz A j r)).map aj) (λr=>(ac.flatMap (lz A j r)).map aj)
    (λa b e=>∃o7 o8:Option W,e=ii ac A i j a (.lst ((gr ac A j i n).map aj)) (ab (W.d (.int (n:Int)))) b o7 o8) (gr ac A j i n) ((du ac A j i n).map aj) [] (ii ac A i j ((du ac A j i n).map aj) (.lst ((gr ac A j i n).map aj)) (ab (W.d (.int (n:Int)))) [] o7 o8) b1 b2 ⟨o7,o8,rfl⟩ (λr hr a b e ha hb ⟨o7,o8,he⟩=>by
     subst he;obtain⟨t,y,er,_,rn,tn,_,tl⟩:=(nJ ij n r).mp hr;have r1:1<=r.length:=by rw[er,ce];omega
     have r9:r.length<=9:=by rw[er,ce];omega
     obtain⟨e3,f3,q8,he3⟩:=u4 (tg:=.n 8) (body:=rF) D.str (λz=>(dz A j r z).map aj) (λz=>(lz A j r z).map aj)
      (λa b e=>∃o8:Option W,e=ii ac A i j a (.lst ((gr ac A j i n).map aj)) (ab (W.d (.int (n:Int)))) b (ab (W.d (aj r))) o8) ac a b (ii ac A i j a (.lst ((gr ac A j i n).map aj)) (ab (W.d (.int (n:Int)))) b (ab (W.d (aj r))) o8) (by rw[<- iA];exact ha) (by rw[<- iA];exact hb) ⟨o8,rfl⟩ (λz hz a b e ha hb ⟨o8,he⟩=>by
       subst he;exact⟨_,_,rfl,Fm r1 r9 z a b o8 ha hb,_,rfl⟩)
     subst he3;rw[<- iA,<- iA]at f3;exact⟨_,_,rfl,(gG (iM (av rfl rfl (j9 _ _)) rfl)).trans f3,_,_,rfl⟩)
   subst he2;have ed:(du ac A j i n).map aj++(gr ac A j i n).flatMap (λr=>(ac.flatMap (dz A j r)).map aj)=(du ac A j i (n+1)).map aj:=by rw[<- iA,<- fh,du];rw[show(λr=>ac.flatMap (dz A j r))=λr=>if tie A (nth r (r.length-1)) j=true then[r++[j]]else[]from funext λr=>vm r ac nd hj]
   have eg:([]:List D)++(gr ac A j i n).flatMap (λr=>(ac.flatMap (lz A j r)).map aj)=(gr ac A j i (n+1)).map aj:=by rw[ll,<- iA,gr];rw[show(λr=>ac.flatMap (lz A j r))=λr=>(ac.filter (f7 A j r)).map λz=>r++[z]from funext λr=>uM r ac]
   rw[ed,eg]at f2;refine⟨[ab (W.d (aJ ac A)),ab (W.d (.str i)),ab (W.d (.str j)),ab (W.d (.lst ((du ac A j i n).map aj))),ab (W.d (.lst ((gr ac A j i n).map aj))),ab (W.d (.int (n:Int))),o6,o7,o8],[ab (W.d (aJ ac A)),ab (W.d (.str i)),ab (W.d (.str j)),ab (W.d (.lst ((du ac A j i (n+1)).map aj))),ab (W.d (.lst ((gr ac A j i (n+1)).map aj))),ab (W.d (.int (n:Int))),ae,p7,p8'],rfl,?_,_,_,_,_,rfl⟩;rw[aR (e':=ii ac A i j ((du ac A j i n).map aj) (.lst ((gr ac A j i n).map aj)) (ab (W.d (.int (n:Int)))) [] o7 o8) (cu (nq _))];rw[aR ((gG (iM (x:=.lst ((gr ac A j i n).map aj)) rfl rfl)).trans f2)];rfl) [ab (W.d (aJ ac A)),ab (W.d (.str i)),ab (W.d (.str j)),ab (W.d (.lst ((du ac A j i 0).map aj))),ab (W.d (.lst ((gr ac A j i 0).map aj))),ae,ae,ae,ae] ⟨ae,ae,ae,ae,rfl⟩
 subst he;rw[eV,jS]at f;unfold m4 zy;rw[sv];rw[show([ab (W.d (aJ ac A)),ab (W.d (.str i)),ab (W.d (.str j))]++dE (9-3) ae)=[ab (W.d (aJ ac A)),ab (W.d (.str i)),ab (W.d (.str j)),ae,ae,ae,ae,ae,ae]from rfl];rw[aR (e':=[ab (W.d (aJ ac A)),ab (W.d (.str i)),ab (W.d (.str j)),ab (W.d (.lst [])),ae,ae,ae,ae,ae]) (cu (nq _))];rw[aR (e':=[ab (W.d (aJ ac A)),ab (W.d (.str i)),ab (W.d (.str j)),ab (W.d (.lst [])),ab (W.d (.lst [aj [i]])),ae,ae,ae,ae]) (cu (k5 (k5 rfl)))];have hlen:mN da [(m2 aG (mV 0) (mC (.int 0)))] [ab (W.d (aJ ac A)),ab (W.d (.str i)),ab (W.d (.str j)),ab (W.d (.lst [])),ab (W.d (.lst [aj [i]])),ae,ae,ae,ae]=.ok (.int (ac.length:Int)):=(kH (av rfl rfl (j9 _ _))).trans (by unfold fA;rw[Kz,aS]);rw[aR ((gG (ik hlen (nC ac.length n8))).trans f)];rfl
end
end Mr
namespace Tr
open PySem Mi
def iH(r:List Nat):Nat:=r.getD (r.length-1) 0
def kL(T:Nat->Nat->Bool)(t:Nat)(r:List Nat)(z:Nat):Bool:=!decide (z∈r)&&(!decide (z=t)&&T (iH r) z)
def fv(m:Nat)(T:Nat->Nat->Bool)(t o:Nat):Nat->List (List Nat)
 |0=>[[o]]
 |k+1=>(fv m T t o k).flatMap λr=>((bn m).filter (kL T t r)).map λz=>r++[z]
def ek(m:Nat)(T:Nat->Nat->Bool)(t o:Nat):Nat->List (List Nat)
 |0=>[]
 |k+1=>ek m T t o k++(fv m T t o k).flatMap λr=>if T (iH r) t=true then[r++[t]]else[]
theorem rf{α β:Type}{f g:α->List β}(h:∀x,(f x).Sublist (g x)):∀{l l':List α},l.Sublist l'->(l.flatMap f).Sublist (l'.flatMap g)
 |_,_,.slnil=>.slnil
 |_,_,.cons a s=>by rw[eD];exact(rf h s).trans (List.sublist_append_right _ _)
 |_,_,.cons_cons a s=>by rw[eD,eD];exact(h a).append (rf h s)
theorem Bl{α:Type}{p q:α->Bool}(h:∀x,p x=true->q x=true):∀l:List α,(l.filter p).Sublist (l.filter q)
 |[]=>.slnil
 |a::r=>by
  have ih:=Bl h r;cases hp:p a with
  |true=>rw[tE hp,tE (h a hp)];exact ih.cons_cons a
  |false=>
   rw[xa (by simp[hp])];cases hq:q a with
   |true=>rw[tE hq];exact ih.cons a
   |false=>rw[xa (by simp[hq])];exact ih
section
variable{m:Nat}{T U:Nat->Nat->Bool}{t o:Nat}
theorem yJ(h:∀x y,T x y=true->U x y=true):∀k,(fv m T t o k).Sublist (fv m U t o k)
 |0=>xR _
 |k+1=>rf (λr=>(Bl (λz hz=>by
  unfold kL at hz ⊢;rw[fS,fS]at hz ⊢;exact⟨hz.1,hz.2.1,h _ _ hz.2.2⟩) _).map _) (yJ h k)
theorem sO(h:∀x y,T x y=true->U x y=true):∀k,(ek m T t o k).Sublist (ek m U t o k)
 |0=>xR _
 |k+1=>(sO h k).append (rf (λr=>by
  by_cases q:T (iH r) t=true
  ·rw[aw q,aw (h _ _ q)];exact xR _
  ·rw[ay q];exact List.nil_sublist _) (yJ h k))
end
def cut(x y a b:Nat):Bool:=!decide (a=b) && !(decide (a=x/\b=y)||decide (a=y/\b=x))
def td(d:Bool)(o t a b:Nat):Bool:=!decide (a=b)&&(d || !(decide (a=o/\b=t)||decide (a=t/\b=o)))
def few(m:Nat):Bool:=(bn m).all λo=>(bn m).all λt=>decide (o=t)||decide ((ek m (λa b=>!decide (a=b)) t o m).length<64)
theorem Dq:[2,3,4,5].all few=true:=by decide +kernel
def Fp:Bool:=(bn 6).all λo=>(bn 6).all λt=>decide (o=t)||(bn 6).all λx=>(bn x).all λy=>decide (x=o/\y=t)||decide (x=t/\y=o)||decide ((ek 6 (cut x y) t o 6).length<64)
theorem HM:Fp=true:=by decide +kernel
def qc:List (List Int)->Bool
 |a::b::r=>So.bv a b&&qc (b::r)
 |_=>true
def C0(d:Bool)(o t:Nat):List (List Int):=(ek 6 (td d o t) t o 6).map λr=>r.map qK
def s9(d:Bool)(o t:Nat):Bool:=(g9 (C0 d o t)).elim false qc
end Tr
namespace Mr
open PySem Mi
open Vp
open Tr
def N(ac:List Str)(r:List Nat):List Str:=r.map (nth ac)
def kI(ac:List Str)(r:List Str):List Int:=r.map λx=>((ac.idxOf x:Nat):Int)
theorem zD{ac:List Str}{x:Str}(h:x∈ac):nth ac (ac.idxOf x)=x:=by unfold nth;have:=oh.mpr h;rw[dH,dm this,Option.getD_some,tL this]
theorem Ao(ac:List Str):ac=(bn ac.length).map (nth ac):=by apply xk (by simp);intro i h1 h2;rw[xm,xh];unfold nth;rw[dH,dm h1];rfl
theorem KD{ac:List Str}(nd:ac.Nodup){r:List Nat}(h:∀x∈r,x<ac.length):kI ac (N ac r)=r.map qK:=by unfold kI N;rw[dA];exact oi λx hx=>by show((ac.idxOf (nth ac x):Nat):Int)=_;rw[GK nd (h x hx)];rfl
theorem vK{α β:Type}{f g:α->List β}:∀{l:List α},(∀x∈l,f x=g x)->l.flatMap f=l.flatMap g
 |[],_=>rfl
 |a::r,h=>by rw[eD,eD,h a cC,vK λx hx=>h x (cA _ hx)]
section
variable{ac:List Str}{A:List Ar}{t o:Nat}
def tN(ac:List Str)(A:List Ar)(x y:Nat):Bool:=tie A (nth ac x) (nth ac y)
theorem tm{T:Nat->Nat->Bool}{m:Nat}(ho:o<m):∀k,∀r∈fv m T t o k,r≠[]/\∀x∈r,x<m
 |0,r,h=>by
  rw[fv,bC]at h;subst h;exact⟨by simp,λx hx=>by rw[bC.mp hx];exact ho⟩
 |k+1,r,h=>by
  rw[fv]at h;obtain⟨q,hq,h⟩:=kj.mp h;obtain⟨z,hz,rfl⟩:=dq.mp h;have:=tm ho k q hq;refine⟨by simp,λx hx=>?_⟩;rcases dZ.mp hx with y|y
  ·exact this.2 x y
  ·rw[bC.mp y];exact d3.mp (kl.mp hz).1
theorem A5{r:List Nat}(h:r≠[]):nth (N ac r) ((N ac r).length-1)=nth ac (iH r):=by
 unfold N iH;have hl:r.length-1<r.length:=by have:=List.length_pos_iff.mpr h;omega
 rw[aS];show(r.map (nth ac)).getD (r.length-1) d8=nth ac (r.getD (r.length-1) 0);rw[dH,dw,dm hl,dH,dm hl];rfl
theorem Jf(nd:ac.Nodup)(ht:t<ac.length){r:List Nat}(hr:r≠[]/\∀x∈r,x<ac.length){z:Nat}(hz:z<ac.length):f7 A (nth ac t) (N ac r) (nth ac z)=kL (tN ac A) t r z:=by
 unfold f7 kL;rw[A5 hr.1];have e1:decide (nth ac z∈N ac r)=decide (z∈r):=vL.mpr ⟨λh=>by
  obtain⟨x,hx,e⟩:=dq.mp h;rw[<- lD nd (hr.2 x hx) hz e];exact hx,λh=>dq.mpr ⟨z,h,rfl⟩⟩
 have e2:decide (nth ac z=nth ac t)=decide (z=t):=vL.mpr ⟨λh=>lD nd hz ht h,λh=>by rw[h]⟩;rw[e1,e2];rfl
theorem DC(nd:ac.Nodup)(ht:t<ac.length)(ho:o<ac.length):∀k,gr ac A (nth ac t) (nth ac o) k=(fv ac.length (tN ac A) t o k).map (N ac)
 |0=>rfl
 |k+1=>by
  rw[gr,fv,DC nd ht ho k,List.flatMap_map,iA];refine vK λr hr=>?_;have hin:=tm ho k r hr;rw[dA];have:ac.filter (f7 A (nth ac t) (N ac r))=((bn ac.length).filter (kL (tN ac A) t r)).map (nth ac):=by
   conv=>lhs;rw[Ao ac]
   rw[List.filter_map]
   congr 1
   refine Ea λz hz=>?_;show f7 A (nth ((bn ac.length).map (nth ac)) t) (N ((bn ac.length).map (nth ac)) r) (nth ac z)=_;rw[<- Ao ac];exact Jf nd ht hin (d3.mp hz)
  rw[this,dA];refine oi λz _=>?_;show N ac r++[nth ac z]=N ac (r++[z]);unfold N;rw[fh];rfl
theorem Ca(nd:ac.Nodup)(ht:t<ac.length)(ho:o<ac.length):∀k,du ac A (nth ac t) (nth ac o) k=(ek ac.length (tN ac A) t o k).map (N ac)
 |0=>rfl
 |k+1=>by
  rw[du,ek,fh,Ca nd ht ho k,DC nd ht ho k,List.flatMap_map,iA]
  congr 1
  refine vK λr hr=>?_;have hin:=tm ho k r hr;rw[A5 hin.1];show(if tN ac A (iH r) t=true then _ else _)=_;by_cases q:tN ac A (iH r) t=true
  ·rw[aw q,aw q];show[N ac r++[nth ac t]]=[N ac (r++[t])];unfold N;rw[fh];rfl
  ·rw[ay q,ay q];rfl
theorem Dn{T:Nat->Nat->Bool}{m:Nat}(ho:o<m)(ht:t<m):∀k,∀r∈ek m T t o k,∀x∈r,x<m
 |0,r,h=>by rw[ek]at h;cases h
 |k+1,r,h=>by
  rw[ek]at h;rcases dZ.mp h with h|h
  ·exact Dn ho ht k r h
  ·obtain⟨q,hq,h⟩:=kj.mp h;by_cases c:T (iH q) t=true
   ·rw[aw c,bC]at h;subst h;intro x hx;rcases dZ.mp hx with y|y
    ·exact(tm ho k q hq).2 x y
    ·rw[bC.mp y];exact ht
   ·rw[ay c]at h;cases h
theorem Gi(nd:ac.Nodup)(ht:t<ac.length)(ho:o<ac.length)(k:Nat):(du ac A (nth ac t) (nth ac o) k).map (kI ac)=(ek ac.length (tN ac A) t o k).map λr=>r.map qK:=by rw[Ca nd ht ho,dA];exact oi λr hr=>KD nd (Dn ho ht k r hr)
end
theorem F0(a:List Int){x y:Int}(h:x<y)(r s:List Int):So.bv (a++x::r) (a++y::s)=true:=by
 induction a with
 |nil=>rw[ll,ll,So.bv,ay (by simp;omega)];exact cM h
 |cons b a ih=>rw[mB,mB,So.bv,aw (by simp)];exact ih
theorem Gj{ac:List Str}(nd:ac.Nodup):ac.Pairwise λa b=>ac.idxOf a<ac.idxOf b:=by rw[DS];intro i j hi hj hij;rw[nd.idxOf_getElem i hi,nd.idxOf_getElem j hj];exact hij
theorem Dj{ac:List Str}{A:List Ar}{j:Str}(nd:ac.Nodup):∀(n:Nat) (ds:List Str) (y:Str),(rb ac A j n ds y).Pairwise λa b=>So.bv (kI ac a) (kI ac b)=true
 |0,_,_=>qL
 |n+1,ds,y=>by
  rw[rb];by_cases c:y=j
  ·rw[aw c];exact xb ..
  ·rw[ay c];rw[List.pairwise_flatMap];refine⟨λz _=>?_,?_⟩
   ·by_cases q:z∈ds++[y]
    ·rw[aw q];exact qL
    ·rw[ay q];exact Dj nd n _ z
   ·refine(((Gj nd).filter _).imp λ{a b} h r hr s hs=>?_);by_cases q:a∈ds++[y]
    ·rw[aw q]at hr;cases hr
    by_cases q':b∈ds++[y]
    ·rw[aw q']at hs;cases hs
    rw[ay q]at hr;rw[ay q']at hs;obtain⟨u,rfl⟩:=nz n _ a r hr;obtain⟨v,rfl⟩:=nz n _ b s hs;unfold kI;rw[fh (l₁:=ds++[y]) (l₂:=a::u),fh (l₁:=ds++[y]) (l₂:=b::v)];exact F0 _ (Int.ofNat_lt.mpr h) _ _
end Mr
namespace Tr
def lF(o:Nat):Bool:=(bn 6).all λt=>decide (o=t)||(s9 true o t&&s9 false o t)
theorem good0:lF 0=true:=by decide +kernel
theorem JR:lF 1=true:=by decide +kernel
theorem good2:lF 2=true:=by decide +kernel
theorem good3:lF 3=true:=by decide +kernel
theorem Je:lF 4=true:=by decide +kernel
theorem GR:lF 5=true:=by decide +kernel
theorem Gu{o t:Nat}(ho:o<6)(ht:t<6)(h:o≠t)(d:Bool):s9 d o t=true:=by
 have a:lF o=true:=by
  match o,ho with
  |0,_=>exact good0
  |1,_=>exact JR
  |2,_=>exact good2
  |3,_=>exact good3
  |4,_=>exact Je
  |5,_=>exact GR
 have b:=fE.mp a t (d3.mpr ht);rw[bx h,jH,fS]at b;cases d with
 |true=>exact b.1
 |false=>exact b.2
theorem Bx:∀{l:List (List Int)},qc l=true->l.Pairwise λa b=>So.bv a b=true
 |[],_=>qL
 |[_],_=>xb ..
 |a::b::r,h=>by
  rw[qc,fS]at h;have t:=Bx h.2;refine tJ.mpr ⟨λx hx=>?_,t⟩;rcases bK.mp hx with rfl|hx
  ·exact h.1
  ·exact So.rQ h.1 ((tJ.mp t).1 x hx)
theorem many{m:Nat}{T:Nat->Nat->Bool}{t o:Nat}(m2:2<=m)(m6:m<=6)(ho:o<m)(ht:t<m)(h:o≠t)(irr:∀x,T x x=false)(sym:∀x y,T x y=T y x)(hl:64<=(ek m T t o m).length):m=6/\∀x y,x<6->y<6->x≠y->¬ (x=o/\y=t)->¬ (x=t/\y=o)->T x y=true:=by
 have e6:m=6:=ub λz=>by
  have:few m=true:=by have a:=fE.mp Dq m (by simp;omega);exact a
  have b:=fE.mp (fE.mp this o (d3.mpr ho)) t (d3.mpr ht);rw[bx h,jH]at b;have b:=qp b;have:=(sO (m:=m) (t:=t) (o:=o) (T:=T) (U:=λa b=>!decide (a=b)) (λx y q=>by
   by_cases e:x=y
   ·rw[e,irr]at q;cases q
   ·simp[e]) m).length_le
  omega
 subst e6;refine⟨rfl,λx y hx hy xy h1 h2=>ub λq=>?_⟩;have key:∀x y,y<x->x<6->¬ (x=o/\y=t)->¬ (x=t/\y=o)->T x y=true:=λx y yx hx h1 h2=>ub λq=>by
  have b:=fE.mp (fE.mp HM o (d3.mpr ho)) t (d3.mpr ht);rw[bx h,jH]at b;have b:=fE.mp (fE.mp b x (d3.mpr hx)) y (d3.mpr yx);rw[bx h1,bx h2,jH,jH]at b;have b:=qp b;have:=(sO (m:=6) (t:=t) (o:=o) (T:=T) (U:=cut x y) (λa b c=>by
   unfold cut;have n1:a≠b:=λe=>by rw[e,irr]at c;cases c
   have n2:¬ (a=x/\b=y):=λe=>q (by rw[<- e.1,<- e.2];exact c);have n3:¬ (a=y/\b=x):=λe=>q (by rw[<- e.1,<- e.2,sym];exact c);rw[bx n1,bx n2,bx n3];rfl) 6).length_le
  omega
 rcases Nat.lt_or_ge y x with z|z
 ·exact q (key x y z hx h1 h2)
 ·exact q (by rw[sym];exact key y x (by omega) hy (λe=>h2 ⟨e.2,e.1⟩) (λe=>h1 ⟨e.2,e.1⟩))
theorem Ax{m:Nat}{T U:Nat->Nat->Bool}{t o:Nat}(ho:o<m)(h:∀x y,x<m->y<m->T x y=U x y):∀k,fv m T t o k=fv m U t o k/\∀r∈fv m U t o k,iH r<m
 |0=>⟨rfl,λr hr=>by rw[fv,bC]at hr;rw[hr];exact ho⟩
 |k+1=>by
  obtain⟨e,hl⟩:=Ax ho h k;refine⟨?_,λr hr=>?_⟩
  ·rw[fv,fv,e];have:∀l:List (List Nat),(∀r∈l,iH r<m)->l.flatMap (λr=>((bn m).filter (kL T t r)).map λz=>r++[z])=l.flatMap (λr=>((bn m).filter (kL U t r)).map λz=>r++[z]):=λl=>by
    induction l with
    |nil=>intro _;rfl
    |cons a l ih=>
     intro hl;rw[eD,eD,ih λr hr=>hl r (cA _ hr)]
     congr 2
     refine Ea λz hz=>?_;unfold kL;rw[h _ _ (hl a cC) (d3.mp hz)]
   exact this _ hl
  ·rw[fv]at hr;obtain⟨q,hq,hr⟩:=kj.mp hr;obtain⟨z,hz,rfl⟩:=dq.mp hr;have:=d3.mp (kl.mp hz).1;unfold iH;rw[bB,dI,qH,dH,kg (bg _),Nat.sub_self];exact this
theorem zi{m:Nat}{T U:Nat->Nat->Bool}{t o:Nat}(ho:o<m)(ht:t<m)(h:∀x y,x<m->y<m->T x y=U x y):∀k,ek m T t o k=ek m U t o k
 |0=>rfl
 |k+1=>by
  obtain⟨e,hl⟩:=Ax (t:=t) ho h k;rw[ek,ek,zi ho ht h k,e]
  congr 1
  generalize fv m U t o k=l at hl
  induction l with
  |nil=>rfl
  |cons a l ih=>
   rw[eD,eD,ih λr hr=>hl r (cA _ hr),h _ _ (hl a cC) ht]
theorem BY{α:Type}[DecidableEq α]:∀{a b:List α},a.Nodup->(∀x∈a,x∈b)->a.length=b.length->a.Perm b
 |[],b,_,_,h=>by rw[List.length_eq_zero_iff.mp h.symm]
 |x::a,b,nd,hs,hl=>by
  have hx:=hs x cC;have nd':=iB.mp nd;refine(List.Perm.cons x (BY (b:=b.erase x) nd'.2 (λy hy=>?_) ?_)).trans (List.perm_cons_erase hx).symm
  ·exact(D2 (λe=>nd'.1 (by rw[<- e];exact hy))).mpr (hs y (cA _ hy))
  ·rw[DT hx,<- hl,ce];rfl
theorem FG{m:Nat}{T:Nat->Nat->Bool}{t o:Nat}(m2:2<=m)(m6:m<=6)(ho:o<m)(ht:t<m)(h:o≠t)(irr:∀x,T x x=false)(sym:∀x y,T x y=T y x){rows R:List (List Int)}(hr:rows=(ek m T t o m).map λr=>r.map qK)(hp:R.Perm rows)(hs:R.Pairwise λa b=>So.bv a b=true):Mi.g9 rows=ab R:=by
 have uq:∀{S:List (List Int)},S.Perm rows->(S.Pairwise λa b=>So.bv a b=true)->S=R:=λ{S} h1 h2=>Mi.uD Mi.Cc _ _ (h1.trans hp.symm) (h2.imp Mi.qr) (hs.imp Mi.qr);by_cases h64:rows.length<64
 ·unfold Mi.g9;rw[aw h64,Mi.BI hp (hs.imp Mi.qr)]
 ·obtain⟨rfl,all⟩:=many m2 m6 ho ht h irr sym (by rw[hr,aS]at h64;omega);have eT:∀x y,x<6->y<6->T x y=td (T o t) o t x y:=λx y hx hy=>by
   unfold td;by_cases xy:x=y
   ·rw[xy,irr,cM rfl];rfl
   ·rw[bx xy];by_cases h1:x=o/\y=t
    ·rw[h1.1,h1.2];simp
    ·by_cases h2:x=t/\y=o
     ·rw[h2.1,h2.2,sym];simp
     ·rw[all x y hx hy xy h1 h2,bx h1,bx h2];simp
  have er:rows=C0 (T o t) o t:=by rw[hr,zi ho ht eT];rfl
  have g:=Gu ho ht h (T o t);unfold s9 at g;rw[<- er]at g;cases e:Mi.g9 rows with
  |none=>rw[e]at g;cases g
  |some S=>
   rw[e]at g;have pw:=Bx (show qc S=true from g);have e':=e;unfold Mi.g9 at e';rw[ay h64]at e';cases ht:Tm.kF (λi j:Fin rows.length=>So.nY rows i.1 j.1) (i6 rows.length)with
   |none=>rw[ht]at e';cases e'
   |some q=>
    rw[ht]at e';have e':(if q.length=rows.length then ab (q.map λi=>rows.getD i.1 [])else ae)=ab S:=e';by_cases lq:q.length=rows.length
    ·rw[aw lq]at e';have e':=fj e';refine congrArg ab (uq (BY (pw.imp λ{a b} h z=>?_) (λx hx=>?_) (by rw[<- e',aS,lq])) pw)
     ·rw[z]at h;have:=So.oW h;rw[h]at this;cases this
     ·rw[<- e']at hx;obtain⟨i,_,rfl⟩:=dq.mp hx;rw[dH,dm i.2];exact qz _
    ·rw[ay lq]at e';cases e'
end Tr
namespace Mr
open PySem Mi
def AR(ls:List (List Str)):D:=.lst (ls.map aj)
open My (words dC dN)
theorem Bh:∀ds:List D,fW ds ds=ds.map λd=>.tup [d,d]
 |[]=>rfl
 |x::r=>by rw[fW,Bh r];rfl
theorem KI(n:Nat){X:D}{ds:List D}(hX:X=.lst ds\/X=.tup ds)(h:∀d∈ds,cR n [.d d,.d d]=.ok (.d (.bl true))):cR (n+1) [.d X,.d X]=.ok (.d (.bl true)):=by
 show eP 2 4 (lw (cR n)) _=_;unfold lw;rw[jY];have c0:jd (cB (m1 (cT ["str"]) (mV 1))) (cB (m1 (cT ["int"]) (mV 1))) [ab (.d X),ab (.d X),ae,ae]=.ok false:=by rcases hX with rfl|rfl<;>rfl
 have c1:jd (cB (m2 fO (m1 (cT ["list"]) (mV 0)) (m1 (cT ["list"]) (mV 1)))) (eF (cB (m1 (cT ["list","tuple"]) (mV 0)))) [ab (.d X),ab (.d X),ae,ae]=.ok false:=by rcases hX with rfl|rfl<;>rfl
 have c2:cB (m2 fO (mN da [(mV 0)]) (mN da [(mV 1)])) [ab (.d X),ab (.d X),ae,ae]=.ok false:=by rcases hX with rfl|rfl<;>exact cY ((av rfl rfl rfl).trans ((zV _ _).trans (by rw[cM rfl];rfl)))
 obtain⟨e',f1,o2,o3,he⟩:=ip (tg:=.t [2,3]) (body:=(bA (eF (cB (aX (cR n) [(wD (mV 2)),(wD (mV 3))]))) (bJ (wD (mC (.bl false)))) cn))
  (λi e=>∃o2 o3:Option W,e=[ab (.d X),ab (.d X),o2,o3]) (ds.map λd=>.tup [d,d]) 0 (λi d e hi ⟨o2,o3,he⟩=>by
   subst he;rw[dw]at hi;obtain⟨x,hx,rfl⟩:=mH.mp hi;have ct:eF (cB (aX (cR n) [(wD (mV 2)),(wD (mV 3))])) [ab (.d X),ab (.d X),ab (.d x),ab (.d x)]=.ok false:=by unfold eF;rw[cY (call2 rfl rfl (h x (i4 hx)))];rfl
   exact⟨[ab (.d X),ab (.d X),ab (.d x),ab (.d x)],_,rfl,(dr ct).trans rfl,_,_,rfl⟩) [ab (.d X),ab (.d X),ae,ae] ⟨ae,ae,rfl⟩
 subst he;have hit:sW (mV 0) (mV 1) [ab (.d X),ab (.d X),ae,ae]=.ok (ds.map λd=>.tup [d,d]):=by rw[<- Bh];rcases hX with rfl|rfl<;>rfl
 exact(congrArg (λr=>Rs.bind r j8) ((aR ((dr c0).trans rfl)).trans ((aR ((dr c1).trans rfl)).trans ((aR ((dr c2).trans rfl)).trans ((aR ((gG hit).trans f1)).trans (fN (cG rfl))))))).trans rfl
theorem Ke(n:Nat)(ls:List (List Str)):cR (n+3) [.d (AR ls),.d (AR ls)]=.ok (.d (.bl true)):=KI (n+2) (.inl rfl) λd hd=>by
 obtain⟨l,_,rfl⟩:=dq.mp hd;exact IU n l
theorem Am:∀xs:List Str,A.kB (xs.map D.str)=true
 |[]=>rfl
 |x::r=>by rw[cD,A.kB,Am r];rfl
theorem yX:∀xs:List Ar,A.kB (xs.map pairD)=true
 |[]=>rfl
 |x::r=>by rw[cD,A.kB,yX r];rfl
theorem JO{ks:List Nat}{i j:Nat}{a:E}{c:C}{f r:S}{e:Mi.Env}{d:D}(h:a (nZ ks e)=.ok d)(hf:freshD d=true)(hi:i<e.length)(hj:j<e.length)(hc:c (e.set i (ab (.d d)))=.ok false):qh ks i j a c f r e=r ((e.set i ae).set j ae):=by unfold qh;rw[h,aN,aw (by rw[hf,cM hi,cM hj];rfl),hc,aN,ay cW]
open Vp
open Tr
theorem J6(ns:List Int)(hl:ns.length<=63):∃ac A r,qt [.d (.lst (ns.map D.int)),.d (.int 6)]=.ok (.d (aJ ac (A.map (arrOf ac))))/\qZ ac A r/\(∃(c:Int) (m:Nat),m<=8/\ac=(words c m).map S')/\2<=ac.length/\ac.length<=6:=by
 obtain⟨c0,hc0⟩:=me ns 0 (by decide);rw[show((0:Nat):Int)=0 from rfl]at hc0;obtain⟨f,hf⟩ : ∃f:Int,f=1+c0%(6-1)+6*(c0/(6-1)%10 ^ (9:Int).toNat):=⟨_,rfl⟩;obtain⟨ac,A,r,h,N,wds,d0,hd0,hnl⟩:=Hx (f::ns.drop 1) 6 (by decide) (by decide);rw[show((6:Nat):Int)=6 from rfl]at h hnl;have cf:d9 [.d (.lst ((f::ns.drop 1).map D.int)),.d (.int 0)]=.ok (.d (.int f)):=by
  unfold d9 uH;rw[jY];have ct:cB (m2 dR (mV 1) (mN da [(mV 0)])) [ab (W.d (.lst ((f::ns.drop 1).map D.int))),ab (W.d (.int 0)),ae]=.ok true:=by refine cY ((av rfl ((kH (x:=.lst ((f::ns.drop 1).map D.int)) rfl).trans (A7 _)) (rH _ _)).trans ?_);rw[aS,ce,cM (by omega)]
  rw[show([ab (W.d (.lst ((f::ns.drop 1).map D.int))),ab (W.d (.int 0))]++dE (3-2) ae)=[ab (W.d (.lst ((f::ns.drop 1).map D.int))),ab (W.d (.int 0)),ae]from rfl];rw[mf ((fZ ct).trans (fN (cG (av (x:=.lst ((f::ns.drop 1).map D.int)) rfl rfl (by show cN (cU (.int f::(ns.drop 1).map D.int) 0)=_;rw[at0];rfl)))))];rfl
 rw[cf]at hd0;have e0:f=d0:=by injection hd0 with e;injection e with e;injection e
 refine⟨ac,A,r,?_,N,wds,?_⟩
 ·unfold qt Cd;rw[jY];have hp:m2 vG (mC (.int 10)) (mC (.int 9)) [ab (.d (.lst (ns.map D.int))),ab (.d (.int 6)),ab (.d (.int c0)),ae,ae]=.ok (.int (10 ^ (9:Int).toNat)):=av rfl rfl (aE (by decide));rw[aR (e':=[ab (.d (.lst (ns.map D.int))),ab (.d (.int 6)),ab (.d (.int c0)),ae,ae]) (cu (call2 rfl rfl hc0))];rw[aR (e':=[ab (.d (.lst (ns.map D.int))),ab (.d (.int 6)),ab (.d (.int c0)),ab (.d (.int (c0/(6-1)%10 ^ (9:Int).toNat))),ae]) (cu (av (av rfl (av rfl rfl rfl) (aE (g0 (by decide) (by decide)))) hp (aE (by decide))))];rw[aR (e':=[ab (.d (.lst (ns.map D.int))),ab (.d (.int 6)),ab (.d (.int c0)),ab (.d (.int (c0/(6-1)%10 ^ (9:Int).toNat))),ab (.d (.int f))]) (cu ((av (av rfl (av rfl (av rfl rfl rfl) (aE (by decide))) rfl) (av rfl rfl (aE (h9 (by decide) (by decide)))) rfl).trans (by rw[lH,hf])))];have hs:m2 aW (mN cH [(mV 4)]) (fL gA (mV 0) (ab (mC (.int 1))) ae) [ab (.d (.lst (ns.map D.int))),ab (.d (.int 6)),ab (.d (.int c0)),ab (.d (.int (c0/(6-1)%10 ^ (9:Int).toNat))),ab (.d (.int f))]=.ok (.lst ((f::ns.drop 1).map D.int)):=by
   have LD:iu (ns.map D.int) (ab (1:Int)) ae=(ns.drop 1).map D.int:=by rw[show(1:Int)=((1:Nat):Int)from rfl,Dg,tM]
   refine(av (x:=.lst [.int f]) (y:=.lst (iu (ns.map D.int) (ab (1:Int)) ae)) (k5 rfl) rfl rfl).trans ?_;rw[LD,Db,aE (by simp only[ce,mD,aS,fg];omega)];rfl
  rw[fN (cG (call2 (cG hs) rfl h))];rfl
 ·rw[<- e0]at hnl;have q0:=fG c0 (b:=5) (by decide);have q1:=fT c0 (b:=5) (by decide);have e8:(6:Int)-1=5:=by decide
  rw[e8]at hf;have:f%6=1+c0%5:=by generalize c0/5%10 ^ (9:Int).toNat=z at hf;omega
  omega
theorem Jb:((bn 6).all λo=>(bn 6).all λt=>decide (o=t)||decide ((ek 6 (λa b=>!decide (a=b)) t o 6).length<=100))=true:=by decide +kernel
theorem zH:∀rows:List (List Int),jj (rows.map dQ)=ab rows
 |[]=>rfl
 |r::t=>by
  have:∀l:List Int,ji (l.map D.int)=ab l:=λl=>by
   induction l with
   |nil=>rfl
   |cons a l ih=>rw[cD,ji,ih];rfl
  rw[cD];show((ji (r.map D.int)).bind λk=>(jj (t.map dQ)).map (k :: ·))=_;rw[this,zH t];rfl
theorem J2(A:List Ar)(x y:Str):tie A x y=tie A y x:=Bool.or_comm _ _
theorem CQ{ac:List Str}{A:List Ar}{i j:Str}(nd:ac.Nodup)(n2:2<=ac.length)(n6:ac.length<=6)(irr:∀p∈A,p.1≠p.2)(hi:i∈ac)(hj:j∈ac)(ij:i≠j):k9 [.d (aJ ac A),.d (.str i),.d (.str j)]=.ok (.d (.lst ((rb ac A j 8 [] i).map aj))):=by
 have lr:=Iq (A:=A) nd (by omega) ij hi hj;have ho:=oh.mpr hi;have ht:=oh.mpr hj;have ei:=zD hi;have ej:=zD hj;have ot:ac.idxOf i≠ac.idxOf j:=λz=>ij (A1 hi hj z);have ir:∀x,tN ac A x x=false:=λx=>by
  unfold tN tie;rw[Bool.or_eq_false_iff];exact⟨bx λh=>irr _ h rfl,bx λh=>irr _ h rfl⟩
 have sy:∀x y,tN ac A x y=tN ac A y x:=λx y=>J2 A _ _;have er:(du ac A j i ac.length).map (kI ac)=(ek ac.length (tN ac A) (ac.idxOf j) (ac.idxOf i) ac.length).map λr=>r.map qK:=by have:=Gi (A:=A) nd ht ho ac.length;rw[ei,ej]at this;exact this
 have inn:∀r,SR ac A i j r->∀x∈r,x∈ac:=λr ⟨t,e,_,_,h⟩ x hx=>by
  rw[e]at hx;rcases bK.mp hx with rfl|hx
  ·exact hi
  ·exact h x hx
 have LF:∀a b,(∀x∈a,x∈ac)->(∀x∈b,x∈ac)->kI ac a=kI ac b->a=b:=λa=>by
  induction a with
  | nil=>intro b _ _ e;cases b with
   |nil=>rfl
   |cons y b=>cases e
  | cons x a ih=>intro b ha hb e;cases b with
   |nil=>cases e
   |cons y b=>
    unfold kI at e;rw[cD,cD]at e;obtain⟨e1,e2⟩:=List.cons.inj e;have e3:ac.idxOf x=ac.idxOf y:=by omega
    rw[A1 (ha x cC) (hb y cC) e3,ih b (λz hz=>ha z (cA _ hz)) (λz hz=>hb z (cA _ hz)) e2]
 have md:=λr=>Js (ac:=ac) (A:=A) ij hi hj r;have ndu:=Au (ac:=ac) (A:=A) nd ij hj ac.length;have hp:((rb ac A j 8 [] i).map (kI ac)).Perm ((du ac A j i ac.length).map (kI ac)):=((List.perm_ext_iff_of_nodup (Ay nd 8 [] i) ndu).mpr λr=>by rw[yG (by omega) hi,md]).map _;have ndr:((du ac A j i ac.length).map (kI ac)).Nodup:=by show List.Pairwise _ _;rw[qy];exact ndu.imp_of_mem λ{a b} ha hb h e=>h (LF a b (inn a ((md a).mp ha)) (inn b ((md b).mp hb)) e)
 have sD:=FG n2 n6 ho ht ot ir sy er hp (by rw[qy];exact Dj nd 8 [] i);have len:((du ac A j i ac.length).map (kI ac)).length<=100:=by
  rw[er,aS];have s:=(sO (m:=ac.length) (t:=ac.idxOf j) (o:=ac.idxOf i) (T:=tN ac A) (U:=λa b=>!decide (a=b)) (λx y q=>by
   by_cases e:x=y
   ·rw[e,ir]at q;cases q
   ·simp[e]) ac.length).length_le
  by_cases e6:ac.length=6
  ·rw[e6]at s ho ht ⊢;have b:=fE.mp (fE.mp Jb _ (d3.mpr ho)) _ (d3.mpr ht);rw[bx ot,jH]at b;have b:=qp b;omega
  ·have:few ac.length=true:=fE.mp Dq ac.length (by simp;omega);have b:=fE.mp (fE.mp this _ (d3.mpr ho)) _ (d3.mpr ht);rw[bx ot,jH]at b;have b:=qp b;omega
 have dl:(du ac A j i ac.length).length<=100:=by rw[aS]at len;exact len
 have rl:(rb ac A j 8 [] i).length<=100:=by have:=hp.length_eq;rw[aS]at this;omega
 have r8:∀r,SR ac A i j r->r.length<=8:=λr h=>by
  have h2:=h;obtain⟨t,e,_,n,_⟩:=h;exact d5 (kN n (inn r h2)) (by omega)
 have c1:ee (.n 1) dD (eu [ab 0,ae] (c9 (mV 1)) (.n 1) dD (m2 rG (m2 aG (mV 0) (mC (.int 0))) (mV 1))) [ab (W.d (aJ ac A)),ae] ((du ac A j i ac.length).map aj)=.ok (((du ac A j i ac.length).filter λ_=>true).map λr=>dQ (kI ac r)):=
  lV aj (λr=>dQ (kI ac r)) (λ_=>true) _ λr hr=>⟨[ab (W.d (aJ ac A)),ab (W.d (aj r))],rfl,rfl,λ_=>by
   have hs:=(md r).mp hr;refine(iy (ys:=(r.filter λ_=>true).map λx=>D.int ((ac.idxOf x:Nat):Int)) (iM (x:=aj r) rfl rfl) (by rw[aS];have:=r8 r hs;omega) ?_).trans ?_
   ·exact lV D.str (λx=>D.int ((ac.idxOf x:Nat):Int)) (λ_=>true) r λx hx=>⟨[ab (W.d (aJ ac A)),ab (W.d (.str x))],rfl,rfl,λ_=>av (x:=fA ac) (av rfl rfl (j9 ac A)) rfl (by
     show(cN (uO (fA ac))).bind _=_;rw[show uO (fA ac)=ab ac from Al ac];exact aE ⟨inn r hs x hx,by omega⟩)⟩
   ·rw[qw.mpr (λ_ _=>rfl)];unfold dQ kI;rw[dA];rfl⟩
 rw[qw.mpr (λ_ _=>rfl)]at c1;have c2:ee (.n 1) dD (eu [ab 0,ae] (c9 (mV 1)) (.n 1) dD (m2 aG (m2 aG (mV 0) (mC (.int 0))) (mV 1))) [ab (W.d (aJ ac A)),ae] ((rb ac A j 8 [] i).map λr=>dQ (kI ac r))=.ok (((rb ac A j 8 [] i).filter λ_=>true).map aj):=
  lV (λr=>dQ (kI ac r)) aj (λ_=>true) _ λr hr=>⟨[ab (W.d (aJ ac A)),ab (W.d (dQ (kI ac r)))],rfl,rfl,λ_=>by
   have hs:=(yG (by omega) hi r).mp hr;have e0:(kI ac r).map D.int=r.map λx=>D.int ((ac.idxOf x:Nat):Int):=by unfold kI;rw[dA];rfl
   refine(iy (ys:=(r.filter λ_=>true).map D.str) (iM (x:=dQ (kI ac r)) rfl (show rZ (.lst ((kI ac r).map D.int))=.ok (r.map λx=>D.int ((ac.idxOf x:Nat):Int))by rw[e0];rfl)) (by rw[aS];have:=r8 r hs;omega) ?_).trans ?_
   ·exact lV (λx=>D.int ((ac.idxOf x:Nat):Int)) D.str (λ_=>true) r λx hx=>⟨[ab (W.d (aJ ac A)),ab (W.d (.int ((ac.idxOf x:Nat):Int)))],rfl,rfl,λ_=>av (x:=fA ac) (av rfl rfl (j9 ac A)) rfl (by
     have xl:=oh.mpr (inn r hs x hx);show cN (cU (ac.map D.str) ((ac.idxOf x:Nat):Int))=_;unfold cU dB;rw[aw (by omega),aS,aw (by omega)];show cN ((ac.map D.str)[((ac.idxOf x:Nat):Int).toNat]?)=_;rw[jI,dw,dm xl,tL xl];rfl)⟩
   ·rw[qw.mpr (λ_ _=>rfl)];rfl⟩
 rw[qw.mpr (λ_ _=>rfl)]at c2;unfold k9 CP;rw[sv];rw[show([ab (W.d (aJ ac A)),ab (W.d (.str i)),ab (W.d (.str j))]++dE (4-3) ae)=[ab (W.d (aJ ac A)),ab (W.d (.str i)),ab (W.d (.str j)),ae]from rfl];have so:mN wq [(eu [ab 0,ae] (c9 (aX m4 [(wD (mV 0)),(wD (mV 1)),(wD (mV 2))])) (.n 1) dD (eu [ab 0,ae] (c9 (mV 1)) (.n 1) dD (m2 rG (m2 aG (mV 0) (mC (.int 0))) (mV 1))))] [ab (W.d (aJ ac A)),ab (W.d (.str i)),ab (W.d (.str j)),ae]=.ok (.lst ((rb ac A j 8 [] i).map λr=>dQ (kI ac r))):=by
  refine(kH (iy (ρ:=[ab 0,ae]) (iM (jk rfl rfl rfl lr) rfl) (by rw[aS];omega) c1)).trans ?_;have e1:(du ac A j i ac.length).map (λr=>dQ (kI ac r))=((du ac A j i ac.length).map (kI ac)).map dQ:=by rw[dA];rfl
  rw[e1];show(cN (jj (((du ac A j i ac.length).map (kI ac)).map dQ))).bind _=_;rw[zH];show a6 _ _=_;rw[aE ⟨ndr,by omega⟩,sD];show Rs.ok (D.lst (((rb ac A j 8 [] i).map (kI ac)).map dQ))=_;rw[dA];rfl
 rw[aR (e':=[ab (W.d (aJ ac A)),ab (W.d (.str i)),ab (W.d (.str j)),ab (W.d (.lst ((rb ac A j 8 [] i).map λr=>dQ (kI ac r))))]) ((cu so).trans rfl)];rw[fN (cG (iy (ρ:=[ab 0,ae]) (iM (x:=.lst ((rb ac A j 8 [] i).map λr=>dQ (kI ac r))) rfl rfl) (by rw[aS];omega) c2))];rfl
end Mr
namespace Mr
open PySem Mi
open Vp
open My (words dC dN)
theorem FP{ac:List Str}{A:List Ar}{j:Str}:∀(n:Nat) (ds:List Str) (y:Str),∀r∈rb ac A j n ds y,r≠[]:=λn ds y r hr e=>by
 obtain⟨t,h⟩:=nz n ds y r hr;rw[e]at h;have:=congrArg qB h;simp at this
theorem Kx{Rs:List (List Str)}(h:∀r∈Rs,r≠[]):freshD (.lst (Rs.map aj))=true:=by
 unfold freshD;show(Rs.map aj).all _=true;rw[List.all_map];refine fE.mpr λr hr=>?_;cases r with
 |nil=>exact absurd rfl (h [] hr)
 |cons a t=>rfl
theorem JP(ac:List Str)(A:List Ar):_root_.A.fX (aJ ac A)=true:=by show(_root_.A.fX (fA ac)&&(_root_.A.fX (mT A)&&true))=true;have h1:_root_.A.fX (fA ac)=true:=Am ac;have h2:_root_.A.fX (mT A)=true:=yX A;rw[h1,h2];rfl
theorem AQ(ns:List Int)(hl:ns.length<=63):vx [.d (.lst (ns.map D.int))]=.ok (.d (.bl true)):=by
 obtain⟨ac,A0,r,yd,IN,⟨cw,mw,hm8,hnm⟩,h2,h6⟩:=J6 ns hl;have irr:=IN.apart.irr;have nd:=IN.nd;generalize A0.map (arrOf ac)=A at yd irr;obtain⟨qs,hqs⟩:=Fi ns 3 (by decide) (by decide);rw[show((3:Nat):Int)=3 from rfl]at hqs;obtain⟨Ls,hLs⟩ : ∃Ls,Ls=D.lst (ns.map D.int):=⟨_,rfl⟩;rw[<- hLs]at yd hqs ⊢;obtain⟨e',f,o2,o3,o4,o5,o6,o7,o8,he⟩:=ip (tg:=.n 2) (body:=(aP (oP [3,4,5] (aX lE [(wD (mV 1)),(wD (mV 2))]))
 (aP (bE 6 (aX k9 [(wD (mV 1)),(wD (mV 3)),(wD (mV 4))]))
 (qh [1,3,4] 7 8 (aX i0 [(wD (mV 1)),(wD (mV 3)),(wD (mV 4))]) (eF (cB (aX (cR 4) [(wD (mV 7)),(wD (mV 6))])))
 (bJ (wD (mC (.bl false))))
 (aP (bA (eF (cB (aX (cR 4) [(wD (aX i0 [(wD (mV 1)),(wD (mV 4)),(wD (mV 3))])),(wD (aX k9 [(wD (mV 1)),(wD (mV 4)),(wD (mV 3))]))])))
 (bJ (wD (mC (.bl false))))
 cn)
 (bA (eF (cB (aX (cR 4) [(wD (aX i0 [(wD (mV 1)),(wD (mV 3)),(wD (mV 4))])),(wD (mV 6))])))
 (bJ (wD (mC (.bl false))))
 cn))))))
  (λn e=>∃o2 o3 o4 o5 o6 o7 o8:Option W,e=[ab (W.d Ls),ab (W.d (aJ ac A)),o2,o3,o4,o5,o6,o7,o8]) (qs.map D.int) 0 (λn x e hx ⟨o2,o3,o4,o5,o6,o7,o8,he⟩=>by
   subst he;rw[dw]at hx;obtain⟨d,_,rfl⟩:=mH.mp hx;obtain⟨i,j,bm,has,Q⟩:=Fh (A:=A) nd h2 (by omega) d;have d1:=CQ (A:=A) nd h2 h6 irr Q.im Q.jm Q.ij;have d2:=CQ (A:=A) nd h2 h6 irr Q.jm Q.im Q.ij.symm;have r1:=zu (A:=A) nd (by omega) Q.im Q.jm Q.ij;have r2:=zu (A:=A) nd (by omega) Q.jm Q.im Q.ij.symm;have f1:=Kx (FP (ac:=ac) (A:=A) (j:=j) 8 [] i);generalize rb ac A j 8 [] i=R1 at d1 r1 f1;generalize rb ac A i 8 [] j=R2 at d2 r2;have al:∀R:List (List Str),cR 4 [.d (.lst (R.map aj)),.d (.lst (R.map aj))]=.ok (.d (.bl true)):=λR=>Ke 1 R;refine⟨[ab (W.d Ls),ab (W.d (aJ ac A)),ab (W.d (.int d)),o3,o4,o5,o6,o7,o8],[ab (W.d Ls),ab (W.d (aJ ac A)),ab (W.d (.int d)),ab (W.d (.str i)),ab (W.d (.str j)),ab (W.d (aj bm)),ab (W.d (.lst (R1.map aj))),ae,ae],rfl,?_,_,_,_,_,_,_,_,rfl⟩;have s1:oP [3,4,5] (aX lE [(wD (mV 1)),(wD (mV 2))]) [ab (W.d Ls),ab (W.d (aJ ac A)),ab (W.d (.int d)),o3,o4,o5,o6,o7,o8]=.ok (.nx [ab (W.d Ls),ab (W.d (aJ ac A)),ab (W.d (.int d)),ab (W.d (.str i)),ab (W.d (.str j)),ab (W.d (aj bm)),o6,o7,o8]):=by unfold oP;rw[call2 (x:=.d (aJ ac A)) (y:=.d (.int d)) rfl rfl has];rfl
   rw[aR s1];rw[aR (e':=[ab (W.d Ls),ab (W.d (aJ ac A)),ab (W.d (.int d)),ab (W.d (.str i)),ab (W.d (.str j)),ab (W.d (aj bm)),ab (W.d (.lst (R1.map aj))),o7,o8]) (cu (jk rfl rfl rfl d1))];rw[JO (d:=.lst (R1.map aj)) (jk (f:=i0) (x:=.d (aJ ac A)) (y:=.d (.str i)) (z:=.d (.str j)) (cG (by
    show mV 1 [ae,m3 (ab (.d (aJ ac A))),ae,m3 (ab (.d (.str i))),m3 (ab (.d (.str j))),ae,ae,ae,ae]=_;rw[show m3 (ab (.d (aJ ac A)))=ab (.d (aJ ac A))from aw (JP ac A)];rfl)) rfl rfl r1) f1 (by simp) (by simp) (uJ (p:=true) (cY (call2 (f:=cR 4) (x:=.d (.lst (R1.map aj))) (y:=.d (.lst (R1.map aj))) rfl rfl (al R1))))]
   have e8:(([ab (W.d Ls),ab (W.d (aJ ac A)),ab (W.d (.int d)),ab (W.d (.str i)),ab (W.d (.str j)),ab (W.d (aj bm)),ab (W.d (.lst (R1.map aj))),o7,o8]:Mi.Env).set 7 ae).set 8 ae=[ab (W.d Ls),ab (W.d (aJ ac A)),ab (W.d (.int d)),ab (W.d (.str i)),ab (W.d (.str j)),ab (W.d (aj bm)),ab (W.d (.lst (R1.map aj))),ae,ae]:=rfl;rw[e8];rw[aR ((dr (uJ (p:=true) (cY (call2 (f:=cR 4) (x:=.d (.lst (R2.map aj))) (y:=.d (.lst (R2.map aj))) (cG (jk rfl rfl rfl r2)) (cG (jk rfl rfl rfl d2)) (al R2))))).trans rfl)];exact(dr (uJ (p:=true) (cY (call2 (f:=cR 4) (x:=.d (.lst (R1.map aj))) (y:=.d (.lst (R1.map aj))) (cG (jk rfl rfl rfl r1)) rfl (al R1))))).trans rfl) [ab (W.d Ls),ab (W.d (aJ ac A)),ae,ae,ae,ae,ae,ae,ae] ⟨ae,ae,ae,ae,ae,ae,ae,rfl⟩
 subst he;unfold vx C8;rw[zP];rw[show([ab (W.d Ls)]++dE (9-1) ae)=[ab (W.d Ls),ae,ae,ae,ae,ae,ae,ae,ae]from rfl];rw[aR (e':=[ab (W.d Ls),ab (W.d (aJ ac A)),ae,ae,ae,ae,ae,ae,ae]) (cu (call2 rfl rfl yd))];rw[aR ((gG (iM (call2 rfl rfl hqs) rfl)).trans f)];rfl
end Mr
namespace oD
open PySem L2 PyProof.Rows
instance LU:A.a8:=⟨[],λc=>0⟩
theorem walk{l:wZ}{q:bb}{loose:List Str}{XP:(Str->Option ag)->aI->Prop}{YP:aT->aI->Prop}{d:DefRec}{K:Params->aB}(hn:l.most=ab 63)(hdf:d.params.defaults=[])
 (hY:∀(w:aT) (h:aI),YP w h->(K w.params).In h) (hL:∀w:aT,yO (K w.params)=true)
 (F:∀(w:aT) (mg:Str->Option ag) (fa:ah) (h:aI),(K w.params).In h->h.Ns mainGlobals mg->mg d.name=ab (.ref fa) ->
  ∃fd:bS,(∀(s:ak) (u:ag),lp s fd ⟨[u],[]⟩ [("_law_script",u)])/\∀base:aI,(K w.params).In base->base.Ns mainGlobals mg->bt l.prog w (K w.params) mg base aL 11 fa fd ["_law_script"] A.rM) :
 PySem.W.WalkO q loose XP YP l.row.toRowW d [] (λf vs=>xA f vs):=
 L2.Gz (n:=63) (k:=11) (x := "_law_script") (CX:=λ_=>aL) (sp:=λw=>A.rM) hn (by decide) hdf ⟨rfl,by decide,by decide,rfl⟩ hY F (λw _ a ns hl hO hS=>⟨a,ns,rfl,(match hS with
  |.inl r=>r
  |.inr ⟨_,_,_,e,c,_⟩=>(He (hL w) e c).elim),hl,GS rfl hO,λ_=>rfl⟩) λ_ _ _ _ _ z=>z
theorem Jd{K:aB}{h:aI}{mg:Str->Option ag}(X:K.In h)(G:h.Ns mainGlobals mg)(ye:ff K mainGlobals "len" = ab ae)(yf:ff K mainGlobals "range" = ab ae)(yg:ff K mainGlobals "max" = ab ae)(yh:ff K mainGlobals "min" = ab ae)(yi:ff K mainGlobals "tuple" = ab ae)(yk:ff K mainGlobals "list" = ab ae)(yl:ff K mainGlobals "isinstance" = ab ae)(ym:ff K mainGlobals "all" = ab ae)(yo:ff K mainGlobals "any" = ab ae)(yp:ff K mainGlobals "bool" = ab ae)(yq:ff K mainGlobals "str" = ab ae)(yt:ff K mainGlobals "int" = ab ae)(yu:ff K mainGlobals "zip" = ab ae)(yv:ff K mainGlobals "enumerate" = ab ae)(yw:ff K mainGlobals "sorted" = ab ae)(yy:ff K mainGlobals "reversed" = ab ae)(yz:ff K mainGlobals "set" = ab ae):Txt mg:=⟨fB X G ye,fB X G yf,fB X G yg,fB X G yh,fB X G yi,fB X G yk,fB X G yl,fB X G ym,fB X G yo,fB X G yp,fB X G yq,fB X G yt,fB X G yu,fB X G yv,fB X G yw,fB X G yy,fB X G yz⟩
theorem HS{l:wZ}{w:aT}{K:aB}{mg:Str->Option ag}{fa:ah}(hfa:mg "law" = ab (.ref fa))(T:Txt mg)(EX:dj K mg "refuse_strangers" wI ["names","asked"])(EY:dj K mg "refuse_repeats" vh ["asked"])(EZ:dj K mg "refuse_wrong_asks" vA ["names","asked"])(E1:dj K mg "are_tied" wm ["net","one","other"])(E2:dj K mg "neighbours_in" uN ["net"])(E3:dj K mg "roads_begun" wE ["neighbours","begun","other"])(E4:dj K mg "all_roads" wa ["net","one","other"])(E5:dj K mg "_law_alike" wx ["_law_found","_law_due_here"])(E6:dj K mg "_law_cell" vX ["_law_script","_law_k"])(E7:dj K mg "_law_words" vT ["_law_cell_here","_law_many"])(E8:dj K mg "_law_ranks" v3 ["_law_cell_here","_law_many"])(E9:dj K mg "_law_net" wA ["_law_script","_law_most"])(Fa:dj K mg "_law_two" vF ["_law_script","_law_most"])(Fb:dj K mg "_law_questions" uU ["_law_script","_law_many"])(Fc:dj K mg "_law_asked" vZ ["_law_net_here","_law_draw"])(Fd:dj K mg "_law_tied" uw ["_law_net_here","_law_one","_law_other"])(Fe:dj K mg "_law_roads" wL ["_law_net_here","_law_one","_law_other"])(Ff:dj K mg "_law_due" vv ["_law_net_here","_law_one","_law_other"])(Fg:dj K mg "law" vR ["_law_script"]) :
 ∃fd:bS,(∀(s:ak) (u:ag),lp s fd ⟨[u],[]⟩ [("_law_script",u)])/\∀base:aI,K.In base->base.Ns mainGlobals mg->bt l.prog w K mg base aL 11 fa fd ["_law_script"] A.rM:=
 dj.Go Fg hfa λbase kb nb f fd F=>by
  have oE:=EX.cal (P:=l.prog) (w:=w) (base:=base) (CX:=aL) λf fd F=>Gc F T;have xT:=EY.cal (P:=l.prog) (w:=w) (base:=base) (CX:=aL) λf fd F=>GY F T;have xW:=EZ.cal (P:=l.prog) (w:=w) (base:=base) (CX:=aL) λf fd F=>J8 F T oE xT;have xU:=E1.cal (P:=l.prog) (w:=w) (base:=base) (CX:=aL) λf fd F=>K9 F T oE;have xX:=E2.cal (P:=l.prog) (w:=w) (base:=base) (CX:=aL) λf fd F=>Hz F T xU;have mM:=Aj (P:=l.prog) (w:=w) (base:=base) (CX:=aL) E3 λf fd F self=>Dh F T self;have qR:=E4.cal (P:=l.prog) (w:=w) (base:=base) (CX:=aL) λf fd F=>FQ F T xW xX mM;have kw:=Aj (P:=l.prog) (w:=w) (base:=base) (CX:=aL) E5 λf fd F self=>yZ F T self;have g7:=E6.cal (P:=l.prog) (w:=w) (base:=base) (CX:=aL) λf fd F=>IP F T;have xY:=E7.cal (P:=l.prog) (w:=w) (base:=base) (CX:=aL) λf fd F=>G3 F T;have xZ:=E8.cal (P:=l.prog) (w:=w) (base:=base) (CX:=aL) λf fd F=>GO F T;have x2:=E9.cal (P:=l.prog) (w:=w) (base:=base) (CX:=aL) λf fd F=>Ir F T g7 xY xZ;have x6:=Fa.cal (P:=l.prog) (w:=w) (base:=base) (CX:=aL) λf fd F=>IQ F T g7 x2;have x9:=Fb.cal (P:=l.prog) (w:=w) (base:=base) (CX:=aL) λf fd F=>Hw F T g7;have ya:=Fc.cal (P:=l.prog) (w:=w) (base:=base) (CX:=aL) λf fd F=>GV F T;have um:=Fd.cal (P:=l.prog) (w:=w) (base:=base) (CX:=aL) λf fd F=>JC F T;have x5:=Fe.cal (P:=l.prog) (w:=w) (base:=base) (CX:=aL) λf fd F=>HQ F T um;have uo:=Ff.cal (P:=l.prog) (w:=w) (base:=base) (CX:=aL) λf fd F=>Ja F T x5;exact A.GQ (Kg F T qR kw x6 x9 ya uo) λns hl=>by first|exact Mr.AQ ns|exact Mr.AQ ns hl
end oD
end
namespace PySem.W.Fast
def tw13871061723272840607:=0
def tw3064081615098524864:=0
def tw11568711593583460576:=0
def tw16885779464442002816:=0
def tw8115896216811306368:=0
def tw12751732753583003104:=0
def tw7367972755243203232:=0
def tw7740922962196492032:=0
def tw9037402441630885664:=0
def tw1610342569300353345:=0
def tw6864030492837179841:=0
def tw5893200635351057889:=0
def tw9836685045335066337:=0
def tw3765207309625313121:=0
def tw6754035018302838850:=0
def tw7614029334649920258:=0
def tw682307722280082627:=0
def tw14970424259015605571:=0
def tw8826147176128861667:=0
def tw10672848009974722051:=0
def tw2588624238882994819:=0
def tw4075611332151531267:=0
def tw2671670118385686339:=0
def tw8144914749227110404:=0
def tw15453070831314288836:=0
def tw14784543826879616644:=0
def tw12166060454507466789:=0
def tw3680876784739358245:=0
def tw17633434284420846213:=0
def tw429542394385313445:=0
def tw12178657571522621189:=0
def tw4245424717003384773:=0
def tw14130499382539934693:=0
def tw14402606502050653254:=0
def tw11489880735708039366:=0
def tw2104105594580767110:=0
def tw11871205715574850118:=0
def tw5232411123230215814:=0
def tw541157789763139270:=0
def tw2196422789569868742:=0
def tw5728199348056073511:=0
def tw10993173081904437799:=0
def tw9933920784060777095:=0
def tw15687741292248842919:=0
def tw15343650323540078856:=0
def tw848866975610347816:=0
def tw15235951551771871784:=0
def tw192447152210441864:=0
def tw14287045160637854440:=0
def tw399175478866142505:=0
def tw5789775544205822281:=0
def tw16577233320243196809:=0
def tw8816884346192226217:=0
def tw4939590806430269385:=0
def tw16337483443559092426:=0
def tw2115799916078813418:=0
def tw424125423638586602:=0
def tw4311778942875541898:=0
def tw14029679914049179082:=0
def tw15141241298464665643:=0
def tw17767352019413221515:=0
def tw14462931314329245899:=0
def tw2646168490613127691:=0
def tw6491654466164005419:=0
def tw1164954022446287467:=0
def tw2766239473995886251:=0
def tw11370447749676347339:=0
def tw17615132441247360140:=0
def tw5493834889982014924:=0
def tw2623564990016581292:=0
def tw15504292242305364684:=0
def tw15895002594909721324:=0
def tw11545291751328122668:=0
def tw14473541152465905612:=0
def tw18085443685316010988:=0
def tw8509581918041516045:=0
def tw17567827204054224109:=0
def tw15672947470182074733:=0
def tw1449160988828260813:=0
def tw15229244348696074733:=0
def tw1453652434920069837:=0
def tw7956436674844879725:=0
def tw11032176931699984301:=0
def tw5950380696030467310:=0
def tw4009563246102147438:=0
def tw10767342740996792814:=0
def tw9507708411540269646:=0
def tw12581280628733563502:=0
def tw12723000247905712143:=0
def tw15834232820385593359:=0
def tw3800398439014465807:=0
def tw4065439958672587183:=0
def tw311127864893552559:=0
def tw2408018426587459792:=0
def tw15734172156523037072:=0
def tw8472668987309825712:=0
def tw4513500778239845040:=0
def tw1744580757266874096:=0
def tw15921579816731160432:=0
def tw13222962498630909808:=0
def tw4542259505244697552:=0
def tw2565417484340565457:=0
def tw6561939171089185265:=0
def tw11043975060574414577:=0
def tw1754593903690138706:=0
def tw1199304267289020594:=0
def tw17903474652028757650:=0
def tw15363112612313219058:=0
def tw13398555143065940147:=0
def tw5706346119673505268:=0
def tw6288868598128132149:=0
def tw5213191496741097557:=0
def tw3497454260091019605:=0
def tw17431667542108818869:=0
def tw6878637268285985525:=0
def tw15986716998130288565:=0
def tw6562123643967240630:=0
def tw15307747572985707958:=0
def tw6370625216949372630:=0
def tw7996398390788993814:=0
def tw11731077546751073142:=0
def tw8747856001076694998:=0
def tw14413155943751333591:=0
def tw15365138063357948727:=0
def tw1131683608024834007:=0
def tw7440650367177638871:=0
def tw1803106461947304216:=0
def tw17412334743060469144:=0
def tw10165328160358706616:=0
def tw17338105980488925688:=0
def tw8943992895800294136:=0
def tw12872709824619955000:=0
def tw3879233643033361497:=0
def tw17044468786122110553:=0
def tw9933136044438704761:=0
def tw8060483450268497817:=0
def tw66146825491603834:=0
def tw10258997003901423194:=0
def tw10685649405497604794:=0
def tw4865518391130002170:=0
def tw10465904034856509755:=0
def tw3293744470534443483:=0
def tw2613988975258624571:=0
def tw3300238039489847067:=0
def tw7507308978907035451:=0
def tw3616773921675353148:=0
def tw375025667301616284:=0
def tw16671193714959707868:=0
def tw1487216319079971804:=0
def tw8605944917693621565:=0
def tw5670956389184435709:=0
def tw1096691052938617469:=0
def tw7638771434976347037:=0
def tw5225339304284832701:=0
def tw14136877419304352765:=0
def tw17156144894535019517:=0
def tw747684681184636222:=0
def tw14645998216950856030:=0
def tw15545808948928140734:=0
def tw3679895248316112734:=0
def tw10269276371772993374:=0
def tw12938876640070272031:=0
def tw12795784692326293887:=0
def tw3241849155005097471:=0
def tw6479840937061286655:=0
def tw8325770972684704575:=0
end PySem.W.Fast
open PySem PySem.W PyProof.Rows
set_option maxRecDepth 100000 in
set_option maxHeartbeats 0 in
theorem PySem.Challenge.cw_arrowfind_k10_all_roads_holds : PySem.Challenge.rw_arrowfind_k10_all_roads.Holds := by
 w_on;o_law;k_head;(case hw=>w_witness2)
 k_fill
 refine oD.walk (l:=PySem.Challenge.rw_arrowfind_k10_all_roads) rfl rfl (λw h Y=>PySem.W.kIn_of Y) ?L ?F
 case L=>
  intro w
  kernel_rfl
 case F=>
  intro w mg fa h KX G hmg
  refine' oD.HS hmg ?T ?EX ?EY ?EZ ?E1 ?E2 ?E3 ?E4 ?E5 ?E6 ?E7 ?E8 ?E9 ?Fa ?Fb ?Fc ?Fd ?Fe ?Ff ?Fg
  case T=>
   refine' oD.Jd KX G ?ye ?yf ?yg ?yh ?yi ?yk ?yl ?ym ?yo ?yp ?yq ?yt ?yu ?yv ?yw ?yy ?yz
   (case ye=>k_is)
   (case yf=>k_is)
   (case yg=>k_is)
   (case yh=>k_is)
   (case yi=>k_is)
   (case yk=>k_is)
   (case yl=>k_is)
   (case ym=>k_is)
   (case yo=>k_is)
   (case yp=>k_is)
   (case yq=>k_is)
   (case yt=>k_is)
   (case yu=>k_is)
   (case yv=>k_is)
   (case yw=>k_is)
   (case yy=>k_is)
   (case yz=>k_is)
  all_goals
   first
    |(refine' L2.u8 KX G (λ_ _ _ _ _ _ us hl=>match us,hl with|[_],_=>rfl) ?a ?l ?c ?k;(case a=>k_is);(case l=>k_is);(case c=>k_is);(case k=>k_is))
    |(refine' L2.u8 KX G (λ_ _ _ _ _ _ us hl=>match us,hl with|[_,_],_=>rfl) ?a ?l ?c ?k;(case a=>k_is);(case l=>k_is);(case c=>k_is);(case k=>k_is))
    |(refine' L2.u8 KX G (λ_ _ _ _ _ _ us hl=>match us,hl with|[_,_,_],_=>rfl) ?a ?l ?c ?k;(case a=>k_is);(case l=>k_is);(case c=>k_is);(case k=>k_is))
