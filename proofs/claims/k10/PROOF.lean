import PyProof.Rows.All
import Wide.All
import OpenK.AllK
import Wide.FinOn
import Lean
import PyProof.EqAt
import PyProof.EqKinds
import PyProof.TupleCall
import PySem.Str
import PyProof.NeKinds
import PyProof.Draws
import PyProof.EnumMake
import PyProof.ZipIter
import KE.KSortTup
import KE.KLam
import PyProof.Rows.SortStr
import PyProof.Rows.FactsT3
import PyProof.StrOps2
import KE.KDictList
import KE.KRevIter
import PyProof.CollectIter
import PyProof.TupleOfGen
import PyProof.Rows.StrNews2
import PyProof.Rows.StrFacts2
import PyProof.ExcClass2
import PyProof.ExcInit
import PyProof.InstStoreFacts
import PyProof.ReprRoads
import KE.KSortAsk
import PyProof.StrLawsRepr
import PyProof.Rows.StrCase
import PyProof.Rows.StrSplit
import PySem.Challenge.RW_arrowfind_k10_all_roads
open PySem.W renaming Frag->aB,mg_none_of->fk,nsIn->eV,kia_one->iS,fnOf->kZ,keepIn->nT,kitx_list->sV,kitx_dict->sW,codeIn->sX,methodObj->wK,instObj->wL,OpenLaw->wM,lookIn->wN,kitOne->wQ,kitAny->wR,cellsFrom_some->Dx,kas_item->nU,kitx_float->Dy,kitx_tuple->Dz,kitx_none->DA,kitx_bool->DB,plainGet->DC,kitx_int->DD,kitx_str->DE,kitx_own->DF,findIn->DG
open List renaming length_map->aS,getElem?_eq_some_iff->cM,length_append->bA,mem_singleton->bB,size_toArray->bF,mem_cons_of_mem->cm,getElem?_eq_getElem->c7,getD_eq_getElem?_getD->dv,mem_cons_self->cn,length_cons->bW,length_singleton->dw,mem_cons->bJ,length_take->cF,mem_append_right->dM,getElem?_set_ne->dN,range->bn,getElem?_map->de,map_cons->cq,flatMap_cons->d8,replicate->dm,mem_append->dO,mem_map->c8,length_drop->eW,mem_range->dP,map_map->dg,all_eq_true->fm,map_append->eX,append_assoc->f7,getElem?_append_right->j4,getElem?_cons_succ->jr,getElem?_set_self->js,mem_of_getElem?->iT,length_set->f8,getElem?_cons_zero->j5,nodup_append->ig,map_flatMap->ii,nodup_cons->ik,getElem?_append_left->l7,drop_eq_getElem_cons->l9,getElem?_take_of_lt->ma,mem_append_left->k4,append_nil->jt,find?_cons->ju,idxOf_lt_length_iff->nV,getElem_inj->j6,eq_nil_of_length_eq_zero->qj,mem_flatMap->j7,getElem?_of_mem->me,any_cons->iU,finRange->iV,mem_filter->j8,mem_map_of_mem->mf,lookup_cons->k5,reverse_cons->mh,nil_append->k7,map_congr_left->nW,cons_append->mj,take_of_length_le->qk,length_nil->ml,forIn_cons->mm,toArray->j9,filter_eq_self->ql,filter_cons_of_pos->sY,drop_of_length_le->sZ,getElem?_set->qm,pairwise_map->qo,getElem_mem->qp,mem_of_mem_take->s0,reverse_reverse->s9,length_reverse->tm,map_nil->nX,pairwise_cons->tq,getElem?_drop->tu,getElem_idxOf->tw,drop_zero->qq,filter_cons_of_neg->wT,pairwise_singleton->wU,drop_eq_nil_of_le->wW,length_replicate->wX,filterMap_cons->wY,length->qr,map_drop->tD,getElem_range->wZ,any_eq_false->w5,length_range->w6,ext_getElem->w9,getElem_map->xa,of_mem_zip->xb,forIn_nil->xc,pairwise_iff_getElem->DH,take_succ->xf,length_erase_of_mem->DI,mem_of_mem_eraseIdx->DJ,getElem?_replicate->DK,map_take->xg,append_cancel_left->DL,eraseIdx_cons_succ->DM,reverse_eq_nil_iff->DN,eraseIdx_sublist->DO,length_filter_le->DP,mem_erase_of_ne->DQ,mem_of_mem_drop->DR,length_eraseIdx->DS,filter_sublist->DT,reverse_append->DU,mem_filterMap->DV,set_cons_succ->DW,set_cons_zero->DX,filter_congr->DY
open PySem renaming wpAny_bind->aA,Value->ag,Shared->ak,Addr->ah,wpAny_pure->bo,Program->bb,sizeLine_eq->cZ,FuncData->bQ,World->aT,Around->br,boot_len->ka,wpAny_mono->gv,Heap->aI,wpAny_holding->jv,wpAny_call_entry->mn,Expr->aO,wpAny_truthy_bool->nY,mem_of_lookup->qt,wpAny_callSpecial?_slot->tE,wpAny_field->k8,typeIs_bool->tF,wpAny_passesOwn->qu,wpAny_setField_rec->tG,wpAny_seqItems->qv,Stmt->bC,wpAny_specialOf->tH,NameKind->k9,call_meets->nZ,Scope->fo,wpAny_standAt->tI,wpAny_Call_Name_kw->xh,tupleKind_room_in1->xi,Fin->qw,wpAny_pyIter_list->xj,BindsTo->lb,Paired->n5,seqIndex_neg->tJ,Builtin->jw,wpAny_execs_nil->xk,seqIndex_of->tK,PlainAttrs->tL,call->xm,wpAny_newList->xo,wpAny_attempt->xp,wpAny_pyNext_list_item->DZ,wpAny_Call_method_late->D1
open PySem.Heap renaming get?_push_of_some->cG,lt_size->bG,get?_push_size->d9,SameBut->mo,size_push->qx,get?_update_self->xq,get?_update_other->D2,ExtBut->xt
open Nat renaming le_refl->bg,lt_of_lt_of_le->fI,le_trans->dQ,zero_add->eJ,zero_le->eY,ne_of_lt->f9,lt_irrefl->jx,add_sub_cancel->qy,le_succ->qz,ne_of_gt->tM,le_of_lt->xu,pow_succ->xw,mul_le_mul_right->D3,pow_le_pow_right->D4
open Bool renaming false_ne_true->cN,and_eq_true->fJ,false_or->jy,false_eq_true->n9,not_eq_true'->qA,and_false->tP,true_or->xx
open Option renaming map->bH,map_eq_some_iff->mq,toList_some->D5,isSome_map->D6,getD_none->D7
open PySem.F renaming plainAttrs_list->gA,slot_list_append->oa,type_list_append->og,slot_tuple_iterator_next->tQ,slot_list_pop->xz,type_list_pop->xA,slot_list_lt->xB,slot_bool_hash->tR,args_tuple_iterator_next_1->D8,entry_tuple_iterator_next->D9,slot_zip_next->tS,slot_tuple_index->Ea,slot_list_index->Eb,slot_list_clear->Ec,type_list_clear->Ed,plainAttrs_str->Ee,slot_str_join->Ef,type_str_join->Eg
open Int renaming emod_lt_of_pos->fK,emod_nonneg->fq,toNat_natCast->jz,ofNat->qB
open Option.some renaming inj->eZ
open PySem.Value renaming ref->cr,none->dR,str->ke,bool->mv,type->tT,float->xC
open Iff renaming rfl->bq
open PySem.PassesOwn renaming never->gc
open PySem.Builtin.SmallTypes renaming nextOf->my,ownedTupleHandOut->Eh,ownedTupleIsFree->Ei
open PySem.Str renaming empty->dS,join->io,length->mz,ofString->tU
open ForInStep renaming yield->jA
open PyProof.Rows renaming boot_isinstance->jB,listItems_at->iW,callWith_type1->tV,Keyed->bM,SortSt->dA,IntsAre->ip,AllBare->kf,SortKind->oh,wpS_modify->tW,subscriptTail_builtinR->Ej
open True renaming intro->gB
open PySem.NameKind renaming free->kg,cell->xD
open PySem.Obj renaming mapSeq->gR,data_mapFields->Ek
open Ne renaming symm->dI
open Std.Legacy.Range renaming forIn_eq_forIn_range'->xE
open Classical renaming byContradiction->tX
open Array renaming perm_iff_toList_perm->tY,toList_inj->oi,toArray_toList->xF,getElem?_toList->El,length_toList->Em,toList_append->En,ext_getElem?->Eo,toList_map->Ep
open List.Pairwise renaming nil->qC
open PyProof.Rows.SortSt renaming mk'->jC
open False renaming elim->jD
open Sum renaming inr->ft,inl->mB
open PySem.Calls renaming callWith_builtin->tZ,evalArgs_plain->xG,Name_function_global->Er
open PySem.Heap.SameBut renaming update->t5
open PySem.Builtin.List renaming listTooLong->xH,listItems->Es
open Or renaming inl->e9,inr->iX
open PySem.Value.type renaming inj->t6
open List.Sublist renaming refl->xI
open PySem.Builtin.Str renaming strSliceIndices->Et
open PySem.MeetsSeq renaming EqGives->Eu
open Sum.inr renaming inj->t7
open PySem.MeetsSeq3 renaming plain_eq_loop->t8
open PySem.SeqAt.EqAt renaming bool_bool->Ev,bool_str->Ew,str_bool->Ey
open PySem.Paired renaming length->xJ
open PySem.Around renaming under_plainId->Ez
open PySem.SeqRoads2.EqGives renaming str->K8
open Array.Perm renaming refl->EA
open Option renaming some->ab,none->ae
abbrev bw:=@decide_eq_false
abbrev aw:=@if_pos
abbrev ay:=@if_neg
abbrev cE:=@decide_eq_true
abbrev jT:=@decide_eq_true_eq
abbrev jQ:=@beq_self_eq_true
abbrev na:=@decide_eq_false_iff_not
abbrev fO:=@if_false
abbrev jN:=@beq_iff_eq
abbrev qb:=@of_decide_eq_true
abbrev sC:=@beq_eq_false_iff_ne
abbrev gN:=@if_true
abbrev rV:=@decide_eq_true_iff
abbrev wj:=@decide_eq_decide
set_option maxRecDepth 100000
set_option maxHeartbeats 4000000
set_option Elab.async false
set_option linter.all false
set_option bootstrap.genMatcherCode false
noncomputable section
namespace L2
open PySem PySem.Spec PyProof.Rows
abbrev Key:=Sum Bool Str
def A6(k:Bool):ag->Bool
 |.bool b=>b==k
 |_=>false
def oB:Key->ag->Bool
 |.inl k,v=>A6 k v
 |.inr x,v=>Value.isStrOf x v
def Jz(w:aT):Key->Int
 |.inl k=>hashInt (if k then 1 else 0)
 |.inr x=>hashStr w x
theorem JY{k:Bool}:∀{v:ag},A6 k v=true->v=.bool k
 |.bool b,h=>by rw[show b=k from eq_of_beq h]
theorem jP:∀{k:Key} {v:ag},oB k v=true->(∃i,k=mB i/\v=mv i)\/(∃x t,k=ft x/\v=ke x t)
 |.inl i,v,h=>.inl ⟨i,rfl,JY h⟩
 |.inr x,v,h=>by
  obtain⟨t,e⟩:=Value.isStrOf_shape (x:=x) (v:=v) h;exact .inr ⟨x,t,rfl,e⟩
theorem Jf(i:Bool):oB (.inl i) (.bool i)=true:=jQ i
theorem Hi{prog:bb}{w:aT}{A:br}{E:ag->ak->Prop}{s:ak}{b:Bool}{Q:Int->ak->Prop}(h:Q (hashInt (if b then 1 else 0)) { s with toks:=s.toks+1 }) :
 wpAny (model prog w) A (pyHash (.bool b)) Q E s:=by
 have hr:=rawHash_range (if b then 1 else 0);unfold pyHash;have hv:[mv b].any Value.onHeap=false:=rfl;refine aA ?_;rw[cRoomFor,ay (by rw[hv];exact cN)];refine bo ?_;refine aA (tH (tF s b) tR.lookup ?_);show wpAny _ _ (if(ab (Value.builtin "int.__hash__")==ab dR)=true then _ else _) Q E s;rw[ay (by rw[beq_builtin_none];exact cN)];refine aA (tH (tF s b) tR.lookup ?_);show wpAny _ _ (callSpecialIfBoundUnlessNone? (.bool b) "__hash__" _ >>= _) Q E s;refine aA (wpAny_callSpecialIfBoundUnlessNone?_slot (tF s b) tR
  (mn tR (tF s b) F.entry_int_hash
   (show wpAny _ _ (do ret (<- mkInt (rawHash (if b then 1 else 0)))) _ _ s from wpAny_ret_mkInt ?_) (F.args_int_hash_1 _)))
 show wpAny _ _ (if(decide (-(2:Int) ^ 63<=rawHash (if b then 1 else 0))&&decide (rawHash (if b then 1 else 0)<2 ^ 63))=true then _ else _) Q E _;rw[aw (by rw[cE hr.1,cE hr.2];rfl)];exact bo h
theorem Ir(x:Str)(t:Tok):oB (.inr x) (.str x t)=true:=by simp[oB,Value.isStrOf]
theorem HY(a b:Bool):decide ((mB a:Key)=mB b)=(a==b):=by
 by_cases e:a=b
 ·subst e;simp
 ·have h:¬ (mB a:Key)=mB b:=λq=>e (Sum.inl.inj q);rw[bw h];exact(sC.mpr e).symm
theorem Jy(a b:Str):decide ((ft a:Key)=ft b)=decide (a=b):=by
 by_cases e:a=b
 ·subst e;simp
 ·have h:¬ (ft a:Key)=ft b:=λq=>e (t7 q);rw[bw h,bw e]
theorem KN(a:Bool)(b:Str):decide ((mB a:Key)=ft b)=false:=bw (λq=>nomatch q)
theorem F2(a:Str)(b:Bool):decide ((ft a:Key)=mB b)=false:=bw (λq=>nomatch q)
def gL(prog:bb)(w:aT):PySem.KeyKind prog w Key where
 is:=oB
 hash:=Jz w
 inj:=λv a b ha hb=>by
  rcases jP ha with ⟨i,rfl,rfl⟩|⟨x,t,rfl,rfl⟩
  ·rcases jP hb with ⟨j,rfl,e⟩|⟨y,u,rfl,e⟩
   ·injection e with e1;rw[e1]
   ·exact nomatch e
  ·rcases jP hb with ⟨j,rfl,e⟩|⟨y,u,rfl,e⟩
   ·exact nomatch e
   ·injection e with e1 _;rw[e1]
 byValue:=λk v h=>by
  rcases jP h with ⟨i,rfl,rfl⟩|⟨x,t,rfl,rfl⟩<;>rfl
 pyHash:=λhv h=>by
  rcases jP hv with ⟨i,rfl,rfl⟩|⟨x,t,rfl,rfl⟩
  ·exact Hi h
  ·exact wpAny_pyHash_str h
 eqBool:=λhu hv h=>by
  rcases jP hu with ⟨i,rfl,rfl⟩|⟨x,t,rfl,rfl⟩
  ·rcases jP hv with ⟨j,rfl,rfl⟩|⟨y,u,rfl,rfl⟩
   ·rw[HY]at h;exact Ev i j _ _ _ _ h
   ·rw[KN]at h;exact Ew i y u _ _ _ _ h
  ·rcases jP hv with ⟨j,rfl,rfl⟩|⟨y,u,rfl,rfl⟩
   ·rw[F2]at h;exact Ey x t j _ _ _ _ h
   ·rw[Jy]at h;exact wpAny_eqBool_str h
 «strs»:=λk x t v h=>by
  rcases jP h with ⟨i,rfl,e⟩|⟨y,u,rfl,e⟩
  ·exact nomatch e
  ·injection e with e1 _;subst e1;cases v<;>rfl
theorem FL(prog:bb)(w:aT)(i:Bool):(gL prog w).is (.inl i) (.bool i)=true:=Jf i
theorem Hy(prog:bb)(w:aT)(x:Str)(t:Tok):(gL prog w).is (.inr x) (.str x t)=true:=Ir x t
inductive V where
 |non|bl (b:Bool)|int (i:Int)|str (x:Str)|byt (b:Array UInt8)|flt (b:UInt64)|ref (a:ah)|ty (n:String)
 deriving DecidableEq
def RelV:V->ag->Prop
 |.non,u=>u=dR
 |.bl b,u=>u=mv b
 |.int i,u=>∃t,u=Value.int i t
 |.str x,u=>∃t,u=ke x t
 |.byt b,u=>∃t,u=Value.bytes b t
 |.flt b,u=>∃t,u=xC b t
 |.ref a,u=>u=cr a
 |.ty n,u=>u=tT n
abbrev Vals:List V->List ag->Prop:=n5 RelV
theorem Vals.length{xs:List V}{us:List ag}(r:Vals xs us):xs.length=us.length:=xJ r
theorem Vals.get:∀{xs:List V} {us:List ag} {i:Nat} {x:V},Vals xs us->xs[i]? = ab x->∃u,us[i]? = ab u/\RelV x u
 |_,_,_,_,.nil,e=>by simp at e
 |_,_,0,_,.cons r _,e=>by simp at e;subst e;exact⟨_,rfl,r⟩
 |_,_,i+1,x,.cons _ t,e=>by
  obtain⟨u,h1,h2⟩:=Vals.get (i:=i) (x:=x) t (by simpa using e);exact⟨u,by simpa using h1,h2⟩
theorem Vals.set{x:V}{u:ag}(r:RelV x u):∀{xs:List V} {us:List ag} (i:Nat),Vals xs us->Vals (xs.set i x) (us.set i u)
 |_,_,_,.nil=>.nil
 |_,_,0,.cons _ t=>.cons r t
 |_,_,i+1,.cons q t=>.cons q (Vals.set r i t)
theorem Vals.append:∀{xs ys:List V} {us ws:List ag},Vals xs us->Vals ys ws->Vals (xs++ys) (us++ws)
 |_,_,_,_,.nil,s=>s
 |_,_,_,_,.cons r t,s=>.cons r (Vals.append t s)
theorem Vals.take:∀{xs:List V} {us:List ag} (n:Nat),Vals xs us->Vals (xs.take n) (us.take n)
 |_,_,0,_=>.nil
 |_,_,_+1,.nil=>.nil
 |_,_,n+1,.cons r t=>.cons r (Vals.take n t)
theorem Vals.drop:∀{xs:List V} {us:List ag} (n:Nat),Vals xs us->Vals (xs.drop n) (us.drop n)
 |_,_,0,r=>r
 |_,_,_+1,.nil=>.nil
 |_,_,n+1,.cons _ t=>Vals.drop n t
def iQ:Option V->Option ag->Prop
 |some v,ab u=>RelV v u
 |none,ae=>True
 |_,_=>False
def KV{κ:Type}:List (κ×V)->List (κ×ag)->Prop:=n5 λ(p:κ×V) (q:κ×ag)=>p.1=q.1/\RelV p.2 q.2
def kV:Key->V
 |.inl i=>.bl i
 |.inr x=>.str x
def mK(h:aI)(a:ah)(ai:Array ag):Prop:=∃o,h.get? a=ab o/\o.cls=.type "tuple" /\ o.dict=ae/\∃n,o.data=.seq ai n
theorem mK.tup{h:aI}{a:ah}{ai:Array ag}(x:mK h a ai):IsTup h a ai:=let ⟨o,e,c,_,d⟩:=x;⟨o,e,c,d⟩
theorem mK.new(h:aI)(ai:Array ag):mK (h.push { cls:=.type "tuple", data:=.seq ai }) h.objs.size ai:=⟨_,d9 _ rfl,rfl,rfl,_,rfl⟩
inductive HO where
 /-- a list -/
 |lst (xs:List V)
 /-- a tuple (never changes) -/
 |tup (xs:List V)
 /-- a dict whose keys are ints and texts;one whose keys are tuples of ints and texts (the empty one is both) -/
 |dK (am:List (Key×V))|dT (am:List (List Key×V))
 /-- a set of ints: ai members,ai size -/
 |set (S:Int->Bool) (n:Nat)
 /-- an instance of the class at C,ai dict at dx,ai attributes -/
 |ins (C dx:ah) (fs:List (Str×V))
 /-- the dict of the instance at x -/
 |own (x:ah)
 /-- the dict of an exception -/
 |xd (fs:List (Str×V))
 /-- a bound method,f of x -/
 |met (f x:ah)
 /-- a range object lo,lo+1,.. below hi -/
 |rng (lo hi:Int)
 /-- a thing that is known to the object (the script;a dict while a loop walks it): read,never written while it is so -/
 |frz (o:Obj) (u:HO)
 /-- a code object's table -/
 |tbl (w:Str) (ps:Array ag)
 /-- any other thing,by what is true of ai one object (a def of one's own: LJ a S n:=HO.ext λh=>..) -/
 |ext (φ : aI->Prop)
abbrev Hp:=ah->Option HO
def upd(H:Hp)(a:ah)(o:HO):Hp:=λb=>if b=a then ab o else H b
theorem b9{H:Hp}{a:ah}{o:HO}:upd H a o a=ab o:=by unfold upd;rw[aw rfl]
theorem aQ{H:Hp}{a b:ah}{o:HO}(h:b≠a):upd H a o b=H b:=by unfold upd;rw[ay h]
theorem IR{H:Hp}{a b:ah}{o u:HO}(h:H a=ab o)(h':H b=ab u)(d:o≠u):a≠b:=by intro e;subst e;rw[h]at h';exact d (eZ h')
theorem cI{H:Hp}{a b:ah}{o:HO}(h:H a=ab o)(h':H b=ae):a≠b:=by intro e;subst e;rw[h]at h';cases h'
section
variable(P:bb)(w:aT)
def bN(H:Hp)(h:aI)(a:ah):HO->Prop
 |.lst xs=>xs.length<=sizeLine/\∃(ai:List ag) (n:Nat),Vals xs ai/\h.get? a=ab { cls:=.type "list", data:=.seq ai.toArray n }
 |.tup xs=>xs.length<=sizeLine/\∃ai:List ag,Vals xs ai/\mK h a ai.toArray
 |.dK am=>am.length<=sizeLine/\(a==sysModules)=false/\∃vs,KV am vs/\h.DictOf (gL P w) a vs
 | .dT am=>am.length<=sizeLine/\(a==sysModules)=false/\∃xs:List (List Key×ah×ag),
  n5 (λ(p:List Key×V) (q:List Key×ah×ag)=>p.1=q.1/\H q.2.1=ab (.tup (p.1.map kV))/\RelV p.2 q.2.2) am xs /\
  ∃o es ep,h.get? a=ab o/\o.ExactDict/\o.data=.dict es ep/\es.toList=xs.map (entryOfKey (tupleKind (gL P w)))/\(xs.map (·.1)).Nodup
 |.set S n=>h.SetOf (intKind P w) a S n
 | .ins C dx fs=>H dx=ab (.own a)/\fs.length<=1000/\dx≠a/\h.get? a=ab (wL C dx) /\
  ∃mA,h.Ns1 dx mA/\(∀f,iQ (fs.lookup f) (mA f))/\PySem.Within mA (fs.map (·.1))
 |.own _=>∃o,h.get? a=ab o
 |.xd fs=>∃mA,h.Ns1 a mA/\∀f,iQ (fs.lookup f) (mA f)
 |.rng lo hi=>∃t u v,h.get? a=ab { cls:=.type "range", data:=.fields #[.int lo t,.int hi u,.int 1 v] }
 |.frz o u=>h.get? a=ab o/\bN H h a u
 |.tbl _ ps=>h.get? a=ab { cls:=.none,data:=.fields ps }
 |.met f x=>h.get? a=ab (wK (.ref f) (.ref x))
 |.ext φ=>φ h/\(∃o,h.get? a=ab o)/\∀h1 h2:aI,φ h1->(∀o,h1.get? a=ab o->h2.get? a=ab o)->φ h2
def cg(H:Hp)(h:aI):Prop:=∀a o,H a=ab o->bN P w H h a o
end
section
variable{P:bb}{w:aT}{H H':Hp}{h h':aI}{a:ah}{o:HO}
theorem bN.lt(x:bN P w H h a o):a<h.objs.size:=by
 cases o with
 |lst xs=>obtain⟨_,_,_,_,e⟩:=x;exact bG e
 |tup xs=>obtain⟨_,_,_,p⟩:=x;exact p.tup.lt
 |dK am=>obtain⟨_,_,_,_,o,_,_,e,_⟩:=x;exact bG e
 |dT am=>obtain⟨_,_,_,_,o,_,_,e,_⟩:=x;exact bG e
 |set S n=>obtain⟨o,_,_,_,e,_⟩:=x;exact bG e
 |ins C dx fs=>obtain⟨_,_,_,e,_⟩:=x;exact bG e
 |own y=>obtain⟨_,e⟩:=x;exact bG e
 |xd fs=>obtain⟨_,⟨_,_,_,e,_⟩,_⟩:=x;exact bG e
 |rng lo hi=>obtain⟨_,_,_,e⟩:=x;exact bG e
 |frz ob u=>obtain⟨e,_⟩:=x;exact bG e
 |tbl w ps=>exact bG (show h.get? a=ab _ from x)
 |met f y=>exact bG (show h.get? a=ab _ from x)
 |ext φ=>obtain⟨_,⟨_,e⟩,_⟩:=x;exact bG e
theorem Paired.vA{α β:Type}{F G:α->β->Prop}:∀{l₁:List α} {l₂:List β},n5 F l₁ l₂->(∀a b,F a b->G a b)->n5 G l₁ l₂
 |_,_,.nil,_=>.nil
 |_,_,.cons r t,f=>.cons (f _ _ r) (Paired.vA t f)
theorem bN.stay(x:bN P w H h a o)(k:∀b u,(b=a\/H b=ab (.own a))->h.get? b=ab u->h'.get? b=ab u)
 (ho:∀b,H b=ab (.own a)->H' b=ab (.own a)) (ht:∀b xs,H b=ab (.tup xs)->H' b=ab (.tup xs)):bN P w H' h' a o:=by
 induction o with
 |lst xs=>obtain⟨z,ai,n,r,e⟩:=x;exact⟨z,ai,n,r,k _ _ (.inl rfl) e⟩
 |tup xs=>obtain⟨z,ai,r,ob,e,c⟩:=x;exact⟨z,ai,r,ob,k _ _ (.inl rfl) e,c⟩
 |dK am=>obtain⟨z,y,vs,r,ob,es,ep,e,c⟩:=x;exact⟨z,y,vs,r,ob,es,ep,k _ _ (.inl rfl) e,c⟩
 |dT am=>
  obtain⟨z,y,xs,r,ob,es,ep,e,c⟩:=x;exact⟨z,y,xs,Paired.vA r λp q z=>⟨z.1,ht _ _ z.2.1,z.2.2⟩,ob,es,ep,k _ _ (.inl rfl) e,c⟩
 |set S n=>obtain⟨ob,es,ep,t,e,c⟩:=x;exact⟨ob,es,ep,t,k _ _ (.inl rfl) e,c⟩
 |ins C dx fs=>
  obtain⟨d,z,ne,e,mA,⟨od,es,ep,e2,c⟩,r⟩:=x;exact⟨ho _ d,z,ne,k _ _ (.inl rfl) e,mA,⟨od,es,ep,k _ _ (.inr d) e2,c⟩,r⟩
 |own y=>obtain⟨ob,e⟩:=x;exact⟨ob,k _ _ (.inl rfl) e⟩
 |xd fs=>obtain⟨mA,⟨od,es,ep,e,c⟩,r⟩:=x;exact⟨mA,⟨od,es,ep,k _ _ (.inl rfl) e,c⟩,r⟩
 |rng lo hi=>obtain⟨t,u,v,e⟩:=x;exact⟨t,u,v,k _ _ (.inl rfl) e⟩
 |frz ob u ih=>obtain⟨e,q⟩:=x;exact⟨k _ _ (.inl rfl) e,ih q⟩
 |tbl w ps=>
  have e:h.get? a=ab { cls:=.none,data:=.fields ps }:=x;show h'.get? a=ab { cls:=.none,data:=.fields ps };exact k a _ (.inl rfl) e
 |met f y=>
  have e:h.get? a=ab (wK (.ref f) (.ref y)):=x;show h'.get? a=ab (wK (.ref f) (.ref y));exact k a _ (.inl rfl) e
 |ext φ=>obtain⟨p,⟨o,e⟩,st⟩:=x;exact⟨st _ _ p λo q=>k _ _ (.inl rfl) q,⟨o,k _ _ (.inl rfl) e⟩,st⟩
theorem cg.lt(x:cg P w H h)(e:H a=ab o):a<h.objs.size:=(x a o e).lt
theorem cg.fresh(x:cg P w H h)(e:h.objs.size<=a):H a=ae:=by
 cases q:H a with
 |none=>rfl
 |some u=>exact absurd (fI (x.lt q) e) (jx _)
theorem cg.kept(x:cg P w H h)(k:∀b u,h.get? b=ab u->h'.get? b=ab u):cg P w H h':=λa o e=>
 (x a o e).stay (λb u _ q=>k b u q) (λ_ q=>q) λ_ _ q=>q
theorem cg.laid(x:cg P w H h)(k:∀b u,h.get? b=ab u->h'.get? b=ab u)(hp:h.objs.size<=a)(new:bN P w (upd H a o) h' a o):cg P w (upd H a o) h':=λb u e=>by
 have hn:=x.fresh hp;by_cases hb:b=a
 ·subst hb;rw[b9]at e;cases e;exact new
 ·rw[aQ hb]at e;exact(x b u e).stay (λc v _ q=>k c v q) (λc q=>by rw[aQ (cI q hn)];exact q) λc xs q=>by rw[aQ (cI q hn)];exact q
end
def Rd(H:Hp)(a:ah)(u:HO):Prop:=H a=ab u\/∃o,H a=ab (.frz o u)
theorem Rd.ok{P:bb}{w:aT}{H:Hp}{h:aI}{a:ah}{u:HO}(r:Rd H a u)(x:cg P w H h):bN P w H h a u:=by
 rcases r with r|⟨o,r⟩
 ·exact x a u r
 ·obtain⟨_,q⟩:=x a _ r;exact q
def pY:Option HO->Prop
 |some (.lst _)=>True
 |some (.dK _)=>True
 |some (.dT _)=>True
 |some (.set _ _)=>True
 |some (.ins _ _ _)=>True
 |some (.ext _)=>True
 |_=>False
section
variable{P:bb}{w:aT}{H:Hp}{h h':aI}{x e:ah}{o':HO}
theorem cg.write(ok:cg P w H h)(mu:pY (H x))(he:e=x\/H e=ab (.own x))(k:∀b u,b≠e->h.get? b=ab u->h'.get? b=ab u)(heo:∃u,h'.get? e=ab u)
 (new:bN P w (upd H x o') h' x o'):cg P w (upd H x o') h':=λb u q=>by
 have EB:∀c y,H c=ab (.own y)->c≠x:=λc y r z=>by subst z;rw[r]at mu;exact mu
 have K9:∀c xs,H c=ab (.tup xs)->c≠x:=λc xs r z=>by subst z;rw[r]at mu;exact mu
 by_cases hb:b=x
 ·subst hb;rw[b9]at q;cases q;exact new
 ·rw[aQ hb]at q;by_cases hbe:b=e
  ·have q':H b=ab (.own x):=by
    rcases he with z|z
    ·exact absurd (hbe.trans z) hb
    ·rw[hbe];exact z
   rw[q]at q';cases q';obtain⟨v,hv⟩:=heo;exact⟨v,by rw[hbe];exact hv⟩
  ·refine(ok b u q).stay (λc v hc r=>k c v ?_ r) (λc r=>by rw[aQ (EB c b r)];exact r) λc xs r=>by rw[aQ (K9 c xs r)];exact r
   rcases hc with rfl|hc
   ·exact hbe
   ·rintro rfl;rcases he with z|z
    ·exact EB c b hc z
    ·rw[hc]at z;cases z;exact hb rfl
end
structure Un(fs ex:List ah)(H H':Hp)(h h':aI):Prop where
 keep:∀b o,h.get? b=ab o->H b=ae->b∉fs->b∉ex->h'.get? b=ab o
 slot:∀b o,h.get? b=ab o->H b=ae->b∈fs->b∉ex->∃sl,h'.get? b=ab { o with slots:=sl }
 free:∀b o,h.get? b=ab o->H b=ae->b∉ex->H' b=ae
 there:∀b o,h.get? b=ab o->b∉ex->∃o',h'.get? b=ab o'
 tups:∀b xs,H b=ab (.tup xs)->H' b=ab (.tup xs)
 jE:∀b o u,H b=ab (.frz o u)->H' b=ab (.frz o u)
 kh:∀b w ps,H b=ab (.tbl w ps)->∃more,H' b=ab (.tbl w (ps++more))
section
variable{fs fs' ex ex':List ah}{H H1 H2:Hp}{h h1 h2 h':aI}{a x e:ah}{o:HO}
theorem Un.any(u:Un fs ex H H1 h h1){b:ah}{ob:Obj}(q:h.get? b=ab ob)(n:H b=ae)(hx:b∉ex):∃sl,h1.get? b=ab { ob with slots:=sl }:=by
 by_cases hb:b∈fs
 ·exact u.slot b ob q n hb hx
 ·exact⟨ob.slots,u.keep b ob q n hb hx⟩
theorem Un.kept(k:∀b u,h.get? b=ab u->h'.get? b=ab u):Un fs ex H H h h':=⟨λb ob q _ _ _=>k b ob q,λb ob q _ _ _=>⟨ob.slots,k b ob q⟩,λ_ _ _ n _=>n,λb ob q _=>⟨ob,k b ob q⟩,λ_ _ q=>q,λ_ _ _ q=>q,λ_ w ps q=>⟨#[],by rw[q];simp⟩⟩
theorem Un.refl:Un fs ex H H h h:=Un.kept λ_ _ q=>q
theorem Un.laid(k:∀b u,h.get? b=ab u->h'.get? b=ab u)(hp:h.objs.size<=a)(hn:H a=ae):Un fs ex H (upd H a o) h h' where
 keep:=λb u q _ _ _=>k b u q
 slot:=λb u q _ _ _=>⟨u.slots,k b u q⟩
 free:=λb u q n _=>by rw[aQ (f9 (fI (bG q) hp))];exact n
 there:=λb u q _=>⟨u,k b u q⟩
 tups:=λb xs q=>by rw[aQ (cI q hn)];exact q
 jE:=λb u xs q=>by rw[aQ (cI q hn)];exact q
 kh:=λb w ps q=>⟨#[],by rw[aQ (cI q hn),q];simp⟩
theorem Un.write(mu:pY (H x))(he:e=x\/H e=ab (.own x))(k:∀b u,b≠e->h.get? b=ab u->h'.get? b=ab u)(heo:∃u,h'.get? e=ab u):Un fs ex H (upd H x o) h h':=by
 have hx:∀b,H b=ae->b≠x:=λb n z=>by subst z;rw[n]at mu;exact mu
 have hb:∀b,H b=ae->b≠e:=λb n z=>by
  subst z;rcases he with r|r
  ·exact hx b n r
  ·rw[n]at r;cases r
 have hm:∀b u,H b=ab u->¬ pY (ab u)->b≠x:=λb u q nm z=>by subst z;rw[q]at mu;exact nm mu
 refine⟨λb u q n _ _=>k b u (hb b n) q,λb u q n _ _=>⟨u.slots,k b u (hb b n) q⟩,λb u q n _=>by rw[aQ (hx b n)];exact n,λb u q _=>?_,
  λb xs q=>by rw[aQ (hm b _ q λz=>z)];exact q,λb u xs q=>by rw[aQ (hm b _ q λz=>z)];exact q,λb w ps q=>⟨#[],by rw[aQ (hm b _ q λz=>z),q];simp⟩⟩
 by_cases hbe:b=e
 ·subst hbe;exact heo
 ·exact⟨u,k b u hbe q⟩
end
def rc(h:aI)(H:Hp):List ah:=(bn h.objs.size).filter λa=>(H a).isSome
def jV(h:aI)(H:Hp):aI:=PySem.W.hideAll h (rc h H)
theorem Fm(h:aI)(H:Hp):(jV h H).objs.size=h.objs.size:=PySem.W.hideAll_size _ _
theorem Fg{h:aI}{H:Hp}{b:ah}{o:Obj}(e:h.get? b=ab o)(n:H b=ae):(jV h H).get? b=ab o:=
 PySem.W.hideAll_get _ e λhm=>by
  have q:(H b).isSome=true:=(j8.mp hm).2;rw[n]at q;simp at q
theorem JK{h:aI}{H:Hp}{b:ah}{o:Obj}(e:(jV h H).get? b=ab o):h.get? b=ab o/\H b=ae:=by
 have e':h.get? b=ab o:=PySem.W.of_hideAll (rc h H) e;refine⟨e',?_⟩;cases q:H b with
 |none=>rfl
 |some x=>
  have hm:b∈rc h H:=j8.mpr ⟨dP.mpr (bG e'),by simp[q]⟩;have z:(jV h H).get? b=ae:=PySem.W.hideAll_none (rc h H) hm;rw[z]at e;cases e
structure Mod(K:aB)(mg:Str->Option ag)(base:aI):Prop where
 kin:K.In base
 glob:base.Ns mainGlobals mg
 blt:∃mb,base.Ns builtinsNs mb/\∀x:Str,x ≠ "__name__" -> mb x=bootBuiltins x
 nolimit:base.NoLimit
structure Cx where
 prog:bb
 w:aT
 K:aB
 mg:Str->Option ag
 base:aI
 A:br
 N:List Str
 s₀:ak
 H₀:Hp
 env:Env
 outer:List Env
 stack:List Env
 ex:List ah
 fn:Str->Bool
 calm:Bool
 pn:List (ah×Obj)
 xe:ag->ak->Prop
def frs(l:List Env):List ah:=l.filterMap (·.frame)
abbrev Cx.fs(X:Cx):List ah:=frs X.outer
def sv(sc:fo)(x:Str):Prop:=sc.names.lookup x=ab .local\/sc.names.lookup x=ab .cell\/sc.names.lookup x=ab .free
def Loc(sc:fo)(x:Str):Prop:=sc.names.lookup x=ab .local\/sc.names.lookup x=ab .cell
def Look(env:Env)(h:aI)(m:Str->Option ag)(x:Str)(u:ag):Prop:=(env.kindOf x=ab .local/\m x=ab u)\/((env.kindOf x=ab .cell\/env.kindOf x=ab .free)/\∃c,env.cells.lookup x=ab c/\h.IsCell c (ab u))
structure Cx.Ok(X:Cx):Prop where
 mod:Mod X.K X.mg X.base
 kind:X.env.scope.kind=.function
 glob:X.env.globals=mainGlobals
 blt:X.env.builtins=builtinsNs
 above:X.s₀.heap.objs.size<=X.env.locals
 inj:∀x y c,X.env.cells.lookup x=ab c->X.env.cells.lookup y=ab c->x=y
 has:∀x,(X.env.kindOf x=ab .cell\/X.env.kindOf x=ab .free)->∃c,X.env.cells.lookup x=ab c
 cab:∀x c,X.fn x=true->X.env.cells.lookup x=ab c->X.s₀.heap.objs.size<=c
 hd:X.calm=true->X.A.handled=ae
 frames:X.A.frames=ab X.stack
 stk:X.stack=X.outer\/(X.stack=X.env::X.outer/\X.env.frame=ab X.env.locals)
 exf:∀b∈X.ex,b≠X.env.locals/\∀x c,X.env.cells.lookup x=ab c->c≠b
 bs:∀b o,X.base.get? b=ab o->X.s₀.heap.get? b=ab o/\X.H₀ b=ae
 bsz:X.base.objs.size<=X.s₀.heap.objs.size
 qD:∀b o,X.base.get? b=ab o->b∉X.ex
 t9:∀b∈X.ex,b∉X.fs
 iG:X.s₀.heap.FunFrames X.base X.outer
 frf:∀b∈X.fs,X.H₀ b=ae
structure Inv(X:Cx)(af:List (ah×Obj))(σ:List (Option V))(H:Hp)(s:ak):Prop where
 ok:X.Ok
 os:s.os=X.s₀.os
 bare:kf s.gens
 base:Un X.fs X.ex X.H₀ H X.s₀.heap s.heap
 loc:∃m,s.heap.Ns X.env.locals m/\∀(i:Nat) (x:Str) (v:V),X.N[i]? = ab x->σ[i]? = ab (ab v)->sv X.env.scope x->∃u,RelV v u/\Look X.env s.heap m x u
 cell:∀x c,X.env.cells.lookup x=ab c->∃v,s.heap.IsCell c v
 free:H X.env.locals=ae
 iY:∀x c,X.env.cells.lookup x=ab c->H c=ae
 pin:∀p∈X.pn++af,s.heap.get? p.1=ab p.2/\H p.1=ae/\p.1≠X.env.locals/\p.1∉X.fs/\∀v,p.2.data≠.cell v
 hok:cg X.prog X.w H s.heap
 len:σ.length=X.N.length
section
variable{X:Cx}{af:List (ah×Obj)}{σ:List (Option V)}{H H':Hp}{s:ak}{h':aI}
theorem Cx.Ok.Il(ok:X.Ok){b:ah}{o:Obj}(e:X.base.get? b=ab o):b∉X.fs:=λhb=>by
 have:=(ok.iG.mem hb).1;rw[e]at this;cases this
theorem Inv.bs(I:Inv X af σ H s):∀b o,X.base.get? b=ab o->s.heap.get? b=ab o/\H b=ae:=λb o e=>
 ⟨I.base.keep b o (I.ok.bs b o e).1 (I.ok.bs b o e).2 (I.ok.Il e) (I.ok.qD b o e),I.base.free b o (I.ok.bs b o e).1 (I.ok.bs b o e).2 (I.ok.qD b o e)⟩
theorem Inv.bk(I:Inv X af σ H s):∀b o,X.base.get? b=ab o->s.heap.get? b=ab o:=λb o e=>(I.bs b o e).1
theorem Inv.mod(I:Inv X af σ H s):Mod X.K X.mg X.base:=I.ok.mod
theorem Inv.eM(I:Inv X af σ H s):X.K.In s.heap:=I.ok.mod.kin.keeps I.bk
theorem Inv.lt(I:Inv X af σ H s):X.env.locals<s.heap.objs.size:=let ⟨_,hn,_⟩:=I.loc;hn.lt
theorem Inv.sz(I:Inv X af σ H s):X.s₀.heap.objs.size<=s.heap.objs.size:=dQ I.ok.above (xu I.lt)
theorem Inv.J5(I:Inv X af σ H s){a:ah}(h:s.heap.objs.size<=a):a∉X.fs:=λhb=>by
 obtain⟨_,o,ho,_⟩:=I.ok.iG.mem hb;exact absurd (fI (bG ho) (dQ I.sz h)) (jx _)
theorem Inv.lV(I:Inv X af σ H s):∀x c,X.env.cells.lookup x=ab c->c≠X.env.locals:=λx c e z=>by
 obtain⟨v,o,ho,hd⟩:=I.cell x c e;obtain⟨m,⟨o',es,ep,ho',hd',_⟩,_⟩:=I.loc;rw[z,ho']at ho;cases ho;rw[hd']at hd;cases hd
theorem Inv.iG(I:Inv X af σ H s):s.heap.FunFrames X.base X.outer:=by
 have all:∀(l:List Env),(∀b∈frs l,b∈X.fs)->X.s₀.heap.FunFrames X.base l->s.heap.FunFrames X.base l:=by
  intro l
  induction l with
  |nil=>intro _ _;trivial
  |cons env r ih=>
   intro hs hl;obtain⟨hk,⟨L,o,hf,hn,ho,hd⟩,hr⟩:=hl;have hL:L∈X.fs:=hs L (by unfold frs;rw[wY,hf];exact cn);obtain⟨sl,e⟩:=I.base.slot L o ho (I.ok.frf L hL) hL λz=>I.ok.t9 L z hL;exact⟨hk,⟨L,_,hf,hn,e,hd⟩,ih (λb hb=>hs b (by unfold frs;rw[wY,hf];exact cm _ hb)) hr⟩
 exact all X.outer (λ_ hb=>hb) I.ok.iG
theorem Inv.stack(I:Inv X af σ H s):s.heap.FunFrames X.base X.stack:=by
 rcases I.ok.stk with e|⟨e,hf⟩
 ·rw[e];exact I.iG
 ·rw[e];obtain⟨m,hn,_⟩:=I.loc;refine .cons (by rw[I.ok.kind];decide) hf hn ?_ I.iG;exact Heap.get?_none_of_le (dQ I.ok.bsz I.ok.above)
theorem Inv.vW(I:Inv X af σ H s):∀b∈frs X.stack,b∈X.env.locals::X.fs:=λb hb=>by
 rcases I.ok.stk with e|⟨e,hf⟩
 ·rw[e]at hb;exact cm _ hb
 ·rw[e]at hb;unfold frs at hb;rw[wY,hf]at hb;exact hb
theorem Inv.A5(I:Inv X af σ H s):∀b∈frs X.stack,H b=ae:=λb hb=>by
 rcases bJ.mp (I.vW b hb)with e|hb
 ·rw[e];exact I.free
 ·obtain⟨_,o,ho,_⟩:=I.ok.iG.mem hb;exact I.base.free b o ho (I.ok.frf b hb) λz=>I.ok.t9 b z hb
theorem Inv.step{g':Array GenState}{t':Nat}{d':Drawn}{ch:List ah}(I:Inv X af σ H s)
 (hch:∀b∈ch,(b∈X.ex\/X.s₀.heap.objs.size<=b)/\b≠X.env.locals/\(∀x c,X.env.cells.lookup x=ab c->c≠b)/\∀p∈X.pn++af,p.1≠b)
 (keep:∀b o,b≠X.env.locals->b∉X.fs->b∉ch->s.heap.get? b=ab o->H b=ae->h'.get? b=ab o)
 (slot:∀b o,b≠X.env.locals->b∈X.fs->b∉ch->s.heap.get? b=ab o->H b=ae->∃sl,h'.get? b=ab { o with slots:=sl }) (free:∀b o,b∉ch->s.heap.get? b=ab o->H b=ae->H' b=ae)
 (there:∀b o,b∉ch->s.heap.get? b=ab o->∃o',h'.get? b=ab o')
 (tups:∀b xs,H b=ab (.tup xs)->H' b=ab (.tup xs)) (jE:∀b o u,H b=ab (.frz o u)->H' b=ab (.frz o u)) (kh:∀b w ps,H b=ab (.tbl w ps)->∃more,H' b=ab (.tbl w (ps++more)))
 (ns:∀m,s.heap.Ns X.env.locals m->h'.Ns X.env.locals m) (hok:cg X.prog X.w H' h') (hg:kf g') :
 Inv X af σ H' { s with heap:=h',gens:=g',drawn:=d',toks:=t' }:=by
 have neL:∀b o,X.s₀.heap.get? b=ab o->b≠X.env.locals:=λb o e=>f9 (fI (bG e) I.ok.above);have neC:∀b o,X.s₀.heap.get? b=ab o->b∉X.ex->b∉ch:=λb o e hx hb=>by
  rcases(hch b hb).1 with z|z
  ·exact hx z
  ·exact absurd (fI (bG e) z) (jx _)
 have cellK:∀x c,X.env.cells.lookup x=ab c->∀v,s.heap.IsCell c v->h'.IsCell c v:=λx c e v ⟨o,ho,hd⟩=>by
  have nch:c∉ch:=λz=>(hch c z).2.2.1 x c e rfl;by_cases hc:c∈X.fs
  ·obtain⟨sl,q⟩:=slot c o (I.lV x c e) hc nch ho (I.iY x c e);exact⟨_,q,hd⟩
  ·exact⟨o,keep c o (I.lV x c e) hc nch ho (I.iY x c e),hd⟩
 refine⟨I.ok,I.os,hg,⟨λb o e n hb hx=>?_,λb o e n hb hx=>?_,λb o e n hx=>?_,λb o e hx=>?_,λb xs e=>tups b xs (I.base.tups b xs e),λb o xs e=>jE b o xs (I.base.jE b o xs e),λb w ps e=>?_⟩,?_,λx c e=>?_,?_,λx c e=>?_,λp hp=>?_,hok,I.len⟩
 ·exact keep b o (neL b o e) hb (neC b o e hx) (I.base.keep b o e n hb hx) (I.base.free b o e n hx)
 ·obtain⟨sl,e1⟩:=I.base.slot b o e n hb hx;obtain⟨sl',e2⟩:=slot b _ (neL b o e) hb (neC b o e hx) e1 (I.base.free b o e n hx);exact⟨sl',e2⟩
 ·obtain⟨o',e1⟩:=I.base.there b o e hx;exact free b o' (neC b o e hx) e1 (I.base.free b o e n hx)
 ·obtain⟨o',e1⟩:=I.base.there b o e hx;exact there b o' (neC b o e hx) e1
 ·obtain⟨m1,e1⟩:=I.base.kh b w ps e;obtain⟨m2,e2⟩:=kh b w _ e1;exact⟨m1++m2,by rw[e2,Array.append_assoc]⟩
 ·obtain⟨m,hn,hl⟩:=I.loc;refine⟨m,ns m hn,λi x v e1 e2 e3=>?_⟩;obtain⟨u,r,l⟩:=hl i x v e1 e2 e3;refine⟨u,r,?_⟩;rcases l with l|⟨k,c,e,z⟩
  ·exact .inl l
  ·exact .inr ⟨k,c,e,cellK x c e _ z⟩
 ·obtain⟨v,z⟩:=I.cell x c e;exact⟨v,cellK x c e v z⟩
 ·obtain⟨m,⟨o,_,_,ho,_⟩,_⟩:=I.loc;exact free _ o (λz=>(hch _ z).2.1 rfl) ho I.free
 ·obtain⟨v,o,ho,hd⟩:=I.cell x c e;exact free c o (λz=>(hch c z).2.2.1 x c e rfl) ho (I.iY x c e)
 ·obtain⟨e,n,ne,nf,d⟩:=I.pin p hp;have nch:p.1∉ch:=λz=>(hch p.1 z).2.2.2 p hp rfl;exact⟨keep p.1 p.2 ne nf nch e n,free p.1 p.2 nch e n,ne,nf,d⟩
theorem Inv.un{t':Nat}(I:Inv X af σ H s)(u:Un X.fs [] H H' s.heap h')(hok:cg X.prog X.w H' h'):Inv X af σ H' { s with heap:=h',toks:=t' }:=by
 obtain⟨m,⟨o,es,ep,ho,r⟩,_⟩:=id I.loc;obtain⟨sl,hL⟩:=u.any ho I.free (by simp);exact I.step (g':=s.gens) (d':=s.drawn) (ch:=[]) (λ_ z=>nomatch z) (λb o _ hb _ e n=>u.keep b o e n hb (by simp)) (λb o _ hb _ e n=>u.slot b o e n hb (by simp)) (λb o _ e n=>u.free b o e n (by simp)) (λb o _ e=>u.there b o e (by simp)) u.tups u.jE u.kh (λm' hm=>by
  obtain⟨o',es',ep',ho',r'⟩:=hm;rw[ho]at ho';cases ho';exact⟨_,es',ep',hL,r'⟩) hok I.bare
theorem Inv.call{g':Array GenState}{t':Nat}{d':Drawn}{ch:List ah}(I:Inv X af σ H s)(u:Un (frs X.stack) ch H H' s.heap h')(hok:cg X.prog X.w H' h')(hg:kf g')
 (hch:∀b∈ch,(b∈X.ex\/X.s₀.heap.objs.size<=b)/\b≠X.env.locals/\(∀x c,X.env.cells.lookup x=ab c->c≠b)/\∀p∈X.pn++af,p.1≠b) :
 Inv X af σ H' { s with heap:=h',gens:=g',drawn:=d',toks:=t' }:=by
 obtain⟨m,⟨o,es,ep,ho,r⟩,_⟩:=id I.loc;obtain⟨sl,hL⟩:=u.any ho I.free λz=>(hch _ z).2.1 rfl;exact I.step (ch:=ch) hch (λb o hL hb hc e n=>u.keep b o e n (λz=>(bJ.mp (I.vW b z)).elim hL hb) hc) (λb o _ _ hc e n=>u.any e n hc) (λb o hc e n=>u.free b o e n hc) (λb o hc e=>u.there b o e hc) u.tups u.jE u.kh (λm' hm=>by
  obtain⟨o',es',ep',ho',r'⟩:=hm;rw[ho]at ho';cases ho';exact⟨_,es',ep',hL,r'⟩) hok hg
theorem Inv.turned{t':Nat}{it:ah}(I:Inv X af σ H s)(k:∀b o,b≠it->s.heap.get? b=ab o->h'.get? b=ab o)(hn:H it=ae)(hL:it≠X.env.locals)
 (h1:it∈X.ex\/X.s₀.heap.objs.size<=it) (h2:∀x c,X.env.cells.lookup x=ab c->c≠it) (h3:∀p∈X.pn++af,p.1≠it):Inv X af σ H { s with heap:=h',toks:=t' }:=by
 have nit:∀b u,H b=ab u->b≠it:=λb u e z=>by rw[z,hn]at e;cases e
 refine I.step (g':=s.gens) (d':=s.drawn) (ch:=[it]) (λb hb=>?_) (λb o _ _ hc e _=>k b o (λz=>hc (by simp[z])) e) (λb o _ _ hc e _=>⟨o.slots,k b o (λz=>hc (by simp[z])) e⟩) (λ_ _ _ _ n=>n)
  (λb o hc e=>⟨o,k b o (λz=>hc (by simp[z])) e⟩) (λ_ _ e=>e) (λ_ _ _ e=>e) (λb w ps e=>⟨#[],by rw[e];simp⟩) (λm hm=>?_) (λb u e=>?_) I.bare
 ·have e:b=it:=by simpa using hb
  subst e;exact⟨h1,hL,h2,h3⟩
 ·obtain⟨o,es,ep,ho,r⟩:=hm;exact⟨o,es,ep,k _ o (dI hL) ho,r⟩
 ·refine(I.hok b u e).stay (λc v hc q=>k c v ?_ q) (λ_ q=>q) λ_ _ q=>q;rcases hc with z|z
  ·rw[z];exact nit b u e
  ·exact nit c _ z
theorem Inv.tok(I:Inv X af σ H s)(t:Nat):Inv X af σ H { s with toks:=t }:=I.un (h':=s.heap) (t':=t) Un.refl I.hok
theorem Inv.kept{t':Nat}(I:Inv X af σ H s)(k:∀b u,s.heap.get? b=ab u->h'.get? b=ab u):Inv X af σ H { s with heap:=h',toks:=t' }:=I.un (Un.kept k) (I.hok.kept k)
theorem Inv.laid{a:ah}{o:HO}{t':Nat}(I:Inv X af σ H s)(k:∀b u,s.heap.get? b=ab u->h'.get? b=ab u)(hp:s.heap.objs.size<=a)(new:bN X.prog X.w (upd H a o) h' a o) :
 Inv X af σ (upd H a o) { s with heap:=h',toks:=t' }:=I.un (Un.laid k hp (I.hok.fresh hp)) (I.hok.laid k hp new)
theorem Inv.write{x e:ah}{o:HO}{t':Nat}(I:Inv X af σ H s)(mu:pY (H x))(he:e=x\/H e=ab (.own x))(k:∀b u,b≠e->s.heap.get? b=ab u->h'.get? b=ab u)(heo:∃u,h'.get? e=ab u)
 (new:bN X.prog X.w (upd H x o) h' x o):Inv X af σ (upd H x o) { s with heap:=h',toks:=t' }:=I.un (Un.write mu he k heo) (I.hok.write mu he k heo new)
theorem Inv.weak{σ':List (Option V)}(I:Inv X af σ H s)(hl:σ'.length = σ.length)(w:∀(i:Nat) v,σ'[i]? = ab (ab v)->σ[i]? = ab (ab v)):Inv X af σ' H s:=⟨I.ok,I.os,I.bare,I.base,let ⟨m,hn,hl'⟩:=I.loc;⟨m,hn,λi x v e1 e2 e3=>hl' i x v e1 (w i v e2) e3⟩,I.cell,I.free,I.iY,I.pin,I.hok,hl.trans I.len⟩
theorem Inv.vE{oj:List (ah×Obj)}(I:Inv X af σ H s)(h:∀p∈oj,s.heap.get? p.1=ab p.2/\H p.1=ae/\p.1≠X.env.locals/\p.1∉X.fs/\∀v,p.2.data≠.cell v):Inv X oj σ H s:=⟨I.ok,I.os,I.bare,I.base,I.loc,I.cell,I.free,I.iY,λp hp=>(dO.mp hp).elim (λz=>I.pin p (k4 _ z)) (h p),I.hok,I.len⟩
theorem Ch{N:List Str}(hN:N.Nodup){i j:Nat}{x:Str}(a:N[i]? = ab x)(b:N[j]? = ab x):i=j:=by obtain⟨h1,e1⟩:=cM.mp a;obtain⟨h2,e2⟩:=cM.mp b;exact(j6 hN).mp (e1.trans e2.symm)
theorem yI{M:Model}{A:br}{E:ag->ak->Prop}{i:Nat}{x:Str}{v:V}{u:ag}{Q:Unit->ak->Prop}(I:Inv X af σ H s)(hN:X.N.Nodup)(hi:X.N[i]? = ab x)(hx:Loc X.env.scope x)(r:RelV v u)
 (h:∀s',Inv X af (σ.set i (ab v)) H s'->(∃a,mo a s.heap s'.heap/\(a=X.env.locals\/X.env.cells.lookup x=ab a))->Q () s') (hf:X.fn x=true\/X.env.scope.names.lookup x=ab .local:=by first|exact .inl rfl|exact .inr rfl|assumption):wpAny M A (storeName X.env x u) Q E s:=by
 obtain⟨m,hn,hl⟩:=id I.loc;have hcls:(X.env.scope.kind==.class||(X.env.scope.kind==.module&&X.env.locals != X.env.globals))=false:=by rw[I.ok.kind];rfl
 have hiσ:i < σ.length:=by rw[I.len];exact(cM.mp hi).1
 have lV:=I.lV;have tracked:∀{a:ah} {h':aI},(∃o,s.heap.get? a=ab o/\H a=ae)->mo a s.heap h'->cg X.prog X.w H h':=λ{a h'} ha hs b ob e=>by
  obtain⟨_,_,hfree⟩:=ha;refine(I.hok b ob e).stay (λc w' hc q=>(hs.2 c ?_).trans q) (λ_ q=>q) λ_ _ q=>q;rintro rfl;rcases hc with rfl|hc
  ·rw[hfree]at e;cases e
  ·rw[hfree]at hc;cases hc
 rcases hx with hk|hk
 ·refine wpAny_storeName_local hk hn (λh' hn' hs=>?_) hcls;obtain⟨oL,_,_,hoL,_⟩:=id hn;refine h _ ⟨I.ok,I.os,I.bare,⟨λb o e n hb hx=>?_,λb o e n hb hx=>?_,I.base.free,λb o e hx=>?_,I.base.tups,I.base.jE,I.base.kh⟩,⟨_,hn',λj y v' e1 e2 e3=>?_⟩,λy c e=>?_,I.free,I.iY,λp hp=>?_,tracked ⟨oL,hoL,I.free⟩ hs,by simpa using I.len⟩ ⟨_,hs,.inl rfl⟩
  ·exact(hs.2 b (f9 (fI (bG e) I.ok.above))).trans (I.base.keep b o e n hb hx)
  ·obtain⟨sl,e1⟩:=I.base.slot b o e n hb hx;exact⟨sl,(hs.2 b (f9 (fI (bG e) I.ok.above))).trans e1⟩
  ·obtain⟨o',e1⟩:=I.base.there b o e hx;exact⟨o',(hs.2 b (f9 (fI (bG e) I.ok.above))).trans e1⟩
  ·by_cases hj:j=i
   ·subst hj;rw[hi]at e1;cases e1;rw[js hiσ]at e2;cases e2;exact⟨u,r,.inl ⟨hk,by simp⟩⟩
   ·rw[dN (dI hj)]at e2;obtain⟨u',r',q⟩:=hl j y v' e1 e2 e3;refine⟨u',r',?_⟩;rcases q with ⟨k,e⟩|⟨k,c,e,z⟩
    ·refine .inl ⟨k,?_⟩;have:y≠x:=λe=>hj (Ch hN e1 (e ▸ hi));simp[this,e]
    ·exact .inr ⟨k,c,e,z.sameBut hs (lV y c e)⟩
  ·obtain⟨w',z⟩:=I.cell y c e;exact⟨w',z.sameBut hs (lV y c e)⟩
  ·obtain⟨e,n,ne,nf,d⟩:=I.pin p hp;exact⟨(hs.2 p.1 ne).trans e,n,ne,nf,d⟩
 ·have hfn:X.fn x=true:=by
   rcases hf with z|z
   ·exact z
   ·rw[z]at hk;cases hk
  obtain⟨c,hc⟩:=I.ok.has x (.inl hk);obtain⟨w',z⟩:=I.cell x c hc;refine wpAny_storeName_cell I.ok.kind hk hc z (λh' hc' hs=>?_);obtain⟨oc,hoc,La⟩:=id z;refine h { s with heap:=h' } ⟨I.ok,I.os,I.bare,⟨λb o e n hb hx=>?_,λb o e n hb hx=>?_,I.base.free,λb o e hx=>?_,I.base.tups,I.base.jE,I.base.kh⟩,⟨m,hn.sameBut hs (dI (lV x c hc)),λj y v' e1 e2 e3=>?_⟩,λy c' e=>?_,I.free,I.iY,λp hp=>?_,tracked ⟨oc,hoc,I.iY x c hc⟩ hs,by simpa using I.len⟩ ⟨c,hs,.inr hc⟩
  ·exact(hs.2 b (f9 (fI (bG e) (I.ok.cab x c hfn hc)))).trans (I.base.keep b o e n hb hx)
  ·obtain⟨sl,e1⟩:=I.base.slot b o e n hb hx;exact⟨sl,(hs.2 b (f9 (fI (bG e) (I.ok.cab x c hfn hc)))).trans e1⟩
  ·obtain⟨o',e1⟩:=I.base.there b o e hx;exact⟨o',(hs.2 b (f9 (fI (bG e) (I.ok.cab x c hfn hc)))).trans e1⟩
  ·by_cases hj:j=i
   ·subst hj;rw[hi]at e1;cases e1;rw[js hiσ]at e2;cases e2;exact⟨u,r,.inr ⟨.inl hk,c,hc,hc'⟩⟩
   ·rw[dN (dI hj)]at e2;obtain⟨u',r',q⟩:=hl j y v' e1 e2 e3;refine⟨u',r',?_⟩;rcases q with q|⟨k,c',e,z'⟩
    ·exact .inl q
    ·refine .inr ⟨k,c',e,z'.sameBut hs ?_⟩;rintro rfl;exact hj (Ch hN e1 (I.ok.inj _ _ _ e hc ▸ hi))
  ·by_cases hcc:c'=c
   ·subst hcc;exact⟨_,hc'⟩
   ·obtain⟨w2,z2⟩:=I.cell y c' e;exact⟨w2,z2.sameBut hs hcc⟩
  ·obtain⟨e,n,ne,nf,d⟩:=I.pin p hp;refine⟨(hs.2 p.1 ?_).trans e,n,ne,nf,d⟩;intro q;rw[q,hoc]at e;have q':oc=p.2:=eZ e;exact d w' (by rw[<- q'];exact La)
theorem BA{M:Model}{A:br}{E:ag->ak->Prop}{i:Nat}{x:Str}{v:V}{u:ag}{Q:Unit->ak->Prop}(I:Inv X af σ H s)(hN:X.N.Nodup)(hi:X.N[i]? = ab x)(hx:Loc X.env.scope x)(r:RelV v u)
 (h:∀s',Inv X af (σ.set i (ab v)) H s'->Q () s') (hf:X.fn x=true\/X.env.scope.names.lookup x=ab .local:=by first|exact .inl rfl|exact .inr rfl|assumption):wpAny M A (storeName X.env x u) Q E s:=
 yI I hN hi hx r (λs' I' _=>h s' I') hf
theorem Inv.call'{s':ak}{ch:List ah}(I:Inv X af σ H s)(ho:s'.os=s.os)(u:Un (frs X.stack) ch H H' s.heap s'.heap)(hok:cg X.prog X.w H' s'.heap)(hg:kf s'.gens)
 (hch:∀b∈ch,(b∈X.ex\/X.s₀.heap.objs.size<=b)/\b≠X.env.locals/\(∀x c,X.env.cells.lookup x=ab c->c≠b)/\∀p∈X.pn++af,p.1≠b):Inv X af σ H' s':=by
 obtain⟨h',g',d',t',o'⟩:=s';have e:o'=s.os:=ho;subst e;exact I.call (g':=g') (t':=t') (d':=d') u hok hg hch
end
abbrev XK:=ag->Option ah->Hp->Prop
abbrev St:=List (Option V)
abbrev VK:=V->Hp->Prop
abbrev TE:=St->Hp->VK->Prop
abbrev TT:=St->Hp->(Bool->Hp->Prop)->Prop
abbrev TA:=St->Hp->(List V->Hp->Prop)->Prop
structure Ends where
 nx:St->Hp->Prop
 rt:VK
 bk:St->Hp->Prop:=λ_ _=>False
 ct:St->Hp->Prop:=λ_ _=>False
abbrev TS:=Ends->St->Hp->Prop
def EP(X:Cx)(af:List (ah×Obj))(σ:St)(Q:VK)(u:ag)(s':ak):Prop:=∃v H',Inv X af σ H' s'/\RelV v u/\Q v H'
def TP(X:Cx)(af:List (ah×Obj))(σ:St)(Q:Bool->Hp->Prop)(b:Bool)(s':ak):Prop:=∃H',Inv X af σ H' s'/\Q b H'
def AP(X:Cx)(af:List (ah×Obj))(σ:St)(Q:List V->Hp->Prop)(us:List ag)(s':ak):Prop:=∃vs H',Inv X af σ H' s'/\Vals vs us/\Q vs H'
def SP(X:Cx)(af:List (ah×Obj))(D:Ends)(f:Flow)(s':ak):Prop:=
 match f with
 |.next=>∃σ' H',Inv X af σ' H' s'/\D.nx σ' H'
 |.brk=>∃σ' H',Inv X af σ' H' s'/\D.bk σ' H'
 |.cont=>∃σ' H',Inv X af σ' H' s'/\D.ct σ' H'
 |.ret u=>∃v σ' H',Inv X af σ' H' s'/\RelV v u/\D.rt v H'
def PE(X:Cx)(e:aO)(t:TE):Prop:=∀(af:List (ah×Obj)) (s:ak) (σ:St) (H:Hp) (Q:VK),Inv X af σ H s->t σ H Q->wpAny (model X.prog X.w) X.A (eval e X.env) (EP X af σ Q) X.xe s
def PT(X:Cx)(e:aO)(t:TT):Prop:=∀(af:List (ah×Obj)) (s:ak) (σ:St) (H:Hp) (Q:Bool->Hp->Prop),Inv X af σ H s->t σ H Q->wpAny (model X.prog X.w) X.A (isTrue e X.env (eval e X.env)) (TP X af σ Q) X.xe s
def PW(X:Cx)(e:aO)(t:TT):Prop:=∀(whole:Sem ag) (af:List (ah×Obj)) (s:ak) (σ:St) (H:Hp) (Q:Bool->Hp->Prop),Inv X af σ H s->t σ H Q->wpAny (model X.prog X.w) X.A (isTrue e X.env whole) (TP X af σ Q) X.xe s
theorem PW.pt{X:Cx}{e:aO}{t:TT}(h:PW X e t):PT X e t:=h _
def PA(X:Cx)(es:List aO)(t:TA):Prop:=∀(pos:Pos) (af:List (ah×Obj)) (s:ak) (σ:St) (H:Hp) (Q:List V->Hp->Prop),Inv X af σ H s->t σ H Q->wpAny (model X.prog X.w) X.A (spliced (backTo pos (starEach es X.env))) (AP X af σ Q) X.xe s
def PS(X:Cx)(st:bC)(t:TS):Prop:=∀(af:List (ah×Obj)) (s:ak) (σ:St) (H:Hp) (D:Ends),Inv X af σ H s->t D σ H->wpAny (model X.prog X.w) X.A (exec st X.env) (SP X af D) X.xe s
def gf(X:Cx)(st:List bC)(t:TS):Prop:=∀(af:List (ah×Obj)) (s:ak) (σ:St) (H:Hp) (D:Ends),Inv X af σ H s->t D σ H->wpAny (model X.prog X.w) X.A (execs st X.env) (SP X af D) X.xe s
theorem aK{α:Type}{t:Sem α}{Q Q':α->ak->Prop}{M:Model}{A:br}{E:ag->ak->Prop}{s:ak}(h:wpAny M A t Q E s)(hQ:∀a s,Q a s->Q' a s):wpAny M A t Q' E s:=gv h hQ λ_ _ x=>x
section
variable{X:Cx}
def cO(i:Nat):TE:=λσ H Q=>∃v,σ[i]? = ab (ab v)/\Q v H
def tC(v:V):TE:=λ_ H Q=>Q v H
theorem Kr{i:Nat}{x:Str}{pos:Pos}(hN:X.N[i]? = ab x)(hv:sv X.env.scope x)(hd:(x==("__debug__" : Str))=false:=by decide)(hcd:(x==("__classdict__" : Str))=false:=by decide):PE X (.Name x pos) (cO i):=by
 intro af s σ H Q I h;obtain⟨v,e,h⟩:=h;obtain⟨m,hn,hl⟩:=I.loc;obtain⟨u,r,l⟩:=hl i x v hN e hv;have fin:EP X af σ Q u s:=⟨v,H,I,r,h⟩;rcases l with ⟨hk,hm⟩|⟨hk,c,hc,hcell⟩
 ·exact wpAny_Name (wpAny_loadName_local I.ok.kind hk hn hm fin) hd
 ·rcases hk with hk|hk
  ·exact wpAny_Name (wpAny_loadName_cell I.ok.kind hk hc hcell fin) hd
  ·exact wpAny_Name (wpAny_loadName_free I.ok.kind hk hc hcell fin hcd) hd
theorem aC{i j pos}:PE X (.Constant (.int i) j pos) (tC (.int i)):=λ_ _ _ H _ I h=>wpAny_Constant_int ⟨.int i,H,I.tok _,⟨_,rfl⟩,h⟩
theorem jg{b j pos}:PE X (.Constant (.bool b) j pos) (tC (.bl b)):=λ_ _ _ H _ I h=>Constant_bool ⟨.bl b,H,I,rfl,h⟩
theorem uP{x j pos}:PE X (.Constant (.str x) j pos) (tC (.str x)):=λ_ _ _ H _ I h=>Calls.Constant_str ⟨.str x,H,I.tok _,⟨_,rfl⟩,h⟩
def Gl(X:Cx)(x:Str):Prop:=X.env.kindOf x=ab .globalImplicit
theorem Hq{E:ag->ak->Prop}{af:List (ah×Obj)}{s:ak}{σ:St}{H:Hp}{x:Str}{u:ag}{pos:Pos}{Q:ag->ak->Prop}(I:Inv X af σ H s)(hg:Gl X x)(hm:X.mg x=ab u)(h:Q u s)
 (hd:(x==("__debug__" : Str))=false:=by decide):wpAny (model X.prog X.w) X.A (eval (.Name x pos) X.env) Q E s:=
 Er I.ok.kind hg (Calls.loadGlobal_global (by rw[I.ok.glob];exact I.mod.glob.keeps I.bk) hm h) hd
theorem mJ{E:ag->ak->Prop}{af:List (ah×Obj)}{s:ak}{σ:St}{H:Hp}{x:Str}{u:ag}{pos:Pos}{Q:ag->ak->Prop}(I:Inv X af σ H s)(hg:Gl X x)(hm:X.mg x=ae)(hv:bootBuiltins x=ab u)(h:Q u s)
 (hn:x ≠ "__name__" := by decide) (hd:(x==("__debug__" : Str))=false:=by decide):wpAny (model X.prog X.w) X.A (eval (.Name x pos) X.env) Q E s:=by
 obtain⟨mb,h1,h2⟩:=I.mod.blt;exact Er I.ok.kind hg (Calls.loadGlobal_builtin (by rw[I.ok.glob];exact I.mod.glob.keeps I.bk) hm (by rw[I.ok.blt];exact h1.keeps I.bk) ((h2 x hn).trans hv) h) hd
theorem Ki{x:Str}{v:V}{u:ag}{pos:Pos}(hg:Gl X x)(hm:X.mg x=ae)(hv:bootBuiltins x=ab u)(r:RelV v u)(hn:x ≠ "__name__" := by decide)(hd:(x==("__debug__" : Str))=false:=by decide):PE X (.Name x pos) (tC v):=λ_ _ _ H _ I h=>mJ I hg hm hv ⟨v,H,I,r,h⟩ hn hd
variable{a b:aO}{ta tb:TE}{pos:Pos}
def PC(X:Cx)(op:CmpOp)(a b:aO)(t:TE):Prop:=
 ∀(af:List (ah×Obj)) (s:ak) (σ:St) (H:Hp) (Q:VK),Inv X af σ H s->t σ H Q ->
  wpAny (model X.prog X.w) X.A (eval a X.env) (λv s₁=>wpAny (model X.prog X.w) X.A (eval b X.env) (λu s₂=>wpAny (model X.prog X.w) X.A (compareOp op v u) (EP X af σ Q) X.xe s₂) X.xe s₁) X.xe s
def tB(t:TE):TT:=λσ H Q=>t σ H λx H1=>∃c,x=.bl c/\Q c H1
theorem Hr{op:CmpOp}{t:TE}(h:PC X op a b t)(h1:behindInMarks op b=false:=by first|exact LK _ (by decide) (by decide)|rfl):PT X (.Compare a [op] [b] pos) (tB t):=by intro af s σ H Q I hw;refine wpAny_isTrue_Compare1 (aK (h af s σ H _ I hw) λv s1 h1=>aK h1 λu s2 h2=>aK h2 λc s3 ⟨x,H1,I1,r1,q1⟩=>?_) h1;obtain⟨d,rfl,q⟩:=q1;cases r1;exact nY ⟨H1,I1,q⟩
theorem i0{e:aO}{t:TE}(h:PE X e t)(he:∀whole,isTrue e X.env whole=(do let v <- whole;standAt e.pos;holding [v] (truthy v)):=by intro _;rfl):PT X e (tB t):=by intro af s σ H Q I hw;refine isTrue_plain (aK (h af s σ H _ I hw) λv s1 ⟨x,H1,I1,r1,q1⟩=>?_) (he _);obtain⟨d,rfl,q⟩:=q1;cases r1;exact nY ⟨H1,I1,q⟩
variable{tA tB':TT}{rest:List aO}
def BC(t u:TT):TT:=λσ H Q=>t σ H λc H1=>if c=true then u σ H1 Q else Q false H1
def zR(t u:TT):TT:=λσ H Q=>t σ H λc H1=>if c=true then Q true H1 else u σ H1 Q
def y9(t:TT):TT:=λσ H Q=>t σ H λc H1=>Q (!c) H1
theorem pw_and1(ha:PT X a tA):PW X (.BoolOp .And [a] pos) tA:=by
 intro wh af s σ H Q I h;refine isTrue_and (aK (ha af s σ H Q I h) λc s1 e=>?_);cases c with
 |true=>exact isTrue_and_nil e
 |false=>exact e
theorem pw_or1(ha:PT X a tA):PW X (.BoolOp .Or [a] pos) tA:=by
 intro wh af s σ H Q I h;refine isTrue_or (aK (ha af s σ H Q I h) λc s1 e=>?_);cases c with
 |false=>exact isTrue_or_nil e
 |true=>exact e
theorem pw_and(ha:PT X a tA)(hb:PW X (.BoolOp .And (b::rest) pos) tB'):PW X (.BoolOp .And (a::b::rest) pos) (BC tA tB'):=by
 intro wh af s σ H Q I h;refine isTrue_and (aK (ha af s σ H _ I h) λc s1 ⟨H1,I1,q1⟩=>?_);cases c with
 |true=>exact hb wh af s1 σ H1 Q I1 q1
 |false=>exact⟨H1,I1,q1⟩
theorem pw_or(ha:PT X a tA)(hb:PW X (.BoolOp .Or (b::rest) pos) tB'):PW X (.BoolOp .Or (a::b::rest) pos) (zR tA tB'):=by
 intro wh af s σ H Q I h;refine isTrue_or (aK (ha af s σ H _ I h) λc s1 ⟨H1,I1,q1⟩=>?_);cases c with
 |true=>exact⟨H1,I1,q1⟩
 |false=>exact hb wh af s1 σ H1 Q I1 q1
theorem qa(ha:PT X a tA):PT X (.UnaryOp .Not a pos) (y9 tA):=by intro af s σ H Q I h;exact isTrue_not (ha af s σ H (λc H1=>Q (!c) H1) I h)
def CH(ta tb:TE):TE:=λσ H Q=>ta σ H λx H1=>∃c,x=.bl c/\if c=true then tb σ H1 Q else Q (.bl false) H1
def z6(ta tb:TE):TE:=λσ H Q=>ta σ H λx H1=>∃c,x=.bl c/\if c=true then Q (.bl true) H1 else tb σ H1 Q
theorem vF{op}{t:TE}(h:PE X a t):PE X (.BoolOp op [a] pos) t:=λaf s σ H Q I hw=>BoolOp_one (h af s σ H Q I hw)
theorem Jd(ha:PE X a ta)(hb:PE X (.BoolOp .And (b::rest) pos) tb):PE X (.BoolOp .And (a::b::rest) pos) (CH ta tb):=by
 intro af s σ H Q I h;refine BoolOp_and (aK (ha af s σ H _ I h) λv s1 ⟨x,H1,I1,r1,q1⟩=>?_);obtain⟨c,rfl,q1⟩:=q1;cases r1;refine nY ?_;cases c with
 |true=>exact hb af s1 σ H1 Q I1 q1
 |false=>exact⟨.bl false,H1,I1,rfl,q1⟩
theorem yM(ha:PE X a ta)(hb:PE X (.BoolOp .Or (b::rest) pos) tb):PE X (.BoolOp .Or (a::b::rest) pos) (z6 ta tb):=by
 intro af s σ H Q I h;refine BoolOp_or (aK (ha af s σ H _ I h) λv s1 ⟨x,H1,I1,r1,q1⟩=>?_);obtain⟨c,rfl,q1⟩:=q1;cases r1;refine nY ?_;cases c with
 |false=>exact hb af s1 σ H1 Q I1 q1
 |true=>exact⟨.bl true,H1,I1,rfl,q1⟩
end
def cy(K:aB)(H:Hp)(a:ah)(xs:List V):Prop:=
 Rd H a (.lst xs) \/
  ∃(o:Obj) (ai:Array ag) (n:Nat),K.lookup a=ab o/\o.cls=.type "list" /\ o.dict=ae/\o.data=.seq ai n/\ai.size<=sizeLine/\Vals xs ai.toList
def ee(K:aB)(H:Hp)(a:ah)(xs:List V):Prop:=
 Rd H a (.tup xs) \/
  ∃(o:Obj) (ai:Array ag) (n:Nat),K.lookup a=ab o/\o.cls=.type "tuple" /\ o.data=.seq ai n/\ai.size<=sizeLine/\Vals xs ai.toList
def Gn:ag->Option V
 |.none=>ab .non
 |.bool b=>ab (.bl b)
 |.int i _=>ab (.int i)
 |.str x _=>ab (.str x)
 |.bytes b _=>ab (.byt b)
 |.float b _=>ab (.flt b)
 |.ref a=>ab (.ref a)
 |.type n=>ab (.ty n)
 |_=>ae
theorem RelV.abs{x:V}{u:ag}(r:RelV x u):Gn u=ab x:=by
 cases x with
 |non=>cases r;rfl
 |bl _=>cases r;rfl
 |int _=>obtain⟨t,rfl⟩:=r;rfl
 |str _=>obtain⟨t,rfl⟩:=r;rfl
 |byt _=>obtain⟨t,rfl⟩:=r;rfl
 |flt _=>obtain⟨t,rfl⟩:=r;rfl
 |ref _=>cases r;rfl
 |ty _=>cases r;rfl
theorem RelV.inj{x y:V}{u:ag}(r:RelV x u)(q:RelV y u):x=y:=eZ (r.abs.symm.trans q.abs)
theorem Vals.inj:∀{xs ys:List V} {us:List ag},Vals xs us->Vals ys us->xs=ys
 |_,_,_,.nil,.nil=>rfl
 |_,_,_,.cons r t,.cons r' t'=>by rw[r.inj r',Vals.inj t t']
section
variable{X:Cx}{af:List (ah×Obj)}{σ:St}{H:Hp}{s:ak}{a:ah}{xs ys:List V}
theorem Inv.list(I:Inv X af σ H s)(h:cy X.K H a xs):∃ai:List ag,Vals xs ai/\PlainL s.heap a ai.toArray/\xs.length<=sizeLine:=by
 rcases h with h|⟨o,ai,n,hk,hc,hd,hs,hz,r⟩
 ·obtain⟨z,ai,n,r,e⟩:=h.ok I.hok;exact⟨ai,r,⟨_,n,e,rfl,rfl,rfl⟩,z⟩
 ·refine⟨ai.toList,r,⟨o,n,I.eM a o hk,hc,hd,by simpa using hs⟩,?_⟩;have e:=r.length;simp only[Em]at e;omega
theorem Inv.tuple(I:Inv X af σ H s)(h:ee X.K H a xs):∃ai:List ag,Vals xs ai/\IsTup s.heap a ai.toArray/\xs.length<=sizeLine:=by
 rcases h with h|⟨o,ai,n,hk,hc,hs,hz,r⟩
 ·obtain⟨z,ai,r,p⟩:=h.ok I.hok;exact⟨ai,r,p.tup,z⟩
 ·refine⟨ai.toList,r,⟨o,I.eM a o hk,hc,n,by simpa using hs⟩,?_⟩;have e:=r.length;simp only[Em]at e;omega
theorem Inv.se(I:Inv X af σ H s)(h:cy X.K H a xs)(h':cy X.K H a ys):xs=ys:=by
 obtain⟨ai,r,⟨o,n,e,_,_,d⟩,_⟩:=I.list h;obtain⟨its',r',⟨o',n',e',_,_,d'⟩,_⟩:=I.list h';rw[e]at e';cases e';rw[d]at d';injection d' with d1 _;have:ai=its':=by simpa using congrArg Array.toList d1
 subst this;exact r.inj r'
theorem Inv.wu(I:Inv X af σ H s)(h:ee X.K H a xs)(h':ee X.K H a ys):xs=ys:=by
 obtain⟨ai,r,⟨o,e,_,n,d⟩,_⟩:=I.tuple h;obtain⟨its',r',⟨o',e',_,n',d'⟩,_⟩:=I.tuple h';rw[e]at e';cases e';rw[d]at d';injection d' with d1 _;have:ai=its':=by simpa using congrArg Array.toList d1
 subst this;exact r.inj r'
end
abbrev Cx.wish(X:Cx)(E:ag->ak->Prop):Cx:={ X with xe:=E }
abbrev Cx.nA(X:Cx):Cx:=X.wish λ_ _=>False
theorem Cx.Ok.wish{X:Cx}(ok:X.Ok)(E:ag->ak->Prop):(X.wish E).Ok:=⟨ok.mod,ok.kind,ok.glob,ok.blt,ok.above,ok.inj,ok.has,ok.cab,ok.hd,ok.frames,ok.stk,ok.exf,ok.bs,ok.bsz,ok.qD,ok.t9,ok.iG,ok.frf⟩
theorem Cx.Ok.kr{X:Cx}{E:ag->ak->Prop}(ok:(X.wish E).Ok):X.Ok:=⟨ok.mod,ok.kind,ok.glob,ok.blt,ok.above,ok.inj,ok.has,ok.cab,ok.hd,ok.frames,ok.stk,ok.exf,ok.bs,ok.bsz,ok.qD,ok.t9,ok.iG,ok.frf⟩
section
variable{X:Cx}{af:List (ah×Obj)}{σ:St}{H:Hp}{s:ak}{E:ag->ak->Prop}
theorem Inv.wish(I:Inv X af σ H s)(E:ag->ak->Prop):Inv (X.wish E) af σ H s:=⟨I.ok.wish E,I.os,I.bare,I.base,I.loc,I.cell,I.free,I.iY,I.pin,I.hok,I.len⟩
theorem Inv.kr(I:Inv (X.wish E) af σ H s):Inv X af σ H s:=⟨I.ok.kr,I.os,I.bare,I.base,I.loc,I.cell,I.free,I.iY,I.pin,I.hok,I.len⟩
theorem SP.kr{D:Ends}{f:Flow}{s':ak}(h:SP (X.wish E) af D f s'):SP X af D f s':=by
 cases f with
 |next=>obtain⟨σ',H',I,q⟩:=h;exact⟨σ',H',I.kr,q⟩
 |brk=>obtain⟨σ',H',I,q⟩:=h;exact⟨σ',H',I.kr,q⟩
 |cont=>obtain⟨σ',H',I,q⟩:=h;exact⟨σ',H',I.kr,q⟩
 |ret u=>obtain⟨v,σ',H',I,r,q⟩:=h;exact⟨v,σ',H',I.kr,r,q⟩
theorem gf.nA{st:List bC}{t:TS}(h:gf X.nA st t):gf X st t:=λaf s σ H D I hw=>
 gv (h af s σ H D (I.wish _) hw) (λ_ _ q=>q.kr) λ_ _ z=>jD z
end
section
variable{X:Cx}{st:bC}{rest:List bC}{t u:TS}{e:aO}{te:TE}{pos:Pos}
def uf:TS:=λD σ H=>D.nx σ H
def kj(t u:TS):TS:=λD σ H=>t { D with nx:=u D } σ H
theorem dW:gf X [] uf:=λ_ _ σ H _ I h=>xk ⟨σ,H,I,h⟩
theorem aZ(h1:PS X st t)(h2:gf X rest u):gf X (st::rest) (kj t u):=by
 intro af s σ H D I h;refine wpAny_execs_cons (aK (h1 af s σ H { D with nx:=u D } I h) λf s1 q=>?_);cases f with
 |next=>
  obtain⟨σ',H',I',q⟩:=q;exact h2 af s1 σ' H' D I' q
 |ret v=>exact q
 |brk=>exact q
 |cont=>exact q
theorem ba(h1:PS X st t):gf X [st] t:=by
 intro af s σ H D I h;refine wpAny_execs_cons (aK (h1 af s σ H D I h) λf s1 q=>?_);cases f with
 |next=>exact xk q
 |ret v=>exact q
 |brk=>exact q
 |cont=>exact q
theorem Inv.quiet{af:List (ah×Obj)}{σ:St}{H:Hp}{s:ak}(I:Inv X af σ H s):interactive X.env=false:=by simp[interactive,I.ok.kind]
def iE(te:TE):TS:=λD σ H=>te σ H λ_ H1=>D.nx σ H1
theorem gg(he:PE X e te)(hs:swapsWith e ae pos.line X.env=pure false:=by rfl):PS X (.Expr e pos) (iE te):=by intro af s σ H D I h;exact wpAny_Expr_any (aK (he af s σ H _ I h) λv s1 ⟨x,H1,I1,r1,q1⟩=>⟨σ,H1,I1,q1⟩) I.quiet hs
def sQ(te:TE):TS:=λD σ H=>te σ H D.rt
theorem cR(he:PE X e te):PS X (.Return (ab e) pos) (sQ te):=by intro af s σ H D I h;exact wpAny_Return_some (aK (he af s σ H _ I h) λv s1 ⟨x,H1,I1,r1,q1⟩=>⟨x,σ,H1,I1,r1,q1⟩)
def v5(c:TT)(t u:TS):TS:=λD σ H=>c σ H λb H1=>if b=true then t D σ H1 else u D σ H1
theorem dH{c:aO}{a b:List bC}{tc:TT}(hc:PT X c tc)(ha:gf X a t)(hb:gf X b u):PS X (.If c a b pos) (v5 tc t u):=by
 intro af s σ H D I h;refine wpAny_If (aK (hc af s σ H _ I h) λd s1 ⟨H1,I1,q1⟩=>?_);cases d with
 |true=>exact ha af s1 σ H1 D I1 q1
 |false=>exact hb af s1 σ H1 D I1 q1
def B3:TS:=λ_ _ _=>False
theorem C0:PS X st B3:=λ_ _ _ _ _ _ h=>h.elim
end
abbrev TG:=V->St->Hp->(St->Hp->Prop)->Prop
abbrev jh:=List V->St->Hp->(St->Hp->Prop)->Prop
def PG(X:Cx)(target:aO)(t:TG):Prop:=
 ∀(af:List (ah×Obj)) (s:ak) (σ:St) (H:Hp) (v:V) (u:ag) (Q:St->Hp->Prop),Inv X af σ H s->RelV v u->t v σ H Q ->
  wpAny (model X.prog X.w) X.A (assign target X.env u) (λ_ s'=>∃σ' H',Inv X af σ' H' s'/\Q σ' H') X.xe s
def pQ(X:Cx)(ts:List aO)(t:jh):Prop:=
 ∀(af:List (ah×Obj)) (s:ak) (σ:St) (H:Hp) (vs:List V) (us:List ag) (Q:St->Hp->Prop),Inv X af σ H s->Vals vs us->t vs σ H Q ->
  wpAny (model X.prog X.w) X.A (assignInOrder ((assignEach ts X.env).map (·.2)) us) (λ_ s'=>∃σ' H',Inv X af σ' H' s'/\Q σ' H') X.xe s
abbrev vi:=V->V->V->Hp->(Hp->Prop)->Prop
def Cp(X:Cx)(t:vi):Prop:=
 ∀(af:List (ah×Obj)) (s:ak) (σ:St) (H:Hp) (o i v:V) (ov iv u:ag) (Q:Hp->Prop),Inv X af σ H s->RelV o ov->RelV i iv->RelV v u->t o i v H Q ->
  wpAny (model X.prog X.w) X.A (setItem ov iv u) (λ_ s'=>∃H',Inv X af σ H' s'/\Q H') X.xe s
section
variable{X:Cx}{pos:Pos}
def fe(i:Nat):TG:=λv σ H Q=>Q (σ.set i (ab v)) H
theorem gE{i:Nat}{x:Str}(hN:X.N.Nodup)(hi:X.N[i]? = ab x)(hx:Loc X.env.scope x)(hf:X.fn x=true\/X.env.scope.names.lookup x=ab .local:=by first|exact .inl rfl|exact .inr rfl|assumption):PG X (.Name x pos) (fe i):=by intro af s σ H v u Q I r h;exact wpAny_assign_Name (BA I hN hi hx r (λs' I'=>⟨_,H,I',h⟩) hf)
def Bk:jh:=λvs σ H Q=>vs=[]/\Q σ H
def yQ(t:TG)(u:jh):jh:=λvs σ H Q=>∃v r,vs=v::r/\t v σ H λσ' H'=>u r σ' H' Q
theorem uL:pQ X [] Bk:=by intro af s σ H vs us Q I r h;obtain⟨e,h⟩:=h;subst e;cases r;exact assignInOrder_nil ⟨σ,H,I,h⟩
theorem li{e:aO}{es:List aO}{t:TG}{u:jh}(h1:PG X e t)(h2:pQ X es u)
 (hs:(assignEach (e::es) X.env).map (·.2)=assign e X.env::(assignEach es X.env).map (·.2):=by rfl):pQ X (e::es) (yQ t u):=by
 intro af s σ H vs us Q I r h;obtain⟨v,vr,e1,h⟩:=h;subst e1;cases r with
 |cons r rr=>
  rw[hs];refine assignInOrder_cons (aK (h1 af s σ H _ _ _ I r h) λ_ s1 ⟨σ1,H1,I1,q1⟩=>?_);exact h2 af s1 σ1 H1 _ _ Q I1 rr q1
def An(K:aB)(n:Nat)(t:jh):TG:=λv σ H Q=>∃a xs,v=.ref a/\ee K H a xs/\xs.length=n/\t xs σ H Q
theorem AB{es:List aO}{k:Nat}{t:jh}{n:Nat}(hc:X.calm=true)(h:pQ X es t)
 (hn:(assignEach es X.env).length=n:=by rfl) (hst:(assignEach es X.env).findIdx? (·.1)=ae:=by rfl):PG X (.Tuple es k pos) (An X.K n t):=by
 intro af s σ H v u Q I r hw;obtain⟨a,xs,e1,hq,hl,hw⟩:=hw;subst e1;cases r;obtain⟨ai,rv,ht,hz⟩:=I.tuple hq;refine assign_Tuple_tuple (I.ok.hd hc) ht (by simp[hn,<- hl,rv.length]) hst λh' hx=>?_;have I1:Inv X af σ H { s with heap:=h' }:=I.kept (t':=s.toks) λb o e=>hx b o (f9 (bG e)) e;exact h af _ σ H xs _ Q I1 (by simpa using rv) hw
def zc(to ti:TE)(t:vi):TG:=λv σ H Q=>to σ H λo H1=>ti σ H1 λi H2=>t o i v H2 λH3=>Q σ H3
theorem Ke{o i:aO}{to ti:TE}{t:vi}(ho:PE X o to)(hi:PE X i ti)(hs:Cp X t)
 (ha:∀v,assign (.Subscript o i pos) X.env v=(do
  let ov <- holding [v] (eval o X.env);let iv <- holding [v,ov] (eval i X.env)
  standAt pos
  holding [v,ov,iv] (setItem ov iv v)
  release [v,ov,iv] []):=by intro _;rfl):PG X (.Subscript o i pos) (zc to ti t):=by
 intro af s σ H v u Q I r h;rw[ha];refine aA (jv (aK (ho af s σ H _ I h) λov s1 ⟨x,H1,I1,r1,q1⟩=>?_));refine aA (jv (aK (hi af s1 σ H1 _ I1 q1) λiv s2 ⟨y,H2,I2,r2,q2⟩=>?_));refine aA (tI (aA (jv (aK (hs af s2 σ H2 x y v ov iv u _ I2 r1 r2 r q2) λ_ s3 ⟨H3,I3,q3⟩=>?_))));exact wpAny_release ⟨σ,H3,I3,q3⟩
def ib(te:TE)(g:TG):TS:=λD σ H=>te σ H λx H1=>g x σ H1 D.nx
theorem yY{tg e:aO}{te:TE}{g:TG}(he:PE X e te)(hg:PG X tg g)(hs:swapsWithSole [tg] e pos.line X.env=pure false:=by rfl)(hw:swappedStores [tg] e X.env=pure ae:=by rfl)
 (h1:(assignEach [tg] X.env).map (·.2)=[assign tg X.env]:=by rfl):PS X (.Assign [tg] e pos) (ib te g):=by
 intro af s σ H D I h;refine wpAny_Assign_stores (aK (he af s σ H _ I h) λv s1 ⟨x,H1,I1,r1,q1⟩=>?_) hs hw;rw[h1];exact aK (hg af s1 σ H1 x v _ I1 r1 q1) λ_ s2 q=>q
theorem oV{i:Nat}{x:Str}{e:aO}{te:TE}{pos':Pos}(hN:X.N.Nodup)(hi:X.N[i]? = ab x)(hx:Loc X.env.scope x)(he:PE X e te)(hs:swapsWith e (ab (.Name x pos')) pos.line X.env=pure false:=by rfl)(hf:X.fn x=true\/X.env.scope.names.lookup x=ab .local:=by first|exact .inl rfl|exact .inr rfl|assumption) :
 PS X (.Assign [.Name x pos'] e pos) (ib te (fe i)):=by
 intro af s σ H D I h;refine wpAny_Assign_Name (aK (he af s σ H _ I h) λv s1 ⟨y,H1,I1,r1,q1⟩=>?_) hs;exact BA I1 hN hi hx r1 (λs2 I2=>⟨_,H1,I2,q1⟩) hf
end
structure It where
 go:Nat->Hp->Prop
 yld:Nat->Hp->V->Hp->Prop
 stop:Nat->Hp->Prop
def gQ(X:Cx)(af:List (ah×Obj))(H:Hp)(b:ah):Prop:=H b=ae/\b≠X.env.locals/\b∉X.fs/\(b∈X.ex\/X.s₀.heap.objs.size<=b)/\(∀x c,X.env.cells.lookup x=ab c->c≠b)/\∀p∈X.pn++af,p.1≠b
theorem Inv.iJ{X:Cx}{af:List (ah×Obj)}{σ:St}{H H':Hp}{s:ak}{b:ah}(I:Inv X af σ H s)(hb:s.heap.objs.size<=b)(hn:H' b=ae):gQ X af H' b:=by
 refine⟨hn,tM (fI I.lt hb),I.J5 hb,.inr (dQ I.sz hb),λx c e z=>?_,λp hp z=>?_⟩
 ·obtain⟨v,q⟩:=I.cell x c e;exact absurd (fI q.lt (by rw[z];exact hb)) (jx _)
 ·exact absurd (fI (bG (I.pin p hp).1) (by rw[z];exact hb)) (jx _)
structure Turn(P:bb)(w:aT)(K:aB)(tg:aO)(J:It)(fp:List ah)(it:ah)(tn:Nat->aI->Prop):Prop where
 mem:it∈fp
 obj:∀i h,tn i h->∀b∈fp,∃o,h.get? b=ab o/\∀v,o.data≠.cell v
 keep:∀i h h',tn i h->(∀b∈fp,∀o,h.get? b=ab o->h'.get? b=ab o)->tn i h'
 item:∀(X:Cx),X.prog=P->X.w=w->X.K=K->X.calm=true->∀(i:Nat) (af:List (ah×Obj)) (s:ak) (σ:St) (H:Hp) (E:ag->ak->Prop),Inv X af σ H s->(∀b∈fp,gQ X af H b)->tn i s.heap->J.go i H ->
  wpAny (model P w) X.A (pyNext (.ref it)) (λr s1=>∃u,r=ab u /\
   wpAny (model P w) X.A (letOwnedTupleGo tg (.ref it) u) (λ_ s2=>∃x H',Inv X af σ H' s2/\RelV x u/\J.yld i H x H'/\tn (i+1) s2.heap/\∀b∈fp,H' b=ae) E s1) E s
 done:∀(X:Cx),X.prog=P->X.w=w->X.K=K->X.calm=true->∀(i:Nat) (af:List (ah×Obj)) (s:ak) (σ:St) (H:Hp) (E:ag->ak->Prop),Inv X af σ H s->(∀b∈fp,gQ X af H b)->tn i s.heap->J.stop i H ->
  wpAny (model P w) X.A (pyNext (.ref it)) (λr s1=>r=ae/\Inv X af σ H s1) E s
 self:∀(A:br) (i:Nat) (s:ak) (Q:ag->ak->Prop) (E:ag->ak->Prop),tn i s.heap->Q (.ref it) s->wpAny (model P w) A (pyIter (.ref it)) Q E s
abbrev TI:=St->Hp->(It->Hp->Prop)->Prop
def PIE(X:Cx)(af:List (ah×Obj))(σ:St)(tg:aO)(R:It->Hp->Prop)(itv:ag)(s2:ak):Prop:=∃(it:ah) (fp:List ah) (tn:Nat->aI->Prop) (J:It) (H':Hp),itv=.ref it/\Inv X af σ H' s2/\Turn X.prog X.w X.K tg J fp it tn/\tn 0 s2.heap/\(∀b∈fp,gQ X af H' b)/\R J H'
def PI(X:Cx)(tg iter:aO)(wi:TI):Prop:=
 ∀(af:List (ah×Obj)) (s:ak) (σ:St) (H:Hp) (R:It->Hp->Prop),Inv X af σ H s->wi σ H R ->
  wpAny (model X.prog X.w) X.A (eval iter X.env) (λv s1=>wpAny (model X.prog X.w) X.A (pyIter v) (PIE X af σ tg R) X.xe s1) X.xe s
theorem sB{M:Model}{A:br}{E:ag->ak->Prop}{s:ak}{tg:aO}{it:ah}{u:ag}{o:Obj}{n:String}{vs:Array ag}{Q:Unit->ak->Prop}(ho:s.heap.get? it=ab o)(hc:o.cls=.type n)(hd:o.data=.fields vs)
 (hn:["enumerate","zip","dict_itemiterator","dict_reverseitemiterator","odict_iterator","itertools.zip_longest","itertools.pairwise"].contains n=false) (hQ:Q () s):wpAny M A (letOwnedTupleGo tg (.ref it) u) Q E s:=by
 unfold letOwnedTupleGo;cases tg<;>first
  |exact bo hQ
  | (cases u<;>first
   |exact bo hQ
   | (refine aA (wpAny_load ho ?_)
      rw[hc,hd];show wpAny M A (if(["enumerate","zip","dict_itemiterator","dict_reverseitemiterator","odict_iterator","itertools.zip_longest","itertools.pairwise"].contains n&&vs[0]? == ab (rawInt _))=true then _ else _) Q E s;rw[ay (by intro h;rw[hn,Bool.false_and]at h;cases h)];exact bo hQ))
def pz(K:aB)(a:ah):It:=⟨λi H=>∃xs x,cy K H a xs/\xs[i]? = ab x,λi H x H'=>H'=H/\∀xs,cy K H a xs->xs[i]? = ab x,λi H=>∃xs,cy K H a xs/\xs.length<=i⟩
def pi(K:aB)(a:ah):It:=⟨λi H=>∃xs x,ee K H a xs/\xs[i]? = ab x,λi H x H'=>H'=H/\∀xs,ee K H a xs->xs[i]? = ab x,λi H=>∃xs,ee K H a xs/\xs.length<=i⟩
def mM(lo:Int)(n:Nat):It:=⟨λi _=>i<n,λi H x H'=>H'=H/\x=.int (lo+i),λi _=>n<=i⟩
theorem IZ{P:bb}{w:aT}{K:aB}{tg:aO}(a it:ah):Turn P w K tg (pz K a) [it] it (λi h=>h.IsListIter it a i) where
 mem:=by simp
 obj:=λi h st b hb=>by
  have e:b=it:=by simpa using hb
  subst e;obtain⟨o,e,c,d⟩:=st;exact⟨o,e,λv z=>by rw[d]at z;cases z⟩
 keep:=λi h h' st k=>st.at λo e=>k it (by simp) o e
 item:=by intro X hP hw hK hc i af s σ H E I hf st hg;subst hP hw hK;obtain⟨xs,x,hq,hx⟩:=hg;obtain⟨ai,rv,p,hz⟩:=I.list hq;obtain⟨u,hu,ru⟩:=rv.get hx;obtain⟨f0,f1,f2,f3,f4,f5⟩:=hf it (by simp);refine DZ st p.isList (x:=u) (by simpa using hu) λh' st' sb=>?_;have I1:Inv X af σ H { s with heap:=h' }:=I.turned (t':=s.toks) (λb o hb e=>(sb.2 b hb).trans e) f0 f1 f3 f4 f5;obtain⟨o,e,c,d⟩:=id st';exact⟨u,rfl,sB (s:={ s with heap:=h' }) e c d (by decide) ⟨x,H,I1,ru,⟨rfl,λys hy=>by rw[I.se hy hq];exact hx⟩,st',λb hb=>(hf b hb).1⟩⟩
 done:=by intro X hP hw hK hc i af s σ H E I hf st hg;subst hP hw hK;obtain⟨xs,hq,hx⟩:=hg;obtain⟨ai,rv,p,hz⟩:=I.list hq;obtain⟨f0,f1,f2,f3,f4,f5⟩:=hf it (by simp);have hl:=rv.length;exact wpAny_pyNext_list_end (I.ok.hd hc) st p.isList (by simp;omega) λh' eb=>⟨rfl,I.turned (t':=s.toks) (λb o hb e=>eb b o hb e) f0 f1 f3 f4 f5⟩
 self:=λ_ _ _ _ _ st h=>wpAny_pyIter_listiter st h
theorem G6{P:bb}{w:aT}{K:aB}{tg:aO}(a it:ah):Turn P w K tg (pi K a) [it] it (λi h=>h.IsTupleIter it a i) where
 mem:=by simp
 obj:=λi h st b hb=>by
  have e:b=it:=by simpa using hb
  subst e;obtain⟨o,e,c,d⟩:=st;exact⟨o,e,λv z=>by rw[d]at z;cases z⟩
 keep:=λi h h' st k=>st.at λo e=>k it (by simp) o e
 item:=by intro X hP hw hK hc i af s σ H E I hf st hg;subst hP hw hK;obtain⟨xs,x,hq,hx⟩:=hg;obtain⟨ai,rv,p,hz⟩:=I.tuple hq;obtain⟨u,hu,ru⟩:=rv.get hx;obtain⟨f0,f1,f2,f3,f4,f5⟩:=hf it (by simp);refine wpAny_pyNext_tuple_item st (show s.heap.IsTuple a ai.toArray from p) (x:=u) (by simpa using hu) λh' st' sb=>?_;have I1:Inv X af σ H { s with heap:=h' }:=I.turned (t':=s.toks) (λb o hb e=>(sb.2 b hb).trans e) f0 f1 f3 f4 f5;obtain⟨o,e,c,d⟩:=id st';exact⟨u,rfl,sB (s:={ s with heap:=h' }) e c d (by decide) ⟨x,H,I1,ru,⟨rfl,λys hy=>by rw[I.wu hy hq];exact hx⟩,st',λb hb=>(hf b hb).1⟩⟩
 done:=by intro X hP hw hK hc i af s σ H E I hf st hg;subst hP hw hK;obtain⟨xs,hq,hx⟩:=hg;obtain⟨ai,rv,p,hz⟩:=I.tuple hq;obtain⟨f0,f1,f2,f3,f4,f5⟩:=hf it (by simp);have hl:=rv.length;exact wpAny_pyNext_tuple_end (I.ok.hd hc) st (show s.heap.IsTuple a ai.toArray from p) (by simp;omega) λh' eb=>⟨rfl,I.turned (t':=s.toks) (λb o hb e=>eb b o hb e) f0 f1 f3 f4 f5⟩
 self:=λ_ _ _ _ _ st h=>wpAny_pyIter_tupleiter st h
theorem Hb{P:bb}{w:aT}{K:aB}{tg:aO}(it:ah)(lo:Int)(n:Nat):Turn P w K tg (mM lo n) [it] it (λi h=>IsRangeIter h it (lo+(i:Nat)*1) ((n:Int)-(i:Nat)) 1) where
 mem:=by simp
 obj:=λi h st b hb=>by
  have e:b=it:=by simpa using hb
  subst e;exact⟨_,st,λv z=>by
   have z':Data.fields _=Data.cell v:=z;cases z'⟩
 keep:=λi h h' st k=>k it (by simp) _ st
 item:=by intro X hP hw hK hc i af s σ H E I hf st hg;subst hP hw hK;obtain⟨f0,f1,f2,f3,f4,f5⟩:=hf it (by simp);have W:=Walks.range (prog:=X.prog) (w:=X.w) (I.ok.hd hc) it lo 1 n;refine W.item i s _ _ hg st λv h' tk hv st' kk=>?_;obtain⟨t,rfl⟩:=hv;have I1:Inv X af σ H { s with heap:=h',toks:=tk }:=I.turned (λb o hb e=>kk b o (by simpa using hb) e) f0 f1 f3 f4 f5;refine⟨_,rfl,sB (s:={ s with heap:=h',toks:=tk }) (n := "range_iterator") st' rfl rfl (by decide) ⟨.int (lo+i),H,I1,⟨t,?_⟩,⟨rfl,rfl⟩,st',λb hb=>(hf b hb).1⟩⟩;rw[Int.mul_one]
 done:=by intro X hP hw hK hc i af s σ H E I hf st hg;subst hP hw hK;obtain⟨f0,f1,f2,f3,f4,f5⟩:=hf it (by simp);exact wpAny_pyNext_range_end (I.ok.hd hc) st (by have:n<=i:=hg;omega) λh' eb=>⟨rfl,I.turned (t':=s.toks) (λb o hb e=>eb b o hb e) f0 f1 f3 f4 f5⟩
 self:=λ_ _ _ _ _ st h=>wpAny_pyIter_rangeiter st h
section
variable{X:Cx}{tg:aO}
def CB(K:aB)(tl:TE):TI:=λσ H R=>tl σ H λx H1=>∃a,x=.ref a/\(∃xs,cy K H1 a xs)/\R (pz K a) H1
def Bp(K:aB)(tl:TE):TI:=λσ H R=>tl σ H λx H1=>∃a,x=.ref a/\(∃xs,ee K H1 a xs)/\R (pi K a) H1
theorem J7{l:aO}{tl:TE}(hl:PE X l tl):PI X tg l (CB X.K tl):=by
 intro af s σ H R I h;refine aK (hl af s σ H _ I h) λv s1 ⟨x,H1,I1,r1,q1⟩=>?_;obtain⟨a,e,⟨xs,hq⟩,q⟩:=q1;subst e;cases r1;obtain⟨ai,rv,p,hz⟩:=I1.list hq;refine xj p.isList ?_;refine⟨s1.heap.objs.size,[s1.heap.objs.size],_,_,H1,rfl,I1.kept (t':=s1.toks) λb o e=>cG _ e,IZ a _,⟨_,d9 _ rfl,rfl,rfl⟩,λb hb=>?_,q⟩;have e:b=s1.heap.objs.size:=by simpa using hb
 subst e;exact I1.iJ (bg _) (I1.hok.fresh (bg _))
theorem HC{l:aO}{tl:TE}(hl:PE X l tl):PI X tg l (Bp X.K tl):=by
 intro af s σ H R I h;refine aK (hl af s σ H _ I h) λv s1 ⟨x,H1,I1,r1,q1⟩=>?_;obtain⟨a,e,⟨xs,hq⟩,q⟩:=q1;subst e;cases r1;obtain⟨ai,rv,p,hz⟩:=I1.tuple hq;refine wpAny_pyIter_tuple (show s1.heap.IsTuple a ai.toArray from p) ?_;refine⟨s1.heap.objs.size,[s1.heap.objs.size],_,_,H1,rfl,I1.kept (t':=s1.toks) λb o e=>cG _ e,G6 a _,⟨_,d9 _ rfl,rfl,rfl⟩,λb hb=>?_,q⟩;have e:b=s1.heap.objs.size:=by simpa using hb
 subst e;exact I1.iJ (bg _) (I1.hok.fresh (bg _))
theorem JQ{af:List (ah×Obj)}{σ:St}{H:Hp}{s:ak}{R:It->Hp->Prop}{E:ag->ak->Prop}{lo hi:Int}{t u v:Tok}{tk:Nat}(I:Inv X af σ H s)(h1:-(2 ^ 62)<=lo)(h2:lo<2 ^ 62)(h3:-(2 ^ 62)<=hi)(h4:hi<2 ^ 62)
 (q:R (mM lo (hi-lo).toNat) H):wpAny (model X.prog X.w) X.A (pyIter (.ref s.heap.objs.size)) (PIE X af σ tg R) E { s with heap:=s.heap.push { cls:=.type "range", data:=.fields #[.int lo t,.int hi u,.int 1 v] },toks:=tk }:=by
 refine wpAny_pyIter_range (IsRange.new ..) (small_one h1 h2 h3 h4) ?_;have I1:Inv X af σ H { s with heap:=s.heap.push { cls:=.type "range",data:=.fields #[.int lo t,.int hi u,.int 1 v] },toks:=tk }:=I.kept λb o e=>cG _ e;refine⟨(s.heap.push { cls:=.type "range",data:=.fields #[.int lo t,.int hi u,.int 1 v] }).objs.size,[(s.heap.push { cls:=.type "range", data:=.fields #[.int lo t,.int hi u,.int 1 v] }).objs.size],_,_,H,rfl,
  I1.kept (t':=tk) λb o e=>cG _ e,Hb _ lo (hi-lo).toNat,?_,λb hb=>?_,q⟩
 ·have e1:lo+((0:Nat):Int)*1=lo:=by simp
  have e2:(((hi-lo).toNat:Nat):Int)-((0:Nat):Int)=Builtin.Range.rangeSize lo hi 1:=by rw[rangeSize_one];split<;>omega
  show IsRangeIter _ _ (lo+((0:Nat):Int)*1) ((((hi-lo).toNat:Nat):Int)-((0:Nat):Int)) 1;rw[e1,e2];exact d9 _ rfl
 ·have e:b=(s.heap.push { cls:=.type "range", data:=.fields #[.int lo t,.int hi u,.int 1 v] }).objs.size:=by simpa using hb
  subst e;exact I1.iJ (bg _) (I1.hok.fresh (bg _))
def Bm(ta:TA):TI:=λσ H R=>ta σ H λvs H1=>∃j:Int,vs=[.int j]/\-(2 ^ 62)<=j/\j<2 ^ 62/\R (mM 0 j.toNat) H1
theorem iI{a:aO}{ta:TA}{p pos:Pos}(hg:Gl X "range")(hm:X.mg "range" = ae)(ha:PA X [a] ta)(hs:starEach [a] X.env=[(false,eval a X.env)]:=by rfl):PI X tg (.Call (.Name "range" p) [a] [] pos) (Bm ta):=by
 intro af s σ H R I h;refine Call_ (mJ I hg hm boot_range (tV (aK (ha pos af s σ H _ I h) λus s1 ⟨vs,H1,I1,r1,q1⟩=>?_) hs rfl));obtain⟨j,e,q1,q2,q⟩:=q1;subst e;cases r1 with
 |cons r rr=>
  cases rr;obtain⟨t,rfl⟩:=r;exact call_range_1 (JQ I1 (by omega) (by omega) q1 q2 (by simpa using q))
def pc(wi:TI)(g:TG)(tb:TS):TS:=λD σ H=>wi σ H λJ H1=>∃W:Nat->Nat->St->Hp->Prop,(∃m,W 0 m σ H1)/\∀i m σ H,W i m σ H ->
 (J.stop i H/\D.nx σ H)\/(J.go i H/\∃N:St->Hp->Prop,(∀σ' H',N σ' H'->∃m',m'<m/\W (i+1) m' σ' H')/\∀x H',J.yld i H x H'->g x σ H' λσ2 H2=>tb { D with nx:=N,ct:=N,bk:=D.nx } σ2 H2)
def rE(fp:List ah)(h:aI):List (ah×Obj):=fp.filterMap λb=>(h.get? b).map λo=>(b,o)
theorem m9{fp:List ah}{h:aI}{b:ah}{o:Obj}(hb:b∈fp)(e:h.get? b=ab o):(b,o)∈rE fp h:=DV.mpr ⟨b,hb,by rw[e];rfl⟩
theorem HW{fp:List ah}{h:aI}{p:ah×Obj}(hp:p∈rE fp h):p.1∈fp/\h.get? p.1=ab p.2:=by
 obtain⟨b,hb,e⟩:=DV.mp hp;cases q:h.get? b with
 |none=>rw[q]at e;cases e
 |some o=>
  rw[q]at e;have e':(b,o)=p:=eZ e;subst e';exact⟨hb,q⟩
theorem Inv.pinned{af:List (ah×Obj)}{σ:St}{H:Hp}{s:ak}{fp:List ah}(I:Inv X af σ H s)(hf:∀b∈fp,gQ X af H b)(ho:∀b∈fp,∃o,s.heap.get? b=ab o/\∀v,o.data≠.cell v):Inv X (af++rE fp s.heap) σ H s:=
 I.vE λp hp=>(dO.mp hp).elim (λz=>I.pin p (dM _ z)) λz=>by
  obtain⟨hb,e⟩:=HW z;obtain⟨f0,f1,f2,_⟩:=hf p.1 hb;obtain⟨o,e',d⟩:=ho p.1 hb;rw[e]at e';cases e';exact⟨e,f0,f1,f2,d⟩
theorem Inv.mZ{af pl:List (ah×Obj)}{σ:St}{H:Hp}{s:ak}(I:Inv X (af++pl) σ H s):Inv X af σ H s:=I.vE λp hp=>I.pin p (dM _ (k4 _ hp))
theorem fZ{iter:aO}{body:List bC}{wi:TI}{g:TG}{tb:TS}{pos:Pos}(hp:PassesOwn (model X.prog X.w) X.A X.env X.xe)(hc:X.calm=true)(hi:PI X tg iter wi)(hg:PG X tg g)(hb:gf X body tb)
 (hs:∀x,foldedSetIterable iter X.env x=pure x:=by intro _;rfl):PS X (.For tg iter body [] pos) (pc wi g tb):=by
 intro af s σ H D I h;refine wpAny_For (aK (hi af s σ H _ I h) λv s1 h1=>aK h1 λitv s2 h2=>?_) hs;obtain⟨it,fp,tn,J,H2,e,I2,T,st2,f2,W,⟨m0,w0⟩,turn⟩:=h2;subst e;have stat:∀{H':Hp},(∀b∈fp,H' b=ae)->∀b∈fp,gQ X af H' b:=λhn b hb=>⟨hn b hb,(f2 b hb).2⟩;refine codeAny_forLoop_any (λn s'=>∃i σ' H',Inv X af σ' H' s'/\tn i s'.heap/\(∀b∈fp,H' b=ae)/\W i n σ' H') ?_ m0 ⟨0,σ,H2,I2,st2,λb hb=>(f2 b hb).1,w0⟩;rintro n s3 ⟨i,σ3,H3,I3,st3,fr3,w3⟩;rcases turn i n σ3 H3 w3 with ⟨stop,qn⟩|⟨go,N,hN,step⟩
 ·refine qu hp (aK (T.done X rfl rfl rfl hc i af s3 σ3 H3 X.xe I3 (stat fr3) st3 stop) λr s4 ⟨hr,I4⟩=>?_);subst hr;exact xk ⟨σ3,H3,I4,qn⟩
 ·refine qu hp (aK (T.item X rfl rfl rfl hc i af s3 σ3 H3 X.xe I3 (stat fr3) st3 go) λr s4 ⟨u,hr,h4⟩=>?_);subst hr;refine qu hp (aK h4 λ_ s5 ⟨x,H5,I5,r5,y5,st5,fr5⟩=>?_);have I5':=I5.pinned (stat fr5) (T.obj _ _ st5);refine qu hp (aK (hg _ s5 σ3 H5 x u _ I5' r5 (step x H5 y5)) λ_ s6 ⟨σ6,H6,I6,q6⟩=>?_);refine qu hp (aK (hb _ s6 σ6 H6 _ I6 q6) λf s7 q7=>?_);have again:∀{σ7:St} {H7:Hp},Inv X (af++rE fp s5.heap) σ7 H7 s7->N σ7 H7->∃m,m<n/\∃i σ' H',Inv X af σ' H' s7/\tn i s7.heap/\(∀b∈fp,H' b=ae)/\W i m σ' H':=λ{σ7 H7} I7 n7=>by
   obtain⟨m',hm,w7⟩:=hN σ7 H7 n7;refine⟨m',hm,i+1,σ7,H7,I7.mZ,T.keep _ _ _ st5 λb hb o e=>(I7.pin (b,o) (dM _ (dM _ (m9 hb e)))).1,λb hb=>?_,w7⟩;obtain⟨o,e,d⟩:=T.obj _ _ st5 b hb;exact(I7.pin (b,o) (dM _ (dM _ (m9 hb e)))).2.1
  cases f with
  |next=>obtain⟨σ7,H7,I7,n7⟩:=q7;exact again I7 n7
  |cont=>obtain⟨σ7,H7,I7,n7⟩:=q7;exact again I7 n7
  |brk=>obtain⟨σ7,H7,I7,q7⟩:=q7;exact⟨σ7,H7,I7.mZ,q7⟩
  |ret v=>obtain⟨x7,σ7,H7,I7,r7,q7⟩:=q7;exact⟨x7,σ7,H7,I7.mZ,r7,q7⟩
end
abbrev R2:=V->V->Hp->VK->Prop
def bY(X:Cx)(f:ag->ag->Sem ag)(r:R2):Prop:=
 ∀(af:List (ah×Obj)) (s:ak) (σ:St) (H:Hp) (x y:V) (v u:ag) (Q:VK),Inv X af σ H s->RelV x v->RelV y u->r x y H Q ->
  wpAny (model X.prog X.w) X.A (f v u) (EP X af σ Q) X.xe s
def vJ(X:Cx)(f:ag->Sem ag)(r:V->Hp->VK->Prop):Prop:=
 ∀(af:List (ah×Obj)) (s:ak) (σ:St) (H:Hp) (x:V) (v:ag) (Q:VK),Inv X af σ H s->RelV x v->r x H Q ->
  wpAny (model X.prog X.w) X.A (f v) (EP X af σ Q) X.xe s
def fc(X:Cx)(f:ag)(r:List V->Hp->VK->Prop):Prop:=
 ∀(af:List (ah×Obj)) (s:ak) (σ:St) (H:Hp) (xs:List V) (us:List ag) (Q:VK),Inv X af σ H s->Vals xs us->r xs H Q ->
  wpAny (model X.prog X.w) X.A (call f us) (EP X af σ Q) X.xe s
def nL(r:R2)(ta tb:TE):TE:=λσ H Q=>ta σ H λx H1=>tb σ H1 λy H2=>r x y H2 Q
def AN(r:V->Hp->VK->Prop)(ta:TE):TE:=λσ H Q=>ta σ H λx H1=>r x H1 Q
def rI(C:Int->Int->Prop)(g:Int->Int->V):R2:=λx y H Q=>∃i j,x=.int i/\y=.int j/\C i j/\Q (g i j) H
def i5(g:Int->Int->V):R2:=λx y H Q=>∃i j,x=.int i/\y=.int j/\Q (g i j) H
def rU(g:Int->V):V->Hp->VK->Prop:=λx H Q=>∃i,x=.int i/\Q (g i) H
section
variable{X:Cx}{a b c:aO}{ta tb tc:TE}{pos:Pos}
theorem vY(ha:PE X a ta)(hb:PE X b tb){af:List (ah×Obj)}{s:ak}{σ:St}{H:Hp}{R:V->V->Hp->Prop}(I:Inv X af σ H s)
 (h:ta σ H λx H1=>tb σ H1 λy H2=>R x y H2) {Q:ag->ak->Prop} {f:ag->ag->Sem ag}
 (hf:∀v u s2 x y H2,Inv X af σ H2 s2->RelV x v->RelV y u->R x y H2->wpAny (model X.prog X.w) X.A (f v u) Q X.xe s2) :
 wpAny (model X.prog X.w) X.A (eval a X.env) (λv s₁=>wpAny (model X.prog X.w) X.A (eval b X.env) (λu s₂=>wpAny (model X.prog X.w) X.A (f v u) Q X.xe s₂) X.xe s₁) X.xe s:=by
 refine aK (ha af s σ H _ I h) λv s1 ⟨x,H1,I1,r1,q1⟩=>?_;refine aK (hb af s1 σ H1 _ I1 q1) λu s2 ⟨y,H2,I2,r2,q2⟩=>?_;exact hf v u s2 x y H2 I2 r1 r2 q2
theorem aH{op:Operator}{r:R2}(ho:bY X (binaryOp op) r)(ha:PE X a ta)(hb:PE X b tb):PE X (.BinOp a op b pos) (nL r ta tb):=by intro af s σ H Q I h;exact wpAny_BinOp (vY ha hb I h λv u s2 x y H2 I2 rx ry q=>ho af s2 σ H2 x y v u Q I2 rx ry q)
theorem rP{op:UnaryOp}{r:V->Hp->VK->Prop}(ho:vJ X (unaryOp op) r)(ha:PE X a ta):PE X (.UnaryOp op a pos) (AN r ta):=by intro af s σ H Q I h;exact UnaryOp_ (aK (ha af s σ H _ I h) λv s1 ⟨x,H1,I1,r1,q1⟩=>ho af s1 σ H1 x v Q I1 r1 q1)
theorem sJ{f:ag->ag->Sem ag}{C:Int->Int->Prop}{g:Int->Int->Int}
 (rule:∀(i j:Int) (t u:Tok) (s:ak) (Q:ag->ak->Prop) (E:ag->ak->Prop),C i j->Q (.int (g i j) s.toks) { s with toks:=s.toks+1 }->wpAny (model X.prog X.w) X.A (f (.int i t) (.int j u)) Q E s) :
 bY X f (rI C λi j=>.int (g i j)):=by
 intro af s σ H x y v u Q I rx ry h;obtain⟨i,j,rfl,rfl,hc,q⟩:=h;obtain⟨t,rfl⟩:=rx;obtain⟨t',rfl⟩:=ry;exact rule i j t t' s _ _ hc ⟨.int (g i j),H,I.tok _,⟨_,rfl⟩,q⟩
theorem A7{f:ag->ag->Sem ag}{g:Int->Int->Int}
 (rule:∀(i j:Int) (t u:Tok) (s:ak) (Q:ag->ak->Prop) (E:ag->ak->Prop),Q (.int (g i j) s.toks) { s with toks:=s.toks+1 }->wpAny (model X.prog X.w) X.A (f (.int i t) (.int j u)) Q E s) :
 bY X f (i5 λi j=>.int (g i j)):=by
 intro af s σ H x y v u Q I rx ry h;obtain⟨i,j,rfl,rfl,q⟩:=h;obtain⟨t,rfl⟩:=rx;obtain⟨t',rfl⟩:=ry;exact rule i j t t' s _ _ ⟨.int (g i j),H,I.tok _,⟨_,rfl⟩,q⟩
theorem yC{f:ag->ag->Sem ag}{g:Int->Int->Bool}
 (rule:∀(i j:Int) (t u:Tok) (s:ak) (Q:ag->ak->Prop) (E:ag->ak->Prop),Q (.bool (g i j)) s->wpAny (model X.prog X.w) X.A (f (.int i t) (.int j u)) Q E s) :
 bY X f (i5 λi j=>.bl (g i j)):=by
 intro af s σ H x y v u Q I rx ry h;obtain⟨i,j,rfl,rfl,q⟩:=h;obtain⟨t,rfl⟩:=rx;obtain⟨t',rfl⟩:=ry;exact rule i j t t' s _ _ ⟨.bl (g i j),H,I,rfl,q⟩
def A2(i j:Int):Prop:=0<=j/\j<=1000000/\i.natAbs<2 ^ 64
def rh(i j:Int):Prop:=(-(2 ^ 64)<i/\i<2 ^ 64)\/(-(2 ^ 64)<j/\j<2 ^ 64)
theorem rh.ok{i j:Int}(h:rh i j):IntMulOk i j:=by
 rcases h with ⟨h1,h2⟩|⟨h1,h2⟩
 ·exact .of_left (intBits_le_64 h1 h2)
 ·exact .of_right (intBits_le_64 h1 h2)
theorem GB:bY X (binaryOp .Add) (i5 λi j=>.int (i+j)):=A7 λ_ _ _ _ _ _ _ q=>add_int q
theorem rW:bY X (binaryOp .Sub) (i5 λi j=>.int (i-j)):=A7 λ_ _ _ _ _ _ _ q=>sub_int q
theorem eR:bY X (binaryOp .Mult) (rI rh λi j=>.int (i*j)):=sJ λ_ _ _ _ _ _ _ hc q=>mul_int q hc.ok
theorem cP:bY X (binaryOp .Mod) (rI (λ_ j=>0<j) λi j=>.int (i%j)):=sJ λi j _ _ _ _ _ hc q=>by
 have h1:(0:Int)<j:=hc;exact mod_int' (by omega) (by rw[Int.fmod_eq_emod_of_nonneg i (by omega)];exact q)
theorem FP:bY X (binaryOp .Pow) (rI A2 λi j=>.int (i ^ j.toNat)):=sJ λ_ _ _ _ _ _ _ hc q=>pow_int_small hc.1 hc.2.1 hc.2.2 q
theorem Gf{f:ag->Sem ag}{g:Int->Int}
 (rule:∀(i:Int) (t:Tok) (s:ak) (Q:ag->ak->Prop) (E:ag->ak->Prop),Q (.int (g i) s.toks) { s with toks:=s.toks+1 }->wpAny (model X.prog X.w) X.A (f (.int i t)) Q E s) :
 vJ X f (rU λi=>.int (g i)):=by
 intro af s σ H x v Q I rx h;obtain⟨i,rfl,q⟩:=h;obtain⟨t,rfl⟩:=rx;exact rule i t s _ _ ⟨.int (g i),H,I.tok _,⟨_,rfl⟩,q⟩
theorem rR:vJ X (unaryOp .USub) (rU λi=>.int (-i)):=Gf λ_ _ _ _ _ q=>neg_int q
end
section
variable{X:Cx}{a b c:aO}{ta tb tc:TE}{pos:Pos}
theorem v8{af:List (ah×Obj)}{σ:St}{H:Hp}{s:ak}{Q:VK}{k k':Bool}(I:Inv X af σ H s)(q:Q (.bl k) H)(e:k=k'):EP X af σ Q (.bool k') s:=by subst e;exact⟨.bl k,H,I,rfl,q⟩
theorem HL:bY X (compareOp .Lt) (i5 λi j=>.bl (decide (i<j))):=yC λ_ _ _ _ _ _ _ q=>lt_int q
theorem Ge:bY X (compareOp .Gt) (i5 λi j=>.bl (decide (j<i))):=yC λ_ _ _ _ _ _ _ q=>gt_int q
theorem HI:bY X (compareOp .Lt) (λx y H Q=>∃i j,x=.str i/\y=.str j/\Q (.bl (decide (i.cps.toList<j.cps.toList))) H):=by intro af s σ H x y v u Q I rx ry h;obtain⟨i,j,rfl,rfl,q⟩:=h;obtain⟨t,rfl⟩:=rx;obtain⟨t',rfl⟩:=ry;exact lt_str (v8 I q rfl)
theorem J2:bY X (compareOp .In) (λx y H Q=>∃i j,x=.str i/\y=.str j/\Q (.bl (!(Builtin.Str.occurrences j i 0 j.length 1).isEmpty)) H):=by intro af s σ H x y v u Q I rx ry h;obtain⟨i,j,rfl,rfl,q⟩:=h;obtain⟨t,rfl⟩:=rx;obtain⟨t',rfl⟩:=ry;exact in_str (v8 I q rfl)
theorem bY.or{f:ag->ag->Sem ag}{r r':R2}(h:bY X f r)(h':bY X f r'):bY X f (λx y H Q=>r x y H Q\/r' x y H Q):=by
 intro af s σ H x y v u Q I rx ry q;rcases q with q|q
 ·exact h af s σ H x y v u Q I rx ry q
 ·exact h' af s σ H x y v u Q I rx ry q
theorem fi(b:aO){op:CmpOp}(h:op≠.In:=by decide)(h2:op≠.NotIn:=by decide):behindInMarks op b=false:=by
 have e1:(op==CmpOp.In)=false:=by cases op<;>first|rfl|exact absurd rfl h
 have e2:(op==CmpOp.NotIn)=false:=by cases op<;>first|rfl|exact absurd rfl h2
 cases b<;>simp[behindInMarks,e1,e2]
theorem oz{op:CmpOp}{r:R2}(ho:bY X (compareOp op) r)(ha:PE X a ta)(hb:PE X b tb)(hm:behindInMarks op b=false):PE X (.Compare a [op] [b] pos) (nL r ta tb):=by intro af s σ H Q I h;exact wpAny_Compare1 (vY ha hb I h λv u s2 x y H2 I2 rx ry q=>ho af s2 σ H2 x y v u Q I2 rx ry q) hm
def z5(t:TE):TT:=λσ H Q=>t σ H λx H'=>∃k,x=.bl k/\Q k H'
theorem eo{op:CmpOp}{r:R2}(ho:bY X (compareOp op) r)(ha:PE X a ta)(hb:PE X b tb)(hm:behindInMarks op b=false):PT X (.Compare a [op] [b] pos) (z5 (nL r ta tb)):=by
 intro af s σ H Q I h;refine wpAny_isTrue_Compare1 (aK (ha af s σ H _ I h) λv s1 ⟨x,H1,I1,r1,q1⟩=>aK (hb af s1 σ H1 _ I1 q1) λu s2 ⟨y,H2,I2,r2,q2⟩=>
  aK (ho af s2 σ H2 x y v u _ I2 r1 r2 q2) λc s3 ⟨z,H3,I3,r3,k,e,q3⟩=>?_) hm
 subst e;cases r3;exact nY ⟨H3,I3,q3⟩
theorem pk:(sizeLine:Nat)<2 ^ 63:=by rw[cZ];decide
theorem Im:bY X (binaryOp .Add) (λx y H Q=>∃i j,x=.str i/\y=.str j/\i.length+j.length<=sizeLine/\Q (.str (i++j)) H):=by intro af s σ H x y v u Q I rx ry h;obtain⟨i,j,rfl,rfl,hz,q⟩:=h;obtain⟨t,rfl⟩:=rx;obtain⟨t',rfl⟩:=ry;exact add_str (λt' tk=>⟨.str (i++j),H,I.tok _,⟨_,rfl⟩,q⟩) hz
theorem vals1{x:V}{us:List ag}(r:Vals [x] us):∃u,us=[u]/\RelV x u:=by
 cases r with
 |cons r1 r2=>cases r2;exact⟨_,rfl,r1⟩
theorem vals2{x y:V}{us:List ag}(r:Vals [x,y] us):∃u w',us=[u,w']/\RelV x u/\RelV y w':=by
 cases r with
 |cons r1 r2=>
  cases r2 with
  |cons r3 r4=>cases r4;exact⟨_,_,rfl,r1,r3⟩
theorem KZ(hc:X.calm=true):fc X (.builtin "max") (λxs H Q=>∃i j,xs=[.int i,.int j]/\Q (.int (if j>i then j else i)) H):=by
 intro af s σ H xs us Q I r h;obtain⟨i,j,rfl,q⟩:=h;obtain⟨u,w',rfl,⟨t,rfl⟩,⟨t',rfl⟩⟩:=vals2 r;refine max_two_ints (I.ok.hd hc) λh' tk k=>⟨_,H,I.kept k,?_,q⟩;by_cases hj:j>i
 ·rw[aw hj,aw hj];exact⟨_,rfl⟩
 ·rw[ay hj,ay hj];exact⟨_,rfl⟩
theorem J9(hc:X.calm=true):fc X (.builtin "min") (λxs H Q=>∃i j,xs=[.int i,.int j]/\Q (.int (if j<i then j else i)) H):=by
 intro af s σ H xs us Q I r h;obtain⟨i,j,rfl,q⟩:=h;obtain⟨u,w',rfl,⟨t,rfl⟩,⟨t',rfl⟩⟩:=vals2 r;refine min_two_ints (I.ok.hd hc) λh' tk k=>⟨_,H,I.kept k,?_,q⟩;by_cases hj:j<i
 ·rw[aw hj,aw hj];exact⟨_,rfl⟩
 ·rw[ay hj,ay hj];exact⟨_,rfl⟩
def y2(K:aB)(x:V)(H:Hp)(n:Nat):Prop:=
 match x with
 |.str y=>y.length<=sizeLine/\n=y.length
 |.byt y=>y.size<=sizeLine/\n=y.size
 |.ref p=>(∃xs,cy K H p xs/\n=xs.length)\/∃xs,ee K H p xs/\n=xs.length
 |_=>False
theorem Jh:fc X (.builtin "len") (λxs H Q=>∃x n,xs=[x]/\y2 X.K x H n/\Q (.int n) H):=by
 intro af s σ H xs us Q I r h;obtain⟨x,n,rfl,e,q⟩:=h;obtain⟨u,rfl,rx⟩:=vals1 r;have hl:=pk;have hs:sizeLine=16777216:=cZ;cases x with
 |str y=>
  obtain⟨t,rfl⟩:=rx;obtain⟨hy,e'⟩ : y.length<=sizeLine/\n=y.length:=e;subst e';exact len_str (by omega) ⟨.int _,H,I.tok _,⟨_,rfl⟩,q⟩
 |byt y=>
  obtain⟨t,rfl⟩:=rx;obtain⟨hy,e'⟩ : y.size<=sizeLine/\n=y.size:=e;subst e';exact PySem.W.len_bytes (by omega) ⟨.int _,H,I.tok _,⟨_,rfl⟩,q⟩
 |ref p=>
  cases rx;have e':(∃xs,cy X.K H p xs/\n=xs.length)\/∃xs,ee X.K H p xs/\n=xs.length:=e;rcases e' with ⟨xs,hx,e'⟩|⟨xs,hx,e'⟩
  ·subst e';obtain⟨ai,r',pl,hz⟩:=I.list hx;have hlen:=r'.length;exact Calls.call_len_list pl.isList (by simp only[bF];omega) ⟨.int xs.length,H,I.tok _,⟨_,by simp only[bF];rw[hlen]⟩,q⟩
  ·subst e';obtain⟨ai,r',pl,hz⟩:=I.tuple hx;have hlen:=r'.length;exact len_tuple pl (by simp only[bF];omega) ⟨.int xs.length,H,I.tok _,⟨_,by simp only[bF];rw[hlen]⟩,q⟩
 |_=>exact(show False from e).elim
end
structure vT(h:aI)(x dx C:ah)(mA:Str->Option ag):Prop where
 obj:h.get? x=ab (wL C dx)
 ns:h.Ns1 dx mA
 ne:dx≠x
theorem Hu{h:aI}{dx:ah}{mA:Str->Option ag}(n:h.Ns1 dx mA):∃od,h.get? dx=ab od/\∀name,wN name od=ab (mA name):=by
 obtain⟨o,es,ep,ho,hd,hk,_,hm⟩:=n;refine⟨o,ho,λname=>?_⟩;have e:=hm name;unfold nsFind findBy at e;rw[<- Array.find?_toList]at e;unfold wN;rw[hd];dsimp only;split
 ·rename_i y q;rw[q]at e;exact congrArg ab e
 ·rename_i q;rw[q]at e;have a:es.toList.any (·.refKey)=false:=by
   rw[w5];intro y hy;obtain⟨z,t,hkey⟩:=hk y (Array.mem_toList_iff.mp hy);simp[DictEntry.refKey,hkey]
  have a':¬ es.toList.any (·.refKey)=true:=by rw[a];exact cN
  rw[ay a'];exact congrArg ab e
theorem vT.look{h:aI}{x dx C:ah}{mA:Str->Option ag}(I:vT h x dx C mA):∃od,PySem.W.InstAt h x (wL C dx) C (ab od)/\∀name,wN name od=ab (mA name):=
 let ⟨od,ho,hl⟩:=Hu I.ns
 ⟨od,⟨I.obj,rfl,rfl,ho⟩,hl⟩
theorem iQ.some_of{v:V}{o:Option ag}(r:iQ (ab v) o):∃u,o=ab u/\RelV v u:=by
 cases o with
 |none=>exact(show False from r).elim
 |some u=>exact⟨u,rfl,r⟩
section
variable{P:bb}{w:aT}{H H':Hp}{h h':aI}{a C dx:ah}{fs fs':List (Str×V)}
theorem zG(hok:cg P w H h)(e:H a=ab (.ins C dx fs)):∃mA,vT h a dx C mA/\(∀f,iQ (fs.lookup f) (mA f))/\PySem.Within mA (fs.map (·.1))/\fs.length<=1000/\H dx=ab (.own a):=by obtain⟨d,z,ne,ob,mA,n,r,q⟩:=(show bN P w H h a (.ins C dx fs)from hok a _ e);exact⟨mA,⟨ob,n,ne⟩,r,q,z,d⟩
end
structure uB(K:aB)(C:ah):Prop where
 pg:DC K C dS=true
 hd:PySem.W.hasDictIn K C=true
 po:PySem.W.plainOver K C=true
 sa:DG K (.ref C) "__setattr__" = ab (ab (.builtin "object.__setattr__"))
theorem uB.get{K:aB}{C:ah}(c:uB K C)(f:Str):DC K C f=true:=c.pg
section
variable{X:Cx}{af:List (ah×Obj)}{σ:St}{H:Hp}{s:ak}{A:br}{E:ag->ak->Prop}{Q:ag->ak->Prop}{c:ag}{b:Bool}
inductive fE(K:aB)(H:Hp):V->ag->Prop where
 |non:fE K H .non (.type "NoneType")
 |bl (x:Bool):fE K H (.bl x) (.type "bool")
 |int (i:Int):fE K H (.int i) (.type "int")
 |str (x:Str):fE K H (.str x) (.type "str")
 |flt (x:UInt64):fE K H (.flt x) (.type "float")
 |lst {a:ah} {xs:List V} (e:H a=ab (.lst xs)):fE K H (.ref a) (.type "list")
 |frz {a:ah} {o:Obj} {xs:List V} (e:H a=ab (.frz o (.lst xs))):fE K H (.ref a) (.type "list")
 |tup {a:ah} {xs:List V} (e:H a=ab (.tup xs)):fE K H (.ref a) (.type "tuple")
 |dK {a:ah} {am:List (Key×V)} (e:H a=ab (.dK am)):fE K H (.ref a) (.type "dict")
 |dT {a:ah} {am:List (List Key×V)} (e:H a=ab (.dT am)):fE K H (.ref a) (.type "dict")
 | ins {a C dx:ah} {fs:List (Str×V)} (e:H a=ab (.ins C dx fs)) (cl:uB K C) (ha:DG K (.ref C) "__class__" = ab (ab (.builtin "object.__class__")))
  (hn:PySem.W.specialIn K (.builtin "object.__class__") "__get__" = ab (ab (.builtin "getset_descriptor.__get__"))) (htk:PySem.W.takesIn K (.builtin "object.__class__")=ab true)
  (hm:PySem.W.mroIn K C (.type "object")=ab true):fE K H (.ref a) (.ref C)
theorem HQ{x:V}{u t:ag}(I:Inv X af σ H s)(rx:RelV x u)(ty:fE X.K H x t)(e:wQ X.K t c=ab b)(h:∀tk,Q (.bool b) { s with toks:=tk }) :
 wpAny (model X.prog X.w) A (call (.builtin "isinstance") [u,c]) Q E s:=by
 cases ty with
 |non=>cases(show u=dR from rx);exact iS DA I.eM gB e (λz=>nomatch z) h
 |bl y=>cases(show u=mv y from rx);exact iS DB I.eM gB e (λz=>nomatch z) h
 |int i=>obtain⟨t,q⟩:=(show∃t,u=Value.int i t from rx);cases q;exact iS DD I.eM gB e (λz=>nomatch z) h
 |str y=>obtain⟨t,q⟩:=(show∃t,u=ke y t from rx);cases q;exact iS DE I.eM gB e (λz=>nomatch z) h
 |flt y=>obtain⟨t,q⟩:=(show∃t,u=xC y t from rx);cases q;exact iS Dy I.eM gB e (λz=>nomatch z) h
 | @lst a xs ea=>
  cases(show u=cr a from rx);obtain⟨_,_,n,_,h1⟩:=(show bN X.prog X.w H s.heap a (.lst xs)from I.hok a _ ea);exact iS sV I.eM ⟨_,h1,rfl⟩ e (λz=>nomatch z) h
 | @frz a ob xs ea=>
  cases(show u=cr a from rx);obtain⟨_,_,_,n,_,h1⟩:=(show bN X.prog X.w H s.heap a (.frz ob (.lst xs))from I.hok a _ ea);exact iS sV I.eM ⟨_,h1,rfl⟩ e (λz=>nomatch z) h
 | @tup a xs ea=>
  cases(show u=cr a from rx);obtain⟨_,_,_,p⟩:=(show bN X.prog X.w H s.heap a (.tup xs)from I.hok a _ ea);obtain⟨o,h1,h2,_⟩:=p;exact iS Dz I.eM ⟨o,h1,h2⟩ e (λz=>nomatch z) h
 | @dK a am ea=>
  cases(show u=cr a from rx);obtain⟨_,_,vs,_,p⟩:=(show bN X.prog X.w H s.heap a (.dK am)from I.hok a _ ea);obtain⟨o,es,ep,h1,h2,_⟩:=p;exact iS sW I.eM ⟨o,h1,h2.1⟩ e (λz=>nomatch z) h
 | @dT a am ea=>
  cases(show u=cr a from rx);obtain⟨_,_,xs,_,o,es,ep,h1,h2,_⟩:=(show bN X.prog X.w H s.heap a (.dT am)from I.hok a _ ea);exact iS sW I.eM ⟨o,h1,h2.1⟩ e (λz=>nomatch z) h
 | @ins a C dx fs ea cl ha hn htk hm=>
  cases(show u=cr a from rx);obtain⟨mA,O,_⟩:=zG I.hok ea;obtain⟨od,J,_⟩:=O.look;exact iS (DF (cl.get _) cl.hd ha hn htk hm) I.eM J e (λz=>nomatch z) h
end
structure dE(k:Nat)(A:br):Prop where
 hd:A.handled=ae
 dp:A.depth+3*k+5<recursionLimit
 un:A.units+16*k+200<cLine
 gd:A.guards=ab []
theorem dE.mono{j k:Nat}{A:br}(r:dE k A)(h:j<=k):dE j A:=⟨r.hd,by have:=r.dp;omega,by have:=r.un;omega,r.gd⟩
theorem dE.deeper{k:Nat}{A:br}(r:dE (k+1) A)(env:Env):dE k (A.deeper env):=⟨r.hd,by have:=r.dp;show A.depth+1+3*k+5<_;omega,by have:=r.un;show A.units+3+16*k+200<_;omega,r.gd⟩
theorem dE.depth{k:Nat}{A:br}(r:dE k A):A.depth<recursionLimit:=by have:=r.dp;omega
theorem dE.units{k:Nat}{A:br}(r:dE k A):A.units+64<cLine:=by have:=r.un;omega
def fT:TA:=λ_ H Q=>Q [] H
def fh(ta:TE)(tr:TA):TA:=λσ H Q=>ta σ H λx H1=>tr σ H1 λxs H2=>Q (x::xs) H2
section
variable{X:Cx}{e:aO}{es:List aO}{te:TE}{t:TA}{pos:Pos}
theorem bc:PA X [] fT:=λ_ _ _ _ H Q I h=>Calls.spliced_nil ⟨[],H,I,.nil,h⟩
theorem ax(ha:PE X e te)(hr:PA X es t)(hs:starEach (e::es) X.env=(false,eval e X.env)::starEach es X.env:=by rfl):PA X (e::es) (fh te t):=by intro pos af s σ H Q I h;rw[hs];show wpAny _ _ (spliced ((false,eval e X.env)::backTo pos (starEach es X.env))) _ _ s;refine Calls.spliced_cons (aK (ha af s σ H _ I h) λu s1 ⟨x,H1,I1,r1,q1⟩=>?_);exact aK (hr pos af s1 σ H1 _ I1 q1) λus s2 ⟨xs,H2,I2,r2,q2⟩=>⟨x::xs,H2,I2,.cons r1 r2,q2⟩
def vp(t:TA):TE:=λσ H Q=>t σ H λxs H1=>xs.length<=sizeLine/\∀p,H1 p=ae->Q (.ref p) (upd H1 p (.tup xs))
def zm(t:TA):TE:=λσ H Q=>t σ H λxs H1=>xs.length<=sizeLine/\∀p,H1 p=ae->Q (.ref p) (upd H1 p (.lst xs))
theorem kP{x1}(h:PA X es t):PE X (.Tuple es x1 pos) (vp t):=by intro af s σ H Q I hq;refine wpAny_Tuple_spliced (aK (h pos af s σ H _ I hq) λus s1 ⟨xs,H1,I1,r,z,q⟩=>⟨by rw[<- r.length];exact z,?_⟩);have hf:H1 s1.heap.objs.size=ae:=I1.hok.fresh (bg _);refine⟨.ref s1.heap.objs.size,upd H1 s1.heap.objs.size (.tup xs),I1.laid (t':=s1.toks) (λb u e=>cG _ e) (bg _) ?_,rfl,q _ hf⟩;exact⟨z,us,r,⟨_,d9 _ rfl,rfl,rfl,_,rfl⟩⟩
theorem eG(h:PA X es t):PE X (.List es pos) (zm t):=by intro af s σ H Q I hq;refine wpAny_List_spliced (aK (h pos af s σ H _ I hq) λus s1 ⟨xs,H1,I1,r,z,q⟩=>⟨by rw[<- r.length];exact z,?_⟩);have hf:H1 s1.heap.objs.size=ae:=I1.hok.fresh (bg _);refine⟨.ref s1.heap.objs.size,upd H1 s1.heap.objs.size (.lst xs),I1.laid (t':=s1.toks) (λb u e=>cG _ e) (bg _) ?_,rfl,q _ hf⟩;exact⟨z,us,0,r,d9 _ rfl⟩
end
abbrev Sp:=List V->Hp->VK->XK->Prop
abbrev eK:=List Env->Hp->ak->XK->ag->ak->Prop
structure rX(P:bb)(w:aT)(K:aB)(mg:Str->Option ag)(base:aI)(A:br)(outer:List Env)(s:ak)(H:Hp):Prop where
 frames:A.frames=ab outer
 mod:Mod K mg base
 bs:∀b o,base.get? b=ab o->s.heap.get? b=ab o/\H b=ae
 bsz:base.objs.size<=s.heap.objs.size
 iG:s.heap.FunFrames base outer
 frf:∀b∈frs outer,H b=ae
 hok:cg P w H s.heap
 bare:kf s.gens
def CE(outer:List Env)(P:bb)(w:aT)(H:Hp)(s:ak)(Q:VK)(u:ag)(s':ak):Prop:=∃v H',s'.os=s.os/\kf s'.gens/\Un (frs outer) [] H H' s.heap s'.heap/\cg P w H' s'.heap/\RelV v u/\Q v H'
def CR(CX:eK)(outer:List Env)(P:bb)(w:aT)(H:Hp)(s:ak)(Q:VK)(E:XK)(r:Result)(s':ak):Prop:=
 match r with
 |.ok (.ret u)=>CE outer P w H s Q u s'
 |.ok _=>False
 |.error e=>CX outer H s E e s'
structure bt(P:bb)(w:aT)(K:aB)(mg:Str->Option ag)(base:aI)(CX:eK)(k:Nat)(f:ah)(fd:bQ)(ps:List Str)(sp:Sp):Prop where
 len:∀vs H Q E,sp vs H Q E->vs.length=ps.length
 run:∀(A:br) (outer:List Env) (s:ak) (H:Hp) (args:Args) (us:List ag) (vs:List V) (Q:VK) (E:XK),dE k A->rX P w K mg base A outer s H->lb s fd args (ps.zip us)->Vals vs us->sp vs H Q E ->
  codeAny (model P w) A (.call (.ref f) args) (CR CX outer P w H s Q E) s
theorem bt.imp{P:bb}{w:aT}{K:aB}{mg:Str->Option ag}{base:aI}{CX:eK}{k:Nat}{f:ah}{fd:bQ}{ps:List Str}{sp sp':Sp}(F:bt P w K mg base CX k f fd ps sp)
 (h:∀vs H Q E,sp' vs H Q E->sp vs H Q E):bt P w K mg base CX k f fd ps sp':=
 ⟨λvs H Q E q=>F.len vs H Q E (h _ _ _ _ q),λA outer s H args us vs Q E hr he hb hv hs=>F.run A outer s H args us vs Q E hr he hb hv (h _ _ _ _ hs)⟩
section
variable{X:Cx}{af:List (ah×Obj)}{σ:St}{H:Hp}{s s':ak}
theorem Inv.env0(I:Inv X af σ H s):rX X.prog X.w X.K X.mg X.base X.A X.stack s H:=⟨I.ok.frames,I.ok.mod,I.bs,dQ I.ok.bsz I.sz,I.stack,I.A5,I.hok,I.bare⟩
theorem Inv.after{Q:VK}{u:ag}(I:Inv X af σ H s)(h:CE X.stack X.prog X.w H s Q u s'):EP X af σ Q u s':=by obtain⟨v,H',os,bare,un,hok,r,q⟩:=h;obtain⟨hh,g,d,t,os'⟩:=s';obtain rfl:os'=s.os:=os;exact⟨v,H',I.call (h':=hh) (g':=g) (d':=d) (t':=t) (ch:=[]) un hok bare (λb z=>absurd z (by simp)),r,q⟩
end
def lg(sp:Sp)(dvs:List V)(E:XK)(t:TA):TE:=λσ H Q=>t σ H λvs H1=>sp (vs++dvs) H1 Q E
def Binds(K:aB)(fd:bQ)(ps:List Str)(ds:List ag):Prop:=∀(s:ak) (us:List ag),K.In s.heap->(us++ds).length=ps.length->lb s fd ⟨us,[]⟩ (ps.zip (us++ds))
theorem Binds.all{K:aB}{fd:bQ}{ps:List Str}(h:∀us:List ag,us.length=ps.length->bindArgs fd ⟨us,[]⟩=pure (ps.zip us)):Binds K fd ps []:=λs us _ hl=>by
 rw[jt]at hl ⊢;exact .of_eq (h us hl)
def sI(CX:eK)(X:Cx)(E:XK):Prop:=∀(af:List (ah×Obj)) (σ:St) (H:Hp) (s:ak) (e:ag) (s':ak),Inv X af σ H s->CX X.stack H s E e s'->X.xe e s'
section
variable{X:Cx}{CX:eK}{k:Nat}{f C:ah}{fd:bQ}{ps:List Str}{sp:Sp}{dvs:List V}{ds:List ag}{E:XK}{x m:Str}{p pos apos:Pos}{e o:aO}{es:List aO}{ta:TE}{t:TA}
theorem Hw{af:List (ah×Obj)}{σ:St}{H:Hp}{s:ak}{Q:VK}{us:List ag}{vs:List V}(F:bt X.prog X.w X.K X.mg X.base CX k f fd ps sp)(hr:dE k X.A)(hb:Binds X.K fd ps ds)(hd:Vals dvs ds)(hx:sI CX X E)
 (I:Inv X af σ H s) (r:Vals vs us) (h:sp (vs++dvs) H Q E):wpAny (model X.prog X.w) X.A (call (.ref f) us) (EP X af σ Q) X.xe s:=by
 have r2:Vals (vs++dvs) (us++ds):=r.append hd;have hl:(us++ds).length=ps.length:=by rw[<- r2.length];exact F.len _ _ _ _ h
 refine wpAny_call (codeAny_mono (F.run X.A X.stack s H ⟨us,[]⟩ (us++ds) (vs++dvs) Q E hr I.env0 (hb s us I.eM hl) r2 h) λr s' hq=>?_);cases r with
 |error e=>exact hx af σ H s e s' I hq
 |ok fl=>
  cases fl with
  |ret u=>exact I.after hq
  |next=>exact jD hq
  |brk=>exact jD hq
  |cont=>exact jD hq
theorem FY(F:bt X.prog X.w X.K X.mg X.base CX k f fd ps sp)(hr:dE k X.A)(hg:Gl X x)(hm:X.mg x=ab (.ref f))(hk:nT X.K (.ref f)=true)(hb:Binds X.K fd ps ds)(hd:Vals dvs ds)(hx:sI CX X E)
 (ha:PA X (e::es) t) (hdb:(x==("__debug__" : Str))=false:=by decide) (he:starEach (e::es) X.env=(false,eval e X.env)::starEach es X.env:=by rfl) (hpl:(backTo pos (starEach es X.env)).any (·.1)=false:=by rfl) :
 PE X (.Call (.Name x p) (e::es) [] pos) (lg sp dvs E t):=by
 intro af s σ H Q I h;refine xh (Hq I hg hm ?_ hdb);refine PySem.W.callWith_K (h₀:=X.base) I.ok.mod.kin hk (aK (ha pos af s σ H _ I h) λus s1 ⟨vs,H1,I1,r,q⟩=>⟨I1.eM,?_⟩) he hpl;exact Hw F hr hb hd hx I1 r q
end
structure da(N P:List Str)(sc:fo):Prop where
 kind:sc.kind=.function
 co:sc.isCoroutine=false
 gen:sc.isGenerator=false
 nd:N.Nodup
 pre:N.take P.length=P
 par:∀x∈P,sc.names.lookup x=ab .local\/sc.names.lookup x=ab .cell
 Lb:∀y∈sc.names,y.2≠.free
theorem BR{kindOf:Str->Option k9}{x:Str}:∀{binds:List (Str×ag)} {m:Str->Option ag},(∀v,(x,v)∉binds)->bindL kindOf binds m x=m x
 |[],_,_=>rfl
 |(n,v)::r,m,h=>by
  unfold bindL;rw[BR λw hw=>h w (cm _ hw)];split
  ·have:x≠n:=by rintro rfl;exact h v cn
   simp[this]
  ·rfl
theorem yK{kindOf:Str->Option k9}{x:Str}:∀{binds:List (Str×ag)} {m:Str->Option ag},(∀v,(x,v)∉binds)->bindC kindOf binds m x=m x
 |[],_,_=>rfl
 |(n,v)::r,m,h=>by
  unfold bindC;rw[yK λw hw=>h w (cm _ hw)];split
  ·rfl
  ·have:x≠n:=by rintro rfl;exact h v cn
   simp[this]
theorem yT{kindOf:Str->Option k9}{x:Str}{v:ag}:∀{P:List Str} {vs:List ag} {i:Nat} {m:Str->Option ag},P.Nodup->P[i]? = ab x->vs[i]? = ab v->kindOf x=ab .local ->
 bindL kindOf (P.zip vs) m x=ab v
 |[],_,_,_,_,h,_,_=>by simp at h
 |_::_,[],_,_,_,_,h,_=>by simp at h
 |p::P,w::vs,0,m,nd,h1,h2,hk=>by
  simp at h1 h2;subst h1;subst h2;show bindL kindOf ((p,w)::P.zip vs) m p=_;unfold bindL;rw[BR λv hv=>(ik.mp nd).1 (xb hv).1,aw hk];simp
 |p::P,w::vs,i+1,m,nd,h1,h2,hk=>by
  show bindL kindOf ((p,w)::P.zip vs) m x=_;unfold bindL;exact yT (i:=i) (ik.mp nd).2 (by simpa using h1) (by simpa using h2) hk
theorem Bj{kindOf:Str->Option k9}{x:Str}{v:ag}:∀{P:List Str} {vs:List ag} {i:Nat} {m:Str->Option ag},P.Nodup->P[i]? = ab x->vs[i]? = ab v->kindOf x≠ab .local ->
 bindC kindOf (P.zip vs) m x=ab v
 |[],_,_,_,_,h,_,_=>by simp at h
 |_::_,[],_,_,_,_,h,_=>by simp at h
 |p::P,w::vs,0,m,nd,h1,h2,hk=>by
  simp at h1 h2;subst h1;subst h2;show bindC kindOf ((p,w)::P.zip vs) m p=_;unfold bindC;rw[yK λv hv=>(ik.mp nd).1 (xb hv).1,ay hk];simp
 |p::P,w::vs,i+1,m,nd,h1,h2,hk=>by
  show bindC kindOf ((p,w)::P.zip vs) m x=_;unfold bindC;exact Bj (i:=i) (ik.mp nd).2 (by simpa using h1) (by simpa using h2) hk
def start(N:List Str)(vs:List V):St:=vs.map ab++dm (N.length-vs.length) ae
def kL(CX:eK)(P:bb)(w:aT)(K:aB)(mg:Str->Option ag)(base:aI)(N:List Str)(qual:Str)(scope:fo)(f:ah)(cd:ag)(A:br)(outer:List Env)(s:ak)(H:Hp)(E:XK):Cx where
 prog:=P
 w:=w
 K:=K
 mg:=mg
 base:=base
 A:=A.deeper (envOfC qual scope s.heap.objs.size f cd)
 N:=N
 s₀:=s
 H₀:=H
 env:=envOfC qual scope s.heap.objs.size f cd
 outer:=outer
 stack:=envOfC qual scope s.heap.objs.size f cd::outer
 ex:=[]
 calm:=true
 fn:=λ_=>true
 pn:=[]
 xe:=λe s'=>wpAny (model P w) (A.deeper (envOfC qual scope s.heap.objs.size f cd)) (leaving (envOfC qual scope s.heap.objs.size f cd) e) (λ_ s''=>CX outer H s E e s'') (λe' s''=>CX outer H s E e' s'') s'
theorem zA{sc:fo}{n:Nat}{x:Str}(h:sc.names.lookup x=ab .cell):∃c,(cellsFrom n sc.names []).lookup x=ab c:=by have q:=Dx sc.names n [] (.inl h);exact Option.isSome_iff_exists.mp q
theorem Fd{CX:eK}{P:bb}{w:aT}{K:aB}{mg:Str->Option ag}{base:aI}{N ps:List Str}{qual:Str}{scope:fo}{f:ah}{cd:ag}{A:br}{outer:List Env}{s s1:ak}{H:Hp}{E:XK}{us:List ag}{vs:List V}
 (S:da N ps scope) (hd:A.handled=ae) (e0:rX P w K mg base A outer s H) (hl:vs.length=ps.length) (r:Vals vs us)
 (x:InCallC s s.heap.objs.size (bindL (envOfC qual scope s.heap.objs.size f cd).kindOf (ps.zip us) λ_=>ae) (cellsFrom (s.heap.objs.size+1) scope.names []) (bindC (envOfC qual scope s.heap.objs.size f cd).kindOf (ps.zip us) λ_=>ae) s1) :
 Inv (kL CX P w K mg base N qual scope f cd A outer s H E) [] (start N vs) H s1:=by
 have hpl:ps.length<=N.length:=by have:=congrArg qr S.pre;rw[cF]at this;omega
 obtain⟨h1,tk,rfl,hk⟩:=x.done;have noA:∀b:ah,b∉(kL CX P w K mg base N qual scope f cd A outer s H E).ex:=λb z=>absurd (show b∈([]:List ah)from z) (by simp);refine⟨⟨e0.mod,S.kind,rfl,rfl,bg _,λy z c h1 h2=>?_,λy hy=>?_,λy c _ h=>?_,λ_=>hd,Around.frames_deeper e0.frames,.inr ⟨rfl,rfl⟩,λb z=>absurd z (noA b),e0.bs,e0.bsz,λb _ _=>noA b,λb z=>absurd z (noA b),e0.iG,e0.frf⟩,
  rfl,e0.bare,Un.kept hk,⟨_,x.toInCall.ns,λi y v h1 h2 h3=>?_⟩,λy c h=>⟨_,x.cell y c h⟩,e0.hok.fresh (bg _),λy c h=>?_,λp hp=>absurd (show p∈([]:List (ah×Obj))from hp) (by simp),e0.hok.kept hk,?_⟩
 ·exact name_of_addr x.apart (qt h1) (qt h2)
 ·have hy:scope.names.lookup y=ab .cell\/scope.names.lookup y=ab .free:=hy;rcases hy with hy|hy
  ·exact zA hy
  ·exact absurd rfl (S.Lb _ (qt hy))
 ·exact xu (x.above y c (qt h))
 ·have hi:i<vs.length:=by
   unfold start at h2;by_cases hi:i<vs.length
   ·exact hi
   ·rw[j4 (by simpa using hi)]at h2;rw[DK]at h2;split at h2<;>cases h2
  have ha:vs[i]? = ab v:=by
   unfold start at h2;rw[l7 (by simpa using hi),de]at h2;cases e:vs[i]? with
   |none=>rw[e]at h2;cases h2
   |some a=>rw[e]at h2;cases h2;rfl
  obtain⟨u,hu,rv⟩:=r.get ha;have hp:ps[i]? = ab y:=by rw[<- S.pre,ma (by omega)];exact h1
  have ndP:ps.Nodup:=by rw[<- S.pre];exact S.nd.sublist (List.take_sublist _ _)
  refine⟨u,rv,?_⟩;rcases S.par y (iT hp)with k|k
  ·exact .inl ⟨k,yT ndP hp hu k⟩
  ·obtain⟨c,e⟩:=zA (n:=s.heap.objs.size+1) k;refine .inr ⟨.inl k,c,e,?_⟩;have q:=x.cell y c e;rw[Bj ndP hp hu (by show scope.names.lookup y≠_;rw[k];decide)]at q;exact q
 ·exact e0.hok.fresh (xu (x.above y c (qt h)))
 ·unfold start;show _=N.length;rw[bA,aS,wX];omega
theorem HG{CX:eK}{P:bb}{w:aT}{K:aB}{mg:Str->Option ag}{base:aI}{k:Nat}{f:ah}{name qual:Str}{params:Arguments}{body:List bC}{scope:fo}{dV kV doc pm cdv ct oc:ag}{an od:Option ah}
 {osl:Array (Option ag)} {N ps:List Str} {sp:Sp} (lk:K.lookup f=ab ⟨oc,od,.func (kZ name qual params body scope dV kV doc pm an cdv ct),osl⟩) (hcd:sX K cdv qual=true) (S:da N ps scope)
 (len:∀vs H Q E,sp vs H Q E->vs.length=ps.length)
 (hbody:∀(A:br) (outer:List Env) (s:ak) (H:Hp) (vs:List V) (Q:VK) (E:XK),dE k (A.deeper (envOfC qual scope s.heap.objs.size f cdv))->sp vs H Q E ->
  ∃t,gf (kL CX P w K mg base N qual scope f cdv A outer s H E) body t/\t { nx:=λ_ H'=>Q .non H',rt:=Q } (start N vs) H) :
 bt P w K mg base CX (k+1) f (kZ name qual params body scope dV kV doc pm an cdv ct) ps sp:=by
 refine⟨len,λA outer s H args us vs Q E hr e0 hb r hsp=>?_⟩;have hl:=len _ _ _ _ hsp;have KX:K.In s.heap:=e0.mod.kin.keeps λb o e=>(e0.bs b o e).1;have lim:s.heap.NoLimit:=e0.mod.nolimit.keeps λb o e=>(e0.bs b o e).1;have hkind:∀y∈ps.zip us,scope.names.lookup y.1=ab .local\/(scope.names.lookup y.1=ab .cell/\((cellsFrom (s.heap.objs.size+1) scope.names []).lookup y.1).isSome=true):=λ⟨n,v⟩ hy=>by
  rcases S.par n (xb hy).1 with q|q
  ·exact .inl q
  ·exact .inr ⟨q,Dx _ _ _ (.inl q)⟩
 refine codeAny_call_function hr.depth (KX _ _ lk) rfl S.co S.gen rfl (PySem.W.codeRec_of KX hcd) (hb _ _ _ _ ?_);refine wpAny_newFunctionEnv_cells S.kind hkind λenv he s1 x=>?_;subst he;refine⟨lim.keeps x.toInCall.keep,codeAny_func ?_⟩;obtain⟨t,ht,hq⟩:=hbody A outer s H vs Q E (hr.deeper _) hsp;have I:Inv (kL CX P w K mg base N qual scope f cdv A outer s H E) [] (start N vs) H s1:=Fd S hr.hd e0 hl r x;refine gv (ht [] s1 (start N vs) H _ I hq) (λfl s' hs=>?_) λe s' hs=>hs;have fin:∀{σ':St} {H':Hp} {v:V} {u:ag},Inv (kL CX P w K mg base N qual scope f cdv A outer s H E) [] σ' H' s'->RelV v u->Q v H'->CE outer P w H s Q u s':=
  λ{σ' H' v u} J rv q=>⟨v,H',J.os,J.bare,J.base,J.hok,rv,q⟩
 cases fl with
 |ret u=>
  obtain⟨v,σ',H',J,rv,q⟩:=hs;exact fin J rv q
 |next=>
  obtain⟨σ',H',J,q⟩:=hs;exact fin (v:=V.non) (u:=dR) J rfl q
 |brk=>
  obtain⟨_,_,_,q⟩:=hs;exact jD q
 |cont=>
  obtain⟨_,_,_,q⟩:=hs;exact jD q
section
variable{X:Cx}{x:Str}{p pos:Pos}{e:aO}{es:List aO}{t:TA}{id T:String}{r:List V->Hp->VK->Prop}
def pV(r:List V->Hp->VK->Prop)(t:TA):TE:=λσ H Q=>t σ H λvs H1=>r vs H1 Q
theorem dq(hc:fc X (.builtin id) r)(hg:Gl X x)(hm:X.mg x=ae)(hv:bootBuiltins x=ab (.builtin id))(ha:PA X (e::es) t)(hn:x ≠ "__name__" := by decide)(hdb:(x==("__debug__" : Str))=false:=by decide)
 (he:starEach (e::es) X.env=(false,eval e X.env)::starEach es X.env:=by rfl) (hpl:(backTo pos (starEach es X.env)).any (·.1)=false:=by rfl):PE X (.Call (.Name x p) (e::es) [] pos) (pV r t):=by
 intro af s σ H Q I h;refine xh (mJ I hg hm hv ?_ hn hdb);exact PyProof.Rows.callWith_builtin1 (aK (ha pos af s σ H _ I h) λus s1 ⟨vs,H1,I1,r1,q1⟩=>hc af s1 σ H1 vs us Q I1 r1 q1) he hpl
theorem u6(hc:fc X (.type T) r)(hg:Gl X x)(hm:X.mg x=ae)(hv:bootBuiltins x=ab (.type T))(ha:PA X (e::es) t)(hn:x ≠ "__name__" := by decide)(hdb:(x==("__debug__" : Str))=false:=by decide)
 (he:starEach (e::es) X.env=(false,eval e X.env)::starEach es X.env:=by rfl) (hpl:(backTo pos (starEach es X.env)).any (·.1)=false:=by rfl):PE X (.Call (.Name x p) (e::es) [] pos) (pV r t):=by
 intro af s σ H Q I h;refine xh (mJ I hg hm hv ?_ hn hdb);exact tV (aK (ha pos af s σ H _ I h) λus s1 ⟨vs,H1,I1,r1,q1⟩=>hc af s1 σ H1 vs us Q I1 r1 q1) he hpl
end
end L2
namespace HT
open PySem PyProof.Rows
section
variable{prog:bb}{w:aT}{A:br}{E:ag->ak->Prop}{s:ak}
def cz(n d:Nat):Option Int->Nat
 |none=>d
 |some v=>if v<0 then(v+(n:Int)).toNat else min v.toNat n
theorem Aw(n d:Nat)(hd:d<=n)(o:Option Int):cz n d o<=n:=by
 cases o with
 |none=>exact hd
 |some v=>
  show(if v<0 then(v+(n:Int)).toNat else min v.toNat n)<=n;by_cases hv:v<0
  ·rw[aw hv];omega
  ·rw[ay hv];exact Nat.min_le_right _ _
end
end HT
namespace L2
open PySem PySem.Spec PyProof.Rows
abbrev TO:=St->Hp->(Option Int->Hp->Prop)->Prop
def PO(X:Cx)(e:Option aO)(t:TO):Prop:=
 ∀(af:List (ah×Obj)) (s:ak) (σ:St) (H:Hp) (Q:Option Int->Hp->Prop),Inv X af σ H s->t σ H Q ->
  wpAny (model X.prog X.w) X.A (evalPart e X.env) (λu s'=>∃o H',Inv X af σ H' s'/\IsPart u o/\Q o H') X.xe s
def BK:TO:=λ_ H Q=>Q ae H
def C3(t:TE):TO:=λσ H Q=>t σ H λx H1=>∃i,x=.int i/\Q (ab i) H1
section
variable{X:Cx}{e:aO}{te:TE}{lo hi:Option aO}{tl th:TO}{pos p2:Pos}
theorem oY:PO X ae BK:=by intro af s σ H Q I h;rw[evalPart_none];exact bo ⟨ae,H,I,.none,h⟩
theorem lw(h:PE X e te):PO X (ab e) (C3 te):=by intro af s σ H Q I hw;rw[evalPart_some];refine aK (h af s σ H _ I hw) λu s1 ⟨x,H1,I1,r1,q1⟩=>?_;obtain⟨i,rfl,q⟩:=q1;obtain⟨t,rfl⟩:=r1;exact⟨ab i,H1,I1,.int i t,q⟩
def kS(X:Cx)(r:V->Option Int->Option Int->Hp->VK->Prop):Prop:=
 ∀(af:List (ah×Obj)) (s:ak) (σ:St) (H:Hp) (x:V) (v vl vu:ag) (lo hi:Option Int) (sl:ah) (Q:VK),Inv X af σ H s->RelV x v->s.heap.IsSliceOf sl vl vu .none->IsPart vl lo->IsPart vu hi->r x lo hi H Q ->
  ∃T id,typeLookup (.type T) "__getitem__" = pure (ab (.builtin id))/\s.TypeIs v T/\wpAny (model X.prog X.w) X.A (getItem v (.ref sl)) (EP X af σ Q) X.xe s
theorem kS.or{r r':V->Option Int->Option Int->Hp->VK->Prop}(h:kS X r)(h':kS X r'):kS X (λx lo hi H Q=>r x lo hi H Q\/r' x lo hi H Q):=by
 intro af s σ H x v vl vu lo hi sl Q I rx hs pl pu q;rcases q with q|q
 ·exact h af s σ H x v vl vu lo hi sl Q I rx hs pl pu q
 ·exact h' af s σ H x v vl vu lo hi sl Q I rx hs pl pu q
def Bq(r:V->Option Int->Option Int->Hp->VK->Prop)(te:TE)(tl th:TO):TE:=λσ H Q=>te σ H λx H1=>tl σ H1 λl H2=>th σ H2 λu H3=>r x l u H3 Q
theorem nh{r:V->Option Int->Option Int->Hp->VK->Prop}(hr:kS X r)(he:PE X e te)(hl:PO X lo tl)(hu:PO X hi th):PE X (.Subscript e (.Slice lo hi ae p2) pos) (Bq r te tl th):=by intro af s σ H Q I h;refine Subscript_ (aK (he af s σ H _ I h) λv s1 ⟨x,H1,I1,r1,q1⟩=>?_);refine wpAny_Slice (aK (hl af s1 σ H1 _ I1 q1) λvl s2 ⟨l,H2,I2,pl,q2⟩=>aK (hu af s2 σ H2 _ I2 q2) λvu s3 ⟨u,H3,I3,pu,q3⟩=>?_);rw[evalPart_none];refine bo ?_;have I4:Inv X af σ H3 { s3 with heap:=s3.heap.push { cls:=.type "slice",data:=.fields #[vl,vu,.none] } }:=I3.kept (t':=s3.toks) λb ob q=>cG _ q;obtain⟨T,id,hT,ht,hg⟩:=hr af { s3 with heap:=s3.heap.push { cls:=.type "slice",data:=.fields #[vl,vu,.none] } } σ H3 x v vl vu l u s3.heap.objs.size Q I4 r1 (Heap.IsSliceOf.new ..) pl pu q3;show wpAny (model X.prog X.w) X.A (subscriptTail e (.Slice lo hi ae p2) v (.ref s3.heap.objs.size)) (EP X af σ Q) X.xe { s3 with heap:=s3.heap.push { cls:=.type "slice", data:=.fields #[vl,vu,.none] } };exact tail_any (ops:=[.ref s3.heap.objs.size,v]) ht hT hg (by with_unfolding_all rfl)
def nJ(xs:List V)(lo hi:Option Int):List V:=(xs.drop (HT.cz xs.length 0 lo)).take (HT.cz xs.length xs.length hi-HT.cz xs.length 0 lo)
theorem Ko(xs:List V)(lo hi:Option Int):(nJ xs lo hi).length<=xs.length:=by unfold nJ;rw[cF,eW];omega
end
def dj(n:Nat)(i:Int):Option Nat:=if 0<=i then(if i<n then ab i.toNat else ae)else if -(n:Int)<=i then ab (i+n).toNat else ae
def cJ{α:Type}(xs:List α)(i:Int):Option α:=(dj xs.length i).bind λj=>xs[j]?
theorem Az{n:Nat}{i:Int}{j:Nat}(h:dj n i=ab j):seqIndex? i n=ab j/\j<n/\-(n:Int)<=i/\i<n:=by
 unfold dj at h;by_cases h0:0<=i
 ·rw[aw h0]at h;by_cases h1:i<n
  ·rw[aw h1]at h;have e:i.toNat=j:=eZ h;exact⟨by rw[tK h0 h1,e],by omega,by omega,h1⟩
  ·rw[ay h1]at h;cases h
 ·rw[ay h0]at h;by_cases h1:-(n:Int)<=i
  ·rw[aw h1]at h;have e:(i+n).toNat=j:=eZ h;exact⟨by rw[tJ (by omega) h1,e],by omega,h1,by omega⟩
  ·rw[ay h1]at h;cases h
theorem vk{α:Type}{xs:List α}{i:Int}{v:α}(h:cJ xs i=ab v):∃j,seqIndex? i xs.length=ab j/\xs[j]? = ab v/\j<xs.length/\-(xs.length:Int)<=i/\i<xs.length:=by
 unfold cJ at h;cases e:dj xs.length i with
 |none=>rw[e]at h;cases h
 |some j=>
  rw[e]at h;obtain⟨h1,h2,h3,h4⟩:=Az e;exact⟨j,h1,h,h2,h3,h4⟩
def zg(b:aO):Prop:=∀o i,subscripted b false o i=operate [o,i] (getItem o i)
def jY(X:Cx)(r:R2):Prop:=
 ∀(value slice:aO) (af:List (ah×Obj)) (s:ak) (σ:St) (H:Hp) (x y:V) (v u:ag) (Q:VK),Inv X af σ H s->RelV x v->RelV y u->r x y H Q ->
  subscripted slice false v u=operate [v,u] (getItem v u)->wpAny (model X.prog X.w) X.A (subscriptTail value slice v u) (EP X af σ Q) X.xe s
def j3(X:Cx)(id:String)(r:V->List V->Hp->VK->Prop):Prop:=
 ∀(af:List (ah×Obj)) (s:ak) (σ:St) (H:Hp) (x:V) (xs:List V) (v:ag) (us:List ag) (Q:VK),Inv X af σ H s->RelV x v->Vals xs us->r x xs H Q ->
  wpAny (model X.prog X.w) X.A (call (.builtin id) (v::us)) (EP X af σ Q) X.xe s
section
variable{X:Cx}{a b:aO}{ta tb:TE}{pos:Pos}
theorem jY.or{r r':R2}(h:jY X r)(h':jY X r'):jY X (λx y H Q=>r x y H Q\/r' x y H Q):=by
 intro value slice af s σ H x y v u Q I rx ry q hs;rcases q with q|q
 ·exact h value slice af s σ H x y v u Q I rx ry q hs
 ·exact h' value slice af s σ H x y v u Q I rx ry q hs
theorem Cc{r:R2}(hr:jY X r)(ha:PE X a ta)(hb:PE X b tb)(hs:zg b):PE X (.Subscript a b pos) (nL r ta tb):=by intro af s σ H Q I h;exact Subscript_ (vY ha hb I h λv u s2 x y H2 I2 rx ry q=>hr a b af s2 σ H2 x y v u Q I2 rx ry q (hs _ _))
def y1(K:aB):R2:=λx y H Q=>∃p xs i v,x=.ref p/\y=.int i/\cy K H p xs/\cJ xs i=ab v/\Q v H
def BE(K:aB):R2:=λx y H Q=>∃p xs i v,x=.ref p/\y=.int i/\ee K H p xs/\cJ xs i=ab v/\Q v H
def Df:R2:=λx y H Q=>∃z i c,x=.str z/\y=.int i/\z.length<=sizeLine/\cJ z.cps.toList i=ab c/\Q (.str ⟨#[c]⟩) H
theorem Jt:jY X (y1 X.K):=by
 intro value slice af s σ H x y v u Q I rx ry h hs;obtain⟨p,xs,i,z,rfl,rfl,hq,he,q⟩:=h;cases rx;obtain⟨t,rfl⟩:=ry;obtain⟨ai,r,pl,hz⟩:=I.list hq;obtain⟨j,h1,h2,h3,h4,h5⟩:=vk he;obtain⟨w,ew,rw'⟩:=r.get h2;have hl:=r.length;have hn:=pk;have fin:EP X af σ Q w s:=⟨z,H,I,rw',q⟩;by_cases h0:0<=i
 ·have hj:i.toNat=j:=by
   rw[tK h0 h5]at h1;exact eZ h1
  exact item_listR pl.isList h0 (by omega) (by rw[hj];simpa using ew) fin hs
 ·have hj:(i+(ai.toArray.size:Int)).toNat=j:=by
   rw[tJ (by omega) h4]at h1;rw[bF,<- hl];exact eZ h1
  exact Ej (x:=w) pl.isList.typeIs slot_list_getitem.lookup
   (wpAny_getItem_list_neg (Q:=λr s'=>r=w/\EP X af σ Q r s') pl.isList (by omega) (by rw[bF]<;>omega) (by omega) (by rw[hj];simpa using ew) ⟨rfl,fin⟩) hs
theorem GG:jY X (BE X.K):=by
 intro value slice af s σ H x y v u Q I rx ry h hs;obtain⟨p,xs,i,z,rfl,rfl,hq,he,q⟩:=h;cases rx;obtain⟨t,rfl⟩:=ry;obtain⟨ai,r,pl,hz⟩:=I.tuple hq;obtain⟨j,h1,h2,h3,h4,h5⟩:=vk he;obtain⟨w,ew,rw'⟩:=r.get h2;have hl:=r.length;have hn:=pk;have fin:EP X af σ Q w s:=⟨z,H,I,rw',q⟩;exact Ej (x:=w) pl.typeIs slot_tuple_getitem.lookup
  (getItem_tuple (j:=j) (Q:=λr s'=>r=w/\EP X af σ Q r s') pl (by omega) (by omega) (by rw[bF,<- hl];exact h1) (by simpa using ew) ⟨rfl,fin⟩) hs
theorem Kw:jY X Df:=by
 intro value slice af s σ H x y v u Q I rx ry h hs;obtain⟨z,i,c,rfl,rfl,hz,he,q⟩:=h;obtain⟨t,rfl⟩:=rx;obtain⟨t',rfl⟩:=ry;obtain⟨j,h1,h2,h3,h4,h5⟩:=vk he;have hl:z.cps.toList.length=z.length:=by simp[mz]
 rw[hl]at h1 h4 h5;have hn:=pk;exact tail_any (typeIs_str s z t) slot_str_getitem.lookup (getItem_str (c:=c) (by
  have e1:decide (i < -(2 ^ 63:Int))=false:=bw (by omega);have e2:decide (i >= 2 ^ 63)=false:=bw (by omega);rw[e1,e2,Bool.or_false]) (by rw[h1];simpa using h2) ⟨.str ⟨#[c]⟩,H,I.tok _,⟨_,rfl⟩,q⟩) hs
def uT(K:aB):R2:=λx y H Q=>y1 K x y H Q\/BE K x y H Q\/Df x y H Q
theorem CO:jY X (uT X.K):=Jt.or (GG.or Kw)
theorem Gc(ai:List ag)(n j:Nat)(u:ag):gR (·.setIfInBounds j u) { cls:=.type "list",data:=.seq ai.toArray n }={ cls:=.type "list", data:=.seq (ai.set j u).toArray n }:=by simp[gR]
theorem Inv.lst{af:List (ah×Obj)}{σ:St}{H:Hp}{s:ak}{p:ah}{xs:List V}(I:Inv X af σ H s)(h:H p=ab (.lst xs)) :
 ∃(ai:List ag) (n:Nat),Vals xs ai/\s.heap.get? p=ab { cls:=.type "list", data:=.seq ai.toArray n }/\xs.length<=sizeLine:=by
 obtain⟨z,ai,n,r,e⟩:=I.hok p _ h;exact⟨ai,n,r,e,z⟩
theorem Inv.Fu{af:List (ah×Obj)}{σ:St}{H:Hp}{s:ak}{p:ah}{xs ys:List V}{ai its':List ag}{n n':Nat}{f:Obj->Obj}(I:Inv X af σ H s)(h:H p=ab (.lst xs))
 (ho:s.heap.get? p=ab { cls:=.type "list",data:=.seq ai.toArray n }) (hf:f { cls:=.type "list",data:=.seq ai.toArray n }={ cls:=.type "list", data:=.seq its'.toArray n' }) (r:Vals ys its') (hz:ys.length<=sizeLine) (t:Nat) :
 Inv X af σ (upd H p (.lst ys)) { s with heap:=s.heap.update p f,toks:=t }:=by
 have e:(s.heap.update p f).get? p=ab { cls:=.type "list", data:=.seq its'.toArray n' }:=by rw[xq f ho (by rw[hf]<;>rfl),hf]
 refine I.write (x:=p) (e:=p) (by rw[h];trivial) (.inl rfl) (λb u hb q=>(D2 _ _ (dI hb)).trans q) ⟨_,e⟩ ?_;exact⟨hz,its',n',r,e⟩
def yE:V->V->V->Hp->(Hp->Prop)->Prop:=λo i v H Q=>∃p xs k j,o=.ref p/\i=.int k/\H p=ab (.lst xs)/\dj xs.length k=ab j/\Q (upd H p (.lst (xs.set j v)))
theorem set_list:Cp X yE:=by
 intro af s σ H o i v ov iv u Q I ro ri rv h;obtain⟨p,xs,k,j,rfl,rfl,hp,hj,q⟩:=h;cases ro;obtain⟨t,rfl⟩:=ri;obtain⟨ai,n,r,ho,hz⟩:=I.lst hp;obtain⟨h1,h2,h3,h4⟩:=Az hj;have hl:=r.length;have hn:=pk;have I':Inv X af σ (upd H p (.lst (xs.set j v))) { s with heap:=s.heap.update p (gR (·.setIfInBounds j u)) }:=
  I.Fu hp ho (Gc ai n j u) (r.set rv j) (by rw[f8];exact hz) s.toks
 by_cases h0:0<=k
 ·have hk:k.toNat=j:=by
   rw[tK h0 h4]at h1;exact eZ h1
  exact PySem.W.ki_setAt ho h0 (by omega) (by rw[bF,<- hl];exact h4) (by rw[hk];exact⟨_,I',q⟩)
 ·have hk:(k+(ai.toArray.size:Int)).toNat=j:=by
   rw[tJ (by omega) h3]at h1;rw[bF,<- hl];exact eZ h1
  exact PySem.W.ki_setBack ho (by omega) (by rw[bF,<- hl];exact h3) (by omega) (by rw[hk];exact⟨_,I',q⟩)
theorem FG(lo hi:Option Int)(n:Nat):(sliceBounds lo hi ae n).1=((HT.cz n 0 lo:Nat):Int)/\(sliceBounds lo hi ae n).2.1=((HT.cz n n hi:Nat):Int)/\(sliceBounds lo hi ae n).2.2=1:=by
 refine⟨?_,?_,rfl⟩
 ·cases lo with
  |none=>simp[sliceBounds,HT.cz]
  |some i=>
   simp only[sliceBounds,HT.cz,D7,show(1:Int)>0 by decide,gN];by_cases h:i<0
   ·simp only[h,gN]<;>omega
   ·simp only[h,fO]<;>omega
 ·cases hi with
  |none=>simp[sliceBounds,HT.cz]
  |some i=>
   simp only[sliceBounds,HT.cz,D7,show(1:Int)>0 by decide,gN];by_cases h:i<0
   ·simp only[h,gN]<;>omega
   ·simp only[h,fO]<;>omega
theorem Iw(ai:List ag)(lo hi:Option Int):slicePick ai.toArray lo hi ae=((ai.drop (HT.cz ai.length 0 lo)).take (HT.cz ai.length ai.length hi-HT.cz ai.length 0 lo)).toArray:=by obtain⟨h1,h2,h3⟩:=FG lo hi ai.toArray.size;unfold slicePick;rw[h1,h2,h3];simp only[sliceRange_one,pick_run,bF]<;>rfl
def Ad(K:aB):V->Option Int->Option Int->Hp->VK->Prop:=λx lo hi H Q=>∃a xs,x=.ref a/\cy K H a xs/\∀p,H p=ae->Q (.ref p) (upd H p (.lst (nJ xs lo hi)))
theorem Kh:kS X (Ad X.K):=by intro af s σ H x v vl vu lo hi sl Q I rx hs pl pu h;obtain⟨a,xs,rfl,hx,q⟩:=h;cases rx;obtain⟨ai,r,ht,hz⟩:=I.list hx;have hlen:=r.length;refine⟨"list", _,slot_list_getitem.lookup,ht.isList.typeIs,?_⟩;refine wpAny_getItem_list_slice ht.isList hs pl pu .none (by simp) ?_ (by rw[bF]<;>omega);rw[Iw,<- hlen];refine⟨.ref s.heap.objs.size,_,I.laid (t':=s.toks) (o:=.lst (nJ xs lo hi)) (λb ob q=>cG _ q) (bg _) ?_,rfl,q _ (I.hok.fresh (bg _))⟩;exact⟨dQ (Ko xs lo hi) hz,_,0,(r.drop (HT.cz xs.length 0 lo)).take (HT.cz xs.length xs.length hi-HT.cz xs.length 0 lo),d9 _ rfl⟩
def vt:V->Bool
 |.non=>true
 |.bl _=>true
 |.int _=>true
 |.str _=>true
 |_=>false
def Ax:V->V->Bool
 |.non,.non=>true
 |.bl a,.bl b=>a==b
 |.bl a,.int b=>(if a then 1 else 0)==b
 |.int a,.bl b=>a==(if b then 1 else 0)
 |.int a,.int b=>a==b
 |.str a,.str b=>a==b
 |_,_=>false
theorem IL{A:br}{s:ak}{y x:V}{u v:ag}(ry:RelV y u)(rx:RelV x v)(fy:vt y=true)(fx:vt x=true):SeqAt.EqAt A s u v (Ax y x):=by
 cases y with
 |non=>
  cases ry;cases x with
  |non=>cases rx;exact SeqAt.EqAt.same _
  |bl b=>cases rx;exact SeqAt.EqAt.none_bool b
  |int b=>obtain⟨t,rfl⟩:=rx;exact SeqAt.EqAt.none_int b t
  |str b=>obtain⟨t,rfl⟩:=rx;exact SeqAt.EqAt.none_str b t
  |_=>exact absurd (show false=true from fx) cN
 |bl a=>
  cases ry;cases x with
  |non=>cases rx;exact SeqAt.EqAt.bool_none a
  |bl b=>cases rx;exact Ev a b
  |int b=>obtain⟨t,rfl⟩:=rx;exact SeqAt.EqAt.bool_int a b t
  |str b=>obtain⟨t,rfl⟩:=rx;exact Ew a b t
  |_=>exact absurd (show false=true from fx) cN
 |int a=>
  obtain⟨t',rfl⟩:=ry;cases x with
  |non=>cases rx;exact SeqAt.EqAt.int_none a t'
  |bl b=>cases rx;exact SeqAt.EqAt.int_bool a t' b
  |int b=>obtain⟨t,rfl⟩:=rx;exact SeqAt.EqAt.int_int a t' b t
  |str b=>obtain⟨t,rfl⟩:=rx;exact SeqAt.EqAt.int_str a t' b t
  |_=>exact absurd (show false=true from fx) cN
 |str a=>
  obtain⟨t',rfl⟩:=ry;cases x with
  |non=>cases rx;exact SeqAt.EqAt.str_none a t'
  |bl b=>cases rx;exact Ey a t' b
  |int b=>obtain⟨t,rfl⟩:=rx;exact SeqAt.EqAt.str_int a t' b t
  |str b=>obtain⟨t,rfl⟩:=rx;exact SeqAt.EqAt.str_str a t' b t
  |_=>exact absurd (show false=true from fx) cN
 |_=>exact absurd (show false=true from fy) cN
theorem Ks:fc X (.type "list") (λxs H Q=>∃p ys,xs=[.ref p]/\(cy X.K H p ys\/ee X.K H p ys)/\∀l,H l=ae->Q (.ref l) (upd H l (.lst ys))):=by
 intro af s σ H xs us Q I r h;obtain⟨p,ys,rfl,hq,q⟩:=h;obtain⟨u,rfl,rx⟩:=vals1 r;cases rx;have fin:∀(ai:List ag),Vals ys ai->ys.length<=sizeLine->∀(h':aI) (c':Nat),(∀b o',s.heap.get? b=ab o'->h'.get? b=ab o') ->
  h'.get? s.heap.objs.size=ab { cls:=.type "list", dict:=ae,data:=.seq ai.toArray c',slots:=#[] }->EP X af σ Q (.ref s.heap.objs.size) { s with heap:=h' }:=λai r' hz h' c' kp e=>
  ⟨.ref s.heap.objs.size,_,I.laid (t':=s.toks) kp (bg _) (show bN X.prog X.w _ h' _ (.lst ys)from⟨hz,ai,c',r',e⟩),rfl,q _ (I.hok.fresh (bg _))⟩
 rcases hq with hq|hq
 ·obtain⟨ai,r',pl,hz⟩:=I.list hq;have hlen:=r'.length;obtain⟨o,ho,hc,n,hd⟩:=pl.isList;exact call_list_seq p (.inl rfl) ho hc hd (λh' c' kp e=>fin ai r' hz h' c' kp e) (by simp only[bF]<;>omega)
 ·obtain⟨ai,r',pl,hz⟩:=I.tuple hq;have hlen:=r'.length;obtain⟨o,ho,hc,n,hd⟩:=pl;exact call_list_seq p (.inr rfl) ho hc hd (λh' c' kp e=>fin ai r' hz h' c' kp e) (by simp only[bF]<;>omega)
theorem Fy:fc X (.type "tuple") (λxs H Q=>∃p ys,xs=[.ref p]/\((cy X.K H p ys/\∀l,H l=ae->Q (.ref l) (upd H l (.tup ys)))\/(ee X.K H p ys/\Q (.ref p) H))):=by
 intro af s σ H xs us Q I r h;obtain⟨p,ys,rfl,h⟩:=h;obtain⟨u,rfl,rx⟩:=vals1 r;cases rx;rcases h with ⟨hq,q⟩|⟨hq,q⟩
 ·obtain⟨ai,r',pl,hz⟩:=I.list hq;have hlen:=r'.length;refine call_tuple_list pl.isList (λh' kp=>?_) (by simp only[bF]<;>omega);have I1:Inv X af σ H { s with heap:=h' }:=I.kept (t':=s.toks) kp;have I2:Inv X af σ (upd H h'.objs.size (.tup ys)) { s with heap:=h'.push { cls:=.type "tuple", data:=.seq ai.toArray } }:=
   I1.laid (t':=s.toks) (λb o e=>cG _ e) (bg _) (show bN X.prog X.w _ _ _ (.tup ys)from⟨hz,ai,r',mK.new _ _⟩)
  exact⟨.ref h'.objs.size,_,I2,rfl,q _ (I1.hok.fresh (bg _))⟩
 ·obtain⟨ai,r',pl,hz⟩:=I.tuple hq;exact call_tuple_same pl ⟨.ref p,H,I,rfl,q⟩
def q9(K:aB)(T:String)(x:V)(H:Hp):Prop:=match x with
 |.str _=>T = "str"
 |.int _=>T = "int"
 | .ref p=>(T = "list" /\ ∃xs,cy K H p xs)\/(T = "tuple" /\ ∃o,K.lookup p=ab o/\o.cls=.type "tuple" /\ o.dict=ae) \/
  (T = "dict" /\ ((∃am,H p=ab (.dK am))\/∃am,H p=ab (.dT am)))\/(T = "set" /\ ∃S n,H p=ab (.set S n))
 |_=>False
theorem vy{af:List (ah×Obj)}{σ:St}{H:Hp}{s:ak}{T:String}{x:V}{v:ag}(I:Inv X af σ H s)(r:RelV x v)(ty:q9 X.K T x H) :
 s.TypeIs v T/\∀a,v=.ref a->∃ob,s.heap.get? a=ab ob/\ob.dict=ae:=by
 cases x with
 |str z=>
  obtain⟨t,rfl⟩:=r;cases(show T = "str" from ty);exact⟨typeIs_str s z t,λ_ e=>nomatch e⟩
 |int i=>
  obtain⟨t,rfl⟩:=r;cases(show T = "int" from ty);exact⟨typeIs_int s i t,λ_ e=>nomatch e⟩
 |ref p=>
  cases r;rcases ty with ⟨rfl,xs,hq⟩|⟨rfl,o,hk,hc,hd⟩|⟨rfl,hk⟩|⟨rfl,S,n,hk⟩
  ·obtain⟨ai,_,pl,_⟩:=I.list hq;refine⟨pl.isList.typeIs,λa e=>?_⟩;cases e;obtain⟨o,n,e,c,hd,_⟩:=pl;exact⟨o,e,hd⟩
  ·refine⟨⟨o,I.eM p o hk,hc⟩,λa e=>?_⟩;cases e;exact⟨o,I.eM _ o hk,hd⟩
  ·have z:∃o,s.heap.get? p=ab o/\o.ExactDict:=by
    rcases hk with ⟨am,hk⟩|⟨am,hk⟩
    ·obtain⟨_,_,_,_,o,_,_,e,ex,_⟩:=I.hok p _ hk;exact⟨o,e,ex⟩
    ·obtain⟨_,_,_,_,o,_,_,e,ex,_⟩:=I.hok p _ hk;exact⟨o,e,ex⟩
   obtain⟨o,e,ex⟩:=z;refine⟨⟨o,e,ex.1⟩,λa e2=>?_⟩;cases e2;exact⟨o,e,ex.2.1⟩
  ·obtain⟨o,_,_,_,e,ex,_⟩:=I.hok p _ hk;refine⟨⟨o,e,ex.1⟩,λa e2=>?_⟩;cases e2;exact⟨o,e,ex.2.1⟩
 |_=>exact jD ty
def lS(K:aB)(T:String)(r:V->List V->Hp->VK->Prop)(to:TE):TE:=λσ H Q=>to σ H λx H1=>q9 K T x H1/\r x [] H1 Q
def lm(K:aB)(T:String)(r:V->List V->Hp->VK->Prop)(to:TE)(t:TA):TE:=λσ H Q=>to σ H λx H1=>q9 K T x H1/\t σ H1 λxs H2=>r x xs H2 Q
variable{o e:aO}{es:List aO}{to:TE}{t:TA}{name:Str}{apos cpos:Pos}{T id:String}{r:V->List V->Hp->VK->Prop}
theorem wH(pa:tL T)(slot:Slot T name id)(hty:typeOf (.builtin id)=pure (.type "method_descriptor"))(hm:j3 X id r)(ho:PE X o to)
 (hbase:attributeBase o name X.env (eval o X.env)=eval o X.env:=by rfl) (hline:(apos.endLine==cpos.line)=true:=by rfl):PE X (.Call (.Attribute o name apos) [] [] cpos) (lS X.K T r to):=by
 intro af s σ H Q I h;refine wpAny_Call_method0_late hbase hline (aK (ho af s σ H _ I h) λv s1 ⟨x,H1,I1,r1,ty,q1⟩=>?_);obtain⟨h1,h2⟩:=vy I1 r1 ty;exact⟨T,id,pa,slot,hty,h1,h2,tZ rfl (PySem.evalArgs_none (hm af s1 σ H1 x [] v [] Q I1 r1 .nil q1))⟩
theorem gU(pa:tL T)(slot:Slot T name id)(hty:typeOf (.builtin id)=pure (.type "method_descriptor"))(hm:j3 X id r)(ho:PE X o to)(ha:PA X (e::es) t)
 (hbase:attributeBase o name X.env (eval o X.env)=eval o X.env:=by rfl)
 (hfew:((backTo cpos (starEach (e::es) X.env)).all (λx=>!x.1)&&(backToKw cpos (keywordEach [] X.env)).all (λx=>x.1.isSome)
  && decide ((e::es).length+([]:List Keyword).length+(if([]:List Keyword).isEmpty then 0 else 1)<30))=true:=by rfl)
 (hline:(apos.endLine==cpos.line)=true:=by rfl) (hs:starEach (e::es) X.env=(false,eval e X.env)::starEach es X.env:=by rfl) (hplain:(backTo cpos (starEach es X.env)).any (·.1)=false:=by rfl) :
 PE X (.Call (.Attribute o name apos) (e::es) [] cpos) (lm X.K T r to t):=by
 intro af s σ H Q I h;refine D1 hbase hfew hline rfl (aK (ho af s σ H _ I h) λv s1 ⟨x,H1,I1,r1,ty,q1⟩=>?_);obtain⟨h1,h2⟩:=vy I1 r1 ty;refine⟨T,id,pa,slot,hty,h1,h2,?_⟩;have hA:=ha cpos af s1 σ H1 _ I1 q1;rw[hs]at hA ⊢;refine tZ (by show(false||(backTo cpos (starEach es X.env)).any (·.1))=false;rw[hplain]<;>rfl) (xG ?_);exact aK hA λus s2 ⟨vs,H2,I2,r2,q2⟩=>hm af s2 σ H2 x vs v us Q I2 r1 r2 q2
end
def oF(X:Cx)(id:String)(r:V->List V->Hp->VK->Prop):Prop:=
 ∀(af:List (ah×Obj)) (s:ak) (σ:St) (H:Hp) (x:V) (xs:List V) (v:ag) (us:List ag) (Q:VK),Inv X af σ H s->RelV x v->Vals xs us->r x xs H Q ->
  wpAny (model X.prog X.w) X.A (call (.builtin id) (v::us)) (EP X af σ Q) X.xe s
theorem Vals.one:∀{x:V} {us:List ag},Vals [x] us->∃u,us=[u]/\RelV x u
 |_,_,.cons r .nil=>⟨_,rfl,r⟩
theorem Vals.zero:∀{us:List ag},Vals [] us->us=[]
 |_,.nil=>rfl
theorem Vals.eraseIdx:∀{xs:List V} {us:List ag} (i:Nat),Vals xs us->Vals (xs.eraseIdx i) (us.eraseIdx i)
 |_,_,_,.nil=>.nil
 |_,_,0,.cons _ t=>t
 |_,_,i+1,.cons r t=>.cons r (Vals.eraseIdx i t)
theorem Vals.reverse{xs:List V}{us:List ag}(h:Vals xs us):Vals xs.reverse us.reverse:=by
 induction h with
 |nil=>exact .nil
 |cons r t ih=>rw[mh,mh];exact Vals.append ih (.cons r .nil)
theorem Br{α:Type}:∀(l:List α) (i:Nat),(l.eraseIdx i).length<=l.length
 |[],_=>bg _
 |_::_,0=>qz _
 |_::r,i+1=>Nat.succ_le_succ (Br r i)
section
variable{X:Cx}{af:List (ah×Obj)}{σ:St}{H:Hp}{s:ak}{l b:ah}{xs ys zs:List V}
theorem Inv.qh{ai its':List ag}{n:Nat}{f:Array ag->Array ag}{t':Nat}(I:Inv X af σ H s)(hH:H l=ab (.lst xs))
 (e:s.heap.get? l=ab { cls:=.type "list", data:=.seq ai.toArray n }) (hf:f ai.toArray=its'.toArray) (hv:Vals ys its') (hz:ys.length<=sizeLine) :
 Inv X af σ (upd H l (.lst ys)) { s with heap:=s.heap.update l (gR f),toks:=t' }:=by
 have q:=PySem.IsL.update e f;rw[hf]at q;refine I.write (x:=l) (e:=l) (by rw[hH];exact trivial) (.inl rfl) (λb' u hb hu=>(D2 s.heap (gR f) (dI hb)).trans hu) ⟨_,q⟩ ?_;exact⟨hz,its',_,hv,q⟩
theorem Inv.KA{ai:List ag}{t':Nat}(I:Inv X af σ H s)(hv:Vals ys ai)(hz:ys.length<=sizeLine) :
 Inv X af σ (upd H s.heap.objs.size (.lst ys)) { s with heap:=s.heap.push { cls:=.type "list", data:=.seq ai.toArray },toks:=t' }:=
 I.laid (λ_ _ q=>cG _ q) (bg _) ⟨hz,ai,0,hv,d9 _ rfl⟩
theorem Inv.fresh(I:Inv X af σ H s):H s.heap.objs.size=ae:=I.hok.fresh (bg _)
theorem Inv.pZ(I:Inv X af σ H s)(hH:H l=ab (.lst xs)):xs.length<=sizeLine/\∃(ai:List ag) (n:Nat),Vals xs ai/\xs.length=ai.length/\s.heap.get? l=ab { cls:=.type "list", data:=.seq ai.toArray n }:=by obtain⟨z,ai,n,r,e⟩:=I.hok l _ hH;exact⟨z,ai,n,r,r.length,e⟩
theorem Kt{n:Nat}(h:n<=sizeLine):xH n=false:=by unfold xH;exact bw (by omega)
end
section
variable{X:Cx}
def uv:V->List V->Hp->VK->Prop:=λx vs H Q=>∃l xs y,x=.ref l/\vs=[y]/\H l=ab (.lst xs)/\xs.length<sizeLine/\Q .non (upd H l (.lst (xs++[y])))
theorem nz:oF X "list.append" uv:=by intro af s σ H x vs v us Q I rx rv h;obtain⟨l,xs,y,rfl,rfl,hH,hz,q⟩:=h;cases rx;obtain⟨u,rfl,ru⟩:=rv.one;obtain⟨z,ai,n,r,hl,e⟩:=I.pZ hH;refine nZ F.slot_list_append ⟨_,e,rfl⟩ F.entry_list_append (F.args_list_append_2 _ _) (PySem.list_append l ai.toArray n u (by rw[bF];omega)) ⟨e,?_⟩;refine⟨.non,_,I.qh (its':=ai++[u]) hH e (by simp) (r.append (.cons ru .nil)) ?_,rfl,q⟩;rw[bA,dw];omega
def wB:V->List V->Hp->VK->Prop:=λx vs H Q=>∃l xs i k y,x=.ref l/\vs=[.int i]/\H l=ab (.lst xs)/\-(2 ^ 63)<=i/\i<2 ^ 63/\seqIndex? i xs.length=ab k/\xs[k]? = ab y/\Q y (upd H l (.lst (xs.eraseIdx k)))
theorem vX:oF X "list.pop" wB:=by
 intro af s σ H x vs v us Q I rx rv h;obtain⟨l,xs,i,k,y,rfl,rfl,hH,h1,h2,hk,hy,q⟩:=h;cases rx;obtain⟨u,rfl,ru⟩:=rv.one;obtain⟨t,rfl⟩:=ru;obtain⟨z,ai,n,r,hl,e⟩:=I.pZ hH;obtain⟨w,hw,rw'⟩:=r.get hy;refine nZ F.slot_list_pop ⟨_,e,rfl⟩ F.entry_list_pop (F.args_list_pop_2 _ _)
  (MeetsSeq.list_pop_at l ai.toArray n i t k w (fitsIndex_both h1 h2) (by rw[bF,<- hl];exact hk) (by rw[<- El];exact hw) (by rw[bF];omega)) ⟨e,?_⟩
 refine⟨y,_,I.qh (its':=ai.eraseIdx k) hH e ?_ (r.eraseIdx k) ?_,rw',q⟩
 ·show ai.toArray.eraseIdxIfInBounds k=(ai.eraseIdx k).toArray;rw[List.eraseIdxIfInBounds_toArray]
 ·have:=Br xs k;omega
def CP:V->List V->Hp->VK->Prop:=λx vs H Q=>∃l xs,x=.ref l/\vs=[]/\H l=ab (.lst xs)/\Q .non (upd H l (.lst xs.reverse))
theorem JS:oF X "list.reverse" CP:=by intro af s σ H x vs v us Q I rx rv h;obtain⟨l,xs,rfl,rfl,hH,q⟩:=h;cases rx;have hus:=rv.zero;subst hus;obtain⟨z,ai,n,r,hl,e⟩:=I.pZ hH;refine nZ F.slot_list_reverse ⟨_,e,rfl⟩ F.entry_list_reverse (F.args_list_reverse_1 _) (AutoSeq1.list_reverse_list_0 l ai.toArray n (by rw[bF];omega)) ⟨e,?_⟩;refine⟨.non,_,I.qh (its':=ai.reverse) hH e (by simp) r.reverse ?_,rfl,q⟩;rw[tm];omega
def mP:V->List V->Hp->VK->Prop:=λx vs H Q=>∃l xs,x=.ref l/\vs=[]/\H l=ab (.lst xs)/\Q .non (upd H l (.lst []))
theorem zN:oF X "list.clear" mP:=by intro af s σ H x vs v us Q I rx rv h;obtain⟨l,xs,rfl,rfl,hH,q⟩:=h;cases rx;have hus:=rv.zero;subst hus;obtain⟨z,ai,n,r,hl,e⟩:=I.pZ hH;refine nZ F.slot_list_clear ⟨_,e,rfl⟩ F.entry_list_clear (F.args_list_clear_1 _) (AutoSeq1.list_clear_list_0 l ai.toArray n (by rw[bF];omega)) ⟨e,?_⟩;exact⟨.non,_,I.qh (its':=[]) (ys:=[]) hH e rfl .nil (eY _),rfl,q⟩
end
section
variable{κ:Type}[DecidableEq κ]
def fY(am:List (κ×V))(k:κ):Option V:=(am.find? λkv=>decide (kv.1=k)).map (·.2)
def putK(am:List (κ×V))(k:κ)(v:V):List (κ×V):=if(am.any λkv=>decide (kv.1=k))=true then am.map (λkv=>if kv.1=k then(kv.1,v)else kv)else am++[(k,v)]
theorem vD{p:κ×V}{r:List (κ×V)}{k:κ}(e:p.1=k):fY (p::r) k=ab p.2:=by simp[fY,ju,e]
theorem vm{p:κ×V}{r:List (κ×V)}{k:κ}(e:¬ p.1=k):fY (p::r) k=fY r k:=by simp[fY,ju,e]
theorem yv(k:κ):∀am:List (κ×V),(am.any λkv=>decide (kv.1=k))=(fY am k).isSome
 |[]=>rfl
 |p::r=>by
  rw[iU];by_cases e:p.1=k
  ·simp only[vD e,cE e,xx,Option.isSome_some]
  ·rw[vm e,bw e,jy];exact yv k r
theorem CQ(am:List (κ×V))(k:κ)(v:V):(putK am k v).length<=am.length+1:=by
 unfold putK;split
 ·rw[aS];omega
 ·rw[bA,bW,ml];omega
theorem iQ.wC{o:Option V}{u:Option ag}(r:iQ o u):o.isSome=u.isSome:=by
 cases o with
 | none=>cases u with
  |none=>rfl
  |some _=>exact(show False from r).elim
 | some _=>cases u with
  |none=>exact(show False from r).elim
  |some _=>rfl
theorem KV.val{am:List (κ×V)}{vs:List (κ×ag)}(r:KV am vs)(k:κ):iQ (fY am k) (valueAt vs k):=by
 unfold KV at r
 induction r with
 |nil=>exact gB
 | @cons p q ps qs h t ih=>
  obtain⟨h1,h2⟩:=h;by_cases e:p.1=k
  ·have e':q.1=k:=h1.symm.trans e;have b:valueAt (q::qs) k=ab q.2:=by simp[valueAt,ju,e']
   rw[vD e,b];exact h2
  ·have e':¬ q.1=k:=λz=>e (h1.trans z);have b:valueAt (q::qs) k=valueAt qs k:=by simp[valueAt,ju,e']
   rw[vm e,b];exact ih
theorem KV.any{am:List (κ×V)}{vs:List (κ×ag)}(r:KV am vs)(k:κ):(am.any λkv=>decide (kv.1=k))=vs.any λkv=>decide (kv.1=k):=by
 unfold KV at r
 induction r with
 |nil=>rfl
 |cons h t ih=>rw[iU,iU,ih,h.1]
theorem KV.repl{am:List (κ×V)}{vs:List (κ×ag)}(r:KV am vs)(k:κ){y:V}{u:ag}(ry:RelV y u) :
 KV (am.map λkv=>if kv.1=k then(kv.1,y)else kv) (vs.map λkv=>if kv.1=k then(kv.1,u)else kv):=by
 unfold KV at r ⊢
 induction r with
 |nil=>exact .nil
 | @cons p q ps qs h t ih=>
  rw[cq,cq];refine .cons ?_ ih;obtain⟨h1,h2⟩:=h;by_cases e:p.1=k
  ·rw[aw e,aw (h1.symm.trans e)];exact⟨h1,ry⟩
  ·rw[ay e,ay (λz=>e (h1.trans z))];exact⟨h1,h2⟩
theorem KV.put{am:List (κ×V)}{vs:List (κ×ag)}(r:KV am vs)(k:κ){y:V}{u:ag}(ry:RelV y u):KV (putK am k y) (stored vs k u):=by
 unfold putK stored;rw[r.any k];by_cases e:(vs.any λkv=>decide (kv.1=k))=true
 ·rw[aw e,aw e];exact r.repl k ry
 ·rw[ay e,ay e];exact Paired.snoc r ⟨rfl,ry⟩
theorem KV.length{am:List (κ×V)}{vs:List (κ×ag)}(r:KV am vs):am.length=vs.length:=xJ r
end
theorem sR{P:bb}{w:aT}{k:Key}{u:ag}(r:RelV (kV k) u):(gL P w).is k u=true:=by
 cases k with
 |inl i=>obtain e:=(show u=mv i from r);subst e;exact FL P w i
 |inr x=>obtain⟨t,e⟩:=(show∃t,u=ke x t from r);subst e;exact Hy P w x t
theorem CN{P:bb}{w:aT}:∀{ks:List Key} {us:List ag},Vals (ks.map kV) us->ItemsAre (gL P w) ks us
 |[],_,r=>by rw[nX]at r;cases r;exact .nil
 |k::ks,_,r=>by
  rw[cq]at r;cases r with
  |cons h t=>exact .cons (sR h) (CN t)
abbrev KT(H:Hp):List (List Key×V)->List (List Key×ah×ag)->Prop:=n5 λp q=>p.1=q.1/\H q.2.1=ab (.tup (p.1.map kV))/\RelV p.2 q.2.2
theorem KT.val{H:Hp}{am:List (List Key×V)}{xs:List (List Key×ah×ag)}(r:KT H am xs)(k:List Key):iQ (fY am k) ((atKey xs k).map (·.2)):=by
 induction r with
 |nil=>exact gB
 | @cons p q ps qs h t ih=>
  obtain⟨h1,_,h2⟩:=h;by_cases e:p.1=k
  ·have e':q.1=k:=h1.symm.trans e;have b:atKey (q::qs) k=ab q.2:=by simp[atKey,ju,e']
   rw[vD e,b];exact h2
  ·have e':¬ q.1=k:=λz=>e (h1.trans z);have b:atKey (q::qs) k=atKey qs k:=by simp[atKey,ju,e']
   rw[vm e,b];exact ih
theorem KT.repl{H:Hp}{am:List (List Key×V)}{xs:List (List Key×ah×ag)}(r:KT H am xs)(k:List Key){y:V}{u:ag}(ry:RelV y u) :
 KT H (am.map λkv=>if kv.1=k then(kv.1,y)else kv) (xs.map (putAt k u)):=by
 induction r with
 |nil=>exact .nil
 | @cons p q ps qs h t ih=>
  rw[cq,cq];refine .cons ?_ ih;obtain⟨h1,h2,h3⟩:=h;unfold putAt;by_cases e:p.1=k
  ·rw[aw e,aw (h1.symm.trans e)];exact⟨h1,h2,ry⟩
  ·rw[ay e,ay (λz=>e (h1.trans z))];exact⟨h1,h2,h3⟩
theorem KT.put{H:Hp}{am:List (List Key×V)}{xs:List (List Key×ah×ag)}(r:KT H am xs)(k:List Key){b:ah}{y:V}{u:ag}(hb:H b=ab (.tup (k.map kV)))(ry:RelV y u) :
 KT H (putK am k y) (storedH xs k b u):=by
 have e:(am.any λkv=>decide (kv.1=k))=(atKey xs k).isSome:=by rw[yv,(r.val k).wC,D6]
 unfold putK storedH;rw[e];by_cases q:(atKey xs k).isSome=true
 ·rw[aw q,aw q];exact r.repl k ry
 ·rw[ay q,ay q];exact Paired.snoc r ⟨rfl,hb,ry⟩
theorem KT.keeps{H H':Hp}{am:List (List Key×V)}{xs:List (List Key×ah×ag)}(r:KT H am xs)(ht:∀b ys,H b=ab (.tup ys)->H' b=ab (.tup ys)):KT H' am xs:=Paired.vA r λ_ _ z=>⟨z.1,ht _ _ z.2.1,z.2.2⟩
section
variable{P:bb}{w:aT}{H:Hp}{h:aI}{a:ah}
theorem B5{u:HO}(ok:cg P w H h)(e:Rd H a u):bN P w H h a u:=e.ok ok
theorem rq{am:List (Key×V)}(ok:cg P w H h)(e:Rd H a (.dK am)):am.length<=sizeLine/\(a==sysModules)=false/\∃vs,KV am vs/\h.DictOf (gL P w) a vs:=show bN P w H h a (.dK am)from B5 ok e
theorem JW{am:List (Key×V)}(ok:cg P w H h)(e:H a=ab (.dK am)):am.length<=sizeLine/\(a==sysModules)=false/\∃vs,KV am vs/\h.DictOf (gL P w) a vs:=rq ok (.inl e)
theorem rF{ks:List Key}(ok:cg P w H h)(e:H a=ab (.tup (ks.map kV))):(tupleKind (gL P w)).is h ks a:=by obtain⟨_,ai,r,o,h1,h2,_,n,h3⟩:=(show bN P w H h a (.tup (ks.map kV))from ok a _ e);exact⟨o,ai.toArray,n,h1,h2,h3,by simpa using CN r⟩
theorem qZ{am:List (List Key×V)}(ok:cg P w H h)(e:Rd H a (.dT am)):am.length<=sizeLine/\(a==sysModules)=false /\
 ∃xs,KT H am xs/\h.DictOfH (tupleKind (gL P w)) a xs:=by
 obtain⟨z,y,xs,r,o,es,ep,h1,h2,h3,h4,h5⟩:=(show bN P w H h a (.dT am)from B5 ok e);refine⟨z,y,xs,r,o,es,ep,h1,h2,h3,h4,λx hx=>?_,h5⟩;have all:∀{l:List (List Key×V)} {m:List (List Key×ah×ag)},KT H l m->∀x∈m,(tupleKind (gL P w)).is h x.1 x.2.1:=by
  intro l m q
  induction q with
  |nil=>intro x hx;exact nomatch hx
  | @cons p q ps qs hq t ih=>
   intro x hx;rcases bJ.mp hx with e|hx
   ·subst e;exact rF ok (by rw[<- hq.1];exact hq.2.1)
   ·exact ih x hx
 exact all r x hx
theorem GS{am:List (List Key×V)}(ok:cg P w H h)(e:H a=ab (.dT am)):am.length<=sizeLine/\(a==sysModules)=false /\
 ∃xs,KT H am xs/\h.DictOfH (tupleKind (gL P w)) a xs:=qZ ok (.inl e)
end
def gY(H:Hp)(a:ah)(y:V)(r:Option V):Prop:=(∃am k,Rd H a (.dK am)/\y=kV k/\r=fY am k)\/∃am k b,Rd H a (.dT am)/\y=.ref b/\H b=ab (.tup (k.map kV))/\r=fY am k
def kA(H:Hp)(a:ah)(y v:V)(H':Hp):Prop:=
 (∃am k,H a=ab (.dK am)/\y=kV k/\am.length<sizeLine/\H'=upd H a (.dK (putK am k v))) \/
 ∃am k b,H a=ab (.dT am)/\y=.ref b/\H b=ab (.tup (k.map kV))/\am.length<sizeLine/\H'=upd H a (.dT (putK am k v))
theorem gY.k{H:Hp}{a:ah}{am:List (Key×V)}{k:Key}(e:H a=ab (.dK am)):gY H a (kV k) (fY am k):=.inl ⟨am,k,.inl e,rfl,rfl⟩
theorem gY.t{H:Hp}{a b:ah}{am:List (List Key×V)}{k:List Key}(e:H a=ab (.dT am))(eb:H b=ab (.tup (k.map kV))):gY H a (.ref b) (fY am k):=.inr ⟨am,k,b,.inl e,rfl,eb,rfl⟩
theorem kA.k{H:Hp}{a:ah}{am:List (Key×V)}{k:Key}{v:V}(e:H a=ab (.dK am))(hl:am.length<sizeLine):kA H a (kV k) v (upd H a (.dK (putK am k v))):=.inl ⟨am,k,e,rfl,hl,rfl⟩
theorem kA.t{H:Hp}{a b:ah}{am:List (List Key×V)}{k:List Key}{v:V}(e:H a=ab (.dT am))(eb:H b=ab (.tup (k.map kV)))(hl:am.length<sizeLine) :
 kA H a (.ref b) v (upd H a (.dT (putK am k v))):=.inr ⟨am,k,b,e,rfl,eb,hl,rfl⟩
section
variable{X:Cx}{af:List (ah×Obj)}{σ:St}{H:Hp}{s:ak}{a:ah}{y v:V}{u r:ag}{o:Option V}{A:br}{E:ag->ak->Prop}
theorem Inv.big(I:Inv X af σ H s):sysModules<s.heap.objs.size:=by have h:mainGlobals<s.heap.objs.size:=(I.mod.glob.keeps I.bk).lt;exact Nat.lt_trans (by decide) h
theorem IJ{Q:ag->ak->Prop}(hu:A.units+1<cLine)(I:Inv X af σ H s)(g:gY H a y (ab v))(ry:RelV y u)(h:∀w' s',Inv X af σ H s'->RelV v w'->Q w' s') :
 wpAny (model X.prog X.w) A (getItem (.ref a) u) Q E s:=by
 rcases g with ⟨am,k,e,ey,l⟩|⟨am,k,b,e,ey,eb,l⟩
 ·subst ey;obtain⟨z,hd,vs,rel,dd⟩:=rq I.hok e;obtain⟨w',hw,rw'⟩:=iQ.some_of (v:=v) (o:=valueAt vs k) (by rw[l];exact rel.val k);exact wpAny_getItem_of (sR ry) dd.mapOf hw (h w' _ (I.tok _) rw')
 ·subst ey;cases(show u=cr b from ry);obtain⟨z,hd,xs,rel,dd⟩:=qZ I.hok e;obtain⟨w',hw,rw'⟩:=iQ.some_of (v:=v) (o:=(atKey xs k).map (·.2)) (by rw[l];exact rel.val k);obtain⟨p,hp,hp2⟩:=mq.mp hw;refine wpAny_getItem_heap (xi hu) (rF I.hok eb) dd hp ?_;rw[hp2];exact h w' _ (I.tok _) rw'
theorem FX{Q:ag->ak->Prop}(hu:A.units+1<cLine)(I:Inv X af σ H s)(g:gY H a y o)(ry:RelV y u)(h:∀s',Inv X af σ H s'->Q (.bool o.isSome) s') :
 wpAny (model X.prog X.w) A (compareOp .In u (.ref a)) Q E s:=by
 rcases g with ⟨am,k,e,ey,l⟩|⟨am,k,b,e,ey,eb,l⟩
 ·subst ey;obtain⟨z,hd,vs,rel,dd⟩:=rq I.hok e;refine wpAny_in_of (sR ry) hd dd.mapOf ?_;rw[<- (rel.val k).wC,<- l];exact h _ (I.tok _)
 ·subst ey;cases(show u=cr b from ry);obtain⟨z,hd,xs,rel,dd⟩:=qZ I.hok e;refine wpAny_in_heap (xi hu) (rF I.hok eb) hd dd ?_;have q:=(rel.val k).wC;rw[D6]at q;rw[<- q,<- l];exact h _ (I.tok _)
theorem Dj{h':aI}{t':Nat}{ob:HO}(I:Inv X af σ H s)(mu:pY (H a))(hs:mo a s.heap h')(he:∃q,h'.get? a=ab q)(new:bN X.prog X.w (upd H a ob) h' a ob) :
 Inv X af σ (upd H a ob) { s with heap:=h',toks:=t' }:=
 I.write (x:=a) (e:=a) mu (.inl rfl) (λb q hb z=>(hs.2 b hb).trans z) he new
theorem KU{P:bb}{w:aT}{H':Hp}{h':aI}{am:List (Key×V)}{vs:List (Key×ag)}(z:am.length<=sizeLine)(hd:(a==sysModules)=false)(rel:KV am vs)(dd:h'.DictOf (gL P w) a vs) :
 bN P w H' h' a (.dK am):=⟨z,hd,vs,rel,dd⟩
theorem G0{H':Hp}{Q:Unit->ak->Prop}(hu:A.units+1<cLine)(I:Inv X af σ H s)(g:kA H a y v H')(ry:RelV y u)(rv:RelV v r)(h:∀s',Inv X af σ H' s'->Q () s') :
 wpAny (model X.prog X.w) A (setItem (.ref a) u r) Q E s:=by
 rcases g with ⟨am,k,e,ey,l,eH⟩|⟨am,k,b,e,ey,eb,l,eH⟩
 ·subst ey eH;obtain⟨z,hd,vs,rel,dd⟩:=JW I.hok e;have hz:vs.length<=sizeLine:=by rw[<- rel.length];exact z
  have hl:(putK am k v).length<=sizeLine:=by have:=CQ am k v;omega
  refine wpAny_setItem_pairs (hsz:=hz) (sR ry) dd λh' dd' hs=>h _ ?_;have he:∃q,h'.get? a=ab q:=let ⟨q,_,_,hq,_⟩:=dd';⟨q,hq⟩;exact Dj I (by rw[e];exact gB) hs he (KU hl hd (rel.put k rv) dd')
 ·subst ey eH;cases(show u=cr b from ry);obtain⟨z,hd,xs,rel,dd⟩:=GS I.hok e;have hz:xs.length<=sizeLine:=by rw[<- xJ rel];exact z
  have hl:(putK am k v).length<=sizeLine:=by have:=CQ am k v;omega
  refine wpAny_setItem_heap (hsz:=hz) (xi hu) (rF I.hok eb) dd λh' dd' hs=>h _ ?_;obtain⟨q,es,ep,hq,h2,h3,h4,_,h5⟩:=dd';refine Dj I (by rw[e];exact gB) hs ⟨q,hq⟩ ⟨hl,hd,_,(rel.put k eb rv).keeps λc ys ec=>?_,q,es,ep,hq,h2,h3,h4,h5⟩;rw[aQ (IR ec e (λz=>nomatch z))];exact ec
end
def AK(i:aO):Prop:=∀ov iv,subscripted i false ov iv=operate [ov,iv] (getItem ov iv)
theorem FI{prog:bb}{w:aT}{A:br}{E:ag->ak->Prop}{s:ak}{env:Env}{value slice:aO}{pos:Pos}{T id:String}{Q:ag->ak->Prop}
 (hl:typeLookup (.type T) "__getitem__" = pure (ab (.builtin id))) (hs:AK slice)
 (h:wpAny (model prog w) A (eval value env) (λo s₁=>wpAny (model prog w) A (eval slice env) (λi s₂=>s₂.TypeIs o T/\wpAny (model prog w) A (getItem o i) Q E s₂) E s₁) E s) :
 wpAny (model prog w) A (eval (.Subscript value slice pos) env) Q E s:=by
 refine Subscript_ (gv h (λo s₁ h₁=>gv h₁ (λi s₂ h₂=>?_) λ_ _ x=>x) λ_ _ x=>x);obtain⟨hT,h₂⟩:=h₂;unfold subscriptTail;refine aA ?_;rw[getitemInPython_of_ne hT.not_modules];refine aA (tH hT hl ?_);have fin:wpAny (model prog w) A (subscripted slice false o i) (λr s₃=>wpAny (model prog w) A (letTemporaryGo value o r >>= λ_=>pure r) Q E s₃) E s₂:=by rw[hs o i];exact wpAny_operating (gv h₂ (λr s₃ h₃=>aA (wpAny_letTemporaryGo (bo h₃))) λ_ _ x=>x)
 first
  |exact bo (aA fin)
  |exact aA (bo (aA fin))
  |exact aA fin
theorem GH{X:Cx}{af:List (ah×Obj)}{σ:St}{H:Hp}{s:ak}{a:ah}{y:V}{o:Option V}(I:Inv X af σ H s)(g:gY H a y o):s.TypeIs (.ref a) "dict":= by
 rcases g with ⟨am,k,e,_,_⟩|⟨am,k,b,e,_,_,_⟩
 ·obtain⟨_,_,vs,_,dd⟩:=rq I.hok e;exact dd.typeIs
 ·obtain⟨_,_,xs,_,dd⟩:=qZ I.hok e;exact dd.typeIs
def AM(td ty:TE):TE:=λσ H Q=>td σ H λx H1=>ty σ H1 λy H2=>∃a v,x=.ref a/\gY H2 a y (ab v)/\Q v H2
def zP(ty td:TE):TE:=λσ H Q=>ty σ H λy H1=>td σ H1 λx H2=>∃a o,x=.ref a/\gY H2 a y o/\Q (.bl o.isSome) H2
def iR(td ty tv:TE):TS:=λD σ H=>tv σ H λv H1=>td σ H1 λx H2=>ty σ H2 λy H3=>∃a H4,x=.ref a/\kA H3 a y v H4/\D.nx σ H4
section
variable{X:Cx}{o i e value:aO}{pos pos' tpos:Pos}{td ty tv:TE}
theorem Ho(hu:X.A.units+1<cLine)(ho:PE X o td)(hi:PE X i ty)(hs:AK i):PE X (.Subscript o i pos) (AM td ty):=by intro af s σ H Q I h;refine FI PySem.F.slot_dict_getitem.lookup hs (aK (ho af s σ H _ I h) λu s1 ⟨x,H1,I1,rx,q1⟩=>aK (hi af s1 σ H1 _ I1 q1) λiv s2 ⟨y,H2,I2,ry,a,v,ex,g,q2⟩=>?_);subst ex;obtain rfl:u=cr a:=rx;exact⟨GH I2 g,IJ hu I2 g ry λw' s3 I3 rw'=>⟨v,H2,I3,rw',q2⟩⟩
theorem IG(hu:X.A.units+1<cLine)(hi:PE X i ty)(ho:PE X o td):PC X .In i o (zP ty td):=by intro af s σ H Q I h;refine aK (hi af s σ H _ I h) λiv s1 ⟨y,H1,I1,ry,q1⟩=>aK (ho af s1 σ H1 _ I1 q1) λu s2 ⟨x,H2,I2,rx,a,ov,ex,g,q2⟩=>?_;subst ex;obtain rfl:u=cr a:=rx;exact FX hu I2 g ry λs3 I3=>⟨.bl ov.isSome,H2,I3,rfl,q2⟩
theorem yo(hu:X.A.units+1<cLine)(ho:PE X o td)(hi:PE X i ty)(hv:PE X value tv)(hs:swapsWith value (ab (.Subscript o i pos')) pos.line X.env=pure false) :
 PS X (.Assign [.Subscript o i pos'] value pos) (iR td ty tv):=by
 intro af s σ H D I h;refine wpAny_Assign_Subscript (aK (hv af s σ H _ I h) λr s1 ⟨v,H1,I1,rv,q1⟩=>aK (ho af s1 σ H1 _ I1 q1) λu s2 ⟨x,H2,I2,rx,q2⟩=>aK (hi af s2 σ H2 _ I2 q2) λiv s3 ⟨y,H3,I3,ry,a,H4,ex,g,q3⟩=>?_) hs;subst ex;obtain rfl:u=cr a:=rx;exact G0 hu I3 g ry rv λs4 I4=>⟨σ,H4,I4,q3⟩
end
theorem HX{P:bb}{w:aT}{H:Hp}(h:aI)(hb:sysModules<h.objs.size):bN P w H (h.push { cls:=.type "dict", data:=.dict #[] }) h.objs.size (.dK []):=⟨eY _,sC.mpr (dI (f9 hb)),[],.nil,Heap.DictOf.new h⟩
def AZ:TE:=λ_ H Q=>∀p,H p=ae->Q (.ref p) (upd H p (.dK []))
section
variable{X:Cx}{pos:Pos}
theorem A3:PE X (.Dict [] [] pos) AZ:=λaf s σ H Q I h=>
 wpAny_Dict_empty ⟨.ref s.heap.objs.size,_,I.laid (a:=s.heap.objs.size) (o:=.dK []) (t':=s.toks) (λ_ _ q=>cG _ q) (bg _) (HX s.heap I.big),rfl,h _ (I.hok.fresh (bg _))⟩
end
end L2
namespace Att
open PySem PySem.W PySem.Calls PyProof.Rows
theorem K0{P:Params}{h:aI}:∀(ns:List Int) (vs:List ag),WellAll P h vs (ns.map WData.int)->ip vs ns:=by
 intro ns
 induction ns with
 |nil=>
  intro vs w;rw[nX]at w;cases w;exact .nil
 |cons n ns ih=>
  intro vs w;rw[cq]at w;cases w with
  |cons a b=>
   cases a;exact .cons _ _ (ih _ b)
theorem Iu{l:OpenLaw}{n:Nat}(hn:l.most=ab n){P:Params}{h:aI}{args:List WData}{vals:List ag}
 (hpre:l.row.toRowW.claim.pre args=true) (hwl:WellAll P h vals args) :
 ∃a vs ns,vals=[cr a]/\args=[WData.list (ns.map WData.int)]/\h.get? a=ab { cls:=.type "list", data:=.seq vs.toArray }/\ip vs ns/\ns.length<=n:=by
 have hsh:WShape.hasAll [] args [.list .int]=true:=(pre_splitW hpre).1;have hc:l.pre.holds [] { args:=args }=true:=(pre_splitW hpre).2;obtain⟨d,r,rfl,h1,h2⟩:=hasAllW_cons hsh;obtain rfl:=hasAllW_nil h2;obtain⟨xs,rfl,h3⟩:=hasW_list h1;obtain⟨ns,rfl⟩:=items_int h3;have hlen:ns.length<=n:=by
  unfold OpenLaw.pre at hc;have h4:(WTm.not (.lt (.lit (.int (n:Int))) (.len (.arg 0)))).holds [] { args:=[.list (ns.map .int)] }=true:=by have h4:=(holds_andW hc).1;rw[hn]at h4;exact h4
  have h5:=condW_of h4 (w_not (w_lt w_lit (w_len_list (w_arg rfl))));rw[aS]at h5;refine Nat.le_of_not_lt λq=>?_;have q':(n:Int)<((ns.length:Nat):Int):=by omega
  first
   |(rw[cE q']at h5;exact absurd h5 (by decide))
   |(simp at h5;omega)
 cases hwl with
 |cons w1 w2=>
  cases w2;cases w1 with
  |list ho hall=>exact⟨_,_,ns,rfl,rfl,ho,K0 ns _ hall,hlen⟩
theorem Kz(l:OpenLaw)(args:List WData):l.row.toRowW.claim.post args (.bool true) args=true:=
 postW_of (r:=l.row.toRowW) (X:=(true==true))
  (show WShape.has [] (.bool true) .bool=true by first|rfl|decide|simp[WShape.has,WShape.arms,WShape.armsAll])
  (show(WTm.eq .res (.lit (.bool true))).value [] { args:=args,res:=ab (.bool true),after:=args }=ab (.bool (true==true))from w_eq_bool (w_res rfl) w_lit) rfl
theorem Gj{l:OpenLaw}{n:Nat}{q:bb}{loose:List Str}{XP:(Str->Option ag)->aI->Prop}{YP:aT->aI->Prop}{d:DefRec}
 (hn:l.most=ab n) (hdf:d.params.defaults=[])
 (call:∀(w:aT) (s₀ s₁:ak) (mg mb:Str->Option ag) (fa:ah) (o:Obj) (pm cd doc:ag) (a:ah) (vs:List ag) (ns:List Int),
  Ground q loose [] XP w s₀ mg mb s₁.heap->YP w s₁.heap ->
  s₁.heap.get? fa=ab o->o.data=.func (docDef d.name d.params d.body d.scope pm cd doc)->s₁.heap.CodeRec cd d.name->mg d.name=ab (.ref fa) ->
  s₁.heap.get? a=ab { cls:=.type "list", data:=.seq vs.toArray }->ip vs ns->ns.length<=n->s₁.gens = #[] ->
  codeAny (model l.prog w) callerA (.call (.ref fa) ⟨[.ref a],[]⟩) (λr s'=>r=.ok (.ret (.bool true))/\OldK s₁.heap s'.heap/\s'.os=s₁.os/\kf s'.gens) s₁) :
 WalkO q loose XP YP l.row.toRowW d [] (λf vs=>xm f vs):=by
 intro w s₀ s₁ mg mb G Y fa o pm cd doc dV kV ho hd hcd hD hmg hg args vals as hpre hlay hrd hwl hlo;obtain rfl:dV=.none:=Dflts.none hD hdf;obtain rfl:kV=.none:=Dflts.noKw hD;obtain⟨a,vs,ns,rfl,rfl,hobj,hints,hlen⟩:=Iu hn hpre hwl;refine enter_call (codeAny_mono (call w s₀ s₁ mg mb fa o pm cd doc a vs ns G Y ho (fd_plain hd) hcd hmg hobj hints hlen hg) λr s' hq=>?_);obtain⟨rfl,h2,h3,h4⟩:=hq;exact⟨.inl ⟨.bool true,.bool true,[],rfl,λ_=>rfl,.bool true,Kz l _,λ_=>⟨qC,λ_ hm=>(nomatch hm)⟩⟩,h2,h3,h4⟩
end Att
namespace L2
open PySem PySem.Spec PyProof.Rows
theorem Cs:∀{vs:List ag} {ns:List Int},ip vs ns->Vals (ns.map V.int) vs
 |_,_,.nil=>.nil
 |_,_,.cons n t h=>.cons ⟨t,rfl⟩ (Cs h)
def Only(H:Hp):Prop:=∀b,H b=ae\/∃o,∃ns:List Int,H b=ab (.frz o (.lst (ns.map V.int)))
theorem Iv{P:bb}{w:aT}{K:aB}{mg mb:Str->Option ag}{CX:eK}{k:Nat}{fa a:ah}{fd:bQ}{x:Str}{sp:Sp}{s₁:ak}{vs:List ag}{ns:List Int}
 (KX:K.In s₁.heap) (hns:s₁.heap.Ns mainGlobals mg) (hb:s₁.heap.Ns builtinsNs mb) (hbb:∀x:Str,x ≠ "__name__" -> mb x=bootBuiltins x) (hlim:s₁.heap.NoLimit) (hg:s₁.gens = #[])
 (ha:s₁.heap.get? a=ab { cls:=.type "list", data:=.seq vs.toArray }) (hi:ip vs ns) (hl:ns.length<=sizeLine) (hr:dE k callerA)
 (F:∀base:aI,K.In base->base.Ns mainGlobals mg->bt P w K mg base CX k fa fd [x] sp) (hbind:∀(s:ak) (u:ag),lb s fd ⟨[u],[]⟩ [(x,u)])
 (hsp:∀H:Hp,Only H->cy K H a (ns.map V.int)->sp [.ref a] H (λv _=>v=.bl true) λ_ _ _=>False)
 (hCX:∀H e s',CX [] H s₁ (λ_ _ _=>False) e s'->False) :
 codeAny (model P w) callerA (.call (.ref fa) ⟨[.ref a],[]⟩) (λr s'=>r=.ok (.ret (.bool true))/\OldK s₁.heap s'.heap/\s'.os=s₁.os/\kf s'.gens) s₁:=by
 have rv:=Cs hi;have lenV:=hi.length;have core:∀H:Hp,Only H->cy K H a (ns.map V.int)->cg P w H s₁.heap->(∀b,H b≠ae->b=a)->(H a≠ae->K.lookup a=ae) ->
  codeAny (model P w) callerA (.call (.ref fa) ⟨[.ref a],[]⟩) (λr s'=>r=.ok (.ret (.bool true))/\OldK s₁.heap s'.heap/\s'.os=s₁.os/\kf s'.gens) s₁:=by
  intro H hO hS hok hA hK;have EC:∀{b:ah} {o:Obj},s₁.heap.get? b=ab o->H b=ae->(jV s₁.heap H).get? b=ab o:=λe n=>Fg e n;have noA:∀{b:ah} {o:Obj} {es:Array DictEntry} {ep:Nat},s₁.heap.get? b=ab o->o.data=.dict es ep->H b=ae:=λ{b o es ep} e d=>by
   cases q:H b with
   |none=>rfl
   |some u=>
    have e':b=a:=hA b (by rw[q];simp);subst e';rw[ha]at e;cases e;have d':Data.seq vs.toArray _=Data.dict es ep:=d;cases d'
  have nsK:∀{b:ah} {m:Str->Option ag},s₁.heap.Ns b m->(jV s₁.heap H).Ns b m:=λ{b m} ⟨o,es,ep,e,d,r⟩=>⟨o,es,ep,EC e (noA e d),d,r⟩;have hKb:K.In (jV s₁.heap H):=λb o e=>EC (KX b o e) (by
   cases q:H b with
   |none=>rfl
   |some u=>
    have e':b=a:=hA b (by rw[q];simp);subst e';rw[hK (by rw[q];simp)]at e;cases e)
  have hM:Mod K mg (jV s₁.heap H):=⟨hKb,nsK hns,⟨mb,nsK hb,hbb⟩,let ⟨mc,h1,h2⟩:=hlim;⟨mc,nsK h1,h2⟩⟩;have e0:rX P w K mg (jV s₁.heap H) callerA [] s₁ H:=⟨rfl,hM,λb o e=>JK e,Nat.le_of_eq (Fm _ _),trivial,λb hb=>absurd (show b∈([]:List ah)from hb) (by simp),hok,.of_eq hg⟩;refine codeAny_mono ((F _ hKb (nsK hns)).run callerA [] s₁ H ⟨[.ref a],[]⟩ [.ref a] [.ref a] _ _ hr e0 (hbind s₁ (.ref a)) (.cons rfl .nil) (hsp H hO hS)) λr s' h=>?_;cases r with
  |error e=>exact(hCX H e s' h).elim
  |ok fl=>
   cases fl with
   |next=>exact jD h
   |brk=>exact jD h
   |cont=>exact jD h
   |ret u=>
    obtain⟨v,H',os,bare,un,hok',r',q⟩:=h;have q':v=.bl true:=q;subst q';obtain rfl:u=mv true:=r';refine⟨rfl,OldK.of_keep λb o e=>?_,os,bare⟩;cases q:H b with
    |none=>exact un.keep b o e q (by intro z;exact absurd (show b∈([]:List ah)from z) (by simp)) (by simp)
    |some u=>
     rcases hO b with z|⟨ob,xs,z⟩
     ·rw[q]at z;cases z
     ·have z2:=un.jE b ob _ z;obtain⟨e1,_⟩:=hok b _ z;obtain⟨e2,_⟩:=hok' b _ z2;rw[e]at e1;cases e1;exact e2
 cases hk:K.lookup a with
 |some o=>
  have e:=KX a o hk;rw[ha]at e;cases e;refine core (λ_=>ae) (λ_=>.inl rfl) (.inr ⟨_,vs.toArray,_,hk,rfl,rfl,rfl,by rw[bF,lenV];exact hl,by simpa using rv⟩) (λb u z=>by have z':(ae:Option HO)=ab u:=z;cases z') (λb z=>absurd rfl z) λz=>absurd rfl z
 |none=>
  refine core (λb=>if b=a then ab (.frz { cls:=.type "list",data:=.seq vs.toArray } (.lst (ns.map V.int)))else ae) (λb=>?_) (.inl (.inr ⟨{ cls:=.type "list", data:=.seq vs.toArray },aw rfl⟩)) (λb u z=>?_) (λb z=>?_) λ_=>hk
  ·by_cases hb:b=a
   ·exact .inr ⟨_,_,aw hb⟩
   ·exact .inl (ay hb)
  ·by_cases hb:b=a
   ·have z':=(aw hb).symm.trans z;cases z';subst hb;exact⟨ha,by rw[aS];exact hl,vs,_,rv,ha⟩
   ·have z':=(ay hb).symm.trans z;cases z'
  ·by_cases hb:b=a
   ·exact hb
   ·exact absurd (ay hb) z
theorem He{l:wM}{n k:Nat}{q:bb}{loose:List Str}{XP:(Str->Option ag)->aI->Prop}{YP:aT->aI->Prop}{d:DefRec}{K:Params->aB}{CX:aT->eK}{sp:aT->Sp}{x:Str}
 (hn:l.most=ab n) (hn2:n<=sizeLine) (hdf:d.params.defaults=[]) (hr:dE k callerA)
 (hY:∀(w:aT) (h:aI),YP w h->(K w.params).In h)
 (F:∀(w:aT) (mg:Str->Option ag) (fa:ah) (h:aI),(K w.params).In h->h.Ns mainGlobals mg->mg d.name=ab (.ref fa) ->
  ∃fd:bQ,(∀(s:ak) (u:ag),lb s fd ⟨[u],[]⟩ [(x,u)]) /\
   ∀base:aI,(K w.params).In base->base.Ns mainGlobals mg->bt l.prog w (K w.params) mg base (CX w) k fa fd [x] (sp w))
 (hsp:∀(w:aT) (H:Hp) (a:ah) (ns:List Int),ns.length<=n->Only H->cy (K w.params) H a (ns.map V.int)->sp w [.ref a] H (λv _=>v=.bl true) λ_ _ _=>False)
 (hCX:∀(w:aT) (H:Hp) (s:ak) (e:ag) (s':ak),CX w [] H s (λ_ _ _=>False) e s'->False) :
 PySem.W.WalkO q loose XP YP l.row.toRowW d [] (λf vs=>xm f vs):=by
 refine Att.Gj hn hdf λw s₀ s₁ mg mb fa o pm cd doc a vs ns G Y ho hd hcd hmg hobj hints hlen hg=>?_;have KX:=hY w _ Y;obtain⟨fd,hb,hF⟩:=F w mg fa _ KX G.T.g hmg;exact Iv KX G.T.g G.T.b G.T.builtins G.T.nolimit hg hobj hints (dQ hlen hn2) hr hF hb (λH hO hS=>hsp w H a ns hlen hO hS) λH e s'=>hCX w H s₁ e s'
def m4(s:bC):Arguments:=match s with
 |.FunctionDef _ a _ _ _ _ _ _ _ _=>a
 |_=>{ posonlyargs:=[],args:=[],vararg:=ae,kwonlyargs:=[],kw_defaults:=[],kwarg:=ae,defaults:=[] }
def jU(s:bC):List bC:=match s with
 |.FunctionDef _ _ b _ _ _ _ _ _ _=>b
 |_=>[]
def bK(s:bC):fo:=match s with
 |.FunctionDef _ _ _ _ _ _ sc _ _ _=>sc
 |_=>{ kind:=.function,names:=[],isGenerator:=false,isCoroutine:=false }
abbrev aL:eK:=λ_ _ _ _ _ _=>False
abbrev E0:XK:=λ_ _ _=>False
theorem lR{X:Cx}:sI aL X E0:=λ_ _ _ _ _ _ _ h=>h.elim
structure cD(K:aB)(x qual:Str)(st:bC)(f:ah)(fd:bQ):Prop where
 ex:∃(oc:ag) (od:Option ah) (kV doc pm:ag) (an:Option ah) (cdv ct:ag) (osl:Array (Option ag)),
  fd=kZ x qual (m4 st) (jU st) (bK st) .none kV doc pm an cdv ct/\K.lookup f=ab ⟨oc,od,.func fd,osl⟩/\sX K cdv qual=true
 kp:nT K (.ref f)=true
section
variable{P:bb}{w:aT}{K:aB}{mg:Str->Option ag}{base:aI}
theorem cD.ok{x qual:Str}{st:bC}{f:ah}{fd:bQ}{N ps:List Str}{k:Nat}{sp:Sp}(F:cD K x qual st f fd)(S:da N ps (bK st))(len:∀vs H Q E,sp vs H Q E->vs.length=ps.length)
 (hbody:∀(cdv:ag) (A:br) (outer:List Env) (s:ak) (H:Hp) (vs:List V) (Q:VK) (E:XK),dE k (A.deeper (envOfC qual (bK st) s.heap.objs.size f cdv))->sp vs H Q E ->
  ∃t,gf (kL aL P w K mg base N qual (bK st) f cdv A outer s H E).nA (jU st) t/\t { nx:=λ_ H'=>Q .non H',rt:=Q } (start N vs) H):bt P w K mg base aL (k+1) f fd ps sp:=by
 obtain⟨oc,od,kV,doc,pm,an,cdv,ct,osl,rfl,lk,hcd⟩:=F.ex;refine HG lk hcd S len λA outer s H vs Q E hr hsp=>?_;obtain⟨t,h,q⟩:=hbody cdv A outer s H vs Q E hr hsp;exact⟨t,h.nA,q⟩
theorem cD.binds{x qual:Str}{st:bC}{f:ah}{fd:bQ}{ps:List Str}(F:cD K x qual st f fd)
 (h:∀(kV doc pm:ag) (an:Option ah) (cdv ct:ag) (us:List ag),us.length=ps.length->bindArgs (kZ x qual (m4 st) (jU st) (bK st) .none kV doc pm an cdv ct) ⟨us,[]⟩=pure (ps.zip us)):Binds K fd ps []:=by
 obtain⟨oc,od,kV,doc,pm,an,cdv,ct,osl,rfl,lk,hcd⟩:=F.ex;exact .all (h kV doc pm an cdv ct)
theorem HH{x qual:Str}{st:bC}{f:ah}{oc:ag}{od an:Option ah}{osl:Array (Option ag)}{kV doc pm cdv ct:ag}(l:K.lookup f=ab ⟨oc,od,.func (kZ x qual (m4 st) (jU st) (bK st) .none kV doc pm an cdv ct),osl⟩)
 (c:sX K cdv qual=true) (k:nT K (.ref f)=true):cD K x qual st f (kZ x qual (m4 st) (jU st) (bK st) .none kV doc pm an cdv ct):=⟨⟨oc,od,kV,doc,pm,an,cdv,ct,osl,rfl,l,c⟩,k⟩
end
theorem sL{A:br}{k:Nat}(hr:dE k A):A.units+1<cLine:=Nat.lt_of_le_of_lt (Nat.add_le_add_left (by decide:1<=64) _) hr.units
section
variable{X:Cx}
theorem pv(i:Nat){x:Str}{pos:Pos}(hN:X.N[i]? = ab x:=by rfl)(hv:sv X.env.scope x:=by first|exact e9 rfl|exact iX (e9 rfl)|exact iX (iX rfl))(hd:(x==("__debug__" : Str))=false:=by decide)
 (hcd:(x==("__classdict__" : Str))=false:=by decide):PE X (.Name x pos) (cO i):=Kr hN hv hd hcd
end
theorem lB{A B:Prop}(h:B):if false=true then A else B:=by rw[ay cN];exact h
theorem lx{A B:Prop}(h:A):if true=true then A else B:=by rw[aw rfl];exact h
def b8(H H':Hp):Prop:=∀b o,H b=ab o->H' b=ab o
theorem b8.refl(H:Hp):b8 H H:=λ_ _ h=>h
theorem b8.trans{H H1 H2:Hp}(a:b8 H H1)(b:b8 H1 H2):b8 H H2:=λc o h=>b c o (a c o h)
theorem b8.free{H H':Hp}(e:b8 H H'){l:ah}(h:H' l=Option.none):H l=Option.none:=by
 cases q:H l with
 |none=>rfl
 |some o=>
  rw[e l o q]at h;cases h
section
variable{prog:bb}{w:aT}{A:br}{R:Result->ak->Prop}{s:ak}
theorem Fv{elt target iter:aO}{ifs:List aO}{scope:fo}{pos:Pos}{it acc:ag}{env:Env}(I:Nat->ak->Prop)
 (turn:∀n s,I n s->wpAny (model prog w) A (pyNext it) (λr s₁=>match r with
  |none=>R (.ok .next) s₁
  |some v=>wpAny (model prog w) A (letOwnedTupleGo target it v) (λ_ s₂=>wpAny (model prog w) A (assign target env v) (λ_ s₃=>
   wpAny (model prog w) A (forIn ifs true λc r=>if r=true then do let ok <- isTrue c env (eval c env);pure (jA ok)else pure (jA r)) (λok s₄=>
    if ok=true then wpAny (model prog w) A (eval elt env) (λx s₅=>
     wpAny (model prog w) A (call (.builtin "list.append") [acc,x]) (λ_ s₆=>∃m,m<n/\I m s₆) (λ_ _=>False) s₅) (λ_ _=>False) s₄
    else∃m,m<n/\I m s₄) (λ_ _=>False) s₃) (λ_ _=>False) s₂) (λ_ _=>False) s₁) (λ_ _=>False) s)
 (n:Nat) (h:I n s) :
 codeAny (model prog w) A (.compLoop (.ListComp elt [⟨target,iter,ifs,0⟩] scope pos) 0 it acc env) R s:=by
 refine codeAny_loop rfl I (λn s hI=>?_) n h;show wpAny _ A ((compTurn (.ListComp elt [⟨target,iter,ifs,0⟩] scope pos) 0 it acc env).onRaise (λx=>do noteFrame x env;theTreesLotGoes x)) _ _ s;refine wpAny_noted (gv (E:=λ_ _=>False) ?_ (λ_ _ q=>q) λ_ _ q=>q.elim);rw[compTurn_list];refine aA (tI (aA (aK (turn n s hI) λr s₁ h₁=>?_)));cases r with
 |none=>exact bo h₁
 |some v=>
  refine aA (aK h₁ λ_ s₂ h₂=>aA (aK h₂ λ_ s₃ h₃=>aA (aK h₃ λok s₄ h₄=>?_)));cases ok with
  |false=>exact bo ⟨rfl,h₄⟩
  |true=>exact aA (aA (aK h₄ λx s₅ h₅=>aA (aK h₅ λ_ s₆ h₆=>bo (bo ⟨rfl,h₆⟩))))
end
theorem cg.track{P:bb}{w:aT}{H:Hp}{h:aI}{a:ah}{o:HO}(x:cg P w H h)(hn:H a=ae)(new:bN P w (upd H a o) h a o):cg P w (upd H a o) h:=λb u e=>by
 by_cases hb:b=a
 ·subst hb;rw[b9]at e;cases e;exact new
 ·rw[aQ hb]at e;exact(x b u e).stay (λc v _ q=>q) (λc q=>by rw[aQ (cI q hn)];exact q) λc xs q=>by rw[aQ (cI q hn)];exact q
theorem lookup_mem{α:Type}:∀{l:List (Str×α)} {x:Str} {k:α},l.lookup x=ab k->(x,k)∈l
 |[],_,_,h=>by simp at h
 |(n,k')::r,x,k,h=>by
  rw[k5]at h;cases hx:x==n with
  |true=>
   rw[hx]at h;have:x=n:=by simpa using hx
   cases h;subst this;exact cn
  |false=>rw[hx]at h;exact cm _ (lookup_mem h)
theorem qK{env:Env}:∀{names:List (Str×k9)} {x:Str} {k:k9},
 (names.map λ(n,k)=>if(k==kg&&env.scope.kind==.function&&env.kindOf n==ab .cell)then(n,xD)else(n,k)).lookup x=ab k ->
 ∃k',names.lookup x=ab k'/\(k=k'\/(k'=.free/\k=.cell))
 |[],_,_,h=>by simp at h
 |(n,k0)::r,x,k,h=>by
  have ih:=@qK env r x k;have h':List.lookup x ((if(k0==kg&&env.scope.kind==.function&&env.kindOf n==ab .cell)=true then(n,xD)else(n,k0)) ::
   (r.map λ(n,k)=>if(k==kg&&env.scope.kind==.function&&env.kindOf n==ab .cell)then(n,xD)else(n,k)))=ab k:=h
  by_cases hc:(k0==kg&&env.scope.kind==.function&&env.kindOf n==ab .cell)=true
  ·rw[aw hc,k5]at h';rw[k5];cases hx:x==n with
   |true=>
    rw[hx]at h';cases h';simp only[fJ]at hc;exact⟨k0,rfl,.inr ⟨by simpa using hc.1.1,rfl⟩⟩
   |false=>rw[hx]at h';exact ih h'
  ·rw[ay hc,k5]at h';rw[k5];cases hx:x==n with
   |true=>rw[hx]at h';cases h';exact⟨_,rfl,.inl rfl⟩
   |false=>rw[hx]at h';exact ih h'
theorem vH{env:Env}{f:(Str×k9)->List (Str×ah)->Sem (ForInStep (List (Str×ah)))}
 (hf:∀n k r,f (n,k) r=if(k==kg)=true then(cellOf env n >>= λa=>pure (jA ((n,a)::r)))else pure (jA r)) :
 ∀(names:List (Str×k9)) (acc:List (Str×ah)),(∀y∈names,y.2=.free->∃c,env.cells.lookup y.1=ab c)->(∀x c,acc.lookup x=ab c->env.cells.lookup x=ab c) ->
  ∃cl,forIn names acc f=pure cl/\(∀x c,cl.lookup x=ab c->env.cells.lookup x=ab c)/\(∀x,(∃c,acc.lookup x=ab c)->∃c,cl.lookup x=ab c)/\∀x,(x,kg)∈names->∃c,cl.lookup x=ab c
 |[],acc,_,hacc=>⟨acc,rfl,hacc,λ_ h=>h,λ_ h=>by simp at h⟩
 |(n,k)::r,acc,hn,hacc=>by
  have hr:∀y∈r,y.2=.free->∃c,env.cells.lookup y.1=ab c:=λy hy=>hn y (cm _ hy);by_cases hk:(k==kg)=true
  ·have hk':k=.free:=by simpa using hk
   obtain⟨c,hc⟩:=hn (n,k) cn hk';obtain⟨cl,e,h1,h2,h3⟩:=vH hf r ((n,c)::acc) hr (λx c' h=>by
    rw[k5]at h;cases hx:x==n with
    | true => rw [hx] at h; cases h; have : x = n := by simpa using hx
              subst this;exact hc
    |false=>rw[hx]at h;exact hacc x c' h)
   refine⟨cl,?_,h1,λx ⟨c',hx⟩=>h2 x ?_,λx hx=>?_⟩
   ·rw[mm,hf,aw hk];have:cellOf env n=pure c:=by unfold cellOf;rw[hc]
    rw[this];exact e
   ·rw[k5];cases x==n with
    |true=>exact⟨_,rfl⟩
    |false=>exact⟨c',hx⟩
   ·rcases bJ.mp hx with e|hx
    ·cases e;exact h2 _ ⟨c,by rw[k5];simp⟩
    ·exact h3 x hx
  ·obtain⟨cl,e,h1,h2,h3⟩:=vH hf r acc hr hacc;refine⟨cl,?_,h1,h2,λx hx=>?_⟩
   ·rw[mm,hf,ay hk];exact e
   ·rcases bJ.mp hx with e|hx
    ·cases e;exact absurd rfl hk
    ·exact h3 x hx
theorem HN{sc:fo}{env:Env}(h:∀y∈sc.names,y.2=.free->∃c,env.cells.lookup y.1=ab c) :
 ∃cl,closureFor sc env=pure cl/\(∀x c,cl.lookup x=ab c->env.cells.lookup x=ab c)/\∀x,(x,kg)∈sc.names->∃c,cl.lookup x=ab c:=by
 obtain⟨cl,e,h1,_,h3⟩:=vH (env:=env) (f:=λx r=>match x with|(name,kind)=>if(kind==kg)=true then(cellOf env name >>= λa=>pure (jA ((name,a)::r)))else pure (jA r))
  (λn k r=>rfl) sc.names [] h (λ_ _ h=>by simp at h)
 refine⟨cl,?_,h1,h3⟩;unfold closureFor;refine Eq.trans ?_ e;exact bind_pure _
def pick(ρ:List (Option Nat))(σ:St):St:=ρ.map λo=>o.bind λj=>(σ[j]?).join
def dX(X:Cx)(N':List Str)(sc:fo)(cl:List (Str×ah))(C:ah)(s:ak)(H:Hp)(fp:List ah):Cx:={ X with N:=N',s₀:=s,H₀:=H,env:=compEnvC sc cl C X.env,outer:=X.stack,ex:=fp,fn:=λ_=>false,xe:=λ_ _=>False }
structure fF(X:Cx)(N':List Str)(ρ:List (Option Nat))(sc:fo):Prop where
 kind:sc.kind=.function
 ED:∀y∈sc.names,y.2≠.cell
 names:∀y∈sc.names,y.2=.local->sc.names.lookup y.1=ab .local
 free:∀y∈sc.names,y.2=.free->(X.env.kindOf y.1=ab .cell\/X.env.kindOf y.1=ab .free)
 len:ρ.length=N'.length
 ix:∀(i j:Nat),ρ[i]? = ab (ab j)->∃x,N'[i]? = ab x/\X.N[j]? = ab x/\sc.names.lookup x=ab .free
def pT(X:Cx)(ifs:List aO)(t:TT):Prop:=
 ∀(af:List (ah×Obj)) (s:ak) (σ:St) (H:Hp) (Q:Bool->Hp->Prop),Inv X af σ H s->t σ H Q ->
  wpAny (model X.prog X.w) X.A (forIn ifs true λc r=>if r=true then do let ok <- isTrue c X.env (eval c X.env);pure (jA ok)else pure (jA r)) (TP X af σ Q) X.xe s
def Au:TT:=λ_ H Q=>Q true H
theorem i8{X:Cx}:pT X [] Au:=λ_ _ _ H _ I h=>wpAny_tests_nil ⟨H,I,h⟩
theorem J0{X:Cx}{c:aO}{t:TT}(h:PT X c t):pT X [c] t:=λaf s σ H Q I hw=>wpAny_tests_one (h af s σ H Q I hw)
def rQ(ρ:List (Option Nat))(g:TG):Prop:=∀v σ H Q,g v σ H Q->g v σ H λσ2 H2=>(σ2.length = σ.length/\∀(i j:Nat),ρ[i]? = ab (ab j)->σ2[i]? = σ[i]?)/\Q σ2 H2
theorem iy{ρ:List (Option Nat)}{i:Nat}(h:ρ[i]? = ab ae):rQ ρ (fe i):=λv σ H Q q=>by
 refine⟨⟨f8,λk j e=>?_⟩,q⟩;have:i≠k:=by intro z;subst z;rw[h]at e;cases e
 rw[dN this]
def Kf(J:It)(ρ:List (Option Nat))(g:TG)(tc:TT)(te:TE)(σ:St)(H1:Hp)(Q:VK):Prop:=∃W:Nat->Nat->List V->Hp->Prop,(∃m,W 0 m [] H1)/\∀i m acc H,W i m acc H ->
 (J.stop i H/\∀p,H p=ae->Q (.ref p) (upd H p (.lst acc))) \/
 (J.go i H/\acc.length<sizeLine/\∃N:List V->Hp->Prop,(∀acc' H',N acc' H'->∃m',m'<m/\W (i+1) m' acc' H') /\
  ∀x H',J.yld i H x H'->g x (pick ρ σ) H' λσ2 H2=>tc σ2 H2 λb H3=>if b=true then te σ2 H3 λy H4=>N (acc++[y]) H4 else N acc H3)
def qU(wi:TI)(ρ:List (Option Nat))(g:TG)(tc:TT)(te:TE):TE:=λσ H Q=>wi σ H λJ H1=>Kf J ρ g tc te σ H1 Q
section
variable{X:Cx}{elt tg iter:aO}{ifs:List aO}{sc:fo}{pos cpos:Pos}{N':List Str}{ρ:List (Option Nat)}{wi:TI}{g:TG}{tc:TT}{te:TE}
theorem Av(hcalm:X.calm=true)(S:fF X N' ρ sc)(hi:PI X tg iter wi)
 (hg:∀cl C s H fp,PG (dX X N' sc cl C s H fp) tg g) (gk:rQ ρ g) (hc:∀cl C s H fp,pT (dX X N' sc cl C s H fp) ifs tc) (he:∀cl C s H fp,PE (dX X N' sc cl C s H fp) elt te)
 (hs:∀x,foldedSetIterable iter X.env x=pure x)
 (use:Option (ag->Sem Unit)) {R:ag->ak->Prop} {af:List (ah×Obj)} {s:ak} {σ:St} {H:Hp} {Q:VK} (I:Inv X af σ H s) (h:qU wi ρ g tc te σ H Q)
 (hR:∀s' D C H',Inv X af σ H' s'->Q (.ref D) H'->(∃m,s'.heap.Ns C m)->gQ X af H' C->compPost (model X.prog X.w) X.A X.xe use R (.ref D) C (.ok .next) s') :
 wpAny (model X.prog X.w) X.A (comprehension (.ListComp elt [⟨tg,iter,ifs,0⟩] sc pos) sc X.env cpos (newList []) false (eval iter X.env) use) R X.xe s:=by
 obtain⟨cl,hcl,hsub,hall⟩:=HN (sc:=sc) (env:=X.env) λy hy hf=>I.ok.has y.1 (S.free y hy hf);refine wpAny_comprehension_free rfl hs hcl S.kind S.names (aK (hi af s σ H _ I h) λv s1 h1=>aK h1 λitv s2 h2=>?_);obtain⟨it,fp,tn,J,H2,e,I2,T,st2,f2,W,⟨m0,w0⟩,turn⟩:=h2;subst e;refine xo (items:=[]) ?_;refine wpAny_newFunctionEnv S.ED (by intro y hy;simp at hy) (λh₁ hns hsb=>?_) S.kind;dsimp only at hns hsb ⊢;generalize hH2:s2.heap.push { cls:=.type "list", data:=.seq ([]:List ag).toArray }=Hh at hns hsb ⊢;have hCs:Hh.objs.size=s2.heap.objs.size+1:=by rw[<- hH2,qx]
 generalize hD:s2.heap.objs.size=D at *;generalize hCC:Hh.objs.size=C at *;have hDC:D≠C:=by omega
 have ltC:∀b:Nat,b<s2.heap.objs.size->b≠C/\b≠D/\b<D:=λb h=>by omega
 have ltD:∀b:Nat,b<D->b≠C/\b≠D:=λb h=>by omega
 have old:∀b o,s2.heap.get? b=ab o->h₁.get? b=ab o:=λb o e=>hsb.extBut b o (ltC b (bG e)).1 (cG _ (by rw[<- hH2];exact cG _ e));have newD:h₁.get? D=ab { cls:=.type "list", data:=.seq ([]:List ag).toArray }:=hsb.extBut _ _ hDC (cG _ (by rw[<- hH2,<- hD];exact d9 _ rfl));have ltb:∀b∈fp,b<D:=λb hb=>by
  obtain⟨o,e,_⟩:=T.obj _ _ st2 b hb;exact(ltC b (bG e)).2.2
 have fD:gQ X af H2 D:=I2.iJ (by omega) (I2.hok.fresh (by omega));have fC:gQ X af H2 C:=I2.iJ (by omega) (I2.hok.fresh (by omega));have nst:∀b,b≠X.env.locals->b∉X.fs->b∉frs X.stack:=λb h1 h2 hb=>by
  rcases bJ.mp (I2.vW b hb)with e|e
  ·exact h1 e
  ·exact h2 e
 have ok':(dX X N' sc cl C s2 H2 fp).Ok:=by
  refine⟨I2.ok.mod,S.kind,I2.ok.glob,I2.ok.blt,(by show s2.heap.objs.size<=C;omega),λx y c e1 e2=>I2.ok.inj x y c (hsub _ _ e1) (hsub _ _ e2),λx hx=>?_,λx c z=>(by cases z),I2.ok.hd,I2.ok.frames,.inl rfl,
   λb hb=>⟨(ltD b (ltb b hb)).1,λx c e=>(f2 b hb).2.2.2.2.1 x c (hsub _ _ e)⟩,I2.bs,(by show X.base.objs.size<=s2.heap.objs.size;exact dQ I2.ok.bsz I2.sz),λb o e hb=>?_,λb hb=>nst b (f2 b hb).2.1 (f2 b hb).2.2.1,I2.stack,I2.A5⟩
  ·have hx':∃k',sc.names.lookup x=ab k'/\(k'=.cell\/k'=.free):=by
    rcases hx with hx|hx
    ·obtain⟨k',e1,e2⟩:=qK (env:=X.env) (names:=sc.names) hx;rcases e2 with e2|⟨e2,_⟩
     ·exact⟨k',e1,.inl e2.symm⟩
     ·exact⟨k',e1,.inr e2⟩
    ·obtain⟨k',e1,e2⟩:=qK (env:=X.env) (names:=sc.names) hx;rcases e2 with e2|⟨e2,_⟩
     ·exact⟨k',e1,.inr e2.symm⟩
     ·exact⟨k',e1,.inr e2⟩
   obtain⟨k',e1,e2⟩:=hx';have hm:=lookup_mem e1;rcases e2 with e2|e2
   ·exact absurd e2 (S.ED _ hm)
   ·subst e2;exact hall x hm
  ·rcases(f2 b hb).2.2.2.1 with z|z
   ·exact I2.ok.qD b o e z
   ·exact absurd (fI (bG e) (dQ I2.ok.bsz z)) (jx _)
 have EE:∀p∈X.pn++af,p.1<D:=λp hp=>(ltC p.1 (bG (I2.pin p hp).1)).2.2;have Lc:∀x c,cl.lookup x=ab c->c<D:=λx c e=>by
  obtain⟨v,q⟩:=I2.cell x c (hsub _ _ e);exact(ltC c q.lt).2.2
 have I':∀tk,Inv (dX X N' sc cl C s2 H2 fp) (af++[(D,{ cls:=.type "list", data:=.seq ([]:List ag).toArray })]) (pick ρ σ) H2 { s2 with heap:=h₁,toks:=tk }:=λtk=>by
  refine⟨ok',rfl,I2.bare,Un.kept old,⟨_,hns,λi x v e1 e2 e3=>?_⟩,λx c e=>?_,fC.1,λx c e=>I2.iY x c (hsub _ _ e),λp hp=>?_,I2.hok.kept old,?_⟩
  ·have e2':∃j,ρ[i]? = ab (ab j)/\σ[j]? = ab (ab v):=by
    unfold pick at e2;rw[de]at e2;cases hr:ρ[i]? with
    |none=>rw[hr]at e2;cases e2
    |some o=>
     rw[hr]at e2;cases o with
     |none=>cases e2
     |some j=>
      refine⟨j,rfl,?_⟩;have e2:(σ[j]?).join=ab v:=eZ e2;cases hq:σ[j]? with
      |none=>rw[hq]at e2;cases e2
      | some o' => rw [hq] at e2; have e2 : o' = ab v := e2
                   rw[e2]
   obtain⟨j,hj,hv⟩:=e2';obtain⟨y,ey,eN,ef⟩:=S.ix i j hj;have e1':N'[i]? = ab x:=e1;rw[ey]at e1';cases e1';obtain⟨m,hn,hl⟩:=I2.loc;have hm:=lookup_mem ef;have kX:=S.free _ hm rfl;obtain⟨u,ru,lk⟩:=hl j x v eN hv (by rcases kX with k|k;exact .inr (.inl k);exact .inr (.inr k));refine⟨u,ru,.inr ⟨?_,?_⟩⟩
   ·show(relabel sc X.env).names.lookup x=ab .cell\/(relabel sc X.env).names.lookup x=ab .free;rcases e3 with e3|e3|e3
    ·obtain⟨k',q1,q2⟩:=qK (env:=X.env) (names:=sc.names) e3;rw[ef]at q1;cases q1;rcases q2 with q2|⟨_,q2⟩<;>cases q2
    ·exact .inl e3
    ·exact .inr e3
   ·obtain⟨c,hc'⟩:=hall x hm;refine⟨c,hc',?_⟩;rcases lk with ⟨k,_⟩|⟨_,c',ec,z⟩
    ·rcases kX with k'|k'<;>(rw[k]at k';cases k')
    ·rw[hsub _ _ hc']at ec;cases ec;obtain⟨o,ho,hd⟩:=z;exact⟨o,old _ _ ho,hd⟩
  ·obtain⟨v,o,ho,hd⟩:=I2.cell x c (hsub _ _ e);exact⟨v,o,old _ _ ho,hd⟩
  ·have hp':p∈X.pn++af\/p=(D,{ cls:=.type "list", data:=.seq ([]:List ag).toArray }):=by
    rcases dO.mp hp with z|z
    ·exact .inl (k4 _ z)
    ·rcases dO.mp z with z|z
     ·exact .inl (dM _ z)
     ·exact .inr (by simpa using z)
   rcases hp' with z|z
   ·obtain⟨q1,q2,q3,q4,q5⟩:=I2.pin p z;exact⟨old _ _ q1,q2,(ltD p.1 (EE p z)).1,nst _ q3 q4,q5⟩
   ·subst z;exact⟨newD,fD.1,hDC,nst _ fD.2.1 fD.2.2.1,λv z=>by cases z⟩
  ·show(pick ρ σ).length=N'.length;unfold pick;rw[aS];exact S.len
 have stat:∀{H':Hp} {o:Obj},(∀b∈fp,H' b=ae)->∀b∈fp,gQ (dX X N' sc cl C s2 H2 fp) (af++[(D,o)]) H' b:=λ{H' o} hn b hb=>by
  refine⟨hn b hb,(ltD b (ltb b hb)).1,nst b (f2 b hb).2.1 (f2 b hb).2.2.1,.inl hb,λx c e=>(f2 b hb).2.2.2.2.1 x c (hsub _ _ e),λp hp=>?_⟩;rcases dO.mp hp with z|z
  ·exact(f2 b hb).2.2.2.2.2 p (k4 _ z)
  ·rcases dO.mp z with z|z
   ·exact(f2 b hb).2.2.2.2.2 p (dM _ z)
   ·have e:p=(D,o):=by simpa using z
    subst e;exact dI (ltD b (ltb b hb)).2
 have loop:∀tk,codeAny (model X.prog X.w) X.A (.compLoop (.ListComp elt [⟨tg,iter,ifs,0⟩] sc pos) 0 (.ref it) (.ref D) (compEnvC sc cl C X.env)) (compPost (model X.prog X.w) X.A X.xe use R (.ref D) C) { s2 with heap:=h₁,toks:=tk }:=λtk=>by
  refine Fv (λn s'=>∃(i:Nat) (acc:List V) (ai:List ag) (k:Nat) (H':Hp),Inv (dX X N' sc cl C s2 H2 fp) (af++[(D,{ cls:=.type "list", data:=.seq ai.toArray k })]) (pick ρ σ) H' s'/\Vals acc ai/\acc.length<=sizeLine/\tn i s'.heap/\(∀b∈fp,H' b=ae)/\W i n acc H')
   ?_ m0 ⟨0,[],[],0,H2,I' tk,.nil,eY _,T.keep _ _ _ st2 λb hb o e=>old b o e,λb hb=>(f2 b hb).1,w0⟩
  rintro n s3 ⟨i,acc,ai,k,H3,I3,va,hz0,st3,fr3,w3⟩;rcases turn i n acc H3 w3 with ⟨stop,qn⟩|⟨go,hz,Nn,hN,step⟩
  ·refine aK (T.done (dX X N' sc cl C s2 H2 fp) rfl rfl rfl hcalm i _ s3 _ H3 (λ_ _=>False) I3 (stat fr3) st3 stop) λr s4 ⟨hr,I4⟩=>?_;subst hr;obtain⟨p1,p2,p3,p4,p5⟩:=I4.pin (D,{ cls:=.type "list",data:=.seq ai.toArray k }) (by simp);have p1:s4.heap.get? D=ab { cls:=.type "list", data:=.seq ai.toArray k }:=p1;have p2:H3 D=ae:=p2;have B:=I4.base;have upn:∀b o,H3 b=ab o->upd H3 D (.lst acc) b=ab o:=λb o e=>by rw[aQ (cI e p2)];exact e
   have IX:Inv X af σ (upd H3 D (.lst acc)) s4:=by
    refine I2.call' (ch:=fp) I4.os ⟨λb o q1 q2 q3 q4=>B.keep b o q1 q2 q3 q4,λb o q1 q2 q3 q4=>B.slot b o q1 q2 q3 q4,λb o q1 q2 q3=>?_,λb o q1 q2=>B.there b o q1 q2,
     λb xs q=>upn _ _ (B.tups b xs q),λb o u q=>upn _ _ (B.jE b o u q),λb w ps q=>?_⟩ (I4.hok.track p2 ⟨hz0,ai,k,va,p1⟩) I4.bare λb hb=>⟨(f2 b hb).2.2.2.1,(f2 b hb).2.1,(f2 b hb).2.2.2.2.1,(f2 b hb).2.2.2.2.2⟩
    ·rw[aQ (ltC b (bG q1)).2.1];exact B.free b o q1 q2 q3
    ·obtain⟨more,q'⟩:=B.kh b w ps q;exact⟨more,upn _ _ q'⟩
   obtain⟨m,hm,_⟩:=I4.loc;refine hR s4 D C _ IX (qn D p2) ⟨m,hm⟩ (I2.iJ (by omega) ?_);rw[aQ (dI hDC)];exact I4.free
  ·refine aK (T.item (dX X N' sc cl C s2 H2 fp) rfl rfl rfl hcalm i _ s3 _ H3 (λ_ _=>False) I3 (stat fr3) st3 go) λr s4 ⟨u,hr,h4⟩=>?_;subst hr;refine aK h4 λ_ s5 ⟨x,H5,I5,r5,y5,st5,fr5⟩=>?_;have I5':=I5.pinned (stat fr5) (T.obj _ _ st5);refine aK (hg cl C s2 H2 fp _ s5 _ H5 x u _ I5' r5 (gk _ _ _ _ (step x H5 y5))) λ_ s6 ⟨σ6,H6,I6,⟨l6,k6⟩,q6⟩=>?_;refine aK (hc cl C s2 H2 fp _ s6 σ6 H6 _ I6 q6) λok s7 ⟨H7,I7,q7⟩=>?_;have wk:∀{oj:List (ah×Obj)} {H':Hp} {s':ak},Inv (dX X N' sc cl C s2 H2 fp) oj σ6 H' s'->Inv (dX X N' sc cl C s2 H2 fp) oj (pick ρ σ) H' s':=λ{oj H' s'} J'=>
    J'.weak l6.symm λj v e=>by
     have:∃j',ρ[j]? = ab (ab j'):=by
      unfold pick at e;rw[de]at e;cases hr:ρ[j]? with
      |none=>rw[hr]at e;cases e
      |some o=>
       rw[hr]at e;cases o with
       |none=>cases e
       |some j'=>exact⟨j',rfl⟩
     obtain⟨j',hj'⟩:=this;rw[k6 j j' hj'];exact e
   cases ok with
   |false=>
    have q7:Nn acc H7:=by simpa using q7
    rw[ay cN];obtain⟨m',hm,w7⟩:=hN acc H7 q7;refine⟨m',hm,i+1,acc,ai,k,H7,wk I7.mZ,va,hz0,T.keep _ _ _ st5 λb hb o e=>(I7.pin (b,o) (dM _ (dM _ (m9 hb e)))).1,λb hb=>?_,w7⟩;obtain⟨o,e,d⟩:=T.obj _ _ st5 b hb;exact(I7.pin (b,o) (dM _ (dM _ (m9 hb e)))).2.1
   |true=>
    have q7:te σ6 H7 λy H4=>Nn (acc++[y]) H4:=by simpa using q7
    rw[aw rfl];refine aK (he cl C s2 H2 fp _ s7 σ6 H7 _ I7 q7) λxv s8 ⟨y,H8,I8,r8,n8⟩=>?_;obtain⟨p1,p2,p3,p4,p5⟩:=I8.pin (D,{ cls:=.type "list",data:=.seq ai.toArray k }) (by simp);have p1:s8.heap.get? D=ab { cls:=.type "list",data:=.seq ai.toArray k }:=p1;have p2:H8 D=ae:=p2;refine wpAny_list_append_plain ⟨k,p1⟩ (λh' pl sb=>?_) (by rw[bF,<- va.length];omega);obtain⟨k',pl⟩:=pl;obtain⟨m',hm,w8⟩:=hN _ _ n8;have Ia:Inv (dX X N' sc cl C s2 H2 fp) af σ6 H8 s8:=I8.mZ.mZ;have Ib:Inv (dX X N' sc cl C s2 H2 fp) af σ6 H8 { s8 with heap:=h' }:=Ia.turned (t':=s8.toks) (it:=D) (λb o hb e=>(sb.2 b hb).trans e) p2 hDC (.inr (by show s2.heap.objs.size<=D;omega)) (λx c e=>(ltD c (Lc x c e)).2) λp hp=>(ltD p.1 (EE p hp)).2;have pl':h'.get? D=ab { cls:=.type "list", data:=.seq (ai++[xv]).toArray k' }:=by rw[pl];simp
    have Ic:Inv (dX X N' sc cl C s2 H2 fp) (af++[(D,{ cls:=.type "list", data:=.seq (ai++[xv]).toArray k' })]) σ6 H8 { s8 with heap:=h' }:=Ib.vE λp hp=>by
     rcases dO.mp hp with z|z
     ·exact Ib.pin p (dM _ z)
     ·have e:p=(D,{ cls:=.type "list", data:=.seq (ai++[xv]).toArray k' }):=by simpa using z
      subst e;exact⟨pl',p2,p3,p4,λv z=>by cases z⟩
    refine⟨m',hm,i+1,acc++[y],ai++[xv],k',H8,wk Ic,va.append (.cons r8 .nil),(by rw[bA,dw];omega),T.keep _ _ _ st5 λb hb o e=>?_,λb hb=>?_,w8⟩
    ·exact(sb.2 b (ltD b (ltb b hb)).2).trans (I8.pin (b,o) (dM _ (dM _ (m9 hb e)))).1
    ·obtain⟨o,e,d⟩:=T.obj _ _ st5 b hb;exact(I8.pin (b,o) (dM _ (dM _ (m9 hb e)))).2.1
 refine codeAny_compStart_list (loop _) (T.self X.A 0 _ _ _ (T.keep _ _ _ st2 λb hb o e=>old b o e) (loop _))
theorem jq(hcalm:X.calm=true)(S:fF X N' ρ sc)(hi:PI X tg iter wi)
 (hg:∀cl C s H fp,PG (dX X N' sc cl C s H fp) tg g) (gk:rQ ρ g) (hc:∀cl C s H fp,pT (dX X N' sc cl C s H fp) ifs tc) (he:∀cl C s H fp,PE (dX X N' sc cl C s H fp) elt te)
 (hs:∀x,foldedSetIterable iter X.env x=pure x:=by intro _;rfl) :
 PE X (.ListComp elt [⟨tg,iter,ifs,0⟩] sc pos) (qU wi ρ g tc te):=by
 intro af s σ H Q I h;rw[eval_ListComp];refine Av hcalm S hi hg gk hc he hs ae I h λs' D C H' I' q ⟨m,hm⟩ f=>⟨m,hm,λh' sb=>?_⟩;exact⟨.ref D,H',I'.turned (t':=s'.toks) (it:=C) (λb o hb e=>(sb.2 b hb).trans e) f.1 f.2.1 f.2.2.2.1 f.2.2.2.2.1 f.2.2.2.2.2,rfl,q⟩
theorem E9{i:Nat}{x:Str}{px:Pos}(hcalm:X.calm=true)(hN:X.N.Nodup)(hix:X.N[i]? = ab x)(hx:Loc X.env.scope x)(S:fF X N' ρ sc)(hi:PI X tg iter wi)
 (hg:∀cl C s H fp,PG (dX X N' sc cl C s H fp) tg g) (gk:rQ ρ g) (hc:∀cl C s H fp,pT (dX X N' sc cl C s H fp) ifs tc) (he:∀cl C s H fp,PE (dX X N' sc cl C s H fp) elt te)
 (hsw:swapsWith (.ListComp elt [⟨tg,iter,ifs,0⟩] sc pos) (ab (.Name x px)) cpos.line X.env=pure true:=by rfl)
 (hs:∀x,foldedSetIterable iter X.env x=pure x:=by intro _;rfl)
 (hf:X.fn x=true\/X.env.scope.names.lookup x=ab .local:=by first|exact .inl rfl|exact .inr rfl|assumption) :
 PS X (.Assign [.Name x px] (.ListComp elt [⟨tg,iter,ifs,0⟩] sc pos) cpos) (ib (qU wi ρ g tc te) (fe i)):=by
 intro af s σ H D I h;rw[exec_Assign_Name_used _ _ _ _ hsw];refine aA (tI (aA ?_));show wpAny _ X.A (do let _ <- comprehension (.ListComp elt [⟨tg,iter,ifs,0⟩] sc pos) sc X.env _ (newList []) false (eval iter X.env) (ab (assign (.Name x px) X.env))) _ _ s;refine aA (aK (Av (Q:=λy H1=>D.nx (σ.set i (ab y)) H1) (R:=λ_ s'=>SP X af D .next s') hcalm S hi hg gk hc he hs (ab (assign (.Name x px) X.env)) I h λs' Da C H' I' q ⟨m,hm⟩ f=>?_) λ_ s' hq=>bo (bo hq));show wpAny _ X.A (assign (.Name x px) X.env (.ref Da)) _ _ _;refine wpAny_assign_Name (yI I' hN hix hx (v:=.ref Da) rfl (λs2 I2 ⟨a,sb,ha⟩=>⟨m,hm.sameBut sb ?_,λh' sb2=>?_⟩) hf)
 ·rcases ha with e|e
  ·subst e;exact f.2.1
  ·exactλz=>f.2.2.2.2.1 x a e z.symm
 ·exact⟨_,H',I2.turned (t':=s2.toks) (it:=C) (λb o hb e=>(sb2.2 b hb).trans e) f.1 f.2.1 f.2.2.2.1 f.2.2.2.2.1 f.2.2.2.2.2,q⟩
end
structure It.Of(J:It)(Ok:Hp->Prop)(xs:List V):Prop where
 go:∀i H,Ok H->i<xs.length->J.go i H
 yld:∀i H x H',Ok H->i<xs.length->J.yld i H x H'->H'=H/\xs[i]? = ab x
 stop:∀H,Ok H->J.stop xs.length H
theorem BD{K:aB}{a:ah}{xs:List V}:(pz K a).Of (λH=>cy K H a xs) xs:=⟨λi H h hi=>⟨xs,xs[i],h,by simp[hi]⟩,λi H x H' h _ y=>⟨y.1,y.2 xs h⟩,λH h=>⟨xs,h,bg _⟩⟩
theorem zB{K:aB}{a:ah}{xs:List V}:(pi K a).Of (λH=>ee K H a xs) xs:=⟨λi H h hi=>⟨xs,xs[i],h,by simp[hi]⟩,λi H x H' h _ y=>⟨y.1,y.2 xs h⟩,λH h=>⟨xs,h,bg _⟩⟩
def lF(lo:Int)(n:Nat):List V:=(bn n).map λi=>V.int (lo+(i:Nat))
theorem wm(lo:Int)(n:Nat):(lF lo n).length=n:=by simp[lF]
theorem JP{lo:Int}{n i:Nat}(h:i<n):(lF lo n)[i]? = ab (.int (lo+i)):=by simp[lF,h]
theorem FQ{lo:Int}{n:Nat}:(mM lo n).Of (λ_=>True) (lF lo n):=⟨λi H _ hi=>by rw[wm]at hi;exact hi,λi H x H' _ hi y=>⟨y.1,by rw[wm]at hi;rw[y.2];exact JP hi⟩,λH _=>by rw[wm];exact bg _⟩
def sgn(c:Nat):V:=.str ⟨#[c]⟩
def lN(x:Str):List V:=x.cps.toList.map sgn
theorem Dm(x:Str):(lN x).length=x.length:=by simp[lN,mz]
def lC(x:Str):It:=⟨λi _=>i<x.length,λi H y H'=>H'=H/\(lN x)[i]? = ab y,λi _=>i=x.length⟩
theorem ze{x:Str}:(lC x).Of (λ_=>True) (lN x):=⟨λi H _ hi=>by rw[Dm]at hi;exact hi,λi H y H' _ _ h=>h,λH _=>Dm x⟩
theorem zk{P:bb}{w:aT}{K:aB}{tg:aO}(it:ah)(x:Str)(t:Tok)(ty:String)
 (hty:["enumerate","zip","dict_itemiterator","dict_reverseitemiterator","odict_iterator","itertools.zip_longest","itertools.pairwise"].contains ty=false)
 (W:∀A':br,A'.handled=ae->Walks P w A' it [it] [it] x.cps.size (SignAt x) (λi h=>h.IsStrIter it ty x t i))
 (sf:∀(A:br) (i:Nat) (s:ak) (Q:ag->ak->Prop) (E:ag->ak->Prop),s.heap.IsStrIter it ty x t i->Q (.ref it) s->wpAny (model P w) A (pyIter (.ref it)) Q E s) :
 Turn P w K tg (lC x) [it] it (λi h=>h.IsStrIter it ty x t i) where
 mem:=by simp
 obj:=λi h st b hb=>by
  have e:b=it:=by simpa using hb
  subst e;obtain⟨o,e,c,d⟩:=st;exact⟨o,e,λv z=>by rw[d]at z;cases z⟩
 keep:=λi h h' st k=>let ⟨o,ho,r⟩:=st;⟨o,k it (by simp) o ho,r⟩
 item:=by intro X hP hw hK hc i af s σ H E I hf st hg;subst hP hw hK;obtain⟨f0,f1,f2,f3,f4,f5⟩:=hf it (by simp);refine(W X.A (I.ok.hd hc)).item i s _ _ hg st λv h' tk hv st' kk=>?_;obtain⟨c,u,e,rfl⟩:=hv;have I1:Inv X af σ H { s with heap:=h',toks:=tk }:=I.turned (λb o hb e=>kk b o (by simpa using hb) e) f0 f1 f3 f4 f5;obtain⟨o,e',c',d'⟩:=id st';refine⟨_,rfl,sB (s:={ s with heap:=h',toks:=tk }) e' c' d' hty ⟨sgn c,H,I1,⟨u,rfl⟩,⟨rfl,?_⟩,st',λb hb=>(hf b hb).1⟩⟩;unfold lN;rw[de,El,e];rfl
 done:=by intro X hP hw hK hc i af s σ H E I hf st hg;subst hP hw hK;obtain⟨f0,f1,f2,f3,f4,f5⟩:=hf it (by simp);have hg:i=x.length:=hg;subst hg;exact(W X.A (I.ok.hd hc)).done s _ _ st λh' tk kk=>⟨rfl,I.turned (λb o hb e=>kk b o (by simpa using hb) e) f0 f1 f3 f4 f5⟩
 self:=sf
section
variable{X:Cx}{tg:aO}
def Ab(tl:TE):TI:=λσ H R=>tl σ H λx H1=>∃z,x=.str z/\R (lC z) H1
theorem Fa{l:aO}{tl:TE}(hl:PE X l tl):PI X tg l (Ab tl):=by
 intro af s σ H R I h;refine aK (hl af s σ H _ I h) λv s1 ⟨x,H1,I1,r1,q1⟩=>?_;obtain⟨z,e,q⟩:=q1;subst e;obtain⟨t,rfl⟩:=r1;cases ha:z.cps.all (· < 128)
 ·refine wpAny_pyIter_wide ha ?_;refine⟨s1.heap.objs.size,[s1.heap.objs.size],_,lC z,H1,rfl,I1.kept (t':=s1.toks) λb o e=>cG _ e,zk _ z t "str_iterator" (by decide) (λA' hA=>Walks.strWide hA _ z t) (λ_ _ _ _ _ st hQ=>wpAny_pyIter_striter_wide st hQ),⟨_,d9 _ rfl,rfl,rfl⟩,λb hb=>?_,q⟩;have e:b=s1.heap.objs.size:=by simpa using hb
  subst e;exact I1.iJ (bg _) (I1.hok.fresh (bg _))
 ·refine wpAny_pyIter_ascii ha ?_;refine⟨s1.heap.objs.size,[s1.heap.objs.size],_,lC z,H1,rfl,I1.kept (t':=s1.toks) λb o e=>cG _ e,zk _ z t "str_ascii_iterator" (by decide) (λA' hA=>Walks.strAscii hA _ z t) (λ_ _ _ _ _ st hQ=>wpAny_pyIter_striter_ascii st hQ),⟨_,d9 _ rfl,rfl,rfl⟩,λb hb=>?_,q⟩;have e:b=s1.heap.objs.size:=by simpa using hb
  subst e;exact I1.iJ (bg _) (I1.hok.fresh (bg _))
theorem KH:bY X (compareOp .Gt) (λx y H Q=>∃i j,x=.str i/\y=.str j/\Q (.bl (decide (j.cps.toList<i.cps.toList))) H):=by intro af s σ H x y v u Q I rx ry h;obtain⟨i,j,rfl,rfl,q⟩:=h;obtain⟨t,rfl⟩:=rx;obtain⟨t',rfl⟩:=ry;exact PySem.P.gt_str (v8 I q rfl)
def mU(x:Str)(lo hi:Option Int):Str:=⟨((x.cps.toList.drop (HT.cz x.length 0 lo)).take (HT.cz x.length x.length hi-HT.cz x.length 0 lo)).toArray⟩
theorem Ij(lo hi:Option Int)(n:Nat):Et lo hi 1 n=(bn (HT.cz n n hi-HT.cz n 0 lo)).map (λk=>HT.cz n 0 lo+k):=by
 have h1:∀(v:Option Int) (d:Nat),d<=n->(match v with|none=>(d:Int)|some i=>max 0 (min (if i<0 then i+(n:Int)else i) (n:Int)))=((HT.cz n d v:Nat):Int):=by
  intro v d hd;cases v with
  |none=>rfl
  |some i=>
   show max 0 (min (if i<0 then i+(n:Int)else i) (n:Int))=(((if i<0 then(i+(n:Int)).toNat else min i.toNat n):Nat):Int);by_cases hv:i<0
   ·simp only[aw hv];omega
   ·simp only[ay hv];omega
 have fin:∀(p q:Int) (a b:Nat),p=(a:Int)->q=(b:Int)->sliceRange p q 1=(bn (b-a)).map (λk=>a+k):=by
  intro p q a b e1 e2;subst e1 e2;unfold sliceRange;simp only[show((1:Int)>0)=True from by simp,gN];by_cases hlt:(a:Int)<b
  ·have e3:(((b:Int)-a+1-1)/1).toNat=b-a:=by first|omega|(simp;done)|(simp;omega)
   simp only[hlt,gN,e3];refine nW λk _=>?_;omega
  ·have:b-a=0:=by omega
   simp[hlt,this]
 unfold Et;refine fin _ _ _ _ ?_ ?_
 ·have:=h1 lo 0 (eY _);cases lo with
  |none=>exact this
  |some i=>exact this
 ·have:=h1 hi n (bg _);cases hi with
  |none=>exact this
  |some i=>exact this
theorem F4(x:Str)(lo hi:Option Int):Txt.slice x lo hi=mU x lo hi:=by
 have hle:HT.cz x.length x.length hi<=x.length:=HT.Aw _ _ (bg _) hi;have ha:HT.cz x.length 0 lo<=x.length:=HT.Aw _ _ (eY _) lo;unfold Txt.slice mU;rw[Ij];generalize HT.cz x.length 0 lo=a at *;generalize HT.cz x.length x.length hi=b at *;have hp:((bn (b-a)).map (λk=>a+k)).filterMap (λi=>x.cps[i]?)=(x.cps.toList.drop a).take (b-a):=by have h:=StrLaws.picks x.cps.toList (b-a) a (by simp[mz]at hle ha ⊢;omega);simpa using h
 split
 ·rename_i h;simp only[aS,w6,jQ,Bool.true_and,jN]at h;have e:a=0\/x.length=0:=by omega
  have e2:(x.cps.toList.drop a).take (b-a)=x.cps.toList:=by
   rw[h];rcases e with e|e
   ·subst e;rw[qq];exact qk (by simp[mz])
   ·have:x.cps.toList=[]:=qj (by simpa [mz]using e);rw[this];simp
  rw[e2]
 ·rw[hp]
def By:V->Option Int->Option Int->Hp->VK->Prop:=λx lo hi H Q=>∃z,x=.str z/\z.length<=sizeLine/\Q (.str (mU z lo hi)) H
theorem Hj:kS X By:=by
 intro af s σ H x v vl vu lo hi sl Q I rx hs pl pu h;obtain⟨z,rfl,hz,q⟩:=h;obtain⟨t,rfl⟩:=rx;have fin:∀(l u:Option (Int×Tok)),vl=partValue l->vu=partValue u->lo=l.map (·.1)->hi=u.map (·.1) ->
  wpAny (model X.prog X.w) X.A (getItem (.str z t) (.ref sl)) (EP X af σ Q) X.xe s:=by
  intro l u e1 e2 e3 e4;subst e1 e2 e3 e4;refine wpAny_getItem_str_slice (l:=l) (u:=u) (st:=ae) hs rfl ?_;refine post_val_or_str ⟨dQ (Txt.slice_le z _ _) hz,λt' k=>?_⟩;refine⟨.str (mU z _ _),H,I.tok k,⟨t',?_⟩,q⟩;show ke (Txt.slice z _ _) t'=_;rw[F4]
 refine⟨"str", _,F.slot_str_getitem.lookup,typeIs_str _ _ _,?_⟩;cases pl with
 | none=>cases pu with
  |none=>exact fin ae ae rfl rfl rfl rfl
  |int j tj=>exact fin ae (ab (j,tj)) rfl rfl rfl rfl
 | int i ti=>cases pu with
  |none=>exact fin (ab (i,ti)) ae rfl rfl rfl rfl
  |int j tj=>exact fin (ab (i,ti)) (ab (j,tj)) rfl rfl rfl rfl
def De(neg:Bool):R2:=λx y H Q=>∃c z,x=sgn c/\y=.str z/\Q (.bl (if neg then !decide (c∈z.cps.toList)else decide (c∈z.cps.toList))) H
theorem KR:bY X (compareOp .In) (De false):=by intro af s σ H x y v u Q I rx ry h;obtain⟨c,z,rfl,rfl,q⟩:=h;refine J2 af s σ H _ _ v u Q I rx ry ⟨_,z,rfl,rfl,?_⟩;rw[StrLaws.found_one];exact q
def B8(K:aB):List V->Hp->VK->Prop:=λxs H Q=>∃x t T b,xs=[x,.ty T]/\fE K H x t/\wQ K t (.type T)=ab b/\Q (.bl b) H
theorem kW:fc X (.builtin "isinstance") (B8 X.K):=by intro af s σ H xs us Q I r h;obtain⟨x,t,T,b,rfl,ty,e,q⟩:=h;obtain⟨u,w',rfl,rx,rt⟩:=vals2 r;cases(show w'=tT T from rt);exact HQ I rx ty e λtk=>⟨.bl b,H,I.tok tk,rfl,q⟩
end
def B4(osc:fo)(N N':List Str)(ρ:List (Option Nat))(sc:fo):Bool:=
 sc.names.all (λy=>!(decide (y.2=.cell)))&&sc.names.all (λy=>!(decide (y.2=.local))||decide (sc.names.lookup y.1=ab .local)) &&
 sc.names.all (λy=>!(decide (y.2=.free))||(decide (osc.names.lookup y.1=ab .cell)||decide (osc.names.lookup y.1=ab .free))) &&
 decide (ρ.length=N'.length)&&(bn ρ.length).all λi=>match ρ[i]? with
  |some (ab j)=>(match N'[i]? with|some x=>decide (N[j]? = ab x)&&decide (sc.names.lookup x=ab .free)|none=>false)
  |_=>true
theorem fF.of{X:Cx}{N':List Str}{ρ:List (Option Nat)}{sc:fo}(hk:sc.kind=.function)(h:B4 X.env.scope X.N N' ρ sc=true):fF X N' ρ sc:=by
 unfold B4 at h;simp only[fJ,fm,Bool.or_eq_true,qA,jT,na]at h;obtain⟨⟨⟨⟨h1,h2⟩,h3⟩,h4⟩,h5⟩:=h;refine⟨hk,λy hy=>h1 y hy,λy hy e=>(h2 y hy).resolve_left (λz=>z e),λy hy e=>(h3 y hy).resolve_left (λz=>z e),h4,λi j e=>?_⟩;have hi:i < ρ.length:=(cM.mp e).1;have q:=h5 i (dP.mpr hi);rw[e]at q;cases hN:N'[i]? with
 |none=>rw[hN]at q;cases q
 |some x=>
  rw[hN]at q;simp only[fJ,jT]at q;exact⟨x,rfl,q.1,q.2⟩
structure ck(P:bb)(w:aT)(K:aB)(mg:Str->Option ag)(base:aI)(CX:eK)(k:Nat)(x:Str)(ps:List Str)(sp:Sp):Prop where
 ex:∃(f:ah) (fd:bQ),mg x=ab (.ref f)/\nT K (.ref f)=true/\Binds K fd ps []/\bt P w K mg base CX k f fd ps sp
theorem lQ{X:Cx}{CX:eK}{k:Nat}{x:Str}{ps:List Str}{sp:Sp}{E:XK}{e:aO}{es:List aO}{t:TA}{p pos:Pos}(C:ck X.prog X.w X.K X.mg X.base CX k x ps sp)(hr:dE k X.A)(hg:Gl X x)(hx:sI CX X E)
 (ha:PA X (e::es) t) (hdb:(x==("__debug__" : Str))=false:=by decide) (he:starEach (e::es) X.env=(false,eval e X.env)::starEach es X.env:=by rfl) (hpl:(backTo pos (starEach es X.env)).any (·.1)=false:=by rfl) :
 PE X (.Call (.Name x p) (e::es) [] pos) (lg sp [] E t):=by
 obtain⟨f,fd,hm,hk,hb,F⟩:=C.ex;exact FY F hr hg hm hk hb .nil hx ha hdb he hpl
theorem g7{X:Cx}{x:Str}{T:String}{pos:Pos}(hg:Gl X x)(hm:X.mg x=ae)(hv:bootBuiltins x=ab (.type T))(hn:x ≠ "__name__" := by decide)(hd:(x==("__debug__" : Str))=false:=by decide):PE X (.Name x pos) (tC (.ty T)):=Ki hg hm hv rfl hn hd
structure c6(K:aB)(mg:Str->Option ag)(x:Str)(st:bC)(ps:List Str):Prop where
 ex:∃(f:ah) (fd:bQ),mg x=ab (.ref f)/\nT K (.ref f)=true/\Binds K fd ps []/\(∀(s:ak) (us:List ag),us.length=ps.length->lb s fd ⟨us,[]⟩ (ps.zip us))/\cD K x x st f fd
theorem uN{K:aB}{h:aI}{mg:Str->Option ag}{x:Str}{st:bC}{ps:List Str}{f:ah}{oc:ag}{od an:Option ah}{osl:Array (Option ag)}{kV doc pm cdv ct:ag}(X:K.In h)(G:h.Ns mainGlobals mg)
 (hb:∀(kV doc pm:ag) (an:Option ah) (cdv ct:ag) (us:List ag),us.length=ps.length->bindArgs (kZ x x (m4 st) (jU st) (bK st) .none kV doc pm an cdv ct) ⟨us,[]⟩=pure (ps.zip us))
 (a:eV K mainGlobals x=ab (ab (.ref f))) (l:K.lookup f=ab ⟨oc,od,.func (kZ x x (m4 st) (jU st) (bK st) .none kV doc pm an cdv ct),osl⟩)
 (c:sX K cdv x=true) (k:nT K (.ref f)=true):c6 K mg x st ps:=by
 have F:=HH (st:=st) l c k;exact⟨f,_,PySem.W.mg_of X G a,k,F.binds hb,λs us hl=>.of_eq (hb kV doc pm an cdv ct us hl),F⟩
theorem c6.cal{P:bb}{w:aT}{K:aB}{mg:Str->Option ag}{base:aI}{CX:eK}{k:Nat}{x:Str}{st:bC}{ps:List Str}{sp:Sp}(F:c6 K mg x st ps)(h:∀f fd,cD K x x st f fd->bt P w K mg base CX k f fd ps sp) :
 ck P w K mg base CX k x ps sp:=by
 obtain⟨f,fd,h1,h2,h3,_,h4⟩:=F.ex;exact⟨f,fd,h1,h2,h3,h f fd h4⟩
end L2
namespace Mi
open PySem
inductive D where
 |non|bl (b:Bool)|int (i:Int)|str (x:Str)|lst (ds:List D)|tup (ds:List D)
mutual
def D.dep:D->Nat
 |.lst ds=>cH ds+1
 |.tup ds=>cH ds+1
 |_=>0
def cH:List D->Nat
 |[]=>0
 |d::r=>max d.dep (cH r)
end
mutual
/-- Python's == -/
def bi:D->D->Bool
 |.non,.non=>true
 |.bl a,.bl b=>a==b
 |.bl a,.int b=>(if a then 1 else 0)==b
 |.int a,.bl b=>a==(if b then 1 else 0)
 |.int a,.int b=>a==b
 |.str a,.str b=>a==b
 |.lst a,.lst b=>gG a b
 |.tup a,.tup b=>gG a b
 |_,_=>false
def gG:List D->List D->Bool
 |[],[]=>true
 |a::r,b::s=>bi a b&&gG r s
 |_,_=>false
end
mutual
/-- no list in it -/
def CZ:D->Bool
 |.lst _=>false
 |.tup ds=>AU ds
 |_=>true
def AU:List D->Bool
 |[]=>true
 |d::r=>CZ d&&AU r
end
def dj(n:Nat)(i:Int):Option Nat:=if 0<=i then(if i<n then ab i.toNat else ae)else if -(n:Int)<=i then ab (i+n).toNat else ae
def cJ{α:Type}(xs:List α)(i:Int):Option α:=(dj xs.length i).bind λj=>xs[j]?
def cz(n d:Nat):Option Int->Nat
 |none=>d
 |some v=>if v<0 then(v+(n:Int)).toNat else min v.toNat n
def ia{α:Type}(xs:List α)(lo hi:Option Int):List α:=(xs.drop (cz xs.length 0 lo)).take (cz xs.length xs.length hi-cz xs.length 0 lo)
abbrev Ky:=Sum Bool Str
structure Kp where
 a:Nat
 c:Nat
 q:Str
 ga:List Nat
 deriving DecidableEq
inductive W where
 |d (x:D)|dk (am:List (Ky×D))|dt (am:List (List Ky×D))|df (am:List (List Ky×D))|ex (c:String)|fn (κ:Kp) (ua:List D)|xr (c:String) (x:D)
abbrev Env:=List (Option W)
structure hJ where
 cls:String
 val:List D
inductive Rs(α:Type) where
 |ok (a:α)|ex (x:hJ)|no
noncomputable def Rs.bind{α β:Type}:Rs α->(α->Rs β)->Rs β
 |.ok a,f=>f a
 |.ex x,_=>.ex x
 |.no,_=>.no
@[simp] theorem aM {α β:Type} (a:α) (f:α->Rs β):(Rs.ok a).bind f=f a:=rfl
@[simp] theorem LB {α β:Type} (x:hJ) (f:α->Rs β):(Rs.ex x).bind f=.ex x:=rfl
@[simp] theorem Lz {α β:Type} (f:α->Rs β):(Rs.no).bind f=.no:=rfl
def Fin{α:Type}(r:Rs α)(k:α->Prop):Prop:=match r with
 |.ok a=>k a
 |_=>False
theorem ao{α β:Type}{r:Rs α}{f:α->Rs β}{k:β->Prop}:Fin (r.bind f) k↔Fin r λa=>Fin (f a) k:=by cases r<;>exact bq
theorem Fin.mono{α:Type}{r:Rs α}{k k':α->Prop}(h:Fin r k)(m:∀a,k a->k' a):Fin r k':=by
 cases r with
 |ok a=>exact m a h
 |ex x=>exact h
 |no=>exact h
theorem nq{α:Type}{r s:Rs α}{k:α->Prop}(h:Fin (if true=true then r else s) k):Fin r k:=by simpa using h
theorem nB{α:Type}{r s:Rs α}{k:α->Prop}(h:Fin (if false=true then r else s) k):Fin s k:=by simpa using h
theorem jI{α:Type}{a:α}{k:α->Prop}(h:Fin (.ok a) k):k a:=h
def cA{α:Type}:Option α->Rs α
 |some a=>.ok a
 |none=>.no
def a6{α:Type}(c:Prop)[Decidable c](r:Rs α):Rs α:=if c then r else .no
theorem aE{α:Type}{c:Prop}[Decidable c]{r:Rs α}(h:c):a6 c r=r:=aw h
theorem cc{α:Type}{c:Prop}[Decidable c]{r:Rs α}{k:α->Prop}(h:Fin (a6 c r) k):c/\Fin r k:=by
 unfold a6 at h;split at h
 ·exact⟨‹_›,h⟩
 ·exact h.elim
abbrev E:=Env->Rs D
abbrev C:=Env->Rs Bool
def mC(d:D):E:=λ_=>.ok d
def mV(i:Nat):E:=λe=>match e[i]? with
 |some (ab (.d x))=>.ok x
 |_=>.no
def m1(f:D->Rs D)(a:E):E:=λe=>(a e).bind f
def m2(f:D->D->Rs D)(a b:E):E:=λe=>(a e).bind λx=>(b e).bind λy=>f x y
def fG:List E->Env->Rs (List D)
 |[],_=>.ok []
 |a::r,e=>(a e).bind λx=>(fG r e).bind λxs=>.ok (x::xs)
def mN(f:List D->Rs D)(as:List E):E:=λe=>(fG as e).bind f
def dTup(ds:List D):Rs D:=a6 (ds.length<=16777216) (.ok (.tup ds))
def cx(ds:List D):Rs D:=a6 (ds.length<=16777216) (.ok (.lst ds))
def nF:D->Rs Bool
 |.bl b=>.ok b
 |_=>.no
def vh(a b:E):E:=λe=>(a e).bind λx=>(nF x).bind λc=>if c=true then b e else .ok (.bl false)
def kM(a b:E):E:=λe=>(a e).bind λx=>(nF x).bind λc=>if c=true then .ok (.bl true)else b e
def lH:D->Rs Int
 |.int i=>.ok i
 |_=>.no
def jJ:Option E->Env->Rs (Option Int)
 |none,_=>.ok ae
 |some a,e=>(a e).bind λx=>(lH x).bind λi=>.ok (ab i)
def km(x:Str)(lo hi:Option Int):Str:=⟨(ia x.cps.toList lo hi).toArray⟩
def gq(x:D)(lo hi:Option Int):Rs D:=match x with
 |.lst ds=>.ok (.lst (ia ds lo hi))
 |.str z=>a6 (z.length<=16777216) (.ok (.str (km z lo hi)))
 |_=>.no
def fw(f:D->Option Int->Option Int->Rs D)(a:E)(lo hi:Option E):E:=λe=>(a e).bind λx=>(jJ lo e).bind λl=>(jJ hi e).bind λh=>f x l h
def cB(a:E):C:=λe=>(a e).bind nF
def eU(a b:C):C:=λe=>(a e).bind λc=>if c=true then b e else .ok false
def jd(a b:C):C:=λe=>(a e).bind λc=>if c=true then .ok true else b e
def eI(a:C):C:=λe=>(a e).bind λc=>.ok (!c)
abbrev I:=Env->Rs (List D)
def sP:D->Rs (List D)
 |.lst ds=>.ok ds
 |.tup ds=>.ok ds
 |.str x=>.ok (x.cps.toList.map λc=>.str ⟨#[c]⟩)
 |_=>.no
def cW(a:E):I:=λe=>(a e).bind sP
def cY(lo hi:Int):List D:=(bn (hi-lo).toNat).map λk=>.int (lo+(k:Nat))
def okR(i:Int):Prop:=-(2 ^ 62)<=i/\i<2 ^ 62
instance (i:Int):Decidable (okR i):=inferInstanceAs (Decidable (_/\_))
def fN(a:E):I:=λe=>(a e).bind λx=>(lH x).bind λj=>a6 (okR j) (.ok (cY 0 j))
def gC(k:Nat):List D->List D
 |[]=>[]
 |d::r=>.tup [.int k,d]::gC (k+1) r
def CU:D->Rs (List D)
 |.lst ds=>.ok ds
 |_=>.no
def u5(a:E):I:=λe=>(a e).bind λx=>(CU x).bind λds=>.ok (gC 0 ds)
def fX:List D->List D->List D
 |a::r,b::s=>.tup [a,b]::fX r s
 |_,_=>[]
inductive Tg where
 |n (i:Nat)|t (is:List Nat)
def kY:List Nat->List D->Env->Rs Env
 |[],[],e=>.ok e
 |i::is,d::ds,e=>kY is ds (e.set i (ab (.d d)))
 |_,_,_=>.no
def Tg.put:Tg->D->Env->Rs Env
 |.n i,d,e=>.ok (e.set i (ab (.d d)))
 |.t is,.tup ds,e=>kY is ds e
 |_,_,_=>.no
def ja(ρ:List (Option Nat))(e:Env):Env:=ρ.map λo=>o.bind λj=>(e[j]?).join
def d5(tg:Tg)(c:C)(a:E)(e:Env):List D->Rs (List D)
 |[]=>.ok []
 |x::r=>(tg.put x e).bind λe1=>(c e1).bind λk=>if k=true then(a e1).bind λy=>(d5 tg c a e r).bind λys=>.ok (y::ys)else d5 tg c a e r
def di:C:=λ_=>.ok true
def d3(ρ:List (Option Nat))(it:I)(tg:Tg)(c:C)(a:E):E:=λe=>(it e).bind λxs=>a6 (xs.length<=16777216) ((d5 tg c a (ja ρ e) xs).bind λys=>.ok (.lst ys))
abbrev Fn:=List W->Rs W
abbrev EW:=Env->Rs W
def wD(a:E):EW:=λe=>(a e).bind λx=>.ok (.d x)
def wV(i:Nat):EW:=λe=>match e[i]? with
 |some (ab w)=>.ok w
 |_=>.no
def eS:List EW->Env->Rs (List W)
 |[],_=>.ok []
 |a::r,e=>(a e).bind λx=>(eS r e).bind λxs=>.ok (x::xs)
def kR(f:Fn)(as:List EW):EW:=λe=>(eS as e).bind f
def sg:W->Rs D
 |.d x=>.ok x
 |_=>.no
def aW(f:Fn)(as:List EW):E:=λe=>(kR f as e).bind sg
inductive Out where
 |nx (e:Env)|rt (w:W)|bk (e:Env)|ct (e:Env)
abbrev S:=Env->Rs Out
def b7:S:=λe=>.ok (.nx e)
def aP(s t:S):S:=λe=>(s e).bind λo=>match o with
 |.nx e'=>t e'
 |o=>.ok o
def uD(i:Nat)(a:EW):S:=λe=>(a e).bind λw=>.ok (.nx (e.set i (ab w)))
def bE(i:Nat)(a:E):S:=λe=>(a e).bind λd=>.ok (.nx (e.set i (ab (.d d))))
def iB(a:E):S:=λe=>(a e).bind λ_=>.ok (.nx e)
def bI(a:EW):S:=λe=>(a e).bind λw=>.ok (.rt w)
def bx(c:C)(s t:S):S:=λe=>(c e).bind λk=>if k=true then s e else t e
def oT:S:=λ_=>.no
def fL(tg:Tg)(body:S):List D->Env->Rs Out
 |[],e=>.ok (.nx e)
 | x::r,e=>(tg.put x e).bind λe1=>(body e1).bind λo=>match o with
  |.nx e2=>fL tg body r e2
  |.ct e2=>fL tg body r e2
  |.bk e2=>.ok (.nx e2)
  |.rt w=>.ok (.rt w)
def dF(it:I)(tg:Tg)(body:S):S:=λe=>(it e).bind λxs=>fL tg body xs e
def getL(e:Env)(i:Nat):Rs (List D):=match e[i]? with
 |some (ab (.d (.lst ds)))=>.ok ds
 |_=>.no
def putL(e:Env)(i:Nat)(ds:List D):Env:=e.set i (ab (.d (.lst ds)))
def fW(i:Nat)(a:E):S:=λe=>(a e).bind λd=>(getL e i).bind λds=>a6 (ds.length<16777216) (.ok (.nx (putL e i (ds++[d]))))
def rm(i:Nat)(a:E):S:=λe=>(a e).bind λd=>(getL e i).bind λds=>match d with
 |.lst xs=>a6 (ds.length+xs.length<=16777216) (.ok (.nx (putL e i (ds++xs))))
 |_=>.no
def vP(i:Nat):S:=λe=>(getL e i).bind λds=>.ok (.nx (putL e i ds.reverse))
def jR(ds:List D)(i:Int):Rs (D×List D):=a6 (-(2 ^ 63)<=i/\i<2 ^ 63) ((cA (dj ds.length i)).bind λk=>(cA ds[k]?).bind λd=>.ok (d,ds.eraseIdx k))
def lu(x y:Nat)(k:E):S:=λe=>(k e).bind λz=>(lH z).bind λi=>(getL e y).bind λds=>(jR ds i).bind λp=>.ok (.nx ((putL e y p.2).set x (ab (.d p.1))))
def qH(x y:Nat)(k:E):S:=λe=>(k e).bind λz=>(lH z).bind λi=>(getL e y).bind λds=>(jR ds i).bind λp=>(getL (putL e y p.2) x).bind λes=>
 a6 (es.length<16777216) (.ok (.nx (putL (putL e y p.2) x (es++[p.1]))))
def pH(x:Nat)(k a:E):S:=λe=>(a e).bind λd=>(k e).bind λz=>(lH z).bind λi=>(getL e x).bind λds=>(cA (dj ds.length i)).bind λj=>.ok (.nx (putL e x (ds.set j d)))
def qI(x y:Nat):S:=λe=>match e[y]? with
 |some (ab w)=>.ok (.nx ((e.set y ae).set x (ab w)))
 |_=>.no
def lp:D->Option Ky
 |.bl i=>ab (.inl i)
 |.str x=>ab (.inr x)
 |_=>ae
def ll:List D->Option (List Ky)
 |[]=>ab []
 | d::r=>match lp d,ll r with
  |some k,ab ks=>ab (k::ks)
  |_,_=>ae
def gF{κ:Type}[DecidableEq κ](am:List (κ×D))(k:κ):Option D:=(am.find? λkv=>decide (kv.1=k)).map (·.2)
def vK(w:W)(k:D):Rs (Option D):=match w with
 |.dk am=>(cA (lp k)).bind λk=>.ok (gF am k)
 | .dt am=>match k with
  |.tup ds=>(cA (ll ds)).bind λk=>.ok (gF am k)
  |_=>.no
 | .df am=>match k with
  |.tup ds=>(cA (ll ds)).bind λk=>.ok (gF am k)
  |_=>.no
 |_=>.no
def putK{κ:Type}[DecidableEq κ](k:κ)(v:D)(am:List (κ×D)):List (κ×D):=if(am.any λkv=>decide (kv.1=k))=true then am.map (λkv=>if kv.1=k then(kv.1,v)else kv)else am++[(k,v)]
def uJ(w:W)(k v:D):Rs W:=match w with
 |.dk am=>a6 (am.length<16777216) ((cA (lp k)).bind λk=>.ok (.dk (putK k v am)))
 | .dt am=>match k with
  |.tup ds=>a6 (am.length<16777216) ((cA (ll ds)).bind λk=>.ok (.dt (putK k v am)))
  |_=>.no
 |_=>.no
def pe(i:Nat)(k:E):E:=λe=>(k e).bind λd=>(wV i e).bind λw=>(vK w d).bind λo=>.ok (.bl o.isSome)
def rO(i:Nat)(k:E):E:=λe=>(k e).bind λd=>(wV i e).bind λw=>(vK w d).bind cA
def iR(i:Nat)(k v:E):S:=λe=>(v e).bind λx=>(k e).bind λd=>(wV i e).bind λw=>(uJ w d x).bind λw'=>.ok (.nx (e.set i (ab w')))
def jL:Out->Rs W
 |.rt w=>.ok w
 |.nx _=>.ok (.d .non)
 |_=>.no
def eD(k n:Nat)(body:S):Fn:=λws=>a6 (ws.length=k) ((body (ws.map ab++dm (n-ws.length) ae)).bind jL)
def jb:Out->Rs W
 |.rt w=>.ok w
 |_=>.no
def fR(k n:Nat)(body:S):Fn:=λws=>a6 (ws.length=k) ((body (ws.map ab++dm (n-ws.length) ae)).bind jb)
def vB:Fn:=λ_=>.no
def jG(i j:Int):Prop:=(-(2 ^ 64)<i/\i<2 ^ 64)\/(-(2 ^ 64)<j/\j<2 ^ 64)
instance (i j:Int):Decidable (jG i j):=inferInstanceAs (Decidable (_\/_))
def jS(j:Int):Prop:=0<j/\j.natAbs.log2<9000
instance (j:Int):Decidable (jS j):=inferInstanceAs (Decidable (_/\_))
def Ca(i j:Int):Prop:=0<=j/\j<=1000000/\i.natAbs<2 ^ 64
instance (i j:Int):Decidable (Ca i j):=inferInstanceAs (Decidable (_/\_))
def aV:D->D->Rs D
 |.int i,.int j=>.ok (.int (i+j))
 |.str i,.str j=>a6 (i.length+j.length<=16777216) (.ok (.str (i++j)))
 |.lst i,.lst j=>a6 (i.length+j.length<=16777216) (.ok (.lst (i++j)))
 |_,_=>.no
def iK:D->D->Rs D
 |.int i,.int j=>.ok (.int (i-j))
 |_,_=>.no
def bp:D->D->Rs D
 |.int i,.int j=>a6 (jG i j) (.ok (.int (i*j)))
 |_,_=>.no
def bP:D->D->Rs D
 |.int i,.int j=>a6 (jS j) (.ok (.int (i/j)))
 |_,_=>.no
def aU:D->D->Rs D
 |.int i,.int j=>a6 (0<j) (.ok (.int (i%j)))
 |_,_=>.no
def uU:D->D->Rs D
 |.int i,.int j=>a6 (Ca i j) (.ok (.int (i ^ j.toNat)))
 |_,_=>.no
def gi:D->Rs D
 |.int i=>.ok (.int (-i))
 |_=>.no
def dB:D->D->Rs D
 |.int i,.int j=>.ok (.bl (decide (i<j)))
 |.str i,.str j=>.ok (.bl (decide (i.cps.toList<j.cps.toList)))
 |_,_=>.no
def ve:D->D->Rs D
 |.int i,.int j=>.ok (.bl (decide (j<i)))
 |.str i,.str j=>.ok (.bl (decide (j.cps.toList<i.cps.toList)))
 |_,_=>.no
def dZ(x y:D):Rs D:=a6 (x.dep<=16) (.ok (.bl (bi x y)))
def fH(x y:D):Rs D:=a6 (x.dep<=16) (.ok (.bl (!bi x y)))
def g6(x y:D):Rs D:=match y with
 |.lst ds=>a6 (cH ds<=16) (.ok (.bl (ds.any λe=>bi e x)))
 |.tup ds=>a6 (cH ds<=16) (.ok (.bl (ds.any λe=>bi e x)))
 | .str z=>match x with
  |.str s=>a6 (s.length=1) (.ok (.bl (decide (s.cps.getD 0 0∈z.cps.toList))))
  |_=>.no
 |_=>.no
def iu(x y:D):Rs D:=match y with
 |.lst ds=>a6 (cH ds<=16) (.ok (.bl (!ds.any λe=>bi e x)))
 |.tup ds=>a6 (cH ds<=16) (.ok (.bl (!ds.any λe=>bi e x)))
 |_=>.no
def aG(x y:D):Rs D:=match x,y with
 |.lst ds,.int i=>cA (cJ ds i)
 |.tup ds,.int i=>cA (cJ ds i)
 |.str z,.int i=>a6 (z.length<=16777216) ((cA (cJ z.cps.toList i)).bind λc=>.ok (.str ⟨#[c]⟩))
 |_,_=>.no
def cT:List D->Rs D
 |[.lst ds]=>.ok (.int ds.length)
 |[.tup ds]=>.ok (.int ds.length)
 |[.str z]=>a6 (z.length<=16777216) (.ok (.int z.length))
 |_=>.no
def gI:List D->Rs D
 |[.int i,.int j]=>.ok (.int (max i j))
 |_=>.no
def ko:List D->Rs D
 |[.int i,.int j]=>.ok (.int (min i j))
 |_=>.no
def yS:List D->Rs D
 |[.lst ds]=>.ok (.lst ds)
 |[.tup ds]=>.ok (.lst ds)
 |_=>.no
def uZ:List D->Rs D
 |[.lst ds]=>.ok (.tup ds)
 |[.tup ds]=>.ok (.tup ds)
 |_=>.no
def m7(t:String):D->Bool
 |.non=>false
 |.bl _=>t == "bool" || t == "int"
 |.int _=>t == "int"
 |.str _=>t == "str"
 |.lst _=>t == "list"
 |.tup _=>t == "tuple"
def wf:D->String
 |.non => "NoneType" | .bl _ => "bool" | .int _ => "int" | .str _ => "str" | .lst _ => "list" | .tup _ => "tuple"
def cK(ts:List String)(x:D):Rs D:=.ok (.bl (ts.any λt=>m7 t x))
def iC:List D->Option (List Str)
 |[]=>ab []
 |.str b::r=>(iC r).map (b :: ·)
 |_=>ae
def qX(x y:D):Rs D:=match x,y with
 |.str sep,.lst ds=>(cA (iC ds)).bind λys=>a6 ((ys.map (·.length)).sum+ys.length*sep.length<=16777216) (.ok (.str (io sep ys)))
 |_,_=>.no
def met(val:Nat->Str):Nat->List Str
 |0=>[]
 |i+1=>if val i∈met val i then met val i else met val i++[val i]
end Mi
namespace L2
open PySem PySem.Spec PyProof.Rows
open Mi (D cH bi gG)
mutual
theorem um:∀d:D,bi d d=true
 |.non=>rfl
 |.bl b=>by simp[bi]
 |.int i=>by simp[bi]
 |.str x=>by simp[bi]
 |.lst ds=>by rw[bi];exact vQ ds
 |.tup ds=>by rw[bi];exact vQ ds
theorem vQ:∀ds:List D,gG ds ds=true
 |[]=>rfl
 |d::r=>by rw[gG,um d,vQ r];rfl
end
theorem qi:∀{ds es:List D},ds.length≠es.length->gG ds es=false
 |[],[],h=>absurd rfl h
 |[],_::_,_=>rfl
 |_::_,[],_=>rfl
 |d::r,e::s,h=>by rw[gG,qi (λz=>h (by rw[bW,bW,z])),tP]
theorem oD:∀{ds es:List D},ds.length=es.length->gG ds es=(bn ds.length).all λj=>bi (ds.getD j .non) (es.getD j .non)
 |[],[],_=>rfl
 |[],_::_,h=>by simp at h
 |_::_,[],h=>by simp at h
 |d::r,e::s,h=>by
  rw[gG,oD (by simpa using h),bW,List.range_succ_eq_map,List.all_cons,List.all_map];rfl
mutual
/-- the value v in the heap H is the tree d -/
def Rep(K:aB)(H:Hp):D->V->Prop
 |.non,v=>v=.non
 |.bl b,v=>v=.bl b
 |.int i,v=>v=.int i
 |.str x,v=>v=.str x
 |.lst ds,v=>∃a xs,v=.ref a/\cy K H a xs/\aX K H ds xs
 |.tup ds,v=>∃a xs,v=.ref a/\ee K H a xs/\aX K H ds xs
def aX(K:aB)(H:Hp):List D->List V->Prop
 |[],vs=>vs=[]
 |d::ds,vs=>∃v r,vs=v::r/\Rep K H d v/\aX K H ds r
end
theorem aX.length{K:aB}{H:Hp}:∀{ds:List D} {vs:List V},aX K H ds vs->ds.length=vs.length
 |[],vs,h=>by rw[aX]at h;subst h;rfl
 |d::ds,vs,h=>by
  rw[aX]at h;obtain⟨v,r,rfl,_,q⟩:=h;rw[bW,bW,aX.length q]
theorem aX.get{K:aB}{H:Hp}:∀{ds:List D} {vs:List V} {j:Nat} {v:V},aX K H ds vs->vs[j]? = ab v->Rep K H (ds.getD j .non) v
 |[],vs,j,v,h,e=>by rw[aX]at h;subst h;simp at e
 |d::ds,vs,0,v,h,e=>by
  rw[aX]at h;obtain⟨v',r,rfl,p,q⟩:=h;simp at e;subst e;exact p
 |d::ds,vs,j+1,v,h,e=>by
  rw[aX]at h;obtain⟨v',r,rfl,p,q⟩:=h;have:=aX.get (j:=j) (v:=v) q (by simpa using e);simpa using this
section
variable{X:Cx}{af:List (ah×Obj)}{σ:St}{H:Hp}{s:ak}
theorem Inv.C8(I:Inv X af σ H s){a:ah}{xs ys:List V}(h:cy X.K H a xs)(h':ee X.K H a ys):False:=by obtain⟨ai,_,p,_⟩:=I.list h;obtain⟨its',_,q,_⟩:=I.tuple h';obtain⟨o,n,e,c,_⟩:=p;obtain⟨o',e',c',_⟩:=q;rw[e]at e';cases e';rw[c]at c';exact absurd (t6 c') (by decide)
mutual
theorem Rep.inj(I:Inv X af σ H s):∀{d e:D} {v:V},Rep X.K H d v->Rep X.K H e v->d=e
 |.non,e,v,h,h'=>by
  rw[Rep]at h;subst h;cases e<;>rw[Rep]at h'<;>first|rfl|(obtain⟨_,_,z,_⟩:=h';cases z)|cases h'
 |.bl b,e,v,h,h'=>by
  rw[Rep]at h;subst h;cases e<;>rw[Rep]at h'<;>first|(obtain⟨_,_,z,_⟩:=h';cases z)|(cases h';rfl)|cases h'
 |.int b,e,v,h,h'=>by
  rw[Rep]at h;subst h;cases e<;>rw[Rep]at h'<;>first|(obtain⟨_,_,z,_⟩:=h';cases z)|(cases h';rfl)|cases h'
 |.str b,e,v,h,h'=>by
  rw[Rep]at h;subst h;cases e<;>rw[Rep]at h'<;>first|(obtain⟨_,_,z,_⟩:=h';cases z)|(cases h';rfl)|cases h'
 |.lst ds,e,v,h,h'=>by
  rw[Rep]at h;obtain⟨a,xs,rfl,q,r⟩:=h;cases e with
  |lst es=>
   rw[Rep]at h';obtain⟨a',xs',z,q',r'⟩:=h';cases z;rw[I.se q' q]at r';rw[aX.inj I r r']
  |tup es=>
   rw[Rep]at h';obtain⟨a',xs',z,q',r'⟩:=h';cases z;exact(I.C8 q q').elim
  |_=>rw[Rep]at h';cases h'
 |.tup ds,e,v,h,h'=>by
  rw[Rep]at h;obtain⟨a,xs,rfl,q,r⟩:=h;cases e with
  |tup es=>
   rw[Rep]at h';obtain⟨a',xs',z,q',r'⟩:=h';cases z;rw[I.wu q' q]at r';rw[aX.inj I r r']
  |lst es=>
   rw[Rep]at h';obtain⟨a',xs',z,q',r'⟩:=h';cases z;exact(I.C8 q' q).elim
  |_=>rw[Rep]at h';cases h'
theorem aX.inj(I:Inv X af σ H s):∀{ds es:List D} {vs:List V},aX X.K H ds vs->aX X.K H es vs->ds=es
 |[],es,vs,h,h'=>by
  rw[aX]at h;subst h;cases es with
  |nil=>rfl
  |cons e es=>rw[aX]at h';obtain⟨_,_,z,_⟩:=h';cases z
 |d::ds,es,vs,h,h'=>by
  rw[aX]at h;obtain⟨v,r,rfl,p,q⟩:=h;cases es with
  |nil=>rw[aX]at h';cases h'
  |cons e es=>
   rw[aX]at h';obtain⟨v',r',z,p',q'⟩:=h';cases z;rw[Rep.inj I p p',aX.inj I q q']
end
theorem ww:∀{ds:List D} {j:Nat},(ds.getD j .non).dep<=cH ds
 |[],j=>by simp[D.dep]
 |d::ds,0=>by simp[cH];omega
 |d::ds,j+1=>by
  have:=ww (ds:=ds) (j:=j);have e:(d::ds).getD (j+1) .non=ds.getD j .non:=by simp
  rw[e,cH];omega
def _root_.Mi.D.flat:D->Bool
 |.lst _=>false
 |.tup _=>false
 |_=>true
def _root_.Mi.D.toV:D->V
 |.non=>.non|.bl b=>.bl b|.int i=>.int i|.str x=>.str x|.lst _=>.non|.tup _=>.non
theorem Rep.flat{K:aB}:∀{d:D} {v:V},d.flat=true->Rep K H d v->v=d.toV/\vt v=true
 |.non,v,_,h=>by rw[Rep]at h;subst h;exact⟨rfl,rfl⟩
 |.bl b,v,_,h=>by rw[Rep]at h;subst h;exact⟨rfl,rfl⟩
 |.int b,v,_,h=>by rw[Rep]at h;subst h;exact⟨rfl,rfl⟩
 |.str b,v,_,h=>by rw[Rep]at h;subst h;exact⟨rfl,rfl⟩
 |.lst _,v,z,h=>by cases z
 |.tup _,v,z,h=>by cases z
theorem GU:∀{d e:D},d.flat=true->e.flat=true->bi d e=Ax d.toV e.toV:=by intro d e h1 h2;cases d<;>cases e<;>first|rfl|exact absurd (show false=true from h1) cN|exact absurd (show false=true from h2) cN
open SeqAt in
theorem AF(I:Inv X af σ H s):∀(n:Nat) (d e:D) (A:br) {x y:V} {u u':ag},d.dep<=n->A.units+n<cLine->Rep X.K H d x->Rep X.K H e y->RelV x u->RelV y u'->EqAt A s u u' (bi d e):=by
 intro n
 induction n using Nat.strongRecOn with
 |ind n ih=>
  intro d e A x y u u' hd hu h h' r r';have hu0:A.units<cLine:=by omega
  by_cases hdf:d.flat=true
  ·obtain⟨ex,fx⟩:=h.flat hdf;subst ex;by_cases hef:e.flat=true
   ·obtain⟨ey,fy⟩:=h'.flat hef;subst ey;rw[GU hdf hef];exact IL r r' fx fy
   ·cases e with
    |lst es=>
     rw[Rep]at h';obtain⟨a,xs,rfl,q,_⟩:=h';cases r';obtain⟨ai,_,p,_⟩:=I.list q;cases d with
     |non=>cases r;exact EqAt.none_list p.isList hu0
     |bl b=>cases r;exact EqAt.bool_list b p.isList hu0
     |int b=>obtain⟨t,rfl⟩:=r;exact EqAt.int_list b t p.isList hu0
     |str b=>obtain⟨t,rfl⟩:=r;exact EqAt.str_list b t p.isList hu0
     |_=>cases hdf
    |tup es=>
     rw[Rep]at h';obtain⟨a,xs,rfl,q,_⟩:=h';cases r';obtain⟨ai,_,p,_⟩:=I.tuple q;cases d with
     |non=>cases r;exact EqAt.none_tuple p hu0
     |bl b=>cases r;exact EqAt.bool_tuple b p hu0
     |int b=>obtain⟨t,rfl⟩:=r;exact EqAt.int_tuple b t p hu0
     |str b=>obtain⟨t,rfl⟩:=r;exact EqAt.str_tuple b t p hu0
     |_=>cases hdf
    |_=>exact absurd rfl hef
  ·by_cases hef:e.flat=true
   ·obtain⟨ey,fy⟩:=h'.flat hef;subst ey;cases d with
    |lst ds=>
     rw[Rep]at h;obtain⟨a,xs,rfl,q,_⟩:=h;cases r;obtain⟨ai,_,p,_⟩:=I.list q;cases e with
     |non=>cases r';exact EqAt.list_none p.isList hu0
     |bl b=>cases r';exact EqAt.list_bool b p.isList hu0
     |int b=>obtain⟨t,rfl⟩:=r';exact EqAt.list_int b t p.isList hu0
     |str b=>obtain⟨t,rfl⟩:=r';exact EqAt.list_str b t p.isList hu0
     |_=>cases hef
    |tup ds=>
     rw[Rep]at h;obtain⟨a,xs,rfl,q,_⟩:=h;cases r;obtain⟨ai,_,p,_⟩:=I.tuple q;cases e with
     |non=>cases r';exact EqAt.tuple_none p hu0
     |bl b=>cases r';exact EqAt.tuple_bool b p hu0
     |int b=>obtain⟨t,rfl⟩:=r';exact EqAt.tuple_int b t p hu0
     |str b=>obtain⟨t,rfl⟩:=r';exact EqAt.tuple_str b t p hu0
     |_=>cases hef
    |_=>exact absurd rfl hdf
   ·-- both are lists or tuples
    have item:∀{ds es:List D} {xs ys:List V} {ai its':List ag},cH ds+1<=n->aX X.K H ds xs->aX X.K H es ys->Vals xs ai->Vals ys its' ->
     ∀j (h1:j<ai.toArray.size) (h2:j<its'.toArray.size),EqAt A.in1 s ai.toArray[j] its'.toArray[j] (bi (ds.getD j .non) (es.getD j .non)):=by
     intro ds es xs ys ai its' hn q q' v v' j h1 h2;have h1':j<ai.length:=by simpa using h1
     have h2':j<its'.length:=by simpa using h2
     have e1:j<xs.length:=by rw[v.length];exact h1'
     have e2:j<ys.length:=by rw[v'.length];exact h2'
     have g1:xs[j]? = ab xs[j]:=by simp[e1]
     have g2:ys[j]? = ab ys[j]:=by simp[e2]
     obtain⟨w1,k1,r1⟩:=v.get g1;obtain⟨w2,k2,r2⟩:=v'.get g2;have t1:ai.toArray[j]=w1:=by obtain⟨_,k1⟩:=cM.mp k1;simpa using k1
     have t2:its'.toArray[j]=w2:=by obtain⟨_,k2⟩:=cM.mp k2;simpa using k2
     rw[t1,t2];have:=ww (ds:=ds) (j:=j);refine ih (n-1) (by omega) _ _ A.in1 (by omega) ?_ (q.get g1) (q'.get g2) r1 r2;show A.units+1+(n-1)<cLine;omega
    cases d with
    |lst ds=>
     rw[Rep]at h;obtain⟨a,xs,rfl,q,rr⟩:=h;cases r;obtain⟨ai,v,p,_⟩:=I.list q;have hn:cH ds+1<=n:=by simpa [D.dep]using hd
     cases e with
     |lst es=>
      rw[Rep]at h';obtain⟨b,ys,rfl,q',rr'⟩:=h';cases r';obtain⟨its',v',p',_⟩:=I.list q';by_cases hab:a=b
      ·subst hab;rw[I.se q' q]at rr';rw[aX.inj I rr rr',um];exact EqAt.same _
      ·have l1:=rr.length;have l2:=rr'.length;have l3:=v.length;have l4:=v'.length;by_cases hl:ds.length=es.length
       ·rw[bi,oD hl];have:=RcAt.lists p.isList p'.isList (by simp;omega) hu0 (item hn rr rr' v v');have e:ai.toArray.size=ds.length:=by simp;omega
        rw[e]at this;exact .of_refs hab this
       ·rw[bi,qi hl];exact .of_refs hab (RcAt.lists_lengths p.isList p'.isList (by simp;omega) hu0)
     |tup es=>
      rw[Rep]at h';obtain⟨b,ys,rfl,q',_⟩:=h';cases r';obtain⟨its',_,p',_⟩:=I.tuple q';exact EqAt.list_tuple p.isList p' hu0
     |_=>exact absurd rfl hef
    |tup ds=>
     rw[Rep]at h;obtain⟨a,xs,rfl,q,rr⟩:=h;cases r;obtain⟨ai,v,p,_⟩:=I.tuple q;have hn:cH ds+1<=n:=by simpa [D.dep]using hd
     cases e with
     |tup es=>
      rw[Rep]at h';obtain⟨b,ys,rfl,q',rr'⟩:=h';cases r';obtain⟨its',v',p',_⟩:=I.tuple q';by_cases hab:a=b
      ·subst hab;rw[I.wu q' q]at rr';rw[aX.inj I rr rr',um];exact EqAt.same _
      ·have l1:=rr.length;have l2:=rr'.length;have l3:=v.length;have l4:=v'.length;have R:=RcAt.tuples p p' hu0 (item hn rr rr' v v');have e1:ai.toArray.size=ds.length:=by simp;omega
       have e2:its'.toArray.size=es.length:=by simp;omega
       rw[e1,e2]at R;by_cases hl:ds.length=es.length
       ·rw[bi,oD hl];rw[hl,Nat.min_self,jQ,Bool.and_true,<- hl]at R;exact .of_refs hab R
       ·rw[bi,qi hl];have:(ds.length==es.length)=false:=by simpa using hl
        rw[this,tP]at R;exact .of_refs hab R
     |lst es=>
      rw[Rep]at h';obtain⟨b,ys,rfl,q',_⟩:=h';cases r';obtain⟨its',_,p',_⟩:=I.list q';exact EqAt.tuple_list p p'.isList hu0
     |_=>exact absurd rfl hef
    |_=>exact absurd rfl hdf
def sw(K:aB)(neg:Bool):R2:=λx y H Q=>∃(p:ah) (xs:List V) (d:D) (ds:List D),y=.ref p/\(cy K H p xs\/ee K H p xs)/\Rep K H d x/\aX K H ds xs/\cH ds<=16 /\
 Q (.bl (if neg then !ds.any (λe=>bi e d)else ds.any (λe=>bi e d))) H
theorem aX.main{K:aB}:∀{ds:List D} {xs:List V} {us:List ag},aX K H ds xs->Vals xs us->∀u∈us,∃b∈ds,∃y,Rep K H b y/\RelV y u
 |[],xs,us,hr,hv,u,hu=>by
  rw[aX]at hr;subst hr;cases hv;cases hu
 |b::bs,xs,us,hr,hv,u,hu=>by
  rw[aX]at hr;obtain⟨y,r,rfl,p,q⟩:=hr;cases hv with
  |cons ry t=>
   rcases bJ.mp hu with rfl|hu
   ·exact⟨b,cn,_,p,ry⟩
   ·obtain⟨b',hb',w⟩:=aX.main q t u hu;exact⟨b',cm _ hb',w⟩
theorem aX.any{K:aB}{e:ag->Bool}{f:D->Bool}(key:∀b y u,Rep K H b y->RelV y u->e u=f b):∀{ds:List D} {xs:List V} {us:List ag},aX K H ds xs->Vals xs us->us.any e=ds.any f
 |[],xs,us,hr,hv=>by
  rw[aX]at hr;subst hr;cases hv;rfl
 |b::bs,xs,us,hr,hv=>by
  rw[aX]at hr;obtain⟨y,r,rfl,p,q⟩:=hr;cases hv with
  |cons ry t=>rw[iU,iU,key b y _ p ry,aX.any key q t]
theorem BW:∀{ds:List D} {b:D},b∈ds->b.dep<=cH ds
 |d::ds,b,h=>by
  rw[cH];rcases bJ.mp h with rfl|h
  ·omega
  ·have:=BW h;omega
open Classical in
theorem rM(I:Inv X af σ H s){A:br}(hu:A.units+16<cLine){d:D}{x:V}{v:ag}(hx:Rep X.K H d x)(rx:RelV x v){ds:List D}{xs:List V}{us:List ag}(hd:cH ds<=16)(hr:aX X.K H ds xs)(hv:Vals xs us) :
 ∃e:ag->Bool,(∀u∈us,SeqAt.EqAt A s u v (e u))/\us.any e=ds.any (λb=>bi b d):=by
 have key:∀b y u,Rep X.K H b y->RelV y u->(λu=>decide (∃b y,Rep X.K H b y/\RelV y u/\bi b d=true)) u=bi b d:=by
  intro b y u hb hy;cases hp:bi b d with
  |true=>exact cE ⟨b,y,hb,hy,hp⟩
  |false=>
   refine bw ?_;rintro⟨b',y',hb',hy',hp'⟩;have:=hy.inj hy';subst this;rw[Rep.inj I hb hb',hp']at hp;cases hp
 refine⟨λu=>decide (∃b y,Rep X.K H b y/\RelV y u/\bi b d=true),λu hu'=>?_,aX.any key hr hv⟩;obtain⟨b,hb,y,rb,ry⟩:=aX.main hr hv u hu';rw[key b y u rb ry];exact AF I 16 b d A (dQ (BW hb) hd) hu rb hx ry rx
theorem Jk(hu:X.A.units+64<cLine):bY X (compareOp .In) (sw X.K false):=by
 intro af s σ H x y v u Q I rx ry h;obtain⟨p,xs,d,ds,rfl,hq,hx,hr,hd,q⟩:=h;cases ry;have hu1:X.A.in1.units+16<cLine:=by show X.A.units+1+16<cLine;omega
 rcases hq with hq|hq
 ·obtain⟨ai,r,pl,hz⟩:=I.list hq;obtain⟨e,he,ea⟩:=rM I hu1 hx rx hd hr r;refine SeqAt.in_listAt e pl.isList (λw hw=>he w (by simpa using hw)) ⟨.bl _,H,I,rfl,?_⟩;rw[show ai.toArray.any e=ai.any e by simp,ea];exact q
 ·obtain⟨ai,r,pl,hz⟩:=I.tuple hq;obtain⟨e,he,ea⟩:=rM I hu1 hx rx hd hr r;refine SeqAt.in_tupleAt e pl (λw hw=>he w (by simpa using hw)) ⟨.bl _,H,I,rfl,?_⟩;rw[show ai.toArray.any e=ai.any e by simp,ea];exact q
theorem uI(hu:X.A.units+64<cLine):bY X (compareOp .NotIn) (sw X.K true):=by
 intro af s σ H x y v u Q I rx ry h;obtain⟨p,xs,d,ds,rfl,hq,hx,hr,hd,q⟩:=h;cases ry;have hu1:X.A.in1.units+16<cLine:=by show X.A.units+1+16<cLine;omega
 rcases hq with hq|hq
 ·obtain⟨ai,r,pl,hz⟩:=I.list hq;obtain⟨e,he,ea⟩:=rM I hu1 hx rx hd hr r;refine SeqAt.notIn_listAt e pl.isList (λw hw=>he w (by simpa using hw)) ⟨.bl _,H,I,rfl,?_⟩;rw[show ai.toArray.any e=ai.any e by simp,ea];exact q
 ·obtain⟨ai,r,pl,hz⟩:=I.tuple hq;obtain⟨e,he,ea⟩:=rM I hu1 hx rx hd hr r;refine SeqAt.notIn_tupleAt e pl (λw hw=>he w (by simpa using hw)) ⟨.bl _,H,I,rfl,?_⟩;rw[show ai.toArray.any e=ai.any e by simp,ea];exact q
end
end L2
namespace L2
open PySem PySem.Spec PyProof.Rows
theorem qM{H:Hp}{p:ah}{o:HO}(hp:H p=ae):b8 H (upd H p o):=λb u e=>by rw[aQ (cI e hp)];exact e
theorem yq:∀{ys:List Str} {us:List ag},Vals (ys.map V.str) us->StrsAre us ys
 |[],_,.nil=>.nil
 |y::ys,_,.cons r t=>by
  obtain⟨tk,rfl⟩:=(show∃tk,_=ke y tk from r);exact .cons y tk (yq t)
section
variable{X:Cx}
def rJoin(K:aB):V->List V->Hp->VK->Prop:=λx vs H Q=>∃(sep:Str) (p:ah) (ys:List Str),x=.str sep/\vs=[.ref p]/\cy K H p (ys.map V.str)/\(ys.map (·.length)).sum+ys.length*sep.length<=16777216/\Q (.str (io sep ys)) H
theorem Dw:j3 X "str.join" (rJoin X.K):=by intro af s σ H x vs v us Q I rx rv h;obtain⟨sep,p,ys,rfl,rfl,hq,hz,q⟩:=h;obtain⟨t,rfl⟩:=rx;obtain⟨u,rfl,ru⟩:=rv.one;cases ru;obtain⟨ai,r,pl,_⟩:=I.list hq;refine join_list pl.isList (by simpa using yq r) hz λt' k=>⟨.str (io sep ys),H,I.tok k,⟨t',?_⟩,q⟩;show ke (Builtin.Str.glued sep ys) t'=_;rw[StrLaws.glued_eq_join]
def zW(i j:Int):Prop:=0<j/\j.natAbs.log2<9000
theorem gP:bY X (binaryOp .FloorDiv) (rI zW λi j=>.int (i/j)):=sJ λi j _ _ _ _ _ hc q=>by
 refine floordiv_int (by have:=hc.1;omega) ?_ (.inl (PyProof.noPylong_of_log2 hc.2));rw[Int.fdiv_eq_ediv_of_nonneg i (by have:=hc.1;omega)];exact q
theorem Gp(hc:X.calm=true):fc X (.builtin "max") (λxs H Q=>∃i j z,xs=[.int i,.int j]/\max i j=z/\Q (.int z) H):=by intro af s σ H xs us Q I r ⟨i,j,z,e1,e2,q⟩;subst e2;refine KZ hc af s σ H xs us Q I r ⟨i,j,e1,?_⟩;rw[show(if j>i then j else i)=max i j by split<;>omega];exact q
theorem K1(hc:X.calm=true):fc X (.builtin "min") (λxs H Q=>∃i j z,xs=[.int i,.int j]/\min i j=z/\Q (.int z) H):=by intro af s σ H xs us Q I r ⟨i,j,z,e1,e2,q⟩;subst e2;refine J9 hc af s σ H xs us Q I r ⟨i,j,e1,?_⟩;rw[show(if j<i then j else i)=min i j by split<;>omega];exact q
end
end L2
namespace A
open PySem L2 PyProof.Rows
open Mi (D W Rs Fin ao)
inductive P2{α β:Type}(F:α->β->Prop):List α->List β->Prop
 |nil:P2 F [] []
 |cons {a b l m}:F a b->P2 F l m->P2 F (a::l) (b::m)
section
variable{α β:Type}{F G:α->β->Prop}
theorem P2.imp(h:∀a b,F a b->G a b):∀{l m},P2 F l m->P2 G l m
 |_,_,.nil=>.nil
 |_,_,.cons x t=>.cons (h _ _ x) (t.imp h)
theorem P2.len:∀{l m},P2 F l m->l.length=m.length
 |_,_,.nil=>rfl
 |_,_,.cons _ t=>by rw[bW,bW,t.len]
theorem P2.append:∀{l m l' m'},P2 F l m->P2 F l' m'->P2 F (l++l') (m++m')
 |_,_,_,_,.nil,s=>s
 |_,_,_,_,.cons x t,s=>.cons x (t.append s)
theorem P2.get:∀{l m} {i:Nat} {a b},P2 F l m->l[i]? = ab a->m[i]? = ab b->F a b
 |_,_,_,_,_,.nil,e,_=>by simp at e
 |_,_,0,_,_,.cons x _,e,e'=>by simp at e e';subst e e';exact x
 |_,_,i+1,a,b,.cons _ t,e,e'=>t.get (i:=i) (by simpa using e) (by simpa using e')
theorem P2.getL{l m}{i:Nat}{a}(t:P2 F l m)(e:l[i]? = ab a):∃b,m[i]? = ab b/\F a b:=by
 have h:i<m.length:=by rw[<- t.len];exact(cM.mp e).1
 exact⟨m[i],by simp[h],t.get e (by simp[h])⟩
theorem P2.uo{l m}{i:Nat}{b}(t:P2 F l m)(e:m[i]? = ab b):∃a,l[i]? = ab a/\F a b:=by
 have h:i<l.length:=by rw[t.len];exact(cM.mp e).1
 exact⟨l[i],by simp[h],t.get (by simp[h]) e⟩
theorem P2.set{a b}(x:F a b):∀{l m} (i:Nat),P2 F l m->P2 F (l.set i a) (m.set i b)
 |_,_,_,.nil=>.nil
 |_,_,0,.cons _ t=>.cons x t
 |_,_,i+1,.cons y t=>.cons y (t.set x i)
theorem P2.take:∀{l m} (n:Nat),P2 F l m->P2 F (l.take n) (m.take n)
 |_,_,0,_=>.nil
 |_,_,_+1,.nil=>.nil
 |_,_,n+1,.cons x t=>.cons x (t.take n)
theorem P2.drop:∀{l m} (n:Nat),P2 F l m->P2 F (l.drop n) (m.drop n)
 |_,_,0,t=>t
 |_,_,_+1,.nil=>.nil
 |_,_,n+1,.cons _ t=>t.drop n
theorem P2.erase:∀{l m} (n:Nat),P2 F l m->P2 F (l.eraseIdx n) (m.eraseIdx n)
 |_,_,_,.nil=>.nil
 |_,_,0,.cons _ t=>t
 |_,_,n+1,.cons x t=>.cons x (t.erase n)
theorem P2.rev:∀{l m},P2 F l m->P2 F l.reverse m.reverse
 |_,_,.nil=>.nil
 |_,_,.cons x t=>by rw[mh,mh];exact t.rev.append (.cons x .nil)
end
def Lst(H:Hp)(a:ah)(xs:List V):Prop:=H a=ab (.lst xs)\/∃o,H a=ab (.frz o (.lst xs))
mutual
def Rep(H:Hp):D->V->Prop
 |.non,v=>v=.non
 |.bl b,v=>v=.bl b
 |.int i,v=>v=.int i
 |.str x,v=>v=.str x
 |.lst ds,v=>∃a xs,v=.ref a/\Lst H a xs/\aX H ds xs
 |.tup ds,v=>∃a xs,v=.ref a/\H a=ab (.tup xs)/\aX H ds xs
def aX(H:Hp):List D->List V->Prop
 |[],vs=>vs=[]
 |d::ds,vs=>∃v r,vs=v::r/\Rep H d v/\aX H ds r
end
theorem lO{H:Hp}:∀{ds:List D} {vs:List V},aX H ds vs↔P2 (Rep H) ds vs
 |[],vs=>by
  rw[aX];exact⟨λh=>by subst h;exact .nil,λh=>by cases h;rfl⟩
 |d::ds,vs=>by
  rw[aX];constructor
  ·rintro⟨v,r,rfl,p,q⟩;exact .cons p (lO.mp q)
  ·intro h;cases h with
   |cons p q=>exact⟨_,_,rfl,p,lO.mpr q⟩
@[simp] theorem Dk {H:Hp} {v:V}:Rep H .non v↔v=.non:=by rw[Rep]
@[simp] theorem rK {H:Hp} {v:V} {b:Bool}:Rep H (.bl b) v↔v=.bl b:=by rw[Rep]
@[simp] theorem mH {H:Hp} {v:V} {b:Int}:Rep H (.int b) v↔v=.int b:=by rw[Rep]
@[simp] theorem lc {H:Hp} {v:V} {b:Str}:Rep H (.str b) v↔v=.str b:=by rw[Rep]
theorem iM{H:Hp}{v:V}{ds:List D}:Rep H (.lst ds) v↔∃a xs,v=.ref a/\Lst H a xs/\P2 (Rep H) ds xs:=by rw[Rep];exact⟨λ⟨a,xs,e,l,r⟩=>⟨a,xs,e,l,lO.mp r⟩,λ⟨a,xs,e,l,r⟩=>⟨a,xs,e,l,lO.mpr r⟩⟩
theorem i4{H:Hp}{v:V}{ds:List D}:Rep H (.tup ds) v↔∃a xs,v=.ref a/\H a=ab (.tup xs)/\P2 (Rep H) ds xs:=by rw[Rep];exact⟨λ⟨a,xs,e,l,r⟩=>⟨a,xs,e,l,lO.mp r⟩,λ⟨a,xs,e,l,r⟩=>⟨a,xs,e,l,lO.mpr r⟩⟩
theorem Lst.same{H H':Hp}{a:ah}{xs:List V}(s:b8 H H')(h:Lst H a xs):Lst H' a xs:=by
 rcases h with h|⟨o,h⟩
 ·exact .inl (s _ _ h)
 ·exact .inr ⟨o,s _ _ h⟩
theorem Lst.sq{K:aB}{H:Hp}{a:ah}{xs:List V}(h:Lst H a xs):cy K H a xs:=.inl h
mutual
theorem iO{H H':Hp}(s:b8 H H'):∀{d:D} {v:V},Rep H d v->Rep H' d v
 |.non,v,h=>by rw[Rep]at h ⊢;exact h
 |.bl b,v,h=>by rw[Rep]at h ⊢;exact h
 |.int i,v,h=>by rw[Rep]at h ⊢;exact h
 |.str x,v,h=>by rw[Rep]at h ⊢;exact h
 |.lst ds,v,h=>by
  rw[Rep]at h ⊢;obtain⟨a,xs,e,q,r⟩:=h;exact⟨a,xs,e,q.same s,vR s r⟩
 |.tup ds,v,h=>by
  rw[Rep]at h ⊢;obtain⟨a,xs,e,q,r⟩:=h;exact⟨a,xs,e,s _ _ q,vR s r⟩
theorem vR{H H':Hp}(s:b8 H H'):∀{ds:List D} {vs:List V},aX H ds vs->aX H' ds vs
 |[],vs,h=>by rw[aX]at h ⊢;exact h
 |d::ds,vs,h=>by
  rw[aX]at h ⊢;obtain⟨v,r,e,p,q⟩:=h;exact⟨v,r,e,iO s p,vR s q⟩
end
theorem dG{H H':Hp}(s:b8 H H'){ds:List D}{vs:List V}(h:P2 (Rep H) ds vs):P2 (Rep H') ds vs:=h.imp λ_ _=>iO s
mutual
theorem jM(K:aB){H:Hp}:∀{d:D} {v:V},Rep H d v->L2.Rep K H d v
 |.non,v,h=>by rw[Rep]at h;rw[L2.Rep];exact h
 |.bl b,v,h=>by rw[Rep]at h;rw[L2.Rep];exact h
 |.int i,v,h=>by rw[Rep]at h;rw[L2.Rep];exact h
 |.str x,v,h=>by rw[Rep]at h;rw[L2.Rep];exact h
 |.lst ds,v,h=>by
  rw[Rep]at h;rw[L2.Rep];obtain⟨a,xs,e,q,r⟩:=h;exact⟨a,xs,e,q.sq,sE K r⟩
 |.tup ds,v,h=>by
  rw[Rep]at h;rw[L2.Rep];obtain⟨a,xs,e,q,r⟩:=h;exact⟨a,xs,e,.inl (.inl q),sE K r⟩
theorem sE(K:aB){H:Hp}:∀{ds:List D} {vs:List V},aX H ds vs->L2.aX K H ds vs
 |[],vs,h=>by rw[aX]at h;rw[L2.aX];exact h
 |d::ds,vs,h=>by
  rw[aX]at h;rw[L2.aX];obtain⟨v,r,e,p,q⟩:=h;exact⟨v,r,e,jM K p,sE K q⟩
end
def NT:HO->Prop
 |.tbl _ _=>False
 |_=>True
def NW:HO->Prop
 |.tbl _ _=>False
 |.frz _ (.lst _)=>False
 |_=>True
theorem NW.nt:∀{o:HO},NW o->NT o:=λ{o} c=>by cases o<;>first|exact c.elim|trivial
structure Old(H H':Hp):Prop where
 nt:∀a o,H a=ab o->NT o->H' a=ab o
 dom:∀a,H' a=ae->H a=ae
 tb:∀a w ps,H a=ab (.tbl w ps)->∃ps',H' a=ab (.tbl w ps')
theorem Old.at{H H':Hp}(s:Old H H'){a:ah}{o:HO}(q:H a=ab o)(n:NT o:=by trivial):H' a=ab o:=s.nt a o q n
theorem Old.free{H H':Hp}(s:Old H H'){a:ah}(h:H' a=ae):H a=ae:=s.dom a h
theorem Old.refl(H:Hp):Old H H:=⟨λ_ _ e _=>e,λ_ e=>e,λ_ _ ps e=>⟨ps,e⟩⟩
theorem Old.trans{H H1 H2:Hp}(a:Old H H1)(b:Old H1 H2):Old H H2:=⟨λx o e n=>b.nt x o (a.nt x o e n) n,λx e=>a.dom x (b.dom x e),λx w ps e=>let ⟨p1,e1⟩:=a.tb x w ps e;b.tb x w p1 e1⟩
theorem Old.of{H H':Hp}(s:b8 H H'):Old H H':=⟨λa o e _=>s a o e,λa e=>s.free e,λa w ps e=>⟨ps,s a _ e⟩⟩
theorem Old.put{H0 H:Hp}(s:Old H0 H){p:ah}{o u:HO}(h0:H0 p=ae)(h:H p=ab u):Old H0 (upd H p o):=
 ⟨λa v e n=>by rw[aQ (cI e h0)];exact s.nt a v e n,λa e=>by
  by_cases hp:a=p
  ·subst hp;exact h0
  ·rw[aQ hp]at e;exact s.dom a e,λa w ps e=>by rw[aQ (cI e h0)];exact s.tb a w ps e⟩
def Bd(c:ah)(q:Str):aI->Prop:=λh=>∃o vs t,h.get? c=ab o/\o.data=.fields vs/\vs[1]? = ab (.str q t)
class a7 where
 l:List (ah×Str)
 cl:String->ah
variable[Tb:a7]
structure jk(H:Hp):Prop where
 has:∀p∈Tb.l,∃ps,H p.1=ab (.tbl p.2 ps)
 cd:∀T q ps,H T=ab (.tbl q ps)->TriplesOk ps.toList/\∀pos v,codeAmong pos ps.toList=ab v->∃c,v=.ref c/\H c=ab (.ext (Bd c q))
 fz:∀a o xs,H a=ab (.frz o (.lst xs))->∀x∈xs,∃i,x=V.int i
theorem jk.new{H:Hp}(k:jk H){p:ah}{o:HO}(h:H p=ae)(n:NW o):jk (upd H p o):=⟨λr hr=>let ⟨ps,e⟩:=k.has r hr;⟨ps,by rw[aQ (cI e h)];exact e⟩,λT q ps e=>by
 by_cases hp:T=p
 ·subst hp;rw[b9]at e;cases e;exact n.elim
 ·rw[aQ hp]at e;obtain⟨t,r⟩:=k.cd T q ps e;refine⟨t,λpos v z=>?_⟩;obtain⟨c,e1,e2⟩:=r pos v z;exact⟨c,e1,by rw[aQ (cI e2 h)];exact e2⟩,λa q xs e=>by
 by_cases hp:a=p
 ·subst hp;rw[b9]at e;cases e;exact n.elim
 ·rw[aQ hp]at e;exact k.fz a q xs e⟩
def Cell:HO->Prop
 |.lst _=>True
 |.dK _=>True
 |.dT _=>True
 |.ext _=>True
 |_=>False
theorem Cell.nw:∀{o:HO},Cell o->NW o:=λ{o} c=>by cases o<;>first|exact c.elim|trivial
theorem Cell.nt:∀{o:HO},Cell o->NT o:=λ{o} c=>by cases o<;>first|exact c.elim|trivial
def ox:HO->Prop
 |.lst _=>True
 |.dK _=>True
 |.dT _=>True
 |_=>False
theorem ox.cell:∀{o:HO},ox o->Cell o:=λ{o} c=>by cases o<;>first|exact c.elim|trivial
theorem jk.put{H:Hp}(k:jk H){p:ah}{o u:HO}(h:H p=ab u)(c:ox u)(n:NW o):jk (upd H p o):=⟨λr hr=>let ⟨ps,e⟩:=k.has r hr;⟨ps,by rw[aQ (λy=>by rw[y,h]at e;cases e;exact c.elim)];exact e⟩,λT q ps e=>by
 by_cases hp:T=p
 ·subst hp;rw[b9]at e;cases e;exact n.elim
 ·rw[aQ hp]at e;obtain⟨t,r⟩:=k.cd T q ps e;refine⟨t,λpos v z=>?_⟩;obtain⟨x,e1,e2⟩:=r pos v z;refine⟨x,e1,?_⟩;rw[aQ (λy=>by subst y;rw[h]at e2;cases e2;exact c.elim)];exact e2,λa q xs e=>by
 by_cases hp:a=p
 ·subst hp;rw[b9]at e;cases e;exact n.elim
 ·rw[aQ hp]at e;exact k.fz a q xs e⟩
structure Vw(H Hv:Hp):Prop where
 sub:b8 Hv H
 tup:∀a xs,H a=ab (.tup xs)->Hv a=ab (.tup xs)
 frz:∀a o u,H a=ab (.frz o u)->Hv a=ab (.frz o u)
 cd:jk H
 nv:∀a o,Hv a=ab o->NT o
structure aY(H Hv H' Hv':Hp):Prop where
 old:Old H H'
 vis:b8 Hv Hv'
 vw:Vw H' Hv'
 hid:∀a o,H a=ab o->Hv a=ae->Hv' a=ae
theorem aY.refl{H Hv:Hp}(v:Vw H Hv):aY H Hv H Hv:=⟨Old.refl _,b8.refl _,v,λ_ _ _ e=>e⟩
theorem Old.some{H H':Hp}(s:Old H H'){a:ah}{o:HO}(q:H a=ab o):∃o',H' a=ab o':=by
 cases h:H' a with
 |none=>rw[s.dom a h]at q;cases q
 |some o'=>exact⟨o',rfl⟩
theorem aY.trans{H Hv H1 Hv1 H2 Hv2:Hp}(g:aY H Hv H1 Hv1)(k:aY H1 Hv1 H2 Hv2):aY H Hv H2 Hv2:=⟨g.old.trans k.old,g.vis.trans k.vis,k.vw,λa o e n=>let ⟨o',e'⟩:=g.old.some e;k.hid a o' e' (g.hid a o e n)⟩
theorem qe{H Hv:Hp}(v:Vw H Hv){p:ah}(h:H p=ae):Hv p=ae:=v.sub.free h
theorem aY.new{H Hv:Hp}(v:Vw H Hv){p:ah}{o:HO}(h:H p=ae)(nt:NW o:=by trivial):aY H Hv (upd H p o) (upd Hv p o):=by
 refine⟨.of (qM h),qM (qe v h),⟨λb u e=>?_,λb xs e=>?_,λb q u e=>?_,v.cd.new h nt,λb u e=>?_⟩,λb u e n=>?_⟩
 ·by_cases hb:b=p
  ·subst hb;rw[b9]at e ⊢;exact e
  ·rw[aQ hb]at e ⊢;exact v.sub b u e
 ·by_cases hb:b=p
  ·subst hb;rw[b9]at e ⊢;exact e
  ·rw[aQ hb]at e ⊢;exact v.tup b xs e
 ·by_cases hb:b=p
  ·subst hb;rw[b9]at e ⊢;exact e
  ·rw[aQ hb]at e ⊢;exact v.frz b q u e
 ·by_cases hb:b=p
  ·subst hb;rw[b9]at e;cases e;exact nt.nt
  ·rw[aQ hb]at e;exact v.nv b u e
 ·rw[aQ (cI e h)];exact n
theorem aY.rG{H Hv:Hp}(v:Vw H Hv){p:ah}{o:HO}(c:Cell o)(h:H p=ae):aY H Hv (upd H p o) Hv:=by
 refine⟨.of (qM h),b8.refl _,⟨λb u e=>?_,λb xs e=>?_,λb q u e=>?_,v.cd.new h c.nw,v.nv⟩,λb u e n=>n⟩
 ·rw[aQ (cI (v.sub b u e) h)];exact v.sub b u e
 ·by_cases hb:b=p
  ·subst hb;rw[b9]at e;cases e;exact c.elim
  ·rw[aQ hb]at e;exact v.tup b xs e
 ·by_cases hb:b=p
  ·subst hb;rw[b9]at e;cases e;exact c.elim
  ·rw[aQ hb]at e;exact v.frz b q u e
theorem Vw.show{H Hv:Hp}(v:Vw H Hv){a:ah}{o:HO}(h:H a=ab o)(n:Hv a=ae)(nt:NT o):Vw H (upd Hv a o)/\b8 Hv (upd Hv a o):=by
 refine⟨⟨λb u e=>?_,λb xs e=>?_,λb q u e=>?_,v.cd,λb u e=>?_⟩,qM n⟩
 ·by_cases hb:b=a
  ·subst hb;rw[b9]at e;rw[h];exact e
  ·rw[aQ hb]at e;exact v.sub b u e
 ·by_cases hb:b=a
  ·subst hb;rw[b9];rw[h]at e;exact e
  ·rw[aQ hb];exact v.tup b xs e
 ·by_cases hb:b=a
  ·subst hb;rw[b9];rw[h]at e;exact e
  ·rw[aQ hb];exact v.frz b q u e
 ·by_cases hb:b=a
  ·subst hb;rw[b9]at e;cases e;exact nt
  ·rw[aQ hb]at e;exact v.nv b u e
theorem Lst.old{H H':Hp}{a:ah}{xs:List V}(s:Old H H')(h:Lst H a xs):Lst H' a xs:=by
 rcases h with h|⟨o,h⟩
 ·exact .inl (s.at h)
 ·exact .inr ⟨o,s.at h⟩
def eO{κ:Type}(H:Hp)(am:List (κ×D))(kv:List (κ×V)):Prop:=P2 (λp q=>p.1=q.1/\Rep H p.2 q.2) am kv
theorem eO.same{κ:Type}{H H':Hp}(s:b8 H H'){am:List (κ×D)}{kv:List (κ×V)}(h:eO H am kv):eO H' am kv:=P2.imp (λ_ _ z=>⟨z.1,iO s z.2⟩) h
def c5(Hv:Hp):W->HO->Prop
 |.d (.lst ds),.lst xs=>P2 (Rep Hv) ds xs
 |.dk am,.dK kv=>eO Hv am kv
 |.dt am,.dT kv=>eO Hv am kv
 |_,_=>False
theorem c5.same{H H':Hp}(s:b8 H H'):∀{w:W} {o:HO},c5 H w o->c5 H' w o:=λ{w o} h=>by
 cases w with
 |d x=>
  cases x with
  | lst ds=>cases o with
   |lst xs=>exact dG s h
   |_=>exact h.elim
  |_=>cases o<;>exact h.elim
 | dk am=>cases o with
  |dK kv=>exact eO.same s h
  |_=>exact h.elim
 | dt am=>cases o with
  |dT kv=>exact eO.same s h
  |_=>exact h.elim
 |df am=>exact h.elim
 |ex c=>exact h.elim
 |fn c=>exact h.elim
 |xr c x=>exact h.elim
theorem c5.AR{H:Hp}{w:W}{o:HO}(h:c5 H w o):ox o:=by
 cases w with
 |d x=>
  cases x with
  | lst ds=>cases o with
   |lst xs=>trivial
   |_=>exact h.elim
  |_=>cases o<;>exact h.elim
 | dk am=>cases o with
  |dK kv=>trivial
  |_=>exact h.elim
 | dt am=>cases o with
  |dT kv=>trivial
  |_=>exact h.elim
 |df am=>exact h.elim
 |ex c=>exact h.elim
 |fn c=>exact h.elim
 |xr c x=>exact h.elim
theorem c5.cell{H:Hp}{w:W}{o:HO}(h:c5 H w o):Cell o:=h.AR.cell
theorem c5.nw{H:Hp}{w:W}{o:HO}(h:c5 H w o):NW o:=h.cell.nw
theorem c5.nt{H:Hp}{w:W}{o:HO}(h:c5 H w o):NT o:=h.cell.nt
def oP(a C:ah)(dc:Option ah):aI->Prop:=λh=>∃o,h.get? a=ab o/\o.cls=.ref C/\o.dict=dc/\∃vs,o.data=.fields vs
def gp(H:Hp):W->V->Prop
 |.d x,v=>Rep H x v
 |.dk am,v=>∃a kv,v=.ref a/\H a=ab (.dK kv)/\eO H am kv
 |.dt am,v=>∃a kv,v=.ref a/\H a=ab (.dT kv)/\eO H am kv
 |.df am,v=>∃a ob kv,v=.ref a/\H a=ab (.frz ob (.dT kv))/\eO H am kv
 |.ex c,v=>∃a dc,v=.ref a/\H a=ab (.ext (oP a (Tb.cl c) dc))
 |.fn κ ua,v=>v=.ref κ.a/\H κ.c=ab (.ext (Bd κ.c κ.q))/\P2 (λd a=>Rep H d (.ref a)) ua κ.ga
 |.xr c x,v=>∃a dx u,v=.ref a/\H a=ab (.ext (oP a (Tb.cl c) (ab dx)))/\H dx=ab (.xd [("ring", u)])/\Rep H x u
theorem nM{H H':Hp}(s:b8 H H'):∀{w:W} {v:V},gp H w v->gp H' w v
 |.d x,v,h=>iO (d:=x) s h
 |.dk am,v,⟨a,kv,e,q,r⟩=>⟨a,kv,e,s _ _ q,r.same s⟩
 |.dt am,v,⟨a,kv,e,q,r⟩=>⟨a,kv,e,s _ _ q,r.same s⟩
 |.df am,v,⟨a,ob,kv,e,q,r⟩=>⟨a,ob,kv,e,s _ _ q,r.same s⟩
 |.ex c,v,⟨a,dc,e,q⟩=>⟨a,dc,e,s _ _ q⟩
 |.fn κ ua,v,⟨e,q,r⟩=>⟨e,s _ _ q,r.imp λ_ _ z=>iO s z⟩
 |.xr c x,v,⟨a,dx,u,e,q1,q2,r⟩=>⟨a,dx,u,e,s _ _ q1,s _ _ q2,iO s r⟩
theorem vq{H:Hp}{w:W}{a:ah}{o:HO}(h:H a=ab o)(c:c5 H w o):gp H w (.ref a):=by
 cases w with
 |d x=>
  cases x with
  | lst ds=>cases o with
   |lst xs=>exact iM.mpr ⟨a,xs,rfl,.inl h,c⟩
   |_=>exact c.elim
  |_=>cases o<;>exact c.elim
 | dk am=>cases o with
  |dK kv=>exact⟨a,kv,rfl,h,c⟩
  |_=>exact c.elim
 | dt am=>cases o with
  |dT kv=>exact⟨a,kv,rfl,h,c⟩
  |_=>exact c.elim
 |df am=>exact c.elim
 |ex z=>exact c.elim
 |fn z=>exact c.elim
 |xr z x=>exact c.elim
def Own(H Hv:Hp)(w:W)(v:V):Prop:=∃a o,v=.ref a/\H a=ab o/\Hv a=ae/\c5 Hv w o
def RB(H Hv:Hp)(w:W)(v:V):Prop:=gp Hv w v\/∃a o,v=.ref a/\H a=ab o/\c5 Hv w o
theorem RB.grow{H Hv H' Hv':Hp}(g:aY H Hv H' Hv'){w:W}{v:V}(h:RB H Hv w v):RB H' Hv' w v:=by
 rcases h with h|⟨a,o,e,q,c⟩
 ·exact .inl (nM g.vis h)
 ·exact .inr ⟨a,o,e,g.old.at q c.nt,c.same g.vis⟩
theorem Own.grow{H Hv H' Hv':Hp}(g:aY H Hv H' Hv'){w:W}{v:V}(h:Own H Hv w v):Own H' Hv' w v:=by obtain⟨a,o,e,q,n,c⟩:=h;exact⟨a,o,e,g.old.at q c.nt,g.hid _ _ q n,c.same g.vis⟩
theorem RB.full{H Hv:Hp}(v:Vw H Hv){w:W}{x:V}(h:RB H Hv w x):gp H w x:=by
 rcases h with h|⟨a,o,rfl,q,c⟩
 ·exact nM v.sub h
 ·exact vq q (c.same v.sub)
abbrev RD(H Hv:Hp)(d:D)(v:V):Prop:=RB H Hv (.d d) v
theorem RD.oC{H Hv:Hp}{d:D}{v:V}(h:RD H Hv d v)(n:∀ds,d≠.lst ds):Rep Hv d v:=by
 rcases h with h|⟨a,o,e,q,c⟩
 ·exact h
 ·cases d with
  |lst ds=>exact absurd rfl (n ds)
  |_=>cases o<;>exact c.elim
theorem RD.lst{H Hv:Hp}(w:Vw H Hv){ds:List D}{v:V}(h:RD H Hv (.lst ds) v):∃a xs,v=.ref a/\Lst H a xs/\P2 (Rep Hv) ds xs:=by
 rcases h with h|⟨a,o,e,q,c⟩
 ·obtain⟨a,xs,e,l,r⟩:=iM.mp h;exact⟨a,xs,e,l.same w.sub,r⟩
 ·cases o with
  |lst xs=>exact⟨a,xs,e,.inl q,c⟩
  |_=>exact c.elim
theorem RD.tup{H Hv:Hp}(w:Vw H Hv){ds:List D}{v:V}(h:RD H Hv (.tup ds) v):∃a xs,v=.ref a/\H a=ab (.tup xs)/\Hv a=ab (.tup xs)/\P2 (Rep Hv) ds xs:=by obtain⟨a,xs,e,l,r⟩:=i4.mp (h.oC λ_ z=>by cases z);exact⟨a,xs,e,w.sub _ _ l,l,r⟩
theorem RD.int{H Hv:Hp}{i:Int}{v:V}(h:RD H Hv (.int i) v):v=.int i:=mH.mp (h.oC λ_ z=>by cases z)
theorem RD.str{H Hv:Hp}{i:Str}{v:V}(h:RD H Hv (.str i) v):v=.str i:=lc.mp (h.oC λ_ z=>by cases z)
theorem RD.bl{H Hv:Hp}{i:Bool}{v:V}(h:RD H Hv (.bl i) v):v=.bl i:=rK.mp (h.oC λ_ z=>by cases z)
theorem RD.non{H Hv:Hp}{v:V}(h:RD H Hv .non v):v=.non:=Dk.mp (h.oC λ_ z=>by cases z)
theorem RD.full{H Hv:Hp}(v:Vw H Hv){d:D}{x:V}(h:RD H Hv d x):Rep H d x:=RB.full v h
abbrev Kd:=Hp->Hp->Hp->W->V->Prop
def qP:Kd:=λ_ H' Hv' w v=>RB H' Hv' w v
def qV:Kd:=λ_ _ Hv' w v=>gp Hv' w v
def qN:Kd:=λH H' Hv' w v=>∃a o,v=.ref a/\H a=ae/\H' a=ab o/\Hv' a=ae/\c5 Hv' w o
theorem fM{H H' Hv':Hp}{i:Int}:qV H H' Hv' (.d (.int i)) (.int i):=(mH (H:=Hv')).mpr rfl
theorem oA{H H' Hv':Hp}{i:Str}:qV H H' Hv' (.d (.str i)) (.str i):=(lc (H:=Hv')).mpr rfl
theorem ff{H H' Hv':Hp}{i:Bool}:qV H H' Hv' (.d (.bl i)) (.bl i):=(rK (H:=Hv')).mpr rfl
theorem Jo{H H' Hv':Hp}:qV H H' Hv' (.d .non) .non:=(Dk (H:=Hv')).mpr rfl
class KM (κ:Kd):Prop where
 mono:∀{H H1 H' Hv' w v},Old H H1->κ H1 H' Hv' w v->κ H H' Hv' w v
instance:KM qP:=⟨λ_ h=>h⟩
instance:KM qV:=⟨λ_ h=>h⟩
instance:KM qN:=⟨λs ⟨a,o,e,n,r⟩=>⟨a,o,e,s.free n,r⟩⟩
structure R0(M:Nat->Bool)(e:Mi.Env)(σ:L2.St)(H Hv:Hp):Prop where
 vw:Vw H Hv
 len:σ.length=e.length
 nob:∀i w,e[i]? = ab (ab w)->M i=false->∃v,σ[i]? = ab (ab v)/\gp Hv w v
 own:∀i w,e[i]? = ab (ab w)->M i=true->∃v,σ[i]? = ab (ab v)/\Own H Hv w v
theorem R0.grow{M:Nat->Bool}{e:Mi.Env}{σ:L2.St}{H Hv H' Hv':Hp}(r:R0 M e σ H Hv)(g:aY H Hv H' Hv'):R0 M e σ H' Hv':=⟨g.vw,r.len,λi w h m=>let ⟨v,q,z⟩:=r.nob i w h m;⟨v,q,nM g.vis z⟩,λi w h m=>let ⟨v,q,z⟩:=r.own i w h m;⟨v,q,z.grow g⟩⟩
structure R1(M:Nat->Bool)(H0 Hv0:Hp)(e:Mi.Env)(σ:L2.St)(H Hv:Hp):Prop extends R0 M e σ H Hv where
 gw:aY H0 Hv0 H Hv
 fresh:∀i w a,e[i]? = ab (ab w)->M i=true->σ[i]? = ab (ab (.ref a))->H0 a=ae
 sep:∀i j w w' a b,i≠j->e[i]? = ab (ab w)->e[j]? = ab (ab w')->M i=true->M j=true->σ[i]? = ab (ab (.ref a))->σ[j]? = ab (ab (.ref b))->a≠b
theorem R1.grow{M:Nat->Bool}{H0 Hv0:Hp}{e:Mi.Env}{σ:L2.St}{H Hv H' Hv':Hp}(r:R1 M H0 Hv0 e σ H Hv)(g:aY H Hv H' Hv'):R1 M H0 Hv0 e σ H' Hv':=⟨r.toR0.grow g,r.gw.trans g,r.fresh,r.sep⟩
end A
namespace A
open PySem L2 PyProof.Rows
open Mi (D W Rs Fin ao)
variable[Tb:a7]
abbrev mT:=Mi.Env
class KG (κ:Kd):Prop where
 go:∀{H H1 Hv1 H2 Hv2 w v},aY H1 Hv1 H2 Hv2->κ H H1 Hv1 w v->κ H H2 Hv2 w v
instance:KG qP:=⟨λg h=>h.grow g⟩
instance:KG qV:=⟨λg h=>nM g.vis h⟩
instance:KG qN:=⟨λg ⟨a,o,e,n,q,z,c⟩=>⟨a,o,e,n,g.old.at q c.nt,g.hid _ _ q z,c.same g.vis⟩⟩
def AW(M:Nat->Bool)(κ:Kd)(t:TE)(m:Mi.EW):Prop:=∀e σ H Hv Q,R0 M e σ H Hv->Fin (m e) (λw=>∀v H' Hv',aY H Hv H' Hv'->κ H H' Hv' w v->Q v H')->t σ H Q
def AE(M:Nat->Bool)(κ:Kd)(t:TE)(m:Mi.E):Prop:=∀e σ H Hv Q,R0 M e σ H Hv->Fin (m e) (λd=>∀v H' Hv',aY H Hv H' Hv'->κ H H' Hv' (.d d) v->Q v H')->t σ H Q
def AT(M:Nat->Bool)(t:TT)(m:Mi.C):Prop:=∀e σ H Hv Q,R0 M e σ H Hv->Fin (m e) (λb=>∀H' Hv',aY H Hv H' Hv'->Q b H')->t σ H Q
def AA(M:Nat->Bool)(κ:Kd)(t:TA)(m:mT->Rs (List D)):Prop:=∀e σ H Hv Q,R0 M e σ H Hv->Fin (m e) (λds=>∀vs H' Hv',aY H Hv H' Hv'->P2 (λd v=>κ H H' Hv' (.d d) v) ds vs->Q vs H')->t σ H Q
def AAW(M:Nat->Bool)(κ:Kd)(t:TA)(m:mT->Rs (List W)):Prop:=∀e σ H Hv Q,R0 M e σ H Hv->Fin (m e) (λws=>∀vs H' Hv',aY H Hv H' Hv'->P2 (λw v=>κ H H' Hv' w v) ws vs->Q vs H')->t σ H Q
def AO(M:Nat->Bool)(t:TO)(m:mT->Rs (Option Int)):Prop:=∀e σ H Hv Q,R0 M e σ H Hv->Fin (m e) (λo=>∀H' Hv',aY H Hv H' Hv'->Q o H')->t σ H Q
section
variable{M:Nat->Bool}{κ:Kd}{t ta tb tc te:TE}{a b c:Mi.E}{r r':R2}{f g:D->D->Rs D}
theorem AE.w(h:AE M κ t a):AW M κ t (Mi.wD a):=λe σ H Hv Q I q=>h e σ H Hv Q I ((ao.mp q).mono λd z=>z)
theorem FV{H H' Hv':Hp}{w:W}{v:V}(h:qV H H' Hv' w v):qP H H' Hv' w v:=.inl h
theorem E8{H H' Hv':Hp}{w:W}{v:V}(h:qN H H' Hv' w v):qP H H' Hv' w v:=by obtain⟨a,o,e,_,q,_,c⟩:=h;exact .inr ⟨a,o,e,q,c⟩
theorem vC{H Hv H' Hv':Hp}(g:aY H Hv H' Hv'){w:W}{v:V}(h:qN H H' Hv' w v):∃om,aY H Hv H' om/\gp om w v:=by obtain⟨a,o,rfl,n,q,z,c⟩:=h;obtain⟨vw,s⟩:=g.vw.show q z c.nt;refine⟨upd Hv' a o,⟨g.old,g.vis.trans s,vw,λb u e m=>?_⟩,vq b9 (c.same s)⟩;rw[aQ (cI e n)];exact g.hid b u e m
theorem AW.nv(h:AW M qN t m):AW M qV t m:=λe σ H Hv Q I q=>h e σ H Hv Q I (q.mono λw z v H' Hv' g k=>let ⟨om,g',r⟩:=vC g k;z v H' om g' r)
theorem AE.p(h:AE M qV t a):AE M qP t a:=λe σ H Hv Q I q=>h e σ H Hv Q I (q.mono λw z v H' Hv' g k=>z v H' Hv' g (FV k))
theorem AE.np(h:AE M qN t a):AE M qP t a:=λe σ H Hv Q I q=>h e σ H Hv Q I (q.mono λw z v H' Hv' g k=>z v H' Hv' g (E8 k))
theorem AE.nv(h:AE M qN t a):AE M qV t a:=λe σ H Hv Q I q=>h e σ H Hv Q I (q.mono λw z v H' Hv' g k=>let ⟨om,g',r⟩:=vC g k;z v H' om g' r)
theorem aD{i:Int}:AE M qV (tC (.int i)) (Mi.mC (.int i)):=λe σ H Hv Q I h=>h _ H Hv (.refl I.vw) fM
theorem vc{i:Str}:AE M qV (tC (.str i)) (Mi.mC (.str i)):=λe σ H Hv Q I h=>h _ H Hv (.refl I.vw) oA
theorem ji{i:Bool}:AE M qV (tC (.bl i)) (Mi.mC (.bl i)):=λe σ H Hv Q I h=>h _ H Hv (.refl I.vw) ff
theorem zF{e:mT}{i:Nat}{k:D->Prop}(h:Fin (Mi.mV i e) k):∃d,e[i]? = ab (ab (.d d))/\k d:=by
 unfold Mi.mV at h;split at h
 ·exact⟨_,‹_›,h⟩
 ·exact h.elim
theorem oK{e:mT}{i:Nat}{k:W->Prop}(h:Fin (Mi.wV i e) k):∃w,e[i]? = ab (ab w)/\k w:=by
 unfold Mi.wV at h;split at h
 ·exact⟨_,‹_›,h⟩
 ·exact h.elim
theorem Bg(i:Nat)(hm:M i=false):AE M qV (cO i) (Mi.mV i):=λe σ H Hv Q I h=>by
 obtain⟨d,he,k⟩:=zF h;obtain⟨v,q,z⟩:=I.nob i _ he hm;exact⟨v,q,k v H Hv (.refl I.vw) z⟩
theorem Fe{H Hv:Hp}{w:W}{v:V}(h:Own H Hv w v):RB H Hv w v:=by obtain⟨a,o,e,q,_,c⟩:=h;exact .inr ⟨a,o,e,q,c⟩
theorem R0.any{e:mT}{σ:L2.St}{H Hv:Hp}(I:R0 M e σ H Hv){i:Nat}{w:W}(he:e[i]? = ab (ab w)):∃v,σ[i]? = ab (ab v)/\RB H Hv w v:=by
 cases hm:M i with
 |false=>
  obtain⟨v,q,z⟩:=I.nob i w he hm;exact⟨v,q,.inl z⟩
 |true=>
  obtain⟨v,q,z⟩:=I.own i w he hm;exact⟨v,q,Fe z⟩
theorem aq(i:Nat):AE M qP (cO i) (Mi.mV i):=λe σ H Hv Q I h=>by
 obtain⟨d,he,k⟩:=zF h;obtain⟨v,q,z⟩:=I.any he;exact⟨v,q,k v H Hv (.refl I.vw) z⟩
theorem Jl(i:Nat)(hm:M i=false):AW M qV (cO i) (Mi.wV i):=λe σ H Hv Q I h=>by
 obtain⟨d,he,k⟩:=oK h;obtain⟨v,q,z⟩:=I.nob i _ he hm;exact⟨v,q,k v H Hv (.refl I.vw) z⟩
def B2(κ:Kd)(r:R2)(f:D->D->Rs D):Prop:=∀x y v u H Hv Q,Vw H Hv->RD H Hv x v->RD H Hv y u->Fin (f x y) (λd=>∀w H' Hv',aY H Hv H' Hv'->κ H H' Hv' (.d d) w->Q w H')->r v u H Q
def B1(κ:Kd)(r:V->Hp->VK->Prop)(f:D->Rs D):Prop:=∀x v H Hv Q,Vw H Hv->RD H Hv x v->Fin (f x) (λd=>∀w H' Hv',aY H Hv H' Hv'->κ H H' Hv' (.d d) w->Q w H')->r v H Q
def BN(κ:Kd)(r:List V->Hp->VK->Prop)(f:List D->Rs D):Prop:=∀ds vs H Hv Q,Vw H Hv->P2 (RD H Hv) ds vs->Fin (f ds) (λd=>∀w H' Hv',aY H Hv H' Hv'->κ H H' Hv' (.d d) w->Q w H')->r vs H Q
theorem au[KM κ](hr:B2 κ r f)(ha:AE M qP ta a)(hb:AE M qP tb b):AE M κ (nL r ta tb) (Mi.m2 f a b):=λe σ H Hv Q I h=>
 ha e σ H Hv _ I ((ao.mp h).mono λx hx v H1 Hv1 g1 rx=>hb e σ H1 Hv1 _ (I.grow g1) ((ao.mp hx).mono λy hy u H2 Hv2 g2 ry=>
  hr x y v u H2 Hv2 Q g2.vw (RB.grow g2 rx) ry (hy.mono λd hd w H3 Hv3 g3 rw=>hd w H3 Hv3 (g1.trans (g2.trans g3)) (KM.mono (g1.old.trans g2.old) rw))))
theorem rZ[KM κ]{r:V->Hp->VK->Prop}{f:D->Rs D}(hr:B1 κ r f)(ha:AE M qP ta a):AE M κ (AN r ta) (Mi.m1 f a):=λe σ H Hv Q I h=>
 ha e σ H Hv _ I ((ao.mp h).mono λx hx v H1 Hv1 g1 rx=>hr x v H1 Hv1 Q g1.vw rx (hx.mono λd hd w H3 Hv3 g3 rw=>hd w H3 Hv3 (g1.trans g3) (KM.mono g1.old rw)))
theorem we{x:D}{k:Bool->Prop}(h:Fin (Mi.nF x) k):∃b,x=.bl b/\k b:=by
 cases x with
 |bl b=>exact⟨b,rfl,h⟩
 |_=>exact h.elim
theorem pW{x:D}{k:Int->Prop}(h:Fin (Mi.lH x) k):∃b,x=.int b/\k b:=by
 cases x with
 |int b=>exact⟨b,rfl,h⟩
 |_=>exact h.elim
theorem G5(ha:AE M qP ta a)(hb:AE M qV tb b):AE M qV (CH ta tb) (Mi.vh a b):=λe σ H Hv Q I h=>
 ha e σ H Hv _ I ((ao.mp h).mono λx hx v H1 Hv1 g1 rx=>by
  obtain⟨k,rfl,hk⟩:=we (ao.mp hx);cases RD.bl rx;refine⟨k,rfl,?_⟩;cases k with
  |true=>exact lx (hb e σ H1 Hv1 Q (I.grow g1) (Fin.mono (Mi.nq hk) λd hd w H2 Hv2 g2 rw=>hd w H2 Hv2 (g1.trans g2) rw))
  |false=>exact lB ((Mi.jI (Mi.nB hk)) _ H1 Hv1 g1 ff))
theorem AJ(ha:AE M qP ta a)(hb:AE M qV tb b):AE M qV (z6 ta tb) (Mi.kM a b):=λe σ H Hv Q I h=>
 ha e σ H Hv _ I ((ao.mp h).mono λx hx v H1 Hv1 g1 rx=>by
  obtain⟨k,rfl,hk⟩:=we (ao.mp hx);cases RD.bl rx;refine⟨k,rfl,?_⟩;cases k with
  |false=>exact lB (hb e σ H1 Hv1 Q (I.grow g1) (Fin.mono (Mi.nB hk) λd hd w H2 Hv2 g2 rw=>hd w H2 Hv2 (g1.trans g2) rw))
  |true=>exact lx ((Mi.jI (Mi.nq hk)) _ H1 Hv1 g1 ff))
theorem pB:AO M BK (Mi.jJ ae):=λe σ H Hv Q I h=>h H Hv (.refl I.vw)
theorem lE(ha:AE M qP ta a):AO M (C3 ta) (Mi.jJ (ab a)):=λe σ H Hv Q I h=>
 ha e σ H Hv _ I ((ao.mp h).mono λx hx v H1 Hv1 g1 rx=>by
  obtain⟨i,rfl,hk⟩:=pW (ao.mp hx);exact⟨i,RD.int rx,hk H1 Hv1 g1⟩)
def BS(κ:Kd)(r:V->Option Int->Option Int->Hp->VK->Prop)(f:D->Option Int->Option Int->Rs D):Prop:=∀x lo hi v H Hv Q,Vw H Hv->RD H Hv x v->Fin (f x lo hi) (λd=>∀w H' Hv',aY H Hv H' Hv'->κ H H' Hv' (.d d) w->Q w H')->r v lo hi H Q
theorem mQ[KM κ]{r:V->Option Int->Option Int->Hp->VK->Prop}{tl th:TO}{lo hi:Option Mi.E}{f:D->Option Int->Option Int->Rs D}(hr:BS κ r f)(ha:AE M qP ta a)(hl:AO M tl (Mi.jJ lo))(hh:AO M th (Mi.jJ hi)):AE M κ (Bq r ta tl th) (Mi.fw f a lo hi):=λe σ H Hv Q I h=>
 ha e σ H Hv _ I ((ao.mp h).mono λx hx v H1 Hv1 g1 rx=>hl e σ H1 Hv1 _ (I.grow g1) ((ao.mp hx).mono λl hl H2 Hv2 g2=>hh e σ H2 Hv2 _ (I.grow (g1.trans g2)) ((ao.mp hl).mono λu hu H3 Hv3 g3=>
  hr x l u v H3 Hv3 Q g3.vw (RB.grow (g2.trans g3) rx) (hu.mono λd hd w H4 Hv4 g4 rw=>hd w H4 Hv4 (g1.trans (g2.trans (g3.trans g4))) (KM.mono (g1.old.trans (g2.old.trans g3.old)) rw)))))
theorem hV(ha:AE M qP ta a):AT M (tB ta) (Mi.cB a):=λe σ H Hv Q I h=>
 ha e σ H Hv _ I ((ao.mp h).mono λx hx v H1 Hv1 g1 rx=>by
  obtain⟨k,rfl,hk⟩:=we hx;exact⟨k,RD.bl rx,hk H1 Hv1 g1⟩)
theorem ek(ha:AE M qP ta a):AT M (z5 ta) (Mi.cB a):=hV ha
variable{tt uu:TT}{k l:Mi.C}
theorem rD(ha:AT M tt k)(hb:AT M uu l):AT M (BC tt uu) (Mi.eU k l):=λe σ H Hv Q I h=>
 ha e σ H Hv _ I ((ao.mp h).mono λx hx H1 Hv1 g1=>by
  cases x with
  |true=>exact lx (hb e σ H1 Hv1 Q (I.grow g1) (Fin.mono (Mi.nq hx) λb hd H2 Hv2 g2=>hd H2 Hv2 (g1.trans g2)))
  |false=>exact lB ((Mi.jI (Mi.nB hx)) H1 Hv1 g1))
theorem uQ(ha:AT M tt k)(hb:AT M uu l):AT M (zR tt uu) (Mi.jd k l):=λe σ H Hv Q I h=>
 ha e σ H Hv _ I ((ao.mp h).mono λx hx H1 Hv1 g1=>by
  cases x with
  |false=>exact lB (hb e σ H1 Hv1 Q (I.grow g1) (Fin.mono (Mi.nB hx) λb hd H2 Hv2 g2=>hd H2 Hv2 (g1.trans g2)))
  |true=>exact lx ((Mi.jI (Mi.nq hx)) H1 Hv1 g1))
theorem qc(ha:AT M tt k):AT M (y9 tt) (Mi.eI k):=λe σ H Hv Q I h=>
 ha e σ H Hv _ I ((ao.mp h).mono λx hx H1 Hv1 g1=>hx H1 Hv1 g1)
theorem jo:AT M Au Mi.di:=λe σ H Hv Q I h=>h H Hv (.refl I.vw)
variable{tr:TA}{as:List Mi.E}{ws:List Mi.EW}
theorem bD:AA M κ fT (Mi.fG []):=λe σ H Hv Q I h=>h [] H Hv (.refl I.vw) .nil
theorem bh[KM κ][KG κ](ha:AE M κ ta a)(hr:AA M κ tr (Mi.fG as)):AA M κ (fh ta tr) (Mi.fG (a::as)):=λe σ H Hv Q I h=>
 ha e σ H Hv _ I ((ao.mp h).mono λx hx v H1 Hv1 g1 rx=>hr e σ H1 Hv1 _ (I.grow g1) ((ao.mp hx).mono λxs hs vs H2 Hv2 g2 rs=>
  hs (v::vs) H2 Hv2 (g1.trans g2) (.cons (KG.go g2 rx) (rs.imp λ_ _ z=>KM.mono g1.old z))))
theorem ce:AAW M κ fT (Mi.eS []):=λe σ H Hv Q I h=>h [] H Hv (.refl I.vw) .nil
theorem aN[KM κ][KG κ]{w:Mi.EW}(ha:AW M κ ta w)(hr:AAW M κ tr (Mi.eS ws)):AAW M κ (fh ta tr) (Mi.eS (w::ws)):=λe σ H Hv Q I h=>
 ha e σ H Hv _ I ((ao.mp h).mono λx hx v H1 Hv1 g1 rx=>hr e σ H1 Hv1 _ (I.grow g1) ((ao.mp hx).mono λxs hs vs H2 Hv2 g2 rs=>
  hs (v::vs) H2 Hv2 (g1.trans g2) (.cons (KG.go g2 rx) (rs.imp λ_ _ z=>KM.mono g1.old z))))
theorem fA[KM κ]{r:List V->Hp->VK->Prop}{f:List D->Rs D}(hr:BN κ r f)(ha:AA M qP tr (Mi.fG as)):AE M κ (pV r tr) (Mi.mN f as):=λe σ H Hv Q I h=>
 ha e σ H Hv _ I ((ao.mp h).mono λds hx vs H1 Hv1 g1 rx=>hr ds vs H1 Hv1 Q g1.vw rx (hx.mono λd hd w H3 Hv3 g3 rw=>hd w H3 Hv3 (g1.trans g3) (KM.mono g1.old rw)))
theorem mR(ha:AA M qV tr (Mi.fG as)):AE M qV (vp tr) (Mi.mN Mi.dTup as):=λe σ H Hv Q I h=>
 ha e σ H Hv _ I ((ao.mp h).mono λds hx vs H1 Hv1 g1 rx=>by
  obtain⟨hz,hq⟩:=Mi.cc hx;refine⟨by rw[<- rx.len,cZ];exact hz,λp hp=>?_⟩;have g2:aY H1 Hv1 (upd H1 p (.tup vs)) (upd Hv1 p (.tup vs)):=.new g1.vw hp;exact hq _ _ _ (g1.trans g2) (i4.mpr ⟨p,vs,rfl,b9,dG g2.vis rx⟩))
theorem eu(ha:AA M qV tr (Mi.fG as)):AE M qN (zm tr) (Mi.mN Mi.cx as):=λe σ H Hv Q I h=>
 ha e σ H Hv _ I ((ao.mp h).mono λds hx vs H1 Hv1 g1 rx=>by
  obtain⟨hz,hq⟩:=Mi.cc hx;refine⟨by rw[<- rx.len,cZ];exact hz,λp hp=>?_⟩;have g2:aY H1 Hv1 (upd H1 p (.lst vs)) Hv1:=.rG g1.vw trivial hp;exact hq _ _ _ (g1.trans g2) ⟨p,.lst vs,rfl,g1.old.free hp,b9,qe g1.vw hp,rx⟩)
def bZ(f:Mi.Fn):Sp:=λvs H Q _=>∃Hv ws,Vw H Hv/\P2 (gp Hv) ws vs/\Fin (f ws) (λw=>∀v H' Hv',aY H Hv H' Hv'->qV H H' Hv' w v->Q v H')
def cV(f:Mi.Fn):Sp:=λvs H Q _=>∃Hv ws,Vw H Hv/\P2 (gp Hv) ws vs/\Fin (f ws) (λw=>∀v H' Hv',aY H Hv H' Hv'->qN H H' Hv' w v->Q v H')
variable{fn:Mi.Fn}{E:XK}
theorem KJ(ha:AAW M qV tr (Mi.eS ws)):AW M qV (lg (bZ fn) [] E tr) (Mi.kR fn ws):=λe σ H Hv Q I h=>
 ha e σ H Hv _ I ((ao.mp h).mono λds hx vs H1 Hv1 g1 rx=>by
  rw[jt];exact⟨Hv1,ds,g1.vw,rx,hx.mono λd hd w H3 Hv3 g3 rw=>hd w H3 Hv3 (g1.trans g3) rw⟩)
theorem Cv(ha:AAW M qV tr (Mi.eS ws)):AW M qN (lg (cV fn) [] E tr) (Mi.kR fn ws):=λe σ H Hv Q I h=>
 ha e σ H Hv _ I ((ao.mp h).mono λds hx vs H1 Hv1 g1 rx=>by
  rw[jt];exact⟨Hv1,ds,g1.vw,rx,hx.mono λd hd w H3 Hv3 g3 rw=>hd w H3 Hv3 (g1.trans g3) (KM.mono (κ:=qN) g1.old rw)⟩)
theorem IT{w:W}{k:D->Prop}(h:Fin (Mi.sg w) k):∃d,w=.d d/\k d:=by
 cases w with
 |d x=>exact⟨x,rfl,h⟩
 |_=>exact h.elim
theorem AW.d{w:Mi.EW}(h:AW M κ t w):AE M κ t (λe=>(w e).bind Mi.sg):=λe σ H Hv Q I q=>
 h e σ H Hv Q I ((ao.mp q).mono λw z v H' Hv' g k=>by
  obtain⟨d,rfl,z⟩:=IT z;exact z v H' Hv' g k)
theorem dU(ha:AAW M qV tr (Mi.eS ws)):AE M qV (lg (bZ fn) [] E tr) (Mi.aW fn ws):=(KJ ha).d
theorem gV(ha:AAW M qV tr (Mi.eS ws)):AE M qN (lg (cV fn) [] E tr) (Mi.aW fn ws):=(Cv ha).d
def l0(H:Hp):Hp:=λa=>match H a with
 |some (.tbl _ _)=>ae
 |x=>x
theorem rT{H:Hp}{a:ah}{o:HO}(h:H a=ab o)(n:NT o):l0 H a=ab o:=by unfold l0;rw[h];cases o<;>first|rfl|exact n.elim
theorem Cj{H:Hp}{a:ah}{o:HO}(h:l0 H a=ab o):H a=ab o/\NT o:=by
 unfold l0 at h;cases q:H a with
 |none=>rw[q]at h;cases h
 |some u=>
  rw[q]at h;cases u with
  |tbl w ps=>cases h
  |_=>cases h;exact⟨rfl,trivial⟩
theorem Vw.all{H:Hp}(k:jk H):Vw H (l0 H):=⟨λa o e=>(Cj e).1,λa xs e=>rT e trivial,λa o u e=>rT e trivial,k,λa o e=>(Cj e).2⟩
end
end A
namespace A
open PySem L2 PyProof.Rows
open Mi (D W Rs Fin ao Out Tg)
variable[Tb:a7]
structure nS(J:It)(P:Hp->Hp->Prop)(ds:List D):Prop where
 go:∀i H Hv,P H Hv->Vw H Hv->i<ds.length->J.go i H
 yld:∀i H Hv x H',P H Hv->Vw H Hv->i<ds.length->J.yld i H x H'->∃Hv' d,aY H Hv H' Hv'/\ds[i]? = ab d/\Rep Hv' d x
 stop:∀H Hv,P H Hv->Vw H Hv->J.stop ds.length H
def uR(M:Nat->Bool)(wi:TI)(it:Mi.I):Prop:=∀e σ H Hv (R:It->Hp->Prop),R0 M e σ H Hv->Fin (it e) (λds=>∀(J:It) H' Hv' (P:Hp->Hp->Prop),aY H Hv H' Hv'->nS J P ds->P H' Hv'->(∀H1 Hv1 H2 Hv2,P H1 Hv1->aY H1 Hv1 H2 Hv2->P H2 Hv2)->R J H')->wi σ H R
def gK(M:Nat->Bool)(wi:TI)(it:Mi.I):Prop:=∀e σ H Hv (R:It->Hp->Prop),R0 M e σ H Hv->Fin (it e) (λds=>∀(J:It) H' Hv' (P:Hp->Hp->Prop),aY H Hv H' Hv'->nS J P ds->P H' Hv'->(∀H1 Hv1 H2 Hv2,P H1 Hv1->b8 Hv1 Hv2->Vw H2 Hv2->P H2 Hv2)->R J H')->wi σ H R
theorem gn{α:Type}{r:Rs α}{k:α->Prop}(h:Fin r k):∃x,r=.ok x/\k x:=by
 cases r with
 |ok x=>exact⟨x,rfl,h⟩
 |_=>exact h.elim
section
variable{M:Nat->Bool}{ta tb:TE}{a b:Mi.E}{wi:TI}{it:Mi.I}{tr:TA}{as:List Mi.E}
theorem gK.c(h:gK M wi it):uR M wi it:=λe σ H Hv R I q=>h e σ H Hv R I (q.mono λds z J H' Hv' P g o p k=>z J H' Hv' P g o p λH1 Hv1 H2 Hv2 p g'=>k H1 Hv1 H2 Hv2 p g'.vis g'.vw)
theorem lZ{J:It}{Ok:Hp->Prop}{xs:List V}(O:J.Of Ok xs){ds:List D}{P:Hp->Hp->Prop}(ok:∀H Hv,P H Hv->Vw H Hv->Ok H)(r:∀H Hv,P H Hv->P2 (Rep Hv) ds xs)(ex:∃H Hv,P H Hv):nS J P ds:=by
 have hl:ds.length=xs.length:=by obtain⟨H,Hv,p⟩:=ex;exact(r H Hv p).len
 refine⟨λi H Hv p v hi=>O.go i H (ok H Hv p v) (by omega),λi H Hv x H' p v hi y=>?_,λH Hv p v=>by rw[hl];exact O.stop H (ok H Hv p v)⟩;obtain⟨rfl,hx⟩:=O.yld i H x H' (ok H Hv p v) (by omega) y;obtain⟨d,hd,rx⟩:=(r H' Hv p).uo hx;exact⟨Hv,d,.refl v,hd,rx⟩
def nK(K:aB)(tl:TE):TI:=λσ H R=>CB K tl σ H R\/Bp K tl σ H R\/Ab tl σ H R
theorem gJ{X:Cx}{tg l:aO}{tl:TE}(hl:PE X l tl):PI X tg l (nK X.K tl):=λaf s σ H R I h=>by
 rcases h with h|h|h
 ·exact J7 hl af s σ H R I h
 ·exact HC hl af s σ H R I h
 ·exact Fa hl af s σ H R I h
theorem y7(H:Hp)(z:Str):P2 (Rep H) (z.cps.toList.map λc=>D.str ⟨#[c]⟩) (lN z):=by
 unfold lN
 induction z.cps.toList with
 |nil=>exact .nil
 |cons c r ih=>exact .cons (lc.mpr rfl) ih
theorem oH{K:aB}(ha:AE M qP ta a):uR M (nK K ta) (Mi.cW a):=λe σ H Hv R I h=>by
 obtain⟨d,hd,h⟩:=gn (ao.mp h);have run:∀Q:VK,(∀v H' Hv',aY H Hv H' Hv'->RD H' Hv' d v->Q v H')->ta σ H Q:=λQ q=>ha e σ H Hv Q I (by rw[hd];exact q);cases d with
 |lst ds=>
  refine .inl (run _ λv H' Hv' g r=>?_);obtain⟨p,xs,rfl,l,r⟩:=RD.lst g.vw r;exact⟨p,rfl,⟨xs,l.sq⟩,h (pz K p) H' Hv' (λH Hv=>Lst H p xs/\P2 (Rep Hv) ds xs) g (lZ BD (λH Hv p v=>p.1.sq) (λH Hv p=>p.2) ⟨H',Hv',l,r⟩) ⟨l,r⟩ λH1 Hv1 H2 Hv2 z g'=>⟨z.1.old g'.old,dG g'.vis z.2⟩⟩
 |tup ds=>
  refine .inr (.inl (run _ λv H' Hv' g r=>?_));obtain⟨p,xs,rfl,l,_,r⟩:=RD.tup g.vw r;exact⟨p,rfl,⟨xs,.inl (.inl l)⟩,h (pi K p) H' Hv' (λH Hv=>H p=ab (.tup xs)/\P2 (Rep Hv) ds xs) g (lZ zB (λH Hv p v=>.inl (.inl p.1)) (λH Hv p=>p.2) ⟨H',Hv',l,r⟩) ⟨l,r⟩ λH1 Hv1 H2 Hv2 z g'=>⟨g'.old.at z.1,dG g'.vis z.2⟩⟩
 |str z=>
  refine .inr (.inr (run _ λv H' Hv' g r=>?_));exact⟨z,RD.str r,h (lC z) H' Hv' (λ_ _=>True) g (lZ ze (λ_ _ _ _=>trivial) (λH Hv _=>y7 Hv z) ⟨H,Hv,trivial⟩) trivial λ_ _ _ _ _ _=>trivial⟩
 |_=>exact h.elim
theorem ly{K:aB}(ha:AE M qV ta a):gK M (nK K ta) (Mi.cW a):=λe σ H Hv R I h=>by
 obtain⟨d,hd,h⟩:=gn (ao.mp h);have run:∀Q:VK,(∀v H' Hv',aY H Hv H' Hv'->Rep Hv' d v->Q v H')->ta σ H Q:=λQ q=>ha e σ H Hv Q I (by rw[hd];exact q);cases d with
 |lst ds=>
  refine .inl (run _ λv H' Hv' g r=>?_);obtain⟨p,xs,rfl,l,r⟩:=iM.mp r;exact⟨p,rfl,⟨xs,(l.same g.vw.sub).sq⟩,h (pz K p) H' Hv' (λH Hv=>Lst Hv p xs/\P2 (Rep Hv) ds xs) g (lZ BD (λH Hv p v=>(p.1.same v.sub).sq) (λH Hv p=>p.2) ⟨H',Hv',l,r⟩) ⟨l,r⟩ λH1 Hv1 H2 Hv2 z s v=>⟨z.1.same s,dG s z.2⟩⟩
 |tup ds=>
  refine .inr (.inl (run _ λv H' Hv' g r=>?_));obtain⟨p,xs,rfl,l,r⟩:=i4.mp r;exact⟨p,rfl,⟨xs,.inl (.inl (g.vw.sub _ _ l))⟩,h (pi K p) H' Hv' (λH Hv=>Hv p=ab (.tup xs)/\P2 (Rep Hv) ds xs) g (lZ zB (λH Hv p v=>.inl (.inl (v.sub _ _ p.1))) (λH Hv p=>p.2) ⟨H',Hv',l,r⟩) ⟨l,r⟩ λH1 Hv1 H2 Hv2 z s v=>⟨s _ _ z.1,dG s z.2⟩⟩
 |str z=>
  refine .inr (.inr (run _ λv H' Hv' g r=>?_));exact⟨z,lc.mp r,h (lC z) H' Hv' (λ_ _=>True) g (lZ ze (λ_ _ _ _=>trivial) (λH Hv _=>y7 Hv z) ⟨H,Hv,trivial⟩) trivial λ_ _ _ _ _ _ _=>trivial⟩
 |_=>exact h.elim
theorem FZ(H:Hp)(lo hi:Int):P2 (Rep H) (Mi.cY lo hi) (lF lo (hi-lo).toNat):=by
 unfold Mi.cY lF
 induction bn (hi-lo).toNat with
 |nil=>exact .nil
 |cons c r ih=>exact .cons (mH.mpr rfl) ih
theorem Iy(lo hi:Int)(H Hv:Hp):nS (mM lo (hi-lo).toNat) (λ_ _=>True) (Mi.cY lo hi):=lZ FQ (λ_ _ _ _=>trivial) (λH Hv _=>FZ Hv lo hi) ⟨H,Hv,trivial⟩
theorem iF(ha:AE M qP ta a):gK M (Bm (fh ta fT)) (Mi.fN a):=λe σ H Hv R I h=>
 ha e σ H Hv _ I ((ao.mp h).mono λx hx v H1 Hv1 g1 rx=>by
  obtain⟨j,rfl,hk⟩:=pW (ao.mp hx);obtain⟨hz,hq⟩:=Mi.cc hk;cases RD.int rx;refine⟨j,rfl,hz.1,hz.2,?_⟩;have:=hq (mM 0 (j-0).toNat) H1 Hv1 _ g1 (Iy 0 j H Hv) trivial λ_ _ _ _ _ _ _=>trivial;rw[Int.sub_zero]at this;exact this)
end
def sx:List Nat->jh
 |[]=>Bk
 |i::r=>yQ (fe i) (sx r)
def r6:Tg->List Nat
 |.n i=>[i]
 |.t is=>is
def uz(K:aB):Tg->TG
 |.n i=>fe i
 |.t is=>An K is.length (sx is)
section
variable{P:Mi.Env->L2.St->Prop}{H Hv:Hp}
theorem v9:∀{is:List Nat} {ds:List D} {xs:List V} {e:Mi.Env} {σ:L2.St} {Q:L2.St->Hp->Prop},(∀i∈is,∀e σ d v,P e σ->Rep Hv d v->P (e.set i (ab (.d d))) (σ.set i (ab v)))->P e σ->P2 (Rep Hv) ds xs ->
 Fin (Mi.kY is ds e) (λe'=>∀σ',P e' σ'->Q σ' H)->sx is xs σ H Q
 |[],[],xs,e,σ,Q,cl,p,r,h=>by
  cases r;exact⟨rfl,h σ p⟩
 |[],_::_,xs,e,σ,Q,cl,p,r,h=>h.elim
 |_::_,[],xs,e,σ,Q,cl,p,r,h=>h.elim
 |i::is,d::ds,xs,e,σ,Q,cl,p,r,h=>by
  cases r with
  |cons x t=>exact⟨_,_,rfl,v9 (λj hj=>cl j (cm _ hj)) (cl i cn _ _ _ _ p x) t h⟩
theorem vU:∀{is:List Nat} {ds:List D} {e:Mi.Env} {k:Mi.Env->Prop},Fin (Mi.kY is ds e) k->ds.length=is.length
 |[],[],_,_,_=>rfl
 |[],_::_,_,_,h=>h.elim
 |_::_,[],_,_,h=>h.elim
 |i::is,d::ds,e,k,h=>by rw[bW,bW,vU (is:=is) (ds:=ds) (k:=k) h]
theorem Bv{K:aB}(vw:Vw H Hv){tg:Tg}{d:D}{v:V}{e:Mi.Env}{σ:L2.St}{Q:L2.St->Hp->Prop}(cl:∀i∈r6 tg,∀e σ d v,P e σ->Rep Hv d v->P (e.set i (ab (.d d))) (σ.set i (ab v)))(p:P e σ)(r:Rep Hv d v)
 (h:Fin (tg.put d e) (λe'=>∀σ',P e' σ'->Q σ' H)):uz K tg v σ H Q:=by
 cases tg with
 |n i=>exact h _ (cl i (by simp[r6]) _ _ _ _ p r)
 |t is=>
  cases d with
  |tup ds=>
   obtain⟨a,xs,e1,l,r⟩:=i4.mp r;exact⟨a,xs,e1,.inl (.inl (vw.sub _ _ l)),by rw[<- r.len];exact vU h,v9 cl p r h⟩
  |_=>exact h.elim
end
theorem iL{α:Type}{l:List α}{i j:Nat}{x y:α}(h:(l.set i x)[j]? = ab y):(i=j/\x=y/\i<l.length)\/(i≠j/\l[j]? = ab y):=by
 rw[qm]at h;split at h
 ·split at h
  ·exact .inl ⟨‹_›,eZ h,by omega⟩
  ·cases h
 ·exact .inr ⟨‹_›,h⟩
theorem R0.set{M:Nat->Bool}{e:Mi.Env}{σ:L2.St}{H Hv:Hp}(I:R0 M e σ H Hv){i:Nat}{w:W}{v:V}(hm:M i=false)(r:gp Hv w v):R0 M (e.set i (ab w)) (σ.set i (ab v)) H Hv:=by
 refine⟨I.vw,by rw[f8,f8];exact I.len,λj w' h m=>?_,λj w' h m=>?_⟩
 ·rcases iL h with ⟨rfl,h,l⟩|⟨n,h⟩
  ·cases h;exact⟨v,by rw[js (by rw[I.len];exact l)],r⟩
  ·obtain⟨u,q,z⟩:=I.nob j w' h m;exact⟨u,by rw[dN n];exact q,z⟩
 ·rcases iL h with ⟨rfl,h,l⟩|⟨n,h⟩
  ·rw[hm]at m;cases m
  ·obtain⟨u,q,z⟩:=I.own j w' h m;exact⟨u,by rw[dN n];exact q,z⟩
theorem R1.set{M:Nat->Bool}{H0 Hv0:Hp}{e:Mi.Env}{σ:L2.St}{H Hv:Hp}(I:R1 M H0 Hv0 e σ H Hv){i:Nat}{w:W}{v:V}(hm:M i=false)(r:gp Hv w v):R1 M H0 Hv0 (e.set i (ab w)) (σ.set i (ab v)) H Hv:=by
 have nj:∀{j:Nat} {w':W},(e.set i (ab w))[j]? = ab (ab w')->M j=true->i≠j/\e[j]? = ab (ab w'):=λ{j w'} h m=>by
  rcases iL h with ⟨rfl,_,_⟩|⟨n,h⟩
  ·rw[hm]at m;cases m
  ·exact⟨n,h⟩
 refine⟨I.toR0.set hm r,I.gw,λj w' a h m q=>?_,λj k w1 w2 a b hjk h1 h2 m1 m2 q1 q2=>?_⟩
 ·obtain⟨n,h⟩:=nj h m;rw[dN n]at q;exact I.fresh j w' a h m q
 ·obtain⟨n1,h1⟩:=nj h1 m1;obtain⟨n2,h2⟩:=nj h2 m2;rw[dN n1]at q1;rw[dN n2]at q2;exact I.sep j k w1 w2 a b hjk h1 h2 m1 m2 q1 q2
def lK(ρ:List (Option Nat))(M:Nat->Bool):Nat->Bool:=λi=>match ρ[i]? with
 |some (ab j)=>M j
 |_=>false
theorem Bz{α:Type}{ρ:List (Option Nat)}{e:List (Option α)}{i:Nat}{w:α}(h:(ρ.map λo=>o.bind λj=>(e[j]?).join)[i]? = ab (ab w)):∃j,ρ[i]? = ab (ab j)/\e[j]? = ab (ab w):=by
 rw[de]at h;cases hr:ρ[i]? with
 |none=>rw[hr]at h;cases h
 |some o=>
  rw[hr]at h;cases o with
  |none=>cases h
  |some j=>
   refine⟨j,rfl,?_⟩;have h:(e[j]?).join=ab w:=eZ h;cases hq:e[j]? with
   |none=>rw[hq]at h;cases h
   | some o' => rw [hq] at h; have h : o' = ab w := h
                rw[h]
theorem zw{α:Type}{ρ:List (Option Nat)}{e:List (Option α)}{i j:Nat}{w:α}(h1:ρ[i]? = ab (ab j))(h2:e[j]? = ab (ab w)):(ρ.map λo=>o.bind λj=>(e[j]?).join)[i]? = ab (ab w):=by rw[de,h1];show ab ((e[j]?).join)=_;rw[h2];rfl
theorem R0.pick{M:Nat->Bool}{e:Mi.Env}{σ:L2.St}{H Hv:Hp}(I:R0 M e σ H Hv)(ρ:List (Option Nat)):R0 (lK ρ M) (Mi.ja ρ e) (L2.pick ρ σ) H Hv:=by
 refine⟨I.vw,by unfold Mi.ja L2.pick;rw[aS,aS],λi w h m=>?_,λi w h m=>?_⟩
 ·obtain⟨j,h1,h2⟩:=Bz h;have m:M j=false:=by unfold lK at m;rw[h1]at m;exact m
  obtain⟨v,q,z⟩:=I.nob j w h2 m;exact⟨v,zw h1 q,z⟩
 ·obtain⟨j,h1,h2⟩:=Bz h;have m:M j=true:=by unfold lK at m;rw[h1]at m;exact m
  obtain⟨v,q,z⟩:=I.own j w h2 m;exact⟨v,zw h1 q,z⟩
theorem Ff{tg:Tg}{c:Mi.C}{a:Mi.E}{e:Mi.Env}{x:D}{r:List D}{k:List D->Prop}(h:Fin (Mi.d5 tg c a e (x::r)) k) :
 Fin (tg.put x e) λe1=>Fin (c e1) λb=>if b=true then Fin (a e1) λy=>Fin (Mi.d5 tg c a e r) λys=>k (y::ys)else Fin (Mi.d5 tg c a e r) k:=by
 refine(ao.mp h).mono λe1 h1=>(ao.mp h1).mono λb h2=>?_;cases b with
 |true=>exact lx ((ao.mp (Mi.nq h2)).mono λy h3=>(ao.mp h3).mono λys h4=>h4)
 |false=>exact lB (Mi.nB h2)
theorem iz{M:Nat->Bool}{K:aB}{ρ:List (Option Nat)}{wi:TI}{it:Mi.I}{tg:Tg}{tc:TT}{c:Mi.C}{te:TE}{a:Mi.E}(hi:uR M wi it)(hm:∀i∈r6 tg,lK ρ M i=false)(hc:AT (lK ρ M) tc c)(he:AE (lK ρ M) qV te a) :
 AE M qN (qU wi ρ (uz K tg) tc te) (Mi.d3 ρ it tg c a):=λe σ H Hv Q I h=>
 hi e σ H Hv _ I ((ao.mp h).mono λds h1 J H1 Hv1 P g1 O p1 per=>by
  obtain⟨hz,h1⟩:=Mi.cc h1;have h1:=ao.mp h1;have I1:=I.grow g1;refine⟨λi m acc H'=>m=ds.length-i/\i<=ds.length/\∃Hv',aY H1 Hv1 H' Hv'/\P H' Hv'/\acc.length<=i/\∃done,P2 (Rep Hv') done acc/\Fin (Mi.d5 tg c a (Mi.ja ρ e) (ds.drop i)) λys=>∀v H2 Hv2,aY H Hv H2 Hv2->qN H H2 Hv2 (.d (.lst (done++ys))) v->Q v H2,
   ⟨ds.length,by simp,eY _,Hv1,.refl g1.vw,p1,bg _,[],.nil,by rw[qq];exact h1.mono λys z=>z⟩,?_⟩
  rintro i m acc H' ⟨rfl,hle,Hv',g,pp,l,done,pd,hf⟩;by_cases hlt:i<ds.length
  ·refine .inr ⟨O.go i H' Hv' pp g.vw hlt,by rw[cZ];omega,λacc' H2=>∃Hv2,aY H1 Hv1 H2 Hv2/\P H2 Hv2/\acc'.length<=i+1/\∃done,P2 (Rep Hv2) done acc'/\Fin (Mi.d5 tg c a (Mi.ja ρ e) (ds.drop (i+1))) λys=>∀v H3 Hv3,aY H Hv H3 Hv3->qN H H3 Hv3 (.d (.lst (done++ys))) v->Q v H3,
    λacc' H2 z=>⟨ds.length-(i+1),by omega,rfl,hlt,z⟩,λx H2 y=>?_⟩
   obtain⟨Hv2,d,g2,hd,rx⟩:=O.yld i H' Hv' x H2 pp g.vw hlt y;have g12:=g.trans g2;have hdr:ds.drop i=d::ds.drop (i+1):=by obtain⟨hl,e1⟩:=cM.mp hd;rw[l9 hl,e1]
   rw[hdr]at hf;have hf:=Ff hf;refine Bv (P:=λe1 σ1=>R0 (lK ρ M) e1 σ1 H2 Hv2) g2.vw (λj hj e1 σ1 d1 v1 r1 z=>r1.set (hm j hj) z) ((I1.grow g12).pick ρ) rx (hf.mono λe1 hf1 σ1 r1=>?_);refine hc e1 σ1 H2 Hv2 _ r1 (hf1.mono λb hb H3 Hv3 g3=>?_);cases b with
   |true=>
    refine lx (he e1 σ1 H3 Hv3 _ (r1.grow g3) (Fin.mono (by simpa using hb) λy hy v H4 Hv4 g4 ry=>?_));exact⟨Hv4,g12.trans (g3.trans g4),per _ _ _ _ pp (g2.trans (g3.trans g4)),by rw[bA,dw];omega,done++[y],(dG (g2.trans (g3.trans g4)).vis pd).append (.cons ry .nil),hy.mono λys z v H5 Hv5 g5 k=>z v H5 Hv5 g5 (by rw[f7]at k;exact k)⟩
   |false=>exact lB ⟨Hv3,g12.trans g3,per _ _ _ _ pp (g2.trans g3),by omega,done,dG (g2.trans g3).vis pd,by simpa using hb⟩
  ·have hi:i=ds.length:=by omega
   subst hi;refine .inl ⟨O.stop H' Hv' pp g.vw,λp hp=>?_⟩;rw[sZ (bg _)]at hf;have g2:aY H' Hv' (upd H' p (.lst acc)) Hv':=.rG g.vw trivial hp;refine hf _ _ _ (g1.trans (g.trans g2)) ⟨p,.lst acc,rfl,(g1.old.trans g.old).free hp,b9,qe g.vw hp,?_⟩;show P2 (Rep Hv') (done++[]) acc;rw[jt];exact pd)
def kT(M:Nat->Bool)(κ:Kd)(H0 Hv0:Hp)(D:Ends)(Hv:Hp):Out->Prop
 |.nx e=>∀σ H' Hv',R1 M H0 Hv0 e σ H' Hv'->b8 Hv Hv'->D.nx σ H'
 |.rt w=>∀v H' Hv',aY H0 Hv0 H' Hv'->κ H0 H' Hv' w v->D.rt v H'
 |.bk e=>∀σ H' Hv',R1 M H0 Hv0 e σ H' Hv'->b8 Hv Hv'->D.bk σ H'
 |.ct e=>∀σ H' Hv',R1 M H0 Hv0 e σ H' Hv'->b8 Hv Hv'->D.ct σ H'
def AS(M:Nat->Bool)(κ:Kd)(t:TS)(m:Mi.S):Prop:=∀H0 Hv0 e σ H Hv D,R1 M H0 Hv0 e σ H Hv->Fin (m e) (kT M κ H0 Hv0 D Hv)->t D σ H
section
variable{M:Nat->Bool}{κ:Kd}{t u:TS}{m n:Mi.S}{te:TE}{a b:Mi.E}{w:Mi.EW}
theorem eE:AS M κ uf Mi.b7:=λH0 Hv0 e σ H Hv D I h=>h σ H Hv I (b8.refl _)
theorem Dh:AS M κ B3 Mi.oT:=λH0 Hv0 e σ H Hv D I h=>h
theorem a9(h1:AS M κ t m)(h2:AS M κ u n):AS M κ (kj t u) (Mi.aP m n):=λH0 Hv0 e σ H Hv D I h=>
 h1 H0 Hv0 e σ H Hv _ I ((ao.mp h).mono λo ho=>by
  cases o with
  |nx e'=>exactλσ' H' Hv' I' s=>h2 H0 Hv0 e' σ' H' Hv' D I' (Fin.mono ho λo z=>by
   cases o with
   |nx e2=>exactλσ2 H2 Hv2 I2 s2=>z σ2 H2 Hv2 I2 (s.trans s2)
   |rt w=>exact z
   |bk e2=>exactλσ2 H2 Hv2 I2 s2=>z σ2 H2 Hv2 I2 (s.trans s2)
   |ct e2=>exactλσ2 H2 Hv2 I2 s2=>z σ2 H2 Hv2 I2 (s.trans s2))
  |rt w=>exact ho
  |bk e'=>exact ho
  |ct e'=>exact ho)
theorem sh(ha:AE M qP te a):AS M κ (iE te) (Mi.iB a):=λH0 Hv0 e σ H Hv D I h=>
 ha e σ H Hv _ I.toR0 ((ao.mp h).mono λd hd v H1 Hv1 g1 r=>hd σ H1 Hv1 (I.grow g1) g1.vis)
theorem dL(i:Nat)(hm:M i=false)(ha:AE M qV te a):AS M κ (ib te (fe i)) (Mi.bE i a):=λH0 Hv0 e σ H Hv D I h=>
 ha e σ H Hv _ I.toR0 ((ao.mp h).mono λd hd v H1 Hv1 g1 r=>hd _ H1 Hv1 ((I.grow g1).set hm r) g1.vis)
theorem fv(ha:AW M qV te w):AS M qV (sQ te) (Mi.bI w):=λH0 Hv0 e σ H Hv D I h=>
 ha e σ H Hv _ I.toR0 ((ao.mp h).mono λd hd v H1 Hv1 g1 r=>hd v H1 Hv1 (I.gw.trans g1) r)
theorem lP(ha:AW M qN te w):AS M qN (sQ te) (Mi.bI w):=λH0 Hv0 e σ H Hv D I h=>
 ha e σ H Hv _ I.toR0 ((ao.mp h).mono λd hd v H1 Hv1 g1 r=>hd v H1 Hv1 (I.gw.trans g1) (KM.mono (κ:=qN) I.gw.old r))
theorem dJ{tt:TT}{c:Mi.C}(hc:AT M tt c)(h1:AS M κ t m)(h2:AS M κ u n):AS M κ (v5 tt t u) (Mi.bx c m n):=λH0 Hv0 e σ H Hv D I h=>
 hc e σ H Hv _ I.toR0 ((ao.mp h).mono λb hb H1 Hv1 g1=>by
  have up:∀o,kT M κ H0 Hv0 D Hv o->kT M κ H0 Hv0 D Hv1 o:=λo z=>by
   cases o with
   |nx e2=>exactλσ2 H2 Hv2 I2 s2=>z σ2 H2 Hv2 I2 (g1.vis.trans s2)
   |rt w=>exact z
   |bk e2=>exactλσ2 H2 Hv2 I2 s2=>z σ2 H2 Hv2 I2 (g1.vis.trans s2)
   |ct e2=>exactλσ2 H2 Hv2 I2 s2=>z σ2 H2 Hv2 I2 (g1.vis.trans s2)
  cases b with
  |true=>exact lx (h1 H0 Hv0 e σ H1 Hv1 D (I.grow g1) (Fin.mono (Mi.nq hb) up))
  |false=>exact lB (h2 H0 Hv0 e σ H1 Hv1 D (I.grow g1) (Fin.mono (Mi.nB hb) up)))
theorem kT.up{H0 Hv0 Hv Hv1:Hp}{D:Ends}(s:b8 Hv Hv1){o:Out}(z:kT M κ H0 Hv0 D Hv o):kT M κ H0 Hv0 D Hv1 o:=by
 cases o with
 |nx e2=>exactλσ2 H2 Hv2 I2 s2=>z σ2 H2 Hv2 I2 (s.trans s2)
 |rt w=>exact z
 |bk e2=>exactλσ2 H2 Hv2 I2 s2=>z σ2 H2 Hv2 I2 (s.trans s2)
 |ct e2=>exactλσ2 H2 Hv2 I2 s2=>z σ2 H2 Hv2 I2 (s.trans s2)
theorem gu{K:aB}{wi:TI}{it:Mi.I}{tg:Tg}(hi:gK M wi it)(hm:∀i∈r6 tg,M i=false)(hb:AS M κ t m):AS M κ (pc wi (uz K tg) t) (Mi.dF it tg m):=λH0 Hv0 e σ H Hv D I h=>
 hi e σ H Hv _ I.toR0 ((ao.mp h).mono λds h1 J H1 Hv1 P g1 O p1 per=>by
  refine⟨λi k σ' H'=>k=ds.length-i/\i<=ds.length/\∃e' Hv',R1 M H0 Hv0 e' σ' H' Hv'/\P H' Hv'/\Fin (Mi.fL tg m (ds.drop i) e') (kT M κ H0 Hv0 D Hv'),
   ⟨ds.length,by simp,eY _,e,Hv1,I.grow g1,p1,by rw[qq];exact h1.mono λo z=>z.up g1.vis⟩,?_⟩
  rintro i k σ' H' ⟨rfl,hle,e',Hv',I',pp,hf⟩;by_cases hlt:i<ds.length
  ·refine .inr ⟨O.go i H' Hv' pp I'.vw hlt,λσ2 H2=>∃e2 Hv2,R1 M H0 Hv0 e2 σ2 H2 Hv2/\P H2 Hv2/\Fin (Mi.fL tg m (ds.drop (i+1)) e2) (kT M κ H0 Hv0 D Hv2),
    λσ2 H2 z=>⟨ds.length-(i+1),by omega,rfl,hlt,z⟩,λx H2 y=>?_⟩
   obtain⟨Hv2,d,g2,hd,rx⟩:=O.yld i H' Hv' x H2 pp I'.vw hlt y;have I2:=I'.grow g2;have hdr:ds.drop i=d::ds.drop (i+1):=by obtain⟨hl,e1⟩:=cM.mp hd;rw[l9 hl,e1]
   rw[hdr]at hf;refine Bv (P:=λe1 σ1=>R1 M H0 Hv0 e1 σ1 H2 Hv2) g2.vw (λj hj e1 σ1 d1 v1 r1 z=>r1.set (hm j hj) z) I2 rx ((ao.mp hf).mono λe1 h1 σ1 I1=>?_);refine hb H0 Hv0 e1 σ1 H2 Hv2 _ I1 ((ao.mp h1).mono λo ho=>?_);cases o with
   |nx e2=>exactλσ2 H3 Hv3 I3 s3=>⟨e2,Hv3,I3,per _ _ _ _ pp (g2.vis.trans s3) I3.vw,Fin.mono ho λo z=>z.up (g2.vis.trans s3)⟩
   |ct e2=>exactλσ2 H3 Hv3 I3 s3=>⟨e2,Hv3,I3,per _ _ _ _ pp (g2.vis.trans s3) I3.vw,Fin.mono ho λo z=>z.up (g2.vis.trans s3)⟩
   |bk e2=>exactλσ2 H3 Hv3 I3 s3=>ho σ2 H3 Hv3 I3 (g2.vis.trans s3)
   |rt w=>exact ho
  ·have hi:i=ds.length:=by omega
   subst hi;refine .inl ⟨O.stop H' Hv' pp I'.vw,?_⟩;rw[sZ (bg _)]at hf;exact hf σ' H' Hv' I' (b8.refl _))
end
end A
namespace A
open PySem L2 PyProof.Rows
open Mi (D W Rs Fin ao Out Tg)
variable[Tb:a7]
section
variable{M:Nat->Bool}{κ:Kd}{te:TE}{a b:Mi.E}{w:Mi.EW}{K:aB}
theorem R1.write{H0 Hv0:Hp}{e:Mi.Env}{σ:L2.St}{H Hv:Hp}(I:R1 M H0 Hv0 e σ H Hv){i:Nat}{w w':W}{p:ah}{o:HO}(hm:M i=true)(he:e[i]? = ab (ab w))(hs:σ[i]? = ab (ab (.ref p)))(c:c5 Hv w' o):R1 M H0 Hv0 (e.set i (ab w')) σ (upd H p o) Hv:=by
 have hp:∃o',H p=ab o'/\Hv p=ae/\ox o':=by obtain⟨v,q,a,o',e1,q1,n,c'⟩:=I.own i w he hm;rw[hs]at q;cases q;cases e1;exact⟨o',q1,n,c'.AR⟩
 obtain⟨o',hp,hn,hcc⟩:=hp;have h0:H0 p=ae:=I.fresh i w p he hm hs;have vw:Vw (upd H p o) Hv:=by
  refine⟨λb u q=>?_,λb xs q=>?_,λb z u q=>?_,I.vw.cd.put hp hcc c.nw,I.vw.nv⟩
  ·rw[aQ (cI q hn)];exact I.vw.sub b u q
  ·by_cases hb:b=p
   ·subst hb;rw[b9]at q;cases q;exact c.cell.elim
   ·rw[aQ hb]at q;exact I.vw.tup b xs q
  ·by_cases hb:b=p
   ·subst hb;rw[b9]at q;cases q;exact c.cell.elim
   ·rw[aQ hb]at q;exact I.vw.frz b z u q
 have get:∀{j:Nat} {w2:W},(e.set i (ab w'))[j]? = ab (ab w2)->(i=j/\w'=w2)\/(i≠j/\e[j]? = ab (ab w2)):=λ{j w2} h=>by
  rcases iL h with ⟨x,y,_⟩|z
  ·exact .inl ⟨x,eZ y⟩
  ·exact .inr z
 have get':∀{j:Nat} {w2:W},(e.set i (ab w'))[j]? = ab (ab w2)->∃w3,e[j]? = ab (ab w3):=λ{j w2} h=>by
  rcases get h with ⟨x,_⟩|⟨_,z⟩
  ·subst x;exact⟨w,he⟩
  ·exact⟨w2,z⟩
 refine⟨⟨vw,by rw[f8];exact I.len,λj w2 h m=>?_,λj w2 h m=>?_⟩,⟨I.gw.old.put h0 hp,I.gw.vis,vw,I.gw.hid⟩,λj w2 x h m q=>?_,λj k w1 w2 x y hjk h1 h2 m1 m2 q1 q2=>?_⟩
 ·rcases get h with ⟨rfl,_⟩|⟨_,z⟩
  ·rw[hm]at m;cases m
  ·exact I.nob j w2 z m
 ·rcases get h with ⟨rfl,rfl⟩|⟨n,z⟩
  ·exact⟨.ref p,hs,p,o,rfl,b9,hn,c⟩
  ·obtain⟨v,q,x,u,e1,q1,n1,c1⟩:=I.own j w2 z m;subst e1;have:=I.sep i j w w2 p x n he z hm m hs q;exact⟨.ref x,q,x,u,rfl,by rw[aQ (dI this)];exact q1,n1,c1⟩
 ·obtain⟨w3,z⟩:=get' h;exact I.fresh j w3 x z m q
 ·obtain⟨w3,z3⟩:=get' h1;obtain⟨w4,z4⟩:=get' h2;exact I.sep j k w3 w4 x y hjk z3 z4 m1 m2 q1 q2
theorem R1.cell{H0 Hv0:Hp}{e:Mi.Env}{σ:L2.St}{H Hv:Hp}(I:R1 M H0 Hv0 e σ H Hv){i:Nat}{w:W}(hm:M i=true)(he:e[i]? = ab (ab w)):∃p o,σ[i]? = ab (ab (.ref p))/\H p=ab o/\Hv p=ae/\H0 p=ae/\c5 Hv w o:=by obtain⟨v,q,p,o,rfl,q1,n,c⟩:=I.own i w he hm;exact⟨p,o,q,q1,n,I.fresh i w p he hm q,c⟩
theorem lW{e:Mi.Env}{i:Nat}{k:List D->Prop}(h:Fin (Mi.getL e i) k):∃ds,e[i]? = ab (ab (.d (.lst ds)))/\k ds:=by
 unfold Mi.getL at h;split at h
 ·exact⟨_,‹_›,h⟩
 ·exact h.elim
theorem R1.list{H0 Hv0:Hp}{e:Mi.Env}{σ:L2.St}{H Hv:Hp}(I:R1 M H0 Hv0 e σ H Hv){i:Nat}{ds:List D}(hm:M i=true)(he:e[i]? = ab (ab (.d (.lst ds)))):∃p xs,σ[i]? = ab (ab (.ref p))/\H p=ab (.lst xs)/\Hv p=ae/\P2 (Rep Hv) ds xs:=by
 obtain⟨p,o,q,q1,n,_,c⟩:=I.cell hm he;cases o with
 |lst xs=>exact⟨p,xs,q,q1,n,c⟩
 |_=>exact c.elim
theorem R1.name{H0 Hv0:Hp}{e:Mi.Env}{σ:L2.St}{H Hv H1 Hv1:Hp}(I:R1 M H0 Hv0 e σ H Hv)(g:aY H Hv H1 Hv1){i:Nat}{w:W}{v:V}(hm:M i=true)(k:qN H H1 Hv1 w v):R1 M H0 Hv0 (e.set i (ab w)) (σ.set i (ab v)) H1 Hv1:=by
 obtain⟨p,o,rfl,hf,hp,hn,c⟩:=k;have I1:=I.grow g;have other:∀{j:Nat} {w2:W} {x:ah},e[j]? = ab (ab w2)->M j=true->σ[j]? = ab (ab (.ref x))->x≠p:=λ{j w2 x} h m q=>by
  obtain⟨p',o',q',q1,_⟩:=I.cell m h;rw[q]at q';cases q';exact cI q1 hf
 refine⟨⟨I1.vw,by rw[f8,f8];exact I.len,λj w2 h m=>?_,λj w2 h m=>?_⟩,I1.gw,λj w2 x h m q=>?_,λj k w1 w2 x y hjk h1 h2 m1 m2 q1 q2=>?_⟩
 ·rcases iL h with ⟨rfl,_⟩|⟨n,z⟩
  ·rw[hm]at m;cases m
  ·obtain⟨u,q,r⟩:=I1.nob j w2 z m;exact⟨u,by rw[dN n];exact q,r⟩
 ·rcases iL h with ⟨rfl,h,l⟩|⟨n,z⟩
  ·cases h;exact⟨.ref p,by rw[js (by rw[I.len];exact l)],p,o,rfl,hp,hn,c⟩
  ·obtain⟨u,q,r⟩:=I1.own j w2 z m;exact⟨u,by rw[dN n];exact q,r⟩
 ·rcases iL h with ⟨rfl,h,l⟩|⟨n,z⟩
  ·rw[js (by rw[I.len];exact l)]at q;cases q;exact I.gw.old.free hf
  ·rw[dN n]at q;exact I.fresh j w2 x z m q
 ·rcases iL h1 with ⟨rfl,_,l⟩|⟨n,z⟩
  ·rw[js (by rw[I.len];exact l)]at q1;cases q1;rcases iL h2 with ⟨rfl,_,_⟩|⟨n2,z2⟩
   ·exact absurd rfl hjk
   ·rw[dN n2]at q2;exact dI (other z2 m2 q2)
  ·rw[dN n]at q1;rcases iL h2 with ⟨rfl,_,l⟩|⟨n2,z2⟩
   ·rw[js (by rw[I.len];exact l)]at q2;cases q2;exact other z m1 q1
   ·rw[dN n2]at q2;exact I.sep j k w1 w2 x y hjk z z2 m1 m2 q1 q2
theorem j0(i:Nat)(hm:M i=true)(ha:AE M qN te a):AS M κ (ib te (fe i)) (Mi.bE i a):=λH0 Hv0 e σ H Hv D I h=>
 ha e σ H Hv _ I.toR0 ((ao.mp h).mono λd hd v H1 Hv1 g1 r=>hd _ H1 Hv1 (I.name g1 hm r) g1.vis)
theorem zE(i:Nat)(hm:M i=true)(ha:AW M qN te w):AS M κ (ib te (fe i)) (Mi.uD i w):=λH0 Hv0 e σ H Hv D I h=>
 ha e σ H Hv _ I.toR0 ((ao.mp h).mono λd hd v H1 Hv1 g1 r=>hd _ H1 Hv1 (I.name g1 hm r) g1.vis)
theorem C9:AW M qN AZ (λ_=>.ok (.dk [])):=λe σ H Hv Q I h p hp=>
 h _ _ Hv (.rG I.vw trivial hp) ⟨p,.dK [],rfl,hp,b9,qe I.vw hp,.nil⟩
theorem pN(i:Nat)(hm:M i=true)(ha:AE M qV te a):AS M κ (iE (lm K "list" uv (cO i) (fh te fT))) (Mi.fW i a):=λH0 Hv0 e σ H Hv D I h=>by
 obtain⟨d,hd,h⟩:=gn (ao.mp h);obtain⟨ds,he,h⟩:=lW (ao.mp h);obtain⟨hz,h⟩:=Mi.cc h;obtain⟨p,xs,q,q1,n,c⟩:=I.list hm he;refine⟨.ref p,q,.inl ⟨rfl,xs,.inl (.inl q1)⟩,ha e σ H Hv _ I.toR0 (by
  rw[hd];intro v H1 Hv1 g1 r;have I1:=I.grow g1;refine⟨p,xs,v,rfl,rfl,g1.old.at q1,by rw[<- c.len,cZ];exact hz,?_⟩;exact h σ _ Hv1 (I1.write hm he q (show c5 Hv1 (.d (.lst (ds++[d]))) (.lst (xs++[v]))from(dG g1.vis c).append (.cons r .nil))) g1.vis)⟩
theorem G3(i:Nat)(hm:M i=true):AS M κ (iE (lS K "list" CP (cO i))) (Mi.vP i):=λH0 Hv0 e σ H Hv D I h=>by
 obtain⟨ds,he,h⟩:=lW (ao.mp h);obtain⟨p,xs,q,q1,n,c⟩:=I.list hm he;exact⟨.ref p,q,.inl ⟨rfl,xs,.inl (.inl q1)⟩,p,xs,rfl,rfl,q1,h σ _ Hv (I.write hm he q (show c5 Hv (.d (.lst ds.reverse)) (.lst xs.reverse)from c.rev)) (b8.refl _)⟩
theorem gH{α:Type}{o:Option α}{k:α->Prop}(h:Fin (Mi.cA o) k):∃x,o=ab x/\k x:=by
 cases o with
 |some x=>exact⟨x,rfl,h⟩
 |none=>exact h.elim
theorem Cz{n:Nat}{i:Int}{k:Nat}(h:Mi.dj n i=ab k):seqIndex? i n=ab k:=by
 unfold Mi.dj at h;split at h
 ·split at h
  ·rw[tK (by omega) (by omega)];exact h
  ·cases h
 ·split at h
  ·rw[tJ (by omega) (by omega)];exact h
  ·cases h
theorem B6{ds:List D}{i:Int}{k:D×List D->Prop}(h:Fin (Mi.jR ds i) k):-(2 ^ 63)<=i/\i<2 ^ 63/\∃j d,Mi.dj ds.length i=ab j/\ds[j]? = ab d/\k (d,ds.eraseIdx j):=by obtain⟨⟨h1,h2⟩,h⟩:=Mi.cc h;obtain⟨j,hj,h⟩:=gH (ao.mp h);obtain⟨d,hd,h⟩:=gH (ao.mp h);exact⟨h1,h2,j,d,hj,hd,h⟩
theorem zH(x y:Nat)(hx:M x=false)(hy:M y=true)(ha:AE M qP te a):AS M κ (ib (lm K "list" wB (cO y) (fh te fT)) (fe x)) (Mi.lu x y a):=λH0 Hv0 e σ H Hv D I h=>by
 obtain⟨z,hz,h⟩:=gn (ao.mp h);obtain⟨i,rfl,h⟩:=pW (ao.mp h);obtain⟨ds,he,h⟩:=lW (ao.mp h);obtain⟨h1,h2,j,d,hj,hd,h⟩:=B6 (ao.mp h);obtain⟨p,xs,q,q1,n,c⟩:=I.list hy he;refine⟨.ref p,q,.inl ⟨rfl,xs,.inl (.inl q1)⟩,ha e σ H Hv _ I.toR0 (by
  rw[hz];intro v H1 Hv1 g1 r;have I1:=I.grow g1;cases RD.int r;obtain⟨u,hu,ru⟩:=c.getL hd;rw[c.len]at hj;refine⟨p,xs,i,j,u,rfl,rfl,g1.old.at q1,h1,h2,Cz hj,hu,?_⟩;exact h _ _ Hv1 ((I1.write hy he q (show c5 Hv1 (.d (.lst (ds.eraseIdx j))) (.lst (xs.eraseIdx j))from(dG g1.vis c).erase j)).set hx (iO g1.vis ru)) g1.vis)⟩
theorem Kl(x y:Nat)(hxy:x≠y)(hx:M x=true)(hy:M y=true)(ha:AE M qP te a):AS M κ (iE (lm K "list" uv (cO x) (fh (lm K "list" wB (cO y) (fh te fT)) fT))) (Mi.qH x y a):=λH0 Hv0 e σ H Hv D I h=>by
 obtain⟨z,hz,h⟩:=gn (ao.mp h);obtain⟨i,rfl,h⟩:=pW (ao.mp h);obtain⟨ds,he,h⟩:=lW (ao.mp h);obtain⟨h1,h2,j,d,hj,hd,h⟩:=B6 (ao.mp h);obtain⟨es,he2,h⟩:=lW (ao.mp h);obtain⟨hsz,h⟩:=Mi.cc h;have EF:e[x]? = ab (ab (.d (.lst es))):=by
  have he2:(e.set y (ab (.d (.lst (ds.eraseIdx j)))))[x]? = _:=he2
  rwa [dN (dI hxy)]at he2
 obtain⟨p,xs,q,q1,n,c⟩:=I.list hy he;obtain⟨p',xs',q',q1',n',c'⟩:=I.list hx EF;have hpp:p'≠p:=I.sep x y _ _ p' p hxy EF he hx hy q' q;refine⟨.ref p',q',.inl ⟨rfl,xs',.inl (.inl q1')⟩,.ref p,q,.inl ⟨rfl,xs,.inl (.inl q1)⟩,ha e σ H Hv _ I.toR0 (by
  rw[hz];intro v H1 Hv1 g1 r;have I1:=I.grow g1;cases RD.int r;obtain⟨u,hu,ru⟩:=c.getL hd;rw[c.len]at hj;refine⟨p,xs,i,j,u,rfl,rfl,g1.old.at q1,h1,h2,Cz hj,hu,?_⟩;have I2:=I1.write hy he q (show c5 Hv1 (.d (.lst (ds.eraseIdx j))) (.lst (xs.eraseIdx j))from(dG g1.vis c).erase j);refine⟨p',xs',u,rfl,rfl,by rw[aQ hpp];exact g1.old.at q1',by rw[<- c'.len,cZ];exact hsz,?_⟩;exact h σ _ Hv1 (I2.write hx he2 q' (show c5 Hv1 (.d (.lst (es++[d]))) (.lst (xs'++[u]))from(dG g1.vis c').append (.cons (iO g1.vis ru) .nil))) g1.vis)⟩
theorem JH{tk:TE}{k:Mi.E}(x:Nat)(hx:M x=true)(ha:AE M qV te a)(hk:AE M qP tk k):AS M κ (ib te (zc (cO x) tk yE)) (Mi.pH x k a):=λH0 Hv0 e σ H Hv D I h=>by
 obtain⟨d,hd,h⟩:=gn (ao.mp h);obtain⟨z,hz,h⟩:=gn (ao.mp h);obtain⟨i,rfl,h⟩:=pW (ao.mp h);obtain⟨ds,he,h⟩:=lW (ao.mp h);obtain⟨j,hj,h⟩:=gH (ao.mp h);obtain⟨p,xs,q,q1,n,c⟩:=I.list hx he;refine ha e σ H Hv _ I.toR0 (by
  rw[hd];intro v H1 Hv1 g1 r;refine⟨.ref p,q,hk e σ H1 Hv1 _ (I.toR0.grow g1) (by
   rw[hz];intro v2 H2 Hv2 g2 r2;cases RD.int r2;have I2:=(I.grow g1).grow g2;rw[c.len]at hj;refine⟨p,xs,i,j,rfl,rfl,g2.old.at (g1.old.at q1),hj,?_⟩;exact h σ _ Hv2 (I2.write hx he q (show c5 Hv2 (.d (.lst (ds.set j d))) (.lst (xs.set j v))from P2.set (iO g2.vis r) j (dG (g1.trans g2).vis c))) (g1.trans g2).vis)⟩)
theorem oy(i:Nat)(hm:M i=true):AS M qN (sQ (cO i)) (Mi.bI (Mi.wV i)):=λH0 Hv0 e σ H Hv D I h=>by
 obtain⟨w,he,h⟩:=oK (ao.mp h);obtain⟨p,o,q,q1,n,h0,c⟩:=I.cell hm he;exact⟨.ref p,q,h _ H Hv I.gw ⟨p,o,rfl,h0,q1,n,c⟩⟩
theorem R1.C7{H0 Hv0:Hp}{e:Mi.Env}{σ:L2.St}{H Hv:Hp}(I:R1 M H0 Hv0 e σ H Hv){y:Nat}{w:W}(hy:M y=true)(he:e[y]? = ab (ab w)):∃p Hv',σ[y]? = ab (ab (.ref p))/\R1 M H0 Hv0 (e.set y ae) σ H Hv'/\b8 Hv Hv'/\gp Hv' w (.ref p):=by
 obtain⟨p,o,q,q1,n,h0,c⟩:=I.cell hy he;obtain⟨vw,s⟩:=I.vw.show q1 n c.nt;have nj:∀{j:Nat} {w':W},(e.set y ae)[j]? = ab (ab w')->y≠j/\e[j]? = ab (ab w'):=λ{j w'} h=>by
  rcases iL h with ⟨_,h,_⟩|z
  ·cases h
  ·exact z
 refine⟨p,upd Hv p o,q,⟨⟨vw,by rw[f8];exact I.len,λj w' h m=>?_,λj w' h m=>?_⟩,⟨I.gw.old,I.gw.vis.trans s,vw,λb u z1 z2=>?_⟩,λj w' x h m z=>?_,λj k w1 w2 x z hjk h1 h2 m1 m2 z1 z2=>?_⟩,s,vq b9 (c.same s)⟩
 ·obtain⟨_,h⟩:=nj h;obtain⟨v,z,r⟩:=I.nob j w' h m;exact⟨v,z,nM s r⟩
 ·obtain⟨hne,h⟩:=nj h;obtain⟨v,z,x,u,e1,q2,n2,c2⟩:=I.own j w' h m;subst e1;have:=I.sep y j w w' p x hne he h hy m q z;exact⟨.ref x,z,x,u,rfl,q2,by rw[aQ (dI this)];exact n2,c2.same s⟩
 ·rw[aQ (cI z1 h0)];exact I.gw.hid b u z1 z2
 ·exact I.fresh j w' x (nj h).2 m z
 ·exact I.sep j k w1 w2 x z hjk (nj h1).2 (nj h2).2 m1 m2 z1 z2
theorem HE(x y:Nat)(hx:M x=false)(hy:M y=true):AS M κ (ib (cO y) (fe x)) (Mi.qI x y):=λH0 Hv0 e σ H Hv D I h=>by
 unfold Mi.qI at h;split at h
 ·rename_i w he;obtain⟨p,Hv',q,I',s,r⟩:=I.C7 hy he;exact⟨.ref p,q,h _ H Hv' (I'.set hx r) s⟩
 ·exact h.elim
theorem uk{κ':Type}[DecidableEq κ']{H:Hp}{k:κ'}{am:List (κ'×D)}{kv:List (κ'×V)}(h:eO H am kv):match Mi.gF am k with
 |some d=>∃v,fY kv k=ab v/\Rep H d v
 |none=>fY kv k=ae:=by
 unfold Mi.gF fY
 induction h with
 |nil=>rfl
 | @cons p q l m hpq t ih=>
  rw[ju,ju,hpq.1];by_cases hk:q.1=k
  ·rw[cE hk];exact⟨q.2,rfl,hpq.2⟩
  ·rw[bw hk];exact ih
theorem BM{κ':Type}[DecidableEq κ']{H:Hp}{k:κ'}{d:D}{v:V}(r:Rep H d v){am:List (κ'×D)}{kv:List (κ'×V)}(h:eO H am kv):eO H (Mi.putK k d am) (L2.putK kv k v):=by
 have e:(am.any λx=>decide (x.1=k))=(kv.any λx=>decide (x.1=k)):=by
  induction h with
  |nil=>rfl
  | @cons p q l m hpq t ih=>rw[iU,iU,ih,hpq.1]
 unfold Mi.putK L2.putK;rw[e];split
 ·rename_i hh;clear hh e
  induction h with
  |nil=>exact .nil
  | @cons p q l m hpq t ih=>
   rw[cq,cq];refine .cons ?_ ih
   ·by_cases hk:q.1=k
    ·rw[aw hk,aw (hpq.1.trans hk)];exact⟨hpq.1,r⟩
    ·rw[ay hk,ay (λz=>hk (hpq.1.symm.trans z))];exact hpq
 ·exact P2.append h (.cons ⟨rfl,r⟩ .nil)
end
end A
namespace A
open PySem L2 PyProof.Rows
open Mi (D W Rs Fin ao Out Tg)
variable[Tb:a7]
section
variable{X:Cx}{K:aB}
def IW:R2:=λx y H Q=>∃i j,x=.str i/\y=.str j/\i.length+j.length<=sizeLine/\Q (.str (i++j)) H
theorem lL{af:List (ah×Obj)}{σ:L2.St}{H:Hp}{s:ak}{a:ah}{xs:List V}(I:Inv X af σ H s)(h:Lst H a xs):∃(ai:List ag) (n:Nat),Vals xs ai/\xs.length<=sizeLine/\s.heap.get? a=ab { cls:=.type "list", data:=.seq ai.toArray n }:=by
 rcases h with h|⟨o,h⟩
 ·obtain⟨z,ai,n,r,e⟩:=I.hok a _ h;exact⟨ai,n,r,z,e⟩
 ·obtain⟨_,z,ai,n,r,e⟩:=I.hok a _ h;exact⟨ai,n,r,z,e⟩
def Bu:R2:=λx y H Q=>∃l b xs zs,x=.ref l/\y=.ref b/\Lst H l xs/\Lst H b zs/\xs.length+zs.length<=sizeLine/\∀p,H p=ae->Q (.ref p) (upd H p (.lst (xs++zs)))
theorem JM:bY X (binaryOp .Add) Bu:=by
 intro af s σ H x y v u Q I rx ry h;obtain⟨l,b,xs,zs,rfl,rfl,hH,hB,hz,q⟩:=h;cases rx;cases ry;obtain⟨ai,n,r,z,e⟩:=lL I hH;obtain⟨its2,n2,r2,z2,e2⟩:=lL I hB;have hl:=r.length;have hl2:=r2.length;refine PySem.P.add_list e e2 ?_ (by rw[bF,bF];omega);have ea:ai.toArray++its2.toArray=(ai++its2).toArray:=by simp
 rw[ea];exact⟨.ref _,_,I.KA (t':=s.toks) (r.append r2) (by rw[bA];omega),rfl,q _ I.fresh⟩
def A9:R2:=λx y H Q=>i5 (λi j=>.int (i+j)) x y H Q\/IW x y H Q\/Bu x y H Q
theorem cX:bY X (binaryOp .Add) A9:=GB.or (bY.or Im JM)
theorem v7{H Hv:Hp}(vw:Vw H Hv){ds:List D}{xs:List V}(r:P2 (Rep Hv) ds xs){p:ah}(hp:H p=ae):aY H Hv (upd H p (.lst xs)) Hv/\qN H (upd H p (.lst xs)) Hv (.d (.lst ds)) (.ref p):=⟨.rG vw trivial hp,p,.lst xs,rfl,hp,b9,qe vw hp,r⟩
theorem CW{H Hv:Hp}(vw:Vw H Hv){ds:List D}{xs:List V}(r:P2 (Rep Hv) ds xs){p:ah}(hp:H p=ae):aY H Hv (upd H p (.lst xs)) (upd Hv p (.lst xs))/\qV H (upd H p (.lst xs)) (upd Hv p (.lst xs)) (.d (.lst ds)) (.ref p):=by have g:aY H Hv (upd H p (.lst xs)) (upd Hv p (.lst xs)):=.new vw hp;exact⟨g,iM.mpr ⟨p,xs,rfl,.inl b9,dG g.vis r⟩⟩
theorem vZ{H Hv:Hp}(vw:Vw H Hv){ds:List D}{xs:List V}(r:P2 (Rep Hv) ds xs){p:ah}(hp:H p=ae):aY H Hv (upd H p (.tup xs)) (upd Hv p (.tup xs))/\qV H (upd H p (.tup xs)) (upd Hv p (.tup xs)) (.d (.tup ds)) (.ref p):=by have g:aY H Hv (upd H p (.tup xs)) (upd Hv p (.tup xs)):=.new vw hp;exact⟨g,i4.mpr ⟨p,xs,rfl,b9,dG g.vis r⟩⟩
theorem cU:B2 qV A9 Mi.aV:=λx y v u H Hv Q vw rx ry h=>by
 cases x with
 | int i=>cases y with
  |int j=>cases RD.int rx;cases RD.int ry;exact .inl ⟨i,j,rfl,rfl,h _ H Hv (.refl vw) fM⟩
  |_=>exact h.elim
 | str i=>cases y with
  |str j=>
   cases RD.str rx;cases RD.str ry;obtain⟨hz,h⟩:=Mi.cc h;exact .inr (.inl ⟨i,j,rfl,rfl,by rw[cZ];exact hz,h _ H Hv (.refl vw) oA⟩)
  |_=>exact h.elim
 | lst a=>cases y with
  |lst b=>
   obtain⟨hz,h⟩:=Mi.cc h;obtain⟨p,xs,rfl,l1,r1⟩:=RD.lst vw rx;obtain⟨q,ys,rfl,l2,r2⟩:=RD.lst vw ry;refine .inr (.inr ⟨p,q,xs,ys,rfl,rfl,l1,l2,by rw[<- r1.len,<- r2.len,cZ];exact hz,λa ha=>?_⟩);obtain⟨g,k⟩:=CW vw (r1.append r2) ha;exact h _ _ _ g k
  |_=>exact h.elim
 |_=>cases y<;>exact h.elim
theorem rA:B2 qV (i5 λi j=>.int (i-j)) Mi.iK:=λx y v u H Hv Q vw rx ry h=>by
 cases x with
 | int i=>cases y with
  |int j=>cases RD.int rx;cases RD.int ry;exact⟨i,j,rfl,rfl,h _ H Hv (.refl vw) fM⟩
  |_=>exact h.elim
 |_=>cases y<;>exact h.elim
theorem eP:B2 qV (rI rh λi j=>.int (i*j)) Mi.bp:=λx y v u H Hv Q vw rx ry h=>by
 cases x with
 | int i=>cases y with
  |int j=>cases RD.int rx;cases RD.int ry;obtain⟨hz,h⟩:=Mi.cc h;exact⟨i,j,rfl,rfl,hz,h _ H Hv (.refl vw) fM⟩
  |_=>exact h.elim
 |_=>cases y<;>exact h.elim
theorem gO:B2 qV (rI zW λi j=>.int (i/j)) Mi.bP:=λx y v u H Hv Q vw rx ry h=>by
 cases x with
 | int i=>cases y with
  |int j=>cases RD.int rx;cases RD.int ry;obtain⟨hz,h⟩:=Mi.cc h;exact⟨i,j,rfl,rfl,hz,h _ H Hv (.refl vw) fM⟩
  |_=>exact h.elim
 |_=>cases y<;>exact h.elim
theorem cS:B2 qV (rI (λ_ j=>0<j) λi j=>.int (i%j)) Mi.aU:=λx y v u H Hv Q vw rx ry h=>by
 cases x with
 | int i=>cases y with
  |int j=>cases RD.int rx;cases RD.int ry;obtain⟨hz,h⟩:=Mi.cc h;exact⟨i,j,rfl,rfl,hz,h _ H Hv (.refl vw) fM⟩
  |_=>exact h.elim
 |_=>cases y<;>exact h.elim
theorem Hx:B2 qV (rI A2 λi j=>.int (i ^ j.toNat)) Mi.uU:=λx y v u H Hv Q vw rx ry h=>by
 cases x with
 | int i=>cases y with
  |int j=>cases RD.int rx;cases RD.int ry;obtain⟨hz,h⟩:=Mi.cc h;exact⟨i,j,rfl,rfl,hz,h _ H Hv (.refl vw) fM⟩
  |_=>exact h.elim
 |_=>cases y<;>exact h.elim
theorem r0:B1 qV (rU λi=>.int (-i)) Mi.gi:=λx v H Hv Q vw rx h=>by
 cases x with
 |int i=>cases RD.int rx;exact⟨i,rfl,h _ H Hv (.refl vw) fM⟩
 |_=>exact h.elim
def Al:R2:=λx y H Q=>i5 (λi j=>.bl (decide (i<j))) x y H Q\/∃i j,x=.str i/\y=.str j/\Q (.bl (decide (i.cps.toList<j.cps.toList))) H
theorem oM:bY X (compareOp .Lt) Al:=HL.or HI
def zh:R2:=λx y H Q=>i5 (λi j=>.bl (decide (j<i))) x y H Q\/∃i j,x=.str i/\y=.str j/\Q (.bl (decide (j.cps.toList<i.cps.toList))) H
theorem KD:bY X (compareOp .Gt) zh:=Ge.or KH
theorem oI:B2 qV Al Mi.dB:=λx y v u H Hv Q vw rx ry h=>by
 cases x with
 | int i=>cases y with
  |int j=>cases RD.int rx;cases RD.int ry;exact .inl ⟨i,j,rfl,rfl,h _ H Hv (.refl vw) ff⟩
  |_=>exact h.elim
 | str i=>cases y with
  |str j=>cases RD.str rx;cases RD.str ry;exact .inr ⟨i,j,rfl,rfl,h _ H Hv (.refl vw) ff⟩
  |_=>exact h.elim
 |_=>cases y<;>exact h.elim
theorem FE:B2 qV zh Mi.ve:=λx y v u H Hv Q vw rx ry h=>by
 cases x with
 | int i=>cases y with
  |int j=>cases RD.int rx;cases RD.int ry;exact .inl ⟨i,j,rfl,rfl,h _ H Hv (.refl vw) ff⟩
  |_=>exact h.elim
 | str i=>cases y with
  |str j=>cases RD.str rx;cases RD.str ry;exact .inr ⟨i,j,rfl,rfl,h _ H Hv (.refl vw) ff⟩
  |_=>exact h.elim
 |_=>cases y<;>exact h.elim
def qR(K:aB)(neg:Bool):R2:=λx y H Q=>∃d e,L2.Rep K H d x/\L2.Rep K H e y/\d.dep<=16/\Q (.bl (if neg then !Mi.bi d e else Mi.bi d e)) H
theorem mG:B2 qV (qR K false) Mi.dZ:=λx y v u H Hv Q vw rx ry h=>by
 obtain⟨hz,h⟩:=Mi.cc h;exact⟨x,y,jM K (RD.full vw rx),jM K (RD.full vw ry),hz,h _ H Hv (.refl vw) ff⟩
theorem pI:B2 qV (qR K true) Mi.fH:=λx y v u H Hv Q vw rx ry h=>by
 obtain⟨hz,h⟩:=Mi.cc h;exact⟨x,y,jM K (RD.full vw rx),jM K (RD.full vw ry),hz,h _ H Hv (.refl vw) ff⟩
def Bx(K:aB):R2:=λx y H Q=>sw K false x y H Q\/De false x y H Q
theorem sA(hu:X.A.units+64<cLine):bY X (compareOp .In) (Bx X.K):=(Jk hu).or KR
theorem qW{H:Hp}{ds:List D}{xs:List V}(h:P2 (Rep H) ds xs):L2.aX K H ds xs:=sE K (lO.mpr h)
theorem rp:B2 qV (Bx K) Mi.g6:=λx y v u H Hv Q vw rx ry h=>by
 cases y with
 |lst ds=>
  obtain⟨hz,h⟩:=Mi.cc h;obtain⟨p,xs,rfl,l1,r1⟩:=RD.lst vw ry;exact .inl ⟨p,xs,x,ds,rfl,.inl l1.sq,jM K (RD.full vw rx),qW (dG vw.sub r1),hz,h _ H Hv (.refl vw) ff⟩
 |tup ds=>
  obtain⟨hz,h⟩:=Mi.cc h;obtain⟨p,xs,rfl,l1,_,r1⟩:=RD.tup vw ry;exact .inl ⟨p,xs,x,ds,rfl,.inr (.inl (.inl l1)),jM K (RD.full vw rx),qW (dG vw.sub r1),hz,h _ H Hv (.refl vw) ff⟩
 | str z=>cases x with
  |str c=>
   obtain⟨hz,h⟩:=Mi.cc h;cases RD.str rx;cases RD.str ry;obtain⟨⟨l⟩⟩:=c
   match l,hz with
   |[c],_=>exact .inr ⟨c,z,rfl,rfl,h _ H Hv (.refl vw) ff⟩
  |_=>exact h.elim
 |_=>exact h.elim
theorem wg:B2 qV (sw K true) Mi.iu:=λx y v u H Hv Q vw rx ry h=>by
 cases y with
 |lst ds=>
  obtain⟨hz,h⟩:=Mi.cc h;obtain⟨p,xs,rfl,l1,r1⟩:=RD.lst vw ry;exact⟨p,xs,x,ds,rfl,.inl l1.sq,jM K (RD.full vw rx),qW (dG vw.sub r1),hz,h _ H Hv (.refl vw) ff⟩
 |tup ds=>
  obtain⟨hz,h⟩:=Mi.cc h;obtain⟨p,xs,rfl,l1,_,r1⟩:=RD.tup vw ry;exact⟨p,xs,x,ds,rfl,.inr (.inl (.inl l1)),jM K (RD.full vw rx),qW (dG vw.sub r1),hz,h _ H Hv (.refl vw) ff⟩
 |_=>exact h.elim
theorem F7{α:Type}(xs:List α)(i:Int):Mi.cJ xs i=L2.cJ xs i:=rfl
theorem Ae{α β:Type}{F:α->β->Prop}{l:List α}{m:List β}(h:P2 F l m){i:Int}{a:α}(e:Mi.cJ l i=ab a):∃b,L2.cJ m i=ab b/\F a b:=by
 unfold Mi.cJ at e;cases hj:Mi.dj l.length i with
 |none=>rw[hj]at e;cases e
 |some j=>
  rw[hj]at e;have e:l[j]? = ab a:=e;obtain⟨b,hb,r⟩:=h.getL e;refine⟨b,?_,r⟩;rw[<- F7];unfold Mi.cJ;rw[<- h.len,hj];exact hb
theorem cC:B2 qV (uT K) Mi.aG:=λx y v u H Hv Q vw rx ry h=>by
 cases y with
 |int i=>
  cases RD.int ry;cases x with
  |lst ds=>
   obtain⟨d,e,h⟩:=gH h;obtain⟨p,xs,rfl,l1,r1⟩:=RD.lst vw rx;obtain⟨z,ez,rz⟩:=Ae r1 e;exact .inl ⟨p,xs,i,z,rfl,rfl,l1.sq,ez,h z H Hv (.refl vw) rz⟩
  |tup ds=>
   obtain⟨d,e,h⟩:=gH h;obtain⟨p,xs,rfl,l1,_,r1⟩:=RD.tup vw rx;obtain⟨z,ez,rz⟩:=Ae r1 e;exact .inr (.inl ⟨p,xs,i,z,rfl,rfl,.inl (.inl l1),ez,h z H Hv (.refl vw) rz⟩)
  |str z=>
   cases RD.str rx;obtain⟨hz,h⟩:=Mi.cc h;obtain⟨c,e,h⟩:=gH (ao.mp h);exact .inr (.inr ⟨z,i,c,rfl,rfl,by rw[cZ];exact hz,e,h _ H Hv (.refl vw) oA⟩)
  |_=>exact h.elim
 |_=>cases x<;>exact h.elim
theorem JC{F:D->V->Prop}{l:List D}{m:List V}(h:P2 F l m)(lo hi:Option Int):P2 F (Mi.ia l lo hi) (L2.nJ m lo hi):=by unfold Mi.ia L2.nJ;rw[h.len];exact(h.drop _).take _
def zC(K:aB):V->Option Int->Option Int->Hp->VK->Prop:=λx lo hi H Q=>Ad K x lo hi H Q\/By x lo hi H Q
theorem nH:kS X (zC X.K):=Kh.or Hj
theorem Iq(z:Str)(lo hi:Option Int):mU z lo hi=Mi.km z lo hi:=by
 unfold mU Mi.km Mi.ia;have:z.cps.toList.length=z.length:=by simp[mz]
 rw[this];rfl
theorem mX:BS qV (zC K) Mi.gq:=λx lo hi v H Hv Q vw rx h=>by
 cases x with
 |lst ds=>
  obtain⟨p,xs,rfl,l1,r1⟩:=RD.lst vw rx;refine .inl ⟨p,xs,rfl,l1.sq,λa ha=>?_⟩;obtain⟨g,k⟩:=CW vw (JC r1 lo hi) ha;exact h _ _ _ g k
 |str z=>
  cases RD.str rx;obtain⟨hz,h⟩:=Mi.cc h;exact .inr ⟨z,rfl,by rw[cZ];exact hz,h _ H Hv (.refl vw) (by rw[Iq];exact oA)⟩
 |_=>exact h.elim
theorem ku{F:D->V->Prop}{d:D}{vs:List V}(h:P2 F [d] vs):∃v,vs=[v]/\F d v:=by
 cases h with
 |cons r t=>cases t;exact⟨_,rfl,r⟩
theorem BU{F:D->V->Prop}{d e:D}{vs:List V}(h:P2 F [d,e] vs):∃v u,vs=[v,u]/\F d v/\F e u:=by
 cases h with
 | cons r t=>cases t with
  |cons r' t=>cases t;exact⟨_,_,rfl,r,r'⟩
def C1(K:aB):List V->Hp->VK->Prop:=λxs H Q=>∃x n,xs=[x]/\y2 K x H n/\Q (.int n) H
theorem jK:fc X (.builtin "len") (C1 X.K):=Jh
theorem eA:BN qV (C1 K) Mi.cT:=λds vs H Hv Q vw r h=>by
 match ds,r,h with
 |[.lst ds],r,h=>
  obtain⟨v,ev,rr⟩:=ku r;subst ev;replace r:=rr;obtain⟨p,xs,rfl,l1,r1⟩:=RD.lst vw r;refine⟨_,xs.length,rfl,.inl ⟨xs,l1.sq,rfl⟩,?_⟩;rw[<- r1.len];exact h _ H Hv (.refl vw) fM
 |[.tup ds],r,h=>
  obtain⟨v,ev,rr⟩:=ku r;subst ev;replace r:=rr;obtain⟨p,xs,rfl,l1,_,r1⟩:=RD.tup vw r;refine⟨_,xs.length,rfl,.inr ⟨xs,.inl (.inl l1),rfl⟩,?_⟩;rw[<- r1.len];exact h _ H Hv (.refl vw) fM
 |[.str z],r,h=>
  obtain⟨v,ev,rr⟩:=ku r;subst ev;replace r:=rr;cases RD.str r;obtain⟨hz,h⟩:=Mi.cc h;exact⟨_,z.length,rfl,⟨by rw[cZ];exact hz,rfl⟩,h _ H Hv (.refl vw) fM⟩
def yD:List V->Hp->VK->Prop:=λxs H Q=>∃i j z,xs=[.int i,.int j]/\max i j=z/\Q (.int z) H
def zl:List V->Hp->VK->Prop:=λxs H Q=>∃i j z,xs=[.int i,.int j]/\min i j=z/\Q (.int z) H
theorem zV(hc:X.calm=true):fc X (.builtin "max") yD:=Gp hc
theorem IC(hc:X.calm=true):fc X (.builtin "min") zl:=K1 hc
theorem pE:BN qV yD Mi.gI:=λds vs H Hv Q vw r h=>by
 match ds,r,h with
 |[.int i,.int j],r,h=>
  obtain⟨v,u,ev,rr,r'⟩:=BU r;subst ev;replace r:=rr;cases RD.int r;cases RD.int r';exact⟨i,j,_,rfl,rfl,h _ H Hv (.refl vw) fM⟩
theorem u0:BN qV zl Mi.ko:=λds vs H Hv Q vw r h=>by
 match ds,r,h with
 |[.int i,.int j],r,h=>
  obtain⟨v,u,ev,rr,r'⟩:=BU r;subst ev;replace r:=rr;cases RD.int r;cases RD.int r';exact⟨i,j,_,rfl,rfl,h _ H Hv (.refl vw) fM⟩
def CS(K:aB):List V->Hp->VK->Prop:=λxs H Q=>∃p ys,xs=[.ref p]/\(cy K H p ys\/ee K H p ys)/\∀l,H l=ae->Q (.ref l) (upd H l (.lst ys))
theorem FC:fc X (.type "list") (CS X.K):=Ks
theorem ng:BN qN (CS K) Mi.yS:=λds vs H Hv Q vw r h=>by
 match ds,r,h with
 |[.lst ds],r,h=>
  obtain⟨v,ev,rr⟩:=ku r;subst ev;replace r:=rr;obtain⟨p,xs,rfl,l1,r1⟩:=RD.lst vw r;refine⟨p,xs,rfl,.inl l1.sq,λa ha=>?_⟩;obtain⟨g,k⟩:=v7 vw r1 ha;exact h _ _ _ g k
 |[.tup ds],r,h=>
  obtain⟨v,ev,rr⟩:=ku r;subst ev;replace r:=rr;obtain⟨p,xs,rfl,l1,_,r1⟩:=RD.tup vw r;refine⟨p,xs,rfl,.inr (.inl (.inl l1)),λa ha=>?_⟩;obtain⟨g,k⟩:=v7 vw r1 ha;exact h _ _ _ g k
def Aj(K:aB):List V->Hp->VK->Prop:=λxs H Q=>∃p ys,xs=[.ref p]/\((cy K H p ys/\∀l,H l=ae->Q (.ref l) (upd H l (.tup ys)))\/(ee K H p ys/\Q (.ref p) H))
theorem C6:fc X (.type "tuple") (Aj X.K):=Fy
theorem mI:BN qV (Aj K) Mi.uZ:=λds vs H Hv Q vw r h=>by
 match ds,r,h with
 |[.lst ds],r,h=>
  obtain⟨v,ev,rr⟩:=ku r;subst ev;replace r:=rr;obtain⟨p,xs,rfl,l1,r1⟩:=RD.lst vw r;refine⟨p,xs,rfl,.inl ⟨l1.sq,λa ha=>?_⟩⟩;obtain⟨g,k⟩:=vZ vw r1 ha;exact h _ _ _ g k
 |[.tup ds],r,h=>
  obtain⟨v,ev,rr⟩:=ku r;subst ev;replace r:=rr;obtain⟨p,xs,rfl,l1,l2,r1⟩:=RD.tup vw r;exact⟨p,xs,rfl,.inr ⟨.inl (.inl l1),h _ H Hv (.refl vw) (i4.mpr ⟨p,xs,rfl,l2,r1⟩)⟩⟩
end
end A
namespace A
open PySem L2 PyProof.Rows
open Mi (D W Rs Fin ao Out Tg)
variable[Tb:a7]
section
variable{X:Cx}{af:List (ah×Obj)}{σ:L2.St}{H:Hp}{s:ak}
open SeqAt in
theorem Kv:∀{d e:D} {A:br} {x y:V} {u u':ag},d.flat=true->e.flat=true->L2.Rep X.K H d x->L2.Rep X.K H e y->RelV x u->RelV y u'->RcAt A s u u' (Mi.bi d e)/\RcNeAt A s u u' (!Mi.bi d e):=by
 intro d e A x y u u' h1 h2 r1 r2 q1 q2;cases d with
 |non=>
  rw[L2.Rep]at r1;subst r1;cases q1;cases e with
  |non=>rw[L2.Rep]at r2;subst r2;cases q2;exact⟨RcAt.none_none,RcNeAt.none_none⟩
  |bl b=>rw[L2.Rep]at r2;subst r2;cases q2;exact⟨RcAt.none_bool b,RcNeAt.none_bool b⟩
  |int b=>rw[L2.Rep]at r2;subst r2;obtain⟨t,rfl⟩:=q2;exact⟨RcAt.none_int b t,RcNeAt.none_int b t⟩
  |str b=>rw[L2.Rep]at r2;subst r2;obtain⟨t,rfl⟩:=q2;exact⟨RcAt.none_str b t,RcNeAt.none_str b t⟩
  |_=>cases h2
 |bl a=>
  rw[L2.Rep]at r1;subst r1;cases q1;cases e with
  |non=>rw[L2.Rep]at r2;subst r2;cases q2;exact⟨RcAt.bool_none a,RcNeAt.bool_none a⟩
  |bl b=>rw[L2.Rep]at r2;subst r2;cases q2;rw[Mi.bi];exact⟨RcAt.bool_bool a b,RcNeAt.bool_bool a b⟩
  |int b=>rw[L2.Rep]at r2;subst r2;obtain⟨t,rfl⟩:=q2;rw[Mi.bi];exact⟨RcAt.bool_int a b t,RcNeAt.bool_int a b t⟩
  |str b=>rw[L2.Rep]at r2;subst r2;obtain⟨t,rfl⟩:=q2;exact⟨RcAt.bool_str a b t,RcNeAt.bool_str a b t⟩
  |_=>cases h2
 |int a=>
  rw[L2.Rep]at r1;subst r1;obtain⟨t1,rfl⟩:=q1;cases e with
  |non=>rw[L2.Rep]at r2;subst r2;cases q2;exact⟨RcAt.int_none a t1,RcNeAt.int_none a t1⟩
  |bl b=>rw[L2.Rep]at r2;subst r2;cases q2;rw[Mi.bi];exact⟨RcAt.int_bool a t1 b,RcNeAt.int_bool a t1 b⟩
  |int b=>rw[L2.Rep]at r2;subst r2;obtain⟨t,rfl⟩:=q2;rw[Mi.bi];exact⟨RcAt.int_int a t1 b t,RcNeAt.int_int a t1 b t⟩
  |str b=>rw[L2.Rep]at r2;subst r2;obtain⟨t,rfl⟩:=q2;exact⟨RcAt.int_str a t1 b t,RcNeAt.int_str a t1 b t⟩
  |_=>cases h2
 |str a=>
  rw[L2.Rep]at r1;subst r1;obtain⟨t1,rfl⟩:=q1;cases e with
  |non=>rw[L2.Rep]at r2;subst r2;cases q2;exact⟨RcAt.str_none a t1,RcNeAt.str_none a t1⟩
  |bl b=>rw[L2.Rep]at r2;subst r2;cases q2;exact⟨RcAt.str_bool a t1 b,RcNeAt.str_bool a t1 b⟩
  |int b=>rw[L2.Rep]at r2;subst r2;obtain⟨t,rfl⟩:=q2;exact⟨RcAt.str_int a t1 b t,RcNeAt.str_int a t1 b t⟩
  |str b=>rw[L2.Rep]at r2;subst r2;obtain⟨t,rfl⟩:=q2;rw[Mi.bi];exact⟨RcAt.str_str a t1 b t,RcNeAt.str_str a t1 b t⟩
  |_=>cases h2
 |_=>cases h1
open SeqAt in
theorem Cw(I:Inv X af σ H s):∀(d e:D) (A:br) {x y:V} {u u':ag},d.dep<=16->A.units+17<cLine->L2.Rep X.K H d x->L2.Rep X.K H e y->RelV x u->RelV y u'->RcAt A s u u' (Mi.bi d e)/\RcNeAt A s u u' (!Mi.bi d e):=by
 intro d e A x y u u' hd hu h h' r r';have hu0:A.units<cLine:=by omega
 have item:∀{ds es:List D} {xs ys:List V} {ai its':List ag},Mi.cH ds<=16->L2.aX X.K H ds xs->L2.aX X.K H es ys->Vals xs ai->Vals ys its' ->
  ∀j (h1:j<ai.toArray.size) (h2:j<its'.toArray.size),EqAt A.in1 s ai.toArray[j] its'.toArray[j] (Mi.bi (ds.getD j .non) (es.getD j .non)):=by
  intro ds es xs ys ai its' hn q q' v v' j h1 h2;have h1':j<ai.length:=by simpa using h1
  have h2':j<its'.length:=by simpa using h2
  have e1:j<xs.length:=by rw[v.length];exact h1'
  have e2:j<ys.length:=by rw[v'.length];exact h2'
  have g1:xs[j]? = ab xs[j]:=by simp[e1]
  have g2:ys[j]? = ab ys[j]:=by simp[e2]
  obtain⟨w1,k1,r1⟩:=v.get g1;obtain⟨w2,k2,r2⟩:=v'.get g2;have t1:ai.toArray[j]=w1:=by obtain⟨_,k1⟩:=cM.mp k1;simpa using k1
  have t2:its'.toArray[j]=w2:=by obtain⟨_,k2⟩:=cM.mp k2;simpa using k2
  rw[t1,t2];have:=ww (ds:=ds) (j:=j);refine AF I 16 _ _ A.in1 (by omega) ?_ (q.get g1) (q'.get g2) r1 r2;show A.units+1+16<cLine;omega
 by_cases hdf:d.flat=true
 ·by_cases hef:e.flat=true
  ·exact Kv hdf hef h h' r r'
  ·cases e with
   |lst es=>
    rw[L2.Rep]at h';obtain⟨a,xs,rfl,q,_⟩:=h';cases r';obtain⟨ai,_,p,_⟩:=I.list q;cases d with
    |non=>rw[L2.Rep]at h;subst h;cases r;exact⟨RcAt.none_list p.isList hu0,RcNeAt.none_list p.isList hu0⟩
    |bl b=>rw[L2.Rep]at h;subst h;cases r;exact⟨RcAt.bool_list b p.isList hu0,RcNeAt.bool_list b p.isList hu0⟩
    |int b=>rw[L2.Rep]at h;subst h;obtain⟨t,rfl⟩:=r;exact⟨RcAt.int_list b t p.isList hu0,RcNeAt.int_list b t p.isList hu0⟩
    |str b=>rw[L2.Rep]at h;subst h;obtain⟨t,rfl⟩:=r;exact⟨RcAt.str_list b t p.isList hu0,RcNeAt.str_list b t p.isList hu0⟩
    |_=>cases hdf
   |tup es=>
    rw[L2.Rep]at h';obtain⟨a,xs,rfl,q,_⟩:=h';cases r';obtain⟨ai,_,p,_⟩:=I.tuple q;cases d with
    |non=>rw[L2.Rep]at h;subst h;cases r;exact⟨RcAt.none_tuple p hu0,RcNeAt.none_tuple p hu0⟩
    |bl b=>rw[L2.Rep]at h;subst h;cases r;exact⟨RcAt.bool_tuple b p hu0,RcNeAt.bool_tuple b p hu0⟩
    |int b=>rw[L2.Rep]at h;subst h;obtain⟨t,rfl⟩:=r;exact⟨RcAt.int_tuple b t p hu0,RcNeAt.int_tuple b t p hu0⟩
    |str b=>rw[L2.Rep]at h;subst h;obtain⟨t,rfl⟩:=r;exact⟨RcAt.str_tuple b t p hu0,RcNeAt.str_tuple b t p hu0⟩
    |_=>cases hdf
   |_=>exact absurd rfl hef
 ·cases d with
  |lst ds=>
   rw[L2.Rep]at h;obtain⟨a,xs,rfl,q,rr⟩:=h;cases r;obtain⟨ai,v,p,_⟩:=I.list q;have hn:Mi.cH ds<=16:=by rw[Mi.D.dep]at hd;omega
   cases e with
   |non=>rw[L2.Rep]at h';subst h';cases r';exact⟨RcAt.list_none p.isList hu0,RcNeAt.list_none p.isList hu0⟩
   |bl b=>rw[L2.Rep]at h';subst h';cases r';exact⟨RcAt.list_bool b p.isList hu0,RcNeAt.list_bool b p.isList hu0⟩
   |int b=>rw[L2.Rep]at h';subst h';obtain⟨t,rfl⟩:=r';exact⟨RcAt.list_int b t p.isList hu0,RcNeAt.list_int b t p.isList hu0⟩
   |str b=>rw[L2.Rep]at h';subst h';obtain⟨t,rfl⟩:=r';exact⟨RcAt.list_str b t p.isList hu0,RcNeAt.list_str b t p.isList hu0⟩
   |lst es=>
    rw[L2.Rep]at h';obtain⟨b,ys,rfl,q',rr'⟩:=h';cases r';obtain⟨its',v',p',_⟩:=I.list q';have l1:=rr.length;have l2:=rr'.length;have l3:=v.length;have l4:=v'.length;by_cases hl:ds.length=es.length
    ·rw[Mi.bi,oD hl];have e1:ai.toArray.size=ds.length:=by simp;omega
     have k1:=RcAt.lists p.isList p'.isList (by simp;omega) hu0 (item hn rr rr' v v');have k2:=RcNeAt.lists p.isList p'.isList (by simp;omega) hu0 (item hn rr rr' v v');rw[e1]at k1 k2;exact⟨k1,k2⟩
    ·rw[Mi.bi,qi hl];exact⟨RcAt.lists_lengths p.isList p'.isList (by simp;omega) hu0,RcNeAt.lists_lengths p.isList p'.isList (by simp;omega) hu0⟩
   |tup es=>
    rw[L2.Rep]at h';obtain⟨b,ys,rfl,q',_⟩:=h';cases r';obtain⟨its',_,p',_⟩:=I.tuple q';exact⟨RcAt.list_tuple p.isList p' hu0,RcNeAt.list_tuple p.isList p' hu0⟩
  |tup ds=>
   rw[L2.Rep]at h;obtain⟨a,xs,rfl,q,rr⟩:=h;cases r;obtain⟨ai,v,p,_⟩:=I.tuple q;have hn:Mi.cH ds<=16:=by rw[Mi.D.dep]at hd;omega
   cases e with
   |non=>rw[L2.Rep]at h';subst h';cases r';exact⟨RcAt.tuple_none p hu0,RcNeAt.tuple_none p hu0⟩
   |bl b=>rw[L2.Rep]at h';subst h';cases r';exact⟨RcAt.tuple_bool b p hu0,RcNeAt.tuple_bool b p hu0⟩
   |int b=>rw[L2.Rep]at h';subst h';obtain⟨t,rfl⟩:=r';exact⟨RcAt.tuple_int b t p hu0,RcNeAt.tuple_int b t p hu0⟩
   |str b=>rw[L2.Rep]at h';subst h';obtain⟨t,rfl⟩:=r';exact⟨RcAt.tuple_str b t p hu0,RcNeAt.tuple_str b t p hu0⟩
   |tup es=>
    rw[L2.Rep]at h';obtain⟨b,ys,rfl,q',rr'⟩:=h';cases r';obtain⟨its',v',p',_⟩:=I.tuple q';have l1:=rr.length;have l2:=rr'.length;have l3:=v.length;have l4:=v'.length;have k1:=RcAt.tuples p p' hu0 (item hn rr rr' v v');have k2:=RcNeAt.tuples p p' hu0 (item hn rr rr' v v');have e1:ai.toArray.size=ds.length:=by simp;omega
    have e2:its'.toArray.size=es.length:=by simp;omega
    rw[e1,e2]at k1 k2;by_cases hl:ds.length=es.length
    ·rw[Mi.bi,oD hl];rw[hl,Nat.min_self,jQ,Bool.and_true,<- hl]at k1 k2;exact⟨k1,k2⟩
    ·rw[Mi.bi,qi hl];have:(ds.length==es.length)=false:=by simpa using hl
     rw[this,tP]at k1 k2;exact⟨k1,k2⟩
   |lst es=>
    rw[L2.Rep]at h';obtain⟨b,ys,rfl,q',_⟩:=h';cases r';obtain⟨its',_,p',_⟩:=I.list q';exact⟨RcAt.tuple_list p p'.isList hu0,RcNeAt.tuple_list p p'.isList hu0⟩
  |_=>exact absurd rfl hdf
theorem mF(hu:X.A.units+64<cLine):bY X (compareOp .Eq) (qR X.K false):=by intro af s σ H x y v u Q I rx ry h;obtain⟨d,e,r1,r2,hz,q⟩:=h;exact(Cw I d e X.A hz (by omega) r1 r2 rx ry).1 _ _ _ _ ⟨.bl _,H,I,rfl,q⟩
theorem p6(hu:X.A.units+64<cLine):bY X (compareOp .NotEq) (qR X.K true):=by intro af s σ H x y v u Q I rx ry h;obtain⟨d,e,r1,r2,hz,q⟩:=h;exact(Cw I d e X.A hz (by omega) r1 r2 rx ry).2 _ _ _ _ ⟨.bl _,H,I,rfl,q⟩
end
section
variable{X:Cx}{K:aB}{M:Nat->Bool}{κ:Kd}{ta tb te:TE}{a b:Mi.E}
theorem Bc{H Hv:Hp}(vw:Vw H Hv){d:D}{v:V}(r:RD H Hv d v):fE K H v (.type (Mi.wf d)):=by
 cases d with
 |non=>cases RD.non r;exact .non
 |bl b=>cases RD.bl r;exact .bl b
 |int b=>cases RD.int r;exact .int b
 |str b=>cases RD.str r;exact .str b
 |lst ds=>
  obtain⟨p,xs,rfl,l,_⟩:=RD.lst vw r;rcases l with l|⟨o,l⟩
  ·exact .lst l
  ·exact .frz l
 |tup ds=>
  obtain⟨p,xs,rfl,l,_⟩:=RD.tup vw r;exact .tup l
def iA(K:aB)(T:String):Prop:=∀d:D,wQ K (.type (Mi.wf d)) (.type T)=ab (Mi.m7 T d)
theorem kC{T:String}(hT:iA K T)(ha:AE M qP ta a):AE M qV (pV (B8 K) (fh ta (fh (tC (.ty T)) fT))) (Mi.m1 (Mi.cK [T]) a):=λe σ H Hv Q I h=>
 ha e σ H Hv _ I ((ao.mp h).mono λx hx v H1 Hv1 g1 rx=>⟨v,_,T,_,rfl,Bc g1.vw rx,hT x,(Mi.jI hx) _ H1 Hv1 g1 (by
  have:([T].any λt=>Mi.m7 t x)=Mi.m7 T x:=by simp
  rw[this];exact ff)⟩)
theorem ty_bool(K:aB):iA K "bool" := λd=>by cases d<;>rfl
theorem ty_int(K:aB):iA K "int" := λd=>by cases d<;>rfl
theorem ty_str(K:aB):iA K "str" := λd=>by cases d<;>rfl
theorem ty_list(K:aB):iA K "list" := λd=>by cases d<;>rfl
theorem ty_tuple(K:aB):iA K "tuple" := λd=>by cases d<;>rfl
end
end A
namespace A
open PySem L2 PyProof.Rows
open Mi (D W Rs Fin ao Out Tg)
variable[Tb:a7]
def Mo(l:List Nat):Nat->Bool:=λi=>l.contains i
theorem Ba{M:Nat->Bool}{N:List Str}{k:Nat}{ws:List W}{vs:List V}{H Hv:Hp}(vw:Vw H Hv)(p:P2 (gp Hv) ws vs)(hk:ws.length=k)(hM:∀i,i<k->M i=false) :
 R1 M H Hv (ws.map ab++dm (N.length-ws.length) ae) (start N vs) H Hv:=by
 have get:∀{i:Nat} {w:W},(ws.map ab++dm (N.length-ws.length) ae)[i]? = ab (ab w)->ws[i]? = ab w/\i<k:=λ{i w} h=>by
  by_cases hi:i<ws.length
  ·rw[l7 (by simpa using hi),de]at h;cases e:ws[i]? with
   |none=>rw[e]at h;cases h
   |some a=>rw[e]at h;cases h;exact⟨rfl,by omega⟩
  ·rw[j4 (by simpa using hi),DK]at h;split at h<;>cases h
 have no:∀{i:Nat} {w:W},(ws.map ab++dm (N.length-ws.length) ae)[i]? = ab (ab w)->M i=true->False:=λ{i w} h m=>by
  rw[hM i (get h).2]at m;cases m
 refine⟨⟨vw,?_,λi w h m=>?_,λi w h m=>(no h m).elim⟩,.refl vw,λi w a h m=>(no h m).elim,λi j w w' a b _ h _ m=>(no h m).elim⟩
 ·unfold L2.start;rw[bA,bA,aS,aS,wX,wX,p.len]
 ·obtain⟨hw,hi⟩:=get h;obtain⟨v,hv,r⟩:=p.getL hw;refine⟨v,?_,r⟩;unfold L2.start;rw[l7 (by rw[aS,<- p.len];omega),de,hv];rfl
theorem yA{f:Mi.S}{k n:Nat}{vs:List V}{H:Hp}{Q:VK}{E:XK}(h:bZ (Mi.eD k n f) vs H Q E):vs.length=k:=by obtain⟨Hv,ws,_,p,q⟩:=h;rw[<- p.len];exact(Mi.cc q).1
theorem yO{f:Mi.S}{k n:Nat}{vs:List V}{H:Hp}{Q:VK}{E:XK}(h:cV (Mi.fR k n f) vs H Q E):vs.length=k:=by obtain⟨Hv,ws,_,p,q⟩:=h;rw[<- p.len];exact(Mi.cc q).1
theorem BB{N:List Str}{M:Nat->Bool}{k:Nat}{t:TS}{m:Mi.S}(hA:AS M qV t m)(hM:∀i,i<k->M i=false){vs:List V}{H:Hp}{Q:VK}{E:XK}(h:bZ (Mi.eD k N.length m) vs H Q E) :
 t { nx:=λ_ H'=>Q .non H',rt:=Q } (start N vs) H:=by
 obtain⟨Hv,ws,vw,p,q⟩:=h;obtain⟨hk,q⟩:=Mi.cc q;refine hA H Hv _ _ H Hv _ (Ba vw p hk hM) ((ao.mp q).mono λo ho=>?_);cases o with
 |nx e=>exactλσ H' Hv' I s=>ho _ H' Hv' I.gw Jo
 |rt w=>exactλv H' Hv' g r=>ho v H' Hv' g r
 |bk e=>exact ho.elim
 |ct e=>exact ho.elim
theorem runN{N:List Str}{M:Nat->Bool}{k:Nat}{t:TS}{m:Mi.S}(hA:AS M qN t m)(hM:∀i,i<k->M i=false){vs:List V}{H:Hp}{Q:VK}{E:XK}(h:cV (Mi.fR k N.length m) vs H Q E) :
 t { nx:=λ_ H'=>Q .non H',rt:=Q } (start N vs) H:=by
 obtain⟨Hv,ws,vw,p,q⟩:=h;obtain⟨hk,q⟩:=Mi.cc q;refine hA H Hv _ _ H Hv _ (Ba vw p hk hM) ((ao.mp q).mono λo ho=>?_);cases o with
 |rt w=>exactλv H' Hv' g r=>ho v H' Hv' g r
 |nx e=>exact ho.elim
 |bk e=>exact ho.elim
 |ct e=>exact ho.elim
theorem yB{P:bb}{w:aT}{K:aB}{mg:Str->Option ag}{base:aI}{CX:eK}{k:Nat}{f:ah}{fd:bQ}{ps:List Str}:bt P w K mg base CX k f fd ps (bZ Mi.vB):=⟨λvs H Q E h=>by obtain⟨_,_,_,_,q⟩:=h;exact q.elim,λA outer s H args us vs Q E _ _ _ _ h=>by obtain⟨_,_,_,_,q⟩:=h;exact q.elim⟩
def sM:Sp:=λvs H Q _=>∃(a:ah) (ns:List Int),vs=[.ref a]/\Lst H a (ns.map V.int)/\ns.length<=63/\jk H/\∀H',Q (.bl true) H'
theorem ints_rep(H:Hp):∀ns:List Int,P2 (Rep H) (ns.map D.int) (ns.map V.int)
 |[]=>.nil
 |n::r=>.cons (mH.mpr rfl) (ints_rep H r)
theorem Ie{P:bb}{w:aT}{K:aB}{mg:Str->Option ag}{base:aI}{CX:eK}{k:Nat}{f:ah}{fd:bQ}{ps:List Str}{m:Mi.Fn}(F:bt P w K mg base CX k f fd ps (bZ m))
 (h:∀ns:List Int,ns.length<=63->m [.d (.lst (ns.map D.int))]=.ok (.d (.bl true))):bt P w K mg base CX k f fd ps sM:=
 F.imp λvs H Q E ⟨a,ns,e,l,hl,k,q⟩=>by
  subst e;have l':Lst (l0 H) a (ns.map V.int):=by
   rcases l with l|⟨o,l⟩
   ·exact .inl (rT l trivial)
   ·exact .inr ⟨o,rT l trivial⟩
  refine⟨l0 H,[.d (.lst (ns.map D.int))],.all k,.cons (iM.mpr ⟨a,_,rfl,l',ints_rep _ ns⟩) .nil,?_⟩;rw[h ns hl];intro v H' Hv' g r;cases(rK (H:=Hv')).mp r;exact q H'
def pF(K:aB)(a:ah):It:=⟨λi H=>∃xs x,cy K H a xs/\xs[i]? = ab x,λi H v H'=>∃p x,(∀xs,cy K H a xs->xs[i]? = ab x)/\H p=ae/\v=.ref p/\H'=upd H p (.tup [.int i,x]),λi H=>∃xs,cy K H a xs/\xs.length=i⟩
theorem B9{X:Cx}{af:List (ah×Obj)}{σ:L2.St}{H:Hp}{s:ak}{fp:List ah}{T:ah}{o:HO}{h':aI}{t':Nat}(I:Inv X af σ H s)(hf:∀b∈fp,gQ X af H b)
 (k:∀b u,b∉fp->s.heap.get? b=ab u->h'.get? b=ab u) (hT:s.heap.objs.size<=T) (new:bN X.prog X.w (upd H T o) h' T o):Inv X af σ (upd H T o) { s with heap:=h',toks:=t' }:=by
 have hn:H T=ae:=I.hok.fresh hT;have nfp:∀b u,H b=ab u->b∉fp:=λb u e z=>by rw[(hf b z).1]at e;cases e
 refine I.call' (s':={ s with heap:=h',toks:=t' }) (ch:=fp) rfl ⟨λb u e _ _ hb=>k b u hb e,λb u e _ _ hb=>⟨u.slots,k b u hb e⟩,λb u e hb _=>?_,λb u e hb=>⟨u,k b u hb e⟩,λb xs e=>?_,λb q u e=>?_,λb w ps e=>⟨#[],?_⟩⟩ ?_ I.bare
  λb hb=>⟨(hf b hb).2.2.2.1,(hf b hb).2.1,(hf b hb).2.2.2.2.1,(hf b hb).2.2.2.2.2⟩
 ·have:b≠T:=f9 (fI (bG e) hT);rw[aQ this];exact hb
 ·rw[aQ (cI e hn)];exact e
 ·rw[aQ (cI e hn)];exact e
 ·rw[aQ (cI e hn),e];simp
 ·intro b u e;by_cases hb:b=T
  ·subst hb;rw[b9]at e;cases e;exact new
  ·rw[aQ hb]at e;refine(I.hok b u e).stay (λc v hc q=>k c v ?_ q) (λc q=>by rw[aQ (cI q hn)];exact q) λc xs q=>by rw[aQ (cI q hn)];exact q
   rcases hc with z|z
   ·rw[z];exact nfp b u e
   ·exact nfp c _ z
theorem zL{X:Cx}{af:List (ah×Obj)}{σ:L2.St}{H:Hp}{s:ak}{fp:List ah}{h':aI}{t':Nat}(I:Inv X af σ H s)(hf:∀b∈fp,gQ X af H b)
 (k:∀b u,b∉fp->s.heap.get? b=ab u->h'.get? b=ab u):Inv X af σ H { s with heap:=h',toks:=t' }:=by
 have nfp:∀b u,H b=ab u->b∉fp:=λb u e z=>by rw[(hf b z).1]at e;cases e
 refine I.call' (s':={ s with heap:=h',toks:=t' }) (ch:=fp) rfl ⟨λb u e _ _ hb=>k b u hb e,λb u e _ _ hb=>⟨u.slots,k b u hb e⟩,λb u e hb _=>hb,λb u e hb=>⟨u,k b u hb e⟩,λb xs e=>e,λb q u e=>e,λb w ps e=>⟨#[],by rw[e];simp⟩⟩ ?_ I.bare
  λb hb=>⟨(hf b hb).2.2.2.1,(hf b hb).2.1,(hf b hb).2.2.2.2.1,(hf b hb).2.2.2.2.2⟩
 intro b u e;refine(I.hok b u e).stay (λc v hc q=>k c v ?_ q) (λc q=>q) λc xs q=>q;rcases hc with z|z
 ·rw[z];exact nfp b u e
 ·exact nfp c _ z
theorem Fi{P:bb}{w:aT}{K:aB}{elts:List aO}{k1:Nat}{pos:Pos}(a e it:ah)(hne:e≠it):Turn P w K (.Tuple elts k1 pos) (pF K a) [e,it] e (λi h=>(∃old,IsEnum h e it i old)/\h.IsListIter it a i) where
 mem:=by simp
 obj:=λi h st b hb=>by
  obtain⟨⟨old,he⟩,o,ho,c,d⟩:=st;rcases bJ.mp hb with rfl|hb
  ·exact⟨_,he,λv z=>by cases z⟩
  ·have e1:b=it:=by simpa using hb
   subst e1;exact⟨o,ho,λv z=>by rw[d]at z;cases z⟩
 keep:=λi h h' st kk=>⟨let ⟨old,he⟩:=st.1;⟨old,kk e (by simp) _ he⟩,st.2.at λo q=>kk it (by simp) o q⟩
 item:=by
  intro X hP hw hK hc i af s σ H E I hf st hg;subst hP hw hK;obtain⟨xs,x,hq,hx⟩:=hg;obtain⟨ai,rv,p,hz⟩:=I.list hq;obtain⟨u,hu,ru⟩:=rv.get hx;obtain⟨⟨old,he⟩,hli⟩:=st;have hlt:i<ai.toArray.size:=by rw[bF];exact(cM.mp hu).1
  have hai:a≠it:=by rintro rfl;obtain⟨o,ho,c,_⟩:=hli;obtain⟨o',n,ho',c',_⟩:=p;rw[ho]at ho';cases ho';rw[c]at c';exact absurd (t6 c') (by decide)
  have hea:e≠a:=by rintro rfl;obtain⟨o',n,ho',c',_⟩:=p;rw[he]at ho';cases ho';exact absurd (t6 c') (by decide)
  refine wpAny_pyNext_enum_itemD (Draws.list (by first|exact I.ok.hd hc|(simp;exact I.ok.hd hc)) it a hai ai.toArray) he ⟨hli,p.isList⟩ hlt hne (by simp[hne,hea]) λy h' tk hy ho hs' hT hsz hk=>?_;have hy:y=u:=by
   have hu':ai.toArray[i]? = ab u:=by simpa using hu
   rw[hu']at hy;exact(eZ hy).symm
  subst hy;refine⟨_,rfl,wpAny_letOwnedTupleGo_enum ho λh2 he2 hs2=>?_⟩;have kk:∀b o,b∉[e,it]->s.heap.get? b=ab o->h2.get? b=ab o:=λb o hb q=>by
   simp at hb;exact(hs2.2 b hb.1).trans (hk b o hb.1 hb.2 q)
  have hTn:s.heap.objs.size≠e:=λz=>absurd (bG he) (by rw[z];exact jx _);refine⟨.ref s.heap.objs.size,upd H s.heap.objs.size (.tup [.int i,x]),B9 (s:=s) (t':=tk+1) I hf kk (bg _) ?_,rfl,⟨_,x,λys hy=>by rw[I.se hy hq];exact hx,I.hok.fresh (bg _),rfl,rfl⟩,⟨⟨_,he2⟩,?_⟩,λb hb=>?_⟩
  ·exact⟨by simp only[bW,ml];rw[cZ];decide,[.int i tk,y],.cons ⟨_,rfl⟩ (.cons ru .nil),⟨_,(hs2.2 _ hTn).trans hT,rfl,rfl,_,rfl⟩⟩
  ·exact hs'.1.at λo q=>(hs2.2 it (dI hne)).trans q
  ·have:b≠s.heap.objs.size:=λz=>by
    subst z;rcases bJ.mp hb with z|z
    ·exact hTn z
    ·have z:s.heap.objs.size=it:=by simpa using z
     obtain⟨o,ho,_⟩:=hli;exact absurd (bG ho) (by rw[<- z];exact jx _)
   rw[aQ this];exact(hf b hb).1
 done:=by
  intro X hP hw hK hc i af s σ H E I hf st hg;subst hP hw hK;obtain⟨xs,hq,hx⟩:=hg;obtain⟨ai,rv,p,hz⟩:=I.list hq;obtain⟨⟨old,he⟩,hli⟩:=st;have hl:=rv.length;have hai:a≠it:=by rintro rfl;obtain⟨o,ho,c,_⟩:=hli;obtain⟨o',n,ho',c',_⟩:=p;rw[ho]at ho';cases ho';rw[c]at c';exact absurd (t6 c') (by decide)
  subst hx;have D:=Draws.list (prog:=X.prog) (w:=X.w) (A:=X.A.in1) (by first|exact I.ok.hd hc|(simp;exact I.ok.hd hc)) it a hai ai.toArray;have hn:ai.toArray.size=xs.length:=by simp;omega
  rw[hn]at D;exact wpAny_pyNext_enum_endD D he ⟨hli,p.isList⟩ λh' hx=>⟨rfl,zL (s:=s) (t':=s.toks) I hf λb o hb q=>hx b o (λz=>hb (by simp[z])) q⟩
 self:=λ_ i s Q E st h=>let ⟨⟨old,he⟩,_⟩:=st;wpAny_pyIter_enum he h
section
variable{X:Cx}{elts:List aO}{k1:Nat}{tpos:Pos}
def AX(K:aB)(tl:TE):TI:=λσ H R=>tl σ H λx H1=>∃a,[x]=[V.ref a]/\(∃xs,cy K H1 a xs)/\R (pF K a) H1
theorem F3{a:aO}{ta:TE}{p pos:Pos}(hg:Gl X "enumerate")(hm:X.mg "enumerate" = ae)(ha:PE X a ta)(hs:starEach [a] X.env=[(false,eval a X.env)]:=by rfl)(hs0:starEach [a] X.env=(false,eval a X.env)::starEach [] X.env:=by rfl) :
 PI X (.Tuple elts k1 tpos) (.Call (.Name "enumerate" p) [a] [] pos) (AX X.K ta):=by
 intro af s σ H R I h;refine Call_ (mJ I hg hm boot_enumerate (tV (aK (ax ha bc hs0 pos af s σ H (λvs H1=>∃l,vs=[.ref l]/\(∃xs,cy X.K H1 l xs)/\R (pF X.K l) H1) I ?_) λus s1 ⟨vs,H1,I1,r1,q1⟩=>?_) hs rfl))
 ·exact h
 ·obtain⟨l,e,⟨xs,hq⟩,q⟩:=q1;subst e;obtain⟨u,rfl,ru⟩:=vals1 r1;cases ru;obtain⟨ai,rv,pl,hz⟩:=I1.list hq;refine call_enumerate_list pl.isList λh' hE hI hsz hk=>?_;refine wpAny_pyIter_enum hE ?_;have I2:Inv X af σ H1 { s1 with heap:=h' }:=I1.kept (t':=s1.toks) λb o e=>hk b o e;refine⟨_,[s1.heap.objs.size+1,s1.heap.objs.size],_,_,H1,rfl,I2,Fi l (s1.heap.objs.size+1) s1.heap.objs.size (tM (Nat.lt_succ_self _)),⟨⟨_,hE⟩,hI⟩,λb hb=>?_,q⟩;have hb:s1.heap.objs.size<=b:=by
   rcases bJ.mp hb with z|z
   ·rw[z];exact qz _
   ·have z:b=s1.heap.objs.size:=by simpa using z
    rw[z];exact bg _
  exact I1.iJ hb (I1.hok.fresh hb)
theorem Dg:∀{ds:List D} {k i:Nat} {d:D},ds[i]? = ab d->(Mi.gC k ds)[i]? = ab (.tup [.int ((k+i:Nat):Int),d])
 |[],_,_,_,h=>by simp at h
 |d::r,k,0,e,h=>by simp at h;subst h;rfl
 |d::r,k,i+1,e,h=>by
  have:=Dg (ds:=r) (k:=k+1) (i:=i) (d:=e) (by simpa using h);rw[Mi.gC,jr,this];rw[show k+1+i=k+(i+1)by omega]
theorem rS:∀(ds:List D) (k:Nat),(Mi.gC k ds).length=ds.length
 |[],_=>rfl
 |d::r,k=>by rw[Mi.gC,bW,bW,rS r]
theorem G4{x:D}{k:List D->Prop}(h:Fin (Mi.CU x) k):∃ds,x=.lst ds/\k ds:=by
 cases x with
 |lst b=>exact⟨b,rfl,h⟩
 |_=>exact h.elim
theorem GW{K:aB}{a:ah}{ds:List D}{P:Hp->Hp->Prop}(ok:∀H Hv,P H Hv->Vw H Hv->∃xs,cy K H a xs/\P2 (Rep Hv) ds xs):nS (pF K a) P (Mi.gC 0 ds):=by
 refine⟨λi H Hv p v hi=>?_,λi H Hv x H' p v hi y=>?_,λH Hv p v=>?_⟩
 ·obtain⟨xs,l,r⟩:=ok H Hv p v;rw[rS]at hi;obtain⟨x,hx,_⟩:=r.getL (i:=i) (a:=ds[i]) (by simp[hi]);exact⟨xs,x,l,hx⟩
 ·obtain⟨xs,l,r⟩:=ok H Hv p v;rw[rS]at hi;obtain⟨q,z,hz,hq,rfl,rfl⟩:=y;obtain⟨x,hx,rx⟩:=r.getL (i:=i) (a:=ds[i]) (by simp[hi]);rw[hz xs l]at hx;cases hx;obtain⟨g,k⟩:=vZ v (ds:=[.int i,ds[i]]) (xs:=[.int i,z]) (.cons (mH.mpr rfl) (.cons rx .nil)) hq;refine⟨_,.tup [.int i,ds[i]],g,?_,k⟩;rw[Dg (i:=i) (d:=ds[i]) (by simp[hi])];simp
 ·obtain⟨xs,l,r⟩:=ok H Hv p v;exact⟨xs,l,by rw[rS,r.len]⟩
theorem HD{M:Nat->Bool}{K:aB}{ta:TE}{a:Mi.E}(ha:AE M qV ta a):gK M (AX K ta) (Mi.u5 a):=λe σ H Hv R I h=>
 ha e σ H Hv _ I ((ao.mp h).mono λx hx v H1 Hv1 g1 rx=>by
  obtain⟨ds,rfl,hk⟩:=G4 (ao.mp hx);obtain⟨p,xs,rfl,l,r⟩:=(iM (H:=Hv1)).mp rx;exact⟨p,rfl,⟨xs,(l.same g1.vw.sub).sq⟩,hk (pF K p) H1 Hv1 (λH Hv=>Lst Hv p xs/\P2 (Rep Hv) ds xs) g1 (GW λH Hv z v=>⟨xs,(z.1.same v.sub).sq,z.2⟩) ⟨l,r⟩ λH1 Hv1 H2 Hv2 z s v=>⟨z.1.same s,dG s z.2⟩⟩)
end
end A
namespace A
open PySem L2 PyProof.Rows
open Mi (D W Rs Fin ao Out Tg)
variable[Tb:a7]
section
variable{X:Cx}{K:aB}{M:Nat->Bool}{κ:Kd}{ta tb te tk:TE}{a b k:Mi.E}
theorem rj{Hv:Hp}:∀{ds:List D} {xs:List V} {bs:List Str},Mi.iC ds=ab bs->P2 (Rep Hv) ds xs->xs=bs.map V.str
 |[],_,bs,e,r=>by cases e;cases r;rfl
 |.str b::ds,_,bs,e,r=>by
  cases r with
  |cons x t=>
   cases hb:Mi.iC ds with
   |none=>rw[Mi.iC,hb]at e;cases e
   |some cs=>
    rw[Mi.iC,hb]at e;cases e;rw[rj hb t,lc.mp x];rfl
 |.non::_,_,_,e,_=>by cases e
 |.int _::_,_,_,e,_=>by cases e
 |.bl _::_,_,_,e,_=>by cases e
 |.lst _::_,_,_,e,_=>by cases e
 |.tup _::_,_,_,e,_=>by cases e
theorem Di(ha:AE M qP ta a)(hb:AE M qP tb b):AE M qV (lm K "str" (rJoin K) ta (fh tb fT)) (Mi.m2 Mi.qX a b):=λe σ H Hv Q I h=>by
 obtain⟨x,hx,h⟩:=gn (ao.mp h);obtain⟨y,hy,h⟩:=gn (ao.mp h);cases x with
 | str sep=>cases y with
  |lst ds=>
   obtain⟨ys,hs,h⟩:=gH (ao.mp h);obtain⟨hz,h⟩:=Mi.cc h;refine ha e σ H Hv _ I (by
    rw[hx];intro v H1 Hv1 g1 r1;cases RD.str r1;refine⟨rfl,hb e σ H1 Hv1 _ (I.grow g1) (by
     rw[hy];intro v2 H2 Hv2 g2 r2;obtain⟨p,xs,rfl,l,r⟩:=RD.lst g2.vw r2;have:=rj hs r;subst this;exact⟨sep,p,ys,rfl,rfl,l.sq,hz,(Mi.jI h) _ H2 Hv2 (g1.trans g2) oA⟩)⟩)
  |_=>exact h.elim
 |_=>cases y<;>exact h.elim
def A8:V->List V->Hp->VK->Prop:=λx vs H Q=>∃l b xs zs,x=.ref l/\vs=[.ref b]/\H l=ab (.lst xs)/\Lst H b zs/\xs.length+zs.length<=sizeLine/\Q .non (upd H l (.lst (xs++zs)))
theorem Ka:oF X "list.extend" A8:=by
 intro af s σ H x vs v us Q I rx rv h;obtain⟨l,b,xs,zs,rfl,rfl,hH,hB,hz,q⟩:=h;cases rx;obtain⟨u,rfl,ru⟩:=rv.one;cases ru;obtain⟨z,ai,n,r,hl,e⟩:=I.pZ hH;obtain⟨its2,n2,r2,z2,e2⟩:=lL I hB;have hl2:=r2.length;have hsz:ai.toArray.size+its2.toArray.size<=sizeLine:=by rw[bF,bF];omega
 have ub:¬ (!ai.toArray.isEmpty&&xH (ai.toArray.size+its2.toArray.size))=true:=by rw[Kt hsz,tP];exact cN
 refine nZ F.slot_list_extend ⟨_,e,rfl⟩ F.entry_list_extend (F.args_list_extend_2 _ _)
  (AutoSeq1.list_extend_list_list_0 l ai.toArray n b its2.toArray n2 ub (by rw[bF];omega) (by omega)) ⟨e,e2,?_⟩
 refine⟨.non,_,I.qh (its':=ai++its2) hH e (by simp) (r.append r2) ?_,rfl,q⟩;rw[bA];omega
theorem G8(i:Nat)(hm:M i=true)(ha:AE M qV te a):AS M κ (iE (lm K "list" A8 (cO i) (fh te fT))) (Mi.rm i a):=λH0 Hv0 e σ H Hv D I h=>by
 obtain⟨d,hd,h⟩:=gn (ao.mp h);obtain⟨ds,he,h⟩:=lW (ao.mp h);cases d with
 |lst es=>
  obtain⟨hz,h⟩:=Mi.cc h;obtain⟨p,xs,q,q1,n,c⟩:=I.list hm he;refine⟨.ref p,q,.inl ⟨rfl,xs,.inl (.inl q1)⟩,ha e σ H Hv _ I.toR0 (by
   rw[hd];intro v H1 Hv1 g1 r;have I1:=I.grow g1;obtain⟨b,ys,rfl,l,r⟩:=(iM (H:=Hv1)).mp r;refine⟨p,b,xs,ys,rfl,rfl,g1.old.at q1,l.same g1.vw.sub,by rw[<- c.len,<- r.len,cZ];exact hz,?_⟩;exact h σ _ Hv1 (I1.write hm he q (show c5 Hv1 (.d (.lst (ds++es))) (.lst (xs++ys))from(dG g1.vis c).append r)) g1.vis)⟩
 |_=>exact h.elim
theorem uK{H:Hp}{d:D}{v:V}{y:Mi.Ky}(h:Mi.lp d=ab y)(r:Rep H d v):v=kV y:=by
 cases d with
 |bl i=>cases h;exact rK.mp r
 |str i=>cases h;exact lc.mp r
 |_=>cases h
theorem rf{H:Hp}:∀{ds:List D} {vs:List V} {ys:List Mi.Ky},Mi.ll ds=ab ys->P2 (Rep H) ds vs->vs=ys.map kV
 |[],_,_,h,r=>by cases h;cases r;rfl
 |d::ds,_,ys,h,r=>by
  cases r with
  |cons x t=>
   unfold Mi.ll at h;cases h1:Mi.lp d with
   |none=>rw[h1]at h;cases h
   |some y=>
    cases h2:Mi.ll ds with
    |none=>rw[h1,h2]at h;cases h
    |some zs=>
     rw[h1,h2]at h;cases h;rw[uK h1 x,rf h2 t];rfl
theorem Bs{H Hv:Hp}(vw:Vw H Hv){w:W}{x:V}{d:D}{v:V}{q:Option D->Prop}(hw:RB H Hv w x)(r:Rep Hv d v)(h:Fin (Mi.vK w d) q):∃a o o',x=.ref a/\gY H a v o/\q o'/\match o' with
 |some d'=>∃v',o=ab v'/\Rep Hv d' v'
 |none=>o=ae:=by
 cases w with
 |d x=>exact h.elim
 |ex z=>exact h.elim
 |fn z=>exact h.elim
 |xr z x=>exact h.elim
 |dk am=>
  obtain⟨y,hy,h⟩:=gH (ao.mp h);have h:q (Mi.gF am y):=h;have:∃a kv,x=.ref a/\H a=ab (.dK kv)/\eO Hv am kv:=by
   rcases hw with ⟨a,kv,e,z,c⟩|⟨a,o,e,z,c⟩
   ·exact⟨a,kv,e,vw.sub _ _ z,c⟩
   ·cases o with
    |dK kv=>exact⟨a,kv,e,z,c⟩
    |_=>exact c.elim
  obtain⟨a,kv,e,z,c⟩:=this;have hv:=uK hy r;subst hv;exact⟨a,_,_,e,gY.k z,h,uk c⟩
 |dt am=>
  cases d with
  |tup ds=>
   obtain⟨y,hy,h⟩:=gH (ao.mp h);have h:q (Mi.gF am y):=h;have:∃a kv,x=.ref a/\H a=ab (.dT kv)/\eO Hv am kv:=by
    rcases hw with ⟨a,kv,e,z,c⟩|⟨a,o,e,z,c⟩
    ·exact⟨a,kv,e,vw.sub _ _ z,c⟩
    ·cases o with
     |dT kv=>exact⟨a,kv,e,z,c⟩
     |_=>exact c.elim
   obtain⟨a,kv,e,z,c⟩:=this;obtain⟨b,xs,rfl,l,r⟩:=i4.mp r;have hv:=rf hy r;subst hv;exact⟨a,_,_,e,gY.t z (vw.sub _ _ l),h,uk c⟩
  |_=>exact h.elim
 |df am=>
  cases d with
  |tup ds=>
   obtain⟨y,hy,h⟩:=gH (ao.mp h);have h:q (Mi.gF am y):=h;have:∃a ob kv,x=.ref a/\H a=ab (.frz ob (.dT kv))/\eO Hv am kv:=by
    rcases hw with ⟨a,ob,kv,e,z,c⟩|⟨a,o,e,z,c⟩
    ·exact⟨a,ob,kv,e,vw.sub _ _ z,c⟩
    ·exact c.elim
   obtain⟨a,ob,kv,e,z,c⟩:=this;obtain⟨b,xs,rfl,l,r⟩:=i4.mp r;have hv:=rf hy r;subst hv;exact⟨a,_,_,e,.inr ⟨kv,y,b,.inr ⟨ob,z⟩,rfl,vw.sub _ _ l,rfl⟩,h,uk c⟩
  |_=>exact h.elim
theorem IF(i:Nat)(hk:AE M qV tk k):AE M qV (zP tk (cO i)) (Mi.pe i k):=λe σ H Hv Q I h=>
 hk e σ H Hv _ I ((ao.mp h).mono λd hd v H1 Hv1 g1 r=>by
  obtain⟨w,he,hd⟩:=oK (ao.mp hd);have I1:=I.grow g1;obtain⟨x,q,z⟩:=I1.any he;obtain⟨a,o,o',e1,g,h2,m⟩:=Bs g1.vw z r (ao.mp hd);refine⟨x,q,a,o,e1,g,?_⟩;have:o.isSome=o'.isSome:=by
   cases o' with
   |none=>have m:o=ae:=m;rw[m];rfl
   |some d'=>obtain⟨v',m,_⟩:=m;rw[m];rfl
  rw[this];exact h2 _ H1 Hv1 g1 ff)
theorem Je(i:Nat)(hk:AE M qV tk k):AE M qV (AM (cO i) tk) (Mi.rO i k):=λe σ H Hv Q I h=>by
 obtain⟨d,hd,h⟩:=gn (ao.mp h);obtain⟨w,he,h⟩:=oK (ao.mp h);obtain⟨x,q,z⟩:=I.any he;refine⟨x,q,hk e σ H Hv _ I (by
  rw[hd];intro v H1 Hv1 g1 r;obtain⟨a,o,o',e1,g,h2,m⟩:=Bs g1.vw (z.grow g1) r (ao.mp h);cases o' with
  |none=>exact h2.elim
  |some d'=>
   obtain⟨v',rfl,rv⟩:=m;exact⟨a,v',e1,g,h2 v' H1 Hv1 g1 rv⟩)⟩
theorem y4{tv:TE}{v:Mi.E}(i:Nat)(hm:M i=true)(hk:AE M qV tk k)(hv:AE M qV tv v):AS M κ (L2.iR (cO i) tk tv) (Mi.iR i k v):=λH0 Hv0 e σ H Hv D I h=>by
 obtain⟨d,hd,h⟩:=gn (ao.mp h);obtain⟨y,hy,h⟩:=gn (ao.mp h);obtain⟨w,he,h⟩:=oK (ao.mp h);refine hv e σ H Hv _ I.toR0 (by
  rw[hd];intro x H1 Hv1 g1 rx;have I1:=I.grow g1;obtain⟨p,o,q,q1,n,h0,c⟩:=I1.cell hm he;refine⟨.ref p,q,hk e σ H1 Hv1 _ I1.toR0 (by
   rw[hy];intro u H2 Hv2 g2 ru;have I2:=I1.grow g2;have c2:=c.same g2.vis;have q2:=g2.old.at q1 c.nt;have g12:=g1.trans g2;have rx2:=iO g2.vis rx;cases w with
   |d x=>exact(show False from ao.mp h).elim
   |ex z=>exact(show False from ao.mp h).elim
   |fn z=>exact(show False from ao.mp h).elim
   |xr z x=>exact(show False from ao.mp h).elim
   |df z=>exact(show False from ao.mp h).elim
   |dk am=>
    obtain⟨hz,h⟩:=Mi.cc (ao.mp h);obtain⟨ky,hky,h⟩:=gH (ao.mp h);cases o with
    |dK kv=>
     have c2:eO Hv2 am kv:=c2;have hu:=uK hky ru;subst hu;refine⟨p,_,rfl,kA.k q2 (by rw[<- P2.len c2,cZ];exact hz),?_⟩;exact h σ _ Hv2 (I2.write hm he q (show c5 Hv2 (.dk (Mi.putK ky d am)) (.dK (L2.putK kv ky x))from BM rx2 c2)) g12.vis
    |_=>exact c2.elim
   |dt am=>
    cases y with
    |tup ds=>
     obtain⟨hz,h⟩:=Mi.cc (ao.mp h);obtain⟨ky,hky,h⟩:=gH (ao.mp h);cases o with
     |dT kv=>
      have c2:eO Hv2 am kv:=c2;obtain⟨b,xs,rfl,l,r⟩:=(i4 (H:=Hv2)).mp ru;have hu:=rf hky r;subst hu;refine⟨p,_,rfl,kA.t q2 (g2.vw.sub _ _ l) (by rw[<- P2.len c2,cZ];exact hz),?_⟩;exact h σ _ Hv2 (I2.write hm he q (show c5 Hv2 (.dt (Mi.putK ky d am)) (.dT (L2.putK kv ky x))from BM rx2 c2)) g12.vis
     |_=>exact c2.elim
    |_=>exact(show False from ao.mp h).elim)⟩)
end
end A
namespace Zp
open PySem PySem.Spec PyProof.Rows L2
variable[Tb:A.a7]
section
variable{P:bb}{w:aT}{B:br}{F:ag->ak->Prop}{z:ak}
theorem Hd{c t:ah}{i:Nat}{us:Array ag}{u:ag}{R:ag->ak->Prop}(hc:z.heap.IsTupleIter c t i)(ht:z.heap.IsTuple t us)(hu:us[i]? = ab u)
 (hR:∀h',h'.IsTupleIter c t (i+1)->mo c z.heap h'->R u { z with heap:=h' }):wpAny (model P w) B (my (.ref c)) R F z:=by
 obtain⟨ob,gb,cb,db⟩:=id hc;obtain⟨ol,gl,_,nl,dl⟩:=ht;unfold my;refine aA (tE (name:=tU "__next__") hc.typeIs tQ (mn tQ hc.typeIs D9 ?_ (D8 _)));show wpAny _ _ (field (.ref c) 0 >>= _) _ _ z;refine aA (k8 gb db (x:=.ref t) rfl ?_);show wpAny _ _ (if(cr t==dR)=true then _ else _) _ _ z;rw[ay (λq:(cr t==dR)=true=>nomatch q)];show wpAny _ _ (field (.ref c) 1 >>= _) _ _ z;refine aA (k8 gb db (x:=.int i 0) rfl ?_);show wpAny _ _ (seqItems? (.ref t) >>= _) _ _ z;refine aA (qv gl dl ?_);simp only[jz,hu];refine aA (wpAny_setField gb db (by simp) (bo ⟨u,rfl,bo (hR _ ?_ (t5 ..))⟩));refine⟨_,xq _ gb (Obj.isFreed_of_fields (Ek db _)),(Obj.cls_mapFields ..).trans cb,?_⟩;rw[Ek db];simp[rawInt]
theorem J1{c t:ah}{i:Nat}{us:Array ag}{R:ag->ak->Prop}(hn:B.handled=ae)(hc:z.heap.IsTupleIter c t i)(ht:z.heap.IsTuple t us)(hu:us[i]? = ae)
 (hF:∀h' e,xt c z.heap h'->(∃o,h'.get? e=ab o/\o.cls=.type "StopIteration")->F (.ref e) { z with heap:=h' }):wpAny (model P w) B (my (.ref c)) R F z:=by
 obtain⟨ob,gb,cb,db⟩:=id hc;obtain⟨ol,gl,_,nl,dl⟩:=ht;unfold my;refine aA (tE (name:=tU "__next__") hc.typeIs tQ (mn tQ hc.typeIs D9 ?_ (D8 _)));show wpAny _ _ (field (.ref c) 0 >>= _) _ _ z;refine aA (k8 gb db (x:=.ref t) rfl ?_);show wpAny _ _ (if(cr t==dR)=true then _ else _) _ _ z;rw[ay (λq:(cr t==dR)=true=>nomatch q)];show wpAny _ _ (field (.ref c) 1 >>= _) _ _ z;refine aA (k8 gb db (x:=.int i 0) rfl ?_);show wpAny _ _ (seqItems? (.ref t) >>= _) _ _ z;refine aA (qv gl dl ?_);simp only[jz,hu];refine aA (wpAny_rule (aA (wpAny_setField gb db (by simp) ?_)));show wpAny _ _ (newExc (.type "StopIteration") [] >>= _) _ _ _;refine aA ?_;simp only[newExc,newTuple];refine aA (wpAny_newObj_type ?_ (by size_fits));refine aA (m:=firstArgMember _ _) (wpAny_of_eq (a:=dR) (by simp only[firstArgMember];rfl) (wpAny_newObj_type ?_ (by size_fits)));simp only[raiseNew];refine aA (wpAny_handled ?_)
 first|rw[show B.in1.handled=ae from hn]|rw[hn]
 exact aA (bo (wpAny_throw (hF _ _ (((t5 ..).extBut.push _).push _) ⟨_,d9 _ rfl,rfl⟩)))
end
def nm:Bool->String|true => "list" | false => "tuple"
def AI:Bool->String|true => "list_iterator" | false => "tuple_iterator"
def fV(k:Bool)(h:aI)(l:ah)(us:Array ag):Prop:=∃o,h.get? l=ab o/\o.cls=.type (nm k)/\∃n,o.data=.seq us n
def jf(k:Bool)(h:aI)(c l:ah)(i:Nat):Prop:=∃o,h.get? c=ab o/\o.cls=.type (AI k)/\o.data=.fields #[.ref l,.int i 0]
theorem fV.at{k:Bool}{h h':aI}{l:ah}{us:Array ag}(x:fV k h l us)(f:∀o,h.get? l=ab o->h'.get? l=ab o):fV k h' l us:=let ⟨o,e,r⟩:=x;⟨o,f o e,r⟩
theorem jf.at{k:Bool}{h h':aI}{c l:ah}{i:Nat}(x:jf k h c l i)(f:∀o,h.get? c=ab o->h'.get? c=ab o):jf k h' c l i:=let ⟨o,e,r⟩:=x;⟨o,f o e,r⟩
theorem jf.cell{k:Bool}{h:aI}{c l:ah}{i:Nat}(x:jf k h c l i):∃o,h.get? c=ab o/\∀v,o.data≠.cell v:=let ⟨o,e,_,d⟩:=x;⟨o,e,λv q=>by rw[d]at q;cases q⟩
section
variable{P:bb}{w:aT}{B:br}{F:ag->ak->Prop}{z:ak}
theorem nx{k:Bool}{c t:ah}{i:Nat}{us:Array ag}{u:ag}{R:ag->ak->Prop}(hc:jf k z.heap c t i)(ht:fV k z.heap t us)(hu:us[i]? = ab u)
 (hR:∀h',jf k h' c t (i+1)->mo c z.heap h'->R u { z with heap:=h' }):wpAny (model P w) B (my (.ref c)) R F z:=by
 cases k
 ·exact Hd hc ht hu hR
 ·exact wpAny_nextOf_list_item hc ht hu hR
theorem Js{k:Bool}{c t:ah}{i:Nat}{us:Array ag}{R:ag->ak->Prop}(hn:B.handled=ae)(hc:jf k z.heap c t i)(ht:fV k z.heap t us)(hu:us[i]? = ae)
 (hF:∀h' e,xt c z.heap h'->(∃o,h'.get? e=ab o/\o.cls=.type "StopIteration")->F (.ref e) { z with heap:=h' }):wpAny (model P w) B (my (.ref c)) R F z:=by
 cases k
 ·exact J1 hn hc ht hu hF
 ·exact wpAny_nextOf_list_end hn hc ht hu hF
abbrev mL(k:Bool)(l:ah):Obj:={ cls:=.type (AI k),data:=.fields #[.ref l,.int 0 0] }
theorem Du{k:Bool}{l:ah}{us:Array ag}{R:ag->ak->Prop}(h:fV k z.heap l us)(hR:R (.ref z.heap.objs.size) { z with heap:=z.heap.push (mL k l) }):wpAny (model P w) B (pyIter (.ref l)) R F z:=by
 cases k
 ·exact wpAny_pyIter_tuple h hR
 ·exact xj h hR
end
end Zp
namespace Zp
open PySem PySem.Spec PyProof.Rows L2
variable[Tb:A.a7]
structure Sr where
 k:Bool
 c:ah
 l:ah
 us:Array ag
def On(h:aI)(i:Nat)(q:Sr):Prop:=jf q.k h q.c q.l i/\fV q.k h q.l q.us
theorem On.at{h h':aI}{i:Nat}{q:Sr}(x:On h i q)(f:∀b o,b=q.c\/b=q.l->h.get? b=ab o->h'.get? b=ab o):On h' i q:=⟨x.1.at λo e=>f _ o (.inl rfl) e,x.2.at λo e=>f _ o (.inr rfl) e⟩
abbrev TupAt(h:aI)(T:ah)(vs:List ag):Prop:=h.get? T=ab { cls:=.type "tuple", data:=.seq vs.toArray }
structure Ap(z TI TO:ah)(L:List Sr):Prop where
 TIz:TI≠z
 TOz:TO≠z
 TITO:TI≠TO
 nd:(L.map (·.c)).Nodup
 c:∀q∈L,q.c≠z/\q.c≠TI/\q.c≠TO
 l:∀q∈L,q.l≠z/\q.l≠TO/\∀r∈L,q.l≠r.c
theorem BQ{M:Model}{B:br}{α β:Type}{b:β}{f:α->β->Sem (ForInStep β)}{E:ag->ak->Prop}(I:Nat->ak->Prop):∀(xs:List α) (n:Nat) (s:ak),
 (∀j x,xs[j]? = ab x->∀s,I (n+j) s->wpAny M B (f x b) (λr s'=>r=.yield b/\I (n+j+1) s') E s)->I n s->wpAny M B (forIn xs b f) (λr s'=>r=b/\I (n+xs.length) s') E s
 |[],n,s,_,h=>by
  rw[xc];exact bo ⟨rfl,h⟩
 |x::r,n,s,hs,h=>by
  rw[mm];refine aA (gv (hs 0 x rfl s h) (λy s' hy=>?_) λ_ _ e=>e);obtain⟨rfl,hy⟩:=hy;refine gv (BQ I r (n+1) s' (λj x' e s2 h2=>?_) hy) (λy s2 h2=>⟨h2.1,?_⟩) λ_ _ e=>e
  ·rw[show n+1+j=n+(j+1)by omega]at h2 ⊢;exact hs (j+1) x' (by simpa using e) s2 h2
  ·rw[bW,show n+(r.length+1)=n+1+r.length by omega];exact h2.2
section
variable{P:bb}{w:aT}{B:br}{F:ag->ak->Prop}{s:ak}
def Kp(z TO:ah)(L:List Sr)(h h':aI):Prop:=∀b o,b≠z->b≠TO->b∉L.map (·.c)->h.get? b=ab o->h'.get? b=ab o
structure Mid(s:ak)(z TI TO:ah)(L:List Sr)(i n:Nat)(s':ak):Prop where
 zz:IsZip s'.heap z TI TO .ellipsis
 vs:∃vs:List ag,vs.length=L.length/\TupAt s'.heap TO vs/\∀(j:Nat) (q:Sr),j<n->L[j]? = ab q->vs[j]? = q.us[i]?/\i<q.us.size
 on:∀(j:Nat) (q:Sr),L[j]? = ab q->On s'.heap (if j<n then i+1 else i) q
 sz:s'.heap.objs.size=s.heap.objs.size
 kp:Kp z TO L s.heap s'.heap
 eq:s'={ s with heap:=s'.heap }
theorem Fw{L:List Sr}(h:(L.map (·.c)).Nodup){i j:Nat}{p q:Sr}(hp:L[i]? = ab p)(hq:L[j]? = ab q)(hij:i≠j):p.c≠q.c:=by
 intro e;have h1:(L.map (·.c))[i]? = ab p.c:=by rw[de,hp];rfl
 have h2:(L.map (·.c))[j]? = ab q.c:=by rw[de,hq];rfl
 obtain⟨l1,g1⟩:=cM.mp h1;obtain⟨l2,g2⟩:=cM.mp h2;exact hij ((j6 h).mp (by rw[g1,g2,e]))
theorem zr{z TI TO:ah}{L:List Sr}{i:Nat}{vs:List ag}{R:ag->ak->Prop}(hh:B.handled=ae)(D:Ap z TI TO L)(h0:L≠[])
 (hz:IsZip s.heap z TI TO .none) (hI:TupAt s.heap TI (L.map λq=>.ref q.c)) (hO:TupAt s.heap TO vs) (hl:vs.length=L.length) (hL:L.length<=8) (hon:∀q∈L,On s.heap i q)
 (hR:∀(h':aI) (ws:List ag),IsZip h' z TI TO (rawInt s.heap.objs.size)->ws.length=L.length->(∀(j:Nat) (q:Sr),L[j]? = ab q->ws[j]? = q.us[i]?/\i<q.us.size)->TupAt h' TO ws->TupAt h' s.heap.objs.size ws->(∀q∈L,On h' (i+1) q) ->
  Kp z TO L s.heap h'->R (.ref s.heap.objs.size) { s with heap:=h' })
 (hF:∀(h':aI) (e:ah),Kp z TO L s.heap h'->(∃o,h'.get? e=ab o/\o.cls=.type "StopIteration")->(∃q∈L,q.us.size<=i)->F (.ref e) { s with heap:=h' }) :
 wpAny (model P w) B (jw.«zip.__next__» ⟨[.ref z],[]⟩) (λfin s'=>∃v,fin=.done (.ret v)/\R v s') F s:=by
 show wpAny _ _ (field (.ref z) 2 >>= _) _ _ _;refine aA (k8 hz rfl (x:=.bool false) rfl ?_);show wpAny _ _ (field (.ref z) 3 >>= _) _ _ _;refine aA (k8 hz rfl (x:=.ref TI) rfl ?_);refine aA (qv hI rfl ?_);have hne:((L.map λq=>cr q.c).toArray.isEmpty)=false:=by cases L with|nil=>exact absurd rfl h0|cons q r=>rfl
 simp only[hne,n9,fO];show wpAny _ _ (Ei (.ref z) >>= _) _ _ _;refine aA ?_;unfold Ei;refine aA (k8 hz rfl (x:=.none) rfl (bo ?_));simp only[gN];refine aA (wpAny_rule (aA (k8 hz rfl (x:=.ref TO) rfl (aA (tG hz (by simp) λh1 hz1 hs1=>?_)))));replace hz1:IsZip h1 z TI TO .ellipsis:=hz1;have M0:Mid s z TI TO L i 0 { s with heap:=h1 }:=⟨hz1,⟨vs,hl,hs1.extBut _ _ D.TOz hO,λj q h _=>absurd h (Nat.not_lt_zero _)⟩,λj q e=>(hon q (iT e)).at λb o hb x=>by
  have hq:=iT e;rcases hb with rfl|rfl
  ·exact hs1.extBut _ _ (D.c q hq).1 x
  ·exact hs1.extBut _ _ (D.l q hq).1 x,hs1.1,λb o b1 _ _ x=>hs1.extBut _ _ b1 x,rfl⟩
 refine aA (gv (BQ (Mid s z TI TO L i) _ 0 _ ?_ M0) ?_ λ_ _ e=>e)
 ·intro j x e s2 M;rw[eJ]at M ⊢;obtain⟨q,hq,rfl⟩ : ∃q,L[j]? = ab q/\x=(cr q.c,j):=by
   simp only[List.getElem?_zipIdx,de,Option.map_map]at e;obtain⟨q,hq,e⟩:=mq.mp e;exact⟨q,hq,by rw[<- e];simp⟩
  have hqm:=iT hq;have jlt:j<L.length:=(cM.mp hq).1;have onq:=M.on j q hq;rw[ay (jx j)]at onq;obtain⟨ws,wl,wO,wv⟩:=M.vs;refine aA (wpAny_onRaise ?_);show wpAny _ _ (my (.ref q.c) >>= _) _ _ _;cases hu:q.us[i]? with
  |none=>
   refine aA (Js hh onq.1 onq.2 hu λh3 e2 x3 he=>?_);obtain⟨oe,goe,coe⟩:=he;have hz3:IsZip h3 z TI TO .ellipsis:=x3 _ _ (D.c q hqm).1.symm M.zz;have hez:e2≠z:=λy=>by subst y;rw[hz3]at goe;cases goe;simp at coe
   refine tG hz3 (by simp) λh4 _ x4=>?_;rw[M.eq];exact hF h4 e2 (λb o b1 b2 b3 y=>x4.extBut _ _ b1 (x3 _ _ (λq'=>b3 (by rw[q'];exact mf hqm)) (M.kp b o b1 b2 b3 y))) ⟨oe,x4.extBut _ _ hez goe,coe⟩ ⟨q,hqm,by simpa using hu⟩
  |some u=>
   refine aA (nx onq.1 onq.2 hu λh3 a3 x3=>bo ?_);have hO3:TupAt h3 TO ws:=x3.extBut _ _ (D.c q hqm).2.2.symm wO;refine aA (qv hO3 rfl (aA (wpAny_updateSeq hO3 rfl ?_ (by rw[bF,wl,cZ];omega) (by simp only[Array.size_setIfInBounds,bF];rw[wl,cZ];omega))));refine aA (wpAny_letGo (bo ⟨rfl,?_⟩));have x4:mo TO h3 (h3.update TO (gR (·.setIfInBounds j u))):=t5 ..;have hu':i<q.us.size:=(Array.getElem?_eq_some_iff.mp hu).1;have up:∀b o,b≠q.c->b≠TO->s2.heap.get? b=ab o->(h3.update TO (gR (·.setIfInBounds j u))).get? b=ab o:=λb o b1 b2 y=>x4.extBut _ _ b2 (x3.extBut _ _ b1 y);refine⟨up _ _ (D.c q hqm).1.symm D.TOz.symm M.zz,⟨ws.set j u,by rw[f8];exact wl,?_,λk r hk hr=>?_⟩,λk r hr=>?_,?_,λb o b1 b2 b3 y=>up b o (λq'=>b3 (by rw[q'];exact mf hqm)) b2 (M.kp b o b1 b2 b3 y),?_⟩
   ·show(h3.update TO _).get? TO=_;rw[xq _ hO3 rfl];simp[gR]
   ·by_cases hkj:k=j
    ·subst hkj;rw[hq]at hr;cases hr;rw[qm,aw rfl,aw (by omega),hu];exact⟨rfl,hu'⟩
    ·rw[qm,ay (λq=>hkj q.symm)];exact wv k r (by omega) hr
   ·have hrm:=iT hr;by_cases hkj:k=j
    ·subst hkj;rw[hq]at hr;cases hr;rw[aw (Nat.lt_succ_self _)];exact⟨a3.at λo y=>x4.extBut _ _ (D.c q hqm).2.2 y,onq.2.at λo y=>up _ o ((D.l q hqm).2.2 q hqm) (D.l q hqm).2.1 y⟩
    ·have:=M.on k r hr;rw[show(if k<j then i+1 else i)=(if k<j+1 then i+1 else i)from by
      by_cases h:k<j
      ·rw[aw h,aw (by omega)]
      ·rw[ay h,ay (by omega)]]at this
     exact this.at λb o hb y=>by
      rcases hb with rfl|rfl
      ·exact up _ _ (Fw D.nd hr hq hkj) (D.c r hrm).2.2 y
      ·exact up _ _ ((D.l r hrm).2.2 q hqm) (D.l r hrm).2.1 y
   ·show(h3.update TO _).objs.size=_;rw[x4.1,x3.1,M.sz]
   ·rw[M.eq]
 ·rintro r s2 ⟨rfl,M⟩;have hL2:0+((L.map λq=>cr q.c).toArray.toList.zipIdx).length=L.length:=by simp
  rw[hL2]at M;obtain⟨ws,wl,wO,wv⟩:=M.vs;refine aA (qv wO rfl (aA (wpAny_newTuple ?_ (by show ws.length<=_;rw[wl,cZ];omega))));show wpAny _ _ (Eh (.ref z) (.ref s2.heap.objs.size) >>= _) _ _ _;refine aA ?_;unfold Eh;have hz6:IsZip (s2.heap.push { cls:=.type "tuple", data:=.seq ws.toArray }) z TI TO .ellipsis:=cG _ M.zz;refine aA (tG hz6 (by simp) λh7 hz7 x7=>?_);replace hz7:IsZip h7 z TI TO (rawInt s2.heap.objs.size):=hz7;refine tG hz7 (by simp) λh8 hz8 x8=>?_;replace hz8:IsZip h8 z TI TO (rawInt s2.heap.objs.size):=hz8;have up:∀b o,b≠z->s2.heap.get? b=ab o->h8.get? b=ab o:=λb o b1 y=>x8.extBut _ _ b1 (x7.extBut _ _ b1 (cG _ y));have hzl:z<s2.heap.objs.size:=bG M.zz;have hT8:TupAt h8 s2.heap.objs.size ws:=x8.extBut _ _ (tM hzl) (x7.extBut _ _ (tM hzl) (d9 _ rfl));refine bo ⟨_,rfl,?_⟩;show R (.ref s2.heap.objs.size) _;rw[M.sz]at hz8 hT8 ⊢;have e:=M.eq;rw[e];exact hR h8 ws hz8 wl (λj q hq=>wv j q (cM.mp hq).1 hq) (up _ _ D.TOz wO) hT8 (λq hq=>by
   obtain⟨j,hj⟩:=me hq;have:=M.on j q hj;rw[aw (cM.mp hj).1]at this;exact this.at λb o hb y=>by
    rcases hb with rfl|rfl
    ·exact up _ _ (D.c q hq).1 y
    ·exact up _ _ (D.l q hq).1 y) λb o b1 b2 b3 y=>up b o b1 (M.kp b o b1 b2 b3 y)
end
end Zp
namespace Zp
open PySem PySem.Spec PyProof.Rows L2
variable[Tb:A.a7]
section
variable{P:bb}{w:aT}{B:br}{F':ag->ak->Prop}{s:ak}
abbrev zO(TI TO:ah):Obj:={ cls:=.type "zip", data:=.fields #[.none,.bool false,.bool false,.ref TI,.ref TO] }
abbrev tO(vs:List ag):Obj:={ cls:=.type "tuple", data:=.seq vs.toArray }
theorem mk2(k1 k2:Bool)(l1 l2:ah)(xs ys:Array ag) :
 Meets (jw.«zip.__new__» ⟨[.type "zip", .ref l1,.ref l2],[]⟩) (λ_ R s=>fV k1 s.heap l1 xs/\fV k2 s.heap l2 ys /\
  ∀h1 h2 h3 h4:aI,h1=s.heap.push (mL k1 l1)->h2=h1.push (mL k2 l2)->h3=h2.push (tO [.ref s.heap.objs.size,.ref h1.objs.size])->h4=h3.push (tO [.none,.none]) ->
  R (.ok (.ret (.ref h4.objs.size))) { s with heap:=h4.push (zO h2.objs.size h3.objs.size) }):=
 .of_wp λprog w A R s h=>by
  obtain⟨hp,g,d,tk,os⟩:=s;obtain⟨a1,a2,h⟩:=h;have hsub:=sub_zip;have b1:fV k1 (Shared.heap ⟨hp,g,d,tk,os⟩) l1 xs:=a1;have b2:fV k2 (Shared.heap ⟨hp.push (mL k1 l1),g,d,tk,os⟩) l2 ys:=a2.at λo e=>cG _ e
  wp_walk using Du b1,Du b2
  exact⟨_,rfl,h _ _ _ _ rfl rfl rfl rfl⟩
abbrev Tr:=Bool×ah×ah
structure Zs(h:aI)(z TI TO:ah)(T:List Tr)(i:Nat):Prop where
 zz:IsZip h z TI TO .none
 ti:TupAt h TI (T.map λq=>.ref q.2.1)
 to:∃vs:List ag,vs.length=T.length/\TupAt h TO vs
 it:∀q∈T,jf q.1 h q.2.1 q.2.2 i
theorem call2{k1 k2:Bool}{l1 l2:ah}{xs ys:Array ag}{R:ag->ak->Prop}(a1:fV k1 s.heap l1 xs)(a2:fV k2 s.heap l2 ys)
 (h:∀h',Zs h' (s.heap.objs.size+4) (s.heap.objs.size+2) (s.heap.objs.size+3) [(k1,s.heap.objs.size,l1),(k2,s.heap.objs.size+1,l2)] 0->(∀c o,s.heap.get? c=ab o->h'.get? c=ab o) ->
  R (.ref (s.heap.objs.size+4)) { s with heap:=h' }):wpAny (model P w) B (call (.type "zip") [.ref l1,.ref l2]) R F' s:=by
 refine callType_new F.called_zip (by decide) (F.typeCall_zip_2 _ _) (F.newCall_zip_2 _ _) (λobj=>F.args_object_init_3 obj _ _) F.entry_zip_new (mk2 k1 k2 l1 l2 xs ys) ⟨a1,a2,?_⟩;intro h1 h2 h3 h4 e1 e2 e3 e4;have z1:h1.objs.size=s.heap.objs.size+1:=by rw[e1];exact qx ..
 have z2:h2.objs.size=s.heap.objs.size+2:=by rw[e2,qx,z1]
 have z3:h3.objs.size=s.heap.objs.size+3:=by rw[e3,qx,z2]
 have z4:h4.objs.size=s.heap.objs.size+4:=by rw[e4,qx,z3]
 have p1:∀c o,s.heap.get? c=ab o->h1.get? c=ab o:=λc o x=>by rw[e1];exact cG _ x
 have p2:∀c o,h1.get? c=ab o->h2.get? c=ab o:=λc o x=>by rw[e2];exact cG _ x
 have p3:∀c o,h2.get? c=ab o->h3.get? c=ab o:=λc o x=>by rw[e3];exact cG _ x
 have p4:∀c o,h3.get? c=ab o->h4.get? c=ab o:=λc o x=>by rw[e4];exact cG _ x
 have p5:∀c o,h4.get? c=ab o->(h4.push (zO h2.objs.size h3.objs.size)).get? c=ab o:=λc o x=>cG _ x;have g1:h1.get? s.heap.objs.size=ab (mL k1 l1):=by rw[e1];exact d9 _ rfl
 have g2:h2.get? h1.objs.size=ab (mL k2 l2):=by rw[e2];exact d9 _ rfl
 have g3:h3.get? h2.objs.size=ab (tO [.ref s.heap.objs.size,.ref h1.objs.size]):=by rw[e3];exact d9 _ rfl
 have g4:h4.get? h3.objs.size=ab (tO [.none,.none]):=by rw[e4];exact d9 _ rfl
 have g5:(h4.push (zO h2.objs.size h3.objs.size)).get? h4.objs.size=ab (zO h2.objs.size h3.objs.size):=d9 _ rfl;show _/\_;refine⟨⟨_,g5,rfl⟩,?_⟩;rw[z1]at g2 g3;rw[z2]at g3;rw[z3]at g4;rw[z4]at g5 ⊢;rw[z2,z3]at g5 p5 ⊢;exact h _ ⟨g5,p5 _ _ (p4 _ _ g3),⟨_,rfl,p5 _ _ g4⟩,λq hq=>by
  rcases bJ.mp hq with rfl|hq
  ·exact⟨_,p5 _ _ (p4 _ _ (p3 _ _ (p2 _ _ g1))),rfl,rfl⟩
  ·obtain rfl:=bB.mp hq;exact⟨_,p5 _ _ (p4 _ _ (p3 _ _ g2)),rfl,rfl⟩⟩ λc o x=>p5 _ _ (p4 _ _ (p3 _ _ (p2 _ _ (p1 _ _ x))))
end
end Zp
namespace Zp
open PySem PySem.Spec PyProof.Rows L2 A
variable[Tb:A.a7]
def gX(H:Hp)(s:Bool×ah)(xs:List V):Prop:=match s.1 with
 |true=>Lst H s.2 xs
 |false=>H s.2=ab (.tup xs)
theorem gX.nn{H:Hp}{s:Bool×ah}{xs:List V}(h:gX H s xs):H s.2≠ae:=by
 obtain⟨k,a⟩:=s;cases k
 ·have h:H a=_:=h;show H a≠ae;rw[h];simp
 ·rcases(show Lst H a xs from h)with h|⟨o,h⟩
  ·show H a≠ae;rw[h];simp
  ·show H a≠ae;rw[h];simp
theorem gX.inj{H:Hp}{s:Bool×ah}{xs ys:List V}(h:gX H s xs)(h':gX H s ys):xs=ys:=by
 obtain⟨k,a⟩:=s;cases k
 ·have h:H a=ab (.tup xs):=h;have h':H a=ab (.tup ys):=h';rw[h]at h';cases h';rfl
 ·rcases(show Lst H a xs from h)with h|⟨o,h⟩<;>rcases(show Lst H a ys from h')with h'|⟨o',h'⟩<;>rw[h]at h'<;>cases h'<;>rfl
theorem gX.at{X:Cx}{af:List (ah×Obj)}{σ:L2.St}{H:Hp}{s:ak}{k:Bool}{a:ah}{xs:List V}(I:Inv X af σ H s)(h:gX H (k,a) xs):∃ai:List ag,Vals xs ai/\fV k s.heap a ai.toArray:=by
 cases k
 ·have h:H a=ab (.tup xs):=h;obtain⟨_,ai,rv,o,e,c,_,d⟩:=I.hok a _ h;exact⟨ai,rv,o,e,c,d⟩
 ·have h:Lst H a xs:=h;obtain⟨ai,rv,⟨o,n,e,c,_,d⟩,_⟩:=I.list h.sq;exact⟨ai,rv,o,e,c,n,d⟩
abbrev ic(H:Hp)(S:List (Bool×ah))(xss:List (List V)):Prop:=P2 (λs xs=>gX H s xs) S xss
def oR(S:List (Bool×ah)):It:=
 ⟨fun i H => ∃ xss, ic H S xss ∧ ∀ xs ∈ xss, i < xs.length,
  λi H v H'=>∃p ws,(∀xss,ic H S xss->P2 (λ(xs:List V) x=>xs[i]? = ab x) xss ws)/\H p=ae/\v=.ref p/\H'=upd H p (.tup ws),
  λi H=>∃xss,ic H S xss/\∃xs∈xss,xs.length<=i⟩
theorem BJ{H:Hp}:∀{S:List (Bool×ah)} {xss yss:List (List V)},ic H S xss->ic H S yss->xss=yss
 |_,_,_,.nil,.nil=>rfl
 |_,_,_,.cons a r,.cons b t=>by rw[a.inj b,BJ r t]
theorem lie{X:Cx}{af:List (ah×Obj)}{σ:L2.St}{H:Hp}{s:ak}(I:Inv X af σ H s):∀{T:List Tr} {xss:List (List V)},ic H (T.map λq=>(q.1,q.2.2)) xss ->
 ∃L:List Sr,L.map (λq=>(q.k,q.c,q.l))=T/\(∀q∈L,fV q.k s.heap q.l q.us/\H q.l≠ae)/\P2 (λ(q:Sr) xs=>Vals xs q.us.toList) L xss
 |[],_,.nil=>⟨[],rfl,λq h=>absurd h (by simp),.nil⟩
 |(k,c,l)::T,_,.cons a r=>by
  obtain⟨L,e,h,p⟩:=lie I r;obtain⟨ai,rv,q⟩:=a.at I;refine⟨⟨k,c,l,ai.toArray⟩::L,by rw[cq,e],λy hy=>?_,.cons rv p⟩;rcases bJ.mp hy with rfl|hy
  ·exact⟨q,a.nn⟩
  ·exact h y hy
theorem pick{i:Nat}:∀{L:List Sr} {xss:List (List V)} {ws:List ag},P2 (λ(q:Sr) xs=>Vals xs q.us.toList) L xss->ws.length=L.length->(∀(j:Nat) (q:Sr),L[j]? = ab q->ws[j]? = q.us[i]?/\i<q.us.size) ->
 ∃vws:List V,Vals vws ws/\P2 (λ(xs:List V) x=>xs[i]? = ab x) xss vws
 |_,_,[],.nil,_,_=>⟨[],.nil,.nil⟩
 |_,_,w::ws,.cons (a:=q) (b:=xs) rv t,hl,h=>by
  obtain⟨vws,r,p⟩:=pick t (by simpa using hl) λj r hr=>by simpa using h (j+1) r (by simpa using hr)
  obtain⟨e,hi⟩:=h 0 q rfl;have hlen:=rv.length;have hix:i<xs.length:=by simp at hlen;omega
  obtain⟨u,hu,ru⟩:=rv.get (i:=i) (x:=xs[i]) (by simp[hix]);have:ab w=ab u:=by have e':ab w=q.us[i]?:=e;rw[e',<- hu];simp
  cases this;exact⟨xs[i]::vws,.cons ru r,.cons (by simp[hix]) p⟩
 |_,_,[],.cons _ _,hl,_=>by simp at hl
 |_,_,w::ws,.nil,hl,_=>by simp at hl
structure yu(z TI TO:ah)(T:List Tr):Prop where
 TIz:TI≠z
 TOz:TO≠z
 TITO:TI≠TO
 nd:(T.map (·.2.1)).Nodup
 c:∀q∈T,q.2.1≠z/\q.2.1≠TI/\q.2.1≠TO
theorem Fz{P:bb}{w:aT}{K:aB}{elts:List aO}{k1:Nat}{pos:Pos}{z TI TO:ah}{T:List Tr}(D0:yu z TI TO T)(hT0:T≠[])(hT8:T.length<=8) :
 Turn P w K (.Tuple elts k1 pos) (oR (T.map λq=>(q.1,q.2.2))) (z::TI::TO::T.map (·.2.1)) z (λi h=>Zs h z TI TO T i) where
 mem:=by simp
 obj:=λi h st b hb=>by
  rcases bJ.mp hb with rfl|hb
  ·exact⟨_,st.zz,λv q=>by cases q⟩
  rcases bJ.mp hb with rfl|hb
  ·exact⟨_,st.ti,λv q=>by cases q⟩
  rcases bJ.mp hb with rfl|hb
  ·obtain⟨vs,_,h⟩:=st.to;exact⟨_,h,λv q=>by cases q⟩
  ·obtain⟨q,hq,rfl⟩:=c8.mp hb;exact(st.it q hq).cell
 keep:=λi h h' st kk=>⟨kk z (by simp) _ st.zz,kk TI (by simp) _ st.ti,let ⟨vs,l,e⟩:=st.to;⟨vs,l,kk TO (by simp) _ e⟩,λq hq=>(st.it q hq).at λo e=>kk _ (by simp only[bJ];exact .inr (.inr (.inr (mf (f:=λq:Tr=>q.2.1) hq)))) o e⟩
 item:=by
  intro X hP hw hK hc i af s σ H E I hf st hg;subst hP hw hK;obtain⟨xss,hq,hx⟩:=hg;obtain⟨L,eL,at_,rL⟩:=lie I hq;have eT:T.map (λq=>(cr q.2.1))=L.map λq=>.ref q.c:=by rw[<- eL,dg];rfl
  have eC:T.map (λq=>q.2.1)=L.map λq=>q.c:=by rw[<- eL,dg];rfl
  have lT:T.length=L.length:=by rw[<- eL,aS]
  have inT:∀q∈L,(q.k,q.c,q.l)∈T:=λq h=>by rw[<- eL];exact mf (f:=λq:Sr=>(q.k,q.c,q.l)) h
  have lne:∀q∈L,∀b∈z::TI::TO::T.map (·.2.1),q.l≠b:=λq h b hb e=>(at_ q h).2 (by rw[e];exact(hf b hb).1);have D:Ap z TI TO L:=⟨D0.TIz,D0.TOz,D0.TITO,by rw[<- eC];exact D0.nd,λq h=>D0.c _ (inT q h),λq h=>⟨lne q h z (by simp),lne q h TO (by simp),λr hr=>lne q h r.c (by rw[eC];simp only[bJ];exact .inr (.inr (.inr (mf (f:=λq:Sr=>q.c) hr))))⟩⟩;have hO:=st.to;obtain⟨vs,vl,hO⟩:=hO;have hTI:=st.ti;rw[eT]at hTI;have hty:s.TypeIs (.ref z) "zip" := ⟨_,st.zz,rfl⟩;unfold pyNext;refine aA (xp (tE (name:=tU "__next__") hty tS (mn tS hty F.entry_zip_next
   (zr (by first|exact I.ok.hd hc|(simp;exact I.ok.hd hc)) D (λe=>hT0 (by rw[e]at lT;exact qj lT)) st.zz hTI hO (by rw[vl,lT]) (by omega) (λq h=>⟨st.it _ (inT q h),(at_ q h).1⟩) (λh' ws hz' wl wv hO' hN on' kp=>bo ?_) (λh' e kp he hend=>?_)) (F.args_zip_next_1 _))))
  ·refine⟨_,rfl,wpAny_letOwnedTupleGo_zip hz' λh2 hz2 hs2=>?_⟩;have kk:∀b o,b∉z::TI::TO::T.map (·.2.1)->s.heap.get? b=ab o->h2.get? b=ab o:=λb o hb q=>by
    simp only[bJ,not_or]at hb;exact(hs2.2 b hb.1).trans (kp b o hb.1 hb.2.2.1 (by rw[<- eC];exact hb.2.2.2) q)
   have hne:∀b∈z::TI::TO::T.map (·.2.1),b≠s.heap.objs.size:=λb hb e=>by
    obtain⟨o,ho,_⟩ : ∃o,s.heap.get? b=ab o/\True:=by
     rcases bJ.mp hb with rfl|hb
     ·exact⟨_,st.zz,trivial⟩
     rcases bJ.mp hb with rfl|hb
     ·exact⟨_,st.ti,trivial⟩
     rcases bJ.mp hb with rfl|hb
     ·exact⟨_,hO,trivial⟩
     ·obtain⟨q,hq,rfl⟩:=c8.mp hb;obtain⟨o,ho,_⟩:=st.it q hq;exact⟨o,ho,trivial⟩
    exact absurd (bG ho) (by rw[e];exact jx _)
   obtain⟨vws,hv,hy⟩ : ∃vws:List V,Vals vws ws/\P2 (λ(xs:List V) x=>xs[i]? = ab x) xss vws:=by exact pick rL wl wv
   have hN2:TupAt h2 s.heap.objs.size ws:=(hs2.2 _ (λe=>hne z (by simp) e.symm)).trans hN;refine⟨.ref s.heap.objs.size,upd H s.heap.objs.size (.tup vws),B9 (s:=s) (t':=s.toks) I hf kk (bg _) ⟨?_,ws,hv,⟨_,hN2,rfl,rfl,_,rfl⟩⟩,rfl,⟨_,vws,λyss h=>by rw[BJ h hq];exact hy,I.hok.fresh (bg _),rfl,rfl⟩,?_,λb hb=>?_⟩
   ·rw[hv.length,wl,cZ];omega
   ·refine⟨hz2,(hs2.2 _ D0.TIz).trans ?_,⟨ws,by rw[wl,lT],(hs2.2 _ D0.TOz).trans hO'⟩,λq hq2=>?_⟩
    ·exact kp _ _ D0.TIz D0.TITO (λh=>by
      rw[<- eC]at h;obtain⟨q,hq2,e⟩:=c8.mp h;exact(D0.c q hq2).2.1 e) st.ti
    ·rw[<- eL]at hq2;obtain⟨r,hr,rfl⟩:=c8.mp hq2;exact(on' r hr).1.at λo q=>(hs2.2 _ (D.c r hr).1).trans q
   ·rw[aQ (hne b hb)];exact(hf b hb).1
  ·exfalso;obtain⟨q,hqm,hle⟩:=hend;obtain⟨j,hj⟩:=me hqm;obtain⟨xs,hxs,rv⟩:=rL.getL hj;have:=hx xs (iT hxs);have:=rv.length;simp at this;omega
 done:=by
  intro X hP hw hK hc i af s σ H E I hf st hg;subst hP hw hK;obtain⟨xss,hq,xs0,hx0,hxl⟩:=hg;obtain⟨L,eL,at_,rL⟩:=lie I hq;have eT:T.map (λq=>(cr q.2.1))=L.map λq=>.ref q.c:=by rw[<- eL,dg];rfl
  have eC:T.map (λq=>q.2.1)=L.map λq=>q.c:=by rw[<- eL,dg];rfl
  have lT:T.length=L.length:=by rw[<- eL,aS]
  have inT:∀q∈L,(q.k,q.c,q.l)∈T:=λq h=>by rw[<- eL];exact mf (f:=λq:Sr=>(q.k,q.c,q.l)) h
  have lne:∀q∈L,∀b∈z::TI::TO::T.map (·.2.1),q.l≠b:=λq h b hb e=>(at_ q h).2 (by rw[e];exact(hf b hb).1);have D:Ap z TI TO L:=⟨D0.TIz,D0.TOz,D0.TITO,by rw[<- eC];exact D0.nd,λq h=>D0.c _ (inT q h),λq h=>⟨lne q h z (by simp),lne q h TO (by simp),λr hr=>lne q h r.c (by rw[eC];simp only[bJ];exact .inr (.inr (.inr (mf (f:=λq:Sr=>q.c) hr))))⟩⟩;have hO:=st.to;obtain⟨vs,vl,hO⟩:=hO;have hTI:=st.ti;rw[eT]at hTI;have hty:s.TypeIs (.ref z) "zip" := ⟨_,st.zz,rfl⟩;unfold pyNext;refine aA (xp (tE (name:=tU "__next__") hty tS (mn tS hty F.entry_zip_next
   (zr (by first|exact I.ok.hd hc|(simp;exact I.ok.hd hc)) D (λe=>hT0 (by rw[e]at lT;exact qj lT)) st.zz hTI hO (by rw[vl,lT]) (by omega) (λq h=>⟨st.it _ (inT q h),(at_ q h).1⟩) (λh' ws hz' wl wv hO' hN on' kp=>?_) (λh' e kp he hend=>?_)) (F.args_zip_next_1 _))))
  ·exfalso;obtain⟨j,hj⟩:=me hx0;obtain⟨q,hqj,rv⟩:=rL.uo hj;have:=(wv j q hqj).2;have:=rv.length;simp at this;omega
  ·obtain⟨o,ho,hcl⟩:=he;refine aA (wpAny_isInstance (T := "StopIteration") (b:=true) ⟨o,ho,hcl⟩ isSubtype_stop (bo ⟨rfl,?_⟩));exact zL (s:=s) (t':=s.toks) I hf λb o hb q=>by
    simp only[bJ,not_or]at hb;exact kp b o hb.1 hb.2.2.1 (by rw[<- eC];exact hb.2.2.2) q
 self:=λ_ i s Q E st h=>wpAny_pyIter_zip st.zz h
end Zp
namespace Mi
def ui:D->Rs (List D)
 |.lst ds=>.ok ds
 |.tup ds=>.ok ds
 |_=>.no
def rN(a b:E):I:=λe=>(a e).bind λx=>(b e).bind λy=>(ui x).bind λds=>(ui y).bind λes=>.ok (fX ds es)
end Mi
namespace Zp
open PySem PySem.Spec PyProof.Rows L2 A
open Mi (D W Rs Fin ao)
variable[Tb:A.a7]
theorem gX.same{H H':Hp}{s:Bool×ah}{xs:List V}(h:b8 H H')(q:gX H s xs):gX H' s xs:=by
 obtain⟨k,a⟩:=s;cases k
 ·exact h _ _ q
 ·exact Lst.same (a:=a) h q
theorem pU{H H':Hp}{S:List (Bool×ah)}{xss:List (List V)}(h:b8 H H')(q:ic H S xss):ic H' S xss:=q.imp λ_ _ x=>x.same h
def yX(dss:List (List D))(dz:List D):Prop:=(∀i,i<dz.length->∃us,dz[i]? = ab (.tup us)/\P2 (λ(ds:List D) u=>ds[i]? = ab u) dss us)/\∃ds∈dss,ds.length=dz.length
theorem picks{Hv:Hp}{i:Nat}:∀{dss:List (List D)} {xss:List (List V)} {us:List D} {ws:List V},P2 (P2 (Rep Hv)) dss xss->P2 (λ(ds:List D) u=>ds[i]? = ab u) dss us->P2 (λ(xs:List V) x=>xs[i]? = ab x) xss ws->P2 (Rep Hv) us ws
 |_,_,_,_,.nil,.nil,.nil=>.nil
 |_,_,_,_,.cons a r,.cons b s,.cons c t=>.cons (a.get b c) (picks r s t)
theorem zZ{α β:Type}{F:α->β->Prop}:∀{l:List α} {m:List β} {b:β},P2 F l m->b∈m->∃a∈l,F a b
 |_,_,_,.cons x t,h=>by
  rcases bJ.mp h with rfl|h
  ·exact⟨_,cn ..,x⟩
  ·obtain⟨a,ha,q⟩:=zZ t h;exact⟨a,cm _ ha,q⟩
theorem u4{α β:Type}{F:α->β->Prop}:∀{l:List α} {m:List β} {a:α},P2 F l m->a∈l->∃b∈m,F a b
 |_,_,_,.cons x t,h=>by
  rcases bJ.mp h with rfl|h
  ·exact⟨_,cn ..,x⟩
  ·obtain⟨a,ha,q⟩:=u4 t h;exact⟨a,cm _ ha,q⟩
def ZP(S:List (Bool×ah))(dss:List (List D))(xss:List (List V))(_ Hv:Hp):Prop:=ic Hv S xss/\P2 (P2 (Rep Hv)) dss xss
theorem Gi{S:List (Bool×ah)}{dss:List (List D)}{xss:List (List V)}{dz:List D}(hz:yX dss dz):nS (oR S) (ZP S dss xss) dz:=by
 refine⟨λi H Hv p v hi=>?_,λi H Hv x H' p v hi y=>?_,λH Hv p v=>?_⟩
 ·obtain⟨us,_,hu⟩:=hz.1 i hi;refine⟨xss,pU v.sub p.1,λxs hx=>?_⟩;obtain⟨ds,hd,r⟩:=zZ p.2 hx;obtain⟨u,_,e⟩:=u4 hu hd;have:=(cM.mp e).1;rw[<- r.len];exact this
 ·obtain⟨us,hd,hu⟩:=hz.1 i hi;obtain⟨q,ws,hw,hq,rfl,rfl⟩:=y;have r:=picks p.2 hu (hw xss (pU v.sub p.1));obtain⟨g,k⟩:=vZ v r hq;exact⟨_,.tup us,g,hd,k⟩
 ·obtain⟨ds,hd,e⟩:=hz.2;obtain⟨xs,hx,r⟩:=u4 p.2 hd;exact⟨xss,pU v.sub p.1,xs,hx,by rw[<- r.len];omega⟩
theorem Bn:∀ds es:List D,yX [ds,es] (Mi.fX ds es)
 |[],es=>⟨λi h=>absurd h (by simp[Mi.fX]),[],by simp,by simp[Mi.fX]⟩
 |d::r,[]=>⟨λi h=>absurd h (by simp[Mi.fX]),[],by simp,by simp[Mi.fX]⟩
 |d::r,e::s=>by
  obtain⟨h1,ds,hd,hl⟩:=Bn r s;refine⟨λi hi=>?_,?_⟩
  ·cases i with
   |zero=>exact⟨[d,e],rfl,.cons rfl (.cons rfl .nil)⟩
   |succ i=>
    obtain⟨us,a,b⟩:=h1 i (by simpa [Mi.fX]using hi);refine⟨us,by simpa [Mi.fX]using a,?_⟩;cases b with
    |cons x t=>
     cases t with
     |cons y t=>cases t;exact .cons (by simpa using x) (.cons (by simpa using y) .nil)
  ·rcases bJ.mp hd with rfl|hd
   ·exact⟨d::ds,by simp,by simp[Mi.fX,hl]⟩
   ·obtain rfl:=bB.mp hd;exact⟨e::ds,by simp,by simp[Mi.fX,hl]⟩
theorem C4{x:D}{k:List D->Prop}(h:Fin (Mi.ui x) k):∃ds,(x=.lst ds\/x=.tup ds)/\k ds:=by
 cases x with
 |lst b=>exact⟨b,.inl rfl,h⟩
 |tup b=>exact⟨b,.inr rfl,h⟩
 |_=>exact h.elim
theorem CL{H:Hp}{x:D}{ds:List D}{v:V}(h:x=.lst ds\/x=.tup ds)(r:Rep H x v):∃k a xs,v=.ref a/\gX H (k,a) xs/\P2 (Rep H) ds xs:=by
 rcases h with rfl|rfl
 ·obtain⟨a,xs,e,l,r⟩:=iM.mp r;exact⟨true,a,xs,e,l,r⟩
 ·obtain⟨a,xs,e,l,r⟩:=i4.mp r;exact⟨false,a,xs,e,l,r⟩
section
variable{X:Cx}{elts:List aO}{k1:Nat}{tpos:Pos}{M:Nat->Bool}
theorem jO{a b:Nat}(h:a≠b):@Ne ah a b:=h
theorem I9{n:Nat}:∀{b:Nat},b∈([n+4,n+2,n+3,n,n+1]:List Nat)->n<=b:=λ{b} h=>by simp at h;omega
theorem F0(n:Nat)(k k':Bool)(l l':ah):yu (n+4) (n+2) (n+3) [(k,n,l),(k',n+1,l')]:=
 ⟨jO (by omega),jO (by omega),jO (by omega),by show([n,n+1]:List Nat).Nodup;simp,λq hq=>by
  rcases bJ.mp hq with rfl|hq
  ·exact⟨jO (show n≠n+4 by omega),jO (show n≠n+2 by omega),jO (show n≠n+3 by omega)⟩
  ·obtain rfl:=bB.mp hq;exact⟨jO (show n+1≠n+4 by omega),jO (show n+1≠n+2 by omega),jO (show n+1≠n+3 by omega)⟩⟩
def yW(ta tb:TE):TI:=λσ H R=>ta σ H λx H1=>tb σ H1 λy H2=>∃S xss,[x,y]=S.map (λs:Bool×ah=>V.ref s.2)/\S.length=2/\ic H2 S xss/\R (oR S) H2
theorem FJ{a b:aO}{ta tb:TE}{p pos:Pos}(hg:Gl X "zip")(hm:X.mg "zip" = ae)(ha:PE X a ta)(hb:PE X b tb)(hs:starEach [a,b] X.env=[(false,eval a X.env),(false,eval b X.env)]:=by rfl)(hs0:starEach [a,b] X.env=(false,eval a X.env)::starEach [b] X.env:=by rfl)(hs1:starEach [b] X.env=(false,eval b X.env)::starEach [] X.env:=by rfl)(hpl:(backTo pos (starEach [b] X.env)).any (·.1)=false:=by rfl) :
 PI X (.Tuple elts k1 tpos) (.Call (.Name "zip" p) [a,b] [] pos) (yW ta tb):=by
 intro af s σ H R I h;refine Call_ (mJ I hg hm boot_zip (tV (aK (ax ha (ax hb bc hs1) hs0 pos af s σ H (λvs H1=>∃S xss,vs=S.map (λs:Bool×ah=>V.ref s.2)/\S.length=2/\ic H1 S xss/\R (oR S) H1) I ?_) λus s1 ⟨vs,H1,I1,r1,q1⟩=>?_) hs0 hpl))
 ·exact h
 ·obtain⟨S,xss,e,hl,hS,q⟩:=q1;obtain⟨⟨k,l⟩,⟨k',l'⟩,rfl⟩ : ∃x y,S=[x,y]:=by
   match S,hl with
   |[x,y],_=>exact⟨x,y,rfl⟩
  subst e;have hS0:=hS;cases hS with
  |cons s1' t=>
  cases t with
  |cons s2' t=>
  cases t;cases r1 with
  |cons u1 r1=>
  cases r1 with
  |cons u2 r1=>
  cases r1;cases u1;cases u2;obtain⟨i1,_,a1⟩:=s1'.at I1;obtain⟨i2,_,a2⟩:=s2'.at I1;refine call2 a1 a2 λh' hZ hk=>wpAny_pyIter_zip hZ.zz ?_;have I2:Inv X af σ H1 { s1 with heap:=h' }:=I1.kept (t':=s1.toks) λb o e=>hk b o e;refine⟨_,_,_,_,H1,rfl,I2,Fz (z:=s1.heap.objs.size+4) (TI:=s1.heap.objs.size+2) (TO:=s1.heap.objs.size+3) (F0 _ k k' l l') (by simp) (by simp),hZ,λb hb=>?_,q⟩;have hb:s1.heap.objs.size<=b:=I9 hb;exact I1.iJ hb (I1.hok.fresh hb)
theorem Hn{ta tb:TE}{a b:Mi.E}(ha:AE M qV ta a)(hb:AE M qV tb b):gK M (yW ta tb) (Mi.rN a b):=λe σ H Hv R I h=>
 ha e σ H Hv _ I ((ao.mp h).mono λx hx v H1 Hv1 g1 rx=>hb e σ H1 Hv1 _ (I.grow g1) ((ao.mp hx).mono λy hy u H2 Hv2 g2 ry=>by
  obtain⟨ds,hd,hk⟩:=C4 (ao.mp hy);obtain⟨es,he,hk⟩:=C4 (ao.mp hk);obtain⟨k,a,xs,rfl,s1,r1⟩:=CL hd (iO g2.vis (show Rep Hv1 x v from rx));obtain⟨k',a',ys,rfl,s2,r2⟩:=CL he (show Rep Hv2 y u from ry);have S2:ic Hv2 [(k,a),(k',a')] [xs,ys]:=.cons s1 (.cons s2 .nil);exact⟨[(k,a),(k',a')],[xs,ys],rfl,rfl,pU g2.vw.sub S2,hk (oR [(k,a),(k',a')]) H2 Hv2 (ZP [(k,a),(k',a')] [ds,es] [xs,ys]) (g1.trans g2) (Gi (Bn ds es)) ⟨S2,.cons r1 (.cons r2 .nil)⟩ λ_ _ _ _ z s _=>⟨pU s z.1,z.2.imp λ_ _ q=>dG s q⟩⟩))
end
end Zp
namespace Zp
open PySem PySem.Spec PyProof.Rows L2 A
open Mi (D W Rs Fin ao)
variable[Tb:A.a7]
section
variable{X:Cx}{af:List (ah×Obj)}{σ:L2.St}{H:Hp}{s:ak}{B:br}{E:ag->ak->Prop}{Q:ag->ak->Prop}{b:Bool}
theorem kit_at{x:V}{u t:ag}(I:Inv X af σ H s)(rx:RelV x u)(ty:fE X.K H x t):∃P:aI->Prop,PySem.W.KitX X.K u t P/\P s.heap/\u≠.builtin "__main__.__loader__#opaque":= by
 cases ty with
 |non=>cases(show u=dR from rx);exact⟨_,DA,gB,λz=>nomatch z⟩
 |bl y=>cases(show u=mv y from rx);exact⟨_,DB,gB,λz=>nomatch z⟩
 |int i=>obtain⟨t,q⟩:=(show∃t,u=Value.int i t from rx);cases q;exact⟨_,DD,gB,λz=>nomatch z⟩
 |str y=>obtain⟨t,q⟩:=(show∃t,u=ke y t from rx);cases q;exact⟨_,DE,gB,λz=>nomatch z⟩
 |flt y=>obtain⟨t,q⟩:=(show∃t,u=xC y t from rx);cases q;exact⟨_,Dy,gB,λz=>nomatch z⟩
 | @lst a xs ea=>
  cases(show u=cr a from rx);obtain⟨_,_,n,_,h1⟩:=(show bN X.prog X.w H s.heap a (.lst xs)from I.hok a _ ea);exact⟨_,sV,⟨_,h1,rfl⟩,λz=>nomatch z⟩
 | @frz a ob xs ea=>
  cases(show u=cr a from rx);obtain⟨_,_,_,n,_,h1⟩:=(show bN X.prog X.w H s.heap a (.frz ob (.lst xs))from I.hok a _ ea);exact⟨_,sV,⟨_,h1,rfl⟩,λz=>nomatch z⟩
 | @tup a xs ea=>
  cases(show u=cr a from rx);obtain⟨_,_,_,o,h1,h2,_⟩:=(show bN X.prog X.w H s.heap a (.tup xs)from I.hok a _ ea);exact⟨_,Dz,⟨o,h1,h2⟩,λz=>nomatch z⟩
 | @dK a am ea=>
  cases(show u=cr a from rx);obtain⟨_,_,vs,_,o,es,ep,h1,h2,_⟩:=(show bN X.prog X.w H s.heap a (.dK am)from I.hok a _ ea);exact⟨_,sW,⟨o,h1,h2.1⟩,λz=>nomatch z⟩
 | @dT a am ea=>
  cases(show u=cr a from rx);obtain⟨_,_,xs,_,o,es,ep,h1,h2,_⟩:=(show bN X.prog X.w H s.heap a (.dT am)from I.hok a _ ea);exact⟨_,sW,⟨o,h1,h2.1⟩,λz=>nomatch z⟩
 | @ins a C dx fs ea cl ha hn htk hm=>
  cases(show u=cr a from rx);obtain⟨mA,O,_⟩:=zG I.hok ea;obtain⟨od,J,_⟩:=O.look;exact⟨_,DF (cl.get _) cl.hd ha hn htk hm,J,λz=>nomatch z⟩
theorem Ao:∀{Ts:List String} {us:List ag},Vals (Ts.map V.ty) us->us=Ts.map .type
 |[],_,.nil=>rfl
 |T::r,_,.cons a t=>by
  have a:_=tT T:=a;rw[a,Ao t];rfl
def CK(K:aB):List V->Hp->VK->Prop:=λxs H Q=>∃(x:V) (t:ag) (tp:ah) (Ts:List String) (b:Bool),xs=[x,.ref tp]/\H tp=ab (.tup (Ts.map V.ty))/\fE K H x t/\wR K t (Ts.map .type)=ab b/\Q (.bl b) H
theorem Dv:fc X (.builtin "isinstance") (CK X.K):=by intro af s σ H xs us Q I r h;obtain⟨x,t,tp,Ts,b,rfl,ht,ty,e,q⟩:=h;obtain⟨u,w',rfl,rx,rt⟩:=vals2 r;cases(show w'=cr tp from rt);obtain⟨_,ai,rv,o,h1,h2,_,n,h3⟩:=(show bN X.prog X.w H s.heap tp (.tup (Ts.map V.ty))from I.hok tp _ ht);obtain rfl:=Ao rv;obtain⟨c,d,dt,sl⟩:=o;simp only at h2 h3;subst h2 h3;obtain⟨P,kx,p,hn⟩:=kit_at I rx ty;exact PySem.W.kia_tup kx I.eM p h1 e hn λtk=>⟨.bl b,H,I.tok tk,rfl,q⟩
end
theorem CI{K:aB}{d:D}:∀{Ts:List String},(∀T∈Ts,iA K T)->wR K (.type (Mi.wf d)) (Ts.map .type)=ab (Ts.any λt=>Mi.m7 t d)
 |[],_=>rfl
 |T::r,h=>by
  have h1:=h T (cn ..) d;have h2:=CI (d:=d) λT' hT=>h T' (cm _ hT);rw[cq,wR,h1];cases e:Mi.m7 T d
  ·simp only[iU,e,jy];exact h2
  ·simp only[iU,e,xx]
theorem Cg{K:aB}{S T:String}(h:iA K S)(g:iA K T):∀U∈[S,T],iA K U:=λU hU=>by
 rcases bJ.mp hU with rfl|hU
 ·exact h
 ·obtain rfl:=bB.mp hU;exact g
def wJ:List String->TA
 |[]=>fT
 |T::r=>fh (tC (.ty T)) (wJ r)
theorem zy:∀(Ts:List String) (σ:L2.St) (H:Hp) (Q:List V->Hp->Prop),Q (Ts.map V.ty) H->wJ Ts σ H Q
 |[],_,_,_,h=>h
 |T::r,σ,H,Q,h=>zy r σ H _ h
section
variable{M:Nat->Bool}{K:aB}{ta:TE}{a:Mi.E}
theorem zD{Ts:List String}(hT:∀T∈Ts,iA K T)(hl:Ts.length<=8)(ha:AE M qP ta a):AE M qV (pV (CK K) (fh ta (fh (vp (wJ Ts)) fT))) (Mi.m1 (Mi.cK Ts) a):=λe σ H Hv Q I h=>
 ha e σ H Hv _ I ((ao.mp h).mono λx hx v H1 Hv1 g1 rx=>zy Ts σ H1 _ ⟨by rw[aS,cZ];omega,λp hp=>by
  have g2:aY H1 Hv1 (upd H1 p (.tup (Ts.map V.ty))) (upd Hv1 p (.tup (Ts.map V.ty))):=.new g1.vw hp;have g:=g1.trans g2;exact⟨v,_,p,Ts,_,rfl,b9,Bc g.vw (RB.grow g2 rx),CI hT,(Mi.jI hx) _ _ _ g ff⟩⟩)
end
end Zp
namespace Mi
end Mi
namespace Zp
open PySem PySem.Spec PyProof.Rows L2 A
open Mi (D W Rs Fin ao)
open AutoSeq1 (wpAny_loadPart')
variable[Tb:A.a7]
end Zp
namespace Mi
end Mi
namespace Zp
open PySem PySem.Spec PyProof.Rows L2 A
open Mi (D W Rs Fin ao)
variable[Tb:A.a7]
end Zp
namespace Mi
abbrev SN:=List D->List D->Env->Rs Out
end Mi
namespace Zp
open PySem PySem.Spec PyProof.Rows L2 A
open Mi (D W Rs Fin ao Out)
variable[Tb:A.a7]
end Zp
namespace A
end A
namespace A
end A
namespace Mi
open PySem
end Mi
namespace A
end A
namespace A
end A
namespace So
open PySem PySem.W PyProof.Rows
def fU{α:Type}(n:Nat)(lt:Nat->Nat->Bool):KasT α->(α->Prop)->Prop
 |.ret a,Q=>Q a
 |.ask i j k,Q=>i<n/\j<n/\fU n lt (k (lt i j)) Q
theorem nR{α β:Type}{n:Nat}{lt:Nat->Nat->Bool}{f:α->KasT β}{Q:β->Prop}:∀{t:KasT α},fU n lt t (λa=>fU n lt (f a) Q)->fU n lt (t.bind f) Q
 |.ret _,h=>h
 |.ask _ _ k,h=>⟨h.1,h.2.1,nR (t:=k _) h.2.2⟩
theorem jc{α:Type}{n:Nat}{lt:Nat->Nat->Bool}{Q Q':α->Prop}(m:∀a,Q a->Q' a):∀{t:KasT α},fU n lt t Q->fU n lt t Q'
 |.ret _,h=>m _ h
 |.ask _ _ k,h=>⟨h.1,h.2.1,jc m (t:=k _) h.2.2⟩
theorem yZ{α:Type}{n:Nat}{lt:Nat->Nat->Bool}{cmp:Nat->Nat->(Bool->ak->Prop)->ak->Prop}{s:ak}(hc:∀i j C,i<n->j<n->C (lt i j) s->cmp i j C s){Q:α->Prop}:∀{t:KasT α},fU n lt t Q->t.kasWp cmp (λa s'=>s'=s/\Q a) s
 |.ret _,h=>⟨rfl,h⟩
 |.ask i j k,h=>hc i j _ h.1 h.2.1 (yZ hc (t:=k _) h.2.2)
section
variable{n:Nat}{lt:Nat->Nat->Bool}
structure sS(n:Nat)(lt:Nat->Nat->Bool):Prop where
 tot:∀i j,i<n->j<n->i≠j->lt i j=true\/lt j i=true
 asy:∀i j,i<n->j<n->lt i j=true->lt j i=false
 tr:∀i j k,i<n->j<n->k<n->lt i j=true->lt j k=true->lt i k=true
abbrev at'(p:Array Nat)(i:Nat):Nat:=p.getD i 0
structure Pm(n:Nat)(p:Array Nat):Prop where
 pm:p.Perm (j9 (bn n))
theorem Pm.size{p:Array Nat}(h:Pm n p):p.size=n:=by have:=h.pm.size_eq;simpa using this
theorem oN{p:Array Nat}{i:Nat}(h:i<p.size):at' p i=p[i]:=by simp[at',Array.getD,h]
theorem Pm.bd{p:Array Nat}(h:Pm n p){i:Nat}(hi:i<n):at' p i<n:=by
 have hs:i<p.size:=by rw[h.size];exact hi
 rw[oN hs];have:p[i]∈(j9 (bn n)).toList:=(tY.mp h.pm).mem_iff.mp (by simp);simpa using this
theorem Pm.inj{p:Array Nat}(h:Pm n p){i j:Nat}(hi:i<n)(hj:j<n)(e:at' p i=at' p j):i=j:=by
 have si:i<p.size:=by rw[h.size];exact hi
 have sj:j<p.size:=by rw[h.size];exact hj
 rw[oN si,oN sj]at e;have nd:p.toList.Nodup:=(tY.mp h.pm).nodup_iff.mpr (by simpa using List.nodup_range);have e2:p.toList[i]'(by simpa using si)=p.toList[j]'(by simpa using sj):=by simpa using e
 exact(j6 nd).mp e2
def Sd(lt:Nat->Nat->Bool)(p:Array Nat)(k:Nat):Prop:=∀i j,i<j->j<k->lt (at' p i) (at' p j)=true
def Dd(lt:Nat->Nat->Bool)(p:Array Nat)(k:Nat):Prop:=∀i j,i<j->j<k->lt (at' p j) (at' p i)=true
variable(O:sS n lt)
include O
theorem not_lt{p:Array Nat}(h:Pm n p){i j:Nat}(hi:i<n)(hj:j<n)(ne:i≠j)(e:lt (at' p i) (at' p j)=false):lt (at' p j) (at' p i)=true:=by
 rcases O.tot _ _ (h.bd hi) (h.bd hj) (λz=>ne (h.inj hi hj z))with z|z
 ·rw[e]at z;cases z
 ·exact z
theorem Sd.more{p:Array Nat}(h:Pm n p){k:Nat}(s:Sd lt p k)(hk:1<=k)(hkn:k<n)(e:lt (at' p (k-1)) (at' p k)=true):Sd lt p (k+1):=λi j hij hj=>by
 by_cases hjk:j<k
 ·exact s i j hij hjk
 ·obtain rfl:j=k:=by omega
  by_cases hi:i=j-1
  ·subst hi;exact e
  ·exact O.tr _ _ _ (h.bd (by omega)) (h.bd (by omega)) (h.bd hkn) (s i (j-1) (by omega) (by omega)) e
theorem Dd.more{p:Array Nat}(h:Pm n p){k:Nat}(s:Dd lt p k)(hk:1<=k)(hkn:k<n)(e:lt (at' p k) (at' p (k-1))=true):Dd lt p (k+1):=λi j hij hj=>by
 by_cases hjk:j<k
 ·exact s i j hij hjk
 ·obtain rfl:j=k:=by omega
  by_cases hi:i=j-1
  ·subst hi;exact e
  ·exact O.tr _ _ _ (h.bd hkn) (h.bd (by omega)) (h.bd (by omega)) e (s i (j-1) (by omega) (by omega))
theorem vM{p:Array Nat}(h:Pm n p):∀(f k:Nat),1<=k->k+f<=n->Sd lt p k->fU n lt (kas_asc p f k) λm=>k<=m/\m<=k+f/\Sd lt p m/\(m=k+f\/lt (at' p m) (at' p (m-1))=true)
 |0,k,_,_,s=>⟨bg _,bg _,s,.inl rfl⟩
 |f+1,k,h1,h2,s=>by
  refine⟨h.bd (by omega),h.bd (by omega),?_⟩;cases e:lt (p.getD k 0) (p.getD (k-1) 0)with
  |true=>exact⟨bg _,by omega,s,.inr e⟩
  |false=>
   dsimp only;rw[ay cN];refine jc (λm hm=>?_) (vM h f (k+1) (by omega) (by omega) (Sd.more O h s h1 (by omega) (not_lt O h (by omega) (by omega) (by omega) e)));refine⟨by omega,by omega,hm.2.2.1,?_⟩;rcases hm.2.2.2 with z|z
   ·exact .inl (by omega)
   ·exact .inr z
theorem zj{p:Array Nat}(h:Pm n p):∀(f k:Nat),1<=k->k+f<=n->Dd lt p k->fU n lt (kas_desc f p k 0) λr=>r.1=p/\k<=r.2.1/\r.2.1<=k+f/\r.2.2=0/\Dd lt p r.2.1
 |0,k,_,_,s=>⟨rfl,bg _,bg _,rfl,s⟩
 |f+1,k,h1,h2,s=>by
  refine⟨h.bd (by omega),h.bd (by omega),?_⟩;cases e:lt (p.getD k 0) (p.getD (k-1) 0)with
  |true=>
   dsimp only;rw[aw rfl,ay (by omega)];refine jc (λr hr=>⟨hr.1,by omega,by omega,hr.2.2.2⟩) (zj h f (k+1) (by omega) (by omega) (Dd.more O h s h1 (by omega) e))
  |false=>
   dsimp only;rw[ay cN];refine⟨h.bd (by omega),h.bd (by omega),?_⟩;dsimp only;rw[show lt (p.getD (k-1) 0) (p.getD k 0)=true from not_lt O h (by omega) (by omega) (by omega) e,aw rfl];exact⟨rfl,bg _,by show k<=_;omega,rfl,s⟩
theorem Dl{p:Array Nat}{k:Nat}(hk:k<=p.size)(i:Nat):at' (kas_rev p 0 k) i=if i<k then at' p (k-1-i)else at' p i:=by
 have e:=getElem?_mirror_all (xs:=p) (i:=0) (j:=k) hk i;show(kas_rev p 0 k).getD i 0=_;have g:∀(q:Array Nat) (j:Nat),q.getD j 0=(q[j]?).getD 0:=λq j=>by simp
 rw[g];unfold kas_rev;rw[e];by_cases hi:i<k
 ·rw[aw ⟨eY _,hi⟩,aw hi,<- g,show 0+k-1-i=k-1-i by omega]
 ·rw[ay (by omega),ay hi,<- g]
theorem zQ{p:Array Nat}(h:Pm n p)(k:Nat):Pm n (kas_rev p 0 k):=⟨(mirror_perm _ _ _ _).trans h.pm⟩
theorem Cb{p:Array Nat}(h:Pm n p){k:Nat}(h1:1<=k)(h2:k<=n)(s:Dd lt p k):fU n lt (kas_tail3 k n p) λr=>Pm n r.2/\1<=r.1/\r.1<=n/\Sd lt r.2 r.1:=by
 have sz:k<=p.size:=by rw[h.size];exact h2
 have s':Sd lt (kas_rev p 0 k) k:=λi j hij hj=>by
  rw[Dl O sz,Dl O sz,aw (by omega),aw hj];exact s _ _ (by omega) (by omega)
 refine nR (jc (λm hm=>?_) (vM O (zQ O h k) (n-k) k h1 (by omega) s'));exact⟨zQ O h k,by omega,by omega,hm.2.2.1⟩
theorem IB{p:Array Nat}(h:Pm n p){k:Nat}(h2:k+1<=n)(s:Dd lt p (k+1)):fU n lt (kas_descPart k n p) λr=>Pm n r.2/\1<=r.1/\r.1<=n/\Sd lt r.2 r.1:=by refine nR (jc (λr hr=>?_) (zj O h (n-(k+1)) (k+1) (by omega) (by omega) s));obtain⟨e1,l1,l2,e2,d⟩:=hr;rw[e2,ay (by omega),e1];exact Cb O h (by omega) (by omega) d
theorem IM{p:Array Nat}(h:Pm n p)(h1:1<=n):fU n lt (kas_count n p) λr=>Pm n r.2/\1<=r.1/\r.1<=n/\Sd lt r.2 r.1:=by
 refine nR (jc (λm hm=>?_) (vM O h (n-1) 1 (bg _) (by omega) (λi j hij hj=>by omega)));obtain⟨m1,m2,s,e⟩:=hm;by_cases hn:m=n
 ·rw[aw (by simpa using hn)];exact⟨h,m1,by omega,s⟩
 ·rw[ay (by simpa using hn)];have e:=e.resolve_left (by omega);by_cases hg:m>1
  ·rw[aw hg];refine⟨h.bd (by omega),h.bd (by omega),?_⟩;dsimp only;rw[show lt (p.getD 0 0) (p.getD (m-1) 0)=true from s 0 (m-1) (by omega) (by omega),aw rfl];exact⟨h,m1,by omega,s⟩
  ·rw[ay hg];obtain rfl:m=1:=by omega
   refine IB O h (by omega) λi j hij hj=>?_;obtain rfl:i=0:=by omega
   obtain rfl:j=1:=by omega
   exact e
theorem ug{p:Array Nat}(h:Pm n p){k:Nat}(hk:k<n)(s:Sd lt p k):∀(f l r:Nat),l<=r->r<=k->r-l<=f->(∀i,i<l->lt (at' p i) (at' p k)=true)->(∀i,r<=i->i<k->lt (at' p k) (at' p i)=true) ->
 fU n lt (kas_place p k f l r) λm=>m<=k/\(∀i,i<m->lt (at' p i) (at' p k)=true)/\(∀i,m<=i->i<k->lt (at' p k) (at' p i)=true)
 |0,l,r,h1,h2,h3,a,b=>by
  obtain rfl:l=r:=by omega
  exact⟨h2,a,b⟩
 |f+1,l,r,h1,h2,h3,a,b=>by
  unfold kas_place;by_cases g:l >= r
  ·rw[aw g];obtain rfl:l=r:=by omega
   exact⟨h2,a,b⟩
  ·rw[ay g];refine⟨h.bd hk,h.bd (by omega),?_⟩;cases e:lt (p.getD k 0) (p.getD ((l+r)/2) 0)with
   |true=>
    dsimp only;rw[aw rfl];refine ug h hk s f l ((l+r)/2) (by omega) (by omega) (by omega) a λi hi hk'=>?_;by_cases z:i=(l+r)/2
    ·subst z;exact e
    ·exact O.tr _ _ _ (h.bd hk) (h.bd (by omega)) (h.bd (by omega)) e (s _ _ (by omega) hk')
   |false=>
    dsimp only;rw[ay cN];have e':=not_lt O h hk (by omega) (by omega) e;refine ug h hk s f ((l+r)/2+1) r (by omega) h2 (by omega) (λi hi=>?_) b;by_cases z:i=(l+r)/2
    ·subst z;exact e'
    ·exact O.tr _ _ _ (h.bd (by omega)) (h.bd (by omega)) (h.bd hk) (s _ _ (by omega) (by omega)) e'
theorem zx{p:Array Nat}{k d:Nat}(hk:k<p.size)(hd:d<=k)(i:Nat):at' (bubble p k d) i=if i=k-d then at' p k else if k-d<i/\i<=k then at' p (i-1)else at' p i:=by
 have e:=getElem?_bubble hk d hd i;have g:∀(q:Array Nat) (j:Nat),q.getD j 0=(q[j]?).getD 0:=λq j=>by simp
 show(bubble p k d).getD i 0=_;rw[g,e];by_cases h1:i=k-d
 ·rw[aw h1,aw h1,<- g]
 ·rw[ay h1,ay h1];by_cases h2:k-d<i/\i<=k
  ·rw[aw h2,aw h2,<- g]
  ·rw[ay h2,ay h2,<- g]
theorem z8:∀(f:Nat) (p:Array Nat) (k:Nat),Pm n p->k+f<=n->Sd lt p k->fU n lt (kas_bin f p k) λq=>Pm n q/\Sd lt q (k+f)
 |0,p,k,h,_,s=>⟨h,s⟩
 |f+1,p,k,h,hk,s=>by
  have sz:k<p.size:=by rw[h.size];omega
  refine nR (jc (λl hl=>?_) (ug O h (by omega) s k 0 k (by omega) (bg _) (by omega) (λi hi=>by omega) (λi h1 h2=>by omega)));obtain⟨l1,lo,hi⟩:=hl;have s':Sd lt (bubble p k (k-l)) (k+1):=λi j hij hj=>by
   rw[zx O sz (d:=k-l) (by omega),zx O sz (d:=k-l) (by omega),show k-(k-l)=l by omega];by_cases c1:i=l
   ·rw[aw c1,ay (by omega),aw (by omega)];exact hi _ (by omega) (by omega)
   ·rw[ay c1];by_cases c2:l<i/\i<=k
    ·rw[aw c2,ay (by omega),aw (by omega)];exact s _ _ (by omega) (by omega)
    ·rw[ay c2];by_cases c3:j=l
     ·rw[aw c3];exact lo _ (by omega)
     ·rw[ay c3];by_cases c4:l<j/\j<=k
      ·rw[aw c4];exact s _ _ (by omega) (by omega)
      ·rw[ay c4];exact s _ _ (by omega) (by omega)
  refine jc (λq hq=>⟨hq.1,?_⟩) (z8 f (bubble p k (k-l)) (k+1) ⟨(bubble_perm _ _ _).trans h.pm⟩ (by omega) s');rw[show k+(f+1)=k+1+f by omega];exact hq.2
theorem FF(h1:1<=n):fU n lt (kas_sort n) λq=>Pm n q/\Sd lt q n:=by
 refine nR (jc (λr hr=>?_) (IM O ⟨EA _⟩ h1));obtain⟨pm,r1,r2,s⟩:=hr;by_cases hl:r.1<n
 ·rw[aw hl];refine jc (λq hq=>⟨hq.1,?_⟩) (z8 O (n-max r.1 1) r.2 (max r.1 1) pm (by omega) (by rw[show max r.1 1=r.1 by omega];exact s));rw[show n=max r.1 1+(n-max r.1 1)by omega];exact hq.2
 ·rw[ay hl];exact⟨pm,by rw[show n=r.1 by omega];exact s⟩
end
end So
namespace So
open PySem PySem.W PyProof.Rows PySem.MeetsSeq3
def bv:List Int->List Int->Bool
 |[],[]=>false
 |[],_::_=>true
 |_::_,[]=>false
 |a::r,b::t=>if a==b then bv r t else decide (a<b)
section
variable{prog:bb}{w:aT}{Ar:br}
theorem BL{vs:List ag}{ns:List Int}(h:ip vs ns):∀{i:Nat} {n:Int},ns[i]? = ab n->∃t,vs[i]? = ab (.int n t):=by
 induction h with
 |nil=>intro i n e;simp at e
 |cons a t h ih=>
  intro i n e;cases i with
  |zero=>simp at e;subst e;exact⟨t,rfl⟩
  |succ i=>exact ih (by simpa using e)
theorem JF{R:Result->ak->Prop}{s:ak}{l b:ah}{us vs:List ag}{xs ys:List Int}{o o2:Obj}{n n2:Nat}(ho:s.heap.get? l=ab o)(hd:o.data=.seq us.toArray n)(ho2:s.heap.get? b=ab o2)(hd2:o2.data=.seq vs.toArray n2)(hu:ip us xs)(hv:ip vs ys) :
 ∀(k i:Nat),xs.length-i<=k->i<=xs.length->i<=ys.length->R (.ok (.ret (.bool (bv (xs.drop i) (ys.drop i))))) s->codeAny (model prog w) Ar (.builtin "list.__eq__.loop" ⟨[.ref l,.ref b,rawInt i,rawInt 0],[]⟩) R s:=by
 have l1:=hu.length;have l2:=hv.length;have gx:∀i,i<xs.length->∃t,us.toArray[i]? = ab (.int (xs.getD i 0) t):=λi hi=>by
  obtain⟨t,e⟩:=BL hu (i:=i) (n:=xs.getD i 0) (by simp[hi]);exact⟨t,by simpa using e⟩
 have gy:∀i,i<ys.length->∃t,vs.toArray[i]? = ab (.int (ys.getD i 0) t):=λi hi=>by
  obtain⟨t,e⟩:=BL hv (i:=i) (n:=ys.getD i 0) (by simp[hi]);exact⟨t,by simpa using e⟩
 have nx:∀i,¬ i<xs.length->us.toArray[i]? = ae:=λi hi=>by simp;omega
 have ny:∀i,¬ i<ys.length->vs.toArray[i]? = ae:=λi hi=>by simp;omega
 have EG:∀i,i=xs.length->i<=ys.length->decide (us.toArray.size<vs.toArray.size)=bv (xs.drop i) (ys.drop i):=λi hi hj=>by
  rw[wW (by omega:xs.length<=i),bF,bF,l1,l2];by_cases h:i<ys.length
  ·rw[l9 h];simp[bv];omega
  ·rw[wW (by omega:ys.length<=i)];simp[bv];omega
 have Ld:∀i,i<xs.length->i=ys.length->decide (us.toArray.size<vs.toArray.size)=bv (xs.drop i) (ys.drop i):=λi hi hj=>by
  rw[wW (by omega:ys.length<=i),l9 hi,bF,bF,l1,l2];simp[bv];omega
 have fin:∀(i:Nat),(us.toArray[i]? = ae\/vs.toArray[i]? = ae)->R (.ok (.ret (.bool (decide (us.toArray.size<vs.toArray.size))))) s->codeAny (model prog w) Ar (.builtin "list.__eq__.loop" ⟨[.ref l,.ref b,rawInt i,rawInt 0],[]⟩) R s:=λi hn h=>by
  refine codeAny_builtin entry_eq_loop (by
   rw[Ez t8 _];unfold jw.«list.__eq__.loop»;show wpAny _ _ (Es (.ref l) >>= _) _ _ _;refine aA (iW ho hd (aA (iW ho2 hd2 ?_)));simp only[jz];rcases hn with e|e
   ·rw[e];dsimp only;refine aA (iW ho hd (aA (iW ho2 hd2 ?_)));exact bo h
   ·rw[e];cases us.toArray[i]? <;>
    ·dsimp only;refine aA (iW ho hd (aA (iW ho2 hd2 ?_)));exact bo h)
 intro k
 induction k with
 |zero=>
  intro i hk h1 h2 h;refine fin i (.inl (nx i (by omega))) ?_;rw[EG i (by omega) h2];exact h
 |succ k ih=>
  intro i hk h1 h2 h;by_cases hi:i<xs.length
  ·by_cases hj:i<ys.length
   ·obtain⟨t,e1⟩:=gx i hi;obtain⟨u,e2⟩:=gy i hj;have dx:xs.drop i=xs.getD i 0::xs.drop (i+1):=by rw[l9 hi];simp[hi]
    have dy:ys.drop i=ys.getD i 0::ys.drop (i+1):=by rw[l9 hj];simp[hj]
    rw[dx,dy]at h;refine codeAny_builtin entry_eq_loop (by
     rw[Ez t8 _];unfold jw.«list.__eq__.loop»;show wpAny _ _ (Es (.ref l) >>= _) _ _ _;refine aA (iW ho hd (aA (iW ho2 hd2 ?_)));simp only[jz];rw[e1,e2];dsimp only;refine aA (wpAny_eqBool_int ?_);cases hb:(xs.getD i 0==ys.getD i 0)with
     |true=>
      rw[aw rfl];rw[bv,hb,aw rfl]at h;refine bo ⟨plainId_quiet t8 _,?_⟩;have:=ih (i+1) (by omega) hi hj h;rw[show rawInt ((i+1:Nat):Int)=rawInt ((i:Int)+1)from by rw[show((i+1:Nat):Int)=(i:Int)+1 by omega]]at this;exact this
     |false=>
      rw[ay cN];rw[bv,hb,ay cN]at h;refine aA (iW ho hd (aA (iW ho2 hd2 ?_)));rw[e1,e2];show wpAny _ _ (richCompare .Lt _ _ >>= _) _ _ _;exact aA (show wpAny _ _ (compareOp .Lt _ _) _ _ _ from wpAny_lt_int (bo h)))
   ·refine fin i (.inr (ny i hj)) ?_;rw[Ld i hi (by omega)];exact h
  ·refine fin i (.inl (nx i hi)) ?_;rw[EG i (by omega) h2];exact h
theorem Ja{E:ag->ak->Prop}{s:ak}{l b:ah}{us vs:List ag}{xs ys:List Int}{o o2:Obj}{n n2:Nat}{Q:Bool->ak->Prop}(ho:s.heap.get? l=ab o)(hc:o.cls=.type "list")(hd:o.data=.seq us.toArray n)(ho2:s.heap.get? b=ab o2)(hc2:o2.cls=.type "list")(hd2:o2.data=.seq vs.toArray n2)(hu:ip us xs)(hv:ip vs ys)
 (hun:Ar.units<cLine) (h:Q (bv xs ys) s):wpAny (model prog w) Ar (keyLt' oneType' (.ref l) (.ref b)) Q E s:=by
 have t1:s.TypeIs (.ref l) "list" := ⟨_,ho,hc⟩;have t2:s.TypeIs (.ref b) "list" := ⟨_,ho2,hc2⟩;rw[keyLt'_oneType,oneLt'_eq];simp only[gN];refine aA (wpAny_cRoomFor hun ?_);refine aA (wpAny_callSpecialIfBound?_slot t1 xB (wpAny_call (codeAny_call_builtin xB.plain PySem.F.entry_list_lt (xB.check _ _ _ _ _ _ _ _ t1 (PySem.F.args_list_lt_2 _ _) ?_))));unfold jw.«list.__lt__»;have sub:isSubtype (.type "list") (.type "list")=pure true:=by rw[isSubtype_type];kernel_rfl
 show wpAny _ _ (isInstance (.ref b) (.type "list") >>= _) _ _ _;refine aA (wpAny_isInstance t2 sub ?_);refine bo ⟨plainId_quiet t8 _,?_⟩;refine JF ho hd ho2 hd2 hu hv xs.length 0 (by omega) (eY _) (eY _) ?_;exact nY h
end
end So
namespace So
end So
namespace L2
end L2
namespace So
theorem pR:∀{a b:List Int},a≠b->bv a b=true\/bv b a=true
 |[],[],h=>absurd rfl h
 |[],_::_,_=>.inl rfl
 |_::_,[],_=>.inr rfl
 |a::r,b::t,h=>by
  rw[bv,bv];by_cases e:a=b
  ·subst e;simp only[jQ,gN];exact pR λz=>h (by rw[z])
  ·have e':¬ b=a:=λz=>e z.symm;simp only[jN,e,e',fO,jT];omega
theorem py:∀{a b:List Int},bv a b=true->bv b a=false
 |[],[],h=>by simp[bv]at h
 |[],_::_,_=>rfl
 |_::_,[],h=>by simp[bv]at h
 |a::r,b::t,h=>by
  rw[bv]at h ⊢;by_cases e:a=b
  ·subst e;simp only[jQ,gN]at h ⊢;exact py h
  ·have e':¬ b=a:=λz=>e z.symm;simp only[jN,e,e',fO,jT,na]at h ⊢;omega
theorem qY:∀{a b c:List Int},bv a b=true->bv b c=true->bv a c=true
 |[],[],_,h,_=>by simp[bv]at h
 |[],_::_,[],_,h=>by simp[bv]at h
 |[],_::_,_::_,_,_=>rfl
 |_::_,[],_,h,_=>by simp[bv]at h
 |_::_,_::_,[],_,h=>by simp[bv]at h
 |a::r,b::t,c::u,h,k=>by
  rw[bv]at h k ⊢;by_cases e:a=b
  ·subst e;simp only[jQ,gN]at h;by_cases f:a=c
   ·subst f;simp only[jQ,gN]at k ⊢;exact qY h k
   ·simp only[jN,f,fO]at k ⊢;exact k
  ·simp only[jN,e,fO,jT]at h;by_cases f:b=c
   ·subst f;simp only[jN,e,fO,jT];exact h
   ·simp only[jN,f,fO,jT]at k;have:¬ a=c:=by omega
    simp only[jN,this,fO,jT];omega
def mO(kz:List (List Int))(i j:Nat):Bool:=bv (kz.getD i []) (kz.getD j [])
theorem Gq{kz:List (List Int)}(nd:kz.Nodup):sS kz.length (mO kz):=by
 have inj:∀i j,i<kz.length->j<kz.length->i≠j->kz.getD i []≠kz.getD j []:=λi j hi hj ne e=>by
  rw[dv,c7 hi,dv,c7 hj]at e;exact ne ((j6 nd).mp e)
 exact⟨λi j hi hj ne=>pR (inj i j hi hj ne),λi j _ _ h=>py h,λi j k _ _ _ h g=>qY h g⟩
end So
namespace L2
open PySem PySem.Spec PyProof.Rows A So
variable[Tb:a7]
end L2
namespace L2
open PySem PySem.Spec PyProof.Rows A So
variable[Tb:a7]
section
variable{X:Cx}{af:List (ah×Obj)}{σ:St}{H:Hp}{s:ak}
theorem adopt{fp:List ah}{D:ah}{o:HO}{h':aI}{t':Nat}(I:Inv X af σ H s)(hf:∀b∈fp,gQ X af H b)(hD:D∈fp)(k:∀b u,b∉fp->s.heap.get? b=ab u->h'.get? b=ab u)
 (new:bN X.prog X.w (upd H D o) h' D o):Inv X af σ (upd H D o) { s with heap:=h',toks:=t' }:=by
 have hn:H D=ae:=(hf D hD).1;have nfp:∀b u,H b=ab u->b∉fp:=λb u e z=>by rw[(hf b z).1]at e;cases e
 refine I.call' (s':={ s with heap:=h',toks:=t' }) (ch:=fp) rfl ⟨λb u e _ _ hb=>k b u hb e,λb u e _ _ hb=>⟨u.slots,k b u hb e⟩,λb u e hb hx=>?_,λb u e hb=>⟨u,k b u hb e⟩,λb xs e=>?_,λb q u e=>?_,λb w ps e=>⟨#[],?_⟩⟩ ?_ I.bare
  λb hb=>⟨(hf b hb).2.2.2.1,(hf b hb).2.1,(hf b hb).2.2.2.2.1,(hf b hb).2.2.2.2.2⟩
 ·rw[aQ (λz=>hx (by rw[z];exact hD))];exact hb
 ·rw[aQ (cI e hn)];exact e
 ·rw[aQ (cI e hn)];exact e
 ·rw[aQ (cI e hn),e];simp
 ·intro b u e;by_cases hb:b=D
  ·subst hb;rw[b9]at e;cases e;exact new
  ·rw[aQ hb]at e;refine(I.hok b u e).stay (λc v hc q=>k c v ?_ q) (λc q=>by rw[aQ (cI q hn)];exact q) λc xs q=>by rw[aQ (cI q hn)];exact q
   rcases hc with z|z
   ·rw[z];exact nfp b u e
   ·exact nfp c _ z
theorem zv:∀{ns:List Int} {ai:List ag},Vals (ns.map V.int) ai->ip ai ns
 |[],_,.nil=>.nil
 |n::r,_,.cons h t=>by
  obtain⟨t1,rfl⟩:=h;exact .cons n t1 (zv t)
end
end L2
namespace Mi
open PySem
def u9:D->Option (List Str)
 |.tup ds=>iC ds
 |.lst ds=>iC ds
 |_=>ae
def rY(x y:D):Rs D:=match y with
 |.str z=>(cA (u9 x)).bind λys=>a6 (z∈ys/\ys.length<=1000) (.ok (.int (ys.idxOf z:Nat)))
 |_=>.no
def je:List D->Option (List Int)
 |[]=>ab []
 |.int i::r=>(je r).map (i :: ·)
 |_=>ae
end Mi
namespace A
open PySem L2 PyProof.Rows
open Mi (D W Rs Fin ao Out Tg)
variable[Tb:a7]
section
variable{prog:bb}{w:aT}{Ar:br}
theorem vS(x y:Str)(t u:Tok):Eu (.str x t) (.str y u) (x.cps.toList==y.cps.toList):=K8 x y t u
theorem qJ{ys:List Str}{us:List ag}(r:Vals (ys.map V.str) us){i:Nat}(h:i<ys.length):∃t,us[i]? = ab (.str (ys.getD i dS) t):=by
 have e:(ys.map V.str)[i]? = ab (.str (ys.getD i dS)):=by simp[h]
 obtain⟨u,e2,r2⟩:=r.get e;obtain⟨t,rfl⟩:=r2;exact⟨t,e2⟩
theorem At{ys:List Str}{z:Str}(h:z∈ys):ys.idxOf z<ys.length/\ys.getD (ys.idxOf z) dS=z/\∀m,m<ys.idxOf z->ys.getD m dS≠z:=by
 have hl:=List.idxOf_lt_length_of_mem h;refine⟨hl,by simp[hl],λm hm e=>?_⟩;have:m<ys.length:=Nat.lt_trans hm hl;have e2:ys[m]=z:=by simpa [this]using e
 have:=List.not_of_lt_findIdx (p:=(· == z)) (xs:=ys) (i:=m) hm;simp[e2]at this
theorem J4{E:ag->ak->Prop}{s:ak}{t:ah}{us:List ag}{ys:List Str}{z:Str}{tz:Tok}{Q:ag->ak->Prop}(ht:IsTup s.heap t us.toArray)(r:Vals (ys.map V.str) us)(hz:z∈ys)
 (h:Q (.int (ys.idxOf z:Nat) s.toks) { s with toks:=s.toks+1 }):wpAny (model prog w) Ar (call (.builtin "tuple.index") [.ref t,.str z tz]) Q E s:=by
 obtain⟨h1,h2,h3⟩:=At hz;have hl:=r.length;rw[aS]at hl;refine mn Ea ht.typeIs PySem.F.entry_tuple_index ?_ (PySem.F.args_tuple_index_2 _ _);show wpAny _ _ (Builtin.Tuple.tupleItemsOf (.ref t) >>= _) _ _ s;refine aA (tupleItemsOf_ ht ?_);refine aA (bo (aA (bo ?_)));dsimp only;rw[xE];have hsz:([0:min us.toArray.size us.toArray.size]:Std.Legacy.Range).size=us.length:=by simp[Std.Legacy.Range.size]
 rw[hsz];show wpAny _ _ (forIn (List.range' 0 us.length 1) _ _ >>= _) _ _ _;have go:∀(k i:Nat),ys.idxOf z=i+k->∀(G:Option qw×Unit->ak->Prop),G (ab (.done (.ret (.int (ys.idxOf z:Nat) s.toks))),()) { s with toks:=s.toks+1 } ->
  wpAny (model prog w) Ar.in1 (forIn (List.range' i (us.length - i) 1) ((ae, ()) : Option qw × Unit) fun (i : Nat) (__s : Option qw × Unit) => (match us.toArray[i]? with
          | some y=>do
           let b <- eqBool y (ke z tz)
           if b=true then do
            let r <- retInt (i:Int)
            pure (ForInStep.done (ab r,()))
            else pure (jA (ae,()))
          |x=>pure (jA (ae,())):Sem (ForInStep (Option qw×Unit)))) G E s:=by
  intro k
  induction k with
  |zero=>
   intro i hi G hG;have hlt:i<us.length:=by omega
   obtain⟨t1,e1⟩:=qJ r (i:=i) (by omega);rw[show us.length-i=(us.length-i-1)+1 by omega,List.range'_succ,mm];have e2:us.toArray[i]? = ab (.str (ys.getD i dS) t1):=by simpa using e1
   rw[e2];have hz2:ys.getD i dS=z:=by rw[<- h2,hi];rfl
   rw[hz2];refine aA (aA (vS z z t1 tz prog w _ _ _ _ ?_));simp only[jQ,gN];refine aA (aA (wpAny_mkInt (bo (bo ?_))));rw[show(i:Nat)=ys.idxOf z from hi.symm];exact bo hG
  |succ k ih=>
   intro i hi G hG;have hlt:i<us.length:=by omega
   obtain⟨t1,e1⟩:=qJ r (i:=i) (by omega);rw[show us.length-i=(us.length-(i+1))+1 by omega,List.range'_succ,mm];have e2:us.toArray[i]? = ab (.str (ys.getD i dS) t1):=by simpa using e1
   rw[e2];have hz2:=h3 i (by omega);refine aA (aA (vS _ z t1 tz prog w _ _ _ _ ?_));have:((ys.getD i dS).cps.toList==z.cps.toList)=false:=by
    rw[sC];intro e;apply hz2;cases hq:ys.getD i dS with
    | mk c=>cases z with
     |mk d=>
      rw[hq]at e;have:c=d:=oi.mp e;rw[this]
   rw[this];simp only[n9,fO];exact bo (ih (i+1) (by omega) G hG)
 refine aA (go (ys.idxOf z) 0 (by omega) _ ?_);exact bo ⟨_,rfl,h⟩
theorem Jb{E:ag->ak->Prop}{s:ak}{t:ah}{us:List ag}{ys:List Str}{z:Str}{tz:Tok}{n:Nat}{Q:ag->ak->Prop}(ht:s.heap.get? t=ab { cls:=.type "list", data:=.seq us.toArray n })(r:Vals (ys.map V.str) us)(hz:z∈ys)(hl:ys.length<=1000)
 (h:Q (.int (ys.idxOf z:Nat) s.toks) { s with toks:=s.toks+1 }):wpAny (model prog w) Ar (call (.builtin "list.index") [.ref t,.str z tz]) Q E s:=by
 obtain⟨h1,h2,h3⟩:=At hz;have hlu:=r.length;rw[aS]at hlu;let e:ag->Bool:=λy=>match y with
  |.str a _=>a.cps.toList==z.cps.toList
  |_=>false
 have he:∀y,y∈us.toArray->Eu y (.str z tz) (e y):=λy hy=>by
  obtain⟨i,hi⟩:=me (by simpa using hy:y∈us);have hil:=(cM.mp hi).1;obtain⟨t1,e1⟩:=qJ r (i:=i) (by omega);rw[e1]at hi;cases hi;exact vS _ z t1 tz
 have ei:∀i (hi:i<us.toArray.size),e us.toArray[i]=decide (ys.getD i dS=z):=λi hi=>by
  have hi':i<us.length:=by simpa using hi
  obtain⟨t1,e1⟩:=qJ r (i:=i) (by omega);have:us.toArray[i]=.str (ys.getD i dS) t1:=by have:=(cM.mp e1).2;simpa using this
  rw[this];show((ys.getD i dS).cps.toList==z.cps.toList)=_;by_cases q:ys.getD i dS=z
  ·rw[q];simp
  ·rw[bw q,sC];intro y;apply q;cases hq:ys.getD i dS with
   | mk c=>cases z with
    |mk d=>
     rw[hq]at y;have:c=d:=oi.mp y;rw[this]
 refine nZ Eb ⟨_,ht,rfl⟩ PySem.F.entry_list_index (PySem.F.args_list_index_2 _ _) (PySem.MeetsSeq.list_index t us.toArray n (.str z tz) e he (ys.idxOf z) (by simp;omega) (by omega) (by rw[ei];simp only[h2];simp) (λm hm hj=>by rw[ei];simp only[h3 m hj];simp)) ⟨ht,h⟩
end
section
variable{X:Cx}{K:aB}{M:Nat->Bool}{to ta tb:TE}{t:TA}{o e:aO}{es:List aO}{apos cpos:Pos}{a b:Mi.E}
theorem FH:j3 X "tuple.index" (λx xs H Q=>∃(p:ah) (ys:List Str) (z:Str),x=.ref p/\xs=[.str z]/\z∈ys/\H p=ab (.tup (ys.map V.str))/\Q (.int (ys.idxOf z:Nat)) H):=by intro af s σ H x xs v us Q I rx rv h;obtain⟨p,ys,z,rfl,rfl,hz,hp,q⟩:=h;cases rx;obtain⟨u,rfl,ru⟩:=vals1 rv;obtain⟨tz,rfl⟩:=ru;obtain⟨ai,r,pt,_⟩:=I.tuple (.inl (.inl hp));exact J4 pt r hz ⟨.int _,H,I.tok _,⟨_,rfl⟩,q⟩
theorem Jj:j3 X "list.index" (λx xs H Q=>∃(p:ah) (ys:List Str) (z:Str),x=.ref p/\xs=[.str z]/\z∈ys/\ys.length<=1000/\Lst H p (ys.map V.str)/\Q (.int (ys.idxOf z:Nat)) H):=by intro af s σ H x xs v us Q I rx rv h;obtain⟨p,ys,z,rfl,rfl,hz,hl,hp,q⟩:=h;cases rx;obtain⟨u,rfl,ru⟩:=vals1 rv;obtain⟨tz,rfl⟩:=ru;obtain⟨ai,n,r,_,ho⟩:=lL I hp;exact Jb ho r hz hl ⟨.int _,H,I.tok _,⟨_,rfl⟩,q⟩
def yR(K:aB)(T2:String)(r1 r2:V->List V->Hp->VK->Prop)(to:TE)(t:TA):TE:=λσ H Q=>to σ H λx H1=>((∃p xs,x=V.ref p/\H1 p=ab (.tup xs))/\t σ H1 λxs H2=>r1 x xs H2 Q)\/(q9 K T2 x H1/\t σ H1 λxs H2=>r2 x xs H2 Q)
theorem Ga{T2 id1 id2:String}{r1 r2:V->List V->Hp->VK->Prop}{name:Str}(a8:tL "tuple")(slot1:Slot "tuple" name id1)(Le:typeOf (.builtin id1)=pure (.type "method_descriptor"))(hm1:j3 X id1 r1)
 (pa2:tL T2) (Lf:Slot T2 name id2) (Lg:typeOf (.builtin id2)=pure (.type "method_descriptor")) (hm2:j3 X id2 r2) (ho:PE X o to) (ha:PA X (e::es) t)
 (hbase:attributeBase o name X.env (eval o X.env)=eval o X.env:=by rfl)
 (hfew:((backTo cpos (starEach (e::es) X.env)).all (λx=>!x.1)&&(backToKw cpos (keywordEach [] X.env)).all (λx=>x.1.isSome)
  && decide ((e::es).length+([]:List Keyword).length+(if([]:List Keyword).isEmpty then 0 else 1)<30))=true:=by rfl)
 (hline:(apos.endLine==cpos.line)=true:=by rfl) (hs:starEach (e::es) X.env=(false,eval e X.env)::starEach es X.env:=by rfl) (hplain:(backTo cpos (starEach es X.env)).any (·.1)=false:=by rfl) :
 PE X (.Call (.Attribute o name apos) (e::es) [] cpos) (yR X.K T2 r1 r2 to t):=by
 intro af s σ H Q I h;refine D1 hbase hfew hline rfl (aK (ho af s σ H _ I h) λv s1 ⟨x,H1,I1,rx,q⟩=>?_);rcases q with ⟨ty,q1⟩|⟨ty,q1⟩
 ·obtain⟨p,xs,rfl,hp⟩:=ty;cases rx;have h12:s1.TypeIs (.ref p) "tuple" /\ ∀a,cr p=.ref a->∃ob,s1.heap.get? a=ab ob/\ob.dict=ae:=by
   obtain⟨_,ai,_,ob,e1,e2,e3,_⟩:=(show bN X.prog X.w H1 s1.heap p (.tup xs)from I1.hok p _ hp);exact⟨⟨ob,e1,e2⟩,λa z=>by cases z;exact⟨ob,e1,e3⟩⟩
  obtain⟨h1,h2⟩:=h12;have rx:RelV (.ref p) (cr p):=rfl;refine⟨"tuple", id1,a8,slot1,Le,h1,h2,?_⟩;have hA:=ha cpos af s1 σ H1 _ I1 q1;rw[hs]at hA ⊢;refine tZ (by show(false||(backTo cpos (starEach es X.env)).any (·.1))=false;rw[hplain]<;>rfl) (xG ?_);exact aK hA λus s2 ⟨vs,H2,I2,r2',q2⟩=>hm1 af s2 σ H2 _ vs _ us Q I2 rx r2' q2
 ·obtain⟨h1,h2⟩:=vy I1 rx ty;refine⟨T2,id2,pa2,Lf,Lg,h1,h2,?_⟩;have hA:=ha cpos af s1 σ H1 _ I1 q1;rw[hs]at hA ⊢;refine tZ (by show(false||(backTo cpos (starEach es X.env)).any (·.1))=false;rw[hplain]<;>rfl) (xG ?_);exact aK hA λus s2 ⟨vs,H2,I2,r2',q2⟩=>hm2 af s2 σ H2 x vs v us Q I2 rx r2' q2
end
end A
namespace So
end So
namespace A
end A
namespace L2
open PySem PySem.Spec PyProof.Rows A So
end L2
namespace A
open PySem L2 PyProof.Rows So
open Mi (D W Rs Fin ao Out Tg)
variable[Tb:a7]
section
variable{K:aB}{M:Nat->Bool}{ta tb:TE}{a b:Mi.E}
def Ct:V->List V->Hp->VK->Prop:=λx xs H Q=>∃(p:ah) (ys:List Str) (z:Str),x=.ref p/\xs=[.str z]/\z∈ys/\H p=ab (.tup (ys.map V.str))/\Q (.int (ys.idxOf z:Nat)) H
def zS:V->List V->Hp->VK->Prop:=λx xs H Q=>∃(p:ah) (ys:List Str) (z:Str),x=.ref p/\xs=[.str z]/\z∈ys/\ys.length<=1000/\Lst H p (ys.map V.str)/\Q (.int (ys.idxOf z:Nat)) H
theorem GO{X:Cx}:j3 X "tuple.index" Ct:=FH
theorem G1{X:Cx}:j3 X "list.index" zS:=Jj
theorem JD(ha:AE M qP ta a)(hb:AE M qP tb b):AE M qV (yR K "list" Ct zS ta (fh tb fT)) (Mi.m2 Mi.rY a b):=λe σ H Hv Q I h=>
 ha e σ H Hv _ I ((ao.mp h).mono λx hx v H1 Hv1 g1 rx=>by
  obtain⟨y,hy,hk⟩:=gn (ao.mp hx);cases y with
  |str z=>
   obtain⟨ys,ey,q1⟩:=gH (ao.mp hk);obtain⟨⟨hz,hl⟩,q2⟩:=Mi.cc q1;have q3:=Mi.jI q2;clear hk q1 q2 hx;cases x with
   |tup ds=>
    obtain⟨p,us,rfl,l,_,r⟩:=RD.tup g1.vw rx;have:=rj ey r;subst this;refine .inl ⟨⟨p,_,rfl,l⟩,hb e σ H1 Hv1 _ (I.grow g1) ?_⟩;rw[hy];intro v2 H2 Hv2 g2 ry;cases RD.str ry;exact⟨p,ys,z,rfl,rfl,hz,g2.old.at l,q3 _ _ _ (g1.trans g2) fM⟩
   |lst ds=>
    obtain⟨p,us,rfl,l,r⟩:=RD.lst g1.vw rx;have:=rj ey r;subst this;refine .inr ⟨.inl ⟨rfl,_,l.sq⟩,hb e σ H1 Hv1 _ (I.grow g1) ?_⟩;rw[hy];intro v2 H2 Hv2 g2 ry;cases RD.str ry;exact⟨p,ys,z,rfl,rfl,hz,hl,l.old g2.old,q3 _ _ _ (g1.trans g2) fM⟩
   |_=>cases ey
  |_=>exact hk.elim)
end
end A
namespace Mi
end Mi
namespace A
open PySem L2 PyProof.Rows So
open Mi (D W Rs Fin ao Out Tg)
variable[Tb:a7]
end A
namespace L2
end L2
namespace L2
end L2
namespace L2
end L2
namespace Mi
open PySem
def iw{α:Type}(r:Rs α)(k:α->Prop)(x:hJ->Prop):Prop:=match r with
 |.ok a=>k a
 |.ex z=>x z
 |.no=>False
theorem kD{α β:Type}{r:Rs α}{f:α->Rs β}{k:β->Prop}{x:hJ->Prop}:iw (r.bind f) k x↔iw r (λa=>iw (f a) k x) x:=by cases r<;>exact bq
end Mi
namespace A
open PySem L2 PyProof.Rows So
open Mi (D W Rs Fin iw ao kD Out Tg hJ)
variable[Tb:a7]
end A
namespace L2
end L2
namespace L2
end L2
namespace L2
open PySem PySem.Spec PyProof.Rows
end L2
namespace Mi
open PySem
end Mi
namespace A
open PySem L2 PyProof.Rows So
open Mi (D W Rs Fin iw ao kD Out Tg hJ)
variable[Tb:a7]
end A
namespace PySem.W
end PySem.W
namespace L2
open PySem PySem.Spec PyProof.Rows
open A (oP)
end L2
namespace Mi
open PySem
end Mi
namespace A
open PySem L2 PyProof.Rows So
open Mi (D W Rs Fin iw ao kD Out Tg hJ)
variable[Tb:a7]
end A
namespace Mi
open PySem
def uW(x:Str):Str:=⟨PySem.placed x λ_ c=>Unicode.upperOf c⟩
end Mi
namespace L2
open PySem PySem.Spec PyProof.Rows
end L2
namespace A
open PySem L2 PyProof.Rows So
open Mi (D W Rs Fin ao)
variable[Tb:a7]
end A
namespace Mi
def nN(m:S):S:=λe=>match m e with
 |.ok (.rt w)=>.ok (.rt w)
 |_=>.no
end Mi
namespace A
open PySem L2 PyProof.Rows So
open Mi (D W Rs Fin ao Out Tg)
variable[Tb:a7]
section
variable{M:Nat->Bool}{κ:Kd}{t:TS}{m:Mi.S}
theorem FT(y:Nat)(hy:M y=true)(h:AS (λj=>M j && !(j==y)) κ t m):AS M κ t (Mi.nN m):=λH0 Hv0 e σ H Hv D I f=>by
 have nb:∀{j:Nat},(M j && !(j==y))=false->M j=false\/j=y:=λ{j} z=>by
  cases q:M j with
  |false=>exact .inl rfl
  |true=>rw[q]at z;exact .inr (by simpa using z)
 have nt:∀{j:Nat},(M j && !(j==y))=true->M j=true/\j≠y:=λ{j} z=>by simpa using z
 have fin:∀Hv',aY H0 Hv0 H Hv'->R0 (λj=>M j && !(j==y)) e σ H Hv'->t D σ H:=λHv' gw R=>by
  refine h H0 Hv0 e σ H Hv' D ⟨R,gw,λi w a q1 q2 q3=>I.fresh i w a q1 (nt q2).1 q3,λi j w w' a b hij q1 q2 q3 q4 q5 q6=>I.sep i j w w' a b hij q1 q2 (nt q3).1 (nt q4).1 q5 q6⟩ ?_;unfold Mi.nN at f;cases hm:m e with
  |no=>rw[hm]at f;exact f.elim
  |ex z=>rw[hm]at f;exact f.elim
  |ok o=>
   rw[hm]at f;cases o with
   |rt w=>exact f
   |nx e2=>exact f.elim
   |bk e2=>exact f.elim
   |ct e2=>exact f.elim
 have other:(∀w0,e[y]?≠ab (ab w0))->t D σ H:=λae=>fin Hv I.gw ⟨I.vw,I.len,λj w' z q=>by
  rcases nb q with q|rfl
  ·exact I.nob j w' z q
  ·exact absurd z (ae w'),λj w' z q=>I.own j w' z (nt q).1⟩
 cases he:e[y]? with
 |none=>exact other λw0 z=>by rw[he]at z;cases z
 |some ow=>
  cases ow with
  |none=>exact other λw0 z=>by rw[he]at z;cases z
  |some w0=>
   obtain⟨p,Hv',q,I',s,r⟩:=I.C7 hy he;refine fin Hv' I'.gw ⟨I'.vw,I.len,λj w' z q2=>?_,λj w' z q2=>?_⟩
   ·by_cases hj:j=y
    ·subst hj;rw[he]at z;cases z;exact⟨_,q,r⟩
    ·exact I'.nob j w' (by rw[dN (dI hj)];exact z) ((nb q2).resolve_right hj)
   ·obtain⟨m1,hj⟩:=nt q2;exact I'.own j w' (by rw[dN (dI hj)];exact z) m1
end
end A
namespace Mi
open PySem
theorem uF{α:Type}{le:α->α->Prop}(EH:∀a b,le a b->le b a->a=b):∀(l m:List α),l.Perm m->l.Pairwise le->m.Pairwise le->l=m
 |[],m,h,_,_=>h.symm.eq_nil.symm
 |a::r,[],h,_,_=>nomatch h.eq_nil
 |a::r,b::t,h,hl,hm=>by
  have l1:=tq.mp hl;have m1:=tq.mp hm;have e:a=b:=by
   rcases bJ.mp (h.mem_iff.mp (cn ..))with z|z
   ·exact z
   ·rcases bJ.mp (h.mem_iff.mpr (cn ..))with y|y
    ·exact y.symm
    ·exact EH _ _ (l1.1 b y) (m1.1 a z)
  subst e;rw[uF EH r t ((List.perm_cons a).mp h) l1.2 m1.2]
end Mi
namespace L2
open PySem PySem.Spec PyProof.Rows
end L2
namespace A
open PySem L2 PyProof.Rows So
open Mi (D W Rs Fin ao)
variable[Tb:a7]
end A
namespace Mi
open PySem
end Mi
namespace A
open PySem L2 PyProof.Rows So
open Mi (D W Rs Fin iw ao kD Out Tg hJ)
variable[Tb:a7]
end A
namespace L2
open PySem PySem.Spec PyProof.Rows
section
variable{pr:bb}{wo:aT}{Ar:br}{Ex:ag->ak->Prop}
theorem AG{it l:ah}{zs:Array ag}(ne:l≠it):∀(k j:Nat) (z:ak) (R:List ag->ak->Prop),z.heap.IsListIter it l j->z.heap.IsList l zs->j+k<=zs.size ->
 (∀g,g.IsListIter it l (j+k)->mo it z.heap g->R ((zs.toList.drop j).take k) { z with heap:=g })->wpAny (model pr wo) Ar (draw (.ref it) k) R Ex z
 |0,j,z,R,a,_,_,q=>by
  show wpAny _ _ (pure []) R Ex z;refine bo ?_;have:=q z.heap a (Heap.SameBut.refl ..);simpa using this
 |k+1,j,z,R,a,b,c,q=>by
  have lt:j<zs.size:=by omega
  show wpAny _ _ (pyNext (.ref it) >>= _) R Ex z;refine aA (DZ a b (x:=zs[j]) (by simp[lt]) λg1 a1 b1=>aA (jv ?_));refine AG ne k (j+1) _ _ a1 (b.extBut b1.extBut ne) (by omega) λg2 a2 b2=>bo ?_;have e:zs.toList.drop j=zs[j]::zs.toList.drop (j+1):=by simp[l9,lt]
  have r:=q g2 (by rw[show j+(k+1)=j+1+k by omega];exact a2) (b1.trans b2);rw[e,List.take_succ_cons]at r;exact r
theorem E6{l:ah}{zs:Array ag}{z:ak}{R:List ag->ak->Prop}(h0:Ar.handled=ae)(b:z.heap.IsList l zs)(q:∀g,xt z.heap.objs.size z.heap g->R zs.toList { z with heap:=g }) :
 wpAny (model pr wo) Ar (unpackItems (.ref l) zs.size ae) R Ex z:=by
 have ne:l≠z.heap.objs.size:=by obtain⟨o,ho,_⟩:=b;exact f9 (bG ho)
 unfold unpackItems notIterableAtAll;refine aA (aA (tH b.typeIs PySem.F.slot_list_iter.lookup (bo ?_)));simp only[n9,fO];refine aA (jv (xj b ?_));refine aA (jv (AG ne zs.size 0 _ _ ⟨_,d9 _ rfl,rfl,rfl⟩ (b.push _) (by omega) λg1 a1 b1=>?_));rw[show List.take zs.size (List.drop 0 zs.toList)=zs.toList by rw[qq];exact qk (by simp),ay (by simp)];have c1:g1.IsList l zs:=(b.push _).extBut b1.extBut ne;refine aA (jv (wpAny_pyNext_list_end h0 a1 c1 (by simp) λg2 b2=>?_));simp only[Option.isSome_none,n9,fO];exact bo (q g2 λd o hd e=>b2 d o hd (b1.extBut d o hd (cG _ e)))
end
end L2
namespace Mi
open PySem
def qd(is:List Nat)(a:E):S:=λe=>(a e).bind λd=>match d with
 |.lst ds=>(kY is ds e).bind λe'=>.ok (.nx e')
 |_=>.no
end Mi
namespace A
open PySem L2 PyProof.Rows So
open Mi (D W Rs Fin ao Out Tg)
variable[Tb:a7]
section
variable{X:Cx}{pos:Pos}
def zX(n:Nat)(t:jh):TG:=λv σ H Q=>∃a xs,v=.ref a/\Lst H a xs/\xs.length=n/\t xs σ H Q
theorem JT{es:List aO}{k:Nat}{t:jh}{n:Nat}(hc:X.calm=true)(h:L2.pQ X es t)(hn:(assignEach es X.env).length=n:=by rfl)(hst:(assignEach es X.env).findIdx? (·.1)=ae:=by rfl):L2.PG X (.Tuple es k pos) (zX n t):=by
 intro af s σ H v u Q I r hw;obtain⟨a,xs,e1,hq,hl,hw⟩:=hw;subst e1;cases r;obtain⟨ai,n0,rv,hz,ho⟩:=lL I hq;have hli:=rv.length;rw[assign_Tuple];refine aA (tI ?_);unfold unpack;rw[hn,hst];have sz:n=ai.toArray.size:=by rw[bF];omega
 rw[sz];refine aA (jv (E6 (I.ok.hd hc) ⟨_,ho,rfl,_,rfl⟩ λg hx=>?_));have I1:Inv X af σ H { s with heap:=g }:=I.kept (t':=s.toks) λb o e=>hx b o (f9 (bG e)) e;exact h af _ σ H xs _ Q I1 (by simpa using rv) hw
end
section
variable{M:Nat->Bool}{κ:Kd}{te:TE}{a:Mi.E}
theorem Kc(is:List Nat)(hm:∀i∈is,M i=false)(ha:AE M qV te a):AS M κ (ib te (zX is.length (sx is))) (Mi.qd is a):=λH0 Hv0 e σ H Hv D I h=>
 ha e σ H Hv _ I.toR0 ((ao.mp h).mono λd hd v H1 Hv1 g1 r=>by
  cases d with
  |lst ds=>
   obtain⟨p,xs,rfl,l,rr⟩:=iM.mp r;have hd:=ao.mp (show Fin (Rs.bind (Mi.kY is ds e) _) _ from hd);have I2:=I.grow g1;refine⟨p,xs,rfl,l.same g1.vw.sub,by rw[<- rr.len];exact vU hd,?_⟩;exact v9 (P:=λe1 σ1=>R1 M H0 Hv0 e1 σ1 H1 Hv1) (λi hi e1 σ1 d1 v1 p1 r1=>p1.set (hm i hi) r1) I2 rr (hd.mono λe' h' σ' p'=>h' σ' H1 Hv1 p' g1.vis)
  |_=>exact hd.elim)
end
end A
namespace Mi
open PySem
end Mi
namespace L2
open PySem PySem.Spec PyProof.Rows
end L2
namespace A
open PySem L2 PyProof.Rows
open Mi (D W Rs Fin ao)
variable[Tb:a7]
end A
namespace Mi
open PySem
end Mi
namespace L2
open PySem PySem.Spec PyProof.Rows
end L2
namespace A
open PySem L2 PyProof.Rows
open Mi (D W Rs Fin ao)
variable[Tb:a7]
end A
namespace Mi
open PySem
end Mi
namespace A
open PySem L2 PyProof.Rows So
open Mi (D W Rs Fin ao Out Tg)
variable[Tb:a7]
end A
namespace L2
end L2
namespace So
end So
namespace Mi
open PySem
def K4:Ky->D
 |.inl i=>.bl i
 |.inr x=>.str x
end Mi
namespace L2
end L2
namespace A
end A
namespace L2
end L2
namespace A
end A
namespace L2
end L2
namespace Rv
end Rv
namespace L2
end L2
namespace A
end A
namespace So
end So
namespace L2
end L2
namespace A
end A
namespace Mi
open PySem
end Mi
namespace L2
open PySem PySem.Spec PyProof.Rows
open PySem.Builtin PySem.Builtin.Str
end L2
namespace A
open PySem L2 PyProof.Rows So
open Mi (D W Rs Fin ao)
variable[Tb:a7]
end A
namespace Mi
open PySem
def GK(ys:List Str):Str:=ys.foldl (· ++ ·) dS
end Mi
namespace L2
open PySem PySem.Spec PyProof.Rows
end L2
namespace A
open PySem L2 PyProof.Rows So
open Mi (D W Rs Fin ao)
variable[Tb:a7]
end A
namespace Mi
end Mi
namespace A
open PySem L2 PyProof.Rows
open Mi (D W Rs Fin ao)
variable[Tb:a7]
end A
namespace Mi
end Mi
namespace A
open PySem L2 PyProof.Rows
open Mi (D W Rs Fin ao)
variable[Tb:a7]{M:Nat->Bool}{κ:Kd}{tr:TA}{a b:Mi.E}
end A
namespace A
open PySem L2 PyProof.Rows
section
variable[Tb:a7]
def tv(Hv:Hp):Hp:=λa=>match Hv a with
 |some (.tup xs)=>ab (.tup xs)
 |some (.frz o u)=>ab (.frz o u)
 |_=>ae
theorem qL{Hv:Hp}{a:ah}{o:HO}(h:tv Hv a=ab o):Hv a=ab o:=by
 unfold tv at h;cases q:Hv a with
 |none=>rw[q]at h;cases h
 |some u=>
  rw[q]at h;cases u<;>first|exact h|cases h
theorem ux{Hv:Hp}{a:ah}{xs:List V}(h:Hv a=ab (.tup xs)):tv Hv a=ab (.tup xs):=by unfold tv;rw[h]
theorem BI{Hv:Hp}{a:ah}{o:Obj}{u:HO}(h:Hv a=ab (.frz o u)):tv Hv a=ab (.frz o u):=by unfold tv;rw[h]
theorem vI{Hv:Hp}{a:ah}{o:HO}(h:tv Hv a=ab o):(∃xs,o=.tup xs)\/∃b u,o=.frz b u:=by
 unfold tv at h;cases q:Hv a with
 |none=>rw[q]at h;cases h
 |some u=>
  rw[q]at h;cases u<;>first|(cases h;exact .inl ⟨_,rfl⟩)|(cases h;exact .inr ⟨_,_,rfl⟩)|cases h
theorem Vw.tv{H Hv:Hp}(v:Vw H Hv):Vw H (tv Hv):=⟨λa o h=>v.sub a o (qL h),λa xs h=>ux (v.tup a xs h),λa o u h=>BI (v.frz a o u h),v.cd,λa o h=>v.nv a o (qL h)⟩
def jn(Hv Hv':Hp):Hp:=λa=>match Hv a with
 |some o=>ab o
 |none=>Hv' a
theorem m3{Hv Hv':Hp}{a:ah}{o:HO}(h:Hv a=ab o):jn Hv Hv' a=ab o:=by unfold jn;rw[h]
theorem nk{Hv Hv':Hp}{a:ah}(h:Hv a=ae):jn Hv Hv' a=Hv' a:=by unfold jn;rw[h]
theorem aY.join{H Hv H' Hv':Hp}(v:Vw H Hv)(g:aY H (A.tv Hv) H' Hv'):aY H Hv H' (jn Hv Hv'):=by
 have up:∀{a o},Hv a=ab o->H' a=ab o:=λ{a o} h=>g.old.nt a o (v.sub a o h) (v.nv a o h);refine⟨g.old,λa o h=>m3 h,⟨λa o h=>?_,λa xs h=>?_,λa o u h=>?_,g.vw.cd,λa o h=>?_⟩,λa o h n=>?_⟩
 ·cases q:Hv a with
  |none=>rw[nk q]at h;exact g.vw.sub a o h
  |some u=>rw[m3 q]at h;cases h;exact up q
 ·cases q:Hv a with
  |none=>rw[nk q];exact g.vw.tup a xs h
  |some u=>rw[m3 q];have:=up q;rw[h]at this;exact this.symm
 ·cases q:Hv a with
  |none=>rw[nk q];exact g.vw.frz a o u h
  |some w=>rw[m3 q];have:=up q;rw[h]at this;exact this.symm
 ·cases q:Hv a with
  |none=>rw[nk q]at h;exact g.vw.nv a o h
  |some u=>rw[m3 q]at h;cases h;exact v.nv a o q
 ·rw[nk n];refine g.hid a o h ?_;unfold A.tv;rw[n]
theorem aY.lists{H Hv H' Hv':Hp}(g:aY H (A.tv Hv) H' Hv'){a:ah}{xs:List V}(h:Hv' a=ab (.lst xs)):H a=ae:=by
 cases q:H a with
 |none=>rfl
 |some o=>
  cases z:A.tv Hv a with
  |none=>rw[g.hid a o q z]at h;cases h
  |some u=>
   have e:=g.vis a u z;rw[h]at e;cases e;rcases vI z with ⟨_,k⟩|⟨_,_,k⟩<;>cases k
theorem Kg{H Hv H' Hv':Hp}(v:Vw H Hv)(g:aY H (A.tv Hv) H' Hv'):b8 Hv' (jn Hv Hv'):=λa o h=>by
 cases q:Hv a with
 |none=>rw[nk q];exact h
 |some u=>
  rw[m3 q];have:=g.old.nt a u (v.sub a u q) (v.nv a u q);rw[g.vw.sub a o h]at this;exact this.symm
end
end A
namespace A
open PySem L2 PyProof.Rows
open Mi (D)
mutual
def fP:D->Bool
 |.lst _=>false
 |.tup ds=>kw ds
 |_=>true
def kw:List D->Bool
 |[]=>true
 |d::r=>fP d&&kw r
end
section
variable[Tb:a7]
mutual
theorem Ci{Hv:Hp}:∀{d:D} {v:V},fP d=true->Rep Hv d v->Rep (tv Hv) d v
 |.non,v,_,h=>by rw[Rep]at h ⊢;exact h
 |.bl b,v,_,h=>by rw[Rep]at h ⊢;exact h
 |.int i,v,_,h=>by rw[Rep]at h ⊢;exact h
 |.str x,v,_,h=>by rw[Rep]at h ⊢;exact h
 |.lst ds,v,n,h=>by rw[fP]at n;cases n
 |.tup ds,v,n,h=>by
  rw[Rep]at h ⊢;rw[fP]at n;obtain⟨a,xs,e,q,r⟩:=h;exact⟨a,xs,e,ux q,A4 n r⟩
theorem A4{Hv:Hp}:∀{ds:List D} {vs:List V},kw ds=true->aX Hv ds vs->aX (tv Hv) ds vs
 |[],vs,_,h=>by rw[aX]at h ⊢;exact h
 |d::ds,vs,n,h=>by
  rw[aX]at h ⊢;rw[kw,fJ]at n;obtain⟨v,r,e,p,q⟩:=h;exact⟨v,r,e,Ci n.1 p,A4 n.2 q⟩
end
def kp(Hv H:Hp):Hp:=λa=>match Hv a with
 |some o=>ab o
 |none=>tv H a
theorem pP{Hv H:Hp}{a:ah}{o:HO}(h:Hv a=ab o):kp Hv H a=ab o:=by unfold kp;rw[h]
theorem oG{Hv H:Hp}{a:ah}(h:Hv a=ae):kp Hv H a=tv H a:=by unfold kp;rw[h]
def i6(H H1 H2:Hp):Prop:=∀a,H2 a=H1 a\/(H a=ae/\(∃xs,H1 a=ab (.lst xs))/\∃ys,H2 a=ab (.lst ys))
theorem i6.refl{H H1:Hp}:i6 H H1 H1:=λ_=>.inl rfl
theorem i6.put{H H1 H2:Hp}(e:i6 H H1 H2){p:ah}{xs ys:List V}(h:H p=ae)(q:H2 p=ab (.lst xs)):i6 H H1 (upd H2 p (.lst ys)):=λa=>by
 by_cases z:a=p
 ·subst z;refine .inr ⟨h,?_,_,b9⟩;rcases e a with k|⟨_,k,_⟩
  ·exact⟨xs,by rw[<- k];exact q⟩
  ·exact k
 ·rw[aQ z];exact e a
theorem aY.emptied{H Hv H1 Hv1 H2:Hp}(v:Vw H Hv)(g:aY H Hv H1 Hv1)(e:i6 H H1 H2):aY H Hv H2 (kp Hv H2):=by
 have keep:∀{a o},H a=ab o->H2 a=H1 a:=λ{a o} h=>by
  rcases e a with k|⟨k,_⟩
  ·exact k
  ·rw[h]at k;cases k
 have same:∀{a o},H1 a=ab o->(∀xs,o≠.lst xs)->H2 a=ab o:=λ{a o} h n=>by
  rcases e a with k|⟨_,⟨xs,k⟩,_⟩
  ·rw[k];exact h
  ·rw[h]at k;cases k;exact absurd rfl (n xs)
 have back:∀{a o},H2 a=ab o->(∀xs,o≠.lst xs)->H1 a=ab o:=λ{a o} h n=>by
  rcases e a with k|⟨_,_,ys,k⟩
  ·rw[<- k];exact h
  ·rw[h]at k;cases k;exact absurd rfl (n ys)
 have up:∀{a o},Hv a=ab o->H2 a=ab o:=λ{a o} h=>by
  rw[keep (v.sub a o h)];exact g.old.nt a o (v.sub a o h) (v.nv a o h)
 refine⟨⟨λa o h n=>?_,λa h=>?_,λa w ps h=>?_⟩,λa o h=>pP h,⟨λa o h=>?_,λa xs h=>?_,λa o u h=>?_,⟨λr hr=>?_,λT q ps h=>?_,λa o xs h=>?_⟩,λa o h=>?_⟩,λa o h n=>?_⟩
 ·rw[keep h];exact g.old.nt a o h n
 ·rcases e a with k|⟨k,_⟩
  ·rw[k]at h;exact g.old.dom a h
  ·exact k
 ·rw[keep h];exact g.old.tb a w ps h
 ·cases q:Hv a with
  |none=>rw[oG q]at h;exact qL h
  |some u=>rw[pP q]at h;cases h;exact up q
 ·cases q:Hv a with
  |none=>rw[oG q];exact ux h
  |some u=>rw[pP q];have:=up q;rw[h]at this;exact this.symm
 ·cases q:Hv a with
  |none=>rw[oG q];exact BI h
  |some w=>rw[pP q];have:=up q;rw[h]at this;exact this.symm
 ·obtain⟨ps,k⟩:=g.vw.cd.has r hr;exact⟨ps,same k (λ_ z=>by cases z)⟩
 ·obtain⟨t,k⟩:=g.vw.cd.cd T q ps (back h (λ_ z=>by cases z));refine⟨t,λpos x z=>?_⟩;obtain⟨c,c1,c2⟩:=k pos x z;exact⟨c,c1,same c2 (λ_ z=>by cases z)⟩
 ·exact g.vw.cd.fz a o xs (back h (λ_ z=>by cases z))
 ·cases q:Hv a with
  |none=>
   rw[oG q]at h;rcases vI h with ⟨_,k⟩|⟨_,_,k⟩<;>subst k<;>trivial
  |some u=>rw[pP q]at h;cases h;exact v.nv a o q
 ·rw[oG n];cases z:tv H2 a with
  |none=>rfl
  |some u=>
   exfalso;have e1:=qL z;rw[keep h]at e1;rcases vI z with ⟨xs,k⟩|⟨b,w,k⟩
   ·subst k;by_cases t:NT o
    ·have:=g.old.nt a o h t;rw[e1]at this;cases this;rw[v.tup a xs h]at n;cases n
    ·cases o<;>first|exact t trivial|skip
     obtain⟨_,y⟩:=g.old.tb a _ _ h;rw[e1]at y;cases y
   ·subst k;by_cases t:NT o
    ·have:=g.old.nt a o h t;rw[e1]at this;cases this;rw[v.frz a b w h]at n;cases n
    ·cases o<;>first|exact t trivial|skip
     obtain⟨_,y⟩:=g.old.tb a _ _ h;rw[e1]at y;cases y
end
end A
namespace A
open PySem L2 PyProof.Rows
section
variable{K:aB}{i j:Nat}{D:Ends}{Hc:Hp}[Tb:a7]
def lj(Hc H:Hp)(l:ah)(x:V):Prop:=∃q ys,x=.ref q/\H q=ab (.lst ys)/\q≠l/\Hc q=ae
theorem lj.put{H:Hp}{l q:ah}{x:V}{ys:List V}(h:lj Hc H l x):lj Hc (upd H q (.lst ys)) l x:=by
 obtain⟨p,zs,e,h1,h2,h3⟩:=h;by_cases z:p=q
 ·subst z;exact⟨p,ys,e,b9,h2,h3⟩
 ·exact⟨p,zs,e,by rw[aQ z];exact h1,h2,h3⟩
theorem Jr(ij:i≠j){xs:List V}{l:ah}{σ:L2.St}{H:Hp}(hi:σ[i]? = ab (ab (.ref l)))(hj:j < σ.length)(hl:H l=ab (.lst xs))(hx:∀x∈xs,lj Hc H l x)
 (h:∀(σ':L2.St) H',σ'.length = σ.length->(∀k,k≠j->σ'[k]? = σ[k]?)->i6 Hc H H'->H' l=ab (.lst xs)->D.nx σ' H') :
 pc (nK K (cO i)) (fe j) (iE (lS K "list" mP (cO j))) D σ H:=by
 refine .inl ⟨_,hi,l,rfl,⟨xs,.inl (.inl hl)⟩,?_⟩;let W:Nat->Nat->L2.St->Hp->Prop:=λn m σ' H'=>m=xs.length-n/\n<=xs.length/\σ'.length = σ.length/\(∀k,k≠j->σ'[k]? = σ[k]?)/\i6 Hc H H'/\H' l=ab (.lst xs)/\∀x∈xs,lj Hc H' l x;refine⟨W,⟨xs.length,rfl,eY _,rfl,λ_ _=>rfl,i6.refl,hl,hx⟩,?_⟩;rintro n m σ' H' ⟨rfl,hn,e1,e2,e3,e4,e5⟩;by_cases c:n<xs.length
 ·refine .inr ⟨⟨xs,xs[n],.inl (.inl e4),c7 c⟩,λσ2 H2=>W (n+1) (xs.length-(n+1)) σ2 H2,λσ2 H2 w=>⟨_,by omega,w⟩,?_⟩;rintro x H2 ⟨rfl,y⟩;have hxn:=y xs (.inl (.inl e4));obtain⟨q,ys,rfl,q1,q2,q3⟩:=e5 x (iT hxn);refine⟨.ref q,by rw[js (by rw[e1];exact hj)],.inl ⟨rfl,ys,.inl (.inl q1)⟩,q,ys,rfl,rfl,q1,rfl,c,?_,?_,e3.put q3 q1,?_,λz hz=>(e5 z hz).put⟩
  ·rw[f8];exact e1
  ·intro k hk;rw[dN (dI hk)];exact e2 k hk
  ·rw[aQ (dI q2)];exact e4
 ·exact .inl ⟨⟨xs,.inl (.inl e4),by omega⟩,h σ' H' e1 e2 e3 e4⟩
theorem KW(ij:i≠j){xs:List V}{l:ah}{σ:L2.St}{H:Hp}(hi:σ[i]? = ab (ab (.ref l)))(hj:j < σ.length)(hl:H l=ab (.lst xs))(hc:Hc l=ae)(hx:∀x∈xs,lj Hc H l x){t:TS}
 (h:∀(σ':L2.St) H',σ'.length = σ.length->(∀k,k≠j->σ'[k]? = σ[k]?)->i6 Hc H H'->t D σ' H') :
 kj (pc (nK K (cO i)) (fe j) (iE (lS K "list" mP (cO j)))) (kj (iE (lS K "list" mP (cO i))) t) D σ H:=by
 refine Jr ij hi hj hl hx λσ' H' e1 e2 e3 e4=>?_;refine⟨.ref l,by rw[e2 i ij];exact hi,.inl ⟨rfl,xs,.inl (.inl e4)⟩,l,xs,rfl,rfl,e4,?_⟩;exact h σ' _ e1 e2 (e3.put hc e4)
end
end A
namespace Mi
def nI:Option W->Option W
 |some (.d d)=>if A.fP d=true then ab (.d d)else ae
 |_=>ae
theorem Fo:∀{o:Option W} {w:W},nI o=ab w->∃d,w=.d d/\A.fP d=true/\o=ab (.d d):=λ{o w} h=>by
 cases o with
 |none=>cases h
 |some u=>
  cases u with
  |d x=>
   by_cases z:A.fP x=true
   ·have h':(if A.fP x=true then ab (W.d x)else ae)=ab w:=h;rw[aw z]at h';injection h' with h';exact⟨x,h'.symm,z,rfl⟩
   ·have h':(if A.fP x=true then ab (W.d x)else ae)=ab w:=h;rw[ay z]at h';cases h'
  |_=>cases h
def kl(ks:List Nat):Nat->Env->Env
 |_,[]=>[]
 |n,o::r=>(if n∈ks then nI o else ae)::kl ks (n+1) r
def mY(ks:List Nat)(e:Env):Env:=kl ks 0 e
def freshD:D->Bool
 |.lst ds=>ds.all λy=>match y with|.lst (.str _::_)=>true|_=>false
 |_=>false
def pK(ks:List Nat)(i j:Nat)(a:E)(c:C)(f r:S):S:=λe=>
 (a (mY ks e)).bind λd=>if(freshD d&&decide (i<e.length)&&decide (j<e.length))=true then
  (c (e.set i (ab (.d d)))).bind λb=>if b=true then(f (e.set i (ab (.d d)))).bind (λo=>match o with|.rt w=>.ok (.rt w)|_=>.no)else r ((e.set i ae).set j ae)
 else .no
theorem BZ(ks:List Nat):∀(n:Nat) (e:Env),(kl ks n e).length=e.length
 |_,[]=>rfl
 |n,o::r=>by rw[kl,bW,bW,BZ ks (n+1) r]
theorem vf(ks:List Nat):∀(n:Nat) (e:Env) {k:Nat} {w:W},(kl ks n e)[k]? = ab (ab w)->n+k∈ks/\∃d,w=.d d/\A.fP d=true/\e[k]? = ab (ab (.d d))
 |_,[],k,w,h=>by rw[kl]at h;cases h
 |n,o::r,0,w,h=>by
  rw[kl,j5]at h;by_cases c:n∈ks
  ·rw[aw c]at h;injection h with h;obtain⟨d,e1,e2,e3⟩:=Fo h;exact⟨c,d,e1,e2,by rw[j5,e3]⟩
  ·rw[ay c]at h;cases h
 |n,o::r,k+1,w,h=>by
  rw[kl,jr]at h;obtain⟨h1,h2⟩:=vf ks (n+1) r h;exact⟨by rw[show n+(k+1)=n+1+k by omega];exact h1,by rw[jr];exact h2⟩
end Mi
namespace A
open PySem L2 PyProof.Rows
open Mi (D W Rs Fin ao Out)
section
variable[Tb:a7]{M:Nat->Bool}{κ:Kd}
theorem R0.mY{e:Mi.Env}{σ:L2.St}{H Hv:Hp}(I:R0 M e σ H Hv){ks:List Nat}(hk:∀k∈ks,M k=false):R0 M (Mi.mY ks e) σ H (tv Hv):=by
 refine⟨I.vw.tv,by rw[I.len];exact(Mi.BZ ks 0 e).symm,λk w h m=>?_,λk w h m=>?_⟩
 ·obtain⟨_,d,rfl,n,h⟩:=Mi.vf ks 0 e h;obtain⟨v,q,z⟩:=I.nob k _ h m;exact⟨v,q,Ci n z⟩
 ·obtain⟨h1,_⟩:=Mi.vf ks 0 e h;rw[eJ]at h1;rw[hk k h1]at m;cases m
theorem oJ{e:Mi.Env}{i j k:Nat}{w:W}(h:((e.set i ae).set j ae)[k]? = ab (ab w)):k≠i/\k≠j/\e[k]? = ab (ab w):=by
 have a:k≠j:=λz=>by
  subst z;rw[qm]at h;rw[aw rfl]at h;split at h<;>cases h
 rw[dN (dI a)]at h;have b:k≠i:=λz=>by
  subst z;rw[qm]at h;rw[aw rfl]at h;split at h<;>cases h
 rw[dN (dI b)]at h;exact⟨b,a,h⟩
theorem R1.IY{H0 Hv0:Hp}{e:Mi.Env}{σ σ':L2.St}{H Hv:Hp}{i j:Nat}(I:R1 M H0 Hv0 e σ H Hv)(hl:σ'.length = σ.length)(h:∀k,k≠i->k≠j->σ'[k]? = σ[k]?):R1 M H0 Hv0 ((e.set i ae).set j ae) σ' H Hv:=by
 refine⟨⟨I.vw,by rw[hl,I.len,f8,f8],λk w q m=>?_,λk w q m=>?_⟩,I.gw,λk w a q m z=>?_,λk k' w w' a b n q q' m m' z z'=>?_⟩
 ·obtain⟨n1,n2,q⟩:=oJ q;rw[h k n1 n2];exact I.nob k w q m
 ·obtain⟨n1,n2,q⟩:=oJ q;rw[h k n1 n2];exact I.own k w q m
 ·obtain⟨n1,n2,q⟩:=oJ q;rw[h k n1 n2]at z;exact I.fresh k w a q m z
 ·obtain⟨n1,n2,q⟩:=oJ q;obtain⟨n3,n4,q'⟩:=oJ q';rw[h k n1 n2]at z;rw[h k' n3 n4]at z';exact I.sep k k' w w' a b n q q' m m' z z'
end
end A
namespace A
open PySem L2 PyProof.Rows
open Mi (D W Rs Fin ao Out)
section
variable[Tb:a7]{M:Nat->Bool}{κ:Kd}
theorem JX:∀{d:D},Mi.freshD d=true->∃ds,d=.lst ds/\∀y∈ds,∃s r,y=.lst (.str s::r):=λ{d} h=>by
 cases d with
 |lst ds=>
  refine⟨ds,rfl,λy hy=>?_⟩;have:=fm.mp (show ds.all _=true from h) y hy;cases y with
  |lst zs=>
   cases zs with
   |nil=>cases this
   |cons z r=>cases z<;>first|exact⟨_,_,rfl⟩|cases this
  |_=>cases this
 |_=>cases h
theorem Ih{K:aB}{te:TE}{a:Mi.E}{tc:TT}{c:Mi.C}{tf tr:TS}{f r:Mi.S}(ks:List Nat)(i j:Nat)(ij:i≠j)(hk:∀k∈ks,M k=false)(hmi:M i=false)
 (ha:AE M qN te a) (hc:AT M tc c) (hf:AS M κ tf f) (hr:AS M κ tr r) :
 AS M κ (kj (ib te (fe i)) (kj (v5 tc tf uf) (kj (pc (nK K (cO i)) (fe j) (iE (lS K "list" mP (cO j)))) (kj (iE (lS K "list" mP (cO i))) tr)))) (Mi.pK ks i j a c f r):=λH0 Hv0 e σ H Hv D I h=>by
 refine ha (Mi.mY ks e) σ H (tv Hv) _ (I.toR0.mY hk) ((ao.mp h).mono λd hd v H1 Hv1 g k=>?_);by_cases cd:(Mi.freshD d&&decide (i<e.length)&&decide (j<e.length))=true
 case neg=>rw[ay cd]at hd;exact hd.elim
 rw[aw cd]at hd;rw[fJ,fJ,rV,rV]at cd;obtain⟨⟨cf,ci⟩,cj⟩:=cd;obtain⟨Hs,g',rep⟩:=vC g k;obtain⟨l,o,rfl,hn,hq,hz,hcell⟩:=k;obtain⟨ds,rfl,hds⟩:=JX cf;cases o with
 |lst xs=>
  have hp:P2 (Rep Hv1) ds xs:=hcell;have new:∀x∈xs,lj H H1 l x:=λx hx=>by
   obtain⟨n,hn1,hx1⟩:=List.mem_iff_getElem.mp hx;obtain⟨y,hy,ry⟩:=hp.uo (show xs[n]? = ab x by rw[c7 hn1,hx1]);obtain⟨z,w,rfl⟩:=hds y (iT hy);obtain⟨q,ys,rfl,lq,pq⟩:=iM.mp ry;cases pq with
   | @cons _ y0 _ yr p1 p2=>
    rw[lc]at p1;subst p1;rcases lq with lq|⟨ob,lq⟩
    ·exact⟨q,_,rfl,g.vw.sub _ _ lq,λz=>(by rw[z,hz]at lq;cases lq),g.lists lq⟩
    ·obtain⟨t,ht⟩:=g.vw.cd.fz q ob _ (g.vw.sub _ _ lq) _ (cn ..);cases ht
  have gj:=aY.join I.vw g';have I1:=(I.grow gj).set hmi (nM (Kg I.vw g') rep);refine hc _ _ _ _ _ I1.toR0 ((ao.mp hd).mono λb hb H2 Hv2 g2=>?_);cases b with
  |true=>
   refine hf H0 Hv0 _ _ H2 Hv2 _ (I1.grow g2) ((ao.mp hb).mono λo ho=>?_);cases o with
   |rt w=>exact ho
   |_=>exact ho.elim
  |false=>
   refine KW (Hc:=H) ij (l:=l) (xs:=xs) (js (by rw[I.len];exact ci)) (by rw[f8,I.len];exact cj) (g2.old.at hq) hn (λx hx=>?_) λσ' H3 e1 e2 em=>?_
   ·obtain⟨q,ys,q1,q2,q3,q4⟩:=new x hx;exact⟨q,ys,q1,g2.old.at q2,q3,q4⟩
   ·have gk:=aY.emptied I.vw (gj.trans g2) em;refine hr H0 Hv0 _ σ' H3 _ D ((I.grow gk).IY (by rw[e1,f8]) λk n1 n2=>?_) (Fin.mono hb λo z=>z.up gk.vis);rw[e2 k n2,dN (dI n1)]
 |_=>exact(show False from hcell).elim
end
end A
namespace L2
end L2
namespace Mi
end Mi
namespace A
end A
namespace L2
end L2
namespace Mi
end Mi
namespace L2
open PySem PySem.Spec PyProof.Rows
end L2
namespace A
open PySem L2 PyProof.Rows
open Mi (D W Rs Fin ao Tg)
variable[Tb:a7]{M:Nat->Bool}{κ:Kd}{K:aB}
end A
namespace Mi
def IP(b:Bool):Int:=if b=true then 1 else 0
end Mi
namespace So
open PySem PySem.W PyProof.Rows
open Mi (IP)
end So
namespace L2
end L2
namespace A
end A
namespace L2
end L2
namespace Mi
end Mi
namespace L2
open PySem PySem.Spec PyProof.Rows A
variable[Tb:a7]
end L2
namespace A
open PySem L2 PyProof.Rows
open Mi (D W Rs Fin ao)
variable[Tb:a7]{M:Nat->Bool}
end A
namespace PySem
end PySem
namespace PySem.W
end PySem.W
namespace PySem
end PySem
namespace L2
end L2
namespace L2
end L2
namespace Mi
open PySem
end Mi
namespace A
open PySem L2 PyProof.Rows So
open Mi (D W Rs Fin iw ao kD Out Tg hJ)
variable[Tb:a7]
end A
namespace L2
open PySem PySem.Spec PyProof.Rows
end L2
namespace Mi
open PySem
end Mi
namespace A
open PySem L2 PyProof.Rows So
open Mi (D W Rs Fin iw ao kD Out Tg hJ)
variable[Tb:a7]
end A
namespace PySem.W
end PySem.W
namespace L2
open PySem PySem.Spec PyProof.Rows
open A (oP)
end L2
namespace Mi
open PySem
end Mi
namespace A
open PySem L2 PyProof.Rows So
open Mi (D W Rs Fin iw ao kD Out Tg hJ)
variable[Tb:a7]
end A
namespace L2
open PySem PySem.Spec PyProof.Rows
open A (oP)
end L2
namespace Mi
open PySem
end Mi
namespace A
open PySem L2 PyProof.Rows So
open Mi (D W Rs Fin iw ao kD Out Tg hJ)
variable[Tb:a7]
end A
namespace Tm
open PySem PyProof.Rows
structure Wd(m:Type->Type)(K V σ:Type) where
 el:V->Nat->m K
 lt:K->K->m (Option Bool)
 no:∀{α:Type},String->m α
 rl:String->m Unit
 gt:m σ
 st:σ->m Unit
 md:(σ->σ)->m Unit
 gm:σ->Nat
 sm:Nat->σ->σ
 ar:σ->V
 pd:σ->Array (Nat×Nat×Nat)
 sp:Array (Nat×Nat×Nat)->σ->σ
 ok:σ->Bool
 sz:V->Nat
 ex:V->Nat->Nat->V
 pu:V->K->V
 ap:V->V->V
 rv:V->V
 on:K->V
 mi:Nat->Nat->m Unit
 bu:Nat->Nat->m Unit
 wr:Nat->V->m Unit
section
variable{m:Type->Type}[Monad m]{K V σ:Type}
def jj(w:Wd m K V σ)(lf:Bool)(key:K)(u:V)(at0 n h:Nat):m (Option Nat):=do
 let far (i:Nat):m (Option Bool):=do
  let x <- w.el u (at0+i)
  if lf then w.lt x key else return (<- w.lt key x).map (!·)
 let mut p:=0;let mut q:=1;let mut lo:=0;let mut hi:=0;let ab r <- far h|return ae
 if r then
  let mx:=n-h
  for _ in[0:n] do
   if q >= mx then break
   let ab k <- far (h+q)|return ae
   if !k then break
   p:=q
   q:=2*q+1
  lo:=h+p+1
  hi:=h+min q mx
 else
  let mx:=h+1
  for _ in[0:n] do
   if q >= mx then break
   let ab k <- far (h-q)|return ae
   if k then break
   p:=q
   q:=2*q+1
  lo:=h+1-min q mx
  hi:=h-p
 for _ in[0:n] do
  if lo >= hi then break
  let c:=lo+(hi-lo)/2;let ab k <- far c|return ae
  if k then lo:=c+1 else hi:=c
 return ab hi
def pD(w:Wd m K V σ)(u v:V):m V:=do
 w.rl "list.sort.merge-lo"
 let al:=w.sz u+w.sz v;let e1 (z:V) (i j:Nat):=w.ap (w.ap z (w.ex u i (w.sz u))) (w.ex v j (w.sz v));let e2 (z:V) (i j:Nat):=w.ap (w.ap z (w.ex v j (w.sz v))) (w.ex u i (w.sz u));let mut z:=w.on (<- w.el v 0);let mut i:=0;let mut j:=1
 if j==(w.sz v)then return e1 z i j
 if i+1==(w.sz u)then return e2 z i j
 let mut mg:=w.gm (<- w.gt)
 for _ in[0:al] do
  let mut nu:=0;let mut nv:=0
  for _ in[0:al] do
   let ab b <- w.lt (<- w.el v j) (<- w.el u i)|return e1 z i j
   if b then
    z:=w.pu z (<- w.el v j);j:=j+1;nv:=nv+1;nu:=0
    if j==(w.sz v)then return e1 z i j
    if nv >= mg then break
   else
    z:=w.pu z (<- w.el u i);i:=i+1;nu:=nu+1;nv:=0
    if i+1==(w.sz u)then return e2 z i j
    if nu >= mg then break
  w.rl "list.sort.gallop"
  mg:=mg+1
  for _ in[0:al] do
   if mg>1 then mg:=mg-1
   w.md (w.sm mg)
   let ab k <- jj w false (<- w.el v j) u i (w.sz u-i) 0|return e1 z i j
   nu:=k
   if k>0 then
    z:=w.ap z (w.ex u i (i+k));i:=i+k
    if i+1==(w.sz u)then return e2 z i j
    if i==(w.sz u)then return e1 z i j
   z:=w.pu z (<- w.el v j);j:=j+1
   if j==(w.sz v)then return e1 z i j
   let ab k <- jj w true (<- w.el u i) v j (w.sz v-j) 0|return e1 z i j
   nv:=k
   if k>0 then
    z:=w.ap z (w.ex v j (j+k));j:=j+k
    if j==(w.sz v)then return e1 z i j
   z:=w.pu z (<- w.el u i);i:=i+1
   if i+1==(w.sz u)then return e2 z i j
   if nu<7&&nv<7 then break
  mg:=mg+1
  w.md (w.sm mg)
 w.no "internal:list.sort.merge-bound"
def pJ(w:Wd m K V σ)(u v:V):m V:=do
 w.rl "list.sort.merge-hi"
 let al:=w.sz u+w.sz v;let e1 (z:V) (i j:Nat):=w.ap (w.ap (w.ex u 0 i) (w.ex v 0 j)) (w.rv z);let e2 (z:V) (i j:Nat):=w.ap (w.ap (w.ex v 0 j) (w.ex u 0 i)) (w.rv z);let mut i:=w.sz u-1;let mut j:=w.sz v;let mut z:=w.on (<- w.el u i)
 if i==0 then return e1 z i j
 if j==1 then return e2 z i j
 let mut mg:=w.gm (<- w.gt)
 for _ in[0:al] do
  let mut nu:=0;let mut nv:=0
  for _ in[0:al] do
   let ab b <- w.lt (<- w.el v (j-1)) (<- w.el u (i-1))|return e1 z i j
   if b then
    i:=i-1;z:=w.pu z (<- w.el u i);nu:=nu+1;nv:=0
    if i==0 then return e1 z i j
    if nu >= mg then break
   else
    j:=j-1;z:=w.pu z (<- w.el v j);nv:=nv+1;nu:=0
    if j==1 then return e2 z i j
    if nv >= mg then break
  w.rl "list.sort.gallop"
  mg:=mg+1
  for _ in[0:al] do
   if mg>1 then mg:=mg-1
   w.md (w.sm mg)
   let ab t <- jj w false (<- w.el v (j-1)) u 0 i (i-1)|return e1 z i j;let k:=i-t
   nu:=k
   if k>0 then
    z:=w.ap z (w.rv (w.ex u t i));i:=t
    if i==0 then return e1 z i j
   j:=j-1;z:=w.pu z (<- w.el v j)
   if j==1 then return e2 z i j
   let ab t <- jj w true (<- w.el u (i-1)) v 0 j (j-1)|return e1 z i j;let k:=j-t
   nv:=k
   if k>0 then
    z:=w.ap z (w.rv (w.ex v t j));j:=t
    if j==1 then return e2 z i j
    if j==0 then return e1 z i j
   i:=i-1;z:=w.pu z (<- w.el u i)
   if i==0 then return e1 z i j
   if nu<7&&nv<7 then break
  mg:=mg+1
  w.md (w.sm mg)
 w.no "internal:list.sort.merge-bound"
def mat(w:Wd m K V σ)(i:Nat):m Bool:=do
 let s <- w.gt;let (ab (x,nx,pw),ab (y,ny,_)):=((w.pd s)[i]?,(w.pd s)[i+1]?)|w.no "internal:list.sort.pending"
 w.st (w.sp (((w.pd s).setIfInBounds i (x,nx+ny,pw)).eraseIdxIfInBounds (i+1)) s)
 let ab k <- jj w false (<- w.el (w.ar s) y) (w.ar s) x nx 0|return false;let (x,nx):=(x+k,nx-k)
 if nx==0 then return true
 let ab ny <- jj w true (<- w.el (w.ar s) (x+nx-1)) (w.ar s) y ny (ny-1)|return false
 if ny==0 then return true
 let u:=w.ex (w.ar s) x y;let v:=w.ex (w.ar s) y (y+ny);let z <- if nx<=ny then pD w u v else pJ w u v
 w.wr x z
 return w.ok (<- w.gt)
def jW(w:Wd m K V σ)(i j:Nat):m (Option Bool):=do
 let a:=w.ar (<- w.gt)
 w.lt (<- w.el a i) (<- w.el a j)
def oZ(w:Wd m K V σ)(x c:Nat):m (Option Nat):=do
 let mut n:=1
 for _ in[1:c] do
  let ab b <- jW w (x+n) (x+n-1)|return ae
  if b then break
  n:=n+1
 if n==c then return ab n
 if n>1 then
  let ab b <- jW w x (x+n-1)|return ae
  if b then return ab n
  w.mi x (x+n)
 w.rl "list.sort.descending-run"
 n:=n+1
 let mut e:=0
 for _ in[n:c] do
  let ab b <- jW w (x+n) (x+n-1)|return ae
  if b then
   if e>0 then w.mi (x+n-(e+1)) (x+n)
   e:=0
  else
   let ab b <- jW w (x+n-1) (x+n)|return ae
   if b then break
   e:=e+1
  n:=n+1
 if e>0 then w.mi (x+n-(e+1)) (x+n)
 w.mi x (x+n)
 for _ in[n:c] do
  let ab b <- jW w (x+n) (x+n-1)|return ae
  if b then break
  n:=n+1
 return ab n
def bins(w:Wd m K V σ)(x n f:Nat):m Bool:=do
 for k in[max f 1:n] do
  let mut l:=0;let mut r:=k
  for _ in[0:k] do
   if l >= r then break
   let c:=(l+r)/2;let ab b <- jW w (x+k) (x+c)|return false
   if b then r:=c else l:=c+1
  w.bu (x+k) (x+l)
 return true
def runs(w:Wd m K V σ):m Unit:=do
 let sz:=w.sz (w.ar (<- w.gt));let mr:=minRun' sz sz 0;let mut x:=0
 for _ in[0:sz] do
  if x >= sz then break
  let ab f <- oZ w x (sz-x)|return;let mut n:=f
  if n<mr then
   w.rl "list.sort.binary-insertion"
   let f:=min (sz-x) mr
   if !(<- bins w x f n)then return
   n:=f
  if let ab (s1,n1,_):=(w.pd (<- w.gt)).back? then
   let pw:=power' sz (2*s1+n1) (2*s1+n1+n1+n) sz
   for _ in[0:sz] do
    let p:=w.pd (<- w.gt);let ab (_,_,od):=(if p.size>1 then p[p.size-2]? else ae)|break
    if od<=pw then break
    if !(<- mat w (p.size-2))then return
   w.md λs=>w.sp ((w.pd s).modify ((w.pd s).size-1) λ(st,len,_)=>(st,len,pw)) s
  w.md λs=>w.sp ((w.pd s).push (x,n,0)) s
  x:=x+n
 for _ in[0:sz] do
  let p:=w.pd (<- w.gt)
  if p.size<=1 then break
  let i:=p.size-2;let bf:=if i>0 then p[i-1]?.map (·.2.1)else ae;let i:=if bf.any (· < (p[i+1]?.elim 0 (·.2.1)))then i-1 else i
  if !(<- mat w i)then return
end
def JV:Bool->bM->Array bM->Nat->Nat->Nat->StateT dA Sem (Option Nat):=sortPriv% jw.gallop
def Io:Array bM->Array bM->StateT dA Sem (Array bM):=sortPriv% jw.mergeLo
def HU:Array bM->Array bM->StateT dA Sem (Array bM):=sortPriv% jw.mergeHi
def wS:Wd (StateT dA Sem) bM (Array bM) dA where
 el:=elem'
 lt:=lt'
 no:=λz=>unsupported z
 rl:=λz=>rule z
 gt:=get
 st:=set
 md:=modify
 gm:=gallopOf
 sm:=λg s=>jC (kindOf s) (arrOf s) (pendingOf s) g (failedOf s)
 ar:=arrOf
 pd:=pendingOf
 sp:=λp s=>setPending s p
 ok:=λs=>(failedOf s).isNone
 sz:=Array.size
 ex:=λu i j=>u.extract i j
 pu:=Array.push
 ap:=λu v=>u++v
 rv:=Array.reverse
 on:=λx=>#[x]
 mi:=reverseSlice'
 bu:=moveDown'
 wr:=λx z=>modify λs=>setArr s (z.toList.zipIdx.foldl (λa (p,j)=>a.setIfInBounds (x+j) p) (arrOf s))
theorem F6:JV=jj wS:=rfl
theorem Fq:Io=pD wS:=rfl
theorem JZ:HU=pJ wS:=rfl
theorem G7:mergeAt'=mat wS:=by funext i;unfold mat;rw[<- F6,<- Fq,<- JZ];rfl
theorem GP:countRun'=oZ wS:=rfl
theorem K3:binarySort'=bins wS:=rfl
theorem E7:sortRuns'=runs wS:=by unfold runs;rw[<- GP,<- K3,<- G7];rfl
end Tm
namespace Tm
open PySem PyProof.Rows
structure PS(K:Type) where
 a:List K
 pd:Array (Nat×Nat×Nat)
 mg:Nat
abbrev PM(K:Type):=StateT (PS K) Option
def wP{K:Type}(L:K->K->Bool):Wd (PM K) K (List K) (PS K) where
 el:=λu i=>λs=>(u[i]?).map (·,s)
 lt:=λx y=>λs=>ab (ab (L x y),s)
 no:=λ_=>λ_=>ae
 rl:=λ_=>λs=>ab ((),s)
 gt:=λs=>ab (s,s)
 st:=λs _=>ab ((),s)
 md:=λf s=>ab ((),f s)
 gm:=PS.mg
 sm:=λg s=>⟨s.a,s.pd,g⟩
 ar:=PS.a
 pd:=PS.pd
 sp:=λp s=>⟨s.a,p,s.mg⟩
 ok:=λ_=>true
 sz:=qr
 ex:=λu i j=>(u.drop i).take (j-i)
 pu:=λu x=>u++[x]
 ap:=λu v=>u++v
 rv:=List.reverse
 on:=λx=>[x]
 mi:=λi j s=>if i<=j/\j<=s.a.length then ab ((),⟨s.a.take i++((s.a.drop i).take (j-i)).reverse++s.a.drop j,s.pd,s.mg⟩)else ae
 bu:=λi j s=>if j<=i/\i<s.a.length then ab ((),⟨s.a.take j++(s.a[i]?).toList++(s.a.drop j).take (i-j)++s.a.drop (i+1),s.pd,s.mg⟩)else ae
 wr:=λx z s=>if x+z.length<=s.a.length then ab ((),⟨s.a.take x++z++s.a.drop (x+z.length),s.pd,s.mg⟩)else ae
def kq{K:Type}(L:K->K->Bool)(xs:List K):Option (List K):=(runs (wP L) ⟨xs,#[],7⟩).map λr=>r.2.a
section
variable{K:Type}
def stp{β α:Type}(f:β->α):ForInStep β->ForInStep α
 |.done x=>.done (f x)
 |.yield x=>.yield (f x)
variable{prog:bb}{w:aT}{A:br}{E:ag->ak->Prop}{s:ak}
def arr(it:K->bM)(u:List K):Array bM:=(u.map it).toArray
def up(κ:oh)(it:K->bM)(ps:PS K):dA:=jC κ (arr it ps.a) ps.pd ps.mg ae
theorem oQ(it:K->bM)(u:List K):(arr it u).size=u.length:=by unfold arr;rw[bF,aS]
theorem bU(it:K->bM)(u v:List K):arr it (u++v)=arr it u++arr it v:=by unfold arr;rw[eX,List.append_toArray]
theorem bT(it:K->bM)(u:List K):arr it u.reverse=(arr it u).reverse:=by unfold arr;rw[List.map_reverse,List.reverse_toArray]
theorem bO(it:K->bM)(u:List K)(i j:Nat):arr it ((u.drop i).take (j-i))=(arr it u).extract i j:=by apply oi.mp;rw[Array.toList_extract];unfold arr;simp only[xg,tD,List.extract_eq_take_drop]
theorem kQ(it:K->bM)(u:List K)(i:Nat):(arr it u)[i]? = (u[i]?).map it:=by unfold arr;rw[List.getElem?_toArray,de]
def R(M:Model)(A:br)(E:ag->ak->Prop)(s:ak)(κ:oh)(it:K->bM){α β:Type}(G:β->α)(m:StateT dA Sem α)(p:PM K β):Prop:=∀ps b ps',p ps=ab (b,ps')->∀Q:α->dA->Prop,Q (G b) (up κ it ps')->wpS M A E s m Q (up κ it ps)
variable{M:Model}{κ:oh}{it:K->bM}{α β α' β':Type}{G:β->α}{G':β'->α'}{L:K->K->Bool}
theorem R.pure{a:α}{b:β}(h:G b=a):R M A E s κ it G (Pure.pure a) (Pure.pure b):=λps b' ps' e Q q=>by
 cases e;subst h;exact wpS_pure q
theorem R.bind{m:StateT dA Sem α}{p:PM K β}{f:α->StateT dA Sem α'}{f':β->PM K β'}(h:R M A E s κ it G m p)(k:∀b,R M A E s κ it G' (f (G b)) (f' b)):R M A E s κ it G' (m >>= f) (p >>= f'):=λps b' ps' e Q q=>by
 have e:(p ps).bind (λr=>f' r.1 r.2)=ab (b',ps'):=e;cases h1:p ps with
 |none=>rw[h1]at e;cases e
 |some r=>
  rw[h1]at e;exact wpS_bind (h ps r.1 r.2 h1 _ (k r.1 r.2 b' ps' e Q q))
theorem R.ite{c c':Prop}[Decidable c][Decidable c']{m n:StateT dA Sem α}{p q:PM K β}(hc:c↔c')(h:R M A E s κ it G m p)(k:R M A E s κ it G n q):R M A E s κ it G (if c then m else n) (if c' then p else q):=by
 by_cases z:c
 ·rw[aw z,aw (hc.mp z)];exact h
 ·rw[ay z,ay (λy=>z (hc.mpr y))];exact k
theorem R.list{l:List Nat}{f:Nat->α->StateT dA Sem (ForInStep α)}{f':Nat->β->PM K (ForInStep β)}(h:∀x b,R M A E s κ it (stp G) (f x (G b)) (f' x b)):∀{a:α} {b:β},G b=a->R M A E s κ it G (forIn l a f) (forIn l b f'):=by
 induction l with
 |nil=>intro a b e;rw[xc,xc];exact R.pure e
 |cons x r ih=>
  intro a b e;subst e;rw[mm,mm];refine R.bind (h x b) λz=>?_;cases z with
  |done y=>exact R.pure rfl
  |yield y=>exact ih rfl
theorem R.range{i j:Nat}{f:Nat->α->StateT dA Sem (ForInStep α)}{f':Nat->β->PM K (ForInStep β)}{a:α}{b:β}(e:G b=a)(h:∀x b,R M A E s κ it (stp G) (f x (G b)) (f' x b)):R M A E s κ it G (forIn [i:j] a f) (forIn [i:j] b f'):=by rw[xE,xE];exact R.list h e
theorem R.el{u:List K}{i:Nat}:R M A E s κ it it (elem' (arr it u) i) ((wP L).el u i):=λps b ps' e Q q=>by
 have e:(u[i]?).map (·,ps)=ab (b,ps'):=e;rw[elem'_eq,kQ];cases h:u[i]? with
 |none=>rw[h]at e;cases e
 |some x=>
  rw[h]at e;cases e;exact wpS_pure q
theorem R.rl{z:String}:R M A E s κ it id (rule z:StateT dA Sem Unit) ((wP (K:=K) L).rl z):=λps b ps' e Q q=>by
 cases e;exact wpS_lift (wpAny_rule ⟨rfl,q⟩)
theorem R.md{f:dA->dA}{f':PS K->PS K}(h:∀ps,f (up κ it ps)=up κ it (f' ps)):R M A E s κ it id (modify f:StateT dA Sem Unit) ((wP L).md f'):=λps b ps' e Q q=>by
 cases e;exact tW (by rw[h];exact q)
theorem R.gt:R M A E s κ it (up κ it) (get:StateT dA Sem dA) ((wP (K:=K) L).gt):=λps b ps' e Q q=>by
 cases e;exact wpS_get q
theorem R.st{st:dA}{ps0:PS K}(h:st=up κ it ps0):R M A E s κ it id (set st:StateT dA Sem Unit) ((wP L).st ps0):=λps b ps' e Q q=>by
 cases e;subst h;unfold wpS;exact bo ⟨rfl,q⟩
theorem R.mi{i j:Nat}:R M A E s κ it id (reverseSlice' i j) ((wP L).mi i j):=λps b ps' e Q q=>by
 have e:(if i<=j/\j<=ps.a.length then ab ((),(⟨ps.a.take i++((ps.a.drop i).take (j-i)).reverse++ps.a.drop j,ps.pd,ps.mg⟩ : PS K))else ae)=ab (b,ps'):=e;by_cases h:i<=j/\j<=ps.a.length
 ·rw[aw h]at e;cases e;rw[reverseSlice'_eq];refine tW ?_;have:mirror (arr it ps.a) i j ((j-i)/2)=arr it (ps.a.take i++((ps.a.drop i).take (j-i)).reverse++ps.a.drop j):=by
   apply Eo;intro k;rw[getElem?_mirror_all (by rw[oQ];exact h.2),kQ,kQ,kQ];by_cases k1:k<i
   ·rw[ay (by omega),f7,l7 (by rw[cF];omega),ma k1]
   ·by_cases k2:k<j
    ·rw[aw ⟨by omega,k2⟩,l7 (by simp only[bA,cF,tm,eW];omega),j4 (by rw[cF];omega),List.getElem?_reverse (by simp only[cF,eW];omega)];rw[ma (by simp only[cF,eW];omega),tu]
     congr 2
     simp only[cF,eW];omega
    ·rw[ay (by omega),j4 (by simp only[bA,cF,tm,eW];omega),tu]
     congr 2
     simp only[bA,cF,tm,eW];omega
  show Q () (jC κ (mirror (arr it ps.a) i j ((j-i)/2)) ps.pd ps.mg ae);rw[this];exact q
 ·rw[ay h]at e;cases e
theorem R.bu{i j:Nat}:R M A E s κ it id (moveDown' i j) ((wP L).bu i j):=λps b ps' e Q q=>by
 have e:(if j<=i/\i<ps.a.length then ab ((),(⟨ps.a.take j++(ps.a[i]?).toList++(ps.a.drop j).take (i-j)++ps.a.drop (i+1),ps.pd,ps.mg⟩ : PS K))else ae)=ab (b,ps'):=e;by_cases h:j<=i/\i<ps.a.length
 ·rw[aw h]at e;cases e;rw[moveDown'_eq];refine tW ?_;have:bubble (arr it ps.a) i (i-j)=arr it (ps.a.take j++(ps.a[i]?).toList++(ps.a.drop j).take (i-j)++ps.a.drop (i+1)):=by
   apply Eo;intro k;rw[getElem?_bubble (by rw[oQ];exact h.2) _ (by omega),kQ,kQ,kQ,kQ];have hi:ps.a[i]? = ab ps.a[i]:=c7 h.2;rw[hi,D5];by_cases k1:k<j
   ·rw[ay (by omega),ay (by omega),f7,f7,l7 (by rw[cF];omega),ma k1]
   ·by_cases k2:k=j
    ·rw[aw (by omega),f7,f7,j4 (by rw[cF];omega),cF,show k-min j ps.a.length=0 by omega];rfl
    ·rw[ay (by omega)];by_cases k3:k<=i
     ·rw[aw (by omega),l7 (by simp only[bA,cF,dw,eW];omega),j4 (by simp only[bA,cF,dw];omega),ma (by simp only[bA,cF,dw];omega),tu]
      congr 2
      simp only[bA,cF,dw];omega
     ·rw[ay (by omega),j4 (by simp only[bA,cF,dw,eW];omega),tu]
      congr 2
      simp only[bA,cF,dw,eW];omega
  show Q () (jC κ (bubble (arr it ps.a) i (i-j)) ps.pd ps.mg ae);rw[this];exact q
 ·rw[ay h]at e;cases e
theorem sT:∀(z:List bM) (x n:Nat) (a:List bM),x+n+z.length<=a.length->(z.zipIdx n).foldl (λ(a:Array bM) (p:bM×Nat)=>a.setIfInBounds (x+p.2) p.1) a.toArray=(a.take (x+n)++z++a.drop (x+n+z.length)).toArray
 |[],x,n,a,h=>by rw[List.zipIdx_nil,List.foldl_nil,jt,ml,Nat.add_zero,List.take_append_drop]
 |y::r,x,n,a,h=>by
  rw[bW]at h;rw[List.zipIdx_cons,List.foldl_cons];show((r.zipIdx (n+1)).foldl _ (a.toArray.setIfInBounds (x+n) y))=_;rw[List.setIfInBounds_toArray,sT r x (n+1) (a.set (x+n) y) (by rw[f8];omega)]
  congr 1
  rw[bW,show x+(n+1)=x+n+1 by omega,List.take_add_one,js (by omega),List.take_set_of_le (bg _),List.drop_set_of_lt (by omega)];simp only[D5,f7,List.singleton_append];rw[show x+n+1+r.length=x+n+(r.length+1)by omega]
theorem R.wr{x:Nat}{z:List K}:R M A E s κ it id (wS.wr x (arr it z)) ((wP L).wr x z):=λps b ps' e Q q=>by
 have e:(if x+z.length<=ps.a.length then ab ((),(⟨ps.a.take x++z++ps.a.drop (x+z.length),ps.pd,ps.mg⟩ : PS K))else ae)=ab (b,ps'):=e;by_cases h:x+z.length<=ps.a.length
 ·rw[aw h]at e;cases e;refine tW ?_;have:=sT (z.map it) x 0 (ps.a.map it) (by rw[aS,aS];omega);have t:((arr it z).toList.zipIdx.foldl (λ(a:Array bM) (p:bM×Nat)=>a.setIfInBounds (x+p.2) p.1) (arr it ps.a))=arr it (ps.a.take x++z++ps.a.drop (x+z.length)):=by
   refine this.trans ?_;unfold arr;rw[eX,eX,xg,tD,aS];rfl
  show Q () (jC κ ((arr it z).toList.zipIdx.foldl (λ(a:Array bM) (p:bM×Nat)=>a.setIfInBounds (x+p.2) p.1) (arr it ps.a)) ps.pd ps.mg ae);rw[t];exact q
 ·rw[ay h]at e;cases e
end
end Tm
namespace Tm
open PySem PyProof.Rows
section
variable{K:Type}{L:K->K->Bool}{prog:bb}{w:aT}{A:br}{E:ag->ak->Prop}{s:ak}{M:Model}{κ:oh}{it:K->bM}
theorem nP(hL:∀x y,R M A E s κ it (G:=(id:Option Bool->Option Bool)) (lt' (it x) (it y)) ((wP L).lt x y))(lf:Bool)(key:K)(u:List K)(a n h:Nat):R M A E s κ it id (jj wS lf (it key) (arr it u) a n h) (jj (wP L) lf key u a n h):=by
 unfold jj;have far:∀i,R M A E s κ it id (do
  let x <- wS.el (arr it u) (a+i)
  if lf then wS.lt x (it key)else return (<- wS.lt (it key) x).map (!·)) (do
  let x <- (wP L).el u (a+i)
  if lf then(wP L).lt x key else return (<- (wP L).lt key x).map (!·)):=λi=>by
  refine R.bind R.el λx=>?_;refine R.ite bq (hL _ _) (R.bind (hL _ _) λy=>R.pure rfl)
 dsimp only;refine R.bind (far h) λr=>?_;cases r with
 |none=>exact R.pure rfl
 |some r=>
  dsimp only [id];refine R.ite bq ?_ ?_
  all_goals
   refine R.bind (G:=id) (R.range rfl λx b=>?_) λb=>?_
   ·refine R.ite bq (R.pure rfl) (R.bind (far _) λk=>?_);cases k with
    |none=>exact R.pure rfl
    |some k=>exact R.ite bq (R.pure rfl) (R.pure rfl)
   ·obtain⟨b1,b2,b3⟩:=b;cases b1 with
    |some r=>exact R.pure rfl
    |none=>
     refine R.bind (G:=id) (R.range rfl λx b=>?_) λb=>?_
     ·refine R.ite bq (R.pure rfl) (R.bind (far _) λk=>?_);cases k with
      |none=>exact R.pure rfl
      |some k=>exact R.ite bq (R.pure rfl) (R.pure rfl)
     ·obtain⟨b1,b2,b3⟩:=b;cases b1 with
      |some r=>exact R.pure rfl
      |none=>exact R.pure rfl
theorem bV(u:Array bM)(x:bM):wS.pu u x=u ++ #[x]:=Array.push_eq_append
def gz(it:K->bM){γ : Type}(b:Option (List K)×List K×γ):Option (Array bM)×Array bM×γ:=(b.1.map (arr it),arr it b.2.1,b.2.2)
theorem rB(n:Nat):R M A E s κ it id (wS.md (wS.sm n)) ((wP L).md ((wP L).sm n)):=R.md λ_=>rfl
theorem Gr(hL:∀x y,R M A E s κ it (G:=(id:Option Bool->Option Bool)) (lt' (it x) (it y)) ((wP L).lt x y))(u v:List K):R M A E s κ it (arr it) (pD wS (arr it u) (arr it v)) (pD (wP L) u v):=by
 unfold pD;simp only[szS,szP,oQ];refine R.bind R.rl λ_=>?_;refine R.bind R.el λx=>?_;refine R.ite bq (R.pure (by simp only[stp,gz,bH,exS,exP,bV,puP,apS,apP,rvS,rvP,onS,onP,bU,bO,bT,bX])) (R.ite bq (R.pure (by simp only[stp,gz,bH,exS,exP,bV,puP,apS,apP,rvS,rvP,onS,onP,bU,bO,bT,bX])) ?_);refine R.bind R.gt λps=>?_;refine R.bind (G:=gz it) (R.range rfl λ_ b=>?_) λb=>?_
 ·obtain⟨b1,z,i,j,mg⟩:=b;dsimp only [gz];refine R.bind (G:=gz it) (R.range rfl λ_ b=>?_) λb=>?_
  ·obtain⟨b1,z,i,j,nu,nv⟩:=b;dsimp only [gz];refine R.bind R.el λx=>R.bind R.el λy=>R.bind (hL _ _) λb=>?_;cases b with
   |none=>exact R.pure (by simp only[stp,gz,bH,exS,exP,bV,puP,apS,apP,rvS,rvP,onS,onP,bU,bO,bT,bX])
   |some b=>
    dsimp only [id];refine R.ite bq (R.bind R.el λe=>?_) (R.bind R.el λe=>?_)
    all_goals exact R.ite bq (R.pure (by simp only[stp,gz,bH,exS,exP,bV,puP,apS,apP,rvS,rvP,onS,onP,bU,bO,bT,bX])) (R.ite bq (R.pure (by simp only[stp,gz,bH,exS,exP,bV,puP,apS,apP,rvS,rvP,onS,onP,bU,bO,bT,bX])) (R.pure (by simp only[stp,gz,bH,exS,exP,bV,puP,apS,apP,rvS,rvP,onS,onP,bU,bO,bT,bX])))
  ·obtain⟨b1,z,i,j,nu,nv⟩:=b;cases b1 with
   |some r=>exact R.pure (by simp only[stp,gz,bH,exS,exP,bV,puP,apS,apP,rvS,rvP,onS,onP,bU,bO,bT,bX])
   |none=>
    dsimp only [gz,bH];refine R.bind R.rl λ_=>?_;refine R.bind (G:=gz it) (R.range rfl λ_ b=>?_) λb=>?_
    ·obtain⟨b1,z,i,j,mg,nu,nv⟩:=b;dsimp only [gz];refine R.ite bq ?_ ?_
     all_goals
      refine R.bind (rB _) λ_=>R.bind R.el λx=>R.bind (nP hL _ _ _ _ _ _) λk=>?_;cases k with
      |none=>exact R.pure (by simp only[stp,gz,bH,exS,exP,bV,puP,apS,apP,rvS,rvP,onS,onP,bU,bO,bT,bX])
      |some k=>
       dsimp only [id];refine R.ite bq (R.ite bq (R.pure (by simp only[stp,gz,bH,exS,exP,bV,puP,apS,apP,rvS,rvP,onS,onP,bU,bO,bT,bX])) (R.ite bq (R.pure (by simp only[stp,gz,bH,exS,exP,bV,puP,apS,apP,rvS,rvP,onS,onP,bU,bO,bT,bX])) ?_)) ?_
       all_goals
        refine R.bind R.el λx=>R.ite bq (R.pure (by simp only[stp,gz,bH,exS,exP,bV,puP,apS,apP,rvS,rvP,onS,onP,bU,bO,bT,bX])) ?_;refine R.bind R.el λx=>R.bind (nP hL _ _ _ _ _ _) λk=>?_;cases k with
        |none=>exact R.pure (by simp only[stp,gz,bH,exS,exP,bV,puP,apS,apP,rvS,rvP,onS,onP,bU,bO,bT,bX])
        |some k=>
         dsimp only [id];refine R.ite bq (R.ite bq (R.pure (by simp only[stp,gz,bH,exS,exP,bV,puP,apS,apP,rvS,rvP,onS,onP,bU,bO,bT,bX])) ?_) ?_
         all_goals
          refine R.bind R.el λx=>R.ite bq (R.pure (by simp only[stp,gz,bH,exS,exP,bV,puP,apS,apP,rvS,rvP,onS,onP,bU,bO,bT,bX])) ?_;exact R.ite bq (R.pure (by simp only[stp,gz,bH,exS,exP,bV,puP,apS,apP,rvS,rvP,onS,onP,bU,bO,bT,bX])) (R.pure (by simp only[stp,gz,bH,exS,exP,bV,puP,apS,apP,rvS,rvP,onS,onP,bU,bO,bT,bX]))
    ·obtain⟨b1,z,i,j,mg,nu,nv⟩:=b;cases b1 with
     |some r=>exact R.pure (by simp only[stp,gz,bH,exS,exP,bV,puP,apS,apP,rvS,rvP,onS,onP,bU,bO,bT,bX])
     |none=>
      dsimp only [gz,bH];exact R.bind (rB _) λ_=>R.pure (by simp only[stp,gz,bH,exS,exP,bV,puP,apS,apP,rvS,rvP,onS,onP,bU,bO,bT,bX])
 ·obtain⟨b1,z,i,j,mg⟩:=b;cases b1 with
  |some r=>exact R.pure rfl
  |none=>exactλps b ps' e=>by cases e
def gh(it:K->bM){γ : Type}(b:Option (List K)×Nat×Nat×List K×γ):Option (Array bM)×Nat×Nat×Array bM×γ:=(b.1.map (arr it),b.2.1,b.2.2.1,arr it b.2.2.2.1,b.2.2.2.2)
theorem Fk(hL:∀x y,R M A E s κ it (G:=(id:Option Bool->Option Bool)) (lt' (it x) (it y)) ((wP L).lt x y))(u v:List K):R M A E s κ it (arr it) (pJ wS (arr it u) (arr it v)) (pJ (wP L) u v):=by
 unfold pJ;simp only[szS,szP,oQ];refine R.bind R.rl λ_=>?_;refine R.bind R.el λx=>?_;refine R.ite bq (R.pure (by simp only[stp,gh,bH,exS,exP,bV,puP,apS,apP,rvS,rvP,onS,onP,bU,bO,bT,bX])) (R.ite bq (R.pure (by simp only[stp,gh,bH,exS,exP,bV,puP,apS,apP,rvS,rvP,onS,onP,bU,bO,bT,bX])) ?_);refine R.bind R.gt λps=>?_;refine R.bind (G:=gh it) (R.range rfl λ_ b=>?_) λb=>?_
 ·obtain⟨b1,i,j,z,mg⟩:=b;dsimp only [gh];refine R.bind (G:=gh it) (R.range rfl λ_ b=>?_) λb=>?_
  ·obtain⟨b1,i,j,z,nu,nv⟩:=b;dsimp only [gh];refine R.bind R.el λx=>R.bind R.el λy=>R.bind (hL _ _) λb=>?_;cases b with
   |none=>exact R.pure (by simp only[stp,gh,bH,exS,exP,bV,puP,apS,apP,rvS,rvP,onS,onP,bU,bO,bT,bX])
   |some b=>
    dsimp only [id];refine R.ite bq (R.bind R.el λe=>?_) (R.bind R.el λe=>?_)
    all_goals exact R.ite bq (R.pure (by simp only[stp,gh,bH,exS,exP,bV,puP,apS,apP,rvS,rvP,onS,onP,bU,bO,bT,bX])) (R.ite bq (R.pure (by simp only[stp,gh,bH,exS,exP,bV,puP,apS,apP,rvS,rvP,onS,onP,bU,bO,bT,bX])) (R.pure (by simp only[stp,gh,bH,exS,exP,bV,puP,apS,apP,rvS,rvP,onS,onP,bU,bO,bT,bX])))
  ·obtain⟨b1,i,j,z,nu,nv⟩:=b;cases b1 with
   |some r=>exact R.pure (by simp only[stp,gh,bH,exS,exP,bV,puP,apS,apP,rvS,rvP,onS,onP,bU,bO,bT,bX])
   |none=>
    dsimp only [gh,bH];refine R.bind R.rl λ_=>?_;refine R.bind (G:=gh it) (R.range rfl λ_ b=>?_) λb=>?_
    ·obtain⟨b1,i,j,z,mg,nu,nv⟩:=b;dsimp only [gh];refine R.ite bq ?_ ?_
     all_goals
      refine R.bind (rB _) λ_=>R.bind R.el λx=>R.bind (nP hL _ _ _ _ _ _) λk=>?_;cases k with
      |none=>exact R.pure (by simp only[stp,gh,bH,exS,exP,bV,puP,apS,apP,rvS,rvP,onS,onP,bU,bO,bT,bX])
      |some k=>
       dsimp only [id];refine R.ite bq (R.ite bq (R.pure (by simp only[stp,gh,bH,exS,exP,bV,puP,apS,apP,rvS,rvP,onS,onP,bU,bO,bT,bX])) ?_) ?_
       all_goals
        refine R.bind R.el λx=>R.ite bq (R.pure (by simp only[stp,gh,bH,exS,exP,bV,puP,apS,apP,rvS,rvP,onS,onP,bU,bO,bT,bX])) ?_;refine R.bind R.el λx=>R.bind (nP hL _ _ _ _ _ _) λk=>?_;cases k with
        |none=>exact R.pure (by simp only[stp,gh,bH,exS,exP,bV,puP,apS,apP,rvS,rvP,onS,onP,bU,bO,bT,bX])
        |some k=>
         dsimp only [id];refine R.ite bq (R.ite bq (R.pure (by simp only[stp,gh,bH,exS,exP,bV,puP,apS,apP,rvS,rvP,onS,onP,bU,bO,bT,bX])) (R.ite bq (R.pure (by simp only[stp,gh,bH,exS,exP,bV,puP,apS,apP,rvS,rvP,onS,onP,bU,bO,bT,bX])) ?_)) ?_
         all_goals
          refine R.bind R.el λx=>R.ite bq (R.pure (by simp only[stp,gh,bH,exS,exP,bV,puP,apS,apP,rvS,rvP,onS,onP,bU,bO,bT,bX])) ?_;exact R.ite bq (R.pure (by simp only[stp,gh,bH,exS,exP,bV,puP,apS,apP,rvS,rvP,onS,onP,bU,bO,bT,bX])) (R.pure (by simp only[stp,gh,bH,exS,exP,bV,puP,apS,apP,rvS,rvP,onS,onP,bU,bO,bT,bX]))
    ·obtain⟨b1,i,j,z,mg,nu,nv⟩:=b;cases b1 with
     |some r=>exact R.pure (by simp only[stp,gh,bH,exS,exP,bV,puP,apS,apP,rvS,rvP,onS,onP,bU,bO,bT,bX])
     |none=>
      dsimp only [gh,bH];exact R.bind (rB _) λ_=>R.pure (by simp only[stp,gh,bH,exS,exP,bV,puP,apS,apP,rvS,rvP,onS,onP,bU,bO,bT,bX])
 ·obtain⟨b1,i,j,z,mg⟩:=b;cases b1 with
  |some r=>exact R.pure rfl
  |none=>exactλps b ps' e=>by cases e
theorem uE(hL:∀x y,R M A E s κ it (G:=(id:Option Bool->Option Bool)) (lt' (it x) (it y)) ((wP L).lt x y))(i:Nat):R M A E s κ it id (mat wS i) (mat (wP L) i):=by
 unfold mat;refine R.bind R.gt λps=>?_;have e1:wS.pd (up κ it ps)=ps.pd:=rfl;have e2:wS.ar (up κ it ps)=arr it ps.a:=rfl;have e3:(wP L).pd ps=ps.pd:=rfl;have e4:(wP L).ar ps=ps.a:=rfl;rw[e1,e2,e3,e4];generalize ps.pd[i]? = o1;generalize ps.pd[i+1]? = o2;rcases o1 with _|⟨x,nx,pw⟩
 ·exactλps b ps' e=>by cases e
 rcases o2 with _|⟨y,ny,pv⟩
 ·exactλps b ps' e=>by cases e
 dsimp only;refine R.bind (R.st rfl) λ_=>R.bind R.el λv=>R.bind (nP hL _ _ _ _ _ _) λk=>?_;cases k with
 |none=>exact R.pure rfl
 |some k=>
  dsimp only [id];refine R.ite bq (R.pure rfl) (R.bind R.el λv=>R.bind (nP hL _ _ _ _ _ _) λk=>?_);cases k with
  |none=>exact R.pure rfl
  |some k=>
   dsimp only [id];refine R.ite bq (R.pure rfl) ?_;have jp:∀(x:Nat) (z:List K),R M A E s κ it id (do
    wS.wr x (arr it z)
    return wS.ok (<- wS.gt)) (do
    (wP L).wr x z
    return (wP L).ok (<- (wP L).gt)):=λx z=>R.bind R.wr λ_=>R.bind R.gt λ_=>R.pure rfl
   simp only[exS,exP,<- bO];exact R.ite bq (R.bind (Gr hL _ _) λz=>jp _ z) (R.bind (Fk hL _ _) λz=>jp _ z)
theorem C2(hL:∀x y,R M A E s κ it (G:=(id:Option Bool->Option Bool)) (lt' (it x) (it y)) ((wP L).lt x y))(i j:Nat):R M A E s κ it id (jW wS i j) (jW (wP L) i j):=by unfold jW;exact R.bind R.gt λps=>R.bind (R.el (u:=ps.a)) λx=>R.bind (R.el (u:=ps.a)) λy=>hL _ _
theorem FN(hL:∀x y,R M A E s κ it (G:=(id:Option Bool->Option Bool)) (lt' (it x) (it y)) ((wP L).lt x y))(i j:Nat):R M A E s κ it id (oZ wS i j) (oZ (wP L) i j):=by
 unfold oZ;dsimp only
 repeat' first
  |exact R.pure rfl
  |refine R.ite bq ?_ ?_
  |(refine R.bind (C2 hL _ _) λo=>?_;cases o<;>dsimp only [id])
  |refine R.bind R.mi λ_=>?_
  |refine R.bind R.rl λ_=>?_
  |(refine R.bind (G:=id) (R.range rfl λx b=>?_) λb=>?_;rotate_left;obtain⟨b1,b2⟩:=b;cases b1<;>dsimp only [id])
theorem HS(hL:∀x y,R M A E s κ it (G:=(id:Option Bool->Option Bool)) (lt' (it x) (it y)) ((wP L).lt x y))(i j k:Nat):R M A E s κ it id (bins wS i j k) (bins (wP L) i j k):=by
 unfold bins;dsimp only
 repeat' first
  |exact R.pure rfl
  |refine R.ite bq ?_ ?_
  |(refine R.bind (C2 hL _ _) λo=>?_;cases o<;>dsimp only [id])
  |refine R.bind R.bu λ_=>?_
  |(refine R.bind (G:=id) (R.range rfl λx b=>?_) λb=>?_;rotate_left;obtain⟨b1,b2⟩:=b;cases b1<;>dsimp only [id])
theorem wy(ps:PS K):wS.pd (up κ it ps)=ps.pd:=rfl
theorem wa(ps:PS K):(wP L).pd ps=ps.pd:=rfl
theorem HP(ps:PS K):wS.sz (wS.ar (up κ it ps))=ps.a.length:=oQ ..
theorem Fx(hL:∀x y,R M A E s κ it (G:=(id:Option Bool->Option Bool)) (lt' (it x) (it y)) ((wP L).lt x y)):R M A E s κ it id (runs wS) (runs (wP L)):=by
 unfold runs;dsimp only;refine R.bind R.gt λps=>?_;simp only[HP,arp]
 repeat' first
  |exact R.pure rfl
  |refine R.ite bq ?_ ?_
  |(refine R.bind (FN hL _ _) λo=>?_;cases o<;>dsimp only [id])
  |(refine R.bind (HS hL _ _ _) λo=>?_;dsimp only [id])
  |(refine R.bind (uE hL _) λo=>?_;dsimp only [id])
  |refine R.bind R.rl λ_=>?_
  |(refine R.bind (R.md λps=>rfl) λ_=>?_)
  |(refine R.bind (G:=id) (R.range rfl λx b=>?_) λb=>?_;rotate_left;obtain⟨b1,b2⟩:=b;cases b1<;>dsimp only [id])
  |(refine R.bind R.gt λps=>?_;rw[wy,wa];generalize ps.pd.back? = o;rcases o with _|⟨o1,o2,o3⟩<;>dsimp only)
  |(generalize (if ps.pd.size>1 then ps.pd[ps.pd.size-2]? else ae)=o;rcases o with _|⟨o1,o2,o3⟩<;>dsimp only)
 ·refine R.bind R.gt λps=>?_;simp only[wy,wa];exact R.ite bq (R.pure rfl) (R.bind (uE hL _) λo=>R.ite bq (R.pure rfl) (R.pure rfl))
 all_goals
  refine R.bind R.gt λps=>?_;by_cases hc:ps.pd.size>1
  ·rw[aw (show(wS.pd (up κ it ps)).size>1 from hc),aw (show((wP L).pd ps).size>1 from hc),wy,wa];rcases ps.pd[ps.pd.size-2]? with _|⟨o1,o2,o3⟩
   ·exact R.pure rfl
   ·exact R.ite bq (R.pure rfl) (R.bind (uE hL _) λo=>R.ite bq (R.pure rfl) (R.pure rfl))
  ·rw[ay (show¬ (wS.pd (up κ it ps)).size>1 from hc),ay (show¬ ((wP L).pd ps).size>1 from hc)];exact R.pure rfl
end
end Tm
namespace So
open PySem PySem.W PyProof.Rows
section
variable{prog:bb}{w:aT}{A:br}{E:ag->ak->Prop}{s:ak}
def Ends(n:Nat)(lt:Nat->Nat->Bool)(p:List Nat):Prop:=(n<64/\Pm n p.toArray/\Sd lt p.toArray n)\/(64<=n/\∃q:List (_root_.Fin n),Tm.kq (λi j=>lt i.1 j.1) (iV n)=ab q/\p=q.map (·.1)/\q.length=n)
theorem Ends.lt{n:Nat}{lt:Nat->Nat->Bool}{p:List Nat}(h:Ends n lt p):∀i∈p,i<n:=λi hi=>by
 rcases h with ⟨_,pm,_⟩|⟨_,q,_,rfl,_⟩
 ·have:=(tY.mp pm.pm).mem_iff.mp hi;simpa using this
 ·obtain⟨j,_,rfl⟩:=c8.mp hi;exact j.2
theorem Ends.len{n:Nat}{lt:Nat->Nat->Bool}{p:List Nat}(h:Ends n lt p):p.length=n:=by
 rcases h with ⟨_,pm,_⟩|⟨_,q,_,rfl,e⟩
 ·simpa using pm.size
 ·rw[aS,e]
theorem Ha{vs:List ag}{lt:Nat->Nat->Bool}{q:List (_root_.Fin vs.length)}(hq:Tm.kq (λi j:_root_.Fin vs.length=>lt i.1 j.1) (iV vs.length)=ab q)
 (hcmp:∀i j C,i<vs.length->j<vs.length->C (lt i j) s->kas_ask prog w A oneType' vs i j C s) {Q:Unit->dA->Prop}
 (h:∀st',arrOf st'=(q.map (·.1)).toArray.map (nU (pairsOf vs))->failedOf st'=ae->Q () st'):wpS (model prog w) A E s sortRuns' Q (jC oneType' (vs.toArray.zip vs.toArray) #[] 7 ae):=by
 rw[Tm.E7];let it:_root_.Fin vs.length->bM:=λi=>nU (pairsOf vs) i.1;have hL:∀x y,Tm.R (model prog w) A E s oneType' it (G:=(id:Option Bool->Option Bool)) (lt' (it x) (it y)) ((Tm.wP λi j:_root_.Fin vs.length=>lt i.1 j.1).lt x y):=λx y ps b ps' e Q q=>by
  cases e;rw[lt'_eq];refine wpS_bind (wpS_get ?_);have c:=hcmp x.1 y.1 (λb s'=>s'=s/\b=lt x.1 y.1) x.2 y.2 ⟨rfl,rfl⟩;rw[kas_ask_eq]at c;refine wpS_bind (wpS_lift (xp (gv c (λb s' hb=>?_) λ_ _ z=>z.elim)));obtain⟨rfl,rfl⟩:=hb;exact⟨rfl,wpS_pure q⟩
 have run:=Tm.Fx (κ:=oneType') (it:=it) hL;unfold Tm.kq at hq;cases hr:Tm.runs (Tm.wP λi j:_root_.Fin vs.length=>lt i.1 j.1) ⟨iV vs.length,#[],7⟩with
 |none=>rw[hr]at hq;cases hq
 |some r=>
  rw[hr]at hq;have hq:r.2.a=q:=eZ hq;have:=run _ r.1 r.2 hr Q (h _ (by
   show Tm.arr it r.2.a=_;rw[<- hq];unfold Tm.arr;rw[List.map_toArray,dg];rfl) rfl)
  have e0:Tm.up oneType' it ⟨iV vs.length,#[],7⟩=jC oneType' (vs.toArray.zip vs.toArray) #[] 7 ae:=by
   show jC oneType' (Tm.arr it (iV vs.length)) #[] 7 ae=jC oneType' (pairsOf vs) #[] 7 ae
   congr 1
   rw[<- kas_range (pairsOf vs)];apply oi.mp;rw[Ep,pairsOf_size];show(iV vs.length).map it=(bn vs.length).map _;apply w9
   ·rw[aS,aS,List.length_finRange,w6]
   ·intro i h1 h2;rw[xa,xa,wZ,List.getElem_finRange];rfl
  rw[e0]at this;exact this
theorem FU{a:ah}{vs:List ag}{lt:Nat->Nat->Bool}{n:Nat}{P:qw->ak->Prop}(ho:s.heap.get? a=ab (seqObj "list" vs.toArray n))(hlen:vs.length<=1000)(O:sS vs.length lt)
 (ht:64<=vs.length->∃q,Tm.kq (λi j:_root_.Fin vs.length=>lt i.1 j.1) (iV vs.length)=ab q/\q.length=vs.length)
 (hT:∀h',(∀b o,b≠a->s.heap.get? b=ab o->h'.get? b=ab o)->2<=vs.length->∀(Q:oh->ak->Prop),Q oneType' { s with heap:=h' }->wpAny (model prog w) A (keyKind' vs.toArray) Q (λ_ _=>False) { s with heap:=h' })
 (hcmp:∀h',(∀b o,b≠a->s.heap.get? b=ab o->h'.get? b=ab o)->∀i j C,i<vs.length->j<vs.length->C (lt i j) { s with heap:=h' }->kas_ask prog w A oneType' vs i j C { s with heap:=h' })
 (h:∀p:List Nat,Ends vs.length lt p->P (.done (.ret .none)) { s with heap:=sortedHeap s.heap a vs (j9 (p.map λi=>vs.getD i dR)) }) :
 wpAny (model prog w) A (jw.«list.sort» ⟨[.ref a],[]⟩) P E s:=by
 rw[list_sort_plain];have su:=t5 s.heap a (gR λ_=>(#[]:Array ag));have la:a<s.heap.objs.size:=bG ho;refine aA (iW ho rfl ?_);refine aA (listUpdate_at ho rfl ?_ (by rw[bF,cZ];omega) (eY _));obtain⟨c1,hc1⟩ : ∃c1,(s.heap.update a (gR λ_=>(#[]:Array ag))).get? a=ab (seqObj "list" #[] c1):=⟨_,get?_update_seq ho λ_=>#[]⟩;refine aA (seqEpoch_at hc1 rfl ?_);refine aA (wpAny_newTuple ?_ (by show vs.length<=_;rw[cZ];omega));refine aA (xo ?_ (eY _));refine jv ?_;generalize hh:((s.heap.update a (gR λ_=>(#[]:Array ag))).push (seqObj "tuple" vs.toArray 0)).push (seqObj "list" #[] 0)=h2;have k2:∀b o,b≠a->s.heap.get? b=ab o->h2.get? b=ab o:=λb o nb q=>by
  rw[<- hh];exact cG _ (cG _ ((su.2 b nb).trans q))
 have hc2:h2.get? a=ab (seqObj "list" #[] c1):=by rw[<- hh];exact cG _ (cG _ hc1)
 have eh:∀out,sortedHeap s.heap a vs out=h2.update a (gR λ_=>out):=λout=>by rw[<- hh];rfl
 show wpAny (model prog w) A _ P E { s with heap:=h2 };dsimp only;have go:∀(st':dA) (p:List Nat),Ends vs.length lt p->(arrOf st').map (·.2)=j9 (p.map λi=>vs.getD i dR)->failedOf st'=ae->wpAny (model prog w) A (do
  let touched:=(<- seqEpoch a) != c1
  Builtin.List.listUpdate (.ref a) λ_=>(arrOf st').map (·.2)
  if let ab e:=failedOf st' then rule "list.sort.comparison-raised"; throw e
  if touched then rule "list.sort.modified"; raiseError "ValueError" "list modified during sort"
  ret .none) P E { s with heap:=h2 }:=λst' p en e1 e2=>by
  rw[e1,e2];refine aA (seqEpoch_at hc2 rfl ?_);refine aA (listUpdate_at hc2 rfl ?_ (eY _) (by show(j9 (p.map λi=>vs.getD i dR)).size<=_;rw[bF,aS,en.len,cZ];omega));simp only[bne_self_eq_false,n9,fO];have:=h p en;rw[eh]at this;exact bo this
 have item:∀p:List Nat,(p.toArray.map (nU (pairsOf vs))).map (·.2)=j9 (p.map λi=>vs.getD i dR):=λp=>by
  apply oi.mp;rw[Array.map_map,Ep];exact nW λi _=>by show(nU (pairsOf vs) i).2=_;rw[kas_item_eq]
 by_cases h2':vs.toArray.size<2
 ·rw[aw h2',aw h2'];rw[bF]at h2';refine aA (bo ?_);rw[StateT.run_pure];refine aA (bo ?_);dsimp only;refine go (jC general' (vs.toArray.zip vs.toArray) #[] 7 ae) (bn vs.length) (.inl ⟨by omega,⟨EA _⟩,λi j hij hj=>by omega⟩) ?_ rfl;rw[<- item];show(pairsOf vs).map _=_;have:=kas_range (pairsOf vs);rw[pairsOf_size]at this;rw[this]
 ·rw[ay h2',ay h2'];rw[bF]at h2';refine aA (gv (hT h2 k2 (by omega) (λκ s'=>κ = oneType'/\s'={ s with heap:=h2 }) ⟨rfl,rfl⟩) (λκ s' hh=>?_) λ_ _ z=>z.elim);obtain⟨rfl,rfl⟩:=hh;by_cases h64:vs.length<64
  ·have wp:=yZ (cmp:=kas_ask prog w A oneType' vs) (s:={ s with heap:=h2 }) (hcmp h2 k2) (FF O (by omega));refine aA (gv (kat_run (E:=E) (Q:=λst' s2=>s2={ s with heap:=h2 }/\∃p:Array Nat,Pm vs.length p/\Sd lt p vs.length/\arrOf st'=p.map (nU (vs.toArray.zip vs.toArray))/\failedOf st'=ae) rfl (by omega) h64 (λp st' s2 _ a2 a3 a4=>⟨a4.1,p,a4.2.1,a4.2.2,a2,a3⟩) wp) ?_ λ_ _ z=>z);rintro⟨⟨⟩,st'⟩ s2 ⟨rfl,p,pm,sd,har,hf⟩;dsimp only;refine go st' p.toList (.inl ⟨h64,by rw[xF];exact pm,by rw[xF];exact sd⟩) ?_ hf;rw[<- item,xF,har];rfl
  ·obtain⟨q,hq,lq⟩:=ht (by omega);refine aA (gv (Ha hq (hcmp h2 k2) (E:=E) (Q:=λ_ st'=>arrOf st'=(q.map (·.1)).toArray.map (nU (pairsOf vs))/\failedOf st'=ae) λst' a1 a2=>⟨a1,a2⟩) ?_ λ_ _ z=>z);rintro⟨⟨⟩,st'⟩ s2 ⟨rfl,har,hf⟩;dsimp only;refine go st' (q.map (·.1)) (.inr ⟨by omega,q,hq,rfl,lq⟩) ?_ hf;rw[<- item,har]
theorem F8{l:ah}{vs:List ag}{lt:Nat->Nat->Bool}{Q:ag->ak->Prop}(hl:s.heap.IsList l vs.toArray)(hlen:vs.length<=1000)(O:sS vs.length lt)
 (ht:64<=vs.length->∃q,Tm.kq (λi j:_root_.Fin vs.length=>lt i.1 j.1) (iV vs.length)=ab q/\q.length=vs.length)
 (hT:∀h',(∀b o,s.heap.get? b=ab o->h'.get? b=ab o)->2<=vs.length->∀(Q:oh->ak->Prop),Q oneType' { s with heap:=h' }->wpAny (model prog w) A.in1.in1 (keyKind' vs.toArray) Q (λ_ _=>False) { s with heap:=h' })
 (hcmp:∀h',(∀b o,s.heap.get? b=ab o->h'.get? b=ab o)->∀i j C,i<vs.length->j<vs.length->C (lt i j) { s with heap:=h' }->kas_ask prog w A.in1.in1 oneType' vs i j C { s with heap:=h' })
 (h:∀p:List Nat,Ends vs.length lt p->Q (.ref (s.heap.objs.size+1)) { s with heap:=sortedAll s.heap vs (j9 (p.map λi=>vs.getD i dR)) }) :
 wpAny (model prog w) A (call (.builtin "sorted") [.ref l]) Q E s:=by
 refine Calls.call_function_entry kind_sorted plain_sorted entry_sorted (args_sorted1 _) ?_;unfold jw.«sorted»;refine aA (m:=checkCount "sorted" 1 1 _) (bo ?_);refine aA (collect_list hl ?_ (by rw[cZ];omega));refine aA (xo ?_ (by rw[cZ];omega));generalize hh1:((s.heap.push (seqObj "list" #[] 0)).update s.heap.objs.size (gR (· ++ vs.toArray)))=h1;have z1:h1.objs.size=s.heap.objs.size+1:=by rw[<- hh1,Heap.size_update,size_push']
 have k1:∀b o,s.heap.get? b=ab o->h1.get? b=ab o:=λb o q=>by
  have hlt:b<s.heap.objs.size:=bG q;rw[<- hh1,Heap.get?_update_ne _ _ _ _ (f9 hlt),Heap.get?_push_ne _ _ _ (f9 hlt)];exact q
 have hoL:(h1.push (seqObj "list" vs.toArray 0)).get? (s.heap.objs.size+1)=ab (seqObj "list" vs.toArray 0):=by rw[<- z1];exact d9 _ rfl
 show wpAny _ _ _ _ _ { s with heap:=h1.push (seqObj "list" vs.toArray 0) };rw[z1];have kk:∀h':aI,(∀b o,b≠s.heap.objs.size+1->(h1.push (seqObj "list" vs.toArray 0)).get? b=ab o->h'.get? b=ab o)->∀b o,s.heap.get? b=ab o->h'.get? b=ab o:=λh' kp b o q=>kp b o (λz=>by
  have hlt:b<s.heap.objs.size:=bG q;rw[z]at hlt;exact absurd hlt (Nat.not_lt.mpr (qz _))) (cG _ (k1 b o q))
 refine aA (jv (mn slot_list_sort ⟨_,hoL,rfl⟩ entry_list_sort (FU (lt:=lt) hoL hlen O ht (λh' kp=>hT h' (kk h' kp)) (λh' kp=>hcmp h' (kk h' kp)) λp en=>⟨_,rfl,?_⟩) (args_list_sort _)));have:=h p en;unfold sortedAll at this;rw[hh1]at this;exact bo ⟨_,rfl,this⟩
end
end So
namespace Mi
open PySem
def i9:List D->Option (List (List Int))
 |[]=>ab []
 |.lst ds::r=>(je ds).bind λk=>(i9 r).map (k :: ·)
 |_=>ae
def fu(a b:List Int):Bool:=!So.bv b a
def gZ(rows:List (List Int)):Option (List (List Int)):=
 if rows.length<64 then ab (rows.mergeSort fu)else
  (Tm.kq (λi j:_root_.Fin rows.length=>So.mO rows i.1 j.1) (iV rows.length)).bind λq=>if q.length=rows.length then ab (q.map λi=>rows.getD i.1 [])else ae
def dC(r:List Int):D:=.lst (r.map D.int)
def wq:List D->Rs D
 |[.lst ds]=>(cA (i9 ds)).bind λrows=>a6 (rows.Nodup/\rows.length<=1000) ((cA (gZ rows)).bind λres=>.ok (.lst (res.map dC)))
 |_=>.no
theorem B7(a b:List Int)(h:fu a b=true)(k:fu b a=true):a=b:=tX λz=>by
 unfold fu at h k;rcases So.pR z with y|y
 ·rw[y]at k;cases k
 ·rw[y]at h;cases h
theorem KL(a b:List Int):(fu a b||fu b a)=true:=by
 unfold fu;cases h:So.bv a b with
 |false=>simp
 |true=>rw[So.py h];rfl
theorem oU{a b:List Int}(h:So.bv a b=true):fu a b=true:=by unfold fu;rw[So.py h];rfl
theorem Gh(a b c:List Int)(h:fu a b=true)(k:fu b c=true):fu a c=true:=by
 by_cases e:a=b
 ·rw[e];exact k
 by_cases f:b=c
 ·rw[<- f];exact h
 have h1:So.bv a b=true:=(So.pR e).resolve_right λz=>by unfold fu at h;rw[z]at h;cases h
 have h2:So.bv b c=true:=(So.pR f).resolve_right λz=>by unfold fu at k;rw[z]at k;cases k
 exact oU (So.qY h1 h2)
theorem Be{xs ys:List (List Int)}(hp:ys.Perm xs)(hs:ys.Pairwise λa b=>fu a b=true):ys=xs.mergeSort fu:=uF B7 _ _ (hp.trans (List.mergeSort_perm xs _).symm) hs (List.pairwise_mergeSort (λa b c=>Gh a b c) (λa b=>KL a b) xs)
theorem Hz{rows res:List (List Int)}{p:List Nat}(h:So.Ends rows.length (So.mO rows) p)(e:gZ rows=ab res):res=p.map λi=>rows.getD i []:=by
 rcases h with ⟨h64,pm,sd⟩|⟨h64,q,hq,rfl,lq⟩
 ·unfold gZ at e;rw[aw h64]at e;cases e;refine(Be ?_ ?_).symm
  ·have pp:p.Perm (bn rows.length):=by have:=tY.mp pm.pm;simpa using this
   refine(pp.map _).trans (List.Perm.of_eq ?_);apply w9 (by simp);intro i h1 h2;simp[h2]
  ·rw[qo,DH];intro i j hi hj hij;have sz:p.length=rows.length:=by simpa using pm.size
   have:=sd i j hij (by omega);rw[So.oN (by simpa using hi),So.oN (by simpa using hj)]at this;simp only[List.getElem_toArray]at this;exact oU this
 ·unfold gZ at e;rw[ay (by omega),hq]at e;have e:(if q.length=rows.length then ab (q.map λi=>rows.getD i.1 [])else ae)=ab res:=e;rw[aw lq]at e;cases e;rw[dg];rfl
end Mi
namespace A
open PySem L2 PyProof.Rows So
open Mi (D W Rs Fin ao)
variable[Tb:a7]
section
variable{X:Cx}
def Cq(H:Hp)(r:List Int)(v:V):Prop:=∃p,v=.ref p/\Lst H p (r.map V.int)
def CM:List V->Hp->VK->Prop:=λvs H Q=>∃(a:ah) (xs:List V) (rows res:List (List Int)),vs=[.ref a]/\Lst H a xs/\P2 (Cq H) rows xs/\rows.Nodup/\rows.length<=1000/\Mi.gZ rows=ab res/\∀(p:ah) (idx:List Nat),H p=ae->(∀i∈idx,i<rows.length)->res=(idx.map λi=>rows.getD i [])->Q (.ref p) (upd H p (.lst (idx.map λi=>xs.getD i .non)))
theorem GQ(hu:X.A.units+64<cLine):fc X (.builtin "sorted") CM:=by
 intro af s σ H xs us Q I r h;obtain⟨a,xs,rows,res,rfl,hl,hr,nd,hlen,hsr,q⟩:=h;obtain⟨u,rfl,ru⟩:=vals1 r;cases(show u=cr a from ru);obtain⟨ai,n0,rv,hz,ho⟩:=lL I hl;have hli:=rv.length;have hrl:rows.length=xs.length:=P2.len hr;have at_:∀i,i<ai.length->∃pp o us nn,ai.getD i dR=.ref pp/\s.heap.get? pp=ab o/\o.cls=.type "list" /\ o.data=.seq (j9 us) nn/\ip us (rows.getD i []):=λi hi=>by
  have e1:rows[i]? = ab (rows.getD i []):=by simp[show i<rows.length by omega]
  obtain⟨v,e2,pp,rfl,hp⟩:=P2.getL hr e1;obtain⟨u,e3,r3⟩:=rv.get e2;cases r3;obtain⟨us,nn,vu,_,ho⟩:=lL I hp;exact⟨pp,_,us,nn,by simp[e3],ho,rfl,rfl,zv vu⟩
 have hord:=Gq nd;rw[hrl,hli]at hord;refine F8 (vs:=ai) (lt:=mO rows) ⟨_,ho,rfl,_,rfl⟩ (by omega) hord (λh64=>?_) (λh' kp h2 Q' hq'=>?_) (λh' kp i j C hi hj hC=>?_) λp en=>?_
 ·unfold Mi.gZ at hsr;rw[ay (by omega)]at hsr;have el:rows.length=ai.length:=by omega
  rw[<- el];cases ht:Tm.kq (λi j:_root_.Fin rows.length=>So.mO rows i.1 j.1) (iV rows.length)with
  |none=>rw[ht]at hsr;cases hsr
  |some q'=>
   rw[ht]at hsr;have hsr:(if q'.length=rows.length then ab (q'.map λi=>rows.getD i.1 [])else ae)=ab res:=hsr;by_cases lq:q'.length=rows.length
   ·exact⟨q',rfl,lq⟩
   ·rw[ay lq]at hsr;cases hsr
 ·refine PySem.W.kas_kind (T:=tT "list") h2 (λv hv=>?_) (by decide) (by decide) hq';obtain⟨i,hi⟩:=me hv;have hil:=(cM.mp hi).1;obtain⟨pp,o,us,nn,e1,e2,e3,_⟩:=at_ i hil;have:v=.ref pp:=by
   rw[<- e1];simp[hi]
  rw[this,<- e3];exact(PySem.W.Looks.ld (kp _ _ e2)).andThen .now
 ·obtain⟨p1,o1,us1,n1,a1,a2,a3,a4,a5⟩:=at_ i hi;obtain⟨p2,o2,us2,n2,b1,b2,b3,b4,b5⟩:=at_ j hj;unfold PySem.W.kas_ask;rw[a1,b1];exact Ja (kp _ _ a2) a3 a4 (kp _ _ b2) b3 b4 a5 b5 (by show X.A.units+1+1<cLine;omega) hC
 ·have el:ai.length=rows.length:=by omega
  rw[el]at en;have ers:=Mi.Hz en hsr;have plt:=en.lt;generalize hout:j9 (p.map λi=>ai.getD i dR)=out;obtain⟨e1,he⟩:=sortedAll_at s.heap ai out;have fr:H (s.heap.objs.size+1)=ae:=I.hok.fresh (qz _);have vo:Vals (p.map λi=>xs.getD i .non) out.toList:=by
   rw[<- hout];show Vals _ (p.map λi=>ai.getD i dR);have:∀l:List Nat,(∀i∈l,i<rows.length)->Vals (l.map λi=>xs.getD i .non) (l.map λi=>ai.getD i dR):=λl=>by
    induction l with
    |nil=>intro _;exact .nil
    |cons i r ih=>
     intro hl;have hi:=hl i cn;have e1:xs[i]? = ab (xs.getD i .non):=by simp[show i<xs.length by omega]
     obtain⟨u,e2,r2⟩:=rv.get e1;refine .cons ?_ (ih λj hj=>hl j (cm _ hj));have:ai.getD i dR=u:=by simp[e2]
     show RelV (xs.getD i .non) (ai.getD i dR);rw[this];exact r2
   exact this p plt
  refine⟨.ref (s.heap.objs.size+1),_,adopt (fp:=[s.heap.objs.size+1]) (D:=s.heap.objs.size+1) (o:=.lst (p.map λi=>xs.getD i .non)) (t':=s.toks) I (λb hb=>?_) (bB.mpr rfl) (λb u _ q=>sortedAll_old q) ⟨?_,out.toList,e1,vo,he⟩,rfl,q _ p fr plt ers⟩
  ·rw[bB.mp hb];exact I.iJ (qz _) fr
  ·rw[aS,en.len,cZ];omega
end
theorem AQ{Hv:Hp}:∀{ds:List D} {ss:List Int} {xs:List V},Mi.je ds=ab ss->P2 (Rep Hv) ds xs->ds=ss.map D.int/\xs=ss.map V.int
 |[],ss,_,h,.nil=>by cases h;exact⟨rfl,rfl⟩
 |d::r,ss,_,h,.cons k t=>by
  cases d with
  |int z=>
   rw[Mi.je]at h;cases e:Mi.je r with
   |none=>rw[e]at h;cases h
   |some q=>
    rw[e]at h;cases h;obtain⟨h1,h2⟩:=AQ e t;rw[mH.mp k,h1,h2];exact⟨rfl,rfl⟩
  |_=>simp[Mi.je]at h
theorem za{Hv:Hp}:∀{ds:List D} {rows:List (List Int)} {xs:List V},Mi.i9 ds=ab rows->P2 (Rep Hv) ds xs->P2 (λr v=>Rep Hv (Mi.dC r) v/\Cq Hv r v) rows xs
 |[],_,_,h,.nil=>by cases h;exact .nil
 |d::r,_,_,h,.cons k t=>by
  cases d with
  |lst z=>
   rw[Mi.i9]at h;cases e:Mi.je z with
   |none=>rw[e]at h;cases h
   |some q=>
    cases f:Mi.i9 r with
    |none=>rw[e,f]at h;cases h
    |some w=>
     rw[e,f]at h;cases h;obtain⟨a,ys,rfl,l,rr⟩:=iM.mp k;obtain⟨h1,h2⟩:=AQ e rr;refine .cons ⟨?_,a,rfl,?_⟩ (za f t)
     ·unfold Mi.dC;rw[<- h1];exact k
     ·rw[<- h2];exact l
  |_=>simp[Mi.i9]at h
theorem Gb:BN qN CM Mi.wq:=λds vs H Hv Q vw r h=>by
 match ds,r,h with
 |[.lst ds],r,h=>
  obtain⟨v,ev,rr⟩:=ku r;subst ev;obtain⟨p,xs,rfl,l1,r1⟩:=RD.lst vw rr;have h:=ao.mp h;cases e:Mi.i9 ds with
  |none=>rw[e]at h;exact h.elim
  |some rows=>
   rw[e]at h;obtain⟨⟨nd,hlen⟩,h⟩:=Mi.cc (show Fin (Mi.a6 (rows.Nodup/\rows.length<=1000) _) _ from h);have rr:=za e r1;have h:=ao.mp h;cases f:Mi.gZ rows with
   |none=>rw[f]at h;exact h.elim
   |some res=>
    rw[f]at h;refine⟨p,xs,rows,res,rfl,l1,?_,nd,hlen,f,λa idx ha hi hres=>?_⟩
    ·exact P2.imp (λ_ _ z=>by obtain⟨q,e1,e2⟩:=z.2;exact⟨q,e1,e2.same vw.sub⟩) rr
    ·have r2:P2 (Rep Hv) (res.map Mi.dC) (idx.map λi=>xs.getD i .non):=by
      rw[hres,dg];have:∀l:List Nat,(∀i∈l,i<rows.length)->P2 (Rep Hv) (l.map (Mi.dC ∘ λi=>rows.getD i [])) (l.map λi=>xs.getD i .non):=λl=>by
       induction l with
       |nil=>intro _;exact .nil
       |cons i r ih=>
        intro hl;have hi:=hl i cn;have e1:rows[i]? = ab (rows.getD i []):=by simp[hi]
        obtain⟨u,e2,r2,_⟩:=P2.getL rr e1;refine .cons ?_ (ih λj hj=>hl j (cm _ hj));have:xs.getD i .non=u:=by simp[e2]
        show Rep Hv (Mi.dC (rows.getD i [])) (xs.getD i .non);rw[this];exact r2
      exact this idx hi
     obtain⟨g,k⟩:=v7 vw r2 ha;exact(Mi.jI h) _ _ _ g k
 |[],_,h=>exact h.elim
 |[.non],_,h=>exact h.elim
 |[.bl _],_,h=>exact h.elim
 |[.int _],_,h=>exact h.elim
 |[.str _],_,h=>exact h.elim
 |[.tup _],_,h=>exact h.elim
 |d::_::_,_,h=>cases d<;>exact(show False from h).elim
end A
namespace A
end A
namespace Mi
end Mi
namespace A
open PySem L2 PyProof.Rows
open Mi (D W Rs Fin ao Out)
end A
namespace Mi
end Mi
namespace L2
open PySem PySem.Spec PyProof.Rows
variable{X:Cx}
end L2
namespace A
open PySem L2 PyProof.Rows
variable[Tb:a7]
end A
namespace Mi
end Mi
namespace A
open PySem L2 PyProof.Rows
open Mi (D W Rs Fin ao Out Tg)
end A
namespace Mi
end Mi
namespace A
open PySem L2 PyProof.Rows
open Mi (D W Rs Fin ao Out Tg)
end A
namespace Mi
end Mi
namespace A
open PySem L2 PyProof.Rows
open Mi (D W Rs Fin ao Out Tg)
end A
namespace A
end A
namespace Mi
end Mi
namespace A
open PySem L2 PyProof.Rows
open Mi (D W Rs Fin ao Out Tg)
section
variable[Tb:a7]{M:Nat->Bool}{κ:Kd}
instance:KM qO:=⟨λs h=>h.imp id (KM.mono (κ:=qN) s)⟩
end
end A
namespace Mi
end Mi
namespace L2
open PySem PyProof.Rows
end L2
namespace A
open PySem L2 PyProof.Rows
open Mi (D W Rs Fin ao)
variable[Tb:a7]
end A
namespace Mi
end Mi
namespace Zp
open PySem PySem.Spec PyProof.Rows L2 A
open Mi (D W Rs Fin ao Out)
variable[Tb:A.a7]{M:Nat->Bool}{i:Nat}{u s1:TS}{r m:Mi.SN}
end Zp
namespace Mr
open PySem Mi
def yy:S:=
 (dF (cW (mV 1)) (.n 2)
 (bx (cB (m2 iu (mV 2) (mV 0)))
 oT
 b7))
def kB:Fn:=eD 2 3 yy
def BO:S:=
 (aP (bE 2 (mC (.str "etaoinshrdlucmfwypvbgkqjxz")))
 (aP (bx (cB (m2 dB (m2 aU (mV 0) (mC (.int 4))) (mC (.int 2))))
 (aP (bE 3 (m2 qX (mC (.str "")) (d3 [ab 2,ab 0,ae] (fN (mC (.int 8))) (.n 2) di (m2 aG (mV 0) (m2 aU (m2 bP (mV 1) (m2 aV (mC (.int 4)) (m2 bp (mC (.int 3)) (mV 2)))) (mC (.int 26)))))))
 (aP (bx (cB (m2 dZ (m2 aU (mV 0) (mC (.int 4))) (mC (.int 0))))
 (bI (wD (d3 [ab 3,ae] (fN (mV 1)) (.n 1) di (fw gq (mV 0) ae (ab (m2 aV (mV 1) (mC (.int 1))))))))
 b7)
 (bI (wD (d3 [ab 3,ae] (fN (mV 1)) (.n 1) di (fw gq (mV 0) (ab (m2 iK (mC (.int 7)) (mV 1))) ae))))))
 b7)
 (aP (bE 4 (m2 aU (m2 bP (mV 0) (mC (.int 4))) (mC (.int 8))))
 (aP (bE 5 (m2 qX (mC (.str "")) (d3 [ab 2,ab 0,ae] (fN (mV 4)) (.n 2) di (m2 aG (mV 0) (m2 aU (m2 aV (m2 aV (m2 bP (mV 1) (mC (.int 32))) (m2 bp (mC (.int 5)) (mV 2))) (m2 bp (mV 2) (mV 2))) (mC (.int 26)))))))
 (aP (bE 6 (m2 aU (m2 bP (mV 0) (mC (.int 256))) (m2 aV (mV 4) (mC (.int 1)))))
 (bI (wD (d3 [ab 5,ab 2,ab 6,ab 0,ae] (fN (mV 1)) (.n 4) di (m2 aV (m2 aV (fw gq (mV 0) ae (ab (mV 2))) (m2 aG (mV 1) (m2 aU (m2 aV (m2 bP (mV 3) (mC (.int 7))) (m2 bp (mC (.int 5)) (mV 4))) (mC (.int 26))))) (fw gq (mV 0) (ab (mV 2)) ae))))))))))
def pO:Fn:=fR 2 7 BO
def yJ:S:=
 (aP (uD 1 (λ_=>.ok (.dk [])))
 (dF (cW (mV 0)) (.n 2)
 (aP (bx (cB (pe 1 (mV 2)))
 oT
 b7)
 (iR 1 (mV 2) (mC (.bl true))))))
def pA:Fn:=eD 1 3 yJ
def uy:S:=
 (aP (bx (cB (m2 dB (mV 1) (mN cT [(mV 0)])))
 (bI (wD (m2 aG (mV 0) (mV 1))))
 b7)
 (aP (bE 2 (m2 aV (mC (.int 30011)) (m2 bp (m2 bp (mC (.int 709)) (mV 1)) (mV 1))))
 (aP (bx (cB (m2 ve (mN cT [(mV 0)]) (mC (.int 0))))
 (bE 2 (m2 aV (mV 2) (m2 bp (m2 aU (m2 aG (mV 0) (mC (.int 0))) (mC (.int 99991))) (m2 aV (m2 aV (m2 bp (mV 1) (mV 1)) (m2 bp (mC (.int 2)) (mV 1))) (mC (.int 5))))))
 b7)
 (bI (wD (mV 2))))))
def d6:Fn:=eD 2 3 uy
def zp:S:=
 (aP (bE 2 (d3 [ae] (fN (mV 1)) (.n 0) di (mV 0)))
 (aP (bE 3 (mN cx []))
 (aP (bE 4 (m2 aU (mV 0) (mC (.int 2147483647))))
 (aP (dF (fN (mV 1)) (.n 5)
 (aP (bE 4 (m2 aU (m2 aV (m2 aV (m2 bp (mV 4) (mC (.int 48271))) (m2 bp (mC (.int 7)) (mV 5))) (mC (.int 1))) (mC (.int 2147483647))))
 (qH 3 2 (m2 aU (m2 bP (mV 4) (mC (.int 32))) (mN cT [(mV 2)])))))
 (bI (wV 3))))))
def pL:Fn:=fR 2 6 zp
def Ck:S:=
 (aP (bE 2 (m2 aV (mC (.int 1)) (m2 aU (aW d6 [(wD (mV 0)),(wD (mC (.int 0)))]) (mV 1))))
 (aP (bE 3 (aW pO [(wD (aW d6 [(wD (mV 0)),(wD (mC (.int 1)))])),(wD (mV 2))]))
 (aP (bE 4 (aW pL [(wD (aW d6 [(wD (mV 0)),(wD (mC (.int 2)))])),(wD (mV 2))]))
 (aP (bE 5 (m2 aG (mN cx [(mC (.int 4)),(mC (.int 1)),(mC (.int 2)),(mC (.int 3)),(mC (.int 2)),(mC (.int 3))]) (m2 aU (aW d6 [(wD (mV 0)),(wD (mC (.int 3)))]) (mC (.int 6)))))
 (aP (bE 6 (mN cx []))
 (aP (dF (fN (mV 2)) (.n 7)
 (dF (fN (mV 2)) (.n 8)
 (aP (bE 9 (aW d6 [(wD (mV 0)),(wD (m2 aV (m2 aV (mC (.int 4)) (m2 bP (m2 bp (mN gI [(mV 7),(mV 8)]) (m2 iK (mN gI [(mV 7),(mV 8)]) (mC (.int 1)))) (mC (.int 2)))) (mN ko [(mV 7),(mV 8)])))]))
 (bx (eU (cB (m2 dB (m2 aG (mV 4) (mV 7)) (m2 aG (mV 4) (mV 8)))) (cB (m2 dB (m2 aU (m2 bP (m2 aU (m2 bp (mV 9) (mC (.int 48271))) (mC (.int 2147483647))) (mC (.int 16))) (mC (.int 4))) (mV 5))))
 (fW 6 (mN dTup [(m2 aG (mV 3) (mV 7)),(m2 aG (mV 3) (mV 8))]))
 b7))))
 (bI (wD (mN dTup [(mN uZ [(mV 3)]),(mN uZ [(mV 6)])])))))))))
def qg:Fn:=eD 2 10 Ck
def CY:S:=
 (aP (bE 2 (aW d6 [(wD (mV 0)),(wD (mC (.int 0)))]))
 (aP (bE 3 (m2 aU (m2 bP (mV 2) (m2 iK (mV 1) (mC (.int 1)))) (m2 uU (mC (.int 10)) (mC (.int 9)))))
 (aP (bE 4 (m2 aV (m2 aV (mC (.int 1)) (m2 aU (mV 2) (m2 iK (mV 1) (mC (.int 1))))) (m2 bp (mV 1) (mV 3))))
 (bI (wD (aW qg [(wD (m2 aV (mN cx [(mV 4)]) (fw gq (mV 0) (ab (mC (.int 1))) ae))),(wD (mV 1))]))))))
def ou:Fn:=eD 2 5 CY
def lh(F:Fn):S:=
 (aP (bx (jd (cB (m1 (cK ["str"]) (mV 1))) (cB (m1 (cK ["int"]) (mV 1))))
 (aP (bx (jd (cB (m2 fH (m1 (cK ["bool"]) (mV 0)) (m1 (cK ["bool"]) (mV 1)))) (cB (m2 fH (m1 (cK ["str"]) (mV 0)) (m1 (cK ["str"]) (mV 1)))))
 (bI (wD (mC (.bl false))))
 b7)
 (bI (wD (vh (m1 (cK ["int","str"]) (mV 0)) (m2 dZ (mV 0) (mV 1))))))
 b7)
 (aP (bx (jd (cB (m2 fH (m1 (cK ["list"]) (mV 0)) (m1 (cK ["list"]) (mV 1)))) (eI (cB (m1 (cK ["list","tuple"]) (mV 0)))))
 (bI (wD (mC (.bl false))))
 b7)
 (aP (bx (cB (m2 fH (mN cT [(mV 0)]) (mN cT [(mV 1)])))
 (bI (wD (mC (.bl false))))
 b7)
 (aP (dF (rN (mV 0) (mV 1)) (.t [2,3])
 (bx (eI (cB (aW F [(wD (mV 2)),(wD (mV 3))])))
 (bI (wD (mC (.bl false))))
 b7))
 (bI (wD (mC (.bl true))))))))
def cL:Nat->Fn
 |0=>vB
 |n+1=>eD 2 4 (lh (cL n))
def BX:S:=
 (aP (bE 2 (mN cx [(m2 aU (aW d6 [(wD (mV 0)),(wD (mC (.int 39)))]) (mC (.int 2147483647)))]))
 (aP (dF (u5 (fw gq (mV 0) (ab (mC (.int 40))) (ab (mC (.int 63))))) (.t [3,4])
 (bx (cB (m2 dB (m2 aV (mV 3) (mC (.int 1))) (mV 1)))
 (fW 2 (m2 aU (mV 4) (mC (.int 2147483647))))
 (pH 2 (m2 aU (mV 3) (mV 1)) (m2 aU (m2 aV (m2 bp (m2 aG (mV 2) (m2 aU (mV 3) (mV 1))) (mC (.int 69621))) (mV 4)) (mC (.int 2147483647))))))
 (bI (wV 2))))
def oE:Fn:=fR 2 5 BX
def z9:S:=(bI (wD (kM (m2 g6 (mN dTup [(mV 1),(mV 2)]) (m2 aG (mV 0) (mC (.int 1)))) (m2 g6 (mN dTup [(mV 2),(mV 1)]) (m2 aG (mV 0) (mC (.int 1)))))))
def iP:Fn:=eD 3 3 z9
def zi:S:=
 (aP (iB (aW kB [(wD (m2 aG (mV 0) (mC (.int 0)))),(wD (mN cx [(mV 1),(mV 2)]))]))
 (bI (wD (kM (m2 g6 (mN dTup [(mV 1),(mV 2)]) (m2 aG (mV 0) (mC (.int 1)))) (m2 g6 (mN dTup [(mV 2),(mV 1)]) (m2 aG (mV 0) (mC (.int 1))))))))
def lJ:Fn:=eD 3 3 zi
def Bw:S:=
 (aP (iB (aW kB [(wD (mV 0)),(wD (mV 1))]))
 (iB (aW pA [(wD (mV 1))])))
def pj:Fn:=eD 2 2 Bw
def Bi:S:=
 (aP (bE 2 (mN yS [(m2 aG (mV 0) (mC (.int 0)))]))
 (aP (lu 3 2 (m2 aU (mV 1) (mN cT [(mV 2)])))
 (aP (lu 4 2 (m2 aU (m2 bP (mV 1) (mC (.int 8))) (mN cT [(mV 2)])))
 (aP (bE 5 (mN cx []))
 (aP (dF (fN (mN cT [(mV 2)])) (.n 6)
 (bx (cB (m2 dZ (m2 aU (m2 bP (m2 aU (m2 bp (mV 1) (m2 aV (mC (.int 48271)) (m2 bp (m2 bp (mC (.int 614)) (mV 6)) (mV 6)))) (mC (.int 2147483647))) (mC (.int 16))) (m2 aV (mC (.int 2)) (m2 aU (m2 bP (mV 1) (mC (.int 64))) (mC (.int 2))))) (mC (.int 0))))
 (fW 5 (m2 aG (mV 2) (mV 6)))
 b7))
 (aP (bx (cB (m2 dZ (m2 aU (m2 bP (mV 1) (mC (.int 128))) (mC (.int 2))) (mC (.int 1))))
 (vP 5)
 b7)
 (nN (bI (wD (mN cx [(mV 3),(mV 4),(mV 5)]))))))))))
def l5:Fn:=fR 2 7 Bi
def zu:S:=
 (aP (uD 1 (λ_=>.ok (.dk [])))
 (aP (dF (cW (m2 aG (mV 0) (mC (.int 0)))) (.n 2)
 (iR 1 (mV 2) (d3 [ab 0,ab 2,ae] (cW (m2 aG (mV 0) (mC (.int 0)))) (.n 2) (cB (aW lJ [(wD (mV 0)),(wD (mV 1)),(wD (mV 2))])) (mV 2))))
 (bI (wV 1))))
def ln:Fn:=fR 1 3 zu
def yt(F:Fn):S:=
 (aP (bx (cB (m2 dZ (m2 aG (mV 1) (m1 gi (mC (.int 1)))) (mV 2)))
 (bI (wD (mN cx [(mV 1)])))
 b7)
 (aP (bE 3 (mN cx []))
 (aP (dF (cW (rO 0 (m2 aG (mV 1) (m1 gi (mC (.int 1)))))) (.n 4)
 (bx (cB (m2 iu (mV 4) (mV 1)))
 (rm 3 (aW F [(wV 0),(wD (m2 aV (mV 1) (mN cx [(mV 4)]))),(wD (mV 2))]))
 b7))
 (bI (wV 3)))))
def iH:Nat->Fn
 |0=>vB
 |n+1=>fR 3 5 (yt (iH n))
def yF:S:=
 (aP (iB (aW pj [(wD (m2 aG (mV 0) (mC (.int 0)))),(wD (mN cx [(mV 1),(mV 2)]))]))
 (bI (wD (aW (iH 8) [(kR ln [(wD (mV 0))]),(wD (mN cx [(mV 1)])),(wD (mV 2))]))))
def iq:Fn:=fR 3 3 yF
def zY:S:=
 (aP (bE 3 (mN cx []))
 (aP (bE 4 (mN cx [(mN cx [(mV 1)])]))
 (aP (dF (fN (mN cT [(m2 aG (mV 0) (mC (.int 0)))])) (.n 5)
 (aP (bE 6 (mN cx []))
 (aP (dF (cW (mV 4)) (.n 7)
 (dF (cW (m2 aG (mV 0) (mC (.int 0)))) (.n 8)
 (bx (eU (cB (m2 dZ (mV 8) (mV 2))) (cB (aW iP [(wD (mV 0)),(wD (m2 aG (mV 7) (m1 gi (mC (.int 1))))),(wD (mV 8))])))
 (fW 3 (m2 aV (mV 7) (mN cx [(mV 8)])))
 (bx (eU (cB (m2 iu (mV 8) (mV 7))) (eU (cB (m2 fH (mV 8) (mV 2))) (cB (aW iP [(wD (mV 0)),(wD (m2 aG (mV 7) (m1 gi (mC (.int 1))))),(wD (mV 8))]))))
 (fW 6 (m2 aV (mV 7) (mN cx [(mV 8)])))
 b7))))
 (qI 4 6))))
 (bI (wV 3)))))
def mE:Fn:=fR 3 9 zY
def Do:S:=
 (aP (bE 3 (mN wq [(d3 [ab 0,ae] (cW (aW mE [(wD (mV 0)),(wD (mV 1)),(wD (mV 2))])) (.n 1) di (d3 [ab 0,ae] (cW (mV 1)) (.n 1) di (m2 rY (m2 aG (mV 0) (mC (.int 0))) (mV 1))))]))
 (bI (wD (d3 [ab 0,ae] (cW (mV 3)) (.n 1) di (d3 [ab 0,ae] (cW (mV 1)) (.n 1) di (m2 aG (m2 aG (mV 0) (mC (.int 0))) (mV 1)))))))
def kU:Fn:=fR 3 4 Do
def Co:S:=
 (aP (bE 1 (aW ou [(wD (mV 0)),(wD (mC (.int 6)))]))
 (aP (dF (cW (aW oE [(wD (mV 0)),(wD (mC (.int 3)))])) (.n 2)
 (aP (qd [3,4,5] (aW l5 [(wD (mV 1)),(wD (mV 2))]))
 (aP (bE 6 (aW kU [(wD (mV 1)),(wD (mV 3)),(wD (mV 4))]))
 (pK [1,3,4] 7 8 (aW iq [(wD (mV 1)),(wD (mV 3)),(wD (mV 4))]) (eI (cB (aW (cL 4) [(wD (mV 7)),(wD (mV 6))])))
 (bI (wD (mC (.bl false))))
 (aP (bx (eI (cB (aW (cL 4) [(wD (aW iq [(wD (mV 1)),(wD (mV 4)),(wD (mV 3))])),(wD (aW kU [(wD (mV 1)),(wD (mV 4)),(wD (mV 3))]))])))
 (bI (wD (mC (.bl false))))
 b7)
 (bx (eI (cB (aW (cL 4) [(wD (aW iq [(wD (mV 1)),(wD (mV 3)),(wD (mV 4))])),(wD (mV 6))])))
 (bI (wD (mC (.bl false))))
 b7))))))
 (bI (wD (mC (.bl true))))))
def uA:Fn:=eD 1 9 Co
end Mr
namespace A
open PySem L2 PyProof.Rows
section
variable{P:bb}{w:aT}{K:aB}{mg:Str->Option ag}{base:aI}[Tb:a7]
variable{x qual:Str}{st:bC}{f:ah}{fd:bQ}{N ps:List Str}{k:Nat}{m:Mi.S}
theorem jX(M:Nat->Bool)(F:cD K x qual st f fd)(S:da N ps (bK st))
 (hb:∀(cdv:ag) (A:br) (outer:List Env) (s:ak) (H:Hp) (E:XK),dE k (A.deeper (envOfC qual (bK st) s.heap.objs.size f cdv))->N.Nodup->(A.deeper (envOfC qual (bK st) s.heap.objs.size f cdv)).units+1<cLine->(A.deeper (envOfC qual (bK st) s.heap.objs.size f cdv)).units+64<cLine ->
  ∃t,gf (kL aL P w K mg base N qual (bK st) f cdv A outer s H E).nA (jU st) t/\AS M qV t m)
 (hM:∀i,i<ps.length->M i=false:=by decide):bt P w K mg base aL (k+1) f fd ps (bZ (Mi.eD ps.length N.length m)):=
 F.ok S (λvs H Q E h=>yA h) λcdv A outer s H vs Q E hr h=>
  let ⟨t,a,b⟩:=hb cdv A outer s H E hr S.nd (sL hr) hr.units
  ⟨t,a,BB b hM h⟩
theorem okN(M:Nat->Bool)(F:cD K x qual st f fd)(S:da N ps (bK st))
 (hb:∀(cdv:ag) (A:br) (outer:List Env) (s:ak) (H:Hp) (E:XK),dE k (A.deeper (envOfC qual (bK st) s.heap.objs.size f cdv))->N.Nodup->(A.deeper (envOfC qual (bK st) s.heap.objs.size f cdv)).units+1<cLine->(A.deeper (envOfC qual (bK st) s.heap.objs.size f cdv)).units+64<cLine ->
  ∃t,gf (kL aL P w K mg base N qual (bK st) f cdv A outer s H E).nA (jU st) t/\AS M qN t m)
 (hM:∀i,i<ps.length->M i=false:=by decide):bt P w K mg base aL (k+1) f fd ps (cV (Mi.fR ps.length N.length m)):=
 F.ok S (λvs H Q E h=>yO h) λcdv A outer s H vs Q E hr h=>
  let ⟨t,a,b⟩:=hb cdv A outer s H E hr S.nd (sL hr) hr.units
  ⟨t,a,runN b hM h⟩
end
theorem eF{N P:List Str}{sc:fo}(a:sc.kind=.function:=by rfl)(b:sc.isCoroutine=false:=by rfl)(c:sc.isGenerator=false:=by rfl)(d:N.Nodup:=by decide +kernel)(e:N.take P.length=P:=by rfl)
 (f:∀x∈P,sc.names.lookup x=ab .local\/sc.names.lookup x=ab .cell:=by decide +kernel) (g:∀y∈sc.names,y.2≠.free:=by decide +kernel):da N P sc:=⟨a,b,c,d,e,f,g⟩
section
variable{M:Nat->Bool}[Tb:a7]
theorem cu(i:Nat)(hm:M i=false:=by rfl):AE M qV (cO i) (Mi.mV i):=Bg i hm
theorem bj(i:Nat)(hm:M i=false:=by rfl):AW M qV (cO i) (Mi.wD (Mi.mV i)):=AE.w (Bg i hm)
end
section
variable{X:Cx}{e:aO}{te:TE}{pos pos':Pos}{x:Str}
theorem pS(i:Nat)(he:PE X e te)(hN:X.N.Nodup:=by assumption)(hi:X.N[i]? = ab x:=by rfl)(hx:Loc X.env.scope x:=by exact e9 rfl)(hs:swapsWith e (ab (.Name x pos')) pos.line X.env=pure false:=by rfl)
 (hf:X.fn x=true\/X.env.scope.names.lookup x=ab .local:=by first|exact .inl rfl|exact .inr rfl|assumption):PS X (.Assign [.Name x pos'] e pos) (ib te (fe i)):=oV hN hi hx he hs hf
theorem pG(i:Nat)(hN:X.N.Nodup:=by assumption)(hi:X.N[i]? = ab x:=by rfl)(hx:Loc X.env.scope x:=by exact e9 rfl)
 (hf:X.fn x=true\/X.env.scope.names.lookup x=ab .local:=by first|exact .inl rfl|exact .inr rfl|assumption):L2.PG X (.Name x pos) (fe i):=gE hN hi hx hf
theorem pf{a:Str}:[a].Nodup:=ik.mpr ⟨(λh=>nomatch h),List.nodup_nil⟩
theorem kG{a b:Str}(h:a≠b:=by decide):[a,b].Nodup:=ik.mpr ⟨λz=>h (bB.mp z),pf⟩
theorem pC{k k':Nat}{ps:List Str}{sp:Sp}{es:List aO}{t:TA}(C:ck X.prog X.w X.K X.mg X.base aL k x ps sp)(hr:dE k' X.A)(ha:PA X (e::es) t)(hle:k<=k':=by decide)(hg:Gl X x:=by rfl)
 (hdb:(x==("__debug__" : Str))=false:=by decide) (he:starEach (e::es) X.env=(false,eval e X.env)::starEach es X.env:=by rfl) (hpl:(backTo pos (starEach es X.env)).any (·.1)=false:=by rfl) :
 PE X (.Call (.Name x pos') (e::es) [] pos) (lg sp [] E0 t):=lQ C (hr.mono hle) hg lR ha hdb he hpl
theorem a8(i:Nat)(hN:X.N[i]? = ab x:=by rfl)(hv:sv X.env.scope x:=by first|exact e9 rfl|exact iX (e9 rfl)|exact iX (iX rfl))(hd:(x==("__debug__" : Str))=false:=by decide)
 (hcd:(x==("__classdict__" : Str))=false:=by decide) (hs:starEach [Expr.Name x pos] X.env=(false,eval (.Name x pos) X.env)::starEach [] X.env:=by rfl):PA X [.Name x pos] (fh (cO i) fT):=ax (pv i hN hv hd hcd) bc hs
theorem pX{a b:aO}{ta tb:TE}(ha:PE X a ta)(hb:PE X b tb)(hs:zg b:=by exactλ_ _=>rfl):PE X (.Subscript a b pos) (nL (uT X.K) ta tb):=Cc CO ha hb hs
end
end A
namespace oo
open PySem L2 PyProof.Rows A
open Mr
def top(i:Nat):bC:=PySem.Challenge.pw_arrowfind_k10_all_roads.main.body.getD i (.Pass ⟨0,0,0,0⟩)
structure Txt(mg:Str->Option ag):Prop where
 eA:mg "len" = ae
 iZ:mg "range" = ae
 pE:mg "max" = ae
 u0:mg "min" = ae
 mI:mg "tuple" = ae
 ng:mg "list" = ae
 jF:mg "isinstance" = ae
 LL:mg "all" = ae
 LM:mg "any" = ae
 EI:mg "bool" = ae
 uc:mg "str" = ae
 EJ:mg "int" = ae
 Lh:mg "zip" = ae
 Li:mg "enumerate" = ae
 Lj:mg "sorted" = ae
 LN:mg "reversed" = ae
 LO:mg "set" = ae
section
variable{P:bb}{w:aT}{K:aB}{mg:Str->Option ag}{base:aI}[Tb:a7]
abbrev v6:bC:=top 6
theorem Kn:da ["names","asked","name"] ["names","asked"] (bK v6):=eF
theorem IK{f:ah}{fd:bQ}(F:cD K "refuse_strangers" "refuse_strangers" v6 f fd)(T:Txt mg):bt P w K mg base aL 1 f fd ["names","asked"] (bZ kB):=
 jX (Mo []) F Kn (λcdv A outer s H E hr nd hu bR=>by
  exact⟨_,(ba (fZ gc rfl (gJ (pv 1)) (pG 2)
 (ba (dH (eo (uI bR) (pv 2) (pv 0) rfl)
 (ba C0)
 dW)))),
  (gu (K:=K) (tg:=(.n 2)) (ly (cu 1)) (by decide)
 (dJ (ek (AE.p (au wg (aq 2) (aq 0))))
 Dh
 eE))⟩)
abbrev v3:bC:=top 7
theorem Gv:da ["asked","stood","name"] ["asked"] (bK v3):=eF
theorem J6{f:ah}{fd:bQ}(F:cD K "refuse_repeats" "refuse_repeats" v3 f fd)(T:Txt mg):bt P w K mg base aL 1 f fd ["asked"] (bZ pA):=
 jX (Mo [1]) F Gv (λcdv A outer s H E hr nd hu bR=>by
  exact⟨_,(aZ (pS 1 A3)
 (ba (fZ gc rfl (gJ (pv 0)) (pG 2)
 (aZ (dH (Hr (IG hu (pv 2) (pv 1)) rfl)
 (ba C0)
 dW)
 (ba (yo hu (pv 1) (pv 2) jg rfl)))))),
  (a9 (zE 1 rfl C9)
 (gu (K:=K) (tg:=(.n 2)) (ly (cu 0)) (by decide)
 (a9 (dJ (hV (AE.p (IF 1 (cu 2))))
 Dh
 eE)
 (y4 1 rfl (cu 2) ji))))⟩)
abbrev u8:bC:=top 8
theorem HJ:da ["names","asked"] ["names","asked"] (bK u8):=eF
theorem IA{f:ah}{fd:bQ}(F:cD K "refuse_wrong_asks" "refuse_wrong_asks" u8 f fd)(T:Txt mg)(oq:ck P w K mg base aL 1 "refuse_strangers" ["names","asked"] (bZ kB))(xK:ck P w K mg base aL 1 "refuse_repeats" ["asked"] (bZ pA)):bt P w K mg base aL 2 f fd ["names","asked"] (bZ pj):=
 jX (Mo []) F HJ (λcdv A outer s H E hr nd hu bR=>by
  exact⟨_,(aZ (gg (pC oq hr (ax (pv 0) (a8 1))))
 (ba (gg (pC xK hr (a8 1))))),
  (a9 (sh (AE.p (dU (aN (bj 0) (aN (bj 1) ce)))))
 (sh (AE.p (dU (aN (bj 1) ce)))))⟩)
abbrev wF:bC:=top 5
theorem Jn:da ["net","one","other"] ["net","one","other"] (bK wF):=eF
theorem GD{f:ah}{fd:bQ}(F:cD K "are_tied" "are_tied" wF f fd)(T:Txt mg)(oq:ck P w K mg base aL 1 "refuse_strangers" ["names","asked"] (bZ kB)):bt P w K mg base aL 2 f fd ["net","one","other"] (bZ lJ):=
 jX (Mo []) F Jn (λcdv A outer s H E hr nd hu bR=>by
  exact⟨_,(aZ (gg (pC oq hr (ax (pX (pv 0) aC) (ax (eG (ax (pv 1) (a8 2))) bc))))
 (ba (cR (yM (oz (sA bR) (kP (ax (pv 1) (a8 2))) (pX (pv 0) aC) rfl) (vF (oz (sA bR) (kP (ax (pv 2) (a8 1))) (pX (pv 0) aC) rfl)))))),
  (a9 (sh (AE.p (dU (aN (AE.w (au cC (aq 0) (AE.p aD))) (aN (AW.nv (AE.w (eu (bh (cu 1) (bh (cu 2) bD))))) ce)))))
 (fv (AE.w (AJ (AE.p (au rp (AE.p (mR (bh (cu 1) (bh (cu 2) bD)))) (AE.p (au cC (aq 0) (AE.p aD))))) (au rp (AE.p (mR (bh (cu 2) (bh (cu 1) bD)))) (AE.p (au cC (aq 0) (AE.p aD))))))))⟩)
abbrev vb:bC:=top 11
theorem KY:da ["net","neighbours","name"] ["net"] (bK vb):=eF
theorem K5{f:ah}{fd:bQ}(F:cD K "neighbours_in" "neighbours_in" vb f fd)(T:Txt mg)(xL:ck P w K mg base aL 2 "are_tied" ["net","one","other"] (bZ lJ)):bt P w K mg base aL 3 f fd ["net"] (cV ln):=
 okN (Mo [1]) F KY (λcdv A outer s H E hr nd hu bR=>by
  exact⟨_,(aZ (pS 1 A3)
 (aZ (fZ gc rfl (gJ (pX (pv 0) aC)) (gE (i:=2) nd rfl (iX rfl))
 (ba (yo hu (pv 1) (pv 2) (jq (N':=["net","name","near"]) (ρ:=[ab 0,ab 2,ae]) rfl (fF.of rfl (by kernel_rfl)) (gJ (pX (pv 0) aC)) (λ_ _ _ _ _=>(gE (i:=2) (by show(["net","name","near"]:List Str).Nodup;decide +kernel) rfl (e9 rfl))) (iy rfl) (λ_ _ _ _ _=>(J0 (i0 (pC xL hr (ax (pv 0) (ax (pv 1) (a8 2))))))) (λ_ _ _ _ _=>(pv 2))) rfl)))
 (ba (cR (pv 1))))),
  (a9 (zE 1 rfl C9)
 (a9 (gu (K:=K) (tg:=(.n 2)) (ly (au cC (aq 0) (AE.p aD))) (by decide)
 (y4 1 rfl (cu 2) (AE.nv (iz (K:=K) (tg:=(.n 2)) (oH (AE.p (au cC (aq 0) (AE.p aD)))) (by decide) (hV (AE.p (dU (aN (bj 0) (aN (bj 1) (aN (bj 2) ce)))))) (cu 2)))))
 (oy 1 rfl)))⟩)
abbrev vV:bC:=top 12
theorem A1:da ["neighbours","begun","other","roads","name"] ["neighbours","begun","other"] (bK vV):=eF
theorem Bb{f:ah}{fd:bQ}(F:cD K "roads_begun" "roads_begun" vV f fd)(T:Txt mg)  (self:∀n,bt P w K mg base aL (n+1) f fd ["neighbours","begun","other"] (cV (iH n))->ck P w K mg base aL (n+1) "roads_begun" ["neighbours","begun","other"] (cV (iH n))):∀n,bt P w K mg base aL (n+1) f fd ["neighbours","begun","other"] (cV (iH n))
 |0=>yB
 |n+1=>F.ok A1 (λvs H Q E h=>yO h) (λcdv A outer s H vs Q E hr h=>by
  have mD:∀m:Nat,m=n->ck P w K mg base aL (m+1) "roads_begun" ["neighbours","begun","other"] (cV (iH m)):=λm e=>by subst e;exact self m (Bb F T  self m)
  have mD:=λm:Nat=>(mD n rfl:ck P w K mg base aL (n+1) "roads_begun" ["neighbours","begun","other"] (cV (iH n)));have nd:=A1.nd;have hu:=sL hr;have bR:=hr.units;have xM:=hr.mono (show(n+1)<=_ by omega);exact⟨_,(aZ (dH (eo (mF bR) (pX (pv 1) (rP rR aC)) (pv 2) (fi _))
 (ba (cR (eG (a8 1))))
 dW)
 (aZ (pS 3 (eG bc))
 (aZ (fZ gc rfl (gJ (Ho hu (pv 0) (pX (pv 1) (rP rR aC)) (λ_ _=>rfl))) (pG 4)
 (ba (dH (eo (uI bR) (pv 4) (pv 1) rfl)
 (ba (gg (gU gA PySem.F.slot_list_extend PySem.F.type_list_extend Ka (pv 3) (ax (lQ (mD n) xM rfl lR (ax (pv 0) (ax (aH cX (pv 1) (eG (a8 4))) (a8 2)))) bc))))
 dW)))
 (ba (cR (pv 3)))))),
  _root_.A.runN (N:=["neighbours","begun","other","roads","name"]) (M:=Mo [3]) (a9 (dJ (ek (AE.p (au mG (AE.p (au cC (aq 1) (AE.p (rZ r0 (AE.p aD))))) (aq 2))))
 (lP (AE.w (eu (bh (cu 1) bD))))
 eE)
 (a9 (j0 3 rfl (eu bD))
 (a9 (gu (K:=K) (tg:=(.n 4)) (ly (Je 0 (au cC (aq 1) (AE.p (rZ r0 (AE.p aD)))))) (by decide)
 (dJ (ek (AE.p (au wg (aq 4) (aq 1))))
 (G8 3 rfl (AE.nv (gV (aN (Jl 0 rfl) (aN (AE.w (au cU (aq 1) (AE.np (eu (bh (cu 4) bD))))) (aN (bj 2) ce))))))
 eE))
 (oy 3 rfl)))) (by decide) h⟩)
abbrev wA:bC:=top 10
theorem KS:da ["net","one","other"] ["net","one","other"] (bK wA):=eF
theorem Fs{f:ah}{fd:bQ}(F:cD K "all_roads" "all_roads" wA f fd)(T:Txt mg)(xN:ck P w K mg base aL 2 "refuse_wrong_asks" ["names","asked"] (bZ pj))(xO:ck P w K mg base aL 3 "neighbours_in" ["net"] (cV ln))(mD:∀n,ck P w K mg base aL (n+1) "roads_begun" ["neighbours","begun","other"] (cV (iH n))):bt P w K mg base aL 10 f fd ["net","one","other"] (cV iq):=
 okN (Mo []) F KS (λcdv A outer s H E hr nd hu bR=>by
  have xM:=hr.mono (show(8+1)<=_ by decide);exact⟨_,(aZ (gg (pC xN hr (ax (pX (pv 0) aC) (ax (eG (ax (pv 1) (a8 2))) bc))))
 (ba (cR (lQ (mD 8) xM rfl lR (ax (pC xO hr (a8 0)) (ax (eG (a8 1)) (a8 2))))))),
  (a9 (sh (AE.p (dU (aN (AE.w (au cC (aq 0) (AE.p aD))) (aN (AW.nv (AE.w (eu (bh (cu 1) (bh (cu 2) bD))))) ce)))))
 (lP (AE.w (gV (aN (AW.nv (Cv (aN (bj 0) ce))) (aN (AW.nv (AE.w (eu (bh (cu 1) bD)))) (aN (bj 2) ce)))))))⟩)
abbrev uY:bC:=top 18
theorem Dp:da ["_law_found","_law_due_here","_law_one","_law_other"] ["_law_found","_law_due_here"] (bK uY):=eF
theorem Aa{f:ah}{fd:bQ}(F:cD K "_law_alike" "_law_alike" uY f fd)(T:Txt mg)  (self:∀n,bt P w K mg base aL (n+1) f fd ["_law_found","_law_due_here"] (bZ (cL n))->ck P w K mg base aL (n+1) "_law_alike" ["_law_found","_law_due_here"] (bZ (cL n))):∀n,bt P w K mg base aL (n+1) f fd ["_law_found","_law_due_here"] (bZ (cL n))
 |0=>yB
 |n+1=>F.ok Dp (λvs H Q E h=>yA h) (λcdv A outer s H vs Q E hr h=>by
  have ki:∀m:Nat,m=n->ck P w K mg base aL (m+1) "_law_alike" ["_law_found","_law_due_here"] (bZ (cL m)):=λm e=>by subst e;exact self m (Aa F T  self m)
  have ki:=λm:Nat=>(ki n rfl:ck P w K mg base aL (n+1) "_law_alike" ["_law_found","_law_due_here"] (bZ (cL n)));have nd:=Dp.nd;have hu:=sL hr;have bR:=hr.units;have qE:=hr.mono (show(n+1)<=_ by omega);exact⟨_,(aZ (dH (PW.pt (pw_or (i0 (dq kW rfl T.jF jB (ax (pv 1) (ax (g7 rfl T.uc boot_str) bc)))) (pw_or1 (i0 (dq kW rfl T.jF jB (ax (pv 1) (ax (g7 rfl T.EJ boot_int) bc)))))))
 (aZ (dH (PW.pt (pw_or (eo (p6 bR) (dq kW rfl T.jF jB (ax (pv 0) (ax (g7 rfl T.EI boot_bool) bc))) (dq kW rfl T.jF jB (ax (pv 1) (ax (g7 rfl T.EI boot_bool) bc))) (fi _)) (pw_or1 (eo (p6 bR) (dq kW rfl T.jF jB (ax (pv 0) (ax (g7 rfl T.uc boot_str) bc))) (dq kW rfl T.jF jB (ax (pv 1) (ax (g7 rfl T.uc boot_str) bc))) (fi _)))))
 (ba (cR jg))
 dW)
 (ba (cR (Jd (dq Zp.Dv rfl T.jF jB (ax (pv 0) (ax (kP (ax (g7 rfl T.EJ boot_int) (ax (g7 rfl T.uc boot_str) bc))) bc))) (vF (oz (mF bR) (pv 0) (pv 1) (fi _)))))))
 dW)
 (aZ (dH (PW.pt (pw_or (eo (p6 bR) (dq kW rfl T.jF jB (ax (pv 0) (ax (g7 rfl T.ng boot_list) bc))) (dq kW rfl T.jF jB (ax (pv 1) (ax (g7 rfl T.ng boot_list) bc))) (fi _)) (pw_or1 (qa (i0 (dq Zp.Dv rfl T.jF jB (ax (pv 0) (ax (kP (ax (g7 rfl T.ng boot_list) (ax (g7 rfl T.mI boot_tuple) bc))) bc))))))))
 (ba (cR jg))
 dW)
 (aZ (dH (eo (p6 bR) (dq jK rfl T.eA ka (a8 0)) (dq jK rfl T.eA ka (a8 1)) (fi _))
 (ba (cR jg))
 dW)
 (aZ (fZ gc rfl (Zp.FJ rfl T.Lh (pv 0) (pv 1)) (AB rfl (li (pG 2) (li (pG 3) uL)))
 (ba (dH (qa (i0 (lQ (ki n) qE rfl lR (ax (pv 2) (a8 3)))))
 (ba (cR jg))
 dW)))
 (ba (cR jg)))))),
  _root_.A.BB (N:=["_law_found","_law_due_here","_law_one","_law_other"]) (M:=Mo []) (a9 (dJ (uQ (hV (AE.p (kC (ty_str K) (aq 1)))) (hV (AE.p (kC (ty_int K) (aq 1)))))
 (a9 (dJ (uQ (ek (AE.p (au pI (AE.p (kC (ty_bool K) (aq 0))) (AE.p (kC (ty_bool K) (aq 1)))))) (ek (AE.p (au pI (AE.p (kC (ty_str K) (aq 0))) (AE.p (kC (ty_str K) (aq 1)))))))
 (fv (AE.w ji))
 eE)
 (fv (AE.w (G5 (AE.p (Zp.zD (Zp.Cg (ty_int K) (ty_str K)) (by decide) (aq 0))) (au mG (aq 0) (aq 1))))))
 eE)
 (a9 (dJ (uQ (ek (AE.p (au pI (AE.p (kC (ty_list K) (aq 0))) (AE.p (kC (ty_list K) (aq 1)))))) (qc (hV (AE.p (Zp.zD (Zp.Cg (ty_list K) (ty_tuple K)) (by decide) (aq 0))))))
 (fv (AE.w ji))
 eE)
 (a9 (dJ (ek (AE.p (au pI (AE.p (fA eA (bh (aq 0) bD))) (AE.p (fA eA (bh (aq 1) bD))))))
 (fv (AE.w ji))
 eE)
 (a9 (gu (K:=K) (tg:=(.t [2,3])) (Zp.Hn (cu 0) (cu 1)) (by decide)
 (dJ (qc (hV (AE.p (dU (aN (bj 2) (aN (bj 3) ce))))))
 (fv (AE.w ji))
 eE))
 (fv (AE.w ji)))))) (by decide) h⟩)
abbrev ul:bC:=top 14
theorem FK:da ["_law_script","_law_k","_law_spare"] ["_law_script","_law_k"] (bK ul):=eF
theorem I0{f:ah}{fd:bQ}(F:cD K "_law_cell" "_law_cell" ul f fd)(T:Txt mg):bt P w K mg base aL 1 f fd ["_law_script","_law_k"] (bZ d6):=
 jX (Mo []) F FK (λcdv A outer s H E hr nd hu bR=>by
  exact⟨_,(aZ (dH (eo oM (pv 1) (dq jK rfl T.eA ka (a8 0)) (fi _))
 (ba (cR (pX (pv 0) (pv 1))))
 dW)
 (aZ (pS 2 (aH cX aC (aH eR (aH eR aC (pv 1)) (pv 1))))
 (aZ (dH (eo KD (dq jK rfl T.eA ka (a8 0)) aC (fi _))
 (ba (pS 2 (aH cX (pv 2) (aH eR (aH cP (pX (pv 0) aC) aC) (aH cX (aH cX (aH eR (pv 1) (pv 1)) (aH eR aC (pv 1))) aC)))))
 dW)
 (ba (cR (pv 2)))))),
  (a9 (dJ (ek (AE.p (au oI (aq 1) (AE.p (fA eA (bh (aq 0) bD))))))
 (fv (AE.w (au cC (aq 0) (aq 1))))
 eE)
 (a9 (dL 2 rfl (au cU (AE.p aD) (AE.p (au eP (AE.p (au eP (AE.p aD) (aq 1))) (aq 1)))))
 (a9 (dJ (ek (AE.p (au FE (AE.p (fA eA (bh (aq 0) bD))) (AE.p aD))))
 (dL 2 rfl (au cU (aq 2) (AE.p (au eP (AE.p (au cS (AE.p (au cC (aq 0) (AE.p aD))) (AE.p aD))) (AE.p (au cU (AE.p (au cU (AE.p (au eP (aq 1) (aq 1))) (AE.p (au eP (AE.p aD) (aq 1))))) (AE.p aD)))))))
 eE)
 (fv (bj 2)))))⟩)
abbrev v0:bC:=top 15
theorem Ht:da ["_law_cell_here","_law_many","_law_letters","_law_long","_law_size","_law_stem","_law_at"] ["_law_cell_here","_law_many"] (bK v0):=eF
theorem Fb{f:ah}{fd:bQ}(F:cD K "_law_words" "_law_words" v0 f fd)(T:Txt mg):bt P w K mg base aL 1 f fd ["_law_cell_here","_law_many"] (cV pO):=
 okN (Mo []) F Ht (λcdv A outer s H E hr nd hu bR=>by
  exact⟨_,(aZ (oV (i:=2) nd rfl (iX rfl) uP)
 (aZ (dH (eo oM (aH cP (pv 0) aC) aC (fi _))
 (aZ (oV (i:=3) nd rfl (iX rfl) (gU Ee Ef Eg Dw uP (ax (jq (N':=["_law_letters","_law_cell_here","_law_k"]) (ρ:=[ab 2,ab 0,ae]) rfl (fF.of rfl (by kernel_rfl)) (iI rfl T.iZ (ax aC bc)) (λ_ _ _ _ _=>(gE (i:=2) (by show(["_law_letters","_law_cell_here","_law_k"]:List Str).Nodup;decide +kernel) rfl (e9 rfl))) (iy rfl) (λ_ _ _ _ _=>i8) (λ_ _ _ _ _=>(pX (pv 0) (aH cP (aH gP (pv 1) (aH cX aC (aH eR aC (pv 2)))) aC)))) bc)))
 (aZ (dH (eo (mF bR) (aH cP (pv 0) aC) aC (fi _))
 (ba (cR (jq (N':=["_law_long","_law_k"]) (ρ:=[ab 3,ae]) rfl (fF.of rfl (by kernel_rfl)) (iI rfl T.iZ (a8 1)) (λ_ _ _ _ _=>(gE (i:=1) kG rfl (e9 rfl))) (iy rfl) (λ_ _ _ _ _=>i8) (λ_ _ _ _ _=>(nh nH (pv 0) oY (lw (aH cX (pv 1) aC)))))))
 dW)
 (ba (cR (jq (N':=["_law_long","_law_k"]) (ρ:=[ab 3,ae]) rfl (fF.of rfl (by kernel_rfl)) (iI rfl T.iZ (a8 1)) (λ_ _ _ _ _=>(gE (i:=1) kG rfl (e9 rfl))) (iy rfl) (λ_ _ _ _ _=>i8) (λ_ _ _ _ _=>(nh nH (pv 0) (lw (aH rW aC (pv 1))) oY)))))))
 dW)
 (aZ (pS 4 (aH cP (aH gP (pv 0) aC) aC))
 (aZ (oV (i:=5) nd rfl (iX rfl) (gU Ee Ef Eg Dw uP (ax (jq (N':=["_law_letters","_law_cell_here","_law_k"]) (ρ:=[ab 2,ab 0,ae]) rfl (fF.of rfl (by kernel_rfl)) (iI rfl T.iZ (a8 4)) (λ_ _ _ _ _=>(gE (i:=2) (by show(["_law_letters","_law_cell_here","_law_k"]:List Str).Nodup;decide +kernel) rfl (e9 rfl))) (iy rfl) (λ_ _ _ _ _=>i8) (λ_ _ _ _ _=>(pX (pv 0) (aH cP (aH cX (aH cX (aH gP (pv 1) aC) (aH eR aC (pv 2))) (aH eR (pv 2) (pv 2))) aC)))) bc)))
 (aZ (oV (i:=6) nd rfl (iX rfl) (aH cP (aH gP (pv 0) aC) (aH cX (pv 4) aC)))
 (ba (cR (jq (N':=["_law_stem","_law_letters","_law_at","_law_cell_here","_law_k"]) (ρ:=[ab 5,ab 2,ab 6,ab 0,ae]) rfl (fF.of rfl (by kernel_rfl)) (iI rfl T.iZ (a8 1)) (λ_ _ _ _ _=>(gE (i:=4) (by show(["_law_stem","_law_letters","_law_at","_law_cell_here","_law_k"]:List Str).Nodup;decide +kernel) rfl (e9 rfl))) (iy rfl) (λ_ _ _ _ _=>i8) (λ_ _ _ _ _=>(aH cX (aH cX (nh nH (pv 0) oY (lw (pv 2))) (pX (pv 1) (aH cP (aH cX (aH gP (pv 3) aC) (aH eR aC (pv 4))) aC))) (nh nH (pv 0) (lw (pv 2)) oY))))))))))),
  (a9 (dL 2 rfl vc)
 (a9 (dJ (ek (AE.p (au oI (AE.p (au cS (aq 0) (AE.p aD))) (AE.p aD))))
 (a9 (dL 3 rfl (Di (AE.p vc) (AE.np (iz (K:=K) (tg:=(.n 2)) (gK.c (iF (AE.p aD))) (by decide) jo (au cC (aq 0) (AE.p (au cS (AE.p (au gO (aq 1) (AE.p (au cU (AE.p aD) (AE.p (au eP (AE.p aD) (aq 2))))))) (AE.p aD))))))))
 (a9 (dJ (ek (AE.p (au mG (AE.p (au cS (aq 0) (AE.p aD))) (AE.p aD))))
 (lP (AE.w (iz (K:=K) (tg:=(.n 1)) (gK.c (iF (aq 1))) (by decide) jo (mQ mX (aq 0) pB (lE (AE.p (au cU (aq 1) (AE.p aD))))))))
 eE)
 (lP (AE.w (iz (K:=K) (tg:=(.n 1)) (gK.c (iF (aq 1))) (by decide) jo (mQ mX (aq 0) (lE (AE.p (au rA (AE.p aD) (aq 1)))) pB))))))
 eE)
 (a9 (dL 4 rfl (au cS (AE.p (au gO (aq 0) (AE.p aD))) (AE.p aD)))
 (a9 (dL 5 rfl (Di (AE.p vc) (AE.np (iz (K:=K) (tg:=(.n 2)) (gK.c (iF (aq 4))) (by decide) jo (au cC (aq 0) (AE.p (au cS (AE.p (au cU (AE.p (au cU (AE.p (au gO (aq 1) (AE.p aD))) (AE.p (au eP (AE.p aD) (aq 2))))) (AE.p (au eP (aq 2) (aq 2))))) (AE.p aD))))))))
 (a9 (dL 6 rfl (au cS (AE.p (au gO (aq 0) (AE.p aD))) (AE.p (au cU (aq 4) (AE.p aD)))))
 (lP (AE.w (iz (K:=K) (tg:=(.n 4)) (gK.c (iF (aq 1))) (by decide) jo (au cU (AE.p (au cU (AE.p (mQ mX (aq 0) pB (lE (aq 2)))) (AE.p (au cC (aq 1) (AE.p (au cS (AE.p (au cU (AE.p (au gO (aq 3) (AE.p aD))) (AE.p (au eP (AE.p aD) (aq 4))))) (AE.p aD))))))) (AE.p (mQ mX (aq 0) (lE (aq 2)) pB)))))))))))⟩)
abbrev vn:bC:=top 16
theorem Jq:da ["_law_cell_here","_law_many","_law_left","_law_ranks_here","_law_draw","_law_k"] ["_law_cell_here","_law_many"] (bK vn):=eF
theorem GI{f:ah}{fd:bQ}(F:cD K "_law_ranks" "_law_ranks" vn f fd)(T:Txt mg):bt P w K mg base aL 1 f fd ["_law_cell_here","_law_many"] (cV pL):=
 okN (Mo [2,3]) F Jq (λcdv A outer s H E hr nd hu bR=>by
  exact⟨_,(aZ (E9 (i:=2) (N':=["_law_k"]) (ρ:=[ae]) rfl nd rfl (e9 rfl) (fF.of rfl (by kernel_rfl)) (iI rfl T.iZ (a8 1)) (λ_ _ _ _ _=>(gE (i:=0) pf rfl (e9 rfl))) (iy rfl) (λ_ _ _ _ _=>i8) (λ_ _ _ _ _=>(pv 0)))
 (aZ (pS 3 (eG bc))
 (aZ (pS 4 (aH cP (pv 0) aC))
 (aZ (fZ gc rfl (iI rfl T.iZ (a8 1)) (pG 5)
 (aZ (pS 4 (aH cP (aH cX (aH cX (aH eR (pv 4) aC) (aH eR aC (pv 5))) aC) aC))
 (ba (gg (gU gA oa og nz (pv 3) (ax (gU gA xz xA vX (pv 2) (ax (aH cP (aH gP (pv 4) aC) (dq jK rfl T.eA ka (a8 2))) bc)) bc))))))
 (ba (cR (pv 3))))))),
  (a9 (j0 2 rfl (iz (K:=K) (tg:=(.n 0)) (gK.c (iF (aq 1))) (by decide) jo (cu 0)))
 (a9 (j0 3 rfl (eu bD))
 (a9 (dL 4 rfl (au cS (aq 0) (AE.p aD)))
 (a9 (gu (K:=K) (tg:=(.n 5)) (iF (aq 1)) (by decide)
 (a9 (dL 4 rfl (au cS (AE.p (au cU (AE.p (au cU (AE.p (au eP (aq 4) (AE.p aD))) (AE.p (au eP (AE.p aD) (aq 5))))) (AE.p aD))) (AE.p aD)))
 (Kl 3 2 (by decide) rfl rfl (AE.p (au cS (AE.p (au gO (aq 4) (AE.p aD))) (AE.p (fA eA (bh (aq 2) bD))))))))
 (oy 3 rfl)))))⟩)
abbrev uH:bC:=top 17
theorem FM:da ["_law_script","_law_most","_law_many","_law_names","_law_ranks_here","_law_thick","_law_arrows","_law_j","_law_k","_law_cell_here"] ["_law_script","_law_most"] (bK uH):=eF
theorem Hl{f:ah}{fd:bQ}(F:cD K "_law_net" "_law_net" uH f fd)(T:Txt mg)(gT:ck P w K mg base aL 1 "_law_cell" ["_law_script","_law_k"] (bZ d6))(xP:ck P w K mg base aL 1 "_law_words" ["_law_cell_here","_law_many"] (cV pO))(xQ:ck P w K mg base aL 1 "_law_ranks" ["_law_cell_here","_law_many"] (cV pL)):bt P w K mg base aL 2 f fd ["_law_script","_law_most"] (bZ qg):=
 jX (Mo [6]) F FM (λcdv A outer s H E hr nd hu bR=>by
  exact⟨_,(aZ (pS 2 (aH cX aC (aH cP (pC gT hr (ax (pv 0) (ax aC bc))) (pv 1))))
 (aZ (pS 3 (pC xP hr (ax (pC gT hr (ax (pv 0) (ax aC bc))) (a8 2))))
 (aZ (pS 4 (pC xQ hr (ax (pC gT hr (ax (pv 0) (ax aC bc))) (a8 2))))
 (aZ (pS 5 (Cc CO (eG (ax aC (ax aC (ax aC (ax aC (ax aC (ax aC bc))))))) (aH cP (pC gT hr (ax (pv 0) (ax aC bc))) aC) (λ_ _=>rfl)))
 (aZ (pS 6 (eG bc))
 (aZ (fZ gc rfl (iI rfl T.iZ (a8 2)) (pG 7)
 (ba (fZ gc rfl (iI rfl T.iZ (a8 2)) (pG 8)
 (aZ (pS 9 (pC gT hr (ax (pv 0) (ax (aH cX (aH cX aC (aH gP (aH eR (dq (zV rfl) rfl T.pE boot_max (ax (pv 7) (a8 8))) (aH rW (dq (zV rfl) rfl T.pE boot_max (ax (pv 7) (a8 8))) aC)) aC)) (dq (IC rfl) rfl T.u0 boot_min (ax (pv 7) (a8 8)))) bc))))
 (ba (dH (PW.pt (pw_and (eo oM (pX (pv 4) (pv 7)) (pX (pv 4) (pv 8)) (fi _)) (pw_and1 (eo oM (aH cP (aH gP (aH cP (aH eR (pv 9) aC) aC) aC) aC) (pv 5) (fi _)))))
 (ba (gg (gU gA oa og nz (pv 6) (ax (kP (ax (pX (pv 3) (pv 7)) (ax (pX (pv 3) (pv 8)) bc))) bc))))
 dW))))))
 (ba (cR (kP (ax (u6 C6 rfl T.mI boot_tuple (a8 3)) (ax (u6 C6 rfl T.mI boot_tuple (a8 6)) bc))))))))))),
  (a9 (dL 2 rfl (au cU (AE.p aD) (AE.p (au cS (AE.p (dU (aN (bj 0) (aN (AE.w aD) ce)))) (aq 1)))))
 (a9 (dL 3 rfl (AE.nv (gV (aN (AE.w (dU (aN (bj 0) (aN (AE.w aD) ce)))) (aN (bj 2) ce)))))
 (a9 (dL 4 rfl (AE.nv (gV (aN (AE.w (dU (aN (bj 0) (aN (AE.w aD) ce)))) (aN (bj 2) ce)))))
 (a9 (dL 5 rfl (au cC (AE.np (eu (bh aD (bh aD (bh aD (bh aD (bh aD (bh aD bD)))))))) (AE.p (au cS (AE.p (dU (aN (bj 0) (aN (AE.w aD) ce)))) (AE.p aD)))))
 (a9 (j0 6 rfl (eu bD))
 (a9 (gu (K:=K) (tg:=(.n 7)) (iF (aq 2)) (by decide)
 (gu (K:=K) (tg:=(.n 8)) (iF (aq 2)) (by decide)
 (a9 (dL 9 rfl (dU (aN (bj 0) (aN (AE.w (au cU (AE.p (au cU (AE.p aD) (AE.p (au gO (AE.p (au eP (AE.p (fA pE (bh (aq 7) (bh (aq 8) bD)))) (AE.p (au rA (AE.p (fA pE (bh (aq 7) (bh (aq 8) bD)))) (AE.p aD))))) (AE.p aD))))) (AE.p (fA u0 (bh (aq 7) (bh (aq 8) bD)))))) ce))))
 (dJ (rD (ek (AE.p (au oI (AE.p (au cC (aq 4) (aq 7))) (AE.p (au cC (aq 4) (aq 8)))))) (ek (AE.p (au oI (AE.p (au cS (AE.p (au gO (AE.p (au cS (AE.p (au eP (aq 9) (AE.p aD))) (AE.p aD))) (AE.p aD))) (AE.p aD))) (aq 5)))))
 (pN 6 rfl (mR (bh (au cC (aq 3) (aq 7)) (bh (au cC (aq 3) (aq 8)) bD))))
 eE))))
 (fv (AE.w (mR (bh (fA mI (bh (aq 3) bD)) (bh (fA mI (bh (aq 6) bD)) bD)))))))))))⟩)
abbrev uS:bC:=top 19
theorem Ju:da ["_law_script","_law_most","_law_cell_here","_law_more","_law_first"] ["_law_script","_law_most"] (bK uS):=eF
theorem FD{f:ah}{fd:bQ}(F:cD K "_law_two" "_law_two" uS f fd)(T:Txt mg)(gT:ck P w K mg base aL 1 "_law_cell" ["_law_script","_law_k"] (bZ d6))(xR:ck P w K mg base aL 2 "_law_net" ["_law_script","_law_most"] (bZ qg)):bt P w K mg base aL 3 f fd ["_law_script","_law_most"] (bZ ou):=
 jX (Mo []) F Ju (λcdv A outer s H E hr nd hu bR=>by
  exact⟨_,(aZ (pS 2 (pC gT hr (ax (pv 0) (ax aC bc))))
 (aZ (pS 3 (aH cP (aH gP (pv 2) (aH rW (pv 1) aC)) (aH FP aC aC)))
 (aZ (pS 4 (aH cX (aH cX aC (aH cP (pv 2) (aH rW (pv 1) aC))) (aH eR (pv 1) (pv 3))))
 (ba (cR (pC xR hr (ax (aH cX (eG (a8 4)) (nh nH (pv 0) (lw aC) oY)) (a8 1)))))))),
  (a9 (dL 2 rfl (dU (aN (bj 0) (aN (AE.w aD) ce))))
 (a9 (dL 3 rfl (au cS (AE.p (au gO (aq 2) (AE.p (au rA (aq 1) (AE.p aD))))) (AE.p (au Hx (AE.p aD) (AE.p aD)))))
 (a9 (dL 4 rfl (au cU (AE.p (au cU (AE.p aD) (AE.p (au cS (aq 2) (AE.p (au rA (aq 1) (AE.p aD))))))) (AE.p (au eP (aq 1) (aq 3)))))
 (fv (AE.w (dU (aN (AE.w (au cU (AE.np (eu (bh (cu 4) bD))) (AE.p (mQ mX (aq 0) (lE (AE.p aD)) pB)))) (aN (bj 1) ce))))))))⟩)
abbrev wI:bC:=top 20
theorem HK:da ["_law_script","_law_many","_law_found","_law_k","_law_cell_here"] ["_law_script","_law_many"] (bK wI):=eF
theorem JU{f:ah}{fd:bQ}(F:cD K "_law_questions" "_law_questions" wI f fd)(T:Txt mg)(gT:ck P w K mg base aL 1 "_law_cell" ["_law_script","_law_k"] (bZ d6)):bt P w K mg base aL 2 f fd ["_law_script","_law_many"] (cV oE):=
 okN (Mo [2]) F HK (λcdv A outer s H E hr nd hu bR=>by
  exact⟨_,(aZ (pS 2 (eG (ax (aH cP (pC gT hr (ax (pv 0) (ax aC bc))) aC) bc)))
 (aZ (fZ gc rfl (F3 rfl T.Li (nh nH (pv 0) (lw aC) (lw aC))) (AB rfl (li (pG 3) (li (pG 4) uL)))
 (ba (dH (eo oM (aH cX (pv 3) aC) (pv 1) (fi _))
 (ba (gg (gU gA oa og nz (pv 2) (ax (aH cP (pv 4) aC) bc))))
 (ba (yY (aH cP (aH cX (aH eR (pX (pv 2) (aH cP (pv 3) (pv 1))) aC) (pv 4)) aC) (Ke (pv 2) (aH cP (pv 3) (pv 1)) set_list))))))
 (ba (cR (pv 2))))),
  (a9 (j0 2 rfl (eu (bh (au cS (AE.p (dU (aN (bj 0) (aN (AE.w aD) ce)))) (AE.p aD)) bD)))
 (a9 (gu (K:=K) (tg:=(.t [3,4])) (HD (mQ mX (aq 0) (lE (AE.p aD)) (lE (AE.p aD)))) (by decide)
 (dJ (ek (AE.p (au oI (AE.p (au cU (aq 3) (AE.p aD))) (aq 1))))
 (pN 2 rfl (au cS (aq 4) (AE.p aD)))
 (JH 2 rfl (au cS (AE.p (au cU (AE.p (au eP (AE.p (au cC (aq 2) (AE.p (au cS (aq 3) (aq 1))))) (AE.p aD))) (aq 4))) (AE.p aD)) (AE.p (au cS (aq 3) (aq 1))))))
 (oy 2 rfl)))⟩)
abbrev uw:bC:=top 21
theorem Gg:da ["_law_net_here","_law_draw","_law_names","_law_one","_law_other","_law_held","_law_k"] ["_law_net_here","_law_draw"] (bK uw):=eF
theorem HB{f:ah}{fd:bQ}(F:cD K "_law_asked" "_law_asked" uw f fd)(T:Txt mg):bt P w K mg base aL 1 f fd ["_law_net_here","_law_draw"] (cV l5):=
 okN (Mo [2,5]) F Gg (λcdv A outer s H E hr nd hu bR=>by
  exact⟨_,(aZ (pS 2 (u6 FC rfl T.ng boot_list (ax (pX (pv 0) aC) bc)))
 (aZ (pS 3 (gU gA xz xA vX (pv 2) (ax (aH cP (pv 1) (dq jK rfl T.eA ka (a8 2))) bc)))
 (aZ (pS 4 (gU gA xz xA vX (pv 2) (ax (aH cP (aH gP (pv 1) aC) (dq jK rfl T.eA ka (a8 2))) bc)))
 (aZ (pS 5 (eG bc))
 (aZ (fZ gc rfl (iI rfl T.iZ (ax (dq jK rfl T.eA ka (a8 2)) bc)) (pG 6)
 (ba (dH (eo (mF bR) (aH cP (aH gP (aH cP (aH eR (pv 1) (aH cX aC (aH eR (aH eR aC (pv 6)) (pv 6)))) aC) aC) (aH cX aC (aH cP (aH gP (pv 1) aC) aC))) aC (fi _))
 (ba (gg (gU gA oa og nz (pv 5) (ax (pX (pv 2) (pv 6)) bc))))
 dW)))
 (aZ (dH (eo (mF bR) (aH cP (aH gP (pv 1) aC) aC) aC (fi _))
 (ba (gg (wH gA PySem.F.slot_list_reverse PySem.F.type_list_reverse JS (pv 5))))
 dW)
 (ba (cR (eG (ax (pv 3) (ax (pv 4) (a8 5)))))))))))),
  (a9 (j0 2 rfl (fA ng (bh (AE.p (au cC (aq 0) (AE.p aD))) bD)))
 (a9 (zH 3 2 rfl rfl (AE.p (au cS (aq 1) (AE.p (fA eA (bh (aq 2) bD))))))
 (a9 (zH 4 2 rfl rfl (AE.p (au cS (AE.p (au gO (aq 1) (AE.p aD))) (AE.p (fA eA (bh (aq 2) bD))))))
 (a9 (j0 5 rfl (eu bD))
 (a9 (gu (K:=K) (tg:=(.n 6)) (iF (AE.p (fA eA (bh (aq 2) bD)))) (by decide)
 (dJ (ek (AE.p (au mG (AE.p (au cS (AE.p (au gO (AE.p (au cS (AE.p (au eP (aq 1) (AE.p (au cU (AE.p aD) (AE.p (au eP (AE.p (au eP (AE.p aD) (aq 6))) (aq 6))))))) (AE.p aD))) (AE.p aD))) (AE.p (au cU (AE.p aD) (AE.p (au cS (AE.p (au gO (aq 1) (AE.p aD))) (AE.p aD))))))) (AE.p aD))))
 (pN 5 rfl (au cC (aq 2) (aq 6)))
 eE))
 (a9 (dJ (ek (AE.p (au mG (AE.p (au cS (AE.p (au gO (aq 1) (AE.p aD))) (AE.p aD))) (AE.p aD))))
 (G3 5 rfl)
 eE)
 (FT 5 rfl (lP (AE.w (eu (bh (cu 3) (bh (cu 4) (bh (cu 5) bD)))))))))))))⟩)
abbrev vO:bC:=top 22
theorem G9:da ["_law_net_here","_law_one","_law_other"] ["_law_net_here","_law_one","_law_other"] (bK vO):=eF
theorem Jx{f:ah}{fd:bQ}(F:cD K "_law_tied" "_law_tied" vO f fd)(T:Txt mg):bt P w K mg base aL 1 f fd ["_law_net_here","_law_one","_law_other"] (bZ iP):=
 jX (Mo []) F G9 (λcdv A outer s H E hr nd hu bR=>by
  exact⟨_,(ba (cR (yM (oz (sA bR) (kP (ax (pv 1) (a8 2))) (pX (pv 0) aC) rfl) (vF (oz (sA bR) (kP (ax (pv 2) (a8 1))) (pX (pv 0) aC) rfl))))),
  (fv (AE.w (AJ (AE.p (au rp (AE.p (mR (bh (cu 1) (bh (cu 2) bD)))) (AE.p (au cC (aq 0) (AE.p aD))))) (au rp (AE.p (mR (bh (cu 2) (bh (cu 1) bD)))) (AE.p (au cC (aq 0) (AE.p aD)))))))⟩)
abbrev uM:bC:=top 23
theorem GY:da ["_law_net_here","_law_one","_law_other","_law_due_here","_law_grown","_law_turn","_law_longer","_law_road","_law_name"] ["_law_net_here","_law_one","_law_other"] (bK uM):=eF
theorem GJ{f:ah}{fd:bQ}(F:cD K "_law_roads" "_law_roads" uM f fd)(T:Txt mg)(ud:ck P w K mg base aL 1 "_law_tied" ["_law_net_here","_law_one","_law_other"] (bZ iP)):bt P w K mg base aL 2 f fd ["_law_net_here","_law_one","_law_other"] (cV mE):=
 okN (Mo [3,6]) F GY (λcdv A outer s H E hr nd hu bR=>by
  exact⟨_,(aZ (pS 3 (eG bc))
 (aZ (pS 4 (eG (ax (eG (a8 1)) bc)))
 (aZ (fZ gc rfl (iI rfl T.iZ (ax (dq jK rfl T.eA ka (ax (pX (pv 0) aC) bc)) bc)) (pG 5)
 (aZ (pS 6 (eG bc))
 (aZ (fZ gc rfl (gJ (pv 4)) (pG 7)
 (ba (fZ gc rfl (gJ (pX (pv 0) aC)) (pG 8)
 (ba (dH (PW.pt (pw_and (eo (mF bR) (pv 8) (pv 2) (fi _)) (pw_and1 (i0 (pC ud hr (ax (pv 0) (ax (pX (pv 7) (rP rR aC)) (a8 8))))))))
 (ba (gg (gU gA oa og nz (pv 3) (ax (aH cX (pv 7) (eG (a8 8))) bc))))
 (ba (dH (PW.pt (pw_and (eo (uI bR) (pv 8) (pv 7) rfl) (pw_and (eo (p6 bR) (pv 8) (pv 2) (fi _)) (pw_and1 (i0 (pC ud hr (ax (pv 0) (ax (pX (pv 7) (rP rR aC)) (a8 8)))))))))
 (ba (gg (gU gA oa og nz (pv 6) (ax (aH cX (pv 7) (eG (a8 8))) bc))))
 dW)))))))
 (ba (pS 4 (pv 6))))))
 (ba (cR (pv 3)))))),
  (a9 (j0 3 rfl (eu bD))
 (a9 (dL 4 rfl (AE.nv (eu (bh (AE.nv (eu (bh (cu 1) bD))) bD))))
 (a9 (gu (K:=K) (tg:=(.n 5)) (iF (AE.p (fA eA (bh (AE.p (au cC (aq 0) (AE.p aD))) bD)))) (by decide)
 (a9 (j0 6 rfl (eu bD))
 (a9 (gu (K:=K) (tg:=(.n 7)) (ly (cu 4)) (by decide)
 (gu (K:=K) (tg:=(.n 8)) (ly (au cC (aq 0) (AE.p aD))) (by decide)
 (dJ (rD (ek (AE.p (au mG (aq 8) (aq 2)))) (hV (AE.p (dU (aN (bj 0) (aN (AE.w (au cC (aq 7) (AE.p (rZ r0 (AE.p aD))))) (aN (bj 8) ce)))))))
 (pN 3 rfl (au cU (aq 7) (AE.np (eu (bh (cu 8) bD)))))
 (dJ (rD (ek (AE.p (au wg (aq 8) (aq 7)))) (rD (ek (AE.p (au pI (aq 8) (aq 2)))) (hV (AE.p (dU (aN (bj 0) (aN (AE.w (au cC (aq 7) (AE.p (rZ r0 (AE.p aD))))) (aN (bj 8) ce))))))))
 (pN 6 rfl (au cU (aq 7) (AE.np (eu (bh (cu 8) bD)))))
 eE))))
 (HE 4 6 rfl rfl))))
 (oy 3 rfl))))⟩)
abbrev u3:bC:=top 24
theorem JB:da ["_law_net_here","_law_one","_law_other","_law_rows"] ["_law_net_here","_law_one","_law_other"] (bK u3):=eF
theorem Hk{f:ah}{fd:bQ}(F:cD K "_law_due" "_law_due" u3 f fd)(T:Txt mg)(xS:ck P w K mg base aL 2 "_law_roads" ["_law_net_here","_law_one","_law_other"] (cV mE)):bt P w K mg base aL 3 f fd ["_law_net_here","_law_one","_law_other"] (cV kU):=
 okN (Mo []) F JB (λcdv A outer s H E hr nd hu bR=>by
  exact⟨_,(aZ (pS 3 (dq (GQ bR) rfl T.Lj boot_sorted (ax (jq (N':=["_law_net_here","_law_road"]) (ρ:=[ab 0,ae]) rfl (fF.of rfl (by kernel_rfl)) (gJ (pC xS hr (ax (pv 0) (ax (pv 1) (a8 2))))) (λ_ _ _ _ _=>(gE (i:=1) kG rfl (e9 rfl))) (iy rfl) (λ_ _ _ _ _=>i8) (λ_ _ _ _ _=>(jq (N':=["_law_net_here","_law_name"]) (ρ:=[ab 0,ae]) rfl (fF.of rfl (by kernel_rfl)) (gJ (pv 1)) (λ_ _ _ _ _=>(gE (i:=1) kG rfl (e9 rfl))) (iy rfl) (λ_ _ _ _ _=>i8) (λ_ _ _ _ _=>(Ga PySem.F.plainAttrs_tuple Ea PySem.F.type_tuple_index GO gA Eb PySem.F.type_list_index G1 (pX (pv 0) aC) (a8 1)))))) bc)))
 (ba (cR (jq (N':=["_law_net_here","_law_row"]) (ρ:=[ab 0,ae]) rfl (fF.of rfl (by kernel_rfl)) (gJ (pv 3)) (λ_ _ _ _ _=>(gE (i:=1) kG rfl (e9 rfl))) (iy rfl) (λ_ _ _ _ _=>i8) (λ_ _ _ _ _=>(jq (N':=["_law_net_here","_law_k"]) (ρ:=[ab 0,ae]) rfl (fF.of rfl (by kernel_rfl)) (gJ (pv 1)) (λ_ _ _ _ _=>(gE (i:=1) kG rfl (e9 rfl))) (iy rfl) (λ_ _ _ _ _=>i8) (λ_ _ _ _ _=>(pX (pX (pv 0) aC) (pv 1))))))))),
  (a9 (dL 3 rfl (AE.nv (fA Gb (bh (AE.np (iz (K:=K) (tg:=(.n 1)) (oH (AE.np (gV (aN (bj 0) (aN (bj 1) (aN (bj 2) ce)))))) (by decide) jo (AE.nv (iz (K:=K) (tg:=(.n 1)) (oH (aq 1)) (by decide) jo (JD (AE.p (au cC (aq 0) (AE.p aD))) (aq 1)))))) bD))))
 (lP (AE.w (iz (K:=K) (tg:=(.n 1)) (oH (aq 3)) (by decide) jo (AE.nv (iz (K:=K) (tg:=(.n 1)) (oH (aq 1)) (by decide) jo (au cC (AE.p (au cC (aq 0) (AE.p aD))) (aq 1))))))))⟩)
abbrev wz:bC:=top 25
theorem II:da ["_law_script","_law_net_here","_law_draw","_law_one","_law_other","_law_held","_law_due_here","_law_found","_law_road"] ["_law_script"] (bK wz):=eF
theorem Fl{f:ah}{fd:bQ}(F:cD K "law" "law" wz f fd)(T:Txt mg)(qF:ck P w K mg base aL 10 "all_roads" ["net","one","other"] (cV iq))(ki:∀n,ck P w K mg base aL (n+1) "_law_alike" ["_law_found","_law_due_here"] (bZ (cL n)))(xT:ck P w K mg base aL 3 "_law_two" ["_law_script","_law_most"] (bZ ou))(xU:ck P w K mg base aL 2 "_law_questions" ["_law_script","_law_many"] (cV oE))(xV:ck P w K mg base aL 1 "_law_asked" ["_law_net_here","_law_draw"] (cV l5))(ue:ck P w K mg base aL 3 "_law_due" ["_law_net_here","_law_one","_law_other"] (cV kU)):bt P w K mg base aL 11 f fd ["_law_script"] (bZ uA):=
 jX (Mo []) F II (λcdv A outer s H E hr nd hu bR=>by
  have qE:=hr.mono (show(4+1)<=_ by decide);exact⟨_,(aZ (pS 1 (pC xT hr (ax (pv 0) (ax aC bc))))
 (aZ (fZ gc rfl (gJ (pC xU hr (ax (pv 0) (ax aC bc)))) (pG 2)
 (aZ (yY (pC xV hr (ax (pv 1) (a8 2))) (JT rfl (li (pG 3) (li (pG 4) (li (pG 5) uL)))))
 (aZ (pS 6 (pC ue hr (ax (pv 1) (ax (pv 3) (a8 4)))))
 (aZ (pS 7 (pC qF hr (ax (pv 1) (ax (pv 3) (a8 4)))))
 (aZ (dH (qa (i0 (lQ (ki 4) qE rfl lR (ax (pv 7) (a8 6)))))
 (ba (cR jg))
 dW)
 (aZ (fZ gc rfl (gJ (pv 7)) (pG 8)
 (ba (gg (wH gA Ec Ed zN (pv 8)))))
 (aZ (gg (wH gA Ec Ed zN (pv 7)))
 (aZ (dH (qa (i0 (lQ (ki 4) qE rfl lR (ax (pC qF hr (ax (pv 1) (ax (pv 4) (a8 3)))) (ax (pC ue hr (ax (pv 1) (ax (pv 4) (a8 3)))) bc)))))
 (ba (cR jg))
 dW)
 (ba (dH (qa (i0 (lQ (ki 4) qE rfl lR (ax (pC qF hr (ax (pv 1) (ax (pv 3) (a8 4)))) (a8 6)))))
 (ba (cR jg))
 dW))))))))))
 (ba (cR jg)))),
  (a9 (dL 1 rfl (dU (aN (bj 0) (aN (AE.w aD) ce))))
 (a9 (gu (K:=K) (tg:=(.n 2)) (ly (AE.nv (gV (aN (bj 0) (aN (AE.w aD) ce))))) (by decide)
 (a9 (Kc [3,4,5] (by decide) (AE.nv (gV (aN (bj 1) (aN (bj 2) ce)))))
 (a9 (dL 6 rfl (AE.nv (gV (aN (bj 1) (aN (bj 3) (aN (bj 4) ce))))))
 (Ih (K:=K) [1,3,4] 7 8 (by decide) (by decide) rfl (gV (aN (bj 1) (aN (bj 3) (aN (bj 4) ce)))) (qc (hV (AE.p (dU (aN (bj 7) (aN (bj 6) ce))))))
 (fv (AE.w ji))
 (a9 (dJ (qc (hV (AE.p (dU (aN (AW.nv (AE.w (gV (aN (bj 1) (aN (bj 4) (aN (bj 3) ce)))))) (aN (AW.nv (AE.w (gV (aN (bj 1) (aN (bj 4) (aN (bj 3) ce)))))) ce))))))
 (fv (AE.w ji))
 eE)
 (dJ (qc (hV (AE.p (dU (aN (AW.nv (AE.w (gV (aN (bj 1) (aN (bj 3) (aN (bj 4) ce)))))) (aN (bj 6) ce))))))
 (fv (AE.w ji))
 eE))))))
 (fv (AE.w ji))))⟩)
end
end oo
namespace L2
open PySem PySem.Spec PyProof.Rows
theorem Gm[Tb:A.a7](h0:Tb.l=[]){H:Hp}(o:Only H):A.jk H:=⟨λp hp=>by rw[h0]at hp;exact(nomatch hp),λT q ps e=>by
 rcases o T with z|⟨u,xs,z⟩<;>rw[z]at e<;>(cases e),λa q xs e=>by
 rcases o a with z|⟨u,ns,z⟩<;>rw[z]at e<;>(cases e);intro x hx;obtain⟨i,_,rfl⟩:=c8.mp hx;exact⟨i,rfl⟩⟩
theorem c6.K7{P:bb}{w:aT}{K:aB}{mg:Str->Option ag}{CX:eK}{k:Nat}{x p:Str}{st:bC}{sp:Sp}{fa:ah}(F:c6 K mg x st [p])(hm:mg x=ab (.ref fa))(h:∀base,K.In base->base.Ns mainGlobals mg->∀f fd,cD K x x st f fd->bt P w K mg base CX k f fd [p] sp) :
 ∃fd:bQ,(∀(s:ak) (u:ag),lb s fd ⟨[u],[]⟩ [(p,u)])/\∀base:aI,K.In base->base.Ns mainGlobals mg->bt P w K mg base CX k fa fd [p] sp:=by
 obtain⟨f,fd,h1,h2,h3,h5,h4⟩:=F.ex;rw[h1]at hm;cases hm;exact⟨fd,λs u=>h5 s [u] rfl,λbase kb nb=>h base kb nb _ fd h4⟩
theorem CV{P:bb}{w:aT}{K:aB}{mg:Str->Option ag}{base:aI}{CX:eK}{lv:Nat->Nat}{x:Str}{st:bC}{ps:List Str}{sp:Nat->Sp}(F:c6 K mg x st ps)
 (h:∀f fd,cD K x x st f fd->(∀n,bt P w K mg base CX (lv n) f fd ps (sp n)->ck P w K mg base CX (lv n) x ps (sp n))->∀n,bt P w K mg base CX (lv n) f fd ps (sp n)) (n:Nat):ck P w K mg base CX (lv n) x ps (sp n):=by
 obtain⟨f,fd,h1,h2,h3,_,h4⟩:=F.ex;have self:∀n,bt P w K mg base CX (lv n) f fd ps (sp n)->ck P w K mg base CX (lv n) x ps (sp n):=λn k=>⟨f,fd,h1,h2,h3,k⟩;exact self n (h f fd h4 self n)
def yV(K:aB):Bool:=K.all λp=>match p.2.cls with|.type "list" => false|_=>true
theorem Gd{K:aB}(h:yV K=true){a:ah}{o:Obj}(e:K.lookup a=ab o)(c:o.cls=.type "list"):False:=by
 have hm:(a,o)∈K:=by
  clear h
  induction K with
  |nil=>cases e
  |cons p r ih=>
   obtain⟨b,x⟩:=p;simp only[List.lookup]at e;split at e
   ·rename_i q;cases e;rw[jN.mp q];exact List.Mem.head _
   ·exact List.Mem.tail _ (ih e)
 have h2:=fm.mp h _ hm;simp only[c]at h2;cases h2
end L2
namespace Mi
open PySem
@[simp] theorem lG {α:Type} (a:α):cA (ab a)=.ok a:=rfl
@[simp] theorem LF {α:Type} {c:Prop} [Decidable c] (h:c) (r:Rs α):a6 c r=r:=aw h
@[simp] theorem oO (a b:Str):bi (.str a) (.str b)=decide (a=b):=by rw[bi];by_cases h:a=b<;>simp[h]
@[simp] theorem zI (a b:Int):bi (.int a) (.int b)=decide (a=b):=by rw[bi];by_cases h:a=b<;>simp[h]
@[simp] theorem IH (x:Str):(D.str x).dep=0:=by simp[D.dep]
@[simp] theorem Lw (x:Int):(D.int x).dep=0:=by simp[D.dep]
@[simp] theorem Lv (x:Bool):(D.bl x).dep=0:=by simp[D.dep]
@[simp] theorem LA:D.non.dep=0:=by simp[D.dep]
@[simp] theorem LC (ds:List D):(D.lst ds).dep=cH ds+1:=by simp[D.dep]
@[simp] theorem LG (ds:List D):(D.tup ds).dep=cH ds+1:=by simp[D.dep]
@[simp] theorem Lr:cH []=0:=rfl
@[simp] theorem y3 (d:D) (r:List D):cH (d::r)=max d.dep (cH r):=by rw[cH]
@[simp] theorem vv:∀xs:List Str,cH (xs.map D.str)=0
 |[]=>rfl
 |x::r=>by rw[cq,y3,IH,vv r];rfl
theorem AV(xs:List Str)(x:Str):((xs.map D.str).any λe=>bi e (.str x))=decide (x∈xs):=by
 induction xs with
 |nil=>rfl
 |cons y r ih=>
  rw[cq,iU,ih,oO];by_cases h:y=x
  ·simp[h]
  ·have h2:¬ x=y:=λz=>h z.symm;simp[h,h2]
theorem y6(xs:List Str)(x:Str):iu (.str x) (.lst (xs.map D.str))=.ok (.bl (!decide (x∈xs))):=by show a6 _ _=_;rw[aE (by rw[vv];omega),AV]
theorem JA(xs:List Str)(x:Str):iu (.str x) (.tup (xs.map D.str))=.ok (.bl (!decide (x∈xs))):=by show a6 _ _=_;rw[aE (by rw[vv];omega),AV]
theorem uO(x y:Str):dZ (.str x) (.str y)=.ok (.bl (decide (x=y))):=by show a6 _ _=_;rw[aE (by simp),oO]
theorem JG(x y:Str):fH (.str x) (.str y)=.ok (.bl (!decide (x=y))):=by show a6 _ _=_;rw[aE (by simp),oO]
theorem sH(x y:Int):dZ (.int x) (.int y)=.ok (.bl (decide (x=y))):=by show a6 _ _=_;rw[aE (by simp),zI]
theorem Cd(x y:Int):fH (.int x) (.int y)=.ok (.bl (!decide (x=y))):=by show a6 _ _=_;rw[aE (by simp),zI]
theorem z7(xs:List Str):iC (xs.map D.str)=ab xs:=by
 induction xs with
 |nil=>rfl
 |cons a r ih=>rw[cq,iC,ih];rfl
theorem zd(n:Nat)(b:S)(a0:W):eD 1 n b [a0]=(b ([ab a0]++dm (n-1) ae)).bind jL:=aE rfl
theorem jZ(n:Nat)(b:S)(a0 a1:W):eD 2 n b [a0,a1]=(b ([ab a0,ab a1]++dm (n-2) ae)).bind jL:=aE rfl
theorem Cr(n:Nat)(b:S)(a0 a1 a2:W):eD 3 n b [a0,a1,a2]=(b ([ab a0,ab a1,ab a2]++dm (n-3) ae)).bind jL:=aE rfl
theorem HM(n:Nat)(b:S)(a0:W):fR 1 n b [a0]=(b ([ab a0]++dm (n-1) ae)).bind jb:=aE rfl
theorem sG(n:Nat)(b:S)(a0 a1:W):fR 2 n b [a0,a1]=(b ([ab a0,ab a1]++dm (n-2) ae)).bind jb:=aE rfl
theorem sO(n:Nat)(b:S)(a0 a1 a2:W):fR 3 n b [a0,a1,a2]=(b ([ab a0,ab a1,ab a2]++dm (n-3) ae)).bind jb:=aE rfl
theorem lI(i j:Int):aV (.int i) (.int j)=.ok (.int (i+j)):=rfl
theorem Ac(i j:Str):aV (.str i) (.str j)=a6 (i.length+j.length<=16777216) (.ok (.str (i++j))):=rfl
theorem zM(i j:List D):aV (.lst i) (.lst j)=a6 (i.length+j.length<=16777216) (.ok (.lst (i++j))):=rfl
theorem JI(i j:Int):iK (.int i) (.int j)=.ok (.int (i-j)):=rfl
theorem oX(i j:Int):bp (.int i) (.int j)=a6 (jG i j) (.ok (.int (i*j))):=rfl
theorem div_ii(i j:Int):bP (.int i) (.int j)=a6 (jS j) (.ok (.int (i/j))):=rfl
theorem kF(i j:Int):aU (.int i) (.int j)=a6 (0<j) (.ok (.int (i%j))):=rfl
theorem sF(i j:Int):dB (.int i) (.int j)=.ok (.bl (decide (i<j))):=rfl
theorem CD(ds:List D):cT [.lst ds]=.ok (.int ds.length):=rfl
theorem HZ(ds:List D):cT [.tup ds]=.ok (.int ds.length):=rfl
theorem IU(i j:Int):gI [.int i,.int j]=.ok (.int (max i j)):=rfl
theorem IS(i j:Int):ko [.int i,.int j]=.ok (.int (min i j)):=rfl
theorem vj(z:Str)(lo hi:Option Int):gq (.str z) lo hi=a6 (z.length<=16777216) (.ok (.str (km z lo hi))):=rfl
theorem F9(ds:List D):sP (.lst ds)=.ok ds:=rfl
theorem uV(b:Bool):nF (.bl b)=.ok b:=rfl
theorem kK(b:Int):lH (.int b)=.ok b:=rfl
theorem v4(x:D):sg (.d x)=.ok x:=rfl
theorem FO(i:Nat)(d:D)(e:Mi.Env):(Tg.n i).put d e=.ok (e.set i (ab (.d d))):=rfl
theorem all_cons(i:Nat)(is:List Nat)(d:D)(ds:List D)(e:Mi.Env):kY (i::is) (d::ds) e=kY is ds (e.set i (ab (.d d))):=rfl
theorem Gu(e:Mi.Env):jL (.nx e)=.ok (.d .non):=rfl
theorem JN(w:W):jb (.rt w)=.ok w:=rfl
theorem av{f:D->D->Rs D}{a b:E}{e:Mi.Env}{x y:D}{z:Rs D}(ha:a e=.ok x)(hb:b e=.ok y)(h:f x y=z):m2 f a b e=z:=by unfold m2;rw[ha,aM,hb,aM,h]
theorem aR{s t:S}{e e':Mi.Env}(h:s e=.ok (.nx e')):aP s t e=t e':=by unfold aP;rw[h];rfl
theorem lY{s t:S}{e:Mi.Env}{w:W}(h:s e=.ok (.rt w)):aP s t e=.ok (.rt w):=by unfold aP;rw[h];rfl
theorem ca{i:Nat}{a:E}{e:Mi.Env}{d:D}(h:a e=.ok d):bE i a e=.ok (.nx (e.set i (ab (.d d)))):=by unfold bE;rw[h];rfl
theorem fB{a:EW}{e:Mi.Env}{w:W}(h:a e=.ok w):bI a e=.ok (.rt w):=by unfold bI;rw[h];rfl
theorem cv{a:E}{e:Mi.Env}{d:D}(h:a e=.ok d):wD a e=.ok (.d d):=by unfold wD;rw[h];rfl
theorem fS{c:C}{s t:S}{e:Mi.Env}(h:c e=.ok true):bx c s t e=s e:=by unfold bx;rw[h];rfl
theorem c9{c:C}{s t:S}{e:Mi.Env}(h:c e=.ok false):bx c s t e=t e:=by unfold bx;rw[h];rfl
theorem cQ{a:E}{e:Mi.Env}{b:Bool}(h:a e=.ok (.bl b)):cB a e=.ok b:=by unfold cB;rw[h];rfl
theorem h9{ρ:List (Option Nat)}{it:I}{tg:Tg}{c:C}{a:E}{e:Mi.Env}{xs ys:List D}(h:it e=.ok xs)(hl:xs.length<=16777216)(hc:d5 tg c a (ja ρ e) xs=.ok ys):d3 ρ it tg c a e=.ok (.lst ys):=by unfold d3;rw[h,aM,aE hl,hc,aM]
theorem ie{a:E}{e:Mi.Env}{n:Int}(h:a e=.ok (.int n))(hr:okR n):fN a e=.ok (cY 0 n):=by unfold fN;rw[h,aM,kK,aM,aE hr]
theorem gs{it:I}{tg:Tg}{b:S}{e:Mi.Env}{xs:List D}(h:it e=.ok xs):dF it tg b e=fL tg b xs e:=by unfold dF;rw[h];rfl
theorem iN{a:E}{e:Mi.Env}{x:D}{xs:List D}(h:a e=.ok x)(hx:sP x=.ok xs):cW a e=.ok xs:=by unfold cW;rw[h,aM,hx]
theorem o0{i:Nat}{a:E}{e:Mi.Env}{d:D}{ds:List D}(h:a e=.ok d)(hg:getL e i=.ok ds)(hl:ds.length<16777216):fW i a e=.ok (.nx (putL e i (ds++[d]))):=by unfold fW;rw[h,aM,hg,aM,aE hl]
theorem kn{f:List D->Rs D}{a:E}{e:Mi.Env}{x:D}(h:a e=.ok x):mN f [a] e=f [x]:=by unfold mN;rw[fG,h];rfl
theorem wc{f:List D->Rs D}{a b:E}{e:Mi.Env}{x y:D}(h:a e=.ok x)(h':b e=.ok y):mN f [a,b] e=f [x,y]:=by unfold mN;rw[fG,h,aM,fG,h'];rfl
theorem kJ{a:E}{e:Mi.Env}{x:D}(h:a e=.ok x):mN cx [a] e=.ok (.lst [x]):=by rw[kn h];exact aE (by simp)
theorem nG{a b:E}{e:Mi.Env}{x y:D}(h:a e=.ok x)(h':b e=.ok y):mN dTup [a,b] e=.ok (.tup [x,y]):=by rw[wc h h'];exact aE (by simp)
theorem Fj{f:Fn}{a:EW}{e:Mi.Env}{x:W}{d:D}(h:a e=.ok x)(hf:f [x]=.ok (.d d)):aW f [a] e=.ok d:=by unfold aW kR;rw[eS,h];simp only[aM,eS,hf,v4]
theorem call2{f:Fn}{a b:EW}{e:Mi.Env}{x y:W}{d:D}(h:a e=.ok x)(h':b e=.ok y)(hf:f [x,y]=.ok (.d d)):aW f [a,b] e=.ok d:=by unfold aW kR;rw[eS,h,aM,eS,h'];simp only[aM,eS,hf,v4]
theorem i7{f:Fn}{a b c:EW}{e:Mi.Env}{x y z:W}{d:D}(h:a e=.ok x)(h':b e=.ok y)(h'':c e=.ok z)(hf:f [x,y,z]=.ok (.d d)):aW f [a,b,c] e=.ok d:=by unfold aW kR;rw[eS,h,aM,eS,h',aM,eS,h''];simp only[aM,eS,hf,v4]
theorem lX{α:Type}{tg:Tg}{c:C}{a:E}{e:Mi.Env}(f g:α->D)(p:α->Bool):∀(xs:List α),(∀x∈xs,∃e1,tg.put (f x) e=.ok e1/\c e1=.ok (p x)/\(p x=true->a e1=.ok (g x)))->d5 tg c a e (xs.map f)=.ok ((xs.filter p).map g)
 |[],_=>rfl
 |x::r,h=>by
  obtain⟨e1,h1,h2,h3⟩:=h x cn;have ih:=lX (tg:=tg) (c:=c) (a:=a) (e:=e) f g p r λy hy=>h y (cm _ hy);rw[cq,d5,h1,aM,h2,aM];cases hp:p x with
  |true=>rw[aw rfl,h3 hp,aM,ih,aM,sY hp];rfl
  |false=>rw[ay cN,ih,wT (by rw[hp];exact cN)]
theorem g9{tg:Tg}{body:S}(Inv:Nat->Mi.Env->Prop):∀(xs:List D) (k:Nat),(∀i x e,xs[i]? = ab x->Inv (k+i) e->∃e1 e2,tg.put x e=.ok e1/\body e1=.ok (.nx e2)/\Inv (k+i+1) e2)->∀e,Inv k e->∃e',fL tg body xs e=.ok (.nx e')/\Inv (k+xs.length) e'
 |[],k,_,e,h=>⟨e,rfl,h⟩
 |x::r,k,hs,e,h=>by
  obtain⟨e1,e2,h1,h2,h3⟩:=hs 0 x e rfl h;obtain⟨e',h4,h5⟩:=g9 Inv r (k+1) (λi y e hy hi=>by
   have:=hs (i+1) y e (by simpa using hy) (by rw[show k+(i+1)=k+1+i by omega];exact hi);rw[show k+(i+1)+1=k+1+i+1 by omega]at this;exact this) e2 h3
  refine⟨e',?_,by rw[bW,show k+(r.length+1)=k+1+r.length by omega];exact h5⟩;rw[fL,h1,aM,h2,aM];exact h4
end Mi
namespace Mr
open PySem Mi
abbrev Ar:=Str×Str
def pairD(p:Ar):D:=.tup [.str p.1,.str p.2]
def fb(ac:List Str):D:=.tup (ac.map D.str)
def nO(aF:List Ar):D:=.tup (aF.map pairD)
def aJ(ac:List Str)(aF:List Ar):D:=.tup [fb ac,nO aF]
def aj(xs:List Str):D:=.lst (xs.map D.str)
theorem at0{α:Type}(a:α)(r:List α):cJ (a::r) 0=ab a:=by simp[cJ,dj]
theorem at1{α:Type}(a b:α)(r:List α):cJ (a::b::r) 1=ab b:=by unfold cJ dj;rw[aw (by decide),aw (by simp only[bW];omega)];rfl
theorem jH(ac:List Str)(aF:List Ar):aG (aJ ac aF) (.int 0)=.ok (fb ac):=by unfold aJ aG;simp[at0]
theorem rH(ac:List Str)(aF:List Ar):aG (aJ ac aF) (.int 1)=.ok (nO aF):=by unfold aJ aG;simp[at1]
theorem CJ{ac asked:List Str}(h:∀x∈asked,x∈ac):kB [.d (fb ac),.d (aj asked)]=.ok (.d .non):=by
 have key:∀(xs:List Str) (o:Option W),(∀x∈xs,x∈ac)->∃o',fL (.n 2) (bx (cB (m2 iu (mV 2) (mV 0))) oT b7) (xs.map D.str) [ab (.d (fb ac)),ab (.d (aj asked)),o]=.ok (.nx [ab (.d (fb ac)),ab (.d (aj asked)),o']):=by
  intro xs
  induction xs with
  |nil=>exactλo _=>⟨o,rfl⟩
  |cons x r ih=>
   intro o hx;obtain⟨o',e⟩:=ih (ab (.d (.str x))) λy hy=>hx y (cm _ hy);refine⟨o',?_⟩;rw[cq,fL];have:x∈ac:=hx x cn;simp only[fb,FO,DW,DX,bx,cB,m2,mV,b7,aM,jr,j5,JA,this,decide_true,Bool.not_true,uV,n9,fO];exact e
 obtain⟨o',e⟩:=key asked ae h;unfold aj at e;unfold kB yy;rw[jZ];simp only[dF,cW,mV,aj,Nat.reduceSub,List.replicate_succ,List.replicate_zero,mj,k7,jr,j5,aM,F9,e,Gu]
def BH(aF:List Ar)(x:Str):List Str:=(aF.filter λp=>decide (p.2=x)).map (·.1)
def ready(aF:List Ar)(told:List Str)(x:Str):Bool:=!decide (x∈told)&&(BH aF x).all λy=>decide (y∈told)
def nxt(ac:List Str)(aF:List Ar)(told:List Str):Option Str:=ac.find? (ready aF told)
def ord(ac:List Str)(aF:List Ar):Nat->List Str
 |0=>[]
 | k+1=>match nxt ac aF (ord ac aF k)with
  |some x=>ord ac aF k++[x]
  |none=>ord ac aF k
theorem kH{α:Type}[DecidableEq α]:∀{l m:List α},l.Nodup->(∀x∈l,x∈m)->l.length<=m.length
 |[],_,_,_=>eY _
 |a::l,m,nd,h=>by
  have nd:=ik.mp nd;have:l.length<=(m.erase a).length:=kH nd.2 λx hx=>(DQ (λz:x=a=>nd.1 (z ▸ hx))).mpr (h x (cm _ hx));have hm:=h a cn;rw[DI hm]at this;have:0<m.length:=List.length_pos_of_mem hm;rw[bW];omega
end Mr
namespace Mr
open PySem Mi
end Mr
namespace My
def wl:List Nat:=[101,116,97,111,105,110,115,104,114,100,108,117,99,109,102,119,121,112,118,98,103,107,113,106,120,122]
def et(n:Int):Nat:=wl.getD (n%26).toNat 0
def eB(c:Int):List Nat:=(bn 8).map λ(k:Nat)=>et (c/(4+3*(k:Int)))
def eQ(c:Int)(n:Nat):List Nat:=(bn n).map λ(k:Nat)=>et (c/32+5*(k:Int)+(k:Int)*(k:Int))
def words(c:Int)(many:Nat):List (List Nat):=
 if c%4<2 then
  if c%4=0 then(bn many).map λ(k:Nat)=>(eB c).take (k+1)
  else(bn many).map λ(k:Nat)=>(eB c).drop (7-k)
 else
  (bn many).map λ(k:Nat)=>(eQ c (c/4%8).toNat).take (c/256%(c/4%8+1)).toNat++[et (c/7+5*(k:Int))]++(eQ c (c/4%8).toNat).drop (c/256%(c/4%8+1)).toNat
def dh(x:List Nat):Prop:=1<=x.length/\x.length<=8/\∀c∈x,97<=c/\c<=122
theorem uX:∀c∈wl,97<=c/\c<=122:=by decide
theorem KP:wl.Nodup:=by decide
theorem rC:wl.length=26:=by decide
theorem vz(n:Int):et n∈wl:=by
 unfold et;have h1:=fq n (b:=26) (by decide);have h2:=fK n (b:=26) (by decide);have h3:(n%26).toNat<wl.length:=by rw[rC];omega
 rw[dv,c7 h3];exact qp h3
theorem ID{n m:Int}(h:et n=et m):n%26=m%26:=by
 unfold et at h;have h1:=fq n (b:=26) (by decide);have h2:=fK n (b:=26) (by decide);have h3:(n%26).toNat<wl.length:=by rw[rC];omega
 have h1':=fq m (b:=26) (by decide);have h2':=fK m (b:=26) (by decide);have h3':(m%26).toNat<wl.length:=by rw[rC];omega
 rw[dv,c7 h3,dv,c7 h3']at h;have:=(j6 KP).mp h;omega
theorem i3(c:Int):(eB c).length=8:=by simp[eB]
theorem nD(c:Int)(n:Nat):(eQ c n).length=n:=by simp[eQ]
theorem yU(c:Int):∀x∈eB c,97<=x/\x<=122:=λx hx=>by
 obtain⟨k,_,rfl⟩:=c8.mp hx;exact uX _ (vz _)
theorem Bt(c:Int)(n:Nat):∀x∈eQ c n,97<=x/\x<=122:=λx hx=>by
 obtain⟨k,_,rfl⟩:=c8.mp hx;exact uX _ (vz _)
theorem pM(c:Int)(many:Nat):(words c many).length=many:=by unfold words;split<;>(try split)<;>simp
theorem vN{α:Type}(f:Nat->α)(n:Nat)(h:∀i j,i<n->j<n->f i=f j->i=j):((bn n).map f).Nodup:=by
 induction n with
 |zero=>simp
 |succ n ih=>
  rw[List.range_succ,eX,List.map_singleton];rw[ig];refine⟨ih λi j hi hj=>h i j (by omega) (by omega),by simp,λa ha b hb=>?_⟩;obtain⟨i,hi,rfl⟩:=c8.mp ha;have hi:=dP.mp hi;have hb:b=f n:=by simpa using hb
  subst hb;intro e;have:=h i n (by omega) (by omega) e;omega
theorem qf(c:Int)(many:Nat)(hm:many<=8):(words c many).Nodup:=by
 unfold words;split
 ·split
  ·refine vN _ _ λi j hi hj e=>?_;have:=congrArg qr e;rw[cF,cF,i3]at this;omega
  ·refine vN _ _ λi j hi hj e=>?_;have:=congrArg qr e;rw[eW,eW,i3]at this;omega
 ·refine vN _ _ λi j hi hj e=>?_;rw[f7,f7]at e;have e1:=DL e;have e2:=List.append_cancel_right e1;have e3:et (c/7+5*(i:Int))=et (c/7+5*(j:Int)):=by simpa using e2
  have:=ID e3;omega
theorem dD(c:Int)(many:Nat)(hm:many<=8):∀x∈words c many,dh x:=by
 unfold words;split
 ·split
  ·intro x hx;obtain⟨k,hk,rfl⟩:=c8.mp hx;have hk:=dP.mp hk;refine⟨by rw[cF,i3];omega,by rw[cF,i3];omega,λy hy=>yU c y (s0 hy)⟩
  ·intro x hx;obtain⟨k,hk,rfl⟩:=c8.mp hx;have hk:=dP.mp hk;refine⟨by rw[eW,i3];omega,by rw[eW,i3];omega,λy hy=>yU c y (DR hy)⟩
 ·intro x hx;obtain⟨k,hk,rfl⟩:=c8.mp hx;have h1:=fq (c/4) (b:=8) (by decide);have h2:=fK (c/4) (b:=8) (by decide);have h3:=fq (c/256) (b:=c/4%8+1) (by omega);have h4:=fK (c/256) (b:=c/4%8+1) (by omega);have hl:((eQ c (c/4%8).toNat).take (c/256%(c/4%8+1)).toNat++[et (c/7+5*(k:Int))]++(eQ c (c/4%8).toNat).drop (c/256%(c/4%8+1)).toNat).length=(c/4%8).toNat+1:=by
   rw[bA,bA,cF,eW,nD];simp;omega
  refine⟨by rw[hl];omega,by rw[hl];omega,λy hy=>?_⟩;rcases dO.mp hy with hy|hy
  ·rcases dO.mp hy with hy|hy
   ·exact Bt c _ y (s0 hy)
   ·have:y=et (c/7+5*(k:Int)):=by simpa using hy
    subst this;exact uX _ (vz _)
  ·exact Bt c _ y (DR hy)
end My
namespace Mi
open PySem
def S'(l:List Nat):Str:=⟨l.toArray⟩
theorem vL(l:List Nat):(S' l).cps.toList=l:=rfl
theorem kE(l:List Nat):(S' l).length=l.length:=by simp[S',mz]
theorem HA{x y:Str}(h:x.cps.toList=y.cps.toList):x=y:=by obtain⟨a⟩:=x;obtain⟨b⟩:=y;have h:a.toList=b.toList:=h;rw[oi.mp h]
theorem H9{l m:List Nat}(h:S' l=S' m):l=m:=by have:=congrArg (λx:Str=>x.cps.toList) h;simpa [S']using this
theorem K2(l m:List Nat):S' l++S' m=S' (l++m):=by show(⟨l.toArray++m.toArray⟩ : Str)=⟨(l++m).toArray⟩;simp
theorem y8:∀l:List Str,(io "" l).cps.toList=l.flatMap (·.cps.toList)
 |[]=>by simp[io,dS]
 |[x]=>by simp[io]
 |x::y::r=>by
  have ih:=y8 (y::r);have e:io "" (x::y::r)=x ++ "" ++ io "" (y::r):=rfl;have e2:("" : Str).cps.toList=[]:=by decide +kernel
  rw[e];show((x.cps++("" : Str).cps)++(io "" (y::r)).cps).toList=_;rw[En,En,e2,ih];simp
theorem join_ones(l:List Nat):io "" (l.map λx=>S' [x])=S' l:=by
 refine HA ?_;rw[y8,vL]
 induction l with
 |nil=>rfl
 |cons a r ih=>rw[cq,d8,ih];rfl
theorem Hg{α:Type}(xs:List α)(k:Nat):ia xs ae (ab (k:Int))=xs.take k:=by
 show(xs.drop 0).take ((if(k:Int)<0 then((k:Int)+(xs.length:Int)).toNat else min (k:Int).toNat xs.length)-0)=_;rw[ay (by omega),qq,Nat.sub_zero,jz];rcases Nat.le_total k xs.length with h|h
 ·rw[Nat.min_eq_left h]
 ·rw[Nat.min_eq_right h,qk (bg _),qk h]
theorem yp{α:Type}(xs:List α)(k:Nat):ia xs (ab (k:Int)) ae=xs.drop k:=by
 show(xs.drop (if(k:Int)<0 then((k:Int)+(xs.length:Int)).toNat else min (k:Int).toNat xs.length)).take (xs.length-(if(k:Int)<0 then((k:Int)+(xs.length:Int)).toNat else min (k:Int).toNat xs.length))=_;rw[ay (by omega),jz];rcases Nat.le_total k xs.length with h|h
 ·rw[Nat.min_eq_left h];exact qk (by rw[eW];exact bg _)
 ·rw[Nat.min_eq_right h,sZ (bg _),sZ h];simp
theorem Aq(l:List Nat)(k:Nat):km (S' l) ae (ab (k:Int))=S' (l.take k):=by unfold km;rw[vL,Hg];rfl
theorem Bh(l:List Nat)(k:Nat):km (S' l) (ab (k:Int)) ae=S' (l.drop k):=by unfold km;rw[vL,yp];rfl
def b6:Str := "etaoinshrdlucmfwypvbgkqjxz"
theorem Hm:b6.cps.toList=My.wl:=by decide +kernel
theorem HV:b6.length<=16777216:=by decide +kernel
theorem uG{α:Type}{xs:List α}{i:Int}(h0:0<=i)(h1:i<xs.length)(d:α):cJ xs i=ab (xs.getD i.toNat d):=by
 unfold cJ dj;rw[aw h0,aw h1];have h3:i.toNat<xs.length:=by omega
 show xs[i.toNat]? = _;rw[dv,c7 h3];rfl
theorem F1(n:Int):cJ b6.cps.toList (n%26)=ab (My.et n):=by rw[Hm];have h1:=fq n (b:=26) (by decide);have h2:=fK n (b:=26) (by decide);exact uG h1 (by rw[My.rC];omega) 0
theorem ph{cs:List Int}{i:Int}(h0:0<=i)(h1:i<cs.length):aG (.lst (cs.map D.int)) (.int i)=.ok (.int (cs.getD i.toNat 0)):=by
 show cA (cJ (cs.map D.int) i)=_;rw[uG h0 (by rw[aS];exact h1) (.int 0),lG];have h3:i.toNat<cs.length:=by omega
 rw[dv,de,dv,c7 h3];rfl
theorem B0{cs:List Str}{i:Int}(h0:0<=i)(h1:i<cs.length):aG (.lst (cs.map D.str)) (.int i)=.ok (.str (cs.getD i.toNat dS)):=by
 show cA (cJ (cs.map D.str) i)=_;rw[uG h0 (by rw[aS];exact h1) (.str dS),lG];have h3:i.toNat<cs.length:=by omega
 rw[dv,de,dv,c7 h3];rfl
theorem uj(n:Nat):cY 0 (n:Int)=(bn n).map λ(k:Nat)=>D.int (k:Int):=by unfold cY;rw[show((n:Int)-0).toNat=n by omega];exact nW λk _=>by rw[Int.zero_add]
theorem j1(n:Nat):(cY 0 (n:Int)).length=n:=by rw[uj];simp
theorem oW{n i:Nat}{x:D}(h:(cY 0 (n:Int))[i]? = ab x):i<n/\x=.int (i:Int):=by
 rw[uj,de]at h;cases hr:(bn n)[i]? with
 |none=>rw[hr]at h;cases h
 |some k=>
  rw[hr]at h;obtain⟨h1,h2⟩:=cM.mp hr;rw[wZ]at h2;subst h2;rw[w6]at h1;exact⟨h1,(eZ h).symm⟩
theorem mW{tg:Tg}{a:E}{e:Mi.Env}(g:Nat->D)(n:Nat)(h:∀k<n,∃e1,tg.put (.int (k:Int)) e=.ok e1/\a e1=.ok (g k)):d5 tg di a e (cY 0 (n:Int))=.ok ((bn n).map g):=by
 rw[uj,lX (λ(k:Nat)=>D.int (k:Int)) g (λ_=>true) (bn n) λk hk=>?_]
 ·rw[ql.mpr λ_ _=>rfl]
 ·obtain⟨e1,h1,h2⟩:=h k (dP.mp hk);exact⟨e1,h1,rfl,λ_=>h2⟩
theorem qT{i:Int}(h0:-1000<=i)(h1:i<=1000):okR i:=by unfold okR;omega
theorem hW{i j:Int}(h0:-(2 ^ 64)<i)(h1:i<2 ^ 64):jG i j:=.inl ⟨h0,h1⟩
theorem nr{i j:Int}(h0:-(2 ^ 64)<j)(h1:j<2 ^ 64):jG i j:=.inr ⟨h0,h1⟩
theorem gD{j:Int}(h0:0<j)(h1:j<2 ^ 64):jS j:=by
 refine⟨h0,?_⟩;have h2:j.natAbs<2 ^ 64:=by omega
 have h3:j.natAbs≠0:=by omega
 have:=(Nat.log2_lt h3).mpr h2;omega
end Mi
namespace Mr
open PySem Mi
open My (words eB eQ et i3 nD pM qf)
theorem wb(n:Int):aG (.str b6) (.int (n%26))=.ok (.str (S' [et n])):=by show a6 _ _=_;rw[aE HV,F1];rfl
theorem yL(l:List Nat)(h:l.length<=8):qX (.str "") (.lst (l.map λx=>D.str (S' [x])))=.ok (.str (S' l)):=by
 show(cA (iC (l.map λx=>D.str (S' [x])))).bind _=_;have e:l.map (λx=>D.str (S' [x]))=(l.map λx=>S' [x]).map D.str:=by rw[dg];rfl
 rw[e,z7,lG,aM,aE ?_,join_ones];have h1:((l.map λx=>S' [x]).map (·.length)).sum=l.length:=by
  clear h e
  induction l with
  |nil=>rfl
  |cons a r ih=>rw[cq,cq,List.sum_cons,ih,kE,bW];simp;omega
 have h2:("" : Str).length=0:=by decide +kernel
 rw[h1,h2];omega
theorem st1(c:Int)(k:Nat)(d32:jS 32)(m5:jG 5 (k:Int))(mk:jG (k:Int) k):(m2 aV (m2 aV (m2 bP (mV 1) (mC (.int 32))) (m2 bp (mC (.int 5)) (mV 2))) (m2 bp (mV 2) (mV 2))) [ab (.d (.str b6)),ab (.d (.int c)),ab (.d (.int k))]=.ok (.int (c/32+5*(k:Int)+(k:Int)*(k:Int))):=(av (av (av rfl rfl (aE d32)) (av rfl rfl (aE m5)) rfl) (av rfl rfl (aE mk)) rfl)
theorem st2(c:Int)(e:Mi.Env)(a:E)(h:a e=.ok (.int c))(h0:e[0]? = ab (ab (.d (.str b6)))):m2 aG (mV 0) (m2 aU a (mC (.int 26))) e=.ok (.str (S' [et c])):=av (x:=.str b6) (by unfold mV;rw[h0]) (av h rfl (aE (by decide))) (wb _)
theorem J3{k n:Nat}(h:k<n)(h8:n<8):jG (k:Int) k:=hW (by omega) (by omega)
theorem size_of(c:Int):∃n:Nat,c/4%8=(n:Int)/\n<8:=by have z1:=fq (c/4) (b:=8) (by decide);have z2:=fK (c/4) (b:=8) (by decide);exact⟨(c/4%8).toNat,by omega,by omega⟩
theorem at_of(c:Int)(n:Nat):∃t:Nat,c/256%((n:Int)+1)=(t:Int)/\t<=n:=by have z3:=fq (c/256) (b:=(n:Int)+1) (by omega);have z4:=fK (c/256) (b:=(n:Int)+1) (by omega);exact⟨(c/256%((n:Int)+1)).toNat,by omega,by omega⟩
theorem HF(c:Int)(m:Nat)(hm:m<=8):pO [.d (.int c),.d (.int (m:Int))]=.ok (.d (aj ((words c m).map S'))):=by
 unfold pO BO;rw[sG];have hr8:okR 8:=qT (by decide) (by decide);have hrm:okR (m:Int):=qT (by omega) (by omega);have hl0:(PySem.Str.ofString "etaoinshrdlucmfwypvbgkqjxz")=b6:=rfl;have g4:∀r:Rs D,a6 ((0:Int)<4) r=r:=λr=>aE (by decide);have g26:∀r:Rs D,a6 ((0:Int)<26) r=r:=λr=>aE (by decide);have g8:∀r:Rs D,a6 ((0:Int)<8) r=r:=λr=>aE (by decide);by_cases c1:c%4<2
 ·have ub:d5 (.n 2) di (m2 aG (mV 0) (m2 aU (m2 bP (mV 1) (m2 aV (mC (.int 4)) (m2 bp (mC (.int 3)) (mV 2)))) (mC (.int 26)))) [ab (.d (.str b6)),ab (.d (.int c)),ae] (cY 0 8)=.ok ((eB c).map λx=>D.str (S' [x])):=by
   have:=mW (tg:=.n 2) (a:=m2 aG (mV 0) (m2 aU (m2 bP (mV 1) (m2 aV (mC (.int 4)) (m2 bp (mC (.int 3)) (mV 2)))) (mC (.int 26)))) (e:=[ab (.d (.str b6)),ab (.d (.int c)),ae]) (λk=>D.str (S' [et (c/(4+3*(k:Int)))])) 8 λk hk=>⟨[ab (.d (.str b6)),ab (.d (.int c)),ab (.d (.int k))],rfl,by
    simp only[m2,mV,j5,jr,mC,aM,oX];rw[aE (hW (by decide) (by decide))];simp only[aM,lI,div_ii];rw[aE (gD (by omega) (by omega))];simp only[aM,kF,g26,wb]⟩
   rw[show((8:Nat):Int)=8 from rfl]at this;rw[this];unfold eB;rw[dg];rfl
  have hp:ja [ab 2,ab 0,ae] [ab (.d (.int c)),ab (.d (.int (m:Int))),ab (.d (.str b6)),ae,ae,ae,ae]=[ab (.d (.str b6)),ab (.d (.int c)),ae]:=rfl;have hj:=yL (eB c) (by rw[i3];omega);have hw8:(cY 0 8).length<=16777216:=by rw[show(8:Int)=((8:Nat):Int)from rfl,j1];omega
  have hwm:(cY 0 (m:Int)).length<=16777216:=by rw[j1];omega
  by_cases c2:c%4=0
  ·have hc:d5 (.n 1) di (fw gq (mV 0) ae (ab (m2 aV (mV 1) (mC (.int 1))))) [ab (.d (.str (S' (eB c)))),ae] (cY 0 (m:Int))=.ok ((words c m).map λl=>D.str (S' l)):=by
    rw[mW (λk=>D.str (S' ((eB c).take (k+1)))) m λk hk=>⟨[ab (.d (.str (S' (eB c)))),ab (.d (.int k))],rfl,by
     simp only[fw,mV,j5,jJ,m2,jr,mC,aM,lI,kK,vj];rw[aE (by rw[kE,i3];omega),show(k:Int)+1=((k+1:Nat):Int)by omega,Aq]⟩]
    unfold words;rw[aw c1,aw c2,dg];rfl
   have hp2:∀z,ja [ab 3,ae] [ab (.d (.int c)),ab (.d (.int (m:Int))),ab (.d (.str b6)),ab z,ae,ae,ae]=[ab z,ae]:=λ_=>rfl;have hmod:cB (m2 dB (m2 aU (mV 0) (mC (.int 4))) (mC (.int 2))) [ab (.d (.int c)),ab (.d (.int (m:Int))),ab (.d (.str b6)),ae,ae,ae,ae]=.ok true:=cQ ((av (av rfl rfl (g4 _)) rfl rfl).trans (by rw[sF,cE c1]))
   have xW:cB (m2 dZ (m2 aU (mV 0) (mC (.int 4))) (mC (.int 0))) [ab (.d (.int c)),ab (.d (.int (m:Int))),ab (.d (.str b6)),ab (.d (.str (S' (eB c)))),ae,ae,ae]=.ok true:=cQ ((av (av rfl rfl (g4 _)) rfl rfl).trans (by rw[sH,cE c2]))
   show Rs.bind _ jb=_;rw[aR (e':=[ab (.d (.int c)),ab (.d (.int (m:Int))),ab (.d (.str b6)),ae,ae,ae,ae]) (ca rfl)];refine(congrArg (λr=>Rs.bind r jb) (lY (w:=.d (aj ((words c m).map S'))) ?_)).trans rfl;rw[fS hmod,aR (e':=[ab (.d (.int c)),ab (.d (.int (m:Int))),ab (.d (.str b6)),ab (.d (.str (S' (eB c)))),ae,ae,ae]) (ca (av rfl (h9 (ie rfl hr8) hw8 ub) hj))];rw[lY ((fS xW).trans (fB (cv (h9 (ie rfl hrm) hwm hc))))];rw[aj,dg];rfl
  ·have hc:d5 (.n 1) di (fw gq (mV 0) (ab (m2 iK (mC (.int 7)) (mV 1))) ae) [ab (.d (.str (S' (eB c)))),ae] (cY 0 (m:Int))=.ok ((words c m).map λl=>D.str (S' l)):=by
    rw[mW (λk=>D.str (S' ((eB c).drop (7-k)))) m λk hk=>⟨[ab (.d (.str (S' (eB c)))),ab (.d (.int k))],rfl,by
     simp only[fw,mV,j5,jJ,m2,mC,jr,aM,JI,kK,vj];rw[aE (by rw[kE,i3];omega),show(7:Int)-(k:Int)=((7-k:Nat):Int)by omega,Bh]⟩]
    unfold words;rw[aw c1,ay c2,dg];rfl
   have hp2:∀z,ja [ab 3,ae] [ab (.d (.int c)),ab (.d (.int (m:Int))),ab (.d (.str b6)),ab z,ae,ae,ae]=[ab z,ae]:=λ_=>rfl;have hmod:cB (m2 dB (m2 aU (mV 0) (mC (.int 4))) (mC (.int 2))) [ab (.d (.int c)),ab (.d (.int (m:Int))),ab (.d (.str b6)),ae,ae,ae,ae]=.ok true:=cQ ((av (av rfl rfl (g4 _)) rfl rfl).trans (by rw[sF,cE c1]))
   have xW:cB (m2 dZ (m2 aU (mV 0) (mC (.int 4))) (mC (.int 0))) [ab (.d (.int c)),ab (.d (.int (m:Int))),ab (.d (.str b6)),ab (.d (.str (S' (eB c)))),ae,ae,ae]=.ok false:=cQ ((av (av rfl rfl (g4 _)) rfl rfl).trans (by rw[sH,bw c2]))
   show Rs.bind _ jb=_;rw[aR (e':=[ab (.d (.int c)),ab (.d (.int (m:Int))),ab (.d (.str b6)),ae,ae,ae,ae]) (ca rfl)];refine(congrArg (λr=>Rs.bind r jb) (lY (w:=.d (aj ((words c m).map S'))) ?_)).trans rfl;rw[fS hmod,aR (e':=[ab (.d (.int c)),ab (.d (.int (m:Int))),ab (.d (.str b6)),ab (.d (.str (S' (eB c)))),ae,ae,ae]) (ca (av rfl (h9 (ie rfl hr8) hw8 ub) hj))];rw[aR (c9 xW),fB (cv (h9 (ie rfl hrm) hwm hc))];rw[aj,dg];rfl
 ·obtain⟨n,hn,hn8⟩:=size_of c;obtain⟨t,ht,ht8⟩:=at_of c n;have hrn:okR (n:Int):=qT (by omega) (by omega);have d4:jS 4:=gD (by decide) (by decide);have d32:jS 32:=gD (by decide) (by decide);have Ll:jS 256:=gD (by decide) (by decide);have d7:jS 7:=gD (by decide) (by decide);have Lm:d5 (.n 2) di (m2 aG (mV 0) (m2 aU (m2 aV (m2 aV (m2 bP (mV 1) (mC (.int 32))) (m2 bp (mC (.int 5)) (mV 2))) (m2 bp (mV 2) (mV 2))) (mC (.int 26)))) [ab (.d (.str b6)),ab (.d (.int c)),ae] (cY 0 (n:Int))=.ok ((eQ c n).map λx=>D.str (S' [x])):=by
   rw[mW (λk=>D.str (S' [et (c/32+5*(k:Int)+(k:Int)*(k:Int))])) n λk hk=>⟨[ab (.d (.str b6)),ab (.d (.int c)),ab (.d (.int k))],rfl,by
    exact st2 _ _ _ (st1 c k d32 (hW (by decide) (by decide)) (J3 hk hn8)) rfl⟩]
   unfold eQ;rw[dg];rfl
  have hp:ja [ab 2,ab 0,ae] [ab (.d (.int c)),ab (.d (.int (m:Int))),ab (.d (.str b6)),ae,ab (.d (.int (n:Int))),ae,ae]=[ab (.d (.str b6)),ab (.d (.int c)),ae]:=rfl;have hj:=yL (eQ c n) (by rw[nD];omega);have hwn:(cY 0 (n:Int)).length<=16777216:=by rw[j1];omega
  have hwm:(cY 0 (m:Int)).length<=16777216:=by rw[j1];omega
  have hc:d5 (.n 4) di (m2 aV (m2 aV (fw gq (mV 0) ae (ab (mV 2))) (m2 aG (mV 1) (m2 aU (m2 aV (m2 bP (mV 3) (mC (.int 7))) (m2 bp (mC (.int 5)) (mV 4))) (mC (.int 26))))) (fw gq (mV 0) (ab (mV 2)) ae))
   [ab (.d (.str (S' (eQ c n)))),ab (.d (.str b6)),ab (.d (.int (t:Int))),ab (.d (.int c)),ae] (cY 0 (m:Int))=.ok ((words c m).map λl=>D.str (S' l)):=by
   rw[mW (λk=>D.str (S' ((eQ c n).take t++[et (c/7+5*(k:Int))]++(eQ c n).drop t))) m λk hk=>⟨[ab (.d (.str (S' (eQ c n)))),ab (.d (.str b6)),ab (.d (.int (t:Int))),ab (.d (.int c)),ab (.d (.int k))],rfl,by
    have gS:∀r:Rs D,a6 ((S' (eQ c n)).length<=16777216) r=r:=λr=>aE (by rw[kE,nD];omega);have gM:∀r:Rs D,a6 (jG 5 (k:Int)) r=r:=λr=>aE (hW (by decide) (by decide));simp only[m2,fw,mV,j5,jJ,jr,aM,kK,vj,Aq,gS,mC,div_ii,aE d7,oX,gM,lI,kF,g26,wb,Ac,Bh];rw[aE (by rw[kE,kE,cF,nD];simp;omega)];simp only[K2,aM,Ac];rw[aE (by rw[kE,kE,bA,cF,eW,nD];simp;omega)]⟩]
   unfold words;rw[ay c1,dg,hn,ht];rfl
  have hmod:cB (m2 dB (m2 aU (mV 0) (mC (.int 4))) (mC (.int 2))) [ab (.d (.int c)),ab (.d (.int (m:Int))),ab (.d (.str b6)),ae,ae,ae,ae]=.ok false:=cQ ((av (av rfl rfl (g4 _)) rfl rfl).trans (by rw[sF,bw c1]))
  show Rs.bind _ jb=_;rw[aR (e':=[ab (.d (.int c)),ab (.d (.int (m:Int))),ab (.d (.str b6)),ae,ae,ae,ae]) (ca rfl)];rw[aR (c9 hmod)];rw[aR (e':=[ab (.d (.int c)),ab (.d (.int (m:Int))),ab (.d (.str b6)),ae,ab (.d (.int (n:Int))),ae,ae]) (ca (d:=.int (n:Int)) ((av (av rfl rfl (aE d4)) rfl (g8 _)).trans (by rw[hn])))];rw[aR (e':=[ab (.d (.int c)),ab (.d (.int (m:Int))),ab (.d (.str b6)),ae,ab (.d (.int (n:Int))),ab (.d (.str (S' (eQ c n)))),ae]) (ca (av rfl (h9 (ie rfl hrn) hwn Lm) hj))];rw[aR (e':=[ab (.d (.int c)),ab (.d (.int (m:Int))),ab (.d (.str b6)),ae,ab (.d (.int (n:Int))),ab (.d (.str (S' (eQ c n)))),ab (.d (.int (t:Int)))]) (ca (d:=.int (t:Int)) ((av (av rfl rfl (aE Ll)) (av rfl rfl rfl) (aE (by omega))).trans (by rw[ht])))];rw[fB (cv (h9 (ie rfl hrm) hwm hc))];simp only[aM,JN,aj,dg];rfl
end Mr
namespace Mr
open PySem Mi
open My (words pM qf dh)
theorem nE(n:Nat)(h:n<=8):okR (n:Int):=qT (by omega) (by omega)
theorem FS{ls:List Int}{z:Int}(h0:0<=z)(h1:z<ls.length)(hl:ls.length<=100):jR (ls.map D.int) z=.ok (.int (ls.getD z.toNat 0),(ls.eraseIdx z.toNat).map D.int):=by
 have h3:z.toNat<ls.length:=by omega
 unfold jR;rw[aE (by omega),show dj (ls.map D.int).length z=ab z.toNat by
  unfold dj;rw[aw h0,aw (by rw[aS];exact h1)],lG,aM,de,c7 h3,dv,c7 h3]
 show Rs.ok (D.int ls[z.toNat],(ls.map D.int).eraseIdx z.toNat)=_;have:∀(l:List Int) (k:Nat),(l.map D.int).eraseIdx k=(l.eraseIdx k).map D.int:=by
  intro l
  induction l with
  |nil=>intro k;rfl
  |cons a r ih=>
   intro k;cases k with
   |zero=>rfl
   |succ k=>rw[cq,DM,ih k];rfl
 rw[this];rfl
theorem nQ(e:Mi.Env):mN cx [] e=.ok (.lst []):=by show a6 (([]:List D).length<=16777216) (Rs.ok (D.lst []))=_;exact aE (by simp)
end Mr
namespace Mr
open PySem Mi
theorem Iz{ls:List Int}{z v:Int}(h0:0<=z)(h1:z<ls.length):∃j,dj (ls.map D.int).length z=ab j/\(ls.map D.int).set j (.int v)=(ls.set j v).map D.int:=by
 refine⟨z.toNat,?_,?_⟩
 ·unfold dj;rw[aw h0,aw (by rw[aS];exact h1)]
 ·rw[List.map_set]
theorem sT{i:Nat}{k a:E}{e:Mi.Env}{ls:List Int}{z v:Int}(ha:a e=.ok (.int v))(hk:k e=.ok (.int z))(hg:getL e i=.ok (ls.map D.int))(h0:0<=z)(h1:z<ls.length):∃ls':List Int,ls'.length=ls.length/\pH i k a e=.ok (.nx (putL e i (ls'.map D.int))):=by obtain⟨j,hj,hs⟩:=Iz (v:=v) h0 h1;refine⟨ls.set j v,by simp,?_⟩;unfold pH;rw[ha,aM,hk,aM,kK,aM,hg,aM,hj,lG,aM,hs]
end Mr
namespace Mr
open PySem Mi
abbrev Ix:=Nat×Nat
def bv(p q:Ix):Prop:=p.1<q.1\/(p.1=q.1/\p.2<q.2)
def nth(ac:List Str)(i:Nat):Str:=ac.getD i dS
def arrOf(ac:List Str)(p:Ix):Ar:=(nth ac p.1,nth ac p.2)
structure sk(ac:List Str)(A:List Ix)(r:Nat->Int):Prop where
 nd:ac.Nodup
 pos:1<=ac.length
 le:ac.length<=8
 qG:A.Pairwise bv
 all:∀p∈A,p.1<ac.length/\p.2<ac.length/\r p.1<r p.2
 al:A.length<=64
theorem CT{ac:List Str}{i:Nat}(h:i<ac.length):nth ac i∈ac:=by unfold nth;rw[dv,c7 h];exact qp h
theorem lD{ac:List Str}(nd:ac.Nodup){i j:Nat}(hi:i<ac.length)(hj:j<ac.length)(h:nth ac i=nth ac j):i=j:=by unfold nth at h;rw[dv,c7 hi,dv,c7 hj]at h;exact(j6 nd).mp h
def good(m:Nat)(r:Nat->Int)(A:List Ix)(j k:Nat):Prop:=A.Pairwise bv/\(∀p∈A,p.1<m/\p.2<m/\r p.1<r p.2/\(p.1<j\/(p.1=j/\p.2<k)))/\A.length<=8*j+k
theorem good.skip{m:Nat}{r:Nat->Int}{A:List Ix}{j k:Nat}(h:good m r A j k):good m r A j (k+1):=⟨h.1,λp hp=>⟨(h.2.1 p hp).1,(h.2.1 p hp).2.1,(h.2.1 p hp).2.2.1,by have:=(h.2.1 p hp).2.2.2;omega⟩,by have:=h.2.2;omega⟩
theorem good.add{m:Nat}{r:Nat->Int}{A:List Ix}{j k:Nat}(h:good m r A j k)(hj:j<m)(hk:k<m)(hr:r j<r k):good m r (A++[(j,k)]) j (k+1):=by
 refine⟨List.pairwise_append.mpr ⟨h.1,wU _ _,λp hp q hq=>?_⟩,λp hp=>?_,by rw[bA];have:=h.2.2;simp;omega⟩
 ·have:q=(j,k):=by simpa using hq
  subst this;have:=(h.2.1 p hp).2.2.2;exact this
 ·rcases dO.mp hp with hp|hp
  ·exact(h.skip.2.1 p hp)
  ·have:p=(j,k):=by simpa using hp
   subst this;exact⟨hj,hk,hr,.inr ⟨rfl,by omega⟩⟩
theorem good.next{m:Nat}{r:Nat->Int}{A:List Ix}{j k:Nat}(h:good m r A j k)(hk:k<=8):good m r A (j+1) 0:=⟨h.1,λp hp=>⟨(h.2.1 p hp).1,(h.2.1 p hp).2.1,(h.2.1 p hp).2.2.1,by have:=(h.2.1 p hp).2.2.2;omega⟩,by have:=h.2.2;omega⟩
def f6(ac:List Str)(A:List Ix):D:=.lst ((A.map (arrOf ac)).map pairD)
theorem Ik{a:Int}(h0:0<=a)(h1:a<8):-(2 ^ 64)<a/\a<2 ^ 64/\0<=a*(a-1)/2/\a*(a-1)/2<=21:=by
 have:a=0\/a=1\/a=2\/a=3\/a=4\/a=5\/a=6\/a=7:=by omega
 rcases this with h|h|h|h|h|h|h|h<;>subst h<;>decide
end Mr
namespace Mr
open PySem Mi
open My (words pM qf)
theorem lM(ns:List Int)(k:Nat)(hk:k<=100):∃c:Int,d6 [.d (.lst (ns.map D.int)),.d (.int (k:Int))]=.ok (.d (.int c)):=by
 unfold d6 uy;rw[jZ];have hl:mN cT [mV 0] [ab (.d (.lst (ns.map D.int))),ab (.d (.int (k:Int))),ae]=.ok (.int (ns.length:Int)):=by show Rs.ok (D.int ((ns.map D.int).length:Int))=_;rw[aS]
 have c1:cB (m2 dB (mV 1) (mN cT [(mV 0)])) [ab (.d (.lst (ns.map D.int))),ab (.d (.int (k:Int))),ae]=.ok (decide ((k:Int)<(ns.length:Int))):=cQ (av rfl hl rfl);by_cases h:(k:Int)<(ns.length:Int)
 ·rw[cE h]at c1;exact⟨_,by
   rw[show([ab (W.d (.lst (ns.map D.int))),ab (.d (.int (k:Int)))]++dm (3-2) ae)=[ab (.d (.lst (ns.map D.int))),ab (.d (.int (k:Int))),ae]from rfl];rw[lY ((fS c1).trans (fB (cv (av rfl rfl (ph (by omega) h)))))];rfl⟩
 ·rw[bw h]at c1;have s1:bE 2 (m2 aV (mC (.int 30011)) (m2 bp (m2 bp (mC (.int 709)) (mV 1)) (mV 1))) [ab (.d (.lst (ns.map D.int))),ab (.d (.int (k:Int))),ae]=.ok (.nx [ab (.d (.lst (ns.map D.int))),ab (.d (.int (k:Int))),ab (.d (.int (30011+709*(k:Int)*(k:Int))))]):=
   ca (av rfl (av (av rfl rfl (aE (hW (by decide) (by decide)))) rfl (aE (nr (by omega) (by omega)))) rfl)
  have hl2:mN cT [mV 0] [ab (.d (.lst (ns.map D.int))),ab (.d (.int (k:Int))),ab (.d (.int (30011+709*(k:Int)*(k:Int))))]=.ok (.int (ns.length:Int)):=by show Rs.ok (D.int ((ns.map D.int).length:Int))=_;rw[aS]
  have c2:cB (m2 ve (mN cT [(mV 0)]) (mC (.int 0))) [ab (.d (.lst (ns.map D.int))),ab (.d (.int (k:Int))),ab (.d (.int (30011+709*(k:Int)*(k:Int))))]=.ok (decide ((0:Int)<(ns.length:Int))):=cQ (av hl2 rfl rfl);by_cases h0:(0:Int)<(ns.length:Int)
  ·rw[cE h0]at c2;refine⟨_,by
    rw[show([ab (W.d (.lst (ns.map D.int))),ab (.d (.int (k:Int)))]++dm (3-2) ae)=[ab (.d (.lst (ns.map D.int))),ab (.d (.int (k:Int))),ae]from rfl];rw[aR ((c9 c1).trans rfl),aR s1,aR ((fS c2).trans (ca (av rfl (av (av (av rfl rfl (ph (by decide) h0)) rfl (aE (by decide))) (av (av (av rfl rfl (aE (hW (by omega) (by omega)))) (av rfl rfl (aE (hW (by decide) (by decide)))) rfl) rfl rfl) (aE (hW ?_ ?_))) rfl)))];rfl⟩
   ·have:=fq (ns.getD (0:Int).toNat 0) (b:=99991) (by decide);omega
   ·have:=fK (ns.getD (0:Int).toNat 0) (b:=99991) (by decide);omega
  ·rw[bw h0]at c2;exact⟨_,by
    rw[show([ab (W.d (.lst (ns.map D.int))),ab (.d (.int (k:Int)))]++dm (3-2) ae)=[ab (.d (.lst (ns.map D.int))),ab (.d (.int (k:Int))),ae]from rfl];rw[aR ((c9 c1).trans rfl),aR s1,aR ((c9 c2).trans rfl)];rfl⟩
theorem Fp(d:Int)(m:Nat)(hm:m<=8):∃rs:List Int,pL [.d (.int d),.d (.int (m:Int))]=.ok (.d (.lst (rs.map D.int)))/\rs.length=m:=by
 unfold pL zp;rw[sG];have hw:(cY 0 (m:Int)).length<=16777216:=by rw[j1];omega
 have hc:d5 (.n 0) di (mV 0) [ae] (cY 0 (m:Int))=.ok ((bn m).map λ(k:Nat)=>D.int (k:Int)):=mW (λk=>D.int (k:Int)) m λk _=>⟨[ab (.d (.int k))],rfl,rfl⟩
 have hr:((bn m).map λ(k:Nat)=>D.int (k:Int))=((bn m).map λ(k:Nat)=>(k:Int)).map D.int:=by rw[dg];rfl
 rw[hr]at hc;obtain⟨e',h1,h2⟩:=g9 (tg:=.n 5) (body:=aP (bE 4 (m2 aU (m2 aV (m2 aV (m2 bp (mV 4) (mC (.int 48271))) (m2 bp (mC (.int 7)) (mV 5))) (mC (.int 1))) (mC (.int 2147483647)))) (qH 3 2 (m2 aU (m2 bP (mV 4) (mC (.int 32))) (mN cT [(mV 2)]))))
  (λi e=>∃(x:Int) (ls rs:List Int) (o:Option W),e=[ab (.d (.int d)),ab (.d (.int (m:Int))),ab (.d (.lst (ls.map D.int))),ab (.d (.lst (rs.map D.int))),ab (.d (.int x)),o]/\ls.length+i=m/\rs.length=i) (cY 0 (m:Int)) 0 (λi x e hx ⟨x0,ls,rs,o,he,hl,hrs⟩=>by
   obtain⟨hi,rfl⟩:=oW hx;subst he;rw[eJ]at hl hrs;have hpos:(0:Int)<(ls.length:Int):=by omega
   obtain⟨y,hy⟩ : ∃y,y=(x0*48271+7*(i:Int)+1)%2147483647:=⟨_,rfl⟩;have z1:=fq (y/32) (b:=(ls.length:Int)) (by omega);have z2:=fK (y/32) hpos;refine⟨[ab (.d (.int d)),ab (.d (.int (m:Int))),ab (.d (.lst (ls.map D.int))),ab (.d (.lst (rs.map D.int))),ab (.d (.int x0)),ab (.d (.int (i:Int)))],[ab (.d (.int d)),ab (.d (.int (m:Int))),ab (.d (.lst ((ls.eraseIdx (y/32%(ls.length:Int)).toNat).map D.int))),ab (.d (.lst ((rs++[ls.getD (y/32%(ls.length:Int)).toNat 0]).map D.int))),ab (.d (.int y)),ab (.d (.int (i:Int)))],rfl,?_,y,ls.eraseIdx (y/32%(ls.length:Int)).toNat,rs++[ls.getD (y/32%(ls.length:Int)).toNat 0],ab (.d (.int (i:Int))),rfl,?_,?_⟩
   ·have h0:m2 aU (m2 bP (mV 4) (mC (.int 32))) (mN cT [(mV 2)]) [ab (.d (.int d)),ab (.d (.int (m:Int))),ab (.d (.lst (ls.map D.int))),ab (.d (.lst (rs.map D.int))),ab (.d (.int y)),ab (.d (.int (i:Int)))]=.ok (.int (y/32%(ls.length:Int))):=
     av (x:=.int (y/32)) (y:=.int (ls.length:Int)) (av rfl rfl (aE (gD (by decide) (by decide)))) (by show Rs.ok (D.int ((ls.map D.int).length:Int))=_;rw[aS]) (aE hpos)
    rw[aR (e':=[ab (.d (.int d)),ab (.d (.int (m:Int))),ab (.d (.lst (ls.map D.int))),ab (.d (.lst (rs.map D.int))),ab (.d (.int y)),ab (.d (.int (i:Int)))])]
    ·unfold qH;rw[h0];simp only[aM,kK,getL,jr,j5,FS z1 z2 (by omega),putL,DW,DX];rw[aE (by rw[aS];omega),eX];rfl
    ·rw[hy];exact ca (av (av (av (av rfl rfl (aE (nr (by decide) (by decide)))) (av rfl rfl (aE (hW (by decide) (by decide)))) rfl) rfl rfl) rfl (aE (by decide)))
   ·rw[List.length_eraseIdx_of_lt (by omega)];omega
   ·rw[bA,hrs];simp) [ab (.d (.int d)),ab (.d (.int (m:Int))),ab (.d (.lst (((bn m).map λ(k:Nat)=>(k:Int)).map D.int))),ab (.d (.lst [])),ab (.d (.int (d%2147483647))),ae] ⟨_,_,[],ae,rfl,by simp,rfl⟩
 obtain⟨d2,ls,rs,o,he,hl,hrs⟩:=h2;subst he;rw[j1,eJ]at hl hrs;refine⟨rs,?_,hrs⟩;rw[aR (e':=[ab (.d (.int d)),ab (.d (.int (m:Int))),ab (.d (.lst (((bn m).map λ(k:Nat)=>(k:Int)).map D.int))),ae,ae,ae]) (ca (h9 (ie rfl (nE m hm)) hw hc))];rw[aR (e':=[ab (.d (.int d)),ab (.d (.int (m:Int))),ab (.d (.lst (((bn m).map λ(k:Nat)=>(k:Int)).map D.int))),ab (.d (.lst [])),ae,ae]) (ca (nQ _))];rw[aR (e':=[ab (.d (.int d)),ab (.d (.int (m:Int))),ab (.d (.lst (((bn m).map λ(k:Nat)=>(k:Int)).map D.int))),ab (.d (.lst [])),ab (.d (.int (d%2147483647))),ae]) (ca (av rfl rfl (aE (by decide))))];rw[aR ((gs (ie rfl (nE m hm))).trans h1)];rfl
end Mr
namespace Mr
open PySem Mi
open My (words pM qf)
theorem JO(ns:List Int){e:Mi.Env}{j k:Nat}(hj:j<8)(hk:k<8)(e0:mV 0 e=.ok (.lst (ns.map D.int)))(e7:mV 7 e=.ok (.int (j:Int)))(e8:mV 8 e=.ok (.int (k:Int))):∃c:Int,(aW d6 [(wD (mV 0)),(wD (m2 aV (m2 aV (mC (.int 4)) (m2 bP (m2 bp (mN gI [(mV 7),(mV 8)]) (m2 iK (mN gI [(mV 7),(mV 8)]) (mC (.int 1)))) (mC (.int 2)))) (mN ko [(mV 7),(mV 8)])))]) e=.ok (.int c):=by have hx:mN gI [(mV 7),(mV 8)] e=.ok (.int (max (j:Int) (k:Int))):=(wc e7 e8).trans (IU _ _);have hn:mN ko [(mV 7),(mV 8)] e=.ok (.int (min (j:Int) (k:Int))):=(wc e7 e8).trans (IS _ _);obtain⟨t1,t2,t3,t4⟩:=Ik (a:=max (j:Int) (k:Int)) (by omega) (by omega);obtain⟨z,hz⟩ : ∃z:Nat,4+max (j:Int) (k:Int)*(max (j:Int) (k:Int)-1)/2+min (j:Int) (k:Int)=(z:Int):=⟨(4+max (j:Int) (k:Int)*(max (j:Int) (k:Int)-1)/2+min (j:Int) (k:Int)).toNat,by omega⟩;obtain⟨c,hc⟩:=lM ns z (by omega);refine⟨c,call2 (cv e0) (cv (av (av rfl (av (av hx (av hx rfl rfl) (aE (hW t1 t2))) rfl (aE (gD (by decide) (by decide)))) rfl) hn rfl)) ?_⟩;rw[hz];exact hc
theorem IV(ns:List Int)(hi:Nat)(h0:1<=hi)(h2:hi<=8) :
 ∃ac A r,qg [.d (.lst (ns.map D.int)),.d (.int (hi:Int))]=.ok (.d (aJ ac (A.map (arrOf ac))))/\sk ac A r/\(∃(c:Int) (m:Nat),m<=8/\ac=(words c m).map S')/\∃c0:Int,d6 [.d (.lst (ns.map D.int)),.d (.int 0)]=.ok (.d (.int c0))/\(ac.length:Int)=1+c0%(hi:Int):=by
 obtain⟨c0,hc0⟩:=lM ns 0 (by decide);obtain⟨c1,hc1⟩:=lM ns 1 (by decide);obtain⟨c2,hc2⟩:=lM ns 2 (by decide);obtain⟨c3,hc3⟩:=lM ns 3 (by decide);have hw:(0:Int)<(hi:Int):=by omega
 have q1:=fq c0 (b:=(hi:Int)) (by omega);have q2:=fK c0 hw;obtain⟨m,hm⟩ : ∃m:Nat,1+c0%(hi:Int)=(m:Int):=⟨(1+c0%(hi:Int)).toNat,by omega⟩;have hm1:1<=m:=by omega
 have hm2:m<=hi:=by omega
 have hm8:m<=8:=by omega
 obtain⟨ac,hnm⟩ : ∃ac,ac=(words c1 m).map S':=⟨_,rfl⟩;have hn:=HF c1 m hm8;rw[<- hnm]at hn;have hnl:ac.length=m:=by rw[hnm,aS];exact pM c1 m
 have hnd:ac.Nodup:=by rw[hnm];exact List.Pairwise.map _ (λa b h z=>h (H9 z)) (qf _ _ hm8)
 obtain⟨rs,hr,hrl⟩:=Fp c2 m hm8;have q3:=fq c3 (b:=6) (by decide);have q4:=fK c3 (b:=6) (by decide);obtain⟨th,hth⟩ : ∃th,aG (.lst ([4,1,2,3,2,3].map D.int)) (.int (c3%6))=.ok (.int th):=⟨_,ph q3 (by simp;omega)⟩;have hrx:∀i:Nat,i<m->aG (.lst (rs.map D.int)) (.int (i:Int))=.ok (.int (rs.getD i 0)):=λi hi=>by
  have:=ph (cs:=rs) (i:=(i:Int)) (by omega) (by omega)
  rwa [jz]at this
 have hnx:∀i:Nat,i<m->aG (aj ac) (.int (i:Int))=.ok (.str (nth ac i)):=λi hi=>by
  have:=B0 (cs:=ac) (i:=(i:Int)) (by omega) (by omega)
  rwa [jz]at this
 have inner:∀(j:Nat) (A:List Ix) (o8 o9:Option W),j<m->good m (λi=>rs.getD i 0) A j 0->∃(A':List Ix) (p8 p9:Option W),fL (.n 8) (aP (bE 9 (aW d6 [(wD (mV 0)),(wD (m2 aV (m2 aV (mC (.int 4)) (m2 bP (m2 bp (mN gI [(mV 7),(mV 8)]) (m2 iK (mN gI [(mV 7),(mV 8)]) (mC (.int 1)))) (mC (.int 2)))) (mN ko [(mV 7),(mV 8)])))])) (bx (eU (cB (m2 dB (m2 aG (mV 4) (mV 7)) (m2 aG (mV 4) (mV 8)))) (cB (m2 dB (m2 aU (m2 bP (m2 aU (m2 bp (mV 9) (mC (.int 48271))) (mC (.int 2147483647))) (mC (.int 16))) (mC (.int 4))) (mV 5)))) (fW 6 (mN dTup [(m2 aG (mV 3) (mV 7)),(m2 aG (mV 3) (mV 8))])) b7)) (cY 0 (m:Int)) [ab (.d (.lst (ns.map D.int))),ab (.d (.int (hi:Int))),ab (.d (.int (m:Int))),ab (.d (aj ac)),ab (.d (.lst (rs.map D.int))),ab (.d (.int th)),ab (.d (f6 ac A)),ab (.d (.int (j:Int))),o8,o9]=.ok (.nx [ab (.d (.lst (ns.map D.int))),ab (.d (.int (hi:Int))),ab (.d (.int (m:Int))),ab (.d (aj ac)),ab (.d (.lst (rs.map D.int))),ab (.d (.int th)),ab (.d (f6 ac A')),ab (.d (.int (j:Int))),p8,p9])/\good m (λi=>rs.getD i 0) A' (j+1) 0:=by
  intro j A o8 o9 hj hg;obtain⟨e',f1,A',p8,p9,he,hg'⟩:=g9 (tg:=.n 8) (body:=(aP (bE 9 (aW d6 [(wD (mV 0)),(wD (m2 aV (m2 aV (mC (.int 4)) (m2 bP (m2 bp (mN gI [(mV 7),(mV 8)]) (m2 iK (mN gI [(mV 7),(mV 8)]) (mC (.int 1)))) (mC (.int 2)))) (mN ko [(mV 7),(mV 8)])))])) (bx (eU (cB (m2 dB (m2 aG (mV 4) (mV 7)) (m2 aG (mV 4) (mV 8)))) (cB (m2 dB (m2 aU (m2 bP (m2 aU (m2 bp (mV 9) (mC (.int 48271))) (mC (.int 2147483647))) (mC (.int 16))) (mC (.int 4))) (mV 5)))) (fW 6 (mN dTup [(m2 aG (mV 3) (mV 7)),(m2 aG (mV 3) (mV 8))])) b7))) (λk e=>∃(A:List Ix) (o8 o9:Option W),e=[ab (.d (.lst (ns.map D.int))),ab (.d (.int (hi:Int))),ab (.d (.int (m:Int))),ab (.d (aj ac)),ab (.d (.lst (rs.map D.int))),ab (.d (.int th)),ab (.d (f6 ac A)),ab (.d (.int (j:Int))),o8,o9]/\good m (λi=>rs.getD i 0) A j k)
   (cY 0 (m:Int)) 0 (λk x e hx ⟨A,o8,o9,he,hg⟩=>by
    obtain⟨hk,rfl⟩:=oW hx;subst he;rw[eJ]at hg;obtain⟨c,hc⟩:=JO ns (e:=[ab (.d (.lst (ns.map D.int))),ab (.d (.int (hi:Int))),ab (.d (.int (m:Int))),ab (.d (aj ac)),ab (.d (.lst (rs.map D.int))),ab (.d (.int th)),ab (.d (f6 ac A)),ab (.d (.int (j:Int))),ab (.d (.int (k:Int))),o9]) (j:=j) (k:=k) (by omega) (by omega) rfl rfl rfl;have c1:cB (m2 dB (m2 aG (mV 4) (mV 7)) (m2 aG (mV 4) (mV 8))) [ab (.d (.lst (ns.map D.int))),ab (.d (.int (hi:Int))),ab (.d (.int (m:Int))),ab (.d (aj ac)),ab (.d (.lst (rs.map D.int))),ab (.d (.int th)),ab (.d (f6 ac A)),ab (.d (.int (j:Int))),ab (.d (.int (k:Int))),ab (.d (.int c))]=.ok (decide (rs.getD j 0<rs.getD k 0)):=cQ (av (av rfl rfl (hrx j hj)) (av rfl rfl (hrx k hk)) rfl);have c2:cB (m2 dB (m2 aU (m2 bP (m2 aU (m2 bp (mV 9) (mC (.int 48271))) (mC (.int 2147483647))) (mC (.int 16))) (mC (.int 4))) (mV 5)) [ab (.d (.lst (ns.map D.int))),ab (.d (.int (hi:Int))),ab (.d (.int (m:Int))),ab (.d (aj ac)),ab (.d (.lst (rs.map D.int))),ab (.d (.int th)),ab (.d (f6 ac A)),ab (.d (.int (j:Int))),ab (.d (.int (k:Int))),ab (.d (.int c))]=.ok (decide (c*48271%2147483647/16%4<th)):=cQ (av (av (av (av (av rfl rfl (aE (nr (by decide) (by decide)))) rfl (aE (by decide))) rfl (aE (gD (by decide) (by decide)))) rfl (aE (by decide))) rfl rfl);by_cases hb:rs.getD j 0<rs.getD k 0/\c*48271%2147483647/16%4<th
    ·refine⟨[ab (.d (.lst (ns.map D.int))),ab (.d (.int (hi:Int))),ab (.d (.int (m:Int))),ab (.d (aj ac)),ab (.d (.lst (rs.map D.int))),ab (.d (.int th)),ab (.d (f6 ac A)),ab (.d (.int (j:Int))),ab (.d (.int (k:Int))),o9],[ab (.d (.lst (ns.map D.int))),ab (.d (.int (hi:Int))),ab (.d (.int (m:Int))),ab (.d (aj ac)),ab (.d (.lst (rs.map D.int))),ab (.d (.int th)),ab (.d (f6 ac (A++[(j,k)]))),ab (.d (.int (j:Int))),ab (.d (.int (k:Int))),ab (.d (.int c))],rfl,?_,A++[(j,k)],ab (.d (.int (k:Int))),ab (.d (.int c)),rfl,by rw[eJ];exact hg.add hj hk hb.1⟩;rw[aR (e':=[ab (.d (.lst (ns.map D.int))),ab (.d (.int (hi:Int))),ab (.d (.int (m:Int))),ab (.d (aj ac)),ab (.d (.lst (rs.map D.int))),ab (.d (.int th)),ab (.d (f6 ac A)),ab (.d (.int (j:Int))),ab (.d (.int (k:Int))),ab (.d (.int c))]) (ca hc)];rw[fS (by unfold eU;rw[c1,aM,cE hb.1,aw rfl,c2,cE hb.2])];rw[o0 (d:=pairD (nth ac j,nth ac k)) (ds:=(A.map (arrOf ac)).map pairD) (nG (av rfl rfl (hnx j hj)) (av rfl rfl (hnx k hk))) rfl (by rw[aS,aS];have:=hg.2.2;omega)];show Rs.ok (Out.nx [_,_,_,_,_,_,ab (W.d (D.lst ((A.map (arrOf ac)).map pairD++[pairD (nth ac j,nth ac k)]))),_,_,_])=_;rw[f6,eX,eX];rfl
    ·refine⟨[ab (.d (.lst (ns.map D.int))),ab (.d (.int (hi:Int))),ab (.d (.int (m:Int))),ab (.d (aj ac)),ab (.d (.lst (rs.map D.int))),ab (.d (.int th)),ab (.d (f6 ac A)),ab (.d (.int (j:Int))),ab (.d (.int (k:Int))),o9],[ab (.d (.lst (ns.map D.int))),ab (.d (.int (hi:Int))),ab (.d (.int (m:Int))),ab (.d (aj ac)),ab (.d (.lst (rs.map D.int))),ab (.d (.int th)),ab (.d (f6 ac A)),ab (.d (.int (j:Int))),ab (.d (.int (k:Int))),ab (.d (.int c))],rfl,?_,A,ab (.d (.int (k:Int))),ab (.d (.int c)),rfl,by rw[eJ];exact hg.skip⟩;rw[aR (e':=[ab (.d (.lst (ns.map D.int))),ab (.d (.int (hi:Int))),ab (.d (.int (m:Int))),ab (.d (aj ac)),ab (.d (.lst (rs.map D.int))),ab (.d (.int th)),ab (.d (f6 ac A)),ab (.d (.int (j:Int))),ab (.d (.int (k:Int))),ab (.d (.int c))]) (ca hc)];rw[c9 (by
      unfold eU;rw[c1,aM];by_cases hb1:rs.getD j 0<rs.getD k 0
      ·rw[cE hb1,aw rfl,c2,bw λz=>hb ⟨hb1,z⟩]
      ·rw[bw hb1,ay cN])]
     rfl) _ ⟨A,o8,o9,rfl,hg⟩
  subst he;rw[j1,eJ]at hg';exact⟨A',p8,p9,f1,hg'.next hm8⟩
 obtain⟨e',f1,A,p7,p8,p9,he,hg⟩:=g9 (tg:=.n 7) (body:=(dF (fN (mV 2)) (.n 8) (aP (bE 9 (aW d6 [(wD (mV 0)),(wD (m2 aV (m2 aV (mC (.int 4)) (m2 bP (m2 bp (mN gI [(mV 7),(mV 8)]) (m2 iK (mN gI [(mV 7),(mV 8)]) (mC (.int 1)))) (mC (.int 2)))) (mN ko [(mV 7),(mV 8)])))])) (bx (eU (cB (m2 dB (m2 aG (mV 4) (mV 7)) (m2 aG (mV 4) (mV 8)))) (cB (m2 dB (m2 aU (m2 bP (m2 aU (m2 bp (mV 9) (mC (.int 48271))) (mC (.int 2147483647))) (mC (.int 16))) (mC (.int 4))) (mV 5)))) (fW 6 (mN dTup [(m2 aG (mV 3) (mV 7)),(m2 aG (mV 3) (mV 8))])) b7)))) (λj e=>∃(A:List Ix) (o7 o8 o9:Option W),e=[ab (.d (.lst (ns.map D.int))),ab (.d (.int (hi:Int))),ab (.d (.int (m:Int))),ab (.d (aj ac)),ab (.d (.lst (rs.map D.int))),ab (.d (.int th)),ab (.d (f6 ac A)),o7,o8,o9]/\good m (λi=>rs.getD i 0) A j 0)
  (cY 0 (m:Int)) 0 (λj x e hx ⟨A,o7,o8,o9,he,hg⟩=>by
   obtain⟨hj,rfl⟩:=oW hx;subst he;rw[eJ]at hg;obtain⟨A',p8,p9,f1,hg'⟩:=inner j A o8 o9 hj hg;exact⟨_,_,rfl,(gs (ie rfl (nE m hm8))).trans f1,A',_,p8,p9,rfl,by rw[eJ];exact hg'⟩)
  [ab (.d (.lst (ns.map D.int))),ab (.d (.int (hi:Int))),ab (.d (.int (m:Int))),ab (.d (aj ac)),ab (.d (.lst (rs.map D.int))),ab (.d (.int th)),ab (.d (.lst [])),ae,ae,ae] ⟨[],ae,ae,ae,rfl,qC,λp hp=>absurd hp (by simp),eY _⟩
 subst he;rw[j1,eJ]at hg;refine⟨ac,A,λi=>rs.getD i 0,?_,⟨hnd,by omega,by omega,hg.1,λp hp=>?_,by have:=hg.2.2;omega⟩,⟨c1,m,hm8,hnm⟩,c0,hc0,by rw[hnl,<- hm]⟩
 ·unfold qg Ck;rw[jZ];rw[show((0:Nat):Int)=0 from rfl]at hc0;rw[show((1:Nat):Int)=1 from rfl]at hc1;rw[show((2:Nat):Int)=2 from rfl]at hc2;rw[show((3:Nat):Int)=3 from rfl]at hc3;rw[aR (e':=[ab (.d (.lst (ns.map D.int))),ab (.d (.int (hi:Int))),ab (.d (.int (m:Int))),ae,ae,ae,ae,ae,ae,ae]) (ca (d:=.int (m:Int)) ((av rfl (av (call2 rfl rfl hc0) rfl (aE hw)) rfl).trans (by rw[lI,hm])))];rw[aR (e':=[ab (.d (.lst (ns.map D.int))),ab (.d (.int (hi:Int))),ab (.d (.int (m:Int))),ab (.d (aj ac)),ae,ae,ae,ae,ae,ae]) (ca (call2 (cv (call2 rfl rfl hc1)) rfl hn))];rw[aR (e':=[ab (.d (.lst (ns.map D.int))),ab (.d (.int (hi:Int))),ab (.d (.int (m:Int))),ab (.d (aj ac)),ab (.d (.lst (rs.map D.int))),ae,ae,ae,ae,ae]) (ca (call2 (cv (call2 rfl rfl hc2)) rfl hr))];have hl6:mN cx [(mC (.int 4)),(mC (.int 1)),(mC (.int 2)),(mC (.int 3)),(mC (.int 2)),(mC (.int 3))] [ab (.d (.lst (ns.map D.int))),ab (.d (.int (hi:Int))),ab (.d (.int (m:Int))),ab (.d (aj ac)),ab (.d (.lst (rs.map D.int))),ae,ae,ae,ae,ae]=.ok (.lst ([4,1,2,3,2,3].map D.int)):=by
   show a6 (([4,1,2,3,2,3].map D.int).length<=16777216) _=_;exact aE (by simp)
  rw[aR (e':=[ab (.d (.lst (ns.map D.int))),ab (.d (.int (hi:Int))),ab (.d (.int (m:Int))),ab (.d (aj ac)),ab (.d (.lst (rs.map D.int))),ab (.d (.int th)),ae,ae,ae,ae]) (ca (av hl6 (av (call2 rfl rfl hc3) rfl (aE (by decide))) hth))];rw[aR (e':=[ab (.d (.lst (ns.map D.int))),ab (.d (.int (hi:Int))),ab (.d (.int (m:Int))),ab (.d (aj ac)),ab (.d (.lst (rs.map D.int))),ab (.d (.int th)),ab (.d (.lst [])),ae,ae,ae]) (ca (nQ _))];rw[aR ((gs (ie rfl (nE m hm8))).trans f1)];rw[fB (cv (nG (x:=fb ac) (y:=nO (A.map (arrOf ac))) (kn (x:=aj ac) rfl) (kn (x:=f6 ac A) rfl)))];rfl
 ·obtain⟨a,b,c,_⟩:=hg.2.1 p hp;exact⟨by omega,by omega,c⟩
end Mr
namespace Mr
open PySem Mi
theorem BF:∀{ds:List D} {k i:Nat} {x:D},(gC k ds)[i]? = ab x->∃d,ds[i]? = ab d/\x=.tup [.int ((k+i:Nat):Int),d]
 |[],_,_,_,h=>by simp[gC]at h
 |d::r,k,0,x,h=>by simp[gC]at h;exact⟨d,rfl,by rw[<- h];simp⟩
 |d::r,k,i+1,x,h=>by
  obtain⟨d',h1,h2⟩:=BF (ds:=r) (k:=k+1) (i:=i) (x:=x) (by simpa [gC]using h);exact⟨d',by simpa using h1,by rw[h2,show k+1+i=k+(i+1)by omega]⟩
theorem FR(ns:List Int)(m:Nat)(h1:1<=m)(hm:m<=8):∃qs:List Int,oE [.d (.lst (ns.map D.int)),.d (.int (m:Int))]=.ok (.d (.lst (qs.map D.int))):=by
 obtain⟨c,hc⟩:=lM ns 39 (by decide);rw[show((39:Nat):Int)=39 from rfl]at hc;unfold oE BX;rw[sG];obtain⟨xs,hxs⟩ : ∃xs:List Int,ia (ns.map D.int) (ab 40) (ab 63)=xs.map D.int:=⟨ia ns (ab 40) (ab 63),by unfold ia;simp only[aS,tD,xg]⟩;obtain⟨e',f1,ls,o3,o4,he,hls⟩:=g9 (tg:=.t [3,4]) (body:=(bx (cB (m2 dB (m2 aV (mV 3) (mC (.int 1))) (mV 1)))
 (fW 2 (m2 aU (mV 4) (mC (.int 2147483647))))
 (pH 2 (m2 aU (mV 3) (mV 1)) (m2 aU (m2 aV (m2 bp (m2 aG (mV 2) (m2 aU (mV 3) (mV 1))) (mC (.int 69621))) (mV 4)) (mC (.int 2147483647))))))
  (λi e=>∃(ls:List Int) (o3 o4:Option W),e=[ab (.d (.lst (ns.map D.int))),ab (.d (.int (m:Int))),ab (.d (.lst (ls.map D.int))),o3,o4]/\ls.length=min (i+1) m) (gC 0 (xs.map D.int)) 0 (λi x e hx ⟨ls,o3,o4,he,hls⟩=>by
   obtain⟨d,hd,rfl⟩:=BF hx;subst he;rw[eJ]at hls ⊢;obtain⟨v,rfl⟩ : ∃v:Int,d=.int v:=by obtain⟨v,_,rfl⟩:=c8.mp (iT hd);exact⟨v,rfl⟩
   have ct:cB (m2 dB (m2 aV (mV 3) (mC (.int 1))) (mV 1)) [ab (.d (.lst (ns.map D.int))),ab (.d (.int (m:Int))),ab (.d (.lst (ls.map D.int))),ab (.d (.int (i:Int))),ab (.d (.int v))]=.ok (decide ((i:Int)+1<(m:Int))):=cQ (av (av rfl rfl rfl) rfl rfl);by_cases hb:(i:Int)+1<(m:Int)
   ·rw[cE hb]at ct;refine⟨[ab (.d (.lst (ns.map D.int))),ab (.d (.int (m:Int))),ab (.d (.lst (ls.map D.int))),ab (.d (.int (i:Int))),ab (.d (.int v))],[ab (.d (.lst (ns.map D.int))),ab (.d (.int (m:Int))),ab (.d (.lst ((ls++[v%2147483647]).map D.int))),ab (.d (.int (i:Int))),ab (.d (.int v))],rfl,?_,ls++[v%2147483647],_,_,rfl,by rw[bA,hls];simp;omega⟩;rw[fS ct,o0 (d:=.int (v%2147483647)) (ds:=ls.map D.int) (av rfl rfl (aE (by decide))) rfl (by rw[aS];omega)];rw[eX];rfl
   ·rw[bw hb]at ct;have z0:=fq (i:Int) (b:=(m:Int)) (by omega);have z1:=fK (i:Int) (b:=(m:Int)) (by omega);have hk:∀e:Mi.Env,mV 3 e=.ok (.int (i:Int))->mV 1 e=.ok (.int (m:Int))->m2 aU (mV 3) (mV 1) e=.ok (.int ((i:Int)%(m:Int))):=λe a b=>av a b (aE (by omega));have hix:aG (.lst (ls.map D.int)) (.int ((i:Int)%(m:Int)))=.ok (.int (ls.getD ((i:Int)%(m:Int)).toNat 0)):=ph z0 (by omega);have hv:m2 aU (m2 aV (m2 bp (m2 aG (mV 2) (m2 aU (mV 3) (mV 1))) (mC (.int 69621))) (mV 4)) (mC (.int 2147483647)) [ab (.d (.lst (ns.map D.int))),ab (.d (.int (m:Int))),ab (.d (.lst (ls.map D.int))),ab (.d (.int (i:Int))),ab (.d (.int v))]=.ok (.int ((ls.getD ((i:Int)%(m:Int)).toNat 0*69621+v)%2147483647)):=
     av (av (av (av rfl (hk _ rfl rfl) hix) rfl (aE (nr (by decide) (by decide)))) rfl rfl) rfl (aE (by decide))
    obtain⟨ls',hl',hs⟩:=sT (i:=2) (e:=[ab (.d (.lst (ns.map D.int))),ab (.d (.int (m:Int))),ab (.d (.lst (ls.map D.int))),ab (.d (.int (i:Int))),ab (.d (.int v))]) (ls:=ls) hv (hk _ rfl rfl) rfl z0 (by omega);exact⟨[ab (.d (.lst (ns.map D.int))),ab (.d (.int (m:Int))),ab (.d (.lst (ls.map D.int))),ab (.d (.int (i:Int))),ab (.d (.int v))],[ab (.d (.lst (ns.map D.int))),ab (.d (.int (m:Int))),ab (.d (.lst (ls'.map D.int))),ab (.d (.int (i:Int))),ab (.d (.int v))],rfl,(c9 ct).trans hs,ls',_,_,rfl,by omega⟩) [ab (.d (.lst (ns.map D.int))),ab (.d (.int (m:Int))),ab (.d (.lst ([c%2147483647].map D.int))),ae,ae] ⟨[c%2147483647],ae,ae,rfl,by simp;omega⟩
 subst he;refine⟨ls,?_⟩;rw[aR (e':=[ab (.d (.lst (ns.map D.int))),ab (.d (.int (m:Int))),ab (.d (.lst ([c%2147483647].map D.int))),ae,ae]) (ca (kJ (av (call2 rfl rfl hc) rfl (aE (by decide)))))];have hit:u5 (fw gq (mV 0) (ab (mC (.int 40))) (ab (mC (.int 63)))) [ab (.d (.lst (ns.map D.int))),ab (.d (.int (m:Int))),ab (.d (.lst ([c%2147483647].map D.int))),ae,ae]=.ok (gC 0 (xs.map D.int)):=by rw[<- hxs];rfl
 rw[aR ((gs hit).trans f1)];rfl
end Mr
namespace Mr
open PySem Mi
inductive sN(aF:List Ar)(x:Str):Str->Prop
 |refl:sN aF x x
 |step {y z:Str}:sN aF x y->(y,z)∈aF->sN aF x z
end Mr
namespace Mr
open PySem Mi
noncomputable def rch (aF:List Ar) (x y:Str):Bool:=@decide (sN aF x y) (Classical.propDecidable _)
noncomputable def Ln (ac:List Str) (aF:List Ar) (x:Str):List Str:=ac.filter (rch aF x)
def gW(fs:List Str):W:=.dk (fs.map λy=>((ft y:Ky),D.bl true))
theorem FW(fs:List Str)(y:Str):(gF (fs.map λy=>((ft y:Ky),D.bl true)) (ft y)).isSome=decide (y∈fs):=by
 unfold gF
 induction fs with
 |nil=>rfl
 |cons a r ih=>
  rw[cq,ju];by_cases h:a=y
  ·subst h;simp
  ·rw[bw (λz:(ft a:Ky)=ft y=>h (t7 z))];simp only[ih];rw[wj];exact⟨λz=>cm _ z,λz=>by
    rcases bJ.mp z with z|z
    ·exact absurd z.symm h
    ·exact z⟩
theorem Kb{i:Nat}{k:E}{e:Mi.Env}{fs:List Str}{y:Str}(hk:k e=.ok (.str y))(hw:wV i e=.ok (gW fs)):pe i k e=.ok (.bl (decide (y∈fs))):=by unfold pe;rw[hk,aM,hw,aM,<- FW];rfl
theorem JJ{i:Nat}{k:E}{e:Mi.Env}{fs:List Str}{y:Str}(hk:k e=.ok (.str y))(hw:wV i e=.ok (gW fs))(hn:y∉fs)(hl:fs.length<=1000):iR i k (mC (.bl true)) e=.ok (.nx (e.set i (ab (gW (fs++[y]))))):=by
 unfold iR;have h1:uJ (gW fs) (.str y) (.bl true)=.ok (gW (fs++[y])):=by
  show a6 ((fs.map λy=>((ft y:Ky),D.bl true)).length<16777216) ((cA (lp (.str y))).bind λk=>Rs.ok (W.dk (Mi.putK k (.bl true) (fs.map λy=>((ft y:Ky),D.bl true)))))=_;rw[aE (by rw[aS];omega)];show Rs.ok (W.dk (Mi.putK (ft y:Ky) (.bl true) (fs.map λy=>((ft y:Ky),D.bl true))))=_;unfold Mi.putK;rw[ay (by
   rw[List.any_map,Bool.not_eq_true,w5];intro z hz;simp only[Function.comp,jT];exactλq=>hn (t7 q ▸ hz))]
  unfold gW;rw[eX];rfl
 show(k e).bind _=_;rw[hk,aM,hw,aM,h1];rfl
end Mr
namespace Mr
open PySem Mi
noncomputable def hb (ac:List Str) (aF:List Ar) (bm:List Str) (x:Str):Bool:=(Ln ac aF x).any λy=>decide (y∈bm)
end Mr
namespace Mr
open PySem Mi
abbrev qS:=Str×Str×Str
def tri:List Str->List qS
 |a::b::c::r=>(a,b,c)::tri (b::c::r)
 |_=>[]
def AH(bS:List Str)(i:Nat):qS:=(nth bS i,nth bS (i+1),nth bS (i+2))
theorem GN(aF:List Ar)(p:Ar):((aF.map pairD).any λe=>bi e (pairD p))=decide (p∈aF):=by
 induction aF with
 |nil=>rfl
 |cons q r ih=>
  rw[cq,iU,ih];have:bi (pairD q) (pairD p)=decide (q=p):=by unfold pairD;rw[bi,gG,gG,gG,oO,oO];obtain⟨a,b⟩:=q;obtain⟨c,d⟩:=p;by_cases h1:a=c<;>by_cases h2:b=d<;>simp[h1,h2]
  rw[this];by_cases h:q=p
  ·simp[h]
  ·have h2:¬ p=q:=λz=>h z.symm;simp[h,h2]
theorem Dt:∀aF:List Ar,cH (aF.map pairD)<=1
 |[]=>by simp
 |p::r=>by
  have:=Dt r;rw[cq,y3];have h:(pairD p).dep=1:=by simp[pairD]
  omega
theorem rJ(aF:List Ar)(p:Ar):g6 (pairD p) (nO aF)=.ok (.bl (decide (p∈aF))):=by show a6 _ _=_;rw[aE (by have:=Dt aF;omega),GN]
theorem Jw(ms:List Str)(x:Str):D.lst (ms.map D.str++[.str x])=aj (ms++[x]):=by unfold aj;rw[eX];rfl
def mt(aF:List Ar)(t:qS):Bool:=decide ((t.1,t.2.1)∈aF)&&decide ((t.2.2,t.2.1)∈aF)
def meets(aF:List Ar)(bS:List Str):List Str:=((tri bS).filter (mt aF)).map (·.2.1)
end Mr
namespace Mr
open PySem Mi
def hds(aF:List Ar)(l:List Str):List Str:=(aF.filter λp=>decide (p.1∈l)).map (·.2)
def Rk(aF:List Ar):Prop:=∃r:Str->Int,∀p∈aF,r p.1<r p.2
def sn(aF:List Ar)(a m b:Str):Bool:=(decide ((a,m)∈aF)&&decide ((b,m)∈aF)) && !(decide ((a,b)∈aF)||decide ((b,a)∈aF))
end Mr
namespace Mr
open PySem Mi
theorem GA{l:List Str}(nd:l.Nodup)(hl:l.length<=1000):pA [.d (aj l)]=.ok (.d .non):=by
 unfold pA yJ;rw[zd];obtain⟨e',f1,o2,he⟩:=g9 (tg:=.n 2) (body:=(aP (bx (cB (pe 1 (mV 2))) oT b7) (iR 1 (mV 2) (mC (.bl true)))))
  (λi e=>∃o2:Option W,e=[ab (.d (aj l)),ab (gW (l.take i)),o2]) (l.map D.str) 0 (λi d e hi ⟨o2,he⟩=>by
   subst he;rw[eJ];rw[de]at hi;obtain⟨x,hx,rfl⟩:=mq.mp hi;obtain⟨il,hxe⟩:=cM.mp hx;have hn:x∉l.take i:=λz=>by
    obtain⟨j,hj⟩:=me z;have hj2:=(cM.mp hj).1;rw[cF]at hj2;rw[ma (by omega)]at hj;obtain⟨jl,hje⟩:=cM.mp hj;have:=(j6 nd).mp (hje.trans hxe.symm);omega
   refine⟨[ab (.d (aj l)),ab (gW (l.take i)),ab (.d (.str x))],[ab (.d (aj l)),ab (gW (l.take (i+1))),ab (.d (.str x))],rfl,?_,_,rfl⟩;rw[aR (e':=[ab (.d (aj l)),ab (gW (l.take i)),ab (.d (.str x))]) ((c9 (cQ ((Kb (y:=x) (fs:=l.take i) rfl rfl).trans (by rw[bw hn])))).trans rfl)];rw[JJ (y:=x) (fs:=l.take i) rfl rfl hn (by rw[cF];omega)];rw[xf,hx];rfl) [ab (.d (aj l)),ab (gW []),ae] ⟨ae,rfl⟩
 subst he;rw[aR (e':=[ab (.d (aj l)),ab (gW []),ae]) rfl];rw[gs (iN (x:=aj l) rfl rfl),f1];rfl
theorem FA{bS:List Str}{i:Nat}(h:i<bS.length):bS[i]? = ab (nth bS i):=by unfold nth;rw[dv,c7 h];rfl
theorem AC{bS:List Str}(h:1<=bS.length):aG (aj bS) (.int (-1))=.ok (.str (nth bS (bS.length-1))):=by unfold aj;show cA (cJ (bS.map D.str) (-1))=_;unfold cJ dj;rw[ay (by decide),aw (by rw[aS];omega)];rw[aS,show(-1+(bS.length:Int)).toNat=bS.length-1 by omega];show cA ((bS.map D.str)[bS.length-1]?)=_;rw[de,FA (by omega)];rfl
end Mr
namespace Mr
open PySem Mi
end Mr
namespace Mr
open PySem Mi
def tie(aF:List Ar)(a b:Str):Bool:=decide ((a,b)∈aF)||decide ((b,a)∈aF)
theorem Ji{ac:List Str}{aF:List Ar}(a b:Str):iP [.d (aJ ac aF),.d (.str a),.d (.str b)]=.ok (.d (.bl (tie aF a b))):=by
 unfold iP z9;rw[Cr];have a1:m2 g6 (mN dTup [(mV 1),(mV 2)]) (m2 aG (mV 0) (mC (.int 1))) [ab (.d (aJ ac aF)),ab (.d (.str a)),ab (.d (.str b))]=.ok (.bl (decide ((a,b)∈aF))):=(av (nG rfl rfl) (av rfl rfl (rH _ _)) rfl).trans (rJ aF (a,b));have a2:m2 g6 (mN dTup [(mV 2),(mV 1)]) (m2 aG (mV 0) (mC (.int 1))) [ab (.d (aJ ac aF)),ab (.d (.str a)),ab (.d (.str b))]=.ok (.bl (decide ((b,a)∈aF))):=(av (nG rfl rfl) (av rfl rfl (rH _ _)) rfl).trans (rJ aF (b,a));have aa:kM (m2 g6 (mN dTup [(mV 1),(mV 2)]) (m2 aG (mV 0) (mC (.int 1)))) (m2 g6 (mN dTup [(mV 2),(mV 1)]) (m2 aG (mV 0) (mC (.int 1)))) [ab (.d (aJ ac aF)),ab (.d (.str a)),ab (.d (.str b))]=.ok (.bl (tie aF a b)):=by
  unfold kM;rw[a1,aM];show(nF (.bl _)).bind _=_;rw[uV,aM];unfold tie;by_cases h:(a,b)∈aF
  ·rw[cE h,aw rfl,xx]
  ·rw[bw h,ay cN,a2,jy]
 exact(congrArg (λr=>Rs.bind r jL) (fB (cv aa))).trans rfl
end Mr
namespace Mr
open PySem Mi
end Mr
namespace Mr
open PySem Mi
theorem Gk(n:Nat)(x:Str):cL (n+1) [.d (.str x),.d (.str x)]=.ok (.d (.bl true)):=by
 show eD 2 4 (lh (cL n)) _=_;unfold lh;rw[jZ];have c0:jd (cB (m1 (cK ["str"]) (mV 1))) (cB (m1 (cK ["int"]) (mV 1))) [ab (.d (.str x)),ab (.d (.str x)),ae,ae]=.ok true:=rfl;have c1:jd (cB (m2 fH (m1 (cK ["bool"]) (mV 0)) (m1 (cK ["bool"]) (mV 1)))) (cB (m2 fH (m1 (cK ["str"]) (mV 0)) (m1 (cK ["str"]) (mV 1)))) [ab (.d (.str x)),ab (.d (.str x)),ae,ae]=.ok false:=rfl;have c2:vh (m1 (cK ["int","str"]) (mV 0)) (m2 dZ (mV 0) (mV 1)) [ab (.d (.str x)),ab (.d (.str x)),ae,ae]=.ok (.bl true):=by show m2 dZ (mV 0) (mV 1) [ab (.d (.str x)),ab (.d (.str x)),ae,ae]=_;exact(av rfl rfl rfl).trans ((uO x x).trans (by rw[cE rfl]))
 exact(congrArg (λr=>Rs.bind r jL) (lY ((fS c0).trans ((aR ((c9 c1).trans rfl)).trans (fB (cv c2)))))).trans rfl
def vx(x:Str):D:=.tup [.str x,.str x]
theorem Dr:∀xs:List Str,fX (xs.map D.str) (xs.map D.str)=xs.map vx
 |[]=>rfl
 |x::r=>by rw[cq,fX,Dr r];rfl
theorem Fc(n:Nat)(xs:List Str):cL (n+2) [.d (aj xs),.d (aj xs)]=.ok (.d (.bl true)):=by
 show eD 2 4 (lh (cL (n+1))) _=_;unfold lh;rw[jZ];have c0:jd (cB (m1 (cK ["str"]) (mV 1))) (cB (m1 (cK ["int"]) (mV 1))) [ab (.d (aj xs)),ab (.d (aj xs)),ae,ae]=.ok false:=rfl;have c1:jd (cB (m2 fH (m1 (cK ["list"]) (mV 0)) (m1 (cK ["list"]) (mV 1)))) (eI (cB (m1 (cK ["list","tuple"]) (mV 0)))) [ab (.d (aj xs)),ab (.d (aj xs)),ae,ae]=.ok false:=rfl;have c2:cB (m2 fH (mN cT [(mV 0)]) (mN cT [(mV 1)])) [ab (.d (aj xs)),ab (.d (aj xs)),ae,ae]=.ok false:=
  cQ ((av rfl rfl rfl).trans ((Cd _ _).trans (by rw[cE rfl];rfl)))
 obtain⟨e',f1,o2,o3,he⟩:=g9 (tg:=.t [2,3]) (body:=(bx (eI (cB (aW (cL (n+1)) [(wD (mV 2)),(wD (mV 3))]))) (bI (wD (mC (.bl false)))) b7))
  (λi e=>∃o2 o3:Option W,e=[ab (.d (aj xs)),ab (.d (aj xs)),o2,o3]) (xs.map vx) 0 (λi d e hi ⟨o2,o3,he⟩=>by
   subst he;rw[de]at hi;obtain⟨x,hx,rfl⟩:=mq.mp hi;have ct:eI (cB (aW (cL (n+1)) [(wD (mV 2)),(wD (mV 3))])) [ab (.d (aj xs)),ab (.d (aj xs)),ab (.d (.str x)),ab (.d (.str x))]=.ok false:=by unfold eI;rw[cQ (call2 rfl rfl (Gk n x))];rfl
   exact⟨[ab (.d (aj xs)),ab (.d (aj xs)),ab (.d (.str x)),ab (.d (.str x))],_,rfl,(c9 ct).trans rfl,_,_,rfl⟩) [ab (.d (aj xs)),ab (.d (aj xs)),ae,ae] ⟨ae,ae,rfl⟩
 subst he;have hit:rN (mV 0) (mV 1) [ab (.d (aj xs)),ab (.d (aj xs)),ae,ae]=.ok (xs.map vx):=by rw[<- Dr];rfl
 exact(congrArg (λr=>Rs.bind r jL) ((aR ((c9 c0).trans rfl)).trans ((aR ((c9 c1).trans rfl)).trans ((aR ((c9 c2).trans rfl)).trans ((aR ((gs hit).trans f1)).trans (fB (cv rfl))))))).trans rfl
end Mr
namespace Mr
open PySem Mi
theorem uC{a b:C}{e:Mi.Env}{p q:Bool}(ha:a e=.ok p)(hb:p=true->b e=.ok q):eU a b e=.ok (p&&q):=by
 unfold eU;rw[ha,aM];cases p with
 |true=>rw[aw rfl,hb rfl];rfl
 |false=>rfl
theorem u7{a:C}{e:Mi.Env}{p:Bool}(ha:a e=.ok p):eI a e=.ok (!p):=by unfold eI;rw[ha];rfl
theorem Kj{a b:E}{e:Mi.Env}{p q:Bool}(ha:a e=.ok (.bl p))(hb:p=false->b e=.ok (.bl q)):kM a b e=.ok (.bl (p||q)):=by
 unfold kM;rw[ha,aM,uV,aM];cases p with
 |true=>rfl
 |false=>rw[ay cN,hb rfl];rfl
theorem JR{f:List D->Rs D}{a b c:E}{e:Mi.Env}{x y z:D}(h:a e=.ok x)(h':b e=.ok y)(h'':c e=.ok z):mN f [a,b,c] e=f [x,y,z]:=by unfold mN;rw[fG,h,aM,fG,h',aM,fG,h''];rfl
theorem zf{α:Type}{tg:Tg}{body:S}(f:α->D)(g:α->List D)(St:List D->Mi.Env->Prop):∀(xs:List α) (acc:List D) (e:Mi.Env),acc.length+(xs.flatMap g).length<=16777216->St acc e ->
 (∀x∈xs,∀acc e,acc.length+(g x).length<=16777216->St acc e->∃e1 e2,tg.put (f x) e=.ok e1/\body e1=.ok (.nx e2)/\St (acc++g x) e2) ->
 ∃e',fL tg body (xs.map f) e=.ok (.nx e')/\St (acc++xs.flatMap g) e'
 |[],acc,e,_,h,_=>⟨e,rfl,by simpa using h⟩
 |x::r,acc,e,hl,h,hs=>by
  rw[d8,bA]at hl;obtain⟨e1,e2,h1,h2,h3⟩:=hs x cn acc e (by omega) h;obtain⟨e',h4,h5⟩:=zf f g St r (acc++g x) e2 (by rw[bA];omega) h3 λy hy=>hs y (cm _ hy);refine⟨e',?_,by rw[d8,<- f7];exact h5⟩;rw[cq,fL,h1,aM,h2,aM];exact h4
end Mr
namespace Mr
open PySem Mi
structure Nt(ac:List Str)(aF:List Ar):Prop where
 nd:ac.Nodup
 le:ac.length<=8
 al:aF.length<=64
 inn:∀p∈aF,p.1∈ac/\p.2∈ac
 rk:Rk aF
end Mr
namespace Mr
open PySem Mi
def qG(ac:List Str)(aF:List Ar):List Ar:=ac.flatMap λt=>(ac.filter λh=>decide ((t,h)∈aF)).map λh=>(t,h)
end Mr
namespace Mr
open PySem Mi
def sq(k:Bool)(ds:List D):D:=if k then .lst ds else .tup ds
end Mr
namespace Mr
open PySem Mi
def ky(ac row:List Str):List Int:=row.map λx=>((ac.idxOf x:Nat):Int)
end Mr
namespace Mr
open PySem Mi
theorem GV{ac:List Str}(nd:ac.Nodup){i:Nat}(hi:i<ac.length):ac.idxOf (nth ac i)=i:=by
 have e:nth ac i=ac[i]:=by unfold nth;rw[dv,c7 hi];rfl
 rw[e];exact nd.idxOf_getElem i hi
theorem BG{ac:List Str}{x y:Str}(hx:x∈ac)(hy:y∈ac)(h:ac.idxOf x=ac.idxOf y):x=y:=by
 have h1:=tw (nV.mpr hx);have h2:=tw (nV.mpr hy);rw[<- h1,<- h2]
 congr 1
def tr(t:qS):List Str:=[t.1,t.2.1,t.2.2]
end Mr
namespace Mr
open PySem Mi
theorem yz{a b:E}{e:Mi.Env}{x y:D}(h:a e=.ok x)(h':b e=.ok y):mN cx [a,b] e=.ok (.lst [x,y]):=by unfold mN;rw[fG,h,aM,fG,h',aM];rfl
theorem Go{a:E}{e:Mi.Env}{x:D}(h:a e=.ok x):iB a e=.ok (.nx e):=by unfold iB;rw[h];rfl
theorem J8{ac:List Str}{aF:List Ar}{a b:Str}(ha:a∈ac)(hb:b∈ac):lJ [.d (aJ ac aF),.d (.str a),.d (.str b)]=.ok (.d (.bl (tie aF a b))):=by
 unfold lJ zi;rw[Cr];rw[show([ab (W.d (aJ ac aF)),ab (W.d (.str a)),ab (W.d (.str b))]++dm (3-3) ae)=[ab (W.d (aJ ac aF)),ab (W.d (.str a)),ab (W.d (.str b))]from rfl];have hr:kB [.d (fb ac),.d (aj [a,b])]=.ok (.d .non):=CJ λx hx=>by
  rcases bJ.mp hx with rfl|hx
  ·exact ha
  ·rw[bB.mp hx];exact hb
 rw[aR (Go (call2 (cv (av rfl rfl (jH _ _))) (cv (yz rfl rfl)) hr))];have aa:kM (m2 g6 (mN dTup [(mV 1),(mV 2)]) (m2 aG (mV 0) (mC (.int 1)))) (m2 g6 (mN dTup [(mV 2),(mV 1)]) (m2 aG (mV 0) (mC (.int 1)))) [ab (.d (aJ ac aF)),ab (.d (.str a)),ab (.d (.str b))]=.ok (.bl (tie aF a b)):=
  Kj (av (nG rfl rfl) (av rfl rfl (rH ac aF)) (rJ aF (a,b))) λ_=>av (nG rfl rfl) (av rfl rfl (rH ac aF)) (rJ aF (b,a))
 rw[fB (cv aa)];rfl
end Mr
namespace Mr
open PySem Mi
open My (words dh dD)
theorem yP{α:Type}{l:List α}(nd:l.Nodup){i:Nat}{x:α}(hx:l[i]? = ab x):x∉l.take i:=λz=>by
 obtain⟨il,hxe⟩:=cM.mp hx;obtain⟨j,hj⟩:=me z;have hj2:=(cM.mp hj).1;rw[cF]at hj2;rw[ma (by omega)]at hj;obtain⟨jl,hje⟩:=cM.mp hj;have:=(j6 nd).mp (hje.trans hxe.symm);omega
def both(xs:List Ar):List Ar:=xs.flatMap λp=>[p,(p.2,p.1)]
structure Apart(ac:List Str)(xs:List Ar):Prop where
 inn:∀p∈xs,p.1∈ac/\p.2∈ac
 irr:∀p∈xs,p.1≠p.2
 pw:xs.Pairwise λp q=>p≠q/\p≠(q.2,q.1)
end Mr
namespace Mr
open PySem Mi
open My (words dh dD)
theorem sk.apart{ac:List Str}{A:List Ix}{r:Nat->Int}(N:sk ac A r):Apart ac (A.map (arrOf ac)):=by
 refine⟨λp hp=>?_,λp hp=>?_,?_⟩
 ·obtain⟨q,hq,rfl⟩:=c8.mp hp;exact⟨CT (N.all q hq).1,CT (N.all q hq).2.1⟩
 ·obtain⟨q,hq,rfl⟩:=c8.mp hp;obtain⟨h1,h2,h3⟩:=N.all q hq;intro z;have:=lD N.nd h1 h2 z;rw[this]at h3;omega
 ·rw[qo];refine List.Pairwise.imp_of_mem (λ{p q} hp hq h=>?_) N.qG;obtain⟨h1,h2,h3⟩:=N.all p hp;obtain⟨k1,k2,k3⟩:=N.all q hq;refine⟨λz=>?_,λz=>?_⟩
  ·have e1:=lD N.nd h1 k1 (congrArg Prod.fst z);have e2:=lD N.nd h2 k2 (congrArg Prod.snd z);rcases h with h|⟨_,h⟩<;>omega
  ·have e1:=lD N.nd h1 k2 (congrArg Prod.fst z);have e2:=lD N.nd h2 k1 (congrArg Prod.snd z);rw[e1,e2]at h3;omega
end Mr
namespace Mr
open PySem Mi
abbrev nn:D:=.lst [.str "NoName"]
end Mr
namespace Mr
open PySem Mi
open My (words dh dD)
def Ft(aF:List Ar)(x:Str):List Str:=(aF.filter λp=>decide (p.1=x)).map (·.2)
end Mr
namespace Mr
open PySem Mi
open My (words dh dD)
end Mr
namespace Mr
open PySem Mi
open My (words dh dD)
end Mr
namespace Mr
open PySem Mi
open My (words dh dD)
structure Lk(ac:List Str)(aF:List Ar):Prop where
 nd:ac.Nodup
 le:ac.length<=8
 al:aF.length<=64
 inn:∀p∈aF,p.1∈ac/\p.2∈ac
 rk:Rk aF
 nda:aF.Nodup
end Mr
namespace Mr
open PySem Mi
open My (words dh dD)
end Mr
namespace Mr
open PySem Mi
open My (words dh dD)
end Mr
namespace Mr
open PySem Mi
open My (words dh dD)
end Mr
namespace Mr
open PySem Mi
open My (words dh dD)
end Mr
namespace Mr
open PySem Mi
def rk(r:List Str):List Ky:=r.map ft
abbrev Ak:=List (Ar×D)
def wE(told:Ak):List Ar:=told.map (·.1)
end Mr
namespace Mr
open PySem Mi
structure Dc(ac:List Str)(A:List Ar)(KT KC:List (List Str)):Prop where
 kt:∀a∈ac,∀b∈ac,a≠b->([a,b]∈KT↔tie A a b=true)
 ktm:∀k∈KT,∃a b,k=[a,b]/\a∈ac/\b∈ac/\a≠b/\tie A a b=true
 kc:∀a∈ac,∀m∈ac,∀b∈ac,[a,m,b]∈KC↔a≠b/\sn A a m b=true
def F5(t h s:Str)(x:List Str):D:=.tup [.str t,.str h,.str s,.tup (x.map D.str)]
inductive Rl(ac:List Str)(A P:List Ar)(t h:Str):Str->List Str->Prop
 |Lo {z:Str} (zn:z∈ac) (ne:t≠z) (c:sn A t h z=true):Rl ac A P t h "corner" [z]
 |on {z:Str} (zn:z∈ac) (ne:z≠h) (nt:tie A z h=false) (nc:sn A z t h=false) (p:(z,t)∈P):Rl ac A P t h "on" [z]
 |over {z:Str} (zn:z∈ac) (p:(t,z)∈P) (q:(z,h)∈P):Rl ac A P t h "over" [z]
 |both {z w:Str} (zn:z∈ac) (wn:w∈ac) (ne:z≠w) (nt:tie A z w=false) (nc:sn A z t w=false) (t1:tie A z t=true) (t2:tie A w t=true) (p:(z,h)∈P) (q:(w,h)∈P):Rl ac A P t h "both" [z,w]
end Mr
namespace Mr
open PySem Mi
end Mr
namespace Mr
open PySem Mi
structure Gt(ac:List Str)(A:List Ar)(told:Ak):Prop where
 nd:(wE told).Nodup
 sub:∀p∈wE told,p∈A
 ord:∀i q,told[i]? = ab q->∃s x,q.2=F5 q.1.1 q.1.2 s x/\Rl ac A (wE (told.take i)) q.1.1 q.1.2 s x
end Mr
namespace Mr
open PySem Mi
end Mr
namespace Mr
open PySem Mi
end Mr
namespace Mr
open PySem Mi
end Mr
namespace Mr
open PySem Mi
end Mr
namespace Mr
open PySem Mi
end Mr
namespace Mr
open PySem Mi
end Mr
namespace Mr
open PySem Mi
open My (words dh dD)
end Mr
namespace Mr
open PySem Mi
open My (words dh dD)
end Mr
namespace Mr
open PySem Mi
end Mr
namespace Mr
open PySem Mi
open My (words dh dD)
end Mr
namespace Mr
open PySem Mi
open PySem.Builtin PySem.Builtin.Str
def cl(x:Str):List Nat:=x.cps.toList
end Mr
namespace Mr
open PySem Mi
open My (words dh dD)
def Wd(x:Str):Prop:=∃l,x=S' l/\dh l
def Cf(c:Str)(p:Ar):Str:=GK [p.1,c,p.2]
def BY(ac:List Str)(xs:List Ar):List Str:=ac++[(":" : Str)]++xs.map (Cf ">")
def tx(ac:List Str)(xs:List Ar):Str:=io " " (BY ac xs)
def nt(ac:List Str):List Nat:=ac.flatMap λn=>cl n++[32]
theorem Ig{α:Type}{l:List α}{i:Nat}{x:α}(h:l[i]? = ab x):l.take (i+1)=l.take i++[x]:=by rw[xf,h];rfl
end Mr
namespace Mr
open PySem Mi
open My (words dh dD)
def tp(ac:List Str)(R S:List Ar):Str:=io " " (BY ac R++S.map (Cf "-"))
end Mr
namespace Vp
end Vp
namespace Mr
open PySem Mi
open Vp
def ar(A:List Ar)(u v:Str):Prop:=(u,v)∈A
def wt:List Str->List (List Str)
 |[]=>[[]]
 |x::r=>wt r++(wt r).map (· ++ [x])
def rst(ac:List Str)(i j:Str):List Str:=ac.filter λn=>!decide (n=i) && !decide (n=j)
end Mr
namespace Mr
open PySem Mi
end Mr
namespace Mr
open PySem Mi
end Mr
namespace Mr
open PySem Mi
open My (dD)
theorem Cb{m:S}{e:Mi.Env}{w:W}(h:m e=.ok (.rt w)):nN m e=.ok (.rt w):=by unfold nN;rw[h]
end Mr
namespace Mr
open PySem Mi
open Vp
end Mr
namespace Mr
open PySem Mi
open Vp
end Mr
namespace Mr
open PySem Mi
open Vp
abbrev Qn:=Str×Str×List Str
def Ip(ac:List Str)(a b:Str):List Qn:=(wt (rst ac a b).reverse).map λl=>(a,b,l)
def IQ(ac:List Str)(k:Nat):List Qn:=(ac.drop (k+1)).flatMap λb=>Ip ac (nth ac k) b
def qs(ac:List Str):List Qn:=(bn ac.length).flatMap (IQ ac)
end Mr
namespace Vp
end Vp
namespace Mr
open PySem Mi
open Vp
class Kd (β:Type) where
 d:β->D
 k:β->Ky
 inj:∀a b,k a=k b->a=b
 key:∀b,lp (d b)=ab (k b)
 kd:∀b,K4 (k b)=d b
 im:∀b,CZ (d b)=true
instance:Kd Bool:=⟨.bl,.inl,λ_ _=>Sum.inl.inj,λ_=>rfl,λ_=>rfl,λ_=>rfl⟩
instance:Kd Str:=⟨.str,.inr,λ_ _=>t7,λ_=>rfl,λ_=>rfl,λ_=>rfl⟩
abbrev dr(β:Type):=Str×β
abbrev Spot:=dr Bool
abbrev lA(β:Type):=dr β×Option (dr β)
abbrev Bf:=lA Bool
section
variable{β:Type}[DecidableEq β][Kd β]
def bZ(s:dr β):D:=.tup [.str s.1,Kd.d s.2]
def kN(bs:List (lA β)):List (dr β):=bs.map (·.1)
inductive nC(st:List (dr β))(nx:(dr β)->List (dr β)):List (lA β)->Prop
 |nil:nC st nx []
 |from{bs:List (lA β)} {s:(dr β)}:nC st nx bs->s∈st->nC st nx (bs++[(s,ae)])
 |on {bs:List (lA β)} {s h:(dr β)} {pre post:List (dr β)}:nC st nx bs->kN bs=pre++h::post->(∀t∈pre,s∉nx t)->s∉st->s∈nx h->nC st nx (bs++[(s,ab h)])
section
variable{κ:Kp}{f:Fn}{ua:List D}{X:D}{st U:List (dr β)}{nx:(dr β)->List (dr β)}
structure LH(st U:List (dr β))(nx:(dr β)->List (dr β))(bs:List (lA β))(ws:List (dr β)):Prop where
 tr:nC st nx bs
 nd:(kN bs).Nodup
 u:∀s∈kN bs,s∈U
 st:∀s∈st,s∈kN bs
 q:∃dn,kN bs=dn++ws/\∀s∈dn,∀t∈nx s,t∈kN bs
end
end
end Mr
namespace Mr
open PySem Mi
open Vp
def Db(A:List Ar)(x:Str):List Spot:=(Ft A x).map λy=>(y,true)
def uW(A:List Ar)(x:Str):List Spot:=(BH A x).map λy=>(y,false)
noncomputable def nxS (ac:List Str) (A:List Ar) (bm:List Str) (s:Spot):List Spot:=
 (if s.1∈bm then[]else Db A s.1)++(if(if s.2=true then hb ac A bm s.1 else !decide (s.1∈bm))=true then uW A s.1 else[])
def LD(A:List Ar)(x:Str):List Spot:=Db A x++uW A x
def Ly(ac:List Str):List Spot:=ac.map (λx=>(x,true))++ac.map λx=>(x,false)
theorem Jc{ac asked:List Str}(h:∀x∈asked,x∈ac)(nd:asked.Nodup)(hl:asked.length<=1000):pj [.d (fb ac),.d (aj asked)]=.ok (.d .non):=by unfold pj Bw;rw[jZ];rw[aR (e':=[ab (.d (fb ac)),ab (.d (aj asked))]) (by unfold iB;rw[call2 rfl rfl (CJ h)];rfl)];show Rs.bind (iB _ _) _=_;unfold iB;rw[Fj rfl (GA nd hl)];rfl
end Mr
namespace Mr
open PySem Mi
open Vp
section
variable{β:Type}[DecidableEq β][Kd β]
structure Lu(st:List (dr β))(nx:(dr β)->List (dr β))(bs:List (lA β))(l:List (dr β)):Prop where
 hd:∃x r,l=x::r/\x∈st/\(x,ae)∈bs
 sub:l.Sublist (kN bs)
 step:∀(k:Nat) (u v:(dr β)),l[k]? = ab u->l[k+1]? = ab v->v∈nx u/\v∉st/\(v,ab u)∈bs/\∃pre post,kN bs=pre++u::post/\∀t∈pre,v∉nx t
end
end Mr
namespace Mr
open PySem Mi
open Vp
end Mr
namespace Vp
end Vp
namespace Mr
open PySem Mi
open Vp
end Mr
namespace Mr
open PySem Mi
open Vp
end Mr
namespace Mr
open PySem Mi
open Vp
open My (words dh dD)
end Mr
namespace Mr
open PySem Mi
open Vp
open My (words dh dD)
theorem BV{ls:List Str}{z:Int}(h0:0<=z)(h1:z<ls.length)(hl:ls.length<=100):∃(h:z.toNat<ls.length),jR (ls.map D.str) z=.ok (.str ls[z.toNat],(ls.eraseIdx z.toNat).map D.str):=by
 have hz:z.toNat<ls.length:=by omega
 refine⟨hz,?_⟩;unfold jR;rw[aE (by omega)];have:dj (ls.map D.str).length z=ab z.toNat:=by unfold dj;rw[aw h0,aw (by rw[aS];exact h1)]
 rw[this,lG,aM];rw[de,c7 hz,Option.map_some,lG,aM];have er:∀(l:List Str) (k:Nat),(l.map D.str).eraseIdx k=(l.eraseIdx k).map D.str:=by
  intro l
  induction l with
  |nil=>intro k;rfl
  |cons a r ih=>
   intro k;cases k with
   |zero=>rfl
   |succ k=>rw[cq,DM,ih k];rfl
 rw[er]
structure Ask(ac:List Str)(i j:Str)(bm:List Str):Prop where
 im:i∈ac
 jm:j∈ac
 ij:i≠j
 hs:∀x∈bm,x∈ac
 nd:bm.Nodup
 ni:i∉bm
 nj:j∉bm
theorem Gy{ac:List Str}{A:List Ar}(nd:ac.Nodup)(h2:2<=ac.length)(h8:ac.length<=8)(d:Int):∃i j bm,l5 [.d (aJ ac A),.d (.int d)]=.ok (.d (.lst [.str i,.str j,aj bm]))/\Ask ac i j bm:=by
 have l1:(0:Int)<((ac.length:Nat):Int):=by omega
 obtain⟨a,ha⟩ : ∃a,a=d%((ac.length:Nat):Int):=⟨_,rfl⟩;have a0:0<=a:=by rw[ha];exact fq _ (by omega)
 have a1:a<((ac.length:Nat):Int):=by rw[ha];exact fK _ l1
 obtain⟨az,pa⟩:=BV a0 a1 (by omega);obtain⟨i,hi⟩ : ∃i,i=ac[a.toNat]:=⟨_,rfl⟩;obtain⟨n1,hn1⟩ : ∃n1,n1=ac.eraseIdx a.toNat:=⟨_,rfl⟩;rw[<- hi,<- hn1]at pa;have ln1:n1.length=ac.length-1:=by rw[hn1,DS,aw az]
 have l2:(0:Int)<((n1.length:Nat):Int):=by omega
 obtain⟨b,hb⟩ : ∃b,b=d/8%((n1.length:Nat):Int):=⟨_,rfl⟩;have b0:0<=b:=by rw[hb];exact fq _ (by omega)
 have b1:b<((n1.length:Nat):Int):=by rw[hb];exact fK _ l2
 obtain⟨bz,pb⟩:=BV b0 b1 (by omega);obtain⟨j,hj⟩ : ∃j,j=n1[b.toNat]:=⟨_,rfl⟩;obtain⟨n2,hn2⟩ : ∃n2,n2=n1.eraseIdx b.toNat:=⟨_,rfl⟩;rw[<- hj,<- hn2]at pb;have pf:n1.Nodup:=by rw[hn1];exact nd.sublist (DO _ _)
 have kG:n2.Nodup:=by rw[hn2];exact pf.sublist (DO _ _)
 have s1:∀x∈n1,x∈ac:=λx h=>by rw[hn1]at h;exact DJ h
 have s2:∀x∈n2,x∈n1:=λx h=>by rw[hn2]at h;exact DJ h
 have out:∀{l:List Str} {k:Nat} (h:k<l.length),l.Nodup->l[k]∉l.eraseIdx k:=λ{l k} h nd z=>by
  obtain⟨q,hq,ne,e⟩:=List.mem_eraseIdx_iff_getElem.mp z;exact ne ((j6 (h₀:=hq) (h₁:=h) nd).mp e)
 have i1:i∉n1:=by rw[hi,hn1];exact out az nd
 have jm:j∈n1:=by rw[hj];exact qp bz
 have j2:j∉n2:=by rw[hj,hn2];exact out bz pf
 have l8:n2.length<=8:=by rw[hn2,DS,aw bz];omega
 obtain⟨w,hw⟩ : ∃w,w=2+d/64%2:=⟨_,rfl⟩;have w0:0<w:=by have:=fq (d/64) (b:=2) (by decide);omega
 obtain⟨e',f,bm,o6,he,hs,hnd⟩:=g9 (tg:=.n 6) (body:=(bx (cB (m2 dZ (m2 aU (m2 bP (m2 aU (m2 bp (mV 1) (m2 aV (mC (.int 48271)) (m2 bp (m2 bp (mC (.int 614)) (mV 6)) (mV 6)))) (mC (.int 2147483647))) (mC (.int 16))) (m2 aV (mC (.int 2)) (m2 aU (m2 bP (mV 1) (mC (.int 64))) (mC (.int 2))))) (mC (.int 0))))
 (fW 5 (m2 aG (mV 2) (mV 6)))
 b7))
  (λn e=>∃(bm:List Str) (o6:Option W),e=[ab (W.d (aJ ac A)),ab (W.d (.int d)),ab (W.d (aj n2)),ab (W.d (.str i)),ab (W.d (.str j)),ab (W.d (aj bm)),o6]/\(∀x∈bm,x∈n2.take n)/\bm.Nodup) (cY 0 ((n2.length:Nat):Int)) 0 (λn x e hx ⟨bm,o6,he,hs,hnd⟩=>by
   subst he;obtain⟨hn,rfl⟩:=oW hx;rw[eJ]at hs ⊢;have gx:n2[n]? = ab n2[n]:=c7 hn;have ts:=Ig gx;have new:=yP kG gx;have hl8:bm.length<=8:=dQ (kH hnd λx h=>s0 (hs x h)) l8;have mono:∀y,y∈n2.take n->y∈n2.take (n+1):=λy hy=>by rw[ts];exact k4 _ hy
   have k1:614*(n:Int)*(n:Int)<614*64:=by have:(n:Int)*(n:Int)<=7*7:=Int.mul_le_mul (by omega) (by omega) (by omega) (by omega);rw[Int.mul_assoc];omega
   have k2:0<=614*(n:Int)*(n:Int):=Int.mul_nonneg (by omega) (by omega);obtain⟨v,ct⟩ : ∃v:Bool,cB (m2 dZ (m2 aU (m2 bP (m2 aU (m2 bp (mV 1) (m2 aV (mC (.int 48271)) (m2 bp (m2 bp (mC (.int 614)) (mV 6)) (mV 6)))) (mC (.int 2147483647))) (mC (.int 16))) (m2 aV (mC (.int 2)) (m2 aU (m2 bP (mV 1) (mC (.int 64))) (mC (.int 2))))) (mC (.int 0))) [ab (W.d (aJ ac A)),ab (W.d (.int d)),ab (W.d (aj n2)),ab (W.d (.str i)),ab (W.d (.str j)),ab (W.d (aj bm)),ab (W.d (.int (n:Int)))]=.ok v:=⟨_,cQ (av (av (av (av (av rfl (av rfl (av (av rfl rfl ((oX _ _).trans (aE (hW (by decide) (by decide))))) rfl ((oX _ _).trans (aE (nr (by omega) (by omega))))) (lI _ _)) ((oX _ _).trans (aE (nr (by omega) (by omega))))) rfl ((kF _ _).trans (aE (by decide)))) rfl ((div_ii _ _).trans (aE (gD (by decide) (by decide))))) (av rfl (av (av rfl rfl ((div_ii _ _).trans (aE (gD (by decide) (by decide))))) rfl ((kF _ _).trans (aE (by decide)))) (lI _ _)) ((kF _ _).trans (aE (by rw[<- hw];exact w0)))) rfl (sH _ _))⟩
   have ix:m2 aG (mV 2) (mV 6) [ab (W.d (aJ ac A)),ab (W.d (.int d)),ab (W.d (aj n2)),ab (W.d (.str i)),ab (W.d (.str j)),ab (W.d (aj bm)),ab (W.d (.int (n:Int)))]=.ok (.str n2[n]):=by refine av rfl rfl ?_;have:=B0 (cs:=n2) (i:=(n:Int)) (by omega) (by omega);rw[jz]at this;rw[show aG (aj n2) (.int (n:Int))=_ from this];simp[hn]
   cases v with
   |true=>
    refine⟨_,[ab (W.d (aJ ac A)),ab (W.d (.int d)),ab (W.d (aj n2)),ab (W.d (.str i)),ab (W.d (.str j)),ab (W.d (aj (bm++[n2[n]]))),ab (W.d (.int (n:Int)))],rfl,(fS ct).trans ?_,bm++[n2[n]],_,rfl,λy hy=>?_,?_⟩
    ·rw[o0 (d:=.str n2[n]) (ds:=bm.map D.str) ix rfl (by rw[aS];omega),<- Jw];rfl
    ·rcases dO.mp hy with z|z
     ·exact mono y (hs y z)
     ·rw[bB.mp z,ts];exact dM _ (bB.mpr rfl)
    ·exact ig.mpr ⟨hnd,by simp,λa ha b hb e=>by rw[bB.mp hb]at e;exact new (e ▸ hs a ha)⟩
   |false=>exact⟨_,_,rfl,(c9 ct).trans rfl,bm,_,rfl,λy hy=>mono y (hs y hy),hnd⟩) [ab (W.d (aJ ac A)),ab (W.d (.int d)),ab (W.d (aj n2)),ab (W.d (.str i)),ab (W.d (.str j)),ab (W.d (aj [])),ae] ⟨[],ae,rfl,(by intro x h;cases h),(by simp)⟩
 subst he;have hs:∀x∈bm,x∈n2:=λx h=>s0 (hs x h);obtain⟨hd,hif,hpe⟩ : ∃hd:List Str,(bx (cB (m2 dZ (m2 aU (m2 bP (mV 1) (mC (.int 128))) (mC (.int 2))) (mC (.int 1)))) (vP 5) b7) [ab (W.d (aJ ac A)),ab (W.d (.int d)),ab (W.d (aj n2)),ab (W.d (.str i)),ab (W.d (.str j)),ab (W.d (aj bm)),o6]=.ok (.nx [ab (W.d (aJ ac A)),ab (W.d (.int d)),ab (W.d (aj n2)),ab (W.d (.str i)),ab (W.d (.str j)),ab (W.d (aj hd)),o6])/\hd.Perm bm:=by
  have ct:cB (m2 dZ (m2 aU (m2 bP (mV 1) (mC (.int 128))) (mC (.int 2))) (mC (.int 1))) [ab (W.d (aJ ac A)),ab (W.d (.int d)),ab (W.d (aj n2)),ab (W.d (.str i)),ab (W.d (.str j)),ab (W.d (aj bm)),o6]=.ok (decide (d/128%2=1)):=cQ (av (av (av rfl rfl ((div_ii _ _).trans (aE (gD (by decide) (by decide))))) rfl ((kF _ _).trans (aE (by decide)))) rfl (sH _ _))
  by_cases h:d/128%2=1
  ·rw[cE h]at ct;refine⟨bm.reverse,(fS ct).trans ?_,List.reverse_perm _⟩;show Rs.ok (Out.nx [_,_,_,_,_,ab (W.d (.lst (bm.map D.str).reverse)),_])=_;unfold aj;rw[List.map_reverse]
  ·rw[bw h]at ct;exact⟨bm,(c9 ct).trans rfl,List.Perm.refl _⟩
 refine⟨i,j,hd,?_,⟨by rw[hi];exact qp az,s1 j jm,λe=>i1 (e ▸ jm),λx h=>s1 x (s2 x (hs x (hpe.mem_iff.mp h))),hpe.nodup_iff.mpr hnd,λh=>i1 (s2 i (hs i (hpe.mem_iff.mp h))),λh=>j2 (hs j (hpe.mem_iff.mp h))⟩⟩;unfold l5 Bi;rw[sG];rw[show([ab (W.d (aJ ac A)),ab (W.d (.int d))]++dm (7-2) ae)=[ab (W.d (aJ ac A)),ab (W.d (.int d)),ae,ae,ae,ae,ae]from rfl];rw[aR (e':=[ab (W.d (aJ ac A)),ab (W.d (.int d)),ab (W.d (aj ac)),ae,ae,ae,ae]) (ca ((kn (av rfl rfl (jH ac A))).trans rfl))];have xX:∀(l:List Str) (e:Mi.Env),e[2]? = ab (ab (W.d (aj l)))->mN cT [(mV 2)] e=.ok (.int ((l.length:Nat):Int)):=λl e h=>(kn (x:=aj l) (by unfold mV;rw[h])).trans (by unfold aj;rw[CD,aS]);have p1:lu 3 2 (m2 aU (mV 1) (mN cT [(mV 2)])) [ab (W.d (aJ ac A)),ab (W.d (.int d)),ab (W.d (aj ac)),ae,ae,ae,ae]=.ok (.nx [ab (W.d (aJ ac A)),ab (W.d (.int d)),ab (W.d (aj n1)),ab (W.d (.str i)),ae,ae,ae]):=by unfold lu;rw[av (x:=.int d) (y:=.int ((ac.length:Nat):Int)) rfl (xX ac _ rfl) ((kF _ _).trans (aE l1)),aM,kK,aM,<- ha];show Rs.bind (jR (ac.map D.str) a) _=_;rw[pa];rfl
 rw[aR p1];have p2:lu 4 2 (m2 aU (m2 bP (mV 1) (mC (.int 8))) (mN cT [(mV 2)])) [ab (W.d (aJ ac A)),ab (W.d (.int d)),ab (W.d (aj n1)),ab (W.d (.str i)),ae,ae,ae]=.ok (.nx [ab (W.d (aJ ac A)),ab (W.d (.int d)),ab (W.d (aj n2)),ab (W.d (.str i)),ab (W.d (.str j)),ae,ae]):=by unfold lu;rw[av (x:=.int (d/8)) (y:=.int ((n1.length:Nat):Int)) (av rfl rfl ((div_ii _ _).trans (aE (gD (by decide) (by decide))))) (xX n1 _ rfl) ((kF _ _).trans (aE l2)),aM,kK,aM,<- hb];show Rs.bind (jR (n1.map D.str) b) _=_;rw[pb];rfl
 rw[aR p2];rw[aR (e':=[ab (W.d (aJ ac A)),ab (W.d (.int d)),ab (W.d (aj n2)),ab (W.d (.str i)),ab (W.d (.str j)),ab (W.d (aj [])),ae]) (ca (nQ _))];rw[aR ((gs (ie (xX n2 _ rfl) (nE n2.length l8))).trans f),aR hif];have rt:bI (wD (mN cx [(mV 3),(mV 4),(mV 5)])) [ab (W.d (aJ ac A)),ab (W.d (.int d)),ab (W.d (aj n2)),ab (W.d (.str i)),ab (W.d (.str j)),ab (W.d (aj hd)),o6]=.ok (.rt (.d (.lst [.str i,.str j,aj hd]))):=fB (cv ((JR rfl rfl rfl).trans (aE (by show(3:Nat)<=_;decide))));unfold nN;rw[rt];rfl
end Mr
namespace Mr
open PySem Mi
open Vp
structure Kx(A:List Ar)(bm:List Str)(x:Str)(way:List Str):Prop where
 hd:∃r,way=x::r
 st:∀(k:Nat) (u v:Str),way[k]? = ab u->way[k+1]? = ab v->(u,v)∈A
 inn:∀(k:Nat) (u:Str),way[k]? = ab u->k+1<way.length->u∉bm
theorem Ii{ds:List Str}{y:Str}:aG (aj (ds++[y])) (.int (-1))=.ok (.str y):=by
 rw[AC (by simp)];have:nth (ds++[y]) ((ds++[y]).length-1)=y:=by unfold nth;rw[bA,dw,dv,j4 (by omega),show ds.length+1-1-ds.length=0 by omega];rfl
 rw[this]
end Mr
namespace Mr
open PySem Mi
open Vp
structure bY(ac:List Str)(A:List Ar)(bm:List Str)(i j:Str)(bS:List Str)(ways:List (List Str)):Prop where
 r2:2<=bS.length
 nd:bS.Nodup
 sub:∀x∈bS,x∈ac
 h0:nth bS 0=i
 hl:nth bS (bS.length-1)=j
 td:∀k,k+1<bS.length->tie A (nth bS k) (nth bS (k+1))=true
 ps:∀k,k+2<bS.length->mt A (AH bS k)=false->nth bS (k+1)∉bm
 wd:∃g:Str->List Str,ways=(meets A bS).map g/\∀x∈meets A bS,Kx A bm x (g x)/\(∀z∈g x,z∈ac)/\∃es z,g x=es++[z]/\z∈bm
end Mr
namespace Mr
open PySem Mi
open Vp
section
variable{ac:List Str}{A:List Ar}{bm:List Str}
def inn(A:List Ar)(bS:List Str):List Nat:=(bn (bS.length-2)).filter λi=>mt A (AH bS i)
end
end Mr
namespace Mr
open PySem Mi
open Vp
open My (words dh dD)
end Mr
namespace Mr
open PySem Mi
open Vp
theorem zK{a b:E}{e:Mi.Env}{x y:List Str}(ha:a e=.ok (aj x))(hb:b e=.ok (aj y))(hl:x.length+y.length<=1000):m2 aV a b e=.ok (aj (x++y)):=by refine(av ha hb (zM _ _)).trans ?_;rw[aE (by rw[aS,aS];omega)];unfold aj;rw[eX]
structure Vl(ac:List Str)(A:List Ar)(ns bm:List Str):Prop where
 L:Lk ac A
 hs:∀x∈bm,x∈ac
 hn:bm.Nodup
 sb:∀x∈ns,x∈ac
 nn:ns.Nodup
 no:∀x∈ns,x∉bm
end Mr
namespace Mr
open PySem Mi
open Vp
inductive fj(A:List Ar):Str->List Str->Str->Prop
 |nil (y:Str):fj A y [] y
 |cons {y z w:Str} {t:List Str}:tie A y z=true->fj A z t w->fj A y (z::t) w
theorem fj.fin{A:List Ar}{y w:Str}{t:List Str}(h:fj A y t w):t=[]/\y=w\/w∈t:=by
 induction h with
 |nil y=>exact .inl ⟨rfl,rfl⟩
 | @cons y z w t _ _ ih=>
  rcases ih with ⟨e,e2⟩|h
  ·exact .inr (by rw[e2];exact cn)
  ·exact .inr (cm _ h)
theorem fj.snoc{A:List Ar}{y w z:Str}{t:List Str}(h:fj A y t w)(a:tie A w z=true):fj A y (t++[z]) z:=by
 induction h with
 |nil y=>exact .cons a (.nil z)
 |cons b _ ih=>exact .cons b (ih a)
theorem fj.Bl{A:List Ar}{y w z:Str}:∀{t:List Str},fj A y (t++[z]) w->w=z/\∃u,fj A y t u/\tie A u z=true:=λ{t}=>by
 induction t generalizing y with
 |nil=>
  intro h;cases h with
  |cons a h=>cases h;exact⟨rfl,y,.nil y,a⟩
 |cons x t ih=>
  intro h;cases h with
  |cons a h=>
   obtain⟨e,u,h1,h2⟩:=ih h;exact⟨e,u,.cons a h1,h2⟩
theorem fj.last{A:List Ar}{y w:Str}{t:List Str}(h:fj A y t w):nth (y::t) t.length=w:=by
 induction h with
 |nil y=>rfl
 | @cons y z w t _ _ ih=>exact ih
def ge(ac:List Str)(A:List Ar)(x:Str):List Str:=ac.filter λy=>tie A x y
def bL(ac:List Str)(A:List Ar)(l:List Str):List (Ky×D):=l.map λx=>(.inr x,aj (ge ac A x))
theorem Gx{ac:List Str}{A:List Ar}{l:List Str}{x:Str}(h:x∉l):((bL ac A l).any λkv=>decide (kv.1=(.inr x:Ky)))=false:=by rw[w5];intro kv hk;obtain⟨y,hy,rfl⟩:=c8.mp hk;intro z;have:=qb z;simp only[Sum.inr.injEq]at this;exact h (this ▸ hy)
theorem GX{ac:List Str}{A:List Ar}{x:Str}:∀{l:List Str},x∈l->gF (bL ac A l) (.inr x:Ky)=ab (aj (ge ac A x)):=λ{l} h=>by
 unfold gF bL
 induction l with
 |nil=>cases h
 |cons y r ih=>
  rw[cq,ju];by_cases e:y=x
  ·subst e;rw[show decide (((.inr y:Ky),aj (ge ac A y)).1=(.inr y:Ky))=true from cE rfl];rfl
  ·rw[show decide (((.inr y:Ky),aj (ge ac A y)).1=(.inr x:Ky))=false from bw λz=>e (by simpa using z)];rcases bJ.mp h with z|z
   ·exact absurd z.symm e
   ·exact ih z
theorem Ku{ac:List Str}{A:List Ar}(nd:ac.Nodup)(n8:ac.length<=8):ln [.d (aJ ac A)]=.ok (.dk (bL ac A ac)):=by
 obtain⟨e',f,o2,he⟩:=g9 (tg:=.n 2) (body:=(iR 1 (mV 2) (d3 [ab 0,ab 2,ae] (cW (m2 aG (mV 0) (mC (.int 0)))) (.n 2) (cB (aW lJ [(wD (mV 0)),(wD (mV 1)),(wD (mV 2))])) (mV 2))))
  (λn e=>∃o2:Option W,e=[ab (W.d (aJ ac A)),ab (W.dk (bL ac A (ac.take n))),o2]) (ac.map D.str) 0 (λn x e hx ⟨o2,he⟩=>by
   subst he;rw[de]at hx;obtain⟨x,hq,rfl⟩:=mq.mp hx;have hx:=hq;rw[eJ];have xn:=iT hx;have new:=yP nd hx;have ts:ac.take (n+1)=ac.take n++[x]:=by rw[xf,hx];rfl
   have cp:d3 [ab 0,ab 2,ae] (cW (m2 aG (mV 0) (mC (.int 0)))) (.n 2) (cB (aW lJ [(wD (mV 0)),(wD (mV 1)),(wD (mV 2))])) (mV 2) [ab (W.d (aJ ac A)),ab (W.dk (bL ac A (ac.take n))),ab (W.d (.str x))]=.ok (aj (ge ac A x)):=by refine h9 (iN (av rfl rfl (jH _ _)) rfl) (by rw[aS];omega) ?_;exact lX D.str D.str _ _ λy hy=>⟨[ab (W.d (aJ ac A)),ab (W.d (.str x)),ab (W.d (.str y))],rfl,cQ (i7 rfl rfl rfl (J8 xn hy)),λ_=>rfl⟩
   refine⟨[ab (W.d (aJ ac A)),ab (W.dk (bL ac A (ac.take n))),ab (W.d (.str x))],[ab (W.d (aJ ac A)),ab (W.dk (bL ac A (ac.take (n+1)))),ab (W.d (.str x))],rfl,?_,_,rfl⟩;unfold iR;rw[cp,aM,show mV 2 [ab (W.d (aJ ac A)),ab (W.dk (bL ac A (ac.take n))),ab (W.d (.str x))]=.ok (.str x)from rfl,aM,show wV 1 [ab (W.d (aJ ac A)),ab (W.dk (bL ac A (ac.take n))),ab (W.d (.str x))]=.ok (W.dk (bL ac A (ac.take n)))from rfl,aM];have:uJ (W.dk (bL ac A (ac.take n))) (.str x) (aj (ge ac A x))=.ok (W.dk (bL ac A (ac.take (n+1)))):=by show a6 ((bL ac A (ac.take n)).length<16777216) (Rs.ok (W.dk (Mi.putK (.inr x:Ky) (aj (ge ac A x)) (bL ac A (ac.take n)))))=_;rw[aE (by unfold bL;rw[aS,cF];omega)];unfold Mi.putK;rw[Gx new,ay cN,ts];unfold bL;rw[eX];rfl
   rw[this,aM];rfl) [ab (W.d (aJ ac A)),ab (W.dk (bL ac A (ac.take 0))),ae] ⟨ae,rfl⟩
 subst he;rw[eJ,aS,List.take_length]at f;unfold ln zu;rw[HM];rw[show([ab (W.d (aJ ac A))]++dm (3-1) ae)=[ab (W.d (aJ ac A)),ae,ae]from rfl];rw[aR (e':=[ab (W.d (aJ ac A)),ab (W.dk (bL ac A (ac.take 0))),ae]) rfl];rw[aR ((gs (iN (av rfl rfl (jH _ _)) rfl)).trans f)];rfl
section
variable(ac:List Str)(A:List Ar)(j:Str)
def rb:Nat->List Str->Str->List (List Str)
 |0,_,_=>[]
 |n+1,ds,y=>if y=j then[ds++[y]]else(ge ac A y).flatMap λz=>if z∈ds++[y]then[]else rb n (ds++[y]) z
variable{ac A j}
theorem rg{α β:Type}{f:α->List β}{m:Nat}:∀{l:List α},(∀x∈l,(f x).length<=m)->(l.flatMap f).length<=l.length*m
 |[],_=>by simp
 |x::r,h=>by
  rw[d8,bA,bW,Nat.succ_mul];have h1:=h x cn;have h2:=rg (l:=r) λy hy=>h y (cm _ hy);omega
theorem Is(n8:ac.length<=8)(x:Str):(ge ac A x).length<=8:=by unfold ge;exact dQ (DP _ _) n8
theorem Bo(n8:ac.length<=8):∀(n:Nat) (ds:List Str) (y:Str),(rb ac A j n ds y).length<=8 ^ n
 |0,_,_=>by simp[rb]
 |n+1,ds,y=>by
  rw[rb];split
  ·simp only[bW,ml];exact Nat.pow_pos (by decide)
  ·have h1:=rg (l:=ge ac A y) (f:=λz=>if z∈ds++[y]then[]else rb ac A j n (ds++[y]) z) (m:=8 ^ n) λz _=>by
    split
    ·exact eY _
    ·exact Bo n8 n _ z
   refine dQ h1 ?_;rw[xw,Nat.mul_comm (8 ^ n)];exact D3 _ (Is n8 y)
theorem C5(n8:ac.length<=8):∀(n:Nat) (ds:List Str) (y:Str),n<=8->(ds++[y]).Nodup->(∀z∈ds++[y],z∈ac)->ac.length<n+(ds++[y]).length ->
 iH n [.dk (bL ac A ac),.d (aj (ds++[y])),.d (.str j)]=.ok (.d (.lst ((rb ac A j n ds y).map aj)))
 |0,ds,y,_,nd,sb,hl=>by
  have:=kH nd sb;omega
 |n+1,ds,y,hn,nd,sb,hl=>by
  have bl:=kH nd sb;have yn:y∈ac:=sb y (dM _ (bB.mpr rfl));rw[iH,sO];unfold yt;rw[show([ab (W.dk (bL ac A ac)),ab (W.d (aj (ds++[y]))),ab (W.d (.str j))]++dm (5-3) ae)=[ab (W.dk (bL ac A ac)),ab (W.d (aj (ds++[y]))),ab (W.d (.str j)),ae,ae]from rfl];have ix:∀r:List (Option W),m2 aG (mV 1) (m1 gi (mC (.int 1))) (ab (W.dk (bL ac A ac))::ab (W.d (aj (ds++[y])))::r)=.ok (.str y):=λr=>av rfl rfl Ii;have c1:cB (m2 dZ (m2 aG (mV 1) (m1 gi (mC (.int 1)))) (mV 2)) [ab (W.dk (bL ac A ac)),ab (W.d (aj (ds++[y]))),ab (W.d (.str j)),ae,ae]=.ok (decide (y=j)):=cQ (av (ix _) rfl (uO _ _));rw[rb];by_cases yj:y=j
  ·rw[cE yj]at c1;rw[aw yj,lY ((fS c1).trans (fB (cv (kJ rfl))))];rfl
  rw[bw yj]at c1;rw[ay yj,aR ((c9 c1).trans rfl)];rw[aR (e':=[ab (W.dk (bL ac A ac)),ab (W.d (aj (ds++[y]))),ab (W.d (.str j)),ab (W.d (.lst [])),ae]) (ca (nQ _))];have p8:8 ^ (n+1)<=16777216:=dQ (D4 (by decide) hn) (by decide);have tl:=Bo (A:=A) (j:=j) n8 (n+1) ds y;rw[rb,ay yj]at tl;obtain⟨e',f,o4,he⟩:=zf (tg:=.n 4) (body:=(bx (cB (m2 iu (mV 4) (mV 1))) (rm 3 (aW (iH n) [(wV 0),(wD (m2 aV (mV 1) (mN cx [(mV 4)]))),(wD (mV 2))])) b7)) D.str (λz=>(if z∈ds++[y]then[]else rb ac A j n (ds++[y]) z).map aj)
   (λacc e=>∃o4:Option W,e=[ab (W.dk (bL ac A ac)),ab (W.d (aj (ds++[y]))),ab (W.d (.str j)),ab (W.d (.lst acc)),o4]) (ge ac A y) [] [ab (W.dk (bL ac A ac)),ab (W.d (aj (ds++[y]))),ab (W.d (.str j)),ab (W.d (.lst [])),ae] (by
    rw[<- ii,aS,ml];omega) ⟨ae,rfl⟩ (λz hz acc e hacc ⟨o4,he⟩=>by
    subst he;have zn:z∈ac:=(j8.mp hz).1;have c2:cB (m2 iu (mV 4) (mV 1)) [ab (W.dk (bL ac A ac)),ab (W.d (aj (ds++[y]))),ab (W.d (.str j)),ab (W.d (.lst acc)),ab (W.d (.str z))]=.ok (!decide (z∈ds++[y])):=cQ (av rfl rfl (y6 _ _));by_cases zb:z∈ds++[y]
    ·rw[cE zb]at c2;refine⟨[ab (W.dk (bL ac A ac)),ab (W.d (aj (ds++[y]))),ab (W.d (.str j)),ab (W.d (.lst acc)),ab (W.d (.str z))],_,rfl,(c9 c2).trans rfl,ab (W.d (.str z)),?_⟩;rw[aw zb,nX,jt]
    ·rw[bw zb]at c2;rw[ay zb]at hacc ⊢;have nd':((ds++[y])++[z]).Nodup:=ig.mpr ⟨nd,by simp,λa ha b hb e=>by rw[bB.mp hb]at e;exact zb (e ▸ ha)⟩;have sb':∀w∈(ds++[y])++[z],w∈ac:=λw hw=>by
      rcases dO.mp hw with q|q
      ·exact sb w q
      ·rw[bB.mp q];exact zn
     have ih:=C5 n8 n (ds++[y]) z (by omega) nd' sb' (by rw[bA (bs:=[z]),dw];omega);have ad:m2 aV (mV 1) (mN cx [(mV 4)]) [ab (W.dk (bL ac A ac)),ab (W.d (aj (ds++[y]))),ab (W.d (.str j)),ab (W.d (.lst acc)),ab (W.d (.str z))]=.ok (aj ((ds++[y])++[z])):=zK (x:=ds++[y]) (y:=[z]) rfl (kJ rfl) (by rw[dw];omega);refine⟨[ab (W.dk (bL ac A ac)),ab (W.d (aj (ds++[y]))),ab (W.d (.str j)),ab (W.d (.lst acc)),ab (W.d (.str z))],[ab (W.dk (bL ac A ac)),ab (W.d (aj (ds++[y]))),ab (W.d (.str j)),ab (W.d (.lst (acc++(rb ac A j n (ds++[y]) z).map aj))),ab (W.d (.str z))],rfl,(fS c2).trans ?_,_,rfl⟩;unfold rm;rw[i7 (x:=.dk (bL ac A ac)) (z:=.d (.str j)) rfl (cv ad) rfl ih,aM];show Rs.bind (Rs.ok acc) _=_;rw[aM];show a6 (acc.length+((rb ac A j n (ds++[y]) z).map aj).length<=16777216) _=_;rw[aE hacc];rfl)
  subst he;have it:cW (rO 0 (m2 aG (mV 1) (m1 gi (mC (.int 1))))) [ab (W.dk (bL ac A ac)),ab (W.d (aj (ds++[y]))),ab (W.d (.str j)),ab (W.d (.lst [])),ae]=.ok ((ge ac A y).map D.str):=by refine iN (x:=aj (ge ac A y)) ?_ rfl;unfold rO;rw[ix,aM,show wV 0 [ab (W.dk (bL ac A ac)),ab (W.d (aj (ds++[y]))),ab (W.d (.str j)),ab (W.d (.lst [])),ae]=.ok (W.dk (bL ac A ac))from rfl,aM];show Rs.bind (Rs.ok (gF (bL ac A ac) (.inr y:Ky))) cA=_;rw[GX yn];rfl
  rw[aR ((gs it).trans f),k7,<- ii];rfl
end
end Mr
namespace Mr
open PySem Mi
open Vp
section
variable{ac:List Str}{A:List Ar}{j:Str}
theorem vg:∀(n:Nat) (ds:List Str) (y:Str),(ds++[y]).Nodup->(∀z∈ds++[y],z∈ac)->ac.length<n+(ds++[y]).length->∀r,r∈rb ac A j n ds y↔∃t,r=ds++y::t/\fj A y t j/\r.Nodup/\∀z∈t,z∈ac
 |0,ds,y,nd,sb,hl,r=>by
  have:=kH nd sb;omega
 |n+1,ds,y,nd,sb,hl,r=>by
  have bl:=kH nd sb;rw[rb];by_cases yj:y=j
  ·rw[aw yj,bB];constructor
   ·intro e;exact⟨[],e,by rw[yj];exact .nil j,by rw[e];exact nd,λz hz=>nomatch hz⟩
   ·rintro⟨t,e,tk,rn,_⟩;rcases tk.fin with ⟨e2,_⟩|h
    ·rw[e,e2]
    ·exfalso;rw[e]at rn;have:=(ig.mp rn).2.1;rw[ik]at this;exact this.1 (by rw[yj];exact h)
  ·rw[ay yj,j7];constructor
   ·rintro⟨z,hz,h⟩;obtain⟨zn,zt⟩:=j8.mp hz;by_cases zb:z∈ds++[y]
    ·rw[aw zb]at h;cases h
    ·rw[ay zb]at h;have nd':((ds++[y])++[z]).Nodup:=ig.mpr ⟨nd,by simp,λa ha b hb e=>by rw[bB.mp hb]at e;exact zb (e ▸ ha)⟩;have sb':∀w∈(ds++[y])++[z],w∈ac:=λw hw=>by
      rcases dO.mp hw with q|q
      ·exact sb w q
      ·rw[bB.mp q];exact zn
     obtain⟨t,e,tk,rn,tn⟩:=(vg n (ds++[y]) z nd' sb' (by rw[bA (bs:=[z]),dw];omega) r).mp h;refine⟨z::t,by rw[e,f7];rfl,.cons zt tk,rn,λw hw=>?_⟩;rcases bJ.mp hw with q|q
     ·rw[q];exact zn
     ·exact tn w q
   ·rintro⟨t,e,tk,rn,tn⟩;cases tk with
    |nil=>exact absurd rfl yj
    | @cons _ z _ t a tk=>
     have zn:z∈ac:=tn z cn;have e2:r=(ds++[y])++z::t:=by rw[e,f7];rfl
     have zb:z∉ds++[y]:=λh=>by
      rw[e2]at rn;exact(ig.mp rn).2.2 z h z cn rfl
     refine⟨z,j8.mpr ⟨zn,a⟩,?_⟩;rw[ay zb];have nd':((ds++[y])++[z]).Nodup:=ig.mpr ⟨nd,by simp,λa ha b hb e=>by rw[bB.mp hb]at e;exact zb (e ▸ ha)⟩;have sb':∀w∈(ds++[y])++[z],w∈ac:=λw hw=>by
      rcases dO.mp hw with q|q
      ·exact sb w q
      ·rw[bB.mp q];exact zn
     exact(vg n (ds++[y]) z nd' sb' (by rw[bA (bs:=[z]),dw];omega) r).mpr ⟨t,e2,tk,rn,λw hw=>tn w (cm _ hw)⟩
theorem sr{α β:Type}{f:α->List β}:∀{l:List α},l.Nodup->(∀x∈l,(f x).Nodup)->(∀x∈l,∀y∈l,∀b,b∈f x->b∈f y->x=y)->(l.flatMap f).Nodup
 |[],_,_,_=>by simp
 |x::r,nd,h1,h2=>by
  rw[ik]at nd;rw[d8];refine ig.mpr ⟨h1 x cn,sr nd.2 (λy hy=>h1 y (cm _ hy)) (λy hy z hz=>h2 y (cm _ hy) z (cm _ hz)),λa ha b hb e=>?_⟩;subst e;obtain⟨y,hy,hb⟩:=j7.mp hb;have:=h2 x cn y (cm _ hy) a ha hb;exact nd.1 (this ▸ hy)
theorem m8:∀(n:Nat) (ds:List Str) (y:Str) (r:List Str),r∈rb ac A j n ds y->∃t,r=ds++y::t
 |0,_,_,_,h=>by rw[rb]at h;cases h
 |n+1,ds,y,r,h=>by
  rw[rb]at h;split at h
  ·exact⟨[],bB.mp h⟩
  ·obtain⟨z,_,h⟩:=j7.mp h;split at h
   ·cases h
   ·obtain⟨t,e⟩:=m8 n _ z r h;exact⟨z::t,by rw[e,f7];rfl⟩
theorem BP(nd:ac.Nodup):∀(n:Nat) (ds:List Str) (y:Str),(rb ac A j n ds y).Nodup
 |0,_,_=>by rw[rb];exact .nil
 |n+1,ds,y=>by
  rw[rb];split
  ·simp
  ·refine sr (nd.sublist DT) (λz _=>?_) λx _ z _ b h1 h2=>?_
   ·split
    ·exact .nil
    ·exact BP nd n _ z
   ·split at h1
    ·cases h1
    split at h2
    ·cases h2
    obtain⟨t1,e1⟩:=m8 n _ x b h1;obtain⟨t2,e2⟩:=m8 n _ z b h2;rw[e1]at e2;have:=DL e2;injection this
def SR(ac:List Str)(A:List Ar)(i j:Str)(r:List Str):Prop:=∃t,r=i::t/\fj A i t j/\r.Nodup/\∀z∈t,z∈ac
theorem Ah(nd:ac.Nodup)(n8:ac.length<=8){i:Str}(hi:i∈ac)(hj:j∈ac)(ij:i≠j):iq [.d (aJ ac A),.d (.str i),.d (.str j)]=.ok (.d (.lst ((rb ac A j 8 [] i).map aj))):=by
 have sb:∀z∈([]:List Str)++[i],z∈ac:=λz hz=>by rw[k7]at hz;rw[bB.mp hz];exact hi
 have hb:=C5 (A:=A) (j:=j) n8 8 [] i (by decide) (by simp) sb (by simp;omega);unfold iq yF;rw[sO];rw[show([ab (W.d (aJ ac A)),ab (W.d (.str i)),ab (W.d (.str j))]++dm (3-3) ae)=[ab (W.d (aJ ac A)),ab (W.d (.str i)),ab (W.d (.str j))]from rfl];have asks:=Jc (ac:=ac) (asked:=[i,j]) (λx hx=>by
  rcases bJ.mp hx with rfl|z
  ·exact hi
  ·rw[bB.mp z];exact hj) (by simp[ij]) (by simp)
 rw[aR (e':=[ab (W.d (aJ ac A)),ab (W.d (.str i)),ab (W.d (.str j))]) (by unfold iB;rw[call2 (y:=.d (aj [i,j])) (cv (av rfl rfl (jH ac A))) (cv (yz rfl rfl)) asks];rfl)];have nw:kR ln [(wD (mV 0))] [ab (W.d (aJ ac A)),ab (W.d (.str i)),ab (W.d (.str j))]=.ok (.dk (bL ac A ac)):=by show ln [.d (aJ ac A)]=_;exact Ku nd n8
 rw[fB (cv (i7 (y:=.d (aj ([]++[i]))) nw (cv (kJ rfl)) rfl hb))];rfl
theorem Ai(n8:ac.length<=8){i:Str}(hi:i∈ac)(r:List Str):r∈rb ac A j 8 [] i↔SR ac A i j r:=by
 have sb:∀z∈([]:List Str)++[i],z∈ac:=λz hz=>by rw[k7]at hz;rw[bB.mp hz];exact hi
 rw[vg 8 [] i (by simp) sb (by simp;omega) r];exact bq
variable(ac A j) in
def fQ(r:List Str)(z:Str):Bool:=!decide (z∈r)&&(!decide (z=j)&&tie A (nth r (r.length-1)) z)
variable(ac A j) in
def gr(i:Str):Nat->List (List Str)
 |0=>[[i]]
 |k+1=>(gr i k).flatMap λr=>(ac.filter (fQ A j r)).map λz=>r++[z]
variable(ac A j) in
def du(i:Str):Nat->List (List Str)
 |0=>[]
 |k+1=>du i k++(gr ac A j i k).flatMap λr=>if tie A (nth r (r.length-1)) j=true then[r++[j]]else[]
theorem wG(n8:ac.length<=8)(i:Str):∀k,(gr ac A j i k).length<=8 ^ k
 |0=>by simp[gr]
 |k+1=>by
  rw[gr];refine dQ (rg (m:=8) λr _=>?_) ?_
  ·rw[aS];exact dQ (DP _ _) n8
  ·rw[xw];exact D3 _ (wG n8 i k)
theorem Ay(n8:ac.length<=8)(i:Str):∀k,(du ac A j i k).length<=8 ^ k
 |0=>by simp[du]
 |k+1=>by
  rw[du,bA];have h1:=Ay n8 i k;have h2:((gr ac A j i k).flatMap λr=>if tie A (nth r (r.length-1)) j=true then[r++[j]]else[]).length<=(gr ac A j i k).length*1:=rg λr _=>by split<;>simp
  have h3:=wG (A:=A) (j:=j) n8 i k;rw[xw];omega
theorem AL{i:Str}{t:List Str}{z:Str}(nd:(i::t).Nodup)(hz:z∉i::t):(i::(t++[z])).Nodup:=by rw[<- mj];exact ig.mpr ⟨nd,by simp,λa ha b hb e=>by rw[bB.mp hb]at e;exact hz (e ▸ ha)⟩
theorem mS{i:Str}(ij:i≠j):∀(k:Nat) (r:List Str),r∈gr ac A j i k↔∃t y,r=i::t/\fj A i t y/\r.Nodup/\(∀z∈t,z∈ac)/\j∉r/\t.length=k
 |0,r=>by
  rw[gr,bB];constructor
  ·intro e;subst e;exact⟨[],i,rfl,.nil i,by simp,(by intro z hz;cases hz),by simp[ij.symm],rfl⟩
  ·rintro⟨t,y,e,_,_,_,_,hl⟩;rw[e,qj hl]
 |k+1,r=>by
  rw[gr,j7];constructor
  ·rintro⟨r',hr,h⟩;obtain⟨z,hz,e⟩:=c8.mp h;obtain⟨zn,zo⟩:=j8.mp hz;obtain⟨t,y,e1,tk,nd,tn,nj,tl⟩:=(mS ij k r').mp hr;unfold fQ at zo;rw[fJ,fJ,qA,qA,na,na]at zo;obtain⟨z1,z2,z3⟩:=zo;subst e e1;rw[bW,qy,tk.last]at z3;refine⟨t++[z],z,rfl,tk.snoc z3,AL nd z1,λw hw=>?_,λh=>?_,by rw[bA,dw,tl]⟩
   ·rcases dO.mp hw with q|q
    ·exact tn w q
    ·rw[bB.mp q];exact zn
   ·rcases dO.mp h with q|q
    ·exact nj q
    ·exact z2 (bB.mp q).symm
  ·rintro⟨t,y,e,tk,nd,tn,nj,tl⟩;obtain⟨t',z,rfl⟩ : ∃t' z,t=t'++[z]:=by
    cases ht:t.reverse with
    |nil=>rw[DN.mp ht]at tl;cases tl
    |cons z q=>exact⟨q.reverse,z,by rw[<- s9 t,ht,mh]⟩
   obtain⟨_,u,tk',a⟩:=tk.Bl;subst e;rw[<- mj]at nd nj;obtain⟨n1,_,n3⟩:=ig.mp nd;refine⟨i::t',(mS ij k _).mpr ⟨t',u,rfl,tk',n1,λw hw=>tn w (k4 _ hw),λh=>nj (k4 _ h),by rw[bA,dw]at tl;omega⟩,c8.mpr ⟨z,j8.mpr ⟨tn z (dM _ (bB.mpr rfl)),?_⟩,rfl⟩⟩;unfold fQ;rw[fJ,fJ,qA,qA,na,na];refine⟨λh=>n3 z h z (bB.mpr rfl) rfl,λh=>nj (dM _ (by rw[h];exact bB.mpr rfl)),?_⟩;rw[bW,qy,tk'.last];exact a
theorem vd{α:Type}{a b:List α}{x y:α}(h:a++[x]=b++[y]):a=b/\x=y:=by have:=congrArg List.reverse h;rw[DU,DU]at this;simp only[mh,List.reverse_nil,k7,mj,List.cons.injEq]at this;exact⟨by rw[<- s9 a,this.2,s9],this.1⟩
theorem Am(nd:ac.Nodup)(i:Str):∀k,(gr ac A j i k).Nodup
 |0=>by rw[gr];simp
 |k+1=>by
  rw[gr];refine sr (Am nd i k) (λr _=>?_) λx _ y _ b h1 h2=>?_
  ·refine qo.mpr ((nd.sublist DT).imp λ{a b} h e=>h (vd e).2)
  ·obtain⟨z1,_,e1⟩:=c8.mp h1;obtain⟨z2,_,e2⟩:=c8.mp h2;rw[<- e2]at e1;exact(vd e1).1
theorem ut{i:Str}(ij:i≠j)(hj:j∈ac):∀(k:Nat) (r:List Str),r∈du ac A j i k↔∃t,r=i::t/\fj A i t j/\r.Nodup/\(∀z∈t,z∈ac)/\t.length<=k
 |0,r=>by
  rw[du];constructor
  ·intro h;cases h
  ·rintro⟨t,e,tk,_,_,tl⟩;have t0:t=[]:=qj (by omega);rw[t0]at tk;cases tk;exact absurd rfl ij
 |k+1,r=>by
  rw[du,dO,ut ij hj k r,j7];constructor
  ·rintro(⟨t,e,tk,nd,tn,tl⟩|⟨r',hr,h⟩)
   ·exact⟨t,e,tk,nd,tn,by omega⟩
   ·split at h
    case isFalse=>cases h
    case isTrue a=>
     rw[bB]at h;obtain⟨t,y,e1,tk,nd,tn,nj,tl⟩:=(mS ij k r').mp hr;subst h e1;rw[bW,qy,tk.last]at a;refine⟨t++[j],rfl,tk.snoc a,AL nd nj,λw hw=>?_,by rw[bA,dw,tl];exact bg _⟩;rcases dO.mp hw with q|q
     ·exact tn w q
     ·rw[bB.mp q];exact hj
  ·rintro⟨t,e,tk,nd,tn,tl⟩;by_cases hk:t.length<=k
   ·exact .inl ⟨t,e,tk,nd,tn,hk⟩
   ·refine .inr ?_;obtain⟨t',z,rfl⟩ : ∃t' z,t=t'++[z]:=by
     cases ht:t.reverse with
     |nil=>rw[DN.mp ht]at hk;exact absurd (eY _) hk
     |cons z q=>exact⟨q.reverse,z,by rw[<- s9 t,ht,mh]⟩
    obtain⟨ez,u,tk',a⟩:=tk.Bl;subst ez;subst e;rw[<- mj]at nd;obtain⟨n1,_,n3⟩:=ig.mp nd;have lt:t'.length=k:=by rw[bA,dw]at tl hk;omega
    refine⟨i::t',(mS ij k _).mpr ⟨t',u,rfl,tk',n1,λw hw=>tn w (k4 _ hw),λh=>n3 j h j (bB.mpr rfl) rfl,lt⟩,?_⟩;rw[aw (by rw[bW,qy,tk'.last];exact a)];exact bB.mpr rfl
theorem yN(nd:ac.Nodup){i:Str}(ij:i≠j)(hj:j∈ac):∀k,(du ac A j i k).Nodup
 |0=>by rw[du];exact .nil
 |k+1=>by
  rw[du];refine ig.mpr ⟨yN nd ij hj k,sr (Am nd i k) (λr _=>by split<;>simp) λx _ y _ b h1 h2=>?_,λa ha b hb e=>?_⟩
  ·split at h1
   case isFalse=>cases h1
   split at h2
   case isFalse=>cases h2
   rw[bB]at h1 h2;rw[h1]at h2;exact(vd h2).1
  ·subst e;obtain⟨t,e,_,_,_,tl⟩:=(ut ij hj k a).mp ha;obtain⟨r,hr,h⟩:=j7.mp hb;split at h
   case isFalse=>cases h
   rw[bB]at h;obtain⟨t',y,e1,_,_,_,_,tl'⟩:=(mS ij k r).mp hr;have:a.length=t'.length+2:=by rw[h,e1,bA,bW,dw]
   have:a.length=t.length+1:=by rw[e,bW]
   omega
theorem Fh{i:Str}(ij:i≠j)(hi:i∈ac)(hj:j∈ac)(r:List Str):r∈du ac A j i ac.length↔SR ac A i j r:=by
 rw[ut ij hj];constructor
 ·rintro⟨t,e,tk,nd,tn,_⟩;exact⟨t,e,tk,nd,tn⟩
 ·rintro⟨t,e,tk,nd,tn⟩;refine⟨t,e,tk,nd,tn,?_⟩;subst e;exact kH (ik.mp nd).2 tn
end
end Mr
namespace Mr
open PySem Mi
open Vp
theorem vG{α:Type}{tg:Tg}{body:S}(f:α->D)(g h:α->List D)(St:List D->List D->Mi.Env->Prop):∀(xs:List α) (a b:List D) (e:Mi.Env),a.length+(xs.flatMap g).length<=16777216->b.length+(xs.flatMap h).length<=16777216->St a b e ->
 (∀x∈xs,∀a b e,a.length+(g x).length<=16777216->b.length+(h x).length<=16777216->St a b e->∃e1 e2,tg.put (f x) e=.ok e1/\body e1=.ok (.nx e2)/\St (a++g x) (b++h x) e2) ->
 ∃e',fL tg body (xs.map f) e=.ok (.nx e')/\St (a++xs.flatMap g) (b++xs.flatMap h) e'
 |[],a,b,e,_,_,h,_=>⟨e,rfl,by simpa using h⟩
 |x::r,a,b,e,ha,hb,hs,hh=>by
  rw[d8,bA]at ha hb;obtain⟨e1,e2,h1,h2,h3⟩:=hh x cn a b e (by omega) (by omega) hs;obtain⟨e',h4,h5⟩:=vG f g h St r (a++g x) (b++h x) e2 (by rw[bA];omega) (by rw[bA];omega) h3 λy hy=>hh y (cm _ hy);refine⟨e',?_,by rw[d8,d8,<- f7,<- f7];exact h5⟩;rw[cq,fL,h1,aM,h2,aM];exact h4
section
variable{ac:List Str}{A:List Ar}{j:Str}
def dz(A:List Ar)(j:Str)(r:List Str)(z:Str):List (List Str):=if(decide (z=j)&&tie A (nth r (r.length-1)) z)=true then[r++[z]]else[]
def lz(A:List Ar)(j:Str)(r:List Str)(z:Str):List (List Str):=if fQ A j r z=true then[r++[z]]else[]
theorem uh(r:List Str):∀l:List Str,l.flatMap (lz A j r)=(l.filter (fQ A j r)).map λz=>r++[z]
 |[]=>rfl
 |z::l=>by
  rw[d8,uh r l,List.filter_cons];unfold lz;split<;>rfl
theorem yG(r:List Str):∀l:List Str,j∉l->l.flatMap (dz A j r)=[]
 |[],_=>rfl
 |z::l,h=>by
  rw[d8,yG r l λq=>h (cm _ q)];unfold dz;rw[ay];rfl;rw[fJ,rV];exactλq=>h (by rw[q.1];exact cn)
theorem ur(r:List Str):∀l:List Str,l.Nodup->j∈l->l.flatMap (dz A j r)=if tie A (nth r (r.length-1)) j=true then[r++[j]]else[]
 |[],_,h=>nomatch h
 |z::l,nd,h=>by
  rw[ik]at nd;rw[d8];by_cases e:z=j
  ·subst e;rw[yG r l nd.1,jt];unfold dz;rw[cE rfl,Bool.true_and]
  ·rw[ur r l nd.2 ((bJ.mp h).resolve_left (dI e))];unfold dz;rw[bw e,Bool.false_and,ay cN];rfl
abbrev g0(ac:List Str)(A:List Ar)(i j:Str)(a:List D)(g:D)(o5:Option W)(b:List D)(o7 o8:Option W):Mi.Env:=[ab (W.d (aJ ac A)),ab (W.d (.str i)),ab (W.d (.str j)),ab (W.d (.lst a)),ab (W.d g),o5,ab (W.d (.lst b)),o7,o8]
abbrev sD:S:=(bx (eU (cB (m2 dZ (mV 8) (mV 2))) (cB (aW iP [(wD (mV 0)),(wD (m2 aG (mV 7) (m1 gi (mC (.int 1))))),(wD (mV 8))])))
 (fW 3 (m2 aV (mV 7) (mN cx [(mV 8)])))
 (bx (eU (cB (m2 iu (mV 8) (mV 7))) (eU (cB (m2 fH (mV 8) (mV 2))) (cB (aW iP [(wD (mV 0)),(wD (m2 aG (mV 7) (m1 gi (mC (.int 1))))),(wD (mV 8))]))))
 (fW 6 (m2 aV (mV 7) (mN cx [(mV 8)])))
 b7))
theorem Jg{i:Str}{g:D}{o5:Option W}{r:List Str}(r1:1<=r.length)(r9:r.length<=9)(z:Str)(a b:List D)(o8:Option W)(ha:a.length+((dz A j r z).map aj).length<=16777216)(hb:b.length+((lz A j r z).map aj).length<=16777216) :
 sD (g0 ac A i j a g o5 b (ab (W.d (aj r))) (ab (W.d (.str z))))=.ok (.nx (g0 ac A i j (a++(dz A j r z).map aj) g o5 (b++(lz A j r z).map aj) (ab (W.d (aj r))) (ab (W.d (.str z))))):=by
 have ix:m2 aG (mV 7) (m1 gi (mC (.int 1))) (g0 ac A i j a g o5 b (ab (W.d (aj r))) (ab (W.d (.str z))))=.ok (.str (nth r (r.length-1))):=av rfl rfl (AC r1);have ti:cB (aW iP [(wD (mV 0)),(wD (m2 aG (mV 7) (m1 gi (mC (.int 1))))),(wD (mV 8))]) (g0 ac A i j a g o5 b (ab (W.d (aj r))) (ab (W.d (.str z))))=.ok (tie A (nth r (r.length-1)) z):=cQ (i7 rfl (cv ix) rfl (Ji _ _));have c1:eU (cB (m2 dZ (mV 8) (mV 2))) (cB (aW iP [(wD (mV 0)),(wD (m2 aG (mV 7) (m1 gi (mC (.int 1))))),(wD (mV 8))])) (g0 ac A i j a g o5 b (ab (W.d (aj r))) (ab (W.d (.str z))))=.ok (decide (z=j)&&tie A (nth r (r.length-1)) z):=uC (cQ (av rfl rfl (uO _ _))) λ_=>ti;have c2:eU (cB (m2 iu (mV 8) (mV 7))) (eU (cB (m2 fH (mV 8) (mV 2))) (cB (aW iP [(wD (mV 0)),(wD (m2 aG (mV 7) (m1 gi (mC (.int 1))))),(wD (mV 8))]))) (g0 ac A i j a g o5 b (ab (W.d (aj r))) (ab (W.d (.str z))))=.ok (fQ A j r z):=uC (cQ (av rfl rfl (y6 _ _))) λ_=>uC (cQ (av rfl rfl (JG _ _))) λ_=>ti;have ad:m2 aV (mV 7) (mN cx [(mV 8)]) (g0 ac A i j a g o5 b (ab (W.d (aj r))) (ab (W.d (.str z))))=.ok (aj (r++[z])):=zK (x:=r) (y:=[z]) rfl (kJ rfl) (by rw[dw];omega);unfold dz at ha ⊢;unfold lz at hb ⊢;cases h1:(decide (z=j)&&tie A (nth r (r.length-1)) z)with
 |true=>
  rw[h1]at c1;have h2:fQ A j r z=false:=by rw[fJ,rV]at h1;unfold fQ;rw[cE h1.1];simp
  rw[h2,aw rfl,ay cN,nX,jt];rw[h1,aw rfl]at ha;refine(fS c1).trans ?_;rw[o0 (d:=aj (r++[z])) (ds:=a) ad rfl (by rw[aS,dw]at ha;omega)];rfl
 |false=>
  rw[h1]at c1;rw[ay cN,nX,jt];refine(c9 c1).trans ?_;cases h2:fQ A j r z with
  |true=>
   rw[h2]at c2;rw[h2,aw rfl]at hb;rw[aw rfl];refine(fS c2).trans ?_;rw[o0 (d:=aj (r++[z])) (ds:=b) ad rfl (by rw[aS,dw]at hb;omega)];rfl
  |false=>
   rw[h2]at c2;rw[ay cN,nX,jt];exact(c9 c2).trans rfl
theorem GC(nd:ac.Nodup)(n8:ac.length<=8){i:Str}(ij:i≠j)(hi:i∈ac)(hj:j∈ac):mE [.d (aJ ac A),.d (.str i),.d (.str j)]=.ok (.d (.lst ((du ac A j i ac.length).map aj))):=by
 have p8:∀k,k<=8->8 ^ k<=16777216:=λk hk=>dQ (D4 (by decide) hk) (by decide);obtain⟨e',f,o5,o6,o7,o8,he⟩:=g9 (tg:=.n 5) (body:=(aP (bE 6 (mN cx []))
 (aP (dF (cW (mV 4)) (.n 7)
 (dF (cW (m2 aG (mV 0) (mC (.int 0)))) (.n 8) sD))
 (qI 4 6))))
  (λn e=>∃o5 o6 o7 o8:Option W,e=[ab (W.d (aJ ac A)),ab (W.d (.str i)),ab (W.d (.str j)),ab (W.d (.lst ((du ac A j i n).map aj))),ab (W.d (.lst ((gr ac A j i n).map aj))),o5,o6,o7,o8]) (cY 0 (ac.length:Int)) 0 (λn x e hx ⟨o5,o6,o7,o8,he⟩=>by
   subst he;obtain⟨hn,rfl⟩:=oW hx;rw[eJ];have b1:((du ac A j i n).map aj).length+((gr ac A j i n).flatMap λr=>(ac.flatMap (dz A j r)).map aj).length<=16777216:=by have h1:=Ay (A:=A) (j:=j) n8 i (n+1);rw[du,bA]at h1;rw[<- ii,aS,aS];rw[show(λr=>ac.flatMap (dz A j r))=λr=>if tie A (nth r (r.length-1)) j=true then[r++[j]]else[]from funext λr=>ur r ac nd hj];exact dQ h1 (p8 _ (by omega))
   have b2:([]:List D).length+((gr ac A j i n).flatMap λr=>(ac.flatMap (lz A j r)).map aj).length<=16777216:=by have h1:=wG (A:=A) (j:=j) n8 i (n+1);rw[gr]at h1;rw[<- ii,aS,ml,eJ];rw[show(λr=>ac.flatMap (lz A j r))=λr=>(ac.filter (fQ A j r)).map λz=>r++[z]from funext λr=>uh r ac];exact dQ h1 (p8 _ (by omega))
   obtain⟨e2,f2,p7,p8',he2⟩:=vG (tg:=.n 7) (body:=dF (cW (m2 aG (mV 0) (mC (.int 0)))) (.n 8) sD) aj (λr=>(ac.flatMap (dz A j r)).map aj) (λr=>(ac.flatMap (lz A j r)).map aj)
    (λa b e=>∃o7 o8:Option W,e=g0 ac A i j a (.lst ((gr ac A j i n).map aj)) (ab (W.d (.int (n:Int)))) b o7 o8) (gr ac A j i n) ((du ac A j i n).map aj) [] (g0 ac A i j ((du ac A j i n).map aj) (.lst ((gr ac A j i n).map aj)) (ab (W.d (.int (n:Int)))) [] o7 o8) b1 b2 ⟨o7,o8,rfl⟩ (λr hr a b e ha hb ⟨o7,o8,he⟩=>by
     subst he;obtain⟨t,y,er,_,rn,tn,_,tl⟩:=(mS ij n r).mp hr;have r1:1<=r.length:=by rw[er,bW];omega
     have r9:r.length<=9:=by rw[er,bW];omega
     obtain⟨e3,f3,q8,he3⟩:=vG (tg:=.n 8) (body:=sD) D.str (λz=>(dz A j r z).map aj) (λz=>(lz A j r z).map aj)
      (λa b e=>∃o8:Option W,e=g0 ac A i j a (.lst ((gr ac A j i n).map aj)) (ab (W.d (.int (n:Int)))) b (ab (W.d (aj r))) o8) ac a b (g0 ac A i j a (.lst ((gr ac A j i n).map aj)) (ab (W.d (.int (n:Int)))) b (ab (W.d (aj r))) o8) (by rw[<- ii];exact ha) (by rw[<- ii];exact hb) ⟨o8,rfl⟩ (λz hz a b e ha hb ⟨o8,he⟩=>by
       subst he;exact⟨_,_,rfl,Jg r1 r9 z a b o8 ha hb,_,rfl⟩)
     subst he3;rw[<- ii,<- ii]at f3;exact⟨_,_,rfl,(gs (iN (av rfl rfl (jH _ _)) rfl)).trans f3,_,_,rfl⟩)
   subst he2;have ed:(du ac A j i n).map aj++(gr ac A j i n).flatMap (λr=>(ac.flatMap (dz A j r)).map aj)=(du ac A j i (n+1)).map aj:=by rw[<- ii,<- eX,du];rw[show(λr=>ac.flatMap (dz A j r))=λr=>if tie A (nth r (r.length-1)) j=true then[r++[j]]else[]from funext λr=>ur r ac nd hj]
   have eg:([]:List D)++(gr ac A j i n).flatMap (λr=>(ac.flatMap (lz A j r)).map aj)=(gr ac A j i (n+1)).map aj:=by rw[k7,<- ii,gr];rw[show(λr=>ac.flatMap (lz A j r))=λr=>(ac.filter (fQ A j r)).map λz=>r++[z]from funext λr=>uh r ac]
   rw[ed,eg]at f2;refine⟨[ab (W.d (aJ ac A)),ab (W.d (.str i)),ab (W.d (.str j)),ab (W.d (.lst ((du ac A j i n).map aj))),ab (W.d (.lst ((gr ac A j i n).map aj))),ab (W.d (.int (n:Int))),o6,o7,o8],[ab (W.d (aJ ac A)),ab (W.d (.str i)),ab (W.d (.str j)),ab (W.d (.lst ((du ac A j i (n+1)).map aj))),ab (W.d (.lst ((gr ac A j i (n+1)).map aj))),ab (W.d (.int (n:Int))),ae,p7,p8'],rfl,?_,_,_,_,_,rfl⟩;rw[aR (e':=g0 ac A i j ((du ac A j i n).map aj) (.lst ((gr ac A j i n).map aj)) (ab (W.d (.int (n:Int)))) [] o7 o8) (ca (nQ _))];rw[aR ((gs (iN (x:=.lst ((gr ac A j i n).map aj)) rfl rfl)).trans f2)];rfl) [ab (W.d (aJ ac A)),ab (W.d (.str i)),ab (W.d (.str j)),ab (W.d (.lst ((du ac A j i 0).map aj))),ab (W.d (.lst ((gr ac A j i 0).map aj))),ae,ae,ae,ae] ⟨ae,ae,ae,ae,rfl⟩
 subst he;rw[eJ,j1]at f;unfold mE zY;rw[sO];rw[show([ab (W.d (aJ ac A)),ab (W.d (.str i)),ab (W.d (.str j))]++dm (9-3) ae)=[ab (W.d (aJ ac A)),ab (W.d (.str i)),ab (W.d (.str j)),ae,ae,ae,ae,ae,ae]from rfl];rw[aR (e':=[ab (W.d (aJ ac A)),ab (W.d (.str i)),ab (W.d (.str j)),ab (W.d (.lst [])),ae,ae,ae,ae,ae]) (ca (nQ _))];rw[aR (e':=[ab (W.d (aJ ac A)),ab (W.d (.str i)),ab (W.d (.str j)),ab (W.d (.lst [])),ab (W.d (.lst [aj [i]])),ae,ae,ae,ae]) (ca (kJ (kJ rfl)))];have hlen:mN cT [(m2 aG (mV 0) (mC (.int 0)))] [ab (W.d (aJ ac A)),ab (W.d (.str i)),ab (W.d (.str j)),ab (W.d (.lst [])),ab (W.d (.lst [aj [i]])),ae,ae,ae,ae]=.ok (.int (ac.length:Int)):=(kn (av rfl rfl (jH _ _))).trans (by unfold fb;rw[HZ,aS]);rw[aR ((gs (ie hlen (nE ac.length n8))).trans f)];rfl
end
end Mr
namespace Tr
open PySem Mi
def iD(r:List Nat):Nat:=r.getD (r.length-1) 0
def kO(T:Nat->Nat->Bool)(t:Nat)(r:List Nat)(z:Nat):Bool:=!decide (z∈r)&&(!decide (z=t)&&T (iD r) z)
def fg(m:Nat)(T:Nat->Nat->Bool)(t o:Nat):Nat->List (List Nat)
 |0=>[[o]]
 |k+1=>(fg m T t o k).flatMap λr=>((bn m).filter (kO T t r)).map λz=>r++[z]
def dY(m:Nat)(T:Nat->Nat->Bool)(t o:Nat):Nat->List (List Nat)
 |0=>[]
 |k+1=>dY m T t o k++(fg m T t o k).flatMap λr=>if T (iD r) t=true then[r++[t]]else[]
theorem re{α β:Type}{f g:α->List β}(h:∀x,(f x).Sublist (g x)):∀{l l':List α},l.Sublist l'->(l.flatMap f).Sublist (l'.flatMap g)
 |_,_,.slnil=>.slnil
 |_,_,.cons a s=>by rw[d8];exact(re h s).trans (List.sublist_append_right _ _)
 |_,_,.cons_cons a s=>by rw[d8,d8];exact(h a).append (re h s)
theorem Cu{α:Type}{p q:α->Bool}(h:∀x,p x=true->q x=true):∀l:List α,(l.filter p).Sublist (l.filter q)
 |[]=>.slnil
 |a::r=>by
  have ih:=Cu h r;cases hp:p a with
  |true=>rw[sY hp,sY (h a hp)];exact ih.cons_cons a
  |false=>
   rw[wT (by simp[hp])];cases hq:q a with
   |true=>rw[sY hq];exact ih.cons a
   |false=>rw[wT (by simp[hq])];exact ih
section
variable{m:Nat}{T U:Nat->Nat->Bool}{t o:Nat}
theorem Ce(h:∀x y,T x y=true->U x y=true):∀k,(fg m T t o k).Sublist (fg m U t o k)
 |0=>xI _
 |k+1=>re (λr=>(Cu (λz hz=>by
  unfold kO at hz ⊢;rw[fJ,fJ]at hz ⊢;exact⟨hz.1,hz.2.1,h _ _ hz.2.2⟩) _).map _) (Ce h k)
theorem sK(h:∀x y,T x y=true->U x y=true):∀k,(dY m T t o k).Sublist (dY m U t o k)
 |0=>xI _
 |k+1=>(sK h k).append (re (λr=>by
  by_cases q:T (iD r) t=true
  ·rw[aw q,aw (h _ _ q)];exact xI _
  ·rw[ay q];exact List.nil_sublist _) (Ce h k))
end
def cut(x y a b:Nat):Bool:=!decide (a=b) && !(decide (a=x/\b=y)||decide (a=y/\b=x))
def td(d:Bool)(o t a b:Nat):Bool:=!decide (a=b)&&(d || !(decide (a=o/\b=t)||decide (a=t/\b=o)))
def few(m:Nat):Bool:=(bn m).all λo=>(bn m).all λt=>decide (o=t)||decide ((dY m (λa b=>!decide (a=b)) t o m).length<64)
theorem yH:[2,3,4,5].all few=true:=by decide +kernel
def Gw:Bool:=(bn 6).all λo=>(bn 6).all λt=>decide (o=t)||(bn 6).all λx=>(bn x).all λy=>decide (x=o/\y=t)||decide (x=t/\y=o)||decide ((dY 6 (cut x y) t o 6).length<64)
theorem Km:Gw=true:=by decide +kernel
def oS:List (List Int)->Bool
 |a::b::r=>So.bv a b&&oS (b::r)
 |_=>true
def zT(d:Bool)(o t:Nat):List (List Int):=(dY 6 (td d o t) t o 6).map λr=>r.map qB
def qQ(d:Bool)(o t:Nat):Bool:=(gZ (zT d o t)).elim false oS
end Tr
namespace Mr
open PySem Mi
open Vp
open Tr
def N(ac:List Str)(r:List Nat):List Str:=r.map (nth ac)
def kI(ac:List Str)(r:List Str):List Int:=r.map λx=>((ac.idxOf x:Nat):Int)
theorem Af{ac:List Str}{x:Str}(h:x∈ac):nth ac (ac.idxOf x)=x:=by unfold nth;have:=nV.mpr h;rw[dv,c7 this,Option.getD_some,tw this]
theorem yw(ac:List Str):ac=(bn ac.length).map (nth ac):=by apply w9 (by simp);intro i h1 h2;rw[xa,wZ];unfold nth;rw[dv,c7 h1];rfl
theorem GZ{ac:List Str}(nd:ac.Nodup){r:List Nat}(h:∀x∈r,x<ac.length):kI ac (N ac r)=r.map qB:=by unfold kI N;rw[dg];exact nW λx hx=>by show((ac.idxOf (nth ac x):Nat):Int)=_;rw[GV nd (h x hx)];rfl
theorem wx{α β:Type}{f g:α->List β}:∀{l:List α},(∀x∈l,f x=g x)->l.flatMap f=l.flatMap g
 |[],_=>rfl
 |a::r,h=>by rw[d8,d8,h a cn,wx λx hx=>h x (cm _ hx)]
section
variable{ac:List Str}{A:List Ar}{t o:Nat}
def tN(ac:List Str)(A:List Ar)(x y:Nat):Bool:=tie A (nth ac x) (nth ac y)
theorem sU{T:Nat->Nat->Bool}{m:Nat}(ho:o<m):∀k,∀r∈fg m T t o k,r≠[]/\∀x∈r,x<m
 |0,r,h=>by
  rw[fg,bB]at h;subst h;exact⟨by simp,λx hx=>by rw[bB.mp hx];exact ho⟩
 |k+1,r,h=>by
  rw[fg]at h;obtain⟨q,hq,h⟩:=j7.mp h;obtain⟨z,hz,rfl⟩:=c8.mp h;have:=sU ho k q hq;refine⟨by simp,λx hx=>?_⟩;rcases dO.mp hx with y|y
  ·exact this.2 x y
  ·rw[bB.mp y];exact dP.mp (j8.mp hz).1
theorem AD{r:List Nat}(h:r≠[]):nth (N ac r) ((N ac r).length-1)=nth ac (iD r):=by
 unfold N iD;have hl:r.length-1<r.length:=by have:=List.length_pos_iff.mpr h;omega
 rw[aS];show(r.map (nth ac)).getD (r.length-1) dS=nth ac (r.getD (r.length-1) 0);rw[dv,de,c7 hl,dv,c7 hl];rfl
theorem Jv(nd:ac.Nodup)(ht:t<ac.length){r:List Nat}(hr:r≠[]/\∀x∈r,x<ac.length){z:Nat}(hz:z<ac.length):fQ A (nth ac t) (N ac r) (nth ac z)=kO (tN ac A) t r z:=by
 unfold fQ kO;rw[AD hr.1];have e1:decide (nth ac z∈N ac r)=decide (z∈r):=wj.mpr ⟨λh=>by
  obtain⟨x,hx,e⟩:=c8.mp h;rw[<- lD nd (hr.2 x hx) hz e];exact hx,λh=>c8.mpr ⟨z,h,rfl⟩⟩
 have e2:decide (nth ac z=nth ac t)=decide (z=t):=wj.mpr ⟨λh=>lD nd hz ht h,λh=>by rw[h]⟩;rw[e1,e2];rfl
theorem zJ(nd:ac.Nodup)(ht:t<ac.length)(ho:o<ac.length):∀k,gr ac A (nth ac t) (nth ac o) k=(fg ac.length (tN ac A) t o k).map (N ac)
 |0=>rfl
 |k+1=>by
  rw[gr,fg,zJ nd ht ho k,List.flatMap_map,ii];refine wx λr hr=>?_;have hin:=sU ho k r hr;rw[dg];have:ac.filter (fQ A (nth ac t) (N ac r))=((bn ac.length).filter (kO (tN ac A) t r)).map (nth ac):=by
   conv=>lhs;rw[yw ac]
   rw[List.filter_map]
   congr 1
   refine DY λz hz=>?_;show fQ A (nth ((bn ac.length).map (nth ac)) t) (N ((bn ac.length).map (nth ac)) r) (nth ac z)=_;rw[<- yw ac];exact Jv nd ht hin (dP.mp hz)
  rw[this,dg];refine nW λz _=>?_;show N ac r++[nth ac z]=N ac (r++[z]);unfold N;rw[eX];rfl
theorem zq(nd:ac.Nodup)(ht:t<ac.length)(ho:o<ac.length):∀k,du ac A (nth ac t) (nth ac o) k=(dY ac.length (tN ac A) t o k).map (N ac)
 |0=>rfl
 |k+1=>by
  rw[du,dY,eX,zq nd ht ho k,zJ nd ht ho k,List.flatMap_map,ii]
  congr 1
  refine wx λr hr=>?_;have hin:=sU ho k r hr;rw[AD hin.1];show(if tN ac A (iD r) t=true then _ else _)=_;by_cases q:tN ac A (iD r) t=true
  ·rw[aw q,aw q];show[N ac r++[nth ac t]]=[N ac (r++[t])];unfold N;rw[eX];rfl
  ·rw[ay q,ay q];rfl
theorem CA{T:Nat->Nat->Bool}{m:Nat}(ho:o<m)(ht:t<m):∀k,∀r∈dY m T t o k,∀x∈r,x<m
 |0,r,h=>by rw[dY]at h;cases h
 |k+1,r,h=>by
  rw[dY]at h;rcases dO.mp h with h|h
  ·exact CA ho ht k r h
  ·obtain⟨q,hq,h⟩:=j7.mp h;by_cases c:T (iD q) t=true
   ·rw[aw c,bB]at h;subst h;intro x hx;rcases dO.mp hx with y|y
    ·exact(sU ho k q hq).2 x y
    ·rw[bB.mp y];exact ht
   ·rw[ay c]at h;cases h
theorem GF(nd:ac.Nodup)(ht:t<ac.length)(ho:o<ac.length)(k:Nat):(du ac A (nth ac t) (nth ac o) k).map (kI ac)=(dY ac.length (tN ac A) t o k).map λr=>r.map qB:=by rw[zq nd ht ho,dg];exact nW λr hr=>GZ nd (CA ho ht k r hr)
end
theorem Gz(a:List Int){x y:Int}(h:x<y)(r s:List Int):So.bv (a++x::r) (a++y::s)=true:=by
 induction a with
 |nil=>rw[k7,k7,So.bv,ay (by simp;omega)];exact cE h
 |cons b a ih=>rw[mj,mj,So.bv,aw (by simp)];exact ih
theorem Jm{ac:List Str}(nd:ac.Nodup):ac.Pairwise λa b=>ac.idxOf a<ac.idxOf b:=by rw[DH];intro i j hi hj hij;rw[nd.idxOf_getElem i hi,nd.idxOf_getElem j hj];exact hij
theorem CF{ac:List Str}{A:List Ar}{j:Str}(nd:ac.Nodup):∀(n:Nat) (ds:List Str) (y:Str),(rb ac A j n ds y).Pairwise λa b=>So.bv (kI ac a) (kI ac b)=true
 |0,_,_=>qC
 |n+1,ds,y=>by
  rw[rb];by_cases c:y=j
  ·rw[aw c];exact wU ..
  ·rw[ay c];rw[List.pairwise_flatMap];refine⟨λz _=>?_,?_⟩
   ·by_cases q:z∈ds++[y]
    ·rw[aw q];exact qC
    ·rw[ay q];exact CF nd n _ z
   ·refine(((Jm nd).filter _).imp λ{a b} h r hr s hs=>?_);by_cases q:a∈ds++[y]
    ·rw[aw q]at hr;cases hr
    by_cases q':b∈ds++[y]
    ·rw[aw q']at hs;cases hs
    rw[ay q]at hr;rw[ay q']at hs;obtain⟨u,rfl⟩:=m8 n _ a r hr;obtain⟨v,rfl⟩:=m8 n _ b s hs;unfold kI;rw[eX (l₁:=ds++[y]) (l₂:=a::u),eX (l₁:=ds++[y]) (l₂:=b::v)];exact Gz _ (Int.ofNat_lt.mpr h) _ _
end Mr
namespace Tr
def lU(o:Nat):Bool:=(bn 6).all λt=>decide (o=t)||(qQ true o t&&qQ false o t)
theorem good0:lU 0=true:=by decide +kernel
theorem KO:lU 1=true:=by decide +kernel
theorem good2:lU 2=true:=by decide +kernel
theorem good3:lU 3=true:=by decide +kernel
theorem Hf:lU 4=true:=by decide +kernel
theorem IE:lU 5=true:=by decide +kernel
theorem GR{o t:Nat}(ho:o<6)(ht:t<6)(h:o≠t)(d:Bool):qQ d o t=true:=by
 have a:lU o=true:=by
  match o,ho with
  |0,_=>exact good0
  |1,_=>exact KO
  |2,_=>exact good2
  |3,_=>exact good3
  |4,_=>exact Hf
  |5,_=>exact IE
 have b:=fm.mp a t (dP.mpr ht);rw[bw h,jy,fJ]at b;cases d with
 |true=>exact b.1
 |false=>exact b.2
end Tr
namespace Tr
theorem CG:∀{l:List (List Int)},oS l=true->l.Pairwise λa b=>So.bv a b=true
 |[],_=>qC
 |[_],_=>wU ..
 |a::b::r,h=>by
  rw[oS,fJ]at h;have t:=CG h.2;refine tq.mpr ⟨λx hx=>?_,t⟩;rcases bJ.mp hx with rfl|hx
  ·exact h.1
  ·exact So.qY h.1 ((tq.mp t).1 x hx)
theorem many{m:Nat}{T:Nat->Nat->Bool}{t o:Nat}(m2:2<=m)(m6:m<=6)(ho:o<m)(ht:t<m)(h:o≠t)(irr:∀x,T x x=false)(sym:∀x y,T x y=T y x)(hl:64<=(dY m T t o m).length):m=6/\∀x y,x<6->y<6->x≠y->¬ (x=o/\y=t)->¬ (x=t/\y=o)->T x y=true:=by
 have e6:m=6:=tX λz=>by
  have:few m=true:=by have a:=fm.mp yH m (by simp;omega);exact a
  have b:=fm.mp (fm.mp this o (dP.mpr ho)) t (dP.mpr ht);rw[bw h,jy]at b;have b:=qb b;have:=(sK (m:=m) (t:=t) (o:=o) (T:=T) (U:=λa b=>!decide (a=b)) (λx y q=>by
   by_cases e:x=y
   ·rw[e,irr]at q;cases q
   ·simp[e]) m).length_le
  omega
 subst e6;refine⟨rfl,λx y hx hy xy h1 h2=>tX λq=>?_⟩;have key:∀x y,y<x->x<6->¬ (x=o/\y=t)->¬ (x=t/\y=o)->T x y=true:=λx y yx hx h1 h2=>tX λq=>by
  have b:=fm.mp (fm.mp Km o (dP.mpr ho)) t (dP.mpr ht);rw[bw h,jy]at b;have b:=fm.mp (fm.mp b x (dP.mpr hx)) y (dP.mpr yx);rw[bw h1,bw h2,jy,jy]at b;have b:=qb b;have:=(sK (m:=6) (t:=t) (o:=o) (T:=T) (U:=cut x y) (λa b c=>by
   unfold cut;have n1:a≠b:=λe=>by rw[e,irr]at c;cases c
   have n2:¬ (a=x/\b=y):=λe=>q (by rw[<- e.1,<- e.2];exact c);have n3:¬ (a=y/\b=x):=λe=>q (by rw[<- e.1,<- e.2,sym];exact c);rw[bw n1,bw n2,bw n3];rfl) 6).length_le
  omega
 rcases Nat.lt_or_ge y x with z|z
 ·exact q (key x y z hx h1 h2)
 ·exact q (by rw[sym];exact key y x (by omega) hy (λe=>h2 ⟨e.2,e.1⟩) (λe=>h1 ⟨e.2,e.1⟩))
theorem zU{m:Nat}{T U:Nat->Nat->Bool}{t o:Nat}(ho:o<m)(h:∀x y,x<m->y<m->T x y=U x y):∀k,fg m T t o k=fg m U t o k/\∀r∈fg m U t o k,iD r<m
 |0=>⟨rfl,λr hr=>by rw[fg,bB]at hr;rw[hr];exact ho⟩
 |k+1=>by
  obtain⟨e,hl⟩:=zU ho h k;refine⟨?_,λr hr=>?_⟩
  ·rw[fg,fg,e];have:∀l:List (List Nat),(∀r∈l,iD r<m)->l.flatMap (λr=>((bn m).filter (kO T t r)).map λz=>r++[z])=l.flatMap (λr=>((bn m).filter (kO U t r)).map λz=>r++[z]):=λl=>by
    induction l with
    |nil=>intro _;rfl
    |cons a l ih=>
     intro hl;rw[d8,d8,ih λr hr=>hl r (cm _ hr)]
     congr 2
     refine DY λz hz=>?_;unfold kO;rw[h _ _ (hl a cn) (dP.mp hz)]
   exact this _ hl
  ·rw[fg]at hr;obtain⟨q,hq,hr⟩:=j7.mp hr;obtain⟨z,hz,rfl⟩:=c8.mp hr;have:=dP.mp (j8.mp hz).1;unfold iD;rw[bA,dw,qy,dv,j4 (bg _),Nat.sub_self];exact this
theorem Cy{m:Nat}{T U:Nat->Nat->Bool}{t o:Nat}(ho:o<m)(ht:t<m)(h:∀x y,x<m->y<m->T x y=U x y):∀k,dY m T t o k=dY m U t o k
 |0=>rfl
 |k+1=>by
  obtain⟨e,hl⟩:=zU (t:=t) ho h k;rw[dY,dY,Cy ho ht h k,e]
  congr 1
  generalize fg m U t o k=l at hl
  induction l with
  |nil=>rfl
  |cons a l ih=>
   rw[d8,d8,ih λr hr=>hl r (cm _ hr),h _ _ (hl a cn) ht]
theorem Ag{α:Type}[DecidableEq α]:∀{a b:List α},a.Nodup->(∀x∈a,x∈b)->a.length=b.length->a.Perm b
 |[],b,_,_,h=>by rw[List.length_eq_zero_iff.mp h.symm]
 |x::a,b,nd,hs,hl=>by
  have hx:=hs x cn;have nd':=ik.mp nd;refine(List.Perm.cons x (Ag (b:=b.erase x) nd'.2 (λy hy=>?_) ?_)).trans (List.perm_cons_erase hx).symm
  ·exact(DQ (λe=>nd'.1 (by rw[<- e];exact hy))).mpr (hs y (cm _ hy))
  ·rw[DI hx,<- hl,bW];rfl
theorem GL{m:Nat}{T:Nat->Nat->Bool}{t o:Nat}(m2:2<=m)(m6:m<=6)(ho:o<m)(ht:t<m)(h:o≠t)(irr:∀x,T x x=false)(sym:∀x y,T x y=T y x){rows R:List (List Int)}(hr:rows=(dY m T t o m).map λr=>r.map qB)(hp:R.Perm rows)(hs:R.Pairwise λa b=>So.bv a b=true):Mi.gZ rows=ab R:=by
 have uq:∀{S:List (List Int)},S.Perm rows->(S.Pairwise λa b=>So.bv a b=true)->S=R:=λ{S} h1 h2=>Mi.uF Mi.B7 _ _ (h1.trans hp.symm) (h2.imp Mi.oU) (hs.imp Mi.oU);by_cases h64:rows.length<64
 ·unfold Mi.gZ;rw[aw h64,Mi.Be hp (hs.imp Mi.oU)]
 ·obtain⟨rfl,all⟩:=many m2 m6 ho ht h irr sym (by rw[hr,aS]at h64;omega);have eT:∀x y,x<6->y<6->T x y=td (T o t) o t x y:=λx y hx hy=>by
   unfold td;by_cases xy:x=y
   ·rw[xy,irr,cE rfl];rfl
   ·rw[bw xy];by_cases h1:x=o/\y=t
    ·rw[h1.1,h1.2];simp
    ·by_cases h2:x=t/\y=o
     ·rw[h2.1,h2.2,sym];simp
     ·rw[all x y hx hy xy h1 h2,bw h1,bw h2];simp
  have er:rows=zT (T o t) o t:=by rw[hr,Cy ho ht eT];rfl
  have g:=GR ho ht h (T o t);unfold qQ at g;rw[<- er]at g;cases e:Mi.gZ rows with
  |none=>rw[e]at g;cases g
  |some S=>
   rw[e]at g;have pw:=CG (show oS S=true from g);have e':=e;unfold Mi.gZ at e';rw[ay h64]at e';cases ht:Tm.kq (λi j:Fin rows.length=>So.mO rows i.1 j.1) (iV rows.length)with
   |none=>rw[ht]at e';cases e'
   |some q=>
    rw[ht]at e';have e':(if q.length=rows.length then ab (q.map λi=>rows.getD i.1 [])else ae)=ab S:=e';by_cases lq:q.length=rows.length
    ·rw[aw lq]at e';have e':=eZ e';refine congrArg ab (uq (Ag (pw.imp λ{a b} h z=>?_) (λx hx=>?_) (by rw[<- e',aS,lq])) pw)
     ·rw[z]at h;have:=So.py h;rw[h]at this;cases this
     ·rw[<- e']at hx;obtain⟨i,_,rfl⟩:=c8.mp hx;rw[dv,c7 i.2];exact qp _
    ·rw[ay lq]at e';cases e'
end Tr
namespace Mr
open PySem Mi
end Mr
namespace Mr
open PySem Mi
def Ds(ls:List (List Str)):D:=.lst (ls.map aj)
end Mr
namespace Mr
open PySem Mi
end Mr
namespace Mr
open PySem Mi
open My (words dh dD)
theorem AY:∀ds:List D,fX ds ds=ds.map λd=>.tup [d,d]
 |[]=>rfl
 |x::r=>by rw[fX,AY r];rfl
theorem G2(n:Nat){X:D}{ds:List D}(hX:X=.lst ds\/X=.tup ds)(h:∀d∈ds,cL n [.d d,.d d]=.ok (.d (.bl true))):cL (n+1) [.d X,.d X]=.ok (.d (.bl true)):=by
 show eD 2 4 (lh (cL n)) _=_;unfold lh;rw[jZ];have c0:jd (cB (m1 (cK ["str"]) (mV 1))) (cB (m1 (cK ["int"]) (mV 1))) [ab (.d X),ab (.d X),ae,ae]=.ok false:=by rcases hX with rfl|rfl<;>rfl
 have c1:jd (cB (m2 fH (m1 (cK ["list"]) (mV 0)) (m1 (cK ["list"]) (mV 1)))) (eI (cB (m1 (cK ["list","tuple"]) (mV 0)))) [ab (.d X),ab (.d X),ae,ae]=.ok false:=by rcases hX with rfl|rfl<;>rfl
 have c2:cB (m2 fH (mN cT [(mV 0)]) (mN cT [(mV 1)])) [ab (.d X),ab (.d X),ae,ae]=.ok false:=by rcases hX with rfl|rfl<;>exact cQ ((av rfl rfl rfl).trans ((Cd _ _).trans (by rw[cE rfl];rfl)))
 obtain⟨e',f1,o2,o3,he⟩:=g9 (tg:=.t [2,3]) (body:=(bx (eI (cB (aW (cL n) [(wD (mV 2)),(wD (mV 3))]))) (bI (wD (mC (.bl false)))) b7))
  (λi e=>∃o2 o3:Option W,e=[ab (.d X),ab (.d X),o2,o3]) (ds.map λd=>.tup [d,d]) 0 (λi d e hi ⟨o2,o3,he⟩=>by
   subst he;rw[de]at hi;obtain⟨x,hx,rfl⟩:=mq.mp hi;have ct:eI (cB (aW (cL n) [(wD (mV 2)),(wD (mV 3))])) [ab (.d X),ab (.d X),ab (.d x),ab (.d x)]=.ok false:=by unfold eI;rw[cQ (call2 rfl rfl (h x (iT hx)))];rfl
   exact⟨[ab (.d X),ab (.d X),ab (.d x),ab (.d x)],_,rfl,(c9 ct).trans rfl,_,_,rfl⟩) [ab (.d X),ab (.d X),ae,ae] ⟨ae,ae,rfl⟩
 subst he;have hit:rN (mV 0) (mV 1) [ab (.d X),ab (.d X),ae,ae]=.ok (ds.map λd=>.tup [d,d]):=by rw[<- AY];rcases hX with rfl|rfl<;>rfl
 exact(congrArg (λr=>Rs.bind r jL) ((aR ((c9 c0).trans rfl)).trans ((aR ((c9 c1).trans rfl)).trans ((aR ((c9 c2).trans rfl)).trans ((aR ((gs hit).trans f1)).trans (fB (cv rfl))))))).trans rfl
theorem HR(n:Nat)(ls:List (List Str)):cL (n+3) [.d (Ds ls),.d (Ds ls)]=.ok (.d (.bl true)):=G2 (n+2) (.inl rfl) λd hd=>by
 obtain⟨l,_,rfl⟩:=c8.mp hd;exact Fc n l
theorem Cm:∀xs:List Str,A.kw (xs.map D.str)=true
 |[]=>rfl
 |x::r=>by rw[cq,A.kw,Cm r];rfl
theorem As:∀xs:List Ar,A.kw (xs.map pairD)=true
 |[]=>rfl
 |x::r=>by rw[cq,A.kw,As r];rfl
theorem K6{ks:List Nat}{i j:Nat}{a:E}{c:C}{f r:S}{e:Mi.Env}{d:D}(h:a (mY ks e)=.ok d)(hf:freshD d=true)(hi:i<e.length)(hj:j<e.length)(hc:c (e.set i (ab (.d d)))=.ok false):pK ks i j a c f r e=r ((e.set i ae).set j ae):=by unfold pK;rw[h,aM,aw (by rw[hf,cE hi,cE hj];rfl),hc,aM,ay cN]
end Mr
namespace Mr
open PySem Mi
open Vp
open Tr
open My (words dh dD)
theorem Kq(ns:List Int)(hl:ns.length<=63):∃ac A r,ou [.d (.lst (ns.map D.int)),.d (.int 6)]=.ok (.d (aJ ac (A.map (arrOf ac))))/\sk ac A r/\(∃(c:Int) (m:Nat),m<=8/\ac=(words c m).map S')/\2<=ac.length/\ac.length<=6:=by
 obtain⟨c0,hc0⟩:=lM ns 0 (by decide);rw[show((0:Nat):Int)=0 from rfl]at hc0;obtain⟨f,hf⟩ : ∃f:Int,f=1+c0%(6-1)+6*(c0/(6-1)%10 ^ (9:Int).toNat):=⟨_,rfl⟩;obtain⟨ac,A,r,h,N,wds,d0,hd0,hnl⟩:=IV (f::ns.drop 1) 6 (by decide) (by decide);rw[show((6:Nat):Int)=6 from rfl]at h hnl;have cf:d6 [.d (.lst ((f::ns.drop 1).map D.int)),.d (.int 0)]=.ok (.d (.int f)):=by
  unfold d6 uy;rw[jZ];have ct:cB (m2 dB (mV 1) (mN cT [(mV 0)])) [ab (W.d (.lst ((f::ns.drop 1).map D.int))),ab (W.d (.int 0)),ae]=.ok true:=by refine cQ ((av rfl ((kn (x:=.lst ((f::ns.drop 1).map D.int)) rfl).trans (CD _)) (sF _ _)).trans ?_);rw[aS,bW,cE (by omega)]
  rw[show([ab (W.d (.lst ((f::ns.drop 1).map D.int))),ab (W.d (.int 0))]++dm (3-2) ae)=[ab (W.d (.lst ((f::ns.drop 1).map D.int))),ab (W.d (.int 0)),ae]from rfl];rw[lY ((fS ct).trans (fB (cv (av (x:=.lst ((f::ns.drop 1).map D.int)) rfl rfl (by show cA (cJ (.int f::(ns.drop 1).map D.int) 0)=_;rw[at0];rfl)))))];rfl
 rw[cf]at hd0;have e0:f=d0:=by injection hd0 with e;injection e with e;injection e
 refine⟨ac,A,r,?_,N,wds,?_⟩
 ·unfold ou CY;rw[jZ];have hp:m2 uU (mC (.int 10)) (mC (.int 9)) [ab (.d (.lst (ns.map D.int))),ab (.d (.int 6)),ab (.d (.int c0)),ae,ae]=.ok (.int (10 ^ (9:Int).toNat)):=av rfl rfl (aE (by decide));rw[aR (e':=[ab (.d (.lst (ns.map D.int))),ab (.d (.int 6)),ab (.d (.int c0)),ae,ae]) (ca (call2 rfl rfl hc0))];rw[aR (e':=[ab (.d (.lst (ns.map D.int))),ab (.d (.int 6)),ab (.d (.int c0)),ab (.d (.int (c0/(6-1)%10 ^ (9:Int).toNat))),ae]) (ca (av (av rfl (av rfl rfl rfl) (aE (gD (by decide) (by decide)))) hp (aE (by decide))))];rw[aR (e':=[ab (.d (.lst (ns.map D.int))),ab (.d (.int 6)),ab (.d (.int c0)),ab (.d (.int (c0/(6-1)%10 ^ (9:Int).toNat))),ab (.d (.int f))]) (ca ((av (av rfl (av rfl (av rfl rfl rfl) (aE (by decide))) rfl) (av rfl rfl (aE (hW (by decide) (by decide)))) rfl).trans (by rw[lI,hf])))];have hs:m2 aV (mN cx [(mV 4)]) (fw gq (mV 0) (ab (mC (.int 1))) ae) [ab (.d (.lst (ns.map D.int))),ab (.d (.int 6)),ab (.d (.int c0)),ab (.d (.int (c0/(6-1)%10 ^ (9:Int).toNat))),ab (.d (.int f))]=.ok (.lst ((f::ns.drop 1).map D.int)):=by
   have Lp:ia (ns.map D.int) (ab (1:Int)) ae=(ns.drop 1).map D.int:=by rw[show(1:Int)=((1:Nat):Int)from rfl,yp,tD]
   refine(av (x:=.lst [.int f]) (y:=.lst (ia (ns.map D.int) (ab (1:Int)) ae)) (kJ rfl) rfl rfl).trans ?_;rw[Lp,zM,aE (by simp only[bW,ml,aS,eW];omega)];rfl
  rw[fB (cv (call2 (cv hs) rfl h))];rfl
 ·rw[<- e0]at hnl;have q0:=fq c0 (b:=5) (by decide);have q1:=fK c0 (b:=5) (by decide);have e8:(6:Int)-1=5:=by decide
  rw[e8]at hf;have:f%6=1+c0%5:=by generalize c0/5%10 ^ (9:Int).toNat=z at hf;omega
  omega
theorem KQ:((bn 6).all λo=>(bn 6).all λt=>decide (o=t)||decide ((dY 6 (λa b=>!decide (a=b)) t o 6).length<=100))=true:=by decide +kernel
theorem Dq:∀rows:List (List Int),i9 (rows.map dC)=ab rows
 |[]=>rfl
 |r::t=>by
  have:∀l:List Int,je (l.map D.int)=ab l:=λl=>by
   induction l with
   |nil=>rfl
   |cons a l ih=>rw[cq,je,ih];rfl
  rw[cq];show((je (r.map D.int)).bind λk=>(i9 (t.map dC)).map (k :: ·))=_;rw[this,Dq t];rfl
theorem Kk(A:List Ar)(x y:Str):tie A x y=tie A y x:=Bool.or_comm _ _
theorem CC{ac:List Str}{A:List Ar}{i j:Str}(nd:ac.Nodup)(n2:2<=ac.length)(n6:ac.length<=6)(irr:∀p∈A,p.1≠p.2)(hi:i∈ac)(hj:j∈ac)(ij:i≠j):kU [.d (aJ ac A),.d (.str i),.d (.str j)]=.ok (.d (.lst ((rb ac A j 8 [] i).map aj))):=by
 have lr:=GC (A:=A) nd (by omega) ij hi hj;have ho:=nV.mpr hi;have ht:=nV.mpr hj;have ei:=Af hi;have ej:=Af hj;have ot:ac.idxOf i≠ac.idxOf j:=λz=>ij (BG hi hj z);have ir:∀x,tN ac A x x=false:=λx=>by
  unfold tN tie;rw[Bool.or_eq_false_iff];exact⟨bw λh=>irr _ h rfl,bw λh=>irr _ h rfl⟩
 have sy:∀x y,tN ac A x y=tN ac A y x:=λx y=>Kk A _ _;have er:(du ac A j i ac.length).map (kI ac)=(dY ac.length (tN ac A) (ac.idxOf j) (ac.idxOf i) ac.length).map λr=>r.map qB:=by have:=GF (A:=A) nd ht ho ac.length;rw[ei,ej]at this;exact this
 have inn:∀r,SR ac A i j r->∀x∈r,x∈ac:=λr ⟨t,e,_,_,h⟩ x hx=>by
  rw[e]at hx;rcases bJ.mp hx with rfl|hx
  ·exact hi
  ·exact h x hx
 have Lq:∀a b,(∀x∈a,x∈ac)->(∀x∈b,x∈ac)->kI ac a=kI ac b->a=b:=λa=>by
  induction a with
  | nil=>intro b _ _ e;cases b with
   |nil=>rfl
   |cons y b=>cases e
  | cons x a ih=>intro b ha hb e;cases b with
   |nil=>cases e
   |cons y b=>
    unfold kI at e;rw[cq,cq]at e;obtain⟨e1,e2⟩:=List.cons.inj e;have e3:ac.idxOf x=ac.idxOf y:=by omega
    rw[BG (ha x cn) (hb y cn) e3,ih b (λz hz=>ha z (cm _ hz)) (λz hz=>hb z (cm _ hz)) e2]
 have md:=λr=>Fh (ac:=ac) (A:=A) ij hi hj r;have ndu:=yN (ac:=ac) (A:=A) nd ij hj ac.length;have hp:((rb ac A j 8 [] i).map (kI ac)).Perm ((du ac A j i ac.length).map (kI ac)):=((List.perm_ext_iff_of_nodup (BP nd 8 [] i) ndu).mpr λr=>by rw[Ai (by omega) hi,md]).map _;have ndr:((du ac A j i ac.length).map (kI ac)).Nodup:=by show List.Pairwise _ _;rw[qo];exact ndu.imp_of_mem λ{a b} ha hb h e=>h (Lq a b (inn a ((md a).mp ha)) (inn b ((md b).mp hb)) e)
 have qG:=GL n2 n6 ho ht ot ir sy er hp (by rw[qo];exact CF nd 8 [] i);have len:((du ac A j i ac.length).map (kI ac)).length<=100:=by
  rw[er,aS];have s:=(sK (m:=ac.length) (t:=ac.idxOf j) (o:=ac.idxOf i) (T:=tN ac A) (U:=λa b=>!decide (a=b)) (λx y q=>by
   by_cases e:x=y
   ·rw[e,ir]at q;cases q
   ·simp[e]) ac.length).length_le
  by_cases e6:ac.length=6
  ·rw[e6]at s ho ht ⊢;have b:=fm.mp (fm.mp KQ _ (dP.mpr ho)) _ (dP.mpr ht);rw[bw ot,jy]at b;have b:=qb b;omega
  ·have:few ac.length=true:=fm.mp yH ac.length (by simp;omega);have b:=fm.mp (fm.mp this _ (dP.mpr ho)) _ (dP.mpr ht);rw[bw ot,jy]at b;have b:=qb b;omega
 have dl:(du ac A j i ac.length).length<=100:=by rw[aS]at len;exact len
 have rl:(rb ac A j 8 [] i).length<=100:=by have:=hp.length_eq;rw[aS]at this;omega
 have r8:∀r,SR ac A i j r->r.length<=8:=λr h=>by
  have h2:=h;obtain⟨t,e,_,n,_⟩:=h;exact dQ (kH n (inn r h2)) (by omega)
 have c1:d5 (.n 1) di (d3 [ab 0,ae] (cW (mV 1)) (.n 1) di (m2 rY (m2 aG (mV 0) (mC (.int 0))) (mV 1))) [ab (W.d (aJ ac A)),ae] ((du ac A j i ac.length).map aj)=.ok (((du ac A j i ac.length).filter λ_=>true).map λr=>dC (kI ac r)):=
  lX aj (λr=>dC (kI ac r)) (λ_=>true) _ λr hr=>⟨[ab (W.d (aJ ac A)),ab (W.d (aj r))],rfl,rfl,λ_=>by
   have hs:=(md r).mp hr;refine(h9 (ys:=(r.filter λ_=>true).map λx=>D.int ((ac.idxOf x:Nat):Int)) (iN (x:=aj r) rfl rfl) (by rw[aS];have:=r8 r hs;omega) ?_).trans ?_
   ·exact lX D.str (λx=>D.int ((ac.idxOf x:Nat):Int)) (λ_=>true) r λx hx=>⟨[ab (W.d (aJ ac A)),ab (W.d (.str x))],rfl,rfl,λ_=>av (x:=fb ac) (av rfl rfl (jH ac A)) rfl (by
     show(cA (u9 (fb ac))).bind _=_;rw[show u9 (fb ac)=ab ac from z7 ac];exact aE ⟨inn r hs x hx,by omega⟩)⟩
   ·rw[ql.mpr (λ_ _=>rfl)];unfold dC kI;rw[dg];rfl⟩
 rw[ql.mpr (λ_ _=>rfl)]at c1;have c2:d5 (.n 1) di (d3 [ab 0,ae] (cW (mV 1)) (.n 1) di (m2 aG (m2 aG (mV 0) (mC (.int 0))) (mV 1))) [ab (W.d (aJ ac A)),ae] ((rb ac A j 8 [] i).map λr=>dC (kI ac r))=.ok (((rb ac A j 8 [] i).filter λ_=>true).map aj):=
  lX (λr=>dC (kI ac r)) aj (λ_=>true) _ λr hr=>⟨[ab (W.d (aJ ac A)),ab (W.d (dC (kI ac r)))],rfl,rfl,λ_=>by
   have hs:=(Ai (by omega) hi r).mp hr;have e0:(kI ac r).map D.int=r.map λx=>D.int ((ac.idxOf x:Nat):Int):=by unfold kI;rw[dg];rfl
   refine(h9 (ys:=(r.filter λ_=>true).map D.str) (iN (x:=dC (kI ac r)) rfl (show sP (.lst ((kI ac r).map D.int))=.ok (r.map λx=>D.int ((ac.idxOf x:Nat):Int))by rw[e0];rfl)) (by rw[aS];have:=r8 r hs;omega) ?_).trans ?_
   ·exact lX (λx=>D.int ((ac.idxOf x:Nat):Int)) D.str (λ_=>true) r λx hx=>⟨[ab (W.d (aJ ac A)),ab (W.d (.int ((ac.idxOf x:Nat):Int)))],rfl,rfl,λ_=>av (x:=fb ac) (av rfl rfl (jH ac A)) rfl (by
     have xl:=nV.mpr (inn r hs x hx);show cA (cJ (ac.map D.str) ((ac.idxOf x:Nat):Int))=_;unfold cJ dj;rw[aw (by omega),aS,aw (by omega)];show cA ((ac.map D.str)[((ac.idxOf x:Nat):Int).toNat]?)=_;rw[jz,de,c7 xl,tw xl];rfl)⟩
   ·rw[ql.mpr (λ_ _=>rfl)];rfl⟩
 rw[ql.mpr (λ_ _=>rfl)]at c2;unfold kU Do;rw[sO];rw[show([ab (W.d (aJ ac A)),ab (W.d (.str i)),ab (W.d (.str j))]++dm (4-3) ae)=[ab (W.d (aJ ac A)),ab (W.d (.str i)),ab (W.d (.str j)),ae]from rfl];have so:mN wq [(d3 [ab 0,ae] (cW (aW mE [(wD (mV 0)),(wD (mV 1)),(wD (mV 2))])) (.n 1) di (d3 [ab 0,ae] (cW (mV 1)) (.n 1) di (m2 rY (m2 aG (mV 0) (mC (.int 0))) (mV 1))))] [ab (W.d (aJ ac A)),ab (W.d (.str i)),ab (W.d (.str j)),ae]=.ok (.lst ((rb ac A j 8 [] i).map λr=>dC (kI ac r))):=by
  refine(kn (h9 (ρ:=[ab 0,ae]) (iN (i7 rfl rfl rfl lr) rfl) (by rw[aS];omega) c1)).trans ?_;have e1:(du ac A j i ac.length).map (λr=>dC (kI ac r))=((du ac A j i ac.length).map (kI ac)).map dC:=by rw[dg];rfl
  rw[e1];show(cA (i9 (((du ac A j i ac.length).map (kI ac)).map dC))).bind _=_;rw[Dq];show a6 _ _=_;rw[aE ⟨ndr,by omega⟩,qG];show Rs.ok (D.lst (((rb ac A j 8 [] i).map (kI ac)).map dC))=_;rw[dg];rfl
 rw[aR (e':=[ab (W.d (aJ ac A)),ab (W.d (.str i)),ab (W.d (.str j)),ab (W.d (.lst ((rb ac A j 8 [] i).map λr=>dC (kI ac r))))]) ((ca so).trans rfl)];rw[fB (cv (h9 (ρ:=[ab 0,ae]) (iN (x:=.lst ((rb ac A j 8 [] i).map λr=>dC (kI ac r))) rfl rfl) (by rw[aS];omega) c2))];rfl
end Mr
namespace Mr
open PySem Mi
open Vp
open My (words dh dD)
theorem Jp{ac:List Str}{A:List Ar}{j:Str}:∀(n:Nat) (ds:List Str) (y:Str),∀r∈rb ac A j n ds y,r≠[]:=λn ds y r hr e=>by
 obtain⟨t,h⟩:=m8 n ds y r hr;rw[e]at h;have:=congrArg qr h;simp at this
theorem JE{Rs:List (List Str)}(h:∀r∈Rs,r≠[]):freshD (.lst (Rs.map aj))=true:=by
 unfold freshD;show(Rs.map aj).all _=true;rw[List.all_map];refine fm.mpr λr hr=>?_;cases r with
 |nil=>exact absurd rfl (h [] hr)
 |cons a t=>rfl
theorem JL(ac:List Str)(A:List Ar):_root_.A.fP (aJ ac A)=true:=by show(_root_.A.fP (fb ac)&&(_root_.A.fP (nO A)&&true))=true;have h1:_root_.A.fP (fb ac)=true:=Cm ac;have h2:_root_.A.fP (nO A)=true:=As A;rw[h1,h2];rfl
theorem Dn(ns:List Int)(hl:ns.length<=63):uA [.d (.lst (ns.map D.int))]=.ok (.d (.bl true)):=by
 obtain⟨ac,A0,r,xY,IN,⟨cw,mw,hm8,hnm⟩,h2,h6⟩:=Kq ns hl;have irr:=IN.apart.irr;have nd:=IN.nd;generalize A0.map (arrOf ac)=A at xY irr;obtain⟨qs,hqs⟩:=FR ns 3 (by decide) (by decide);rw[show((3:Nat):Int)=3 from rfl]at hqs;obtain⟨Ls,hLs⟩ : ∃Ls,Ls=D.lst (ns.map D.int):=⟨_,rfl⟩;rw[<- hLs]at xY hqs ⊢;obtain⟨e',f,o2,o3,o4,o5,o6,o7,o8,he⟩:=g9 (tg:=.n 2) (body:=(aP (qd [3,4,5] (aW l5 [(wD (mV 1)),(wD (mV 2))]))
 (aP (bE 6 (aW kU [(wD (mV 1)),(wD (mV 3)),(wD (mV 4))]))
 (pK [1,3,4] 7 8 (aW iq [(wD (mV 1)),(wD (mV 3)),(wD (mV 4))]) (eI (cB (aW (cL 4) [(wD (mV 7)),(wD (mV 6))])))
 (bI (wD (mC (.bl false))))
 (aP (bx (eI (cB (aW (cL 4) [(wD (aW iq [(wD (mV 1)),(wD (mV 4)),(wD (mV 3))])),(wD (aW kU [(wD (mV 1)),(wD (mV 4)),(wD (mV 3))]))])))
 (bI (wD (mC (.bl false))))
 b7)
 (bx (eI (cB (aW (cL 4) [(wD (aW iq [(wD (mV 1)),(wD (mV 3)),(wD (mV 4))])),(wD (mV 6))])))
 (bI (wD (mC (.bl false))))
 b7))))))
  (λn e=>∃o2 o3 o4 o5 o6 o7 o8:Option W,e=[ab (W.d Ls),ab (W.d (aJ ac A)),o2,o3,o4,o5,o6,o7,o8]) (qs.map D.int) 0 (λn x e hx ⟨o2,o3,o4,o5,o6,o7,o8,he⟩=>by
   subst he;rw[de]at hx;obtain⟨d,_,rfl⟩:=mq.mp hx;obtain⟨i,j,bm,has,Q⟩:=Gy (A:=A) nd h2 (by omega) d;have d1:=CC (A:=A) nd h2 h6 irr Q.im Q.jm Q.ij;have d2:=CC (A:=A) nd h2 h6 irr Q.jm Q.im Q.ij.symm;have r1:=Ah (A:=A) nd (by omega) Q.im Q.jm Q.ij;have r2:=Ah (A:=A) nd (by omega) Q.jm Q.im Q.ij.symm;have f1:=JE (Jp (ac:=ac) (A:=A) (j:=j) 8 [] i);generalize rb ac A j 8 [] i=R1 at d1 r1 f1;generalize rb ac A i 8 [] j=R2 at d2 r2;have al:∀R:List (List Str),cL 4 [.d (.lst (R.map aj)),.d (.lst (R.map aj))]=.ok (.d (.bl true)):=λR=>HR 1 R;refine⟨[ab (W.d Ls),ab (W.d (aJ ac A)),ab (W.d (.int d)),o3,o4,o5,o6,o7,o8],[ab (W.d Ls),ab (W.d (aJ ac A)),ab (W.d (.int d)),ab (W.d (.str i)),ab (W.d (.str j)),ab (W.d (aj bm)),ab (W.d (.lst (R1.map aj))),ae,ae],rfl,?_,_,_,_,_,_,_,_,rfl⟩;have s1:qd [3,4,5] (aW l5 [(wD (mV 1)),(wD (mV 2))]) [ab (W.d Ls),ab (W.d (aJ ac A)),ab (W.d (.int d)),o3,o4,o5,o6,o7,o8]=.ok (.nx [ab (W.d Ls),ab (W.d (aJ ac A)),ab (W.d (.int d)),ab (W.d (.str i)),ab (W.d (.str j)),ab (W.d (aj bm)),o6,o7,o8]):=by unfold qd;rw[call2 (x:=.d (aJ ac A)) (y:=.d (.int d)) rfl rfl has];rfl
   rw[aR s1];rw[aR (e':=[ab (W.d Ls),ab (W.d (aJ ac A)),ab (W.d (.int d)),ab (W.d (.str i)),ab (W.d (.str j)),ab (W.d (aj bm)),ab (W.d (.lst (R1.map aj))),o7,o8]) (ca (i7 rfl rfl rfl d1))];rw[K6 (d:=.lst (R1.map aj)) (i7 (f:=iq) (x:=.d (aJ ac A)) (y:=.d (.str i)) (z:=.d (.str j)) (cv (by
    show mV 1 [ae,nI (ab (.d (aJ ac A))),ae,nI (ab (.d (.str i))),nI (ab (.d (.str j))),ae,ae,ae,ae]=_;rw[show nI (ab (.d (aJ ac A)))=ab (.d (aJ ac A))from aw (JL ac A)];rfl)) rfl rfl r1) f1 (by simp) (by simp) (u7 (p:=true) (cQ (call2 (f:=cL 4) (x:=.d (.lst (R1.map aj))) (y:=.d (.lst (R1.map aj))) rfl rfl (al R1))))]
   have e8:(([ab (W.d Ls),ab (W.d (aJ ac A)),ab (W.d (.int d)),ab (W.d (.str i)),ab (W.d (.str j)),ab (W.d (aj bm)),ab (W.d (.lst (R1.map aj))),o7,o8]:Mi.Env).set 7 ae).set 8 ae=[ab (W.d Ls),ab (W.d (aJ ac A)),ab (W.d (.int d)),ab (W.d (.str i)),ab (W.d (.str j)),ab (W.d (aj bm)),ab (W.d (.lst (R1.map aj))),ae,ae]:=rfl;rw[e8];rw[aR ((c9 (u7 (p:=true) (cQ (call2 (f:=cL 4) (x:=.d (.lst (R2.map aj))) (y:=.d (.lst (R2.map aj))) (cv (i7 rfl rfl rfl r2)) (cv (i7 rfl rfl rfl d2)) (al R2))))).trans rfl)];exact(c9 (u7 (p:=true) (cQ (call2 (f:=cL 4) (x:=.d (.lst (R1.map aj))) (y:=.d (.lst (R1.map aj))) (cv (i7 rfl rfl rfl r1)) rfl (al R1))))).trans rfl) [ab (W.d Ls),ab (W.d (aJ ac A)),ae,ae,ae,ae,ae,ae,ae] ⟨ae,ae,ae,ae,ae,ae,ae,rfl⟩
 subst he;unfold uA Co;rw[zd];rw[show([ab (W.d Ls)]++dm (9-1) ae)=[ab (W.d Ls),ae,ae,ae,ae,ae,ae,ae,ae]from rfl];rw[aR (e':=[ab (W.d Ls),ab (W.d (aJ ac A)),ae,ae,ae,ae,ae,ae,ae]) (ca (call2 rfl rfl xY))];rw[aR ((gs (iN (call2 rfl rfl hqs) rfl)).trans f)];rfl
end Mr
namespace oo
open PySem L2 PyProof.Rows
instance Lx:A.a7:=⟨[],λc=>0⟩
theorem walk{l:wM}{q:bb}{loose:List Str}{XP:(Str->Option ag)->aI->Prop}{YP:aT->aI->Prop}{d:DefRec}{K:Params->aB}(hn:l.most=ab 63)(hdf:d.params.defaults=[])
 (hY:∀(w:aT) (h:aI),YP w h->(K w.params).In h) (hL:∀w:aT,yV (K w.params)=true)
 (F:∀(w:aT) (mg:Str->Option ag) (fa:ah) (h:aI),(K w.params).In h->h.Ns mainGlobals mg->mg d.name=ab (.ref fa) ->
  ∃fd:bQ,(∀(s:ak) (u:ag),lb s fd ⟨[u],[]⟩ [("_law_script",u)])/\∀base:aI,(K w.params).In base->base.Ns mainGlobals mg->bt l.prog w (K w.params) mg base aL 11 fa fd ["_law_script"] A.sM) :
 PySem.W.WalkO q loose XP YP l.row.toRowW d [] (λf vs=>xm f vs):=
 L2.He (n:=63) (k:=11) (x := "_law_script") (CX:=λ_=>aL) (sp:=λw=>A.sM) hn (by decide) hdf ⟨rfl,by decide,by decide,rfl⟩ hY F (λw _ a ns hl hO hS=>⟨a,ns,rfl,(match hS with
  |.inl r=>r
  |.inr ⟨_,_,_,e,c,_⟩=>(Gd (hL w) e c).elim),hl,Gm rfl hO,λ_=>rfl⟩) λ_ _ _ _ _ z=>z
theorem Gs{K:aB}{h:aI}{mg:Str->Option ag}(X:K.In h)(G:h.Ns mainGlobals mg)(xZ:eV K mainGlobals "len" = ab ae)(x2:eV K mainGlobals "range" = ab ae)(x5:eV K mainGlobals "max" = ab ae)(x6:eV K mainGlobals "min" = ab ae)(x9:eV K mainGlobals "tuple" = ab ae)(ya:eV K mainGlobals "list" = ab ae)(yb:eV K mainGlobals "isinstance" = ab ae)(yc:eV K mainGlobals "all" = ab ae)(yd:eV K mainGlobals "any" = ab ae)(ye:eV K mainGlobals "bool" = ab ae)(yf:eV K mainGlobals "str" = ab ae)(yg:eV K mainGlobals "int" = ab ae)(yh:eV K mainGlobals "zip" = ab ae)(yi:eV K mainGlobals "enumerate" = ab ae)(yk:eV K mainGlobals "sorted" = ab ae)(yl:eV K mainGlobals "reversed" = ab ae)(ym:eV K mainGlobals "set" = ab ae):Txt mg:=⟨fk X G xZ,fk X G x2,fk X G x5,fk X G x6,fk X G x9,fk X G ya,fk X G yb,fk X G yc,fk X G yd,fk X G ye,fk X G yf,fk X G yg,fk X G yh,fk X G yi,fk X G yk,fk X G yl,fk X G ym⟩
theorem KI{l:wM}{w:aT}{K:aB}{mg:Str->Option ag}{fa:ah}(hfa:mg "law" = ab (.ref fa))(T:Txt mg)(EK:c6 K mg "refuse_strangers" v6 ["names","asked"])(EL:c6 K mg "refuse_repeats" v3 ["asked"])(EM:c6 K mg "refuse_wrong_asks" u8 ["names","asked"])(EN:c6 K mg "are_tied" wF ["net","one","other"])(EO:c6 K mg "neighbours_in" vb ["net"])(EQ:c6 K mg "roads_begun" vV ["neighbours","begun","other"])(ER:c6 K mg "all_roads" wA ["net","one","other"])(ES:c6 K mg "_law_alike" uY ["_law_found","_law_due_here"])(ET:c6 K mg "_law_cell" ul ["_law_script","_law_k"])(EU:c6 K mg "_law_words" v0 ["_law_cell_here","_law_many"])(EV:c6 K mg "_law_ranks" vn ["_law_cell_here","_law_many"])(EX:c6 K mg "_law_net" uH ["_law_script","_law_most"])(EY:c6 K mg "_law_two" uS ["_law_script","_law_most"])(EZ:c6 K mg "_law_questions" wI ["_law_script","_law_many"])(E1:c6 K mg "_law_asked" uw ["_law_net_here","_law_draw"])(E2:c6 K mg "_law_tied" vO ["_law_net_here","_law_one","_law_other"])(E3:c6 K mg "_law_roads" uM ["_law_net_here","_law_one","_law_other"])(E4:c6 K mg "_law_due" u3 ["_law_net_here","_law_one","_law_other"])(E5:c6 K mg "law" wz ["_law_script"]) :
 ∃fd:bQ,(∀(s:ak) (u:ag),lb s fd ⟨[u],[]⟩ [("_law_script",u)])/\∀base:aI,K.In base->base.Ns mainGlobals mg->bt l.prog w K mg base aL 11 fa fd ["_law_script"] A.sM:=
 c6.K7 E5 hfa λbase kb nb f fd F=>by
  have oq:=EK.cal (P:=l.prog) (w:=w) (base:=base) (CX:=aL) λf fd F=>IK F T;have xK:=EL.cal (P:=l.prog) (w:=w) (base:=base) (CX:=aL) λf fd F=>J6 F T;have xN:=EM.cal (P:=l.prog) (w:=w) (base:=base) (CX:=aL) λf fd F=>IA F T oq xK;have xL:=EN.cal (P:=l.prog) (w:=w) (base:=base) (CX:=aL) λf fd F=>GD F T oq;have xO:=EO.cal (P:=l.prog) (w:=w) (base:=base) (CX:=aL) λf fd F=>K5 F T xL;have mD:=CV (P:=l.prog) (w:=w) (base:=base) (CX:=aL) EQ λf fd F self=>Bb F T self;have qF:=ER.cal (P:=l.prog) (w:=w) (base:=base) (CX:=aL) λf fd F=>Fs F T xN xO mD;have ki:=CV (P:=l.prog) (w:=w) (base:=base) (CX:=aL) ES λf fd F self=>Aa F T self;have gT:=ET.cal (P:=l.prog) (w:=w) (base:=base) (CX:=aL) λf fd F=>I0 F T;have xP:=EU.cal (P:=l.prog) (w:=w) (base:=base) (CX:=aL) λf fd F=>Fb F T;have xQ:=EV.cal (P:=l.prog) (w:=w) (base:=base) (CX:=aL) λf fd F=>GI F T;have xR:=EX.cal (P:=l.prog) (w:=w) (base:=base) (CX:=aL) λf fd F=>Hl F T gT xP xQ;have xT:=EY.cal (P:=l.prog) (w:=w) (base:=base) (CX:=aL) λf fd F=>FD F T gT xR;have xU:=EZ.cal (P:=l.prog) (w:=w) (base:=base) (CX:=aL) λf fd F=>JU F T gT;have xV:=E1.cal (P:=l.prog) (w:=w) (base:=base) (CX:=aL) λf fd F=>HB F T;have ud:=E2.cal (P:=l.prog) (w:=w) (base:=base) (CX:=aL) λf fd F=>Jx F T;have xS:=E3.cal (P:=l.prog) (w:=w) (base:=base) (CX:=aL) λf fd F=>GJ F T ud;have ue:=E4.cal (P:=l.prog) (w:=w) (base:=base) (CX:=aL) λf fd F=>Hk F T xS;exact A.Ie (Fl F T qF ki xT xU xV ue) λns hl=>by first|exact Mr.Dn ns|exact Mr.Dn ns hl
end oo
end
namespace PySem.W.Fast
def tw13871061723272840607:=0
def tw3064081615098524864:=0
def tw11568711593583460576:=0
def tw16885779464442002816:=0
def tw8115896216811306368:=0
def tw12751732753583003104:=0
def tw7367972755243203232:=0
def tw7740922962196492032:=0
def tw9037402441630885664:=0
def tw1610342569300353345:=0
def tw6864030492837179841:=0
def tw5893200635351057889:=0
def tw9836685045335066337:=0
def tw3765207309625313121:=0
def tw6754035018302838850:=0
def tw7614029334649920258:=0
def tw682307722280082627:=0
def tw14970424259015605571:=0
def tw8826147176128861667:=0
def tw10672848009974722051:=0
def tw2588624238882994819:=0
def tw4075611332151531267:=0
def tw2671670118385686339:=0
def tw8144914749227110404:=0
def tw15453070831314288836:=0
def tw14784543826879616644:=0
def tw12166060454507466789:=0
def tw3680876784739358245:=0
def tw17633434284420846213:=0
def tw429542394385313445:=0
def tw12178657571522621189:=0
def tw4245424717003384773:=0
def tw14130499382539934693:=0
def tw14402606502050653254:=0
def tw11489880735708039366:=0
def tw2104105594580767110:=0
def tw11871205715574850118:=0
def tw5232411123230215814:=0
def tw541157789763139270:=0
def tw2196422789569868742:=0
def tw5728199348056073511:=0
def tw10993173081904437799:=0
def tw9933920784060777095:=0
def tw15687741292248842919:=0
def tw15343650323540078856:=0
def tw848866975610347816:=0
def tw15235951551771871784:=0
def tw192447152210441864:=0
def tw14287045160637854440:=0
def tw399175478866142505:=0
def tw5789775544205822281:=0
def tw16577233320243196809:=0
def tw8816884346192226217:=0
def tw4939590806430269385:=0
def tw16337483443559092426:=0
def tw2115799916078813418:=0
def tw424125423638586602:=0
def tw4311778942875541898:=0
def tw14029679914049179082:=0
def tw15141241298464665643:=0
def tw17767352019413221515:=0
def tw14462931314329245899:=0
def tw2646168490613127691:=0
def tw6491654466164005419:=0
def tw1164954022446287467:=0
def tw2766239473995886251:=0
def tw11370447749676347339:=0
def tw17615132441247360140:=0
def tw5493834889982014924:=0
def tw2623564990016581292:=0
def tw15504292242305364684:=0
def tw15895002594909721324:=0
def tw11545291751328122668:=0
def tw14473541152465905612:=0
def tw18085443685316010988:=0
def tw8509581918041516045:=0
def tw17567827204054224109:=0
def tw15672947470182074733:=0
def tw1449160988828260813:=0
def tw15229244348696074733:=0
def tw1453652434920069837:=0
def tw7956436674844879725:=0
def tw11032176931699984301:=0
def tw5950380696030467310:=0
def tw4009563246102147438:=0
def tw10767342740996792814:=0
def tw9507708411540269646:=0
def tw12581280628733563502:=0
def tw12723000247905712143:=0
def tw15834232820385593359:=0
def tw3800398439014465807:=0
def tw4065439958672587183:=0
def tw311127864893552559:=0
def tw2408018426587459792:=0
def tw15734172156523037072:=0
def tw8472668987309825712:=0
def tw4513500778239845040:=0
def tw1744580757266874096:=0
def tw15921579816731160432:=0
def tw13222962498630909808:=0
def tw4542259505244697552:=0
def tw2565417484340565457:=0
def tw6561939171089185265:=0
def tw11043975060574414577:=0
def tw1754593903690138706:=0
def tw1199304267289020594:=0
def tw17903474652028757650:=0
def tw15363112612313219058:=0
def tw13398555143065940147:=0
def tw5706346119673505268:=0
def tw6288868598128132149:=0
def tw5213191496741097557:=0
def tw3497454260091019605:=0
def tw17431667542108818869:=0
def tw6878637268285985525:=0
def tw15986716998130288565:=0
def tw6562123643967240630:=0
def tw15307747572985707958:=0
def tw6370625216949372630:=0
def tw7996398390788993814:=0
def tw11731077546751073142:=0
def tw8747856001076694998:=0
def tw14413155943751333591:=0
def tw15365138063357948727:=0
def tw1131683608024834007:=0
def tw7440650367177638871:=0
def tw1803106461947304216:=0
def tw17412334743060469144:=0
def tw10165328160358706616:=0
def tw17338105980488925688:=0
def tw8943992895800294136:=0
def tw12872709824619955000:=0
def tw3879233643033361497:=0
def tw17044468786122110553:=0
def tw9933136044438704761:=0
def tw8060483450268497817:=0
def tw66146825491603834:=0
def tw10258997003901423194:=0
def tw10685649405497604794:=0
def tw4865518391130002170:=0
def tw10465904034856509755:=0
def tw3293744470534443483:=0
def tw2613988975258624571:=0
def tw3300238039489847067:=0
def tw7507308978907035451:=0
def tw3616773921675353148:=0
def tw375025667301616284:=0
def tw16671193714959707868:=0
def tw1487216319079971804:=0
def tw8605944917693621565:=0
def tw5670956389184435709:=0
def tw1096691052938617469:=0
def tw7638771434976347037:=0
def tw5225339304284832701:=0
def tw14136877419304352765:=0
def tw17156144894535019517:=0
def tw747684681184636222:=0
def tw14645998216950856030:=0
def tw15545808948928140734:=0
def tw3679895248316112734:=0
def tw10269276371772993374:=0
def tw12938876640070272031:=0
def tw12795784692326293887:=0
def tw3241849155005097471:=0
def tw6479840937061286655:=0
def tw8325770972684704575:=0
end PySem.W.Fast
open PySem PySem.W PyProof.Rows
set_option maxRecDepth 100000 in
set_option maxHeartbeats 0 in
theorem PySem.Challenge.cw_arrowfind_k10_all_roads_holds : PySem.Challenge.rw_arrowfind_k10_all_roads.Holds := by
 w_on;o_law;k_head;(case hw=>w_witness2)
 k_fill
 refine oo.walk (l:=PySem.Challenge.rw_arrowfind_k10_all_roads) rfl rfl (λw h Y=>PySem.W.kIn_of Y) ?L ?F
 case L=>
  intro w
  kernel_rfl
 case F=>
  intro w mg fa h KX G hmg
  refine' oo.KI hmg ?T ?EK ?EL ?EM ?EN ?EO ?EQ ?ER ?ES ?ET ?EU ?EV ?EX ?EY ?EZ ?E1 ?E2 ?E3 ?E4 ?E5
  case T=>
   refine' oo.Gs KX G ?xZ ?x2 ?x5 ?x6 ?x9 ?ya ?yb ?yc ?yd ?ye ?yf ?yg ?yh ?yi ?yk ?yl ?ym
   (case xZ=>k_is)
   (case x2=>k_is)
   (case x5=>k_is)
   (case x6=>k_is)
   (case x9=>k_is)
   (case ya=>k_is)
   (case yb=>k_is)
   (case yc=>k_is)
   (case yd=>k_is)
   (case ye=>k_is)
   (case yf=>k_is)
   (case yg=>k_is)
   (case yh=>k_is)
   (case yi=>k_is)
   (case yk=>k_is)
   (case yl=>k_is)
   (case ym=>k_is)
  all_goals
   first
    |(refine' L2.uN KX G (λ_ _ _ _ _ _ us hl=>match us,hl with|[_],_=>rfl) ?a ?l ?c ?k;(case a=>k_is);(case l=>k_is);(case c=>k_is);(case k=>k_is))
    |(refine' L2.uN KX G (λ_ _ _ _ _ _ us hl=>match us,hl with|[_,_],_=>rfl) ?a ?l ?c ?k;(case a=>k_is);(case l=>k_is);(case c=>k_is);(case k=>k_is))
    |(refine' L2.uN KX G (λ_ _ _ _ _ _ us hl=>match us,hl with|[_,_,_],_=>rfl) ?a ?l ?c ?k;(case a=>k_is);(case l=>k_is);(case c=>k_is);(case k=>k_is))
