import PyProof.Rows.All
import Wide.All
import OpenK.AllK
import Wide.FinOn
import Lean
import PyProof.EqAt
import PyProof.EqKinds
import PyProof.TupleCall
import PySem.Str
import PyProof.NeKinds
import PyProof.Draws
import PyProof.EnumMake
import PyProof.ZipIter
import KE.KSortTup
import KE.KLam
import PyProof.Rows.SortStr
import PyProof.Rows.FactsT3
import PyProof.StrOps2
import KE.KDictList
import KE.KRevIter
import PyProof.CollectIter
import PyProof.TupleOfGen
import PyProof.Rows.StrNews2
import PyProof.Rows.StrFacts2
import PyProof.StrLawsRepr
import PyProof.Rows.StrCase
import PyProof.Rows.StrSplit
import PySem.Challenge.RW_arrowfind_k12_reach_told
open List renaming length_map->aQ,getElem?_eq_some_iff->ca,mem_cons_self->bP,mem_cons_of_mem->cy,mem_cons->br,length_cons->bQ,length_append->cC,size_toArray->cq,getD_eq_getElem?_getD->eS,mem_append_right->dQ,mem_singleton->dm,getElem?_map->cZ,getElem?_eq_getElem->eU,mem_map->bR,mem_append_left->eB,mem_append->dA,getElem?_set_ne->fh,map_cons->cW,replicate->dq,mem_filter->dL,range->bT,map_map->cX,toArray->d6,map_append->fH,getElem?_cons_succ->j1,getElem?_cons_zero->j3,mem_of_getElem?->jz,nodup_append->iD,pairwise_map->iE,mem_range->f8,pairwise_cons->jA,length_take->i5,getElem?_of_mem->kM,filter_cons_of_pos->mI,getElem?_set_self->mJ,any_cons->iF,length_filter_le->mK,nodup_cons->j4,length_nil->j5,length_drop->kN,flatMap_cons->lH,length_set->kO,find?_cons->kP,getElem_inj->lI,filter_cons_of_neg->qg,append_nil->lJ,mem_map_of_mem->oq,lookup_cons->mL,filter_eq_self->qh,take_of_length_le->sP,pairwise_lt_range->sQ,length_singleton->sR,lookup->kQ,idxOf_lt_length_of_mem->vp,append_assoc->qi,drop_eq_getElem_cons->vq,getElem_mem->qj,drop_of_length_le->vt,reverse_cons->sS,eq_nil_of_length_eq_zero->zm,all_eq_true->sT,mem_flatMap->sU,mem_of_mem_take->vv,forIn_cons->sV,mem_filterMap->vx,getElem?_append_left->zo,drop_zero->sW,getElem?_take_of_lt->zp,eraseIdx_cons_succ->zq,not_mem_nil->vz,length_pos_of_mem->zr,of_mem_zip->vA,length_replicate->zt,nil_append->vB,pairwise_flatMap->zu,filterMap_cons->zv,map_congr_left->zw,getElem_of_mem->zx,getElem_idxOf->zy,eraseIdxIfInBounds_toArray->GN,length_range->zA,getElem?_set->zB,map_nil->vC,any_map->vD,nodup_range->zC,cons_append->zD,getElem?_append_right->GO,mem_of_mem_eraseIdx->GP,getElem?_replicate->GQ,pairwise_singleton->GR,range_succ_eq_map->GS,eraseIdx_sublist->GU,mem_of_mem_drop->GV,pairwise_append->GW,length_eraseIdx->GX,length->zE,replicate_zero->GY,set_cons_succ->GZ,set_cons_zero->G0,getElem_range->G1,any_eq_false->G2,idxOf_append->G3
open PySem.W renaming Frag->aD,CodeHd->eD,mg_none_of->f9,nsIn->fI,kia_one->j6,keepIn->kR,fnOf->j7,kla_obj->mM,codeIn->qk,kla_fn->ql,tabObj->qm,kitx_list->vE,kitx_dict->vF,cellsFrom_some->zF,tabIn->vG,methodObj->zG,instObj->zH,OpenLaw->zI,lookIn->zJ,kitOne->zK,kitAny->zL,kla_callFunE->G4,kla_codeExpr->G5,kitx_float->G6,kitx_tuple->G7,callWith_K->G8,codeRec_of->G9,kitx_none->Hb,kitx_bool->He,plainGet->Hf,kitx_int->Hg,kitx_str->Hj,kitx_own->Hk,findIn->Hl,tab_of->Hm
open PySem renaming wpAny_bind->aB,Value->ag,Shared->ao,wpAny_pure->bn,Addr->af,Program->bh,FuncData->bF,sizeLine_eq->c6,Around->bx,World->a6,mem_of_lookup->kT,boot_len->jB,Heap->aJ,wpAny_mono->gH,wpAny_call_entry->lK,wpAny_holding->j8,wpAny_callSpecial?_slot->qo,Expr->aU,wpAny_typeNameOfWhole_keyiter->vH,wpAny_Call_Name_kw->qp,wpAny_passesOwn->ot,wpAny_truthy_bool->qq,wpAny_typeNameOf_keyiter->vI,Stmt->bt,Scope->dB,wpAny_field->mO,wpAny_newObj_type->sX,typeIs_bool->vJ,wpAny_setField_rec->vK,wpAny_seqItems->sY,wpAny_pyIter_list->vL,Arguments->mP,Fin->ou,DictEntry->mQ,wpAny_standAt->sZ,wpAny_attempt->s0,wpAny_execs_nil->vM,NameKind->mR,call_meets->qr,wpAny_newFunctionEnv->zM,Paired->mS,wpAny_setField->vN,BindsTo->lL,tupleKind_room_in1->zN,TriplesOk->qt,wpAny_dictEntries->zP,codeAny_mono->vO,seqIndex_neg->vP,wpAny_specialOf->zQ,seqIndex_of->vQ,wpAny_dictEpoch->zR,wpAny_newFunctionEnv_cells->Ho,wpAny_call->vR,PlainAttrs->vS,call->zS,wpAny_newList->zT,wpAny_pyNext_list_item->Hq,wpAny_Call_method_late->Hr
open PySem.Heap renaming get?_push_of_some->b8,get?_push_size->de,lt_size->bS,size_push->oz,SameBut->mT,get?_update_self->vT,ExtBut->vU,get?_update_other->Hs
open Nat renaming le_refl->bq,lt_of_lt_of_le->fR,zero_add->dM,le_trans->dR,ne_of_lt->fi,zero_le->eK,lt_irrefl->i6,not_lt_zero->qu,ne_of_gt->s9,le_of_lt->vV,lt_succ_self->zU,le_add_right->zV
open Bool renaming false_ne_true->c7,false_eq_true->mU,and_eq_true->oA,eq_iff_iff->oB,false_or->vW,and_false->zW,not_eq_true'->Ht
open PySem.F renaming plainAttrs_list->h6,slot_list_append->oC,type_list_append->oD,slot_dict_keyiterator_next->tq,slot_tuple_iterator_next->vX,slot_list_pop->tu,type_list_pop->tw,slot_bool_hash->vY,args_tuple_iterator_next_1->Hu,entry_tuple_iterator_next->Hw,slot_zip_next->vZ,slot_tuple_index->Hx,args_dict_keyiterator_next_1->Hy,slot_list_index->Hz,entry_dict_keyiterator_next->HA,plainAttrs_str->HB,slot_str_join->HC,type_str_join->HD
open Option.some renaming inj->fj
open Option renaming map_eq_some_iff->i7,isSome_map->v4,map_some->zX,getD_none->HE
open Int renaming emod_lt_of_pos->gI,emod_nonneg->gc,toNat_natCast->lM
open PySem.PassesOwn renaming never->fS
open PySem.Value renaming ref->cG,none->fJ,bool->i9,str->lN,type->v5,float->zY
open PySem.Builtin.SmallTypes renaming nextOf->oE,ownedTupleHandOut->HF,ownedTupleIsFree->HG
open PySem.Heap.SameBut renaming update->lO
open PySem.Obj renaming mapSeq->fK,data_mapFields->v6,isFreed_of_fields->HH
open PySem.Str renaming empty->eV,ofString->lP,join->jC,length->oF
open PyProof.Rows renaming boot_isinstance->j9,callWith_type1->v7,boot_list->lQ,get?_update_seq->v8,listUpdate_at->v9,AllBare->mW,boot_tuple->tD,SortKind->tE,subscriptTail_builtinR->HI
open ForInStep renaming yield->kU
open Or renaming inl->cz,inr->fk
open True renaming intro->gJ
open Classical renaming propDecidable->qv,byContradiction->wa,em->HJ
open False renaming elim->h9
open Ne renaming symm->d8
open PySem.NameKind renaming free->kW,cell->zZ
open Array renaming perm_iff_toList_perm->tF,length_toList->tG,getElem?_toList->wb,toList_append->we,getElem?_eq_getElem->z5,toList_inj->wf
open Sum renaming inr->gf,inl->oG
open PySem.Calls renaming spliced_cons->tH,callWith_builtin->wg,spliced_nil->wj,evalArgs_plain->z6,Name_function_global->HK
open PySem.Paired renaming length->qw
open List.Pairwise renaming filter->z7,nil->z8
open PySem.SeqAt.EqAt renaming bool_bool->z9,bool_str->HL,str_bool->HM
open PySem.Value.type renaming inj->wm
open PySem.Builtin.Dict_items renaming ownsTuple->HN
open List.Perm renaming refl->wq
open PySem.Around renaming frames_deeper->Aa
open Prod renaming ext->mX,fst->oH
open PySem.Builtin.Str renaming strSliceIndices->HP
open PySem.MeetsSeq renaming EqGives->HQ
open PySem.Builtin.Dict renaming showsAll->HR
open Sum.inr renaming inj->Ab
open PySem.SeqRoads2.EqGives renaming str->PM
open Array.Perm renaming refl->HS
open List.cons renaming injEq->HU
open Option renaming some->aa,none->ac
abbrev cv:=@decide_eq_true
abbrev dj:=@decide_eq_false
abbrev aN:=@if_pos
abbrev aP:=@if_neg
abbrev ig:=@beq_self_eq_true
abbrev jg:=@decide_eq_true_eq
abbrev jJ:=@of_decide_eq_true
abbrev ko:=@decide_eq_true_iff
abbrev eO:=@if_false
abbrev pB:=@beq_eq_false_iff_ne
abbrev hV:=@if_true
abbrev lG:=@beq_iff_eq
abbrev xS:=@decide_eq_false_iff_not
set_option maxRecDepth 100000
set_option maxHeartbeats 4000000
set_option Elab.async false
set_option linter.all false
namespace L2
open PySem PySem.Spec PyProof.Rows
abbrev Key:=Sum Bool Str
def A7(k:Bool):ag->Bool
 |.bool b=>b==k
 |_=>false
def sD:Key->ag->Bool
 |.inl k,v=>A7 k v
 |.inr x,v=>Value.isStrOf x v
def Me(w:a6):Key->Int
 |.inl k=>hashInt (if k then 1 else 0)
 |.inr x=>hashStr w x
theorem Oc{k:Bool}:∀{v:ag},A7 k v=true->v=.bool k
 |.bool b,h=>by rw[show b=k from eq_of_beq h]
theorem k7:∀{k:Key} {v:ag},sD k v=true->(∃i,k=oG i/\v=i9 i)\/(∃x t,k=gf x/\v=lN x t)
 |.inl i,v,h=>.inl ⟨i,rfl,Oc h⟩
 |.inr x,v,h=>by
  obtain⟨t,e⟩:=Value.isStrOf_shape (x:=x) (v:=v) h;exact .inr ⟨x,t,rfl,e⟩
theorem Kq(i:Bool):sD (.inl i) (.bool i)=true:=ig i
theorem Ms{prog:bh}{w:a6}{A:bx}{E:ag->ao->Prop}{s:ao}{b:Bool}{Q:Int->ao->Prop}(h:Q (hashInt (if b then 1 else 0)) { s with toks:=s.toks+1 }) :
 wpAny (model prog w) A (pyHash (.bool b)) Q E s:=by
 have hr:=rawHash_range (if b then 1 else 0);unfold pyHash;have hv:[i9 b].any Value.onHeap=false:=rfl;refine aB ?_;rw[cRoomFor,aP (by rw[hv];exact c7)];refine bn ?_;refine aB (zQ (vJ s b) vY.lookup ?_);show wpAny _ _ (if(aa (Value.builtin "int.__hash__")==aa fJ)=true then _ else _) Q E s;rw[aP (by rw[beq_builtin_none];exact c7)];refine aB (zQ (vJ s b) vY.lookup ?_);show wpAny _ _ (callSpecialIfBoundUnlessNone? (.bool b) "__hash__" _ >>= _) Q E s;refine aB (wpAny_callSpecialIfBoundUnlessNone?_slot (vJ s b) vY
  (lK vY (vJ s b) F.entry_int_hash
   (show wpAny _ _ (do ret (<- mkInt (rawHash (if b then 1 else 0)))) _ _ s from wpAny_ret_mkInt ?_) (F.args_int_hash_1 _)))
 show wpAny _ _ (if(decide (-(2:Int) ^ 63<=rawHash (if b then 1 else 0))&&decide (rawHash (if b then 1 else 0)<2 ^ 63))=true then _ else _) Q E _;rw[aN (by rw[cv hr.1,cv hr.2];rfl)];exact bn h
theorem KJ(x:Str)(t:Tok):sD (.inr x) (.str x t)=true:=by simp[sD,Value.isStrOf]
theorem KY(a b:Bool):decide ((oG a:Key)=oG b)=(a==b):=by
 by_cases e:a=b
 ·subst e;simp
 ·have h:¬ (oG a:Key)=oG b:=λq=>e (Sum.inl.inj q);rw[dj h];exact(pB.mpr e).symm
theorem L5(a b:Str):decide ((gf a:Key)=gf b)=decide (a=b):=by
 by_cases e:a=b
 ·subst e;simp
 ·have h:¬ (gf a:Key)=gf b:=λq=>e (Ab q);rw[dj h,dj e]
theorem J4(a:Bool)(b:Str):decide ((oG a:Key)=gf b)=false:=dj (λq=>nomatch q)
theorem JI(a:Str)(b:Bool):decide ((gf a:Key)=oG b)=false:=dj (λq=>nomatch q)
def gF(prog:bh)(w:a6):PySem.KeyKind prog w Key where
 is:=sD
 hash:=Me w
 inj:=λv a b ha hb=>by
  rcases k7 ha with ⟨i,rfl,rfl⟩|⟨x,t,rfl,rfl⟩
  ·rcases k7 hb with ⟨j,rfl,e⟩|⟨y,u,rfl,e⟩
   ·injection e with e1;rw[e1]
   ·exact nomatch e
  ·rcases k7 hb with ⟨j,rfl,e⟩|⟨y,u,rfl,e⟩
   ·exact nomatch e
   ·injection e with e1 _;rw[e1]
 byValue:=λk v h=>by
  rcases k7 h with ⟨i,rfl,rfl⟩|⟨x,t,rfl,rfl⟩<;>rfl
 pyHash:=λhv h=>by
  rcases k7 hv with ⟨i,rfl,rfl⟩|⟨x,t,rfl,rfl⟩
  ·exact Ms h
  ·exact wpAny_pyHash_str h
 eqBool:=λhu hv h=>by
  rcases k7 hu with ⟨i,rfl,rfl⟩|⟨x,t,rfl,rfl⟩
  ·rcases k7 hv with ⟨j,rfl,rfl⟩|⟨y,u,rfl,rfl⟩
   ·rw[KY]at h;exact z9 i j _ _ _ _ h
   ·rw[J4]at h;exact HL i y u _ _ _ _ h
  ·rcases k7 hv with ⟨j,rfl,rfl⟩|⟨y,u,rfl,rfl⟩
   ·rw[JI]at h;exact HM x t j _ _ _ _ h
   ·rw[L5]at h;exact wpAny_eqBool_str h
 «strs»:=λk x t v h=>by
  rcases k7 h with ⟨i,rfl,e⟩|⟨y,u,rfl,e⟩
  ·exact nomatch e
  ·injection e with e1 _;subst e1;cases v<;>rfl
theorem MJ(prog:bh)(w:a6)(i:Bool):(gF prog w).is (.inl i) (.bool i)=true:=Kq i
theorem L7(prog:bh)(w:a6)(x:Str)(t:Tok):(gF prog w).is (.inr x) (.str x t)=true:=KJ x t
inductive V where
 |non|bl (b:Bool)|int (i:Int)|str (x:Str)|byt (b:Array UInt8)|flt (b:UInt64)|ref (a:af)|ty (n:String)
 deriving DecidableEq
def RelV:V->ag->Prop
 |.non,u=>u=fJ
 |.bl b,u=>u=i9 b
 |.int i,u=>∃t,u=Value.int i t
 |.str x,u=>∃t,u=lN x t
 |.byt b,u=>∃t,u=Value.bytes b t
 |.flt b,u=>∃t,u=zY b t
 |.ref a,u=>u=cG a
 |.ty n,u=>u=v5 n
abbrev Vals:List V->List ag->Prop:=mS RelV
theorem Vals.length{xs:List V}{us:List ag}(r:Vals xs us):xs.length=us.length:=qw r
theorem Vals.get:∀{xs:List V} {us:List ag} {i:Nat} {x:V},Vals xs us->xs[i]? = aa x->∃u,us[i]? = aa u/\RelV x u
 |_,_,_,_,.nil,e=>by simp at e
 |_,_,0,_,.cons r _,e=>by simp at e;subst e;exact⟨_,rfl,r⟩
 |_,_,i+1,x,.cons _ t,e=>by
  obtain⟨u,h1,h2⟩:=Vals.get (i:=i) (x:=x) t (by simpa using e);exact⟨u,by simpa using h1,h2⟩
theorem Vals.set{x:V}{u:ag}(r:RelV x u):∀{xs:List V} {us:List ag} (i:Nat),Vals xs us->Vals (xs.set i x) (us.set i u)
 |_,_,_,.nil=>.nil
 |_,_,0,.cons _ t=>.cons r t
 |_,_,i+1,.cons q t=>.cons q (Vals.set r i t)
theorem Vals.append:∀{xs ys:List V} {us ws:List ag},Vals xs us->Vals ys ws->Vals (xs++ys) (us++ws)
 |_,_,_,_,.nil,s=>s
 |_,_,_,_,.cons r t,s=>.cons r (Vals.append t s)
theorem Vals.take:∀{xs:List V} {us:List ag} (n:Nat),Vals xs us->Vals (xs.take n) (us.take n)
 |_,_,0,_=>.nil
 |_,_,_+1,.nil=>.nil
 |_,_,n+1,.cons r t=>.cons r (Vals.take n t)
theorem Vals.drop:∀{xs:List V} {us:List ag} (n:Nat),Vals xs us->Vals (xs.drop n) (us.drop n)
 |_,_,0,r=>r
 |_,_,_+1,.nil=>.nil
 |_,_,n+1,.cons _ t=>Vals.drop n t
def nS:Option V->Option ag->Prop
 |some v,aa u=>RelV v u
 |none,ac=>True
 |_,_=>False
def KV{κ:Type}:List (κ×V)->List (κ×ag)->Prop:=mS λ(p:κ×V) (q:κ×ag)=>p.1=q.1/\RelV p.2 q.2
def kV:Key->V
 |.inl i=>.bl i
 |.inr x=>.str x
def oR(h:aJ)(a:af)(aj:Array ag):Prop:=∃o,h.get? a=aa o/\o.cls=.type "tuple" /\ o.dict=ac/\∃n,o.data=.seq aj n
theorem oR.tup{h:aJ}{a:af}{aj:Array ag}(x:oR h a aj):IsTup h a aj:=let ⟨o,e,c,_,d⟩:=x;⟨o,e,c,d⟩
theorem oR.new(h:aJ)(aj:Array ag):oR (h.push { cls:=.type "tuple", data:=.seq aj }) h.objs.size aj:=⟨_,de _ rfl,rfl,rfl,_,rfl⟩
inductive HO where
 /-- a list -/
 |lst (xs:List V)
 /-- a tuple (never changes) -/
 |tup (xs:List V)
 /-- a dict whose keys are ints and texts;one whose keys are tuples of ints and texts (the empty one is both) -/
 |dK (ai:List (Key×V))|dT (ai:List (List Key×V))
 /-- a set of ints: aj members,aj size -/
 |set (S:Int->Bool) (n:Nat)
 /-- an instance of the class at C,aj dict at dx,aj attributes -/
 |ins (C dx:af) (fs:List (Str×V))
 /-- the dict of the instance at x -/
 |own (x:af)
 /-- the dict of an exception -/
 |xd (fs:List (Str×V))
 /-- a bound method,f of x -/
 |met (f x:af)
 /-- a range object lo,lo+1,.. below hi -/
 |rng (lo hi:Int)
 /-- a thing that is known to the object (the script;a dict while a loop walks it): read,never written while it is so -/
 |frz (o:Obj) (u:HO)
 /-- a code object's table -/
 |tbl (w:Str) (ps:Array ag)
 /-- any other thing,by what is true of aj one object (a def of one's own: QA a S n:=HO.ext λh=>..) -/
 |ext (φ : aJ->Prop)
abbrev Hp:=af->Option HO
def upd(H:Hp)(a:af)(o:HO):Hp:=λb=>if b=a then aa o else H b
theorem bu{H:Hp}{a:af}{o:HO}:upd H a o a=aa o:=by unfold upd;rw[aN rfl]
theorem aG{H:Hp}{a b:af}{o:HO}(h:b≠a):upd H a o b=H b:=by unfold upd;rw[aP h]
theorem Jy{H:Hp}{a b:af}{o u:HO}(h:H a=aa o)(h':H b=aa u)(d:o≠u):a≠b:=by intro e;subst e;rw[h]at h';exact d (fj h')
theorem cE{H:Hp}{a b:af}{o:HO}(h:H a=aa o)(h':H b=ac):a≠b:=by intro e;subst e;rw[h]at h';cases h'
section
variable(P:bh)(w:a6)
def bW(H:Hp)(h:aJ)(a:af):HO->Prop
 |.lst xs=>xs.length<=sizeLine/\∃(aj:List ag) (n:Nat),Vals xs aj/\h.get? a=aa { cls:=.type "list", data:=.seq aj.toArray n }
 |.tup xs=>xs.length<=sizeLine/\∃aj:List ag,Vals xs aj/\oR h a aj.toArray
 |.dK ai=>ai.length<=sizeLine/\(a==sysModules)=false/\∃vs,KV ai vs/\h.DictOf (gF P w) a vs
 | .dT ai=>ai.length<=sizeLine/\(a==sysModules)=false/\∃xs:List (List Key×af×ag),
  mS (λ(p:List Key×V) (q:List Key×af×ag)=>p.1=q.1/\H q.2.1=aa (.tup (p.1.map kV))/\RelV p.2 q.2.2) ai xs /\
  ∃o es ep,h.get? a=aa o/\o.ExactDict/\o.data=.dict es ep/\es.toList=xs.map (entryOfKey (tupleKind (gF P w)))/\(xs.map (·.1)).Nodup
 |.set S n=>h.SetOf (intKind P w) a S n
 | .ins C dx fs=>H dx=aa (.own a)/\fs.length<=1000/\dx≠a/\h.get? a=aa (zH C dx) /\
  ∃mA,h.Ns1 dx mA/\(∀f,nS (fs.lookup f) (mA f))/\PySem.Within mA (fs.map (·.1))
 |.own _=>∃o,h.get? a=aa o
 |.xd fs=>∃mA,h.Ns1 a mA/\∀f,nS (fs.lookup f) (mA f)
 |.rng lo hi=>∃t u v,h.get? a=aa { cls:=.type "range", data:=.fields #[.int lo t,.int hi u,.int 1 v] }
 |.frz o u=>h.get? a=aa o/\bW H h a u
 |.tbl _ ps=>h.get? a=aa { cls:=.none,data:=.fields ps }
 |.met f x=>h.get? a=aa (zG (.ref f) (.ref x))
 |.ext φ=>φ h/\(∃o,h.get? a=aa o)/\∀h1 h2:aJ,φ h1->(∀o,h1.get? a=aa o->h2.get? a=aa o)->φ h2
def cJ(H:Hp)(h:aJ):Prop:=∀a o,H a=aa o->bW P w H h a o
end
section
variable{P:bh}{w:a6}{H H':Hp}{h h':aJ}{a:af}{o:HO}
theorem bW.lt(x:bW P w H h a o):a<h.objs.size:=by
 cases o with
 |lst xs=>obtain⟨_,_,_,_,e⟩:=x;exact bS e
 |tup xs=>obtain⟨_,_,_,p⟩:=x;exact p.tup.lt
 |dK ai=>obtain⟨_,_,_,_,o,_,_,e,_⟩:=x;exact bS e
 |dT ai=>obtain⟨_,_,_,_,o,_,_,e,_⟩:=x;exact bS e
 |set S n=>obtain⟨o,_,_,_,e,_⟩:=x;exact bS e
 |ins C dx fs=>obtain⟨_,_,_,e,_⟩:=x;exact bS e
 |own y=>obtain⟨_,e⟩:=x;exact bS e
 |xd fs=>obtain⟨_,⟨_,_,_,e,_⟩,_⟩:=x;exact bS e
 |rng lo hi=>obtain⟨_,_,_,e⟩:=x;exact bS e
 |frz ob u=>obtain⟨e,_⟩:=x;exact bS e
 |tbl w ps=>exact bS (show h.get? a=aa _ from x)
 |met f y=>exact bS (show h.get? a=aa _ from x)
 |ext φ=>obtain⟨_,⟨_,e⟩,_⟩:=x;exact bS e
theorem Paired.wJ{α β:Type}{F G:α->β->Prop}:∀{l₁:List α} {l₂:List β},mS F l₁ l₂->(∀a b,F a b->G a b)->mS G l₁ l₂
 |_,_,.nil,_=>.nil
 |_,_,.cons r t,f=>.cons (f _ _ r) (Paired.wJ t f)
theorem bW.stay(x:bW P w H h a o)(k:∀b u,(b=a\/H b=aa (.own a))->h.get? b=aa u->h'.get? b=aa u)
 (ho:∀b,H b=aa (.own a)->H' b=aa (.own a)) (ht:∀b xs,H b=aa (.tup xs)->H' b=aa (.tup xs)):bW P w H' h' a o:=by
 induction o with
 |lst xs=>obtain⟨z,aj,n,r,e⟩:=x;exact⟨z,aj,n,r,k _ _ (.inl rfl) e⟩
 |tup xs=>obtain⟨z,aj,r,ob,e,c⟩:=x;exact⟨z,aj,r,ob,k _ _ (.inl rfl) e,c⟩
 |dK ai=>obtain⟨z,y,vs,r,ob,es,ep,e,c⟩:=x;exact⟨z,y,vs,r,ob,es,ep,k _ _ (.inl rfl) e,c⟩
 |dT ai=>
  obtain⟨z,y,xs,r,ob,es,ep,e,c⟩:=x;exact⟨z,y,xs,Paired.wJ r λp q z=>⟨z.1,ht _ _ z.2.1,z.2.2⟩,ob,es,ep,k _ _ (.inl rfl) e,c⟩
 |set S n=>obtain⟨ob,es,ep,t,e,c⟩:=x;exact⟨ob,es,ep,t,k _ _ (.inl rfl) e,c⟩
 |ins C dx fs=>
  obtain⟨d,z,ne,e,mA,⟨od,es,ep,e2,c⟩,r⟩:=x;exact⟨ho _ d,z,ne,k _ _ (.inl rfl) e,mA,⟨od,es,ep,k _ _ (.inr d) e2,c⟩,r⟩
 |own y=>obtain⟨ob,e⟩:=x;exact⟨ob,k _ _ (.inl rfl) e⟩
 |xd fs=>obtain⟨mA,⟨od,es,ep,e,c⟩,r⟩:=x;exact⟨mA,⟨od,es,ep,k _ _ (.inl rfl) e,c⟩,r⟩
 |rng lo hi=>obtain⟨t,u,v,e⟩:=x;exact⟨t,u,v,k _ _ (.inl rfl) e⟩
 |frz ob u ih=>obtain⟨e,q⟩:=x;exact⟨k _ _ (.inl rfl) e,ih q⟩
 |tbl w ps=>
  have e:h.get? a=aa { cls:=.none,data:=.fields ps }:=x;show h'.get? a=aa { cls:=.none,data:=.fields ps };exact k a _ (.inl rfl) e
 |met f y=>
  have e:h.get? a=aa (zG (.ref f) (.ref y)):=x;show h'.get? a=aa (zG (.ref f) (.ref y));exact k a _ (.inl rfl) e
 |ext φ=>obtain⟨p,⟨o,e⟩,st⟩:=x;exact⟨st _ _ p λo q=>k _ _ (.inl rfl) q,⟨o,k _ _ (.inl rfl) e⟩,st⟩
theorem cJ.lt(x:cJ P w H h)(e:H a=aa o):a<h.objs.size:=(x a o e).lt
theorem cJ.fresh(x:cJ P w H h)(e:h.objs.size<=a):H a=ac:=by
 cases q:H a with
 |none=>rfl
 |some u=>exact absurd (fR (x.lt q) e) (i6 _)
theorem cJ.kept(x:cJ P w H h)(k:∀b u,h.get? b=aa u->h'.get? b=aa u):cJ P w H h':=λa o e=>
 (x a o e).stay (λb u _ q=>k b u q) (λ_ q=>q) λ_ _ q=>q
theorem cJ.laid(x:cJ P w H h)(k:∀b u,h.get? b=aa u->h'.get? b=aa u)(hp:h.objs.size<=a)(new:bW P w (upd H a o) h' a o):cJ P w (upd H a o) h':=λb u e=>by
 have hn:=x.fresh hp;by_cases hb:b=a
 ·subst hb;rw[bu]at e;cases e;exact new
 ·rw[aG hb]at e;exact(x b u e).stay (λc v _ q=>k c v q) (λc q=>by rw[aG (cE q hn)];exact q) λc xs q=>by rw[aG (cE q hn)];exact q
end
def Rd(H:Hp)(a:af)(u:HO):Prop:=H a=aa u\/∃o,H a=aa (.frz o u)
theorem Rd.ok{P:bh}{w:a6}{H:Hp}{h:aJ}{a:af}{u:HO}(r:Rd H a u)(x:cJ P w H h):bW P w H h a u:=by
 rcases r with r|⟨o,r⟩
 ·exact x a u r
 ·obtain⟨_,q⟩:=x a _ r;exact q
def rn:Option HO->Prop
 |some (.lst _)=>True
 |some (.dK _)=>True
 |some (.dT _)=>True
 |some (.set _ _)=>True
 |some (.ins _ _ _)=>True
 |some (.ext _)=>True
 |_=>False
section
variable{P:bh}{w:a6}{H:Hp}{h h':aJ}{x e:af}{o':HO}
theorem cJ.write(ok:cJ P w H h)(mu:rn (H x))(he:e=x\/H e=aa (.own x))(k:∀b u,b≠e->h.get? b=aa u->h'.get? b=aa u)(heo:∃u,h'.get? e=aa u)
 (new:bW P w (upd H x o') h' x o'):cJ P w (upd H x o') h':=λb u q=>by
 have HV:∀c y,H c=aa (.own y)->c≠x:=λc y r z=>by subst z;rw[r]at mu;exact mu
 have PN:∀c xs,H c=aa (.tup xs)->c≠x:=λc xs r z=>by subst z;rw[r]at mu;exact mu
 by_cases hb:b=x
 ·subst hb;rw[bu]at q;cases q;exact new
 ·rw[aG hb]at q;by_cases hbe:b=e
  ·have q':H b=aa (.own x):=by
    rcases he with z|z
    ·exact absurd (hbe.trans z) hb
    ·rw[hbe];exact z
   rw[q]at q';cases q';obtain⟨v,hv⟩:=heo;exact⟨v,by rw[hbe];exact hv⟩
  ·refine(ok b u q).stay (λc v hc r=>k c v ?_ r) (λc r=>by rw[aG (HV c b r)];exact r) λc xs r=>by rw[aG (PN c xs r)];exact r
   rcases hc with rfl|hc
   ·exact hbe
   ·rintro rfl;rcases he with z|z
    ·exact HV c b hc z
    ·rw[hc]at z;cases z;exact hb rfl
end
structure Un(fs ex:List af)(H H':Hp)(h h':aJ):Prop where
 keep:∀b o,h.get? b=aa o->H b=ac->b∉fs->b∉ex->h'.get? b=aa o
 slot:∀b o,h.get? b=aa o->H b=ac->b∈fs->b∉ex->∃sl,h'.get? b=aa { o with slots:=sl }
 free:∀b o,h.get? b=aa o->H b=ac->b∉ex->H' b=ac
 there:∀b o,h.get? b=aa o->b∉ex->∃o',h'.get? b=aa o'
 tups:∀b xs,H b=aa (.tup xs)->H' b=aa (.tup xs)
 kY:∀b o u,H b=aa (.frz o u)->H' b=aa (.frz o u)
 ke:∀b w ps,H b=aa (.tbl w ps)->∃more,H' b=aa (.tbl w (ps++more))
section
variable{fs fs' ex ex':List af}{H H1 H2:Hp}{h h1 h2 h':aJ}{a x e:af}{o:HO}
theorem Un.any(u:Un fs ex H H1 h h1){b:af}{ob:Obj}(q:h.get? b=aa ob)(n:H b=ac)(hx:b∉ex):∃sl,h1.get? b=aa { ob with slots:=sl }:=by
 by_cases hb:b∈fs
 ·exact u.slot b ob q n hb hx
 ·exact⟨ob.slots,u.keep b ob q n hb hx⟩
theorem Un.kept(k:∀b u,h.get? b=aa u->h'.get? b=aa u):Un fs ex H H h h':=⟨λb ob q _ _ _=>k b ob q,λb ob q _ _ _=>⟨ob.slots,k b ob q⟩,λ_ _ _ n _=>n,λb ob q _=>⟨ob,k b ob q⟩,λ_ _ q=>q,λ_ _ _ q=>q,λ_ w ps q=>⟨#[],by rw[q];simp⟩⟩
theorem Un.refl:Un fs ex H H h h:=Un.kept λ_ _ q=>q
theorem Un.laid(k:∀b u,h.get? b=aa u->h'.get? b=aa u)(hp:h.objs.size<=a)(hn:H a=ac):Un fs ex H (upd H a o) h h' where
 keep:=λb u q _ _ _=>k b u q
 slot:=λb u q _ _ _=>⟨u.slots,k b u q⟩
 free:=λb u q n _=>by rw[aG (fi (fR (bS q) hp))];exact n
 there:=λb u q _=>⟨u,k b u q⟩
 tups:=λb xs q=>by rw[aG (cE q hn)];exact q
 kY:=λb u xs q=>by rw[aG (cE q hn)];exact q
 ke:=λb w ps q=>⟨#[],by rw[aG (cE q hn),q];simp⟩
theorem Un.write(mu:rn (H x))(he:e=x\/H e=aa (.own x))(k:∀b u,b≠e->h.get? b=aa u->h'.get? b=aa u)(heo:∃u,h'.get? e=aa u):Un fs ex H (upd H x o) h h':=by
 have hx:∀b,H b=ac->b≠x:=λb n z=>by subst z;rw[n]at mu;exact mu
 have hb:∀b,H b=ac->b≠e:=λb n z=>by
  subst z;rcases he with r|r
  ·exact hx b n r
  ·rw[n]at r;cases r
 have hm:∀b u,H b=aa u->¬ rn (aa u)->b≠x:=λb u q nm z=>by subst z;rw[q]at mu;exact nm mu
 refine⟨λb u q n _ _=>k b u (hb b n) q,λb u q n _ _=>⟨u.slots,k b u (hb b n) q⟩,λb u q n _=>by rw[aG (hx b n)];exact n,λb u q _=>?_,
  λb xs q=>by rw[aG (hm b _ q λz=>z)];exact q,λb u xs q=>by rw[aG (hm b _ q λz=>z)];exact q,λb w ps q=>⟨#[],by rw[aG (hm b _ q λz=>z),q];simp⟩⟩
 by_cases hbe:b=e
 ·subst hbe;exact heo
 ·exact⟨u,k b u hbe q⟩
end
def vc(h:aJ)(H:Hp):List af:=(bT h.objs.size).filter λa=>(H a).isSome
def jY(h:aJ)(H:Hp):aJ:=PySem.W.hideAll h (vc h H)
theorem L8(h:aJ)(H:Hp):(jY h H).objs.size=h.objs.size:=PySem.W.hideAll_size _ _
theorem L3{h:aJ}{H:Hp}{b:af}{o:Obj}(e:h.get? b=aa o)(n:H b=ac):(jY h H).get? b=aa o:=
 PySem.W.hideAll_get _ e λhm=>by
  have q:(H b).isSome=true:=(dL.mp hm).2;rw[n]at q;simp at q
theorem Oz{h:aJ}{H:Hp}{b:af}{o:Obj}(e:(jY h H).get? b=aa o):h.get? b=aa o/\H b=ac:=by
 have e':h.get? b=aa o:=PySem.W.of_hideAll (vc h H) e;refine⟨e',?_⟩;cases q:H b with
 |none=>rfl
 |some x=>
  have hm:b∈vc h H:=dL.mpr ⟨f8.mpr (bS e'),by simp[q]⟩;have z:(jY h H).get? b=ac:=PySem.W.hideAll_none (vc h H) hm;rw[z]at e;cases e
structure Mod(K:aD)(mg:Str->Option ag)(base:aJ):Prop where
 kin:K.In base
 glob:base.Ns mainGlobals mg
 blt:∃mb,base.Ns builtinsNs mb/\∀x:Str,x ≠ "__name__" -> mb x=bootBuiltins x
 nolimit:base.NoLimit
structure Cx where
 prog:bh
 w:a6
 K:aD
 mg:Str->Option ag
 base:aJ
 A:bx
 N:List Str
 s₀:ao
 H₀:Hp
 env:Env
 outer:List Env
 stack:List Env
 ex:List af
 fn:Str->Bool
 calm:Bool
 pn:List (af×Obj)
 xe:ag->ao->Prop
def frs(l:List Env):List af:=l.filterMap (·.frame)
abbrev Cx.fs(X:Cx):List af:=frs X.outer
def pq(sc:dB)(x:Str):Prop:=sc.names.lookup x=aa .local\/sc.names.lookup x=aa .cell\/sc.names.lookup x=aa .free
def Loc(sc:dB)(x:Str):Prop:=sc.names.lookup x=aa .local\/sc.names.lookup x=aa .cell
def Look(env:Env)(h:aJ)(m:Str->Option ag)(x:Str)(u:ag):Prop:=(env.kindOf x=aa .local/\m x=aa u)\/((env.kindOf x=aa .cell\/env.kindOf x=aa .free)/\∃c,env.cells.lookup x=aa c/\h.IsCell c (aa u))
structure Cx.Ok(X:Cx):Prop where
 mod:Mod X.K X.mg X.base
 kind:X.env.scope.kind=.function
 glob:X.env.globals=mainGlobals
 blt:X.env.builtins=builtinsNs
 above:X.s₀.heap.objs.size<=X.env.locals
 inj:∀x y c,X.env.cells.lookup x=aa c->X.env.cells.lookup y=aa c->x=y
 has:∀x,(X.env.kindOf x=aa .cell\/X.env.kindOf x=aa .free)->∃c,X.env.cells.lookup x=aa c
 cab:∀x c,X.fn x=true->X.env.cells.lookup x=aa c->X.s₀.heap.objs.size<=c
 hd:X.calm=true->X.A.handled=ac
 frames:X.A.frames=aa X.stack
 stk:X.stack=X.outer\/(X.stack=X.env::X.outer/\X.env.frame=aa X.env.locals)
 exf:∀b∈X.ex,b≠X.env.locals/\∀x c,X.env.cells.lookup x=aa c->c≠b
 bs:∀b o,X.base.get? b=aa o->X.s₀.heap.get? b=aa o/\X.H₀ b=ac
 bsz:X.base.objs.size<=X.s₀.heap.objs.size
 tI:∀b o,X.base.get? b=aa o->b∉X.ex
 wt:∀b∈X.ex,b∉X.fs
 i4:X.s₀.heap.FunFrames X.base X.outer
 frf:∀b∈X.fs,X.H₀ b=ac
structure Inv(X:Cx)(ae:List (af×Obj))(σ:List (Option V))(H:Hp)(s:ao):Prop where
 ok:X.Ok
 os:s.os=X.s₀.os
 bare:mW s.gens
 base:Un X.fs X.ex X.H₀ H X.s₀.heap s.heap
 loc:∃m,s.heap.Ns X.env.locals m/\∀(i:Nat) (x:Str) (v:V),X.N[i]? = aa x->σ[i]? = aa (aa v)->pq X.env.scope x->∃u,RelV v u/\Look X.env s.heap m x u
 cell:∀x c,X.env.cells.lookup x=aa c->∃v,s.heap.IsCell c v
 free:H X.env.locals=ac
 ja:∀x c,X.env.cells.lookup x=aa c->H c=ac
 pin:∀p∈X.pn++ae,s.heap.get? p.1=aa p.2/\H p.1=ac/\p.1≠X.env.locals/\p.1∉X.fs/\∀v,p.2.data≠.cell v
 hok:cJ X.prog X.w H s.heap
 len:σ.length=X.N.length
section
variable{X:Cx}{ae:List (af×Obj)}{σ:List (Option V)}{H H':Hp}{s:ao}{h':aJ}
theorem Cx.Ok.Oi(ok:X.Ok){b:af}{o:Obj}(e:X.base.get? b=aa o):b∉X.fs:=λhb=>by
 have:=(ok.i4.mem hb).1;rw[e]at this;cases this
theorem Inv.bs(I:Inv X ae σ H s):∀b o,X.base.get? b=aa o->s.heap.get? b=aa o/\H b=ac:=λb o e=>
 ⟨I.base.keep b o (I.ok.bs b o e).1 (I.ok.bs b o e).2 (I.ok.Oi e) (I.ok.tI b o e),I.base.free b o (I.ok.bs b o e).1 (I.ok.bs b o e).2 (I.ok.tI b o e)⟩
theorem Inv.bk(I:Inv X ae σ H s):∀b o,X.base.get? b=aa o->s.heap.get? b=aa o:=λb o e=>(I.bs b o e).1
theorem Inv.mod(I:Inv X ae σ H s):Mod X.K X.mg X.base:=I.ok.mod
theorem Inv.ff(I:Inv X ae σ H s):X.K.In s.heap:=I.ok.mod.kin.keeps I.bk
theorem Inv.nolimit(I:Inv X ae σ H s):s.heap.NoLimit:=I.ok.mod.nolimit.keeps I.bk
theorem Inv.lt(I:Inv X ae σ H s):X.env.locals<s.heap.objs.size:=let ⟨_,hn,_⟩:=I.loc;hn.lt
theorem Inv.sz(I:Inv X ae σ H s):X.s₀.heap.objs.size<=s.heap.objs.size:=dR I.ok.above (vV I.lt)
theorem Inv.M5(I:Inv X ae σ H s){a:af}(h:s.heap.objs.size<=a):a∉X.fs:=λhb=>by
 obtain⟨_,o,ho,_⟩:=I.ok.i4.mem hb;exact absurd (fR (bS ho) (dR I.sz h)) (i6 _)
theorem Inv.lW(I:Inv X ae σ H s):∀x c,X.env.cells.lookup x=aa c->c≠X.env.locals:=λx c e z=>by
 obtain⟨v,o,ho,hd⟩:=I.cell x c e;obtain⟨m,⟨o',es,ep,ho',hd',_⟩,_⟩:=I.loc;rw[z,ho']at ho;cases ho;rw[hd']at hd;cases hd
theorem Inv.i4(I:Inv X ae σ H s):s.heap.FunFrames X.base X.outer:=by
 have all:∀(l:List Env),(∀b∈frs l,b∈X.fs)->X.s₀.heap.FunFrames X.base l->s.heap.FunFrames X.base l:=by
  intro l
  induction l with
  |nil=>intro _ _;trivial
  |cons env r ih=>
   intro hs hl;obtain⟨hk,⟨L,o,hf,hn,ho,hd⟩,hr⟩:=hl;have hL:L∈X.fs:=hs L (by unfold frs;rw[zv,hf];exact bP);obtain⟨sl,e⟩:=I.base.slot L o ho (I.ok.frf L hL) hL λz=>I.ok.wt L z hL;exact⟨hk,⟨L,_,hf,hn,e,hd⟩,ih (λb hb=>hs b (by unfold frs;rw[zv,hf];exact cy _ hb)) hr⟩
 exact all X.outer (λ_ hb=>hb) I.ok.i4
theorem Inv.stack(I:Inv X ae σ H s):s.heap.FunFrames X.base X.stack:=by
 rcases I.ok.stk with e|⟨e,hf⟩
 ·rw[e];exact I.i4
 ·rw[e];obtain⟨m,hn,_⟩:=I.loc;refine .cons (by rw[I.ok.kind];decide) hf hn ?_ I.i4;exact Heap.get?_none_of_le (dR I.ok.bsz I.ok.above)
theorem Inv.pO(I:Inv X ae σ H s):∀b∈frs X.stack,b∈X.env.locals::X.fs:=λb hb=>by
 rcases I.ok.stk with e|⟨e,hf⟩
 ·rw[e]at hb;exact cy _ hb
 ·rw[e]at hb;unfold frs at hb;rw[zv,hf]at hb;exact hb
theorem Inv.yD(I:Inv X ae σ H s):∀b∈frs X.stack,H b=ac:=λb hb=>by
 rcases br.mp (I.pO b hb)with e|hb
 ·rw[e];exact I.free
 ·obtain⟨_,o,ho,_⟩:=I.ok.i4.mem hb;exact I.base.free b o ho (I.ok.frf b hb) λz=>I.ok.wt b z hb
theorem Inv.step{g':Array GenState}{t':Nat}{d':Drawn}{ch:List af}(I:Inv X ae σ H s)
 (hch:∀b∈ch,(b∈X.ex\/X.s₀.heap.objs.size<=b)/\b≠X.env.locals/\(∀x c,X.env.cells.lookup x=aa c->c≠b)/\∀p∈X.pn++ae,p.1≠b)
 (keep:∀b o,b≠X.env.locals->b∉X.fs->b∉ch->s.heap.get? b=aa o->H b=ac->h'.get? b=aa o)
 (slot:∀b o,b≠X.env.locals->b∈X.fs->b∉ch->s.heap.get? b=aa o->H b=ac->∃sl,h'.get? b=aa { o with slots:=sl }) (free:∀b o,b∉ch->s.heap.get? b=aa o->H b=ac->H' b=ac)
 (there:∀b o,b∉ch->s.heap.get? b=aa o->∃o',h'.get? b=aa o')
 (tups:∀b xs,H b=aa (.tup xs)->H' b=aa (.tup xs)) (kY:∀b o u,H b=aa (.frz o u)->H' b=aa (.frz o u)) (ke:∀b w ps,H b=aa (.tbl w ps)->∃more,H' b=aa (.tbl w (ps++more)))
 (ns:∀m,s.heap.Ns X.env.locals m->h'.Ns X.env.locals m) (hok:cJ X.prog X.w H' h') (hg:mW g') :
 Inv X ae σ H' { s with heap:=h',gens:=g',drawn:=d',toks:=t' }:=by
 have neL:∀b o,X.s₀.heap.get? b=aa o->b≠X.env.locals:=λb o e=>fi (fR (bS e) I.ok.above);have neC:∀b o,X.s₀.heap.get? b=aa o->b∉X.ex->b∉ch:=λb o e hx hb=>by
  rcases(hch b hb).1 with z|z
  ·exact hx z
  ·exact absurd (fR (bS e) z) (i6 _)
 have cellK:∀x c,X.env.cells.lookup x=aa c->∀v,s.heap.IsCell c v->h'.IsCell c v:=λx c e v ⟨o,ho,hd⟩=>by
  have nch:c∉ch:=λz=>(hch c z).2.2.1 x c e rfl;by_cases hc:c∈X.fs
  ·obtain⟨sl,q⟩:=slot c o (I.lW x c e) hc nch ho (I.ja x c e);exact⟨_,q,hd⟩
  ·exact⟨o,keep c o (I.lW x c e) hc nch ho (I.ja x c e),hd⟩
 refine⟨I.ok,I.os,hg,⟨λb o e n hb hx=>?_,λb o e n hb hx=>?_,λb o e n hx=>?_,λb o e hx=>?_,λb xs e=>tups b xs (I.base.tups b xs e),λb o xs e=>kY b o xs (I.base.kY b o xs e),λb w ps e=>?_⟩,?_,λx c e=>?_,?_,λx c e=>?_,λp hp=>?_,hok,I.len⟩
 ·exact keep b o (neL b o e) hb (neC b o e hx) (I.base.keep b o e n hb hx) (I.base.free b o e n hx)
 ·obtain⟨sl,e1⟩:=I.base.slot b o e n hb hx;obtain⟨sl',e2⟩:=slot b _ (neL b o e) hb (neC b o e hx) e1 (I.base.free b o e n hx);exact⟨sl',e2⟩
 ·obtain⟨o',e1⟩:=I.base.there b o e hx;exact free b o' (neC b o e hx) e1 (I.base.free b o e n hx)
 ·obtain⟨o',e1⟩:=I.base.there b o e hx;exact there b o' (neC b o e hx) e1
 ·obtain⟨m1,e1⟩:=I.base.ke b w ps e;obtain⟨m2,e2⟩:=ke b w _ e1;exact⟨m1++m2,by rw[e2,Array.append_assoc]⟩
 ·obtain⟨m,hn,hl⟩:=I.loc;refine⟨m,ns m hn,λi x v e1 e2 e3=>?_⟩;obtain⟨u,r,l⟩:=hl i x v e1 e2 e3;refine⟨u,r,?_⟩;rcases l with l|⟨k,c,e,z⟩
  ·exact .inl l
  ·exact .inr ⟨k,c,e,cellK x c e _ z⟩
 ·obtain⟨v,z⟩:=I.cell x c e;exact⟨v,cellK x c e v z⟩
 ·obtain⟨m,⟨o,_,_,ho,_⟩,_⟩:=I.loc;exact free _ o (λz=>(hch _ z).2.1 rfl) ho I.free
 ·obtain⟨v,o,ho,hd⟩:=I.cell x c e;exact free c o (λz=>(hch c z).2.2.1 x c e rfl) ho (I.ja x c e)
 ·obtain⟨e,n,ne,nf,d⟩:=I.pin p hp;have nch:p.1∉ch:=λz=>(hch p.1 z).2.2.2 p hp rfl;exact⟨keep p.1 p.2 ne nf nch e n,free p.1 p.2 nch e n,ne,nf,d⟩
theorem Inv.un{t':Nat}(I:Inv X ae σ H s)(u:Un X.fs [] H H' s.heap h')(hok:cJ X.prog X.w H' h'):Inv X ae σ H' { s with heap:=h',toks:=t' }:=by
 obtain⟨m,⟨o,es,ep,ho,r⟩,_⟩:=id I.loc;obtain⟨sl,hL⟩:=u.any ho I.free (by simp);exact I.step (g':=s.gens) (d':=s.drawn) (ch:=[]) (λ_ z=>nomatch z) (λb o _ hb _ e n=>u.keep b o e n hb (by simp)) (λb o _ hb _ e n=>u.slot b o e n hb (by simp)) (λb o _ e n=>u.free b o e n (by simp)) (λb o _ e=>u.there b o e (by simp)) u.tups u.kY u.ke (λm' hm=>by
  obtain⟨o',es',ep',ho',r'⟩:=hm;rw[ho]at ho';cases ho';exact⟨_,es',ep',hL,r'⟩) hok I.bare
theorem Inv.call{g':Array GenState}{t':Nat}{d':Drawn}{ch:List af}(I:Inv X ae σ H s)(u:Un (frs X.stack) ch H H' s.heap h')(hok:cJ X.prog X.w H' h')(hg:mW g')
 (hch:∀b∈ch,(b∈X.ex\/X.s₀.heap.objs.size<=b)/\b≠X.env.locals/\(∀x c,X.env.cells.lookup x=aa c->c≠b)/\∀p∈X.pn++ae,p.1≠b) :
 Inv X ae σ H' { s with heap:=h',gens:=g',drawn:=d',toks:=t' }:=by
 obtain⟨m,⟨o,es,ep,ho,r⟩,_⟩:=id I.loc;obtain⟨sl,hL⟩:=u.any ho I.free λz=>(hch _ z).2.1 rfl;exact I.step (ch:=ch) hch (λb o hL hb hc e n=>u.keep b o e n (λz=>(br.mp (I.pO b z)).elim hL hb) hc) (λb o _ _ hc e n=>u.any e n hc) (λb o hc e n=>u.free b o e n hc) (λb o hc e=>u.there b o e hc) u.tups u.kY u.ke (λm' hm=>by
  obtain⟨o',es',ep',ho',r'⟩:=hm;rw[ho]at ho';cases ho';exact⟨_,es',ep',hL,r'⟩) hok hg
theorem Inv.turned{t':Nat}{it:af}(I:Inv X ae σ H s)(k:∀b o,b≠it->s.heap.get? b=aa o->h'.get? b=aa o)(hn:H it=ac)(hL:it≠X.env.locals)
 (h1:it∈X.ex\/X.s₀.heap.objs.size<=it) (h2:∀x c,X.env.cells.lookup x=aa c->c≠it) (h3:∀p∈X.pn++ae,p.1≠it):Inv X ae σ H { s with heap:=h',toks:=t' }:=by
 have nit:∀b u,H b=aa u->b≠it:=λb u e z=>by rw[z,hn]at e;cases e
 refine I.step (g':=s.gens) (d':=s.drawn) (ch:=[it]) (λb hb=>?_) (λb o _ _ hc e _=>k b o (λz=>hc (by simp[z])) e) (λb o _ _ hc e _=>⟨o.slots,k b o (λz=>hc (by simp[z])) e⟩) (λ_ _ _ _ n=>n)
  (λb o hc e=>⟨o,k b o (λz=>hc (by simp[z])) e⟩) (λ_ _ e=>e) (λ_ _ _ e=>e) (λb w ps e=>⟨#[],by rw[e];simp⟩) (λm hm=>?_) (λb u e=>?_) I.bare
 ·have e:b=it:=by simpa using hb
  subst e;exact⟨h1,hL,h2,h3⟩
 ·obtain⟨o,es,ep,ho,r⟩:=hm;exact⟨o,es,ep,k _ o (d8 hL) ho,r⟩
 ·refine(I.hok b u e).stay (λc v hc q=>k c v ?_ q) (λ_ q=>q) λ_ _ q=>q;rcases hc with z|z
  ·rw[z];exact nit b u e
  ·exact nit c _ z
theorem Inv.tok(I:Inv X ae σ H s)(t:Nat):Inv X ae σ H { s with toks:=t }:=I.un (h':=s.heap) (t':=t) Un.refl I.hok
theorem Inv.kept{t':Nat}(I:Inv X ae σ H s)(k:∀b u,s.heap.get? b=aa u->h'.get? b=aa u):Inv X ae σ H { s with heap:=h',toks:=t' }:=I.un (Un.kept k) (I.hok.kept k)
theorem Inv.laid{a:af}{o:HO}{t':Nat}(I:Inv X ae σ H s)(k:∀b u,s.heap.get? b=aa u->h'.get? b=aa u)(hp:s.heap.objs.size<=a)(new:bW X.prog X.w (upd H a o) h' a o) :
 Inv X ae σ (upd H a o) { s with heap:=h',toks:=t' }:=I.un (Un.laid k hp (I.hok.fresh hp)) (I.hok.laid k hp new)
theorem Inv.write{x e:af}{o:HO}{t':Nat}(I:Inv X ae σ H s)(mu:rn (H x))(he:e=x\/H e=aa (.own x))(k:∀b u,b≠e->s.heap.get? b=aa u->h'.get? b=aa u)(heo:∃u,h'.get? e=aa u)
 (new:bW X.prog X.w (upd H x o) h' x o):Inv X ae σ (upd H x o) { s with heap:=h',toks:=t' }:=I.un (Un.write mu he k heo) (I.hok.write mu he k heo new)
theorem Inv.weak{σ':List (Option V)}(I:Inv X ae σ H s)(hl:σ'.length = σ.length)(w:∀(i:Nat) v,σ'[i]? = aa (aa v)->σ[i]? = aa (aa v)):Inv X ae σ' H s:=⟨I.ok,I.os,I.bare,I.base,let ⟨m,hn,hl'⟩:=I.loc;⟨m,hn,λi x v e1 e2 e3=>hl' i x v e1 (w i v e2) e3⟩,I.cell,I.free,I.ja,I.pin,I.hok,hl.trans I.len⟩
theorem Inv.yC{qx:List (af×Obj)}(I:Inv X ae σ H s)(h:∀p∈qx,s.heap.get? p.1=aa p.2/\H p.1=ac/\p.1≠X.env.locals/\p.1∉X.fs/\∀v,p.2.data≠.cell v):Inv X qx σ H s:=⟨I.ok,I.os,I.bare,I.base,I.loc,I.cell,I.free,I.ja,λp hp=>(dA.mp hp).elim (λz=>I.pin p (eB _ z)) (h p),I.hok,I.len⟩
theorem De{N:List Str}(hN:N.Nodup){i j:Nat}{x:Str}(a:N[i]? = aa x)(b:N[j]? = aa x):i=j:=by obtain⟨h1,e1⟩:=ca.mp a;obtain⟨h2,e2⟩:=ca.mp b;exact(lI hN).mp (e1.trans e2.symm)
theorem Gr{M:Model}{A:bx}{E:ag->ao->Prop}{i:Nat}{x:Str}{v:V}{u:ag}{Q:Unit->ao->Prop}(I:Inv X ae σ H s)(hN:X.N.Nodup)(hi:X.N[i]? = aa x)(hx:Loc X.env.scope x)(r:RelV v u)
 (h:∀s',Inv X ae (σ.set i (aa v)) H s'->(∃a,mT a s.heap s'.heap/\(a=X.env.locals\/X.env.cells.lookup x=aa a))->Q () s') (hf:X.fn x=true\/X.env.scope.names.lookup x=aa .local:=by first|exact .inl rfl|exact .inr rfl|assumption):wpAny M A (storeName X.env x u) Q E s:=by
 obtain⟨m,hn,hl⟩:=id I.loc;have hcls:(X.env.scope.kind==.class||(X.env.scope.kind==.module&&X.env.locals != X.env.globals))=false:=by rw[I.ok.kind];rfl
 have hiσ:i < σ.length:=by rw[I.len];exact(ca.mp hi).1
 have lW:=I.lW;have tracked:∀{a:af} {h':aJ},(∃o,s.heap.get? a=aa o/\H a=ac)->mT a s.heap h'->cJ X.prog X.w H h':=λ{a h'} ha hs b ob e=>by
  obtain⟨_,_,hfree⟩:=ha;refine(I.hok b ob e).stay (λc w' hc q=>(hs.2 c ?_).trans q) (λ_ q=>q) λ_ _ q=>q;rintro rfl;rcases hc with rfl|hc
  ·rw[hfree]at e;cases e
  ·rw[hfree]at hc;cases hc
 rcases hx with hk|hk
 ·refine wpAny_storeName_local hk hn (λh' hn' hs=>?_) hcls;obtain⟨oL,_,_,hoL,_⟩:=id hn;refine h _ ⟨I.ok,I.os,I.bare,⟨λb o e n hb hx=>?_,λb o e n hb hx=>?_,I.base.free,λb o e hx=>?_,I.base.tups,I.base.kY,I.base.ke⟩,⟨_,hn',λj y v' e1 e2 e3=>?_⟩,λy c e=>?_,I.free,I.ja,λp hp=>?_,tracked ⟨oL,hoL,I.free⟩ hs,by simpa using I.len⟩ ⟨_,hs,.inl rfl⟩
  ·exact(hs.2 b (fi (fR (bS e) I.ok.above))).trans (I.base.keep b o e n hb hx)
  ·obtain⟨sl,e1⟩:=I.base.slot b o e n hb hx;exact⟨sl,(hs.2 b (fi (fR (bS e) I.ok.above))).trans e1⟩
  ·obtain⟨o',e1⟩:=I.base.there b o e hx;exact⟨o',(hs.2 b (fi (fR (bS e) I.ok.above))).trans e1⟩
  ·by_cases hj:j=i
   ·subst hj;rw[hi]at e1;cases e1;rw[mJ hiσ]at e2;cases e2;exact⟨u,r,.inl ⟨hk,by simp⟩⟩
   ·rw[fh (d8 hj)]at e2;obtain⟨u',r',q⟩:=hl j y v' e1 e2 e3;refine⟨u',r',?_⟩;rcases q with ⟨k,e⟩|⟨k,c,e,z⟩
    ·refine .inl ⟨k,?_⟩;have:y≠x:=λe=>hj (De hN e1 (e ▸ hi));simp[this,e]
    ·exact .inr ⟨k,c,e,z.sameBut hs (lW y c e)⟩
  ·obtain⟨w',z⟩:=I.cell y c e;exact⟨w',z.sameBut hs (lW y c e)⟩
  ·obtain⟨e,n,ne,nf,d⟩:=I.pin p hp;exact⟨(hs.2 p.1 ne).trans e,n,ne,nf,d⟩
 ·have hfn:X.fn x=true:=by
   rcases hf with z|z
   ·exact z
   ·rw[z]at hk;cases hk
  obtain⟨c,hc⟩:=I.ok.has x (.inl hk);obtain⟨w',z⟩:=I.cell x c hc;refine wpAny_storeName_cell I.ok.kind hk hc z (λh' hc' hs=>?_);obtain⟨oc,hoc,PQ⟩:=id z;refine h { s with heap:=h' } ⟨I.ok,I.os,I.bare,⟨λb o e n hb hx=>?_,λb o e n hb hx=>?_,I.base.free,λb o e hx=>?_,I.base.tups,I.base.kY,I.base.ke⟩,⟨m,hn.sameBut hs (d8 (lW x c hc)),λj y v' e1 e2 e3=>?_⟩,λy c' e=>?_,I.free,I.ja,λp hp=>?_,tracked ⟨oc,hoc,I.ja x c hc⟩ hs,by simpa using I.len⟩ ⟨c,hs,.inr hc⟩
  ·exact(hs.2 b (fi (fR (bS e) (I.ok.cab x c hfn hc)))).trans (I.base.keep b o e n hb hx)
  ·obtain⟨sl,e1⟩:=I.base.slot b o e n hb hx;exact⟨sl,(hs.2 b (fi (fR (bS e) (I.ok.cab x c hfn hc)))).trans e1⟩
  ·obtain⟨o',e1⟩:=I.base.there b o e hx;exact⟨o',(hs.2 b (fi (fR (bS e) (I.ok.cab x c hfn hc)))).trans e1⟩
  ·by_cases hj:j=i
   ·subst hj;rw[hi]at e1;cases e1;rw[mJ hiσ]at e2;cases e2;exact⟨u,r,.inr ⟨.inl hk,c,hc,hc'⟩⟩
   ·rw[fh (d8 hj)]at e2;obtain⟨u',r',q⟩:=hl j y v' e1 e2 e3;refine⟨u',r',?_⟩;rcases q with q|⟨k,c',e,z'⟩
    ·exact .inl q
    ·refine .inr ⟨k,c',e,z'.sameBut hs ?_⟩;rintro rfl;exact hj (De hN e1 (I.ok.inj _ _ _ e hc ▸ hi))
  ·by_cases hcc:c'=c
   ·subst hcc;exact⟨_,hc'⟩
   ·obtain⟨w2,z2⟩:=I.cell y c' e;exact⟨w2,z2.sameBut hs hcc⟩
  ·obtain⟨e,n,ne,nf,d⟩:=I.pin p hp;refine⟨(hs.2 p.1 ?_).trans e,n,ne,nf,d⟩;intro q;rw[q,hoc]at e;have q':oc=p.2:=fj e;exact d w' (by rw[<- q'];exact PQ)
theorem Fq{M:Model}{A:bx}{E:ag->ao->Prop}{i:Nat}{x:Str}{v:V}{u:ag}{Q:Unit->ao->Prop}(I:Inv X ae σ H s)(hN:X.N.Nodup)(hi:X.N[i]? = aa x)(hx:Loc X.env.scope x)(r:RelV v u)
 (h:∀s',Inv X ae (σ.set i (aa v)) H s'->Q () s') (hf:X.fn x=true\/X.env.scope.names.lookup x=aa .local:=by first|exact .inl rfl|exact .inr rfl|assumption):wpAny M A (storeName X.env x u) Q E s:=
 Gr I hN hi hx r (λs' I' _=>h s' I') hf
theorem Inv.call'{s':ao}{ch:List af}(I:Inv X ae σ H s)(ho:s'.os=s.os)(u:Un (frs X.stack) ch H H' s.heap s'.heap)(hok:cJ X.prog X.w H' s'.heap)(hg:mW s'.gens)
 (hch:∀b∈ch,(b∈X.ex\/X.s₀.heap.objs.size<=b)/\b≠X.env.locals/\(∀x c,X.env.cells.lookup x=aa c->c≠b)/\∀p∈X.pn++ae,p.1≠b):Inv X ae σ H' s':=by
 obtain⟨h',g',d',t',o'⟩:=s';have e:o'=s.os:=ho;subst e;exact I.call (g':=g') (t':=t') (d':=d') u hok hg hch
end
abbrev XK:=ag->Option af->Hp->Prop
abbrev St:=List (Option V)
abbrev VK:=V->Hp->Prop
abbrev TE:=St->Hp->VK->Prop
abbrev TT:=St->Hp->(Bool->Hp->Prop)->Prop
abbrev TA:=St->Hp->(List V->Hp->Prop)->Prop
structure Ends where
 nx:St->Hp->Prop
 rt:VK
 bk:St->Hp->Prop:=λ_ _=>False
 ct:St->Hp->Prop:=λ_ _=>False
abbrev TS:=Ends->St->Hp->Prop
def EP(X:Cx)(ae:List (af×Obj))(σ:St)(Q:VK)(u:ag)(s':ao):Prop:=∃v H',Inv X ae σ H' s'/\RelV v u/\Q v H'
def TP(X:Cx)(ae:List (af×Obj))(σ:St)(Q:Bool->Hp->Prop)(b:Bool)(s':ao):Prop:=∃H',Inv X ae σ H' s'/\Q b H'
def AP(X:Cx)(ae:List (af×Obj))(σ:St)(Q:List V->Hp->Prop)(us:List ag)(s':ao):Prop:=∃vs H',Inv X ae σ H' s'/\Vals vs us/\Q vs H'
def SP(X:Cx)(ae:List (af×Obj))(D:Ends)(f:Flow)(s':ao):Prop:=
 match f with
 |.next=>∃σ' H',Inv X ae σ' H' s'/\D.nx σ' H'
 |.brk=>∃σ' H',Inv X ae σ' H' s'/\D.bk σ' H'
 |.cont=>∃σ' H',Inv X ae σ' H' s'/\D.ct σ' H'
 |.ret u=>∃v σ' H',Inv X ae σ' H' s'/\RelV v u/\D.rt v H'
def PE(X:Cx)(e:aU)(t:TE):Prop:=∀(ae:List (af×Obj)) (s:ao) (σ:St) (H:Hp) (Q:VK),Inv X ae σ H s->t σ H Q->wpAny (model X.prog X.w) X.A (eval e X.env) (EP X ae σ Q) X.xe s
def PT(X:Cx)(e:aU)(t:TT):Prop:=∀(ae:List (af×Obj)) (s:ao) (σ:St) (H:Hp) (Q:Bool->Hp->Prop),Inv X ae σ H s->t σ H Q->wpAny (model X.prog X.w) X.A (isTrue e X.env (eval e X.env)) (TP X ae σ Q) X.xe s
def PW(X:Cx)(e:aU)(t:TT):Prop:=∀(whole:Sem ag) (ae:List (af×Obj)) (s:ao) (σ:St) (H:Hp) (Q:Bool->Hp->Prop),Inv X ae σ H s->t σ H Q->wpAny (model X.prog X.w) X.A (isTrue e X.env whole) (TP X ae σ Q) X.xe s
theorem PW.pt{X:Cx}{e:aU}{t:TT}(h:PW X e t):PT X e t:=h _
def PA(X:Cx)(es:List aU)(t:TA):Prop:=∀(pos:Pos) (ae:List (af×Obj)) (s:ao) (σ:St) (H:Hp) (Q:List V->Hp->Prop),Inv X ae σ H s->t σ H Q->wpAny (model X.prog X.w) X.A (spliced (backTo pos (starEach es X.env))) (AP X ae σ Q) X.xe s
def PS(X:Cx)(st:bt)(t:TS):Prop:=∀(ae:List (af×Obj)) (s:ao) (σ:St) (H:Hp) (D:Ends),Inv X ae σ H s->t D σ H->wpAny (model X.prog X.w) X.A (exec st X.env) (SP X ae D) X.xe s
def f6(X:Cx)(st:List bt)(t:TS):Prop:=∀(ae:List (af×Obj)) (s:ao) (σ:St) (H:Hp) (D:Ends),Inv X ae σ H s->t D σ H->wpAny (model X.prog X.w) X.A (execs st X.env) (SP X ae D) X.xe s
theorem aX{α:Type}{t:Sem α}{Q Q':α->ao->Prop}{M:Model}{A:bx}{E:ag->ao->Prop}{s:ao}(h:wpAny M A t Q E s)(hQ:∀a s,Q a s->Q' a s):wpAny M A t Q' E s:=gH h hQ λ_ _ x=>x
section
variable{X:Cx}
def eR(i:Nat):TE:=λσ H Q=>∃v,σ[i]? = aa (aa v)/\Q v H
def tC(v:V):TE:=λ_ H Q=>Q v H
theorem Pc{i:Nat}{x:Str}{pos:Pos}(hN:X.N[i]? = aa x)(hv:pq X.env.scope x)(hd:(x==("__debug__" : Str))=false:=by decide)(hcd:(x==("__classdict__" : Str))=false:=by decide):PE X (.Name x pos) (eR i):=by
 intro ae s σ H Q I h;obtain⟨v,e,h⟩:=h;obtain⟨m,hn,hl⟩:=I.loc;obtain⟨u,r,l⟩:=hl i x v hN e hv;have fin:EP X ae σ Q u s:=⟨v,H,I,r,h⟩;rcases l with ⟨hk,hm⟩|⟨hk,c,hc,hcell⟩
 ·exact wpAny_Name (wpAny_loadName_local I.ok.kind hk hn hm fin) hd
 ·rcases hk with hk|hk
  ·exact wpAny_Name (wpAny_loadName_cell I.ok.kind hk hc hcell fin) hd
  ·exact wpAny_Name (wpAny_loadName_free I.ok.kind hk hc hcell fin hcd) hd
theorem aH{i j pos}:PE X (.Constant (.int i) j pos) (tC (.int i)):=λ_ _ _ H _ I h=>wpAny_Constant_int ⟨.int i,H,I.tok _,⟨_,rfl⟩,h⟩
theorem eJ{b j pos}:PE X (.Constant (.bool b) j pos) (tC (.bl b)):=λ_ _ _ H _ I h=>Constant_bool ⟨.bl b,H,I,rfl,h⟩
theorem MY{j pos}:PE X (.Constant .none j pos) (tC .non):=λ_ _ _ H _ I h=>Constant_none ⟨.non,H,I,rfl,h⟩
theorem wA{x j pos}:PE X (.Constant (.str x) j pos) (tC (.str x)):=λ_ _ _ H _ I h=>Calls.Constant_str ⟨.str x,H,I.tok _,⟨_,rfl⟩,h⟩
def Gl(X:Cx)(x:Str):Prop:=X.env.kindOf x=aa .globalImplicit
theorem Ba{E:ag->ao->Prop}{ae:List (af×Obj)}{s:ao}{σ:St}{H:Hp}{x:Str}{u:ag}{pos:Pos}{Q:ag->ao->Prop}(I:Inv X ae σ H s)(hg:Gl X x)(hm:X.mg x=aa u)(h:Q u s)
 (hd:(x==("__debug__" : Str))=false:=by decide):wpAny (model X.prog X.w) X.A (eval (.Name x pos) X.env) Q E s:=
 HK I.ok.kind hg (Calls.loadGlobal_global (by rw[I.ok.glob];exact I.mod.glob.keeps I.bk) hm h) hd
theorem ng{E:ag->ao->Prop}{ae:List (af×Obj)}{s:ao}{σ:St}{H:Hp}{x:Str}{u:ag}{pos:Pos}{Q:ag->ao->Prop}(I:Inv X ae σ H s)(hg:Gl X x)(hm:X.mg x=ac)(hv:bootBuiltins x=aa u)(h:Q u s)
 (hn:x ≠ "__name__" := by decide) (hd:(x==("__debug__" : Str))=false:=by decide):wpAny (model X.prog X.w) X.A (eval (.Name x pos) X.env) Q E s:=by
 obtain⟨mb,h1,h2⟩:=I.mod.blt;exact HK I.ok.kind hg (Calls.loadGlobal_builtin (by rw[I.ok.glob];exact I.mod.glob.keeps I.bk) hm (by rw[I.ok.blt];exact h1.keeps I.bk) ((h2 x hn).trans hv) h) hd
theorem Ol{x:Str}{v:V}{u:ag}{pos:Pos}(hg:Gl X x)(hm:X.mg x=ac)(hv:bootBuiltins x=aa u)(r:RelV v u)(hn:x ≠ "__name__" := by decide)(hd:(x==("__debug__" : Str))=false:=by decide):PE X (.Name x pos) (tC v):=λ_ _ _ H _ I h=>ng I hg hm hv ⟨v,H,I,r,h⟩ hn hd
variable{a b:aU}{ta tb:TE}{pos:Pos}
def PC(X:Cx)(op:CmpOp)(a b:aU)(t:TE):Prop:=
 ∀(ae:List (af×Obj)) (s:ao) (σ:St) (H:Hp) (Q:VK),Inv X ae σ H s->t σ H Q ->
  wpAny (model X.prog X.w) X.A (eval a X.env) (λv s₁=>wpAny (model X.prog X.w) X.A (eval b X.env) (λu s₂=>wpAny (model X.prog X.w) X.A (compareOp op v u) (EP X ae σ Q) X.xe s₂) X.xe s₁) X.xe s
def tB(t:TE):TT:=λσ H Q=>t σ H λx H1=>∃c,x=.bl c/\Q c H1
theorem um{op:CmpOp}{t:TE}(h:PC X op a b t)(h1:behindInMarks op b=false:=by first|exact QB _ (by decide) (by decide)|rfl):PT X (.Compare a [op] [b] pos) (tB t):=by intro ae s σ H Q I hw;refine wpAny_isTrue_Compare1 (aX (h ae s σ H _ I hw) λv s1 h1=>aX h1 λu s2 h2=>aX h2 λc s3 ⟨x,H1,I1,r1,q1⟩=>?_) h1;obtain⟨d,rfl,q⟩:=q1;cases r1;exact qq ⟨H1,I1,q⟩
theorem mj{e:aU}{t:TE}(h:PE X e t)(he:∀whole,isTrue e X.env whole=(do let v <- whole;standAt e.pos;holding [v] (truthy v)):=by intro _;rfl):PT X e (tB t):=by intro ae s σ H Q I hw;refine isTrue_plain (aX (h ae s σ H _ I hw) λv s1 ⟨x,H1,I1,r1,q1⟩=>?_) (he _);obtain⟨d,rfl,q⟩:=q1;cases r1;exact qq ⟨H1,I1,q⟩
variable{tA tB':TT}{rest:List aU}
def B9(t u:TT):TT:=λσ H Q=>t σ H λc H1=>if c=true then u σ H1 Q else Q false H1
def CZ(t u:TT):TT:=λσ H Q=>t σ H λc H1=>if c=true then Q true H1 else u σ H1 Q
def Ei(t:TT):TT:=λσ H Q=>t σ H λc H1=>Q (!c) H1
theorem pw_and1(ha:PT X a tA):PW X (.BoolOp .And [a] pos) tA:=by
 intro wh ae s σ H Q I h;refine isTrue_and (aX (ha ae s σ H Q I h) λc s1 e=>?_);cases c with
 |true=>exact isTrue_and_nil e
 |false=>exact e
theorem pw_or1(ha:PT X a tA):PW X (.BoolOp .Or [a] pos) tA:=by
 intro wh ae s σ H Q I h;refine isTrue_or (aX (ha ae s σ H Q I h) λc s1 e=>?_);cases c with
 |false=>exact isTrue_or_nil e
 |true=>exact e
theorem pw_and(ha:PT X a tA)(hb:PW X (.BoolOp .And (b::rest) pos) tB'):PW X (.BoolOp .And (a::b::rest) pos) (B9 tA tB'):=by
 intro wh ae s σ H Q I h;refine isTrue_and (aX (ha ae s σ H _ I h) λc s1 ⟨H1,I1,q1⟩=>?_);cases c with
 |true=>exact hb wh ae s1 σ H1 Q I1 q1
 |false=>exact⟨H1,I1,q1⟩
theorem pw_or(ha:PT X a tA)(hb:PW X (.BoolOp .Or (b::rest) pos) tB'):PW X (.BoolOp .Or (a::b::rest) pos) (CZ tA tB'):=by
 intro wh ae s σ H Q I h;refine isTrue_or (aX (ha ae s σ H _ I h) λc s1 ⟨H1,I1,q1⟩=>?_);cases c with
 |true=>exact⟨H1,I1,q1⟩
 |false=>exact hb wh ae s1 σ H1 Q I1 q1
theorem oh(ha:PT X a tA):PT X (.UnaryOp .Not a pos) (Ei tA):=by intro ae s σ H Q I h;exact isTrue_not (ha ae s σ H (λc H1=>Q (!c) H1) I h)
def FA(ta tb:TE):TE:=λσ H Q=>ta σ H λx H1=>∃c,x=.bl c/\if c=true then tb σ H1 Q else Q (.bl false) H1
theorem Lx{op}{t:TE}(h:PE X a t):PE X (.BoolOp op [a] pos) t:=λae s σ H Q I hw=>BoolOp_one (h ae s σ H Q I hw)
theorem NF(ha:PE X a ta)(hb:PE X (.BoolOp .And (b::rest) pos) tb):PE X (.BoolOp .And (a::b::rest) pos) (FA ta tb):=by
 intro ae s σ H Q I h;refine BoolOp_and (aX (ha ae s σ H _ I h) λv s1 ⟨x,H1,I1,r1,q1⟩=>?_);obtain⟨c,rfl,q1⟩:=q1;cases r1;refine qq ?_;cases c with
 |true=>exact hb ae s1 σ H1 Q I1 q1
 |false=>exact⟨.bl false,H1,I1,rfl,q1⟩
def D8(t:TT)(ta tb:TE):TE:=λσ H Q=>t σ H λc H1=>if c=true then ta σ H1 Q else tb σ H1 Q
theorem wP{c:aU}(hc:PT X c tA)(ha:PE X a ta)(hb:PE X b tb):PE X (.IfExp c a b pos) (D8 tA ta tb):=by
 intro ae s σ H Q I h;refine wpAny_IfExp (aX (hc ae s σ H _ I h) λd s1 ⟨H1,I1,q1⟩=>?_);cases d with
 |true=>exact ha ae s1 σ H1 Q I1 q1
 |false=>exact hb ae s1 σ H1 Q I1 q1
end
def c9(K:aD)(H:Hp)(a:af)(xs:List V):Prop:=
 Rd H a (.lst xs) \/
  ∃(o:Obj) (aj:Array ag) (n:Nat),K.lookup a=aa o/\o.cls=.type "list" /\ o.dict=ac/\o.data=.seq aj n/\aj.size<=sizeLine/\Vals xs aj.toList
def eQ(K:aD)(H:Hp)(a:af)(xs:List V):Prop:=
 Rd H a (.tup xs) \/
  ∃(o:Obj) (aj:Array ag) (n:Nat),K.lookup a=aa o/\o.cls=.type "tuple" /\ o.data=.seq aj n/\aj.size<=sizeLine/\Vals xs aj.toList
def JT:ag->Option V
 |.none=>aa .non
 |.bool b=>aa (.bl b)
 |.int i _=>aa (.int i)
 |.str x _=>aa (.str x)
 |.bytes b _=>aa (.byt b)
 |.float b _=>aa (.flt b)
 |.ref a=>aa (.ref a)
 |.type n=>aa (.ty n)
 |_=>ac
theorem RelV.abs{x:V}{u:ag}(r:RelV x u):JT u=aa x:=by
 cases x with
 |non=>cases r;rfl
 |bl _=>cases r;rfl
 |int _=>obtain⟨t,rfl⟩:=r;rfl
 |str _=>obtain⟨t,rfl⟩:=r;rfl
 |byt _=>obtain⟨t,rfl⟩:=r;rfl
 |flt _=>obtain⟨t,rfl⟩:=r;rfl
 |ref _=>cases r;rfl
 |ty _=>cases r;rfl
theorem RelV.inj{x y:V}{u:ag}(r:RelV x u)(q:RelV y u):x=y:=fj (r.abs.symm.trans q.abs)
theorem Vals.inj:∀{xs ys:List V} {us:List ag},Vals xs us->Vals ys us->xs=ys
 |_,_,_,.nil,.nil=>rfl
 |_,_,_,.cons r t,.cons r' t'=>by rw[r.inj r',Vals.inj t t']
section
variable{X:Cx}{ae:List (af×Obj)}{σ:St}{H:Hp}{s:ao}{a:af}{xs ys:List V}
theorem Inv.list(I:Inv X ae σ H s)(h:c9 X.K H a xs):∃aj:List ag,Vals xs aj/\PlainL s.heap a aj.toArray/\xs.length<=sizeLine:=by
 rcases h with h|⟨o,aj,n,hk,hc,hd,hs,hz,r⟩
 ·obtain⟨z,aj,n,r,e⟩:=h.ok I.hok;exact⟨aj,r,⟨_,n,e,rfl,rfl,rfl⟩,z⟩
 ·refine⟨aj.toList,r,⟨o,n,I.ff a o hk,hc,hd,by simpa using hs⟩,?_⟩;have e:=r.length;simp only[tG]at e;omega
theorem Inv.tuple(I:Inv X ae σ H s)(h:eQ X.K H a xs):∃aj:List ag,Vals xs aj/\IsTup s.heap a aj.toArray/\xs.length<=sizeLine:=by
 rcases h with h|⟨o,aj,n,hk,hc,hs,hz,r⟩
 ·obtain⟨z,aj,r,p⟩:=h.ok I.hok;exact⟨aj,r,p.tup,z⟩
 ·refine⟨aj.toList,r,⟨o,I.ff a o hk,hc,n,by simpa using hs⟩,?_⟩;have e:=r.length;simp only[tG]at e;omega
theorem Inv.u5(I:Inv X ae σ H s)(h:c9 X.K H a xs)(h':c9 X.K H a ys):xs=ys:=by
 obtain⟨aj,r,⟨o,n,e,_,_,d⟩,_⟩:=I.list h;obtain⟨its',r',⟨o',n',e',_,_,d'⟩,_⟩:=I.list h';rw[e]at e';cases e';rw[d]at d';injection d' with d1 _;have:aj=its':=by simpa using congrArg Array.toList d1
 subst this;exact r.inj r'
theorem Inv.xk(I:Inv X ae σ H s)(h:eQ X.K H a xs)(h':eQ X.K H a ys):xs=ys:=by
 obtain⟨aj,r,⟨o,e,_,n,d⟩,_⟩:=I.tuple h;obtain⟨its',r',⟨o',e',_,n',d'⟩,_⟩:=I.tuple h';rw[e]at e';cases e';rw[d]at d';injection d' with d1 _;have:aj=its':=by simpa using congrArg Array.toList d1
 subst this;exact r.inj r'
end
abbrev Cx.wish(X:Cx)(E:ag->ao->Prop):Cx:={ X with xe:=E }
abbrev Cx.kK(X:Cx):Cx:=X.wish λ_ _=>False
theorem Cx.Ok.wish{X:Cx}(ok:X.Ok)(E:ag->ao->Prop):(X.wish E).Ok:=⟨ok.mod,ok.kind,ok.glob,ok.blt,ok.above,ok.inj,ok.has,ok.cab,ok.hd,ok.frames,ok.stk,ok.exf,ok.bs,ok.bsz,ok.tI,ok.wt,ok.i4,ok.frf⟩
theorem Cx.Ok.mB{X:Cx}{E:ag->ao->Prop}(ok:(X.wish E).Ok):X.Ok:=⟨ok.mod,ok.kind,ok.glob,ok.blt,ok.above,ok.inj,ok.has,ok.cab,ok.hd,ok.frames,ok.stk,ok.exf,ok.bs,ok.bsz,ok.tI,ok.wt,ok.i4,ok.frf⟩
section
variable{X:Cx}{ae:List (af×Obj)}{σ:St}{H:Hp}{s:ao}{E:ag->ao->Prop}
theorem Inv.wish(I:Inv X ae σ H s)(E:ag->ao->Prop):Inv (X.wish E) ae σ H s:=⟨I.ok.wish E,I.os,I.bare,I.base,I.loc,I.cell,I.free,I.ja,I.pin,I.hok,I.len⟩
theorem Inv.mB(I:Inv (X.wish E) ae σ H s):Inv X ae σ H s:=⟨I.ok.mB,I.os,I.bare,I.base,I.loc,I.cell,I.free,I.ja,I.pin,I.hok,I.len⟩
theorem SP.mB{D:Ends}{f:Flow}{s':ao}(h:SP (X.wish E) ae D f s'):SP X ae D f s':=by
 cases f with
 |next=>obtain⟨σ',H',I,q⟩:=h;exact⟨σ',H',I.mB,q⟩
 |brk=>obtain⟨σ',H',I,q⟩:=h;exact⟨σ',H',I.mB,q⟩
 |cont=>obtain⟨σ',H',I,q⟩:=h;exact⟨σ',H',I.mB,q⟩
 |ret u=>obtain⟨v,σ',H',I,r,q⟩:=h;exact⟨v,σ',H',I.mB,r,q⟩
theorem f6.kK{st:List bt}{t:TS}(h:f6 X.kK st t):f6 X st t:=λae s σ H D I hw=>
 gH (h ae s σ H D (I.wish _) hw) (λ_ _ q=>q.mB) λ_ _ z=>h9 z
end
section
variable{X:Cx}{st:bt}{rest:List bt}{t u:TS}{e:aU}{te:TE}{pos:Pos}
def A5:TS:=λD σ H=>D.nx σ H
def Bx(t u:TS):TS:=λD σ H=>t { D with nx:=u D } σ H
theorem eo:f6 X [] A5:=λ_ _ σ H _ I h=>vM ⟨σ,H,I,h⟩
theorem aZ(h1:PS X st t)(h2:f6 X rest u):f6 X (st::rest) (Bx t u):=by
 intro ae s σ H D I h;refine wpAny_execs_cons (aX (h1 ae s σ H { D with nx:=u D } I h) λf s1 q=>?_);cases f with
 |next=>
  obtain⟨σ',H',I',q⟩:=q;exact h2 ae s1 σ' H' D I' q
 |ret v=>exact q
 |brk=>exact q
 |cont=>exact q
theorem be(h1:PS X st t):f6 X [st] t:=by
 intro ae s σ H D I h;refine wpAny_execs_cons (aX (h1 ae s σ H D I h) λf s1 q=>?_);cases f with
 |next=>exact vM q
 |ret v=>exact q
 |brk=>exact q
 |cont=>exact q
theorem Inv.quiet{ae:List (af×Obj)}{σ:St}{H:Hp}{s:ao}(I:Inv X ae σ H s):interactive X.env=false:=by simp[interactive,I.ok.kind]
def pe(te:TE):TS:=λD σ H=>te σ H λ_ H1=>D.nx σ H1
theorem gt(he:PE X e te)(hs:swapsWith e ac pos.line X.env=pure false:=by rfl):PS X (.Expr e pos) (pe te):=by intro ae s σ H D I h;exact wpAny_Expr_any (aX (he ae s σ H _ I h) λv s1 ⟨x,H1,I1,r1,q1⟩=>⟨σ,H1,I1,q1⟩) I.quiet hs
def vk(te:TE):TS:=λD σ H=>te σ H D.rt
theorem cj(he:PE X e te):PS X (.Return (aa e) pos) (vk te):=by intro ae s σ H D I h;exact wpAny_Return_some (aX (he ae s σ H _ I h) λv s1 ⟨x,H1,I1,r1,q1⟩=>⟨x,σ,H1,I1,r1,q1⟩)
def Df(c:TT)(t u:TS):TS:=λD σ H=>c σ H λb H1=>if b=true then t D σ H1 else u D σ H1
theorem eh{c:aU}{a b:List bt}{tc:TT}(hc:PT X c tc)(ha:f6 X a t)(hb:f6 X b u):PS X (.If c a b pos) (Df tc t u):=by
 intro ae s σ H D I h;refine wpAny_If (aX (hc ae s σ H _ I h) λd s1 ⟨H1,I1,q1⟩=>?_);cases d with
 |true=>exact ha ae s1 σ H1 D I1 q1
 |false=>exact hb ae s1 σ H1 D I1 q1
def Ce:TS:=λ_ _ _=>False
theorem EM:PS X st Ce:=λ_ _ _ _ _ _ h=>h.elim
end
abbrev TG:=V->St->Hp->(St->Hp->Prop)->Prop
abbrev iC:=List V->St->Hp->(St->Hp->Prop)->Prop
def PG(X:Cx)(target:aU)(t:TG):Prop:=
 ∀(ae:List (af×Obj)) (s:ao) (σ:St) (H:Hp) (v:V) (u:ag) (Q:St->Hp->Prop),Inv X ae σ H s->RelV v u->t v σ H Q ->
  wpAny (model X.prog X.w) X.A (assign target X.env u) (λ_ s'=>∃σ' H',Inv X ae σ' H' s'/\Q σ' H') X.xe s
def rX(X:Cx)(ts:List aU)(t:iC):Prop:=
 ∀(ae:List (af×Obj)) (s:ao) (σ:St) (H:Hp) (vs:List V) (us:List ag) (Q:St->Hp->Prop),Inv X ae σ H s->Vals vs us->t vs σ H Q ->
  wpAny (model X.prog X.w) X.A (assignInOrder ((assignEach ts X.env).map (·.2)) us) (λ_ s'=>∃σ' H',Inv X ae σ' H' s'/\Q σ' H') X.xe s
abbrev xm:=V->V->V->Hp->(Hp->Prop)->Prop
def CD(X:Cx)(t:xm):Prop:=
 ∀(ae:List (af×Obj)) (s:ao) (σ:St) (H:Hp) (o i v:V) (ov iv u:ag) (Q:Hp->Prop),Inv X ae σ H s->RelV o ov->RelV i iv->RelV v u->t o i v H Q ->
  wpAny (model X.prog X.w) X.A (setItem ov iv u) (λ_ s'=>∃H',Inv X ae σ H' s'/\Q H') X.xe s
section
variable{X:Cx}{pos:Pos}
def gu(i:Nat):TG:=λv σ H Q=>Q (σ.set i (aa v)) H
theorem cU{i:Nat}{x:Str}(hN:X.N.Nodup)(hi:X.N[i]? = aa x)(hx:Loc X.env.scope x)(hf:X.fn x=true\/X.env.scope.names.lookup x=aa .local:=by first|exact .inl rfl|exact .inr rfl|assumption):PG X (.Name x pos) (gu i):=by intro ae s σ H v u Q I r h;exact wpAny_assign_Name (Fq I hN hi hx r (λs' I'=>⟨_,H,I',h⟩) hf)
def qT:iC:=λvs σ H Q=>vs=[]/\Q σ H
def qH(t:TG)(u:iC):iC:=λvs σ H Q=>∃v r,vs=v::r/\t v σ H λσ' H'=>u r σ' H' Q
theorem jt:rX X [] qT:=by intro ae s σ H vs us Q I r h;obtain⟨e,h⟩:=h;subst e;cases r;exact assignInOrder_nil ⟨σ,H,I,h⟩
theorem d5{e:aU}{es:List aU}{t:TG}{u:iC}(h1:PG X e t)(h2:rX X es u)
 (hs:(assignEach (e::es) X.env).map (·.2)=assign e X.env::(assignEach es X.env).map (·.2):=by rfl):rX X (e::es) (qH t u):=by
 intro ae s σ H vs us Q I r h;obtain⟨v,vr,e1,h⟩:=h;subst e1;cases r with
 |cons r rr=>
  rw[hs];refine assignInOrder_cons (aX (h1 ae s σ H _ _ _ I r h) λ_ s1 ⟨σ1,H1,I1,q1⟩=>?_);exact h2 ae s1 σ1 H1 _ _ Q I1 rr q1
def yk(K:aD)(n:Nat)(t:iC):TG:=λv σ H Q=>∃a xs,v=.ref a/\eQ K H a xs/\xs.length=n/\t xs σ H Q
theorem jK{es:List aU}{k:Nat}{t:iC}{n:Nat}(hc:X.calm=true)(h:rX X es t)
 (hn:(assignEach es X.env).length=n:=by rfl) (hst:(assignEach es X.env).findIdx? (·.1)=ac:=by rfl):PG X (.Tuple es k pos) (yk X.K n t):=by
 intro ae s σ H v u Q I r hw;obtain⟨a,xs,e1,hq,hl,hw⟩:=hw;subst e1;cases r;obtain⟨aj,rv,ht,hz⟩:=I.tuple hq;refine assign_Tuple_tuple (I.ok.hd hc) ht (by simp[hn,<- hl,rv.length]) hst λh' hx=>?_;have I1:Inv X ae σ H { s with heap:=h' }:=I.kept (t':=s.toks) λb o e=>hx b o (fi (bS e)) e;exact h ae _ σ H xs _ Q I1 (by simpa using rv) hw
def Eb(to ti:TE)(t:xm):TG:=λv σ H Q=>to σ H λo H1=>ti σ H1 λi H2=>t o i v H2 λH3=>Q σ H3
theorem JA{o i:aU}{to ti:TE}{t:xm}(ho:PE X o to)(hi:PE X i ti)(hs:CD X t)
 (ha:∀v,assign (.Subscript o i pos) X.env v=(do
  let ov <- holding [v] (eval o X.env);let iv <- holding [v,ov] (eval i X.env)
  standAt pos
  holding [v,ov,iv] (setItem ov iv v)
  release [v,ov,iv] []):=by intro _;rfl):PG X (.Subscript o i pos) (Eb to ti t):=by
 intro ae s σ H v u Q I r h;rw[ha];refine aB (j8 (aX (ho ae s σ H _ I h) λov s1 ⟨x,H1,I1,r1,q1⟩=>?_));refine aB (j8 (aX (hi ae s1 σ H1 _ I1 q1) λiv s2 ⟨y,H2,I2,r2,q2⟩=>?_));refine aB (sZ (aB (j8 (aX (hs ae s2 σ H2 x y v ov iv u _ I2 r1 r2 r q2) λ_ s3 ⟨H3,I3,q3⟩=>?_))));exact wpAny_release ⟨σ,H3,I3,q3⟩
def jq(te:TE)(g:TG):TS:=λD σ H=>te σ H λx H1=>g x σ H1 D.nx
theorem xq{tg e:aU}{te:TE}{g:TG}(he:PE X e te)(hg:PG X tg g)(hs:swapsWithSole [tg] e pos.line X.env=pure false:=by rfl)(hw:swappedStores [tg] e X.env=pure ac:=by rfl)
 (h1:(assignEach [tg] X.env).map (·.2)=[assign tg X.env]:=by rfl):PS X (.Assign [tg] e pos) (jq te g):=by
 intro ae s σ H D I h;refine wpAny_Assign_stores (aX (he ae s σ H _ I h) λv s1 ⟨x,H1,I1,r1,q1⟩=>?_) hs hw;rw[h1];exact aX (hg ae s1 σ H1 x v _ I1 r1 q1) λ_ s2 q=>q
theorem jf{i:Nat}{x:Str}{e:aU}{te:TE}{pos':Pos}(hN:X.N.Nodup)(hi:X.N[i]? = aa x)(hx:Loc X.env.scope x)(he:PE X e te)(hs:swapsWith e (aa (.Name x pos')) pos.line X.env=pure false:=by rfl)(hf:X.fn x=true\/X.env.scope.names.lookup x=aa .local:=by first|exact .inl rfl|exact .inr rfl|assumption) :
 PS X (.Assign [.Name x pos'] e pos) (jq te (gu i)):=by
 intro ae s σ H D I h;refine wpAny_Assign_Name (aX (he ae s σ H _ I h) λv s1 ⟨y,H1,I1,r1,q1⟩=>?_) hs;exact Fq I1 hN hi hx r1 (λs2 I2=>⟨_,H1,I2,q1⟩) hf
end
section
variable{X:Cx}{pos:Pos}
def Fc(c:TT)(tb:TS):TS:=λD σ H=>∃W:Nat->St->Hp->Prop,(∃m,W m σ H)/\∀m σ H,W m σ H ->
 c σ H λb H1=>if b=true then∃N:St->Hp->Prop,(∀σ' H',N σ' H'->∃m',m'<m/\W m' σ' H')/\tb { D with nx:=N,ct:=N,bk:=D.nx } σ H1 else D.nx σ H1
theorem D6{c:aU}{body:List bt}{tc:TT}{tb:TS}(hp:PassesOwn (model X.prog X.w) X.A X.env X.xe)(hc:PT X c tc)(hb:f6 X body tb):PS X (.While c body [] pos) (Fc tc tb):=by
 intro ae s σ H D I h;obtain⟨W,⟨m0,w0⟩,turn⟩:=h;refine wpAny_While (codeAny_whileLoop (λn s'=>∃σ' H',Inv X ae σ' H' s'/\W n σ' H') ?_ m0 ⟨σ,H,I,w0⟩);rintro n s1 ⟨σ1,H1,I1,w1⟩;refine ot hp (aX (hc ae s1 σ1 H1 _ I1 (turn n σ1 H1 w1)) λb s2 ⟨H2,I2,q2⟩=>?_);cases b with
 |true=>
  obtain⟨N,hN,q2⟩:=q2;rw[aN rfl];refine ot hp (aX (hb ae s2 σ1 H2 _ I2 q2) λf s3 q3=>?_);cases f with
  |next=>
   obtain⟨σ3,H3,I3,n3⟩:=q3;obtain⟨m',hm,w3⟩:=hN σ3 H3 n3;exact⟨m',hm,σ3,H3,I3,w3⟩
  |cont=>
   obtain⟨σ3,H3,I3,n3⟩:=q3;obtain⟨m',hm,w3⟩:=hN σ3 H3 n3;exact⟨m',hm,σ3,H3,I3,w3⟩
  |brk=>exact q3
  |ret v=>exact q3
 |false=>
  rw[aP c7];exact vM ⟨σ1,H2,I2,q2⟩
end
structure It where
 go:Nat->Hp->Prop
 yld:Nat->Hp->V->Hp->Prop
 stop:Nat->Hp->Prop
def eM(X:Cx)(ae:List (af×Obj))(H:Hp)(b:af):Prop:=H b=ac/\b≠X.env.locals/\b∉X.fs/\(b∈X.ex\/X.s₀.heap.objs.size<=b)/\(∀x c,X.env.cells.lookup x=aa c->c≠b)/\∀p∈X.pn++ae,p.1≠b
theorem Inv.gR{X:Cx}{ae:List (af×Obj)}{σ:St}{H H':Hp}{s:ao}{b:af}(I:Inv X ae σ H s)(hb:s.heap.objs.size<=b)(hn:H' b=ac):eM X ae H' b:=by
 refine⟨hn,s9 (fR I.lt hb),I.M5 hb,.inr (dR I.sz hb),λx c e z=>?_,λp hp z=>?_⟩
 ·obtain⟨v,q⟩:=I.cell x c e;exact absurd (fR q.lt (by rw[z];exact hb)) (i6 _)
 ·exact absurd (fR (bS (I.pin p hp).1) (by rw[z];exact hb)) (i6 _)
structure Turn(P:bh)(w:a6)(K:aD)(tg:aU)(J:It)(fp:List af)(it:af)(tn:Nat->aJ->Prop):Prop where
 mem:it∈fp
 obj:∀i h,tn i h->∀b∈fp,∃o,h.get? b=aa o/\∀v,o.data≠.cell v
 keep:∀i h h',tn i h->(∀b∈fp,∀o,h.get? b=aa o->h'.get? b=aa o)->tn i h'
 item:∀(X:Cx),X.prog=P->X.w=w->X.K=K->X.calm=true->∀(i:Nat) (ae:List (af×Obj)) (s:ao) (σ:St) (H:Hp) (E:ag->ao->Prop),Inv X ae σ H s->(∀b∈fp,eM X ae H b)->tn i s.heap->J.go i H ->
  wpAny (model P w) X.A (pyNext (.ref it)) (λr s1=>∃u,r=aa u /\
   wpAny (model P w) X.A (letOwnedTupleGo tg (.ref it) u) (λ_ s2=>∃x H',Inv X ae σ H' s2/\RelV x u/\J.yld i H x H'/\tn (i+1) s2.heap/\∀b∈fp,H' b=ac) E s1) E s
 done:∀(X:Cx),X.prog=P->X.w=w->X.K=K->X.calm=true->∀(i:Nat) (ae:List (af×Obj)) (s:ao) (σ:St) (H:Hp) (E:ag->ao->Prop),Inv X ae σ H s->(∀b∈fp,eM X ae H b)->tn i s.heap->J.stop i H ->
  wpAny (model P w) X.A (pyNext (.ref it)) (λr s1=>r=ac/\Inv X ae σ H s1) E s
 self:∀(A:bx) (i:Nat) (s:ao) (Q:ag->ao->Prop) (E:ag->ao->Prop),tn i s.heap->Q (.ref it) s->wpAny (model P w) A (pyIter (.ref it)) Q E s
abbrev TI:=St->Hp->(It->Hp->Prop)->Prop
def PIE(X:Cx)(ae:List (af×Obj))(σ:St)(tg:aU)(R:It->Hp->Prop)(itv:ag)(s2:ao):Prop:=∃(it:af) (fp:List af) (tn:Nat->aJ->Prop) (J:It) (H':Hp),itv=.ref it/\Inv X ae σ H' s2/\Turn X.prog X.w X.K tg J fp it tn/\tn 0 s2.heap/\(∀b∈fp,eM X ae H' b)/\R J H'
def PI(X:Cx)(tg iter:aU)(wi:TI):Prop:=
 ∀(ae:List (af×Obj)) (s:ao) (σ:St) (H:Hp) (R:It->Hp->Prop),Inv X ae σ H s->wi σ H R ->
  wpAny (model X.prog X.w) X.A (eval iter X.env) (λv s1=>wpAny (model X.prog X.w) X.A (pyIter v) (PIE X ae σ tg R) X.xe s1) X.xe s
theorem qZ{M:Model}{A:bx}{E:ag->ao->Prop}{s:ao}{tg:aU}{it:af}{u:ag}{o:Obj}{n:String}{vs:Array ag}{Q:Unit->ao->Prop}(ho:s.heap.get? it=aa o)(hc:o.cls=.type n)(hd:o.data=.fields vs)
 (hn:["enumerate","zip","dict_itemiterator","dict_reverseitemiterator","odict_iterator","itertools.zip_longest","itertools.pairwise"].contains n=false) (hQ:Q () s):wpAny M A (letOwnedTupleGo tg (.ref it) u) Q E s:=by
 unfold letOwnedTupleGo;cases tg<;>first
  |exact bn hQ
  | (cases u<;>first
   |exact bn hQ
   | (refine aB (wpAny_load ho ?_)
      rw[hc,hd];show wpAny M A (if(["enumerate","zip","dict_itemiterator","dict_reverseitemiterator","odict_iterator","itertools.zip_longest","itertools.pairwise"].contains n&&vs[0]? == aa (rawInt _))=true then _ else _) Q E s;rw[aP (by intro h;rw[hn,Bool.false_and]at h;cases h)];exact bn hQ))
def sk(K:aD)(a:af):It:=⟨λi H=>∃xs x,c9 K H a xs/\xs[i]? = aa x,λi H x H'=>H'=H/\∀xs,c9 K H a xs->xs[i]? = aa x,λi H=>∃xs,c9 K H a xs/\xs.length<=i⟩
def sC(K:aD)(a:af):It:=⟨λi H=>∃xs x,eQ K H a xs/\xs[i]? = aa x,λi H x H'=>H'=H/\∀xs,eQ K H a xs->xs[i]? = aa x,λi H=>∃xs,eQ K H a xs/\xs.length<=i⟩
def pV(lo:Int)(n:Nat):It:=⟨λi _=>i<n,λi H x H'=>H'=H/\x=.int (lo+i),λi _=>n<=i⟩
theorem MC{P:bh}{w:a6}{K:aD}{tg:aU}(a it:af):Turn P w K tg (sk K a) [it] it (λi h=>h.IsListIter it a i) where
 mem:=by simp
 obj:=λi h st b hb=>by
  have e:b=it:=by simpa using hb
  subst e;obtain⟨o,e,c,d⟩:=st;exact⟨o,e,λv z=>by rw[d]at z;cases z⟩
 keep:=λi h h' st k=>st.at λo e=>k it (by simp) o e
 item:=by intro X hP hw hK hc i ae s σ H E I hf st hg;subst hP hw hK;obtain⟨xs,x,hq,hx⟩:=hg;obtain⟨aj,rv,p,hz⟩:=I.list hq;obtain⟨u,hu,ru⟩:=rv.get hx;obtain⟨f0,f1,f2,f3,f4,f5⟩:=hf it (by simp);refine Hq st p.isList (x:=u) (by simpa using hu) λh' st' sb=>?_;have I1:Inv X ae σ H { s with heap:=h' }:=I.turned (t':=s.toks) (λb o hb e=>(sb.2 b hb).trans e) f0 f1 f3 f4 f5;obtain⟨o,e,c,d⟩:=id st';exact⟨u,rfl,qZ (s:={ s with heap:=h' }) e c d (by decide) ⟨x,H,I1,ru,⟨rfl,λys hy=>by rw[I.u5 hy hq];exact hx⟩,st',λb hb=>(hf b hb).1⟩⟩
 done:=by intro X hP hw hK hc i ae s σ H E I hf st hg;subst hP hw hK;obtain⟨xs,hq,hx⟩:=hg;obtain⟨aj,rv,p,hz⟩:=I.list hq;obtain⟨f0,f1,f2,f3,f4,f5⟩:=hf it (by simp);have hl:=rv.length;exact wpAny_pyNext_list_end (I.ok.hd hc) st p.isList (by simp;omega) λh' eb=>⟨rfl,I.turned (t':=s.toks) (λb o hb e=>eb b o hb e) f0 f1 f3 f4 f5⟩
 self:=λ_ _ _ _ _ st h=>wpAny_pyIter_listiter st h
theorem Po{P:bh}{w:a6}{K:aD}{tg:aU}(a it:af):Turn P w K tg (sC K a) [it] it (λi h=>h.IsTupleIter it a i) where
 mem:=by simp
 obj:=λi h st b hb=>by
  have e:b=it:=by simpa using hb
  subst e;obtain⟨o,e,c,d⟩:=st;exact⟨o,e,λv z=>by rw[d]at z;cases z⟩
 keep:=λi h h' st k=>st.at λo e=>k it (by simp) o e
 item:=by intro X hP hw hK hc i ae s σ H E I hf st hg;subst hP hw hK;obtain⟨xs,x,hq,hx⟩:=hg;obtain⟨aj,rv,p,hz⟩:=I.tuple hq;obtain⟨u,hu,ru⟩:=rv.get hx;obtain⟨f0,f1,f2,f3,f4,f5⟩:=hf it (by simp);refine wpAny_pyNext_tuple_item st (show s.heap.IsTuple a aj.toArray from p) (x:=u) (by simpa using hu) λh' st' sb=>?_;have I1:Inv X ae σ H { s with heap:=h' }:=I.turned (t':=s.toks) (λb o hb e=>(sb.2 b hb).trans e) f0 f1 f3 f4 f5;obtain⟨o,e,c,d⟩:=id st';exact⟨u,rfl,qZ (s:={ s with heap:=h' }) e c d (by decide) ⟨x,H,I1,ru,⟨rfl,λys hy=>by rw[I.xk hy hq];exact hx⟩,st',λb hb=>(hf b hb).1⟩⟩
 done:=by intro X hP hw hK hc i ae s σ H E I hf st hg;subst hP hw hK;obtain⟨xs,hq,hx⟩:=hg;obtain⟨aj,rv,p,hz⟩:=I.tuple hq;obtain⟨f0,f1,f2,f3,f4,f5⟩:=hf it (by simp);have hl:=rv.length;exact wpAny_pyNext_tuple_end (I.ok.hd hc) st (show s.heap.IsTuple a aj.toArray from p) (by simp;omega) λh' eb=>⟨rfl,I.turned (t':=s.toks) (λb o hb e=>eb b o hb e) f0 f1 f3 f4 f5⟩
 self:=λ_ _ _ _ _ st h=>wpAny_pyIter_tupleiter st h
theorem Kt{P:bh}{w:a6}{K:aD}{tg:aU}(it:af)(lo:Int)(n:Nat):Turn P w K tg (pV lo n) [it] it (λi h=>IsRangeIter h it (lo+(i:Nat)*1) ((n:Int)-(i:Nat)) 1) where
 mem:=by simp
 obj:=λi h st b hb=>by
  have e:b=it:=by simpa using hb
  subst e;exact⟨_,st,λv z=>by
   have z':Data.fields _=Data.cell v:=z;cases z'⟩
 keep:=λi h h' st k=>k it (by simp) _ st
 item:=by intro X hP hw hK hc i ae s σ H E I hf st hg;subst hP hw hK;obtain⟨f0,f1,f2,f3,f4,f5⟩:=hf it (by simp);have W:=Walks.range (prog:=X.prog) (w:=X.w) (I.ok.hd hc) it lo 1 n;refine W.item i s _ _ hg st λv h' tk hv st' kk=>?_;obtain⟨t,rfl⟩:=hv;have I1:Inv X ae σ H { s with heap:=h',toks:=tk }:=I.turned (λb o hb e=>kk b o (by simpa using hb) e) f0 f1 f3 f4 f5;refine⟨_,rfl,qZ (s:={ s with heap:=h',toks:=tk }) (n := "range_iterator") st' rfl rfl (by decide) ⟨.int (lo+i),H,I1,⟨t,?_⟩,⟨rfl,rfl⟩,st',λb hb=>(hf b hb).1⟩⟩;rw[Int.mul_one]
 done:=by intro X hP hw hK hc i ae s σ H E I hf st hg;subst hP hw hK;obtain⟨f0,f1,f2,f3,f4,f5⟩:=hf it (by simp);exact wpAny_pyNext_range_end (I.ok.hd hc) st (by have:n<=i:=hg;omega) λh' eb=>⟨rfl,I.turned (t':=s.toks) (λb o hb e=>eb b o hb e) f0 f1 f3 f4 f5⟩
 self:=λ_ _ _ _ _ st h=>wpAny_pyIter_rangeiter st h
section
variable{X:Cx}{tg:aU}
def Bg(K:aD)(tl:TE):TI:=λσ H R=>tl σ H λx H1=>∃a,x=.ref a/\(∃xs,c9 K H1 a xs)/\R (sk K a) H1
def Ea(K:aD)(tl:TE):TI:=λσ H R=>tl σ H λx H1=>∃a,x=.ref a/\(∃xs,eQ K H1 a xs)/\R (sC K a) H1
theorem NB{l:aU}{tl:TE}(hl:PE X l tl):PI X tg l (Bg X.K tl):=by
 intro ae s σ H R I h;refine aX (hl ae s σ H _ I h) λv s1 ⟨x,H1,I1,r1,q1⟩=>?_;obtain⟨a,e,⟨xs,hq⟩,q⟩:=q1;subst e;cases r1;obtain⟨aj,rv,p,hz⟩:=I1.list hq;refine vL p.isList ?_;refine⟨s1.heap.objs.size,[s1.heap.objs.size],_,_,H1,rfl,I1.kept (t':=s1.toks) λb o e=>b8 _ e,MC a _,⟨_,de _ rfl,rfl,rfl⟩,λb hb=>?_,q⟩;have e:b=s1.heap.objs.size:=by simpa using hb
 subst e;exact I1.gR (bq _) (I1.hok.fresh (bq _))
theorem NL{l:aU}{tl:TE}(hl:PE X l tl):PI X tg l (Ea X.K tl):=by
 intro ae s σ H R I h;refine aX (hl ae s σ H _ I h) λv s1 ⟨x,H1,I1,r1,q1⟩=>?_;obtain⟨a,e,⟨xs,hq⟩,q⟩:=q1;subst e;cases r1;obtain⟨aj,rv,p,hz⟩:=I1.tuple hq;refine wpAny_pyIter_tuple (show s1.heap.IsTuple a aj.toArray from p) ?_;refine⟨s1.heap.objs.size,[s1.heap.objs.size],_,_,H1,rfl,I1.kept (t':=s1.toks) λb o e=>b8 _ e,Po a _,⟨_,de _ rfl,rfl,rfl⟩,λb hb=>?_,q⟩;have e:b=s1.heap.objs.size:=by simpa using hb
 subst e;exact I1.gR (bq _) (I1.hok.fresh (bq _))
theorem N2{ae:List (af×Obj)}{σ:St}{H:Hp}{s:ao}{R:It->Hp->Prop}{E:ag->ao->Prop}{lo hi:Int}{t u v:Tok}{tk:Nat}(I:Inv X ae σ H s)(h1:-(2 ^ 62)<=lo)(h2:lo<2 ^ 62)(h3:-(2 ^ 62)<=hi)(h4:hi<2 ^ 62)
 (q:R (pV lo (hi-lo).toNat) H):wpAny (model X.prog X.w) X.A (pyIter (.ref s.heap.objs.size)) (PIE X ae σ tg R) E { s with heap:=s.heap.push { cls:=.type "range", data:=.fields #[.int lo t,.int hi u,.int 1 v] },toks:=tk }:=by
 refine wpAny_pyIter_range (IsRange.new ..) (small_one h1 h2 h3 h4) ?_;have I1:Inv X ae σ H { s with heap:=s.heap.push { cls:=.type "range",data:=.fields #[.int lo t,.int hi u,.int 1 v] },toks:=tk }:=I.kept λb o e=>b8 _ e;refine⟨(s.heap.push { cls:=.type "range",data:=.fields #[.int lo t,.int hi u,.int 1 v] }).objs.size,[(s.heap.push { cls:=.type "range", data:=.fields #[.int lo t,.int hi u,.int 1 v] }).objs.size],_,_,H,rfl,
  I1.kept (t':=tk) λb o e=>b8 _ e,Kt _ lo (hi-lo).toNat,?_,λb hb=>?_,q⟩
 ·have e1:lo+((0:Nat):Int)*1=lo:=by simp
  have e2:(((hi-lo).toNat:Nat):Int)-((0:Nat):Int)=Builtin.Range.rangeSize lo hi 1:=by rw[rangeSize_one];split<;>omega
  show IsRangeIter _ _ (lo+((0:Nat):Int)*1) ((((hi-lo).toNat:Nat):Int)-((0:Nat):Int)) 1;rw[e1,e2];exact de _ rfl
 ·have e:b=(s.heap.push { cls:=.type "range", data:=.fields #[.int lo t,.int hi u,.int 1 v] }).objs.size:=by simpa using hb
  subst e;exact I1.gR (bq _) (I1.hok.fresh (bq _))
def ET(ta:TA):TI:=λσ H R=>ta σ H λvs H1=>∃j:Int,vs=[.int j]/\-(2 ^ 62)<=j/\j<2 ^ 62/\R (pV 0 j.toNat) H1
theorem js{a:aU}{ta:TA}{p pos:Pos}(hg:Gl X "range")(hm:X.mg "range" = ac)(ha:PA X [a] ta)(hs:starEach [a] X.env=[(false,eval a X.env)]:=by rfl):PI X tg (.Call (.Name "range" p) [a] [] pos) (ET ta):=by
 intro ae s σ H R I h;refine Call_ (ng I hg hm boot_range (v7 (aX (ha pos ae s σ H _ I h) λus s1 ⟨vs,H1,I1,r1,q1⟩=>?_) hs rfl));obtain⟨j,e,q1,q2,q⟩:=q1;subst e;cases r1 with
 |cons r rr=>
  cases rr;obtain⟨t,rfl⟩:=r;exact call_range_1 (N2 I1 (by omega) (by omega) q1 q2 (by simpa using q))
def EE(wi:TI)(g:TG)(tb:TS):TS:=λD σ H=>wi σ H λJ H1=>∃W:Nat->Nat->St->Hp->Prop,(∃m,W 0 m σ H1)/\∀i m σ H,W i m σ H ->
 (J.stop i H/\D.nx σ H)\/(J.go i H/\∃N:St->Hp->Prop,(∀σ' H',N σ' H'->∃m',m'<m/\W (i+1) m' σ' H')/\∀x H',J.yld i H x H'->g x σ H' λσ2 H2=>tb { D with nx:=N,ct:=N,bk:=D.nx } σ2 H2)
def uO(fp:List af)(h:aJ):List (af×Obj):=fp.filterMap λb=>(h.get? b).map λo=>(b,o)
theorem pi{fp:List af}{h:aJ}{b:af}{o:Obj}(hb:b∈fp)(e:h.get? b=aa o):(b,o)∈uO fp h:=vx.mpr ⟨b,hb,by rw[e];rfl⟩
theorem Mm{fp:List af}{h:aJ}{p:af×Obj}(hp:p∈uO fp h):p.1∈fp/\h.get? p.1=aa p.2:=by
 obtain⟨b,hb,e⟩:=vx.mp hp;cases q:h.get? b with
 |none=>rw[q]at e;cases e
 |some o=>
  rw[q]at e;have e':(b,o)=p:=fj e;subst e';exact⟨hb,q⟩
theorem Inv.pinned{ae:List (af×Obj)}{σ:St}{H:Hp}{s:ao}{fp:List af}(I:Inv X ae σ H s)(hf:∀b∈fp,eM X ae H b)(ho:∀b∈fp,∃o,s.heap.get? b=aa o/\∀v,o.data≠.cell v):Inv X (ae++uO fp s.heap) σ H s:=
 I.yC λp hp=>(dA.mp hp).elim (λz=>I.pin p (dQ _ z)) λz=>by
  obtain⟨hb,e⟩:=Mm z;obtain⟨f0,f1,f2,_⟩:=hf p.1 hb;obtain⟨o,e',d⟩:=ho p.1 hb;rw[e]at e';cases e';exact⟨e,f0,f1,f2,d⟩
theorem Inv.pA{ae pl:List (af×Obj)}{σ:St}{H:Hp}{s:ao}(I:Inv X (ae++pl) σ H s):Inv X ae σ H s:=I.yC λp hp=>I.pin p (dQ _ (eB _ hp))
theorem gv{iter:aU}{body:List bt}{wi:TI}{g:TG}{tb:TS}{pos:Pos}(hp:PassesOwn (model X.prog X.w) X.A X.env X.xe)(hc:X.calm=true)(hi:PI X tg iter wi)(hg:PG X tg g)(hb:f6 X body tb)
 (hs:∀x,foldedSetIterable iter X.env x=pure x:=by intro _;rfl):PS X (.For tg iter body [] pos) (EE wi g tb):=by
 intro ae s σ H D I h;refine wpAny_For (aX (hi ae s σ H _ I h) λv s1 h1=>aX h1 λitv s2 h2=>?_) hs;obtain⟨it,fp,tn,J,H2,e,I2,T,st2,f2,W,⟨m0,w0⟩,turn⟩:=h2;subst e;have stat:∀{H':Hp},(∀b∈fp,H' b=ac)->∀b∈fp,eM X ae H' b:=λhn b hb=>⟨hn b hb,(f2 b hb).2⟩;refine codeAny_forLoop_any (λn s'=>∃i σ' H',Inv X ae σ' H' s'/\tn i s'.heap/\(∀b∈fp,H' b=ac)/\W i n σ' H') ?_ m0 ⟨0,σ,H2,I2,st2,λb hb=>(f2 b hb).1,w0⟩;rintro n s3 ⟨i,σ3,H3,I3,st3,fr3,w3⟩;rcases turn i n σ3 H3 w3 with ⟨stop,qn⟩|⟨go,N,hN,step⟩
 ·refine ot hp (aX (T.done X rfl rfl rfl hc i ae s3 σ3 H3 X.xe I3 (stat fr3) st3 stop) λr s4 ⟨hr,I4⟩=>?_);subst hr;exact vM ⟨σ3,H3,I4,qn⟩
 ·refine ot hp (aX (T.item X rfl rfl rfl hc i ae s3 σ3 H3 X.xe I3 (stat fr3) st3 go) λr s4 ⟨u,hr,h4⟩=>?_);subst hr;refine ot hp (aX h4 λ_ s5 ⟨x,H5,I5,r5,y5,st5,fr5⟩=>?_);have I5':=I5.pinned (stat fr5) (T.obj _ _ st5);refine ot hp (aX (hg _ s5 σ3 H5 x u _ I5' r5 (step x H5 y5)) λ_ s6 ⟨σ6,H6,I6,q6⟩=>?_);refine ot hp (aX (hb _ s6 σ6 H6 _ I6 q6) λf s7 q7=>?_);have again:∀{σ7:St} {H7:Hp},Inv X (ae++uO fp s5.heap) σ7 H7 s7->N σ7 H7->∃m,m<n/\∃i σ' H',Inv X ae σ' H' s7/\tn i s7.heap/\(∀b∈fp,H' b=ac)/\W i m σ' H':=λ{σ7 H7} I7 n7=>by
   obtain⟨m',hm,w7⟩:=hN σ7 H7 n7;refine⟨m',hm,i+1,σ7,H7,I7.pA,T.keep _ _ _ st5 λb hb o e=>(I7.pin (b,o) (dQ _ (dQ _ (pi hb e)))).1,λb hb=>?_,w7⟩;obtain⟨o,e,d⟩:=T.obj _ _ st5 b hb;exact(I7.pin (b,o) (dQ _ (dQ _ (pi hb e)))).2.1
  cases f with
  |next=>obtain⟨σ7,H7,I7,n7⟩:=q7;exact again I7 n7
  |cont=>obtain⟨σ7,H7,I7,n7⟩:=q7;exact again I7 n7
  |brk=>obtain⟨σ7,H7,I7,q7⟩:=q7;exact⟨σ7,H7,I7.pA,q7⟩
  |ret v=>obtain⟨x7,σ7,H7,I7,r7,q7⟩:=q7;exact⟨x7,σ7,H7,I7.pA,r7,q7⟩
end
abbrev R2:=V->V->Hp->VK->Prop
def cV(X:Cx)(f:ag->ag->Sem ag)(r:R2):Prop:=
 ∀(ae:List (af×Obj)) (s:ao) (σ:St) (H:Hp) (x y:V) (v u:ag) (Q:VK),Inv X ae σ H s->RelV x v->RelV y u->r x y H Q ->
  wpAny (model X.prog X.w) X.A (f v u) (EP X ae σ Q) X.xe s
def fU(X:Cx)(f:ag)(r:List V->Hp->VK->Prop):Prop:=
 ∀(ae:List (af×Obj)) (s:ao) (σ:St) (H:Hp) (xs:List V) (us:List ag) (Q:VK),Inv X ae σ H s->Vals xs us->r xs H Q ->
  wpAny (model X.prog X.w) X.A (call f us) (EP X ae σ Q) X.xe s
def Oh(X:Cx)(r:V->Hp->(Bool->Hp->Prop)->Prop):Prop:=
 ∀(ae:List (af×Obj)) (s:ao) (σ:St) (H:Hp) (x:V) (v:ag) (Q:Bool->Hp->Prop),Inv X ae σ H s->RelV x v->r x H Q ->
  wpAny (model X.prog X.w) X.A (truthy v) (TP X ae σ Q) X.xe s
def oN(r:R2)(ta tb:TE):TE:=λσ H Q=>ta σ H λx H1=>tb σ H1 λy H2=>r x y H2 Q
def rI(C:Int->Int->Prop)(g:Int->Int->V):R2:=λx y H Q=>∃i j,x=.int i/\y=.int j/\C i j/\Q (g i j) H
def kL(g:Int->Int->V):R2:=λx y H Q=>∃i j,x=.int i/\y=.int j/\Q (g i j) H
section
variable{X:Cx}{a b c:aU}{ta tb tc:TE}{pos:Pos}
theorem xt(ha:PE X a ta)(hb:PE X b tb){ae:List (af×Obj)}{s:ao}{σ:St}{H:Hp}{R:V->V->Hp->Prop}(I:Inv X ae σ H s)
 (h:ta σ H λx H1=>tb σ H1 λy H2=>R x y H2) {Q:ag->ao->Prop} {f:ag->ag->Sem ag}
 (hf:∀v u s2 x y H2,Inv X ae σ H2 s2->RelV x v->RelV y u->R x y H2->wpAny (model X.prog X.w) X.A (f v u) Q X.xe s2) :
 wpAny (model X.prog X.w) X.A (eval a X.env) (λv s₁=>wpAny (model X.prog X.w) X.A (eval b X.env) (λu s₂=>wpAny (model X.prog X.w) X.A (f v u) Q X.xe s₂) X.xe s₁) X.xe s:=by
 refine aX (ha ae s σ H _ I h) λv s1 ⟨x,H1,I1,r1,q1⟩=>?_;refine aX (hb ae s1 σ H1 _ I1 q1) λu s2 ⟨y,H2,I2,r2,q2⟩=>?_;exact hf v u s2 x y H2 I2 r1 r2 q2
theorem aS{op:Operator}{r:R2}(ho:cV X (binaryOp op) r)(ha:PE X a ta)(hb:PE X b tb):PE X (.BinOp a op b pos) (oN r ta tb):=by intro ae s σ H Q I h;exact wpAny_BinOp (xt ha hb I h λv u s2 x y H2 I2 rx ry q=>ho ae s2 σ H2 x y v u Q I2 rx ry q)
theorem ul{f:ag->ag->Sem ag}{C:Int->Int->Prop}{g:Int->Int->Int}
 (rule:∀(i j:Int) (t u:Tok) (s:ao) (Q:ag->ao->Prop) (E:ag->ao->Prop),C i j->Q (.int (g i j) s.toks) { s with toks:=s.toks+1 }->wpAny (model X.prog X.w) X.A (f (.int i t) (.int j u)) Q E s) :
 cV X f (rI C λi j=>.int (g i j)):=by
 intro ae s σ H x y v u Q I rx ry h;obtain⟨i,j,rfl,rfl,hc,q⟩:=h;obtain⟨t,rfl⟩:=rx;obtain⟨t',rfl⟩:=ry;exact rule i j t t' s _ _ hc ⟨.int (g i j),H,I.tok _,⟨_,rfl⟩,q⟩
theorem FC{f:ag->ag->Sem ag}{g:Int->Int->Int}
 (rule:∀(i j:Int) (t u:Tok) (s:ao) (Q:ag->ao->Prop) (E:ag->ao->Prop),Q (.int (g i j) s.toks) { s with toks:=s.toks+1 }->wpAny (model X.prog X.w) X.A (f (.int i t) (.int j u)) Q E s) :
 cV X f (kL λi j=>.int (g i j)):=by
 intro ae s σ H x y v u Q I rx ry h;obtain⟨i,j,rfl,rfl,q⟩:=h;obtain⟨t,rfl⟩:=rx;obtain⟨t',rfl⟩:=ry;exact rule i j t t' s _ _ ⟨.int (g i j),H,I.tok _,⟨_,rfl⟩,q⟩
theorem FP{f:ag->ag->Sem ag}{g:Int->Int->Bool}
 (rule:∀(i j:Int) (t u:Tok) (s:ao) (Q:ag->ao->Prop) (E:ag->ao->Prop),Q (.bool (g i j)) s->wpAny (model X.prog X.w) X.A (f (.int i t) (.int j u)) Q E s) :
 cV X f (kL λi j=>.bl (g i j)):=by
 intro ae s σ H x y v u Q I rx ry h;obtain⟨i,j,rfl,rfl,q⟩:=h;obtain⟨t,rfl⟩:=rx;obtain⟨t',rfl⟩:=ry;exact rule i j t t' s _ _ ⟨.bl (g i j),H,I,rfl,q⟩
def B8(i j:Int):Prop:=0<=j/\j<=1000000/\i.natAbs<2 ^ 64
def uz(i j:Int):Prop:=(-(2 ^ 64)<i/\i<2 ^ 64)\/(-(2 ^ 64)<j/\j<2 ^ 64)
theorem uz.ok{i j:Int}(h:uz i j):IntMulOk i j:=by
 rcases h with ⟨h1,h2⟩|⟨h1,h2⟩
 ·exact .of_left (intBits_le_64 h1 h2)
 ·exact .of_right (intBits_le_64 h1 h2)
theorem Pp:cV X (binaryOp .Add) (kL λi j=>.int (i+j)):=FC λ_ _ _ _ _ _ _ q=>add_int q
theorem t8:cV X (binaryOp .Sub) (kL λi j=>.int (i-j)):=FC λ_ _ _ _ _ _ _ q=>sub_int q
theorem fB:cV X (binaryOp .Mult) (rI uz λi j=>.int (i*j)):=ul λ_ _ _ _ _ _ _ hc q=>mul_int q hc.ok
theorem dD:cV X (binaryOp .Mod) (rI (λ_ j=>0<j) λi j=>.int (i%j)):=ul λi j _ _ _ _ _ hc q=>by
 have h1:(0:Int)<j:=hc;exact mod_int' (by omega) (by rw[Int.fmod_eq_emod_of_nonneg i (by omega)];exact q)
theorem Pt:cV X (binaryOp .Pow) (rI B8 λi j=>.int (i ^ j.toNat)):=ul λ_ _ _ _ _ _ _ hc q=>pow_int_small hc.1 hc.2.1 hc.2.2 q
end
section
variable{X:Cx}{a b c:aU}{ta tb tc:TE}{pos:Pos}
theorem yn{ae:List (af×Obj)}{σ:St}{H:Hp}{s:ao}{Q:VK}{k k':Bool}(I:Inv X ae σ H s)(q:Q (.bl k) H)(e:k=k'):EP X ae σ Q (.bool k') s:=by subst e;exact⟨.bl k,H,I,rfl,q⟩
theorem PK:cV X (compareOp .Lt) (kL λi j=>.bl (decide (i<j))):=FP λ_ _ _ _ _ _ _ q=>lt_int q
theorem KQ:cV X (compareOp .Gt) (kL λi j=>.bl (decide (j<i))):=FP λ_ _ _ _ _ _ _ q=>gt_int q
theorem Lz:cV X (compareOp .Lt) (λx y H Q=>∃i j,x=.str i/\y=.str j/\Q (.bl (decide (i.cps.toList<j.cps.toList))) H):=by intro ae s σ H x y v u Q I rx ry h;obtain⟨i,j,rfl,rfl,q⟩:=h;obtain⟨t,rfl⟩:=rx;obtain⟨t',rfl⟩:=ry;exact lt_str (yn I q rfl)
theorem Pf:cV X (compareOp .In) (λx y H Q=>∃i j,x=.str i/\y=.str j/\Q (.bl (!(Builtin.Str.occurrences j i 0 j.length 1).isEmpty)) H):=by intro ae s σ H x y v u Q I rx ry h;obtain⟨i,j,rfl,rfl,q⟩:=h;obtain⟨t,rfl⟩:=rx;obtain⟨t',rfl⟩:=ry;exact in_str (yn I q rfl)
theorem cV.or{f:ag->ag->Sem ag}{r r':R2}(h:cV X f r)(h':cV X f r'):cV X f (λx y H Q=>r x y H Q\/r' x y H Q):=by
 intro ae s σ H x y v u Q I rx ry q;rcases q with q|q
 ·exact h ae s σ H x y v u Q I rx ry q
 ·exact h' ae s σ H x y v u Q I rx ry q
theorem du(b:aU){op:CmpOp}(h:op≠.In:=by decide)(h2:op≠.NotIn:=by decide):behindInMarks op b=false:=by
 have e1:(op==CmpOp.In)=false:=by cases op<;>first|rfl|exact absurd rfl h
 have e2:(op==CmpOp.NotIn)=false:=by cases op<;>first|rfl|exact absurd rfl h2
 cases b<;>simp[behindInMarks,e1,e2]
theorem sH{op:CmpOp}{r:R2}(ho:cV X (compareOp op) r)(ha:PE X a ta)(hb:PE X b tb)(hm:behindInMarks op b=false):PE X (.Compare a [op] [b] pos) (oN r ta tb):=by intro ae s σ H Q I h;exact wpAny_Compare1 (xt ha hb I h λv u s2 x y H2 I2 rx ry q=>ho ae s2 σ H2 x y v u Q I2 rx ry q) hm
def C8(t:TE):TT:=λσ H Q=>t σ H λx H'=>∃k,x=.bl k/\Q k H'
theorem cK{op:CmpOp}{r:R2}(ho:cV X (compareOp op) r)(ha:PE X a ta)(hb:PE X b tb)(hm:behindInMarks op b=false):PT X (.Compare a [op] [b] pos) (C8 (oN r ta tb)):=by
 intro ae s σ H Q I h;refine wpAny_isTrue_Compare1 (aX (ha ae s σ H _ I h) λv s1 ⟨x,H1,I1,r1,q1⟩=>aX (hb ae s1 σ H1 _ I1 q1) λu s2 ⟨y,H2,I2,r2,q2⟩=>
  aX (ho ae s2 σ H2 x y v u _ I2 r1 r2 q2) λc s3 ⟨z,H3,I3,r3,k,e,q3⟩=>?_) hm
 subst e;cases r3;exact qq ⟨H3,I3,q3⟩
def sK(K:aD)(x:V)(H:Hp)(k:Bool):Prop:=
 match x with
 |.non=>k=false
 |.bl b=>k=b
 |.int i=>k=(i != 0)
 |.str y=>y.length<=sizeLine/\k=((y.length:Int) != 0)
 |.byt y=>y.size<=sizeLine/\k=((y.size:Int) != 0)
 |.ref p=>(∃xs,c9 K H p xs/\k = !xs.isEmpty)\/(∃xs,eQ K H p xs/\k = !xs.isEmpty)\/∃ai,H p=aa (.dK ai)/\k = !ai.isEmpty
 |_=>False
theorem N7{κ:Type}{ai:List (κ×V)}{vs:List (κ×ag)}(r:KV ai vs):(!vs.isEmpty) = !ai.isEmpty:=by cases r<;>rfl
theorem Cz{xs:List V}{aj:List ag}(r:Vals xs aj):(!aj.toArray.isEmpty) = !xs.isEmpty:=by cases r<;>simp
theorem pL:(sizeLine:Nat)<2 ^ 63:=by rw[c6];decide
theorem Dx:Oh X (λx H Q=>∃k,sK X.K x H k/\Q k H):=by
 intro ae s σ H x v Q I rx h;obtain⟨k,e,q⟩:=h;have hl:=pL;have hs:sizeLine=16777216:=c6;cases x with
 |non=>
  cases rx;have e':k=false:=e;subst e';exact truthy_none ⟨H,I,q⟩
 |bl b=>
  cases rx;have e':k=b:=e;subst e';exact qq ⟨H,I,q⟩
 |int i=>
  obtain⟨t,rfl⟩:=rx;have e':k=(i != 0):=e;subst e';exact PySem.P.truthy_int ⟨H,I,q⟩
 |str y=>
  obtain⟨t,rfl⟩:=rx;obtain⟨hy,e'⟩ : y.length<=sizeLine/\k=((y.length:Int) != 0):=e;subst e';exact PySem.P.truthy_str (by omega) ⟨H,I.tok _,q⟩
 |byt y=>
  obtain⟨t,rfl⟩:=rx;obtain⟨hy,e'⟩ : y.size<=sizeLine/\k=((y.size:Int) != 0):=e;subst e';exact PySem.W.truthy_bytes (by omega) ⟨H,I.tok _,q⟩
 |ref p=>
  cases rx;have e':(∃xs,c9 X.K H p xs/\k = !xs.isEmpty)\/(∃xs,eQ X.K H p xs/\k = !xs.isEmpty)\/∃ai,H p=aa (.dK ai)/\k = !ai.isEmpty:=e;rcases e' with ⟨xs,hx,e'⟩|⟨xs,hx,e'⟩|⟨ai,hx,e'⟩
  ·subst e';obtain⟨aj,r,pl,hz⟩:=I.list hx;have hlen:=r.length;exact wpAny_truthy_list pl.isList (by simp only[cq];omega) ⟨H,I.tok _,by rw[Cz r];exact q⟩
  ·subst e';obtain⟨aj,r,pl,hz⟩:=I.tuple hx;have hlen:=r.length;exact truthy_tuple pl (by simp only[cq];omega) ⟨H,I.tok _,by rw[Cz r];exact q⟩
  ·subst e';obtain⟨hz,hS,vs,r,m⟩ : ai.length<=sizeLine/\(p==sysModules)=false/\∃vs,KV ai vs/\s.heap.DictOf (gF X.prog X.w) p vs:=I.hok p _ hx;have hlen:ai.length=vs.length:=qw r;exact wpAny_truthy_dict hS m (by omega) ⟨H,I.tok _,by rw[N7 r];exact q⟩
 |_=>exact(show False from e).elim
theorem m6(ha:PE X a ta)(he:∀whole,isTrue a X.env whole=(do let v <- whole;standAt a.pos;holding [v] (truthy v))) :
 PT X a (λσ H Q=>ta σ H λx H'=>∃k,sK X.K x H' k/\Q k H'):=by
 intro ae s σ H Q I h;exact isTrue_plain (aX (ha ae s σ H _ I h) λv s1 ⟨x,H1,I1,r1,q1⟩=>Dx ae s1 σ H1 x v Q I1 r1 q1) (he _)
theorem LP:cV X (binaryOp .Add) (λx y H Q=>∃i j,x=.str i/\y=.str j/\i.length+j.length<=sizeLine/\Q (.str (i++j)) H):=by intro ae s σ H x y v u Q I rx ry h;obtain⟨i,j,rfl,rfl,hz,q⟩:=h;obtain⟨t,rfl⟩:=rx;obtain⟨t',rfl⟩:=ry;exact add_str (λt' tk=>⟨.str (i++j),H,I.tok _,⟨_,rfl⟩,q⟩) hz
theorem vals1{x:V}{us:List ag}(r:Vals [x] us):∃u,us=[u]/\RelV x u:=by
 cases r with
 |cons r1 r2=>cases r2;exact⟨_,rfl,r1⟩
theorem vals2{x y:V}{us:List ag}(r:Vals [x,y] us):∃u w',us=[u,w']/\RelV x u/\RelV y w':=by
 cases r with
 |cons r1 r2=>
  cases r2 with
  |cons r3 r4=>cases r4;exact⟨_,_,rfl,r1,r3⟩
theorem Mp(hc:X.calm=true):fU X (.builtin "max") (λxs H Q=>∃i j,xs=[.int i,.int j]/\Q (.int (if j>i then j else i)) H):=by
 intro ae s σ H xs us Q I r h;obtain⟨i,j,rfl,q⟩:=h;obtain⟨u,w',rfl,⟨t,rfl⟩,⟨t',rfl⟩⟩:=vals2 r;refine max_two_ints (I.ok.hd hc) λh' tk k=>⟨_,H,I.kept k,?_,q⟩;by_cases hj:j>i
 ·rw[aN hj,aN hj];exact⟨_,rfl⟩
 ·rw[aP hj,aP hj];exact⟨_,rfl⟩
theorem K6(hc:X.calm=true):fU X (.builtin "min") (λxs H Q=>∃i j,xs=[.int i,.int j]/\Q (.int (if j<i then j else i)) H):=by
 intro ae s σ H xs us Q I r h;obtain⟨i,j,rfl,q⟩:=h;obtain⟨u,w',rfl,⟨t,rfl⟩,⟨t',rfl⟩⟩:=vals2 r;refine min_two_ints (I.ok.hd hc) λh' tk k=>⟨_,H,I.kept k,?_,q⟩;by_cases hj:j<i
 ·rw[aN hj,aN hj];exact⟨_,rfl⟩
 ·rw[aP hj,aP hj];exact⟨_,rfl⟩
def Bo(K:aD)(x:V)(H:Hp)(n:Nat):Prop:=
 match x with
 |.str y=>y.length<=sizeLine/\n=y.length
 |.byt y=>y.size<=sizeLine/\n=y.size
 |.ref p=>(∃xs,c9 K H p xs/\n=xs.length)\/∃xs,eQ K H p xs/\n=xs.length
 |_=>False
theorem Nm:fU X (.builtin "len") (λxs H Q=>∃x n,xs=[x]/\Bo X.K x H n/\Q (.int n) H):=by
 intro ae s σ H xs us Q I r h;obtain⟨x,n,rfl,e,q⟩:=h;obtain⟨u,rfl,rx⟩:=vals1 r;have hl:=pL;have hs:sizeLine=16777216:=c6;cases x with
 |str y=>
  obtain⟨t,rfl⟩:=rx;obtain⟨hy,e'⟩ : y.length<=sizeLine/\n=y.length:=e;subst e';exact len_str (by omega) ⟨.int _,H,I.tok _,⟨_,rfl⟩,q⟩
 |byt y=>
  obtain⟨t,rfl⟩:=rx;obtain⟨hy,e'⟩ : y.size<=sizeLine/\n=y.size:=e;subst e';exact PySem.W.len_bytes (by omega) ⟨.int _,H,I.tok _,⟨_,rfl⟩,q⟩
 |ref p=>
  cases rx;have e':(∃xs,c9 X.K H p xs/\n=xs.length)\/∃xs,eQ X.K H p xs/\n=xs.length:=e;rcases e' with ⟨xs,hx,e'⟩|⟨xs,hx,e'⟩
  ·subst e';obtain⟨aj,r',pl,hz⟩:=I.list hx;have hlen:=r'.length;exact Calls.call_len_list pl.isList (by simp only[cq];omega) ⟨.int xs.length,H,I.tok _,⟨_,by simp only[cq];rw[hlen]⟩,q⟩
  ·subst e';obtain⟨aj,r',pl,hz⟩:=I.tuple hx;have hlen:=r'.length;exact len_tuple pl (by simp only[cq];omega) ⟨.int xs.length,H,I.tok _,⟨_,by simp only[cq];rw[hlen]⟩,q⟩
 |_=>exact(show False from e).elim
end
structure xG(h:aJ)(x dx C:af)(mA:Str->Option ag):Prop where
 obj:h.get? x=aa (zH C dx)
 ns:h.Ns1 dx mA
 ne:dx≠x
theorem M3{h:aJ}{dx:af}{mA:Str->Option ag}(n:h.Ns1 dx mA):∃od,h.get? dx=aa od/\∀name,zJ name od=aa (mA name):=by
 obtain⟨o,es,ep,ho,hd,hk,_,hm⟩:=n;refine⟨o,ho,λname=>?_⟩;have e:=hm name;unfold nsFind findBy at e;rw[<- Array.find?_toList]at e;unfold zJ;rw[hd];dsimp only;split
 ·rename_i y q;rw[q]at e;exact congrArg aa e
 ·rename_i q;rw[q]at e;have a:es.toList.any (·.refKey)=false:=by
   rw[G2];intro y hy;obtain⟨z,t,hkey⟩:=hk y (Array.mem_toList_iff.mp hy);simp[DictEntry.refKey,hkey]
  have a':¬ es.toList.any (·.refKey)=true:=by rw[a];exact c7
  rw[aP a'];exact congrArg aa e
theorem xG.look{h:aJ}{x dx C:af}{mA:Str->Option ag}(I:xG h x dx C mA):∃od,PySem.W.InstAt h x (zH C dx) C (aa od)/\∀name,zJ name od=aa (mA name):=
 let ⟨od,ho,hl⟩:=M3 I.ns
 ⟨od,⟨I.obj,rfl,rfl,ho⟩,hl⟩
section
variable{P:bh}{w:a6}{H H':Hp}{h h':aJ}{a C dx:af}{fs fs':List (Str×V)}
theorem Dz(hok:cJ P w H h)(e:H a=aa (.ins C dx fs)):∃mA,xG h a dx C mA/\(∀f,nS (fs.lookup f) (mA f))/\PySem.Within mA (fs.map (·.1))/\fs.length<=1000/\H dx=aa (.own a):=by obtain⟨d,z,ne,ob,mA,n,r,q⟩:=(show bW P w H h a (.ins C dx fs)from hok a _ e);exact⟨mA,⟨ob,n,ne⟩,r,q,z,d⟩
end
structure yg(K:aD)(C:af):Prop where
 pg:Hf K C eV=true
 hd:PySem.W.hasDictIn K C=true
 po:PySem.W.plainOver K C=true
 sa:Hl K (.ref C) "__setattr__" = aa (aa (.builtin "object.__setattr__"))
theorem yg.get{K:aD}{C:af}(c:yg K C)(f:Str):Hf K C f=true:=c.pg
section
variable{X:Cx}{ae:List (af×Obj)}{σ:St}{H:Hp}{s:ao}{A:bx}{E:ag->ao->Prop}{Q:ag->ao->Prop}{c:ag}{b:Bool}
inductive gE(K:aD)(H:Hp):V->ag->Prop where
 |non:gE K H .non (.type "NoneType")
 |bl (x:Bool):gE K H (.bl x) (.type "bool")
 |int (i:Int):gE K H (.int i) (.type "int")
 |str (x:Str):gE K H (.str x) (.type "str")
 |flt (x:UInt64):gE K H (.flt x) (.type "float")
 |lst {a:af} {xs:List V} (e:H a=aa (.lst xs)):gE K H (.ref a) (.type "list")
 |frz {a:af} {o:Obj} {xs:List V} (e:H a=aa (.frz o (.lst xs))):gE K H (.ref a) (.type "list")
 |tup {a:af} {xs:List V} (e:H a=aa (.tup xs)):gE K H (.ref a) (.type "tuple")
 |dK {a:af} {ai:List (Key×V)} (e:H a=aa (.dK ai)):gE K H (.ref a) (.type "dict")
 |dT {a:af} {ai:List (List Key×V)} (e:H a=aa (.dT ai)):gE K H (.ref a) (.type "dict")
 | ins {a C dx:af} {fs:List (Str×V)} (e:H a=aa (.ins C dx fs)) (cl:yg K C) (ha:Hl K (.ref C) "__class__" = aa (aa (.builtin "object.__class__")))
  (hn:PySem.W.specialIn K (.builtin "object.__class__") "__get__" = aa (aa (.builtin "getset_descriptor.__get__"))) (htk:PySem.W.takesIn K (.builtin "object.__class__")=aa true)
  (hm:PySem.W.mroIn K C (.type "object")=aa true):gE K H (.ref a) (.ref C)
theorem KL{x:V}{u t:ag}(I:Inv X ae σ H s)(rx:RelV x u)(ty:gE X.K H x t)(e:zK X.K t c=aa b)(h:∀tk,Q (.bool b) { s with toks:=tk }) :
 wpAny (model X.prog X.w) A (call (.builtin "isinstance") [u,c]) Q E s:=by
 cases ty with
 |non=>cases(show u=fJ from rx);exact j6 Hb I.ff gJ e (λz=>nomatch z) h
 |bl y=>cases(show u=i9 y from rx);exact j6 He I.ff gJ e (λz=>nomatch z) h
 |int i=>obtain⟨t,q⟩:=(show∃t,u=Value.int i t from rx);cases q;exact j6 Hg I.ff gJ e (λz=>nomatch z) h
 |str y=>obtain⟨t,q⟩:=(show∃t,u=lN y t from rx);cases q;exact j6 Hj I.ff gJ e (λz=>nomatch z) h
 |flt y=>obtain⟨t,q⟩:=(show∃t,u=zY y t from rx);cases q;exact j6 G6 I.ff gJ e (λz=>nomatch z) h
 | @lst a xs ea=>
  cases(show u=cG a from rx);obtain⟨_,_,n,_,h1⟩:=(show bW X.prog X.w H s.heap a (.lst xs)from I.hok a _ ea);exact j6 vE I.ff ⟨_,h1,rfl⟩ e (λz=>nomatch z) h
 | @frz a ob xs ea=>
  cases(show u=cG a from rx);obtain⟨_,_,_,n,_,h1⟩:=(show bW X.prog X.w H s.heap a (.frz ob (.lst xs))from I.hok a _ ea);exact j6 vE I.ff ⟨_,h1,rfl⟩ e (λz=>nomatch z) h
 | @tup a xs ea=>
  cases(show u=cG a from rx);obtain⟨_,_,_,p⟩:=(show bW X.prog X.w H s.heap a (.tup xs)from I.hok a _ ea);obtain⟨o,h1,h2,_⟩:=p;exact j6 G7 I.ff ⟨o,h1,h2⟩ e (λz=>nomatch z) h
 | @dK a ai ea=>
  cases(show u=cG a from rx);obtain⟨_,_,vs,_,p⟩:=(show bW X.prog X.w H s.heap a (.dK ai)from I.hok a _ ea);obtain⟨o,es,ep,h1,h2,_⟩:=p;exact j6 vF I.ff ⟨o,h1,h2.1⟩ e (λz=>nomatch z) h
 | @dT a ai ea=>
  cases(show u=cG a from rx);obtain⟨_,_,xs,_,o,es,ep,h1,h2,_⟩:=(show bW X.prog X.w H s.heap a (.dT ai)from I.hok a _ ea);exact j6 vF I.ff ⟨o,h1,h2.1⟩ e (λz=>nomatch z) h
 | @ins a C dx fs ea cl ha hn htk hm=>
  cases(show u=cG a from rx);obtain⟨mA,O,_⟩:=Dz I.hok ea;obtain⟨od,J,_⟩:=O.look;exact j6 (Hk (cl.get _) cl.hd ha hn htk hm) I.ff J e (λz=>nomatch z) h
end
structure b9(k:Nat)(A:bx):Prop where
 hd:A.handled=ac
 dp:A.depth+3*k+5<recursionLimit
 un:A.units+16*k+200<cLine
theorem b9.mono{j k:Nat}{A:bx}(r:b9 k A)(h:j<=k):b9 j A:=⟨r.hd,by have:=r.dp;omega,by have:=r.un;omega⟩
theorem b9.deeper{k:Nat}{A:bx}(r:b9 (k+1) A)(env:Env):b9 k (A.deeper env):=⟨r.hd,by have:=r.dp;show A.depth+1+3*k+5<_;omega,by have:=r.un;show A.units+3+16*k+200<_;omega⟩
theorem b9.in1{k:Nat}{A:bx}(r:b9 (k+1) A):b9 k A.in1:=⟨r.hd,by have:=r.dp;show A.depth+3*k+5<_;omega,by have:=r.un;show A.units+1+16*k+200<_;omega⟩
theorem b9.depth{k:Nat}{A:bx}(r:b9 k A):A.depth<recursionLimit:=by have:=r.dp;omega
theorem b9.units{k:Nat}{A:bx}(r:b9 k A):A.units+64<cLine:=by have:=r.un;omega
def ip:TA:=λ_ H Q=>Q [] H
def gm(ta:TE)(tr:TA):TA:=λσ H Q=>ta σ H λx H1=>tr σ H1 λxs H2=>Q (x::xs) H2
section
variable{X:Cx}{e:aU}{es:List aU}{te:TE}{t:TA}{pos:Pos}
theorem a8:PA X [] ip:=λ_ _ _ _ H Q I h=>wj ⟨[],H,I,.nil,h⟩
theorem ax(ha:PE X e te)(hr:PA X es t)(hs:starEach (e::es) X.env=(false,eval e X.env)::starEach es X.env:=by rfl):PA X (e::es) (gm te t):=by intro pos ae s σ H Q I h;rw[hs];show wpAny _ _ (spliced ((false,eval e X.env)::backTo pos (starEach es X.env))) _ _ s;refine tH (aX (ha ae s σ H _ I h) λu s1 ⟨x,H1,I1,r1,q1⟩=>?_);exact aX (hr pos ae s1 σ H1 _ I1 q1) λus s2 ⟨xs,H2,I2,r2,q2⟩=>⟨x::xs,H2,I2,.cons r1 r2,q2⟩
def yx(t:TA):TE:=λσ H Q=>t σ H λxs H1=>xs.length<=sizeLine/\∀p,H1 p=ac->Q (.ref p) (upd H1 p (.tup xs))
def Bi(t:TA):TE:=λσ H Q=>t σ H λxs H1=>xs.length<=sizeLine/\∀p,H1 p=ac->Q (.ref p) (upd H1 p (.lst xs))
theorem iG{x1}(h:PA X es t):PE X (.Tuple es x1 pos) (yx t):=by intro ae s σ H Q I hq;refine wpAny_Tuple_spliced (aX (h pos ae s σ H _ I hq) λus s1 ⟨xs,H1,I1,r,z,q⟩=>⟨by rw[<- r.length];exact z,?_⟩);have hf:H1 s1.heap.objs.size=ac:=I1.hok.fresh (bq _);refine⟨.ref s1.heap.objs.size,upd H1 s1.heap.objs.size (.tup xs),I1.laid (t':=s1.toks) (λb u e=>b8 _ e) (bq _) ?_,rfl,q _ hf⟩;exact⟨z,us,r,⟨_,de _ rfl,rfl,rfl,_,rfl⟩⟩
theorem fv(h:PA X es t):PE X (.List es pos) (Bi t):=by intro ae s σ H Q I hq;refine wpAny_List_spliced (aX (h pos ae s σ H _ I hq) λus s1 ⟨xs,H1,I1,r,z,q⟩=>⟨by rw[<- r.length];exact z,?_⟩);have hf:H1 s1.heap.objs.size=ac:=I1.hok.fresh (bq _);refine⟨.ref s1.heap.objs.size,upd H1 s1.heap.objs.size (.lst xs),I1.laid (t':=s1.toks) (λb u e=>b8 _ e) (bq _) ?_,rfl,q _ hf⟩;exact⟨z,us,0,r,de _ rfl⟩
end
abbrev Sp:=List V->Hp->VK->XK->Prop
abbrev f7:=List Env->Hp->ao->XK->ag->ao->Prop
structure lU(P:bh)(w:a6)(K:aD)(mg:Str->Option ag)(base:aJ)(A:bx)(outer:List Env)(s:ao)(H:Hp):Prop where
 frames:A.frames=aa outer
 mod:Mod K mg base
 bs:∀b o,base.get? b=aa o->s.heap.get? b=aa o/\H b=ac
 bsz:base.objs.size<=s.heap.objs.size
 i4:s.heap.FunFrames base outer
 frf:∀b∈frs outer,H b=ac
 hok:cJ P w H s.heap
 bare:mW s.gens
def CE(outer:List Env)(P:bh)(w:a6)(H:Hp)(s:ao)(Q:VK)(u:ag)(s':ao):Prop:=∃v H',s'.os=s.os/\mW s'.gens/\Un (frs outer) [] H H' s.heap s'.heap/\cJ P w H' s'.heap/\RelV v u/\Q v H'
def CR(CX:f7)(outer:List Env)(P:bh)(w:a6)(H:Hp)(s:ao)(Q:VK)(E:XK)(r:Result)(s':ao):Prop:=
 match r with
 |.ok (.ret u)=>CE outer P w H s Q u s'
 |.ok _=>False
 |.error e=>CX outer H s E e s'
structure bE(P:bh)(w:a6)(K:aD)(mg:Str->Option ag)(base:aJ)(CX:f7)(k:Nat)(f:af)(fd:bF)(ps:List Str)(sp:Sp):Prop where
 len:∀vs H Q E,sp vs H Q E->vs.length=ps.length
 run:∀(A:bx) (outer:List Env) (s:ao) (H:Hp) (args:Args) (us:List ag) (vs:List V) (Q:VK) (E:XK),b9 k A->lU P w K mg base A outer s H->lL s fd args (ps.zip us)->Vals vs us->sp vs H Q E ->
  codeAny (model P w) A (.call (.ref f) args) (CR CX outer P w H s Q E) s
theorem bE.imp{P:bh}{w:a6}{K:aD}{mg:Str->Option ag}{base:aJ}{CX:f7}{k:Nat}{f:af}{fd:bF}{ps:List Str}{sp sp':Sp}(F:bE P w K mg base CX k f fd ps sp)
 (h:∀vs H Q E,sp' vs H Q E->sp vs H Q E):bE P w K mg base CX k f fd ps sp':=
 ⟨λvs H Q E q=>F.len vs H Q E (h _ _ _ _ q),λA outer s H args us vs Q E hr he hb hv hs=>F.run A outer s H args us vs Q E hr he hb hv (h _ _ _ _ hs)⟩
section
variable{X:Cx}{ae:List (af×Obj)}{σ:St}{H:Hp}{s s':ao}
theorem Inv.env0(I:Inv X ae σ H s):lU X.prog X.w X.K X.mg X.base X.A X.stack s H:=⟨I.ok.frames,I.ok.mod,I.bs,dR I.ok.bsz I.sz,I.stack,I.yD,I.hok,I.bare⟩
theorem Inv.after{Q:VK}{u:ag}(I:Inv X ae σ H s)(h:CE X.stack X.prog X.w H s Q u s'):EP X ae σ Q u s':=by obtain⟨v,H',os,bare,un,hok,r,q⟩:=h;obtain⟨hh,g,d,t,os'⟩:=s';obtain rfl:os'=s.os:=os;exact⟨v,H',I.call (h':=hh) (g':=g) (d':=d) (t':=t) (ch:=[]) un hok bare (λb z=>absurd z (by simp)),r,q⟩
end
def mr(sp:Sp)(dvs:List V)(E:XK)(t:TA):TE:=λσ H Q=>t σ H λvs H1=>sp (vs++dvs) H1 Q E
def Binds(K:aD)(fd:bF)(ps:List Str)(ds:List ag):Prop:=∀(s:ao) (us:List ag),K.In s.heap->(us++ds).length=ps.length->lL s fd ⟨us,[]⟩ (ps.zip (us++ds))
theorem Binds.all{K:aD}{fd:bF}{ps:List Str}(h:∀us:List ag,us.length=ps.length->bindArgs fd ⟨us,[]⟩=pure (ps.zip us)):Binds K fd ps []:=λs us _ hl=>by
 rw[lJ]at hl ⊢;exact .of_eq (h us hl)
def vg(CX:f7)(X:Cx)(E:XK):Prop:=∀(ae:List (af×Obj)) (σ:St) (H:Hp) (s:ao) (e:ag) (s':ao),Inv X ae σ H s->CX X.stack H s E e s'->X.xe e s'
section
variable{X:Cx}{CX:f7}{k:Nat}{f C:af}{fd:bF}{ps:List Str}{sp:Sp}{dvs:List V}{ds:List ag}{E:XK}{x m:Str}{p pos apos:Pos}{e o:aU}{es:List aU}{ta:TE}{t:TA}
theorem L1{ae:List (af×Obj)}{σ:St}{H:Hp}{s:ao}{Q:VK}{us:List ag}{vs:List V}(F:bE X.prog X.w X.K X.mg X.base CX k f fd ps sp)(hr:b9 k X.A)(hb:Binds X.K fd ps ds)(hd:Vals dvs ds)(hx:vg CX X E)
 (I:Inv X ae σ H s) (r:Vals vs us) (h:sp (vs++dvs) H Q E):wpAny (model X.prog X.w) X.A (call (.ref f) us) (EP X ae σ Q) X.xe s:=by
 have r2:Vals (vs++dvs) (us++ds):=r.append hd;have hl:(us++ds).length=ps.length:=by rw[<- r2.length];exact F.len _ _ _ _ h
 refine vR (vO (F.run X.A X.stack s H ⟨us,[]⟩ (us++ds) (vs++dvs) Q E hr I.env0 (hb s us I.ff hl) r2 h) λr s' hq=>?_);cases r with
 |error e=>exact hx ae σ H s e s' I hq
 |ok fl=>
  cases fl with
  |ret u=>exact I.after hq
  |next=>exact h9 hq
  |brk=>exact h9 hq
  |cont=>exact h9 hq
theorem LL(F:bE X.prog X.w X.K X.mg X.base CX k f fd ps sp)(hr:b9 k X.A)(hg:Gl X x)(hm:X.mg x=aa (.ref f))(hk:kR X.K (.ref f)=true)(hb:Binds X.K fd ps ds)(hd:Vals dvs ds)(hx:vg CX X E)
 (ha:PA X (e::es) t) (hdb:(x==("__debug__" : Str))=false:=by decide) (he:starEach (e::es) X.env=(false,eval e X.env)::starEach es X.env:=by rfl) (hpl:(backTo pos (starEach es X.env)).any (·.1)=false:=by rfl) :
 PE X (.Call (.Name x p) (e::es) [] pos) (mr sp dvs E t):=by
 intro ae s σ H Q I h;refine qp (Ba I hg hm ?_ hdb);refine G8 (h₀:=X.base) I.ok.mod.kin hk (aX (ha pos ae s σ H _ I h) λus s1 ⟨vs,H1,I1,r,q⟩=>⟨I1.ff,?_⟩) he hpl;exact L1 F hr hb hd hx I1 r q
end
structure cu(N P:List Str)(sc:dB):Prop where
 kind:sc.kind=.function
 co:sc.isCoroutine=false
 gen:sc.isGenerator=false
 nd:N.Nodup
 pre:N.take P.length=P
 par:∀x∈P,sc.names.lookup x=aa .local\/sc.names.lookup x=aa .cell
 PR:∀y∈sc.names,y.2≠.free
theorem E6{kindOf:Str->Option mR}{x:Str}:∀{binds:List (Str×ag)} {m:Str->Option ag},(∀v,(x,v)∉binds)->bindL kindOf binds m x=m x
 |[],_,_=>rfl
 |(n,v)::r,m,h=>by
  unfold bindL;rw[E6 λw hw=>h w (cy _ hw)];split
  ·have:x≠n:=by rintro rfl;exact h v bP
   simp[this]
  ·rfl
theorem DH{kindOf:Str->Option mR}{x:Str}:∀{binds:List (Str×ag)} {m:Str->Option ag},(∀v,(x,v)∉binds)->bindC kindOf binds m x=m x
 |[],_,_=>rfl
 |(n,v)::r,m,h=>by
  unfold bindC;rw[DH λw hw=>h w (cy _ hw)];split
  ·rfl
  ·have:x≠n:=by rintro rfl;exact h v bP
   simp[this]
theorem Gc{kindOf:Str->Option mR}{x:Str}{v:ag}:∀{P:List Str} {vs:List ag} {i:Nat} {m:Str->Option ag},P.Nodup->P[i]? = aa x->vs[i]? = aa v->kindOf x=aa .local ->
 bindL kindOf (P.zip vs) m x=aa v
 |[],_,_,_,_,h,_,_=>by simp at h
 |_::_,[],_,_,_,_,h,_=>by simp at h
 |p::P,w::vs,0,m,nd,h1,h2,hk=>by
  simp at h1 h2;subst h1;subst h2;show bindL kindOf ((p,w)::P.zip vs) m p=_;unfold bindL;rw[E6 λv hv=>(j4.mp nd).1 (vA hv).1,aN hk];simp
 |p::P,w::vs,i+1,m,nd,h1,h2,hk=>by
  show bindL kindOf ((p,w)::P.zip vs) m x=_;unfold bindL;exact Gc (i:=i) (j4.mp nd).2 (by simpa using h1) (by simpa using h2) hk
theorem Cs{kindOf:Str->Option mR}{x:Str}{v:ag}:∀{P:List Str} {vs:List ag} {i:Nat} {m:Str->Option ag},P.Nodup->P[i]? = aa x->vs[i]? = aa v->kindOf x≠aa .local ->
 bindC kindOf (P.zip vs) m x=aa v
 |[],_,_,_,_,h,_,_=>by simp at h
 |_::_,[],_,_,_,_,h,_=>by simp at h
 |p::P,w::vs,0,m,nd,h1,h2,hk=>by
  simp at h1 h2;subst h1;subst h2;show bindC kindOf ((p,w)::P.zip vs) m p=_;unfold bindC;rw[DH λv hv=>(j4.mp nd).1 (vA hv).1,aP hk];simp
 |p::P,w::vs,i+1,m,nd,h1,h2,hk=>by
  show bindC kindOf ((p,w)::P.zip vs) m x=_;unfold bindC;exact Cs (i:=i) (j4.mp nd).2 (by simpa using h1) (by simpa using h2) hk
def start(N:List Str)(vs:List V):St:=vs.map aa++dq (N.length-vs.length) ac
def ki(CX:f7)(P:bh)(w:a6)(K:aD)(mg:Str->Option ag)(base:aJ)(N:List Str)(qual:Str)(scope:dB)(f:af)(cd:ag)(A:bx)(outer:List Env)(s:ao)(H:Hp)(E:XK):Cx where
 prog:=P
 w:=w
 K:=K
 mg:=mg
 base:=base
 A:=A.deeper (envOfC qual scope s.heap.objs.size f cd)
 N:=N
 s₀:=s
 H₀:=H
 env:=envOfC qual scope s.heap.objs.size f cd
 outer:=outer
 stack:=envOfC qual scope s.heap.objs.size f cd::outer
 ex:=[]
 calm:=true
 fn:=λ_=>true
 pn:=[]
 xe:=λe s'=>wpAny (model P w) (A.deeper (envOfC qual scope s.heap.objs.size f cd)) (leaving (envOfC qual scope s.heap.objs.size f cd) e) (λ_ s''=>CX outer H s E e s'') (λe' s''=>CX outer H s E e' s'') s'
theorem E9{sc:dB}{n:Nat}{x:Str}(h:sc.names.lookup x=aa .cell):∃c,(cellsFrom n sc.names []).lookup x=aa c:=by have q:=zF sc.names n [] (.inl h);exact Option.isSome_iff_exists.mp q
theorem CH{CX:f7}{P:bh}{w:a6}{K:aD}{mg:Str->Option ag}{base:aJ}{N ps:List Str}{qual:Str}{scope:dB}{f:af}{cd:ag}{A:bx}{outer:List Env}{s s1:ao}{H:Hp}{E:XK}{us:List ag}{vs:List V}
 (S:cu N ps scope) (hd:A.handled=ac) (e0:lU P w K mg base A outer s H) (hl:vs.length=ps.length) (r:Vals vs us)
 (x:InCallC s s.heap.objs.size (bindL (envOfC qual scope s.heap.objs.size f cd).kindOf (ps.zip us) λ_=>ac) (cellsFrom (s.heap.objs.size+1) scope.names []) (bindC (envOfC qual scope s.heap.objs.size f cd).kindOf (ps.zip us) λ_=>ac) s1) :
 Inv (ki CX P w K mg base N qual scope f cd A outer s H E) [] (start N vs) H s1:=by
 have hpl:ps.length<=N.length:=by have:=congrArg zE S.pre;rw[i5]at this;omega
 obtain⟨h1,tk,rfl,hk⟩:=x.done;have noA:∀b:af,b∉(ki CX P w K mg base N qual scope f cd A outer s H E).ex:=λb z=>absurd (show b∈([]:List af)from z) (by simp);refine⟨⟨e0.mod,S.kind,rfl,rfl,bq _,λy z c h1 h2=>?_,λy hy=>?_,λy c _ h=>?_,λ_=>hd,Aa e0.frames,.inr ⟨rfl,rfl⟩,λb z=>absurd z (noA b),e0.bs,e0.bsz,λb _ _=>noA b,λb z=>absurd z (noA b),e0.i4,e0.frf⟩,
  rfl,e0.bare,Un.kept hk,⟨_,x.toInCall.ns,λi y v h1 h2 h3=>?_⟩,λy c h=>⟨_,x.cell y c h⟩,e0.hok.fresh (bq _),λy c h=>?_,λp hp=>absurd (show p∈([]:List (af×Obj))from hp) (by simp),e0.hok.kept hk,?_⟩
 ·exact name_of_addr x.apart (kT h1) (kT h2)
 ·have hy:scope.names.lookup y=aa .cell\/scope.names.lookup y=aa .free:=hy;rcases hy with hy|hy
  ·exact E9 hy
  ·exact absurd rfl (S.PR _ (kT hy))
 ·exact vV (x.above y c (kT h))
 ·have hi:i<vs.length:=by
   unfold start at h2;by_cases hi:i<vs.length
   ·exact hi
   ·rw[GO (by simpa using hi)]at h2;rw[GQ]at h2;split at h2<;>cases h2
  have ha:vs[i]? = aa v:=by
   unfold start at h2;rw[zo (by simpa using hi),cZ]at h2;cases e:vs[i]? with
   |none=>rw[e]at h2;cases h2
   |some a=>rw[e]at h2;cases h2;rfl
  obtain⟨u,hu,rv⟩:=r.get ha;have hp:ps[i]? = aa y:=by rw[<- S.pre,zp (by omega)];exact h1
  have ndP:ps.Nodup:=by rw[<- S.pre];exact S.nd.sublist (List.take_sublist _ _)
  refine⟨u,rv,?_⟩;rcases S.par y (jz hp)with k|k
  ·exact .inl ⟨k,Gc ndP hp hu k⟩
  ·obtain⟨c,e⟩:=E9 (n:=s.heap.objs.size+1) k;refine .inr ⟨.inl k,c,e,?_⟩;have q:=x.cell y c e;rw[Cs ndP hp hu (by show scope.names.lookup y≠_;rw[k];decide)]at q;exact q
 ·exact e0.hok.fresh (vV (x.above y c (kT h)))
 ·unfold start;show _=N.length;rw[cC,aQ,zt];omega
theorem Ej{CX:f7}{P:bh}{w:a6}{K:aD}{mg:Str->Option ag}{base:aJ}{k:Nat}{f:af}{name qual:Str}{params:mP}{body:List bt}{scope:dB}{dV kV doc pm cdv ct oc:ag}{an od:Option af}
 {osl:Array (Option ag)} {N ps:List Str} {sp:Sp} (lk:K.lookup f=aa ⟨oc,od,.func (j7 name qual params body scope dV kV doc pm an cdv ct),osl⟩) (hcd:qk K cdv qual=true) (S:cu N ps scope)
 (len:∀vs H Q E,sp vs H Q E->vs.length=ps.length)
 (hbody:∀(A:bx) (outer:List Env) (s:ao) (H:Hp) (vs:List V) (Q:VK) (E:XK),b9 k (A.deeper (envOfC qual scope s.heap.objs.size f cdv))->sp vs H Q E ->
  ∃t,f6 (ki CX P w K mg base N qual scope f cdv A outer s H E) body t/\t { nx:=λ_ H'=>Q .non H',rt:=Q } (start N vs) H) :
 bE P w K mg base CX (k+1) f (j7 name qual params body scope dV kV doc pm an cdv ct) ps sp:=by
 refine⟨len,λA outer s H args us vs Q E hr e0 hb r hsp=>?_⟩;have hl:=len _ _ _ _ hsp;have KX:K.In s.heap:=e0.mod.kin.keeps λb o e=>(e0.bs b o e).1;have lim:s.heap.NoLimit:=e0.mod.nolimit.keeps λb o e=>(e0.bs b o e).1;have hkind:∀y∈ps.zip us,scope.names.lookup y.1=aa .local\/(scope.names.lookup y.1=aa .cell/\((cellsFrom (s.heap.objs.size+1) scope.names []).lookup y.1).isSome=true):=λ⟨n,v⟩ hy=>by
  rcases S.par n (vA hy).1 with q|q
  ·exact .inl q
  ·exact .inr ⟨q,zF _ _ _ (.inl q)⟩
 refine codeAny_call_function hr.depth (KX _ _ lk) rfl S.co S.gen rfl (G9 KX hcd) (hb _ _ _ _ ?_);refine Ho S.kind hkind λenv he s1 x=>?_;subst he;refine⟨lim.keeps x.toInCall.keep,codeAny_func ?_⟩;obtain⟨t,ht,hq⟩:=hbody A outer s H vs Q E (hr.deeper _) hsp;have I:Inv (ki CX P w K mg base N qual scope f cdv A outer s H E) [] (start N vs) H s1:=CH S hr.hd e0 hl r x;refine gH (ht [] s1 (start N vs) H _ I hq) (λfl s' hs=>?_) λe s' hs=>hs;have fin:∀{σ':St} {H':Hp} {v:V} {u:ag},Inv (ki CX P w K mg base N qual scope f cdv A outer s H E) [] σ' H' s'->RelV v u->Q v H'->CE outer P w H s Q u s':=
  λ{σ' H' v u} J rv q=>⟨v,H',J.os,J.bare,J.base,J.hok,rv,q⟩
 cases fl with
 |ret u=>
  obtain⟨v,σ',H',J,rv,q⟩:=hs;exact fin J rv q
 |next=>
  obtain⟨σ',H',J,q⟩:=hs;exact fin (v:=V.non) (u:=fJ) J rfl q
 |brk=>
  obtain⟨_,_,_,q⟩:=hs;exact h9 q
 |cont=>
  obtain⟨_,_,_,q⟩:=hs;exact h9 q
section
variable{X:Cx}{x:Str}{p pos:Pos}{e:aU}{es:List aU}{t:TA}{id T:String}{r:List V->Hp->VK->Prop}
def qY(r:List V->Hp->VK->Prop)(t:TA):TE:=λσ H Q=>t σ H λvs H1=>r vs H1 Q
theorem dH(hc:fU X (.builtin id) r)(hg:Gl X x)(hm:X.mg x=ac)(hv:bootBuiltins x=aa (.builtin id))(ha:PA X (e::es) t)(hn:x ≠ "__name__" := by decide)(hdb:(x==("__debug__" : Str))=false:=by decide)
 (he:starEach (e::es) X.env=(false,eval e X.env)::starEach es X.env:=by rfl) (hpl:(backTo pos (starEach es X.env)).any (·.1)=false:=by rfl):PE X (.Call (.Name x p) (e::es) [] pos) (qY r t):=by
 intro ae s σ H Q I h;refine qp (ng I hg hm hv ?_ hn hdb);exact PyProof.Rows.callWith_builtin1 (aX (ha pos ae s σ H _ I h) λus s1 ⟨vs,H1,I1,r1,q1⟩=>hc ae s1 σ H1 vs us Q I1 r1 q1) he hpl
theorem kJ(hc:fU X (.type T) r)(hg:Gl X x)(hm:X.mg x=ac)(hv:bootBuiltins x=aa (.type T))(ha:PA X (e::es) t)(hn:x ≠ "__name__" := by decide)(hdb:(x==("__debug__" : Str))=false:=by decide)
 (he:starEach (e::es) X.env=(false,eval e X.env)::starEach es X.env:=by rfl) (hpl:(backTo pos (starEach es X.env)).any (·.1)=false:=by rfl):PE X (.Call (.Name x p) (e::es) [] pos) (qY r t):=by
 intro ae s σ H Q I h;refine qp (ng I hg hm hv ?_ hn hdb);exact v7 (aX (ha pos ae s σ H _ I h) λus s1 ⟨vs,H1,I1,r1,q1⟩=>hc ae s1 σ H1 vs us Q I1 r1 q1) he hpl
end
end L2
namespace HT
open PySem PyProof.Rows
section
variable{prog:bh}{w:a6}{A:bx}{E:ag->ao->Prop}{s:ao}
def da(n d:Nat):Option Int->Nat
 |none=>d
 |some v=>if v<0 then(v+(n:Int)).toNat else min v.toNat n
theorem BB(n d:Nat)(hd:d<=n)(o:Option Int):da n d o<=n:=by
 cases o with
 |none=>exact hd
 |some v=>
  show(if v<0 then(v+(n:Int)).toNat else min v.toNat n)<=n;by_cases hv:v<0
  ·rw[aN hv];omega
  ·rw[aP hv];exact Nat.min_le_right _ _
end
end HT
namespace L2
open PySem PySem.Spec PyProof.Rows
abbrev TO:=St->Hp->(Option Int->Hp->Prop)->Prop
def PO(X:Cx)(e:Option aU)(t:TO):Prop:=
 ∀(ae:List (af×Obj)) (s:ao) (σ:St) (H:Hp) (Q:Option Int->Hp->Prop),Inv X ae σ H s->t σ H Q ->
  wpAny (model X.prog X.w) X.A (evalPart e X.env) (λu s'=>∃o H',Inv X ae σ H' s'/\IsPart u o/\Q o H') X.xe s
def Fd:TO:=λ_ H Q=>Q ac H
def D3(t:TE):TO:=λσ H Q=>t σ H λx H1=>∃i,x=.int i/\Q (aa i) H1
section
variable{X:Cx}{e:aU}{te:TE}{lo hi:Option aU}{tl th:TO}{pos p2:Pos}
theorem qF:PO X ac Fd:=by intro ae s σ H Q I h;rw[evalPart_none];exact bn ⟨ac,H,I,.none,h⟩
theorem nU(h:PE X e te):PO X (aa e) (D3 te):=by intro ae s σ H Q I hw;rw[evalPart_some];refine aX (h ae s σ H _ I hw) λu s1 ⟨x,H1,I1,r1,q1⟩=>?_;obtain⟨i,rfl,q⟩:=q1;obtain⟨t,rfl⟩:=r1;exact⟨aa i,H1,I1,.int i t,q⟩
def lX(X:Cx)(r:V->Option Int->Option Int->Hp->VK->Prop):Prop:=
 ∀(ae:List (af×Obj)) (s:ao) (σ:St) (H:Hp) (x:V) (v vl vu:ag) (lo hi:Option Int) (sl:af) (Q:VK),Inv X ae σ H s->RelV x v->s.heap.IsSliceOf sl vl vu .none->IsPart vl lo->IsPart vu hi->r x lo hi H Q ->
  ∃T id,typeLookup (.type T) "__getitem__" = pure (aa (.builtin id))/\s.TypeIs v T/\wpAny (model X.prog X.w) X.A (getItem v (.ref sl)) (EP X ae σ Q) X.xe s
theorem lX.or{r r':V->Option Int->Option Int->Hp->VK->Prop}(h:lX X r)(h':lX X r'):lX X (λx lo hi H Q=>r x lo hi H Q\/r' x lo hi H Q):=by
 intro ae s σ H x v vl vu lo hi sl Q I rx hs pl pu q;rcases q with q|q
 ·exact h ae s σ H x v vl vu lo hi sl Q I rx hs pl pu q
 ·exact h' ae s σ H x v vl vu lo hi sl Q I rx hs pl pu q
def Et(r:V->Option Int->Option Int->Hp->VK->Prop)(te:TE)(tl th:TO):TE:=λσ H Q=>te σ H λx H1=>tl σ H1 λl H2=>th σ H2 λu H3=>r x l u H3 Q
theorem pR{r:V->Option Int->Option Int->Hp->VK->Prop}(hr:lX X r)(he:PE X e te)(hl:PO X lo tl)(hu:PO X hi th):PE X (.Subscript e (.Slice lo hi ac p2) pos) (Et r te tl th):=by intro ae s σ H Q I h;refine Subscript_ (aX (he ae s σ H _ I h) λv s1 ⟨x,H1,I1,r1,q1⟩=>?_);refine wpAny_Slice (aX (hl ae s1 σ H1 _ I1 q1) λvl s2 ⟨l,H2,I2,pl,q2⟩=>aX (hu ae s2 σ H2 _ I2 q2) λvu s3 ⟨u,H3,I3,pu,q3⟩=>?_);rw[evalPart_none];refine bn ?_;have I4:Inv X ae σ H3 { s3 with heap:=s3.heap.push { cls:=.type "slice",data:=.fields #[vl,vu,.none] } }:=I3.kept (t':=s3.toks) λb ob q=>b8 _ q;obtain⟨T,id,hT,ht,hg⟩:=hr ae { s3 with heap:=s3.heap.push { cls:=.type "slice",data:=.fields #[vl,vu,.none] } } σ H3 x v vl vu l u s3.heap.objs.size Q I4 r1 (Heap.IsSliceOf.new ..) pl pu q3;show wpAny (model X.prog X.w) X.A (subscriptTail e (.Slice lo hi ac p2) v (.ref s3.heap.objs.size)) (EP X ae σ Q) X.xe { s3 with heap:=s3.heap.push { cls:=.type "slice", data:=.fields #[vl,vu,.none] } };exact tail_any (ops:=[.ref s3.heap.objs.size,v]) ht hT hg (by with_unfolding_all rfl)
def o0(xs:List V)(lo hi:Option Int):List V:=(xs.drop (HT.da xs.length 0 lo)).take (HT.da xs.length xs.length hi-HT.da xs.length 0 lo)
theorem M4(xs:List V)(lo hi:Option Int):(o0 xs lo hi).length<=xs.length:=by unfold o0;rw[i5,kN];omega
end
def ed(n:Nat)(i:Int):Option Nat:=if 0<=i then(if i<n then aa i.toNat else ac)else if -(n:Int)<=i then aa (i+n).toNat else ac
def dg{α:Type}(xs:List α)(i:Int):Option α:=(ed xs.length i).bind λj=>xs[j]?
theorem Gp{n:Nat}{i:Int}{j:Nat}(h:ed n i=aa j):seqIndex? i n=aa j/\j<n/\-(n:Int)<=i/\i<n:=by
 unfold ed at h;by_cases h0:0<=i
 ·rw[aN h0]at h;by_cases h1:i<n
  ·rw[aN h1]at h;have e:i.toNat=j:=fj h;exact⟨by rw[vQ h0 h1,e],by omega,by omega,h1⟩
  ·rw[aP h1]at h;cases h
 ·rw[aP h0]at h;by_cases h1:-(n:Int)<=i
  ·rw[aN h1]at h;have e:(i+n).toNat=j:=fj h;exact⟨by rw[vP (by omega) h1,e],by omega,h1,by omega⟩
  ·rw[aP h1]at h;cases h
theorem yV{α:Type}{xs:List α}{i:Int}{v:α}(h:dg xs i=aa v):∃j,seqIndex? i xs.length=aa j/\xs[j]? = aa v/\j<xs.length/\-(xs.length:Int)<=i/\i<xs.length:=by
 unfold dg at h;cases e:ed xs.length i with
 |none=>rw[e]at h;cases h
 |some j=>
  rw[e]at h;obtain⟨h1,h2,h3,h4⟩:=Gp e;exact⟨j,h1,h,h2,h3,h4⟩
def CF(b:aU):Prop:=∀o i,subscripted b false o i=operate [o,i] (getItem o i)
def k8(X:Cx)(r:R2):Prop:=
 ∀(value slice:aU) (ae:List (af×Obj)) (s:ao) (σ:St) (H:Hp) (x y:V) (v u:ag) (Q:VK),Inv X ae σ H s->RelV x v->RelV y u->r x y H Q ->
  subscripted slice false v u=operate [v,u] (getItem v u)->wpAny (model X.prog X.w) X.A (subscriptTail value slice v u) (EP X ae σ Q) X.xe s
def lp(X:Cx)(id:String)(r:V->List V->Hp->VK->Prop):Prop:=
 ∀(ae:List (af×Obj)) (s:ao) (σ:St) (H:Hp) (x:V) (xs:List V) (v:ag) (us:List ag) (Q:VK),Inv X ae σ H s->RelV x v->Vals xs us->r x xs H Q ->
  wpAny (model X.prog X.w) X.A (call (.builtin id) (v::us)) (EP X ae σ Q) X.xe s
section
variable{X:Cx}{a b:aU}{ta tb:TE}{pos:Pos}
theorem k8.or{r r':R2}(h:k8 X r)(h':k8 X r'):k8 X (λx y H Q=>r x y H Q\/r' x y H Q):=by
 intro value slice ae s σ H x y v u Q I rx ry q hs;rcases q with q|q
 ·exact h value slice ae s σ H x y v u Q I rx ry q hs
 ·exact h' value slice ae s σ H x y v u Q I rx ry q hs
theorem Gs{r:R2}(hr:k8 X r)(ha:PE X a ta)(hb:PE X b tb)(hs:CF b):PE X (.Subscript a b pos) (oN r ta tb):=by intro ae s σ H Q I h;exact Subscript_ (xt ha hb I h λv u s2 x y H2 I2 rx ry q=>hr a b ae s2 σ H2 x y v u Q I2 rx ry q (hs _ _))
def F5(K:aD):R2:=λx y H Q=>∃p xs i v,x=.ref p/\y=.int i/\c9 K H p xs/\dg xs i=aa v/\Q v H
def Fw(K:aD):R2:=λx y H Q=>∃p xs i v,x=.ref p/\y=.int i/\eQ K H p xs/\dg xs i=aa v/\Q v H
def Eg:R2:=λx y H Q=>∃z i c,x=.str z/\y=.int i/\z.length<=sizeLine/\dg z.cps.toList i=aa c/\Q (.str ⟨#[c]⟩) H
theorem Nd:k8 X (F5 X.K):=by
 intro value slice ae s σ H x y v u Q I rx ry h hs;obtain⟨p,xs,i,z,rfl,rfl,hq,he,q⟩:=h;cases rx;obtain⟨t,rfl⟩:=ry;obtain⟨aj,r,pl,hz⟩:=I.list hq;obtain⟨j,h1,h2,h3,h4,h5⟩:=yV he;obtain⟨w,ew,rw'⟩:=r.get h2;have hl:=r.length;have hn:=pL;have fin:EP X ae σ Q w s:=⟨z,H,I,rw',q⟩;by_cases h0:0<=i
 ·have hj:i.toNat=j:=by
   rw[vQ h0 h5]at h1;exact fj h1
  exact item_listR pl.isList h0 (by omega) (by rw[hj];simpa using ew) fin hs
 ·have hj:(i+(aj.toArray.size:Int)).toNat=j:=by
   rw[vP (by omega) h4]at h1;rw[cq,<- hl];exact fj h1
  exact HI (x:=w) pl.isList.typeIs slot_list_getitem.lookup
   (wpAny_getItem_list_neg (Q:=λr s'=>r=w/\EP X ae σ Q r s') pl.isList (by omega) (by rw[cq]<;>omega) (by omega) (by rw[hj];simpa using ew) ⟨rfl,fin⟩) hs
theorem Oe:k8 X (Fw X.K):=by
 intro value slice ae s σ H x y v u Q I rx ry h hs;obtain⟨p,xs,i,z,rfl,rfl,hq,he,q⟩:=h;cases rx;obtain⟨t,rfl⟩:=ry;obtain⟨aj,r,pl,hz⟩:=I.tuple hq;obtain⟨j,h1,h2,h3,h4,h5⟩:=yV he;obtain⟨w,ew,rw'⟩:=r.get h2;have hl:=r.length;have hn:=pL;have fin:EP X ae σ Q w s:=⟨z,H,I,rw',q⟩;exact HI (x:=w) pl.typeIs slot_tuple_getitem.lookup
  (getItem_tuple (j:=j) (Q:=λr s'=>r=w/\EP X ae σ Q r s') pl (by omega) (by omega) (by rw[cq,<- hl];exact h1) (by simpa using ew) ⟨rfl,fin⟩) hs
theorem Pb:k8 X Eg:=by
 intro value slice ae s σ H x y v u Q I rx ry h hs;obtain⟨z,i,c,rfl,rfl,hz,he,q⟩:=h;obtain⟨t,rfl⟩:=rx;obtain⟨t',rfl⟩:=ry;obtain⟨j,h1,h2,h3,h4,h5⟩:=yV he;have hl:z.cps.toList.length=z.length:=by simp[oF]
 rw[hl]at h1 h4 h5;have hn:=pL;exact tail_any (typeIs_str s z t) slot_str_getitem.lookup (getItem_str (c:=c) (by
  have e1:decide (i < -(2 ^ 63:Int))=false:=dj (by omega);have e2:decide (i >= 2 ^ 63)=false:=dj (by omega);rw[e1,e2,Bool.or_false]) (by rw[h1];simpa using h2) ⟨.str ⟨#[c]⟩,H,I.tok _,⟨_,rfl⟩,q⟩) hs
def yT(K:aD):R2:=λx y H Q=>F5 K x y H Q\/Fw K x y H Q\/Eg x y H Q
theorem Ev:k8 X (yT X.K):=Nd.or (Oe.or Pb)
theorem JR(aj:List ag)(n j:Nat)(u:ag):fK (·.setIfInBounds j u) { cls:=.type "list",data:=.seq aj.toArray n }={ cls:=.type "list", data:=.seq (aj.set j u).toArray n }:=by simp[fK]
theorem Inv.lst{ae:List (af×Obj)}{σ:St}{H:Hp}{s:ao}{p:af}{xs:List V}(I:Inv X ae σ H s)(h:H p=aa (.lst xs)) :
 ∃(aj:List ag) (n:Nat),Vals xs aj/\s.heap.get? p=aa { cls:=.type "list", data:=.seq aj.toArray n }/\xs.length<=sizeLine:=by
 obtain⟨z,aj,n,r,e⟩:=I.hok p _ h;exact⟨aj,n,r,e,z⟩
theorem Inv.Nl{ae:List (af×Obj)}{σ:St}{H:Hp}{s:ao}{p:af}{xs ys:List V}{aj its':List ag}{n n':Nat}{f:Obj->Obj}(I:Inv X ae σ H s)(h:H p=aa (.lst xs))
 (ho:s.heap.get? p=aa { cls:=.type "list",data:=.seq aj.toArray n }) (hf:f { cls:=.type "list",data:=.seq aj.toArray n }={ cls:=.type "list", data:=.seq its'.toArray n' }) (r:Vals ys its') (hz:ys.length<=sizeLine) (t:Nat) :
 Inv X ae σ (upd H p (.lst ys)) { s with heap:=s.heap.update p f,toks:=t }:=by
 have e:(s.heap.update p f).get? p=aa { cls:=.type "list", data:=.seq its'.toArray n' }:=by rw[vT f ho (by rw[hf]<;>rfl),hf]
 refine I.write (x:=p) (e:=p) (by rw[h];trivial) (.inl rfl) (λb u hb q=>(Hs _ _ (d8 hb)).trans q) ⟨_,e⟩ ?_;exact⟨hz,its',n',r,e⟩
def DU:V->V->V->Hp->(Hp->Prop)->Prop:=λo i v H Q=>∃p xs k j,o=.ref p/\i=.int k/\H p=aa (.lst xs)/\ed xs.length k=aa j/\Q (upd H p (.lst (xs.set j v)))
theorem set_list:CD X DU:=by
 intro ae s σ H o i v ov iv u Q I ro ri rv h;obtain⟨p,xs,k,j,rfl,rfl,hp,hj,q⟩:=h;cases ro;obtain⟨t,rfl⟩:=ri;obtain⟨aj,n,r,ho,hz⟩:=I.lst hp;obtain⟨h1,h2,h3,h4⟩:=Gp hj;have hl:=r.length;have hn:=pL;have I':Inv X ae σ (upd H p (.lst (xs.set j v))) { s with heap:=s.heap.update p (fK (·.setIfInBounds j u)) }:=
  I.Nl hp ho (JR aj n j u) (r.set rv j) (by rw[kO];exact hz) s.toks
 by_cases h0:0<=k
 ·have hk:k.toNat=j:=by
   rw[vQ h0 h4]at h1;exact fj h1
  exact PySem.W.ki_setAt ho h0 (by omega) (by rw[cq,<- hl];exact h4) (by rw[hk];exact⟨_,I',q⟩)
 ·have hk:(k+(aj.toArray.size:Int)).toNat=j:=by
   rw[vP (by omega) h3]at h1;rw[cq,<- hl];exact fj h1
  exact PySem.W.ki_setBack ho (by omega) (by rw[cq,<- hl];exact h3) (by omega) (by rw[hk];exact⟨_,I',q⟩)
theorem LM(lo hi:Option Int)(n:Nat):(sliceBounds lo hi ac n).1=((HT.da n 0 lo:Nat):Int)/\(sliceBounds lo hi ac n).2.1=((HT.da n n hi:Nat):Int)/\(sliceBounds lo hi ac n).2.2=1:=by
 refine⟨?_,?_,rfl⟩
 ·cases lo with
  |none=>simp[sliceBounds,HT.da]
  |some i=>
   simp only[sliceBounds,HT.da,HE,show(1:Int)>0 by decide,hV];by_cases h:i<0
   ·simp only[h,hV]<;>omega
   ·simp only[h,eO]<;>omega
 ·cases hi with
  |none=>simp[sliceBounds,HT.da]
  |some i=>
   simp only[sliceBounds,HT.da,HE,show(1:Int)>0 by decide,hV];by_cases h:i<0
   ·simp only[h,hV]<;>omega
   ·simp only[h,eO]<;>omega
theorem L9(aj:List ag)(lo hi:Option Int):slicePick aj.toArray lo hi ac=((aj.drop (HT.da aj.length 0 lo)).take (HT.da aj.length aj.length hi-HT.da aj.length 0 lo)).toArray:=by obtain⟨h1,h2,h3⟩:=LM lo hi aj.toArray.size;unfold slicePick;rw[h1,h2,h3];simp only[sliceRange_one,pick_run,cq]<;>rfl
def Dp(K:aD):V->Option Int->Option Int->Hp->VK->Prop:=λx lo hi H Q=>∃a xs,x=.ref a/\c9 K H a xs/\∀p,H p=ac->Q (.ref p) (upd H p (.lst (o0 xs lo hi)))
theorem LU:lX X (Dp X.K):=by intro ae s σ H x v vl vu lo hi sl Q I rx hs pl pu h;obtain⟨a,xs,rfl,hx,q⟩:=h;cases rx;obtain⟨aj,r,ht,hz⟩:=I.list hx;have hlen:=r.length;refine⟨"list", _,slot_list_getitem.lookup,ht.isList.typeIs,?_⟩;refine wpAny_getItem_list_slice ht.isList hs pl pu .none (by simp) ?_ (by rw[cq]<;>omega);rw[L9,<- hlen];refine⟨.ref s.heap.objs.size,_,I.laid (t':=s.toks) (o:=.lst (o0 xs lo hi)) (λb ob q=>b8 _ q) (bq _) ?_,rfl,q _ (I.hok.fresh (bq _))⟩;exact⟨dR (M4 xs lo hi) hz,_,0,(r.drop (HT.da xs.length 0 lo)).take (HT.da xs.length xs.length hi-HT.da xs.length 0 lo),de _ rfl⟩
def yl:V->Bool
 |.non=>true
 |.bl _=>true
 |.int _=>true
 |.str _=>true
 |_=>false
def DQ:V->V->Bool
 |.non,.non=>true
 |.bl a,.bl b=>a==b
 |.bl a,.int b=>(if a then 1 else 0)==b
 |.int a,.bl b=>a==(if b then 1 else 0)
 |.int a,.int b=>a==b
 |.str a,.str b=>a==b
 |_,_=>false
theorem Le{A:bx}{s:ao}{y x:V}{u v:ag}(ry:RelV y u)(rx:RelV x v)(fy:yl y=true)(fx:yl x=true):SeqAt.EqAt A s u v (DQ y x):=by
 cases y with
 |non=>
  cases ry;cases x with
  |non=>cases rx;exact SeqAt.EqAt.same _
  |bl b=>cases rx;exact SeqAt.EqAt.none_bool b
  |int b=>obtain⟨t,rfl⟩:=rx;exact SeqAt.EqAt.none_int b t
  |str b=>obtain⟨t,rfl⟩:=rx;exact SeqAt.EqAt.none_str b t
  |_=>exact absurd (show false=true from fx) c7
 |bl a=>
  cases ry;cases x with
  |non=>cases rx;exact SeqAt.EqAt.bool_none a
  |bl b=>cases rx;exact z9 a b
  |int b=>obtain⟨t,rfl⟩:=rx;exact SeqAt.EqAt.bool_int a b t
  |str b=>obtain⟨t,rfl⟩:=rx;exact HL a b t
  |_=>exact absurd (show false=true from fx) c7
 |int a=>
  obtain⟨t',rfl⟩:=ry;cases x with
  |non=>cases rx;exact SeqAt.EqAt.int_none a t'
  |bl b=>cases rx;exact SeqAt.EqAt.int_bool a t' b
  |int b=>obtain⟨t,rfl⟩:=rx;exact SeqAt.EqAt.int_int a t' b t
  |str b=>obtain⟨t,rfl⟩:=rx;exact SeqAt.EqAt.int_str a t' b t
  |_=>exact absurd (show false=true from fx) c7
 |str a=>
  obtain⟨t',rfl⟩:=ry;cases x with
  |non=>cases rx;exact SeqAt.EqAt.str_none a t'
  |bl b=>cases rx;exact HM a t' b
  |int b=>obtain⟨t,rfl⟩:=rx;exact SeqAt.EqAt.str_int a t' b t
  |str b=>obtain⟨t,rfl⟩:=rx;exact SeqAt.EqAt.str_str a t' b t
  |_=>exact absurd (show false=true from fx) c7
 |_=>exact absurd (show false=true from fy) c7
theorem No:fU X (.type "list") (λxs H Q=>∃p ys,xs=[.ref p]/\(c9 X.K H p ys\/eQ X.K H p ys)/\∀l,H l=ac->Q (.ref l) (upd H l (.lst ys))):=by
 intro ae s σ H xs us Q I r h;obtain⟨p,ys,rfl,hq,q⟩:=h;obtain⟨u,rfl,rx⟩:=vals1 r;cases rx;have fin:∀(aj:List ag),Vals ys aj->ys.length<=sizeLine->∀(h':aJ) (c':Nat),(∀b o',s.heap.get? b=aa o'->h'.get? b=aa o') ->
  h'.get? s.heap.objs.size=aa { cls:=.type "list", dict:=ac,data:=.seq aj.toArray c',slots:=#[] }->EP X ae σ Q (.ref s.heap.objs.size) { s with heap:=h' }:=λaj r' hz h' c' kp e=>
  ⟨.ref s.heap.objs.size,_,I.laid (t':=s.toks) kp (bq _) (show bW X.prog X.w _ h' _ (.lst ys)from⟨hz,aj,c',r',e⟩),rfl,q _ (I.hok.fresh (bq _))⟩
 rcases hq with hq|hq
 ·obtain⟨aj,r',pl,hz⟩:=I.list hq;have hlen:=r'.length;obtain⟨o,ho,hc,n,hd⟩:=pl.isList;exact call_list_seq p (.inl rfl) ho hc hd (λh' c' kp e=>fin aj r' hz h' c' kp e) (by simp only[cq]<;>omega)
 ·obtain⟨aj,r',pl,hz⟩:=I.tuple hq;have hlen:=r'.length;obtain⟨o,ho,hc,n,hd⟩:=pl;exact call_list_seq p (.inr rfl) ho hc hd (λh' c' kp e=>fin aj r' hz h' c' kp e) (by simp only[cq]<;>omega)
theorem Oj:fU X (.type "tuple") (λxs H Q=>∃p ys,xs=[.ref p]/\((c9 X.K H p ys/\∀l,H l=ac->Q (.ref l) (upd H l (.tup ys)))\/(eQ X.K H p ys/\Q (.ref p) H))):=by
 intro ae s σ H xs us Q I r h;obtain⟨p,ys,rfl,h⟩:=h;obtain⟨u,rfl,rx⟩:=vals1 r;cases rx;rcases h with ⟨hq,q⟩|⟨hq,q⟩
 ·obtain⟨aj,r',pl,hz⟩:=I.list hq;have hlen:=r'.length;refine call_tuple_list pl.isList (λh' kp=>?_) (by simp only[cq]<;>omega);have I1:Inv X ae σ H { s with heap:=h' }:=I.kept (t':=s.toks) kp;have I2:Inv X ae σ (upd H h'.objs.size (.tup ys)) { s with heap:=h'.push { cls:=.type "tuple", data:=.seq aj.toArray } }:=
   I1.laid (t':=s.toks) (λb o e=>b8 _ e) (bq _) (show bW X.prog X.w _ _ _ (.tup ys)from⟨hz,aj,r',oR.new _ _⟩)
  exact⟨.ref h'.objs.size,_,I2,rfl,q _ (I1.hok.fresh (bq _))⟩
 ·obtain⟨aj,r',pl,hz⟩:=I.tuple hq;exact call_tuple_same pl ⟨.ref p,H,I,rfl,q⟩
def uJ(K:aD)(T:String)(x:V)(H:Hp):Prop:=match x with
 |.str _=>T = "str"
 |.int _=>T = "int"
 | .ref p=>(T = "list" /\ ∃xs,c9 K H p xs)\/(T = "tuple" /\ ∃o,K.lookup p=aa o/\o.cls=.type "tuple" /\ o.dict=ac) \/
  (T = "dict" /\ ((∃ai,H p=aa (.dK ai))\/∃ai,H p=aa (.dT ai)))\/(T = "set" /\ ∃S n,H p=aa (.set S n))
 |_=>False
theorem ye{ae:List (af×Obj)}{σ:St}{H:Hp}{s:ao}{T:String}{x:V}{v:ag}(I:Inv X ae σ H s)(r:RelV x v)(ty:uJ X.K T x H) :
 s.TypeIs v T/\∀a,v=.ref a->∃ob,s.heap.get? a=aa ob/\ob.dict=ac:=by
 cases x with
 |str z=>
  obtain⟨t,rfl⟩:=r;cases(show T = "str" from ty);exact⟨typeIs_str s z t,λ_ e=>nomatch e⟩
 |int i=>
  obtain⟨t,rfl⟩:=r;cases(show T = "int" from ty);exact⟨typeIs_int s i t,λ_ e=>nomatch e⟩
 |ref p=>
  cases r;rcases ty with ⟨rfl,xs,hq⟩|⟨rfl,o,hk,hc,hd⟩|⟨rfl,hk⟩|⟨rfl,S,n,hk⟩
  ·obtain⟨aj,_,pl,_⟩:=I.list hq;refine⟨pl.isList.typeIs,λa e=>?_⟩;cases e;obtain⟨o,n,e,c,hd,_⟩:=pl;exact⟨o,e,hd⟩
  ·refine⟨⟨o,I.ff p o hk,hc⟩,λa e=>?_⟩;cases e;exact⟨o,I.ff _ o hk,hd⟩
  ·have z:∃o,s.heap.get? p=aa o/\o.ExactDict:=by
    rcases hk with ⟨ai,hk⟩|⟨ai,hk⟩
    ·obtain⟨_,_,_,_,o,_,_,e,ex,_⟩:=I.hok p _ hk;exact⟨o,e,ex⟩
    ·obtain⟨_,_,_,_,o,_,_,e,ex,_⟩:=I.hok p _ hk;exact⟨o,e,ex⟩
   obtain⟨o,e,ex⟩:=z;refine⟨⟨o,e,ex.1⟩,λa e2=>?_⟩;cases e2;exact⟨o,e,ex.2.1⟩
  ·obtain⟨o,_,_,_,e,ex,_⟩:=I.hok p _ hk;refine⟨⟨o,e,ex.1⟩,λa e2=>?_⟩;cases e2;exact⟨o,e,ex.2.1⟩
 |_=>exact h9 ty
def uo(K:aD)(T:String)(r:V->List V->Hp->VK->Prop)(to:TE):TE:=λσ H Q=>to σ H λx H1=>uJ K T x H1/\r x [] H1 Q
def pk(K:aD)(T:String)(r:V->List V->Hp->VK->Prop)(to:TE)(t:TA):TE:=λσ H Q=>to σ H λx H1=>uJ K T x H1/\t σ H1 λxs H2=>r x xs H2 Q
variable{o e:aU}{es:List aU}{to:TE}{t:TA}{name:Str}{apos cpos:Pos}{T id:String}{r:V->List V->Hp->VK->Prop}
theorem wI(pa:vS T)(slot:Slot T name id)(hty:typeOf (.builtin id)=pure (.type "method_descriptor"))(hm:lp X id r)(ho:PE X o to)
 (hbase:attributeBase o name X.env (eval o X.env)=eval o X.env:=by rfl) (hline:(apos.endLine==cpos.line)=true:=by rfl):PE X (.Call (.Attribute o name apos) [] [] cpos) (uo X.K T r to):=by
 intro ae s σ H Q I h;refine wpAny_Call_method0_late hbase hline (aX (ho ae s σ H _ I h) λv s1 ⟨x,H1,I1,r1,ty,q1⟩=>?_);obtain⟨h1,h2⟩:=ye I1 r1 ty;exact⟨T,id,pa,slot,hty,h1,h2,wg rfl (PySem.evalArgs_none (hm ae s1 σ H1 x [] v [] Q I1 r1 .nil q1))⟩
theorem iL(pa:vS T)(slot:Slot T name id)(hty:typeOf (.builtin id)=pure (.type "method_descriptor"))(hm:lp X id r)(ho:PE X o to)(ha:PA X (e::es) t)
 (hbase:attributeBase o name X.env (eval o X.env)=eval o X.env:=by rfl)
 (hfew:((backTo cpos (starEach (e::es) X.env)).all (λx=>!x.1)&&(backToKw cpos (keywordEach [] X.env)).all (λx=>x.1.isSome)
  && decide ((e::es).length+([]:List Keyword).length+(if([]:List Keyword).isEmpty then 0 else 1)<30))=true:=by rfl)
 (hline:(apos.endLine==cpos.line)=true:=by rfl) (hs:starEach (e::es) X.env=(false,eval e X.env)::starEach es X.env:=by rfl) (hplain:(backTo cpos (starEach es X.env)).any (·.1)=false:=by rfl) :
 PE X (.Call (.Attribute o name apos) (e::es) [] cpos) (pk X.K T r to t):=by
 intro ae s σ H Q I h;refine Hr hbase hfew hline rfl (aX (ho ae s σ H _ I h) λv s1 ⟨x,H1,I1,r1,ty,q1⟩=>?_);obtain⟨h1,h2⟩:=ye I1 r1 ty;refine⟨T,id,pa,slot,hty,h1,h2,?_⟩;have hA:=ha cpos ae s1 σ H1 _ I1 q1;rw[hs]at hA ⊢;refine wg (by show(false||(backTo cpos (starEach es X.env)).any (·.1))=false;rw[hplain]<;>rfl) (z6 ?_);exact aX hA λus s2 ⟨vs,H2,I2,r2,q2⟩=>hm ae s2 σ H2 x vs v us Q I2 r1 r2 q2
end
def qI(X:Cx)(id:String)(r:V->List V->Hp->VK->Prop):Prop:=
 ∀(ae:List (af×Obj)) (s:ao) (σ:St) (H:Hp) (x:V) (xs:List V) (v:ag) (us:List ag) (Q:VK),Inv X ae σ H s->RelV x v->Vals xs us->r x xs H Q ->
  wpAny (model X.prog X.w) X.A (call (.builtin id) (v::us)) (EP X ae σ Q) X.xe s
theorem Vals.one:∀{x:V} {us:List ag},Vals [x] us->∃u,us=[u]/\RelV x u
 |_,_,.cons r .nil=>⟨_,rfl,r⟩
theorem Vals.zero:∀{us:List ag},Vals [] us->us=[]
 |_,.nil=>rfl
theorem Vals.dropLast{xs:List V}{us:List ag}(h:Vals xs us):Vals xs.dropLast us.dropLast:=by
 induction h with
 |nil=>exact .nil
 |cons r t ih=>
  cases t with
  |nil=>exact .nil
  |cons q t'=>exact .cons r ih
theorem Vals.eraseIdx:∀{xs:List V} {us:List ag} (i:Nat),Vals xs us->Vals (xs.eraseIdx i) (us.eraseIdx i)
 |_,_,_,.nil=>.nil
 |_,_,0,.cons _ t=>t
 |_,_,i+1,.cons r t=>.cons r (Vals.eraseIdx i t)
theorem Vals.reverse{xs:List V}{us:List ag}(h:Vals xs us):Vals xs.reverse us.reverse:=by
 induction h with
 |nil=>exact .nil
 |cons r t ih=>rw[sS,sS];exact Vals.append ih (.cons r .nil)
theorem Nf{α:Type}(l:List α):l.eraseIdx (l.length-1)=l.dropLast:=by
 induction l with
 |nil=>rfl
 |cons a r ih=>
  cases r with
  |nil=>rfl
  |cons b r=>
   have e:(a::b::r).length-1=((b::r).length-1)+1:=by have h1:(a::b::r).length=r.length+2:=rfl;have h2:(b::r).length=r.length+1:=rfl;omega
   rw[e,zq,ih]
   all_goals rfl
theorem Fm{α:Type}:∀(l:List α) (i:Nat),(l.eraseIdx i).length<=l.length
 |[],_=>bq _
 |_::_,0=>Nat.le_succ _
 |_::r,i+1=>Nat.succ_le_succ (Fm r i)
section
variable{X:Cx}{ae:List (af×Obj)}{σ:St}{H:Hp}{s:ao}{l b:af}{xs ys zs:List V}
theorem Inv.sx{aj its':List ag}{n:Nat}{f:Array ag->Array ag}{t':Nat}(I:Inv X ae σ H s)(hH:H l=aa (.lst xs))
 (e:s.heap.get? l=aa { cls:=.type "list", data:=.seq aj.toArray n }) (hf:f aj.toArray=its'.toArray) (hv:Vals ys its') (hz:ys.length<=sizeLine) :
 Inv X ae σ (upd H l (.lst ys)) { s with heap:=s.heap.update l (fK f),toks:=t' }:=by
 have q:=PySem.IsL.update e f;rw[hf]at q;refine I.write (x:=l) (e:=l) (by rw[hH];exact trivial) (.inl rfl) (λb' u hb hu=>(Hs s.heap (fK f) (d8 hb)).trans hu) ⟨_,q⟩ ?_;exact⟨hz,its',_,hv,q⟩
theorem Inv.Ml{aj:List ag}{t':Nat}(I:Inv X ae σ H s)(hv:Vals ys aj)(hz:ys.length<=sizeLine) :
 Inv X ae σ (upd H s.heap.objs.size (.lst ys)) { s with heap:=s.heap.push { cls:=.type "list", data:=.seq aj.toArray },toks:=t' }:=
 I.laid (λ_ _ q=>b8 _ q) (bq _) ⟨hz,aj,0,hv,de _ rfl⟩
theorem Inv.fresh(I:Inv X ae σ H s):H s.heap.objs.size=ac:=I.hok.fresh (bq _)
theorem Inv.re(I:Inv X ae σ H s)(hH:H l=aa (.lst xs)):xs.length<=sizeLine/\∃(aj:List ag) (n:Nat),Vals xs aj/\xs.length=aj.length/\s.heap.get? l=aa { cls:=.type "list", data:=.seq aj.toArray n }:=by obtain⟨z,aj,n,r,e⟩:=I.hok l _ hH;exact⟨z,aj,n,r,r.length,e⟩
end
section
variable{X:Cx}
def yj:V->List V->Hp->VK->Prop:=λx vs H Q=>∃l xs y,x=.ref l/\vs=[y]/\H l=aa (.lst xs)/\xs.length<sizeLine/\Q .non (upd H l (.lst (xs++[y])))
theorem nZ:qI X "list.append" yj:=by intro ae s σ H x vs v us Q I rx rv h;obtain⟨l,xs,y,rfl,rfl,hH,hz,q⟩:=h;cases rx;obtain⟨u,rfl,ru⟩:=rv.one;obtain⟨z,aj,n,r,hl,e⟩:=I.re hH;refine qr F.slot_list_append ⟨_,e,rfl⟩ F.entry_list_append (F.args_list_append_2 _ _) (PySem.list_append l aj.toArray n u (by rw[cq];omega)) ⟨e,?_⟩;refine⟨.non,_,I.sx (its':=aj++[u]) hH e (by simp) (r.append (.cons ru .nil)) ?_,rfl,q⟩;rw[cC,sR];omega
def FL:V->List V->Hp->VK->Prop:=λx vs H Q=>∃l xs y,x=.ref l/\vs=[]/\H l=aa (.lst xs)/\xs[xs.length-1]? = aa y/\Q y (upd H l (.lst xs.dropLast))
theorem M2:qI X "list.pop" FL:=by
 intro ae s σ H x vs v us Q I rx rv h;obtain⟨l,xs,y,rfl,rfl,hH,hy,q⟩:=h;cases rx;have hus:=rv.zero;subst hus;obtain⟨z,aj,n,r,hl,e⟩:=I.re hH;obtain⟨u,hu,ru⟩:=r.get hy;have hy':aj.toArray[aj.toArray.size-1]? = aa u:=by show aj.toArray[aj.length-1]? = aa u;rw[<- wb,<- hl];exact hu
 refine qr F.slot_list_pop ⟨_,e,rfl⟩ F.entry_list_pop (F.args_list_pop_1 _) (MeetsSeq.list_pop_last l aj.toArray n u hy' (by rw[cq];omega)) ⟨e,?_⟩;refine⟨y,_,I.sx (its':=aj.dropLast) hH e ?_ r.dropLast ?_,ru,q⟩
 ·show aj.toArray.eraseIdxIfInBounds (aj.toArray.size-1)=aj.dropLast.toArray;rw[cq,GN,Nf]
 ·rw[List.length_dropLast];omega
def yP:V->List V->Hp->VK->Prop:=λx vs H Q=>∃l xs i k y,x=.ref l/\vs=[.int i]/\H l=aa (.lst xs)/\-(2 ^ 63)<=i/\i<2 ^ 63/\seqIndex? i xs.length=aa k/\xs[k]? = aa y/\Q y (upd H l (.lst (xs.eraseIdx k)))
theorem uM:qI X "list.pop" yP:=by
 intro ae s σ H x vs v us Q I rx rv h;obtain⟨l,xs,i,k,y,rfl,rfl,hH,h1,h2,hk,hy,q⟩:=h;cases rx;obtain⟨u,rfl,ru⟩:=rv.one;obtain⟨t,rfl⟩:=ru;obtain⟨z,aj,n,r,hl,e⟩:=I.re hH;obtain⟨w,hw,rw'⟩:=r.get hy;refine qr F.slot_list_pop ⟨_,e,rfl⟩ F.entry_list_pop (F.args_list_pop_2 _ _)
  (MeetsSeq.list_pop_at l aj.toArray n i t k w (fitsIndex_both h1 h2) (by rw[cq,<- hl];exact hk) (by rw[<- wb];exact hw) (by rw[cq];omega)) ⟨e,?_⟩
 refine⟨y,_,I.sx (its':=aj.eraseIdx k) hH e ?_ (r.eraseIdx k) ?_,rw',q⟩
 ·show aj.toArray.eraseIdxIfInBounds k=(aj.eraseIdx k).toArray;rw[GN]
 ·have:=Fm xs k;omega
def C0:V->List V->Hp->VK->Prop:=λx vs H Q=>∃l xs,x=.ref l/\vs=[]/\H l=aa (.lst xs)/\Q .non (upd H l (.lst xs.reverse))
theorem M9:qI X "list.reverse" C0:=by intro ae s σ H x vs v us Q I rx rv h;obtain⟨l,xs,rfl,rfl,hH,q⟩:=h;cases rx;have hus:=rv.zero;subst hus;obtain⟨z,aj,n,r,hl,e⟩:=I.re hH;refine qr F.slot_list_reverse ⟨_,e,rfl⟩ F.entry_list_reverse (F.args_list_reverse_1 _) (AutoSeq1.list_reverse_list_0 l aj.toArray n (by rw[cq];omega)) ⟨e,?_⟩;refine⟨.non,_,I.sx (its':=aj.reverse) hH e (by simp) r.reverse ?_,rfl,q⟩;rw[List.length_reverse];omega
def B3:V->List V->Hp->VK->Prop:=λx vs H Q=>∃l xs,x=.ref l/\vs=[]/\H l=aa (.lst xs)/\Q .non (upd H l (.lst []))
theorem OS:qI X "list.clear" B3:=by intro ae s σ H x vs v us Q I rx rv h;obtain⟨l,xs,rfl,rfl,hH,q⟩:=h;cases rx;have hus:=rv.zero;subst hus;obtain⟨z,aj,n,r,hl,e⟩:=I.re hH;refine qr F.slot_list_clear ⟨_,e,rfl⟩ F.entry_list_clear (F.args_list_clear_1 _) (AutoSeq1.list_clear_list_0 l aj.toArray n (by rw[cq];omega)) ⟨e,?_⟩;exact⟨.non,_,I.sx (its':=[]) (ys:=[]) hH e rfl .nil (eK _),rfl,q⟩
end
section
variable{κ:Type}[DecidableEq κ]
def gQ(ai:List (κ×V))(k:κ):Option V:=(ai.find? λkv=>decide (kv.1=k)).map (·.2)
def putK(ai:List (κ×V))(k:κ)(v:V):List (κ×V):=if(ai.any λkv=>decide (kv.1=k))=true then ai.map (λkv=>if kv.1=k then(kv.1,v)else kv)else ai++[(k,v)]
theorem y8{p:κ×V}{r:List (κ×V)}{k:κ}(e:p.1=k):gQ (p::r) k=aa p.2:=by simp[gQ,kP,e]
theorem za{p:κ×V}{r:List (κ×V)}{k:κ}(e:¬ p.1=k):gQ (p::r) k=gQ r k:=by simp[gQ,kP,e]
theorem F3(k:κ):∀ai:List (κ×V),(ai.any λkv=>decide (kv.1=k))=(gQ ai k).isSome
 |[]=>rfl
 |p::r=>by
  rw[iF];by_cases e:p.1=k
  ·simp only[y8 e,cv e,Bool.true_or,Option.isSome_some]
  ·rw[za e,dj e,vW];exact F3 k r
theorem wM(ai:List (κ×V))(k:κ)(v:V):(putK ai k v).length<=ai.length+1:=by
 unfold putK;split
 ·rw[aQ];omega
 ·rw[cC,bQ,j5];omega
theorem nS.rG{o:Option V}{u:Option ag}(r:nS o u):o.isSome=u.isSome:=by
 cases o with
 | none=>cases u with
  |none=>rfl
  |some _=>exact(show False from r).elim
 | some _=>cases u with
  |none=>exact(show False from r).elim
  |some _=>rfl
theorem KV.val{ai:List (κ×V)}{vs:List (κ×ag)}(r:KV ai vs)(k:κ):nS (gQ ai k) (valueAt vs k):=by
 unfold KV at r
 induction r with
 |nil=>exact gJ
 | @cons p q ps qs h t ih=>
  obtain⟨h1,h2⟩:=h;by_cases e:p.1=k
  ·have e':q.1=k:=h1.symm.trans e;have b:valueAt (q::qs) k=aa q.2:=by simp[valueAt,kP,e']
   rw[y8 e,b];exact h2
  ·have e':¬ q.1=k:=λz=>e (h1.trans z);have b:valueAt (q::qs) k=valueAt qs k:=by simp[valueAt,kP,e']
   rw[za e,b];exact ih
theorem KV.any{ai:List (κ×V)}{vs:List (κ×ag)}(r:KV ai vs)(k:κ):(ai.any λkv=>decide (kv.1=k))=vs.any λkv=>decide (kv.1=k):=by
 unfold KV at r
 induction r with
 |nil=>rfl
 |cons h t ih=>rw[iF,iF,ih,h.1]
theorem KV.repl{ai:List (κ×V)}{vs:List (κ×ag)}(r:KV ai vs)(k:κ){y:V}{u:ag}(ry:RelV y u) :
 KV (ai.map λkv=>if kv.1=k then(kv.1,y)else kv) (vs.map λkv=>if kv.1=k then(kv.1,u)else kv):=by
 unfold KV at r ⊢
 induction r with
 |nil=>exact .nil
 | @cons p q ps qs h t ih=>
  rw[cW,cW];refine .cons ?_ ih;obtain⟨h1,h2⟩:=h;by_cases e:p.1=k
  ·rw[aN e,aN (h1.symm.trans e)];exact⟨h1,ry⟩
  ·rw[aP e,aP (λz=>e (h1.trans z))];exact⟨h1,h2⟩
theorem KV.put{ai:List (κ×V)}{vs:List (κ×ag)}(r:KV ai vs)(k:κ){y:V}{u:ag}(ry:RelV y u):KV (putK ai k y) (stored vs k u):=by
 unfold putK stored;rw[r.any k];by_cases e:(vs.any λkv=>decide (kv.1=k))=true
 ·rw[aN e,aN e];exact r.repl k ry
 ·rw[aP e,aP e];exact Paired.snoc r ⟨rfl,ry⟩
theorem KV.length{ai:List (κ×V)}{vs:List (κ×ag)}(r:KV ai vs):ai.length=vs.length:=qw r
end
theorem qD{P:bh}{w:a6}{k:Key}{u:ag}(r:RelV (kV k) u):(gF P w).is k u=true:=by
 cases k with
 |inl i=>obtain e:=(show u=i9 i from r);subst e;exact MJ P w i
 |inr x=>obtain⟨t,e⟩:=(show∃t,u=lN x t from r);subst e;exact L7 P w x t
theorem CJ{P:bh}{w:a6}:∀{ks:List Key} {us:List ag},Vals (ks.map kV) us->ItemsAre (gF P w) ks us
 |[],_,r=>by rw[vC]at r;cases r;exact .nil
 |k::ks,_,r=>by
  rw[cW]at r;cases r with
  |cons h t=>exact .cons (qD h) (CJ t)
abbrev KT(H:Hp):List (List Key×V)->List (List Key×af×ag)->Prop:=mS λp q=>p.1=q.1/\H q.2.1=aa (.tup (p.1.map kV))/\RelV p.2 q.2.2
theorem KT.val{H:Hp}{ai:List (List Key×V)}{xs:List (List Key×af×ag)}(r:KT H ai xs)(k:List Key):nS (gQ ai k) ((atKey xs k).map (·.2)):=by
 induction r with
 |nil=>exact gJ
 | @cons p q ps qs h t ih=>
  obtain⟨h1,_,h2⟩:=h;by_cases e:p.1=k
  ·have e':q.1=k:=h1.symm.trans e;have b:atKey (q::qs) k=aa q.2:=by simp[atKey,kP,e']
   rw[y8 e,b];exact h2
  ·have e':¬ q.1=k:=λz=>e (h1.trans z);have b:atKey (q::qs) k=atKey qs k:=by simp[atKey,kP,e']
   rw[za e,b];exact ih
theorem KT.repl{H:Hp}{ai:List (List Key×V)}{xs:List (List Key×af×ag)}(r:KT H ai xs)(k:List Key){y:V}{u:ag}(ry:RelV y u) :
 KT H (ai.map λkv=>if kv.1=k then(kv.1,y)else kv) (xs.map (putAt k u)):=by
 induction r with
 |nil=>exact .nil
 | @cons p q ps qs h t ih=>
  rw[cW,cW];refine .cons ?_ ih;obtain⟨h1,h2,h3⟩:=h;unfold putAt;by_cases e:p.1=k
  ·rw[aN e,aN (h1.symm.trans e)];exact⟨h1,h2,ry⟩
  ·rw[aP e,aP (λz=>e (h1.trans z))];exact⟨h1,h2,h3⟩
theorem KT.put{H:Hp}{ai:List (List Key×V)}{xs:List (List Key×af×ag)}(r:KT H ai xs)(k:List Key){b:af}{y:V}{u:ag}(hb:H b=aa (.tup (k.map kV)))(ry:RelV y u) :
 KT H (putK ai k y) (storedH xs k b u):=by
 have e:(ai.any λkv=>decide (kv.1=k))=(atKey xs k).isSome:=by rw[F3,(r.val k).rG,v4]
 unfold putK storedH;rw[e];by_cases q:(atKey xs k).isSome=true
 ·rw[aN q,aN q];exact r.repl k ry
 ·rw[aP q,aP q];exact Paired.snoc r ⟨rfl,hb,ry⟩
theorem KT.keeps{H H':Hp}{ai:List (List Key×V)}{xs:List (List Key×af×ag)}(r:KT H ai xs)(ht:∀b ys,H b=aa (.tup ys)->H' b=aa (.tup ys)):KT H' ai xs:=Paired.wJ r λ_ _ z=>⟨z.1,ht _ _ z.2.1,z.2.2⟩
section
variable{P:bh}{w:a6}{H:Hp}{h:aJ}{a:af}
theorem D7{u:HO}(ok:cJ P w H h)(e:Rd H a u):bW P w H h a u:=e.ok ok
theorem wy{ai:List (Key×V)}(ok:cJ P w H h)(e:Rd H a (.dK ai)):ai.length<=sizeLine/\(a==sysModules)=false/\∃vs,KV ai vs/\h.DictOf (gF P w) a vs:=show bW P w H h a (.dK ai)from D7 ok e
theorem EY{ai:List (Key×V)}(ok:cJ P w H h)(e:H a=aa (.dK ai)):ai.length<=sizeLine/\(a==sysModules)=false/\∃vs,KV ai vs/\h.DictOf (gF P w) a vs:=wy ok (.inl e)
theorem uh{ks:List Key}(ok:cJ P w H h)(e:H a=aa (.tup (ks.map kV))):(tupleKind (gF P w)).is h ks a:=by obtain⟨_,aj,r,o,h1,h2,_,n,h3⟩:=(show bW P w H h a (.tup (ks.map kV))from ok a _ e);exact⟨o,aj.toArray,n,h1,h2,h3,by simpa using CJ r⟩
theorem xn{ai:List (List Key×V)}(ok:cJ P w H h)(e:Rd H a (.dT ai)):ai.length<=sizeLine/\(a==sysModules)=false /\
 ∃xs,KT H ai xs/\h.DictOfH (tupleKind (gF P w)) a xs:=by
 obtain⟨z,y,xs,r,o,es,ep,h1,h2,h3,h4,h5⟩:=(show bW P w H h a (.dT ai)from D7 ok e);refine⟨z,y,xs,r,o,es,ep,h1,h2,h3,h4,λx hx=>?_,h5⟩;have all:∀{l:List (List Key×V)} {m:List (List Key×af×ag)},KT H l m->∀x∈m,(tupleKind (gF P w)).is h x.1 x.2.1:=by
  intro l m q
  induction q with
  |nil=>intro x hx;exact nomatch hx
  | @cons p q ps qs hq t ih=>
   intro x hx;rcases br.mp hx with e|hx
   ·subst e;exact uh ok (by rw[<- hq.1];exact hq.2.1)
   ·exact ih x hx
 exact all r x hx
theorem KI{ai:List (List Key×V)}(ok:cJ P w H h)(e:H a=aa (.dT ai)):ai.length<=sizeLine/\(a==sysModules)=false /\
 ∃xs,KT H ai xs/\h.DictOfH (tupleKind (gF P w)) a xs:=xn ok (.inl e)
end
def jV(H:Hp)(a:af)(y:V)(r:Option V):Prop:=(∃ai k,Rd H a (.dK ai)/\y=kV k/\r=gQ ai k)\/∃ai k b,Rd H a (.dT ai)/\y=.ref b/\H b=aa (.tup (k.map kV))/\r=gQ ai k
def mi(H:Hp)(a:af)(y v:V)(H':Hp):Prop:=
 (∃ai k,H a=aa (.dK ai)/\y=kV k/\ai.length<sizeLine/\H'=upd H a (.dK (putK ai k v))) \/
 ∃ai k b,H a=aa (.dT ai)/\y=.ref b/\H b=aa (.tup (k.map kV))/\ai.length<sizeLine/\H'=upd H a (.dT (putK ai k v))
theorem jV.k{H:Hp}{a:af}{ai:List (Key×V)}{k:Key}(e:H a=aa (.dK ai)):jV H a (kV k) (gQ ai k):=.inl ⟨ai,k,.inl e,rfl,rfl⟩
theorem jV.t{H:Hp}{a b:af}{ai:List (List Key×V)}{k:List Key}(e:H a=aa (.dT ai))(eb:H b=aa (.tup (k.map kV))):jV H a (.ref b) (gQ ai k):=.inr ⟨ai,k,b,.inl e,rfl,eb,rfl⟩
theorem mi.k{H:Hp}{a:af}{ai:List (Key×V)}{k:Key}{v:V}(e:H a=aa (.dK ai))(hl:ai.length<sizeLine):mi H a (kV k) v (upd H a (.dK (putK ai k v))):=.inl ⟨ai,k,e,rfl,hl,rfl⟩
theorem mi.t{H:Hp}{a b:af}{ai:List (List Key×V)}{k:List Key}{v:V}(e:H a=aa (.dT ai))(eb:H b=aa (.tup (k.map kV)))(hl:ai.length<sizeLine) :
 mi H a (.ref b) v (upd H a (.dT (putK ai k v))):=.inr ⟨ai,k,b,e,rfl,eb,hl,rfl⟩
section
variable{X:Cx}{ae:List (af×Obj)}{σ:St}{H:Hp}{s:ao}{a:af}{y v:V}{u r:ag}{o:Option V}{A:bx}{E:ag->ao->Prop}
theorem Inv.big(I:Inv X ae σ H s):sysModules<s.heap.objs.size:=by have h:mainGlobals<s.heap.objs.size:=(I.mod.glob.keeps I.bk).lt;exact Nat.lt_trans (by decide) h
theorem Kl{Q:ag->ao->Prop}(hu:A.units+1<cLine)(I:Inv X ae σ H s)(g:jV H a y o)(ry:RelV y u)(h:∀s',Inv X ae σ H s'->Q (.bool o.isSome) s') :
 wpAny (model X.prog X.w) A (compareOp .In u (.ref a)) Q E s:=by
 rcases g with ⟨ai,k,e,ey,l⟩|⟨ai,k,b,e,ey,eb,l⟩
 ·subst ey;obtain⟨z,hd,vs,rel,dd⟩:=wy I.hok e;refine wpAny_in_of (qD ry) hd dd.mapOf ?_;rw[<- (rel.val k).rG,<- l];exact h _ (I.tok _)
 ·subst ey;cases(show u=cG b from ry);obtain⟨z,hd,xs,rel,dd⟩:=xn I.hok e;refine wpAny_in_heap (zN hu) (uh I.hok eb) hd dd ?_;have q:=(rel.val k).rG;rw[v4]at q;rw[<- q,<- l];exact h _ (I.tok _)
theorem N9{Q:ag->ao->Prop}(hu:A.units+1<cLine)(I:Inv X ae σ H s)(g:jV H a y o)(ry:RelV y u)(h:∀s',Inv X ae σ H s'->Q (.bool (!o.isSome)) s') :
 wpAny (model X.prog X.w) A (compareOp .NotIn u (.ref a)) Q E s:=by
 rcases g with ⟨ai,k,e,ey,l⟩|⟨ai,k,b,e,ey,eb,l⟩
 ·subst ey;obtain⟨z,hd,vs,rel,dd⟩:=wy I.hok e;refine wpAny_notIn_of (qD ry) hd dd.mapOf ?_;rw[<- (rel.val k).rG,<- l];exact h _ (I.tok _)
 ·subst ey;cases(show u=cG b from ry);obtain⟨z,hd,xs,rel,dd⟩:=xn I.hok e;refine wpAny_notIn_heap (zN hu) (uh I.hok eb) hd dd ?_;have q:=(rel.val k).rG;rw[v4]at q;rw[<- q,<- l];exact h _ (I.tok _)
theorem yz{h':aJ}{t':Nat}{ob:HO}(I:Inv X ae σ H s)(mu:rn (H a))(hs:mT a s.heap h')(he:∃q,h'.get? a=aa q)(new:bW X.prog X.w (upd H a ob) h' a ob) :
 Inv X ae σ (upd H a ob) { s with heap:=h',toks:=t' }:=
 I.write (x:=a) (e:=a) mu (.inl rfl) (λb q hb z=>(hs.2 b hb).trans z) he new
theorem BF{P:bh}{w:a6}{H':Hp}{h':aJ}{ai:List (Key×V)}{vs:List (Key×ag)}(z:ai.length<=sizeLine)(hd:(a==sysModules)=false)(rel:KV ai vs)(dd:h'.DictOf (gF P w) a vs) :
 bW P w H' h' a (.dK ai):=⟨z,hd,vs,rel,dd⟩
theorem PD{H':Hp}{Q:Unit->ao->Prop}(hu:A.units+1<cLine)(I:Inv X ae σ H s)(g:mi H a y v H')(ry:RelV y u)(rv:RelV v r)(h:∀s',Inv X ae σ H' s'->Q () s') :
 wpAny (model X.prog X.w) A (setItem (.ref a) u r) Q E s:=by
 rcases g with ⟨ai,k,e,ey,l,eH⟩|⟨ai,k,b,e,ey,eb,l,eH⟩
 ·subst ey eH;obtain⟨z,hd,vs,rel,dd⟩:=EY I.hok e;have hz:vs.length<=sizeLine:=by rw[<- rel.length];exact z
  have hl:(putK ai k v).length<=sizeLine:=by have:=wM ai k v;omega
  refine wpAny_setItem_pairs (hsz:=hz) (qD ry) dd λh' dd' hs=>h _ ?_;have he:∃q,h'.get? a=aa q:=let ⟨q,_,_,hq,_⟩:=dd';⟨q,hq⟩;exact yz I (by rw[e];exact gJ) hs he (BF hl hd (rel.put k rv) dd')
 ·subst ey eH;cases(show u=cG b from ry);obtain⟨z,hd,xs,rel,dd⟩:=KI I.hok e;have hz:xs.length<=sizeLine:=by rw[<- qw rel];exact z
  have hl:(putK ai k v).length<=sizeLine:=by have:=wM ai k v;omega
  refine wpAny_setItem_heap (hsz:=hz) (zN hu) (uh I.hok eb) dd λh' dd' hs=>h _ ?_;obtain⟨q,es,ep,hq,h2,h3,h4,_,h5⟩:=dd';refine yz I (by rw[e];exact gJ) hs ⟨q,hq⟩ ⟨hl,hd,_,(rel.put k eb rv).keeps λc ys ec=>?_,q,es,ep,hq,h2,h3,h4,h5⟩;rw[aG (Jy ec e (λz=>nomatch z))];exact ec
end
def Bn(ty td:TE):TE:=λσ H Q=>ty σ H λy H1=>td σ H1 λx H2=>∃a o,x=.ref a/\jV H2 a y o/\Q (.bl o.isSome) H2
def Gk(ty td:TE):TE:=λσ H Q=>ty σ H λy H1=>td σ H1 λx H2=>∃a o,x=.ref a/\jV H2 a y o/\Q (.bl (!o.isSome)) H2
def d9(td ty tv:TE):TS:=λD σ H=>tv σ H λv H1=>td σ H1 λx H2=>ty σ H2 λy H3=>∃a H4,x=.ref a/\mi H3 a y v H4/\D.nx σ H4
section
variable{X:Cx}{o i e value:aU}{pos pos' tpos:Pos}{td ty tv:TE}
theorem EJ(hu:X.A.units+1<cLine)(hi:PE X i ty)(ho:PE X o td):PC X .In i o (Bn ty td):=by intro ae s σ H Q I h;refine aX (hi ae s σ H _ I h) λiv s1 ⟨y,H1,I1,ry,q1⟩=>aX (ho ae s1 σ H1 _ I1 q1) λu s2 ⟨x,H2,I2,rx,a,ov,ex,g,q2⟩=>?_;subst ex;obtain rfl:u=cG a:=rx;exact Kl hu I2 g ry λs3 I3=>⟨.bl ov.isSome,H2,I3,rfl,q2⟩
theorem By(hu:X.A.units+1<cLine)(hi:PE X i ty)(ho:PE X o td):PC X .NotIn i o (Gk ty td):=by intro ae s σ H Q I h;refine aX (hi ae s σ H _ I h) λiv s1 ⟨y,H1,I1,ry,q1⟩=>aX (ho ae s1 σ H1 _ I1 q1) λu s2 ⟨x,H2,I2,rx,a,ov,ex,g,q2⟩=>?_;subst ex;obtain rfl:u=cG a:=rx;exact N9 hu I2 g ry λs3 I3=>⟨.bl (!ov.isSome),H2,I3,rfl,q2⟩
theorem vd(hu:X.A.units+1<cLine)(ho:PE X o td)(hi:PE X i ty)(hv:PE X value tv)(hs:swapsWith value (aa (.Subscript o i pos')) pos.line X.env=pure false) :
 PS X (.Assign [.Subscript o i pos'] value pos) (d9 td ty tv):=by
 intro ae s σ H D I h;refine wpAny_Assign_Subscript (aX (hv ae s σ H _ I h) λr s1 ⟨v,H1,I1,rv,q1⟩=>aX (ho ae s1 σ H1 _ I1 q1) λu s2 ⟨x,H2,I2,rx,q2⟩=>aX (hi ae s2 σ H2 _ I2 q2) λiv s3 ⟨y,H3,I3,ry,a,H4,ex,g,q3⟩=>?_) hs;subst ex;obtain rfl:u=cG a:=rx;exact PD hu I3 g ry rv λs4 I4=>⟨σ,H4,I4,q3⟩
end
theorem B4{P:bh}{w:a6}{H:Hp}(h:aJ)(hb:sysModules<h.objs.size):bW P w H (h.push { cls:=.type "dict", data:=.dict #[] }) h.objs.size (.dK []):=⟨eK _,pB.mpr (d8 (fi hb)),[],.nil,Heap.DictOf.new h⟩
theorem LO{P:bh}{w:a6}{H:Hp}(h:aJ)(hb:sysModules<h.objs.size):bW P w H (h.push { cls:=.type "dict", data:=.dict #[] }) h.objs.size (.dT []):=⟨eK _,pB.mpr (d8 (fi hb)),[],.nil,_,#[],0,de _ rfl,⟨rfl,rfl,rfl⟩,rfl,rfl,List.nodup_nil⟩
def BO:TE:=λ_ H Q=>∀p,H p=ac->Q (.ref p) (upd H p (.dK []))
def FZ:TE:=λ_ H Q=>∀p,H p=ac->Q (.ref p) (upd H p (.dT []))
section
variable{X:Cx}{pos:Pos}
theorem Mb:PE X (.Dict [] [] pos) BO:=λae s σ H Q I h=>
 wpAny_Dict_empty ⟨.ref s.heap.objs.size,_,I.laid (a:=s.heap.objs.size) (o:=.dK []) (t':=s.toks) (λ_ _ q=>b8 _ q) (bq _) (B4 s.heap I.big),rfl,h _ (I.hok.fresh (bq _))⟩
theorem KP:PE X (.Dict [] [] pos) FZ:=λae s σ H Q I h=>
 wpAny_Dict_empty ⟨.ref s.heap.objs.size,_,I.laid (a:=s.heap.objs.size) (o:=.dT []) (t':=s.toks) (λ_ _ q=>b8 _ q) (bq _) (LO s.heap I.big),rfl,h _ (I.hok.fresh (bq _))⟩
end
def yS:List (TE×TE)->St->Hp->(List (V×V)->Hp->Prop)->Prop
 |[],_,H,Q=>Q [] H
 |(tk,tv)::r,σ,H,Q=>tk σ H λx H1=>tv σ H1 λy H2=>yS r σ H2 λps H3=>Q ((x,y)::ps) H3
abbrev VV:List (V×V)->List (ag×ag)->Prop:=mS λp q=>RelV p.1 q.1/\RelV p.2 q.2
def vf(X:Cx)(pos:Pos)(keys:List (Option aU))(values:List aU)(trs:List (TE×TE)):Prop:=
 ∀(ae:List (af×Obj)) (s:ao) (σ:St) (H:Hp) (Q:List (V×V)->Hp->Prop),Inv X ae σ H s->yS trs σ H Q ->
  wpAny (model X.prog X.w) X.A (evalPairs (pairTrees keys values X.env pos)) (λvs s'=>∃ps H',Inv X ae σ H' s'/\VV ps vs/\Q ps H') X.xe s
theorem Lu{X:Cx}{pos:Pos}:vf X pos [] [] []:=λae s σ H Q I h=>pairTrees_nil_walk ⟨[],H,I,.nil,h⟩
theorem LB{X:Cx}{pos:Pos}{k v:aU}{ks:List (Option aU)}{vs:List aU}{tk tv:TE}{trs:List (TE×TE)}(hk:PE X k tk)(hv:PE X v tv)(hr:vf X pos ks vs trs) :
 vf X pos (aa k::ks) (v::vs) ((tk,tv)::trs):=λae s σ H Q I h=>
 pairTrees_cons_walk (aX (hk ae s σ H _ I h) λu s1 ⟨x,H1,I1,rx,q1⟩=>aX (hv ae s1 σ H1 _ I1 q1) λw2 s2 ⟨y,H2,I2,ry,q2⟩=>
  aX (hr ae s2 σ H2 _ I2 q2) λws s3 ⟨ps,H3,I3,rel,q3⟩=>⟨(x,y)::ps,H3,I3,.cons ⟨rx,ry⟩ rel,q3⟩)
def rQ(ai more:List (Key×V)):List (Key×V):=more.foldl (λacc kv=>putK acc kv.1 kv.2) ai
theorem KV.merge:∀{more:List (Key×V)} {rs:List (Key×ag)} {ai:List (Key×V)} {vs:List (Key×ag)},KV more rs->KV ai vs->KV (rQ ai more) (merged vs rs):=by
 intro more rs ai vs r;unfold KV at r
 induction r generalizing ai vs with
 |nil=>intro q;exact q
 | @cons p q ps qs h t ih=>
  intro r0;have e:KV (putK ai p.1 p.2) (stored vs q.1 q.2):=by have:=r0.put p.1 h.2;rw[<- h.1];exact this
  exact ih e
theorem Bt:∀(more ai:List (Key×V)),(rQ ai more).length<=ai.length+more.length
 |[],ai=>by show ai.length<=ai.length+0;omega
 |p::r,ai=>by
  have h1:=Bt r (putK ai p.1 p.2);have h2:=wM ai p.1 p.2;show(rQ (putK ai p.1 p.2) r).length<=_;rw[bQ];omega
theorem Br{P:bh}{w:a6}:∀{ai:List (Key×V)} {ws:List (ag×ag)},VV (ai.map λkv=>(kV kv.1,kv.2)) ws->∃rs,Carries (gF P w) ws rs/\KV ai rs
 |[],_,r=>by rw[vC]at r;cases r;exact⟨[],gJ,.nil⟩
 |p::ai,_,r=>by
  rw[cW]at r;cases r with
  | @cons a b as bs h t=>
   obtain⟨rs,c,q⟩:=Br (P:=P) (w:=w) t;obtain⟨b1,b2⟩:=b;exact⟨(p.1,b2)::rs,⟨qD h.1,rfl,c⟩,.cons ⟨rfl,h.2⟩ q⟩
def yv(trs:List (TE×TE)):TE:=λσ H Q=>∀p,H p=ac->yS trs σ (upd H p (.dK [])) λps H2=>H2 p=aa (.dK [])/\∃ai:List (Key×V),ps=ai.map (λkv=>(kV kv.1,kv.2))/\ai.length<=15/\Q (.ref p) (upd H2 p (.dK (rQ [] ai)))
theorem Li{X:Cx}{pos:Pos}{keys:List (Option aU)}{values:List aU}{trs:List (TE×TE)}(h:vf X pos keys values trs)(hall:keys.all (·.isSome)=true)(hl:keys.length=values.length)(h0:keys≠[])
 (h15:keys.length<=15):PE X (.Dict keys values pos) (yv trs):=by
 intro ae s σ H Q I q;have hn:=I.hok.fresh (bq s.heap.objs.size);have I1:=I.laid (a:=s.heap.objs.size) (o:=.dK []) (h':=s.heap.push { cls:=.type "dict", data:=.dict #[] }) (t':=s.toks) (λ_ _ q=>b8 _ q) (bq _) (B4 s.heap I.big);refine wpAny_Dict_walk (knd:=gF X.prog X.w) hall hl h0 h15 (aX (h ae _ σ _ _ I1 (q _ hn)) λws s2 ⟨ps,H2,I2,rel,e,ai,ep,lk,q2⟩=>?_);subst ep;obtain⟨rs,c,rk⟩:=Br (P:=X.prog) (w:=X.w) rel;obtain⟨z,hd,vs0,r0,dd⟩:=EY I2.hok e;cases r0;refine⟨rs,c,dd,λh' dd' hs=>⟨.ref s.heap.objs.size,_,?_,rfl,q2⟩⟩;have hz:(rQ [] ai).length<=sizeLine:=by have h1:=Bt ai [];rw[j5]at h1;rw[c6];omega
 have he:∃q,h'.get? s.heap.objs.size=aa q:=let ⟨q,_,_,hq,_⟩:=dd';⟨q,hq⟩;exact yz I2 (by rw[e];exact gJ) hs he (BF hz hd (rk.merge .nil) dd')
end L2
namespace Att
open PySem PySem.W PySem.Calls PyProof.Rows
theorem KN{P:Params}{h:aJ}:∀(ns:List Int) (vs:List ag),WellAll P h vs (ns.map WData.int)->IntsAre vs ns:=by
 intro ns
 induction ns with
 |nil=>
  intro vs w;rw[vC]at w;cases w;exact .nil
 |cons n ns ih=>
  intro vs w;rw[cW]at w;cases w with
  |cons a b=>
   cases a;exact .cons _ _ (ih _ b)
theorem JV{l:OpenLaw}{n:Nat}(hn:l.most=aa n){P:Params}{h:aJ}{args:List WData}{vals:List ag}
 (hpre:l.row.toRowW.claim.pre args=true) (hwl:WellAll P h vals args) :
 ∃a vs ns,vals=[cG a]/\args=[WData.list (ns.map WData.int)]/\h.get? a=aa { cls:=.type "list", data:=.seq vs.toArray }/\IntsAre vs ns/\ns.length<=n:=by
 have hsh:WShape.hasAll [] args [.list .int]=true:=(pre_splitW hpre).1;have hc:l.pre.holds [] { args:=args }=true:=(pre_splitW hpre).2;obtain⟨d,r,rfl,h1,h2⟩:=hasAllW_cons hsh;obtain rfl:=hasAllW_nil h2;obtain⟨xs,rfl,h3⟩:=hasW_list h1;obtain⟨ns,rfl⟩:=items_int h3;have hlen:ns.length<=n:=by
  unfold OpenLaw.pre at hc;have h4:(WTm.not (.lt (.lit (.int (n:Int))) (.len (.arg 0)))).holds [] { args:=[.list (ns.map .int)] }=true:=by have h4:=(holds_andW hc).1;rw[hn]at h4;exact h4
  have h5:=condW_of h4 (w_not (w_lt w_lit (w_len_list (w_arg rfl))));rw[aQ]at h5;refine Nat.le_of_not_lt λq=>?_;have q':(n:Int)<((ns.length:Nat):Int):=by omega
  first
   |(rw[cv q']at h5;exact absurd h5 (by decide))
   |(simp at h5;omega)
 cases hwl with
 |cons w1 w2=>
  cases w2;cases w1 with
  |list ho hall=>exact⟨_,_,ns,rfl,rfl,ho,KN ns _ hall,hlen⟩
theorem NG(l:OpenLaw)(args:List WData):l.row.toRowW.claim.post args (.bool true) args=true:=
 postW_of (r:=l.row.toRowW) (X:=(true==true))
  (show WShape.has [] (.bool true) .bool=true by first|rfl|decide|simp[WShape.has,WShape.arms,WShape.armsAll])
  (show(WTm.eq .res (.lit (.bool true))).value [] { args:=args,res:=aa (.bool true),after:=args }=aa (.bool (true==true))from w_eq_bool (w_res rfl) w_lit) rfl
theorem JU{l:OpenLaw}{n:Nat}{q:bh}{loose:List Str}{XP:(Str->Option ag)->aJ->Prop}{YP:a6->aJ->Prop}{d:DefRec}
 (hn:l.most=aa n) (hdf:d.params.defaults=[])
 (call:∀(w:a6) (s₀ s₁:ao) (mg mb:Str->Option ag) (fa:af) (o:Obj) (pm cd doc:ag) (a:af) (vs:List ag) (ns:List Int),
  Ground q loose [] XP w s₀ mg mb s₁.heap->YP w s₁.heap ->
  s₁.heap.get? fa=aa o->o.data=.func (docDef d.name d.params d.body d.scope pm cd doc)->s₁.heap.CodeRec cd d.name->mg d.name=aa (.ref fa) ->
  s₁.heap.get? a=aa { cls:=.type "list", data:=.seq vs.toArray }->IntsAre vs ns->ns.length<=n->s₁.gens = #[] ->
  codeAny (model l.prog w) callerA (.call (.ref fa) ⟨[.ref a],[]⟩) (λr s'=>r=.ok (.ret (.bool true))/\OldK s₁.heap s'.heap/\s'.os=s₁.os/\mW s'.gens) s₁) :
 WalkO q loose XP YP l.row.toRowW d [] (λf vs=>zS f vs):=by
 intro w s₀ s₁ mg mb G Y fa o pm cd doc dV kV ho hd hcd hD hmg hg args vals as hpre hlay hrd hwl hlo;obtain rfl:dV=.none:=Dflts.none hD hdf;obtain rfl:kV=.none:=Dflts.noKw hD;obtain⟨a,vs,ns,rfl,rfl,hobj,hints,hlen⟩:=JV hn hpre hwl;refine enter_call (vO (call w s₀ s₁ mg mb fa o pm cd doc a vs ns G Y ho (fd_plain hd) hcd hmg hobj hints hlen hg) λr s' hq=>?_);obtain⟨rfl,h2,h3,h4⟩:=hq;exact⟨.inl ⟨.bool true,.bool true,[],rfl,λ_=>rfl,.bool true,NG l _,λ_=>⟨z8,λ_ hm=>(nomatch hm)⟩⟩,h2,h3,h4⟩
end Att
namespace L2
open PySem PySem.Spec PyProof.Rows
theorem B7:∀{vs:List ag} {ns:List Int},IntsAre vs ns->Vals (ns.map V.int) vs
 |_,_,.nil=>.nil
 |_,_,.cons n t h=>.cons ⟨t,rfl⟩ (B7 h)
def lh(s:bt):mP:=match s with
 |.FunctionDef _ a _ _ _ _ _ _ _ _=>a
 |_=>{ posonlyargs:=[],args:=[],vararg:=ac,kwonlyargs:=[],kw_defaults:=[],kwarg:=ac,defaults:=[] }
def io(s:bt):List bt:=match s with
 |.FunctionDef _ _ b _ _ _ _ _ _ _=>b
 |_=>[]
def bB(s:bt):dB:=match s with
 |.FunctionDef _ _ _ _ _ _ sc _ _ _=>sc
 |_=>{ kind:=.function,names:=[],isGenerator:=false,isCoroutine:=false }
abbrev aL:f7:=λ_ _ _ _ _ _=>False
abbrev E0:XK:=λ_ _ _=>False
theorem oX{X:Cx}:vg aL X E0:=λ_ _ _ _ _ _ _ h=>h.elim
structure ce(K:aD)(x qual:Str)(st:bt)(f:af)(fd:bF):Prop where
 ex:∃(oc:ag) (od:Option af) (kV doc pm:ag) (an:Option af) (cdv ct:ag) (osl:Array (Option ag)),
  fd=j7 x qual (lh st) (io st) (bB st) .none kV doc pm an cdv ct/\K.lookup f=aa ⟨oc,od,.func fd,osl⟩/\qk K cdv qual=true
 kp:kR K (.ref f)=true
section
variable{P:bh}{w:a6}{K:aD}{mg:Str->Option ag}{base:aJ}
theorem ce.ok{x qual:Str}{st:bt}{f:af}{fd:bF}{N ps:List Str}{k:Nat}{sp:Sp}(F:ce K x qual st f fd)(S:cu N ps (bB st))(len:∀vs H Q E,sp vs H Q E->vs.length=ps.length)
 (hbody:∀(cdv:ag) (A:bx) (outer:List Env) (s:ao) (H:Hp) (vs:List V) (Q:VK) (E:XK),b9 k (A.deeper (envOfC qual (bB st) s.heap.objs.size f cdv))->sp vs H Q E ->
  ∃t,f6 (ki aL P w K mg base N qual (bB st) f cdv A outer s H E).kK (io st) t/\t { nx:=λ_ H'=>Q .non H',rt:=Q } (start N vs) H):bE P w K mg base aL (k+1) f fd ps sp:=by
 obtain⟨oc,od,kV,doc,pm,an,cdv,ct,osl,rfl,lk,hcd⟩:=F.ex;refine Ej lk hcd S len λA outer s H vs Q E hr hsp=>?_;obtain⟨t,h,q⟩:=hbody cdv A outer s H vs Q E hr hsp;exact⟨t,h.kK,q⟩
theorem ce.binds{x qual:Str}{st:bt}{f:af}{fd:bF}{ps:List Str}(F:ce K x qual st f fd)
 (h:∀(kV doc pm:ag) (an:Option af) (cdv ct:ag) (us:List ag),us.length=ps.length->bindArgs (j7 x qual (lh st) (io st) (bB st) .none kV doc pm an cdv ct) ⟨us,[]⟩=pure (ps.zip us)):Binds K fd ps []:=by
 obtain⟨oc,od,kV,doc,pm,an,cdv,ct,osl,rfl,lk,hcd⟩:=F.ex;exact .all (h kV doc pm an cdv ct)
theorem Dn{x qual:Str}{st:bt}{f:af}{oc:ag}{od an:Option af}{osl:Array (Option ag)}{kV doc pm cdv ct:ag}(l:K.lookup f=aa ⟨oc,od,.func (j7 x qual (lh st) (io st) (bB st) .none kV doc pm an cdv ct),osl⟩)
 (c:qk K cdv qual=true) (k:kR K (.ref f)=true):ce K x qual st f (j7 x qual (lh st) (io st) (bB st) .none kV doc pm an cdv ct):=⟨⟨oc,od,kV,doc,pm,an,cdv,ct,osl,rfl,l,c⟩,k⟩
end
theorem qa{A:bx}{k:Nat}(hr:b9 k A):A.units+1<cLine:=Nat.lt_of_le_of_lt (Nat.add_le_add_left (by decide:1<=64) _) hr.units
section
variable{X:Cx}
theorem pv(i:Nat){x:Str}{pos:Pos}(hN:X.N[i]? = aa x:=by rfl)(hv:pq X.env.scope x:=by first|exact cz rfl|exact fk (cz rfl)|exact fk (fk rfl))(hd:(x==("__debug__" : Str))=false:=by decide)
 (hcd:(x==("__classdict__" : Str))=false:=by decide):PE X (.Name x pos) (eR i):=Pc hN hv hd hcd
end
theorem md{A B:Prop}(h:B):if false=true then A else B:=by rw[aP c7];exact h
theorem l5{A B:Prop}(h:A):if true=true then A else B:=by rw[aN rfl];exact h
def cg(H H':Hp):Prop:=∀b o,H b=aa o->H' b=aa o
theorem cg.refl(H:Hp):cg H H:=λ_ _ h=>h
theorem cg.trans{H H1 H2:Hp}(a:cg H H1)(b:cg H1 H2):cg H H2:=λc o h=>b c o (a c o h)
theorem cg.free{H H':Hp}(e:cg H H'){l:af}(h:H' l=Option.none):H l=Option.none:=by
 cases q:H l with
 |none=>rfl
 |some o=>
  rw[e l o q]at h;cases h
section
variable{prog:bh}{w:a6}{A:bx}{R:Result->ao->Prop}{s:ao}
theorem MH{elt target iter:aU}{ifs:List aU}{scope:dB}{pos:Pos}{it acc:ag}{env:Env}(I:Nat->ao->Prop)
 (turn:∀n s,I n s->wpAny (model prog w) A (pyNext it) (λr s₁=>match r with
  |none=>R (.ok .next) s₁
  |some v=>wpAny (model prog w) A (letOwnedTupleGo target it v) (λ_ s₂=>wpAny (model prog w) A (assign target env v) (λ_ s₃=>
   wpAny (model prog w) A (forIn ifs true λc r=>if r=true then do let ok <- isTrue c env (eval c env);pure (kU ok)else pure (kU r)) (λok s₄=>
    if ok=true then wpAny (model prog w) A (eval elt env) (λx s₅=>
     wpAny (model prog w) A (call (.builtin "list.append") [acc,x]) (λ_ s₆=>∃m,m<n/\I m s₆) (λ_ _=>False) s₅) (λ_ _=>False) s₄
    else∃m,m<n/\I m s₄) (λ_ _=>False) s₃) (λ_ _=>False) s₂) (λ_ _=>False) s₁) (λ_ _=>False) s)
 (n:Nat) (h:I n s) :
 codeAny (model prog w) A (.compLoop (.ListComp elt [⟨target,iter,ifs,0⟩] scope pos) 0 it acc env) R s:=by
 refine codeAny_loop rfl I (λn s hI=>?_) n h;show wpAny _ A ((compTurn (.ListComp elt [⟨target,iter,ifs,0⟩] scope pos) 0 it acc env).onRaise (λx=>do noteFrame x env;theTreesLotGoes x)) _ _ s;refine wpAny_noted (gH (E:=λ_ _=>False) ?_ (λ_ _ q=>q) λ_ _ q=>q.elim);rw[compTurn_list];refine aB (sZ (aB (aX (turn n s hI) λr s₁ h₁=>?_)));cases r with
 |none=>exact bn h₁
 |some v=>
  refine aB (aX h₁ λ_ s₂ h₂=>aB (aX h₂ λ_ s₃ h₃=>aB (aX h₃ λok s₄ h₄=>?_)));cases ok with
  |false=>exact bn ⟨rfl,h₄⟩
  |true=>exact aB (aB (aX h₄ λx s₅ h₅=>aB (aX h₅ λ_ s₆ h₆=>bn (bn ⟨rfl,h₆⟩))))
end
theorem cJ.track{P:bh}{w:a6}{H:Hp}{h:aJ}{a:af}{o:HO}(x:cJ P w H h)(hn:H a=ac)(new:bW P w (upd H a o) h a o):cJ P w (upd H a o) h:=λb u e=>by
 by_cases hb:b=a
 ·subst hb;rw[bu]at e;cases e;exact new
 ·rw[aG hb]at e;exact(x b u e).stay (λc v _ q=>q) (λc q=>by rw[aG (cE q hn)];exact q) λc xs q=>by rw[aG (cE q hn)];exact q
theorem lookup_mem{α:Type}:∀{l:List (Str×α)} {x:Str} {k:α},l.lookup x=aa k->(x,k)∈l
 |[],_,_,h=>by simp at h
 |(n,k')::r,x,k,h=>by
  rw[mL]at h;cases hx:x==n with
  |true=>
   rw[hx]at h;have:x=n:=by simpa using hx
   cases h;subst this;exact bP
  |false=>rw[hx]at h;exact cy _ (lookup_mem h)
theorem uG{env:Env}:∀{names:List (Str×mR)} {x:Str} {k:mR},
 (names.map λ(n,k)=>if(k==kW&&env.scope.kind==.function&&env.kindOf n==aa .cell)then(n,zZ)else(n,k)).lookup x=aa k ->
 ∃k',names.lookup x=aa k'/\(k=k'\/(k'=.free/\k=.cell))
 |[],_,_,h=>by simp at h
 |(n,k0)::r,x,k,h=>by
  have ih:=@uG env r x k;have h':kQ x ((if(k0==kW&&env.scope.kind==.function&&env.kindOf n==aa .cell)=true then(n,zZ)else(n,k0)) ::
   (r.map λ(n,k)=>if(k==kW&&env.scope.kind==.function&&env.kindOf n==aa .cell)then(n,zZ)else(n,k)))=aa k:=h
  by_cases hc:(k0==kW&&env.scope.kind==.function&&env.kindOf n==aa .cell)=true
  ·rw[aN hc,mL]at h';rw[mL];cases hx:x==n with
   |true=>
    rw[hx]at h';cases h';simp only[oA]at hc;exact⟨k0,rfl,.inr ⟨by simpa using hc.1.1,rfl⟩⟩
   |false=>rw[hx]at h';exact ih h'
  ·rw[aP hc,mL]at h';rw[mL];cases hx:x==n with
   |true=>rw[hx]at h';cases h';exact⟨_,rfl,.inl rfl⟩
   |false=>rw[hx]at h';exact ih h'
theorem wZ{env:Env}{f:(Str×mR)->List (Str×af)->Sem (ForInStep (List (Str×af)))}
 (hf:∀n k r,f (n,k) r=if(k==kW)=true then(cellOf env n >>= λa=>pure (kU ((n,a)::r)))else pure (kU r)) :
 ∀(names:List (Str×mR)) (acc:List (Str×af)),(∀y∈names,y.2=.free->∃c,env.cells.lookup y.1=aa c)->(∀x c,acc.lookup x=aa c->env.cells.lookup x=aa c) ->
  ∃cl,forIn names acc f=pure cl/\(∀x c,cl.lookup x=aa c->env.cells.lookup x=aa c)/\(∀x,(∃c,acc.lookup x=aa c)->∃c,cl.lookup x=aa c)/\∀x,(x,kW)∈names->∃c,cl.lookup x=aa c
 |[],acc,_,hacc=>⟨acc,rfl,hacc,λ_ h=>h,λ_ h=>by simp at h⟩
 |(n,k)::r,acc,hn,hacc=>by
  have hr:∀y∈r,y.2=.free->∃c,env.cells.lookup y.1=aa c:=λy hy=>hn y (cy _ hy);by_cases hk:(k==kW)=true
  ·have hk':k=.free:=by simpa using hk
   obtain⟨c,hc⟩:=hn (n,k) bP hk';obtain⟨cl,e,h1,h2,h3⟩:=wZ hf r ((n,c)::acc) hr (λx c' h=>by
    rw[mL]at h;cases hx:x==n with
    | true => rw [hx] at h; cases h; have : x = n := by simpa using hx
              subst this;exact hc
    |false=>rw[hx]at h;exact hacc x c' h)
   refine⟨cl,?_,h1,λx ⟨c',hx⟩=>h2 x ?_,λx hx=>?_⟩
   ·rw[sV,hf,aN hk];have:cellOf env n=pure c:=by unfold cellOf;rw[hc]
    rw[this];exact e
   ·rw[mL];cases x==n with
    |true=>exact⟨_,rfl⟩
    |false=>exact⟨c',hx⟩
   ·rcases br.mp hx with e|hx
    ·cases e;exact h2 _ ⟨c,by rw[mL];simp⟩
    ·exact h3 x hx
  ·obtain⟨cl,e,h1,h2,h3⟩:=wZ hf r acc hr hacc;refine⟨cl,?_,h1,h2,λx hx=>?_⟩
   ·rw[sV,hf,aP hk];exact e
   ·rcases br.mp hx with e|hx
    ·cases e;exact absurd rfl hk
    ·exact h3 x hx
theorem Kg{sc:dB}{env:Env}(h:∀y∈sc.names,y.2=.free->∃c,env.cells.lookup y.1=aa c) :
 ∃cl,closureFor sc env=pure cl/\(∀x c,cl.lookup x=aa c->env.cells.lookup x=aa c)/\∀x,(x,kW)∈sc.names->∃c,cl.lookup x=aa c:=by
 obtain⟨cl,e,h1,_,h3⟩:=wZ (env:=env) (f:=λx r=>match x with|(name,kind)=>if(kind==kW)=true then(cellOf env name >>= λa=>pure (kU ((name,a)::r)))else pure (kU r))
  (λn k r=>rfl) sc.names [] h (λ_ _ h=>by simp at h)
 refine⟨cl,?_,h1,h3⟩;unfold closureFor;refine Eq.trans ?_ e;exact bind_pure _
def pick(ρ:List (Option Nat))(σ:St):St:=ρ.map λo=>o.bind λj=>(σ[j]?).join
def eX(X:Cx)(N':List Str)(sc:dB)(cl:List (Str×af))(C:af)(s:ao)(H:Hp)(fp:List af):Cx:={ X with N:=N',s₀:=s,H₀:=H,env:=compEnvC sc cl C X.env,outer:=X.stack,ex:=fp,fn:=λ_=>false,xe:=λ_ _=>False }
structure dI(X:Cx)(N':List Str)(ρ:List (Option Nat))(sc:dB):Prop where
 kind:sc.kind=.function
 jD:∀y∈sc.names,y.2≠.cell
 names:∀y∈sc.names,y.2=.local->sc.names.lookup y.1=aa .local
 free:∀y∈sc.names,y.2=.free->(X.env.kindOf y.1=aa .cell\/X.env.kindOf y.1=aa .free)
 len:ρ.length=N'.length
 ix:∀(i j:Nat),ρ[i]? = aa (aa j)->∃x,N'[i]? = aa x/\X.N[j]? = aa x/\sc.names.lookup x=aa .free
def se(X:Cx)(ifs:List aU)(t:TT):Prop:=
 ∀(ae:List (af×Obj)) (s:ao) (σ:St) (H:Hp) (Q:Bool->Hp->Prop),Inv X ae σ H s->t σ H Q ->
  wpAny (model X.prog X.w) X.A (forIn ifs true λc r=>if r=true then do let ok <- isTrue c X.env (eval c X.env);pure (kU ok)else pure (kU r)) (TP X ae σ Q) X.xe s
def GB:TT:=λ_ H Q=>Q true H
theorem lb{X:Cx}:se X [] GB:=λ_ _ _ H _ I h=>wpAny_tests_nil ⟨H,I,h⟩
theorem iS{X:Cx}{c:aU}{t:TT}(h:PT X c t):se X [c] t:=λae s σ H Q I hw=>wpAny_tests_one (h ae s σ H Q I hw)
def rF(ρ:List (Option Nat))(g:TG):Prop:=∀v σ H Q,g v σ H Q->g v σ H λσ2 H2=>(σ2.length = σ.length/\∀(i j:Nat),ρ[i]? = aa (aa j)->σ2[i]? = σ[i]?)/\Q σ2 H2
def uw(ρ:List (Option Nat))(g:iC):Prop:=∀v σ H Q,g v σ H Q->g v σ H λσ2 H2=>(σ2.length = σ.length/\∀(i j:Nat),ρ[i]? = aa (aa j)->σ2[i]? = σ[i]?)/\Q σ2 H2
theorem gY{ρ:List (Option Nat)}{i:Nat}(h:ρ[i]? = aa ac):rF ρ (gu i):=λv σ H Q q=>by
 refine⟨⟨kO,λk j e=>?_⟩,q⟩;have:i≠k:=by intro z;subst z;rw[h]at e;cases e
 rw[fh this]
theorem nK{ρ:List (Option Nat)}:uw ρ qT:=λv σ H Q ⟨e,q⟩=>⟨e,⟨rfl,λ_ _ _=>rfl⟩,q⟩
theorem ia{ρ:List (Option Nat)}{i:Nat}{u:iC}(h:ρ[i]? = aa ac)(hu:uw ρ u)(mu:∀v σ H Q Q',(∀a b,Q a b->Q' a b)->u v σ H Q->u v σ H Q'):uw ρ (qH (gu i) u):=λvs σ H Q ⟨v,r,e,q⟩=>by
 refine⟨v,r,e,?_⟩;refine mu _ _ _ _ _ (λa b ⟨⟨l,k⟩,z⟩=>⟨⟨l.trans kO,λi' j' e'=>(k i' j' e').trans ?_⟩,z⟩) (hu _ _ _ _ q);have:i≠i':=by intro z;subst z;rw[h]at e';cases e'
 rw[fh this]
theorem ir:∀v σ H Q Q',(∀a b,Q a b->Q' a b)->qT v σ H Q->qT v σ H Q':=λ_ _ _ _ _ m ⟨e,q⟩=>⟨e,m _ _ q⟩
theorem nB{i:Nat}{u:iC}(mu:∀v σ H Q Q',(∀a b,Q a b->Q' a b)->u v σ H Q->u v σ H Q'):∀v σ H Q Q',(∀a b,Q a b->Q' a b)->qH (gu i) u v σ H Q->qH (gu i) u v σ H Q':=λ_ _ _ _ _ m ⟨v,r,e,q⟩=>⟨v,r,e,mu _ _ _ _ _ m q⟩
theorem nJ{ρ:List (Option Nat)}{K:aD}{n:Nat}{u:iC}(hu:uw ρ u):rF ρ (yk K n u):=λv σ H Q ⟨a,xs,e,hq,hl,q⟩=>⟨a,xs,e,hq,hl,hu _ _ _ _ q⟩
def ML(J:It)(ρ:List (Option Nat))(g:TG)(tc:TT)(te:TE)(σ:St)(H1:Hp)(Q:VK):Prop:=∃W:Nat->Nat->List V->Hp->Prop,(∃m,W 0 m [] H1)/\∀i m acc H,W i m acc H ->
 (J.stop i H/\∀p,H p=ac->Q (.ref p) (upd H p (.lst acc))) \/
 (J.go i H/\acc.length<sizeLine/\∃N:List V->Hp->Prop,(∀acc' H',N acc' H'->∃m',m'<m/\W (i+1) m' acc' H') /\
  ∀x H',J.yld i H x H'->g x (pick ρ σ) H' λσ2 H2=>tc σ2 H2 λb H3=>if b=true then te σ2 H3 λy H4=>N (acc++[y]) H4 else N acc H3)
def ui(wi:TI)(ρ:List (Option Nat))(g:TG)(tc:TT)(te:TE):TE:=λσ H Q=>wi σ H λJ H1=>ML J ρ g tc te σ H1 Q
section
variable{X:Cx}{elt tg iter:aU}{ifs:List aU}{sc:dB}{pos cpos:Pos}{N':List Str}{ρ:List (Option Nat)}{wi:TI}{g:TG}{tc:TT}{te:TE}
theorem Du(hcalm:X.calm=true)(S:dI X N' ρ sc)(hi:PI X tg iter wi)
 (hg:∀cl C s H fp,PG (eX X N' sc cl C s H fp) tg g) (gk:rF ρ g) (hc:∀cl C s H fp,se (eX X N' sc cl C s H fp) ifs tc) (he:∀cl C s H fp,PE (eX X N' sc cl C s H fp) elt te)
 (hs:∀x,foldedSetIterable iter X.env x=pure x)
 (use:Option (ag->Sem Unit)) {R:ag->ao->Prop} {ae:List (af×Obj)} {s:ao} {σ:St} {H:Hp} {Q:VK} (I:Inv X ae σ H s) (h:ui wi ρ g tc te σ H Q)
 (hR:∀s' D C H',Inv X ae σ H' s'->Q (.ref D) H'->(∃m,s'.heap.Ns C m)->eM X ae H' C->compPost (model X.prog X.w) X.A X.xe use R (.ref D) C (.ok .next) s') :
 wpAny (model X.prog X.w) X.A (comprehension (.ListComp elt [⟨tg,iter,ifs,0⟩] sc pos) sc X.env cpos (newList []) false (eval iter X.env) use) R X.xe s:=by
 obtain⟨cl,hcl,hsub,hall⟩:=Kg (sc:=sc) (env:=X.env) λy hy hf=>I.ok.has y.1 (S.free y hy hf);refine wpAny_comprehension_free rfl hs hcl S.kind S.names (aX (hi ae s σ H _ I h) λv s1 h1=>aX h1 λitv s2 h2=>?_);obtain⟨it,fp,tn,J,H2,e,I2,T,st2,f2,W,⟨m0,w0⟩,turn⟩:=h2;subst e;refine zT (items:=[]) ?_;refine zM S.jD (by intro y hy;simp at hy) (λh₁ hns hsb=>?_) S.kind;dsimp only at hns hsb ⊢;generalize hH2:s2.heap.push { cls:=.type "list", data:=.seq ([]:List ag).toArray }=Hh at hns hsb ⊢;have hCs:Hh.objs.size=s2.heap.objs.size+1:=by rw[<- hH2,oz]
 generalize hD:s2.heap.objs.size=D at *;generalize hCC:Hh.objs.size=C at *;have hDC:D≠C:=by omega
 have ltC:∀b:Nat,b<s2.heap.objs.size->b≠C/\b≠D/\b<D:=λb h=>by omega
 have ltD:∀b:Nat,b<D->b≠C/\b≠D:=λb h=>by omega
 have old:∀b o,s2.heap.get? b=aa o->h₁.get? b=aa o:=λb o e=>hsb.extBut b o (ltC b (bS e)).1 (b8 _ (by rw[<- hH2];exact b8 _ e));have newD:h₁.get? D=aa { cls:=.type "list", data:=.seq ([]:List ag).toArray }:=hsb.extBut _ _ hDC (b8 _ (by rw[<- hH2,<- hD];exact de _ rfl));have ltb:∀b∈fp,b<D:=λb hb=>by
  obtain⟨o,e,_⟩:=T.obj _ _ st2 b hb;exact(ltC b (bS e)).2.2
 have fD:eM X ae H2 D:=I2.gR (by omega) (I2.hok.fresh (by omega));have fC:eM X ae H2 C:=I2.gR (by omega) (I2.hok.fresh (by omega));have nst:∀b,b≠X.env.locals->b∉X.fs->b∉frs X.stack:=λb h1 h2 hb=>by
  rcases br.mp (I2.pO b hb)with e|e
  ·exact h1 e
  ·exact h2 e
 have ok':(eX X N' sc cl C s2 H2 fp).Ok:=by
  refine⟨I2.ok.mod,S.kind,I2.ok.glob,I2.ok.blt,(by show s2.heap.objs.size<=C;omega),λx y c e1 e2=>I2.ok.inj x y c (hsub _ _ e1) (hsub _ _ e2),λx hx=>?_,λx c z=>(by cases z),I2.ok.hd,I2.ok.frames,.inl rfl,
   λb hb=>⟨(ltD b (ltb b hb)).1,λx c e=>(f2 b hb).2.2.2.2.1 x c (hsub _ _ e)⟩,I2.bs,(by show X.base.objs.size<=s2.heap.objs.size;exact dR I2.ok.bsz I2.sz),λb o e hb=>?_,λb hb=>nst b (f2 b hb).2.1 (f2 b hb).2.2.1,I2.stack,I2.yD⟩
  ·have hx':∃k',sc.names.lookup x=aa k'/\(k'=.cell\/k'=.free):=by
    rcases hx with hx|hx
    ·obtain⟨k',e1,e2⟩:=uG (env:=X.env) (names:=sc.names) hx;rcases e2 with e2|⟨e2,_⟩
     ·exact⟨k',e1,.inl e2.symm⟩
     ·exact⟨k',e1,.inr e2⟩
    ·obtain⟨k',e1,e2⟩:=uG (env:=X.env) (names:=sc.names) hx;rcases e2 with e2|⟨e2,_⟩
     ·exact⟨k',e1,.inr e2.symm⟩
     ·exact⟨k',e1,.inr e2⟩
   obtain⟨k',e1,e2⟩:=hx';have hm:=lookup_mem e1;rcases e2 with e2|e2
   ·exact absurd e2 (S.jD _ hm)
   ·subst e2;exact hall x hm
  ·rcases(f2 b hb).2.2.2.1 with z|z
   ·exact I2.ok.tI b o e z
   ·exact absurd (fR (bS e) (dR I2.ok.bsz z)) (i6 _)
 have HW:∀p∈X.pn++ae,p.1<D:=λp hp=>(ltC p.1 (bS (I2.pin p hp).1)).2.2;have PU:∀x c,cl.lookup x=aa c->c<D:=λx c e=>by
  obtain⟨v,q⟩:=I2.cell x c (hsub _ _ e);exact(ltC c q.lt).2.2
 have I':∀tk,Inv (eX X N' sc cl C s2 H2 fp) (ae++[(D,{ cls:=.type "list", data:=.seq ([]:List ag).toArray })]) (pick ρ σ) H2 { s2 with heap:=h₁,toks:=tk }:=λtk=>by
  refine⟨ok',rfl,I2.bare,Un.kept old,⟨_,hns,λi x v e1 e2 e3=>?_⟩,λx c e=>?_,fC.1,λx c e=>I2.ja x c (hsub _ _ e),λp hp=>?_,I2.hok.kept old,?_⟩
  ·have e2':∃j,ρ[i]? = aa (aa j)/\σ[j]? = aa (aa v):=by
    unfold pick at e2;rw[cZ]at e2;cases hr:ρ[i]? with
    |none=>rw[hr]at e2;cases e2
    |some o=>
     rw[hr]at e2;cases o with
     |none=>cases e2
     |some j=>
      refine⟨j,rfl,?_⟩;have e2:(σ[j]?).join=aa v:=fj e2;cases hq:σ[j]? with
      |none=>rw[hq]at e2;cases e2
      | some o' => rw [hq] at e2; have e2 : o' = aa v := e2
                   rw[e2]
   obtain⟨j,hj,hv⟩:=e2';obtain⟨y,ey,eN,ef⟩:=S.ix i j hj;have e1':N'[i]? = aa x:=e1;rw[ey]at e1';cases e1';obtain⟨m,hn,hl⟩:=I2.loc;have hm:=lookup_mem ef;have kX:=S.free _ hm rfl;obtain⟨u,ru,lk⟩:=hl j x v eN hv (by rcases kX with k|k;exact .inr (.inl k);exact .inr (.inr k));refine⟨u,ru,.inr ⟨?_,?_⟩⟩
   ·show(relabel sc X.env).names.lookup x=aa .cell\/(relabel sc X.env).names.lookup x=aa .free;rcases e3 with e3|e3|e3
    ·obtain⟨k',q1,q2⟩:=uG (env:=X.env) (names:=sc.names) e3;rw[ef]at q1;cases q1;rcases q2 with q2|⟨_,q2⟩<;>cases q2
    ·exact .inl e3
    ·exact .inr e3
   ·obtain⟨c,hc'⟩:=hall x hm;refine⟨c,hc',?_⟩;rcases lk with ⟨k,_⟩|⟨_,c',ec,z⟩
    ·rcases kX with k'|k'<;>(rw[k]at k';cases k')
    ·rw[hsub _ _ hc']at ec;cases ec;obtain⟨o,ho,hd⟩:=z;exact⟨o,old _ _ ho,hd⟩
  ·obtain⟨v,o,ho,hd⟩:=I2.cell x c (hsub _ _ e);exact⟨v,o,old _ _ ho,hd⟩
  ·have hp':p∈X.pn++ae\/p=(D,{ cls:=.type "list", data:=.seq ([]:List ag).toArray }):=by
    rcases dA.mp hp with z|z
    ·exact .inl (eB _ z)
    ·rcases dA.mp z with z|z
     ·exact .inl (dQ _ z)
     ·exact .inr (by simpa using z)
   rcases hp' with z|z
   ·obtain⟨q1,q2,q3,q4,q5⟩:=I2.pin p z;exact⟨old _ _ q1,q2,(ltD p.1 (HW p z)).1,nst _ q3 q4,q5⟩
   ·subst z;exact⟨newD,fD.1,hDC,nst _ fD.2.1 fD.2.2.1,λv z=>by cases z⟩
  ·show(pick ρ σ).length=N'.length;unfold pick;rw[aQ];exact S.len
 have stat:∀{H':Hp} {o:Obj},(∀b∈fp,H' b=ac)->∀b∈fp,eM (eX X N' sc cl C s2 H2 fp) (ae++[(D,o)]) H' b:=λ{H' o} hn b hb=>by
  refine⟨hn b hb,(ltD b (ltb b hb)).1,nst b (f2 b hb).2.1 (f2 b hb).2.2.1,.inl hb,λx c e=>(f2 b hb).2.2.2.2.1 x c (hsub _ _ e),λp hp=>?_⟩;rcases dA.mp hp with z|z
  ·exact(f2 b hb).2.2.2.2.2 p (eB _ z)
  ·rcases dA.mp z with z|z
   ·exact(f2 b hb).2.2.2.2.2 p (dQ _ z)
   ·have e:p=(D,o):=by simpa using z
    subst e;exact d8 (ltD b (ltb b hb)).2
 have loop:∀tk,codeAny (model X.prog X.w) X.A (.compLoop (.ListComp elt [⟨tg,iter,ifs,0⟩] sc pos) 0 (.ref it) (.ref D) (compEnvC sc cl C X.env)) (compPost (model X.prog X.w) X.A X.xe use R (.ref D) C) { s2 with heap:=h₁,toks:=tk }:=λtk=>by
  refine MH (λn s'=>∃(i:Nat) (acc:List V) (aj:List ag) (k:Nat) (H':Hp),Inv (eX X N' sc cl C s2 H2 fp) (ae++[(D,{ cls:=.type "list", data:=.seq aj.toArray k })]) (pick ρ σ) H' s'/\Vals acc aj/\acc.length<=sizeLine/\tn i s'.heap/\(∀b∈fp,H' b=ac)/\W i n acc H')
   ?_ m0 ⟨0,[],[],0,H2,I' tk,.nil,eK _,T.keep _ _ _ st2 λb hb o e=>old b o e,λb hb=>(f2 b hb).1,w0⟩
  rintro n s3 ⟨i,acc,aj,k,H3,I3,va,hz0,st3,fr3,w3⟩;rcases turn i n acc H3 w3 with ⟨stop,qn⟩|⟨go,hz,Nn,hN,step⟩
  ·refine aX (T.done (eX X N' sc cl C s2 H2 fp) rfl rfl rfl hcalm i _ s3 _ H3 (λ_ _=>False) I3 (stat fr3) st3 stop) λr s4 ⟨hr,I4⟩=>?_;subst hr;obtain⟨p1,p2,p3,p4,p5⟩:=I4.pin (D,{ cls:=.type "list",data:=.seq aj.toArray k }) (by simp);have p1:s4.heap.get? D=aa { cls:=.type "list", data:=.seq aj.toArray k }:=p1;have p2:H3 D=ac:=p2;have B:=I4.base;have upn:∀b o,H3 b=aa o->upd H3 D (.lst acc) b=aa o:=λb o e=>by rw[aG (cE e p2)];exact e
   have IX:Inv X ae σ (upd H3 D (.lst acc)) s4:=by
    refine I2.call' (ch:=fp) I4.os ⟨λb o q1 q2 q3 q4=>B.keep b o q1 q2 q3 q4,λb o q1 q2 q3 q4=>B.slot b o q1 q2 q3 q4,λb o q1 q2 q3=>?_,λb o q1 q2=>B.there b o q1 q2,
     λb xs q=>upn _ _ (B.tups b xs q),λb o u q=>upn _ _ (B.kY b o u q),λb w ps q=>?_⟩ (I4.hok.track p2 ⟨hz0,aj,k,va,p1⟩) I4.bare λb hb=>⟨(f2 b hb).2.2.2.1,(f2 b hb).2.1,(f2 b hb).2.2.2.2.1,(f2 b hb).2.2.2.2.2⟩
    ·rw[aG (ltC b (bS q1)).2.1];exact B.free b o q1 q2 q3
    ·obtain⟨more,q'⟩:=B.ke b w ps q;exact⟨more,upn _ _ q'⟩
   obtain⟨m,hm,_⟩:=I4.loc;refine hR s4 D C _ IX (qn D p2) ⟨m,hm⟩ (I2.gR (by omega) ?_);rw[aG (d8 hDC)];exact I4.free
  ·refine aX (T.item (eX X N' sc cl C s2 H2 fp) rfl rfl rfl hcalm i _ s3 _ H3 (λ_ _=>False) I3 (stat fr3) st3 go) λr s4 ⟨u,hr,h4⟩=>?_;subst hr;refine aX h4 λ_ s5 ⟨x,H5,I5,r5,y5,st5,fr5⟩=>?_;have I5':=I5.pinned (stat fr5) (T.obj _ _ st5);refine aX (hg cl C s2 H2 fp _ s5 _ H5 x u _ I5' r5 (gk _ _ _ _ (step x H5 y5))) λ_ s6 ⟨σ6,H6,I6,⟨l6,k6⟩,q6⟩=>?_;refine aX (hc cl C s2 H2 fp _ s6 σ6 H6 _ I6 q6) λok s7 ⟨H7,I7,q7⟩=>?_;have wk:∀{qx:List (af×Obj)} {H':Hp} {s':ao},Inv (eX X N' sc cl C s2 H2 fp) qx σ6 H' s'->Inv (eX X N' sc cl C s2 H2 fp) qx (pick ρ σ) H' s':=λ{qx H' s'} J'=>
    J'.weak l6.symm λj v e=>by
     have:∃j',ρ[j]? = aa (aa j'):=by
      unfold pick at e;rw[cZ]at e;cases hr:ρ[j]? with
      |none=>rw[hr]at e;cases e
      |some o=>
       rw[hr]at e;cases o with
       |none=>cases e
       |some j'=>exact⟨j',rfl⟩
     obtain⟨j',hj'⟩:=this;rw[k6 j j' hj'];exact e
   cases ok with
   |false=>
    have q7:Nn acc H7:=by simpa using q7
    rw[aP c7];obtain⟨m',hm,w7⟩:=hN acc H7 q7;refine⟨m',hm,i+1,acc,aj,k,H7,wk I7.pA,va,hz0,T.keep _ _ _ st5 λb hb o e=>(I7.pin (b,o) (dQ _ (dQ _ (pi hb e)))).1,λb hb=>?_,w7⟩;obtain⟨o,e,d⟩:=T.obj _ _ st5 b hb;exact(I7.pin (b,o) (dQ _ (dQ _ (pi hb e)))).2.1
   |true=>
    have q7:te σ6 H7 λy H4=>Nn (acc++[y]) H4:=by simpa using q7
    rw[aN rfl];refine aX (he cl C s2 H2 fp _ s7 σ6 H7 _ I7 q7) λxv s8 ⟨y,H8,I8,r8,n8⟩=>?_;obtain⟨p1,p2,p3,p4,p5⟩:=I8.pin (D,{ cls:=.type "list",data:=.seq aj.toArray k }) (by simp);have p1:s8.heap.get? D=aa { cls:=.type "list",data:=.seq aj.toArray k }:=p1;have p2:H8 D=ac:=p2;refine wpAny_list_append_plain ⟨k,p1⟩ (λh' pl sb=>?_) (by rw[cq,<- va.length];omega);obtain⟨k',pl⟩:=pl;obtain⟨m',hm,w8⟩:=hN _ _ n8;have Ia:Inv (eX X N' sc cl C s2 H2 fp) ae σ6 H8 s8:=I8.pA.pA;have Ib:Inv (eX X N' sc cl C s2 H2 fp) ae σ6 H8 { s8 with heap:=h' }:=Ia.turned (t':=s8.toks) (it:=D) (λb o hb e=>(sb.2 b hb).trans e) p2 hDC (.inr (by show s2.heap.objs.size<=D;omega)) (λx c e=>(ltD c (PU x c e)).2) λp hp=>(ltD p.1 (HW p hp)).2;have pl':h'.get? D=aa { cls:=.type "list", data:=.seq (aj++[xv]).toArray k' }:=by rw[pl];simp
    have Ic:Inv (eX X N' sc cl C s2 H2 fp) (ae++[(D,{ cls:=.type "list", data:=.seq (aj++[xv]).toArray k' })]) σ6 H8 { s8 with heap:=h' }:=Ib.yC λp hp=>by
     rcases dA.mp hp with z|z
     ·exact Ib.pin p (dQ _ z)
     ·have e:p=(D,{ cls:=.type "list", data:=.seq (aj++[xv]).toArray k' }):=by simpa using z
      subst e;exact⟨pl',p2,p3,p4,λv z=>by cases z⟩
    refine⟨m',hm,i+1,acc++[y],aj++[xv],k',H8,wk Ic,va.append (.cons r8 .nil),(by rw[cC,sR];omega),T.keep _ _ _ st5 λb hb o e=>?_,λb hb=>?_,w8⟩
    ·exact(sb.2 b (ltD b (ltb b hb)).2).trans (I8.pin (b,o) (dQ _ (dQ _ (pi hb e)))).1
    ·obtain⟨o,e,d⟩:=T.obj _ _ st5 b hb;exact(I8.pin (b,o) (dQ _ (dQ _ (pi hb e)))).2.1
 refine codeAny_compStart_list (loop _) (T.self X.A 0 _ _ _ (T.keep _ _ _ st2 λb hb o e=>old b o e) (loop _))
theorem fe(hcalm:X.calm=true)(S:dI X N' ρ sc)(hi:PI X tg iter wi)
 (hg:∀cl C s H fp,PG (eX X N' sc cl C s H fp) tg g) (gk:rF ρ g) (hc:∀cl C s H fp,se (eX X N' sc cl C s H fp) ifs tc) (he:∀cl C s H fp,PE (eX X N' sc cl C s H fp) elt te)
 (hs:∀x,foldedSetIterable iter X.env x=pure x:=by intro _;rfl) :
 PE X (.ListComp elt [⟨tg,iter,ifs,0⟩] sc pos) (ui wi ρ g tc te):=by
 intro ae s σ H Q I h;rw[eval_ListComp];refine Du hcalm S hi hg gk hc he hs ac I h λs' D C H' I' q ⟨m,hm⟩ f=>⟨m,hm,λh' sb=>?_⟩;exact⟨.ref D,H',I'.turned (t':=s'.toks) (it:=C) (λb o hb e=>(sb.2 b hb).trans e) f.1 f.2.1 f.2.2.2.1 f.2.2.2.2.1 f.2.2.2.2.2,rfl,q⟩
theorem DM{i:Nat}{x:Str}{px:Pos}(hcalm:X.calm=true)(hN:X.N.Nodup)(hix:X.N[i]? = aa x)(hx:Loc X.env.scope x)(S:dI X N' ρ sc)(hi:PI X tg iter wi)
 (hg:∀cl C s H fp,PG (eX X N' sc cl C s H fp) tg g) (gk:rF ρ g) (hc:∀cl C s H fp,se (eX X N' sc cl C s H fp) ifs tc) (he:∀cl C s H fp,PE (eX X N' sc cl C s H fp) elt te)
 (hsw:swapsWith (.ListComp elt [⟨tg,iter,ifs,0⟩] sc pos) (aa (.Name x px)) cpos.line X.env=pure true:=by rfl)
 (hs:∀x,foldedSetIterable iter X.env x=pure x:=by intro _;rfl)
 (hf:X.fn x=true\/X.env.scope.names.lookup x=aa .local:=by first|exact .inl rfl|exact .inr rfl|assumption) :
 PS X (.Assign [.Name x px] (.ListComp elt [⟨tg,iter,ifs,0⟩] sc pos) cpos) (jq (ui wi ρ g tc te) (gu i)):=by
 intro ae s σ H D I h;rw[exec_Assign_Name_used _ _ _ _ hsw];refine aB (sZ (aB ?_));show wpAny _ X.A (do let _ <- comprehension (.ListComp elt [⟨tg,iter,ifs,0⟩] sc pos) sc X.env _ (newList []) false (eval iter X.env) (aa (assign (.Name x px) X.env))) _ _ s;refine aB (aX (Du (Q:=λy H1=>D.nx (σ.set i (aa y)) H1) (R:=λ_ s'=>SP X ae D .next s') hcalm S hi hg gk hc he hs (aa (assign (.Name x px) X.env)) I h λs' Da C H' I' q ⟨m,hm⟩ f=>?_) λ_ s' hq=>bn (bn hq));show wpAny _ X.A (assign (.Name x px) X.env (.ref Da)) _ _ _;refine wpAny_assign_Name (Gr I' hN hix hx (v:=.ref Da) rfl (λs2 I2 ⟨a,sb,ha⟩=>⟨m,hm.sameBut sb ?_,λh' sb2=>?_⟩) hf)
 ·rcases ha with e|e
  ·subst e;exact f.2.1
  ·exactλz=>f.2.2.2.2.1 x a e z.symm
 ·exact⟨_,H',I2.turned (t':=s2.toks) (it:=C) (λb o hb e=>(sb2.2 b hb).trans e) f.1 f.2.1 f.2.2.2.1 f.2.2.2.2.1 f.2.2.2.2.2,q⟩
end
structure It.Of(J:It)(Ok:Hp->Prop)(xs:List V):Prop where
 go:∀i H,Ok H->i<xs.length->J.go i H
 yld:∀i H x H',Ok H->i<xs.length->J.yld i H x H'->H'=H/\xs[i]? = aa x
 stop:∀H,Ok H->J.stop xs.length H
theorem Ds{K:aD}{a:af}{xs:List V}:(sk K a).Of (λH=>c9 K H a xs) xs:=⟨λi H h hi=>⟨xs,xs[i],h,by simp[hi]⟩,λi H x H' h _ y=>⟨y.1,y.2 xs h⟩,λH h=>⟨xs,h,bq _⟩⟩
theorem Ca{K:aD}{a:af}{xs:List V}:(sC K a).Of (λH=>eQ K H a xs) xs:=⟨λi H h hi=>⟨xs,xs[i],h,by simp[hi]⟩,λi H x H' h _ y=>⟨y.1,y.2 xs h⟩,λH h=>⟨xs,h,bq _⟩⟩
def nY(lo:Int)(n:Nat):List V:=(bT n).map λi=>V.int (lo+(i:Nat))
theorem wX(lo:Int)(n:Nat):(nY lo n).length=n:=by simp[nY]
theorem OZ{lo:Int}{n i:Nat}(h:i<n):(nY lo n)[i]? = aa (.int (lo+i)):=by simp[nY,h]
theorem Nu{lo:Int}{n:Nat}:(pV lo n).Of (λ_=>True) (nY lo n):=⟨λi H _ hi=>by rw[wX]at hi;exact hi,λi H x H' _ hi y=>⟨y.1,by rw[wX]at hi;rw[y.2];exact OZ hi⟩,λH _=>by rw[wX];exact bq _⟩
def sgn(c:Nat):V:=.str ⟨#[c]⟩
def nu(x:Str):List V:=x.cps.toList.map sgn
theorem DG(x:Str):(nu x).length=x.length:=by simp[nu,oF]
def nP(x:Str):It:=⟨λi _=>i<x.length,λi H y H'=>H'=H/\(nu x)[i]? = aa y,λi _=>i=x.length⟩
theorem Er{x:Str}:(nP x).Of (λ_=>True) (nu x):=⟨λi H _ hi=>by rw[DG]at hi;exact hi,λi H y H' _ _ h=>h,λH _=>DG x⟩
theorem BV{P:bh}{w:a6}{K:aD}{tg:aU}(it:af)(x:Str)(t:Tok)(ty:String)
 (hty:["enumerate","zip","dict_itemiterator","dict_reverseitemiterator","odict_iterator","itertools.zip_longest","itertools.pairwise"].contains ty=false)
 (W:∀A':bx,A'.handled=ac->Walks P w A' it [it] [it] x.cps.size (SignAt x) (λi h=>h.IsStrIter it ty x t i))
 (sf:∀(A:bx) (i:Nat) (s:ao) (Q:ag->ao->Prop) (E:ag->ao->Prop),s.heap.IsStrIter it ty x t i->Q (.ref it) s->wpAny (model P w) A (pyIter (.ref it)) Q E s) :
 Turn P w K tg (nP x) [it] it (λi h=>h.IsStrIter it ty x t i) where
 mem:=by simp
 obj:=λi h st b hb=>by
  have e:b=it:=by simpa using hb
  subst e;obtain⟨o,e,c,d⟩:=st;exact⟨o,e,λv z=>by rw[d]at z;cases z⟩
 keep:=λi h h' st k=>let ⟨o,ho,r⟩:=st;⟨o,k it (by simp) o ho,r⟩
 item:=by intro X hP hw hK hc i ae s σ H E I hf st hg;subst hP hw hK;obtain⟨f0,f1,f2,f3,f4,f5⟩:=hf it (by simp);refine(W X.A (I.ok.hd hc)).item i s _ _ hg st λv h' tk hv st' kk=>?_;obtain⟨c,u,e,rfl⟩:=hv;have I1:Inv X ae σ H { s with heap:=h',toks:=tk }:=I.turned (λb o hb e=>kk b o (by simpa using hb) e) f0 f1 f3 f4 f5;obtain⟨o,e',c',d'⟩:=id st';refine⟨_,rfl,qZ (s:={ s with heap:=h',toks:=tk }) e' c' d' hty ⟨sgn c,H,I1,⟨u,rfl⟩,⟨rfl,?_⟩,st',λb hb=>(hf b hb).1⟩⟩;unfold nu;rw[cZ,wb,e];rfl
 done:=by intro X hP hw hK hc i ae s σ H E I hf st hg;subst hP hw hK;obtain⟨f0,f1,f2,f3,f4,f5⟩:=hf it (by simp);have hg:i=x.length:=hg;subst hg;exact(W X.A (I.ok.hd hc)).done s _ _ st λh' tk kk=>⟨rfl,I.turned (λb o hb e=>kk b o (by simpa using hb) e) f0 f1 f3 f4 f5⟩
 self:=sf
section
variable{X:Cx}{tg:aU}
def F9(tl:TE):TI:=λσ H R=>tl σ H λx H1=>∃z,x=.str z/\R (nP z) H1
theorem KH{l:aU}{tl:TE}(hl:PE X l tl):PI X tg l (F9 tl):=by
 intro ae s σ H R I h;refine aX (hl ae s σ H _ I h) λv s1 ⟨x,H1,I1,r1,q1⟩=>?_;obtain⟨z,e,q⟩:=q1;subst e;obtain⟨t,rfl⟩:=r1;cases ha:z.cps.all (· < 128)
 ·refine wpAny_pyIter_wide ha ?_;refine⟨s1.heap.objs.size,[s1.heap.objs.size],_,nP z,H1,rfl,I1.kept (t':=s1.toks) λb o e=>b8 _ e,BV _ z t "str_iterator" (by decide) (λA' hA=>Walks.strWide hA _ z t) (λ_ _ _ _ _ st hQ=>wpAny_pyIter_striter_wide st hQ),⟨_,de _ rfl,rfl,rfl⟩,λb hb=>?_,q⟩;have e:b=s1.heap.objs.size:=by simpa using hb
  subst e;exact I1.gR (bq _) (I1.hok.fresh (bq _))
 ·refine wpAny_pyIter_ascii ha ?_;refine⟨s1.heap.objs.size,[s1.heap.objs.size],_,nP z,H1,rfl,I1.kept (t':=s1.toks) λb o e=>b8 _ e,BV _ z t "str_ascii_iterator" (by decide) (λA' hA=>Walks.strAscii hA _ z t) (λ_ _ _ _ _ st hQ=>wpAny_pyIter_striter_ascii st hQ),⟨_,de _ rfl,rfl,rfl⟩,λb hb=>?_,q⟩;have e:b=s1.heap.objs.size:=by simpa using hb
  subst e;exact I1.gR (bq _) (I1.hok.fresh (bq _))
theorem FT:∀{bs:List Bool} {us:List ag},Vals (bs.map V.bl) us->us=bs.map i9
 |[],_,.nil=>rfl
 |b::r,_,.cons q t=>by rw[FT t,show _=i9 b from q];rfl
theorem range_any(bs:List Bool):(bT bs.length).any (λi=>bs.getD i false)=bs.any id:=by
 induction bs with
 |nil=>rfl
 |cons b r ih=>
  rw[bQ,GS,iF,vD,iF]
  congr 1
def CP(K:aD)(f:List Bool->Bool):List V->Hp->VK->Prop:=λxs H Q=>∃a bs,xs=[.ref a]/\c9 K H a (bs.map V.bl)/\Q (.bl (f bs)) H
theorem KS{P:bh}{w:a6}{A:bx}(bs:List Bool):TruthOf P w A (λi v=>(bs.map i9).toArray[i]? = aa v) (λi=>bs.getD i false):=by
 intro i v s Q E hv hq;have:v=.bool (bs.getD i false):=by
  rw[List.getElem?_toArray,cZ]at hv;cases hb:bs[i]? with
  |none=>rw[hb]at hv;cases hv
  |some b=>
   rw[hb]at hv;rw[eS,hb];exact(fj hv).symm
 subst this;exact qq hq
theorem MX(hc:X.calm=true):fU X (.builtin "any") (CP X.K (·.any id)):=by
 intro ae s σ H xs us Q I r h;obtain⟨a,bs,rfl,hq,q⟩:=h;obtain⟨u,rfl,ru⟩:=vals1 r;cases ru;obtain⟨aj,rv,p,hz⟩:=I.list hq;have e:=FT rv;subst e;have hlt:a<s.heap.objs.size:=by obtain⟨o,n,e,_⟩:=p;exact bS e
 refine call_any_walk (vL p.isList ⟨_,_,_,_,_,_,λi=>bs.getD i false,rfl,Walks.list (A:=X.A.in1) (I.ok.hd hc) _ a (fi hlt) (bs.map i9).toArray,⟨⟨_,de _ rfl,rfl,rfl⟩,(p.keeps λb o e=>b8 _ e).isList⟩,KS bs,λh' tk kk=>?_⟩);refine⟨.bl (bs.any id),H,I.kept λb o e=>kk b o (by simpa using fi (bS e)) (b8 _ e),?_,q⟩;show i9 _=i9 _;rw[<- range_any];simp
theorem Lb:cV X (compareOp .Gt) (λx y H Q=>∃i j,x=.str i/\y=.str j/\Q (.bl (decide (j.cps.toList<i.cps.toList))) H):=by intro ae s σ H x y v u Q I rx ry h;obtain⟨i,j,rfl,rfl,q⟩:=h;obtain⟨t,rfl⟩:=rx;obtain⟨t',rfl⟩:=ry;exact PySem.P.gt_str (yn I q rfl)
def pZ(x:Str)(lo hi:Option Int):Str:=⟨((x.cps.toList.drop (HT.da x.length 0 lo)).take (HT.da x.length x.length hi-HT.da x.length 0 lo)).toArray⟩
theorem Np(lo hi:Option Int)(n:Nat):HP lo hi 1 n=(bT (HT.da n n hi-HT.da n 0 lo)).map (λk=>HT.da n 0 lo+k):=by
 have h1:∀(v:Option Int) (d:Nat),d<=n->(match v with|none=>(d:Int)|some i=>max 0 (min (if i<0 then i+(n:Int)else i) (n:Int)))=((HT.da n d v:Nat):Int):=by
  intro v d hd;cases v with
  |none=>rfl
  |some i=>
   show max 0 (min (if i<0 then i+(n:Int)else i) (n:Int))=(((if i<0 then(i+(n:Int)).toNat else min i.toNat n):Nat):Int);by_cases hv:i<0
   ·simp only[aN hv];omega
   ·simp only[aP hv];omega
 have fin:∀(p q:Int) (a b:Nat),p=(a:Int)->q=(b:Int)->sliceRange p q 1=(bT (b-a)).map (λk=>a+k):=by
  intro p q a b e1 e2;subst e1 e2;unfold sliceRange;simp only[show((1:Int)>0)=True from by simp,hV];by_cases hlt:(a:Int)<b
  ·have e3:(((b:Int)-a+1-1)/1).toNat=b-a:=by first|omega|(simp;done)|(simp;omega)
   simp only[hlt,hV,e3];refine zw λk _=>?_;omega
  ·have:b-a=0:=by omega
   simp[hlt,this]
 unfold HP;refine fin _ _ _ _ ?_ ?_
 ·have:=h1 lo 0 (eK _);cases lo with
  |none=>exact this
  |some i=>exact this
 ·have:=h1 hi n (bq _);cases hi with
  |none=>exact this
  |some i=>exact this
theorem NS(x:Str)(lo hi:Option Int):Txt.slice x lo hi=pZ x lo hi:=by
 have hle:HT.da x.length x.length hi<=x.length:=HT.BB _ _ (bq _) hi;have ha:HT.da x.length 0 lo<=x.length:=HT.BB _ _ (eK _) lo;unfold Txt.slice pZ;rw[Np];generalize HT.da x.length 0 lo=a at *;generalize HT.da x.length x.length hi=b at *;have hp:((bT (b-a)).map (λk=>a+k)).filterMap (λi=>x.cps[i]?)=(x.cps.toList.drop a).take (b-a):=by have h:=StrLaws.picks x.cps.toList (b-a) a (by simp[oF]at hle ha ⊢;omega);simpa using h
 split
 ·rename_i h;simp only[aQ,zA,ig,Bool.true_and,lG]at h;have e:a=0\/x.length=0:=by omega
  have e2:(x.cps.toList.drop a).take (b-a)=x.cps.toList:=by
   rw[h];rcases e with e|e
   ·subst e;rw[sW];exact sP (by simp[oF])
   ·have:x.cps.toList=[]:=zm (by simpa [oF]using e);rw[this];simp
  rw[e2]
 ·rw[hp]
def Ee:V->Option Int->Option Int->Hp->VK->Prop:=λx lo hi H Q=>∃z,x=.str z/\z.length<=sizeLine/\Q (.str (pZ z lo hi)) H
theorem JD:lX X Ee:=by
 intro ae s σ H x v vl vu lo hi sl Q I rx hs pl pu h;obtain⟨z,rfl,hz,q⟩:=h;obtain⟨t,rfl⟩:=rx;have fin:∀(l u:Option (Int×Tok)),vl=partValue l->vu=partValue u->lo=l.map (·.1)->hi=u.map (·.1) ->
  wpAny (model X.prog X.w) X.A (getItem (.str z t) (.ref sl)) (EP X ae σ Q) X.xe s:=by
  intro l u e1 e2 e3 e4;subst e1 e2 e3 e4;refine wpAny_getItem_str_slice (l:=l) (u:=u) (st:=ac) hs rfl ?_;refine post_val_or_str ⟨dR (Txt.slice_le z _ _) hz,λt' k=>?_⟩;refine⟨.str (pZ z _ _),H,I.tok k,⟨t',?_⟩,q⟩;show lN (Txt.slice z _ _) t'=_;rw[NS]
 refine⟨"str", _,F.slot_str_getitem.lookup,typeIs_str _ _ _,?_⟩;cases pl with
 | none=>cases pu with
  |none=>exact fin ac ac rfl rfl rfl rfl
  |int j tj=>exact fin ac (aa (j,tj)) rfl rfl rfl rfl
 | int i ti=>cases pu with
  |none=>exact fin (aa (i,ti)) ac rfl rfl rfl rfl
  |int j tj=>exact fin (aa (i,ti)) (aa (j,tj)) rfl rfl rfl rfl
def Cb(neg:Bool):R2:=λx y H Q=>∃c z,x=sgn c/\y=.str z/\Q (.bl (if neg then !decide (c∈z.cps.toList)else decide (c∈z.cps.toList))) H
theorem LS:cV X (compareOp .In) (Cb false):=by intro ae s σ H x y v u Q I rx ry h;obtain⟨c,z,rfl,rfl,q⟩:=h;refine Pf ae s σ H _ _ v u Q I rx ry ⟨_,z,rfl,rfl,?_⟩;rw[StrLaws.found_one];exact q
def Gq(K:aD):List V->Hp->VK->Prop:=λxs H Q=>∃x t T b,xs=[x,.ty T]/\gE K H x t/\zK K t (.type T)=aa b/\Q (.bl b) H
theorem lf:fU X (.builtin "isinstance") (Gq X.K):=by intro ae s σ H xs us Q I r h;obtain⟨x,t,T,b,rfl,ty,e,q⟩:=h;obtain⟨u,w',rfl,rx,rt⟩:=vals2 r;cases(show w'=v5 T from rt);exact KL I rx ty e λtk=>⟨.bl b,H,I.tok tk,rfl,q⟩
end
def CY(osc:dB)(N N':List Str)(ρ:List (Option Nat))(sc:dB):Bool:=
 sc.names.all (λy=>!(decide (y.2=.cell)))&&sc.names.all (λy=>!(decide (y.2=.local))||decide (sc.names.lookup y.1=aa .local)) &&
 sc.names.all (λy=>!(decide (y.2=.free))||(decide (osc.names.lookup y.1=aa .cell)||decide (osc.names.lookup y.1=aa .free))) &&
 decide (ρ.length=N'.length)&&(bT ρ.length).all λi=>match ρ[i]? with
  |some (aa j)=>(match N'[i]? with|some x=>decide (N[j]? = aa x)&&decide (sc.names.lookup x=aa .free)|none=>false)
  |_=>true
theorem dI.of{X:Cx}{N':List Str}{ρ:List (Option Nat)}{sc:dB}(hk:sc.kind=.function)(h:CY X.env.scope X.N N' ρ sc=true):dI X N' ρ sc:=by
 unfold CY at h;simp only[oA,sT,Bool.or_eq_true,Ht,jg,xS]at h;obtain⟨⟨⟨⟨h1,h2⟩,h3⟩,h4⟩,h5⟩:=h;refine⟨hk,λy hy=>h1 y hy,λy hy e=>(h2 y hy).resolve_left (λz=>z e),λy hy e=>(h3 y hy).resolve_left (λz=>z e),h4,λi j e=>?_⟩;have hi:i < ρ.length:=(ca.mp e).1;have q:=h5 i (f8.mpr hi);rw[e]at q;cases hN:N'[i]? with
 |none=>rw[hN]at q;cases q
 |some x=>
  rw[hN]at q;simp only[oA,jg]at q;exact⟨x,rfl,q.1,q.2⟩
structure bO(P:bh)(w:a6)(K:aD)(mg:Str->Option ag)(base:aJ)(CX:f7)(k:Nat)(x:Str)(ps:List Str)(sp:Sp):Prop where
 ex:∃(f:af) (fd:bF),mg x=aa (.ref f)/\kR K (.ref f)=true/\Binds K fd ps []/\bE P w K mg base CX k f fd ps sp
theorem pz{X:Cx}{CX:f7}{k:Nat}{x:Str}{ps:List Str}{sp:Sp}{E:XK}{e:aU}{es:List aU}{t:TA}{p pos:Pos}(C:bO X.prog X.w X.K X.mg X.base CX k x ps sp)(hr:b9 k X.A)(hg:Gl X x)(hx:vg CX X E)
 (ha:PA X (e::es) t) (hdb:(x==("__debug__" : Str))=false:=by decide) (he:starEach (e::es) X.env=(false,eval e X.env)::starEach es X.env:=by rfl) (hpl:(backTo pos (starEach es X.env)).any (·.1)=false:=by rfl) :
 PE X (.Call (.Name x p) (e::es) [] pos) (mr sp [] E t):=by
 obtain⟨f,fd,hm,hk,hb,F⟩:=C.ex;exact LL F hr hg hm hk hb .nil hx ha hdb he hpl
theorem iT{X:Cx}{x:Str}{T:String}{pos:Pos}(hg:Gl X x)(hm:X.mg x=ac)(hv:bootBuiltins x=aa (.type T))(hn:x ≠ "__name__" := by decide)(hd:(x==("__debug__" : Str))=false:=by decide):PE X (.Name x pos) (tC (.ty T)):=Ol hg hm hv rfl hn hd
structure cA(K:aD)(mg:Str->Option ag)(x:Str)(st:bt)(ps:List Str):Prop where
 ex:∃(f:af) (fd:bF),mg x=aa (.ref f)/\kR K (.ref f)=true/\Binds K fd ps []/\(∀(s:ao) (us:List ag),us.length=ps.length->lL s fd ⟨us,[]⟩ (ps.zip us))/\ce K x x st f fd
theorem uq{K:aD}{h:aJ}{mg:Str->Option ag}{x:Str}{st:bt}{ps:List Str}{f:af}{oc:ag}{od an:Option af}{osl:Array (Option ag)}{kV doc pm cdv ct:ag}(X:K.In h)(G:h.Ns mainGlobals mg)
 (hb:∀(kV doc pm:ag) (an:Option af) (cdv ct:ag) (us:List ag),us.length=ps.length->bindArgs (j7 x x (lh st) (io st) (bB st) .none kV doc pm an cdv ct) ⟨us,[]⟩=pure (ps.zip us))
 (a:fI K mainGlobals x=aa (aa (.ref f))) (l:K.lookup f=aa ⟨oc,od,.func (j7 x x (lh st) (io st) (bB st) .none kV doc pm an cdv ct),osl⟩)
 (c:qk K cdv x=true) (k:kR K (.ref f)=true):cA K mg x st ps:=by
 have F:=Dn (st:=st) l c k;exact⟨f,_,PySem.W.mg_of X G a,k,F.binds hb,λs us hl=>.of_eq (hb kV doc pm an cdv ct us hl),F⟩
theorem cA.cal{P:bh}{w:a6}{K:aD}{mg:Str->Option ag}{base:aJ}{CX:f7}{k:Nat}{x:Str}{st:bt}{ps:List Str}{sp:Sp}(F:cA K mg x st ps)(h:∀f fd,ce K x x st f fd->bE P w K mg base CX k f fd ps sp) :
 bO P w K mg base CX k x ps sp:=by
 obtain⟨f,fd,h1,h2,h3,_,h4⟩:=F.ex;exact⟨f,fd,h1,h2,h3,h f fd h4⟩
end L2
namespace Mi
open PySem
inductive D where
 |non|bl (b:Bool)|int (i:Int)|str (x:Str)|lst (ds:List D)|tup (ds:List D)
mutual
def D.dep:D->Nat
 |.lst ds=>dr ds+1
 |.tup ds=>dr ds+1
 |_=>0
def dr:List D->Nat
 |[]=>0
 |d::r=>max d.dep (dr r)
end
mutual
/-- Python's == -/
def bD:D->D->Bool
 |.non,.non=>true
 |.bl a,.bl b=>a==b
 |.bl a,.int b=>(if a then 1 else 0)==b
 |.int a,.bl b=>a==(if b then 1 else 0)
 |.int a,.int b=>a==b
 |.str a,.str b=>a==b
 |.lst a,.lst b=>gV a b
 |.tup a,.tup b=>gV a b
 |_,_=>false
def gV:List D->List D->Bool
 |[],[]=>true
 |a::r,b::s=>bD a b&&gV r s
 |_,_=>false
end
mutual
/-- no list in it -/
def nz:D->Bool
 |.lst _=>false
 |.tup ds=>jn ds
 |_=>true
def jn:List D->Bool
 |[]=>true
 |d::r=>nz d&&jn r
end
def ed(n:Nat)(i:Int):Option Nat:=if 0<=i then(if i<n then aa i.toNat else ac)else if -(n:Int)<=i then aa (i+n).toNat else ac
def dg{α:Type}(xs:List α)(i:Int):Option α:=(ed xs.length i).bind λj=>xs[j]?
def da(n d:Nat):Option Int->Nat
 |none=>d
 |some v=>if v<0 then(v+(n:Int)).toNat else min v.toNat n
def jp{α:Type}(xs:List α)(lo hi:Option Int):List α:=(xs.drop (da xs.length 0 lo)).take (da xs.length xs.length hi-da xs.length 0 lo)
abbrev Ky:=Sum Bool Str
structure Kp where
 a:Nat
 c:Nat
 q:Str
 ga:List Nat
 deriving DecidableEq
inductive W where
 |d (x:D)|dk (ai:List (Ky×D))|dt (ai:List (List Ky×D))|df (ai:List (List Ky×D))|ex (c:String)|fn (κ:Kp) (aC:List D)
abbrev Env:=List (Option W)
structure la where
 cls:String
 val:List D
inductive Rs(α:Type) where
 |ok (a:α)|ex (x:la)|no
def Rs.bind{α β:Type}:Rs α->(α->Rs β)->Rs β
 |.ok a,f=>f a
 |.ex x,_=>.ex x
 |.no,_=>.no
@[simp] theorem aR {α β:Type} (a:α) (f:α->Rs β):(Rs.ok a).bind f=f a:=rfl
@[simp] theorem Ql {α β:Type} (x:la) (f:α->Rs β):(Rs.ex x).bind f=.ex x:=rfl
@[simp] theorem Qk {α β:Type} (f:α->Rs β):(Rs.no).bind f=.no:=rfl
def Fin{α:Type}(r:Rs α)(k:α->Prop):Prop:=match r with
 |.ok a=>k a
 |_=>False
theorem aw{α β:Type}{r:Rs α}{f:α->Rs β}{k:β->Prop}:Fin (r.bind f) k↔Fin r λa=>Fin (f a) k:=by cases r<;>exact Iff.rfl
theorem Fin.mono{α:Type}{r:Rs α}{k k':α->Prop}(h:Fin r k)(m:∀a,k a->k' a):Fin r k':=by
 cases r with
 |ok a=>exact m a h
 |ex x=>exact h
 |no=>exact h
theorem nR{α:Type}{r s:Rs α}{k:α->Prop}(h:Fin (if true=true then r else s) k):Fin r k:=by simpa using h
theorem m9{α:Type}{r s:Rs α}{k:α->Prop}(h:Fin (if false=true then r else s) k):Fin s k:=by simpa using h
theorem lA{α:Type}{a:α}{k:α->Prop}(h:Fin (.ok a) k):k a:=h
def cQ{α:Type}:Option α->Rs α
 |some a=>.ok a
 |none=>.no
def bc{α:Type}(c:Prop)[Decidable c](r:Rs α):Rs α:=if c then r else .no
theorem aK{α:Type}{c:Prop}[Decidable c]{r:Rs α}(h:c):bc c r=r:=aN h
theorem cD{α:Type}{c:Prop}[Decidable c]{r:Rs α}{k:α->Prop}(h:Fin (bc c r) k):c/\Fin r k:=by
 unfold bc at h;split at h
 ·exact⟨‹_›,h⟩
 ·exact h.elim
abbrev E:=Env->Rs D
abbrev C:=Env->Rs Bool
def mC(d:D):E:=λ_=>.ok d
def mV(i:Nat):E:=λe=>match e[i]? with
 |some (aa (.d x))=>.ok x
 |_=>.no
def m1(f:D->Rs D)(a:E):E:=λe=>(a e).bind f
def m2(f:D->D->Rs D)(a b:E):E:=λe=>(a e).bind λx=>(b e).bind λy=>f x y
def fY:List E->Env->Rs (List D)
 |[],_=>.ok []
 |a::r,e=>(a e).bind λx=>(fY r e).bind λxs=>.ok (x::xs)
def mN(f:List D->Rs D)(as:List E):E:=λe=>(fY as e).bind f
def dTup(ds:List D):Rs D:=bc (ds.length<=16777216) (.ok (.tup ds))
def cR(ds:List D):Rs D:=bc (ds.length<=16777216) (.ok (.lst ds))
def rZ:D->Rs Bool
 |.bl b=>.ok b
 |_=>.no
def nO(a b:E):E:=λe=>(a e).bind λx=>(rZ x).bind λc=>if c=true then b e else .ok (.bl false)
def ll(c:C)(a b:E):E:=λe=>(c e).bind λk=>if k=true then a e else b e
def u9(f g:D->D->Rs D)(a b c:E):E:=λe=>(a e).bind λx=>(b e).bind λy=>(f x y).bind λz=>(rZ z).bind λk=>if k=true then(c e).bind λw=>g y w else .ok (.bl false)
def nA:D->Rs Int
 |.int i=>.ok i
 |_=>.no
def k5:Option E->Env->Rs (Option Int)
 |none,_=>.ok ac
 |some a,e=>(a e).bind λx=>(nA x).bind λi=>.ok (aa i)
def l0(x:Str)(lo hi:Option Int):Str:=⟨(jp x.cps.toList lo hi).toArray⟩
def ik(x:D)(lo hi:Option Int):Rs D:=match x with
 |.lst ds=>.ok (.lst (jp ds lo hi))
 |.str z=>bc (z.length<=16777216) (.ok (.str (l0 z lo hi)))
 |_=>.no
def gj(f:D->Option Int->Option Int->Rs D)(a:E)(lo hi:Option E):E:=λe=>(a e).bind λx=>(k5 lo e).bind λl=>(k5 hi e).bind λh=>f x l h
def cB(a:E):C:=λe=>(a e).bind rZ
def dX(a b:C):C:=λe=>(a e).bind λc=>if c=true then b e else .ok false
def fq(a b:C):C:=λe=>(a e).bind λc=>if c=true then .ok true else b e
def eP(a:C):C:=λe=>(a e).bind λc=>.ok (!c)
def DY:D->Rs Bool
 |.non=>.ok false
 |.bl b=>.ok b
 |.int i=>.ok (i != 0)
 |.str y=>bc (y.length<=16777216) (.ok ((y.length:Int) != 0))
 |.lst ds=>.ok (!ds.isEmpty)
 |.tup ds=>.ok (!ds.isEmpty)
def dP(a:E):C:=λe=>(a e).bind DY
abbrev I:=Env->Rs (List D)
def uB:D->Rs (List D)
 |.lst ds=>.ok ds
 |.tup ds=>.ok ds
 |.str x=>.ok (x.cps.toList.map λc=>.str ⟨#[c]⟩)
 |_=>.no
def bM(a:E):I:=λe=>(a e).bind uB
def dC(lo hi:Int):List D:=(bT (hi-lo).toNat).map λk=>.int (lo+(k:Nat))
def okR(i:Int):Prop:=-(2 ^ 62)<=i/\i<2 ^ 62
instance (i:Int):Decidable (okR i):=inferInstanceAs (Decidable (_/\_))
def gi(a:E):I:=λe=>(a e).bind λx=>(nA x).bind λj=>bc (okR j) (.ok (dC 0 j))
def i0(k:Nat):List D->List D
 |[]=>[]
 |d::r=>.tup [.int k,d]::i0 (k+1) r
def Dl:D->Rs (List D)
 |.lst ds=>.ok ds
 |_=>.no
def yh(a:E):I:=λe=>(a e).bind λx=>(Dl x).bind λds=>.ok (i0 0 ds)
def iR:List D->List D->List D
 |a::r,b::s=>.tup [a,b]::iR r s
 |_,_=>[]
inductive Tg where
 |n (i:Nat)|t (is:List Nat)
def l9:List Nat->List D->Env->Rs Env
 |[],[],e=>.ok e
 |i::is,d::ds,e=>l9 is ds (e.set i (aa (.d d)))
 |_,_,_=>.no
def Tg.put:Tg->D->Env->Rs Env
 |.n i,d,e=>.ok (e.set i (aa (.d d)))
 |.t is,.tup ds,e=>l9 is ds e
 |_,_,_=>.no
def fZ(ρ:List (Option Nat))(e:Env):Env:=ρ.map λo=>o.bind λj=>(e[j]?).join
def cY(tg:Tg)(c:C)(a:E)(e:Env):List D->Rs (List D)
 |[]=>.ok []
 |x::r=>(tg.put x e).bind λe1=>(c e1).bind λk=>if k=true then(a e1).bind λy=>(cY tg c a e r).bind λys=>.ok (y::ys)else cY tg c a e r
def en:C:=λ_=>.ok true
def cr(ρ:List (Option Nat))(it:I)(tg:Tg)(c:C)(a:E):E:=λe=>(it e).bind λxs=>bc (xs.length<=16777216) ((cY tg c a (fZ ρ e) xs).bind λys=>.ok (.lst ys))
abbrev Fn:=List W->Rs W
abbrev EW:=Env->Rs W
def wD(a:E):EW:=λe=>(a e).bind λx=>.ok (.d x)
def wV(i:Nat):EW:=λe=>match e[i]? with
 |some (aa w)=>.ok w
 |_=>.no
def dE:List EW->Env->Rs (List W)
 |[],_=>.ok []
 |a::r,e=>(a e).bind λx=>(dE r e).bind λxs=>.ok (x::xs)
def gy(f:Fn)(as:List EW):EW:=λe=>(dE as e).bind f
def qe:W->Rs D
 |.d x=>.ok x
 |_=>.no
def ba(f:Fn)(as:List EW):E:=λe=>(gy f as e).bind qe
def Eo:W->Rs D
 |.d x=>bc (nz x=true) (.ok x)
 |_=>.no
def sM(f:Fn)(as:List EW):E:=λe=>(gy f as e).bind Eo
inductive Out where
 |nx (e:Env)|rt (w:W)|bk (e:Env)|ct (e:Env)
abbrev S:=Env->Rs Out
def bZ:S:=λe=>.ok (.nx e)
def aF(s t:S):S:=λe=>(s e).bind λo=>match o with
 |.nx e'=>t e'
 |o=>.ok o
def ma(i:Nat)(a:EW):S:=λe=>(a e).bind λw=>.ok (.nx (e.set i (aa w)))
def bp(i:Nat)(a:E):S:=λe=>(a e).bind λd=>.ok (.nx (e.set i (aa (.d d))))
def B0(tg:Tg)(a:E):S:=λe=>(a e).bind λd=>(tg.put d e).bind λe'=>.ok (.nx e')
def fV(a:E):S:=λe=>(a e).bind λ_=>.ok (.nx e)
def bH(a:EW):S:=λe=>(a e).bind λw=>.ok (.rt w)
def bK(c:C)(s t:S):S:=λe=>(c e).bind λk=>if k=true then s e else t e
def qU:S:=λ_=>.no
def gN(tg:Tg)(body:S):List D->Env->Rs Out
 |[],e=>.ok (.nx e)
 | x::r,e=>(tg.put x e).bind λe1=>(body e1).bind λo=>match o with
  |.nx e2=>gN tg body r e2
  |.ct e2=>gN tg body r e2
  |.bk e2=>.ok (.nx e2)
  |.rt w=>.ok (.rt w)
def dv(it:I)(tg:Tg)(body:S):S:=λe=>(it e).bind λxs=>gN tg body xs e
def jL(c:C)(body:S):Nat->Env->Rs Out
 |0,_=>.no
 | n+1,e=>(c e).bind λk=>if k=true then(body e).bind λo=>match o with
  |.nx e2=>jL c body n e2
  |.ct e2=>jL c body n e2
  |.bk e2=>.ok (.nx e2)
  |.rt w=>.ok (.rt w)
  else .ok (.nx e)
def lw(n:Nat)(c:C)(body:S):S:=jL c body n
def getL(e:Env)(i:Nat):Rs (List D):=match e[i]? with
 |some (aa (.d (.lst ds)))=>.ok ds
 |_=>.no
def putL(e:Env)(i:Nat)(ds:List D):Env:=e.set i (aa (.d (.lst ds)))
def dS(i:Nat)(a:E):S:=λe=>(a e).bind λd=>(getL e i).bind λds=>bc (ds.length<16777216) (.ok (.nx (putL e i (ds++[d]))))
def xX(i:Nat):S:=λe=>(getL e i).bind λds=>.ok (.nx (putL e i ds.reverse))
def GK(i:Nat):S:=λe=>(getL e i).bind λds=>.ok (.nx (putL e i []))
def t0(x y:Nat):S:=λe=>(getL e y).bind λds=>(cQ ds[ds.length-1]?).bind λd=>.ok (.nx ((putL e y ds.dropLast).set x (aa (.d d))))
def jP(ds:List D)(i:Int):Rs (D×List D):=bc (-(2 ^ 63)<=i/\i<2 ^ 63) ((cQ (ed ds.length i)).bind λk=>(cQ ds[k]?).bind λd=>.ok (d,ds.eraseIdx k))
def iu(x y:Nat)(k:E):S:=λe=>(k e).bind λz=>(nA z).bind λi=>(getL e y).bind λds=>(jP ds i).bind λp=>.ok (.nx ((putL e y p.2).set x (aa (.d p.1))))
def ur(x y:Nat)(k:E):S:=λe=>(k e).bind λz=>(nA z).bind λi=>(getL e y).bind λds=>(jP ds i).bind λp=>(getL (putL e y p.2) x).bind λes=>
 bc (es.length<16777216) (.ok (.nx (putL (putL e y p.2) x (es++[p.1]))))
def rO(x:Nat)(k a:E):S:=λe=>(a e).bind λd=>(k e).bind λz=>(nA z).bind λi=>(getL e x).bind λds=>(cQ (ed ds.length i)).bind λj=>.ok (.nx (putL e x (ds.set j d)))
def nq:D->Option Ky
 |.bl i=>aa (.inl i)
 |.str x=>aa (.inr x)
 |_=>ac
def nL:List D->Option (List Ky)
 |[]=>aa []
 | d::r=>match nq d,nL r with
  |some k,aa ks=>aa (k::ks)
  |_,_=>ac
def jw{κ:Type}[DecidableEq κ](ai:List (κ×D))(k:κ):Option D:=(ai.find? λkv=>decide (kv.1=k)).map (·.2)
def sN(w:W)(k:D):Rs (Option D):=match w with
 |.dk ai=>(cQ (nq k)).bind λk=>.ok (jw ai k)
 | .dt ai=>match k with
  |.tup ds=>(cQ (nL ds)).bind λk=>.ok (jw ai k)
  |_=>.no
 | .df ai=>match k with
  |.tup ds=>(cQ (nL ds)).bind λk=>.ok (jw ai k)
  |_=>.no
 |_=>.no
def putK{κ:Type}[DecidableEq κ](k:κ)(v:D)(ai:List (κ×D)):List (κ×D):=if(ai.any λkv=>decide (kv.1=k))=true then ai.map (λkv=>if kv.1=k then(kv.1,v)else kv)else ai++[(k,v)]
def ss(w:W)(k v:D):Rs W:=match w with
 |.dk ai=>bc (ai.length<16777216) ((cQ (nq k)).bind λk=>.ok (.dk (putK k v ai)))
 | .dt ai=>match k with
  |.tup ds=>bc (ai.length<16777216) ((cQ (nL ds)).bind λk=>.ok (.dt (putK k v ai)))
  |_=>.no
 |_=>.no
def nE(i:Nat)(k:E):E:=λe=>(k e).bind λd=>(wV i e).bind λw=>(sN w d).bind λo=>.ok (.bl o.isSome)
def gX(i:Nat)(k:E):E:=λe=>(k e).bind λd=>(wV i e).bind λw=>(sN w d).bind λo=>.ok (.bl (!o.isSome))
def d9(i:Nat)(k v:E):S:=λe=>(v e).bind λx=>(k e).bind λd=>(wV i e).bind λw=>(ss w d x).bind λw'=>.ok (.nx (e.set i (aa w')))
def ku:Out->Rs W
 |.rt w=>.ok w
 |.nx _=>.ok (.d .non)
 |_=>.no
def dG(k n:Nat)(body:S):Fn:=λws=>bc (ws.length=k) ((body (ws.map aa++dq (n-ws.length) ac)).bind ku)
def jU:Out->Rs W
 |.rt w=>.ok w
 |_=>.no
def fL(k n:Nat)(body:S):Fn:=λws=>bc (ws.length=k) ((body (ws.map aa++dq (n-ws.length) ac)).bind jU)
def DE:Fn:=λ_=>.no
def lE(i j:Int):Prop:=(-(2 ^ 64)<i/\i<2 ^ 64)\/(-(2 ^ 64)<j/\j<2 ^ 64)
instance (i j:Int):Decidable (lE i j):=inferInstanceAs (Decidable (_\/_))
def li(j:Int):Prop:=0<j/\j.natAbs.log2<9000
instance (j:Int):Decidable (li j):=inferInstanceAs (Decidable (_/\_))
def BD(i j:Int):Prop:=0<=j/\j<=1000000/\i.natAbs<2 ^ 64
instance (i j:Int):Decidable (BD i j):=inferInstanceAs (Decidable (_/\_))
def a9:D->D->Rs D
 |.int i,.int j=>.ok (.int (i+j))
 |.str i,.str j=>bc (i.length+j.length<=16777216) (.ok (.str (i++j)))
 |.lst i,.lst j=>bc (i.length+j.length<=16777216) (.ok (.lst (i++j)))
 |_,_=>.no
def jS:D->D->Rs D
 |.int i,.int j=>.ok (.int (i-j))
 |_,_=>.no
def bL:D->D->Rs D
 |.int i,.int j=>bc (lE i j) (.ok (.int (i*j)))
 |_,_=>.no
def cx:D->D->Rs D
 |.int i,.int j=>bc (li j) (.ok (.int (i/j)))
 |_,_=>.no
def bi:D->D->Rs D
 |.int i,.int j=>bc (0<j) (.ok (.int (i%j)))
 |_,_=>.no
def xp:D->D->Rs D
 |.int i,.int j=>bc (BD i j) (.ok (.int (i ^ j.toNat)))
 |_,_=>.no
def eG:D->D->Rs D
 |.int i,.int j=>.ok (.bl (decide (i<j)))
 |.str i,.str j=>.ok (.bl (decide (i.cps.toList<j.cps.toList)))
 |_,_=>.no
def nH:D->D->Rs D
 |.int i,.int j=>.ok (.bl (decide (j<i)))
 |.str i,.str j=>.ok (.bl (decide (j.cps.toList<i.cps.toList)))
 |_,_=>.no
def oY:D->D->Rs D
 |.int i,.int j=>.ok (.bl (decide (i<=j)))
 |_,_=>.no
def bY(x y:D):Rs D:=bc (x.dep<=16) (.ok (.bl (bD x y)))
def fO(x y:D):Rs D:=bc (x.dep<=16) (.ok (.bl (!bD x y)))
def fM(x y:D):Rs D:=match y with
 |.lst ds=>bc (dr ds<=16) (.ok (.bl (ds.any λe=>bD e x)))
 |.tup ds=>bc (dr ds<=16) (.ok (.bl (ds.any λe=>bD e x)))
 | .str z=>match x with
  |.str s=>bc (s.length=1) (.ok (.bl (decide (s.cps.getD 0 0∈z.cps.toList))))
  |_=>.no
 |_=>.no
def e5(x y:D):Rs D:=match y with
 |.lst ds=>bc (dr ds<=16) (.ok (.bl (!ds.any λe=>bD e x)))
 |.tup ds=>bc (dr ds<=16) (.ok (.bl (!ds.any λe=>bD e x)))
 |_=>.no
def aO(x y:D):Rs D:=match x,y with
 |.lst ds,.int i=>cQ (dg ds i)
 |.tup ds,.int i=>cQ (dg ds i)
 |.str z,.int i=>bc (z.length<=16777216) ((cQ (dg z.cps.toList i)).bind λc=>.ok (.str ⟨#[c]⟩))
 |_,_=>.no
def cS:List D->Rs D
 |[.lst ds]=>.ok (.int ds.length)
 |[.tup ds]=>.ok (.int ds.length)
 |[.str z]=>bc (z.length<=16777216) (.ok (.int z.length))
 |_=>.no
def iV:List D->Rs D
 |[.int i,.int j]=>.ok (.int (max i j))
 |_=>.no
def mE:List D->Rs D
 |[.int i,.int j]=>.ok (.int (min i j))
 |_=>.no
def jI:List D->Option (List Bool)
 |[]=>aa []
 |.bl b::r=>(jI r).map (b :: ·)
 |_=>ac
def wY:List D->Rs D
 |[.lst ds]=>(cQ (jI ds)).bind λbs=>.ok (.bl (bs.all id))
 |_=>.no
def wz:List D->Rs D
 |[.lst ds]=>(cQ (jI ds)).bind λbs=>.ok (.bl (bs.any id))
 |_=>.no
def kn:List D->Rs D
 |[.lst ds]=>.ok (.lst ds)
 |[.tup ds]=>.ok (.lst ds)
 |_=>.no
def oP:List D->Rs D
 |[.lst ds]=>.ok (.tup ds)
 |[.tup ds]=>.ok (.tup ds)
 |_=>.no
def oQ(t:String):D->Bool
 |.non=>false
 |.bl _=>t == "bool" || t == "int"
 |.int _=>t == "int"
 |.str _=>t == "str"
 |.lst _=>t == "list"
 |.tup _=>t == "tuple"
def yq:D->String
 |.non => "NoneType" | .bl _ => "bool" | .int _ => "int" | .str _ => "str" | .lst _ => "list" | .tup _ => "tuple"
def cP(ts:List String)(x:D):Rs D:=.ok (.bl (ts.any λt=>oQ t x))
def jr:List D->Option (List Str)
 |[]=>aa []
 |.str b::r=>(jr r).map (b :: ·)
 |_=>ac
def t9(x y:D):Rs D:=match x,y with
 |.str sep,.lst ds=>(cQ (jr ds)).bind λys=>bc ((ys.map (·.length)).sum+ys.length*sep.length<=16777216) (.ok (.str (jC sep ys)))
 |_,_=>.no
def met(val:Nat->Str):Nat->List Str
 |0=>[]
 |i+1=>if val i∈met val i then met val i else met val i++[val i]
end Mi
namespace L2
open PySem PySem.Spec PyProof.Rows
open Mi (D dr bD gV)
mutual
theorem xE:∀d:D,bD d d=true
 |.non=>rfl
 |.bl b=>by simp[bD]
 |.int i=>by simp[bD]
 |.str x=>by simp[bD]
 |.lst ds=>by rw[bD];exact xy ds
 |.tup ds=>by rw[bD];exact xy ds
theorem xy:∀ds:List D,gV ds ds=true
 |[]=>rfl
 |d::r=>by rw[gV,xE d,xy r];rfl
end
theorem rf:∀{ds es:List D},ds.length≠es.length->gV ds es=false
 |[],[],h=>absurd rfl h
 |[],_::_,_=>rfl
 |_::_,[],_=>rfl
 |d::r,e::s,h=>by rw[gV,rf (λz=>h (by rw[bQ,bQ,z])),zW]
theorem rT:∀{ds es:List D},ds.length=es.length->gV ds es=(bT ds.length).all λj=>bD (ds.getD j .non) (es.getD j .non)
 |[],[],_=>rfl
 |[],_::_,h=>by simp at h
 |_::_,[],h=>by simp at h
 |d::r,e::s,h=>by
  rw[gV,rT (by simpa using h),bQ,GS,List.all_cons,List.all_map];rfl
mutual
/-- the value v in the heap H is the tree d -/
def Rep(K:aD)(H:Hp):D->V->Prop
 |.non,v=>v=.non
 |.bl b,v=>v=.bl b
 |.int i,v=>v=.int i
 |.str x,v=>v=.str x
 |.lst ds,v=>∃a xs,v=.ref a/\c9 K H a xs/\bj K H ds xs
 |.tup ds,v=>∃a xs,v=.ref a/\eQ K H a xs/\bj K H ds xs
def bj(K:aD)(H:Hp):List D->List V->Prop
 |[],vs=>vs=[]
 |d::ds,vs=>∃v r,vs=v::r/\Rep K H d v/\bj K H ds r
end
theorem bj.length{K:aD}{H:Hp}:∀{ds:List D} {vs:List V},bj K H ds vs->ds.length=vs.length
 |[],vs,h=>by rw[bj]at h;subst h;rfl
 |d::ds,vs,h=>by
  rw[bj]at h;obtain⟨v,r,rfl,_,q⟩:=h;rw[bQ,bQ,bj.length q]
theorem bj.get{K:aD}{H:Hp}:∀{ds:List D} {vs:List V} {j:Nat} {v:V},bj K H ds vs->vs[j]? = aa v->Rep K H (ds.getD j .non) v
 |[],vs,j,v,h,e=>by rw[bj]at h;subst h;simp at e
 |d::ds,vs,0,v,h,e=>by
  rw[bj]at h;obtain⟨v',r,rfl,p,q⟩:=h;simp at e;subst e;exact p
 |d::ds,vs,j+1,v,h,e=>by
  rw[bj]at h;obtain⟨v',r,rfl,p,q⟩:=h;have:=bj.get (j:=j) (v:=v) q (by simpa using e);simpa using this
section
variable{X:Cx}{ae:List (af×Obj)}{σ:St}{H:Hp}{s:ao}
theorem Inv.Cu(I:Inv X ae σ H s){a:af}{xs ys:List V}(h:c9 X.K H a xs)(h':eQ X.K H a ys):False:=by obtain⟨aj,_,p,_⟩:=I.list h;obtain⟨its',_,q,_⟩:=I.tuple h';obtain⟨o,n,e,c,_⟩:=p;obtain⟨o',e',c',_⟩:=q;rw[e]at e';cases e';rw[c]at c';exact absurd (wm c') (by decide)
mutual
theorem Rep.inj(I:Inv X ae σ H s):∀{d e:D} {v:V},Rep X.K H d v->Rep X.K H e v->d=e
 |.non,e,v,h,h'=>by
  rw[Rep]at h;subst h;cases e<;>rw[Rep]at h'<;>first|rfl|(obtain⟨_,_,z,_⟩:=h';cases z)|cases h'
 |.bl b,e,v,h,h'=>by
  rw[Rep]at h;subst h;cases e<;>rw[Rep]at h'<;>first|(obtain⟨_,_,z,_⟩:=h';cases z)|(cases h';rfl)|cases h'
 |.int b,e,v,h,h'=>by
  rw[Rep]at h;subst h;cases e<;>rw[Rep]at h'<;>first|(obtain⟨_,_,z,_⟩:=h';cases z)|(cases h';rfl)|cases h'
 |.str b,e,v,h,h'=>by
  rw[Rep]at h;subst h;cases e<;>rw[Rep]at h'<;>first|(obtain⟨_,_,z,_⟩:=h';cases z)|(cases h';rfl)|cases h'
 |.lst ds,e,v,h,h'=>by
  rw[Rep]at h;obtain⟨a,xs,rfl,q,r⟩:=h;cases e with
  |lst es=>
   rw[Rep]at h';obtain⟨a',xs',z,q',r'⟩:=h';cases z;rw[I.u5 q' q]at r';rw[bj.inj I r r']
  |tup es=>
   rw[Rep]at h';obtain⟨a',xs',z,q',r'⟩:=h';cases z;exact(I.Cu q q').elim
  |_=>rw[Rep]at h';cases h'
 |.tup ds,e,v,h,h'=>by
  rw[Rep]at h;obtain⟨a,xs,rfl,q,r⟩:=h;cases e with
  |tup es=>
   rw[Rep]at h';obtain⟨a',xs',z,q',r'⟩:=h';cases z;rw[I.xk q' q]at r';rw[bj.inj I r r']
  |lst es=>
   rw[Rep]at h';obtain⟨a',xs',z,q',r'⟩:=h';cases z;exact(I.Cu q' q).elim
  |_=>rw[Rep]at h';cases h'
theorem bj.inj(I:Inv X ae σ H s):∀{ds es:List D} {vs:List V},bj X.K H ds vs->bj X.K H es vs->ds=es
 |[],es,vs,h,h'=>by
  rw[bj]at h;subst h;cases es with
  |nil=>rfl
  |cons e es=>rw[bj]at h';obtain⟨_,_,z,_⟩:=h';cases z
 |d::ds,es,vs,h,h'=>by
  rw[bj]at h;obtain⟨v,r,rfl,p,q⟩:=h;cases es with
  |nil=>rw[bj]at h';cases h'
  |cons e es=>
   rw[bj]at h';obtain⟨v',r',z,p',q'⟩:=h';cases z;rw[Rep.inj I p p',bj.inj I q q']
end
theorem xM:∀{ds:List D} {j:Nat},(ds.getD j .non).dep<=dr ds
 |[],j=>by simp[D.dep]
 |d::ds,0=>by simp[dr];omega
 |d::ds,j+1=>by
  have:=xM (ds:=ds) (j:=j);have e:(d::ds).getD (j+1) .non=ds.getD j .non:=by simp
  rw[e,dr];omega
def _root_.Mi.D.flat:D->Bool
 |.lst _=>false
 |.tup _=>false
 |_=>true
def _root_.Mi.D.toV:D->V
 |.non=>.non|.bl b=>.bl b|.int i=>.int i|.str x=>.str x|.lst _=>.non|.tup _=>.non
theorem Rep.flat{K:aD}:∀{d:D} {v:V},d.flat=true->Rep K H d v->v=d.toV/\yl v=true
 |.non,v,_,h=>by rw[Rep]at h;subst h;exact⟨rfl,rfl⟩
 |.bl b,v,_,h=>by rw[Rep]at h;subst h;exact⟨rfl,rfl⟩
 |.int b,v,_,h=>by rw[Rep]at h;subst h;exact⟨rfl,rfl⟩
 |.str b,v,_,h=>by rw[Rep]at h;subst h;exact⟨rfl,rfl⟩
 |.lst _,v,z,h=>by cases z
 |.tup _,v,z,h=>by cases z
theorem J0:∀{d e:D},d.flat=true->e.flat=true->bD d e=DQ d.toV e.toV:=by intro d e h1 h2;cases d<;>cases e<;>first|rfl|exact absurd (show false=true from h1) c7|exact absurd (show false=true from h2) c7
open SeqAt in
theorem CK(I:Inv X ae σ H s):∀(n:Nat) (d e:D) (A:bx) {x y:V} {u u':ag},d.dep<=n->A.units+n<cLine->Rep X.K H d x->Rep X.K H e y->RelV x u->RelV y u'->EqAt A s u u' (bD d e):=by
 intro n
 induction n using Nat.strongRecOn with
 |ind n ih=>
  intro d e A x y u u' hd hu h h' r r';have hu0:A.units<cLine:=by omega
  by_cases hdf:d.flat=true
  ·obtain⟨ex,fx⟩:=h.flat hdf;subst ex;by_cases hef:e.flat=true
   ·obtain⟨ey,fy⟩:=h'.flat hef;subst ey;rw[J0 hdf hef];exact Le r r' fx fy
   ·cases e with
    |lst es=>
     rw[Rep]at h';obtain⟨a,xs,rfl,q,_⟩:=h';cases r';obtain⟨aj,_,p,_⟩:=I.list q;cases d with
     |non=>cases r;exact EqAt.none_list p.isList hu0
     |bl b=>cases r;exact EqAt.bool_list b p.isList hu0
     |int b=>obtain⟨t,rfl⟩:=r;exact EqAt.int_list b t p.isList hu0
     |str b=>obtain⟨t,rfl⟩:=r;exact EqAt.str_list b t p.isList hu0
     |_=>cases hdf
    |tup es=>
     rw[Rep]at h';obtain⟨a,xs,rfl,q,_⟩:=h';cases r';obtain⟨aj,_,p,_⟩:=I.tuple q;cases d with
     |non=>cases r;exact EqAt.none_tuple p hu0
     |bl b=>cases r;exact EqAt.bool_tuple b p hu0
     |int b=>obtain⟨t,rfl⟩:=r;exact EqAt.int_tuple b t p hu0
     |str b=>obtain⟨t,rfl⟩:=r;exact EqAt.str_tuple b t p hu0
     |_=>cases hdf
    |_=>exact absurd rfl hef
  ·by_cases hef:e.flat=true
   ·obtain⟨ey,fy⟩:=h'.flat hef;subst ey;cases d with
    |lst ds=>
     rw[Rep]at h;obtain⟨a,xs,rfl,q,_⟩:=h;cases r;obtain⟨aj,_,p,_⟩:=I.list q;cases e with
     |non=>cases r';exact EqAt.list_none p.isList hu0
     |bl b=>cases r';exact EqAt.list_bool b p.isList hu0
     |int b=>obtain⟨t,rfl⟩:=r';exact EqAt.list_int b t p.isList hu0
     |str b=>obtain⟨t,rfl⟩:=r';exact EqAt.list_str b t p.isList hu0
     |_=>cases hef
    |tup ds=>
     rw[Rep]at h;obtain⟨a,xs,rfl,q,_⟩:=h;cases r;obtain⟨aj,_,p,_⟩:=I.tuple q;cases e with
     |non=>cases r';exact EqAt.tuple_none p hu0
     |bl b=>cases r';exact EqAt.tuple_bool b p hu0
     |int b=>obtain⟨t,rfl⟩:=r';exact EqAt.tuple_int b t p hu0
     |str b=>obtain⟨t,rfl⟩:=r';exact EqAt.tuple_str b t p hu0
     |_=>cases hef
    |_=>exact absurd rfl hdf
   ·-- both are lists or tuples
    have item:∀{ds es:List D} {xs ys:List V} {aj its':List ag},dr ds+1<=n->bj X.K H ds xs->bj X.K H es ys->Vals xs aj->Vals ys its' ->
     ∀j (h1:j<aj.toArray.size) (h2:j<its'.toArray.size),EqAt A.in1 s aj.toArray[j] its'.toArray[j] (bD (ds.getD j .non) (es.getD j .non)):=by
     intro ds es xs ys aj its' hn q q' v v' j h1 h2;have h1':j<aj.length:=by simpa using h1
     have h2':j<its'.length:=by simpa using h2
     have e1:j<xs.length:=by rw[v.length];exact h1'
     have e2:j<ys.length:=by rw[v'.length];exact h2'
     have g1:xs[j]? = aa xs[j]:=by simp[e1]
     have g2:ys[j]? = aa ys[j]:=by simp[e2]
     obtain⟨w1,k1,r1⟩:=v.get g1;obtain⟨w2,k2,r2⟩:=v'.get g2;have t1:aj.toArray[j]=w1:=by obtain⟨_,k1⟩:=ca.mp k1;simpa using k1
     have t2:its'.toArray[j]=w2:=by obtain⟨_,k2⟩:=ca.mp k2;simpa using k2
     rw[t1,t2];have:=xM (ds:=ds) (j:=j);refine ih (n-1) (by omega) _ _ A.in1 (by omega) ?_ (q.get g1) (q'.get g2) r1 r2;show A.units+1+(n-1)<cLine;omega
    cases d with
    |lst ds=>
     rw[Rep]at h;obtain⟨a,xs,rfl,q,rr⟩:=h;cases r;obtain⟨aj,v,p,_⟩:=I.list q;have hn:dr ds+1<=n:=by simpa [D.dep]using hd
     cases e with
     |lst es=>
      rw[Rep]at h';obtain⟨b,ys,rfl,q',rr'⟩:=h';cases r';obtain⟨its',v',p',_⟩:=I.list q';by_cases hab:a=b
      ·subst hab;rw[I.u5 q' q]at rr';rw[bj.inj I rr rr',xE];exact EqAt.same _
      ·have l1:=rr.length;have l2:=rr'.length;have l3:=v.length;have l4:=v'.length;by_cases hl:ds.length=es.length
       ·rw[bD,rT hl];have:=RcAt.lists p.isList p'.isList (by simp;omega) hu0 (item hn rr rr' v v');have e:aj.toArray.size=ds.length:=by simp;omega
        rw[e]at this;exact .of_refs hab this
       ·rw[bD,rf hl];exact .of_refs hab (RcAt.lists_lengths p.isList p'.isList (by simp;omega) hu0)
     |tup es=>
      rw[Rep]at h';obtain⟨b,ys,rfl,q',_⟩:=h';cases r';obtain⟨its',_,p',_⟩:=I.tuple q';exact EqAt.list_tuple p.isList p' hu0
     |_=>exact absurd rfl hef
    |tup ds=>
     rw[Rep]at h;obtain⟨a,xs,rfl,q,rr⟩:=h;cases r;obtain⟨aj,v,p,_⟩:=I.tuple q;have hn:dr ds+1<=n:=by simpa [D.dep]using hd
     cases e with
     |tup es=>
      rw[Rep]at h';obtain⟨b,ys,rfl,q',rr'⟩:=h';cases r';obtain⟨its',v',p',_⟩:=I.tuple q';by_cases hab:a=b
      ·subst hab;rw[I.xk q' q]at rr';rw[bj.inj I rr rr',xE];exact EqAt.same _
      ·have l1:=rr.length;have l2:=rr'.length;have l3:=v.length;have l4:=v'.length;have R:=RcAt.tuples p p' hu0 (item hn rr rr' v v');have e1:aj.toArray.size=ds.length:=by simp;omega
       have e2:its'.toArray.size=es.length:=by simp;omega
       rw[e1,e2]at R;by_cases hl:ds.length=es.length
       ·rw[bD,rT hl];rw[hl,Nat.min_self,ig,Bool.and_true,<- hl]at R;exact .of_refs hab R
       ·rw[bD,rf hl];have:(ds.length==es.length)=false:=by simpa using hl
        rw[this,zW]at R;exact .of_refs hab R
     |lst es=>
      rw[Rep]at h';obtain⟨b,ys,rfl,q',_⟩:=h';cases r';obtain⟨its',_,p',_⟩:=I.list q';exact EqAt.tuple_list p p'.isList hu0
     |_=>exact absurd rfl hef
    |_=>exact absurd rfl hdf
def uN(K:aD)(neg:Bool):R2:=λx y H Q=>∃(p:af) (xs:List V) (d:D) (ds:List D),y=.ref p/\(c9 K H p xs\/eQ K H p xs)/\Rep K H d x/\bj K H ds xs/\dr ds<=16 /\
 Q (.bl (if neg then !ds.any (λe=>bD e d)else ds.any (λe=>bD e d))) H
theorem bj.main{K:aD}:∀{ds:List D} {xs:List V} {us:List ag},bj K H ds xs->Vals xs us->∀u∈us,∃b∈ds,∃y,Rep K H b y/\RelV y u
 |[],xs,us,hr,hv,u,hu=>by
  rw[bj]at hr;subst hr;cases hv;cases hu
 |b::bs,xs,us,hr,hv,u,hu=>by
  rw[bj]at hr;obtain⟨y,r,rfl,p,q⟩:=hr;cases hv with
  |cons ry t=>
   rcases br.mp hu with rfl|hu
   ·exact⟨b,bP,_,p,ry⟩
   ·obtain⟨b',hb',w⟩:=bj.main q t u hu;exact⟨b',cy _ hb',w⟩
theorem bj.any{K:aD}{e:ag->Bool}{f:D->Bool}(key:∀b y u,Rep K H b y->RelV y u->e u=f b):∀{ds:List D} {xs:List V} {us:List ag},bj K H ds xs->Vals xs us->us.any e=ds.any f
 |[],xs,us,hr,hv=>by
  rw[bj]at hr;subst hr;cases hv;rfl
 |b::bs,xs,us,hr,hv=>by
  rw[bj]at hr;obtain⟨y,r,rfl,p,q⟩:=hr;cases hv with
  |cons ry t=>rw[iF,iF,key b y _ p ry,bj.any key q t]
theorem Fl:∀{ds:List D} {b:D},b∈ds->b.dep<=dr ds
 |d::ds,b,h=>by
  rw[dr];rcases br.mp h with rfl|h
  ·omega
  ·have:=Fl h;omega
open Classical in
theorem tU(I:Inv X ae σ H s){A:bx}(hu:A.units+16<cLine){d:D}{x:V}{v:ag}(hx:Rep X.K H d x)(rx:RelV x v){ds:List D}{xs:List V}{us:List ag}(hd:dr ds<=16)(hr:bj X.K H ds xs)(hv:Vals xs us) :
 ∃e:ag->Bool,(∀u∈us,SeqAt.EqAt A s u v (e u))/\us.any e=ds.any (λb=>bD b d):=by
 have key:∀b y u,Rep X.K H b y->RelV y u->(λu=>decide (∃b y,Rep X.K H b y/\RelV y u/\bD b d=true)) u=bD b d:=by
  intro b y u hb hy;cases hp:bD b d with
  |true=>exact cv ⟨b,y,hb,hy,hp⟩
  |false=>
   refine dj ?_;rintro⟨b',y',hb',hy',hp'⟩;have:=hy.inj hy';subst this;rw[Rep.inj I hb hb',hp']at hp;cases hp
 refine⟨λu=>decide (∃b y,Rep X.K H b y/\RelV y u/\bD b d=true),λu hu'=>?_,bj.any key hr hv⟩;obtain⟨b,hb,y,rb,ry⟩:=bj.main hr hv u hu';rw[key b y u rb ry];exact CK I 16 b d A (dR (Fl hb) hd) hu rb hx ry rx
theorem IV(hu:X.A.units+64<cLine):cV X (compareOp .In) (uN X.K false):=by
 intro ae s σ H x y v u Q I rx ry h;obtain⟨p,xs,d,ds,rfl,hq,hx,hr,hd,q⟩:=h;cases ry;have hu1:X.A.in1.units+16<cLine:=by show X.A.units+1+16<cLine;omega
 rcases hq with hq|hq
 ·obtain⟨aj,r,pl,hz⟩:=I.list hq;obtain⟨e,he,ea⟩:=tU I hu1 hx rx hd hr r;refine SeqAt.in_listAt e pl.isList (λw hw=>he w (by simpa using hw)) ⟨.bl _,H,I,rfl,?_⟩;rw[show aj.toArray.any e=aj.any e by simp,ea];exact q
 ·obtain⟨aj,r,pl,hz⟩:=I.tuple hq;obtain⟨e,he,ea⟩:=tU I hu1 hx rx hd hr r;refine SeqAt.in_tupleAt e pl (λw hw=>he w (by simpa using hw)) ⟨.bl _,H,I,rfl,?_⟩;rw[show aj.toArray.any e=aj.any e by simp,ea];exact q
theorem oI(hu:X.A.units+64<cLine):cV X (compareOp .NotIn) (uN X.K true):=by
 intro ae s σ H x y v u Q I rx ry h;obtain⟨p,xs,d,ds,rfl,hq,hx,hr,hd,q⟩:=h;cases ry;have hu1:X.A.in1.units+16<cLine:=by show X.A.units+1+16<cLine;omega
 rcases hq with hq|hq
 ·obtain⟨aj,r,pl,hz⟩:=I.list hq;obtain⟨e,he,ea⟩:=tU I hu1 hx rx hd hr r;refine SeqAt.notIn_listAt e pl.isList (λw hw=>he w (by simpa using hw)) ⟨.bl _,H,I,rfl,?_⟩;rw[show aj.toArray.any e=aj.any e by simp,ea];exact q
 ·obtain⟨aj,r,pl,hz⟩:=I.tuple hq;obtain⟨e,he,ea⟩:=tU I hu1 hx rx hd hr r;refine SeqAt.notIn_tupleAt e pl (λw hw=>he w (by simpa using hw)) ⟨.bl _,H,I,rfl,?_⟩;rw[show aj.toArray.any e=aj.any e by simp,ea];exact q
end
end L2
namespace L2
open PySem PySem.Spec PyProof.Rows
theorem rN{H:Hp}{p:af}{o:HO}(hp:H p=ac):cg H (upd H p o):=λb u e=>by rw[aG (cE e hp)];exact e
theorem Dr:∀{ys:List Str} {us:List ag},Vals (ys.map V.str) us->StrsAre us ys
 |[],_,.nil=>.nil
 |y::ys,_,.cons r t=>by
  obtain⟨tk,rfl⟩:=(show∃tk,_=lN y tk from r);exact .cons y tk (Dr t)
section
variable{X:Cx}
def rJoin(K:aD):V->List V->Hp->VK->Prop:=λx vs H Q=>∃(sep:Str) (p:af) (ys:List Str),x=.str sep/\vs=[.ref p]/\c9 K H p (ys.map V.str)/\(ys.map (·.length)).sum+ys.length*sep.length<=16777216/\Q (.str (jC sep ys)) H
theorem Dm:lp X "str.join" (rJoin X.K):=by intro ae s σ H x vs v us Q I rx rv h;obtain⟨sep,p,ys,rfl,rfl,hq,hz,q⟩:=h;obtain⟨t,rfl⟩:=rx;obtain⟨u,rfl,ru⟩:=rv.one;cases ru;obtain⟨aj,r,pl,_⟩:=I.list hq;refine join_list pl.isList (by simpa using Dr r) hz λt' k=>⟨.str (jC sep ys),H,I.tok k,⟨t',?_⟩,q⟩;show lN (Builtin.Str.glued sep ys) t'=_;rw[StrLaws.glued_eq_join]
def EH(i j:Int):Prop:=0<j/\j.natAbs.log2<9000
theorem iP:cV X (binaryOp .FloorDiv) (rI EH λi j=>.int (i/j)):=ul λi j _ _ _ _ _ hc q=>by
 refine floordiv_int (by have:=hc.1;omega) ?_ (.inl (PyProof.noPylong_of_log2 hc.2));rw[Int.fdiv_eq_ediv_of_nonneg i (by have:=hc.1;omega)];exact q
theorem N6(hc:X.calm=true):fU X (.builtin "max") (λxs H Q=>∃i j z,xs=[.int i,.int j]/\max i j=z/\Q (.int z) H):=by intro ae s σ H xs us Q I r ⟨i,j,z,e1,e2,q⟩;subst e2;refine Mp hc ae s σ H xs us Q I r ⟨i,j,e1,?_⟩;rw[show(if j>i then j else i)=max i j by split<;>omega];exact q
theorem Nk(hc:X.calm=true):fU X (.builtin "min") (λxs H Q=>∃i j z,xs=[.int i,.int j]/\min i j=z/\Q (.int z) H):=by intro ae s σ H xs us Q I r ⟨i,j,z,e1,e2,q⟩;subst e2;refine K6 hc ae s σ H xs us Q I r ⟨i,j,e1,?_⟩;rw[show(if j<i then j else i)=min i j by split<;>omega];exact q
end
end L2
namespace A
open PySem L2 PyProof.Rows
open Mi (D W Rs Fin aw)
inductive P2{α β:Type}(F:α->β->Prop):List α->List β->Prop
 |nil:P2 F [] []
 |cons {a b l m}:F a b->P2 F l m->P2 F (a::l) (b::m)
section
variable{α β:Type}{F G:α->β->Prop}
theorem P2.imp(h:∀a b,F a b->G a b):∀{l m},P2 F l m->P2 G l m
 |_,_,.nil=>.nil
 |_,_,.cons x t=>.cons (h _ _ x) (t.imp h)
theorem P2.len:∀{l m},P2 F l m->l.length=m.length
 |_,_,.nil=>rfl
 |_,_,.cons _ t=>by rw[bQ,bQ,t.len]
theorem P2.append:∀{l m l' m'},P2 F l m->P2 F l' m'->P2 F (l++l') (m++m')
 |_,_,_,_,.nil,s=>s
 |_,_,_,_,.cons x t,s=>.cons x (t.append s)
theorem P2.get:∀{l m} {i:Nat} {a b},P2 F l m->l[i]? = aa a->m[i]? = aa b->F a b
 |_,_,_,_,_,.nil,e,_=>by simp at e
 |_,_,0,_,_,.cons x _,e,e'=>by simp at e e';subst e e';exact x
 |_,_,i+1,a,b,.cons _ t,e,e'=>t.get (i:=i) (by simpa using e) (by simpa using e')
theorem P2.getL{l m}{i:Nat}{a}(t:P2 F l m)(e:l[i]? = aa a):∃b,m[i]? = aa b/\F a b:=by
 have h:i<m.length:=by rw[<- t.len];exact(ca.mp e).1
 exact⟨m[i],by simp[h],t.get e (by simp[h])⟩
theorem P2.xc{l m}{i:Nat}{b}(t:P2 F l m)(e:m[i]? = aa b):∃a,l[i]? = aa a/\F a b:=by
 have h:i<l.length:=by rw[t.len];exact(ca.mp e).1
 exact⟨l[i],by simp[h],t.get (by simp[h]) e⟩
theorem P2.set{a b}(x:F a b):∀{l m} (i:Nat),P2 F l m->P2 F (l.set i a) (m.set i b)
 |_,_,_,.nil=>.nil
 |_,_,0,.cons _ t=>.cons x t
 |_,_,i+1,.cons y t=>.cons y (t.set x i)
theorem P2.take:∀{l m} (n:Nat),P2 F l m->P2 F (l.take n) (m.take n)
 |_,_,0,_=>.nil
 |_,_,_+1,.nil=>.nil
 |_,_,n+1,.cons x t=>.cons x (t.take n)
theorem P2.drop:∀{l m} (n:Nat),P2 F l m->P2 F (l.drop n) (m.drop n)
 |_,_,0,t=>t
 |_,_,_+1,.nil=>.nil
 |_,_,n+1,.cons _ t=>t.drop n
theorem P2.erase:∀{l m} (n:Nat),P2 F l m->P2 F (l.eraseIdx n) (m.eraseIdx n)
 |_,_,_,.nil=>.nil
 |_,_,0,.cons _ t=>t
 |_,_,n+1,.cons x t=>.cons x (t.erase n)
theorem P2.rev:∀{l m},P2 F l m->P2 F l.reverse m.reverse
 |_,_,.nil=>.nil
 |_,_,.cons x t=>by rw[sS,sS];exact t.rev.append (.cons x .nil)
theorem P2.dropLast:∀{l m},P2 F l m->P2 F l.dropLast m.dropLast
 |_,_,.nil=>.nil
 |_,_,.cons x .nil=>.nil
 |_,_,.cons x (.cons y t)=>.cons x (P2.dropLast (.cons y t))
end
def Lst(H:Hp)(a:af)(xs:List V):Prop:=H a=aa (.lst xs)\/∃o,H a=aa (.frz o (.lst xs))
mutual
def Rep(H:Hp):D->V->Prop
 |.non,v=>v=.non
 |.bl b,v=>v=.bl b
 |.int i,v=>v=.int i
 |.str x,v=>v=.str x
 |.lst ds,v=>∃a xs,v=.ref a/\Lst H a xs/\bj H ds xs
 |.tup ds,v=>∃a xs,v=.ref a/\H a=aa (.tup xs)/\bj H ds xs
def bj(H:Hp):List D->List V->Prop
 |[],vs=>vs=[]
 |d::ds,vs=>∃v r,vs=v::r/\Rep H d v/\bj H ds r
end
theorem oa{H:Hp}:∀{ds:List D} {vs:List V},bj H ds vs↔P2 (Rep H) ds vs
 |[],vs=>by
  rw[bj];exact⟨λh=>by subst h;exact .nil,λh=>by cases h;rfl⟩
 |d::ds,vs=>by
  rw[bj];constructor
  ·rintro⟨v,r,rfl,p,q⟩;exact .cons p (oa.mp q)
  ·intro h;cases h with
   |cons p q=>exact⟨_,_,rfl,p,oa.mpr q⟩
@[simp] theorem Ck {H:Hp} {v:V}:Rep H .non v↔v=.non:=by rw[Rep]
@[simp] theorem nN {H:Hp} {v:V} {b:Bool}:Rep H (.bl b) v↔v=.bl b:=by rw[Rep]
@[simp] theorem pK {H:Hp} {v:V} {b:Int}:Rep H (.int b) v↔v=.int b:=by rw[Rep]
@[simp] theorem nI {H:Hp} {v:V} {b:Str}:Rep H (.str b) v↔v=.str b:=by rw[Rep]
theorem k3{H:Hp}{v:V}{ds:List D}:Rep H (.lst ds) v↔∃a xs,v=.ref a/\Lst H a xs/\P2 (Rep H) ds xs:=by rw[Rep];exact⟨λ⟨a,xs,e,l,r⟩=>⟨a,xs,e,l,oa.mp r⟩,λ⟨a,xs,e,l,r⟩=>⟨a,xs,e,l,oa.mpr r⟩⟩
theorem iq{H:Hp}{v:V}{ds:List D}:Rep H (.tup ds) v↔∃a xs,v=.ref a/\H a=aa (.tup xs)/\P2 (Rep H) ds xs:=by rw[Rep];exact⟨λ⟨a,xs,e,l,r⟩=>⟨a,xs,e,l,oa.mp r⟩,λ⟨a,xs,e,l,r⟩=>⟨a,xs,e,l,oa.mpr r⟩⟩
theorem Lst.same{H H':Hp}{a:af}{xs:List V}(s:cg H H')(h:Lst H a xs):Lst H' a xs:=by
 rcases h with h|⟨o,h⟩
 ·exact .inl (s _ _ h)
 ·exact .inr ⟨o,s _ _ h⟩
theorem Lst.sq{K:aD}{H:Hp}{a:af}{xs:List V}(h:Lst H a xs):c9 K H a xs:=.inl h
mutual
theorem iZ{H H':Hp}(s:cg H H'):∀{d:D} {v:V},Rep H d v->Rep H' d v
 |.non,v,h=>by rw[Rep]at h ⊢;exact h
 |.bl b,v,h=>by rw[Rep]at h ⊢;exact h
 |.int i,v,h=>by rw[Rep]at h ⊢;exact h
 |.str x,v,h=>by rw[Rep]at h ⊢;exact h
 |.lst ds,v,h=>by
  rw[Rep]at h ⊢;obtain⟨a,xs,e,q,r⟩:=h;exact⟨a,xs,e,q.same s,wK s r⟩
 |.tup ds,v,h=>by
  rw[Rep]at h ⊢;obtain⟨a,xs,e,q,r⟩:=h;exact⟨a,xs,e,s _ _ q,wK s r⟩
theorem wK{H H':Hp}(s:cg H H'):∀{ds:List D} {vs:List V},bj H ds vs->bj H' ds vs
 |[],vs,h=>by rw[bj]at h ⊢;exact h
 |d::ds,vs,h=>by
  rw[bj]at h ⊢;obtain⟨v,r,e,p,q⟩:=h;exact⟨v,r,e,iZ s p,wK s q⟩
end
theorem eA{H H':Hp}(s:cg H H'){ds:List D}{vs:List V}(h:P2 (Rep H) ds vs):P2 (Rep H') ds vs:=h.imp λ_ _=>iZ s
mutual
theorem lg(K:aD){H:Hp}:∀{d:D} {v:V},Rep H d v->L2.Rep K H d v
 |.non,v,h=>by rw[Rep]at h;rw[L2.Rep];exact h
 |.bl b,v,h=>by rw[Rep]at h;rw[L2.Rep];exact h
 |.int i,v,h=>by rw[Rep]at h;rw[L2.Rep];exact h
 |.str x,v,h=>by rw[Rep]at h;rw[L2.Rep];exact h
 |.lst ds,v,h=>by
  rw[Rep]at h;rw[L2.Rep];obtain⟨a,xs,e,q,r⟩:=h;exact⟨a,xs,e,q.sq,vn K r⟩
 |.tup ds,v,h=>by
  rw[Rep]at h;rw[L2.Rep];obtain⟨a,xs,e,q,r⟩:=h;exact⟨a,xs,e,.inl (.inl q),vn K r⟩
theorem vn(K:aD){H:Hp}:∀{ds:List D} {vs:List V},bj H ds vs->L2.bj K H ds vs
 |[],vs,h=>by rw[bj]at h;rw[L2.bj];exact h
 |d::ds,vs,h=>by
  rw[bj]at h;rw[L2.bj];obtain⟨v,r,e,p,q⟩:=h;exact⟨v,r,e,lg K p,vn K q⟩
end
def NT:HO->Prop
 |.tbl _ _=>False
 |_=>True
def NW:HO->Prop
 |.tbl _ _=>False
 |.frz _ (.lst _)=>False
 |_=>True
theorem NW.nt:∀{o:HO},NW o->NT o:=λ{o} c=>by cases o<;>first|exact c.elim|trivial
structure Old(H H':Hp):Prop where
 nt:∀a o,H a=aa o->NT o->H' a=aa o
 dom:∀a,H' a=ac->H a=ac
 tb:∀a w ps,H a=aa (.tbl w ps)->∃ps',H' a=aa (.tbl w ps')
theorem Old.at{H H':Hp}(s:Old H H'){a:af}{o:HO}(q:H a=aa o)(n:NT o:=by trivial):H' a=aa o:=s.nt a o q n
theorem Old.free{H H':Hp}(s:Old H H'){a:af}(h:H' a=ac):H a=ac:=s.dom a h
theorem Old.refl(H:Hp):Old H H:=⟨λ_ _ e _=>e,λ_ e=>e,λ_ _ ps e=>⟨ps,e⟩⟩
theorem Old.trans{H H1 H2:Hp}(a:Old H H1)(b:Old H1 H2):Old H H2:=⟨λx o e n=>b.nt x o (a.nt x o e n) n,λx e=>a.dom x (b.dom x e),λx w ps e=>let ⟨p1,e1⟩:=a.tb x w ps e;b.tb x w p1 e1⟩
theorem Old.of{H H':Hp}(s:cg H H'):Old H H':=⟨λa o e _=>s a o e,λa e=>s.free e,λa w ps e=>⟨ps,s a _ e⟩⟩
theorem Old.tab{H H':Hp}(s:Old H H'){a:af}{w:Str}{ps:Array ag}{o:HO}(q:H a=aa (.tbl w ps))(n:NT o):¬ H' a=aa o:=λe=>by
 obtain⟨p,z⟩:=s.tb a w ps q;rw[e]at z;cases z;exact n
theorem Old.put{H0 H:Hp}(s:Old H0 H){p:af}{o u:HO}(h0:H0 p=ac)(h:H p=aa u):Old H0 (upd H p o):=
 ⟨λa v e n=>by rw[aG (cE e h0)];exact s.nt a v e n,λa e=>by
  by_cases hp:a=p
  ·subst hp;exact h0
  ·rw[aG hp]at e;exact s.dom a e,λa w ps e=>by rw[aG (cE e h0)];exact s.tb a w ps e⟩
def eZ(c:af)(q:Str):aJ->Prop:=λh=>∃o vs t,h.get? c=aa o/\o.data=.fields vs/\vs[1]? = aa (.str q t)
class bG where
 l:List (af×Str)
 cl:String->af
variable[Tb:bG]
structure gp(H:Hp):Prop where
 has:∀p∈Tb.l,∃ps,H p.1=aa (.tbl p.2 ps)
 cd:∀T q ps,H T=aa (.tbl q ps)->qt ps.toList/\∀pos v,codeAmong pos ps.toList=aa v->∃c,v=.ref c/\H c=aa (.ext (eZ c q))
 fz:∀a o xs,H a=aa (.frz o (.lst xs))->∀x∈xs,∃i,x=V.int i
theorem gp.new{H:Hp}(k:gp H){p:af}{o:HO}(h:H p=ac)(n:NW o):gp (upd H p o):=⟨λr hr=>let ⟨ps,e⟩:=k.has r hr;⟨ps,by rw[aG (cE e h)];exact e⟩,λT q ps e=>by
 by_cases hp:T=p
 ·subst hp;rw[bu]at e;cases e;exact n.elim
 ·rw[aG hp]at e;obtain⟨t,r⟩:=k.cd T q ps e;refine⟨t,λpos v z=>?_⟩;obtain⟨c,e1,e2⟩:=r pos v z;exact⟨c,e1,by rw[aG (cE e2 h)];exact e2⟩,λa q xs e=>by
 by_cases hp:a=p
 ·subst hp;rw[bu]at e;cases e;exact n.elim
 ·rw[aG hp]at e;exact k.fz a q xs e⟩
def Cell:HO->Prop
 |.lst _=>True
 |.dK _=>True
 |.dT _=>True
 |.ext _=>True
 |_=>False
theorem Cell.nw:∀{o:HO},Cell o->NW o:=λ{o} c=>by cases o<;>first|exact c.elim|trivial
theorem Cell.nt:∀{o:HO},Cell o->NT o:=λ{o} c=>by cases o<;>first|exact c.elim|trivial
def rV:HO->Prop
 |.lst _=>True
 |.dK _=>True
 |.dT _=>True
 |_=>False
theorem rV.cell:∀{o:HO},rV o->Cell o:=λ{o} c=>by cases o<;>first|exact c.elim|trivial
theorem gp.put{H:Hp}(k:gp H){p:af}{o u:HO}(h:H p=aa u)(c:rV u)(n:NW o):gp (upd H p o):=⟨λr hr=>let ⟨ps,e⟩:=k.has r hr;⟨ps,by rw[aG (λy=>by rw[y,h]at e;cases e;exact c.elim)];exact e⟩,λT q ps e=>by
 by_cases hp:T=p
 ·subst hp;rw[bu]at e;cases e;exact n.elim
 ·rw[aG hp]at e;obtain⟨t,r⟩:=k.cd T q ps e;refine⟨t,λpos v z=>?_⟩;obtain⟨x,e1,e2⟩:=r pos v z;refine⟨x,e1,?_⟩;rw[aG (λy=>by subst y;rw[h]at e2;cases e2;exact c.elim)];exact e2,λa q xs e=>by
 by_cases hp:a=p
 ·subst hp;rw[bu]at e;cases e;exact n.elim
 ·rw[aG hp]at e;exact k.fz a q xs e⟩
structure Vw(H Hv:Hp):Prop where
 sub:cg Hv H
 tup:∀a xs,H a=aa (.tup xs)->Hv a=aa (.tup xs)
 frz:∀a o u,H a=aa (.frz o u)->Hv a=aa (.frz o u)
 cd:gp H
 nv:∀a o,Hv a=aa o->NT o
structure bw(H Hv H' Hv':Hp):Prop where
 old:Old H H'
 vis:cg Hv Hv'
 vw:Vw H' Hv'
 hid:∀a o,H a=aa o->Hv a=ac->Hv' a=ac
theorem bw.refl{H Hv:Hp}(v:Vw H Hv):bw H Hv H Hv:=⟨Old.refl _,cg.refl _,v,λ_ _ _ e=>e⟩
theorem Old.some{H H':Hp}(s:Old H H'){a:af}{o:HO}(q:H a=aa o):∃o',H' a=aa o':=by
 cases h:H' a with
 |none=>rw[s.dom a h]at q;cases q
 |some o'=>exact⟨o',rfl⟩
theorem bw.trans{H Hv H1 Hv1 H2 Hv2:Hp}(g:bw H Hv H1 Hv1)(k:bw H1 Hv1 H2 Hv2):bw H Hv H2 Hv2:=⟨g.old.trans k.old,g.vis.trans k.vis,k.vw,λa o e n=>let ⟨o',e'⟩:=g.old.some e;k.hid a o' e' (g.hid a o e n)⟩
theorem om{H Hv:Hp}(v:Vw H Hv){p:af}(h:H p=ac):Hv p=ac:=v.sub.free h
theorem bw.new{H Hv:Hp}(v:Vw H Hv){p:af}{o:HO}(h:H p=ac)(nt:NW o:=by trivial):bw H Hv (upd H p o) (upd Hv p o):=by
 refine⟨.of (rN h),rN (om v h),⟨λb u e=>?_,λb xs e=>?_,λb q u e=>?_,v.cd.new h nt,λb u e=>?_⟩,λb u e n=>?_⟩
 ·by_cases hb:b=p
  ·subst hb;rw[bu]at e ⊢;exact e
  ·rw[aG hb]at e ⊢;exact v.sub b u e
 ·by_cases hb:b=p
  ·subst hb;rw[bu]at e ⊢;exact e
  ·rw[aG hb]at e ⊢;exact v.tup b xs e
 ·by_cases hb:b=p
  ·subst hb;rw[bu]at e ⊢;exact e
  ·rw[aG hb]at e ⊢;exact v.frz b q u e
 ·by_cases hb:b=p
  ·subst hb;rw[bu]at e;cases e;exact nt.nt
  ·rw[aG hb]at e;exact v.nv b u e
 ·rw[aG (cE e h)];exact n
theorem bw.qf{H Hv:Hp}(v:Vw H Hv){p:af}{o:HO}(c:Cell o)(h:H p=ac):bw H Hv (upd H p o) Hv:=by
 refine⟨.of (rN h),cg.refl _,⟨λb u e=>?_,λb xs e=>?_,λb q u e=>?_,v.cd.new h c.nw,v.nv⟩,λb u e n=>n⟩
 ·rw[aG (cE (v.sub b u e) h)];exact v.sub b u e
 ·by_cases hb:b=p
  ·subst hb;rw[bu]at e;cases e;exact c.elim
  ·rw[aG hb]at e;exact v.tup b xs e
 ·by_cases hb:b=p
  ·subst hb;rw[bu]at e;cases e;exact c.elim
  ·rw[aG hb]at e;exact v.frz b q u e
theorem Vw.show{H Hv:Hp}(v:Vw H Hv){a:af}{o:HO}(h:H a=aa o)(n:Hv a=ac)(nt:NT o):Vw H (upd Hv a o)/\cg Hv (upd Hv a o):=by
 refine⟨⟨λb u e=>?_,λb xs e=>?_,λb q u e=>?_,v.cd,λb u e=>?_⟩,rN n⟩
 ·by_cases hb:b=a
  ·subst hb;rw[bu]at e;rw[h];exact e
  ·rw[aG hb]at e;exact v.sub b u e
 ·by_cases hb:b=a
  ·subst hb;rw[bu];rw[h]at e;exact e
  ·rw[aG hb];exact v.tup b xs e
 ·by_cases hb:b=a
  ·subst hb;rw[bu];rw[h]at e;exact e
  ·rw[aG hb];exact v.frz b q u e
 ·by_cases hb:b=a
  ·subst hb;rw[bu]at e;cases e;exact nt
  ·rw[aG hb]at e;exact v.nv b u e
theorem Lst.old{H H':Hp}{a:af}{xs:List V}(s:Old H H')(h:Lst H a xs):Lst H' a xs:=by
 rcases h with h|⟨o,h⟩
 ·exact .inl (s.at h)
 ·exact .inr ⟨o,s.at h⟩
mutual
theorem zd{H H':Hp}(t:∀a xs,H a=aa (.tup xs)->H' a=aa (.tup xs)):∀{d:D} {v:V},Mi.nz d=true->Rep H d v->Rep H' d v
 |.non,v,_,h=>by rw[Rep]at h ⊢;exact h
 |.bl b,v,_,h=>by rw[Rep]at h ⊢;exact h
 |.int i,v,_,h=>by rw[Rep]at h ⊢;exact h
 |.str x,v,_,h=>by rw[Rep]at h ⊢;exact h
 |.lst ds,v,z,h=>by rw[Mi.nz]at z;cases z
 |.tup ds,v,z,h=>by
  rw[Mi.nz]at z;rw[Rep]at h ⊢;obtain⟨a,xs,e,q,r⟩:=h;exact⟨a,xs,e,t _ _ q,Dq t z r⟩
theorem Dq{H H':Hp}(t:∀a xs,H a=aa (.tup xs)->H' a=aa (.tup xs)):∀{ds:List D} {vs:List V},Mi.jn ds=true->bj H ds vs->bj H' ds vs
 |[],vs,_,h=>by rw[bj]at h ⊢;exact h
 |d::ds,vs,z,h=>by
  rw[Mi.jn,oA]at z;rw[bj]at h ⊢;obtain⟨v,r,e,p,q⟩:=h;exact⟨v,r,e,zd t z.1 p,Dq t z.2 q⟩
end
def dU{κ:Type}(H:Hp)(ai:List (κ×D))(kv:List (κ×V)):Prop:=P2 (λp q=>p.1=q.1/\Rep H p.2 q.2) ai kv
theorem dU.same{κ:Type}{H H':Hp}(s:cg H H'){ai:List (κ×D)}{kv:List (κ×V)}(h:dU H ai kv):dU H' ai kv:=P2.imp (λ_ _ z=>⟨z.1,iZ s z.2⟩) h
def dJ(Hv:Hp):W->HO->Prop
 |.d (.lst ds),.lst xs=>P2 (Rep Hv) ds xs
 |.dk ai,.dK kv=>dU Hv ai kv
 |.dt ai,.dT kv=>dU Hv ai kv
 |_,_=>False
theorem dJ.same{H H':Hp}(s:cg H H'):∀{w:W} {o:HO},dJ H w o->dJ H' w o:=λ{w o} h=>by
 cases w with
 |d x=>
  cases x with
  | lst ds=>cases o with
   |lst xs=>exact eA s h
   |_=>exact h.elim
  |_=>cases o<;>exact h.elim
 | dk ai=>cases o with
  |dK kv=>exact dU.same s h
  |_=>exact h.elim
 | dt ai=>cases o with
  |dT kv=>exact dU.same s h
  |_=>exact h.elim
 |df ai=>exact h.elim
 |ex c=>exact h.elim
 |fn c=>exact h.elim
theorem dJ.C3{H:Hp}{w:W}{o:HO}(h:dJ H w o):rV o:=by
 cases w with
 |d x=>
  cases x with
  | lst ds=>cases o with
   |lst xs=>trivial
   |_=>exact h.elim
  |_=>cases o<;>exact h.elim
 | dk ai=>cases o with
  |dK kv=>trivial
  |_=>exact h.elim
 | dt ai=>cases o with
  |dT kv=>trivial
  |_=>exact h.elim
 |df ai=>exact h.elim
 |ex c=>exact h.elim
 |fn c=>exact h.elim
theorem dJ.cell{H:Hp}{w:W}{o:HO}(h:dJ H w o):Cell o:=h.C3.cell
theorem dJ.nw{H:Hp}{w:W}{o:HO}(h:dJ H w o):NW o:=h.cell.nw
theorem dJ.nt{H:Hp}{w:W}{o:HO}(h:dJ H w o):NT o:=h.cell.nt
def F1(a C:af):aJ->Prop:=λh=>∃o,h.get? a=aa o/\o.cls=.ref C/\o.dict=ac/\∃vs,o.data=.fields vs
def fX(H:Hp):W->V->Prop
 |.d x,v=>Rep H x v
 |.dk ai,v=>∃a kv,v=.ref a/\H a=aa (.dK kv)/\dU H ai kv
 |.dt ai,v=>∃a kv,v=.ref a/\H a=aa (.dT kv)/\dU H ai kv
 |.df ai,v=>∃a ob kv,v=.ref a/\H a=aa (.frz ob (.dT kv))/\dU H ai kv
 |.ex c,v=>∃a,v=.ref a/\H a=aa (.ext (F1 a (Tb.cl c)))
 |.fn κ aC,v=>v=.ref κ.a/\H κ.c=aa (.ext (eZ κ.c κ.q))/\P2 (λd a=>Rep H d (.ref a)) aC κ.ga
theorem oU{H H':Hp}(s:cg H H'):∀{w:W} {v:V},fX H w v->fX H' w v
 |.d x,v,h=>iZ (d:=x) s h
 |.dk ai,v,⟨a,kv,e,q,r⟩=>⟨a,kv,e,s _ _ q,r.same s⟩
 |.dt ai,v,⟨a,kv,e,q,r⟩=>⟨a,kv,e,s _ _ q,r.same s⟩
 |.df ai,v,⟨a,ob,kv,e,q,r⟩=>⟨a,ob,kv,e,s _ _ q,r.same s⟩
 |.ex c,v,⟨a,e,q⟩=>⟨a,e,s _ _ q⟩
 |.fn κ aC,v,⟨e,q,r⟩=>⟨e,s _ _ q,r.imp λ_ _ z=>iZ s z⟩
theorem vo{H:Hp}{w:W}{a:af}{o:HO}(h:H a=aa o)(c:dJ H w o):fX H w (.ref a):=by
 cases w with
 |d x=>
  cases x with
  | lst ds=>cases o with
   |lst xs=>exact k3.mpr ⟨a,xs,rfl,.inl h,c⟩
   |_=>exact c.elim
  |_=>cases o<;>exact c.elim
 | dk ai=>cases o with
  |dK kv=>exact⟨a,kv,rfl,h,c⟩
  |_=>exact c.elim
 | dt ai=>cases o with
  |dT kv=>exact⟨a,kv,rfl,h,c⟩
  |_=>exact c.elim
 |df ai=>exact c.elim
 |ex z=>exact c.elim
 |fn z=>exact c.elim
def Own(H Hv:Hp)(w:W)(v:V):Prop:=∃a o,v=.ref a/\H a=aa o/\Hv a=ac/\dJ Hv w o
def RB(H Hv:Hp)(w:W)(v:V):Prop:=fX Hv w v\/∃a o,v=.ref a/\H a=aa o/\dJ Hv w o
theorem RB.grow{H Hv H' Hv':Hp}(g:bw H Hv H' Hv'){w:W}{v:V}(h:RB H Hv w v):RB H' Hv' w v:=by
 rcases h with h|⟨a,o,e,q,c⟩
 ·exact .inl (oU g.vis h)
 ·exact .inr ⟨a,o,e,g.old.at q c.nt,c.same g.vis⟩
theorem Own.grow{H Hv H' Hv':Hp}(g:bw H Hv H' Hv'){w:W}{v:V}(h:Own H Hv w v):Own H' Hv' w v:=by obtain⟨a,o,e,q,n,c⟩:=h;exact⟨a,o,e,g.old.at q c.nt,g.hid _ _ q n,c.same g.vis⟩
theorem RB.full{H Hv:Hp}(v:Vw H Hv){w:W}{x:V}(h:RB H Hv w x):fX H w x:=by
 rcases h with h|⟨a,o,rfl,q,c⟩
 ·exact oU v.sub h
 ·exact vo q (c.same v.sub)
abbrev RD(H Hv:Hp)(d:D)(v:V):Prop:=RB H Hv (.d d) v
theorem RD.sF{H Hv:Hp}{d:D}{v:V}(h:RD H Hv d v)(n:∀ds,d≠.lst ds):Rep Hv d v:=by
 rcases h with h|⟨a,o,e,q,c⟩
 ·exact h
 ·cases d with
  |lst ds=>exact absurd rfl (n ds)
  |_=>cases o<;>exact c.elim
theorem RD.lst{H Hv:Hp}(w:Vw H Hv){ds:List D}{v:V}(h:RD H Hv (.lst ds) v):∃a xs,v=.ref a/\Lst H a xs/\P2 (Rep Hv) ds xs:=by
 rcases h with h|⟨a,o,e,q,c⟩
 ·obtain⟨a,xs,e,l,r⟩:=k3.mp h;exact⟨a,xs,e,l.same w.sub,r⟩
 ·cases o with
  |lst xs=>exact⟨a,xs,e,.inl q,c⟩
  |_=>exact c.elim
theorem RD.tup{H Hv:Hp}(w:Vw H Hv){ds:List D}{v:V}(h:RD H Hv (.tup ds) v):∃a xs,v=.ref a/\H a=aa (.tup xs)/\Hv a=aa (.tup xs)/\P2 (Rep Hv) ds xs:=by obtain⟨a,xs,e,l,r⟩:=iq.mp (h.sF λ_ z=>by cases z);exact⟨a,xs,e,w.sub _ _ l,l,r⟩
theorem RD.int{H Hv:Hp}{i:Int}{v:V}(h:RD H Hv (.int i) v):v=.int i:=pK.mp (h.sF λ_ z=>by cases z)
theorem RD.str{H Hv:Hp}{i:Str}{v:V}(h:RD H Hv (.str i) v):v=.str i:=nI.mp (h.sF λ_ z=>by cases z)
theorem RD.bl{H Hv:Hp}{i:Bool}{v:V}(h:RD H Hv (.bl i) v):v=.bl i:=nN.mp (h.sF λ_ z=>by cases z)
theorem RD.non{H Hv:Hp}{v:V}(h:RD H Hv .non v):v=.non:=Ck.mp (h.sF λ_ z=>by cases z)
theorem RD.full{H Hv:Hp}(v:Vw H Hv){d:D}{x:V}(h:RD H Hv d x):Rep H d x:=RB.full v h
abbrev Kd:=Hp->Hp->Hp->W->V->Prop
def qP:Kd:=λ_ H' Hv' w v=>RB H' Hv' w v
def qV:Kd:=λ_ _ Hv' w v=>fX Hv' w v
def qN:Kd:=λH H' Hv' w v=>∃a o,v=.ref a/\H a=ac/\H' a=aa o/\Hv' a=ac/\dJ Hv' w o
theorem iB{H H' Hv':Hp}{i:Int}:qV H H' Hv' (.d (.int i)) (.int i):=(pK (H:=Hv')).mpr rfl
theorem qL{H H' Hv':Hp}{i:Str}:qV H H' Hv' (.d (.str i)) (.str i):=(nI (H:=Hv')).mpr rfl
theorem fA{H H' Hv':Hp}{i:Bool}:qV H H' Hv' (.d (.bl i)) (.bl i):=(nN (H:=Hv')).mpr rfl
theorem Bp{H H' Hv':Hp}:qV H H' Hv' (.d .non) .non:=(Ck (H:=Hv')).mpr rfl
class KM (κ:Kd):Prop where
 mono:∀{H H1 H' Hv' w v},Old H H1->κ H1 H' Hv' w v->κ H H' Hv' w v
instance:KM qP:=⟨λ_ h=>h⟩
instance:KM qV:=⟨λ_ h=>h⟩
instance:KM qN:=⟨λs ⟨a,o,e,n,r⟩=>⟨a,o,e,s.free n,r⟩⟩
structure R0(M:Nat->Bool)(e:Mi.Env)(σ:L2.St)(H Hv:Hp):Prop where
 vw:Vw H Hv
 len:σ.length=e.length
 nob:∀i w,e[i]? = aa (aa w)->M i=false->∃v,σ[i]? = aa (aa v)/\fX Hv w v
 own:∀i w,e[i]? = aa (aa w)->M i=true->∃v,σ[i]? = aa (aa v)/\Own H Hv w v
theorem R0.grow{M:Nat->Bool}{e:Mi.Env}{σ:L2.St}{H Hv H' Hv':Hp}(r:R0 M e σ H Hv)(g:bw H Hv H' Hv'):R0 M e σ H' Hv':=⟨g.vw,r.len,λi w h m=>let ⟨v,q,z⟩:=r.nob i w h m;⟨v,q,oU g.vis z⟩,λi w h m=>let ⟨v,q,z⟩:=r.own i w h m;⟨v,q,z.grow g⟩⟩
structure R1(M:Nat->Bool)(H0 Hv0:Hp)(e:Mi.Env)(σ:L2.St)(H Hv:Hp):Prop extends R0 M e σ H Hv where
 gw:bw H0 Hv0 H Hv
 fresh:∀i w a,e[i]? = aa (aa w)->M i=true->σ[i]? = aa (aa (.ref a))->H0 a=ac
 sep:∀i j w w' a b,i≠j->e[i]? = aa (aa w)->e[j]? = aa (aa w')->M i=true->M j=true->σ[i]? = aa (aa (.ref a))->σ[j]? = aa (aa (.ref b))->a≠b
theorem R1.grow{M:Nat->Bool}{H0 Hv0:Hp}{e:Mi.Env}{σ:L2.St}{H Hv H' Hv':Hp}(r:R1 M H0 Hv0 e σ H Hv)(g:bw H Hv H' Hv'):R1 M H0 Hv0 e σ H' Hv':=⟨r.toR0.grow g,r.gw.trans g,r.fresh,r.sep⟩
end A
namespace A
open PySem L2 PyProof.Rows
open Mi (D W Rs Fin aw)
variable[Tb:bG]
abbrev pW:=Mi.Env
class KG (κ:Kd):Prop where
 go:∀{H H1 Hv1 H2 Hv2 w v},bw H1 Hv1 H2 Hv2->κ H H1 Hv1 w v->κ H H2 Hv2 w v
instance:KG qP:=⟨λg h=>h.grow g⟩
instance:KG qV:=⟨λg h=>oU g.vis h⟩
instance:KG qN:=⟨λg ⟨a,o,e,n,q,z,c⟩=>⟨a,o,e,n,g.old.at q c.nt,g.hid _ _ q z,c.same g.vis⟩⟩
def AW(M:Nat->Bool)(κ:Kd)(t:TE)(m:Mi.EW):Prop:=∀e σ H Hv Q,R0 M e σ H Hv->Fin (m e) (λw=>∀v H' Hv',bw H Hv H' Hv'->κ H H' Hv' w v->Q v H')->t σ H Q
def AE(M:Nat->Bool)(κ:Kd)(t:TE)(m:Mi.E):Prop:=∀e σ H Hv Q,R0 M e σ H Hv->Fin (m e) (λd=>∀v H' Hv',bw H Hv H' Hv'->κ H H' Hv' (.d d) v->Q v H')->t σ H Q
def AT(M:Nat->Bool)(t:TT)(m:Mi.C):Prop:=∀e σ H Hv Q,R0 M e σ H Hv->Fin (m e) (λb=>∀H' Hv',bw H Hv H' Hv'->Q b H')->t σ H Q
def AA(M:Nat->Bool)(κ:Kd)(t:TA)(m:pW->Rs (List D)):Prop:=∀e σ H Hv Q,R0 M e σ H Hv->Fin (m e) (λds=>∀vs H' Hv',bw H Hv H' Hv'->P2 (λd v=>κ H H' Hv' (.d d) v) ds vs->Q vs H')->t σ H Q
def AAW(M:Nat->Bool)(κ:Kd)(t:TA)(m:pW->Rs (List W)):Prop:=∀e σ H Hv Q,R0 M e σ H Hv->Fin (m e) (λws=>∀vs H' Hv',bw H Hv H' Hv'->P2 (λw v=>κ H H' Hv' w v) ws vs->Q vs H')->t σ H Q
def AO(M:Nat->Bool)(t:TO)(m:pW->Rs (Option Int)):Prop:=∀e σ H Hv Q,R0 M e σ H Hv->Fin (m e) (λo=>∀H' Hv',bw H Hv H' Hv'->Q o H')->t σ H Q
section
variable{M:Nat->Bool}{κ:Kd}{t ta tb tc te:TE}{a b c:Mi.E}{r r':R2}{f g:D->D->Rs D}
theorem AE.w(h:AE M κ t a):AW M κ t (Mi.wD a):=λe σ H Hv Q I q=>h e σ H Hv Q I ((aw.mp q).mono λd z=>z)
theorem Fz{H H' Hv':Hp}{w:W}{v:V}(h:qV H H' Hv' w v):qP H H' Hv' w v:=.inl h
theorem La{H H' Hv':Hp}{w:W}{v:V}(h:qN H H' Hv' w v):qP H H' Hv' w v:=by obtain⟨a,o,e,_,q,_,c⟩:=h;exact .inr ⟨a,o,e,q,c⟩
theorem A6{H Hv H' Hv':Hp}(g:bw H Hv H' Hv'){w:W}{v:V}(h:qN H H' Hv' w v):∃kg,bw H Hv H' kg/\fX kg w v:=by obtain⟨a,o,rfl,n,q,z,c⟩:=h;obtain⟨vw,s⟩:=g.vw.show q z c.nt;refine⟨upd Hv' a o,⟨g.old,g.vis.trans s,vw,λb u e m=>?_⟩,vo bu (c.same s)⟩;rw[aG (cE e n)];exact g.hid b u e m
theorem AW.p(h:AW M qV t m):AW M qP t m:=λe σ H Hv Q I q=>h e σ H Hv Q I (q.mono λw z v H' Hv' g k=>z v H' Hv' g (Fz k))
theorem AW.nv(h:AW M qN t m):AW M qV t m:=λe σ H Hv Q I q=>h e σ H Hv Q I (q.mono λw z v H' Hv' g k=>let ⟨kg,g',r⟩:=A6 g k;z v H' kg g' r)
theorem AE.p(h:AE M qV t a):AE M qP t a:=λe σ H Hv Q I q=>h e σ H Hv Q I (q.mono λw z v H' Hv' g k=>z v H' Hv' g (Fz k))
theorem AE.np(h:AE M qN t a):AE M qP t a:=λe σ H Hv Q I q=>h e σ H Hv Q I (q.mono λw z v H' Hv' g k=>z v H' Hv' g (La k))
theorem AE.nv(h:AE M qN t a):AE M qV t a:=λe σ H Hv Q I q=>h e σ H Hv Q I (q.mono λw z v H' Hv' g k=>let ⟨kg,g',r⟩:=A6 g k;z v H' kg g' r)
theorem aI{i:Int}:AE M qV (tC (.int i)) (Mi.mC (.int i)):=λe σ H Hv Q I h=>h _ H Hv (.refl I.vw) iB
theorem yy{i:Str}:AE M qV (tC (.str i)) (Mi.mC (.str i)):=λe σ H Hv Q I h=>h _ H Hv (.refl I.vw) qL
theorem eI{i:Bool}:AE M qV (tC (.bl i)) (Mi.mC (.bl i)):=λe σ H Hv Q I h=>h _ H Hv (.refl I.vw) fA
theorem Ku:AE M qV (tC .non) (Mi.mC .non):=λe σ H Hv Q I h=>h _ H Hv (.refl I.vw) Bp
theorem Fk{e:pW}{i:Nat}{k:D->Prop}(h:Fin (Mi.mV i e) k):∃d,e[i]? = aa (aa (.d d))/\k d:=by
 unfold Mi.mV at h;split at h
 ·exact⟨_,‹_›,h⟩
 ·exact h.elim
theorem rJ{e:pW}{i:Nat}{k:W->Prop}(h:Fin (Mi.wV i e) k):∃w,e[i]? = aa (aa w)/\k w:=by
 unfold Mi.wV at h;split at h
 ·exact⟨_,‹_›,h⟩
 ·exact h.elim
theorem E3(i:Nat)(hm:M i=false):AE M qV (eR i) (Mi.mV i):=λe σ H Hv Q I h=>by
 obtain⟨d,he,k⟩:=Fk h;obtain⟨v,q,z⟩:=I.nob i _ he hm;exact⟨v,q,k v H Hv (.refl I.vw) z⟩
theorem NM{H Hv:Hp}{w:W}{v:V}(h:Own H Hv w v):RB H Hv w v:=by obtain⟨a,o,e,q,_,c⟩:=h;exact .inr ⟨a,o,e,q,c⟩
theorem R0.any{e:pW}{σ:L2.St}{H Hv:Hp}(I:R0 M e σ H Hv){i:Nat}{w:W}(he:e[i]? = aa (aa w)):∃v,σ[i]? = aa (aa v)/\RB H Hv w v:=by
 cases hm:M i with
 |false=>
  obtain⟨v,q,z⟩:=I.nob i w he hm;exact⟨v,q,.inl z⟩
 |true=>
  obtain⟨v,q,z⟩:=I.own i w he hm;exact⟨v,q,NM z⟩
theorem ap(i:Nat):AE M qP (eR i) (Mi.mV i):=λe σ H Hv Q I h=>by
 obtain⟨d,he,k⟩:=Fk h;obtain⟨v,q,z⟩:=I.any he;exact⟨v,q,k v H Hv (.refl I.vw) z⟩
def B2(κ:Kd)(r:R2)(f:D->D->Rs D):Prop:=∀x y v u H Hv Q,Vw H Hv->RD H Hv x v->RD H Hv y u->Fin (f x y) (λd=>∀w H' Hv',bw H Hv H' Hv'->κ H H' Hv' (.d d) w->Q w H')->r v u H Q
def BN(κ:Kd)(r:List V->Hp->VK->Prop)(f:List D->Rs D):Prop:=∀ds vs H Hv Q,Vw H Hv->P2 (RD H Hv) ds vs->Fin (f ds) (λd=>∀w H' Hv',bw H Hv H' Hv'->κ H H' Hv' (.d d) w->Q w H')->r vs H Q
theorem av[KM κ](hr:B2 κ r f)(ha:AE M qP ta a)(hb:AE M qP tb b):AE M κ (oN r ta tb) (Mi.m2 f a b):=λe σ H Hv Q I h=>
 ha e σ H Hv _ I ((aw.mp h).mono λx hx v H1 Hv1 g1 rx=>hb e σ H1 Hv1 _ (I.grow g1) ((aw.mp hx).mono λy hy u H2 Hv2 g2 ry=>
  hr x y v u H2 Hv2 Q g2.vw (RB.grow g2 rx) ry (hy.mono λd hd w H3 Hv3 g3 rw=>hd w H3 Hv3 (g1.trans (g2.trans g3)) (KM.mono (g1.old.trans g2.old) rw))))
theorem BY{x:D}{k:Bool->Prop}(h:Fin (Mi.rZ x) k):∃b,x=.bl b/\k b:=by
 cases x with
 |bl b=>exact⟨b,rfl,h⟩
 |_=>exact h.elim
theorem sh{x:D}{k:Int->Prop}(h:Fin (Mi.nA x) k):∃b,x=.int b/\k b:=by
 cases x with
 |int b=>exact⟨b,rfl,h⟩
 |_=>exact h.elim
theorem M8(ha:AE M qP ta a)(hb:AE M qV tb b):AE M qV (FA ta tb) (Mi.nO a b):=λe σ H Hv Q I h=>
 ha e σ H Hv _ I ((aw.mp h).mono λx hx v H1 Hv1 g1 rx=>by
  obtain⟨k,rfl,hk⟩:=BY (aw.mp hx);cases RD.bl rx;refine⟨k,rfl,?_⟩;cases k with
  |true=>exact l5 (hb e σ H1 Hv1 Q (I.grow g1) (Fin.mono (Mi.nR hk) λd hd w H2 Hv2 g2 rw=>hd w H2 Hv2 (g1.trans g2) rw))
  |false=>exact md ((Mi.lA (Mi.m9 hk)) _ H1 Hv1 g1 fA))
theorem yH[KM κ]{tt:TT}{k:Mi.C}(hc:AT M tt k)(ha:AE M κ ta a)(hb:AE M κ tb b):AE M κ (D8 tt ta tb) (Mi.ll k a b):=λe σ H Hv Q I h=>
 hc e σ H Hv _ I ((aw.mp h).mono λx hx H1 Hv1 g1=>by
  cases x with
  |true=>exact l5 (ha e σ H1 Hv1 Q (I.grow g1) (Fin.mono (Mi.nR hx) λd hd w H2 Hv2 g2 rw=>hd w H2 Hv2 (g1.trans g2) (KM.mono g1.old rw)))
  |false=>exact md (hb e σ H1 Hv1 Q (I.grow g1) (Fin.mono (Mi.m9 hx) λd hd w H2 Hv2 g2 rw=>hd w H2 Hv2 (g1.trans g2) (KM.mono g1.old rw))))
theorem qW:AO M Fd (Mi.k5 ac):=λe σ H Hv Q I h=>h H Hv (.refl I.vw)
theorem nV(ha:AE M qP ta a):AO M (D3 ta) (Mi.k5 (aa a)):=λe σ H Hv Q I h=>
 ha e σ H Hv _ I ((aw.mp h).mono λx hx v H1 Hv1 g1 rx=>by
  obtain⟨i,rfl,hk⟩:=sh (aw.mp hx);exact⟨i,RD.int rx,hk H1 Hv1 g1⟩)
def BS(κ:Kd)(r:V->Option Int->Option Int->Hp->VK->Prop)(f:D->Option Int->Option Int->Rs D):Prop:=∀x lo hi v H Hv Q,Vw H Hv->RD H Hv x v->Fin (f x lo hi) (λd=>∀w H' Hv',bw H Hv H' Hv'->κ H H' Hv' (.d d) w->Q w H')->r v lo hi H Q
theorem oV[KM κ]{r:V->Option Int->Option Int->Hp->VK->Prop}{tl th:TO}{lo hi:Option Mi.E}{f:D->Option Int->Option Int->Rs D}(hr:BS κ r f)(ha:AE M qP ta a)(hl:AO M tl (Mi.k5 lo))(hh:AO M th (Mi.k5 hi)):AE M κ (Et r ta tl th) (Mi.gj f a lo hi):=λe σ H Hv Q I h=>
 ha e σ H Hv _ I ((aw.mp h).mono λx hx v H1 Hv1 g1 rx=>hl e σ H1 Hv1 _ (I.grow g1) ((aw.mp hx).mono λl hl H2 Hv2 g2=>hh e σ H2 Hv2 _ (I.grow (g1.trans g2)) ((aw.mp hl).mono λu hu H3 Hv3 g3=>
  hr x l u v H3 Hv3 Q g3.vw (RB.grow (g2.trans g3) rx) (hu.mono λd hd w H4 Hv4 g4 rw=>hd w H4 Hv4 (g1.trans (g2.trans (g3.trans g4))) (KM.mono (g1.old.trans (g2.old.trans g3.old)) rw)))))
theorem iQ(ha:AE M qP ta a):AT M (tB ta) (Mi.cB a):=λe σ H Hv Q I h=>
 ha e σ H Hv _ I ((aw.mp h).mono λx hx v H1 Hv1 g1 rx=>by
  obtain⟨k,rfl,hk⟩:=BY hx;exact⟨k,RD.bl rx,hk H1 Hv1 g1⟩)
theorem cH(ha:AE M qP ta a):AT M (C8 ta) (Mi.cB a):=iQ ha
theorem mz{K:aD}(ha:AE M qP ta a):AT M (λσ H Q=>ta σ H λx H'=>∃k,sK K x H' k/\Q k H') (Mi.dP a):=λe σ H Hv Q I h=>
 ha e σ H Hv _ I ((aw.mp h).mono λx hx v H1 Hv1 g1 rx=>by
  cases x with
  |non=>cases RD.non rx;exact⟨false,rfl,hx H1 Hv1 g1⟩
  |bl b=>cases RD.bl rx;exact⟨b,rfl,hx H1 Hv1 g1⟩
  |int i=>cases RD.int rx;exact⟨_,rfl,hx H1 Hv1 g1⟩
  |str y=>
   cases RD.str rx;obtain⟨hz,hq⟩:=Mi.cD hx;exact⟨_,⟨by rw[c6];exact hz,rfl⟩,hq H1 Hv1 g1⟩
  |lst ds=>
   obtain⟨p,xs,rfl,l,r⟩:=RD.lst g1.vw rx;refine⟨!xs.isEmpty,.inl ⟨xs,l.sq,rfl⟩,?_⟩;have:ds.isEmpty=xs.isEmpty:=by cases r<;>rfl
   rw[<- this];exact hx H1 Hv1 g1
  |tup ds=>
   obtain⟨p,xs,rfl,l,_,r⟩:=RD.tup g1.vw rx;refine⟨!xs.isEmpty,.inr (.inl ⟨xs,.inl (.inl l),rfl⟩),?_⟩;have:ds.isEmpty=xs.isEmpty:=by cases r<;>rfl
   rw[<- this];exact hx H1 Hv1 g1)
variable{tt uu:TT}{k l:Mi.C}
theorem rh(ha:AT M tt k)(hb:AT M uu l):AT M (B9 tt uu) (Mi.dX k l):=λe σ H Hv Q I h=>
 ha e σ H Hv _ I ((aw.mp h).mono λx hx H1 Hv1 g1=>by
  cases x with
  |true=>exact l5 (hb e σ H1 Hv1 Q (I.grow g1) (Fin.mono (Mi.nR hx) λb hd H2 Hv2 g2=>hd H2 Hv2 (g1.trans g2)))
  |false=>exact md ((Mi.lA (Mi.m9 hx)) H1 Hv1 g1))
theorem pY(ha:AT M tt k)(hb:AT M uu l):AT M (CZ tt uu) (Mi.fq k l):=λe σ H Hv Q I h=>
 ha e σ H Hv _ I ((aw.mp h).mono λx hx H1 Hv1 g1=>by
  cases x with
  |false=>exact md (hb e σ H1 Hv1 Q (I.grow g1) (Fin.mono (Mi.m9 hx) λb hd H2 Hv2 g2=>hd H2 Hv2 (g1.trans g2)))
  |true=>exact l5 ((Mi.lA (Mi.nR hx)) H1 Hv1 g1))
theorem m7(ha:AT M tt k):AT M (Ei tt) (Mi.eP k):=λe σ H Hv Q I h=>
 ha e σ H Hv _ I ((aw.mp h).mono λx hx H1 Hv1 g1=>hx H1 Hv1 g1)
theorem lD:AT M GB Mi.en:=λe σ H Hv Q I h=>h H Hv (.refl I.vw)
variable{tr:TA}{as:List Mi.E}{ws:List Mi.EW}
theorem bC:AA M κ ip (Mi.fY []):=λe σ H Hv Q I h=>h [] H Hv (.refl I.vw) .nil
theorem bf[KM κ][KG κ](ha:AE M κ ta a)(hr:AA M κ tr (Mi.fY as)):AA M κ (gm ta tr) (Mi.fY (a::as)):=λe σ H Hv Q I h=>
 ha e σ H Hv _ I ((aw.mp h).mono λx hx v H1 Hv1 g1 rx=>hr e σ H1 Hv1 _ (I.grow g1) ((aw.mp hx).mono λxs hs vs H2 Hv2 g2 rs=>
  hs (v::vs) H2 Hv2 (g1.trans g2) (.cons (KG.go g2 rx) (rs.imp λ_ _ z=>KM.mono g1.old z))))
theorem bN:AAW M κ ip (Mi.dE []):=λe σ H Hv Q I h=>h [] H Hv (.refl I.vw) .nil
theorem aM[KM κ][KG κ]{w:Mi.EW}(ha:AW M κ ta w)(hr:AAW M κ tr (Mi.dE ws)):AAW M κ (gm ta tr) (Mi.dE (w::ws)):=λe σ H Hv Q I h=>
 ha e σ H Hv _ I ((aw.mp h).mono λx hx v H1 Hv1 g1 rx=>hr e σ H1 Hv1 _ (I.grow g1) ((aw.mp hx).mono λxs hs vs H2 Hv2 g2 rs=>
  hs (v::vs) H2 Hv2 (g1.trans g2) (.cons (KG.go g2 rx) (rs.imp λ_ _ z=>KM.mono g1.old z))))
theorem dO[KM κ]{r:List V->Hp->VK->Prop}{f:List D->Rs D}(hr:BN κ r f)(ha:AA M qP tr (Mi.fY as)):AE M κ (qY r tr) (Mi.mN f as):=λe σ H Hv Q I h=>
 ha e σ H Hv _ I ((aw.mp h).mono λds hx vs H1 Hv1 g1 rx=>hr ds vs H1 Hv1 Q g1.vw rx (hx.mono λd hd w H3 Hv3 g3 rw=>hd w H3 Hv3 (g1.trans g3) (KM.mono g1.old rw)))
theorem jZ(ha:AA M qV tr (Mi.fY as)):AE M qV (yx tr) (Mi.mN Mi.dTup as):=λe σ H Hv Q I h=>
 ha e σ H Hv _ I ((aw.mp h).mono λds hx vs H1 Hv1 g1 rx=>by
  obtain⟨hz,hq⟩:=Mi.cD hx;refine⟨by rw[<- rx.len,c6];exact hz,λp hp=>?_⟩;have g2:bw H1 Hv1 (upd H1 p (.tup vs)) (upd Hv1 p (.tup vs)):=.new g1.vw hp;exact hq _ _ _ (g1.trans g2) (iq.mpr ⟨p,vs,rfl,bu,eA g2.vis rx⟩))
theorem fu(ha:AA M qV tr (Mi.fY as)):AE M qN (Bi tr) (Mi.mN Mi.cR as):=λe σ H Hv Q I h=>
 ha e σ H Hv _ I ((aw.mp h).mono λds hx vs H1 Hv1 g1 rx=>by
  obtain⟨hz,hq⟩:=Mi.cD hx;refine⟨by rw[<- rx.len,c6];exact hz,λp hp=>?_⟩;have g2:bw H1 Hv1 (upd H1 p (.lst vs)) Hv1:=.qf g1.vw trivial hp;exact hq _ _ _ (g1.trans g2) ⟨p,.lst vs,rfl,g1.old.free hp,bu,om g1.vw hp,rx⟩)
def au(f:Mi.Fn):Sp:=λvs H Q _=>∃Hv ws,Vw H Hv/\P2 (fX Hv) ws vs/\Fin (f ws) (λw=>∀v H' Hv',bw H Hv H' Hv'->qV H H' Hv' w v->Q v H')
def cO(f:Mi.Fn):Sp:=λvs H Q _=>∃Hv ws,Vw H Hv/\P2 (fX Hv) ws vs/\Fin (f ws) (λw=>∀v H' Hv',bw H Hv H' Hv'->qN H H' Hv' w v->Q v H')
variable{fn:Mi.Fn}{E:XK}
theorem Nr(ha:AAW M qV tr (Mi.dE ws)):AW M qV (mr (au fn) [] E tr) (Mi.gy fn ws):=λe σ H Hv Q I h=>
 ha e σ H Hv _ I ((aw.mp h).mono λds hx vs H1 Hv1 g1 rx=>by
  rw[lJ];exact⟨Hv1,ds,g1.vw,rx,hx.mono λd hd w H3 Hv3 g3 rw=>hd w H3 Hv3 (g1.trans g3) rw⟩)
theorem wR(ha:AAW M qV tr (Mi.dE ws)):AW M qN (mr (cO fn) [] E tr) (Mi.gy fn ws):=λe σ H Hv Q I h=>
 ha e σ H Hv _ I ((aw.mp h).mono λds hx vs H1 Hv1 g1 rx=>by
  rw[lJ];exact⟨Hv1,ds,g1.vw,rx,hx.mono λd hd w H3 Hv3 g3 rw=>hd w H3 Hv3 (g1.trans g3) (KM.mono (κ:=qN) g1.old rw)⟩)
theorem L0{w:W}{k:D->Prop}(h:Fin (Mi.qe w) k):∃d,w=.d d/\k d:=by
 cases w with
 |d x=>exact⟨x,rfl,h⟩
 |_=>exact h.elim
theorem AW.d{w:Mi.EW}(h:AW M κ t w):AE M κ t (λe=>(w e).bind Mi.qe):=λe σ H Hv Q I q=>
 h e σ H Hv Q I ((aw.mp q).mono λw z v H' Hv' g k=>by
  obtain⟨d,rfl,z⟩:=L0 z;exact z v H' Hv' g k)
theorem dh(ha:AAW M qV tr (Mi.dE ws)):AE M qV (mr (au fn) [] E tr) (Mi.ba fn ws):=(Nr ha).d
theorem iA(ha:AAW M qV tr (Mi.dE ws)):AE M qN (mr (cO fn) [] E tr) (Mi.ba fn ws):=(wR ha).d
def iz(H:Hp):Hp:=λa=>match H a with
 |some (.tbl _ _)=>ac
 |x=>x
theorem jX{H:Hp}{a:af}{o:HO}(h:H a=aa o)(n:NT o):iz H a=aa o:=by unfold iz;rw[h];cases o<;>first|rfl|exact n.elim
theorem u3{H:Hp}{a:af}{o:HO}(h:iz H a=aa o):H a=aa o/\NT o:=by
 unfold iz at h;cases q:H a with
 |none=>rw[q]at h;cases h
 |some u=>
  rw[q]at h;cases u with
  |tbl w ps=>cases h
  |_=>cases h;exact⟨rfl,trivial⟩
theorem Vw.all{H:Hp}(k:gp H):Vw H (iz H):=⟨λa o e=>(u3 e).1,λa xs e=>jX e trivial,λa o u e=>jX e trivial,k,λa o e=>(u3 e).2⟩
theorem RB.FV{H Hv:Hp}(v:Vw H Hv){w:W}{x:V}(h:RB H Hv w x):fX (iz H) w x:=by
 have s:cg Hv (iz H):=λa o e=>jX (v.sub a o e) (v.nv a o e);rcases h with h|⟨a,o,rfl,q,c⟩
 ·exact oU s h
 ·exact vo (jX q c.nt) (c.same s)
def seen(H Hv H':Hp):Hp:=λa=>match Hv a,H a with
 |none,aa _=>ac
 |_,_=>iz H' a
theorem Dh{H Hv H':Hp}(v:Vw H Hv)(s:Old H H')(k':gp H'):bw H Hv H' (seen H Hv H'):=by
 have key:∀a,(∃o,H a=aa o/\Hv a=ac/\seen H Hv H' a=ac)\/(seen H Hv H' a=iz H' a/\∀o,H a=aa o->Hv a=aa o):=λa=>by
  cases h1:Hv a with
  |none=>
   cases h2:H a with
   |none=>exact .inr ⟨by unfold seen;rw[h1,h2],λo e=>by cases e⟩
   |some o=>exact .inl ⟨o,rfl,rfl,by unfold seen;rw[h1,h2]⟩
  |some o=>
   refine .inr ⟨by unfold seen;rw[h1],λu e=>?_⟩;rw[v.sub a o h1]at e;exact e
 have back:∀b o,H' b=aa o->NT o->(∃u,H b=aa u)->∃u,H b=aa u:=λ_ _ _ _ z=>z;refine⟨s,λb o e=>?_,⟨λb o e=>?_,λb xs e=>?_,λb q u e=>?_,k',λb o e=>?_⟩,λb o e n=>?_⟩
 ·rcases key b with ⟨u,_,z,_⟩|⟨z,_⟩
  ·rw[e]at z;cases z
  ·rw[z];exact jX (s.nt b o (v.sub b o e) (v.nv b o e)) (v.nv b o e)
 ·rcases key b with ⟨u,_,_,z⟩|⟨z,_⟩
  ·rw[e]at z;cases z
  ·rw[z]at e;exact(u3 e).1
 ·rcases key b with ⟨u,h1,h2,_⟩|⟨z,_⟩
  ·cases u with
   |tbl w ps=>exact absurd e (s.tab h1 trivial)
   |_=>
    have:=s.nt b _ h1 trivial;rw[e]at this;cases this
    try (rw[v.tup b xs h1]at h2;cases h2)
  ·rw[z];exact jX e trivial
 ·rcases key b with ⟨w,h1,h2,_⟩|⟨z,_⟩
  ·cases w with
   |tbl w ps=>exact absurd e (s.tab h1 trivial)
   |_=>
    have:=s.nt b _ h1 trivial;rw[e]at this;cases this
    try (rw[v.frz b q u h1]at h2;cases h2)
  ·rw[z];exact jX e trivial
 ·rcases key b with ⟨u,_,_,z⟩|⟨z,_⟩
  ·rw[e]at z;cases z
  ·rw[z]at e;exact(u3 e).2
 ·rcases key b with ⟨u,h1,h2,z⟩|⟨z,k⟩
  ·exact z
  ·rw[k o e]at n;cases n
theorem Oy(ha:AAW M qP tr (Mi.dE ws)):AE M qV (mr (au fn) [] E tr) (Mi.sM fn ws):=λe σ H Hv Q I h=>
 ha e σ H Hv _ I ((aw.mp (aw.mp h)).mono λds hx vs H1 Hv1 g1 rx=>by
  rw[lJ];refine⟨iz H1,ds,.all g1.vw.cd,rx.imp λw v z=>RB.FV g1.vw z,hx.mono λw hd v H3 Hv3 g3 rw=>?_⟩;cases w with
  |d x=>
   obtain⟨hi,hd⟩:=Mi.cD hd;have g4:=Dh g1.vw g3.old g3.vw.cd;refine hd v H3 _ (g1.trans g4) (zd g4.vw.tup hi (iZ g3.vw.sub rw))
  |_=>exact hd.elim)
end
end A
namespace A
open PySem L2 PyProof.Rows
open Mi (D W Rs Fin aw Out Tg)
variable[Tb:bG]
structure oS(J:It)(P:Hp->Hp->Prop)(ds:List D):Prop where
 go:∀i H Hv,P H Hv->Vw H Hv->i<ds.length->J.go i H
 yld:∀i H Hv x H',P H Hv->Vw H Hv->i<ds.length->J.yld i H x H'->∃Hv' d,bw H Hv H' Hv'/\ds[i]? = aa d/\Rep Hv' d x
 stop:∀H Hv,P H Hv->Vw H Hv->J.stop ds.length H
def y6(M:Nat->Bool)(wi:TI)(it:Mi.I):Prop:=∀e σ H Hv (R:It->Hp->Prop),R0 M e σ H Hv->Fin (it e) (λds=>∀(J:It) H' Hv' (P:Hp->Hp->Prop),bw H Hv H' Hv'->oS J P ds->P H' Hv'->(∀H1 Hv1 H2 Hv2,P H1 Hv1->bw H1 Hv1 H2 Hv2->P H2 Hv2)->R J H')->wi σ H R
def gK(M:Nat->Bool)(wi:TI)(it:Mi.I):Prop:=∀e σ H Hv (R:It->Hp->Prop),R0 M e σ H Hv->Fin (it e) (λds=>∀(J:It) H' Hv' (P:Hp->Hp->Prop),bw H Hv H' Hv'->oS J P ds->P H' Hv'->(∀H1 Hv1 H2 Hv2,P H1 Hv1->cg Hv1 Hv2->Vw H2 Hv2->P H2 Hv2)->R J H')->wi σ H R
theorem iO{α:Type}{r:Rs α}{k:α->Prop}(h:Fin r k):∃x,r=.ok x/\k x:=by
 cases r with
 |ok x=>exact⟨x,rfl,h⟩
 |_=>exact h.elim
section
variable{M:Nat->Bool}{ta tb:TE}{a b:Mi.E}{wi:TI}{it:Mi.I}{tr:TA}{as:List Mi.E}
theorem gK.c(h:gK M wi it):y6 M wi it:=λe σ H Hv R I q=>h e σ H Hv R I (q.mono λds z J H' Hv' P g o p k=>z J H' Hv' P g o p λH1 Hv1 H2 Hv2 p g'=>k H1 Hv1 H2 Hv2 p g'.vis g'.vw)
theorem ny{J:It}{Ok:Hp->Prop}{xs:List V}(O:J.Of Ok xs){ds:List D}{P:Hp->Hp->Prop}(ok:∀H Hv,P H Hv->Vw H Hv->Ok H)(r:∀H Hv,P H Hv->P2 (Rep Hv) ds xs)(ex:∃H Hv,P H Hv):oS J P ds:=by
 have hl:ds.length=xs.length:=by obtain⟨H,Hv,p⟩:=ex;exact(r H Hv p).len
 refine⟨λi H Hv p v hi=>O.go i H (ok H Hv p v) (by omega),λi H Hv x H' p v hi y=>?_,λH Hv p v=>by rw[hl];exact O.stop H (ok H Hv p v)⟩;obtain⟨rfl,hx⟩:=O.yld i H x H' (ok H Hv p v) (by omega) y;obtain⟨d,hd,rx⟩:=(r H' Hv p).xc hx;exact⟨Hv,d,.refl v,hd,rx⟩
def xQ(K:aD)(tl:TE):TI:=λσ H R=>Bg K tl σ H R\/Ea K tl σ H R\/F9 tl σ H R
theorem eu{X:Cx}{tg l:aU}{tl:TE}(hl:PE X l tl):PI X tg l (xQ X.K tl):=λae s σ H R I h=>by
 rcases h with h|h|h
 ·exact NB hl ae s σ H R I h
 ·exact NL hl ae s σ H R I h
 ·exact KH hl ae s σ H R I h
theorem GD(H:Hp)(z:Str):P2 (Rep H) (z.cps.toList.map λc=>D.str ⟨#[c]⟩) (nu z):=by
 unfold nu
 induction z.cps.toList with
 |nil=>exact .nil
 |cons c r ih=>exact .cons (nI.mpr rfl) ih
theorem gT{K:aD}(ha:AE M qP ta a):y6 M (xQ K ta) (Mi.bM a):=λe σ H Hv R I h=>by
 obtain⟨d,hd,h⟩:=iO (aw.mp h);have run:∀Q:VK,(∀v H' Hv',bw H Hv H' Hv'->RD H' Hv' d v->Q v H')->ta σ H Q:=λQ q=>ha e σ H Hv Q I (by rw[hd];exact q);cases d with
 |lst ds=>
  refine .inl (run _ λv H' Hv' g r=>?_);obtain⟨p,xs,rfl,l,r⟩:=RD.lst g.vw r;exact⟨p,rfl,⟨xs,l.sq⟩,h (sk K p) H' Hv' (λH Hv=>Lst H p xs/\P2 (Rep Hv) ds xs) g (ny Ds (λH Hv p v=>p.1.sq) (λH Hv p=>p.2) ⟨H',Hv',l,r⟩) ⟨l,r⟩ λH1 Hv1 H2 Hv2 z g'=>⟨z.1.old g'.old,eA g'.vis z.2⟩⟩
 |tup ds=>
  refine .inr (.inl (run _ λv H' Hv' g r=>?_));obtain⟨p,xs,rfl,l,_,r⟩:=RD.tup g.vw r;exact⟨p,rfl,⟨xs,.inl (.inl l)⟩,h (sC K p) H' Hv' (λH Hv=>H p=aa (.tup xs)/\P2 (Rep Hv) ds xs) g (ny Ca (λH Hv p v=>.inl (.inl p.1)) (λH Hv p=>p.2) ⟨H',Hv',l,r⟩) ⟨l,r⟩ λH1 Hv1 H2 Hv2 z g'=>⟨g'.old.at z.1,eA g'.vis z.2⟩⟩
 |str z=>
  refine .inr (.inr (run _ λv H' Hv' g r=>?_));exact⟨z,RD.str r,h (nP z) H' Hv' (λ_ _=>True) g (ny Er (λ_ _ _ _=>trivial) (λH Hv _=>GD Hv z) ⟨H,Hv,trivial⟩) trivial λ_ _ _ _ _ _=>trivial⟩
 |_=>exact h.elim
theorem me{K:aD}(ha:AE M qV ta a):gK M (xQ K ta) (Mi.bM a):=λe σ H Hv R I h=>by
 obtain⟨d,hd,h⟩:=iO (aw.mp h);have run:∀Q:VK,(∀v H' Hv',bw H Hv H' Hv'->Rep Hv' d v->Q v H')->ta σ H Q:=λQ q=>ha e σ H Hv Q I (by rw[hd];exact q);cases d with
 |lst ds=>
  refine .inl (run _ λv H' Hv' g r=>?_);obtain⟨p,xs,rfl,l,r⟩:=k3.mp r;exact⟨p,rfl,⟨xs,(l.same g.vw.sub).sq⟩,h (sk K p) H' Hv' (λH Hv=>Lst Hv p xs/\P2 (Rep Hv) ds xs) g (ny Ds (λH Hv p v=>(p.1.same v.sub).sq) (λH Hv p=>p.2) ⟨H',Hv',l,r⟩) ⟨l,r⟩ λH1 Hv1 H2 Hv2 z s v=>⟨z.1.same s,eA s z.2⟩⟩
 |tup ds=>
  refine .inr (.inl (run _ λv H' Hv' g r=>?_));obtain⟨p,xs,rfl,l,r⟩:=iq.mp r;exact⟨p,rfl,⟨xs,.inl (.inl (g.vw.sub _ _ l))⟩,h (sC K p) H' Hv' (λH Hv=>Hv p=aa (.tup xs)/\P2 (Rep Hv) ds xs) g (ny Ca (λH Hv p v=>.inl (.inl (v.sub _ _ p.1))) (λH Hv p=>p.2) ⟨H',Hv',l,r⟩) ⟨l,r⟩ λH1 Hv1 H2 Hv2 z s v=>⟨s _ _ z.1,eA s z.2⟩⟩
 |str z=>
  refine .inr (.inr (run _ λv H' Hv' g r=>?_));exact⟨z,nI.mp r,h (nP z) H' Hv' (λ_ _=>True) g (ny Er (λ_ _ _ _=>trivial) (λH Hv _=>GD Hv z) ⟨H,Hv,trivial⟩) trivial λ_ _ _ _ _ _ _=>trivial⟩
 |_=>exact h.elim
theorem Ow(H:Hp)(lo hi:Int):P2 (Rep H) (Mi.dC lo hi) (nY lo (hi-lo).toNat):=by
 unfold Mi.dC nY
 induction bT (hi-lo).toNat with
 |nil=>exact .nil
 |cons c r ih=>exact .cons (pK.mpr rfl) ih
theorem Py(lo hi:Int)(H Hv:Hp):oS (pV lo (hi-lo).toNat) (λ_ _=>True) (Mi.dC lo hi):=ny Nu (λ_ _ _ _=>trivial) (λH Hv _=>Ow Hv lo hi) ⟨H,Hv,trivial⟩
theorem jx(ha:AE M qP ta a):gK M (ET (gm ta ip)) (Mi.gi a):=λe σ H Hv R I h=>
 ha e σ H Hv _ I ((aw.mp h).mono λx hx v H1 Hv1 g1 rx=>by
  obtain⟨j,rfl,hk⟩:=sh (aw.mp hx);obtain⟨hz,hq⟩:=Mi.cD hk;cases RD.int rx;refine⟨j,rfl,hz.1,hz.2,?_⟩;have:=hq (pV 0 (j-0).toNat) H1 Hv1 _ g1 (Py 0 j H Hv) trivial λ_ _ _ _ _ _ _=>trivial;rw[Int.sub_zero]at this;exact this)
end
def uT:List Nat->iC
 |[]=>qT
 |i::r=>qH (gu i) (uT r)
def qS:Tg->List Nat
 |.n i=>[i]
 |.t is=>is
def tY(K:aD):Tg->TG
 |.n i=>gu i
 |.t is=>yk K is.length (uT is)
section
variable{P:Mi.Env->L2.St->Prop}{H Hv:Hp}
theorem yQ:∀{is:List Nat} {ds:List D} {xs:List V} {e:Mi.Env} {σ:L2.St} {Q:L2.St->Hp->Prop},(∀i∈is,∀e σ d v,P e σ->Rep Hv d v->P (e.set i (aa (.d d))) (σ.set i (aa v)))->P e σ->P2 (Rep Hv) ds xs ->
 Fin (Mi.l9 is ds e) (λe'=>∀σ',P e' σ'->Q σ' H)->uT is xs σ H Q
 |[],[],xs,e,σ,Q,cl,p,r,h=>by
  cases r;exact⟨rfl,h σ p⟩
 |[],_::_,xs,e,σ,Q,cl,p,r,h=>h.elim
 |_::_,[],xs,e,σ,Q,cl,p,r,h=>h.elim
 |i::is,d::ds,xs,e,σ,Q,cl,p,r,h=>by
  cases r with
  |cons x t=>exact⟨_,_,rfl,yQ (λj hj=>cl j (cy _ hj)) (cl i bP _ _ _ _ p x) t h⟩
theorem wB:∀{is:List Nat} {ds:List D} {e:Mi.Env} {k:Mi.Env->Prop},Fin (Mi.l9 is ds e) k->ds.length=is.length
 |[],[],_,_,_=>rfl
 |[],_::_,_,_,h=>h.elim
 |_::_,[],_,_,h=>h.elim
 |i::is,d::ds,e,k,h=>by rw[bQ,bQ,wB (is:=is) (ds:=ds) (k:=k) h]
theorem xZ{K:aD}(vw:Vw H Hv){tg:Tg}{d:D}{v:V}{e:Mi.Env}{σ:L2.St}{Q:L2.St->Hp->Prop}(cl:∀i∈qS tg,∀e σ d v,P e σ->Rep Hv d v->P (e.set i (aa (.d d))) (σ.set i (aa v)))(p:P e σ)(r:Rep Hv d v)
 (h:Fin (tg.put d e) (λe'=>∀σ',P e' σ'->Q σ' H)):tY K tg v σ H Q:=by
 cases tg with
 |n i=>exact h _ (cl i (by simp[qS]) _ _ _ _ p r)
 |t is=>
  cases d with
  |tup ds=>
   obtain⟨a,xs,e1,l,r⟩:=iq.mp r;exact⟨a,xs,e1,.inl (.inl (vw.sub _ _ l)),by rw[<- r.len];exact wB h,yQ cl p r h⟩
  |_=>exact h.elim
end
theorem jW{α:Type}{l:List α}{i j:Nat}{x y:α}(h:(l.set i x)[j]? = aa y):(i=j/\x=y/\i<l.length)\/(i≠j/\l[j]? = aa y):=by
 rw[zB]at h;split at h
 ·split at h
  ·exact .inl ⟨‹_›,fj h,by omega⟩
  ·cases h
 ·exact .inr ⟨‹_›,h⟩
theorem R0.set{M:Nat->Bool}{e:Mi.Env}{σ:L2.St}{H Hv:Hp}(I:R0 M e σ H Hv){i:Nat}{w:W}{v:V}(hm:M i=false)(r:fX Hv w v):R0 M (e.set i (aa w)) (σ.set i (aa v)) H Hv:=by
 refine⟨I.vw,by rw[kO,kO];exact I.len,λj w' h m=>?_,λj w' h m=>?_⟩
 ·rcases jW h with ⟨rfl,h,l⟩|⟨n,h⟩
  ·cases h;exact⟨v,by rw[mJ (by rw[I.len];exact l)],r⟩
  ·obtain⟨u,q,z⟩:=I.nob j w' h m;exact⟨u,by rw[fh n];exact q,z⟩
 ·rcases jW h with ⟨rfl,h,l⟩|⟨n,h⟩
  ·rw[hm]at m;cases m
  ·obtain⟨u,q,z⟩:=I.own j w' h m;exact⟨u,by rw[fh n];exact q,z⟩
theorem R1.set{M:Nat->Bool}{H0 Hv0:Hp}{e:Mi.Env}{σ:L2.St}{H Hv:Hp}(I:R1 M H0 Hv0 e σ H Hv){i:Nat}{w:W}{v:V}(hm:M i=false)(r:fX Hv w v):R1 M H0 Hv0 (e.set i (aa w)) (σ.set i (aa v)) H Hv:=by
 have nj:∀{j:Nat} {w':W},(e.set i (aa w))[j]? = aa (aa w')->M j=true->i≠j/\e[j]? = aa (aa w'):=λ{j w'} h m=>by
  rcases jW h with ⟨rfl,_,_⟩|⟨n,h⟩
  ·rw[hm]at m;cases m
  ·exact⟨n,h⟩
 refine⟨I.toR0.set hm r,I.gw,λj w' a h m q=>?_,λj k w1 w2 a b hjk h1 h2 m1 m2 q1 q2=>?_⟩
 ·obtain⟨n,h⟩:=nj h m;rw[fh n]at q;exact I.fresh j w' a h m q
 ·obtain⟨n1,h1⟩:=nj h1 m1;obtain⟨n2,h2⟩:=nj h2 m2;rw[fh n1]at q1;rw[fh n2]at q2;exact I.sep j k w1 w2 a b hjk h1 h2 m1 m2 q1 q2
def og(ρ:List (Option Nat))(M:Nat->Bool):Nat->Bool:=λi=>match ρ[i]? with
 |some (aa j)=>M j
 |_=>false
theorem DZ{α:Type}{ρ:List (Option Nat)}{e:List (Option α)}{i:Nat}{w:α}(h:(ρ.map λo=>o.bind λj=>(e[j]?).join)[i]? = aa (aa w)):∃j,ρ[i]? = aa (aa j)/\e[j]? = aa (aa w):=by
 rw[cZ]at h;cases hr:ρ[i]? with
 |none=>rw[hr]at h;cases h
 |some o=>
  rw[hr]at h;cases o with
  |none=>cases h
  |some j=>
   refine⟨j,rfl,?_⟩;have h:(e[j]?).join=aa w:=fj h;cases hq:e[j]? with
   |none=>rw[hq]at h;cases h
   | some o' => rw [hq] at h; have h : o' = aa w := h
                rw[h]
theorem GF{α:Type}{ρ:List (Option Nat)}{e:List (Option α)}{i j:Nat}{w:α}(h1:ρ[i]? = aa (aa j))(h2:e[j]? = aa (aa w)):(ρ.map λo=>o.bind λj=>(e[j]?).join)[i]? = aa (aa w):=by rw[cZ,h1];show aa ((e[j]?).join)=_;rw[h2];rfl
theorem R0.pick{M:Nat->Bool}{e:Mi.Env}{σ:L2.St}{H Hv:Hp}(I:R0 M e σ H Hv)(ρ:List (Option Nat)):R0 (og ρ M) (Mi.fZ ρ e) (L2.pick ρ σ) H Hv:=by
 refine⟨I.vw,by unfold Mi.fZ L2.pick;rw[aQ,aQ],λi w h m=>?_,λi w h m=>?_⟩
 ·obtain⟨j,h1,h2⟩:=DZ h;have m:M j=false:=by unfold og at m;rw[h1]at m;exact m
  obtain⟨v,q,z⟩:=I.nob j w h2 m;exact⟨v,GF h1 q,z⟩
 ·obtain⟨j,h1,h2⟩:=DZ h;have m:M j=true:=by unfold og at m;rw[h1]at m;exact m
  obtain⟨v,q,z⟩:=I.own j w h2 m;exact⟨v,GF h1 q,z⟩
theorem OJ{tg:Tg}{c:Mi.C}{a:Mi.E}{e:Mi.Env}{x:D}{r:List D}{k:List D->Prop}(h:Fin (Mi.cY tg c a e (x::r)) k) :
 Fin (tg.put x e) λe1=>Fin (c e1) λb=>if b=true then Fin (a e1) λy=>Fin (Mi.cY tg c a e r) λys=>k (y::ys)else Fin (Mi.cY tg c a e r) k:=by
 refine(aw.mp h).mono λe1 h1=>(aw.mp h1).mono λb h2=>?_;cases b with
 |true=>exact l5 ((aw.mp (Mi.nR h2)).mono λy h3=>(aw.mp h3).mono λys h4=>h4)
 |false=>exact md (Mi.m9 h2)
theorem eE{M:Nat->Bool}{K:aD}{ρ:List (Option Nat)}{wi:TI}{it:Mi.I}{tg:Tg}{tc:TT}{c:Mi.C}{te:TE}{a:Mi.E}(hi:y6 M wi it)(hm:∀i∈qS tg,og ρ M i=false)(hc:AT (og ρ M) tc c)(he:AE (og ρ M) qV te a) :
 AE M qN (ui wi ρ (tY K tg) tc te) (Mi.cr ρ it tg c a):=λe σ H Hv Q I h=>
 hi e σ H Hv _ I ((aw.mp h).mono λds h1 J H1 Hv1 P g1 O p1 per=>by
  obtain⟨hz,h1⟩:=Mi.cD h1;have h1:=aw.mp h1;have I1:=I.grow g1;refine⟨λi m acc H'=>m=ds.length-i/\i<=ds.length/\∃Hv',bw H1 Hv1 H' Hv'/\P H' Hv'/\acc.length<=i/\∃done,P2 (Rep Hv') done acc/\Fin (Mi.cY tg c a (Mi.fZ ρ e) (ds.drop i)) λys=>∀v H2 Hv2,bw H Hv H2 Hv2->qN H H2 Hv2 (.d (.lst (done++ys))) v->Q v H2,
   ⟨ds.length,by simp,eK _,Hv1,.refl g1.vw,p1,bq _,[],.nil,by rw[sW];exact h1.mono λys z=>z⟩,?_⟩
  rintro i m acc H' ⟨rfl,hle,Hv',g,pp,l,done,pd,hf⟩;by_cases hlt:i<ds.length
  ·refine .inr ⟨O.go i H' Hv' pp g.vw hlt,by rw[c6];omega,λacc' H2=>∃Hv2,bw H1 Hv1 H2 Hv2/\P H2 Hv2/\acc'.length<=i+1/\∃done,P2 (Rep Hv2) done acc'/\Fin (Mi.cY tg c a (Mi.fZ ρ e) (ds.drop (i+1))) λys=>∀v H3 Hv3,bw H Hv H3 Hv3->qN H H3 Hv3 (.d (.lst (done++ys))) v->Q v H3,
    λacc' H2 z=>⟨ds.length-(i+1),by omega,rfl,hlt,z⟩,λx H2 y=>?_⟩
   obtain⟨Hv2,d,g2,hd,rx⟩:=O.yld i H' Hv' x H2 pp g.vw hlt y;have g12:=g.trans g2;have hdr:ds.drop i=d::ds.drop (i+1):=by obtain⟨hl,e1⟩:=ca.mp hd;rw[vq hl,e1]
   rw[hdr]at hf;have hf:=OJ hf;refine xZ (P:=λe1 σ1=>R0 (og ρ M) e1 σ1 H2 Hv2) g2.vw (λj hj e1 σ1 d1 v1 r1 z=>r1.set (hm j hj) z) ((I1.grow g12).pick ρ) rx (hf.mono λe1 hf1 σ1 r1=>?_);refine hc e1 σ1 H2 Hv2 _ r1 (hf1.mono λb hb H3 Hv3 g3=>?_);cases b with
   |true=>
    refine l5 (he e1 σ1 H3 Hv3 _ (r1.grow g3) (Fin.mono (by simpa using hb) λy hy v H4 Hv4 g4 ry=>?_));exact⟨Hv4,g12.trans (g3.trans g4),per _ _ _ _ pp (g2.trans (g3.trans g4)),by rw[cC,sR];omega,done++[y],(eA (g2.trans (g3.trans g4)).vis pd).append (.cons ry .nil),hy.mono λys z v H5 Hv5 g5 k=>z v H5 Hv5 g5 (by rw[qi]at k;exact k)⟩
   |false=>exact md ⟨Hv3,g12.trans g3,per _ _ _ _ pp (g2.trans g3),by omega,done,eA (g2.trans g3).vis pd,by simpa using hb⟩
  ·have hi:i=ds.length:=by omega
   subst hi;refine .inl ⟨O.stop H' Hv' pp g.vw,λp hp=>?_⟩;rw[vt (bq _)]at hf;have g2:bw H' Hv' (upd H' p (.lst acc)) Hv':=.qf g.vw trivial hp;refine hf _ _ _ (g1.trans (g.trans g2)) ⟨p,.lst acc,rfl,(g1.old.trans g.old).free hp,bu,om g.vw hp,?_⟩;show P2 (Rep Hv') (done++[]) acc;rw[lJ];exact pd)
def kE(M:Nat->Bool)(κ:Kd)(H0 Hv0:Hp)(D:Ends)(Hv:Hp):Out->Prop
 |.nx e=>∀σ H' Hv',R1 M H0 Hv0 e σ H' Hv'->cg Hv Hv'->D.nx σ H'
 |.rt w=>∀v H' Hv',bw H0 Hv0 H' Hv'->κ H0 H' Hv' w v->D.rt v H'
 |.bk e=>∀σ H' Hv',R1 M H0 Hv0 e σ H' Hv'->cg Hv Hv'->D.bk σ H'
 |.ct e=>∀σ H' Hv',R1 M H0 Hv0 e σ H' Hv'->cg Hv Hv'->D.ct σ H'
def AS(M:Nat->Bool)(κ:Kd)(t:TS)(m:Mi.S):Prop:=∀H0 Hv0 e σ H Hv D,R1 M H0 Hv0 e σ H Hv->Fin (m e) (kE M κ H0 Hv0 D Hv)->t D σ H
section
variable{M:Nat->Bool}{κ:Kd}{t u:TS}{m n:Mi.S}{te:TE}{a b:Mi.E}{w:Mi.EW}
theorem ej:AS M κ A5 Mi.bZ:=λH0 Hv0 e σ H Hv D I h=>h σ H Hv I (cg.refl _)
theorem EG:AS M κ Ce Mi.qU:=λH0 Hv0 e σ H Hv D I h=>h
theorem aY(h1:AS M κ t m)(h2:AS M κ u n):AS M κ (Bx t u) (Mi.aF m n):=λH0 Hv0 e σ H Hv D I h=>
 h1 H0 Hv0 e σ H Hv _ I ((aw.mp h).mono λo ho=>by
  cases o with
  |nx e'=>exactλσ' H' Hv' I' s=>h2 H0 Hv0 e' σ' H' Hv' D I' (Fin.mono ho λo z=>by
   cases o with
   |nx e2=>exactλσ2 H2 Hv2 I2 s2=>z σ2 H2 Hv2 I2 (s.trans s2)
   |rt w=>exact z
   |bk e2=>exactλσ2 H2 Hv2 I2 s2=>z σ2 H2 Hv2 I2 (s.trans s2)
   |ct e2=>exactλσ2 H2 Hv2 I2 s2=>z σ2 H2 Hv2 I2 (s.trans s2))
  |rt w=>exact ho
  |bk e'=>exact ho
  |ct e'=>exact ho)
theorem oj(ha:AE M qP te a):AS M κ (pe te) (Mi.fV a):=λH0 Hv0 e σ H Hv D I h=>
 ha e σ H Hv _ I.toR0 ((aw.mp h).mono λd hd v H1 Hv1 g1 r=>hd σ H1 Hv1 (I.grow g1) g1.vis)
theorem cn(i:Nat)(hm:M i=false)(ha:AE M qV te a):AS M κ (jq te (gu i)) (Mi.bp i a):=λH0 Hv0 e σ H Hv D I h=>
 ha e σ H Hv _ I.toR0 ((aw.mp h).mono λd hd v H1 Hv1 g1 r=>hd _ H1 Hv1 ((I.grow g1).set hm r) g1.vis)
theorem Pk{K:aD}(tg:Tg)(hm:∀i∈qS tg,M i=false)(ha:AE M qV te a):AS M κ (jq te (tY K tg)) (Mi.B0 tg a):=λH0 Hv0 e σ H Hv D I h=>
 ha e σ H Hv _ I.toR0 ((aw.mp h).mono λd hd v H1 Hv1 g1 r=>
  xZ (P:=λe1 σ1=>R1 M H0 Hv0 e1 σ1 H1 Hv1) g1.vw (λj hj e1 σ1 d1 v1 r1 z=>r1.set (hm j hj) z) (I.grow g1) r ((aw.mp hd).mono λe1 h1 σ1 I1=>h1 σ1 H1 Hv1 I1 g1.vis))
theorem d3(ha:AW M qV te w):AS M qV (vk te) (Mi.bH w):=λH0 Hv0 e σ H Hv D I h=>
 ha e σ H Hv _ I.toR0 ((aw.mp h).mono λd hd v H1 Hv1 g1 r=>hd v H1 Hv1 (I.gw.trans g1) r)
theorem jH(ha:AW M qN te w):AS M qN (vk te) (Mi.bH w):=λH0 Hv0 e σ H Hv D I h=>
 ha e σ H Hv _ I.toR0 ((aw.mp h).mono λd hd v H1 Hv1 g1 r=>hd v H1 Hv1 (I.gw.trans g1) (KM.mono (κ:=qN) I.gw.old r))
theorem ee{tt:TT}{c:Mi.C}(hc:AT M tt c)(h1:AS M κ t m)(h2:AS M κ u n):AS M κ (Df tt t u) (Mi.bK c m n):=λH0 Hv0 e σ H Hv D I h=>
 hc e σ H Hv _ I.toR0 ((aw.mp h).mono λb hb H1 Hv1 g1=>by
  have up:∀o,kE M κ H0 Hv0 D Hv o->kE M κ H0 Hv0 D Hv1 o:=λo z=>by
   cases o with
   |nx e2=>exactλσ2 H2 Hv2 I2 s2=>z σ2 H2 Hv2 I2 (g1.vis.trans s2)
   |rt w=>exact z
   |bk e2=>exactλσ2 H2 Hv2 I2 s2=>z σ2 H2 Hv2 I2 (g1.vis.trans s2)
   |ct e2=>exactλσ2 H2 Hv2 I2 s2=>z σ2 H2 Hv2 I2 (g1.vis.trans s2)
  cases b with
  |true=>exact l5 (h1 H0 Hv0 e σ H1 Hv1 D (I.grow g1) (Fin.mono (Mi.nR hb) up))
  |false=>exact md (h2 H0 Hv0 e σ H1 Hv1 D (I.grow g1) (Fin.mono (Mi.m9 hb) up)))
theorem kE.up{H0 Hv0 Hv Hv1:Hp}{D:Ends}(s:cg Hv Hv1){o:Out}(z:kE M κ H0 Hv0 D Hv o):kE M κ H0 Hv0 D Hv1 o:=by
 cases o with
 |nx e2=>exactλσ2 H2 Hv2 I2 s2=>z σ2 H2 Hv2 I2 (s.trans s2)
 |rt w=>exact z
 |bk e2=>exactλσ2 H2 Hv2 I2 s2=>z σ2 H2 Hv2 I2 (s.trans s2)
 |ct e2=>exactλσ2 H2 Hv2 I2 s2=>z σ2 H2 Hv2 I2 (s.trans s2)
theorem gz{K:aD}{wi:TI}{it:Mi.I}{tg:Tg}(hi:gK M wi it)(hm:∀i∈qS tg,M i=false)(hb:AS M κ t m):AS M κ (EE wi (tY K tg) t) (Mi.dv it tg m):=λH0 Hv0 e σ H Hv D I h=>
 hi e σ H Hv _ I.toR0 ((aw.mp h).mono λds h1 J H1 Hv1 P g1 O p1 per=>by
  refine⟨λi k σ' H'=>k=ds.length-i/\i<=ds.length/\∃e' Hv',R1 M H0 Hv0 e' σ' H' Hv'/\P H' Hv'/\Fin (Mi.gN tg m (ds.drop i) e') (kE M κ H0 Hv0 D Hv'),
   ⟨ds.length,by simp,eK _,e,Hv1,I.grow g1,p1,by rw[sW];exact h1.mono λo z=>z.up g1.vis⟩,?_⟩
  rintro i k σ' H' ⟨rfl,hle,e',Hv',I',pp,hf⟩;by_cases hlt:i<ds.length
  ·refine .inr ⟨O.go i H' Hv' pp I'.vw hlt,λσ2 H2=>∃e2 Hv2,R1 M H0 Hv0 e2 σ2 H2 Hv2/\P H2 Hv2/\Fin (Mi.gN tg m (ds.drop (i+1)) e2) (kE M κ H0 Hv0 D Hv2),
    λσ2 H2 z=>⟨ds.length-(i+1),by omega,rfl,hlt,z⟩,λx H2 y=>?_⟩
   obtain⟨Hv2,d,g2,hd,rx⟩:=O.yld i H' Hv' x H2 pp I'.vw hlt y;have I2:=I'.grow g2;have hdr:ds.drop i=d::ds.drop (i+1):=by obtain⟨hl,e1⟩:=ca.mp hd;rw[vq hl,e1]
   rw[hdr]at hf;refine xZ (P:=λe1 σ1=>R1 M H0 Hv0 e1 σ1 H2 Hv2) g2.vw (λj hj e1 σ1 d1 v1 r1 z=>r1.set (hm j hj) z) I2 rx ((aw.mp hf).mono λe1 h1 σ1 I1=>?_);refine hb H0 Hv0 e1 σ1 H2 Hv2 _ I1 ((aw.mp h1).mono λo ho=>?_);cases o with
   |nx e2=>exactλσ2 H3 Hv3 I3 s3=>⟨e2,Hv3,I3,per _ _ _ _ pp (g2.vis.trans s3) I3.vw,Fin.mono ho λo z=>z.up (g2.vis.trans s3)⟩
   |ct e2=>exactλσ2 H3 Hv3 I3 s3=>⟨e2,Hv3,I3,per _ _ _ _ pp (g2.vis.trans s3) I3.vw,Fin.mono ho λo z=>z.up (g2.vis.trans s3)⟩
   |bk e2=>exactλσ2 H3 Hv3 I3 s3=>ho σ2 H3 Hv3 I3 (g2.vis.trans s3)
   |rt w=>exact ho
  ·have hi:i=ds.length:=by omega
   subst hi;refine .inl ⟨O.stop H' Hv' pp I'.vw,?_⟩;rw[vt (bq _)]at hf;exact hf σ' H' Hv' I' (cg.refl _))
theorem B1{tt:TT}{c:Mi.C}(k:Nat)(hc:AT M tt c)(hb:AS M κ t m):AS M κ (Fc tt t) (Mi.lw k c m):=λH0 Hv0 e σ H Hv D I h=>by
 refine⟨λj σ' H'=>∃e' Hv',R1 M H0 Hv0 e' σ' H' Hv'/\Fin (Mi.jL c m j e') (kE M κ H0 Hv0 D Hv'),⟨k,e,Hv,I,h⟩,?_⟩;rintro j σ' H' ⟨e',Hv',I',hf⟩;cases j with
 |zero=>exact hf.elim
 |succ j=>
  refine hc e' σ' H' Hv' _ I'.toR0 ((aw.mp hf).mono λb hb' H1 Hv1 g1=>?_);cases b with
  |false=>exact md ((Mi.lA (Mi.m9 hb')) σ' H1 Hv1 (I'.grow g1) g1.vis)
  |true=>
   refine l5 ⟨λσ2 H2=>∃e2 Hv2,R1 M H0 Hv0 e2 σ2 H2 Hv2/\Fin (Mi.jL c m j e2) (kE M κ H0 Hv0 D Hv2),λσ2 H2 z=>⟨j,zU j,z⟩,?_⟩;refine hb H0 Hv0 e' σ' H1 Hv1 _ (I'.grow g1) ((aw.mp (Mi.nR hb')).mono λo ho=>?_);cases o with
   |nx e2=>exactλσ2 H2 Hv2 I2 s2=>⟨e2,Hv2,I2,Fin.mono ho λo z=>z.up (g1.vis.trans s2)⟩
   |ct e2=>exactλσ2 H2 Hv2 I2 s2=>⟨e2,Hv2,I2,Fin.mono ho λo z=>z.up (g1.vis.trans s2)⟩
   |bk e2=>exactλσ2 H2 Hv2 I2 s2=>ho σ2 H2 Hv2 I2 (g1.vis.trans s2)
   |rt w=>exact ho
end
end A
namespace A
open PySem L2 PyProof.Rows
open Mi (D W Rs Fin aw Out Tg)
variable[Tb:bG]
section
variable{M:Nat->Bool}{κ:Kd}{te:TE}{a b:Mi.E}{w:Mi.EW}{K:aD}
theorem R1.write{H0 Hv0:Hp}{e:Mi.Env}{σ:L2.St}{H Hv:Hp}(I:R1 M H0 Hv0 e σ H Hv){i:Nat}{w w':W}{p:af}{o:HO}(hm:M i=true)(he:e[i]? = aa (aa w))(hs:σ[i]? = aa (aa (.ref p)))(c:dJ Hv w' o):R1 M H0 Hv0 (e.set i (aa w')) σ (upd H p o) Hv:=by
 have hp:∃o',H p=aa o'/\Hv p=ac/\rV o':=by obtain⟨v,q,a,o',e1,q1,n,c'⟩:=I.own i w he hm;rw[hs]at q;cases q;cases e1;exact⟨o',q1,n,c'.C3⟩
 obtain⟨o',hp,hn,hcc⟩:=hp;have h0:H0 p=ac:=I.fresh i w p he hm hs;have vw:Vw (upd H p o) Hv:=by
  refine⟨λb u q=>?_,λb xs q=>?_,λb z u q=>?_,I.vw.cd.put hp hcc c.nw,I.vw.nv⟩
  ·rw[aG (cE q hn)];exact I.vw.sub b u q
  ·by_cases hb:b=p
   ·subst hb;rw[bu]at q;cases q;exact c.cell.elim
   ·rw[aG hb]at q;exact I.vw.tup b xs q
  ·by_cases hb:b=p
   ·subst hb;rw[bu]at q;cases q;exact c.cell.elim
   ·rw[aG hb]at q;exact I.vw.frz b z u q
 have get:∀{j:Nat} {w2:W},(e.set i (aa w'))[j]? = aa (aa w2)->(i=j/\w'=w2)\/(i≠j/\e[j]? = aa (aa w2)):=λ{j w2} h=>by
  rcases jW h with ⟨x,y,_⟩|z
  ·exact .inl ⟨x,fj y⟩
  ·exact .inr z
 have get':∀{j:Nat} {w2:W},(e.set i (aa w'))[j]? = aa (aa w2)->∃w3,e[j]? = aa (aa w3):=λ{j w2} h=>by
  rcases get h with ⟨x,_⟩|⟨_,z⟩
  ·subst x;exact⟨w,he⟩
  ·exact⟨w2,z⟩
 refine⟨⟨vw,by rw[kO];exact I.len,λj w2 h m=>?_,λj w2 h m=>?_⟩,⟨I.gw.old.put h0 hp,I.gw.vis,vw,I.gw.hid⟩,λj w2 x h m q=>?_,λj k w1 w2 x y hjk h1 h2 m1 m2 q1 q2=>?_⟩
 ·rcases get h with ⟨rfl,_⟩|⟨_,z⟩
  ·rw[hm]at m;cases m
  ·exact I.nob j w2 z m
 ·rcases get h with ⟨rfl,rfl⟩|⟨n,z⟩
  ·exact⟨.ref p,hs,p,o,rfl,bu,hn,c⟩
  ·obtain⟨v,q,x,u,e1,q1,n1,c1⟩:=I.own j w2 z m;subst e1;have:=I.sep i j w w2 p x n he z hm m hs q;exact⟨.ref x,q,x,u,rfl,by rw[aG (d8 this)];exact q1,n1,c1⟩
 ·obtain⟨w3,z⟩:=get' h;exact I.fresh j w3 x z m q
 ·obtain⟨w3,z3⟩:=get' h1;obtain⟨w4,z4⟩:=get' h2;exact I.sep j k w3 w4 x y hjk z3 z4 m1 m2 q1 q2
theorem R1.cell{H0 Hv0:Hp}{e:Mi.Env}{σ:L2.St}{H Hv:Hp}(I:R1 M H0 Hv0 e σ H Hv){i:Nat}{w:W}(hm:M i=true)(he:e[i]? = aa (aa w)):∃p o,σ[i]? = aa (aa (.ref p))/\H p=aa o/\Hv p=ac/\H0 p=ac/\dJ Hv w o:=by obtain⟨v,q,p,o,rfl,q1,n,c⟩:=I.own i w he hm;exact⟨p,o,q,q1,n,I.fresh i w p he hm q,c⟩
theorem mH{e:Mi.Env}{i:Nat}{k:List D->Prop}(h:Fin (Mi.getL e i) k):∃ds,e[i]? = aa (aa (.d (.lst ds)))/\k ds:=by
 unfold Mi.getL at h;split at h
 ·exact⟨_,‹_›,h⟩
 ·exact h.elim
theorem R1.list{H0 Hv0:Hp}{e:Mi.Env}{σ:L2.St}{H Hv:Hp}(I:R1 M H0 Hv0 e σ H Hv){i:Nat}{ds:List D}(hm:M i=true)(he:e[i]? = aa (aa (.d (.lst ds)))):∃p xs,σ[i]? = aa (aa (.ref p))/\H p=aa (.lst xs)/\Hv p=ac/\P2 (Rep Hv) ds xs:=by
 obtain⟨p,o,q,q1,n,_,c⟩:=I.cell hm he;cases o with
 |lst xs=>exact⟨p,xs,q,q1,n,c⟩
 |_=>exact c.elim
theorem R1.name{H0 Hv0:Hp}{e:Mi.Env}{σ:L2.St}{H Hv H1 Hv1:Hp}(I:R1 M H0 Hv0 e σ H Hv)(g:bw H Hv H1 Hv1){i:Nat}{w:W}{v:V}(hm:M i=true)(k:qN H H1 Hv1 w v):R1 M H0 Hv0 (e.set i (aa w)) (σ.set i (aa v)) H1 Hv1:=by
 obtain⟨p,o,rfl,hf,hp,hn,c⟩:=k;have I1:=I.grow g;have other:∀{j:Nat} {w2:W} {x:af},e[j]? = aa (aa w2)->M j=true->σ[j]? = aa (aa (.ref x))->x≠p:=λ{j w2 x} h m q=>by
  obtain⟨p',o',q',q1,_⟩:=I.cell m h;rw[q]at q';cases q';exact cE q1 hf
 refine⟨⟨I1.vw,by rw[kO,kO];exact I.len,λj w2 h m=>?_,λj w2 h m=>?_⟩,I1.gw,λj w2 x h m q=>?_,λj k w1 w2 x y hjk h1 h2 m1 m2 q1 q2=>?_⟩
 ·rcases jW h with ⟨rfl,_⟩|⟨n,z⟩
  ·rw[hm]at m;cases m
  ·obtain⟨u,q,r⟩:=I1.nob j w2 z m;exact⟨u,by rw[fh n];exact q,r⟩
 ·rcases jW h with ⟨rfl,h,l⟩|⟨n,z⟩
  ·cases h;exact⟨.ref p,by rw[mJ (by rw[I.len];exact l)],p,o,rfl,hp,hn,c⟩
  ·obtain⟨u,q,r⟩:=I1.own j w2 z m;exact⟨u,by rw[fh n];exact q,r⟩
 ·rcases jW h with ⟨rfl,h,l⟩|⟨n,z⟩
  ·rw[mJ (by rw[I.len];exact l)]at q;cases q;exact I.gw.old.free hf
  ·rw[fh n]at q;exact I.fresh j w2 x z m q
 ·rcases jW h1 with ⟨rfl,_,l⟩|⟨n,z⟩
  ·rw[mJ (by rw[I.len];exact l)]at q1;cases q1;rcases jW h2 with ⟨rfl,_,_⟩|⟨n2,z2⟩
   ·exact absurd rfl hjk
   ·rw[fh n2]at q2;exact d8 (other z2 m2 q2)
  ·rw[fh n]at q1;rcases jW h2 with ⟨rfl,_,l⟩|⟨n2,z2⟩
   ·rw[mJ (by rw[I.len];exact l)]at q2;cases q2;exact other z m1 q1
   ·rw[fh n2]at q2;exact I.sep j k w1 w2 x y hjk z z2 m1 m2 q1 q2
theorem lB(i:Nat)(hm:M i=true)(ha:AE M qN te a):AS M κ (jq te (gu i)) (Mi.bp i a):=λH0 Hv0 e σ H Hv D I h=>
 ha e σ H Hv _ I.toR0 ((aw.mp h).mono λd hd v H1 Hv1 g1 r=>hd _ H1 Hv1 (I.name g1 hm r) g1.vis)
theorem wT(i:Nat)(hm:M i=true)(ha:AW M qN te w):AS M κ (jq te (gu i)) (Mi.ma i w):=λH0 Hv0 e σ H Hv D I h=>
 ha e σ H Hv _ I.toR0 ((aw.mp h).mono λd hd v H1 Hv1 g1 r=>hd _ H1 Hv1 (I.name g1 hm r) g1.vis)
theorem MA:AW M qN BO (λ_=>.ok (.dk [])):=λe σ H Hv Q I h p hp=>
 h _ _ Hv (.qf I.vw trivial hp) ⟨p,.dK [],rfl,hp,bu,om I.vw hp,.nil⟩
theorem J1:AW M qN FZ (λ_=>.ok (.dt [])):=λe σ H Hv Q I h p hp=>
 h _ _ Hv (.qf I.vw trivial hp) ⟨p,.dT [],rfl,hp,bu,om I.vw hp,.nil⟩
theorem ph(i:Nat)(hm:M i=true)(ha:AE M qV te a):AS M κ (pe (pk K "list" yj (eR i) (gm te ip))) (Mi.dS i a):=λH0 Hv0 e σ H Hv D I h=>by
 obtain⟨d,hd,h⟩:=iO (aw.mp h);obtain⟨ds,he,h⟩:=mH (aw.mp h);obtain⟨hz,h⟩:=Mi.cD h;obtain⟨p,xs,q,q1,n,c⟩:=I.list hm he;refine⟨.ref p,q,.inl ⟨rfl,xs,.inl (.inl q1)⟩,ha e σ H Hv _ I.toR0 (by
  rw[hd];intro v H1 Hv1 g1 r;have I1:=I.grow g1;refine⟨p,xs,v,rfl,rfl,g1.old.at q1,by rw[<- c.len,c6];exact hz,?_⟩;exact h σ _ Hv1 (I1.write hm he q (show dJ Hv1 (.d (.lst (ds++[d]))) (.lst (xs++[v]))from(eA g1.vis c).append (.cons r .nil))) g1.vis)⟩
theorem O4(i:Nat)(hm:M i=true):AS M κ (pe (uo K "list" C0 (eR i))) (Mi.xX i):=λH0 Hv0 e σ H Hv D I h=>by
 obtain⟨ds,he,h⟩:=mH (aw.mp h);obtain⟨p,xs,q,q1,n,c⟩:=I.list hm he;exact⟨.ref p,q,.inl ⟨rfl,xs,.inl (.inl q1)⟩,p,xs,rfl,rfl,q1,h σ _ Hv (I.write hm he q (show dJ Hv (.d (.lst ds.reverse)) (.lst xs.reverse)from c.rev)) (cg.refl _)⟩
theorem OT(i:Nat)(hm:M i=true):AS M κ (pe (uo K "list" B3 (eR i))) (Mi.GK i):=λH0 Hv0 e σ H Hv D I h=>by
 obtain⟨ds,he,h⟩:=mH (aw.mp h);obtain⟨p,xs,q,q1,n,c⟩:=I.list hm he;exact⟨.ref p,q,.inl ⟨rfl,xs,.inl (.inl q1)⟩,p,xs,rfl,rfl,q1,h σ _ Hv (I.write hm he q (show dJ Hv (.d (.lst [])) (.lst [])from .nil)) (cg.refl _)⟩
theorem gD{α:Type}{o:Option α}{k:α->Prop}(h:Fin (Mi.cQ o) k):∃x,o=aa x/\k x:=by
 cases o with
 |some x=>exact⟨x,rfl,h⟩
 |none=>exact h.elim
theorem J9(x y:Nat)(hx:M x=false)(hy:M y=true):AS M κ (jq (uo K "list" FL (eR y)) (gu x)) (Mi.t0 x y):=λH0 Hv0 e σ H Hv D I h=>by
 obtain⟨ds,he,h⟩:=mH (aw.mp h);obtain⟨d,hd,h⟩:=gD (aw.mp h);obtain⟨p,xs,q,q1,n,c⟩:=I.list hy he;rw[c.len]at hd;obtain⟨v,hv,r⟩:=c.getL hd;exact⟨.ref p,q,.inl ⟨rfl,xs,.inl (.inl q1)⟩,p,xs,v,rfl,rfl,q1,hv,h _ _ Hv ((I.write hy he q (show dJ Hv (.d (.lst ds.dropLast)) (.lst xs.dropLast)from c.dropLast)).set hx r) (cg.refl _)⟩
theorem CS{n:Nat}{i:Int}{k:Nat}(h:Mi.ed n i=aa k):seqIndex? i n=aa k:=by
 unfold Mi.ed at h;split at h
 ·split at h
  ·rw[vQ (by omega) (by omega)];exact h
  ·cases h
 ·split at h
  ·rw[vP (by omega) (by omega)];exact h
  ·cases h
theorem Gg{ds:List D}{i:Int}{k:D×List D->Prop}(h:Fin (Mi.jP ds i) k):-(2 ^ 63)<=i/\i<2 ^ 63/\∃j d,Mi.ed ds.length i=aa j/\ds[j]? = aa d/\k (d,ds.eraseIdx j):=by obtain⟨⟨h1,h2⟩,h⟩:=Mi.cD h;obtain⟨j,hj,h⟩:=gD (aw.mp h);obtain⟨d,hd,h⟩:=gD (aw.mp h);exact⟨h1,h2,j,d,hj,hd,h⟩
theorem w6(x y:Nat)(hx:M x=false)(hy:M y=true)(ha:AE M qP te a):AS M κ (jq (pk K "list" yP (eR y) (gm te ip)) (gu x)) (Mi.iu x y a):=λH0 Hv0 e σ H Hv D I h=>by
 obtain⟨z,hz,h⟩:=iO (aw.mp h);obtain⟨i,rfl,h⟩:=sh (aw.mp h);obtain⟨ds,he,h⟩:=mH (aw.mp h);obtain⟨h1,h2,j,d,hj,hd,h⟩:=Gg (aw.mp h);obtain⟨p,xs,q,q1,n,c⟩:=I.list hy he;refine⟨.ref p,q,.inl ⟨rfl,xs,.inl (.inl q1)⟩,ha e σ H Hv _ I.toR0 (by
  rw[hz];intro v H1 Hv1 g1 r;have I1:=I.grow g1;cases RD.int r;obtain⟨u,hu,ru⟩:=c.getL hd;rw[c.len]at hj;refine⟨p,xs,i,j,u,rfl,rfl,g1.old.at q1,h1,h2,CS hj,hu,?_⟩;exact h _ _ Hv1 ((I1.write hy he q (show dJ Hv1 (.d (.lst (ds.eraseIdx j))) (.lst (xs.eraseIdx j))from(eA g1.vis c).erase j)).set hx (iZ g1.vis ru)) g1.vis)⟩
theorem Pd(x y:Nat)(hxy:x≠y)(hx:M x=true)(hy:M y=true)(ha:AE M qP te a):AS M κ (pe (pk K "list" yj (eR x) (gm (pk K "list" yP (eR y) (gm te ip)) ip))) (Mi.ur x y a):=λH0 Hv0 e σ H Hv D I h=>by
 obtain⟨z,hz,h⟩:=iO (aw.mp h);obtain⟨i,rfl,h⟩:=sh (aw.mp h);obtain⟨ds,he,h⟩:=mH (aw.mp h);obtain⟨h1,h2,j,d,hj,hd,h⟩:=Gg (aw.mp h);obtain⟨es,he2,h⟩:=mH (aw.mp h);obtain⟨hsz,h⟩:=Mi.cD h;have HX:e[x]? = aa (aa (.d (.lst es))):=by
  have he2:(e.set y (aa (.d (.lst (ds.eraseIdx j)))))[x]? = _:=he2
  rwa [fh (d8 hxy)]at he2
 obtain⟨p,xs,q,q1,n,c⟩:=I.list hy he;obtain⟨p',xs',q',q1',n',c'⟩:=I.list hx HX;have hpp:p'≠p:=I.sep x y _ _ p' p hxy HX he hx hy q' q;refine⟨.ref p',q',.inl ⟨rfl,xs',.inl (.inl q1')⟩,.ref p,q,.inl ⟨rfl,xs,.inl (.inl q1)⟩,ha e σ H Hv _ I.toR0 (by
  rw[hz];intro v H1 Hv1 g1 r;have I1:=I.grow g1;cases RD.int r;obtain⟨u,hu,ru⟩:=c.getL hd;rw[c.len]at hj;refine⟨p,xs,i,j,u,rfl,rfl,g1.old.at q1,h1,h2,CS hj,hu,?_⟩;have I2:=I1.write hy he q (show dJ Hv1 (.d (.lst (ds.eraseIdx j))) (.lst (xs.eraseIdx j))from(eA g1.vis c).erase j);refine⟨p',xs',u,rfl,rfl,by rw[aG hpp];exact g1.old.at q1',by rw[<- c'.len,c6];exact hsz,?_⟩;exact h σ _ Hv1 (I2.write hx he2 q' (show dJ Hv1 (.d (.lst (es++[d]))) (.lst (xs'++[u]))from(eA g1.vis c').append (.cons (iZ g1.vis ru) .nil))) g1.vis)⟩
theorem JY{tk:TE}{k:Mi.E}(x:Nat)(hx:M x=true)(ha:AE M qV te a)(hk:AE M qP tk k):AS M κ (jq te (Eb (eR x) tk DU)) (Mi.rO x k a):=λH0 Hv0 e σ H Hv D I h=>by
 obtain⟨d,hd,h⟩:=iO (aw.mp h);obtain⟨z,hz,h⟩:=iO (aw.mp h);obtain⟨i,rfl,h⟩:=sh (aw.mp h);obtain⟨ds,he,h⟩:=mH (aw.mp h);obtain⟨j,hj,h⟩:=gD (aw.mp h);obtain⟨p,xs,q,q1,n,c⟩:=I.list hx he;refine ha e σ H Hv _ I.toR0 (by
  rw[hd];intro v H1 Hv1 g1 r;refine⟨.ref p,q,hk e σ H1 Hv1 _ (I.toR0.grow g1) (by
   rw[hz];intro v2 H2 Hv2 g2 r2;cases RD.int r2;have I2:=(I.grow g1).grow g2;rw[c.len]at hj;refine⟨p,xs,i,j,rfl,rfl,g2.old.at (g1.old.at q1),hj,?_⟩;exact h σ _ Hv2 (I2.write hx he q (show dJ Hv2 (.d (.lst (ds.set j d))) (.lst (xs.set j v))from P2.set (iZ g2.vis r) j (eA (g1.trans g2).vis c))) (g1.trans g2).vis)⟩)
theorem xl(i:Nat)(hm:M i=true):AS M qN (vk (eR i)) (Mi.bH (Mi.wV i)):=λH0 Hv0 e σ H Hv D I h=>by
 obtain⟨w,he,h⟩:=rJ (aw.mp h);obtain⟨p,o,q,q1,n,h0,c⟩:=I.cell hm he;exact⟨.ref p,q,h _ H Hv I.gw ⟨p,o,rfl,h0,q1,n,c⟩⟩
theorem R1.Mq{H0 Hv0:Hp}{e:Mi.Env}{σ:L2.St}{H Hv:Hp}(I:R1 M H0 Hv0 e σ H Hv){y:Nat}{w:W}(hy:M y=true)(he:e[y]? = aa (aa w)):∃p Hv',σ[y]? = aa (aa (.ref p))/\R1 M H0 Hv0 (e.set y ac) σ H Hv'/\cg Hv Hv'/\fX Hv' w (.ref p):=by
 obtain⟨p,o,q,q1,n,h0,c⟩:=I.cell hy he;obtain⟨vw,s⟩:=I.vw.show q1 n c.nt;have nj:∀{j:Nat} {w':W},(e.set y ac)[j]? = aa (aa w')->y≠j/\e[j]? = aa (aa w'):=λ{j w'} h=>by
  rcases jW h with ⟨_,h,_⟩|z
  ·cases h
  ·exact z
 refine⟨p,upd Hv p o,q,⟨⟨vw,by rw[kO];exact I.len,λj w' h m=>?_,λj w' h m=>?_⟩,⟨I.gw.old,I.gw.vis.trans s,vw,λb u z1 z2=>?_⟩,λj w' x h m z=>?_,λj k w1 w2 x z hjk h1 h2 m1 m2 z1 z2=>?_⟩,s,vo bu (c.same s)⟩
 ·obtain⟨_,h⟩:=nj h;obtain⟨v,z,r⟩:=I.nob j w' h m;exact⟨v,z,oU s r⟩
 ·obtain⟨hne,h⟩:=nj h;obtain⟨v,z,x,u,e1,q2,n2,c2⟩:=I.own j w' h m;subst e1;have:=I.sep y j w w' p x hne he h hy m q z;exact⟨.ref x,z,x,u,rfl,q2,by rw[aG (d8 this)];exact n2,c2.same s⟩
 ·rw[aG (cE z1 h0)];exact I.gw.hid b u z1 z2
 ·exact I.fresh j w' x (nj h).2 m z
 ·exact I.sep j k w1 w2 x z hjk (nj h1).2 (nj h2).2 m1 m2 z1 z2
theorem wU{κ':Type}[DecidableEq κ']{H:Hp}{k:κ'}{ai:List (κ'×D)}{kv:List (κ'×V)}(h:dU H ai kv):match Mi.jw ai k with
 |some d=>∃v,gQ kv k=aa v/\Rep H d v
 |none=>gQ kv k=ac:=by
 unfold Mi.jw gQ
 induction h with
 |nil=>rfl
 | @cons p q l m hpq t ih=>
  rw[kP,kP,hpq.1];by_cases hk:q.1=k
  ·rw[cv hk];exact⟨q.2,rfl,hpq.2⟩
  ·rw[dj hk];exact ih
theorem Bj{κ':Type}[DecidableEq κ']{H:Hp}{k:κ'}{d:D}{v:V}(r:Rep H d v){ai:List (κ'×D)}{kv:List (κ'×V)}(h:dU H ai kv):dU H (Mi.putK k d ai) (L2.putK kv k v):=by
 have e:(ai.any λx=>decide (x.1=k))=(kv.any λx=>decide (x.1=k)):=by
  induction h with
  |nil=>rfl
  | @cons p q l m hpq t ih=>rw[iF,iF,ih,hpq.1]
 unfold Mi.putK L2.putK;rw[e];split
 ·rename_i hh;clear hh e
  induction h with
  |nil=>exact .nil
  | @cons p q l m hpq t ih=>
   rw[cW,cW];refine .cons ?_ ih
   ·by_cases hk:q.1=k
    ·rw[aN hk,aN (hpq.1.trans hk)];exact⟨hpq.1,r⟩
    ·rw[aP hk,aP (λz=>hk (hpq.1.symm.trans z))];exact hpq
 ·exact P2.append h (.cons ⟨rfl,r⟩ .nil)
end
end A
namespace A
open PySem L2 PyProof.Rows
open Mi (D W Rs Fin aw Out Tg)
variable[Tb:bG]
section
variable{X:Cx}{K:aD}
def Ny:R2:=λx y H Q=>∃i j,x=.str i/\y=.str j/\i.length+j.length<=sizeLine/\Q (.str (i++j)) H
theorem uD{ae:List (af×Obj)}{σ:L2.St}{H:Hp}{s:ao}{a:af}{xs:List V}(I:Inv X ae σ H s)(h:Lst H a xs):∃(aj:List ag) (n:Nat),Vals xs aj/\xs.length<=sizeLine/\s.heap.get? a=aa { cls:=.type "list", data:=.seq aj.toArray n }:=by
 rcases h with h|⟨o,h⟩
 ·obtain⟨z,aj,n,r,e⟩:=I.hok a _ h;exact⟨aj,n,r,z,e⟩
 ·obtain⟨_,z,aj,n,r,e⟩:=I.hok a _ h;exact⟨aj,n,r,z,e⟩
def Eu:R2:=λx y H Q=>∃l b xs zs,x=.ref l/\y=.ref b/\Lst H l xs/\Lst H b zs/\xs.length+zs.length<=sizeLine/\∀p,H p=ac->Q (.ref p) (upd H p (.lst (xs++zs)))
theorem Om:cV X (binaryOp .Add) Eu:=by
 intro ae s σ H x y v u Q I rx ry h;obtain⟨l,b,xs,zs,rfl,rfl,hH,hB,hz,q⟩:=h;cases rx;cases ry;obtain⟨aj,n,r,z,e⟩:=uD I hH;obtain⟨its2,n2,r2,z2,e2⟩:=uD I hB;have hl:=r.length;have hl2:=r2.length;refine PySem.P.add_list e e2 ?_ (by rw[cq,cq];omega);have ea:aj.toArray++its2.toArray=(aj++its2).toArray:=by simp
 rw[ea];exact⟨.ref _,_,I.Ml (t':=s.toks) (r.append r2) (by rw[cC];omega),rfl,q _ I.fresh⟩
def Co:R2:=λx y H Q=>kL (λi j=>.int (i+j)) x y H Q\/Ny x y H Q\/Eu x y H Q
theorem cL:cV X (binaryOp .Add) Co:=Pp.or (cV.or LP Om)
theorem xV{H Hv:Hp}(vw:Vw H Hv){ds:List D}{xs:List V}(r:P2 (Rep Hv) ds xs){p:af}(hp:H p=ac):bw H Hv (upd H p (.lst xs)) Hv/\qN H (upd H p (.lst xs)) Hv (.d (.lst ds)) (.ref p):=⟨.qf vw trivial hp,p,.lst xs,rfl,hp,bu,om vw hp,r⟩
theorem Gv{H Hv:Hp}(vw:Vw H Hv){ds:List D}{xs:List V}(r:P2 (Rep Hv) ds xs){p:af}(hp:H p=ac):bw H Hv (upd H p (.lst xs)) (upd Hv p (.lst xs))/\qV H (upd H p (.lst xs)) (upd Hv p (.lst xs)) (.d (.lst ds)) (.ref p):=by have g:bw H Hv (upd H p (.lst xs)) (upd Hv p (.lst xs)):=.new vw hp;exact⟨g,k3.mpr ⟨p,xs,rfl,.inl bu,eA g.vis r⟩⟩
theorem zj{H Hv:Hp}(vw:Vw H Hv){ds:List D}{xs:List V}(r:P2 (Rep Hv) ds xs){p:af}(hp:H p=ac):bw H Hv (upd H p (.tup xs)) (upd Hv p (.tup xs))/\qV H (upd H p (.tup xs)) (upd Hv p (.tup xs)) (.d (.tup ds)) (.ref p):=by have g:bw H Hv (upd H p (.tup xs)) (upd Hv p (.tup xs)):=.new vw hp;exact⟨g,iq.mpr ⟨p,xs,rfl,bu,eA g.vis r⟩⟩
theorem cM:B2 qV Co Mi.a9:=λx y v u H Hv Q vw rx ry h=>by
 cases x with
 | int i=>cases y with
  |int j=>cases RD.int rx;cases RD.int ry;exact .inl ⟨i,j,rfl,rfl,h _ H Hv (.refl vw) iB⟩
  |_=>exact h.elim
 | str i=>cases y with
  |str j=>
   cases RD.str rx;cases RD.str ry;obtain⟨hz,h⟩:=Mi.cD h;exact .inr (.inl ⟨i,j,rfl,rfl,by rw[c6];exact hz,h _ H Hv (.refl vw) qL⟩)
  |_=>exact h.elim
 | lst a=>cases y with
  |lst b=>
   obtain⟨hz,h⟩:=Mi.cD h;obtain⟨p,xs,rfl,l1,r1⟩:=RD.lst vw rx;obtain⟨q,ys,rfl,l2,r2⟩:=RD.lst vw ry;refine .inr (.inr ⟨p,q,xs,ys,rfl,rfl,l1,l2,by rw[<- r1.len,<- r2.len,c6];exact hz,λa ha=>?_⟩);obtain⟨g,k⟩:=Gv vw (r1.append r2) ha;exact h _ _ _ g k
  |_=>exact h.elim
 |_=>cases y<;>exact h.elim
theorem ud:B2 qV (kL λi j=>.int (i-j)) Mi.jS:=λx y v u H Hv Q vw rx ry h=>by
 cases x with
 | int i=>cases y with
  |int j=>cases RD.int rx;cases RD.int ry;exact⟨i,j,rfl,rfl,h _ H Hv (.refl vw) iB⟩
  |_=>exact h.elim
 |_=>cases y<;>exact h.elim
theorem fm:B2 qV (rI uz λi j=>.int (i*j)) Mi.bL:=λx y v u H Hv Q vw rx ry h=>by
 cases x with
 | int i=>cases y with
  |int j=>cases RD.int rx;cases RD.int ry;obtain⟨hz,h⟩:=Mi.cD h;exact⟨i,j,rfl,rfl,hz,h _ H Hv (.refl vw) iB⟩
  |_=>exact h.elim
 |_=>cases y<;>exact h.elim
theorem iH:B2 qV (rI EH λi j=>.int (i/j)) Mi.cx:=λx y v u H Hv Q vw rx ry h=>by
 cases x with
 | int i=>cases y with
  |int j=>cases RD.int rx;cases RD.int ry;obtain⟨hz,h⟩:=Mi.cD h;exact⟨i,j,rfl,rfl,hz,h _ H Hv (.refl vw) iB⟩
  |_=>exact h.elim
 |_=>cases y<;>exact h.elim
theorem dF:B2 qV (rI (λ_ j=>0<j) λi j=>.int (i%j)) Mi.bi:=λx y v u H Hv Q vw rx ry h=>by
 cases x with
 | int i=>cases y with
  |int j=>cases RD.int rx;cases RD.int ry;obtain⟨hz,h⟩:=Mi.cD h;exact⟨i,j,rfl,rfl,hz,h _ H Hv (.refl vw) iB⟩
  |_=>exact h.elim
 |_=>cases y<;>exact h.elim
theorem OA:B2 qV (rI B8 λi j=>.int (i ^ j.toNat)) Mi.xp:=λx y v u H Hv Q vw rx ry h=>by
 cases x with
 | int i=>cases y with
  |int j=>cases RD.int rx;cases RD.int ry;obtain⟨hz,h⟩:=Mi.cD h;exact⟨i,j,rfl,rfl,hz,h _ H Hv (.refl vw) iB⟩
  |_=>exact h.elim
 |_=>cases y<;>exact h.elim
def Ch:R2:=λx y H Q=>kL (λi j=>.bl (decide (i<j))) x y H Q\/∃i j,x=.str i/\y=.str j/\Q (.bl (decide (i.cps.toList<j.cps.toList))) H
theorem rP:cV X (compareOp .Lt) Ch:=PK.or Lz
def CM:R2:=λx y H Q=>kL (λi j=>.bl (decide (j<i))) x y H Q\/∃i j,x=.str i/\y=.str j/\Q (.bl (decide (j.cps.toList<i.cps.toList))) H
theorem x6:cV X (compareOp .Gt) CM:=KQ.or Lb
theorem sE:B2 qV Ch Mi.eG:=λx y v u H Hv Q vw rx ry h=>by
 cases x with
 | int i=>cases y with
  |int j=>cases RD.int rx;cases RD.int ry;exact .inl ⟨i,j,rfl,rfl,h _ H Hv (.refl vw) fA⟩
  |_=>exact h.elim
 | str i=>cases y with
  |str j=>cases RD.str rx;cases RD.str ry;exact .inr ⟨i,j,rfl,rfl,h _ H Hv (.refl vw) fA⟩
  |_=>exact h.elim
 |_=>cases y<;>exact h.elim
theorem x9:B2 qV CM Mi.nH:=λx y v u H Hv Q vw rx ry h=>by
 cases x with
 | int i=>cases y with
  |int j=>cases RD.int rx;cases RD.int ry;exact .inl ⟨i,j,rfl,rfl,h _ H Hv (.refl vw) fA⟩
  |_=>exact h.elim
 | str i=>cases y with
  |str j=>cases RD.str rx;cases RD.str ry;exact .inr ⟨i,j,rfl,rfl,h _ H Hv (.refl vw) fA⟩
  |_=>exact h.elim
 |_=>cases y<;>exact h.elim
def vm(K:aD)(neg:Bool):R2:=λx y H Q=>∃d e,L2.Rep K H d x/\L2.Rep K H e y/\d.dep<=16/\Q (.bl (if neg then !Mi.bD d e else Mi.bD d e)) H
theorem gO:B2 qV (vm K false) Mi.bY:=λx y v u H Hv Q vw rx ry h=>by
 obtain⟨hz,h⟩:=Mi.cD h;exact⟨x,y,lg K (RD.full vw rx),lg K (RD.full vw ry),hz,h _ H Hv (.refl vw) fA⟩
theorem pU:B2 qV (vm K true) Mi.fO:=λx y v u H Hv Q vw rx ry h=>by
 obtain⟨hz,h⟩:=Mi.cD h;exact⟨x,y,lg K (RD.full vw rx),lg K (RD.full vw ry),hz,h _ H Hv (.refl vw) fA⟩
def EX(K:aD):R2:=λx y H Q=>uN K false x y H Q\/Cb false x y H Q
theorem uk(hu:X.A.units+64<cLine):cV X (compareOp .In) (EX X.K):=(IV hu).or LS
theorem ua{H:Hp}{ds:List D}{xs:List V}(h:P2 (Rep H) ds xs):L2.bj K H ds xs:=vn K (oa.mpr h)
theorem tZ:B2 qV (EX K) Mi.fM:=λx y v u H Hv Q vw rx ry h=>by
 cases y with
 |lst ds=>
  obtain⟨hz,h⟩:=Mi.cD h;obtain⟨p,xs,rfl,l1,r1⟩:=RD.lst vw ry;exact .inl ⟨p,xs,x,ds,rfl,.inl l1.sq,lg K (RD.full vw rx),ua (eA vw.sub r1),hz,h _ H Hv (.refl vw) fA⟩
 |tup ds=>
  obtain⟨hz,h⟩:=Mi.cD h;obtain⟨p,xs,rfl,l1,_,r1⟩:=RD.tup vw ry;exact .inl ⟨p,xs,x,ds,rfl,.inr (.inl (.inl l1)),lg K (RD.full vw rx),ua (eA vw.sub r1),hz,h _ H Hv (.refl vw) fA⟩
 | str z=>cases x with
  |str c=>
   obtain⟨hz,h⟩:=Mi.cD h;cases RD.str rx;cases RD.str ry;obtain⟨⟨l⟩⟩:=c
   match l,hz with
   |[c],_=>exact .inr ⟨c,z,rfl,rfl,h _ H Hv (.refl vw) fA⟩
  |_=>exact h.elim
 |_=>exact h.elim
theorem pf:B2 qV (uN K true) Mi.e5:=λx y v u H Hv Q vw rx ry h=>by
 cases y with
 |lst ds=>
  obtain⟨hz,h⟩:=Mi.cD h;obtain⟨p,xs,rfl,l1,r1⟩:=RD.lst vw ry;exact⟨p,xs,x,ds,rfl,.inl l1.sq,lg K (RD.full vw rx),ua (eA vw.sub r1),hz,h _ H Hv (.refl vw) fA⟩
 |tup ds=>
  obtain⟨hz,h⟩:=Mi.cD h;obtain⟨p,xs,rfl,l1,_,r1⟩:=RD.tup vw ry;exact⟨p,xs,x,ds,rfl,.inr (.inl (.inl l1)),lg K (RD.full vw rx),ua (eA vw.sub r1),hz,h _ H Hv (.refl vw) fA⟩
 |_=>exact h.elim
theorem Kf{α:Type}(xs:List α)(i:Int):Mi.dg xs i=L2.dg xs i:=rfl
theorem DS{α β:Type}{F:α->β->Prop}{l:List α}{m:List β}(h:P2 F l m){i:Int}{a:α}(e:Mi.dg l i=aa a):∃b,L2.dg m i=aa b/\F a b:=by
 unfold Mi.dg at e;cases hj:Mi.ed l.length i with
 |none=>rw[hj]at e;cases e
 |some j=>
  rw[hj]at e;have e:l[j]? = aa a:=e;obtain⟨b,hb,r⟩:=h.getL e;refine⟨b,?_,r⟩;rw[<- Kf];unfold Mi.dg;rw[<- h.len,hj];exact hb
theorem bX:B2 qV (yT K) Mi.aO:=λx y v u H Hv Q vw rx ry h=>by
 cases y with
 |int i=>
  cases RD.int ry;cases x with
  |lst ds=>
   obtain⟨d,e,h⟩:=gD h;obtain⟨p,xs,rfl,l1,r1⟩:=RD.lst vw rx;obtain⟨z,ez,rz⟩:=DS r1 e;exact .inl ⟨p,xs,i,z,rfl,rfl,l1.sq,ez,h z H Hv (.refl vw) rz⟩
  |tup ds=>
   obtain⟨d,e,h⟩:=gD h;obtain⟨p,xs,rfl,l1,_,r1⟩:=RD.tup vw rx;obtain⟨z,ez,rz⟩:=DS r1 e;exact .inr (.inl ⟨p,xs,i,z,rfl,rfl,.inl (.inl l1),ez,h z H Hv (.refl vw) rz⟩)
  |str z=>
   cases RD.str rx;obtain⟨hz,h⟩:=Mi.cD h;obtain⟨c,e,h⟩:=gD (aw.mp h);exact .inr (.inr ⟨z,i,c,rfl,rfl,by rw[c6];exact hz,e,h _ H Hv (.refl vw) qL⟩)
  |_=>exact h.elim
 |_=>cases x<;>exact h.elim
theorem NY{F:D->V->Prop}{l:List D}{m:List V}(h:P2 F l m)(lo hi:Option Int):P2 F (Mi.jp l lo hi) (L2.o0 m lo hi):=by unfold Mi.jp L2.o0;rw[h.len];exact(h.drop _).take _
def DX(K:aD):V->Option Int->Option Int->Hp->VK->Prop:=λx lo hi H Q=>Dp K x lo hi H Q\/Ee x lo hi H Q
theorem pI:lX X (DX X.K):=LU.or JD
theorem MQ(z:Str)(lo hi:Option Int):pZ z lo hi=Mi.l0 z lo hi:=by
 unfold pZ Mi.l0 Mi.jp;have:z.cps.toList.length=z.length:=by simp[oF]
 rw[this];rfl
theorem pN:BS qV (DX K) Mi.ik:=λx lo hi v H Hv Q vw rx h=>by
 cases x with
 |lst ds=>
  obtain⟨p,xs,rfl,l1,r1⟩:=RD.lst vw rx;refine .inl ⟨p,xs,rfl,l1.sq,λa ha=>?_⟩;obtain⟨g,k⟩:=Gv vw (NY r1 lo hi) ha;exact h _ _ _ g k
 |str z=>
  cases RD.str rx;obtain⟨hz,h⟩:=Mi.cD h;exact .inr ⟨z,rfl,by rw[c6];exact hz,h _ H Hv (.refl vw) (by rw[MQ];exact qL)⟩
 |_=>exact h.elim
theorem mh{F:D->V->Prop}{d:D}{vs:List V}(h:P2 F [d] vs):∃v,vs=[v]/\F d v:=by
 cases h with
 |cons r t=>cases t;exact⟨_,rfl,r⟩
theorem B6{F:D->V->Prop}{d e:D}{vs:List V}(h:P2 F [d,e] vs):∃v u,vs=[v,u]/\F d v/\F e u:=by
 cases h with
 | cons r t=>cases t with
  |cons r' t=>cases t;exact⟨_,_,rfl,r,r'⟩
def GG(K:aD):List V->Hp->VK->Prop:=λxs H Q=>∃x n,xs=[x]/\Bo K x H n/\Q (.int n) H
theorem jj:fU X (.builtin "len") (GG X.K):=Nm
theorem dZ:BN qV (GG K) Mi.cS:=λds vs H Hv Q vw r h=>by
 match ds,r,h with
 |[.lst ds],r,h=>
  obtain⟨v,ev,rr⟩:=mh r;subst ev;replace r:=rr;obtain⟨p,xs,rfl,l1,r1⟩:=RD.lst vw r;refine⟨_,xs.length,rfl,.inl ⟨xs,l1.sq,rfl⟩,?_⟩;rw[<- r1.len];exact h _ H Hv (.refl vw) iB
 |[.tup ds],r,h=>
  obtain⟨v,ev,rr⟩:=mh r;subst ev;replace r:=rr;obtain⟨p,xs,rfl,l1,_,r1⟩:=RD.tup vw r;refine⟨_,xs.length,rfl,.inr ⟨xs,.inl (.inl l1),rfl⟩,?_⟩;rw[<- r1.len];exact h _ H Hv (.refl vw) iB
 |[.str z],r,h=>
  obtain⟨v,ev,rr⟩:=mh r;subst ev;replace r:=rr;cases RD.str r;obtain⟨hz,h⟩:=Mi.cD h;exact⟨_,z.length,rfl,⟨by rw[c6];exact hz,rfl⟩,h _ H Hv (.refl vw) iB⟩
def FR:List V->Hp->VK->Prop:=λxs H Q=>∃i j z,xs=[.int i,.int j]/\max i j=z/\Q (.int z) H
def Cm:List V->Hp->VK->Prop:=λxs H Q=>∃i j z,xs=[.int i,.int j]/\min i j=z/\Q (.int z) H
theorem Fj(hc:X.calm=true):fU X (.builtin "max") FR:=N6 hc
theorem Mw(hc:X.calm=true):fU X (.builtin "min") Cm:=Nk hc
theorem rW:BN qV FR Mi.iV:=λds vs H Hv Q vw r h=>by
 match ds,r,h with
 |[.int i,.int j],r,h=>
  obtain⟨v,u,ev,rr,r'⟩:=B6 r;subst ev;replace r:=rr;cases RD.int r;cases RD.int r';exact⟨i,j,_,rfl,rfl,h _ H Hv (.refl vw) iB⟩
theorem y4:BN qV Cm Mi.mE:=λds vs H Hv Q vw r h=>by
 match ds,r,h with
 |[.int i,.int j],r,h=>
  obtain⟨v,u,ev,rr,r'⟩:=B6 r;subst ev;replace r:=rr;cases RD.int r;cases RD.int r';exact⟨i,j,_,rfl,rfl,h _ H Hv (.refl vw) iB⟩
theorem Ez{Hv:Hp}:∀{ds:List D} {xs:List V} {bs:List Bool},Mi.jI ds=aa bs->P2 (Rep Hv) ds xs->xs=bs.map V.bl
 |[],_,bs,e,r=>by cases e;cases r;rfl
 |.bl b::ds,_,bs,e,r=>by
  cases r with
  |cons x t=>
   cases hb:Mi.jI ds with
   |none=>rw[Mi.jI,hb]at e;cases e
   |some cs=>
    rw[Mi.jI,hb]at e;cases e;rw[Ez hb t,nN.mp x];rfl
 |.non::_,_,_,e,_=>by cases e
 |.int _::_,_,_,e,_=>by cases e
 |.str _::_,_,_,e,_=>by cases e
 |.lst _::_,_,_,e,_=>by cases e
 |.tup _::_,_,_,e,_=>by cases e
theorem xB:BN qV (CP K (·.any id)) Mi.wz:=λds vs H Hv Q vw r h=>by
 match ds,r,h with
 |[.lst ds],r,h=>
  obtain⟨v,ev,rr⟩:=mh r;subst ev;replace r:=rr;obtain⟨bs,e,h⟩:=gD (aw.mp h);obtain⟨p,xs,rfl,l1,r1⟩:=RD.lst vw r;have:=Ez e r1;subst this;exact⟨p,bs,rfl,l1.sq,h _ H Hv (.refl vw) fA⟩
def F8(K:aD):List V->Hp->VK->Prop:=λxs H Q=>∃p ys,xs=[.ref p]/\(c9 K H p ys\/eQ K H p ys)/\∀l,H l=ac->Q (.ref l) (upd H l (.lst ys))
theorem pQ:fU X (.type "list") (F8 X.K):=No
theorem gB:BN qN (F8 K) Mi.kn:=λds vs H Hv Q vw r h=>by
 match ds,r,h with
 |[.lst ds],r,h=>
  obtain⟨v,ev,rr⟩:=mh r;subst ev;replace r:=rr;obtain⟨p,xs,rfl,l1,r1⟩:=RD.lst vw r;refine⟨p,xs,rfl,.inl l1.sq,λa ha=>?_⟩;obtain⟨g,k⟩:=xV vw r1 ha;exact h _ _ _ g k
 |[.tup ds],r,h=>
  obtain⟨v,ev,rr⟩:=mh r;subst ev;replace r:=rr;obtain⟨p,xs,rfl,l1,_,r1⟩:=RD.tup vw r;refine⟨p,xs,rfl,.inr (.inl (.inl l1)),λa ha=>?_⟩;obtain⟨g,k⟩:=xV vw r1 ha;exact h _ _ _ g k
def Dw(K:aD):List V->Hp->VK->Prop:=λxs H Q=>∃p ys,xs=[.ref p]/\((c9 K H p ys/\∀l,H l=ac->Q (.ref l) (upd H l (.tup ys)))\/(eQ K H p ys/\Q (.ref p) H))
theorem ug:fU X (.type "tuple") (Dw X.K):=Oj
theorem kj:BN qV (Dw K) Mi.oP:=λds vs H Hv Q vw r h=>by
 match ds,r,h with
 |[.lst ds],r,h=>
  obtain⟨v,ev,rr⟩:=mh r;subst ev;replace r:=rr;obtain⟨p,xs,rfl,l1,r1⟩:=RD.lst vw r;refine⟨p,xs,rfl,.inl ⟨l1.sq,λa ha=>?_⟩⟩;obtain⟨g,k⟩:=zj vw r1 ha;exact h _ _ _ g k
 |[.tup ds],r,h=>
  obtain⟨v,ev,rr⟩:=mh r;subst ev;replace r:=rr;obtain⟨p,xs,rfl,l1,l2,r1⟩:=RD.tup vw r;exact⟨p,xs,rfl,.inr ⟨.inl (.inl l1),h _ H Hv (.refl vw) (iq.mpr ⟨p,xs,rfl,l2,r1⟩)⟩⟩
end
end A
namespace A
open PySem L2 PyProof.Rows
open Mi (D W Rs Fin aw Out Tg)
variable[Tb:bG]
section
variable{X:Cx}{ae:List (af×Obj)}{σ:L2.St}{H:Hp}{s:ao}
open SeqAt in
theorem ND:∀{d e:D} {A:bx} {x y:V} {u u':ag},d.flat=true->e.flat=true->L2.Rep X.K H d x->L2.Rep X.K H e y->RelV x u->RelV y u'->RcAt A s u u' (Mi.bD d e)/\RcNeAt A s u u' (!Mi.bD d e):=by
 intro d e A x y u u' h1 h2 r1 r2 q1 q2;cases d with
 |non=>
  rw[L2.Rep]at r1;subst r1;cases q1;cases e with
  |non=>rw[L2.Rep]at r2;subst r2;cases q2;exact⟨RcAt.none_none,RcNeAt.none_none⟩
  |bl b=>rw[L2.Rep]at r2;subst r2;cases q2;exact⟨RcAt.none_bool b,RcNeAt.none_bool b⟩
  |int b=>rw[L2.Rep]at r2;subst r2;obtain⟨t,rfl⟩:=q2;exact⟨RcAt.none_int b t,RcNeAt.none_int b t⟩
  |str b=>rw[L2.Rep]at r2;subst r2;obtain⟨t,rfl⟩:=q2;exact⟨RcAt.none_str b t,RcNeAt.none_str b t⟩
  |_=>cases h2
 |bl a=>
  rw[L2.Rep]at r1;subst r1;cases q1;cases e with
  |non=>rw[L2.Rep]at r2;subst r2;cases q2;exact⟨RcAt.bool_none a,RcNeAt.bool_none a⟩
  |bl b=>rw[L2.Rep]at r2;subst r2;cases q2;rw[Mi.bD];exact⟨RcAt.bool_bool a b,RcNeAt.bool_bool a b⟩
  |int b=>rw[L2.Rep]at r2;subst r2;obtain⟨t,rfl⟩:=q2;rw[Mi.bD];exact⟨RcAt.bool_int a b t,RcNeAt.bool_int a b t⟩
  |str b=>rw[L2.Rep]at r2;subst r2;obtain⟨t,rfl⟩:=q2;exact⟨RcAt.bool_str a b t,RcNeAt.bool_str a b t⟩
  |_=>cases h2
 |int a=>
  rw[L2.Rep]at r1;subst r1;obtain⟨t1,rfl⟩:=q1;cases e with
  |non=>rw[L2.Rep]at r2;subst r2;cases q2;exact⟨RcAt.int_none a t1,RcNeAt.int_none a t1⟩
  |bl b=>rw[L2.Rep]at r2;subst r2;cases q2;rw[Mi.bD];exact⟨RcAt.int_bool a t1 b,RcNeAt.int_bool a t1 b⟩
  |int b=>rw[L2.Rep]at r2;subst r2;obtain⟨t,rfl⟩:=q2;rw[Mi.bD];exact⟨RcAt.int_int a t1 b t,RcNeAt.int_int a t1 b t⟩
  |str b=>rw[L2.Rep]at r2;subst r2;obtain⟨t,rfl⟩:=q2;exact⟨RcAt.int_str a t1 b t,RcNeAt.int_str a t1 b t⟩
  |_=>cases h2
 |str a=>
  rw[L2.Rep]at r1;subst r1;obtain⟨t1,rfl⟩:=q1;cases e with
  |non=>rw[L2.Rep]at r2;subst r2;cases q2;exact⟨RcAt.str_none a t1,RcNeAt.str_none a t1⟩
  |bl b=>rw[L2.Rep]at r2;subst r2;cases q2;exact⟨RcAt.str_bool a t1 b,RcNeAt.str_bool a t1 b⟩
  |int b=>rw[L2.Rep]at r2;subst r2;obtain⟨t,rfl⟩:=q2;exact⟨RcAt.str_int a t1 b t,RcNeAt.str_int a t1 b t⟩
  |str b=>rw[L2.Rep]at r2;subst r2;obtain⟨t,rfl⟩:=q2;rw[Mi.bD];exact⟨RcAt.str_str a t1 b t,RcNeAt.str_str a t1 b t⟩
  |_=>cases h2
 |_=>cases h1
open SeqAt in
theorem BK(I:Inv X ae σ H s):∀(d e:D) (A:bx) {x y:V} {u u':ag},d.dep<=16->A.units+17<cLine->L2.Rep X.K H d x->L2.Rep X.K H e y->RelV x u->RelV y u'->RcAt A s u u' (Mi.bD d e)/\RcNeAt A s u u' (!Mi.bD d e):=by
 intro d e A x y u u' hd hu h h' r r';have hu0:A.units<cLine:=by omega
 have item:∀{ds es:List D} {xs ys:List V} {aj its':List ag},Mi.dr ds<=16->L2.bj X.K H ds xs->L2.bj X.K H es ys->Vals xs aj->Vals ys its' ->
  ∀j (h1:j<aj.toArray.size) (h2:j<its'.toArray.size),EqAt A.in1 s aj.toArray[j] its'.toArray[j] (Mi.bD (ds.getD j .non) (es.getD j .non)):=by
  intro ds es xs ys aj its' hn q q' v v' j h1 h2;have h1':j<aj.length:=by simpa using h1
  have h2':j<its'.length:=by simpa using h2
  have e1:j<xs.length:=by rw[v.length];exact h1'
  have e2:j<ys.length:=by rw[v'.length];exact h2'
  have g1:xs[j]? = aa xs[j]:=by simp[e1]
  have g2:ys[j]? = aa ys[j]:=by simp[e2]
  obtain⟨w1,k1,r1⟩:=v.get g1;obtain⟨w2,k2,r2⟩:=v'.get g2;have t1:aj.toArray[j]=w1:=by obtain⟨_,k1⟩:=ca.mp k1;simpa using k1
  have t2:its'.toArray[j]=w2:=by obtain⟨_,k2⟩:=ca.mp k2;simpa using k2
  rw[t1,t2];have:=xM (ds:=ds) (j:=j);refine CK I 16 _ _ A.in1 (by omega) ?_ (q.get g1) (q'.get g2) r1 r2;show A.units+1+16<cLine;omega
 by_cases hdf:d.flat=true
 ·by_cases hef:e.flat=true
  ·exact ND hdf hef h h' r r'
  ·cases e with
   |lst es=>
    rw[L2.Rep]at h';obtain⟨a,xs,rfl,q,_⟩:=h';cases r';obtain⟨aj,_,p,_⟩:=I.list q;cases d with
    |non=>rw[L2.Rep]at h;subst h;cases r;exact⟨RcAt.none_list p.isList hu0,RcNeAt.none_list p.isList hu0⟩
    |bl b=>rw[L2.Rep]at h;subst h;cases r;exact⟨RcAt.bool_list b p.isList hu0,RcNeAt.bool_list b p.isList hu0⟩
    |int b=>rw[L2.Rep]at h;subst h;obtain⟨t,rfl⟩:=r;exact⟨RcAt.int_list b t p.isList hu0,RcNeAt.int_list b t p.isList hu0⟩
    |str b=>rw[L2.Rep]at h;subst h;obtain⟨t,rfl⟩:=r;exact⟨RcAt.str_list b t p.isList hu0,RcNeAt.str_list b t p.isList hu0⟩
    |_=>cases hdf
   |tup es=>
    rw[L2.Rep]at h';obtain⟨a,xs,rfl,q,_⟩:=h';cases r';obtain⟨aj,_,p,_⟩:=I.tuple q;cases d with
    |non=>rw[L2.Rep]at h;subst h;cases r;exact⟨RcAt.none_tuple p hu0,RcNeAt.none_tuple p hu0⟩
    |bl b=>rw[L2.Rep]at h;subst h;cases r;exact⟨RcAt.bool_tuple b p hu0,RcNeAt.bool_tuple b p hu0⟩
    |int b=>rw[L2.Rep]at h;subst h;obtain⟨t,rfl⟩:=r;exact⟨RcAt.int_tuple b t p hu0,RcNeAt.int_tuple b t p hu0⟩
    |str b=>rw[L2.Rep]at h;subst h;obtain⟨t,rfl⟩:=r;exact⟨RcAt.str_tuple b t p hu0,RcNeAt.str_tuple b t p hu0⟩
    |_=>cases hdf
   |_=>exact absurd rfl hef
 ·cases d with
  |lst ds=>
   rw[L2.Rep]at h;obtain⟨a,xs,rfl,q,rr⟩:=h;cases r;obtain⟨aj,v,p,_⟩:=I.list q;have hn:Mi.dr ds<=16:=by rw[Mi.D.dep]at hd;omega
   cases e with
   |non=>rw[L2.Rep]at h';subst h';cases r';exact⟨RcAt.list_none p.isList hu0,RcNeAt.list_none p.isList hu0⟩
   |bl b=>rw[L2.Rep]at h';subst h';cases r';exact⟨RcAt.list_bool b p.isList hu0,RcNeAt.list_bool b p.isList hu0⟩
   |int b=>rw[L2.Rep]at h';subst h';obtain⟨t,rfl⟩:=r';exact⟨RcAt.list_int b t p.isList hu0,RcNeAt.list_int b t p.isList hu0⟩
   |str b=>rw[L2.Rep]at h';subst h';obtain⟨t,rfl⟩:=r';exact⟨RcAt.list_str b t p.isList hu0,RcNeAt.list_str b t p.isList hu0⟩
   |lst es=>
    rw[L2.Rep]at h';obtain⟨b,ys,rfl,q',rr'⟩:=h';cases r';obtain⟨its',v',p',_⟩:=I.list q';have l1:=rr.length;have l2:=rr'.length;have l3:=v.length;have l4:=v'.length;by_cases hl:ds.length=es.length
    ·rw[Mi.bD,rT hl];have e1:aj.toArray.size=ds.length:=by simp;omega
     have k1:=RcAt.lists p.isList p'.isList (by simp;omega) hu0 (item hn rr rr' v v');have k2:=RcNeAt.lists p.isList p'.isList (by simp;omega) hu0 (item hn rr rr' v v');rw[e1]at k1 k2;exact⟨k1,k2⟩
    ·rw[Mi.bD,rf hl];exact⟨RcAt.lists_lengths p.isList p'.isList (by simp;omega) hu0,RcNeAt.lists_lengths p.isList p'.isList (by simp;omega) hu0⟩
   |tup es=>
    rw[L2.Rep]at h';obtain⟨b,ys,rfl,q',_⟩:=h';cases r';obtain⟨its',_,p',_⟩:=I.tuple q';exact⟨RcAt.list_tuple p.isList p' hu0,RcNeAt.list_tuple p.isList p' hu0⟩
  |tup ds=>
   rw[L2.Rep]at h;obtain⟨a,xs,rfl,q,rr⟩:=h;cases r;obtain⟨aj,v,p,_⟩:=I.tuple q;have hn:Mi.dr ds<=16:=by rw[Mi.D.dep]at hd;omega
   cases e with
   |non=>rw[L2.Rep]at h';subst h';cases r';exact⟨RcAt.tuple_none p hu0,RcNeAt.tuple_none p hu0⟩
   |bl b=>rw[L2.Rep]at h';subst h';cases r';exact⟨RcAt.tuple_bool b p hu0,RcNeAt.tuple_bool b p hu0⟩
   |int b=>rw[L2.Rep]at h';subst h';obtain⟨t,rfl⟩:=r';exact⟨RcAt.tuple_int b t p hu0,RcNeAt.tuple_int b t p hu0⟩
   |str b=>rw[L2.Rep]at h';subst h';obtain⟨t,rfl⟩:=r';exact⟨RcAt.tuple_str b t p hu0,RcNeAt.tuple_str b t p hu0⟩
   |tup es=>
    rw[L2.Rep]at h';obtain⟨b,ys,rfl,q',rr'⟩:=h';cases r';obtain⟨its',v',p',_⟩:=I.tuple q';have l1:=rr.length;have l2:=rr'.length;have l3:=v.length;have l4:=v'.length;have k1:=RcAt.tuples p p' hu0 (item hn rr rr' v v');have k2:=RcNeAt.tuples p p' hu0 (item hn rr rr' v v');have e1:aj.toArray.size=ds.length:=by simp;omega
    have e2:its'.toArray.size=es.length:=by simp;omega
    rw[e1,e2]at k1 k2;by_cases hl:ds.length=es.length
    ·rw[Mi.bD,rT hl];rw[hl,Nat.min_self,ig,Bool.and_true,<- hl]at k1 k2;exact⟨k1,k2⟩
    ·rw[Mi.bD,rf hl];have:(ds.length==es.length)=false:=by simpa using hl
     rw[this,zW]at k1 k2;exact⟨k1,k2⟩
   |lst es=>
    rw[L2.Rep]at h';obtain⟨b,ys,rfl,q',_⟩:=h';cases r';obtain⟨its',_,p',_⟩:=I.list q';exact⟨RcAt.tuple_list p p'.isList hu0,RcNeAt.tuple_list p p'.isList hu0⟩
  |_=>exact absurd rfl hdf
theorem gP(hu:X.A.units+64<cLine):cV X (compareOp .Eq) (vm X.K false):=by intro ae s σ H x y v u Q I rx ry h;obtain⟨d,e,r1,r2,hz,q⟩:=h;exact(BK I d e X.A hz (by omega) r1 r2 rx ry).1 _ _ _ _ ⟨.bl _,H,I,rfl,q⟩
theorem pP(hu:X.A.units+64<cLine):cV X (compareOp .NotEq) (vm X.K true):=by intro ae s σ H x y v u Q I rx ry h;obtain⟨d,e,r1,r2,hz,q⟩:=h;exact(BK I d e X.A hz (by omega) r1 r2 rx ry).2 _ _ _ _ ⟨.bl _,H,I,rfl,q⟩
end
section
variable{X:Cx}{K:aD}{M:Nat->Bool}{κ:Kd}{ta tb te:TE}{a b:Mi.E}
theorem Ft{H Hv:Hp}(vw:Vw H Hv){d:D}{v:V}(r:RD H Hv d v):gE K H v (.type (Mi.yq d)):=by
 cases d with
 |non=>cases RD.non r;exact .non
 |bl b=>cases RD.bl r;exact .bl b
 |int b=>cases RD.int r;exact .int b
 |str b=>cases RD.str r;exact .str b
 |lst ds=>
  obtain⟨p,xs,rfl,l,_⟩:=RD.lst vw r;rcases l with l|⟨o,l⟩
  ·exact .lst l
  ·exact .frz l
 |tup ds=>
  obtain⟨p,xs,rfl,l,_⟩:=RD.tup vw r;exact .tup l
def jT(K:aD)(T:String):Prop:=∀d:D,zK K (.type (Mi.yq d)) (.type T)=aa (Mi.oQ T d)
theorem lj{T:String}(hT:jT K T)(ha:AE M qP ta a):AE M qV (qY (Gq K) (gm ta (gm (tC (.ty T)) ip))) (Mi.m1 (Mi.cP [T]) a):=λe σ H Hv Q I h=>
 ha e σ H Hv _ I ((aw.mp h).mono λx hx v H1 Hv1 g1 rx=>⟨v,_,T,_,rfl,Ft g1.vw rx,hT x,(Mi.lA hx) _ H1 Hv1 g1 (by
  have:([T].any λt=>Mi.oQ t x)=Mi.oQ T x:=by simp
  rw[this];exact fA)⟩)
theorem ty_bool(K:aD):jT K "bool" := λd=>by cases d<;>rfl
theorem ty_int(K:aD):jT K "int" := λd=>by cases d<;>rfl
theorem ty_str(K:aD):jT K "str" := λd=>by cases d<;>rfl
theorem ty_list(K:aD):jT K "list" := λd=>by cases d<;>rfl
theorem ty_tuple(K:aD):jT K "tuple" := λd=>by cases d<;>rfl
end
end A
namespace A
open PySem L2 PyProof.Rows
open Mi (D W Rs Fin aw Out Tg)
variable[Tb:bG]
def Mo(l:List Nat):Nat->Bool:=λi=>l.contains i
theorem Ge{M:Nat->Bool}{N:List Str}{k:Nat}{ws:List W}{vs:List V}{H Hv:Hp}(vw:Vw H Hv)(p:P2 (fX Hv) ws vs)(hk:ws.length=k)(hM:∀i,i<k->M i=false) :
 R1 M H Hv (ws.map aa++dq (N.length-ws.length) ac) (start N vs) H Hv:=by
 have get:∀{i:Nat} {w:W},(ws.map aa++dq (N.length-ws.length) ac)[i]? = aa (aa w)->ws[i]? = aa w/\i<k:=λ{i w} h=>by
  by_cases hi:i<ws.length
  ·rw[zo (by simpa using hi),cZ]at h;cases e:ws[i]? with
   |none=>rw[e]at h;cases h
   |some a=>rw[e]at h;cases h;exact⟨rfl,by omega⟩
  ·rw[GO (by simpa using hi),GQ]at h;split at h<;>cases h
 have no:∀{i:Nat} {w:W},(ws.map aa++dq (N.length-ws.length) ac)[i]? = aa (aa w)->M i=true->False:=λ{i w} h m=>by
  rw[hM i (get h).2]at m;cases m
 refine⟨⟨vw,?_,λi w h m=>?_,λi w h m=>(no h m).elim⟩,.refl vw,λi w a h m=>(no h m).elim,λi j w w' a b _ h _ m=>(no h m).elim⟩
 ·unfold L2.start;rw[cC,cC,aQ,aQ,zt,zt,p.len]
 ·obtain⟨hw,hi⟩:=get h;obtain⟨v,hv,r⟩:=p.getL hw;refine⟨v,?_,r⟩;unfold L2.start;rw[zo (by rw[aQ,<- p.len];omega),cZ,hv];rfl
theorem Cr{f:Mi.S}{k n:Nat}{vs:List V}{H:Hp}{Q:VK}{E:XK}(h:au (Mi.dG k n f) vs H Q E):vs.length=k:=by obtain⟨Hv,ws,_,p,q⟩:=h;rw[<- p.len];exact(Mi.cD q).1
theorem uY{f:Mi.S}{k n:Nat}{vs:List V}{H:Hp}{Q:VK}{E:XK}(h:cO (Mi.fL k n f) vs H Q E):vs.length=k:=by obtain⟨Hv,ws,_,p,q⟩:=h;rw[<- p.len];exact(Mi.cD q).1
theorem BZ{N:List Str}{M:Nat->Bool}{k:Nat}{t:TS}{m:Mi.S}(hA:AS M qV t m)(hM:∀i,i<k->M i=false){vs:List V}{H:Hp}{Q:VK}{E:XK}(h:au (Mi.dG k N.length m) vs H Q E) :
 t { nx:=λ_ H'=>Q .non H',rt:=Q } (start N vs) H:=by
 obtain⟨Hv,ws,vw,p,q⟩:=h;obtain⟨hk,q⟩:=Mi.cD q;refine hA H Hv _ _ H Hv _ (Ge vw p hk hM) ((aw.mp q).mono λo ho=>?_);cases o with
 |nx e=>exactλσ H' Hv' I s=>ho _ H' Hv' I.gw Bp
 |rt w=>exactλv H' Hv' g r=>ho v H' Hv' g r
 |bk e=>exact ho.elim
 |ct e=>exact ho.elim
theorem runN{N:List Str}{M:Nat->Bool}{k:Nat}{t:TS}{m:Mi.S}(hA:AS M qN t m)(hM:∀i,i<k->M i=false){vs:List V}{H:Hp}{Q:VK}{E:XK}(h:cO (Mi.fL k N.length m) vs H Q E) :
 t { nx:=λ_ H'=>Q .non H',rt:=Q } (start N vs) H:=by
 obtain⟨Hv,ws,vw,p,q⟩:=h;obtain⟨hk,q⟩:=Mi.cD q;refine hA H Hv _ _ H Hv _ (Ge vw p hk hM) ((aw.mp q).mono λo ho=>?_);cases o with
 |rt w=>exactλv H' Hv' g r=>ho v H' Hv' g r
 |nx e=>exact ho.elim
 |bk e=>exact ho.elim
 |ct e=>exact ho.elim
theorem Jh{P:bh}{w:a6}{K:aD}{mg:Str->Option ag}{base:aJ}{CX:f7}{k:Nat}{f:af}{fd:bF}{ps:List Str}:bE P w K mg base CX k f fd ps (au Mi.DE):=⟨λvs H Q E h=>by obtain⟨_,_,_,_,q⟩:=h;exact q.elim,λA outer s H args us vs Q E _ _ _ _ h=>by obtain⟨_,_,_,_,q⟩:=h;exact q.elim⟩
def qM:Sp:=λvs H Q _=>∃(a:af) (ns:List Int),vs=[.ref a]/\Lst H a (ns.map V.int)/\ns.length<=63/\gp H/\∀H',Q (.bl true) H'
theorem ints_rep(H:Hp):∀ns:List Int,P2 (Rep H) (ns.map D.int) (ns.map V.int)
 |[]=>.nil
 |n::r=>.cons (pK.mpr rfl) (ints_rep H r)
theorem Jk{P:bh}{w:a6}{K:aD}{mg:Str->Option ag}{base:aJ}{CX:f7}{k:Nat}{f:af}{fd:bF}{ps:List Str}{m:Mi.Fn}(F:bE P w K mg base CX k f fd ps (au m))
 (h:∀ns:List Int,ns.length<=63->m [.d (.lst (ns.map D.int))]=.ok (.d (.bl true))):bE P w K mg base CX k f fd ps qM:=
 F.imp λvs H Q E ⟨a,ns,e,l,hl,k,q⟩=>by
  subst e;have l':Lst (iz H) a (ns.map V.int):=by
   rcases l with l|⟨o,l⟩
   ·exact .inl (jX l trivial)
   ·exact .inr ⟨o,jX l trivial⟩
  refine⟨iz H,[.d (.lst (ns.map D.int))],.all k,.cons (k3.mpr ⟨a,_,rfl,l',ints_rep _ ns⟩) .nil,?_⟩;rw[h ns hl];intro v H' Hv' g r;cases(nN (H:=Hv')).mp r;exact q H'
def rm(K:aD)(a:af):It:=⟨λi H=>∃xs x,c9 K H a xs/\xs[i]? = aa x,λi H v H'=>∃p x,(∀xs,c9 K H a xs->xs[i]? = aa x)/\H p=ac/\v=.ref p/\H'=upd H p (.tup [.int i,x]),λi H=>∃xs,c9 K H a xs/\xs.length=i⟩
theorem Cf{X:Cx}{ae:List (af×Obj)}{σ:L2.St}{H:Hp}{s:ao}{fp:List af}{T:af}{o:HO}{h':aJ}{t':Nat}(I:Inv X ae σ H s)(hf:∀b∈fp,eM X ae H b)
 (k:∀b u,b∉fp->s.heap.get? b=aa u->h'.get? b=aa u) (hT:s.heap.objs.size<=T) (new:bW X.prog X.w (upd H T o) h' T o):Inv X ae σ (upd H T o) { s with heap:=h',toks:=t' }:=by
 have hn:H T=ac:=I.hok.fresh hT;have nfp:∀b u,H b=aa u->b∉fp:=λb u e z=>by rw[(hf b z).1]at e;cases e
 refine I.call' (s':={ s with heap:=h',toks:=t' }) (ch:=fp) rfl ⟨λb u e _ _ hb=>k b u hb e,λb u e _ _ hb=>⟨u.slots,k b u hb e⟩,λb u e hb _=>?_,λb u e hb=>⟨u,k b u hb e⟩,λb xs e=>?_,λb q u e=>?_,λb w ps e=>⟨#[],?_⟩⟩ ?_ I.bare
  λb hb=>⟨(hf b hb).2.2.2.1,(hf b hb).2.1,(hf b hb).2.2.2.2.1,(hf b hb).2.2.2.2.2⟩
 ·have:b≠T:=fi (fR (bS e) hT);rw[aG this];exact hb
 ·rw[aG (cE e hn)];exact e
 ·rw[aG (cE e hn)];exact e
 ·rw[aG (cE e hn),e];simp
 ·intro b u e;by_cases hb:b=T
  ·subst hb;rw[bu]at e;cases e;exact new
  ·rw[aG hb]at e;refine(I.hok b u e).stay (λc v hc q=>k c v ?_ q) (λc q=>by rw[aG (cE q hn)];exact q) λc xs q=>by rw[aG (cE q hn)];exact q
   rcases hc with z|z
   ·rw[z];exact nfp b u e
   ·exact nfp c _ z
theorem yR{X:Cx}{ae:List (af×Obj)}{σ:L2.St}{H:Hp}{s:ao}{fp:List af}{h':aJ}{t':Nat}(I:Inv X ae σ H s)(hf:∀b∈fp,eM X ae H b)
 (k:∀b u,b∉fp->s.heap.get? b=aa u->h'.get? b=aa u):Inv X ae σ H { s with heap:=h',toks:=t' }:=by
 have nfp:∀b u,H b=aa u->b∉fp:=λb u e z=>by rw[(hf b z).1]at e;cases e
 refine I.call' (s':={ s with heap:=h',toks:=t' }) (ch:=fp) rfl ⟨λb u e _ _ hb=>k b u hb e,λb u e _ _ hb=>⟨u.slots,k b u hb e⟩,λb u e hb _=>hb,λb u e hb=>⟨u,k b u hb e⟩,λb xs e=>e,λb q u e=>e,λb w ps e=>⟨#[],by rw[e];simp⟩⟩ ?_ I.bare
  λb hb=>⟨(hf b hb).2.2.2.1,(hf b hb).2.1,(hf b hb).2.2.2.2.1,(hf b hb).2.2.2.2.2⟩
 intro b u e;refine(I.hok b u e).stay (λc v hc q=>k c v ?_ q) (λc q=>q) λc xs q=>q;rcases hc with z|z
 ·rw[z];exact nfp b u e
 ·exact nfp c _ z
theorem OG{P:bh}{w:a6}{K:aD}{elts:List aU}{k1:Nat}{pos:Pos}(a e it:af)(hne:e≠it):Turn P w K (.Tuple elts k1 pos) (rm K a) [e,it] e (λi h=>(∃old,IsEnum h e it i old)/\h.IsListIter it a i) where
 mem:=by simp
 obj:=λi h st b hb=>by
  obtain⟨⟨old,he⟩,o,ho,c,d⟩:=st;rcases br.mp hb with rfl|hb
  ·exact⟨_,he,λv z=>by cases z⟩
  ·have e1:b=it:=by simpa using hb
   subst e1;exact⟨o,ho,λv z=>by rw[d]at z;cases z⟩
 keep:=λi h h' st kk=>⟨let ⟨old,he⟩:=st.1;⟨old,kk e (by simp) _ he⟩,st.2.at λo q=>kk it (by simp) o q⟩
 item:=by
  intro X hP hw hK hc i ae s σ H E I hf st hg;subst hP hw hK;obtain⟨xs,x,hq,hx⟩:=hg;obtain⟨aj,rv,p,hz⟩:=I.list hq;obtain⟨u,hu,ru⟩:=rv.get hx;obtain⟨⟨old,he⟩,hli⟩:=st;have hlt:i<aj.toArray.size:=by rw[cq];exact(ca.mp hu).1
  have hai:a≠it:=by rintro rfl;obtain⟨o,ho,c,_⟩:=hli;obtain⟨o',n,ho',c',_⟩:=p;rw[ho]at ho';cases ho';rw[c]at c';exact absurd (wm c') (by decide)
  have hea:e≠a:=by rintro rfl;obtain⟨o',n,ho',c',_⟩:=p;rw[he]at ho';cases ho';exact absurd (wm c') (by decide)
  refine wpAny_pyNext_enum_itemD (Draws.list (by first|exact I.ok.hd hc|(simp;exact I.ok.hd hc)) it a hai aj.toArray) he ⟨hli,p.isList⟩ hlt hne (by simp[hne,hea]) λy h' tk hy ho hs' hT hsz hk=>?_;have hy:y=u:=by
   have hu':aj.toArray[i]? = aa u:=by simpa using hu
   rw[hu']at hy;exact(fj hy).symm
  subst hy;refine⟨_,rfl,wpAny_letOwnedTupleGo_enum ho λh2 he2 hs2=>?_⟩;have kk:∀b o,b∉[e,it]->s.heap.get? b=aa o->h2.get? b=aa o:=λb o hb q=>by
   simp at hb;exact(hs2.2 b hb.1).trans (hk b o hb.1 hb.2 q)
  have hTn:s.heap.objs.size≠e:=λz=>absurd (bS he) (by rw[z];exact i6 _);refine⟨.ref s.heap.objs.size,upd H s.heap.objs.size (.tup [.int i,x]),Cf (s:=s) (t':=tk+1) I hf kk (bq _) ?_,rfl,⟨_,x,λys hy=>by rw[I.u5 hy hq];exact hx,I.hok.fresh (bq _),rfl,rfl⟩,⟨⟨_,he2⟩,?_⟩,λb hb=>?_⟩
  ·exact⟨by simp only[bQ,j5];rw[c6];decide,[.int i tk,y],.cons ⟨_,rfl⟩ (.cons ru .nil),⟨_,(hs2.2 _ hTn).trans hT,rfl,rfl,_,rfl⟩⟩
  ·exact hs'.1.at λo q=>(hs2.2 it (d8 hne)).trans q
  ·have:b≠s.heap.objs.size:=λz=>by
    subst z;rcases br.mp hb with z|z
    ·exact hTn z
    ·have z:s.heap.objs.size=it:=by simpa using z
     obtain⟨o,ho,_⟩:=hli;exact absurd (bS ho) (by rw[<- z];exact i6 _)
   rw[aG this];exact(hf b hb).1
 done:=by
  intro X hP hw hK hc i ae s σ H E I hf st hg;subst hP hw hK;obtain⟨xs,hq,hx⟩:=hg;obtain⟨aj,rv,p,hz⟩:=I.list hq;obtain⟨⟨old,he⟩,hli⟩:=st;have hl:=rv.length;have hai:a≠it:=by rintro rfl;obtain⟨o,ho,c,_⟩:=hli;obtain⟨o',n,ho',c',_⟩:=p;rw[ho]at ho';cases ho';rw[c]at c';exact absurd (wm c') (by decide)
  subst hx;have D:=Draws.list (prog:=X.prog) (w:=X.w) (A:=X.A.in1) (by first|exact I.ok.hd hc|(simp;exact I.ok.hd hc)) it a hai aj.toArray;have hn:aj.toArray.size=xs.length:=by simp;omega
  rw[hn]at D;exact wpAny_pyNext_enum_endD D he ⟨hli,p.isList⟩ λh' hx=>⟨rfl,yR (s:=s) (t':=s.toks) I hf λb o hb q=>hx b o (λz=>hb (by simp[z])) q⟩
 self:=λ_ i s Q E st h=>let ⟨⟨old,he⟩,_⟩:=st;wpAny_pyIter_enum he h
section
variable{X:Cx}{elts:List aU}{k1:Nat}{tpos:Pos}
def DC(K:aD)(tl:TE):TI:=λσ H R=>tl σ H λx H1=>∃a,[x]=[V.ref a]/\(∃xs,c9 K H1 a xs)/\R (rm K a) H1
theorem LV{a:aU}{ta:TE}{p pos:Pos}(hg:Gl X "enumerate")(hm:X.mg "enumerate" = ac)(ha:PE X a ta)(hs:starEach [a] X.env=[(false,eval a X.env)]:=by rfl)(hs0:starEach [a] X.env=(false,eval a X.env)::starEach [] X.env:=by rfl) :
 PI X (.Tuple elts k1 tpos) (.Call (.Name "enumerate" p) [a] [] pos) (DC X.K ta):=by
 intro ae s σ H R I h;refine Call_ (ng I hg hm boot_enumerate (v7 (aX (ax ha a8 hs0 pos ae s σ H (λvs H1=>∃l,vs=[.ref l]/\(∃xs,c9 X.K H1 l xs)/\R (rm X.K l) H1) I ?_) λus s1 ⟨vs,H1,I1,r1,q1⟩=>?_) hs rfl))
 ·exact h
 ·obtain⟨l,e,⟨xs,hq⟩,q⟩:=q1;subst e;obtain⟨u,rfl,ru⟩:=vals1 r1;cases ru;obtain⟨aj,rv,pl,hz⟩:=I1.list hq;refine call_enumerate_list pl.isList λh' hE hI hsz hk=>?_;refine wpAny_pyIter_enum hE ?_;have I2:Inv X ae σ H1 { s1 with heap:=h' }:=I1.kept (t':=s1.toks) λb o e=>hk b o e;refine⟨_,[s1.heap.objs.size+1,s1.heap.objs.size],_,_,H1,rfl,I2,OG l (s1.heap.objs.size+1) s1.heap.objs.size (s9 (zU _)),⟨⟨_,hE⟩,hI⟩,λb hb=>?_,q⟩;have hb:s1.heap.objs.size<=b:=by
   rcases br.mp hb with z|z
   ·rw[z];exact Nat.le_succ _
   ·have z:b=s1.heap.objs.size:=by simpa using z
    rw[z];exact bq _
  exact I1.gR hb (I1.hok.fresh hb)
theorem CO:∀{ds:List D} {k i:Nat} {d:D},ds[i]? = aa d->(Mi.i0 k ds)[i]? = aa (.tup [.int ((k+i:Nat):Int),d])
 |[],_,_,_,h=>by simp at h
 |d::r,k,0,e,h=>by simp at h;subst h;rfl
 |d::r,k,i+1,e,h=>by
  have:=CO (ds:=r) (k:=k+1) (i:=i) (d:=e) (by simpa using h);rw[Mi.i0,j1,this];rw[show k+1+i=k+(i+1)by omega]
theorem ux:∀(ds:List D) (k:Nat),(Mi.i0 k ds).length=ds.length
 |[],_=>rfl
 |d::r,k=>by rw[Mi.i0,bQ,bQ,ux r]
theorem IR{x:D}{k:List D->Prop}(h:Fin (Mi.Dl x) k):∃ds,x=.lst ds/\k ds:=by
 cases x with
 |lst b=>exact⟨b,rfl,h⟩
 |_=>exact h.elim
theorem Nc{K:aD}{a:af}{ds:List D}{P:Hp->Hp->Prop}(ok:∀H Hv,P H Hv->Vw H Hv->∃xs,c9 K H a xs/\P2 (Rep Hv) ds xs):oS (rm K a) P (Mi.i0 0 ds):=by
 refine⟨λi H Hv p v hi=>?_,λi H Hv x H' p v hi y=>?_,λH Hv p v=>?_⟩
 ·obtain⟨xs,l,r⟩:=ok H Hv p v;rw[ux]at hi;obtain⟨x,hx,_⟩:=r.getL (i:=i) (a:=ds[i]) (by simp[hi]);exact⟨xs,x,l,hx⟩
 ·obtain⟨xs,l,r⟩:=ok H Hv p v;rw[ux]at hi;obtain⟨q,z,hz,hq,rfl,rfl⟩:=y;obtain⟨x,hx,rx⟩:=r.getL (i:=i) (a:=ds[i]) (by simp[hi]);rw[hz xs l]at hx;cases hx;obtain⟨g,k⟩:=zj v (ds:=[.int i,ds[i]]) (xs:=[.int i,z]) (.cons (pK.mpr rfl) (.cons rx .nil)) hq;refine⟨_,.tup [.int i,ds[i]],g,?_,k⟩;rw[CO (i:=i) (d:=ds[i]) (by simp[hi])];simp
 ·obtain⟨xs,l,r⟩:=ok H Hv p v;exact⟨xs,l,by rw[ux,r.len]⟩
theorem MZ{M:Nat->Bool}{K:aD}{ta:TE}{a:Mi.E}(ha:AE M qV ta a):gK M (DC K ta) (Mi.yh a):=λe σ H Hv R I h=>
 ha e σ H Hv _ I ((aw.mp h).mono λx hx v H1 Hv1 g1 rx=>by
  obtain⟨ds,rfl,hk⟩:=IR (aw.mp hx);obtain⟨p,xs,rfl,l,r⟩:=(k3 (H:=Hv1)).mp rx;exact⟨p,rfl,⟨xs,(l.same g1.vw.sub).sq⟩,hk (rm K p) H1 Hv1 (λH Hv=>Lst Hv p xs/\P2 (Rep Hv) ds xs) g1 (Nc λH Hv z v=>⟨xs,(z.1.same v.sub).sq,z.2⟩) ⟨l,r⟩ λH1 Hv1 H2 Hv2 z s v=>⟨z.1.same s,eA s z.2⟩⟩)
end
end A
namespace A
open PySem L2 PyProof.Rows
open Mi (D W Rs Fin aw Out Tg)
variable[Tb:bG]
section
variable{X:Cx}{K:aD}{M:Nat->Bool}{κ:Kd}{ta tb te tk:TE}{a b k:Mi.E}
theorem tW{Hv:Hp}:∀{ds:List D} {xs:List V} {bs:List Str},Mi.jr ds=aa bs->P2 (Rep Hv) ds xs->xs=bs.map V.str
 |[],_,bs,e,r=>by cases e;cases r;rfl
 |.str b::ds,_,bs,e,r=>by
  cases r with
  |cons x t=>
   cases hb:Mi.jr ds with
   |none=>rw[Mi.jr,hb]at e;cases e
   |some cs=>
    rw[Mi.jr,hb]at e;cases e;rw[tW hb t,nI.mp x];rfl
 |.non::_,_,_,e,_=>by cases e
 |.int _::_,_,_,e,_=>by cases e
 |.bl _::_,_,_,e,_=>by cases e
 |.lst _::_,_,_,e,_=>by cases e
 |.tup _::_,_,_,e,_=>by cases e
theorem Ek(ha:AE M qP ta a)(hb:AE M qP tb b):AE M qV (pk K "str" (rJoin K) ta (gm tb ip)) (Mi.m2 Mi.t9 a b):=λe σ H Hv Q I h=>by
 obtain⟨x,hx,h⟩:=iO (aw.mp h);obtain⟨y,hy,h⟩:=iO (aw.mp h);cases x with
 | str sep=>cases y with
  |lst ds=>
   obtain⟨ys,hs,h⟩:=gD (aw.mp h);obtain⟨hz,h⟩:=Mi.cD h;refine ha e σ H Hv _ I (by
    rw[hx];intro v H1 Hv1 g1 r1;cases RD.str r1;refine⟨rfl,hb e σ H1 Hv1 _ (I.grow g1) (by
     rw[hy];intro v2 H2 Hv2 g2 r2;obtain⟨p,xs,rfl,l,r⟩:=RD.lst g2.vw r2;have:=tW hs r;subst this;exact⟨sep,p,ys,rfl,rfl,l.sq,hz,(Mi.lA h) _ H2 Hv2 (g1.trans g2) qL⟩)⟩)
  |_=>exact h.elim
 |_=>cases y<;>exact h.elim
theorem tP{H:Hp}{d:D}{v:V}{y:Mi.Ky}(h:Mi.nq d=aa y)(r:Rep H d v):v=kV y:=by
 cases d with
 |bl i=>cases h;exact nN.mp r
 |str i=>cases h;exact nI.mp r
 |_=>cases h
theorem u7{H:Hp}:∀{ds:List D} {vs:List V} {ys:List Mi.Ky},Mi.nL ds=aa ys->P2 (Rep H) ds vs->vs=ys.map kV
 |[],_,_,h,r=>by cases h;cases r;rfl
 |d::ds,_,ys,h,r=>by
  cases r with
  |cons x t=>
   unfold Mi.nL at h;cases h1:Mi.nq d with
   |none=>rw[h1]at h;cases h
   |some y=>
    cases h2:Mi.nL ds with
    |none=>rw[h1,h2]at h;cases h
    |some zs=>
     rw[h1,h2]at h;cases h;rw[tP h1 x,u7 h2 t];rfl
theorem E4{H Hv:Hp}(vw:Vw H Hv){w:W}{x:V}{d:D}{v:V}{q:Option D->Prop}(hw:RB H Hv w x)(r:Rep Hv d v)(h:Fin (Mi.sN w d) q):∃a o o',x=.ref a/\jV H a v o/\q o'/\match o' with
 |some d'=>∃v',o=aa v'/\Rep Hv d' v'
 |none=>o=ac:=by
 cases w with
 |d x=>exact h.elim
 |ex z=>exact h.elim
 |fn z=>exact h.elim
 |dk ai=>
  obtain⟨y,hy,h⟩:=gD (aw.mp h);have h:q (Mi.jw ai y):=h;have:∃a kv,x=.ref a/\H a=aa (.dK kv)/\dU Hv ai kv:=by
   rcases hw with ⟨a,kv,e,z,c⟩|⟨a,o,e,z,c⟩
   ·exact⟨a,kv,e,vw.sub _ _ z,c⟩
   ·cases o with
    |dK kv=>exact⟨a,kv,e,z,c⟩
    |_=>exact c.elim
  obtain⟨a,kv,e,z,c⟩:=this;have hv:=tP hy r;subst hv;exact⟨a,_,_,e,jV.k z,h,wU c⟩
 |dt ai=>
  cases d with
  |tup ds=>
   obtain⟨y,hy,h⟩:=gD (aw.mp h);have h:q (Mi.jw ai y):=h;have:∃a kv,x=.ref a/\H a=aa (.dT kv)/\dU Hv ai kv:=by
    rcases hw with ⟨a,kv,e,z,c⟩|⟨a,o,e,z,c⟩
    ·exact⟨a,kv,e,vw.sub _ _ z,c⟩
    ·cases o with
     |dT kv=>exact⟨a,kv,e,z,c⟩
     |_=>exact c.elim
   obtain⟨a,kv,e,z,c⟩:=this;obtain⟨b,xs,rfl,l,r⟩:=iq.mp r;have hv:=u7 hy r;subst hv;exact⟨a,_,_,e,jV.t z (vw.sub _ _ l),h,wU c⟩
  |_=>exact h.elim
 |df ai=>
  cases d with
  |tup ds=>
   obtain⟨y,hy,h⟩:=gD (aw.mp h);have h:q (Mi.jw ai y):=h;have:∃a ob kv,x=.ref a/\H a=aa (.frz ob (.dT kv))/\dU Hv ai kv:=by
    rcases hw with ⟨a,ob,kv,e,z,c⟩|⟨a,o,e,z,c⟩
    ·exact⟨a,ob,kv,e,vw.sub _ _ z,c⟩
    ·exact c.elim
   obtain⟨a,ob,kv,e,z,c⟩:=this;obtain⟨b,xs,rfl,l,r⟩:=iq.mp r;have hv:=u7 hy r;subst hv;exact⟨a,_,_,e,.inr ⟨kv,y,b,.inr ⟨ob,z⟩,rfl,vw.sub _ _ l,rfl⟩,h,wU c⟩
  |_=>exact h.elim
theorem CQ(i:Nat)(hk:AE M qV tk k):AE M qV (Bn tk (eR i)) (Mi.nE i k):=λe σ H Hv Q I h=>
 hk e σ H Hv _ I ((aw.mp h).mono λd hd v H1 Hv1 g1 r=>by
  obtain⟨w,he,hd⟩:=rJ (aw.mp hd);have I1:=I.grow g1;obtain⟨x,q,z⟩:=I1.any he;obtain⟨a,o,o',e1,g,h2,m⟩:=E4 g1.vw z r (aw.mp hd);refine⟨x,q,a,o,e1,g,?_⟩;have:o.isSome=o'.isSome:=by
   cases o' with
   |none=>have m:o=ac:=m;rw[m];rfl
   |some d'=>obtain⟨v',m,_⟩:=m;rw[m];rfl
  rw[this];exact h2 _ H1 Hv1 g1 fA)
theorem F2(i:Nat)(hk:AE M qV tk k):AE M qV (Gk tk (eR i)) (Mi.gX i k):=λe σ H Hv Q I h=>
 hk e σ H Hv _ I ((aw.mp h).mono λd hd v H1 Hv1 g1 r=>by
  obtain⟨w,he,hd⟩:=rJ (aw.mp hd);have I1:=I.grow g1;obtain⟨x,q,z⟩:=I1.any he;obtain⟨a,o,o',e1,g,h2,m⟩:=E4 g1.vw z r (aw.mp hd);refine⟨x,q,a,o,e1,g,?_⟩;have:o.isSome=o'.isSome:=by
   cases o' with
   |none=>have m:o=ac:=m;rw[m];rfl
   |some d'=>obtain⟨v',m,_⟩:=m;rw[m];rfl
  rw[this];exact h2 _ H1 Hv1 g1 fA)
theorem uQ{tv:TE}{v:Mi.E}(i:Nat)(hm:M i=true)(hk:AE M qV tk k)(hv:AE M qV tv v):AS M κ (L2.d9 (eR i) tk tv) (Mi.d9 i k v):=λH0 Hv0 e σ H Hv D I h=>by
 obtain⟨d,hd,h⟩:=iO (aw.mp h);obtain⟨y,hy,h⟩:=iO (aw.mp h);obtain⟨w,he,h⟩:=rJ (aw.mp h);refine hv e σ H Hv _ I.toR0 (by
  rw[hd];intro x H1 Hv1 g1 rx;have I1:=I.grow g1;obtain⟨p,o,q,q1,n,h0,c⟩:=I1.cell hm he;refine⟨.ref p,q,hk e σ H1 Hv1 _ I1.toR0 (by
   rw[hy];intro u H2 Hv2 g2 ru;have I2:=I1.grow g2;have c2:=c.same g2.vis;have q2:=g2.old.at q1 c.nt;have g12:=g1.trans g2;have rx2:=iZ g2.vis rx;cases w with
   |d x=>exact(show False from aw.mp h).elim
   |ex z=>exact(show False from aw.mp h).elim
   |fn z=>exact(show False from aw.mp h).elim
   |df z=>exact(show False from aw.mp h).elim
   |dk ai=>
    obtain⟨hz,h⟩:=Mi.cD (aw.mp h);obtain⟨ky,hky,h⟩:=gD (aw.mp h);cases o with
    |dK kv=>
     have c2:dU Hv2 ai kv:=c2;have hu:=tP hky ru;subst hu;refine⟨p,_,rfl,mi.k q2 (by rw[<- P2.len c2,c6];exact hz),?_⟩;exact h σ _ Hv2 (I2.write hm he q (show dJ Hv2 (.dk (Mi.putK ky d ai)) (.dK (L2.putK kv ky x))from Bj rx2 c2)) g12.vis
    |_=>exact c2.elim
   |dt ai=>
    cases y with
    |tup ds=>
     obtain⟨hz,h⟩:=Mi.cD (aw.mp h);obtain⟨ky,hky,h⟩:=gD (aw.mp h);cases o with
     |dT kv=>
      have c2:dU Hv2 ai kv:=c2;obtain⟨b,xs,rfl,l,r⟩:=(iq (H:=Hv2)).mp ru;have hu:=u7 hky r;subst hu;refine⟨p,_,rfl,mi.t q2 (g2.vw.sub _ _ l) (by rw[<- P2.len c2,c6];exact hz),?_⟩;exact h σ _ Hv2 (I2.write hm he q (show dJ Hv2 (.dt (Mi.putK ky d ai)) (.dT (L2.putK kv ky x))from Bj rx2 c2)) g12.vis
     |_=>exact c2.elim
    |_=>exact(show False from aw.mp h).elim)⟩)
end
end A
namespace Zp
open PySem PySem.Spec PyProof.Rows L2
variable[Tb:A.bG]
section
variable{P:bh}{w:a6}{B:bx}{F:ag->ao->Prop}{z:ao}
theorem OF{c t:af}{i:Nat}{us:Array ag}{u:ag}{R:ag->ao->Prop}(hc:z.heap.IsTupleIter c t i)(ht:z.heap.IsTuple t us)(hu:us[i]? = aa u)
 (hR:∀h',h'.IsTupleIter c t (i+1)->mT c z.heap h'->R u { z with heap:=h' }):wpAny (model P w) B (oE (.ref c)) R F z:=by
 obtain⟨ob,gb,cb,db⟩:=id hc;obtain⟨ol,gl,_,nl,dl⟩:=ht;unfold oE;refine aB (qo (name:=lP "__next__") hc.typeIs vX (lK vX hc.typeIs Hw ?_ (Hu _)));show wpAny _ _ (field (.ref c) 0 >>= _) _ _ z;refine aB (mO gb db (x:=.ref t) rfl ?_);show wpAny _ _ (if(cG t==fJ)=true then _ else _) _ _ z;rw[aP (λq:(cG t==fJ)=true=>nomatch q)];show wpAny _ _ (field (.ref c) 1 >>= _) _ _ z;refine aB (mO gb db (x:=.int i 0) rfl ?_);show wpAny _ _ (seqItems? (.ref t) >>= _) _ _ z;refine aB (sY gl dl ?_);simp only[lM,hu];refine aB (vN gb db (by simp) (bn ⟨u,rfl,bn (hR _ ?_ (lO ..))⟩));refine⟨_,vT _ gb (HH (v6 db _)),(Obj.cls_mapFields ..).trans cb,?_⟩;rw[v6 db];simp[rawInt]
theorem NE{c t:af}{i:Nat}{us:Array ag}{R:ag->ao->Prop}(hn:B.handled=ac)(hc:z.heap.IsTupleIter c t i)(ht:z.heap.IsTuple t us)(hu:us[i]? = ac)
 (hF:∀h' e,vU c z.heap h'->(∃o,h'.get? e=aa o/\o.cls=.type "StopIteration")->F (.ref e) { z with heap:=h' }):wpAny (model P w) B (oE (.ref c)) R F z:=by
 obtain⟨ob,gb,cb,db⟩:=id hc;obtain⟨ol,gl,_,nl,dl⟩:=ht;unfold oE;refine aB (qo (name:=lP "__next__") hc.typeIs vX (lK vX hc.typeIs Hw ?_ (Hu _)));show wpAny _ _ (field (.ref c) 0 >>= _) _ _ z;refine aB (mO gb db (x:=.ref t) rfl ?_);show wpAny _ _ (if(cG t==fJ)=true then _ else _) _ _ z;rw[aP (λq:(cG t==fJ)=true=>nomatch q)];show wpAny _ _ (field (.ref c) 1 >>= _) _ _ z;refine aB (mO gb db (x:=.int i 0) rfl ?_);show wpAny _ _ (seqItems? (.ref t) >>= _) _ _ z;refine aB (sY gl dl ?_);simp only[lM,hu];refine aB (wpAny_rule (aB (vN gb db (by simp) ?_)));show wpAny _ _ (newExc (.type "StopIteration") [] >>= _) _ _ _;refine aB ?_;simp only[newExc,newTuple];refine aB (sX ?_ (by size_fits));refine aB (m:=firstArgMember _ _) (wpAny_of_eq (a:=fJ) (by simp only[firstArgMember];rfl) (sX ?_ (by size_fits)));simp only[raiseNew];refine aB (wpAny_handled ?_)
 first|rw[show B.in1.handled=ac from hn]|rw[hn]
 exact aB (bn (wpAny_throw (hF _ _ (((lO ..).extBut.push _).push _) ⟨_,de _ rfl,rfl⟩)))
end
def nm:Bool->String|true => "list" | false => "tuple"
def FK:Bool->String|true => "list_iterator" | false => "tuple_iterator"
def g6(k:Bool)(h:aJ)(l:af)(us:Array ag):Prop:=∃o,h.get? l=aa o/\o.cls=.type (nm k)/\∃n,o.data=.seq us n
def kG(k:Bool)(h:aJ)(c l:af)(i:Nat):Prop:=∃o,h.get? c=aa o/\o.cls=.type (FK k)/\o.data=.fields #[.ref l,.int i 0]
theorem g6.at{k:Bool}{h h':aJ}{l:af}{us:Array ag}(x:g6 k h l us)(f:∀o,h.get? l=aa o->h'.get? l=aa o):g6 k h' l us:=let ⟨o,e,r⟩:=x;⟨o,f o e,r⟩
theorem kG.at{k:Bool}{h h':aJ}{c l:af}{i:Nat}(x:kG k h c l i)(f:∀o,h.get? c=aa o->h'.get? c=aa o):kG k h' c l i:=let ⟨o,e,r⟩:=x;⟨o,f o e,r⟩
theorem kG.cell{k:Bool}{h:aJ}{c l:af}{i:Nat}(x:kG k h c l i):∃o,h.get? c=aa o/\∀v,o.data≠.cell v:=let ⟨o,e,_,d⟩:=x;⟨o,e,λv q=>by rw[d]at q;cases q⟩
section
variable{P:bh}{w:a6}{B:bx}{F:ag->ao->Prop}{z:ao}
theorem nx{k:Bool}{c t:af}{i:Nat}{us:Array ag}{u:ag}{R:ag->ao->Prop}(hc:kG k z.heap c t i)(ht:g6 k z.heap t us)(hu:us[i]? = aa u)
 (hR:∀h',kG k h' c t (i+1)->mT c z.heap h'->R u { z with heap:=h' }):wpAny (model P w) B (oE (.ref c)) R F z:=by
 cases k
 ·exact OF hc ht hu hR
 ·exact wpAny_nextOf_list_item hc ht hu hR
theorem Ju{k:Bool}{c t:af}{i:Nat}{us:Array ag}{R:ag->ao->Prop}(hn:B.handled=ac)(hc:kG k z.heap c t i)(ht:g6 k z.heap t us)(hu:us[i]? = ac)
 (hF:∀h' e,vU c z.heap h'->(∃o,h'.get? e=aa o/\o.cls=.type "StopIteration")->F (.ref e) { z with heap:=h' }):wpAny (model P w) B (oE (.ref c)) R F z:=by
 cases k
 ·exact NE hn hc ht hu hF
 ·exact wpAny_nextOf_list_end hn hc ht hu hF
abbrev oT(k:Bool)(l:af):Obj:={ cls:=.type (FK k),data:=.fields #[.ref l,.int 0 0] }
theorem Ef{k:Bool}{l:af}{us:Array ag}{R:ag->ao->Prop}(h:g6 k z.heap l us)(hR:R (.ref z.heap.objs.size) { z with heap:=z.heap.push (oT k l) }):wpAny (model P w) B (pyIter (.ref l)) R F z:=by
 cases k
 ·exact wpAny_pyIter_tuple h hR
 ·exact vL h hR
end
end Zp
namespace Zp
open PySem PySem.Spec PyProof.Rows L2
variable[Tb:A.bG]
structure Sr where
 k:Bool
 c:af
 l:af
 us:Array ag
def On(h:aJ)(i:Nat)(q:Sr):Prop:=kG q.k h q.c q.l i/\g6 q.k h q.l q.us
theorem On.at{h h':aJ}{i:Nat}{q:Sr}(x:On h i q)(f:∀b o,b=q.c\/b=q.l->h.get? b=aa o->h'.get? b=aa o):On h' i q:=⟨x.1.at λo e=>f _ o (.inl rfl) e,x.2.at λo e=>f _ o (.inr rfl) e⟩
abbrev TupAt(h:aJ)(T:af)(vs:List ag):Prop:=h.get? T=aa { cls:=.type "tuple", data:=.seq vs.toArray }
structure Ap(z TI TO:af)(L:List Sr):Prop where
 TIz:TI≠z
 TOz:TO≠z
 TITO:TI≠TO
 nd:(L.map (·.c)).Nodup
 c:∀q∈L,q.c≠z/\q.c≠TI/\q.c≠TO
 l:∀q∈L,q.l≠z/\q.l≠TO/\∀r∈L,q.l≠r.c
theorem BX{M:Model}{B:bx}{α β:Type}{b:β}{f:α->β->Sem (ForInStep β)}{E:ag->ao->Prop}(I:Nat->ao->Prop):∀(xs:List α) (n:Nat) (s:ao),
 (∀j x,xs[j]? = aa x->∀s,I (n+j) s->wpAny M B (f x b) (λr s'=>r=.yield b/\I (n+j+1) s') E s)->I n s->wpAny M B (forIn xs b f) (λr s'=>r=b/\I (n+xs.length) s') E s
 |[],n,s,_,h=>by
  rw[List.forIn_nil];exact bn ⟨rfl,h⟩
 |x::r,n,s,hs,h=>by
  rw[sV];refine aB (gH (hs 0 x rfl s h) (λy s' hy=>?_) λ_ _ e=>e);obtain⟨rfl,hy⟩:=hy;refine gH (BX I r (n+1) s' (λj x' e s2 h2=>?_) hy) (λy s2 h2=>⟨h2.1,?_⟩) λ_ _ e=>e
  ·rw[show n+1+j=n+(j+1)by omega]at h2 ⊢;exact hs (j+1) x' (by simpa using e) s2 h2
  ·rw[bQ,show n+(r.length+1)=n+1+r.length by omega];exact h2.2
section
variable{P:bh}{w:a6}{B:bx}{F:ag->ao->Prop}{s:ao}
def Kp(z TO:af)(L:List Sr)(h h':aJ):Prop:=∀b o,b≠z->b≠TO->b∉L.map (·.c)->h.get? b=aa o->h'.get? b=aa o
structure Mid(s:ao)(z TI TO:af)(L:List Sr)(i n:Nat)(s':ao):Prop where
 zz:IsZip s'.heap z TI TO .ellipsis
 vs:∃vs:List ag,vs.length=L.length/\TupAt s'.heap TO vs/\∀(j:Nat) (q:Sr),j<n->L[j]? = aa q->vs[j]? = q.us[i]?/\i<q.us.size
 on:∀(j:Nat) (q:Sr),L[j]? = aa q->On s'.heap (if j<n then i+1 else i) q
 sz:s'.heap.objs.size=s.heap.objs.size
 kp:Kp z TO L s.heap s'.heap
 eq:s'={ s with heap:=s'.heap }
theorem MN{L:List Sr}(h:(L.map (·.c)).Nodup){i j:Nat}{p q:Sr}(hp:L[i]? = aa p)(hq:L[j]? = aa q)(hij:i≠j):p.c≠q.c:=by
 intro e;have h1:(L.map (·.c))[i]? = aa p.c:=by rw[cZ,hp];rfl
 have h2:(L.map (·.c))[j]? = aa q.c:=by rw[cZ,hq];rfl
 obtain⟨l1,g1⟩:=ca.mp h1;obtain⟨l2,g2⟩:=ca.mp h2;exact hij ((lI h).mp (by rw[g1,g2,e]))
theorem E8{z TI TO:af}{L:List Sr}{i:Nat}{vs:List ag}{R:ag->ao->Prop}(hh:B.handled=ac)(D:Ap z TI TO L)(h0:L≠[])
 (hz:IsZip s.heap z TI TO .none) (hI:TupAt s.heap TI (L.map λq=>.ref q.c)) (hO:TupAt s.heap TO vs) (hl:vs.length=L.length) (hL:L.length<=8) (hon:∀q∈L,On s.heap i q)
 (hR:∀(h':aJ) (ws:List ag),IsZip h' z TI TO (rawInt s.heap.objs.size)->ws.length=L.length->(∀(j:Nat) (q:Sr),L[j]? = aa q->ws[j]? = q.us[i]?/\i<q.us.size)->TupAt h' TO ws->TupAt h' s.heap.objs.size ws->(∀q∈L,On h' (i+1) q) ->
  Kp z TO L s.heap h'->R (.ref s.heap.objs.size) { s with heap:=h' })
 (hF:∀(h':aJ) (e:af),Kp z TO L s.heap h'->(∃o,h'.get? e=aa o/\o.cls=.type "StopIteration")->(∃q∈L,q.us.size<=i)->F (.ref e) { s with heap:=h' }) :
 wpAny (model P w) B (Builtin.«zip.__next__» ⟨[.ref z],[]⟩) (λfin s'=>∃v,fin=.done (.ret v)/\R v s') F s:=by
 show wpAny _ _ (field (.ref z) 2 >>= _) _ _ _;refine aB (mO hz rfl (x:=.bool false) rfl ?_);show wpAny _ _ (field (.ref z) 3 >>= _) _ _ _;refine aB (mO hz rfl (x:=.ref TI) rfl ?_);refine aB (sY hI rfl ?_);have hne:((L.map λq=>cG q.c).toArray.isEmpty)=false:=by cases L with|nil=>exact absurd rfl h0|cons q r=>rfl
 simp only[hne,mU,eO];show wpAny _ _ (HG (.ref z) >>= _) _ _ _;refine aB ?_;unfold HG;refine aB (mO hz rfl (x:=.none) rfl (bn ?_));simp only[hV];refine aB (wpAny_rule (aB (mO hz rfl (x:=.ref TO) rfl (aB (vK hz (by simp) λh1 hz1 hs1=>?_)))));replace hz1:IsZip h1 z TI TO .ellipsis:=hz1;have M0:Mid s z TI TO L i 0 { s with heap:=h1 }:=⟨hz1,⟨vs,hl,hs1.extBut _ _ D.TOz hO,λj q h _=>absurd h (qu _)⟩,λj q e=>(hon q (jz e)).at λb o hb x=>by
  have hq:=jz e;rcases hb with rfl|rfl
  ·exact hs1.extBut _ _ (D.c q hq).1 x
  ·exact hs1.extBut _ _ (D.l q hq).1 x,hs1.1,λb o b1 _ _ x=>hs1.extBut _ _ b1 x,rfl⟩
 refine aB (gH (BX (Mid s z TI TO L i) _ 0 _ ?_ M0) ?_ λ_ _ e=>e)
 ·intro j x e s2 M;rw[dM]at M ⊢;obtain⟨q,hq,rfl⟩ : ∃q,L[j]? = aa q/\x=(cG q.c,j):=by
   simp only[List.getElem?_zipIdx,cZ,Option.map_map]at e;obtain⟨q,hq,e⟩:=i7.mp e;exact⟨q,hq,by rw[<- e];simp⟩
  have hqm:=jz hq;have jlt:j<L.length:=(ca.mp hq).1;have onq:=M.on j q hq;rw[aP (i6 j)]at onq;obtain⟨ws,wl,wO,wv⟩:=M.vs;refine aB (wpAny_onRaise ?_);show wpAny _ _ (oE (.ref q.c) >>= _) _ _ _;cases hu:q.us[i]? with
  |none=>
   refine aB (Ju hh onq.1 onq.2 hu λh3 e2 x3 he=>?_);obtain⟨oe,goe,coe⟩:=he;have hz3:IsZip h3 z TI TO .ellipsis:=x3 _ _ (D.c q hqm).1.symm M.zz;have hez:e2≠z:=λy=>by subst y;rw[hz3]at goe;cases goe;simp at coe
   refine vK hz3 (by simp) λh4 _ x4=>?_;rw[M.eq];exact hF h4 e2 (λb o b1 b2 b3 y=>x4.extBut _ _ b1 (x3 _ _ (λq'=>b3 (by rw[q'];exact oq hqm)) (M.kp b o b1 b2 b3 y))) ⟨oe,x4.extBut _ _ hez goe,coe⟩ ⟨q,hqm,by simpa using hu⟩
  |some u=>
   refine aB (nx onq.1 onq.2 hu λh3 a3 x3=>bn ?_);have hO3:TupAt h3 TO ws:=x3.extBut _ _ (D.c q hqm).2.2.symm wO;refine aB (sY hO3 rfl (aB (wpAny_updateSeq hO3 rfl ?_ (by rw[cq,wl,c6];omega) (by simp only[Array.size_setIfInBounds,cq];rw[wl,c6];omega))));refine aB (wpAny_letGo (bn ⟨rfl,?_⟩));have x4:mT TO h3 (h3.update TO (fK (·.setIfInBounds j u))):=lO ..;have hu':i<q.us.size:=(Array.getElem?_eq_some_iff.mp hu).1;have up:∀b o,b≠q.c->b≠TO->s2.heap.get? b=aa o->(h3.update TO (fK (·.setIfInBounds j u))).get? b=aa o:=λb o b1 b2 y=>x4.extBut _ _ b2 (x3.extBut _ _ b1 y);refine⟨up _ _ (D.c q hqm).1.symm D.TOz.symm M.zz,⟨ws.set j u,by rw[kO];exact wl,?_,λk r hk hr=>?_⟩,λk r hr=>?_,?_,λb o b1 b2 b3 y=>up b o (λq'=>b3 (by rw[q'];exact oq hqm)) b2 (M.kp b o b1 b2 b3 y),?_⟩
   ·show(h3.update TO _).get? TO=_;rw[vT _ hO3 rfl];simp[fK]
   ·by_cases hkj:k=j
    ·subst hkj;rw[hq]at hr;cases hr;rw[zB,aN rfl,aN (by omega),hu];exact⟨rfl,hu'⟩
    ·rw[zB,aP (λq=>hkj q.symm)];exact wv k r (by omega) hr
   ·have hrm:=jz hr;by_cases hkj:k=j
    ·subst hkj;rw[hq]at hr;cases hr;rw[aN (zU _)];exact⟨a3.at λo y=>x4.extBut _ _ (D.c q hqm).2.2 y,onq.2.at λo y=>up _ o ((D.l q hqm).2.2 q hqm) (D.l q hqm).2.1 y⟩
    ·have:=M.on k r hr;rw[show(if k<j then i+1 else i)=(if k<j+1 then i+1 else i)from by
      by_cases h:k<j
      ·rw[aN h,aN (by omega)]
      ·rw[aP h,aP (by omega)]]at this
     exact this.at λb o hb y=>by
      rcases hb with rfl|rfl
      ·exact up _ _ (MN D.nd hr hq hkj) (D.c r hrm).2.2 y
      ·exact up _ _ ((D.l r hrm).2.2 q hqm) (D.l r hrm).2.1 y
   ·show(h3.update TO _).objs.size=_;rw[x4.1,x3.1,M.sz]
   ·rw[M.eq]
 ·rintro r s2 ⟨rfl,M⟩;have hL2:0+((L.map λq=>cG q.c).toArray.toList.zipIdx).length=L.length:=by simp
  rw[hL2]at M;obtain⟨ws,wl,wO,wv⟩:=M.vs;refine aB (sY wO rfl (aB (wpAny_newTuple ?_ (by show ws.length<=_;rw[wl,c6];omega))));show wpAny _ _ (HF (.ref z) (.ref s2.heap.objs.size) >>= _) _ _ _;refine aB ?_;unfold HF;have hz6:IsZip (s2.heap.push { cls:=.type "tuple", data:=.seq ws.toArray }) z TI TO .ellipsis:=b8 _ M.zz;refine aB (vK hz6 (by simp) λh7 hz7 x7=>?_);replace hz7:IsZip h7 z TI TO (rawInt s2.heap.objs.size):=hz7;refine vK hz7 (by simp) λh8 hz8 x8=>?_;replace hz8:IsZip h8 z TI TO (rawInt s2.heap.objs.size):=hz8;have up:∀b o,b≠z->s2.heap.get? b=aa o->h8.get? b=aa o:=λb o b1 y=>x8.extBut _ _ b1 (x7.extBut _ _ b1 (b8 _ y));have hzl:z<s2.heap.objs.size:=bS M.zz;have hT8:TupAt h8 s2.heap.objs.size ws:=x8.extBut _ _ (s9 hzl) (x7.extBut _ _ (s9 hzl) (de _ rfl));refine bn ⟨_,rfl,?_⟩;show R (.ref s2.heap.objs.size) _;rw[M.sz]at hz8 hT8 ⊢;have e:=M.eq;rw[e];exact hR h8 ws hz8 wl (λj q hq=>wv j q (ca.mp hq).1 hq) (up _ _ D.TOz wO) hT8 (λq hq=>by
   obtain⟨j,hj⟩:=kM hq;have:=M.on j q hj;rw[aN (ca.mp hj).1]at this;exact this.at λb o hb y=>by
    rcases hb with rfl|rfl
    ·exact up _ _ (D.c q hq).1 y
    ·exact up _ _ (D.l q hq).1 y) λb o b1 b2 b3 y=>up b o b1 (M.kp b o b1 b2 b3 y)
end
end Zp
namespace Zp
open PySem PySem.Spec PyProof.Rows L2
variable[Tb:A.bG]
section
variable{P:bh}{w:a6}{B:bx}{F':ag->ao->Prop}{s:ao}
abbrev zO(TI TO:af):Obj:={ cls:=.type "zip", data:=.fields #[.none,.bool false,.bool false,.ref TI,.ref TO] }
abbrev tO(vs:List ag):Obj:={ cls:=.type "tuple", data:=.seq vs.toArray }
theorem mk2(k1 k2:Bool)(l1 l2:af)(xs ys:Array ag) :
 Meets (Builtin.«zip.__new__» ⟨[.type "zip", .ref l1,.ref l2],[]⟩) (λ_ R s=>g6 k1 s.heap l1 xs/\g6 k2 s.heap l2 ys /\
  ∀h1 h2 h3 h4:aJ,h1=s.heap.push (oT k1 l1)->h2=h1.push (oT k2 l2)->h3=h2.push (tO [.ref s.heap.objs.size,.ref h1.objs.size])->h4=h3.push (tO [.none,.none]) ->
  R (.ok (.ret (.ref h4.objs.size))) { s with heap:=h4.push (zO h2.objs.size h3.objs.size) }):=
 .of_wp λprog w A R s h=>by
  obtain⟨hp,g,d,tk,os⟩:=s;obtain⟨a1,a2,h⟩:=h;have hsub:=sub_zip;have b1:g6 k1 (Shared.heap ⟨hp,g,d,tk,os⟩) l1 xs:=a1;have b2:g6 k2 (Shared.heap ⟨hp.push (oT k1 l1),g,d,tk,os⟩) l2 ys:=a2.at λo e=>b8 _ e
  wp_walk using Ef b1,Ef b2
  exact⟨_,rfl,h _ _ _ _ rfl rfl rfl rfl⟩
abbrev Tr:=Bool×af×af
structure Zs(h:aJ)(z TI TO:af)(T:List Tr)(i:Nat):Prop where
 zz:IsZip h z TI TO .none
 ti:TupAt h TI (T.map λq=>.ref q.2.1)
 to:∃vs:List ag,vs.length=T.length/\TupAt h TO vs
 it:∀q∈T,kG q.1 h q.2.1 q.2.2 i
theorem call2{k1 k2:Bool}{l1 l2:af}{xs ys:Array ag}{R:ag->ao->Prop}(a1:g6 k1 s.heap l1 xs)(a2:g6 k2 s.heap l2 ys)
 (h:∀h',Zs h' (s.heap.objs.size+4) (s.heap.objs.size+2) (s.heap.objs.size+3) [(k1,s.heap.objs.size,l1),(k2,s.heap.objs.size+1,l2)] 0->(∀c o,s.heap.get? c=aa o->h'.get? c=aa o) ->
  R (.ref (s.heap.objs.size+4)) { s with heap:=h' }):wpAny (model P w) B (call (.type "zip") [.ref l1,.ref l2]) R F' s:=by
 refine callType_new F.called_zip (by decide) (F.typeCall_zip_2 _ _) (F.newCall_zip_2 _ _) (λobj=>F.args_object_init_3 obj _ _) F.entry_zip_new (mk2 k1 k2 l1 l2 xs ys) ⟨a1,a2,?_⟩;intro h1 h2 h3 h4 e1 e2 e3 e4;have z1:h1.objs.size=s.heap.objs.size+1:=by rw[e1];exact oz ..
 have z2:h2.objs.size=s.heap.objs.size+2:=by rw[e2,oz,z1]
 have z3:h3.objs.size=s.heap.objs.size+3:=by rw[e3,oz,z2]
 have z4:h4.objs.size=s.heap.objs.size+4:=by rw[e4,oz,z3]
 have p1:∀c o,s.heap.get? c=aa o->h1.get? c=aa o:=λc o x=>by rw[e1];exact b8 _ x
 have p2:∀c o,h1.get? c=aa o->h2.get? c=aa o:=λc o x=>by rw[e2];exact b8 _ x
 have p3:∀c o,h2.get? c=aa o->h3.get? c=aa o:=λc o x=>by rw[e3];exact b8 _ x
 have p4:∀c o,h3.get? c=aa o->h4.get? c=aa o:=λc o x=>by rw[e4];exact b8 _ x
 have p5:∀c o,h4.get? c=aa o->(h4.push (zO h2.objs.size h3.objs.size)).get? c=aa o:=λc o x=>b8 _ x;have g1:h1.get? s.heap.objs.size=aa (oT k1 l1):=by rw[e1];exact de _ rfl
 have g2:h2.get? h1.objs.size=aa (oT k2 l2):=by rw[e2];exact de _ rfl
 have g3:h3.get? h2.objs.size=aa (tO [.ref s.heap.objs.size,.ref h1.objs.size]):=by rw[e3];exact de _ rfl
 have g4:h4.get? h3.objs.size=aa (tO [.none,.none]):=by rw[e4];exact de _ rfl
 have g5:(h4.push (zO h2.objs.size h3.objs.size)).get? h4.objs.size=aa (zO h2.objs.size h3.objs.size):=de _ rfl;show _/\_;refine⟨⟨_,g5,rfl⟩,?_⟩;rw[z1]at g2 g3;rw[z2]at g3;rw[z3]at g4;rw[z4]at g5 ⊢;rw[z2,z3]at g5 p5 ⊢;exact h _ ⟨g5,p5 _ _ (p4 _ _ g3),⟨_,rfl,p5 _ _ g4⟩,λq hq=>by
  rcases br.mp hq with rfl|hq
  ·exact⟨_,p5 _ _ (p4 _ _ (p3 _ _ (p2 _ _ g1))),rfl,rfl⟩
  ·obtain rfl:=dm.mp hq;exact⟨_,p5 _ _ (p4 _ _ (p3 _ _ g2)),rfl,rfl⟩⟩ λc o x=>p5 _ _ (p4 _ _ (p3 _ _ (p2 _ _ (p1 _ _ x))))
end
end Zp
namespace Zp
open PySem PySem.Spec PyProof.Rows L2 A
variable[Tb:A.bG]
def ju(H:Hp)(s:Bool×af)(xs:List V):Prop:=match s.1 with
 |true=>Lst H s.2 xs
 |false=>H s.2=aa (.tup xs)
theorem ju.nn{H:Hp}{s:Bool×af}{xs:List V}(h:ju H s xs):H s.2≠ac:=by
 obtain⟨k,a⟩:=s;cases k
 ·have h:H a=_:=h;show H a≠ac;rw[h];simp
 ·rcases(show Lst H a xs from h)with h|⟨o,h⟩
  ·show H a≠ac;rw[h];simp
  ·show H a≠ac;rw[h];simp
theorem ju.inj{H:Hp}{s:Bool×af}{xs ys:List V}(h:ju H s xs)(h':ju H s ys):xs=ys:=by
 obtain⟨k,a⟩:=s;cases k
 ·have h:H a=aa (.tup xs):=h;have h':H a=aa (.tup ys):=h';rw[h]at h';cases h';rfl
 ·rcases(show Lst H a xs from h)with h|⟨o,h⟩<;>rcases(show Lst H a ys from h')with h'|⟨o',h'⟩<;>rw[h]at h'<;>cases h'<;>rfl
theorem ju.at{X:Cx}{ae:List (af×Obj)}{σ:L2.St}{H:Hp}{s:ao}{k:Bool}{a:af}{xs:List V}(I:Inv X ae σ H s)(h:ju H (k,a) xs):∃aj:List ag,Vals xs aj/\g6 k s.heap a aj.toArray:=by
 cases k
 ·have h:H a=aa (.tup xs):=h;obtain⟨_,aj,rv,o,e,c,_,d⟩:=I.hok a _ h;exact⟨aj,rv,o,e,c,d⟩
 ·have h:Lst H a xs:=h;obtain⟨aj,rv,⟨o,n,e,c,_,d⟩,_⟩:=I.list h.sq;exact⟨aj,rv,o,e,c,n,d⟩
abbrev jy(H:Hp)(S:List (Bool×af))(xss:List (List V)):Prop:=P2 (λs xs=>ju H s xs) S xss
def qR(S:List (Bool×af)):It:=
 ⟨fun i H => ∃ xss, jy H S xss ∧ ∀ xs ∈ xss, i < xs.length,
  λi H v H'=>∃p ws,(∀xss,jy H S xss->P2 (λ(xs:List V) x=>xs[i]? = aa x) xss ws)/\H p=ac/\v=.ref p/\H'=upd H p (.tup ws),
  λi H=>∃xss,jy H S xss/\∃xs∈xss,xs.length<=i⟩
theorem EZ{H:Hp}:∀{S:List (Bool×af)} {xss yss:List (List V)},jy H S xss->jy H S yss->xss=yss
 |_,_,_,.nil,.nil=>rfl
 |_,_,_,.cons a r,.cons b t=>by rw[a.inj b,EZ r t]
theorem lie{X:Cx}{ae:List (af×Obj)}{σ:L2.St}{H:Hp}{s:ao}(I:Inv X ae σ H s):∀{T:List Tr} {xss:List (List V)},jy H (T.map λq=>(q.1,q.2.2)) xss ->
 ∃L:List Sr,L.map (λq=>(q.k,q.c,q.l))=T/\(∀q∈L,g6 q.k s.heap q.l q.us/\H q.l≠ac)/\P2 (λ(q:Sr) xs=>Vals xs q.us.toList) L xss
 |[],_,.nil=>⟨[],rfl,λq h=>absurd h (by simp),.nil⟩
 |(k,c,l)::T,_,.cons a r=>by
  obtain⟨L,e,h,p⟩:=lie I r;obtain⟨aj,rv,q⟩:=a.at I;refine⟨⟨k,c,l,aj.toArray⟩::L,by rw[cW,e],λy hy=>?_,.cons rv p⟩;rcases br.mp hy with rfl|hy
  ·exact⟨q,a.nn⟩
  ·exact h y hy
theorem pick{i:Nat}:∀{L:List Sr} {xss:List (List V)} {ws:List ag},P2 (λ(q:Sr) xs=>Vals xs q.us.toList) L xss->ws.length=L.length->(∀(j:Nat) (q:Sr),L[j]? = aa q->ws[j]? = q.us[i]?/\i<q.us.size) ->
 ∃vws:List V,Vals vws ws/\P2 (λ(xs:List V) x=>xs[i]? = aa x) xss vws
 |_,_,[],.nil,_,_=>⟨[],.nil,.nil⟩
 |_,_,w::ws,.cons (a:=q) (b:=xs) rv t,hl,h=>by
  obtain⟨vws,r,p⟩:=pick t (by simpa using hl) λj r hr=>by simpa using h (j+1) r (by simpa using hr)
  obtain⟨e,hi⟩:=h 0 q rfl;have hlen:=rv.length;have hix:i<xs.length:=by simp at hlen;omega
  obtain⟨u,hu,ru⟩:=rv.get (i:=i) (x:=xs[i]) (by simp[hix]);have:aa w=aa u:=by have e':aa w=q.us[i]?:=e;rw[e',<- hu];simp
  cases this;exact⟨xs[i]::vws,.cons ru r,.cons (by simp[hix]) p⟩
 |_,_,[],.cons _ _,hl,_=>by simp at hl
 |_,_,w::ws,.nil,hl,_=>by simp at hl
structure Bb(z TI TO:af)(T:List Tr):Prop where
 TIz:TI≠z
 TOz:TO≠z
 TITO:TI≠TO
 nd:(T.map (·.2.1)).Nodup
 c:∀q∈T,q.2.1≠z/\q.2.1≠TI/\q.2.1≠TO
theorem Lf{P:bh}{w:a6}{K:aD}{elts:List aU}{k1:Nat}{pos:Pos}{z TI TO:af}{T:List Tr}(D0:Bb z TI TO T)(hT0:T≠[])(hT8:T.length<=8) :
 Turn P w K (.Tuple elts k1 pos) (qR (T.map λq=>(q.1,q.2.2))) (z::TI::TO::T.map (·.2.1)) z (λi h=>Zs h z TI TO T i) where
 mem:=by simp
 obj:=λi h st b hb=>by
  rcases br.mp hb with rfl|hb
  ·exact⟨_,st.zz,λv q=>by cases q⟩
  rcases br.mp hb with rfl|hb
  ·exact⟨_,st.ti,λv q=>by cases q⟩
  rcases br.mp hb with rfl|hb
  ·obtain⟨vs,_,h⟩:=st.to;exact⟨_,h,λv q=>by cases q⟩
  ·obtain⟨q,hq,rfl⟩:=bR.mp hb;exact(st.it q hq).cell
 keep:=λi h h' st kk=>⟨kk z (by simp) _ st.zz,kk TI (by simp) _ st.ti,let ⟨vs,l,e⟩:=st.to;⟨vs,l,kk TO (by simp) _ e⟩,λq hq=>(st.it q hq).at λo e=>kk _ (by simp only[br];exact .inr (.inr (.inr (oq (f:=λq:Tr=>q.2.1) hq)))) o e⟩
 item:=by
  intro X hP hw hK hc i ae s σ H E I hf st hg;subst hP hw hK;obtain⟨xss,hq,hx⟩:=hg;obtain⟨L,eL,at_,rL⟩:=lie I hq;have eT:T.map (λq=>(cG q.2.1))=L.map λq=>.ref q.c:=by rw[<- eL,cX];rfl
  have eC:T.map (λq=>q.2.1)=L.map λq=>q.c:=by rw[<- eL,cX];rfl
  have lT:T.length=L.length:=by rw[<- eL,aQ]
  have inT:∀q∈L,(q.k,q.c,q.l)∈T:=λq h=>by rw[<- eL];exact oq (f:=λq:Sr=>(q.k,q.c,q.l)) h
  have lne:∀q∈L,∀b∈z::TI::TO::T.map (·.2.1),q.l≠b:=λq h b hb e=>(at_ q h).2 (by rw[e];exact(hf b hb).1);have D:Ap z TI TO L:=⟨D0.TIz,D0.TOz,D0.TITO,by rw[<- eC];exact D0.nd,λq h=>D0.c _ (inT q h),λq h=>⟨lne q h z (by simp),lne q h TO (by simp),λr hr=>lne q h r.c (by rw[eC];simp only[br];exact .inr (.inr (.inr (oq (f:=λq:Sr=>q.c) hr))))⟩⟩;have hO:=st.to;obtain⟨vs,vl,hO⟩:=hO;have hTI:=st.ti;rw[eT]at hTI;have hty:s.TypeIs (.ref z) "zip" := ⟨_,st.zz,rfl⟩;unfold pyNext;refine aB (s0 (qo (name:=lP "__next__") hty vZ (lK vZ hty F.entry_zip_next
   (E8 (by first|exact I.ok.hd hc|(simp;exact I.ok.hd hc)) D (λe=>hT0 (by rw[e]at lT;exact zm lT)) st.zz hTI hO (by rw[vl,lT]) (by omega) (λq h=>⟨st.it _ (inT q h),(at_ q h).1⟩) (λh' ws hz' wl wv hO' hN on' kp=>bn ?_) (λh' e kp he hend=>?_)) (F.args_zip_next_1 _))))
  ·refine⟨_,rfl,wpAny_letOwnedTupleGo_zip hz' λh2 hz2 hs2=>?_⟩;have kk:∀b o,b∉z::TI::TO::T.map (·.2.1)->s.heap.get? b=aa o->h2.get? b=aa o:=λb o hb q=>by
    simp only[br,not_or]at hb;exact(hs2.2 b hb.1).trans (kp b o hb.1 hb.2.2.1 (by rw[<- eC];exact hb.2.2.2) q)
   have hne:∀b∈z::TI::TO::T.map (·.2.1),b≠s.heap.objs.size:=λb hb e=>by
    obtain⟨o,ho,_⟩ : ∃o,s.heap.get? b=aa o/\True:=by
     rcases br.mp hb with rfl|hb
     ·exact⟨_,st.zz,trivial⟩
     rcases br.mp hb with rfl|hb
     ·exact⟨_,st.ti,trivial⟩
     rcases br.mp hb with rfl|hb
     ·exact⟨_,hO,trivial⟩
     ·obtain⟨q,hq,rfl⟩:=bR.mp hb;obtain⟨o,ho,_⟩:=st.it q hq;exact⟨o,ho,trivial⟩
    exact absurd (bS ho) (by rw[e];exact i6 _)
   obtain⟨vws,hv,hy⟩ : ∃vws:List V,Vals vws ws/\P2 (λ(xs:List V) x=>xs[i]? = aa x) xss vws:=by exact pick rL wl wv
   have hN2:TupAt h2 s.heap.objs.size ws:=(hs2.2 _ (λe=>hne z (by simp) e.symm)).trans hN;refine⟨.ref s.heap.objs.size,upd H s.heap.objs.size (.tup vws),Cf (s:=s) (t':=s.toks) I hf kk (bq _) ⟨?_,ws,hv,⟨_,hN2,rfl,rfl,_,rfl⟩⟩,rfl,⟨_,vws,λyss h=>by rw[EZ h hq];exact hy,I.hok.fresh (bq _),rfl,rfl⟩,?_,λb hb=>?_⟩
   ·rw[hv.length,wl,c6];omega
   ·refine⟨hz2,(hs2.2 _ D0.TIz).trans ?_,⟨ws,by rw[wl,lT],(hs2.2 _ D0.TOz).trans hO'⟩,λq hq2=>?_⟩
    ·exact kp _ _ D0.TIz D0.TITO (λh=>by
      rw[<- eC]at h;obtain⟨q,hq2,e⟩:=bR.mp h;exact(D0.c q hq2).2.1 e) st.ti
    ·rw[<- eL]at hq2;obtain⟨r,hr,rfl⟩:=bR.mp hq2;exact(on' r hr).1.at λo q=>(hs2.2 _ (D.c r hr).1).trans q
   ·rw[aG (hne b hb)];exact(hf b hb).1
  ·exfalso;obtain⟨q,hqm,hle⟩:=hend;obtain⟨j,hj⟩:=kM hqm;obtain⟨xs,hxs,rv⟩:=rL.getL hj;have:=hx xs (jz hxs);have:=rv.length;simp at this;omega
 done:=by
  intro X hP hw hK hc i ae s σ H E I hf st hg;subst hP hw hK;obtain⟨xss,hq,xs0,hx0,hxl⟩:=hg;obtain⟨L,eL,at_,rL⟩:=lie I hq;have eT:T.map (λq=>(cG q.2.1))=L.map λq=>.ref q.c:=by rw[<- eL,cX];rfl
  have eC:T.map (λq=>q.2.1)=L.map λq=>q.c:=by rw[<- eL,cX];rfl
  have lT:T.length=L.length:=by rw[<- eL,aQ]
  have inT:∀q∈L,(q.k,q.c,q.l)∈T:=λq h=>by rw[<- eL];exact oq (f:=λq:Sr=>(q.k,q.c,q.l)) h
  have lne:∀q∈L,∀b∈z::TI::TO::T.map (·.2.1),q.l≠b:=λq h b hb e=>(at_ q h).2 (by rw[e];exact(hf b hb).1);have D:Ap z TI TO L:=⟨D0.TIz,D0.TOz,D0.TITO,by rw[<- eC];exact D0.nd,λq h=>D0.c _ (inT q h),λq h=>⟨lne q h z (by simp),lne q h TO (by simp),λr hr=>lne q h r.c (by rw[eC];simp only[br];exact .inr (.inr (.inr (oq (f:=λq:Sr=>q.c) hr))))⟩⟩;have hO:=st.to;obtain⟨vs,vl,hO⟩:=hO;have hTI:=st.ti;rw[eT]at hTI;have hty:s.TypeIs (.ref z) "zip" := ⟨_,st.zz,rfl⟩;unfold pyNext;refine aB (s0 (qo (name:=lP "__next__") hty vZ (lK vZ hty F.entry_zip_next
   (E8 (by first|exact I.ok.hd hc|(simp;exact I.ok.hd hc)) D (λe=>hT0 (by rw[e]at lT;exact zm lT)) st.zz hTI hO (by rw[vl,lT]) (by omega) (λq h=>⟨st.it _ (inT q h),(at_ q h).1⟩) (λh' ws hz' wl wv hO' hN on' kp=>?_) (λh' e kp he hend=>?_)) (F.args_zip_next_1 _))))
  ·exfalso;obtain⟨j,hj⟩:=kM hx0;obtain⟨q,hqj,rv⟩:=rL.xc hj;have:=(wv j q hqj).2;have:=rv.length;simp at this;omega
  ·obtain⟨o,ho,hcl⟩:=he;refine aB (wpAny_isInstance (T := "StopIteration") (b:=true) ⟨o,ho,hcl⟩ isSubtype_stop (bn ⟨rfl,?_⟩));exact yR (s:=s) (t':=s.toks) I hf λb o hb q=>by
    simp only[br,not_or]at hb;exact kp b o hb.1 hb.2.2.1 (by rw[<- eC];exact hb.2.2.2) q
 self:=λ_ i s Q E st h=>wpAny_pyIter_zip st.zz h
end Zp
namespace Mi
def wF:D->Rs (List D)
 |.lst ds=>.ok ds
 |.tup ds=>.ok ds
 |_=>.no
def yY(a b:E):I:=λe=>(a e).bind λx=>(b e).bind λy=>(wF x).bind λds=>(wF y).bind λes=>.ok (iR ds es)
end Mi
namespace Zp
open PySem PySem.Spec PyProof.Rows L2 A
open Mi (D W Rs Fin aw)
variable[Tb:A.bG]
theorem ju.same{H H':Hp}{s:Bool×af}{xs:List V}(h:cg H H')(q:ju H s xs):ju H' s xs:=by
 obtain⟨k,a⟩:=s;cases k
 ·exact h _ _ q
 ·exact Lst.same (a:=a) h q
theorem sg{H H':Hp}{S:List (Bool×af)}{xss:List (List V)}(h:cg H H')(q:jy H S xss):jy H' S xss:=q.imp λ_ _ x=>x.same h
def DV(dss:List (List D))(dz:List D):Prop:=(∀i,i<dz.length->∃us,dz[i]? = aa (.tup us)/\P2 (λ(ds:List D) u=>ds[i]? = aa u) dss us)/\∃ds∈dss,ds.length=dz.length
theorem picks{Hv:Hp}{i:Nat}:∀{dss:List (List D)} {xss:List (List V)} {us:List D} {ws:List V},P2 (P2 (Rep Hv)) dss xss->P2 (λ(ds:List D) u=>ds[i]? = aa u) dss us->P2 (λ(xs:List V) x=>xs[i]? = aa x) xss ws->P2 (Rep Hv) us ws
 |_,_,_,_,.nil,.nil,.nil=>.nil
 |_,_,_,_,.cons a r,.cons b s,.cons c t=>.cons (a.get b c) (picks r s t)
theorem CW{α β:Type}{F:α->β->Prop}:∀{l:List α} {m:List β} {b:β},P2 F l m->b∈m->∃a∈l,F a b
 |_,_,_,.cons x t,h=>by
  rcases br.mp h with rfl|h
  ·exact⟨_,bP ..,x⟩
  ·obtain⟨a,ha,q⟩:=CW t h;exact⟨a,cy _ ha,q⟩
theorem yo{α β:Type}{F:α->β->Prop}:∀{l:List α} {m:List β} {a:α},P2 F l m->a∈l->∃b∈m,F a b
 |_,_,_,.cons x t,h=>by
  rcases br.mp h with rfl|h
  ·exact⟨_,bP ..,x⟩
  ·obtain⟨a,ha,q⟩:=yo t h;exact⟨a,cy _ ha,q⟩
def ZP(S:List (Bool×af))(dss:List (List D))(xss:List (List V))(_ Hv:Hp):Prop:=jy Hv S xss/\P2 (P2 (Rep Hv)) dss xss
theorem Jj{S:List (Bool×af)}{dss:List (List D)}{xss:List (List V)}{dz:List D}(hz:DV dss dz):oS (qR S) (ZP S dss xss) dz:=by
 refine⟨λi H Hv p v hi=>?_,λi H Hv x H' p v hi y=>?_,λH Hv p v=>?_⟩
 ·obtain⟨us,_,hu⟩:=hz.1 i hi;refine⟨xss,sg v.sub p.1,λxs hx=>?_⟩;obtain⟨ds,hd,r⟩:=CW p.2 hx;obtain⟨u,_,e⟩:=yo hu hd;have:=(ca.mp e).1;rw[<- r.len];exact this
 ·obtain⟨us,hd,hu⟩:=hz.1 i hi;obtain⟨q,ws,hw,hq,rfl,rfl⟩:=y;have r:=picks p.2 hu (hw xss (sg v.sub p.1));obtain⟨g,k⟩:=zj v r hq;exact⟨_,.tup us,g,hd,k⟩
 ·obtain⟨ds,hd,e⟩:=hz.2;obtain⟨xs,hx,r⟩:=yo p.2 hd;exact⟨xss,sg v.sub p.1,xs,hx,by rw[<- r.len];omega⟩
theorem Bv:∀ds es:List D,DV [ds,es] (Mi.iR ds es)
 |[],es=>⟨λi h=>absurd h (by simp[Mi.iR]),[],by simp,by simp[Mi.iR]⟩
 |d::r,[]=>⟨λi h=>absurd h (by simp[Mi.iR]),[],by simp,by simp[Mi.iR]⟩
 |d::r,e::s=>by
  obtain⟨h1,ds,hd,hl⟩:=Bv r s;refine⟨λi hi=>?_,?_⟩
  ·cases i with
   |zero=>exact⟨[d,e],rfl,.cons rfl (.cons rfl .nil)⟩
   |succ i=>
    obtain⟨us,a,b⟩:=h1 i (by simpa [Mi.iR]using hi);refine⟨us,by simpa [Mi.iR]using a,?_⟩;cases b with
    |cons x t=>
     cases t with
     |cons y t=>cases t;exact .cons (by simpa using x) (.cons (by simpa using y) .nil)
  ·rcases br.mp hd with rfl|hd
   ·exact⟨d::ds,by simp,by simp[Mi.iR,hl]⟩
   ·obtain rfl:=dm.mp hd;exact⟨e::ds,by simp,by simp[Mi.iR,hl]⟩
theorem FY{x:D}{k:List D->Prop}(h:Fin (Mi.wF x) k):∃ds,(x=.lst ds\/x=.tup ds)/\k ds:=by
 cases x with
 |lst b=>exact⟨b,.inl rfl,h⟩
 |tup b=>exact⟨b,.inr rfl,h⟩
 |_=>exact h.elim
theorem Fp{H:Hp}{x:D}{ds:List D}{v:V}(h:x=.lst ds\/x=.tup ds)(r:Rep H x v):∃k a xs,v=.ref a/\ju H (k,a) xs/\P2 (Rep H) ds xs:=by
 rcases h with rfl|rfl
 ·obtain⟨a,xs,e,l,r⟩:=k3.mp r;exact⟨true,a,xs,e,l,r⟩
 ·obtain⟨a,xs,e,l,r⟩:=iq.mp r;exact⟨false,a,xs,e,l,r⟩
section
variable{X:Cx}{elts:List aU}{k1:Nat}{tpos:Pos}{M:Nat->Bool}
theorem kZ{a b:Nat}(h:a≠b):@Ne af a b:=h
theorem OM{n:Nat}:∀{b:Nat},b∈([n+4,n+2,n+3,n,n+1]:List Nat)->n<=b:=λ{b} h=>by simp at h;omega
theorem Jl(n:Nat)(k k':Bool)(l l':af):Bb (n+4) (n+2) (n+3) [(k,n,l),(k',n+1,l')]:=
 ⟨kZ (by omega),kZ (by omega),kZ (by omega),by show([n,n+1]:List Nat).Nodup;simp,λq hq=>by
  rcases br.mp hq with rfl|hq
  ·exact⟨kZ (show n≠n+4 by omega),kZ (show n≠n+2 by omega),kZ (show n≠n+3 by omega)⟩
  ·obtain rfl:=dm.mp hq;exact⟨kZ (show n+1≠n+4 by omega),kZ (show n+1≠n+2 by omega),kZ (show n+1≠n+3 by omega)⟩⟩
def DP(ta tb:TE):TI:=λσ H R=>ta σ H λx H1=>tb σ H1 λy H2=>∃S xss,[x,y]=S.map (λs:Bool×af=>V.ref s.2)/\S.length=2/\jy H2 S xss/\R (qR S) H2
theorem Nz{a b:aU}{ta tb:TE}{p pos:Pos}(hg:Gl X "zip")(hm:X.mg "zip" = ac)(ha:PE X a ta)(hb:PE X b tb)(hs:starEach [a,b] X.env=[(false,eval a X.env),(false,eval b X.env)]:=by rfl)(hs0:starEach [a,b] X.env=(false,eval a X.env)::starEach [b] X.env:=by rfl)(hs1:starEach [b] X.env=(false,eval b X.env)::starEach [] X.env:=by rfl)(hpl:(backTo pos (starEach [b] X.env)).any (·.1)=false:=by rfl) :
 PI X (.Tuple elts k1 tpos) (.Call (.Name "zip" p) [a,b] [] pos) (DP ta tb):=by
 intro ae s σ H R I h;refine Call_ (ng I hg hm boot_zip (v7 (aX (ax ha (ax hb a8 hs1) hs0 pos ae s σ H (λvs H1=>∃S xss,vs=S.map (λs:Bool×af=>V.ref s.2)/\S.length=2/\jy H1 S xss/\R (qR S) H1) I ?_) λus s1 ⟨vs,H1,I1,r1,q1⟩=>?_) hs0 hpl))
 ·exact h
 ·obtain⟨S,xss,e,hl,hS,q⟩:=q1;obtain⟨⟨k,l⟩,⟨k',l'⟩,rfl⟩ : ∃x y,S=[x,y]:=by
   match S,hl with
   |[x,y],_=>exact⟨x,y,rfl⟩
  subst e;have hS0:=hS;cases hS with
  |cons s1' t=>
  cases t with
  |cons s2' t=>
  cases t;cases r1 with
  |cons u1 r1=>
  cases r1 with
  |cons u2 r1=>
  cases r1;cases u1;cases u2;obtain⟨i1,_,a1⟩:=s1'.at I1;obtain⟨i2,_,a2⟩:=s2'.at I1;refine call2 a1 a2 λh' hZ hk=>wpAny_pyIter_zip hZ.zz ?_;have I2:Inv X ae σ H1 { s1 with heap:=h' }:=I1.kept (t':=s1.toks) λb o e=>hk b o e;refine⟨_,_,_,_,H1,rfl,I2,Lf (z:=s1.heap.objs.size+4) (TI:=s1.heap.objs.size+2) (TO:=s1.heap.objs.size+3) (Jl _ k k' l l') (by simp) (by simp),hZ,λb hb=>?_,q⟩;have hb:s1.heap.objs.size<=b:=OM hb;exact I1.gR hb (I1.hok.fresh hb)
theorem Jf{ta tb:TE}{a b:Mi.E}(ha:AE M qV ta a)(hb:AE M qV tb b):gK M (DP ta tb) (Mi.yY a b):=λe σ H Hv R I h=>
 ha e σ H Hv _ I ((aw.mp h).mono λx hx v H1 Hv1 g1 rx=>hb e σ H1 Hv1 _ (I.grow g1) ((aw.mp hx).mono λy hy u H2 Hv2 g2 ry=>by
  obtain⟨ds,hd,hk⟩:=FY (aw.mp hy);obtain⟨es,he,hk⟩:=FY (aw.mp hk);obtain⟨k,a,xs,rfl,s1,r1⟩:=Fp hd (iZ g2.vis (show Rep Hv1 x v from rx));obtain⟨k',a',ys,rfl,s2,r2⟩:=Fp he (show Rep Hv2 y u from ry);have S2:jy Hv2 [(k,a),(k',a')] [xs,ys]:=.cons s1 (.cons s2 .nil);exact⟨[(k,a),(k',a')],[xs,ys],rfl,rfl,sg g2.vw.sub S2,hk (qR [(k,a),(k',a')]) H2 Hv2 (ZP [(k,a),(k',a')] [ds,es] [xs,ys]) (g1.trans g2) (Jj (Bv ds es)) ⟨S2,.cons r1 (.cons r2 .nil)⟩ λ_ _ _ _ z s _=>⟨sg s z.1,z.2.imp λ_ _ q=>eA s q⟩⟩))
end
end Zp
namespace Zp
open PySem PySem.Spec PyProof.Rows L2 A
open Mi (D W Rs Fin aw)
variable[Tb:A.bG]
section
variable{X:Cx}{ae:List (af×Obj)}{σ:L2.St}{H:Hp}{s:ao}{B:bx}{E:ag->ao->Prop}{Q:ag->ao->Prop}{b:Bool}
theorem kit_at{x:V}{u t:ag}(I:Inv X ae σ H s)(rx:RelV x u)(ty:gE X.K H x t):∃P:aJ->Prop,PySem.W.KitX X.K u t P/\P s.heap/\u≠.builtin "__main__.__loader__#opaque":= by
 cases ty with
 |non=>cases(show u=fJ from rx);exact⟨_,Hb,gJ,λz=>nomatch z⟩
 |bl y=>cases(show u=i9 y from rx);exact⟨_,He,gJ,λz=>nomatch z⟩
 |int i=>obtain⟨t,q⟩:=(show∃t,u=Value.int i t from rx);cases q;exact⟨_,Hg,gJ,λz=>nomatch z⟩
 |str y=>obtain⟨t,q⟩:=(show∃t,u=lN y t from rx);cases q;exact⟨_,Hj,gJ,λz=>nomatch z⟩
 |flt y=>obtain⟨t,q⟩:=(show∃t,u=zY y t from rx);cases q;exact⟨_,G6,gJ,λz=>nomatch z⟩
 | @lst a xs ea=>
  cases(show u=cG a from rx);obtain⟨_,_,n,_,h1⟩:=(show bW X.prog X.w H s.heap a (.lst xs)from I.hok a _ ea);exact⟨_,vE,⟨_,h1,rfl⟩,λz=>nomatch z⟩
 | @frz a ob xs ea=>
  cases(show u=cG a from rx);obtain⟨_,_,_,n,_,h1⟩:=(show bW X.prog X.w H s.heap a (.frz ob (.lst xs))from I.hok a _ ea);exact⟨_,vE,⟨_,h1,rfl⟩,λz=>nomatch z⟩
 | @tup a xs ea=>
  cases(show u=cG a from rx);obtain⟨_,_,_,o,h1,h2,_⟩:=(show bW X.prog X.w H s.heap a (.tup xs)from I.hok a _ ea);exact⟨_,G7,⟨o,h1,h2⟩,λz=>nomatch z⟩
 | @dK a ai ea=>
  cases(show u=cG a from rx);obtain⟨_,_,vs,_,o,es,ep,h1,h2,_⟩:=(show bW X.prog X.w H s.heap a (.dK ai)from I.hok a _ ea);exact⟨_,vF,⟨o,h1,h2.1⟩,λz=>nomatch z⟩
 | @dT a ai ea=>
  cases(show u=cG a from rx);obtain⟨_,_,xs,_,o,es,ep,h1,h2,_⟩:=(show bW X.prog X.w H s.heap a (.dT ai)from I.hok a _ ea);exact⟨_,vF,⟨o,h1,h2.1⟩,λz=>nomatch z⟩
 | @ins a C dx fs ea cl ha hn htk hm=>
  cases(show u=cG a from rx);obtain⟨mA,O,_⟩:=Dz I.hok ea;obtain⟨od,J,_⟩:=O.look;exact⟨_,Hk (cl.get _) cl.hd ha hn htk hm,J,λz=>nomatch z⟩
theorem CL:∀{Ts:List String} {us:List ag},Vals (Ts.map V.ty) us->us=Ts.map .type
 |[],_,.nil=>rfl
 |T::r,_,.cons a t=>by
  have a:_=v5 T:=a;rw[a,CL t];rfl
def FU(K:aD):List V->Hp->VK->Prop:=λxs H Q=>∃(x:V) (t:ag) (tp:af) (Ts:List String) (b:Bool),xs=[x,.ref tp]/\H tp=aa (.tup (Ts.map V.ty))/\gE K H x t/\zL K t (Ts.map .type)=aa b/\Q (.bl b) H
theorem DB:fU X (.builtin "isinstance") (FU X.K):=by intro ae s σ H xs us Q I r h;obtain⟨x,t,tp,Ts,b,rfl,ht,ty,e,q⟩:=h;obtain⟨u,w',rfl,rx,rt⟩:=vals2 r;cases(show w'=cG tp from rt);obtain⟨_,aj,rv,o,h1,h2,_,n,h3⟩:=(show bW X.prog X.w H s.heap tp (.tup (Ts.map V.ty))from I.hok tp _ ht);obtain rfl:=CL rv;obtain⟨c,d,dt,sl⟩:=o;simp only at h2 h3;subst h2 h3;obtain⟨P,kx,p,hn⟩:=kit_at I rx ty;exact PySem.W.kia_tup kx I.ff p h1 e hn λtk=>⟨.bl b,H,I.tok tk,rfl,q⟩
end
theorem F4{K:aD}{d:D}:∀{Ts:List String},(∀T∈Ts,jT K T)->zL K (.type (Mi.yq d)) (Ts.map .type)=aa (Ts.any λt=>Mi.oQ t d)
 |[],_=>rfl
 |T::r,h=>by
  have h1:=h T (bP ..) d;have h2:=F4 (d:=d) λT' hT=>h T' (cy _ hT);rw[cW,zL,h1];cases e:Mi.oQ T d
  ·simp only[iF,e,vW];exact h2
  ·simp only[iF,e,Bool.true_or]
theorem GC{K:aD}{S T:String}(h:jT K S)(g:jT K T):∀U∈[S,T],jT K U:=λU hU=>by
 rcases br.mp hU with rfl|hU
 ·exact h
 ·obtain rfl:=dm.mp hU;exact g
def xP:List String->TA
 |[]=>ip
 |T::r=>gm (tC (.ty T)) (xP r)
theorem C6:∀(Ts:List String) (σ:L2.St) (H:Hp) (Q:List V->Hp->Prop),Q (Ts.map V.ty) H->xP Ts σ H Q
 |[],_,_,_,h=>h
 |T::r,σ,H,Q,h=>C6 r σ H _ h
section
variable{M:Nat->Bool}{K:aD}{ta:TE}{a:Mi.E}
theorem BH{Ts:List String}(hT:∀T∈Ts,jT K T)(hl:Ts.length<=8)(ha:AE M qP ta a):AE M qV (qY (FU K) (gm ta (gm (yx (xP Ts)) ip))) (Mi.m1 (Mi.cP Ts) a):=λe σ H Hv Q I h=>
 ha e σ H Hv _ I ((aw.mp h).mono λx hx v H1 Hv1 g1 rx=>C6 Ts σ H1 _ ⟨by rw[aQ,c6];omega,λp hp=>by
  have g2:bw H1 Hv1 (upd H1 p (.tup (Ts.map V.ty))) (upd Hv1 p (.tup (Ts.map V.ty))):=.new g1.vw hp;have g:=g1.trans g2;exact⟨v,_,p,Ts,_,rfl,bu,Ft g.vw (RB.grow g2 rx),F4 hT,(Mi.lA hx) _ _ _ g fA⟩⟩)
end
end Zp
namespace Mi
end Mi
namespace Zp
open PySem PySem.Spec PyProof.Rows L2 A
open Mi (D W Rs Fin aw)
open AutoSeq1 (wpAny_loadPart')
variable[Tb:A.bG]
end Zp
namespace Mi
def Ga(k v:E):EW:=λe=>(k e).bind λd=>(v e).bind λx=>(cQ (nq d)).bind λy=>.ok (.dk [(y,x)])
end Mi
namespace Zp
open PySem PySem.Spec PyProof.Rows L2 A
open Mi (D W Rs Fin aw)
variable[Tb:A.bG]
section
variable{X:Cx}{M:Nat->Bool}{κ:Kd}
theorem JL{k v:aU}{tk tv:TE}{pos:Pos}(hk:PE X k tk)(hv:PE X v tv):PE X (.Dict [aa k] [v] pos) (yv [(tk,tv)]):=Li (LB hk hv Lu) rfl rfl (by simp) (by simp)
theorem Kk{tk tv:TE}{k v:Mi.E}(hk:AE M qV tk k)(hv:AE M qV tv v):AW M qN (yv [(tk,tv)]) (Mi.Ga k v):=λe σ H Hv Q I h p hp=>by
 have g0:bw H Hv (upd H p (.dK [])) Hv:=.qf I.vw trivial hp;refine hk e σ _ Hv _ (I.grow g0) ((aw.mp h).mono λd hd x H1 Hv1 g1 rx=>hv e σ H1 Hv1 _ ((I.grow g0).grow g1) ((aw.mp hd).mono λc hc y H2 Hv2 g2 ry=>?_));obtain⟨z,hz,hq⟩:=gD (aw.mp hc);have hx:=tP hz (show Rep Hv1 d x from rx);subst hx;have hp2:H2 p=aa (.dK []):=g2.old.at (g1.old.at bu);have n1:Hv1 p=ac:=g1.hid p _ bu (om I.vw hp);have n2:Hv2 p=ac:=g2.hid p _ (g1.old.at bu) n1;have G:=g0.trans (g1.trans g2);refine⟨hp2,[(z,y)],rfl,by simp,hq (.ref p) (upd H2 p (.dK [(z,y)])) Hv2 ⟨G.old.put hp hp2,g1.vis.trans g2.vis,⟨λb u q=>?_,λb xs q=>?_,λb o u q=>?_,g2.vw.cd.put hp2 trivial trivial,g2.vw.nv⟩,G.hid⟩ ⟨p,.dK [(z,y)],rfl,hp,bu,n2,.cons ⟨rfl,show Rep Hv2 c y from ry⟩ .nil⟩⟩
 ·have hb:b≠p:=cE q n2;rw[aG hb];exact g2.vw.sub _ _ q
 ·by_cases hb:b=p
  ·subst hb;rw[bu]at q;cases q
  ·rw[aG hb]at q;exact g2.vw.tup _ _ q
 ·by_cases hb:b=p
  ·subst hb;rw[bu]at q;cases q
  ·rw[aG hb]at q;exact g2.vw.frz _ _ _ q
end
end Zp
namespace Mi
abbrev SN:=List D->List D->Env->Rs Out
end Mi
namespace Zp
open PySem PySem.Spec PyProof.Rows L2 A
open Mi (D W Rs Fin aw Out)
variable[Tb:A.bG]
end Zp
namespace A
end A
namespace A
end A
namespace Mi
open PySem
def Kh(xs ys:List Str):Bool:=xs.all (λx=>decide (x∈ys))&&ys.all (λy=>decide (y∈xs))
end Mi
namespace A
end A
namespace A
end A
namespace So
open PySem PySem.W PyProof.Rows
def gL{α:Type}(n:Nat)(lt:Nat->Nat->Bool):KasT α->(α->Prop)->Prop
 |.ret a,Q=>Q a
 |.ask i j k,Q=>i<n/\j<n/\gL n lt (k (lt i j)) Q
theorem oO{α β:Type}{n:Nat}{lt:Nat->Nat->Bool}{f:α->KasT β}{Q:β->Prop}:∀{t:KasT α},gL n lt t (λa=>gL n lt (f a) Q)->gL n lt (t.bind f) Q
 |.ret _,h=>h
 |.ask _ _ k,h=>⟨h.1,h.2.1,oO (t:=k _) h.2.2⟩
theorem kF{α:Type}{n:Nat}{lt:Nat->Nat->Bool}{Q Q':α->Prop}(m:∀a,Q a->Q' a):∀{t:KasT α},gL n lt t Q->gL n lt t Q'
 |.ret _,h=>m _ h
 |.ask _ _ k,h=>⟨h.1,h.2.1,kF m (t:=k _) h.2.2⟩
theorem GI{α:Type}{n:Nat}{lt:Nat->Nat->Bool}{cmp:Nat->Nat->(Bool->ao->Prop)->ao->Prop}{s:ao}(hc:∀i j C,i<n->j<n->C (lt i j) s->cmp i j C s){Q:α->Prop}:∀{t:KasT α},gL n lt t Q->t.kasWp cmp (λa s'=>s'=s/\Q a) s
 |.ret _,h=>⟨rfl,h⟩
 |.ask i j k,h=>hc i j _ h.1 h.2.1 (GI hc (t:=k _) h.2.2)
section
variable{n:Nat}{lt:Nat->Nat->Bool}
structure sO(n:Nat)(lt:Nat->Nat->Bool):Prop where
 tot:∀i j,i<n->j<n->i≠j->lt i j=true\/lt j i=true
 asy:∀i j,i<n->j<n->lt i j=true->lt j i=false
 tr:∀i j k,i<n->j<n->k<n->lt i j=true->lt j k=true->lt i k=true
abbrev at'(p:Array Nat)(i:Nat):Nat:=p.getD i 0
structure Pm(n:Nat)(p:Array Nat):Prop where
 pm:p.Perm (d6 (bT n))
theorem Pm.size{p:Array Nat}(h:Pm n p):p.size=n:=by have:=h.pm.size_eq;simpa using this
theorem rp{p:Array Nat}{i:Nat}(h:i<p.size):at' p i=p[i]:=by simp[at',Array.getD,h]
theorem Pm.bd{p:Array Nat}(h:Pm n p){i:Nat}(hi:i<n):at' p i<n:=by
 have hs:i<p.size:=by rw[h.size];exact hi
 rw[rp hs];have:p[i]∈(d6 (bT n)).toList:=(tF.mp h.pm).mem_iff.mp (by simp);simpa using this
theorem Pm.inj{p:Array Nat}(h:Pm n p){i j:Nat}(hi:i<n)(hj:j<n)(e:at' p i=at' p j):i=j:=by
 have si:i<p.size:=by rw[h.size];exact hi
 have sj:j<p.size:=by rw[h.size];exact hj
 rw[rp si,rp sj]at e;have nd:p.toList.Nodup:=(tF.mp h.pm).nodup_iff.mpr (by simpa using zC);have e2:p.toList[i]'(by simpa using si)=p.toList[j]'(by simpa using sj):=by simpa using e
 exact(lI nd).mp e2
def Sd(lt:Nat->Nat->Bool)(p:Array Nat)(k:Nat):Prop:=∀i j,i<j->j<k->lt (at' p i) (at' p j)=true
def Dd(lt:Nat->Nat->Bool)(p:Array Nat)(k:Nat):Prop:=∀i j,i<j->j<k->lt (at' p j) (at' p i)=true
variable(O:sO n lt)
include O
theorem not_lt{p:Array Nat}(h:Pm n p){i j:Nat}(hi:i<n)(hj:j<n)(ne:i≠j)(e:lt (at' p i) (at' p j)=false):lt (at' p j) (at' p i)=true:=by
 rcases O.tot _ _ (h.bd hi) (h.bd hj) (λz=>ne (h.inj hi hj z))with z|z
 ·rw[e]at z;cases z
 ·exact z
theorem Sd.more{p:Array Nat}(h:Pm n p){k:Nat}(s:Sd lt p k)(hk:1<=k)(hkn:k<n)(e:lt (at' p (k-1)) (at' p k)=true):Sd lt p (k+1):=λi j hij hj=>by
 by_cases hjk:j<k
 ·exact s i j hij hjk
 ·obtain rfl:j=k:=by omega
  by_cases hi:i=j-1
  ·subst hi;exact e
  ·exact O.tr _ _ _ (h.bd (by omega)) (h.bd (by omega)) (h.bd hkn) (s i (j-1) (by omega) (by omega)) e
theorem Dd.more{p:Array Nat}(h:Pm n p){k:Nat}(s:Dd lt p k)(hk:1<=k)(hkn:k<n)(e:lt (at' p k) (at' p (k-1))=true):Dd lt p (k+1):=λi j hij hj=>by
 by_cases hjk:j<k
 ·exact s i j hij hjk
 ·obtain rfl:j=k:=by omega
  by_cases hi:i=j-1
  ·subst hi;exact e
  ·exact O.tr _ _ _ (h.bd hkn) (h.bd (by omega)) (h.bd (by omega)) e (s i (j-1) (by omega) (by omega))
theorem xa{p:Array Nat}(h:Pm n p):∀(f k:Nat),1<=k->k+f<=n->Sd lt p k->gL n lt (kas_asc p f k) λm=>k<=m/\m<=k+f/\Sd lt p m/\(m=k+f\/lt (at' p m) (at' p (m-1))=true)
 |0,k,_,_,s=>⟨bq _,bq _,s,.inl rfl⟩
 |f+1,k,h1,h2,s=>by
  refine⟨h.bd (by omega),h.bd (by omega),?_⟩;cases e:lt (p.getD k 0) (p.getD (k-1) 0)with
  |true=>exact⟨bq _,by omega,s,.inr e⟩
  |false=>
   dsimp only;rw[aP c7];refine kF (λm hm=>?_) (xa h f (k+1) (by omega) (by omega) (Sd.more O h s h1 (by omega) (not_lt O h (by omega) (by omega) (by omega) e)));refine⟨by omega,by omega,hm.2.2.1,?_⟩;rcases hm.2.2.2 with z|z
   ·exact .inl (by omega)
   ·exact .inr z
theorem EU{p:Array Nat}(h:Pm n p):∀(f k:Nat),1<=k->k+f<=n->Dd lt p k->gL n lt (kas_desc f p k 0) λr=>r.1=p/\k<=r.2.1/\r.2.1<=k+f/\r.2.2=0/\Dd lt p r.2.1
 |0,k,_,_,s=>⟨rfl,bq _,bq _,rfl,s⟩
 |f+1,k,h1,h2,s=>by
  refine⟨h.bd (by omega),h.bd (by omega),?_⟩;cases e:lt (p.getD k 0) (p.getD (k-1) 0)with
  |true=>
   dsimp only;rw[aN rfl,aP (by omega)];refine kF (λr hr=>⟨hr.1,by omega,by omega,hr.2.2.2⟩) (EU h f (k+1) (by omega) (by omega) (Dd.more O h s h1 (by omega) e))
  |false=>
   dsimp only;rw[aP c7];refine⟨h.bd (by omega),h.bd (by omega),?_⟩;dsimp only;rw[show lt (p.getD (k-1) 0) (p.getD k 0)=true from not_lt O h (by omega) (by omega) (by omega) e,aN rfl];exact⟨rfl,bq _,by show k<=_;omega,rfl,s⟩
theorem FG{p:Array Nat}{k:Nat}(hk:k<=p.size)(i:Nat):at' (kas_rev p 0 k) i=if i<k then at' p (k-1-i)else at' p i:=by
 have e:=getElem?_mirror_all (xs:=p) (i:=0) (j:=k) hk i;show(kas_rev p 0 k).getD i 0=_;have g:∀(q:Array Nat) (j:Nat),q.getD j 0=(q[j]?).getD 0:=λq j=>by simp
 rw[g];unfold kas_rev;rw[e];by_cases hi:i<k
 ·rw[aN ⟨eK _,hi⟩,aN hi,<- g,show 0+k-1-i=k-1-i by omega]
 ·rw[aP (by omega),aP hi,<- g]
theorem DL{p:Array Nat}(h:Pm n p)(k:Nat):Pm n (kas_rev p 0 k):=⟨(mirror_perm _ _ _ _).trans h.pm⟩
theorem DK{p:Array Nat}(h:Pm n p){k:Nat}(h1:1<=k)(h2:k<=n)(s:Dd lt p k):gL n lt (kas_tail3 k n p) λr=>Pm n r.2/\1<=r.1/\r.1<=n/\Sd lt r.2 r.1:=by
 have sz:k<=p.size:=by rw[h.size];exact h2
 have s':Sd lt (kas_rev p 0 k) k:=λi j hij hj=>by
  rw[FG O sz,FG O sz,aN (by omega),aN hj];exact s _ _ (by omega) (by omega)
 refine oO (kF (λm hm=>?_) (xa O (DL O h k) (n-k) k h1 (by omega) s'));exact⟨DL O h k,by omega,by omega,hm.2.2.1⟩
theorem Oa{p:Array Nat}(h:Pm n p){k:Nat}(h2:k+1<=n)(s:Dd lt p (k+1)):gL n lt (kas_descPart k n p) λr=>Pm n r.2/\1<=r.1/\r.1<=n/\Sd lt r.2 r.1:=by refine oO (kF (λr hr=>?_) (EU O h (n-(k+1)) (k+1) (by omega) (by omega) s));obtain⟨e1,l1,l2,e2,d⟩:=hr;rw[e2,aP (by omega),e1];exact DK O h (by omega) (by omega) d
theorem NA{p:Array Nat}(h:Pm n p)(h1:1<=n):gL n lt (kas_count n p) λr=>Pm n r.2/\1<=r.1/\r.1<=n/\Sd lt r.2 r.1:=by
 refine oO (kF (λm hm=>?_) (xa O h (n-1) 1 (bq _) (by omega) (λi j hij hj=>by omega)));obtain⟨m1,m2,s,e⟩:=hm;by_cases hn:m=n
 ·rw[aN (by simpa using hn)];exact⟨h,m1,by omega,s⟩
 ·rw[aP (by simpa using hn)];have e:=e.resolve_left (by omega);by_cases hg:m>1
  ·rw[aN hg];refine⟨h.bd (by omega),h.bd (by omega),?_⟩;dsimp only;rw[show lt (p.getD 0 0) (p.getD (m-1) 0)=true from s 0 (m-1) (by omega) (by omega),aN rfl];exact⟨h,m1,by omega,s⟩
  ·rw[aP hg];obtain rfl:m=1:=by omega
   refine Oa O h (by omega) λi j hij hj=>?_;obtain rfl:i=0:=by omega
   obtain rfl:j=1:=by omega
   exact e
theorem yi{p:Array Nat}(h:Pm n p){k:Nat}(hk:k<n)(s:Sd lt p k):∀(f l r:Nat),l<=r->r<=k->r-l<=f->(∀i,i<l->lt (at' p i) (at' p k)=true)->(∀i,r<=i->i<k->lt (at' p k) (at' p i)=true) ->
 gL n lt (kas_place p k f l r) λm=>m<=k/\(∀i,i<m->lt (at' p i) (at' p k)=true)/\(∀i,m<=i->i<k->lt (at' p k) (at' p i)=true)
 |0,l,r,h1,h2,h3,a,b=>by
  obtain rfl:l=r:=by omega
  exact⟨h2,a,b⟩
 |f+1,l,r,h1,h2,h3,a,b=>by
  unfold kas_place;by_cases g:l >= r
  ·rw[aN g];obtain rfl:l=r:=by omega
   exact⟨h2,a,b⟩
  ·rw[aP g];refine⟨h.bd hk,h.bd (by omega),?_⟩;cases e:lt (p.getD k 0) (p.getD ((l+r)/2) 0)with
   |true=>
    dsimp only;rw[aN rfl];refine yi h hk s f l ((l+r)/2) (by omega) (by omega) (by omega) a λi hi hk'=>?_;by_cases z:i=(l+r)/2
    ·subst z;exact e
    ·exact O.tr _ _ _ (h.bd hk) (h.bd (by omega)) (h.bd (by omega)) e (s _ _ (by omega) hk')
   |false=>
    dsimp only;rw[aP c7];have e':=not_lt O h hk (by omega) (by omega) e;refine yi h hk s f ((l+r)/2+1) r (by omega) h2 (by omega) (λi hi=>?_) b;by_cases z:i=(l+r)/2
    ·subst z;exact e'
    ·exact O.tr _ _ _ (h.bd (by omega)) (h.bd (by omega)) (h.bd hk) (s _ _ (by omega) (by omega)) e'
theorem Cj{p:Array Nat}{k d:Nat}(hk:k<p.size)(hd:d<=k)(i:Nat):at' (bubble p k d) i=if i=k-d then at' p k else if k-d<i/\i<=k then at' p (i-1)else at' p i:=by
 have e:=getElem?_bubble hk d hd i;have g:∀(q:Array Nat) (j:Nat),q.getD j 0=(q[j]?).getD 0:=λq j=>by simp
 show(bubble p k d).getD i 0=_;rw[g,e];by_cases h1:i=k-d
 ·rw[aN h1,aN h1,<- g]
 ·rw[aP h1,aP h1];by_cases h2:k-d<i/\i<=k
  ·rw[aN h2,aN h2,<- g]
  ·rw[aP h2,aP h2,<- g]
theorem CT:∀(f:Nat) (p:Array Nat) (k:Nat),Pm n p->k+f<=n->Sd lt p k->gL n lt (kas_bin f p k) λq=>Pm n q/\Sd lt q (k+f)
 |0,p,k,h,_,s=>⟨h,s⟩
 |f+1,p,k,h,hk,s=>by
  have sz:k<p.size:=by rw[h.size];omega
  refine oO (kF (λl hl=>?_) (yi O h (by omega) s k 0 k (by omega) (bq _) (by omega) (λi hi=>by omega) (λi h1 h2=>by omega)));obtain⟨l1,lo,hi⟩:=hl;have s':Sd lt (bubble p k (k-l)) (k+1):=λi j hij hj=>by
   rw[Cj O sz (d:=k-l) (by omega),Cj O sz (d:=k-l) (by omega),show k-(k-l)=l by omega];by_cases c1:i=l
   ·rw[aN c1,aP (by omega),aN (by omega)];exact hi _ (by omega) (by omega)
   ·rw[aP c1];by_cases c2:l<i/\i<=k
    ·rw[aN c2,aP (by omega),aN (by omega)];exact s _ _ (by omega) (by omega)
    ·rw[aP c2];by_cases c3:j=l
     ·rw[aN c3];exact lo _ (by omega)
     ·rw[aP c3];by_cases c4:l<j/\j<=k
      ·rw[aN c4];exact s _ _ (by omega) (by omega)
      ·rw[aP c4];exact s _ _ (by omega) (by omega)
  refine kF (λq hq=>⟨hq.1,?_⟩) (CT f (bubble p k (k-l)) (k+1) ⟨(bubble_perm _ _ _).trans h.pm⟩ (by omega) s');rw[show k+(f+1)=k+1+f by omega];exact hq.2
theorem Pl(h1:1<=n):gL n lt (kas_sort n) λq=>Pm n q/\Sd lt q n:=by
 refine oO (kF (λr hr=>?_) (NA O ⟨HS _⟩ h1));obtain⟨pm,r1,r2,s⟩:=hr;by_cases hl:r.1<n
 ·rw[aN hl];refine kF (λq hq=>⟨hq.1,?_⟩) (CT O (n-max r.1 1) r.2 (max r.1 1) pm (by omega) (by rw[show max r.1 1=r.1 by omega];exact s));rw[show n=max r.1 1+(n-max r.1 1)by omega];exact hq.2
 ·rw[aP hl];exact⟨pm,by rw[show n=r.1 by omega];exact s⟩
end
end So
namespace So
open PySem PySem.W PyProof.Rows PySem.MeetsSeq3
def dc:List Int->List Int->Bool
 |[],[]=>false
 |[],_::_=>true
 |_::_,[]=>false
 |a::r,b::t=>if a==b then dc r t else decide (a<b)
end So
namespace So
open PySem PySem.W PyProof.Rows
section
variable{prog:bh}{w:a6}{A:bx}{E:ag->ao->Prop}{s:ao}
def nM(lt:Nat->Nat->Bool)(vs out:List ag):Prop:=∃p:Array Nat,Pm vs.length p/\Sd lt p vs.length/\out=p.toList.map λi=>vs.getD i fJ
theorem nM.len{lt:Nat->Nat->Bool}{vs out:List ag}(h:nM lt vs out):out.length=vs.length:=by obtain⟨p,pm,_,rfl⟩:=h;rw[aQ,tG,pm.size]
theorem Eh{a kS:af}{e e1:Nat}{ks out:List ag}{st:SortSt}{P:ou->ao->Prop}(hk:s.heap.get? kS=aa (seqObj "list" (d6 ks) e))(ha:s.heap.get? a=aa (seqObj "list" #[] e1))(ne:a≠kS)
 (hks:ks.length<64) (ho:out.length<64) (hout:(arrOf st).map (·.2)=d6 out) (hf:failedOf st=ac)
 (h:∀h' c,(∀b o,b≠a->b≠kS->s.heap.get? b=aa o->h'.get? b=aa o)->(∃o,h'.get? kS=aa o)->h'.get? a=aa (seqObj "list" (d6 out) c)->P (.done (.ret .none)) { s with heap:=h' }) :
 wpAny (model prog w) A (ksk_tail a false e1 (.ref kS) st) P E s:=by
 have s1:=lO s.heap kS (fK λ_=>(#[]:Array ag));have ha1:=(s1.2 a ne).trans ha;have s2:=lO (s.heap.update kS (fK λ_=>(#[]:Array ag))) a (fK λ_=>d6 out);obtain⟨c,hc⟩ : ∃c,((s.heap.update kS (fK λ_=>(#[]:Array ag))).update a (fK λ_=>d6 out)).get? a=aa (seqObj "list" (d6 out) c):=⟨_,v8 ha1 λ_=>d6 out⟩;unfold ksk_tail;dsimp only;rw[hout];refine aB (v9 hk rfl ?_ (by rw[cq,c6];omega) (eK _));refine aB (wpAny_letGo (aB (seqEpoch_at ha1 rfl ?_)));refine aB (v9 ha1 rfl ?_ (eK _) (by show(d6 out).size<=_;rw[cq,c6];omega));rw[hf];simp only[bne_self_eq_false,mU,eO];exact bn (h _ c (λb o n1 n2 q=>(s2.2 b n1).trans ((s1.2 b n2).trans q)) ⟨_,(s2.2 kS (d8 ne)).trans (v8 hk λ_=>#[])⟩ hc)
theorem Pn{a kS f:af}{e1:Nat}{P:ou->ao->Prop}(J:List ag->ao->Prop){vs:List ag}(h64:vs.length<64)
 (jk:∀ks s1 h',J ks s1->(∀b o,b≠kS->s1.heap.get? b=aa o->h'.get? b=aa o)->(∃o,h'.get? kS=aa o)->J ks { s1 with heap:=h' })
 (jc:∀i x ks s1,vs[i]? = aa x->ks.length=i->J ks s1->wpAny (model prog w) A (call (.ref f) [x]) (λk s2=>J (ks++[k]) s2/\∀b o,(b=a\/b=kS)->s1.heap.get? b=aa o->s2.heap.get? b=aa o) (λ_ _=>False) s1)
 (ne:a≠kS) (hk:s.heap.get? kS=aa (seqObj "list" #[] 0)) (ha:s.heap.get? a=aa (seqObj "list" #[] e1)) (j0:J [] s)
 (fin:∀ks e s1,ks.length=vs.length->J ks s1->s1.heap.get? kS=aa (seqObj "list" (d6 ks) e)->s1.heap.get? a=aa (seqObj "list" #[] e1)->wpAny (model prog w) A (ksk_end a false vs.toArray e1 (.ref kS) (d6 ks)) P E s1) :
 wpAny (model prog w) A (ksk_rest a (.ref f) false vs.toArray e1 (.ref kS)) P E s:=by
 unfold ksk_rest;refine aB (wpAny_rule ?_);rw[List.forIn_toArray];refine aB (ksk_fold (I:=λi s1=>∃ks e,ks.length=i/\J ks s1/\s1.heap.get? kS=aa (seqObj "list" (d6 ks) e)/\s1.heap.get? a=aa (seqObj "list" #[] e1)) vs 0 s ⟨[],0,rfl,j0,hk,ha⟩ (λj x s1 hx hI=>?_) λs1 hI=>?_)
 ·obtain⟨ks,e,hl,hJ,hk1,ha1⟩:=hI;rw[dM]at hl ⊢;have hlt:j<vs.length:=(ca.mp hx).1;refine aB (s0 (gH (jc j x ks s1 hx hl hJ) (λk s2 h2=>?_) λ_ _ z=>z.elim));obtain⟨hJ2,kp⟩:=h2;have hk2:=kp kS _ (.inr rfl) hk1;have ha2:=kp a _ (.inl rfl) ha1;have su:=lO s2.heap kS (fK (·.push k));have ea:(d6 ks).push k=d6 (ks++[k]):=by simp
  obtain⟨c2,hc2⟩ : ∃c2,(s2.heap.update kS (fK (·.push k))).get? kS=aa (seqObj "list" (d6 (ks++[k])) c2):=⟨_,by rw[<- ea];exact v8 hk2 (·.push k)⟩;dsimp only;refine aB (v9 hk2 rfl ?_ (by rw[cq,c6];omega) (dR (Nat.le_of_eq (Array.size_push ..)) (by rw[cq,c6];omega)));exact bn ⟨rfl,ks++[k],c2,by rw[cC,hl];rfl,jk _ _ _ hJ2 (λb o n q=>(su.2 b n).trans q) ⟨_,hc2⟩,hc2,(su.2 a ne).trans ha2⟩
 ·obtain⟨ks,e,hl,hJ,hk1,ha1⟩:=hI;refine aB (listItems_at hk1 rfl ?_);exact fin ks e s1 (by simpa using hl) hJ hk1 ha1
end
end So
namespace L2
open PySem PySem.Spec PyProof.Rows
def yL(X:Cx)(A:bx)(N':List Str)(env:Env)(s:ao)(H:Hp):Cx:={ X with A:=A.deeper env,N:=N',s₀:=s,H₀:=H,env:=env,outer:=X.stack,stack:=env::X.stack,ex:=[],fn:=λ_=>false,calm:=true,pn:=[],xe:=λ_ _=>False }
abbrev kC(qual:Str)(scope:dB)(s:ao)(f c':af)(cl:List (Str×af)):Env:=PySem.W.envX qual scope s.heap.objs.size f (.ref c') cl
structure oM(X:Cx)(x:Str)(ρ:List Nat)(N':List Str)(sc:dB)(cl:List (Str×af)):Prop where
 kind:sc.kind=.function
 co:sc.isCoroutine=false
 gen:sc.isGenerator=false
 jD:∀y∈sc.names,y.2≠.cell
 par:sc.names.lookup x=aa .local
 clo:∀y c,cl.lookup y=aa c->X.env.cells.lookup y=aa c
 has:∀y,sc.names.lookup y=aa .free->∃c,cl.lookup y=aa c
 N:∃ys,N'=x::ys/\ys.length = ρ.length/\∀(i j:Nat) y,ρ[i]? = aa j->ys[i]? = aa y->X.N[j]? = aa y/\sc.names.lookup y=aa .free/\(X.env.kindOf y=aa .cell\/X.env.kindOf y=aa .free)
section
variable{X:Cx}{ae:List (af×Obj)}{σ:St}{H:Hp}{s:ao}{A:bx}{k:Nat}{qual x:Str}{ps:mP}{body:aU}{sc:dB}{cl:List (Str×af)}{pm ctv:ag}{f c':af}{ρ:List Nat}{N':List Str}
def ib(ρ:List Nat)(σ:St)(v:V):St:=aa v :: ρ.map λj=>(σ[j]?).join
theorem MB{h1:aJ}{tk:Nat}{v:V}{u:ag}(I:Inv X ae σ H s)(hA:A.frames=aa X.stack)(hd:A.handled=ac)(S:oM X x ρ N' sc cl)(rv:RelV v u)
 (hns:h1.Ns s.heap.objs.size λy=>[(x,u)].reverse.lookup y) (hk:∀b o,s.heap.get? b=aa o->h1.get? b=aa o) :
 Inv (yL X A N' (kC qual sc s f c' cl) s H) [] (ib ρ σ v) H { s with heap:=h1,toks:=tk }:=by
 obtain⟨ys,eN,el,ix⟩:=S.N;have noA:∀b:af,b∉([]:List af):=λb z=>absurd z (by simp);refine⟨⟨I.mod,S.kind,rfl,rfl,bq _,λy z c h1 h2=>I.ok.inj y z c (S.clo y c h1) (S.clo z c h2),λy hy=>?_,λy c z=>(nomatch z),λ_=>hd,Aa hA,.inr ⟨rfl,rfl⟩,λb z=>absurd z (noA b),I.bs,dR I.ok.bsz I.sz,λb _ _=>noA b,λb z=>absurd z (noA b),I.stack,I.yD⟩,
  rfl,I.bare,Un.kept hk,⟨_,hns,λi y w h2 h3 h4=>?_⟩,λy c e=>?_,I.hok.fresh (bq _),λy c e=>I.ja y c (S.clo y c e),λp hp=>absurd (show p∈([]:List (af×Obj))from hp) (by simp),I.hok.kept hk,?_⟩
 ·have hy:sc.names.lookup y=aa .cell\/sc.names.lookup y=aa .free:=hy;rcases hy with hy|hy
  ·exact absurd rfl (S.jD _ (kT hy))
  ·exact S.has y hy
 ·have h2:N'[i]? = aa y:=h2;subst eN;cases i with
  |zero=>
   have e:x=y:=by simpa using h2
   subst e;have e2:v=w:=by simpa [ib]using h3
   subst e2;exact⟨u,rv,.inl ⟨S.par,by simp⟩⟩
  |succ i=>
   have hy:ys[i]? = aa y:=by simpa using h2
   have h3:(ρ.map λj=>(σ[j]?).join)[i]? = aa (aa w):=by simpa [ib]using h3
   rw[cZ]at h3;obtain⟨j,hj,e⟩:=i7.mp h3;have e2:σ[j]? = aa (aa w):=by
    cases q:σ[j]? with
    |none=>rw[q]at e;cases e
    |some z=>rw[q]at e;exact congrArg aa e
   obtain⟨n1,n2,n3⟩:=ix i j y hj hy;obtain⟨m,hm,hl⟩:=I.loc;have vis:pq X.env.scope y:=by
    rcases n3 with z|z
    ·exact .inr (.inl z)
    ·exact .inr (.inr z)
   obtain⟨u2,r2,lk⟩:=hl j y w n1 e2 vis;refine⟨u2,r2,.inr ⟨.inr n2,?_⟩⟩;obtain⟨c,hc⟩:=S.has y n2;refine⟨c,hc,?_⟩;have hX:=S.clo y c hc;rcases lk with ⟨z,_⟩|⟨_,c2,e3,ic⟩
   ·rcases n3 with y1|y1
    ·rw[z]at y1;cases y1
    ·rw[z]at y1;cases y1
   ·rw[hX]at e3;cases e3;obtain⟨o,ho,hd⟩:=ic;exact⟨o,hk _ _ ho,hd⟩
 ·obtain⟨v2,o,ho,hd⟩:=I.cell y c (S.clo y c e);exact⟨v2,o,hk _ _ ho,hd⟩
 ·subst eN;show(ib ρ σ v).length=(x::ys).length;simp[ib,el]
theorem OE{u:ag}{v:V}{tb:TE}{Q:VK}(I:Inv X ae σ H s)(hA:A.frames=aa X.stack)(hr:b9 (k+1) A)(S:oM X x ρ N' sc cl)
 (ho:s.heap.get? f=aa (mM "<lambda>" qual ps body sc cl pm c' ctv)) (hcd:s.heap.CodeRec (.ref c') qual)
 (hbind:bindArgs (ql "<lambda>" qual ps body sc cl pm (.ref c') ctv) ⟨[u],[]⟩=pure [(x,u)]) (rv:RelV v u)
 (hb:∀env:Env,b9 k (A.deeper env)->env=kC qual sc s f c' cl->PE (yL X A N' env s H) body tb) (h:tb (ib ρ σ v) H Q) :
 wpAny (model X.prog X.w) A (call (.ref f) [u]) (CE X.stack X.prog X.w H s Q) (λ_ _=>False) s:=by
 refine vR (G4 hr.depth ho rfl S.co S.gen rfl hcd ?_);rw[hbind];refine bn (zM S.jD (λy hy=>by
  have e:y=(x,u):=by simpa using hy
  rw[e];exact S.par) (λh1 hns hsb=>⟨(I.nolimit).fresh _ hsb,?_⟩) S.kind)
 show codeAny _ _ (.expr body (kC qual sc s f c' cl)) _ _;have hk:∀b o,s.heap.get? b=aa o->h1.get? b=aa o:=λb o e=>hsb.extBut b o (fi (bS e)) (b8 _ e);have J:=MB (tk:=s.toks+[(x,u)].length) (qual:=qual) (f:=f) (c':=c') I hA hr.hd S rv hns hk;refine G5 (gH (hb _ (hr.deeper _) rfl [] _ (ib ρ σ v) H Q J h) (λk' s' hq=>?_) λ_ _ z=>z.elim);obtain⟨v2,H2,I2,r2,q⟩:=hq;exact⟨v2,H2,I2.os,I2.bare,I2.base,I2.hok,r2,q⟩
end
end L2
namespace So
theorem EK:∀{a b:List Int},a≠b->dc a b=true\/dc b a=true
 |[],[],h=>absurd rfl h
 |[],_::_,_=>.inl rfl
 |_::_,[],_=>.inr rfl
 |a::r,b::t,h=>by
  rw[dc,dc];by_cases e:a=b
  ·subst e;simp only[ig,hV];exact EK λz=>h (by rw[z])
  ·have e':¬ b=a:=λz=>e z.symm;simp only[lG,e,e',eO,jg];omega
theorem DW:∀{a b:List Int},dc a b=true->dc b a=false
 |[],[],h=>by simp[dc]at h
 |[],_::_,_=>rfl
 |_::_,[],h=>by simp[dc]at h
 |a::r,b::t,h=>by
  rw[dc]at h ⊢;by_cases e:a=b
  ·subst e;simp only[ig,hV]at h ⊢;exact DW h
  ·have e':¬ b=a:=λz=>e z.symm;simp only[lG,e,e',eO,jg,xS]at h ⊢;omega
theorem Bl:∀{a b c:List Int},dc a b=true->dc b c=true->dc a c=true
 |[],[],_,h,_=>by simp[dc]at h
 |[],_::_,[],_,h=>by simp[dc]at h
 |[],_::_,_::_,_,_=>rfl
 |_::_,[],_,h,_=>by simp[dc]at h
 |_::_,_::_,[],_,h=>by simp[dc]at h
 |a::r,b::t,c::u,h,k=>by
  rw[dc]at h k ⊢;by_cases e:a=b
  ·subst e;simp only[ig,hV]at h;by_cases f:a=c
   ·subst f;simp only[ig,hV]at k ⊢;exact Bl h k
   ·simp only[lG,f,eO]at k ⊢;exact k
  ·simp only[lG,e,eO,jg]at h;by_cases f:b=c
   ·subst f;simp only[lG,e,eO,jg];exact h
   ·simp only[lG,f,eO,jg]at k;have:¬ a=c:=by omega
    simp only[lG,this,eO,jg];omega
def lz(kz:List (List Int))(i j:Nat):Bool:=dc (kz.getD i []) (kz.getD j [])
theorem wE{kz:List (List Int)}(nd:kz.Nodup):sO kz.length (lz kz):=by
 have inj:∀i j,i<kz.length->j<kz.length->i≠j->kz.getD i []≠kz.getD j []:=λi j hi hj ne e=>by
  rw[eS,eU hi,eS,eU hj]at e;exact ne ((lI nd).mp e)
 exact⟨λi j hi hj ne=>EK (inj i j hi hj ne),λi j _ _ h=>DW h,λi j k _ _ _ h g=>Bl h g⟩
def yb{α:Type}(d:α)(kz:List (List Int))(xs ys:List α):Prop:=∃p:Array Nat,Pm xs.length p/\Sd (lz kz) p xs.length/\ys=p.toList.map λi=>xs.getD i d
end So
namespace L2
open PySem PySem.Spec PyProof.Rows A So
variable[Tb:bG]
def Tab(T:af)(q:Str)(H H':Hp):Prop:=H'=H\/∃ps ps' c,H T=aa (.tbl q ps)/\H c=ac/\c≠T/\H'=upd (upd H T (.tbl q ps')) c (.ext (eZ c q))/\gp H'
theorem Na{c:ag}{p:Pos}:∀{l:List ag},qt l->qt (l++[rawInt p.line,rawInt p.col,c]):=λ{l} h=>by
 fun_induction qt l with
 |case1=>exact trivial
 |case2 a b c' d e rest ih=>exact ih h
 |case3 _ _=>exact h.elim
theorem Jd{c v:ag}{p p2:Pos}:∀{l:List ag},qt l->codeAmong p2 (l++[rawInt p.line,rawInt p.col,c])=aa v->codeAmong p2 l=aa v\/v=c:=λ{l} h e=>by
 fun_induction qt l with
 |case1=>
  simp only[vB,codeAmong,rawInt]at e;split at e
  ·exact .inr (by cases e;rfl)
  ·cases e
 |case2 a b c' d e' rest ih=>
  simp only[zD,codeAmong]at e ⊢;split at e
  ·rename_i q;rw[aN q];exact .inl e
  ·rename_i q;rw[aP q];exact ih h e
 |case3 _ _=>exact h.elim
def BM(mg:Str->Option ag)(base:aJ):Prop:=∃bm o,mg "__builtins__" = aa (.ref bm)/\bm≠builtinsNs/\bm≠mainGlobals/\base.get? bm=aa o/\o.cls=.type "module" /\ o.dict=aa builtinsNs/\o.data=.plain
section
variable{X:Cx}{ae:List (af×Obj)}{σ:St}{H:Hp}{s:ao}{qual x:Str}{ps:mP}{body:aU}{sc:dB}{cl:List (Str×af)}{c T:af}{pos:Pos}
theorem KW(c:af)(q:Str):∀h1 h2:aJ,eZ c q h1->(∀o,h1.get? c=aa o->h2.get? c=aa o)->eZ c q h2:=λh1 h2 ⟨o,vs,t,e,d,r⟩ k=>⟨o,vs,t,k o e,d,r⟩
theorem El{Q:ag->ao->Prop}{E:ag->ao->Prop}(I:Inv X ae σ H s)(hc:X.env.code=.ref c)(C:eD X.base c T)(k:gp H){tps:Array ag}(hT:H T=aa (.tbl qual tps))(hB:BM X.mg X.base)
 (hdef:defaultsOf ps X.env=([],[])) (hq:X.env.qual ++ "<lambda>" = qual) (hcl:closureFor sc X.env=pure cl)
 (h:∀f c' ctv pm s' H',Tab T qual H H'->H' c'=aa (.ext (eZ c' qual))->s'.heap.get? f=aa (mM "<lambda>" qual ps body sc cl pm c' ctv)->Inv X ae σ H' s'->eM X ae H' f->Q (.ref f) s') :
 wpAny (model X.prog X.w) X.A (eval (.Lambda ps body sc pos) X.env) Q E s:=by
 obtain⟨ok1,ok2⟩:=k.cd T qual tps hT;have hP:s.heap.get? T=aa (qm tps):=I.hok T _ hT;have hg:s.heap.Ns mainGlobals X.mg:=I.mod.glob.keeps I.bk;have C':eD s.heap c T:=C.keeps I.bk;obtain⟨bm,bo,b1,b2,b3,b4,b5,b6,b7⟩:=hB;have nT:∀b o,X.base.get? b=aa o->b≠T:=λb o e z=>by
  have:=(I.bs b o e).2;rw[z,hT]at this;cases this
 have hb:s.heap.BuiltinsAt X.mg T:=⟨bm,bo,b1,b2,b3,nT _ _ b4,I.bk _ _ b4,b5,b6,b7⟩;have hgT:mainGlobals≠T:=by obtain⟨o,es,ep,e,_⟩:=I.mod.glob;exact nT _ _ e
 refine PySem.W.kla_eval hdef ?_;rw[hq];cases hf:codeAmong pos tps.toList with
 |some v=>
  obtain⟨c',rfl,hc'⟩:=ok2 pos v hf;refine PySem.W.kla_makeFunctionHit hcl I.ok.glob hg hc C' hP ok1 hf hb λctv h' tk kp sz=>?_;have I':Inv X ae σ H { s with heap:=h'.push _,toks:=tk }:=I.kept (h':=h'.push (mM "<lambda>" qual ps body sc cl ((X.mg "__name__").getD .none) c' ctv)) λb o e=>b8 _ (kp b o e);exact h _ c' ctv _ _ H (.inl rfl) hc' (de _ rfl) I' (I.gR sz (I.hok.fresh sz))
 |none=>
  refine PySem.W.kla_makeFunction hcl I.ok.glob hg hc C' hP ok1 hf hgT hb λc' ctv h' tk kp h1 h2 hrec htb=>?_;have nc:H c'=ac:=I.hok.fresh h1;have cT:c'≠T:=λz=>by rw[z,hT]at nc;cases nc
  have hx:eZ c' qual h':=by obtain⟨c2,o,vs,t,e,r⟩:=hrec;cases e;exact⟨o,vs,t,r⟩
  obtain⟨oc,hoc⟩ : ∃o,h'.get? c'=aa o:=let ⟨o,_,_,e,_⟩:=hx;⟨o,e⟩;have u1:Un X.fs [] H (upd H T (.tbl qual (tps ++ #[rawInt pos.line,rawInt pos.col,.ref c']))) s.heap h':=by
   have nn:∀b,H b=ac->b≠T:=λb n z=>by rw[z,hT]at n;cases n
   refine⟨λb o e n _ _=>kp b o (nn b n) e,λb o e n _ _=>⟨o.slots,kp b o (nn b n) e⟩,λb o e n _=>by rw[aG (nn b n)];exact n,λb o e _=>?_,λb xs e=>?_,λb o u e=>?_,λb w ps e=>?_⟩
   ·by_cases z:b=T
    ·rw[z];exact⟨_,htb⟩
    ·exact⟨o,kp b o z e⟩
   ·rw[aG (λz=>by rw[z,hT]at e;cases e)];exact e
   ·rw[aG (λz=>by rw[z,hT]at e;cases e)];exact e
   ·by_cases z:b=T
    ·subst z;rw[hT]at e;cases e;exact⟨_,bu⟩
    ·exact⟨#[],by rw[aG z,e];simp⟩
  have PV:cJ X.prog X.w (upd H T (.tbl qual (tps ++ #[rawInt pos.line,rawInt pos.col,.ref c']))) h':=λb u e=>by
   by_cases z:b=T
   ·subst z;rw[bu]at e;cases e;exact htb
   ·rw[aG z]at e;refine(I.hok b u e).stay (λy v hy q=>kp y v ?_ q) (λy q=>by rw[aG (λw=>by rw[w,hT]at q;cases q)];exact q) λy xs q=>by rw[aG (λw=>by rw[w,hT]at q;cases q)];exact q
    rcases hy with w|w
    ·rw[w];exact z
    ·exactλw2=>by rw[w2,hT]at w;cases w
  have I1:Inv X ae σ (upd H T (.tbl qual (tps ++ #[rawInt pos.line,rawInt pos.col,.ref c']))) { s with heap:=h',toks:=tk }:=I.un u1 PV;have nc1:upd H T (.tbl qual (tps ++ #[rawInt pos.line,rawInt pos.col,.ref c'])) c'=ac:=by rw[aG cT];exact nc
  have I2:Inv X ae σ (upd (upd H T (.tbl qual (tps ++ #[rawInt pos.line,rawInt pos.col,.ref c']))) c' (.ext (eZ c' qual))) { s with heap:=h',toks:=tk }:=by
   have F:eM X ae (upd H T (.tbl qual (tps ++ #[rawInt pos.line,rawInt pos.col,.ref c']))) c':=⟨nc1,(I.gR (H':=H) h1 nc).2⟩;have tJ:∀b u,(upd H T (.tbl qual (tps ++ #[rawInt pos.line,rawInt pos.col,.ref c']))) b=aa u->b≠c':=λb u e=>cE e nc1;refine I1.call' (s':={ s with heap:=h',toks:=tk }) (ch:=[c']) rfl ⟨λb u e _ _ _=>e,λb u e _ _ _=>⟨u.slots,e⟩,λb u e n hb=>?_,λb u e hb=>⟨u,e⟩,λb xs e=>by rw[aG (tJ _ _ e)];exact e,λb q u e=>by rw[aG (tJ _ _ e)];exact e,λb w ps e=>⟨#[],by rw[aG (tJ _ _ e),e];simp⟩⟩ ?_ I.bare
    λb hb=>by
     obtain rfl:b=c':=by simpa using hb
     exact⟨F.2.2.2.1,F.2.1,F.2.2.2.2.1,F.2.2.2.2.2⟩
   ·rw[aG (λz=>hb (by simp[z]))];exact n
   ·intro b u e;by_cases z:b=c'
    ·subst z;rw[bu]at e;cases e;exact⟨hx,⟨oc,hoc⟩,KW b qual⟩
    ·rw[aG z]at e;exact(I1.hok b u e).stay (λy v hy q=>q) (λy q=>by rw[aG (tJ _ _ q)];exact q) λy xs q=>by rw[aG (tJ _ _ q)];exact q
  have PX:∀b o,h'.get? b=aa o->(h'.push (mM "<lambda>" qual ps body sc cl ((X.mg "__name__").getD .none) c' ctv)).get? b=aa o:=λb o e=>b8 _ e;have I3:=I2.kept (t':=tk) PX;have szs:s.heap.objs.size<=h'.objs.size:=dR h1 (vV h2);have ck:gp (upd (upd H T (.tbl qual (tps ++ #[rawInt pos.line,rawInt pos.col,.ref c']))) c' (.ext (eZ c' qual))):=by
   have nT':∀{b:af} {o:HO},H b=aa o->NT o->upd (upd H T (.tbl qual (tps ++ #[rawInt pos.line,rawInt pos.col,.ref c']))) c' (.ext (eZ c' qual)) b=aa o:=λ{b o} e n=>by
    rw[aG (cE e nc),aG (λz=>by rw[z,hT]at e;cases e;exact n)];exact e
   refine⟨λr hr=>?_,λT2 q2 ps2 e=>?_,λa2 q2 xs2 e=>?_⟩
   rotate_left 2
   ·by_cases z:a2=c'
    ·subst z;rw[bu]at e;cases e
    ·rw[aG z]at e;by_cases z2:a2=T
     ·subst z2;rw[bu]at e;cases e
     ·rw[aG z2]at e;exact k.fz a2 q2 xs2 e
   ·obtain⟨p0,e0⟩:=k.has r hr;by_cases z:r.1=T
    ·rw[z,hT]at e0;have:qual=r.2:=by injection e0 with e0;injection e0
     exact⟨_,by rw[aG (by rw[z];exact d8 cT),z,bu,this]⟩
    ·exact⟨p0,by rw[aG (cE e0 nc),aG z];exact e0⟩
   ·by_cases z:T2=c'
    ·subst z;rw[bu]at e;cases e
    ·rw[aG z]at e;by_cases z2:T2=T
     ·subst z2;rw[bu]at e;have e1:qual=q2:=by injection e with e;injection e
      have e2:tps ++ #[rawInt pos.line,rawInt pos.col,.ref c']=ps2:=by injection e with e;injection e
      subst e1 e2;refine⟨by rw[we];exact Na ok1,λp2 v hv=>?_⟩;rw[we]at hv;rcases Jd ok1 hv with q|q
      ·obtain⟨y,y1,y2⟩:=ok2 p2 v q;exact⟨y,y1,nT' y2 trivial⟩
      ·exact⟨c',q,bu⟩
     ·rw[aG z2]at e;obtain⟨t1,t2⟩:=k.cd T2 q2 ps2 e;refine⟨t1,λp2 v hv=>?_⟩;obtain⟨y,y1,y2⟩:=t2 p2 v hv;exact⟨y,y1,nT' y2 trivial⟩
  refine h h'.objs.size c' ctv _ _ _ (.inr ⟨tps,_,c',hT,nc,cT,rfl,ck⟩) bu (de _ rfl) I3 ?_;refine I.gR szs ?_;rw[aG (s9 h2),aG (λz=>?_)]
  ·exact I.hok.fresh szs
  ·have:=I.hok.fresh szs;rw[z,hT]at this;cases this
end
end L2
namespace L2
open PySem PySem.Spec PyProof.Rows A So
variable[Tb:bG]
section
variable{X:Cx}{ae:List (af×Obj)}{σ:St}{H:Hp}{s:ao}
theorem adopt{fp:List af}{D:af}{o:HO}{h':aJ}{t':Nat}(I:Inv X ae σ H s)(hf:∀b∈fp,eM X ae H b)(hD:D∈fp)(k:∀b u,b∉fp->s.heap.get? b=aa u->h'.get? b=aa u)
 (new:bW X.prog X.w (upd H D o) h' D o):Inv X ae σ (upd H D o) { s with heap:=h',toks:=t' }:=by
 have hn:H D=ac:=(hf D hD).1;have nfp:∀b u,H b=aa u->b∉fp:=λb u e z=>by rw[(hf b z).1]at e;cases e
 refine I.call' (s':={ s with heap:=h',toks:=t' }) (ch:=fp) rfl ⟨λb u e _ _ hb=>k b u hb e,λb u e _ _ hb=>⟨u.slots,k b u hb e⟩,λb u e hb hx=>?_,λb u e hb=>⟨u,k b u hb e⟩,λb xs e=>?_,λb q u e=>?_,λb w ps e=>⟨#[],?_⟩⟩ ?_ I.bare
  λb hb=>⟨(hf b hb).2.2.2.1,(hf b hb).2.1,(hf b hb).2.2.2.2.1,(hf b hb).2.2.2.2.2⟩
 ·rw[aG (λz=>hx (by rw[z];exact hD))];exact hb
 ·rw[aG (cE e hn)];exact e
 ·rw[aG (cE e hn)];exact e
 ·rw[aG (cE e hn),e];simp
 ·intro b u e;by_cases hb:b=D
  ·subst hb;rw[bu]at e;cases e;exact new
  ·rw[aG hb]at e;refine(I.hok b u e).stay (λc v hc q=>k c v ?_ q) (λc q=>by rw[aG (cE q hn)];exact q) λc xs q=>by rw[aG (cE q hn)];exact q
   rcases hc with z|z
   ·rw[z];exact nfp b u e
   ·exact nfp c _ z
end
def uW(c':af)(q:Str)(tk:V->Hp->VK->Prop):List V->Hp->(List V->Hp->Prop)->Prop
 |[],H,R=>R [] H
 |x::xs,H,R=>tk x H λk H1=>H1 c'=aa (.ext (eZ c' q))/\uW c' q tk xs H1 λks H2=>R (k::ks) H2
theorem LN{kz:List (List Int)}{xs:List V}{aj out:List ag}(r:Vals xs aj)(hz:kz.length=xs.length)(h:nM (lz kz) aj out):∃ys,yb .non kz xs ys/\Vals ys out:=by
 obtain⟨p,pm,sd,rfl⟩:=h;have hl:=r.length;rw[<- hl]at pm sd;refine⟨p.toList.map λi=>xs.getD i .non,⟨p,pm,sd,rfl⟩,?_⟩;have key:∀l:List Nat,(∀i∈l,i<xs.length)->Vals (l.map λi=>xs.getD i .non) (l.map λi=>aj.getD i fJ):=λl hl'=>by
  induction l with
  |nil=>exact .nil
  |cons i t ih=>
   have hi:=hl' i bP;refine .cons ?_ (ih λj hj=>hl' j (cy _ hj));have e1:xs[i]? = aa (xs.getD i .non):=by simp[hi]
   obtain⟨u,e2,r2⟩:=r.get e1;have:aj.getD i fJ=u:=by simp[e2]
   show RelV (xs.getD i .non) (aj.getD i fJ);rw[this];exact r2
 refine key _ λi hi=>?_;have:=(tF.mp pm.pm).mem_iff.mp hi;simpa using this
end L2
namespace Mi
open PySem
def OH:D->Option (List Str)
 |.tup ds=>jr ds
 |.lst ds=>jr ds
 |_=>ac
def rC(x y:D):Rs D:=match y with
 |.str z=>(cQ (OH x)).bind λys=>bc (z∈ys/\ys.length<=1000) (.ok (.int (ys.idxOf z:Nat)))
 |_=>.no
def fP:List Int->List Int->Bool
 |[],[]=>false
 |[],_::_=>true
 |_::_,[]=>false
 |a::r,b::t=>if a==b then fP r t else decide (a<b)
def insI(lt:Nat->Nat->Bool)(i:Nat):List Nat->List Nat
 |[]=>[i]
 |j::r=>if lt i j=true then i::j::r else j::insI lt i r
def sortI(lt:Nat->Nat->Bool):List Nat->List Nat
 |[]=>[]
 |i::r=>insI lt i (sortI lt r)
def jh(kz:List (List Int))(n:Nat):List Nat:=sortI (λi j=>fP (kz.getD i []) (kz.getD j [])) (bT n)
def sortBy(kz:List (List Int))(ds:List D):List D:=(jh kz ds.length).map λi=>ds.getD i .non
def lY(ρ:List Nat)(e:Env)(d:D):Env:=aa (.d d) :: ρ.map λj=>(e[j]?).join
end Mi
namespace A
open PySem L2 PyProof.Rows
open Mi (D W Rs Fin aw Out Tg)
variable[Tb:bG]
section
variable{prog:bh}{w:a6}{Ar:bx}
theorem xR(x y:Str)(t u:Tok):HQ (.str x t) (.str y u) (x.cps.toList==y.cps.toList):=PM x y t u
theorem ut{ys:List Str}{us:List ag}(r:Vals (ys.map V.str) us){i:Nat}(h:i<ys.length):∃t,us[i]? = aa (.str (ys.getD i eV) t):=by
 have e:(ys.map V.str)[i]? = aa (.str (ys.getD i eV)):=by simp[h]
 obtain⟨u,e2,r2⟩:=r.get e;obtain⟨t,rfl⟩:=r2;exact⟨t,e2⟩
theorem EL{ys:List Str}{z:Str}(h:z∈ys):ys.idxOf z<ys.length/\ys.getD (ys.idxOf z) eV=z/\∀m,m<ys.idxOf z->ys.getD m eV≠z:=by
 have hl:=vp h;refine⟨hl,by simp[hl],λm hm e=>?_⟩;have:m<ys.length:=Nat.lt_trans hm hl;have e2:ys[m]=z:=by simpa [this]using e
 have:=List.not_of_lt_findIdx (p:=(· == z)) (xs:=ys) (i:=m) hm;simp[e2]at this
theorem MI{E:ag->ao->Prop}{s:ao}{t:af}{us:List ag}{ys:List Str}{z:Str}{tz:Tok}{Q:ag->ao->Prop}(ht:IsTup s.heap t us.toArray)(r:Vals (ys.map V.str) us)(hz:z∈ys)
 (h:Q (.int (ys.idxOf z:Nat) s.toks) { s with toks:=s.toks+1 }):wpAny (model prog w) Ar (call (.builtin "tuple.index") [.ref t,.str z tz]) Q E s:=by
 obtain⟨h1,h2,h3⟩:=EL hz;have hl:=r.length;rw[aQ]at hl;refine lK Hx ht.typeIs PySem.F.entry_tuple_index ?_ (PySem.F.args_tuple_index_2 _ _);show wpAny _ _ (Builtin.Tuple.tupleItemsOf (.ref t) >>= _) _ _ s;refine aB (tupleItemsOf_ ht ?_);refine aB (bn (aB (bn ?_)));dsimp only;rw[Std.Legacy.Range.forIn_eq_forIn_range'];have hsz:([0:min us.toArray.size us.toArray.size]:Std.Legacy.Range).size=us.length:=by simp[Std.Legacy.Range.size]
 rw[hsz];show wpAny _ _ (forIn (List.range' 0 us.length 1) _ _ >>= _) _ _ _;have go:∀(k i:Nat),ys.idxOf z=i+k->∀(G:Option ou×Unit->ao->Prop),G (aa (.done (.ret (.int (ys.idxOf z:Nat) s.toks))),()) { s with toks:=s.toks+1 } ->
  wpAny (model prog w) Ar.in1 (forIn (List.range' i (us.length - i) 1) ((ac, ()) : Option ou × Unit) fun (i : Nat) (__s : Option ou × Unit) => (match us.toArray[i]? with
          | some y=>do
           let b <- eqBool y (lN z tz)
           if b=true then do
            let r <- retInt (i:Int)
            pure (ForInStep.done (aa r,()))
            else pure (kU (ac,()))
          |x=>pure (kU (ac,())):Sem (ForInStep (Option ou×Unit)))) G E s:=by
  intro k
  induction k with
  |zero=>
   intro i hi G hG;have hlt:i<us.length:=by omega
   obtain⟨t1,e1⟩:=ut r (i:=i) (by omega);rw[show us.length-i=(us.length-i-1)+1 by omega,List.range'_succ,sV];have e2:us.toArray[i]? = aa (.str (ys.getD i eV) t1):=by simpa using e1
   rw[e2];have hz2:ys.getD i eV=z:=by rw[<- h2,hi];rfl
   rw[hz2];refine aB (aB (xR z z t1 tz prog w _ _ _ _ ?_));simp only[ig,hV];refine aB (aB (wpAny_mkInt (bn (bn ?_))));rw[show(i:Nat)=ys.idxOf z from hi.symm];exact bn hG
  |succ k ih=>
   intro i hi G hG;have hlt:i<us.length:=by omega
   obtain⟨t1,e1⟩:=ut r (i:=i) (by omega);rw[show us.length-i=(us.length-(i+1))+1 by omega,List.range'_succ,sV];have e2:us.toArray[i]? = aa (.str (ys.getD i eV) t1):=by simpa using e1
   rw[e2];have hz2:=h3 i (by omega);refine aB (aB (xR _ z t1 tz prog w _ _ _ _ ?_));have:((ys.getD i eV).cps.toList==z.cps.toList)=false:=by
    rw[pB];intro e;apply hz2;cases hq:ys.getD i eV with
    | mk c=>cases z with
     |mk d=>
      rw[hq]at e;have:c=d:=wf.mp e;rw[this]
   rw[this];simp only[mU,eO];exact bn (ih (i+1) (by omega) G hG)
 refine aB (go (ys.idxOf z) 0 (by omega) _ ?_);exact bn ⟨_,rfl,h⟩
theorem JH{E:ag->ao->Prop}{s:ao}{t:af}{us:List ag}{ys:List Str}{z:Str}{tz:Tok}{n:Nat}{Q:ag->ao->Prop}(ht:s.heap.get? t=aa { cls:=.type "list", data:=.seq us.toArray n })(r:Vals (ys.map V.str) us)(hz:z∈ys)(hl:ys.length<=1000)
 (h:Q (.int (ys.idxOf z:Nat) s.toks) { s with toks:=s.toks+1 }):wpAny (model prog w) Ar (call (.builtin "list.index") [.ref t,.str z tz]) Q E s:=by
 obtain⟨h1,h2,h3⟩:=EL hz;have hlu:=r.length;rw[aQ]at hlu;let e:ag->Bool:=λy=>match y with
  |.str a _=>a.cps.toList==z.cps.toList
  |_=>false
 have he:∀y,y∈us.toArray->HQ y (.str z tz) (e y):=λy hy=>by
  obtain⟨i,hi⟩:=kM (by simpa using hy:y∈us);have hil:=(ca.mp hi).1;obtain⟨t1,e1⟩:=ut r (i:=i) (by omega);rw[e1]at hi;cases hi;exact xR _ z t1 tz
 have ei:∀i (hi:i<us.toArray.size),e us.toArray[i]=decide (ys.getD i eV=z):=λi hi=>by
  have hi':i<us.length:=by simpa using hi
  obtain⟨t1,e1⟩:=ut r (i:=i) (by omega);have:us.toArray[i]=.str (ys.getD i eV) t1:=by have:=(ca.mp e1).2;simpa using this
  rw[this];show((ys.getD i eV).cps.toList==z.cps.toList)=_;by_cases q:ys.getD i eV=z
  ·rw[q];simp
  ·rw[dj q,pB];intro y;apply q;cases hq:ys.getD i eV with
   | mk c=>cases z with
    |mk d=>
     rw[hq]at y;have:c=d:=wf.mp y;rw[this]
 refine qr Hz ⟨_,ht,rfl⟩ PySem.F.entry_list_index (PySem.F.args_list_index_2 _ _) (PySem.MeetsSeq.list_index t us.toArray n (.str z tz) e he (ys.idxOf z) (by simp;omega) (by omega) (by rw[ei];simp only[h2];simp) (λm hm hj=>by rw[ei];simp only[h3 m hj];simp)) ⟨ht,h⟩
end
section
variable{X:Cx}{K:aD}{M:Nat->Bool}{to ta tb:TE}{t:TA}{o e:aU}{es:List aU}{apos cpos:Pos}{a b:Mi.E}
theorem LX:lp X "tuple.index" (λx xs H Q=>∃(p:af) (ys:List Str) (z:Str),x=.ref p/\xs=[.str z]/\z∈ys/\H p=aa (.tup (ys.map V.str))/\Q (.int (ys.idxOf z:Nat)) H):=by intro ae s σ H x xs v us Q I rx rv h;obtain⟨p,ys,z,rfl,rfl,hz,hp,q⟩:=h;cases rx;obtain⟨u,rfl,ru⟩:=vals1 rv;obtain⟨tz,rfl⟩:=ru;obtain⟨aj,r,pt,_⟩:=I.tuple (.inl (.inl hp));exact MI pt r hz ⟨.int _,H,I.tok _,⟨_,rfl⟩,q⟩
theorem Mh:lp X "list.index" (λx xs H Q=>∃(p:af) (ys:List Str) (z:Str),x=.ref p/\xs=[.str z]/\z∈ys/\ys.length<=1000/\Lst H p (ys.map V.str)/\Q (.int (ys.idxOf z:Nat)) H):=by intro ae s σ H x xs v us Q I rx rv h;obtain⟨p,ys,z,rfl,rfl,hz,hl,hp,q⟩:=h;cases rx;obtain⟨u,rfl,ru⟩:=vals1 rv;obtain⟨tz,rfl⟩:=ru;obtain⟨aj,n,r,_,ho⟩:=uD I hp;exact JH ho r hz hl ⟨.int _,H,I.tok _,⟨_,rfl⟩,q⟩
def FM(K:aD)(T2:String)(r1 r2:V->List V->Hp->VK->Prop)(to:TE)(t:TA):TE:=λσ H Q=>to σ H λx H1=>((∃p xs,x=V.ref p/\H1 p=aa (.tup xs))/\t σ H1 λxs H2=>r1 x xs H2 Q)\/(uJ K T2 x H1/\t σ H1 λxs H2=>r2 x xs H2 Q)
theorem Ka{T2 id1 id2:String}{r1 r2:V->List V->Hp->VK->Prop}{name:Str}(bg:vS "tuple")(slot1:Slot "tuple" name id1)(PY:typeOf (.builtin id1)=pure (.type "method_descriptor"))(hm1:lp X id1 r1)
 (pa2:vS T2) (PZ:Slot T2 name id2) (P0:typeOf (.builtin id2)=pure (.type "method_descriptor")) (hm2:lp X id2 r2) (ho:PE X o to) (ha:PA X (e::es) t)
 (hbase:attributeBase o name X.env (eval o X.env)=eval o X.env:=by rfl)
 (hfew:((backTo cpos (starEach (e::es) X.env)).all (λx=>!x.1)&&(backToKw cpos (keywordEach [] X.env)).all (λx=>x.1.isSome)
  && decide ((e::es).length+([]:List Keyword).length+(if([]:List Keyword).isEmpty then 0 else 1)<30))=true:=by rfl)
 (hline:(apos.endLine==cpos.line)=true:=by rfl) (hs:starEach (e::es) X.env=(false,eval e X.env)::starEach es X.env:=by rfl) (hplain:(backTo cpos (starEach es X.env)).any (·.1)=false:=by rfl) :
 PE X (.Call (.Attribute o name apos) (e::es) [] cpos) (FM X.K T2 r1 r2 to t):=by
 intro ae s σ H Q I h;refine Hr hbase hfew hline rfl (aX (ho ae s σ H _ I h) λv s1 ⟨x,H1,I1,rx,q⟩=>?_);rcases q with ⟨ty,q1⟩|⟨ty,q1⟩
 ·obtain⟨p,xs,rfl,hp⟩:=ty;cases rx;have h12:s1.TypeIs (.ref p) "tuple" /\ ∀a,cG p=.ref a->∃ob,s1.heap.get? a=aa ob/\ob.dict=ac:=by
   obtain⟨_,aj,_,ob,e1,e2,e3,_⟩:=(show bW X.prog X.w H1 s1.heap p (.tup xs)from I1.hok p _ hp);exact⟨⟨ob,e1,e2⟩,λa z=>by cases z;exact⟨ob,e1,e3⟩⟩
  obtain⟨h1,h2⟩:=h12;have rx:RelV (.ref p) (cG p):=rfl;refine⟨"tuple", id1,bg,slot1,PY,h1,h2,?_⟩;have hA:=ha cpos ae s1 σ H1 _ I1 q1;rw[hs]at hA ⊢;refine wg (by show(false||(backTo cpos (starEach es X.env)).any (·.1))=false;rw[hplain]<;>rfl) (z6 ?_);exact aX hA λus s2 ⟨vs,H2,I2,r2',q2⟩=>hm1 ae s2 σ H2 _ vs _ us Q I2 rx r2' q2
 ·obtain⟨h1,h2⟩:=ye I1 rx ty;refine⟨T2,id2,pa2,PZ,P0,h1,h2,?_⟩;have hA:=ha cpos ae s1 σ H1 _ I1 q1;rw[hs]at hA ⊢;refine wg (by show(false||(backTo cpos (starEach es X.env)).any (·.1))=false;rw[hplain]<;>rfl) (z6 ?_);exact aX hA λus s2 ⟨vs,H2,I2,r2',q2⟩=>hm2 ae s2 σ H2 x vs v us Q I2 rx r2' q2
end
end A
namespace So
open PySem
theorem u0:∀a b:List Int,dc a b=Mi.fP a b
 |[],[]=>rfl
 |[],_::_=>rfl
 |_::_,[]=>rfl
 |a::r,b::t=>by rw[dc,Mi.fP,u0 r t]
theorem yu(lt:Nat->Nat->Bool)(i:Nat):∀l:List Nat,(Mi.insI lt i l).Perm (i::l)
 |[]=>wq _
 |j::r=>by
  unfold Mi.insI;split
  ·exact wq _
  ·exact((yu lt i r).cons j).trans (List.Perm.swap i j r)
theorem qQ(lt:Nat->Nat->Bool):∀l:List Nat,(Mi.sortI lt l).Perm l
 |[]=>wq _
 |i::r=>(yu lt i _).trans ((qQ lt r).cons i)
section
variable{n:Nat}{lt:Nat->Nat->Bool}(O:sO n lt)
include O
theorem BW{i:Nat}(hi:i<n):∀{l:List Nat},(∀x∈l,x<n)->i∉l->l.Pairwise (λa b=>lt a b=true)->(Mi.insI lt i l).Pairwise (λa b=>lt a b=true)
 |[],_,_,_=>GR _ _
 |j::r,hl,hn,hp=>by
  have hp':=jA.mp hp;have hj:=hl j bP;unfold Mi.insI;split
  ·rename_i h;refine jA.mpr ⟨λx hx=>?_,hp⟩;rcases br.mp hx with rfl|hx
   ·exact h
   ·exact O.tr _ _ _ hi hj (hl x (cy _ hx)) h (hp'.1 x hx)
  ·rename_i h;have hji:lt j i=true:=(O.tot i j hi hj λz=>hn (by rw[z];exact bP)).resolve_left h;refine jA.mpr ⟨λx hx=>?_,BW hi (λx hx=>hl x (cy _ hx)) (λz=>hn (cy _ z)) hp'.2⟩;rcases br.mp ((yu lt i r).mem_iff.mp hx)with rfl|hx
   ·exact hji
   ·exact hp'.1 x hx
theorem yA:∀{l:List Nat},(∀x∈l,x<n)->l.Nodup->(Mi.sortI lt l).Pairwise (λa b=>lt a b=true)
 |[],_,_=>.nil
 |i::r,hl,nd=>by
  have nd:=j4.mp nd;have hr:∀x∈r,x<n:=λx hx=>hl x (cy _ hx);exact BW O (hl i bP) (λx hx=>hr x ((qQ lt r).mem_iff.mp hx)) (λz=>nd.1 ((qQ lt r).mem_iff.mp z)) (yA hr nd.2)
theorem Fv:∀{a b:List Nat},(∀x∈a,x<n)->a.Perm b->a.Pairwise (λx y=>lt x y=true)->b.Pairwise (λx y=>lt x y=true)->a=b
 |[],b,_,p,_,_=>p.nil_eq
 |x::r,b,hl,p,ha,hb=>by
  cases b with
  |nil=>exact absurd p.length_eq (by simp)
  |cons y t=>
   have hx:x∈y::t:=p.mem_iff.mp bP;have hy:y∈x::r:=p.mem_iff.mpr bP;have e:x=y:=by
    rcases br.mp hx with h|h
    ·exact h
    ·rcases br.mp hy with h'|h'
     ·exact h'.symm
     ·have a1:=(jA.mp ha).1 y h';have a2:=(jA.mp hb).1 x h;rw[O.asy _ _ (hl x bP) (hl y hy) a1]at a2;cases a2
   subst e;rw[Fv (λz hz=>hl z (cy _ hz)) (List.Perm.cons_inv p) (jA.mp ha).2 (jA.mp hb).2]
end
theorem Ln{kz:List (List Int)}(nd:kz.Nodup){p:Array Nat}(pm:Pm kz.length p)(sd:Sd (lz kz) p kz.length):p.toList=Mi.jh kz kz.length:=by
 have O:=wE nd;have e:Mi.jh kz kz.length=Mi.sortI (lz kz) (bT kz.length):=by
  unfold Mi.jh lz
  congr 1
  funext i j;exact(u0 _ _).symm
 have hp:p.toList.Perm (bT kz.length):=by have:=tF.mp pm.pm;simpa using this
 have hb:∀x∈p.toList,x<kz.length:=λx hx=>by simpa using hp.mem_iff.mp hx
 rw[e];refine Fv O hb (hp.trans (qQ _ _).symm) ?_ (yA O (λx hx=>by simpa using hx) zC);rw[List.pairwise_iff_getElem];intro i j hi hj hij;have hi':i<p.size:=by simpa using hi
 have hj':j<p.size:=by simpa using hj
 have:=sd i j hij (by rw[<- pm.size];exact hj');rw[rp hi',rp hj']at this;simpa using this
end So
namespace A
open PySem L2 PyProof.Rows So
open Mi (D W Rs Fin aw Out Tg)
variable[Tb:bG]
theorem Dj{T:af}{q:Str}{H H' Hv:Hp}(v:Vw H Hv)(t:Tab T q H H'):bw H Hv H' Hv:=by
 rcases t with rfl|⟨ps,ps',c,hT,hc,ne,rfl,ck⟩
 ·exact .refl v
 ·have get:∀{a o},H a=aa o->NT o->upd (upd H T (.tbl q ps')) c (.ext (eZ c q)) a=aa o:=λ{a o} e n=>by
   rw[aG (cE e hc),aG (λz=>by rw[z,hT]at e;cases e;exact n)];exact e
  have back:∀{a o},upd (upd H T (.tbl q ps')) c (.ext (eZ c q)) a=aa o->(∀w ps,o≠.tbl w ps)->(∀φ,o≠.ext φ)->H a=aa o:=λ{a o} e n1 n2=>by
   by_cases z:a=c
   ·subst z;rw[bu]at e;cases e;exact absurd rfl (n2 _)
   ·rw[aG z]at e;by_cases z2:a=T
    ·subst z2;rw[bu]at e;cases e;exact absurd rfl (n1 _ _)
    ·rw[aG z2]at e;exact e
  refine⟨⟨λa o e n=>get e n,λa e=>?_,λa w p0 e=>?_⟩,cg.refl _,⟨λa o e=>get (v.sub a o e) (v.nv a o e),λa xs e=>v.tup a xs (back e (λ_ _ z=>by cases z) (λ_ z=>by cases z)),λa o u e=>v.frz a o u (back e (λ_ _ z=>by cases z) (λ_ z=>by cases z)),ck,v.nv⟩,λ_ _ _ n=>n⟩
  ·by_cases z:a=c
   ·subst z;exact hc
   ·rw[aG z]at e;by_cases z2:a=T
    ·subst z2;rw[bu]at e;cases e
    ·rw[aG z2]at e;exact e
  ·by_cases z2:a=T
   ·subst z2;rw[hT]at e;cases e;exact⟨ps',by rw[aG (d8 ne),bu]⟩
   ·exact⟨p0,by rw[aG (cE e hc),aG z2];exact e⟩
section
variable{X:Cx}{K:aD}{M:Nat->Bool}{te tb ta:TE}{a b kf:Mi.E}{T:af}{q:Str}{ρ:List Nat}
theorem O8{e:Mi.Env}{σ:L2.St}{H Hv:Hp}(I:R0 M e σ H Hv)(hM:∀j∈ρ,M j=false){d:D}{v:V}(r:Rep Hv d v):R0 (λ_=>false) (Mi.lY ρ e d) (ib ρ σ v) H Hv:=by
 refine⟨I.vw,by simp[Mi.lY,ib],λi w h _=>?_,λi w h m=>by cases m⟩;cases i with
 |zero=>
  have:W.d d=w:=by simpa [Mi.lY]using h
  subst this;exact⟨v,rfl,r⟩
 |succ i=>
  have h:(ρ.map λj=>(e[j]?).join)[i]? = aa (aa w):=by simpa [Mi.lY]using h
  rw[cZ]at h;obtain⟨j,hj,e2⟩:=i7.mp h;have e3:e[j]? = aa (aa w):=by
   cases z:e[j]? with
   |none=>rw[z]at e2;cases e2
   |some y=>rw[z]at e2;exact congrArg aa e2
  obtain⟨u,hu,ru⟩:=I.nob j w e3 (hM j (jz hj));exact⟨u,by simp[ib,cZ,hj,hu],ru⟩
theorem DT{F:D->V->Prop}{ds:List D}{xs:List V}(h:P2 F ds xs):∀l:List Nat,(∀i∈l,i<ds.length)->P2 F (l.map λi=>ds.getD i .non) (l.map λi=>xs.getD i .non)
 |[],_=>.nil
 |i::r,hl=>by
  have hi:=hl i bP;have e1:ds[i]? = aa (ds.getD i .non):=by simp[hi]
  obtain⟨y,e2,f⟩:=h.getL e1;have:xs.getD i .non=y:=by simp[e2]
  refine .cons ?_ (DT h r λj hj=>hl j (cy _ hj));show F (ds.getD i .non) (xs.getD i .non);rw[this];exact f
end
end A
namespace L2
open PySem PySem.Spec PyProof.Rows A So
structure oK(K:aD)(x qual:Str)(st:bt)(c f:af)(fd:bF):Prop where
 ex:∃(oc:ag) (od:Option af) (kV doc pm:ag) (an:Option af) (ct:ag) (osl:Array (Option ag)),
  fd=j7 x qual (lh st) (io st) (bB st) .none kV doc pm an (.ref c) ct/\K.lookup f=aa ⟨oc,od,.func fd,osl⟩/\qk K (.ref c) qual=true
section
variable{P:bh}{w:a6}{K:aD}{mg:Str->Option ag}{base:aJ}
theorem oK.ok{x qual:Str}{st:bt}{c f:af}{fd:bF}{N ps:List Str}{k:Nat}{sp:Sp}(F:oK K x qual st c f fd)(S:cu N ps (bB st))(len:∀vs H Q E,sp vs H Q E->vs.length=ps.length)
 (hbody:∀(A:bx) (outer:List Env) (s:ao) (H:Hp) (vs:List V) (Q:VK) (E:XK),b9 k (A.deeper (envOfC qual (bB st) s.heap.objs.size f (.ref c)))->sp vs H Q E ->
  ∃t,f6 (ki aL P w K mg base N qual (bB st) f (.ref c) A outer s H E).kK (io st) t/\t { nx:=λ_ H'=>Q .non H',rt:=Q } (start N vs) H):bE P w K mg base aL (k+1) f fd ps sp:=by
 obtain⟨oc,od,kV,doc,pm,an,ct,osl,rfl,lk,hcd⟩:=F.ex;refine Ej lk hcd S len λA outer s H vs Q E hr hsp=>?_;obtain⟨t,h,q⟩:=hbody A outer s H vs Q E hr hsp;exact⟨t,h.kK,q⟩
end
structure qE(K:aD)(mg:Str->Option ag)(x:Str)(st:bt)(ps:List Str)(c:af):Prop where
 ex:∃(f:af) (fd:bF),mg x=aa (.ref f)/\kR K (.ref f)=true/\Binds K fd ps []/\oK K x x st c f fd
theorem Fu{K:aD}{h:aJ}{mg:Str->Option ag}{x:Str}{st:bt}{ps:List Str}{f c:af}{oc:ag}{od an:Option af}{osl:Array (Option ag)}{kV doc pm ct:ag}(X:K.In h)(G:h.Ns mainGlobals mg)
 (hb:∀(kV doc pm:ag) (an:Option af) (cdv ct:ag) (us:List ag),us.length=ps.length->bindArgs (j7 x x (lh st) (io st) (bB st) .none kV doc pm an cdv ct) ⟨us,[]⟩=pure (ps.zip us))
 (a:fI K mainGlobals x=aa (aa (.ref f))) (l:K.lookup f=aa ⟨oc,od,.func (j7 x x (lh st) (io st) (bB st) .none kV doc pm an (.ref c) ct),osl⟩)
 (cc:qk K (.ref c) x=true) (k:kR K (.ref f)=true):qE K mg x st ps c:=by
 have F:=Dn (st:=st) l cc k;exact⟨f,_,PySem.W.mg_of X G a,k,F.binds hb,⟨oc,od,kV,doc,pm,an,ct,osl,rfl,l,cc⟩⟩
theorem qE.cal{P:bh}{w:a6}{K:aD}{mg:Str->Option ag}{base:aJ}{CX:f7}{k:Nat}{x:Str}{st:bt}{ps:List Str}{c:af}{sp:Sp}(F:qE K mg x st ps c)(h:∀f fd,oK K x x st c f fd->bE P w K mg base CX k f fd ps sp) :
 bO P w K mg base CX k x ps sp:=by
 obtain⟨f,fd,h1,h2,h3,h4⟩:=F.ex;exact⟨f,fd,h1,h2,h3,h f fd h4⟩
theorem oM.one{X:Cx}{x y:Str}{j:Nat}{sc:dB}{c:af}(hn:sc.names=[(x,.local),(y,.free)])(hxy:(y==x)=false)(hk:sc.kind=.function)(co:sc.isCoroutine=false)(gen:sc.isGenerator=false)(hc:X.env.cells=[(y,c)])(hN:X.N[j]? = aa y)(hy:X.env.kindOf y=aa .cell) :
 oM X x [j] [x,y] sc [(y,c)]:=by
 have hl:sc.names.lookup y=aa .free:=by rw[hn,kQ,hxy];show kQ y [(y,kW)]=_;rw[kQ,ig]
 refine⟨hk,co,gen,λz hz=>?_,by rw[hn,kQ,ig],λz d h=>by rw[hc];exact h,λz h=>?_,[y],rfl,rfl,λi k z h1 h2=>?_⟩
 ·rw[hn]at hz;rcases br.mp hz with rfl|hz
  ·exactλq=>by cases q
  ·rw[dm.mp hz];exactλq=>by cases q
 ·rw[hn,kQ]at h;split at h
  ·cases h
  ·rw[kQ]at h;split at h
   ·rename_i q;exact⟨c,by rw[kQ,q]⟩
   ·cases h
 ·cases i with
  |zero=>
   have e1:j=k:=by simpa using h1
   have e2:y=z:=by simpa using h2
   subst e1 e2;exact⟨hN,hl,.inl hy⟩
  |succ i=>simp at h1
end L2
namespace A
open PySem L2 PyProof.Rows So
open Mi (D W Rs Fin aw Out Tg)
variable[Tb:bG]
section
variable{K:aD}{M:Nat->Bool}{ta tb:TE}{a b:Mi.E}
def Bq:V->List V->Hp->VK->Prop:=λx xs H Q=>∃(p:af) (ys:List Str) (z:Str),x=.ref p/\xs=[.str z]/\z∈ys/\H p=aa (.tup (ys.map V.str))/\Q (.int (ys.idxOf z:Nat)) H
def Gf:V->List V->Hp->VK->Prop:=λx xs H Q=>∃(p:af) (ys:List Str) (z:Str),x=.ref p/\xs=[.str z]/\z∈ys/\ys.length<=1000/\Lst H p (ys.map V.str)/\Q (.int (ys.idxOf z:Nat)) H
theorem Ph{X:Cx}:lp X "tuple.index" Bq:=LX
theorem K8{X:Cx}:lp X "list.index" Gf:=Mh
theorem Kj(ha:AE M qP ta a)(hb:AE M qP tb b):AE M qV (FM K "list" Bq Gf ta (gm tb ip)) (Mi.m2 Mi.rC a b):=λe σ H Hv Q I h=>
 ha e σ H Hv _ I ((aw.mp h).mono λx hx v H1 Hv1 g1 rx=>by
  obtain⟨y,hy,hk⟩:=iO (aw.mp hx);cases y with
  |str z=>
   obtain⟨ys,ey,q1⟩:=gD (aw.mp hk);obtain⟨⟨hz,hl⟩,q2⟩:=Mi.cD q1;have q3:=Mi.lA q2;clear hk q1 q2 hx;cases x with
   |tup ds=>
    obtain⟨p,us,rfl,l,_,r⟩:=RD.tup g1.vw rx;have:=tW ey r;subst this;refine .inl ⟨⟨p,_,rfl,l⟩,hb e σ H1 Hv1 _ (I.grow g1) ?_⟩;rw[hy];intro v2 H2 Hv2 g2 ry;cases RD.str ry;exact⟨p,ys,z,rfl,rfl,hz,g2.old.at l,q3 _ _ _ (g1.trans g2) iB⟩
   |lst ds=>
    obtain⟨p,us,rfl,l,r⟩:=RD.lst g1.vw rx;have:=tW ey r;subst this;refine .inr ⟨.inl ⟨rfl,_,l.sq⟩,hb e σ H1 Hv1 _ (I.grow g1) ?_⟩;rw[hy];intro v2 H2 Hv2 g2 ry;cases RD.str ry;exact⟨p,ys,z,rfl,rfl,hz,hl,l.old g2.old,q3 _ _ _ (g1.trans g2) iB⟩
   |_=>cases ey
  |_=>exact hk.elim)
end
end A
namespace Mi
end Mi
namespace A
open PySem L2 PyProof.Rows So
open Mi (D W Rs Fin aw Out Tg)
variable[Tb:bG]
end A
namespace L2
end L2
namespace L2
end L2
namespace L2
end L2
namespace Mi
open PySem
def nX{α:Type}(r:Rs α)(k:α->Prop)(x:la->Prop):Prop:=match r with
 |.ok a=>k a
 |.ex z=>x z
 |.no=>False
theorem uZ{α β:Type}{r:Rs α}{f:α->Rs β}{k:β->Prop}{x:la->Prop}:nX (r.bind f) k x↔nX r (λa=>nX (f a) k x) x:=by cases r<;>exact Iff.rfl
end Mi
namespace A
open PySem L2 PyProof.Rows So
open Mi (D W Rs Fin nX aw uZ Out Tg la)
variable[Tb:bG]
end A
namespace L2
end L2
namespace L2
end L2
namespace L2
open PySem PySem.Spec PyProof.Rows
end L2
namespace Mi
open PySem
end Mi
namespace A
open PySem L2 PyProof.Rows So
open Mi (D W Rs Fin nX aw uZ Out Tg la)
variable[Tb:bG]
end A
namespace PySem.W
end PySem.W
namespace L2
open PySem PySem.Spec PyProof.Rows
open A (F1)
end L2
namespace Mi
open PySem
end Mi
namespace A
open PySem L2 PyProof.Rows So
open Mi (D W Rs Fin nX aw uZ Out Tg la)
variable[Tb:bG]
end A
namespace Mi
open PySem
def gr(x:Str):Str:=⟨PySem.placed x λ_ c=>Unicode.upperOf c⟩
end Mi
namespace L2
open PySem PySem.Spec PyProof.Rows
end L2
namespace A
open PySem L2 PyProof.Rows So
open Mi (D W Rs Fin aw)
variable[Tb:bG]
end A
namespace Mi
def oJ(m:S):S:=λe=>match m e with
 |.ok (.rt w)=>.ok (.rt w)
 |_=>.no
end Mi
namespace A
open PySem L2 PyProof.Rows So
open Mi (D W Rs Fin aw Out Tg)
variable[Tb:bG]
section
variable{M:Nat->Bool}{κ:Kd}{t:TS}{m:Mi.S}
theorem Pq(y:Nat)(hy:M y=true)(h:AS (λj=>M j && !(j==y)) κ t m):AS M κ t (Mi.oJ m):=λH0 Hv0 e σ H Hv D I f=>by
 have nb:∀{j:Nat},(M j && !(j==y))=false->M j=false\/j=y:=λ{j} z=>by
  cases q:M j with
  |false=>exact .inl rfl
  |true=>rw[q]at z;exact .inr (by simpa using z)
 have nt:∀{j:Nat},(M j && !(j==y))=true->M j=true/\j≠y:=λ{j} z=>by simpa using z
 have fin:∀Hv',bw H0 Hv0 H Hv'->R0 (λj=>M j && !(j==y)) e σ H Hv'->t D σ H:=λHv' gw R=>by
  refine h H0 Hv0 e σ H Hv' D ⟨R,gw,λi w a q1 q2 q3=>I.fresh i w a q1 (nt q2).1 q3,λi j w w' a b hij q1 q2 q3 q4 q5 q6=>I.sep i j w w' a b hij q1 q2 (nt q3).1 (nt q4).1 q5 q6⟩ ?_;unfold Mi.oJ at f;cases hm:m e with
  |no=>rw[hm]at f;exact f.elim
  |ex z=>rw[hm]at f;exact f.elim
  |ok o=>
   rw[hm]at f;cases o with
   |rt w=>exact f
   |nx e2=>exact f.elim
   |bk e2=>exact f.elim
   |ct e2=>exact f.elim
 have other:(∀w0,e[y]?≠aa (aa w0))->t D σ H:=λac=>fin Hv I.gw ⟨I.vw,I.len,λj w' z q=>by
  rcases nb q with q|rfl
  ·exact I.nob j w' z q
  ·exact absurd z (ac w'),λj w' z q=>I.own j w' z (nt q).1⟩
 cases he:e[y]? with
 |none=>exact other λw0 z=>by rw[he]at z;cases z
 |some ow=>
  cases ow with
  |none=>exact other λw0 z=>by rw[he]at z;cases z
  |some w0=>
   obtain⟨p,Hv',q,I',s,r⟩:=I.Mq hy he;refine fin Hv' I'.gw ⟨I'.vw,I.len,λj w' z q2=>?_,λj w' z q2=>?_⟩
   ·by_cases hj:j=y
    ·subst hj;rw[he]at z;cases z;exact⟨_,q,r⟩
    ·exact I'.nob j w' (by rw[fh (d8 hj)];exact z) ((nb q2).resolve_right hj)
   ·obtain⟨m1,hj⟩:=nt q2;exact I'.own j w' (by rw[fh (d8 hj)];exact z) m1
end
end A
namespace Mi
open PySem
end Mi
namespace L2
open PySem PySem.Spec PyProof.Rows
end L2
namespace A
open PySem L2 PyProof.Rows So
open Mi (D W Rs Fin aw)
variable[Tb:bG]
end A
namespace Mi
open PySem
end Mi
namespace A
open PySem L2 PyProof.Rows So
open Mi (D W Rs Fin nX aw uZ Out Tg la)
variable[Tb:bG]
end A
namespace L2
open PySem PySem.Spec PyProof.Rows
section
variable{pr:bh}{wo:a6}{Ar:bx}{Ex:ag->ao->Prop}
theorem BU{it l:af}{zs:Array ag}(ne:l≠it):∀(k j:Nat) (z:ao) (R:List ag->ao->Prop),z.heap.IsListIter it l j->z.heap.IsList l zs->j+k<=zs.size ->
 (∀g,g.IsListIter it l (j+k)->mT it z.heap g->R ((zs.toList.drop j).take k) { z with heap:=g })->wpAny (model pr wo) Ar (draw (.ref it) k) R Ex z
 |0,j,z,R,a,_,_,q=>by
  show wpAny _ _ (pure []) R Ex z;refine bn ?_;have:=q z.heap a (Heap.SameBut.refl ..);simpa using this
 |k+1,j,z,R,a,b,c,q=>by
  have lt:j<zs.size:=by omega
  show wpAny _ _ (pyNext (.ref it) >>= _) R Ex z;refine aB (Hq a b (x:=zs[j]) (by simp[lt]) λg1 a1 b1=>aB (j8 ?_));refine BU ne k (j+1) _ _ a1 (b.extBut b1.extBut ne) (by omega) λg2 a2 b2=>bn ?_;have e:zs.toList.drop j=zs[j]::zs.toList.drop (j+1):=by simp[vq,lt]
  have r:=q g2 (by rw[show j+(k+1)=j+1+k by omega];exact a2) (b1.trans b2);rw[e,List.take_succ_cons]at r;exact r
theorem MU{l:af}{zs:Array ag}{z:ao}{R:List ag->ao->Prop}(h0:Ar.handled=ac)(b:z.heap.IsList l zs)(q:∀g,vU z.heap.objs.size z.heap g->R zs.toList { z with heap:=g }) :
 wpAny (model pr wo) Ar (unpackItems (.ref l) zs.size ac) R Ex z:=by
 have ne:l≠z.heap.objs.size:=by obtain⟨o,ho,_⟩:=b;exact fi (bS ho)
 unfold unpackItems notIterableAtAll;refine aB (aB (zQ b.typeIs PySem.F.slot_list_iter.lookup (bn ?_)));simp only[mU,eO];refine aB (j8 (vL b ?_));refine aB (j8 (BU ne zs.size 0 _ _ ⟨_,de _ rfl,rfl,rfl⟩ (b.push _) (by omega) λg1 a1 b1=>?_));rw[show List.take zs.size (List.drop 0 zs.toList)=zs.toList by rw[sW];exact sP (by simp),aP (by simp)];have c1:g1.IsList l zs:=(b.push _).extBut b1.extBut ne;refine aB (j8 (wpAny_pyNext_list_end h0 a1 c1 (by simp) λg2 b2=>?_));simp only[Option.isSome_none,mU,eO];exact bn (q g2 λd o hd e=>b2 d o hd (b1.extBut d o hd (b8 _ e)))
end
end L2
namespace Mi
open PySem
def ve(is:List Nat)(a:E):S:=λe=>(a e).bind λd=>match d with
 |.lst ds=>(l9 is ds e).bind λe'=>.ok (.nx e')
 |_=>.no
end Mi
namespace A
open PySem L2 PyProof.Rows So
open Mi (D W Rs Fin aw Out Tg)
variable[Tb:bG]
section
variable{X:Cx}{pos:Pos}
def D2(n:Nat)(t:iC):TG:=λv σ H Q=>∃a xs,v=.ref a/\Lst H a xs/\xs.length=n/\t xs σ H Q
theorem NR{es:List aU}{k:Nat}{t:iC}{n:Nat}(hc:X.calm=true)(h:rX X es t)(hn:(assignEach es X.env).length=n:=by rfl)(hst:(assignEach es X.env).findIdx? (·.1)=ac:=by rfl):PG X (.Tuple es k pos) (D2 n t):=by
 intro ae s σ H v u Q I r hw;obtain⟨a,xs,e1,hq,hl,hw⟩:=hw;subst e1;cases r;obtain⟨aj,n0,rv,hz,ho⟩:=uD I hq;have hli:=rv.length;rw[assign_Tuple];refine aB (sZ ?_);unfold unpack;rw[hn,hst];have sz:n=aj.toArray.size:=by rw[cq];omega
 rw[sz];refine aB (j8 (MU (I.ok.hd hc) ⟨_,ho,rfl,_,rfl⟩ λg hx=>?_));have I1:Inv X ae σ H { s with heap:=g }:=I.kept (t':=s.toks) λb o e=>hx b o (fi (bS e)) e;exact h ae _ σ H xs _ Q I1 (by simpa using rv) hw
end
section
variable{M:Nat->Bool}{κ:Kd}{te:TE}{a:Mi.E}
theorem Lr(is:List Nat)(hm:∀i∈is,M i=false)(ha:AE M qV te a):AS M κ (jq te (D2 is.length (uT is))) (Mi.ve is a):=λH0 Hv0 e σ H Hv D I h=>
 ha e σ H Hv _ I.toR0 ((aw.mp h).mono λd hd v H1 Hv1 g1 r=>by
  cases d with
  |lst ds=>
   obtain⟨p,xs,rfl,l,rr⟩:=k3.mp r;have hd:=aw.mp (show Fin (Rs.bind (Mi.l9 is ds e) _) _ from hd);have I2:=I.grow g1;refine⟨p,xs,rfl,l.same g1.vw.sub,by rw[<- rr.len];exact wB hd,?_⟩;exact yQ (P:=λe1 σ1=>R1 M H0 Hv0 e1 σ1 H1 Hv1) (λi hi e1 σ1 d1 v1 p1 r1=>p1.set (hm i hi) r1) I2 rr (hd.mono λe' h' σ' p'=>h' σ' H1 Hv1 p' g1.vis)
  |_=>exact hd.elim)
end
end A
namespace Mi
open PySem
end Mi
namespace L2
open PySem PySem.Spec PyProof.Rows
end L2
namespace A
open PySem L2 PyProof.Rows
open Mi (D W Rs Fin aw)
variable[Tb:bG]
end A
namespace Mi
open PySem
end Mi
namespace L2
open PySem PySem.Spec PyProof.Rows
end L2
namespace A
open PySem L2 PyProof.Rows
open Mi (D W Rs Fin aw)
variable[Tb:bG]
end A
namespace Mi
open PySem
end Mi
namespace A
open PySem L2 PyProof.Rows So
open Mi (D W Rs Fin aw Out Tg)
variable[Tb:bG]
end A
namespace L2
open PySem PySem.Spec PyProof.Rows
def iw(h:aJ)(d:af)(es:Array mQ)(ep:Nat):Prop:=∃o,h.get? d=aa o/\o.ExactDict/\o.data=.dict es ep
theorem iw.ty{s:ao}{d:af}{es:Array mQ}{ep:Nat}(x:iw s.heap d es ep):s.TypeIs (.ref d) "dict" := let ⟨o,e,c,_⟩:=x;⟨o,e,c.1⟩
theorem iw.lt{h:aJ}{d:af}{es:Array mQ}{ep:Nat}(x:iw h d es ep):d<h.objs.size:=let ⟨_,e,_⟩:=x;bS e
theorem iw.go{h h':aJ}{d:af}{es:Array mQ}{ep:Nat}(x:iw h d es ep)(k:∀o,h.get? d=aa o->h'.get? d=aa o):iw h' d es ep:=let ⟨o,e,r⟩:=x;⟨o,k o e,r⟩
section
variable{P:bh}{w:a6}{A:bx}{E:ag->ao->Prop}{s:ao}{d it:af}{es:Array mQ}{ep i:Nat}
theorem Bz{Q:ag->ao->Prop}(nd:(d==sysModules)=false)(x:iw s.heap d es ep)
 (q:Q (.ref s.heap.objs.size) { s with heap:=s.heap.push { cls:=.type "dict_keyiterator", data:=.fields #[.ref d,.int 0 0,.int es.size 0,.int ep 0] } }):wpAny (model P w) A (pyIter (.ref d)) Q E s:=by
 obtain⟨o,e,c,dt⟩:=id x;have ty:=x.ty;refine wpAny_pyIter_slot ty F.slot_dict_iter (lK F.slot_dict_iter ty F.entry_dict_iter ?_ (F.args_dict_iter_1 _));unfold Builtin.«dict.__iter__» Builtin.Dict.dictSlotNone;refine aB (aB (wpAny_notOrdered_dict ty ?_));show wpAny _ _ (pure (cG d)) _ _ s;refine bn ?_;show wpAny _ _ (HR d >>= _) _ _ s;unfold HR;rw[aP (by rw[nd];exact c7)];refine aB (bn (aB (zP e dt (aB (zR e dt ?_)))));refine aB (sX (bn ⟨_,rfl, "dict_keyiterator", _,⟨_,de _ rfl,rfl⟩,tq.lookup,?_⟩));simpa [rawInt]using q
theorem Ey{Q:Option ag->ao->Prop}(hI:s.heap.IsKeyIter it d i es.size ep)(x:iw s.heap d es ep)(lt:i<es.size)
 (q:∀h',h'.IsKeyIter it d (i+1) es.size ep->mT it s.heap h'->Q (aa es[i].key) { s with heap:=h' }):wpAny (model P w) A (pyNext (.ref it)) Q E s:=by
 obtain⟨oi,ei,ci,di⟩:=id hI;obtain⟨o,e,c,dt⟩:=id x;unfold pyNext;refine aB (s0 (qo (name:=lP "__next__") hI.typeIs tq (lK tq hI.typeIs HA ?_ (Hy _))));refine aB (bn (aB (aB ?_)))
 first|refine aB (vH hI.typeIs (bn ?_))|refine aB (vI hI.typeIs (bn ?_))
 refine aB (wpAny_fieldsOf ei di ?_);simp only[show HN "dict_keyiterator" = false by decide,mU,eO];show wpAny _ _ (if(cG d==fJ)=true then _ else _) _ _ s;rw[aP (by exact c7)];refine aB (bn (aB (zP e dt ?_)));rw[aP (by simp)];refine aB (bn (aB (zR e dt ?_)));rw[aP (by simp)];refine bn ?_;simp only[show¬ ((i:Int)<0)from by omega,eO,lM,z5 lt];refine aB ?_
 first|refine aB (vH hI.typeIs (bn ?_))|refine aB (vI hI.typeIs (bn ?_))
 refine aB (wpAny_isOneOf_keyiter hI.typeIs ?_);show wpAny _ _ (setField (.ref it) 1 (rawInt ((i:Int)+1)) >>= _) _ _ s;refine aB (vN ei di (by simp) ?_);have hJ:(s.heap.update it (Obj.mapFields (·.setIfInBounds 1 (rawInt ((i:Int)+1))))).IsKeyIter it d (i+1) es.size ep:=
  ⟨_,vT _ ei (HH (v6 di _)),(Obj.cls_mapFields ..).trans ci,by rw[v6 di];simp[rawInt]⟩
 refine aB (j8 (aB (wpAny_isOneOf_keyiter (s:={ s with heap:=s.heap.update it (Obj.mapFields (·.setIfInBounds 1 (rawInt ((i:Int)+1)))) }) hJ.typeIs ?_)));show wpAny _ _ (pure es[i].key) _ _ _;exact bn (bn ⟨_,rfl,bn (q _ hJ (lO ..))⟩)
theorem Fb{Q:Option ag->ao->Prop}(hh:A.handled=ac)(hI:s.heap.IsKeyIter it d i es.size ep)(x:iw s.heap d es ep)(ge:es.size<=i)
 (q:∀h',vU it s.heap h'->Q ac { s with heap:=h' }):wpAny (model P w) A (pyNext (.ref it)) Q E s:=by
 obtain⟨oi,ei,ci,di⟩:=id hI;obtain⟨o,e,c,dt⟩:=id x;unfold pyNext;refine aB (s0 (qo (name:=lP "__next__") hI.typeIs tq (lK tq hI.typeIs HA ?_ (Hy _))));refine aB (bn (aB (aB ?_)))
 first|refine aB (vH hI.typeIs (bn ?_))|refine aB (vI hI.typeIs (bn ?_))
 refine aB (wpAny_fieldsOf ei di ?_);simp only[show HN "dict_keyiterator" = false by decide,mU,eO];show wpAny _ _ (if(cG d==fJ)=true then _ else _) _ _ s;rw[aP (by exact c7)];refine aB (bn (aB (zP e dt ?_)));rw[aP (by simp)];refine aB (bn (aB (zR e dt ?_)));rw[aP (by simp)];refine bn ?_;simp only[show¬ ((i:Int)<0)from by omega,eO,lM,Array.getElem?_eq_none ge];refine aB ?_
 first|refine aB (vH hI.typeIs (bn ?_))|refine aB (vI hI.typeIs (bn ?_))
 show wpAny _ _ (setField (.ref it) 0 .none >>= _) _ _ s;refine aB (vN ei di (by simp) ?_);show wpAny _ _ (newExc (.type "StopIteration") [] >>= _) _ _ _;refine aB ?_;simp only[newExc,newTuple];refine aB (sX ?_ (by size_fits));refine aB (m:=firstArgMember _ _) (wpAny_of_eq (a:=fJ) (by first|rfl|(simp only[firstArgMember];rfl)) (sX ?_ (by size_fits)));simp only[raiseNew];refine aB (wpAny_handled ?_);rw[show A.in1.handled=ac from hh];refine aB (bn (wpAny_throw ?_));exact aB (wpAny_isInstance (b:=true) (T := "StopIteration") ⟨_,de _ rfl,rfl⟩ isSubtype_stop (bn (q _ (((lO ..).extBut.push _).push _))))
end
end L2
namespace So
end So
namespace Mi
open PySem
def iX:Ky->D
 |.inl i=>.bl i
 |.inr x=>.str x
def CV:W->Rs W
 |.dt ai=>.ok (.df ai)
 |_=>.no
def uf(m:EW):EW:=λe=>(m e).bind CV
def qb(i:Nat):I:=λe=>(wV i e).bind λw=>match w with
 |.df ai=>.ok (ai.map λkv=>.tup (kv.1.map iX))
 |_=>.no
end Mi
namespace L2
open PySem PySem.Spec PyProof.Rows
theorem Inv.M6{X:Cx}{ae:List (af×Obj)}{σ:St}{H:Hp}{s:ao}{a:af}{kv:List (List Key×V)}(I:Inv X ae σ H s)(h:H a=aa (.dT kv)):∃ob,Inv X ae σ (upd H a (.frz ob (.dT kv))) s:=by
 obtain⟨z1,z2,xs,r,ob,es,ep,e,c⟩:=(show bW X.prog X.w H s.heap a (.dT kv)from I.hok a _ h);have ne:∀b u,H b=aa u->u≠.dT kv->b≠a:=λb u q n z=>by subst z;rw[h]at q;exact n (fj q).symm
 have st:∀b u,bW X.prog X.w H s.heap b u->bW X.prog X.w (upd H a (.frz ob (.dT kv))) s.heap b u:=λb u q=>
  q.stay (λ_ _ _ q=>q) (λc q=>by rw[aG (ne c _ q (by simp))];exact q) λc xs q=>by rw[aG (ne c _ q (by simp))];exact q
 refine⟨ob,I.un (t':=s.toks) ⟨λb o q _ _ _=>q,λb o q _ _ _=>⟨o.slots,q⟩,λb o q n _=>by rw[aG (λz=>by subst z;rw[h]at n;cases n)];exact n,λb o q _=>⟨o,q⟩,
  λb xs q=>by rw[aG (ne b _ q (by simp))];exact q,λb o u q=>by rw[aG (ne b _ q (by simp))];exact q,λb w ps q=>⟨#[],by rw[aG (ne b _ q (by simp)),q];simp⟩⟩ λb u q=>?_⟩
 by_cases hb:b=a
 ·subst hb;rw[bu]at q;cases q;exact⟨e,st b _ (I.hok b _ h)⟩
 ·rw[aG hb]at q;exact st b u (I.hok b u q)
def FI(te:TE):TE:=λσ H Q=>te σ H λv H1=>∃a kv,v=.ref a/\H1 a=aa (.dT kv)/\∀ob,Q v (upd H1 a (.frz ob (.dT kv)))
theorem OL{X:Cx}{e:aU}{te:TE}(h:PE X e te):PE X e (FI te):=λae s σ H Q I q=>
 aX (h ae s σ H _ I q) λv s1 ⟨x,H1,I1,r1,a,kv,e,q1,q2⟩=>by
  obtain⟨ob,I2⟩:=I1.M6 q1;exact⟨x,_,I2,r1,q2 ob⟩
def xF(a:af)(ob:Obj)(kv:List (List Key×V)):It:=⟨λi H=>H a=aa (.frz ob (.dT kv))/\i<kv.length,λi H x H'=>H'=H/\∃b k v,kv[i]? = aa (k,v)/\x=.ref b/\H b=aa (.tup (k.map kV)),λi H=>H a=aa (.frz ob (.dT kv))/\kv.length<=i⟩
theorem xu{α β:Type}{F:α->β->Prop}:∀{l:List α} {m:List β} {i:Nat} {x:α},mS F l m->l[i]? = aa x->∃y,m[i]? = aa y/\F x y
 |_,_,_,_,.nil,e=>by simp at e
 |_,_,0,_,.cons r _,e=>by simp at e;subst e;exact⟨_,rfl,r⟩
 |_,_,i+1,x,.cons _ t,e=>by
  obtain⟨u,h1,h2⟩:=xu (i:=i) (x:=x) t (by simpa using e);exact⟨u,by simpa using h1,h2⟩
theorem yM{X:Cx}{ae:List (af×Obj)}{σ:St}{H:Hp}{s:ao}{a:af}{ob:Obj}{kv:List (List Key×V)}(I:Inv X ae σ H s)(q:H a=aa (.frz ob (.dT kv))) :
 (a==sysModules)=false/\kv.length<=sizeLine/\∃es ep,ob.data=.dict es ep/\iw s.heap a es ep/\es.size=kv.length/\∀i k v,kv[i]? = aa (k,v)->∃(lt:i<es.size) (b:af),es[i].key=.ref b/\H b=aa (.tup (k.map kV))/\RelV v es[i].val:=by
 obtain⟨e,z1,z2,xs,r,ob',es,ep,e',c1,c2,c3,c4⟩:=(show bW X.prog X.w H s.heap a (.frz ob (.dT kv))from I.hok a _ q);rw[e]at e';cases e';have hl:es.size=xs.length:=size_of_entries c3;have hl2:kv.length=xs.length:=qw r;refine⟨z2,z1,es,ep,c2,⟨ob,e,c1,c2⟩,by omega,λi k v hk=>?_⟩;obtain⟨x,hx,h1,h2,h3⟩:=xu r hk;have lt:i<es.size:=by rw[hl];exact(ca.mp hx).1
 have he:=entry_at c3 i;rw[hx,zX,z5 lt]at he;have he:=fj he;refine⟨lt,x.2.1,by rw[he];rfl,h2,by rw[he];exact h3⟩
theorem Ly{P:bh}{w:a6}{K:aD}{tg:aU}(a it:af)(ob:Obj)(es:Array mQ)(ep:Nat)(kv:List (List Key×V))(hd:ob.data=.dict es ep) :
 Turn P w K tg (xF a ob kv) [it] it (λi h=>h.IsKeyIter it a i es.size ep) where
 mem:=dm.mpr rfl
 obj:=λi h st b hb=>by
  cases dm.mp hb;obtain⟨o,e,c,d⟩:=st;exact⟨o,e,λv z=>by rw[d]at z;cases z⟩
 keep:=λi h h' st k=>st.at λo e=>k it (dm.mpr rfl) o e
 item:=by intro X hP hw hK hc i ae s σ H E I hf st hg;subst hP hw hK;obtain⟨q,lt⟩:=hg;obtain⟨_,_,es',ep',d',R,hl,at_⟩:=yM I q;rw[hd]at d';cases d';obtain⟨f0,f1,f2,f3,f4,f5⟩:=hf it (dm.mpr rfl);obtain⟨⟨k,v⟩,hk⟩ : ∃p,kv[i]? = aa p:=⟨kv[i],by simp[lt]⟩;obtain⟨lt',b,ek,hb,_⟩:=at_ i k v hk;refine Ey st R lt' λh' st' sb=>?_;have I1:Inv X ae σ H { s with heap:=h' }:=I.turned (t':=s.toks) (λb o hb e=>(sb.2 b hb).trans e) f0 f1 f3 f4 f5;obtain⟨o,e,c,d⟩:=id st';exact⟨_,rfl,qZ (s:={ s with heap:=h' }) e c d (by decide) ⟨.ref b,H,I1,ek,⟨rfl,b,k,v,hk,rfl,hb⟩,st',λb hb=>(hf b hb).1⟩⟩
 done:=by intro X hP hw hK hc i ae s σ H E I hf st hg;subst hP hw hK;obtain⟨q,ge⟩:=hg;obtain⟨_,_,es',ep',d',R,hl,at_⟩:=yM I q;rw[hd]at d';cases d';obtain⟨f0,f1,f2,f3,f4,f5⟩:=hf it (dm.mpr rfl);exact Fb (I.ok.hd hc) st R (by omega) λh' eb=>⟨rfl,I.turned (t':=s.toks) (λb o hb e=>eb b o hb e) f0 f1 f3 f4 f5⟩
 self:=λ_ _ _ _ _ st h=>wpAny_pyIter_keyiter st h
def qb(tl:TE):TI:=λσ H R=>tl σ H λx H1=>∃a ob kv,x=.ref a/\H1 a=aa (.frz ob (.dT kv))/\R (xF a ob kv) H1
theorem Ji{X:Cx}{tg l:aU}{tl:TE}(hl:PE X l tl):PI X tg l (qb tl):=by intro ae s σ H R I h;refine aX (hl ae s σ H _ I h) λv s1 ⟨x,H1,I1,r1,a,ob,kv,e,hq,q⟩=>?_;subst e;cases r1;obtain⟨nd,_,es,ep,d,Rw,hn,_⟩:=yM I1 hq;refine Bz nd Rw ⟨s1.heap.objs.size,[s1.heap.objs.size],_,_,H1,rfl,I1.kept (t':=s1.toks) λb o e=>b8 _ e,Ly a _ ob es ep kv d,⟨_,de _ rfl,rfl,rfl⟩,λb hb=>?_,q⟩;cases dm.mp hb;exact I1.gR (bq _) (I1.hok.fresh (bq _))
end L2
namespace A
open PySem L2 PyProof.Rows
open Mi (D W Rs Fin aw)
variable[Tb:bG]{M:Nat->Bool}
theorem uA{H:Hp}:∀(k:List Key),P2 (Rep H) (k.map Mi.iX) (k.map kV)
 |[]=>.nil
 |.inl i::r=>.cons (nN.mpr rfl) (uA r)
 |.inr x::r=>.cons (nI.mpr rfl) (uA r)
theorem PJ{H Hv H' Hv':Hp}(g:bw H Hv H' Hv'){a:af}{kv:List (List Key×V)}{ai:List (List Mi.Ky×D)}(n:H a=ac)(q:H' a=aa (.dT kv))(nv:Hv' a=ac)(c:dU Hv' ai kv)(ob:Obj) :
 ∃kg,bw H Hv (upd H' a (.frz ob (.dT kv))) kg/\fX kg (.df ai) (.ref a):=by
 have ne:∀b u,H b=aa u->b≠a:=λb u e z=>by subst z;rw[n]at e;cases e
 have sm:cg Hv' (upd Hv' a (.frz ob (.dT kv))):=rN nv;refine⟨upd Hv' a (.frz ob (.dT kv)),⟨?_,g.vis.trans sm,⟨λb u e=>?_,λb xs e=>?_,λb o u e=>?_,g.vw.cd.put q trivial trivial,λb u e=>?_⟩,λb u e m=>?_⟩,a,ob,kv,rfl,bu,c.same sm⟩
 ·exact g.old.put n q
 ·by_cases hb:b=a
  ·subst hb;rw[bu]at e ⊢;exact e
  ·rw[aG hb]at e ⊢;exact g.vw.sub b u e
 ·by_cases hb:b=a
  ·subst hb;rw[bu]at e;cases e
  ·rw[aG hb]at e ⊢;exact g.vw.tup b xs e
 ·by_cases hb:b=a
  ·subst hb;rw[bu]at e ⊢;exact e
  ·rw[aG hb]at e ⊢;exact g.vw.frz b o u e
 ·by_cases hb:b=a
  ·subst hb;rw[bu]at e;cases e;trivial
  ·rw[aG hb]at e;exact g.vw.nv b u e
 ·rw[aG (ne b u e)];exact g.hid b u e m
theorem Mz{t:TE}{m:Mi.EW}(h:AW M qN t m):AW M qV (FI t) (Mi.uf m):=λe σ H Hv Q I q=>
 h e σ H Hv _ I ((aw.mp q).mono λw z v H' Hv' g k=>by
  obtain⟨a,o,rfl,n,q1,nv,c⟩:=k;cases w with
  | dt ai=>cases o with
   |dT kv=>
    refine⟨a,kv,rfl,q1,λob=>?_⟩;obtain⟨kg,g',r⟩:=PJ g n q1 nv c ob;exact z (.ref a) _ kg g' r
   |_=>exact c.elim
  |_=>exact z.elim)
theorem Kb(i:Nat)(hm:M i=false):gK M (qb (eR i)) (Mi.qb i):=λe σ H Hv R I h=>by
 obtain⟨w,he,h⟩:=rJ (aw.mp h);obtain⟨v,hv,r⟩:=I.nob i w he hm;cases w with
 |df ai=>
  obtain⟨a,ob,kv,rfl,q,c⟩:=r;refine⟨.ref a,hv,a,ob,kv,rfl,I.vw.sub _ _ q,h (xF a ob kv) H Hv (λH Hv=>Hv a=aa (.frz ob (.dT kv))/\dU Hv ai kv) (.refl I.vw) ⟨λi H Hv p v hi=>?_,λi H Hv x H' p v hi y=>?_,λH Hv p v=>?_⟩ ⟨q,c⟩ λH1 Hv1 H2 Hv2 z s v=>⟨s _ _ z.1,z.2.same s⟩⟩
  ·exact⟨v.sub _ _ p.1,by rw[<- P2.len p.2];simpa using hi⟩
  ·obtain⟨rfl,b,k,v',hk,rfl,hb⟩:=y;obtain⟨kd,hkd,e1,_⟩:=P2.xc p.2 hk;refine⟨Hv,.tup (kd.1.map Mi.iX),.refl v,by rw[cZ,hkd];rfl,iq.mpr ⟨b,_,rfl,v.tup _ _ hb,?_⟩⟩;have e1:kd.1=k:=e1;rw[e1];exact uA k
  ·exact⟨v.sub _ _ p.1,by rw[<- P2.len p.2];simp⟩
 |_=>exact h.elim
end A
namespace L2
end L2
namespace A
end A
namespace L2
end L2
namespace Rv
end Rv
namespace L2
end L2
namespace A
end A
namespace So
end So
namespace L2
end L2
namespace A
end A
namespace Mi
open PySem
end Mi
namespace L2
open PySem PySem.Spec PyProof.Rows
open PySem.Builtin PySem.Builtin.Str
end L2
namespace A
open PySem L2 PyProof.Rows So
open Mi (D W Rs Fin aw)
variable[Tb:bG]
end A
namespace Mi
open PySem
def Lj(ys:List Str):Str:=ys.foldl (· ++ ·) eV
end Mi
namespace L2
open PySem PySem.Spec PyProof.Rows
end L2
namespace A
open PySem L2 PyProof.Rows So
open Mi (D W Rs Fin aw)
variable[Tb:bG]
end A
namespace Mi
end Mi
namespace A
open PySem L2 PyProof.Rows
open Mi (D W Rs Fin aw)
variable[Tb:bG]
end A
namespace Mi
end Mi
namespace A
open PySem L2 PyProof.Rows
open Mi (D W Rs Fin aw)
variable[Tb:bG]{M:Nat->Bool}{κ:Kd}{tr:TA}{a b:Mi.E}
end A
namespace A
end A
namespace A
end A
namespace A
end A
namespace Mi
end Mi
namespace A
open PySem L2 PyProof.Rows
open Mi (D W Rs Fin aw Out)
end A
namespace A
end A
namespace L2
open PySem PySem.Spec PyProof.Rows A So
variable[Tb:bG]
def rB(P:bh)(w:a6)(K:aD)(mg:Str->Option ag)(base:aJ)(A:bx)(N':List Str)(env:Env)(s:ao)(H:Hp)(outer:List Env):Cx:={ prog:=P,w:=w,K:=K,mg:=mg,base:=base,A:=A.deeper env,N:=N',s₀:=s,H₀:=H,env:=env,outer:=outer,stack:=env::outer,ex:=[],fn:=λ_=>false,calm:=true,pn:=[],xe:=λ_ _=>False }
def Kept(us:List (af×Obj))(outer:List Env)(H:Hp)(h:aJ):Prop:=∀p∈us,h.get? p.1=aa p.2/\H p.1=ac/\p.1∉frs outer
structure yO(x:Str)(ys:List Str)(gs:List V)(sc:dB)(cl:List (Str×af))(us:List (af×Obj)):Prop where
 kind:sc.kind=.function
 co:sc.isCoroutine=false
 gen:sc.isGenerator=false
 jD:∀y∈sc.names,y.2≠.cell
 par:sc.names.lookup x=aa .local
 has:∀y,sc.names.lookup y=aa .free->∃c,cl.lookup y=aa c
 inj:∀y z c,cl.lookup y=aa c->cl.lookup z=aa c->y=z
 len:ys.length=gs.length
 cell:∀y c,cl.lookup y=aa c->∃o v,(c,o)∈us/\o.data=.cell v
 val:∀(i:Nat) y g,ys[i]? = aa y->gs[i]? = aa g->sc.names.lookup y=aa .free/\∃c o u,cl.lookup y=aa c/\(c,o)∈us/\o.data=.cell (aa u)/\RelV g u
section
variable{P:bh}{w:a6}{K:aD}{mg:Str->Option ag}{base:aJ}{outer:List Env}{H:Hp}{s:ao}{A:bx}{k:Nat}{qual x:Str}{ps:mP}{body:aU}{sc:dB}{cl:List (Str×af)}{pm ctv:ag}{f c':af}{ys:List Str}{gs:List V}{us:List (af×Obj)}
theorem Px{h1:aJ}{tk:Nat}{v:V}{u:ag}(e0:lU P w K mg base A outer s H)(hd:A.handled=ac)(S:yO x ys gs sc cl us)(kp:Kept us outer H s.heap)(rv:RelV v u)
 (hns:h1.Ns s.heap.objs.size λy=>[(x,u)].reverse.lookup y) (hk:∀b o,s.heap.get? b=aa o->h1.get? b=aa o) :
 Inv (rB P w K mg base A (x::ys) (kC qual sc s f c' cl) s H outer) [] (aa v::gs.map aa) H { s with heap:=h1,toks:=tk }:=by
 have noA:∀b:af,b∉([]:List af):=λb z=>absurd z (by simp);refine⟨⟨e0.mod,S.kind,rfl,rfl,bq _,S.inj,λy hy=>?_,λy c z=>(nomatch z),λ_=>hd,Aa e0.frames,.inr ⟨rfl,rfl⟩,λb z=>absurd z (noA b),e0.bs,e0.bsz,λb _ _=>noA b,λb z=>absurd z (noA b),e0.i4,e0.frf⟩,
  rfl,e0.bare,Un.kept hk,⟨_,hns,λi y w h2 h3 h4=>?_⟩,λy c e=>?_,e0.hok.fresh (bq _),λy c e=>?_,λp hp=>absurd (show p∈([]:List (af×Obj))from hp) (by simp),e0.hok.kept hk,?_⟩
 ·have hy:sc.names.lookup y=aa .cell\/sc.names.lookup y=aa .free:=hy;rcases hy with hy|hy
  ·exact absurd rfl (S.jD _ (kT hy))
  ·exact S.has y hy
 ·have h2:(x::ys)[i]? = aa y:=h2;cases i with
  |zero=>
   have e:x=y:=by simpa using h2
   subst e;have e2:v=w:=by simpa using h3
   subst e2;exact⟨u,rv,.inl ⟨S.par,by simp⟩⟩
  |succ i=>
   have hy:ys[i]? = aa y:=by simpa using h2
   have h3:(gs.map aa)[i]? = aa (aa w):=by simpa using h3
   rw[cZ]at h3;obtain⟨g,hg,e⟩:=i7.mp h3;cases e;obtain⟨n1,c,o,u2,n2,n3,n4,n5⟩:=S.val i y w hy hg;exact⟨u2,n5,.inr ⟨.inr n1,c,n2,o,hk _ _ (kp _ n3).1,n4⟩⟩
 ·obtain⟨o,v2,n1,n2⟩:=S.cell y c e;exact⟨v2,o,hk _ _ (kp _ n1).1,n2⟩
 ·obtain⟨o,v2,n1,n2⟩:=S.cell y c e;exact(kp _ n1).2.1
 ·show(aa v::gs.map aa).length=(x::ys).length;simp[S.len]
theorem IM{u:ag}{v:V}{tb:TE}{Q:VK}(e0:lU P w K mg base A outer s H)(hr:b9 (k+1) A)(S:yO x ys gs sc cl us)(kp:Kept us outer H s.heap)
 (ho:(f,mM "<lambda>" qual ps body sc cl pm c' ctv)∈us) (hcd:s.heap.CodeRec (.ref c') qual)
 (hbind:bindArgs (ql "<lambda>" qual ps body sc cl pm (.ref c') ctv) ⟨[u],[]⟩=pure [(x,u)]) (rv:RelV v u)
 (hb:∀env:Env,b9 k (A.deeper env)->env=kC qual sc s f c' cl->PE (rB P w K mg base A (x::ys) env s H outer) body tb) (h:tb (aa v::gs.map aa) H Q) :
 wpAny (model P w) A (call (.ref f) [u]) (CE outer P w H s Q) (λ_ _=>False) s:=by
 refine vR (G4 hr.depth (kp _ ho).1 rfl S.co S.gen rfl hcd ?_);rw[hbind];have lim:s.heap.NoLimit:=e0.mod.nolimit.keeps λb o e=>(e0.bs b o e).1;refine bn (zM S.jD (λy hy=>by
  have e:y=(x,u):=by simpa using hy
  rw[e];exact S.par) (λh1 hns hsb=>⟨lim.fresh _ hsb,?_⟩) S.kind)
 show codeAny _ _ (.expr body (kC qual sc s f c' cl)) _ _;have hk:∀b o,s.heap.get? b=aa o->h1.get? b=aa o:=λb o e=>hsb.extBut b o (fi (bS e)) (b8 _ e);have J:=Px (tk:=s.toks+[(x,u)].length) (qual:=qual) (f:=f) (c':=c') e0 hr.hd S kp rv hns hk;refine G5 (gH (hb _ (hr.deeper _) rfl [] _ (aa v::gs.map aa) H Q J h) (λk' s' hq=>?_) λ_ _ z=>z.elim);obtain⟨v2,H2,I2,r2,q⟩:=hq;exact⟨v2,H2,I2.os,I2.bare,I2.base,I2.hok,r2,q⟩
end
structure t7(P:bh)(w:a6)(K:aD)(mg:Str->Option ag)(base:aJ)(k:Nat)(f:af)(us:List (af×Obj))(c':af)(q:Str)(sp:V->Hp->VK->Prop):Prop where
 fn:∃oc od fd sl,(f,(⟨oc,od,.func fd,sl⟩ : Obj))∈us
 run:∀(A:bx) (outer:List Env) (s:ao) (H:Hp) (u:ag) (v:V) (Q:VK),b9 k A->lU P w K mg base A outer s H->Kept us outer H s.heap->H c'=aa (.ext (eZ c' q))->RelV v u->sp v H Q ->
  wpAny (model P w) A (call (.ref f) [u]) (CE outer P w H s Q) (λ_ _=>False) s
section
variable{X:Cx}{x:Str}{e:aU}{p pos:Pos}{k i:Nat}{f c':af}{q:Str}{us:List (af×Obj)}{te:TE}{sp:V->Hp->VK->Prop}
theorem Kept.inv{ae:List (af×Obj)}{σ:St}{H:Hp}{s:ao}(I:Inv X ae σ H s)(hx:X.ex=[])(kp:Kept us X.outer X.H₀ X.s₀.heap):Kept us X.stack H s.heap:=λp hp=>by
 obtain⟨h1,h2,h3⟩:=kp p hp;have nx:p.1∉X.ex:=by rw[hx];simp
 refine⟨I.base.keep _ _ h1 h2 h3 nx,I.base.free _ _ h1 h2 nx,λz=>?_⟩;rcases br.mp (I.pO p.1 z)with y|y
 ·have:=bS h1;have:=I.ok.above;rw[y]at *;exact absurd (fR ‹_› this) (i6 _)
 ·exact h3 y
def EF(i:Nat)(f c':af)(q:Str)(te:TE)(sp:V->Hp->VK->Prop):TE:=λσ H Q=>σ[i]? = aa (aa (.ref f))/\te σ H λv H1=>H1 c'=aa (.ext (eZ c' q))/\sp v H1 Q
theorem Nw(L:t7 X.prog X.w X.K X.mg X.base k f us c' q sp)(kp:Kept us X.outer X.H₀ X.s₀.heap)(hx:X.ex=[])(hr:b9 k X.A)(hv:PE X (.Name x p) (eR i))(he:PE X e te)
 (hs:starEach [e] X.env=(false,eval e X.env)::starEach [] X.env:=by rfl) (hpl:(backTo pos (starEach [] X.env)).any (·.1)=false:=by rfl) :
 PE X (.Call (.Name x p) [e] [] pos) (EF i f c' q te sp):=by
 intro ae s σ H Q I ⟨h1,h2⟩;have fnAt:∀{ae:List (af×Obj)} {σ:St} {H:Hp} {s:ao},Inv X ae σ H s->PySem.W.FnAt f s.heap:=λI=>by
  obtain⟨oc,od,fd,sl,m⟩:=L.fn;exact⟨oc,od,fd,sl,((kp.inv I hx) _ m).1⟩
 refine qp (aX (hv ae s σ H (λv H1=>v=.ref f/\te σ H1 λv H1=>H1 c'=aa (.ext (eZ c' q))/\sp v H1 Q) I ⟨_,h1,rfl,h2⟩) λu s1 ⟨v,H1,I1,r,e1,q1⟩=>?_);subst e1;cases r;refine PySem.W.callWith_F (fnAt I1) ?_ hs hpl;rw[hs];show wpAny _ _ (spliced ((false,eval e X.env)::backTo pos (starEach [] X.env))) _ _ s1;refine tH (aX (he ae s1 σ H1 _ I1 q1) λu2 s2 ⟨v2,H2,I2,r2,q2,q3⟩=>wj ⟨fnAt I2,?_⟩);refine gH (L.run X.A X.stack s2 H2 u2 v2 Q hr I2.env0 (kp.inv I2 hx) q2 r2 q3) (λk' s' hq=>I2.after hq) λ_ _ z=>z.elim
end
open Mi (Kp)
abbrev _root_.Mi.Kp.vs(κ:Kp):List V:=κ.ga.map V.ref
structure rj(P:bh)(w:a6)(K:aD)(mg:Str->Option ag)(base:aJ)(k:Nat)(f:af)(fd:bF)(ps:List Str)(kl:Nat)(spl:List V->V->Hp->VK->Prop)(sp:Kp->Sp):Prop where
 len:∀κ vs H Q E,sp κ vs H Q E->vs.length=ps.length
 run:∀(A:bx) (outer:List Env) (s:ao) (H:Hp) (args:Args) (us:List ag) (vs:List V) (Q:VK) (κ:Kp) (us':List (af×Obj)),b9 k A->lU P w K mg base A outer s H->lL s fd args (ps.zip us)->Vals vs us ->
  t7 P w K mg base kl κ.a us' κ.c κ.q (spl κ.vs)->Kept us' outer H s.heap->sp κ vs H Q E0->codeAny (model P w) A (.call (.ref f) args) (CR aL outer P w H s Q E0) s
theorem NN{P:bh}{w:a6}{K:aD}{mg:Str->Option ag}{base:aJ}{k kl:Nat}{f:af}{x qual:Str}{st:bt}{fd:bF}{N ps:List Str}{spl:List V->V->Hp->VK->Prop}{sp:Kp->Sp}(F:ce K x qual st f fd)(S:cu N ps (bB st))
 (len:∀κ vs H Q E,sp κ vs H Q E->vs.length=ps.length)
 (hbody:∀(cdv:ag) (A:bx) (outer:List Env) (s:ao) (H:Hp) (vs:List V) (Q:VK) (κ:Kp) (us':List (af×Obj)),b9 k (A.deeper (envOfC qual (bB st) s.heap.objs.size f cdv)) ->
  t7 P w K mg base kl κ.a us' κ.c κ.q (spl κ.vs)->Kept us' outer H s.heap->sp κ vs H Q E0 ->
  ∃t,f6 (ki aL P w K mg base N qual (bB st) f cdv A outer s H E0).kK (io st) t/\t { nx:=λ_ H'=>Q .non H',rt:=Q } (start N vs) H) :
 rj P w K mg base (k+1) f fd ps kl spl sp:=by
 obtain⟨oc,od,kV,doc,pm,an,cdv,ct,osl,rfl,lk,hcd⟩:=F.ex;refine⟨len,λA outer s H args us vs Q κ us' hr e0 hb r L kp h=>?_⟩;obtain⟨t,ht,hq⟩:=hbody cdv A outer s H vs Q κ us' (hr.deeper _) L kp h;have old:∀b o,base.get? b=aa o->s.heap.get? b=aa o:=λb o e=>(e0.bs b o e).1;have kx:K.In s.heap:=e0.mod.kin.keeps old;refine codeAny_call_function hr.depth (kx _ _ lk) rfl S.co S.gen rfl (G9 kx hcd) (hb _ _ _ _ (Ho S.kind (λy hy=>?_) λenv he s1 x1=>?_))
 ·rcases S.par y.1 (vA (a:=y.1) (b:=y.2) hy).1 with z|z
  ·exact .inl z
  ·exact .inr ⟨z,zF _ _ _ (.inl z)⟩
 ·subst he;refine⟨(e0.mod.nolimit.keeps old).keeps x1.toInCall.keep,codeAny_func ?_⟩;refine gH (ht.kK [] s1 (start N vs) H _ (CH S hr.hd e0 (len _ _ _ _ _ h) r x1) hq) (λfl s' hs=>?_) λe s' hs=>hs;cases fl with
  |ret u=>obtain⟨v,σ',H',J,rv,q⟩:=hs;exact⟨v,H',J.os,J.bare,J.base,J.hok,rv,q⟩
  |next=>obtain⟨σ',H',J,q⟩:=hs;exact⟨.non,H',J.os,J.bare,J.base,J.hok,rfl,q⟩
  |brk=>obtain⟨_,_,_,q⟩:=hs;exact h9 q
  |cont=>obtain⟨_,_,_,q⟩:=hs;exact h9 q
structure pD(X:Cx)(x:Str)(ρ:List Nat)(ys:List Str)(sc:dB)(cl:List (Str×af)):Prop where
 kind:sc.kind=.function
 co:sc.isCoroutine=false
 gen:sc.isGenerator=false
 jD:∀y∈sc.names,y.2≠.cell
 par:sc.names.lookup x=aa .local
 clo:∀p∈cl,X.env.cells.lookup p.1=aa p.2
 has:∀y,sc.names.lookup y=aa .free->∃c,cl.lookup y=aa c
 len:ys.length = ρ.length
 ix:∀(i j:Nat) y,ρ[i]? = aa j->ys[i]? = aa y->X.N[j]? = aa y/\sc.names.lookup y=aa .free/\(X.env.kindOf y=aa .cell\/X.env.kindOf y=aa .free)
section
variable{X:Cx}{fx lx qual:Str}{e:aU}{ps:mP}{body:aU}{sc:dB}{cl:List (Str×af)}{c T fa:af}{p pos fT:Pos}{k kl:Nat}{ρ:List Nat}{ys pps:List Str}{te tb:TE}{fd:bF}{spl:List V->V->Hp->VK->Prop}{sp:Kp->Sp}
def yZ(T:af)(q:Str)(ρ:List Nat)(te:TE)(sp:Kp->Sp):TE:=λσ H Q=>te σ H λv H1=>∃(tps:Array ag) (ga:List af),H1 T=aa (.tbl q tps)/\gp H1/\(∀(i:Nat) (j:Nat),ρ[i]? = aa j->∃a:af,ga[i]? = aa a/\σ[j]? = aa (aa (V.ref a)))/\ga.length = ρ.length /\
 ∀H2 f c',Tab T q H1 H2->H2 c'=aa (.ext (eZ c' q))->H2 f=ac->sp ⟨f,c',q,ga⟩ [v,.ref f] H2 Q E0
theorem Lc{ae:List (af×Obj)}{σ:St}{H:Hp}{s:ao}{f c':af}{pm ctv:ag}{ga:List af}(I:Inv X ae σ H s)(hfn:∀x,X.fn x=true)(S:pD X lx ρ ys sc cl)(hf:s.heap.get? f=aa (mM "<lambda>" qual ps body sc cl pm c' ctv))(fp:eM X ae H f)
 (hga:∀(i:Nat) (j:Nat),ρ[i]? = aa j->∃a:af,ga[i]? = aa a/\σ[j]? = aa (aa (V.ref a))) (hgl:ga.length = ρ.length)
 (hbind:∀(pm:ag) (c':af) (ctv u:ag),bindArgs (ql "<lambda>" qual ps body sc cl pm (.ref c') ctv) ⟨[u],[]⟩=pure [(lx,u)])
 (hb:∀(A:bx) (f c':af) (s:ao) (H:Hp) (env:Env) (outer:List Env),b9 kl (A.deeper env)->env=kC qual sc s f c' cl->PE (rB X.prog X.w X.K X.mg X.base A (lx::ys) env s H outer) body tb)
 (hsp:∀gs v H Q,spl gs v H Q->tb (aa v::gs.map aa) H Q) :
 ∃us,t7 X.prog X.w X.K X.mg X.base (kl+1) f us c' qual (spl (ga.map V.ref))/\Kept us X.stack H s.heap:=by
 have HY:∀b,b≠X.env.locals->b∉X.fs->b∉frs X.stack:=λb h1 h2 z=>by
  rcases br.mp (I.pO b z)with y|y
  ·exact h1 y
  ·exact h2 y
 have cfs:∀y c,X.env.cells.lookup y=aa c->c∉X.fs:=λy c e z=>by
  obtain⟨_,o,ho,_⟩:=I.ok.i4.mem z;exact absurd (fR (bS ho) (I.ok.cab y c (hfn y) e)) (i6 _)
 let us:List (af×Obj):=(f,mM "<lambda>" qual ps body sc cl pm c' ctv)::cl.filterMap λyc=>(s.heap.get? yc.2).map λo=>(yc.2,o);have mem:∀y c o,cl.lookup y=aa c->s.heap.get? c=aa o->(c,o)∈us:=λy c o h1 h2=>by
  refine cy _ (vx.mpr ⟨(y,c),kT h1,?_⟩);simp[h2]
 have kp:Kept us X.stack H s.heap:=λp hp=>by
  rcases br.mp hp with rfl|hp
  ·exact⟨hf,fp.1,HY f fp.2.1 fp.2.2.1⟩
  ·obtain⟨⟨y,c2⟩,h1,h2⟩:=vx.mp hp;obtain⟨o,h3,rfl⟩:=i7.mp h2;have hc:X.env.cells.lookup y=aa c2:=S.clo _ h1;exact⟨h3,I.ja y c2 hc,HY c2 (I.lW y c2 hc) (cfs y c2 hc)⟩
 have clo:∀y c,cl.lookup y=aa c->X.env.cells.lookup y=aa c:=λy c e=>S.clo (y,c) (kT e);have SC:yO lx ys (ga.map V.ref) sc cl us:=by
  refine⟨S.kind,S.co,S.gen,S.jD,S.par,S.has,λy z c h1 h2=>I.ok.inj y z c (clo y c h1) (clo z c h2),by rw[S.len,aQ,hgl],λy c e=>?_,λi y g h1 h2=>?_⟩
  ·obtain⟨v,o,ho,hd⟩:=I.cell y c (clo y c e);exact⟨o,v,mem y c o e ho,hd⟩
  ·have hi:i < ρ.length:=by rw[<- S.len];exact(ca.mp h1).1
   have hj:ρ[i]? = aa ρ[i]:=by simp[hi]
   obtain⟨n1,n2,n3⟩:=S.ix i _ y hj h1;obtain⟨a,h3,h4⟩:=hga i _ hj;rw[cZ,h3]at h2;cases h2;obtain⟨m,hm,hl⟩:=I.loc;have vis:pq X.env.scope y:=by
    rcases n3 with z|z
    ·exact .inr (.inl z)
    ·exact .inr (.inr z)
   obtain⟨u2,r2,lk⟩:=hl _ y _ n1 h4 vis;obtain⟨c2,hc2⟩:=S.has y n2;refine⟨n2,?_⟩;rcases lk with ⟨z,_⟩|⟨_,c3,e3,o,ho,hd⟩
   ·rcases n3 with y1|y1
    ·rw[z]at y1;cases y1
    ·rw[z]at y1;cases y1
   ·rw[clo y c2 hc2]at e3;cases e3;exact⟨c2,o,u2,hc2,mem y c2 o hc2 ho,hd,r2⟩
 refine⟨us,⟨⟨_,_,_,_,bP⟩,λA outer s3 H3 u v Q hr e0 kp3 hc3 rv h=>?_⟩,kp⟩;have hrec:s3.heap.CodeRec (.ref c') qual:=by obtain⟨⟨o,vs,t,e1,e2,e3⟩,_⟩:=e0.hok c' _ hc3;exact⟨c',o,vs,t,rfl,e1,e2,e3⟩
 exact IM e0 hr SC kp3 bP hrec (hbind pm c' ctv u) rv (λenv h1 h2=>hb A f c' s3 H3 env outer h1 h2) (hsp _ _ _ _ h)
theorem Lq(F:rj X.prog X.w X.K X.mg X.base k fa fd pps (kl+1) spl sp)(hr:b9 k X.A)(hg:Gl X fx)(hm:X.mg fx=aa (.ref fa))(hkp:kR X.K (.ref fa)=true)(hbd:Binds X.K fd pps [])(he:PE X e te)
 (hc:X.env.code=.ref c) (C:eD X.base c T) (hB:BM X.mg X.base) (hdef:defaultsOf ps X.env=([],[])) (hq:X.env.qual ++ "<lambda>" = qual) (hcl:closureFor sc X.env=pure cl) (hfn:∀x,X.fn x=true) (S:pD X lx ρ ys sc cl)
 (hbind:∀(pm:ag) (c':af) (ctv u:ag),bindArgs (ql "<lambda>" qual ps body sc cl pm (.ref c') ctv) ⟨[u],[]⟩=pure [(lx,u)])
 (hb:∀(A:bx) (f c':af) (s:ao) (H:Hp) (env:Env) (outer:List Env),b9 kl (A.deeper env)->env=kC qual sc s f c' cl->PE (rB X.prog X.w X.K X.mg X.base A (lx::ys) env s H outer) body tb)
 (hsp:∀gs v H Q,spl gs v H Q->tb (aa v::gs.map aa) H Q)
 (hdb:(fx==("__debug__" : Str))=false:=by decide) (hs1:starEach [e,.Lambda ps body sc fT] X.env=(false,eval e X.env)::starEach [.Lambda ps body sc fT] X.env:=by rfl)
 (hs2:starEach [.Lambda ps body sc fT] X.env=(false,eval (.Lambda ps body sc fT) X.env)::starEach [] X.env:=by rfl) (hpl:(backTo pos (starEach [.Lambda ps body sc fT] X.env)).any (·.1)=false:=by rfl) :
 PE X (.Call (.Name fx p) [e,.Lambda ps body sc fT] [] pos) (yZ T qual ρ te sp):=by
 intro ae s σ H Q I h;refine qp (Ba I hg hm ?_ hdb);refine G8 (h₀:=X.base) I.ok.mod.kin hkp ?_ hs1 hpl;rw[hs1];show wpAny _ _ (spliced ((false,eval e X.env)::backTo pos (starEach [.Lambda ps body sc fT] X.env))) _ _ s;refine tH (aX (he ae s σ H _ I h) λu s1 ⟨v,H1,I1,r1,q1⟩=>?_);obtain⟨tps,ga,hT,ck,hga,hgl,q2⟩:=q1;rw[hs2];show wpAny _ _ (spliced ((false,eval (.Lambda ps body sc fT) X.env)::backTo pos (starEach [] X.env))) _ _ s1;refine tH (El I1 hc C ck hT hB hdef hq hcl λf c' ctv pm s2 H2 tab hc' hf I2 fpf=>wj ⟨I2.ff,?_⟩);obtain⟨us,L,kp⟩:=Lc (spl:=spl) (qual:=qual) I2 hfn S hf fpf hga hgl hbind hb hsp;have q3:=q2 H2 f c' tab hc' fpf.1;have r2:Vals [v,.ref f] ([u,.ref f]++[]):=.cons r1 (.cons rfl .nil);have hl:([u,.ref f]++[]:List ag).length=pps.length:=by rw[<- r2.length];exact F.len _ _ _ _ _ q3
 show wpAny _ _ (call (.ref fa) [u,.ref f]) _ _ s2;refine vR (vO (F.run X.A X.stack s2 H2 ⟨[u,.ref f],[]⟩ _ _ Q ⟨f,c',qual,ga⟩ us hr I2.env0 (hbd s2 [u,.ref f] I2.ff hl) r2 L kp q3) λr s' hq=>?_);cases r with
 |error e=>exact hq.elim
 |ok fl=>
  cases fl with
  |ret u=>exact I2.after hq
  |next=>exact h9 hq
  |brk=>exact h9 hq
  |cont=>exact h9 hq
end
end L2
namespace Mi
def nW(κ:Kp)(i:Nat)(f:Fn)(a:E):E:=λe=>match e[i]? with
 |some (aa (.fn κ' aC))=>if κ' = κ then(a e).bind λx=>(f (.d x::aC.map W.d)).bind qe else .no
 |_=>.no
def isRef:D->Bool
 |.lst _=>true
 |.tup _=>true
 |_=>false
def uv:List Nat->Env->Rs (List D)
 |[],_=>.ok []
 | j::r,e=>match e[j]? with
  |some (aa (.d d))=>if isRef d=true then(uv r e).bind λds=>.ok (d::ds)else .no
  |_=>.no
def ED:W->Rs W
 |.dt ai=>if jn (ai.map (·.2))=true then .ok (.dt ai)else .no
 |_=>.no
def ze(F:D->List D->Rs W)(ρ:List Nat)(a:E):EW:=λe=>(a e).bind λx=>(uv ρ e).bind λaC=>(F x aC).bind ED
def Fh(a:E):Fn:=λws=>(a (ws.map aa)).bind λd=>.ok (.d d)
def tT(a:E):E:=λe=>(dP a e).bind λc=>.ok (.bl (!c))
end Mi
namespace A
open PySem L2 PyProof.Rows So
open Mi (D W Rs Fin aw Out Kp)
variable[Tb:bG]
section
variable{M:Nat->Bool}{te:TE}{a:Mi.E}{fn:Mi.Fn}{κ:Kp}{i:Nat}{ρ:List Nat}{T:af}{q:Str}{F:Kp->Mi.Fn}{F0:D->List D->Rs W}
def tR(fn:Mi.Fn)(gs:List V)(v:V)(H:Hp)(Q:VK):Prop:=au fn (v::gs) H Q E0
theorem Ec{H:Hp}:∀{aC:List D} {ga:List af},P2 (λd a=>Rep H d (.ref a)) aC ga->P2 (fX H) (aC.map W.d) (ga.map V.ref)
 |_,_,.nil=>.nil
 |_,_,.cons h t=>.cons h (Ec t)
theorem PB(hM:M i=false)(ha:AE M qV te a):AE M qV (EF i κ.a κ.c κ.q te (tR fn κ.vs)) (Mi.nW κ i fn a):=λe σ H Hv Q I h=>by
 unfold Mi.nW at h;cases he:e[i]? with
 |none=>rw[he]at h;exact h.elim
 |some o=>
  cases o with
  |none=>rw[he]at h;exact h.elim
  |some w=>
   cases w with
   |fn κ' aC=>
    rw[he]at h;by_cases hk:κ' = κ
    ·subst hk;simp only[hV]at h;obtain⟨v,q,rfl,hc,rc⟩:=I.nob i _ he hM;refine⟨q,ha e σ H Hv _ I ((aw.mp h).mono λx hx v H1 Hv1 g1 rx=>⟨g1.vw.sub _ _ (g1.vis _ _ hc),Hv1,_,g1.vw,.cons rx (Ec (rc.imp λ_ _ z=>iZ g1.vis z)),(aw.mp hx).mono λw hw v2 H2 Hv2 g2 k=>?_⟩)⟩;cases w with
     |d y=>exact hw v2 H2 Hv2 (g1.trans g2) (KM.mono (κ:=qV) g1.old k)
     |_=>exact hw.elim
    ·simp only[hk,eO]at h;exact h.elim
   |_=>rw[he]at h;exact h.elim
theorem CN{e:Mi.Env}{σ:L2.St}{H Hv:Hp}(I:R0 M e σ H Hv):∀{ρ:List Nat} (_:∀j∈ρ,M j=false) {Q:List D->Prop},Fin (Mi.uv ρ e) Q->∃aC ga,P2 (λd a=>Rep Hv d (V.ref a)) aC ga/\(∀(i j:Nat),ρ[i]? = aa j->∃a:af,ga[i]? = aa a/\σ[j]? = aa (aa (V.ref a)))/\ga.length = ρ.length/\Q aC
 |[],_,Q,h=>⟨[],[],.nil,λi j z=>by simp at z,rfl,h⟩
 |j::r,hM,Q,h=>by
  unfold Mi.uv at h;cases he:e[j]? with
  |none=>rw[he]at h;exact h.elim
  |some o=>
   cases o with
   |none=>rw[he]at h;exact h.elim
   |some w=>
    cases w with
    |d d=>
     rw[he]at h;by_cases hd:Mi.isRef d=true
     ·simp only[hd,hV]at h;obtain⟨aC,ga,h1,h2,h3,h4⟩:=CN I (λk hk=>hM k (cy _ hk)) (aw.mp h);obtain⟨v,hv,rv⟩:=I.nob j _ he (hM j bP);have rv:Rep Hv d v:=rv;obtain⟨b,rfl⟩ : ∃b,v=V.ref b:=by
       cases d with
       |lst ds=>obtain⟨b,_,e,_⟩:=k3.mp rv;exact⟨b,e⟩
       |tup ds=>obtain⟨b,_,e,_⟩:=iq.mp rv;exact⟨b,e⟩
       |_=>cases hd
      refine⟨d::aC,b::ga,.cons rv h1,λi k hk=>?_,by simp[h3],h4⟩;cases i with
      |zero=>
       have:j=k:=by simpa using hk
       subst this;exact⟨b,rfl,hv⟩
      |succ i=>exact h2 i k (by simpa using hk)
     ·simp only[hd,eO]at h;exact h.elim
    |_=>rw[he]at h;exact h.elim
theorem Jr{H Hv H' Hv':Hp}{b:af}{kv:List (List Key×V)}(v:Vw H Hv)(g:bw H Hv H' Hv')(hn:H b=ac)(ho:H' b=aa (.dT kv)):bw H Hv H' (λc=>if c=b then ac else Hv' c):=by
 have ne:∀{c o},Hv c=aa o->c≠b:=λ{c o} e z=>by subst z;have:=v.sub _ _ e;rw[hn]at this;cases this
 have get:∀{c o},(if c=b then ac else Hv' c)=aa o->Hv' c=aa o:=λ{c o} e=>by
  split at e
  ·cases e
  ·exact e
 refine⟨g.old,λc o e=>?_,⟨λc o e=>g.vw.sub c o (get e),λc xs e=>?_,λc q u e=>?_,g.vw.cd,λc o e=>g.vw.nv c o (get e)⟩,λc o e n=>?_⟩
 ·show(if c=b then ac else Hv' c)=aa o;rw[aP (ne e)];exact g.vis c o e
 ·show(if c=b then ac else Hv' c)=_;rw[aP (λz=>by subst z;rw[ho]at e;cases e)];exact g.vw.tup c xs e
 ·show(if c=b then ac else Hv' c)=_;rw[aP (λz=>by subst z;rw[ho]at e;cases e)];exact g.vw.frz c q u e
 ·show(if c=b then ac else Hv' c)=ac;split
  ·rfl
  ·exact g.hid c o e n
theorem FJ{H H':Hp}(t:∀a xs,H a=aa (.tup xs)->H' a=aa (.tup xs)):∀{ai:List (List Key×D)} {kv:List (List Key×V)},Mi.jn (ai.map (·.2))=true->dU H ai kv->dU H' ai kv
 |_,_,_,.nil=>.nil
 |p::r,_,hi,.cons h k=>by
  rw[cW,Mi.jn,oA]at hi;exact .cons ⟨h.1,zd t hi.1 h.2⟩ (FJ t hi.2 k)
theorem IK(hM:∀j∈ρ,M j=false)(hTb:(T,q)∈Tb.l)(P1:∀(κ:Kp) (x:D) (aC:List D),F κ [.d x,.fn κ aC]=F0 x aC)(ha:AE M qP te a):AW M qN (yZ T q ρ te λκ=>cO (F κ)) (Mi.ze F0 ρ a):=λe σ H Hv Q I h=>
 ha e σ H Hv _ I ((aw.mp h).mono λx hx v H1 Hv1 g1 rx=>by
  have I1:=I.grow g1;obtain⟨aC,ga,rc,hga,hgl,hq⟩:=CN I1 hM (aw.mp hx);obtain⟨tps,hT⟩:=g1.vw.cd.has (T,q) hTb;refine⟨tps,ga,hT,g1.vw.cd,hga,hgl,λH2 f c' tab hc' hf=>?_⟩;have g2:=Dj g1.vw tab;have rx2:qP H H2 Hv1 (.d x) v:=KG.go g2 rx;have full:cg Hv1 (iz H2):=λb o z=>jX (g2.vw.sub b o z) (g2.vw.nv b o z);refine⟨iz H2,[.d x,.fn ⟨f,c',q,ga⟩ aC],.all g2.vw.cd,.cons (RB.FV g2.vw rx2) (.cons ⟨rfl,jX hc' trivial,rc.imp λ_ _ z=>iZ full z⟩ .nil),?_⟩;show Fin (F ⟨f,c',q,ga⟩ [.d x,.fn ⟨f,c',q,ga⟩ aC]) _;rw[P1];refine(aw.mp hq).mono λw hd v3 H3 Hv3 g3 k=>?_;cases w with
  |dt ai=>
   have hd:Fin (if Mi.jn (ai.map (·.2))=true then Rs.ok (W.dt ai)else Rs.no) _:=hd;by_cases hi:Mi.jn (ai.map (·.2))=true
   ·rw[aN hi]at hd;obtain⟨b,o,rfl,n,q3,nv,c⟩:=k;cases o with
    |dT kv=>
     have g4:=Jr g2.vw (Dh g2.vw g3.old g3.vw.cd) n q3;have c:dU Hv3 ai kv:=c;refine hd (.ref b) H3 _ (g1.trans (g2.trans g4)) ⟨b,.dT kv,rfl,g1.old.free (g2.old.free n),q3,aN rfl,?_⟩;exact FJ g4.vw.tup hi (c.same g3.vw.sub)
    |_=>exact c.elim
   ·rw[aP hi]at hd;exact hd.elim
  |_=>exact hd.elim)
end
theorem OV{X:Cx}{a:aU}{ta:TE}{pos:Pos}(ha:PE X a ta):PE X (.UnaryOp .Not a pos) (λσ H Q=>ta σ H λx H'=>∃k,sK X.K x H' k/\Q (.bl (!k)) H'):=by intro ae s σ H Q I h;refine UnaryOp_ (aX (ha ae s σ H _ I h) λv s1 ⟨x,H1,I1,r1,q1⟩=>?_);exact not_of (aX (Dx ae s1 σ H1 x v (λk H'=>Q (.bl (!k)) H') I1 r1 q1) λc s2 ⟨H2,I2,q2⟩=>⟨.bl (!c),H2,I2,rfl,q2⟩)
theorem JW{K:aD}{M:Nat->Bool}{ta:TE}{a:Mi.E}(ha:AE M qP ta a):AE M qV (λσ H Q=>ta σ H λx H'=>∃k,sK K x H' k/\Q (.bl (!k)) H') (Mi.tT a):=λe σ H Hv Q I h=>
 mz ha e σ H Hv (λk H'=>Q (.bl (!k)) H') I ((aw.mp h).mono λk hk H1 Hv1 g1=>hk _ H1 Hv1 g1 fA)
end A
namespace L2
open PySem PySem.Spec PyProof.Rows A So
theorem pD.of{X:Cx}{x:Str}{ρ:List Nat}{ys:List Str}{sc:dB}{cl:List (Str×af)}(kind:sc.kind=.function)(co:sc.isCoroutine=false)(gen:sc.isGenerator=false)(par:sc.names.lookup x=aa .local)(jD:∀y∈sc.names,y.2≠.cell)
 (clo:∀p∈cl,X.env.cells.lookup p.1=aa p.2) (has:sc.names.all (λp=>!(decide (p.2=.free))||(cl.map (·.1)).contains p.1)=true) (len:ys.length = ρ.length)
 (ix:(bT ρ.length).all (λi=>match ρ[i]?,ys[i]? with
  |some j,aa y=>decide (X.N[j]? = aa y)&&(decide (sc.names.lookup y=aa .free)&&decide (X.env.kindOf y=aa .cell))
  |_,_=>false)=true):pD X x ρ ys sc cl:=by
 refine⟨kind,co,gen,jD,par,clo,λy hy=>?_,len,λi j y h1 h2=>?_⟩
 ·have:=sT.mp has _ (kT hy);simp only[decide_true,Bool.not_true,vW,List.contains_iff_mem]at this;obtain⟨⟨z,c⟩,hm,e⟩:=bR.mp this;have e:z=y:=e;subst e;cases q:cl.lookup z with
  |some c2=>exact⟨c2,rfl⟩
  |none=>
   have key:∀l:List (Str×af),(z,c)∈l->l.lookup z≠ac:=λl=>by
    induction l with
    |nil=>intro h;cases h
    |cons p r ih=>
     obtain⟨u,v⟩:=p;intro h;rw[kQ];split
     ·exactλz=>by cases z
     ·rename_i hb;rcases br.mp h with w|w
      ·cases w;rw[ig]at hb;cases hb
      ·exact ih w
   exact absurd q (key cl hm)
 ·have hi:i < ρ.length:=(ca.mp h1).1;have:=sT.mp ix i (f8.mpr hi);rw[h1,h2]at this;simp only[oA,jg]at this;exact⟨this.1,this.2.1,.inl this.2.2⟩
theorem LQ{cs:List (Str×af)}{y z:Str}{c d:af}(h1:cs.lookup y=aa c)(h2:cs.lookup z=aa d):∀p∈[(y,c),(z,d)],cs.lookup p.1=aa p.2:=λp hp=>by
 rcases br.mp hp with rfl|hp
 ·exact h1
 ·rw[dm.mp hp];exact h2
end L2
namespace A
open PySem L2 PyProof.Rows So
open Mi (D W Rs Fin aw Out Kp)
variable[Tb:bG]
theorem Pr{tb:TE}{a:Mi.E}(ha:AE (λ_=>false) qV tb a):∀(gs:List V) (v:V) (H:Hp) (Q:VK),tR (Mi.Fh a) gs v H Q->tb (aa v::gs.map aa) H Q:=λgs v H Q ⟨Hv,ws,vw,p,h⟩=>by
 have get:∀(i:Nat) (w:W),(ws.map aa)[i]? = aa (aa w)->ws[i]? = aa w:=λi w e=>by
  rw[cZ]at e;obtain⟨z,e1,e2⟩:=i7.mp e;cases e2;exact e1
 have:=ha (ws.map aa) ((v::gs).map aa) H Hv Q ⟨vw,by rw[aQ,aQ,p.len],λi w e _=>?_,λi w e z=>by cases z⟩ ((aw.mp h).mono λd z v H' Hv' g k=>z v H' Hv' g k)
 ·exact this
 ·obtain⟨u,h1,h2⟩:=p.getL (get i w e);exact⟨u,by rw[cZ,h1];rfl,h2⟩
end A
namespace L2
open PySem PySem.Spec PyProof.Rows A So
variable[Tb:bG]
structure x2(P:bh)(w:a6)(K:aD)(mg:Str->Option ag)(base:aJ)(k:Nat)(x:Str)(ps:List Str)(kl:Nat)(spl:List V->V->Hp->VK->Prop)(sp:Mi.Kp->Sp):Prop where
 ex:∃(f:af) (fd:bF),mg x=aa (.ref f)/\kR K (.ref f)=true/\Binds K fd ps []/\rj P w K mg base k f fd ps kl spl sp
theorem cA.J8{K:aD}{mg:Str->Option ag}{k kl:Nat}{x:Str}{st:bt}{ps:List Str}{spl:List V->V->Hp->VK->Prop}{sp:Mi.Kp->Sp}(F:cA K mg x st ps)(P:bh)(w:a6)(base:aJ)
 (h:∀f fd,ce K x x st f fd->rj P w K mg base k f fd ps kl spl sp):x2 P w K mg base k x ps kl spl sp:=by
 obtain⟨f,fd,h1,h2,h3,_,h4⟩:=F.ex;exact⟨f,fd,h1,h2,h3,h f fd h4⟩
theorem O0{X:Cx}{fx lx qual:Str}{e:aU}{ps:mP}{body:aU}{sc:dB}{cl:List (Str×af)}{c T:af}{p pos fT:Pos}{k kl:Nat}{ρ:List Nat}{ys pps:List Str}{te tb:TE}{spl:List V->V->Hp->VK->Prop}{sp:Mi.Kp->Sp}
 (C':x2 X.prog X.w X.K X.mg X.base k fx pps (kl+1) spl sp) (hr:b9 k X.A) (hg:Gl X fx) (he:PE X e te)
 (hc:X.env.code=.ref c) (C:eD X.base c T) (hB:BM X.mg X.base) (hdef:defaultsOf ps X.env=([],[])) (hq:X.env.qual ++ "<lambda>" = qual) (hcl:closureFor sc X.env=pure cl) (hfn:∀x,X.fn x=true) (S:pD X lx ρ ys sc cl)
 (hbind:∀(pm:ag) (c':af) (ctv u:ag),bindArgs (ql "<lambda>" qual ps body sc cl pm (.ref c') ctv) ⟨[u],[]⟩=pure [(lx,u)])
 (hb:∀(A:bx) (f c':af) (s:ao) (H:Hp) (env:Env) (outer:List Env),b9 kl (A.deeper env)->env=kC qual sc s f c' cl->PE (rB X.prog X.w X.K X.mg X.base A (lx::ys) env s H outer) body tb)
 (hsp:∀gs v H Q,spl gs v H Q->tb (aa v::gs.map aa) H Q)
 (hdb:(fx==("__debug__" : Str))=false:=by decide) (hs1:starEach [e,.Lambda ps body sc fT] X.env=(false,eval e X.env)::starEach [.Lambda ps body sc fT] X.env:=by rfl)
 (hs2:starEach [.Lambda ps body sc fT] X.env=(false,eval (.Lambda ps body sc fT) X.env)::starEach [] X.env:=by rfl) (hpl:(backTo pos (starEach [.Lambda ps body sc fT] X.env)).any (·.1)=false:=by rfl) :
 PE X (.Call (.Name fx p) [e,.Lambda ps body sc fT] [] pos) (yZ T qual ρ te sp):=by
 obtain⟨f,fd,h1,h2,h3,F⟩:=C'.ex;exact Lq F hr hg h1 h2 h3 he hc C hB hdef hq hcl hfn S hbind hb hsp hdb hs1 hs2 hpl
end L2
namespace Mi
end Mi
namespace L2
open PySem PySem.Spec PyProof.Rows
section
variable{P:bh}{w:a6}{A:bx}{E:ag->ao->Prop}{s:ao}{d it:af}{es:Array mQ}{ep i:Nat}
theorem OO{h h':aJ}{it d:af}{i n ep:Nat}(x:h.IsKeyIter it d i n ep)(e:∀o,h.get? it=aa o->h'.get? it=aa o):h'.IsKeyIter it d i n ep:=let ⟨o,ho,r⟩:=x;⟨o,e _ ho,r⟩
theorem Jo(hh:A.handled=ac)(I d:af)(hne:d≠I)(es:Array mQ)(ep:Nat):Walks P w A I [I,d] [I] es.size (λi v=>∃lt:i<es.size,v=es[i].key) (λi h=>h.IsKeyIter I d i es.size ep/\iw h d es ep) where
 sub:=λb hb=>by cases dm.mp hb;simp
 frame:=λ_ _ _ st hk=>⟨OO st.1 λo e=>hk I (by simp) o e,st.2.go λo e=>hk d (by simp) o e⟩
 item:=λi s Q E hi st hQ=>Ey st.1 st.2 hi λh' st' hs=>hQ _ h' s.toks ⟨hi,rfl⟩ ⟨st',st.2.go λo e=>hs.extBut d o hne e⟩ λb o hb e=>hs.extBut b o (λz=>hb (by simp[z])) e
 done:=λs Q E st hQ=>Fb hh st.1 st.2 (bq _) λh' he=>hQ h' s.toks λb o hb e=>he b o (λz=>hb (by simp[z])) e
 self:=λ_ _ _ _ st hQ=>wpAny_pyIter_keyiter st.1 hQ
theorem LC{d:af}(nd:(d==sysModules)=false):PySem.W.KdlSrc P w "dict" d d es.size (λi v=>∃lt:i<es.size,v=es[i].key) (λh=>iw h d es ep) where
 type:=λ_ hm=>hm.ty
 there:=λ_ hm=>⟨hm.lt,hm.lt⟩
 keep:=λ_ _ hm hk=>hm.go λo e=>hk d (.inl rfl) o e
 notList:=by decide
 notTuple:=by decide
 hint:=λ_ _ _ _ hm hq=>PySem.W.kdl_hint_dict hm.ty hq
 iter:=λ_ _ hh hm=>⟨_,_,(λ_ _ hq=>Bz nd hm hq),Jo hh _ d (fi hm.lt) es ep,⟨⟨_,de _ rfl,rfl,rfl⟩,hm.go λo e=>b8 _ e⟩⟩
end
section
variable{X:Cx}{ae:List (af×Obj)}{σ:St}{H:Hp}{s:ao}{a:af}{kv:List (List Key×V)}
theorem KZ(I:Inv X ae σ H s)(q:Rd H a (.dT kv)):(a==sysModules)=false/\kv.length<=sizeLine/\∃es ep,iw s.heap a es ep/\es.size=kv.length/\∀i k v,kv[i]? = aa (k,v)->∃(lt:i<es.size) (b:af),es[i].key=.ref b/\H b=aa (.tup (k.map kV)):=by
 obtain⟨z1,z2,xs,r,ob,es,ep,e,c1,c2,c3,c4⟩:=(show bW X.prog X.w H s.heap a (.dT kv)from q.ok I.hok);have hl:es.size=xs.length:=size_of_entries c3;have hl2:kv.length=xs.length:=qw r;refine⟨z2,z1,es,ep,⟨ob,e,c1,c2⟩,by omega,λi k v hk=>?_⟩;obtain⟨x,hx,h1,h2,h3⟩:=xu r hk;have lt:i<es.size:=by rw[hl];exact(ca.mp hx).1
 have he:=entry_at c3 i;rw[hx,zX,z5 lt]at he;have he:=fj he;exact⟨lt,x.2.1,by rw[he];rfl,h2⟩
inductive mf(H:Hp):List (List Key×V)->List V->Prop
 |nil:mf H [] []
 |cons {k v r b vs}:H b=aa (.tup (k.map kV))->mf H r vs->mf H ((k,v)::r) (.ref b::vs)
end
end L2
namespace A
open PySem L2 PyProof.Rows
open Mi (D W Rs Fin aw Tg)
variable[Tb:bG]{M:Nat->Bool}{κ:Kd}{K:aD}
theorem LY{H Hv:Hp}(vw:Vw H Hv){ai:List (List Mi.Ky×D)}{kv:List (List Key×V)}(c:dU Hv ai kv){vs:List V}(k:mf H kv vs):P2 (Rep Hv) (ai.map λkv=>.tup (kv.1.map Mi.iX)) vs:=by
 induction c generalizing vs with
 |nil=>cases k;exact .nil
 | @cons a b l m x t ih=>
  cases k with
  |cons hb k=>
   refine .cons (iq.mpr ⟨_,_,rfl,vw.tup _ _ hb,?_⟩) (ih k);have e1:=x.1;simp only at e1;rw[e1];exact uA _
end A
namespace Mi
def hW(b:Bool):Int:=if b=true then 1 else 0
def r6:D->Rs (List Int)
 |.tup [.int i,.bl b]=>.ok [i,hW b]
 |_=>.no
def iU(ρ:List Nat)(kf:E)(e:Env):List D->Rs (List (List Int))
 |[]=>.ok []
 |d::r=>(kf (lY ρ e d)).bind λk=>(r6 k).bind λz=>(iU ρ kf e r).bind λzs=>.ok (z::zs)
def tQ(ρ:List Nat)(m:EW)(kf:E):E:=λe=>(m e).bind λw=>match w with
 |.dt ai=>bc (ai.length<64) ((iU ρ kf e (ai.map λkv=>.tup (kv.1.map iX))).bind λkz=>bc kz.Nodup (.ok (.lst (sortBy kz (ai.map λkv=>.tup (kv.1.map iX))))))
 |_=>.no
end Mi
namespace So
open PySem PySem.W PyProof.Rows
open Mi (hW)
section
variable{prog:bh}{w:a6}{A:bx}{E:ag->ao->Prop}{s:ao}
theorem NV{x y:af}{ox oy:Obj}{i j:Int}{b c:Bool}{t u:Tok}{n k:Nat}{Q:Bool->ao->Prop}(hx:s.heap.get? x=aa ox)(dx:ox.data=.seq #[.int i t,.bool b] n)(hy:s.heap.get? y=aa oy)(dy:oy.data=.seq #[.int j u,.bool c] k)
 (h:Q (dc [i,hW b] [j,hW c]) s):wpAny (model prog w) A (keyLt' (tuples' true) (.ref x) (.ref y)) Q E s:=by
 refine kat_lt hx dx hy dy ?_;show KatLex prog w A true false Q [(.int i t,.int j u),(.bool b,.bool c)] 0 s;refine kat_cons (wpAny_eqBool_int ?_);cases e:(i==j)with
 |false=>
  refine kat_no (oneLt_int ?_);rw[dc,e,aP c7]at h;exact h
 |true=>
  rw[dc,e,aN rfl]at h;refine kat_yes (kat_cons (z9 b c _ _ _ _ ?_));cases e2:(b==c)with
  |false=>
   refine kat_no (kat_one _ _ (lt_bool ?_));show Q _ s;have e3:(hW b==hW c)=false:=by revert e2;cases b<;>cases c<;>decide
   rw[dc,e3,aP c7]at h;exact h
  |true=>
   refine kat_yes (kat_nil ?_);have e3:(hW b==hW c)=true:=by revert e2;cases b<;>cases c<;>decide
   rw[dc,e3,aN rfl,dc]at h;exact h
theorem Nq{κ:tE}{a kS:af}{e e1:Nat}{ks vs:List ag}{lt:Nat->Nat->Bool}{P:ou->ao->Prop}(hl:ks.length=vs.length)(h64:vs.length<64)(O:sO vs.length lt)
 (hkk:2<=vs.length->∀(Q:tE->ao->Prop),Q κ s->wpAny (model prog w) A (keyKind' (d6 ks)) Q (λ_ _=>False) s)
 (hcmp:∀i j C,i<vs.length->j<vs.length->C (lt i j) s->kas_ask prog w A κ ks i j C s)
 (hk:s.heap.get? kS=aa (seqObj "list" (d6 ks) e)) (ha:s.heap.get? a=aa (seqObj "list" #[] e1)) (ne:a≠kS)
 (h:∀out h' c,nM lt vs out->(∀b o,b≠a->b≠kS->s.heap.get? b=aa o->h'.get? b=aa o)->(∃o,h'.get? kS=aa o)->h'.get? a=aa (seqObj "list" (d6 out) c)->P (.done (.ret .none)) { s with heap:=h' }) :
 wpAny (model prog w) A (ksk_end a false vs.toArray e1 (.ref kS) (d6 ks)) P E s:=by
 have P4:∀{n:Nat},Pm n (d6 (bT n)):=⟨HS _⟩;unfold ksk_end;dsimp only;rw[aP c7,aP c7];by_cases h2:vs.toArray.size<2
 ·rw[aN h2,aN h2];rw[cq]at h2;refine aB (bn ?_);rw[StateT.run_pure];refine aB (bn ?_);dsimp only;have hout:nM lt vs vs:=⟨d6 (bT vs.length),P4,λi j hij hj=>by omega,by
   apply List.ext_getElem (by simp);intro i h1 h2;simp[h1]⟩
  refine Eh (out:=vs) hk ha ne (by omega) h64 ?_ rfl λh' c kp ex hc=>h vs h' c hout kp ex hc;show((d6 ks).zip vs.toArray).map (·.2)=vs.toArray;apply wf.mp;rw[Array.toList_map,Array.toList_zip];simp only[];rw[List.map_snd_zip (by omega)]
 ·rw[aP h2,aP h2];rw[cq]at h2;refine aB (gH (hkk (by omega) (λκ' s'=>κ' = κ/\s'=s) ⟨rfl,rfl⟩) (λκ' s' hh=>?_) λ_ _ z=>z.elim);obtain⟨rfl,rfl⟩:=hh;have wp:=GI (cmp:=kas_ask prog w A κ' ks) (s:=s') hcmp (Pl O (by omega));refine aB (gH (kat_run (E:=E) (Q:=λst' s2=>s2=s'/\∃p:Array Nat,Pm vs.length p/\Sd lt p vs.length/\arrOf st'=p.map (kas_item (ks.toArray.zip vs.toArray))/\failedOf st'=ac) hl (by omega) h64 (λp st' s2 _ a2 a3 a4=>⟨a4.1,p,a4.2.1,a4.2.2,a2,a3⟩) wp) ?_ λ_ _ z=>z);rintro⟨⟨⟩,st'⟩ s2 ⟨rfl,p,pm,sd,har,hf⟩;dsimp only;have hout:nM lt vs (p.toList.map λi=>vs.getD i fJ):=⟨p,pm,sd,rfl⟩;exact Eh hk ha ne (by omega) (by rw[hout.len];exact h64) (kat_snds hl har) hf λh' c kp ex hc=>h _ h' c hout kp ex hc
def gG(n:Nat):List af:=[n,n+1,n+2]
structure K1(prog:bh)(w:a6)(A:bx)(s:ao)(f:af)(κ:tE)(Q:ag->ao->Prop)(h0:aJ)(tk:Nat)(vs:List ag)(J:List ag->ao->Prop):Prop where
 j0:∀h':aJ,(∀b o,h0.get? b=aa o->h'.get? b=aa o)->(∀b∈gG h0.objs.size,∃o,h'.get? b=aa o)->J [] { s with heap:=h',toks:=tk }
 jk:∀ks s1 h',J ks s1->(∀b o,b∉gG h0.objs.size->s1.heap.get? b=aa o->h'.get? b=aa o)->(∀b o,s1.heap.get? b=aa o->∃o',h'.get? b=aa o')->J ks { s1 with heap:=h' }
 jc:∀i x ks s1,vs[i]? = aa x->ks.length=i->J ks s1->wpAny (model prog w) A.in1.in1 (call (.ref f) [x]) (λk s2=>J (ks++[k]) s2/\∀b o,b∈gG h0.objs.size->s1.heap.get? b=aa o->s2.heap.get? b=aa o) (λ_ _=>False) s1
 je:∀ks s1,ks.length=vs.length->J ks s1->∃lt,sO vs.length lt/\(2<=vs.length->∀(Q:tE->ao->Prop),Q κ s1->wpAny (model prog w) A.in1.in1 (keyKind' (d6 ks)) Q (λ_ _=>False) s1) /\
  (∀i j C,i<vs.length->j<vs.length->C (lt i j) s1->kas_ask prog w A.in1.in1 κ ks i j C s1) /\
  ∀out h' c,nM lt vs out->(∀b o,b∉gG h0.objs.size->s1.heap.get? b=aa o->h'.get? b=aa o)->(∀b o,s1.heap.get? b=aa o->∃o',h'.get? b=aa o')->h'.get? h0.objs.size=aa (seqObj "list" (d6 out) c)->Q (.ref h0.objs.size) { s1 with heap:=h' }
theorem Lh{κ:tE}{f r d:af}{T:String}{m:Nat}{PP:Nat->ag->Prop}{OK:aJ->Prop}{Q:ag->ao->Prop}(K:KdlSrc prog w T r d m PP OK)(hh:A.handled=ac)(hok:OK s.heap)(h64:m<64)
 (hq:∀(h0:aJ) (tk:Nat) (vs:List ag),vs.length=m->(∀i v,vs[i]? = aa v->PP i v)->(∀b o,s.heap.get? b=aa o->h0.get? b=aa o)->∃J,K1 prog w A s f κ Q h0 tk vs J) :
 wpAny (model prog w) A (call (.builtin "sorted") [.ref r] [(lP "key", .ref f)]) Q E s:=by
 refine call_function_entry_kw kind_sorted plain_sorted entry_sorted (ksk_s1 _ _) ?_;unfold Builtin.«sorted»;refine aB (m:=checkCount "sorted" 1 1 _) (bn ?_);refine aB (kdu_collect K hh hok (by rw[c6];omega) λh0 tk acc k0 hacc=>?_);obtain⟨J,j0,jk,jc,je⟩:=hq h0 tk acc.toList (by rw[tG];exact hacc.1) (λi v h=>hacc.2 i v (by rw[<- wb];exact h)) k0;have hvl:acc.toList.length=m:=by rw[tG];exact hacc.1
 generalize acc.toList=vs at *;have h64:vs.length<64:=by omega
 refine aB (zT ?_ (by rw[c6];omega));generalize hn:h0.objs.size=n at *;have hoL:(h0.push (seqObj "list" vs.toArray 0)).get? n=aa (seqObj "list" vs.toArray 0):=by rw[<- hn];exact de _ rfl
 show wpAny _ _ _ _ _ { s with heap:=h0.push (seqObj "list" vs.toArray 0),toks:=tk };refine aB (j8 (wpAny_call_entry_kw slot_list_sort ⟨_,hoL,rfl⟩ entry_list_sort ?_ (ksk_l1 _ _)));show wpAny (model prog w) A.in1.in1 (Builtin.«list.sort» ⟨[.ref n],[(lP "key",.ref f)]⟩) _ _ _;rw[ksk_t1];generalize hh2:h0.push (seqObj "list" vs.toArray 0)=h2 at hoL ⊢;have k2:∀b o,h0.get? b=aa o->h2.get? b=aa o:=λb o q=>by rw[<- hh2];exact b8 _ q
 have z2:h2.objs.size=n+1:=by rw[<- hh2,oz,hn]
 obtain⟨e1,ho1⟩ : ∃e1,(h2.update n (fK λ_=>(#[]:Array ag))).get? n=aa (seqObj "list" #[] e1):=⟨_,v8 hoL λ_=>#[]⟩;have su:=lO h2 n (fK λ_=>(#[]:Array ag));unfold ksk_tree;refine aB (listItems_at (s:={ s with heap:=h2,toks:=tk }) hoL rfl ?_);refine aB (v9 (s:={ s with heap:=h2,toks:=tk }) hoL rfl ?_ (by rw[cq,c6];omega) (eK _));refine aB (seqEpoch_at (s:={ s with heap:=h2.update n (fK λ_=>(#[]:Array ag)),toks:=tk }) ho1 rfl ?_);refine aB (wpAny_newTuple ?_ (by show vs.length<=_;rw[c6];omega));refine aB (zT ?_ (eK _));refine j8 ?_;generalize hh3:h2.update n (fK λ_=>(#[]:Array ag))=h3 at ho1 su ⊢;have z3:h3.objs.size=n+1:=by rw[<- hh3,Heap.size_update,z2]
 have z4:(h3.push (seqObj "tuple" vs.toArray 0)).objs.size=n+2:=by rw[oz,z3]
 show wpAny (model prog w) A.in1.in1 (ksk_rest n (.ref f) false vs.toArray e1 (.ref (h3.push (seqObj "tuple" vs.toArray 0)).objs.size)) _ _ { s with heap:=(h3.push (seqObj "tuple" vs.toArray 0)).push (seqObj "list" #[] 0),toks:=tk };rw[z4];have P5:∀b o,h0.get? b=aa o->((h3.push (seqObj "tuple" vs.toArray 0)).push (seqObj "list" #[] 0)).get? b=aa o:=λb o q=>by
  have hlt:b<n:=by rw[<- hn];exact bS q
  exact b8 _ (b8 _ ((su.2 b (fi hlt)).trans (k2 b o q)))
 refine Pn (kS:=n+2) (a:=n) J h64 (λks s1 h' hJ kp ex=>jk ks s1 h' hJ (λb o hb q=>kp b o (λz=>hb (by simp[gG,z])) q) λb o q=>by
  by_cases z:b=n+2
  ·rw[z];exact ex
  ·exact⟨o,kp b o z q⟩)
  (λi x ks s1 hx hl' hJ=>gH (jc i x ks s1 hx hl' hJ) (λk s2 h2=>⟨h2.1,λb o hb q=>h2.2 b o (by rcases hb with z|z<;>simp[gG,z]) q⟩) λ_ _ z=>z) (show(n:Nat)≠n+2 by omega)
  (by rw[<- z4];exact de _ rfl) (b8 _ (b8 _ ho1)) (j0 _ P5 λb hb=>?ex) λks e s1 hlk hJ hk1 ha1=>?_
 case ex=>
  simp only[gG,br,vz,or_false]at hb;rcases hb with rfl|rfl|rfl
  ·exact⟨_,b8 _ (b8 _ ho1)⟩
  ·exact⟨_,b8 _ (by rw[<- z3];exact de _ rfl)⟩
  ·exact⟨_,by rw[<- z4];exact de _ rfl⟩
 obtain⟨lt,O,hkk,hcmp,fin⟩:=je ks s1 hlk hJ;refine Nq hlk h64 O hkk hcmp hk1 ha1 (show(n:Nat)≠n+2 by omega) λout h' c so kp ex hc=>?_;exact⟨_,rfl,bn ⟨_,rfl,fin out h' c so (λb o hb q=>kp b o (λz=>hb (by simp[gG,z])) (λz=>hb (by simp[gG,z])) q) (λb o q=>by
  by_cases y1:b=n
  ·rw[y1];exact⟨_,hc⟩
  ·by_cases y2:b=n+2
   ·rw[y2];exact ex
   ·exact⟨o,kp b o y1 y2 q⟩) hc⟩⟩
end
end So
namespace L2
open PySem PySem.Spec PyProof.Rows A So
open Mi (hW)
variable[Tb:bG]
def xz(H:Hp)(kz:List (List Int))(ks:List V):Prop:=P2 (λz k=>∃p i b,k=V.ref p/\z=[i,hW b]/\H p=aa (.tup [V.int i,V.bl b])) kz ks
def NH(T:af)(q:Str)(ρ:List Nat)(σ:St)(tb:TE)(Q:VK):VK:=λx H1=>∃a kv tps,x=.ref a/\kv.length<64/\H1 T=aa (.tbl q tps)/\gp H1 /\
 ∀H2 c',Tab T q H1 H2->H2 c'=aa (.ext (eZ c' q))->Rd H2 a (.dT kv)/\∀xs,mf H2 kv xs->uW c' q (λv H K=>tb (ib ρ σ v) H K) xs H2 λks H3=>∃kz:List (List Int),kz.length=xs.length/\kz.Nodup/\xz H3 kz ks /\
  ∀p ys,H3 p=ac->yb .non kz xs ys->Q (.ref p) (upd H3 p (.lst ys))
def Be(T:af)(q:Str)(ρ:List Nat)(te tb:TE):TE:=λσ H Q=>te σ H (NH T q ρ σ tb Q)
theorem mf.len{H:Hp}{kv:List (List Key×V)}{vs:List V}(k:mf H kv vs):vs.length=kv.length:=by
 induction k with
 |nil=>rfl
 |cons _ _ ih=>rw[bQ,bQ,ih]
theorem Op{H:Hp}:∀(l:List (List Key×V)) (m:List ag),m.length=l.length->(∀(i:Nat) k v u,l[i]? = aa (k,v)->m[i]? = aa u->∃b,u=.ref b/\H b=aa (.tup (k.map kV)))->∃vs,mf H l vs/\Vals vs m:=by
 intro l
 induction l with
 | nil=>intro m e _;cases m with
  |nil=>exact⟨[],.nil,.nil⟩
  |cons _ _=>cases e
 | cons p l ih=>intro m e f;cases m with
  |nil=>cases e
  |cons v m=>
   obtain⟨vs,h1,h2⟩:=ih m (by simpa using e) λi k v u h1 h2=>f (i+1) k v u (by simpa using h1) (by simpa using h2);obtain⟨k,v0⟩:=p;obtain⟨b,rfl,hb⟩:=f 0 k v0 v rfl rfl;exact⟨.ref b::vs,.cons hb h1,.cons rfl h2⟩
section
variable{X:Cx}{x qual:Str}{e:aU}{ps:mP}{body:aU}{sc:dB}{cl:List (Str×af)}{c T:af}{p pos fT P6:Pos}{k:Nat}{ρ:List Nat}{N':List Str}{te tb:TE}
theorem IY(hcm:X.calm=true)(hg:Gl X "sorted")(hm:X.mg "sorted" = ac)(he:PE X e te)(hr:b9 (k+3) X.A)(hc:X.env.code=.ref c)(C:eD X.base c T)(hB:BM X.mg X.base)(hdef:defaultsOf ps X.env=([],[]))(hq:X.env.qual ++ "<lambda>" = qual)(hcl:closureFor sc X.env=pure cl)
 (S:oM X x ρ N' sc cl) (hbind:∀(pm:ag) (c':af) (ctv u:ag),bindArgs (ql "<lambda>" qual ps body sc cl pm (.ref c') ctv) ⟨[u],[]⟩=pure [(x,u)])
 (hb:∀(A:bx) (f c':af) (s:ao) (H:Hp) (env:Env),b9 k (A.deeper env)->env=kC qual sc s f c' cl->PE (yL X A N' env s H) body tb)
 (hs:starEach [e] X.env=(false,eval e X.env)::starEach [] X.env:=by rfl) (hpl:(backTo pos (starEach [e] X.env)).any (·.1)=false:=by rfl) :
 PE X (.Call (.Name "sorted" p) [e] [⟨aa "key", .Lambda ps body sc fT,P6⟩] pos) (Be T qual ρ te tb):=by
 intro ae s σ H Q I h;have hboot:bootBuiltins "sorted" = aa (.builtin "sorted"):=by kernel_rfl
 refine qp (ng I hg hm hboot ?_);refine callWith_kw ?_ (by rw[hs];rfl) hpl rfl rfl;rw[hs];show wpAny _ _ (spliced ((false,eval e X.env)::backTo pos (starEach [] X.env))) _ _ s;refine tH (aX (he ae s σ H _ I h) λu s1 ⟨x1,H1,I1,r1,q1⟩=>wj ?_);obtain⟨a,ai,tps,rfl,h64,hT,ck,q2⟩:=q1;cases r1;show wpAny _ _ (evalAll ((do let v <- eval (.Lambda ps body sc fT) X.env;standAt pos;pure v)::((backToKw pos (keywordEach [] X.env)).map (·.2)))) _ _ s1;refine wpAny_evalAll_cons (aB (El I1 hc C ck hT hB hdef hq hcl λf c' ctv pm s2 H2 tab hc' hf I2 fpf=>aB (sZ (bn (wpAny_evalAll_nil ?_)))));obtain⟨hd2,kr⟩:=q2 H2 c' tab hc';show wpAny (model X.prog X.w) X.A (call (.builtin "sorted") [.ref a] [(lP "key", .ref f)]) (EP X ae σ Q) X.xe s2;obtain⟨ji,hz,es,ep,hx,hes,at2⟩:=KZ I2 hd2;refine Lh (κ:=tuples' true) (LC (es:=es) (ep:=ep) ji) (I2.ok.hd hcm) hx (by omega) λh0 tk aj hil hip hk0=>?_;obtain⟨xs,hky,rv⟩:=Op (H:=H2) ai aj (by omega) λi kk v u h1 h2=>by
  obtain⟨lt,b,eb,hb'⟩:=at2 i kk v h1;obtain⟨lt',e'⟩:=hip i u h2;exact⟨b,by rw[e',eb],hb'⟩
 have kr:=kr xs hky;have hli:=rv.length;have hxl:=hky.len;have I0:Inv X ae σ H2 { s2 with heap:=h0,toks:=tk }:=I2.kept hk0;let Fn:List V->Hp->Prop:=λks H3=>∃kz:List (List Int),kz.length=xs.length/\kz.Nodup/\xz H3 kz ks/\∀p ys,H3 p=ac->yb .non kz xs ys->Q (.ref p) (upd H3 p (.lst ys));have hf0:=hk0 _ _ hf;have flt:f<h0.objs.size:=bS hf0;have fnt:f∉gG h0.objs.size:=λz=>by
  simp only[gG,br,vz,or_false]at z;have:(f:Nat)<h0.objs.size:=flt;rcases z with z|z|z
  ·exact absurd this (by rw[z];exact i6 _)
  ·exact absurd this (by rw[z];exact Nat.not_lt.mpr (zV _ _))
  ·exact absurd this (by rw[z];exact Nat.not_lt.mpr (zV _ _))
 refine⟨λks s3=>∃Hc kv,Inv X ae σ Hc s3/\Vals kv ks/\s3.heap.get? f=aa (mM "<lambda>" qual ps body sc cl pm c' ctv)/\eM X ae Hc f/\(∀b∈gG h0.objs.size,eM X ae Hc b/\∃o,s3.heap.get? b=aa o) /\
  Hc c'=aa (.ext (eZ c' qual))/\uW c' qual (λv H K=>tb (ib ρ σ v) H K) (xs.drop ks.length) Hc λks' H3=>Fn (kv++ks') H3,?j0,?jk,?jc,?je⟩
 case j0=>
  intro h' kp ex;refine⟨H2,[],I0.kept kp,.nil,kp _ _ hf0,fpf,λb hb=>⟨I0.gR ?_ (I0.hok.fresh ?_),ex b hb⟩,hc',kr⟩
  all_goals (simp only[gG,br,vz,or_false]at hb;rcases hb with z|z|z<;>rw[z]<;>first|exact bq _|exact zV _ _)
 case jk=>
  rintro ks s3 h' ⟨Hc,kv,I3,rk,hf3,fp3,jE,hc3,kr3⟩ kp ex;refine⟨Hc,kv,yR (t':=s3.toks) I3 (fp:=gG h0.objs.size) (λb hb=>(jE b hb).1) (λb u hb q=>kp b u hb q),rk,kp _ _ fnt hf3,fp3,λb hb=>⟨(jE b hb).1,?_⟩,hc3,kr3⟩;obtain⟨o,q⟩:=(jE b hb).2;exact ex b o q
 case jc=>
  rintro i u ks s3 hu hks ⟨Hc,kv,I3,rk,hf3,fp3,jE,hc3,kr3⟩;obtain⟨v,hv,ruv⟩ : ∃v,xs[i]? = aa v/\RelV v u:=by
   have hi:i<xs.length:=by rw[hli];exact(ca.mp hu).1
   have e1:xs[i]? = aa xs[i]:=by simp[hi]
   obtain⟨u2,e2,r2⟩:=rv.get e1;rw[hu]at e2;cases e2;exact⟨_,e1,r2⟩
  have hd:xs.drop ks.length=v::xs.drop (ks.length+1):=by obtain⟨hi,e⟩:=ca.mp hv;rw[hks,vq hi,e]
  rw[hd]at kr3;have hrec:s3.heap.CodeRec (.ref c') qual:=by obtain⟨⟨o,vs,t,e1,e2,e3⟩,_⟩:=I3.hok c' _ hc3;exact⟨c',o,vs,t,rfl,e1,e2,e3⟩
  have hA:X.A.in1.in1.frames=aa X.stack:=I3.ok.frames;refine gH (OE (k:=k) I3 hA hr.in1.in1 S hf3 hrec (hbind pm c' ctv u) ruv (λenv h1 h2=>hb _ f c' s3 Hc env h1 h2) kr3) (λkk s4 hce=>?_) λ_ _ z=>z;obtain⟨kvv,H4,os4,P7,un4,P8,rk4,hc4,kr4⟩:=hce;have noF:∀b,eM X ae Hc b->b∉frs X.stack:=λb hb z=>by
   rcases br.mp (I3.pO b z)with y|y
   ·exact hb.2.1 y
   ·exact hb.2.2.1 y
  have I4:Inv X ae σ H4 s4:=I3.call' os4 (ch:=[]) un4 P8 P7 (λb z=>absurd z (by simp));have fpk:∀b,eM X ae Hc b->(∃o,s3.heap.get? b=aa o)->eM X ae H4 b:=λb hb ⟨o,q⟩=>⟨un4.free b o q hb.1 (by simp),hb.2⟩;refine⟨⟨H4,kv++[kvv],I4,rk.append (.cons rk4 .nil),un4.keep _ _ hf3 fp3.1 (noF _ fp3) (by simp),fpk f fp3 ⟨_,hf3⟩,λb hb=>⟨fpk b (jE b hb).1 (jE b hb).2,?_⟩,hc4,?_⟩,λb o hb q=>un4.keep b o q (jE b hb).1.1 (noF _ (jE b hb).1) (by simp)⟩
  ·obtain⟨o,q⟩:=(jE b hb).2;exact un4.there b o q (by simp)
  ·rw[cC];simp only[qi,List.singleton_append];exact kr4
 case je=>
  rintro ks s3 hks ⟨Hc,kv,I3,rk,hf3,fp3,jE,hc3,kr3⟩;rw[List.drop_eq_nil_of_le (by omega)]at kr3;obtain⟨kz,hz1,nd,ka,fin⟩:=kr3;rw[lJ]at ka;have lk:=rk.length;have at_:∀i,i<aj.length->∃pp o nn ii bb t,ks.getD i fJ=.ref pp/\s3.heap.get? pp=aa o/\o.cls=.type "tuple" /\ o.data=.seq #[.int ii t,.bool bb] nn/\kz.getD i []=[ii,hW bb]:=λi hi=>by
   have hzi:i<kz.length:=by omega
   have e1:kz[i]? = aa (kz.getD i []):=by simp[hzi]
   obtain⟨kvi,e2,pp,ii,bb,rfl,ez,hp⟩:=P2.getL ka e1;obtain⟨u,e3,r3⟩:=rk.get e2;cases r3;obtain⟨_,us,vu,o,ho,hcl,_,nn,hdt⟩:=I3.hok pp _ hp;cases vu with
   |cons r1 vu=>
    cases vu with
    |cons r2 vu=>
     cases vu;obtain⟨t,rfl⟩:=r1;cases r2;exact⟨pp,o,nn,ii,bb,t,by simp[e3],ho,hcl,hdt,ez⟩
  have hord:=wE nd;rw[hz1,hli]at hord;refine⟨lz kz,hord,λh2 Q' hq'=>?_,λi j C hi hj hC=>?_,λout h' cc so kp ex hD=>?_⟩
  ·have tups:∀l:List ag,(∀v∈l,∃pp o nn ii bb t,v=.ref pp/\s3.heap.get? pp=aa o/\o.cls=.type "tuple" /\ o.data=.seq #[.int ii t,.bool bb] nn)->∃fs,PySem.W.KatTups s3.heap l fs/\fs.length=l.length/\∀v∈fs,∃ii t,v=.int ii t:=λl=>by
    induction l with
    |nil=>exactλ_=>⟨[],.nil,rfl,λv hv=>by cases hv⟩
    |cons v r ih=>
     intro h;obtain⟨fs,f1,f2,f3⟩:=ih λv hv=>h v (cy _ hv);obtain⟨pp,o,nn,ii,bb,t,rfl,ho,hcl,hdt⟩:=h v bP;refine⟨.int ii t::fs,.cons ho hcl hdt rfl f1,by rw[bQ,bQ,f2],λv hv=>?_⟩;rcases br.mp hv with rfl|hv
     ·exact⟨ii,t,rfl⟩
     ·exact f3 v hv
   obtain⟨fs,f1,f2,f3⟩:=tups ks λv hv=>by
    obtain⟨i,hi⟩:=kM hv;have hil:=(ca.mp hi).1;obtain⟨pp,o,nn,ii,bb,t,e1,e2,e3,e4,_⟩:=at_ i (by omega);refine⟨pp,o,nn,ii,bb,t,?_,e2,e3,e4⟩;rw[<- e1];simp[hi]
   refine PySem.W.kat_kind (T:=v5 "int") f1 (by omega) (λv hv=>?_) (by decide) hq';obtain⟨ii,t,rfl⟩:=f3 v hv;exact .now
  ·obtain⟨p1,o1,n1,i1,b1,t1,a1,a2,a3,a4,a5⟩:=at_ i hi;obtain⟨p2,o2,n2,i2,b2,t2,c1,c2,c3,c4,c5⟩:=at_ j hj;unfold PySem.W.kas_ask;rw[a1,c1];refine NV a2 a4 c2 c4 ?_;rw[<- a5,<- c5];exact hC
  ·obtain⟨ys,sy,vy⟩:=LN rv hz1 so;have hD':h0.objs.size∈gG h0.objs.size:=by simp[gG]
   have ly:ys.length=xs.length:=by rw[vy.length,so.len,hli]
   have nD:Hc h0.objs.size=ac:=(jE _ hD').1.1;refine⟨.ref h0.objs.size,_,adopt (t':=s3.toks) (o:=.lst ys) I3 (λb hb=>(jE b hb).1) hD' (λb u hb q=>kp b u hb q) ⟨by rw[ly,hxl];exact hz,out,cc,vy,hD⟩,rfl,fin _ ys nD sy⟩
end
end L2
namespace A
open PySem L2 PyProof.Rows So
open Mi (D W Rs Fin aw Out Tg hW)
variable[Tb:bG]
section
variable{M:Nat->Bool}{te tb:TE}{m:Mi.EW}{kf:Mi.E}{T:af}{q:Str}{ρ:List Nat}
theorem Cy{e:Mi.Env}:∀{ds:List D} {kz:List (List Int)},Mi.iU ρ kf e ds=.ok kz->kz.length=ds.length
 |[],kz,h=>by rw[Mi.iU]at h;cases h;rfl
 |d::ds,kz,h=>by
  rw[Mi.iU]at h;cases h1:kf (Mi.lY ρ e d)with
  |no=>rw[h1]at h;cases h
  |ex z=>rw[h1]at h;cases h
  |ok kd=>
   rw[h1,Mi.aR]at h;cases h2:Mi.r6 kd with
   |no=>rw[h2]at h;cases h
   |ex z=>rw[h2]at h;cases h
   |ok z=>
    rw[h2,Mi.aR]at h;cases h3:Mi.iU ρ kf e ds with
    |no=>rw[h3]at h;cases h
    |ex y=>rw[h3]at h;cases h
    |ok zs=>rw[h3]at h;cases h;rw[bQ,bQ,Cy h3]
theorem OD{kd:D}{z:List Int}(h:Mi.r6 kd=.ok z):∃i b,kd=.tup [.int i,.bl b]/\z=[i,hW b]:=by
 unfold Mi.r6 at h;split at h
 ·cases h;exact⟨_,_,rfl,rfl⟩
 ·cases h
theorem BJ{c':af}(hk:AE (λ_=>false) qV tb kf)(hM:∀j∈ρ,M j=false){e:Mi.Env}{σ:L2.St}:∀{ds:List D} {xs:List V} {kz:List (List Int)} {H Hv:Hp} {R:List V->Hp->Prop},R0 M e σ H Hv->P2 (Rep Hv) ds xs->H c'=aa (.ext (eZ c' q))->Mi.iU ρ kf e ds=.ok kz ->
 (∀ks H3 Hv3,bw H Hv H3 Hv3->xz H3 kz ks->R ks H3)->uW c' q (λv H K=>tb (ib ρ σ v) H K) xs H R
 |[],_,kz,H,Hv,R,I,.nil,_,hz,h=>by
  have:kz=[]:=by rw[Mi.iU]at hz;cases hz;rfl
  subst this;exact h [] H Hv (.refl I.vw) .nil
 |d::ds,_,kz,H,Hv,R,I,.cons (b:=v) (m:=xs) r t,hc,hz,h=>by
  rw[Mi.iU]at hz;show tb (ib ρ σ v) H _;cases hkd:kf (Mi.lY ρ e d)with
  |no=>rw[hkd]at hz;cases hz
  |ex z=>rw[hkd]at hz;cases hz
  |ok kd=>
   rw[hkd,Mi.aR]at hz;cases hes:Mi.r6 kd with
   |no=>rw[hes]at hz;cases hz
   |ex z=>rw[hes]at hz;cases hz
   |ok z=>
    rw[hes,Mi.aR]at hz;cases hzs:Mi.iU ρ kf e ds with
    |no=>rw[hzs]at hz;cases hz
    |ex y=>rw[hzs]at hz;cases hz
    |ok zs=>
     rw[hzs]at hz;have hz:kz=z::zs:=by cases hz;rfl
     subst hz;obtain⟨i,b,rfl,rfl⟩:=OD hes;refine hk _ _ H Hv _ (O8 I hM r) ?_;rw[hkd];intro kv H1 Hv1 g1 kq;obtain⟨p,vs,rfl,hp,pr⟩:=iq.mp (show Rep Hv1 (.tup [.int i,.bl b]) kv from kq);cases pr with
     |cons r1 pr=>
      cases pr with
      |cons r2 pr=>
       cases pr;obtain rfl:=pK.mp r1;obtain rfl:=nN.mp r2;have hp1:=g1.vw.sub _ _ hp;refine⟨g1.old.at hc,BJ hk hM (I.grow g1) (eA g1.vis t) (g1.old.at hc) hzs λks H3 Hv3 g3 ka=>h _ H3 Hv3 (g1.trans g3) (.cons ⟨p,i,b,rfl,rfl,g3.old.at hp1⟩ ka)⟩
theorem MW(hT:(T,q)∈Tb.l)(hM:∀j∈ρ,M j=false)(ha:AW M qN te m)(hk:AE (λ_=>false) qV tb kf):AE M qN (Be T q ρ te tb) (Mi.tQ ρ m kf):=λe σ H Hv Q I h=>
 ha e σ H Hv _ I ((aw.mp h).mono λw hx v H1 Hv1 g1 rx=>by
  cases w with
  |dt ai=>
   obtain⟨a,o,rfl,n0,q1,nv,c⟩:=rx;cases o with
   |dT kv=>
    obtain⟨h64,hx⟩:=Mi.cD (show Fin (Mi.bc (ai.length<64) _) _ from hx);obtain⟨kz,hkz,hx⟩:=iO (aw.mp hx);obtain⟨nd,hx⟩:=Mi.cD hx;have hx:=Mi.lA hx;have c:dU Hv1 ai kv:=c;have lkv:ai.length=kv.length:=P2.len c;have I1:=I.grow g1;obtain⟨tps,ht⟩:=g1.vw.cd.has _ hT;refine⟨a,kv,tps,rfl,by omega,ht,g1.vw.cd,λH2 c' tab hc'=>?_⟩;have g2:=Dj g1.vw tab;refine⟨.inl (g2.old.at q1),λxs hky=>?_⟩;have r:P2 (Rep Hv1) (ai.map λkv=>.tup (kv.1.map Mi.iX)) xs:=LY g2.vw c hky;have lx:=r.len;rw[aQ]at lx;refine BJ hk hM (I1.grow g2) r hc' hkz λks H3 Hv3 g3 ka=>?_;have lk:=Cy hkz;rw[aQ]at lk;refine⟨kz,by omega,nd,ka,λp2 ys hp2 so=>?_⟩;obtain⟨pa,pm,sd,rfl⟩:=so;have e0:pa.toList=Mi.jh kz (ai.map λkv=>D.tup (kv.1.map Mi.iX)).length:=by rw[aQ,<- lk];exact Ln nd (by rw[lk,lx];exact pm) (by rw[lk,lx];exact sd)
    have rr:P2 (Rep Hv3) (Mi.sortBy kz (ai.map λkv=>D.tup (kv.1.map Mi.iX))) (pa.toList.map λi=>xs.getD i .non):=by unfold Mi.sortBy;rw[<- e0];refine DT (eA (g2.vis.trans g3.vis) r) _ λi hi=>?_;have:=(tF.mp pm.pm).mem_iff.mp hi;rw[aQ,lx];simpa using this
    obtain⟨g4,kk⟩:=xV g3.vw rr hp2;have gg:=g1.trans (g2.trans (g3.trans g4));exact hx _ _ _ gg (KM.mono (κ:=qN) (g1.old.trans (g2.old.trans g3.old)) kk)
   |_=>exact c.elim
  |_=>exact hx.elim)
end
end A
namespace A
end A
namespace Mi
end Mi
namespace A
open PySem L2 PyProof.Rows
open Mi (D W Rs Fin aw Out)
end A
namespace Mi
end Mi
namespace L2
open PySem PySem.Spec PyProof.Rows
variable{X:Cx}
end L2
namespace A
open PySem L2 PyProof.Rows
variable[Tb:bG]
end A
namespace Mi
end Mi
namespace Zp
open PySem PySem.Spec PyProof.Rows L2 A
open Mi (D W Rs Fin aw Out)
variable[Tb:A.bG]{M:Nat->Bool}{i:Nat}{u s1:TS}{r m:Mi.SN}
end Zp
namespace Mr
open PySem Mi
def Di:S:=
 (dv (bM (mV 1)) (.n 2)
 (bK (cB (m2 e5 (mV 2) (mV 0)))
 qU
 bZ))
def iY:Fn:=dG 2 3 Di
def A4:S:=
 (aF (fV (ba iY [(wD (m2 aO (mV 0) (mC (.int 0)))),(wD (mN cR [(mV 1)]))]))
 (bH (wD (mN oP [(cr [aa 1,ac,ac] (bM (m2 aO (mV 0) (mC (.int 1)))) (.t [1,2]) (cB (m2 bY (mV 2) (mV 0))) (mV 1))]))))
def rS:Fn:=dG 2 2 A4
def Bk:S:=
 (aF (bp 2 (mC (.str "etaoinshrdlucmfwypvbgkqjxz")))
 (aF (bK (cB (m2 eG (m2 bi (mV 0) (mC (.int 4))) (mC (.int 2))))
 (aF (bp 3 (m2 t9 (mC (.str "")) (cr [aa 2,aa 0,ac] (gi (mC (.int 8))) (.n 2) en (m2 aO (mV 0) (m2 bi (m2 cx (mV 1) (m2 a9 (mC (.int 4)) (m2 bL (mC (.int 3)) (mV 2)))) (mC (.int 26)))))))
 (aF (bK (cB (m2 bY (m2 bi (mV 0) (mC (.int 4))) (mC (.int 0))))
 (bH (wD (cr [aa 3,ac] (gi (mV 1)) (.n 1) en (gj ik (mV 0) ac (aa (m2 a9 (mV 1) (mC (.int 1))))))))
 bZ)
 (bH (wD (cr [aa 3,ac] (gi (mV 1)) (.n 1) en (gj ik (mV 0) (aa (m2 jS (mC (.int 7)) (mV 1))) ac))))))
 bZ)
 (aF (bp 4 (m2 bi (m2 cx (mV 0) (mC (.int 4))) (mC (.int 8))))
 (aF (bp 5 (m2 t9 (mC (.str "")) (cr [aa 2,aa 0,ac] (gi (mV 4)) (.n 2) en (m2 aO (mV 0) (m2 bi (m2 a9 (m2 a9 (m2 cx (mV 1) (mC (.int 32))) (m2 bL (mC (.int 5)) (mV 2))) (m2 bL (mV 2) (mV 2))) (mC (.int 26)))))))
 (aF (bp 6 (m2 bi (m2 cx (mV 0) (mC (.int 256))) (m2 a9 (mV 4) (mC (.int 1)))))
 (bH (wD (cr [aa 5,aa 2,aa 6,aa 0,ac] (gi (mV 1)) (.n 4) en (m2 a9 (m2 a9 (gj ik (mV 0) ac (aa (mV 2))) (m2 aO (mV 1) (m2 bi (m2 a9 (m2 cx (mV 3) (mC (.int 7))) (m2 bL (mC (.int 5)) (mV 4))) (mC (.int 26))))) (gj ik (mV 0) (aa (mV 2)) ac))))))))))
def sB:Fn:=fL 2 7 Bk
def D1:S:=
 (aF (ma 3 (Ga (mV 2) (mC (.bl true))))
 (aF (bp 4 (mN cR [(mV 2)]))
 (aF (lw 20 (dP (mV 4))
 (aF (t0 5 4)
 (dv (bM (mV 1)) (.t [6,7])
 (bK (dX (cB (m2 bY (mV 6) (mV 5))) (cB (gX 3 (mV 7))))
 (aF (d9 3 (mV 7) (mC (.bl true)))
 (dS 4 (mV 7)))
 bZ))))
 (bH (wD (cr [aa 3,ac] (bM (mV 0)) (.n 1) (cB (nE 0 (mV 1))) (mV 1)))))))
def q9:Fn:=fL 3 8 D1
def Fy:S:=
 (aF (fV (ba iY [(wD (m2 aO (mV 0) (mC (.int 0)))),(wD (mN cR [(mV 1)]))]))
 (bH (wD (ba q9 [(wD (m2 aO (mV 0) (mC (.int 0)))),(wD (m2 aO (mV 0) (mC (.int 1)))),(wD (mV 1))]))))
def qK:Fn:=fL 2 2 Fy
def FS:S:=
 (aF (ma 1 (λ_=>.ok (.dk [])))
 (dv (bM (mV 0)) (.n 2)
 (aF (bK (cB (nE 1 (mV 2)))
 qU
 bZ)
 (d9 1 (mV 2) (mC (.bl true))))))
def rY:Fn:=dG 1 3 FS
def F7:S:=(bH (wD (mN wz [(cr [aa 2,ac] (bM (ba qK [(wD (mV 0)),(wD (mV 1))])) (.n 1) en (m2 fM (mV 1) (mV 0)))])))
def pT:Fn:=dG 3 3 F7
def xb:S:=
 (aF (bK (cB (m2 eG (mV 1) (mN cS [(mV 0)])))
 (bH (wD (m2 aO (mV 0) (mV 1))))
 bZ)
 (aF (bp 2 (m2 a9 (mC (.int 30011)) (m2 bL (m2 bL (mC (.int 709)) (mV 1)) (mV 1))))
 (aF (bK (cB (m2 nH (mN cS [(mV 0)]) (mC (.int 0))))
 (bp 2 (m2 a9 (mV 2) (m2 bL (m2 bi (m2 aO (mV 0) (mC (.int 0))) (mC (.int 99991))) (m2 a9 (m2 a9 (m2 bL (mV 1) (mV 1)) (m2 bL (mC (.int 2)) (mV 1))) (mC (.int 5))))))
 bZ)
 (bH (wD (mV 2))))))
def eY:Fn:=dG 2 3 xb
def EQ:S:=
 (aF (bp 2 (cr [ac] (gi (mV 1)) (.n 0) en (mV 0)))
 (aF (bp 3 (mN cR []))
 (aF (bp 4 (m2 bi (mV 0) (mC (.int 2147483647))))
 (aF (dv (gi (mV 1)) (.n 5)
 (aF (bp 4 (m2 bi (m2 a9 (m2 a9 (m2 bL (mV 4) (mC (.int 48271))) (m2 bL (mC (.int 7)) (mV 5))) (mC (.int 1))) (mC (.int 2147483647))))
 (ur 3 2 (m2 bi (m2 cx (mV 4) (mC (.int 32))) (mN cS [(mV 2)])))))
 (bH (wV 3))))))
def rD:Fn:=fL 2 6 EQ
def D5:S:=
 (aF (bp 2 (m2 a9 (mC (.int 1)) (m2 bi (ba eY [(wD (mV 0)),(wD (mC (.int 0)))]) (mV 1))))
 (aF (bp 3 (ba sB [(wD (ba eY [(wD (mV 0)),(wD (mC (.int 1)))])),(wD (mV 2))]))
 (aF (bp 4 (ba rD [(wD (ba eY [(wD (mV 0)),(wD (mC (.int 2)))])),(wD (mV 2))]))
 (aF (bp 5 (m2 aO (mN cR [(mC (.int 4)),(mC (.int 1)),(mC (.int 2)),(mC (.int 3)),(mC (.int 2)),(mC (.int 3))]) (m2 bi (ba eY [(wD (mV 0)),(wD (mC (.int 3)))]) (mC (.int 6)))))
 (aF (bp 6 (mN cR []))
 (aF (dv (gi (mV 2)) (.n 7)
 (dv (gi (mV 2)) (.n 8)
 (aF (bp 9 (ba eY [(wD (mV 0)),(wD (m2 a9 (m2 a9 (mC (.int 4)) (m2 cx (m2 bL (mN iV [(mV 7),(mV 8)]) (m2 jS (mN iV [(mV 7),(mV 8)]) (mC (.int 1)))) (mC (.int 2)))) (mN mE [(mV 7),(mV 8)])))]))
 (bK (dX (cB (m2 eG (m2 aO (mV 4) (mV 7)) (m2 aO (mV 4) (mV 8)))) (cB (m2 eG (m2 bi (m2 cx (m2 bi (m2 bL (mV 9) (mC (.int 48271))) (mC (.int 2147483647))) (mC (.int 16))) (mC (.int 4))) (mV 5))))
 (dS 6 (mN dTup [(m2 aO (mV 3) (mV 7)),(m2 aO (mV 3) (mV 8))]))
 bZ))))
 (bH (wD (mN dTup [(mN oP [(mV 3)]),(mN oP [(mV 6)])])))))))))
def r9:Fn:=dG 2 10 D5
def CU:S:=
 (aF (bp 2 (ba eY [(wD (mV 0)),(wD (mC (.int 0)))]))
 (aF (bp 3 (m2 bi (m2 cx (mV 2) (m2 jS (mV 1) (mC (.int 1)))) (m2 xp (mC (.int 10)) (mC (.int 9)))))
 (aF (bp 4 (m2 a9 (m2 a9 (mC (.int 1)) (m2 bi (mV 2) (m2 jS (mV 1) (mC (.int 1))))) (m2 bL (mV 1) (mV 3))))
 (bH (wD (ba r9 [(wD (m2 a9 (mN cR [(mV 4)]) (gj ik (mV 0) (aa (mC (.int 1))) ac))),(wD (mV 1))]))))))
def rK:Fn:=dG 2 5 CU
def nG(F:Fn):S:=
 (aF (bK (fq (cB (m1 (cP ["str"]) (mV 1))) (cB (m1 (cP ["int"]) (mV 1))))
 (aF (bK (fq (cB (m2 fO (m1 (cP ["bool"]) (mV 0)) (m1 (cP ["bool"]) (mV 1)))) (cB (m2 fO (m1 (cP ["str"]) (mV 0)) (m1 (cP ["str"]) (mV 1)))))
 (bH (wD (mC (.bl false))))
 bZ)
 (bH (wD (nO (m1 (cP ["int","str"]) (mV 0)) (m2 bY (mV 0) (mV 1))))))
 bZ)
 (aF (bK (fq (cB (m2 fO (m1 (cP ["list"]) (mV 0)) (m1 (cP ["list"]) (mV 1)))) (eP (cB (m1 (cP ["list","tuple"]) (mV 0)))))
 (bH (wD (mC (.bl false))))
 bZ)
 (aF (bK (cB (m2 fO (mN cS [(mV 0)]) (mN cS [(mV 1)])))
 (bH (wD (mC (.bl false))))
 bZ)
 (aF (dv (yY (mV 0) (mV 1)) (.t [2,3])
 (bK (eP (cB (ba F [(wD (mV 2)),(wD (mV 3))])))
 (bH (wD (mC (.bl false))))
 bZ))
 (bH (wD (mC (.bl true))))))))
def fw:Nat->Fn
 |0=>DE
 |n+1=>dG 2 4 (nG (fw n))
def Gi:S:=
 (aF (bp 2 (mN cR [(m2 bi (ba eY [(wD (mV 0)),(wD (mC (.int 39)))]) (mC (.int 2147483647)))]))
 (aF (dv (yh (gj ik (mV 0) (aa (mC (.int 40))) (aa (mC (.int 63))))) (.t [3,4])
 (bK (cB (m2 eG (m2 a9 (mV 3) (mC (.int 1))) (mV 1)))
 (dS 2 (m2 bi (mV 4) (mC (.int 2147483647))))
 (rO 2 (m2 bi (mV 3) (mV 1)) (m2 bi (m2 a9 (m2 bL (m2 aO (mV 2) (m2 bi (mV 3) (mV 1))) (mC (.int 69621))) (mV 4)) (mC (.int 2147483647))))))
 (bH (wV 2))))
def sJ:Fn:=fL 2 5 Gi
def En:S:=(bH (wD (nO (u9 oY oY (mC (.int 1)) (mN cS [(mV 0)]) (mC (.int 8))) (mN wY [(cr [ac] (bM (mV 0)) (.n 0) en (m2 fM (mV 0) (mC (.str "abcdefghijklmnopqrstuvwxyz"))))]))))
def q8:Fn:=dG 1 1 En
def Fa:S:=
 (aF (fV (ba iY [(wD (m2 aO (mV 0) (mC (.int 0)))),(wD (mN cR [(mV 1)]))]))
 (bH (wD (mN oP [(cr [aa 1,ac,ac] (bM (m2 aO (mV 0) (mC (.int 1)))) (.t [1,2]) (cB (m2 bY (mV 1) (mV 0))) (mV 2))]))))
def sr:Fn:=dG 2 2 Fa
def EB:S:=
 (aF (fV (ba iY [(wD (mV 0)),(wD (mV 1))]))
 (fV (ba rY [(wD (mV 1))])))
def m4:Fn:=dG 2 2 EB
def Cd:S:=(bH (wD (cr [ac] (bM (ba sr [(wD (mV 0)),(wD (mV 1))])) (.n 0) en (mN dTup [(mV 0),(mC (.bl true))]))))
def lc:Fn:=fL 2 2 Cd
def Gw:S:=(bH (wD (cr [ac] (bM (ba rS [(wD (mV 0)),(wD (mV 1))])) (.n 0) en (mN dTup [(mV 0),(mC (.bl false))]))))
def lF:Fn:=fL 2 2 Gw
def Dt:S:=
 (aF (B0 (.t [3,4]) (mV 1))
 (aF (bp 5 (m2 e5 (mV 3) (mV 2)))
 (aF (bp 6 (ll (dP (mV 4)) (ba pT [(wD (mV 0)),(wD (mV 3)),(wD (mV 2))]) (mV 5)))
 (aF (bp 7 (ll (dP (mV 5)) (ba lc [(wD (mV 0)),(wD (mV 3))]) (mN cR [])))
 (aF (bp 8 (ll (dP (mV 6)) (ba lF [(wD (mV 0)),(wD (mV 3))]) (mN cR [])))
 (bH (wD (m2 a9 (mV 7) (mV 8)))))))))
def qd:Fn:=dG 3 9 Dt
def t5:Fn:=Fh (ba qd [(wD (mV 1)),(wD (mV 0)),(wD (mV 2))])
def x5(κ:Kp):S:=
 (aF (ma 2 (λ_=>.ok (.dt [])))
 (aF (bp 3 (mN cR []))
 (aF (dv (bM (mV 0)) (.n 4)
 (aF (d9 2 (mV 4) (mC .non))
 (dS 3 (mV 4))))
 (aF (lw 40 (dP (mV 3))
 (aF (iu 5 3 (mC (.int 0)))
 (dv (bM (nW κ 1 t5 (mV 5))) (.n 4)
 (bK (cB (gX 2 (mV 4)))
 (aF (d9 2 (mV 4) (mV 5))
 (dS 3 (mV 4)))
 bZ))))
 (bH (wV 2))))))
def t6(κ:Kp):Fn:=fL 2 6 (x5 κ)
def rE(x:D)(aC:List D):Rs W:=t6 ⟨0,0, "",[]⟩ [.d x,.fn ⟨0,0, "", []⟩ aC]
def Cp:S:=
 (aF (bp 3 (m2 a9 (ba lc [(wD (mV 0)),(wD (mV 1))]) (ba lF [(wD (mV 0)),(wD (mV 1))])))
 (bH (ze rE [0,2] (mV 3))))
def iN:Fn:=fL 3 4 Cp
def BQ:S:=(bH (wD (cr [aa 0,ac] (qb 1) (.n 1) (cB (m2 bY (m2 aO (mV 1) (mC (.int 0))) (mV 0))) (mV 1))))
def n9:Fn:=fL 2 2 BQ
def Bm:S:=
 (aF (fV (ba m4 [(wD (m2 aO (mV 0) (mC (.int 0)))),(wD (m2 a9 (mN cR [(mV 1),(mV 2)]) (mN kn [(mV 3)])))]))
 (bH (wD (tT (ba n9 [(wD (mV 2)),(uf (gy iN [(wD (mV 0)),(wD (mV 1)),(wD (mV 3))]))])))))
def sI:Fn:=dG 4 4 Bm
def FN:S:=
 (aF (fV (ba m4 [(wD (m2 aO (mV 0) (mC (.int 0)))),(wD (m2 a9 (mN cR [(mV 1)]) (mN kn [(mV 2)])))]))
 (aF (bp 3 (m2 aO (mV 0) (mC (.int 0))))
 (bH (wD (tQ [3] (gy iN [(wD (mV 0)),(wD (mV 1)),(wD (mV 2))]) (mN dTup [(m2 rC (mV 1) (m2 aO (mV 0) (mC (.int 0)))),(m2 aO (mV 0) (mC (.int 1)))]))))))
def nC:Fn:=fL 3 4 FN
def Fs:S:=
 (aF (bp 2 (mN kn [(m2 aO (mV 0) (mC (.int 0)))]))
 (aF (iu 3 2 (m2 bi (mV 1) (mN cS [(mV 2)])))
 (aF (iu 4 2 (m2 bi (m2 cx (mV 1) (mC (.int 8))) (mN cS [(mV 2)])))
 (aF (bp 5 (mN cR []))
 (aF (dv (gi (mN cS [(mV 2)])) (.n 6)
 (bK (cB (m2 bY (m2 bi (m2 cx (m2 bi (m2 bL (mV 1) (m2 a9 (mC (.int 48271)) (m2 bL (m2 bL (mC (.int 614)) (mV 6)) (mV 6)))) (mC (.int 2147483647))) (mC (.int 16))) (m2 a9 (mC (.int 2)) (m2 bi (m2 cx (mV 1) (mC (.int 64))) (mC (.int 2))))) (mC (.int 0))))
 (dS 5 (m2 aO (mV 2) (mV 6)))
 bZ))
 (aF (bK (cB (m2 bY (m2 bi (m2 cx (mV 1) (mC (.int 128))) (mC (.int 2))) (mC (.int 1))))
 (xX 5)
 bZ)
 (oJ (bH (wD (mN cR [(mV 3),(mV 4),(mV 5)]))))))))))
def oZ:Fn:=fL 2 7 Fs
def Bh:S:=
 (aF (bp 2 (mN kn [(mV 1)]))
 (aF (dv (gi (mN cS [(m2 aO (mV 0) (mC (.int 0)))])) (.n 3)
 (bp 2 (m2 a9 (mV 2) (cr [aa 2,ac,ac] (bM (m2 aO (mV 0) (mC (.int 1)))) (.t [1,2]) (dX (cB (m2 fM (mV 2) (mV 0))) (cB (m2 e5 (mV 1) (mV 0)))) (mV 1)))))
 (bH (wD (mV 2)))))
def sG:Fn:=dG 2 4 Bh
def Cc:S:=
 (aF (bp 4 (mN cR []))
 (aF (bK (cB (m2 e5 (m2 aO (mV 3) (mC (.int 0))) (mV 2)))
 (bp 4 (cr [aa 3,ac,ac] (bM (m2 aO (mV 0) (mC (.int 1)))) (.t [1,2]) (cB (m2 bY (mV 1) (m2 aO (mV 0) (mC (.int 0))))) (mN dTup [(mV 2),(mC (.bl true))])))
 bZ)
 (aF (bK (fq (dX (dP (m2 aO (mV 3) (mC (.int 1)))) (cB (m2 fM (m2 aO (mV 3) (mC (.int 0))) (mV 1)))) (dX (eP (dP (m2 aO (mV 3) (mC (.int 1))))) (cB (m2 e5 (m2 aO (mV 3) (mC (.int 0))) (mV 2)))))
 (bp 4 (m2 a9 (mV 4) (cr [aa 3,ac,ac] (bM (m2 aO (mV 0) (mC (.int 1)))) (.t [1,2]) (cB (m2 bY (mV 2) (m2 aO (mV 0) (mC (.int 0))))) (mN dTup [(mV 1),(mC (.bl false))]))))
 bZ)
 (bH (wD (mV 4))))))
def m3:Fn:=dG 4 5 Cc
def Fx:S:=
 (aF (bp 3 (ba sG [(wD (mV 0)),(wD (mV 2))]))
 (aF (bp 4 (cr [aa 1,ac,ac] (bM (m2 aO (mV 0) (mC (.int 1)))) (.t [1,2]) (cB (m2 bY (mV 1) (mV 0))) (mN dTup [(mV 2),(mC (.bl true))])))
 (aF (bp 4 (m2 a9 (mV 4) (cr [aa 1,ac,ac] (bM (m2 aO (mV 0) (mC (.int 1)))) (.t [1,2]) (cB (m2 bY (mV 2) (mV 0))) (mN dTup [(mV 1),(mC (.bl false))]))))
 (aF (dv (gi (m2 bL (mC (.int 2)) (mN cS [(m2 aO (mV 0) (mC (.int 0)))]))) (.n 5)
 (dv (bM (mN kn [(mV 4)])) (.n 6)
 (bp 4 (m2 a9 (mV 4) (cr [aa 4,ac] (bM (ba m3 [(wD (mV 0)),(wD (mV 3)),(wD (mV 2)),(wD (mV 6))])) (.n 1) (cB (m2 e5 (mV 1) (mV 0))) (mV 1))))))
 (aF (bp 7 (mN cR []))
 (aF (dv (bM (m2 aO (mV 0) (mC (.int 0)))) (.n 8)
 (bp 7 (m2 a9 (mV 7) (cr [aa 8,aa 4,ac] (bM (mN cR [(mC (.bl false)),(mC (.bl true))])) (.n 2) (cB (m2 fM (mN dTup [(mV 0),(mV 2)]) (mV 1))) (mN dTup [(mV 0),(mV 2)])))))
 (bH (wD (mV 7)))))))))
def lq:Fn:=dG 3 9 Fx
def FW:S:=
 (aF (ve [2,3,4] (ba oZ [(wD (mV 0)),(wD (mV 1))]))
 (aF (bp 5 (mN kn [(mV 4)]))
 (aF (bp 6 (ba nC [(wD (mV 0)),(wD (mV 2)),(wD (mV 5))]))
 (aF (bK (fq (eP (cB (sM (fw 3) [(wD (mV 6)),(wD (ba lq [(wD (mV 0)),(wD (mV 2)),(wD (mV 4))]))]))) (cB (m2 fO (mV 5) (mV 4))))
 (bH (wD (mC (.bl false))))
 bZ)
 (aF (bp 7 (m2 nH (mN cS [(cr [aa 3,ac] (bM (mV 6)) (.n 1) (cB (m2 bY (m2 aO (mV 1) (mC (.int 0))) (mV 0))) (mV 1))]) (mC (.int 0))))
 (aF (GK 6)
 (aF (bp 8 (ba nC [(wD (mV 0)),(wD (mV 3)),(wD (mV 5))]))
 (aF (bK (eP (cB (ba (fw 3) [(wD (mV 8)),(wD (ba lq [(wD (mV 0)),(wD (mV 3)),(wD (mV 4))]))])))
 (bH (wD (mC (.bl false))))
 bZ)
 (aF (bK (cB (m2 fO (mV 7) (m2 nH (mN cS [(cr [aa 2,ac] (bM (mV 8)) (.n 1) (cB (m2 bY (m2 aO (mV 1) (mC (.int 0))) (mV 0))) (mV 1))]) (mC (.int 0)))))
 (bH (wD (mC (.bl false))))
 bZ)
 (aF (bp 9 (ba sI [(wD (mV 0)),(wD (mV 2)),(wD (mV 3)),(wD (mV 5))]))
 (aF (bK (fq (eP (cB (m1 (cP ["bool"]) (mV 9)))) (cB (m2 bY (mV 9) (mV 7))))
 (bH (wD (mC (.bl false))))
 bZ)
 (bH (wD (ba (fw 3) [(wD (ba nC [(wD (mV 0)),(wD (mV 2)),(wD (mV 5))])),(wD (ba lq [(wD (mV 0)),(wD (mV 2)),(wD (mV 4))]))]))))))))))))))
def nQ:Fn:=dG 2 10 FW
def DA:S:=
 (aF (bp 1 (ba rK [(wD (mV 0)),(wD (mC (.int 8)))]))
 (aF (dv (bM (ba sJ [(wD (mV 0)),(wD (mC (.int 4)))])) (.n 2)
 (bK (eP (cB (ba nQ [(wD (mV 1)),(wD (mV 2))])))
 (bH (wD (mC (.bl false))))
 bZ))
 (bH (wD (mC (.bl true))))))
def wL:Fn:=dG 1 3 DA
end Mr
namespace Hp2
open Mi
def ER(κ κ':Kp)(aC:List D)(e e':Mi.Env):Prop:=e[1]? = aa (aa (.fn κ aC))/\e'=e.set 1 (aa (.fn κ' aC))
section
variable{κ κ':Kp}{aC:List D}{e e':Mi.Env}
theorem ER.get(h:ER κ κ' aC e e'){i:Nat}(hi:1≠i):e'[i]? = e[i]?:=by rw[h.2,fh hi]
theorem ER.one(h:ER κ κ' aC e e'):e'[1]? = aa (aa (.fn κ' aC)):=by rw[h.2,mJ (ca.mp h.1).1]
theorem ER.set(h:ER κ κ' aC e e'){i:Nat}(hi:1≠i)(w:Option W):ER κ κ' aC (e.set i w) (e'.set i w):=⟨by rw[fh (d8 hi)];exact h.1,by rw[h.2,List.set_comm _ _ hi]⟩
end
variable(κ κ':Kp)(aC:List D)
inductive OR:Rs Out->Rs Out->Prop
 |nx {e e':Mi.Env}:ER κ κ' aC e e'->OR (.ok (.nx e)) (.ok (.nx e'))
 |ct {e e':Mi.Env}:ER κ κ' aC e e'->OR (.ok (.ct e)) (.ok (.ct e'))
 |bk {e e':Mi.Env}:ER κ κ' aC e e'->OR (.ok (.bk e)) (.ok (.bk e'))
 |rt (w:W):OR (.ok (.rt w)) (.ok (.rt w))
 |ex (x:la):OR (.ex x) (.ex x)
 |no:OR .no .no
def Sr(s s':S):Prop:=∀e e',ER κ κ' aC e e'->OR κ κ' aC (s e) (s' e')
def Ar{α:Type}(a a':Mi.Env->Rs α):Prop:=∀e e',ER κ κ' aC e e'->a' e'=a e
variable{κ κ' aC}
theorem gn{α:Type}{r:Rs α}{f g:α->Rs Out}(h:∀x,r=.ok x->OR κ κ' aC (f x) (g x)):OR κ κ' aC (r.bind f) (r.bind g):=by
 cases r with
 |ok x=>exact h x rfl
 |ex x=>exact .ex x
 |no=>exact .no
theorem nF{s s' t t':S}(h:Sr κ κ' aC s s')(k:Sr κ κ' aC t t'):Sr κ κ' aC (aF s t) (aF s' t'):=λe e' r=>by
 unfold aF;have q:=h e e' r;generalize s e=a at q ⊢;generalize s' e'=b at q ⊢;cases q with
 |nx z=>exact k _ _ z
 |ct z=>exact .ct z
 |bk z=>exact .bk z
 |rt w=>exact .rt w
 |ex x=>exact .ex x
 |no=>exact .no
theorem GJ{it it':I}{i:Nat}{s s':S}(hi:1≠i)(ha:Ar κ κ' aC it it')(h:Sr κ κ' aC s s'):Sr κ κ' aC (dv it (.n i) s) (dv it' (.n i) s'):=λe e' r=>by
 unfold dv;rw[ha e e' r];refine gn λxs hxs=>?_;clear hxs
 induction xs generalizing e e' with
 |nil=>exact .nx r
 |cons x t ih=>
  show OR κ κ' aC ((s (e.set i (aa (.d x)))).bind _) ((s' (e'.set i (aa (.d x)))).bind _);have q:=h _ _ (r.set hi (aa (.d x)));generalize s (e.set i (aa (.d x)))=a at q ⊢;generalize s' (e'.set i (aa (.d x)))=b at q ⊢;cases q with
  |nx z=>exact ih _ _ z
  |ct z=>exact ih _ _ z
  |bk z=>exact .nx z
  |rt w=>exact .rt w
  |ex x=>exact .ex x
  |no=>exact .no
theorem Kc{c c':C}{n:Nat}{s s':S}(ha:Ar κ κ' aC c c')(h:Sr κ κ' aC s s'):Sr κ κ' aC (lw n c s) (lw n c' s'):=by
 unfold lw
 induction n with
 |zero=>exactλe e' r=>.no
 |succ n ih=>
  intro e e' r;unfold jL;rw[ha e e' r];refine gn λb _=>?_;cases b with
  |false=>exact .nx r
  |true=>
   simp only[hV];have q:=h _ _ r;generalize s e=a at q ⊢;generalize s' e'=b at q ⊢;cases q with
   |nx z=>exact ih _ _ z
   |ct z=>exact ih _ _ z
   |bk z=>exact .nx z
   |rt w=>exact .rt w
   |ex x=>exact .ex x
   |no=>exact .no
theorem K4{c c':C}{s s' t t':S}(ha:Ar κ κ' aC c c')(h:Sr κ κ' aC s s')(k:Sr κ κ' aC t t'):Sr κ κ' aC (bK c s t) (bK c' s' t'):=λe e' r=>by
 unfold bK;rw[ha e e' r];refine gn λb _=>?_;cases b with
 |true=>exact h _ _ r
 |false=>exact k _ _ r
theorem NJ:Sr κ κ' aC bZ bZ:=λe e' r=>.nx r
theorem IS{a a':EW}(ha:Ar κ κ' aC a a'):Sr κ κ' aC (bH a) (bH a'):=λe e' r=>by
 unfold bH;rw[ha e e' r];exact gn λw _=>.rt w
theorem LI{i:Nat}{a a':EW}(hi:1≠i)(ha:Ar κ κ' aC a a'):Sr κ κ' aC (ma i a) (ma i a'):=λe e' r=>by
 unfold ma;rw[ha e e' r];exact gn λw _=>.nx (r.set hi _)
theorem O1{i:Nat}{a a':E}(hi:1≠i)(ha:Ar κ κ' aC a a'):Sr κ κ' aC (bp i a) (bp i a'):=λe e' r=>by
 unfold bp;rw[ha e e' r];exact gn λw _=>.nx (r.set hi _)
theorem lm{i:Nat}(hi:1≠i):Ar κ κ' aC (mV i) (mV i):=λe e' r=>by unfold mV;rw[r.get hi]
theorem xC{i:Nat}(hi:1≠i):Ar κ κ' aC (wV i) (wV i):=λe e' r=>by unfold wV;rw[r.get hi]
theorem BP{i:Nat}(hi:1≠i):Ar κ κ' aC (λe=>getL e i) (λe=>getL e i):=λe e' r=>by show getL e' i=getL e i;unfold getL;rw[r.get hi]
theorem uU{α:Type}{x:Rs α}:Ar κ κ' aC (λ_=>x) (λ_=>x):=λe e' r=>rfl
theorem u8{α β:Type}{a a':Mi.Env->Rs α}{f:α->Rs β}(ha:Ar κ κ' aC a a'):Ar κ κ' aC (λe=>(a e).bind f) (λe=>(a' e).bind f):=λe e' r=>by
 show(a' e').bind f=(a e).bind f;rw[ha e e' r]
theorem CB{i:Nat}{a a' b b':E}(hi:1≠i)(ha:Ar κ κ' aC a a')(hb:Ar κ κ' aC b b'):Sr κ κ' aC (d9 i a b) (d9 i a' b'):=λe e' r=>by
 unfold d9;rw[hb e e' r,ha e e' r,xC hi e e' r];exact gn λx _=>gn λy _=>gn λz _=>gn λw _=>.nx (r.set hi _)
theorem Mn{p:Prop}[Decidable p]{x y:Rs Out}(h:OR κ κ' aC x y):OR κ κ' aC (bc p x) (bc p y):=by
 unfold bc;split
 ·exact h
 ·exact .no
theorem Ff{i:Nat}{a a':E}(hi:1≠i)(ha:Ar κ κ' aC a a'):Sr κ κ' aC (dS i a) (dS i a'):=λe e' r=>by
 unfold dS;rw[ha e e' r,show getL e' i=getL e i from BP hi e e' r];exact gn λx _=>gn λy _=>Mn (.nx (r.set hi _))
theorem L4{i j:Nat}{a a':E}(hi:1≠i)(hj:1≠j)(ha:Ar κ κ' aC a a'):Sr κ κ' aC (iu i j a) (iu i j a'):=λe e' r=>by
 unfold iu;rw[ha e e' r,show getL e' j=getL e j from BP hj e e' r];exact gn λx _=>gn λy _=>gn λz _=>gn λw _=>.nx ((r.set hj _).set hi _)
theorem IL{i:Nat}{a a':E}(hi:1≠i)(ha:Ar κ κ' aC a a'):Ar κ κ' aC (gX i a) (gX i a'):=λe e' r=>by
 unfold gX;rw[ha e e' r,xC hi e e' r]
theorem M7{f:Fn}{a a':E}(ha:Ar κ κ' aC a a'):Ar κ κ' aC (nW κ 1 f a) (nW κ' 1 f a'):=λe e' r=>by
 unfold nW;rw[r.1,r.one,ha e e' r];simp
theorem Kn{a b:Rs Out}(h:OR κ κ' aC a b):a.bind jU=b.bind jU:=by cases h<;>rfl
theorem _root_.Mr.Ki(κ:Kp)(x:D)(aC:List D):Mr.t6 κ [.d x,.fn κ aC]=Mr.rE x aC:=by
 have h:Sr κ ⟨0,0, "",[]⟩ aC (Mr.x5 κ) (Mr.x5 ⟨0,0, "", []⟩):=by refine nF (LI (by decide) uU) (nF (O1 (by decide) uU) (nF (GJ (by decide) (u8 (lm (by decide))) (nF (CB (by decide) (lm (by decide)) uU) (Ff (by decide) (lm (by decide))))) (nF (Kc (u8 (lm (by decide))) (nF (L4 (by decide) (by decide) uU) (GJ (by decide) (u8 (M7 (lm (by decide)))) (K4 (u8 (IL (by decide) (lm (by decide)))) (nF (CB (by decide) (lm (by decide)) (lm (by decide))) (Ff (by decide) (lm (by decide)))) NJ)))) (IS (xC (by decide))))))
 have r:ER κ ⟨0,0, "",[]⟩ aC [aa (.d x),aa (.fn κ aC),ac,ac,ac,ac] [aa (.d x),aa (.fn ⟨0,0, "", []⟩ aC),ac,ac,ac,ac]:=⟨rfl,rfl⟩;have q:=h _ _ r;exact congrArg (bc ((2:Nat)=2)) (Kn q)
end Hp2
namespace A
open PySem L2 PyProof.Rows
section
variable{P:bh}{w:a6}{K:aD}{mg:Str->Option ag}{base:aJ}[Tb:bG]
variable{x qual:Str}{st:bt}{f:af}{fd:bF}{N ps:List Str}{k:Nat}{m:Mi.S}
theorem gA(M:Nat->Bool)(F:ce K x qual st f fd)(S:cu N ps (bB st))
 (hb:∀(cdv:ag) (A:bx) (outer:List Env) (s:ao) (H:Hp) (E:XK),b9 k (A.deeper (envOfC qual (bB st) s.heap.objs.size f cdv))->N.Nodup->(A.deeper (envOfC qual (bB st) s.heap.objs.size f cdv)).units+1<cLine->(A.deeper (envOfC qual (bB st) s.heap.objs.size f cdv)).units+64<cLine ->
  ∃t,f6 (ki aL P w K mg base N qual (bB st) f cdv A outer s H E).kK (io st) t/\AS M qV t m)
 (hM:∀i,i<ps.length->M i=false:=by decide):bE P w K mg base aL (k+1) f fd ps (au (Mi.dG ps.length N.length m)):=
 F.ok S (λvs H Q E h=>Cr h) λcdv A outer s H vs Q E hr h=>
  let ⟨t,a,b⟩:=hb cdv A outer s H E hr S.nd (qa hr) hr.units
  ⟨t,a,BZ b hM h⟩
theorem okN(M:Nat->Bool)(F:ce K x qual st f fd)(S:cu N ps (bB st))
 (hb:∀(cdv:ag) (A:bx) (outer:List Env) (s:ao) (H:Hp) (E:XK),b9 k (A.deeper (envOfC qual (bB st) s.heap.objs.size f cdv))->N.Nodup->(A.deeper (envOfC qual (bB st) s.heap.objs.size f cdv)).units+1<cLine->(A.deeper (envOfC qual (bB st) s.heap.objs.size f cdv)).units+64<cLine ->
  ∃t,f6 (ki aL P w K mg base N qual (bB st) f cdv A outer s H E).kK (io st) t/\AS M qN t m)
 (hM:∀i,i<ps.length->M i=false:=by decide):bE P w K mg base aL (k+1) f fd ps (cO (Mi.fL ps.length N.length m)):=
 F.ok S (λvs H Q E h=>uY h) λcdv A outer s H vs Q E hr h=>
  let ⟨t,a,b⟩:=hb cdv A outer s H E hr S.nd (qa hr) hr.units
  ⟨t,a,runN b hM h⟩
end
theorem dw{N P:List Str}{sc:dB}(a:sc.kind=.function:=by rfl)(b:sc.isCoroutine=false:=by rfl)(c:sc.isGenerator=false:=by rfl)(d:N.Nodup:=by decide +kernel)(e:N.take P.length=P:=by rfl)
 (f:∀x∈P,sc.names.lookup x=aa .local\/sc.names.lookup x=aa .cell:=by decide +kernel) (g:∀y∈sc.names,y.2≠.free:=by decide +kernel):cu N P sc:=⟨a,b,c,d,e,f,g⟩
section
variable{M:Nat->Bool}[Tb:bG]
theorem bJ(i:Nat)(hm:M i=false:=by rfl):AE M qV (eR i) (Mi.mV i):=E3 i hm
theorem a7(i:Nat)(hm:M i=false:=by rfl):AW M qV (eR i) (Mi.wD (Mi.mV i)):=AE.w (E3 i hm)
end
section
variable{X:Cx}{e:aU}{te:TE}{pos pos':Pos}{x:Str}
theorem pS(i:Nat)(he:PE X e te)(hN:X.N.Nodup:=by assumption)(hi:X.N[i]? = aa x:=by rfl)(hx:Loc X.env.scope x:=by exact cz rfl)(hs:swapsWith e (aa (.Name x pos')) pos.line X.env=pure false:=by rfl)
 (hf:X.fn x=true\/X.env.scope.names.lookup x=aa .local:=by first|exact .inl rfl|exact .inr rfl|assumption):PS X (.Assign [.Name x pos'] e pos) (jq te (gu i)):=jf hN hi hx he hs hf
theorem pG(i:Nat)(hN:X.N.Nodup:=by assumption)(hi:X.N[i]? = aa x:=by rfl)(hx:Loc X.env.scope x:=by exact cz rfl)
 (hf:X.fn x=true\/X.env.scope.names.lookup x=aa .local:=by first|exact .inl rfl|exact .inr rfl|assumption):L2.PG X (.Name x pos) (gu i):=cU hN hi hx hf
theorem nk{a:Str}:[a].Nodup:=j4.mpr ⟨(λh=>nomatch h),List.nodup_nil⟩
theorem ji{a b:Str}(h:a≠b:=by decide):[a,b].Nodup:=j4.mpr ⟨λz=>h (dm.mp z),nk⟩
theorem pC{k k':Nat}{ps:List Str}{sp:Sp}{es:List aU}{t:TA}(C:bO X.prog X.w X.K X.mg X.base aL k x ps sp)(hr:b9 k' X.A)(ha:PA X (e::es) t)(hle:k<=k':=by decide)(hg:Gl X x:=by rfl)
 (hdb:(x==("__debug__" : Str))=false:=by decide) (he:starEach (e::es) X.env=(false,eval e X.env)::starEach es X.env:=by rfl) (hpl:(backTo pos (starEach es X.env)).any (·.1)=false:=by rfl) :
 PE X (.Call (.Name x pos') (e::es) [] pos) (mr sp [] E0 t):=pz C (hr.mono hle) hg oX ha hdb he hpl
theorem bg(i:Nat)(hN:X.N[i]? = aa x:=by rfl)(hv:pq X.env.scope x:=by first|exact cz rfl|exact fk (cz rfl)|exact fk (fk rfl))(hd:(x==("__debug__" : Str))=false:=by decide)
 (hcd:(x==("__classdict__" : Str))=false:=by decide) (hs:starEach [Expr.Name x pos] X.env=(false,eval (.Name x pos) X.env)::starEach [] X.env:=by rfl):PA X [.Name x pos] (gm (eR i) ip):=ax (pv i hN hv hd hcd) a8 hs
theorem pX{a b:aU}{ta tb:TE}(ha:PE X a ta)(hb:PE X b tb)(hs:CF b:=by exactλ_ _=>rfl):PE X (.Subscript a b pos) (oN (yT X.K) ta tb):=Gs Ev ha hb hs
end
end A
namespace mY
open PySem L2 PyProof.Rows A
open Mr
def lV(x:Str):Str:=x ++ ".<locals>." ++ "<lambda>"
def top(i:Nat):bt:=PySem.Challenge.pw_arrowfind_k12_reach_told.main.body.getD i (.Pass ⟨0,0,0,0⟩)
structure Txt(mg:Str->Option ag):Prop where
 dZ:mg "len" = ac
 jF:mg "range" = ac
 rW:mg "max" = ac
 y4:mg "min" = ac
 kj:mg "tuple" = ac
 gB:mg "list" = ac
 kh:mg "isinstance" = ac
 QC:mg "all" = ac
 xB:mg "any" = ac
 Ac:mg "bool" = ac
 wu:mg "str" = ac
 HZ:mg "int" = ac
 P9:mg "zip" = ac
 Qa:mg "enumerate" = ac
 Qb:mg "sorted" = ac
 QD:mg "reversed" = ac
 QE:mg "set" = ac
section
variable{P:bh}{w:a6}{K:aD}{mg:Str->Option ag}{base:aJ}[Tb:bG]
abbrev zk:bt:=top 24
theorem Km:cu ["_law_script","_law_k","_law_spare"] ["_law_script","_law_k"] (bB zk):=dw
theorem Jz{f:af}{fd:bF}(F:ce K "_law_cell" "_law_cell" zk f fd)(T:Txt mg):bE P w K mg base aL 1 f fd ["_law_script","_law_k"] (au eY):=
 gA (Mo []) F Km (λcdv A outer s H E hr nd hu bA=>by
  exact⟨_,(aZ (eh (cK rP (pv 1) (dH jj rfl T.dZ jB (bg 0)) (du _))
 (be (cj (pX (pv 0) (pv 1))))
 eo)
 (aZ (pS 2 (aS cL aH (aS fB (aS fB aH (pv 1)) (pv 1))))
 (aZ (eh (cK x6 (dH jj rfl T.dZ jB (bg 0)) aH (du _))
 (be (pS 2 (aS cL (pv 2) (aS fB (aS dD (pX (pv 0) aH) aH) (aS cL (aS cL (aS fB (pv 1) (pv 1)) (aS fB aH (pv 1))) aH)))))
 eo)
 (be (cj (pv 2)))))),
  (aY (ee (cH (AE.p (av sE (ap 1) (AE.p (dO dZ (bf (ap 0) bC))))))
 (d3 (AE.w (av bX (ap 0) (ap 1))))
 ej)
 (aY (cn 2 rfl (av cM (AE.p aI) (AE.p (av fm (AE.p (av fm (AE.p aI) (ap 1))) (ap 1)))))
 (aY (ee (cH (AE.p (av x9 (AE.p (dO dZ (bf (ap 0) bC))) (AE.p aI))))
 (cn 2 rfl (av cM (ap 2) (AE.p (av fm (AE.p (av dF (AE.p (av bX (ap 0) (AE.p aI))) (AE.p aI))) (AE.p (av cM (AE.p (av cM (AE.p (av fm (ap 1) (ap 1))) (AE.p (av fm (AE.p aI) (ap 1))))) (AE.p aI)))))))
 ej)
 (d3 (a7 2)))))⟩)
abbrev wH:bt:=top 25
theorem Mj:cu ["_law_cell_here","_law_many","_law_letters","_law_long","_law_size","_law_stem","_law_at"] ["_law_cell_here","_law_many"] (bB wH):=dw
theorem Nx{f:af}{fd:bF}(F:ce K "_law_words" "_law_words" wH f fd)(T:Txt mg):bE P w K mg base aL 1 f fd ["_law_cell_here","_law_many"] (cO sB):=
 okN (Mo []) F Mj (λcdv A outer s H E hr nd hu bA=>by
  exact⟨_,(aZ (jf (i:=2) nd rfl (fk rfl) wA)
 (aZ (eh (cK rP (aS dD (pv 0) aH) aH (du _))
 (aZ (jf (i:=3) nd rfl (fk rfl) (iL HB HC HD Dm wA (ax (fe (N':=["_law_letters","_law_cell_here","_law_k"]) (ρ:=[aa 2,aa 0,ac]) rfl (dI.of rfl (by kernel_rfl)) (js rfl T.jF (ax aH a8)) (λ_ _ _ _ _=>(cU (i:=2) (by show(["_law_letters","_law_cell_here","_law_k"]:List Str).Nodup;decide +kernel) rfl (cz rfl))) (gY rfl) (λ_ _ _ _ _=>lb) (λ_ _ _ _ _=>(pX (pv 0) (aS dD (aS iP (pv 1) (aS cL aH (aS fB aH (pv 2)))) aH)))) a8)))
 (aZ (eh (cK (gP bA) (aS dD (pv 0) aH) aH (du _))
 (be (cj (fe (N':=["_law_long","_law_k"]) (ρ:=[aa 3,ac]) rfl (dI.of rfl (by kernel_rfl)) (js rfl T.jF (bg 1)) (λ_ _ _ _ _=>(cU (i:=1) ji rfl (cz rfl))) (gY rfl) (λ_ _ _ _ _=>lb) (λ_ _ _ _ _=>(pR pI (pv 0) qF (nU (aS cL (pv 1) aH)))))))
 eo)
 (be (cj (fe (N':=["_law_long","_law_k"]) (ρ:=[aa 3,ac]) rfl (dI.of rfl (by kernel_rfl)) (js rfl T.jF (bg 1)) (λ_ _ _ _ _=>(cU (i:=1) ji rfl (cz rfl))) (gY rfl) (λ_ _ _ _ _=>lb) (λ_ _ _ _ _=>(pR pI (pv 0) (nU (aS t8 aH (pv 1))) qF)))))))
 eo)
 (aZ (pS 4 (aS dD (aS iP (pv 0) aH) aH))
 (aZ (jf (i:=5) nd rfl (fk rfl) (iL HB HC HD Dm wA (ax (fe (N':=["_law_letters","_law_cell_here","_law_k"]) (ρ:=[aa 2,aa 0,ac]) rfl (dI.of rfl (by kernel_rfl)) (js rfl T.jF (bg 4)) (λ_ _ _ _ _=>(cU (i:=2) (by show(["_law_letters","_law_cell_here","_law_k"]:List Str).Nodup;decide +kernel) rfl (cz rfl))) (gY rfl) (λ_ _ _ _ _=>lb) (λ_ _ _ _ _=>(pX (pv 0) (aS dD (aS cL (aS cL (aS iP (pv 1) aH) (aS fB aH (pv 2))) (aS fB (pv 2) (pv 2))) aH)))) a8)))
 (aZ (jf (i:=6) nd rfl (fk rfl) (aS dD (aS iP (pv 0) aH) (aS cL (pv 4) aH)))
 (be (cj (fe (N':=["_law_stem","_law_letters","_law_at","_law_cell_here","_law_k"]) (ρ:=[aa 5,aa 2,aa 6,aa 0,ac]) rfl (dI.of rfl (by kernel_rfl)) (js rfl T.jF (bg 1)) (λ_ _ _ _ _=>(cU (i:=4) (by show(["_law_stem","_law_letters","_law_at","_law_cell_here","_law_k"]:List Str).Nodup;decide +kernel) rfl (cz rfl))) (gY rfl) (λ_ _ _ _ _=>lb) (λ_ _ _ _ _=>(aS cL (aS cL (pR pI (pv 0) qF (nU (pv 2))) (pX (pv 1) (aS dD (aS cL (aS iP (pv 3) aH) (aS fB aH (pv 4))) aH))) (pR pI (pv 0) (nU (pv 2)) qF))))))))))),
  (aY (cn 2 rfl yy)
 (aY (ee (cH (AE.p (av sE (AE.p (av dF (ap 0) (AE.p aI))) (AE.p aI))))
 (aY (cn 3 rfl (Ek (AE.p yy) (AE.np (eE (K:=K) (tg:=(.n 2)) (gK.c (jx (AE.p aI))) (by decide) lD (av bX (ap 0) (AE.p (av dF (AE.p (av iH (ap 1) (AE.p (av cM (AE.p aI) (AE.p (av fm (AE.p aI) (ap 2))))))) (AE.p aI))))))))
 (aY (ee (cH (AE.p (av gO (AE.p (av dF (ap 0) (AE.p aI))) (AE.p aI))))
 (jH (AE.w (eE (K:=K) (tg:=(.n 1)) (gK.c (jx (ap 1))) (by decide) lD (oV pN (ap 0) qW (nV (AE.p (av cM (ap 1) (AE.p aI))))))))
 ej)
 (jH (AE.w (eE (K:=K) (tg:=(.n 1)) (gK.c (jx (ap 1))) (by decide) lD (oV pN (ap 0) (nV (AE.p (av ud (AE.p aI) (ap 1)))) qW))))))
 ej)
 (aY (cn 4 rfl (av dF (AE.p (av iH (ap 0) (AE.p aI))) (AE.p aI)))
 (aY (cn 5 rfl (Ek (AE.p yy) (AE.np (eE (K:=K) (tg:=(.n 2)) (gK.c (jx (ap 4))) (by decide) lD (av bX (ap 0) (AE.p (av dF (AE.p (av cM (AE.p (av cM (AE.p (av iH (ap 1) (AE.p aI))) (AE.p (av fm (AE.p aI) (ap 2))))) (AE.p (av fm (ap 2) (ap 2))))) (AE.p aI))))))))
 (aY (cn 6 rfl (av dF (AE.p (av iH (ap 0) (AE.p aI))) (AE.p (av cM (ap 4) (AE.p aI)))))
 (jH (AE.w (eE (K:=K) (tg:=(.n 4)) (gK.c (jx (ap 1))) (by decide) lD (av cM (AE.p (av cM (AE.p (oV pN (ap 0) qW (nV (ap 2)))) (AE.p (av bX (ap 1) (AE.p (av dF (AE.p (av cM (AE.p (av iH (ap 3) (AE.p aI))) (AE.p (av fm (AE.p aI) (ap 4))))) (AE.p aI))))))) (AE.p (oV pN (ap 0) (nV (ap 2)) qW)))))))))))⟩)
abbrev yd:bt:=top 26
theorem Lg:cu ["_law_cell_here","_law_many","_law_left","_law_ranks_here","_law_draw","_law_k"] ["_law_cell_here","_law_many"] (bB yd):=dw
theorem Kv{f:af}{fd:bF}(F:ce K "_law_ranks" "_law_ranks" yd f fd)(T:Txt mg):bE P w K mg base aL 1 f fd ["_law_cell_here","_law_many"] (cO rD):=
 okN (Mo [2,3]) F Lg (λcdv A outer s H E hr nd hu bA=>by
  exact⟨_,(aZ (DM (i:=2) (N':=["_law_k"]) (ρ:=[ac]) rfl nd rfl (cz rfl) (dI.of rfl (by kernel_rfl)) (js rfl T.jF (bg 1)) (λ_ _ _ _ _=>(cU (i:=0) nk rfl (cz rfl))) (gY rfl) (λ_ _ _ _ _=>lb) (λ_ _ _ _ _=>(pv 0)))
 (aZ (pS 3 (fv a8))
 (aZ (pS 4 (aS dD (pv 0) aH))
 (aZ (gv fS rfl (js rfl T.jF (bg 1)) (pG 5)
 (aZ (pS 4 (aS dD (aS cL (aS cL (aS fB (pv 4) aH) (aS fB aH (pv 5))) aH) aH))
 (be (gt (iL h6 oC oD nZ (pv 3) (ax (iL h6 tu tw uM (pv 2) (ax (aS dD (aS iP (pv 4) aH) (dH jj rfl T.dZ jB (bg 2))) a8)) a8))))))
 (be (cj (pv 3))))))),
  (aY (lB 2 rfl (eE (K:=K) (tg:=(.n 0)) (gK.c (jx (ap 1))) (by decide) lD (bJ 0)))
 (aY (lB 3 rfl (fu bC))
 (aY (cn 4 rfl (av dF (ap 0) (AE.p aI)))
 (aY (gz (K:=K) (tg:=(.n 5)) (jx (ap 1)) (by decide)
 (aY (cn 4 rfl (av dF (AE.p (av cM (AE.p (av cM (AE.p (av fm (ap 4) (AE.p aI))) (AE.p (av fm (AE.p aI) (ap 5))))) (AE.p aI))) (AE.p aI)))
 (Pd 3 2 (by decide) rfl rfl (AE.p (av dF (AE.p (av iH (ap 4) (AE.p aI))) (AE.p (dO dZ (bf (ap 2) bC))))))))
 (xl 3 rfl)))))⟩)
abbrev w5:bt:=top 27
theorem J7:cu ["_law_script","_law_most","_law_many","_law_names","_law_ranks_here","_law_thick","_law_arrows","_law_j","_law_k","_law_cell_here"] ["_law_script","_law_most"] (bB w5):=dw
theorem J3{f:af}{fd:bF}(F:ce K "_law_net" "_law_net" w5 f fd)(T:Txt mg)(jb:bO P w K mg base aL 1 "_law_cell" ["_law_script","_law_k"] (au eY))(Ad:bO P w K mg base aL 1 "_law_words" ["_law_cell_here","_law_many"] (cO sB))(Ae:bO P w K mg base aL 1 "_law_ranks" ["_law_cell_here","_law_many"] (cO rD)):bE P w K mg base aL 2 f fd ["_law_script","_law_most"] (au r9):=
 gA (Mo [6]) F J7 (λcdv A outer s H E hr nd hu bA=>by
  exact⟨_,(aZ (pS 2 (aS cL aH (aS dD (pC jb hr (ax (pv 0) (ax aH a8))) (pv 1))))
 (aZ (pS 3 (pC Ad hr (ax (pC jb hr (ax (pv 0) (ax aH a8))) (bg 2))))
 (aZ (pS 4 (pC Ae hr (ax (pC jb hr (ax (pv 0) (ax aH a8))) (bg 2))))
 (aZ (pS 5 (Gs Ev (fv (ax aH (ax aH (ax aH (ax aH (ax aH (ax aH a8))))))) (aS dD (pC jb hr (ax (pv 0) (ax aH a8))) aH) (λ_ _=>rfl)))
 (aZ (pS 6 (fv a8))
 (aZ (gv fS rfl (js rfl T.jF (bg 2)) (pG 7)
 (be (gv fS rfl (js rfl T.jF (bg 2)) (pG 8)
 (aZ (pS 9 (pC jb hr (ax (pv 0) (ax (aS cL (aS cL aH (aS iP (aS fB (dH (Fj rfl) rfl T.rW boot_max (ax (pv 7) (bg 8))) (aS t8 (dH (Fj rfl) rfl T.rW boot_max (ax (pv 7) (bg 8))) aH)) aH)) (dH (Mw rfl) rfl T.y4 boot_min (ax (pv 7) (bg 8)))) a8))))
 (be (eh (PW.pt (pw_and (cK rP (pX (pv 4) (pv 7)) (pX (pv 4) (pv 8)) (du _)) (pw_and1 (cK rP (aS dD (aS iP (aS dD (aS fB (pv 9) aH) aH) aH) aH) (pv 5) (du _)))))
 (be (gt (iL h6 oC oD nZ (pv 6) (ax (iG (ax (pX (pv 3) (pv 7)) (ax (pX (pv 3) (pv 8)) a8))) a8))))
 eo))))))
 (be (cj (iG (ax (kJ ug rfl T.kj tD (bg 3)) (ax (kJ ug rfl T.kj tD (bg 6)) a8))))))))))),
  (aY (cn 2 rfl (av cM (AE.p aI) (AE.p (av dF (AE.p (dh (aM (a7 0) (aM (AE.w aI) bN)))) (ap 1)))))
 (aY (cn 3 rfl (AE.nv (iA (aM (AE.w (dh (aM (a7 0) (aM (AE.w aI) bN)))) (aM (a7 2) bN)))))
 (aY (cn 4 rfl (AE.nv (iA (aM (AE.w (dh (aM (a7 0) (aM (AE.w aI) bN)))) (aM (a7 2) bN)))))
 (aY (cn 5 rfl (av bX (AE.np (fu (bf aI (bf aI (bf aI (bf aI (bf aI (bf aI bC)))))))) (AE.p (av dF (AE.p (dh (aM (a7 0) (aM (AE.w aI) bN)))) (AE.p aI)))))
 (aY (lB 6 rfl (fu bC))
 (aY (gz (K:=K) (tg:=(.n 7)) (jx (ap 2)) (by decide)
 (gz (K:=K) (tg:=(.n 8)) (jx (ap 2)) (by decide)
 (aY (cn 9 rfl (dh (aM (a7 0) (aM (AE.w (av cM (AE.p (av cM (AE.p aI) (AE.p (av iH (AE.p (av fm (AE.p (dO rW (bf (ap 7) (bf (ap 8) bC)))) (AE.p (av ud (AE.p (dO rW (bf (ap 7) (bf (ap 8) bC)))) (AE.p aI))))) (AE.p aI))))) (AE.p (dO y4 (bf (ap 7) (bf (ap 8) bC)))))) bN))))
 (ee (rh (cH (AE.p (av sE (AE.p (av bX (ap 4) (ap 7))) (AE.p (av bX (ap 4) (ap 8)))))) (cH (AE.p (av sE (AE.p (av dF (AE.p (av iH (AE.p (av dF (AE.p (av fm (ap 9) (AE.p aI))) (AE.p aI))) (AE.p aI))) (AE.p aI))) (ap 5)))))
 (ph 6 rfl (jZ (bf (av bX (ap 3) (ap 7)) (bf (av bX (ap 3) (ap 8)) bC))))
 ej))))
 (d3 (AE.w (jZ (bf (dO kj (bf (ap 3) bC)) (bf (dO kj (bf (ap 6) bC)) bC)))))))))))⟩)
abbrev xr:bt:=top 28
theorem JZ:cu ["_law_script","_law_most","_law_cell_here","_law_more","_law_first"] ["_law_script","_law_most"] (bB xr):=dw
theorem Ni{f:af}{fd:bF}(F:ce K "_law_two" "_law_two" xr f fd)(T:Txt mg)(jb:bO P w K mg base aL 1 "_law_cell" ["_law_script","_law_k"] (au eY))(Af:bO P w K mg base aL 2 "_law_net" ["_law_script","_law_most"] (au r9)):bE P w K mg base aL 3 f fd ["_law_script","_law_most"] (au rK):=
 gA (Mo []) F JZ (λcdv A outer s H E hr nd hu bA=>by
  exact⟨_,(aZ (pS 2 (pC jb hr (ax (pv 0) (ax aH a8))))
 (aZ (pS 3 (aS dD (aS iP (pv 2) (aS t8 (pv 1) aH)) (aS Pt aH aH)))
 (aZ (pS 4 (aS cL (aS cL aH (aS dD (pv 2) (aS t8 (pv 1) aH))) (aS fB (pv 1) (pv 3))))
 (be (cj (pC Af hr (ax (aS cL (fv (bg 4)) (pR pI (pv 0) (nU aH) qF)) (bg 1)))))))),
  (aY (cn 2 rfl (dh (aM (a7 0) (aM (AE.w aI) bN))))
 (aY (cn 3 rfl (av dF (AE.p (av iH (ap 2) (AE.p (av ud (ap 1) (AE.p aI))))) (AE.p (av OA (AE.p aI) (AE.p aI)))))
 (aY (cn 4 rfl (av cM (AE.p (av cM (AE.p aI) (AE.p (av dF (ap 2) (AE.p (av ud (ap 1) (AE.p aI))))))) (AE.p (av fm (ap 1) (ap 3)))))
 (d3 (AE.w (dh (aM (AE.w (av cM (AE.np (fu (bf (bJ 4) bC))) (AE.p (oV pN (ap 0) (nV (AE.p aI)) qW)))) (aM (a7 1) bN))))))))⟩)
abbrev yX:bt:=top 30
theorem Js:cu ["_law_script","_law_many","_law_found","_law_k","_law_cell_here"] ["_law_script","_law_many"] (bB yX):=dw
theorem Og{f:af}{fd:bF}(F:ce K "_law_questions" "_law_questions" yX f fd)(T:Txt mg)(jb:bO P w K mg base aL 1 "_law_cell" ["_law_script","_law_k"] (au eY)):bE P w K mg base aL 2 f fd ["_law_script","_law_many"] (cO sJ):=
 okN (Mo [2]) F Js (λcdv A outer s H E hr nd hu bA=>by
  exact⟨_,(aZ (pS 2 (fv (ax (aS dD (pC jb hr (ax (pv 0) (ax aH a8))) aH) a8)))
 (aZ (gv fS rfl (LV rfl T.Qa (pR pI (pv 0) (nU aH) (nU aH))) (jK rfl (d5 (pG 3) (d5 (pG 4) jt)))
 (be (eh (cK rP (aS cL (pv 3) aH) (pv 1) (du _))
 (be (gt (iL h6 oC oD nZ (pv 2) (ax (aS dD (pv 4) aH) a8))))
 (be (xq (aS dD (aS cL (aS fB (pX (pv 2) (aS dD (pv 3) (pv 1))) aH) (pv 4)) aH) (JA (pv 2) (aS dD (pv 3) (pv 1)) set_list))))))
 (be (cj (pv 2))))),
  (aY (lB 2 rfl (fu (bf (av dF (AE.p (dh (aM (a7 0) (aM (AE.w aI) bN)))) (AE.p aI)) bC)))
 (aY (gz (K:=K) (tg:=(.t [3,4])) (MZ (oV pN (ap 0) (nV (AE.p aI)) (nV (AE.p aI)))) (by decide)
 (ee (cH (AE.p (av sE (AE.p (av cM (ap 3) (AE.p aI))) (ap 1))))
 (ph 2 rfl (av dF (ap 4) (AE.p aI)))
 (JY 2 rfl (av dF (AE.p (av cM (AE.p (av fm (AE.p (av bX (ap 2) (AE.p (av dF (ap 3) (ap 1))))) (AE.p aI))) (ap 4))) (AE.p aI)) (AE.p (av dF (ap 3) (ap 1))))))
 (xl 2 rfl)))⟩)
abbrev yE:bt:=top 8
theorem KA:cu ["names","asked","name"] ["names","asked"] (bB yE):=dw
theorem Kz{f:af}{fd:bF}(F:ce K "refuse_strangers" "refuse_strangers" yE f fd)(T:Txt mg):bE P w K mg base aL 1 f fd ["names","asked"] (au iY):=
 gA (Mo []) F KA (λcdv A outer s H E hr nd hu bA=>by
  exact⟨_,(be (gv fS rfl (eu (pv 1)) (pG 2)
 (be (eh (cK (oI bA) (pv 2) (pv 0) rfl)
 (be EM)
 eo)))),
  (gz (K:=K) (tg:=(.n 2)) (me (bJ 1)) (by decide)
 (ee (cH (AE.p (av pf (ap 2) (ap 0))))
 EG
 ej))⟩)
abbrev yI:bt:=top 9
theorem OC:cu ["asked","stood","name"] ["asked"] (bB yI):=dw
theorem Jw{f:af}{fd:bF}(F:ce K "refuse_repeats" "refuse_repeats" yI f fd)(T:Txt mg):bE P w K mg base aL 1 f fd ["asked"] (au rY):=
 gA (Mo [1]) F OC (λcdv A outer s H E hr nd hu bA=>by
  exact⟨_,(aZ (pS 1 Mb)
 (be (gv fS rfl (eu (pv 0)) (pG 2)
 (aZ (eh (um (EJ hu (pv 2) (pv 1)) rfl)
 (be EM)
 eo)
 (be (vd hu (pv 1) (pv 2) eJ rfl)))))),
  (aY (wT 1 rfl MA)
 (gz (K:=K) (tg:=(.n 2)) (me (bJ 0)) (by decide)
 (aY (ee (iQ (AE.p (CQ 1 (bJ 2))))
 EG
 ej)
 (uQ 1 rfl (bJ 2) eI))))⟩)
abbrev xi:bt:=top 10
theorem O2:cu ["names","asked"] ["names","asked"] (bB xi):=dw
theorem JG{f:af}{fd:bF}(F:ce K "refuse_wrong_asks" "refuse_wrong_asks" xi f fd)(T:Txt mg)(jG:bO P w K mg base aL 1 "refuse_strangers" ["names","asked"] (au iY))(Ag:bO P w K mg base aL 1 "refuse_repeats" ["asked"] (au rY)):bE P w K mg base aL 2 f fd ["names","asked"] (au m4):=
 gA (Mo []) F O2 (λcdv A outer s H E hr nd hu bA=>by
  exact⟨_,(aZ (gt (pC jG hr (ax (pv 0) (bg 1))))
 (be (gt (pC Ag hr (bg 1))))),
  (aY (oj (AE.p (dh (aM (a7 0) (aM (a7 1) bN)))))
 (oj (AE.p (dh (aM (a7 1) bN)))))⟩)
abbrev yB:bt:=top 11
theorem JC:cu ["names","steps","name","found","waiting","here","start","end"] ["names","steps","name"] (bB yB):=dw
theorem LD{f:af}{fd:bF}(F:ce K "names_along" "names_along" yB f fd)(T:Txt mg):bE P w K mg base aL 1 f fd ["names","steps","name"] (cO q9):=
 okN (Mo [3,4]) F JC (λcdv A outer s H E hr nd hu bA=>by
  exact⟨_,(aZ (jf (i:=3) nd rfl (fk rfl) (Zp.JL (pv 2) eJ))
 (aZ (pS 4 (fv (bg 2)))
 (aZ (D6 fS (m6 (pv 4) (by intro _;rfl))
 (aZ (pS 5 (wI h6 tu tw M2 (pv 4)))
 (be (gv fS rfl (eu (pv 1)) (jK rfl (d5 (pG 6) (d5 (pG 7) jt)))
 (be (eh (PW.pt (pw_and (cK (gP bA) (pv 6) (pv 5) (du _)) (pw_and1 (um (By hu (pv 7) (pv 3)) rfl))))
 (aZ (vd hu (pv 3) (pv 7) eJ rfl)
 (be (gt (iL h6 oC oD nZ (pv 4) (bg 7)))))
 eo))))))
 (be (cj (fe (N':=["found","each"]) (ρ:=[aa 3,ac]) rfl (dI.of rfl (by kernel_rfl)) (eu (pv 0)) (λ_ _ _ _ _=>(cU (i:=1) ji rfl (cz rfl))) (gY rfl) (λ_ _ _ _ _=>(iS (um (EJ hu (pv 1) (pv 0)) rfl))) (λ_ _ _ _ _=>(pv 1)))))))),
  (aY (wT 3 rfl (Zp.Kk (bJ 2) eI))
 (aY (lB 4 rfl (fu (bf (bJ 2) bC)))
 (aY (B1 20 (mz (ap 4))
 (aY (J9 5 4 rfl rfl)
 (gz (K:=K) (tg:=(.t [6,7])) (me (bJ 1)) (by decide)
 (ee (rh (cH (AE.p (av gO (ap 6) (ap 5)))) (iQ (AE.p (F2 3 (bJ 7)))))
 (aY (uQ 3 rfl (bJ 7) eI)
 (ph 4 rfl (bJ 7)))
 ej))))
 (jH (AE.w (eE (K:=K) (tg:=(.n 1)) (gT (ap 0)) (by decide) (iQ (AE.p (CQ 0 (bJ 1)))) (bJ 1)))))))⟩)
abbrev wG:bt:=top 7
theorem Ll:cu ["net","name"] ["net","name"] (bB wG):=dw
theorem PH{f:af}{fd:bF}(F:ce K "names_below" "names_below" wG f fd)(T:Txt mg)(jG:bO P w K mg base aL 1 "refuse_strangers" ["names","asked"] (au iY))(Ah:bO P w K mg base aL 1 "names_along" ["names","steps","name"] (cO q9)):bE P w K mg base aL 2 f fd ["net","name"] (cO qK):=
 okN (Mo []) F Ll (λcdv A outer s H E hr nd hu bA=>by
  exact⟨_,(aZ (gt (pC jG hr (ax (pX (pv 0) aH) (ax (fv (bg 1)) a8))))
 (be (cj (pC Ah hr (ax (pX (pv 0) aH) (ax (pX (pv 0) aH) (bg 1))))))),
  (aY (oj (AE.p (dh (aM (AE.w (av bX (ap 0) (AE.p aI))) (aM (AW.nv (AE.w (fu (bf (bJ 1) bC)))) bN)))))
 (jH (AE.w (iA (aM (AE.w (av bX (ap 0) (AE.p aI))) (aM (AE.w (av bX (ap 0) (AE.p aI))) (aM (a7 1) bN)))))))⟩)
abbrev xW:bt:=top 13
theorem JM:cu ["net","name","held"] ["net","name","held"] (bB xW):=dw
theorem MR{f:af}{fd:bF}(F:ce K "has_held_below" "has_held_below" xW f fd)(T:Txt mg)(Ai:bO P w K mg base aL 2 "names_below" ["net","name"] (cO qK)):bE P w K mg base aL 3 f fd ["net","name","held"] (au pT):=
 gA (Mo []) F JM (λcdv A outer s H E hr nd hu bA=>by
  exact⟨_,(be (cj (dH (MX rfl) rfl T.xB boot_any (ax (fe (N':=["held","below"]) (ρ:=[aa 2,ac]) rfl (dI.of rfl (by kernel_rfl)) (eu (pC Ai hr (ax (pv 0) (bg 1)))) (λ_ _ _ _ _=>(cU (i:=1) ji rfl (cz rfl))) (gY rfl) (λ_ _ _ _ _=>lb) (λ_ _ _ _ _=>(sH (uk bA) (pv 1) (pv 0) rfl))) a8)))),
  (d3 (AE.w (dO xB (bf (AE.np (eE (K:=K) (tg:=(.n 1)) (gT (AE.np (iA (aM (a7 0) (aM (a7 1) bN))))) (by decide) lD (av tZ (ap 1) (ap 0)))) bC))))⟩)
abbrev yK:bt:=top 6
theorem Jt:cu ["net","name"] ["net","name"] (bB yK):=dw
theorem MK{f:af}{fd:bF}(F:ce K "heirs_of" "heirs_of" yK f fd)(T:Txt mg)(jG:bO P w K mg base aL 1 "refuse_strangers" ["names","asked"] (au iY)):bE P w K mg base aL 2 f fd ["net","name"] (au sr):=
 gA (Mo []) F Jt (λcdv A outer s H E hr nd hu bA=>by
  exact⟨_,(aZ (gt (pC jG hr (ax (pX (pv 0) aH) (ax (fv (bg 1)) a8))))
 (be (cj (kJ ug rfl T.kj tD (ax (fe (N':=["name","tail","head"]) (ρ:=[aa 1,ac,ac]) rfl (dI.of rfl (by kernel_rfl)) (eu (pX (pv 0) aH)) (λ_ _ _ _ _=>(jK rfl (d5 (cU (i:=1) (by show(["name","tail","head"]:List Str).Nodup;decide +kernel) rfl (cz rfl)) (d5 (cU (i:=2) (by show(["name","tail","head"]:List Str).Nodup;decide +kernel) rfl (cz rfl)) jt)))) (nJ (ia rfl (ia rfl nK ir) (nB ir))) (λ_ _ _ _ _=>(iS (cK (gP bA) (pv 1) (pv 0) (du _)))) (λ_ _ _ _ _=>(pv 2))) a8))))),
  (aY (oj (AE.p (dh (aM (AE.w (av bX (ap 0) (AE.p aI))) (aM (AW.nv (AE.w (fu (bf (bJ 1) bC)))) bN)))))
 (d3 (AE.w (dO kj (bf (AE.np (eE (K:=K) (tg:=(.t [1,2])) (gT (AE.p (av bX (ap 0) (AE.p aI)))) (by decide) (cH (AE.p (av gO (ap 1) (ap 0)))) (bJ 2))) bC)))))⟩)
abbrev xK:bt:=top 20
theorem Nj:cu ["net","name"] ["net","name"] (bB xK):=dw
theorem Jc{f:af}{fd:bF}(F:ce K "heir_spots" "heir_spots" xK f fd)(T:Txt mg)(Aj:bO P w K mg base aL 2 "heirs_of" ["net","name"] (au sr)):bE P w K mg base aL 3 f fd ["net","name"] (cO lc):=
 okN (Mo []) F Nj (λcdv A outer s H E hr nd hu bA=>by
  exact⟨_,(be (cj (fe (N':=["heir"]) (ρ:=[ac]) rfl (dI.of rfl (by kernel_rfl)) (eu (pC Aj hr (ax (pv 0) (bg 1)))) (λ_ _ _ _ _=>(cU (i:=0) nk rfl (cz rfl))) (gY rfl) (λ_ _ _ _ _=>lb) (λ_ _ _ _ _=>(iG (ax (pv 0) (ax eJ a8))))))),
  (jH (AE.w (eE (K:=K) (tg:=(.n 0)) (gT (AE.p (dh (aM (a7 0) (aM (a7 1) bN))))) (by decide) lD (jZ (bf (bJ 0) (bf eI bC))))))⟩)
abbrev yF:bt:=top 5
theorem MO:cu ["net","name"] ["net","name"] (bB yF):=dw
theorem IQ{f:af}{fd:bF}(F:ce K "elders_of" "elders_of" yF f fd)(T:Txt mg)(jG:bO P w K mg base aL 1 "refuse_strangers" ["names","asked"] (au iY)):bE P w K mg base aL 2 f fd ["net","name"] (au rS):=
 gA (Mo []) F MO (λcdv A outer s H E hr nd hu bA=>by
  exact⟨_,(aZ (gt (pC jG hr (ax (pX (pv 0) aH) (ax (fv (bg 1)) a8))))
 (be (cj (kJ ug rfl T.kj tD (ax (fe (N':=["name","tail","head"]) (ρ:=[aa 1,ac,ac]) rfl (dI.of rfl (by kernel_rfl)) (eu (pX (pv 0) aH)) (λ_ _ _ _ _=>(jK rfl (d5 (cU (i:=1) (by show(["name","tail","head"]:List Str).Nodup;decide +kernel) rfl (cz rfl)) (d5 (cU (i:=2) (by show(["name","tail","head"]:List Str).Nodup;decide +kernel) rfl (cz rfl)) jt)))) (nJ (ia rfl (ia rfl nK ir) (nB ir))) (λ_ _ _ _ _=>(iS (cK (gP bA) (pv 2) (pv 0) (du _)))) (λ_ _ _ _ _=>(pv 1))) a8))))),
  (aY (oj (AE.p (dh (aM (AE.w (av bX (ap 0) (AE.p aI))) (aM (AW.nv (AE.w (fu (bf (bJ 1) bC)))) bN)))))
 (d3 (AE.w (dO kj (bf (AE.np (eE (K:=K) (tg:=(.t [1,2])) (gT (AE.p (av bX (ap 0) (AE.p aI)))) (by decide) (cH (AE.p (av gO (ap 2) (ap 0)))) (bJ 1))) bC)))))⟩)
abbrev xY:bt:=top 21
theorem N8:cu ["net","name"] ["net","name"] (bB xY):=dw
theorem J5{f:af}{fd:bF}(F:ce K "elder_spots" "elder_spots" xY f fd)(T:Txt mg)(Ak:bO P w K mg base aL 2 "elders_of" ["net","name"] (au rS)):bE P w K mg base aL 3 f fd ["net","name"] (cO lF):=
 okN (Mo []) F N8 (λcdv A outer s H E hr nd hu bA=>by
  exact⟨_,(be (cj (fe (N':=["elder"]) (ρ:=[ac]) rfl (dI.of rfl (by kernel_rfl)) (eu (pC Ak hr (ax (pv 0) (bg 1)))) (λ_ _ _ _ _=>(cU (i:=0) nk rfl (cz rfl))) (gY rfl) (λ_ _ _ _ _=>lb) (λ_ _ _ _ _=>(iG (ax (pv 0) (ax eJ a8))))))),
  (jH (AE.w (eE (K:=K) (tg:=(.n 0)) (gT (AE.p (dh (aM (a7 0) (aM (a7 1) bN))))) (by decide) lD (jZ (bf (bJ 0) (bf eI bC))))))⟩)
abbrev xf:bt:=top 19
theorem Ko:cu ["net","spot","held","name","came_down","passes","goes_up","downs","ups"] ["net","spot","held"] (bB xf):=dw
theorem JN{f:af}{fd:bF}(F:ce K "spots_from" "spots_from" xf f fd)(T:Txt mg)(Al:bO P w K mg base aL 3 "has_held_below" ["net","name","held"] (au pT))(qy:bO P w K mg base aL 3 "heir_spots" ["net","name"] (cO lc))(qz:bO P w K mg base aL 3 "elder_spots" ["net","name"] (cO lF)):bE P w K mg base aL 4 f fd ["net","spot","held"] (au qd):=
 gA (Mo []) F Ko (λcdv A outer s H E hr nd hu bA=>by
  exact⟨_,(aZ (xq (pv 1) (jK rfl (d5 (pG 3) (d5 (pG 4) jt))))
 (aZ (pS 5 (sH (oI bA) (pv 3) (pv 2) rfl))
 (aZ (pS 6 (wP (m6 (pv 4) (by intro _;rfl)) (pC Al hr (ax (pv 0) (ax (pv 3) (bg 2)))) (pv 5)))
 (aZ (pS 7 (wP (m6 (pv 5) (by intro _;rfl)) (pC qy hr (ax (pv 0) (bg 3))) (fv a8)))
 (aZ (pS 8 (wP (m6 (pv 6) (by intro _;rfl)) (pC qz hr (ax (pv 0) (bg 3))) (fv a8)))
 (be (cj (aS cL (pv 7) (pv 8))))))))),
  (aY (Pk (K:=K) (.t [3,4]) (by decide) (bJ 1))
 (aY (cn 5 rfl (av pf (ap 3) (ap 2)))
 (aY (cn 6 rfl (yH (mz (ap 4)) (dh (aM (a7 0) (aM (a7 3) (aM (a7 2) bN)))) (bJ 5)))
 (aY (cn 7 rfl (yH (mz (ap 5)) (AE.nv (iA (aM (a7 0) (aM (a7 3) bN)))) (AE.nv (fu bC))))
 (aY (cn 8 rfl (yH (mz (ap 6)) (AE.nv (iA (aM (a7 0) (aM (a7 3) bN)))) (AE.nv (fu bC))))
 (d3 (AE.w (av cM (ap 7) (ap 8)))))))))⟩)
abbrev xA:bt:=top 18
theorem Db:cu ["starts","onward","before","waiting","spot","here"] ["starts","onward"] (bB xA):=dw
theorem NK{f:af}{fd:bF}(F:ce K "spots_walked" "spots_walked" xA f fd)(T:Txt mg):rj P w K mg base 6 f fd ["starts","onward"] 5 (tR t5) (λκ=>cO (t6 κ)):=
 NN F Db (λκ vs H Q E h=>uY h) (λcdv A outer s H vs Q κ us hr L kp h=>by
  have nd:=Db.nd;have hu:=qa hr;have bA:=hr.units;exact⟨_,(aZ (pS 2 KP)
 (aZ (pS 3 (fv a8))
 (aZ (gv fS rfl (eu (pv 0)) (pG 4)
 (aZ (vd hu (pv 2) (pv 4) MY rfl)
 (be (gt (iL h6 oC oD nZ (pv 3) (bg 4))))))
 (aZ (D6 fS (m6 (pv 3) (by intro _;rfl))
 (aZ (pS 5 (iL h6 tu tw uM (pv 3) (ax aH a8)))
 (be (gv fS rfl (eu (Nw L kp rfl (hr.mono (by decide)) (pv 1) (pv 5))) (pG 4)
 (be (eh (um (By hu (pv 4) (pv 2)) rfl)
 (aZ (vd hu (pv 2) (pv 4) (pv 5) rfl)
 (be (gt (iL h6 oC oD nZ (pv 3) (bg 4)))))
 eo))))))
 (be (cj (pv 2))))))),
  _root_.A.runN (N:=["starts","onward","before","waiting","spot","here"]) (M:=Mo [2,3]) (aY (wT 2 rfl J1)
 (aY (lB 3 rfl (fu bC))
 (aY (gz (K:=K) (tg:=(.n 4)) (me (bJ 0)) (by decide)
 (aY (uQ 2 rfl (bJ 4) Ku)
 (ph 3 rfl (bJ 4))))
 (aY (B1 40 (mz (ap 3))
 (aY (w6 5 3 rfl rfl (AE.p aI))
 (gz (K:=K) (tg:=(.n 4)) (me (PB rfl (bJ 5))) (by decide)
 (ee (iQ (AE.p (F2 2 (bJ 4))))
 (aY (uQ 2 rfl (bJ 4) (bJ 5))
 (ph 3 rfl (bJ 4)))
 ej))))
 (xl 2 rfl))))) (by decide) h⟩)
abbrev y7:bt:=top 17
theorem D4:cu ["net","one","held","starts"] ["net","one","held"] (bB y7):=dw
theorem Ke{f:af}{fd:bF}{cc TT:af}(F:oK K "spots_before" "spots_before" y7 cc f fd)(T:Txt mg)(hB:BM mg base)(hC:eD base cc TT)(hTb:(TT,lV "spots_before")∈Tb.l)(Am:x2 P w K mg base 6 "spots_walked" ["starts","onward"] 5 (tR t5) (λκ=>cO (t6 κ)))(An:bO P w K mg base aL 4 "spots_from" ["net","spot","held"] (au qd))(qy:bO P w K mg base aL 3 "heir_spots" ["net","name"] (cO lc))(qz:bO P w K mg base aL 3 "elder_spots" ["net","name"] (cO lF)):bE P w K mg base aL 10 f fd ["net","one","held"] (cO iN):=
 F.ok D4 (λvs H Q E h=>uY h) (λA outer s H vs Q E hr h=>by
  have nd:=D4.nd;have hu:=qa hr;have bA:=hr.units;have Qc:=hr.mono (show 6<=_ by decide);have H9:=hr.mono (show 4<=_ by decide);exact⟨_,(aZ (pS 3 (aS cL (pC qy hr (ax (pv 0) (bg 1))) (pC qz hr (ax (pv 0) (bg 1)))))
 (be (cj (O0 (lx := "spot") (ρ:=[0,2]) (ys:=["net","held"]) (kl:=4) (qual:=lV "spots_before") Am Qc rfl (pv 3) rfl hC hB rfl rfl rfl (λ_=>rfl) (pD.of rfl rfl rfl rfl (by decide +kernel) (LQ rfl rfl) (by kernel_rfl) rfl (by kernel_rfl)) (λpm c' ctv u=>rfl) (λA f c' s H env outer hrl he=>by subst he;have H9:=hrl.mono (show 4<=_ by decide);exact(pz An H9 rfl oX (ax (pv 1) (ax (pv 0) (bg 2))))) (Pr (dh (aM (a7 1) (aM (a7 0) (aM (a7 2) bN))))))))),
  _root_.A.runN (N:=["net","one","held","starts"]) (M:=Mo []) (aY (cn 3 rfl (av cM (AE.np (iA (aM (a7 0) (aM (a7 1) bN)))) (AE.np (iA (aM (a7 0) (aM (a7 1) bN))))))
 (jH (IK (by decide) hTb Ki (ap 3)))) (by decide) h⟩)
abbrev ya:bt:=top 22
theorem Jx:cu ["name","before"] ["name","before"] (bB ya):=dw
theorem MF{f:af}{fd:bF}(F:ce K "spots_of" "spots_of" ya f fd)(T:Txt mg):bE P w K mg base aL 1 f fd ["name","before"] (cO n9):=
 okN (Mo []) F Jx (λcdv A outer s H E hr nd hu bA=>by
  exact⟨_,(be (cj (fe (N':=["name","spot"]) (ρ:=[aa 0,ac]) rfl (dI.of rfl (by kernel_rfl)) (Ji (pv 1)) (λ_ _ _ _ _=>(cU (i:=1) ji rfl (cz rfl))) (gY rfl) (λ_ _ _ _ _=>(iS (cK (gP bA) (pX (pv 1) aH) (pv 0) (du _)))) (λ_ _ _ _ _=>(pv 1))))),
  (jH (AE.w (eE (K:=K) (tg:=(.n 1)) (gK.c (Kb 1 rfl)) (by decide) (cH (AE.p (av gO (AE.p (av bX (ap 1) (AE.p aI))) (ap 0)))) (bJ 1))))⟩)
abbrev yf:bt:=top 15
theorem Jb:cu ["net","one","other","held"] ["net","one","other","held"] (bB yf):=dw
theorem JJ{f:af}{fd:bF}(F:ce K "are_parted" "are_parted" yf f fd)(T:Txt mg)(qA:bO P w K mg base aL 2 "refuse_wrong_asks" ["names","asked"] (au m4))(qB:bO P w K mg base aL 10 "spots_before" ["net","one","held"] (cO iN))(Ao:bO P w K mg base aL 1 "spots_of" ["name","before"] (cO n9)):bE P w K mg base aL 11 f fd ["net","one","other","held"] (au sI):=
 gA (Mo []) F Jb (λcdv A outer s H E hr nd hu bA=>by
  exact⟨_,(aZ (gt (pC qA hr (ax (pX (pv 0) aH) (ax (aS cL (fv (ax (pv 1) (bg 2))) (kJ pQ rfl T.gB lQ (bg 3))) a8))))
 (be (cj (OV (pC Ao hr (ax (pv 2) (ax (OL (pC qB hr (ax (pv 0) (ax (pv 1) (bg 3))))) a8))))))),
  (aY (oj (AE.p (dh (aM (AE.w (av bX (ap 0) (AE.p aI))) (aM (AE.w (av cM (AE.np (fu (bf (bJ 1) (bf (bJ 2) bC)))) (AE.np (dO gB (bf (ap 3) bC))))) bN)))))
 (d3 (AE.w (JW (AE.np (iA (aM (a7 2) (aM (Mz (wR (aM (a7 0) (aM (a7 1) (aM (a7 3) bN))))) bN))))))))⟩)
abbrev xI:bt:=top 16
theorem DI:cu ["net","one","held","names"] ["net","one","held"] (bB xI):=dw
theorem Ng{f:af}{fd:bF}{cc TT:af}(F:oK K "reach_of" "reach_of" xI cc f fd)(T:Txt mg)(hB:BM mg base)(hC:eD base cc TT)(hTb:(TT,lV "reach_of")∈Tb.l)(qA:bO P w K mg base aL 2 "refuse_wrong_asks" ["names","asked"] (au m4))(qB:bO P w K mg base aL 10 "spots_before" ["net","one","held"] (cO iN)):bE P w K mg base aL 14 f fd ["net","one","held"] (cO nC):=
 F.ok DI (λvs H Q E h=>uY h) (λA outer s H vs Q E hr h=>by
  have nd:=DI.nd;have hu:=qa hr;have bA:=hr.units;exact⟨_,(aZ (gt (pC qA hr (ax (pX (pv 0) aH) (ax (aS cL (fv (bg 1)) (kJ pQ rfl T.gB lQ (bg 2))) a8))))
 (aZ (jf (i:=3) nd rfl (fk rfl) (pX (pv 0) aH))
 (be (cj (IY (x := "spot") (ρ:=[3]) (N':=["spot","names"]) (k:=0) (qual:=lV "reach_of") rfl rfl T.Qb (pC qB hr (ax (pv 0) (ax (pv 1) (bg 2)))) (hr.mono (by decide)) rfl hC hB rfl rfl rfl (oM.one rfl rfl rfl rfl rfl rfl rfl rfl) (λpm c' ctv u=>rfl) (λA f c' s H env hrl he=>by subst he;exact(iG (ax (Ka PySem.F.plainAttrs_tuple Hx PySem.F.type_tuple_index Ph h6 Hz PySem.F.type_list_index K8 (pv 1) (ax (pX (pv 0) aH) a8)) (ax (pX (pv 0) aH) a8))))))))),
  _root_.A.runN (N:=["net","one","held","names"]) (M:=Mo []) (aY (oj (AE.p (dh (aM (AE.w (av bX (ap 0) (AE.p aI))) (aM (AE.w (av cM (AE.np (fu (bf (bJ 1) bC))) (AE.np (dO gB (bf (ap 2) bC))))) bN)))))
 (aY (cn 3 rfl (av bX (ap 0) (AE.p aI)))
 (jH (AE.w (MW hTb (by decide) (wR (aM (a7 0) (aM (a7 1) (aM (a7 2) bN)))) (jZ (bf (Kj (ap 1) (AE.p (av bX (ap 0) (AE.p aI)))) (bf (av bX (ap 0) (AE.p aI)) bC)))))))) (by decide) h⟩)
abbrev yG:bt:=top 29
theorem GL:cu ["_law_found","_law_due","_law_one","_law_other"] ["_law_found","_law_due"] (bB yG):=dw
theorem E2{f:af}{fd:bF}(F:ce K "_law_alike" "_law_alike" yG f fd)(T:Txt mg)  (self:∀n,bE P w K mg base aL (n+1) f fd ["_law_found","_law_due"] (au (fw n))->bO P w K mg base aL (n+1) "_law_alike" ["_law_found","_law_due"] (au (fw n))):∀n,bE P w K mg base aL (n+1) f fd ["_law_found","_law_due"] (au (fw n))
 |0=>Jh
 |n+1=>F.ok GL (λvs H Q E h=>Cr h) (λcdv A outer s H vs Q E hr h=>by
  have lR:∀m:Nat,m=n->bO P w K mg base aL (m+1) "_law_alike" ["_law_found","_law_due"] (au (fw m)):=λm e=>by subst e;exact self m (E2 F T  self m)
  have lR:=λm:Nat=>(lR n rfl:bO P w K mg base aL (n+1) "_law_alike" ["_law_found","_law_due"] (au (fw n)));have nd:=GL.nd;have hu:=qa hr;have bA:=hr.units;have tK:=hr.mono (show(n+1)<=_ by omega);exact⟨_,(aZ (eh (PW.pt (pw_or (mj (dH lf rfl T.kh j9 (ax (pv 1) (ax (iT rfl T.wu boot_str) a8)))) (pw_or1 (mj (dH lf rfl T.kh j9 (ax (pv 1) (ax (iT rfl T.HZ boot_int) a8)))))))
 (aZ (eh (PW.pt (pw_or (cK (pP bA) (dH lf rfl T.kh j9 (ax (pv 0) (ax (iT rfl T.Ac boot_bool) a8))) (dH lf rfl T.kh j9 (ax (pv 1) (ax (iT rfl T.Ac boot_bool) a8))) (du _)) (pw_or1 (cK (pP bA) (dH lf rfl T.kh j9 (ax (pv 0) (ax (iT rfl T.wu boot_str) a8))) (dH lf rfl T.kh j9 (ax (pv 1) (ax (iT rfl T.wu boot_str) a8))) (du _)))))
 (be (cj eJ))
 eo)
 (be (cj (NF (dH Zp.DB rfl T.kh j9 (ax (pv 0) (ax (iG (ax (iT rfl T.HZ boot_int) (ax (iT rfl T.wu boot_str) a8))) a8))) (Lx (sH (gP bA) (pv 0) (pv 1) (du _)))))))
 eo)
 (aZ (eh (PW.pt (pw_or (cK (pP bA) (dH lf rfl T.kh j9 (ax (pv 0) (ax (iT rfl T.gB lQ) a8))) (dH lf rfl T.kh j9 (ax (pv 1) (ax (iT rfl T.gB lQ) a8))) (du _)) (pw_or1 (oh (mj (dH Zp.DB rfl T.kh j9 (ax (pv 0) (ax (iG (ax (iT rfl T.gB lQ) (ax (iT rfl T.kj tD) a8))) a8))))))))
 (be (cj eJ))
 eo)
 (aZ (eh (cK (pP bA) (dH jj rfl T.dZ jB (bg 0)) (dH jj rfl T.dZ jB (bg 1)) (du _))
 (be (cj eJ))
 eo)
 (aZ (gv fS rfl (Zp.Nz rfl T.P9 (pv 0) (pv 1)) (jK rfl (d5 (pG 2) (d5 (pG 3) jt)))
 (be (eh (oh (mj (pz (lR n) tK rfl oX (ax (pv 2) (bg 3)))))
 (be (cj eJ))
 eo)))
 (be (cj eJ)))))),
  _root_.A.BZ (N:=["_law_found","_law_due","_law_one","_law_other"]) (M:=Mo []) (aY (ee (pY (iQ (AE.p (lj (ty_str K) (ap 1)))) (iQ (AE.p (lj (ty_int K) (ap 1)))))
 (aY (ee (pY (cH (AE.p (av pU (AE.p (lj (ty_bool K) (ap 0))) (AE.p (lj (ty_bool K) (ap 1)))))) (cH (AE.p (av pU (AE.p (lj (ty_str K) (ap 0))) (AE.p (lj (ty_str K) (ap 1)))))))
 (d3 (AE.w eI))
 ej)
 (d3 (AE.w (M8 (AE.p (Zp.BH (Zp.GC (ty_int K) (ty_str K)) (by decide) (ap 0))) (av gO (ap 0) (ap 1))))))
 ej)
 (aY (ee (pY (cH (AE.p (av pU (AE.p (lj (ty_list K) (ap 0))) (AE.p (lj (ty_list K) (ap 1)))))) (m7 (iQ (AE.p (Zp.BH (Zp.GC (ty_list K) (ty_tuple K)) (by decide) (ap 0))))))
 (d3 (AE.w eI))
 ej)
 (aY (ee (cH (AE.p (av pU (AE.p (dO dZ (bf (ap 0) bC))) (AE.p (dO dZ (bf (ap 1) bC))))))
 (d3 (AE.w eI))
 ej)
 (aY (gz (K:=K) (tg:=(.t [2,3])) (Zp.Jf (bJ 0) (bJ 1)) (by decide)
 (ee (m7 (iQ (AE.p (dh (aM (a7 2) (aM (a7 3) bN))))))
 (d3 (AE.w eI))
 ej))
 (d3 (AE.w eI)))))) (by decide) h⟩)
abbrev yN:bt:=top 31
theorem LG:cu ["_law_net_here","_law_draw","_law_names","_law_one","_law_other","_law_held","_law_k"] ["_law_net_here","_law_draw"] (bB yN):=dw
theorem Kr{f:af}{fd:bF}(F:ce K "_law_asked" "_law_asked" yN f fd)(T:Txt mg):bE P w K mg base aL 1 f fd ["_law_net_here","_law_draw"] (cO oZ):=
 okN (Mo [2,5]) F LG (λcdv A outer s H E hr nd hu bA=>by
  exact⟨_,(aZ (pS 2 (kJ pQ rfl T.gB lQ (ax (pX (pv 0) aH) a8)))
 (aZ (pS 3 (iL h6 tu tw uM (pv 2) (ax (aS dD (pv 1) (dH jj rfl T.dZ jB (bg 2))) a8)))
 (aZ (pS 4 (iL h6 tu tw uM (pv 2) (ax (aS dD (aS iP (pv 1) aH) (dH jj rfl T.dZ jB (bg 2))) a8)))
 (aZ (pS 5 (fv a8))
 (aZ (gv fS rfl (js rfl T.jF (ax (dH jj rfl T.dZ jB (bg 2)) a8)) (pG 6)
 (be (eh (cK (gP bA) (aS dD (aS iP (aS dD (aS fB (pv 1) (aS cL aH (aS fB (aS fB aH (pv 6)) (pv 6)))) aH) aH) (aS cL aH (aS dD (aS iP (pv 1) aH) aH))) aH (du _))
 (be (gt (iL h6 oC oD nZ (pv 5) (ax (pX (pv 2) (pv 6)) a8))))
 eo)))
 (aZ (eh (cK (gP bA) (aS dD (aS iP (pv 1) aH) aH) aH (du _))
 (be (gt (wI h6 PySem.F.slot_list_reverse PySem.F.type_list_reverse M9 (pv 5))))
 eo)
 (be (cj (fv (ax (pv 3) (ax (pv 4) (bg 5)))))))))))),
  (aY (lB 2 rfl (dO gB (bf (AE.p (av bX (ap 0) (AE.p aI))) bC)))
 (aY (w6 3 2 rfl rfl (AE.p (av dF (ap 1) (AE.p (dO dZ (bf (ap 2) bC))))))
 (aY (w6 4 2 rfl rfl (AE.p (av dF (AE.p (av iH (ap 1) (AE.p aI))) (AE.p (dO dZ (bf (ap 2) bC))))))
 (aY (lB 5 rfl (fu bC))
 (aY (gz (K:=K) (tg:=(.n 6)) (jx (AE.p (dO dZ (bf (ap 2) bC)))) (by decide)
 (ee (cH (AE.p (av gO (AE.p (av dF (AE.p (av iH (AE.p (av dF (AE.p (av fm (ap 1) (AE.p (av cM (AE.p aI) (AE.p (av fm (AE.p (av fm (AE.p aI) (ap 6))) (ap 6))))))) (AE.p aI))) (AE.p aI))) (AE.p (av cM (AE.p aI) (AE.p (av dF (AE.p (av iH (ap 1) (AE.p aI))) (AE.p aI))))))) (AE.p aI))))
 (ph 5 rfl (av bX (ap 2) (ap 6)))
 ej))
 (aY (ee (cH (AE.p (av gO (AE.p (av dF (AE.p (av iH (ap 1) (AE.p aI))) (AE.p aI))) (AE.p aI))))
 (O4 5 rfl)
 ej)
 (Pq 5 rfl (jH (AE.w (fu (bf (bJ 3) (bf (bJ 4) (bf (bJ 5) bC)))))))))))))⟩)
abbrev wQ:bt:=top 32
theorem MD:cu ["_law_net_here","_law_held","_law_ready_here","_law_turn"] ["_law_net_here","_law_held"] (bB wQ):=dw
theorem NX{f:af}{fd:bF}(F:ce K "_law_ready" "_law_ready" wQ f fd)(T:Txt mg):bE P w K mg base aL 1 f fd ["_law_net_here","_law_held"] (au sG):=
 gA (Mo []) F MD (λcdv A outer s H E hr nd hu bA=>by
  exact⟨_,(aZ (jf (i:=2) nd rfl (fk rfl) (kJ pQ rfl T.gB lQ (bg 1)))
 (aZ (gv fS rfl (js rfl T.jF (ax (dH jj rfl T.dZ jB (ax (pX (pv 0) aH) a8)) a8)) (pG 3)
 (be (jf (i:=2) nd rfl (fk rfl) (aS cL (pv 2) (fe (N':=["_law_ready_here","_law_tail","_law_head"]) (ρ:=[aa 2,ac,ac]) rfl (dI.of rfl (by kernel_rfl)) (eu (pX (pv 0) aH)) (λ_ _ _ _ _=>(jK rfl (d5 (cU (i:=1) (by show(["_law_ready_here","_law_tail","_law_head"]:List Str).Nodup;decide +kernel) rfl (cz rfl)) (d5 (cU (i:=2) (by show(["_law_ready_here","_law_tail","_law_head"]:List Str).Nodup;decide +kernel) rfl (cz rfl)) jt)))) (nJ (ia rfl (ia rfl nK ir) (nB ir))) (λ_ _ _ _ _=>(iS (PW.pt (pw_and (cK (uk bA) (pv 2) (pv 0) rfl) (pw_and1 (cK (oI bA) (pv 1) (pv 0) rfl)))))) (λ_ _ _ _ _=>(pv 1)))))))
 (be (cj (pv 2))))),
  (aY (cn 2 rfl (AE.nv (dO gB (bf (ap 1) bC))))
 (aY (gz (K:=K) (tg:=(.n 3)) (jx (AE.p (dO dZ (bf (AE.p (av bX (ap 0) (AE.p aI))) bC)))) (by decide)
 (cn 2 rfl (av cM (ap 2) (AE.np (eE (K:=K) (tg:=(.t [1,2])) (gT (AE.p (av bX (ap 0) (AE.p aI)))) (by decide) (rh (cH (AE.p (av tZ (ap 2) (ap 0)))) (cH (AE.p (av pf (ap 1) (ap 0))))) (bJ 1))))))
 (d3 (a7 2))))⟩)
abbrev xo:bt:=top 33
theorem Pg:cu ["_law_net_here","_law_ready_here","_law_held","_law_spot","_law_some"] ["_law_net_here","_law_ready_here","_law_held","_law_spot"] (bB xo):=dw
theorem JX{f:af}{fd:bF}(F:ce K "_law_next" "_law_next" xo f fd)(T:Txt mg):bE P w K mg base aL 1 f fd ["_law_net_here","_law_ready_here","_law_held","_law_spot"] (au m3):=
 gA (Mo []) F Pg (λcdv A outer s H E hr nd hu bA=>by
  exact⟨_,(aZ (pS 4 (fv a8))
 (aZ (eh (cK (oI bA) (pX (pv 3) aH) (pv 2) rfl)
 (be (DM (i:=4) (N':=["_law_spot","_law_tail","_law_head"]) (ρ:=[aa 3,ac,ac]) rfl nd rfl (cz rfl) (dI.of rfl (by kernel_rfl)) (eu (pX (pv 0) aH)) (λ_ _ _ _ _=>(jK rfl (d5 (cU (i:=1) (by show(["_law_spot","_law_tail","_law_head"]:List Str).Nodup;decide +kernel) rfl (cz rfl)) (d5 (cU (i:=2) (by show(["_law_spot","_law_tail","_law_head"]:List Str).Nodup;decide +kernel) rfl (cz rfl)) jt)))) (nJ (ia rfl (ia rfl nK ir) (nB ir))) (λ_ _ _ _ _=>(iS (cK (gP bA) (pv 1) (pX (pv 0) aH) (du _)))) (λ_ _ _ _ _=>(iG (ax (pv 2) (ax eJ a8))))))
 eo)
 (aZ (eh (PW.pt (pw_or (PW.pt (pw_and (m6 (pX (pv 3) aH) (by intro _;rfl)) (pw_and1 (cK (uk bA) (pX (pv 3) aH) (pv 1) rfl)))) (pw_or1 (PW.pt (pw_and (oh (m6 (pX (pv 3) aH) (by intro _;rfl))) (pw_and1 (cK (oI bA) (pX (pv 3) aH) (pv 2) rfl)))))))
 (be (pS 4 (aS cL (pv 4) (fe (N':=["_law_spot","_law_tail","_law_head"]) (ρ:=[aa 3,ac,ac]) rfl (dI.of rfl (by kernel_rfl)) (eu (pX (pv 0) aH)) (λ_ _ _ _ _=>(jK rfl (d5 (cU (i:=1) (by show(["_law_spot","_law_tail","_law_head"]:List Str).Nodup;decide +kernel) rfl (cz rfl)) (d5 (cU (i:=2) (by show(["_law_spot","_law_tail","_law_head"]:List Str).Nodup;decide +kernel) rfl (cz rfl)) jt)))) (nJ (ia rfl (ia rfl nK ir) (nB ir))) (λ_ _ _ _ _=>(iS (cK (gP bA) (pv 2) (pX (pv 0) aH) (du _)))) (λ_ _ _ _ _=>(iG (ax (pv 1) (ax eJ a8))))))))
 eo)
 (be (cj (pv 4)))))),
  (aY (cn 4 rfl (AE.nv (fu bC)))
 (aY (ee (cH (AE.p (av pf (AE.p (av bX (ap 3) (AE.p aI))) (ap 2))))
 (cn 4 rfl (AE.nv (eE (K:=K) (tg:=(.t [1,2])) (gT (AE.p (av bX (ap 0) (AE.p aI)))) (by decide) (cH (AE.p (av gO (ap 1) (AE.p (av bX (ap 0) (AE.p aI)))))) (jZ (bf (bJ 2) (bf eI bC))))))
 ej)
 (aY (ee (pY (rh (mz (AE.p (av bX (ap 3) (AE.p aI)))) (cH (AE.p (av tZ (AE.p (av bX (ap 3) (AE.p aI))) (ap 1))))) (rh (m7 (mz (AE.p (av bX (ap 3) (AE.p aI))))) (cH (AE.p (av pf (AE.p (av bX (ap 3) (AE.p aI))) (ap 2))))))
 (cn 4 rfl (av cM (ap 4) (AE.np (eE (K:=K) (tg:=(.t [1,2])) (gT (AE.p (av bX (ap 0) (AE.p aI)))) (by decide) (cH (AE.p (av gO (ap 2) (AE.p (av bX (ap 0) (AE.p aI)))))) (jZ (bf (bJ 1) (bf eI bC)))))))
 ej)
 (d3 (a7 4)))))⟩)
abbrev xx:bt:=top 34
theorem ME:cu ["_law_net_here","_law_one","_law_held","_law_ready_here","_law_met","_law_turn","_law_spot","_law_told","_law_name"] ["_law_net_here","_law_one","_law_held"] (bB xx):=dw
theorem N1{f:af}{fd:bF}(F:ce K "_law_reach" "_law_reach" xx f fd)(T:Txt mg)(Aq:bO P w K mg base aL 1 "_law_ready" ["_law_net_here","_law_held"] (au sG))(As:bO P w K mg base aL 1 "_law_next" ["_law_net_here","_law_ready_here","_law_held","_law_spot"] (au m3)):bE P w K mg base aL 2 f fd ["_law_net_here","_law_one","_law_held"] (au lq):=
 gA (Mo []) F ME (λcdv A outer s H E hr nd hu bA=>by
  exact⟨_,(aZ (pS 3 (pC Aq hr (ax (pv 0) (bg 2))))
 (aZ (jf (i:=4) nd rfl (fk rfl) (fe (N':=["_law_one","_law_tail","_law_head"]) (ρ:=[aa 1,ac,ac]) rfl (dI.of rfl (by kernel_rfl)) (eu (pX (pv 0) aH)) (λ_ _ _ _ _=>(jK rfl (d5 (cU (i:=1) (by show(["_law_one","_law_tail","_law_head"]:List Str).Nodup;decide +kernel) rfl (cz rfl)) (d5 (cU (i:=2) (by show(["_law_one","_law_tail","_law_head"]:List Str).Nodup;decide +kernel) rfl (cz rfl)) jt)))) (nJ (ia rfl (ia rfl nK ir) (nB ir))) (λ_ _ _ _ _=>(iS (cK (gP bA) (pv 1) (pv 0) (du _)))) (λ_ _ _ _ _=>(iG (ax (pv 2) (ax eJ a8))))))
 (aZ (jf (i:=4) nd rfl (fk rfl) (aS cL (pv 4) (fe (N':=["_law_one","_law_tail","_law_head"]) (ρ:=[aa 1,ac,ac]) rfl (dI.of rfl (by kernel_rfl)) (eu (pX (pv 0) aH)) (λ_ _ _ _ _=>(jK rfl (d5 (cU (i:=1) (by show(["_law_one","_law_tail","_law_head"]:List Str).Nodup;decide +kernel) rfl (cz rfl)) (d5 (cU (i:=2) (by show(["_law_one","_law_tail","_law_head"]:List Str).Nodup;decide +kernel) rfl (cz rfl)) jt)))) (nJ (ia rfl (ia rfl nK ir) (nB ir))) (λ_ _ _ _ _=>(iS (cK (gP bA) (pv 2) (pv 0) (du _)))) (λ_ _ _ _ _=>(iG (ax (pv 1) (ax eJ a8)))))))
 (aZ (gv fS rfl (js rfl T.jF (ax (aS fB aH (dH jj rfl T.dZ jB (ax (pX (pv 0) aH) a8))) a8)) (pG 5)
 (be (gv fS rfl (eu (kJ pQ rfl T.gB lQ (bg 4))) (pG 6)
 (be (jf (i:=4) nd rfl (fk rfl) (aS cL (pv 4) (fe (N':=["_law_met","_law_more"]) (ρ:=[aa 4,ac]) rfl (dI.of rfl (by kernel_rfl)) (eu (pC As hr (ax (pv 0) (ax (pv 3) (ax (pv 2) (bg 6)))))) (λ_ _ _ _ _=>(cU (i:=1) ji rfl (cz rfl))) (gY rfl) (λ_ _ _ _ _=>(iS (cK (oI bA) (pv 1) (pv 0) rfl))) (λ_ _ _ _ _=>(pv 1)))))))))
 (aZ (pS 7 (fv a8))
 (aZ (gv fS rfl (eu (pX (pv 0) aH)) (cU (i:=8) nd rfl (fk rfl))
 (be (pS 7 (aS cL (pv 7) (fe (N':=["_law_name","_law_met","_law_into"]) (ρ:=[aa 8,aa 4,ac]) rfl (dI.of rfl (by kernel_rfl)) (eu (fv (ax eJ (ax eJ a8)))) (λ_ _ _ _ _=>(cU (i:=2) (by show(["_law_name","_law_met","_law_into"]:List Str).Nodup;decide +kernel) rfl (cz rfl))) (gY rfl) (λ_ _ _ _ _=>(iS (cK (uk bA) (iG (ax (pv 0) (bg 2))) (pv 1) rfl))) (λ_ _ _ _ _=>(iG (ax (pv 0) (bg 2)))))))))
 (be (cj (pv 7))))))))),
  (aY (cn 3 rfl (dh (aM (a7 0) (aM (a7 2) bN))))
 (aY (cn 4 rfl (AE.nv (eE (K:=K) (tg:=(.t [1,2])) (gT (AE.p (av bX (ap 0) (AE.p aI)))) (by decide) (cH (AE.p (av gO (ap 1) (ap 0)))) (jZ (bf (bJ 2) (bf eI bC))))))
 (aY (cn 4 rfl (av cM (ap 4) (AE.np (eE (K:=K) (tg:=(.t [1,2])) (gT (AE.p (av bX (ap 0) (AE.p aI)))) (by decide) (cH (AE.p (av gO (ap 2) (ap 0)))) (jZ (bf (bJ 1) (bf eI bC)))))))
 (aY (gz (K:=K) (tg:=(.n 5)) (jx (AE.p (av fm (AE.p aI) (AE.p (dO dZ (bf (AE.p (av bX (ap 0) (AE.p aI))) bC)))))) (by decide)
 (gz (K:=K) (tg:=(.n 6)) (me (AE.nv (dO gB (bf (ap 4) bC)))) (by decide)
 (cn 4 rfl (av cM (ap 4) (AE.np (eE (K:=K) (tg:=(.n 1)) (gT (AE.p (dh (aM (a7 0) (aM (a7 3) (aM (a7 2) (aM (a7 6) bN))))))) (by decide) (cH (AE.p (av pf (ap 1) (ap 0)))) (bJ 1)))))))
 (aY (cn 7 rfl (AE.nv (fu bC)))
 (aY (gz (K:=K) (tg:=(.n 8)) (me (av bX (ap 0) (AE.p aI))) (by decide)
 (cn 7 rfl (av cM (ap 7) (AE.np (eE (K:=K) (tg:=(.n 2)) (gT (AE.np (fu (bf eI (bf eI bC))))) (by decide) (cH (AE.p (av tZ (AE.p (jZ (bf (bJ 0) (bf (bJ 2) bC)))) (ap 1)))) (jZ (bf (bJ 0) (bf (bJ 2) bC))))))))
 (d3 (a7 7))))))))⟩)
abbrev xU:bt:=top 35
theorem OI:cu ["_law_net_here","_law_draw","_law_one","_law_other","_law_held","_law_handed","_law_found","_law_there","_law_back","_law_told"] ["_law_net_here","_law_draw"] (bB xU):=dw
theorem Pa{f:af}{fd:bF}(F:ce K "_law_question" "_law_question" xU f fd)(T:Txt mg)(At:bO P w K mg base aL 11 "are_parted" ["net","one","other","held"] (au sI))(tL:bO P w K mg base aL 14 "reach_of" ["net","one","held"] (cO nC))(lR:∀n,bO P w K mg base aL (n+1) "_law_alike" ["_law_found","_law_due"] (au (fw n)))(Au:bO P w K mg base aL 1 "_law_asked" ["_law_net_here","_law_draw"] (cO oZ))(tM:bO P w K mg base aL 2 "_law_reach" ["_law_net_here","_law_one","_law_held"] (au lq)):bE P w K mg base aL 15 f fd ["_law_net_here","_law_draw"] (au nQ):=
 gA (Mo [6]) F OI (λcdv A outer s H E hr nd hu bA=>by
  have tK:=hr.mono (show(3+1)<=_ by decide);exact⟨_,(aZ (xq (pC Au hr (ax (pv 0) (bg 1))) (NR rfl (d5 (cU (i:=2) nd rfl (fk rfl)) (d5 (cU (i:=3) nd rfl (fk rfl)) (d5 (pG 4) jt)))))
 (aZ (pS 5 (kJ pQ rfl T.gB lQ (bg 4)))
 (aZ (pS 6 (pC tL hr (ax (pv 0) (ax (pv 2) (bg 5)))))
 (aZ (eh (PW.pt (pw_or (oh (mj (pz (lR 3) tK rfl oX (ax (pv 6) (ax (pC tM hr (ax (pv 0) (ax (pv 2) (bg 4)))) a8))))) (pw_or1 (cK (pP bA) (pv 5) (pv 4) (du _)))))
 (be (cj eJ))
 eo)
 (aZ (pS 7 (sH x6 (dH jj rfl T.dZ jB (ax (fe (N':=["_law_other","_law_spot"]) (ρ:=[aa 3,ac]) rfl (dI.of rfl (by kernel_rfl)) (eu (pv 6)) (λ_ _ _ _ _=>(cU (i:=1) ji rfl (cz rfl))) (gY rfl) (λ_ _ _ _ _=>(iS (cK (gP bA) (pX (pv 1) aH) (pv 0) (du _)))) (λ_ _ _ _ _=>(pv 1))) a8)) aH (du _)))
 (aZ (gt (wI h6 PySem.F.slot_list_clear PySem.F.type_list_clear OS (pv 6)))
 (aZ (pS 8 (pC tL hr (ax (pv 0) (ax (pv 3) (bg 5)))))
 (aZ (eh (oh (mj (pz (lR 3) tK rfl oX (ax (pv 8) (ax (pC tM hr (ax (pv 0) (ax (pv 3) (bg 4)))) a8)))))
 (be (cj eJ))
 eo)
 (aZ (eh (cK (pP bA) (pv 7) (sH x6 (dH jj rfl T.dZ jB (ax (fe (N':=["_law_one","_law_spot"]) (ρ:=[aa 2,ac]) rfl (dI.of rfl (by kernel_rfl)) (eu (pv 8)) (λ_ _ _ _ _=>(cU (i:=1) ji rfl (cz rfl))) (gY rfl) (λ_ _ _ _ _=>(iS (cK (gP bA) (pX (pv 1) aH) (pv 0) (du _)))) (λ_ _ _ _ _=>(pv 1))) a8)) aH (du _)) (du _))
 (be (cj eJ))
 eo)
 (aZ (pS 9 (pC At hr (ax (pv 0) (ax (pv 2) (ax (pv 3) (bg 5))))))
 (aZ (eh (PW.pt (pw_or (oh (mj (dH lf rfl T.kh j9 (ax (pv 9) (ax (iT rfl T.Ac boot_bool) a8))))) (pw_or1 (cK (gP bA) (pv 9) (pv 7) (du _)))))
 (be (cj eJ))
 eo)
 (be (cj (pz (lR 3) tK rfl oX (ax (pC tL hr (ax (pv 0) (ax (pv 2) (bg 5)))) (ax (pC tM hr (ax (pv 0) (ax (pv 2) (bg 4)))) a8)))))))))))))))),
  (aY (Lr [2,3,4] (by decide) (AE.nv (iA (aM (a7 0) (aM (a7 1) bN)))))
 (aY (cn 5 rfl (AE.nv (dO gB (bf (ap 4) bC))))
 (aY (lB 6 rfl (iA (aM (a7 0) (aM (a7 2) (aM (a7 5) bN)))))
 (aY (ee (pY (m7 (iQ (AE.p (Oy (aM (AE.w (ap 6)) (aM (AW.p (AE.w (dh (aM (a7 0) (aM (a7 2) (aM (a7 4) bN)))))) bN)))))) (cH (AE.p (av pU (ap 5) (ap 4)))))
 (d3 (AE.w eI))
 ej)
 (aY (cn 7 rfl (av x9 (AE.p (dO dZ (bf (AE.np (eE (K:=K) (tg:=(.n 1)) (gT (ap 6)) (by decide) (cH (AE.p (av gO (AE.p (av bX (ap 1) (AE.p aI))) (ap 0)))) (bJ 1))) bC))) (AE.p aI)))
 (aY (OT 6 rfl)
 (aY (cn 8 rfl (AE.nv (iA (aM (a7 0) (aM (a7 3) (aM (a7 5) bN))))))
 (aY (ee (m7 (iQ (AE.p (dh (aM (a7 8) (aM (AE.w (dh (aM (a7 0) (aM (a7 3) (aM (a7 4) bN))))) bN))))))
 (d3 (AE.w eI))
 ej)
 (aY (ee (cH (AE.p (av pU (ap 7) (AE.p (av x9 (AE.p (dO dZ (bf (AE.np (eE (K:=K) (tg:=(.n 1)) (gT (ap 8)) (by decide) (cH (AE.p (av gO (AE.p (av bX (ap 1) (AE.p aI))) (ap 0)))) (bJ 1))) bC))) (AE.p aI))))))
 (d3 (AE.w eI))
 ej)
 (aY (cn 9 rfl (dh (aM (a7 0) (aM (a7 2) (aM (a7 3) (aM (a7 5) bN))))))
 (aY (ee (pY (m7 (iQ (AE.p (lj (ty_bool K) (ap 9))))) (cH (AE.p (av gO (ap 9) (ap 7)))))
 (d3 (AE.w eI))
 ej)
 (d3 (AE.w (dh (aM (AW.nv (AE.w (iA (aM (a7 0) (aM (a7 2) (aM (a7 5) bN)))))) (aM (AE.w (dh (aM (a7 0) (aM (a7 2) (aM (a7 4) bN))))) bN))))))))))))))))⟩)
abbrev zb:bt:=top 36
theorem Pu:cu ["_law_script","_law_net_here","_law_draw"] ["_law_script"] (bB zb):=dw
theorem Md{f:af}{fd:bF}(F:ce K "law" "law" zb f fd)(T:Txt mg)(Av:bO P w K mg base aL 3 "_law_two" ["_law_script","_law_most"] (au rK))(Aw:bO P w K mg base aL 2 "_law_questions" ["_law_script","_law_many"] (cO sJ))(Ax:bO P w K mg base aL 15 "_law_question" ["_law_net_here","_law_draw"] (au nQ)):bE P w K mg base aL 16 f fd ["_law_script"] (au wL):=
 gA (Mo []) F Pu (λcdv A outer s H E hr nd hu bA=>by
  exact⟨_,(aZ (pS 1 (pC Av hr (ax (pv 0) (ax aH a8))))
 (aZ (gv fS rfl (eu (pC Aw hr (ax (pv 0) (ax aH a8)))) (pG 2)
 (be (eh (oh (mj (pC Ax hr (ax (pv 1) (bg 2)))))
 (be (cj eJ))
 eo)))
 (be (cj eJ)))),
  (aY (cn 1 rfl (dh (aM (a7 0) (aM (AE.w aI) bN))))
 (aY (gz (K:=K) (tg:=(.n 2)) (me (AE.nv (iA (aM (a7 0) (aM (AE.w aI) bN))))) (by decide)
 (ee (m7 (iQ (AE.p (dh (aM (a7 1) (aM (a7 2) bN))))))
 (d3 (AE.w eI))
 ej))
 (d3 (AE.w eI))))⟩)
end
end mY
namespace L2
open PySem PySem.Spec PyProof.Rows
theorem Jp{P:bh}{w:a6}{K:aD}{mg:Str->Option ag}{base:aJ}{CX:f7}{lv:Nat->Nat}{x:Str}{st:bt}{ps:List Str}{sp:Nat->Sp}(F:cA K mg x st ps)
 (h:∀f fd,ce K x x st f fd->(∀n,bE P w K mg base CX (lv n) f fd ps (sp n)->bO P w K mg base CX (lv n) x ps (sp n))->∀n,bE P w K mg base CX (lv n) f fd ps (sp n)) (n:Nat):bO P w K mg base CX (lv n) x ps (sp n):=by
 obtain⟨f,fd,h1,h2,h3,_,h4⟩:=F.ex;have self:∀n,bE P w K mg base CX (lv n) f fd ps (sp n)->bO P w K mg base CX (lv n) x ps (sp n):=λn k=>⟨f,fd,h1,h2,h3,k⟩;exact self n (h f fd h4 self n)
def Do(K:aD):Bool:=K.all λp=>match p.2.cls with|.type "list" => false|_=>true
theorem LA{K:aD}(h:Do K=true){a:af}{o:Obj}(e:K.lookup a=aa o)(c:o.cls=.type "list"):False:=by
 have hm:(a,o)∈K:=by
  clear h
  induction K with
  |nil=>cases e
  |cons p r ih=>
   obtain⟨b,x⟩:=p;simp only[kQ]at e;split at e
   ·rename_i q;cases e;rw[lG.mp q];exact List.Mem.head _
   ·exact List.Mem.tail _ (ih e)
 have h2:=sT.mp h _ hm;simp only[c]at h2;cases h2
end L2
namespace L2
open PySem PySem.Spec PyProof.Rows A So
section
variable[Tb:bG]
theorem JE{P:bh}{w:a6}{K:aD}{mg mb:Str->Option ag}{k:Nat}{fa a c T c2 T2:af}{q q2:Str}{fd:bF}{x:Str}{s₁:ao}{vs:List ag}{ns:List Int}(hTb:Tb.l=[(T,q),(T2,q2)])(hTT:T≠T2)
 (KX:K.In s₁.heap) (hns:s₁.heap.Ns mainGlobals mg) (hb:s₁.heap.Ns builtinsNs mb) (hbb:∀x:Str,x ≠ "__name__" -> mb x=bootBuiltins x) (hlim:s₁.heap.NoLimit) (hg:s₁.gens = #[])
 (ha:s₁.heap.get? a=aa { cls:=.type "list", data:=.seq vs.toArray }) (hi:IntsAre vs ns) (hl:ns.length<=63) (hr:b9 k callerA)
 (hKa:K.lookup a=ac) (hKT:K.lookup T=ac) (C:eD s₁.heap c T) (hT:s₁.heap.get? T=aa (qm #[])) (Qd:K.lookup T2=ac) (C2:eD s₁.heap c2 T2) (hT2:s₁.heap.get? T2=aa (qm #[])) (hB:BM mg s₁.heap)
 (F:∀base:aJ,K.In base->base.Ns mainGlobals mg->BM mg base->eD base c T->eD base c2 T2->bE P w K mg base aL k fa fd [x] qM) (hbind:∀(s:ao) (u:ag),lL s fd ⟨[u],[]⟩ [(x,u)]) :
 codeAny (model P w) callerA (.call (.ref fa) ⟨[.ref a],[]⟩) (λr s'=>r=.ok (.ret (.bool true))/\OldK s₁.heap s'.heap/\s'.os=s₁.os/\mW s'.gens) s₁:=by
 have rv:=B7 hi;have lenV:=hi.length;have aT:a≠T:=λz=>by rw[z,hT]at ha;cases ha
 have aT2:a≠T2:=λz=>by rw[z,hT2]at ha;cases ha
 let H:Hp:=λb=>if b=a then aa (.frz { cls:=.type "list",data:=.seq vs.toArray } (.lst (ns.map V.int)))else if b=T then aa (.tbl q #[])else if b=T2 then aa (.tbl q2 #[])else ac;have Ha:H a=aa (.frz { cls:=.type "list", data:=.seq vs.toArray } (.lst (ns.map V.int))):=aN rfl;have HT:H T=aa (.tbl q #[]):=by show(if T=a then _ else _)=_;rw[aP (d8 aT),aN rfl]
 have HT2:H T2=aa (.tbl q2 #[]):=by show(if T2=a then _ else _)=_;rw[aP (d8 aT2),aP (d8 hTT),aN rfl]
 have Hn:∀b,b≠a->b≠T->b≠T2->H b=ac:=λb h1 h2 h3=>by show(if b=a then _ else _)=_;rw[aP h1,aP h2,aP h3]
 have Hd:∀{b u},H b=aa u->(b=a/\u=.frz { cls:=.type "list", data:=.seq vs.toArray } (.lst (ns.map V.int)))\/(b=T/\u=.tbl q #[])\/(b=T2/\u=.tbl q2 #[]):=λ{b u} e=>by
  by_cases h1:b=a
  ·subst h1;rw[Ha]at e;cases e;exact .inl ⟨rfl,rfl⟩
  ·by_cases h2:b=T
   ·subst h2;rw[HT]at e;cases e;exact .inr (.inl ⟨rfl,rfl⟩)
   ·by_cases h3:b=T2
    ·subst h3;rw[HT2]at e;cases e;exact .inr (.inr ⟨rfl,rfl⟩)
    ·rw[Hn b h1 h2 h3]at e;cases e
 have hok:cJ P w H s₁.heap:=λb u e=>by
  rcases Hd e with ⟨rfl,rfl⟩|⟨rfl,rfl⟩|⟨rfl,rfl⟩
  ·exact⟨ha,by rw[aQ,c6];omega,vs,_,rv,ha⟩
  ·exact hT
  ·exact hT2
 have free:∀{b:af} {o:Obj},s₁.heap.get? b=aa o->o.cls≠.type "list" -> o≠qm #[]->H b=ac:=λ{b o} e h1 h2=>by
  refine Hn b (λz=>?_) (λz=>?_) λz=>?_
  ·rw[z,ha]at e;cases e;exact h1 rfl
  ·rw[z,hT]at e;cases e;exact h2 rfl
  ·rw[z,hT2]at e;cases e;exact h2 rfl
 have wx:∀{b:af} {o:Obj},s₁.heap.get? b=aa o->H b=ac->(jY s₁.heap H).get? b=aa o:=λe n=>L3 e n;have nsK:∀{b:af} {m:Str->Option ag},s₁.heap.Ns b m->(jY s₁.heap H).Ns b m:=λ{b m} ⟨o,es,ep,e,d,r⟩=>⟨o,es,ep,wx e (Hn b (λz=>by rw[z,ha]at e;cases e;cases d) (λz=>by rw[z,hT]at e;cases e;cases d) λz=>by rw[z,hT2]at e;cases e;cases d),d,r⟩;have hKb:K.In (jY s₁.heap H):=λb o e=>wx (KX b o e) (Hn b (λz=>by rw[z,hKa]at e;cases e) (λz=>by rw[z,hKT]at e;cases e) λz=>by rw[z,Qd]at e;cases e);have hM:Mod K mg (jY s₁.heap H):=⟨hKb,nsK hns,⟨mb,nsK hb,hbb⟩,let ⟨mc,h1,h2⟩:=hlim;⟨mc,nsK h1,h2⟩⟩;have e0:lU P w K mg (jY s₁.heap H) callerA [] s₁ H:=⟨rfl,hM,λb o e=>Oz e,Nat.le_of_eq (L8 _ _),trivial,λb hb=>absurd (show b∈([]:List af)from hb) (by simp),hok,.of_eq hg⟩;have hB':BM mg (jY s₁.heap H):=by obtain⟨bm,bo,b1,b2,b3,b4,b5,b6,b7⟩:=hB;exact⟨bm,bo,b1,b2,b3,wx b4 (free b4 (by rw[b5];decide) (λz=>by rw[z]at b5;cases b5)),b5,b6,b7⟩
 have Cg:∀{c T:af},eD s₁.heap c T->eD (jY s₁.heap H) c T:=λC=>by
  obtain⟨o,vs2,file,tf,flags,tg,inF,text,tt,e,h1,r⟩:=C;exact⟨o,vs2,file,tf,flags,tg,inF,text,tt,wx e (free e (by rw[h1];decide) (λz=>by rw[z]at h1;cases h1)),h1,r⟩
 have ck:gp H:=⟨λr hr=>by
  rw[hTb]at hr;rcases br.mp hr with rfl|hr
  ·exact⟨#[],HT⟩
  ·obtain rfl:r=(T2,q2):=by simpa using hr
   exact⟨#[],HT2⟩,λT3 q3 ps e=>by
  rcases Hd e with ⟨_,z⟩|⟨_,z⟩|⟨_,z⟩
  ·cases z
  ·cases z;exact⟨trivial,λpos v hv=>by cases hv⟩
  ·cases z;exact⟨trivial,λpos v hv=>by cases hv⟩,λb o xs e=>by
  rcases Hd e with ⟨_,z⟩|⟨_,z⟩|⟨_,z⟩
  ·cases z;intro x hx;obtain⟨i,_,rfl⟩:=bR.mp hx;exact⟨i,rfl⟩
  ·cases z
  ·cases z⟩
 refine vO ((F _ hKb (nsK hns) hB' (Cg C) (Cg C2)).run callerA [] s₁ H ⟨[.ref a],[]⟩ [.ref a] [.ref a] (λv _=>v=.bl true) (λ_ _ _=>False) hr e0 (hbind s₁ (.ref a)) (.cons rfl .nil) ⟨a,ns,rfl,.inr ⟨_,Ha⟩,hl,ck,λ_=>rfl⟩) λr s' h=>?_;cases r with
 |error e=>exact h.elim
 |ok fl=>
  cases fl with
  |next=>exact h9 h
  |brk=>exact h9 h
  |cont=>exact h9 h
  |ret u=>
   obtain⟨v,H',os,bare,un,hok',r',q'⟩:=h;have q':v=.bl true:=q';subst q';obtain rfl:u=i9 true:=r';have old:∀b o,s₁.heap.get? b=aa o->asItWas s₁.heap s'.heap b o:=λb o e=>by
    by_cases h1:b=a
    ·subst h1;have z2:=un.kY b _ _ Ha;obtain⟨e2,_⟩:=hok' b _ z2;rw[ha]at e;cases e;exact .inl e2
    ·by_cases h2:b=T
     ·subst h2;obtain⟨more,z2⟩:=un.ke b _ _ HT;have e2:s'.heap.get? b=aa (qm (#[]++more)):=hok' b _ z2;rw[hT]at e;cases e;obtain⟨oc,vs2,_,_,_,_,_,_,_,f1,f2,f3,f4,_⟩:=C;exact .inr (.inl ⟨⟨c,oc,vs2,f1,f2,f3,f4⟩,rfl,#[],more,rfl,e2⟩)
     ·by_cases h3:b=T2
      ·subst h3;obtain⟨more,z2⟩:=un.ke b _ _ HT2;have e2:s'.heap.get? b=aa (qm (#[]++more)):=hok' b _ z2;rw[hT2]at e;cases e;obtain⟨oc,vs2,_,_,_,_,_,_,_,f1,f2,f3,f4,_⟩:=C2;exact .inr (.inl ⟨⟨c2,oc,vs2,f1,f2,f3,f4⟩,rfl,#[],more,rfl,e2⟩)
      ·exact .inl (un.keep b o e (Hn b h1 h2 h3) (by intro z;exact absurd (show b∈([]:List af)from z) (by simp)) (by simp))
   exact⟨rfl,⟨old,λb o e=>un.there b o e (by simp)⟩,os,bare⟩
theorem IW{l:zI}{k:Nat}{q:bh}{loose:List Str}{XP:(Str->Option ag)->aJ->Prop}{YP:a6->aJ->Prop}{d:DefRec}{K:Params->aD}{x dn dn2:Str}{c T c2 T2:af}{qn qn2:Str}(hTb:Tb.l=[(T,qn),(T2,qn2)])(hTT:T≠T2)
 (hn:l.most=aa 63) (hdf:d.params.defaults=[]) (hr:b9 k callerA)
 (hY:∀(w:a6) (h:aJ),YP w h->(K w.params).In h) (hL:∀w:a6,∀a o,(K w.params).lookup a=aa o->o.cls≠.type "list") (hK:∀w:a6,(K w.params).lookup T=ac) (hK2:∀w:a6,(K w.params).lookup T2=ac)
 (hrec:∃d,(recsOf q).find? (λe=>e.name==dn)=aa d) (htab:∀w:a6,vG (K w.params) dn=aa (c,T)) (Ay:∃d,(recsOf q).find? (λe=>e.name==dn2)=aa d) (Az:∀w:a6,vG (K w.params) dn2=aa (c2,T2))
 (F:∀(w:a6) (mg:Str->Option ag) (fa:af) (h:aJ),(K w.params).In h->h.Ns mainGlobals mg->mg d.name=aa (.ref fa) ->
  ∃fd:bF,(∀(s:ao) (u:ag),lL s fd ⟨[u],[]⟩ [(x,u)]) /\
   ∀base:aJ,(K w.params).In base->base.Ns mainGlobals mg->BM mg base->eD base c T->eD base c2 T2->bE l.prog w (K w.params) mg base aL k fa fd [x] qM) :
 PySem.W.WalkO q loose XP YP l.row.toRowW d [] (λf vs=>zS f vs):=by
 refine Att.JU hn hdf λw s₀ s₁ mg mb fa o pm cd doc a vs ns G Y ho hd hcd hmg hobj hints hlen hg=>?_;have KX:=hY w _ Y;obtain⟨fd,hb,hF⟩:=F w mg fa _ KX G.T.g hmg;obtain⟨dd,hdd⟩:=hrec;obtain⟨C,hT⟩:=Hm G.T KX hdd (htab w);obtain⟨dd2,Qe⟩:=Ay;obtain⟨C2,hT2⟩:=Hm G.T KX Qe (Az w);have hB:BM mg s₁.heap:=by obtain⟨bm,ob,b1,b2,b3,b4,b5,b6⟩:=G.T.bmain;refine⟨bm,ob,b1,b2,λz=>?_,b3,b4,b5,b6⟩;obtain⟨o2,es,ep,e,d2,_⟩:=G.T.g;rw[z,e]at b3;cases b3;rw[d2]at b6;cases b6
 have hKa:(K w.params).lookup a=ac:=by
  cases z:(K w.params).lookup a with
  |none=>rfl
  |some o2=>
   have e:=KX a o2 z;rw[hobj]at e;cases e;exact absurd rfl (hL w a _ z)
 exact JE hTb hTT KX G.T.g G.T.b G.T.builtins G.T.nolimit hg hobj hints hlen hr hKa (hK w) C hT (hK2 w) C2 hT2 hB hF hb
end
theorem cA.Ov{P:bh}{w:a6}{K:aD}{mg:Str->Option ag}{CX:f7}{k:Nat}{x p:Str}{st:bt}{sp:Sp}{fa c T c2 T2:af}(F:cA K mg x st [p])(hm:mg x=aa (.ref fa))(h:∀base,K.In base->base.Ns mainGlobals mg->BM mg base->eD base c T->eD base c2 T2->∀f fd,ce K x x st f fd->bE P w K mg base CX k f fd [p] sp) :
 ∃fd:bF,(∀(s:ao) (u:ag),lL s fd ⟨[u],[]⟩ [(p,u)])/\∀base:aJ,K.In base->base.Ns mainGlobals mg->BM mg base->eD base c T->eD base c2 T2->bE P w K mg base CX k fa fd [p] sp:=by
 obtain⟨f,fd,h1,h2,h3,h5,h4⟩:=F.ex;rw[h1]at hm;cases hm;exact⟨fd,λs u=>h5 s [u] rfl,λbase kb nb b1 b2 b3=>h base kb nb b1 b2 b3 _ fd h4⟩
end L2
namespace Mi
open PySem
@[simp] theorem jR {α:Type} (a:α):cQ (aa a)=.ok a:=rfl
@[simp] theorem Qo {α:Type} {c:Prop} [Decidable c] (h:c) (r:Rs α):bc c r=r:=aN h
@[simp] theorem uH (a b:Str):bD (.str a) (.str b)=decide (a=b):=by rw[bD];by_cases h:a=b<;>simp[h]
@[simp] theorem GH (a b:Int):bD (.int a) (.int b)=decide (a=b):=by rw[bD];by_cases h:a=b<;>simp[h]
@[simp] theorem JP (x:Str):(D.str x).dep=0:=by simp[D.dep]
@[simp] theorem Qs (x:Int):(D.int x).dep=0:=by simp[D.dep]
@[simp] theorem Qy (x:Bool):(D.bl x).dep=0:=by simp[D.dep]
@[simp] theorem Qq:D.non.dep=0:=by simp[D.dep]
@[simp] theorem Qp (ds:List D):(D.lst ds).dep=dr ds+1:=by simp[D.dep]
@[simp] theorem Qv (ds:List D):(D.tup ds).dep=dr ds+1:=by simp[D.dep]
@[simp] theorem Qj:dr []=0:=rfl
@[simp] theorem BG (d:D) (r:List D):dr (d::r)=max d.dep (dr r):=by rw[dr]
@[simp] theorem uX:∀xs:List Str,dr (xs.map D.str)=0
 |[]=>rfl
 |x::r=>by rw[cW,BG,JP,uX r];rfl
theorem xH(xs:List Str)(x:Str):((xs.map D.str).any λe=>bD e (.str x))=decide (x∈xs):=by
 induction xs with
 |nil=>rfl
 |cons y r ih=>
  rw[cW,iF,ih,uH];by_cases h:y=x
  ·simp[h]
  ·have h2:¬ x=y:=λz=>h z.symm;simp[h,h2]
theorem yU(xs:List Str)(x:Str):fM (.str x) (.lst (xs.map D.str))=.ok (.bl (decide (x∈xs))):=by show bc _ _=_;rw[aK (by rw[uX];omega),xH]
theorem uc(xs:List Str)(x:Str):e5 (.str x) (.lst (xs.map D.str))=.ok (.bl (!decide (x∈xs))):=by show bc _ _=_;rw[aK (by rw[uX];omega),xH]
theorem L6(xs:List Str)(x:Str):e5 (.str x) (.tup (xs.map D.str))=.ok (.bl (!decide (x∈xs))):=by show bc _ _=_;rw[aK (by rw[uX];omega),xH]
theorem mn(x y:Str):bY (.str x) (.str y)=.ok (.bl (decide (x=y))):=by show bc _ _=_;rw[aK (by simp),uH]
theorem uS(x y:Int):bY (.int x) (.int y)=.ok (.bl (decide (x=y))):=by show bc _ _=_;rw[aK (by simp),GH]
theorem Ob(x y:Int):fO (.int x) (.int y)=.ok (.bl (!decide (x=y))):=by show bc _ _=_;rw[aK (by simp),GH]
theorem FH{α:Type}(f:α->Bool)(xs:List α):jI (xs.map λx=>D.bl (f x))=aa (xs.map f):=by
 induction xs with
 |nil=>rfl
 |cons a r ih=>rw[cW,jI,ih];rfl
theorem Dk(xs:List Str):jr (xs.map D.str)=aa xs:=by
 induction xs with
 |nil=>rfl
 |cons a r ih=>rw[cW,jr,ih];rfl
theorem xD(n:Nat)(b:S)(a0:W):dG 1 n b [a0]=(b ([aa a0]++dq (n-1) ac)).bind ku:=aK rfl
theorem iW(n:Nat)(b:S)(a0 a1:W):dG 2 n b [a0,a1]=(b ([aa a0,aa a1]++dq (n-2) ac)).bind ku:=aK rfl
theorem xh(n:Nat)(b:S)(a0 a1 a2:W):dG 3 n b [a0,a1,a2]=(b ([aa a0,aa a1,aa a2]++dq (n-3) ac)).bind ku:=aK rfl
theorem CI(n:Nat)(b:S)(a0 a1 a2 a3:W):dG 4 n b [a0,a1,a2,a3]=(b ([aa a0,aa a1,aa a2,aa a3]++dq (n-4) ac)).bind ku:=aK rfl
theorem lr(n:Nat)(b:S)(a0 a1:W):fL 2 n b [a0,a1]=(b ([aa a0,aa a1]++dq (n-2) ac)).bind jU:=aK rfl
theorem yJ(n:Nat)(b:S)(a0 a1 a2:W):fL 3 n b [a0,a1,a2]=(b ([aa a0,aa a1,aa a2]++dq (n-3) ac)).bind jU:=aK rfl
theorem Cw{α:Type}(r:Rs α):bc (1<=16777216) r=r:=aK (by decide)
theorem n6(i j:Int):a9 (.int i) (.int j)=.ok (.int (i+j)):=rfl
theorem Gy(i j:Str):a9 (.str i) (.str j)=bc (i.length+j.length<=16777216) (.ok (.str (i++j))):=rfl
theorem mF(i j:List D):a9 (.lst i) (.lst j)=bc (i.length+j.length<=16777216) (.ok (.lst (i++j))):=rfl
theorem O6(i j:Int):jS (.int i) (.int j)=.ok (.int (i-j)):=rfl
theorem pJ(i j:Int):bL (.int i) (.int j)=bc (lE i j) (.ok (.int (i*j))):=rfl
theorem div_ii(i j:Int):cx (.int i) (.int j)=bc (li j) (.ok (.int (i/j))):=rfl
theorem mq(i j:Int):bi (.int i) (.int j)=bc (0<j) (.ok (.int (i%j))):=rfl
theorem vi(i j:Int):eG (.int i) (.int j)=.ok (.bl (decide (i<j))):=rfl
theorem Mx(i j:Int):nH (.int i) (.int j)=.ok (.bl (decide (j<i))):=rfl
theorem wN(ds:List D):cS [.lst ds]=.ok (.int ds.length):=rfl
theorem NZ(ds:List D):cS [.tup ds]=.ok (.int ds.length):=rfl
theorem LK(z:Str):cS [.str z]=bc (z.length<=16777216) (.ok (.int z.length)):=rfl
theorem Pw(i j:Int):iV [.int i,.int j]=.ok (.int (max i j)):=rfl
theorem OY(i j:Int):mE [.int i,.int j]=.ok (.int (min i j)):=rfl
theorem Ps(ds:List D):wY [.lst ds]=(cQ (jI ds)).bind λbs=>.ok (.bl (bs.all id)):=rfl
theorem Pe(ds:List D):wz [.lst ds]=(cQ (jI ds)).bind λbs=>.ok (.bl (bs.any id)):=rfl
theorem J6(ds:List D):oP [.lst ds]=.ok (.tup ds):=rfl
theorem xw(z:Str)(lo hi:Option Int):ik (.str z) lo hi=bc (z.length<=16777216) (.ok (.str (l0 z lo hi))):=rfl
theorem Mk(ds:List D):uB (.lst ds)=.ok ds:=rfl
theorem IT(ds:List D):uB (.tup ds)=.ok ds:=rfl
theorem uK(b:Bool):rZ (.bl b)=.ok b:=rfl
theorem mD(b:Int):nA (.int b)=.ok b:=rfl
theorem rR(x:D):qe (.d x)=.ok x:=rfl
theorem OW(x:D):Eo (.d x)=bc (nz x=true) (.ok x):=rfl
theorem Lp(i:Nat)(d:D)(e:Mi.Env):(Tg.n i).put d e=.ok (e.set i (aa (.d d))):=rfl
theorem all_cons(i:Nat)(is:List Nat)(d:D)(ds:List D)(e:Mi.Env):l9 (i::is) (d::ds) e=l9 is ds (e.set i (aa (.d d))):=rfl
theorem NQ(w:W):ku (.rt w)=.ok w:=rfl
theorem Mf(e:Mi.Env):ku (.nx e)=.ok (.d .non):=rfl
theorem JK(w:W):jU (.rt w)=.ok w:=rfl
theorem aA{f:D->D->Rs D}{a b:E}{e:Mi.Env}{x y:D}{z:Rs D}(ha:a e=.ok x)(hb:b e=.ok y)(h:f x y=z):m2 f a b e=z:=by unfold m2;rw[ha,aR,hb,aR,h]
theorem aV{s t:S}{e e':Mi.Env}(h:s e=.ok (.nx e')):aF s t e=t e':=by unfold aF;rw[h];rfl
theorem na{s t:S}{e:Mi.Env}{w:W}(h:s e=.ok (.rt w)):aF s t e=.ok (.rt w):=by unfold aF;rw[h];rfl
theorem bI{i:Nat}{a:E}{e:Mi.Env}{d:D}(h:a e=.ok d):bp i a e=.ok (.nx (e.set i (aa (.d d)))):=by unfold bp;rw[h];rfl
theorem dN{a:EW}{e:Mi.Env}{w:W}(h:a e=.ok w):bH a e=.ok (.rt w):=by unfold bH;rw[h];rfl
theorem bV{a:E}{e:Mi.Env}{d:D}(h:a e=.ok d):wD a e=.ok (.d d):=by unfold wD;rw[h];rfl
theorem gC{c:C}{s t:S}{e:Mi.Env}(h:c e=.ok true):bK c s t e=s e:=by unfold bK;rw[h];rfl
theorem dY{c:C}{s t:S}{e:Mi.Env}(h:c e=.ok false):bK c s t e=t e:=by unfold bK;rw[h];rfl
theorem cp{a:E}{e:Mi.Env}{b:Bool}(h:a e=.ok (.bl b)):cB a e=.ok b:=by unfold cB;rw[h];rfl
theorem fc{ρ:List (Option Nat)}{it:I}{tg:Tg}{c:C}{a:E}{e:Mi.Env}{xs ys:List D}(h:it e=.ok xs)(hl:xs.length<=16777216)(hc:cY tg c a (fZ ρ e) xs=.ok ys):cr ρ it tg c a e=.ok (.lst ys):=by unfold cr;rw[h,aR,aK hl,hc,aR]
theorem iK{a:E}{e:Mi.Env}{n:Int}(h:a e=.ok (.int n))(hr:okR n):gi a e=.ok (dC 0 n):=by unfold gi;rw[h,aR,mD,aR,aK hr]
theorem gU{it:I}{tg:Tg}{b:S}{e:Mi.Env}{xs:List D}(h:it e=.ok xs):dv it tg b e=gN tg b xs e:=by unfold dv;rw[h];rfl
theorem fb{a:E}{e:Mi.Env}{x:D}{xs:List D}(h:a e=.ok x)(hx:uB x=.ok xs):bM a e=.ok xs:=by unfold bM;rw[h,aR,hx]
theorem py{i:Nat}{a:E}{e:Mi.Env}{d:D}{ds:List D}(h:a e=.ok d)(hg:getL e i=.ok ds)(hl:ds.length<16777216):dS i a e=.ok (.nx (putL e i (ds++[d]))):=by unfold dS;rw[h,aR,hg,aR,aK hl]
theorem fW{f:List D->Rs D}{a:E}{e:Mi.Env}{x:D}(h:a e=.ok x):mN f [a] e=f [x]:=by unfold mN;rw[fY,h];rfl
theorem zi{f:List D->Rs D}{a b:E}{e:Mi.Env}{x y:D}(h:a e=.ok x)(h':b e=.ok y):mN f [a,b] e=f [x,y]:=by unfold mN;rw[fY,h,aR,fY,h'];rfl
theorem pH{a:E}{e:Mi.Env}{x:D}(h:a e=.ok x):mN cR [a] e=.ok (.lst [x]):=by rw[fW h];exact aK (by simp)
theorem lC{a b:E}{e:Mi.Env}{x y:D}(h:a e=.ok x)(h':b e=.ok y):mN dTup [a,b] e=.ok (.tup [x,y]):=by rw[zi h h'];exact aK (by simp)
theorem IZ{f:Fn}{a:EW}{e:Mi.Env}{x:W}{d:D}(h:a e=.ok x)(hf:f [x]=.ok (.d d)):ba f [a] e=.ok d:=by unfold ba gy;rw[dE,h];simp only[aR,dE,hf,rR]
theorem call2{f:Fn}{a b:EW}{e:Mi.Env}{x y:W}{d:D}(h:a e=.ok x)(h':b e=.ok y)(hf:f [x,y]=.ok (.d d)):ba f [a,b] e=.ok d:=by unfold ba gy;rw[dE,h,aR,dE,h'];simp only[aR,dE,hf,rR]
theorem k9{f:Fn}{a b c:EW}{e:Mi.Env}{x y z:W}{d:D}(h:a e=.ok x)(h':b e=.ok y)(h'':c e=.ok z)(hf:f [x,y,z]=.ok (.d d)):ba f [a,b,c] e=.ok d:=by unfold ba gy;rw[dE,h,aR,dE,h',aR,dE,h''];simp only[aR,dE,hf,rR]
theorem NI{f:Fn}{a b:EW}{e:Mi.Env}{x y:W}{d:D}(h:a e=.ok x)(h':b e=.ok y)(hf:f [x,y]=.ok (.d d))(hi:nz d=true):sM f [a,b] e=.ok d:=by unfold sM gy;rw[dE,h,aR,dE,h'];simp only[aR,dE,hf,OW,aK hi]
theorem gq{α:Type}{tg:Tg}{c:C}{a:E}{e:Mi.Env}(f g:α->D)(p:α->Bool):∀(xs:List α),(∀x∈xs,∃e1,tg.put (f x) e=.ok e1/\c e1=.ok (p x)/\(p x=true->a e1=.ok (g x)))->cY tg c a e (xs.map f)=.ok ((xs.filter p).map g)
 |[],_=>rfl
 |x::r,h=>by
  obtain⟨e1,h1,h2,h3⟩:=h x bP;have ih:=gq (tg:=tg) (c:=c) (a:=a) (e:=e) f g p r λy hy=>h y (cy _ hy);rw[cW,cY,h1,aR,h2,aR];cases hp:p x with
  |true=>rw[aN rfl,h3 hp,aR,ih,aR,mI hp];rfl
  |false=>rw[aP c7,ih,qg (by rw[hp];exact c7)]
theorem gZ{tg:Tg}{body:S}(Inv:Nat->Mi.Env->Prop):∀(xs:List D) (k:Nat),(∀i x e,xs[i]? = aa x->Inv (k+i) e->∃e1 e2,tg.put x e=.ok e1/\body e1=.ok (.nx e2)/\Inv (k+i+1) e2)->∀e,Inv k e->∃e',gN tg body xs e=.ok (.nx e')/\Inv (k+xs.length) e'
 |[],k,_,e,h=>⟨e,rfl,h⟩
 |x::r,k,hs,e,h=>by
  obtain⟨e1,e2,h1,h2,h3⟩:=hs 0 x e rfl h;obtain⟨e',h4,h5⟩:=gZ Inv r (k+1) (λi y e hy hi=>by
   have:=hs (i+1) y e (by simpa using hy) (by rw[show k+(i+1)=k+1+i by omega];exact hi);rw[show k+(i+1)+1=k+1+i+1 by omega]at this;exact this) e2 h3
  refine⟨e',?_,by rw[bQ,show k+(r.length+1)=k+1+r.length by omega];exact h5⟩;rw[gN,h1,aR,h2,aR];exact h4
end Mi
namespace Mr
open PySem Mi
abbrev Ar:=Str×Str
def pairD(p:Ar):D:=.tup [.str p.1,.str p.2]
def cF(ab:List Str):D:=.tup (ab.map D.str)
def eF(aq:List Ar):D:=.tup (aq.map pairD)
def aE(ab:List Str)(aq:List Ar):D:=.tup [cF ab,eF aq]
def ak(xs:List Str):D:=.lst (xs.map D.str)
theorem at0{α:Type}(a:α)(r:List α):dg (a::r) 0=aa a:=by simp[dg,ed]
theorem at1{α:Type}(a b:α)(r:List α):dg (a::b::r) 1=aa b:=by unfold dg ed;rw[aN (by decide),aN (by simp only[bQ];omega)];rfl
theorem kB(ab:List Str)(aq:List Ar):aO (aE ab aq) (.int 0)=.ok (cF ab):=by unfold aE aO;simp[at0]
theorem mv(ab:List Str)(aq:List Ar):aO (aE ab aq) (.int 1)=.ok (eF aq):=by unfold aE aO;simp[at1]
theorem u6{ab asked:List Str}(h:∀x∈asked,x∈ab):iY [.d (cF ab),.d (ak asked)]=.ok (.d .non):=by
 have key:∀(xs:List Str) (o:Option W),(∀x∈xs,x∈ab)->∃o',gN (.n 2) (bK (cB (m2 e5 (mV 2) (mV 0))) qU bZ) (xs.map D.str) [aa (.d (cF ab)),aa (.d (ak asked)),o]=.ok (.nx [aa (.d (cF ab)),aa (.d (ak asked)),o']):=by
  intro xs
  induction xs with
  |nil=>exactλo _=>⟨o,rfl⟩
  |cons x r ih=>
   intro o hx;obtain⟨o',e⟩:=ih (aa (.d (.str x))) λy hy=>hx y (cy _ hy);refine⟨o',?_⟩;rw[cW,gN];have:x∈ab:=hx x bP;simp only[cF,Lp,GZ,G0,bK,cB,m2,mV,bZ,aR,j1,j3,L6,this,decide_true,Bool.not_true,uK,mU,eO];exact e
 obtain⟨o',e⟩:=key asked ac h;unfold ak at e;unfold iY Di;rw[iW];simp only[dv,bM,mV,ak,Nat.reduceSub,List.replicate_succ,GY,zD,vB,j1,j3,aR,Mk,e,Mf]
def gW(aq:List Ar)(x:Str):List Str:=(aq.filter λp=>decide (p.2=x)).map (·.1)
theorem PL{ab:List Str}{aq:List Ar}{x:Str}(hx:x∈ab)(hl:aq.length<=64):rS [.d (aE ab aq),.d (.str x)]=.ok (.d (.tup ((gW aq x).map D.str))):=by
 have hr:=u6 (ab:=ab) (asked:=[x]) (by simpa using hx);unfold rS A4;rw[iW];have hc:cY (.t [1,2]) (cB (m2 bY (mV 2) (mV 0))) (mV 1) [aa (.d (.str x)),ac,ac] (aq.map pairD)=.ok ((aq.filter λp=>decide (p.2=x)).map λp=>D.str p.1):=gq pairD (λp=>D.str p.1) (λp=>decide (p.2=x)) aq λp _=>⟨[aa (.d (.str x)),aa (.d (.str p.1)),aa (.d (.str p.2))],rfl,by simp only[cB,m2,mV,j1,j3,aR,mn,uK],λ_=>by simp only[mV,j1,j3]⟩
 have hg:bc (([D.str x]:List D).length<=16777216) (Rs.ok (D.lst [D.str x]))=.ok (.lst [.str x]):=aK (by simp);unfold ak at hr;have hp:fZ [aa 1,ac,ac] [aa (W.d (aE ab aq)),aa (W.d (D.str x))]=[aa (.d (.str x)),ac,ac]:=rfl;simp only[bQ,j5,dM,Cw]at hg;simp only[cW,vC,aF,fV,ba,gy,dE,wD,m2,mV,Nat.reduceSub,GY,zD,vB,j3,mC,aR,kB,mN,fY,j1,cR,bQ,j5,dM,Cw,bH]at hr ⊢;rw[hr];simp only[aR,rR,cr,bM,m2,mV,mC,j3,mv,eF,IT,hp];rw[aK (by rw[aQ];omega),hc];simp only[aR,J6,NQ,gW,cX];rfl
def ready(aq:List Ar)(told:List Str)(x:Str):Bool:=!decide (x∈told)&&(gW aq x).all λy=>decide (y∈told)
def nxt(ab:List Str)(aq:List Ar)(told:List Str):Option Str:=ab.find? (ready aq told)
theorem Bc{aq:List Ar}{x:Str}(hl:aq.length<=64):(gW aq x).length<=64:=by unfold gW;rw[aQ];exact dR (mK _ _) hl
structure lZ(ab:List Str)(aq:List Ar):Prop where
 nd:ab.Nodup
 pos:1<=ab.length
 le:ab.length<=8
 al:aq.length<=64
 tl:∀p∈aq,p.1∈ab
 rk:∃r:Str->Int,∀p∈aq,r p.1<r p.2
theorem Gj{aq:List Ar}{x y:Str}:y∈gW aq x↔(y,x)∈aq:=by
 unfold gW;constructor
 ·intro h;obtain⟨p,hp,rfl⟩:=bR.mp h;obtain⟨h1,h2⟩:=dL.mp hp;have:p.2=x:=by simpa using h2
  rw[<- this];exact h1
 ·intro h;exact bR.mpr ⟨(y,x),dL.mpr ⟨h,by simp⟩,rfl⟩
def ord(ab:List Str)(aq:List Ar):Nat->List Str
 |0=>[]
 | k+1=>match nxt ab aq (ord ab aq k)with
  |some x=>ord ab aq k++[x]
  |none=>ord ab aq k
theorem g9{α:Type}[DecidableEq α]:∀{l m:List α},l.Nodup->(∀x∈l,x∈m)->l.length<=m.length
 |[],_,_,_=>eK _
 |a::l,m,nd,h=>by
  have nd:=j4.mp nd;have:l.length<=(m.erase a).length:=g9 nd.2 λx hx=>(List.mem_erase_of_ne (λz:x=a=>nd.1 (z ▸ hx))).mpr (h x (cy _ hx));have hm:=h a bP;rw[List.length_erase_of_mem hm]at this;have:0<m.length:=zr hm;rw[bQ];omega
end Mr
namespace Mr
open PySem Mi
theorem Bs:∀xs ys:List Str,gV (xs.map D.str) (ys.map D.str)=decide (xs=ys)
 |[],[]=>rfl
 |[],_::_=>rfl
 |_::_,[]=>rfl
 |x::xs,y::ys=>by
  rw[cW,cW,gV,uH,Bs xs ys];by_cases h1:x=y<;>by_cases h2:xs=ys<;>simp[h1,h2]
theorem K5(xs ys:List Str):fO (ak xs) (ak ys)=.ok (.bl (!decide (xs=ys))):=by unfold fO ak;rw[aK (by simp),bD,Bs]
end Mr
namespace My
def wl:List Nat:=[101,116,97,111,105,110,115,104,114,100,108,117,99,109,102,119,121,112,118,98,103,107,113,106,120,122]
def fF(n:Int):Nat:=wl.getD (n%26).toNat 0
def ft(c:Int):List Nat:=(bT 8).map λ(k:Nat)=>fF (c/(4+3*(k:Int)))
def fN(c:Int)(n:Nat):List Nat:=(bT n).map λ(k:Nat)=>fF (c/32+5*(k:Int)+(k:Int)*(k:Int))
def words(c:Int)(many:Nat):List (List Nat):=
 if c%4<2 then
  if c%4=0 then(bT many).map λ(k:Nat)=>(ft c).take (k+1)
  else(bT many).map λ(k:Nat)=>(ft c).drop (7-k)
 else
  (bT many).map λ(k:Nat)=>(fN c (c/4%8).toNat).take (c/256%(c/4%8+1)).toNat++[fF (c/7+5*(k:Int))]++(fN c (c/4%8).toNat).drop (c/256%(c/4%8+1)).toNat
def fg(x:List Nat):Prop:=1<=x.length/\x.length<=8/\∀c∈x,97<=c/\c<=122
theorem xg:∀c∈wl,97<=c/\c<=122:=by decide
theorem Kx:wl.Nodup:=by decide
theorem uL:wl.length=26:=by decide
theorem y9(n:Int):fF n∈wl:=by
 unfold fF;have h1:=gc n (b:=26) (by decide);have h2:=gI n (b:=26) (by decide);have h3:(n%26).toNat<wl.length:=by rw[uL];omega
 rw[eS,eU h3];exact qj h3
theorem Ox{n m:Int}(h:fF n=fF m):n%26=m%26:=by
 unfold fF at h;have h1:=gc n (b:=26) (by decide);have h2:=gI n (b:=26) (by decide);have h3:(n%26).toNat<wl.length:=by rw[uL];omega
 have h1':=gc m (b:=26) (by decide);have h2':=gI m (b:=26) (by decide);have h3':(m%26).toNat<wl.length:=by rw[uL];omega
 rw[eS,eU h3,eS,eU h3']at h;have:=(lI Kx).mp h;omega
theorem km(c:Int):(ft c).length=8:=by simp[ft]
theorem pw(c:Int)(n:Nat):(fN c n).length=n:=by simp[fN]
theorem FO(c:Int):∀x∈ft c,97<=x/\x<=122:=λx hx=>by
 obtain⟨k,_,rfl⟩:=bR.mp hx;exact xg _ (y9 _)
theorem DR(c:Int)(n:Nat):∀x∈fN c n,97<=x/\x<=122:=λx hx=>by
 obtain⟨k,_,rfl⟩:=bR.mp hx;exact xg _ (y9 _)
theorem qG(c:Int)(many:Nat):(words c many).length=many:=by unfold words;split<;>(try split)<;>simp
theorem wS{α:Type}(f:Nat->α)(n:Nat)(h:∀i j,i<n->j<n->f i=f j->i=j):((bT n).map f).Nodup:=by
 induction n with
 |zero=>simp
 |succ n ih=>
  rw[List.range_succ,fH,List.map_singleton];rw[iD];refine⟨ih λi j hi hj=>h i j (by omega) (by omega),by simp,λa ha b hb=>?_⟩;obtain⟨i,hi,rfl⟩:=bR.mp ha;have hi:=f8.mp hi;have hb:b=f n:=by simpa using hb
  subst hb;intro e;have:=h i n (by omega) (by omega) e;omega
theorem rq(c:Int)(many:Nat)(hm:many<=8):(words c many).Nodup:=by
 unfold words;split
 ·split
  ·refine wS _ _ λi j hi hj e=>?_;have:=congrArg zE e;rw[i5,i5,km]at this;omega
  ·refine wS _ _ λi j hi hj e=>?_;have:=congrArg zE e;rw[kN,kN,km]at this;omega
 ·refine wS _ _ λi j hi hj e=>?_;rw[qi,qi]at e;have e1:=List.append_cancel_left e;have e2:=List.append_cancel_right e1;have e3:fF (c/7+5*(i:Int))=fF (c/7+5*(j:Int)):=by simpa using e2
  have:=Ox e3;omega
theorem fG(c:Int)(many:Nat)(hm:many<=8):∀x∈words c many,fg x:=by
 unfold words;split
 ·split
  ·intro x hx;obtain⟨k,hk,rfl⟩:=bR.mp hx;have hk:=f8.mp hk;refine⟨by rw[i5,km];omega,by rw[i5,km];omega,λy hy=>FO c y (vv hy)⟩
  ·intro x hx;obtain⟨k,hk,rfl⟩:=bR.mp hx;have hk:=f8.mp hk;refine⟨by rw[kN,km];omega,by rw[kN,km];omega,λy hy=>FO c y (GV hy)⟩
 ·intro x hx;obtain⟨k,hk,rfl⟩:=bR.mp hx;have h1:=gc (c/4) (b:=8) (by decide);have h2:=gI (c/4) (b:=8) (by decide);have h3:=gc (c/256) (b:=c/4%8+1) (by omega);have h4:=gI (c/256) (b:=c/4%8+1) (by omega);have hl:((fN c (c/4%8).toNat).take (c/256%(c/4%8+1)).toNat++[fF (c/7+5*(k:Int))]++(fN c (c/4%8).toNat).drop (c/256%(c/4%8+1)).toNat).length=(c/4%8).toNat+1:=by
   rw[cC,cC,i5,kN,pw];simp;omega
  refine⟨by rw[hl];omega,by rw[hl];omega,λy hy=>?_⟩;rcases dA.mp hy with hy|hy
  ·rcases dA.mp hy with hy|hy
   ·exact DR c _ y (vv hy)
   ·have:y=fF (c/7+5*(k:Int)):=by simpa using hy
    subst this;exact xg _ (y9 _)
  ·exact DR c _ y (GV hy)
end My
namespace Mi
open PySem
def S'(l:List Nat):Str:=⟨l.toArray⟩
theorem uV(l:List Nat):(S' l).cps.toList=l:=rfl
theorem jM(l:List Nat):(S' l).length=l.length:=by simp[S',oF]
theorem M1{x y:Str}(h:x.cps.toList=y.cps.toList):x=y:=by obtain⟨a⟩:=x;obtain⟨b⟩:=y;have h:a.toList=b.toList:=h;rw[wf.mp h]
theorem ON{l m:List Nat}(h:S' l=S' m):l=m:=by have:=congrArg (λx:Str=>x.cps.toList) h;simpa [S']using this
theorem O9(l m:List Nat):S' l++S' m=S' (l++m):=by show(⟨l.toArray++m.toArray⟩ : Str)=⟨(l++m).toArray⟩;simp
theorem Ep:∀l:List Str,(jC "" l).cps.toList=l.flatMap (·.cps.toList)
 |[]=>by simp[jC,eV]
 |[x]=>by simp[jC]
 |x::y::r=>by
  have ih:=Ep (y::r);have e:jC "" (x::y::r)=x ++ "" ++ jC "" (y::r):=rfl;have e2:("" : Str).cps.toList=[]:=by decide +kernel
  rw[e];show((x.cps++("" : Str).cps)++(jC "" (y::r)).cps).toList=_;rw[we,we,e2,ih];simp
theorem join_ones(l:List Nat):jC "" (l.map λx=>S' [x])=S' l:=by
 refine M1 ?_;rw[Ep,uV]
 induction l with
 |nil=>rfl
 |cons a r ih=>rw[cW,lH,ih];rfl
theorem IU{α:Type}(xs:List α)(k:Nat):jp xs ac (aa (k:Int))=xs.take k:=by
 show(xs.drop 0).take ((if(k:Int)<0 then((k:Int)+(xs.length:Int)).toNat else min (k:Int).toNat xs.length)-0)=_;rw[aP (by omega),sW,Nat.sub_zero,lM];rcases Nat.le_total k xs.length with h|h
 ·rw[Nat.min_eq_left h]
 ·rw[Nat.min_eq_right h,sP (bq _),sP h]
theorem Dy{α:Type}(xs:List α)(k:Nat):jp xs (aa (k:Int)) ac=xs.drop k:=by
 show(xs.drop (if(k:Int)<0 then((k:Int)+(xs.length:Int)).toNat else min (k:Int).toNat xs.length)).take (xs.length-(if(k:Int)<0 then((k:Int)+(xs.length:Int)).toNat else min (k:Int).toNat xs.length))=_;rw[aP (by omega),lM];rcases Nat.le_total k xs.length with h|h
 ·rw[Nat.min_eq_left h];exact sP (by rw[kN];exact bq _)
 ·rw[Nat.min_eq_right h,vt (bq _),vt h];simp
theorem C9(l:List Nat)(k:Nat):l0 (S' l) ac (aa (k:Int))=S' (l.take k):=by unfold l0;rw[uV,IU];rfl
theorem Ct(l:List Nat)(k:Nat):l0 (S' l) (aa (k:Int)) ac=S' (l.drop k):=by unfold l0;rw[uV,Dy];rfl
def cI:Str := "etaoinshrdlucmfwypvbgkqjxz"
theorem Nb:cI.cps.toList=My.wl:=by decide +kernel
theorem Lv:cI.length<=16777216:=by decide +kernel
theorem y0{α:Type}{xs:List α}{i:Int}(h0:0<=i)(h1:i<xs.length)(d:α):dg xs i=aa (xs.getD i.toNat d):=by
 unfold dg ed;rw[aN h0,aN h1];have h3:i.toNat<xs.length:=by omega
 show xs[i.toNat]? = _;rw[eS,eU h3];rfl
theorem KU(n:Int):dg cI.cps.toList (n%26)=aa (My.fF n):=by rw[Nb];have h1:=gc n (b:=26) (by decide);have h2:=gI n (b:=26) (by decide);exact y0 h1 (by rw[My.uL];omega) 0
theorem qO{cs:List Int}{i:Int}(h0:0<=i)(h1:i<cs.length):aO (.lst (cs.map D.int)) (.int i)=.ok (.int (cs.getD i.toNat 0)):=by
 show cQ (dg (cs.map D.int) i)=_;rw[y0 h0 (by rw[aQ];exact h1) (.int 0),jR];have h3:i.toNat<cs.length:=by omega
 rw[eS,cZ,eS,eU h3];rfl
theorem FX{cs:List Str}{i:Int}(h0:0<=i)(h1:i<cs.length):aO (.lst (cs.map D.str)) (.int i)=.ok (.str (cs.getD i.toNat eV)):=by
 show cQ (dg (cs.map D.str) i)=_;rw[y0 h0 (by rw[aQ];exact h1) (.str eV),jR];have h3:i.toNat<cs.length:=by omega
 rw[eS,cZ,eS,eU h3];rfl
theorem yp(n:Nat):dC 0 (n:Int)=(bT n).map λ(k:Nat)=>D.int (k:Int):=by unfold dC;rw[show((n:Int)-0).toNat=n by omega];exact zw λk _=>by rw[Int.zero_add]
theorem kA(n:Nat):(dC 0 (n:Int)).length=n:=by rw[yp];simp
theorem rA{n i:Nat}{x:D}(h:(dC 0 (n:Int))[i]? = aa x):i<n/\x=.int (i:Int):=by
 rw[yp,cZ]at h;cases hr:(bT n)[i]? with
 |none=>rw[hr]at h;cases h
 |some k=>
  rw[hr]at h;obtain⟨h1,h2⟩:=ca.mp hr;rw[G1]at h2;subst h2;rw[zA]at h1;exact⟨h1,(fj h).symm⟩
theorem pE{tg:Tg}{a:E}{e:Mi.Env}(g:Nat->D)(n:Nat)(h:∀k<n,∃e1,tg.put (.int (k:Int)) e=.ok e1/\a e1=.ok (g k)):cY tg en a e (dC 0 (n:Int))=.ok ((bT n).map g):=by
 rw[yp,gq (λ(k:Nat)=>D.int (k:Int)) g (λ_=>true) (bT n) λk hk=>?_]
 ·rw[qh.mpr λ_ _=>rfl]
 ·obtain⟨e1,h1,h2⟩:=h k (f8.mp hk);exact⟨e1,h1,rfl,λ_=>h2⟩
theorem qX{i:Int}(h0:-1000<=i)(h1:i<=1000):okR i:=by unfold okR;omega
theorem iM{i j:Int}(h0:-(2 ^ 64)<i)(h1:i<2 ^ 64):lE i j:=.inl ⟨h0,h1⟩
theorem pj{i j:Int}(h0:-(2 ^ 64)<j)(h1:j<2 ^ 64):lE i j:=.inr ⟨h0,h1⟩
theorem iJ{j:Int}(h0:0<j)(h1:j<2 ^ 64):li j:=by
 refine⟨h0,?_⟩;have h2:j.natAbs<2 ^ 64:=by omega
 have h3:j.natAbs≠0:=by omega
 have:=(Nat.log2_lt h3).mpr h2;omega
end Mi
namespace Mr
open PySem Mi
open My (words ft fN fF km pw qG rq)
theorem xN(n:Int):aO (.str cI) (.int (n%26))=.ok (.str (S' [fF n])):=by show bc _ _=_;rw[aK Lv,KU];rfl
theorem CA(l:List Nat)(h:l.length<=8):t9 (.str "") (.lst (l.map λx=>D.str (S' [x])))=.ok (.str (S' l)):=by
 show(cQ (jr (l.map λx=>D.str (S' [x])))).bind _=_;have e:l.map (λx=>D.str (S' [x]))=(l.map λx=>S' [x]).map D.str:=by rw[cX];rfl
 rw[e,Dk,jR,aR,aK ?_,join_ones];have h1:((l.map λx=>S' [x]).map (·.length)).sum=l.length:=by
  clear h e
  induction l with
  |nil=>rfl
  |cons a r ih=>rw[cW,cW,List.sum_cons,ih,jM,bQ];simp;omega
 have h2:("" : Str).length=0:=by decide +kernel
 rw[h1,h2];omega
theorem st1(c:Int)(k:Nat)(d32:li 32)(m5:lE 5 (k:Int))(mk:lE (k:Int) k):(m2 a9 (m2 a9 (m2 cx (mV 1) (mC (.int 32))) (m2 bL (mC (.int 5)) (mV 2))) (m2 bL (mV 2) (mV 2))) [aa (.d (.str cI)),aa (.d (.int c)),aa (.d (.int k))]=.ok (.int (c/32+5*(k:Int)+(k:Int)*(k:Int))):=(aA (aA (aA rfl rfl (aK d32)) (aA rfl rfl (aK m5)) rfl) (aA rfl rfl (aK mk)) rfl)
theorem st2(c:Int)(e:Mi.Env)(a:E)(h:a e=.ok (.int c))(h0:e[0]? = aa (aa (.d (.str cI)))):m2 aO (mV 0) (m2 bi a (mC (.int 26))) e=.ok (.str (S' [fF c])):=aA (x:=.str cI) (by unfold mV;rw[h0]) (aA h rfl (aK (by decide))) (xN _)
theorem O5{k n:Nat}(h:k<n)(h8:n<8):lE (k:Int) k:=iM (by omega) (by omega)
theorem size_of(c:Int):∃n:Nat,c/4%8=(n:Int)/\n<8:=by have z1:=gc (c/4) (b:=8) (by decide);have z2:=gI (c/4) (b:=8) (by decide);exact⟨(c/4%8).toNat,by omega,by omega⟩
theorem at_of(c:Int)(n:Nat):∃t:Nat,c/256%((n:Int)+1)=(t:Int)/\t<=n:=by have z3:=gc (c/256) (b:=(n:Int)+1) (by omega);have z4:=gI (c/256) (b:=(n:Int)+1) (by omega);exact⟨(c/256%((n:Int)+1)).toNat,by omega,by omega⟩
theorem Ma(c:Int)(m:Nat)(hm:m<=8):sB [.d (.int c),.d (.int (m:Int))]=.ok (.d (ak ((words c m).map S'))):=by
 unfold sB Bk;rw[lr];have hr8:okR 8:=qX (by decide) (by decide);have hrm:okR (m:Int):=qX (by omega) (by omega);have hl0:(PySem.Str.ofString "etaoinshrdlucmfwypvbgkqjxz")=cI:=rfl;have g4:∀r:Rs D,bc ((0:Int)<4) r=r:=λr=>aK (by decide);have g26:∀r:Rs D,bc ((0:Int)<26) r=r:=λr=>aK (by decide);have g8:∀r:Rs D,bc ((0:Int)<8) r=r:=λr=>aK (by decide);by_cases c1:c%4<2
 ·have Ie:cY (.n 2) en (m2 aO (mV 0) (m2 bi (m2 cx (mV 1) (m2 a9 (mC (.int 4)) (m2 bL (mC (.int 3)) (mV 2)))) (mC (.int 26)))) [aa (.d (.str cI)),aa (.d (.int c)),ac] (dC 0 8)=.ok ((ft c).map λx=>D.str (S' [x])):=by
   have:=pE (tg:=.n 2) (a:=m2 aO (mV 0) (m2 bi (m2 cx (mV 1) (m2 a9 (mC (.int 4)) (m2 bL (mC (.int 3)) (mV 2)))) (mC (.int 26)))) (e:=[aa (.d (.str cI)),aa (.d (.int c)),ac]) (λk=>D.str (S' [fF (c/(4+3*(k:Int)))])) 8 λk hk=>⟨[aa (.d (.str cI)),aa (.d (.int c)),aa (.d (.int k))],rfl,by
    simp only[m2,mV,j3,j1,mC,aR,pJ];rw[aK (iM (by decide) (by decide))];simp only[aR,n6,div_ii];rw[aK (iJ (by omega) (by omega))];simp only[aR,mq,g26,xN]⟩
   rw[show((8:Nat):Int)=8 from rfl]at this;rw[this];unfold ft;rw[cX];rfl
  have hp:fZ [aa 2,aa 0,ac] [aa (.d (.int c)),aa (.d (.int (m:Int))),aa (.d (.str cI)),ac,ac,ac,ac]=[aa (.d (.str cI)),aa (.d (.int c)),ac]:=rfl;have hj:=CA (ft c) (by rw[km];omega);have hw8:(dC 0 8).length<=16777216:=by rw[show(8:Int)=((8:Nat):Int)from rfl,kA];omega
  have hwm:(dC 0 (m:Int)).length<=16777216:=by rw[kA];omega
  by_cases c2:c%4=0
  ·have hc:cY (.n 1) en (gj ik (mV 0) ac (aa (m2 a9 (mV 1) (mC (.int 1))))) [aa (.d (.str (S' (ft c)))),ac] (dC 0 (m:Int))=.ok ((words c m).map λl=>D.str (S' l)):=by
    rw[pE (λk=>D.str (S' ((ft c).take (k+1)))) m λk hk=>⟨[aa (.d (.str (S' (ft c)))),aa (.d (.int k))],rfl,by
     simp only[gj,mV,j3,k5,m2,j1,mC,aR,n6,mD,xw];rw[aK (by rw[jM,km];omega),show(k:Int)+1=((k+1:Nat):Int)by omega,C9]⟩]
    unfold words;rw[aN c1,aN c2,cX];rfl
   have hp2:∀z,fZ [aa 3,ac] [aa (.d (.int c)),aa (.d (.int (m:Int))),aa (.d (.str cI)),aa z,ac,ac,ac]=[aa z,ac]:=λ_=>rfl;have hmod:cB (m2 eG (m2 bi (mV 0) (mC (.int 4))) (mC (.int 2))) [aa (.d (.int c)),aa (.d (.int (m:Int))),aa (.d (.str cI)),ac,ac,ac,ac]=.ok true:=cp ((aA (aA rfl rfl (g4 _)) rfl rfl).trans (by rw[vi,cv c1]))
   have AB:cB (m2 bY (m2 bi (mV 0) (mC (.int 4))) (mC (.int 0))) [aa (.d (.int c)),aa (.d (.int (m:Int))),aa (.d (.str cI)),aa (.d (.str (S' (ft c)))),ac,ac,ac]=.ok true:=cp ((aA (aA rfl rfl (g4 _)) rfl rfl).trans (by rw[uS,cv c2]))
   show Rs.bind _ jU=_;rw[aV (e':=[aa (.d (.int c)),aa (.d (.int (m:Int))),aa (.d (.str cI)),ac,ac,ac,ac]) (bI rfl)];refine(congrArg (λr=>Rs.bind r jU) (na (w:=.d (ak ((words c m).map S'))) ?_)).trans rfl;rw[gC hmod,aV (e':=[aa (.d (.int c)),aa (.d (.int (m:Int))),aa (.d (.str cI)),aa (.d (.str (S' (ft c)))),ac,ac,ac]) (bI (aA rfl (fc (iK rfl hr8) hw8 Ie) hj))];rw[na ((gC AB).trans (dN (bV (fc (iK rfl hrm) hwm hc))))];rw[ak,cX];rfl
  ·have hc:cY (.n 1) en (gj ik (mV 0) (aa (m2 jS (mC (.int 7)) (mV 1))) ac) [aa (.d (.str (S' (ft c)))),ac] (dC 0 (m:Int))=.ok ((words c m).map λl=>D.str (S' l)):=by
    rw[pE (λk=>D.str (S' ((ft c).drop (7-k)))) m λk hk=>⟨[aa (.d (.str (S' (ft c)))),aa (.d (.int k))],rfl,by
     simp only[gj,mV,j3,k5,m2,mC,j1,aR,O6,mD,xw];rw[aK (by rw[jM,km];omega),show(7:Int)-(k:Int)=((7-k:Nat):Int)by omega,Ct]⟩]
    unfold words;rw[aN c1,aP c2,cX];rfl
   have hp2:∀z,fZ [aa 3,ac] [aa (.d (.int c)),aa (.d (.int (m:Int))),aa (.d (.str cI)),aa z,ac,ac,ac]=[aa z,ac]:=λ_=>rfl;have hmod:cB (m2 eG (m2 bi (mV 0) (mC (.int 4))) (mC (.int 2))) [aa (.d (.int c)),aa (.d (.int (m:Int))),aa (.d (.str cI)),ac,ac,ac,ac]=.ok true:=cp ((aA (aA rfl rfl (g4 _)) rfl rfl).trans (by rw[vi,cv c1]))
   have AB:cB (m2 bY (m2 bi (mV 0) (mC (.int 4))) (mC (.int 0))) [aa (.d (.int c)),aa (.d (.int (m:Int))),aa (.d (.str cI)),aa (.d (.str (S' (ft c)))),ac,ac,ac]=.ok false:=cp ((aA (aA rfl rfl (g4 _)) rfl rfl).trans (by rw[uS,dj c2]))
   show Rs.bind _ jU=_;rw[aV (e':=[aa (.d (.int c)),aa (.d (.int (m:Int))),aa (.d (.str cI)),ac,ac,ac,ac]) (bI rfl)];refine(congrArg (λr=>Rs.bind r jU) (na (w:=.d (ak ((words c m).map S'))) ?_)).trans rfl;rw[gC hmod,aV (e':=[aa (.d (.int c)),aa (.d (.int (m:Int))),aa (.d (.str cI)),aa (.d (.str (S' (ft c)))),ac,ac,ac]) (bI (aA rfl (fc (iK rfl hr8) hw8 Ie) hj))];rw[aV (dY AB),dN (bV (fc (iK rfl hrm) hwm hc))];rw[ak,cX];rfl
 ·obtain⟨n,hn,hn8⟩:=size_of c;obtain⟨t,ht,ht8⟩:=at_of c n;have hrn:okR (n:Int):=qX (by omega) (by omega);have d4:li 4:=iJ (by decide) (by decide);have d32:li 32:=iJ (by decide) (by decide);have Qf:li 256:=iJ (by decide) (by decide);have d7:li 7:=iJ (by decide) (by decide);have Qg:cY (.n 2) en (m2 aO (mV 0) (m2 bi (m2 a9 (m2 a9 (m2 cx (mV 1) (mC (.int 32))) (m2 bL (mC (.int 5)) (mV 2))) (m2 bL (mV 2) (mV 2))) (mC (.int 26)))) [aa (.d (.str cI)),aa (.d (.int c)),ac] (dC 0 (n:Int))=.ok ((fN c n).map λx=>D.str (S' [x])):=by
   rw[pE (λk=>D.str (S' [fF (c/32+5*(k:Int)+(k:Int)*(k:Int))])) n λk hk=>⟨[aa (.d (.str cI)),aa (.d (.int c)),aa (.d (.int k))],rfl,by
    exact st2 _ _ _ (st1 c k d32 (iM (by decide) (by decide)) (O5 hk hn8)) rfl⟩]
   unfold fN;rw[cX];rfl
  have hp:fZ [aa 2,aa 0,ac] [aa (.d (.int c)),aa (.d (.int (m:Int))),aa (.d (.str cI)),ac,aa (.d (.int (n:Int))),ac,ac]=[aa (.d (.str cI)),aa (.d (.int c)),ac]:=rfl;have hj:=CA (fN c n) (by rw[pw];omega);have hwn:(dC 0 (n:Int)).length<=16777216:=by rw[kA];omega
  have hwm:(dC 0 (m:Int)).length<=16777216:=by rw[kA];omega
  have hc:cY (.n 4) en (m2 a9 (m2 a9 (gj ik (mV 0) ac (aa (mV 2))) (m2 aO (mV 1) (m2 bi (m2 a9 (m2 cx (mV 3) (mC (.int 7))) (m2 bL (mC (.int 5)) (mV 4))) (mC (.int 26))))) (gj ik (mV 0) (aa (mV 2)) ac))
   [aa (.d (.str (S' (fN c n)))),aa (.d (.str cI)),aa (.d (.int (t:Int))),aa (.d (.int c)),ac] (dC 0 (m:Int))=.ok ((words c m).map λl=>D.str (S' l)):=by
   rw[pE (λk=>D.str (S' ((fN c n).take t++[fF (c/7+5*(k:Int))]++(fN c n).drop t))) m λk hk=>⟨[aa (.d (.str (S' (fN c n)))),aa (.d (.str cI)),aa (.d (.int (t:Int))),aa (.d (.int c)),aa (.d (.int k))],rfl,by
    have gS:∀r:Rs D,bc ((S' (fN c n)).length<=16777216) r=r:=λr=>aK (by rw[jM,pw];omega);have gM:∀r:Rs D,bc (lE 5 (k:Int)) r=r:=λr=>aK (iM (by decide) (by decide));simp only[m2,gj,mV,j3,k5,j1,aR,mD,xw,C9,gS,mC,div_ii,aK d7,pJ,gM,n6,mq,g26,xN,Gy,Ct];rw[aK (by rw[jM,jM,i5,pw];simp;omega)];simp only[O9,aR,Gy];rw[aK (by rw[jM,jM,cC,i5,kN,pw];simp;omega)]⟩]
   unfold words;rw[aP c1,cX,hn,ht];rfl
  have hmod:cB (m2 eG (m2 bi (mV 0) (mC (.int 4))) (mC (.int 2))) [aa (.d (.int c)),aa (.d (.int (m:Int))),aa (.d (.str cI)),ac,ac,ac,ac]=.ok false:=cp ((aA (aA rfl rfl (g4 _)) rfl rfl).trans (by rw[vi,dj c1]))
  show Rs.bind _ jU=_;rw[aV (e':=[aa (.d (.int c)),aa (.d (.int (m:Int))),aa (.d (.str cI)),ac,ac,ac,ac]) (bI rfl)];rw[aV (dY hmod)];rw[aV (e':=[aa (.d (.int c)),aa (.d (.int (m:Int))),aa (.d (.str cI)),ac,aa (.d (.int (n:Int))),ac,ac]) (bI (d:=.int (n:Int)) ((aA (aA rfl rfl (aK d4)) rfl (g8 _)).trans (by rw[hn])))];rw[aV (e':=[aa (.d (.int c)),aa (.d (.int (m:Int))),aa (.d (.str cI)),ac,aa (.d (.int (n:Int))),aa (.d (.str (S' (fN c n)))),ac]) (bI (aA rfl (fc (iK rfl hrn) hwn Qg) hj))];rw[aV (e':=[aa (.d (.int c)),aa (.d (.int (m:Int))),aa (.d (.str cI)),ac,aa (.d (.int (n:Int))),aa (.d (.str (S' (fN c n)))),aa (.d (.int (t:Int)))]) (bI (d:=.int (t:Int)) ((aA (aA rfl rfl (aK Qf)) (aA rfl rfl rfl) (aK (by omega))).trans (by rw[ht])))];rw[dN (bV (fc (iK rfl hrm) hwm hc))];simp only[aR,JK,ak,cX];rfl
end Mr
namespace Mr
open PySem Mi
open My (words qG rq fg)
theorem pF(n:Nat)(h:n<=8):okR (n:Int):=qX (by omega) (by omega)
theorem Mg{ls:List Int}{z:Int}(h0:0<=z)(h1:z<ls.length)(hl:ls.length<=100):jP (ls.map D.int) z=.ok (.int (ls.getD z.toNat 0),(ls.eraseIdx z.toNat).map D.int):=by
 have h3:z.toNat<ls.length:=by omega
 unfold jP;rw[aK (by omega),show ed (ls.map D.int).length z=aa z.toNat by
  unfold ed;rw[aN h0,aN (by rw[aQ];exact h1)],jR,aR,cZ,eU h3,eS,eU h3]
 show Rs.ok (D.int ls[z.toNat],(ls.map D.int).eraseIdx z.toNat)=_;have:∀(l:List Int) (k:Nat),(l.map D.int).eraseIdx k=(l.eraseIdx k).map D.int:=by
  intro l
  induction l with
  |nil=>intro k;rfl
  |cons a r ih=>
   intro k;cases k with
   |zero=>rfl
   |succ k=>rw[cW,zq,ih k];rfl
 rw[this];rfl
theorem l7(e:Mi.Env):mN cR [] e=.ok (.lst []):=by show bc (([]:List D).length<=16777216) (Rs.ok (D.lst []))=_;exact aK (by simp)
end Mr
namespace Mr
open PySem Mi
theorem N0{ls:List Int}{z v:Int}(h0:0<=z)(h1:z<ls.length):∃j,ed (ls.map D.int).length z=aa j/\(ls.map D.int).set j (.int v)=(ls.set j v).map D.int:=by
 refine⟨z.toNat,?_,?_⟩
 ·unfold ed;rw[aN h0,aN (by rw[aQ];exact h1)]
 ·rw[List.map_set]
theorem PF{i:Nat}{k a:E}{e:Mi.Env}{ls:List Int}{z v:Int}(ha:a e=.ok (.int v))(hk:k e=.ok (.int z))(hg:getL e i=.ok (ls.map D.int))(h0:0<=z)(h1:z<ls.length):∃ls':List Int,ls'.length=ls.length/\rO i k a e=.ok (.nx (putL e i (ls'.map D.int))):=by obtain⟨j,hj,hs⟩:=N0 (v:=v) h0 h1;refine⟨ls.set j v,by simp,?_⟩;unfold rO;rw[ha,aR,hk,aR,mD,aR,hg,aR,hj,jR,aR,hs]
end Mr
namespace Mr
open PySem Mi
abbrev Ix:=Nat×Nat
def dc(p q:Ix):Prop:=p.1<q.1\/(p.1=q.1/\p.2<q.2)
def nth(ab:List Str)(i:Nat):Str:=ab.getD i eV
def arrOf(ab:List Str)(p:Ix):Ar:=(nth ab p.1,nth ab p.2)
structure oW(ab:List Str)(A:List Ix)(r:Nat->Int):Prop where
 nd:ab.Nodup
 pos:1<=ab.length
 le:ab.length<=8
 fQ:A.Pairwise dc
 all:∀p∈A,p.1<ab.length/\p.2<ab.length/\r p.1<r p.2
 al:A.length<=64
theorem EI{ab:List Str}{i:Nat}(h:i<ab.length):nth ab i∈ab:=by unfold nth;rw[eS,eU h];exact qj h
theorem pc{ab:List Str}(nd:ab.Nodup){i j:Nat}(hi:i<ab.length)(hj:j<ab.length)(h:nth ab i=nth ab j):i=j:=by unfold nth at h;rw[eS,eU hi,eS,eU hj]at h;exact(lI nd).mp h
theorem Em{ab:List Str}{x:Str}(h:x∈ab):∃i,i<ab.length/\nth ab i=x:=by obtain⟨i,hi,e⟩:=zx h;refine⟨i,hi,?_⟩;unfold nth;rw[eS,eU hi];exact e
theorem oW.bv{ab:List Str}{A:List Ix}{r:Nat->Int}(N:oW ab A r):lZ ab (A.map (arrOf ab)):=by
 refine⟨N.nd,N.pos,N.le,by rw[aQ];exact N.al,λp hp=>?_,λx=>r (ab.idxOf x),λp hp=>?_⟩
 ·obtain⟨q,hq,rfl⟩:=bR.mp hp;exact EI (N.all q hq).1
 ·obtain⟨q,hq,rfl⟩:=bR.mp hp;obtain⟨h1,h2,h3⟩:=N.all q hq;have key:∀i,i<ab.length->ab.idxOf (nth ab i)=i:=λi hi=>by
   have hm:=EI hi;have hl:ab.idxOf (nth ab i)<ab.length:=vp hm;refine pc N.nd hl hi ?_;have h4:ab[ab.idxOf (nth ab i)]=nth ab i:=zy hl;show ab.getD (ab.idxOf (nth ab i)) eV=_;rw[eS,eU hl];exact h4
  show r (ab.idxOf (nth ab q.1))<r (ab.idxOf (nth ab q.2));rw[key _ h1,key _ h2];exact h3
def good(m:Nat)(r:Nat->Int)(A:List Ix)(j k:Nat):Prop:=A.Pairwise dc/\(∀p∈A,p.1<m/\p.2<m/\r p.1<r p.2/\(p.1<j\/(p.1=j/\p.2<k)))/\A.length<=8*j+k
theorem good.skip{m:Nat}{r:Nat->Int}{A:List Ix}{j k:Nat}(h:good m r A j k):good m r A j (k+1):=⟨h.1,λp hp=>⟨(h.2.1 p hp).1,(h.2.1 p hp).2.1,(h.2.1 p hp).2.2.1,by have:=(h.2.1 p hp).2.2.2;omega⟩,by have:=h.2.2;omega⟩
theorem good.add{m:Nat}{r:Nat->Int}{A:List Ix}{j k:Nat}(h:good m r A j k)(hj:j<m)(hk:k<m)(hr:r j<r k):good m r (A++[(j,k)]) j (k+1):=by
 refine⟨GW.mpr ⟨h.1,GR _ _,λp hp q hq=>?_⟩,λp hp=>?_,by rw[cC];have:=h.2.2;simp;omega⟩
 ·have:q=(j,k):=by simpa using hq
  subst this;have:=(h.2.1 p hp).2.2.2;exact this
 ·rcases dA.mp hp with hp|hp
  ·exact(h.skip.2.1 p hp)
  ·have:p=(j,k):=by simpa using hp
   subst this;exact⟨hj,hk,hr,.inr ⟨rfl,by omega⟩⟩
theorem good.next{m:Nat}{r:Nat->Int}{A:List Ix}{j k:Nat}(h:good m r A j k)(hk:k<=8):good m r A (j+1) 0:=⟨h.1,λp hp=>⟨(h.2.1 p hp).1,(h.2.1 p hp).2.1,(h.2.1 p hp).2.2.1,by have:=(h.2.1 p hp).2.2.2;omega⟩,by have:=h.2.2;omega⟩
def g7(ab:List Str)(A:List Ix):D:=.lst ((A.map (arrOf ab)).map pairD)
theorem N4{a:Int}(h0:0<=a)(h1:a<8):-(2 ^ 64)<a/\a<2 ^ 64/\0<=a*(a-1)/2/\a*(a-1)/2<=21:=by
 have:a=0\/a=1\/a=2\/a=3\/a=4\/a=5\/a=6\/a=7:=by omega
 rcases this with h|h|h|h|h|h|h|h<;>subst h<;>decide
end Mr
namespace Mr
open PySem Mi
open My (words qG rq)
theorem nh(ns:List Int)(k:Nat)(hk:k<=100):∃c:Int,eY [.d (.lst (ns.map D.int)),.d (.int (k:Int))]=.ok (.d (.int c)):=by
 unfold eY xb;rw[iW];have hl:mN cS [mV 0] [aa (.d (.lst (ns.map D.int))),aa (.d (.int (k:Int))),ac]=.ok (.int (ns.length:Int)):=by show Rs.ok (D.int ((ns.map D.int).length:Int))=_;rw[aQ]
 have c1:cB (m2 eG (mV 1) (mN cS [(mV 0)])) [aa (.d (.lst (ns.map D.int))),aa (.d (.int (k:Int))),ac]=.ok (decide ((k:Int)<(ns.length:Int))):=cp (aA rfl hl rfl);by_cases h:(k:Int)<(ns.length:Int)
 ·rw[cv h]at c1;exact⟨_,by
   rw[show([aa (W.d (.lst (ns.map D.int))),aa (.d (.int (k:Int)))]++dq (3-2) ac)=[aa (.d (.lst (ns.map D.int))),aa (.d (.int (k:Int))),ac]from rfl];rw[na ((gC c1).trans (dN (bV (aA rfl rfl (qO (by omega) h)))))];rfl⟩
 ·rw[dj h]at c1;have s1:bp 2 (m2 a9 (mC (.int 30011)) (m2 bL (m2 bL (mC (.int 709)) (mV 1)) (mV 1))) [aa (.d (.lst (ns.map D.int))),aa (.d (.int (k:Int))),ac]=.ok (.nx [aa (.d (.lst (ns.map D.int))),aa (.d (.int (k:Int))),aa (.d (.int (30011+709*(k:Int)*(k:Int))))]):=
   bI (aA rfl (aA (aA rfl rfl (aK (iM (by decide) (by decide)))) rfl (aK (pj (by omega) (by omega)))) rfl)
  have hl2:mN cS [mV 0] [aa (.d (.lst (ns.map D.int))),aa (.d (.int (k:Int))),aa (.d (.int (30011+709*(k:Int)*(k:Int))))]=.ok (.int (ns.length:Int)):=by show Rs.ok (D.int ((ns.map D.int).length:Int))=_;rw[aQ]
  have c2:cB (m2 nH (mN cS [(mV 0)]) (mC (.int 0))) [aa (.d (.lst (ns.map D.int))),aa (.d (.int (k:Int))),aa (.d (.int (30011+709*(k:Int)*(k:Int))))]=.ok (decide ((0:Int)<(ns.length:Int))):=cp (aA hl2 rfl rfl);by_cases h0:(0:Int)<(ns.length:Int)
  ·rw[cv h0]at c2;refine⟨_,by
    rw[show([aa (W.d (.lst (ns.map D.int))),aa (.d (.int (k:Int)))]++dq (3-2) ac)=[aa (.d (.lst (ns.map D.int))),aa (.d (.int (k:Int))),ac]from rfl];rw[aV ((dY c1).trans rfl),aV s1,aV ((gC c2).trans (bI (aA rfl (aA (aA (aA rfl rfl (qO (by decide) h0)) rfl (aK (by decide))) (aA (aA (aA rfl rfl (aK (iM (by omega) (by omega)))) (aA rfl rfl (aK (iM (by decide) (by decide)))) rfl) rfl rfl) (aK (iM ?_ ?_))) rfl)))];rfl⟩
   ·have:=gc (ns.getD (0:Int).toNat 0) (b:=99991) (by decide);omega
   ·have:=gI (ns.getD (0:Int).toNat 0) (b:=99991) (by decide);omega
  ·rw[dj h0]at c2;exact⟨_,by
    rw[show([aa (W.d (.lst (ns.map D.int))),aa (.d (.int (k:Int)))]++dq (3-2) ac)=[aa (.d (.lst (ns.map D.int))),aa (.d (.int (k:Int))),ac]from rfl];rw[aV ((dY c1).trans rfl),aV s1,aV ((dY c2).trans rfl)];rfl⟩
theorem Jv(d:Int)(m:Nat)(hm:m<=8):∃rs:List Int,rD [.d (.int d),.d (.int (m:Int))]=.ok (.d (.lst (rs.map D.int)))/\rs.length=m:=by
 unfold rD EQ;rw[lr];have hw:(dC 0 (m:Int)).length<=16777216:=by rw[kA];omega
 have hc:cY (.n 0) en (mV 0) [ac] (dC 0 (m:Int))=.ok ((bT m).map λ(k:Nat)=>D.int (k:Int)):=pE (λk=>D.int (k:Int)) m λk _=>⟨[aa (.d (.int k))],rfl,rfl⟩
 have hr:((bT m).map λ(k:Nat)=>D.int (k:Int))=((bT m).map λ(k:Nat)=>(k:Int)).map D.int:=by rw[cX];rfl
 rw[hr]at hc;obtain⟨e',h1,h2⟩:=gZ (tg:=.n 5) (body:=aF (bp 4 (m2 bi (m2 a9 (m2 a9 (m2 bL (mV 4) (mC (.int 48271))) (m2 bL (mC (.int 7)) (mV 5))) (mC (.int 1))) (mC (.int 2147483647)))) (ur 3 2 (m2 bi (m2 cx (mV 4) (mC (.int 32))) (mN cS [(mV 2)]))))
  (λi e=>∃(x:Int) (ls rs:List Int) (o:Option W),e=[aa (.d (.int d)),aa (.d (.int (m:Int))),aa (.d (.lst (ls.map D.int))),aa (.d (.lst (rs.map D.int))),aa (.d (.int x)),o]/\ls.length+i=m/\rs.length=i) (dC 0 (m:Int)) 0 (λi x e hx ⟨x0,ls,rs,o,he,hl,hrs⟩=>by
   obtain⟨hi,rfl⟩:=rA hx;subst he;rw[dM]at hl hrs;have hpos:(0:Int)<(ls.length:Int):=by omega
   obtain⟨y,hy⟩ : ∃y,y=(x0*48271+7*(i:Int)+1)%2147483647:=⟨_,rfl⟩;have z1:=gc (y/32) (b:=(ls.length:Int)) (by omega);have z2:=gI (y/32) hpos;refine⟨[aa (.d (.int d)),aa (.d (.int (m:Int))),aa (.d (.lst (ls.map D.int))),aa (.d (.lst (rs.map D.int))),aa (.d (.int x0)),aa (.d (.int (i:Int)))],[aa (.d (.int d)),aa (.d (.int (m:Int))),aa (.d (.lst ((ls.eraseIdx (y/32%(ls.length:Int)).toNat).map D.int))),aa (.d (.lst ((rs++[ls.getD (y/32%(ls.length:Int)).toNat 0]).map D.int))),aa (.d (.int y)),aa (.d (.int (i:Int)))],rfl,?_,y,ls.eraseIdx (y/32%(ls.length:Int)).toNat,rs++[ls.getD (y/32%(ls.length:Int)).toNat 0],aa (.d (.int (i:Int))),rfl,?_,?_⟩
   ·have h0:m2 bi (m2 cx (mV 4) (mC (.int 32))) (mN cS [(mV 2)]) [aa (.d (.int d)),aa (.d (.int (m:Int))),aa (.d (.lst (ls.map D.int))),aa (.d (.lst (rs.map D.int))),aa (.d (.int y)),aa (.d (.int (i:Int)))]=.ok (.int (y/32%(ls.length:Int))):=
     aA (x:=.int (y/32)) (y:=.int (ls.length:Int)) (aA rfl rfl (aK (iJ (by decide) (by decide)))) (by show Rs.ok (D.int ((ls.map D.int).length:Int))=_;rw[aQ]) (aK hpos)
    rw[aV (e':=[aa (.d (.int d)),aa (.d (.int (m:Int))),aa (.d (.lst (ls.map D.int))),aa (.d (.lst (rs.map D.int))),aa (.d (.int y)),aa (.d (.int (i:Int)))])]
    ·unfold ur;rw[h0];simp only[aR,mD,getL,j1,j3,Mg z1 z2 (by omega),putL,GZ,G0];rw[aK (by rw[aQ];omega),fH];rfl
    ·rw[hy];exact bI (aA (aA (aA (aA rfl rfl (aK (pj (by decide) (by decide)))) (aA rfl rfl (aK (iM (by decide) (by decide)))) rfl) rfl rfl) rfl (aK (by decide)))
   ·rw[List.length_eraseIdx_of_lt (by omega)];omega
   ·rw[cC,hrs];simp) [aa (.d (.int d)),aa (.d (.int (m:Int))),aa (.d (.lst (((bT m).map λ(k:Nat)=>(k:Int)).map D.int))),aa (.d (.lst [])),aa (.d (.int (d%2147483647))),ac] ⟨_,_,[],ac,rfl,by simp,rfl⟩
 obtain⟨d2,ls,rs,o,he,hl,hrs⟩:=h2;subst he;rw[kA,dM]at hl hrs;refine⟨rs,?_,hrs⟩;rw[aV (e':=[aa (.d (.int d)),aa (.d (.int (m:Int))),aa (.d (.lst (((bT m).map λ(k:Nat)=>(k:Int)).map D.int))),ac,ac,ac]) (bI (fc (iK rfl (pF m hm)) hw hc))];rw[aV (e':=[aa (.d (.int d)),aa (.d (.int (m:Int))),aa (.d (.lst (((bT m).map λ(k:Nat)=>(k:Int)).map D.int))),aa (.d (.lst [])),ac,ac]) (bI (l7 _))];rw[aV (e':=[aa (.d (.int d)),aa (.d (.int (m:Int))),aa (.d (.lst (((bT m).map λ(k:Nat)=>(k:Int)).map D.int))),aa (.d (.lst [])),aa (.d (.int (d%2147483647))),ac]) (bI (aA rfl rfl (aK (by decide))))];rw[aV ((gU (iK rfl (pF m hm))).trans h1)];rfl
end Mr
namespace Mr
open PySem Mi
open My (words qG rq)
theorem NO(ns:List Int){e:Mi.Env}{j k:Nat}(hj:j<8)(hk:k<8)(e0:mV 0 e=.ok (.lst (ns.map D.int)))(e7:mV 7 e=.ok (.int (j:Int)))(e8:mV 8 e=.ok (.int (k:Int))):∃c:Int,(ba eY [(wD (mV 0)),(wD (m2 a9 (m2 a9 (mC (.int 4)) (m2 cx (m2 bL (mN iV [(mV 7),(mV 8)]) (m2 jS (mN iV [(mV 7),(mV 8)]) (mC (.int 1)))) (mC (.int 2)))) (mN mE [(mV 7),(mV 8)])))]) e=.ok (.int c):=by have hx:mN iV [(mV 7),(mV 8)] e=.ok (.int (max (j:Int) (k:Int))):=(zi e7 e8).trans (Pw _ _);have hn:mN mE [(mV 7),(mV 8)] e=.ok (.int (min (j:Int) (k:Int))):=(zi e7 e8).trans (OY _ _);obtain⟨t1,t2,t3,t4⟩:=N4 (a:=max (j:Int) (k:Int)) (by omega) (by omega);obtain⟨z,hz⟩ : ∃z:Nat,4+max (j:Int) (k:Int)*(max (j:Int) (k:Int)-1)/2+min (j:Int) (k:Int)=(z:Int):=⟨(4+max (j:Int) (k:Int)*(max (j:Int) (k:Int)-1)/2+min (j:Int) (k:Int)).toNat,by omega⟩;obtain⟨c,hc⟩:=nh ns z (by omega);refine⟨c,call2 (bV e0) (bV (aA (aA rfl (aA (aA hx (aA hx rfl rfl) (aK (iM t1 t2))) rfl (aK (iJ (by decide) (by decide)))) rfl) hn rfl)) ?_⟩;rw[hz];exact hc
theorem O3(ns:List Int)(hi:Nat)(h0:1<=hi)(h2:hi<=8) :
 ∃ab A r,r9 [.d (.lst (ns.map D.int)),.d (.int (hi:Int))]=.ok (.d (aE ab (A.map (arrOf ab))))/\oW ab A r/\(∃(c:Int) (m:Nat),m<=8/\ab=(words c m).map S')/\∃c0:Int,eY [.d (.lst (ns.map D.int)),.d (.int 0)]=.ok (.d (.int c0))/\(ab.length:Int)=1+c0%(hi:Int):=by
 obtain⟨c0,hc0⟩:=nh ns 0 (by decide);obtain⟨c1,hc1⟩:=nh ns 1 (by decide);obtain⟨c2,hc2⟩:=nh ns 2 (by decide);obtain⟨c3,hc3⟩:=nh ns 3 (by decide);have hw:(0:Int)<(hi:Int):=by omega
 have q1:=gc c0 (b:=(hi:Int)) (by omega);have q2:=gI c0 hw;obtain⟨m,hm⟩ : ∃m:Nat,1+c0%(hi:Int)=(m:Int):=⟨(1+c0%(hi:Int)).toNat,by omega⟩;have hm1:1<=m:=by omega
 have hm2:m<=hi:=by omega
 have hm8:m<=8:=by omega
 obtain⟨ab,hnm⟩ : ∃ab,ab=(words c1 m).map S':=⟨_,rfl⟩;have hn:=Ma c1 m hm8;rw[<- hnm]at hn;have hnl:ab.length=m:=by rw[hnm,aQ];exact qG c1 m
 have hnd:ab.Nodup:=by rw[hnm];exact List.Pairwise.map _ (λa b h z=>h (ON z)) (rq _ _ hm8)
 obtain⟨rs,hr,hrl⟩:=Jv c2 m hm8;have q3:=gc c3 (b:=6) (by decide);have q4:=gI c3 (b:=6) (by decide);obtain⟨th,hth⟩ : ∃th,aO (.lst ([4,1,2,3,2,3].map D.int)) (.int (c3%6))=.ok (.int th):=⟨_,qO q3 (by simp;omega)⟩;have hrx:∀i:Nat,i<m->aO (.lst (rs.map D.int)) (.int (i:Int))=.ok (.int (rs.getD i 0)):=λi hi=>by
  have:=qO (cs:=rs) (i:=(i:Int)) (by omega) (by omega)
  rwa [lM]at this
 have hnx:∀i:Nat,i<m->aO (ak ab) (.int (i:Int))=.ok (.str (nth ab i)):=λi hi=>by
  have:=FX (cs:=ab) (i:=(i:Int)) (by omega) (by omega)
  rwa [lM]at this
 have inner:∀(j:Nat) (A:List Ix) (o8 o9:Option W),j<m->good m (λi=>rs.getD i 0) A j 0->∃(A':List Ix) (p8 p9:Option W),gN (.n 8) (aF (bp 9 (ba eY [(wD (mV 0)),(wD (m2 a9 (m2 a9 (mC (.int 4)) (m2 cx (m2 bL (mN iV [(mV 7),(mV 8)]) (m2 jS (mN iV [(mV 7),(mV 8)]) (mC (.int 1)))) (mC (.int 2)))) (mN mE [(mV 7),(mV 8)])))])) (bK (dX (cB (m2 eG (m2 aO (mV 4) (mV 7)) (m2 aO (mV 4) (mV 8)))) (cB (m2 eG (m2 bi (m2 cx (m2 bi (m2 bL (mV 9) (mC (.int 48271))) (mC (.int 2147483647))) (mC (.int 16))) (mC (.int 4))) (mV 5)))) (dS 6 (mN dTup [(m2 aO (mV 3) (mV 7)),(m2 aO (mV 3) (mV 8))])) bZ)) (dC 0 (m:Int)) [aa (.d (.lst (ns.map D.int))),aa (.d (.int (hi:Int))),aa (.d (.int (m:Int))),aa (.d (ak ab)),aa (.d (.lst (rs.map D.int))),aa (.d (.int th)),aa (.d (g7 ab A)),aa (.d (.int (j:Int))),o8,o9]=.ok (.nx [aa (.d (.lst (ns.map D.int))),aa (.d (.int (hi:Int))),aa (.d (.int (m:Int))),aa (.d (ak ab)),aa (.d (.lst (rs.map D.int))),aa (.d (.int th)),aa (.d (g7 ab A')),aa (.d (.int (j:Int))),p8,p9])/\good m (λi=>rs.getD i 0) A' (j+1) 0:=by
  intro j A o8 o9 hj hg;obtain⟨e',f1,A',p8,p9,he,hg'⟩:=gZ (tg:=.n 8) (body:=(aF (bp 9 (ba eY [(wD (mV 0)),(wD (m2 a9 (m2 a9 (mC (.int 4)) (m2 cx (m2 bL (mN iV [(mV 7),(mV 8)]) (m2 jS (mN iV [(mV 7),(mV 8)]) (mC (.int 1)))) (mC (.int 2)))) (mN mE [(mV 7),(mV 8)])))])) (bK (dX (cB (m2 eG (m2 aO (mV 4) (mV 7)) (m2 aO (mV 4) (mV 8)))) (cB (m2 eG (m2 bi (m2 cx (m2 bi (m2 bL (mV 9) (mC (.int 48271))) (mC (.int 2147483647))) (mC (.int 16))) (mC (.int 4))) (mV 5)))) (dS 6 (mN dTup [(m2 aO (mV 3) (mV 7)),(m2 aO (mV 3) (mV 8))])) bZ))) (λk e=>∃(A:List Ix) (o8 o9:Option W),e=[aa (.d (.lst (ns.map D.int))),aa (.d (.int (hi:Int))),aa (.d (.int (m:Int))),aa (.d (ak ab)),aa (.d (.lst (rs.map D.int))),aa (.d (.int th)),aa (.d (g7 ab A)),aa (.d (.int (j:Int))),o8,o9]/\good m (λi=>rs.getD i 0) A j k)
   (dC 0 (m:Int)) 0 (λk x e hx ⟨A,o8,o9,he,hg⟩=>by
    obtain⟨hk,rfl⟩:=rA hx;subst he;rw[dM]at hg;obtain⟨c,hc⟩:=NO ns (e:=[aa (.d (.lst (ns.map D.int))),aa (.d (.int (hi:Int))),aa (.d (.int (m:Int))),aa (.d (ak ab)),aa (.d (.lst (rs.map D.int))),aa (.d (.int th)),aa (.d (g7 ab A)),aa (.d (.int (j:Int))),aa (.d (.int (k:Int))),o9]) (j:=j) (k:=k) (by omega) (by omega) rfl rfl rfl;have c1:cB (m2 eG (m2 aO (mV 4) (mV 7)) (m2 aO (mV 4) (mV 8))) [aa (.d (.lst (ns.map D.int))),aa (.d (.int (hi:Int))),aa (.d (.int (m:Int))),aa (.d (ak ab)),aa (.d (.lst (rs.map D.int))),aa (.d (.int th)),aa (.d (g7 ab A)),aa (.d (.int (j:Int))),aa (.d (.int (k:Int))),aa (.d (.int c))]=.ok (decide (rs.getD j 0<rs.getD k 0)):=cp (aA (aA rfl rfl (hrx j hj)) (aA rfl rfl (hrx k hk)) rfl);have c2:cB (m2 eG (m2 bi (m2 cx (m2 bi (m2 bL (mV 9) (mC (.int 48271))) (mC (.int 2147483647))) (mC (.int 16))) (mC (.int 4))) (mV 5)) [aa (.d (.lst (ns.map D.int))),aa (.d (.int (hi:Int))),aa (.d (.int (m:Int))),aa (.d (ak ab)),aa (.d (.lst (rs.map D.int))),aa (.d (.int th)),aa (.d (g7 ab A)),aa (.d (.int (j:Int))),aa (.d (.int (k:Int))),aa (.d (.int c))]=.ok (decide (c*48271%2147483647/16%4<th)):=cp (aA (aA (aA (aA (aA rfl rfl (aK (pj (by decide) (by decide)))) rfl (aK (by decide))) rfl (aK (iJ (by decide) (by decide)))) rfl (aK (by decide))) rfl rfl);by_cases hb:rs.getD j 0<rs.getD k 0/\c*48271%2147483647/16%4<th
    ·refine⟨[aa (.d (.lst (ns.map D.int))),aa (.d (.int (hi:Int))),aa (.d (.int (m:Int))),aa (.d (ak ab)),aa (.d (.lst (rs.map D.int))),aa (.d (.int th)),aa (.d (g7 ab A)),aa (.d (.int (j:Int))),aa (.d (.int (k:Int))),o9],[aa (.d (.lst (ns.map D.int))),aa (.d (.int (hi:Int))),aa (.d (.int (m:Int))),aa (.d (ak ab)),aa (.d (.lst (rs.map D.int))),aa (.d (.int th)),aa (.d (g7 ab (A++[(j,k)]))),aa (.d (.int (j:Int))),aa (.d (.int (k:Int))),aa (.d (.int c))],rfl,?_,A++[(j,k)],aa (.d (.int (k:Int))),aa (.d (.int c)),rfl,by rw[dM];exact hg.add hj hk hb.1⟩;rw[aV (e':=[aa (.d (.lst (ns.map D.int))),aa (.d (.int (hi:Int))),aa (.d (.int (m:Int))),aa (.d (ak ab)),aa (.d (.lst (rs.map D.int))),aa (.d (.int th)),aa (.d (g7 ab A)),aa (.d (.int (j:Int))),aa (.d (.int (k:Int))),aa (.d (.int c))]) (bI hc)];rw[gC (by unfold dX;rw[c1,aR,cv hb.1,aN rfl,c2,cv hb.2])];rw[py (d:=pairD (nth ab j,nth ab k)) (ds:=(A.map (arrOf ab)).map pairD) (lC (aA rfl rfl (hnx j hj)) (aA rfl rfl (hnx k hk))) rfl (by rw[aQ,aQ];have:=hg.2.2;omega)];show Rs.ok (Out.nx [_,_,_,_,_,_,aa (W.d (D.lst ((A.map (arrOf ab)).map pairD++[pairD (nth ab j,nth ab k)]))),_,_,_])=_;rw[g7,fH,fH];rfl
    ·refine⟨[aa (.d (.lst (ns.map D.int))),aa (.d (.int (hi:Int))),aa (.d (.int (m:Int))),aa (.d (ak ab)),aa (.d (.lst (rs.map D.int))),aa (.d (.int th)),aa (.d (g7 ab A)),aa (.d (.int (j:Int))),aa (.d (.int (k:Int))),o9],[aa (.d (.lst (ns.map D.int))),aa (.d (.int (hi:Int))),aa (.d (.int (m:Int))),aa (.d (ak ab)),aa (.d (.lst (rs.map D.int))),aa (.d (.int th)),aa (.d (g7 ab A)),aa (.d (.int (j:Int))),aa (.d (.int (k:Int))),aa (.d (.int c))],rfl,?_,A,aa (.d (.int (k:Int))),aa (.d (.int c)),rfl,by rw[dM];exact hg.skip⟩;rw[aV (e':=[aa (.d (.lst (ns.map D.int))),aa (.d (.int (hi:Int))),aa (.d (.int (m:Int))),aa (.d (ak ab)),aa (.d (.lst (rs.map D.int))),aa (.d (.int th)),aa (.d (g7 ab A)),aa (.d (.int (j:Int))),aa (.d (.int (k:Int))),aa (.d (.int c))]) (bI hc)];rw[dY (by
      unfold dX;rw[c1,aR];by_cases hb1:rs.getD j 0<rs.getD k 0
      ·rw[cv hb1,aN rfl,c2,dj λz=>hb ⟨hb1,z⟩]
      ·rw[dj hb1,aP c7])]
     rfl) _ ⟨A,o8,o9,rfl,hg⟩
  subst he;rw[kA,dM]at hg';exact⟨A',p8,p9,f1,hg'.next hm8⟩
 obtain⟨e',f1,A,p7,p8,p9,he,hg⟩:=gZ (tg:=.n 7) (body:=(dv (gi (mV 2)) (.n 8) (aF (bp 9 (ba eY [(wD (mV 0)),(wD (m2 a9 (m2 a9 (mC (.int 4)) (m2 cx (m2 bL (mN iV [(mV 7),(mV 8)]) (m2 jS (mN iV [(mV 7),(mV 8)]) (mC (.int 1)))) (mC (.int 2)))) (mN mE [(mV 7),(mV 8)])))])) (bK (dX (cB (m2 eG (m2 aO (mV 4) (mV 7)) (m2 aO (mV 4) (mV 8)))) (cB (m2 eG (m2 bi (m2 cx (m2 bi (m2 bL (mV 9) (mC (.int 48271))) (mC (.int 2147483647))) (mC (.int 16))) (mC (.int 4))) (mV 5)))) (dS 6 (mN dTup [(m2 aO (mV 3) (mV 7)),(m2 aO (mV 3) (mV 8))])) bZ)))) (λj e=>∃(A:List Ix) (o7 o8 o9:Option W),e=[aa (.d (.lst (ns.map D.int))),aa (.d (.int (hi:Int))),aa (.d (.int (m:Int))),aa (.d (ak ab)),aa (.d (.lst (rs.map D.int))),aa (.d (.int th)),aa (.d (g7 ab A)),o7,o8,o9]/\good m (λi=>rs.getD i 0) A j 0)
  (dC 0 (m:Int)) 0 (λj x e hx ⟨A,o7,o8,o9,he,hg⟩=>by
   obtain⟨hj,rfl⟩:=rA hx;subst he;rw[dM]at hg;obtain⟨A',p8,p9,f1,hg'⟩:=inner j A o8 o9 hj hg;exact⟨_,_,rfl,(gU (iK rfl (pF m hm8))).trans f1,A',_,p8,p9,rfl,by rw[dM];exact hg'⟩)
  [aa (.d (.lst (ns.map D.int))),aa (.d (.int (hi:Int))),aa (.d (.int (m:Int))),aa (.d (ak ab)),aa (.d (.lst (rs.map D.int))),aa (.d (.int th)),aa (.d (.lst [])),ac,ac,ac] ⟨[],ac,ac,ac,rfl,z8,λp hp=>absurd hp (by simp),eK _⟩
 subst he;rw[kA,dM]at hg;refine⟨ab,A,λi=>rs.getD i 0,?_,⟨hnd,by omega,by omega,hg.1,λp hp=>?_,by have:=hg.2.2;omega⟩,⟨c1,m,hm8,hnm⟩,c0,hc0,by rw[hnl,<- hm]⟩
 ·unfold r9 D5;rw[iW];rw[show((0:Nat):Int)=0 from rfl]at hc0;rw[show((1:Nat):Int)=1 from rfl]at hc1;rw[show((2:Nat):Int)=2 from rfl]at hc2;rw[show((3:Nat):Int)=3 from rfl]at hc3;rw[aV (e':=[aa (.d (.lst (ns.map D.int))),aa (.d (.int (hi:Int))),aa (.d (.int (m:Int))),ac,ac,ac,ac,ac,ac,ac]) (bI (d:=.int (m:Int)) ((aA rfl (aA (call2 rfl rfl hc0) rfl (aK hw)) rfl).trans (by rw[n6,hm])))];rw[aV (e':=[aa (.d (.lst (ns.map D.int))),aa (.d (.int (hi:Int))),aa (.d (.int (m:Int))),aa (.d (ak ab)),ac,ac,ac,ac,ac,ac]) (bI (call2 (bV (call2 rfl rfl hc1)) rfl hn))];rw[aV (e':=[aa (.d (.lst (ns.map D.int))),aa (.d (.int (hi:Int))),aa (.d (.int (m:Int))),aa (.d (ak ab)),aa (.d (.lst (rs.map D.int))),ac,ac,ac,ac,ac]) (bI (call2 (bV (call2 rfl rfl hc2)) rfl hr))];have hl6:mN cR [(mC (.int 4)),(mC (.int 1)),(mC (.int 2)),(mC (.int 3)),(mC (.int 2)),(mC (.int 3))] [aa (.d (.lst (ns.map D.int))),aa (.d (.int (hi:Int))),aa (.d (.int (m:Int))),aa (.d (ak ab)),aa (.d (.lst (rs.map D.int))),ac,ac,ac,ac,ac]=.ok (.lst ([4,1,2,3,2,3].map D.int)):=by
   show bc (([4,1,2,3,2,3].map D.int).length<=16777216) _=_;exact aK (by simp)
  rw[aV (e':=[aa (.d (.lst (ns.map D.int))),aa (.d (.int (hi:Int))),aa (.d (.int (m:Int))),aa (.d (ak ab)),aa (.d (.lst (rs.map D.int))),aa (.d (.int th)),ac,ac,ac,ac]) (bI (aA hl6 (aA (call2 rfl rfl hc3) rfl (aK (by decide))) hth))];rw[aV (e':=[aa (.d (.lst (ns.map D.int))),aa (.d (.int (hi:Int))),aa (.d (.int (m:Int))),aa (.d (ak ab)),aa (.d (.lst (rs.map D.int))),aa (.d (.int th)),aa (.d (.lst [])),ac,ac,ac]) (bI (l7 _))];rw[aV ((gU (iK rfl (pF m hm8))).trans f1)];rw[dN (bV (lC (x:=cF ab) (y:=eF (A.map (arrOf ab))) (fW (x:=ak ab) rfl) (fW (x:=g7 ab A) rfl)))];rfl
 ·obtain⟨a,b,c,_⟩:=hg.2.1 p hp;exact⟨by omega,by omega,c⟩
end Mr
namespace Mr
open PySem Mi
theorem Fe:∀{ds:List D} {k i:Nat} {x:D},(i0 k ds)[i]? = aa x->∃d,ds[i]? = aa d/\x=.tup [.int ((k+i:Nat):Int),d]
 |[],_,_,_,h=>by simp[i0]at h
 |d::r,k,0,x,h=>by simp[i0]at h;exact⟨d,rfl,by rw[<- h];simp⟩
 |d::r,k,i+1,x,h=>by
  obtain⟨d',h1,h2⟩:=Fe (ds:=r) (k:=k+1) (i:=i) (x:=x) (by simpa [i0]using h);exact⟨d',by simpa using h1,by rw[h2,show k+1+i=k+(i+1)by omega]⟩
theorem I9(ns:List Int)(m:Nat)(h1:1<=m)(hm:m<=8):∃qs:List Int,sJ [.d (.lst (ns.map D.int)),.d (.int (m:Int))]=.ok (.d (.lst (qs.map D.int))):=by
 obtain⟨c,hc⟩:=nh ns 39 (by decide);rw[show((39:Nat):Int)=39 from rfl]at hc;unfold sJ Gi;rw[lr];obtain⟨xs,hxs⟩ : ∃xs:List Int,jp (ns.map D.int) (aa 40) (aa 63)=xs.map D.int:=⟨jp ns (aa 40) (aa 63),by unfold jp;simp only[aQ,List.map_drop,List.map_take]⟩;obtain⟨e',f1,ls,o3,o4,he,hls⟩:=gZ (tg:=.t [3,4]) (body:=(bK (cB (m2 eG (m2 a9 (mV 3) (mC (.int 1))) (mV 1)))
 (dS 2 (m2 bi (mV 4) (mC (.int 2147483647))))
 (rO 2 (m2 bi (mV 3) (mV 1)) (m2 bi (m2 a9 (m2 bL (m2 aO (mV 2) (m2 bi (mV 3) (mV 1))) (mC (.int 69621))) (mV 4)) (mC (.int 2147483647))))))
  (λi e=>∃(ls:List Int) (o3 o4:Option W),e=[aa (.d (.lst (ns.map D.int))),aa (.d (.int (m:Int))),aa (.d (.lst (ls.map D.int))),o3,o4]/\ls.length=min (i+1) m) (i0 0 (xs.map D.int)) 0 (λi x e hx ⟨ls,o3,o4,he,hls⟩=>by
   obtain⟨d,hd,rfl⟩:=Fe hx;subst he;rw[dM]at hls ⊢;obtain⟨v,rfl⟩ : ∃v:Int,d=.int v:=by obtain⟨v,_,rfl⟩:=bR.mp (jz hd);exact⟨v,rfl⟩
   have ct:cB (m2 eG (m2 a9 (mV 3) (mC (.int 1))) (mV 1)) [aa (.d (.lst (ns.map D.int))),aa (.d (.int (m:Int))),aa (.d (.lst (ls.map D.int))),aa (.d (.int (i:Int))),aa (.d (.int v))]=.ok (decide ((i:Int)+1<(m:Int))):=cp (aA (aA rfl rfl rfl) rfl rfl);by_cases hb:(i:Int)+1<(m:Int)
   ·rw[cv hb]at ct;refine⟨[aa (.d (.lst (ns.map D.int))),aa (.d (.int (m:Int))),aa (.d (.lst (ls.map D.int))),aa (.d (.int (i:Int))),aa (.d (.int v))],[aa (.d (.lst (ns.map D.int))),aa (.d (.int (m:Int))),aa (.d (.lst ((ls++[v%2147483647]).map D.int))),aa (.d (.int (i:Int))),aa (.d (.int v))],rfl,?_,ls++[v%2147483647],_,_,rfl,by rw[cC,hls];simp;omega⟩;rw[gC ct,py (d:=.int (v%2147483647)) (ds:=ls.map D.int) (aA rfl rfl (aK (by decide))) rfl (by rw[aQ];omega)];rw[fH];rfl
   ·rw[dj hb]at ct;have z0:=gc (i:Int) (b:=(m:Int)) (by omega);have z1:=gI (i:Int) (b:=(m:Int)) (by omega);have hk:∀e:Mi.Env,mV 3 e=.ok (.int (i:Int))->mV 1 e=.ok (.int (m:Int))->m2 bi (mV 3) (mV 1) e=.ok (.int ((i:Int)%(m:Int))):=λe a b=>aA a b (aK (by omega));have hix:aO (.lst (ls.map D.int)) (.int ((i:Int)%(m:Int)))=.ok (.int (ls.getD ((i:Int)%(m:Int)).toNat 0)):=qO z0 (by omega);have hv:m2 bi (m2 a9 (m2 bL (m2 aO (mV 2) (m2 bi (mV 3) (mV 1))) (mC (.int 69621))) (mV 4)) (mC (.int 2147483647)) [aa (.d (.lst (ns.map D.int))),aa (.d (.int (m:Int))),aa (.d (.lst (ls.map D.int))),aa (.d (.int (i:Int))),aa (.d (.int v))]=.ok (.int ((ls.getD ((i:Int)%(m:Int)).toNat 0*69621+v)%2147483647)):=
     aA (aA (aA (aA rfl (hk _ rfl rfl) hix) rfl (aK (pj (by decide) (by decide)))) rfl rfl) rfl (aK (by decide))
    obtain⟨ls',hl',hs⟩:=PF (i:=2) (e:=[aa (.d (.lst (ns.map D.int))),aa (.d (.int (m:Int))),aa (.d (.lst (ls.map D.int))),aa (.d (.int (i:Int))),aa (.d (.int v))]) (ls:=ls) hv (hk _ rfl rfl) rfl z0 (by omega);exact⟨[aa (.d (.lst (ns.map D.int))),aa (.d (.int (m:Int))),aa (.d (.lst (ls.map D.int))),aa (.d (.int (i:Int))),aa (.d (.int v))],[aa (.d (.lst (ns.map D.int))),aa (.d (.int (m:Int))),aa (.d (.lst (ls'.map D.int))),aa (.d (.int (i:Int))),aa (.d (.int v))],rfl,(dY ct).trans hs,ls',_,_,rfl,by omega⟩) [aa (.d (.lst (ns.map D.int))),aa (.d (.int (m:Int))),aa (.d (.lst ([c%2147483647].map D.int))),ac,ac] ⟨[c%2147483647],ac,ac,rfl,by simp;omega⟩
 subst he;refine⟨ls,?_⟩;rw[aV (e':=[aa (.d (.lst (ns.map D.int))),aa (.d (.int (m:Int))),aa (.d (.lst ([c%2147483647].map D.int))),ac,ac]) (bI (pH (aA (call2 rfl rfl hc) rfl (aK (by decide)))))];have hit:yh (gj ik (mV 0) (aa (mC (.int 40))) (aa (mC (.int 63)))) [aa (.d (.lst (ns.map D.int))),aa (.d (.int (m:Int))),aa (.d (.lst ([c%2147483647].map D.int))),ac,ac]=.ok (i0 0 (xs.map D.int)):=by rw[<- hxs];rfl
 rw[aV ((gU hit).trans f1)];rfl
end Mr
namespace Mr
open PySem Mi
inductive iI(aq:List Ar)(x:Str):Str->Prop
 |refl:iI aq x x
 |step {y z:Str}:iI aq x y->(y,z)∈aq->iI aq x z
structure Good(ab:List Str)(aq:List Ar)(x:Str)(met:List Str):Prop where
 nd:met.Nodup
 sub:∀y∈met,y∈ab
 r:∀y∈met,iI aq x y
 x:x∈met
def vh(aq:List Ar)(met:List Str):Prop:=∀p∈aq,p.1∈met->p.2∈met
theorem vh.all{aq:List Ar}{met:List Str}(h:vh aq met){x:Str}(hx:x∈met):∀{y:Str},iI aq x y->y∈met
 |_,.refl=>hx
 |_,.step r a=>h _ a (h.all hx r)
theorem Good.iff{ab:List Str}{aq:List Ar}{x:Str}{met:List Str}(g:Good ab aq x met)(h:vh aq met)(y:Str):y∈met↔iI aq x y:=⟨g.r y,h.all g.x⟩
end Mr
namespace Mr
open PySem Mi
noncomputable def rch (aq:List Ar) (x y:Str):Bool:=@decide (iI aq x y) (qv _)
theorem ym{aq:List Ar}{x y:Str}:rch aq x y=true↔iI aq x y:=by unfold rch;exact@ko _ (qv _)
noncomputable def mZ (ab:List Str) (aq:List Ar) (x:Str):List Str:=ab.filter (rch aq x)
theorem J2{aq:List Ar}{x:Str}{met:List Str}(h:∀y,y∈met↔iI aq x y)(y:Str):decide (y∈met)=rch aq x y:=by rw[oB,ym,ko];exact h y
def c8(fs:List Str):W:=.dk (fs.map λy=>((gf y:Ky),D.bl true))
theorem B5(fs:List Str)(y:Str):(jw (fs.map λy=>((gf y:Ky),D.bl true)) (gf y)).isSome=decide (y∈fs):=by
 unfold jw
 induction fs with
 |nil=>rfl
 |cons a r ih=>
  rw[cW,kP];by_cases h:a=y
  ·subst h;simp
  ·rw[dj (λz:(gf a:Ky)=gf y=>h (Ab z))];simp only[ih];rw[decide_eq_decide];exact⟨λz=>cy _ z,λz=>by
    rcases br.mp z with z|z
    ·exact absurd z.symm h
    ·exact z⟩
theorem BA{i:Nat}{k:E}{e:Mi.Env}{fs:List Str}{y:Str}(hk:k e=.ok (.str y))(hw:wV i e=.ok (c8 fs)):nE i k e=.ok (.bl (decide (y∈fs))):=by unfold nE;rw[hk,aR,hw,aR,<- B5];rfl
theorem Mt{i:Nat}{k:E}{e:Mi.Env}{fs:List Str}{y:Str}(hk:k e=.ok (.str y))(hw:wV i e=.ok (c8 fs)):gX i k e=.ok (.bl (!decide (y∈fs))):=by unfold gX;rw[hk,aR,hw,aR,<- B5];rfl
theorem Gm{i:Nat}{k:E}{e:Mi.Env}{fs:List Str}{y:Str}(hk:k e=.ok (.str y))(hw:wV i e=.ok (c8 fs))(hn:y∉fs)(hl:fs.length<=1000):d9 i k (mC (.bl true)) e=.ok (.nx (e.set i (aa (c8 (fs++[y]))))):=by
 unfold d9;have h1:ss (c8 fs) (.str y) (.bl true)=.ok (c8 (fs++[y])):=by
  show bc ((fs.map λy=>((gf y:Ky),D.bl true)).length<16777216) ((cQ (nq (.str y))).bind λk=>Rs.ok (W.dk (Mi.putK k (.bl true) (fs.map λy=>((gf y:Ky),D.bl true)))))=_;rw[aK (by rw[aQ];omega)];show Rs.ok (W.dk (Mi.putK (gf y:Ky) (.bl true) (fs.map λy=>((gf y:Ky),D.bl true))))=_;unfold Mi.putK;rw[aP (by
   rw[vD,Bool.not_eq_true,G2];intro z hz;simp only[Function.comp,jg];exactλq=>hn (Ab q ▸ hz))]
  unfold c8;rw[fH];rfl
 show(k e).bind _=_;rw[hk,aR,hw,aR,h1];rfl
structure pM(ab:List Str)(aq:List Ar)(x:Str)(h:Option Str)(fs ws:List Str):Prop where
 g:Good ab aq x fs
 wnd:ws.Nodup
 qC:∀y∈ws,y∈fs
 ex:∀y∈fs,y∉ws->h=aa y\/∀p∈aq,p.1=y->p.2∈fs
abbrev uR:S:=(aF (t0 5 4)
 (dv (bM (mV 1)) (.t [6,7])
 (bK (dX (cB (m2 bY (mV 6) (mV 5))) (cB (gX 3 (mV 7))))
 (aF (d9 3 (mV 7) (mC (.bl true)))
 (dS 4 (mV 7)))
 bZ)))
theorem Lw{ab:List Str}{aq:List Ar}(N:lZ ab aq)(hd:∀p∈aq,p.2∈ab){x h:Str}{fs ws:List Str}(w:pM ab aq x ac fs (ws++[h]))(o5 o6 o7:Option W) :
 ∃fs' ws' p6 p7,uR [aa (.d (cF ab)),aa (.d (eF aq)),aa (.d (.str x)),aa (c8 fs),aa (.d (ak (ws++[h]))),o5,o6,o7]=.ok (.nx [aa (.d (cF ab)),aa (.d (eF aq)),aa (.d (.str x)),aa (c8 fs'),aa (.d (ak ws')),aa (.d (.str h)),p6,p7]) /\
  pM ab aq x ac fs' ws'/\fs.length<=fs'.length/\ws'.length+fs.length=ws.length+fs'.length:=by
 have hnd:=iD.mp w.wnd;have hh:h∈fs:=w.qC h (by simp);have hnw:h∉ws:=λz=>hnd.2.2 h z h (by simp) rfl;obtain⟨e',f1,fs',ws',p6,p7,he,w',hl,hl2,hx,_⟩:=gZ (tg:=.t [6,7]) (body:=(bK (dX (cB (m2 bY (mV 6) (mV 5))) (cB (gX 3 (mV 7)))) (aF (d9 3 (mV 7) (mC (.bl true))) (dS 4 (mV 7))) bZ))
  (λi e=>∃(fs' ws':List Str) (o6 o7:Option W),e=[aa (.d (cF ab)),aa (.d (eF aq)),aa (.d (.str x)),aa (c8 fs'),aa (.d (ak ws')),aa (.d (.str h)),o6,o7]/\pM ab aq x (aa h) fs' ws'/\fs.length<=fs'.length/\ws'.length+fs.length=ws.length+fs'.length/\(∀j p,j<i->aq[j]? = aa p->p.1=h->p.2∈fs')/\h∈fs') (aq.map pairD) 0 (λi d e hi ⟨f1,w1,o6,o7,he,W1,hl,hl2,hx,hf1⟩=>by
   subst he;rw[dM]at hx ⊢;rw[cZ]at hi;obtain⟨p,hp,rfl⟩:=i7.mp hi;have hpm:=jz hp;have c1:cB (m2 bY (mV 6) (mV 5)) [aa (.d (cF ab)),aa (.d (eF aq)),aa (.d (.str x)),aa (c8 f1),aa (.d (ak w1)),aa (.d (.str h)),aa (.d (.str p.1)),aa (.d (.str p.2))]=.ok (decide (p.1=h)):=cp ((aA rfl rfl rfl).trans (mn _ _));have c2:cB (gX 3 (mV 7)) [aa (.d (cF ab)),aa (.d (eF aq)),aa (.d (.str x)),aa (c8 f1),aa (.d (ak w1)),aa (.d (.str h)),aa (.d (.str p.1)),aa (.d (.str p.2))]=.ok (!decide (p.2∈f1)):=cp (Mt rfl rfl);have hl8:f1.length<=8:=dR (g9 W1.g.nd W1.g.sub) N.le;have hw8:w1.length<=8:=dR (g9 W1.wnd (λy hy=>W1.g.sub y (W1.qC y hy))) N.le;by_cases hb:p.1=h/\p.2∉f1
   ·refine⟨[aa (.d (cF ab)),aa (.d (eF aq)),aa (.d (.str x)),aa (c8 f1),aa (.d (ak w1)),aa (.d (.str h)),aa (.d (.str p.1)),aa (.d (.str p.2))],[aa (.d (cF ab)),aa (.d (eF aq)),aa (.d (.str x)),aa (c8 (f1++[p.2])),aa (.d (ak (w1++[p.2]))),aa (.d (.str h)),aa (.d (.str p.1)),aa (.d (.str p.2))],rfl,?_,f1++[p.2],w1++[p.2],_,_,rfl,⟨⟨?_,λy hy=>?_,λy hy=>?_,eB _ W1.g.x⟩,?_,λy hy=>?_,λy hy hn=>?_⟩,by rw[cC];omega,by rw[cC,cC];simp;omega,λj q hj hq h1=>?_,eB _ hf1⟩
    ·rw[gC (by unfold dX;rw[c1,aR,cv hb.1,aN rfl,c2,dj hb.2];rfl)];rw[aV (Gm (y:=p.2) (fs:=f1) rfl rfl hb.2 (by omega))];rw[py (d:=.str p.2) (ds:=w1.map D.str) rfl rfl (by rw[aQ];omega)];show Rs.ok (Out.nx [_,_,_,_,aa (W.d (D.lst (w1.map D.str++[.str p.2]))),_,_,_])=_;rw[ak,fH];rfl
    ·exact iD.mpr ⟨W1.g.nd,by simp,λa ha b hb'=>by
      have:b=p.2:=by simpa using hb'
      subst this;exactλz=>hb.2 (z ▸ ha)⟩
    ·rcases dA.mp hy with z|z
     ·exact W1.g.sub y z
     ·have:y=p.2:=by simpa using z
      subst this;exact hd p hpm
    ·rcases dA.mp hy with z|z
     ·exact W1.g.r y z
     ·have:y=p.2:=by simpa using z
      subst this;exact .step (W1.g.r p.1 (hb.1 ▸ hf1)) hpm
    ·exact iD.mpr ⟨W1.wnd,by simp,λa ha b hb'=>by
      have:b=p.2:=by simpa using hb'
      subst this;exactλz=>hb.2 (z ▸ W1.qC a ha)⟩
    ·rcases dA.mp hy with z|z
     ·exact eB _ (W1.qC y z)
     ·exact dQ _ z
    ·rcases dA.mp hy with z|z
     ·rcases W1.ex y z (λq=>hn (eB _ q))with q|q
      ·exact .inl q
      ·exact .inr λr hr h1=>eB _ (q r hr h1)
     ·exact absurd (dQ _ z) hn
    ·by_cases hji:j=i
     ·subst hji;rw[hp]at hq;cases hq;simp
     ·exact eB _ (hx j q (by omega) hq h1)
   ·refine⟨[aa (.d (cF ab)),aa (.d (eF aq)),aa (.d (.str x)),aa (c8 f1),aa (.d (ak w1)),aa (.d (.str h)),aa (.d (.str p.1)),aa (.d (.str p.2))],[aa (.d (cF ab)),aa (.d (eF aq)),aa (.d (.str x)),aa (c8 f1),aa (.d (ak w1)),aa (.d (.str h)),aa (.d (.str p.1)),aa (.d (.str p.2))],rfl,?_,f1,w1,_,_,rfl,W1,hl,hl2,λj q hj hq h1=>?_,hf1⟩
    ·rw[dY (by
      unfold dX;rw[c1,aR];by_cases h1:p.1=h
      ·rw[cv h1,aN rfl,c2,cv (wa λz=>hb ⟨h1,z⟩)];rfl
      ·rw[dj h1,aP c7])]
     rfl
    ·by_cases hji:j=i
     ·subst hji;rw[hp]at hq;cases hq;exact wa λz=>hb ⟨h1,z⟩
     ·exact hx j q (by omega) hq h1) [aa (.d (cF ab)),aa (.d (eF aq)),aa (.d (.str x)),aa (c8 fs),aa (.d (ak ws)),aa (.d (.str h)),o6,o7]
  ⟨fs,ws,o6,o7,rfl,⟨w.g,hnd.1,λy hy=>w.qC y (eB _ hy),λy hy hn=>by
   by_cases hyh:y=h
   ·exact .inl (by rw[hyh])
   ·rcases w.ex y hy (λz=>by
     rcases dA.mp z with z|z
     ·exact hn z
     ·exact hyh (by simpa using z))with q|q
    ·cases q
    ·exact .inr q⟩,bq _,rfl,λj p hj=>absurd hj (qu _),hh⟩
 subst he;refine⟨fs',ws',p6,p7,?_,⟨w'.g,w'.wnd,w'.qC,λy hy hn=>.inr ?_⟩,hl,hl2⟩
 ·rw[show uR=aF (t0 5 4) (dv (bM (mV 1)) (.t [6,7]) (bK (dX (cB (m2 bY (mV 6) (mV 5))) (cB (gX 3 (mV 7)))) (aF (d9 3 (mV 7) (mC (.bl true))) (dS 4 (mV 7))) bZ))from rfl];rw[aV (e':=[aa (.d (cF ab)),aa (.d (eF aq)),aa (.d (.str x)),aa (c8 fs),aa (.d (ak ws)),aa (.d (.str h)),o6,o7]) (by
   show(cQ (((ws++[h]).map D.str)[((ws++[h]).map D.str).length-1]?)).bind _=_;have e1:((ws++[h]).map D.str)[((ws++[h]).map D.str).length-1]? = aa (.str h):=by simp
   have e2:((ws++[h]).map D.str).dropLast=ws.map D.str:=by simp
   rw[e1,jR,aR,e2];rfl)]
  exact(gU (fb (x:=eF aq) rfl rfl)).trans f1
 ·rcases w'.ex y hy hn with q|q
  ·cases q;intro p hp h1;obtain⟨j,hj⟩:=kM hp;exact hx j p (by rw[aQ];have:=(ca.mp hj).1;omega) hj h1
  ·exact q
end Mr
namespace Mr
open PySem Mi
theorem Dv{ab:List Str}{aq:List Ar}(N:lZ ab aq)(hd:∀p∈aq,p.2∈ab){x:Str}:∀(n:Nat) (fs ws:List Str) (o5 o6 o7:Option W),pM ab aq x ac fs ws->(ab.length-fs.length)+ws.length<n ->
 ∃fs' p5 p6 p7,jL (dP (mV 4)) uR n [aa (.d (cF ab)),aa (.d (eF aq)),aa (.d (.str x)),aa (c8 fs),aa (.d (ak ws)),o5,o6,o7]=.ok (.nx [aa (.d (cF ab)),aa (.d (eF aq)),aa (.d (.str x)),aa (c8 fs'),aa (.d (ak [])),p5,p6,p7])/\pM ab aq x ac fs' []
 |0,_,_,_,_,_,_,h=>absurd h (qu _)
 |n+1,fs,ws,o5,o6,o7,w,h=>by
  have hc:dP (mV 4) [aa (.d (cF ab)),aa (.d (eF aq)),aa (.d (.str x)),aa (c8 fs),aa (.d (ak ws)),o5,o6,o7]=.ok (!(ws.map D.str).isEmpty):=rfl;rcases List.eq_nil_or_concat ws with rfl|⟨ws1,y,rfl⟩
  ·exact⟨fs,o5,o6,o7,by rw[jL,hc];rfl,w⟩
  ·rw[List.concat_eq_append]at w h hc ⊢;obtain⟨fs',ws',p6,p7,f1,w',l1,l2⟩:=Lw N hd w o5 o6 o7;have l3:fs'.length<=ab.length:=g9 w'.g.nd w'.g.sub;obtain⟨fs2,q5,q6,q7,f2,w2⟩:=Dv N hd n fs' ws' (aa (.d (.str y))) p6 p7 w' (by rw[cC]at h;simp at h;omega);refine⟨fs2,q5,q6,q7,?_,w2⟩;rw[jL,hc,show(!((ws1++[y]).map D.str).isEmpty)=true by simp,aR,aN rfl,f1,aR];exact f2
theorem Mv{ab:List Str}{aq:List Ar}(N:lZ ab aq)(hd:∀p∈aq,p.2∈ab){x:Str}(hx:x∈ab):q9 [.d (cF ab),.d (eF aq),.d (.str x)]=.ok (.d (ak (mZ ab aq x))):=by
 have w0:pM ab aq x ac [x] [x]:=⟨⟨by simp,λy hy=>by simp at hy;subst hy;exact hx,λy hy=>by simp at hy;subst hy;exact .refl,by simp⟩,by simp,λy hy=>hy,λy hy hn=>absurd hy hn⟩;obtain⟨fs,p5,p6,p7,f1,w⟩:=Dv N hd 20 [x] [x] ac ac ac w0 (by have:=N.le;simp;omega);have hcl:vh aq fs:=λp hp h1=>by
  rcases w.ex p.1 h1 (by simp)with q|q
  ·cases q
  ·exact q p hp rfl
 unfold q9 D1;rw[yJ];rw[aV (e':=[aa (.d (cF ab)),aa (.d (eF aq)),aa (.d (.str x)),aa (c8 [x]),ac,ac,ac,ac]) rfl];rw[aV (e':=[aa (.d (cF ab)),aa (.d (eF aq)),aa (.d (.str x)),aa (c8 [x]),aa (.d (ak [x])),ac,ac,ac]) (bI (pH rfl))];rw[aV (show lw 20 (dP (mV 4)) uR _=_ from f1)];have hc:cY (.n 1) (cB (nE 0 (mV 1))) (mV 1) [aa (c8 fs),ac] (ab.map D.str)=.ok ((ab.filter (rch aq x)).map D.str):=
  gq D.str D.str _ ab λy _=>⟨[aa (c8 fs),aa (.d (.str y))],rfl,cp ((BA rfl rfl).trans (by rw[J2 (w.g.iff hcl)])),λ_=>rfl⟩
 rw[dN (bV (fc (fb (x:=cF ab) rfl rfl) (by rw[aQ];have:=N.le;omega) hc))];rfl
theorem KD{ab:List Str}{aq:List Ar}(N:lZ ab aq)(hd:∀p∈aq,p.2∈ab){x:Str}(hx:x∈ab):qK [.d (aE ab aq),.d (.str x)]=.ok (.d (ak (mZ ab aq x))):=by
 unfold qK Fy;rw[lr];have hr:iY [.d (cF ab),.d (ak [x])]=.ok (.d .non):=u6 λy hy=>by simp at hy;subst hy;exact hx
 rw[aV (e':=[aa (.d (aE ab aq)),aa (.d (.str x))]) (by unfold fV;rw[call2 (bV (aA rfl rfl (kB _ _))) (bV (pH rfl)) hr];rfl)];rw[dN (bV (k9 (bV (aA rfl rfl (kB _ _))) (bV (aA rfl rfl (mv _ _))) rfl (Mv N hd hx)))];rfl
noncomputable def hb (ab:List Str) (aq:List Ar) (ah:List Str) (x:Str):Bool:=(mZ ab aq x).any λy=>decide (y∈ah)
theorem Nh{ab:List Str}{aq:List Ar}(N:lZ ab aq)(hd:∀p∈aq,p.2∈ab){x:Str}(hx:x∈ab)(ah:List Str):pT [.d (aE ab aq),.d (.str x),.d (ak ah)]=.ok (.d (.bl (hb ab aq ah x))):=by
 unfold pT F7;rw[xh];have hc:cY (.n 1) en (m2 fM (mV 1) (mV 0)) [aa (.d (ak ah)),ac] ((mZ ab aq x).map D.str)=.ok (((mZ ab aq x).filter λ_=>true).map λy=>D.bl (decide (y∈ah))):=
  gq D.str (λy=>D.bl (decide (y∈ah))) _ _ λy _=>⟨[aa (.d (ak ah)),aa (.d (.str y))],rfl,rfl,λ_=>(aA rfl rfl rfl).trans (yU _ _)⟩
 rw[qh.mpr (λ_ _=>rfl)]at hc;have hl:((mZ ab aq x).map D.str).length<=16777216:=by rw[aQ];have:=mK (rch aq x) ab;have:=N.le;unfold mZ;omega
 rw[dN (bV ((fW (fc (fb (call2 rfl rfl (KD N hd hx)) rfl) hl hc)).trans (by rw[Pe,FH,jR,aR,vD];first|done|rfl)))];rfl
end Mr
namespace Mr
open PySem Mi
abbrev Kw:=Str×Str×Str
theorem Jm(ms:List Str)(x:Str):D.lst (ms.map D.str++[.str x])=ak (ms++[x]):=by unfold ak;rw[fH];rfl
end Mr
namespace Mr
open PySem Mi
def Ou(a:Ar)(aq:List Ar):List Ar:=aq.map λp=>if p=a then(p.2,p.1)else p
def Rk(aq:List Ar):Prop:=∃r:Str->Int,∀p∈aq,r p.1<r p.2
def vj(aq:List Ar)(a m b:Str):Bool:=(decide ((a,m)∈aq)&&decide ((b,m)∈aq)) && !(decide ((a,b)∈aq)||decide ((b,a)∈aq))
theorem C5{α β:Type}{f g:α->List β}:∀{l:List α},(∀x∈l,f x=g x)->l.flatMap f=l.flatMap g
 |[],_=>rfl
 |x::r,h=>by rw[lH,lH,h x bP,C5 λy hy=>h y (cy _ hy)]
theorem FE{ab:List Str}{i j:Nat}(h:i<j)(hj:j<ab.length):nth ab j∈ab.drop (i+1):=by refine List.mem_iff_getElem?.mpr ⟨j-(i+1),?_⟩;rw[List.getElem?_drop,show i+1+(j-(i+1))=j by omega];unfold nth;rw[eS,eU hj];rfl
end Mr
namespace Mr
open PySem Mi
theorem Pz{l:List Str}(nd:l.Nodup)(hl:l.length<=1000):rY [.d (ak l)]=.ok (.d .non):=by
 unfold rY FS;rw[xD];obtain⟨e',f1,o2,he⟩:=gZ (tg:=.n 2) (body:=(aF (bK (cB (nE 1 (mV 2))) qU bZ) (d9 1 (mV 2) (mC (.bl true)))))
  (λi e=>∃o2:Option W,e=[aa (.d (ak l)),aa (c8 (l.take i)),o2]) (l.map D.str) 0 (λi d e hi ⟨o2,he⟩=>by
   subst he;rw[dM];rw[cZ]at hi;obtain⟨x,hx,rfl⟩:=i7.mp hi;obtain⟨il,hxe⟩:=ca.mp hx;have hn:x∉l.take i:=λz=>by
    obtain⟨j,hj⟩:=kM z;have hj2:=(ca.mp hj).1;rw[i5]at hj2;rw[zp (by omega)]at hj;obtain⟨jl,hje⟩:=ca.mp hj;have:=(lI nd).mp (hje.trans hxe.symm);omega
   refine⟨[aa (.d (ak l)),aa (c8 (l.take i)),aa (.d (.str x))],[aa (.d (ak l)),aa (c8 (l.take (i+1))),aa (.d (.str x))],rfl,?_,_,rfl⟩;rw[aV (e':=[aa (.d (ak l)),aa (c8 (l.take i)),aa (.d (.str x))]) ((dY (cp ((BA (y:=x) (fs:=l.take i) rfl rfl).trans (by rw[dj hn])))).trans rfl)];rw[Gm (y:=x) (fs:=l.take i) rfl rfl hn (by rw[i5];omega)];rw[List.take_succ,hx];rfl) [aa (.d (ak l)),aa (c8 []),ac] ⟨ac,rfl⟩
 subst he;rw[aV (e':=[aa (.d (ak l)),aa (c8 []),ac]) rfl];rw[gU (fb (x:=ak l) rfl rfl),f1];rfl
end Mr
namespace Mr
open PySem Mi
end Mr
namespace Mr
open PySem Mi
def tie(aq:List Ar)(a b:Str):Bool:=decide ((a,b)∈aq)||decide ((b,a)∈aq)
theorem Fi{ab:List Str}{aq:List Ar}{e:Mi.Env}(e0:mV 0 e=.ok (aE ab aq)):mN cS [(m2 aO (mV 0) (mC (.int 0)))] e=.ok (.int (ab.length:Int)):=(fW (aA e0 rfl (kB _ _))).trans (by unfold cF;rw[NZ,aQ])
end Mr
namespace Mr
open PySem Mi
end Mr
namespace Mr
open PySem Mi
theorem N3(n:Nat)(x:Str):fw (n+1) [.d (.str x),.d (.str x)]=.ok (.d (.bl true)):=by
 show dG 2 4 (nG (fw n)) _=_;unfold nG;rw[iW];have c0:fq (cB (m1 (cP ["str"]) (mV 1))) (cB (m1 (cP ["int"]) (mV 1))) [aa (.d (.str x)),aa (.d (.str x)),ac,ac]=.ok true:=rfl;have c1:fq (cB (m2 fO (m1 (cP ["bool"]) (mV 0)) (m1 (cP ["bool"]) (mV 1)))) (cB (m2 fO (m1 (cP ["str"]) (mV 0)) (m1 (cP ["str"]) (mV 1)))) [aa (.d (.str x)),aa (.d (.str x)),ac,ac]=.ok false:=rfl;have c2:nO (m1 (cP ["int","str"]) (mV 0)) (m2 bY (mV 0) (mV 1)) [aa (.d (.str x)),aa (.d (.str x)),ac,ac]=.ok (.bl true):=by show m2 bY (mV 0) (mV 1) [aa (.d (.str x)),aa (.d (.str x)),ac,ac]=_;exact(aA rfl rfl rfl).trans ((mn x x).trans (by rw[cv rfl]))
 exact(congrArg (λr=>Rs.bind r ku) (na ((gC c0).trans ((aV ((dY c1).trans rfl)).trans (dN (bV c2)))))).trans rfl
theorem NU(n:Nat)(x:Bool):fw (n+1) [.d (.bl x),.d (.bl x)]=.ok (.d (.bl true)):=by
 show dG 2 4 (nG (fw n)) _=_;unfold nG;rw[iW];have c0:fq (cB (m1 (cP ["str"]) (mV 1))) (cB (m1 (cP ["int"]) (mV 1))) [aa (.d (.bl x)),aa (.d (.bl x)),ac,ac]=.ok true:=rfl;have c1:fq (cB (m2 fO (m1 (cP ["bool"]) (mV 0)) (m1 (cP ["bool"]) (mV 1)))) (cB (m2 fO (m1 (cP ["str"]) (mV 0)) (m1 (cP ["str"]) (mV 1)))) [aa (.d (.bl x)),aa (.d (.bl x)),ac,ac]=.ok false:=rfl;have c2:nO (m1 (cP ["int","str"]) (mV 0)) (m2 bY (mV 0) (mV 1)) [aa (.d (.bl x)),aa (.d (.bl x)),ac,ac]=.ok (.bl true):=by cases x<;>rfl
 exact(congrArg (λr=>Rs.bind r ku) (na ((gC c0).trans ((aV ((dY c1).trans rfl)).trans (dN (bV c2)))))).trans rfl
theorem LJ{a:E}{e:Mi.Env}(h:a e=.ok (.bl true)):eP (cB a) e=.ok false:=by unfold eP;rw[cp h];rfl
end Mr
namespace Mr
open PySem Mi
theorem zg{a b:C}{e:Mi.Env}{p q:Bool}(ha:a e=.ok p)(hb:p=true->b e=.ok q):dX a b e=.ok (p&&q):=by
 unfold dX;rw[ha,aR];cases p with
 |true=>rw[aN rfl,hb rfl];rfl
 |false=>rfl
theorem xT{a b:C}{e:Mi.Env}{p q:Bool}(ha:a e=.ok p)(hb:p=false->b e=.ok q):fq a b e=.ok (p||q):=by
 unfold fq;rw[ha,aR];cases p with
 |true=>rfl
 |false=>rw[aP c7,hb rfl];rfl
theorem rU{a:C}{e:Mi.Env}{p:Bool}(ha:a e=.ok p):eP a e=.ok (!p):=by unfold eP;rw[ha];rfl
theorem Lo{a b:E}{e:Mi.Env}{p q:Bool}(ha:a e=.ok (.bl p))(hb:p=true->b e=.ok (.bl q)):nO a b e=.ok (.bl (p&&q)):=by
 unfold nO;rw[ha,aR,uK,aR];cases p with
 |true=>rw[aN rfl,hb rfl];rfl
 |false=>rfl
theorem K0{f:List D->Rs D}{a b c:E}{e:Mi.Env}{x y z:D}(h:a e=.ok x)(h':b e=.ok y)(h'':c e=.ok z):mN f [a,b,c] e=f [x,y,z]:=by unfold mN;rw[fY,h,aR,fY,h',aR,fY,h''];rfl
theorem Fo{α:Type}{tg:Tg}{body:S}(f:α->D)(g:α->List D)(St:List D->Mi.Env->Prop):∀(xs:List α) (acc:List D) (e:Mi.Env),acc.length+(xs.flatMap g).length<=16777216->St acc e ->
 (∀x∈xs,∀acc e,acc.length+(g x).length<=16777216->St acc e->∃e1 e2,tg.put (f x) e=.ok e1/\body e1=.ok (.nx e2)/\St (acc++g x) e2) ->
 ∃e',gN tg body (xs.map f) e=.ok (.nx e')/\St (acc++xs.flatMap g) e'
 |[],acc,e,_,h,_=>⟨e,rfl,by simpa using h⟩
 |x::r,acc,e,hl,h,hs=>by
  rw[lH,cC]at hl;obtain⟨e1,e2,h1,h2,h3⟩:=hs x bP acc e (by omega) h;obtain⟨e',h4,h5⟩:=Fo f g St r (acc++g x) e2 (by rw[cC];omega) h3 λy hy=>hs y (cy _ hy);refine⟨e',?_,by rw[lH,<- qi];exact h5⟩;rw[cW,gN,h1,aR,h2,aR];exact h4
theorem uE{α β γ : Type}(f:β->γ)(g:α->List β):∀l:List α,(l.flatMap g).map f=l.flatMap λx=>(g x).map f
 |[]=>rfl
 |x::r=>by rw[lH,fH,uE f g r,lH]
theorem xJ{α β:Type}{g:α->List β}{m:Nat}:∀{l:List α},(∀x∈l,(g x).length<=m)->(l.flatMap g).length<=l.length*m
 |[],_=>by simp
 |x::r,h=>by
  have ih:=xJ (l:=r) λy hy=>h y (cy _ hy);have h1:=h x bP;rw[lH,cC,bQ,Nat.add_mul];omega
end Mr
namespace Mr
open PySem Mi
structure Nt(ab:List Str)(aq:List Ar):Prop where
 nd:ab.Nodup
 le:ab.length<=8
 al:aq.length<=64
 inn:∀p∈aq,p.1∈ab/\p.2∈ab
 rk:Rk aq
def cov(aq:List Ar)(p:Ar):Bool:=Kh (gW aq p.2) (gW aq p.1++[p.1])
end Mr
namespace Mr
open PySem Mi
def fQ(ab:List Str)(aq:List Ar):List Ar:=ab.flatMap λt=>(ab.filter λh=>decide ((t,h)∈aq)).map λh=>(t,h)
theorem CC{ab:List Str}{aq:List Ar}{p:Ar}:p∈fQ ab aq↔p∈aq/\p.1∈ab/\p.2∈ab:=by
 obtain⟨a,b⟩:=p;unfold fQ;simp only[sU,bR,dL,jg,Prod.mk.injEq];constructor
 ·rintro⟨t,ht,h,⟨h1,h2⟩,rfl,rfl⟩;exact⟨h2,ht,h1⟩
 ·rintro⟨h1,h2,h3⟩;exact⟨a,h2,b,⟨h3,h1⟩,rfl,rfl⟩
theorem Jq{ab:List Str}(hn:ab.length<=8)(aq:List Ar):(fQ ab aq).length<=64:=by unfold fQ;refine dR (xJ (m:=8) λt _=>?_) (by omega);rw[aQ];exact dR (mK _ _) hn
end Mr
namespace Mr
open PySem Mi
theorem FF:∀ds:List D,iR ds ds=ds.map λd=>D.tup [d,d]
 |[]=>rfl
 |d::r=>by rw[iR,FF r];rfl
def sq(k:Bool)(ds:List D):D:=if k then .lst ds else .tup ds
theorem Gz{F:Fn}(k:Bool)(ds:List D)(h:∀d∈ds,F [.d d,.d d]=.ok (.d (.bl true))):dG 2 4 (nG F) [.d (sq k ds),.d (sq k ds)]=.ok (.d (.bl true)):=by
 unfold nG;rw[iW];have c0:fq (cB (m1 (cP ["str"]) (mV 1))) (cB (m1 (cP ["int"]) (mV 1))) [aa (.d (sq k ds)),aa (.d (sq k ds)),ac,ac]=.ok false:=by cases k<;>rfl
 have c1:fq (cB (m2 fO (m1 (cP ["list"]) (mV 0)) (m1 (cP ["list"]) (mV 1)))) (eP (cB (m1 (cP ["list","tuple"]) (mV 0)))) [aa (.d (sq k ds)),aa (.d (sq k ds)),ac,ac]=.ok false:=by cases k<;>rfl
 have c2:cB (m2 fO (mN cS [(mV 0)]) (mN cS [(mV 1)])) [aa (.d (sq k ds)),aa (.d (sq k ds)),ac,ac]=.ok false:=by cases k<;>exact cp ((aA rfl rfl rfl).trans ((Ob _ _).trans (by rw[cv rfl];rfl)))
 obtain⟨e',f1,o2,o3,he⟩:=gZ (tg:=.t [2,3]) (body:=(bK (eP (cB (ba F [(wD (mV 2)),(wD (mV 3))]))) (bH (wD (mC (.bl false)))) bZ))
  (λi e=>∃o2 o3:Option W,e=[aa (.d (sq k ds)),aa (.d (sq k ds)),o2,o3]) (ds.map λd=>D.tup [d,d]) 0 (λi d e hi ⟨o2,o3,he⟩=>by
   subst he;rw[cZ]at hi;obtain⟨x,hx,rfl⟩:=i7.mp hi;have ct:eP (cB (ba F [(wD (mV 2)),(wD (mV 3))])) [aa (.d (sq k ds)),aa (.d (sq k ds)),aa (.d x),aa (.d x)]=.ok false:=LJ (call2 rfl rfl (h x (jz hx)));exact⟨[aa (.d (sq k ds)),aa (.d (sq k ds)),aa (.d x),aa (.d x)],_,rfl,(dY ct).trans rfl,_,_,rfl⟩) [aa (.d (sq k ds)),aa (.d (sq k ds)),ac,ac] ⟨ac,ac,rfl⟩
 subst he;have hit:yY (mV 0) (mV 1) [aa (.d (sq k ds)),aa (.d (sq k ds)),ac,ac]=.ok (ds.map λd=>D.tup [d,d]):=by rw[<- FF];cases k<;>rfl
 exact(congrArg (λr=>Rs.bind r ku) ((aV ((dY c0).trans rfl)).trans ((aV ((dY c1).trans rfl)).trans ((aV ((dY c2).trans rfl)).trans ((aV ((gU hit).trans f1)).trans (dN (bV rfl))))))).trans rfl
end Mr
namespace Mr
open PySem Mi
theorem tX:∀a b:List Int,fP a b=true->fP b a=true->False
 |[],[],h,_=>by cases h
 |[],_::_,_,h=>by cases h
 |_::_,[],h,_=>by cases h
 |a::r,b::t,h,k=>by
  rw[fP]at h k;by_cases e:a=b
  ·subst e;rw[aN (ig a)]at h k;exact tX r t h k
  ·rw[aP (by simpa using e)]at h;rw[aP (by simpa using d8 e)]at k;simp at h k;omega
theorem DF{a b:Int}{r t:List Int}(h:a<b):fP (a::r) (b::t)=true:=by rw[fP,aP (by simp;omega)];simpa using h
theorem LF{a:Int}{r t:List Int}:fP (a::r) (a::t)=fP r t:=by rw[fP,aN (ig a)]
section
variable{α:Type}(key:α->List Int)
theorem C4:∀{a b:List α},(∀x,x∈a↔x∈b)->a.Pairwise (λx y=>fP (key x) (key y)=true)->b.Pairwise (λx y=>fP (key x) (key y)=true)->a=b
 |[],[],_,_,_=>rfl
 |[],y::t,h,_,_=>absurd ((h y).mpr bP) (by simp)
 |x::r,[],h,_,_=>absurd ((h x).mp bP) (by simp)
 |x::r,y::t,h,ha,hb=>by
  have ha':=jA.mp ha;have hb':=jA.mp hb;have e:x=y:=by
   rcases br.mp ((h x).mp bP)with z|z
   ·exact z
   ·rcases br.mp ((h y).mpr bP)with z2|z2
    ·exact z2.symm
    ·exact(tX _ _ (hb'.1 x z) (ha'.1 y z2)).elim
  subst e;have nr:x∉r:=λz=>tX _ _ (ha'.1 x z) (ha'.1 x z);have nt:x∉t:=λz=>tX _ _ (hb'.1 x z) (hb'.1 x z);rw[C4 (a:=r) (b:=t) (λz=>⟨λhz=>?_,λhz=>?_⟩) ha'.2 hb'.2]
  ·rcases br.mp ((h z).mp (cy _ hz))with q|q
   ·exact absurd (q ▸ hz) nr
   ·exact q
  ·rcases br.mp ((h z).mpr (cy _ hz))with q|q
   ·exact absurd (q ▸ hz) nt
   ·exact q
theorem K9{kz:List (List Int)}(nd:kz.Nodup):(jh kz kz.length).Perm (bT kz.length)/\(jh kz kz.length).Pairwise (λi j=>fP (kz.getD i []) (kz.getD j [])=true):=by
 have O:=So.wE nd;have e:jh kz kz.length=sortI (So.lz kz) (bT kz.length):=by
  unfold jh So.lz
  congr 1
  funext i j;exact(So.u0 _ _).symm
 rw[e];refine⟨So.qQ _ _,(So.yA O (λx hx=>by simpa using hx) zC).imp λ{i j} h=>?_⟩;rw[<- So.u0];exact h
theorem Ja[Inhabited α](f:α->D){xs ys:List α}(nd:(xs.map key).Nodup)(hm:∀a,a∈xs↔a∈ys)(hs:ys.Pairwise λa b=>fP (key a) (key b)=true):sortBy (xs.map key) (xs.map f)=ys.map f:=by
 obtain⟨h1,h2⟩:=K9 nd;rw[aQ]at h1 h2;have lt:∀i∈jh (xs.map key) xs.length,i<xs.length:=λi hi=>by simpa using h1.mem_iff.mp hi
 have gd:∀i,i<xs.length->∀(β:Type) (g:α->β) (d:β),(xs.map g).getD i d=g (xs.getD i default):=λi hi β g d=>by simp[hi]
 have e:sortBy (xs.map key) (xs.map f)=((jh (xs.map key) xs.length).map λi=>xs.getD i default).map f:=by unfold sortBy;rw[aQ,cX];exact zw λi hi=>gd i (lt i hi) _ f _
 have e2 : ((jh (xs.map key) xs.length).map fun i => xs.getD i default) = ys:= by
  refine C4 key (λa=>?_) ?_ hs
  ·rw[<- hm a,bR];constructor
   ·rintro⟨i,hi,rfl⟩;have:=lt i hi;rw[eS,eU this];exact qj this
   ·intro ha;obtain⟨i,hi,rfl⟩:=zx ha;exact⟨i,h1.mem_iff.mpr (f8.mpr hi),by simp[hi]⟩
  ·rw[iE];refine h2.imp_of_mem λ{i j} hi hj h=>?_;rw[gd i (lt i hi) _ key,gd j (lt j hj) _ key]at h;exact h
 rw[e,e2]
end
def ky(ab row:List Str):List Int:=row.map λx=>((ab.idxOf x:Nat):Int)
end Mr
namespace Mr
open PySem Mi
def prs(ab:List Str):List Ar:=(bT ab.length).flatMap λk=>(ab.drop (k+1)).map λb=>(nth ab k,b)
theorem uj{ab:List Str}{a b:Str}:(a,b)∈prs ab↔∃k,k<ab.length/\a=nth ab k/\b∈ab.drop (k+1):=by
 unfold prs;simp only[sU,bR,f8,Prod.mk.injEq];constructor
 ·rintro⟨k,hk,b',hb,rfl,rfl⟩;exact⟨k,hk,rfl,hb⟩
 ·rintro⟨k,hk,rfl,hb⟩;exact⟨k,hk,b,hb,rfl,rfl⟩
theorem C1{ab:List Str}(nd:ab.Nodup){i:Nat}(hi:i<ab.length):ab.idxOf (nth ab i)=i:=by
 have e:nth ab i=ab[i]:=by unfold nth;rw[eS,eU hi];rfl
 rw[e];exact nd.idxOf_getElem i hi
theorem Gh{ab:List Str}(nd:ab.Nodup){k:Nat}{b:Str}(hb:b∈ab.drop (k+1)):k<ab.idxOf b/\b∈ab:=by obtain⟨i,hi,rfl⟩:=zx hb;rw[List.getElem_drop];rw[kN]at hi;rw[nd.idxOf_getElem (k+1+i) (by omega)];exact⟨by omega,qj _⟩
def tr(t:Kw):List Str:=[t.1,t.2.1,t.2.2]
theorem JS{ab:List Str}(nd:ab.Nodup):(prs ab).Nodup:=by
 unfold prs;show List.Pairwise _ _;rw[zu];refine⟨λk hk=>?_,sQ.imp_of_mem λ{k1 k2} h1 h2 h x hx y hy=>?_⟩
 ·rw[iE];exact(nd.sublist (List.drop_sublist _ _)).imp λ{b1 b2} h z=>h (by cases z;rfl)
 ·obtain⟨b1,_,rfl⟩:=bR.mp hx;obtain⟨b2,_,rfl⟩:=bR.mp hy;intro z;have:=pc nd (f8.mp h1) (f8.mp h2) (congrArg oH z);omega
end Mr
namespace Mr
open PySem Mi
theorem CG{a b:E}{e:Mi.Env}{x y:D}(h:a e=.ok x)(h':b e=.ok y):mN cR [a,b] e=.ok (.lst [x,y]):=by unfold mN;rw[fY,h,aR,fY,h',aR];rfl
theorem NP{a:E}{e:Mi.Env}{x:D}(h:a e=.ok x):fV a e=.ok (.nx e):=by unfold fV;rw[h];rfl
def xL(ab:List Str)(aq:List Ar):List Ar:=(prs ab).filter λp=>tie aq p.1 p.2
end Mr
namespace Mr
open PySem Mi
open My (words fg fG)
theorem Ot:("abcdefghijklmnopqrstuvwxyz" : Str).cps.toList=(bT 26).map (· + 97):=by decide +kernel
theorem LR{a b c:E}{e:Mi.Env}{i j k:Int}(ha:a e=.ok (.int i))(hb:b e=.ok (.int j))(hc:c e=.ok (.int k))(h1:i<=j)(h2:j<=k):u9 oY oY a b c e=.ok (.bl true):=by unfold u9;rw[ha,aR,hb,aR];show(Rs.ok (D.bl (decide (i<=j)))).bind _=_;rw[cv h1,aR,uK,aR,aN rfl,hc,aR];show Rs.ok (D.bl (decide (j<=k)))=_;rw[cv h2]
theorem MT{l:List Nat}(hw:fg l):q8 [.d (.str (S' l))]=.ok (.d (.bl true)):=by
 unfold q8 En;rw[xD];rw[show([aa (W.d (.str (S' l)))]++dq (1-1) ac)=[aa (W.d (.str (S' l)))]from rfl];obtain⟨h1,h8,hl⟩:=hw;have hc:cY (.n 0) en (m2 fM (mV 0) (mC (.str "abcdefghijklmnopqrstuvwxyz"))) [ac] (l.map λc=>D.str (S' [c]))=.ok ((l.filter λ_=>true).map λc=>D.bl ((λ_=>true) c)):=
  gq (λc=>D.str (S' [c])) (λc=>D.bl ((λ_=>true) c)) (λ_=>true) l λc hcl=>⟨[aa (.d (.str (S' [c])))],rfl,rfl,λ_=>aA (x:=.str (S' [c])) rfl rfl (by
   show bc ((S' [c]).length=1) (Rs.ok (D.bl (decide ((S' [c]).cps.getD 0 0∈("abcdefghijklmnopqrstuvwxyz" : Str).cps.toList))))=_;have hm:(S' [c]).cps.getD 0 0∈("abcdefghijklmnopqrstuvwxyz" : Str).cps.toList:=by rw[Ot];have:=hl c hcl;exact bR.mpr ⟨c-97,f8.mpr (by omega),by show c-97+97=c;omega⟩
   rw[aK (by rw[jM];rfl),cv hm])⟩
 rw[qh.mpr (λ_ _=>rfl)]at hc;have h2:mN wY [(cr [ac] (bM (mV 0)) (.n 0) en (m2 fM (mV 0) (mC (.str "abcdefghijklmnopqrstuvwxyz"))))] [aa (W.d (.str (S' l)))]=.ok (.bl true):=by refine(fW (fc (ρ:=[ac]) (fb (a:=mV 0) (x:=.str (S' l)) rfl rfl) (by rw[aQ,uV];omega) hc)).trans ?_;rw[Ps,FH,jR,aR,List.all_map];show Rs.ok (D.bl (l.all λ_=>true))=_;rw[sT.mpr (λ_ _=>rfl)]
 have h3:u9 oY oY (mC (.int 1)) (mN cS [(mV 0)]) (mC (.int 8)) [aa (W.d (.str (S' l)))]=.ok (.bl true):=LR (j:=((l.length:Nat):Int)) rfl ((fW (x:=.str (S' l)) rfl).trans (by rw[LK,aK (by rw[jM];omega),jM])) rfl (by omega) (by omega);rw[dN (bV (Lo h3 λ_=>h2))];rfl
theorem BL{α:Type}{l:List α}(nd:l.Nodup){i:Nat}{x:α}(hx:l[i]? = aa x):x∉l.take i:=λz=>by
 obtain⟨il,hxe⟩:=ca.mp hx;obtain⟨j,hj⟩:=kM z;have hj2:=(ca.mp hj).1;rw[i5]at hj2;rw[zp (by omega)]at hj;obtain⟨jl,hje⟩:=ca.mp hj;have:=(lI nd).mp (hje.trans hxe.symm);omega
def both(xs:List Ar):List Ar:=xs.flatMap λp=>[p,(p.2,p.1)]
end Mr
namespace Mr
open PySem Mi
open My (words fg fG)
end Mr
namespace Mr
open PySem Mi
abbrev nn:D:=.lst [.str "NoName"]
end Mr
namespace Mr
open PySem Mi
open My (words fg fG)
theorem D9{f:Fn}{a b c g:EW}{e:Mi.Env}{x y z u:W}{d:D}(h:a e=.ok x)(h':b e=.ok y)(h'':c e=.ok z)(h3:g e=.ok u)(hf:f [x,y,z,u]=.ok (.d d)):ba f [a,b,c,g] e=.ok d:=by unfold ba gy;rw[dE,h,aR,dE,h',aR,dE,h'',aR,dE,h3];simp only[aR,dE,hf,rR]
theorem BR{α:Type}(f:α->Nat):∀(l m:List α),l.Pairwise (λa b=>f a<f b)->m.Pairwise (λa b=>f a<f b)->(∀x,x∈l↔x∈m)->l=m
 |[],[],_,_,_=>rfl
 |[],b::t,_,_,h=>nomatch (h b).mpr (bP ..)
 |a::r,[],_,_,h=>nomatch (h a).mp (bP ..)
 |a::r,b::t,hl,hm,h=>by
  have l1:=jA.mp hl;have m1:=jA.mp hm;have e:a=b:=by
   rcases br.mp ((h a).mp (bP ..))with z|z
   ·exact z
   ·rcases br.mp ((h b).mpr (bP ..))with y|y
    ·exact y.symm
    ·have k1:=m1.1 a z;have k2:=l1.1 b y;omega
  subst e;rw[BR f r t l1.2 m1.2 λx=>⟨λhx=>by
   rcases br.mp ((h x).mp (cy _ hx))with z|z
   ·have:=l1.1 x hx;rw[z]at this;omega
   ·exact z,λhx=>by
   rcases br.mp ((h x).mpr (cy _ hx))with z|z
   ·have:=m1.1 x hx;rw[z]at this;omega
   ·exact z⟩]
def jv(aq:List Ar)(x:Str):List Str:=(aq.filter λp=>decide (p.1=x)).map (·.2)
theorem BC{aq:List Ar}{x y:Str}:y∈jv aq x↔(x,y)∈aq:=by
 unfold jv;constructor
 ·intro h;obtain⟨p,hp,rfl⟩:=bR.mp h;obtain⟨h1,h2⟩:=dL.mp hp;rw[<- jJ h2];exact h1
 ·exactλh=>bR.mpr ⟨(x,y),dL.mpr ⟨h,cv rfl⟩,rfl⟩
theorem OX{ab:List Str}{aq:List Ar}{x:Str}(hx:x∈ab)(hl:aq.length<=64):sr [.d (aE ab aq),.d (.str x)]=.ok (.d (.tup ((jv aq x).map D.str))):=by
 unfold sr Fa;rw[iW];rw[show([aa (W.d (aE ab aq)),aa (W.d (.str x))]++dq (2-2) ac)=[aa (W.d (aE ab aq)),aa (W.d (.str x))]from rfl];have hr:iY [.d (cF ab),.d (ak [x])]=.ok (.d .non):=u6 λy hy=>by rw[dm.mp hy];exact hx
 rw[aV (NP (call2 (bV (aA rfl rfl (kB _ _))) (bV (pH rfl)) hr))];have hc:cY (.t [1,2]) (cB (m2 bY (mV 1) (mV 0))) (mV 2) [aa (.d (.str x)),ac,ac] (aq.map pairD)=.ok ((aq.filter λp=>decide (p.1=x)).map λp=>D.str p.2):=
  gq pairD (λp=>D.str p.2) (λp=>decide (p.1=x)) aq λp _=>⟨[aa (.d (.str x)),aa (.d (.str p.1)),aa (.d (.str p.2))],rfl,cp (aA rfl rfl (mn p.1 x)),λ_=>rfl⟩
 rw[dN (bV ((fW (fc (ρ:=[aa 1,ac,ac]) (fb (aA rfl rfl (mv ab aq)) rfl) (by rw[aQ];omega) hc)).trans rfl))];show Rs.ok (W.d (.tup _))=_;unfold jv;rw[cX];rfl
end Mr
namespace Mr
open PySem Mi
open My (words fg fG)
end Mr
namespace Mr
open PySem Mi
open My (words fg fG)
def ixs(ab:List Str)(B:List Ar):List Ix:=(bT ab.length).flatMap λi=>((bT ab.length).filter λj=>decide ((nth ab i,nth ab j)∈B)).map λj=>(i,j)
theorem Gn(ab:List Str):(bT ab.length).map (nth ab)=ab:=by refine List.ext_getElem (by rw[aQ,zA]) λi h1 h2=>?_;rw[List.getElem_map,G1];unfold nth;rw[eS,eU h2];rfl
theorem FQ(ab:List Str)(B:List Ar):(ixs ab B).map (arrOf ab)=fQ ab B:=by
 unfold ixs fQ;rw[uE];have e:ab.flatMap (λt=>(ab.filter λh=>decide ((t,h)∈B)).map λh=>(t,h))=((bT ab.length).map (nth ab)).flatMap (λt=>(ab.filter λh=>decide ((t,h)∈B)).map λh=>(t,h)):=by rw[Gn]
 rw[e,List.flatMap_map];refine C5 λi _=>?_;have e2:ab.filter (λh=>decide ((nth ab i,h)∈B))=((bT ab.length).map (nth ab)).filter (λh=>decide ((nth ab i,h)∈B)):=by rw[Gn]
 rw[e2,List.filter_map,cX,cX];rfl
theorem yw{ab:List Str}{B:List Ar}{p:Ix}:p∈ixs ab B↔p.1<ab.length/\p.2<ab.length/\(nth ab p.1,nth ab p.2)∈B:=by
 unfold ixs;rw[sU];constructor
 ·rintro⟨i,hi,h⟩;obtain⟨j,hj,rfl⟩:=bR.mp h;obtain⟨h1,h2⟩:=dL.mp hj;exact⟨f8.mp hi,f8.mp h1,jJ h2⟩
 ·rintro⟨h1,h2,h3⟩;exact⟨p.1,f8.mpr h1,bR.mpr ⟨p.2,dL.mpr ⟨f8.mpr h2,cv h3⟩,rfl⟩⟩
theorem EC{α:Type}[DecidableEq α]:∀{l m:List α},l.Nodup->m.Nodup->(∀x,x∈l↔x∈m)->l.Perm m
 |[],m,_,_,h=>by
  cases m with
  |nil=>exact .nil
  |cons a r=>exact nomatch (h a).mpr (bP ..)
 |a::r,m,hl,hm,h=>by
  have l1:=j4.mp hl;have ha:=(h a).mp (bP ..);have p:=List.perm_cons_erase ha;refine(List.Perm.cons a (EC l1.2 (hm.erase a) λx=>?_)).trans p.symm;rw[hm.mem_erase_iff];constructor
  ·exactλhx=>⟨λz=>l1.1 (z ▸ hx),(h x).mp (cy _ hx)⟩
  ·rintro⟨h1,h2⟩;rcases br.mp ((h x).mpr h2)with z|z
   ·exact absurd z h1
   ·exact z
theorem EA{ab:List Str}(nd:ab.Nodup)(h8:ab.length<=8)(B:List Ar):(fQ ab B).Nodup:=by
 rw[<- FQ];refine iE.mpr (List.Pairwise.imp_of_mem (R:=dc) (λ{p q} hp hq h z=>?_) ?_)
 ·obtain⟨a,b,_⟩:=yw.mp hp;obtain⟨c,d,_⟩:=yw.mp hq;have e1:=pc nd a c (congrArg oH z);have e2:=pc nd b d (congrArg Prod.snd z);rcases h with h|⟨_,h⟩<;>omega
 ·unfold ixs;rw[zu];refine⟨λi _=>?_,?_⟩
  ·rw[iE];exact(z7 _ sQ).imp λ{a b} h=>.inr ⟨rfl,h⟩
  ·refine sQ.imp λ{a b} h=>?_;intro x hx y hy;obtain⟨j,_,rfl⟩:=bR.mp hx;obtain⟨j',_,rfl⟩:=bR.mp hy;exact .inl h
structure Gd(ab:List Str)(aq:List Ar):Prop where
 nd:ab.Nodup
 pos:1<=ab.length
 le:ab.length<=8
 rk:Rk aq
 fQ:fQ ab aq=aq
 wd:∀x∈ab,q8 [.d (.str x)]=.ok (.d (.bl true))
theorem Gd.inn{ab:List Str}{aq:List Ar}(G:Gd ab aq):∀p∈aq,p.1∈ab/\p.2∈ab:=λp hp=>by
 rw[<- G.fQ]at hp;exact(CC.mp hp).2
theorem Gd.al{ab:List Str}{aq:List Ar}(G:Gd ab aq):aq.length<=64:=by rw[<- G.fQ];exact Jq G.le _
theorem Gd.nodup{ab:List Str}{aq:List Ar}(G:Gd ab aq):aq.Nodup:=by rw[<- G.fQ];exact EA G.nd G.le _
end Mr
namespace Mr
open PySem Mi
open My (words fg fG)
structure Lk(ab:List Str)(aq:List Ar):Prop where
 nd:ab.Nodup
 le:ab.length<=8
 al:aq.length<=64
 inn:∀p∈aq,p.1∈ab/\p.2∈ab
 rk:Rk aq
 nda:aq.Nodup
theorem Gd.lk{ab:List Str}{aq:List Ar}(G:Gd ab aq):Lk ab aq:=⟨G.nd,G.le,G.al,G.inn,G.rk,G.nodup⟩
theorem Lk.Bu{ab:List Str}{aq:List Ar}(G:Lk ab aq)(x:Str):(gW aq x).Nodup:=by unfold gW;refine iE.mpr ((G.nda.filter _).imp_of_mem λ{p q} hp hq h z=>h ?_);have h1:=jJ (dL.mp hp).2;have h2:=jJ (dL.mp hq).2;exact mX z (h1.trans h2.symm)
end Mr
namespace Mr
open PySem Mi
open My (words fg fG)
theorem DD{aq:List Ar}{a b:Str}:tie aq a b=true↔(a,b)∈aq\/(b,a)∈aq:=by unfold tie;rw[Bool.or_eq_true,ko,ko]
theorem MS{ab:List Str}{a b:Str}(ha:a∈ab)(hb:b∈ab)(ne:a≠b):(a,b)∈prs ab\/(b,a)∈prs ab:=by
 obtain⟨i,hi,rfl⟩:=Em ha;obtain⟨j,hj,rfl⟩:=Em hb;rcases Nat.lt_trichotomy i j with h|h|h
 ·exact .inl (uj.mpr ⟨i,hi,rfl,FE h hj⟩)
 ·exact absurd (by rw[h]) ne
 ·exact .inr (uj.mpr ⟨j,hj,rfl,FE h hi⟩)
end Mr
namespace Mr
open PySem Mi
open My (words fg fG)
def Wk(ab:List Str)(B:List Ar):List Ar->List Ar->Prop
 |[],L=>fQ ab L=B
 |p::r,L=>p∈L/\cov L p=true/\Wk ab B r (Ou p L)
end Mr
namespace Mr
open PySem Mi
open My (words fg fG)
theorem oW.gd{ab:List Str}{A:List Ix}{r:Nat->Int}(N:oW ab A r)(hw:∀x∈ab,q8 [.d (.str x)]=.ok (.d (.bl true))):Gd ab (A.map (arrOf ab)):=by
 refine⟨N.nd,N.pos,N.le,N.bv.rk,?_,hw⟩;rw[<- FQ]
 congr 1
 refine(BR (λp:Ix=>p.1*8+p.2) _ _ ?_ ?_ λp=>?_)
 ·unfold ixs;have h8:=N.le;rw[zu];refine⟨λi _=>?_,?_⟩
  ·rw[iE];refine(z7 _ sQ).imp λ{a b} h=>?_;show i*8+a<i*8+b;omega
  ·refine sQ.imp λ{a b} h=>?_;intro x hx y hy;obtain⟨j,hj,rfl⟩:=bR.mp hx;obtain⟨j',_,rfl⟩:=bR.mp hy;have:=f8.mp (dL.mp hj).1;show a*8+j<b*8+j';omega
 ·refine N.fQ.imp_of_mem λ{p q} hp hq h=>?_;have h1:=(N.all p hp).2.1;have h8:=N.le;rcases h with h|⟨e,h⟩
  ·show p.1*8+p.2<q.1*8+q.2;omega
  ·show p.1*8+p.2<q.1*8+q.2;omega
 ·rw[yw];constructor
  ·rintro⟨h1,h2,h3⟩;obtain⟨q,hq,e⟩:=bR.mp h3;have e1:=pc N.nd (N.all q hq).1 h1 (congrArg oH e);have e2:=pc N.nd (N.all q hq).2.1 h2 (congrArg Prod.snd e);have:q=p:=mX e1 e2;rw[<- this];exact hq
  ·exactλh=>⟨(N.all p h).1,(N.all p h).2.1,bR.mpr ⟨p,h,rfl⟩⟩
end Mr
namespace Mr
open PySem Mi
open My (words fg fG)
end Mr
namespace Mr
open PySem Mi
def rk(r:List Str):List Ky:=r.map gf
abbrev y3:=List (Ar×D)
def uF(told:y3):List Ar:=told.map (·.1)
end Mr
namespace Mr
open PySem Mi
structure Dc(ab:List Str)(A:List Ar)(KT KC:List (List Str)):Prop where
 kt:∀a∈ab,∀b∈ab,a≠b->([a,b]∈KT↔tie A a b=true)
 ktm:∀k∈KT,∃a b,k=[a,b]/\a∈ab/\b∈ab/\a≠b/\tie A a b=true
 kc:∀a∈ab,∀m∈ab,∀b∈ab,[a,m,b]∈KC↔a≠b/\vj A a m b=true
def Jn(t h s:Str)(x:List Str):D:=.tup [.str t,.str h,.str s,.tup (x.map D.str)]
inductive Rl(ab:List Str)(A P:List Ar)(t h:Str):Str->List Str->Prop
 |Qh {z:Str} (zn:z∈ab) (ne:t≠z) (c:vj A t h z=true):Rl ab A P t h "corner" [z]
 |on {z:Str} (zn:z∈ab) (ne:z≠h) (nt:tie A z h=false) (nc:vj A z t h=false) (p:(z,t)∈P):Rl ab A P t h "on" [z]
 |over {z:Str} (zn:z∈ab) (p:(t,z)∈P) (q:(z,h)∈P):Rl ab A P t h "over" [z]
 |both {z w:Str} (zn:z∈ab) (wn:w∈ab) (ne:z≠w) (nt:tie A z w=false) (nc:vj A z t w=false) (t1:tie A z t=true) (t2:tie A w t=true) (p:(z,h)∈P) (q:(w,h)∈P):Rl ab A P t h "both" [z,w]
section
variable{ab:List Str}{A:List Ar}{KT KC:List (List Str)}(N:Nt ab A)(D':Dc ab A KT KC){told:y3}(ht:∀p∈uF told,p∈A){t h:Str}(tn:t∈ab)(hn:h∈ab)(th:tie A t h=true)
theorem ES{A:List Ar}(R:Rk A){a b:Str}(h:(a,b)∈A):(b,a)∉A:=λz=>by
 obtain⟨r,hr⟩:=R;have h1:=hr _ h;have h2:=hr _ z;simp only at h1 h2;omega
include N D' tn hn th in
include N D' ht tn hn th in
include N ht th in
include N D' ht tn hn th in
end
end Mr
namespace Mr
open PySem Mi
end Mr
namespace Mr
open PySem Mi
structure Gt(ab:List Str)(A:List Ar)(told:y3):Prop where
 nd:(uF told).Nodup
 sub:∀p∈uF told,p∈A
 ord:∀i q,told[i]? = aa q->∃s x,q.2=Jn q.1.1 q.1.2 s x/\Rl ab A (uF (told.take i)) q.1.1 q.1.2 s x
end Mr
namespace Mr
open PySem Mi
theorem u4{ab:List Str}{A:List Ar}{p:Ar}:p∈xL ab A↔p∈prs ab/\tie A p.1 p.2=true:=dL
def Qx(T P:List Ar):List Ar:=T.filter λp=>!decide (p∈P) && !decide ((p.2,p.1)∈P)
end Mr
namespace Mr
open PySem Mi
end Mr
namespace Mr
open PySem Mi
end Mr
namespace Mr
open PySem Mi
def mG(ab:List Str)(p:Ar):Ar:=if p∈prs ab then p else(p.2,p.1)
theorem OU{ab:List Str}(nd:ab.Nodup){a b:Str}(h:(a,b)∈prs ab):(b,a)∉prs ab:=λz=>by
 obtain⟨k,hk,rfl,hb⟩:=uj.mp h;obtain⟨j,hj,rfl,ha⟩:=uj.mp z;have h1:=(Gh nd hb).1;have h2:=(Gh nd ha).1;rw[C1 nd hj]at h1;rw[C1 nd hk]at h2;omega
theorem Lm{ab:List Str}{A:List Ar}(R:Rk A){p q:Ar}(hp:p∈A)(hq:q∈A)(h:mG ab p=mG ab q):p=q:=by
 unfold mG at h;split at h<;>split at h
 ·exact h
 ·subst h;exact absurd hp (ES R (a:=q.1) (b:=q.2) hq)
 ·subst h;exact absurd hq (ES R (a:=p.1) (b:=p.2) hp)
 ·rw[Prod.ext_iff]at h;exact mX h.2 h.1
theorem Qm{ab:List Str}{A:List Ar}(N:Nt ab A){P:List Ar}(sub:∀p∈P,p∈A)(q:Ar):q∈P.map (mG ab)↔q∈xL ab A/\(q∈P\/(q.2,q.1)∈P):=by
 constructor
 ·intro h;obtain⟨p,hp,rfl⟩:=bR.mp h;obtain⟨n1,n2⟩:=N.inn p (sub p hp);have ne:p.1≠p.2:=λz=>by
   obtain⟨r,hr⟩:=N.rk;have:=hr p (sub p hp);rw[z]at this;omega
  unfold mG;split
  ·rename_i hm;exact⟨u4.mpr ⟨hm,DD.mpr (.inl (sub p hp))⟩,.inl hp⟩
  ·rename_i hm;have:(p.2,p.1)∈prs ab:=(MS n1 n2 ne).resolve_left hm;exact⟨u4.mpr ⟨this,DD.mpr (.inr (sub p hp))⟩,.inr hp⟩
 ·rintro⟨h1,h2|h2⟩
  ·exact bR.mpr ⟨q,h2,by unfold mG;rw[aN (u4.mp h1).1]⟩
  ·exact bR.mpr ⟨(q.2,q.1),h2,by unfold mG;rw[aP (OU N.nd (a:=q.1) (b:=q.2) (u4.mp h1).1)]⟩
theorem Qt{ab:List Str}(nd:ab.Nodup)(A:List Ar):(xL ab A).Nodup:=(JS nd).filter _
theorem Qw{ab:List Str}{A P:List Ar}(R:Rk A)(nd:P.Nodup)(sub:∀p∈P,p∈A):(P.map (mG ab)).Nodup:=iE.mpr (nd.imp_of_mem λ{p q} hp hq ne e=>ne (Lm R (sub p hp) (sub q hq) e))
theorem Qu{ab:List Str}{A P:List Ar}(G:Gd ab A)(nd:P.Nodup)(sub:∀p∈P,p∈A):(fQ ab P).length=P.length:=(EC (EA G.nd G.le P) nd λp=>by
 rw[CC];exact⟨λh=>h.1,λh=>⟨h,G.inn p (sub p h)⟩⟩).length_eq
end Mr
namespace Mr
open PySem Mi
end Mr
namespace Mr
open PySem Mi
end Mr
namespace Mr
open PySem Mi
open My (words fg fG)
end Mr
namespace Mr
open PySem Mi
open My (words fg fG)
end Mr
namespace Mr
open PySem Mi
end Mr
namespace Mr
open PySem Mi
open My (words fg fG)
end Mr
namespace Mr
open PySem Mi
open PySem.Builtin PySem.Builtin.Str
def cl(x:Str):List Nat:=x.cps.toList
end Mr
namespace Mr
open PySem Mi
open My (words fg fG)
def Dg(c:Str)(p:Ar):Str:=Lj [p.1,c,p.2]
def Ci(ab:List Str)(xs:List Ar):List Str:=ab++[(":" : Str)]++xs.map (Dg ">")
def tx(ab:List Str)(xs:List Ar):Str:=jC " " (Ci ab xs)
def nt(ab:List Str):List Nat:=ab.flatMap λn=>cl n++[32]
theorem F6{α:Type}{l:List α}{i:Nat}{x:α}(h:l[i]? = aa x):l.take (i+1)=l.take i++[x]:=by rw[List.take_succ,h];rfl
end Mr
namespace Mr
open PySem Mi
open My (words fg fG)
def tp(ab:List Str)(R S:List Ar):Str:=jC " " (Ci ab R++S.map (Dg "-"))
end Mr
namespace Vp
section
variable{α:Type}
inductive Up(A:α->α->Prop):α->α->Prop
 |refl (x:α):Up A x x
 |step {x y z:α}:A x y->Up A y z->Up A x z
def Hi(A:α->α->Prop)(T:α->Prop)(x:α):Prop:=∃y,T y/\Up A x y
theorem Hi.of{A:α->α->Prop}{T:α->Prop}{x:α}(h:T x):Hi A T x:=⟨x,h,.refl x⟩
theorem Hi.up{A:α->α->Prop}{T:α->Prop}{x y:α}(a:A x y)(h:Hi A T y):Hi A T x:=let ⟨z,t,u⟩:=h;⟨z,t,.step a u⟩
theorem Up.trans{A:α->α->Prop}{x y z:α}(h:Up A x y)(k:Up A y z):Up A x z:=by
 induction h with
 |refl=>exact k
 |step a _ ih=>exact .step a (ih k)
def fam(A:α->α->Prop)(n u:α):Prop:=u=n\/A u n
def oo(A:α->α->Prop)(U:α->Prop)(u v:α):Prop:=∃n,U n/\fam A n u/\fam A n v
inductive Met(adj:α->α->Prop)(S:α->Prop)(i:α):α->Prop
 |base:Met adj S i i
 |step {u v:α}:Met adj S i u->adj u v->¬ S v->Met adj S i v
def Tg(i j:α)(S:α->Prop)(x:α):Prop:=x=i\/x=j\/S x
def kI(A:α->α->Prop)(i j:α)(S:α->Prop):Prop:=Met (oo A (Hi A (Tg i j S))) S i j
end
end Vp
namespace Mr
open PySem Mi
open Vp
def ar(A:List Ar)(u v:Str):Prop:=(u,v)∈A
def zl:List Str->List (List Str)
 |[]=>[[]]
 |x::r=>zl r++(zl r).map (· ++ [x])
def rst(ab:List Str)(i j:Str):List Str:=ab.filter λn=>!decide (n=i) && !decide (n=j)
end Mr
namespace Mr
open PySem Mi
end Mr
namespace Mr
open PySem Mi
end Mr
namespace Mr
open PySem Mi
open My (fG)
theorem DK{m:S}{e:Mi.Env}{w:W}(h:m e=.ok (.rt w)):oJ m e=.ok (.rt w):=by unfold oJ;rw[h]
end Mr
namespace Mr
open PySem Mi
open Vp
def yt(A:List Ar)(met:List Str):Prop:=∀p∈A,p.2∈met->p.1∈met
noncomputable def lS (A:List Ar) (i j:Str) (ah:List Str):Bool:=@decide (kI (ar A) i j (·∈ah)) (qv _)
theorem vb{A:List Ar}{i j:Str}{ah:List Str}:lS A i j ah=true↔kI (ar A) i j (·∈ah):=by unfold lS;exact@ko _ (qv _)
end Mr
namespace Mr
open PySem Mi
open Vp
end Mr
namespace Mr
open PySem Mi
open Vp
abbrev Qn:=Str×Str×List Str
def Od(ab:List Str)(a b:Str):List Qn:=(zl (rst ab a b).reverse).map λl=>(a,b,l)
def LH(ab:List Str)(k:Nat):List Qn:=(ab.drop (k+1)).flatMap λb=>Od ab (nth ab k) b
def qs(ab:List Str):List Qn:=(bT ab.length).flatMap (LH ab)
end Mr
namespace Vp
section
variable{α:Type}
def FD(A:α->α->Prop)(S:α->Prop)(s t:α×Bool):Prop:=¬ S s.1/\A s.1 t.1/\t.2=true
def dW(A:α->α->Prop)(S:α->Prop)(x:α):Prop:=∃z,S z/\Up A x z
def Goes(A:α->α->Prop)(S:α->Prop)(s:α×Bool):Prop:=(s.2=true/\dW A S s.1)\/(s.2=false/\¬ S s.1)
def Cv(A:α->α->Prop)(S:α->Prop)(s t:α×Bool):Prop:=Goes A S s/\A t.1 s.1/\t.2=false
def tV(A:α->α->Prop)(S:α->Prop)(s t:α×Bool):Prop:=FD A S s t\/Cv A S s t
def uy(A:α->α->Prop)(i:α)(t:α×Bool):Prop:=(A i t.1/\t.2=true)\/(A t.1 i/\t.2=false)
inductive Rc(st:α×Bool->Prop)(nx:α×Bool->α×Bool->Prop):α×Bool->Prop
 |base {t:α×Bool}:st t->Rc st nx t
 |step {s t:α×Bool}:Rc st nx s->nx s t->Rc st nx t
variable{A:α->α->Prop}{S:α->Prop}{i j:α}
abbrev Wk(A:α->α->Prop)(S:α->Prop)(i:α):α×Bool->Prop:=Rc (uy A i) (tV A S)
theorem dW.hi{T:α->Prop}(h:∀z,S z->T z){x:α}(b:dW A S x):Hi A T x:=let ⟨z,s,u⟩:=b;⟨z,h z s,u⟩
theorem Nv(ni:¬ S i)(nj:¬ S j){b:Bool}(w:Wk A S i (j,b)):kI A i j S:=by
 obtain⟨T,hT⟩ : ∃T,T=Tg i j S:=⟨_,rfl⟩;have tS:∀z,S z->T z:=λz h=>by rw[hT];exact .inr (.inr h)
 have ti:Hi A T i:=.of (by rw[hT];exact .inl rfl);have tj:Hi A T j:=.of (by rw[hT];exact .inr (.inl rfl));have down:∀x t,Hi A T x->Met (oo A (Hi A T)) S i x->A x t->(¬ Hi A T t)\/(Hi A T t/\(¬ S t->Met (oo A (Hi A T)) S i t)/\∃y,A y t/\Met (oo A (Hi A T)) S i y):=λx t hx m a=>
  (HJ (Hi A T t)).elim (λh=>.inr ⟨h,λns=>.step m ⟨t,h,.inr a,.inl rfl⟩ ns,x,a,m⟩) .inl
 have key:∀s,Wk A S i s->(s.2=true/\¬ Hi A T s.1)\/(Hi A T s.1/\(¬ S s.1->Met (oo A (Hi A T)) S i s.1)/\(s.2=true->∃y,A y s.1/\Met (oo A (Hi A T)) S i y)):=λs w=>by
  induction w with
  |base h=>
   rcases h with ⟨a,e⟩|⟨a,e⟩
   ·rcases down i _ ti .base a with h|⟨h1,h2,h3⟩
    ·exact .inl ⟨e,h⟩
    ·exact .inr ⟨h1,h2,λ_=>h3⟩
   ·exact .inr ⟨.up a ti,λns=>.step .base ⟨i,ti,.inl rfl,.inr a⟩ ns,λq=>by rw[e]at q;cases q⟩
  | @step s t w h ih=>
   rcases h with ⟨ns,a,e⟩|⟨g,a,e⟩
   ·rcases ih with ⟨_,ih⟩|⟨ih,im,_⟩
    ·exact .inl ⟨e,λh=>ih (.up a h)⟩
    ·rcases down s.1 _ ih (im ns) a with h|⟨h1,h2,h3⟩
     ·exact .inl ⟨e,h⟩
     ·exact .inr ⟨h1,h2,λ_=>h3⟩
   ·have hs:Hi A T s.1:=by
     rcases ih with ⟨d,ih⟩|⟨ih,_⟩
     ·rcases g with ⟨_,g⟩|⟨g,_⟩
      ·exact g.hi tS
      ·rw[d]at g;cases g
     ·exact ih
    refine .inr ⟨.up a hs,λns=>?_,λq=>by rw[e]at q;cases q⟩;rcases ih with ⟨_,ih⟩|⟨_,im,iy⟩
    ·exact absurd hs ih
    ·rcases g with ⟨g,_⟩|⟨_,g⟩
     ·obtain⟨y,ay,my⟩:=iy g;exact .step my ⟨s.1,hs,.inr ay,.inr a⟩ ns
     ·exact .step (im g) ⟨s.1,hs,.inl rfl,.inr a⟩ ns
 rcases key _ w with ⟨_,h⟩|⟨_,h,_⟩
 ·exact absurd tj h
 ·unfold kI;rw[<- hT];exact h nj
def Rd(A:α->α->Prop)(S:α->Prop)(i x:α):Prop:=x=i\/∃b,Wk A S i (x,b)
def Rb(A:α->α->Prop)(S:α->Prop)(i x:α):Prop:=x=i\/∃b,Wk A S i (x,b)/\Goes A S (x,b)
theorem Rd.down{x t:α}(r:Rd A S i x)(ns:¬ S x)(a:A x t):Wk A S i (t,true):=by
 rcases r with rfl|⟨b,w⟩
 ·exact .base (.inl ⟨a,rfl⟩)
 ·exact .step w (.inl ⟨ns,a,rfl⟩)
theorem Rb.up{x t:α}(r:Rb A S i x)(a:A t x):Wk A S i (t,false):=by
 rcases r with rfl|⟨b,w,g⟩
 ·exact .base (.inr ⟨a,rfl⟩)
 ·exact .step w (.inr ⟨g,a,rfl⟩)
theorem dW.no{x:α}(n:¬ dW A S x):¬ S x:=λh=>n ⟨x,h,.refl x⟩
theorem dW.yr{x y:α}(n:¬ dW A S x)(a:A x y):¬ dW A S y:=λ⟨z,s,u⟩=>n ⟨z,s,.step a u⟩
theorem NC{x y:α}(u:Up A x y):Rd A S i x->¬ dW A S x->Rd A S i y:=by
 induction u with
 |refl=>exactλr _=>r
 |step a _ ih=>exactλr n=>ih (.inr ⟨true,r.down (dW.no n) a⟩) (dW.yr n a)
theorem Oo{x:α}(u:Up A x i)(n:¬ dW A S x):x=i\/Wk A S i (x,false):=by
 obtain⟨k,hk⟩ : ∃k,k=i:=⟨_,rfl⟩;rw[<- hk]at u
 induction u with
 |refl=>exact .inl hk
 |step a _ ih=>
  have n':=dW.yr n a;rcases ih n' hk with e|w
  ·rw[e]at a;exact .inr (.base (.inr ⟨a,rfl⟩))
  ·exact .inr (.step w (.inr ⟨.inr ⟨rfl,dW.no n'⟩,a,rfl⟩))
theorem Mu(ij:i≠j)(ni:¬ S i)(h:kI A i j S):∃b,Wk A S i (j,b):=by
 have both:∀x,Hi A (Tg i j S) x->¬ dW A S x->Rd A S i x->Rb A S i x\/∃b,Wk A S i (j,b):=λx hx n r=>by
  obtain⟨z,t,u⟩:=hx;rcases t with rfl|rfl|t
  ·rcases Oo u n with e|w
   ·exact .inl (.inl e)
   ·exact .inl (.inr ⟨false,w,.inr ⟨rfl,dW.no n⟩⟩)
  ·rcases NC u r n with e|w
   ·exact absurd e.symm ij
   ·exact .inr w
  ·exact absurd ⟨z,t,u⟩ n
 have fin:∀x,Hi A (Tg i j S) x->¬ S x->Wk A S i (x,true)->Rb A S i x\/∃b,Wk A S i (j,b):=λx hx ns w=>
  (HJ (dW A S x)).elim (λb=>.inl (.inr ⟨true,w,.inl ⟨rfl,b⟩⟩)) λn=>both x hx n (.inr ⟨_,w⟩)
 have key:∀v,Met (oo A (Hi A (Tg i j S))) S i v->¬ S v/\(Rb A S i v\/∃b,Wk A S i (j,b)):=λv m=>by
  induction m with
  |base=>exact⟨ni,.inl (.inl rfl)⟩
  | @step u v _ a sv ih=>
   refine⟨sv,?_⟩;obtain⟨su,ih⟩:=ih;rcases ih with r|r
   ·obtain⟨n,hn,f1,f2⟩:=a;have rd:Rd A S i u:=by
     rcases r with e|⟨b,w,_⟩
     ·exact .inl e
     ·exact .inr ⟨b,w⟩
    rcases f1 with e|a1
    ·subst e;rcases f2 with e|a2
     ·subst e;exact .inl r
     ·exact .inl (.inr ⟨false,r.up a2,.inr ⟨rfl,sv⟩⟩)
    ·have w:=rd.down su a1;rcases f2 with e|a2
     ·subst e;exact fin _ hn sv w
     ·by_cases hb:dW A S n
      ·exact .inl (.inr ⟨false,.step w (.inr ⟨.inl ⟨rfl,hb⟩,a2,rfl⟩),.inr ⟨rfl,sv⟩⟩)
      ·rcases both n hn hb (.inr ⟨_,w⟩)with rb|q
       ·exact .inl (.inr ⟨false,rb.up a2,.inr ⟨rfl,sv⟩⟩)
       ·exact .inr q
   ·exact .inr r
 rcases(key j h).2 with r|r
 ·rcases r with e|⟨b,w,_⟩
  ·exact absurd e.symm ij
  ·exact⟨b,w⟩
 ·exact r
theorem Ed(ij:i≠j)(ni:¬ S i)(nj:¬ S j):(∃b,Wk A S i (j,b))↔kI A i j S:=⟨λ⟨_,w⟩=>Nv ni nj w,Mu ij ni⟩
end
end Vp
namespace Mr
open PySem Mi
open Vp
abbrev Spot:=Str×Bool
def au(s:Spot):D:=.tup [.str s.1,.bl s.2]
def m8(s:Spot):List Ky:=[.inr s.1,.inl s.2]
theorem O7{s t:Spot}(h:m8 s=m8 t):s=t:=by unfold m8 at h;simp only[HU,Sum.inr.injEq,Sum.inl.injEq,and_true]at h;exact mX h.1 h.2
abbrev Bf:=Spot×Option Spot
def qJ:Option Spot->D
 |none=>.non
 |some s=>au s
def fE(b:Bf):List Ky×D:=(m8 b.1,qJ b.2)
abbrev ie(bs:List Bf):W:=.dt (bs.map fE)
def bU(bs:List Bf):List Spot:=bs.map (·.1)
theorem JF{bs:List Bf}{s:Spot}:s∈bU bs↔∃o,(s,o)∈bs:=by unfold bU;rw[bR];exact⟨λ⟨⟨a,o⟩,h,e⟩=>⟨o,by cases e;exact h⟩,λ⟨o,h⟩=>⟨(s,o),h,rfl⟩⟩
theorem A9(bs:List Bf)(s:Spot):((bs.map fE).any λkv=>decide (kv.1=m8 s))=decide (s∈bU bs):=by
 rw[oB,ko,vD,List.any_eq_true,JF];constructor
 ·rintro⟨⟨t,o⟩,h,e⟩;have:=O7 (jJ e);exact⟨o,by rw[<- this];exact h⟩
 ·rintro⟨o,h⟩;exact⟨(s,o),h,cv rfl⟩
theorem Bw{α:Type}(p:α->Bool):∀l:List α,(l.find? p).isSome=l.any p
 |[]=>rfl
 |x::r=>by
  rw[kP,iF];cases h:p x with
  |true=>rfl
  |false=>simp only[vW];exact Bw p r
theorem LZ(bs:List Bf)(s:Spot):∃o,sN (ie bs) (au s)=.ok o/\o.isSome=decide (s∈bU bs):=by refine⟨jw (bs.map fE) (m8 s),rfl,?_⟩;unfold jw;rw[v4,Bw,A9]
theorem EN{bs:List Bf}{s:Spot}{o:Option Spot}(hn:s∉bU bs)(hl:bs.length<=1000):ss (ie bs) (au s) (qJ o)=.ok (ie (bs++[(s,o)])):=by show bc ((bs.map fE).length<16777216) (Rs.ok (W.dt (Mi.putK (m8 s) (qJ o) (bs.map fE))))=_;rw[aK (by rw[aQ];omega)];unfold Mi.putK;rw[A9,dj hn,aP c7];unfold ie;rw[fH];rfl
inductive jQ(st:List Spot)(nx:Spot->List Spot):List Bf->Prop
 |nil:jQ st nx []
 |from{bs:List Bf} {s:Spot}:jQ st nx bs->s∈st->jQ st nx (bs++[(s,ac)])
 |on {bs:List Bf} {s h:Spot}:jQ st nx bs->h∈bU bs->s∈nx h->jQ st nx (bs++[(s,aa h)])
theorem zf(bs:List Bf)(b:Bf):bU (bs++[b])=bU bs++[b.1]:=by unfold bU;rw[fH];rfl
theorem kys_len(bs:List Bf):(bU bs).length=bs.length:=by unfold bU;exact aQ _
theorem jQ.rc{st:List Spot}{nx:Spot->List Spot}{bs:List Bf}(h:jQ st nx bs):∀s∈bU bs,Rc (·∈st) (λs t=>t∈nx s) s:=by
 induction h with
 |nil=>exactλs h=>nomatch h
 | «from» _ hs ih=>
  intro s h;rw[zf]at h;rcases dA.mp h with h|h
  ·exact ih s h
  ·rw[dm.mp h];exact .base hs
 |on _ hh hs ih=>
  intro s h;rw[zf]at h;rcases dA.mp h with h|h
  ·exact ih s h
  ·rw[dm.mp h];exact .step (ih _ hh) hs
abbrev xO(κ:Kp)(f:Fn):S:=(dv (bM (nW κ 1 f (mV 5))) (.n 4)
 (bK (cB (gX 2 (mV 4)))
 (aF (d9 2 (mV 4) (mV 5))
 (dS 3 (mV 4)))
 bZ))
abbrev zc(κ:Kp)(f:Fn):S:=(aF (iu 5 3 (mC (.int 0))) (xO κ f))
abbrev E1(κ:Kp)(f:Fn):S:=
 (aF (ma 2 (λ_=>.ok (.dt [])))
 (aF (bp 3 (mN cR []))
 (aF (dv (bM (mV 0)) (.n 4)
 (aF (d9 2 (mV 4) (mC .non))
 (dS 3 (mV 4))))
 (aF (lw 40 (dP (mV 3)) (zc κ f))
 (bH (wV 2))))))
abbrev aW(l:List Spot):D:=.lst (l.map au)
section
variable{κ:Kp}{f:Fn}{aC:List D}{X:D}{st U:List Spot}{nx:Spot->List Spot}
abbrev et(X:D)(κ:Kp)(aC:List D)(bs:List Bf)(ws:List Spot)(o4 o5:Option W):Mi.Env:=[aa (.d X),aa (.fn κ aC),aa (ie bs),aa (.d (aW ws)),o4,o5]
theorem Oq(nd:st.Nodup)(hl:st.length<=100):∃o4,gN (.n 4) (aF (d9 2 (mV 4) (mC .non)) (dS 3 (mV 4))) (st.map au) (et X κ aC [] [] ac ac)=.ok (.nx (et X κ aC (st.map λs=>(s,ac)) st o4 ac)):=by
 obtain⟨e',g,o4,he⟩:=gZ (tg:=.n 4) (body:=(aF (d9 2 (mV 4) (mC .non)) (dS 3 (mV 4))))
  (λn e=>∃o4:Option W,e=et X κ aC ((st.take n).map λs=>(s,ac)) (st.take n) o4 ac) (st.map au) 0 (λn d e hi ⟨o4,he⟩=>by
   subst he;rw[dM];rw[cZ]at hi;obtain⟨s,hs,rfl⟩:=i7.mp hi;have nl:=(ca.mp hs).1;have tl:(st.take n).length<=100:=by rw[i5];omega
   have hk:bU ((st.take n).map λs=>((s,ac):Bf))=st.take n:=by unfold bU;rw[cX];exact List.map_id _
   have p:=EN (bs:=(st.take n).map λs=>(s,ac)) (s:=s) (o:=ac) (by rw[hk];exact BL nd hs) (by rw[aQ];omega);have s1:d9 2 (mV 4) (mC .non) (et X κ aC ((st.take n).map λs=>(s,ac)) (st.take n) (aa (.d (au s))) ac)=.ok (.nx (et X κ aC ((st.take n).map (λs=>((s,ac):Bf))++[(s,ac)]) (st.take n) (aa (.d (au s))) ac)):=by show Rs.bind (ss (ie ((st.take n).map λs=>((s,ac):Bf))) (au s) .non) _=_;rw[show(D.non)=qJ ac from rfl,p];rfl
   refine⟨_,et X κ aC ((st.take (n+1)).map λs=>(s,ac)) (st.take (n+1)) (aa (.d (au s))) ac,rfl,(aV s1).trans ?_,_,rfl⟩;rw[py (d:=au s) (ds:=(st.take n).map au) rfl rfl (by rw[aQ];omega)];rw[F6 hs,fH];show Rs.ok (Out.nx [_,_,_,aa (W.d (D.lst ((st.take n).map au++[au s]))),_,_])=_;unfold et aW;rw[fH];rfl) (et X κ aC [] [] ac ac) ⟨ac,rfl⟩
 subst he;rw[dM,aQ,List.take_length]at g;exact⟨o4,g⟩
structure jN(st U:List Spot)(nx:Spot->List Spot)(bs:List Bf)(ws:List Spot):Prop where
 tr:jQ st nx bs
 nd:(bU bs).Nodup
 u:∀s∈bU bs,s∈U
 st:∀s∈st,s∈bU bs
 w:∀s∈ws,s∈bU bs
 ex:∀s∈bU bs,s∉ws->∀t∈nx s,t∈bU bs
theorem jN.len{bs:List Bf}{ws:List Spot}(w:jN st U nx bs ws):bs.length<=U.length:=by rw[<- kys_len];exact g9 w.nd w.u
theorem JO(hU:U.length<=100)(hnU:∀s∈U,∀t∈nx s,t∈U)(hnl:∀s∈U,(nx s).length<=1000)(hf:∀s∈U,f (.d (au s)::aC.map W.d)=.ok (.d (aW (nx s)))){bs:List Bf}{h:Spot}{r:List Spot}(rl:r.length<=1000)(w:jN st U nx bs (h::r))(o4:Option W) :
 ∃bs' ws' o4',xO κ f (et X κ aC bs r o4 (aa (.d (au h))))=.ok (.nx (et X κ aC bs' ws' o4' (aa (.d (au h)))))/\jN st U nx bs' ws'/\ws'.length+bs.length=r.length+bs'.length:=by
 have hk:=w.w h bP;have hu:=w.u h hk;obtain⟨e',g,bs',ws',o4',he,tr,nd,u,sub,wr,ww,kw,ln,al⟩:=gZ (tg:=.n 4) (body:=(bK (cB (gX 2 (mV 4))) (aF (d9 2 (mV 4) (mV 5)) (dS 3 (mV 4))) bZ))
  (λn e=>∃(bs':List Bf) (ws':List Spot) (o4:Option W),e=et X κ aC bs' ws' o4 (aa (.d (au h)))/\jQ st nx bs'/\(bU bs').Nodup/\(∀s∈bU bs',s∈U)/\(∀s∈bU bs,s∈bU bs')/\(∀s∈r,s∈ws')/\(∀s∈ws',s∈bU bs')/\(∀s∈bU bs',s∈bU bs\/s∈ws')/\ws'.length+bs.length=r.length+bs'.length/\∀a t,a<n->(nx h)[a]? = aa t->t∈bU bs') ((nx h).map au) 0 (λn d e hi ⟨bs',ws',o4,he,tr,nd,u,sub,wr,ww,kw,ln,al⟩=>by
   subst he;rw[dM]at al ⊢;rw[cZ]at hi;obtain⟨t,ht,rfl⟩:=i7.mp hi;have tm:=jz ht;obtain⟨o,hg,ho⟩:=LZ bs' t;have bl:bs'.length<=100:=by have:=g9 nd u;rw[kys_len]at this;omega
   have ct:cB (gX 2 (mV 4)) (et X κ aC bs' ws' (aa (.d (au t))) (aa (.d (au h))))=.ok (!decide (t∈bU bs')):=cp (by
    show Rs.bind (sN (ie bs') (au t)) (λo=>Rs.ok (D.bl (!o.isSome)))=_;rw[hg,aR,ho])
   by_cases hm:t∈bU bs'
   ·rw[cv hm]at ct;refine⟨_,_,rfl,(dY ct).trans rfl,bs',ws',_,rfl,tr,nd,u,sub,wr,ww,kw,ln,λa t' ha h'=>?_⟩;by_cases e:a=n
    ·subst e;rw[ht]at h';cases h';exact hm
    ·exact al a t' (by omega) h'
   ·rw[dj hm]at ct;have p:=EN (bs:=bs') (s:=t) (o:=aa h) hm (by omega);have s1:d9 2 (mV 4) (mV 5) (et X κ aC bs' ws' (aa (.d (au t))) (aa (.d (au h))))=.ok (.nx (et X κ aC (bs'++[(t,aa h)]) ws' (aa (.d (au t))) (aa (.d (au h))))):=by
     show Rs.bind (ss (ie bs') (au t) (au h)) _=_;rw[show au h=qJ (aa h)from rfl,p];rfl
    have ka:=zf bs' (t,aa h);refine⟨_,et X κ aC (bs'++[(t,aa h)]) (ws'++[t]) (aa (.d (au t))) (aa (.d (au h))),rfl,(gC ct).trans ((aV s1).trans ?_),_,_,_,rfl,.on tr (sub h hk) tm,?_,?_,?_,?_,?_,?_,?_,?_⟩
    ·rw[py (d:=au t) (ds:=ws'.map au) rfl rfl (by rw[aQ];omega)];show Rs.ok (Out.nx [_,_,_,aa (W.d (D.lst (ws'.map au++[au t]))),_,_])=_;unfold et aW;rw[fH];rfl
    ·rw[ka];exact iD.mpr ⟨nd,by simp,λa ha b hb e=>by rw[dm.mp hb]at e;exact hm (by rw[e]at ha;exact ha)⟩
    ·rw[ka];intro s hs;rcases dA.mp hs with z|z
     ·exact u s z
     ·rw[dm.mp z];exact hnU h hu t tm
    ·rw[ka];exactλs hs=>eB _ (sub s hs)
    ·exactλs hs=>eB _ (wr s hs)
    ·rw[ka];intro s hs;rcases dA.mp hs with z|z
     ·exact eB _ (ww s z)
     ·exact dQ _ z
    ·rw[ka];intro s hs;rcases dA.mp hs with z|z
     ·exact(kw s z).imp id λq=>eB _ q
     ·exact .inr (dQ _ z)
    ·rw[cC,cC,sR,sR];omega
    ·rw[ka];intro a t' ha h';by_cases e:a=n
     ·subst e;rw[ht]at h';cases h';exact dQ _ (dm.mpr rfl)
     ·exact eB _ (al a t' (by omega) h')) (et X κ aC bs r o4 (aa (.d (au h)))) ⟨bs,r,o4,rfl,w.tr,w.nd,w.u,λs hs=>hs,λs hs=>hs,λs hs=>w.w s (cy _ hs),λs hs=>.inl hs,rfl,λa t ha=>absurd ha (qu _)⟩
 subst he;have hcl:∀t∈nx h,t∈bU bs':=λt ht=>by
  obtain⟨a,ha⟩:=kM ht;exact al a t (by rw[dM,aQ];exact(ca.mp ha).1) ha
 refine⟨bs',ws',o4',?_,⟨tr,nd,u,λs hs=>sub s (w.st s hs),ww,λs hs hn t ht=>?_⟩,ln⟩
 ·refine(gU (fb (x:=aW (nx h)) ?_ rfl)).trans g;show(if κ = κ then Rs.bind (.ok (au h)) λx=>(f (.d x::aC.map W.d)).bind qe else .no)=_;rw[aN rfl,aR,hf h hu];rfl
 ·rcases kw s hs with z|z
  ·by_cases e:s=h
   ·subst e;exact hcl t ht
   ·exact sub t (w.ex s z (λq=>by
     rcases br.mp q with q|q
     ·exact e q
     ·exact hn (wr s q)) t ht)
  ·exact absurd z hn
theorem EO(hU:U.length<=100)(hnU:∀s∈U,∀t∈nx s,t∈U)(hnl:∀s∈U,(nx s).length<=1000)(hf:∀s∈U,f (.d (au s)::aC.map W.d)=.ok (.d (aW (nx s)))):∀(n:Nat) (bs:List Bf) (ws:List Spot) (o4 o5:Option W),n<=100->jN st U nx bs ws->(U.length-bs.length)+ws.length<n ->
 ∃bs' p4 p5,jL (dP (mV 3)) (zc κ f) n (et X κ aC bs ws o4 o5)=.ok (.nx (et X κ aC bs' [] p4 p5))/\jN st U nx bs' []
 |0,_,_,_,_,_,_,h=>absurd h (qu _)
 |n+1,bs,[],o4,o5,_,w,h=>⟨bs,o4,o5,rfl,w⟩
 |n+1,bs,x::r,o4,o5,hn,w,h=>by
  have hc:dP (mV 3) (et X κ aC bs (x::r) o4 o5)=.ok true:=rfl;rw[bQ]at h;obtain⟨bs',ws',p4,g,w',ln⟩:=JO (X:=X) (κ:=κ) hU hnU hnl hf (by omega) w o4;have l3:=w'.len;have l4:=w.len;obtain⟨b2,q4,q5,g2,w2⟩:=EO hU hnU hnl hf n bs' ws' p4 (aa (.d (au x))) (by omega) w' (by omega);refine⟨b2,q4,q5,?_,w2⟩;have pop:iu 5 3 (mC (.int 0)) (et X κ aC bs (x::r) o4 o5)=.ok (.nx (et X κ aC bs r o4 (aa (.d (au x))))):=by
   show Rs.bind (jP (au x::r.map au) 0) _=_;unfold jP;rw[aK (by decide)];have:ed (au x::r.map au).length 0=aa 0:=by unfold ed;rw[aN (by decide),aN (by rw[bQ];omega)];rfl
   rw[this];rfl
  rw[jL,hc,aR,aN rfl];show Rs.bind (aF (iu 5 3 (mC (.int 0))) (xO κ f) _) _=_;rw[aV pop,g,aR];exact g2
theorem N5(nd:st.Nodup)(hst:∀s∈st,s∈U)(hU:U.length<=30)(hnU:∀s∈U,∀t∈nx s,t∈U)(hnl:∀s∈U,(nx s).length<=1000)(hf:∀s∈U,f (.d (au s)::aC.map W.d)=.ok (.d (aW (nx s)))) :
 ∃bs,fL 2 6 (E1 κ f) [.d (aW st),.fn κ aC]=.ok (ie bs)/\jN st U nx bs []:=by
 have hk:bU (st.map λs=>((s,ac):Bf))=st:=by unfold bU;rw[cX];exact List.map_id _
 have tr:∀l:List Spot,(∀s∈l,s∈st)->jQ st nx (l.map λs=>(s,ac)):=λl=>by
  have:∀l:List Spot,(∀s∈l.reverse,s∈st)->jQ st nx (l.reverse.map λs=>(s,ac)):=λl=>by
   induction l with
   |nil=>exactλ_=>.nil
   |cons x r ih=>
    intro h;rw[sS]at h ⊢;rw[fH];exact .from (ih λs hs=>h s (eB _ hs)) (h x (dQ _ (dm.mpr rfl)))
  have:=this l.reverse;rw[List.reverse_reverse]at this;exact this
 have sl:st.length<=U.length:=g9 nd hst;obtain⟨o4,g1⟩:=Oq (X:=aW st) (κ:=κ) (aC:=aC) nd (by omega);obtain⟨bs,p4,p5,g2,w⟩:=EO (X:=aW st) (κ:=κ) (f:=f) (aC:=aC) (st:=st) (by omega) hnU hnl hf 40 (st.map λs=>(s,ac)) st o4 ac (by decide) ⟨tr st λs h=>h,by rw[hk];exact nd,by rw[hk];exact hst,by rw[hk];exactλs h=>h,by rw[hk];exactλs h=>h,by rw[hk];exactλs h h'=>absurd h h'⟩ (by rw[aQ];omega);refine⟨bs,?_,w⟩;rw[lr];rw[show([aa (W.d (aW st)),aa (W.fn κ aC)]++dq (6-2) ac)=[aa (W.d (aW st)),aa (W.fn κ aC),ac,ac,ac,ac]from rfl];unfold E1;rw[aV (e':=[aa (W.d (aW st)),aa (W.fn κ aC),aa (ie []),ac,ac,ac]) rfl];rw[aV (e':=et (aW st) κ aC [] [] ac ac) (bI (l7 _))];rw[aV ((gU (fb (x:=aW st) rfl rfl)).trans g1)];rw[aV (show lw 40 (dP (mV 3)) (zc κ f) _=_ from g2)];rfl
end
theorem jN.iff{st U:List Spot}{nx:Spot->List Spot}{bs:List Bf}(w:jN st U nx bs [])(s:Spot):s∈bU bs↔Rc (·∈st) (λs t=>t∈nx s) s:=
 ⟨w.tr.rc s,λr=>by
  induction r with
  |base h=>exact w.st _ h
  |step _ h ih=>exact w.ex _ ih (λq=>nomatch q) _ h⟩
end Mr
namespace Mr
open PySem Mi
open Vp
theorem OQ{A:List Ar}{x y:Str}(h:iI A x y):Up (ar A) x y:=by
 induction h with
 |refl=>exact .refl _
 |step _ a ih=>exact ih.trans (.step a (.refl _))
theorem MV{A:List Ar}{x y:Str}(h:Up (ar A) x y):iI A x y:=by
 have key:∀{a b:Str},Up (ar A) a b->∀{z:Str},iI A z a->iI A z b:=λ{a b} h=>by
  induction h with
  |refl=>exactλk=>k
  |step a _ ih=>exactλk=>ih (.step k a)
 exact key h .refl
theorem Lk.bv{ab:List Str}{A:List Ar}(G:Lk ab A)(pos:1<=ab.length):lZ ab A:=by obtain⟨r,h⟩:=G.rk;exact⟨G.nd,pos,G.le,G.al,λp hp=>(G.inn p hp).1,r,h⟩
theorem w9{ab:List Str}{A:List Ar}(L:Lk ab A){ah:List Str}{x:Str}(hx:x∈ab):hb ab A ah x=true↔dW (ar A) (·∈ah) x:=by
 unfold hb dW mZ;rw[List.any_eq_true];constructor
 ·rintro⟨y,h1,h2⟩;exact⟨y,jJ h2,OQ (ym.mp (dL.mp h1).2)⟩
 ·rintro⟨y,h1,h2⟩;refine⟨y,dL.mpr ⟨?_,ym.mpr (MV h2)⟩,cv h1⟩;have:∀{a b:Str},Up (ar A) a b->a∈ab->b∈ab:=λ{a b} h=>by
   induction h with
   |refl=>exact id
   |step a _ ih=>exactλ_=>ih (L.inn _ a).2
  exact this h2 hx
def gh(A:List Ar)(x:Str):List Spot:=(jv A x).map λy=>(y,true)
def gr(A:List Ar)(x:Str):List Spot:=(gW A x).map λy=>(y,false)
noncomputable def nxS (ab:List Str) (A:List Ar) (ah:List Str) (s:Spot):List Spot:=
 (if s.1∈ah then[]else gh A s.1)++(if(if s.2=true then hb ab A ah s.1 else !decide (s.1∈ah))=true then gr A s.1 else[])
def fo(A:List Ar)(x:Str):List Spot:=gh A x++gr A x
theorem Ew{A:List Ar}{x:Str}(hl:A.length<=64):(jv A x).length<=64:=by unfold jv;rw[aQ];exact dR (mK _ _) hl
theorem Lk.BI{ab:List Str}{aq:List Ar}(G:Lk ab aq)(x:Str):(jv aq x).Nodup:=by unfold jv;refine iE.mpr ((G.nda.filter _).imp_of_mem λ{p q} hp hq h z=>h ?_);have h1:=jJ (dL.mp hp).2;have h2:=jJ (dL.mp hq).2;exact mX (h1.trans h2.symm) z
theorem GA{ab:List Str}{A:List Ar}{x:Str}(hx:x∈ab)(hl:A.length<=64):lc [.d (aE ab A),.d (.str x)]=.ok (.d (aW (gh A x))):=by
 unfold lc Cd;rw[lr];have hc:cY (.n 0) en (mN dTup [(mV 0),(mC (.bl true))]) [ac] ((jv A x).map D.str)=.ok (((jv A x).filter λ_=>true).map λy=>au (y,true)):=
  gq D.str (λy=>au (y,true)) _ _ λy _=>⟨[aa (.d (.str y))],rfl,rfl,λ_=>lC rfl rfl⟩
 rw[qh.mpr (λ_ _=>rfl)]at hc;rw[dN (bV (fc (fb (call2 rfl rfl (OX hx hl)) rfl) (by rw[aQ];have:=Ew (x:=x) hl;omega) hc))];unfold aW gh;rw[cX];rfl
theorem Gx{ab:List Str}{A:List Ar}{x:Str}(hx:x∈ab)(hl:A.length<=64):lF [.d (aE ab A),.d (.str x)]=.ok (.d (aW (gr A x))):=by
 unfold lF Gw;rw[lr];have hc:cY (.n 0) en (mN dTup [(mV 0),(mC (.bl false))]) [ac] ((gW A x).map D.str)=.ok (((gW A x).filter λ_=>true).map λy=>au (y,false)):=
  gq D.str (λy=>au (y,false)) _ _ λy _=>⟨[aa (.d (.str y))],rfl,rfl,λ_=>lC rfl rfl⟩
 rw[qh.mpr (λ_ _=>rfl)]at hc;rw[dN (bV (fc (fb (call2 rfl rfl (PL hx hl)) rfl) (by rw[aQ];have:=Bc (x:=x) hl;omega) hc))];unfold aW gr;rw[cX];rfl
theorem sA{A:List Ar}{x:Str}(hl:A.length<=64):(gh A x).length<=64:=by unfold gh;rw[aQ];exact Ew hl
theorem sL{A:List Ar}{x:Str}(hl:A.length<=64):(gr A x).length<=64:=by unfold gr;rw[aQ];exact Bc hl
theorem xj{c:C}{a b:E}{e:Mi.Env}{k:Bool}{x y:D}(hc:c e=.ok k)(ha:k=true->a e=.ok x)(hb:k=false->b e=.ok y):ll c a b e=.ok (if k=true then x else y):=by
 unfold ll;rw[hc,aR];cases k with
 |true=>exact ha rfl
 |false=>exact hb rfl
theorem OB{ab:List Str}{A:List Ar}(N:lZ ab A)(hd:∀p∈A,p.2∈ab)(ah:List Str){s:Spot}(hs:s.1∈ab):qd [.d (aE ab A),.d (au s),.d (ak ah)]=.ok (.d (aW (nxS ab A ah s))):=by
 obtain⟨x,b⟩:=s;have hs:x∈ab:=hs;have hl:=N.al;unfold qd Dt;rw[xh];obtain⟨g,hg⟩ : ∃g,g=(if b=true then hb ab A ah x else !decide (x∈ah)):=⟨_,rfl⟩;rw[show([aa (W.d (aE ab A)),aa (W.d (au (x,b))),aa (W.d (ak ah))]++dq (9-3) ac)=[aa (W.d (aE ab A)),aa (W.d (au (x,b))),aa (W.d (ak ah)),ac,ac,ac,ac,ac,ac]from rfl];rw[aV (e':=[aa (W.d (aE ab A)),aa (W.d (au (x,b))),aa (W.d (ak ah)),aa (W.d (.str x)),aa (W.d (.bl b)),ac,ac,ac,ac]) rfl];rw[aV (e':=[aa (W.d (aE ab A)),aa (W.d (au (x,b))),aa (W.d (ak ah)),aa (W.d (.str x)),aa (W.d (.bl b)),aa (W.d (.bl (!decide (x∈ah)))),ac,ac,ac]) (bI (aA rfl rfl (uc _ _)))];have e6:ll (dP (mV 4)) (ba pT [(wD (mV 0)),(wD (mV 3)),(wD (mV 2))]) (mV 5) [aa (W.d (aE ab A)),aa (W.d (au (x,b))),aa (W.d (ak ah)),aa (W.d (.str x)),aa (W.d (.bl b)),aa (W.d (.bl (!decide (x∈ah)))),ac,ac,ac]=.ok (.bl g):=by rw[xj (k:=b) (x:=.bl (hb ab A ah x)) (y:=.bl (!decide (x∈ah))) rfl (λ_=>k9 rfl rfl rfl (Nh N hd hs ah)) (λ_=>rfl),hg];cases b<;>rfl
 rw[aV (e':=[aa (W.d (aE ab A)),aa (W.d (au (x,b))),aa (W.d (ak ah)),aa (W.d (.str x)),aa (W.d (.bl b)),aa (W.d (.bl (!decide (x∈ah)))),aa (W.d (.bl g)),ac,ac]) (bI e6)];obtain⟨dn,hdn⟩ : ∃dn,dn=(if x∈ah then[]else gh A x):=⟨_,rfl⟩;obtain⟨up,hup⟩ : ∃up,up=(if g=true then gr A x else[]):=⟨_,rfl⟩;have ld:dn.length<=64:=by
  rw[hdn];split
  ·exact eK _
  ·exact sA hl
 have lu:up.length<=64:=by
  rw[hup];split
  ·exact sL hl
  ·exact eK _
 have e7:ll (dP (mV 5)) (ba lc [(wD (mV 0)),(wD (mV 3))]) (mN cR []) [aa (W.d (aE ab A)),aa (W.d (au (x,b))),aa (W.d (ak ah)),aa (W.d (.str x)),aa (W.d (.bl b)),aa (W.d (.bl (!decide (x∈ah)))),aa (W.d (.bl g)),ac,ac]=.ok (aW dn):=by
  rw[xj (k:=!decide (x∈ah)) (x:=aW (gh A x)) (y:=.lst []) rfl (λ_=>call2 rfl rfl (GA hs hl)) (λ_=>l7 _),hdn];by_cases h:x∈ah
  ·rw[cv h,aN h];rfl
  ·rw[dj h,aP h];rfl
 rw[aV (e':=[aa (W.d (aE ab A)),aa (W.d (au (x,b))),aa (W.d (ak ah)),aa (W.d (.str x)),aa (W.d (.bl b)),aa (W.d (.bl (!decide (x∈ah)))),aa (W.d (.bl g)),aa (W.d (aW dn)),ac]) (bI e7)];have e8:ll (dP (mV 6)) (ba lF [(wD (mV 0)),(wD (mV 3))]) (mN cR []) [aa (W.d (aE ab A)),aa (W.d (au (x,b))),aa (W.d (ak ah)),aa (W.d (.str x)),aa (W.d (.bl b)),aa (W.d (.bl (!decide (x∈ah)))),aa (W.d (.bl g)),aa (W.d (aW dn)),ac]=.ok (aW up):=by rw[xj (k:=g) (x:=aW (gr A x)) (y:=.lst []) rfl (λ_=>call2 rfl rfl (Gx hs hl)) (λ_=>l7 _),hup];cases g<;>rfl
 rw[aV (e':=[aa (W.d (aE ab A)),aa (W.d (au (x,b))),aa (W.d (ak ah)),aa (W.d (.str x)),aa (W.d (.bl b)),aa (W.d (.bl (!decide (x∈ah)))),aa (W.d (.bl g)),aa (W.d (aW dn)),aa (W.d (aW up))]) (bI e8)];have e9:m2 a9 (mV 7) (mV 8) [aa (W.d (aE ab A)),aa (W.d (au (x,b))),aa (W.d (ak ah)),aa (W.d (.str x)),aa (W.d (.bl b)),aa (W.d (.bl (!decide (x∈ah)))),aa (W.d (.bl g)),aa (W.d (aW dn)),aa (W.d (aW up))]=.ok (aW (dn++up)):=by refine(aA (x:=aW dn) (y:=aW up) rfl rfl (mF _ _)).trans ?_;rw[aK (by rw[aQ,aQ];omega)];unfold aW;rw[fH]
 rw[dN (bV e9)];rw[hdn,hup,hg];rfl
def i3(ab:List Str):List Spot:=ab.map (λx=>(x,true))++ab.map λx=>(x,false)
theorem mx{ab:List Str}{s:Spot}:s∈i3 ab↔s.1∈ab:=by
 unfold i3;rw[dA,bR,bR];obtain⟨x,b⟩:=s;constructor
 ·rintro(⟨y,h,e⟩|⟨y,h,e⟩)<;>cases e<;>exact h
 ·intro h;cases b
  ·exact .inr ⟨x,h,rfl⟩
  ·exact .inl ⟨x,h,rfl⟩
theorem uI{A:List Ar}{x:Str}{t:Spot}:t∈gh A x↔(x,t.1)∈A/\t.2=true:=by
 unfold gh;rw[bR];constructor
 ·rintro⟨y,h,rfl⟩;exact⟨BC.mp h,rfl⟩
 ·rintro⟨h,e⟩;exact⟨t.1,BC.mpr h,mX rfl e.symm⟩
theorem sw{A:List Ar}{x:Str}{t:Spot}:t∈gr A x↔(t.1,x)∈A/\t.2=false:=by
 unfold gr;rw[bR];constructor
 ·rintro⟨y,h,rfl⟩;exact⟨Gj.mp h,rfl⟩
 ·rintro⟨h,e⟩;exact⟨t.1,Gj.mpr h,mX rfl e.symm⟩
theorem kH{ab:List Str}{A:List Ar}(L:Lk ab A){ah:List Str}{s t:Spot}(hs:s.1∈ab):t∈nxS ab A ah s↔tV (ar A) (·∈ah) s t:=by
 unfold nxS tV FD Cv Goes;rw[dA];refine or_congr ?_ ?_
 ·by_cases h:s.1∈ah
  ·rw[aN h];exact⟨λz=>(by cases z),λz=>absurd h z.1⟩
  ·rw[aP h,uI];exact⟨λz=>⟨h,z.1,z.2⟩,λz=>z.2⟩
 ·cases hb2:s.2 with
  |true=>
   rw[aN rfl];by_cases h:hb ab A ah s.1=true
   ·rw[aN h,sw];exact⟨λz=>⟨.inl ⟨rfl,(w9 L hs).mp h⟩,z.1,z.2⟩,λz=>z.2⟩
   ·rw[aP h];refine⟨λz=>(by cases z),λz=>?_⟩;rcases z.1 with q|q
    ·exact absurd ((w9 L hs).mpr q.2) h
    ·cases q.1
  |false=>
   rw[aP c7];by_cases h:s.1∈ah
   ·rw[cv h,aP (by decide)];refine⟨λz=>(by cases z),λz=>?_⟩;rcases z.1 with q|q
    ·cases q.1
    ·exact absurd h q.2
   ·rw[dj h,aN (by decide),sw];exact⟨λz=>⟨.inr ⟨rfl,h⟩,z.1,z.2⟩,λz=>z.2⟩
theorem kD{A:List Ar}{x:Str}{t:Spot}:t∈fo A x↔uy (ar A) x t:=by unfold fo uy;rw[dA,uI,sw];rfl
theorem Gb{ab:List Str}{A:List Ar}(L:Lk ab A)(x:Str):(fo A x).Nodup:=by
 unfold fo;refine iD.mpr ⟨?_,?_,λa ha b hb e=>?_⟩
 ·exact iE.mpr ((L.BI x).imp λh e=>h (congrArg oH e))
 ·exact iE.mpr ((L.Bu x).imp λh e=>h (congrArg oH e))
 ·have h1:=(uI.mp ha).2;have h2:=(sw.mp hb).2;rw[e,h2]at h1;cases h1
theorem DJ:∀bs:List Bf,jn ((bs.map fE).map (·.2))=true
 |[]=>rfl
 |(s,o)::r=>by
  rw[cW,cW,jn,DJ r];cases o<;>rfl
theorem Gu{ab:List Str}{A:List Ar}(L:Lk ab A){i:Str}(hi:i∈ab)(ah:List Str) :
 ∃bs,iN [.d (aE ab A),.d (.str i),.d (ak ah)]=.ok (ie bs)/\jN (fo A i) (i3 ab) (nxS ab A ah) bs []:=by
 have N:=L.bv (zr hi);have hd:∀p∈A,p.2∈ab:=λp hp=>(L.inn p hp).2;have hl:=L.al;have n8:=L.le;obtain⟨bs,hw,w⟩:=N5 (κ:=⟨0,0, "", []⟩) (f:=t5) (aC:=[aE ab A,ak ah]) (st:=fo A i) (U:=i3 ab) (nx:=nxS ab A ah) (Gb L i) (λs hs=>by
  rw[mx];rcases kD.mp hs with h|h
  ·exact(L.inn _ h.1).2
  ·exact(L.inn _ h.1).1) (by unfold i3;rw[cC,aQ,aQ];omega) (λs hs t ht=>by
  rw[mx]at hs ⊢;rcases(kH L hs).mp ht with h|h
  ·exact(L.inn _ h.2.1).2
  ·exact(L.inn _ h.2.1).1) (λs hs=>by
  unfold nxS;rw[cC];have h1:(if s.1∈ah then[]else gh A s.1).length<=64:=by
   split
   ·exact eK _
   ·exact sA hl
  have h2:(if(if s.2=true then hb ab A ah s.1 else !decide (s.1∈ah))=true then gr A s.1 else[]).length<=64:=by
   generalize (if s.2=true then hb ab A ah s.1 else !decide (s.1∈ah))=g;cases g
   ·exact eK _
   ·exact sL hl
  omega) (λs hs=>by
  rw[mx]at hs;show Rs.bind (ba qd [(wD (mV 1)),(wD (mV 0)),(wD (mV 2))] [aa (.d (au s)),aa (.d (aE ab A)),aa (.d (ak ah))]) _=_;rw[k9 rfl rfl rfl (OB N hd ah hs)];rfl)
 refine⟨bs,?_,w⟩;unfold iN Cp;rw[yJ];rw[show([aa (W.d (aE ab A)),aa (W.d (.str i)),aa (W.d (ak ah))]++dq (4-3) ac)=[aa (W.d (aE ab A)),aa (W.d (.str i)),aa (W.d (ak ah)),ac]from rfl];have e3:m2 a9 (ba lc [(wD (mV 0)),(wD (mV 1))]) (ba lF [(wD (mV 0)),(wD (mV 1))]) [aa (W.d (aE ab A)),aa (W.d (.str i)),aa (W.d (ak ah)),ac]=.ok (aW (fo A i)):=by refine(aA (x:=aW (gh A i)) (y:=aW (gr A i)) (call2 rfl rfl (GA hi hl)) (call2 rfl rfl (Gx hi hl)) (mF _ _)).trans ?_;have:=sA (x:=i) hl;have:=sL (x:=i) hl;rw[aK (by rw[aQ,aQ];omega)];unfold aW fo;rw[fH]
 rw[aV (e':=[aa (W.d (aE ab A)),aa (W.d (.str i)),aa (W.d (ak ah)),aa (W.d (aW (fo A i)))]) (bI e3)];have e4:ze rE [0,2] (mV 3) [aa (W.d (aE ab A)),aa (W.d (.str i)),aa (W.d (ak ah)),aa (W.d (aW (fo A i)))]=.ok (ie bs):=by show Rs.bind (rE (aW (fo A i)) [aE ab A,ak ah]) ED=_;rw[show rE (aW (fo A i)) [aE ab A,ak ah]=.ok (ie bs)from hw];show(if jn ((bs.map fE).map (·.2))=true then Rs.ok (W.dt (bs.map fE))else .no)=_;rw[aN (DJ bs)]
 rw[dN e4];rfl
theorem _root_.Vp.Rc.congr{α:Type}{st st':α×Bool->Prop}{nx nx':α×Bool->α×Bool->Prop}{P:α×Bool->Prop}(hs:∀t,st t->st' t)(hp:∀t,st t->P t)(hn:∀s t,P s->nx s t->nx' s t/\P t){s:α×Bool}(r:Rc st nx s):Rc st' nx' s/\P s:=by
 induction r with
 |base h=>exact⟨.base (hs _ h),hp _ h⟩
 |step _ h ih=>exact⟨.step ih.1 (hn _ _ ih.2 h).1,(hn _ _ ih.2 h).2⟩
theorem uP{ab:List Str}{A:List Ar}(L:Lk ab A){i:Str}(hi:i∈ab){ah:List Str}{bs:List Bf}(w:jN (fo A i) (i3 ab) (nxS ab A ah) bs [])(s:Spot):s∈bU bs↔Vp.Wk (ar A) (·∈ah) i s:=by
 rw[w.iff];have i1:∀t,uy (ar A) i t->t.1∈ab:=λt h=>by
  rcases h with h|h
  ·exact(L.inn _ h.1).2
  ·exact(L.inn _ h.1).1
 have i2:∀s t,tV (ar A) (·∈ah) s t->t.1∈ab:=λs t h=>by
  rcases h with h|h
  ·exact(L.inn _ h.2.1).2
  ·exact(L.inn _ h.2.1).1
 constructor
 ·intro r;exact(r.congr (P:=λt=>t.1∈ab) (λt h=>kD.mp h) (λt h=>i1 t (kD.mp h)) λs t hs h=>⟨(kH L hs).mp h,i2 s t ((kH L hs).mp h)⟩).1
 ·intro r;exact(r.congr (P:=λt=>t.1∈ab) (λt h=>kD.mpr h) i1 λs t hs h=>⟨(kH L hs).mpr h,i2 s t h⟩).1
def k4(bs:List Bf)(j:Str):List Spot:=(bU bs).filter λs=>decide (s.1=j)
theorem IP(bs:List Bf)(hl:bs.length<=1000)(j:Str):n9 [.d (.str j),.df (bs.map fE)]=.ok (.d (aW (k4 bs j))):=by
 unfold n9 BQ;rw[lr];have hc:cY (.n 1) (cB (m2 bY (m2 aO (mV 1) (mC (.int 0))) (mV 0))) (mV 1) [aa (.d (.str j)),ac] ((bU bs).map au)=.ok (((bU bs).filter λs=>decide (s.1=j)).map au):=
  gq au au _ _ λs _=>⟨[aa (.d (.str j)),aa (.d (au s))],rfl,cp (aA (x:=.str s.1) (aA (x:=au s) rfl rfl (by show cQ (dg [D.str s.1,D.bl s.2] 0)=_;rw[at0];rfl)) rfl (mn _ _)),λ_=>rfl⟩
 have it:qb 1 [aa (W.d (.str j)),aa (W.df (bs.map fE))]=.ok ((bU bs).map au):=by show Rs.ok ((bs.map fE).map λkv=>D.tup (kv.1.map iX))=_;unfold bU;rw[cX,cX];rfl
 rw[show([aa (W.d (.str j)),aa (W.df (bs.map fE))]++dq (2-2) ac)=[aa (W.d (.str j)),aa (W.df (bs.map fE))]from rfl];rw[dN (bV (fc (e:=[aa (W.d (.str j)),aa (W.df (bs.map fE))]) it (by rw[aQ,kys_len];omega) hc))];rfl
theorem E5{ab asked:List Str}(h:∀x∈asked,x∈ab)(nd:asked.Nodup)(hl:asked.length<=1000):m4 [.d (cF ab),.d (ak asked)]=.ok (.d .non):=by unfold m4 EB;rw[iW];rw[aV (e':=[aa (.d (cF ab)),aa (.d (ak asked))]) (by unfold fV;rw[call2 rfl rfl (u6 h)];rfl)];show Rs.bind (fV _ _) _=_;unfold fV;rw[IZ rfl (Pz nd hl)];rfl
theorem MM{ab:List Str}{A:List Ar}(L:Lk ab A){i j:Str}(hi:i∈ab)(hj:j∈ab)(ij:i≠j){ah:List Str}(hs:∀x∈ah,x∈ab)(nd:ah.Nodup)(ni:i∉ah)(nj:j∉ah) :
 sI [.d (aE ab A),.d (.str i),.d (.str j),.d (ak ah)]=.ok (.d (.bl (!lS A i j ah))):=by
 have ndS:([i,j]++ah).Nodup:=by
  refine iD.mpr ⟨by simp[ij],nd,λa ha b hb e=>?_⟩;subst e;rcases br.mp ha with rfl|z
  ·exact ni hb
  ·rw[dm.mp z]at hb;exact nj hb
 have n8:=L.le;have hl8:ah.length<=8:=dR (g9 nd hs) n8;obtain⟨bs,hbf,w⟩:=Gu L hi ah;have bl:bs.length<=16:=by have:=w.len;unfold i3 at this;rw[cC,aQ,aQ]at this;omega
 unfold sI Bm;rw[CI];rw[show([aa (W.d (aE ab A)),aa (W.d (.str i)),aa (W.d (.str j)),aa (W.d (ak ah))]++dq (4-4) ac)=[aa (W.d (aE ab A)),aa (W.d (.str i)),aa (W.d (.str j)),aa (W.d (ak ah))]from rfl];have l2:m2 a9 (mN cR [(mV 1),(mV 2)]) (mN kn [(mV 3)]) [aa (W.d (aE ab A)),aa (W.d (.str i)),aa (W.d (.str j)),aa (W.d (ak ah))]=.ok (ak ([i,j]++ah)):=by refine(aA (x:=ak [i,j]) (y:=ak ah) (CG rfl rfl) ((fW (x:=ak ah) rfl).trans rfl) (mF _ _)).trans ?_;rw[aK (by rw[aQ,aQ];simp only[bQ,j5];omega)];rfl
 have asks:=E5 (ab:=ab) (asked:=[i,j]++ah) (λx hx=>by
  rcases dA.mp hx with z|z
  ·rcases br.mp z with rfl|z
   ·exact hi
   ·rw[dm.mp z];exact hj
  ·exact hs x z) ndS (by simp only[cC,bQ,j5];omega)
 rw[aV (e':=[aa (W.d (aE ab A)),aa (W.d (.str i)),aa (W.d (.str j)),aa (W.d (ak ah))]) (by unfold fV;rw[call2 (bV (aA rfl rfl (kB ab A))) (bV l2) asks];rfl)];have fz:uf (gy iN [(wD (mV 0)),(wD (mV 1)),(wD (mV 3))]) [aa (W.d (aE ab A)),aa (W.d (.str i)),aa (W.d (.str j)),aa (W.d (ak ah))]=.ok (.df (bs.map fE)):=by show Rs.bind (iN [.d (aE ab A),.d (.str i),.d (ak ah)]) CV=_;rw[hbf];rfl
 have sp:=call2 (f:=n9) (a:=wD (mV 2)) (e:=[aa (W.d (aE ab A)),aa (W.d (.str i)),aa (W.d (.str j)),aa (W.d (ak ah))]) (x:=.d (.str j)) rfl fz (IP bs (by omega) j);have fin:(!(k4 bs j).isEmpty)=lS A i j ah:=by
  rw[oB,vb,<- Ed (A:=ar A) (S:=(·∈ah)) ij ni nj];constructor
  ·intro h;cases ho:k4 bs j with
   |nil=>rw[ho]at h;cases h
   |cons s r=>
    have hm:s∈k4 bs j:=by rw[ho];exact bP
    obtain⟨h1,h2⟩:=dL.mp hm;have h2:s.1=j:=jJ h2;refine⟨s.2,?_⟩;rw[<- h2];exact(uP L hi w s).mp h1
  ·rintro⟨b,h⟩;have hm:(j,b)∈k4 bs j:=dL.mpr ⟨(uP L hi w _).mpr h,cv rfl⟩;cases ho:k4 bs j with
   |nil=>rw[ho]at hm;cases hm
   |cons s r=>rfl
 have nt:tT (ba n9 [(wD (mV 2)),(uf (gy iN [(wD (mV 0)),(wD (mV 1)),(wD (mV 3))]))]) [aa (W.d (aE ab A)),aa (W.d (.str i)),aa (W.d (.str j)),aa (W.d (ak ah))]=.ok (.bl (!lS A i j ah)):=by unfold tT dP;rw[sp,aR,show DY (aW (k4 bs j))=.ok (!((k4 bs j).map au).isEmpty)from rfl,aR];rw[<- fin];cases k4 bs j<;>rfl
 rw[dN (bV nt)];rfl
end Mr
namespace Vp
section
variable{α:Type}{A:α->α->Prop}{S:α->Prop}{i j:α}
theorem Met.sym{adj:α->α->Prop}(hs:∀u v,adj u v->adj v u)(ni:¬ S i){v:α}(m:Met adj S i v):Met adj S v i:=by
 have key:∀{u w:α},Met adj S u w->∀{x:α},adj x u->¬ S u->Met adj S x w:=λ{u w} m=>by
  induction m with
  |base=>exactλ{x} a ns=>.step .base a ns
  |step _ a s ih=>exactλ{x} b ns=>.step (ih b ns) a s
 have nv:∀{v:α},Met adj S i v->¬ S v:=λ{v} m=>by
  cases m with
  |base=>exact ni
  |step _ _ s=>exact s
 induction m with
 |base=>exact .base
 |step m a s ih=>exact key ih (hs _ _ a) (nv m)
theorem kI.sym(ni:¬ S i)(h:kI A i j S):kI A j i S:=by
 have e:Tg i j S=Tg j i S:=by funext x;unfold Tg;exact propext ⟨λh=>by rcases h with h|h|h;exact .inr (.inl h);exact .inl h;exact .inr (.inr h),λh=>by rcases h with h|h|h;exact .inr (.inl h);exact .inl h;exact .inr (.inr h)⟩
 unfold kI at h ⊢;rw[e]at h;exact h.sym (λu v ⟨n,hn,f1,f2⟩=>⟨n,hn,f2,f1⟩) ni
end
end Vp
namespace Mr
open PySem Mi
open Vp
theorem LW{A:List Ar}{i j:Str}{ah:List Str}(ni:i∉ah)(nj:j∉ah):lS A i j ah=lS A j i ah:=by rw[oB,vb,vb];exact⟨λh=>h.sym ni,λh=>h.sym nj⟩
noncomputable def rcB (A:List Ar) (ah:List Str) (i:Str) (s:Spot):Bool:=@decide (Vp.Wk (ar A) (·∈ah) i s) (qv _)
theorem ub{A:List Ar}{ah:List Str}{i:Str}{s:Spot}:rcB A ah i s=true↔Vp.Wk (ar A) (·∈ah) i s:=by unfold rcB;exact@ko _ (qv _)
noncomputable def jd (A:List Ar) (ah:List Str) (i x:Str):List Spot:=([false,true].filter λb=>rcB A ah i (x,b)).map λb=>(x,b)
noncomputable def tld (ab:List Str) (A:List Ar) (ah:List Str) (i:Str):List Spot:=ab.flatMap (jd A ah i)
theorem uC{A:List Ar}{ah:List Str}{i x:Str}{s:Spot}:s∈jd A ah i x↔s.1=x/\rcB A ah i s=true:=by
 unfold jd;rw[bR];constructor
 ·rintro⟨b,h,rfl⟩;exact⟨rfl,(dL.mp h).2⟩
 ·rintro⟨rfl,h⟩;exact⟨s.2,dL.mpr ⟨by cases s.2<;>simp,h⟩,rfl⟩
theorem yW{ab:List Str}{A:List Ar}{ah:List Str}{i:Str}{s:Spot}:s∈tld ab A ah i↔s.1∈ab/\rcB A ah i s=true:=by
 unfold tld;rw[sU];constructor
 ·rintro⟨x,hx,h⟩;obtain⟨e,h⟩:=uC.mp h;exact⟨by rw[e];exact hx,h⟩
 ·rintro⟨hx,h⟩;exact⟨s.1,hx,uC.mpr ⟨rfl,h⟩⟩
theorem E7{ab:List Str}{A:List Ar}{ah:List Str}{i:Str}(h8:ab.length<=8):(tld ab A ah i).length<=16:=by
 have:=xJ (g:=jd A ah i) (m:=2) (l:=ab) λx _=>by
  unfold jd;rw[aQ];exact dR (mK _ _) (bq 2)
 unfold tld;omega
def jo(ab:List Str)(s:Spot):List Int:=[((ab.idxOf s.1:Nat):Int),hW s.2]
theorem Pj{ab:List Str}{s t:Spot}(hs:s.1∈ab)(ht:t.1∈ab)(h:jo ab s=jo ab t):s=t:=by
 unfold jo at h;simp only[HU,and_true]at h;have e1:ab.idxOf s.1=ab.idxOf t.1:=by omega
 have e2:s.1=t.1:=by have a:=zy (vp hs);have b:=zy (vp ht);rw[<- a,<- b];simp only[e1]
 refine mX e2 ?_;have:=h.2
 revert this
 cases s.2<;>cases t.2<;>simp[hW]
theorem OP{ab:List Str}(nd:ab.Nodup){A:List Ar}{ah:List Str}{i:Str}:(tld ab A ah i).Pairwise λa b=>fP (jo ab a) (jo ab b)=true:=by
 have key:∀(pre suf:List Str),pre++suf=ab->(suf.flatMap (jd A ah i)).Pairwise λa b=>fP (jo ab a) (jo ab b)=true:=λpre suf=>by
  induction suf generalizing pre with
  |nil=>exactλ_=>.nil
  |cons x r ih=>
   intro e;rw[lH];have nd':=nd;rw[<- e]at nd';have ix:ab.idxOf x=pre.length:=by rw[<- e,G3,aP (λz=>(iD.mp nd').2.2 x z x bP rfl),List.idxOf_cons_self];omega
   refine GW.mpr ⟨?_,ih (pre++[x]) (by rw[qi];exact e),λa ha b hb=>?_⟩
   ·unfold jd;refine iE.mpr (z7 _ ?_);simp only[jA,dm,forall_eq,vz,false_implies,implies_true,z8,and_true];unfold jo;rw[LF];exact DF (show(0:Int)<1 by decide)
   ·obtain⟨ea,_⟩:=uC.mp ha;obtain⟨y,hy,hb⟩:=sU.mp hb;obtain⟨eb,_⟩:=uC.mp hb;unfold jo;refine DF ?_;rw[ea,eb,ix];have:pre.length<ab.idxOf y:=by
     have n1:y∉pre:=λz=>(iD.mp nd').2.2 y z y (cy _ hy) rfl;have n2:x≠y:=λz=>(j4.mp (iD.mp nd').2.1).1 (z ▸ hy);rw[<- e,G3,aP n1,List.idxOf_cons,(pB.mpr n2:(x==y)=false)];simp only[cond_false];omega
    omega
 exact key [] ab rfl
theorem A8{ab:List Str}{A:List Ar}(L:Lk ab A){i:Str}(hi:i∈ab){ah:List Str}(hs:∀x∈ah,x∈ab)(nd:ah.Nodup)(ni:i∉ah):nC [.d (aE ab A),.d (.str i),.d (ak ah)]=.ok (.d (aW (tld ab A ah i))):=by
 have n8:=L.le;have hl8:ah.length<=8:=dR (g9 nd hs) n8;obtain⟨bs,hbf,w⟩:=Gu L hi ah;have bl:bs.length<=16:=by have:=w.len;unfold i3 at this;rw[cC,aQ,aQ]at this;omega
 unfold nC FN;rw[yJ];rw[show([aa (W.d (aE ab A)),aa (W.d (.str i)),aa (W.d (ak ah))]++dq (4-3) ac)=[aa (W.d (aE ab A)),aa (W.d (.str i)),aa (W.d (ak ah)),ac]from rfl];have l2:m2 a9 (mN cR [(mV 1)]) (mN kn [(mV 2)]) [aa (W.d (aE ab A)),aa (W.d (.str i)),aa (W.d (ak ah)),ac]=.ok (ak ([i]++ah)):=by refine(aA (x:=ak [i]) (y:=ak ah) (pH rfl) ((fW (x:=ak ah) rfl).trans rfl) (mF _ _)).trans ?_;rw[aK (by rw[aQ,aQ];simp only[bQ,j5];omega)];rfl
 have asks:=E5 (ab:=ab) (asked:=[i]++ah) (λx hx=>by
  rcases dA.mp hx with z|z
  ·rw[dm.mp z];exact hi
  ·exact hs x z) (iD.mpr ⟨by simp,nd,λa ha b hb e=>by rw[dm.mp ha]at e;exact ni (e ▸ hb)⟩) (by simp only[cC,bQ,j5];omega)
 rw[aV (e':=[aa (W.d (aE ab A)),aa (W.d (.str i)),aa (W.d (ak ah)),ac]) (by unfold fV;rw[call2 (bV (aA rfl rfl (kB ab A))) (bV l2) asks];rfl)];rw[aV (e':=[aa (W.d (aE ab A)),aa (W.d (.str i)),aa (W.d (ak ah)),aa (W.d (cF ab))]) (bI (aA rfl rfl (kB ab A)))];obtain⟨env,henv⟩ : ∃env:Mi.Env,env=[aa (W.d (aE ab A)),aa (W.d (.str i)),aa (W.d (ak ah)),aa (W.d (cF ab))]:=⟨_,rfl⟩;have kin:∀s∈bU bs,s.1∈ab:=λs h=>mx.mp (w.u s h);have kd:∀l:List Spot,(∀s∈l,s.1∈ab)->iU [3] (mN dTup [(m2 rC (mV 1) (m2 aO (mV 0) (mC (.int 0)))),(m2 aO (mV 0) (mC (.int 1)))]) env (l.map au)=.ok (l.map (jo ab)):=λl=>by
  induction l with
  |nil=>exactλ_=>rfl
  |cons s r ih=>
   intro h;rw[cW,iU,ih λt ht=>h t (cy _ ht)];have e1:lY [3] env (au s)=[aa (W.d (au s)),aa (W.d (cF ab))]:=by rw[henv];rfl
   have ix:rC (cF ab) (.str s.1)=.ok (.int ((ab.idxOf s.1:Nat):Int)):=by have hm:=h s bP;show Rs.bind (cQ (jr (ab.map D.str))) _=_;rw[Dk,jR,aR];exact aK ⟨hm,by omega⟩
   rw[e1,lC (x:=.int ((ab.idxOf s.1:Nat):Int)) (y:=.bl s.2) (aA (x:=cF ab) (y:=.str s.1) rfl (aA (x:=au s) rfl rfl (by show cQ (dg [D.str s.1,D.bl s.2] 0)=_;rw[at0];rfl)) ix) (aA (x:=au s) rfl rfl (by show cQ (dg [D.str s.1,D.bl s.2] 1)=_;rw[at1];rfl))];rfl
 have fQ:tQ [3] (gy iN [(wD (mV 0)),(wD (mV 1)),(wD (mV 2))]) (mN dTup [(m2 rC (mV 1) (m2 aO (mV 0) (mC (.int 0)))),(m2 aO (mV 0) (mC (.int 1)))]) env=.ok (aW (tld ab A ah i)):=by
  unfold tQ;have wc:gy iN [(wD (mV 0)),(wD (mV 1)),(wD (mV 2))] env=.ok (ie bs):=by rw[henv];show Rs.bind (Rs.ok [.d (aE ab A),.d (.str i),.d (ak ah)]) iN=_;rw[aR,hbf]
  rw[wc,aR];have e2:((bs.map fE).map λkv=>D.tup (kv.1.map iX))=(bU bs).map au:=by unfold bU;rw[cX,cX];rfl
  show bc ((bs.map fE).length<64) (Rs.bind (iU _ _ env ((bs.map fE).map λkv=>D.tup (kv.1.map iX))) λkz=>bc kz.Nodup (Rs.ok (D.lst (sortBy kz ((bs.map fE).map λkv=>D.tup (kv.1.map iX))))))=_;rw[aK (by rw[aQ];omega),e2,kd _ kin,aR];have knd:((bU bs).map (jo ab)).Nodup:=iE.mpr (w.nd.imp_of_mem λ{a b} ha hb ne e=>ne (Pj (kin a ha) (kin b hb) e));rw[aK knd];rw[Ja (jo ab) au knd (ys:=tld ab A ah i) (λs=>?_) (OP L.nd)];rw[yW,uP L hi w,ub];exact⟨λh=>⟨kin s ((uP L hi w s).mpr h),h⟩,λh=>h.2⟩
 rw[<- henv,dN (bV fQ)];rfl
end Mr
namespace Mr
open PySem Mi
open Vp
theorem JB{ab X Y:List Str}(h:∀y∈X,y∈Y){a:Str}(ha:a∈ab)(hX:a∉X)(hY:a∈Y):(ab.filter λy=>decide (y∈X)).length<(ab.filter λy=>decide (y∈Y)).length:=by
 induction ab with
 |nil=>cases ha
 |cons n r ih=>
  have mono:∀l:List Str,(l.filter λy=>decide (y∈X)).length<=(l.filter λy=>decide (y∈Y)).length:=λl=>by
   induction l with
   |nil=>exact bq _
   |cons m l il=>
    by_cases h1:m∈X
    ·rw[mI (by simp[h1]),mI (by simp[h m h1]),bQ,bQ];omega
    ·rw[qg (by simp[h1])];by_cases h2:m∈Y
     ·rw[mI (by simp[h2]),bQ];omega
     ·rw[qg (by simp[h2])];exact il
  by_cases e:n=a
  ·subst e;rw[qg (by simp[hX]),mI (by simp[hY]),bQ];have:=mono r;omega
  ·have ha:a∈r:=(br.mp ha).resolve_left λz=>e z.symm;have:=ih ha;by_cases h1:n∈X
   ·rw[mI (by simp[h1]),mI (by simp[h n h1]),bQ,bQ];omega
   ·rw[qg (by simp[h1])];by_cases h2:n∈Y
    ·rw[mI (by simp[h2]),bQ];omega
    ·rw[qg (by simp[h2])];exact this
theorem KO{ab:List Str}{A:List Ar}(L:Lk ab A){ah:List Str}(hs:∀x∈ah,x∈ab)(hl:ah.length<=8) :
 ∃rd,sG [.d (aE ab A),.d (ak ah)]=.ok (.d (ak rd))/\∀y,y∈rd↔dW (ar A) (·∈ah) y:=by
 have n8:=L.le;have al:=L.al;have all:∀rd,yt A rd->(∀y∈ah,y∈rd)->∀y,dW (ar A) (·∈ah) y->y∈rd:=λrd hc h y hy=>by
  obtain⟨z,hz,u⟩:=hy
  induction u with
  |refl=>exact h _ hz
  |step a _ ih=>exact hc (_,_) a (ih hz)
 obtain⟨e',f1,rd,o3,he,hh,hb,hc,hlen⟩:=gZ (tg:=.n 3) (body:=(bp 2 (m2 a9 (mV 2) (cr [aa 2,ac,ac] (bM (m2 aO (mV 0) (mC (.int 1)))) (.t [1,2]) (dX (cB (m2 fM (mV 2) (mV 0))) (cB (m2 e5 (mV 1) (mV 0)))) (mV 1)))))
  (λi e=>∃(rd:List Str) (o3:Option W),e=[aa (.d (aE ab A)),aa (.d (ak ah)),aa (.d (ak rd)),o3]/\(∀y∈ah,y∈rd)/\(∀y∈rd,y∈ab/\dW (ar A) (·∈ah) y)/\(i<=(ab.filter λy=>decide (y∈rd)).length\/yt A rd)/\rd.length<=8+64*i) (dC 0 ((ab.length:Nat):Int)) 0 (λi d e hi ⟨rd,o3,he,hh,hb,hc,hlen⟩=>by
   subst he;have i8:i<8:=by obtain⟨h1,_⟩:=rA hi;omega
   rw[dM]at hc hlen ⊢;obtain⟨mo,hmo⟩ : ∃mo,mo=(A.filter λp=>decide (p.2∈rd) && !decide (p.1∈rd)).map (·.1):=⟨_,rfl⟩;have ml:mo.length<=64:=by rw[hmo,aQ];exact dR (mK _ _) al
   have mm:∀y∈mo,y∉rd/\∃h∈rd,(y,h)∈A:=λy hy=>by
    rw[hmo]at hy;obtain⟨p,hp,rfl⟩:=bR.mp hy;obtain⟨h1,h2⟩:=dL.mp hp;simp only[oA,jg,Ht,xS]at h2;exact⟨h2.2,p.2,h2.1,h1⟩
   have cm:cY (.t [1,2]) (dX (cB (m2 fM (mV 2) (mV 0))) (cB (m2 e5 (mV 1) (mV 0)))) (mV 1) [aa (.d (ak rd)),ac,ac] (A.map pairD)=.ok (mo.map D.str):=by rw[hmo,cX];exact gq pairD (λp=>D.str p.1) (λp=>decide (p.2∈rd) && !decide (p.1∈rd)) A λp _=>⟨[aa (.d (ak rd)),aa (.d (.str p.1)),aa (.d (.str p.2))],rfl,zg (cp (aA rfl rfl (yU _ _))) λ_=>cp (aA rfl rfl (uc _ _)),λ_=>rfl⟩
   have st:m2 a9 (mV 2) (cr [aa 2,ac,ac] (bM (m2 aO (mV 0) (mC (.int 1)))) (.t [1,2]) (dX (cB (m2 fM (mV 2) (mV 0))) (cB (m2 e5 (mV 1) (mV 0)))) (mV 1)) [aa (.d (aE ab A)),aa (.d (ak ah)),aa (.d (ak rd)),aa (.d d)]=.ok (ak (rd++mo)):=by refine(aA (x:=ak rd) (y:=ak mo) rfl (fc (ρ:=[aa 2,ac,ac]) (fb (aA rfl rfl (mv ab A)) rfl) (by rw[aQ];omega) cm) (mF _ _)).trans ?_;rw[aK (by rw[aQ,aQ];omega)];unfold ak;rw[fH]
   refine⟨[aa (.d (aE ab A)),aa (.d (ak ah)),aa (.d (ak rd)),aa (.d d)],[aa (.d (aE ab A)),aa (.d (ak ah)),aa (.d (ak (rd++mo))),aa (.d d)],rfl,bI st,rd++mo,_,rfl,λy hy=>eB _ (hh y hy),λy hy=>?_,?_,by rw[cC];omega⟩
   ·rcases dA.mp hy with z|z
    ·exact hb y z
    ·obtain⟨_,h,hr,ha⟩:=mm y z;obtain⟨_,z,hz,u⟩:=hb h hr;exact⟨(L.inn _ ha).1,z,hz,.step ha u⟩
   ·cases hmo':mo with
    |nil=>
     rw[lJ];refine .inr λp hp h=>wa λz=>?_;have:p.1∈mo:=by rw[hmo];exact bR.mpr ⟨p,dL.mpr ⟨hp,by rw[cv h,dj z];rfl⟩,rfl⟩
     rw[hmo']at this;cases this
    |cons a r=>
     rw[<- hmo'];have am:a∈mo:=by rw[hmo'];exact bP
     obtain⟨n1,h,hr,ha⟩:=mm a am;rcases hc with hc|hc
     ·have:=JB (ab:=ab) (X:=rd) (Y:=rd++mo) (λy hy=>eB _ hy) (L.inn _ ha).1 n1 (dQ _ am);exact .inl (by omega)
     ·exact absurd (hc _ ha hr) n1) [aa (.d (aE ab A)),aa (.d (ak ah)),aa (.d (ak ah)),ac] ⟨ah,ac,rfl,λy hy=>hy,λy hy=>⟨hs y hy,y,hy,.refl y⟩,.inl (eK _),by omega⟩
 subst he;rw[kA,dM]at hc;have hcl:yt A rd:=by
  rcases hc with h|h
  ·intro p hp _;have e:=qh (p:=λy=>decide (y∈rd)) (l:=ab);have hfl:=mK (λy=>decide (y∈rd)) ab;have:=(List.length_filter_eq_length_iff (p:=λy=>decide (y∈rd)) (l:=ab)).mp (by omega) p.1 (L.inn p hp).1;exact jJ this
  ·exact h
 refine⟨rd,?_,λy=>⟨λh=>(hb y h).2,all rd hcl hh y⟩⟩;unfold sG Bh;rw[iW];rw[show([aa (W.d (aE ab A)),aa (W.d (ak ah))]++dq (4-2) ac)=[aa (W.d (aE ab A)),aa (W.d (ak ah)),ac,ac]from rfl];rw[aV (e':=[aa (W.d (aE ab A)),aa (W.d (ak ah)),aa (W.d (ak ah)),ac]) (bI ((fW (x:=ak ah) rfl).trans rfl))];rw[aV ((gU (iK (Fi rfl) (pF ab.length n8))).trans f1)];rfl
theorem DO{A:List Ar}{x:Str}{ρ:List (Option Nat)}{a k:E}{e:Mi.Env}{w:D}(al:A.length<=64)(ha:bM a e=.ok (A.map pairD))(hp:fZ ρ e=[aa (W.d w),ac,ac])(hk:∀p:Ar,k [aa (W.d w),aa (W.d (.str p.1)),aa (W.d (.str p.2))]=.ok (.str x)) :
 cr ρ (bM a) (.t [1,2]) (cB (m2 bY (mV 1) k)) (mN dTup [(mV 2),(mC (.bl true))]) e=.ok (aW (gh A x)):=by
 have hc:cY (.t [1,2]) (cB (m2 bY (mV 1) k)) (mN dTup [(mV 2),(mC (.bl true))]) (fZ ρ e) (A.map pairD)=.ok ((A.filter λp=>decide (p.1=x)).map λp=>au (p.2,true)):=by rw[hp];exact gq pairD (λp=>au (p.2,true)) _ A λp _=>⟨[aa (W.d w),aa (W.d (.str p.1)),aa (W.d (.str p.2))],rfl,cp (aA rfl (hk p) (mn _ _)),λ_=>lC rfl rfl⟩
 rw[fc ha (by rw[aQ];omega) hc];unfold aW gh jv;rw[cX,cX];rfl
theorem DN{A:List Ar}{x:Str}{ρ:List (Option Nat)}{a k:E}{e:Mi.Env}{w:D}(al:A.length<=64)(ha:bM a e=.ok (A.map pairD))(hp:fZ ρ e=[aa (W.d w),ac,ac])(hk:∀p:Ar,k [aa (W.d w),aa (W.d (.str p.1)),aa (W.d (.str p.2))]=.ok (.str x)) :
 cr ρ (bM a) (.t [1,2]) (cB (m2 bY (mV 2) k)) (mN dTup [(mV 1),(mC (.bl false))]) e=.ok (aW (gr A x)):=by
 have hc:cY (.t [1,2]) (cB (m2 bY (mV 2) k)) (mN dTup [(mV 1),(mC (.bl false))]) (fZ ρ e) (A.map pairD)=.ok ((A.filter λp=>decide (p.2=x)).map λp=>au (p.1,false)):=by rw[hp];exact gq pairD (λp=>au (p.1,false)) _ A λp _=>⟨[aa (W.d w),aa (W.d (.str p.1)),aa (W.d (.str p.2))],rfl,cp (aA rfl (hk p) (mn _ _)),λ_=>lC rfl rfl⟩
 rw[fc ha (by rw[aQ];omega) hc];unfold aW gr gW;rw[cX,cX];rfl
theorem zh{a b:E}{e:Mi.Env}{x y:List Spot}(ha:a e=.ok (aW x))(hb:b e=.ok (aW y))(hl:x.length+y.length<=1000):m2 a9 a b e=.ok (aW (x++y)):=by refine(aA ha hb (mF _ _)).trans ?_;rw[aK (by rw[aQ,aQ];omega)];unfold aW;rw[fH]
theorem qc{a:E}{e:Mi.Env}{s:Spot}(h:a e=.ok (au s)):m2 aO a (mC (.int 0)) e=.ok (.str s.1):=aA h rfl (by show cQ (dg [D.str s.1,D.bl s.2] 0)=_;rw[at0];rfl)
theorem Cq{a:E}{e:Mi.Env}{s:Spot}(h:a e=.ok (au s)):m2 aO a (mC (.int 1)) e=.ok (.bl s.2):=aA h rfl (by show cQ (dg [D.str s.1,D.bl s.2] 1)=_;rw[at1];rfl)
theorem C7{a:E}{e:Mi.Env}{b:Bool}(h:a e=.ok (.bl b)):dP a e=.ok b:=by unfold dP;rw[h];rfl
theorem K7{ab:List Str}{A:List Ar}(L:Lk ab A){ah rd:List Str}(hrd:∀y,y∈rd↔dW (ar A) (·∈ah) y){s:Spot}(hs:s.1∈ab):m3 [.d (aE ab A),.d (ak rd),.d (ak ah),.d (au s)]=.ok (.d (aW (nxS ab A ah s))):=by
 have al:=L.al;unfold m3 Cc;rw[CI];rw[show([aa (W.d (aE ab A)),aa (W.d (ak rd)),aa (W.d (ak ah)),aa (W.d (au s))]++dq (5-4) ac)=[aa (W.d (aE ab A)),aa (W.d (ak rd)),aa (W.d (ak ah)),aa (W.d (au s)),ac]from rfl];rw[aV (e':=[aa (W.d (aE ab A)),aa (W.d (ak rd)),aa (W.d (ak ah)),aa (W.d (au s)),aa (W.d (aW []))]) (bI (l7 _))];obtain⟨dn,hdn⟩ : ∃dn,dn=(if s.1∈ah then[]else gh A s.1):=⟨_,rfl⟩;obtain⟨g,hg⟩ : ∃g,g=(if s.2=true then hb ab A ah s.1 else !decide (s.1∈ah)):=⟨_,rfl⟩;obtain⟨up,hup⟩ : ∃up,up=(if g=true then gr A s.1 else[]):=⟨_,rfl⟩;have ld:dn.length<=64:=by
  rw[hdn];split
  ·exact eK _
  ·exact sA al
 have lu:=sL (x:=s.1) al;have i1:(bK (cB (m2 e5 (m2 aO (mV 3) (mC (.int 0))) (mV 2)))
 (bp 4 (cr [aa 3,ac,ac] (bM (m2 aO (mV 0) (mC (.int 1)))) (.t [1,2]) (cB (m2 bY (mV 1) (m2 aO (mV 0) (mC (.int 0))))) (mN dTup [(mV 2),(mC (.bl true))])))
 bZ) [aa (W.d (aE ab A)),aa (W.d (ak rd)),aa (W.d (ak ah)),aa (W.d (au s)),aa (W.d (aW []))]=.ok (.nx [aa (W.d (aE ab A)),aa (W.d (ak rd)),aa (W.d (ak ah)),aa (W.d (au s)),aa (W.d (aW dn))]):=by
  have ct:cB (m2 e5 (m2 aO (mV 3) (mC (.int 0))) (mV 2)) [aa (W.d (aE ab A)),aa (W.d (ak rd)),aa (W.d (ak ah)),aa (W.d (au s)),aa (W.d (aW []))]=.ok (!decide (s.1∈ah)):=cp (aA (qc rfl) rfl (uc _ _));by_cases h:s.1∈ah
  ·rw[cv h]at ct;rw[hdn,aN h];exact(dY ct).trans rfl
  ·rw[dj h]at ct;rw[hdn,aP h];exact(gC ct).trans (bI (DO (x:=s.1) (w:=au s) al (fb (aA rfl rfl (mv ab A)) rfl) rfl λp=>qc rfl))
 rw[aV i1];have i2:(bK (fq (dX (dP (m2 aO (mV 3) (mC (.int 1)))) (cB (m2 fM (m2 aO (mV 3) (mC (.int 0))) (mV 1)))) (dX (eP (dP (m2 aO (mV 3) (mC (.int 1))))) (cB (m2 e5 (m2 aO (mV 3) (mC (.int 0))) (mV 2)))))
 (bp 4 (m2 a9 (mV 4) (cr [aa 3,ac,ac] (bM (m2 aO (mV 0) (mC (.int 1)))) (.t [1,2]) (cB (m2 bY (mV 2) (m2 aO (mV 0) (mC (.int 0))))) (mN dTup [(mV 1),(mC (.bl false))]))))
 bZ) [aa (W.d (aE ab A)),aa (W.d (ak rd)),aa (W.d (ak ah)),aa (W.d (au s)),aa (W.d (aW dn))]=.ok (.nx [aa (W.d (aE ab A)),aa (W.d (ak rd)),aa (W.d (ak ah)),aa (W.d (au s)),aa (W.d (aW (dn++up)))]):=by
  have ct:(fq (dX (dP (m2 aO (mV 3) (mC (.int 1)))) (cB (m2 fM (m2 aO (mV 3) (mC (.int 0))) (mV 1)))) (dX (eP (dP (m2 aO (mV 3) (mC (.int 1))))) (cB (m2 e5 (m2 aO (mV 3) (mC (.int 0))) (mV 2))))) [aa (W.d (aE ab A)),aa (W.d (ak rd)),aa (W.d (ak ah)),aa (W.d (au s)),aa (W.d (aW dn))]=.ok ((s.2&&decide (s.1∈rd))||(!s.2 && !decide (s.1∈ah))):=xT (zg (C7 (Cq rfl)) λ_=>cp (aA (qc rfl) rfl (yU _ _))) λ_=>zg (rU (C7 (Cq rfl))) λ_=>cp (aA (qc rfl) rfl (uc _ _))
  have eg:((s.2&&decide (s.1∈rd))||(!s.2 && !decide (s.1∈ah)))=g:=by
   have e1:decide (s.1∈rd)=hb ab A ah s.1:=by rw[oB,ko,w9 L hs];exact hrd s.1
   rw[hg,e1];cases s.2
   ·rw[aP c7];simp
   ·rw[aN rfl];simp
  rw[eg]at ct;cases hk:g with
  |false=>
   rw[hk]at ct;rw[hup,hk,aP c7,lJ];exact(dY ct).trans rfl
  |true=>
   rw[hk]at ct;rw[hup,hk,aN rfl];exact(gC ct).trans (bI (zh rfl (DN (x:=s.1) (w:=au s) al (fb (aA rfl rfl (mv ab A)) rfl) rfl λp=>qc rfl) (by omega)))
 rw[aV i2];rw[dN (bV rfl)];unfold nxS;rw[<- hg,<- hup,<- hdn];rfl
end Mr
namespace Mr
open PySem Mi
open Vp
open My (words fg fG)
theorem Fg(X:List Spot)(s:Spot):((X.map au).any λe=>bD e (au s))=decide (s∈X):=by
 induction X with
 |nil=>rfl
 |cons q r ih=>
  rw[cW,iF,ih];have:bD (au q) (au s)=decide (q=s):=by
   unfold au;rw[bD,gV,gV,gV,uH];obtain⟨a,b⟩:=q;obtain⟨c,d⟩:=s;have e2:bD (.bl b) (.bl d)=(b==d):=rfl;rw[e2];by_cases h1:a=c
   ·subst h1;cases b<;>cases d<;>simp
   ·simp[h1]
  rw[this];by_cases h:q=s
  ·simp[h]
  ·have h2:¬ s=q:=λz=>h z.symm;simp[h,h2]
theorem wC:∀X:List Spot,dr (X.map au)<=1
 |[]=>by simp
 |p::r=>by
  have:=wC r;rw[cW,BG];have h:(au p).dep=1:=by simp[au]
  omega
theorem Jg(X:List Spot)(s:Spot):fM (au s) (aW X)=.ok (.bl (decide (s∈X))):=by show bc _ _=_;rw[aK (by have:=wC X;omega),Fg]
theorem Ks(X:List Spot)(s:Spot):e5 (au s) (aW X)=.ok (.bl (!decide (s∈X))):=by show bc _ _=_;rw[aK (by have:=wC X;omega),Fg]
theorem Es{ab:List Str}{A:List Ar}(L:Lk ab A)(ah:List Str)(s:Spot):(nxS ab A ah s).Nodup:=by
 unfold nxS;refine iD.mpr ⟨?_,?_,λa ha b hb e=>?_⟩
 ·split
  ·exact .nil
  ·exact iE.mpr ((L.BI _).imp λh e=>h (congrArg oH e))
 ·generalize (if s.2=true then hb ab A ah s.1 else !decide (s.1∈ah))=g;cases g
  ·exact .nil
  ·exact iE.mpr ((L.Bu _).imp λh e=>h (congrArg oH e))
 ·have h1:a.2=true:=by
   split at ha
   ·cases ha
   ·exact(uI.mp ha).2
  have h2:b.2=false:=by
   revert hb
   generalize (if s.2=true then Mr.hb ab A ah s.1 else !decide (s.1∈ah))=g;intro hb;cases g
   ·cases hb
   ·exact(sw.mp hb).2
  rw[e,h2]at h1;cases h1
theorem K3{α:Type}[DecidableEq α]{U met:List α}(nd:met.Nodup)(sub:∀y∈met,y∈U)(h:U.length<=met.length):∀y∈U,y∈met:=λy hy=>wa λhn=>by
 have:=g9 (l:=y::met) (m:=U) (j4.mpr ⟨hn,nd⟩) (λz hz=>by
  rcases br.mp hz with rfl|hz
  ·exact hy
  ·exact sub z hz)
 rw[bQ]at this;omega
structure Rm(ab:List Str)(A:List Ar)(ah:List Str)(i:Str)(met:List Spot):Prop where
 nd:met.Nodup
 sub:∀s∈met,s.1∈ab
 r:∀s∈met,Vp.Wk (ar A) (·∈ah) i s
 st:∀s∈fo A i,s∈met
theorem Rm.len{ab:List Str}{A:List Ar}{ah:List Str}{i:Str}{met:List Spot}(R:Rm ab A ah i met):met.length<=2*ab.length:=by have:=g9 R.nd λs hs=>mx.mpr (R.sub s hs);unfold i3 at this;rw[cC,aQ,aQ]at this;omega
section
variable{ab:List Str}{A:List Ar}(L:Lk ab A){ah rd:List Str}(hrd:∀y,y∈rd↔dW (ar A) (·∈ah) y){i:Str}
abbrev jO(ab:List Str)(A:List Ar)(i:Str)(ah rd:List Str)(met:List Spot)(o5 o6 o7 o8:Option W):Mi.Env:=[aa (W.d (aE ab A)),aa (W.d (.str i)),aa (W.d (ak ah)),aa (W.d (ak rd)),aa (W.d (aW met)),o5,o6,o7,o8]
abbrev ue:S:=(bp 4 (m2 a9 (mV 4) (cr [aa 4,ac] (bM (ba m3 [(wD (mV 0)),(wD (mV 3)),(wD (mV 2)),(wD (mV 6))])) (.n 1) (cB (m2 e5 (mV 1) (mV 0))) (mV 1))))
include L hrd in
theorem Ld{met:List Spot}(R:Rm ab A ah i met){s:Spot}(hs:s∈met)(o5 o7 o8:Option W):∃eW,ue (jO ab A i ah rd met o5 (aa (W.d (au s))) o7 o8)=.ok (.nx (jO ab A i ah rd eW o5 (aa (W.d (au s))) o7 o8))/\Rm ab A ah i eW/\(∀t∈met,t∈eW)/\(∀t∈nxS ab A ah s,t∈eW)/\(met.length<eW.length\/eW=met):=by
 have n8:=L.le;have al:=L.al;have sn:=R.sub s hs;have ml:=R.len;obtain⟨mo,hmo⟩ : ∃mo,mo=(nxS ab A ah s).filter λt=>!decide (t∈met):=⟨_,rfl⟩;have nl:(nxS ab A ah s).length<=16:=by
  have:=g9 (Es L ah s) (m:=i3 ab) λt ht=>by
   rw[mx];rcases(kH L sn).mp ht with h|h
   ·exact(L.inn _ h.2.1).2
   ·exact(L.inn _ h.2.1).1
  unfold i3 at this;rw[cC,aQ,aQ]at this;omega
 have mol:mo.length<=16:=by rw[hmo];exact dR (mK _ _) nl
 have mm:∀t∈mo,t∈nxS ab A ah s/\t∉met:=λt ht=>by
  rw[hmo]at ht;obtain⟨h1,h2⟩:=dL.mp ht;exact⟨h1,by simpa using h2⟩
 have cm:cY (.n 1) (cB (m2 e5 (mV 1) (mV 0))) (mV 1) [aa (.d (aW met)),ac] ((nxS ab A ah s).map au)=.ok (mo.map au):=by rw[hmo];exact gq au au _ _ λt _=>⟨[aa (.d (aW met)),aa (.d (au t))],rfl,cp (aA rfl rfl (Ks _ _)),λ_=>rfl⟩
 refine⟨met++mo,bI (zh rfl (fc (ρ:=[aa 4,ac]) (fb (D9 (f:=m3) rfl rfl rfl rfl (K7 L hrd sn)) rfl) (by rw[aQ];omega) cm) (by omega)),⟨?_,?_,?_,?_⟩,λt ht=>eB _ ht,λt ht=>?_,?_⟩
 ·refine iD.mpr ⟨R.nd,by rw[hmo];exact(Es L ah s).filter _,λa ha b hb e=>(mm b hb).2 (e ▸ ha)⟩
 ·intro t ht;rcases dA.mp ht with z|z
  ·exact R.sub t z
  ·rcases(kH L sn).mp (mm t z).1 with h|h
   ·exact(L.inn _ h.2.1).2
   ·exact(L.inn _ h.2.1).1
 ·intro t ht;rcases dA.mp ht with z|z
  ·exact R.r t z
  ·exact .step (R.r s hs) ((kH L sn).mp (mm t z).1)
 ·exactλt ht=>eB _ (R.st t ht)
 ·by_cases h:t∈met
  ·exact eB _ h
  ·exact dQ _ (by rw[hmo];exact dL.mpr ⟨ht,by rw[dj h];rfl⟩)
 ·cases hm:mo with
  |nil=>exact .inr (lJ _)
  |cons a r=>exact .inl (by rw[cC,bQ];omega)
include L hrd in
theorem MP{met:List Spot}(R:Rm ab A ah i met)(o5 o6 o7 o8:Option W):∃eW o6',gN (.n 6) ue (met.map au) (jO ab A i ah rd met o5 o6 o7 o8)=.ok (.nx (jO ab A i ah rd eW o5 o6' o7 o8))/\Rm ab A ah i eW/\(met.length<eW.length\/(eW=met/\∀s∈met,∀t∈nxS ab A ah s,t∈met)):=by
 obtain⟨e',f,eW,o6',he,R',sub,hc⟩:=gZ (tg:=.n 6) (body:=ue)
  (λn e=>∃(eW:List Spot) (o6:Option W),e=jO ab A i ah rd eW o5 o6 o7 o8/\Rm ab A ah i eW/\(∀t∈met,t∈eW)/\(met.length<eW.length\/(eW=met/\∀a s,a<n->met[a]? = aa s->∀t∈nxS ab A ah s,t∈met))) (met.map au) 0 (λn d e hi ⟨m1,o6,he,R1,s1,c1⟩=>by
   subst he;rw[dM]at c1 ⊢;rw[cZ]at hi;obtain⟨s,hs,rfl⟩:=i7.mp hi;obtain⟨m2,st,R2,s2,t2,c2⟩:=Ld L hrd R1 (s1 s (jz hs)) o5 o7 o8;refine⟨_,_,rfl,st,m2,_,rfl,R2,λt ht=>s2 t (s1 t ht),?_⟩;rcases c2 with q|q
   ·refine .inl ?_;rcases c1 with z|⟨z,_⟩
    ·omega
    ·rw[<- z];exact q
   ·subst q;rcases c1 with z|⟨rfl,z⟩
    ·exact .inl z
    ·refine .inr ⟨rfl,λa s' ha hs'=>?_⟩;by_cases e:a=n
     ·subst e;rw[hs]at hs';cases hs';exact t2
     ·exact z a s' (by omega) hs') (jO ab A i ah rd met o5 o6 o7 o8) ⟨met,o6,rfl,R,λt ht=>ht,.inr ⟨rfl,λa s h=>absurd h (qu _)⟩⟩
 subst he;refine⟨eW,o6',f,R',?_⟩;rcases hc with z|⟨z,w⟩
 ·exact .inl z
 ·refine .inr ⟨z,λs hs=>?_⟩;obtain⟨a,ha⟩:=kM hs;exact w a s (by rw[dM,aQ];exact(ca.mp ha).1) ha
end
theorem Go{ab:List Str}{A:List Ar}(L:Lk ab A){i:Str}(hi:i∈ab){ah:List Str}(hs:∀x∈ah,x∈ab)(hl:ah.length<=8):lq [.d (aE ab A),.d (.str i),.d (ak ah)]=.ok (.d (aW (tld ab A ah i))):=by
 have n8:=L.le;have al:=L.al;obtain⟨rd,hr,hrd⟩:=KO L hs hl;have R0:Rm ab A ah i (fo A i):=⟨Gb L i,λs h=>by
  rcases kD.mp h with h|h
  ·exact(L.inn _ h.1).2
  ·exact(L.inn _ h.1).1,λs h=>.base (kD.mp h),λs h=>h⟩
 obtain⟨e',f1,met,o5,o6,he,R,hc⟩:=gZ (tg:=.n 5) (body:=(dv (bM (mN kn [(mV 4)])) (.n 6) ue))
  (λn e=>∃(met:List Spot) (o5 o6:Option W),e=jO ab A i ah rd met o5 o6 ac ac/\Rm ab A ah i met/\(n<=met.length\/∀s∈met,∀t∈nxS ab A ah s,t∈met)) (dC 0 ((2*ab.length:Nat):Int)) 0 (λn d e hx ⟨met,o5,o6,he,R,hc⟩=>by
   subst he;rw[dM]at hc ⊢;obtain⟨eW,o6',fr,R',c'⟩:=MP L hrd R (aa (.d d)) o6 ac ac;refine⟨_,_,rfl,(gU (fb (x:=aW met) ((fW (x:=aW met) rfl).trans rfl) rfl)).trans fr,eW,_,_,rfl,R',?_⟩;rcases c' with z|⟨rfl,z⟩
   ·rcases hc with w|w
    ·exact .inl (by omega)
    ·exfalso;have cl:∀s,Vp.Wk (ar A) (·∈ah) i s->s.1∈ab/\s∈met:=λs r=>by
      induction r with
      |base h=>exact⟨R.sub _ (R.st _ (kD.mpr h)),R.st _ (kD.mpr h)⟩
      |step _ h ih=>have:=w _ ih.2 _ ((kH L ih.1).mpr h);exact⟨R.sub _ this,this⟩
     have:=g9 R'.nd λs h=>(cl s (R'.r s h)).2;omega
   ·exact .inr z) (jO ab A i ah rd (fo A i) ac ac ac ac) ⟨fo A i,ac,ac,rfl,R0,.inl (eK _)⟩
 subst he;rw[kA,dM]at hc;have hcl:∀s∈met,∀t∈nxS ab A ah s,t∈met:=by
  rcases hc with h|h
  ·intro s hs t ht;have al':∀x∈i3 ab,x∈met:=K3 R.nd (λs h=>mx.mpr (R.sub s h)) (by unfold i3;rw[cC,aQ,aQ];omega);refine al' t (mx.mpr ?_);rcases(kH L (R.sub s hs)).mp ht with h|h
   ·exact(L.inn _ h.2.1).2
   ·exact(L.inn _ h.2.1).1
  ·exact h
 have mw:∀s,s∈met↔Vp.Wk (ar A) (·∈ah) i s:=λs=>⟨R.r s,λr=>by
  have:s.1∈ab/\s∈met:=by
   induction r with
   |base h=>exact⟨R.sub _ (R.st _ (kD.mpr h)),R.st _ (kD.mpr h)⟩
   |step _ h ih=>have:=hcl _ ih.2 _ ((kH L ih.1).mpr h);exact⟨R.sub _ this,this⟩
  exact this.2⟩
 have tl:=E7 (A:=A) (ah:=ah) (i:=i) n8;obtain⟨e2,f2,o8,he2⟩:=Fo (tg:=.n 8) (body:=(bp 7 (m2 a9 (mV 7) (cr [aa 8,aa 4,ac] (bM (mN cR [(mC (.bl false)),(mC (.bl true))])) (.n 2) (cB (m2 fM (mN dTup [(mV 0),(mV 2)]) (mV 1))) (mN dTup [(mV 0),(mV 2)]))))) D.str (λx=>(jd A ah i x).map au)
  (λacc e=>∃o8:Option W,e=[aa (W.d (aE ab A)),aa (W.d (.str i)),aa (W.d (ak ah)),aa (W.d (ak rd)),aa (W.d (aW met)),o5,o6,aa (W.d (.lst acc)),o8]) ab [] [aa (W.d (aE ab A)),aa (W.d (.str i)),aa (W.d (ak ah)),aa (W.d (ak rd)),aa (W.d (aW met)),o5,o6,aa (W.d (.lst [])),ac] (by
   have:(ab.flatMap λx=>(jd A ah i x).map au).length=(tld ab A ah i).length:=by rw[<- uE,aQ];rfl
   simp only[j5];omega) ⟨ac,rfl⟩
  (λx hx acc e hl ⟨o8,he⟩=>by
   subst he;have cm:cY (.n 2) (cB (m2 fM (mN dTup [(mV 0),(mV 2)]) (mV 1))) (mN dTup [(mV 0),(mV 2)]) [aa (W.d (.str x)),aa (W.d (aW met)),ac] ([false,true].map D.bl)=.ok (([false,true].filter λb=>rcB A ah i (x,b)).map λb=>au (x,b)):=
    gq D.bl (λb=>au (x,b)) _ _ λb _=>⟨[aa (W.d (.str x)),aa (W.d (aW met)),aa (W.d (.bl b))],rfl,by
     have e1:decide ((x,b)∈met)=rcB A ah i (x,b):=by rw[oB,ko,ub];exact mw _
     rw[<- e1];exact cp (aA (x:=au (x,b)) (lC rfl rfl) rfl (Jg _ _)),λ_=>lC rfl rfl⟩
   refine⟨_,[aa (W.d (aE ab A)),aa (W.d (.str i)),aa (W.d (ak ah)),aa (W.d (ak rd)),aa (W.d (aW met)),o5,o6,aa (W.d (.lst (acc++(jd A ah i x).map au))),aa (W.d (.str x))],rfl,bI ?_,_,rfl⟩;refine(aA (x:=.lst acc) (y:=.lst ((jd A ah i x).map au)) rfl ?_ (mF _ _)).trans (aK hl);have e3:(jd A ah i x).map au=([false,true].filter λb=>rcB A ah i (x,b)).map λb=>au (x,b):=by unfold jd;rw[cX];rfl
   rw[e3];exact fc (ρ:=[aa 8,aa 4,ac]) (fb (x:=.lst ([false,true].map D.bl)) (CG rfl rfl) rfl) (by simp) cm)
 subst he2;unfold lq Fx;rw[xh];rw[show([aa (W.d (aE ab A)),aa (W.d (.str i)),aa (W.d (ak ah))]++dq (9-3) ac)=[aa (W.d (aE ab A)),aa (W.d (.str i)),aa (W.d (ak ah)),ac,ac,ac,ac,ac,ac]from rfl];rw[aV (e':=[aa (W.d (aE ab A)),aa (W.d (.str i)),aa (W.d (ak ah)),aa (W.d (ak rd)),ac,ac,ac,ac,ac]) (bI (call2 rfl rfl hr))];rw[aV (e':=jO ab A i ah rd (gh A i) ac ac ac ac) (bI (DO (x:=i) (w:=.str i) al (fb (aA rfl rfl (mv ab A)) rfl) rfl λp=>rfl))];have h1:=sA (x:=i) al;have h2:=sL (x:=i) al;rw[aV (e':=jO ab A i ah rd (fo A i) ac ac ac ac) (bI (zh rfl (DN (x:=i) (w:=.str i) al (fb (aA rfl rfl (mv ab A)) rfl) rfl λp=>rfl) (by omega)))];have rg:m2 bL (mC (.int 2)) (mN cS [(m2 aO (mV 0) (mC (.int 0)))]) (jO ab A i ah rd (fo A i) ac ac ac ac)=.ok (.int ((2*ab.length:Nat):Int)):=by
  refine(aA rfl (Fi rfl) ((pJ _ _).trans (aK (iM (by decide) (by decide))))).trans ?_
  congr 2
 rw[aV ((gU (iK rg (qX (by omega) (by omega)))).trans f1)];rw[aV (e':=[aa (W.d (aE ab A)),aa (W.d (.str i)),aa (W.d (ak ah)),aa (W.d (ak rd)),aa (W.d (aW met)),o5,o6,aa (W.d (.lst [])),ac]) (bI (l7 _))];rw[aV ((gU (fb (aA rfl rfl (kB ab A)) rfl)).trans f2)];rw[vB,dN (bV rfl)];show Rs.ok (W.d (D.lst _))=_;unfold aW tld;rw[uE]
end Mr
namespace Mr
open PySem Mi
open Vp
open My (words fg fG)
theorem MG(ns:List Int)(hl:ns.length<=63):∃ab A r,rK [.d (.lst (ns.map D.int)),.d (.int 8)]=.ok (.d (aE ab (A.map (arrOf ab))))/\oW ab A r/\(∃(c:Int) (m:Nat),m<=8/\ab=(words c m).map S')/\2<=ab.length:=by
 obtain⟨c0,hc0⟩:=nh ns 0 (by decide);rw[show((0:Nat):Int)=0 from rfl]at hc0;obtain⟨f,hf⟩ : ∃f:Int,f=1+c0%(8-1)+8*(c0/(8-1)%10 ^ (9:Int).toNat):=⟨_,rfl⟩;obtain⟨ab,A,r,h,N,wds,d0,hd0,hnl⟩:=O3 (f::ns.drop 1) 8 (by decide) (by decide);rw[show((8:Nat):Int)=8 from rfl]at h hnl;have cf:eY [.d (.lst ((f::ns.drop 1).map D.int)),.d (.int 0)]=.ok (.d (.int f)):=by
  unfold eY xb;rw[iW];have ct:cB (m2 eG (mV 1) (mN cS [(mV 0)])) [aa (W.d (.lst ((f::ns.drop 1).map D.int))),aa (W.d (.int 0)),ac]=.ok true:=by refine cp ((aA rfl ((fW (x:=.lst ((f::ns.drop 1).map D.int)) rfl).trans (wN _)) (vi _ _)).trans ?_);rw[aQ,bQ,cv (by omega)]
  rw[show([aa (W.d (.lst ((f::ns.drop 1).map D.int))),aa (W.d (.int 0))]++dq (3-2) ac)=[aa (W.d (.lst ((f::ns.drop 1).map D.int))),aa (W.d (.int 0)),ac]from rfl];rw[na ((gC ct).trans (dN (bV (aA (x:=.lst ((f::ns.drop 1).map D.int)) rfl rfl (by show cQ (dg (.int f::(ns.drop 1).map D.int) 0)=_;rw[at0];rfl)))))];rfl
 rw[cf]at hd0;have e0:f=d0:=by injection hd0 with e;injection e with e;injection e
 refine⟨ab,A,r,?_,N,wds,?_⟩
 ·unfold rK CU;rw[iW];have hp:m2 xp (mC (.int 10)) (mC (.int 9)) [aa (.d (.lst (ns.map D.int))),aa (.d (.int 8)),aa (.d (.int c0)),ac,ac]=.ok (.int (10 ^ (9:Int).toNat)):=aA rfl rfl (aK (by decide));rw[aV (e':=[aa (.d (.lst (ns.map D.int))),aa (.d (.int 8)),aa (.d (.int c0)),ac,ac]) (bI (call2 rfl rfl hc0))];rw[aV (e':=[aa (.d (.lst (ns.map D.int))),aa (.d (.int 8)),aa (.d (.int c0)),aa (.d (.int (c0/(8-1)%10 ^ (9:Int).toNat))),ac]) (bI (aA (aA rfl (aA rfl rfl rfl) (aK (iJ (by decide) (by decide)))) hp (aK (by decide))))];rw[aV (e':=[aa (.d (.lst (ns.map D.int))),aa (.d (.int 8)),aa (.d (.int c0)),aa (.d (.int (c0/(8-1)%10 ^ (9:Int).toNat))),aa (.d (.int f))]) (bI ((aA (aA rfl (aA rfl (aA rfl rfl rfl) (aK (by decide))) rfl) (aA rfl rfl (aK (iM (by decide) (by decide)))) rfl).trans (by rw[n6,hf])))];have hs:m2 a9 (mN cR [(mV 4)]) (gj ik (mV 0) (aa (mC (.int 1))) ac) [aa (.d (.lst (ns.map D.int))),aa (.d (.int 8)),aa (.d (.int c0)),aa (.d (.int (c0/(8-1)%10 ^ (9:Int).toNat))),aa (.d (.int f))]=.ok (.lst ((f::ns.drop 1).map D.int)):=by
   have Qi:jp (ns.map D.int) (aa (1:Int)) ac=(ns.drop 1).map D.int:=by rw[show(1:Int)=((1:Nat):Int)from rfl,Dy,List.map_drop]
   refine(aA (x:=.lst [.int f]) (y:=.lst (jp (ns.map D.int) (aa (1:Int)) ac)) (pH rfl) rfl rfl).trans ?_;rw[Qi,mF,aK (by simp only[bQ,j5,aQ,kN];omega)];rfl
  rw[dN (bV (call2 (bV hs) rfl h))];rfl
 ·rw[<- e0]at hnl;have q0:=gc c0 (b:=7) (by decide);have q1:=gI c0 (b:=7) (by decide);have e8:(8:Int)-1=7:=by decide
  rw[e8]at hf;have:f%8=1+c0%7:=by generalize c0/7%10 ^ (9:Int).toNat=z at hf;omega
  omega
theorem BE{ls:List Str}{z:Int}(h0:0<=z)(h1:z<ls.length)(hl:ls.length<=100):∃(h:z.toNat<ls.length),jP (ls.map D.str) z=.ok (.str ls[z.toNat],(ls.eraseIdx z.toNat).map D.str):=by
 have hz:z.toNat<ls.length:=by omega
 refine⟨hz,?_⟩;unfold jP;rw[aK (by omega)];have:ed (ls.map D.str).length z=aa z.toNat:=by unfold ed;rw[aN h0,aN (by rw[aQ];exact h1)]
 rw[this,jR,aR];rw[cZ,eU hz,zX,jR,aR];have er:∀(l:List Str) (k:Nat),(l.map D.str).eraseIdx k=(l.eraseIdx k).map D.str:=by
  intro l
  induction l with
  |nil=>intro k;rfl
  |cons a r ih=>
   intro k;cases k with
   |zero=>rfl
   |succ k=>rw[cW,zq,ih k];rfl
 rw[er]
structure Ask(ab:List Str)(i j:Str)(ah:List Str):Prop where
 im:i∈ab
 jm:j∈ab
 ij:i≠j
 hs:∀x∈ah,x∈ab
 nd:ah.Nodup
 ni:i∉ah
 nj:j∉ah
theorem JQ{ab:List Str}{A:List Ar}(nd:ab.Nodup)(h2:2<=ab.length)(h8:ab.length<=8)(d:Int):∃i j ah,oZ [.d (aE ab A),.d (.int d)]=.ok (.d (.lst [.str i,.str j,ak ah]))/\Ask ab i j ah:=by
 have l1:(0:Int)<((ab.length:Nat):Int):=by omega
 obtain⟨a,ha⟩ : ∃a,a=d%((ab.length:Nat):Int):=⟨_,rfl⟩;have a0:0<=a:=by rw[ha];exact gc _ (by omega)
 have a1:a<((ab.length:Nat):Int):=by rw[ha];exact gI _ l1
 obtain⟨az,pa⟩:=BE a0 a1 (by omega);obtain⟨i,hi⟩ : ∃i,i=ab[a.toNat]:=⟨_,rfl⟩;obtain⟨n1,hn1⟩ : ∃n1,n1=ab.eraseIdx a.toNat:=⟨_,rfl⟩;rw[<- hi,<- hn1]at pa;have ln1:n1.length=ab.length-1:=by rw[hn1,GX,aN az]
 have l2:(0:Int)<((n1.length:Nat):Int):=by omega
 obtain⟨b,hb⟩ : ∃b,b=d/8%((n1.length:Nat):Int):=⟨_,rfl⟩;have b0:0<=b:=by rw[hb];exact gc _ (by omega)
 have b1:b<((n1.length:Nat):Int):=by rw[hb];exact gI _ l2
 obtain⟨bz,pb⟩:=BE b0 b1 (by omega);obtain⟨j,hj⟩ : ∃j,j=n1[b.toNat]:=⟨_,rfl⟩;obtain⟨n2,hn2⟩ : ∃n2,n2=n1.eraseIdx b.toNat:=⟨_,rfl⟩;rw[<- hj,<- hn2]at pb;have nk:n1.Nodup:=by rw[hn1];exact nd.sublist (GU _ _)
 have ji:n2.Nodup:=by rw[hn2];exact nk.sublist (GU _ _)
 have s1:∀x∈n1,x∈ab:=λx h=>by rw[hn1]at h;exact GP h
 have s2:∀x∈n2,x∈n1:=λx h=>by rw[hn2]at h;exact GP h
 have out:∀{l:List Str} {k:Nat} (h:k<l.length),l.Nodup->l[k]∉l.eraseIdx k:=λ{l k} h nd z=>by
  obtain⟨q,hq,ne,e⟩:=List.mem_eraseIdx_iff_getElem.mp z;exact ne ((lI (h₀:=hq) (h₁:=h) nd).mp e)
 have i1:i∉n1:=by rw[hi,hn1];exact out az nd
 have jm:j∈n1:=by rw[hj];exact qj bz
 have j2:j∉n2:=by rw[hj,hn2];exact out bz nk
 have l8:n2.length<=8:=by rw[hn2,GX,aN bz];omega
 obtain⟨w,hw⟩ : ∃w,w=2+d/64%2:=⟨_,rfl⟩;have w0:0<w:=by have:=gc (d/64) (b:=2) (by decide);omega
 obtain⟨e',f,ah,o6,he,hs,hnd⟩:=gZ (tg:=.n 6) (body:=(bK (cB (m2 bY (m2 bi (m2 cx (m2 bi (m2 bL (mV 1) (m2 a9 (mC (.int 48271)) (m2 bL (m2 bL (mC (.int 614)) (mV 6)) (mV 6)))) (mC (.int 2147483647))) (mC (.int 16))) (m2 a9 (mC (.int 2)) (m2 bi (m2 cx (mV 1) (mC (.int 64))) (mC (.int 2))))) (mC (.int 0))))
 (dS 5 (m2 aO (mV 2) (mV 6)))
 bZ))
  (λn e=>∃(ah:List Str) (o6:Option W),e=[aa (W.d (aE ab A)),aa (W.d (.int d)),aa (W.d (ak n2)),aa (W.d (.str i)),aa (W.d (.str j)),aa (W.d (ak ah)),o6]/\(∀x∈ah,x∈n2.take n)/\ah.Nodup) (dC 0 ((n2.length:Nat):Int)) 0 (λn x e hx ⟨ah,o6,he,hs,hnd⟩=>by
   subst he;obtain⟨hn,rfl⟩:=rA hx;rw[dM]at hs ⊢;have gx:n2[n]? = aa n2[n]:=eU hn;have ts:=F6 gx;have new:=BL ji gx;have hl8:ah.length<=8:=dR (g9 hnd λx h=>vv (hs x h)) l8;have mono:∀y,y∈n2.take n->y∈n2.take (n+1):=λy hy=>by rw[ts];exact eB _ hy
   have k1:614*(n:Int)*(n:Int)<614*64:=by have:(n:Int)*(n:Int)<=7*7:=Int.mul_le_mul (by omega) (by omega) (by omega) (by omega);rw[Int.mul_assoc];omega
   have k2:0<=614*(n:Int)*(n:Int):=Int.mul_nonneg (by omega) (by omega);obtain⟨v,ct⟩ : ∃v:Bool,cB (m2 bY (m2 bi (m2 cx (m2 bi (m2 bL (mV 1) (m2 a9 (mC (.int 48271)) (m2 bL (m2 bL (mC (.int 614)) (mV 6)) (mV 6)))) (mC (.int 2147483647))) (mC (.int 16))) (m2 a9 (mC (.int 2)) (m2 bi (m2 cx (mV 1) (mC (.int 64))) (mC (.int 2))))) (mC (.int 0))) [aa (W.d (aE ab A)),aa (W.d (.int d)),aa (W.d (ak n2)),aa (W.d (.str i)),aa (W.d (.str j)),aa (W.d (ak ah)),aa (W.d (.int (n:Int)))]=.ok v:=⟨_,cp (aA (aA (aA (aA (aA rfl (aA rfl (aA (aA rfl rfl ((pJ _ _).trans (aK (iM (by decide) (by decide))))) rfl ((pJ _ _).trans (aK (pj (by omega) (by omega))))) (n6 _ _)) ((pJ _ _).trans (aK (pj (by omega) (by omega))))) rfl ((mq _ _).trans (aK (by decide)))) rfl ((div_ii _ _).trans (aK (iJ (by decide) (by decide))))) (aA rfl (aA (aA rfl rfl ((div_ii _ _).trans (aK (iJ (by decide) (by decide))))) rfl ((mq _ _).trans (aK (by decide)))) (n6 _ _)) ((mq _ _).trans (aK (by rw[<- hw];exact w0)))) rfl (uS _ _))⟩
   have ix:m2 aO (mV 2) (mV 6) [aa (W.d (aE ab A)),aa (W.d (.int d)),aa (W.d (ak n2)),aa (W.d (.str i)),aa (W.d (.str j)),aa (W.d (ak ah)),aa (W.d (.int (n:Int)))]=.ok (.str n2[n]):=by refine aA rfl rfl ?_;have:=FX (cs:=n2) (i:=(n:Int)) (by omega) (by omega);rw[lM]at this;rw[show aO (ak n2) (.int (n:Int))=_ from this];simp[hn]
   cases v with
   |true=>
    refine⟨_,[aa (W.d (aE ab A)),aa (W.d (.int d)),aa (W.d (ak n2)),aa (W.d (.str i)),aa (W.d (.str j)),aa (W.d (ak (ah++[n2[n]]))),aa (W.d (.int (n:Int)))],rfl,(gC ct).trans ?_,ah++[n2[n]],_,rfl,λy hy=>?_,?_⟩
    ·rw[py (d:=.str n2[n]) (ds:=ah.map D.str) ix rfl (by rw[aQ];omega),<- Jm];rfl
    ·rcases dA.mp hy with z|z
     ·exact mono y (hs y z)
     ·rw[dm.mp z,ts];exact dQ _ (dm.mpr rfl)
    ·exact iD.mpr ⟨hnd,by simp,λa ha b hb e=>by rw[dm.mp hb]at e;exact new (e ▸ hs a ha)⟩
   |false=>exact⟨_,_,rfl,(dY ct).trans rfl,ah,_,rfl,λy hy=>mono y (hs y hy),hnd⟩) [aa (W.d (aE ab A)),aa (W.d (.int d)),aa (W.d (ak n2)),aa (W.d (.str i)),aa (W.d (.str j)),aa (W.d (ak [])),ac] ⟨[],ac,rfl,(by intro x h;cases h),(by simp)⟩
 subst he;have hs:∀x∈ah,x∈n2:=λx h=>vv (hs x h);obtain⟨hd,hif,hpe⟩ : ∃hd:List Str,(bK (cB (m2 bY (m2 bi (m2 cx (mV 1) (mC (.int 128))) (mC (.int 2))) (mC (.int 1)))) (xX 5) bZ) [aa (W.d (aE ab A)),aa (W.d (.int d)),aa (W.d (ak n2)),aa (W.d (.str i)),aa (W.d (.str j)),aa (W.d (ak ah)),o6]=.ok (.nx [aa (W.d (aE ab A)),aa (W.d (.int d)),aa (W.d (ak n2)),aa (W.d (.str i)),aa (W.d (.str j)),aa (W.d (ak hd)),o6])/\hd.Perm ah:=by
  have ct:cB (m2 bY (m2 bi (m2 cx (mV 1) (mC (.int 128))) (mC (.int 2))) (mC (.int 1))) [aa (W.d (aE ab A)),aa (W.d (.int d)),aa (W.d (ak n2)),aa (W.d (.str i)),aa (W.d (.str j)),aa (W.d (ak ah)),o6]=.ok (decide (d/128%2=1)):=cp (aA (aA (aA rfl rfl ((div_ii _ _).trans (aK (iJ (by decide) (by decide))))) rfl ((mq _ _).trans (aK (by decide)))) rfl (uS _ _))
  by_cases h:d/128%2=1
  ·rw[cv h]at ct;refine⟨ah.reverse,(gC ct).trans ?_,List.reverse_perm _⟩;show Rs.ok (Out.nx [_,_,_,_,_,aa (W.d (.lst (ah.map D.str).reverse)),_])=_;unfold ak;rw[List.map_reverse]
  ·rw[dj h]at ct;exact⟨ah,(dY ct).trans rfl,wq _⟩
 refine⟨i,j,hd,?_,⟨by rw[hi];exact qj az,s1 j jm,λe=>i1 (e ▸ jm),λx h=>s1 x (s2 x (hs x (hpe.mem_iff.mp h))),hpe.nodup_iff.mpr hnd,λh=>i1 (s2 i (hs i (hpe.mem_iff.mp h))),λh=>j2 (hs j (hpe.mem_iff.mp h))⟩⟩;unfold oZ Fs;rw[lr];rw[show([aa (W.d (aE ab A)),aa (W.d (.int d))]++dq (7-2) ac)=[aa (W.d (aE ab A)),aa (W.d (.int d)),ac,ac,ac,ac,ac]from rfl];rw[aV (e':=[aa (W.d (aE ab A)),aa (W.d (.int d)),aa (W.d (ak ab)),ac,ac,ac,ac]) (bI ((fW (aA rfl rfl (kB ab A))).trans rfl))];have AC:∀(l:List Str) (e:Mi.Env),e[2]? = aa (aa (W.d (ak l)))->mN cS [(mV 2)] e=.ok (.int ((l.length:Nat):Int)):=λl e h=>(fW (x:=ak l) (by unfold mV;rw[h])).trans (by unfold ak;rw[wN,aQ]);have p1:iu 3 2 (m2 bi (mV 1) (mN cS [(mV 2)])) [aa (W.d (aE ab A)),aa (W.d (.int d)),aa (W.d (ak ab)),ac,ac,ac,ac]=.ok (.nx [aa (W.d (aE ab A)),aa (W.d (.int d)),aa (W.d (ak n1)),aa (W.d (.str i)),ac,ac,ac]):=by unfold iu;rw[aA (x:=.int d) (y:=.int ((ab.length:Nat):Int)) rfl (AC ab _ rfl) ((mq _ _).trans (aK l1)),aR,mD,aR,<- ha];show Rs.bind (jP (ab.map D.str) a) _=_;rw[pa];rfl
 rw[aV p1];have p2:iu 4 2 (m2 bi (m2 cx (mV 1) (mC (.int 8))) (mN cS [(mV 2)])) [aa (W.d (aE ab A)),aa (W.d (.int d)),aa (W.d (ak n1)),aa (W.d (.str i)),ac,ac,ac]=.ok (.nx [aa (W.d (aE ab A)),aa (W.d (.int d)),aa (W.d (ak n2)),aa (W.d (.str i)),aa (W.d (.str j)),ac,ac]):=by unfold iu;rw[aA (x:=.int (d/8)) (y:=.int ((n1.length:Nat):Int)) (aA rfl rfl ((div_ii _ _).trans (aK (iJ (by decide) (by decide))))) (AC n1 _ rfl) ((mq _ _).trans (aK l2)),aR,mD,aR,<- hb];show Rs.bind (jP (n1.map D.str) b) _=_;rw[pb];rfl
 rw[aV p2];rw[aV (e':=[aa (W.d (aE ab A)),aa (W.d (.int d)),aa (W.d (ak n2)),aa (W.d (.str i)),aa (W.d (.str j)),aa (W.d (ak [])),ac]) (bI (l7 _))];rw[aV ((gU (iK (AC n2 _ rfl) (pF n2.length l8))).trans f),aV hif];have rt:bH (wD (mN cR [(mV 3),(mV 4),(mV 5)])) [aa (W.d (aE ab A)),aa (W.d (.int d)),aa (W.d (ak n2)),aa (W.d (.str i)),aa (W.d (.str j)),aa (W.d (ak hd)),o6]=.ok (.rt (.d (.lst [.str i,.str j,ak hd]))):=dN (bV ((K0 rfl rfl rfl).trans (aK (by show(3:Nat)<=_;decide))));unfold oJ;rw[rt];rfl
theorem wW(n:Nat)(X:List Spot):fw (n+3) [.d (aW X),.d (aW X)]=.ok (.d (.bl true)):=
 Gz (F:=fw (n+2)) true (X.map au) λd hd=>by
  obtain⟨s,_,rfl⟩:=bR.mp hd;exact Gz (F:=fw (n+1)) false [.str s.1,.bl s.2] λd hd=>by
   rcases br.mp hd with rfl|hd
   ·exact N3 n _
   ·rw[dm.mp hd];exact NU n _
theorem EV{ab:List Str}{A:List Ar}{ah:List Str}{i j:Str}(Q:Ask ab i j ah){ρ:List (Option Nat)}{a:E}{e:Mi.Env}(hn:ab.length<=8)(ha:bM a e=.ok ((tld ab A ah i).map au))(hp:fZ ρ e=[aa (W.d (.str j)),ac]) :
 m2 nH (mN cS [(cr ρ (bM a) (.n 1) (cB (m2 bY (m2 aO (mV 1) (mC (.int 0))) (mV 0))) (mV 1))]) (mC (.int 0)) e=.ok (.bl (lS A i j ah)):=by
 have tl:=E7 (A:=A) (ah:=ah) (i:=i) hn;obtain⟨X,hX⟩ : ∃X,X=(tld ab A ah i).filter λs=>decide (s.1=j):=⟨_,rfl⟩;have cm:cY (.n 1) (cB (m2 bY (m2 aO (mV 1) (mC (.int 0))) (mV 0))) (mV 1) (fZ ρ e) ((tld ab A ah i).map au)=.ok (X.map au):=by rw[hp,hX];exact gq au au _ _ λs _=>⟨[aa (W.d (.str j)),aa (W.d (au s))],rfl,cp (aA (qc rfl) rfl (mn _ _)),λ_=>rfl⟩
 refine(aA (x:=.int ((X.length:Nat):Int)) ((fW (fc ha (by rw[aQ];omega) cm)).trans (by rw[wN,aQ])) rfl (Mx _ _)).trans ?_
 congr 2
 rw[oB,ko,vb,<- Ed (A:=ar A) (S:=(·∈ah)) Q.ij Q.ni Q.nj];constructor
 ·intro h;cases hX2:X with
  |nil=>rw[hX2]at h;simp at h
  |cons s r=>
   have hm:s∈X:=by rw[hX2];exact bP
   rw[hX]at hm;obtain⟨h1,h2⟩:=dL.mp hm;have h2:s.1=j:=jJ h2;exact⟨s.2,by rw[<- h2];exact ub.mp (yW.mp h1).2⟩
 ·rintro⟨b,h⟩;have hm:(j,b)∈X:=by rw[hX];exact dL.mpr ⟨yW.mpr ⟨Q.jm,ub.mpr h⟩,cv rfl⟩
  have:=zr hm;omega
theorem Ask.swap{ab:List Str}{i j:Str}{ah:List Str}(Q:Ask ab i j ah):Ask ab j i ah:=⟨Q.jm,Q.im,Q.ij.symm,Q.hs,Q.nd,Q.nj,Q.ni⟩
theorem Mc{ab:List Str}{A:List Ar}(L:Lk ab A)(h2:2<=ab.length)(d:Int):nQ [.d (aE ab A),.d (.int d)]=.ok (.d (.bl true)):=by
 obtain⟨i,j,ah,has,Q⟩:=JQ (A:=A) L.nd h2 L.le d;have hl8:ah.length<=8:=dR (g9 Q.nd Q.hs) L.le;have r1:=A8 L Q.im Q.hs Q.nd Q.ni;have r2:=A8 L Q.jm Q.hs Q.nd Q.nj;have q1:=Go L Q.im Q.hs hl8;have q2:=Go L Q.jm Q.hs hl8;have pt:=MM L Q.im Q.jm Q.ij Q.hs Q.nd Q.ni Q.nj;have cc:=LW (A:=A) Q.ni Q.nj;obtain⟨c,hc⟩ : ∃c,c=lS A i j ah:=⟨_,rfl⟩;have t1:=@EV ab A ah i j Q [aa 3,ac] (mV 6) [aa (W.d (aE ab A)),aa (W.d (.int d)),aa (W.d (.str i)),aa (W.d (.str j)),aa (W.d (ak ah)),aa (W.d (ak ah)),aa (W.d (aW (tld ab A ah i))),ac,ac,ac] L.le rfl rfl;have t2:=@EV ab A ah j i Q.swap [aa 2,ac] (mV 8) [aa (W.d (aE ab A)),aa (W.d (.int d)),aa (W.d (.str i)),aa (W.d (.str j)),aa (W.d (ak ah)),aa (W.d (ak ah)),aa (W.d (aW [])),aa (W.d (.bl c)),aa (W.d (aW (tld ab A ah j))),ac] L.le rfl rfl;rw[<- cc]at t2;rw[<- hc]at t1 t2 pt;unfold nQ FW;rw[iW];rw[show([aa (W.d (aE ab A)),aa (W.d (.int d))]++dq (10-2) ac)=[aa (W.d (aE ab A)),aa (W.d (.int d)),ac,ac,ac,ac,ac,ac,ac,ac]from rfl];have s2:ve [2,3,4] (ba oZ [(wD (mV 0)),(wD (mV 1))]) [aa (W.d (aE ab A)),aa (W.d (.int d)),ac,ac,ac,ac,ac,ac,ac,ac]=.ok (.nx [aa (W.d (aE ab A)),aa (W.d (.int d)),aa (W.d (.str i)),aa (W.d (.str j)),aa (W.d (ak ah)),ac,ac,ac,ac,ac]):=by unfold ve;rw[call2 (x:=.d (aE ab A)) (y:=.d (.int d)) rfl rfl has];rfl
 rw[aV s2];rw[aV (e':=[aa (W.d (aE ab A)),aa (W.d (.int d)),aa (W.d (.str i)),aa (W.d (.str j)),aa (W.d (ak ah)),aa (W.d (ak ah)),ac,ac,ac,ac]) (bI ((fW (x:=ak ah) rfl).trans rfl))];rw[aV (e':=[aa (W.d (aE ab A)),aa (W.d (.int d)),aa (W.d (.str i)),aa (W.d (.str j)),aa (W.d (ak ah)),aa (W.d (ak ah)),aa (W.d (aW (tld ab A ah i))),ac,ac,ac]) (bI (k9 rfl rfl rfl r1))];have c1:fq (eP (cB (sM (fw 3) [(wD (mV 6)),(wD (ba lq [(wD (mV 0)),(wD (mV 2)),(wD (mV 4))]))]))) (cB (m2 fO (mV 5) (mV 4))) [aa (W.d (aE ab A)),aa (W.d (.int d)),aa (W.d (.str i)),aa (W.d (.str j)),aa (W.d (ak ah)),aa (W.d (ak ah)),aa (W.d (aW (tld ab A ah i))),ac,ac,ac]=.ok false:=
  xT (p:=false) (q:=false) (rU (p:=true) (cp (NI (x:=.d (aW (tld ab A ah i))) rfl (bV (k9 rfl rfl rfl q1)) (wW 0 _) rfl))) λ_=>cp (aA rfl rfl ((K5 ah ah).trans (by rw[cv rfl];rfl)))
 rw[aV ((dY c1).trans rfl)];rw[aV (e':=[aa (W.d (aE ab A)),aa (W.d (.int d)),aa (W.d (.str i)),aa (W.d (.str j)),aa (W.d (ak ah)),aa (W.d (ak ah)),aa (W.d (aW (tld ab A ah i))),aa (W.d (.bl c)),ac,ac]) (bI t1)];rw[aV (e':=[aa (W.d (aE ab A)),aa (W.d (.int d)),aa (W.d (.str i)),aa (W.d (.str j)),aa (W.d (ak ah)),aa (W.d (ak ah)),aa (W.d (aW [])),aa (W.d (.bl c)),ac,ac]) rfl];rw[aV (e':=[aa (W.d (aE ab A)),aa (W.d (.int d)),aa (W.d (.str i)),aa (W.d (.str j)),aa (W.d (ak ah)),aa (W.d (ak ah)),aa (W.d (aW [])),aa (W.d (.bl c)),aa (W.d (aW (tld ab A ah j))),ac]) (bI (k9 rfl rfl rfl r2))];have c2:eP (cB (ba (fw 3) [(wD (mV 8)),(wD (ba lq [(wD (mV 0)),(wD (mV 3)),(wD (mV 4))]))])) [aa (W.d (aE ab A)),aa (W.d (.int d)),aa (W.d (.str i)),aa (W.d (.str j)),aa (W.d (ak ah)),aa (W.d (ak ah)),aa (W.d (aW [])),aa (W.d (.bl c)),aa (W.d (aW (tld ab A ah j))),ac]=.ok false:=
  rU (p:=true) (cp (call2 (x:=.d (aW (tld ab A ah j))) rfl (bV (k9 rfl rfl rfl q2)) (wW 0 _)))
 rw[aV ((dY c2).trans rfl)];have c3:=cp (aA (a:=mV 7) (x:=.bl c) rfl t2 (by cases c<;>rfl:fO (.bl c) (.bl c)=.ok (.bl false)));rw[aV ((dY c3).trans rfl)];rw[aV (e':=[aa (W.d (aE ab A)),aa (W.d (.int d)),aa (W.d (.str i)),aa (W.d (.str j)),aa (W.d (ak ah)),aa (W.d (ak ah)),aa (W.d (aW [])),aa (W.d (.bl c)),aa (W.d (aW (tld ab A ah j))),aa (W.d (.bl (!c)))]) (bI (D9 rfl rfl rfl rfl pt))];have c4:fq (eP (cB (m1 (cP ["bool"]) (mV 9)))) (cB (m2 bY (mV 9) (mV 7))) [aa (W.d (aE ab A)),aa (W.d (.int d)),aa (W.d (.str i)),aa (W.d (.str j)),aa (W.d (ak ah)),aa (W.d (ak ah)),aa (W.d (aW [])),aa (W.d (.bl c)),aa (W.d (aW (tld ab A ah j))),aa (W.d (.bl (!c)))]=.ok false:=
  xT (p:=false) (q:=false) (rU (p:=true) rfl) λ_=>cp (aA rfl rfl (by cases c<;>rfl))
 rw[aV ((dY c4).trans rfl)];rw[dN (bV (call2 (bV (k9 rfl rfl rfl r1)) (bV (k9 rfl rfl rfl q1)) (wW 0 _)))];rfl
theorem Bd(ns:List Int)(hl:ns.length<=63):wL [.d (.lst (ns.map D.int))]=.ok (.d (.bl true)):=by
 obtain⟨ab,A0,r,AD,IN,⟨cw,mw,hm8,hnm⟩,h2⟩:=MG ns hl;have hw:∀x∈ab,q8 [.d (.str x)]=.ok (.d (.bl true)):=λx hx=>by
  rw[hnm]at hx;obtain⟨l,hl,rfl⟩:=bR.mp hx;exact MT (fG cw mw hm8 l hl)
 have G:=IN.gd hw;generalize A0.map (arrOf ab)=A at AD G;obtain⟨qs,hqs⟩:=I9 ns 4 (by decide) (by decide);rw[show((4:Nat):Int)=4 from rfl]at hqs;obtain⟨Ls,hLs⟩ : ∃Ls,Ls=D.lst (ns.map D.int):=⟨_,rfl⟩;rw[<- hLs]at AD hqs ⊢;obtain⟨e',f,o2,he⟩:=gZ (tg:=.n 2) (body:=(bK (eP (cB (ba nQ [(wD (mV 1)),(wD (mV 2))]))) (bH (wD (mC (.bl false)))) bZ))
  (λn e=>∃o2:Option W,e=[aa (W.d Ls),aa (W.d (aE ab A)),o2]) (qs.map D.int) 0 (λn x e hx ⟨o2,he⟩=>by
   subst he;rw[cZ]at hx;obtain⟨d,_,rfl⟩:=i7.mp hx;have ct:=rU (cp (call2 (f:=nQ) (a:=wD (mV 1)) (b:=wD (mV 2)) (e:=[aa (W.d Ls),aa (W.d (aE ab A)),aa (W.d (.int d))]) rfl rfl (Mc G.lk h2 d)));exact⟨_,_,rfl,(dY ct).trans rfl,_,rfl⟩) [aa (W.d Ls),aa (W.d (aE ab A)),ac] ⟨ac,rfl⟩
 subst he;unfold wL DA;rw[xD];rw[show([aa (W.d Ls)]++dq (3-1) ac)=[aa (W.d Ls),ac,ac]from rfl];rw[aV (e':=[aa (W.d Ls),aa (W.d (aE ab A)),ac]) (bI (call2 rfl rfl AD))];rw[aV ((gU (fb (call2 rfl rfl hqs) rfl)).trans f)];rfl
end Mr
namespace mY
open PySem L2 PyProof.Rows
abbrev cN:af:=119
abbrev tN:af:=115
abbrev rM:af:=112
abbrev rH:af:=108
instance Qr:A.bG:=⟨[(tN,lV "spots_before"),(rH,lV "reach_of")],λc=>0⟩
theorem walk{l:zI}{q:bh}{loose:List Str}{XP:(Str->Option ag)->aJ->Prop}{YP:a6->aJ->Prop}{d:DefRec}{K:Params->aD}(hn:l.most=aa 63)(hdf:d.params.defaults=[])
 (hY:∀(w:a6) (h:aJ),YP w h->(K w.params).In h) (hL:∀w:a6,Do (K w.params)=true) (hK:∀w:a6,(K w.params).lookup tN=ac) (hK2:∀w:a6,(K w.params).lookup rH=ac) (hrec:∃d,(recsOf q).find? (λe=>e.name==("spots_before" : Str))=aa d) (htab:∀w:a6,vG (K w.params) "spots_before" = aa (cN,tN)) (Ay:∃d,(recsOf q).find? (λe=>e.name==("reach_of" : Str))=aa d) (Az:∀w:a6,vG (K w.params) "reach_of" = aa (rM,rH))
 (F:∀(w:a6) (mg:Str->Option ag) (fa:af) (h:aJ),(K w.params).In h->h.Ns mainGlobals mg->mg d.name=aa (.ref fa) ->
  ∃fd:bF,(∀(s:ao) (u:ag),lL s fd ⟨[u],[]⟩ [("_law_script",u)])/\∀base:aJ,(K w.params).In base->base.Ns mainGlobals mg->BM mg base->eD base cN tN->eD base rM rH->bE l.prog w (K w.params) mg base aL 16 fa fd ["_law_script"] A.qM) :
 PySem.W.WalkO q loose XP YP l.row.toRowW d [] (λf vs=>zS f vs):=
 L2.IW (x := "_law_script") (dn := "spots_before") (qn:=lV "spots_before") (dn2 := "reach_of") (qn2:=lV "reach_of") (k:=16) rfl (by decide) hn hdf ⟨rfl,by decide,by decide⟩ hY (λw a o e c=>LA (hL w) e c) hK hK2 hrec htab Ay Az F
theorem Je{K:aD}{h:aJ}{mg:Str->Option ag}(X:K.In h)(G:h.Ns mainGlobals mg)(AF:fI K mainGlobals "len" = aa ac)(AG:fI K mainGlobals "range" = aa ac)(AH:fI K mainGlobals "max" = aa ac)(AI:fI K mainGlobals "min" = aa ac)(AJ:fI K mainGlobals "tuple" = aa ac)(AK:fI K mainGlobals "list" = aa ac)(AL:fI K mainGlobals "isinstance" = aa ac)(AM:fI K mainGlobals "all" = aa ac)(AN:fI K mainGlobals "any" = aa ac)(AQ:fI K mainGlobals "bool" = aa ac)(AR:fI K mainGlobals "str" = aa ac)(AU:fI K mainGlobals "int" = aa ac)(AV:fI K mainGlobals "zip" = aa ac)(AX:fI K mainGlobals "enumerate" = aa ac)(AY:fI K mainGlobals "sorted" = aa ac)(AZ:fI K mainGlobals "reversed" = aa ac)(A1:fI K mainGlobals "set" = aa ac):Txt mg:=⟨f9 X G AF,f9 X G AG,f9 X G AH,f9 X G AI,f9 X G AJ,f9 X G AK,f9 X G AL,f9 X G AM,f9 X G AN,f9 X G AQ,f9 X G AR,f9 X G AU,f9 X G AV,f9 X G AX,f9 X G AY,f9 X G AZ,f9 X G A1⟩
theorem KR{l:zI}{w:a6}{K:aD}{mg:Str->Option ag}{fa:af}(hfa:mg "law" = aa (.ref fa))(T:Txt mg)(Ig:cA K mg "_law_cell" zk ["_law_script","_law_k"])(Ih:cA K mg "_law_words" wH ["_law_cell_here","_law_many"])(Ii:cA K mg "_law_ranks" yd ["_law_cell_here","_law_many"])(Ij:cA K mg "_law_net" w5 ["_law_script","_law_most"])(Ik:cA K mg "_law_two" xr ["_law_script","_law_most"])(Il:cA K mg "_law_questions" yX ["_law_script","_law_many"])(Im:cA K mg "refuse_strangers" yE ["names","asked"])(Io:cA K mg "refuse_repeats" yI ["asked"])(Ip:cA K mg "refuse_wrong_asks" xi ["names","asked"])(Iq:cA K mg "names_along" yB ["names","steps","name"])(Ir:cA K mg "names_below" wG ["net","name"])(Is:cA K mg "has_held_below" xW ["net","name","held"])(Iu:cA K mg "heirs_of" yK ["net","name"])(Iv:cA K mg "heir_spots" xK ["net","name"])(Iw:cA K mg "elders_of" yF ["net","name"])(Iy:cA K mg "elder_spots" xY ["net","name"])(Iz:cA K mg "spots_from" xf ["net","spot","held"])(IA:cA K mg "spots_walked" xA ["starts","onward"])(A2:qE K mg "spots_before" y7 ["net","one","held"] cN)(IB:cA K mg "spots_of" ya ["name","before"])(IC:cA K mg "are_parted" yf ["net","one","other","held"])(A3:qE K mg "reach_of" xI ["net","one","held"] rM)(ID:cA K mg "_law_alike" yG ["_law_found","_law_due"])(IE:cA K mg "_law_asked" yN ["_law_net_here","_law_draw"])(IF:cA K mg "_law_ready" wQ ["_law_net_here","_law_held"])(IG:cA K mg "_law_next" xo ["_law_net_here","_law_ready_here","_law_held","_law_spot"])(IH:cA K mg "_law_reach" xx ["_law_net_here","_law_one","_law_held"])(II:cA K mg "_law_question" xU ["_law_net_here","_law_draw"])(IJ:cA K mg "law" zb ["_law_script"]) :
 ∃fd:bF,(∀(s:ao) (u:ag),lL s fd ⟨[u],[]⟩ [("_law_script",u)])/\∀base:aJ,K.In base->base.Ns mainGlobals mg->BM mg base->eD base cN tN->eD base rM rH->bE l.prog w K mg base aL 16 fa fd ["_law_script"] A.qM:=
 cA.Ov IJ hfa λbase kb nb hB hC hC2 f fd F=>by
  have jb:=Ig.cal (P:=l.prog) (w:=w) (base:=base) (CX:=aL) λf fd F=>Jz F T;have Ad:=Ih.cal (P:=l.prog) (w:=w) (base:=base) (CX:=aL) λf fd F=>Nx F T;have Ae:=Ii.cal (P:=l.prog) (w:=w) (base:=base) (CX:=aL) λf fd F=>Kv F T;have Af:=Ij.cal (P:=l.prog) (w:=w) (base:=base) (CX:=aL) λf fd F=>J3 F T jb Ad Ae;have Av:=Ik.cal (P:=l.prog) (w:=w) (base:=base) (CX:=aL) λf fd F=>Ni F T jb Af;have Aw:=Il.cal (P:=l.prog) (w:=w) (base:=base) (CX:=aL) λf fd F=>Og F T jb;have jG:=Im.cal (P:=l.prog) (w:=w) (base:=base) (CX:=aL) λf fd F=>Kz F T;have Ag:=Io.cal (P:=l.prog) (w:=w) (base:=base) (CX:=aL) λf fd F=>Jw F T;have qA:=Ip.cal (P:=l.prog) (w:=w) (base:=base) (CX:=aL) λf fd F=>JG F T jG Ag;have Ah:=Iq.cal (P:=l.prog) (w:=w) (base:=base) (CX:=aL) λf fd F=>LD F T;have Ai:=Ir.cal (P:=l.prog) (w:=w) (base:=base) (CX:=aL) λf fd F=>PH F T jG Ah;have Al:=Is.cal (P:=l.prog) (w:=w) (base:=base) (CX:=aL) λf fd F=>MR F T Ai;have Aj:=Iu.cal (P:=l.prog) (w:=w) (base:=base) (CX:=aL) λf fd F=>MK F T jG;have qy:=Iv.cal (P:=l.prog) (w:=w) (base:=base) (CX:=aL) λf fd F=>Jc F T Aj;have Ak:=Iw.cal (P:=l.prog) (w:=w) (base:=base) (CX:=aL) λf fd F=>IQ F T jG;have qz:=Iy.cal (P:=l.prog) (w:=w) (base:=base) (CX:=aL) λf fd F=>J5 F T Ak;have An:=Iz.cal (P:=l.prog) (w:=w) (base:=base) (CX:=aL) λf fd F=>JN F T Al qy qz;have Am:=IA.J8 l.prog w base λf fd F=>NK F T;have qB:=A2.cal (P:=l.prog) (w:=w) (base:=base) (CX:=aL) λf fd F=>Ke F T hB hC bP Am An qy qz;have Ao:=IB.cal (P:=l.prog) (w:=w) (base:=base) (CX:=aL) λf fd F=>MF F T;have At:=IC.cal (P:=l.prog) (w:=w) (base:=base) (CX:=aL) λf fd F=>JJ F T qA qB Ao;have tL:=A3.cal (P:=l.prog) (w:=w) (base:=base) (CX:=aL) λf fd F=>Ng F T hB hC2 (cy _ bP) qA qB;have lR:=Jp (P:=l.prog) (w:=w) (base:=base) (CX:=aL) ID λf fd F self=>E2 F T self;have Au:=IE.cal (P:=l.prog) (w:=w) (base:=base) (CX:=aL) λf fd F=>Kr F T;have Aq:=IF.cal (P:=l.prog) (w:=w) (base:=base) (CX:=aL) λf fd F=>NX F T;have As:=IG.cal (P:=l.prog) (w:=w) (base:=base) (CX:=aL) λf fd F=>JX F T;have tM:=IH.cal (P:=l.prog) (w:=w) (base:=base) (CX:=aL) λf fd F=>N1 F T Aq As;have Ax:=II.cal (P:=l.prog) (w:=w) (base:=base) (CX:=aL) λf fd F=>Pa F T At tL lR Au tM;exact A.Jk (Md F T Av Aw Ax) λns hl=>by first|exact Mr.Bd ns|exact Mr.Bd ns hl
end mY
namespace PySem.W.Fast
def tw13820881724992568416:=0
def tw15302321028481712448:=0
def tw14034065777701429664:=0
def tw12599389703689708064:=0
def tw340464496816309920:=0
def tw9107193794525888384:=0
def tw2338335311942542240:=0
def tw6216321837671042081:=0
def tw641259340595481729:=0
def tw8534011872814022913:=0
def tw5968302777510778209:=0
def tw5962926396096777601:=0
def tw8536745569967010177:=0
def tw12825006215053401697:=0
def tw13731837134244751041:=0
def tw159315465344458818:=0
def tw13148587916983197890:=0
def tw11394902425094966562:=0
def tw8738858955724882370:=0
def tw11969614017011125922:=0
def tw10666617264170625826:=0
def tw4389849548321414050:=0
def tw15660295075670922210:=0
def tw9444027879289831459:=0
def tw13325609982946002147:=0
def tw13322999286162991971:=0
def tw14215685017264109604:=0
def tw11510310122618306660:=0
def tw797685632758360196:=0
def tw6888749723381447908:=0
def tw8649563821559709956:=0
def tw1651965844171838116:=0
def tw17486635697045312484:=0
def tw16303180488371323876:=0
def tw12947754955014272101:=0
def tw11912125724713155813:=0
def tw15631208710463680837:=0
def tw12984049289431273093:=0
def tw17049250648738774981:=0
def tw14977225985187921094:=0
def tw2321783979111998886:=0
def tw5858441523320460134:=0
def tw3454441420275235750:=0
def tw6045776835835825415:=0
def tw16506690538944235783:=0
def tw2622452605421987303:=0
def tw6447908392813858503:=0
def tw682751085784763239:=0
def tw16696822993492764776:=0
def tw8598069393642559656:=0
def tw13865418677699190568:=0
def tw390753734932480840:=0
def tw12108367534443094281:=0
def tw15115245235371444617:=0
def tw11174087277023796713:=0
def tw17643894197949009897:=0
def tw5087974859871102953:=0
def tw11896724143999010890:=0
def tw16561092499890711658:=0
def tw15757820265461028010:=0
def tw8573244419596605930:=0
def tw13828067821441488714:=0
def tw3996691427035577355:=0
def tw17974603656307001515:=0
def tw2393053636168905291:=0
def tw11767327686422690411:=0
def tw11903020184486469291:=0
def tw15800470518529992395:=0
def tw6102590529576788811:=0
def tw14245110448462944075:=0
def tw12584692225130333067:=0
def tw8438188202964975628:=0
def tw15315324638941087756:=0
def tw15644047590104370252:=0
def tw16216373306774836364:=0
def tw5305696606641636652:=0
def tw12083613782768163180:=0
def tw17912867745209952652:=0
def tw13370551262270563788:=0
def tw5338667495174100492:=0
def tw4422268877683215148:=0
def tw15430667635898007436:=0
def tw193392596131064748:=0
def tw10761986044910858573:=0
def tw17307876997131463277:=0
def tw2591995617670414061:=0
def tw13079843853946337326:=0
def tw18209516053336500366:=0
def tw8440203229959493966:=0
def tw17018422331843877230:=0
def tw5257744475584648590:=0
def tw15589830084700045806:=0
def tw8116188211981951630:=0
def tw11819174853746247470:=0
def tw13923882606692160879:=0
def tw8789853691866504783:=0
def tw911589251326324431:=0
def tw14261164374675775183:=0
def tw18231700780273308559:=0
def tw11878749986727131023:=0
def tw1506362253203172335:=0
def tw2136756937395563568:=0
def tw16702455682073737392:=0
def tw7285020665317277072:=0
def tw12094973616708264752:=0
def tw7926205742546346800:=0
def tw12027180185248620432:=0
def tw16625842890735037649:=0
def tw9833297255377239313:=0
def tw13154383251654901073:=0
def tw5216622573368019345:=0
def tw9772153939714793937:=0
def tw13610660029364466417:=0
def tw12290426573123861329:=0
def tw3677355825900540913:=0
def tw4751764603516019922:=0
def tw11919387512562416882:=0
def tw15967460111505316114:=0
def tw3642298047579542834:=0
def tw10952474662777087314:=0
def tw18070422462367332018:=0
def tw9836064428276826866:=0
def tw1118738564964194034:=0
def tw2724624535490965779:=0
def tw4797685545879741779:=0
def tw2494898511378647955:=0
def tw4557631448404451412:=0
def tw2107580949045270164:=0
def tw687771950068864820:=0
def tw1149446621546338292:=0
def tw11555984010332614677:=0
def tw11212537881606915253:=0
def tw10321424271282821301:=0
def tw7172106418078676213:=0
def tw8069181043882897781:=0
def tw17711689703410985429:=0
def tw11407146949419487829:=0
def tw3296278572730677909:=0
def tw2552656854287274869:=0
def tw5433891362373105750:=0
def tw16898336833624054934:=0
def tw16239128498624100566:=0
def tw16843838877796774358:=0
def tw17878552389456414358:=0
def tw11875948316598067958:=0
def tw8704530666881685334:=0
def tw13797037869686297462:=0
def tw7819210631738143895:=0
def tw3050868696441173239:=0
def tw1827312192928324951:=0
def tw13371674906023738711:=0
def tw11370384441981552055:=0
def tw1181731493617224151:=0
def tw12206627934021076631:=0
def tw8350465723063780023:=0
def tw16199323470292714263:=0
def tw1511514411667613495:=0
def tw8478970075756591927:=0
def tw2772298634093526935:=0
def tw16919769699557033943:=0
def tw12583067398224264376:=0
def tw1887014962664980760:=0
def tw16782448916774717880:=0
def tw9581652673776747032:=0
def tw1715130294897121848:=0
def tw261778828480659032:=0
def tw17022804406606129305:=0
def tw9499202852478990649:=0
def tw1106384832494258809:=0
def tw138408487570070265:=0
def tw17638286567196978041:=0
def tw13586089621711052058:=0
def tw6175400248929381722:=0
def tw11110889008122005882:=0
def tw12068968812997891482:=0
def tw4703972181021597370:=0
def tw11686421496061130522:=0
def tw4802007925667126074:=0
def tw18102829428197576891:=0
def tw17306705884566792699:=0
def tw13475784006786430555:=0
def tw7712210523839456187:=0
def tw6280556603568667579:=0
def tw855952627882470748:=0
def tw11625849511245185628:=0
def tw8707556511066331772:=0
def tw4833245958234970044:=0
def tw1572771533418911997:=0
def tw1089358722480793853:=0
def tw18189381367812358813:=0
def tw2834744062313679613:=0
def tw14039314609950963517:=0
def tw13903352290188877982:=0
def tw11244770677716460702:=0
def tw1489794117795881342:=0
def tw8507919709649276574:=0
def tw15988796032782543614:=0
def tw6710788412119498686:=0
def tw13807379400655463358:=0
def tw14680867890596419935:=0
def tw7764049237942457791:=0
def tw8490839851462957567:=0
def tw2679544998175523359:=0
def tw3240996918153283199:=0
def tw9741555816634510015:=0
def tw4124021817134272223:=0
def tw6240527840981734303:=0
end PySem.W.Fast
open PySem PySem.W PyProof.Rows
set_option maxRecDepth 100000 in
set_option maxHeartbeats 0 in
theorem PySem.Challenge.cw_arrowfind_k12_reach_told_holds : PySem.Challenge.rw_arrowfind_k12_reach_told.Holds := by
 w_on;o_law;k_head;(case hw=>w_witness2)
 k_fill
 refine mY.walk (l:=PySem.Challenge.rw_arrowfind_k12_reach_told) rfl rfl (λw h Y=>PySem.W.km_in_of Y) ?L ?K ?K2 ⟨_,rfl⟩ ?H ⟨_,rfl⟩ ?H2 ?F
 case L=>
  intro w
  kernel_rfl
 case K=>
  intro w
  kernel_rfl
 case H=>
  intro w
  kernel_rfl
 case K2=>
  intro w
  kernel_rfl
 case H2=>
  intro w
  kernel_rfl
 case F=>
  intro w mg fa h KX G hmg
  refine' mY.KR hmg ?T ?Ig ?Ih ?Ii ?Ij ?Ik ?Il ?Im ?Io ?Ip ?Iq ?Ir ?Is ?Iu ?Iv ?Iw ?Iy ?Iz ?IA ?A2 ?IB ?IC ?A3 ?ID ?IE ?IF ?IG ?IH ?II ?IJ
  case T=>
   refine' mY.Je KX G ?AF ?AG ?AH ?AI ?AJ ?AK ?AL ?AM ?AN ?AQ ?AR ?AU ?AV ?AX ?AY ?AZ ?A1
   (case AF=>k_is)
   (case AG=>k_is)
   (case AH=>k_is)
   (case AI=>k_is)
   (case AJ=>k_is)
   (case AK=>k_is)
   (case AL=>k_is)
   (case AM=>k_is)
   (case AN=>k_is)
   (case AQ=>k_is)
   (case AR=>k_is)
   (case AU=>k_is)
   (case AV=>k_is)
   (case AX=>k_is)
   (case AY=>k_is)
   (case AZ=>k_is)
   (case A1=>k_is)
  case A2=>
   refine' L2.Fu (c:=mY.cN) KX G (λ_ _ _ _ _ _ us hl=>match us,hl with|[_,_,_],_=>rfl) ?a ?l ?c ?k
   (case a=>k_is);(case l=>k_is);(case c=>k_is);(case k=>k_is)
  case A3=>
   refine' L2.Fu (c:=mY.rM) KX G (λ_ _ _ _ _ _ us hl=>match us,hl with|[_,_,_],_=>rfl) ?a ?l ?c ?k
   (case a=>k_is);(case l=>k_is);(case c=>k_is);(case k=>k_is)
  all_goals
   first
    |(refine' L2.uq KX G (λ_ _ _ _ _ _ us hl=>match us,hl with|[_],_=>rfl) ?a ?l ?c ?k;(case a=>k_is);(case l=>k_is);(case c=>k_is);(case k=>k_is))
    |(refine' L2.uq KX G (λ_ _ _ _ _ _ us hl=>match us,hl with|[_,_],_=>rfl) ?a ?l ?c ?k;(case a=>k_is);(case l=>k_is);(case c=>k_is);(case k=>k_is))
    |(refine' L2.uq KX G (λ_ _ _ _ _ _ us hl=>match us,hl with|[_,_,_],_=>rfl) ?a ?l ?c ?k;(case a=>k_is);(case l=>k_is);(case c=>k_is);(case k=>k_is))
    |(refine' L2.uq KX G (λ_ _ _ _ _ _ us hl=>match us,hl with|[_,_,_,_],_=>rfl) ?a ?l ?c ?k;(case a=>k_is);(case l=>k_is);(case c=>k_is);(case k=>k_is))
