import PyProof.Rows.All
import Wide.All
import OpenK.AllK
import Wide.FinOn
import Lean
import PyProof.EqAt
import PyProof.EqKinds
import PyProof.TupleCall
import PySem.Str
import PyProof.NeKinds
import PyProof.Draws
import PyProof.EnumMake
import PyProof.ZipIter
import KE.KSortTup
import KE.KLam
import PyProof.Rows.SortStr
import PyProof.Rows.FactsT3
import PyProof.StrOps2
import KE.KDictList
import KE.KRevIter
import PyProof.CollectIter
import PyProof.TupleOfGen
import PyProof.Rows.StrNews2
import PyProof.Rows.StrFacts2
import PyProof.StrLawsRepr
import PyProof.Rows.StrCase
import PySem.Challenge.RW_arrowfind_k50_islands
open PySem renaming wpAny_bind->ak,wpAny_pure->ax,Value->ag,Shared->ao,Addr->ah,sizeLine_eq->b9,Program->bg,wpAny_newObj_type->gz,FuncData->bM,wpAny_callSpecial?_slot->jM,wpAny_call_entry->gG,Around->bv,World->aY,boot_len->iF,wpAny_field->f9,wpAny_of_eq->iG,Heap->aI,wpAny_attempt->kn,wpAny_truthy_bool->nC,wpAny_isInstance->nE,builtinLookup_eq_fast->ri,wpAny_setField->ma,Builtin->eX,Expr->aR,mem_of_lookup->rj,wpAny_mono->jt,codeAny_builtin->nF,wpAny_dictEntries->pE,plainId_quiet->md,wpAny_typeNameOfWhole_keyiter->wx,wpAny_typeNameOfWhole_valiter->wy,isSubtype_type->nG,wpAny_specialOf->pF,wpAny_passesOwn->pH,wpAny_typeNameOf_keyiter->wz,wpAny_typeNameOf_valiter->wA,wpAny_holding->pI,wpAny_dictEpoch->rn,typeLookup_type->ro,Stmt->bC,typeIs_bool->wB,wpAny_Call_Name_kw->wC,wpAny_setField_rec->wE,Scope->eY,wpAny_seqItems->t0,wpAny_rule->pJ,Fin->pK,DictEntry->nH,wpAny_execs_nil->wF,wpAny_isOneOf_valiter->AK,NameKind->nJ,call_meets->rp,Paired->nK,isSubtype_stop->wG,wpAny_fieldsOf->wH,tupleKind_room_in1->AL,TriplesOk->rq,wpAny_handled->wI,wpAny_pyIter_list->AM,BindsTo->nL,wpAny_pyIter_slot->AN,wpAny_typeOf->wJ,wpAny_ret_mkInt->AQ,Arguments->t5,wpAny_throw->wK,wpAny_updateSeq->AR,wpAny_call->wL,PlainAttrs->wM,call->AU,wpAny_standAt->AV,wpAny_newList->AX,signature?_of->AY,wpAny_Call_method_late->Iv
open List renaming length_map->aQ,getElem?_eq_some_iff->cu,size_toArray->bK,mem_cons_self->ce,mem_cons_of_mem->c6,mem_cons->bA,mem_map->bu,getD_eq_getElem?_getD->fh,getElem?_map->c7,map_cons->bO,length_append->dI,getElem?_eq_getElem->fF,replicate->cx,range->bw,mem_singleton->ej,length_cons->dW,getElem?_set_ne->fi,mem_of_getElem?->fj,mem_append_right->ga,map_map->dj,mem_range->en,mem_append->fk,mem_filter->fG,length_drop->gc,toArray->eo,drop_eq_getElem_cons->ko,pairwise_map->iS,getElem?_cons_succ->li,mem_map_of_mem->jN,mem_append_left->ku,getElem?_cons_zero->me,length_take->ju,length_set->iT,map_append->iU,getElem?_set_self->mf,pairwise_lt_range->mh,pairwise_cons->kA,length_filter_le->mi,any_cons->iH,getElem?_of_mem->mj,drop_eq_nil_of_le->nM,nodup_cons->jO,filter_eq_self->mm,pairwise_flatMap->nN,find?_cons->kB,take_of_length_le->pL,map_congr_left->nO,flatMap_cons->nP,lookup_cons->nQ,append_nil->nR,mem_flatMap->pM,length_nil->pN,reverse_cons->rA,getElem?_append_left->wN,getElem_inj->rB,not_mem_nil->rC,lookup->mn,idxOf_lt_length_iff->wP,drop_of_length_le->wQ,length_range->t6,getElem?_set->t7,append_assoc->t8,nodup_append->t9,length_singleton->wR,eq_nil_of_length_eq_zero->AZ,all_eq_true->ua,forIn_cons->ub,getElem?_append_right->A1,drop_zero->uc,pairwise_iff_getElem->A2,cons_append->wS,getElem_mem->wT,take_length->wU,range_succ_eq_map->A3,length_replicate->A4,map_nil->ud,any_map->ue,nil_append->wW,getElem?_eq_none->A5,mem_of_mem_drop->A6,filterMap_cons->A7,getElem_of_mem->A8,getElem_idxOf->A9,Pairwise->wX,any_eq_false->Ba,eraseIdxIfInBounds_toArray->Iw,drop_sublist->Bb,filter_congr->Bc,nodup_range->Bd,filter_cons->Be,of_mem_zip->Bf,idxOf_lt_length_of_mem->Iy,take_succ->Bg,length_erase_of_mem->Iz,getElem?_replicate->IA,eraseIdx_cons_succ->IB,pairwise_singleton->IC,length_pos_of_mem->ID,mem_iff_getElem?->IE,mem_erase_of_ne->IF,mem_of_mem_take->IG,length->Bh,length_reverse->IH,filter_sublist->II,mem_filterMap->IJ,set_cons_succ->IK,set_cons_zero->IL,getElem_range->IM,getElem?_drop->IP
open PySem.W renaming Frag->aE,mg_none_of->gH,nsIn->gf,CodeHd->jP,kia_one->kC,fnOf->kD,keepIn->nS,codeIn->rD,kla_obj->uf,kitx_list->wY,kitx_dict->wZ,tabObj->w5,methodObj->Bi,instObj->Bj,OpenLaw->Bk,lookIn->Bl,kitOne->Bm,kitAny->Bn,cellsFrom_some->IQ,kitx_float->IR,kitx_tuple->IS,kitx_none->IT,kitx_bool->IU,plainGet->IV,kitx_int->IW,kitx_str->IY,kitx_own->IZ,findIn->I0,kla_fn->I9
open PySem.Heap renaming get?_push_of_some->bD,get?_push_size->bS,lt_size->bR,get?_update_self->nU,size_push->nV,SameBut->mo,get?_update_other->Bo,ExtBut->ug
open Bool renaming false_ne_true->cy,and_eq_true->g6,false_eq_true->lj,not_eq_true->rE,not_eq_true'->uh,eq_iff_iff->w6,and_false->w9,or_eq_true->Bp,false_or->Bq,true_or->Br,eq_false_iff->Ja
open Nat renaming le_refl->ba,le_trans->dw,zero_add->dX,lt_of_lt_of_le->g7,zero_le->eZ,ne_of_lt->gh,lt_irrefl->jv,le_add_right->xa,le_of_lt->ui,ne_of_gt->uj,not_lt_zero->xb,lt_or_ge->xc,lt_succ_self->Bs,min_eq_right->Bt,min_eq_left->Bu,le_total->Bv
open PySem.F renaming plainAttrs_list->gA,slot_list_append->mq,type_list_append->mr,slot_dict_valueiterator_next->uk,slot_dict_keyiterator_next->ul,slot_tuple_iterator_next->xf,slot_tuple_index->xg,slot_list_index->xh,plainAttrs_tuple->Bw,type_tuple_index->Bx,type_list_index->By,slot_list_lt->Bz,slot_list_le->BA,slot_bool_hash->xi,args_tuple_iterator_next_1->Jb,entry_tuple_iterator_next->Jc,slot_zip_next->xj,args_object_init_2->BB,args_dict_valueiterator_next_1->Jd,entry_dict_valueiterator_next->Je,args_dict_keyiterator_next_1->Jf,slot_dict_values->Jg,slot_list_extend->Jh,type_list_extend->Ji,entry_dict_keyiterator_next->Jj,slot_list_clear->Jk,type_list_clear->Jl,plainAttrs_str->Jm,slot_list_pop->Jn,type_list_pop->Jo,slot_str_join->Jp,type_str_join->Jq,called_tuple->BC,slot_dict_values_iter->Jr,plain_reversed_new->Js
open Option renaming map_eq_some_iff->gI,toList_some->BD,isSome_map->BE,getD_none->Jt,map_some->Ju
open PySem.PassesOwn renaming never->e6
open Int renaming toNat_natCast->fR,emod_lt_of_pos->jQ,emod_nonneg->jR,ofNat_lt->rF
open PySem.Value renaming ref->b8,none->eE,bool->jw,str->mx,type->um,int->xk,float->BF
open Option.some renaming inj->gi
open PySem.Heap.SameBut renaming update->iV
open PyProof.Rows renaming listItems_at->fo,boot_isinstance->iW,callWith_type1->xl,IntsAre->gJ,boot_tuple->ll,slot_tuple_getitem->pO,get?_update_seq->uo,len_tuple->Jv,listUpdate_at->xo,AllBare->nW,subscriptTail_builtinR->Jw
open PySem.Str renaming ofString->gm,empty->eP,join->lm,length->pP
open PySem.Builtin.SmallTypes renaming nextOf->pQ,ownedTupleHandOut->Jx,ownedTupleIsFree->Jy,stopIteration->Jz,newRecord->RJ
open PySem.Obj renaming mapSeq->fH,data_mapFields->ln,isFreed_of_fields->uq,mapFields->pR,cls_mapFields->xp
open Ne renaming symm->cR
open Array renaming getElem?_eq_getElem->pT,length_toList->nX,perm_iff_toList_perm->ur,getElem?_toList->rG,toList_append->xq,toList_inj->xr,getElem?_eq_none->BG,toArray_toList->JA
open PySem.Around renaming under_plainId->nY,frames_deeper->JB
open PySem.Builtin.Tuple renaming tupleExact->rH,tupleItemsOf->JC
open PySem.Builtin.Dict_items renaming ownsTuple->ut,dictOf->RK,newIterator->RL
open ForInStep renaming yield->lp
open True renaming intro->g9
open PySem.NameKind renaming free->lu,cell->BH
open Or renaming inl->dA,inr->fI
open List.cons renaming injEq->nZ
open PySem.Builtin.List renaming listLengthHint->xt,listItems->xu,listTooLong->BI,listExtendWith->JD,listSameRef->JE
open PySem.Builtin.Slice renaming slicePlaces->xw,sliceApplied->BJ,sliceAdjust->BK
open List.Pairwise renaming imp_of_mem->xx,filter->BL,nil->JF
open PySem.MeetsSeq3 renaming plain_eq_loop->n5,entry_eq_loop->xy
open False renaming elim->lw
open Sum renaming inr->gK,inl->pU
open PySem.Builtin.Dict renaming showsAll->xz
open PySem.Calls renaming callWith_builtin->xA,evalArgs_plain->BO,Name_function_global->JG,spliced_cons->JH,spliced_nil->JI
open PySem.Paired renaming length->rJ
open Classical renaming byContradiction->BP,propDecidable->JJ
open Function renaming comp->xB
open PySem.Builtin.Str renaming strSliceIndices->JK
open PySem.MeetsSeq renaming EqGives->JL
open List.Perm renaming refl->BQ
open PySem.SeqAt.EqAt renaming bool_bool->JM,bool_str->JN,str_bool->JO
open Prod.mk renaming injEq->BR
open Prod renaming ext->uv
open Sum.inr renaming inj->BU
open PySem.SeqRoads2.EqGives renaming str->RM
open PySem.Shared renaming heap->BV
open Array.Perm renaming refl->JP
open Option renaming some->ab,none->ae
abbrev ay:=@if_neg
abbrev cM:=@decide_eq_true
abbrev dC:=@decide_eq_false
abbrev aH:=@if_pos
abbrev fV:=@decide_eq_true_eq
abbrev jm:=@decide_eq_true_iff
abbrev i3:=@beq_self_eq_true
abbrev eJ:=@if_false
abbrev qQ:=@decide_eq_false_iff_not
abbrev tH:=@beq_eq_false_iff_ne
abbrev kQ:=@beq_iff_eq
abbrev gU:=@if_true
abbrev oZ:=@and_true
abbrev yz:=@of_decide_eq_true
abbrev yM:=@decide_eq_decide
set_option maxRecDepth 100000
set_option maxHeartbeats 4000000
set_option Elab.async false
set_option linter.all false
namespace L2
open PySem PySem.Spec PyProof.Rows
abbrev Key:=Sum Bool Str
def DD(k:Bool):ag->Bool
 |.bool b=>b==k
 |_=>false
def tw:Key->ag->Bool
 |.inl k,v=>DD k v
 |.inr x,v=>Value.isStrOf x v
def Oz(w:aY):Key->Int
 |.inl k=>hashInt (if k then 1 else 0)
 |.inr x=>hashStr w x
theorem LD{k:Bool}:∀{v:ag},DD k v=true->v=.bool k
 |.bool b,h=>by rw[show b=k from eq_of_beq h]
theorem lN:∀{k:Key} {v:ag},tw k v=true->(∃i,k=pU i/\v=jw i)\/(∃x t,k=gK x/\v=mx x t)
 |.inl i,v,h=>.inl ⟨i,rfl,LD h⟩
 |.inr x,v,h=>by
  obtain⟨t,e⟩:=Value.isStrOf_shape (x:=x) (v:=v) h;exact .inr ⟨x,t,rfl,e⟩
theorem Oy(i:Bool):tw (.inl i) (.bool i)=true:=i3 i
theorem QP{prog:bg}{w:aY}{A:bv}{E:ag->ao->Prop}{s:ao}{b:Bool}{Q:Int->ao->Prop}(h:Q (hashInt (if b then 1 else 0)) { s with toks:=s.toks+1 }) :
 wpAny (model prog w) A (pyHash (.bool b)) Q E s:=by
 have hr:=rawHash_range (if b then 1 else 0);unfold pyHash;have hv:[jw b].any Value.onHeap=false:=rfl;refine ak ?_;rw[cRoomFor,ay (by rw[hv];exact cy)];refine ax ?_;refine ak (pF (wB s b) xi.lookup ?_);show wpAny _ _ (if(ab (Value.builtin "int.__hash__")==ab eE)=true then _ else _) Q E s;rw[ay (by rw[beq_builtin_none];exact cy)];refine ak (pF (wB s b) xi.lookup ?_);show wpAny _ _ (callSpecialIfBoundUnlessNone? (.bool b) "__hash__" _ >>= _) Q E s;refine ak (wpAny_callSpecialIfBoundUnlessNone?_slot (wB s b) xi
  (gG xi (wB s b) F.entry_int_hash
   (show wpAny _ _ (do ret (<- mkInt (rawHash (if b then 1 else 0)))) _ _ s from AQ ?_) (F.args_int_hash_1 _)))
 show wpAny _ _ (if(decide (-(2:Int) ^ 63<=rawHash (if b then 1 else 0))&&decide (rawHash (if b then 1 else 0)<2 ^ 63))=true then _ else _) Q E _;rw[aH (by rw[cM hr.1,cM hr.2];rfl)];exact ax h
theorem QL(x:Str)(t:Tok):tw (.inr x) (.str x t)=true:=by simp[tw,Value.isStrOf]
theorem PM(a b:Bool):decide ((pU a:Key)=pU b)=(a==b):=by
 by_cases e:a=b
 ·subst e;simp
 ·have h:¬ (pU a:Key)=pU b:=λq=>e (Sum.inl.inj q);rw[dC h];exact(tH.mpr e).symm
theorem L7(a b:Str):decide ((gK a:Key)=gK b)=decide (a=b):=by
 by_cases e:a=b
 ·subst e;simp
 ·have h:¬ (gK a:Key)=gK b:=λq=>e (BU q);rw[dC h,dC e]
theorem Lo(a:Bool)(b:Str):decide ((pU a:Key)=gK b)=false:=dC (λq=>nomatch q)
theorem ME(a:Str)(b:Bool):decide ((gK a:Key)=pU b)=false:=dC (λq=>nomatch q)
def gN(prog:bg)(w:aY):PySem.KeyKind prog w Key where
 is:=tw
 hash:=Oz w
 inj:=λv a b ha hb=>by
  rcases lN ha with ⟨i,rfl,rfl⟩|⟨x,t,rfl,rfl⟩
  ·rcases lN hb with ⟨j,rfl,e⟩|⟨y,u,rfl,e⟩
   ·injection e with e1;rw[e1]
   ·exact nomatch e
  ·rcases lN hb with ⟨j,rfl,e⟩|⟨y,u,rfl,e⟩
   ·exact nomatch e
   ·injection e with e1 _;rw[e1]
 byValue:=λk v h=>by
  rcases lN h with ⟨i,rfl,rfl⟩|⟨x,t,rfl,rfl⟩<;>rfl
 pyHash:=λhv h=>by
  rcases lN hv with ⟨i,rfl,rfl⟩|⟨x,t,rfl,rfl⟩
  ·exact QP h
  ·exact wpAny_pyHash_str h
 eqBool:=λhu hv h=>by
  rcases lN hu with ⟨i,rfl,rfl⟩|⟨x,t,rfl,rfl⟩
  ·rcases lN hv with ⟨j,rfl,rfl⟩|⟨y,u,rfl,rfl⟩
   ·rw[PM]at h;exact JM i j _ _ _ _ h
   ·rw[Lo]at h;exact JN i y u _ _ _ _ h
  ·rcases lN hv with ⟨j,rfl,rfl⟩|⟨y,u,rfl,rfl⟩
   ·rw[ME]at h;exact JO x t j _ _ _ _ h
   ·rw[L7]at h;exact wpAny_eqBool_str h
 «strs»:=λk x t v h=>by
  rcases lN h with ⟨i,rfl,e⟩|⟨y,u,rfl,e⟩
  ·exact nomatch e
  ·injection e with e1 _;subst e1;cases v<;>rfl
theorem M3(prog:bg)(w:aY)(i:Bool):(gN prog w).is (.inl i) (.bool i)=true:=Oy i
theorem Nk(prog:bg)(w:aY)(x:Str)(t:Tok):(gN prog w).is (.inr x) (.str x t)=true:=QL x t
inductive V where
 |non|bl (b:Bool)|int (i:Int)|str (x:Str)|byt (b:Array UInt8)|flt (b:UInt64)|ref (a:ah)|ty (n:String)
 deriving DecidableEq
def RelV:V->ag->Prop
 |.non,u=>u=eE
 |.bl b,u=>u=jw b
 |.int i,u=>∃t,u=xk i t
 |.str x,u=>∃t,u=mx x t
 |.byt b,u=>∃t,u=Value.bytes b t
 |.flt b,u=>∃t,u=BF b t
 |.ref a,u=>u=b8 a
 |.ty n,u=>u=um n
abbrev Vals:List V->List ag->Prop:=nK RelV
theorem Vals.length{xs:List V}{us:List ag}(r:Vals xs us):xs.length=us.length:=rJ r
theorem Vals.get:∀{xs:List V} {us:List ag} {i:Nat} {x:V},Vals xs us->xs[i]? = ab x->∃u,us[i]? = ab u/\RelV x u
 |_,_,_,_,.nil,e=>by simp at e
 |_,_,0,_,.cons r _,e=>by simp at e;subst e;exact⟨_,rfl,r⟩
 |_,_,i+1,x,.cons _ t,e=>by
  obtain⟨u,h1,h2⟩:=Vals.get (i:=i) (x:=x) t (by simpa using e);exact⟨u,by simpa using h1,h2⟩
theorem Vals.append:∀{xs ys:List V} {us ws:List ag},Vals xs us->Vals ys ws->Vals (xs++ys) (us++ws)
 |_,_,_,_,.nil,s=>s
 |_,_,_,_,.cons r t,s=>.cons r (Vals.append t s)
theorem Vals.take:∀{xs:List V} {us:List ag} (n:Nat),Vals xs us->Vals (xs.take n) (us.take n)
 |_,_,0,_=>.nil
 |_,_,_+1,.nil=>.nil
 |_,_,n+1,.cons r t=>.cons r (Vals.take n t)
theorem Vals.drop:∀{xs:List V} {us:List ag} (n:Nat),Vals xs us->Vals (xs.drop n) (us.drop n)
 |_,_,0,r=>r
 |_,_,_+1,.nil=>.nil
 |_,_,n+1,.cons _ t=>Vals.drop n t
def oC:Option V->Option ag->Prop
 |some v,ab u=>RelV v u
 |none,ae=>True
 |_,_=>False
def KV{κ:Type}:List (κ×V)->List (κ×ag)->Prop:=nK λ(p:κ×V) (q:κ×ag)=>p.1=q.1/\RelV p.2 q.2
def kV:Key->V
 |.inl i=>.bl i
 |.inr x=>.str x
def oP(h:aI)(a:ah)(aj:Array ag):Prop:=∃o,h.get? a=ab o/\o.cls=.type "tuple" /\ o.dict=ae/\∃n,o.data=.seq aj n
theorem oP.tup{h:aI}{a:ah}{aj:Array ag}(x:oP h a aj):IsTup h a aj:=let ⟨o,e,c,_,d⟩:=x;⟨o,e,c,d⟩
theorem oP.new(h:aI)(aj:Array ag):oP (h.push { cls:=.type "tuple", data:=.seq aj }) h.objs.size aj:=⟨_,bS _ rfl,rfl,rfl,_,rfl⟩
inductive HO where
 /-- a list -/
 |lst (xs:List V)
 /-- a tuple (never changes) -/
 |tup (xs:List V)
 /-- a dict whose keys are ints and texts;one whose keys are tuples of ints and texts (the empty one is both) -/
 |dK (am:List (Key×V))|dT (am:List (List Key×V))
 /-- a set of ints: aj members,aj size -/
 |set (S:Int->Bool) (n:Nat)
 /-- an instance of the class at C,aj dict at dx,aj attributes -/
 |ins (C dx:ah) (fs:List (Str×V))
 /-- the dict of the instance at x -/
 |own (x:ah)
 /-- the dict of an exception -/
 |xd (fs:List (Str×V))
 /-- a bound method,f of x -/
 |met (f x:ah)
 /-- a range object lo,lo+1,.. below hi -/
 |rng (lo hi:Int)
 /-- a thing that is known to the object (the script;a dict while a loop walks it): read,never written while it is so -/
 |frz (o:Obj) (u:HO)
 /-- a code object's table -/
 |tbl (w:Str) (ps:Array ag)
 /-- any other thing,by what is true of aj one object (a def of one's own: Sq a S n:=HO.ext λh=>..) -/
 |ext (φ : aI->Prop)
abbrev Hp:=ah->Option HO
def upd(H:Hp)(a:ah)(o:HO):Hp:=λb=>if b=a then ab o else H b
theorem bj{H:Hp}{a:ah}{o:HO}:upd H a o a=ab o:=by unfold upd;rw[aH rfl]
theorem aC{H:Hp}{a b:ah}{o:HO}(h:b≠a):upd H a o b=H b:=by unfold upd;rw[ay h]
theorem Pd{H:Hp}{a b:ah}{o u:HO}(h:H a=ab o)(h':H b=ab u)(d:o≠u):a≠b:=by intro e;subst e;rw[h]at h';exact d (gi h')
theorem cJ{H:Hp}{a b:ah}{o:HO}(h:H a=ab o)(h':H b=ae):a≠b:=by intro e;subst e;rw[h]at h';cases h'
section
variable(P:bg)(w:aY)
def bQ(H:Hp)(h:aI)(a:ah):HO->Prop
 |.lst xs=>xs.length<=sizeLine/\∃(aj:List ag) (n:Nat),Vals xs aj/\h.get? a=ab { cls:=.type "list", data:=.seq aj.toArray n }
 |.tup xs=>xs.length<=sizeLine/\∃aj:List ag,Vals xs aj/\oP h a aj.toArray
 |.dK am=>am.length<=sizeLine/\(a==sysModules)=false/\∃vs,KV am vs/\h.DictOf (gN P w) a vs
 | .dT am=>am.length<=sizeLine/\(a==sysModules)=false/\∃xs:List (List Key×ah×ag),
  nK (λ(p:List Key×V) (q:List Key×ah×ag)=>p.1=q.1/\H q.2.1=ab (.tup (p.1.map kV))/\RelV p.2 q.2.2) am xs /\
  ∃o es ep,h.get? a=ab o/\o.ExactDict/\o.data=.dict es ep/\es.toList=xs.map (entryOfKey (tupleKind (gN P w)))/\(xs.map (·.1)).Nodup
 |.set S n=>h.SetOf (intKind P w) a S n
 | .ins C dx fs=>H dx=ab (.own a)/\fs.length<=1000/\dx≠a/\h.get? a=ab (Bj C dx) /\
  ∃mA,h.Ns1 dx mA/\(∀f,oC (fs.lookup f) (mA f))/\PySem.Within mA (fs.map (·.1))
 |.own _=>∃o,h.get? a=ab o
 |.xd fs=>∃mA,h.Ns1 a mA/\∀f,oC (fs.lookup f) (mA f)
 |.rng lo hi=>∃t u v,h.get? a=ab { cls:=.type "range", data:=.fields #[.int lo t,.int hi u,.int 1 v] }
 |.frz o u=>h.get? a=ab o/\bQ H h a u
 |.tbl _ ps=>h.get? a=ab { cls:=.none,data:=.fields ps }
 |.met f x=>h.get? a=ab (Bi (.ref f) (.ref x))
 |.ext φ=>φ h/\(∃o,h.get? a=ab o)/\∀h1 h2:aI,φ h1->(∀o,h1.get? a=ab o->h2.get? a=ab o)->φ h2
def cX(H:Hp)(h:aI):Prop:=∀a o,H a=ab o->bQ P w H h a o
end
section
variable{P:bg}{w:aY}{H H':Hp}{h h':aI}{a:ah}{o:HO}
theorem bQ.lt(x:bQ P w H h a o):a<h.objs.size:=by
 cases o with
 |lst xs=>obtain⟨_,_,_,_,e⟩:=x;exact bR e
 |tup xs=>obtain⟨_,_,_,p⟩:=x;exact p.tup.lt
 |dK am=>obtain⟨_,_,_,_,o,_,_,e,_⟩:=x;exact bR e
 |dT am=>obtain⟨_,_,_,_,o,_,_,e,_⟩:=x;exact bR e
 |set S n=>obtain⟨o,_,_,_,e,_⟩:=x;exact bR e
 |ins C dx fs=>obtain⟨_,_,_,e,_⟩:=x;exact bR e
 |own y=>obtain⟨_,e⟩:=x;exact bR e
 |xd fs=>obtain⟨_,⟨_,_,_,e,_⟩,_⟩:=x;exact bR e
 |rng lo hi=>obtain⟨_,_,_,e⟩:=x;exact bR e
 |frz ob u=>obtain⟨e,_⟩:=x;exact bR e
 |tbl w ps=>exact bR (show h.get? a=ab _ from x)
 |met f y=>exact bR (show h.get? a=ab _ from x)
 |ext φ=>obtain⟨_,⟨_,e⟩,_⟩:=x;exact bR e
theorem Paired.Ai{α β:Type}{F G:α->β->Prop}:∀{l₁:List α} {l₂:List β},nK F l₁ l₂->(∀a b,F a b->G a b)->nK G l₁ l₂
 |_,_,.nil,_=>.nil
 |_,_,.cons r t,f=>.cons (f _ _ r) (Paired.Ai t f)
theorem bQ.stay(x:bQ P w H h a o)(k:∀b u,(b=a\/H b=ab (.own a))->h.get? b=ab u->h'.get? b=ab u)
 (ho:∀b,H b=ab (.own a)->H' b=ab (.own a)) (ht:∀b xs,H b=ab (.tup xs)->H' b=ab (.tup xs)):bQ P w H' h' a o:=by
 induction o with
 |lst xs=>obtain⟨z,aj,n,r,e⟩:=x;exact⟨z,aj,n,r,k _ _ (.inl rfl) e⟩
 |tup xs=>obtain⟨z,aj,r,ob,e,c⟩:=x;exact⟨z,aj,r,ob,k _ _ (.inl rfl) e,c⟩
 |dK am=>obtain⟨z,y,vs,r,ob,es,ep,e,c⟩:=x;exact⟨z,y,vs,r,ob,es,ep,k _ _ (.inl rfl) e,c⟩
 |dT am=>
  obtain⟨z,y,xs,r,ob,es,ep,e,c⟩:=x;exact⟨z,y,xs,Paired.Ai r λp q z=>⟨z.1,ht _ _ z.2.1,z.2.2⟩,ob,es,ep,k _ _ (.inl rfl) e,c⟩
 |set S n=>obtain⟨ob,es,ep,t,e,c⟩:=x;exact⟨ob,es,ep,t,k _ _ (.inl rfl) e,c⟩
 |ins C dx fs=>
  obtain⟨d,z,ne,e,mA,⟨od,es,ep,e2,c⟩,r⟩:=x;exact⟨ho _ d,z,ne,k _ _ (.inl rfl) e,mA,⟨od,es,ep,k _ _ (.inr d) e2,c⟩,r⟩
 |own y=>obtain⟨ob,e⟩:=x;exact⟨ob,k _ _ (.inl rfl) e⟩
 |xd fs=>obtain⟨mA,⟨od,es,ep,e,c⟩,r⟩:=x;exact⟨mA,⟨od,es,ep,k _ _ (.inl rfl) e,c⟩,r⟩
 |rng lo hi=>obtain⟨t,u,v,e⟩:=x;exact⟨t,u,v,k _ _ (.inl rfl) e⟩
 |frz ob u ih=>obtain⟨e,q⟩:=x;exact⟨k _ _ (.inl rfl) e,ih q⟩
 |tbl w ps=>
  have e:h.get? a=ab { cls:=.none,data:=.fields ps }:=x;show h'.get? a=ab { cls:=.none,data:=.fields ps };exact k a _ (.inl rfl) e
 |met f y=>
  have e:h.get? a=ab (Bi (.ref f) (.ref y)):=x;show h'.get? a=ab (Bi (.ref f) (.ref y));exact k a _ (.inl rfl) e
 |ext φ=>obtain⟨p,⟨o,e⟩,st⟩:=x;exact⟨st _ _ p λo q=>k _ _ (.inl rfl) q,⟨o,k _ _ (.inl rfl) e⟩,st⟩
theorem cX.lt(x:cX P w H h)(e:H a=ab o):a<h.objs.size:=(x a o e).lt
theorem cX.fresh(x:cX P w H h)(e:h.objs.size<=a):H a=ae:=by
 cases q:H a with
 |none=>rfl
 |some u=>exact absurd (g7 (x.lt q) e) (jv _)
theorem cX.kept(x:cX P w H h)(k:∀b u,h.get? b=ab u->h'.get? b=ab u):cX P w H h':=λa o e=>
 (x a o e).stay (λb u _ q=>k b u q) (λ_ q=>q) λ_ _ q=>q
theorem cX.laid(x:cX P w H h)(k:∀b u,h.get? b=ab u->h'.get? b=ab u)(hp:h.objs.size<=a)(new:bQ P w (upd H a o) h' a o):cX P w (upd H a o) h':=λb u e=>by
 have hn:=x.fresh hp;by_cases hb:b=a
 ·subst hb;rw[bj]at e;cases e;exact new
 ·rw[aC hb]at e;exact(x b u e).stay (λc v _ q=>k c v q) (λc q=>by rw[aC (cJ q hn)];exact q) λc xs q=>by rw[aC (cJ q hn)];exact q
end
def Rd(H:Hp)(a:ah)(u:HO):Prop:=H a=ab u\/∃o,H a=ab (.frz o u)
theorem Rd.ok{P:bg}{w:aY}{H:Hp}{h:aI}{a:ah}{u:HO}(r:Rd H a u)(x:cX P w H h):bQ P w H h a u:=by
 rcases r with r|⟨o,r⟩
 ·exact x a u r
 ·obtain⟨_,q⟩:=x a _ r;exact q
def rP:Option HO->Prop
 |some (.lst _)=>True
 |some (.dK _)=>True
 |some (.dT _)=>True
 |some (.set _ _)=>True
 |some (.ins _ _ _)=>True
 |some (.ext _)=>True
 |_=>False
section
variable{P:bg}{w:aY}{H:Hp}{h h':aI}{x e:ah}{o':HO}
theorem cX.write(ok:cX P w H h)(mu:rP (H x))(he:e=x\/H e=ab (.own x))(k:∀b u,b≠e->h.get? b=ab u->h'.get? b=ab u)(heo:∃u,h'.get? e=ab u)
 (new:bQ P w (upd H x o') h' x o'):cX P w (upd H x o') h':=λb u q=>by
 have JQ:∀c y,H c=ab (.own y)->c≠x:=λc y r z=>by subst z;rw[r]at mu;exact mu
 have RN:∀c xs,H c=ab (.tup xs)->c≠x:=λc xs r z=>by subst z;rw[r]at mu;exact mu
 by_cases hb:b=x
 ·subst hb;rw[bj]at q;cases q;exact new
 ·rw[aC hb]at q;by_cases hbe:b=e
  ·have q':H b=ab (.own x):=by
    rcases he with z|z
    ·exact absurd (hbe.trans z) hb
    ·rw[hbe];exact z
   rw[q]at q';cases q';obtain⟨v,hv⟩:=heo;exact⟨v,by rw[hbe];exact hv⟩
  ·refine(ok b u q).stay (λc v hc r=>k c v ?_ r) (λc r=>by rw[aC (JQ c b r)];exact r) λc xs r=>by rw[aC (RN c xs r)];exact r
   rcases hc with rfl|hc
   ·exact hbe
   ·rintro rfl;rcases he with z|z
    ·exact JQ c b hc z
    ·rw[hc]at z;cases z;exact hb rfl
end
structure Un(fs ex:List ah)(H H':Hp)(h h':aI):Prop where
 keep:∀b o,h.get? b=ab o->H b=ae->b∉fs->b∉ex->h'.get? b=ab o
 slot:∀b o,h.get? b=ab o->H b=ae->b∈fs->b∉ex->∃sl,h'.get? b=ab { o with slots:=sl }
 free:∀b o,h.get? b=ab o->H b=ae->b∉ex->H' b=ae
 there:∀b o,h.get? b=ab o->b∉ex->∃o',h'.get? b=ab o'
 tups:∀b xs,H b=ab (.tup xs)->H' b=ab (.tup xs)
 lz:∀b o u,H b=ab (.frz o u)->H' b=ab (.frz o u)
 lA:∀b w ps,H b=ab (.tbl w ps)->∃more,H' b=ab (.tbl w (ps++more))
section
variable{fs fs' ex ex':List ah}{H H1 H2:Hp}{h h1 h2 h':aI}{a x e:ah}{o:HO}
theorem Un.any(u:Un fs ex H H1 h h1){b:ah}{ob:Obj}(q:h.get? b=ab ob)(n:H b=ae)(hx:b∉ex):∃sl,h1.get? b=ab { ob with slots:=sl }:=by
 by_cases hb:b∈fs
 ·exact u.slot b ob q n hb hx
 ·exact⟨ob.slots,u.keep b ob q n hb hx⟩
theorem Un.kept(k:∀b u,h.get? b=ab u->h'.get? b=ab u):Un fs ex H H h h':=⟨λb ob q _ _ _=>k b ob q,λb ob q _ _ _=>⟨ob.slots,k b ob q⟩,λ_ _ _ n _=>n,λb ob q _=>⟨ob,k b ob q⟩,λ_ _ q=>q,λ_ _ _ q=>q,λ_ w ps q=>⟨#[],by rw[q];simp⟩⟩
theorem Un.refl:Un fs ex H H h h:=Un.kept λ_ _ q=>q
theorem Un.laid(k:∀b u,h.get? b=ab u->h'.get? b=ab u)(hp:h.objs.size<=a)(hn:H a=ae):Un fs ex H (upd H a o) h h' where
 keep:=λb u q _ _ _=>k b u q
 slot:=λb u q _ _ _=>⟨u.slots,k b u q⟩
 free:=λb u q n _=>by rw[aC (gh (g7 (bR q) hp))];exact n
 there:=λb u q _=>⟨u,k b u q⟩
 tups:=λb xs q=>by rw[aC (cJ q hn)];exact q
 lz:=λb u xs q=>by rw[aC (cJ q hn)];exact q
 lA:=λb w ps q=>⟨#[],by rw[aC (cJ q hn),q];simp⟩
theorem Un.write(mu:rP (H x))(he:e=x\/H e=ab (.own x))(k:∀b u,b≠e->h.get? b=ab u->h'.get? b=ab u)(heo:∃u,h'.get? e=ab u):Un fs ex H (upd H x o) h h':=by
 have hx:∀b,H b=ae->b≠x:=λb n z=>by subst z;rw[n]at mu;exact mu
 have hb:∀b,H b=ae->b≠e:=λb n z=>by
  subst z;rcases he with r|r
  ·exact hx b n r
  ·rw[n]at r;cases r
 have hm:∀b u,H b=ab u->¬ rP (ab u)->b≠x:=λb u q nm z=>by subst z;rw[q]at mu;exact nm mu
 refine⟨λb u q n _ _=>k b u (hb b n) q,λb u q n _ _=>⟨u.slots,k b u (hb b n) q⟩,λb u q n _=>by rw[aC (hx b n)];exact n,λb u q _=>?_,
  λb xs q=>by rw[aC (hm b _ q λz=>z)];exact q,λb u xs q=>by rw[aC (hm b _ q λz=>z)];exact q,λb w ps q=>⟨#[],by rw[aC (hm b _ q λz=>z),q];simp⟩⟩
 by_cases hbe:b=e
 ·subst hbe;exact heo
 ·exact⟨u,k b u hbe q⟩
end
def uM(h:aI)(H:Hp):List ah:=(bw h.objs.size).filter λa=>(H a).isSome
def jW(h:aI)(H:Hp):aI:=PySem.W.hideAll h (uM h H)
theorem Na(h:aI)(H:Hp):(jW h H).objs.size=h.objs.size:=PySem.W.hideAll_size _ _
theorem NO{h:aI}{H:Hp}{b:ah}{o:Obj}(e:h.get? b=ab o)(n:H b=ae):(jW h H).get? b=ab o:=
 PySem.W.hideAll_get _ e λhm=>by
  have q:(H b).isSome=true:=(fG.mp hm).2;rw[n]at q;simp at q
theorem NJ{h:aI}{H:Hp}{b:ah}{o:Obj}(e:(jW h H).get? b=ab o):h.get? b=ab o/\H b=ae:=by
 have e':h.get? b=ab o:=PySem.W.of_hideAll (uM h H) e;refine⟨e',?_⟩;cases q:H b with
 |none=>rfl
 |some x=>
  have hm:b∈uM h H:=fG.mpr ⟨en.mpr (bR e'),by simp[q]⟩;have z:(jW h H).get? b=ae:=PySem.W.hideAll_none (uM h H) hm;rw[z]at e;cases e
structure Mod(K:aE)(mg:Str->Option ag)(base:aI):Prop where
 kin:K.In base
 glob:base.Ns mainGlobals mg
 blt:∃mb,base.Ns builtinsNs mb/\∀x:Str,x ≠ "__name__" -> mb x=bootBuiltins x
 nolimit:base.NoLimit
structure Cx where
 prog:bg
 w:aY
 K:aE
 mg:Str->Option ag
 base:aI
 A:bv
 N:List Str
 s₀:ao
 H₀:Hp
 env:Env
 outer:List Env
 stack:List Env
 ex:List ah
 fn:Str->Bool
 calm:Bool
 pn:List (ah×Obj)
 xe:ag->ao->Prop
def frs(l:List Env):List ah:=l.filterMap (·.frame)
abbrev Cx.fs(X:Cx):List ah:=frs X.outer
def sC(sc:eY)(x:Str):Prop:=sc.names.lookup x=ab .local\/sc.names.lookup x=ab .cell\/sc.names.lookup x=ab .free
def Loc(sc:eY)(x:Str):Prop:=sc.names.lookup x=ab .local\/sc.names.lookup x=ab .cell
def Look(env:Env)(h:aI)(m:Str->Option ag)(x:Str)(u:ag):Prop:=(env.kindOf x=ab .local/\m x=ab u)\/((env.kindOf x=ab .cell\/env.kindOf x=ab .free)/\∃c,env.cells.lookup x=ab c/\h.IsCell c (ab u))
structure Cx.Ok(X:Cx):Prop where
 mod:Mod X.K X.mg X.base
 kind:X.env.scope.kind=.function
 glob:X.env.globals=mainGlobals
 blt:X.env.builtins=builtinsNs
 above:X.s₀.heap.objs.size<=X.env.locals
 inj:∀x y c,X.env.cells.lookup x=ab c->X.env.cells.lookup y=ab c->x=y
 has:∀x,(X.env.kindOf x=ab .cell\/X.env.kindOf x=ab .free)->∃c,X.env.cells.lookup x=ab c
 cab:∀x c,X.fn x=true->X.env.cells.lookup x=ab c->X.s₀.heap.objs.size<=c
 hd:X.calm=true->X.A.handled=ae
 frames:X.A.frames=ab X.stack
 stk:X.stack=X.outer\/(X.stack=X.env::X.outer/\X.env.frame=ab X.env.locals)
 exf:∀b∈X.ex,b≠X.env.locals/\∀x c,X.env.cells.lookup x=ab c->c≠b
 bs:∀b o,X.base.get? b=ab o->X.s₀.heap.get? b=ab o/\X.H₀ b=ae
 bsz:X.base.objs.size<=X.s₀.heap.objs.size
 uw:∀b o,X.base.get? b=ab o->b∉X.ex
 xC:∀b∈X.ex,b∉X.fs
 km:X.s₀.heap.FunFrames X.base X.outer
 frf:∀b∈X.fs,X.H₀ b=ae
structure Inv(X:Cx)(af:List (ah×Obj))(σ:List (Option V))(H:Hp)(s:ao):Prop where
 ok:X.Ok
 os:s.os=X.s₀.os
 bare:nW s.gens
 base:Un X.fs X.ex X.H₀ H X.s₀.heap s.heap
 loc:∃m,s.heap.Ns X.env.locals m/\∀(i:Nat) (x:Str) (v:V),X.N[i]? = ab x->σ[i]? = ab (ab v)->sC X.env.scope x->∃u,RelV v u/\Look X.env s.heap m x u
 cell:∀x c,X.env.cells.lookup x=ab c->∃v,s.heap.IsCell c v
 free:H X.env.locals=ae
 jx:∀x c,X.env.cells.lookup x=ab c->H c=ae
 pin:∀p∈X.pn++af,s.heap.get? p.1=ab p.2/\H p.1=ae/\p.1≠X.env.locals/\p.1∉X.fs/\∀v,p.2.data≠.cell v
 hok:cX X.prog X.w H s.heap
 len:σ.length=X.N.length
section
variable{X:Cx}{af:List (ah×Obj)}{σ:List (Option V)}{H H':Hp}{s:ao}{h':aI}
theorem Cx.Ok.ON(ok:X.Ok){b:ah}{o:Obj}(e:X.base.get? b=ab o):b∉X.fs:=λhb=>by
 have:=(ok.km.mem hb).1;rw[e]at this;cases this
theorem Inv.bs(I:Inv X af σ H s):∀b o,X.base.get? b=ab o->s.heap.get? b=ab o/\H b=ae:=λb o e=>
 ⟨I.base.keep b o (I.ok.bs b o e).1 (I.ok.bs b o e).2 (I.ok.ON e) (I.ok.uw b o e),I.base.free b o (I.ok.bs b o e).1 (I.ok.bs b o e).2 (I.ok.uw b o e)⟩
theorem Inv.bk(I:Inv X af σ H s):∀b o,X.base.get? b=ab o->s.heap.get? b=ab o:=λb o e=>(I.bs b o e).1
theorem Inv.mod(I:Inv X af σ H s):Mod X.K X.mg X.base:=I.ok.mod
theorem Inv.gp(I:Inv X af σ H s):X.K.In s.heap:=I.ok.mod.kin.keeps I.bk
theorem Inv.nolimit(I:Inv X af σ H s):s.heap.NoLimit:=I.ok.mod.nolimit.keeps I.bk
theorem Inv.lt(I:Inv X af σ H s):X.env.locals<s.heap.objs.size:=let ⟨_,hn,_⟩:=I.loc;hn.lt
theorem Inv.sz(I:Inv X af σ H s):X.s₀.heap.objs.size<=s.heap.objs.size:=dw I.ok.above (ui I.lt)
theorem Inv.Qo(I:Inv X af σ H s){a:ah}(h:s.heap.objs.size<=a):a∉X.fs:=λhb=>by
 obtain⟨_,o,ho,_⟩:=I.ok.km.mem hb;exact absurd (g7 (bR ho) (dw I.sz h)) (jv _)
theorem Inv.oh(I:Inv X af σ H s):∀x c,X.env.cells.lookup x=ab c->c≠X.env.locals:=λx c e z=>by
 obtain⟨v,o,ho,hd⟩:=I.cell x c e;obtain⟨m,⟨o',es,ep,ho',hd',_⟩,_⟩:=I.loc;rw[z,ho']at ho;cases ho;rw[hd']at hd;cases hd
theorem Inv.km(I:Inv X af σ H s):s.heap.FunFrames X.base X.outer:=by
 have all:∀(l:List Env),(∀b∈frs l,b∈X.fs)->X.s₀.heap.FunFrames X.base l->s.heap.FunFrames X.base l:=by
  intro l
  induction l with
  |nil=>intro _ _;trivial
  |cons env r ih=>
   intro hs hl;obtain⟨hk,⟨L,o,hf,hn,ho,hd⟩,hr⟩:=hl;have hL:L∈X.fs:=hs L (by unfold frs;rw[A7,hf];exact ce);obtain⟨sl,e⟩:=I.base.slot L o ho (I.ok.frf L hL) hL λz=>I.ok.xC L z hL;exact⟨hk,⟨L,_,hf,hn,e,hd⟩,ih (λb hb=>hs b (by unfold frs;rw[A7,hf];exact c6 _ hb)) hr⟩
 exact all X.outer (λ_ hb=>hb) I.ok.km
theorem Inv.stack(I:Inv X af σ H s):s.heap.FunFrames X.base X.stack:=by
 rcases I.ok.stk with e|⟨e,hf⟩
 ·rw[e];exact I.km
 ·rw[e];obtain⟨m,hn,_⟩:=I.loc;refine .cons (by rw[I.ok.kind];decide) hf hn ?_ I.km;exact Heap.get?_none_of_le (dw I.ok.bsz I.ok.above)
theorem Inv.vP(I:Inv X af σ H s):∀b∈frs X.stack,b∈X.env.locals::X.fs:=λb hb=>by
 rcases I.ok.stk with e|⟨e,hf⟩
 ·rw[e]at hb;exact c6 _ hb
 ·rw[e]at hb;unfold frs at hb;rw[A7,hf]at hb;exact hb
theorem Inv.Aa(I:Inv X af σ H s):∀b∈frs X.stack,H b=ae:=λb hb=>by
 rcases bA.mp (I.vP b hb)with e|hb
 ·rw[e];exact I.free
 ·obtain⟨_,o,ho,_⟩:=I.ok.km.mem hb;exact I.base.free b o ho (I.ok.frf b hb) λz=>I.ok.xC b z hb
theorem Inv.step{g':Array GenState}{t':Nat}{d':Drawn}{ch:List ah}(I:Inv X af σ H s)
 (hch:∀b∈ch,(b∈X.ex\/X.s₀.heap.objs.size<=b)/\b≠X.env.locals/\(∀x c,X.env.cells.lookup x=ab c->c≠b)/\∀p∈X.pn++af,p.1≠b)
 (keep:∀b o,b≠X.env.locals->b∉X.fs->b∉ch->s.heap.get? b=ab o->H b=ae->h'.get? b=ab o)
 (slot:∀b o,b≠X.env.locals->b∈X.fs->b∉ch->s.heap.get? b=ab o->H b=ae->∃sl,h'.get? b=ab { o with slots:=sl }) (free:∀b o,b∉ch->s.heap.get? b=ab o->H b=ae->H' b=ae)
 (there:∀b o,b∉ch->s.heap.get? b=ab o->∃o',h'.get? b=ab o')
 (tups:∀b xs,H b=ab (.tup xs)->H' b=ab (.tup xs)) (lz:∀b o u,H b=ab (.frz o u)->H' b=ab (.frz o u)) (lA:∀b w ps,H b=ab (.tbl w ps)->∃more,H' b=ab (.tbl w (ps++more)))
 (ns:∀m,s.heap.Ns X.env.locals m->h'.Ns X.env.locals m) (hok:cX X.prog X.w H' h') (hg:nW g') :
 Inv X af σ H' { s with heap:=h',gens:=g',drawn:=d',toks:=t' }:=by
 have neL:∀b o,X.s₀.heap.get? b=ab o->b≠X.env.locals:=λb o e=>gh (g7 (bR e) I.ok.above);have neC:∀b o,X.s₀.heap.get? b=ab o->b∉X.ex->b∉ch:=λb o e hx hb=>by
  rcases(hch b hb).1 with z|z
  ·exact hx z
  ·exact absurd (g7 (bR e) z) (jv _)
 have cellK:∀x c,X.env.cells.lookup x=ab c->∀v,s.heap.IsCell c v->h'.IsCell c v:=λx c e v ⟨o,ho,hd⟩=>by
  have nch:c∉ch:=λz=>(hch c z).2.2.1 x c e rfl;by_cases hc:c∈X.fs
  ·obtain⟨sl,q⟩:=slot c o (I.oh x c e) hc nch ho (I.jx x c e);exact⟨_,q,hd⟩
  ·exact⟨o,keep c o (I.oh x c e) hc nch ho (I.jx x c e),hd⟩
 refine⟨I.ok,I.os,hg,⟨λb o e n hb hx=>?_,λb o e n hb hx=>?_,λb o e n hx=>?_,λb o e hx=>?_,λb xs e=>tups b xs (I.base.tups b xs e),λb o xs e=>lz b o xs (I.base.lz b o xs e),λb w ps e=>?_⟩,?_,λx c e=>?_,?_,λx c e=>?_,λp hp=>?_,hok,I.len⟩
 ·exact keep b o (neL b o e) hb (neC b o e hx) (I.base.keep b o e n hb hx) (I.base.free b o e n hx)
 ·obtain⟨sl,e1⟩:=I.base.slot b o e n hb hx;obtain⟨sl',e2⟩:=slot b _ (neL b o e) hb (neC b o e hx) e1 (I.base.free b o e n hx);exact⟨sl',e2⟩
 ·obtain⟨o',e1⟩:=I.base.there b o e hx;exact free b o' (neC b o e hx) e1 (I.base.free b o e n hx)
 ·obtain⟨o',e1⟩:=I.base.there b o e hx;exact there b o' (neC b o e hx) e1
 ·obtain⟨m1,e1⟩:=I.base.lA b w ps e;obtain⟨m2,e2⟩:=lA b w _ e1;exact⟨m1++m2,by rw[e2,Array.append_assoc]⟩
 ·obtain⟨m,hn,hl⟩:=I.loc;refine⟨m,ns m hn,λi x v e1 e2 e3=>?_⟩;obtain⟨u,r,l⟩:=hl i x v e1 e2 e3;refine⟨u,r,?_⟩;rcases l with l|⟨k,c,e,z⟩
  ·exact .inl l
  ·exact .inr ⟨k,c,e,cellK x c e _ z⟩
 ·obtain⟨v,z⟩:=I.cell x c e;exact⟨v,cellK x c e v z⟩
 ·obtain⟨m,⟨o,_,_,ho,_⟩,_⟩:=I.loc;exact free _ o (λz=>(hch _ z).2.1 rfl) ho I.free
 ·obtain⟨v,o,ho,hd⟩:=I.cell x c e;exact free c o (λz=>(hch c z).2.2.1 x c e rfl) ho (I.jx x c e)
 ·obtain⟨e,n,ne,nf,d⟩:=I.pin p hp;have nch:p.1∉ch:=λz=>(hch p.1 z).2.2.2 p hp rfl;exact⟨keep p.1 p.2 ne nf nch e n,free p.1 p.2 nch e n,ne,nf,d⟩
theorem Inv.un{t':Nat}(I:Inv X af σ H s)(u:Un X.fs [] H H' s.heap h')(hok:cX X.prog X.w H' h'):Inv X af σ H' { s with heap:=h',toks:=t' }:=by
 obtain⟨m,⟨o,es,ep,ho,r⟩,_⟩:=id I.loc;obtain⟨sl,hL⟩:=u.any ho I.free (by simp);exact I.step (g':=s.gens) (d':=s.drawn) (ch:=[]) (λ_ z=>nomatch z) (λb o _ hb _ e n=>u.keep b o e n hb (by simp)) (λb o _ hb _ e n=>u.slot b o e n hb (by simp)) (λb o _ e n=>u.free b o e n (by simp)) (λb o _ e=>u.there b o e (by simp)) u.tups u.lz u.lA (λm' hm=>by
  obtain⟨o',es',ep',ho',r'⟩:=hm;rw[ho]at ho';cases ho';exact⟨_,es',ep',hL,r'⟩) hok I.bare
theorem Inv.call{g':Array GenState}{t':Nat}{d':Drawn}{ch:List ah}(I:Inv X af σ H s)(u:Un (frs X.stack) ch H H' s.heap h')(hok:cX X.prog X.w H' h')(hg:nW g')
 (hch:∀b∈ch,(b∈X.ex\/X.s₀.heap.objs.size<=b)/\b≠X.env.locals/\(∀x c,X.env.cells.lookup x=ab c->c≠b)/\∀p∈X.pn++af,p.1≠b) :
 Inv X af σ H' { s with heap:=h',gens:=g',drawn:=d',toks:=t' }:=by
 obtain⟨m,⟨o,es,ep,ho,r⟩,_⟩:=id I.loc;obtain⟨sl,hL⟩:=u.any ho I.free λz=>(hch _ z).2.1 rfl;exact I.step (ch:=ch) hch (λb o hL hb hc e n=>u.keep b o e n (λz=>(bA.mp (I.vP b z)).elim hL hb) hc) (λb o _ _ hc e n=>u.any e n hc) (λb o hc e n=>u.free b o e n hc) (λb o hc e=>u.there b o e hc) u.tups u.lz u.lA (λm' hm=>by
  obtain⟨o',es',ep',ho',r'⟩:=hm;rw[ho]at ho';cases ho';exact⟨_,es',ep',hL,r'⟩) hok hg
theorem Inv.turned{t':Nat}{it:ah}(I:Inv X af σ H s)(k:∀b o,b≠it->s.heap.get? b=ab o->h'.get? b=ab o)(hn:H it=ae)(hL:it≠X.env.locals)
 (h1:it∈X.ex\/X.s₀.heap.objs.size<=it) (h2:∀x c,X.env.cells.lookup x=ab c->c≠it) (h3:∀p∈X.pn++af,p.1≠it):Inv X af σ H { s with heap:=h',toks:=t' }:=by
 have nit:∀b u,H b=ab u->b≠it:=λb u e z=>by rw[z,hn]at e;cases e
 refine I.step (g':=s.gens) (d':=s.drawn) (ch:=[it]) (λb hb=>?_) (λb o _ _ hc e _=>k b o (λz=>hc (by simp[z])) e) (λb o _ _ hc e _=>⟨o.slots,k b o (λz=>hc (by simp[z])) e⟩) (λ_ _ _ _ n=>n)
  (λb o hc e=>⟨o,k b o (λz=>hc (by simp[z])) e⟩) (λ_ _ e=>e) (λ_ _ _ e=>e) (λb w ps e=>⟨#[],by rw[e];simp⟩) (λm hm=>?_) (λb u e=>?_) I.bare
 ·have e:b=it:=by simpa using hb
  subst e;exact⟨h1,hL,h2,h3⟩
 ·obtain⟨o,es,ep,ho,r⟩:=hm;exact⟨o,es,ep,k _ o (cR hL) ho,r⟩
 ·refine(I.hok b u e).stay (λc v hc q=>k c v ?_ q) (λ_ q=>q) λ_ _ q=>q;rcases hc with z|z
  ·rw[z];exact nit b u e
  ·exact nit c _ z
theorem Inv.tok(I:Inv X af σ H s)(t:Nat):Inv X af σ H { s with toks:=t }:=I.un (h':=s.heap) (t':=t) Un.refl I.hok
theorem Inv.kept{t':Nat}(I:Inv X af σ H s)(k:∀b u,s.heap.get? b=ab u->h'.get? b=ab u):Inv X af σ H { s with heap:=h',toks:=t' }:=I.un (Un.kept k) (I.hok.kept k)
theorem Inv.laid{a:ah}{o:HO}{t':Nat}(I:Inv X af σ H s)(k:∀b u,s.heap.get? b=ab u->h'.get? b=ab u)(hp:s.heap.objs.size<=a)(new:bQ X.prog X.w (upd H a o) h' a o) :
 Inv X af σ (upd H a o) { s with heap:=h',toks:=t' }:=I.un (Un.laid k hp (I.hok.fresh hp)) (I.hok.laid k hp new)
theorem Inv.write{x e:ah}{o:HO}{t':Nat}(I:Inv X af σ H s)(mu:rP (H x))(he:e=x\/H e=ab (.own x))(k:∀b u,b≠e->s.heap.get? b=ab u->h'.get? b=ab u)(heo:∃u,h'.get? e=ab u)
 (new:bQ X.prog X.w (upd H x o) h' x o):Inv X af σ (upd H x o) { s with heap:=h',toks:=t' }:=I.un (Un.write mu he k heo) (I.hok.write mu he k heo new)
theorem Inv.weak{σ':List (Option V)}(I:Inv X af σ H s)(hl:σ'.length = σ.length)(w:∀(i:Nat) v,σ'[i]? = ab (ab v)->σ[i]? = ab (ab v)):Inv X af σ' H s:=⟨I.ok,I.os,I.bare,I.base,let ⟨m,hn,hl'⟩:=I.loc;⟨m,hn,λi x v e1 e2 e3=>hl' i x v e1 (w i v e2) e3⟩,I.cell,I.free,I.jx,I.pin,I.hok,hl.trans I.len⟩
theorem Inv.zA{rK:List (ah×Obj)}(I:Inv X af σ H s)(h:∀p∈rK,s.heap.get? p.1=ab p.2/\H p.1=ae/\p.1≠X.env.locals/\p.1∉X.fs/\∀v,p.2.data≠.cell v):Inv X rK σ H s:=⟨I.ok,I.os,I.bare,I.base,I.loc,I.cell,I.free,I.jx,λp hp=>(fk.mp hp).elim (λz=>I.pin p (ku _ z)) (h p),I.hok,I.len⟩
theorem GC{N:List Str}(hN:N.Nodup){i j:Nat}{x:Str}(a:N[i]? = ab x)(b:N[j]? = ab x):i=j:=by obtain⟨h1,e1⟩:=cu.mp a;obtain⟨h2,e2⟩:=cu.mp b;exact(rB hN).mp (e1.trans e2.symm)
theorem DX{M:Model}{A:bv}{E:ag->ao->Prop}{i:Nat}{x:Str}{v:V}{u:ag}{Q:Unit->ao->Prop}(I:Inv X af σ H s)(hN:X.N.Nodup)(hi:X.N[i]? = ab x)(hx:Loc X.env.scope x)(r:RelV v u)
 (h:∀s',Inv X af (σ.set i (ab v)) H s'->(∃a,mo a s.heap s'.heap/\(a=X.env.locals\/X.env.cells.lookup x=ab a))->Q () s') (hf:X.fn x=true\/X.env.scope.names.lookup x=ab .local:=by first|exact .inl rfl|exact .inr rfl|assumption):wpAny M A (storeName X.env x u) Q E s:=by
 obtain⟨m,hn,hl⟩:=id I.loc;have hcls:(X.env.scope.kind==.class||(X.env.scope.kind==.module&&X.env.locals != X.env.globals))=false:=by rw[I.ok.kind];rfl
 have hiσ:i < σ.length:=by rw[I.len];exact(cu.mp hi).1
 have oh:=I.oh;have tracked:∀{a:ah} {h':aI},(∃o,s.heap.get? a=ab o/\H a=ae)->mo a s.heap h'->cX X.prog X.w H h':=λ{a h'} ha hs b ob e=>by
  obtain⟨_,_,hfree⟩:=ha;refine(I.hok b ob e).stay (λc w' hc q=>(hs.2 c ?_).trans q) (λ_ q=>q) λ_ _ q=>q;rintro rfl;rcases hc with rfl|hc
  ·rw[hfree]at e;cases e
  ·rw[hfree]at hc;cases hc
 rcases hx with hk|hk
 ·refine wpAny_storeName_local hk hn (λh' hn' hs=>?_) hcls;obtain⟨oL,_,_,hoL,_⟩:=id hn;refine h _ ⟨I.ok,I.os,I.bare,⟨λb o e n hb hx=>?_,λb o e n hb hx=>?_,I.base.free,λb o e hx=>?_,I.base.tups,I.base.lz,I.base.lA⟩,⟨_,hn',λj y v' e1 e2 e3=>?_⟩,λy c e=>?_,I.free,I.jx,λp hp=>?_,tracked ⟨oL,hoL,I.free⟩ hs,by simpa using I.len⟩ ⟨_,hs,.inl rfl⟩
  ·exact(hs.2 b (gh (g7 (bR e) I.ok.above))).trans (I.base.keep b o e n hb hx)
  ·obtain⟨sl,e1⟩:=I.base.slot b o e n hb hx;exact⟨sl,(hs.2 b (gh (g7 (bR e) I.ok.above))).trans e1⟩
  ·obtain⟨o',e1⟩:=I.base.there b o e hx;exact⟨o',(hs.2 b (gh (g7 (bR e) I.ok.above))).trans e1⟩
  ·by_cases hj:j=i
   ·subst hj;rw[hi]at e1;cases e1;rw[mf hiσ]at e2;cases e2;exact⟨u,r,.inl ⟨hk,by simp⟩⟩
   ·rw[fi (cR hj)]at e2;obtain⟨u',r',q⟩:=hl j y v' e1 e2 e3;refine⟨u',r',?_⟩;rcases q with ⟨k,e⟩|⟨k,c,e,z⟩
    ·refine .inl ⟨k,?_⟩;have:y≠x:=λe=>hj (GC hN e1 (e ▸ hi));simp[this,e]
    ·exact .inr ⟨k,c,e,z.sameBut hs (oh y c e)⟩
  ·obtain⟨w',z⟩:=I.cell y c e;exact⟨w',z.sameBut hs (oh y c e)⟩
  ·obtain⟨e,n,ne,nf,d⟩:=I.pin p hp;exact⟨(hs.2 p.1 ne).trans e,n,ne,nf,d⟩
 ·have hfn:X.fn x=true:=by
   rcases hf with z|z
   ·exact z
   ·rw[z]at hk;cases hk
  obtain⟨c,hc⟩:=I.ok.has x (.inl hk);obtain⟨w',z⟩:=I.cell x c hc;refine wpAny_storeName_cell I.ok.kind hk hc z (λh' hc' hs=>?_);obtain⟨oc,hoc,RO⟩:=id z;refine h { s with heap:=h' } ⟨I.ok,I.os,I.bare,⟨λb o e n hb hx=>?_,λb o e n hb hx=>?_,I.base.free,λb o e hx=>?_,I.base.tups,I.base.lz,I.base.lA⟩,⟨m,hn.sameBut hs (cR (oh x c hc)),λj y v' e1 e2 e3=>?_⟩,λy c' e=>?_,I.free,I.jx,λp hp=>?_,tracked ⟨oc,hoc,I.jx x c hc⟩ hs,by simpa using I.len⟩ ⟨c,hs,.inr hc⟩
  ·exact(hs.2 b (gh (g7 (bR e) (I.ok.cab x c hfn hc)))).trans (I.base.keep b o e n hb hx)
  ·obtain⟨sl,e1⟩:=I.base.slot b o e n hb hx;exact⟨sl,(hs.2 b (gh (g7 (bR e) (I.ok.cab x c hfn hc)))).trans e1⟩
  ·obtain⟨o',e1⟩:=I.base.there b o e hx;exact⟨o',(hs.2 b (gh (g7 (bR e) (I.ok.cab x c hfn hc)))).trans e1⟩
  ·by_cases hj:j=i
   ·subst hj;rw[hi]at e1;cases e1;rw[mf hiσ]at e2;cases e2;exact⟨u,r,.inr ⟨.inl hk,c,hc,hc'⟩⟩
   ·rw[fi (cR hj)]at e2;obtain⟨u',r',q⟩:=hl j y v' e1 e2 e3;refine⟨u',r',?_⟩;rcases q with q|⟨k,c',e,z'⟩
    ·exact .inl q
    ·refine .inr ⟨k,c',e,z'.sameBut hs ?_⟩;rintro rfl;exact hj (GC hN e1 (I.ok.inj _ _ _ e hc ▸ hi))
  ·by_cases hcc:c'=c
   ·subst hcc;exact⟨_,hc'⟩
   ·obtain⟨w2,z2⟩:=I.cell y c' e;exact⟨w2,z2.sameBut hs hcc⟩
  ·obtain⟨e,n,ne,nf,d⟩:=I.pin p hp;refine⟨(hs.2 p.1 ?_).trans e,n,ne,nf,d⟩;intro q;rw[q,hoc]at e;have q':oc=p.2:=gi e;exact d w' (by rw[<- q'];exact RO)
theorem GV{M:Model}{A:bv}{E:ag->ao->Prop}{i:Nat}{x:Str}{v:V}{u:ag}{Q:Unit->ao->Prop}(I:Inv X af σ H s)(hN:X.N.Nodup)(hi:X.N[i]? = ab x)(hx:Loc X.env.scope x)(r:RelV v u)
 (h:∀s',Inv X af (σ.set i (ab v)) H s'->Q () s') (hf:X.fn x=true\/X.env.scope.names.lookup x=ab .local:=by first|exact .inl rfl|exact .inr rfl|assumption):wpAny M A (storeName X.env x u) Q E s:=
 DX I hN hi hx r (λs' I' _=>h s' I') hf
theorem Inv.call'{s':ao}{ch:List ah}(I:Inv X af σ H s)(ho:s'.os=s.os)(u:Un (frs X.stack) ch H H' s.heap s'.heap)(hok:cX X.prog X.w H' s'.heap)(hg:nW s'.gens)
 (hch:∀b∈ch,(b∈X.ex\/X.s₀.heap.objs.size<=b)/\b≠X.env.locals/\(∀x c,X.env.cells.lookup x=ab c->c≠b)/\∀p∈X.pn++af,p.1≠b):Inv X af σ H' s':=by
 obtain⟨h',g',d',t',o'⟩:=s';have e:o'=s.os:=ho;subst e;exact I.call (g':=g') (t':=t') (d':=d') u hok hg hch
end
abbrev XK:=ag->Option ah->Hp->Prop
abbrev St:=List (Option V)
abbrev VK:=V->Hp->Prop
abbrev TE:=St->Hp->VK->Prop
abbrev TT:=St->Hp->(Bool->Hp->Prop)->Prop
abbrev TA:=St->Hp->(List V->Hp->Prop)->Prop
structure Ends where
 nx:St->Hp->Prop
 rt:VK
 bk:St->Hp->Prop:=λ_ _=>False
 ct:St->Hp->Prop:=λ_ _=>False
abbrev TS:=Ends->St->Hp->Prop
def EP(X:Cx)(af:List (ah×Obj))(σ:St)(Q:VK)(u:ag)(s':ao):Prop:=∃v H',Inv X af σ H' s'/\RelV v u/\Q v H'
def TP(X:Cx)(af:List (ah×Obj))(σ:St)(Q:Bool->Hp->Prop)(b:Bool)(s':ao):Prop:=∃H',Inv X af σ H' s'/\Q b H'
def AP(X:Cx)(af:List (ah×Obj))(σ:St)(Q:List V->Hp->Prop)(us:List ag)(s':ao):Prop:=∃vs H',Inv X af σ H' s'/\Vals vs us/\Q vs H'
def SP(X:Cx)(af:List (ah×Obj))(D:Ends)(f:Flow)(s':ao):Prop:=
 match f with
 |.next=>∃σ' H',Inv X af σ' H' s'/\D.nx σ' H'
 |.brk=>∃σ' H',Inv X af σ' H' s'/\D.bk σ' H'
 |.cont=>∃σ' H',Inv X af σ' H' s'/\D.ct σ' H'
 |.ret u=>∃v σ' H',Inv X af σ' H' s'/\RelV v u/\D.rt v H'
def PE(X:Cx)(e:aR)(t:TE):Prop:=∀(af:List (ah×Obj)) (s:ao) (σ:St) (H:Hp) (Q:VK),Inv X af σ H s->t σ H Q->wpAny (model X.prog X.w) X.A (eval e X.env) (EP X af σ Q) X.xe s
def PT(X:Cx)(e:aR)(t:TT):Prop:=∀(af:List (ah×Obj)) (s:ao) (σ:St) (H:Hp) (Q:Bool->Hp->Prop),Inv X af σ H s->t σ H Q->wpAny (model X.prog X.w) X.A (isTrue e X.env (eval e X.env)) (TP X af σ Q) X.xe s
def PW(X:Cx)(e:aR)(t:TT):Prop:=∀(whole:Sem ag) (af:List (ah×Obj)) (s:ao) (σ:St) (H:Hp) (Q:Bool->Hp->Prop),Inv X af σ H s->t σ H Q->wpAny (model X.prog X.w) X.A (isTrue e X.env whole) (TP X af σ Q) X.xe s
theorem PW.pt{X:Cx}{e:aR}{t:TT}(h:PW X e t):PT X e t:=h _
def PA(X:Cx)(es:List aR)(t:TA):Prop:=∀(pos:Pos) (af:List (ah×Obj)) (s:ao) (σ:St) (H:Hp) (Q:List V->Hp->Prop),Inv X af σ H s->t σ H Q->wpAny (model X.prog X.w) X.A (spliced (backTo pos (starEach es X.env))) (AP X af σ Q) X.xe s
def PS(X:Cx)(st:bC)(t:TS):Prop:=∀(af:List (ah×Obj)) (s:ao) (σ:St) (H:Hp) (D:Ends),Inv X af σ H s->t D σ H->wpAny (model X.prog X.w) X.A (exec st X.env) (SP X af D) X.xe s
def gY(X:Cx)(st:List bC)(t:TS):Prop:=∀(af:List (ah×Obj)) (s:ao) (σ:St) (H:Hp) (D:Ends),Inv X af σ H s->t D σ H->wpAny (model X.prog X.w) X.A (execs st X.env) (SP X af D) X.xe s
theorem aS{α:Type}{t:Sem α}{Q Q':α->ao->Prop}{M:Model}{A:bv}{E:ag->ao->Prop}{s:ao}(h:wpAny M A t Q E s)(hQ:∀a s,Q a s->Q' a s):wpAny M A t Q' E s:=jt h hQ λ_ _ x=>x
section
variable{X:Cx}
def dM(i:Nat):TE:=λσ H Q=>∃v,σ[i]? = ab (ab v)/\Q v H
def tC(v:V):TE:=λ_ H Q=>Q v H
theorem Ql{i:Nat}{x:Str}{pos:Pos}(hN:X.N[i]? = ab x)(hv:sC X.env.scope x)(hd:(x==("__debug__" : Str))=false:=by decide)(hcd:(x==("__classdict__" : Str))=false:=by decide):PE X (.Name x pos) (dM i):=by
 intro af s σ H Q I h;obtain⟨v,e,h⟩:=h;obtain⟨m,hn,hl⟩:=I.loc;obtain⟨u,r,l⟩:=hl i x v hN e hv;have fin:EP X af σ Q u s:=⟨v,H,I,r,h⟩;rcases l with ⟨hk,hm⟩|⟨hk,c,hc,hcell⟩
 ·exact wpAny_Name (wpAny_loadName_local I.ok.kind hk hn hm fin) hd
 ·rcases hk with hk|hk
  ·exact wpAny_Name (wpAny_loadName_cell I.ok.kind hk hc hcell fin) hd
  ·exact wpAny_Name (wpAny_loadName_free I.ok.kind hk hc hcell fin hcd) hd
theorem aN{i j pos}:PE X (.Constant (.int i) j pos) (tC (.int i)):=λ_ _ _ H _ I h=>wpAny_Constant_int ⟨.int i,H,I.tok _,⟨_,rfl⟩,h⟩
theorem fT{b j pos}:PE X (.Constant (.bool b) j pos) (tC (.bl b)):=λ_ _ _ H _ I h=>Constant_bool ⟨.bl b,H,I,rfl,h⟩
theorem OG{j pos}:PE X (.Constant .none j pos) (tC .non):=λ_ _ _ H _ I h=>Constant_none ⟨.non,H,I,rfl,h⟩
theorem oV{x j pos}:PE X (.Constant (.str x) j pos) (tC (.str x)):=λ_ _ _ H _ I h=>Calls.Constant_str ⟨.str x,H,I.tok _,⟨_,rfl⟩,h⟩
def Gl(X:Cx)(x:Str):Prop:=X.env.kindOf x=ab .globalImplicit
theorem RE{E:ag->ao->Prop}{af:List (ah×Obj)}{s:ao}{σ:St}{H:Hp}{x:Str}{u:ag}{pos:Pos}{Q:ag->ao->Prop}(I:Inv X af σ H s)(hg:Gl X x)(hm:X.mg x=ab u)(h:Q u s)
 (hd:(x==("__debug__" : Str))=false:=by decide):wpAny (model X.prog X.w) X.A (eval (.Name x pos) X.env) Q E s:=
 JG I.ok.kind hg (Calls.loadGlobal_global (by rw[I.ok.glob];exact I.mod.glob.keeps I.bk) hm h) hd
theorem oU{E:ag->ao->Prop}{af:List (ah×Obj)}{s:ao}{σ:St}{H:Hp}{x:Str}{u:ag}{pos:Pos}{Q:ag->ao->Prop}(I:Inv X af σ H s)(hg:Gl X x)(hm:X.mg x=ae)(hv:bootBuiltins x=ab u)(h:Q u s)
 (hn:x ≠ "__name__" := by decide) (hd:(x==("__debug__" : Str))=false:=by decide):wpAny (model X.prog X.w) X.A (eval (.Name x pos) X.env) Q E s:=by
 obtain⟨mb,h1,h2⟩:=I.mod.blt;exact JG I.ok.kind hg (Calls.loadGlobal_builtin (by rw[I.ok.glob];exact I.mod.glob.keeps I.bk) hm (by rw[I.ok.blt];exact h1.keeps I.bk) ((h2 x hn).trans hv) h) hd
theorem MC{x:Str}{v:V}{u:ag}{pos:Pos}(hg:Gl X x)(hm:X.mg x=ae)(hv:bootBuiltins x=ab u)(r:RelV v u)(hn:x ≠ "__name__" := by decide)(hd:(x==("__debug__" : Str))=false:=by decide):PE X (.Name x pos) (tC v):=λ_ _ _ H _ I h=>oU I hg hm hv ⟨v,H,I,r,h⟩ hn hd
variable{a b:aR}{ta tb:TE}{pos:Pos}
def PC(X:Cx)(op:CmpOp)(a b:aR)(t:TE):Prop:=
 ∀(af:List (ah×Obj)) (s:ao) (σ:St) (H:Hp) (Q:VK),Inv X af σ H s->t σ H Q ->
  wpAny (model X.prog X.w) X.A (eval a X.env) (λv s₁=>wpAny (model X.prog X.w) X.A (eval b X.env) (λu s₂=>wpAny (model X.prog X.w) X.A (compareOp op v u) (EP X af σ Q) X.xe s₂) X.xe s₁) X.xe s
def tB(t:TE):TT:=λσ H Q=>t σ H λx H1=>∃c,x=.bl c/\Q c H1
theorem Fh{op:CmpOp}{t:TE}(h:PC X op a b t)(h1:behindInMarks op b=false:=by first|exact RP _ (by decide) (by decide)|rfl):PE X (.Compare a [op] [b] pos) t:=λaf s σ H Q I hw=>wpAny_Compare1 (h af s σ H Q I hw) h1
theorem lY{op:CmpOp}{t:TE}(h:PC X op a b t)(h1:behindInMarks op b=false:=by first|exact RP _ (by decide) (by decide)|rfl):PT X (.Compare a [op] [b] pos) (tB t):=by intro af s σ H Q I hw;refine wpAny_isTrue_Compare1 (aS (h af s σ H _ I hw) λv s1 h1=>aS h1 λu s2 h2=>aS h2 λc s3 ⟨x,H1,I1,r1,q1⟩=>?_) h1;obtain⟨d,rfl,q⟩:=q1;cases r1;exact nC ⟨H1,I1,q⟩
theorem gn{e:aR}{t:TE}(h:PE X e t)(he:∀whole,isTrue e X.env whole=(do let v <- whole;standAt e.pos;holding [v] (truthy v)):=by intro _;rfl):PT X e (tB t):=by intro af s σ H Q I hw;refine isTrue_plain (aS (h af s σ H _ I hw) λv s1 ⟨x,H1,I1,r1,q1⟩=>?_) (he _);obtain⟨d,rfl,q⟩:=q1;cases r1;exact nC ⟨H1,I1,q⟩
variable{tA tB':TT}{rest:List aR}
def DN(t u:TT):TT:=λσ H Q=>t σ H λc H1=>if c=true then u σ H1 Q else Q false H1
def DV(t u:TT):TT:=λσ H Q=>t σ H λc H1=>if c=true then Q true H1 else u σ H1 Q
def G3(t:TT):TT:=λσ H Q=>t σ H λc H1=>Q (!c) H1
theorem pw_and1(ha:PT X a tA):PW X (.BoolOp .And [a] pos) tA:=by
 intro wh af s σ H Q I h;refine isTrue_and (aS (ha af s σ H Q I h) λc s1 e=>?_);cases c with
 |true=>exact isTrue_and_nil e
 |false=>exact e
theorem pw_or1(ha:PT X a tA):PW X (.BoolOp .Or [a] pos) tA:=by
 intro wh af s σ H Q I h;refine isTrue_or (aS (ha af s σ H Q I h) λc s1 e=>?_);cases c with
 |false=>exact isTrue_or_nil e
 |true=>exact e
theorem pw_and(ha:PT X a tA)(hb:PW X (.BoolOp .And (b::rest) pos) tB'):PW X (.BoolOp .And (a::b::rest) pos) (DN tA tB'):=by
 intro wh af s σ H Q I h;refine isTrue_and (aS (ha af s σ H _ I h) λc s1 ⟨H1,I1,q1⟩=>?_);cases c with
 |true=>exact hb wh af s1 σ H1 Q I1 q1
 |false=>exact⟨H1,I1,q1⟩
theorem pw_or(ha:PT X a tA)(hb:PW X (.BoolOp .Or (b::rest) pos) tB'):PW X (.BoolOp .Or (a::b::rest) pos) (DV tA tB'):=by
 intro wh af s σ H Q I h;refine isTrue_or (aS (ha af s σ H _ I h) λc s1 ⟨H1,I1,q1⟩=>?_);cases c with
 |true=>exact⟨H1,I1,q1⟩
 |false=>exact hb wh af s1 σ H1 Q I1 q1
theorem jz(ha:PT X a tA):PT X (.UnaryOp .Not a pos) (G3 tA):=by intro af s σ H Q I h;exact isTrue_not (ha af s σ H (λc H1=>Q (!c) H1) I h)
def E9(ta tb:TE):TE:=λσ H Q=>ta σ H λx H1=>∃c,x=.bl c/\if c=true then tb σ H1 Q else Q (.bl false) H1
def FR(ta tb:TE):TE:=λσ H Q=>ta σ H λx H1=>∃c,x=.bl c/\if c=true then Q (.bl true) H1 else tb σ H1 Q
theorem tG{op}{t:TE}(h:PE X a t):PE X (.BoolOp op [a] pos) t:=λaf s σ H Q I hw=>BoolOp_one (h af s σ H Q I hw)
theorem Al(ha:PE X a ta)(hb:PE X (.BoolOp .And (b::rest) pos) tb):PE X (.BoolOp .And (a::b::rest) pos) (E9 ta tb):=by
 intro af s σ H Q I h;refine BoolOp_and (aS (ha af s σ H _ I h) λv s1 ⟨x,H1,I1,r1,q1⟩=>?_);obtain⟨c,rfl,q1⟩:=q1;cases r1;refine nC ?_;cases c with
 |true=>exact hb af s1 σ H1 Q I1 q1
 |false=>exact⟨.bl false,H1,I1,rfl,q1⟩
theorem z5(ha:PE X a ta)(hb:PE X (.BoolOp .Or (b::rest) pos) tb):PE X (.BoolOp .Or (a::b::rest) pos) (FR ta tb):=by
 intro af s σ H Q I h;refine BoolOp_or (aS (ha af s σ H _ I h) λv s1 ⟨x,H1,I1,r1,q1⟩=>?_);obtain⟨c,rfl,q1⟩:=q1;cases r1;refine nC ?_;cases c with
 |false=>exact hb af s1 σ H1 Q I1 q1
 |true=>exact⟨.bl true,H1,I1,rfl,q1⟩
end
def eS(K:aE)(H:Hp)(a:ah)(xs:List V):Prop:=
 Rd H a (.lst xs) \/
  ∃(o:Obj) (aj:Array ag) (n:Nat),K.lookup a=ab o/\o.cls=.type "list" /\ o.dict=ae/\o.data=.seq aj n/\aj.size<=sizeLine/\Vals xs aj.toList
def fw(K:aE)(H:Hp)(a:ah)(xs:List V):Prop:=
 Rd H a (.tup xs) \/
  ∃(o:Obj) (aj:Array ag) (n:Nat),K.lookup a=ab o/\o.cls=.type "tuple" /\ o.data=.seq aj n/\aj.size<=sizeLine/\Vals xs aj.toList
def LH:ag->Option V
 |.none=>ab .non
 |.bool b=>ab (.bl b)
 |.int i _=>ab (.int i)
 |.str x _=>ab (.str x)
 |.bytes b _=>ab (.byt b)
 |.float b _=>ab (.flt b)
 |.ref a=>ab (.ref a)
 |.type n=>ab (.ty n)
 |_=>ae
theorem RelV.abs{x:V}{u:ag}(r:RelV x u):LH u=ab x:=by
 cases x with
 |non=>cases r;rfl
 |bl _=>cases r;rfl
 |int _=>obtain⟨t,rfl⟩:=r;rfl
 |str _=>obtain⟨t,rfl⟩:=r;rfl
 |byt _=>obtain⟨t,rfl⟩:=r;rfl
 |flt _=>obtain⟨t,rfl⟩:=r;rfl
 |ref _=>cases r;rfl
 |ty _=>cases r;rfl
theorem RelV.inj{x y:V}{u:ag}(r:RelV x u)(q:RelV y u):x=y:=gi (r.abs.symm.trans q.abs)
theorem Vals.inj:∀{xs ys:List V} {us:List ag},Vals xs us->Vals ys us->xs=ys
 |_,_,_,.nil,.nil=>rfl
 |_,_,_,.cons r t,.cons r' t'=>by rw[r.inj r',Vals.inj t t']
section
variable{X:Cx}{af:List (ah×Obj)}{σ:St}{H:Hp}{s:ao}{a:ah}{xs ys:List V}
theorem Inv.list(I:Inv X af σ H s)(h:eS X.K H a xs):∃aj:List ag,Vals xs aj/\PlainL s.heap a aj.toArray/\xs.length<=sizeLine:=by
 rcases h with h|⟨o,aj,n,hk,hc,hd,hs,hz,r⟩
 ·obtain⟨z,aj,n,r,e⟩:=h.ok I.hok;exact⟨aj,r,⟨_,n,e,rfl,rfl,rfl⟩,z⟩
 ·refine⟨aj.toList,r,⟨o,n,I.gp a o hk,hc,hd,by simpa using hs⟩,?_⟩;have e:=r.length;simp only[nX]at e;omega
theorem Inv.tuple(I:Inv X af σ H s)(h:fw X.K H a xs):∃aj:List ag,Vals xs aj/\IsTup s.heap a aj.toArray/\xs.length<=sizeLine:=by
 rcases h with h|⟨o,aj,n,hk,hc,hs,hz,r⟩
 ·obtain⟨z,aj,r,p⟩:=h.ok I.hok;exact⟨aj,r,p.tup,z⟩
 ·refine⟨aj.toList,r,⟨o,I.gp a o hk,hc,n,by simpa using hs⟩,?_⟩;have e:=r.length;simp only[nX]at e;omega
theorem Inv.yJ(I:Inv X af σ H s)(h:eS X.K H a xs)(h':eS X.K H a ys):xs=ys:=by
 obtain⟨aj,r,⟨o,n,e,_,_,d⟩,_⟩:=I.list h;obtain⟨its',r',⟨o',n',e',_,_,d'⟩,_⟩:=I.list h';rw[e]at e';cases e';rw[d]at d';injection d' with d1 _;have:aj=its':=by simpa using congrArg Array.toList d1
 subst this;exact r.inj r'
theorem Inv.Af(I:Inv X af σ H s)(h:fw X.K H a xs)(h':fw X.K H a ys):xs=ys:=by
 obtain⟨aj,r,⟨o,e,_,n,d⟩,_⟩:=I.tuple h;obtain⟨its',r',⟨o',e',_,n',d'⟩,_⟩:=I.tuple h';rw[e]at e';cases e';rw[d]at d';injection d' with d1 _;have:aj=its':=by simpa using congrArg Array.toList d1
 subst this;exact r.inj r'
end
abbrev Cx.wish(X:Cx)(E:ag->ao->Prop):Cx:={ X with xe:=E }
abbrev Cx.nB(X:Cx):Cx:=X.wish λ_ _=>False
theorem Cx.Ok.wish{X:Cx}(ok:X.Ok)(E:ag->ao->Prop):(X.wish E).Ok:=⟨ok.mod,ok.kind,ok.glob,ok.blt,ok.above,ok.inj,ok.has,ok.cab,ok.hd,ok.frames,ok.stk,ok.exf,ok.bs,ok.bsz,ok.uw,ok.xC,ok.km,ok.frf⟩
theorem Cx.Ok.nu{X:Cx}{E:ag->ao->Prop}(ok:(X.wish E).Ok):X.Ok:=⟨ok.mod,ok.kind,ok.glob,ok.blt,ok.above,ok.inj,ok.has,ok.cab,ok.hd,ok.frames,ok.stk,ok.exf,ok.bs,ok.bsz,ok.uw,ok.xC,ok.km,ok.frf⟩
section
variable{X:Cx}{af:List (ah×Obj)}{σ:St}{H:Hp}{s:ao}{E:ag->ao->Prop}
theorem Inv.wish(I:Inv X af σ H s)(E:ag->ao->Prop):Inv (X.wish E) af σ H s:=⟨I.ok.wish E,I.os,I.bare,I.base,I.loc,I.cell,I.free,I.jx,I.pin,I.hok,I.len⟩
theorem Inv.nu(I:Inv (X.wish E) af σ H s):Inv X af σ H s:=⟨I.ok.nu,I.os,I.bare,I.base,I.loc,I.cell,I.free,I.jx,I.pin,I.hok,I.len⟩
theorem SP.nu{D:Ends}{f:Flow}{s':ao}(h:SP (X.wish E) af D f s'):SP X af D f s':=by
 cases f with
 |next=>obtain⟨σ',H',I,q⟩:=h;exact⟨σ',H',I.nu,q⟩
 |brk=>obtain⟨σ',H',I,q⟩:=h;exact⟨σ',H',I.nu,q⟩
 |cont=>obtain⟨σ',H',I,q⟩:=h;exact⟨σ',H',I.nu,q⟩
 |ret u=>obtain⟨v,σ',H',I,r,q⟩:=h;exact⟨v,σ',H',I.nu,r,q⟩
theorem gY.nB{st:List bC}{t:TS}(h:gY X.nB st t):gY X st t:=λaf s σ H D I hw=>
 jt (h af s σ H D (I.wish _) hw) (λ_ _ q=>q.nu) λ_ _ z=>lw z
end
section
variable{X:Cx}{st:bC}{rest:List bC}{t u:TS}{e:aR}{te:TE}{pos:Pos}
def zx:TS:=λD σ H=>D.nx σ H
def mD(t u:TS):TS:=λD σ H=>t { D with nx:=u D } σ H
theorem dr:gY X [] zx:=λ_ _ σ H _ I h=>wF ⟨σ,H,I,h⟩
theorem aU(h1:PS X st t)(h2:gY X rest u):gY X (st::rest) (mD t u):=by
 intro af s σ H D I h;refine wpAny_execs_cons (aS (h1 af s σ H { D with nx:=u D } I h) λf s1 q=>?_);cases f with
 |next=>
  obtain⟨σ',H',I',q⟩:=q;exact h2 af s1 σ' H' D I' q
 |ret v=>exact q
 |brk=>exact q
 |cont=>exact q
theorem aX(h1:PS X st t):gY X [st] t:=by
 intro af s σ H D I h;refine wpAny_execs_cons (aS (h1 af s σ H D I h) λf s1 q=>?_);cases f with
 |next=>exact wF q
 |ret v=>exact q
 |brk=>exact q
 |cont=>exact q
theorem Inv.quiet{af:List (ah×Obj)}{σ:St}{H:Hp}{s:ao}(I:Inv X af σ H s):interactive X.env=false:=by simp[interactive,I.ok.kind]
def k8(te:TE):TS:=λD σ H=>te σ H λ_ H1=>D.nx σ H1
theorem iM(he:PE X e te)(hs:swapsWith e ae pos.line X.env=pure false:=by rfl):PS X (.Expr e pos) (k8 te):=by intro af s σ H D I h;exact wpAny_Expr_any (aS (he af s σ H _ I h) λv s1 ⟨x,H1,I1,r1,q1⟩=>⟨σ,H1,I1,q1⟩) I.quiet hs
def pA(te:TE):TS:=λD σ H=>te σ H D.rt
theorem bV(he:PE X e te):PS X (.Return (ab e) pos) (pA te):=by intro af s σ H D I h;exact wpAny_Return_some (aS (he af s σ H _ I h) λv s1 ⟨x,H1,I1,r1,q1⟩=>⟨x,σ,H1,I1,r1,q1⟩)
def zX(c:TT)(t u:TS):TS:=λD σ H=>c σ H λb H1=>if b=true then t D σ H1 else u D σ H1
theorem dq{c:aR}{a b:List bC}{tc:TT}(hc:PT X c tc)(ha:gY X a t)(hb:gY X b u):PS X (.If c a b pos) (zX tc t u):=by
 intro af s σ H D I h;refine wpAny_If (aS (hc af s σ H _ I h) λd s1 ⟨H1,I1,q1⟩=>?_);cases d with
 |true=>exact ha af s1 σ H1 D I1 q1
 |false=>exact hb af s1 σ H1 D I1 q1
def FG:TS:=λ_ _ _=>False
theorem NV:PS X st FG:=λ_ _ _ _ _ _ h=>h.elim
end
abbrev TG:=V->St->Hp->(St->Hp->Prop)->Prop
abbrev jB:=List V->St->Hp->(St->Hp->Prop)->Prop
def PG(X:Cx)(target:aR)(t:TG):Prop:=
 ∀(af:List (ah×Obj)) (s:ao) (σ:St) (H:Hp) (v:V) (u:ag) (Q:St->Hp->Prop),Inv X af σ H s->RelV v u->t v σ H Q ->
  wpAny (model X.prog X.w) X.A (assign target X.env u) (λ_ s'=>∃σ' H',Inv X af σ' H' s'/\Q σ' H') X.xe s
def wj(X:Cx)(ts:List aR)(t:jB):Prop:=
 ∀(af:List (ah×Obj)) (s:ao) (σ:St) (H:Hp) (vs:List V) (us:List ag) (Q:St->Hp->Prop),Inv X af σ H s->Vals vs us->t vs σ H Q ->
  wpAny (model X.prog X.w) X.A (assignInOrder ((assignEach ts X.env).map (·.2)) us) (λ_ s'=>∃σ' H',Inv X af σ' H' s'/\Q σ' H') X.xe s
section
variable{X:Cx}{pos:Pos}
def fL(i:Nat):TG:=λv σ H Q=>Q (σ.set i (ab v)) H
theorem dO{i:Nat}{x:Str}(hN:X.N.Nodup)(hi:X.N[i]? = ab x)(hx:Loc X.env.scope x)(hf:X.fn x=true\/X.env.scope.names.lookup x=ab .local:=by first|exact .inl rfl|exact .inr rfl|assumption):PG X (.Name x pos) (fL i):=by intro af s σ H v u Q I r h;exact wpAny_assign_Name (GV I hN hi hx r (λs' I'=>⟨_,H,I',h⟩) hf)
def sG:jB:=λvs σ H Q=>vs=[]/\Q σ H
def s0(t:TG)(u:jB):jB:=λvs σ H Q=>∃v r,vs=v::r/\t v σ H λσ' H'=>u r σ' H' Q
theorem jd:wj X [] sG:=by intro af s σ H vs us Q I r h;obtain⟨e,h⟩:=h;subst e;cases r;exact assignInOrder_nil ⟨σ,H,I,h⟩
theorem eh{e:aR}{es:List aR}{t:TG}{u:jB}(h1:PG X e t)(h2:wj X es u)
 (hs:(assignEach (e::es) X.env).map (·.2)=assign e X.env::(assignEach es X.env).map (·.2):=by rfl):wj X (e::es) (s0 t u):=by
 intro af s σ H vs us Q I r h;obtain⟨v,vr,e1,h⟩:=h;subst e1;cases r with
 |cons r rr=>
  rw[hs];refine assignInOrder_cons (aS (h1 af s σ H _ _ _ I r h) λ_ s1 ⟨σ1,H1,I1,q1⟩=>?_);exact h2 af s1 σ1 H1 _ _ Q I1 rr q1
def ym(K:aE)(n:Nat)(t:jB):TG:=λv σ H Q=>∃a xs,v=.ref a/\fw K H a xs/\xs.length=n/\t xs σ H Q
theorem jg{es:List aR}{k:Nat}{t:jB}{n:Nat}(hc:X.calm=true)(h:wj X es t)
 (hn:(assignEach es X.env).length=n:=by rfl) (hst:(assignEach es X.env).findIdx? (·.1)=ae:=by rfl):PG X (.Tuple es k pos) (ym X.K n t):=by
 intro af s σ H v u Q I r hw;obtain⟨a,xs,e1,hq,hl,hw⟩:=hw;subst e1;cases r;obtain⟨aj,rv,ht,hz⟩:=I.tuple hq;refine assign_Tuple_tuple (I.ok.hd hc) ht (by simp[hn,<- hl,rv.length]) hst λh' hx=>?_;have I1:Inv X af σ H { s with heap:=h' }:=I.kept (t':=s.toks) λb o e=>hx b o (gh (bR e)) e;exact h af _ σ H xs _ Q I1 (by simpa using rv) hw
def kj(te:TE)(g:TG):TS:=λD σ H=>te σ H λx H1=>g x σ H1 D.nx
theorem Mn{tg e:aR}{te:TE}{g:TG}(he:PE X e te)(hg:PG X tg g)(hs:swapsWithSole [tg] e pos.line X.env=pure false:=by rfl)(hw:swappedStores [tg] e X.env=pure ae:=by rfl)
 (h1:(assignEach [tg] X.env).map (·.2)=[assign tg X.env]:=by rfl):PS X (.Assign [tg] e pos) (kj te g):=by
 intro af s σ H D I h;refine wpAny_Assign_stores (aS (he af s σ H _ I h) λv s1 ⟨x,H1,I1,r1,q1⟩=>?_) hs hw;rw[h1];exact aS (hg af s1 σ H1 x v _ I1 r1 q1) λ_ s2 q=>q
theorem lh{i:Nat}{x:Str}{e:aR}{te:TE}{pos':Pos}(hN:X.N.Nodup)(hi:X.N[i]? = ab x)(hx:Loc X.env.scope x)(he:PE X e te)(hs:swapsWith e (ab (.Name x pos')) pos.line X.env=pure false:=by rfl)(hf:X.fn x=true\/X.env.scope.names.lookup x=ab .local:=by first|exact .inl rfl|exact .inr rfl|assumption) :
 PS X (.Assign [.Name x pos'] e pos) (kj te (fL i)):=by
 intro af s σ H D I h;refine wpAny_Assign_Name (aS (he af s σ H _ I h) λv s1 ⟨y,H1,I1,r1,q1⟩=>?_) hs;exact GV I1 hN hi hx r1 (λs2 I2=>⟨_,H1,I2,q1⟩) hf
end
section
variable{X:Cx}{pos:Pos}
def F0(c:TT)(tb:TS):TS:=λD σ H=>∃W:Nat->St->Hp->Prop,(∃m,W m σ H)/\∀m σ H,W m σ H ->
 c σ H λb H1=>if b=true then∃N:St->Hp->Prop,(∀σ' H',N σ' H'->∃m',m'<m/\W m' σ' H')/\tb { D with nx:=N,ct:=N,bk:=D.nx } σ H1 else D.nx σ H1
theorem D8{c:aR}{body:List bC}{tc:TT}{tb:TS}(hp:PassesOwn (model X.prog X.w) X.A X.env X.xe)(hc:PT X c tc)(hb:gY X body tb):PS X (.While c body [] pos) (F0 tc tb):=by
 intro af s σ H D I h;obtain⟨W,⟨m0,w0⟩,turn⟩:=h;refine wpAny_While (codeAny_whileLoop (λn s'=>∃σ' H',Inv X af σ' H' s'/\W n σ' H') ?_ m0 ⟨σ,H,I,w0⟩);rintro n s1 ⟨σ1,H1,I1,w1⟩;refine pH hp (aS (hc af s1 σ1 H1 _ I1 (turn n σ1 H1 w1)) λb s2 ⟨H2,I2,q2⟩=>?_);cases b with
 |true=>
  obtain⟨N,hN,q2⟩:=q2;rw[aH rfl];refine pH hp (aS (hb af s2 σ1 H2 _ I2 q2) λf s3 q3=>?_);cases f with
  |next=>
   obtain⟨σ3,H3,I3,n3⟩:=q3;obtain⟨m',hm,w3⟩:=hN σ3 H3 n3;exact⟨m',hm,σ3,H3,I3,w3⟩
  |cont=>
   obtain⟨σ3,H3,I3,n3⟩:=q3;obtain⟨m',hm,w3⟩:=hN σ3 H3 n3;exact⟨m',hm,σ3,H3,I3,w3⟩
  |brk=>exact q3
  |ret v=>exact q3
 |false=>
  rw[ay cy];exact wF ⟨σ1,H2,I2,q2⟩
end
structure It where
 go:Nat->Hp->Prop
 yld:Nat->Hp->V->Hp->Prop
 stop:Nat->Hp->Prop
def fJ(X:Cx)(af:List (ah×Obj))(H:Hp)(b:ah):Prop:=H b=ae/\b≠X.env.locals/\b∉X.fs/\(b∈X.ex\/X.s₀.heap.objs.size<=b)/\(∀x c,X.env.cells.lookup x=ab c->c≠b)/\∀p∈X.pn++af,p.1≠b
theorem Inv.io{X:Cx}{af:List (ah×Obj)}{σ:St}{H H':Hp}{s:ao}{b:ah}(I:Inv X af σ H s)(hb:s.heap.objs.size<=b)(hn:H' b=ae):fJ X af H' b:=by
 refine⟨hn,uj (g7 I.lt hb),I.Qo hb,.inr (dw I.sz hb),λx c e z=>?_,λp hp z=>?_⟩
 ·obtain⟨v,q⟩:=I.cell x c e;exact absurd (g7 q.lt (by rw[z];exact hb)) (jv _)
 ·exact absurd (g7 (bR (I.pin p hp).1) (by rw[z];exact hb)) (jv _)
structure Turn(P:bg)(w:aY)(K:aE)(tg:aR)(J:It)(fp:List ah)(it:ah)(tn:Nat->aI->Prop):Prop where
 mem:it∈fp
 obj:∀i h,tn i h->∀b∈fp,∃o,h.get? b=ab o/\∀v,o.data≠.cell v
 keep:∀i h h',tn i h->(∀b∈fp,∀o,h.get? b=ab o->h'.get? b=ab o)->tn i h'
 item:∀(X:Cx),X.prog=P->X.w=w->X.K=K->X.calm=true->∀(i:Nat) (af:List (ah×Obj)) (s:ao) (σ:St) (H:Hp) (E:ag->ao->Prop),Inv X af σ H s->(∀b∈fp,fJ X af H b)->tn i s.heap->J.go i H ->
  wpAny (model P w) X.A (pyNext (.ref it)) (λr s1=>∃u,r=ab u /\
   wpAny (model P w) X.A (letOwnedTupleGo tg (.ref it) u) (λ_ s2=>∃x H',Inv X af σ H' s2/\RelV x u/\J.yld i H x H'/\tn (i+1) s2.heap/\∀b∈fp,H' b=ae) E s1) E s
 done:∀(X:Cx),X.prog=P->X.w=w->X.K=K->X.calm=true->∀(i:Nat) (af:List (ah×Obj)) (s:ao) (σ:St) (H:Hp) (E:ag->ao->Prop),Inv X af σ H s->(∀b∈fp,fJ X af H b)->tn i s.heap->J.stop i H ->
  wpAny (model P w) X.A (pyNext (.ref it)) (λr s1=>r=ae/\Inv X af σ H s1) E s
 self:∀(A:bv) (i:Nat) (s:ao) (Q:ag->ao->Prop) (E:ag->ao->Prop),tn i s.heap->Q (.ref it) s->wpAny (model P w) A (pyIter (.ref it)) Q E s
abbrev TI:=St->Hp->(It->Hp->Prop)->Prop
def PIE(X:Cx)(af:List (ah×Obj))(σ:St)(tg:aR)(R:It->Hp->Prop)(itv:ag)(s2:ao):Prop:=∃(it:ah) (fp:List ah) (tn:Nat->aI->Prop) (J:It) (H':Hp),itv=.ref it/\Inv X af σ H' s2/\Turn X.prog X.w X.K tg J fp it tn/\tn 0 s2.heap/\(∀b∈fp,fJ X af H' b)/\R J H'
def PI(X:Cx)(tg iter:aR)(wi:TI):Prop:=
 ∀(af:List (ah×Obj)) (s:ao) (σ:St) (H:Hp) (R:It->Hp->Prop),Inv X af σ H s->wi σ H R ->
  wpAny (model X.prog X.w) X.A (eval iter X.env) (λv s1=>wpAny (model X.prog X.w) X.A (pyIter v) (PIE X af σ tg R) X.xe s1) X.xe s
theorem tZ{M:Model}{A:bv}{E:ag->ao->Prop}{s:ao}{tg:aR}{it:ah}{u:ag}{o:Obj}{n:String}{vs:Array ag}{Q:Unit->ao->Prop}(ho:s.heap.get? it=ab o)(hc:o.cls=.type n)(hd:o.data=.fields vs)
 (hn:["enumerate","zip","dict_itemiterator","dict_reverseitemiterator","odict_iterator","itertools.zip_longest","itertools.pairwise"].contains n=false) (hQ:Q () s):wpAny M A (letOwnedTupleGo tg (.ref it) u) Q E s:=by
 unfold letOwnedTupleGo;cases tg<;>first
  |exact ax hQ
  | (cases u<;>first
   |exact ax hQ
   | (refine ak (wpAny_load ho ?_)
      rw[hc,hd];show wpAny M A (if(["enumerate","zip","dict_itemiterator","dict_reverseitemiterator","odict_iterator","itertools.zip_longest","itertools.pairwise"].contains n&&vs[0]? == ab (rawInt _))=true then _ else _) Q E s;rw[ay (by intro h;rw[hn,Bool.false_and]at h;cases h)];exact ax hQ))
def rX(K:aE)(a:ah):It:=⟨λi H=>∃xs x,eS K H a xs/\xs[i]? = ab x,λi H x H'=>H'=H/\∀xs,eS K H a xs->xs[i]? = ab x,λi H=>∃xs,eS K H a xs/\xs.length<=i⟩
def tY(K:aE)(a:ah):It:=⟨λi H=>∃xs x,fw K H a xs/\xs[i]? = ab x,λi H x H'=>H'=H/\∀xs,fw K H a xs->xs[i]? = ab x,λi H=>∃xs,fw K H a xs/\xs.length<=i⟩
def qD(lo:Int)(n:Nat):It:=⟨λi _=>i<n,λi H x H'=>H'=H/\x=.int (lo+i),λi _=>n<=i⟩
theorem O9{P:bg}{w:aY}{K:aE}{tg:aR}(a it:ah):Turn P w K tg (rX K a) [it] it (λi h=>h.IsListIter it a i) where
 mem:=by simp
 obj:=λi h st b hb=>by
  have e:b=it:=by simpa using hb
  subst e;obtain⟨o,e,c,d⟩:=st;exact⟨o,e,λv z=>by rw[d]at z;cases z⟩
 keep:=λi h h' st k=>st.at λo e=>k it (by simp) o e
 item:=by intro X hP hw hK hc i af s σ H E I hf st hg;subst hP hw hK;obtain⟨xs,x,hq,hx⟩:=hg;obtain⟨aj,rv,p,hz⟩:=I.list hq;obtain⟨u,hu,ru⟩:=rv.get hx;obtain⟨f0,f1,f2,f3,f4,f5⟩:=hf it (by simp);refine wpAny_pyNext_list_item st p.isList (x:=u) (by simpa using hu) λh' st' sb=>?_;have I1:Inv X af σ H { s with heap:=h' }:=I.turned (t':=s.toks) (λb o hb e=>(sb.2 b hb).trans e) f0 f1 f3 f4 f5;obtain⟨o,e,c,d⟩:=id st';exact⟨u,rfl,tZ (s:={ s with heap:=h' }) e c d (by decide) ⟨x,H,I1,ru,⟨rfl,λys hy=>by rw[I.yJ hy hq];exact hx⟩,st',λb hb=>(hf b hb).1⟩⟩
 done:=by intro X hP hw hK hc i af s σ H E I hf st hg;subst hP hw hK;obtain⟨xs,hq,hx⟩:=hg;obtain⟨aj,rv,p,hz⟩:=I.list hq;obtain⟨f0,f1,f2,f3,f4,f5⟩:=hf it (by simp);have hl:=rv.length;exact wpAny_pyNext_list_end (I.ok.hd hc) st p.isList (by simp;omega) λh' eb=>⟨rfl,I.turned (t':=s.toks) (λb o hb e=>eb b o hb e) f0 f1 f3 f4 f5⟩
 self:=λ_ _ _ _ _ st h=>wpAny_pyIter_listiter st h
theorem Mf{P:bg}{w:aY}{K:aE}{tg:aR}(a it:ah):Turn P w K tg (tY K a) [it] it (λi h=>h.IsTupleIter it a i) where
 mem:=by simp
 obj:=λi h st b hb=>by
  have e:b=it:=by simpa using hb
  subst e;obtain⟨o,e,c,d⟩:=st;exact⟨o,e,λv z=>by rw[d]at z;cases z⟩
 keep:=λi h h' st k=>st.at λo e=>k it (by simp) o e
 item:=by intro X hP hw hK hc i af s σ H E I hf st hg;subst hP hw hK;obtain⟨xs,x,hq,hx⟩:=hg;obtain⟨aj,rv,p,hz⟩:=I.tuple hq;obtain⟨u,hu,ru⟩:=rv.get hx;obtain⟨f0,f1,f2,f3,f4,f5⟩:=hf it (by simp);refine wpAny_pyNext_tuple_item st (show s.heap.IsTuple a aj.toArray from p) (x:=u) (by simpa using hu) λh' st' sb=>?_;have I1:Inv X af σ H { s with heap:=h' }:=I.turned (t':=s.toks) (λb o hb e=>(sb.2 b hb).trans e) f0 f1 f3 f4 f5;obtain⟨o,e,c,d⟩:=id st';exact⟨u,rfl,tZ (s:={ s with heap:=h' }) e c d (by decide) ⟨x,H,I1,ru,⟨rfl,λys hy=>by rw[I.Af hy hq];exact hx⟩,st',λb hb=>(hf b hb).1⟩⟩
 done:=by intro X hP hw hK hc i af s σ H E I hf st hg;subst hP hw hK;obtain⟨xs,hq,hx⟩:=hg;obtain⟨aj,rv,p,hz⟩:=I.tuple hq;obtain⟨f0,f1,f2,f3,f4,f5⟩:=hf it (by simp);have hl:=rv.length;exact wpAny_pyNext_tuple_end (I.ok.hd hc) st (show s.heap.IsTuple a aj.toArray from p) (by simp;omega) λh' eb=>⟨rfl,I.turned (t':=s.toks) (λb o hb e=>eb b o hb e) f0 f1 f3 f4 f5⟩
 self:=λ_ _ _ _ _ st h=>wpAny_pyIter_tupleiter st h
theorem Mt{P:bg}{w:aY}{K:aE}{tg:aR}(it:ah)(lo:Int)(n:Nat):Turn P w K tg (qD lo n) [it] it (λi h=>IsRangeIter h it (lo+(i:Nat)*1) ((n:Int)-(i:Nat)) 1) where
 mem:=by simp
 obj:=λi h st b hb=>by
  have e:b=it:=by simpa using hb
  subst e;exact⟨_,st,λv z=>by
   have z':Data.fields _=Data.cell v:=z;cases z'⟩
 keep:=λi h h' st k=>k it (by simp) _ st
 item:=by intro X hP hw hK hc i af s σ H E I hf st hg;subst hP hw hK;obtain⟨f0,f1,f2,f3,f4,f5⟩:=hf it (by simp);have W:=Walks.range (prog:=X.prog) (w:=X.w) (I.ok.hd hc) it lo 1 n;refine W.item i s _ _ hg st λv h' tk hv st' kk=>?_;obtain⟨t,rfl⟩:=hv;have I1:Inv X af σ H { s with heap:=h',toks:=tk }:=I.turned (λb o hb e=>kk b o (by simpa using hb) e) f0 f1 f3 f4 f5;refine⟨_,rfl,tZ (s:={ s with heap:=h',toks:=tk }) (n := "range_iterator") st' rfl rfl (by decide) ⟨.int (lo+i),H,I1,⟨t,?_⟩,⟨rfl,rfl⟩,st',λb hb=>(hf b hb).1⟩⟩;rw[Int.mul_one]
 done:=by intro X hP hw hK hc i af s σ H E I hf st hg;subst hP hw hK;obtain⟨f0,f1,f2,f3,f4,f5⟩:=hf it (by simp);exact wpAny_pyNext_range_end (I.ok.hd hc) st (by have:n<=i:=hg;omega) λh' eb=>⟨rfl,I.turned (t':=s.toks) (λb o hb e=>eb b o hb e) f0 f1 f3 f4 f5⟩
 self:=λ_ _ _ _ _ st h=>wpAny_pyIter_rangeiter st h
section
variable{X:Cx}{tg:aR}
def GN(K:aE)(tl:TE):TI:=λσ H R=>tl σ H λx H1=>∃a,x=.ref a/\(∃xs,eS K H1 a xs)/\R (rX K a) H1
def Hq(K:aE)(tl:TE):TI:=λσ H R=>tl σ H λx H1=>∃a,x=.ref a/\(∃xs,fw K H1 a xs)/\R (tY K a) H1
theorem Mx{l:aR}{tl:TE}(hl:PE X l tl):PI X tg l (GN X.K tl):=by
 intro af s σ H R I h;refine aS (hl af s σ H _ I h) λv s1 ⟨x,H1,I1,r1,q1⟩=>?_;obtain⟨a,e,⟨xs,hq⟩,q⟩:=q1;subst e;cases r1;obtain⟨aj,rv,p,hz⟩:=I1.list hq;refine AM p.isList ?_;refine⟨s1.heap.objs.size,[s1.heap.objs.size],_,_,H1,rfl,I1.kept (t':=s1.toks) λb o e=>bD _ e,O9 a _,⟨_,bS _ rfl,rfl,rfl⟩,λb hb=>?_,q⟩;have e:b=s1.heap.objs.size:=by simpa using hb
 subst e;exact I1.io (ba _) (I1.hok.fresh (ba _))
theorem Mz{l:aR}{tl:TE}(hl:PE X l tl):PI X tg l (Hq X.K tl):=by
 intro af s σ H R I h;refine aS (hl af s σ H _ I h) λv s1 ⟨x,H1,I1,r1,q1⟩=>?_;obtain⟨a,e,⟨xs,hq⟩,q⟩:=q1;subst e;cases r1;obtain⟨aj,rv,p,hz⟩:=I1.tuple hq;refine wpAny_pyIter_tuple (show s1.heap.IsTuple a aj.toArray from p) ?_;refine⟨s1.heap.objs.size,[s1.heap.objs.size],_,_,H1,rfl,I1.kept (t':=s1.toks) λb o e=>bD _ e,Mf a _,⟨_,bS _ rfl,rfl,rfl⟩,λb hb=>?_,q⟩;have e:b=s1.heap.objs.size:=by simpa using hb
 subst e;exact I1.io (ba _) (I1.hok.fresh (ba _))
theorem PP{af:List (ah×Obj)}{σ:St}{H:Hp}{s:ao}{R:It->Hp->Prop}{E:ag->ao->Prop}{lo hi:Int}{t u v:Tok}{tk:Nat}(I:Inv X af σ H s)(h1:-(2 ^ 62)<=lo)(h2:lo<2 ^ 62)(h3:-(2 ^ 62)<=hi)(h4:hi<2 ^ 62)
 (q:R (qD lo (hi-lo).toNat) H):wpAny (model X.prog X.w) X.A (pyIter (.ref s.heap.objs.size)) (PIE X af σ tg R) E { s with heap:=s.heap.push { cls:=.type "range", data:=.fields #[.int lo t,.int hi u,.int 1 v] },toks:=tk }:=by
 refine wpAny_pyIter_range (IsRange.new ..) (small_one h1 h2 h3 h4) ?_;have I1:Inv X af σ H { s with heap:=s.heap.push { cls:=.type "range",data:=.fields #[.int lo t,.int hi u,.int 1 v] },toks:=tk }:=I.kept λb o e=>bD _ e;refine⟨(s.heap.push { cls:=.type "range",data:=.fields #[.int lo t,.int hi u,.int 1 v] }).objs.size,[(s.heap.push { cls:=.type "range", data:=.fields #[.int lo t,.int hi u,.int 1 v] }).objs.size],_,_,H,rfl,
  I1.kept (t':=tk) λb o e=>bD _ e,Mt _ lo (hi-lo).toNat,?_,λb hb=>?_,q⟩
 ·have e1:lo+((0:Nat):Int)*1=lo:=by simp
  have e2:(((hi-lo).toNat:Nat):Int)-((0:Nat):Int)=Builtin.Range.rangeSize lo hi 1:=by rw[rangeSize_one];split<;>omega
  show IsRangeIter _ _ (lo+((0:Nat):Int)*1) ((((hi-lo).toNat:Nat):Int)-((0:Nat):Int)) 1;rw[e1,e2];exact bS _ rfl
 ·have e:b=(s.heap.push { cls:=.type "range", data:=.fields #[.int lo t,.int hi u,.int 1 v] }).objs.size:=by simpa using hb
  subst e;exact I1.io (ba _) (I1.hok.fresh (ba _))
def Im(ta:TA):TI:=λσ H R=>ta σ H λvs H1=>∃j:Int,vs=[.int j]/\-(2 ^ 62)<=j/\j<2 ^ 62/\R (qD 0 j.toNat) H1
theorem kP{a:aR}{ta:TA}{p pos:Pos}(hg:Gl X "range")(hm:X.mg "range" = ae)(ha:PA X [a] ta)(hs:starEach [a] X.env=[(false,eval a X.env)]:=by rfl):PI X tg (.Call (.Name "range" p) [a] [] pos) (Im ta):=by
 intro af s σ H R I h;refine Call_ (oU I hg hm boot_range (xl (aS (ha pos af s σ H _ I h) λus s1 ⟨vs,H1,I1,r1,q1⟩=>?_) hs rfl));obtain⟨j,e,q1,q2,q⟩:=q1;subst e;cases r1 with
 |cons r rr=>
  cases rr;obtain⟨t,rfl⟩:=r;exact call_range_1 (PP I1 (by omega) (by omega) q1 q2 (by simpa using q))
def sY(wi:TI)(g:TG)(tb:TS):TS:=λD σ H=>wi σ H λJ H1=>∃W:Nat->Nat->St->Hp->Prop,(∃m,W 0 m σ H1)/\∀i m σ H,W i m σ H ->
 (J.stop i H/\D.nx σ H)\/(J.go i H/\∃N:St->Hp->Prop,(∀σ' H',N σ' H'->∃m',m'<m/\W (i+1) m' σ' H')/\∀x H',J.yld i H x H'->g x σ H' λσ2 H2=>tb { D with nx:=N,ct:=N,bk:=D.nx } σ2 H2)
def wu(fp:List ah)(h:aI):List (ah×Obj):=fp.filterMap λb=>(h.get? b).map λo=>(b,o)
theorem qT{fp:List ah}{h:aI}{b:ah}{o:Obj}(hb:b∈fp)(e:h.get? b=ab o):(b,o)∈wu fp h:=IJ.mpr ⟨b,hb,by rw[e];rfl⟩
theorem Le{fp:List ah}{h:aI}{p:ah×Obj}(hp:p∈wu fp h):p.1∈fp/\h.get? p.1=ab p.2:=by
 obtain⟨b,hb,e⟩:=IJ.mp hp;cases q:h.get? b with
 |none=>rw[q]at e;cases e
 |some o=>
  rw[q]at e;have e':(b,o)=p:=gi e;subst e';exact⟨hb,q⟩
theorem Inv.pinned{af:List (ah×Obj)}{σ:St}{H:Hp}{s:ao}{fp:List ah}(I:Inv X af σ H s)(hf:∀b∈fp,fJ X af H b)(ho:∀b∈fp,∃o,s.heap.get? b=ab o/\∀v,o.data≠.cell v):Inv X (af++wu fp s.heap) σ H s:=
 I.zA λp hp=>(fk.mp hp).elim (λz=>I.pin p (ga _ z)) λz=>by
  obtain⟨hb,e⟩:=Le z;obtain⟨f0,f1,f2,_⟩:=hf p.1 hb;obtain⟨o,e',d⟩:=ho p.1 hb;rw[e]at e';cases e';exact⟨e,f0,f1,f2,d⟩
theorem Inv.qd{af pl:List (ah×Obj)}{σ:St}{H:Hp}{s:ao}(I:Inv X (af++pl) σ H s):Inv X af σ H s:=I.zA λp hp=>I.pin p (ga _ (ku _ hp))
theorem fB{iter:aR}{body:List bC}{wi:TI}{g:TG}{tb:TS}{pos:Pos}(hp:PassesOwn (model X.prog X.w) X.A X.env X.xe)(hc:X.calm=true)(hi:PI X tg iter wi)(hg:PG X tg g)(hb:gY X body tb)
 (hs:∀x,foldedSetIterable iter X.env x=pure x:=by intro _;rfl):PS X (.For tg iter body [] pos) (sY wi g tb):=by
 intro af s σ H D I h;refine wpAny_For (aS (hi af s σ H _ I h) λv s1 h1=>aS h1 λitv s2 h2=>?_) hs;obtain⟨it,fp,tn,J,H2,e,I2,T,st2,f2,W,⟨m0,w0⟩,turn⟩:=h2;subst e;have stat:∀{H':Hp},(∀b∈fp,H' b=ae)->∀b∈fp,fJ X af H' b:=λhn b hb=>⟨hn b hb,(f2 b hb).2⟩;refine codeAny_forLoop_any (λn s'=>∃i σ' H',Inv X af σ' H' s'/\tn i s'.heap/\(∀b∈fp,H' b=ae)/\W i n σ' H') ?_ m0 ⟨0,σ,H2,I2,st2,λb hb=>(f2 b hb).1,w0⟩;rintro n s3 ⟨i,σ3,H3,I3,st3,fr3,w3⟩;rcases turn i n σ3 H3 w3 with ⟨stop,qn⟩|⟨go,N,hN,step⟩
 ·refine pH hp (aS (T.done X rfl rfl rfl hc i af s3 σ3 H3 X.xe I3 (stat fr3) st3 stop) λr s4 ⟨hr,I4⟩=>?_);subst hr;exact wF ⟨σ3,H3,I4,qn⟩
 ·refine pH hp (aS (T.item X rfl rfl rfl hc i af s3 σ3 H3 X.xe I3 (stat fr3) st3 go) λr s4 ⟨u,hr,h4⟩=>?_);subst hr;refine pH hp (aS h4 λ_ s5 ⟨x,H5,I5,r5,y5,st5,fr5⟩=>?_);have I5':=I5.pinned (stat fr5) (T.obj _ _ st5);refine pH hp (aS (hg _ s5 σ3 H5 x u _ I5' r5 (step x H5 y5)) λ_ s6 ⟨σ6,H6,I6,q6⟩=>?_);refine pH hp (aS (hb _ s6 σ6 H6 _ I6 q6) λf s7 q7=>?_);have again:∀{σ7:St} {H7:Hp},Inv X (af++wu fp s5.heap) σ7 H7 s7->N σ7 H7->∃m,m<n/\∃i σ' H',Inv X af σ' H' s7/\tn i s7.heap/\(∀b∈fp,H' b=ae)/\W i m σ' H':=λ{σ7 H7} I7 n7=>by
   obtain⟨m',hm,w7⟩:=hN σ7 H7 n7;refine⟨m',hm,i+1,σ7,H7,I7.qd,T.keep _ _ _ st5 λb hb o e=>(I7.pin (b,o) (ga _ (ga _ (qT hb e)))).1,λb hb=>?_,w7⟩;obtain⟨o,e,d⟩:=T.obj _ _ st5 b hb;exact(I7.pin (b,o) (ga _ (ga _ (qT hb e)))).2.1
  cases f with
  |next=>obtain⟨σ7,H7,I7,n7⟩:=q7;exact again I7 n7
  |cont=>obtain⟨σ7,H7,I7,n7⟩:=q7;exact again I7 n7
  |brk=>obtain⟨σ7,H7,I7,q7⟩:=q7;exact⟨σ7,H7,I7.qd,q7⟩
  |ret v=>obtain⟨x7,σ7,H7,I7,r7,q7⟩:=q7;exact⟨x7,σ7,H7,I7.qd,r7,q7⟩
end
abbrev R2:=V->V->Hp->VK->Prop
def cQ(X:Cx)(f:ag->ag->Sem ag)(r:R2):Prop:=
 ∀(af:List (ah×Obj)) (s:ao) (σ:St) (H:Hp) (x y:V) (v u:ag) (Q:VK),Inv X af σ H s->RelV x v->RelV y u->r x y H Q ->
  wpAny (model X.prog X.w) X.A (f v u) (EP X af σ Q) X.xe s
def Ag(X:Cx)(f:ag->Sem ag)(r:V->Hp->VK->Prop):Prop:=
 ∀(af:List (ah×Obj)) (s:ao) (σ:St) (H:Hp) (x:V) (v:ag) (Q:VK),Inv X af σ H s->RelV x v->r x H Q ->
  wpAny (model X.prog X.w) X.A (f v) (EP X af σ Q) X.xe s
def fZ(X:Cx)(f:ag)(r:List V->Hp->VK->Prop):Prop:=
 ∀(af:List (ah×Obj)) (s:ao) (σ:St) (H:Hp) (xs:List V) (us:List ag) (Q:VK),Inv X af σ H s->Vals xs us->r xs H Q ->
  wpAny (model X.prog X.w) X.A (call f us) (EP X af σ Q) X.xe s
def Ld(X:Cx)(r:V->Hp->(Bool->Hp->Prop)->Prop):Prop:=
 ∀(af:List (ah×Obj)) (s:ao) (σ:St) (H:Hp) (x:V) (v:ag) (Q:Bool->Hp->Prop),Inv X af σ H s->RelV x v->r x H Q ->
  wpAny (model X.prog X.w) X.A (truthy v) (TP X af σ Q) X.xe s
def qK(r:R2)(ta tb:TE):TE:=λσ H Q=>ta σ H λx H1=>tb σ H1 λy H2=>r x y H2 Q
def GI(r:V->Hp->VK->Prop)(ta:TE):TE:=λσ H Q=>ta σ H λx H1=>r x H1 Q
def rI(C:Int->Int->Prop)(g:Int->Int->V):R2:=λx y H Q=>∃i j,x=.int i/\y=.int j/\C i j/\Q (g i j) H
def jI(g:Int->Int->V):R2:=λx y H Q=>∃i j,x=.int i/\y=.int j/\Q (g i j) H
def rU(g:Int->V):V->Hp->VK->Prop:=λx H Q=>∃i,x=.int i/\Q (g i) H
section
variable{X:Cx}{a b c:aR}{ta tb tc:TE}{pos:Pos}
theorem x5(ha:PE X a ta)(hb:PE X b tb){af:List (ah×Obj)}{s:ao}{σ:St}{H:Hp}{R:V->V->Hp->Prop}(I:Inv X af σ H s)
 (h:ta σ H λx H1=>tb σ H1 λy H2=>R x y H2) {Q:ag->ao->Prop} {f:ag->ag->Sem ag}
 (hf:∀v u s2 x y H2,Inv X af σ H2 s2->RelV x v->RelV y u->R x y H2->wpAny (model X.prog X.w) X.A (f v u) Q X.xe s2) :
 wpAny (model X.prog X.w) X.A (eval a X.env) (λv s₁=>wpAny (model X.prog X.w) X.A (eval b X.env) (λu s₂=>wpAny (model X.prog X.w) X.A (f v u) Q X.xe s₂) X.xe s₁) X.xe s:=by
 refine aS (ha af s σ H _ I h) λv s1 ⟨x,H1,I1,r1,q1⟩=>?_;refine aS (hb af s1 σ H1 _ I1 q1) λu s2 ⟨y,H2,I2,r2,q2⟩=>?_;exact hf v u s2 x y H2 I2 r1 r2 q2
theorem bt{op:Operator}{r:R2}(ho:cQ X (binaryOp op) r)(ha:PE X a ta)(hb:PE X b tb):PE X (.BinOp a op b pos) (qK r ta tb):=by intro af s σ H Q I h;exact wpAny_BinOp (x5 ha hb I h λv u s2 x y H2 I2 rx ry q=>ho af s2 σ H2 x y v u Q I2 rx ry q)
theorem FO{op:UnaryOp}{r:V->Hp->VK->Prop}(ho:Ag X (unaryOp op) r)(ha:PE X a ta):PE X (.UnaryOp op a pos) (GI r ta):=by intro af s σ H Q I h;exact UnaryOp_ (aS (ha af s σ H _ I h) λv s1 ⟨x,H1,I1,r1,q1⟩=>ho af s1 σ H1 x v Q I1 r1 q1)
theorem zB{f:ag->ag->Sem ag}{C:Int->Int->Prop}{g:Int->Int->Int}
 (rule:∀(i j:Int) (t u:Tok) (s:ao) (Q:ag->ao->Prop) (E:ag->ao->Prop),C i j->Q (.int (g i j) s.toks) { s with toks:=s.toks+1 }->wpAny (model X.prog X.w) X.A (f (.int i t) (.int j u)) Q E s) :
 cQ X f (rI C λi j=>.int (g i j)):=by
 intro af s σ H x y v u Q I rx ry h;obtain⟨i,j,rfl,rfl,hc,q⟩:=h;obtain⟨t,rfl⟩:=rx;obtain⟨t',rfl⟩:=ry;exact rule i j t t' s _ _ hc ⟨.int (g i j),H,I.tok _,⟨_,rfl⟩,q⟩
theorem Hf{f:ag->ag->Sem ag}{g:Int->Int->Int}
 (rule:∀(i j:Int) (t u:Tok) (s:ao) (Q:ag->ao->Prop) (E:ag->ao->Prop),Q (.int (g i j) s.toks) { s with toks:=s.toks+1 }->wpAny (model X.prog X.w) X.A (f (.int i t) (.int j u)) Q E s) :
 cQ X f (jI λi j=>.int (g i j)):=by
 intro af s σ H x y v u Q I rx ry h;obtain⟨i,j,rfl,rfl,q⟩:=h;obtain⟨t,rfl⟩:=rx;obtain⟨t',rfl⟩:=ry;exact rule i j t t' s _ _ ⟨.int (g i j),H,I.tok _,⟨_,rfl⟩,q⟩
theorem yb{f:ag->ag->Sem ag}{g:Int->Int->Bool}
 (rule:∀(i j:Int) (t u:Tok) (s:ao) (Q:ag->ao->Prop) (E:ag->ao->Prop),Q (.bool (g i j)) s->wpAny (model X.prog X.w) X.A (f (.int i t) (.int j u)) Q E s) :
 cQ X f (jI λi j=>.bl (g i j)):=by
 intro af s σ H x y v u Q I rx ry h;obtain⟨i,j,rfl,rfl,q⟩:=h;obtain⟨t,rfl⟩:=rx;obtain⟨t',rfl⟩:=ry;exact rule i j t t' s _ _ ⟨.bl (g i j),H,I,rfl,q⟩
def uL(i j:Int):Prop:=(-(2 ^ 64)<i/\i<2 ^ 64)\/(-(2 ^ 64)<j/\j<2 ^ 64)
theorem uL.ok{i j:Int}(h:uL i j):IntMulOk i j:=by
 rcases h with ⟨h1,h2⟩|⟨h1,h2⟩
 ·exact .of_left (intBits_le_64 h1 h2)
 ·exact .of_right (intBits_le_64 h1 h2)
theorem RI:cQ X (binaryOp .Add) (jI λi j=>.int (i+j)):=Hf λ_ _ _ _ _ _ _ q=>add_int q
theorem F6:cQ X (binaryOp .Sub) (jI λi j=>.int (i-j)):=Hf λ_ _ _ _ _ _ _ q=>sub_int q
theorem i7:cQ X (binaryOp .Mult) (rI uL λi j=>.int (i*j)):=zB λ_ _ _ _ _ _ _ hc q=>mul_int q hc.ok
theorem ik:cQ X (binaryOp .Mod) (rI (λ_ j=>0<j) λi j=>.int (i%j)):=zB λi j _ _ _ _ _ hc q=>by
 have h1:(0:Int)<j:=hc;exact mod_int' (by omega) (by rw[Int.fmod_eq_emod_of_nonneg i (by omega)];exact q)
theorem RF{f:ag->Sem ag}{g:Int->Int}
 (rule:∀(i:Int) (t:Tok) (s:ao) (Q:ag->ao->Prop) (E:ag->ao->Prop),Q (.int (g i) s.toks) { s with toks:=s.toks+1 }->wpAny (model X.prog X.w) X.A (f (.int i t)) Q E s) :
 Ag X f (rU λi=>.int (g i)):=by
 intro af s σ H x v Q I rx h;obtain⟨i,rfl,q⟩:=h;obtain⟨t,rfl⟩:=rx;exact rule i t s _ _ ⟨.int (g i),H,I.tok _,⟨_,rfl⟩,q⟩
theorem E3:Ag X (unaryOp .USub) (rU λi=>.int (-i)):=RF λ_ _ _ _ _ q=>neg_int q
end
section
variable{X:Cx}{a b c:aR}{ta tb tc:TE}{pos:Pos}
theorem yU{af:List (ah×Obj)}{σ:St}{H:Hp}{s:ao}{Q:VK}{k k':Bool}(I:Inv X af σ H s)(q:Q (.bl k) H)(e:k=k'):EP X af σ Q (.bool k') s:=by subst e;exact⟨.bl k,H,I,rfl,q⟩
theorem Qw:cQ X (compareOp .Lt) (jI λi j=>.bl (decide (i<j))):=yb λ_ _ _ _ _ _ _ q=>lt_int q
theorem Q2:cQ X (compareOp .LtE) (jI λi j=>.bl (decide (i<=j))):=yb λ_ _ _ _ _ _ _ q=>le_int q
theorem Nw:cQ X (compareOp .Gt) (jI λi j=>.bl (decide (j<i))):=yb λ_ _ _ _ _ _ _ q=>gt_int q
theorem KL:cQ X (compareOp .Lt) (λx y H Q=>∃i j,x=.str i/\y=.str j/\Q (.bl (decide (i.cps.toList<j.cps.toList))) H):=by intro af s σ H x y v u Q I rx ry h;obtain⟨i,j,rfl,rfl,q⟩:=h;obtain⟨t,rfl⟩:=rx;obtain⟨t',rfl⟩:=ry;exact lt_str (yU I q rfl)
theorem Nd:cQ X (compareOp .In) (λx y H Q=>∃i j,x=.str i/\y=.str j/\Q (.bl (!(Builtin.Str.occurrences j i 0 j.length 1).isEmpty)) H):=by intro af s σ H x y v u Q I rx ry h;obtain⟨i,j,rfl,rfl,q⟩:=h;obtain⟨t,rfl⟩:=rx;obtain⟨t',rfl⟩:=ry;exact in_str (yU I q rfl)
theorem cQ.or{f:ag->ag->Sem ag}{r r':R2}(h:cQ X f r)(h':cQ X f r'):cQ X f (λx y H Q=>r x y H Q\/r' x y H Q):=by
 intro af s σ H x y v u Q I rx ry q;rcases q with q|q
 ·exact h af s σ H x y v u Q I rx ry q
 ·exact h' af s σ H x y v u Q I rx ry q
theorem eR(b:aR){op:CmpOp}(h:op≠.In:=by decide)(h2:op≠.NotIn:=by decide):behindInMarks op b=false:=by
 have e1:(op==CmpOp.In)=false:=by cases op<;>first|rfl|exact absurd rfl h
 have e2:(op==CmpOp.NotIn)=false:=by cases op<;>first|rfl|exact absurd rfl h2
 cases b<;>simp[behindInMarks,e1,e2]
theorem i6{op:CmpOp}{r:R2}(ho:cQ X (compareOp op) r)(ha:PE X a ta)(hb:PE X b tb)(hm:behindInMarks op b=false):PE X (.Compare a [op] [b] pos) (qK r ta tb):=by intro af s σ H Q I h;exact wpAny_Compare1 (x5 ha hb I h λv u s2 x y H2 I2 rx ry q=>ho af s2 σ H2 x y v u Q I2 rx ry q) hm
def F2(t:TE):TT:=λσ H Q=>t σ H λx H'=>∃k,x=.bl k/\Q k H'
theorem dG{op:CmpOp}{r:R2}(ho:cQ X (compareOp op) r)(ha:PE X a ta)(hb:PE X b tb)(hm:behindInMarks op b=false):PT X (.Compare a [op] [b] pos) (F2 (qK r ta tb)):=by
 intro af s σ H Q I h;refine wpAny_isTrue_Compare1 (aS (ha af s σ H _ I h) λv s1 ⟨x,H1,I1,r1,q1⟩=>aS (hb af s1 σ H1 _ I1 q1) λu s2 ⟨y,H2,I2,r2,q2⟩=>
  aS (ho af s2 σ H2 x y v u _ I2 r1 r2 q2) λc s3 ⟨z,H3,I3,r3,k,e,q3⟩=>?_) hm
 subst e;cases r3;exact nC ⟨H3,I3,q3⟩
def xU(K:aE)(x:V)(H:Hp)(k:Bool):Prop:=
 match x with
 |.non=>k=false
 |.bl b=>k=b
 |.int i=>k=(i != 0)
 |.str y=>y.length<=sizeLine/\k=((y.length:Int) != 0)
 |.byt y=>y.size<=sizeLine/\k=((y.size:Int) != 0)
 |.ref p=>(∃xs,eS K H p xs/\k = !xs.isEmpty)\/(∃xs,fw K H p xs/\k = !xs.isEmpty)\/∃am,H p=ab (.dK am)/\k = !am.isEmpty
 |_=>False
theorem QE{κ:Type}{am:List (κ×V)}{vs:List (κ×ag)}(r:KV am vs):(!vs.isEmpty) = !am.isEmpty:=by cases r<;>rfl
theorem G1{xs:List V}{aj:List ag}(r:Vals xs aj):(!aj.toArray.isEmpty) = !xs.isEmpty:=by cases r<;>simp
theorem sO:(sizeLine:Nat)<2 ^ 63:=by rw[b9];decide
theorem K2:Ld X (λx H Q=>∃k,xU X.K x H k/\Q k H):=by
 intro af s σ H x v Q I rx h;obtain⟨k,e,q⟩:=h;have hl:=sO;have hs:sizeLine=16777216:=b9;cases x with
 |non=>
  cases rx;have e':k=false:=e;subst e';exact truthy_none ⟨H,I,q⟩
 |bl b=>
  cases rx;have e':k=b:=e;subst e';exact nC ⟨H,I,q⟩
 |int i=>
  obtain⟨t,rfl⟩:=rx;have e':k=(i != 0):=e;subst e';exact PySem.P.truthy_int ⟨H,I,q⟩
 |str y=>
  obtain⟨t,rfl⟩:=rx;obtain⟨hy,e'⟩ : y.length<=sizeLine/\k=((y.length:Int) != 0):=e;subst e';exact PySem.P.truthy_str (by omega) ⟨H,I.tok _,q⟩
 |byt y=>
  obtain⟨t,rfl⟩:=rx;obtain⟨hy,e'⟩ : y.size<=sizeLine/\k=((y.size:Int) != 0):=e;subst e';exact PySem.W.truthy_bytes (by omega) ⟨H,I.tok _,q⟩
 |ref p=>
  cases rx;have e':(∃xs,eS X.K H p xs/\k = !xs.isEmpty)\/(∃xs,fw X.K H p xs/\k = !xs.isEmpty)\/∃am,H p=ab (.dK am)/\k = !am.isEmpty:=e;rcases e' with ⟨xs,hx,e'⟩|⟨xs,hx,e'⟩|⟨am,hx,e'⟩
  ·subst e';obtain⟨aj,r,pl,hz⟩:=I.list hx;have hlen:=r.length;exact wpAny_truthy_list pl.isList (by simp only[bK];omega) ⟨H,I.tok _,by rw[G1 r];exact q⟩
  ·subst e';obtain⟨aj,r,pl,hz⟩:=I.tuple hx;have hlen:=r.length;exact truthy_tuple pl (by simp only[bK];omega) ⟨H,I.tok _,by rw[G1 r];exact q⟩
  ·subst e';obtain⟨hz,hS,vs,r,m⟩ : am.length<=sizeLine/\(p==sysModules)=false/\∃vs,KV am vs/\s.heap.DictOf (gN X.prog X.w) p vs:=I.hok p _ hx;have hlen:am.length=vs.length:=rJ r;exact wpAny_truthy_dict hS m (by omega) ⟨H,I.tok _,by rw[QE r];exact q⟩
 |_=>exact(show False from e).elim
theorem GA(ha:PE X a ta)(he:∀whole,isTrue a X.env whole=(do let v <- whole;standAt a.pos;holding [v] (truthy v))) :
 PT X a (λσ H Q=>ta σ H λx H'=>∃k,xU X.K x H' k/\Q k H'):=by
 intro af s σ H Q I h;exact isTrue_plain (aS (ha af s σ H _ I h) λv s1 ⟨x,H1,I1,r1,q1⟩=>K2 af s1 σ H1 x v Q I1 r1 q1) (he _)
theorem MP:cQ X (binaryOp .Add) (λx y H Q=>∃i j,x=.str i/\y=.str j/\i.length+j.length<=sizeLine/\Q (.str (i++j)) H):=by intro af s σ H x y v u Q I rx ry h;obtain⟨i,j,rfl,rfl,hz,q⟩:=h;obtain⟨t,rfl⟩:=rx;obtain⟨t',rfl⟩:=ry;exact add_str (λt' tk=>⟨.str (i++j),H,I.tok _,⟨_,rfl⟩,q⟩) hz
theorem vals1{x:V}{us:List ag}(r:Vals [x] us):∃u,us=[u]/\RelV x u:=by
 cases r with
 |cons r1 r2=>cases r2;exact⟨_,rfl,r1⟩
theorem vals2{x y:V}{us:List ag}(r:Vals [x,y] us):∃u w',us=[u,w']/\RelV x u/\RelV y w':=by
 cases r with
 |cons r1 r2=>
  cases r2 with
  |cons r3 r4=>cases r4;exact⟨_,_,rfl,r1,r3⟩
theorem Rx(hc:X.calm=true):fZ X (.builtin "max") (λxs H Q=>∃i j,xs=[.int i,.int j]/\Q (.int (if j>i then j else i)) H):=by
 intro af s σ H xs us Q I r h;obtain⟨i,j,rfl,q⟩:=h;obtain⟨u,w',rfl,⟨t,rfl⟩,⟨t',rfl⟩⟩:=vals2 r;refine max_two_ints (I.ok.hd hc) λh' tk k=>⟨_,H,I.kept k,?_,q⟩;by_cases hj:j>i
 ·rw[aH hj,aH hj];exact⟨_,rfl⟩
 ·rw[ay hj,ay hj];exact⟨_,rfl⟩
theorem Oh(hc:X.calm=true):fZ X (.builtin "min") (λxs H Q=>∃i j,xs=[.int i,.int j]/\Q (.int (if j<i then j else i)) H):=by
 intro af s σ H xs us Q I r h;obtain⟨i,j,rfl,q⟩:=h;obtain⟨u,w',rfl,⟨t,rfl⟩,⟨t',rfl⟩⟩:=vals2 r;refine min_two_ints (I.ok.hd hc) λh' tk k=>⟨_,H,I.kept k,?_,q⟩;by_cases hj:j<i
 ·rw[aH hj,aH hj];exact⟨_,rfl⟩
 ·rw[ay hj,ay hj];exact⟨_,rfl⟩
def HK(K:aE)(x:V)(H:Hp)(n:Nat):Prop:=
 match x with
 |.str y=>y.length<=sizeLine/\n=y.length
 |.byt y=>y.size<=sizeLine/\n=y.size
 |.ref p=>(∃xs,eS K H p xs/\n=xs.length)\/∃xs,fw K H p xs/\n=xs.length
 |_=>False
theorem NI:fZ X (.builtin "len") (λxs H Q=>∃x n,xs=[x]/\HK X.K x H n/\Q (.int n) H):=by
 intro af s σ H xs us Q I r h;obtain⟨x,n,rfl,e,q⟩:=h;obtain⟨u,rfl,rx⟩:=vals1 r;have hl:=sO;have hs:sizeLine=16777216:=b9;cases x with
 |str y=>
  obtain⟨t,rfl⟩:=rx;obtain⟨hy,e'⟩ : y.length<=sizeLine/\n=y.length:=e;subst e';exact len_str (by omega) ⟨.int _,H,I.tok _,⟨_,rfl⟩,q⟩
 |byt y=>
  obtain⟨t,rfl⟩:=rx;obtain⟨hy,e'⟩ : y.size<=sizeLine/\n=y.size:=e;subst e';exact PySem.W.len_bytes (by omega) ⟨.int _,H,I.tok _,⟨_,rfl⟩,q⟩
 |ref p=>
  cases rx;have e':(∃xs,eS X.K H p xs/\n=xs.length)\/∃xs,fw X.K H p xs/\n=xs.length:=e;rcases e' with ⟨xs,hx,e'⟩|⟨xs,hx,e'⟩
  ·subst e';obtain⟨aj,r',pl,hz⟩:=I.list hx;have hlen:=r'.length;exact Calls.call_len_list pl.isList (by simp only[bK];omega) ⟨.int xs.length,H,I.tok _,⟨_,by simp only[bK];rw[hlen]⟩,q⟩
  ·subst e';obtain⟨aj,r',pl,hz⟩:=I.tuple hx;have hlen:=r'.length;exact len_tuple pl (by simp only[bK];omega) ⟨.int xs.length,H,I.tok _,⟨_,by simp only[bK];rw[hlen]⟩,q⟩
 |_=>exact(show False from e).elim
end
structure yg(h:aI)(x dx C:ah)(mA:Str->Option ag):Prop where
 obj:h.get? x=ab (Bj C dx)
 ns:h.Ns1 dx mA
 ne:dx≠x
theorem Pr{h:aI}{dx:ah}{mA:Str->Option ag}(n:h.Ns1 dx mA):∃od,h.get? dx=ab od/\∀name,Bl name od=ab (mA name):=by
 obtain⟨o,es,ep,ho,hd,hk,_,hm⟩:=n;refine⟨o,ho,λname=>?_⟩;have e:=hm name;unfold nsFind findBy at e;rw[<- Array.find?_toList]at e;unfold Bl;rw[hd];dsimp only;split
 ·rename_i y q;rw[q]at e;exact congrArg ab e
 ·rename_i q;rw[q]at e;have a:es.toList.any (·.refKey)=false:=by
   rw[Ba];intro y hy;obtain⟨z,t,hkey⟩:=hk y (Array.mem_toList_iff.mp hy);simp[DictEntry.refKey,hkey]
  have a':¬ es.toList.any (·.refKey)=true:=by rw[a];exact cy
  rw[ay a'];exact congrArg ab e
theorem yg.look{h:aI}{x dx C:ah}{mA:Str->Option ag}(I:yg h x dx C mA):∃od,PySem.W.InstAt h x (Bj C dx) C (ab od)/\∀name,Bl name od=ab (mA name):=
 let ⟨od,ho,hl⟩:=Pr I.ns
 ⟨od,⟨I.obj,rfl,rfl,ho⟩,hl⟩
section
variable{P:bg}{w:aY}{H H':Hp}{h h':aI}{a C dx:ah}{fs fs':List (Str×V)}
theorem Dj(hok:cX P w H h)(e:H a=ab (.ins C dx fs)):∃mA,yg h a dx C mA/\(∀f,oC (fs.lookup f) (mA f))/\PySem.Within mA (fs.map (·.1))/\fs.length<=1000/\H dx=ab (.own a):=by obtain⟨d,z,ne,ob,mA,n,r,q⟩:=(show bQ P w H h a (.ins C dx fs)from hok a _ e);exact⟨mA,⟨ob,n,ne⟩,r,q,z,d⟩
end
structure Ak(K:aE)(C:ah):Prop where
 pg:IV K C eP=true
 hd:PySem.W.hasDictIn K C=true
 po:PySem.W.plainOver K C=true
 sa:I0 K (.ref C) "__setattr__" = ab (ab (.builtin "object.__setattr__"))
theorem Ak.get{K:aE}{C:ah}(c:Ak K C)(f:Str):IV K C f=true:=c.pg
section
variable{X:Cx}{af:List (ah×Obj)}{σ:St}{H:Hp}{s:ao}{A:bv}{E:ag->ao->Prop}{Q:ag->ao->Prop}{c:ag}{b:Bool}
inductive gV(K:aE)(H:Hp):V->ag->Prop where
 |non:gV K H .non (.type "NoneType")
 |bl (x:Bool):gV K H (.bl x) (.type "bool")
 |int (i:Int):gV K H (.int i) (.type "int")
 |str (x:Str):gV K H (.str x) (.type "str")
 |flt (x:UInt64):gV K H (.flt x) (.type "float")
 |lst {a:ah} {xs:List V} (e:H a=ab (.lst xs)):gV K H (.ref a) (.type "list")
 |frz {a:ah} {o:Obj} {xs:List V} (e:H a=ab (.frz o (.lst xs))):gV K H (.ref a) (.type "list")
 |tup {a:ah} {xs:List V} (e:H a=ab (.tup xs)):gV K H (.ref a) (.type "tuple")
 |dK {a:ah} {am:List (Key×V)} (e:H a=ab (.dK am)):gV K H (.ref a) (.type "dict")
 |dT {a:ah} {am:List (List Key×V)} (e:H a=ab (.dT am)):gV K H (.ref a) (.type "dict")
 | ins {a C dx:ah} {fs:List (Str×V)} (e:H a=ab (.ins C dx fs)) (cl:Ak K C) (ha:I0 K (.ref C) "__class__" = ab (ab (.builtin "object.__class__")))
  (hn:PySem.W.specialIn K (.builtin "object.__class__") "__get__" = ab (ab (.builtin "getset_descriptor.__get__"))) (htk:PySem.W.takesIn K (.builtin "object.__class__")=ab true)
  (hm:PySem.W.mroIn K C (.type "object")=ab true):gV K H (.ref a) (.ref C)
theorem Nj{x:V}{u t:ag}(I:Inv X af σ H s)(rx:RelV x u)(ty:gV X.K H x t)(e:Bm X.K t c=ab b)(h:∀tk,Q (.bool b) { s with toks:=tk }) :
 wpAny (model X.prog X.w) A (call (.builtin "isinstance") [u,c]) Q E s:=by
 cases ty with
 |non=>cases(show u=eE from rx);exact kC IT I.gp g9 e (λz=>nomatch z) h
 |bl y=>cases(show u=jw y from rx);exact kC IU I.gp g9 e (λz=>nomatch z) h
 |int i=>obtain⟨t,q⟩:=(show∃t,u=xk i t from rx);cases q;exact kC IW I.gp g9 e (λz=>nomatch z) h
 |str y=>obtain⟨t,q⟩:=(show∃t,u=mx y t from rx);cases q;exact kC IY I.gp g9 e (λz=>nomatch z) h
 |flt y=>obtain⟨t,q⟩:=(show∃t,u=BF y t from rx);cases q;exact kC IR I.gp g9 e (λz=>nomatch z) h
 | @lst a xs ea=>
  cases(show u=b8 a from rx);obtain⟨_,_,n,_,h1⟩:=(show bQ X.prog X.w H s.heap a (.lst xs)from I.hok a _ ea);exact kC wY I.gp ⟨_,h1,rfl⟩ e (λz=>nomatch z) h
 | @frz a ob xs ea=>
  cases(show u=b8 a from rx);obtain⟨_,_,_,n,_,h1⟩:=(show bQ X.prog X.w H s.heap a (.frz ob (.lst xs))from I.hok a _ ea);exact kC wY I.gp ⟨_,h1,rfl⟩ e (λz=>nomatch z) h
 | @tup a xs ea=>
  cases(show u=b8 a from rx);obtain⟨_,_,_,p⟩:=(show bQ X.prog X.w H s.heap a (.tup xs)from I.hok a _ ea);obtain⟨o,h1,h2,_⟩:=p;exact kC IS I.gp ⟨o,h1,h2⟩ e (λz=>nomatch z) h
 | @dK a am ea=>
  cases(show u=b8 a from rx);obtain⟨_,_,vs,_,p⟩:=(show bQ X.prog X.w H s.heap a (.dK am)from I.hok a _ ea);obtain⟨o,es,ep,h1,h2,_⟩:=p;exact kC wZ I.gp ⟨o,h1,h2.1⟩ e (λz=>nomatch z) h
 | @dT a am ea=>
  cases(show u=b8 a from rx);obtain⟨_,_,xs,_,o,es,ep,h1,h2,_⟩:=(show bQ X.prog X.w H s.heap a (.dT am)from I.hok a _ ea);exact kC wZ I.gp ⟨o,h1,h2.1⟩ e (λz=>nomatch z) h
 | @ins a C dx fs ea cl ha hn htk hm=>
  cases(show u=b8 a from rx);obtain⟨mA,O,_⟩:=Dj I.hok ea;obtain⟨od,J,_⟩:=O.look;exact kC (IZ (cl.get _) cl.hd ha hn htk hm) I.gp J e (λz=>nomatch z) h
end
structure dL(k:Nat)(A:bv):Prop where
 hd:A.handled=ae
 dp:A.depth+3*k+5<recursionLimit
 un:A.units+16*k+200<cLine
theorem dL.mono{j k:Nat}{A:bv}(r:dL k A)(h:j<=k):dL j A:=⟨r.hd,by have:=r.dp;omega,by have:=r.un;omega⟩
theorem dL.deeper{k:Nat}{A:bv}(r:dL (k+1) A)(env:Env):dL k (A.deeper env):=⟨r.hd,by have:=r.dp;show A.depth+1+3*k+5<_;omega,by have:=r.un;show A.units+3+16*k+200<_;omega⟩
theorem dL.in1{k:Nat}{A:bv}(r:dL (k+1) A):dL k A.in1:=⟨r.hd,by have:=r.dp;show A.depth+3*k+5<_;omega,by have:=r.un;show A.units+1+16*k+200<_;omega⟩
theorem dL.depth{k:Nat}{A:bv}(r:dL k A):A.depth<recursionLimit:=by have:=r.dp;omega
theorem dL.units{k:Nat}{A:bv}(r:dL k A):A.units+64<cLine:=by have:=r.un;omega
def f6:TA:=λ_ H Q=>Q [] H
def fu(ta:TE)(tr:TA):TA:=λσ H Q=>ta σ H λx H1=>tr σ H1 λxs H2=>Q (x::xs) H2
section
variable{X:Cx}{e:aR}{es:List aR}{te:TE}{t:TA}{pos:Pos}
theorem a8:PA X [] f6:=λ_ _ _ _ H Q I h=>JI ⟨[],H,I,.nil,h⟩
theorem aq(ha:PE X e te)(hr:PA X es t)(hs:starEach (e::es) X.env=(false,eval e X.env)::starEach es X.env:=by rfl):PA X (e::es) (fu te t):=by intro pos af s σ H Q I h;rw[hs];show wpAny _ _ (spliced ((false,eval e X.env)::backTo pos (starEach es X.env))) _ _ s;refine JH (aS (ha af s σ H _ I h) λu s1 ⟨x,H1,I1,r1,q1⟩=>?_);exact aS (hr pos af s1 σ H1 _ I1 q1) λus s2 ⟨xs,H2,I2,r2,q2⟩=>⟨x::xs,H2,I2,.cons r1 r2,q2⟩
def zh(t:TA):TE:=λσ H Q=>t σ H λxs H1=>xs.length<=sizeLine/\∀p,H1 p=ae->Q (.ref p) (upd H1 p (.tup xs))
def EF(t:TA):TE:=λσ H Q=>t σ H λxs H1=>xs.length<=sizeLine/\∀p,H1 p=ae->Q (.ref p) (upd H1 p (.lst xs))
theorem bX{x1}(h:PA X es t):PE X (.Tuple es x1 pos) (zh t):=by intro af s σ H Q I hq;refine wpAny_Tuple_spliced (aS (h pos af s σ H _ I hq) λus s1 ⟨xs,H1,I1,r,z,q⟩=>⟨by rw[<- r.length];exact z,?_⟩);have hf:H1 s1.heap.objs.size=ae:=I1.hok.fresh (ba _);refine⟨.ref s1.heap.objs.size,upd H1 s1.heap.objs.size (.tup xs),I1.laid (t':=s1.toks) (λb u e=>bD _ e) (ba _) ?_,rfl,q _ hf⟩;exact⟨z,us,r,⟨_,bS _ rfl,rfl,rfl,_,rfl⟩⟩
theorem iz(h:PA X es t):PE X (.List es pos) (EF t):=by intro af s σ H Q I hq;refine wpAny_List_spliced (aS (h pos af s σ H _ I hq) λus s1 ⟨xs,H1,I1,r,z,q⟩=>⟨by rw[<- r.length];exact z,?_⟩);have hf:H1 s1.heap.objs.size=ae:=I1.hok.fresh (ba _);refine⟨.ref s1.heap.objs.size,upd H1 s1.heap.objs.size (.lst xs),I1.laid (t':=s1.toks) (λb u e=>bD _ e) (ba _) ?_,rfl,q _ hf⟩;exact⟨z,us,0,r,bS _ rfl⟩
end
abbrev Sp:=List V->Hp->VK->XK->Prop
abbrev gF:=List Env->Hp->ao->XK->ag->ao->Prop
structure uK(P:bg)(w:aY)(K:aE)(mg:Str->Option ag)(base:aI)(A:bv)(outer:List Env)(s:ao)(H:Hp):Prop where
 frames:A.frames=ab outer
 mod:Mod K mg base
 bs:∀b o,base.get? b=ab o->s.heap.get? b=ab o/\H b=ae
 bsz:base.objs.size<=s.heap.objs.size
 km:s.heap.FunFrames base outer
 frf:∀b∈frs outer,H b=ae
 hok:cX P w H s.heap
 bare:nW s.gens
def CE(outer:List Env)(P:bg)(w:aY)(H:Hp)(s:ao)(Q:VK)(u:ag)(s':ao):Prop:=∃v H',s'.os=s.os/\nW s'.gens/\Un (frs outer) [] H H' s.heap s'.heap/\cX P w H' s'.heap/\RelV v u/\Q v H'
def CR(CX:gF)(outer:List Env)(P:bg)(w:aY)(H:Hp)(s:ao)(Q:VK)(E:XK)(r:Result)(s':ao):Prop:=
 match r with
 |.ok (.ret u)=>CE outer P w H s Q u s'
 |.ok _=>False
 |.error e=>CX outer H s E e s'
structure bF(P:bg)(w:aY)(K:aE)(mg:Str->Option ag)(base:aI)(CX:gF)(k:Nat)(f:ah)(fd:bM)(ps:List Str)(sp:Sp):Prop where
 len:∀vs H Q E,sp vs H Q E->vs.length=ps.length
 run:∀(A:bv) (outer:List Env) (s:ao) (H:Hp) (args:Args) (us:List ag) (vs:List V) (Q:VK) (E:XK),dL k A->uK P w K mg base A outer s H->nL s fd args (ps.zip us)->Vals vs us->sp vs H Q E ->
  codeAny (model P w) A (.call (.ref f) args) (CR CX outer P w H s Q E) s
theorem bF.imp{P:bg}{w:aY}{K:aE}{mg:Str->Option ag}{base:aI}{CX:gF}{k:Nat}{f:ah}{fd:bM}{ps:List Str}{sp sp':Sp}(F:bF P w K mg base CX k f fd ps sp)
 (h:∀vs H Q E,sp' vs H Q E->sp vs H Q E):bF P w K mg base CX k f fd ps sp':=
 ⟨λvs H Q E q=>F.len vs H Q E (h _ _ _ _ q),λA outer s H args us vs Q E hr he hb hv hs=>F.run A outer s H args us vs Q E hr he hb hv (h _ _ _ _ hs)⟩
section
variable{X:Cx}{af:List (ah×Obj)}{σ:St}{H:Hp}{s s':ao}
theorem Inv.env0(I:Inv X af σ H s):uK X.prog X.w X.K X.mg X.base X.A X.stack s H:=⟨I.ok.frames,I.ok.mod,I.bs,dw I.ok.bsz I.sz,I.stack,I.Aa,I.hok,I.bare⟩
theorem Inv.after{Q:VK}{u:ag}(I:Inv X af σ H s)(h:CE X.stack X.prog X.w H s Q u s'):EP X af σ Q u s':=by obtain⟨v,H',os,bare,un,hok,r,q⟩:=h;obtain⟨hh,g,d,t,os'⟩:=s';obtain rfl:os'=s.os:=os;exact⟨v,H',I.call (h':=hh) (g':=g) (d':=d) (t':=t) (ch:=[]) un hok bare (λb z=>absurd z (by simp)),r,q⟩
end
def mL(sp:Sp)(dvs:List V)(E:XK)(t:TA):TE:=λσ H Q=>t σ H λvs H1=>sp (vs++dvs) H1 Q E
def Binds(K:aE)(fd:bM)(ps:List Str)(ds:List ag):Prop:=∀(s:ao) (us:List ag),K.In s.heap->(us++ds).length=ps.length->nL s fd ⟨us,[]⟩ (ps.zip (us++ds))
theorem Binds.all{K:aE}{fd:bM}{ps:List Str}(h:∀us:List ag,us.length=ps.length->bindArgs fd ⟨us,[]⟩=pure (ps.zip us)):Binds K fd ps []:=λs us _ hl=>by
 rw[nR]at hl ⊢;exact .of_eq (h us hl)
def uG(CX:gF)(X:Cx)(E:XK):Prop:=∀(af:List (ah×Obj)) (σ:St) (H:Hp) (s:ao) (e:ag) (s':ao),Inv X af σ H s->CX X.stack H s E e s'->X.xe e s'
section
variable{X:Cx}{CX:gF}{k:Nat}{f C:ah}{fd:bM}{ps:List Str}{sp:Sp}{dvs:List V}{ds:List ag}{E:XK}{x m:Str}{p pos apos:Pos}{e o:aR}{es:List aR}{ta:TE}{t:TA}
theorem KZ{af:List (ah×Obj)}{σ:St}{H:Hp}{s:ao}{Q:VK}{us:List ag}{vs:List V}(F:bF X.prog X.w X.K X.mg X.base CX k f fd ps sp)(hr:dL k X.A)(hb:Binds X.K fd ps ds)(hd:Vals dvs ds)(hx:uG CX X E)
 (I:Inv X af σ H s) (r:Vals vs us) (h:sp (vs++dvs) H Q E):wpAny (model X.prog X.w) X.A (call (.ref f) us) (EP X af σ Q) X.xe s:=by
 have r2:Vals (vs++dvs) (us++ds):=r.append hd;have hl:(us++ds).length=ps.length:=by rw[<- r2.length];exact F.len _ _ _ _ h
 refine wL (codeAny_mono (F.run X.A X.stack s H ⟨us,[]⟩ (us++ds) (vs++dvs) Q E hr I.env0 (hb s us I.gp hl) r2 h) λr s' hq=>?_);cases r with
 |error e=>exact hx af σ H s e s' I hq
 |ok fl=>
  cases fl with
  |ret u=>exact I.after hq
  |next=>exact lw hq
  |brk=>exact lw hq
  |cont=>exact lw hq
theorem Ma(F:bF X.prog X.w X.K X.mg X.base CX k f fd ps sp)(hr:dL k X.A)(hg:Gl X x)(hm:X.mg x=ab (.ref f))(hk:nS X.K (.ref f)=true)(hb:Binds X.K fd ps ds)(hd:Vals dvs ds)(hx:uG CX X E)
 (ha:PA X (e::es) t) (hdb:(x==("__debug__" : Str))=false:=by decide) (he:starEach (e::es) X.env=(false,eval e X.env)::starEach es X.env:=by rfl) (hpl:(backTo pos (starEach es X.env)).any (·.1)=false:=by rfl) :
 PE X (.Call (.Name x p) (e::es) [] pos) (mL sp dvs E t):=by
 intro af s σ H Q I h;refine wC (RE I hg hm ?_ hdb);refine PySem.W.callWith_K (h₀:=X.base) I.ok.mod.kin hk (aS (ha pos af s σ H _ I h) λus s1 ⟨vs,H1,I1,r,q⟩=>⟨I1.gp,?_⟩) he hpl;exact KZ F hr hb hd hx I1 r q
end
structure cY(N P:List Str)(sc:eY):Prop where
 kind:sc.kind=.function
 co:sc.isCoroutine=false
 gen:sc.isGenerator=false
 nd:N.Nodup
 pre:N.take P.length=P
 par:∀x∈P,sc.names.lookup x=ab .local\/sc.names.lookup x=ab .cell
 RQ:∀y∈sc.names,y.2≠.free
theorem DZ{kindOf:Str->Option nJ}{x:Str}:∀{binds:List (Str×ag)} {m:Str->Option ag},(∀v,(x,v)∉binds)->bindL kindOf binds m x=m x
 |[],_,_=>rfl
 |(n,v)::r,m,h=>by
  unfold bindL;rw[DZ λw hw=>h w (c6 _ hw)];split
  ·have:x≠n:=by rintro rfl;exact h v ce
   simp[this]
  ·rfl
theorem FZ{kindOf:Str->Option nJ}{x:Str}:∀{binds:List (Str×ag)} {m:Str->Option ag},(∀v,(x,v)∉binds)->bindC kindOf binds m x=m x
 |[],_,_=>rfl
 |(n,v)::r,m,h=>by
  unfold bindC;rw[FZ λw hw=>h w (c6 _ hw)];split
  ·rfl
  ·have:x≠n:=by rintro rfl;exact h v ce
   simp[this]
theorem Iq{kindOf:Str->Option nJ}{x:Str}{v:ag}:∀{P:List Str} {vs:List ag} {i:Nat} {m:Str->Option ag},P.Nodup->P[i]? = ab x->vs[i]? = ab v->kindOf x=ab .local ->
 bindL kindOf (P.zip vs) m x=ab v
 |[],_,_,_,_,h,_,_=>by simp at h
 |_::_,[],_,_,_,_,h,_=>by simp at h
 |p::P,w::vs,0,m,nd,h1,h2,hk=>by
  simp at h1 h2;subst h1;subst h2;show bindL kindOf ((p,w)::P.zip vs) m p=_;unfold bindL;rw[DZ λv hv=>(jO.mp nd).1 (Bf hv).1,aH hk];simp
 |p::P,w::vs,i+1,m,nd,h1,h2,hk=>by
  show bindL kindOf ((p,w)::P.zip vs) m x=_;unfold bindL;exact Iq (i:=i) (jO.mp nd).2 (by simpa using h1) (by simpa using h2) hk
theorem E5{kindOf:Str->Option nJ}{x:Str}{v:ag}:∀{P:List Str} {vs:List ag} {i:Nat} {m:Str->Option ag},P.Nodup->P[i]? = ab x->vs[i]? = ab v->kindOf x≠ab .local ->
 bindC kindOf (P.zip vs) m x=ab v
 |[],_,_,_,_,h,_,_=>by simp at h
 |_::_,[],_,_,_,_,h,_=>by simp at h
 |p::P,w::vs,0,m,nd,h1,h2,hk=>by
  simp at h1 h2;subst h1;subst h2;show bindC kindOf ((p,w)::P.zip vs) m p=_;unfold bindC;rw[FZ λv hv=>(jO.mp nd).1 (Bf hv).1,ay hk];simp
 |p::P,w::vs,i+1,m,nd,h1,h2,hk=>by
  show bindC kindOf ((p,w)::P.zip vs) m x=_;unfold bindC;exact E5 (i:=i) (jO.mp nd).2 (by simpa using h1) (by simpa using h2) hk
def start(N:List Str)(vs:List V):St:=vs.map ab++cx (N.length-vs.length) ae
def lM(CX:gF)(P:bg)(w:aY)(K:aE)(mg:Str->Option ag)(base:aI)(N:List Str)(qual:Str)(scope:eY)(f:ah)(cd:ag)(A:bv)(outer:List Env)(s:ao)(H:Hp)(E:XK):Cx where
 prog:=P
 w:=w
 K:=K
 mg:=mg
 base:=base
 A:=A.deeper (envOfC qual scope s.heap.objs.size f cd)
 N:=N
 s₀:=s
 H₀:=H
 env:=envOfC qual scope s.heap.objs.size f cd
 outer:=outer
 stack:=envOfC qual scope s.heap.objs.size f cd::outer
 ex:=[]
 calm:=true
 fn:=λ_=>true
 pn:=[]
 xe:=λe s'=>wpAny (model P w) (A.deeper (envOfC qual scope s.heap.objs.size f cd)) (leaving (envOfC qual scope s.heap.objs.size f cd) e) (λ_ s''=>CX outer H s E e s'') (λe' s''=>CX outer H s E e' s'') s'
theorem Dv{sc:eY}{n:Nat}{x:Str}(h:sc.names.lookup x=ab .cell):∃c,(cellsFrom n sc.names []).lookup x=ab c:=by have q:=IQ sc.names n [] (.inl h);exact Option.isSome_iff_exists.mp q
theorem Rc{CX:gF}{P:bg}{w:aY}{K:aE}{mg:Str->Option ag}{base:aI}{N ps:List Str}{qual:Str}{scope:eY}{f:ah}{cd:ag}{A:bv}{outer:List Env}{s s1:ao}{H:Hp}{E:XK}{us:List ag}{vs:List V}
 (S:cY N ps scope) (hd:A.handled=ae) (e0:uK P w K mg base A outer s H) (hl:vs.length=ps.length) (r:Vals vs us)
 (x:InCallC s s.heap.objs.size (bindL (envOfC qual scope s.heap.objs.size f cd).kindOf (ps.zip us) λ_=>ae) (cellsFrom (s.heap.objs.size+1) scope.names []) (bindC (envOfC qual scope s.heap.objs.size f cd).kindOf (ps.zip us) λ_=>ae) s1) :
 Inv (lM CX P w K mg base N qual scope f cd A outer s H E) [] (start N vs) H s1:=by
 have hpl:ps.length<=N.length:=by have:=congrArg Bh S.pre;rw[ju]at this;omega
 obtain⟨h1,tk,rfl,hk⟩:=x.done;have noA:∀b:ah,b∉(lM CX P w K mg base N qual scope f cd A outer s H E).ex:=λb z=>absurd (show b∈([]:List ah)from z) (by simp);refine⟨⟨e0.mod,S.kind,rfl,rfl,ba _,λy z c h1 h2=>?_,λy hy=>?_,λy c _ h=>?_,λ_=>hd,JB e0.frames,.inr ⟨rfl,rfl⟩,λb z=>absurd z (noA b),e0.bs,e0.bsz,λb _ _=>noA b,λb z=>absurd z (noA b),e0.km,e0.frf⟩,
  rfl,e0.bare,Un.kept hk,⟨_,x.toInCall.ns,λi y v h1 h2 h3=>?_⟩,λy c h=>⟨_,x.cell y c h⟩,e0.hok.fresh (ba _),λy c h=>?_,λp hp=>absurd (show p∈([]:List (ah×Obj))from hp) (by simp),e0.hok.kept hk,?_⟩
 ·exact name_of_addr x.apart (rj h1) (rj h2)
 ·have hy:scope.names.lookup y=ab .cell\/scope.names.lookup y=ab .free:=hy;rcases hy with hy|hy
  ·exact Dv hy
  ·exact absurd rfl (S.RQ _ (rj hy))
 ·exact ui (x.above y c (rj h))
 ·have hi:i<vs.length:=by
   unfold start at h2;by_cases hi:i<vs.length
   ·exact hi
   ·rw[A1 (by simpa using hi)]at h2;rw[IA]at h2;split at h2<;>cases h2
  have ha:vs[i]? = ab v:=by
   unfold start at h2;rw[wN (by simpa using hi),c7]at h2;cases e:vs[i]? with
   |none=>rw[e]at h2;cases h2
   |some a=>rw[e]at h2;cases h2;rfl
  obtain⟨u,hu,rv⟩:=r.get ha;have hp:ps[i]? = ab y:=by rw[<- S.pre,List.getElem?_take_of_lt (by omega)];exact h1
  have ndP:ps.Nodup:=by rw[<- S.pre];exact S.nd.sublist (List.take_sublist _ _)
  refine⟨u,rv,?_⟩;rcases S.par y (fj hp)with k|k
  ·exact .inl ⟨k,Iq ndP hp hu k⟩
  ·obtain⟨c,e⟩:=Dv (n:=s.heap.objs.size+1) k;refine .inr ⟨.inl k,c,e,?_⟩;have q:=x.cell y c e;rw[E5 ndP hp hu (by show scope.names.lookup y≠_;rw[k];decide)]at q;exact q
 ·exact e0.hok.fresh (ui (x.above y c (rj h)))
 ·unfold start;show _=N.length;rw[dI,aQ,A4];omega
theorem FC{CX:gF}{P:bg}{w:aY}{K:aE}{mg:Str->Option ag}{base:aI}{k:Nat}{f:ah}{name qual:Str}{params:t5}{body:List bC}{scope:eY}{dV kV doc pm cdv ct oc:ag}{an od:Option ah}
 {osl:Array (Option ag)} {N ps:List Str} {sp:Sp} (lk:K.lookup f=ab ⟨oc,od,.func (kD name qual params body scope dV kV doc pm an cdv ct),osl⟩) (hcd:rD K cdv qual=true) (S:cY N ps scope)
 (len:∀vs H Q E,sp vs H Q E->vs.length=ps.length)
 (hbody:∀(A:bv) (outer:List Env) (s:ao) (H:Hp) (vs:List V) (Q:VK) (E:XK),dL k (A.deeper (envOfC qual scope s.heap.objs.size f cdv))->sp vs H Q E ->
  ∃t,gY (lM CX P w K mg base N qual scope f cdv A outer s H E) body t/\t { nx:=λ_ H'=>Q .non H',rt:=Q } (start N vs) H) :
 bF P w K mg base CX (k+1) f (kD name qual params body scope dV kV doc pm an cdv ct) ps sp:=by
 refine⟨len,λA outer s H args us vs Q E hr e0 hb r hsp=>?_⟩;have hl:=len _ _ _ _ hsp;have KX:K.In s.heap:=e0.mod.kin.keeps λb o e=>(e0.bs b o e).1;have lim:s.heap.NoLimit:=e0.mod.nolimit.keeps λb o e=>(e0.bs b o e).1;have hkind:∀y∈ps.zip us,scope.names.lookup y.1=ab .local\/(scope.names.lookup y.1=ab .cell/\((cellsFrom (s.heap.objs.size+1) scope.names []).lookup y.1).isSome=true):=λ⟨n,v⟩ hy=>by
  rcases S.par n (Bf hy).1 with q|q
  ·exact .inl q
  ·exact .inr ⟨q,IQ _ _ _ (.inl q)⟩
 refine codeAny_call_function hr.depth (KX _ _ lk) rfl S.co S.gen rfl (PySem.W.codeRec_of KX hcd) (hb _ _ _ _ ?_);refine wpAny_newFunctionEnv_cells S.kind hkind λenv he s1 x=>?_;subst he;refine⟨lim.keeps x.toInCall.keep,codeAny_func ?_⟩;obtain⟨t,ht,hq⟩:=hbody A outer s H vs Q E (hr.deeper _) hsp;have I:Inv (lM CX P w K mg base N qual scope f cdv A outer s H E) [] (start N vs) H s1:=Rc S hr.hd e0 hl r x;refine jt (ht [] s1 (start N vs) H _ I hq) (λfl s' hs=>?_) λe s' hs=>hs;have fin:∀{σ':St} {H':Hp} {v:V} {u:ag},Inv (lM CX P w K mg base N qual scope f cdv A outer s H E) [] σ' H' s'->RelV v u->Q v H'->CE outer P w H s Q u s':=
  λ{σ' H' v u} J rv q=>⟨v,H',J.os,J.bare,J.base,J.hok,rv,q⟩
 cases fl with
 |ret u=>
  obtain⟨v,σ',H',J,rv,q⟩:=hs;exact fin J rv q
 |next=>
  obtain⟨σ',H',J,q⟩:=hs;exact fin (v:=V.non) (u:=eE) J rfl q
 |brk=>
  obtain⟨_,_,_,q⟩:=hs;exact lw q
 |cont=>
  obtain⟨_,_,_,q⟩:=hs;exact lw q
section
variable{X:Cx}{x:Str}{p pos:Pos}{e:aR}{es:List aR}{t:TA}{id T:String}{r:List V->Hp->VK->Prop}
def lf(r:List V->Hp->VK->Prop)(t:TA):TE:=λσ H Q=>t σ H λvs H1=>r vs H1 Q
theorem da(hc:fZ X (.builtin id) r)(hg:Gl X x)(hm:X.mg x=ae)(hv:bootBuiltins x=ab (.builtin id))(ha:PA X (e::es) t)(hn:x ≠ "__name__" := by decide)(hdb:(x==("__debug__" : Str))=false:=by decide)
 (he:starEach (e::es) X.env=(false,eval e X.env)::starEach es X.env:=by rfl) (hpl:(backTo pos (starEach es X.env)).any (·.1)=false:=by rfl):PE X (.Call (.Name x p) (e::es) [] pos) (lf r t):=by
 intro af s σ H Q I h;refine wC (oU I hg hm hv ?_ hn hdb);exact PyProof.Rows.callWith_builtin1 (aS (ha pos af s σ H _ I h) λus s1 ⟨vs,H1,I1,r1,q1⟩=>hc af s1 σ H1 vs us Q I1 r1 q1) he hpl
theorem pD(hc:fZ X (.type T) r)(hg:Gl X x)(hm:X.mg x=ae)(hv:bootBuiltins x=ab (.type T))(ha:PA X (e::es) t)(hn:x ≠ "__name__" := by decide)(hdb:(x==("__debug__" : Str))=false:=by decide)
 (he:starEach (e::es) X.env=(false,eval e X.env)::starEach es X.env:=by rfl) (hpl:(backTo pos (starEach es X.env)).any (·.1)=false:=by rfl):PE X (.Call (.Name x p) (e::es) [] pos) (lf r t):=by
 intro af s σ H Q I h;refine wC (oU I hg hm hv ?_ hn hdb);exact xl (aS (ha pos af s σ H _ I h) λus s1 ⟨vs,H1,I1,r1,q1⟩=>hc af s1 σ H1 vs us Q I1 r1 q1) he hpl
end
end L2
namespace HT
open PySem PyProof.Rows
section
variable{prog:bg}{w:aY}{A:bv}{E:ag->ao->Prop}{s:ao}
def c8(n d:Nat):Option Int->Nat
 |none=>d
 |some v=>if v<0 then(v+(n:Int)).toNat else min v.toNat n
theorem Ee(n d:Nat)(hd:d<=n)(o:Option Int):c8 n d o<=n:=by
 cases o with
 |none=>exact hd
 |some v=>
  show(if v<0 then(v+(n:Int)).toNat else min v.toNat n)<=n;by_cases hv:v<0
  ·rw[aH hv];omega
  ·rw[ay hv];exact Nat.min_le_right _ _
end
end HT
namespace L2
open PySem PySem.Spec PyProof.Rows
abbrev TO:=St->Hp->(Option Int->Hp->Prop)->Prop
def PO(X:Cx)(e:Option aR)(t:TO):Prop:=
 ∀(af:List (ah×Obj)) (s:ao) (σ:St) (H:Hp) (Q:Option Int->Hp->Prop),Inv X af σ H s->t σ H Q ->
  wpAny (model X.prog X.w) X.A (evalPart e X.env) (λu s'=>∃o H',Inv X af σ H' s'/\IsPart u o/\Q o H') X.xe s
def GY:TO:=λ_ H Q=>Q ae H
def Go(t:TE):TO:=λσ H Q=>t σ H λx H1=>∃i,x=.int i/\Q (ab i) H1
section
variable{X:Cx}{e:aR}{te:TE}{lo hi:Option aR}{tl th:TO}{pos p2:Pos}
theorem oA:PO X ae GY:=by intro af s σ H Q I h;rw[evalPart_none];exact ax ⟨ae,H,I,.none,h⟩
theorem oN(h:PE X e te):PO X (ab e) (Go te):=by intro af s σ H Q I hw;rw[evalPart_some];refine aS (h af s σ H _ I hw) λu s1 ⟨x,H1,I1,r1,q1⟩=>?_;obtain⟨i,rfl,q⟩:=q1;obtain⟨t,rfl⟩:=r1;exact⟨ab i,H1,I1,.int i t,q⟩
def kl(X:Cx)(r:V->Option Int->Option Int->Hp->VK->Prop):Prop:=
 ∀(af:List (ah×Obj)) (s:ao) (σ:St) (H:Hp) (x:V) (v vl vu:ag) (lo hi:Option Int) (sl:ah) (Q:VK),Inv X af σ H s->RelV x v->s.heap.IsSliceOf sl vl vu .none->IsPart vl lo->IsPart vu hi->r x lo hi H Q ->
  ∃T id,typeLookup (.type T) "__getitem__" = pure (ab (.builtin id))/\s.TypeIs v T/\wpAny (model X.prog X.w) X.A (getItem v (.ref sl)) (EP X af σ Q) X.xe s
theorem kl.or{r r':V->Option Int->Option Int->Hp->VK->Prop}(h:kl X r)(h':kl X r'):kl X (λx lo hi H Q=>r x lo hi H Q\/r' x lo hi H Q):=by
 intro af s σ H x v vl vu lo hi sl Q I rx hs pl pu q;rcases q with q|q
 ·exact h af s σ H x v vl vu lo hi sl Q I rx hs pl pu q
 ·exact h' af s σ H x v vl vu lo hi sl Q I rx hs pl pu q
def EI(r:V->Option Int->Option Int->Hp->VK->Prop)(te:TE)(tl th:TO):TE:=λσ H Q=>te σ H λx H1=>tl σ H1 λl H2=>th σ H2 λu H3=>r x l u H3 Q
theorem oq{r:V->Option Int->Option Int->Hp->VK->Prop}(hr:kl X r)(he:PE X e te)(hl:PO X lo tl)(hu:PO X hi th):PE X (.Subscript e (.Slice lo hi ae p2) pos) (EI r te tl th):=by intro af s σ H Q I h;refine Subscript_ (aS (he af s σ H _ I h) λv s1 ⟨x,H1,I1,r1,q1⟩=>?_);refine wpAny_Slice (aS (hl af s1 σ H1 _ I1 q1) λvl s2 ⟨l,H2,I2,pl,q2⟩=>aS (hu af s2 σ H2 _ I2 q2) λvu s3 ⟨u,H3,I3,pu,q3⟩=>?_);rw[evalPart_none];refine ax ?_;have I4:Inv X af σ H3 { s3 with heap:=s3.heap.push { cls:=.type "slice",data:=.fields #[vl,vu,.none] } }:=I3.kept (t':=s3.toks) λb ob q=>bD _ q;obtain⟨T,id,hT,ht,hg⟩:=hr af { s3 with heap:=s3.heap.push { cls:=.type "slice",data:=.fields #[vl,vu,.none] } } σ H3 x v vl vu l u s3.heap.objs.size Q I4 r1 (Heap.IsSliceOf.new ..) pl pu q3;show wpAny (model X.prog X.w) X.A (subscriptTail e (.Slice lo hi ae p2) v (.ref s3.heap.objs.size)) (EP X af σ Q) X.xe { s3 with heap:=s3.heap.push { cls:=.type "slice", data:=.fields #[vl,vu,.none] } };exact tail_any (ops:=[.ref s3.heap.objs.size,v]) ht hT hg (by with_unfolding_all rfl)
def qw(xs:List V)(lo hi:Option Int):List V:=(xs.drop (HT.c8 xs.length 0 lo)).take (HT.c8 xs.length xs.length hi-HT.c8 xs.length 0 lo)
theorem Pc(xs:List V)(lo hi:Option Int):(qw xs lo hi).length<=xs.length:=by unfold qw;rw[ju,gc];omega
end
def gB(n:Nat)(i:Int):Option Nat:=if 0<=i then(if i<n then ab i.toNat else ae)else if -(n:Int)<=i then ab (i+n).toNat else ae
def dH{α:Type}(xs:List α)(i:Int):Option α:=(gB xs.length i).bind λj=>xs[j]?
theorem QX{n:Nat}{i:Int}{j:Nat}(h:gB n i=ab j):seqIndex? i n=ab j/\j<n/\-(n:Int)<=i/\i<n:=by
 unfold gB at h;by_cases h0:0<=i
 ·rw[aH h0]at h;by_cases h1:i<n
  ·rw[aH h1]at h;have e:i.toNat=j:=gi h;exact⟨by rw[seqIndex_of h0 h1,e],by omega,by omega,h1⟩
  ·rw[ay h1]at h;cases h
 ·rw[ay h0]at h;by_cases h1:-(n:Int)<=i
  ·rw[aH h1]at h;have e:(i+n).toNat=j:=gi h;exact⟨by rw[seqIndex_neg (by omega) h1,e],by omega,h1,by omega⟩
  ·rw[ay h1]at h;cases h
theorem zT{α:Type}{xs:List α}{i:Int}{v:α}(h:dH xs i=ab v):∃j,seqIndex? i xs.length=ab j/\xs[j]? = ab v/\j<xs.length/\-(xs.length:Int)<=i/\i<xs.length:=by
 unfold dH at h;cases e:gB xs.length i with
 |none=>rw[e]at h;cases h
 |some j=>
  rw[e]at h;obtain⟨h1,h2,h3,h4⟩:=QX e;exact⟨j,h1,h,h2,h3,h4⟩
def Fi(b:aR):Prop:=∀o i,subscripted b false o i=operate [o,i] (getItem o i)
def l5(X:Cx)(r:R2):Prop:=
 ∀(value slice:aR) (af:List (ah×Obj)) (s:ao) (σ:St) (H:Hp) (x y:V) (v u:ag) (Q:VK),Inv X af σ H s->RelV x v->RelV y u->r x y H Q ->
  subscripted slice false v u=operate [v,u] (getItem v u)->wpAny (model X.prog X.w) X.A (subscriptTail value slice v u) (EP X af σ Q) X.xe s
def k3(X:Cx)(id:String)(r:V->List V->Hp->VK->Prop):Prop:=
 ∀(af:List (ah×Obj)) (s:ao) (σ:St) (H:Hp) (x:V) (xs:List V) (v:ag) (us:List ag) (Q:VK),Inv X af σ H s->RelV x v->Vals xs us->r x xs H Q ->
  wpAny (model X.prog X.w) X.A (call (.builtin id) (v::us)) (EP X af σ Q) X.xe s
section
variable{X:Cx}{a b:aR}{ta tb:TE}{pos:Pos}
theorem l5.or{r r':R2}(h:l5 X r)(h':l5 X r'):l5 X (λx y H Q=>r x y H Q\/r' x y H Q):=by
 intro value slice af s σ H x y v u Q I rx ry q hs;rcases q with q|q
 ·exact h value slice af s σ H x y v u Q I rx ry q hs
 ·exact h' value slice af s σ H x y v u Q I rx ry q hs
theorem DG{r:R2}(hr:l5 X r)(ha:PE X a ta)(hb:PE X b tb)(hs:Fi b):PE X (.Subscript a b pos) (qK r ta tb):=by intro af s σ H Q I h;exact Subscript_ (x5 ha hb I h λv u s2 x y H2 I2 rx ry q=>hr a b af s2 σ H2 x y v u Q I2 rx ry q (hs _ _))
def DQ(K:aE):R2:=λx y H Q=>∃p xs i v,x=.ref p/\y=.int i/\eS K H p xs/\dH xs i=ab v/\Q v H
def Fe(K:aE):R2:=λx y H Q=>∃p xs i v,x=.ref p/\y=.int i/\fw K H p xs/\dH xs i=ab v/\Q v H
def Hj:R2:=λx y H Q=>∃z i c,x=.str z/\y=.int i/\z.length<=sizeLine/\dH z.cps.toList i=ab c/\Q (.str ⟨#[c]⟩) H
theorem Q6:l5 X (DQ X.K):=by
 intro value slice af s σ H x y v u Q I rx ry h hs;obtain⟨p,xs,i,z,rfl,rfl,hq,he,q⟩:=h;cases rx;obtain⟨t,rfl⟩:=ry;obtain⟨aj,r,pl,hz⟩:=I.list hq;obtain⟨j,h1,h2,h3,h4,h5⟩:=zT he;obtain⟨w,ew,rw'⟩:=r.get h2;have hl:=r.length;have hn:=sO;have fin:EP X af σ Q w s:=⟨z,H,I,rw',q⟩;by_cases h0:0<=i
 ·have hj:i.toNat=j:=by
   rw[seqIndex_of h0 h5]at h1;exact gi h1
  exact item_listR pl.isList h0 (by omega) (by rw[hj];simpa using ew) fin hs
 ·have hj:(i+(aj.toArray.size:Int)).toNat=j:=by
   rw[seqIndex_neg (by omega) h4]at h1;rw[bK,<- hl];exact gi h1
  exact Jw (x:=w) pl.isList.typeIs slot_list_getitem.lookup
   (wpAny_getItem_list_neg (Q:=λr s'=>r=w/\EP X af σ Q r s') pl.isList (by omega) (by rw[bK]<;>omega) (by omega) (by rw[hj];simpa using ew) ⟨rfl,fin⟩) hs
theorem QV:l5 X (Fe X.K):=by
 intro value slice af s σ H x y v u Q I rx ry h hs;obtain⟨p,xs,i,z,rfl,rfl,hq,he,q⟩:=h;cases rx;obtain⟨t,rfl⟩:=ry;obtain⟨aj,r,pl,hz⟩:=I.tuple hq;obtain⟨j,h1,h2,h3,h4,h5⟩:=zT he;obtain⟨w,ew,rw'⟩:=r.get h2;have hl:=r.length;have hn:=sO;have fin:EP X af σ Q w s:=⟨z,H,I,rw',q⟩;exact Jw (x:=w) pl.typeIs pO.lookup
  (getItem_tuple (j:=j) (Q:=λr s'=>r=w/\EP X af σ Q r s') pl (by omega) (by omega) (by rw[bK,<- hl];exact h1) (by simpa using ew) ⟨rfl,fin⟩) hs
theorem Mv:l5 X Hj:=by
 intro value slice af s σ H x y v u Q I rx ry h hs;obtain⟨z,i,c,rfl,rfl,hz,he,q⟩:=h;obtain⟨t,rfl⟩:=rx;obtain⟨t',rfl⟩:=ry;obtain⟨j,h1,h2,h3,h4,h5⟩:=zT he;have hl:z.cps.toList.length=z.length:=by simp[pP]
 rw[hl]at h1 h4 h5;have hn:=sO;exact tail_any (typeIs_str s z t) slot_str_getitem.lookup (getItem_str (c:=c) (by
  have e1:decide (i < -(2 ^ 63:Int))=false:=dC (by omega);have e2:decide (i >= 2 ^ 63)=false:=dC (by omega);rw[e1,e2,Bool.or_false]) (by rw[h1];simpa using h2) ⟨.str ⟨#[c]⟩,H,I.tok _,⟨_,rfl⟩,q⟩) hs
def yX(K:aE):R2:=λx y H Q=>DQ K x y H Q\/Fe K x y H Q\/Hj x y H Q
theorem DP:l5 X (yX X.K):=Q6.or (QV.or Mv)
theorem NX(lo hi:Option Int)(n:Nat):(sliceBounds lo hi ae n).1=((HT.c8 n 0 lo:Nat):Int)/\(sliceBounds lo hi ae n).2.1=((HT.c8 n n hi:Nat):Int)/\(sliceBounds lo hi ae n).2.2=1:=by
 refine⟨?_,?_,rfl⟩
 ·cases lo with
  |none=>simp[sliceBounds,HT.c8]
  |some i=>
   simp only[sliceBounds,HT.c8,Jt,show(1:Int)>0 by decide,gU];by_cases h:i<0
   ·simp only[h,gU]<;>omega
   ·simp only[h,eJ]<;>omega
 ·cases hi with
  |none=>simp[sliceBounds,HT.c8]
  |some i=>
   simp only[sliceBounds,HT.c8,Jt,show(1:Int)>0 by decide,gU];by_cases h:i<0
   ·simp only[h,gU]<;>omega
   ·simp only[h,eJ]<;>omega
theorem Ow(aj:List ag)(lo hi:Option Int):slicePick aj.toArray lo hi ae=((aj.drop (HT.c8 aj.length 0 lo)).take (HT.c8 aj.length aj.length hi-HT.c8 aj.length 0 lo)).toArray:=by obtain⟨h1,h2,h3⟩:=NX lo hi aj.toArray.size;unfold slicePick;rw[h1,h2,h3];simp only[sliceRange_one,pick_run,bK]<;>rfl
def ze(K:aE):V->Option Int->Option Int->Hp->VK->Prop:=λx lo hi H Q=>∃a xs,x=.ref a/\eS K H a xs/\∀p,H p=ae->Q (.ref p) (upd H p (.lst (qw xs lo hi)))
theorem CG:kl X (ze X.K):=by intro af s σ H x v vl vu lo hi sl Q I rx hs pl pu h;obtain⟨a,xs,rfl,hx,q⟩:=h;cases rx;obtain⟨aj,r,ht,hz⟩:=I.list hx;have hlen:=r.length;refine⟨"list", _,slot_list_getitem.lookup,ht.isList.typeIs,?_⟩;refine wpAny_getItem_list_slice ht.isList hs pl pu .none (by simp) ?_ (by rw[bK]<;>omega);rw[Ow,<- hlen];refine⟨.ref s.heap.objs.size,_,I.laid (t':=s.toks) (o:=.lst (qw xs lo hi)) (λb ob q=>bD _ q) (ba _) ?_,rfl,q _ (I.hok.fresh (ba _))⟩;exact⟨dw (Pc xs lo hi) hz,_,0,(r.drop (HT.c8 xs.length 0 lo)).take (HT.c8 xs.length xs.length hi-HT.c8 xs.length 0 lo),bS _ rfl⟩
def zo:V->Bool
 |.non=>true
 |.bl _=>true
 |.int _=>true
 |.str _=>true
 |_=>false
def FM:V->V->Bool
 |.non,.non=>true
 |.bl a,.bl b=>a==b
 |.bl a,.int b=>(if a then 1 else 0)==b
 |.int a,.bl b=>a==(if b then 1 else 0)
 |.int a,.int b=>a==b
 |.str a,.str b=>a==b
 |_,_=>false
theorem LV{A:bv}{s:ao}{y x:V}{u v:ag}(ry:RelV y u)(rx:RelV x v)(fy:zo y=true)(fx:zo x=true):SeqAt.EqAt A s u v (FM y x):=by
 cases y with
 |non=>
  cases ry;cases x with
  |non=>cases rx;exact SeqAt.EqAt.same _
  |bl b=>cases rx;exact SeqAt.EqAt.none_bool b
  |int b=>obtain⟨t,rfl⟩:=rx;exact SeqAt.EqAt.none_int b t
  |str b=>obtain⟨t,rfl⟩:=rx;exact SeqAt.EqAt.none_str b t
  |_=>exact absurd (show false=true from fx) cy
 |bl a=>
  cases ry;cases x with
  |non=>cases rx;exact SeqAt.EqAt.bool_none a
  |bl b=>cases rx;exact JM a b
  |int b=>obtain⟨t,rfl⟩:=rx;exact SeqAt.EqAt.bool_int a b t
  |str b=>obtain⟨t,rfl⟩:=rx;exact JN a b t
  |_=>exact absurd (show false=true from fx) cy
 |int a=>
  obtain⟨t',rfl⟩:=ry;cases x with
  |non=>cases rx;exact SeqAt.EqAt.int_none a t'
  |bl b=>cases rx;exact SeqAt.EqAt.int_bool a t' b
  |int b=>obtain⟨t,rfl⟩:=rx;exact SeqAt.EqAt.int_int a t' b t
  |str b=>obtain⟨t,rfl⟩:=rx;exact SeqAt.EqAt.int_str a t' b t
  |_=>exact absurd (show false=true from fx) cy
 |str a=>
  obtain⟨t',rfl⟩:=ry;cases x with
  |non=>cases rx;exact SeqAt.EqAt.str_none a t'
  |bl b=>cases rx;exact JO a t' b
  |int b=>obtain⟨t,rfl⟩:=rx;exact SeqAt.EqAt.str_int a t' b t
  |str b=>obtain⟨t,rfl⟩:=rx;exact SeqAt.EqAt.str_str a t' b t
  |_=>exact absurd (show false=true from fx) cy
 |_=>exact absurd (show false=true from fy) cy
theorem LA:fZ X (.type "tuple") (λxs H Q=>∃p ys,xs=[.ref p]/\((eS X.K H p ys/\∀l,H l=ae->Q (.ref l) (upd H l (.tup ys)))\/(fw X.K H p ys/\Q (.ref p) H))):=by
 intro af s σ H xs us Q I r h;obtain⟨p,ys,rfl,h⟩:=h;obtain⟨u,rfl,rx⟩:=vals1 r;cases rx;rcases h with ⟨hq,q⟩|⟨hq,q⟩
 ·obtain⟨aj,r',pl,hz⟩:=I.list hq;have hlen:=r'.length;refine call_tuple_list pl.isList (λh' kp=>?_) (by simp only[bK]<;>omega);have I1:Inv X af σ H { s with heap:=h' }:=I.kept (t':=s.toks) kp;have I2:Inv X af σ (upd H h'.objs.size (.tup ys)) { s with heap:=h'.push { cls:=.type "tuple", data:=.seq aj.toArray } }:=
   I1.laid (t':=s.toks) (λb o e=>bD _ e) (ba _) (show bQ X.prog X.w _ _ _ (.tup ys)from⟨hz,aj,r',oP.new _ _⟩)
  exact⟨.ref h'.objs.size,_,I2,rfl,q _ (I1.hok.fresh (ba _))⟩
 ·obtain⟨aj,r',pl,hz⟩:=I.tuple hq;exact call_tuple_same pl ⟨.ref p,H,I,rfl,q⟩
def vj(K:aE)(T:String)(x:V)(H:Hp):Prop:=match x with
 |.str _=>T = "str"
 |.int _=>T = "int"
 | .ref p=>(T = "list" /\ ∃xs,eS K H p xs)\/(T = "tuple" /\ ∃o,K.lookup p=ab o/\o.cls=.type "tuple" /\ o.dict=ae) \/
  (T = "dict" /\ ((∃am,H p=ab (.dK am))\/∃am,H p=ab (.dT am)))\/(T = "set" /\ ∃S n,H p=ab (.set S n))
 |_=>False
theorem yP{af:List (ah×Obj)}{σ:St}{H:Hp}{s:ao}{T:String}{x:V}{v:ag}(I:Inv X af σ H s)(r:RelV x v)(ty:vj X.K T x H) :
 s.TypeIs v T/\∀a,v=.ref a->∃ob,s.heap.get? a=ab ob/\ob.dict=ae:=by
 cases x with
 |str z=>
  obtain⟨t,rfl⟩:=r;cases(show T = "str" from ty);exact⟨typeIs_str s z t,λ_ e=>nomatch e⟩
 |int i=>
  obtain⟨t,rfl⟩:=r;cases(show T = "int" from ty);exact⟨typeIs_int s i t,λ_ e=>nomatch e⟩
 |ref p=>
  cases r;rcases ty with ⟨rfl,xs,hq⟩|⟨rfl,o,hk,hc,hd⟩|⟨rfl,hk⟩|⟨rfl,S,n,hk⟩
  ·obtain⟨aj,_,pl,_⟩:=I.list hq;refine⟨pl.isList.typeIs,λa e=>?_⟩;cases e;obtain⟨o,n,e,c,hd,_⟩:=pl;exact⟨o,e,hd⟩
  ·refine⟨⟨o,I.gp p o hk,hc⟩,λa e=>?_⟩;cases e;exact⟨o,I.gp _ o hk,hd⟩
  ·have z:∃o,s.heap.get? p=ab o/\o.ExactDict:=by
    rcases hk with ⟨am,hk⟩|⟨am,hk⟩
    ·obtain⟨_,_,_,_,o,_,_,e,ex,_⟩:=I.hok p _ hk;exact⟨o,e,ex⟩
    ·obtain⟨_,_,_,_,o,_,_,e,ex,_⟩:=I.hok p _ hk;exact⟨o,e,ex⟩
   obtain⟨o,e,ex⟩:=z;refine⟨⟨o,e,ex.1⟩,λa e2=>?_⟩;cases e2;exact⟨o,e,ex.2.1⟩
  ·obtain⟨o,_,_,_,e,ex,_⟩:=I.hok p _ hk;refine⟨⟨o,e,ex.1⟩,λa e2=>?_⟩;cases e2;exact⟨o,e,ex.2.1⟩
 |_=>exact lw ty
def mQ(K:aE)(T:String)(r:V->List V->Hp->VK->Prop)(to:TE):TE:=λσ H Q=>to σ H λx H1=>vj K T x H1/\r x [] H1 Q
def qC(K:aE)(T:String)(r:V->List V->Hp->VK->Prop)(to:TE)(t:TA):TE:=λσ H Q=>to σ H λx H1=>vj K T x H1/\t σ H1 λxs H2=>r x xs H2 Q
variable{o e:aR}{es:List aR}{to:TE}{t:TA}{name:Str}{apos cpos:Pos}{T id:String}{r:V->List V->Hp->VK->Prop}
theorem uO(pa:wM T)(slot:Slot T name id)(hty:typeOf (.builtin id)=pure (.type "method_descriptor"))(hm:k3 X id r)(ho:PE X o to)
 (hbase:attributeBase o name X.env (eval o X.env)=eval o X.env:=by rfl) (hline:(apos.endLine==cpos.line)=true:=by rfl):PE X (.Call (.Attribute o name apos) [] [] cpos) (mQ X.K T r to):=by
 intro af s σ H Q I h;refine wpAny_Call_method0_late hbase hline (aS (ho af s σ H _ I h) λv s1 ⟨x,H1,I1,r1,ty,q1⟩=>?_);obtain⟨h1,h2⟩:=yP I1 r1 ty;exact⟨T,id,pa,slot,hty,h1,h2,xA rfl (PySem.evalArgs_none (hm af s1 σ H1 x [] v [] Q I1 r1 .nil q1))⟩
theorem iN(pa:wM T)(slot:Slot T name id)(hty:typeOf (.builtin id)=pure (.type "method_descriptor"))(hm:k3 X id r)(ho:PE X o to)(ha:PA X (e::es) t)
 (hbase:attributeBase o name X.env (eval o X.env)=eval o X.env:=by rfl)
 (hfew:((backTo cpos (starEach (e::es) X.env)).all (λx=>!x.1)&&(backToKw cpos (keywordEach [] X.env)).all (λx=>x.1.isSome)
  && decide ((e::es).length+([]:List Keyword).length+(if([]:List Keyword).isEmpty then 0 else 1)<30))=true:=by rfl)
 (hline:(apos.endLine==cpos.line)=true:=by rfl) (hs:starEach (e::es) X.env=(false,eval e X.env)::starEach es X.env:=by rfl) (hplain:(backTo cpos (starEach es X.env)).any (·.1)=false:=by rfl) :
 PE X (.Call (.Attribute o name apos) (e::es) [] cpos) (qC X.K T r to t):=by
 intro af s σ H Q I h;refine Iv hbase hfew hline rfl (aS (ho af s σ H _ I h) λv s1 ⟨x,H1,I1,r1,ty,q1⟩=>?_);obtain⟨h1,h2⟩:=yP I1 r1 ty;refine⟨T,id,pa,slot,hty,h1,h2,?_⟩;have hA:=ha cpos af s1 σ H1 _ I1 q1;rw[hs]at hA ⊢;refine xA (by show(false||(backTo cpos (starEach es X.env)).any (·.1))=false;rw[hplain]<;>rfl) (BO ?_);exact aS hA λus s2 ⟨vs,H2,I2,r2,q2⟩=>hm af s2 σ H2 x vs v us Q I2 r1 r2 q2
end
def rT(X:Cx)(id:String)(r:V->List V->Hp->VK->Prop):Prop:=
 ∀(af:List (ah×Obj)) (s:ao) (σ:St) (H:Hp) (x:V) (xs:List V) (v:ag) (us:List ag) (Q:VK),Inv X af σ H s->RelV x v->Vals xs us->r x xs H Q ->
  wpAny (model X.prog X.w) X.A (call (.builtin id) (v::us)) (EP X af σ Q) X.xe s
theorem Vals.one:∀{x:V} {us:List ag},Vals [x] us->∃u,us=[u]/\RelV x u
 |_,_,.cons r .nil=>⟨_,rfl,r⟩
theorem Vals.zero:∀{us:List ag},Vals [] us->us=[]
 |_,.nil=>rfl
theorem Vals.dropLast{xs:List V}{us:List ag}(h:Vals xs us):Vals xs.dropLast us.dropLast:=by
 induction h with
 |nil=>exact .nil
 |cons r t ih=>
  cases t with
  |nil=>exact .nil
  |cons q t'=>exact .cons r ih
theorem Vals.eraseIdx:∀{xs:List V} {us:List ag} (i:Nat),Vals xs us->Vals (xs.eraseIdx i) (us.eraseIdx i)
 |_,_,_,.nil=>.nil
 |_,_,0,.cons _ t=>t
 |_,_,i+1,.cons r t=>.cons r (Vals.eraseIdx i t)
theorem NP{α:Type}(l:List α):l.eraseIdx (l.length-1)=l.dropLast:=by
 induction l with
 |nil=>rfl
 |cons a r ih=>
  cases r with
  |nil=>rfl
  |cons b r=>
   have e:(a::b::r).length-1=((b::r).length-1)+1:=by have h1:(a::b::r).length=r.length+2:=rfl;have h2:(b::r).length=r.length+1:=rfl;omega
   rw[e,IB,ih]
   all_goals rfl
theorem CS{α:Type}:∀(l:List α) (i:Nat),(l.eraseIdx i).length<=l.length
 |[],_=>ba _
 |_::_,0=>Nat.le_succ _
 |_::r,i+1=>Nat.succ_le_succ (CS r i)
section
variable{X:Cx}{af:List (ah×Obj)}{σ:St}{H:Hp}{s:ao}{l b:ah}{xs ys zs:List V}
theorem Inv.rZ{aj its':List ag}{n:Nat}{f:Array ag->Array ag}{t':Nat}(I:Inv X af σ H s)(hH:H l=ab (.lst xs))
 (e:s.heap.get? l=ab { cls:=.type "list", data:=.seq aj.toArray n }) (hf:f aj.toArray=its'.toArray) (hv:Vals ys its') (hz:ys.length<=sizeLine) :
 Inv X af σ (upd H l (.lst ys)) { s with heap:=s.heap.update l (fH f),toks:=t' }:=by
 have q:=PySem.IsL.update e f;rw[hf]at q;refine I.write (x:=l) (e:=l) (by rw[hH];exact trivial) (.inl rfl) (λb' u hb hu=>(Bo s.heap (fH f) (cR hb)).trans hu) ⟨_,q⟩ ?_;exact⟨hz,its',_,hv,q⟩
theorem Inv.OW{aj:List ag}{t':Nat}(I:Inv X af σ H s)(hv:Vals ys aj)(hz:ys.length<=sizeLine) :
 Inv X af σ (upd H s.heap.objs.size (.lst ys)) { s with heap:=s.heap.push { cls:=.type "list", data:=.seq aj.toArray },toks:=t' }:=
 I.laid (λ_ _ q=>bD _ q) (ba _) ⟨hz,aj,0,hv,bS _ rfl⟩
theorem Inv.fresh(I:Inv X af σ H s):H s.heap.objs.size=ae:=I.hok.fresh (ba _)
theorem Inv.sX(I:Inv X af σ H s)(hH:H l=ab (.lst xs)):xs.length<=sizeLine/\∃(aj:List ag) (n:Nat),Vals xs aj/\xs.length=aj.length/\s.heap.get? l=ab { cls:=.type "list", data:=.seq aj.toArray n }:=by obtain⟨z,aj,n,r,e⟩:=I.hok l _ hH;exact⟨z,aj,n,r,r.length,e⟩
theorem E7{n:Nat}(h:n<=sizeLine):BI n=false:=by unfold BI;exact dC (by omega)
end
section
variable{X:Cx}
def yC:V->List V->Hp->VK->Prop:=λx vs H Q=>∃l xs y,x=.ref l/\vs=[y]/\H l=ab (.lst xs)/\xs.length<sizeLine/\Q .non (upd H l (.lst (xs++[y])))
theorem lU:rT X "list.append" yC:=by intro af s σ H x vs v us Q I rx rv h;obtain⟨l,xs,y,rfl,rfl,hH,hz,q⟩:=h;cases rx;obtain⟨u,rfl,ru⟩:=rv.one;obtain⟨z,aj,n,r,hl,e⟩:=I.sX hH;refine rp F.slot_list_append ⟨_,e,rfl⟩ F.entry_list_append (F.args_list_append_2 _ _) (PySem.list_append l aj.toArray n u (by rw[bK];omega)) ⟨e,?_⟩;refine⟨.non,_,I.rZ (its':=aj++[u]) hH e (by simp) (r.append (.cons ru .nil)) ?_,rfl,q⟩;rw[dI,wR];omega
def Hr:V->List V->Hp->VK->Prop:=λx vs H Q=>∃l xs y,x=.ref l/\vs=[]/\H l=ab (.lst xs)/\xs[xs.length-1]? = ab y/\Q y (upd H l (.lst xs.dropLast))
theorem PH:rT X "list.pop" Hr:=by
 intro af s σ H x vs v us Q I rx rv h;obtain⟨l,xs,y,rfl,rfl,hH,hy,q⟩:=h;cases rx;have hus:=rv.zero;subst hus;obtain⟨z,aj,n,r,hl,e⟩:=I.sX hH;obtain⟨u,hu,ru⟩:=r.get hy;have hy':aj.toArray[aj.toArray.size-1]? = ab u:=by show aj.toArray[aj.length-1]? = ab u;rw[<- rG,<- hl];exact hu
 refine rp F.slot_list_pop ⟨_,e,rfl⟩ F.entry_list_pop (F.args_list_pop_1 _) (MeetsSeq.list_pop_last l aj.toArray n u hy' (by rw[bK];omega)) ⟨e,?_⟩;refine⟨y,_,I.rZ (its':=aj.dropLast) hH e ?_ r.dropLast ?_,ru,q⟩
 ·show aj.toArray.eraseIdxIfInBounds (aj.toArray.size-1)=aj.dropLast.toArray;rw[bK,Iw,NP]
 ·rw[List.length_dropLast];omega
def DS:V->List V->Hp->VK->Prop:=λx vs H Q=>∃l xs i k y,x=.ref l/\vs=[.int i]/\H l=ab (.lst xs)/\-(2 ^ 63)<=i/\i<2 ^ 63/\seqIndex? i xs.length=ab k/\xs[k]? = ab y/\Q y (upd H l (.lst (xs.eraseIdx k)))
theorem Rn:rT X "list.pop" DS:=by
 intro af s σ H x vs v us Q I rx rv h;obtain⟨l,xs,i,k,y,rfl,rfl,hH,h1,h2,hk,hy,q⟩:=h;cases rx;obtain⟨u,rfl,ru⟩:=rv.one;obtain⟨t,rfl⟩:=ru;obtain⟨z,aj,n,r,hl,e⟩:=I.sX hH;obtain⟨w,hw,rw'⟩:=r.get hy;refine rp F.slot_list_pop ⟨_,e,rfl⟩ F.entry_list_pop (F.args_list_pop_2 _ _)
  (MeetsSeq.list_pop_at l aj.toArray n i t k w (fitsIndex_both h1 h2) (by rw[bK,<- hl];exact hk) (by rw[<- rG];exact hw) (by rw[bK];omega)) ⟨e,?_⟩
 refine⟨y,_,I.rZ (its':=aj.eraseIdx k) hH e ?_ (r.eraseIdx k) ?_,rw',q⟩
 ·show aj.toArray.eraseIdxIfInBounds k=(aj.eraseIdx k).toArray;rw[Iw]
 ·have:=CS xs k;omega
def qg:V->List V->Hp->VK->Prop:=λx vs H Q=>∃l xs,x=.ref l/\vs=[]/\H l=ab (.lst xs)/\Q .non (upd H l (.lst []))
theorem C4:rT X "list.clear" qg:=by intro af s σ H x vs v us Q I rx rv h;obtain⟨l,xs,rfl,rfl,hH,q⟩:=h;cases rx;have hus:=rv.zero;subst hus;obtain⟨z,aj,n,r,hl,e⟩:=I.sX hH;refine rp F.slot_list_clear ⟨_,e,rfl⟩ F.entry_list_clear (F.args_list_clear_1 _) (AutoSeq1.list_clear_list_0 l aj.toArray n (by rw[bK];omega)) ⟨e,?_⟩;exact⟨.non,_,I.rZ (its':=[]) (ys:=[]) hH e rfl .nil (eZ _),rfl,q⟩
end
section
variable{κ:Type}[DecidableEq κ]
def hW(am:List (κ×V))(k:κ):Option V:=(am.find? λkv=>decide (kv.1=k)).map (·.2)
def putK(am:List (κ×V))(k:κ)(v:V):List (κ×V):=if(am.any λkv=>decide (kv.1=k))=true then am.map (λkv=>if kv.1=k then(kv.1,v)else kv)else am++[(k,v)]
theorem Ay{p:κ×V}{r:List (κ×V)}{k:κ}(e:p.1=k):hW (p::r) k=ab p.2:=by simp[hW,kB,e]
theorem xP{p:κ×V}{r:List (κ×V)}{k:κ}(e:¬ p.1=k):hW (p::r) k=hW r k:=by simp[hW,kB,e]
theorem F5(k:κ):∀am:List (κ×V),(am.any λkv=>decide (kv.1=k))=(hW am k).isSome
 |[]=>rfl
 |p::r=>by
  rw[iH];by_cases e:p.1=k
  ·simp only[Ay e,cM e,Br,Option.isSome_some]
  ·rw[xP e,dC e,Bq];exact F5 k r
theorem zC(am:List (κ×V))(k:κ)(v:V):(putK am k v).length<=am.length+1:=by
 unfold putK;split
 ·rw[aQ];omega
 ·rw[dI,dW,pN];omega
theorem oC.tu{o:Option V}{u:Option ag}(r:oC o u):o.isSome=u.isSome:=by
 cases o with
 | none=>cases u with
  |none=>rfl
  |some _=>exact(show False from r).elim
 | some _=>cases u with
  |none=>exact(show False from r).elim
  |some _=>rfl
theorem KV.val{am:List (κ×V)}{vs:List (κ×ag)}(r:KV am vs)(k:κ):oC (hW am k) (valueAt vs k):=by
 unfold KV at r
 induction r with
 |nil=>exact g9
 | @cons p q ps qs h t ih=>
  obtain⟨h1,h2⟩:=h;by_cases e:p.1=k
  ·have e':q.1=k:=h1.symm.trans e;have b:valueAt (q::qs) k=ab q.2:=by simp[valueAt,kB,e']
   rw[Ay e,b];exact h2
  ·have e':¬ q.1=k:=λz=>e (h1.trans z);have b:valueAt (q::qs) k=valueAt qs k:=by simp[valueAt,kB,e']
   rw[xP e,b];exact ih
theorem KV.any{am:List (κ×V)}{vs:List (κ×ag)}(r:KV am vs)(k:κ):(am.any λkv=>decide (kv.1=k))=vs.any λkv=>decide (kv.1=k):=by
 unfold KV at r
 induction r with
 |nil=>rfl
 |cons h t ih=>rw[iH,iH,ih,h.1]
theorem KV.repl{am:List (κ×V)}{vs:List (κ×ag)}(r:KV am vs)(k:κ){y:V}{u:ag}(ry:RelV y u) :
 KV (am.map λkv=>if kv.1=k then(kv.1,y)else kv) (vs.map λkv=>if kv.1=k then(kv.1,u)else kv):=by
 unfold KV at r ⊢
 induction r with
 |nil=>exact .nil
 | @cons p q ps qs h t ih=>
  rw[bO,bO];refine .cons ?_ ih;obtain⟨h1,h2⟩:=h;by_cases e:p.1=k
  ·rw[aH e,aH (h1.symm.trans e)];exact⟨h1,ry⟩
  ·rw[ay e,ay (λz=>e (h1.trans z))];exact⟨h1,h2⟩
theorem KV.put{am:List (κ×V)}{vs:List (κ×ag)}(r:KV am vs)(k:κ){y:V}{u:ag}(ry:RelV y u):KV (putK am k y) (stored vs k u):=by
 unfold putK stored;rw[r.any k];by_cases e:(vs.any λkv=>decide (kv.1=k))=true
 ·rw[aH e,aH e];exact r.repl k ry
 ·rw[ay e,ay e];exact Paired.snoc r ⟨rfl,ry⟩
theorem KV.length{am:List (κ×V)}{vs:List (κ×ag)}(r:KV am vs):am.length=vs.length:=rJ r
end
theorem tE{P:bg}{w:aY}{k:Key}{u:ag}(r:RelV (kV k) u):(gN P w).is k u=true:=by
 cases k with
 |inl i=>obtain e:=(show u=jw i from r);subst e;exact M3 P w i
 |inr x=>obtain⟨t,e⟩:=(show∃t,u=mx x t from r);subst e;exact Nk P w x t
theorem EL{P:bg}{w:aY}:∀{ks:List Key} {us:List ag},Vals (ks.map kV) us->ItemsAre (gN P w) ks us
 |[],_,r=>by rw[ud]at r;cases r;exact .nil
 |k::ks,_,r=>by
  rw[bO]at r;cases r with
  |cons h t=>exact .cons (tE h) (EL t)
abbrev KT(H:Hp):List (List Key×V)->List (List Key×ah×ag)->Prop:=nK λp q=>p.1=q.1/\H q.2.1=ab (.tup (p.1.map kV))/\RelV p.2 q.2.2
theorem KT.val{H:Hp}{am:List (List Key×V)}{xs:List (List Key×ah×ag)}(r:KT H am xs)(k:List Key):oC (hW am k) ((atKey xs k).map (·.2)):=by
 induction r with
 |nil=>exact g9
 | @cons p q ps qs h t ih=>
  obtain⟨h1,_,h2⟩:=h;by_cases e:p.1=k
  ·have e':q.1=k:=h1.symm.trans e;have b:atKey (q::qs) k=ab q.2:=by simp[atKey,kB,e']
   rw[Ay e,b];exact h2
  ·have e':¬ q.1=k:=λz=>e (h1.trans z);have b:atKey (q::qs) k=atKey qs k:=by simp[atKey,kB,e']
   rw[xP e,b];exact ih
theorem KT.repl{H:Hp}{am:List (List Key×V)}{xs:List (List Key×ah×ag)}(r:KT H am xs)(k:List Key){y:V}{u:ag}(ry:RelV y u) :
 KT H (am.map λkv=>if kv.1=k then(kv.1,y)else kv) (xs.map (putAt k u)):=by
 induction r with
 |nil=>exact .nil
 | @cons p q ps qs h t ih=>
  rw[bO,bO];refine .cons ?_ ih;obtain⟨h1,h2,h3⟩:=h;unfold putAt;by_cases e:p.1=k
  ·rw[aH e,aH (h1.symm.trans e)];exact⟨h1,h2,ry⟩
  ·rw[ay e,ay (λz=>e (h1.trans z))];exact⟨h1,h2,h3⟩
theorem KT.put{H:Hp}{am:List (List Key×V)}{xs:List (List Key×ah×ag)}(r:KT H am xs)(k:List Key){b:ah}{y:V}{u:ag}(hb:H b=ab (.tup (k.map kV)))(ry:RelV y u) :
 KT H (putK am k y) (storedH xs k b u):=by
 have e:(am.any λkv=>decide (kv.1=k))=(atKey xs k).isSome:=by rw[F5,(r.val k).tu,BE]
 unfold putK storedH;rw[e];by_cases q:(atKey xs k).isSome=true
 ·rw[aH q,aH q];exact r.repl k ry
 ·rw[ay q,ay q];exact Paired.snoc r ⟨rfl,hb,ry⟩
theorem KT.keeps{H H':Hp}{am:List (List Key×V)}{xs:List (List Key×ah×ag)}(r:KT H am xs)(ht:∀b ys,H b=ab (.tup ys)->H' b=ab (.tup ys)):KT H' am xs:=Paired.Ai r λ_ _ z=>⟨z.1,ht _ _ z.2.1,z.2.2⟩
section
variable{P:bg}{w:aY}{H:Hp}{h:aI}{a:ah}
theorem Il{u:HO}(ok:cX P w H h)(e:Rd H a u):bQ P w H h a u:=e.ok ok
theorem xN{am:List (Key×V)}(ok:cX P w H h)(e:Rd H a (.dK am)):am.length<=sizeLine/\(a==sysModules)=false/\∃vs,KV am vs/\h.DictOf (gN P w) a vs:=show bQ P w H h a (.dK am)from Il ok e
theorem Dq{am:List (Key×V)}(ok:cX P w H h)(e:H a=ab (.dK am)):am.length<=sizeLine/\(a==sysModules)=false/\∃vs,KV am vs/\h.DictOf (gN P w) a vs:=xN ok (.inl e)
theorem u3{ks:List Key}(ok:cX P w H h)(e:H a=ab (.tup (ks.map kV))):(tupleKind (gN P w)).is h ks a:=by obtain⟨_,aj,r,o,h1,h2,_,n,h3⟩:=(show bQ P w H h a (.tup (ks.map kV))from ok a _ e);exact⟨o,aj.toArray,n,h1,h2,h3,by simpa using EL r⟩
theorem y8{am:List (List Key×V)}(ok:cX P w H h)(e:Rd H a (.dT am)):am.length<=sizeLine/\(a==sysModules)=false /\
 ∃xs,KT H am xs/\h.DictOfH (tupleKind (gN P w)) a xs:=by
 obtain⟨z,y,xs,r,o,es,ep,h1,h2,h3,h4,h5⟩:=(show bQ P w H h a (.dT am)from Il ok e);refine⟨z,y,xs,r,o,es,ep,h1,h2,h3,h4,λx hx=>?_,h5⟩;have all:∀{l:List (List Key×V)} {m:List (List Key×ah×ag)},KT H l m->∀x∈m,(tupleKind (gN P w)).is h x.1 x.2.1:=by
  intro l m q
  induction q with
  |nil=>intro x hx;exact nomatch hx
  | @cons p q ps qs hq t ih=>
   intro x hx;rcases bA.mp hx with e|hx
   ·subst e;exact u3 ok (by rw[<- hq.1];exact hq.2.1)
   ·exact ih x hx
 exact all r x hx
theorem KQ{am:List (List Key×V)}(ok:cX P w H h)(e:H a=ab (.dT am)):am.length<=sizeLine/\(a==sysModules)=false /\
 ∃xs,KT H am xs/\h.DictOfH (tupleKind (gN P w)) a xs:=y8 ok (.inl e)
end
def ke(H:Hp)(a:ah)(y:V)(r:Option V):Prop:=(∃am k,Rd H a (.dK am)/\y=kV k/\r=hW am k)\/∃am k b,Rd H a (.dT am)/\y=.ref b/\H b=ab (.tup (k.map kV))/\r=hW am k
def mK(H:Hp)(a:ah)(y v:V)(H':Hp):Prop:=
 (∃am k,H a=ab (.dK am)/\y=kV k/\am.length<sizeLine/\H'=upd H a (.dK (putK am k v))) \/
 ∃am k b,H a=ab (.dT am)/\y=.ref b/\H b=ab (.tup (k.map kV))/\am.length<sizeLine/\H'=upd H a (.dT (putK am k v))
theorem ke.k{H:Hp}{a:ah}{am:List (Key×V)}{k:Key}(e:H a=ab (.dK am)):ke H a (kV k) (hW am k):=.inl ⟨am,k,.inl e,rfl,rfl⟩
theorem ke.t{H:Hp}{a b:ah}{am:List (List Key×V)}{k:List Key}(e:H a=ab (.dT am))(eb:H b=ab (.tup (k.map kV))):ke H a (.ref b) (hW am k):=.inr ⟨am,k,b,.inl e,rfl,eb,rfl⟩
theorem mK.k{H:Hp}{a:ah}{am:List (Key×V)}{k:Key}{v:V}(e:H a=ab (.dK am))(hl:am.length<sizeLine):mK H a (kV k) v (upd H a (.dK (putK am k v))):=.inl ⟨am,k,e,rfl,hl,rfl⟩
theorem mK.t{H:Hp}{a b:ah}{am:List (List Key×V)}{k:List Key}{v:V}(e:H a=ab (.dT am))(eb:H b=ab (.tup (k.map kV)))(hl:am.length<sizeLine) :
 mK H a (.ref b) v (upd H a (.dT (putK am k v))):=.inr ⟨am,k,b,e,rfl,eb,hl,rfl⟩
section
variable{X:Cx}{af:List (ah×Obj)}{σ:St}{H:Hp}{s:ao}{a:ah}{y v:V}{u r:ag}{o:Option V}{A:bv}{E:ag->ao->Prop}
theorem Inv.big(I:Inv X af σ H s):sysModules<s.heap.objs.size:=by have h:mainGlobals<s.heap.objs.size:=(I.mod.glob.keeps I.bk).lt;exact Nat.lt_trans (by decide) h
theorem Nz{Q:ag->ao->Prop}(hu:A.units+1<cLine)(I:Inv X af σ H s)(g:ke H a y o)(ry:RelV y u)(h:∀s',Inv X af σ H s'->Q (.bool o.isSome) s') :
 wpAny (model X.prog X.w) A (compareOp .In u (.ref a)) Q E s:=by
 rcases g with ⟨am,k,e,ey,l⟩|⟨am,k,b,e,ey,eb,l⟩
 ·subst ey;obtain⟨z,hd,vs,rel,dd⟩:=xN I.hok e;refine wpAny_in_of (tE ry) hd dd.mapOf ?_;rw[<- (rel.val k).tu,<- l];exact h _ (I.tok _)
 ·subst ey;cases(show u=b8 b from ry);obtain⟨z,hd,xs,rel,dd⟩:=y8 I.hok e;refine wpAny_in_heap (AL hu) (u3 I.hok eb) hd dd ?_;have q:=(rel.val k).tu;rw[BE]at q;rw[<- q,<- l];exact h _ (I.tok _)
theorem Rp{Q:ag->ao->Prop}(hu:A.units+1<cLine)(I:Inv X af σ H s)(g:ke H a y o)(ry:RelV y u)(h:∀s',Inv X af σ H s'->Q (.bool (!o.isSome)) s') :
 wpAny (model X.prog X.w) A (compareOp .NotIn u (.ref a)) Q E s:=by
 rcases g with ⟨am,k,e,ey,l⟩|⟨am,k,b,e,ey,eb,l⟩
 ·subst ey;obtain⟨z,hd,vs,rel,dd⟩:=xN I.hok e;refine wpAny_notIn_of (tE ry) hd dd.mapOf ?_;rw[<- (rel.val k).tu,<- l];exact h _ (I.tok _)
 ·subst ey;cases(show u=b8 b from ry);obtain⟨z,hd,xs,rel,dd⟩:=y8 I.hok e;refine wpAny_notIn_heap (AL hu) (u3 I.hok eb) hd dd ?_;have q:=(rel.val k).tu;rw[BE]at q;rw[<- q,<- l];exact h _ (I.tok _)
theorem y3{h':aI}{t':Nat}{ob:HO}(I:Inv X af σ H s)(mu:rP (H a))(hs:mo a s.heap h')(he:∃q,h'.get? a=ab q)(new:bQ X.prog X.w (upd H a ob) h' a ob) :
 Inv X af σ (upd H a ob) { s with heap:=h',toks:=t' }:=
 I.write (x:=a) (e:=a) mu (.inl rfl) (λb q hb z=>(hs.2 b hb).trans z) he new
theorem Fo{P:bg}{w:aY}{H':Hp}{h':aI}{am:List (Key×V)}{vs:List (Key×ag)}(z:am.length<=sizeLine)(hd:(a==sysModules)=false)(rel:KV am vs)(dd:h'.DictOf (gN P w) a vs) :
 bQ P w H' h' a (.dK am):=⟨z,hd,vs,rel,dd⟩
theorem N3{H':Hp}{Q:Unit->ao->Prop}(hu:A.units+1<cLine)(I:Inv X af σ H s)(g:mK H a y v H')(ry:RelV y u)(rv:RelV v r)(h:∀s',Inv X af σ H' s'->Q () s') :
 wpAny (model X.prog X.w) A (setItem (.ref a) u r) Q E s:=by
 rcases g with ⟨am,k,e,ey,l,eH⟩|⟨am,k,b,e,ey,eb,l,eH⟩
 ·subst ey eH;obtain⟨z,hd,vs,rel,dd⟩:=Dq I.hok e;have hz:vs.length<=sizeLine:=by rw[<- rel.length];exact z
  have hl:(putK am k v).length<=sizeLine:=by have:=zC am k v;omega
  refine wpAny_setItem_pairs (hsz:=hz) (tE ry) dd λh' dd' hs=>h _ ?_;have he:∃q,h'.get? a=ab q:=let ⟨q,_,_,hq,_⟩:=dd';⟨q,hq⟩;exact y3 I (by rw[e];exact g9) hs he (Fo hl hd (rel.put k rv) dd')
 ·subst ey eH;cases(show u=b8 b from ry);obtain⟨z,hd,xs,rel,dd⟩:=KQ I.hok e;have hz:xs.length<=sizeLine:=by rw[<- rJ rel];exact z
  have hl:(putK am k v).length<=sizeLine:=by have:=zC am k v;omega
  refine wpAny_setItem_heap (hsz:=hz) (AL hu) (u3 I.hok eb) dd λh' dd' hs=>h _ ?_;obtain⟨q,es,ep,hq,h2,h3,h4,_,h5⟩:=dd';refine y3 I (by rw[e];exact g9) hs ⟨q,hq⟩ ⟨hl,hd,_,(rel.put k eb rv).keeps λc ys ec=>?_,q,es,ep,hq,h2,h3,h4,h5⟩;rw[aC (Pd ec e (λz=>nomatch z))];exact ec
end
def C2(ty td:TE):TE:=λσ H Q=>ty σ H λy H1=>td σ H1 λx H2=>∃a o,x=.ref a/\ke H2 a y o/\Q (.bl o.isSome) H2
def GJ(ty td:TE):TE:=λσ H Q=>ty σ H λy H1=>td σ H1 λx H2=>∃a o,x=.ref a/\ke H2 a y o/\Q (.bl (!o.isSome)) H2
def fg(td ty tv:TE):TS:=λD σ H=>tv σ H λv H1=>td σ H1 λx H2=>ty σ H2 λy H3=>∃a H4,x=.ref a/\mK H3 a y v H4/\D.nx σ H4
section
variable{X:Cx}{o i e value:aR}{pos pos' tpos:Pos}{td ty tv:TE}
theorem oR(hu:X.A.units+1<cLine)(hi:PE X i ty)(ho:PE X o td):PC X .In i o (C2 ty td):=by intro af s σ H Q I h;refine aS (hi af s σ H _ I h) λiv s1 ⟨y,H1,I1,ry,q1⟩=>aS (ho af s1 σ H1 _ I1 q1) λu s2 ⟨x,H2,I2,rx,a,ov,ex,g,q2⟩=>?_;subst ex;obtain rfl:u=b8 a:=rx;exact Nz hu I2 g ry λs3 I3=>⟨.bl ov.isSome,H2,I3,rfl,q2⟩
theorem uZ(hu:X.A.units+1<cLine)(hi:PE X i ty)(ho:PE X o td):PC X .NotIn i o (GJ ty td):=by intro af s σ H Q I h;refine aS (hi af s σ H _ I h) λiv s1 ⟨y,H1,I1,ry,q1⟩=>aS (ho af s1 σ H1 _ I1 q1) λu s2 ⟨x,H2,I2,rx,a,ov,ex,g,q2⟩=>?_;subst ex;obtain rfl:u=b8 a:=rx;exact Rp hu I2 g ry λs3 I3=>⟨.bl (!ov.isSome),H2,I3,rfl,q2⟩
theorem vk(hu:X.A.units+1<cLine)(ho:PE X o td)(hi:PE X i ty)(hv:PE X value tv)(hs:swapsWith value (ab (.Subscript o i pos')) pos.line X.env=pure false) :
 PS X (.Assign [.Subscript o i pos'] value pos) (fg td ty tv):=by
 intro af s σ H D I h;refine wpAny_Assign_Subscript (aS (hv af s σ H _ I h) λr s1 ⟨v,H1,I1,rv,q1⟩=>aS (ho af s1 σ H1 _ I1 q1) λu s2 ⟨x,H2,I2,rx,q2⟩=>aS (hi af s2 σ H2 _ I2 q2) λiv s3 ⟨y,H3,I3,ry,a,H4,ex,g,q3⟩=>?_) hs;subst ex;obtain rfl:u=b8 a:=rx;exact N3 hu I3 g ry rv λs4 I4=>⟨σ,H4,I4,q3⟩
end
theorem Ol{P:bg}{w:aY}{H:Hp}(h:aI)(hb:sysModules<h.objs.size):bQ P w H (h.push { cls:=.type "dict", data:=.dict #[] }) h.objs.size (.dK []):=⟨eZ _,tH.mpr (cR (gh hb)),[],.nil,Heap.DictOf.new h⟩
theorem Ro{P:bg}{w:aY}{H:Hp}(h:aI)(hb:sysModules<h.objs.size):bQ P w H (h.push { cls:=.type "dict", data:=.dict #[] }) h.objs.size (.dT []):=⟨eZ _,tH.mpr (cR (gh hb)),[],.nil,_,#[],0,bS _ rfl,⟨rfl,rfl,rfl⟩,rfl,rfl,List.nodup_nil⟩
def HL:TE:=λ_ H Q=>∀p,H p=ae->Q (.ref p) (upd H p (.dT []))
section
variable{X:Cx}{pos:Pos}
theorem Dw:PE X (.Dict [] [] pos) HL:=λaf s σ H Q I h=>
 wpAny_Dict_empty ⟨.ref s.heap.objs.size,_,I.laid (a:=s.heap.objs.size) (o:=.dT []) (t':=s.toks) (λ_ _ q=>bD _ q) (ba _) (Ro s.heap I.big),rfl,h _ (I.hok.fresh (ba _))⟩
end
def xM:List (TE×TE)->St->Hp->(List (V×V)->Hp->Prop)->Prop
 |[],_,H,Q=>Q [] H
 |(tk,tv)::r,σ,H,Q=>tk σ H λx H1=>tv σ H1 λy H2=>xM r σ H2 λps H3=>Q ((x,y)::ps) H3
abbrev VV:List (V×V)->List (ag×ag)->Prop:=nK λp q=>RelV p.1 q.1/\RelV p.2 q.2
def vY(X:Cx)(pos:Pos)(keys:List (Option aR))(values:List aR)(trs:List (TE×TE)):Prop:=
 ∀(af:List (ah×Obj)) (s:ao) (σ:St) (H:Hp) (Q:List (V×V)->Hp->Prop),Inv X af σ H s->xM trs σ H Q ->
  wpAny (model X.prog X.w) X.A (evalPairs (pairTrees keys values X.env pos)) (λvs s'=>∃ps H',Inv X af σ H' s'/\VV ps vs/\Q ps H') X.xe s
theorem PY{X:Cx}{pos:Pos}:vY X pos [] [] []:=λaf s σ H Q I h=>pairTrees_nil_walk ⟨[],H,I,.nil,h⟩
theorem Lf{X:Cx}{pos:Pos}{k v:aR}{ks:List (Option aR)}{vs:List aR}{tk tv:TE}{trs:List (TE×TE)}(hk:PE X k tk)(hv:PE X v tv)(hr:vY X pos ks vs trs) :
 vY X pos (ab k::ks) (v::vs) ((tk,tv)::trs):=λaf s σ H Q I h=>
 pairTrees_cons_walk (aS (hk af s σ H _ I h) λu s1 ⟨x,H1,I1,rx,q1⟩=>aS (hv af s1 σ H1 _ I1 q1) λw2 s2 ⟨y,H2,I2,ry,q2⟩=>
  aS (hr af s2 σ H2 _ I2 q2) λws s3 ⟨ps,H3,I3,rel,q3⟩=>⟨(x,y)::ps,H3,I3,.cons ⟨rx,ry⟩ rel,q3⟩)
def rW(am more:List (Key×V)):List (Key×V):=more.foldl (λacc kv=>putK acc kv.1 kv.2) am
theorem KV.merge:∀{more:List (Key×V)} {rs:List (Key×ag)} {am:List (Key×V)} {vs:List (Key×ag)},KV more rs->KV am vs->KV (rW am more) (merged vs rs):=by
 intro more rs am vs r;unfold KV at r
 induction r generalizing am vs with
 |nil=>intro q;exact q
 | @cons p q ps qs h t ih=>
  intro r0;have e:KV (putK am p.1 p.2) (stored vs q.1 q.2):=by have:=r0.put p.1 h.2;rw[<- h.1];exact this
  exact ih e
theorem EZ:∀(more am:List (Key×V)),(rW am more).length<=am.length+more.length
 |[],am=>by show am.length<=am.length+0;omega
 |p::r,am=>by
  have h1:=EZ r (putK am p.1 p.2);have h2:=zC am p.1 p.2;show(rW (putK am p.1 p.2) r).length<=_;rw[dW];omega
theorem Fg{P:bg}{w:aY}:∀{am:List (Key×V)} {ws:List (ag×ag)},VV (am.map λkv=>(kV kv.1,kv.2)) ws->∃rs,Carries (gN P w) ws rs/\KV am rs
 |[],_,r=>by rw[ud]at r;cases r;exact⟨[],g9,.nil⟩
 |p::am,_,r=>by
  rw[bO]at r;cases r with
  | @cons a b as bs h t=>
   obtain⟨rs,c,q⟩:=Fg (P:=P) (w:=w) t;obtain⟨b1,b2⟩:=b;exact⟨(p.1,b2)::rs,⟨tE h.1,rfl,c⟩,.cons ⟨rfl,h.2⟩ q⟩
def yd(trs:List (TE×TE)):TE:=λσ H Q=>∀p,H p=ae->xM trs σ (upd H p (.dK [])) λps H2=>H2 p=ab (.dK [])/\∃am:List (Key×V),ps=am.map (λkv=>(kV kv.1,kv.2))/\am.length<=15/\Q (.ref p) (upd H2 p (.dK (rW [] am)))
theorem L4{X:Cx}{pos:Pos}{keys:List (Option aR)}{values:List aR}{trs:List (TE×TE)}(h:vY X pos keys values trs)(hall:keys.all (·.isSome)=true)(hl:keys.length=values.length)(h0:keys≠[])
 (h15:keys.length<=15):PE X (.Dict keys values pos) (yd trs):=by
 intro af s σ H Q I q;have hn:=I.hok.fresh (ba s.heap.objs.size);have I1:=I.laid (a:=s.heap.objs.size) (o:=.dK []) (h':=s.heap.push { cls:=.type "dict", data:=.dict #[] }) (t':=s.toks) (λ_ _ q=>bD _ q) (ba _) (Ol s.heap I.big);refine wpAny_Dict_walk (knd:=gN X.prog X.w) hall hl h0 h15 (aS (h af _ σ _ _ I1 (q _ hn)) λws s2 ⟨ps,H2,I2,rel,e,am,ep,lk,q2⟩=>?_);subst ep;obtain⟨rs,c,rk⟩:=Fg (P:=X.prog) (w:=X.w) rel;obtain⟨z,hd,vs0,r0,dd⟩:=Dq I2.hok e;cases r0;refine⟨rs,c,dd,λh' dd' hs=>⟨.ref s.heap.objs.size,_,?_,rfl,q2⟩⟩;have hz:(rW [] am).length<=sizeLine:=by have h1:=EZ am [];rw[pN]at h1;rw[b9];omega
 have he:∃q,h'.get? s.heap.objs.size=ab q:=let ⟨q,_,_,hq,_⟩:=dd';⟨q,hq⟩;exact y3 I2 (by rw[e];exact g9) hs he (Fo hz hd (rk.merge .nil) dd')
end L2
namespace Att
open PySem PySem.W PySem.Calls PyProof.Rows
theorem QZ{P:Params}{h:aI}:∀(ns:List Int) (vs:List ag),WellAll P h vs (ns.map WData.int)->gJ vs ns:=by
 intro ns
 induction ns with
 |nil=>
  intro vs w;rw[ud]at w;cases w;exact .nil
 |cons n ns ih=>
  intro vs w;rw[bO]at w;cases w with
  |cons a b=>
   cases a;exact .cons _ _ (ih _ b)
theorem Ov{l:OpenLaw}{n:Nat}(hn:l.most=ab n){P:Params}{h:aI}{args:List WData}{vals:List ag}
 (hpre:l.row.toRowW.claim.pre args=true) (hwl:WellAll P h vals args) :
 ∃a vs ns,vals=[b8 a]/\args=[WData.list (ns.map WData.int)]/\h.get? a=ab { cls:=.type "list", data:=.seq vs.toArray }/\gJ vs ns/\ns.length<=n:=by
 have hsh:WShape.hasAll [] args [.list .int]=true:=(pre_splitW hpre).1;have hc:l.pre.holds [] { args:=args }=true:=(pre_splitW hpre).2;obtain⟨d,r,rfl,h1,h2⟩:=hasAllW_cons hsh;obtain rfl:=hasAllW_nil h2;obtain⟨xs,rfl,h3⟩:=hasW_list h1;obtain⟨ns,rfl⟩:=items_int h3;have hlen:ns.length<=n:=by
  unfold OpenLaw.pre at hc;have h4:(WTm.not (.lt (.lit (.int (n:Int))) (.len (.arg 0)))).holds [] { args:=[.list (ns.map .int)] }=true:=by have h4:=(holds_andW hc).1;rw[hn]at h4;exact h4
  have h5:=condW_of h4 (w_not (w_lt w_lit (w_len_list (w_arg rfl))));rw[aQ]at h5;refine Nat.le_of_not_lt λq=>?_;have q':(n:Int)<((ns.length:Nat):Int):=by omega
  first
   |(rw[cM q']at h5;exact absurd h5 (by decide))
   |(simp at h5;omega)
 cases hwl with
 |cons w1 w2=>
  cases w2;cases w1 with
  |list ho hall=>exact⟨_,_,ns,rfl,rfl,ho,QZ ns _ hall,hlen⟩
theorem Qs(l:OpenLaw)(args:List WData):l.row.toRowW.claim.post args (.bool true) args=true:=
 postW_of (r:=l.row.toRowW) (X:=(true==true))
  (show WShape.has [] (.bool true) .bool=true by first|rfl|decide|simp[WShape.has,WShape.arms,WShape.armsAll])
  (show(WTm.eq .res (.lit (.bool true))).value [] { args:=args,res:=ab (.bool true),after:=args }=ab (.bool (true==true))from w_eq_bool (w_res rfl) w_lit) rfl
theorem PV{l:OpenLaw}{n:Nat}{q:bg}{loose:List Str}{XP:(Str->Option ag)->aI->Prop}{YP:aY->aI->Prop}{d:DefRec}
 (hn:l.most=ab n) (hdf:d.params.defaults=[])
 (call:∀(w:aY) (s₀ s₁:ao) (mg mb:Str->Option ag) (fa:ah) (o:Obj) (pm cd doc:ag) (a:ah) (vs:List ag) (ns:List Int),
  Ground q loose [] XP w s₀ mg mb s₁.heap->YP w s₁.heap ->
  s₁.heap.get? fa=ab o->o.data=.func (docDef d.name d.params d.body d.scope pm cd doc)->s₁.heap.CodeRec cd d.name->mg d.name=ab (.ref fa) ->
  s₁.heap.get? a=ab { cls:=.type "list", data:=.seq vs.toArray }->gJ vs ns->ns.length<=n->s₁.gens = #[] ->
  codeAny (model l.prog w) callerA (.call (.ref fa) ⟨[.ref a],[]⟩) (λr s'=>r=.ok (.ret (.bool true))/\OldK s₁.heap s'.heap/\s'.os=s₁.os/\nW s'.gens) s₁) :
 WalkO q loose XP YP l.row.toRowW d [] (λf vs=>AU f vs):=by
 intro w s₀ s₁ mg mb G Y fa o pm cd doc dV kV ho hd hcd hD hmg hg args vals as hpre hlay hrd hwl hlo;obtain rfl:dV=.none:=Dflts.none hD hdf;obtain rfl:kV=.none:=Dflts.noKw hD;obtain⟨a,vs,ns,rfl,rfl,hobj,hints,hlen⟩:=Ov hn hpre hwl;refine enter_call (codeAny_mono (call w s₀ s₁ mg mb fa o pm cd doc a vs ns G Y ho (fd_plain hd) hcd hmg hobj hints hlen hg) λr s' hq=>?_);obtain⟨rfl,h2,h3,h4⟩:=hq;exact⟨.inl ⟨.bool true,.bool true,[],rfl,λ_=>rfl,.bool true,Qs l _,λ_=>⟨JF,λ_ hm=>(nomatch hm)⟩⟩,h2,h3,h4⟩
end Att
namespace L2
open PySem PySem.Spec PyProof.Rows
theorem GW:∀{vs:List ag} {ns:List Int},gJ vs ns->Vals (ns.map V.int) vs
 |_,_,.nil=>.nil
 |_,_,.cons n t h=>.cons ⟨t,rfl⟩ (GW h)
def lO(s:bC):t5:=match s with
 |.FunctionDef _ a _ _ _ _ _ _ _ _=>a
 |_=>{ posonlyargs:=[],args:=[],vararg:=ae,kwonlyargs:=[],kw_defaults:=[],kwarg:=ae,defaults:=[] }
def jj(s:bC):List bC:=match s with
 |.FunctionDef _ _ b _ _ _ _ _ _ _=>b
 |_=>[]
def bH(s:bC):eY:=match s with
 |.FunctionDef _ _ _ _ _ _ sc _ _ _=>sc
 |_=>{ kind:=.function,names:=[],isGenerator:=false,isCoroutine:=false }
abbrev aL:gF:=λ_ _ _ _ _ _=>False
abbrev E0:XK:=λ_ _ _=>False
theorem uD{X:Cx}:uG aL X E0:=λ_ _ _ _ _ _ _ h=>h.elim
structure cI(K:aE)(x qual:Str)(st:bC)(f:ah)(fd:bM):Prop where
 ex:∃(oc:ag) (od:Option ah) (kV doc pm:ag) (an:Option ah) (cdv ct:ag) (osl:Array (Option ag)),
  fd=kD x qual (lO st) (jj st) (bH st) .none kV doc pm an cdv ct/\K.lookup f=ab ⟨oc,od,.func fd,osl⟩/\rD K cdv qual=true
 kp:nS K (.ref f)=true
section
variable{P:bg}{w:aY}{K:aE}{mg:Str->Option ag}{base:aI}
theorem cI.ok{x qual:Str}{st:bC}{f:ah}{fd:bM}{N ps:List Str}{k:Nat}{sp:Sp}(F:cI K x qual st f fd)(S:cY N ps (bH st))(len:∀vs H Q E,sp vs H Q E->vs.length=ps.length)
 (hbody:∀(cdv:ag) (A:bv) (outer:List Env) (s:ao) (H:Hp) (vs:List V) (Q:VK) (E:XK),dL k (A.deeper (envOfC qual (bH st) s.heap.objs.size f cdv))->sp vs H Q E ->
  ∃t,gY (lM aL P w K mg base N qual (bH st) f cdv A outer s H E).nB (jj st) t/\t { nx:=λ_ H'=>Q .non H',rt:=Q } (start N vs) H):bF P w K mg base aL (k+1) f fd ps sp:=by
 obtain⟨oc,od,kV,doc,pm,an,cdv,ct,osl,rfl,lk,hcd⟩:=F.ex;refine FC lk hcd S len λA outer s H vs Q E hr hsp=>?_;obtain⟨t,h,q⟩:=hbody cdv A outer s H vs Q E hr hsp;exact⟨t,h.nB,q⟩
theorem cI.binds{x qual:Str}{st:bC}{f:ah}{fd:bM}{ps:List Str}(F:cI K x qual st f fd)
 (h:∀(kV doc pm:ag) (an:Option ah) (cdv ct:ag) (us:List ag),us.length=ps.length->bindArgs (kD x qual (lO st) (jj st) (bH st) .none kV doc pm an cdv ct) ⟨us,[]⟩=pure (ps.zip us)):Binds K fd ps []:=by
 obtain⟨oc,od,kV,doc,pm,an,cdv,ct,osl,rfl,lk,hcd⟩:=F.ex;exact .all (h kV doc pm an cdv ct)
theorem E2{x qual:Str}{st:bC}{f:ah}{oc:ag}{od an:Option ah}{osl:Array (Option ag)}{kV doc pm cdv ct:ag}(l:K.lookup f=ab ⟨oc,od,.func (kD x qual (lO st) (jj st) (bH st) .none kV doc pm an cdv ct),osl⟩)
 (c:rD K cdv qual=true) (k:nS K (.ref f)=true):cI K x qual st f (kD x qual (lO st) (jj st) (bH st) .none kV doc pm an cdv ct):=⟨⟨oc,od,kV,doc,pm,an,cdv,ct,osl,rfl,l,c⟩,k⟩
end
theorem vg{A:bv}{k:Nat}(hr:dL k A):A.units+1<cLine:=Nat.lt_of_le_of_lt (Nat.add_le_add_left (by decide:1<=64) _) hr.units
section
variable{X:Cx}
theorem pv(i:Nat){x:Str}{pos:Pos}(hN:X.N[i]? = ab x:=by rfl)(hv:sC X.env.scope x:=by first|exact dA rfl|exact fI (dA rfl)|exact fI (fI rfl))(hd:(x==("__debug__" : Str))=false:=by decide)
 (hcd:(x==("__classdict__" : Str))=false:=by decide):PE X (.Name x pos) (dM i):=Ql hN hv hd hcd
end
theorem nq{A B:Prop}(h:B):if false=true then A else B:=by rw[ay cy];exact h
theorem mE{A B:Prop}(h:A):if true=true then A else B:=by rw[aH rfl];exact h
def cK(H H':Hp):Prop:=∀b o,H b=ab o->H' b=ab o
theorem cK.refl(H:Hp):cK H H:=λ_ _ h=>h
theorem cK.trans{H H1 H2:Hp}(a:cK H H1)(b:cK H1 H2):cK H H2:=λc o h=>b c o (a c o h)
theorem cK.free{H H':Hp}(e:cK H H'){l:ah}(h:H' l=Option.none):H l=Option.none:=by
 cases q:H l with
 |none=>rfl
 |some o=>
  rw[e l o q]at h;cases h
section
variable{prog:bg}{w:aY}{A:bv}{R:Result->ao->Prop}{s:ao}
theorem M1{elt target iter:aR}{ifs:List aR}{scope:eY}{pos:Pos}{it acc:ag}{env:Env}(I:Nat->ao->Prop)
 (turn:∀n s,I n s->wpAny (model prog w) A (pyNext it) (λr s₁=>match r with
  |none=>R (.ok .next) s₁
  |some v=>wpAny (model prog w) A (letOwnedTupleGo target it v) (λ_ s₂=>wpAny (model prog w) A (assign target env v) (λ_ s₃=>
   wpAny (model prog w) A (forIn ifs true λc r=>if r=true then do let ok <- isTrue c env (eval c env);pure (lp ok)else pure (lp r)) (λok s₄=>
    if ok=true then wpAny (model prog w) A (eval elt env) (λx s₅=>
     wpAny (model prog w) A (call (.builtin "list.append") [acc,x]) (λ_ s₆=>∃m,m<n/\I m s₆) (λ_ _=>False) s₅) (λ_ _=>False) s₄
    else∃m,m<n/\I m s₄) (λ_ _=>False) s₃) (λ_ _=>False) s₂) (λ_ _=>False) s₁) (λ_ _=>False) s)
 (n:Nat) (h:I n s) :
 codeAny (model prog w) A (.compLoop (.ListComp elt [⟨target,iter,ifs,0⟩] scope pos) 0 it acc env) R s:=by
 refine codeAny_loop rfl I (λn s hI=>?_) n h;show wpAny _ A ((compTurn (.ListComp elt [⟨target,iter,ifs,0⟩] scope pos) 0 it acc env).onRaise (λx=>do noteFrame x env;theTreesLotGoes x)) _ _ s;refine wpAny_noted (jt (E:=λ_ _=>False) ?_ (λ_ _ q=>q) λ_ _ q=>q.elim);rw[compTurn_list];refine ak (AV (ak (aS (turn n s hI) λr s₁ h₁=>?_)));cases r with
 |none=>exact ax h₁
 |some v=>
  refine ak (aS h₁ λ_ s₂ h₂=>ak (aS h₂ λ_ s₃ h₃=>ak (aS h₃ λok s₄ h₄=>?_)));cases ok with
  |false=>exact ax ⟨rfl,h₄⟩
  |true=>exact ak (ak (aS h₄ λx s₅ h₅=>ak (aS h₅ λ_ s₆ h₆=>ax (ax ⟨rfl,h₆⟩))))
end
theorem cX.track{P:bg}{w:aY}{H:Hp}{h:aI}{a:ah}{o:HO}(x:cX P w H h)(hn:H a=ae)(new:bQ P w (upd H a o) h a o):cX P w (upd H a o) h:=λb u e=>by
 by_cases hb:b=a
 ·subst hb;rw[bj]at e;cases e;exact new
 ·rw[aC hb]at e;exact(x b u e).stay (λc v _ q=>q) (λc q=>by rw[aC (cJ q hn)];exact q) λc xs q=>by rw[aC (cJ q hn)];exact q
theorem lookup_mem{α:Type}:∀{l:List (Str×α)} {x:Str} {k:α},l.lookup x=ab k->(x,k)∈l
 |[],_,_,h=>by simp at h
 |(n,k')::r,x,k,h=>by
  rw[nQ]at h;cases hx:x==n with
  |true=>
   rw[hx]at h;have:x=n:=by simpa using hx
   cases h;subst this;exact ce
  |false=>rw[hx]at h;exact c6 _ (lookup_mem h)
theorem vC{env:Env}:∀{names:List (Str×nJ)} {x:Str} {k:nJ},
 (names.map λ(n,k)=>if(k==lu&&env.scope.kind==.function&&env.kindOf n==ab .cell)then(n,BH)else(n,k)).lookup x=ab k ->
 ∃k',names.lookup x=ab k'/\(k=k'\/(k'=.free/\k=.cell))
 |[],_,_,h=>by simp at h
 |(n,k0)::r,x,k,h=>by
  have ih:=@vC env r x k;have h':mn x ((if(k0==lu&&env.scope.kind==.function&&env.kindOf n==ab .cell)=true then(n,BH)else(n,k0)) ::
   (r.map λ(n,k)=>if(k==lu&&env.scope.kind==.function&&env.kindOf n==ab .cell)then(n,BH)else(n,k)))=ab k:=h
  by_cases hc:(k0==lu&&env.scope.kind==.function&&env.kindOf n==ab .cell)=true
  ·rw[aH hc,nQ]at h';rw[nQ];cases hx:x==n with
   |true=>
    rw[hx]at h';cases h';simp only[g6]at hc;exact⟨k0,rfl,.inr ⟨by simpa using hc.1.1,rfl⟩⟩
   |false=>rw[hx]at h';exact ih h'
  ·rw[ay hc,nQ]at h';rw[nQ];cases hx:x==n with
   |true=>rw[hx]at h';cases h';exact⟨_,rfl,.inl rfl⟩
   |false=>rw[hx]at h';exact ih h'
theorem Aq{env:Env}{f:(Str×nJ)->List (Str×ah)->Sem (ForInStep (List (Str×ah)))}
 (hf:∀n k r,f (n,k) r=if(k==lu)=true then(cellOf env n >>= λa=>pure (lp ((n,a)::r)))else pure (lp r)) :
 ∀(names:List (Str×nJ)) (acc:List (Str×ah)),(∀y∈names,y.2=.free->∃c,env.cells.lookup y.1=ab c)->(∀x c,acc.lookup x=ab c->env.cells.lookup x=ab c) ->
  ∃cl,forIn names acc f=pure cl/\(∀x c,cl.lookup x=ab c->env.cells.lookup x=ab c)/\(∀x,(∃c,acc.lookup x=ab c)->∃c,cl.lookup x=ab c)/\∀x,(x,lu)∈names->∃c,cl.lookup x=ab c
 |[],acc,_,hacc=>⟨acc,rfl,hacc,λ_ h=>h,λ_ h=>by simp at h⟩
 |(n,k)::r,acc,hn,hacc=>by
  have hr:∀y∈r,y.2=.free->∃c,env.cells.lookup y.1=ab c:=λy hy=>hn y (c6 _ hy);by_cases hk:(k==lu)=true
  ·have hk':k=.free:=by simpa using hk
   obtain⟨c,hc⟩:=hn (n,k) ce hk';obtain⟨cl,e,h1,h2,h3⟩:=Aq hf r ((n,c)::acc) hr (λx c' h=>by
    rw[nQ]at h;cases hx:x==n with
    | true => rw [hx] at h; cases h; have : x = n := by simpa using hx
              subst this;exact hc
    |false=>rw[hx]at h;exact hacc x c' h)
   refine⟨cl,?_,h1,λx ⟨c',hx⟩=>h2 x ?_,λx hx=>?_⟩
   ·rw[ub,hf,aH hk];have:cellOf env n=pure c:=by unfold cellOf;rw[hc]
    rw[this];exact e
   ·rw[nQ];cases x==n with
    |true=>exact⟨_,rfl⟩
    |false=>exact⟨c',hx⟩
   ·rcases bA.mp hx with e|hx
    ·cases e;exact h2 _ ⟨c,by rw[nQ];simp⟩
    ·exact h3 x hx
  ·obtain⟨cl,e,h1,h2,h3⟩:=Aq hf r acc hr hacc;refine⟨cl,?_,h1,h2,λx hx=>?_⟩
   ·rw[ub,hf,ay hk];exact e
   ·rcases bA.mp hx with e|hx
    ·cases e;exact absurd rfl hk
    ·exact h3 x hx
theorem OX{sc:eY}{env:Env}(h:∀y∈sc.names,y.2=.free->∃c,env.cells.lookup y.1=ab c) :
 ∃cl,closureFor sc env=pure cl/\(∀x c,cl.lookup x=ab c->env.cells.lookup x=ab c)/\∀x,(x,lu)∈sc.names->∃c,cl.lookup x=ab c:=by
 obtain⟨cl,e,h1,_,h3⟩:=Aq (env:=env) (f:=λx r=>match x with|(name,kind)=>if(kind==lu)=true then(cellOf env name >>= λa=>pure (lp ((name,a)::r)))else pure (lp r))
  (λn k r=>rfl) sc.names [] h (λ_ _ h=>by simp at h)
 refine⟨cl,?_,h1,h3⟩;unfold closureFor;refine Eq.trans ?_ e;exact bind_pure _
def pick(ρ:List (Option Nat))(σ:St):St:=ρ.map λo=>o.bind λj=>(σ[j]?).join
def fO(X:Cx)(N':List Str)(sc:eY)(cl:List (Str×ah))(C:ah)(s:ao)(H:Hp)(fp:List ah):Cx:={ X with N:=N',s₀:=s,H₀:=H,env:=compEnvC sc cl C X.env,outer:=X.stack,ex:=fp,fn:=λ_=>false,xe:=λ_ _=>False }
structure eK(X:Cx)(N':List Str)(ρ:List (Option Nat))(sc:eY):Prop where
 kind:sc.kind=.function
 ux:∀y∈sc.names,y.2≠.cell
 names:∀y∈sc.names,y.2=.local->sc.names.lookup y.1=ab .local
 free:∀y∈sc.names,y.2=.free->(X.env.kindOf y.1=ab .cell\/X.env.kindOf y.1=ab .free)
 len:ρ.length=N'.length
 ix:∀(i j:Nat),ρ[i]? = ab (ab j)->∃x,N'[i]? = ab x/\X.N[j]? = ab x/\sc.names.lookup x=ab .free
def rV(X:Cx)(ifs:List aR)(t:TT):Prop:=
 ∀(af:List (ah×Obj)) (s:ao) (σ:St) (H:Hp) (Q:Bool->Hp->Prop),Inv X af σ H s->t σ H Q ->
  wpAny (model X.prog X.w) X.A (forIn ifs true λc r=>if r=true then do let ok <- isTrue c X.env (eval c X.env);pure (lp ok)else pure (lp r)) (TP X af σ Q) X.xe s
def FS:TT:=λ_ H Q=>Q true H
theorem kh{X:Cx}:rV X [] FS:=λ_ _ _ H _ I h=>wpAny_tests_nil ⟨H,I,h⟩
theorem mI{X:Cx}{c:aR}{t:TT}(h:PT X c t):rV X [c] t:=λaf s σ H Q I hw=>wpAny_tests_one (h af s σ H Q I hw)
def tS(ρ:List (Option Nat))(g:TG):Prop:=∀v σ H Q,g v σ H Q->g v σ H λσ2 H2=>(σ2.length = σ.length/\∀(i j:Nat),ρ[i]? = ab (ab j)->σ2[i]? = σ[i]?)/\Q σ2 H2
def wb(ρ:List (Option Nat))(g:jB):Prop:=∀v σ H Q,g v σ H Q->g v σ H λσ2 H2=>(σ2.length = σ.length/\∀(i j:Nat),ρ[i]? = ab (ab j)->σ2[i]? = σ[i]?)/\Q σ2 H2
theorem gR{ρ:List (Option Nat)}{i:Nat}(h:ρ[i]? = ab ae):tS ρ (fL i):=λv σ H Q q=>by
 refine⟨⟨iT,λk j e=>?_⟩,q⟩;have:i≠k:=by intro z;subst z;rw[h]at e;cases e
 rw[fi this]
theorem zy{ρ:List (Option Nat)}:wb ρ sG:=λv σ H Q ⟨e,q⟩=>⟨e,⟨rfl,λ_ _ _=>rfl⟩,q⟩
theorem q8{ρ:List (Option Nat)}{i:Nat}{u:jB}(h:ρ[i]? = ab ae)(hu:wb ρ u)(mu:∀v σ H Q Q',(∀a b,Q a b->Q' a b)->u v σ H Q->u v σ H Q'):wb ρ (s0 (fL i) u):=λvs σ H Q ⟨v,r,e,q⟩=>by
 refine⟨v,r,e,?_⟩;refine mu _ _ _ _ _ (λa b ⟨⟨l,k⟩,z⟩=>⟨⟨l.trans iT,λi' j' e'=>(k i' j' e').trans ?_⟩,z⟩) (hu _ _ _ _ q);have:i≠i':=by intro z;subst z;rw[h]at e';cases e'
 rw[fi this]
theorem qb:∀v σ H Q Q',(∀a b,Q a b->Q' a b)->sG v σ H Q->sG v σ H Q':=λ_ _ _ _ _ m ⟨e,q⟩=>⟨e,m _ _ q⟩
theorem yt{i:Nat}{u:jB}(mu:∀v σ H Q Q',(∀a b,Q a b->Q' a b)->u v σ H Q->u v σ H Q'):∀v σ H Q Q',(∀a b,Q a b->Q' a b)->s0 (fL i) u v σ H Q->s0 (fL i) u v σ H Q':=λ_ _ _ _ _ m ⟨v,r,e,q⟩=>⟨v,r,e,mu _ _ _ _ _ m q⟩
theorem zd{ρ:List (Option Nat)}{K:aE}{n:Nat}{u:jB}(hu:wb ρ u):tS ρ (ym K n u):=λv σ H Q ⟨a,xs,e,hq,hl,q⟩=>⟨a,xs,e,hq,hl,hu _ _ _ _ q⟩
def MS(J:It)(ρ:List (Option Nat))(g:TG)(tc:TT)(te:TE)(σ:St)(H1:Hp)(Q:VK):Prop:=∃W:Nat->Nat->List V->Hp->Prop,(∃m,W 0 m [] H1)/\∀i m acc H,W i m acc H ->
 (J.stop i H/\∀p,H p=ae->Q (.ref p) (upd H p (.lst acc))) \/
 (J.go i H/\acc.length<sizeLine/\∃N:List V->Hp->Prop,(∀acc' H',N acc' H'->∃m',m'<m/\W (i+1) m' acc' H') /\
  ∀x H',J.yld i H x H'->g x (pick ρ σ) H' λσ2 H2=>tc σ2 H2 λb H3=>if b=true then te σ2 H3 λy H4=>N (acc++[y]) H4 else N acc H3)
def vX(wi:TI)(ρ:List (Option Nat))(g:TG)(tc:TT)(te:TE):TE:=λσ H Q=>wi σ H λJ H1=>MS J ρ g tc te σ H1 Q
section
variable{X:Cx}{elt tg iter:aR}{ifs:List aR}{sc:eY}{pos cpos:Pos}{N':List Str}{ρ:List (Option Nat)}{wi:TI}{g:TG}{tc:TT}{te:TE}
theorem DB(hcalm:X.calm=true)(S:eK X N' ρ sc)(hi:PI X tg iter wi)
 (hg:∀cl C s H fp,PG (fO X N' sc cl C s H fp) tg g) (gk:tS ρ g) (hc:∀cl C s H fp,rV (fO X N' sc cl C s H fp) ifs tc) (he:∀cl C s H fp,PE (fO X N' sc cl C s H fp) elt te)
 (hs:∀x,foldedSetIterable iter X.env x=pure x)
 (use:Option (ag->Sem Unit)) {R:ag->ao->Prop} {af:List (ah×Obj)} {s:ao} {σ:St} {H:Hp} {Q:VK} (I:Inv X af σ H s) (h:vX wi ρ g tc te σ H Q)
 (hR:∀s' D C H',Inv X af σ H' s'->Q (.ref D) H'->(∃m,s'.heap.Ns C m)->fJ X af H' C->compPost (model X.prog X.w) X.A X.xe use R (.ref D) C (.ok .next) s') :
 wpAny (model X.prog X.w) X.A (comprehension (.ListComp elt [⟨tg,iter,ifs,0⟩] sc pos) sc X.env cpos (newList []) false (eval iter X.env) use) R X.xe s:=by
 obtain⟨cl,hcl,hsub,hall⟩:=OX (sc:=sc) (env:=X.env) λy hy hf=>I.ok.has y.1 (S.free y hy hf);refine wpAny_comprehension_free rfl hs hcl S.kind S.names (aS (hi af s σ H _ I h) λv s1 h1=>aS h1 λitv s2 h2=>?_);obtain⟨it,fp,tn,J,H2,e,I2,T,st2,f2,W,⟨m0,w0⟩,turn⟩:=h2;subst e;refine AX (items:=[]) ?_;refine wpAny_newFunctionEnv S.ux (by intro y hy;simp at hy) (λh₁ hns hsb=>?_) S.kind;dsimp only at hns hsb ⊢;generalize hH2:s2.heap.push { cls:=.type "list", data:=.seq ([]:List ag).toArray }=Hh at hns hsb ⊢;have hCs:Hh.objs.size=s2.heap.objs.size+1:=by rw[<- hH2,nV]
 generalize hD:s2.heap.objs.size=D at *;generalize hCC:Hh.objs.size=C at *;have hDC:D≠C:=by omega
 have ltC:∀b:Nat,b<s2.heap.objs.size->b≠C/\b≠D/\b<D:=λb h=>by omega
 have ltD:∀b:Nat,b<D->b≠C/\b≠D:=λb h=>by omega
 have old:∀b o,s2.heap.get? b=ab o->h₁.get? b=ab o:=λb o e=>hsb.extBut b o (ltC b (bR e)).1 (bD _ (by rw[<- hH2];exact bD _ e));have newD:h₁.get? D=ab { cls:=.type "list", data:=.seq ([]:List ag).toArray }:=hsb.extBut _ _ hDC (bD _ (by rw[<- hH2,<- hD];exact bS _ rfl));have ltb:∀b∈fp,b<D:=λb hb=>by
  obtain⟨o,e,_⟩:=T.obj _ _ st2 b hb;exact(ltC b (bR e)).2.2
 have fD:fJ X af H2 D:=I2.io (by omega) (I2.hok.fresh (by omega));have fC:fJ X af H2 C:=I2.io (by omega) (I2.hok.fresh (by omega));have nst:∀b,b≠X.env.locals->b∉X.fs->b∉frs X.stack:=λb h1 h2 hb=>by
  rcases bA.mp (I2.vP b hb)with e|e
  ·exact h1 e
  ·exact h2 e
 have ok':(fO X N' sc cl C s2 H2 fp).Ok:=by
  refine⟨I2.ok.mod,S.kind,I2.ok.glob,I2.ok.blt,(by show s2.heap.objs.size<=C;omega),λx y c e1 e2=>I2.ok.inj x y c (hsub _ _ e1) (hsub _ _ e2),λx hx=>?_,λx c z=>(by cases z),I2.ok.hd,I2.ok.frames,.inl rfl,
   λb hb=>⟨(ltD b (ltb b hb)).1,λx c e=>(f2 b hb).2.2.2.2.1 x c (hsub _ _ e)⟩,I2.bs,(by show X.base.objs.size<=s2.heap.objs.size;exact dw I2.ok.bsz I2.sz),λb o e hb=>?_,λb hb=>nst b (f2 b hb).2.1 (f2 b hb).2.2.1,I2.stack,I2.Aa⟩
  ·have hx':∃k',sc.names.lookup x=ab k'/\(k'=.cell\/k'=.free):=by
    rcases hx with hx|hx
    ·obtain⟨k',e1,e2⟩:=vC (env:=X.env) (names:=sc.names) hx;rcases e2 with e2|⟨e2,_⟩
     ·exact⟨k',e1,.inl e2.symm⟩
     ·exact⟨k',e1,.inr e2⟩
    ·obtain⟨k',e1,e2⟩:=vC (env:=X.env) (names:=sc.names) hx;rcases e2 with e2|⟨e2,_⟩
     ·exact⟨k',e1,.inr e2.symm⟩
     ·exact⟨k',e1,.inr e2⟩
   obtain⟨k',e1,e2⟩:=hx';have hm:=lookup_mem e1;rcases e2 with e2|e2
   ·exact absurd e2 (S.ux _ hm)
   ·subst e2;exact hall x hm
  ·rcases(f2 b hb).2.2.2.1 with z|z
   ·exact I2.ok.uw b o e z
   ·exact absurd (g7 (bR e) (dw I2.ok.bsz z)) (jv _)
 have JR:∀p∈X.pn++af,p.1<D:=λp hp=>(ltC p.1 (bR (I2.pin p hp).1)).2.2;have RR:∀x c,cl.lookup x=ab c->c<D:=λx c e=>by
  obtain⟨v,q⟩:=I2.cell x c (hsub _ _ e);exact(ltC c q.lt).2.2
 have I':∀tk,Inv (fO X N' sc cl C s2 H2 fp) (af++[(D,{ cls:=.type "list", data:=.seq ([]:List ag).toArray })]) (pick ρ σ) H2 { s2 with heap:=h₁,toks:=tk }:=λtk=>by
  refine⟨ok',rfl,I2.bare,Un.kept old,⟨_,hns,λi x v e1 e2 e3=>?_⟩,λx c e=>?_,fC.1,λx c e=>I2.jx x c (hsub _ _ e),λp hp=>?_,I2.hok.kept old,?_⟩
  ·have e2':∃j,ρ[i]? = ab (ab j)/\σ[j]? = ab (ab v):=by
    unfold pick at e2;rw[c7]at e2;cases hr:ρ[i]? with
    |none=>rw[hr]at e2;cases e2
    |some o=>
     rw[hr]at e2;cases o with
     |none=>cases e2
     |some j=>
      refine⟨j,rfl,?_⟩;have e2:(σ[j]?).join=ab v:=gi e2;cases hq:σ[j]? with
      |none=>rw[hq]at e2;cases e2
      | some o' => rw [hq] at e2; have e2 : o' = ab v := e2
                   rw[e2]
   obtain⟨j,hj,hv⟩:=e2';obtain⟨y,ey,eN,ef⟩:=S.ix i j hj;have e1':N'[i]? = ab x:=e1;rw[ey]at e1';cases e1';obtain⟨m,hn,hl⟩:=I2.loc;have hm:=lookup_mem ef;have kX:=S.free _ hm rfl;obtain⟨u,ru,lk⟩:=hl j x v eN hv (by rcases kX with k|k;exact .inr (.inl k);exact .inr (.inr k));refine⟨u,ru,.inr ⟨?_,?_⟩⟩
   ·show(relabel sc X.env).names.lookup x=ab .cell\/(relabel sc X.env).names.lookup x=ab .free;rcases e3 with e3|e3|e3
    ·obtain⟨k',q1,q2⟩:=vC (env:=X.env) (names:=sc.names) e3;rw[ef]at q1;cases q1;rcases q2 with q2|⟨_,q2⟩<;>cases q2
    ·exact .inl e3
    ·exact .inr e3
   ·obtain⟨c,hc'⟩:=hall x hm;refine⟨c,hc',?_⟩;rcases lk with ⟨k,_⟩|⟨_,c',ec,z⟩
    ·rcases kX with k'|k'<;>(rw[k]at k';cases k')
    ·rw[hsub _ _ hc']at ec;cases ec;obtain⟨o,ho,hd⟩:=z;exact⟨o,old _ _ ho,hd⟩
  ·obtain⟨v,o,ho,hd⟩:=I2.cell x c (hsub _ _ e);exact⟨v,o,old _ _ ho,hd⟩
  ·have hp':p∈X.pn++af\/p=(D,{ cls:=.type "list", data:=.seq ([]:List ag).toArray }):=by
    rcases fk.mp hp with z|z
    ·exact .inl (ku _ z)
    ·rcases fk.mp z with z|z
     ·exact .inl (ga _ z)
     ·exact .inr (by simpa using z)
   rcases hp' with z|z
   ·obtain⟨q1,q2,q3,q4,q5⟩:=I2.pin p z;exact⟨old _ _ q1,q2,(ltD p.1 (JR p z)).1,nst _ q3 q4,q5⟩
   ·subst z;exact⟨newD,fD.1,hDC,nst _ fD.2.1 fD.2.2.1,λv z=>by cases z⟩
  ·show(pick ρ σ).length=N'.length;unfold pick;rw[aQ];exact S.len
 have stat:∀{H':Hp} {o:Obj},(∀b∈fp,H' b=ae)->∀b∈fp,fJ (fO X N' sc cl C s2 H2 fp) (af++[(D,o)]) H' b:=λ{H' o} hn b hb=>by
  refine⟨hn b hb,(ltD b (ltb b hb)).1,nst b (f2 b hb).2.1 (f2 b hb).2.2.1,.inl hb,λx c e=>(f2 b hb).2.2.2.2.1 x c (hsub _ _ e),λp hp=>?_⟩;rcases fk.mp hp with z|z
  ·exact(f2 b hb).2.2.2.2.2 p (ku _ z)
  ·rcases fk.mp z with z|z
   ·exact(f2 b hb).2.2.2.2.2 p (ga _ z)
   ·have e:p=(D,o):=by simpa using z
    subst e;exact cR (ltD b (ltb b hb)).2
 have loop:∀tk,codeAny (model X.prog X.w) X.A (.compLoop (.ListComp elt [⟨tg,iter,ifs,0⟩] sc pos) 0 (.ref it) (.ref D) (compEnvC sc cl C X.env)) (compPost (model X.prog X.w) X.A X.xe use R (.ref D) C) { s2 with heap:=h₁,toks:=tk }:=λtk=>by
  refine M1 (λn s'=>∃(i:Nat) (acc:List V) (aj:List ag) (k:Nat) (H':Hp),Inv (fO X N' sc cl C s2 H2 fp) (af++[(D,{ cls:=.type "list", data:=.seq aj.toArray k })]) (pick ρ σ) H' s'/\Vals acc aj/\acc.length<=sizeLine/\tn i s'.heap/\(∀b∈fp,H' b=ae)/\W i n acc H')
   ?_ m0 ⟨0,[],[],0,H2,I' tk,.nil,eZ _,T.keep _ _ _ st2 λb hb o e=>old b o e,λb hb=>(f2 b hb).1,w0⟩
  rintro n s3 ⟨i,acc,aj,k,H3,I3,va,hz0,st3,fr3,w3⟩;rcases turn i n acc H3 w3 with ⟨stop,qn⟩|⟨go,hz,Nn,hN,step⟩
  ·refine aS (T.done (fO X N' sc cl C s2 H2 fp) rfl rfl rfl hcalm i _ s3 _ H3 (λ_ _=>False) I3 (stat fr3) st3 stop) λr s4 ⟨hr,I4⟩=>?_;subst hr;obtain⟨p1,p2,p3,p4,p5⟩:=I4.pin (D,{ cls:=.type "list",data:=.seq aj.toArray k }) (by simp);have p1:s4.heap.get? D=ab { cls:=.type "list", data:=.seq aj.toArray k }:=p1;have p2:H3 D=ae:=p2;have B:=I4.base;have upn:∀b o,H3 b=ab o->upd H3 D (.lst acc) b=ab o:=λb o e=>by rw[aC (cJ e p2)];exact e
   have IX:Inv X af σ (upd H3 D (.lst acc)) s4:=by
    refine I2.call' (ch:=fp) I4.os ⟨λb o q1 q2 q3 q4=>B.keep b o q1 q2 q3 q4,λb o q1 q2 q3 q4=>B.slot b o q1 q2 q3 q4,λb o q1 q2 q3=>?_,λb o q1 q2=>B.there b o q1 q2,
     λb xs q=>upn _ _ (B.tups b xs q),λb o u q=>upn _ _ (B.lz b o u q),λb w ps q=>?_⟩ (I4.hok.track p2 ⟨hz0,aj,k,va,p1⟩) I4.bare λb hb=>⟨(f2 b hb).2.2.2.1,(f2 b hb).2.1,(f2 b hb).2.2.2.2.1,(f2 b hb).2.2.2.2.2⟩
    ·rw[aC (ltC b (bR q1)).2.1];exact B.free b o q1 q2 q3
    ·obtain⟨more,q'⟩:=B.lA b w ps q;exact⟨more,upn _ _ q'⟩
   obtain⟨m,hm,_⟩:=I4.loc;refine hR s4 D C _ IX (qn D p2) ⟨m,hm⟩ (I2.io (by omega) ?_);rw[aC (cR hDC)];exact I4.free
  ·refine aS (T.item (fO X N' sc cl C s2 H2 fp) rfl rfl rfl hcalm i _ s3 _ H3 (λ_ _=>False) I3 (stat fr3) st3 go) λr s4 ⟨u,hr,h4⟩=>?_;subst hr;refine aS h4 λ_ s5 ⟨x,H5,I5,r5,y5,st5,fr5⟩=>?_;have I5':=I5.pinned (stat fr5) (T.obj _ _ st5);refine aS (hg cl C s2 H2 fp _ s5 _ H5 x u _ I5' r5 (gk _ _ _ _ (step x H5 y5))) λ_ s6 ⟨σ6,H6,I6,⟨l6,k6⟩,q6⟩=>?_;refine aS (hc cl C s2 H2 fp _ s6 σ6 H6 _ I6 q6) λok s7 ⟨H7,I7,q7⟩=>?_;have wk:∀{rK:List (ah×Obj)} {H':Hp} {s':ao},Inv (fO X N' sc cl C s2 H2 fp) rK σ6 H' s'->Inv (fO X N' sc cl C s2 H2 fp) rK (pick ρ σ) H' s':=λ{rK H' s'} J'=>
    J'.weak l6.symm λj v e=>by
     have:∃j',ρ[j]? = ab (ab j'):=by
      unfold pick at e;rw[c7]at e;cases hr:ρ[j]? with
      |none=>rw[hr]at e;cases e
      |some o=>
       rw[hr]at e;cases o with
       |none=>cases e
       |some j'=>exact⟨j',rfl⟩
     obtain⟨j',hj'⟩:=this;rw[k6 j j' hj'];exact e
   cases ok with
   |false=>
    have q7:Nn acc H7:=by simpa using q7
    rw[ay cy];obtain⟨m',hm,w7⟩:=hN acc H7 q7;refine⟨m',hm,i+1,acc,aj,k,H7,wk I7.qd,va,hz0,T.keep _ _ _ st5 λb hb o e=>(I7.pin (b,o) (ga _ (ga _ (qT hb e)))).1,λb hb=>?_,w7⟩;obtain⟨o,e,d⟩:=T.obj _ _ st5 b hb;exact(I7.pin (b,o) (ga _ (ga _ (qT hb e)))).2.1
   |true=>
    have q7:te σ6 H7 λy H4=>Nn (acc++[y]) H4:=by simpa using q7
    rw[aH rfl];refine aS (he cl C s2 H2 fp _ s7 σ6 H7 _ I7 q7) λxv s8 ⟨y,H8,I8,r8,n8⟩=>?_;obtain⟨p1,p2,p3,p4,p5⟩:=I8.pin (D,{ cls:=.type "list",data:=.seq aj.toArray k }) (by simp);have p1:s8.heap.get? D=ab { cls:=.type "list",data:=.seq aj.toArray k }:=p1;have p2:H8 D=ae:=p2;refine wpAny_list_append_plain ⟨k,p1⟩ (λh' pl sb=>?_) (by rw[bK,<- va.length];omega);obtain⟨k',pl⟩:=pl;obtain⟨m',hm,w8⟩:=hN _ _ n8;have Ia:Inv (fO X N' sc cl C s2 H2 fp) af σ6 H8 s8:=I8.qd.qd;have Ib:Inv (fO X N' sc cl C s2 H2 fp) af σ6 H8 { s8 with heap:=h' }:=Ia.turned (t':=s8.toks) (it:=D) (λb o hb e=>(sb.2 b hb).trans e) p2 hDC (.inr (by show s2.heap.objs.size<=D;omega)) (λx c e=>(ltD c (RR x c e)).2) λp hp=>(ltD p.1 (JR p hp)).2;have pl':h'.get? D=ab { cls:=.type "list", data:=.seq (aj++[xv]).toArray k' }:=by rw[pl];simp
    have Ic:Inv (fO X N' sc cl C s2 H2 fp) (af++[(D,{ cls:=.type "list", data:=.seq (aj++[xv]).toArray k' })]) σ6 H8 { s8 with heap:=h' }:=Ib.zA λp hp=>by
     rcases fk.mp hp with z|z
     ·exact Ib.pin p (ga _ z)
     ·have e:p=(D,{ cls:=.type "list", data:=.seq (aj++[xv]).toArray k' }):=by simpa using z
      subst e;exact⟨pl',p2,p3,p4,λv z=>by cases z⟩
    refine⟨m',hm,i+1,acc++[y],aj++[xv],k',H8,wk Ic,va.append (.cons r8 .nil),(by rw[dI,wR];omega),T.keep _ _ _ st5 λb hb o e=>?_,λb hb=>?_,w8⟩
    ·exact(sb.2 b (ltD b (ltb b hb)).2).trans (I8.pin (b,o) (ga _ (ga _ (qT hb e)))).1
    ·obtain⟨o,e,d⟩:=T.obj _ _ st5 b hb;exact(I8.pin (b,o) (ga _ (ga _ (qT hb e)))).2.1
 refine codeAny_compStart_list (loop _) (T.self X.A 0 _ _ _ (T.keep _ _ _ st2 λb hb o e=>old b o e) (loop _))
theorem ib(hcalm:X.calm=true)(S:eK X N' ρ sc)(hi:PI X tg iter wi)
 (hg:∀cl C s H fp,PG (fO X N' sc cl C s H fp) tg g) (gk:tS ρ g) (hc:∀cl C s H fp,rV (fO X N' sc cl C s H fp) ifs tc) (he:∀cl C s H fp,PE (fO X N' sc cl C s H fp) elt te)
 (hs:∀x,foldedSetIterable iter X.env x=pure x:=by intro _;rfl) :
 PE X (.ListComp elt [⟨tg,iter,ifs,0⟩] sc pos) (vX wi ρ g tc te):=by
 intro af s σ H Q I h;rw[eval_ListComp];refine DB hcalm S hi hg gk hc he hs ae I h λs' D C H' I' q ⟨m,hm⟩ f=>⟨m,hm,λh' sb=>?_⟩;exact⟨.ref D,H',I'.turned (t':=s'.toks) (it:=C) (λb o hb e=>(sb.2 b hb).trans e) f.1 f.2.1 f.2.2.2.1 f.2.2.2.2.1 f.2.2.2.2.2,rfl,q⟩
theorem v8{i:Nat}{x:Str}{px:Pos}(hcalm:X.calm=true)(hN:X.N.Nodup)(hix:X.N[i]? = ab x)(hx:Loc X.env.scope x)(S:eK X N' ρ sc)(hi:PI X tg iter wi)
 (hg:∀cl C s H fp,PG (fO X N' sc cl C s H fp) tg g) (gk:tS ρ g) (hc:∀cl C s H fp,rV (fO X N' sc cl C s H fp) ifs tc) (he:∀cl C s H fp,PE (fO X N' sc cl C s H fp) elt te)
 (hsw:swapsWith (.ListComp elt [⟨tg,iter,ifs,0⟩] sc pos) (ab (.Name x px)) cpos.line X.env=pure true:=by rfl)
 (hs:∀x,foldedSetIterable iter X.env x=pure x:=by intro _;rfl)
 (hf:X.fn x=true\/X.env.scope.names.lookup x=ab .local:=by first|exact .inl rfl|exact .inr rfl|assumption) :
 PS X (.Assign [.Name x px] (.ListComp elt [⟨tg,iter,ifs,0⟩] sc pos) cpos) (kj (vX wi ρ g tc te) (fL i)):=by
 intro af s σ H D I h;rw[exec_Assign_Name_used _ _ _ _ hsw];refine ak (AV (ak ?_));show wpAny _ X.A (do let _ <- comprehension (.ListComp elt [⟨tg,iter,ifs,0⟩] sc pos) sc X.env _ (newList []) false (eval iter X.env) (ab (assign (.Name x px) X.env))) _ _ s;refine ak (aS (DB (Q:=λy H1=>D.nx (σ.set i (ab y)) H1) (R:=λ_ s'=>SP X af D .next s') hcalm S hi hg gk hc he hs (ab (assign (.Name x px) X.env)) I h λs' Da C H' I' q ⟨m,hm⟩ f=>?_) λ_ s' hq=>ax (ax hq));show wpAny _ X.A (assign (.Name x px) X.env (.ref Da)) _ _ _;refine wpAny_assign_Name (DX I' hN hix hx (v:=.ref Da) rfl (λs2 I2 ⟨a,sb,ha⟩=>⟨m,hm.sameBut sb ?_,λh' sb2=>?_⟩) hf)
 ·rcases ha with e|e
  ·subst e;exact f.2.1
  ·exactλz=>f.2.2.2.2.1 x a e z.symm
 ·exact⟨_,H',I2.turned (t':=s2.toks) (it:=C) (λb o hb e=>(sb2.2 b hb).trans e) f.1 f.2.1 f.2.2.2.1 f.2.2.2.2.1 f.2.2.2.2.2,q⟩
end
structure It.Of(J:It)(Ok:Hp->Prop)(xs:List V):Prop where
 go:∀i H,Ok H->i<xs.length->J.go i H
 yld:∀i H x H',Ok H->i<xs.length->J.yld i H x H'->H'=H/\xs[i]? = ab x
 stop:∀H,Ok H->J.stop xs.length H
theorem DC{K:aE}{a:ah}{xs:List V}:(rX K a).Of (λH=>eS K H a xs) xs:=⟨λi H h hi=>⟨xs,xs[i],h,by simp[hi]⟩,λi H x H' h _ y=>⟨y.1,y.2 xs h⟩,λH h=>⟨xs,h,ba _⟩⟩
theorem G8{K:aE}{a:ah}{xs:List V}:(tY K a).Of (λH=>fw K H a xs) xs:=⟨λi H h hi=>⟨xs,xs[i],h,by simp[hi]⟩,λi H x H' h _ y=>⟨y.1,y.2 xs h⟩,λH h=>⟨xs,h,ba _⟩⟩
def oy(lo:Int)(n:Nat):List V:=(bw n).map λi=>V.int (lo+(i:Nat))
theorem Ao(lo:Int)(n:Nat):(oy lo n).length=n:=by simp[oy]
theorem L8{lo:Int}{n i:Nat}(h:i<n):(oy lo n)[i]? = ab (.int (lo+i)):=by simp[oy,h]
theorem O4{lo:Int}{n:Nat}:(qD lo n).Of (λ_=>True) (oy lo n):=⟨λi H _ hi=>by rw[Ao]at hi;exact hi,λi H x H' _ hi y=>⟨y.1,by rw[Ao]at hi;rw[y.2];exact L8 hi⟩,λH _=>by rw[Ao];exact ba _⟩
def sgn(c:Nat):V:=.str ⟨#[c]⟩
def oO(x:Str):List V:=x.cps.toList.map sgn
theorem C1(x:Str):(oO x).length=x.length:=by simp[oO,pP]
def oj(x:Str):It:=⟨λi _=>i<x.length,λi H y H'=>H'=H/\(oO x)[i]? = ab y,λi _=>i=x.length⟩
theorem Fk{x:Str}:(oj x).Of (λ_=>True) (oO x):=⟨λi H _ hi=>by rw[C1]at hi;exact hi,λi H y H' _ _ h=>h,λH _=>C1 x⟩
theorem Ht{P:bg}{w:aY}{K:aE}{tg:aR}(it:ah)(x:Str)(t:Tok)(ty:String)
 (hty:["enumerate","zip","dict_itemiterator","dict_reverseitemiterator","odict_iterator","itertools.zip_longest","itertools.pairwise"].contains ty=false)
 (W:∀A':bv,A'.handled=ae->Walks P w A' it [it] [it] x.cps.size (SignAt x) (λi h=>h.IsStrIter it ty x t i))
 (sf:∀(A:bv) (i:Nat) (s:ao) (Q:ag->ao->Prop) (E:ag->ao->Prop),s.heap.IsStrIter it ty x t i->Q (.ref it) s->wpAny (model P w) A (pyIter (.ref it)) Q E s) :
 Turn P w K tg (oj x) [it] it (λi h=>h.IsStrIter it ty x t i) where
 mem:=by simp
 obj:=λi h st b hb=>by
  have e:b=it:=by simpa using hb
  subst e;obtain⟨o,e,c,d⟩:=st;exact⟨o,e,λv z=>by rw[d]at z;cases z⟩
 keep:=λi h h' st k=>let ⟨o,ho,r⟩:=st;⟨o,k it (by simp) o ho,r⟩
 item:=by intro X hP hw hK hc i af s σ H E I hf st hg;subst hP hw hK;obtain⟨f0,f1,f2,f3,f4,f5⟩:=hf it (by simp);refine(W X.A (I.ok.hd hc)).item i s _ _ hg st λv h' tk hv st' kk=>?_;obtain⟨c,u,e,rfl⟩:=hv;have I1:Inv X af σ H { s with heap:=h',toks:=tk }:=I.turned (λb o hb e=>kk b o (by simpa using hb) e) f0 f1 f3 f4 f5;obtain⟨o,e',c',d'⟩:=id st';refine⟨_,rfl,tZ (s:={ s with heap:=h',toks:=tk }) e' c' d' hty ⟨sgn c,H,I1,⟨u,rfl⟩,⟨rfl,?_⟩,st',λb hb=>(hf b hb).1⟩⟩;unfold oO;rw[c7,rG,e];rfl
 done:=by intro X hP hw hK hc i af s σ H E I hf st hg;subst hP hw hK;obtain⟨f0,f1,f2,f3,f4,f5⟩:=hf it (by simp);have hg:i=x.length:=hg;subst hg;exact(W X.A (I.ok.hd hc)).done s _ _ st λh' tk kk=>⟨rfl,I.turned (λb o hb e=>kk b o (by simpa using hb) e) f0 f1 f3 f4 f5⟩
 self:=sf
section
variable{X:Cx}{tg:aR}
def C9(tl:TE):TI:=λσ H R=>tl σ H λx H1=>∃z,x=.str z/\R (oj z) H1
theorem Ra{l:aR}{tl:TE}(hl:PE X l tl):PI X tg l (C9 tl):=by
 intro af s σ H R I h;refine aS (hl af s σ H _ I h) λv s1 ⟨x,H1,I1,r1,q1⟩=>?_;obtain⟨z,e,q⟩:=q1;subst e;obtain⟨t,rfl⟩:=r1;cases ha:z.cps.all (· < 128)
 ·refine wpAny_pyIter_wide ha ?_;refine⟨s1.heap.objs.size,[s1.heap.objs.size],_,oj z,H1,rfl,I1.kept (t':=s1.toks) λb o e=>bD _ e,Ht _ z t "str_iterator" (by decide) (λA' hA=>Walks.strWide hA _ z t) (λ_ _ _ _ _ st hQ=>wpAny_pyIter_striter_wide st hQ),⟨_,bS _ rfl,rfl,rfl⟩,λb hb=>?_,q⟩;have e:b=s1.heap.objs.size:=by simpa using hb
  subst e;exact I1.io (ba _) (I1.hok.fresh (ba _))
 ·refine wpAny_pyIter_ascii ha ?_;refine⟨s1.heap.objs.size,[s1.heap.objs.size],_,oj z,H1,rfl,I1.kept (t':=s1.toks) λb o e=>bD _ e,Ht _ z t "str_ascii_iterator" (by decide) (λA' hA=>Walks.strAscii hA _ z t) (λ_ _ _ _ _ st hQ=>wpAny_pyIter_striter_ascii st hQ),⟨_,bS _ rfl,rfl,rfl⟩,λb hb=>?_,q⟩;have e:b=s1.heap.objs.size:=by simpa using hb
  subst e;exact I1.io (ba _) (I1.hok.fresh (ba _))
theorem EA:∀{bs:List Bool} {us:List ag},Vals (bs.map V.bl) us->us=bs.map jw
 |[],_,.nil=>rfl
 |b::r,_,.cons q t=>by rw[EA t,show _=jw b from q];rfl
theorem range_any(bs:List Bool):(bw bs.length).any (λi=>bs.getD i false)=bs.any id:=by
 induction bs with
 |nil=>rfl
 |cons b r ih=>
  rw[dW,A3,iH,ue,iH]
  congr 1
def EM(K:aE)(f:List Bool->Bool):List V->Hp->VK->Prop:=λxs H Q=>∃a bs,xs=[.ref a]/\eS K H a (bs.map V.bl)/\Q (.bl (f bs)) H
theorem Mk{P:bg}{w:aY}{A:bv}(bs:List Bool):TruthOf P w A (λi v=>(bs.map jw).toArray[i]? = ab v) (λi=>bs.getD i false):=by
 intro i v s Q E hv hq;have:v=.bool (bs.getD i false):=by
  rw[List.getElem?_toArray,c7]at hv;cases hb:bs[i]? with
  |none=>rw[hb]at hv;cases hv
  |some b=>
   rw[hb]at hv;rw[fh,hb];exact(gi hv).symm
 subst this;exact nC hq
theorem Rg(hc:X.calm=true):fZ X (.builtin "any") (EM X.K (·.any id)):=by
 intro af s σ H xs us Q I r h;obtain⟨a,bs,rfl,hq,q⟩:=h;obtain⟨u,rfl,ru⟩:=vals1 r;cases ru;obtain⟨aj,rv,p,hz⟩:=I.list hq;have e:=EA rv;subst e;have hlt:a<s.heap.objs.size:=by obtain⟨o,n,e,_⟩:=p;exact bR e
 refine call_any_walk (AM p.isList ⟨_,_,_,_,_,_,λi=>bs.getD i false,rfl,Walks.list (A:=X.A.in1) (I.ok.hd hc) _ a (gh hlt) (bs.map jw).toArray,⟨⟨_,bS _ rfl,rfl,rfl⟩,(p.keeps λb o e=>bD _ e).isList⟩,Mk bs,λh' tk kk=>?_⟩);refine⟨.bl (bs.any id),H,I.kept λb o e=>kk b o (by simpa using gh (bR e)) (bD _ e),?_,q⟩;show jw _=jw _;rw[<- range_any];simp
theorem Oa:cQ X (compareOp .Gt) (λx y H Q=>∃i j,x=.str i/\y=.str j/\Q (.bl (decide (j.cps.toList<i.cps.toList))) H):=by intro af s σ H x y v u Q I rx ry h;obtain⟨i,j,rfl,rfl,q⟩:=h;obtain⟨t,rfl⟩:=rx;obtain⟨t',rfl⟩:=ry;exact PySem.P.gt_str (yU I q rfl)
def qO(x:Str)(lo hi:Option Int):Str:=⟨((x.cps.toList.drop (HT.c8 x.length 0 lo)).take (HT.c8 x.length x.length hi-HT.c8 x.length 0 lo)).toArray⟩
theorem PN(lo hi:Option Int)(n:Nat):JK lo hi 1 n=(bw (HT.c8 n n hi-HT.c8 n 0 lo)).map (λk=>HT.c8 n 0 lo+k):=by
 have h1:∀(v:Option Int) (d:Nat),d<=n->(match v with|none=>(d:Int)|some i=>max 0 (min (if i<0 then i+(n:Int)else i) (n:Int)))=((HT.c8 n d v:Nat):Int):=by
  intro v d hd;cases v with
  |none=>rfl
  |some i=>
   show max 0 (min (if i<0 then i+(n:Int)else i) (n:Int))=(((if i<0 then(i+(n:Int)).toNat else min i.toNat n):Nat):Int);by_cases hv:i<0
   ·simp only[aH hv];omega
   ·simp only[ay hv];omega
 have fin:∀(p q:Int) (a b:Nat),p=(a:Int)->q=(b:Int)->sliceRange p q 1=(bw (b-a)).map (λk=>a+k):=by
  intro p q a b e1 e2;subst e1 e2;unfold sliceRange;simp only[show((1:Int)>0)=True from by simp,gU];by_cases hlt:(a:Int)<b
  ·have e3:(((b:Int)-a+1-1)/1).toNat=b-a:=by first|omega|(simp;done)|(simp;omega)
   simp only[hlt,gU,e3];refine nO λk _=>?_;omega
  ·have:b-a=0:=by omega
   simp[hlt,this]
 unfold JK;refine fin _ _ _ _ ?_ ?_
 ·have:=h1 lo 0 (eZ _);cases lo with
  |none=>exact this
  |some i=>exact this
 ·have:=h1 hi n (ba _);cases hi with
  |none=>exact this
  |some i=>exact this
theorem QF(x:Str)(lo hi:Option Int):Txt.slice x lo hi=qO x lo hi:=by
 have hle:HT.c8 x.length x.length hi<=x.length:=HT.Ee _ _ (ba _) hi;have ha:HT.c8 x.length 0 lo<=x.length:=HT.Ee _ _ (eZ _) lo;unfold Txt.slice qO;rw[PN];generalize HT.c8 x.length 0 lo=a at *;generalize HT.c8 x.length x.length hi=b at *;have hp:((bw (b-a)).map (λk=>a+k)).filterMap (λi=>x.cps[i]?)=(x.cps.toList.drop a).take (b-a):=by have h:=StrLaws.picks x.cps.toList (b-a) a (by simp[pP]at hle ha ⊢;omega);simpa using h
 split
 ·rename_i h;simp only[aQ,t6,i3,Bool.true_and,kQ]at h;have e:a=0\/x.length=0:=by omega
  have e2:(x.cps.toList.drop a).take (b-a)=x.cps.toList:=by
   rw[h];rcases e with e|e
   ·subst e;rw[uc];exact pL (by simp[pP])
   ·have:x.cps.toList=[]:=AZ (by simpa [pP]using e);rw[this];simp
  rw[e2]
 ·rw[hp]
def F3:V->Option Int->Option Int->Hp->VK->Prop:=λx lo hi H Q=>∃z,x=.str z/\z.length<=sizeLine/\Q (.str (qO z lo hi)) H
theorem NN:kl X F3:=by
 intro af s σ H x v vl vu lo hi sl Q I rx hs pl pu h;obtain⟨z,rfl,hz,q⟩:=h;obtain⟨t,rfl⟩:=rx;have fin:∀(l u:Option (Int×Tok)),vl=partValue l->vu=partValue u->lo=l.map (·.1)->hi=u.map (·.1) ->
  wpAny (model X.prog X.w) X.A (getItem (.str z t) (.ref sl)) (EP X af σ Q) X.xe s:=by
  intro l u e1 e2 e3 e4;subst e1 e2 e3 e4;refine wpAny_getItem_str_slice (l:=l) (u:=u) (st:=ae) hs rfl ?_;refine post_val_or_str ⟨dw (Txt.slice_le z _ _) hz,λt' k=>?_⟩;refine⟨.str (qO z _ _),H,I.tok k,⟨t',?_⟩,q⟩;show mx (Txt.slice z _ _) t'=_;rw[QF]
 refine⟨"str", _,F.slot_str_getitem.lookup,typeIs_str _ _ _,?_⟩;cases pl with
 | none=>cases pu with
  |none=>exact fin ae ae rfl rfl rfl rfl
  |int j tj=>exact fin ae (ab (j,tj)) rfl rfl rfl rfl
 | int i ti=>cases pu with
  |none=>exact fin (ab (i,ti)) ae rfl rfl rfl rfl
  |int j tj=>exact fin (ab (i,ti)) (ab (j,tj)) rfl rfl rfl rfl
def HX(neg:Bool):R2:=λx y H Q=>∃c z,x=sgn c/\y=.str z/\Q (.bl (if neg then !decide (c∈z.cps.toList)else decide (c∈z.cps.toList))) H
theorem Po:cQ X (compareOp .In) (HX false):=by intro af s σ H x y v u Q I rx ry h;obtain⟨c,z,rfl,rfl,q⟩:=h;refine Nd af s σ H _ _ v u Q I rx ry ⟨_,z,rfl,rfl,?_⟩;rw[StrLaws.found_one];exact q
def FP(K:aE):List V->Hp->VK->Prop:=λxs H Q=>∃x t T b,xs=[x,.ty T]/\gV K H x t/\Bm K t (.type T)=ab b/\Q (.bl b) H
theorem jD:fZ X (.builtin "isinstance") (FP X.K):=by intro af s σ H xs us Q I r h;obtain⟨x,t,T,b,rfl,ty,e,q⟩:=h;obtain⟨u,w',rfl,rx,rt⟩:=vals2 r;cases(show w'=um T from rt);exact Nj I rx ty e λtk=>⟨.bl b,H,I.tok tk,rfl,q⟩
end
def Hw(osc:eY)(N N':List Str)(ρ:List (Option Nat))(sc:eY):Bool:=
 sc.names.all (λy=>!(decide (y.2=.cell)))&&sc.names.all (λy=>!(decide (y.2=.local))||decide (sc.names.lookup y.1=ab .local)) &&
 sc.names.all (λy=>!(decide (y.2=.free))||(decide (osc.names.lookup y.1=ab .cell)||decide (osc.names.lookup y.1=ab .free))) &&
 decide (ρ.length=N'.length)&&(bw ρ.length).all λi=>match ρ[i]? with
  |some (ab j)=>(match N'[i]? with|some x=>decide (N[j]? = ab x)&&decide (sc.names.lookup x=ab .free)|none=>false)
  |_=>true
theorem eK.of{X:Cx}{N':List Str}{ρ:List (Option Nat)}{sc:eY}(hk:sc.kind=.function)(h:Hw X.env.scope X.N N' ρ sc=true):eK X N' ρ sc:=by
 unfold Hw at h;simp only[g6,ua,Bp,uh,fV,qQ]at h;obtain⟨⟨⟨⟨h1,h2⟩,h3⟩,h4⟩,h5⟩:=h;refine⟨hk,λy hy=>h1 y hy,λy hy e=>(h2 y hy).resolve_left (λz=>z e),λy hy e=>(h3 y hy).resolve_left (λz=>z e),h4,λi j e=>?_⟩;have hi:i < ρ.length:=(cu.mp e).1;have q:=h5 i (en.mpr hi);rw[e]at q;cases hN:N'[i]? with
 |none=>rw[hN]at q;cases q
 |some x=>
  rw[hN]at q;simp only[g6,fV]at q;exact⟨x,rfl,q.1,q.2⟩
structure b0(P:bg)(w:aY)(K:aE)(mg:Str->Option ag)(base:aI)(CX:gF)(k:Nat)(x:Str)(ps:List Str)(sp:Sp):Prop where
 ex:∃(f:ah) (fd:bM),mg x=ab (.ref f)/\nS K (.ref f)=true/\Binds K fd ps []/\bF P w K mg base CX k f fd ps sp
theorem vV{X:Cx}{CX:gF}{k:Nat}{x:Str}{ps:List Str}{sp:Sp}{E:XK}{e:aR}{es:List aR}{t:TA}{p pos:Pos}(C:b0 X.prog X.w X.K X.mg X.base CX k x ps sp)(hr:dL k X.A)(hg:Gl X x)(hx:uG CX X E)
 (ha:PA X (e::es) t) (hdb:(x==("__debug__" : Str))=false:=by decide) (he:starEach (e::es) X.env=(false,eval e X.env)::starEach es X.env:=by rfl) (hpl:(backTo pos (starEach es X.env)).any (·.1)=false:=by rfl) :
 PE X (.Call (.Name x p) (e::es) [] pos) (mL sp [] E t):=by
 obtain⟨f,fd,hm,hk,hb,F⟩:=C.ex;exact Ma F hr hg hm hk hb .nil hx ha hdb he hpl
theorem gZ{X:Cx}{x:Str}{T:String}{pos:Pos}(hg:Gl X x)(hm:X.mg x=ae)(hv:bootBuiltins x=ab (.type T))(hn:x ≠ "__name__" := by decide)(hd:(x==("__debug__" : Str))=false:=by decide):PE X (.Name x pos) (tC (.ty T)):=MC hg hm hv rfl hn hd
structure dh(K:aE)(mg:Str->Option ag)(x:Str)(st:bC)(ps:List Str):Prop where
 ex:∃(f:ah) (fd:bM),mg x=ab (.ref f)/\nS K (.ref f)=true/\Binds K fd ps []/\(∀(s:ao) (us:List ag),us.length=ps.length->nL s fd ⟨us,[]⟩ (ps.zip us))/\cI K x x st f fd
theorem tP{K:aE}{h:aI}{mg:Str->Option ag}{x:Str}{st:bC}{ps:List Str}{f:ah}{oc:ag}{od an:Option ah}{osl:Array (Option ag)}{kV doc pm cdv ct:ag}(X:K.In h)(G:h.Ns mainGlobals mg)
 (hb:∀(kV doc pm:ag) (an:Option ah) (cdv ct:ag) (us:List ag),us.length=ps.length->bindArgs (kD x x (lO st) (jj st) (bH st) .none kV doc pm an cdv ct) ⟨us,[]⟩=pure (ps.zip us))
 (a:gf K mainGlobals x=ab (ab (.ref f))) (l:K.lookup f=ab ⟨oc,od,.func (kD x x (lO st) (jj st) (bH st) .none kV doc pm an cdv ct),osl⟩)
 (c:rD K cdv x=true) (k:nS K (.ref f)=true):dh K mg x st ps:=by
 have F:=E2 (st:=st) l c k;exact⟨f,_,PySem.W.mg_of X G a,k,F.binds hb,λs us hl=>.of_eq (hb kV doc pm an cdv ct us hl),F⟩
theorem dh.cal{P:bg}{w:aY}{K:aE}{mg:Str->Option ag}{base:aI}{CX:gF}{k:Nat}{x:Str}{st:bC}{ps:List Str}{sp:Sp}(F:dh K mg x st ps)(h:∀f fd,cI K x x st f fd->bF P w K mg base CX k f fd ps sp) :
 b0 P w K mg base CX k x ps sp:=by
 obtain⟨f,fd,h1,h2,h3,_,h4⟩:=F.ex;exact⟨f,fd,h1,h2,h3,h f fd h4⟩
end L2
namespace Mi
open PySem
inductive D where
 |non|bl (b:Bool)|int (i:Int)|str (x:Str)|lst (ds:List D)|tup (ds:List D)
mutual
def D.dep:D->Nat
 |.lst ds=>dN ds+1
 |.tup ds=>dN ds+1
 |_=>0
def dN:List D->Nat
 |[]=>0
 |d::r=>max d.dep (dN r)
end
mutual
/-- Python's == -/
def bn:D->D->Bool
 |.non,.non=>true
 |.bl a,.bl b=>a==b
 |.bl a,.int b=>(if a then 1 else 0)==b
 |.int a,.bl b=>a==(if b then 1 else 0)
 |.int a,.int b=>a==b
 |.str a,.str b=>a==b
 |.lst a,.lst b=>iA a b
 |.tup a,.tup b=>iA a b
 |_,_=>false
def iA:List D->List D->Bool
 |[],[]=>true
 |a::r,b::s=>bn a b&&iA r s
 |_,_=>false
end
mutual
/-- no list in it -/
def lD:D->Bool
 |.lst _=>false
 |.tup ds=>j4 ds
 |_=>true
def j4:List D->Bool
 |[]=>true
 |d::r=>lD d&&j4 r
end
def gB(n:Nat)(i:Int):Option Nat:=if 0<=i then(if i<n then ab i.toNat else ae)else if -(n:Int)<=i then ab (i+n).toNat else ae
def dH{α:Type}(xs:List α)(i:Int):Option α:=(gB xs.length i).bind λj=>xs[j]?
def c8(n d:Nat):Option Int->Nat
 |none=>d
 |some v=>if v<0 then(v+(n:Int)).toNat else min v.toNat n
def j5{α:Type}(xs:List α)(lo hi:Option Int):List α:=(xs.drop (c8 xs.length 0 lo)).take (c8 xs.length xs.length hi-c8 xs.length 0 lo)
abbrev Ky:=Sum Bool Str
inductive W where
 |d (x:D)|dk (am:List (Ky×D))|dt (am:List (List Ky×D))|df (am:List (List Ky×D))|ex (c:String)|fn (a:Nat)
abbrev Env:=List (Option W)
structure mM where
 cls:String
 val:List D
inductive Rs(α:Type) where
 |ok (a:α)|ex (x:mM)|no
def Rs.bind{α β:Type}:Rs α->(α->Rs β)->Rs β
 |.ok a,f=>f a
 |.ex x,_=>.ex x
 |.no,_=>.no
@[simp] theorem aD {α β:Type} (a:α) (f:α->Rs β):(Rs.ok a).bind f=f a:=rfl
@[simp] theorem Sm {α β:Type} (x:mM) (f:α->Rs β):(Rs.ex x).bind f=.ex x:=rfl
@[simp] theorem Sk {α β:Type} (f:α->Rs β):(Rs.no).bind f=.no:=rfl
def Fin{α:Type}(r:Rs α)(k:α->Prop):Prop:=match r with
 |.ok a=>k a
 |_=>False
theorem au{α β:Type}{r:Rs α}{f:α->Rs β}{k:β->Prop}:Fin (r.bind f) k↔Fin r λa=>Fin (f a) k:=by cases r<;>exact Iff.rfl
theorem Fin.mono{α:Type}{r:Rs α}{k k':α->Prop}(h:Fin r k)(m:∀a,k a->k' a):Fin r k':=by
 cases r with
 |ok a=>exact m a h
 |ex x=>exact h
 |no=>exact h
theorem pc{α:Type}{r s:Rs α}{k:α->Prop}(h:Fin (if true=true then r else s) k):Fin r k:=by simpa using h
theorem oX{α:Type}{r s:Rs α}{k:α->Prop}(h:Fin (if false=true then r else s) k):Fin s k:=by simpa using h
theorem kR{α:Type}{a:α}{k:α->Prop}(h:Fin (.ok a) k):k a:=h
def cG{α:Type}:Option α->Rs α
 |some a=>.ok a
 |none=>.no
def a9{α:Type}(c:Prop)[Decidable c](r:Rs α):Rs α:=if c then r else .no
theorem aO{α:Type}{c:Prop}[Decidable c]{r:Rs α}(h:c):a9 c r=r:=aH h
theorem cr{α:Type}{c:Prop}[Decidable c]{r:Rs α}{k:α->Prop}(h:Fin (a9 c r) k):c/\Fin r k:=by
 unfold a9 at h;split at h
 ·exact⟨‹_›,h⟩
 ·exact h.elim
abbrev E:=Env->Rs D
abbrev C:=Env->Rs Bool
def mC(d:D):E:=λ_=>.ok d
def mV(i:Nat):E:=λe=>match e[i]? with
 |some (ab (.d x))=>.ok x
 |_=>.no
def m1(f:D->Rs D)(a:E):E:=λe=>(a e).bind f
def m2(f:D->D->Rs D)(a b:E):E:=λe=>(a e).bind λx=>(b e).bind λy=>f x y
def fN:List E->Env->Rs (List D)
 |[],_=>.ok []
 |a::r,e=>(a e).bind λx=>(fN r e).bind λxs=>.ok (x::xs)
def mN(f:List D->Rs D)(as:List E):E:=λe=>(fN as e).bind f
def dTup(ds:List D):Rs D:=a9 (ds.length<=16777216) (.ok (.tup ds))
def dP(ds:List D):Rs D:=a9 (ds.length<=16777216) (.ok (.lst ds))
def oM:D->Rs Bool
 |.bl b=>.ok b
 |_=>.no
def mW(a b:E):E:=λe=>(a e).bind λx=>(oM x).bind λc=>if c=true then b e else .ok (.bl false)
def jS(a b:E):E:=λe=>(a e).bind λx=>(oM x).bind λc=>if c=true then .ok (.bl true)else b e
def vJ(f g:D->D->Rs D)(a b c:E):E:=λe=>(a e).bind λx=>(b e).bind λy=>(f x y).bind λz=>(oM z).bind λk=>if k=true then(c e).bind λw=>g y w else .ok (.bl false)
def sk:D->Rs Int
 |.int i=>.ok i
 |_=>.no
def i4:Option E->Env->Rs (Option Int)
 |none,_=>.ok ae
 |some a,e=>(a e).bind λx=>(sk x).bind λi=>.ok (ab i)
def ng(x:Str)(lo hi:Option Int):Str:=⟨(j5 x.cps.toList lo hi).toArray⟩
def kU(x:D)(lo hi:Option Int):Rs D:=match x with
 |.lst ds=>.ok (.lst (j5 ds lo hi))
 |.str z=>a9 (z.length<=16777216) (.ok (.str (ng z lo hi)))
 |_=>.no
def d5(f:D->Option Int->Option Int->Rs D)(a:E)(lo hi:Option E):E:=λe=>(a e).bind λx=>(i4 lo e).bind λl=>(i4 hi e).bind λh=>f x l h
def cB(a:E):C:=λe=>(a e).bind oM
def dY(a b:C):C:=λe=>(a e).bind λc=>if c=true then b e else .ok false
def dQ(a b:C):C:=λe=>(a e).bind λc=>if c=true then .ok true else b e
def dm(a:C):C:=λe=>(a e).bind λc=>.ok (!c)
def LI:D->Rs Bool
 |.non=>.ok false
 |.bl b=>.ok b
 |.int i=>.ok (i != 0)
 |.str y=>a9 (y.length<=16777216) (.ok ((y.length:Int) != 0))
 |.lst ds=>.ok (!ds.isEmpty)
 |.tup ds=>.ok (!ds.isEmpty)
def mZ(a:E):C:=λe=>(a e).bind LI
abbrev I:=Env->Rs (List D)
def rg:D->Rs (List D)
 |.lst ds=>.ok ds
 |.tup ds=>.ok ds
 |.str x=>.ok (x.cps.toList.map λc=>.str ⟨#[c]⟩)
 |_=>.no
def bJ(a:E):I:=λe=>(a e).bind rg
def d8(lo hi:Int):List D:=(bw (hi-lo).toNat).map λk=>.int (lo+(k:Nat))
def okR(i:Int):Prop:=-(2 ^ 62)<=i/\i<2 ^ 62
instance (i:Int):Decidable (okR i):=inferInstanceAs (Decidable (_/\_))
def gO(a:E):I:=λe=>(a e).bind λx=>(sk x).bind λj=>a9 (okR j) (.ok (d8 0 j))
def kJ(k:Nat):List D->List D
 |[]=>[]
 |d::r=>.tup [.int k,d]::kJ (k+1) r
def HB:D->Rs (List D)
 |.lst ds=>.ok ds
 |_=>.no
def im:List D->List D->List D
 |a::r,b::s=>.tup [a,b]::im r s
 |_,_=>[]
inductive Tg where
 |n (i:Nat)|t (is:List Nat)
def qZ:List Nat->List D->Env->Rs Env
 |[],[],e=>.ok e
 |i::is,d::ds,e=>qZ is ds (e.set i (ab (.d d)))
 |_,_,_=>.no
def Tg.put:Tg->D->Env->Rs Env
 |.n i,d,e=>.ok (e.set i (ab (.d d)))
 |.t is,.tup ds,e=>qZ is ds e
 |_,_,_=>.no
def kL(ρ:List (Option Nat))(e:Env):Env:=ρ.map λo=>o.bind λj=>(e[j]?).join
def c9(tg:Tg)(c:C)(a:E)(e:Env):List D->Rs (List D)
 |[]=>.ok []
 |x::r=>(tg.put x e).bind λe1=>(c e1).bind λk=>if k=true then(a e1).bind λy=>(c9 tg c a e r).bind λys=>.ok (y::ys)else c9 tg c a e r
def cO:C:=λ_=>.ok true
def cq(ρ:List (Option Nat))(it:I)(tg:Tg)(c:C)(a:E):E:=λe=>(it e).bind λxs=>a9 (xs.length<=16777216) ((c9 tg c a (kL ρ e) xs).bind λys=>.ok (.lst ys))
abbrev Fn:=List W->Rs W
abbrev EW:=Env->Rs W
def wD(a:E):EW:=λe=>(a e).bind λx=>.ok (.d x)
def wV(i:Nat):EW:=λe=>match e[i]? with
 |some (ab w)=>.ok w
 |_=>.no
def cP:List EW->Env->Rs (List W)
 |[],_=>.ok []
 |a::r,e=>(a e).bind λx=>(cP r e).bind λxs=>.ok (x::xs)
def iB(f:Fn)(as:List EW):EW:=λe=>(cP as e).bind f
def wt:W->Rs D
 |.d x=>.ok x
 |_=>.no
def be(f:Fn)(as:List EW):E:=λe=>(iB f as e).bind wt
inductive Out where
 |nx (e:Env)|rt (w:W)|bk (e:Env)|ct (e:Env)
abbrev S:=Env->Rs Out
def bp:S:=λe=>.ok (.nx e)
def aF(s t:S):S:=λe=>(s e).bind λo=>match o with
 |.nx e'=>t e'
 |o=>.ok o
def jX(i:Nat)(a:EW):S:=λe=>(a e).bind λw=>.ok (.nx (e.set i (ab w)))
def a6(i:Nat)(a:E):S:=λe=>(a e).bind λd=>.ok (.nx (e.set i (ab (.d d))))
def DA(tg:Tg)(a:E):S:=λe=>(a e).bind λd=>(tg.put d e).bind λe'=>.ok (.nx e')
def vQ(a:E):S:=λe=>(a e).bind λ_=>.ok (.nx e)
def bB(a:EW):S:=λe=>(a e).bind λw=>.ok (.rt w)
def bh(c:C)(s t:S):S:=λe=>(c e).bind λk=>if k=true then s e else t e
def zi:S:=λ_=>.no
def ii(tg:Tg)(body:S):List D->Env->Rs Out
 |[],e=>.ok (.nx e)
 | x::r,e=>(tg.put x e).bind λe1=>(body e1).bind λo=>match o with
  |.nx e2=>ii tg body r e2
  |.ct e2=>ii tg body r e2
  |.bk e2=>.ok (.nx e2)
  |.rt w=>.ok (.rt w)
def du(it:I)(tg:Tg)(body:S):S:=λe=>(it e).bind λxs=>ii tg body xs e
def iZ(c:C)(body:S):Nat->Env->Rs Out
 |0,_=>.no
 | n+1,e=>(c e).bind λk=>if k=true then(body e).bind λo=>match o with
  |.nx e2=>iZ c body n e2
  |.ct e2=>iZ c body n e2
  |.bk e2=>.ok (.nx e2)
  |.rt w=>.ok (.rt w)
  else .ok (.nx e)
def sI(n:Nat)(c:C)(body:S):S:=iZ c body n
def getL(e:Env)(i:Nat):Rs (List D):=match e[i]? with
 |some (ab (.d (.lst ds)))=>.ok ds
 |_=>.no
def putL(e:Env)(i:Nat)(ds:List D):Env:=e.set i (ab (.d (.lst ds)))
def eM(i:Nat)(a:E):S:=λe=>(a e).bind λd=>(getL e i).bind λds=>a9 (ds.length<16777216) (.ok (.nx (putL e i (ds++[d]))))
def m6(i:Nat)(a:E):S:=λe=>(a e).bind λd=>(getL e i).bind λds=>match d with
 |.lst xs=>a9 (ds.length+xs.length<=16777216) (.ok (.nx (putL e i (ds++xs))))
 |_=>.no
def vb(x y:Nat):S:=λe=>(getL e y).bind λds=>(cG ds[ds.length-1]?).bind λd=>.ok (.nx ((putL e y ds.dropLast).set x (ab (.d d))))
def vU(ds:List D)(i:Int):Rs (D×List D):=a9 (-(2 ^ 63)<=i/\i<2 ^ 63) ((cG (gB ds.length i)).bind λk=>(cG ds[k]?).bind λd=>.ok (d,ds.eraseIdx k))
def vG(x y:Nat)(k:E):S:=λe=>(k e).bind λz=>(sk z).bind λi=>(getL e y).bind λds=>(vU ds i).bind λp=>(getL (putL e y p.2) x).bind λes=>
 a9 (es.length<16777216) (.ok (.nx (putL (putL e y p.2) x (es++[p.1]))))
def oG:D->Option Ky
 |.bl i=>ab (.inl i)
 |.str x=>ab (.inr x)
 |_=>ae
def lQ:List D->Option (List Ky)
 |[]=>ab []
 | d::r=>match oG d,lQ r with
  |some k,ab ks=>ab (k::ks)
  |_,_=>ae
def iJ{κ:Type}[DecidableEq κ](am:List (κ×D))(k:κ):Option D:=(am.find? λkv=>decide (kv.1=k)).map (·.2)
def r6(w:W)(k:D):Rs (Option D):=match w with
 |.dk am=>(cG (oG k)).bind λk=>.ok (iJ am k)
 | .dt am=>match k with
  |.tup ds=>(cG (lQ ds)).bind λk=>.ok (iJ am k)
  |_=>.no
 | .df am=>match k with
  |.tup ds=>(cG (lQ ds)).bind λk=>.ok (iJ am k)
  |_=>.no
 |_=>.no
def putK{κ:Type}[DecidableEq κ](k:κ)(v:D)(am:List (κ×D)):List (κ×D):=if(am.any λkv=>decide (kv.1=k))=true then am.map (λkv=>if kv.1=k then(kv.1,v)else kv)else am++[(k,v)]
def sS(w:W)(k v:D):Rs W:=match w with
 |.dk am=>a9 (am.length<16777216) ((cG (oG k)).bind λk=>.ok (.dk (putK k v am)))
 | .dt am=>match k with
  |.tup ds=>a9 (am.length<16777216) ((cG (lQ ds)).bind λk=>.ok (.dt (putK k v am)))
  |_=>.no
 |_=>.no
def eF(i:Nat)(k:E):E:=λe=>(k e).bind λd=>(wV i e).bind λw=>(r6 w d).bind λo=>.ok (.bl o.isSome)
def gX(i:Nat)(k:E):E:=λe=>(k e).bind λd=>(wV i e).bind λw=>(r6 w d).bind λo=>.ok (.bl (!o.isSome))
def fg(i:Nat)(k v:E):S:=λe=>(v e).bind λx=>(k e).bind λd=>(wV i e).bind λw=>(sS w d x).bind λw'=>.ok (.nx (e.set i (ab w')))
def lc:Out->Rs W
 |.rt w=>.ok w
 |.nx _=>.ok (.d .non)
 |_=>.no
def eI(k n:Nat)(body:S):Fn:=λws=>a9 (ws.length=k) ((body (ws.map ab++cx (n-ws.length) ae)).bind lc)
def jZ:Out->Rs W
 |.rt w=>.ok w
 |_=>.no
def fq(k n:Nat)(body:S):Fn:=λws=>a9 (ws.length=k) ((body (ws.map ab++cx (n-ws.length) ae)).bind jZ)
def Gv:Fn:=λ_=>.no
def lE(i j:Int):Prop:=(-(2 ^ 64)<i/\i<2 ^ 64)\/(-(2 ^ 64)<j/\j<2 ^ 64)
instance (i j:Int):Decidable (lE i j):=inferInstanceAs (Decidable (_\/_))
def l7(j:Int):Prop:=0<j/\j.natAbs.log2<9000
instance (j:Int):Decidable (l7 j):=inferInstanceAs (Decidable (_/\_))
def L5(i j:Int):Prop:=0<=j/\j<=1000000/\i.natAbs<2 ^ 64
instance (i j:Int):Decidable (L5 i j):=inferInstanceAs (Decidable (_/\_))
def bq:D->D->Rs D
 |.int i,.int j=>.ok (.int (i+j))
 |.str i,.str j=>a9 (i.length+j.length<=16777216) (.ok (.str (i++j)))
 |.lst i,.lst j=>a9 (i.length+j.length<=16777216) (.ok (.lst (i++j)))
 |_,_=>.no
def lL:D->D->Rs D
 |.int i,.int j=>.ok (.int (i-j))
 |_,_=>.no
def c5:D->D->Rs D
 |.int i,.int j=>a9 (lE i j) (.ok (.int (i*j)))
 |_,_=>.no
def et:D->D->Rs D
 |.int i,.int j=>a9 (l7 j) (.ok (.int (i/j)))
 |_,_=>.no
def cD:D->D->Rs D
 |.int i,.int j=>a9 (0<j) (.ok (.int (i%j)))
 |_,_=>.no
def Am:D->Rs D
 |.int i=>.ok (.int (-i))
 |_=>.no
def gq:D->D->Rs D
 |.int i,.int j=>.ok (.bl (decide (i<j)))
 |.str i,.str j=>.ok (.bl (decide (i.cps.toList<j.cps.toList)))
 |_,_=>.no
def mX:D->D->Rs D
 |.int i,.int j=>.ok (.bl (decide (j<i)))
 |.str i,.str j=>.ok (.bl (decide (j.cps.toList<i.cps.toList)))
 |_,_=>.no
def qG:D->D->Rs D
 |.int i,.int j=>.ok (.bl (decide (i<=j)))
 |_,_=>.no
def fU(x y:D):Rs D:=a9 (x.dep<=16) (.ok (.bl (bn x y)))
def de(x y:D):Rs D:=a9 (x.dep<=16) (.ok (.bl (!bn x y)))
def bz(x y:D):Rs D:=match y with
 |.lst ds=>a9 (dN ds<=16) (.ok (.bl (ds.any λe=>bn e x)))
 |.tup ds=>a9 (dN ds<=16) (.ok (.bl (ds.any λe=>bn e x)))
 | .str z=>match x with
  |.str s=>a9 (s.length=1) (.ok (.bl (decide (s.cps.getD 0 0∈z.cps.toList))))
  |_=>.no
 |_=>.no
def eQ(x y:D):Rs D:=match y with
 |.lst ds=>a9 (dN ds<=16) (.ok (.bl (!ds.any λe=>bn e x)))
 |.tup ds=>a9 (dN ds<=16) (.ok (.bl (!ds.any λe=>bn e x)))
 |_=>.no
def aG(x y:D):Rs D:=match x,y with
 |.lst ds,.int i=>cG (dH ds i)
 |.tup ds,.int i=>cG (dH ds i)
 |.str z,.int i=>a9 (z.length<=16777216) ((cG (dH z.cps.toList i)).bind λc=>.ok (.str ⟨#[c]⟩))
 |_,_=>.no
def cH:List D->Rs D
 |[.lst ds]=>.ok (.int ds.length)
 |[.tup ds]=>.ok (.int ds.length)
 |[.str z]=>a9 (z.length<=16777216) (.ok (.int z.length))
 |_=>.no
def jp:List D->Rs D
 |[.int i,.int j]=>.ok (.int (max i j))
 |_=>.no
def mJ:List D->Rs D
 |[.int i,.int j]=>.ok (.int (min i j))
 |_=>.no
def j1:List D->Option (List Bool)
 |[]=>ab []
 |.bl b::r=>(j1 r).map (b :: ·)
 |_=>ae
def yl:List D->Rs D
 |[.lst ds]=>(cG (j1 ds)).bind λbs=>.ok (.bl (bs.all id))
 |_=>.no
def rd:List D->Rs D
 |[.lst ds]=>(cG (j1 ds)).bind λbs=>.ok (.bl (bs.any id))
 |_=>.no
def qe:List D->Rs D
 |[.lst ds]=>.ok (.tup ds)
 |[.tup ds]=>.ok (.tup ds)
 |_=>.no
def qF(t:String):D->Bool
 |.non=>false
 |.bl _=>t == "bool" || t == "int"
 |.int _=>t == "int"
 |.str _=>t == "str"
 |.lst _=>t == "list"
 |.tup _=>t == "tuple"
def yS:D->String
 |.non => "NoneType" | .bl _ => "bool" | .int _ => "int" | .str _ => "str" | .lst _ => "list" | .tup _ => "tuple"
def cE(ts:List String)(x:D):Rs D:=.ok (.bl (ts.any λt=>qF t x))
def j9:List D->Option (List Str)
 |[]=>ab []
 |.str b::r=>(j9 r).map (b :: ·)
 |_=>ae
def vW(x y:D):Rs D:=match x,y with
 |.str sep,.lst ds=>(cG (j9 ds)).bind λys=>a9 ((ys.map (·.length)).sum+ys.length*sep.length<=16777216) (.ok (.str (lm sep ys)))
 |_,_=>.no
def met(val:Nat->Str):Nat->List Str
 |0=>[]
 |i+1=>if val i∈met val i then met val i else met val i++[val i]
end Mi
namespace L2
open PySem PySem.Spec PyProof.Rows
open Mi (D dN bn iA)
mutual
theorem sA:∀d:D,bn d d=true
 |.non=>rfl
 |.bl b=>by simp[bn]
 |.int i=>by simp[bn]
 |.str x=>by simp[bn]
 |.lst ds=>by rw[bn];exact yO ds
 |.tup ds=>by rw[bn];exact yO ds
theorem yO:∀ds:List D,iA ds ds=true
 |[]=>rfl
 |d::r=>by rw[iA,sA d,yO r];rfl
end
theorem rR:∀{ds es:List D},ds.length≠es.length->iA ds es=false
 |[],[],h=>absurd rfl h
 |[],_::_,_=>rfl
 |_::_,[],_=>rfl
 |d::r,e::s,h=>by rw[iA,rR (λz=>h (by rw[dW,dW,z])),w9]
theorem sL:∀{ds es:List D},ds.length=es.length->iA ds es=(bw ds.length).all λj=>bn (ds.getD j .non) (es.getD j .non)
 |[],[],_=>rfl
 |[],_::_,h=>by simp at h
 |_::_,[],h=>by simp at h
 |d::r,e::s,h=>by
  rw[iA,sL (by simpa using h),dW,A3,List.all_cons,List.all_map];rfl
mutual
/-- the value v in the heap H is the tree d -/
def Rep(K:aE)(H:Hp):D->V->Prop
 |.non,v=>v=.non
 |.bl b,v=>v=.bl b
 |.int i,v=>v=.int i
 |.str x,v=>v=.str x
 |.lst ds,v=>∃a xs,v=.ref a/\eS K H a xs/\bc K H ds xs
 |.tup ds,v=>∃a xs,v=.ref a/\fw K H a xs/\bc K H ds xs
def bc(K:aE)(H:Hp):List D->List V->Prop
 |[],vs=>vs=[]
 |d::ds,vs=>∃v r,vs=v::r/\Rep K H d v/\bc K H ds r
end
theorem bc.length{K:aE}{H:Hp}:∀{ds:List D} {vs:List V},bc K H ds vs->ds.length=vs.length
 |[],vs,h=>by rw[bc]at h;subst h;rfl
 |d::ds,vs,h=>by
  rw[bc]at h;obtain⟨v,r,rfl,_,q⟩:=h;rw[dW,dW,bc.length q]
theorem bc.get{K:aE}{H:Hp}:∀{ds:List D} {vs:List V} {j:Nat} {v:V},bc K H ds vs->vs[j]? = ab v->Rep K H (ds.getD j .non) v
 |[],vs,j,v,h,e=>by rw[bc]at h;subst h;simp at e
 |d::ds,vs,0,v,h,e=>by
  rw[bc]at h;obtain⟨v',r,rfl,p,q⟩:=h;simp at e;subst e;exact p
 |d::ds,vs,j+1,v,h,e=>by
  rw[bc]at h;obtain⟨v',r,rfl,p,q⟩:=h;have:=bc.get (j:=j) (v:=v) q (by simpa using e);simpa using this
section
variable{X:Cx}{af:List (ah×Obj)}{σ:St}{H:Hp}{s:ao}
theorem Inv.Fc(I:Inv X af σ H s){a:ah}{xs ys:List V}(h:eS X.K H a xs)(h':fw X.K H a ys):False:=by obtain⟨aj,_,p,_⟩:=I.list h;obtain⟨its',_,q,_⟩:=I.tuple h';obtain⟨o,n,e,c,_⟩:=p;obtain⟨o',e',c',_⟩:=q;rw[e]at e';cases e';rw[c]at c';exact absurd (Value.type.inj c') (by decide)
mutual
theorem Rep.inj(I:Inv X af σ H s):∀{d e:D} {v:V},Rep X.K H d v->Rep X.K H e v->d=e
 |.non,e,v,h,h'=>by
  rw[Rep]at h;subst h;cases e<;>rw[Rep]at h'<;>first|rfl|(obtain⟨_,_,z,_⟩:=h';cases z)|cases h'
 |.bl b,e,v,h,h'=>by
  rw[Rep]at h;subst h;cases e<;>rw[Rep]at h'<;>first|(obtain⟨_,_,z,_⟩:=h';cases z)|(cases h';rfl)|cases h'
 |.int b,e,v,h,h'=>by
  rw[Rep]at h;subst h;cases e<;>rw[Rep]at h'<;>first|(obtain⟨_,_,z,_⟩:=h';cases z)|(cases h';rfl)|cases h'
 |.str b,e,v,h,h'=>by
  rw[Rep]at h;subst h;cases e<;>rw[Rep]at h'<;>first|(obtain⟨_,_,z,_⟩:=h';cases z)|(cases h';rfl)|cases h'
 |.lst ds,e,v,h,h'=>by
  rw[Rep]at h;obtain⟨a,xs,rfl,q,r⟩:=h;cases e with
  |lst es=>
   rw[Rep]at h';obtain⟨a',xs',z,q',r'⟩:=h';cases z;rw[I.yJ q' q]at r';rw[bc.inj I r r']
  |tup es=>
   rw[Rep]at h';obtain⟨a',xs',z,q',r'⟩:=h';cases z;exact(I.Fc q q').elim
  |_=>rw[Rep]at h';cases h'
 |.tup ds,e,v,h,h'=>by
  rw[Rep]at h;obtain⟨a,xs,rfl,q,r⟩:=h;cases e with
  |tup es=>
   rw[Rep]at h';obtain⟨a',xs',z,q',r'⟩:=h';cases z;rw[I.Af q' q]at r';rw[bc.inj I r r']
  |lst es=>
   rw[Rep]at h';obtain⟨a',xs',z,q',r'⟩:=h';cases z;exact(I.Fc q' q).elim
  |_=>rw[Rep]at h';cases h'
theorem bc.inj(I:Inv X af σ H s):∀{ds es:List D} {vs:List V},bc X.K H ds vs->bc X.K H es vs->ds=es
 |[],es,vs,h,h'=>by
  rw[bc]at h;subst h;cases es with
  |nil=>rfl
  |cons e es=>rw[bc]at h';obtain⟨_,_,z,_⟩:=h';cases z
 |d::ds,es,vs,h,h'=>by
  rw[bc]at h;obtain⟨v,r,rfl,p,q⟩:=h;cases es with
  |nil=>rw[bc]at h';cases h'
  |cons e es=>
   rw[bc]at h';obtain⟨v',r',z,p',q'⟩:=h';cases z;rw[Rep.inj I p p',bc.inj I q q']
end
theorem zp:∀{ds:List D} {j:Nat},(ds.getD j .non).dep<=dN ds
 |[],j=>by simp[D.dep]
 |d::ds,0=>by simp[dN];omega
 |d::ds,j+1=>by
  have:=zp (ds:=ds) (j:=j);have e:(d::ds).getD (j+1) .non=ds.getD j .non:=by simp
  rw[e,dN];omega
def _root_.Mi.D.flat:D->Bool
 |.lst _=>false
 |.tup _=>false
 |_=>true
def _root_.Mi.D.toV:D->V
 |.non=>.non|.bl b=>.bl b|.int i=>.int i|.str x=>.str x|.lst _=>.non|.tup _=>.non
theorem Rep.flat{K:aE}:∀{d:D} {v:V},d.flat=true->Rep K H d v->v=d.toV/\zo v=true
 |.non,v,_,h=>by rw[Rep]at h;subst h;exact⟨rfl,rfl⟩
 |.bl b,v,_,h=>by rw[Rep]at h;subst h;exact⟨rfl,rfl⟩
 |.int b,v,_,h=>by rw[Rep]at h;subst h;exact⟨rfl,rfl⟩
 |.str b,v,_,h=>by rw[Rep]at h;subst h;exact⟨rfl,rfl⟩
 |.lst _,v,z,h=>by cases z
 |.tup _,v,z,h=>by cases z
theorem MU:∀{d e:D},d.flat=true->e.flat=true->bn d e=FM d.toV e.toV:=by intro d e h1 h2;cases d<;>cases e<;>first|rfl|exact absurd (show false=true from h1) cy|exact absurd (show false=true from h2) cy
open SeqAt in
theorem Et(I:Inv X af σ H s):∀(n:Nat) (d e:D) (A:bv) {x y:V} {u u':ag},d.dep<=n->A.units+n<cLine->Rep X.K H d x->Rep X.K H e y->RelV x u->RelV y u'->EqAt A s u u' (bn d e):=by
 intro n
 induction n using Nat.strongRecOn with
 |ind n ih=>
  intro d e A x y u u' hd hu h h' r r';have hu0:A.units<cLine:=by omega
  by_cases hdf:d.flat=true
  ·obtain⟨ex,fx⟩:=h.flat hdf;subst ex;by_cases hef:e.flat=true
   ·obtain⟨ey,fy⟩:=h'.flat hef;subst ey;rw[MU hdf hef];exact LV r r' fx fy
   ·cases e with
    |lst es=>
     rw[Rep]at h';obtain⟨a,xs,rfl,q,_⟩:=h';cases r';obtain⟨aj,_,p,_⟩:=I.list q;cases d with
     |non=>cases r;exact EqAt.none_list p.isList hu0
     |bl b=>cases r;exact EqAt.bool_list b p.isList hu0
     |int b=>obtain⟨t,rfl⟩:=r;exact EqAt.int_list b t p.isList hu0
     |str b=>obtain⟨t,rfl⟩:=r;exact EqAt.str_list b t p.isList hu0
     |_=>cases hdf
    |tup es=>
     rw[Rep]at h';obtain⟨a,xs,rfl,q,_⟩:=h';cases r';obtain⟨aj,_,p,_⟩:=I.tuple q;cases d with
     |non=>cases r;exact EqAt.none_tuple p hu0
     |bl b=>cases r;exact EqAt.bool_tuple b p hu0
     |int b=>obtain⟨t,rfl⟩:=r;exact EqAt.int_tuple b t p hu0
     |str b=>obtain⟨t,rfl⟩:=r;exact EqAt.str_tuple b t p hu0
     |_=>cases hdf
    |_=>exact absurd rfl hef
  ·by_cases hef:e.flat=true
   ·obtain⟨ey,fy⟩:=h'.flat hef;subst ey;cases d with
    |lst ds=>
     rw[Rep]at h;obtain⟨a,xs,rfl,q,_⟩:=h;cases r;obtain⟨aj,_,p,_⟩:=I.list q;cases e with
     |non=>cases r';exact EqAt.list_none p.isList hu0
     |bl b=>cases r';exact EqAt.list_bool b p.isList hu0
     |int b=>obtain⟨t,rfl⟩:=r';exact EqAt.list_int b t p.isList hu0
     |str b=>obtain⟨t,rfl⟩:=r';exact EqAt.list_str b t p.isList hu0
     |_=>cases hef
    |tup ds=>
     rw[Rep]at h;obtain⟨a,xs,rfl,q,_⟩:=h;cases r;obtain⟨aj,_,p,_⟩:=I.tuple q;cases e with
     |non=>cases r';exact EqAt.tuple_none p hu0
     |bl b=>cases r';exact EqAt.tuple_bool b p hu0
     |int b=>obtain⟨t,rfl⟩:=r';exact EqAt.tuple_int b t p hu0
     |str b=>obtain⟨t,rfl⟩:=r';exact EqAt.tuple_str b t p hu0
     |_=>cases hef
    |_=>exact absurd rfl hdf
   ·-- both are lists or tuples
    have item:∀{ds es:List D} {xs ys:List V} {aj its':List ag},dN ds+1<=n->bc X.K H ds xs->bc X.K H es ys->Vals xs aj->Vals ys its' ->
     ∀j (h1:j<aj.toArray.size) (h2:j<its'.toArray.size),EqAt A.in1 s aj.toArray[j] its'.toArray[j] (bn (ds.getD j .non) (es.getD j .non)):=by
     intro ds es xs ys aj its' hn q q' v v' j h1 h2;have h1':j<aj.length:=by simpa using h1
     have h2':j<its'.length:=by simpa using h2
     have e1:j<xs.length:=by rw[v.length];exact h1'
     have e2:j<ys.length:=by rw[v'.length];exact h2'
     have g1:xs[j]? = ab xs[j]:=by simp[e1]
     have g2:ys[j]? = ab ys[j]:=by simp[e2]
     obtain⟨w1,k1,r1⟩:=v.get g1;obtain⟨w2,k2,r2⟩:=v'.get g2;have t1:aj.toArray[j]=w1:=by obtain⟨_,k1⟩:=cu.mp k1;simpa using k1
     have t2:its'.toArray[j]=w2:=by obtain⟨_,k2⟩:=cu.mp k2;simpa using k2
     rw[t1,t2];have:=zp (ds:=ds) (j:=j);refine ih (n-1) (by omega) _ _ A.in1 (by omega) ?_ (q.get g1) (q'.get g2) r1 r2;show A.units+1+(n-1)<cLine;omega
    cases d with
    |lst ds=>
     rw[Rep]at h;obtain⟨a,xs,rfl,q,rr⟩:=h;cases r;obtain⟨aj,v,p,_⟩:=I.list q;have hn:dN ds+1<=n:=by simpa [D.dep]using hd
     cases e with
     |lst es=>
      rw[Rep]at h';obtain⟨b,ys,rfl,q',rr'⟩:=h';cases r';obtain⟨its',v',p',_⟩:=I.list q';by_cases hab:a=b
      ·subst hab;rw[I.yJ q' q]at rr';rw[bc.inj I rr rr',sA];exact EqAt.same _
      ·have l1:=rr.length;have l2:=rr'.length;have l3:=v.length;have l4:=v'.length;by_cases hl:ds.length=es.length
       ·rw[bn,sL hl];have:=RcAt.lists p.isList p'.isList (by simp;omega) hu0 (item hn rr rr' v v');have e:aj.toArray.size=ds.length:=by simp;omega
        rw[e]at this;exact .of_refs hab this
       ·rw[bn,rR hl];exact .of_refs hab (RcAt.lists_lengths p.isList p'.isList (by simp;omega) hu0)
     |tup es=>
      rw[Rep]at h';obtain⟨b,ys,rfl,q',_⟩:=h';cases r';obtain⟨its',_,p',_⟩:=I.tuple q';exact EqAt.list_tuple p.isList p' hu0
     |_=>exact absurd rfl hef
    |tup ds=>
     rw[Rep]at h;obtain⟨a,xs,rfl,q,rr⟩:=h;cases r;obtain⟨aj,v,p,_⟩:=I.tuple q;have hn:dN ds+1<=n:=by simpa [D.dep]using hd
     cases e with
     |tup es=>
      rw[Rep]at h';obtain⟨b,ys,rfl,q',rr'⟩:=h';cases r';obtain⟨its',v',p',_⟩:=I.tuple q';by_cases hab:a=b
      ·subst hab;rw[I.Af q' q]at rr';rw[bc.inj I rr rr',sA];exact EqAt.same _
      ·have l1:=rr.length;have l2:=rr'.length;have l3:=v.length;have l4:=v'.length;have R:=RcAt.tuples p p' hu0 (item hn rr rr' v v');have e1:aj.toArray.size=ds.length:=by simp;omega
       have e2:its'.toArray.size=es.length:=by simp;omega
       rw[e1,e2]at R;by_cases hl:ds.length=es.length
       ·rw[bn,sL hl];rw[hl,Nat.min_self,i3,Bool.and_true,<- hl]at R;exact .of_refs hab R
       ·rw[bn,rR hl];have:(ds.length==es.length)=false:=by simpa using hl
        rw[this,w9]at R;exact .of_refs hab R
     |lst es=>
      rw[Rep]at h';obtain⟨b,ys,rfl,q',_⟩:=h';cases r';obtain⟨its',_,p',_⟩:=I.list q';exact EqAt.tuple_list p p'.isList hu0
     |_=>exact absurd rfl hef
    |_=>exact absurd rfl hdf
def vz(K:aE)(neg:Bool):R2:=λx y H Q=>∃(p:ah) (xs:List V) (d:D) (ds:List D),y=.ref p/\(eS K H p xs\/fw K H p xs)/\Rep K H d x/\bc K H ds xs/\dN ds<=16 /\
 Q (.bl (if neg then !ds.any (λe=>bn e d)else ds.any (λe=>bn e d))) H
theorem bc.main{K:aE}:∀{ds:List D} {xs:List V} {us:List ag},bc K H ds xs->Vals xs us->∀u∈us,∃b∈ds,∃y,Rep K H b y/\RelV y u
 |[],xs,us,hr,hv,u,hu=>by
  rw[bc]at hr;subst hr;cases hv;cases hu
 |b::bs,xs,us,hr,hv,u,hu=>by
  rw[bc]at hr;obtain⟨y,r,rfl,p,q⟩:=hr;cases hv with
  |cons ry t=>
   rcases bA.mp hu with rfl|hu
   ·exact⟨b,ce,_,p,ry⟩
   ·obtain⟨b',hb',w⟩:=bc.main q t u hu;exact⟨b',c6 _ hb',w⟩
theorem bc.any{K:aE}{e:ag->Bool}{f:D->Bool}(key:∀b y u,Rep K H b y->RelV y u->e u=f b):∀{ds:List D} {xs:List V} {us:List ag},bc K H ds xs->Vals xs us->us.any e=ds.any f
 |[],xs,us,hr,hv=>by
  rw[bc]at hr;subst hr;cases hv;rfl
 |b::bs,xs,us,hr,hv=>by
  rw[bc]at hr;obtain⟨y,r,rfl,p,q⟩:=hr;cases hv with
  |cons ry t=>rw[iH,iH,key b y _ p ry,bc.any key q t]
theorem GR:∀{ds:List D} {b:D},b∈ds->b.dep<=dN ds
 |d::ds,b,h=>by
  rw[dN];rcases bA.mp h with rfl|h
  ·omega
  ·have:=GR h;omega
open Classical in
theorem u7(I:Inv X af σ H s){A:bv}(hu:A.units+16<cLine){d:D}{x:V}{v:ag}(hx:Rep X.K H d x)(rx:RelV x v){ds:List D}{xs:List V}{us:List ag}(hd:dN ds<=16)(hr:bc X.K H ds xs)(hv:Vals xs us) :
 ∃e:ag->Bool,(∀u∈us,SeqAt.EqAt A s u v (e u))/\us.any e=ds.any (λb=>bn b d):=by
 have key:∀b y u,Rep X.K H b y->RelV y u->(λu=>decide (∃b y,Rep X.K H b y/\RelV y u/\bn b d=true)) u=bn b d:=by
  intro b y u hb hy;cases hp:bn b d with
  |true=>exact cM ⟨b,y,hb,hy,hp⟩
  |false=>
   refine dC ?_;rintro⟨b',y',hb',hy',hp'⟩;have:=hy.inj hy';subst this;rw[Rep.inj I hb hb',hp']at hp;cases hp
 refine⟨λu=>decide (∃b y,Rep X.K H b y/\RelV y u/\bn b d=true),λu hu'=>?_,bc.any key hr hv⟩;obtain⟨b,hb,y,rb,ry⟩:=bc.main hr hv u hu';rw[key b y u rb ry];exact Et I 16 b d A (dw (GR hb) hd) hu rb hx ry rx
theorem LU(hu:X.A.units+64<cLine):cQ X (compareOp .In) (vz X.K false):=by
 intro af s σ H x y v u Q I rx ry h;obtain⟨p,xs,d,ds,rfl,hq,hx,hr,hd,q⟩:=h;cases ry;have hu1:X.A.in1.units+16<cLine:=by show X.A.units+1+16<cLine;omega
 rcases hq with hq|hq
 ·obtain⟨aj,r,pl,hz⟩:=I.list hq;obtain⟨e,he,ea⟩:=u7 I hu1 hx rx hd hr r;refine SeqAt.in_listAt e pl.isList (λw hw=>he w (by simpa using hw)) ⟨.bl _,H,I,rfl,?_⟩;rw[show aj.toArray.any e=aj.any e by simp,ea];exact q
 ·obtain⟨aj,r,pl,hz⟩:=I.tuple hq;obtain⟨e,he,ea⟩:=u7 I hu1 hx rx hd hr r;refine SeqAt.in_tupleAt e pl (λw hw=>he w (by simpa using hw)) ⟨.bl _,H,I,rfl,?_⟩;rw[show aj.toArray.any e=aj.any e by simp,ea];exact q
theorem mO(hu:X.A.units+64<cLine):cQ X (compareOp .NotIn) (vz X.K true):=by
 intro af s σ H x y v u Q I rx ry h;obtain⟨p,xs,d,ds,rfl,hq,hx,hr,hd,q⟩:=h;cases ry;have hu1:X.A.in1.units+16<cLine:=by show X.A.units+1+16<cLine;omega
 rcases hq with hq|hq
 ·obtain⟨aj,r,pl,hz⟩:=I.list hq;obtain⟨e,he,ea⟩:=u7 I hu1 hx rx hd hr r;refine SeqAt.notIn_listAt e pl.isList (λw hw=>he w (by simpa using hw)) ⟨.bl _,H,I,rfl,?_⟩;rw[show aj.toArray.any e=aj.any e by simp,ea];exact q
 ·obtain⟨aj,r,pl,hz⟩:=I.tuple hq;obtain⟨e,he,ea⟩:=u7 I hu1 hx rx hd hr r;refine SeqAt.notIn_tupleAt e pl (λw hw=>he w (by simpa using hw)) ⟨.bl _,H,I,rfl,?_⟩;rw[show aj.toArray.any e=aj.any e by simp,ea];exact q
end
end L2
namespace L2
open PySem PySem.Spec PyProof.Rows
theorem ss{H:Hp}{p:ah}{o:HO}(hp:H p=ae):cK H (upd H p o):=λb u e=>by rw[aC (cJ e hp)];exact e
theorem HG:∀{ys:List Str} {us:List ag},Vals (ys.map V.str) us->StrsAre us ys
 |[],_,.nil=>.nil
 |y::ys,_,.cons r t=>by
  obtain⟨tk,rfl⟩:=(show∃tk,_=mx y tk from r);exact .cons y tk (HG t)
section
variable{X:Cx}
def rJoin(K:aE):V->List V->Hp->VK->Prop:=λx vs H Q=>∃(sep:Str) (p:ah) (ys:List Str),x=.str sep/\vs=[.ref p]/\eS K H p (ys.map V.str)/\(ys.map (·.length)).sum+ys.length*sep.length<=16777216/\Q (.str (lm sep ys)) H
theorem CH:k3 X "str.join" (rJoin X.K):=by intro af s σ H x vs v us Q I rx rv h;obtain⟨sep,p,ys,rfl,rfl,hq,hz,q⟩:=h;obtain⟨t,rfl⟩:=rx;obtain⟨u,rfl,ru⟩:=rv.one;cases ru;obtain⟨aj,r,pl,_⟩:=I.list hq;refine join_list pl.isList (by simpa using HG r) hz λt' k=>⟨.str (lm sep ys),H,I.tok k,⟨t',?_⟩,q⟩;show mx (Builtin.Str.glued sep ys) t'=_;rw[StrLaws.glued_eq_join]
def EC(i j:Int):Prop:=0<j/\j.natAbs.log2<9000
theorem nh:cQ X (binaryOp .FloorDiv) (rI EC λi j=>.int (i/j)):=zB λi j _ _ _ _ _ hc q=>by
 refine floordiv_int (by have:=hc.1;omega) ?_ (.inl (PyProof.noPylong_of_log2 hc.2));rw[Int.fdiv_eq_ediv_of_nonneg i (by have:=hc.1;omega)];exact q
theorem OC(hc:X.calm=true):fZ X (.builtin "max") (λxs H Q=>∃i j z,xs=[.int i,.int j]/\max i j=z/\Q (.int z) H):=by intro af s σ H xs us Q I r ⟨i,j,z,e1,e2,q⟩;subst e2;refine Rx hc af s σ H xs us Q I r ⟨i,j,e1,?_⟩;rw[show(if j>i then j else i)=max i j by split<;>omega];exact q
theorem Lj(hc:X.calm=true):fZ X (.builtin "min") (λxs H Q=>∃i j z,xs=[.int i,.int j]/\min i j=z/\Q (.int z) H):=by intro af s σ H xs us Q I r ⟨i,j,z,e1,e2,q⟩;subst e2;refine Oh hc af s σ H xs us Q I r ⟨i,j,e1,?_⟩;rw[show(if j<i then j else i)=min i j by split<;>omega];exact q
end
end L2
namespace A
open PySem L2 PyProof.Rows
open Mi (D W Rs Fin au)
inductive P2{α β:Type}(F:α->β->Prop):List α->List β->Prop
 |nil:P2 F [] []
 |cons {a b l m}:F a b->P2 F l m->P2 F (a::l) (b::m)
section
variable{α β:Type}{F G:α->β->Prop}
theorem P2.imp(h:∀a b,F a b->G a b):∀{l m},P2 F l m->P2 G l m
 |_,_,.nil=>.nil
 |_,_,.cons x t=>.cons (h _ _ x) (t.imp h)
theorem P2.len:∀{l m},P2 F l m->l.length=m.length
 |_,_,.nil=>rfl
 |_,_,.cons _ t=>by rw[dW,dW,t.len]
theorem P2.append:∀{l m l' m'},P2 F l m->P2 F l' m'->P2 F (l++l') (m++m')
 |_,_,_,_,.nil,s=>s
 |_,_,_,_,.cons x t,s=>.cons x (t.append s)
theorem P2.get:∀{l m} {i:Nat} {a b},P2 F l m->l[i]? = ab a->m[i]? = ab b->F a b
 |_,_,_,_,_,.nil,e,_=>by simp at e
 |_,_,0,_,_,.cons x _,e,e'=>by simp at e e';subst e e';exact x
 |_,_,i+1,a,b,.cons _ t,e,e'=>t.get (i:=i) (by simpa using e) (by simpa using e')
theorem P2.getL{l m}{i:Nat}{a}(t:P2 F l m)(e:l[i]? = ab a):∃b,m[i]? = ab b/\F a b:=by
 have h:i<m.length:=by rw[<- t.len];exact(cu.mp e).1
 exact⟨m[i],by simp[h],t.get e (by simp[h])⟩
theorem P2.vZ{l m}{i:Nat}{b}(t:P2 F l m)(e:m[i]? = ab b):∃a,l[i]? = ab a/\F a b:=by
 have h:i<l.length:=by rw[t.len];exact(cu.mp e).1
 exact⟨l[i],by simp[h],t.get (by simp[h]) e⟩
theorem P2.take:∀{l m} (n:Nat),P2 F l m->P2 F (l.take n) (m.take n)
 |_,_,0,_=>.nil
 |_,_,_+1,.nil=>.nil
 |_,_,n+1,.cons x t=>.cons x (t.take n)
theorem P2.drop:∀{l m} (n:Nat),P2 F l m->P2 F (l.drop n) (m.drop n)
 |_,_,0,t=>t
 |_,_,_+1,.nil=>.nil
 |_,_,n+1,.cons _ t=>t.drop n
theorem P2.erase:∀{l m} (n:Nat),P2 F l m->P2 F (l.eraseIdx n) (m.eraseIdx n)
 |_,_,_,.nil=>.nil
 |_,_,0,.cons _ t=>t
 |_,_,n+1,.cons x t=>.cons x (t.erase n)
theorem P2.rev:∀{l m},P2 F l m->P2 F l.reverse m.reverse
 |_,_,.nil=>.nil
 |_,_,.cons x t=>by rw[rA,rA];exact t.rev.append (.cons x .nil)
theorem P2.dropLast:∀{l m},P2 F l m->P2 F l.dropLast m.dropLast
 |_,_,.nil=>.nil
 |_,_,.cons x .nil=>.nil
 |_,_,.cons x (.cons y t)=>.cons x (P2.dropLast (.cons y t))
end
def Lst(H:Hp)(a:ah)(xs:List V):Prop:=H a=ab (.lst xs)\/∃o,H a=ab (.frz o (.lst xs))
mutual
def Rep(H:Hp):D->V->Prop
 |.non,v=>v=.non
 |.bl b,v=>v=.bl b
 |.int i,v=>v=.int i
 |.str x,v=>v=.str x
 |.lst ds,v=>∃a xs,v=.ref a/\Lst H a xs/\bc H ds xs
 |.tup ds,v=>∃a xs,v=.ref a/\H a=ab (.tup xs)/\bc H ds xs
def bc(H:Hp):List D->List V->Prop
 |[],vs=>vs=[]
 |d::ds,vs=>∃v r,vs=v::r/\Rep H d v/\bc H ds r
end
theorem lI{H:Hp}:∀{ds:List D} {vs:List V},bc H ds vs↔P2 (Rep H) ds vs
 |[],vs=>by
  rw[bc];exact⟨λh=>by subst h;exact .nil,λh=>by cases h;rfl⟩
 |d::ds,vs=>by
  rw[bc];constructor
  ·rintro⟨v,r,rfl,p,q⟩;exact .cons p (lI.mp q)
  ·intro h;cases h with
   |cons p q=>exact⟨_,_,rfl,p,lI.mpr q⟩
@[simp] theorem Ed {H:Hp} {v:V}:Rep H .non v↔v=.non:=by rw[Rep]
@[simp] theorem qx {H:Hp} {v:V} {b:Bool}:Rep H (.bl b) v↔v=.bl b:=by rw[Rep]
@[simp] theorem ox {H:Hp} {v:V} {b:Int}:Rep H (.int b) v↔v=.int b:=by rw[Rep]
@[simp] theorem mS {H:Hp} {v:V} {b:Str}:Rep H (.str b) v↔v=.str b:=by rw[Rep]
theorem lC{H:Hp}{v:V}{ds:List D}:Rep H (.lst ds) v↔∃a xs,v=.ref a/\Lst H a xs/\P2 (Rep H) ds xs:=by rw[Rep];exact⟨λ⟨a,xs,e,l,r⟩=>⟨a,xs,e,l,lI.mp r⟩,λ⟨a,xs,e,l,r⟩=>⟨a,xs,e,l,lI.mpr r⟩⟩
theorem js{H:Hp}{v:V}{ds:List D}:Rep H (.tup ds) v↔∃a xs,v=.ref a/\H a=ab (.tup xs)/\P2 (Rep H) ds xs:=by rw[Rep];exact⟨λ⟨a,xs,e,l,r⟩=>⟨a,xs,e,l,lI.mp r⟩,λ⟨a,xs,e,l,r⟩=>⟨a,xs,e,l,lI.mpr r⟩⟩
theorem Lst.same{H H':Hp}{a:ah}{xs:List V}(s:cK H H')(h:Lst H a xs):Lst H' a xs:=by
 rcases h with h|⟨o,h⟩
 ·exact .inl (s _ _ h)
 ·exact .inr ⟨o,s _ _ h⟩
theorem Lst.sq{K:aE}{H:Hp}{a:ah}{xs:List V}(h:Lst H a xs):eS K H a xs:=.inl h
mutual
theorem oS{H H':Hp}(s:cK H H'):∀{d:D} {v:V},Rep H d v->Rep H' d v
 |.non,v,h=>by rw[Rep]at h ⊢;exact h
 |.bl b,v,h=>by rw[Rep]at h ⊢;exact h
 |.int i,v,h=>by rw[Rep]at h ⊢;exact h
 |.str x,v,h=>by rw[Rep]at h ⊢;exact h
 |.lst ds,v,h=>by
  rw[Rep]at h ⊢;obtain⟨a,xs,e,q,r⟩:=h;exact⟨a,xs,e,q.same s,vq s r⟩
 |.tup ds,v,h=>by
  rw[Rep]at h ⊢;obtain⟨a,xs,e,q,r⟩:=h;exact⟨a,xs,e,s _ _ q,vq s r⟩
theorem vq{H H':Hp}(s:cK H H'):∀{ds:List D} {vs:List V},bc H ds vs->bc H' ds vs
 |[],vs,h=>by rw[bc]at h ⊢;exact h
 |d::ds,vs,h=>by
  rw[bc]at h ⊢;obtain⟨v,r,e,p,q⟩:=h;exact⟨v,r,e,oS s p,vq s q⟩
end
theorem fe{H H':Hp}(s:cK H H'){ds:List D}{vs:List V}(h:P2 (Rep H) ds vs):P2 (Rep H') ds vs:=h.imp λ_ _=>oS s
mutual
theorem lP(K:aE){H:Hp}:∀{d:D} {v:V},Rep H d v->L2.Rep K H d v
 |.non,v,h=>by rw[Rep]at h;rw[L2.Rep];exact h
 |.bl b,v,h=>by rw[Rep]at h;rw[L2.Rep];exact h
 |.int i,v,h=>by rw[Rep]at h;rw[L2.Rep];exact h
 |.str x,v,h=>by rw[Rep]at h;rw[L2.Rep];exact h
 |.lst ds,v,h=>by
  rw[Rep]at h;rw[L2.Rep];obtain⟨a,xs,e,q,r⟩:=h;exact⟨a,xs,e,q.sq,ww K r⟩
 |.tup ds,v,h=>by
  rw[Rep]at h;rw[L2.Rep];obtain⟨a,xs,e,q,r⟩:=h;exact⟨a,xs,e,.inl (.inl q),ww K r⟩
theorem ww(K:aE){H:Hp}:∀{ds:List D} {vs:List V},bc H ds vs->L2.bc K H ds vs
 |[],vs,h=>by rw[bc]at h;rw[L2.bc];exact h
 |d::ds,vs,h=>by
  rw[bc]at h;rw[L2.bc];obtain⟨v,r,e,p,q⟩:=h;exact⟨v,r,e,lP K p,ww K q⟩
end
def NT:HO->Prop
 |.tbl _ _=>False
 |_=>True
def NW:HO->Prop
 |.tbl _ _=>False
 |.frz _ (.lst _)=>False
 |_=>True
theorem NW.nt:∀{o:HO},NW o->NT o:=λ{o} c=>by cases o<;>first|exact c.elim|trivial
structure Old(H H':Hp):Prop where
 nt:∀a o,H a=ab o->NT o->H' a=ab o
 dom:∀a,H' a=ae->H a=ae
 tb:∀a w ps,H a=ab (.tbl w ps)->∃ps',H' a=ab (.tbl w ps')
theorem Old.at{H H':Hp}(s:Old H H'){a:ah}{o:HO}(q:H a=ab o)(n:NT o:=by trivial):H' a=ab o:=s.nt a o q n
theorem Old.free{H H':Hp}(s:Old H H'){a:ah}(h:H' a=ae):H a=ae:=s.dom a h
theorem Old.refl(H:Hp):Old H H:=⟨λ_ _ e _=>e,λ_ e=>e,λ_ _ ps e=>⟨ps,e⟩⟩
theorem Old.trans{H H1 H2:Hp}(a:Old H H1)(b:Old H1 H2):Old H H2:=⟨λx o e n=>b.nt x o (a.nt x o e n) n,λx e=>a.dom x (b.dom x e),λx w ps e=>let ⟨p1,e1⟩:=a.tb x w ps e;b.tb x w p1 e1⟩
theorem Old.of{H H':Hp}(s:cK H H'):Old H H':=⟨λa o e _=>s a o e,λa e=>s.free e,λa w ps e=>⟨ps,s a _ e⟩⟩
theorem Old.tab{H H':Hp}(s:Old H H'){a:ah}{w:Str}{ps:Array ag}{o:HO}(q:H a=ab (.tbl w ps))(n:NT o):¬ H' a=ab o:=λe=>by
 obtain⟨p,z⟩:=s.tb a w ps q;rw[e]at z;cases z;exact n
theorem Old.put{H0 H:Hp}(s:Old H0 H){p:ah}{o u:HO}(h0:H0 p=ae)(h:H p=ab u):Old H0 (upd H p o):=
 ⟨λa v e n=>by rw[aC (cJ e h0)];exact s.nt a v e n,λa e=>by
  by_cases hp:a=p
  ·subst hp;exact h0
  ·rw[aC hp]at e;exact s.dom a e,λa w ps e=>by rw[aC (cJ e h0)];exact s.tb a w ps e⟩
def ip(c:ah)(q:Str):aI->Prop:=λh=>∃o vs t,h.get? c=ab o/\o.data=.fields vs/\vs[1]? = ab (.str q t)
class bE where
 l:List (ah×Str)
 cl:String->ah
variable[Tb:bE]
structure iC(H:Hp):Prop where
 has:∀p∈Tb.l,∃ps,H p.1=ab (.tbl p.2 ps)
 cd:∀T q ps,H T=ab (.tbl q ps)->rq ps.toList/\∀pos v,codeAmong pos ps.toList=ab v->∃c,v=.ref c/\H c=ab (.ext (ip c q))
 fz:∀a o xs,H a=ab (.frz o (.lst xs))->∀x∈xs,∃i,x=V.int i
theorem iC.new{H:Hp}(k:iC H){p:ah}{o:HO}(h:H p=ae)(n:NW o):iC (upd H p o):=⟨λr hr=>let ⟨ps,e⟩:=k.has r hr;⟨ps,by rw[aC (cJ e h)];exact e⟩,λT q ps e=>by
 by_cases hp:T=p
 ·subst hp;rw[bj]at e;cases e;exact n.elim
 ·rw[aC hp]at e;obtain⟨t,r⟩:=k.cd T q ps e;refine⟨t,λpos v z=>?_⟩;obtain⟨c,e1,e2⟩:=r pos v z;exact⟨c,e1,by rw[aC (cJ e2 h)];exact e2⟩,λa q xs e=>by
 by_cases hp:a=p
 ·subst hp;rw[bj]at e;cases e;exact n.elim
 ·rw[aC hp]at e;exact k.fz a q xs e⟩
def Cell:HO->Prop
 |.lst _=>True
 |.dK _=>True
 |.dT _=>True
 |.ext _=>True
 |_=>False
theorem Cell.nw:∀{o:HO},Cell o->NW o:=λ{o} c=>by cases o<;>first|exact c.elim|trivial
theorem Cell.nt:∀{o:HO},Cell o->NT o:=λ{o} c=>by cases o<;>first|exact c.elim|trivial
def tI:HO->Prop
 |.lst _=>True
 |.dK _=>True
 |.dT _=>True
 |_=>False
theorem tI.cell:∀{o:HO},tI o->Cell o:=λ{o} c=>by cases o<;>first|exact c.elim|trivial
theorem iC.put{H:Hp}(k:iC H){p:ah}{o u:HO}(h:H p=ab u)(c:tI u)(n:NW o):iC (upd H p o):=⟨λr hr=>let ⟨ps,e⟩:=k.has r hr;⟨ps,by rw[aC (λy=>by rw[y,h]at e;cases e;exact c.elim)];exact e⟩,λT q ps e=>by
 by_cases hp:T=p
 ·subst hp;rw[bj]at e;cases e;exact n.elim
 ·rw[aC hp]at e;obtain⟨t,r⟩:=k.cd T q ps e;refine⟨t,λpos v z=>?_⟩;obtain⟨x,e1,e2⟩:=r pos v z;refine⟨x,e1,?_⟩;rw[aC (λy=>by subst y;rw[h]at e2;cases e2;exact c.elim)];exact e2,λa q xs e=>by
 by_cases hp:a=p
 ·subst hp;rw[bj]at e;cases e;exact n.elim
 ·rw[aC hp]at e;exact k.fz a q xs e⟩
structure Vw(H Hv:Hp):Prop where
 sub:cK Hv H
 tup:∀a xs,H a=ab (.tup xs)->Hv a=ab (.tup xs)
 frz:∀a o u,H a=ab (.frz o u)->Hv a=ab (.frz o u)
 cd:iC H
 nv:∀a o,Hv a=ab o->NT o
structure bb(H Hv H' Hv':Hp):Prop where
 old:Old H H'
 vis:cK Hv Hv'
 vw:Vw H' Hv'
 hid:∀a o,H a=ab o->Hv a=ae->Hv' a=ae
theorem bb.refl{H Hv:Hp}(v:Vw H Hv):bb H Hv H Hv:=⟨Old.refl _,cK.refl _,v,λ_ _ _ e=>e⟩
theorem Old.some{H H':Hp}(s:Old H H'){a:ah}{o:HO}(q:H a=ab o):∃o',H' a=ab o':=by
 cases h:H' a with
 |none=>rw[s.dom a h]at q;cases q
 |some o'=>exact⟨o',rfl⟩
theorem bb.trans{H Hv H1 Hv1 H2 Hv2:Hp}(g:bb H Hv H1 Hv1)(k:bb H1 Hv1 H2 Hv2):bb H Hv H2 Hv2:=⟨g.old.trans k.old,g.vis.trans k.vis,k.vw,λa o e n=>let ⟨o',e'⟩:=g.old.some e;k.hid a o' e' (g.hid a o e n)⟩
theorem oD{H Hv:Hp}(v:Vw H Hv){p:ah}(h:H p=ae):Hv p=ae:=v.sub.free h
theorem bb.new{H Hv:Hp}(v:Vw H Hv){p:ah}{o:HO}(h:H p=ae)(nt:NW o:=by trivial):bb H Hv (upd H p o) (upd Hv p o):=by
 refine⟨.of (ss h),ss (oD v h),⟨λb u e=>?_,λb xs e=>?_,λb q u e=>?_,v.cd.new h nt,λb u e=>?_⟩,λb u e n=>?_⟩
 ·by_cases hb:b=p
  ·subst hb;rw[bj]at e ⊢;exact e
  ·rw[aC hb]at e ⊢;exact v.sub b u e
 ·by_cases hb:b=p
  ·subst hb;rw[bj]at e ⊢;exact e
  ·rw[aC hb]at e ⊢;exact v.tup b xs e
 ·by_cases hb:b=p
  ·subst hb;rw[bj]at e ⊢;exact e
  ·rw[aC hb]at e ⊢;exact v.frz b q u e
 ·by_cases hb:b=p
  ·subst hb;rw[bj]at e;cases e;exact nt.nt
  ·rw[aC hb]at e;exact v.nv b u e
 ·rw[aC (cJ e h)];exact n
theorem bb.qf{H Hv:Hp}(v:Vw H Hv){p:ah}{o:HO}(c:Cell o)(h:H p=ae):bb H Hv (upd H p o) Hv:=by
 refine⟨.of (ss h),cK.refl _,⟨λb u e=>?_,λb xs e=>?_,λb q u e=>?_,v.cd.new h c.nw,v.nv⟩,λb u e n=>n⟩
 ·rw[aC (cJ (v.sub b u e) h)];exact v.sub b u e
 ·by_cases hb:b=p
  ·subst hb;rw[bj]at e;cases e;exact c.elim
  ·rw[aC hb]at e;exact v.tup b xs e
 ·by_cases hb:b=p
  ·subst hb;rw[bj]at e;cases e;exact c.elim
  ·rw[aC hb]at e;exact v.frz b q u e
theorem Vw.show{H Hv:Hp}(v:Vw H Hv){a:ah}{o:HO}(h:H a=ab o)(n:Hv a=ae)(nt:NT o):Vw H (upd Hv a o)/\cK Hv (upd Hv a o):=by
 refine⟨⟨λb u e=>?_,λb xs e=>?_,λb q u e=>?_,v.cd,λb u e=>?_⟩,ss n⟩
 ·by_cases hb:b=a
  ·subst hb;rw[bj]at e;rw[h];exact e
  ·rw[aC hb]at e;exact v.sub b u e
 ·by_cases hb:b=a
  ·subst hb;rw[bj];rw[h]at e;exact e
  ·rw[aC hb];exact v.tup b xs e
 ·by_cases hb:b=a
  ·subst hb;rw[bj];rw[h]at e;exact e
  ·rw[aC hb];exact v.frz b q u e
 ·by_cases hb:b=a
  ·subst hb;rw[bj]at e;cases e;exact nt
  ·rw[aC hb]at e;exact v.nv b u e
theorem Lst.old{H H':Hp}{a:ah}{xs:List V}(s:Old H H')(h:Lst H a xs):Lst H' a xs:=by
 rcases h with h|⟨o,h⟩
 ·exact .inl (s.at h)
 ·exact .inr ⟨o,s.at h⟩
mutual
theorem Nv{H H':Hp}(t:∀a xs,H a=ab (.tup xs)->H' a=ab (.tup xs)):∀{d:D} {v:V},Mi.lD d=true->Rep H d v->Rep H' d v
 |.non,v,_,h=>by rw[Rep]at h ⊢;exact h
 |.bl b,v,_,h=>by rw[Rep]at h ⊢;exact h
 |.int i,v,_,h=>by rw[Rep]at h ⊢;exact h
 |.str x,v,_,h=>by rw[Rep]at h ⊢;exact h
 |.lst ds,v,z,h=>by rw[Mi.lD]at z;cases z
 |.tup ds,v,z,h=>by
  rw[Mi.lD]at z;rw[Rep]at h ⊢;obtain⟨a,xs,e,q,r⟩:=h;exact⟨a,xs,e,t _ _ q,yh t z r⟩
theorem yh{H H':Hp}(t:∀a xs,H a=ab (.tup xs)->H' a=ab (.tup xs)):∀{ds:List D} {vs:List V},Mi.j4 ds=true->bc H ds vs->bc H' ds vs
 |[],vs,_,h=>by rw[bc]at h ⊢;exact h
 |d::ds,vs,z,h=>by
  rw[Mi.j4,g6]at z;rw[bc]at h ⊢;obtain⟨v,r,e,p,q⟩:=h;exact⟨v,r,e,Nv t z.1 p,yh t z.2 q⟩
end
def fc{κ:Type}(H:Hp)(am:List (κ×D))(kv:List (κ×V)):Prop:=P2 (λp q=>p.1=q.1/\Rep H p.2 q.2) am kv
theorem fc.same{κ:Type}{H H':Hp}(s:cK H H'){am:List (κ×D)}{kv:List (κ×V)}(h:fc H am kv):fc H' am kv:=P2.imp (λ_ _ z=>⟨z.1,oS s z.2⟩) h
def eG(Hv:Hp):W->HO->Prop
 |.d (.lst ds),.lst xs=>P2 (Rep Hv) ds xs
 |.dk am,.dK kv=>fc Hv am kv
 |.dt am,.dT kv=>fc Hv am kv
 |_,_=>False
theorem eG.same{H H':Hp}(s:cK H H'):∀{w:W} {o:HO},eG H w o->eG H' w o:=λ{w o} h=>by
 cases w with
 |d x=>
  cases x with
  | lst ds=>cases o with
   |lst xs=>exact fe s h
   |_=>exact h.elim
  |_=>cases o<;>exact h.elim
 | dk am=>cases o with
  |dK kv=>exact fc.same s h
  |_=>exact h.elim
 | dt am=>cases o with
  |dT kv=>exact fc.same s h
  |_=>exact h.elim
 |df am=>exact h.elim
 |ex c=>exact h.elim
 |fn c=>exact h.elim
theorem eG.Hg{H:Hp}{w:W}{o:HO}(h:eG H w o):tI o:=by
 cases w with
 |d x=>
  cases x with
  | lst ds=>cases o with
   |lst xs=>trivial
   |_=>exact h.elim
  |_=>cases o<;>exact h.elim
 | dk am=>cases o with
  |dK kv=>trivial
  |_=>exact h.elim
 | dt am=>cases o with
  |dT kv=>trivial
  |_=>exact h.elim
 |df am=>exact h.elim
 |ex c=>exact h.elim
 |fn c=>exact h.elim
theorem eG.cell{H:Hp}{w:W}{o:HO}(h:eG H w o):Cell o:=h.Hg.cell
theorem eG.nw{H:Hp}{w:W}{o:HO}(h:eG H w o):NW o:=h.cell.nw
theorem eG.nt{H:Hp}{w:W}{o:HO}(h:eG H w o):NT o:=h.cell.nt
def ET(a C:ah):aI->Prop:=λh=>∃o,h.get? a=ab o/\o.cls=.ref C/\o.dict=ae/\∃vs,o.data=.fields vs
def gP(H:Hp):W->V->Prop
 |.d x,v=>Rep H x v
 |.dk am,v=>∃a kv,v=.ref a/\H a=ab (.dK kv)/\fc H am kv
 |.dt am,v=>∃a kv,v=.ref a/\H a=ab (.dT kv)/\fc H am kv
 |.df am,v=>∃a ob kv,v=.ref a/\H a=ab (.frz ob (.dT kv))/\fc H am kv
 |.ex c,v=>∃a,v=.ref a/\H a=ab (.ext (ET a (Tb.cl c)))
 |.fn a,v=>v=.ref a
theorem oB{H H':Hp}(s:cK H H'):∀{w:W} {v:V},gP H w v->gP H' w v
 |.d x,v,h=>oS (d:=x) s h
 |.dk am,v,⟨a,kv,e,q,r⟩=>⟨a,kv,e,s _ _ q,r.same s⟩
 |.dt am,v,⟨a,kv,e,q,r⟩=>⟨a,kv,e,s _ _ q,r.same s⟩
 |.df am,v,⟨a,ob,kv,e,q,r⟩=>⟨a,ob,kv,e,s _ _ q,r.same s⟩
 |.ex c,v,⟨a,e,q⟩=>⟨a,e,s _ _ q⟩
 |.fn a,v,h=>h
theorem ve{H:Hp}{w:W}{a:ah}{o:HO}(h:H a=ab o)(c:eG H w o):gP H w (.ref a):=by
 cases w with
 |d x=>
  cases x with
  | lst ds=>cases o with
   |lst xs=>exact lC.mpr ⟨a,xs,rfl,.inl h,c⟩
   |_=>exact c.elim
  |_=>cases o<;>exact c.elim
 | dk am=>cases o with
  |dK kv=>exact⟨a,kv,rfl,h,c⟩
  |_=>exact c.elim
 | dt am=>cases o with
  |dT kv=>exact⟨a,kv,rfl,h,c⟩
  |_=>exact c.elim
 |df am=>exact c.elim
 |ex z=>exact c.elim
 |fn z=>exact c.elim
def Own(H Hv:Hp)(w:W)(v:V):Prop:=∃a o,v=.ref a/\H a=ab o/\Hv a=ae/\eG Hv w o
def RB(H Hv:Hp)(w:W)(v:V):Prop:=gP Hv w v\/∃a o,v=.ref a/\H a=ab o/\eG Hv w o
theorem RB.grow{H Hv H' Hv':Hp}(g:bb H Hv H' Hv'){w:W}{v:V}(h:RB H Hv w v):RB H' Hv' w v:=by
 rcases h with h|⟨a,o,e,q,c⟩
 ·exact .inl (oB g.vis h)
 ·exact .inr ⟨a,o,e,g.old.at q c.nt,c.same g.vis⟩
theorem Own.grow{H Hv H' Hv':Hp}(g:bb H Hv H' Hv'){w:W}{v:V}(h:Own H Hv w v):Own H' Hv' w v:=by obtain⟨a,o,e,q,n,c⟩:=h;exact⟨a,o,e,g.old.at q c.nt,g.hid _ _ q n,c.same g.vis⟩
theorem RB.full{H Hv:Hp}(v:Vw H Hv){w:W}{x:V}(h:RB H Hv w x):gP H w x:=by
 rcases h with h|⟨a,o,rfl,q,c⟩
 ·exact oB v.sub h
 ·exact ve q (c.same v.sub)
abbrev RD(H Hv:Hp)(d:D)(v:V):Prop:=RB H Hv (.d d) v
theorem RD.sV{H Hv:Hp}{d:D}{v:V}(h:RD H Hv d v)(n:∀ds,d≠.lst ds):Rep Hv d v:=by
 rcases h with h|⟨a,o,e,q,c⟩
 ·exact h
 ·cases d with
  |lst ds=>exact absurd rfl (n ds)
  |_=>cases o<;>exact c.elim
theorem RD.lst{H Hv:Hp}(w:Vw H Hv){ds:List D}{v:V}(h:RD H Hv (.lst ds) v):∃a xs,v=.ref a/\Lst H a xs/\P2 (Rep Hv) ds xs:=by
 rcases h with h|⟨a,o,e,q,c⟩
 ·obtain⟨a,xs,e,l,r⟩:=lC.mp h;exact⟨a,xs,e,l.same w.sub,r⟩
 ·cases o with
  |lst xs=>exact⟨a,xs,e,.inl q,c⟩
  |_=>exact c.elim
theorem RD.tup{H Hv:Hp}(w:Vw H Hv){ds:List D}{v:V}(h:RD H Hv (.tup ds) v):∃a xs,v=.ref a/\H a=ab (.tup xs)/\Hv a=ab (.tup xs)/\P2 (Rep Hv) ds xs:=by obtain⟨a,xs,e,l,r⟩:=js.mp (h.sV λ_ z=>by cases z);exact⟨a,xs,e,w.sub _ _ l,l,r⟩
theorem RD.int{H Hv:Hp}{i:Int}{v:V}(h:RD H Hv (.int i) v):v=.int i:=ox.mp (h.sV λ_ z=>by cases z)
theorem RD.str{H Hv:Hp}{i:Str}{v:V}(h:RD H Hv (.str i) v):v=.str i:=mS.mp (h.sV λ_ z=>by cases z)
theorem RD.bl{H Hv:Hp}{i:Bool}{v:V}(h:RD H Hv (.bl i) v):v=.bl i:=qx.mp (h.sV λ_ z=>by cases z)
theorem RD.non{H Hv:Hp}{v:V}(h:RD H Hv .non v):v=.non:=Ed.mp (h.sV λ_ z=>by cases z)
theorem RD.full{H Hv:Hp}(v:Vw H Hv){d:D}{x:V}(h:RD H Hv d x):Rep H d x:=RB.full v h
abbrev Kd:=Hp->Hp->Hp->W->V->Prop
def qP:Kd:=λ_ H' Hv' w v=>RB H' Hv' w v
def qV:Kd:=λ_ _ Hv' w v=>gP Hv' w v
def qN:Kd:=λH H' Hv' w v=>∃a o,v=.ref a/\H a=ae/\H' a=ab o/\Hv' a=ae/\eG Hv' w o
theorem ig{H H' Hv':Hp}{i:Int}:qV H H' Hv' (.d (.int i)) (.int i):=(ox (H:=Hv')).mpr rfl
theorem sR{H H' Hv':Hp}{i:Str}:qV H H' Hv' (.d (.str i)) (.str i):=(mS (H:=Hv')).mpr rfl
theorem fE{H H' Hv':Hp}{i:Bool}:qV H H' Hv' (.d (.bl i)) (.bl i):=(qx (H:=Hv')).mpr rfl
theorem Ek{H H' Hv':Hp}:qV H H' Hv' (.d .non) .non:=(Ed (H:=Hv')).mpr rfl
class KM (κ:Kd):Prop where
 mono:∀{H H1 H' Hv' w v},Old H H1->κ H1 H' Hv' w v->κ H H' Hv' w v
instance:KM qP:=⟨λ_ h=>h⟩
instance:KM qV:=⟨λ_ h=>h⟩
instance:KM qN:=⟨λs ⟨a,o,e,n,r⟩=>⟨a,o,e,s.free n,r⟩⟩
structure R0(M:Nat->Bool)(e:Mi.Env)(σ:L2.St)(H Hv:Hp):Prop where
 vw:Vw H Hv
 len:σ.length=e.length
 nob:∀i w,e[i]? = ab (ab w)->M i=false->∃v,σ[i]? = ab (ab v)/\gP Hv w v
 own:∀i w,e[i]? = ab (ab w)->M i=true->∃v,σ[i]? = ab (ab v)/\Own H Hv w v
theorem R0.grow{M:Nat->Bool}{e:Mi.Env}{σ:L2.St}{H Hv H' Hv':Hp}(r:R0 M e σ H Hv)(g:bb H Hv H' Hv'):R0 M e σ H' Hv':=⟨g.vw,r.len,λi w h m=>let ⟨v,q,z⟩:=r.nob i w h m;⟨v,q,oB g.vis z⟩,λi w h m=>let ⟨v,q,z⟩:=r.own i w h m;⟨v,q,z.grow g⟩⟩
structure R1(M:Nat->Bool)(H0 Hv0:Hp)(e:Mi.Env)(σ:L2.St)(H Hv:Hp):Prop extends R0 M e σ H Hv where
 gw:bb H0 Hv0 H Hv
 fresh:∀i w a,e[i]? = ab (ab w)->M i=true->σ[i]? = ab (ab (.ref a))->H0 a=ae
 sep:∀i j w w' a b,i≠j->e[i]? = ab (ab w)->e[j]? = ab (ab w')->M i=true->M j=true->σ[i]? = ab (ab (.ref a))->σ[j]? = ab (ab (.ref b))->a≠b
theorem R1.grow{M:Nat->Bool}{H0 Hv0:Hp}{e:Mi.Env}{σ:L2.St}{H Hv H' Hv':Hp}(r:R1 M H0 Hv0 e σ H Hv)(g:bb H Hv H' Hv'):R1 M H0 Hv0 e σ H' Hv':=⟨r.toR0.grow g,r.gw.trans g,r.fresh,r.sep⟩
end A
namespace A
open PySem L2 PyProof.Rows
open Mi (D W Rs Fin au)
variable[Tb:bE]
abbrev qA:=Mi.Env
class KG (κ:Kd):Prop where
 go:∀{H H1 Hv1 H2 Hv2 w v},bb H1 Hv1 H2 Hv2->κ H H1 Hv1 w v->κ H H2 Hv2 w v
instance:KG qP:=⟨λg h=>h.grow g⟩
instance:KG qV:=⟨λg h=>oB g.vis h⟩
instance:KG qN:=⟨λg ⟨a,o,e,n,q,z,c⟩=>⟨a,o,e,n,g.old.at q c.nt,g.hid _ _ q z,c.same g.vis⟩⟩
def AW(M:Nat->Bool)(κ:Kd)(t:TE)(m:Mi.EW):Prop:=∀e σ H Hv Q,R0 M e σ H Hv->Fin (m e) (λw=>∀v H' Hv',bb H Hv H' Hv'->κ H H' Hv' w v->Q v H')->t σ H Q
def AE(M:Nat->Bool)(κ:Kd)(t:TE)(m:Mi.E):Prop:=∀e σ H Hv Q,R0 M e σ H Hv->Fin (m e) (λd=>∀v H' Hv',bb H Hv H' Hv'->κ H H' Hv' (.d d) v->Q v H')->t σ H Q
def AT(M:Nat->Bool)(t:TT)(m:Mi.C):Prop:=∀e σ H Hv Q,R0 M e σ H Hv->Fin (m e) (λb=>∀H' Hv',bb H Hv H' Hv'->Q b H')->t σ H Q
def AA(M:Nat->Bool)(κ:Kd)(t:TA)(m:qA->Rs (List D)):Prop:=∀e σ H Hv Q,R0 M e σ H Hv->Fin (m e) (λds=>∀vs H' Hv',bb H Hv H' Hv'->P2 (λd v=>κ H H' Hv' (.d d) v) ds vs->Q vs H')->t σ H Q
def AAW(M:Nat->Bool)(κ:Kd)(t:TA)(m:qA->Rs (List W)):Prop:=∀e σ H Hv Q,R0 M e σ H Hv->Fin (m e) (λws=>∀vs H' Hv',bb H Hv H' Hv'->P2 (λw v=>κ H H' Hv' w v) ws vs->Q vs H')->t σ H Q
def AO(M:Nat->Bool)(t:TO)(m:qA->Rs (Option Int)):Prop:=∀e σ H Hv Q,R0 M e σ H Hv->Fin (m e) (λo=>∀H' Hv',bb H Hv H' Hv'->Q o H')->t σ H Q
section
variable{M:Nat->Bool}{κ:Kd}{t ta tb tc te:TE}{a b c:Mi.E}{r r':R2}{f g:D->D->Rs D}
theorem AE.w(h:AE M κ t a):AW M κ t (Mi.wD a):=λe σ H Hv Q I q=>h e σ H Hv Q I ((au.mp q).mono λd z=>z)
theorem EE{H H' Hv':Hp}{w:W}{v:V}(h:qV H H' Hv' w v):qP H H' Hv' w v:=.inl h
theorem PD{H H' Hv':Hp}{w:W}{v:V}(h:qN H H' Hv' w v):qP H H' Hv' w v:=by obtain⟨a,o,e,_,q,_,c⟩:=h;exact .inr ⟨a,o,e,q,c⟩
theorem ya{H Hv H' Hv':Hp}(g:bb H Hv H' Hv'){w:W}{v:V}(h:qN H H' Hv' w v):∃kE,bb H Hv H' kE/\gP kE w v:=by obtain⟨a,o,rfl,n,q,z,c⟩:=h;obtain⟨vw,s⟩:=g.vw.show q z c.nt;refine⟨upd Hv' a o,⟨g.old,g.vis.trans s,vw,λb u e m=>?_⟩,ve bj (c.same s)⟩;rw[aC (cJ e n)];exact g.hid b u e m
theorem AW.p(h:AW M qV t m):AW M qP t m:=λe σ H Hv Q I q=>h e σ H Hv Q I (q.mono λw z v H' Hv' g k=>z v H' Hv' g (EE k))
theorem AW.nv(h:AW M qN t m):AW M qV t m:=λe σ H Hv Q I q=>h e σ H Hv Q I (q.mono λw z v H' Hv' g k=>let ⟨kE,g',r⟩:=ya g k;z v H' kE g' r)
theorem AE.p(h:AE M qV t a):AE M qP t a:=λe σ H Hv Q I q=>h e σ H Hv Q I (q.mono λw z v H' Hv' g k=>z v H' Hv' g (EE k))
theorem AE.np(h:AE M qN t a):AE M qP t a:=λe σ H Hv Q I q=>h e σ H Hv Q I (q.mono λw z v H' Hv' g k=>z v H' Hv' g (PD k))
theorem AE.nv(h:AE M qN t a):AE M qV t a:=λe σ H Hv Q I q=>h e σ H Hv Q I (q.mono λw z v H' Hv' g k=>let ⟨kE,g',r⟩:=ya g k;z v H' kE g' r)
theorem aP{i:Int}:AE M qV (tC (.int i)) (Mi.mC (.int i)):=λe σ H Hv Q I h=>h _ H Hv (.refl I.vw) ig
theorem oF{i:Str}:AE M qV (tC (.str i)) (Mi.mC (.str i)):=λe σ H Hv Q I h=>h _ H Hv (.refl I.vw) sR
theorem fS{i:Bool}:AE M qV (tC (.bl i)) (Mi.mC (.bl i)):=λe σ H Hv Q I h=>h _ H Hv (.refl I.vw) fE
theorem LZ:AE M qV (tC .non) (Mi.mC .non):=λe σ H Hv Q I h=>h _ H Hv (.refl I.vw) Ek
theorem CY{e:qA}{i:Nat}{k:D->Prop}(h:Fin (Mi.mV i e) k):∃d,e[i]? = ab (ab (.d d))/\k d:=by
 unfold Mi.mV at h;split at h
 ·exact⟨_,‹_›,h⟩
 ·exact h.elim
theorem lV{e:qA}{i:Nat}{k:W->Prop}(h:Fin (Mi.wV i e) k):∃w,e[i]? = ab (ab w)/\k w:=by
 unfold Mi.wV at h;split at h
 ·exact⟨_,‹_›,h⟩
 ·exact h.elim
theorem Ev(i:Nat)(hm:M i=false):AE M qV (dM i) (Mi.mV i):=λe σ H Hv Q I h=>by
 obtain⟨d,he,k⟩:=CY h;obtain⟨v,q,z⟩:=I.nob i _ he hm;exact⟨v,q,k v H Hv (.refl I.vw) z⟩
theorem Qq{H Hv:Hp}{w:W}{v:V}(h:Own H Hv w v):RB H Hv w v:=by obtain⟨a,o,e,q,_,c⟩:=h;exact .inr ⟨a,o,e,q,c⟩
theorem R0.any{e:qA}{σ:L2.St}{H Hv:Hp}(I:R0 M e σ H Hv){i:Nat}{w:W}(he:e[i]? = ab (ab w)):∃v,σ[i]? = ab (ab v)/\RB H Hv w v:=by
 cases hm:M i with
 |false=>
  obtain⟨v,q,z⟩:=I.nob i w he hm;exact⟨v,q,.inl z⟩
 |true=>
  obtain⟨v,q,z⟩:=I.own i w he hm;exact⟨v,q,Qq z⟩
theorem ar(i:Nat):AE M qP (dM i) (Mi.mV i):=λe σ H Hv Q I h=>by
 obtain⟨d,he,k⟩:=CY h;obtain⟨v,q,z⟩:=I.any he;exact⟨v,q,k v H Hv (.refl I.vw) z⟩
theorem pi(i:Nat)(hm:M i=false):AW M qV (dM i) (Mi.wV i):=λe σ H Hv Q I h=>by
 obtain⟨d,he,k⟩:=lV h;obtain⟨v,q,z⟩:=I.nob i _ he hm;exact⟨v,q,k v H Hv (.refl I.vw) z⟩
theorem MK(i:Nat):AW M qP (dM i) (Mi.wV i):=λe σ H Hv Q I h=>by
 obtain⟨d,he,k⟩:=lV h;obtain⟨v,q,z⟩:=I.any he;exact⟨v,q,k v H Hv (.refl I.vw) z⟩
def B2(κ:Kd)(r:R2)(f:D->D->Rs D):Prop:=∀x y v u H Hv Q,Vw H Hv->RD H Hv x v->RD H Hv y u->Fin (f x y) (λd=>∀w H' Hv',bb H Hv H' Hv'->κ H H' Hv' (.d d) w->Q w H')->r v u H Q
def B1(κ:Kd)(r:V->Hp->VK->Prop)(f:D->Rs D):Prop:=∀x v H Hv Q,Vw H Hv->RD H Hv x v->Fin (f x) (λd=>∀w H' Hv',bb H Hv H' Hv'->κ H H' Hv' (.d d) w->Q w H')->r v H Q
def BN(κ:Kd)(r:List V->Hp->VK->Prop)(f:List D->Rs D):Prop:=∀ds vs H Hv Q,Vw H Hv->P2 (RD H Hv) ds vs->Fin (f ds) (λd=>∀w H' Hv',bb H Hv H' Hv'->κ H H' Hv' (.d d) w->Q w H')->r vs H Q
theorem aw[KM κ](hr:B2 κ r f)(ha:AE M qP ta a)(hb:AE M qP tb b):AE M κ (qK r ta tb) (Mi.m2 f a b):=λe σ H Hv Q I h=>
 ha e σ H Hv _ I ((au.mp h).mono λx hx v H1 Hv1 g1 rx=>hb e σ H1 Hv1 _ (I.grow g1) ((au.mp hx).mono λy hy u H2 Hv2 g2 ry=>
  hr x y v u H2 Hv2 Q g2.vw (RB.grow g2 rx) ry (hy.mono λd hd w H3 Hv3 g3 rw=>hd w H3 Hv3 (g1.trans (g2.trans g3)) (KM.mono (g1.old.trans g2.old) rw))))
theorem GF[KM κ]{r:V->Hp->VK->Prop}{f:D->Rs D}(hr:B1 κ r f)(ha:AE M qP ta a):AE M κ (GI r ta) (Mi.m1 f a):=λe σ H Hv Q I h=>
 ha e σ H Hv _ I ((au.mp h).mono λx hx v H1 Hv1 g1 rx=>hr x v H1 Hv1 Q g1.vw rx (hx.mono λd hd w H3 Hv3 g3 rw=>hd w H3 Hv3 (g1.trans g3) (KM.mono g1.old rw)))
theorem xS{x:D}{k:Bool->Prop}(h:Fin (Mi.oM x) k):∃b,x=.bl b/\k b:=by
 cases x with
 |bl b=>exact⟨b,rfl,h⟩
 |_=>exact h.elim
theorem Ae{x:D}{k:Int->Prop}(h:Fin (Mi.sk x) k):∃b,x=.int b/\k b:=by
 cases x with
 |int b=>exact⟨b,rfl,h⟩
 |_=>exact h.elim
theorem zR(ha:AE M qP ta a)(hb:AE M qV tb b):AE M qV (E9 ta tb) (Mi.mW a b):=λe σ H Hv Q I h=>
 ha e σ H Hv _ I ((au.mp h).mono λx hx v H1 Hv1 g1 rx=>by
  obtain⟨k,rfl,hk⟩:=xS (au.mp hx);cases RD.bl rx;refine⟨k,rfl,?_⟩;cases k with
  |true=>exact mE (hb e σ H1 Hv1 Q (I.grow g1) (Fin.mono (Mi.pc hk) λd hd w H2 Hv2 g2 rw=>hd w H2 Hv2 (g1.trans g2) rw))
  |false=>exact nq ((Mi.kR (Mi.oX hk)) _ H1 Hv1 g1 fE))
theorem zU(ha:AE M qP ta a)(hb:AE M qV tb b):AE M qV (FR ta tb) (Mi.jS a b):=λe σ H Hv Q I h=>
 ha e σ H Hv _ I ((au.mp h).mono λx hx v H1 Hv1 g1 rx=>by
  obtain⟨k,rfl,hk⟩:=xS (au.mp hx);cases RD.bl rx;refine⟨k,rfl,?_⟩;cases k with
  |false=>exact nq (hb e σ H1 Hv1 Q (I.grow g1) (Fin.mono (Mi.oX hk) λd hd w H2 Hv2 g2 rw=>hd w H2 Hv2 (g1.trans g2) rw))
  |true=>exact mE ((Mi.kR (Mi.pc hk)) _ H1 Hv1 g1 fE))
theorem pk:AO M GY (Mi.i4 ae):=λe σ H Hv Q I h=>h H Hv (.refl I.vw)
theorem oW(ha:AE M qP ta a):AO M (Go ta) (Mi.i4 (ab a)):=λe σ H Hv Q I h=>
 ha e σ H Hv _ I ((au.mp h).mono λx hx v H1 Hv1 g1 rx=>by
  obtain⟨i,rfl,hk⟩:=Ae (au.mp hx);exact⟨i,RD.int rx,hk H1 Hv1 g1⟩)
def BS(κ:Kd)(r:V->Option Int->Option Int->Hp->VK->Prop)(f:D->Option Int->Option Int->Rs D):Prop:=∀x lo hi v H Hv Q,Vw H Hv->RD H Hv x v->Fin (f x lo hi) (λd=>∀w H' Hv',bb H Hv H' Hv'->κ H H' Hv' (.d d) w->Q w H')->r v lo hi H Q
theorem pz[KM κ]{r:V->Option Int->Option Int->Hp->VK->Prop}{tl th:TO}{lo hi:Option Mi.E}{f:D->Option Int->Option Int->Rs D}(hr:BS κ r f)(ha:AE M qP ta a)(hl:AO M tl (Mi.i4 lo))(hh:AO M th (Mi.i4 hi)):AE M κ (EI r ta tl th) (Mi.d5 f a lo hi):=λe σ H Hv Q I h=>
 ha e σ H Hv _ I ((au.mp h).mono λx hx v H1 Hv1 g1 rx=>hl e σ H1 Hv1 _ (I.grow g1) ((au.mp hx).mono λl hl H2 Hv2 g2=>hh e σ H2 Hv2 _ (I.grow (g1.trans g2)) ((au.mp hl).mono λu hu H3 Hv3 g3=>
  hr x l u v H3 Hv3 Q g3.vw (RB.grow (g2.trans g3) rx) (hu.mono λd hd w H4 Hv4 g4 rw=>hd w H4 Hv4 (g1.trans (g2.trans (g3.trans g4))) (KM.mono (g1.old.trans (g2.old.trans g3.old)) rw)))))
theorem d0(ha:AE M qP ta a):AT M (tB ta) (Mi.cB a):=λe σ H Hv Q I h=>
 ha e σ H Hv _ I ((au.mp h).mono λx hx v H1 Hv1 g1 rx=>by
  obtain⟨k,rfl,hk⟩:=xS hx;exact⟨k,RD.bl rx,hk H1 Hv1 g1⟩)
theorem dB(ha:AE M qP ta a):AT M (F2 ta) (Mi.cB a):=d0 ha
theorem HF{K:aE}(ha:AE M qP ta a):AT M (λσ H Q=>ta σ H λx H'=>∃k,xU K x H' k/\Q k H') (Mi.mZ a):=λe σ H Hv Q I h=>
 ha e σ H Hv _ I ((au.mp h).mono λx hx v H1 Hv1 g1 rx=>by
  cases x with
  |non=>cases RD.non rx;exact⟨false,rfl,hx H1 Hv1 g1⟩
  |bl b=>cases RD.bl rx;exact⟨b,rfl,hx H1 Hv1 g1⟩
  |int i=>cases RD.int rx;exact⟨_,rfl,hx H1 Hv1 g1⟩
  |str y=>
   cases RD.str rx;obtain⟨hz,hq⟩:=Mi.cr hx;exact⟨_,⟨by rw[b9];exact hz,rfl⟩,hq H1 Hv1 g1⟩
  |lst ds=>
   obtain⟨p,xs,rfl,l,r⟩:=RD.lst g1.vw rx;refine⟨!xs.isEmpty,.inl ⟨xs,l.sq,rfl⟩,?_⟩;have:ds.isEmpty=xs.isEmpty:=by cases r<;>rfl
   rw[<- this];exact hx H1 Hv1 g1
  |tup ds=>
   obtain⟨p,xs,rfl,l,_,r⟩:=RD.tup g1.vw rx;refine⟨!xs.isEmpty,.inr (.inl ⟨xs,.inl (.inl l),rfl⟩),?_⟩;have:ds.isEmpty=xs.isEmpty:=by cases r<;>rfl
   rw[<- this];exact hx H1 Hv1 g1)
variable{tt uu:TT}{k l:Mi.C}
theorem ni(ha:AT M tt k)(hb:AT M uu l):AT M (DN tt uu) (Mi.dY k l):=λe σ H Hv Q I h=>
 ha e σ H Hv _ I ((au.mp h).mono λx hx H1 Hv1 g1=>by
  cases x with
  |true=>exact mE (hb e σ H1 Hv1 Q (I.grow g1) (Fin.mono (Mi.pc hx) λb hd H2 Hv2 g2=>hd H2 Hv2 (g1.trans g2)))
  |false=>exact nq ((Mi.kR (Mi.oX hx)) H1 Hv1 g1))
theorem kO(ha:AT M tt k)(hb:AT M uu l):AT M (DV tt uu) (Mi.dQ k l):=λe σ H Hv Q I h=>
 ha e σ H Hv _ I ((au.mp h).mono λx hx H1 Hv1 g1=>by
  cases x with
  |false=>exact nq (hb e σ H1 Hv1 Q (I.grow g1) (Fin.mono (Mi.oX hx) λb hd H2 Hv2 g2=>hd H2 Hv2 (g1.trans g2)))
  |true=>exact mE ((Mi.kR (Mi.pc hx)) H1 Hv1 g1))
theorem jJ(ha:AT M tt k):AT M (G3 tt) (Mi.dm k):=λe σ H Hv Q I h=>
 ha e σ H Hv _ I ((au.mp h).mono λx hx H1 Hv1 g1=>hx H1 Hv1 g1)
theorem jV:AT M FS Mi.cO:=λe σ H Hv Q I h=>h H Hv (.refl I.vw)
variable{tr:TA}{as:List Mi.E}{ws:List Mi.EW}
theorem a7:AA M κ f6 (Mi.fN []):=λe σ H Hv Q I h=>h [] H Hv (.refl I.vw) .nil
theorem aB[KM κ][KG κ](ha:AE M κ ta a)(hr:AA M κ tr (Mi.fN as)):AA M κ (fu ta tr) (Mi.fN (a::as)):=λe σ H Hv Q I h=>
 ha e σ H Hv _ I ((au.mp h).mono λx hx v H1 Hv1 g1 rx=>hr e σ H1 Hv1 _ (I.grow g1) ((au.mp hx).mono λxs hs vs H2 Hv2 g2 rs=>
  hs (v::vs) H2 Hv2 (g1.trans g2) (.cons (KG.go g2 rx) (rs.imp λ_ _ z=>KM.mono g1.old z))))
theorem bY:AAW M κ f6 (Mi.cP []):=λe σ H Hv Q I h=>h [] H Hv (.refl I.vw) .nil
theorem aV[KM κ][KG κ]{w:Mi.EW}(ha:AW M κ ta w)(hr:AAW M κ tr (Mi.cP ws)):AAW M κ (fu ta tr) (Mi.cP (w::ws)):=λe σ H Hv Q I h=>
 ha e σ H Hv _ I ((au.mp h).mono λx hx v H1 Hv1 g1 rx=>hr e σ H1 Hv1 _ (I.grow g1) ((au.mp hx).mono λxs hs vs H2 Hv2 g2 rs=>
  hs (v::vs) H2 Hv2 (g1.trans g2) (.cons (KG.go g2 rx) (rs.imp λ_ _ z=>KM.mono g1.old z))))
theorem fA[KM κ]{r:List V->Hp->VK->Prop}{f:List D->Rs D}(hr:BN κ r f)(ha:AA M qP tr (Mi.fN as)):AE M κ (lf r tr) (Mi.mN f as):=λe σ H Hv Q I h=>
 ha e σ H Hv _ I ((au.mp h).mono λds hx vs H1 Hv1 g1 rx=>hr ds vs H1 Hv1 Q g1.vw rx (hx.mono λd hd w H3 Hv3 g3 rw=>hd w H3 Hv3 (g1.trans g3) (KM.mono g1.old rw)))
theorem cp(ha:AA M qV tr (Mi.fN as)):AE M qV (zh tr) (Mi.mN Mi.dTup as):=λe σ H Hv Q I h=>
 ha e σ H Hv _ I ((au.mp h).mono λds hx vs H1 Hv1 g1 rx=>by
  obtain⟨hz,hq⟩:=Mi.cr hx;refine⟨by rw[<- rx.len,b9];exact hz,λp hp=>?_⟩;have g2:bb H1 Hv1 (upd H1 p (.tup vs)) (upd Hv1 p (.tup vs)):=.new g1.vw hp;exact hq _ _ _ (g1.trans g2) (js.mpr ⟨p,vs,rfl,bj,fe g2.vis rx⟩))
theorem iE(ha:AA M qV tr (Mi.fN as)):AE M qN (EF tr) (Mi.mN Mi.dP as):=λe σ H Hv Q I h=>
 ha e σ H Hv _ I ((au.mp h).mono λds hx vs H1 Hv1 g1 rx=>by
  obtain⟨hz,hq⟩:=Mi.cr hx;refine⟨by rw[<- rx.len,b9];exact hz,λp hp=>?_⟩;have g2:bb H1 Hv1 (upd H1 p (.lst vs)) Hv1:=.qf g1.vw trivial hp;exact hq _ _ _ (g1.trans g2) ⟨p,.lst vs,rfl,g1.old.free hp,bj,oD g1.vw hp,rx⟩)
def cF(f:Mi.Fn):Sp:=λvs H Q _=>∃Hv ws,Vw H Hv/\P2 (gP Hv) ws vs/\Fin (f ws) (λw=>∀v H' Hv',bb H Hv H' Hv'->qV H H' Hv' w v->Q v H')
def cz(f:Mi.Fn):Sp:=λvs H Q _=>∃Hv ws,Vw H Hv/\P2 (gP Hv) ws vs/\Fin (f ws) (λw=>∀v H' Hv',bb H Hv H' Hv'->qN H H' Hv' w v->Q v H')
variable{fn:Mi.Fn}{E:XK}
theorem Ms(ha:AAW M qV tr (Mi.cP ws)):AW M qV (mL (cF fn) [] E tr) (Mi.iB fn ws):=λe σ H Hv Q I h=>
 ha e σ H Hv _ I ((au.mp h).mono λds hx vs H1 Hv1 g1 rx=>by
  rw[nR];exact⟨Hv1,ds,g1.vw,rx,hx.mono λd hd w H3 Hv3 g3 rw=>hd w H3 Hv3 (g1.trans g3) rw⟩)
theorem u4(ha:AAW M qV tr (Mi.cP ws)):AW M qN (mL (cz fn) [] E tr) (Mi.iB fn ws):=λe σ H Hv Q I h=>
 ha e σ H Hv _ I ((au.mp h).mono λds hx vs H1 Hv1 g1 rx=>by
  rw[nR];exact⟨Hv1,ds,g1.vw,rx,hx.mono λd hd w H3 Hv3 g3 rw=>hd w H3 Hv3 (g1.trans g3) (KM.mono (κ:=qN) g1.old rw)⟩)
theorem Kx{w:W}{k:D->Prop}(h:Fin (Mi.wt w) k):∃d,w=.d d/\k d:=by
 cases w with
 |d x=>exact⟨x,rfl,h⟩
 |_=>exact h.elim
theorem AW.d{w:Mi.EW}(h:AW M κ t w):AE M κ t (λe=>(w e).bind Mi.wt):=λe σ H Hv Q I q=>
 h e σ H Hv Q I ((au.mp q).mono λw z v H' Hv' g k=>by
  obtain⟨d,rfl,z⟩:=Kx z;exact z v H' Hv' g k)
theorem fv(ha:AAW M qV tr (Mi.cP ws)):AE M qV (mL (cF fn) [] E tr) (Mi.be fn ws):=(Ms ha).d
theorem gW(ha:AAW M qV tr (Mi.cP ws)):AE M qN (mL (cz fn) [] E tr) (Mi.be fn ws):=(u4 ha).d
def jH(H:Hp):Hp:=λa=>match H a with
 |some (.tbl _ _)=>ae
 |x=>x
theorem kY{H:Hp}{a:ah}{o:HO}(h:H a=ab o)(n:NT o):jH H a=ab o:=by unfold jH;rw[h];cases o<;>first|rfl|exact n.elim
theorem vh{H:Hp}{a:ah}{o:HO}(h:jH H a=ab o):H a=ab o/\NT o:=by
 unfold jH at h;cases q:H a with
 |none=>rw[q]at h;cases h
 |some u=>
  rw[q]at h;cases u with
  |tbl w ps=>cases h
  |_=>cases h;exact⟨rfl,trivial⟩
theorem Vw.all{H:Hp}(k:iC H):Vw H (jH H):=⟨λa o e=>(vh e).1,λa xs e=>kY e trivial,λa o u e=>kY e trivial,k,λa o e=>(vh e).2⟩
theorem RB.No{H Hv:Hp}(v:Vw H Hv){w:W}{x:V}(h:RB H Hv w x):gP (jH H) w x:=by
 have s:cK Hv (jH H):=λa o e=>kY (v.sub a o e) (v.nv a o e);rcases h with h|⟨a,o,rfl,q,c⟩
 ·exact oB s h
 ·exact ve (kY q c.nt) (c.same s)
def seen(H Hv H':Hp):Hp:=λa=>match Hv a,H a with
 |none,ab _=>ae
 |_,_=>jH H' a
theorem Nr{H Hv H':Hp}(v:Vw H Hv)(s:Old H H')(k':iC H'):bb H Hv H' (seen H Hv H'):=by
 have key:∀a,(∃o,H a=ab o/\Hv a=ae/\seen H Hv H' a=ae)\/(seen H Hv H' a=jH H' a/\∀o,H a=ab o->Hv a=ab o):=λa=>by
  cases h1:Hv a with
  |none=>
   cases h2:H a with
   |none=>exact .inr ⟨by unfold seen;rw[h1,h2],λo e=>by cases e⟩
   |some o=>exact .inl ⟨o,rfl,rfl,by unfold seen;rw[h1,h2]⟩
  |some o=>
   refine .inr ⟨by unfold seen;rw[h1],λu e=>?_⟩;rw[v.sub a o h1]at e;exact e
 have back:∀b o,H' b=ab o->NT o->(∃u,H b=ab u)->∃u,H b=ab u:=λ_ _ _ _ z=>z;refine⟨s,λb o e=>?_,⟨λb o e=>?_,λb xs e=>?_,λb q u e=>?_,k',λb o e=>?_⟩,λb o e n=>?_⟩
 ·rcases key b with ⟨u,_,z,_⟩|⟨z,_⟩
  ·rw[e]at z;cases z
  ·rw[z];exact kY (s.nt b o (v.sub b o e) (v.nv b o e)) (v.nv b o e)
 ·rcases key b with ⟨u,_,_,z⟩|⟨z,_⟩
  ·rw[e]at z;cases z
  ·rw[z]at e;exact(vh e).1
 ·rcases key b with ⟨u,h1,h2,_⟩|⟨z,_⟩
  ·cases u with
   |tbl w ps=>exact absurd e (s.tab h1 trivial)
   |_=>
    have:=s.nt b _ h1 trivial;rw[e]at this;cases this
    try (rw[v.tup b xs h1]at h2;cases h2)
  ·rw[z];exact kY e trivial
 ·rcases key b with ⟨w,h1,h2,_⟩|⟨z,_⟩
  ·cases w with
   |tbl w ps=>exact absurd e (s.tab h1 trivial)
   |_=>
    have:=s.nt b _ h1 trivial;rw[e]at this;cases this
    try (rw[v.frz b q u h1]at h2;cases h2)
  ·rw[z];exact kY e trivial
 ·rcases key b with ⟨u,_,_,z⟩|⟨z,_⟩
  ·rw[e]at z;cases z
  ·rw[z]at e;exact(vh e).2
 ·rcases key b with ⟨u,h1,h2,z⟩|⟨z,k⟩
  ·exact z
  ·rw[k o e]at n;cases n
end
end A
namespace A
open PySem L2 PyProof.Rows
open Mi (D W Rs Fin au Out Tg)
variable[Tb:bE]
structure rf(J:It)(P:Hp->Hp->Prop)(ds:List D):Prop where
 go:∀i H Hv,P H Hv->Vw H Hv->i<ds.length->J.go i H
 yld:∀i H Hv x H',P H Hv->Vw H Hv->i<ds.length->J.yld i H x H'->∃Hv' d,bb H Hv H' Hv'/\ds[i]? = ab d/\Rep Hv' d x
 stop:∀H Hv,P H Hv->Vw H Hv->J.stop ds.length H
def xZ(M:Nat->Bool)(wi:TI)(it:Mi.I):Prop:=∀e σ H Hv (R:It->Hp->Prop),R0 M e σ H Hv->Fin (it e) (λds=>∀(J:It) H' Hv' (P:Hp->Hp->Prop),bb H Hv H' Hv'->rf J P ds->P H' Hv'->(∀H1 Hv1 H2 Hv2,P H1 Hv1->bb H1 Hv1 H2 Hv2->P H2 Hv2)->R J H')->wi σ H R
def iI(M:Nat->Bool)(wi:TI)(it:Mi.I):Prop:=∀e σ H Hv (R:It->Hp->Prop),R0 M e σ H Hv->Fin (it e) (λds=>∀(J:It) H' Hv' (P:Hp->Hp->Prop),bb H Hv H' Hv'->rf J P ds->P H' Hv'->(∀H1 Hv1 H2 Hv2,P H1 Hv1->cK Hv1 Hv2->Vw H2 Hv2->P H2 Hv2)->R J H')->wi σ H R
theorem j6{α:Type}{r:Rs α}{k:α->Prop}(h:Fin r k):∃x,r=.ok x/\k x:=by
 cases r with
 |ok x=>exact⟨x,rfl,h⟩
 |_=>exact h.elim
section
variable{M:Nat->Bool}{ta tb:TE}{a b:Mi.E}{wi:TI}{it:Mi.I}{tr:TA}{as:List Mi.E}
theorem iI.c(h:iI M wi it):xZ M wi it:=λe σ H Hv R I q=>h e σ H Hv R I (q.mono λds z J H' Hv' P g o p k=>z J H' Hv' P g o p λH1 Hv1 H2 Hv2 p g'=>k H1 Hv1 H2 Hv2 p g'.vis g'.vw)
theorem pe{J:It}{Ok:Hp->Prop}{xs:List V}(O:J.Of Ok xs){ds:List D}{P:Hp->Hp->Prop}(ok:∀H Hv,P H Hv->Vw H Hv->Ok H)(r:∀H Hv,P H Hv->P2 (Rep Hv) ds xs)(ex:∃H Hv,P H Hv):rf J P ds:=by
 have hl:ds.length=xs.length:=by obtain⟨H,Hv,p⟩:=ex;exact(r H Hv p).len
 refine⟨λi H Hv p v hi=>O.go i H (ok H Hv p v) (by omega),λi H Hv x H' p v hi y=>?_,λH Hv p v=>by rw[hl];exact O.stop H (ok H Hv p v)⟩;obtain⟨rfl,hx⟩:=O.yld i H x H' (ok H Hv p v) (by omega) y;obtain⟨d,hd,rx⟩:=(r H' Hv p).vZ hx;exact⟨Hv,d,.refl v,hd,rx⟩
def qX(K:aE)(tl:TE):TI:=λσ H R=>GN K tl σ H R\/Hq K tl σ H R\/C9 tl σ H R
theorem eB{X:Cx}{tg l:aR}{tl:TE}(hl:PE X l tl):PI X tg l (qX X.K tl):=λaf s σ H R I h=>by
 rcases h with h|h|h
 ·exact Mx hl af s σ H R I h
 ·exact Mz hl af s σ H R I h
 ·exact Ra hl af s σ H R I h
theorem Dm(H:Hp)(z:Str):P2 (Rep H) (z.cps.toList.map λc=>D.str ⟨#[c]⟩) (oO z):=by
 unfold oO
 induction z.cps.toList with
 |nil=>exact .nil
 |cons c r ih=>exact .cons (mS.mpr rfl) ih
theorem jq{K:aE}(ha:AE M qP ta a):xZ M (qX K ta) (Mi.bJ a):=λe σ H Hv R I h=>by
 obtain⟨d,hd,h⟩:=j6 (au.mp h);have run:∀Q:VK,(∀v H' Hv',bb H Hv H' Hv'->RD H' Hv' d v->Q v H')->ta σ H Q:=λQ q=>ha e σ H Hv Q I (by rw[hd];exact q);cases d with
 |lst ds=>
  refine .inl (run _ λv H' Hv' g r=>?_);obtain⟨p,xs,rfl,l,r⟩:=RD.lst g.vw r;exact⟨p,rfl,⟨xs,l.sq⟩,h (rX K p) H' Hv' (λH Hv=>Lst H p xs/\P2 (Rep Hv) ds xs) g (pe DC (λH Hv p v=>p.1.sq) (λH Hv p=>p.2) ⟨H',Hv',l,r⟩) ⟨l,r⟩ λH1 Hv1 H2 Hv2 z g'=>⟨z.1.old g'.old,fe g'.vis z.2⟩⟩
 |tup ds=>
  refine .inr (.inl (run _ λv H' Hv' g r=>?_));obtain⟨p,xs,rfl,l,_,r⟩:=RD.tup g.vw r;exact⟨p,rfl,⟨xs,.inl (.inl l)⟩,h (tY K p) H' Hv' (λH Hv=>H p=ab (.tup xs)/\P2 (Rep Hv) ds xs) g (pe G8 (λH Hv p v=>.inl (.inl p.1)) (λH Hv p=>p.2) ⟨H',Hv',l,r⟩) ⟨l,r⟩ λH1 Hv1 H2 Hv2 z g'=>⟨g'.old.at z.1,fe g'.vis z.2⟩⟩
 |str z=>
  refine .inr (.inr (run _ λv H' Hv' g r=>?_));exact⟨z,RD.str r,h (oj z) H' Hv' (λ_ _=>True) g (pe Fk (λ_ _ _ _=>trivial) (λH Hv _=>Dm Hv z) ⟨H,Hv,trivial⟩) trivial λ_ _ _ _ _ _=>trivial⟩
 |_=>exact h.elim
theorem j3{K:aE}(ha:AE M qV ta a):iI M (qX K ta) (Mi.bJ a):=λe σ H Hv R I h=>by
 obtain⟨d,hd,h⟩:=j6 (au.mp h);have run:∀Q:VK,(∀v H' Hv',bb H Hv H' Hv'->Rep Hv' d v->Q v H')->ta σ H Q:=λQ q=>ha e σ H Hv Q I (by rw[hd];exact q);cases d with
 |lst ds=>
  refine .inl (run _ λv H' Hv' g r=>?_);obtain⟨p,xs,rfl,l,r⟩:=lC.mp r;exact⟨p,rfl,⟨xs,(l.same g.vw.sub).sq⟩,h (rX K p) H' Hv' (λH Hv=>Lst Hv p xs/\P2 (Rep Hv) ds xs) g (pe DC (λH Hv p v=>(p.1.same v.sub).sq) (λH Hv p=>p.2) ⟨H',Hv',l,r⟩) ⟨l,r⟩ λH1 Hv1 H2 Hv2 z s v=>⟨z.1.same s,fe s z.2⟩⟩
 |tup ds=>
  refine .inr (.inl (run _ λv H' Hv' g r=>?_));obtain⟨p,xs,rfl,l,r⟩:=js.mp r;exact⟨p,rfl,⟨xs,.inl (.inl (g.vw.sub _ _ l))⟩,h (tY K p) H' Hv' (λH Hv=>Hv p=ab (.tup xs)/\P2 (Rep Hv) ds xs) g (pe G8 (λH Hv p v=>.inl (.inl (v.sub _ _ p.1))) (λH Hv p=>p.2) ⟨H',Hv',l,r⟩) ⟨l,r⟩ λH1 Hv1 H2 Hv2 z s v=>⟨s _ _ z.1,fe s z.2⟩⟩
 |str z=>
  refine .inr (.inr (run _ λv H' Hv' g r=>?_));exact⟨z,mS.mp r,h (oj z) H' Hv' (λ_ _=>True) g (pe Fk (λ_ _ _ _=>trivial) (λH Hv _=>Dm Hv z) ⟨H,Hv,trivial⟩) trivial λ_ _ _ _ _ _ _=>trivial⟩
 |_=>exact h.elim
theorem OD(H:Hp)(lo hi:Int):P2 (Rep H) (Mi.d8 lo hi) (oy lo (hi-lo).toNat):=by
 unfold Mi.d8 oy
 induction bw (hi-lo).toNat with
 |nil=>exact .nil
 |cons c r ih=>exact .cons (ox.mpr rfl) ih
theorem MB(lo hi:Int)(H Hv:Hp):rf (qD lo (hi-lo).toNat) (λ_ _=>True) (Mi.d8 lo hi):=pe O4 (λ_ _ _ _=>trivial) (λH Hv _=>OD Hv lo hi) ⟨H,Hv,trivial⟩
theorem kM(ha:AE M qP ta a):iI M (Im (fu ta f6)) (Mi.gO a):=λe σ H Hv R I h=>
 ha e σ H Hv _ I ((au.mp h).mono λx hx v H1 Hv1 g1 rx=>by
  obtain⟨j,rfl,hk⟩:=Ae (au.mp hx);obtain⟨hz,hq⟩:=Mi.cr hk;cases RD.int rx;refine⟨j,rfl,hz.1,hz.2,?_⟩;have:=hq (qD 0 (j-0).toNat) H1 Hv1 _ g1 (MB 0 j H Hv) trivial λ_ _ _ _ _ _ _=>trivial;rw[Int.sub_zero]at this;exact this)
end
def Ab:List Nat->jB
 |[]=>sG
 |i::r=>s0 (fL i) (Ab r)
def tD:Tg->List Nat
 |.n i=>[i]
 |.t is=>is
def v3(K:aE):Tg->TG
 |.n i=>fL i
 |.t is=>ym K is.length (Ab is)
section
variable{P:Mi.Env->L2.St->Prop}{H Hv:Hp}
theorem Fq:∀{is:List Nat} {ds:List D} {xs:List V} {e:Mi.Env} {σ:L2.St} {Q:L2.St->Hp->Prop},(∀i∈is,∀e σ d v,P e σ->Rep Hv d v->P (e.set i (ab (.d d))) (σ.set i (ab v)))->P e σ->P2 (Rep Hv) ds xs ->
 Fin (Mi.qZ is ds e) (λe'=>∀σ',P e' σ'->Q σ' H)->Ab is xs σ H Q
 |[],[],xs,e,σ,Q,cl,p,r,h=>by
  cases r;exact⟨rfl,h σ p⟩
 |[],_::_,xs,e,σ,Q,cl,p,r,h=>h.elim
 |_::_,[],xs,e,σ,Q,cl,p,r,h=>h.elim
 |i::is,d::ds,xs,e,σ,Q,cl,p,r,h=>by
  cases r with
  |cons x t=>exact⟨_,_,rfl,Fq (λj hj=>cl j (c6 _ hj)) (cl i ce _ _ _ _ p x) t h⟩
theorem Dg:∀{is:List Nat} {ds:List D} {e:Mi.Env} {k:Mi.Env->Prop},Fin (Mi.qZ is ds e) k->ds.length=is.length
 |[],[],_,_,_=>rfl
 |[],_::_,_,_,h=>h.elim
 |_::_,[],_,_,h=>h.elim
 |i::is,d::ds,e,k,h=>by rw[dW,dW,Dg (is:=is) (ds:=ds) (k:=k) h]
theorem yy{K:aE}(vw:Vw H Hv){tg:Tg}{d:D}{v:V}{e:Mi.Env}{σ:L2.St}{Q:L2.St->Hp->Prop}(cl:∀i∈tD tg,∀e σ d v,P e σ->Rep Hv d v->P (e.set i (ab (.d d))) (σ.set i (ab v)))(p:P e σ)(r:Rep Hv d v)
 (h:Fin (tg.put d e) (λe'=>∀σ',P e' σ'->Q σ' H)):v3 K tg v σ H Q:=by
 cases tg with
 |n i=>exact h _ (cl i (by simp[tD]) _ _ _ _ p r)
 |t is=>
  cases d with
  |tup ds=>
   obtain⟨a,xs,e1,l,r⟩:=js.mp r;exact⟨a,xs,e1,.inl (.inl (vw.sub _ _ l)),by rw[<- r.len];exact Dg h,Fq cl p r h⟩
  |_=>exact h.elim
end
theorem j8{α:Type}{l:List α}{i j:Nat}{x y:α}(h:(l.set i x)[j]? = ab y):(i=j/\x=y/\i<l.length)\/(i≠j/\l[j]? = ab y):=by
 rw[t7]at h;split at h
 ·split at h
  ·exact .inl ⟨‹_›,gi h,by omega⟩
  ·cases h
 ·exact .inr ⟨‹_›,h⟩
theorem R0.set{M:Nat->Bool}{e:Mi.Env}{σ:L2.St}{H Hv:Hp}(I:R0 M e σ H Hv){i:Nat}{w:W}{v:V}(hm:M i=false)(r:gP Hv w v):R0 M (e.set i (ab w)) (σ.set i (ab v)) H Hv:=by
 refine⟨I.vw,by rw[iT,iT];exact I.len,λj w' h m=>?_,λj w' h m=>?_⟩
 ·rcases j8 h with ⟨rfl,h,l⟩|⟨n,h⟩
  ·cases h;exact⟨v,by rw[mf (by rw[I.len];exact l)],r⟩
  ·obtain⟨u,q,z⟩:=I.nob j w' h m;exact⟨u,by rw[fi n];exact q,z⟩
 ·rcases j8 h with ⟨rfl,h,l⟩|⟨n,h⟩
  ·rw[hm]at m;cases m
  ·obtain⟨u,q,z⟩:=I.own j w' h m;exact⟨u,by rw[fi n];exact q,z⟩
theorem R1.set{M:Nat->Bool}{H0 Hv0:Hp}{e:Mi.Env}{σ:L2.St}{H Hv:Hp}(I:R1 M H0 Hv0 e σ H Hv){i:Nat}{w:W}{v:V}(hm:M i=false)(r:gP Hv w v):R1 M H0 Hv0 (e.set i (ab w)) (σ.set i (ab v)) H Hv:=by
 have nj:∀{j:Nat} {w':W},(e.set i (ab w))[j]? = ab (ab w')->M j=true->i≠j/\e[j]? = ab (ab w'):=λ{j w'} h m=>by
  rcases j8 h with ⟨rfl,_,_⟩|⟨n,h⟩
  ·rw[hm]at m;cases m
  ·exact⟨n,h⟩
 refine⟨I.toR0.set hm r,I.gw,λj w' a h m q=>?_,λj k w1 w2 a b hjk h1 h2 m1 m2 q1 q2=>?_⟩
 ·obtain⟨n,h⟩:=nj h m;rw[fi n]at q;exact I.fresh j w' a h m q
 ·obtain⟨n1,h1⟩:=nj h1 m1;obtain⟨n2,h2⟩:=nj h2 m2;rw[fi n1]at q1;rw[fi n2]at q2;exact I.sep j k w1 w2 a b hjk h1 h2 m1 m2 q1 q2
def oz(ρ:List (Option Nat))(M:Nat->Bool):Nat->Bool:=λi=>match ρ[i]? with
 |some (ab j)=>M j
 |_=>false
theorem HU{α:Type}{ρ:List (Option Nat)}{e:List (Option α)}{i:Nat}{w:α}(h:(ρ.map λo=>o.bind λj=>(e[j]?).join)[i]? = ab (ab w)):∃j,ρ[i]? = ab (ab j)/\e[j]? = ab (ab w):=by
 rw[c7]at h;cases hr:ρ[i]? with
 |none=>rw[hr]at h;cases h
 |some o=>
  rw[hr]at h;cases o with
  |none=>cases h
  |some j=>
   refine⟨j,rfl,?_⟩;have h:(e[j]?).join=ab w:=gi h;cases hq:e[j]? with
   |none=>rw[hq]at h;cases h
   | some o' => rw [hq] at h; have h : o' = ab w := h
                rw[h]
theorem Eu{α:Type}{ρ:List (Option Nat)}{e:List (Option α)}{i j:Nat}{w:α}(h1:ρ[i]? = ab (ab j))(h2:e[j]? = ab (ab w)):(ρ.map λo=>o.bind λj=>(e[j]?).join)[i]? = ab (ab w):=by rw[c7,h1];show ab ((e[j]?).join)=_;rw[h2];rfl
theorem R0.pick{M:Nat->Bool}{e:Mi.Env}{σ:L2.St}{H Hv:Hp}(I:R0 M e σ H Hv)(ρ:List (Option Nat)):R0 (oz ρ M) (Mi.kL ρ e) (L2.pick ρ σ) H Hv:=by
 refine⟨I.vw,by unfold Mi.kL L2.pick;rw[aQ,aQ],λi w h m=>?_,λi w h m=>?_⟩
 ·obtain⟨j,h1,h2⟩:=HU h;have m:M j=false:=by unfold oz at m;rw[h1]at m;exact m
  obtain⟨v,q,z⟩:=I.nob j w h2 m;exact⟨v,Eu h1 q,z⟩
 ·obtain⟨j,h1,h2⟩:=HU h;have m:M j=true:=by unfold oz at m;rw[h1]at m;exact m
  obtain⟨v,q,z⟩:=I.own j w h2 m;exact⟨v,Eu h1 q,z⟩
theorem OY{tg:Tg}{c:Mi.C}{a:Mi.E}{e:Mi.Env}{x:D}{r:List D}{k:List D->Prop}(h:Fin (Mi.c9 tg c a e (x::r)) k) :
 Fin (tg.put x e) λe1=>Fin (c e1) λb=>if b=true then Fin (a e1) λy=>Fin (Mi.c9 tg c a e r) λys=>k (y::ys)else Fin (Mi.c9 tg c a e r) k:=by
 refine(au.mp h).mono λe1 h1=>(au.mp h1).mono λb h2=>?_;cases b with
 |true=>exact mE ((au.mp (Mi.pc h2)).mono λy h3=>(au.mp h3).mono λys h4=>h4)
 |false=>exact nq (Mi.oX h2)
theorem fW{M:Nat->Bool}{K:aE}{ρ:List (Option Nat)}{wi:TI}{it:Mi.I}{tg:Tg}{tc:TT}{c:Mi.C}{te:TE}{a:Mi.E}(hi:xZ M wi it)(hm:∀i∈tD tg,oz ρ M i=false)(hc:AT (oz ρ M) tc c)(he:AE (oz ρ M) qV te a) :
 AE M qN (vX wi ρ (v3 K tg) tc te) (Mi.cq ρ it tg c a):=λe σ H Hv Q I h=>
 hi e σ H Hv _ I ((au.mp h).mono λds h1 J H1 Hv1 P g1 O p1 per=>by
  obtain⟨hz,h1⟩:=Mi.cr h1;have h1:=au.mp h1;have I1:=I.grow g1;refine⟨λi m acc H'=>m=ds.length-i/\i<=ds.length/\∃Hv',bb H1 Hv1 H' Hv'/\P H' Hv'/\acc.length<=i/\∃done,P2 (Rep Hv') done acc/\Fin (Mi.c9 tg c a (Mi.kL ρ e) (ds.drop i)) λys=>∀v H2 Hv2,bb H Hv H2 Hv2->qN H H2 Hv2 (.d (.lst (done++ys))) v->Q v H2,
   ⟨ds.length,by simp,eZ _,Hv1,.refl g1.vw,p1,ba _,[],.nil,by rw[uc];exact h1.mono λys z=>z⟩,?_⟩
  rintro i m acc H' ⟨rfl,hle,Hv',g,pp,l,done,pd,hf⟩;by_cases hlt:i<ds.length
  ·refine .inr ⟨O.go i H' Hv' pp g.vw hlt,by rw[b9];omega,λacc' H2=>∃Hv2,bb H1 Hv1 H2 Hv2/\P H2 Hv2/\acc'.length<=i+1/\∃done,P2 (Rep Hv2) done acc'/\Fin (Mi.c9 tg c a (Mi.kL ρ e) (ds.drop (i+1))) λys=>∀v H3 Hv3,bb H Hv H3 Hv3->qN H H3 Hv3 (.d (.lst (done++ys))) v->Q v H3,
    λacc' H2 z=>⟨ds.length-(i+1),by omega,rfl,hlt,z⟩,λx H2 y=>?_⟩
   obtain⟨Hv2,d,g2,hd,rx⟩:=O.yld i H' Hv' x H2 pp g.vw hlt y;have g12:=g.trans g2;have hdr:ds.drop i=d::ds.drop (i+1):=by obtain⟨hl,e1⟩:=cu.mp hd;rw[ko hl,e1]
   rw[hdr]at hf;have hf:=OY hf;refine yy (P:=λe1 σ1=>R0 (oz ρ M) e1 σ1 H2 Hv2) g2.vw (λj hj e1 σ1 d1 v1 r1 z=>r1.set (hm j hj) z) ((I1.grow g12).pick ρ) rx (hf.mono λe1 hf1 σ1 r1=>?_);refine hc e1 σ1 H2 Hv2 _ r1 (hf1.mono λb hb H3 Hv3 g3=>?_);cases b with
   |true=>
    refine mE (he e1 σ1 H3 Hv3 _ (r1.grow g3) (Fin.mono (by simpa using hb) λy hy v H4 Hv4 g4 ry=>?_));exact⟨Hv4,g12.trans (g3.trans g4),per _ _ _ _ pp (g2.trans (g3.trans g4)),by rw[dI,wR];omega,done++[y],(fe (g2.trans (g3.trans g4)).vis pd).append (.cons ry .nil),hy.mono λys z v H5 Hv5 g5 k=>z v H5 Hv5 g5 (by rw[t8]at k;exact k)⟩
   |false=>exact nq ⟨Hv3,g12.trans g3,per _ _ _ _ pp (g2.trans g3),by omega,done,fe (g2.trans g3).vis pd,by simpa using hb⟩
  ·have hi:i=ds.length:=by omega
   subst hi;refine .inl ⟨O.stop H' Hv' pp g.vw,λp hp=>?_⟩;rw[wQ (ba _)]at hf;have g2:bb H' Hv' (upd H' p (.lst acc)) Hv':=.qf g.vw trivial hp;refine hf _ _ _ (g1.trans (g.trans g2)) ⟨p,.lst acc,rfl,(g1.old.trans g.old).free hp,bj,oD g.vw hp,?_⟩;show P2 (Rep Hv') (done++[]) acc;rw[nR];exact pd)
def k4(M:Nat->Bool)(κ:Kd)(H0 Hv0:Hp)(D:Ends)(Hv:Hp):Out->Prop
 |.nx e=>∀σ H' Hv',R1 M H0 Hv0 e σ H' Hv'->cK Hv Hv'->D.nx σ H'
 |.rt w=>∀v H' Hv',bb H0 Hv0 H' Hv'->κ H0 H' Hv' w v->D.rt v H'
 |.bk e=>∀σ H' Hv',R1 M H0 Hv0 e σ H' Hv'->cK Hv Hv'->D.bk σ H'
 |.ct e=>∀σ H' Hv',R1 M H0 Hv0 e σ H' Hv'->cK Hv Hv'->D.ct σ H'
def AS(M:Nat->Bool)(κ:Kd)(t:TS)(m:Mi.S):Prop:=∀H0 Hv0 e σ H Hv D,R1 M H0 Hv0 e σ H Hv->Fin (m e) (k4 M κ H0 Hv0 D Hv)->t D σ H
section
variable{M:Nat->Bool}{κ:Kd}{t u:TS}{m n:Mi.S}{te:TE}{a b:Mi.E}{w:Mi.EW}
theorem dE:AS M κ zx Mi.bp:=λH0 Hv0 e σ H Hv D I h=>h σ H Hv I (cK.refl _)
theorem Qn:AS M κ FG Mi.zi:=λH0 Hv0 e σ H Hv D I h=>h
theorem aW(h1:AS M κ t m)(h2:AS M κ u n):AS M κ (mD t u) (Mi.aF m n):=λH0 Hv0 e σ H Hv D I h=>
 h1 H0 Hv0 e σ H Hv _ I ((au.mp h).mono λo ho=>by
  cases o with
  |nx e'=>exactλσ' H' Hv' I' s=>h2 H0 Hv0 e' σ' H' Hv' D I' (Fin.mono ho λo z=>by
   cases o with
   |nx e2=>exactλσ2 H2 Hv2 I2 s2=>z σ2 H2 Hv2 I2 (s.trans s2)
   |rt w=>exact z
   |bk e2=>exactλσ2 H2 Hv2 I2 s2=>z σ2 H2 Hv2 I2 (s.trans s2)
   |ct e2=>exactλσ2 H2 Hv2 I2 s2=>z σ2 H2 Hv2 I2 (s.trans s2))
  |rt w=>exact ho
  |bk e'=>exact ho
  |ct e'=>exact ho)
theorem M6(ha:AE M qP te a):AS M κ (k8 te) (Mi.vQ a):=λH0 Hv0 e σ H Hv D I h=>
 ha e σ H Hv _ I.toR0 ((au.mp h).mono λd hd v H1 Hv1 g1 r=>hd σ H1 Hv1 (I.grow g1) g1.vis)
theorem cU(i:Nat)(hm:M i=false)(ha:AE M qV te a):AS M κ (kj te (fL i)) (Mi.a6 i a):=λH0 Hv0 e σ H Hv D I h=>
 ha e σ H Hv _ I.toR0 ((au.mp h).mono λd hd v H1 Hv1 g1 r=>hd _ H1 Hv1 ((I.grow g1).set hm r) g1.vis)
theorem zS(i:Nat)(hm:M i=false)(ha:AW M qV te w):AS M κ (kj te (fL i)) (Mi.jX i w):=λH0 Hv0 e σ H Hv D I h=>
 ha e σ H Hv _ I.toR0 ((au.mp h).mono λd hd v H1 Hv1 g1 r=>hd _ H1 Hv1 ((I.grow g1).set hm r) g1.vis)
theorem O7{K:aE}(tg:Tg)(hm:∀i∈tD tg,M i=false)(ha:AE M qV te a):AS M κ (kj te (v3 K tg)) (Mi.DA tg a):=λH0 Hv0 e σ H Hv D I h=>
 ha e σ H Hv _ I.toR0 ((au.mp h).mono λd hd v H1 Hv1 g1 r=>
  yy (P:=λe1 σ1=>R1 M H0 Hv0 e1 σ1 H1 Hv1) g1.vw (λj hj e1 σ1 d1 v1 r1 z=>r1.set (hm j hj) z) (I.grow g1) r ((au.mp hd).mono λe1 h1 σ1 I1=>h1 σ1 H1 Hv1 I1 g1.vis))
theorem d9(ha:AW M qV te w):AS M qV (pA te) (Mi.bB w):=λH0 Hv0 e σ H Hv D I h=>
 ha e σ H Hv _ I.toR0 ((au.mp h).mono λd hd v H1 Hv1 g1 r=>hd v H1 Hv1 (I.gw.trans g1) r)
theorem l9(ha:AW M qN te w):AS M qN (pA te) (Mi.bB w):=λH0 Hv0 e σ H Hv D I h=>
 ha e σ H Hv _ I.toR0 ((au.mp h).mono λd hd v H1 Hv1 g1 r=>hd v H1 Hv1 (I.gw.trans g1) (KM.mono (κ:=qN) I.gw.old r))
theorem dF{tt:TT}{c:Mi.C}(hc:AT M tt c)(h1:AS M κ t m)(h2:AS M κ u n):AS M κ (zX tt t u) (Mi.bh c m n):=λH0 Hv0 e σ H Hv D I h=>
 hc e σ H Hv _ I.toR0 ((au.mp h).mono λb hb H1 Hv1 g1=>by
  have up:∀o,k4 M κ H0 Hv0 D Hv o->k4 M κ H0 Hv0 D Hv1 o:=λo z=>by
   cases o with
   |nx e2=>exactλσ2 H2 Hv2 I2 s2=>z σ2 H2 Hv2 I2 (g1.vis.trans s2)
   |rt w=>exact z
   |bk e2=>exactλσ2 H2 Hv2 I2 s2=>z σ2 H2 Hv2 I2 (g1.vis.trans s2)
   |ct e2=>exactλσ2 H2 Hv2 I2 s2=>z σ2 H2 Hv2 I2 (g1.vis.trans s2)
  cases b with
  |true=>exact mE (h1 H0 Hv0 e σ H1 Hv1 D (I.grow g1) (Fin.mono (Mi.pc hb) up))
  |false=>exact nq (h2 H0 Hv0 e σ H1 Hv1 D (I.grow g1) (Fin.mono (Mi.oX hb) up)))
theorem k4.up{H0 Hv0 Hv Hv1:Hp}{D:Ends}(s:cK Hv Hv1){o:Out}(z:k4 M κ H0 Hv0 D Hv o):k4 M κ H0 Hv0 D Hv1 o:=by
 cases o with
 |nx e2=>exactλσ2 H2 Hv2 I2 s2=>z σ2 H2 Hv2 I2 (s.trans s2)
 |rt w=>exact z
 |bk e2=>exactλσ2 H2 Hv2 I2 s2=>z σ2 H2 Hv2 I2 (s.trans s2)
 |ct e2=>exactλσ2 H2 Hv2 I2 s2=>z σ2 H2 Hv2 I2 (s.trans s2)
theorem fM{K:aE}{wi:TI}{it:Mi.I}{tg:Tg}(hi:iI M wi it)(hm:∀i∈tD tg,M i=false)(hb:AS M κ t m):AS M κ (sY wi (v3 K tg) t) (Mi.du it tg m):=λH0 Hv0 e σ H Hv D I h=>
 hi e σ H Hv _ I.toR0 ((au.mp h).mono λds h1 J H1 Hv1 P g1 O p1 per=>by
  refine⟨λi k σ' H'=>k=ds.length-i/\i<=ds.length/\∃e' Hv',R1 M H0 Hv0 e' σ' H' Hv'/\P H' Hv'/\Fin (Mi.ii tg m (ds.drop i) e') (k4 M κ H0 Hv0 D Hv'),
   ⟨ds.length,by simp,eZ _,e,Hv1,I.grow g1,p1,by rw[uc];exact h1.mono λo z=>z.up g1.vis⟩,?_⟩
  rintro i k σ' H' ⟨rfl,hle,e',Hv',I',pp,hf⟩;by_cases hlt:i<ds.length
  ·refine .inr ⟨O.go i H' Hv' pp I'.vw hlt,λσ2 H2=>∃e2 Hv2,R1 M H0 Hv0 e2 σ2 H2 Hv2/\P H2 Hv2/\Fin (Mi.ii tg m (ds.drop (i+1)) e2) (k4 M κ H0 Hv0 D Hv2),
    λσ2 H2 z=>⟨ds.length-(i+1),by omega,rfl,hlt,z⟩,λx H2 y=>?_⟩
   obtain⟨Hv2,d,g2,hd,rx⟩:=O.yld i H' Hv' x H2 pp I'.vw hlt y;have I2:=I'.grow g2;have hdr:ds.drop i=d::ds.drop (i+1):=by obtain⟨hl,e1⟩:=cu.mp hd;rw[ko hl,e1]
   rw[hdr]at hf;refine yy (P:=λe1 σ1=>R1 M H0 Hv0 e1 σ1 H2 Hv2) g2.vw (λj hj e1 σ1 d1 v1 r1 z=>r1.set (hm j hj) z) I2 rx ((au.mp hf).mono λe1 h1 σ1 I1=>?_);refine hb H0 Hv0 e1 σ1 H2 Hv2 _ I1 ((au.mp h1).mono λo ho=>?_);cases o with
   |nx e2=>exactλσ2 H3 Hv3 I3 s3=>⟨e2,Hv3,I3,per _ _ _ _ pp (g2.vis.trans s3) I3.vw,Fin.mono ho λo z=>z.up (g2.vis.trans s3)⟩
   |ct e2=>exactλσ2 H3 Hv3 I3 s3=>⟨e2,Hv3,I3,per _ _ _ _ pp (g2.vis.trans s3) I3.vw,Fin.mono ho λo z=>z.up (g2.vis.trans s3)⟩
   |bk e2=>exactλσ2 H3 Hv3 I3 s3=>ho σ2 H3 Hv3 I3 (g2.vis.trans s3)
   |rt w=>exact ho
  ·have hi:i=ds.length:=by omega
   subst hi;refine .inl ⟨O.stop H' Hv' pp I'.vw,?_⟩;rw[wQ (ba _)]at hf;exact hf σ' H' Hv' I' (cK.refl _))
theorem Ew{tt:TT}{c:Mi.C}(k:Nat)(hc:AT M tt c)(hb:AS M κ t m):AS M κ (F0 tt t) (Mi.sI k c m):=λH0 Hv0 e σ H Hv D I h=>by
 refine⟨λj σ' H'=>∃e' Hv',R1 M H0 Hv0 e' σ' H' Hv'/\Fin (Mi.iZ c m j e') (k4 M κ H0 Hv0 D Hv'),⟨k,e,Hv,I,h⟩,?_⟩;rintro j σ' H' ⟨e',Hv',I',hf⟩;cases j with
 |zero=>exact hf.elim
 |succ j=>
  refine hc e' σ' H' Hv' _ I'.toR0 ((au.mp hf).mono λb hb' H1 Hv1 g1=>?_);cases b with
  |false=>exact nq ((Mi.kR (Mi.oX hb')) σ' H1 Hv1 (I'.grow g1) g1.vis)
  |true=>
   refine mE ⟨λσ2 H2=>∃e2 Hv2,R1 M H0 Hv0 e2 σ2 H2 Hv2/\Fin (Mi.iZ c m j e2) (k4 M κ H0 Hv0 D Hv2),λσ2 H2 z=>⟨j,Bs j,z⟩,?_⟩;refine hb H0 Hv0 e' σ' H1 Hv1 _ (I'.grow g1) ((au.mp (Mi.pc hb')).mono λo ho=>?_);cases o with
   |nx e2=>exactλσ2 H2 Hv2 I2 s2=>⟨e2,Hv2,I2,Fin.mono ho λo z=>z.up (g1.vis.trans s2)⟩
   |ct e2=>exactλσ2 H2 Hv2 I2 s2=>⟨e2,Hv2,I2,Fin.mono ho λo z=>z.up (g1.vis.trans s2)⟩
   |bk e2=>exactλσ2 H2 Hv2 I2 s2=>ho σ2 H2 Hv2 I2 (g1.vis.trans s2)
   |rt w=>exact ho
end
end A
namespace A
open PySem L2 PyProof.Rows
open Mi (D W Rs Fin au Out Tg)
variable[Tb:bE]
section
variable{M:Nat->Bool}{κ:Kd}{te:TE}{a b:Mi.E}{w:Mi.EW}{K:aE}
theorem R1.write{H0 Hv0:Hp}{e:Mi.Env}{σ:L2.St}{H Hv:Hp}(I:R1 M H0 Hv0 e σ H Hv){i:Nat}{w w':W}{p:ah}{o:HO}(hm:M i=true)(he:e[i]? = ab (ab w))(hs:σ[i]? = ab (ab (.ref p)))(c:eG Hv w' o):R1 M H0 Hv0 (e.set i (ab w')) σ (upd H p o) Hv:=by
 have hp:∃o',H p=ab o'/\Hv p=ae/\tI o':=by obtain⟨v,q,a,o',e1,q1,n,c'⟩:=I.own i w he hm;rw[hs]at q;cases q;cases e1;exact⟨o',q1,n,c'.Hg⟩
 obtain⟨o',hp,hn,hcc⟩:=hp;have h0:H0 p=ae:=I.fresh i w p he hm hs;have vw:Vw (upd H p o) Hv:=by
  refine⟨λb u q=>?_,λb xs q=>?_,λb z u q=>?_,I.vw.cd.put hp hcc c.nw,I.vw.nv⟩
  ·rw[aC (cJ q hn)];exact I.vw.sub b u q
  ·by_cases hb:b=p
   ·subst hb;rw[bj]at q;cases q;exact c.cell.elim
   ·rw[aC hb]at q;exact I.vw.tup b xs q
  ·by_cases hb:b=p
   ·subst hb;rw[bj]at q;cases q;exact c.cell.elim
   ·rw[aC hb]at q;exact I.vw.frz b z u q
 have get:∀{j:Nat} {w2:W},(e.set i (ab w'))[j]? = ab (ab w2)->(i=j/\w'=w2)\/(i≠j/\e[j]? = ab (ab w2)):=λ{j w2} h=>by
  rcases j8 h with ⟨x,y,_⟩|z
  ·exact .inl ⟨x,gi y⟩
  ·exact .inr z
 have get':∀{j:Nat} {w2:W},(e.set i (ab w'))[j]? = ab (ab w2)->∃w3,e[j]? = ab (ab w3):=λ{j w2} h=>by
  rcases get h with ⟨x,_⟩|⟨_,z⟩
  ·subst x;exact⟨w,he⟩
  ·exact⟨w2,z⟩
 refine⟨⟨vw,by rw[iT];exact I.len,λj w2 h m=>?_,λj w2 h m=>?_⟩,⟨I.gw.old.put h0 hp,I.gw.vis,vw,I.gw.hid⟩,λj w2 x h m q=>?_,λj k w1 w2 x y hjk h1 h2 m1 m2 q1 q2=>?_⟩
 ·rcases get h with ⟨rfl,_⟩|⟨_,z⟩
  ·rw[hm]at m;cases m
  ·exact I.nob j w2 z m
 ·rcases get h with ⟨rfl,rfl⟩|⟨n,z⟩
  ·exact⟨.ref p,hs,p,o,rfl,bj,hn,c⟩
  ·obtain⟨v,q,x,u,e1,q1,n1,c1⟩:=I.own j w2 z m;subst e1;have:=I.sep i j w w2 p x n he z hm m hs q;exact⟨.ref x,q,x,u,rfl,by rw[aC (cR this)];exact q1,n1,c1⟩
 ·obtain⟨w3,z⟩:=get' h;exact I.fresh j w3 x z m q
 ·obtain⟨w3,z3⟩:=get' h1;obtain⟨w4,z4⟩:=get' h2;exact I.sep j k w3 w4 x y hjk z3 z4 m1 m2 q1 q2
theorem R1.cell{H0 Hv0:Hp}{e:Mi.Env}{σ:L2.St}{H Hv:Hp}(I:R1 M H0 Hv0 e σ H Hv){i:Nat}{w:W}(hm:M i=true)(he:e[i]? = ab (ab w)):∃p o,σ[i]? = ab (ab (.ref p))/\H p=ab o/\Hv p=ae/\H0 p=ae/\eG Hv w o:=by obtain⟨v,q,p,o,rfl,q1,n,c⟩:=I.own i w he hm;exact⟨p,o,q,q1,n,I.fresh i w p he hm q,c⟩
theorem sH{e:Mi.Env}{i:Nat}{k:List D->Prop}(h:Fin (Mi.getL e i) k):∃ds,e[i]? = ab (ab (.d (.lst ds)))/\k ds:=by
 unfold Mi.getL at h;split at h
 ·exact⟨_,‹_›,h⟩
 ·exact h.elim
theorem R1.list{H0 Hv0:Hp}{e:Mi.Env}{σ:L2.St}{H Hv:Hp}(I:R1 M H0 Hv0 e σ H Hv){i:Nat}{ds:List D}(hm:M i=true)(he:e[i]? = ab (ab (.d (.lst ds)))):∃p xs,σ[i]? = ab (ab (.ref p))/\H p=ab (.lst xs)/\Hv p=ae/\P2 (Rep Hv) ds xs:=by
 obtain⟨p,o,q,q1,n,_,c⟩:=I.cell hm he;cases o with
 |lst xs=>exact⟨p,xs,q,q1,n,c⟩
 |_=>exact c.elim
theorem R1.name{H0 Hv0:Hp}{e:Mi.Env}{σ:L2.St}{H Hv H1 Hv1:Hp}(I:R1 M H0 Hv0 e σ H Hv)(g:bb H Hv H1 Hv1){i:Nat}{w:W}{v:V}(hm:M i=true)(k:qN H H1 Hv1 w v):R1 M H0 Hv0 (e.set i (ab w)) (σ.set i (ab v)) H1 Hv1:=by
 obtain⟨p,o,rfl,hf,hp,hn,c⟩:=k;have I1:=I.grow g;have other:∀{j:Nat} {w2:W} {x:ah},e[j]? = ab (ab w2)->M j=true->σ[j]? = ab (ab (.ref x))->x≠p:=λ{j w2 x} h m q=>by
  obtain⟨p',o',q',q1,_⟩:=I.cell m h;rw[q]at q';cases q';exact cJ q1 hf
 refine⟨⟨I1.vw,by rw[iT,iT];exact I.len,λj w2 h m=>?_,λj w2 h m=>?_⟩,I1.gw,λj w2 x h m q=>?_,λj k w1 w2 x y hjk h1 h2 m1 m2 q1 q2=>?_⟩
 ·rcases j8 h with ⟨rfl,_⟩|⟨n,z⟩
  ·rw[hm]at m;cases m
  ·obtain⟨u,q,r⟩:=I1.nob j w2 z m;exact⟨u,by rw[fi n];exact q,r⟩
 ·rcases j8 h with ⟨rfl,h,l⟩|⟨n,z⟩
  ·cases h;exact⟨.ref p,by rw[mf (by rw[I.len];exact l)],p,o,rfl,hp,hn,c⟩
  ·obtain⟨u,q,r⟩:=I1.own j w2 z m;exact⟨u,by rw[fi n];exact q,r⟩
 ·rcases j8 h with ⟨rfl,h,l⟩|⟨n,z⟩
  ·rw[mf (by rw[I.len];exact l)]at q;cases q;exact I.gw.old.free hf
  ·rw[fi n]at q;exact I.fresh j w2 x z m q
 ·rcases j8 h1 with ⟨rfl,_,l⟩|⟨n,z⟩
  ·rw[mf (by rw[I.len];exact l)]at q1;cases q1;rcases j8 h2 with ⟨rfl,_,_⟩|⟨n2,z2⟩
   ·exact absurd rfl hjk
   ·rw[fi n2]at q2;exact cR (other z2 m2 q2)
  ·rw[fi n]at q1;rcases j8 h2 with ⟨rfl,_,l⟩|⟨n2,z2⟩
   ·rw[mf (by rw[I.len];exact l)]at q2;cases q2;exact other z m1 q1
   ·rw[fi n2]at q2;exact I.sep j k w1 w2 x y hjk z z2 m1 m2 q1 q2
theorem lZ(i:Nat)(hm:M i=true)(ha:AE M qN te a):AS M κ (kj te (fL i)) (Mi.a6 i a):=λH0 Hv0 e σ H Hv D I h=>
 ha e σ H Hv _ I.toR0 ((au.mp h).mono λd hd v H1 Hv1 g1 r=>hd _ H1 Hv1 (I.name g1 hm r) g1.vis)
theorem zV(i:Nat)(hm:M i=true)(ha:AW M qN te w):AS M κ (kj te (fL i)) (Mi.jX i w):=λH0 Hv0 e σ H Hv D I h=>
 ha e σ H Hv _ I.toR0 ((au.mp h).mono λd hd v H1 Hv1 g1 r=>hd _ H1 Hv1 (I.name g1 hm r) g1.vis)
theorem FT:AW M qN HL (λ_=>.ok (.dt [])):=λe σ H Hv Q I h p hp=>
 h _ _ Hv (.qf I.vw trivial hp) ⟨p,.dT [],rfl,hp,bj,oD I.vw hp,.nil⟩
theorem mB(i:Nat)(hm:M i=true)(ha:AE M qV te a):AS M κ (k8 (qC K "list" yC (dM i) (fu te f6))) (Mi.eM i a):=λH0 Hv0 e σ H Hv D I h=>by
 obtain⟨d,hd,h⟩:=j6 (au.mp h);obtain⟨ds,he,h⟩:=sH (au.mp h);obtain⟨hz,h⟩:=Mi.cr h;obtain⟨p,xs,q,q1,n,c⟩:=I.list hm he;refine⟨.ref p,q,.inl ⟨rfl,xs,.inl (.inl q1)⟩,ha e σ H Hv _ I.toR0 (by
  rw[hd];intro v H1 Hv1 g1 r;have I1:=I.grow g1;refine⟨p,xs,v,rfl,rfl,g1.old.at q1,by rw[<- c.len,b9];exact hz,?_⟩;exact h σ _ Hv1 (I1.write hm he q (show eG Hv1 (.d (.lst (ds++[d]))) (.lst (xs++[v]))from(fe g1.vis c).append (.cons r .nil))) g1.vis)⟩
theorem gC{α:Type}{o:Option α}{k:α->Prop}(h:Fin (Mi.cG o) k):∃x,o=ab x/\k x:=by
 cases o with
 |some x=>exact⟨x,rfl,h⟩
 |none=>exact h.elim
theorem K7(x y:Nat)(hx:M x=false)(hy:M y=true):AS M κ (kj (mQ K "list" Hr (dM y)) (fL x)) (Mi.vb x y):=λH0 Hv0 e σ H Hv D I h=>by
 obtain⟨ds,he,h⟩:=sH (au.mp h);obtain⟨d,hd,h⟩:=gC (au.mp h);obtain⟨p,xs,q,q1,n,c⟩:=I.list hy he;rw[c.len]at hd;obtain⟨v,hv,r⟩:=c.getL hd;exact⟨.ref p,q,.inl ⟨rfl,xs,.inl (.inl q1)⟩,p,xs,v,rfl,rfl,q1,hv,h _ _ Hv ((I.write hy he q (show eG Hv (.d (.lst ds.dropLast)) (.lst xs.dropLast)from c.dropLast)).set hx r) (cK.refl _)⟩
theorem Mc{n:Nat}{i:Int}{k:Nat}(h:Mi.gB n i=ab k):seqIndex? i n=ab k:=by
 unfold Mi.gB at h;split at h
 ·split at h
  ·rw[seqIndex_of (by omega) (by omega)];exact h
  ·cases h
 ·split at h
  ·rw[seqIndex_neg (by omega) (by omega)];exact h
  ·cases h
theorem P4{ds:List D}{i:Int}{k:D×List D->Prop}(h:Fin (Mi.vU ds i) k):-(2 ^ 63)<=i/\i<2 ^ 63/\∃j d,Mi.gB ds.length i=ab j/\ds[j]? = ab d/\k (d,ds.eraseIdx j):=by obtain⟨⟨h1,h2⟩,h⟩:=Mi.cr h;obtain⟨j,hj,h⟩:=gC (au.mp h);obtain⟨d,hd,h⟩:=gC (au.mp h);exact⟨h1,h2,j,d,hj,hd,h⟩
theorem KH(x y:Nat)(hxy:x≠y)(hx:M x=true)(hy:M y=true)(ha:AE M qP te a):AS M κ (k8 (qC K "list" yC (dM x) (fu (qC K "list" DS (dM y) (fu te f6)) f6))) (Mi.vG x y a):=λH0 Hv0 e σ H Hv D I h=>by
 obtain⟨z,hz,h⟩:=j6 (au.mp h);obtain⟨i,rfl,h⟩:=Ae (au.mp h);obtain⟨ds,he,h⟩:=sH (au.mp h);obtain⟨h1,h2,j,d,hj,hd,h⟩:=P4 (au.mp h);obtain⟨es,he2,h⟩:=sH (au.mp h);obtain⟨hsz,h⟩:=Mi.cr h;have JS:e[x]? = ab (ab (.d (.lst es))):=by
  have he2:(e.set y (ab (.d (.lst (ds.eraseIdx j)))))[x]? = _:=he2
  rwa [fi (cR hxy)]at he2
 obtain⟨p,xs,q,q1,n,c⟩:=I.list hy he;obtain⟨p',xs',q',q1',n',c'⟩:=I.list hx JS;have hpp:p'≠p:=I.sep x y _ _ p' p hxy JS he hx hy q' q;refine⟨.ref p',q',.inl ⟨rfl,xs',.inl (.inl q1')⟩,.ref p,q,.inl ⟨rfl,xs,.inl (.inl q1)⟩,ha e σ H Hv _ I.toR0 (by
  rw[hz];intro v H1 Hv1 g1 r;have I1:=I.grow g1;cases RD.int r;obtain⟨u,hu,ru⟩:=c.getL hd;rw[c.len]at hj;refine⟨p,xs,i,j,u,rfl,rfl,g1.old.at q1,h1,h2,Mc hj,hu,?_⟩;have I2:=I1.write hy he q (show eG Hv1 (.d (.lst (ds.eraseIdx j))) (.lst (xs.eraseIdx j))from(fe g1.vis c).erase j);refine⟨p',xs',u,rfl,rfl,by rw[aC hpp];exact g1.old.at q1',by rw[<- c'.len,b9];exact hsz,?_⟩;exact h σ _ Hv1 (I2.write hx he2 q' (show eG Hv1 (.d (.lst (es++[d]))) (.lst (xs'++[u]))from(fe g1.vis c').append (.cons (oS g1.vis ru) .nil))) g1.vis)⟩
theorem qh(i:Nat)(hm:M i=true):AS M qN (pA (dM i)) (Mi.bB (Mi.wV i)):=λH0 Hv0 e σ H Hv D I h=>by
 obtain⟨w,he,h⟩:=lV (au.mp h);obtain⟨p,o,q,q1,n,h0,c⟩:=I.cell hm he;exact⟨.ref p,q,h _ H Hv I.gw ⟨p,o,rfl,h0,q1,n,c⟩⟩
theorem R1.M5{H0 Hv0:Hp}{e:Mi.Env}{σ:L2.St}{H Hv:Hp}(I:R1 M H0 Hv0 e σ H Hv){y:Nat}{w:W}(hy:M y=true)(he:e[y]? = ab (ab w)):∃p Hv',σ[y]? = ab (ab (.ref p))/\R1 M H0 Hv0 (e.set y ae) σ H Hv'/\cK Hv Hv'/\gP Hv' w (.ref p):=by
 obtain⟨p,o,q,q1,n,h0,c⟩:=I.cell hy he;obtain⟨vw,s⟩:=I.vw.show q1 n c.nt;have nj:∀{j:Nat} {w':W},(e.set y ae)[j]? = ab (ab w')->y≠j/\e[j]? = ab (ab w'):=λ{j w'} h=>by
  rcases j8 h with ⟨_,h,_⟩|z
  ·cases h
  ·exact z
 refine⟨p,upd Hv p o,q,⟨⟨vw,by rw[iT];exact I.len,λj w' h m=>?_,λj w' h m=>?_⟩,⟨I.gw.old,I.gw.vis.trans s,vw,λb u z1 z2=>?_⟩,λj w' x h m z=>?_,λj k w1 w2 x z hjk h1 h2 m1 m2 z1 z2=>?_⟩,s,ve bj (c.same s)⟩
 ·obtain⟨_,h⟩:=nj h;obtain⟨v,z,r⟩:=I.nob j w' h m;exact⟨v,z,oB s r⟩
 ·obtain⟨hne,h⟩:=nj h;obtain⟨v,z,x,u,e1,q2,n2,c2⟩:=I.own j w' h m;subst e1;have:=I.sep y j w w' p x hne he h hy m q z;exact⟨.ref x,z,x,u,rfl,q2,by rw[aC (cR this)];exact n2,c2.same s⟩
 ·rw[aC (cJ z1 h0)];exact I.gw.hid b u z1 z2
 ·exact I.fresh j w' x (nj h).2 m z
 ·exact I.sep j k w1 w2 x z hjk (nj h1).2 (nj h2).2 m1 m2 z1 z2
theorem Ad{κ':Type}[DecidableEq κ']{H:Hp}{k:κ'}{am:List (κ'×D)}{kv:List (κ'×V)}(h:fc H am kv):match Mi.iJ am k with
 |some d=>∃v,hW kv k=ab v/\Rep H d v
 |none=>hW kv k=ae:=by
 unfold Mi.iJ hW
 induction h with
 |nil=>rfl
 | @cons p q l m hpq t ih=>
  rw[kB,kB,hpq.1];by_cases hk:q.1=k
  ·rw[cM hk];exact⟨q.2,rfl,hpq.2⟩
  ·rw[dC hk];exact ih
theorem CP{κ':Type}[DecidableEq κ']{H:Hp}{k:κ'}{d:D}{v:V}(r:Rep H d v){am:List (κ'×D)}{kv:List (κ'×V)}(h:fc H am kv):fc H (Mi.putK k d am) (L2.putK kv k v):=by
 have e:(am.any λx=>decide (x.1=k))=(kv.any λx=>decide (x.1=k)):=by
  induction h with
  |nil=>rfl
  | @cons p q l m hpq t ih=>rw[iH,iH,ih,hpq.1]
 unfold Mi.putK L2.putK;rw[e];split
 ·rename_i hh;clear hh e
  induction h with
  |nil=>exact .nil
  | @cons p q l m hpq t ih=>
   rw[bO,bO];refine .cons ?_ ih
   ·by_cases hk:q.1=k
    ·rw[aH hk,aH (hpq.1.trans hk)];exact⟨hpq.1,r⟩
    ·rw[ay hk,ay (λz=>hk (hpq.1.symm.trans z))];exact hpq
 ·exact P2.append h (.cons ⟨rfl,r⟩ .nil)
end
end A
namespace A
open PySem L2 PyProof.Rows
open Mi (D W Rs Fin au Out Tg)
variable[Tb:bE]
section
variable{X:Cx}{K:aE}
def Ly:R2:=λx y H Q=>∃i j,x=.str i/\y=.str j/\i.length+j.length<=sizeLine/\Q (.str (i++j)) H
theorem oQ{af:List (ah×Obj)}{σ:L2.St}{H:Hp}{s:ao}{a:ah}{xs:List V}(I:Inv X af σ H s)(h:Lst H a xs):∃(aj:List ag) (n:Nat),Vals xs aj/\xs.length<=sizeLine/\s.heap.get? a=ab { cls:=.type "list", data:=.seq aj.toArray n }:=by
 rcases h with h|⟨o,h⟩
 ·obtain⟨z,aj,n,r,e⟩:=I.hok a _ h;exact⟨aj,n,r,z,e⟩
 ·obtain⟨_,z,aj,n,r,e⟩:=I.hok a _ h;exact⟨aj,n,r,z,e⟩
def D6:R2:=λx y H Q=>∃l b xs zs,x=.ref l/\y=.ref b/\Lst H l xs/\Lst H b zs/\xs.length+zs.length<=sizeLine/\∀p,H p=ae->Q (.ref p) (upd H p (.lst (xs++zs)))
theorem Oj:cQ X (binaryOp .Add) D6:=by
 intro af s σ H x y v u Q I rx ry h;obtain⟨l,b,xs,zs,rfl,rfl,hH,hB,hz,q⟩:=h;cases rx;cases ry;obtain⟨aj,n,r,z,e⟩:=oQ I hH;obtain⟨its2,n2,r2,z2,e2⟩:=oQ I hB;have hl:=r.length;have hl2:=r2.length;refine PySem.P.add_list e e2 ?_ (by rw[bK,bK];omega);have ea:aj.toArray++its2.toArray=(aj++its2).toArray:=by simp
 rw[ea];exact⟨.ref _,_,I.OW (t':=s.toks) (r.append r2) (by rw[dI];omega),rfl,q _ I.fresh⟩
def FL:R2:=λx y H Q=>jI (λi j=>.int (i+j)) x y H Q\/Ly x y H Q\/D6 x y H Q
theorem ff:cQ X (binaryOp .Add) FL:=RI.or (cQ.or MP Oj)
theorem GX{H Hv:Hp}(vw:Vw H Hv){ds:List D}{xs:List V}(r:P2 (Rep Hv) ds xs){p:ah}(hp:H p=ae):bb H Hv (upd H p (.lst xs)) Hv/\qN H (upd H p (.lst xs)) Hv (.d (.lst ds)) (.ref p):=⟨.qf vw trivial hp,p,.lst xs,rfl,hp,bj,oD vw hp,r⟩
theorem z8{H Hv:Hp}(vw:Vw H Hv){ds:List D}{xs:List V}(r:P2 (Rep Hv) ds xs){p:ah}(hp:H p=ae):bb H Hv (upd H p (.lst xs)) (upd Hv p (.lst xs))/\qV H (upd H p (.lst xs)) (upd Hv p (.lst xs)) (.d (.lst ds)) (.ref p):=by have g:bb H Hv (upd H p (.lst xs)) (upd Hv p (.lst xs)):=.new vw hp;exact⟨g,lC.mpr ⟨p,xs,rfl,.inl bj,fe g.vis r⟩⟩
theorem ot{H Hv:Hp}(vw:Vw H Hv){ds:List D}{xs:List V}(r:P2 (Rep Hv) ds xs){p:ah}(hp:H p=ae):bb H Hv (upd H p (.tup xs)) (upd Hv p (.tup xs))/\qV H (upd H p (.tup xs)) (upd Hv p (.tup xs)) (.d (.tup ds)) (.ref p):=by have g:bb H Hv (upd H p (.tup xs)) (upd Hv p (.tup xs)):=.new vw hp;exact⟨g,js.mpr ⟨p,xs,rfl,bj,fe g.vis r⟩⟩
theorem fb:B2 qV FL Mi.bq:=λx y v u H Hv Q vw rx ry h=>by
 cases x with
 | int i=>cases y with
  |int j=>cases RD.int rx;cases RD.int ry;exact .inl ⟨i,j,rfl,rfl,h _ H Hv (.refl vw) ig⟩
  |_=>exact h.elim
 | str i=>cases y with
  |str j=>
   cases RD.str rx;cases RD.str ry;obtain⟨hz,h⟩:=Mi.cr h;exact .inr (.inl ⟨i,j,rfl,rfl,by rw[b9];exact hz,h _ H Hv (.refl vw) sR⟩)
  |_=>exact h.elim
 | lst a=>cases y with
  |lst b=>
   obtain⟨hz,h⟩:=Mi.cr h;obtain⟨p,xs,rfl,l1,r1⟩:=RD.lst vw rx;obtain⟨q,ys,rfl,l2,r2⟩:=RD.lst vw ry;refine .inr (.inr ⟨p,q,xs,ys,rfl,rfl,l1,l2,by rw[<- r1.len,<- r2.len,b9];exact hz,λa ha=>?_⟩);obtain⟨g,k⟩:=z8 vw (r1.append r2) ha;exact h _ _ _ g k
  |_=>exact h.elim
 |_=>cases y<;>exact h.elim
theorem Gp:B2 qV (jI λi j=>.int (i-j)) Mi.lL:=λx y v u H Hv Q vw rx ry h=>by
 cases x with
 | int i=>cases y with
  |int j=>cases RD.int rx;cases RD.int ry;exact⟨i,j,rfl,rfl,h _ H Hv (.refl vw) ig⟩
  |_=>exact h.elim
 |_=>cases y<;>exact h.elim
theorem i9:B2 qV (rI uL λi j=>.int (i*j)) Mi.c5:=λx y v u H Hv Q vw rx ry h=>by
 cases x with
 | int i=>cases y with
  |int j=>cases RD.int rx;cases RD.int ry;obtain⟨hz,h⟩:=Mi.cr h;exact⟨i,j,rfl,rfl,hz,h _ H Hv (.refl vw) ig⟩
  |_=>exact h.elim
 |_=>cases y<;>exact h.elim
theorem m8:B2 qV (rI EC λi j=>.int (i/j)) Mi.et:=λx y v u H Hv Q vw rx ry h=>by
 cases x with
 | int i=>cases y with
  |int j=>cases RD.int rx;cases RD.int ry;obtain⟨hz,h⟩:=Mi.cr h;exact⟨i,j,rfl,rfl,hz,h _ H Hv (.refl vw) ig⟩
  |_=>exact h.elim
 |_=>cases y<;>exact h.elim
theorem iD:B2 qV (rI (λ_ j=>0<j) λi j=>.int (i%j)) Mi.cD:=λx y v u H Hv Q vw rx ry h=>by
 cases x with
 | int i=>cases y with
  |int j=>cases RD.int rx;cases RD.int ry;obtain⟨hz,h⟩:=Mi.cr h;exact⟨i,j,rfl,rfl,hz,h _ H Hv (.refl vw) ig⟩
  |_=>exact h.elim
 |_=>cases y<;>exact h.elim
theorem HV:B1 qV (rU λi=>.int (-i)) Mi.Am:=λx v H Hv Q vw rx h=>by
 cases x with
 |int i=>cases RD.int rx;exact⟨i,rfl,h _ H Hv (.refl vw) ig⟩
 |_=>exact h.elim
def Hx:R2:=λx y H Q=>jI (λi j=>.bl (decide (i<j))) x y H Q\/∃i j,x=.str i/\y=.str j/\Q (.bl (decide (i.cps.toList<j.cps.toList))) H
theorem uY:cQ X (compareOp .Lt) Hx:=Qw.or KL
def FQ:R2:=λx y H Q=>jI (λi j=>.bl (decide (j<i))) x y H Q\/∃i j,x=.str i/\y=.str j/\Q (.bl (decide (j.cps.toList<i.cps.toList))) H
theorem yv:cQ X (compareOp .Gt) FQ:=Nw.or Oa
theorem uN:B2 qV Hx Mi.gq:=λx y v u H Hv Q vw rx ry h=>by
 cases x with
 | int i=>cases y with
  |int j=>cases RD.int rx;cases RD.int ry;exact .inl ⟨i,j,rfl,rfl,h _ H Hv (.refl vw) fE⟩
  |_=>exact h.elim
 | str i=>cases y with
  |str j=>cases RD.str rx;cases RD.str ry;exact .inr ⟨i,j,rfl,rfl,h _ H Hv (.refl vw) fE⟩
  |_=>exact h.elim
 |_=>cases y<;>exact h.elim
theorem zk:B2 qV FQ Mi.mX:=λx y v u H Hv Q vw rx ry h=>by
 cases x with
 | int i=>cases y with
  |int j=>cases RD.int rx;cases RD.int ry;exact .inl ⟨i,j,rfl,rfl,h _ H Hv (.refl vw) fE⟩
  |_=>exact h.elim
 | str i=>cases y with
  |str j=>cases RD.str rx;cases RD.str ry;exact .inr ⟨i,j,rfl,rfl,h _ H Hv (.refl vw) fE⟩
  |_=>exact h.elim
 |_=>cases y<;>exact h.elim
def vn(K:aE)(neg:Bool):R2:=λx y H Q=>∃d e,L2.Rep K H d x/\L2.Rep K H e y/\d.dep<=16/\Q (.bl (if neg then !Mi.bn d e else Mi.bn d e)) H
theorem tU:B2 qV (vn K false) Mi.fU:=λx y v u H Hv Q vw rx ry h=>by
 obtain⟨hz,h⟩:=Mi.cr h;exact⟨x,y,lP K (RD.full vw rx),lP K (RD.full vw ry),hz,h _ H Hv (.refl vw) fE⟩
theorem kN:B2 qV (vn K true) Mi.de:=λx y v u H Hv Q vw rx ry h=>by
 obtain⟨hz,h⟩:=Mi.cr h;exact⟨x,y,lP K (RD.full vw rx),lP K (RD.full vw ry),hz,h _ H Hv (.refl vw) fE⟩
def Db(K:aE):R2:=λx y H Q=>vz K false x y H Q\/HX false x y H Q
theorem jb(hu:X.A.units+64<cLine):cQ X (compareOp .In) (Db X.K):=(LU hu).or Po
theorem v9{H:Hp}{ds:List D}{xs:List V}(h:P2 (Rep H) ds xs):L2.bc K H ds xs:=ww K (lI.mpr h)
theorem jr:B2 qV (Db K) Mi.bz:=λx y v u H Hv Q vw rx ry h=>by
 cases y with
 |lst ds=>
  obtain⟨hz,h⟩:=Mi.cr h;obtain⟨p,xs,rfl,l1,r1⟩:=RD.lst vw ry;exact .inl ⟨p,xs,x,ds,rfl,.inl l1.sq,lP K (RD.full vw rx),v9 (fe vw.sub r1),hz,h _ H Hv (.refl vw) fE⟩
 |tup ds=>
  obtain⟨hz,h⟩:=Mi.cr h;obtain⟨p,xs,rfl,l1,_,r1⟩:=RD.tup vw ry;exact .inl ⟨p,xs,x,ds,rfl,.inr (.inl (.inl l1)),lP K (RD.full vw rx),v9 (fe vw.sub r1),hz,h _ H Hv (.refl vw) fE⟩
 | str z=>cases x with
  |str c=>
   obtain⟨hz,h⟩:=Mi.cr h;cases RD.str rx;cases RD.str ry;obtain⟨⟨l⟩⟩:=c
   match l,hz with
   |[c],_=>exact .inr ⟨c,z,rfl,rfl,h _ H Hv (.refl vw) fE⟩
  |_=>exact h.elim
 |_=>exact h.elim
theorem mP:B2 qV (vz K true) Mi.eQ:=λx y v u H Hv Q vw rx ry h=>by
 cases y with
 |lst ds=>
  obtain⟨hz,h⟩:=Mi.cr h;obtain⟨p,xs,rfl,l1,r1⟩:=RD.lst vw ry;exact⟨p,xs,x,ds,rfl,.inl l1.sq,lP K (RD.full vw rx),v9 (fe vw.sub r1),hz,h _ H Hv (.refl vw) fE⟩
 |tup ds=>
  obtain⟨hz,h⟩:=Mi.cr h;obtain⟨p,xs,rfl,l1,_,r1⟩:=RD.tup vw ry;exact⟨p,xs,x,ds,rfl,.inr (.inl (.inl l1)),lP K (RD.full vw rx),v9 (fe vw.sub r1),hz,h _ H Hv (.refl vw) fE⟩
 |_=>exact h.elim
theorem P8{α:Type}(xs:List α)(i:Int):Mi.dH xs i=L2.dH xs i:=rfl
theorem Hu{α β:Type}{F:α->β->Prop}{l:List α}{m:List β}(h:P2 F l m){i:Int}{a:α}(e:Mi.dH l i=ab a):∃b,L2.dH m i=ab b/\F a b:=by
 unfold Mi.dH at e;cases hj:Mi.gB l.length i with
 |none=>rw[hj]at e;cases e
 |some j=>
  rw[hj]at e;have e:l[j]? = ab a:=e;obtain⟨b,hb,r⟩:=h.getL e;refine⟨b,?_,r⟩;rw[<- P8];unfold Mi.dH;rw[<- h.len,hj];exact hb
theorem bW:B2 qV (yX K) Mi.aG:=λx y v u H Hv Q vw rx ry h=>by
 cases y with
 |int i=>
  cases RD.int ry;cases x with
  |lst ds=>
   obtain⟨d,e,h⟩:=gC h;obtain⟨p,xs,rfl,l1,r1⟩:=RD.lst vw rx;obtain⟨z,ez,rz⟩:=Hu r1 e;exact .inl ⟨p,xs,i,z,rfl,rfl,l1.sq,ez,h z H Hv (.refl vw) rz⟩
  |tup ds=>
   obtain⟨d,e,h⟩:=gC h;obtain⟨p,xs,rfl,l1,_,r1⟩:=RD.tup vw rx;obtain⟨z,ez,rz⟩:=Hu r1 e;exact .inr (.inl ⟨p,xs,i,z,rfl,rfl,.inl (.inl l1),ez,h z H Hv (.refl vw) rz⟩)
  |str z=>
   cases RD.str rx;obtain⟨hz,h⟩:=Mi.cr h;obtain⟨c,e,h⟩:=gC (au.mp h);exact .inr (.inr ⟨z,i,c,rfl,rfl,by rw[b9];exact hz,e,h _ H Hv (.refl vw) sR⟩)
  |_=>exact h.elim
 |_=>cases x<;>exact h.elim
theorem D1{F:D->V->Prop}{l:List D}{m:List V}(h:P2 F l m)(lo hi:Option Int):P2 F (Mi.j5 l lo hi) (L2.qw m lo hi):=by unfold Mi.j5 L2.qw;rw[h.len];exact(h.drop _).take _
def Di(K:aE):V->Option Int->Option Int->Hp->VK->Prop:=λx lo hi H Q=>ze K x lo hi H Q\/F3 x lo hi H Q
theorem v7:kl X (Di X.K):=CG.or NN
theorem OZ(z:Str)(lo hi:Option Int):qO z lo hi=Mi.ng z lo hi:=by
 unfold qO Mi.ng Mi.j5;have:z.cps.toList.length=z.length:=by simp[pP]
 rw[this];rfl
theorem vA:BS qV (Di K) Mi.kU:=λx lo hi v H Hv Q vw rx h=>by
 cases x with
 |lst ds=>
  obtain⟨p,xs,rfl,l1,r1⟩:=RD.lst vw rx;refine .inl ⟨p,xs,rfl,l1.sq,λa ha=>?_⟩;obtain⟨g,k⟩:=z8 vw (D1 r1 lo hi) ha;exact h _ _ _ g k
 |str z=>
  cases RD.str rx;obtain⟨hz,h⟩:=Mi.cr h;exact .inr ⟨z,rfl,by rw[b9];exact hz,h _ H Hv (.refl vw) (by rw[OZ];exact sR)⟩
 |_=>exact h.elim
theorem qW{F:D->V->Prop}{d:D}{vs:List V}(h:P2 F [d] vs):∃v,vs=[v]/\F d v:=by
 cases h with
 |cons r t=>cases t;exact⟨_,rfl,r⟩
theorem Ii{F:D->V->Prop}{d e:D}{vs:List V}(h:P2 F [d,e] vs):∃v u,vs=[v,u]/\F d v/\F e u:=by
 cases h with
 | cons r t=>cases t with
  |cons r' t=>cases t;exact⟨_,_,rfl,r,r'⟩
def Gm(K:aE):List V->Hp->VK->Prop:=λxs H Q=>∃x n,xs=[x]/\HK K x H n/\Q (.int n) H
theorem ja:fZ X (.builtin "len") (Gm X.K):=NI
theorem dU:BN qV (Gm K) Mi.cH:=λds vs H Hv Q vw r h=>by
 match ds,r,h with
 |[.lst ds],r,h=>
  obtain⟨v,ev,rr⟩:=qW r;subst ev;replace r:=rr;obtain⟨p,xs,rfl,l1,r1⟩:=RD.lst vw r;refine⟨_,xs.length,rfl,.inl ⟨xs,l1.sq,rfl⟩,?_⟩;rw[<- r1.len];exact h _ H Hv (.refl vw) ig
 |[.tup ds],r,h=>
  obtain⟨v,ev,rr⟩:=qW r;subst ev;replace r:=rr;obtain⟨p,xs,rfl,l1,_,r1⟩:=RD.tup vw r;refine⟨_,xs.length,rfl,.inr ⟨xs,.inl (.inl l1),rfl⟩,?_⟩;rw[<- r1.len];exact h _ H Hv (.refl vw) ig
 |[.str z],r,h=>
  obtain⟨v,ev,rr⟩:=qW r;subst ev;replace r:=rr;cases RD.str r;obtain⟨hz,h⟩:=Mi.cr h;exact⟨_,z.length,rfl,⟨by rw[b9];exact hz,rfl⟩,h _ H Hv (.refl vw) ig⟩
def Gc:List V->Hp->VK->Prop:=λxs H Q=>∃i j z,xs=[.int i,.int j]/\max i j=z/\Q (.int z) H
def HR:List V->Hp->VK->Prop:=λxs H Q=>∃i j z,xs=[.int i,.int j]/\min i j=z/\Q (.int z) H
theorem HM(hc:X.calm=true):fZ X (.builtin "max") Gc:=OC hc
theorem N6(hc:X.calm=true):fZ X (.builtin "min") HR:=Lj hc
theorem sZ:BN qV Gc Mi.jp:=λds vs H Hv Q vw r h=>by
 match ds,r,h with
 |[.int i,.int j],r,h=>
  obtain⟨v,u,ev,rr,r'⟩:=Ii r;subst ev;replace r:=rr;cases RD.int r;cases RD.int r';exact⟨i,j,_,rfl,rfl,h _ H Hv (.refl vw) ig⟩
theorem zM:BN qV HR Mi.mJ:=λds vs H Hv Q vw r h=>by
 match ds,r,h with
 |[.int i,.int j],r,h=>
  obtain⟨v,u,ev,rr,r'⟩:=Ii r;subst ev;replace r:=rr;cases RD.int r;cases RD.int r';exact⟨i,j,_,rfl,rfl,h _ H Hv (.refl vw) ig⟩
theorem FD{Hv:Hp}:∀{ds:List D} {xs:List V} {bs:List Bool},Mi.j1 ds=ab bs->P2 (Rep Hv) ds xs->xs=bs.map V.bl
 |[],_,bs,e,r=>by cases e;cases r;rfl
 |.bl b::ds,_,bs,e,r=>by
  cases r with
  |cons x t=>
   cases hb:Mi.j1 ds with
   |none=>rw[Mi.j1,hb]at e;cases e
   |some cs=>
    rw[Mi.j1,hb]at e;cases e;rw[FD hb t,qx.mp x];rfl
 |.non::_,_,_,e,_=>by cases e
 |.int _::_,_,_,e,_=>by cases e
 |.str _::_,_,_,e,_=>by cases e
 |.lst _::_,_,_,e,_=>by cases e
 |.tup _::_,_,_,e,_=>by cases e
theorem yV:BN qV (EM K (·.any id)) Mi.rd:=λds vs H Hv Q vw r h=>by
 match ds,r,h with
 |[.lst ds],r,h=>
  obtain⟨v,ev,rr⟩:=qW r;subst ev;replace r:=rr;obtain⟨bs,e,h⟩:=gC (au.mp h);obtain⟨p,xs,rfl,l1,r1⟩:=RD.lst vw r;have:=FD e r1;subst this;exact⟨p,bs,rfl,l1.sq,h _ H Hv (.refl vw) fE⟩
def Is(K:aE):List V->Hp->VK->Prop:=λxs H Q=>∃p ys,xs=[.ref p]/\((eS K H p ys/\∀l,H l=ae->Q (.ref l) (upd H l (.tup ys)))\/(fw K H p ys/\Q (.ref p) H))
theorem vF:fZ X (.type "tuple") (Is X.K):=LA
theorem h9:BN qV (Is K) Mi.qe:=λds vs H Hv Q vw r h=>by
 match ds,r,h with
 |[.lst ds],r,h=>
  obtain⟨v,ev,rr⟩:=qW r;subst ev;replace r:=rr;obtain⟨p,xs,rfl,l1,r1⟩:=RD.lst vw r;refine⟨p,xs,rfl,.inl ⟨l1.sq,λa ha=>?_⟩⟩;obtain⟨g,k⟩:=ot vw r1 ha;exact h _ _ _ g k
 |[.tup ds],r,h=>
  obtain⟨v,ev,rr⟩:=qW r;subst ev;replace r:=rr;obtain⟨p,xs,rfl,l1,l2,r1⟩:=RD.tup vw r;exact⟨p,xs,rfl,.inr ⟨.inl (.inl l1),h _ H Hv (.refl vw) (js.mpr ⟨p,xs,rfl,l2,r1⟩)⟩⟩
end
end A
namespace A
open PySem L2 PyProof.Rows
open Mi (D W Rs Fin au Out Tg)
variable[Tb:bE]
section
variable{X:Cx}{af:List (ah×Obj)}{σ:L2.St}{H:Hp}{s:ao}
open SeqAt in
theorem P5:∀{d e:D} {A:bv} {x y:V} {u u':ag},d.flat=true->e.flat=true->L2.Rep X.K H d x->L2.Rep X.K H e y->RelV x u->RelV y u'->RcAt A s u u' (Mi.bn d e)/\RcNeAt A s u u' (!Mi.bn d e):=by
 intro d e A x y u u' h1 h2 r1 r2 q1 q2;cases d with
 |non=>
  rw[L2.Rep]at r1;subst r1;cases q1;cases e with
  |non=>rw[L2.Rep]at r2;subst r2;cases q2;exact⟨RcAt.none_none,RcNeAt.none_none⟩
  |bl b=>rw[L2.Rep]at r2;subst r2;cases q2;exact⟨RcAt.none_bool b,RcNeAt.none_bool b⟩
  |int b=>rw[L2.Rep]at r2;subst r2;obtain⟨t,rfl⟩:=q2;exact⟨RcAt.none_int b t,RcNeAt.none_int b t⟩
  |str b=>rw[L2.Rep]at r2;subst r2;obtain⟨t,rfl⟩:=q2;exact⟨RcAt.none_str b t,RcNeAt.none_str b t⟩
  |_=>cases h2
 |bl a=>
  rw[L2.Rep]at r1;subst r1;cases q1;cases e with
  |non=>rw[L2.Rep]at r2;subst r2;cases q2;exact⟨RcAt.bool_none a,RcNeAt.bool_none a⟩
  |bl b=>rw[L2.Rep]at r2;subst r2;cases q2;rw[Mi.bn];exact⟨RcAt.bool_bool a b,RcNeAt.bool_bool a b⟩
  |int b=>rw[L2.Rep]at r2;subst r2;obtain⟨t,rfl⟩:=q2;rw[Mi.bn];exact⟨RcAt.bool_int a b t,RcNeAt.bool_int a b t⟩
  |str b=>rw[L2.Rep]at r2;subst r2;obtain⟨t,rfl⟩:=q2;exact⟨RcAt.bool_str a b t,RcNeAt.bool_str a b t⟩
  |_=>cases h2
 |int a=>
  rw[L2.Rep]at r1;subst r1;obtain⟨t1,rfl⟩:=q1;cases e with
  |non=>rw[L2.Rep]at r2;subst r2;cases q2;exact⟨RcAt.int_none a t1,RcNeAt.int_none a t1⟩
  |bl b=>rw[L2.Rep]at r2;subst r2;cases q2;rw[Mi.bn];exact⟨RcAt.int_bool a t1 b,RcNeAt.int_bool a t1 b⟩
  |int b=>rw[L2.Rep]at r2;subst r2;obtain⟨t,rfl⟩:=q2;rw[Mi.bn];exact⟨RcAt.int_int a t1 b t,RcNeAt.int_int a t1 b t⟩
  |str b=>rw[L2.Rep]at r2;subst r2;obtain⟨t,rfl⟩:=q2;exact⟨RcAt.int_str a t1 b t,RcNeAt.int_str a t1 b t⟩
  |_=>cases h2
 |str a=>
  rw[L2.Rep]at r1;subst r1;obtain⟨t1,rfl⟩:=q1;cases e with
  |non=>rw[L2.Rep]at r2;subst r2;cases q2;exact⟨RcAt.str_none a t1,RcNeAt.str_none a t1⟩
  |bl b=>rw[L2.Rep]at r2;subst r2;cases q2;exact⟨RcAt.str_bool a t1 b,RcNeAt.str_bool a t1 b⟩
  |int b=>rw[L2.Rep]at r2;subst r2;obtain⟨t,rfl⟩:=q2;exact⟨RcAt.str_int a t1 b t,RcNeAt.str_int a t1 b t⟩
  |str b=>rw[L2.Rep]at r2;subst r2;obtain⟨t,rfl⟩:=q2;rw[Mi.bn];exact⟨RcAt.str_str a t1 b t,RcNeAt.str_str a t1 b t⟩
  |_=>cases h2
 |_=>cases h1
open SeqAt in
theorem HP(I:Inv X af σ H s):∀(d e:D) (A:bv) {x y:V} {u u':ag},d.dep<=16->A.units+17<cLine->L2.Rep X.K H d x->L2.Rep X.K H e y->RelV x u->RelV y u'->RcAt A s u u' (Mi.bn d e)/\RcNeAt A s u u' (!Mi.bn d e):=by
 intro d e A x y u u' hd hu h h' r r';have hu0:A.units<cLine:=by omega
 have item:∀{ds es:List D} {xs ys:List V} {aj its':List ag},Mi.dN ds<=16->L2.bc X.K H ds xs->L2.bc X.K H es ys->Vals xs aj->Vals ys its' ->
  ∀j (h1:j<aj.toArray.size) (h2:j<its'.toArray.size),EqAt A.in1 s aj.toArray[j] its'.toArray[j] (Mi.bn (ds.getD j .non) (es.getD j .non)):=by
  intro ds es xs ys aj its' hn q q' v v' j h1 h2;have h1':j<aj.length:=by simpa using h1
  have h2':j<its'.length:=by simpa using h2
  have e1:j<xs.length:=by rw[v.length];exact h1'
  have e2:j<ys.length:=by rw[v'.length];exact h2'
  have g1:xs[j]? = ab xs[j]:=by simp[e1]
  have g2:ys[j]? = ab ys[j]:=by simp[e2]
  obtain⟨w1,k1,r1⟩:=v.get g1;obtain⟨w2,k2,r2⟩:=v'.get g2;have t1:aj.toArray[j]=w1:=by obtain⟨_,k1⟩:=cu.mp k1;simpa using k1
  have t2:its'.toArray[j]=w2:=by obtain⟨_,k2⟩:=cu.mp k2;simpa using k2
  rw[t1,t2];have:=zp (ds:=ds) (j:=j);refine Et I 16 _ _ A.in1 (by omega) ?_ (q.get g1) (q'.get g2) r1 r2;show A.units+1+16<cLine;omega
 by_cases hdf:d.flat=true
 ·by_cases hef:e.flat=true
  ·exact P5 hdf hef h h' r r'
  ·cases e with
   |lst es=>
    rw[L2.Rep]at h';obtain⟨a,xs,rfl,q,_⟩:=h';cases r';obtain⟨aj,_,p,_⟩:=I.list q;cases d with
    |non=>rw[L2.Rep]at h;subst h;cases r;exact⟨RcAt.none_list p.isList hu0,RcNeAt.none_list p.isList hu0⟩
    |bl b=>rw[L2.Rep]at h;subst h;cases r;exact⟨RcAt.bool_list b p.isList hu0,RcNeAt.bool_list b p.isList hu0⟩
    |int b=>rw[L2.Rep]at h;subst h;obtain⟨t,rfl⟩:=r;exact⟨RcAt.int_list b t p.isList hu0,RcNeAt.int_list b t p.isList hu0⟩
    |str b=>rw[L2.Rep]at h;subst h;obtain⟨t,rfl⟩:=r;exact⟨RcAt.str_list b t p.isList hu0,RcNeAt.str_list b t p.isList hu0⟩
    |_=>cases hdf
   |tup es=>
    rw[L2.Rep]at h';obtain⟨a,xs,rfl,q,_⟩:=h';cases r';obtain⟨aj,_,p,_⟩:=I.tuple q;cases d with
    |non=>rw[L2.Rep]at h;subst h;cases r;exact⟨RcAt.none_tuple p hu0,RcNeAt.none_tuple p hu0⟩
    |bl b=>rw[L2.Rep]at h;subst h;cases r;exact⟨RcAt.bool_tuple b p hu0,RcNeAt.bool_tuple b p hu0⟩
    |int b=>rw[L2.Rep]at h;subst h;obtain⟨t,rfl⟩:=r;exact⟨RcAt.int_tuple b t p hu0,RcNeAt.int_tuple b t p hu0⟩
    |str b=>rw[L2.Rep]at h;subst h;obtain⟨t,rfl⟩:=r;exact⟨RcAt.str_tuple b t p hu0,RcNeAt.str_tuple b t p hu0⟩
    |_=>cases hdf
   |_=>exact absurd rfl hef
 ·cases d with
  |lst ds=>
   rw[L2.Rep]at h;obtain⟨a,xs,rfl,q,rr⟩:=h;cases r;obtain⟨aj,v,p,_⟩:=I.list q;have hn:Mi.dN ds<=16:=by rw[Mi.D.dep]at hd;omega
   cases e with
   |non=>rw[L2.Rep]at h';subst h';cases r';exact⟨RcAt.list_none p.isList hu0,RcNeAt.list_none p.isList hu0⟩
   |bl b=>rw[L2.Rep]at h';subst h';cases r';exact⟨RcAt.list_bool b p.isList hu0,RcNeAt.list_bool b p.isList hu0⟩
   |int b=>rw[L2.Rep]at h';subst h';obtain⟨t,rfl⟩:=r';exact⟨RcAt.list_int b t p.isList hu0,RcNeAt.list_int b t p.isList hu0⟩
   |str b=>rw[L2.Rep]at h';subst h';obtain⟨t,rfl⟩:=r';exact⟨RcAt.list_str b t p.isList hu0,RcNeAt.list_str b t p.isList hu0⟩
   |lst es=>
    rw[L2.Rep]at h';obtain⟨b,ys,rfl,q',rr'⟩:=h';cases r';obtain⟨its',v',p',_⟩:=I.list q';have l1:=rr.length;have l2:=rr'.length;have l3:=v.length;have l4:=v'.length;by_cases hl:ds.length=es.length
    ·rw[Mi.bn,sL hl];have e1:aj.toArray.size=ds.length:=by simp;omega
     have k1:=RcAt.lists p.isList p'.isList (by simp;omega) hu0 (item hn rr rr' v v');have k2:=RcNeAt.lists p.isList p'.isList (by simp;omega) hu0 (item hn rr rr' v v');rw[e1]at k1 k2;exact⟨k1,k2⟩
    ·rw[Mi.bn,rR hl];exact⟨RcAt.lists_lengths p.isList p'.isList (by simp;omega) hu0,RcNeAt.lists_lengths p.isList p'.isList (by simp;omega) hu0⟩
   |tup es=>
    rw[L2.Rep]at h';obtain⟨b,ys,rfl,q',_⟩:=h';cases r';obtain⟨its',_,p',_⟩:=I.tuple q';exact⟨RcAt.list_tuple p.isList p' hu0,RcNeAt.list_tuple p.isList p' hu0⟩
  |tup ds=>
   rw[L2.Rep]at h;obtain⟨a,xs,rfl,q,rr⟩:=h;cases r;obtain⟨aj,v,p,_⟩:=I.tuple q;have hn:Mi.dN ds<=16:=by rw[Mi.D.dep]at hd;omega
   cases e with
   |non=>rw[L2.Rep]at h';subst h';cases r';exact⟨RcAt.tuple_none p hu0,RcNeAt.tuple_none p hu0⟩
   |bl b=>rw[L2.Rep]at h';subst h';cases r';exact⟨RcAt.tuple_bool b p hu0,RcNeAt.tuple_bool b p hu0⟩
   |int b=>rw[L2.Rep]at h';subst h';obtain⟨t,rfl⟩:=r';exact⟨RcAt.tuple_int b t p hu0,RcNeAt.tuple_int b t p hu0⟩
   |str b=>rw[L2.Rep]at h';subst h';obtain⟨t,rfl⟩:=r';exact⟨RcAt.tuple_str b t p hu0,RcNeAt.tuple_str b t p hu0⟩
   |tup es=>
    rw[L2.Rep]at h';obtain⟨b,ys,rfl,q',rr'⟩:=h';cases r';obtain⟨its',v',p',_⟩:=I.tuple q';have l1:=rr.length;have l2:=rr'.length;have l3:=v.length;have l4:=v'.length;have k1:=RcAt.tuples p p' hu0 (item hn rr rr' v v');have k2:=RcNeAt.tuples p p' hu0 (item hn rr rr' v v');have e1:aj.toArray.size=ds.length:=by simp;omega
    have e2:its'.toArray.size=es.length:=by simp;omega
    rw[e1,e2]at k1 k2;by_cases hl:ds.length=es.length
    ·rw[Mi.bn,sL hl];rw[hl,Nat.min_self,i3,Bool.and_true,<- hl]at k1 k2;exact⟨k1,k2⟩
    ·rw[Mi.bn,rR hl];have:(ds.length==es.length)=false:=by simpa using hl
     rw[this,w9]at k1 k2;exact⟨k1,k2⟩
   |lst es=>
    rw[L2.Rep]at h';obtain⟨b,ys,rfl,q',_⟩:=h';cases r';obtain⟨its',_,p',_⟩:=I.list q';exact⟨RcAt.tuple_list p p'.isList hu0,RcNeAt.tuple_list p p'.isList hu0⟩
  |_=>exact absurd rfl hdf
theorem sr(hu:X.A.units+64<cLine):cQ X (compareOp .Eq) (vn X.K false):=by intro af s σ H x y v u Q I rx ry h;obtain⟨d,e,r1,r2,hz,q⟩:=h;exact(HP I d e X.A hz (by omega) r1 r2 rx ry).1 _ _ _ _ ⟨.bl _,H,I,rfl,q⟩
theorem k9(hu:X.A.units+64<cLine):cQ X (compareOp .NotEq) (vn X.K true):=by intro af s σ H x y v u Q I rx ry h;obtain⟨d,e,r1,r2,hz,q⟩:=h;exact(HP I d e X.A hz (by omega) r1 r2 rx ry).2 _ _ _ _ ⟨.bl _,H,I,rfl,q⟩
end
section
variable{X:Cx}{K:aE}{M:Nat->Bool}{κ:Kd}{ta tb te:TE}{a b:Mi.E}
theorem GD{H Hv:Hp}(vw:Vw H Hv){d:D}{v:V}(r:RD H Hv d v):gV K H v (.type (Mi.yS d)):=by
 cases d with
 |non=>cases RD.non r;exact .non
 |bl b=>cases RD.bl r;exact .bl b
 |int b=>cases RD.int r;exact .int b
 |str b=>cases RD.str r;exact .str b
 |lst ds=>
  obtain⟨p,xs,rfl,l,_⟩:=RD.lst vw r;rcases l with l|⟨o,l⟩
  ·exact .lst l
  ·exact .frz l
 |tup ds=>
  obtain⟨p,xs,rfl,l,_⟩:=RD.tup vw r;exact .tup l
def jY(K:aE)(T:String):Prop:=∀d:D,Bm K (.type (Mi.yS d)) (.type T)=ab (Mi.qF T d)
theorem jK{T:String}(hT:jY K T)(ha:AE M qP ta a):AE M qV (lf (FP K) (fu ta (fu (tC (.ty T)) f6))) (Mi.m1 (Mi.cE [T]) a):=λe σ H Hv Q I h=>
 ha e σ H Hv _ I ((au.mp h).mono λx hx v H1 Hv1 g1 rx=>⟨v,_,T,_,rfl,GD g1.vw rx,hT x,(Mi.kR hx) _ H1 Hv1 g1 (by
  have:([T].any λt=>Mi.qF t x)=Mi.qF T x:=by simp
  rw[this];exact fE)⟩)
theorem ty_bool(K:aE):jY K "bool" := λd=>by cases d<;>rfl
theorem ty_int(K:aE):jY K "int" := λd=>by cases d<;>rfl
theorem ty_str(K:aE):jY K "str" := λd=>by cases d<;>rfl
theorem ty_list(K:aE):jY K "list" := λd=>by cases d<;>rfl
theorem ty_tuple(K:aE):jY K "tuple" := λd=>by cases d<;>rfl
end
end A
namespace A
open PySem L2 PyProof.Rows
open Mi (D W Rs Fin au Out Tg)
variable[Tb:bE]
def Mo(l:List Nat):Nat->Bool:=λi=>l.contains i
theorem HE{M:Nat->Bool}{N:List Str}{k:Nat}{ws:List W}{vs:List V}{H Hv:Hp}(vw:Vw H Hv)(p:P2 (gP Hv) ws vs)(hk:ws.length=k)(hM:∀i,i<k->M i=false) :
 R1 M H Hv (ws.map ab++cx (N.length-ws.length) ae) (start N vs) H Hv:=by
 have get:∀{i:Nat} {w:W},(ws.map ab++cx (N.length-ws.length) ae)[i]? = ab (ab w)->ws[i]? = ab w/\i<k:=λ{i w} h=>by
  by_cases hi:i<ws.length
  ·rw[wN (by simpa using hi),c7]at h;cases e:ws[i]? with
   |none=>rw[e]at h;cases h
   |some a=>rw[e]at h;cases h;exact⟨rfl,by omega⟩
  ·rw[A1 (by simpa using hi),IA]at h;split at h<;>cases h
 have no:∀{i:Nat} {w:W},(ws.map ab++cx (N.length-ws.length) ae)[i]? = ab (ab w)->M i=true->False:=λ{i w} h m=>by
  rw[hM i (get h).2]at m;cases m
 refine⟨⟨vw,?_,λi w h m=>?_,λi w h m=>(no h m).elim⟩,.refl vw,λi w a h m=>(no h m).elim,λi j w w' a b _ h _ m=>(no h m).elim⟩
 ·unfold L2.start;rw[dI,dI,aQ,aQ,A4,A4,p.len]
 ·obtain⟨hw,hi⟩:=get h;obtain⟨v,hv,r⟩:=p.getL hw;refine⟨v,?_,r⟩;unfold L2.start;rw[wN (by rw[aQ,<- p.len];omega),c7,hv];rfl
theorem Do{f:Mi.S}{k n:Nat}{vs:List V}{H:Hp}{Q:VK}{E:XK}(h:cF (Mi.eI k n f) vs H Q E):vs.length=k:=by obtain⟨Hv,ws,_,p,q⟩:=h;rw[<- p.len];exact(Mi.cr q).1
theorem EQ{f:Mi.S}{k n:Nat}{vs:List V}{H:Hp}{Q:VK}{E:XK}(h:cz (Mi.fq k n f) vs H Q E):vs.length=k:=by obtain⟨Hv,ws,_,p,q⟩:=h;rw[<- p.len];exact(Mi.cr q).1
theorem EG{N:List Str}{M:Nat->Bool}{k:Nat}{t:TS}{m:Mi.S}(hA:AS M qV t m)(hM:∀i,i<k->M i=false){vs:List V}{H:Hp}{Q:VK}{E:XK}(h:cF (Mi.eI k N.length m) vs H Q E) :
 t { nx:=λ_ H'=>Q .non H',rt:=Q } (start N vs) H:=by
 obtain⟨Hv,ws,vw,p,q⟩:=h;obtain⟨hk,q⟩:=Mi.cr q;refine hA H Hv _ _ H Hv _ (HE vw p hk hM) ((au.mp q).mono λo ho=>?_);cases o with
 |nx e=>exactλσ H' Hv' I s=>ho _ H' Hv' I.gw Ek
 |rt w=>exactλv H' Hv' g r=>ho v H' Hv' g r
 |bk e=>exact ho.elim
 |ct e=>exact ho.elim
theorem runN{N:List Str}{M:Nat->Bool}{k:Nat}{t:TS}{m:Mi.S}(hA:AS M qN t m)(hM:∀i,i<k->M i=false){vs:List V}{H:Hp}{Q:VK}{E:XK}(h:cz (Mi.fq k N.length m) vs H Q E) :
 t { nx:=λ_ H'=>Q .non H',rt:=Q } (start N vs) H:=by
 obtain⟨Hv,ws,vw,p,q⟩:=h;obtain⟨hk,q⟩:=Mi.cr q;refine hA H Hv _ _ H Hv _ (HE vw p hk hM) ((au.mp q).mono λo ho=>?_);cases o with
 |rt w=>exactλv H' Hv' g r=>ho v H' Hv' g r
 |nx e=>exact ho.elim
 |bk e=>exact ho.elim
 |ct e=>exact ho.elim
theorem Me{P:bg}{w:aY}{K:aE}{mg:Str->Option ag}{base:aI}{CX:gF}{k:Nat}{f:ah}{fd:bM}{ps:List Str}:bF P w K mg base CX k f fd ps (cF Mi.Gv):=⟨λvs H Q E h=>by obtain⟨_,_,_,_,q⟩:=h;exact q.elim,λA outer s H args us vs Q E _ _ _ _ h=>by obtain⟨_,_,_,_,q⟩:=h;exact q.elim⟩
def tR:Sp:=λvs H Q _=>∃(a:ah) (ns:List Int),vs=[.ref a]/\Lst H a (ns.map V.int)/\ns.length<=63/\iC H/\∀H',Q (.bl true) H'
theorem ints_rep(H:Hp):∀ns:List Int,P2 (Rep H) (ns.map D.int) (ns.map V.int)
 |[]=>.nil
 |n::r=>.cons (ox.mpr rfl) (ints_rep H r)
theorem Od{P:bg}{w:aY}{K:aE}{mg:Str->Option ag}{base:aI}{CX:gF}{k:Nat}{f:ah}{fd:bM}{ps:List Str}{m:Mi.Fn}(F:bF P w K mg base CX k f fd ps (cF m))
 (h:∀ns:List Int,ns.length<=63->m [.d (.lst (ns.map D.int))]=.ok (.d (.bl true))):bF P w K mg base CX k f fd ps tR:=
 F.imp λvs H Q E ⟨a,ns,e,l,hl,k,q⟩=>by
  subst e;have l':Lst (jH H) a (ns.map V.int):=by
   rcases l with l|⟨o,l⟩
   ·exact .inl (kY l trivial)
   ·exact .inr ⟨o,kY l trivial⟩
  refine⟨jH H,[.d (.lst (ns.map D.int))],.all k,.cons (lC.mpr ⟨a,_,rfl,l',ints_rep _ ns⟩) .nil,?_⟩;rw[h ns hl];intro v H' Hv' g r;cases(qx (H:=Hv')).mp r;exact q H'
theorem Fv{X:Cx}{af:List (ah×Obj)}{σ:L2.St}{H:Hp}{s:ao}{fp:List ah}{T:ah}{o:HO}{h':aI}{t':Nat}(I:Inv X af σ H s)(hf:∀b∈fp,fJ X af H b)
 (k:∀b u,b∉fp->s.heap.get? b=ab u->h'.get? b=ab u) (hT:s.heap.objs.size<=T) (new:bQ X.prog X.w (upd H T o) h' T o):Inv X af σ (upd H T o) { s with heap:=h',toks:=t' }:=by
 have hn:H T=ae:=I.hok.fresh hT;have nfp:∀b u,H b=ab u->b∉fp:=λb u e z=>by rw[(hf b z).1]at e;cases e
 refine I.call' (s':={ s with heap:=h',toks:=t' }) (ch:=fp) rfl ⟨λb u e _ _ hb=>k b u hb e,λb u e _ _ hb=>⟨u.slots,k b u hb e⟩,λb u e hb _=>?_,λb u e hb=>⟨u,k b u hb e⟩,λb xs e=>?_,λb q u e=>?_,λb w ps e=>⟨#[],?_⟩⟩ ?_ I.bare
  λb hb=>⟨(hf b hb).2.2.2.1,(hf b hb).2.1,(hf b hb).2.2.2.2.1,(hf b hb).2.2.2.2.2⟩
 ·have:b≠T:=gh (g7 (bR e) hT);rw[aC this];exact hb
 ·rw[aC (cJ e hn)];exact e
 ·rw[aC (cJ e hn)];exact e
 ·rw[aC (cJ e hn),e];simp
 ·intro b u e;by_cases hb:b=T
  ·subst hb;rw[bj]at e;cases e;exact new
  ·rw[aC hb]at e;refine(I.hok b u e).stay (λc v hc q=>k c v ?_ q) (λc q=>by rw[aC (cJ q hn)];exact q) λc xs q=>by rw[aC (cJ q hn)];exact q
   rcases hc with z|z
   ·rw[z];exact nfp b u e
   ·exact nfp c _ z
theorem Ax{X:Cx}{af:List (ah×Obj)}{σ:L2.St}{H:Hp}{s:ao}{fp:List ah}{h':aI}{t':Nat}(I:Inv X af σ H s)(hf:∀b∈fp,fJ X af H b)
 (k:∀b u,b∉fp->s.heap.get? b=ab u->h'.get? b=ab u):Inv X af σ H { s with heap:=h',toks:=t' }:=by
 have nfp:∀b u,H b=ab u->b∉fp:=λb u e z=>by rw[(hf b z).1]at e;cases e
 refine I.call' (s':={ s with heap:=h',toks:=t' }) (ch:=fp) rfl ⟨λb u e _ _ hb=>k b u hb e,λb u e _ _ hb=>⟨u.slots,k b u hb e⟩,λb u e hb _=>hb,λb u e hb=>⟨u,k b u hb e⟩,λb xs e=>e,λb q u e=>e,λb w ps e=>⟨#[],by rw[e];simp⟩⟩ ?_ I.bare
  λb hb=>⟨(hf b hb).2.2.2.1,(hf b hb).2.1,(hf b hb).2.2.2.2.1,(hf b hb).2.2.2.2.2⟩
 intro b u e;refine(I.hok b u e).stay (λc v hc q=>k c v ?_ q) (λc q=>q) λc xs q=>q;rcases hc with z|z
 ·rw[z];exact nfp b u e
 ·exact nfp c _ z
section
variable{X:Cx}{elts:List aR}{k1:Nat}{tpos:Pos}
theorem En:∀{ds:List D} {k i:Nat} {d:D},ds[i]? = ab d->(Mi.kJ k ds)[i]? = ab (.tup [.int ((k+i:Nat):Int),d])
 |[],_,_,_,h=>by simp at h
 |d::r,k,0,e,h=>by simp at h;subst h;rfl
 |d::r,k,i+1,e,h=>by
  have:=En (ds:=r) (k:=k+1) (i:=i) (d:=e) (by simpa using h);rw[Mi.kJ,li,this];rw[show k+1+i=k+(i+1)by omega]
theorem u6:∀(ds:List D) (k:Nat),(Mi.kJ k ds).length=ds.length
 |[],_=>rfl
 |d::r,k=>by rw[Mi.kJ,dW,dW,u6 r]
end
end A
namespace A
open PySem L2 PyProof.Rows
open Mi (D W Rs Fin au Out Tg)
variable[Tb:bE]
section
variable{X:Cx}{K:aE}{M:Nat->Bool}{κ:Kd}{ta tb te tk:TE}{a b k:Mi.E}
theorem wc{Hv:Hp}:∀{ds:List D} {xs:List V} {bs:List Str},Mi.j9 ds=ab bs->P2 (Rep Hv) ds xs->xs=bs.map V.str
 |[],_,bs,e,r=>by cases e;cases r;rfl
 |.str b::ds,_,bs,e,r=>by
  cases r with
  |cons x t=>
   cases hb:Mi.j9 ds with
   |none=>rw[Mi.j9,hb]at e;cases e
   |some cs=>
    rw[Mi.j9,hb]at e;cases e;rw[wc hb t,mS.mp x];rfl
 |.non::_,_,_,e,_=>by cases e
 |.int _::_,_,_,e,_=>by cases e
 |.bl _::_,_,_,e,_=>by cases e
 |.lst _::_,_,_,e,_=>by cases e
 |.tup _::_,_,_,e,_=>by cases e
theorem D2(ha:AE M qP ta a)(hb:AE M qP tb b):AE M qV (qC K "str" (rJoin K) ta (fu tb f6)) (Mi.m2 Mi.vW a b):=λe σ H Hv Q I h=>by
 obtain⟨x,hx,h⟩:=j6 (au.mp h);obtain⟨y,hy,h⟩:=j6 (au.mp h);cases x with
 | str sep=>cases y with
  |lst ds=>
   obtain⟨ys,hs,h⟩:=gC (au.mp h);obtain⟨hz,h⟩:=Mi.cr h;refine ha e σ H Hv _ I (by
    rw[hx];intro v H1 Hv1 g1 r1;cases RD.str r1;refine⟨rfl,hb e σ H1 Hv1 _ (I.grow g1) (by
     rw[hy];intro v2 H2 Hv2 g2 r2;obtain⟨p,xs,rfl,l,r⟩:=RD.lst g2.vw r2;have:=wc hs r;subst this;exact⟨sep,p,ys,rfl,rfl,l.sq,hz,(Mi.kR h) _ H2 Hv2 (g1.trans g2) sR⟩)⟩)
  |_=>exact h.elim
 |_=>cases y<;>exact h.elim
def Fd:V->List V->Hp->VK->Prop:=λx vs H Q=>∃l b xs zs,x=.ref l/\vs=[.ref b]/\H l=ab (.lst xs)/\Lst H b zs/\xs.length+zs.length<=sizeLine/\Q .non (upd H l (.lst (xs++zs)))
theorem DH:rT X "list.extend" Fd:=by
 intro af s σ H x vs v us Q I rx rv h;obtain⟨l,b,xs,zs,rfl,rfl,hH,hB,hz,q⟩:=h;cases rx;obtain⟨u,rfl,ru⟩:=rv.one;cases ru;obtain⟨z,aj,n,r,hl,e⟩:=I.sX hH;obtain⟨its2,n2,r2,z2,e2⟩:=oQ I hB;have hl2:=r2.length;have hsz:aj.toArray.size+its2.toArray.size<=sizeLine:=by rw[bK,bK];omega
 have xD:¬ (!aj.toArray.isEmpty&&BI (aj.toArray.size+its2.toArray.size))=true:=by rw[E7 hsz,w9];exact cy
 refine rp F.slot_list_extend ⟨_,e,rfl⟩ F.entry_list_extend (F.args_list_extend_2 _ _)
  (AutoSeq1.list_extend_list_list_0 l aj.toArray n b its2.toArray n2 xD (by rw[bK];omega) (by omega)) ⟨e,e2,?_⟩
 refine⟨.non,_,I.rZ (its':=aj++its2) hH e (by simp) (r.append r2) ?_,rfl,q⟩;rw[dI];omega
theorem G5(i:Nat)(hm:M i=true)(ha:AE M qV te a):AS M κ (k8 (qC K "list" Fd (dM i) (fu te f6))) (Mi.m6 i a):=λH0 Hv0 e σ H Hv D I h=>by
 obtain⟨d,hd,h⟩:=j6 (au.mp h);obtain⟨ds,he,h⟩:=sH (au.mp h);cases d with
 |lst es=>
  obtain⟨hz,h⟩:=Mi.cr h;obtain⟨p,xs,q,q1,n,c⟩:=I.list hm he;refine⟨.ref p,q,.inl ⟨rfl,xs,.inl (.inl q1)⟩,ha e σ H Hv _ I.toR0 (by
   rw[hd];intro v H1 Hv1 g1 r;have I1:=I.grow g1;obtain⟨b,ys,rfl,l,r⟩:=(lC (H:=Hv1)).mp r;refine⟨p,b,xs,ys,rfl,rfl,g1.old.at q1,l.same g1.vw.sub,by rw[<- c.len,<- r.len,b9];exact hz,?_⟩;exact h σ _ Hv1 (I1.write hm he q (show eG Hv1 (.d (.lst (ds++es))) (.lst (xs++ys))from(fe g1.vis c).append r)) g1.vis)⟩
 |_=>exact h.elim
theorem vt{H:Hp}{d:D}{v:V}{y:Mi.Ky}(h:Mi.oG d=ab y)(r:Rep H d v):v=kV y:=by
 cases d with
 |bl i=>cases h;exact qx.mp r
 |str i=>cases h;exact mS.mp r
 |_=>cases h
theorem v5{H:Hp}:∀{ds:List D} {vs:List V} {ys:List Mi.Ky},Mi.lQ ds=ab ys->P2 (Rep H) ds vs->vs=ys.map kV
 |[],_,_,h,r=>by cases h;cases r;rfl
 |d::ds,_,ys,h,r=>by
  cases r with
  |cons x t=>
   unfold Mi.lQ at h;cases h1:Mi.oG d with
   |none=>rw[h1]at h;cases h
   |some y=>
    cases h2:Mi.lQ ds with
    |none=>rw[h1,h2]at h;cases h
    |some zs=>
     rw[h1,h2]at h;cases h;rw[vt h1 x,v5 h2 t];rfl
theorem De{H Hv:Hp}(vw:Vw H Hv){w:W}{x:V}{d:D}{v:V}{q:Option D->Prop}(hw:RB H Hv w x)(r:Rep Hv d v)(h:Fin (Mi.r6 w d) q):∃a o o',x=.ref a/\ke H a v o/\q o'/\match o' with
 |some d'=>∃v',o=ab v'/\Rep Hv d' v'
 |none=>o=ae:=by
 cases w with
 |d x=>exact h.elim
 |ex z=>exact h.elim
 |fn z=>exact h.elim
 |dk am=>
  obtain⟨y,hy,h⟩:=gC (au.mp h);have h:q (Mi.iJ am y):=h;have:∃a kv,x=.ref a/\H a=ab (.dK kv)/\fc Hv am kv:=by
   rcases hw with ⟨a,kv,e,z,c⟩|⟨a,o,e,z,c⟩
   ·exact⟨a,kv,e,vw.sub _ _ z,c⟩
   ·cases o with
    |dK kv=>exact⟨a,kv,e,z,c⟩
    |_=>exact c.elim
  obtain⟨a,kv,e,z,c⟩:=this;have hv:=vt hy r;subst hv;exact⟨a,_,_,e,ke.k z,h,Ad c⟩
 |dt am=>
  cases d with
  |tup ds=>
   obtain⟨y,hy,h⟩:=gC (au.mp h);have h:q (Mi.iJ am y):=h;have:∃a kv,x=.ref a/\H a=ab (.dT kv)/\fc Hv am kv:=by
    rcases hw with ⟨a,kv,e,z,c⟩|⟨a,o,e,z,c⟩
    ·exact⟨a,kv,e,vw.sub _ _ z,c⟩
    ·cases o with
     |dT kv=>exact⟨a,kv,e,z,c⟩
     |_=>exact c.elim
   obtain⟨a,kv,e,z,c⟩:=this;obtain⟨b,xs,rfl,l,r⟩:=js.mp r;have hv:=v5 hy r;subst hv;exact⟨a,_,_,e,ke.t z (vw.sub _ _ l),h,Ad c⟩
  |_=>exact h.elim
 |df am=>
  cases d with
  |tup ds=>
   obtain⟨y,hy,h⟩:=gC (au.mp h);have h:q (Mi.iJ am y):=h;have:∃a ob kv,x=.ref a/\H a=ab (.frz ob (.dT kv))/\fc Hv am kv:=by
    rcases hw with ⟨a,ob,kv,e,z,c⟩|⟨a,o,e,z,c⟩
    ·exact⟨a,ob,kv,e,vw.sub _ _ z,c⟩
    ·exact c.elim
   obtain⟨a,ob,kv,e,z,c⟩:=this;obtain⟨b,xs,rfl,l,r⟩:=js.mp r;have hv:=v5 hy r;subst hv;exact⟨a,_,_,e,.inr ⟨kv,y,b,.inr ⟨ob,z⟩,rfl,vw.sub _ _ l,rfl⟩,h,Ad c⟩
  |_=>exact h.elim
theorem oH(i:Nat)(hk:AE M qV tk k):AE M qV (C2 tk (dM i)) (Mi.eF i k):=λe σ H Hv Q I h=>
 hk e σ H Hv _ I ((au.mp h).mono λd hd v H1 Hv1 g1 r=>by
  obtain⟨w,he,hd⟩:=lV (au.mp hd);have I1:=I.grow g1;obtain⟨x,q,z⟩:=I1.any he;obtain⟨a,o,o',e1,g,h2,m⟩:=De g1.vw z r (au.mp hd);refine⟨x,q,a,o,e1,g,?_⟩;have:o.isSome=o'.isSome:=by
   cases o' with
   |none=>have m:o=ae:=m;rw[m];rfl
   |some d'=>obtain⟨v',m,_⟩:=m;rw[m];rfl
  rw[this];exact h2 _ H1 Hv1 g1 fE)
theorem uR(i:Nat)(hk:AE M qV tk k):AE M qV (GJ tk (dM i)) (Mi.gX i k):=λe σ H Hv Q I h=>
 hk e σ H Hv _ I ((au.mp h).mono λd hd v H1 Hv1 g1 r=>by
  obtain⟨w,he,hd⟩:=lV (au.mp hd);have I1:=I.grow g1;obtain⟨x,q,z⟩:=I1.any he;obtain⟨a,o,o',e1,g,h2,m⟩:=De g1.vw z r (au.mp hd);refine⟨x,q,a,o,e1,g,?_⟩;have:o.isSome=o'.isSome:=by
   cases o' with
   |none=>have m:o=ae:=m;rw[m];rfl
   |some d'=>obtain⟨v',m,_⟩:=m;rw[m];rfl
  rw[this];exact h2 _ H1 Hv1 g1 fE)
theorem vR{tv:TE}{v:Mi.E}(i:Nat)(hm:M i=true)(hk:AE M qV tk k)(hv:AE M qV tv v):AS M κ (L2.fg (dM i) tk tv) (Mi.fg i k v):=λH0 Hv0 e σ H Hv D I h=>by
 obtain⟨d,hd,h⟩:=j6 (au.mp h);obtain⟨y,hy,h⟩:=j6 (au.mp h);obtain⟨w,he,h⟩:=lV (au.mp h);refine hv e σ H Hv _ I.toR0 (by
  rw[hd];intro x H1 Hv1 g1 rx;have I1:=I.grow g1;obtain⟨p,o,q,q1,n,h0,c⟩:=I1.cell hm he;refine⟨.ref p,q,hk e σ H1 Hv1 _ I1.toR0 (by
   rw[hy];intro u H2 Hv2 g2 ru;have I2:=I1.grow g2;have c2:=c.same g2.vis;have q2:=g2.old.at q1 c.nt;have g12:=g1.trans g2;have rx2:=oS g2.vis rx;cases w with
   |d x=>exact(show False from au.mp h).elim
   |ex z=>exact(show False from au.mp h).elim
   |fn z=>exact(show False from au.mp h).elim
   |df z=>exact(show False from au.mp h).elim
   |dk am=>
    obtain⟨hz,h⟩:=Mi.cr (au.mp h);obtain⟨ky,hky,h⟩:=gC (au.mp h);cases o with
    |dK kv=>
     have c2:fc Hv2 am kv:=c2;have hu:=vt hky ru;subst hu;refine⟨p,_,rfl,mK.k q2 (by rw[<- P2.len c2,b9];exact hz),?_⟩;exact h σ _ Hv2 (I2.write hm he q (show eG Hv2 (.dk (Mi.putK ky d am)) (.dK (L2.putK kv ky x))from CP rx2 c2)) g12.vis
    |_=>exact c2.elim
   |dt am=>
    cases y with
    |tup ds=>
     obtain⟨hz,h⟩:=Mi.cr (au.mp h);obtain⟨ky,hky,h⟩:=gC (au.mp h);cases o with
     |dT kv=>
      have c2:fc Hv2 am kv:=c2;obtain⟨b,xs,rfl,l,r⟩:=(js (H:=Hv2)).mp ru;have hu:=v5 hky r;subst hu;refine⟨p,_,rfl,mK.t q2 (g2.vw.sub _ _ l) (by rw[<- P2.len c2,b9];exact hz),?_⟩;exact h σ _ Hv2 (I2.write hm he q (show eG Hv2 (.dt (Mi.putK ky d am)) (.dT (L2.putK kv ky x))from CP rx2 c2)) g12.vis
     |_=>exact c2.elim
    |_=>exact(show False from au.mp h).elim)⟩)
end
end A
namespace Zp
open PySem PySem.Spec PyProof.Rows L2
variable[Tb:A.bE]
section
variable{P:bg}{w:aY}{B:bv}{F:ag->ao->Prop}{z:ao}
theorem Ot{c t:ah}{i:Nat}{us:Array ag}{u:ag}{R:ag->ao->Prop}(hc:z.heap.IsTupleIter c t i)(ht:z.heap.IsTuple t us)(hu:us[i]? = ab u)
 (hR:∀h',h'.IsTupleIter c t (i+1)->mo c z.heap h'->R u { z with heap:=h' }):wpAny (model P w) B (pQ (.ref c)) R F z:=by
 obtain⟨ob,gb,cb,db⟩:=id hc;obtain⟨ol,gl,_,nl,dl⟩:=ht;unfold pQ;refine ak (jM (name:=gm "__next__") hc.typeIs xf (gG xf hc.typeIs Jc ?_ (Jb _)));show wpAny _ _ (field (.ref c) 0 >>= _) _ _ z;refine ak (f9 gb db (x:=.ref t) rfl ?_);show wpAny _ _ (if(b8 t==eE)=true then _ else _) _ _ z;rw[ay (λq:(b8 t==eE)=true=>nomatch q)];show wpAny _ _ (field (.ref c) 1 >>= _) _ _ z;refine ak (f9 gb db (x:=.int i 0) rfl ?_);show wpAny _ _ (seqItems? (.ref t) >>= _) _ _ z;refine ak (t0 gl dl ?_);simp only[fR,hu];refine ak (ma gb db (by simp) (ax ⟨u,rfl,ax (hR _ ?_ (iV ..))⟩));refine⟨_,nU _ gb (uq (ln db _)),(xp ..).trans cb,?_⟩;rw[ln db];simp[rawInt]
theorem Ni{c t:ah}{i:Nat}{us:Array ag}{R:ag->ao->Prop}(hn:B.handled=ae)(hc:z.heap.IsTupleIter c t i)(ht:z.heap.IsTuple t us)(hu:us[i]? = ae)
 (hF:∀h' e,ug c z.heap h'->(∃o,h'.get? e=ab o/\o.cls=.type "StopIteration")->F (.ref e) { z with heap:=h' }):wpAny (model P w) B (pQ (.ref c)) R F z:=by
 obtain⟨ob,gb,cb,db⟩:=id hc;obtain⟨ol,gl,_,nl,dl⟩:=ht;unfold pQ;refine ak (jM (name:=gm "__next__") hc.typeIs xf (gG xf hc.typeIs Jc ?_ (Jb _)));show wpAny _ _ (field (.ref c) 0 >>= _) _ _ z;refine ak (f9 gb db (x:=.ref t) rfl ?_);show wpAny _ _ (if(b8 t==eE)=true then _ else _) _ _ z;rw[ay (λq:(b8 t==eE)=true=>nomatch q)];show wpAny _ _ (field (.ref c) 1 >>= _) _ _ z;refine ak (f9 gb db (x:=.int i 0) rfl ?_);show wpAny _ _ (seqItems? (.ref t) >>= _) _ _ z;refine ak (t0 gl dl ?_);simp only[fR,hu];refine ak (pJ (ak (ma gb db (by simp) ?_)));show wpAny _ _ (newExc (.type "StopIteration") [] >>= _) _ _ _;refine ak ?_;simp only[newExc,newTuple];refine ak (gz ?_ (by size_fits));refine ak (m:=firstArgMember _ _) (iG (a:=eE) (by simp only[firstArgMember];rfl) (gz ?_ (by size_fits)));simp only[raiseNew];refine ak (wI ?_)
 first|rw[show B.in1.handled=ae from hn]|rw[hn]
 exact ak (ax (wK (hF _ _ (((iV ..).extBut.push _).push _) ⟨_,bS _ rfl,rfl⟩)))
end
def nm:Bool->String|true => "list" | false => "tuple"
def EU:Bool->String|true => "list_iterator" | false => "tuple_iterator"
def gu(k:Bool)(h:aI)(l:ah)(us:Array ag):Prop:=∃o,h.get? l=ab o/\o.cls=.type (nm k)/\∃n,o.data=.seq us n
def i0(k:Bool)(h:aI)(c l:ah)(i:Nat):Prop:=∃o,h.get? c=ab o/\o.cls=.type (EU k)/\o.data=.fields #[.ref l,.int i 0]
theorem gu.at{k:Bool}{h h':aI}{l:ah}{us:Array ag}(x:gu k h l us)(f:∀o,h.get? l=ab o->h'.get? l=ab o):gu k h' l us:=let ⟨o,e,r⟩:=x;⟨o,f o e,r⟩
theorem i0.at{k:Bool}{h h':aI}{c l:ah}{i:Nat}(x:i0 k h c l i)(f:∀o,h.get? c=ab o->h'.get? c=ab o):i0 k h' c l i:=let ⟨o,e,r⟩:=x;⟨o,f o e,r⟩
theorem i0.cell{k:Bool}{h:aI}{c l:ah}{i:Nat}(x:i0 k h c l i):∃o,h.get? c=ab o/\∀v,o.data≠.cell v:=let ⟨o,e,_,d⟩:=x;⟨o,e,λv q=>by rw[d]at q;cases q⟩
section
variable{P:bg}{w:aY}{B:bv}{F:ag->ao->Prop}{z:ao}
theorem nx{k:Bool}{c t:ah}{i:Nat}{us:Array ag}{u:ag}{R:ag->ao->Prop}(hc:i0 k z.heap c t i)(ht:gu k z.heap t us)(hu:us[i]? = ab u)
 (hR:∀h',i0 k h' c t (i+1)->mo c z.heap h'->R u { z with heap:=h' }):wpAny (model P w) B (pQ (.ref c)) R F z:=by
 cases k
 ·exact Ot hc ht hu hR
 ·exact wpAny_nextOf_list_item hc ht hu hR
theorem Hy{k:Bool}{c t:ah}{i:Nat}{us:Array ag}{R:ag->ao->Prop}(hn:B.handled=ae)(hc:i0 k z.heap c t i)(ht:gu k z.heap t us)(hu:us[i]? = ae)
 (hF:∀h' e,ug c z.heap h'->(∃o,h'.get? e=ab o/\o.cls=.type "StopIteration")->F (.ref e) { z with heap:=h' }):wpAny (model P w) B (pQ (.ref c)) R F z:=by
 cases k
 ·exact Ni hn hc ht hu hF
 ·exact wpAny_nextOf_list_end hn hc ht hu hF
abbrev mF(k:Bool)(l:ah):Obj:={ cls:=.type (EU k),data:=.fields #[.ref l,.int 0 0] }
theorem sP{k:Bool}{l:ah}{us:Array ag}{R:ag->ao->Prop}(h:gu k z.heap l us)(hR:R (.ref z.heap.objs.size) { z with heap:=z.heap.push (mF k l) }):wpAny (model P w) B (pyIter (.ref l)) R F z:=by
 cases k
 ·exact wpAny_pyIter_tuple h hR
 ·exact AM h hR
end
theorem DL{P:bg}{w:aY}{B:bv}(hn:B.handled=ae)(k:Bool)(c l:ah)(hne:l≠c)(us:Array ag) :
 Draws P w B c [c,l] us.size (λi v=>us[i]? = ab v) (λi h=>i0 k h c l i/\gu k h l us) where
 live:=λ_ _ st=>let ⟨o,ho,_⟩:=st.1;⟨o,ho⟩
 frame:=λ_ _ _ st f=>⟨st.1.at λo e=>f c (by simp) o e,st.2.at λo e=>f l (by simp) o e⟩
 item:=λi s Q E hi st hQ=>nx st.1 st.2 (u:=us[i]) (by simp[hi]) λh' a b=>hQ _ h' s.toks (by simp[hi]) ⟨a,st.2.at λo e=>b.extBut _ _ hne e⟩ b
 done:=λs Q E st hE=>Hy hn st.1 st.2 (by simp) hE
end Zp
namespace Zp
open PySem PySem.Spec PyProof.Rows L2
variable[Tb:A.bE]
structure Sr where
 k:Bool
 c:ah
 l:ah
 us:Array ag
def On(h:aI)(i:Nat)(q:Sr):Prop:=i0 q.k h q.c q.l i/\gu q.k h q.l q.us
theorem On.at{h h':aI}{i:Nat}{q:Sr}(x:On h i q)(f:∀b o,b=q.c\/b=q.l->h.get? b=ab o->h'.get? b=ab o):On h' i q:=⟨x.1.at λo e=>f _ o (.inl rfl) e,x.2.at λo e=>f _ o (.inr rfl) e⟩
abbrev TupAt(h:aI)(T:ah)(vs:List ag):Prop:=h.get? T=ab { cls:=.type "tuple", data:=.seq vs.toArray }
structure Ap(z TI TO:ah)(L:List Sr):Prop where
 TIz:TI≠z
 TOz:TO≠z
 TITO:TI≠TO
 nd:(L.map (·.c)).Nodup
 c:∀q∈L,q.c≠z/\q.c≠TI/\q.c≠TO
 l:∀q∈L,q.l≠z/\q.l≠TO/\∀r∈L,q.l≠r.c
theorem CV{M:Model}{B:bv}{α β:Type}{b:β}{f:α->β->Sem (ForInStep β)}{E:ag->ao->Prop}(I:Nat->ao->Prop):∀(xs:List α) (n:Nat) (s:ao),
 (∀j x,xs[j]? = ab x->∀s,I (n+j) s->wpAny M B (f x b) (λr s'=>r=.yield b/\I (n+j+1) s') E s)->I n s->wpAny M B (forIn xs b f) (λr s'=>r=b/\I (n+xs.length) s') E s
 |[],n,s,_,h=>by
  rw[List.forIn_nil];exact ax ⟨rfl,h⟩
 |x::r,n,s,hs,h=>by
  rw[ub];refine ak (jt (hs 0 x rfl s h) (λy s' hy=>?_) λ_ _ e=>e);obtain⟨rfl,hy⟩:=hy;refine jt (CV I r (n+1) s' (λj x' e s2 h2=>?_) hy) (λy s2 h2=>⟨h2.1,?_⟩) λ_ _ e=>e
  ·rw[show n+1+j=n+(j+1)by omega]at h2 ⊢;exact hs (j+1) x' (by simpa using e) s2 h2
  ·rw[dW,show n+(r.length+1)=n+1+r.length by omega];exact h2.2
section
variable{P:bg}{w:aY}{B:bv}{F:ag->ao->Prop}{s:ao}
def Kp(z TO:ah)(L:List Sr)(h h':aI):Prop:=∀b o,b≠z->b≠TO->b∉L.map (·.c)->h.get? b=ab o->h'.get? b=ab o
structure Mid(s:ao)(z TI TO:ah)(L:List Sr)(i n:Nat)(s':ao):Prop where
 zz:IsZip s'.heap z TI TO .ellipsis
 vs:∃vs:List ag,vs.length=L.length/\TupAt s'.heap TO vs/\∀(j:Nat) (q:Sr),j<n->L[j]? = ab q->vs[j]? = q.us[i]?/\i<q.us.size
 on:∀(j:Nat) (q:Sr),L[j]? = ab q->On s'.heap (if j<n then i+1 else i) q
 sz:s'.heap.objs.size=s.heap.objs.size
 kp:Kp z TO L s.heap s'.heap
 eq:s'={ s with heap:=s'.heap }
theorem La{L:List Sr}(h:(L.map (·.c)).Nodup){i j:Nat}{p q:Sr}(hp:L[i]? = ab p)(hq:L[j]? = ab q)(hij:i≠j):p.c≠q.c:=by
 intro e;have h1:(L.map (·.c))[i]? = ab p.c:=by rw[c7,hp];rfl
 have h2:(L.map (·.c))[j]? = ab q.c:=by rw[c7,hq];rfl
 obtain⟨l1,g1⟩:=cu.mp h1;obtain⟨l2,g2⟩:=cu.mp h2;exact hij ((rB h).mp (by rw[g1,g2,e]))
theorem Eh{z TI TO:ah}{L:List Sr}{i:Nat}{vs:List ag}{R:ag->ao->Prop}(hh:B.handled=ae)(D:Ap z TI TO L)(h0:L≠[])
 (hz:IsZip s.heap z TI TO .none) (hI:TupAt s.heap TI (L.map λq=>.ref q.c)) (hO:TupAt s.heap TO vs) (hl:vs.length=L.length) (hL:L.length<=8) (hon:∀q∈L,On s.heap i q)
 (hR:∀(h':aI) (ws:List ag),IsZip h' z TI TO (rawInt s.heap.objs.size)->ws.length=L.length->(∀(j:Nat) (q:Sr),L[j]? = ab q->ws[j]? = q.us[i]?/\i<q.us.size)->TupAt h' TO ws->TupAt h' s.heap.objs.size ws->(∀q∈L,On h' (i+1) q) ->
  Kp z TO L s.heap h'->R (.ref s.heap.objs.size) { s with heap:=h' })
 (hF:∀(h':aI) (e:ah),Kp z TO L s.heap h'->(∃o,h'.get? e=ab o/\o.cls=.type "StopIteration")->(∃q∈L,q.us.size<=i)->F (.ref e) { s with heap:=h' }) :
 wpAny (model P w) B (eX.«zip.__next__» ⟨[.ref z],[]⟩) (λfin s'=>∃v,fin=.done (.ret v)/\R v s') F s:=by
 show wpAny _ _ (field (.ref z) 2 >>= _) _ _ _;refine ak (f9 hz rfl (x:=.bool false) rfl ?_);show wpAny _ _ (field (.ref z) 3 >>= _) _ _ _;refine ak (f9 hz rfl (x:=.ref TI) rfl ?_);refine ak (t0 hI rfl ?_);have hne:((L.map λq=>b8 q.c).toArray.isEmpty)=false:=by cases L with|nil=>exact absurd rfl h0|cons q r=>rfl
 simp only[hne,lj,eJ];show wpAny _ _ (Jy (.ref z) >>= _) _ _ _;refine ak ?_;unfold Jy;refine ak (f9 hz rfl (x:=.none) rfl (ax ?_));simp only[gU];refine ak (pJ (ak (f9 hz rfl (x:=.ref TO) rfl (ak (wE hz (by simp) λh1 hz1 hs1=>?_)))));replace hz1:IsZip h1 z TI TO .ellipsis:=hz1;have M0:Mid s z TI TO L i 0 { s with heap:=h1 }:=⟨hz1,⟨vs,hl,hs1.extBut _ _ D.TOz hO,λj q h _=>absurd h (xb _)⟩,λj q e=>(hon q (fj e)).at λb o hb x=>by
  have hq:=fj e;rcases hb with rfl|rfl
  ·exact hs1.extBut _ _ (D.c q hq).1 x
  ·exact hs1.extBut _ _ (D.l q hq).1 x,hs1.1,λb o b1 _ _ x=>hs1.extBut _ _ b1 x,rfl⟩
 refine ak (jt (CV (Mid s z TI TO L i) _ 0 _ ?_ M0) ?_ λ_ _ e=>e)
 ·intro j x e s2 M;rw[dX]at M ⊢;obtain⟨q,hq,rfl⟩ : ∃q,L[j]? = ab q/\x=(b8 q.c,j):=by
   simp only[List.getElem?_zipIdx,c7,Option.map_map]at e;obtain⟨q,hq,e⟩:=gI.mp e;exact⟨q,hq,by rw[<- e];simp⟩
  have hqm:=fj hq;have jlt:j<L.length:=(cu.mp hq).1;have onq:=M.on j q hq;rw[ay (jv j)]at onq;obtain⟨ws,wl,wO,wv⟩:=M.vs;refine ak (wpAny_onRaise ?_);show wpAny _ _ (pQ (.ref q.c) >>= _) _ _ _;cases hu:q.us[i]? with
  |none=>
   refine ak (Hy hh onq.1 onq.2 hu λh3 e2 x3 he=>?_);obtain⟨oe,goe,coe⟩:=he;have hz3:IsZip h3 z TI TO .ellipsis:=x3 _ _ (D.c q hqm).1.symm M.zz;have hez:e2≠z:=λy=>by subst y;rw[hz3]at goe;cases goe;simp at coe
   refine wE hz3 (by simp) λh4 _ x4=>?_;rw[M.eq];exact hF h4 e2 (λb o b1 b2 b3 y=>x4.extBut _ _ b1 (x3 _ _ (λq'=>b3 (by rw[q'];exact jN hqm)) (M.kp b o b1 b2 b3 y))) ⟨oe,x4.extBut _ _ hez goe,coe⟩ ⟨q,hqm,by simpa using hu⟩
  |some u=>
   refine ak (nx onq.1 onq.2 hu λh3 a3 x3=>ax ?_);have hO3:TupAt h3 TO ws:=x3.extBut _ _ (D.c q hqm).2.2.symm wO;refine ak (t0 hO3 rfl (ak (AR hO3 rfl ?_ (by rw[bK,wl,b9];omega) (by simp only[Array.size_setIfInBounds,bK];rw[wl,b9];omega))));refine ak (wpAny_letGo (ax ⟨rfl,?_⟩));have x4:mo TO h3 (h3.update TO (fH (·.setIfInBounds j u))):=iV ..;have hu':i<q.us.size:=(Array.getElem?_eq_some_iff.mp hu).1;have up:∀b o,b≠q.c->b≠TO->s2.heap.get? b=ab o->(h3.update TO (fH (·.setIfInBounds j u))).get? b=ab o:=λb o b1 b2 y=>x4.extBut _ _ b2 (x3.extBut _ _ b1 y);refine⟨up _ _ (D.c q hqm).1.symm D.TOz.symm M.zz,⟨ws.set j u,by rw[iT];exact wl,?_,λk r hk hr=>?_⟩,λk r hr=>?_,?_,λb o b1 b2 b3 y=>up b o (λq'=>b3 (by rw[q'];exact jN hqm)) b2 (M.kp b o b1 b2 b3 y),?_⟩
   ·show(h3.update TO _).get? TO=_;rw[nU _ hO3 rfl];simp[fH]
   ·by_cases hkj:k=j
    ·subst hkj;rw[hq]at hr;cases hr;rw[t7,aH rfl,aH (by omega),hu];exact⟨rfl,hu'⟩
    ·rw[t7,ay (λq=>hkj q.symm)];exact wv k r (by omega) hr
   ·have hrm:=fj hr;by_cases hkj:k=j
    ·subst hkj;rw[hq]at hr;cases hr;rw[aH (Bs _)];exact⟨a3.at λo y=>x4.extBut _ _ (D.c q hqm).2.2 y,onq.2.at λo y=>up _ o ((D.l q hqm).2.2 q hqm) (D.l q hqm).2.1 y⟩
    ·have:=M.on k r hr;rw[show(if k<j then i+1 else i)=(if k<j+1 then i+1 else i)from by
      by_cases h:k<j
      ·rw[aH h,aH (by omega)]
      ·rw[ay h,ay (by omega)]]at this
     exact this.at λb o hb y=>by
      rcases hb with rfl|rfl
      ·exact up _ _ (La D.nd hr hq hkj) (D.c r hrm).2.2 y
      ·exact up _ _ ((D.l r hrm).2.2 q hqm) (D.l r hrm).2.1 y
   ·show(h3.update TO _).objs.size=_;rw[x4.1,x3.1,M.sz]
   ·rw[M.eq]
 ·rintro r s2 ⟨rfl,M⟩;have hL2:0+((L.map λq=>b8 q.c).toArray.toList.zipIdx).length=L.length:=by simp
  rw[hL2]at M;obtain⟨ws,wl,wO,wv⟩:=M.vs;refine ak (t0 wO rfl (ak (wpAny_newTuple ?_ (by show ws.length<=_;rw[wl,b9];omega))));show wpAny _ _ (Jx (.ref z) (.ref s2.heap.objs.size) >>= _) _ _ _;refine ak ?_;unfold Jx;have hz6:IsZip (s2.heap.push { cls:=.type "tuple", data:=.seq ws.toArray }) z TI TO .ellipsis:=bD _ M.zz;refine ak (wE hz6 (by simp) λh7 hz7 x7=>?_);replace hz7:IsZip h7 z TI TO (rawInt s2.heap.objs.size):=hz7;refine wE hz7 (by simp) λh8 hz8 x8=>?_;replace hz8:IsZip h8 z TI TO (rawInt s2.heap.objs.size):=hz8;have up:∀b o,b≠z->s2.heap.get? b=ab o->h8.get? b=ab o:=λb o b1 y=>x8.extBut _ _ b1 (x7.extBut _ _ b1 (bD _ y));have hzl:z<s2.heap.objs.size:=bR M.zz;have hT8:TupAt h8 s2.heap.objs.size ws:=x8.extBut _ _ (uj hzl) (x7.extBut _ _ (uj hzl) (bS _ rfl));refine ax ⟨_,rfl,?_⟩;show R (.ref s2.heap.objs.size) _;rw[M.sz]at hz8 hT8 ⊢;have e:=M.eq;rw[e];exact hR h8 ws hz8 wl (λj q hq=>wv j q (cu.mp hq).1 hq) (up _ _ D.TOz wO) hT8 (λq hq=>by
   obtain⟨j,hj⟩:=mj hq;have:=M.on j q hj;rw[aH (cu.mp hj).1]at this;exact this.at λb o hb y=>by
    rcases hb with rfl|rfl
    ·exact up _ _ (D.c q hq).1 y
    ·exact up _ _ (D.l q hq).1 y) λb o b1 b2 b3 y=>up b o b1 (M.kp b o b1 b2 b3 y)
end
end Zp
namespace Zp
open PySem PySem.Spec PyProof.Rows L2
variable[Tb:A.bE]
section
variable{P:bg}{w:aY}{B:bv}{F':ag->ao->Prop}{s:ao}
abbrev zO(TI TO:ah):Obj:={ cls:=.type "zip", data:=.fields #[.none,.bool false,.bool false,.ref TI,.ref TO] }
abbrev tO(vs:List ag):Obj:={ cls:=.type "tuple", data:=.seq vs.toArray }
theorem mk2(k1 k2:Bool)(l1 l2:ah)(xs ys:Array ag) :
 Meets (eX.«zip.__new__» ⟨[.type "zip", .ref l1,.ref l2],[]⟩) (λ_ R s=>gu k1 s.heap l1 xs/\gu k2 s.heap l2 ys /\
  ∀h1 h2 h3 h4:aI,h1=s.heap.push (mF k1 l1)->h2=h1.push (mF k2 l2)->h3=h2.push (tO [.ref s.heap.objs.size,.ref h1.objs.size])->h4=h3.push (tO [.none,.none]) ->
  R (.ok (.ret (.ref h4.objs.size))) { s with heap:=h4.push (zO h2.objs.size h3.objs.size) }):=
 .of_wp λprog w A R s h=>by
  obtain⟨hp,g,d,tk,os⟩:=s;obtain⟨a1,a2,h⟩:=h;have hsub:=sub_zip;have b1:gu k1 (BV ⟨hp,g,d,tk,os⟩) l1 xs:=a1;have b2:gu k2 (BV ⟨hp.push (mF k1 l1),g,d,tk,os⟩) l2 ys:=a2.at λo e=>bD _ e
  wp_walk using sP b1,sP b2
  exact⟨_,rfl,h _ _ _ _ rfl rfl rfl rfl⟩
abbrev Tr:=Bool×ah×ah
structure Zs(h:aI)(z TI TO:ah)(T:List Tr)(i:Nat):Prop where
 zz:IsZip h z TI TO .none
 ti:TupAt h TI (T.map λq=>.ref q.2.1)
 to:∃vs:List ag,vs.length=T.length/\TupAt h TO vs
 it:∀q∈T,i0 q.1 h q.2.1 q.2.2 i
theorem call2{k1 k2:Bool}{l1 l2:ah}{xs ys:Array ag}{R:ag->ao->Prop}(a1:gu k1 s.heap l1 xs)(a2:gu k2 s.heap l2 ys)
 (h:∀h',Zs h' (s.heap.objs.size+4) (s.heap.objs.size+2) (s.heap.objs.size+3) [(k1,s.heap.objs.size,l1),(k2,s.heap.objs.size+1,l2)] 0->(∀c o,s.heap.get? c=ab o->h'.get? c=ab o) ->
  R (.ref (s.heap.objs.size+4)) { s with heap:=h' }):wpAny (model P w) B (call (.type "zip") [.ref l1,.ref l2]) R F' s:=by
 refine callType_new F.called_zip (by decide) (F.typeCall_zip_2 _ _) (F.newCall_zip_2 _ _) (λobj=>F.args_object_init_3 obj _ _) F.entry_zip_new (mk2 k1 k2 l1 l2 xs ys) ⟨a1,a2,?_⟩;intro h1 h2 h3 h4 e1 e2 e3 e4;have z1:h1.objs.size=s.heap.objs.size+1:=by rw[e1];exact nV ..
 have z2:h2.objs.size=s.heap.objs.size+2:=by rw[e2,nV,z1]
 have z3:h3.objs.size=s.heap.objs.size+3:=by rw[e3,nV,z2]
 have z4:h4.objs.size=s.heap.objs.size+4:=by rw[e4,nV,z3]
 have p1:∀c o,s.heap.get? c=ab o->h1.get? c=ab o:=λc o x=>by rw[e1];exact bD _ x
 have p2:∀c o,h1.get? c=ab o->h2.get? c=ab o:=λc o x=>by rw[e2];exact bD _ x
 have p3:∀c o,h2.get? c=ab o->h3.get? c=ab o:=λc o x=>by rw[e3];exact bD _ x
 have p4:∀c o,h3.get? c=ab o->h4.get? c=ab o:=λc o x=>by rw[e4];exact bD _ x
 have p5:∀c o,h4.get? c=ab o->(h4.push (zO h2.objs.size h3.objs.size)).get? c=ab o:=λc o x=>bD _ x;have g1:h1.get? s.heap.objs.size=ab (mF k1 l1):=by rw[e1];exact bS _ rfl
 have g2:h2.get? h1.objs.size=ab (mF k2 l2):=by rw[e2];exact bS _ rfl
 have g3:h3.get? h2.objs.size=ab (tO [.ref s.heap.objs.size,.ref h1.objs.size]):=by rw[e3];exact bS _ rfl
 have g4:h4.get? h3.objs.size=ab (tO [.none,.none]):=by rw[e4];exact bS _ rfl
 have g5:(h4.push (zO h2.objs.size h3.objs.size)).get? h4.objs.size=ab (zO h2.objs.size h3.objs.size):=bS _ rfl;show _/\_;refine⟨⟨_,g5,rfl⟩,?_⟩;rw[z1]at g2 g3;rw[z2]at g3;rw[z3]at g4;rw[z4]at g5 ⊢;rw[z2,z3]at g5 p5 ⊢;exact h _ ⟨g5,p5 _ _ (p4 _ _ g3),⟨_,rfl,p5 _ _ g4⟩,λq hq=>by
  rcases bA.mp hq with rfl|hq
  ·exact⟨_,p5 _ _ (p4 _ _ (p3 _ _ (p2 _ _ g1))),rfl,rfl⟩
  ·obtain rfl:=ej.mp hq;exact⟨_,p5 _ _ (p4 _ _ (p3 _ _ g2)),rfl,rfl⟩⟩ λc o x=>p5 _ _ (p4 _ _ (p3 _ _ (p2 _ _ (p1 _ _ x))))
end
end Zp
namespace Zp
open PySem PySem.Spec PyProof.Rows L2 A
variable[Tb:A.bE]
def f7(H:Hp)(s:Bool×ah)(xs:List V):Prop:=match s.1 with
 |true=>Lst H s.2 xs
 |false=>H s.2=ab (.tup xs)
theorem f7.nn{H:Hp}{s:Bool×ah}{xs:List V}(h:f7 H s xs):H s.2≠ae:=by
 obtain⟨k,a⟩:=s;cases k
 ·have h:H a=_:=h;show H a≠ae;rw[h];simp
 ·rcases(show Lst H a xs from h)with h|⟨o,h⟩
  ·show H a≠ae;rw[h];simp
  ·show H a≠ae;rw[h];simp
theorem f7.inj{H:Hp}{s:Bool×ah}{xs ys:List V}(h:f7 H s xs)(h':f7 H s ys):xs=ys:=by
 obtain⟨k,a⟩:=s;cases k
 ·have h:H a=ab (.tup xs):=h;have h':H a=ab (.tup ys):=h';rw[h]at h';cases h';rfl
 ·rcases(show Lst H a xs from h)with h|⟨o,h⟩<;>rcases(show Lst H a ys from h')with h'|⟨o',h'⟩<;>rw[h]at h'<;>cases h'<;>rfl
theorem f7.at{X:Cx}{af:List (ah×Obj)}{σ:L2.St}{H:Hp}{s:ao}{k:Bool}{a:ah}{xs:List V}(I:Inv X af σ H s)(h:f7 H (k,a) xs):∃aj:List ag,Vals xs aj/\gu k s.heap a aj.toArray:=by
 cases k
 ·have h:H a=ab (.tup xs):=h;obtain⟨_,aj,rv,o,e,c,_,d⟩:=I.hok a _ h;exact⟨aj,rv,o,e,c,d⟩
 ·have h:Lst H a xs:=h;obtain⟨aj,rv,⟨o,n,e,c,_,d⟩,_⟩:=I.list h.sq;exact⟨aj,rv,o,e,c,n,d⟩
abbrev jC(H:Hp)(S:List (Bool×ah))(xss:List (List V)):Prop:=P2 (λs xs=>f7 H s xs) S xss
def tV(S:List (Bool×ah)):It:=
 ⟨fun i H => ∃ xss, jC H S xss ∧ ∀ xs ∈ xss, i < xs.length,
  λi H v H'=>∃p ws,(∀xss,jC H S xss->P2 (λ(xs:List V) x=>xs[i]? = ab x) xss ws)/\H p=ae/\v=.ref p/\H'=upd H p (.tup ws),
  λi H=>∃xss,jC H S xss/\∃xs∈xss,xs.length<=i⟩
theorem F9{H:Hp}:∀{S:List (Bool×ah)} {xss yss:List (List V)},jC H S xss->jC H S yss->xss=yss
 |_,_,_,.nil,.nil=>rfl
 |_,_,_,.cons a r,.cons b t=>by rw[a.inj b,F9 r t]
theorem lie{X:Cx}{af:List (ah×Obj)}{σ:L2.St}{H:Hp}{s:ao}(I:Inv X af σ H s):∀{T:List Tr} {xss:List (List V)},jC H (T.map λq=>(q.1,q.2.2)) xss ->
 ∃L:List Sr,L.map (λq=>(q.k,q.c,q.l))=T/\(∀q∈L,gu q.k s.heap q.l q.us/\H q.l≠ae)/\P2 (λ(q:Sr) xs=>Vals xs q.us.toList) L xss
 |[],_,.nil=>⟨[],rfl,λq h=>absurd h (by simp),.nil⟩
 |(k,c,l)::T,_,.cons a r=>by
  obtain⟨L,e,h,p⟩:=lie I r;obtain⟨aj,rv,q⟩:=a.at I;refine⟨⟨k,c,l,aj.toArray⟩::L,by rw[bO,e],λy hy=>?_,.cons rv p⟩;rcases bA.mp hy with rfl|hy
  ·exact⟨q,a.nn⟩
  ·exact h y hy
theorem pick{i:Nat}:∀{L:List Sr} {xss:List (List V)} {ws:List ag},P2 (λ(q:Sr) xs=>Vals xs q.us.toList) L xss->ws.length=L.length->(∀(j:Nat) (q:Sr),L[j]? = ab q->ws[j]? = q.us[i]?/\i<q.us.size) ->
 ∃vws:List V,Vals vws ws/\P2 (λ(xs:List V) x=>xs[i]? = ab x) xss vws
 |_,_,[],.nil,_,_=>⟨[],.nil,.nil⟩
 |_,_,w::ws,.cons (a:=q) (b:=xs) rv t,hl,h=>by
  obtain⟨vws,r,p⟩:=pick t (by simpa using hl) λj r hr=>by simpa using h (j+1) r (by simpa using hr)
  obtain⟨e,hi⟩:=h 0 q rfl;have hlen:=rv.length;have hix:i<xs.length:=by simp at hlen;omega
  obtain⟨u,hu,ru⟩:=rv.get (i:=i) (x:=xs[i]) (by simp[hix]);have:ab w=ab u:=by have e':ab w=q.us[i]?:=e;rw[e',<- hu];simp
  cases this;exact⟨xs[i]::vws,.cons ru r,.cons (by simp[hix]) p⟩
 |_,_,[],.cons _ _,hl,_=>by simp at hl
 |_,_,w::ws,.nil,hl,_=>by simp at hl
structure Hb(z TI TO:ah)(T:List Tr):Prop where
 TIz:TI≠z
 TOz:TO≠z
 TITO:TI≠TO
 nd:(T.map (·.2.1)).Nodup
 c:∀q∈T,q.2.1≠z/\q.2.1≠TI/\q.2.1≠TO
theorem NQ{P:bg}{w:aY}{K:aE}{elts:List aR}{k1:Nat}{pos:Pos}{z TI TO:ah}{T:List Tr}(D0:Hb z TI TO T)(hT0:T≠[])(hT8:T.length<=8) :
 Turn P w K (.Tuple elts k1 pos) (tV (T.map λq=>(q.1,q.2.2))) (z::TI::TO::T.map (·.2.1)) z (λi h=>Zs h z TI TO T i) where
 mem:=by simp
 obj:=λi h st b hb=>by
  rcases bA.mp hb with rfl|hb
  ·exact⟨_,st.zz,λv q=>by cases q⟩
  rcases bA.mp hb with rfl|hb
  ·exact⟨_,st.ti,λv q=>by cases q⟩
  rcases bA.mp hb with rfl|hb
  ·obtain⟨vs,_,h⟩:=st.to;exact⟨_,h,λv q=>by cases q⟩
  ·obtain⟨q,hq,rfl⟩:=bu.mp hb;exact(st.it q hq).cell
 keep:=λi h h' st kk=>⟨kk z (by simp) _ st.zz,kk TI (by simp) _ st.ti,let ⟨vs,l,e⟩:=st.to;⟨vs,l,kk TO (by simp) _ e⟩,λq hq=>(st.it q hq).at λo e=>kk _ (by simp only[bA];exact .inr (.inr (.inr (jN (f:=λq:Tr=>q.2.1) hq)))) o e⟩
 item:=by
  intro X hP hw hK hc i af s σ H E I hf st hg;subst hP hw hK;obtain⟨xss,hq,hx⟩:=hg;obtain⟨L,eL,at_,rL⟩:=lie I hq;have eT:T.map (λq=>(b8 q.2.1))=L.map λq=>.ref q.c:=by rw[<- eL,dj];rfl
  have eC:T.map (λq=>q.2.1)=L.map λq=>q.c:=by rw[<- eL,dj];rfl
  have lT:T.length=L.length:=by rw[<- eL,aQ]
  have inT:∀q∈L,(q.k,q.c,q.l)∈T:=λq h=>by rw[<- eL];exact jN (f:=λq:Sr=>(q.k,q.c,q.l)) h
  have lne:∀q∈L,∀b∈z::TI::TO::T.map (·.2.1),q.l≠b:=λq h b hb e=>(at_ q h).2 (by rw[e];exact(hf b hb).1);have D:Ap z TI TO L:=⟨D0.TIz,D0.TOz,D0.TITO,by rw[<- eC];exact D0.nd,λq h=>D0.c _ (inT q h),λq h=>⟨lne q h z (by simp),lne q h TO (by simp),λr hr=>lne q h r.c (by rw[eC];simp only[bA];exact .inr (.inr (.inr (jN (f:=λq:Sr=>q.c) hr))))⟩⟩;have hO:=st.to;obtain⟨vs,vl,hO⟩:=hO;have hTI:=st.ti;rw[eT]at hTI;have hty:s.TypeIs (.ref z) "zip" := ⟨_,st.zz,rfl⟩;unfold pyNext;refine ak (kn (jM (name:=gm "__next__") hty xj (gG xj hty F.entry_zip_next
   (Eh (by first|exact I.ok.hd hc|(simp;exact I.ok.hd hc)) D (λe=>hT0 (by rw[e]at lT;exact AZ lT)) st.zz hTI hO (by rw[vl,lT]) (by omega) (λq h=>⟨st.it _ (inT q h),(at_ q h).1⟩) (λh' ws hz' wl wv hO' hN on' kp=>ax ?_) (λh' e kp he hend=>?_)) (F.args_zip_next_1 _))))
  ·refine⟨_,rfl,wpAny_letOwnedTupleGo_zip hz' λh2 hz2 hs2=>?_⟩;have kk:∀b o,b∉z::TI::TO::T.map (·.2.1)->s.heap.get? b=ab o->h2.get? b=ab o:=λb o hb q=>by
    simp only[bA,not_or]at hb;exact(hs2.2 b hb.1).trans (kp b o hb.1 hb.2.2.1 (by rw[<- eC];exact hb.2.2.2) q)
   have hne:∀b∈z::TI::TO::T.map (·.2.1),b≠s.heap.objs.size:=λb hb e=>by
    obtain⟨o,ho,_⟩ : ∃o,s.heap.get? b=ab o/\True:=by
     rcases bA.mp hb with rfl|hb
     ·exact⟨_,st.zz,trivial⟩
     rcases bA.mp hb with rfl|hb
     ·exact⟨_,st.ti,trivial⟩
     rcases bA.mp hb with rfl|hb
     ·exact⟨_,hO,trivial⟩
     ·obtain⟨q,hq,rfl⟩:=bu.mp hb;obtain⟨o,ho,_⟩:=st.it q hq;exact⟨o,ho,trivial⟩
    exact absurd (bR ho) (by rw[e];exact jv _)
   obtain⟨vws,hv,hy⟩ : ∃vws:List V,Vals vws ws/\P2 (λ(xs:List V) x=>xs[i]? = ab x) xss vws:=by exact pick rL wl wv
   have hN2:TupAt h2 s.heap.objs.size ws:=(hs2.2 _ (λe=>hne z (by simp) e.symm)).trans hN;refine⟨.ref s.heap.objs.size,upd H s.heap.objs.size (.tup vws),Fv (s:=s) (t':=s.toks) I hf kk (ba _) ⟨?_,ws,hv,⟨_,hN2,rfl,rfl,_,rfl⟩⟩,rfl,⟨_,vws,λyss h=>by rw[F9 h hq];exact hy,I.hok.fresh (ba _),rfl,rfl⟩,?_,λb hb=>?_⟩
   ·rw[hv.length,wl,b9];omega
   ·refine⟨hz2,(hs2.2 _ D0.TIz).trans ?_,⟨ws,by rw[wl,lT],(hs2.2 _ D0.TOz).trans hO'⟩,λq hq2=>?_⟩
    ·exact kp _ _ D0.TIz D0.TITO (λh=>by
      rw[<- eC]at h;obtain⟨q,hq2,e⟩:=bu.mp h;exact(D0.c q hq2).2.1 e) st.ti
    ·rw[<- eL]at hq2;obtain⟨r,hr,rfl⟩:=bu.mp hq2;exact(on' r hr).1.at λo q=>(hs2.2 _ (D.c r hr).1).trans q
   ·rw[aC (hne b hb)];exact(hf b hb).1
  ·exfalso;obtain⟨q,hqm,hle⟩:=hend;obtain⟨j,hj⟩:=mj hqm;obtain⟨xs,hxs,rv⟩:=rL.getL hj;have:=hx xs (fj hxs);have:=rv.length;simp at this;omega
 done:=by
  intro X hP hw hK hc i af s σ H E I hf st hg;subst hP hw hK;obtain⟨xss,hq,xs0,hx0,hxl⟩:=hg;obtain⟨L,eL,at_,rL⟩:=lie I hq;have eT:T.map (λq=>(b8 q.2.1))=L.map λq=>.ref q.c:=by rw[<- eL,dj];rfl
  have eC:T.map (λq=>q.2.1)=L.map λq=>q.c:=by rw[<- eL,dj];rfl
  have lT:T.length=L.length:=by rw[<- eL,aQ]
  have inT:∀q∈L,(q.k,q.c,q.l)∈T:=λq h=>by rw[<- eL];exact jN (f:=λq:Sr=>(q.k,q.c,q.l)) h
  have lne:∀q∈L,∀b∈z::TI::TO::T.map (·.2.1),q.l≠b:=λq h b hb e=>(at_ q h).2 (by rw[e];exact(hf b hb).1);have D:Ap z TI TO L:=⟨D0.TIz,D0.TOz,D0.TITO,by rw[<- eC];exact D0.nd,λq h=>D0.c _ (inT q h),λq h=>⟨lne q h z (by simp),lne q h TO (by simp),λr hr=>lne q h r.c (by rw[eC];simp only[bA];exact .inr (.inr (.inr (jN (f:=λq:Sr=>q.c) hr))))⟩⟩;have hO:=st.to;obtain⟨vs,vl,hO⟩:=hO;have hTI:=st.ti;rw[eT]at hTI;have hty:s.TypeIs (.ref z) "zip" := ⟨_,st.zz,rfl⟩;unfold pyNext;refine ak (kn (jM (name:=gm "__next__") hty xj (gG xj hty F.entry_zip_next
   (Eh (by first|exact I.ok.hd hc|(simp;exact I.ok.hd hc)) D (λe=>hT0 (by rw[e]at lT;exact AZ lT)) st.zz hTI hO (by rw[vl,lT]) (by omega) (λq h=>⟨st.it _ (inT q h),(at_ q h).1⟩) (λh' ws hz' wl wv hO' hN on' kp=>?_) (λh' e kp he hend=>?_)) (F.args_zip_next_1 _))))
  ·exfalso;obtain⟨j,hj⟩:=mj hx0;obtain⟨q,hqj,rv⟩:=rL.vZ hj;have:=(wv j q hqj).2;have:=rv.length;simp at this;omega
  ·obtain⟨o,ho,hcl⟩:=he;refine ak (nE (T := "StopIteration") (b:=true) ⟨o,ho,hcl⟩ wG (ax ⟨rfl,?_⟩));exact Ax (s:=s) (t':=s.toks) I hf λb o hb q=>by
    simp only[bA,not_or]at hb;exact kp b o hb.1 hb.2.2.1 (by rw[<- eC];exact hb.2.2.2) q
 self:=λ_ i s Q E st h=>wpAny_pyIter_zip st.zz h
end Zp
namespace Mi
def vS:D->Rs (List D)
 |.lst ds=>.ok ds
 |.tup ds=>.ok ds
 |_=>.no
def uH(a b:E):I:=λe=>(a e).bind λx=>(b e).bind λy=>(vS x).bind λds=>(vS y).bind λes=>.ok (im ds es)
end Mi
namespace Zp
open PySem PySem.Spec PyProof.Rows L2 A
open Mi (D W Rs Fin au)
variable[Tb:A.bE]
theorem f7.same{H H':Hp}{s:Bool×ah}{xs:List V}(h:cK H H')(q:f7 H s xs):f7 H' s xs:=by
 obtain⟨k,a⟩:=s;cases k
 ·exact h _ _ q
 ·exact Lst.same (a:=a) h q
theorem sB{H H':Hp}{S:List (Bool×ah)}{xss:List (List V)}(h:cK H H')(q:jC H S xss):jC H' S xss:=q.imp λ_ _ x=>x.same h
def DO(dss:List (List D))(dz:List D):Prop:=(∀i,i<dz.length->∃us,dz[i]? = ab (.tup us)/\P2 (λ(ds:List D) u=>ds[i]? = ab u) dss us)/\∃ds∈dss,ds.length=dz.length
theorem picks{Hv:Hp}{i:Nat}:∀{dss:List (List D)} {xss:List (List V)} {us:List D} {ws:List V},P2 (P2 (Rep Hv)) dss xss->P2 (λ(ds:List D) u=>ds[i]? = ab u) dss us->P2 (λ(xs:List V) x=>xs[i]? = ab x) xss ws->P2 (Rep Hv) us ws
 |_,_,_,_,.nil,.nil,.nil=>.nil
 |_,_,_,_,.cons a r,.cons b s,.cons c t=>.cons (a.get b c) (picks r s t)
theorem Gn{α β:Type}{F:α->β->Prop}:∀{l:List α} {m:List β} {b:β},P2 F l m->b∈m->∃a∈l,F a b
 |_,_,_,.cons x t,h=>by
  rcases bA.mp h with rfl|h
  ·exact⟨_,ce ..,x⟩
  ·obtain⟨a,ha,q⟩:=Gn t h;exact⟨a,c6 _ ha,q⟩
theorem AD{α β:Type}{F:α->β->Prop}:∀{l:List α} {m:List β} {a:α},P2 F l m->a∈l->∃b∈m,F a b
 |_,_,_,.cons x t,h=>by
  rcases bA.mp h with rfl|h
  ·exact⟨_,ce ..,x⟩
  ·obtain⟨a,ha,q⟩:=AD t h;exact⟨a,c6 _ ha,q⟩
def ZP(S:List (Bool×ah))(dss:List (List D))(xss:List (List V))(_ Hv:Hp):Prop:=jC Hv S xss/\P2 (P2 (Rep Hv)) dss xss
theorem PJ{S:List (Bool×ah)}{dss:List (List D)}{xss:List (List V)}{dz:List D}(hz:DO dss dz):rf (tV S) (ZP S dss xss) dz:=by
 refine⟨λi H Hv p v hi=>?_,λi H Hv x H' p v hi y=>?_,λH Hv p v=>?_⟩
 ·obtain⟨us,_,hu⟩:=hz.1 i hi;refine⟨xss,sB v.sub p.1,λxs hx=>?_⟩;obtain⟨ds,hd,r⟩:=Gn p.2 hx;obtain⟨u,_,e⟩:=AD hu hd;have:=(cu.mp e).1;rw[<- r.len];exact this
 ·obtain⟨us,hd,hu⟩:=hz.1 i hi;obtain⟨q,ws,hw,hq,rfl,rfl⟩:=y;have r:=picks p.2 hu (hw xss (sB v.sub p.1));obtain⟨g,k⟩:=ot v r hq;exact⟨_,.tup us,g,hd,k⟩
 ·obtain⟨ds,hd,e⟩:=hz.2;obtain⟨xs,hx,r⟩:=AD p.2 hd;exact⟨xss,sB v.sub p.1,xs,hx,by rw[<- r.len];omega⟩
theorem Ei:∀ds es:List D,DO [ds,es] (Mi.im ds es)
 |[],es=>⟨λi h=>absurd h (by simp[Mi.im]),[],by simp,by simp[Mi.im]⟩
 |d::r,[]=>⟨λi h=>absurd h (by simp[Mi.im]),[],by simp,by simp[Mi.im]⟩
 |d::r,e::s=>by
  obtain⟨h1,ds,hd,hl⟩:=Ei r s;refine⟨λi hi=>?_,?_⟩
  ·cases i with
   |zero=>exact⟨[d,e],rfl,.cons rfl (.cons rfl .nil)⟩
   |succ i=>
    obtain⟨us,a,b⟩:=h1 i (by simpa [Mi.im]using hi);refine⟨us,by simpa [Mi.im]using a,?_⟩;cases b with
    |cons x t=>
     cases t with
     |cons y t=>cases t;exact .cons (by simpa using x) (.cons (by simpa using y) .nil)
  ·rcases bA.mp hd with rfl|hd
   ·exact⟨d::ds,by simp,by simp[Mi.im,hl]⟩
   ·obtain rfl:=ej.mp hd;exact⟨e::ds,by simp,by simp[Mi.im,hl]⟩
theorem xR{x:D}{k:List D->Prop}(h:Fin (Mi.vS x) k):∃ds,(x=.lst ds\/x=.tup ds)/\k ds:=by
 cases x with
 |lst b=>exact⟨b,.inl rfl,h⟩
 |tup b=>exact⟨b,.inr rfl,h⟩
 |_=>exact h.elim
theorem Ac{H:Hp}{x:D}{ds:List D}{v:V}(h:x=.lst ds\/x=.tup ds)(r:Rep H x v):∃k a xs,v=.ref a/\f7 H (k,a) xs/\P2 (Rep H) ds xs:=by
 rcases h with rfl|rfl
 ·obtain⟨a,xs,e,l,r⟩:=lC.mp r;exact⟨true,a,xs,e,l,r⟩
 ·obtain⟨a,xs,e,l,r⟩:=js.mp r;exact⟨false,a,xs,e,l,r⟩
section
variable{X:Cx}{elts:List aR}{k1:Nat}{tpos:Pos}{M:Nat->Bool}
theorem lR{a b:Nat}(h:a≠b):@Ne ah a b:=h
theorem RC{n:Nat}:∀{b:Nat},b∈([n+4,n+2,n+3,n,n+1]:List Nat)->n<=b:=λ{b} h=>by simp at h;omega
theorem N7(n:Nat)(k k':Bool)(l l':ah):Hb (n+4) (n+2) (n+3) [(k,n,l),(k',n+1,l')]:=
 ⟨lR (by omega),lR (by omega),lR (by omega),by show([n,n+1]:List Nat).Nodup;simp,λq hq=>by
  rcases bA.mp hq with rfl|hq
  ·exact⟨lR (show n≠n+4 by omega),lR (show n≠n+2 by omega),lR (show n≠n+3 by omega)⟩
  ·obtain rfl:=ej.mp hq;exact⟨lR (show n+1≠n+4 by omega),lR (show n+1≠n+2 by omega),lR (show n+1≠n+3 by omega)⟩⟩
def DU(ta tb:TE):TI:=λσ H R=>ta σ H λx H1=>tb σ H1 λy H2=>∃S xss,[x,y]=S.map (λs:Bool×ah=>V.ref s.2)/\S.length=2/\jC H2 S xss/\R (tV S) H2
theorem Lp{a b:aR}{ta tb:TE}{p pos:Pos}(hg:Gl X "zip")(hm:X.mg "zip" = ae)(ha:PE X a ta)(hb:PE X b tb)(hs:starEach [a,b] X.env=[(false,eval a X.env),(false,eval b X.env)]:=by rfl)(hs0:starEach [a,b] X.env=(false,eval a X.env)::starEach [b] X.env:=by rfl)(hs1:starEach [b] X.env=(false,eval b X.env)::starEach [] X.env:=by rfl)(hpl:(backTo pos (starEach [b] X.env)).any (·.1)=false:=by rfl) :
 PI X (.Tuple elts k1 tpos) (.Call (.Name "zip" p) [a,b] [] pos) (DU ta tb):=by
 intro af s σ H R I h;refine Call_ (oU I hg hm boot_zip (xl (aS (aq ha (aq hb a8 hs1) hs0 pos af s σ H (λvs H1=>∃S xss,vs=S.map (λs:Bool×ah=>V.ref s.2)/\S.length=2/\jC H1 S xss/\R (tV S) H1) I ?_) λus s1 ⟨vs,H1,I1,r1,q1⟩=>?_) hs0 hpl))
 ·exact h
 ·obtain⟨S,xss,e,hl,hS,q⟩:=q1;obtain⟨⟨k,l⟩,⟨k',l'⟩,rfl⟩ : ∃x y,S=[x,y]:=by
   match S,hl with
   |[x,y],_=>exact⟨x,y,rfl⟩
  subst e;have hS0:=hS;cases hS with
  |cons s1' t=>
  cases t with
  |cons s2' t=>
  cases t;cases r1 with
  |cons u1 r1=>
  cases r1 with
  |cons u2 r1=>
  cases r1;cases u1;cases u2;obtain⟨i1,_,a1⟩:=s1'.at I1;obtain⟨i2,_,a2⟩:=s2'.at I1;refine call2 a1 a2 λh' hZ hk=>wpAny_pyIter_zip hZ.zz ?_;have I2:Inv X af σ H1 { s1 with heap:=h' }:=I1.kept (t':=s1.toks) λb o e=>hk b o e;refine⟨_,_,_,_,H1,rfl,I2,NQ (z:=s1.heap.objs.size+4) (TI:=s1.heap.objs.size+2) (TO:=s1.heap.objs.size+3) (N7 _ k k' l l') (by simp) (by simp),hZ,λb hb=>?_,q⟩;have hb:s1.heap.objs.size<=b:=RC hb;exact I1.io hb (I1.hok.fresh hb)
theorem QN{ta tb:TE}{a b:Mi.E}(ha:AE M qV ta a)(hb:AE M qV tb b):iI M (DU ta tb) (Mi.uH a b):=λe σ H Hv R I h=>
 ha e σ H Hv _ I ((au.mp h).mono λx hx v H1 Hv1 g1 rx=>hb e σ H1 Hv1 _ (I.grow g1) ((au.mp hx).mono λy hy u H2 Hv2 g2 ry=>by
  obtain⟨ds,hd,hk⟩:=xR (au.mp hy);obtain⟨es,he,hk⟩:=xR (au.mp hk);obtain⟨k,a,xs,rfl,s1,r1⟩:=Ac hd (oS g2.vis (show Rep Hv1 x v from rx));obtain⟨k',a',ys,rfl,s2,r2⟩:=Ac he (show Rep Hv2 y u from ry);have S2:jC Hv2 [(k,a),(k',a')] [xs,ys]:=.cons s1 (.cons s2 .nil);exact⟨[(k,a),(k',a')],[xs,ys],rfl,rfl,sB g2.vw.sub S2,hk (tV [(k,a),(k',a')]) H2 Hv2 (ZP [(k,a),(k',a')] [ds,es] [xs,ys]) (g1.trans g2) (PJ (Ei ds es)) ⟨S2,.cons r1 (.cons r2 .nil)⟩ λ_ _ _ _ z s _=>⟨sB s z.1,z.2.imp λ_ _ q=>fe s q⟩⟩))
end
end Zp
namespace Zp
open PySem PySem.Spec PyProof.Rows L2 A
open Mi (D W Rs Fin au)
variable[Tb:A.bE]
section
variable{X:Cx}{af:List (ah×Obj)}{σ:L2.St}{H:Hp}{s:ao}{B:bv}{E:ag->ao->Prop}{Q:ag->ao->Prop}{b:Bool}
theorem kit_at{x:V}{u t:ag}(I:Inv X af σ H s)(rx:RelV x u)(ty:gV X.K H x t):∃P:aI->Prop,PySem.W.KitX X.K u t P/\P s.heap/\u≠.builtin "__main__.__loader__#opaque":= by
 cases ty with
 |non=>cases(show u=eE from rx);exact⟨_,IT,g9,λz=>nomatch z⟩
 |bl y=>cases(show u=jw y from rx);exact⟨_,IU,g9,λz=>nomatch z⟩
 |int i=>obtain⟨t,q⟩:=(show∃t,u=xk i t from rx);cases q;exact⟨_,IW,g9,λz=>nomatch z⟩
 |str y=>obtain⟨t,q⟩:=(show∃t,u=mx y t from rx);cases q;exact⟨_,IY,g9,λz=>nomatch z⟩
 |flt y=>obtain⟨t,q⟩:=(show∃t,u=BF y t from rx);cases q;exact⟨_,IR,g9,λz=>nomatch z⟩
 | @lst a xs ea=>
  cases(show u=b8 a from rx);obtain⟨_,_,n,_,h1⟩:=(show bQ X.prog X.w H s.heap a (.lst xs)from I.hok a _ ea);exact⟨_,wY,⟨_,h1,rfl⟩,λz=>nomatch z⟩
 | @frz a ob xs ea=>
  cases(show u=b8 a from rx);obtain⟨_,_,_,n,_,h1⟩:=(show bQ X.prog X.w H s.heap a (.frz ob (.lst xs))from I.hok a _ ea);exact⟨_,wY,⟨_,h1,rfl⟩,λz=>nomatch z⟩
 | @tup a xs ea=>
  cases(show u=b8 a from rx);obtain⟨_,_,_,o,h1,h2,_⟩:=(show bQ X.prog X.w H s.heap a (.tup xs)from I.hok a _ ea);exact⟨_,IS,⟨o,h1,h2⟩,λz=>nomatch z⟩
 | @dK a am ea=>
  cases(show u=b8 a from rx);obtain⟨_,_,vs,_,o,es,ep,h1,h2,_⟩:=(show bQ X.prog X.w H s.heap a (.dK am)from I.hok a _ ea);exact⟨_,wZ,⟨o,h1,h2.1⟩,λz=>nomatch z⟩
 | @dT a am ea=>
  cases(show u=b8 a from rx);obtain⟨_,_,xs,_,o,es,ep,h1,h2,_⟩:=(show bQ X.prog X.w H s.heap a (.dT am)from I.hok a _ ea);exact⟨_,wZ,⟨o,h1,h2.1⟩,λz=>nomatch z⟩
 | @ins a C dx fs ea cl ha hn htk hm=>
  cases(show u=b8 a from rx);obtain⟨mA,O,_⟩:=Dj I.hok ea;obtain⟨od,J,_⟩:=O.look;exact⟨_,IZ (cl.get _) cl.hd ha hn htk hm,J,λz=>nomatch z⟩
theorem CN:∀{Ts:List String} {us:List ag},Vals (Ts.map V.ty) us->us=Ts.map .type
 |[],_,.nil=>rfl
 |T::r,_,.cons a t=>by
  have a:_=um T:=a;rw[a,CN t];rfl
def GZ(K:aE):List V->Hp->VK->Prop:=λxs H Q=>∃(x:V) (t:ag) (tp:ah) (Ts:List String) (b:Bool),xs=[x,.ref tp]/\H tp=ab (.tup (Ts.map V.ty))/\gV K H x t/\Bn K t (Ts.map .type)=ab b/\Q (.bl b) H
theorem Gb:fZ X (.builtin "isinstance") (GZ X.K):=by intro af s σ H xs us Q I r h;obtain⟨x,t,tp,Ts,b,rfl,ht,ty,e,q⟩:=h;obtain⟨u,w',rfl,rx,rt⟩:=vals2 r;cases(show w'=b8 tp from rt);obtain⟨_,aj,rv,o,h1,h2,_,n,h3⟩:=(show bQ X.prog X.w H s.heap tp (.tup (Ts.map V.ty))from I.hok tp _ ht);obtain rfl:=CN rv;obtain⟨c,d,dt,sl⟩:=o;simp only at h2 h3;subst h2 h3;obtain⟨P,kx,p,hn⟩:=kit_at I rx ty;exact PySem.W.kia_tup kx I.gp p h1 e hn λtk=>⟨.bl b,H,I.tok tk,rfl,q⟩
end
theorem EX{K:aE}{d:D}:∀{Ts:List String},(∀T∈Ts,jY K T)->Bn K (.type (Mi.yS d)) (Ts.map .type)=ab (Ts.any λt=>Mi.qF t d)
 |[],_=>rfl
 |T::r,h=>by
  have h1:=h T (ce ..) d;have h2:=EX (d:=d) λT' hT=>h T' (c6 _ hT);rw[bO,Bn,h1];cases e:Mi.qF T d
  ·simp only[iH,e,Bq];exact h2
  ·simp only[iH,e,Br]
theorem Fl{K:aE}{S T:String}(h:jY K S)(g:jY K T):∀U∈[S,T],jY K U:=λU hU=>by
 rcases bA.mp hU with rfl|hU
 ·exact h
 ·obtain rfl:=ej.mp hU;exact g
def zL:List String->TA
 |[]=>f6
 |T::r=>fu (tC (.ty T)) (zL r)
theorem FA:∀(Ts:List String) (σ:L2.St) (H:Hp) (Q:List V->Hp->Prop),Q (Ts.map V.ty) H->zL Ts σ H Q
 |[],_,_,_,h=>h
 |T::r,σ,H,Q,h=>FA r σ H _ h
section
variable{M:Nat->Bool}{K:aE}{ta:TE}{a:Mi.E}
theorem ES{Ts:List String}(hT:∀T∈Ts,jY K T)(hl:Ts.length<=8)(ha:AE M qP ta a):AE M qV (lf (GZ K) (fu ta (fu (zh (zL Ts)) f6))) (Mi.m1 (Mi.cE Ts) a):=λe σ H Hv Q I h=>
 ha e σ H Hv _ I ((au.mp h).mono λx hx v H1 Hv1 g1 rx=>FA Ts σ H1 _ ⟨by rw[aQ,b9];omega,λp hp=>by
  have g2:bb H1 Hv1 (upd H1 p (.tup (Ts.map V.ty))) (upd Hv1 p (.tup (Ts.map V.ty))):=.new g1.vw hp;have g:=g1.trans g2;exact⟨v,_,p,Ts,_,rfl,bj,GD g.vw (RB.grow g2 rx),EX hT,(Mi.kR hx) _ _ _ g fE⟩⟩)
end
end Zp
namespace Mi
def oo(a:E):I:=λe=>(a e).bind λx=>(vS x).bind λds=>.ok (kJ 0 ds)
end Mi
namespace Zp
open PySem PySem.Spec PyProof.Rows L2 A
open Mi (D W Rs Fin au)
open AutoSeq1 (wpAny_loadPart')
variable[Tb:A.bE]
abbrev eO(c:ah):Obj:={ cls:=.type "enumerate", data:=.fields #[.none,.bool false,.ref c,rawInt 0,.none,.none] }
theorem Q3(l:ah)(us:Array ag)(n:Nat)(dd:Option ah)(sl:Array (Option ag)) :
 Meets (eX.«enumerate.__new__» ⟨[.type "enumerate",.ref l],[]⟩) (λ_ R s=>s.heap.get? l=ab { cls:=.type "tuple", dict:=dd,data:=.seq us n,slots:=sl } /\
  ∀h1:aI,h1=s.heap.push (mF false l)->R (.ok (.ret (.ref h1.objs.size))) { s with heap:=h1.push (eO s.heap.objs.size) }):=
 .of_wp λprog w A R s h=>by
  obtain⟨hp,g,d,tk,os⟩:=s;obtain⟨ht,h⟩:=h;have hsub:=sub_enumerate;have hQ:gu false (BV ⟨hp,g,d,tk,os⟩) l us:=⟨_,ht,rfl,n,rfl⟩
  wp_walk using wpAny_loadPart' ht
  refine wpAny_stack_any λst=>ax ?_;split
  ·rename_i c _ _ _ _ _;cases(c==um "enumerate")
   ·wp_walk using wpAny_loadPart' ht,sP hQ
    exact⟨_,rfl,h _ rfl⟩
   ·wp_walk using wpAny_loadPart' ht,sP hQ
    exact⟨_,rfl,h _ rfl⟩
  ·wp_walk using wpAny_loadPart' ht,sP hQ
   exact⟨_,rfl,h _ rfl⟩
theorem LY{P:bg}{w:aY}{B:bv}{E':ag->ao->Prop}{s:ao}{k:Bool}{l:ah}{us:Array ag}{R:ag->ao->Prop}(hQ:gu k s.heap l us)
 (h:∀h',IsEnum h' (s.heap.objs.size+1) s.heap.objs.size 0 .none->i0 k h' s.heap.objs.size l 0->(∀b o,s.heap.get? b=ab o->h'.get? b=ab o)->R (.ref (s.heap.objs.size+1)) { s with heap:=h' }) :
 wpAny (model P w) B (call (.type "enumerate") [.ref l]) R E' s:=by
 cases k
 ·obtain⟨⟨c,dd,dt,sl⟩,hl,hc,n,hd⟩:=hQ;replace hc:c=.type "tuple" := hc;replace hd:dt=.seq us n:=hd;subst hc hd;refine callType_new F.called_enumerate (by decide) (F.typeCall_enumerate_1 _) (F.newCall_enumerate_1 _) (λobj=>BB obj _) F.entry_enumerate_new (Q3 l us n dd sl) ⟨hl,?_⟩;intro h1 e1;have z1:h1.objs.size=s.heap.objs.size+1:=by rw[e1];exact nV ..
  have g1:h1.get? s.heap.objs.size=ab (mF false l):=by rw[e1];exact bS _ rfl
  have g2:(h1.push (eO s.heap.objs.size)).get? h1.objs.size=ab (eO s.heap.objs.size):=bS _ rfl;show _/\_;refine⟨⟨_,g2,rfl⟩,?_⟩;rw[z1]at g2 ⊢;exact h _ g2 ⟨_,bD _ g1,rfl,rfl⟩ λb o x=>bD _ (by rw[e1];exact bD _ x)
 ·exact call_enumerate_list hQ λh' a b _ d=>h h' a b d
def tF(q:Bool×ah):It:=⟨λi H=>∃xs x,f7 H q xs/\xs[i]? = ab x,λi H v H'=>∃p x,(∀xs,f7 H q xs->xs[i]? = ab x)/\H p=ae/\v=.ref p/\H'=upd H p (.tup [.int i,x]),λi H=>∃xs,f7 H q xs/\xs.length=i⟩
theorem Nq{P:bg}{w:aY}{K:aE}{elts:List aR}{k1:Nat}{pos:Pos}(k:Bool)(a e it:ah)(hne:e≠it):Turn P w K (.Tuple elts k1 pos) (tF (k,a)) [e,it] e (λi h=>(∃old,IsEnum h e it i old)/\i0 k h it a i) where
 mem:=by simp
 obj:=λi h st b hb=>by
  obtain⟨⟨old,he⟩,hi⟩:=st;rcases bA.mp hb with rfl|hb
  ·exact⟨_,he,λv z=>by cases z⟩
  ·have e1:b=it:=by simpa using hb
   subst e1;exact hi.cell
 keep:=λi h h' st kk=>⟨let ⟨old,he⟩:=st.1;⟨old,kk e (by simp) _ he⟩,st.2.at λo q=>kk it (by simp) o q⟩
 item:=by
  intro X hP hw hK hc i af s σ H E I hf st hg;subst hP hw hK;obtain⟨xs,x,hq,hx⟩:=hg;obtain⟨aj,rv,p⟩:=hq.at I;obtain⟨u,hu,ru⟩:=rv.get hx;obtain⟨⟨old,he⟩,hli⟩:=st;have hlt:i<aj.toArray.size:=by rw[bK];exact(cu.mp hu).1
  have hai:a≠it:=λz=>hq.nn (by show H a=ae;rw[z];exact(hf it (by simp)).1);have hea:e≠a:=λz=>hq.nn (by show H a=ae;rw[<- z];exact(hf e (by simp)).1);refine wpAny_pyNext_enum_itemD (DL (by first|exact I.ok.hd hc|(simp;exact I.ok.hd hc)) k it a hai aj.toArray) he ⟨hli,p⟩ hlt hne (by simp[hne,hea]) λy h' tk hy ho hs' hT hsz hk=>?_;have hy:y=u:=by
   have hu':aj.toArray[i]? = ab u:=by simpa using hu
   rw[hu']at hy;exact(gi hy).symm
  subst hy;refine⟨_,rfl,wpAny_letOwnedTupleGo_enum ho λh2 he2 hs2=>?_⟩;have kk:∀b o,b∉[e,it]->s.heap.get? b=ab o->h2.get? b=ab o:=λb o hb q=>by
   simp at hb;exact(hs2.2 b hb.1).trans (hk b o hb.1 hb.2 q)
  have hTn:s.heap.objs.size≠e:=λz=>absurd (bR he) (by rw[z];exact jv _);refine⟨.ref s.heap.objs.size,upd H s.heap.objs.size (.tup [.int i,x]),Fv (s:=s) (t':=tk+1) I hf kk (ba _) ?_,rfl,⟨_,x,λys hy=>by rw[hy.inj hq];exact hx,I.hok.fresh (ba _),rfl,rfl⟩,⟨⟨_,he2⟩,?_⟩,λb hb=>?_⟩
  ·exact⟨by simp only[dW,pN];rw[b9];decide,[.int i tk,y],.cons ⟨_,rfl⟩ (.cons ru .nil),⟨_,(hs2.2 _ hTn).trans hT,rfl,rfl,_,rfl⟩⟩
  ·exact hs'.1.at λo q=>(hs2.2 it (cR hne)).trans q
  ·have:b≠s.heap.objs.size:=λz=>by
    subst z;rcases bA.mp hb with z|z
    ·exact hTn z
    ·have z:s.heap.objs.size=it:=by simpa using z
     obtain⟨o,ho,_⟩:=hli;exact absurd (bR ho) (by rw[<- z];exact jv _)
   rw[aC this];exact(hf b hb).1
 done:=by
  intro X hP hw hK hc i af s σ H E I hf st hg;subst hP hw hK;obtain⟨xs,hq,hx⟩:=hg;obtain⟨aj,rv,p⟩:=hq.at I;obtain⟨⟨old,he⟩,hli⟩:=st;have hl:=rv.length;have hai:a≠it:=λz=>hq.nn (by show H a=ae;rw[z];exact(hf it (by simp)).1);subst hx;have D:=DL (P:=X.prog) (w:=X.w) (B:=X.A.in1) (by first|exact I.ok.hd hc|(simp;exact I.ok.hd hc)) k it a hai aj.toArray;have hn:aj.toArray.size=xs.length:=by simp;omega
  rw[hn]at D;exact wpAny_pyNext_enum_endD D he ⟨hli,p⟩ λh' hx=>⟨rfl,Ax (s:=s) (t':=s.toks) I hf λb o hb q=>hx b o (λz=>hb (by simp[z])) q⟩
 self:=λ_ i s Q E st h=>let ⟨⟨old,he⟩,_⟩:=st;wpAny_pyIter_enum he h
section
variable{X:Cx}{elts:List aR}{k1:Nat}{tpos:Pos}{M:Nat->Bool}
def FI(tl:TE):TI:=λσ H R=>tl σ H λx H1=>∃k a,[x]=[V.ref a]/\(∃xs,f7 H1 (k,a) xs)/\R (tF (k,a)) H1
theorem El{a:aR}{ta:TE}{p pos:Pos}(hg:Gl X "enumerate")(hm:X.mg "enumerate" = ae)(ha:PE X a ta)(hs:starEach [a] X.env=[(false,eval a X.env)]:=by rfl)(hs0:starEach [a] X.env=(false,eval a X.env)::starEach [] X.env:=by rfl) :
 PI X (.Tuple elts k1 tpos) (.Call (.Name "enumerate" p) [a] [] pos) (FI ta):=by
 intro af s σ H R I h;refine Call_ (oU I hg hm boot_enumerate (xl (aS (aq ha a8 hs0 pos af s σ H (λvs H1=>∃k l,vs=[.ref l]/\(∃xs,f7 H1 (k,l) xs)/\R (tF (k,l)) H1) I ?_) λus s1 ⟨vs,H1,I1,r1,q1⟩=>?_) hs rfl))
 ·exact h
 ·obtain⟨k,l,e,⟨xs,hq⟩,q⟩:=q1;subst e;obtain⟨u,rfl,ru⟩:=vals1 r1;cases ru;obtain⟨aj,rv,pl⟩:=hq.at I1;refine LY pl λh' hE hI hk=>?_;refine wpAny_pyIter_enum hE ?_;have I2:Inv X af σ H1 { s1 with heap:=h' }:=I1.kept (t':=s1.toks) λb o e=>hk b o e;refine⟨_,[s1.heap.objs.size+1,s1.heap.objs.size],_,_,H1,rfl,I2,Nq k l (s1.heap.objs.size+1) s1.heap.objs.size (uj (Bs _)),⟨⟨_,hE⟩,hI⟩,λb hb=>?_,q⟩;have hb:s1.heap.objs.size<=b:=by
   rcases bA.mp hb with z|z
   ·rw[z];exact Nat.le_succ _
   ·have z:b=s1.heap.objs.size:=by simpa using z
    rw[z];exact ba _
  exact I1.io hb (I1.hok.fresh hb)
theorem MZ{q:Bool×ah}{ds:List D}{P:Hp->Hp->Prop}(ok:∀H Hv,P H Hv->Vw H Hv->∃xs,f7 H q xs/\P2 (Rep Hv) ds xs):rf (tF q) P (Mi.kJ 0 ds):=by
 refine⟨λi H Hv p v hi=>?_,λi H Hv x H' p v hi y=>?_,λH Hv p v=>?_⟩
 ·obtain⟨xs,l,r⟩:=ok H Hv p v;rw[u6]at hi;obtain⟨x,hx,_⟩:=r.getL (i:=i) (a:=ds[i]) (by simp[hi]);exact⟨xs,x,l,hx⟩
 ·obtain⟨xs,l,r⟩:=ok H Hv p v;rw[u6]at hi;obtain⟨q,z,hz,hq,rfl,rfl⟩:=y;obtain⟨x,hx,rx⟩:=r.getL (i:=i) (a:=ds[i]) (by simp[hi]);rw[hz xs l]at hx;cases hx;obtain⟨g,k⟩:=ot v (ds:=[.int i,ds[i]]) (xs:=[.int i,z]) (.cons (ox.mpr rfl) (.cons rx .nil)) hq;refine⟨_,.tup [.int i,ds[i]],g,?_,k⟩;rw[En (i:=i) (d:=ds[i]) (by simp[hi])];simp
 ·obtain⟨xs,l,r⟩:=ok H Hv p v;exact⟨xs,l,by rw[u6,r.len]⟩
theorem He{ta:TE}{a:Mi.E}(ha:AE M qV ta a):iI M (FI ta) (Mi.oo a):=λe σ H Hv R I h=>
 ha e σ H Hv _ I ((au.mp h).mono λx hx v H1 Hv1 g1 rx=>by
  obtain⟨ds,hd,hk⟩:=xR (au.mp hx);obtain⟨k,p,xs,rfl,l,r⟩:=Ac hd (show Rep Hv1 x v from rx);exact⟨k,p,rfl,⟨xs,l.same g1.vw.sub⟩,hk (tF (k,p)) H1 Hv1 (λH Hv=>f7 Hv (k,p) xs/\P2 (Rep Hv) ds xs) g1 (MZ λH Hv z v=>⟨xs,z.1.same v.sub,z.2⟩) ⟨l,r⟩ λH1 Hv1 H2 Hv2 z s v=>⟨z.1.same s,fe s z.2⟩⟩)
end
end Zp
namespace Mi
def Ik(k v:E):EW:=λe=>(k e).bind λd=>(v e).bind λx=>(cG (oG d)).bind λy=>.ok (.dk [(y,x)])
end Mi
namespace Zp
open PySem PySem.Spec PyProof.Rows L2 A
open Mi (D W Rs Fin au)
variable[Tb:A.bE]
section
variable{X:Cx}{M:Nat->Bool}{κ:Kd}
theorem QW{k v:aR}{tk tv:TE}{pos:Pos}(hk:PE X k tk)(hv:PE X v tv):PE X (.Dict [ab k] [v] pos) (yd [(tk,tv)]):=L4 (Lf hk hv PY) rfl rfl (by simp) (by simp)
theorem Pe{tk tv:TE}{k v:Mi.E}(hk:AE M qV tk k)(hv:AE M qV tv v):AW M qN (yd [(tk,tv)]) (Mi.Ik k v):=λe σ H Hv Q I h p hp=>by
 have g0:bb H Hv (upd H p (.dK [])) Hv:=.qf I.vw trivial hp;refine hk e σ _ Hv _ (I.grow g0) ((au.mp h).mono λd hd x H1 Hv1 g1 rx=>hv e σ H1 Hv1 _ ((I.grow g0).grow g1) ((au.mp hd).mono λc hc y H2 Hv2 g2 ry=>?_));obtain⟨z,hz,hq⟩:=gC (au.mp hc);have hx:=vt hz (show Rep Hv1 d x from rx);subst hx;have hp2:H2 p=ab (.dK []):=g2.old.at (g1.old.at bj);have n1:Hv1 p=ae:=g1.hid p _ bj (oD I.vw hp);have n2:Hv2 p=ae:=g2.hid p _ (g1.old.at bj) n1;have G:=g0.trans (g1.trans g2);refine⟨hp2,[(z,y)],rfl,by simp,hq (.ref p) (upd H2 p (.dK [(z,y)])) Hv2 ⟨G.old.put hp hp2,g1.vis.trans g2.vis,⟨λb u q=>?_,λb xs q=>?_,λb o u q=>?_,g2.vw.cd.put hp2 trivial trivial,g2.vw.nv⟩,G.hid⟩ ⟨p,.dK [(z,y)],rfl,hp,bj,n2,.cons ⟨rfl,show Rep Hv2 c y from ry⟩ .nil⟩⟩
 ·have hb:b≠p:=cJ q n2;rw[aC hb];exact g2.vw.sub _ _ q
 ·by_cases hb:b=p
  ·subst hb;rw[bj]at q;cases q
  ·rw[aC hb]at q;exact g2.vw.tup _ _ q
 ·by_cases hb:b=p
  ·subst hb;rw[bj]at q;cases q
  ·rw[aC hb]at q;exact g2.vw.frz _ _ _ q
end
end Zp
namespace Mi
abbrev SN:=List D->List D->Env->Rs Out
end Mi
namespace Zp
open PySem PySem.Spec PyProof.Rows L2 A
open Mi (D W Rs Fin au Out)
variable[Tb:A.bE]
end Zp
namespace A
end A
namespace A
end A
namespace Mi
open PySem
def kK(x:D)(lo hi:Option Int):Rs D:=match x with
 |.lst ds=>.ok (.lst (j5 ds lo hi))
 | .tup ds=>match lo,hi with
  |some a,ae=>a9 (1<=a/\a<=(ds.length:Int)/\ds.length<=16777216) (.ok (.tup (ds.drop a.toNat)))
  |_,_=>.no
 |_=>.no
end Mi
namespace A
end A
namespace A
open PySem L2 PyProof.Rows
open Mi (D W Rs Fin au Out Tg met)
variable[Tb:bE]
section
variable{X:Cx}{K:aE}{M:Nat->Bool}{te ta tb:TE}{a b:Mi.E}
def HI(K:aE):V->Option Int->Option Int->Hp->VK->Prop:=λx lo hi H Q=>∃p xs a,x=.ref p/\fw K H p xs/\lo=ab a/\hi=ae/\1<=a/\a<=(xs.length:Int)/\xs.length<=sizeLine/\∀q,H q=ae->Q (.ref q) (upd H q (.tup (xs.drop a.toNat)))
theorem Mp:kl X (HI X.K):=by
 intro af s σ H x v vl vu lo hi sl Q I rx hs pl pu h;obtain⟨p,xs,a,rfl,hx,rfl,rfl,h1,h2,hz,q⟩:=h;cases rx;obtain⟨aj,r,ht,_⟩:=I.tuple hx;have hl:=r.length;refine⟨"tuple", _,pO.lookup,ht.typeIs,?_⟩;cases pl with
 |int _ t=>
 cases pu;obtain⟨n,rfl⟩ : ∃n:Nat,a=n:=⟨a.toNat,by omega⟩;refine getItem_tuple_from ht hs (by omega) (by rw[bK];omega) ?_ (by rw[bK];omega);rw[show(aj.toArray.toList.drop n)=aj.drop n by simp];have q:=q _ (I.hok.fresh (ba _));rw[fR]at q;exact⟨.ref s.heap.objs.size,_,I.laid (t':=s.toks) (o:=.tup (xs.drop n)) (λb ob q=>bD _ q) (ba _) ⟨by rw[gc];omega,_,r.drop n,⟨_,bS _ rfl,rfl,rfl,0,rfl⟩⟩,rfl,q⟩
def DJ(K:aE):V->Option Int->Option Int->Hp->VK->Prop:=λx lo hi H Q=>ze K x lo hi H Q\/HI K x lo hi H Q
theorem GS:kl X (DJ X.K):=CG.or Mp
theorem EJ:BS qV (DJ K) Mi.kK:=λx lo hi v H Hv Q vw rx h=>by
 cases x with
 |lst ds=>
  obtain⟨p,xs,rfl,l1,r1⟩:=RD.lst vw rx;refine .inl ⟨p,xs,rfl,l1.sq,λa ha=>?_⟩;obtain⟨g,k⟩:=z8 vw (D1 r1 lo hi) ha;exact h _ _ _ g k
 |tup ds=>
  obtain⟨p,xs,rfl,l1,_,r1⟩:=RD.tup vw rx;cases lo with
  |none=>exact h.elim
  | some a=>cases hi with
   |some c=>exact h.elim
   |none=>
    obtain⟨⟨z1,z2,z3⟩,h⟩:=Mi.cr h;refine .inr ⟨p,xs,a,rfl,.inl (.inl l1),rfl,rfl,z1,by rw[<- r1.len];exact z2,by rw[<- r1.len,b9];exact z3,λc hc=>?_⟩;obtain⟨g,k⟩:=ot vw (r1.drop a.toNat) hc;exact h _ _ _ g k
 |_=>exact h.elim
end
end A
namespace So
open PySem PySem.W PyProof.Rows
def iq{α:Type}(n:Nat)(lt:Nat->Nat->Bool):KasT α->(α->Prop)->Prop
 |.ret a,Q=>Q a
 |.ask i j k,Q=>i<n/\j<n/\iq n lt (k (lt i j)) Q
theorem qI{α β:Type}{n:Nat}{lt:Nat->Nat->Bool}{f:α->KasT β}{Q:β->Prop}:∀{t:KasT α},iq n lt t (λa=>iq n lt (f a) Q)->iq n lt (t.bind f) Q
 |.ret _,h=>h
 |.ask _ _ k,h=>⟨h.1,h.2.1,qI (t:=k _) h.2.2⟩
theorem kT{α:Type}{n:Nat}{lt:Nat->Nat->Bool}{Q Q':α->Prop}(m:∀a,Q a->Q' a):∀{t:KasT α},iq n lt t Q->iq n lt t Q'
 |.ret _,h=>m _ h
 |.ask _ _ k,h=>⟨h.1,h.2.1,kT m (t:=k _) h.2.2⟩
theorem GK{α:Type}{n:Nat}{lt:Nat->Nat->Bool}{cmp:Nat->Nat->(Bool->ao->Prop)->ao->Prop}{s:ao}(hc:∀i j C,i<n->j<n->C (lt i j) s->cmp i j C s){Q:α->Prop}:∀{t:KasT α},iq n lt t Q->t.kasWp cmp (λa s'=>s'=s/\Q a) s
 |.ret _,h=>⟨rfl,h⟩
 |.ask i j k,h=>hc i j _ h.1 h.2.1 (GK hc (t:=k _) h.2.2)
section
variable{n:Nat}{lt:Nat->Nat->Bool}
structure sW(n:Nat)(lt:Nat->Nat->Bool):Prop where
 tot:∀i j,i<n->j<n->i≠j->lt i j=true\/lt j i=true
 asy:∀i j,i<n->j<n->lt i j=true->lt j i=false
 tr:∀i j k,i<n->j<n->k<n->lt i j=true->lt j k=true->lt i k=true
abbrev at'(p:Array Nat)(i:Nat):Nat:=p.getD i 0
structure Pm(n:Nat)(p:Array Nat):Prop where
 pm:p.Perm (eo (bw n))
theorem Pm.size{p:Array Nat}(h:Pm n p):p.size=n:=by have:=h.pm.size_eq;simpa using this
theorem sU{p:Array Nat}{i:Nat}(h:i<p.size):at' p i=p[i]:=by simp[at',Array.getD,h]
theorem Pm.bd{p:Array Nat}(h:Pm n p){i:Nat}(hi:i<n):at' p i<n:=by
 have hs:i<p.size:=by rw[h.size];exact hi
 rw[sU hs];have:p[i]∈(eo (bw n)).toList:=(ur.mp h.pm).mem_iff.mp (by simp);simpa using this
theorem Pm.inj{p:Array Nat}(h:Pm n p){i j:Nat}(hi:i<n)(hj:j<n)(e:at' p i=at' p j):i=j:=by
 have si:i<p.size:=by rw[h.size];exact hi
 have sj:j<p.size:=by rw[h.size];exact hj
 rw[sU si,sU sj]at e;have nd:p.toList.Nodup:=(ur.mp h.pm).nodup_iff.mpr (by simpa using Bd);have e2:p.toList[i]'(by simpa using si)=p.toList[j]'(by simpa using sj):=by simpa using e
 exact(rB nd).mp e2
def Sd(lt:Nat->Nat->Bool)(p:Array Nat)(k:Nat):Prop:=∀i j,i<j->j<k->lt (at' p i) (at' p j)=true
def Dd(lt:Nat->Nat->Bool)(p:Array Nat)(k:Nat):Prop:=∀i j,i<j->j<k->lt (at' p j) (at' p i)=true
variable(O:sW n lt)
include O
theorem not_lt{p:Array Nat}(h:Pm n p){i j:Nat}(hi:i<n)(hj:j<n)(ne:i≠j)(e:lt (at' p i) (at' p j)=false):lt (at' p j) (at' p i)=true:=by
 rcases O.tot _ _ (h.bd hi) (h.bd hj) (λz=>ne (h.inj hi hj z))with z|z
 ·rw[e]at z;cases z
 ·exact z
theorem Sd.more{p:Array Nat}(h:Pm n p){k:Nat}(s:Sd lt p k)(hk:1<=k)(hkn:k<n)(e:lt (at' p (k-1)) (at' p k)=true):Sd lt p (k+1):=λi j hij hj=>by
 by_cases hjk:j<k
 ·exact s i j hij hjk
 ·obtain rfl:j=k:=by omega
  by_cases hi:i=j-1
  ·subst hi;exact e
  ·exact O.tr _ _ _ (h.bd (by omega)) (h.bd (by omega)) (h.bd hkn) (s i (j-1) (by omega) (by omega)) e
theorem Dd.more{p:Array Nat}(h:Pm n p){k:Nat}(s:Dd lt p k)(hk:1<=k)(hkn:k<n)(e:lt (at' p k) (at' p (k-1))=true):Dd lt p (k+1):=λi j hij hj=>by
 by_cases hjk:j<k
 ·exact s i j hij hjk
 ·obtain rfl:j=k:=by omega
  by_cases hi:i=j-1
  ·subst hi;exact e
  ·exact O.tr _ _ _ (h.bd hkn) (h.bd (by omega)) (h.bd (by omega)) e (s i (j-1) (by omega) (by omega))
theorem yK{p:Array Nat}(h:Pm n p):∀(f k:Nat),1<=k->k+f<=n->Sd lt p k->iq n lt (kas_asc p f k) λm=>k<=m/\m<=k+f/\Sd lt p m/\(m=k+f\/lt (at' p m) (at' p (m-1))=true)
 |0,k,_,_,s=>⟨ba _,ba _,s,.inl rfl⟩
 |f+1,k,h1,h2,s=>by
  refine⟨h.bd (by omega),h.bd (by omega),?_⟩;cases e:lt (p.getD k 0) (p.getD (k-1) 0)with
  |true=>exact⟨ba _,by omega,s,.inr e⟩
  |false=>
   dsimp only;rw[ay cy];refine kT (λm hm=>?_) (yK h f (k+1) (by omega) (by omega) (Sd.more O h s h1 (by omega) (not_lt O h (by omega) (by omega) (by omega) e)));refine⟨by omega,by omega,hm.2.2.1,?_⟩;rcases hm.2.2.2 with z|z
   ·exact .inl (by omega)
   ·exact .inr z
theorem CK{p:Array Nat}(h:Pm n p):∀(f k:Nat),1<=k->k+f<=n->Dd lt p k->iq n lt (kas_desc f p k 0) λr=>r.1=p/\k<=r.2.1/\r.2.1<=k+f/\r.2.2=0/\Dd lt p r.2.1
 |0,k,_,_,s=>⟨rfl,ba _,ba _,rfl,s⟩
 |f+1,k,h1,h2,s=>by
  refine⟨h.bd (by omega),h.bd (by omega),?_⟩;cases e:lt (p.getD k 0) (p.getD (k-1) 0)with
  |true=>
   dsimp only;rw[aH rfl,ay (by omega)];refine kT (λr hr=>⟨hr.1,by omega,by omega,hr.2.2.2⟩) (CK h f (k+1) (by omega) (by omega) (Dd.more O h s h1 (by omega) e))
  |false=>
   dsimp only;rw[ay cy];refine⟨h.bd (by omega),h.bd (by omega),?_⟩;dsimp only;rw[show lt (p.getD (k-1) 0) (p.getD k 0)=true from not_lt O h (by omega) (by omega) (by omega) e,aH rfl];exact⟨rfl,ba _,by show k<=_;omega,rfl,s⟩
theorem EH{p:Array Nat}{k:Nat}(hk:k<=p.size)(i:Nat):at' (kas_rev p 0 k) i=if i<k then at' p (k-1-i)else at' p i:=by
 have e:=getElem?_mirror_all (xs:=p) (i:=0) (j:=k) hk i;show(kas_rev p 0 k).getD i 0=_;have g:∀(q:Array Nat) (j:Nat),q.getD j 0=(q[j]?).getD 0:=λq j=>by simp
 rw[g];unfold kas_rev;rw[e];by_cases hi:i<k
 ·rw[aH ⟨eZ _,hi⟩,aH hi,<- g,show 0+k-1-i=k-1-i by omega]
 ·rw[ay (by omega),ay hi,<- g]
theorem Ez{p:Array Nat}(h:Pm n p)(k:Nat):Pm n (kas_rev p 0 k):=⟨(mirror_perm _ _ _ _).trans h.pm⟩
theorem Q8{p:Array Nat}(h:Pm n p){k:Nat}(h1:1<=k)(h2:k<=n)(s:Dd lt p k):iq n lt (kas_tail3 k n p) λr=>Pm n r.2/\1<=r.1/\r.1<=n/\Sd lt r.2 r.1:=by
 have sz:k<=p.size:=by rw[h.size];exact h2
 have s':Sd lt (kas_rev p 0 k) k:=λi j hij hj=>by
  rw[EH O sz,EH O sz,aH (by omega),aH hj];exact s _ _ (by omega) (by omega)
 refine qI (kT (λm hm=>?_) (yK O (Ez O h k) (n-k) k h1 (by omega) s'));exact⟨Ez O h k,by omega,by omega,hm.2.2.1⟩
theorem Lk{p:Array Nat}(h:Pm n p){k:Nat}(h2:k+1<=n)(s:Dd lt p (k+1)):iq n lt (kas_descPart k n p) λr=>Pm n r.2/\1<=r.1/\r.1<=n/\Sd lt r.2 r.1:=by refine qI (kT (λr hr=>?_) (CK O h (n-(k+1)) (k+1) (by omega) (by omega) s));obtain⟨e1,l1,l2,e2,d⟩:=hr;rw[e2,ay (by omega),e1];exact Q8 O h (by omega) (by omega) d
theorem yf{p:Array Nat}(h:Pm n p)(h1:1<=n):iq n lt (kas_count n p) λr=>Pm n r.2/\1<=r.1/\r.1<=n/\Sd lt r.2 r.1:=by
 refine qI (kT (λm hm=>?_) (yK O h (n-1) 1 (ba _) (by omega) (λi j hij hj=>by omega)));obtain⟨m1,m2,s,e⟩:=hm;by_cases hn:m=n
 ·rw[aH (by simpa using hn)];exact⟨h,m1,by omega,s⟩
 ·rw[ay (by simpa using hn)];have e:=e.resolve_left (by omega);by_cases hg:m>1
  ·rw[aH hg];refine⟨h.bd (by omega),h.bd (by omega),?_⟩;dsimp only;rw[show lt (p.getD 0 0) (p.getD (m-1) 0)=true from s 0 (m-1) (by omega) (by omega),aH rfl];exact⟨h,m1,by omega,s⟩
  ·rw[ay hg];obtain rfl:m=1:=by omega
   refine Lk O h (by omega) λi j hij hj=>?_;obtain rfl:i=0:=by omega
   obtain rfl:j=1:=by omega
   exact e
theorem yL{p:Array Nat}(h:Pm n p){k:Nat}(hk:k<n)(s:Sd lt p k):∀(f l r:Nat),l<=r->r<=k->r-l<=f->(∀i,i<l->lt (at' p i) (at' p k)=true)->(∀i,r<=i->i<k->lt (at' p k) (at' p i)=true) ->
 iq n lt (kas_place p k f l r) λm=>m<=k/\(∀i,i<m->lt (at' p i) (at' p k)=true)/\(∀i,m<=i->i<k->lt (at' p k) (at' p i)=true)
 |0,l,r,h1,h2,h3,a,b=>by
  obtain rfl:l=r:=by omega
  exact⟨h2,a,b⟩
 |f+1,l,r,h1,h2,h3,a,b=>by
  unfold kas_place;by_cases g:l >= r
  ·rw[aH g];obtain rfl:l=r:=by omega
   exact⟨h2,a,b⟩
  ·rw[ay g];refine⟨h.bd hk,h.bd (by omega),?_⟩;cases e:lt (p.getD k 0) (p.getD ((l+r)/2) 0)with
   |true=>
    dsimp only;rw[aH rfl];refine yL h hk s f l ((l+r)/2) (by omega) (by omega) (by omega) a λi hi hk'=>?_;by_cases z:i=(l+r)/2
    ·subst z;exact e
    ·exact O.tr _ _ _ (h.bd hk) (h.bd (by omega)) (h.bd (by omega)) e (s _ _ (by omega) hk')
   |false=>
    dsimp only;rw[ay cy];have e':=not_lt O h hk (by omega) (by omega) e;refine yL h hk s f ((l+r)/2+1) r (by omega) h2 (by omega) (λi hi=>?_) b;by_cases z:i=(l+r)/2
    ·subst z;exact e'
    ·exact O.tr _ _ _ (h.bd (by omega)) (h.bd (by omega)) (h.bd hk) (s _ _ (by omega) (by omega)) e'
theorem C8{p:Array Nat}{k d:Nat}(hk:k<p.size)(hd:d<=k)(i:Nat):at' (bubble p k d) i=if i=k-d then at' p k else if k-d<i/\i<=k then at' p (i-1)else at' p i:=by
 have e:=getElem?_bubble hk d hd i;have g:∀(q:Array Nat) (j:Nat),q.getD j 0=(q[j]?).getD 0:=λq j=>by simp
 show(bubble p k d).getD i 0=_;rw[g,e];by_cases h1:i=k-d
 ·rw[aH h1,aH h1,<- g]
 ·rw[ay h1,ay h1];by_cases h2:k-d<i/\i<=k
  ·rw[aH h2,aH h2,<- g]
  ·rw[ay h2,ay h2,<- g]
theorem Ej:∀(f:Nat) (p:Array Nat) (k:Nat),Pm n p->k+f<=n->Sd lt p k->iq n lt (kas_bin f p k) λq=>Pm n q/\Sd lt q (k+f)
 |0,p,k,h,_,s=>⟨h,s⟩
 |f+1,p,k,h,hk,s=>by
  have sz:k<p.size:=by rw[h.size];omega
  refine qI (kT (λl hl=>?_) (yL O h (by omega) s k 0 k (by omega) (ba _) (by omega) (λi hi=>by omega) (λi h1 h2=>by omega)));obtain⟨l1,lo,hi⟩:=hl;have s':Sd lt (bubble p k (k-l)) (k+1):=λi j hij hj=>by
   rw[C8 O sz (d:=k-l) (by omega),C8 O sz (d:=k-l) (by omega),show k-(k-l)=l by omega];by_cases c1:i=l
   ·rw[aH c1,ay (by omega),aH (by omega)];exact hi _ (by omega) (by omega)
   ·rw[ay c1];by_cases c2:l<i/\i<=k
    ·rw[aH c2,ay (by omega),aH (by omega)];exact s _ _ (by omega) (by omega)
    ·rw[ay c2];by_cases c3:j=l
     ·rw[aH c3];exact lo _ (by omega)
     ·rw[ay c3];by_cases c4:l<j/\j<=k
      ·rw[aH c4];exact s _ _ (by omega) (by omega)
      ·rw[ay c4];exact s _ _ (by omega) (by omega)
  refine kT (λq hq=>⟨hq.1,?_⟩) (Ej f (bubble p k (k-l)) (k+1) ⟨(bubble_perm _ _ _).trans h.pm⟩ (by omega) s');rw[show k+(f+1)=k+1+f by omega];exact hq.2
theorem QU(h1:1<=n):iq n lt (kas_sort n) λq=>Pm n q/\Sd lt q n:=by
 refine qI (kT (λr hr=>?_) (yf O ⟨JP _⟩ h1));obtain⟨pm,r1,r2,s⟩:=hr;by_cases hl:r.1<n
 ·rw[aH hl];refine kT (λq hq=>⟨hq.1,?_⟩) (Ej O (n-max r.1 1) r.2 (max r.1 1) pm (by omega) (by rw[show max r.1 1=r.1 by omega];exact s));rw[show n=max r.1 1+(n-max r.1 1)by omega];exact hq.2
 ·rw[ay hl];exact⟨pm,by rw[show n=r.1 by omega];exact s⟩
end
end So
namespace So
open PySem PySem.W PyProof.Rows PySem.MeetsSeq3
def cW:List Int->List Int->Bool
 |[],[]=>false
 |[],_::_=>true
 |_::_,[]=>false
 |a::r,b::t=>if a==b then cW r t else decide (a<b)
section
variable{prog:bg}{w:aY}{Ar:bv}
theorem vc{vs:List ag}{ns:List Int}(h:gJ vs ns):∀{i:Nat} {n:Int},ns[i]? = ab n->∃t,vs[i]? = ab (.int n t):=by
 induction h with
 |nil=>intro i n e;simp at e
 |cons a t h ih=>
  intro i n e;cases i with
  |zero=>simp at e;subst e;exact⟨t,rfl⟩
  |succ i=>exact ih (by simpa using e)
theorem Ru{R:Result->ao->Prop}{s:ao}{l b:ah}{us vs:List ag}{xs ys:List Int}{o o2:Obj}{n n2:Nat}(ho:s.heap.get? l=ab o)(hd:o.data=.seq us.toArray n)(ho2:s.heap.get? b=ab o2)(hd2:o2.data=.seq vs.toArray n2)(hu:gJ us xs)(hv:gJ vs ys) :
 ∀(k i:Nat),xs.length-i<=k->i<=xs.length->i<=ys.length->R (.ok (.ret (.bool (cW (xs.drop i) (ys.drop i))))) s->codeAny (model prog w) Ar (.builtin "list.__eq__.loop" ⟨[.ref l,.ref b,rawInt i,rawInt 0],[]⟩) R s:=by
 have l1:=hu.length;have l2:=hv.length;have gx:∀i,i<xs.length->∃t,us.toArray[i]? = ab (.int (xs.getD i 0) t):=λi hi=>by
  obtain⟨t,e⟩:=vc hu (i:=i) (n:=xs.getD i 0) (by simp[hi]);exact⟨t,by simpa using e⟩
 have gy:∀i,i<ys.length->∃t,vs.toArray[i]? = ab (.int (ys.getD i 0) t):=λi hi=>by
  obtain⟨t,e⟩:=vc hv (i:=i) (n:=ys.getD i 0) (by simp[hi]);exact⟨t,by simpa using e⟩
 have nx:∀i,¬ i<xs.length->us.toArray[i]? = ae:=λi hi=>by simp;omega
 have ny:∀i,¬ i<ys.length->vs.toArray[i]? = ae:=λi hi=>by simp;omega
 have uy:∀i,i=xs.length->i<=ys.length->decide (us.toArray.size<vs.toArray.size)=cW (xs.drop i) (ys.drop i):=λi hi hj=>by
  rw[nM (by omega:xs.length<=i),bK,bK,l1,l2];by_cases h:i<ys.length
  ·rw[ko h];simp[cW];omega
  ·rw[nM (by omega:ys.length<=i)];simp[cW];omega
 have BW:∀i,i<xs.length->i=ys.length->decide (us.toArray.size<vs.toArray.size)=cW (xs.drop i) (ys.drop i):=λi hi hj=>by
  rw[nM (by omega:ys.length<=i),ko hi,bK,bK,l1,l2];simp[cW];omega
 have fin:∀(i:Nat),(us.toArray[i]? = ae\/vs.toArray[i]? = ae)->R (.ok (.ret (.bool (decide (us.toArray.size<vs.toArray.size))))) s->codeAny (model prog w) Ar (.builtin "list.__eq__.loop" ⟨[.ref l,.ref b,rawInt i,rawInt 0],[]⟩) R s:=λi hn h=>by
  refine nF xy (by
   rw[nY n5 _];unfold eX.«list.__eq__.loop»;show wpAny _ _ (xu (.ref l) >>= _) _ _ _;refine ak (fo ho hd (ak (fo ho2 hd2 ?_)));simp only[fR];rcases hn with e|e
   ·rw[e];dsimp only;refine ak (fo ho hd (ak (fo ho2 hd2 ?_)));exact ax h
   ·rw[e];cases us.toArray[i]? <;>
    ·dsimp only;refine ak (fo ho hd (ak (fo ho2 hd2 ?_)));exact ax h)
 intro k
 induction k with
 |zero=>
  intro i hk h1 h2 h;refine fin i (.inl (nx i (by omega))) ?_;rw[uy i (by omega) h2];exact h
 |succ k ih=>
  intro i hk h1 h2 h;by_cases hi:i<xs.length
  ·by_cases hj:i<ys.length
   ·obtain⟨t,e1⟩:=gx i hi;obtain⟨u,e2⟩:=gy i hj;have dx:xs.drop i=xs.getD i 0::xs.drop (i+1):=by rw[ko hi];simp[hi]
    have dy:ys.drop i=ys.getD i 0::ys.drop (i+1):=by rw[ko hj];simp[hj]
    rw[dx,dy]at h;refine nF xy (by
     rw[nY n5 _];unfold eX.«list.__eq__.loop»;show wpAny _ _ (xu (.ref l) >>= _) _ _ _;refine ak (fo ho hd (ak (fo ho2 hd2 ?_)));simp only[fR];rw[e1,e2];dsimp only;refine ak (wpAny_eqBool_int ?_);cases hb:(xs.getD i 0==ys.getD i 0)with
     |true=>
      rw[aH rfl];rw[cW,hb,aH rfl]at h;refine ax ⟨md n5 _,?_⟩;have:=ih (i+1) (by omega) hi hj h;rw[show rawInt ((i+1:Nat):Int)=rawInt ((i:Int)+1)from by rw[show((i+1:Nat):Int)=(i:Int)+1 by omega]]at this;exact this
     |false=>
      rw[ay cy];rw[cW,hb,ay cy]at h;refine ak (fo ho hd (ak (fo ho2 hd2 ?_)));rw[e1,e2];show wpAny _ _ (richCompare .Lt _ _ >>= _) _ _ _;exact ak (show wpAny _ _ (compareOp .Lt _ _) _ _ _ from wpAny_lt_int (ax h)))
   ·refine fin i (.inr (ny i hj)) ?_;rw[BW i hi (by omega)];exact h
  ·refine fin i (.inl (nx i hi)) ?_;rw[uy i (by omega) h2];exact h
theorem Kq{E:ag->ao->Prop}{s:ao}{l b:ah}{us vs:List ag}{xs ys:List Int}{o o2:Obj}{n n2:Nat}{Q:Bool->ao->Prop}(ho:s.heap.get? l=ab o)(hc:o.cls=.type "list")(hd:o.data=.seq us.toArray n)(ho2:s.heap.get? b=ab o2)(hc2:o2.cls=.type "list")(hd2:o2.data=.seq vs.toArray n2)(hu:gJ us xs)(hv:gJ vs ys)
 (hun:Ar.units<cLine) (h:Q (cW xs ys) s):wpAny (model prog w) Ar (keyLt' oneType' (.ref l) (.ref b)) Q E s:=by
 have t1:s.TypeIs (.ref l) "list" := ⟨_,ho,hc⟩;have t2:s.TypeIs (.ref b) "list" := ⟨_,ho2,hc2⟩;rw[keyLt'_oneType,oneLt'_eq];simp only[gU];refine ak (wpAny_cRoomFor hun ?_);refine ak (wpAny_callSpecialIfBound?_slot t1 Bz (wL (codeAny_call_builtin Bz.plain PySem.F.entry_list_lt (Bz.check _ _ _ _ _ _ _ _ t1 (PySem.F.args_list_lt_2 _ _) ?_))));unfold eX.«list.__lt__»;have sub:isSubtype (.type "list") (.type "list")=pure true:=by rw[nG];kernel_rfl
 show wpAny _ _ (isInstance (.ref b) (.type "list") >>= _) _ _ _;refine ak (nE t2 sub ?_);refine ax ⟨md n5 _,?_⟩;refine Ru ho hd ho2 hd2 hu hv xs.length 0 (by omega) (eZ _) (eZ _) ?_;exact nC h
end
end So
namespace So
open PySem PySem.W PyProof.Rows
section
variable{prog:bg}{w:aY}{A:bv}{E:ag->ao->Prop}{s:ao}
def tm(n:Nat):List ah:=[n,n+1,n+2,n+3]
def om(lt:Nat->Nat->Bool)(vs out:List ag):Prop:=∃p:Array Nat,Pm vs.length p/\Sd lt p vs.length/\out=p.toList.map λi=>vs.getD i eE
theorem om.len{lt:Nat->Nat->Bool}{vs out:List ag}(h:om lt vs out):out.length=vs.length:=by obtain⟨p,pm,_,rfl⟩:=h;rw[aQ,nX,pm.size]
theorem FH{a kS:ah}{e e1:Nat}{ks out:List ag}{st:SortSt}{P:pK->ao->Prop}(hk:s.heap.get? kS=ab (seqObj "list" (eo ks) e))(ha:s.heap.get? a=ab (seqObj "list" #[] e1))(ne:a≠kS)
 (hks:ks.length<64) (ho:out.length<64) (hout:(arrOf st).map (·.2)=eo out) (hf:failedOf st=ae)
 (h:∀h' c,(∀b o,b≠a->b≠kS->s.heap.get? b=ab o->h'.get? b=ab o)->(∃o,h'.get? kS=ab o)->h'.get? a=ab (seqObj "list" (eo out) c)->P (.done (.ret .none)) { s with heap:=h' }) :
 wpAny (model prog w) A (ksk_tail a false e1 (.ref kS) st) P E s:=by
 have s1:=iV s.heap kS (fH λ_=>(#[]:Array ag));have ha1:=(s1.2 a ne).trans ha;have s2:=iV (s.heap.update kS (fH λ_=>(#[]:Array ag))) a (fH λ_=>eo out);obtain⟨c,hc⟩ : ∃c,((s.heap.update kS (fH λ_=>(#[]:Array ag))).update a (fH λ_=>eo out)).get? a=ab (seqObj "list" (eo out) c):=⟨_,uo ha1 λ_=>eo out⟩;unfold ksk_tail;dsimp only;rw[hout];refine ak (xo hk rfl ?_ (by rw[bK,b9];omega) (eZ _));refine ak (wpAny_letGo (ak (seqEpoch_at ha1 rfl ?_)));refine ak (xo ha1 rfl ?_ (eZ _) (by show(eo out).size<=_;rw[bK,b9];omega));rw[hf];simp only[bne_self_eq_false,lj,eJ];exact ax (h _ c (λb o n1 n2 q=>(s2.2 b n1).trans ((s1.2 b n2).trans q)) ⟨_,(s2.2 kS (cR ne)).trans (uo hk λ_=>#[])⟩ hc)
theorem Q9{a kS f:ah}{e1:Nat}{P:pK->ao->Prop}(J:List ag->ao->Prop){vs:List ag}(h64:vs.length<64)
 (jk:∀ks s1 h',J ks s1->(∀b o,b≠kS->s1.heap.get? b=ab o->h'.get? b=ab o)->(∃o,h'.get? kS=ab o)->J ks { s1 with heap:=h' })
 (jc:∀i x ks s1,vs[i]? = ab x->ks.length=i->J ks s1->wpAny (model prog w) A (call (.ref f) [x]) (λk s2=>J (ks++[k]) s2/\∀b o,(b=a\/b=kS)->s1.heap.get? b=ab o->s2.heap.get? b=ab o) (λ_ _=>False) s1)
 (ne:a≠kS) (hk:s.heap.get? kS=ab (seqObj "list" #[] 0)) (ha:s.heap.get? a=ab (seqObj "list" #[] e1)) (j0:J [] s)
 (fin:∀ks e s1,ks.length=vs.length->J ks s1->s1.heap.get? kS=ab (seqObj "list" (eo ks) e)->s1.heap.get? a=ab (seqObj "list" #[] e1)->wpAny (model prog w) A (ksk_end a false vs.toArray e1 (.ref kS) (eo ks)) P E s1) :
 wpAny (model prog w) A (ksk_rest a (.ref f) false vs.toArray e1 (.ref kS)) P E s:=by
 unfold ksk_rest;refine ak (pJ ?_);rw[List.forIn_toArray];refine ak (ksk_fold (I:=λi s1=>∃ks e,ks.length=i/\J ks s1/\s1.heap.get? kS=ab (seqObj "list" (eo ks) e)/\s1.heap.get? a=ab (seqObj "list" #[] e1)) vs 0 s ⟨[],0,rfl,j0,hk,ha⟩ (λj x s1 hx hI=>?_) λs1 hI=>?_)
 ·obtain⟨ks,e,hl,hJ,hk1,ha1⟩:=hI;rw[dX]at hl ⊢;have hlt:j<vs.length:=(cu.mp hx).1;refine ak (kn (jt (jc j x ks s1 hx hl hJ) (λk s2 h2=>?_) λ_ _ z=>z.elim));obtain⟨hJ2,kp⟩:=h2;have hk2:=kp kS _ (.inr rfl) hk1;have ha2:=kp a _ (.inl rfl) ha1;have su:=iV s2.heap kS (fH (·.push k));have ea:(eo ks).push k=eo (ks++[k]):=by simp
  obtain⟨c2,hc2⟩ : ∃c2,(s2.heap.update kS (fH (·.push k))).get? kS=ab (seqObj "list" (eo (ks++[k])) c2):=⟨_,by rw[<- ea];exact uo hk2 (·.push k)⟩;dsimp only;refine ak (xo hk2 rfl ?_ (by rw[bK,b9];omega) (dw (Nat.le_of_eq (Array.size_push ..)) (by rw[bK,b9];omega)));exact ax ⟨rfl,ks++[k],c2,by rw[dI,hl];rfl,jk _ _ _ hJ2 (λb o n q=>(su.2 b n).trans q) ⟨_,hc2⟩,hc2,(su.2 a ne).trans ha2⟩
 ·obtain⟨ks,e,hl,hJ,hk1,ha1⟩:=hI;refine ak (fo hk1 rfl ?_);exact fin ks e s1 (by simpa using hl) hJ hk1 ha1
theorem Pn{a kS:ah}{e e1:Nat}{ks vs:List ag}{lt:Nat->Nat->Bool}{P:pK->ao->Prop}(hl:ks.length=vs.length)(h64:vs.length<64)(O:sW vs.length lt)
 (hkk:2<=vs.length->∀(Q:SortKind->ao->Prop),Q oneType' s->wpAny (model prog w) A (keyKind' (eo ks)) Q (λ_ _=>False) s)
 (hcmp:∀i j C,i<vs.length->j<vs.length->C (lt i j) s->kas_ask prog w A oneType' ks i j C s)
 (hk:s.heap.get? kS=ab (seqObj "list" (eo ks) e)) (ha:s.heap.get? a=ab (seqObj "list" #[] e1)) (ne:a≠kS)
 (h:∀out h' c,om lt vs out->(∀b o,b≠a->b≠kS->s.heap.get? b=ab o->h'.get? b=ab o)->(∃o,h'.get? kS=ab o)->h'.get? a=ab (seqObj "list" (eo out) c)->P (.done (.ret .none)) { s with heap:=h' }) :
 wpAny (model prog w) A (ksk_end a false vs.toArray e1 (.ref kS) (eo ks)) P E s:=by
 have RS:∀{n:Nat},Pm n (eo (bw n)):=⟨JP _⟩;unfold ksk_end;dsimp only;rw[ay cy,ay cy];by_cases h2:vs.toArray.size<2
 ·rw[aH h2,aH h2];rw[bK]at h2;refine ak (ax ?_);rw[StateT.run_pure];refine ak (ax ?_);dsimp only;have hout:om lt vs vs:=⟨eo (bw vs.length),RS,λi j hij hj=>by omega,by
   apply List.ext_getElem (by simp);intro i h1 h2;simp[h1]⟩
  refine FH (out:=vs) hk ha ne (by omega) h64 ?_ rfl λh' c kp ex hc=>h vs h' c hout kp ex hc;show((eo ks).zip vs.toArray).map (·.2)=vs.toArray;apply xr.mp;rw[Array.toList_map,Array.toList_zip];simp only[];rw[List.map_snd_zip (by omega)]
 ·rw[ay h2,ay h2];rw[bK]at h2;refine ak (jt (hkk (by omega) (λκ s'=>κ = oneType'/\s'=s) ⟨rfl,rfl⟩) (λκ s' hh=>?_) λ_ _ z=>z.elim);obtain⟨rfl,rfl⟩:=hh;have wp:=GK (cmp:=kas_ask prog w A oneType' ks) (s:=s') hcmp (QU O (by omega));refine ak (jt (kat_run (E:=E) (Q:=λst' s2=>s2=s'/\∃p:Array Nat,Pm vs.length p/\Sd lt p vs.length/\arrOf st'=p.map (kas_item (ks.toArray.zip vs.toArray))/\failedOf st'=ae) hl (by omega) h64 (λp st' s2 _ a2 a3 a4=>⟨a4.1,p,a4.2.1,a4.2.2,a2,a3⟩) wp) ?_ λ_ _ z=>z);rintro⟨⟨⟩,st'⟩ s2 ⟨rfl,p,pm,sd,har,hf⟩;dsimp only;have hout:om lt vs (p.toList.map λi=>vs.getD i eE):=⟨p,pm,sd,rfl⟩;exact FH hk ha ne (by omega) (by rw[hout.len];exact h64) (kat_snds hl har) hf λh' c kp ex hc=>h _ h' c hout kp ex hc
theorem MG{f l:ah}{vs:List ag}{Q:ag->ao->Prop}(J:List ag->ao->Prop)(hl:s.heap.IsList l vs.toArray)(h64:vs.length<64)
 (j0:∀h':aI,(∀b o,s.heap.get? b=ab o->h'.get? b=ab o)->(∀b∈tm s.heap.objs.size,∃o,h'.get? b=ab o)->J [] { s with heap:=h' })
 (jk:∀ks s1 h',J ks s1->(∀b o,b∉tm s.heap.objs.size->s1.heap.get? b=ab o->h'.get? b=ab o)->(∀b o,s1.heap.get? b=ab o->∃o',h'.get? b=ab o')->J ks { s1 with heap:=h' })
 (jc:∀i x ks s1,vs[i]? = ab x->ks.length=i->J ks s1->wpAny (model prog w) A.in1.in1 (call (.ref f) [x]) (λk s2=>J (ks++[k]) s2/\∀b o,b∈tm s.heap.objs.size->s1.heap.get? b=ab o->s2.heap.get? b=ab o) (λ_ _=>False) s1)
 (je:∀ks s1,ks.length=vs.length->J ks s1->∃lt,sW vs.length lt/\(2<=vs.length->∀(Q:SortKind->ao->Prop),Q oneType' s1->wpAny (model prog w) A.in1.in1 (keyKind' (eo ks)) Q (λ_ _=>False) s1) /\
  (∀i j C,i<vs.length->j<vs.length->C (lt i j) s1->kas_ask prog w A.in1.in1 oneType' ks i j C s1) /\
  ∀out h' c,om lt vs out->(∀b o,b∉tm s.heap.objs.size->s1.heap.get? b=ab o->h'.get? b=ab o)->(∀b o,s1.heap.get? b=ab o->∃o',h'.get? b=ab o')->h'.get? (s.heap.objs.size+1)=ab (seqObj "list" (eo out) c)->Q (.ref (s.heap.objs.size+1)) { s1 with heap:=h' }) :
 wpAny (model prog w) A (call (.builtin "sorted") [.ref l] [(gm "key", .ref f)]) Q E s:=by
 refine call_function_entry_kw kind_sorted plain_sorted entry_sorted (ksk_s1 _ _) ?_;unfold eX.«sorted»;refine ak (m:=checkCount "sorted" 1 1 _) (ax ?_);refine ak (collect_list hl ?_ (by rw[b9];omega));refine ak (AX ?_ (by rw[b9];omega));generalize hn:s.heap.objs.size=n at *;generalize hh1:((s.heap.push (seqObj "list" #[] 0)).update n (fH (· ++ vs.toArray)))=h1;have hsz:h1.objs.size=n+1:=by rw[<- hh1,Heap.size_update,size_push',hn]
 have k1:∀b o,s.heap.get? b=ab o->h1.get? b=ab o:=λb o q=>by
  have hlt:b<n:=by rw[<- hn];exact bR q
  rw[<- hh1,Heap.get?_update_ne _ _ _ _ (gh hlt),Heap.get?_push_ne _ _ _ (by rw[hn];exact gh hlt)];exact q
 have hoL:(h1.push (seqObj "list" vs.toArray 0)).get? (n+1)=ab (seqObj "list" vs.toArray 0):=by rw[<- hsz];exact bS _ rfl
 show wpAny _ _ _ _ _ { s with heap:=h1.push (seqObj "list" vs.toArray 0) };rw[hsz];refine ak (pI (wpAny_call_entry_kw slot_list_sort ⟨_,hoL,rfl⟩ entry_list_sort ?_ (ksk_l1 _ _)));show wpAny (model prog w) A.in1.in1 (eX.«list.sort» ⟨[.ref (n+1)],[(gm "key",.ref f)]⟩) _ _ _;rw[ksk_t1];generalize hh2:h1.push (seqObj "list" vs.toArray 0)=h2 at hoL ⊢;have k2:∀b o,s.heap.get? b=ab o->h2.get? b=ab o:=λb o q=>by rw[<- hh2];exact bD _ (k1 b o q)
 have z2:h2.objs.size=n+2:=by rw[<- hh2,nV,hsz]
 obtain⟨e1,ho1⟩ : ∃e1,(h2.update (n+1) (fH λ_=>(#[]:Array ag))).get? (n+1)=ab (seqObj "list" #[] e1):=⟨_,uo hoL λ_=>#[]⟩;have su:=iV h2 (n+1) (fH λ_=>(#[]:Array ag));unfold ksk_tree;refine ak (fo (s:={ s with heap:=h2 }) hoL rfl ?_);refine ak (xo (s:={ s with heap:=h2 }) hoL rfl ?_ (by rw[bK,b9];omega) (eZ _));refine ak (seqEpoch_at (s:={ s with heap:=h2.update (n+1) (fH λ_=>(#[]:Array ag)) }) ho1 rfl ?_);refine ak (wpAny_newTuple ?_ (by show vs.length<=_;rw[b9];omega));refine ak (AX ?_ (eZ _));refine pI ?_;generalize hh3:h2.update (n+1) (fH λ_=>(#[]:Array ag))=h3 at ho1 su ⊢;have z3:h3.objs.size=n+2:=by rw[<- hh3,Heap.size_update,z2]
 have z4:(h3.push (seqObj "tuple" vs.toArray 0)).objs.size=n+3:=by rw[nV,z3]
 show wpAny (model prog w) A.in1.in1 (ksk_rest (n+1) (.ref f) false vs.toArray e1 (.ref (h3.push (seqObj "tuple" vs.toArray 0)).objs.size)) _ _ { s with heap:=(h3.push (seqObj "tuple" vs.toArray 0)).push (seqObj "list" #[] 0) };rw[z4];have RT:∀b o,s.heap.get? b=ab o->((h3.push (seqObj "tuple" vs.toArray 0)).push (seqObj "list" #[] 0)).get? b=ab o:=λb o q=>by
  have hlt:b<n:=by rw[<- hn];exact bR q
  exact bD _ (bD _ ((su.2 b (gh (Nat.lt_succ_of_lt hlt))).trans (k2 b o q)))
 refine Q9 (kS:=n+3) (a:=n+1) J h64 (λks s1 h' hJ kp ex=>jk ks s1 h' hJ (λb o hb q=>kp b o (λz=>hb (by simp[tm,z])) q) λb o q=>by
  by_cases z:b=n+3
  ·rw[z];exact ex
  ·exact⟨o,kp b o z q⟩)
  (λi x ks s1 hx hl' hJ=>jt (jc i x ks s1 hx hl' hJ) (λk s2 h2=>⟨h2.1,λb o hb q=>h2.2 b o (by rcases hb with z|z<;>simp[tm,z]) q⟩) λ_ _ z=>z) (show(n+1:Nat)≠n+3 by omega)
  (by rw[<- z4];exact bS _ rfl) (bD _ (bD _ ho1)) (j0 _ RT λb hb=>?ex) λks e s1 hlk hJ hk1 ha1=>?_
 case ex=>
  have e0:∃o,h3.get? n=ab o:=by
   have q0:(s.heap.push (seqObj "list" #[] 0)).get? n=ab (seqObj "list" #[] 0):=by rw[<- hn];exact bS _ rfl
   obtain⟨o1,q1⟩ : ∃o1,h1.get? n=ab o1:=by rw[<- hh1];exact⟨_,uo q0 (· ++ vs.toArray)⟩
   exact⟨_,(su.2 n (show(n:Nat)≠n+1 by omega)).trans (by rw[<- hh2];exact bD _ q1)⟩
  simp only[tm,bA,rC,or_false]at hb;rcases hb with rfl|rfl|rfl|rfl
  ·obtain⟨o,q⟩:=e0;exact⟨o,bD _ (bD _ q)⟩
  ·exact⟨_,bD _ (bD _ ho1)⟩
  ·exact⟨_,bD _ (by rw[<- z3];exact bS _ rfl)⟩
  ·exact⟨_,by rw[<- z4];exact bS _ rfl⟩
 obtain⟨lt,O,hkk,hcmp,fin⟩:=je ks s1 hlk hJ;refine Pn hlk h64 O hkk hcmp hk1 ha1 (show(n+1:Nat)≠n+3 by omega) λout h' c so kp ex hc=>?_;exact⟨_,rfl,ax ⟨_,rfl,fin out h' c so (λb o hb q=>kp b o (λz=>hb (by simp[tm,z])) (λz=>hb (by simp[tm,z])) q) (λb o q=>by
  by_cases y1:b=n+1
  ·rw[y1];exact⟨_,hc⟩
  ·by_cases y2:b=n+3
   ·rw[y2];exact ex
   ·exact⟨o,kp b o y1 y2 q⟩) hc⟩⟩
end
end So
namespace L2
open PySem PySem.Spec PyProof.Rows
def Aw(X:Cx)(A:bv)(N':List Str)(env:Env)(s:ao)(H:Hp):Cx:={ X with A:=A.deeper env,N:=N',s₀:=s,H₀:=H,env:=env,outer:=X.stack,stack:=env::X.stack,ex:=[],fn:=λ_=>false,calm:=true,pn:=[],xe:=λ_ _=>False }
abbrev v6(qual:Str)(scope:eY)(s:ao)(f c':ah)(cl:List (Str×ah)):Env:=PySem.W.envX qual scope s.heap.objs.size f (.ref c') cl
structure q9(X:Cx)(x:Str)(ρ:List Nat)(N':List Str)(sc:eY)(cl:List (Str×ah)):Prop where
 kind:sc.kind=.function
 co:sc.isCoroutine=false
 gen:sc.isGenerator=false
 ux:∀y∈sc.names,y.2≠.cell
 par:sc.names.lookup x=ab .local
 clo:∀y c,cl.lookup y=ab c->X.env.cells.lookup y=ab c
 has:∀y,sc.names.lookup y=ab .free->∃c,cl.lookup y=ab c
 N:∃ys,N'=x::ys/\ys.length = ρ.length/\∀(i j:Nat) y,ρ[i]? = ab j->ys[i]? = ab y->X.N[j]? = ab y/\sc.names.lookup y=ab .free/\(X.env.kindOf y=ab .cell\/X.env.kindOf y=ab .free)
section
variable{X:Cx}{af:List (ah×Obj)}{σ:St}{H:Hp}{s:ao}{A:bv}{k:Nat}{qual x:Str}{ps:t5}{body:aR}{sc:eY}{cl:List (Str×ah)}{pm ctv:ag}{f c':ah}{ρ:List Nat}{N':List Str}
def iL(ρ:List Nat)(σ:St)(v:V):St:=ab v :: ρ.map λj=>(σ[j]?).join
theorem LQ{h1:aI}{tk:Nat}{v:V}{u:ag}(I:Inv X af σ H s)(hA:A.frames=ab X.stack)(hd:A.handled=ae)(S:q9 X x ρ N' sc cl)(rv:RelV v u)
 (hns:h1.Ns s.heap.objs.size λy=>[(x,u)].reverse.lookup y) (hk:∀b o,s.heap.get? b=ab o->h1.get? b=ab o) :
 Inv (Aw X A N' (v6 qual sc s f c' cl) s H) [] (iL ρ σ v) H { s with heap:=h1,toks:=tk }:=by
 obtain⟨ys,eN,el,ix⟩:=S.N;have noA:∀b:ah,b∉([]:List ah):=λb z=>absurd z (by simp);refine⟨⟨I.mod,S.kind,rfl,rfl,ba _,λy z c h1 h2=>I.ok.inj y z c (S.clo y c h1) (S.clo z c h2),λy hy=>?_,λy c z=>(nomatch z),λ_=>hd,JB hA,.inr ⟨rfl,rfl⟩,λb z=>absurd z (noA b),I.bs,dw I.ok.bsz I.sz,λb _ _=>noA b,λb z=>absurd z (noA b),I.stack,I.Aa⟩,
  rfl,I.bare,Un.kept hk,⟨_,hns,λi y w h2 h3 h4=>?_⟩,λy c e=>?_,I.hok.fresh (ba _),λy c e=>I.jx y c (S.clo y c e),λp hp=>absurd (show p∈([]:List (ah×Obj))from hp) (by simp),I.hok.kept hk,?_⟩
 ·have hy:sc.names.lookup y=ab .cell\/sc.names.lookup y=ab .free:=hy;rcases hy with hy|hy
  ·exact absurd rfl (S.ux _ (rj hy))
  ·exact S.has y hy
 ·have h2:N'[i]? = ab y:=h2;subst eN;cases i with
  |zero=>
   have e:x=y:=by simpa using h2
   subst e;have e2:v=w:=by simpa [iL]using h3
   subst e2;exact⟨u,rv,.inl ⟨S.par,by simp⟩⟩
  |succ i=>
   have hy:ys[i]? = ab y:=by simpa using h2
   have h3:(ρ.map λj=>(σ[j]?).join)[i]? = ab (ab w):=by simpa [iL]using h3
   rw[c7]at h3;obtain⟨j,hj,e⟩:=gI.mp h3;have e2:σ[j]? = ab (ab w):=by
    cases q:σ[j]? with
    |none=>rw[q]at e;cases e
    |some z=>rw[q]at e;exact congrArg ab e
   obtain⟨n1,n2,n3⟩:=ix i j y hj hy;obtain⟨m,hm,hl⟩:=I.loc;have vis:sC X.env.scope y:=by
    rcases n3 with z|z
    ·exact .inr (.inl z)
    ·exact .inr (.inr z)
   obtain⟨u2,r2,lk⟩:=hl j y w n1 e2 vis;refine⟨u2,r2,.inr ⟨.inr n2,?_⟩⟩;obtain⟨c,hc⟩:=S.has y n2;refine⟨c,hc,?_⟩;have hX:=S.clo y c hc;rcases lk with ⟨z,_⟩|⟨_,c2,e3,ic⟩
   ·rcases n3 with y1|y1
    ·rw[z]at y1;cases y1
    ·rw[z]at y1;cases y1
   ·rw[hX]at e3;cases e3;obtain⟨o,ho,hd⟩:=ic;exact⟨o,hk _ _ ho,hd⟩
 ·obtain⟨v2,o,ho,hd⟩:=I.cell y c (S.clo y c e);exact⟨v2,o,hk _ _ ho,hd⟩
 ·subst eN;show(iL ρ σ v).length=(x::ys).length;simp[iL,el]
theorem PU{u:ag}{v:V}{tb:TE}{Q:VK}(I:Inv X af σ H s)(hA:A.frames=ab X.stack)(hr:dL (k+1) A)(S:q9 X x ρ N' sc cl)
 (ho:s.heap.get? f=ab (uf "<lambda>" qual ps body sc cl pm c' ctv)) (hcd:s.heap.CodeRec (.ref c') qual)
 (hbind:bindArgs (I9 "<lambda>" qual ps body sc cl pm (.ref c') ctv) ⟨[u],[]⟩=pure [(x,u)]) (rv:RelV v u)
 (hb:∀env:Env,dL k (A.deeper env)->env=v6 qual sc s f c' cl->PE (Aw X A N' env s H) body tb) (h:tb (iL ρ σ v) H Q) :
 wpAny (model X.prog X.w) A (call (.ref f) [u]) (CE X.stack X.prog X.w H s Q) (λ_ _=>False) s:=by
 refine wL (PySem.W.kla_callFunE hr.depth ho rfl S.co S.gen rfl hcd ?_);rw[hbind];refine ax (wpAny_newFunctionEnv S.ux (λy hy=>by
  have e:y=(x,u):=by simpa using hy
  rw[e];exact S.par) (λh1 hns hsb=>⟨(I.nolimit).fresh _ hsb,?_⟩) S.kind)
 show codeAny _ _ (.expr body (v6 qual sc s f c' cl)) _ _;have hk:∀b o,s.heap.get? b=ab o->h1.get? b=ab o:=λb o e=>hsb.extBut b o (gh (bR e)) (bD _ e);have J:=LQ (tk:=s.toks+[(x,u)].length) (qual:=qual) (f:=f) (c':=c') I hA hr.hd S rv hns hk;refine PySem.W.kla_codeExpr (jt (hb _ (hr.deeper _) rfl [] _ (iL ρ σ v) H Q J h) (λk' s' hq=>?_) λ_ _ z=>z.elim);obtain⟨v2,H2,I2,r2,q⟩:=hq;exact⟨v2,H2,I2.os,I2.bare,I2.base,I2.hok,r2,q⟩
end
end L2
namespace So
theorem Du:∀{a b:List Int},a≠b->cW a b=true\/cW b a=true
 |[],[],h=>absurd rfl h
 |[],_::_,_=>.inl rfl
 |_::_,[],_=>.inr rfl
 |a::r,b::t,h=>by
  rw[cW,cW];by_cases e:a=b
  ·subst e;simp only[i3,gU];exact Du λz=>h (by rw[z])
  ·have e':¬ b=a:=λz=>e z.symm;simp only[kQ,e,e',eJ,fV];omega
theorem CJ:∀{a b:List Int},cW a b=true->cW b a=false
 |[],[],h=>by simp[cW]at h
 |[],_::_,_=>rfl
 |_::_,[],h=>by simp[cW]at h
 |a::r,b::t,h=>by
  rw[cW]at h ⊢;by_cases e:a=b
  ·subst e;simp only[i3,gU]at h ⊢;exact CJ h
  ·have e':¬ b=a:=λz=>e z.symm;simp only[kQ,e,e',eJ,fV,qQ]at h ⊢;omega
theorem Ie:∀{a b c:List Int},cW a b=true->cW b c=true->cW a c=true
 |[],[],_,h,_=>by simp[cW]at h
 |[],_::_,[],_,h=>by simp[cW]at h
 |[],_::_,_::_,_,_=>rfl
 |_::_,[],_,h,_=>by simp[cW]at h
 |_::_,_::_,[],_,h=>by simp[cW]at h
 |a::r,b::t,c::u,h,k=>by
  rw[cW]at h k ⊢;by_cases e:a=b
  ·subst e;simp only[i3,gU]at h;by_cases f:a=c
   ·subst f;simp only[i3,gU]at k ⊢;exact Ie h k
   ·simp only[kQ,f,eJ]at k ⊢;exact k
  ·simp only[kQ,e,eJ,fV]at h;by_cases f:b=c
   ·subst f;simp only[kQ,e,eJ,fV];exact h
   ·simp only[kQ,f,eJ,fV]at k;have:¬ a=c:=by omega
    simp only[kQ,this,eJ,fV];omega
def lX(kz:List (List Int))(i j:Nat):Bool:=cW (kz.getD i []) (kz.getD j [])
theorem AC{kz:List (List Int)}(nd:kz.Nodup):sW kz.length (lX kz):=by
 have inj:∀i j,i<kz.length->j<kz.length->i≠j->kz.getD i []≠kz.getD j []:=λi j hi hj ne e=>by
  rw[fh,fF hi,fh,fF hj]at e;exact ne ((rB nd).mp e)
 exact⟨λi j hi hj ne=>Du (inj i j hi hj ne),λi j _ _ h=>CJ h,λi j k _ _ _ h g=>Ie h g⟩
def z9{α:Type}(d:α)(kz:List (List Int))(xs ys:List α):Prop:=∃p:Array Nat,Pm xs.length p/\Sd (lX kz) p xs.length/\ys=p.toList.map λi=>xs.getD i d
end So
namespace L2
open PySem PySem.Spec PyProof.Rows A So
variable[Tb:bE]
def Tab(T:ah)(q:Str)(H H':Hp):Prop:=H'=H\/∃ps ps' c,H T=ab (.tbl q ps)/\H c=ae/\c≠T/\H'=upd (upd H T (.tbl q ps')) c (.ext (ip c q))/\iC H'
theorem KW{c:ag}{p:Pos}:∀{l:List ag},rq l->rq (l++[rawInt p.line,rawInt p.col,c]):=λ{l} h=>by
 fun_induction rq l with
 |case1=>exact trivial
 |case2 a b c' d e rest ih=>exact ih h
 |case3 _ _=>exact h.elim
theorem L3{c v:ag}{p p2:Pos}:∀{l:List ag},rq l->codeAmong p2 (l++[rawInt p.line,rawInt p.col,c])=ab v->codeAmong p2 l=ab v\/v=c:=λ{l} h e=>by
 fun_induction rq l with
 |case1=>
  simp only[wW,codeAmong,rawInt]at e;split at e
  ·exact .inr (by cases e;rfl)
  ·cases e
 |case2 a b c' d e' rest ih=>
  simp only[wS,codeAmong]at e ⊢;split at e
  ·rename_i q;rw[aH q];exact .inl e
  ·rename_i q;rw[ay q];exact ih h e
 |case3 _ _=>exact h.elim
def BM(mg:Str->Option ag)(base:aI):Prop:=∃bm o,mg "__builtins__" = ab (.ref bm)/\bm≠builtinsNs/\bm≠mainGlobals/\base.get? bm=ab o/\o.cls=.type "module" /\ o.dict=ab builtinsNs/\o.data=.plain
section
variable{X:Cx}{af:List (ah×Obj)}{σ:St}{H:Hp}{s:ao}{qual x:Str}{ps:t5}{body:aR}{sc:eY}{cl:List (Str×ah)}{c T:ah}{pos:Pos}
theorem O2(c:ah)(q:Str):∀h1 h2:aI,ip c q h1->(∀o,h1.get? c=ab o->h2.get? c=ab o)->ip c q h2:=λh1 h2 ⟨o,vs,t,e,d,r⟩ k=>⟨o,vs,t,k o e,d,r⟩
theorem K3{Q:ag->ao->Prop}{E:ag->ao->Prop}(I:Inv X af σ H s)(hc:X.env.code=.ref c)(C:jP X.base c T)(k:iC H){tps:Array ag}(hT:H T=ab (.tbl qual tps))(hB:BM X.mg X.base)
 (hdef:defaultsOf ps X.env=([],[])) (hq:X.env.qual ++ "<lambda>" = qual) (hcl:closureFor sc X.env=pure cl)
 (h:∀f c' ctv pm s' H',Tab T qual H H'->H' c'=ab (.ext (ip c' qual))->s'.heap.get? f=ab (uf "<lambda>" qual ps body sc cl pm c' ctv)->Inv X af σ H' s'->fJ X af H' f->Q (.ref f) s') :
 wpAny (model X.prog X.w) X.A (eval (.Lambda ps body sc pos) X.env) Q E s:=by
 obtain⟨ok1,ok2⟩:=k.cd T qual tps hT;have hP:s.heap.get? T=ab (w5 tps):=I.hok T _ hT;have hg:s.heap.Ns mainGlobals X.mg:=I.mod.glob.keeps I.bk;have C':jP s.heap c T:=C.keeps I.bk;obtain⟨bm,bo,b1,b2,b3,b4,b5,b6,b7⟩:=hB;have nT:∀b o,X.base.get? b=ab o->b≠T:=λb o e z=>by
  have:=(I.bs b o e).2;rw[z,hT]at this;cases this
 have hb:s.heap.BuiltinsAt X.mg T:=⟨bm,bo,b1,b2,b3,nT _ _ b4,I.bk _ _ b4,b5,b6,b7⟩;have hgT:mainGlobals≠T:=by obtain⟨o,es,ep,e,_⟩:=I.mod.glob;exact nT _ _ e
 refine PySem.W.kla_eval hdef ?_;rw[hq];cases hf:codeAmong pos tps.toList with
 |some v=>
  obtain⟨c',rfl,hc'⟩:=ok2 pos v hf;refine PySem.W.kla_makeFunctionHit hcl I.ok.glob hg hc C' hP ok1 hf hb λctv h' tk kp sz=>?_;have I':Inv X af σ H { s with heap:=h'.push _,toks:=tk }:=I.kept (h':=h'.push (uf "<lambda>" qual ps body sc cl ((X.mg "__name__").getD .none) c' ctv)) λb o e=>bD _ (kp b o e);exact h _ c' ctv _ _ H (.inl rfl) hc' (bS _ rfl) I' (I.io sz (I.hok.fresh sz))
 |none=>
  refine PySem.W.kla_makeFunction hcl I.ok.glob hg hc C' hP ok1 hf hgT hb λc' ctv h' tk kp h1 h2 hrec htb=>?_;have nc:H c'=ae:=I.hok.fresh h1;have cT:c'≠T:=λz=>by rw[z,hT]at nc;cases nc
  have hx:ip c' qual h':=by obtain⟨c2,o,vs,t,e,r⟩:=hrec;cases e;exact⟨o,vs,t,r⟩
  obtain⟨oc,hoc⟩ : ∃o,h'.get? c'=ab o:=let ⟨o,_,_,e,_⟩:=hx;⟨o,e⟩;have u1:Un X.fs [] H (upd H T (.tbl qual (tps ++ #[rawInt pos.line,rawInt pos.col,.ref c']))) s.heap h':=by
   have nn:∀b,H b=ae->b≠T:=λb n z=>by rw[z,hT]at n;cases n
   refine⟨λb o e n _ _=>kp b o (nn b n) e,λb o e n _ _=>⟨o.slots,kp b o (nn b n) e⟩,λb o e n _=>by rw[aC (nn b n)];exact n,λb o e _=>?_,λb xs e=>?_,λb o u e=>?_,λb w ps e=>?_⟩
   ·by_cases z:b=T
    ·rw[z];exact⟨_,htb⟩
    ·exact⟨o,kp b o z e⟩
   ·rw[aC (λz=>by rw[z,hT]at e;cases e)];exact e
   ·rw[aC (λz=>by rw[z,hT]at e;cases e)];exact e
   ·by_cases z:b=T
    ·subst z;rw[hT]at e;cases e;exact⟨_,bj⟩
    ·exact⟨#[],by rw[aC z,e];simp⟩
  have RU:cX X.prog X.w (upd H T (.tbl qual (tps ++ #[rawInt pos.line,rawInt pos.col,.ref c']))) h':=λb u e=>by
   by_cases z:b=T
   ·subst z;rw[bj]at e;cases e;exact htb
   ·rw[aC z]at e;refine(I.hok b u e).stay (λy v hy q=>kp y v ?_ q) (λy q=>by rw[aC (λw=>by rw[w,hT]at q;cases q)];exact q) λy xs q=>by rw[aC (λw=>by rw[w,hT]at q;cases q)];exact q
    rcases hy with w|w
    ·rw[w];exact z
    ·exactλw2=>by rw[w2,hT]at w;cases w
  have I1:Inv X af σ (upd H T (.tbl qual (tps ++ #[rawInt pos.line,rawInt pos.col,.ref c']))) { s with heap:=h',toks:=tk }:=I.un u1 RU;have nc1:upd H T (.tbl qual (tps ++ #[rawInt pos.line,rawInt pos.col,.ref c'])) c'=ae:=by rw[aC cT];exact nc
  have I2:Inv X af σ (upd (upd H T (.tbl qual (tps ++ #[rawInt pos.line,rawInt pos.col,.ref c']))) c' (.ext (ip c' qual))) { s with heap:=h',toks:=tk }:=by
   have F:fJ X af (upd H T (.tbl qual (tps ++ #[rawInt pos.line,rawInt pos.col,.ref c']))) c':=⟨nc1,(I.io (H':=H) h1 nc).2⟩;have uz:∀b u,(upd H T (.tbl qual (tps ++ #[rawInt pos.line,rawInt pos.col,.ref c']))) b=ab u->b≠c':=λb u e=>cJ e nc1;refine I1.call' (s':={ s with heap:=h',toks:=tk }) (ch:=[c']) rfl ⟨λb u e _ _ _=>e,λb u e _ _ _=>⟨u.slots,e⟩,λb u e n hb=>?_,λb u e hb=>⟨u,e⟩,λb xs e=>by rw[aC (uz _ _ e)];exact e,λb q u e=>by rw[aC (uz _ _ e)];exact e,λb w ps e=>⟨#[],by rw[aC (uz _ _ e),e];simp⟩⟩ ?_ I.bare
    λb hb=>by
     obtain rfl:b=c':=by simpa using hb
     exact⟨F.2.2.2.1,F.2.1,F.2.2.2.2.1,F.2.2.2.2.2⟩
   ·rw[aC (λz=>hb (by simp[z]))];exact n
   ·intro b u e;by_cases z:b=c'
    ·subst z;rw[bj]at e;cases e;exact⟨hx,⟨oc,hoc⟩,O2 b qual⟩
    ·rw[aC z]at e;exact(I1.hok b u e).stay (λy v hy q=>q) (λy q=>by rw[aC (uz _ _ q)];exact q) λy xs q=>by rw[aC (uz _ _ q)];exact q
  have RV:∀b o,h'.get? b=ab o->(h'.push (uf "<lambda>" qual ps body sc cl ((X.mg "__name__").getD .none) c' ctv)).get? b=ab o:=λb o e=>bD _ e;have I3:=I2.kept (t':=tk) RV;have szs:s.heap.objs.size<=h'.objs.size:=dw h1 (ui h2);have ck:iC (upd (upd H T (.tbl qual (tps ++ #[rawInt pos.line,rawInt pos.col,.ref c']))) c' (.ext (ip c' qual))):=by
   have nT':∀{b:ah} {o:HO},H b=ab o->NT o->upd (upd H T (.tbl qual (tps ++ #[rawInt pos.line,rawInt pos.col,.ref c']))) c' (.ext (ip c' qual)) b=ab o:=λ{b o} e n=>by
    rw[aC (cJ e nc),aC (λz=>by rw[z,hT]at e;cases e;exact n)];exact e
   refine⟨λr hr=>?_,λT2 q2 ps2 e=>?_,λa2 q2 xs2 e=>?_⟩
   rotate_left 2
   ·by_cases z:a2=c'
    ·subst z;rw[bj]at e;cases e
    ·rw[aC z]at e;by_cases z2:a2=T
     ·subst z2;rw[bj]at e;cases e
     ·rw[aC z2]at e;exact k.fz a2 q2 xs2 e
   ·obtain⟨p0,e0⟩:=k.has r hr;by_cases z:r.1=T
    ·rw[z,hT]at e0;have:qual=r.2:=by injection e0 with e0;injection e0
     exact⟨_,by rw[aC (by rw[z];exact cR cT),z,bj,this]⟩
    ·exact⟨p0,by rw[aC (cJ e0 nc),aC z];exact e0⟩
   ·by_cases z:T2=c'
    ·subst z;rw[bj]at e;cases e
    ·rw[aC z]at e;by_cases z2:T2=T
     ·subst z2;rw[bj]at e;have e1:qual=q2:=by injection e with e;injection e
      have e2:tps ++ #[rawInt pos.line,rawInt pos.col,.ref c']=ps2:=by injection e with e;injection e
      subst e1 e2;refine⟨by rw[xq];exact KW ok1,λp2 v hv=>?_⟩;rw[xq]at hv;rcases L3 ok1 hv with q|q
      ·obtain⟨y,y1,y2⟩:=ok2 p2 v q;exact⟨y,y1,nT' y2 trivial⟩
      ·exact⟨c',q,bj⟩
     ·rw[aC z2]at e;obtain⟨t1,t2⟩:=k.cd T2 q2 ps2 e;refine⟨t1,λp2 v hv=>?_⟩;obtain⟨y,y1,y2⟩:=t2 p2 v hv;exact⟨y,y1,nT' y2 trivial⟩
  refine h h'.objs.size c' ctv _ _ _ (.inr ⟨tps,_,c',hT,nc,cT,rfl,ck⟩) bj (bS _ rfl) I3 ?_;refine I.io szs ?_;rw[aC (uj h2),aC (λz=>?_)]
  ·exact I.hok.fresh szs
  ·have:=I.hok.fresh szs;rw[z,hT]at this;cases this
end
end L2
namespace L2
open PySem PySem.Spec PyProof.Rows A So
variable[Tb:bE]
section
variable{X:Cx}{af:List (ah×Obj)}{σ:St}{H:Hp}{s:ao}
theorem adopt{fp:List ah}{D:ah}{o:HO}{h':aI}{t':Nat}(I:Inv X af σ H s)(hf:∀b∈fp,fJ X af H b)(hD:D∈fp)(k:∀b u,b∉fp->s.heap.get? b=ab u->h'.get? b=ab u)
 (new:bQ X.prog X.w (upd H D o) h' D o):Inv X af σ (upd H D o) { s with heap:=h',toks:=t' }:=by
 have hn:H D=ae:=(hf D hD).1;have nfp:∀b u,H b=ab u->b∉fp:=λb u e z=>by rw[(hf b z).1]at e;cases e
 refine I.call' (s':={ s with heap:=h',toks:=t' }) (ch:=fp) rfl ⟨λb u e _ _ hb=>k b u hb e,λb u e _ _ hb=>⟨u.slots,k b u hb e⟩,λb u e hb hx=>?_,λb u e hb=>⟨u,k b u hb e⟩,λb xs e=>?_,λb q u e=>?_,λb w ps e=>⟨#[],?_⟩⟩ ?_ I.bare
  λb hb=>⟨(hf b hb).2.2.2.1,(hf b hb).2.1,(hf b hb).2.2.2.2.1,(hf b hb).2.2.2.2.2⟩
 ·rw[aC (λz=>hx (by rw[z];exact hD))];exact hb
 ·rw[aC (cJ e hn)];exact e
 ·rw[aC (cJ e hn)];exact e
 ·rw[aC (cJ e hn),e];simp
 ·intro b u e;by_cases hb:b=D
  ·subst hb;rw[bj]at e;cases e;exact new
  ·rw[aC hb]at e;refine(I.hok b u e).stay (λc v hc q=>k c v ?_ q) (λc q=>by rw[aC (cJ q hn)];exact q) λc xs q=>by rw[aC (cJ q hn)];exact q
   rcases hc with z|z
   ·rw[z];exact nfp b u e
   ·exact nfp c _ z
theorem C3:∀{ns:List Int} {aj:List ag},Vals (ns.map V.int) aj->gJ aj ns
 |[],_,.nil=>.nil
 |n::r,_,.cons h t=>by
  obtain⟨t1,rfl⟩:=h;exact .cons n t1 (C3 t)
end
def wa(c':ah)(q:Str)(tk:V->Hp->VK->Prop):List V->Hp->(List V->Hp->Prop)->Prop
 |[],H,R=>R [] H
 |x::xs,H,R=>tk x H λk H1=>H1 c'=ab (.ext (ip c' q))/\wa c' q tk xs H1 λks H2=>R (k::ks) H2
def KeysAre(H:Hp)(kz:List (List Int))(ks:List V):Prop:=P2 (λz k=>∃p,k=V.ref p/\H p=ab (.lst (z.map V.int))) kz ks
def MI(T:ah)(q:Str)(ρ:List Nat)(σ:St)(tb:TE)(Q:VK):VK:=λx H1=>∃a xs tps,x=.ref a/\xs.length<64/\H1 T=ab (.tbl q tps)/\iC H1 /\
 ∀H2 c',Tab T q H1 H2->H2 c'=ab (.ext (ip c' q))->Lst H2 a xs/\wa c' q (λv H K=>tb (iL ρ σ v) H K) xs H2 λks H3=>∃kz:List (List Int),kz.length=xs.length/\kz.Nodup/\KeysAre H3 kz ks /\
  ∀p ys,H3 p=ae->z9 .non kz xs ys->Q (.ref p) (upd H3 p (.lst ys))
def CO(T:ah)(q:Str)(ρ:List Nat)(te tb:TE):TE:=λσ H Q=>te σ H (MI T q ρ σ tb Q)
theorem LL{kz:List (List Int)}{xs:List V}{aj out:List ag}(r:Vals xs aj)(hz:kz.length=xs.length)(h:om (lX kz) aj out):∃ys,z9 .non kz xs ys/\Vals ys out:=by
 obtain⟨p,pm,sd,rfl⟩:=h;have hl:=r.length;rw[<- hl]at pm sd;refine⟨p.toList.map λi=>xs.getD i .non,⟨p,pm,sd,rfl⟩,?_⟩;have key:∀l:List Nat,(∀i∈l,i<xs.length)->Vals (l.map λi=>xs.getD i .non) (l.map λi=>aj.getD i eE):=λl hl'=>by
  induction l with
  |nil=>exact .nil
  |cons i t ih=>
   have hi:=hl' i ce;refine .cons ?_ (ih λj hj=>hl' j (c6 _ hj));have e1:xs[i]? = ab (xs.getD i .non):=by simp[hi]
   obtain⟨u,e2,r2⟩:=r.get e1;have:aj.getD i eE=u:=by simp[e2]
   show RelV (xs.getD i .non) (aj.getD i eE);rw[this];exact r2
 refine key _ λi hi=>?_;have:=(ur.mp pm.pm).mem_iff.mp hi;simpa using this
section
variable{X:Cx}{x qual:Str}{e:aR}{ps:t5}{body:aR}{sc:eY}{cl:List (Str×ah)}{c T:ah}{p pos JT RW:Pos}{k:Nat}{ρ:List Nat}{N':List Str}{te tb:TE}
theorem Np(hg:Gl X "sorted")(hm:X.mg "sorted" = ae)(he:PE X e te)(hr:dL (k+3) X.A)(hc:X.env.code=.ref c)(C:jP X.base c T)(hB:BM X.mg X.base)(hdef:defaultsOf ps X.env=([],[]))(hq:X.env.qual ++ "<lambda>" = qual)(hcl:closureFor sc X.env=pure cl)
 (S:q9 X x ρ N' sc cl) (hbind:∀(pm:ag) (c':ah) (ctv u:ag),bindArgs (I9 "<lambda>" qual ps body sc cl pm (.ref c') ctv) ⟨[u],[]⟩=pure [(x,u)])
 (hb:∀(A:bv) (f c':ah) (s:ao) (H:Hp) (env:Env),dL k (A.deeper env)->env=v6 qual sc s f c' cl->PE (Aw X A N' env s H) body tb)
 (hs:starEach [e] X.env=(false,eval e X.env)::starEach [] X.env:=by rfl) (hpl:(backTo pos (starEach [e] X.env)).any (·.1)=false:=by rfl) :
 PE X (.Call (.Name "sorted" p) [e] [⟨ab "key", .Lambda ps body sc JT,RW⟩] pos) (CO T qual ρ te tb):=by
 intro af s σ H Q I h;have hboot:bootBuiltins "sorted" = ab (.builtin "sorted"):=by kernel_rfl
 refine wC (oU I hg hm hboot ?_);refine callWith_kw ?_ (by rw[hs];rfl) hpl rfl rfl;rw[hs];show wpAny _ _ (spliced ((false,eval e X.env)::backTo pos (starEach [] X.env))) _ _ s;refine JH (aS (he af s σ H _ I h) λu s1 ⟨x1,H1,I1,r1,q1⟩=>JI ?_);obtain⟨a,xs,tps,rfl,h64,hT,ck,q2⟩:=q1;cases r1;show wpAny _ _ (evalAll ((do let v <- eval (.Lambda ps body sc JT) X.env;standAt pos;pure v)::((backToKw pos (keywordEach [] X.env)).map (·.2)))) _ _ s1;refine wpAny_evalAll_cons (ak (K3 I1 hc C ck hT hB hdef hq hcl λf c' ctv pm s2 H2 tab hc' hf I2 fpf=>ak (AV (ax (wpAny_evalAll_nil ?_)))));obtain⟨hl2,kr⟩:=q2 H2 c' tab hc';show wpAny (model X.prog X.w) X.A (call (.builtin "sorted") [.ref a] [(gm "key", .ref f)]) (EP X af σ Q) X.xe s2;obtain⟨aj,n0,rv,hz,ho⟩:=oQ I2 hl2;have hli:=rv.length;let Fn:List V->Hp->Prop:=λks H3=>∃kz:List (List Int),kz.length=xs.length/\kz.Nodup/\KeysAre H3 kz ks/\∀p ys,H3 p=ae->z9 .non kz xs ys->Q (.ref p) (upd H3 p (.lst ys));have flt:f<s2.heap.objs.size:=bR hf;have fnt:f∉tm s2.heap.objs.size:=λz=>by
  simp only[tm,bA,rC,or_false]at z;have:(f:Nat)<s2.heap.objs.size:=flt;rcases z with z|z|z|z
  ·exact absurd this (by rw[z];exact jv _)
  ·exact absurd this (by rw[z];exact Nat.not_lt.mpr (xa _ _))
  ·exact absurd this (by rw[z];exact Nat.not_lt.mpr (xa _ _))
  ·exact absurd this (by rw[z];exact Nat.not_lt.mpr (xa _ _))
 refine MG (vs:=aj) (J:=λks s3=>∃Hc kv,Inv X af σ Hc s3/\Vals kv ks/\s3.heap.get? f=ab (uf "<lambda>" qual ps body sc cl pm c' ctv)/\fJ X af Hc f/\(∀b∈tm s2.heap.objs.size,fJ X af Hc b/\∃o,s3.heap.get? b=ab o) /\
  Hc c'=ab (.ext (ip c' qual))/\wa c' qual (λv H K=>tb (iL ρ σ v) H K) (xs.drop ks.length) Hc λks' H3=>Fn (kv++ks') H3) ⟨_,ho,rfl,_,rfl⟩ (by omega) ?j0 ?jk ?jc ?je
 case j0=>
  intro h' kp ex;refine⟨H2,[],I2.kept kp,.nil,kp _ _ hf,fpf,λb hb=>⟨I2.io ?_ (I2.hok.fresh ?_),ex b hb⟩,hc',kr⟩
  all_goals (simp only[tm,bA,rC,or_false]at hb;rcases hb with z|z|z|z<;>rw[z]<;>first|exact ba _|exact xa _ _)
 case jk=>
  rintro ks s3 h' ⟨Hc,kv,I3,rk,hf3,fp3,tm3,hc3,kr3⟩ kp ex;refine⟨Hc,kv,Ax (t':=s3.toks) I3 (fp:=tm s2.heap.objs.size) (λb hb=>(tm3 b hb).1) (λb u hb q=>kp b u hb q),rk,kp _ _ fnt hf3,fp3,λb hb=>⟨(tm3 b hb).1,?_⟩,hc3,kr3⟩;obtain⟨o,q⟩:=(tm3 b hb).2;exact ex b o q
 case jc=>
  rintro i u ks s3 hu hks ⟨Hc,kv,I3,rk,hf3,fp3,tm3,hc3,kr3⟩;obtain⟨v,hv,ruv⟩ : ∃v,xs[i]? = ab v/\RelV v u:=by
   have hi:i<xs.length:=by rw[hli];exact(cu.mp hu).1
   have e1:xs[i]? = ab xs[i]:=by simp[hi]
   obtain⟨u2,e2,r2⟩:=rv.get e1;rw[hu]at e2;cases e2;exact⟨_,e1,r2⟩
  have hd:xs.drop ks.length=v::xs.drop (ks.length+1):=by obtain⟨hi,e⟩:=cu.mp hv;rw[hks,ko hi,e]
  rw[hd]at kr3;have hrec:s3.heap.CodeRec (.ref c') qual:=by obtain⟨⟨o,vs,t,e1,e2,e3⟩,_⟩:=I3.hok c' _ hc3;exact⟨c',o,vs,t,rfl,e1,e2,e3⟩
  have hA:X.A.in1.in1.frames=ab X.stack:=I3.ok.frames;refine jt (PU (k:=k) I3 hA hr.in1.in1 S hf3 hrec (hbind pm c' ctv u) ruv (λenv h1 h2=>hb _ f c' s3 Hc env h1 h2) kr3) (λkk s4 hce=>?_) λ_ _ z=>z;have Ss:=hce;obtain⟨kvv,H4,os4,RX,un4,RY,rk4,hc4,kr4⟩:=hce;have noF:∀b,fJ X af Hc b->b∉frs X.stack:=λb hb z=>by
   rcases bA.mp (I3.vP b z)with y|y
   ·exact hb.2.1 y
   ·exact hb.2.2.1 y
  have I4:Inv X af σ H4 s4:=I3.call' os4 (ch:=[]) un4 RY RX (λb z=>absurd z (by simp));have fpk:∀b,fJ X af Hc b->(∃o,s3.heap.get? b=ab o)->fJ X af H4 b:=λb hb ⟨o,q⟩=>⟨un4.free b o q hb.1 (by simp),hb.2⟩;refine⟨⟨H4,kv++[kvv],I4,rk.append (.cons rk4 .nil),un4.keep _ _ hf3 fp3.1 (noF _ fp3) (by simp),fpk f fp3 ⟨_,hf3⟩,λb hb=>⟨fpk b (tm3 b hb).1 (tm3 b hb).2,?_⟩,hc4,?_⟩,λb o hb q=>un4.keep b o q (tm3 b hb).1.1 (noF _ (tm3 b hb).1) (by simp)⟩
  ·obtain⟨o,q⟩:=(tm3 b hb).2;exact un4.there b o q (by simp)
  ·rw[dI];simp only[t8,List.singleton_append];exact kr4
 case je=>
  rintro ks s3 hks ⟨Hc,kv,I3,rk,hf3,fp3,tm3,hc3,kr3⟩;rw[nM (by omega)]at kr3;obtain⟨kz,hz1,nd,ka,fin⟩:=kr3;rw[nR]at ka;have lk:=rk.length;have at_:∀i,i<aj.length->∃pp o us nn,ks.getD i eE=.ref pp/\s3.heap.get? pp=ab o/\o.cls=.type "list" /\ o.data=.seq (eo us) nn/\gJ us (kz.getD i []):=λi hi=>by
   have hzi:i<kz.length:=by omega
   have e1:kz[i]? = ab (kz.getD i []):=by simp[hzi]
   obtain⟨kvi,e2,pp,rfl,hp⟩:=P2.getL ka e1;obtain⟨u,e3,r3⟩:=rk.get e2;cases r3;obtain⟨_,us,nn,vu,ho⟩:=I3.hok pp _ hp;exact⟨pp,_,us,nn,by simp[e3],ho,rfl,rfl,C3 vu⟩
  have hord:=AC nd;rw[hz1,hli]at hord;refine⟨lX kz,hord,λh2 Q' hq'=>?_,λi j C hi hj hC=>?_,λout h' cc so kp ex hD=>?_⟩
  ·refine PySem.W.kas_kind (T:=um "list") (by omega) (λv hv=>?_) (by decide) (by decide) hq';obtain⟨i,hi⟩:=mj hv;have hil:=(cu.mp hi).1;obtain⟨pp,o,us,nn,e1,e2,e3,_⟩:=at_ i (by omega);have:v=.ref pp:=by
    rw[<- e1];simp[hi]
   rw[this,<- e3];exact(PySem.W.Looks.ld e2).andThen .now
  ·obtain⟨p1,o1,us1,n1,a1,a2,a3,a4,a5⟩:=at_ i hi;obtain⟨p2,o2,us2,n2,b1,b2,b3,b4,b5⟩:=at_ j hj;unfold PySem.W.kas_ask;rw[a1,b1];exact Kq a2 a3 a4 b2 b3 b4 a5 b5 (by have:=hr.un;show X.A.units+1+1<cLine;omega) hC
  ·obtain⟨ys,sy,vy⟩:=LL rv hz1 so;have hD':s2.heap.objs.size+1∈tm s2.heap.objs.size:=by simp[tm]
   have ly:ys.length=xs.length:=by rw[vy.length,so.len,hli]
   have nD:Hc (s2.heap.objs.size+1)=ae:=(tm3 _ hD').1.1;refine⟨.ref (s2.heap.objs.size+1),_,adopt (t':=s3.toks) (o:=.lst ys) I3 (λb hb=>(tm3 b hb).1) hD' (λb u hb q=>kp b u hb q) ⟨by rw[ly];exact hz,out,cc,vy,hD⟩,rfl,fin _ ys nD sy⟩
end
end L2
namespace Mi
open PySem
def vm:D->Option (List Str)
 |.tup ds=>j9 ds
 |.lst ds=>j9 ds
 |_=>ae
def i5(x y:D):Rs D:=match y with
 |.str z=>(cG (vm x)).bind λys=>a9 (z∈ys/\ys.length<=1000) (.ok (.int (ys.idxOf z:Nat)))
 |_=>.no
def dR:List Int->List Int->Bool
 |[],[]=>false
 |[],_::_=>true
 |_::_,[]=>false
 |a::r,b::t=>if a==b then dR r t else decide (a<b)
def gQ:List D->Option (List Int)
 |[]=>ab []
 |.int i::r=>(gQ r).map (i :: ·)
 |_=>ae
def r9:D->Rs (List Int)
 |.lst ds=>cG (gQ ds)
 |_=>.no
def insI(lt:Nat->Nat->Bool)(i:Nat):List Nat->List Nat
 |[]=>[i]
 |j::r=>if lt i j=true then i::j::r else j::insI lt i r
def sortI(lt:Nat->Nat->Bool):List Nat->List Nat
 |[]=>[]
 |i::r=>insI lt i (sortI lt r)
def jG(kz:List (List Int))(n:Nat):List Nat:=sortI (λi j=>dR (kz.getD i []) (kz.getD j [])) (bw n)
def sortBy(kz:List (List Int))(ds:List D):List D:=(jG kz ds.length).map λi=>ds.getD i .non
def lS(ρ:List Nat)(e:Env)(d:D):Env:=ab (.d d) :: ρ.map λj=>(e[j]?).join
def jo(ρ:List Nat)(kf:E)(e:Env):List D->Rs (List (List Int))
 |[]=>.ok []
 |d::r=>(kf (lS ρ e d)).bind λk=>(r9 k).bind λz=>(jo ρ kf e r).bind λzs=>.ok (z::zs)
def v0(ρ:List Nat)(a kf:E):E:=λe=>(a e).bind λx=>(HB x).bind λds=>a9 (ds.length<64) ((jo ρ kf e ds).bind λkz=>a9 kz.Nodup (.ok (.lst (sortBy kz ds))))
end Mi
namespace A
open PySem L2 PyProof.Rows
open Mi (D W Rs Fin au Out Tg)
variable[Tb:bE]
section
variable{prog:bg}{w:aY}{Ar:bv}
theorem yB(x y:Str)(t u:Tok):JL (.str x t) (.str y u) (x.cps.toList==y.cps.toList):=RM x y t u
theorem vN{ys:List Str}{us:List ag}(r:Vals (ys.map V.str) us){i:Nat}(h:i<ys.length):∃t,us[i]? = ab (.str (ys.getD i eP) t):=by
 have e:(ys.map V.str)[i]? = ab (.str (ys.getD i eP)):=by simp[h]
 obtain⟨u,e2,r2⟩:=r.get e;obtain⟨t,rfl⟩:=r2;exact⟨t,e2⟩
theorem Ip{ys:List Str}{z:Str}(h:z∈ys):ys.idxOf z<ys.length/\ys.getD (ys.idxOf z) eP=z/\∀m,m<ys.idxOf z->ys.getD m eP≠z:=by
 have hl:=Iy h;refine⟨hl,by simp[hl],λm hm e=>?_⟩;have:m<ys.length:=Nat.lt_trans hm hl;have e2:ys[m]=z:=by simpa [this]using e
 have:=List.not_of_lt_findIdx (p:=(· == z)) (xs:=ys) (i:=m) hm;simp[e2]at this
theorem Pb{E:ag->ao->Prop}{s:ao}{t:ah}{us:List ag}{ys:List Str}{z:Str}{tz:Tok}{Q:ag->ao->Prop}(ht:IsTup s.heap t us.toArray)(r:Vals (ys.map V.str) us)(hz:z∈ys)
 (h:Q (.int (ys.idxOf z:Nat) s.toks) { s with toks:=s.toks+1 }):wpAny (model prog w) Ar (call (.builtin "tuple.index") [.ref t,.str z tz]) Q E s:=by
 obtain⟨h1,h2,h3⟩:=Ip hz;have hl:=r.length;rw[aQ]at hl;refine gG xg ht.typeIs PySem.F.entry_tuple_index ?_ (PySem.F.args_tuple_index_2 _ _);show wpAny _ _ (JC (.ref t) >>= _) _ _ s;refine ak (tupleItemsOf_ ht ?_);refine ak (ax (ak (ax ?_)));dsimp only;rw[Std.Legacy.Range.forIn_eq_forIn_range'];have hsz:([0:min us.toArray.size us.toArray.size]:Std.Legacy.Range).size=us.length:=by simp[Std.Legacy.Range.size]
 rw[hsz];show wpAny _ _ (forIn (List.range' 0 us.length 1) _ _ >>= _) _ _ _;have go:∀(k i:Nat),ys.idxOf z=i+k->∀(G:Option pK×Unit->ao->Prop),G (ab (.done (.ret (.int (ys.idxOf z:Nat) s.toks))),()) { s with toks:=s.toks+1 } ->
  wpAny (model prog w) Ar.in1 (forIn (List.range' i (us.length - i) 1) ((ae, ()) : Option pK × Unit) fun (i : Nat) (__s : Option pK × Unit) => (match us.toArray[i]? with
          | some y=>do
           let b <- eqBool y (mx z tz)
           if b=true then do
            let r <- retInt (i:Int)
            pure (ForInStep.done (ab r,()))
            else pure (lp (ae,()))
          |x=>pure (lp (ae,())):Sem (ForInStep (Option pK×Unit)))) G E s:=by
  intro k
  induction k with
  |zero=>
   intro i hi G hG;have hlt:i<us.length:=by omega
   obtain⟨t1,e1⟩:=vN r (i:=i) (by omega);rw[show us.length-i=(us.length-i-1)+1 by omega,List.range'_succ,ub];have e2:us.toArray[i]? = ab (.str (ys.getD i eP) t1):=by simpa using e1
   rw[e2];have hz2:ys.getD i eP=z:=by rw[<- h2,hi];rfl
   rw[hz2];refine ak (ak (yB z z t1 tz prog w _ _ _ _ ?_));simp only[i3,gU];refine ak (ak (wpAny_mkInt (ax (ax ?_))));rw[show(i:Nat)=ys.idxOf z from hi.symm];exact ax hG
  |succ k ih=>
   intro i hi G hG;have hlt:i<us.length:=by omega
   obtain⟨t1,e1⟩:=vN r (i:=i) (by omega);rw[show us.length-i=(us.length-(i+1))+1 by omega,List.range'_succ,ub];have e2:us.toArray[i]? = ab (.str (ys.getD i eP) t1):=by simpa using e1
   rw[e2];have hz2:=h3 i (by omega);refine ak (ak (yB _ z t1 tz prog w _ _ _ _ ?_));have:((ys.getD i eP).cps.toList==z.cps.toList)=false:=by
    rw[tH];intro e;apply hz2;cases hq:ys.getD i eP with
    | mk c=>cases z with
     |mk d=>
      rw[hq]at e;have:c=d:=xr.mp e;rw[this]
   rw[this];simp only[lj,eJ];exact ax (ih (i+1) (by omega) G hG)
 refine ak (go (ys.idxOf z) 0 (by omega) _ ?_);exact ax ⟨_,rfl,h⟩
theorem NM{E:ag->ao->Prop}{s:ao}{t:ah}{us:List ag}{ys:List Str}{z:Str}{tz:Tok}{n:Nat}{Q:ag->ao->Prop}(ht:s.heap.get? t=ab { cls:=.type "list", data:=.seq us.toArray n })(r:Vals (ys.map V.str) us)(hz:z∈ys)(hl:ys.length<=1000)
 (h:Q (.int (ys.idxOf z:Nat) s.toks) { s with toks:=s.toks+1 }):wpAny (model prog w) Ar (call (.builtin "list.index") [.ref t,.str z tz]) Q E s:=by
 obtain⟨h1,h2,h3⟩:=Ip hz;have hlu:=r.length;rw[aQ]at hlu;let e:ag->Bool:=λy=>match y with
  |.str a _=>a.cps.toList==z.cps.toList
  |_=>false
 have he:∀y,y∈us.toArray->JL y (.str z tz) (e y):=λy hy=>by
  obtain⟨i,hi⟩:=mj (by simpa using hy:y∈us);have hil:=(cu.mp hi).1;obtain⟨t1,e1⟩:=vN r (i:=i) (by omega);rw[e1]at hi;cases hi;exact yB _ z t1 tz
 have ei:∀i (hi:i<us.toArray.size),e us.toArray[i]=decide (ys.getD i eP=z):=λi hi=>by
  have hi':i<us.length:=by simpa using hi
  obtain⟨t1,e1⟩:=vN r (i:=i) (by omega);have:us.toArray[i]=.str (ys.getD i eP) t1:=by have:=(cu.mp e1).2;simpa using this
  rw[this];show((ys.getD i eP).cps.toList==z.cps.toList)=_;by_cases q:ys.getD i eP=z
  ·rw[q];simp
  ·rw[dC q,tH];intro y;apply q;cases hq:ys.getD i eP with
   | mk c=>cases z with
    |mk d=>
     rw[hq]at y;have:c=d:=xr.mp y;rw[this]
 refine rp xh ⟨_,ht,rfl⟩ PySem.F.entry_list_index (PySem.F.args_list_index_2 _ _) (PySem.MeetsSeq.list_index t us.toArray n (.str z tz) e he (ys.idxOf z) (by simp;omega) (by omega) (by rw[ei];simp only[h2];simp) (λm hm hj=>by rw[ei];simp only[h3 m hj];simp)) ⟨ht,h⟩
end
section
variable{X:Cx}{K:aE}{M:Nat->Bool}{to ta tb:TE}{t:TA}{o e:aR}{es:List aR}{apos cpos:Pos}{a b:Mi.E}
theorem LF:k3 X "tuple.index" (λx xs H Q=>∃(p:ah) (ys:List Str) (z:Str),x=.ref p/\xs=[.str z]/\z∈ys/\H p=ab (.tup (ys.map V.str))/\Q (.int (ys.idxOf z:Nat)) H):=by intro af s σ H x xs v us Q I rx rv h;obtain⟨p,ys,z,rfl,rfl,hz,hp,q⟩:=h;cases rx;obtain⟨u,rfl,ru⟩:=vals1 rv;obtain⟨tz,rfl⟩:=ru;obtain⟨aj,r,pt,_⟩:=I.tuple (.inl (.inl hp));exact Pb pt r hz ⟨.int _,H,I.tok _,⟨_,rfl⟩,q⟩
theorem Pz:k3 X "list.index" (λx xs H Q=>∃(p:ah) (ys:List Str) (z:Str),x=.ref p/\xs=[.str z]/\z∈ys/\ys.length<=1000/\Lst H p (ys.map V.str)/\Q (.int (ys.idxOf z:Nat)) H):=by intro af s σ H x xs v us Q I rx rv h;obtain⟨p,ys,z,rfl,rfl,hz,hl,hp,q⟩:=h;cases rx;obtain⟨u,rfl,ru⟩:=vals1 rv;obtain⟨tz,rfl⟩:=ru;obtain⟨aj,n,r,_,ho⟩:=oQ I hp;exact NM ho r hz hl ⟨.int _,H,I.tok _,⟨_,rfl⟩,q⟩
def CT(K:aE)(T2:String)(r1 r2:V->List V->Hp->VK->Prop)(to:TE)(t:TA):TE:=λσ H Q=>to σ H λx H1=>((∃p xs,x=V.ref p/\H1 p=ab (.tup xs))/\t σ H1 λxs H2=>r1 x xs H2 Q)\/(vj K T2 x H1/\t σ H1 λxs H2=>r2 x xs H2 Q)
theorem zG{T2 id1 id2:String}{r1 r2:V->List V->Hp->VK->Prop}{name:Str}(aM:wM "tuple")(slot1:Slot "tuple" name id1)(RZ:typeOf (.builtin id1)=pure (.type "method_descriptor"))(hm1:k3 X id1 r1)
 (pa2:wM T2) (R3:Slot T2 name id2) (R4:typeOf (.builtin id2)=pure (.type "method_descriptor")) (hm2:k3 X id2 r2) (ho:PE X o to) (ha:PA X (e::es) t)
 (hbase:attributeBase o name X.env (eval o X.env)=eval o X.env:=by rfl)
 (hfew:((backTo cpos (starEach (e::es) X.env)).all (λx=>!x.1)&&(backToKw cpos (keywordEach [] X.env)).all (λx=>x.1.isSome)
  && decide ((e::es).length+([]:List Keyword).length+(if([]:List Keyword).isEmpty then 0 else 1)<30))=true:=by rfl)
 (hline:(apos.endLine==cpos.line)=true:=by rfl) (hs:starEach (e::es) X.env=(false,eval e X.env)::starEach es X.env:=by rfl) (hplain:(backTo cpos (starEach es X.env)).any (·.1)=false:=by rfl) :
 PE X (.Call (.Attribute o name apos) (e::es) [] cpos) (CT X.K T2 r1 r2 to t):=by
 intro af s σ H Q I h;refine Iv hbase hfew hline rfl (aS (ho af s σ H _ I h) λv s1 ⟨x,H1,I1,rx,q⟩=>?_);rcases q with ⟨ty,q1⟩|⟨ty,q1⟩
 ·obtain⟨p,xs,rfl,hp⟩:=ty;cases rx;have h12:s1.TypeIs (.ref p) "tuple" /\ ∀a,b8 p=.ref a->∃ob,s1.heap.get? a=ab ob/\ob.dict=ae:=by
   obtain⟨_,aj,_,ob,e1,e2,e3,_⟩:=(show bQ X.prog X.w H1 s1.heap p (.tup xs)from I1.hok p _ hp);exact⟨⟨ob,e1,e2⟩,λa z=>by cases z;exact⟨ob,e1,e3⟩⟩
  obtain⟨h1,h2⟩:=h12;have rx:RelV (.ref p) (b8 p):=rfl;refine⟨"tuple", id1,aM,slot1,RZ,h1,h2,?_⟩;have hA:=ha cpos af s1 σ H1 _ I1 q1;rw[hs]at hA ⊢;refine xA (by show(false||(backTo cpos (starEach es X.env)).any (·.1))=false;rw[hplain]<;>rfl) (BO ?_);exact aS hA λus s2 ⟨vs,H2,I2,r2',q2⟩=>hm1 af s2 σ H2 _ vs _ us Q I2 rx r2' q2
 ·obtain⟨h1,h2⟩:=yP I1 rx ty;refine⟨T2,id2,pa2,R3,R4,h1,h2,?_⟩;have hA:=ha cpos af s1 σ H1 _ I1 q1;rw[hs]at hA ⊢;refine xA (by show(false||(backTo cpos (starEach es X.env)).any (·.1))=false;rw[hplain]<;>rfl) (BO ?_);exact aS hA λus s2 ⟨vs,H2,I2,r2',q2⟩=>hm2 af s2 σ H2 x vs v us Q I2 rx r2' q2
end
end A
namespace So
open PySem
theorem u9:∀a b:List Int,cW a b=Mi.dR a b
 |[],[]=>rfl
 |[],_::_=>rfl
 |_::_,[]=>rfl
 |a::r,b::t=>by rw[cW,Mi.dR,u9 r t]
theorem zH(lt:Nat->Nat->Bool)(i:Nat):∀l:List Nat,(Mi.insI lt i l).Perm (i::l)
 |[]=>BQ _
 |j::r=>by
  unfold Mi.insI;split
  ·exact BQ _
  ·exact((zH lt i r).cons j).trans (List.Perm.swap i j r)
theorem sK(lt:Nat->Nat->Bool):∀l:List Nat,(Mi.sortI lt l).Perm l
 |[]=>BQ _
 |i::r=>(zH lt i _).trans ((sK lt r).cons i)
section
variable{n:Nat}{lt:Nat->Nat->Bool}(O:sW n lt)
include O
theorem Dz{i:Nat}(hi:i<n):∀{l:List Nat},(∀x∈l,x<n)->i∉l->l.Pairwise (λa b=>lt a b=true)->(Mi.insI lt i l).Pairwise (λa b=>lt a b=true)
 |[],_,_,_=>IC _ _
 |j::r,hl,hn,hp=>by
  have hp':=kA.mp hp;have hj:=hl j ce;unfold Mi.insI;split
  ·rename_i h;refine kA.mpr ⟨λx hx=>?_,hp⟩;rcases bA.mp hx with rfl|hx
   ·exact h
   ·exact O.tr _ _ _ hi hj (hl x (c6 _ hx)) h (hp'.1 x hx)
  ·rename_i h;have hji:lt j i=true:=(O.tot i j hi hj λz=>hn (by rw[z];exact ce)).resolve_left h;refine kA.mpr ⟨λx hx=>?_,Dz hi (λx hx=>hl x (c6 _ hx)) (λz=>hn (c6 _ z)) hp'.2⟩;rcases bA.mp ((zH lt i r).mem_iff.mp hx)with rfl|hx
   ·exact hji
   ·exact hp'.1 x hx
theorem za:∀{l:List Nat},(∀x∈l,x<n)->l.Nodup->(Mi.sortI lt l).Pairwise (λa b=>lt a b=true)
 |[],_,_=>.nil
 |i::r,hl,nd=>by
  have nd:=jO.mp nd;have hr:∀x∈r,x<n:=λx hx=>hl x (c6 _ hx);exact Dz O (hl i ce) (λx hx=>hr x ((sK lt r).mem_iff.mp hx)) (λz=>nd.1 ((sK lt r).mem_iff.mp z)) (za hr nd.2)
theorem Fw:∀{a b:List Nat},(∀x∈a,x<n)->a.Perm b->a.Pairwise (λx y=>lt x y=true)->b.Pairwise (λx y=>lt x y=true)->a=b
 |[],b,_,p,_,_=>p.nil_eq
 |x::r,b,hl,p,ha,hb=>by
  cases b with
  |nil=>exact absurd p.length_eq (by simp)
  |cons y t=>
   have hx:x∈y::t:=p.mem_iff.mp ce;have hy:y∈x::r:=p.mem_iff.mpr ce;have e:x=y:=by
    rcases bA.mp hx with h|h
    ·exact h
    ·rcases bA.mp hy with h'|h'
     ·exact h'.symm
     ·have a1:=(kA.mp ha).1 y h';have a2:=(kA.mp hb).1 x h;rw[O.asy _ _ (hl x ce) (hl y hy) a1]at a2;cases a2
   subst e;rw[Fw (λz hz=>hl z (c6 _ hz)) (List.Perm.cons_inv p) (kA.mp ha).2 (kA.mp hb).2]
end
theorem OT{kz:List (List Int)}(nd:kz.Nodup){p:Array Nat}(pm:Pm kz.length p)(sd:Sd (lX kz) p kz.length):p.toList=Mi.jG kz kz.length:=by
 have O:=AC nd;have e:Mi.jG kz kz.length=Mi.sortI (lX kz) (bw kz.length):=by
  unfold Mi.jG lX
  congr 1
  funext i j;exact(u9 _ _).symm
 have hp:p.toList.Perm (bw kz.length):=by have:=ur.mp pm.pm;simpa using this
 have hb:∀x∈p.toList,x<kz.length:=λx hx=>by simpa using hp.mem_iff.mp hx
 rw[e];refine Fw O hb (hp.trans (sK _ _).symm) ?_ (za O (λx hx=>by simpa using hx) Bd);rw[A2];intro i j hi hj hij;have hi':i<p.size:=by simpa using hi
 have hj':j<p.size:=by simpa using hj
 have:=sd i j hij (by rw[<- pm.size];exact hj');rw[sU hi',sU hj']at this;simpa using this
end So
namespace A
open PySem L2 PyProof.Rows So
open Mi (D W Rs Fin au Out Tg)
variable[Tb:bE]
theorem KP{T:ah}{q:Str}{H H' Hv:Hp}(v:Vw H Hv)(t:Tab T q H H'):bb H Hv H' Hv:=by
 rcases t with rfl|⟨ps,ps',c,hT,hc,ne,rfl,ck⟩
 ·exact .refl v
 ·have get:∀{a o},H a=ab o->NT o->upd (upd H T (.tbl q ps')) c (.ext (ip c q)) a=ab o:=λ{a o} e n=>by
   rw[aC (cJ e hc),aC (λz=>by rw[z,hT]at e;cases e;exact n)];exact e
  have back:∀{a o},upd (upd H T (.tbl q ps')) c (.ext (ip c q)) a=ab o->(∀w ps,o≠.tbl w ps)->(∀φ,o≠.ext φ)->H a=ab o:=λ{a o} e n1 n2=>by
   by_cases z:a=c
   ·subst z;rw[bj]at e;cases e;exact absurd rfl (n2 _)
   ·rw[aC z]at e;by_cases z2:a=T
    ·subst z2;rw[bj]at e;cases e;exact absurd rfl (n1 _ _)
    ·rw[aC z2]at e;exact e
  refine⟨⟨λa o e n=>get e n,λa e=>?_,λa w p0 e=>?_⟩,cK.refl _,⟨λa o e=>get (v.sub a o e) (v.nv a o e),λa xs e=>v.tup a xs (back e (λ_ _ z=>by cases z) (λ_ z=>by cases z)),λa o u e=>v.frz a o u (back e (λ_ _ z=>by cases z) (λ_ z=>by cases z)),ck,v.nv⟩,λ_ _ _ n=>n⟩
  ·by_cases z:a=c
   ·subst z;exact hc
   ·rw[aC z]at e;by_cases z2:a=T
    ·subst z2;rw[bj]at e;cases e
    ·rw[aC z2]at e;exact e
  ·by_cases z2:a=T
   ·subst z2;rw[hT]at e;cases e;exact⟨ps',by rw[aC (cR ne),bj]⟩
   ·exact⟨p0,by rw[aC (cJ e hc),aC z2];exact e⟩
theorem D3{Hv:Hp}:∀{ds:List D} {xs:List V} {bs:List Int},Mi.gQ ds=ab bs->P2 (Rep Hv) ds xs->xs=bs.map V.int
 |[],_,bs,e,r=>by cases e;cases r;rfl
 |.int b::ds,_,bs,e,r=>by
  cases r with
  |cons x t=>
   cases hb:Mi.gQ ds with
   |none=>rw[Mi.gQ,hb]at e;cases e
   |some cs=>
    rw[Mi.gQ,hb]at e;cases e;rw[D3 hb t,ox.mp x];rfl
section
variable{X:Cx}{K:aE}{M:Nat->Bool}{te tb ta:TE}{a b kf:Mi.E}{T:ah}{q:Str}{ρ:List Nat}
theorem P1{e:Mi.Env}{σ:L2.St}{H Hv:Hp}(I:R0 M e σ H Hv)(hM:∀j∈ρ,M j=false){d:D}{v:V}(r:Rep Hv d v):R0 (λ_=>false) (Mi.lS ρ e d) (iL ρ σ v) H Hv:=by
 refine⟨I.vw,by simp[Mi.lS,iL],λi w h _=>?_,λi w h m=>by cases m⟩;cases i with
 |zero=>
  have:W.d d=w:=by simpa [Mi.lS]using h
  subst this;exact⟨v,rfl,r⟩
 |succ i=>
  have h:(ρ.map λj=>(e[j]?).join)[i]? = ab (ab w):=by simpa [Mi.lS]using h
  rw[c7]at h;obtain⟨j,hj,e2⟩:=gI.mp h;have e3:e[j]? = ab (ab w):=by
   cases z:e[j]? with
   |none=>rw[z]at e2;cases e2
   |some y=>rw[z]at e2;exact congrArg ab e2
  obtain⟨u,hu,ru⟩:=I.nob j w e3 (hM j (fj hj));exact⟨u,by simp[iL,c7,hj,hu],ru⟩
theorem F1{c':ah}(hk:AE (λ_=>false) qN tb kf)(hM:∀j∈ρ,M j=false){e:Mi.Env}{σ:L2.St}:∀{ds:List D} {xs:List V} {kz:List (List Int)} {H Hv:Hp} {R:List V->Hp->Prop},R0 M e σ H Hv->P2 (Rep Hv) ds xs->H c'=ab (.ext (ip c' q))->Mi.jo ρ kf e ds=.ok kz ->
 (∀ks H3 Hv3,bb H Hv H3 Hv3->KeysAre H3 kz ks->R ks H3)->wa c' q (λv H K=>tb (iL ρ σ v) H K) xs H R
 |[],_,kz,H,Hv,R,I,.nil,_,hz,h=>by
  have:kz=[]:=by rw[Mi.jo]at hz;cases hz;rfl
  subst this;exact h [] H Hv (.refl I.vw) .nil
 |d::ds,_,kz,H,Hv,R,I,.cons (b:=v) (m:=xs) r t,hc,hz,h=>by
  rw[Mi.jo]at hz;show tb (iL ρ σ v) H _;cases hkd:kf (Mi.lS ρ e d)with
  |no=>rw[hkd]at hz;cases hz
  |ex z=>rw[hkd]at hz;cases hz
  |ok kd=>
   rw[hkd,Mi.aD]at hz;cases kd with
   |lst es=>
    cases hes:Mi.gQ es with
    |none=>rw[show Mi.r9 (.lst es)=.no from by show Mi.cG (Mi.gQ es)=_;rw[hes];rfl]at hz;cases hz
    |some z=>
     rw[show Mi.r9 (.lst es)=.ok z from by show Mi.cG (Mi.gQ es)=_;rw[hes];rfl,Mi.aD]at hz;cases hzs:Mi.jo ρ kf e ds with
     |no=>rw[hzs]at hz;cases hz
     |ex y=>rw[hzs]at hz;cases hz
     |ok zs=>
      rw[hzs]at hz;have hz:kz=z::zs:=by cases hz;rfl
      subst hz;refine hk _ _ H Hv _ (P1 I hM r) ?_;rw[hkd];intro kv H1 Hv1 g1 kq;obtain⟨p,o,rfl,n0,hp,nv,ci⟩:=kq;cases o with
      |lst vs=>
       have hv:vs=z.map V.int:=D3 hes ci;subst hv;refine⟨g1.old.at hc,F1 hk hM (I.grow g1) (fe g1.vis t) (g1.old.at hc) hzs λks H3 Hv3 g3 ka=>h _ H3 Hv3 (g1.trans g3) (.cons ⟨p,rfl,g3.old.at hp⟩ ka)⟩
      |_=>exact ci.elim
   |_=>cases hz
theorem Fz{F:D->V->Prop}{ds:List D}{xs:List V}(h:P2 F ds xs):∀l:List Nat,(∀i∈l,i<ds.length)->P2 F (l.map λi=>ds.getD i .non) (l.map λi=>xs.getD i .non)
 |[],_=>.nil
 |i::r,hl=>by
  have hi:=hl i ce;have e1:ds[i]? = ab (ds.getD i .non):=by simp[hi]
  obtain⟨y,e2,f⟩:=h.getL e1;have:xs.getD i .non=y:=by simp[e2]
  refine .cons ?_ (Fz h r λj hj=>hl j (c6 _ hj));show F (ds.getD i .non) (xs.getD i .non);rw[this];exact f
theorem Pu(hT:(T,q)∈Tb.l)(hM:∀j∈ρ,M j=false)(ha:AE M qP te a)(hk:AE (λ_=>false) qN tb kf):AE M qN (CO T q ρ te tb) (Mi.v0 ρ a kf):=λe σ H Hv Q I h=>
 ha e σ H Hv _ I ((au.mp h).mono λx hx v H1 Hv1 g1 rx=>by
  cases x with
  |lst ds=>
   obtain⟨h64,hx⟩:=Mi.cr (show Fin (Mi.a9 (ds.length<64) _) _ from hx);obtain⟨kz,hkz,hx⟩:=j6 (au.mp hx);obtain⟨nd,hx⟩:=Mi.cr hx;have hx:=Mi.kR hx;obtain⟨p,xs,rfl,l,r⟩:=RD.lst g1.vw rx;have lx:=r.len;have I1:=I.grow g1;obtain⟨tps,ht⟩:=g1.vw.cd.has _ hT;refine⟨p,xs,tps,rfl,by omega,ht,g1.vw.cd,λH2 c' tab hc'=>?_⟩;have g2:=KP g1.vw tab;refine⟨l.old g2.old,F1 hk hM (I1.grow g2) r hc' hkz λks H3 Hv3 g3 ka=>?_⟩;have lk:kz.length=ds.length:=by
    have:∀(ds:List D) (kz:List (List Int)),Mi.jo ρ kf e ds=.ok kz->kz.length=ds.length:=λds=>by
     induction ds with
     |nil=>intro kz h;rw[Mi.jo]at h;cases h;rfl
     |cons d ds ih=>
      intro kz h;rw[Mi.jo]at h;cases h1:kf (Mi.lS ρ e d)with
      |no=>rw[h1]at h;cases h
      |ex z=>rw[h1]at h;cases h
      |ok kd=>
       rw[h1,Mi.aD]at h;cases h2:Mi.r9 kd with
       |no=>rw[h2]at h;cases h
       |ex z=>rw[h2]at h;cases h
       |ok z=>
        rw[h2,Mi.aD]at h;cases h3:Mi.jo ρ kf e ds with
        |no=>rw[h3]at h;cases h
        |ex y=>rw[h3]at h;cases h
        |ok zs=>rw[h3]at h;cases h;rw[dW,dW,ih zs h3]
    exact this ds kz hkz
   refine⟨kz,by omega,nd,ka,λp2 ys hp2 so=>?_⟩;obtain⟨pa,pm,sd,rfl⟩:=so;have e0:pa.toList=Mi.jG kz ds.length:=by rw[<- lk];exact OT nd (by rw[lk,lx];exact pm) (by rw[lk,lx];exact sd)
   have rr:P2 (Rep Hv3) (Mi.sortBy kz ds) (pa.toList.map λi=>xs.getD i .non):=by unfold Mi.sortBy;rw[<- e0];refine Fz (fe (g2.vis.trans g3.vis) r) _ λi hi=>?_;have:=(ur.mp pm.pm).mem_iff.mp hi;rw[lx];simpa using this
   obtain⟨g4,kk⟩:=GX g3.vw rr hp2;have gg:=g1.trans (g2.trans (g3.trans g4));exact hx _ _ _ gg (KM.mono (κ:=qN) (g1.old.trans (g2.old.trans g3.old)) kk)
  |_=>exact hx.elim)
end
end A
namespace L2
open PySem PySem.Spec PyProof.Rows A So
structure rY(K:aE)(x qual:Str)(st:bC)(c f:ah)(fd:bM):Prop where
 ex:∃(oc:ag) (od:Option ah) (kV doc pm:ag) (an:Option ah) (ct:ag) (osl:Array (Option ag)),
  fd=kD x qual (lO st) (jj st) (bH st) .none kV doc pm an (.ref c) ct/\K.lookup f=ab ⟨oc,od,.func fd,osl⟩/\rD K (.ref c) qual=true
section
variable{P:bg}{w:aY}{K:aE}{mg:Str->Option ag}{base:aI}
theorem rY.ok{x qual:Str}{st:bC}{c f:ah}{fd:bM}{N ps:List Str}{k:Nat}{sp:Sp}(F:rY K x qual st c f fd)(S:cY N ps (bH st))(len:∀vs H Q E,sp vs H Q E->vs.length=ps.length)
 (hbody:∀(A:bv) (outer:List Env) (s:ao) (H:Hp) (vs:List V) (Q:VK) (E:XK),dL k (A.deeper (envOfC qual (bH st) s.heap.objs.size f (.ref c)))->sp vs H Q E ->
  ∃t,gY (lM aL P w K mg base N qual (bH st) f (.ref c) A outer s H E).nB (jj st) t/\t { nx:=λ_ H'=>Q .non H',rt:=Q } (start N vs) H):bF P w K mg base aL (k+1) f fd ps sp:=by
 obtain⟨oc,od,kV,doc,pm,an,ct,osl,rfl,lk,hcd⟩:=F.ex;refine FC lk hcd S len λA outer s H vs Q E hr hsp=>?_;obtain⟨t,h,q⟩:=hbody A outer s H vs Q E hr hsp;exact⟨t,h.nB,q⟩
end
structure vL(K:aE)(mg:Str->Option ag)(x:Str)(st:bC)(ps:List Str)(c:ah):Prop where
 ex:∃(f:ah) (fd:bM),mg x=ab (.ref f)/\nS K (.ref f)=true/\Binds K fd ps []/\rY K x x st c f fd
theorem QR{K:aE}{h:aI}{mg:Str->Option ag}{x:Str}{st:bC}{ps:List Str}{f c:ah}{oc:ag}{od an:Option ah}{osl:Array (Option ag)}{kV doc pm ct:ag}(X:K.In h)(G:h.Ns mainGlobals mg)
 (hb:∀(kV doc pm:ag) (an:Option ah) (cdv ct:ag) (us:List ag),us.length=ps.length->bindArgs (kD x x (lO st) (jj st) (bH st) .none kV doc pm an cdv ct) ⟨us,[]⟩=pure (ps.zip us))
 (a:gf K mainGlobals x=ab (ab (.ref f))) (l:K.lookup f=ab ⟨oc,od,.func (kD x x (lO st) (jj st) (bH st) .none kV doc pm an (.ref c) ct),osl⟩)
 (cc:rD K (.ref c) x=true) (k:nS K (.ref f)=true):vL K mg x st ps c:=by
 have F:=E2 (st:=st) l cc k;exact⟨f,_,PySem.W.mg_of X G a,k,F.binds hb,⟨oc,od,kV,doc,pm,an,ct,osl,rfl,l,cc⟩⟩
theorem vL.cal{P:bg}{w:aY}{K:aE}{mg:Str->Option ag}{base:aI}{CX:gF}{k:Nat}{x:Str}{st:bC}{ps:List Str}{c:ah}{sp:Sp}(F:vL K mg x st ps c)(h:∀f fd,rY K x x st c f fd->bF P w K mg base CX k f fd ps sp) :
 b0 P w K mg base CX k x ps sp:=by
 obtain⟨f,fd,h1,h2,h3,h4⟩:=F.ex;exact⟨f,fd,h1,h2,h3,h f fd h4⟩
theorem q9.one{X:Cx}{x y:Str}{j:Nat}{sc:eY}{c:ah}(hn:sc.names=[(x,.local),(y,.free)])(hxy:(y==x)=false)(hk:sc.kind=.function)(co:sc.isCoroutine=false)(gen:sc.isGenerator=false)(hc:X.env.cells=[(y,c)])(hN:X.N[j]? = ab y)(hy:X.env.kindOf y=ab .cell) :
 q9 X x [j] [x,y] sc [(y,c)]:=by
 have hl:sc.names.lookup y=ab .free:=by rw[hn,mn,hxy];show mn y [(y,lu)]=_;rw[mn,i3]
 refine⟨hk,co,gen,λz hz=>?_,by rw[hn,mn,i3],λz d h=>by rw[hc];exact h,λz h=>?_,[y],rfl,rfl,λi k z h1 h2=>?_⟩
 ·rw[hn]at hz;rcases bA.mp hz with rfl|hz
  ·exactλq=>by cases q
  ·rw[ej.mp hz];exactλq=>by cases q
 ·rw[hn,mn]at h;split at h
  ·cases h
  ·rw[mn]at h;split at h
   ·rename_i q;exact⟨c,by rw[mn,q]⟩
   ·cases h
 ·cases i with
  |zero=>
   have e1:j=k:=by simpa using h1
   have e2:y=z:=by simpa using h2
   subst e1 e2;exact⟨hN,hl,.inl hy⟩
  |succ i=>simp at h1
section
variable[Tb:bE]
theorem PK{P:bg}{w:aY}{K:aE}{mg mb:Str->Option ag}{k:Nat}{fa a c T:ah}{q:Str}{fd:bM}{x:Str}{s₁:ao}{vs:List ag}{ns:List Int}(hTb:Tb.l=[(T,q)])
 (KX:K.In s₁.heap) (hns:s₁.heap.Ns mainGlobals mg) (hb:s₁.heap.Ns builtinsNs mb) (hbb:∀x:Str,x ≠ "__name__" -> mb x=bootBuiltins x) (hlim:s₁.heap.NoLimit) (hg:s₁.gens = #[])
 (ha:s₁.heap.get? a=ab { cls:=.type "list", data:=.seq vs.toArray }) (hi:gJ vs ns) (hl:ns.length<=63) (hr:dL k callerA)
 (hKa:K.lookup a=ae) (hKT:K.lookup T=ae) (C:jP s₁.heap c T) (hT:s₁.heap.get? T=ab (w5 #[])) (hB:BM mg s₁.heap)
 (F:∀base:aI,K.In base->base.Ns mainGlobals mg->BM mg base->jP base c T->bF P w K mg base aL k fa fd [x] tR) (hbind:∀(s:ao) (u:ag),nL s fd ⟨[u],[]⟩ [(x,u)]) :
 codeAny (model P w) callerA (.call (.ref fa) ⟨[.ref a],[]⟩) (λr s'=>r=.ok (.ret (.bool true))/\OldK s₁.heap s'.heap/\s'.os=s₁.os/\nW s'.gens) s₁:=by
 have rv:=GW hi;have lenV:=hi.length;have aT:a≠T:=λz=>by rw[z,hT]at ha;cases ha
 let H:Hp:=λb=>if b=a then ab (.frz { cls:=.type "list",data:=.seq vs.toArray } (.lst (ns.map V.int)))else if b=T then ab (.tbl q #[])else ae;have Ha:H a=ab (.frz { cls:=.type "list", data:=.seq vs.toArray } (.lst (ns.map V.int))):=aH rfl;have HT:H T=ab (.tbl q #[]):=by show(if T=a then _ else _)=_;rw[ay (cR aT),aH rfl]
 have Hn:∀b,b≠a->b≠T->H b=ae:=λb h1 h2=>by show(if b=a then _ else _)=_;rw[ay h1,ay h2]
 have Hd:∀{b u},H b=ab u->(b=a/\u=.frz { cls:=.type "list", data:=.seq vs.toArray } (.lst (ns.map V.int)))\/(b=T/\u=.tbl q #[]):=λ{b u} e=>by
  by_cases h1:b=a
  ·subst h1;rw[Ha]at e;cases e;exact .inl ⟨rfl,rfl⟩
  ·by_cases h2:b=T
   ·subst h2;rw[HT]at e;cases e;exact .inr ⟨rfl,rfl⟩
   ·rw[Hn b h1 h2]at e;cases e
 have hok:cX P w H s₁.heap:=λb u e=>by
  rcases Hd e with ⟨rfl,rfl⟩|⟨rfl,rfl⟩
  ·exact⟨ha,by rw[aQ,b9];omega,vs,_,rv,ha⟩
  ·exact hT
 have free:∀{b:ah} {o:Obj},s₁.heap.get? b=ab o->o.cls≠.type "list" -> o≠w5 #[]->H b=ae:=λ{b o} e h1 h2=>by
  refine Hn b (λz=>?_) λz=>?_
  ·rw[z,ha]at e;cases e;exact h1 rfl
  ·rw[z,hT]at e;cases e;exact h2 rfl
 have xE:∀{b:ah} {o:Obj},s₁.heap.get? b=ab o->H b=ae->(jW s₁.heap H).get? b=ab o:=λe n=>NO e n;have nsK:∀{b:ah} {m:Str->Option ag},s₁.heap.Ns b m->(jW s₁.heap H).Ns b m:=λ{b m} ⟨o,es,ep,e,d,r⟩=>⟨o,es,ep,xE e (Hn b (λz=>by rw[z,ha]at e;cases e;cases d) λz=>by rw[z,hT]at e;cases e;cases d),d,r⟩;have hKb:K.In (jW s₁.heap H):=λb o e=>xE (KX b o e) (Hn b (λz=>by rw[z,hKa]at e;cases e) λz=>by rw[z,hKT]at e;cases e);have hM:Mod K mg (jW s₁.heap H):=⟨hKb,nsK hns,⟨mb,nsK hb,hbb⟩,let ⟨mc,h1,h2⟩:=hlim;⟨mc,nsK h1,h2⟩⟩;have e0:uK P w K mg (jW s₁.heap H) callerA [] s₁ H:=⟨rfl,hM,λb o e=>NJ e,Nat.le_of_eq (Na _ _),trivial,λb hb=>absurd (show b∈([]:List ah)from hb) (by simp),hok,.of_eq hg⟩;have hB':BM mg (jW s₁.heap H):=by obtain⟨bm,bo,b1,b2,b3,b4,b5,b6,b7⟩:=hB;exact⟨bm,bo,b1,b2,b3,xE b4 (free b4 (by rw[b5];decide) (λz=>by rw[z]at b5;cases b5)),b5,b6,b7⟩
 have C':jP (jW s₁.heap H) c T:=by obtain⟨o,vs2,file,tf,flags,tg,inF,text,tt,e,h1,r⟩:=C;exact⟨o,vs2,file,tf,flags,tg,inF,text,tt,xE e (free e (by rw[h1];decide) (λz=>by rw[z]at h1;cases h1)),h1,r⟩
 have ck:iC H:=⟨λr hr=>by
  rw[hTb]at hr;obtain rfl:r=(T,q):=by simpa using hr
  exact⟨#[],HT⟩,λT2 q2 ps e=>by
  rcases Hd e with ⟨_,z⟩|⟨_,z⟩
  ·cases z
  ·cases z;exact⟨trivial,λpos v hv=>by cases hv⟩,λb o xs e=>by
  rcases Hd e with ⟨_,z⟩|⟨_,z⟩
  ·cases z;intro x hx;obtain⟨i,_,rfl⟩:=bu.mp hx;exact⟨i,rfl⟩
  ·cases z⟩
 refine codeAny_mono ((F _ hKb (nsK hns) hB' C').run callerA [] s₁ H ⟨[.ref a],[]⟩ [.ref a] [.ref a] (λv _=>v=.bl true) (λ_ _ _=>False) hr e0 (hbind s₁ (.ref a)) (.cons rfl .nil) ⟨a,ns,rfl,.inr ⟨_,Ha⟩,hl,ck,λ_=>rfl⟩) λr s' h=>?_;cases r with
 |error e=>exact h.elim
 |ok fl=>
  cases fl with
  |next=>exact lw h
  |brk=>exact lw h
  |cont=>exact lw h
  |ret u=>
   obtain⟨v,H',os,bare,un,hok',r',q'⟩:=h;have q':v=.bl true:=q';subst q';obtain rfl:u=jw true:=r';have old:∀b o,s₁.heap.get? b=ab o->asItWas s₁.heap s'.heap b o:=λb o e=>by
    by_cases h1:b=a
    ·subst h1;have z2:=un.lz b _ _ Ha;obtain⟨e2,_⟩:=hok' b _ z2;rw[ha]at e;cases e;exact .inl e2
    ·by_cases h2:b=T
     ·subst h2;obtain⟨more,z2⟩:=un.lA b _ _ HT;have e2:s'.heap.get? b=ab (w5 (#[]++more)):=hok' b _ z2;rw[hT]at e;cases e;obtain⟨oc,vs2,_,_,_,_,_,_,_,f1,f2,f3,f4,_⟩:=C;exact .inr (.inl ⟨⟨c,oc,vs2,f1,f2,f3,f4⟩,rfl,#[],more,rfl,e2⟩)
     ·exact .inl (un.keep b o e (Hn b h1 h2) (by intro z;exact absurd (show b∈([]:List ah)from z) (by simp)) (by simp))
   exact⟨rfl,⟨old,λb o e=>un.there b o e (by simp)⟩,os,bare⟩
theorem MN{l:Bk}{k:Nat}{q:bg}{loose:List Str}{XP:(Str->Option ag)->aI->Prop}{YP:aY->aI->Prop}{d:DefRec}{K:Params->aE}{x dn:Str}{c T:ah}{qn:Str}(hTb:Tb.l=[(T,qn)])
 (hn:l.most=ab 63) (hdf:d.params.defaults=[]) (hr:dL k callerA)
 (hY:∀(w:aY) (h:aI),YP w h->(K w.params).In h) (hL:∀w:aY,∀a o,(K w.params).lookup a=ab o->o.cls≠.type "list") (hK:∀w:aY,(K w.params).lookup T=ae)
 (hrec:∃d,(recsOf q).find? (λe=>e.name==dn)=ab d) (htab:∀w:aY,PySem.W.tabIn (K w.params) dn=ab (c,T))
 (F:∀(w:aY) (mg:Str->Option ag) (fa:ah) (h:aI),(K w.params).In h->h.Ns mainGlobals mg->mg d.name=ab (.ref fa) ->
  ∃fd:bM,(∀(s:ao) (u:ag),nL s fd ⟨[u],[]⟩ [(x,u)]) /\
   ∀base:aI,(K w.params).In base->base.Ns mainGlobals mg->BM mg base->jP base c T->bF l.prog w (K w.params) mg base aL k fa fd [x] tR) :
 PySem.W.WalkO q loose XP YP l.row.toRowW d [] (λf vs=>AU f vs):=by
 refine Att.PV hn hdf λw s₀ s₁ mg mb fa o pm cd doc a vs ns G Y ho hd hcd hmg hobj hints hlen hg=>?_;have KX:=hY w _ Y;obtain⟨fd,hb,hF⟩:=F w mg fa _ KX G.T.g hmg;obtain⟨dd,hdd⟩:=hrec;obtain⟨C,hT⟩:=PySem.W.tab_of G.T KX hdd (htab w);have hB:BM mg s₁.heap:=by obtain⟨bm,ob,b1,b2,b3,b4,b5,b6⟩:=G.T.bmain;refine⟨bm,ob,b1,b2,λz=>?_,b3,b4,b5,b6⟩;obtain⟨o2,es,ep,e,d2,_⟩:=G.T.g;rw[z,e]at b3;cases b3;rw[d2]at b6;cases b6
 have hKa:(K w.params).lookup a=ae:=by
  cases z:(K w.params).lookup a with
  |none=>rfl
  |some o2=>
   have e:=KX a o2 z;rw[hobj]at e;cases e;exact absurd rfl (hL w a _ z)
 exact PK hTb KX G.T.g G.T.b G.T.builtins G.T.nolimit hg hobj hints hlen hr hKa (hK w) C hT hB hF hb
end
end L2
namespace A
open PySem L2 PyProof.Rows So
open Mi (D W Rs Fin au Out Tg)
variable[Tb:bE]
section
variable{K:aE}{M:Nat->Bool}{ta tb:TE}{a b:Mi.E}
def Eo:V->List V->Hp->VK->Prop:=λx xs H Q=>∃(p:ah) (ys:List Str) (z:Str),x=.ref p/\xs=[.str z]/\z∈ys/\H p=ab (.tup (ys.map V.str))/\Q (.int (ys.idxOf z:Nat)) H
def CI:V->List V->Hp->VK->Prop:=λx xs H Q=>∃(p:ah) (ys:List Str) (z:Str),x=.ref p/\xs=[.str z]/\z∈ys/\ys.length<=1000/\Lst H p (ys.map V.str)/\Q (.int (ys.idxOf z:Nat)) H
theorem xV{X:Cx}:k3 X "tuple.index" Eo:=LF
theorem zc{X:Cx}:k3 X "list.index" CI:=Pz
theorem yk(ha:AE M qP ta a)(hb:AE M qP tb b):AE M qV (CT K "list" Eo CI ta (fu tb f6)) (Mi.m2 Mi.i5 a b):=λe σ H Hv Q I h=>
 ha e σ H Hv _ I ((au.mp h).mono λx hx v H1 Hv1 g1 rx=>by
  obtain⟨y,hy,hk⟩:=j6 (au.mp hx);cases y with
  |str z=>
   obtain⟨ys,ey,q1⟩:=gC (au.mp hk);obtain⟨⟨hz,hl⟩,q2⟩:=Mi.cr q1;have q3:=Mi.kR q2;clear hk q1 q2 hx;cases x with
   |tup ds=>
    obtain⟨p,us,rfl,l,_,r⟩:=RD.tup g1.vw rx;have:=wc ey r;subst this;refine .inl ⟨⟨p,_,rfl,l⟩,hb e σ H1 Hv1 _ (I.grow g1) ?_⟩;rw[hy];intro v2 H2 Hv2 g2 ry;cases RD.str ry;exact⟨p,ys,z,rfl,rfl,hz,g2.old.at l,q3 _ _ _ (g1.trans g2) ig⟩
   |lst ds=>
    obtain⟨p,us,rfl,l,r⟩:=RD.lst g1.vw rx;have:=wc ey r;subst this;refine .inr ⟨.inl ⟨rfl,_,l.sq⟩,hb e σ H1 Hv1 _ (I.grow g1) ?_⟩;rw[hy];intro v2 H2 Hv2 g2 ry;cases RD.str ry;exact⟨p,ys,z,rfl,rfl,hz,hl,l.old g2.old,q3 _ _ _ (g1.trans g2) ig⟩
   |_=>cases ey
  |_=>exact hk.elim)
end
end A
namespace Mi
end Mi
namespace A
open PySem L2 PyProof.Rows So
open Mi (D W Rs Fin au Out Tg)
variable[Tb:bE]
section
variable{K:aE}{M:Nat->Bool}{t:TE}{m:Mi.E}{w:Mi.EW}
theorem Qx(y:Nat)(hy:M y=true)(ha:AW (λj=>M j && !(j==y)) qN t w):AS M qN (pA t) (Mi.bB w):=λH0 Hv0 e σ H Hv D I h=>by
 have nb:∀{j:Nat},(M j && !(j==y))=false->M j=false\/j=y:=λ{j} z=>by
  cases q:M j with
  |false=>exact .inl rfl
  |true=>rw[q]at z;exact .inr (by simpa using z)
 have nt:∀{j:Nat},(M j && !(j==y))=true->M j=true/\j≠y:=λ{j} z=>by simpa using z
 have fin:∀Hv',bb H0 Hv0 H Hv'->R0 (λj=>M j && !(j==y)) e σ H Hv'->pA t D σ H:=λHv' gw R=>
  ha e σ H Hv' _ R ((au.mp h).mono λd hd v H1 Hv1 g1 r=>hd v H1 Hv1 (gw.trans g1) (KM.mono (κ:=qN) gw.old r))
 have other:(∀w0,e[y]?≠ab (ab w0))->pA t D σ H:=λae=>fin Hv I.gw ⟨I.vw,I.len,λj w' z q=>by
  rcases nb q with q|rfl
  ·exact I.nob j w' z q
  ·exact absurd z (ae w'),λj w' z q=>I.own j w' z (nt q).1⟩
 cases he:e[y]? with
 |none=>exact other λw0 z=>by rw[he]at z;cases z
 |some ow=>
  cases ow with
  |none=>exact other λw0 z=>by rw[he]at z;cases z
  |some w0=>
   obtain⟨p,Hv',q,I',s,r⟩:=I.M5 hy he;refine fin Hv' I'.gw ⟨I'.vw,I.len,λj w' z q2=>?_,λj w' z q2=>?_⟩
   ·by_cases hj:j=y
    ·subst hj;rw[he]at z;cases z;exact⟨_,q,r⟩
    ·exact I'.nob j w' (by rw[fi (cR hj)];exact z) ((nb q2).resolve_right hj)
   ·obtain⟨m1,hj⟩:=nt q2;exact I'.own j w' (by rw[fi (cR hj)];exact z) m1
end
end A
namespace L2
end L2
namespace L2
end L2
namespace L2
end L2
namespace Mi
open PySem
def oK{α:Type}(r:Rs α)(k:α->Prop)(x:mM->Prop):Prop:=match r with
 |.ok a=>k a
 |.ex z=>x z
 |.no=>False
theorem vE{α β:Type}{r:Rs α}{f:α->Rs β}{k:β->Prop}{x:mM->Prop}:oK (r.bind f) k x↔oK r (λa=>oK (f a) k x) x:=by cases r<;>exact Iff.rfl
end Mi
namespace A
open PySem L2 PyProof.Rows So
open Mi (D W Rs Fin oK au vE Out Tg mM)
variable[Tb:bE]
end A
namespace L2
end L2
namespace L2
end L2
namespace L2
open PySem PySem.Spec PyProof.Rows
end L2
namespace Mi
open PySem
end Mi
namespace A
open PySem L2 PyProof.Rows So
open Mi (D W Rs Fin oK au vE Out Tg mM)
variable[Tb:bE]
end A
namespace PySem.W
end PySem.W
namespace L2
open PySem PySem.Spec PyProof.Rows
open A (ET)
end L2
namespace Mi
open PySem
end Mi
namespace A
open PySem L2 PyProof.Rows So
open Mi (D W Rs Fin oK au vE Out Tg mM)
variable[Tb:bE]
end A
namespace Mi
open PySem
end Mi
namespace L2
open PySem PySem.Spec PyProof.Rows
end L2
namespace A
open PySem L2 PyProof.Rows So
open Mi (D W Rs Fin au)
variable[Tb:bE]
end A
namespace Mi
end Mi
namespace A
open PySem L2 PyProof.Rows So
open Mi (D W Rs Fin au Out Tg)
variable[Tb:bE]
end A
namespace Mi
open PySem
end Mi
namespace L2
open PySem PySem.Spec PyProof.Rows
end L2
namespace A
open PySem L2 PyProof.Rows So
open Mi (D W Rs Fin au)
variable[Tb:bE]
end A
namespace Mi
open PySem
end Mi
namespace A
open PySem L2 PyProof.Rows So
open Mi (D W Rs Fin oK au vE Out Tg mM)
variable[Tb:bE]
end A
namespace L2
open PySem PySem.Spec PyProof.Rows
end L2
namespace Mi
open PySem
end Mi
namespace A
open PySem L2 PyProof.Rows So
open Mi (D W Rs Fin au Out Tg)
variable[Tb:bE]
end A
namespace Mi
open PySem
def uU(x:D)(lo hi:Option Int):Rs D:=match x,lo,hi with
 |.tup ds,ab a,ae=>a9 (0<=a/\a<=(ds.length:Int)/\ds.length<=16777216) (.ok (.tup (ds.drop a.toNat)))
 |.tup ds,ae,ab b=>a9 (0<=b/\b<=(ds.length:Int)/\ds.length<=16777216) (.ok (.tup (ds.take b.toNat)))
 |_,_,_=>.no
end Mi
namespace L2
open PySem PySem.Spec PyProof.Rows
section
variable{pr:bg}{wo:aY}{Ar:bv}{Ex:ag->ao->Prop}{z:ao}
theorem Ku{sl:ah}{b n:Nat}{u:Tok}{R:Int×Int×Nat->ao->Prop}(hs:z.heap.IsSliceOf sl .none (.int b u) .none)(hb:b<=n)(h:R (((0:Nat):Int),1,b) z) :
 wpAny (model pr wo) Ar (BJ (.ref sl) (pure (n:Int))) R Ex z:=by
 obtain⟨o,ho,hc,hd⟩:=id hs;unfold BJ Builtin.Slice.sliceFields;refine ak (ak (f9 ho hd (x:=.none) rfl (ak (f9 ho hd (x:=.int b u) rfl (ak (f9 ho hd (x:=.none) rfl (ax ?_)))))));refine ak (slicePart_none ?_);show wpAny _ _ (if((1:Int)==0)=true then _ else _) _ _ z;rw[ay (show¬ ((1:Int)==0)=true by decide)];refine ak (slicePart_none (ak (slicePart_int (ak (ax ?_)))));have e1:BK ae (ab (b:Int)) 1 (n:Int)=((0:Int),(b:Int)):=by
  unfold BK;have a1:¬ ((1:Int)<0):=by omega
  have a2:¬ ((b:Int)<0):=by omega
  simp only[a1,a2,eJ]
  congr 1
  omega
 have e2:xw (0:Int) (b:Int) 1=b:=by unfold xw;simp only[show(1:Int)>0 by omega,gU,Int.ediv_one];split<;>omega
 show wpAny _ _ (match BK ae (ab (b:Int)) 1 (n:Int)with|(p,q)=>pure (p,(1:Int),xw p q 1)) _ _ z;rw[e1];show wpAny _ _ (pure ((0:Int),(1:Int),xw (0:Int) (b:Int) 1)) _ _ z;rw[e2];exact ax h
theorem MA{t sl:ah}{zs:Array ag}{lo k:Nat}{vl vu:ag}{Q:ag->ao->Prop}(ht:IsTup z.heap t zs)(hs:z.heap.IsSliceOf sl vl vu .none)(hk:lo+k<=zs.size)
 (ap:∀(B:bv) (F:ag->ao->Prop) (R:Int×Int×Nat->ao->Prop),R ((lo:Int),1,k) z->wpAny (model pr wo) B (BJ (.ref sl) (pure (zs.size:Int))) R F z)
 (h1:lo=0->k=zs.size->Q (.ref t) z) (h2:¬ (lo=0/\k=zs.size)->Q (.ref z.heap.objs.size) { z with heap:=z.heap.push { cls:=.type "tuple", data:=.seq ((zs.toList.drop lo).take k).toArray } }) (hz:zs.size<=sizeLine) :
 wpAny (model pr wo) Ar (getItem (.ref t) (.ref sl)) Q Ex z:=by
 have big:sizeOk (.seq ((zs.toList.drop lo).take k).toArray):=by show((zs.toList.drop lo).take k).toArray.size<=sizeLine;rw[bK,ju,gc,nX];omega
 obtain⟨o,ho,hc,hd⟩:=id hs;have ty:z.TypeIs (.ref sl) "slice" := ⟨o,ho,hc⟩;unfold getItem
 try with_reducible refine pI ?_
 first|refine ak (ax ?_)|skip
 refine ak (wpAny_sequenceKey ht.typeIs (by decide) ?_);refine ak (jM (name:=gm "__getitem__") ht.typeIs pO (gG pO ht.typeIs entry_tuple_getitem ?_ (args_tuple_getitem _ _)));show wpAny _ _ (JC (.ref t) >>= _) _ _ z;refine ak (tupleItemsOf_ ht (ak (wJ ty ?_)));rw[aH (by decide)];refine ak (ap _ _ _ ?_);show wpAny _ _ (if((lo:Int)==0&&(1:Int)==1&&k==zs.size)=true then _ else _) _ _ z;by_cases w:lo=0/\k=zs.size
 ·rw[aH (by simp[w.1,w.2])];refine ak (ak (wJ ht.typeIs (ax ?_)));rw[aH (by decide)];refine ak (pJ ?_)
  first
   |exact ak (ax (ax ⟨_,rfl,ax (h1 w.1 w.2)⟩))
   |exact ax ⟨_,rfl,ax (h1 w.1 w.2)⟩
 ·have no:¬ (((lo:Int)==0&&(1:Int)==1&&k==zs.size)=true):=λy=>by
   simp only[g6,kQ]at y;exact w ⟨by omega,y.2⟩
  rw[ay no];have e:((bw k).filterMap λ(j:Nat)=>zs[((lo:Int)+(j:Int)*1).toNat]?)=(zs.toList.drop lo).take k:=by
   have f:(λ(j:Nat)=>zs[((lo:Int)+(j:Int)*1).toNat]?)=λj=>zs[lo+j]?:=by funext j;rw[show((lo:Int)+(j:Int)*1).toNat=lo+j by omega]
   have g:=pick_run zs lo k;rw[List.filterMap_map]at g;rw[f];exact g
  rw[e];have h2:=h2 w
  first
   |exact ak (m:=rH _) (gz (ax ⟨_,rfl,ax h2⟩) big)
   |exact ak (m:=rH _) (gz (ak (ax (ax ⟨_,rfl,ax h2⟩))) big)
   |exact ak (ak (m:=rH _) (gz (ax (ax ⟨_,rfl,ax h2⟩)) big))
   |exact ak (ak (m:=rH _) (gz (ax ⟨_,rfl,ax h2⟩) big))
end
end L2
namespace A
open PySem L2 PyProof.Rows
open Mi (D W Rs Fin au)
variable[Tb:bE]
section
variable{X:Cx}{K:aE}
def Ey(K:aE):V->Option Int->Option Int->Hp->VK->Prop:=λx lo hi H Q=>∃p xs i k,x=.ref p/\fw K H p xs/\xs.length<=sizeLine/\i+k<=xs.length/\((lo=ab (i:Int)/\hi=ae/\i+k=xs.length)\/(lo=ae/\hi=ab (k:Int)/\i=0)) /\
 (i=0->k=xs.length->Q (.ref p) H)/\∀q,H q=ae->Q (.ref q) (upd H q (.tup ((xs.drop i).take k)))
theorem NS:kl X (Ey X.K):=by
 intro af s σ H x v vl vu lo hi sl Q I rx hs pl pu h;obtain⟨p,xs,i,k,rfl,hx,hz,hk,hc,q1,q2⟩:=h;cases rx;obtain⟨aj,r,ht,_⟩:=I.tuple hx;have hl:=r.length;refine⟨"tuple", _,pO.lookup,ht.typeIs,?_⟩;have q2:=q2 _ (I.hok.fresh (ba _));have sz:aj.toArray.size=xs.length:=by rw[bK];omega
 refine MA (zs:=aj.toArray) (lo:=i) (k:=k) ht hs (by rw[sz];exact hk) (λB F R hr=>?_) (λe1 e2=>⟨.ref p,H,I,rfl,q1 e1 (by rw[e2,sz])⟩) (λ_=>?_) (by rw[sz];exact hz)
 ·rcases hc with ⟨rfl,rfl,e⟩|⟨rfl,rfl,e⟩
  ·cases pl with
   |int _ t=>
   cases pu;rw[sz];refine sliceApplied_from hs (by omega) ?_;rw[show xs.length-i=k by omega];exact hr
  ·cases pu with
   |int _ t=>
   cases pl;subst e;rw[sz];exact Ku hs (by omega) hr
 ·rw[show aj.toArray.toList=aj from rfl];exact⟨.ref s.heap.objs.size,_,I.laid (t':=s.toks) (o:=.tup ((xs.drop i).take k)) (λb ob q=>bD _ q) (ba _) ⟨by rw[ju,gc];omega,_,(r.drop i).take k,⟨_,bS _ rfl,rfl,rfl,0,rfl⟩⟩,rfl,q2⟩
theorem K4:BS qV (Ey K) Mi.uU:=λx lo hi v H Hv Q vw rx h=>by
 cases x with
 |tup ds=>
  obtain⟨p,xs,rfl,l1,v1,r1⟩:=RD.tup vw rx;have hl:=r1.len;cases lo with
  | some a=>cases hi with
   |some c=>exact h.elim
   |none=>
    obtain⟨⟨z1,z2,z3⟩,h⟩:=Mi.cr h;obtain⟨i,rfl⟩ : ∃i:Nat,a=i:=⟨a.toNat,by omega⟩;rw[fR]at h;refine⟨p,xs,i,xs.length-i,rfl,.inl (.inl l1),by rw[<- hl,b9];exact z3,by omega,.inl ⟨rfl,rfl,by omega⟩,λe1 _=>?_,λc hc=>?_⟩
    ·subst e1;exact h _ H Hv (.refl vw) (js.mpr ⟨p,xs,rfl,v1,r1⟩)
    ·obtain⟨g,k⟩:=ot vw (r1.drop i) hc;rw[pL (by rw[gc];exact ba _)];exact h _ _ _ g k
  | none=>cases hi with
   |none=>exact h.elim
   |some c=>
    obtain⟨⟨z1,z2,z3⟩,h⟩:=Mi.cr h;obtain⟨k,rfl⟩ : ∃k:Nat,c=k:=⟨c.toNat,by omega⟩;rw[fR]at h;refine⟨p,xs,0,k,rfl,.inl (.inl l1),by rw[<- hl,b9];exact z3,by omega,.inr ⟨rfl,rfl,rfl⟩,λ_ e2=>?_,λc hc=>?_⟩
    ·have h:=h (.ref p) H Hv (.refl vw);rw[pL (by omega)]at h;exact h (js.mpr ⟨p,xs,rfl,v1,r1⟩)
    ·obtain⟨g,kk⟩:=ot vw (r1.take k) hc;rw[uc];exact h _ _ _ g kk
 |_=>exact h.elim
end
end A
namespace Mi
open PySem
end Mi
namespace L2
open PySem PySem.Spec PyProof.Rows
end L2
namespace A
open PySem L2 PyProof.Rows
open Mi (D W Rs Fin au)
variable[Tb:bE]
end A
namespace Mi
open PySem
end Mi
namespace A
open PySem L2 PyProof.Rows So
open Mi (D W Rs Fin au Out Tg)
variable[Tb:bE]
end A
namespace L2
open PySem PySem.Spec PyProof.Rows
def fP(h:aI)(d:ah)(es:Array nH)(ep:Nat):Prop:=∃o,h.get? d=ab o/\o.ExactDict/\o.data=.dict es ep
theorem fP.ty{s:ao}{d:ah}{es:Array nH}{ep:Nat}(x:fP s.heap d es ep):s.TypeIs (.ref d) "dict" := let ⟨o,e,c,_⟩:=x;⟨o,e,c.1⟩
theorem fP.lt{h:aI}{d:ah}{es:Array nH}{ep:Nat}(x:fP h d es ep):d<h.objs.size:=let ⟨_,e,_⟩:=x;bR e
theorem fP.go{h h':aI}{d:ah}{es:Array nH}{ep:Nat}(x:fP h d es ep)(k:∀o,h.get? d=ab o->h'.get? d=ab o):fP h' d es ep:=let ⟨o,e,r⟩:=x;⟨o,k o e,r⟩
section
variable{P:bg}{w:aY}{A:bv}{E:ag->ao->Prop}{s:ao}{d it:ah}{es:Array nH}{ep i:Nat}
theorem N1{Q:ag->ao->Prop}(nd:(d==sysModules)=false)(x:fP s.heap d es ep)
 (q:Q (.ref s.heap.objs.size) { s with heap:=s.heap.push { cls:=.type "dict_keyiterator", data:=.fields #[.ref d,.int 0 0,.int es.size 0,.int ep 0] } }):wpAny (model P w) A (pyIter (.ref d)) Q E s:=by
 obtain⟨o,e,c,dt⟩:=id x;have ty:=x.ty;refine AN ty F.slot_dict_iter (gG F.slot_dict_iter ty F.entry_dict_iter ?_ (F.args_dict_iter_1 _));unfold eX.«dict.__iter__» Builtin.Dict.dictSlotNone;refine ak (ak (wpAny_notOrdered_dict ty ?_));show wpAny _ _ (pure (b8 d)) _ _ s;refine ax ?_;show wpAny _ _ (xz d >>= _) _ _ s;unfold xz;rw[ay (by rw[nd];exact cy)];refine ak (ax (ak (pE e dt (ak (rn e dt ?_)))));refine ak (gz (ax ⟨_,rfl, "dict_keyiterator", _,⟨_,bS _ rfl,rfl⟩,ul.lookup,?_⟩));simpa [rawInt]using q
theorem M4{Q:Option ag->ao->Prop}(hI:s.heap.IsKeyIter it d i es.size ep)(x:fP s.heap d es ep)(lt:i<es.size)
 (q:∀h',h'.IsKeyIter it d (i+1) es.size ep->mo it s.heap h'->Q (ab es[i].key) { s with heap:=h' }):wpAny (model P w) A (pyNext (.ref it)) Q E s:=by
 obtain⟨oi,ei,ci,di⟩:=id hI;obtain⟨o,e,c,dt⟩:=id x;unfold pyNext;refine ak (kn (jM (name:=gm "__next__") hI.typeIs ul (gG ul hI.typeIs Jj ?_ (Jf _))));refine ak (ax (ak (ak ?_)))
 first|refine ak (wx hI.typeIs (ax ?_))|refine ak (wz hI.typeIs (ax ?_))
 refine ak (wH ei di ?_);simp only[show ut "dict_keyiterator" = false by decide,lj,eJ];show wpAny _ _ (if(b8 d==eE)=true then _ else _) _ _ s;rw[ay (by exact cy)];refine ak (ax (ak (pE e dt ?_)));rw[ay (by simp)];refine ak (ax (ak (rn e dt ?_)));rw[ay (by simp)];refine ax ?_;simp only[show¬ ((i:Int)<0)from by omega,eJ,fR,pT lt];refine ak ?_
 first|refine ak (wx hI.typeIs (ax ?_))|refine ak (wz hI.typeIs (ax ?_))
 refine ak (wpAny_isOneOf_keyiter hI.typeIs ?_);show wpAny _ _ (setField (.ref it) 1 (rawInt ((i:Int)+1)) >>= _) _ _ s;refine ak (ma ei di (by simp) ?_);have hJ:(s.heap.update it (pR (·.setIfInBounds 1 (rawInt ((i:Int)+1))))).IsKeyIter it d (i+1) es.size ep:=
  ⟨_,nU _ ei (uq (ln di _)),(xp ..).trans ci,by rw[ln di];simp[rawInt]⟩
 refine ak (pI (ak (wpAny_isOneOf_keyiter (s:={ s with heap:=s.heap.update it (pR (·.setIfInBounds 1 (rawInt ((i:Int)+1)))) }) hJ.typeIs ?_)));show wpAny _ _ (pure es[i].key) _ _ _;exact ax (ax ⟨_,rfl,ax (q _ hJ (iV ..))⟩)
theorem Lq{Q:Option ag->ao->Prop}(hh:A.handled=ae)(hI:s.heap.IsKeyIter it d i es.size ep)(x:fP s.heap d es ep)(ge:es.size<=i)
 (q:∀h',ug it s.heap h'->Q ae { s with heap:=h' }):wpAny (model P w) A (pyNext (.ref it)) Q E s:=by
 obtain⟨oi,ei,ci,di⟩:=id hI;obtain⟨o,e,c,dt⟩:=id x;unfold pyNext;refine ak (kn (jM (name:=gm "__next__") hI.typeIs ul (gG ul hI.typeIs Jj ?_ (Jf _))));refine ak (ax (ak (ak ?_)))
 first|refine ak (wx hI.typeIs (ax ?_))|refine ak (wz hI.typeIs (ax ?_))
 refine ak (wH ei di ?_);simp only[show ut "dict_keyiterator" = false by decide,lj,eJ];show wpAny _ _ (if(b8 d==eE)=true then _ else _) _ _ s;rw[ay (by exact cy)];refine ak (ax (ak (pE e dt ?_)));rw[ay (by simp)];refine ak (ax (ak (rn e dt ?_)));rw[ay (by simp)];refine ax ?_;simp only[show¬ ((i:Int)<0)from by omega,eJ,fR,BG ge];refine ak ?_
 first|refine ak (wx hI.typeIs (ax ?_))|refine ak (wz hI.typeIs (ax ?_))
 show wpAny _ _ (setField (.ref it) 0 .none >>= _) _ _ s;refine ak (ma ei di (by simp) ?_);show wpAny _ _ (newExc (.type "StopIteration") [] >>= _) _ _ _;refine ak ?_;simp only[newExc,newTuple];refine ak (gz ?_ (by size_fits));refine ak (m:=firstArgMember _ _) (iG (a:=eE) (by first|rfl|(simp only[firstArgMember];rfl)) (gz ?_ (by size_fits)));simp only[raiseNew];refine ak (wI ?_);rw[show A.in1.handled=ae from hh];refine ak (ax (wK ?_));exact ak (nE (b:=true) (T := "StopIteration") ⟨_,bS _ rfl,rfl⟩ wG (ax (q _ (((iV ..).extBut.push _).push _))))
end
end L2
namespace So
def gv:List Int->List Int->Bool
 |[],_=>true
 |_::_,[]=>false
 |a::r,b::t=>if a==b then gv r t else decide (a<=b)
end So
namespace Mi
open PySem
def qu:Ky->D
 |.inl i=>.bl i
 |.inr x=>.str x
def QY:W->Rs W
 |.dt am=>.ok (.df am)
 |_=>.no
def oY(m:EW):EW:=λe=>(m e).bind QY
def iQ(i:Nat):I:=λe=>(wV i e).bind λw=>match w with
 |.df am=>.ok (am.map λkv=>.tup (kv.1.map qu))
 |_=>.no
def ph(i:Nat):E:=λe=>(wV i e).bind λw=>match w with
 |.dt am=>.ok (.int am.length)
 |.df am=>.ok (.int am.length)
 |_=>.no
def HY(i:Nat):E:=λe=>(wV i e).bind λw=>match w with
 |.dt am=>.ok (.lst (am.map (·.2)))
 |_=>.no
def Fj:W->Rs D
 |.d (.lst ds)=>a9 (j4 ds=true) (.ok (.lst ds))
 |_=>.no
def sx(f:Fn)(as:List EW):E:=λe=>(iB f as e).bind Fj
def nk:D->Rs D
 |.tup ds=>a9 (ds.length<=1000) (.ok (.tup ds.reverse))
 |_=>.no
def qi:D->D->Rs D
 |.int i,.int j=>.ok (.bl (decide (i<=j)))
 |.lst a,.lst b=>(cG (gQ a)).bind λxs=>(cG (gQ b)).bind λys=>.ok (.bl (So.gv xs ys))
 |_,_=>.no
end Mi
namespace L2
open PySem PySem.Spec PyProof.Rows
theorem Inv.N4{X:Cx}{af:List (ah×Obj)}{σ:St}{H:Hp}{s:ao}{a:ah}{kv:List (List Key×V)}(I:Inv X af σ H s)(h:H a=ab (.dT kv)):∃ob,Inv X af σ (upd H a (.frz ob (.dT kv))) s:=by
 obtain⟨z1,z2,xs,r,ob,es,ep,e,c⟩:=(show bQ X.prog X.w H s.heap a (.dT kv)from I.hok a _ h);have ne:∀b u,H b=ab u->u≠.dT kv->b≠a:=λb u q n z=>by subst z;rw[h]at q;exact n (gi q).symm
 have st:∀b u,bQ X.prog X.w H s.heap b u->bQ X.prog X.w (upd H a (.frz ob (.dT kv))) s.heap b u:=λb u q=>
  q.stay (λ_ _ _ q=>q) (λc q=>by rw[aC (ne c _ q (by simp))];exact q) λc xs q=>by rw[aC (ne c _ q (by simp))];exact q
 refine⟨ob,I.un (t':=s.toks) ⟨λb o q _ _ _=>q,λb o q _ _ _=>⟨o.slots,q⟩,λb o q n _=>by rw[aC (λz=>by subst z;rw[h]at n;cases n)];exact n,λb o q _=>⟨o,q⟩,
  λb xs q=>by rw[aC (ne b _ q (by simp))];exact q,λb o u q=>by rw[aC (ne b _ q (by simp))];exact q,λb w ps q=>⟨#[],by rw[aC (ne b _ q (by simp)),q];simp⟩⟩ λb u q=>?_⟩
 by_cases hb:b=a
 ·subst hb;rw[bj]at q;cases q;exact⟨e,st b _ (I.hok b _ h)⟩
 ·rw[aC hb]at q;exact st b u (I.hok b u q)
def Em(te:TE):TE:=λσ H Q=>te σ H λv H1=>∃a kv,v=.ref a/\H1 a=ab (.dT kv)/\∀ob,Q v (upd H1 a (.frz ob (.dT kv)))
theorem yF{X:Cx}{e:aR}{te:TE}(h:PE X e te):PE X e (Em te):=λaf s σ H Q I q=>
 aS (h af s σ H _ I q) λv s1 ⟨x,H1,I1,r1,a,kv,e,q1,q2⟩=>by
  obtain⟨ob,I2⟩:=I1.N4 q1;exact⟨x,_,I2,r1,q2 ob⟩
def yq(a:ah)(ob:Obj)(kv:List (List Key×V)):It:=⟨λi H=>H a=ab (.frz ob (.dT kv))/\i<kv.length,λi H x H'=>H'=H/\∃b k v,kv[i]? = ab (k,v)/\x=.ref b/\H b=ab (.tup (k.map kV)),λi H=>H a=ab (.frz ob (.dT kv))/\kv.length<=i⟩
theorem AB{α β:Type}{F:α->β->Prop}:∀{l:List α} {m:List β} {i:Nat} {x:α},nK F l m->l[i]? = ab x->∃y,m[i]? = ab y/\F x y
 |_,_,_,_,.nil,e=>by simp at e
 |_,_,0,_,.cons r _,e=>by simp at e;subst e;exact⟨_,rfl,r⟩
 |_,_,i+1,x,.cons _ t,e=>by
  obtain⟨u,h1,h2⟩:=AB (i:=i) (x:=x) t (by simpa using e);exact⟨u,by simpa using h1,h2⟩
theorem yu{X:Cx}{af:List (ah×Obj)}{σ:St}{H:Hp}{s:ao}{a:ah}{ob:Obj}{kv:List (List Key×V)}(I:Inv X af σ H s)(q:H a=ab (.frz ob (.dT kv))) :
 (a==sysModules)=false/\kv.length<=sizeLine/\∃es ep,ob.data=.dict es ep/\fP s.heap a es ep/\es.size=kv.length/\∀i k v,kv[i]? = ab (k,v)->∃(lt:i<es.size) (b:ah),es[i].key=.ref b/\H b=ab (.tup (k.map kV))/\RelV v es[i].val:=by
 obtain⟨e,z1,z2,xs,r,ob',es,ep,e',c1,c2,c3,c4⟩:=(show bQ X.prog X.w H s.heap a (.frz ob (.dT kv))from I.hok a _ q);rw[e]at e';cases e';have hl:es.size=xs.length:=size_of_entries c3;have hl2:kv.length=xs.length:=rJ r;refine⟨z2,z1,es,ep,c2,⟨ob,e,c1,c2⟩,by omega,λi k v hk=>?_⟩;obtain⟨x,hx,h1,h2,h3⟩:=AB r hk;have lt:i<es.size:=by rw[hl];exact(cu.mp hx).1
 have he:=entry_at c3 i;rw[hx,Ju,pT lt]at he;have he:=gi he;refine⟨lt,x.2.1,by rw[he];rfl,h2,by rw[he];exact h3⟩
theorem LN{P:bg}{w:aY}{K:aE}{tg:aR}(a it:ah)(ob:Obj)(es:Array nH)(ep:Nat)(kv:List (List Key×V))(hd:ob.data=.dict es ep) :
 Turn P w K tg (yq a ob kv) [it] it (λi h=>h.IsKeyIter it a i es.size ep) where
 mem:=ej.mpr rfl
 obj:=λi h st b hb=>by
  cases ej.mp hb;obtain⟨o,e,c,d⟩:=st;exact⟨o,e,λv z=>by rw[d]at z;cases z⟩
 keep:=λi h h' st k=>st.at λo e=>k it (ej.mpr rfl) o e
 item:=by intro X hP hw hK hc i af s σ H E I hf st hg;subst hP hw hK;obtain⟨q,lt⟩:=hg;obtain⟨_,_,es',ep',d',R,hl,at_⟩:=yu I q;rw[hd]at d';cases d';obtain⟨f0,f1,f2,f3,f4,f5⟩:=hf it (ej.mpr rfl);obtain⟨⟨k,v⟩,hk⟩ : ∃p,kv[i]? = ab p:=⟨kv[i],by simp[lt]⟩;obtain⟨lt',b,ek,hb,_⟩:=at_ i k v hk;refine M4 st R lt' λh' st' sb=>?_;have I1:Inv X af σ H { s with heap:=h' }:=I.turned (t':=s.toks) (λb o hb e=>(sb.2 b hb).trans e) f0 f1 f3 f4 f5;obtain⟨o,e,c,d⟩:=id st';exact⟨_,rfl,tZ (s:={ s with heap:=h' }) e c d (by decide) ⟨.ref b,H,I1,ek,⟨rfl,b,k,v,hk,rfl,hb⟩,st',λb hb=>(hf b hb).1⟩⟩
 done:=by intro X hP hw hK hc i af s σ H E I hf st hg;subst hP hw hK;obtain⟨q,ge⟩:=hg;obtain⟨_,_,es',ep',d',R,hl,at_⟩:=yu I q;rw[hd]at d';cases d';obtain⟨f0,f1,f2,f3,f4,f5⟩:=hf it (ej.mpr rfl);exact Lq (I.ok.hd hc) st R (by omega) λh' eb=>⟨rfl,I.turned (t':=s.toks) (λb o hb e=>eb b o hb e) f0 f1 f3 f4 f5⟩
 self:=λ_ _ _ _ _ st h=>wpAny_pyIter_keyiter st h
def iQ(tl:TE):TI:=λσ H R=>tl σ H λx H1=>∃a ob kv,x=.ref a/\H1 a=ab (.frz ob (.dT kv))/\R (yq a ob kv) H1
theorem Dl{X:Cx}{tg l:aR}{tl:TE}(hl:PE X l tl):PI X tg l (iQ tl):=by intro af s σ H R I h;refine aS (hl af s σ H _ I h) λv s1 ⟨x,H1,I1,r1,a,ob,kv,e,hq,q⟩=>?_;subst e;cases r1;obtain⟨nd,_,es,ep,d,Rw,hn,_⟩:=yu I1 hq;refine N1 nd Rw ⟨s1.heap.objs.size,[s1.heap.objs.size],_,_,H1,rfl,I1.kept (t':=s1.toks) λb o e=>bD _ e,LN a _ ob es ep kv d,⟨_,bS _ rfl,rfl,rfl⟩,λb hb=>?_,q⟩;cases ej.mp hb;exact I1.io (ba _) (I1.hok.fresh (ba _))
end L2
namespace A
open PySem L2 PyProof.Rows
open Mi (D W Rs Fin au)
variable[Tb:bE]{M:Nat->Bool}
theorem zm{H:Hp}:∀(k:List Key),P2 (Rep H) (k.map Mi.qu) (k.map kV)
 |[]=>.nil
 |.inl i::r=>.cons (qx.mpr rfl) (zm r)
 |.inr x::r=>.cons (mS.mpr rfl) (zm r)
theorem N2{H Hv H' Hv':Hp}(g:bb H Hv H' Hv'){a:ah}{kv:List (List Key×V)}{am:List (List Mi.Ky×D)}(n:H a=ae)(q:H' a=ab (.dT kv))(nv:Hv' a=ae)(c:fc Hv' am kv)(ob:Obj) :
 ∃kE,bb H Hv (upd H' a (.frz ob (.dT kv))) kE/\gP kE (.df am) (.ref a):=by
 have ne:∀b u,H b=ab u->b≠a:=λb u e z=>by subst z;rw[n]at e;cases e
 have sm:cK Hv' (upd Hv' a (.frz ob (.dT kv))):=ss nv;refine⟨upd Hv' a (.frz ob (.dT kv)),⟨?_,g.vis.trans sm,⟨λb u e=>?_,λb xs e=>?_,λb o u e=>?_,g.vw.cd.put q trivial trivial,λb u e=>?_⟩,λb u e m=>?_⟩,a,ob,kv,rfl,bj,c.same sm⟩
 ·exact g.old.put n q
 ·by_cases hb:b=a
  ·subst hb;rw[bj]at e ⊢;exact e
  ·rw[aC hb]at e ⊢;exact g.vw.sub b u e
 ·by_cases hb:b=a
  ·subst hb;rw[bj]at e;cases e
  ·rw[aC hb]at e ⊢;exact g.vw.tup b xs e
 ·by_cases hb:b=a
  ·subst hb;rw[bj]at e ⊢;exact e
  ·rw[aC hb]at e ⊢;exact g.vw.frz b o u e
 ·by_cases hb:b=a
  ·subst hb;rw[bj]at e;cases e;trivial
  ·rw[aC hb]at e;exact g.vw.nv b u e
 ·rw[aC (ne b u e)];exact g.hid b u e m
theorem Av{t:TE}{m:Mi.EW}(h:AW M qN t m):AW M qV (Em t) (Mi.oY m):=λe σ H Hv Q I q=>
 h e σ H Hv _ I ((au.mp q).mono λw z v H' Hv' g k=>by
  obtain⟨a,o,rfl,n,q1,nv,c⟩:=k;cases w with
  | dt am=>cases o with
   |dT kv=>
    refine⟨a,kv,rfl,q1,λob=>?_⟩;obtain⟨kE,g',r⟩:=N2 g n q1 nv c ob;exact z (.ref a) _ kE g' r
   |_=>exact c.elim
  |_=>exact z.elim)
theorem C7(i:Nat)(hm:M i=false):iI M (iQ (dM i)) (Mi.iQ i):=λe σ H Hv R I h=>by
 obtain⟨w,he,h⟩:=lV (au.mp h);obtain⟨v,hv,r⟩:=I.nob i w he hm;cases w with
 |df am=>
  obtain⟨a,ob,kv,rfl,q,c⟩:=r;refine⟨.ref a,hv,a,ob,kv,rfl,I.vw.sub _ _ q,h (yq a ob kv) H Hv (λH Hv=>Hv a=ab (.frz ob (.dT kv))/\fc Hv am kv) (.refl I.vw) ⟨λi H Hv p v hi=>?_,λi H Hv x H' p v hi y=>?_,λH Hv p v=>?_⟩ ⟨q,c⟩ λH1 Hv1 H2 Hv2 z s v=>⟨s _ _ z.1,z.2.same s⟩⟩
  ·exact⟨v.sub _ _ p.1,by rw[<- P2.len p.2];simpa using hi⟩
  ·obtain⟨rfl,b,k,v',hk,rfl,hb⟩:=y;obtain⟨kd,hkd,e1,_⟩:=P2.vZ p.2 hk;refine⟨Hv,.tup (kd.1.map Mi.qu),.refl v,by rw[c7,hkd];rfl,js.mpr ⟨b,_,rfl,v.tup _ _ hb,?_⟩⟩;have e1:kd.1=k:=e1;rw[e1];exact zm k
  ·exact⟨v.sub _ _ p.1,by rw[<- P2.len p.2];simp⟩
 |_=>exact h.elim
end A
namespace L2
open PySem PySem.Spec PyProof.Rows
section
variable{P:bg}{w:aY}{A:bv}{E:ag->ao->Prop}{s:ao}{d it:ah}{es:Array nH}{ep i:Nat}
theorem Rm{Q:ag->ao->Prop}(nd:(d==sysModules)=false)(x:fP s.heap d es ep)(hf:(es.size:Int)<2 ^ 63)(q:Q (.int es.size (s.toks+1)) { s with toks:=s.toks+1+1 }):wpAny (model P w) A (call (.builtin "len") [.ref d]) Q E s:=by
 have m:MeetsIn P w (eX.«dict.__len__» ⟨[.ref d],[]⟩) (λ_ R s=>(∃ep,fP s.heap d es ep)/\R (.ok (.ret (.int es.size s.toks))) { s with toks:=s.toks+1 }):=.of_wp λA R s ⟨⟨ep,o,e,c,dt⟩,h⟩=>by
  show wpAny _ _ (dictSize d >>= _) _ _ s;unfold dictSize;refine ak (ak (pE e dt (ax ?_)));show wpAny _ _ (Builtin.Dict.pendingCount d >>= _) _ _ s;refine ak (wpAny_pendingCount_other nd (AQ ?_));rw[Nat.add_zero];exact h
 refine Calls.call_function_entry kind_len plain_len entry_len (args_len1 _) ?_;unfold eX.«len»;refine ak (m:=oneArg "len" _) (ax (ak (m:=callSpecial? (.ref d) (gm "__len__")) (jM (name:=gm "__len__") x.ty F.slot_dict_len (call_meetsIn F.slot_dict_len x.ty F.entry_dict_len (F.args_dict_len_1 _) m ⟨⟨ep,x⟩,?_⟩))));show wpAny _ _ _ _ _ { s with toks:=s.toks+1 };refine ak (pI (ax (ak (wpAny_letGo ?_))));show wpAny _ _ (if((es.size:Nat):Int)<0 then _ else _) _ _ _;rw[ay (by omega)];show wpAny _ _ (if((es.size:Nat):Int) >= 2 ^ 63 then _ else _) _ _ _;rw[ay (by omega)];exact ak (wpAny_mkInt (ax ⟨_,rfl,q⟩))
theorem RG(nd:(d==sysModules)=false):MeetsIn P w (eX.«dict.values» ⟨[.ref d],[]⟩) (λ_ R s=>(∃es ep,fP s.heap d es ep)/\R (.ok (.ret (.ref s.heap.objs.size))) { s with heap:=s.heap.push { cls:=.type "dict_values", data:=.fields #[.ref d] } }):=
 .of_wp λA R s ⟨⟨es,ep,x⟩,h⟩=>by
  refine ak ?_;unfold Builtin.Dict.noArgs;refine ak (wpAny_notOrdered_dict x.ty ?_);show wpAny _ _ (pure d) _ _ s;refine ax ?_;show wpAny _ _ (xz d >>= _) _ _ s;unfold xz;rw[ay (by rw[nd];exact cy)];exact ak (ax (ak (gz (ax ⟨_,rfl,h⟩))))
theorem Lz{v:ah}{Q:ag->ao->Prop}(hv:s.heap.IsValuesView v d)(x:fP s.heap d es ep)
 (q:Q (.ref s.heap.objs.size) { s with heap:=s.heap.push { cls:=.type "dict_valueiterator", data:=.fields #[.ref d,.int 0 0,.int es.size 0,.int ep 0] } }):wpAny (model P w) A (pyIter (.ref v)) Q E s:=by
 obtain⟨ov,ev,cv,dv⟩:=id hv;obtain⟨o,e,c,dt⟩:=id x;refine AN hv.typeIs Jr (gG Jr hv.typeIs F.entry_dict_values_iter ?_ (F.args_dict_values_iter_1 _));unfold eX.«dict_values.__iter__»;refine ak (ax (ak ?_));unfold RK;refine ak (f9 ev dv (x:=.ref d) rfl (ax (ak ?_)));unfold RL;refine ak (pE e dt (ak (rn e dt ?_)));simp only[show ut "dict_valueiterator" = false by decide,lj,eJ];refine gz (ax ⟨_,rfl, "dict_valueiterator", _,⟨_,bS _ rfl,rfl⟩,uk.lookup,?_⟩);simpa [rawInt]using q
theorem PX{Q:Option ag->ao->Prop}(hI:s.heap.IsValIter it d i es.size ep)(x:fP s.heap d es ep)(lt:i<es.size)
 (q:∀h',h'.IsValIter it d (i+1) es.size ep->mo it s.heap h'->Q (ab es[i].val) { s with heap:=h' }):wpAny (model P w) A (pyNext (.ref it)) Q E s:=by
 obtain⟨oi,ei,ci,di⟩:=id hI;obtain⟨o,e,c,dt⟩:=id x;unfold pyNext;refine ak (kn (jM (name:=gm "__next__") hI.typeIs uk (gG uk hI.typeIs Je ?_ (Jd _))));refine ak (ax (ak (ak ?_)))
 first|refine ak (wy hI.typeIs (ax ?_))|refine ak (wA hI.typeIs (ax ?_))
 refine ak (wH ei di ?_);simp only[show ut "dict_valueiterator" = false by decide,lj,eJ];show wpAny _ _ (if(b8 d==eE)=true then _ else _) _ _ s;rw[ay (by exact cy)];refine ak (ax (ak (pE e dt ?_)));rw[ay (by simp)];refine ak (ax (ak (rn e dt ?_)));rw[ay (by simp)];refine ax ?_;simp only[show¬ ((i:Int)<0)from by omega,eJ,fR,pT lt];refine ak ?_
 first|refine ak (wy hI.typeIs (ax ?_))|refine ak (wA hI.typeIs (ax ?_))
 refine ak (AK hI.typeIs ?_);show wpAny _ _ (setField (.ref it) 1 (rawInt ((i:Int)+1)) >>= _) _ _ s;refine ak (ma ei di (by simp) ?_);have hJ:(s.heap.update it (pR (·.setIfInBounds 1 (rawInt ((i:Int)+1))))).IsValIter it d (i+1) es.size ep:=
  ⟨_,nU _ ei (uq (ln di _)),(xp ..).trans ci,by rw[ln di];simp[rawInt]⟩
 refine ak (pI (ak (AK (s:={ s with heap:=s.heap.update it (pR (·.setIfInBounds 1 (rawInt ((i:Int)+1)))) }) hJ.typeIs ?_)));refine ak (AK (s:={ s with heap:=s.heap.update it (pR (·.setIfInBounds 1 (rawInt ((i:Int)+1)))) }) hJ.typeIs ?_);show wpAny _ _ (pure es[i].val) _ _ _;exact ax (ax ⟨_,rfl,ax (q _ hJ (iV ..))⟩)
theorem KR{Q:Option ag->ao->Prop}(hh:A.handled=ae)(hI:s.heap.IsValIter it d i es.size ep)(x:fP s.heap d es ep)(ge:es.size<=i)
 (q:∀h',ug it s.heap h'->Q ae { s with heap:=h' }):wpAny (model P w) A (pyNext (.ref it)) Q E s:=by
 obtain⟨oi,ei,ci,di⟩:=id hI;obtain⟨o,e,c,dt⟩:=id x;unfold pyNext;refine ak (kn (jM (name:=gm "__next__") hI.typeIs uk (gG uk hI.typeIs Je ?_ (Jd _))));refine ak (ax (ak (ak ?_)))
 first|refine ak (wy hI.typeIs (ax ?_))|refine ak (wA hI.typeIs (ax ?_))
 refine ak (wH ei di ?_);simp only[show ut "dict_valueiterator" = false by decide,lj,eJ];show wpAny _ _ (if(b8 d==eE)=true then _ else _) _ _ s;rw[ay (by exact cy)];refine ak (ax (ak (pE e dt ?_)));rw[ay (by simp)];refine ak (ax (ak (rn e dt ?_)));rw[ay (by simp)];refine ax ?_;simp only[show¬ ((i:Int)<0)from by omega,eJ,fR,BG ge];refine ak ?_
 first|refine ak (wy hI.typeIs (ax ?_))|refine ak (wA hI.typeIs (ax ?_))
 show wpAny _ _ (setField (.ref it) 0 .none >>= _) _ _ s;refine ak (ma ei di (by simp) ?_);show wpAny _ _ (newExc (.type "StopIteration") [] >>= _) _ _ _;refine ak ?_;simp only[newExc,newTuple];refine ak (gz ?_ (by size_fits));refine ak (m:=firstArgMember _ _) (iG (a:=eE) (by first|rfl|(simp only[firstArgMember];rfl)) (gz ?_ (by size_fits)));simp only[raiseNew];refine ak (wI ?_);rw[show A.in1.handled=ae from hh];refine ak (ax (wK ?_));exact ak (nE (b:=true) (T := "StopIteration") ⟨_,bS _ rfl,rfl⟩ wG (ax (q _ (((iV ..).extBut.push _).push _))))
theorem Pj{h h':aI}{it d:ah}{i n ep:Nat}(x:h.IsValIter it d i n ep)(e:∀o,h.get? it=ab o->h'.get? it=ab o):h'.IsValIter it d i n ep:=let ⟨o,ho,r⟩:=x;⟨o,e _ ho,r⟩
theorem Pa(hh:A.handled=ae)(I d:ah)(hne:d≠I)(es:Array nH)(ep:Nat):Walks P w A I [I,d] [I] es.size (λi v=>∃lt:i<es.size,v=es[i].val) (λi h=>h.IsValIter I d i es.size ep/\fP h d es ep) where
 sub:=λb hb=>by cases ej.mp hb;simp
 frame:=λ_ _ _ st hk=>⟨Pj st.1 λo e=>hk I (by simp) o e,st.2.go λo e=>hk d (by simp) o e⟩
 item:=λi s Q E hi st hQ=>PX st.1 st.2 hi λh' st' hs=>hQ _ h' s.toks ⟨hi,rfl⟩ ⟨st',st.2.go λo e=>hs.extBut d o hne e⟩ λb o hb e=>hs.extBut b o (λz=>hb (by simp[z])) e
 done:=λs Q E st hQ=>KR hh st.1 st.2 (ba _) λh' he=>hQ h' s.toks λb o hb e=>he b o (λz=>hb (by simp[z])) e
 self:=λ_ _ _ _ st hQ=>wpAny_pyIter_valiter st.1 hQ
theorem MX{r d:ah}:PySem.W.KdlSrc P w "dict_values" r d es.size (λi v=>∃lt:i<es.size,v=es[i].val) (λh=>h.IsValuesView r d/\fP h d es ep) where
 type:=λ_ hm=>hm.1.typeIs
 there:=λ_ hm=>⟨let ⟨_,ho,_⟩:=hm.1;bR ho,hm.2.lt⟩
 keep:=λ_ _ hm hk=>⟨let ⟨o,ho,x⟩:=hm.1;⟨o,hk r (.inl rfl) o ho,x⟩,hm.2.go λo e=>hk d (.inr rfl) o e⟩
 notList:=by decide
 notTuple:=by decide
 hint:=λ_ _ _ _ hm hq=>PySem.W.kdl_hint_values hm.1.typeIs hq
 iter:=λ_ _ hh hm=>⟨_,_,(λ_ _ hq=>Lz hm.1 hm.2 hq),Pa hh _ d (gh hm.2.lt) es ep,⟨⟨_,bS _ rfl,rfl,rfl⟩,hm.2.go λo e=>bD _ e⟩⟩
end
section
variable{X:Cx}{af:List (ah×Obj)}{σ:St}{H:Hp}{s:ao}{a:ah}{kv:List (List Key×V)}
theorem xO(I:Inv X af σ H s)(q:Rd H a (.dT kv)):(a==sysModules)=false/\kv.length<=sizeLine/\∃es ep,fP s.heap a es ep/\es.size=kv.length/\∀i k v,kv[i]? = ab (k,v)->∃lt:i<es.size,RelV v es[i].val:=by
 obtain⟨z1,z2,xs,r,ob,es,ep,e,c1,c2,c3,c4⟩:=(show bQ X.prog X.w H s.heap a (.dT kv)from q.ok I.hok);have hl:es.size=xs.length:=size_of_entries c3;have hl2:kv.length=xs.length:=rJ r;refine⟨z2,z1,es,ep,⟨ob,e,c1,c2⟩,by omega,λi k v hk=>?_⟩;obtain⟨x,hx,h1,h2,h3⟩:=AB r hk;have lt:i<es.size:=by rw[hl];exact(cu.mp hx).1
 have he:=entry_at c3 i;rw[hx,Ju,pT lt]at he;have he:=gi he;exact⟨lt,by rw[he];exact h3⟩
def At:List V->Hp->VK->Prop:=λxs H Q=>∃a kv,xs=[V.ref a]/\Rd H a (.dT kv)/\Q (.int kv.length) H
theorem Dk:fZ X (.builtin "len") At:=by intro af s σ H xs us Q I r h;obtain⟨a,kv,rfl,ha,q⟩:=h;obtain⟨u,rfl,ru⟩:=vals1 r;cases ru;obtain⟨nd,z,es,ep,x,hl,_⟩:=xO I ha;rw[b9]at z;refine Rm nd x (by omega) ⟨.int kv.length,H,I.tok _,⟨_,by rw[hl]⟩,q⟩
def tq(p a:ah):aI->Prop:=λh=>h.IsValuesView p a
def GL:V->List V->Hp->VK->Prop:=λx xs H Q=>∃a kv,x=.ref a/\xs=[]/\H a=ab (.dT kv)/\∀p,H p=ae->Q (.ref p) (upd H p (.ext (tq p a)))
theorem QO:k3 X "dict.values" GL:=by intro af s σ H x xs v us Q I rx r h;obtain⟨a,kv,rfl,rfl,ha,q⟩:=h;cases rx;cases r;obtain⟨nd,z,es,ep,x,hl,_⟩:=xO I (.inl ha);refine call_meetsIn Jg x.ty PySem.F.entry_dict_values (PySem.F.args_dict_values_1 _) (RG nd) ⟨⟨es,ep,x⟩,.ref s.heap.objs.size,_,I.laid (a:=s.heap.objs.size) (o:=.ext (tq s.heap.objs.size a)) (t':=s.toks) (λ_ _ q=>bD _ q) (ba _) ⟨⟨_,bS _ rfl,rfl,rfl⟩,⟨_,bS _ rfl⟩,λh1 h2 z k=>let ⟨o,e,y⟩:=z;⟨o,k o e,y⟩⟩,rfl,q _ I.fresh⟩
def HQ:List V->Hp->VK->Prop:=λxs H Q=>∃p a kv,xs=[V.ref p]/\H p=ab (.ext (tq p a))/\H a=ab (.dT kv)/\∀r,H r=ae->Q (.ref r) (upd H r (.lst (kv.map (·.2))))
theorem NB(hc:X.calm=true):fZ X (.type "list") HQ:=by
 intro af s σ H xs us Q I r h;obtain⟨p,a,kv,rfl,hp,ha,q⟩:=h;obtain⟨u,rfl,ru⟩:=vals1 r;cases ru;obtain⟨nd,z,es,ep,x,hl,at_⟩:=xO I (.inl ha);obtain⟨vw,_,_⟩:=(show bQ X.prog X.w H s.heap p (.ext (tq p a))from I.hok p _ hp);refine PySem.W.kdl_call (MX (es:=es) (ep:=ep)) (I.ok.hd hc) ⟨vw,x⟩ (by omega) λh' tk acc c' hk hD hacc=>?_;refine⟨.ref s.heap.objs.size,_,I.laid (a:=s.heap.objs.size) (o:=.lst (kv.map (·.2))) (t':=tk) hk (ba _) ⟨by rw[aQ];exact z,acc.toList,c',?_,by rw[JA];exact hD⟩,rfl,q _ I.fresh⟩;have hn:acc.size=es.size:=hacc.1;have all:∀(l:List (List Key×V)) (m:List ag),l.length=m.length->(∀(i:Nat) p v,l[i]? = ab p->m[i]? = ab v->RelV p.2 v)->Vals (l.map (·.2)) m:=by
  intro l
  induction l with
  | nil=>intro m e _;cases m with
   |nil=>exact .nil
   |cons _ _=>cases e
  | cons p l ih=>intro m e f;cases m with
   |nil=>cases e
   |cons v m=>exact .cons (f 0 p v rfl rfl) (ih m (by simpa using e) λi p v h1 h2=>f (i+1) p v (by simpa using h1) (by simpa using h2))
 refine all kv acc.toList (by rw[show acc.toList.length=acc.size from nX];omega) λi p v h1 h2=>?_;obtain⟨lt,rv⟩:=at_ i p.1 p.2 h1;obtain⟨lt',e⟩:=hacc.2 i v (by rw[<- rG];exact h2);rw[e];exact rv
end
end L2
namespace A
open PySem L2 PyProof.Rows
open Mi (D W Rs Fin au)
variable[Tb:bE]{M:Nat->Bool}{K:aE}
theorem E6(i:Nat):AE M qV (lf At (fu (dM i) f6)) (Mi.ph i):=λe σ H Hv Q I h=>by
 obtain⟨w,he,h⟩:=lV (au.mp h);obtain⟨x,q,z⟩:=I.any he;have fin:∀am:List (List Mi.Ky×D),(∃a kv,x=.ref a/\Rd H a (.dT kv)/\am.length=kv.length)->Fin (Rs.ok (D.int am.length)) (λd=>∀v H' Hv',bb H Hv H' Hv'->qV H H' Hv' (.d d) v->Q v H')->lf At (fu (dM i) f6) σ H Q:=λam ⟨a,kv,e1,r,e2⟩ h=>
  ⟨x,q,a,kv,by rw[e1],r,by rw[<- e2];exact h _ H Hv (.refl I.vw) ig⟩
 cases w with
 |dt am=>
  refine fin am ?_ h;rcases z with ⟨a,kv,e,z,c⟩|⟨a,o,e,z,c⟩
  ·exact⟨a,kv,e,.inl (I.vw.sub _ _ z),P2.len c⟩
  ·cases o with
   |dT kv=>exact⟨a,kv,e,.inl z,P2.len c⟩
   |_=>exact c.elim
 |df am=>
  refine fin am ?_ h;rcases z with ⟨a,ob,kv,e,z,c⟩|⟨a,o,e,z,c⟩
  ·exact⟨a,kv,e,.inr ⟨ob,I.vw.sub _ _ z⟩,P2.len c⟩
  ·exact c.elim
 |_=>exact h.elim
theorem DW{H:Hp}:∀{am:List (List Mi.Ky×D)} {kv:List (List Key×V)},fc H am kv->P2 (Rep H) (am.map (·.2)) (kv.map (·.2))
 |_,_,.nil=>.nil
 |_,_,.cons x t=>.cons x.2 (DW t)
theorem L9(i:Nat):AE M qN (lf HQ (fu (mQ K "dict" GL (dM i)) f6)) (Mi.HY i):=λe σ H Hv Q I h=>by
 obtain⟨w,he,h⟩:=lV (au.mp h);obtain⟨x,q,z⟩:=I.any he;cases w with
 |dt am=>
  have:∃a kv,x=.ref a/\H a=ab (.dT kv)/\fc Hv am kv:=by
   rcases z with ⟨a,kv,e,z,c⟩|⟨a,o,e,z,c⟩
   ·exact⟨a,kv,e,I.vw.sub _ _ z,c⟩
   ·cases o with
    |dT kv=>exact⟨a,kv,e,z,c⟩
    |_=>exact c.elim
  obtain⟨a,kv,rfl,ha,c⟩:=this;refine⟨.ref a,q,.inr (.inr (.inl ⟨rfl,.inr ⟨kv,ha⟩⟩)),a,kv,rfl,rfl,ha,λp hp=>?_⟩;have g1:bb H Hv (upd H p (.ext (tq p a))) Hv:=.qf I.vw trivial hp;refine⟨p,a,kv,rfl,bj,by rw[aC (cJ ha hp)];exact ha,λr hr=>?_⟩;obtain⟨g2,k⟩:=GX g1.vw (DW c) hr;exact h (.ref r) _ Hv (g1.trans g2) (KM.mono (κ:=qN) g1.old k)
 |_=>exact h.elim
theorem Nu{fn:Mi.Fn}{ws:List Mi.EW}{tr:TA}{E:XK}(ha:AAW M qP tr (Mi.cP ws)):AE M qV (mL (cz fn) [] E tr) (Mi.sx fn ws):=λe σ H Hv Q I h=>
 ha e σ H Hv _ I ((au.mp (au.mp h)).mono λds hx vs H1 Hv1 g1 rx=>by
  rw[nR];refine⟨jH H1,ds,.all g1.vw.cd,rx.imp λw v z=>RB.No g1.vw z,hx.mono λw hd v H3 Hv3 g3 rw=>?_⟩;cases w with
  |d x=>
   cases x with
   |lst xs=>
    obtain⟨hi,hd⟩:=Mi.cr hd;obtain⟨a,o,rfl,n,q,nv,c⟩:=rw;cases o with
    |lst ys=>
     have g4:=Nr g1.vw g3.old g3.vw.cd;have c:P2 (Rep Hv3) xs ys:=c;refine hd (.ref a) H3 _ (g1.trans g4) (lC.mpr ⟨a,ys,rfl,.inl ?_,lI.mp (yh g4.vw.tup hi (vq g3.vw.sub (lI.mpr c)))⟩);unfold seen;rw[oD g1.vw n,n];exact kY q trivial
    |_=>exact c.elim
   |_=>exact hd.elim
  |_=>exact hd.elim)
end A
namespace L2
open PySem PySem.Spec PyProof.Rows
namespace Rv
theorem nx:Slot "reversed" "__next__" "reversed.__next__":=.of (owner := "reversed") (n := "__next__") (by rw[ro,ri];kernel_rfl) (by decide +kernel) (by decide +kernel) (by decide +kernel) (by first|exact .inl (by decide +kernel)|exact .inr (by decide +kernel)) (by rw[nG];kernel_rfl)
theorem Ge:entryFor table "reversed.__next__" = ab eX.«reversed.__next__»:=entryFor_of_tree (by kernel_rfl)
theorem own:Manifest.owners.lookup (String.ofList ['d','e','s','r','e','v','e','r'].reverse)=ab Manifest.sig_reversed:=by kernel_rfl
theorem na(a:ag):argsOk "reversed.__next__" ⟨[a],[]⟩:=by unfold argsOk;rw[AY (id := "reversed.__next__") (n:=['_','_','t','x','e','n','_','_']) (o:=['d','e','s','r','e','v','e','r']) (by kernel_rfl) own];kernel_rfl
theorem it:Slot "reversed" "__iter__" "reversed.__iter__":=.of (owner := "reversed") (n := "__iter__") (by rw[ro,ri];kernel_rfl) (by decide +kernel) (by decide +kernel) (by decide +kernel) (by first|exact .inl (by decide +kernel)|exact .inr (by decide +kernel)) (by rw[nG];kernel_rfl)
theorem ia(a:ag):argsOk "reversed.__iter__" ⟨[a],[]⟩:=by unfold argsOk;rw[AY (id := "reversed.__iter__") (n:=['_','_','r','e','t','i','_','_']) (o:=['d','e','s','r','e','v','e','r']) (by kernel_rfl) own];kernel_rfl
theorem ie:entryFor table "reversed.__iter__" = ab eX.«dict_keyiterator.__iter__»:=entryFor_alias (id' := "dict_keyiterator.__iter__") (by kernel_rfl) (by first|rfl|decide +kernel|(unfold String.splitOn;simp +decide [String.splitOnAux])) (by decide +kernel) (by kernel_rfl)
theorem tr:typeLookup (.type "tuple") "__reversed__" = pure ae:=by rw[ro,ri];kernel_rfl
theorem sl:Slot "reversed" "__init__" "object.__init__":=.of (owner := "object") (n := "__init__") (by rw[ro,ri];kernel_rfl) (by decide +kernel) (by decide +kernel) (by decide +kernel) (by first|exact .inl (by decide +kernel)|exact .inr (by decide +kernel)) (by rw[nG];kernel_rfl)
theorem cl:TypeCalled "reversed" "reversed.__new__" "object.__init__":=⟨by decide +kernel,by decide +kernel,⟨_,_,F.mro_reversed⟩,F.made_reversed,by decide +kernel,by rw[nG];kernel_rfl,sl⟩
end Rv
section
variable{P:bg}{w:aY}{A:bv}{E:ag->ao->Prop}{s:ao}{t it:ah}{aj:Array ag}
def Q1(t:ah)(i:Int):Obj:={ cls:=.type "reversed", data:=.fields #[.ref t,rawInt i] }
theorem QM{Q:ag->ao->Prop}(ht:s.heap.IsTuple t aj)(hf:(aj.size:Int)<2 ^ 62)(h:∀tk,Q (.ref s.heap.objs.size) { s with heap:=s.heap.push (Q1 t ((aj.size:Int)-1)),toks:=tk }) :
 wpAny (model P w) A (call (.type "reversed") [.ref t]) Q E s:=by
 refine callType_codes (Q₁:=λobj s₁=>s₁.TypeIs obj "reversed" /\ Q obj s₁) Rv.cl (F.typeCall_reversed_1 _) F.entry_object_init ?_ λobj s₁ h₁=>?_
 ·refine codeAny_of_tree ?_;show wpAny _ _ (do checkBuiltinCall "reversed.__new__" ⟨[.type "reversed",.ref t],[]⟩;again (.builtin "reversed.__new__" ⟨[.type "reversed", .ref t],[]⟩)) _ _ s;refine ak (iG (F.newCall_reversed_1 _) (ax ⟨md Js _,nF F.entry_reversed_new ?_⟩));rw[nY Js _];unfold eX.«reversed.__new__»;refine ak (iG (newClass_reversed _) ?_)
  try dsimp only
  refine ak (iG (a:=()) (by first|rfl|kernel_rfl) (ak (iG (a:=()) (by first|rfl|kernel_rfl) ?_)))
  try dsimp only
  refine ak (pF ht.typeIs Rv.tr ?_)
  try dsimp only
  refine ak ?_
  wp_delta
  refine ak (nE (T := "tuple") (b:=false) ht.typeIs (by rw[nG];kernel_rfl) ?_);rw[ay (by decide)];refine ak (pF (name:=gm "__getitem__") ht.typeIs pO.lookup ?_)
  try dsimp only
  rw[aH (by decide +kernel)];refine ax ?_;rw[ay (by decide)];refine ak (Jv ht (by omega) ?_);refine ak (iG (a:=ab (aj.size:Int)) rfl ?_);dsimp only;refine ak ?_;unfold RJ;refine gz (ax ⟨⟨_,bS _ rfl,rfl⟩,h _⟩)
 ·exact⟨h₁.1,BB obj _,object_init_meets Rv.cl.init.lookup Rv.cl.made (by decide) P w A.in1 _ s₁ ⟨h₁.1,rfl,h₁.2⟩⟩
def gD(h:aI)(it t:ah)(i:Int):Prop:=∃o,h.get? it=ab o/\o.cls=.type "reversed" /\ o.data=.fields #[.ref t,rawInt i]
theorem gD.ty{i:Int}(x:gD s.heap it t i):s.TypeIs (.ref it) "reversed" := let ⟨o,e,c,_⟩:=x;⟨o,e,c⟩
theorem gD.go{h h':aI}{i:Int}(x:gD h it t i)(k:∀o,h.get? it=ab o->h'.get? it=ab o):gD h' it t i:=let ⟨o,e,r⟩:=x;⟨o,k o e,r⟩
theorem Qk{i:Nat}{v:ag}{Q:Option ag->ao->Prop}(x:gD s.heap it t (i:Int))(ht:s.heap.IsTuple t aj)(hne:t≠it)(hv:aj[i]? = ab v)(hf:(aj.size:Int)<2 ^ 62)
 (q:∀h' tk,gD h' it t ((i:Int)-1)->mo it s.heap h'->Q (ab v) { s with heap:=h',toks:=tk }):wpAny (model P w) A (pyNext (.ref it)) Q E s:=by
 obtain⟨o,e,c,d⟩:=id x;have lt:i<aj.size:=by
  rcases xc i aj.size with h|h
  ·exact h
  ·rw[BG h]at hv;cases hv
 unfold pyNext;refine ak (kn (jM (name:=gm "__next__") x.ty Rv.nx (gG Rv.nx x.ty Rv.Ge ?_ (Rv.na _))));unfold eX.«reversed.__next__»;refine ak (iG (a:=(b8 it,[])) rfl ?_)
 try dsimp only
 refine ak (f9 e d (x:=.ref t) rfl (ak (f9 e d (x:=rawInt (i:Int)) rfl ?_)));show wpAny _ _ (if(i:Int)<0 then _ else _) _ _ s;rw[ay (by omega)];refine ak (pF (name:=gm "__getitem__") ht.typeIs pO.lookup ?_);rw[ay (by decide)];refine ak (wpAny_mkInt ?_);refine ak (kn (PyProof.Rows.getItem_tuple (s:={ s with toks:=s.toks+1 }) ht (by omega) (by omega) (j:=i) (by unfold seqIndex?;simp[lt,show¬ ((i:Int)<0)by omega]) hv ?_))
 try dsimp only
 refine ak (f9 (s:={ s with toks:=s.toks+1 }) e d (x:=rawInt (i:Int)) rfl ?_);show wpAny _ _ (setField (.ref it) 1 (rawInt ((i:Int)-1)) >>= _) _ _ _;refine ak (ma (s:={ s with toks:=s.toks+1 }) e d (by simp) (ax ⟨v,rfl,ax (q _ _ ?_ (iV ..))⟩));exact⟨_,nU _ e (uq (ln d _)),(xp ..).trans c,by rw[ln d];simp⟩
theorem LB{Q:Option ag->ao->Prop}(hh:A.handled=ae)(x:gD s.heap it t (-1))(q:∀h',ug it s.heap h'->Q ae { s with heap:=h' }):wpAny (model P w) A (pyNext (.ref it)) Q E s:=by
 obtain⟨o,e,c,d⟩:=id x;unfold pyNext;refine ak (kn (jM (name:=gm "__next__") x.ty Rv.nx (gG Rv.nx x.ty Rv.Ge ?_ (Rv.na _))));unfold eX.«reversed.__next__»;refine ak (iG (a:=(b8 it,[])) rfl ?_)
 try dsimp only
 refine ak (f9 e d (x:=.ref t) rfl (ak (f9 e d (x:=rawInt (-1)) rfl ?_)));show wpAny _ _ (if(-1:Int)<0 then _ else _) _ _ s;rw[aH (by decide)];refine ak (pJ (ak ?_));show wpAny _ _ (setField (.ref it) 1 (rawInt (-1)) >>= λ_=>setField (.ref it) 0 .none) _ _ s;refine ak (ma e d (by simp) ?_);have e2:=nU (pR (·.setIfInBounds 1 (rawInt (-1)))) e (uq (ln d _));have d2:=ln d (·.setIfInBounds 1 (rawInt (-1)));refine ma (s:={ s with heap:=s.heap.update it (pR (·.setIfInBounds 1 (rawInt (-1)))) }) e2 d2 (by simp) ?_;show wpAny _ _ (Jz >>= _) _ _ _;unfold Jz;refine ak (ak ?_);simp only[newExc,newTuple];refine ak (gz ?_ (by size_fits));refine ak (m:=firstArgMember _ _) (iG (a:=eE) (by first|rfl|(simp only[firstArgMember];rfl)) (gz ?_ (by size_fits)));simp only[raiseNew];refine ak (wI ?_);rw[show A.in1.handled=ae from hh];refine ak (ax (wK ?_));exact ak (nE (b:=true) (T := "StopIteration") ⟨_,bS _ rfl,rfl⟩ wG (ax (q _ ((((iV ..).extBut.trans (iV ..).extBut).push _).push _))))
theorem MV{i:Int}{Q:ag->ao->Prop}(x:gD s.heap it t i)(h:Q (.ref it) s):wpAny (model P w) A (pyIter (.ref it)) Q E s:=by refine AN x.ty Rv.it (gG Rv.it x.ty Rv.ie ?_ (Rv.ia _));show wpAny _ _ (ret (.ref it)) _ _ s;exact ax ⟨_,rfl, "reversed", _,x.ty,Rv.nx.lookup,h⟩
theorem Mu(hh:A.handled=ae)(I t:ah)(hne:t≠I)(aj:Array ag)(hf:(aj.size:Int)<2 ^ 62) :
 Walks P w A I [I,t] [I] aj.size (λi v=>aj[aj.size-1-i]? = ab v) (λi h=>i<=aj.size/\gD h I t ((aj.size:Int)-1-(i:Int))/\h.IsTuple t aj) where
 sub:=λb hb=>by cases ej.mp hb;simp
 frame:=λ_ _ _ x hk=>⟨x.1,x.2.1.go λo e=>hk I (by simp) o e,let ⟨o,e,r⟩:=x.2.2;⟨o,hk t (by simp) o e,r⟩⟩
 item:=λi s Q E hi x hQ=>by
  have y:=x.2.1;rw[show(aj.size:Int)-1-(i:Int)=((aj.size-1-i:Nat):Int)by omega]at y;have hv:aj[aj.size-1-i]? = ab (aj[aj.size-1-i]'(by omega)):=pT (by omega);refine Qk y x.2.2 hne hv hf λh' tk z sb=>?_;rw[show((aj.size-1-i:Nat):Int)-1=(aj.size:Int)-1-((i+1:Nat):Int)by omega]at z;exact hQ _ h' tk hv ⟨hi,z,let ⟨o,e,r⟩:=x.2.2;⟨o,(sb.2 t hne).trans e,r⟩⟩ λb o hb e=>sb.extBut b o (λz=>hb (by simp[z])) e
 done:=λs Q E x hQ=>by
  have y:=x.2.1;rw[show(aj.size:Int)-1-(aj.size:Int) = -1 by omega]at y;exact LB hh y λh' he=>hQ h' s.toks λb o hb e=>he b o (λz=>hb (by simp[z])) e
 self:=λ_ _ _ _ x hQ=>MV x.2.1 hQ
theorem Nl:typeLookup (.type "reversed") "__len__" = pure ae:=by rw[ro,ri];kernel_rfl
theorem Hk:typeLookup (.type "reversed") "__length_hint__" = pure (ab (.builtin "reversed.__length_hint__")):=by rw[ro,ri];kernel_rfl
theorem Rv.ls:Slot "reversed" "__length_hint__" "reversed.__length_hint__":=.of (owner := "reversed") (n := "__length_hint__") Hk (by decide +kernel) (by decide +kernel) (by decide +kernel) (by first|exact .inl (by decide +kernel)|exact .inr (by decide +kernel)) (by rw[nG];kernel_rfl)
theorem Rv.QS:entryFor table "reversed.__length_hint__" = ab eX.«reversed.__length_hint__»:=entryFor_of_tree (by kernel_rfl)
theorem Rv.la(a:ag):argsOk "reversed.__length_hint__" ⟨[a],[]⟩:=by unfold argsOk;rw[AY (id := "reversed.__length_hint__") (n:=['_','_','t','n','i','h','_','h','t','g','n','e','l','_','_']) (o:=['d','e','s','r','e','v','e','r']) (by kernel_rfl) Rv.own];kernel_rfl
theorem MF{Q:Bool->ao->Prop}(x:gD s.heap it t ((aj.size:Int)-1))(ht:s.heap.IsTuple t aj)(hf:aj.size<=1000)(h:∀b tk,s.toks<=tk->Q b { s with toks:=tk }):wpAny (model P w) A (xt (.ref it)) Q E s:=by
 obtain⟨o,e,c,d⟩:=id x;unfold xt;refine ak (pF x.ty Nl ?_);show wpAny _ A (specialOf (b8 it) (gm "__length_hint__") >>= _) _ _ _;refine ak (pF x.ty Hk ?_);generalize hid:("reversed.__length_hint__" : String)=id0
 (fail_if_success (clear hid id0))
 wp_delta
 rw[show splitId id0=ab ("reversed","__length_hint__")from by subst hid;decide +kernel];subst hid;refine ak (nE (b:=true) x.ty F.sub_reversed_self ?_);rw[ay (by decide)];dsimp only;rw[ay (by decide +kernel)];refine ak (pJ (ak (iG (Rv.ls.bind _) ?_)))
 try dsimp only
 refine ak (kn (gG Rv.ls x.ty Rv.QS ?_ (Rv.la _)));unfold eX.«reversed.__length_hint__»;refine ak (iG (a:=b8 it) rfl ?_);refine ak (f9 e d (x:=.ref t) rfl ?_);rw[ay (by exact cy)];refine ak (Jv ht (by omega) (ak (iG (a:=ab (aj.size:Int)) rfl ?_)));dsimp only;refine ak (f9 (s:={ s with toks:=s.toks+1+1 }) e d (x:=rawInt ((aj.size:Int)-1)) rfl ?_);show wpAny _ _ (if(aj.size:Int)<((aj.size:Int)-1)+1 then _ else _) _ _ _;rw[ay (by omega)];refine AQ ?_;have e1:((aj.size:Int)-1)+1=(aj.size:Int):=by omega
 rw[e1];generalize hk0:({ heap:=s.heap,gens:=s.gens,drawn:=s.drawn,toks:=s.toks+1+1,os:=s.os }:ao).toks=tk0;dsimp only;have ea:asInt? (xk (aj.size:Int) tk0)=pure (ab (aj.size:Int)):=by unfold asInt?;rfl
 rw[ea,pure_bind];dsimp only;rw[ay (by unfold Builtin.List.listFitsIndex;simp;omega),ay (by omega),ay (by rw[fR,E7 (by rw[b9];omega)];decide)];exact ax (h _ _ (by have hk0:s.toks+1+1=tk0:=hk0;omega))
end
section
variable{P:bg}{w:aY}{A:bv}{E:ag->ao->Prop}{s:ao}{I:ah}{fp wr:List ah}{G:Array GenState->Array GenState->Prop}{n:Nat}{Pv:Nat->ag->Prop}{St:Nat->ao->Prop}
theorem QT{Q:List ag->ao->Prop}(W:WalksS P w A.in1 I fp wr G n Pv St)(hT:∀i s,St i s->s.TypeIs (.ref I) "reversed")(hst:St 0 s)(hfp:∀b∈fp,b<s.heap.objs.size)(hI:I∈fp)
 (hint:∀(s:ao) (Q:Bool->ao->Prop) (E:ag->ao->Prop),St 0 s->(∀b tk,s.toks<=tk->Q b { s with toks:=tk })->wpAny (model P w) A.in1 (xt (.ref I)) Q E s)
 (hQ:∀s' acc,Moved wr G s s'->ItemsOf Pv acc n->Q acc.toList s') (hn:n<=sizeLine):wpAny (model P w) A (collect (.ref I)) Q E s:=by
 have nf:s.heap.objs.size∉fp:=λhm=>jv _ (hfp _ hm);have nI:s.heap.objs.size≠I:=λe=>nf (e ▸ hI);unfold collect;refine ak (wpAny_runValue (nF F.entry_proto_collect ?_));rw[nY F.plain_proto_collect _];show wpAny _ A.in1 (newList [] >>= λl=>again (.builtin "list.__iadd__" ⟨[l,.ref I],[]⟩)) _ _ s;refine ak (gz (ax ⟨md F.plain_list_iadd _,nF F.entry_list_iadd ?_⟩));rw[nY F.plain_list_iadd _];have st1:=W.frame 0 s (s.heap.push { cls:=.type "list",data:=.seq ([]:List ag).toArray }) s.toks hst (ba _) λb _ o e=>bD _ e;have hS:(s.heap.push { cls:=.type "list",data:=.seq ([]:List ag).toArray }).get? s.heap.objs.size=ab { cls:=.type "list", data:=.seq ([]:List ag).toArray }:=bS _ rfl;have h1:JE (.ref s.heap.objs.size) (.ref I)=false:=by simp[JE,nI]
 show wpAny _ A.in1 (JD (.ref s.heap.objs.size) (.ref I) (.ref s.heap.objs.size)) _ _ _;unfold JD;refine ak (wJ (hT 0 _ st1) ?_);rw[ay (by rw[h1];decide)];refine ak (W.self 0 _ _ _ st1 (ak (pI ?_)));refine hint _ _ _ st1 λb tk htk=>?_;have fin:∀(R:Result->ao->Prop) (h:aI) (c₁:Nat),(∀b∈fp,∀o,s.heap.get? b=ab o->h.get? b=ab o)->(∀b o,b≠s.heap.objs.size->s.heap.get? b=ab o->h.get? b=ab o)->h.get? s.heap.objs.size=ab { cls:=.type "list", data:=.seq #[] c₁ } ->
  (∀s' acc c',Moved wr G s s'->ItemsOf Pv acc n->s'.heap.get? s.heap.objs.size=ab { cls:=.type "list", dict:=ae,data:=.seq acc c',slots:=#[] }->R (.ok (.ret (.ref s.heap.objs.size))) s') ->
  codeAny (model P w) A (.builtin "list.extend.loop" ⟨[.ref s.heap.objs.size,.ref I,.ref s.heap.objs.size],[]⟩) R { s with heap:=h,toks:=tk }:=λR h c₁ kf ka hS₁ hR=>by
  refine codeAny_extend_loopS W hn _ nf _ n 0 _ _ _ rfl (eZ _) (W.frame 0 s h tk hst htk kf) hS₁ (ItemsOf.nil Pv) λs' acc' c' hm hS' hacc=>hR s' acc' c' ⟨λb o hb e=>?_,hm.gens,hm.drawn,hm.os,dw htk hm.toks⟩ hacc hS';have nb:b≠s.heap.objs.size:=λz=>absurd (bR e) (by rw[z];exact jv _);exact hm.heap b o (λz=>(bA.mp z).elim nb hb) (ka b o nb e)
 have end_:∀s' acc c',Moved wr G s s'->ItemsOf Pv acc n->s'.heap.get? s.heap.objs.size=ab { cls:=.type "list", dict:=ae,data:=.seq acc c',slots:=#[] }->wpAny (model P w) A (load s.heap.objs.size >>= λo=>match o.data with
  |.seq xs _=>pure xs.toList
  |_=>unsupported "internal:collect") Q E s':=λs' acc c' mv it g=>ak (wpAny_load g (ax (hQ s' acc mv it)))
 refine wpAny_ite_split (λ_=>?_) (λ_=>ax ⟨md F.plain_extend_loop _,fin _ _ _ (λb _ o e=>bD _ e) (λb o _ e=>bD _ e) hS λs' acc c' mv it g=>end_ s' acc c' mv it g⟩);refine ak (pJ (ak ?_));show wpAny _ _ (updateSeq s.heap.objs.size (·.push .none) >>= λ_=>updateSeq s.heap.objs.size (·.pop)) _ _ _;refine ak (AR hS rfl ?_);have hS₂:=nU (fH (·.push eE)) hS rfl;refine AR (hz:=by seq_fits) hS₂ rfl ?_;have hS₃:=nU (fH (·.pop)) hS₂ rfl;have oth:∀b o,b≠s.heap.objs.size->s.heap.get? b=ab o->(((s.heap.push { cls:=.type "list", data:=.seq ([]:List ag).toArray }).update s.heap.objs.size (fH (·.push eE))).update s.heap.objs.size (fH (·.pop))).get? b=ab o:=
  λb o hb e=>(Bo _ _ (cR hb)).trans ((Bo _ _ (cR hb)).trans (bD _ e))
 exact ax ⟨md F.plain_extend_loop _,fin _ _ _ (λb hb o e=>oth b o (λz=>nf (z ▸ hb)) e) oth hS₃ λs' acc c' mv it g=>end_ s' acc c' mv it g⟩
end
end L2
namespace L2
open PySem PySem.Spec PyProof.Rows
open PySem.AutoSeq1 (wpAny_loadPart')
section
variable{P:bg}{w:aY}{A:bv}{E:ag->ao->Prop}{s:ao}{t I:ah}{aj:Array ag}
theorem QK{Q:ag->ao->Prop}(hh:A.handled=ae)(x:gD s.heap I t ((aj.size:Int)-1))(ht:s.heap.IsTuple t aj)(hne:t≠I)(hf:aj.size<=1000)
 (h:∀s' acc,Moved [I] (λa b=>b=a) s s'->ItemsOf (λi v=>aj[aj.size-1-i]? = ab v) acc aj.size->Q (.ref s'.heap.objs.size) { s' with heap:=s'.heap.push { cls:=.type "tuple", data:=.seq acc } }) :
 codeAny (model P w) A (.call (.builtin "tuple.__new__") ⟨[.type "tuple", .ref I],[]⟩) (wants Q E) s:=by
 refine codeAny_of_tree ?_;show wpAny _ _ (do checkBuiltinCall "tuple.__new__" ⟨[.type "tuple",.ref I],[]⟩;again (.builtin "tuple.__new__" ⟨[.type "tuple", .ref I],[]⟩)) _ _ s;refine ak (iG (F.newCall_tuple_1 _) (ax ⟨md F.plain_tuple_new _,nF F.entry_tuple_new ?_⟩));rw[nY F.plain_tuple_new _];have hsub:=sub_tuple_self;have hinit:=init_tuple_lookup;have hmh:=madeHere_tuple;have hTI:=x.ty;have W:=(Mu (P:=P) (w:=w) (A:=A.in1.in1) hh I t hne aj (by omega)).toS;have st0:(λi (s:ao)=>i<=aj.size/\gD s.heap I t ((aj.size:Int)-1-(i:Int))/\s.heap.IsTuple t aj) 0 s:=⟨eZ _,by rw[show(aj.size:Int)-1-((0:Nat):Int)=(aj.size:Int)-1 by omega];exact x,ht⟩;have lt:∀b∈[I,t],b<s.heap.objs.size:=λb hb=>by
  rcases bA.mp hb with rfl|hb
  ·obtain⟨o,e,_⟩:=x;exact bR e
  ·cases ej.mp hb;obtain⟨o,e,_⟩:=ht;exact bR e
 have hint:∀(s:ao) (Q:Bool->ao->Prop) (E:ag->ao->Prop),(0<=aj.size/\gD s.heap I t ((aj.size:Int)-1-((0:Nat):Int))/\s.heap.IsTuple t aj)->(∀b tk,s.toks<=tk->Q b { s with toks:=tk })->wpAny (model P w) A.in1.in1 (xt (.ref I)) Q E s:=λs Q E st h=>by
  have y:=st.2.1;rw[show(aj.size:Int)-1-((0:Nat):Int)=(aj.size:Int)-1 by omega]at y;exact MF y st.2.2 hf h
 wp_walk using wJ hTI,QT (hn:=by rw[b9];omega) W (λi s st=>st.2.1.ty) st0 lt (by simp) hint
 intro s' acc hm hacc;show wpAny _ _ (rH acc.toList.toArray >>= λv=>ret v) _ _ _;unfold rH;refine ak (gz ?_ (by show acc.toList.toArray.size<=sizeLine;simp only[JA];rw[hacc.1,b9];omega));rw[show acc.toList.toArray=acc by simp];exact ax (h s' acc hm hacc)
theorem Qp{acc:Array ag}(h:ItemsOf (λi v=>aj[aj.size-1-i]? = ab v) acc aj.size):acc.toList=aj.toList.reverse:=by
 have hl:acc.size=aj.size:=h.1;refine List.ext_getElem? λi=>?_;rcases xc i aj.size with lt|ge
 ·have lt':i<acc.size:=by omega
  have:=h.2 i acc[i] (pT lt');rw[rG,pT lt',List.getElem?_reverse (by simpa using lt),nX,rG];exact this.symm
 ·rw[A5 (by rw[nX];omega),A5 (by rw[IH,nX];omega)]
theorem LX{Q:ag->ao->Prop}(hh:A.handled=ae)(x:gD s.heap I t ((aj.size:Int)-1))(ht:s.heap.IsTuple t aj)(hne:t≠I)(hf:aj.size<=1000)
 (q:∀(h':aI) (tk:Nat),(∀b o,b≠I->s.heap.get? b=ab o->h'.get? b=ab o)->Q (.ref h'.objs.size) { s with heap:=h'.push { cls:=.type "tuple",data:=.seq aj.toList.reverse.toArray },toks:=tk }):wpAny (model P w) A (call (.type "tuple") [.ref I]) Q E s:=by
 refine callType_codes (Q₁:=λobj s₁=>s₁.TypeIs obj "tuple" /\ Q obj s₁) BC (F.typeCall_tuple_1 _) F.entry_object_init (QK hh x ht hne hf λs' acc mv hi=>⟨⟨_,bS _ rfl,rfl⟩,?_⟩) λobj s₁ h₁=>?_
 ·have e:acc=aj.toList.reverse.toArray:=by rw[<- Qp hi]
  obtain⟨h',g',d',t',o'⟩:=s';obtain⟨m1,m2,m3,m4,m5⟩:=mv;dsimp only at m1 m2 m3 m4 m5 ⊢;subst m2 m3 m4 e;exact q h' t' λb o hb z=>m1 b o (λy=>hb (ej.mp y)) z
 ·exact⟨h₁.1,BB obj _,object_init_meets BC.init.lookup BC.made (by decide) P w A.in1 _ s₁ ⟨h₁.1,rfl,h₁.2⟩⟩
end
section
variable{X:Cx}
def qU(p a:ah)(n:Nat):aI->Prop:=λh=>gD h p a ((n:Int)-1)
def m9(H:Hp)(p:ah):Hp:=λb=>if b=p then ae else H b
theorem ou{H:Hp}{p b:ah}(h:b≠p):m9 H p b=H b:=by unfold m9;rw[ay h]
def DR(X:Cx):List V->Hp->VK->Prop:=λxs H Q=>∃a ys,xs=[V.ref a]/\H a=ab (.tup ys)/\ys.length<=1000/\∀p,H p=ae->X.s₀.heap.objs.size<=p->Q (.ref p) (upd H p (.ext (qU p a ys.length)))
theorem QJ:fZ X (.type "reversed") (DR X):=by intro af s σ H xs us Q I r h;obtain⟨a,ys,rfl,ha,hl,q⟩:=h;obtain⟨u,rfl,ru⟩:=vals1 r;cases ru;obtain⟨_,aj,rv,tn⟩:=(show bQ X.prog X.w H s.heap a (.tup ys)from I.hok a _ ha);have e:=rv.length;refine QM (aj:=aj.toArray) tn.tup (by rw[bK];omega) λtk=>?_;refine⟨.ref s.heap.objs.size,_,I.laid (a:=s.heap.objs.size) (o:=.ext (qU s.heap.objs.size a ys.length)) (t':=tk) (λ_ _ q=>bD _ q) (ba _) ⟨⟨_,bS _ rfl,rfl,?_⟩,⟨_,bS _ rfl⟩,λh1 h2 z k=>z.go k⟩,rfl,q _ I.fresh I.sz⟩;show Data.fields _=_;rw[bK,e]
def Dx(X:Cx):List V->Hp->VK->Prop:=λxs H Q=>∃p a ys,xs=[V.ref p]/\H p=ab (.ext (qU p a ys.length))/\X.s₀.heap.objs.size<=p/\H a=ab (.tup ys)/\ys.length<=1000/\∀r,m9 H p r=ae->Q (.ref r) (upd (m9 H p) r (.tup ys.reverse))
theorem Dn:∀{xs:List V} {us:List ag},Vals xs us->Vals xs.reverse us.reverse
 |_,_,.nil=>.nil
 |_,_,.cons r t=>by rw[rA,rA];exact(Dn t).append (.cons r .nil)
theorem Lh(hc:X.calm=true):fZ X (.type "tuple") (Dx X):=by
 intro af s σ H xs us Q I r h;obtain⟨p,a,ys,rfl,hp,hs0,ha,hl,q⟩:=h;obtain⟨u,rfl,ru⟩:=vals1 r;cases ru;obtain⟨hz,aj,rv,tn⟩:=(show bQ X.prog X.w H s.heap a (.tup ys)from I.hok a _ ha);obtain⟨x,_,_⟩:=(show bQ X.prog X.w H s.heap p (.ext (qU p a ys.length))from I.hok p _ hp);have e:=rv.length;have x:gD s.heap p a ((aj.toArray.size:Int)-1):=by rw[bK,<- e];exact x
 have hne:a≠p:=λz=>by subst z;rw[ha]at hp;cases hp
 have np:∀b,H b=ae->b≠p:=λb n z=>by subst z;rw[hp]at n;cases n
 have nt:∀b u,H b=ab u->u≠.ext (qU p a ys.length)->b≠p:=λb u n m z=>by subst z;rw[hp]at n;exact m (gi n).symm
 refine LX (I.ok.hd hc) x tn.tup hne (by rw[bK];omega) λh' tk hk=>?_;have I1:Inv X af σ (m9 H p) { s with heap:=h',toks:=tk }:=by
  refine I.step (g':=s.gens) (d':=s.drawn) (ch:=[p]) (λb hb=>?_) (λb o _ _ hc e _=>hk b o (λz=>hc (by simp[z])) e) (λb o _ _ hc e _=>⟨o.slots,hk b o (λz=>hc (by simp[z])) e⟩) (λb o hc e n=>by rw[ou (λz=>hc (by simp[z]))];exact n)
   (λb o hc e=>⟨o,hk b o (λz=>hc (by simp[z])) e⟩) (λb xs e=>by rw[ou (nt b _ e (by simp))];exact e) (λb o u e=>by rw[ou (nt b _ e (by simp))];exact e) (λb w ps e=>⟨#[],by rw[ou (nt b _ e (by simp)),e];simp⟩) (λm hm=>?_) (λb u e=>?_) I.bare
  ·cases ej.mp hb;exact⟨.inr hs0,(np _ I.free).symm,λx c e=>np c (I.jx x c e),λy hy=>np y.1 (I.pin y hy).2.1⟩
  ·obtain⟨o,es,ep,ho,r⟩:=hm;exact⟨o,es,ep,hk _ o (np _ I.free) ho,r⟩
  ·have hb:b≠p:=λz=>by subst z;unfold m9 at e;rw[aH rfl]at e;cases e
   rw[ou hb]at e;refine(I.hok b u e).stay (λc v hc z=>hk c v ?_ z) (λc z=>by rw[ou (nt c _ z (by simp))];exact z) λc xs z=>by rw[ou (nt c _ z (by simp))];exact z
   rcases hc with rfl|hc
   ·exact hb
   ·exact nt c _ hc (by simp)
 refine⟨.ref h'.objs.size,_,I1.laid (a:=h'.objs.size) (o:=.tup ys.reverse) (t':=tk) (λ_ _ q=>bD _ q) (ba _) ⟨by rw[IH];exact hz,aj.reverse,Dn rv,?_⟩,rfl,q _ I1.fresh⟩;exact oP.new h' _
end
end L2
namespace A
open PySem L2 PyProof.Rows
open Mi (D W Rs Fin au)
variable[Tb:bE]{M:Nat->Bool}
theorem LK{X:Cx}{ta:TE}{a:Mi.E}(ha:AE M qP ta a):AE M qV (lf (Dx X) (fu (lf (DR X) (fu ta f6)) f6)) (Mi.m1 Mi.nk a):=λe σ H Hv Q I h=>
 ha e σ H Hv _ I ((au.mp h).mono λd hd v H1 Hv1 g1 r=>by
  cases d with
  |tup ds=>
   obtain⟨hl,hd⟩:=Mi.cr hd;obtain⟨a,xs,rfl,ha,hv,c⟩:=RD.tup g1.vw r;have e:=c.len;refine⟨a,xs,rfl,ha,by omega,λp hp hs=>⟨p,a,xs,rfl,bj,hs,by rw[aC (cJ ha hp)];exact ha,by omega,λr hr=>?_⟩⟩;have ed:m9 (upd H1 p (.ext (qU p a xs.length))) p=H1:=by
    funext b;unfold m9;split
    ·rename_i z;rw[z,hp]
    ·rename_i z;exact aC z
   rw[ed]at hr ⊢;obtain⟨g2,k⟩:=ot g1.vw c.rev hr;exact hd (.ref r) _ _ (g1.trans g2) k
  |_=>exact hd.elim)
end A
namespace So
open PySem PySem.W PyProof.Rows PySem.MeetsSeq3
section
variable{prog:bg}{w:aY}{Ar:bv}
theorem MH{R:Result->ao->Prop}{s:ao}{l b:ah}{us vs:List ag}{xs ys:List Int}{o o2:Obj}{n n2:Nat}(ho:s.heap.get? l=ab o)(hd:o.data=.seq us.toArray n)(ho2:s.heap.get? b=ab o2)(hd2:o2.data=.seq vs.toArray n2)(hu:gJ us xs)(hv:gJ vs ys) :
 ∀(k i:Nat),xs.length-i<=k->i<=xs.length->i<=ys.length->R (.ok (.ret (.bool (gv (xs.drop i) (ys.drop i))))) s->codeAny (model prog w) Ar (.builtin "list.__eq__.loop" ⟨[.ref l,.ref b,rawInt i,rawInt 1],[]⟩) R s:=by
 have l1:=hu.length;have l2:=hv.length;have gx:∀i,i<xs.length->∃t,us.toArray[i]? = ab (.int (xs.getD i 0) t):=λi hi=>by
  obtain⟨t,e⟩:=vc hu (i:=i) (n:=xs.getD i 0) (by simp[hi]);exact⟨t,by simpa using e⟩
 have gy:∀i,i<ys.length->∃t,vs.toArray[i]? = ab (.int (ys.getD i 0) t):=λi hi=>by
  obtain⟨t,e⟩:=vc hv (i:=i) (n:=ys.getD i 0) (by simp[hi]);exact⟨t,by simpa using e⟩
 have nx:∀i,¬ i<xs.length->us.toArray[i]? = ae:=λi hi=>by simp;omega
 have ny:∀i,¬ i<ys.length->vs.toArray[i]? = ae:=λi hi=>by simp;omega
 have uy:∀i,i=xs.length->i<=ys.length->decide (us.toArray.size<=vs.toArray.size)=gv (xs.drop i) (ys.drop i):=λi hi hj=>by
  rw[nM (by omega:xs.length<=i),bK,bK,l1,l2];by_cases h:i<ys.length
  ·rw[ko h];simp[gv];omega
  ·rw[nM (by omega:ys.length<=i)];simp[gv];omega
 have BW:∀i,i<xs.length->i=ys.length->decide (us.toArray.size<=vs.toArray.size)=gv (xs.drop i) (ys.drop i):=λi hi hj=>by
  rw[nM (by omega:ys.length<=i),ko hi,bK,bK,l1,l2];simp[gv];omega
 have fin:∀(i:Nat),(us.toArray[i]? = ae\/vs.toArray[i]? = ae)->R (.ok (.ret (.bool (decide (us.toArray.size<=vs.toArray.size))))) s->codeAny (model prog w) Ar (.builtin "list.__eq__.loop" ⟨[.ref l,.ref b,rawInt i,rawInt 1],[]⟩) R s:=λi hn h=>by
  refine nF xy (by
   rw[nY n5 _];unfold eX.«list.__eq__.loop»;show wpAny _ _ (xu (.ref l) >>= _) _ _ _;refine ak (fo ho hd (ak (fo ho2 hd2 ?_)));simp only[fR];rcases hn with e|e
   ·rw[e];dsimp only;refine ak (fo ho hd (ak (fo ho2 hd2 ?_)));exact ax h
   ·rw[e];cases us.toArray[i]? <;>
    ·dsimp only;refine ak (fo ho hd (ak (fo ho2 hd2 ?_)));exact ax h)
 intro k
 induction k with
 |zero=>
  intro i hk h1 h2 h;refine fin i (.inl (nx i (by omega))) ?_;rw[uy i (by omega) h2];exact h
 |succ k ih=>
  intro i hk h1 h2 h;by_cases hi:i<xs.length
  ·by_cases hj:i<ys.length
   ·obtain⟨t,e1⟩:=gx i hi;obtain⟨u,e2⟩:=gy i hj;have dx:xs.drop i=xs.getD i 0::xs.drop (i+1):=by rw[ko hi];simp[hi]
    have dy:ys.drop i=ys.getD i 0::ys.drop (i+1):=by rw[ko hj];simp[hj]
    rw[dx,dy]at h;refine nF xy (by
     rw[nY n5 _];unfold eX.«list.__eq__.loop»;show wpAny _ _ (xu (.ref l) >>= _) _ _ _;refine ak (fo ho hd (ak (fo ho2 hd2 ?_)));simp only[fR];rw[e1,e2];dsimp only;refine ak (wpAny_eqBool_int ?_);cases hb:(xs.getD i 0==ys.getD i 0)with
     |true=>
      rw[aH rfl];rw[gv,hb,aH rfl]at h;refine ax ⟨md n5 _,?_⟩;have:=ih (i+1) (by omega) hi hj h;rw[show rawInt ((i+1:Nat):Int)=rawInt ((i:Int)+1)from by rw[show((i+1:Nat):Int)=(i:Int)+1 by omega]]at this;exact this
     |false=>
      rw[ay cy];rw[gv,hb,ay cy]at h;refine ak (fo ho hd (ak (fo ho2 hd2 ?_)));rw[e1,e2];show wpAny _ _ (richCompare .LtE _ _ >>= _) _ _ _;exact ak (show wpAny _ _ (compareOp .LtE _ _) _ _ _ from PySem.P.le_int (ax h)))
   ·refine fin i (.inr (ny i hj)) ?_;rw[BW i hi (by omega)];exact h
  ·refine fin i (.inl (nx i hi)) ?_;rw[uy i (by omega) h2];exact h
theorem NL{A:bv}{E:ag->ao->Prop}{s:ao}{l b:ah}{us vs:List ag}{xs ys:List Int}{o o2:Obj}{n n2:Nat}{Q:ag->ao->Prop}(ho:s.heap.get? l=ab o)(hc:o.cls=.type "list")(hd:o.data=.seq us.toArray n)(ho2:s.heap.get? b=ab o2)(hc2:o2.cls=.type "list")(hd2:o2.data=.seq vs.toArray n2)(hu:gJ us xs)(hv:gJ vs ys)
 (hun:A.units<cLine) (h:Q (.bool (gv xs ys)) s):wpAny (model prog w) A (compareOp .LtE (.ref l) (.ref b)) Q E s:=by
 have t1:s.TypeIs (.ref l) "list" := ⟨_,ho,hc⟩;have t2:s.TypeIs (.ref b) "list" := ⟨_,ho2,hc2⟩;show wpAny _ _ (richCompare .LtE _ _) _ _ _;refine wpAny_richCompare_same_room t1 t2 BA (wL (codeAny_call_builtin BA.plain PySem.F.entry_list_le (BA.check _ _ _ _ _ _ _ _ t1 (PySem.F.args_list_le_2 _ _) ?_))) hun;unfold eX.«list.__le__»;have sub:isSubtype (.type "list") (.type "list")=pure true:=by rw[nG];kernel_rfl
 show wpAny _ _ (isInstance (.ref b) (.type "list") >>= _) _ _ _;refine ak (nE t2 sub (ax ⟨md n5 _,?_⟩));exact MH ho hd ho2 hd2 hu hv xs.length 0 (by omega) (eZ _) (eZ _) ⟨by simp,h⟩
end
end So
namespace L2
open PySem PySem.Spec PyProof.Rows
variable{X:Cx}[Tb:A.bE]
theorem zZ:∀{ns:List Int} {us:List ag},Vals (ns.map V.int) us->gJ us ns
 |[],_,.nil=>.nil
 |n::ns,_,.cons ⟨t,e⟩ r=>by subst e;exact .cons n t (zZ r)
def HA:R2:=λx y H Q=>∃l b xs ys,x=.ref l/\y=.ref b/\A.Lst H l (xs.map V.int)/\A.Lst H b (ys.map V.int)/\Q (.bl (So.gv xs ys)) H
theorem LG(hu:X.A.units+64<cLine):cQ X (compareOp .LtE) HA:=by intro af s σ H x y v u Q I rx ry h;obtain⟨l,b,xs,ys,rfl,rfl,hl,hb,q⟩:=h;cases rx;cases ry;obtain⟨aj,n,r,z,e⟩:=A.oQ I hl;obtain⟨its2,n2,r2,z2,e2⟩:=A.oQ I hb;exact So.NL e rfl rfl e2 rfl rfl (zZ r) (zZ r2) (by omega) ⟨.bl _,H,I,rfl,q⟩
def Fu:R2:=λx y H Q=>jI (λi j=>.bl (decide (i<=j))) x y H Q\/HA x y H Q
theorem Kz(hu:X.A.units+64<cLine):cQ X (compareOp .LtE) Fu:=Q2.or (LG hu)
end L2
namespace A
open PySem L2 PyProof.Rows
open Mi (D W Rs Fin au)
variable[Tb:bE]{M:Nat->Bool}
theorem zP{H:Hp}:∀{ds:List D} {xs:List V} {ns:List Int},Mi.gQ ds=ab ns->P2 (Rep H) ds xs->xs=ns.map V.int
 |[],_,ns,h,.nil=>by cases h;rfl
 |d::ds,_,ns,h,.cons x t=>by
  cases d with
  |int i=>
   rw[Mi.gQ]at h;cases hr:Mi.gQ ds with
   |none=>rw[hr]at h;cases h
   |some ms=>
    rw[hr]at h;cases h;rw[ox.mp x,zP hr t];rfl
  |_=>cases h
theorem M2:B2 qV Fu Mi.qi:=λx y v u H Hv Q vw rx ry h=>by
 cases x with
 | int i=>cases y with
  |int j=>cases RD.int rx;cases RD.int ry;exact .inl ⟨i,j,rfl,rfl,h _ H Hv (.refl vw) fE⟩
  |_=>exact h.elim
 | lst a=>cases y with
  |lst b=>
   obtain⟨xs,ex,h⟩:=gC (au.mp h);obtain⟨ys,ey,h⟩:=gC (au.mp h);obtain⟨l,ls,rfl,l1,r1⟩:=RD.lst vw rx;obtain⟨m,ms,rfl,l2,r2⟩:=RD.lst vw ry;rw[zP ex r1]at l1;rw[zP ey r2]at l2;exact .inr ⟨l,m,xs,ys,rfl,rfl,l1,l2,h _ H Hv (.refl vw) fE⟩
  |_=>exact h.elim
 |_=>exact h.elim
end A
namespace Mi
open PySem
end Mi
namespace L2
open PySem PySem.Spec PyProof.Rows
open PySem.Builtin PySem.Builtin.Str
end L2
namespace A
open PySem L2 PyProof.Rows So
open Mi (D W Rs Fin au)
variable[Tb:bE]
end A
namespace Mi
open PySem
end Mi
namespace L2
open PySem PySem.Spec PyProof.Rows
end L2
namespace A
open PySem L2 PyProof.Rows So
open Mi (D W Rs Fin au)
variable[Tb:bE]
end A
namespace Mi
end Mi
namespace A
open PySem L2 PyProof.Rows
open Mi (D W Rs Fin au)
variable[Tb:bE]
end A
namespace Mi
end Mi
namespace A
open PySem L2 PyProof.Rows
open Mi (D W Rs Fin au)
variable[Tb:bE]{M:Nat->Bool}{κ:Kd}{tr:TA}{a b:Mi.E}
end A
namespace A
open PySem L2 PyProof.Rows
section
variable[Tb:bE]
def tv(Hv:Hp):Hp:=λa=>match Hv a with
 |some (.tup xs)=>ab (.tup xs)
 |some (.frz o u)=>ab (.frz o u)
 |_=>ae
theorem vH{Hv:Hp}{a:ah}{o:HO}(h:tv Hv a=ab o):Hv a=ab o:=by
 unfold tv at h;cases q:Hv a with
 |none=>rw[q]at h;cases h
 |some u=>
  rw[q]at h;cases u<;>first|exact h|cases h
theorem zf{Hv:Hp}{a:ah}{xs:List V}(h:Hv a=ab (.tup xs)):tv Hv a=ab (.tup xs):=by unfold tv;rw[h]
theorem EK{Hv:Hp}{a:ah}{o:Obj}{u:HO}(h:Hv a=ab (.frz o u)):tv Hv a=ab (.frz o u):=by unfold tv;rw[h]
theorem AG{Hv:Hp}{a:ah}{o:HO}(h:tv Hv a=ab o):(∃xs,o=.tup xs)\/∃b u,o=.frz b u:=by
 unfold tv at h;cases q:Hv a with
 |none=>rw[q]at h;cases h
 |some u=>
  rw[q]at h;cases u<;>first|(cases h;exact .inl ⟨_,rfl⟩)|(cases h;exact .inr ⟨_,_,rfl⟩)|cases h
theorem Vw.tv{H Hv:Hp}(v:Vw H Hv):Vw H (tv Hv):=⟨λa o h=>v.sub a o (vH h),λa xs h=>zf (v.tup a xs h),λa o u h=>EK (v.frz a o u h),v.cd,λa o h=>v.nv a o (vH h)⟩
def jn(Hv Hv':Hp):Hp:=λa=>match Hv a with
 |some o=>ab o
 |none=>Hv' a
theorem qa{Hv Hv':Hp}{a:ah}{o:HO}(h:Hv a=ab o):jn Hv Hv' a=ab o:=by unfold jn;rw[h]
theorem qz{Hv Hv':Hp}{a:ah}(h:Hv a=ae):jn Hv Hv' a=Hv' a:=by unfold jn;rw[h]
theorem bb.join{H Hv H' Hv':Hp}(v:Vw H Hv)(g:bb H (A.tv Hv) H' Hv'):bb H Hv H' (jn Hv Hv'):=by
 have up:∀{a o},Hv a=ab o->H' a=ab o:=λ{a o} h=>g.old.nt a o (v.sub a o h) (v.nv a o h);refine⟨g.old,λa o h=>qa h,⟨λa o h=>?_,λa xs h=>?_,λa o u h=>?_,g.vw.cd,λa o h=>?_⟩,λa o h n=>?_⟩
 ·cases q:Hv a with
  |none=>rw[qz q]at h;exact g.vw.sub a o h
  |some u=>rw[qa q]at h;cases h;exact up q
 ·cases q:Hv a with
  |none=>rw[qz q];exact g.vw.tup a xs h
  |some u=>rw[qa q];have:=up q;rw[h]at this;exact this.symm
 ·cases q:Hv a with
  |none=>rw[qz q];exact g.vw.frz a o u h
  |some w=>rw[qa q];have:=up q;rw[h]at this;exact this.symm
 ·cases q:Hv a with
  |none=>rw[qz q]at h;exact g.vw.nv a o h
  |some u=>rw[qa q]at h;cases h;exact v.nv a o q
 ·rw[qz n];refine g.hid a o h ?_;unfold A.tv;rw[n]
theorem bb.lists{H Hv H' Hv':Hp}(g:bb H (A.tv Hv) H' Hv'){a:ah}{xs:List V}(h:Hv' a=ab (.lst xs)):H a=ae:=by
 cases q:H a with
 |none=>rfl
 |some o=>
  cases z:A.tv Hv a with
  |none=>rw[g.hid a o q z]at h;cases h
  |some u=>
   have e:=g.vis a u z;rw[h]at e;cases e;rcases AG z with ⟨_,k⟩|⟨_,_,k⟩<;>cases k
theorem Qz{H Hv H' Hv':Hp}(v:Vw H Hv)(g:bb H (A.tv Hv) H' Hv'):cK Hv' (jn Hv Hv'):=λa o h=>by
 cases q:Hv a with
 |none=>rw[qz q];exact h
 |some u=>
  rw[qa q];have:=g.old.nt a u (v.sub a u q) (v.nv a u q);rw[g.vw.sub a o h]at this;exact this.symm
end
end A
namespace A
open PySem L2 PyProof.Rows
open Mi (D)
mutual
def iw:D->Bool
 |.lst _=>false
 |.tup ds=>jU ds
 |_=>true
def jU:List D->Bool
 |[]=>true
 |d::r=>iw d&&jU r
end
section
variable[Tb:bE]
mutual
theorem HC{Hv:Hp}:∀{d:D} {v:V},iw d=true->Rep Hv d v->Rep (tv Hv) d v
 |.non,v,_,h=>by rw[Rep]at h ⊢;exact h
 |.bl b,v,_,h=>by rw[Rep]at h ⊢;exact h
 |.int i,v,_,h=>by rw[Rep]at h ⊢;exact h
 |.str x,v,_,h=>by rw[Rep]at h ⊢;exact h
 |.lst ds,v,n,h=>by rw[iw]at n;cases n
 |.tup ds,v,n,h=>by
  rw[Rep]at h ⊢;rw[iw]at n;obtain⟨a,xs,e,q,r⟩:=h;exact⟨a,xs,e,zf q,FX n r⟩
theorem FX{Hv:Hp}:∀{ds:List D} {vs:List V},jU ds=true->bc Hv ds vs->bc (tv Hv) ds vs
 |[],vs,_,h=>by rw[bc]at h ⊢;exact h
 |d::ds,vs,n,h=>by
  rw[bc]at h ⊢;rw[jU,g6]at n;obtain⟨v,r,e,p,q⟩:=h;exact⟨v,r,e,HC n.1 p,FX n.2 q⟩
end
def kp(Hv H:Hp):Hp:=λa=>match Hv a with
 |some o=>ab o
 |none=>tv H a
theorem tJ{Hv H:Hp}{a:ah}{o:HO}(h:Hv a=ab o):kp Hv H a=ab o:=by unfold kp;rw[h]
theorem se{Hv H:Hp}{a:ah}(h:Hv a=ae):kp Hv H a=tv H a:=by unfold kp;rw[h]
def k7(H H1 H2:Hp):Prop:=∀a,H2 a=H1 a\/(H a=ae/\(∃xs,H1 a=ab (.lst xs))/\∃ys,H2 a=ab (.lst ys))
theorem k7.refl{H H1:Hp}:k7 H H1 H1:=λ_=>.inl rfl
theorem k7.put{H H1 H2:Hp}(e:k7 H H1 H2){p:ah}{xs ys:List V}(h:H p=ae)(q:H2 p=ab (.lst xs)):k7 H H1 (upd H2 p (.lst ys)):=λa=>by
 by_cases z:a=p
 ·subst z;refine .inr ⟨h,?_,_,bj⟩;rcases e a with k|⟨_,k,_⟩
  ·exact⟨xs,by rw[<- k];exact q⟩
  ·exact k
 ·rw[aC z];exact e a
theorem bb.emptied{H Hv H1 Hv1 H2:Hp}(v:Vw H Hv)(g:bb H Hv H1 Hv1)(e:k7 H H1 H2):bb H Hv H2 (kp Hv H2):=by
 have keep:∀{a o},H a=ab o->H2 a=H1 a:=λ{a o} h=>by
  rcases e a with k|⟨k,_⟩
  ·exact k
  ·rw[h]at k;cases k
 have same:∀{a o},H1 a=ab o->(∀xs,o≠.lst xs)->H2 a=ab o:=λ{a o} h n=>by
  rcases e a with k|⟨_,⟨xs,k⟩,_⟩
  ·rw[k];exact h
  ·rw[h]at k;cases k;exact absurd rfl (n xs)
 have back:∀{a o},H2 a=ab o->(∀xs,o≠.lst xs)->H1 a=ab o:=λ{a o} h n=>by
  rcases e a with k|⟨_,_,ys,k⟩
  ·rw[<- k];exact h
  ·rw[h]at k;cases k;exact absurd rfl (n ys)
 have up:∀{a o},Hv a=ab o->H2 a=ab o:=λ{a o} h=>by
  rw[keep (v.sub a o h)];exact g.old.nt a o (v.sub a o h) (v.nv a o h)
 refine⟨⟨λa o h n=>?_,λa h=>?_,λa w ps h=>?_⟩,λa o h=>tJ h,⟨λa o h=>?_,λa xs h=>?_,λa o u h=>?_,⟨λr hr=>?_,λT q ps h=>?_,λa o xs h=>?_⟩,λa o h=>?_⟩,λa o h n=>?_⟩
 ·rw[keep h];exact g.old.nt a o h n
 ·rcases e a with k|⟨k,_⟩
  ·rw[k]at h;exact g.old.dom a h
  ·exact k
 ·rw[keep h];exact g.old.tb a w ps h
 ·cases q:Hv a with
  |none=>rw[se q]at h;exact vH h
  |some u=>rw[tJ q]at h;cases h;exact up q
 ·cases q:Hv a with
  |none=>rw[se q];exact zf h
  |some u=>rw[tJ q];have:=up q;rw[h]at this;exact this.symm
 ·cases q:Hv a with
  |none=>rw[se q];exact EK h
  |some w=>rw[tJ q];have:=up q;rw[h]at this;exact this.symm
 ·obtain⟨ps,k⟩:=g.vw.cd.has r hr;exact⟨ps,same k (λ_ z=>by cases z)⟩
 ·obtain⟨t,k⟩:=g.vw.cd.cd T q ps (back h (λ_ z=>by cases z));refine⟨t,λpos x z=>?_⟩;obtain⟨c,c1,c2⟩:=k pos x z;exact⟨c,c1,same c2 (λ_ z=>by cases z)⟩
 ·exact g.vw.cd.fz a o xs (back h (λ_ z=>by cases z))
 ·cases q:Hv a with
  |none=>
   rw[se q]at h;rcases AG h with ⟨_,k⟩|⟨_,_,k⟩<;>subst k<;>trivial
  |some u=>rw[tJ q]at h;cases h;exact v.nv a o q
 ·rw[se n];cases z:tv H2 a with
  |none=>rfl
  |some u=>
   exfalso;have e1:=vH z;rw[keep h]at e1;rcases AG z with ⟨xs,k⟩|⟨b,w,k⟩
   ·subst k;by_cases t:NT o
    ·have:=g.old.nt a o h t;rw[e1]at this;cases this;rw[v.tup a xs h]at n;cases n
    ·cases o<;>first|exact t trivial|skip
     obtain⟨_,y⟩:=g.old.tb a _ _ h;rw[e1]at y;cases y
   ·subst k;by_cases t:NT o
    ·have:=g.old.nt a o h t;rw[e1]at this;cases this;rw[v.frz a b w h]at n;cases n
    ·cases o<;>first|exact t trivial|skip
     obtain⟨_,y⟩:=g.old.tb a _ _ h;rw[e1]at y;cases y
end
end A
namespace A
open PySem L2 PyProof.Rows
section
variable{K:aE}{i j:Nat}{D:Ends}{Hc:Hp}[Tb:bE]
def oJ(Hc H:Hp)(l:ah)(x:V):Prop:=∃q ys,x=.ref q/\H q=ab (.lst ys)/\q≠l/\Hc q=ae
theorem oJ.put{H:Hp}{l q:ah}{x:V}{ys:List V}(h:oJ Hc H l x):oJ Hc (upd H q (.lst ys)) l x:=by
 obtain⟨p,zs,e,h1,h2,h3⟩:=h;by_cases z:p=q
 ·subst z;exact⟨p,ys,e,bj,h2,h3⟩
 ·exact⟨p,zs,e,by rw[aC z];exact h1,h2,h3⟩
theorem Qd(ij:i≠j){xs:List V}{l:ah}{σ:L2.St}{H:Hp}(hi:σ[i]? = ab (ab (.ref l)))(hj:j < σ.length)(hl:H l=ab (.lst xs))(hx:∀x∈xs,oJ Hc H l x)
 (h:∀(σ':L2.St) H',σ'.length = σ.length->(∀k,k≠j->σ'[k]? = σ[k]?)->k7 Hc H H'->H' l=ab (.lst xs)->D.nx σ' H') :
 sY (qX K (dM i)) (fL j) (k8 (mQ K "list" qg (dM j))) D σ H:=by
 refine .inl ⟨_,hi,l,rfl,⟨xs,.inl (.inl hl)⟩,?_⟩;let W:Nat->Nat->L2.St->Hp->Prop:=λn m σ' H'=>m=xs.length-n/\n<=xs.length/\σ'.length = σ.length/\(∀k,k≠j->σ'[k]? = σ[k]?)/\k7 Hc H H'/\H' l=ab (.lst xs)/\∀x∈xs,oJ Hc H' l x;refine⟨W,⟨xs.length,rfl,eZ _,rfl,λ_ _=>rfl,k7.refl,hl,hx⟩,?_⟩;rintro n m σ' H' ⟨rfl,hn,e1,e2,e3,e4,e5⟩;by_cases c:n<xs.length
 ·refine .inr ⟨⟨xs,xs[n],.inl (.inl e4),fF c⟩,λσ2 H2=>W (n+1) (xs.length-(n+1)) σ2 H2,λσ2 H2 w=>⟨_,by omega,w⟩,?_⟩;rintro x H2 ⟨rfl,y⟩;have hxn:=y xs (.inl (.inl e4));obtain⟨q,ys,rfl,q1,q2,q3⟩:=e5 x (fj hxn);refine⟨.ref q,by rw[mf (by rw[e1];exact hj)],.inl ⟨rfl,ys,.inl (.inl q1)⟩,q,ys,rfl,rfl,q1,rfl,c,?_,?_,e3.put q3 q1,?_,λz hz=>(e5 z hz).put⟩
  ·rw[iT];exact e1
  ·intro k hk;rw[fi (cR hk)];exact e2 k hk
  ·rw[aC (cR q2)];exact e4
 ·exact .inl ⟨⟨xs,.inl (.inl e4),by omega⟩,h σ' H' e1 e2 e3 e4⟩
theorem Qt(ij:i≠j){xs:List V}{l:ah}{σ:L2.St}{H:Hp}(hi:σ[i]? = ab (ab (.ref l)))(hj:j < σ.length)(hl:H l=ab (.lst xs))(hc:Hc l=ae)(hx:∀x∈xs,oJ Hc H l x){t:TS}
 (h:∀(σ':L2.St) H',σ'.length = σ.length->(∀k,k≠j->σ'[k]? = σ[k]?)->k7 Hc H H'->t D σ' H') :
 mD (sY (qX K (dM i)) (fL j) (k8 (mQ K "list" qg (dM j)))) (mD (k8 (mQ K "list" qg (dM i))) t) D σ H:=by
 refine Qd ij hi hj hl hx λσ' H' e1 e2 e3 e4=>?_;refine⟨.ref l,by rw[e2 i ij];exact hi,.inl ⟨rfl,xs,.inl (.inl e4)⟩,l,xs,rfl,rfl,e4,?_⟩;exact h σ' _ e1 e2 (e3.put hc e4)
end
end A
namespace Mi
def vB:Option W->Option W
 |some (.d d)=>if A.iw d=true then ab (.d d)else ae
 |_=>ae
theorem L6:∀{o:Option W} {w:W},vB o=ab w->∃d,w=.d d/\A.iw d=true/\o=ab (.d d):=λ{o w} h=>by
 cases o with
 |none=>cases h
 |some u=>
  cases u with
  |d x=>
   by_cases z:A.iw x=true
   ·have h':(if A.iw x=true then ab (W.d x)else ae)=ab w:=h;rw[aH z]at h';injection h' with h';exact⟨x,h'.symm,z,rfl⟩
   ·have h':(if A.iw x=true then ab (W.d x)else ae)=ab w:=h;rw[ay z]at h';cases h'
  |_=>cases h
def m7(ks:List Nat):Nat->Env->Env
 |_,[]=>[]
 |n,o::r=>(if n∈ks then vB o else ae)::m7 ks (n+1) r
def rh(ks:List Nat)(e:Env):Env:=m7 ks 0 e
def freshD:D->Bool
 |.lst ds=>ds.all λy=>match y with|.lst (.str _::_)=>true|_=>false
 |_=>false
def wg(ks:List Nat)(i j:Nat)(a:E)(c:C)(f r:S):S:=λe=>
 (a (rh ks e)).bind λd=>if(freshD d&&decide (i<e.length)&&decide (j<e.length))=true then
  (c (e.set i (ab (.d d)))).bind λb=>if b=true then(f (e.set i (ab (.d d)))).bind (λo=>match o with|.rt w=>.ok (.rt w)|_=>.no)else r ((e.set i ae).set j ae)
 else .no
theorem Eg(ks:List Nat):∀(n:Nat) (e:Env),(m7 ks n e).length=e.length
 |_,[]=>rfl
 |n,o::r=>by rw[m7,dW,dW,Eg ks (n+1) r]
theorem zg(ks:List Nat):∀(n:Nat) (e:Env) {k:Nat} {w:W},(m7 ks n e)[k]? = ab (ab w)->n+k∈ks/\∃d,w=.d d/\A.iw d=true/\e[k]? = ab (ab (.d d))
 |_,[],k,w,h=>by rw[m7]at h;cases h
 |n,o::r,0,w,h=>by
  rw[m7,me]at h;by_cases c:n∈ks
  ·rw[aH c]at h;injection h with h;obtain⟨d,e1,e2,e3⟩:=L6 h;exact⟨c,d,e1,e2,by rw[me,e3]⟩
  ·rw[ay c]at h;cases h
 |n,o::r,k+1,w,h=>by
  rw[m7,li]at h;obtain⟨h1,h2⟩:=zg ks (n+1) r h;exact⟨by rw[show n+(k+1)=n+1+k by omega];exact h1,by rw[li];exact h2⟩
end Mi
namespace A
open PySem L2 PyProof.Rows
open Mi (D W Rs Fin au Out)
section
variable[Tb:bE]{M:Nat->Bool}{κ:Kd}
theorem R0.rh{e:Mi.Env}{σ:L2.St}{H Hv:Hp}(I:R0 M e σ H Hv){ks:List Nat}(hk:∀k∈ks,M k=false):R0 M (Mi.rh ks e) σ H (tv Hv):=by
 refine⟨I.vw.tv,by rw[I.len];exact(Mi.Eg ks 0 e).symm,λk w h m=>?_,λk w h m=>?_⟩
 ·obtain⟨_,d,rfl,n,h⟩:=Mi.zg ks 0 e h;obtain⟨v,q,z⟩:=I.nob k _ h m;exact⟨v,q,HC n z⟩
 ·obtain⟨h1,_⟩:=Mi.zg ks 0 e h;rw[dX]at h1;rw[hk k h1]at m;cases m
theorem sn{e:Mi.Env}{i j k:Nat}{w:W}(h:((e.set i ae).set j ae)[k]? = ab (ab w)):k≠i/\k≠j/\e[k]? = ab (ab w):=by
 have a:k≠j:=λz=>by
  subst z;rw[t7]at h;rw[aH rfl]at h;split at h<;>cases h
 rw[fi (cR a)]at h;have b:k≠i:=λz=>by
  subst z;rw[t7]at h;rw[aH rfl]at h;split at h<;>cases h
 rw[fi (cR b)]at h;exact⟨b,a,h⟩
theorem R1.Oo{H0 Hv0:Hp}{e:Mi.Env}{σ σ':L2.St}{H Hv:Hp}{i j:Nat}(I:R1 M H0 Hv0 e σ H Hv)(hl:σ'.length = σ.length)(h:∀k,k≠i->k≠j->σ'[k]? = σ[k]?):R1 M H0 Hv0 ((e.set i ae).set j ae) σ' H Hv:=by
 refine⟨⟨I.vw,by rw[hl,I.len,iT,iT],λk w q m=>?_,λk w q m=>?_⟩,I.gw,λk w a q m z=>?_,λk k' w w' a b n q q' m m' z z'=>?_⟩
 ·obtain⟨n1,n2,q⟩:=sn q;rw[h k n1 n2];exact I.nob k w q m
 ·obtain⟨n1,n2,q⟩:=sn q;rw[h k n1 n2];exact I.own k w q m
 ·obtain⟨n1,n2,q⟩:=sn q;rw[h k n1 n2]at z;exact I.fresh k w a q m z
 ·obtain⟨n1,n2,q⟩:=sn q;obtain⟨n3,n4,q'⟩:=sn q';rw[h k n1 n2]at z;rw[h k' n3 n4]at z';exact I.sep k k' w w' a b n q q' m m' z z'
end
end A
namespace A
open PySem L2 PyProof.Rows
open Mi (D W Rs Fin au Out)
section
variable[Tb:bE]{M:Nat->Bool}{κ:Kd}
theorem Q5:∀{d:D},Mi.freshD d=true->∃ds,d=.lst ds/\∀y∈ds,∃s r,y=.lst (.str s::r):=λ{d} h=>by
 cases d with
 |lst ds=>
  refine⟨ds,rfl,λy hy=>?_⟩;have:=ua.mp (show ds.all _=true from h) y hy;cases y with
  |lst zs=>
   cases zs with
   |nil=>cases this
   |cons z r=>cases z<;>first|exact⟨_,_,rfl⟩|cases this
  |_=>cases this
 |_=>cases h
theorem K6{K:aE}{te:TE}{a:Mi.E}{tc:TT}{c:Mi.C}{tf tr:TS}{f r:Mi.S}(ks:List Nat)(i j:Nat)(ij:i≠j)(hk:∀k∈ks,M k=false)(hmi:M i=false)
 (ha:AE M qN te a) (hc:AT M tc c) (hf:AS M κ tf f) (hr:AS M κ tr r) :
 AS M κ (mD (kj te (fL i)) (mD (zX tc tf zx) (mD (sY (qX K (dM i)) (fL j) (k8 (mQ K "list" qg (dM j)))) (mD (k8 (mQ K "list" qg (dM i))) tr)))) (Mi.wg ks i j a c f r):=λH0 Hv0 e σ H Hv D I h=>by
 refine ha (Mi.rh ks e) σ H (tv Hv) _ (I.toR0.rh hk) ((au.mp h).mono λd hd v H1 Hv1 g k=>?_);by_cases cd:(Mi.freshD d&&decide (i<e.length)&&decide (j<e.length))=true
 case neg=>rw[ay cd]at hd;exact hd.elim
 rw[aH cd]at hd;rw[g6,g6,jm,jm]at cd;obtain⟨⟨cf,ci⟩,cj⟩:=cd;obtain⟨Hs,g',rep⟩:=ya g k;obtain⟨l,o,rfl,hn,hq,hz,hcell⟩:=k;obtain⟨ds,rfl,hds⟩:=Q5 cf;cases o with
 |lst xs=>
  have hp:P2 (Rep Hv1) ds xs:=hcell;have new:∀x∈xs,oJ H H1 l x:=λx hx=>by
   obtain⟨n,hn1,hx1⟩:=List.mem_iff_getElem.mp hx;obtain⟨y,hy,ry⟩:=hp.vZ (show xs[n]? = ab x by rw[fF hn1,hx1]);obtain⟨z,w,rfl⟩:=hds y (fj hy);obtain⟨q,ys,rfl,lq,pq⟩:=lC.mp ry;cases pq with
   | @cons _ y0 _ yr p1 p2=>
    rw[mS]at p1;subst p1;rcases lq with lq|⟨ob,lq⟩
    ·exact⟨q,_,rfl,g.vw.sub _ _ lq,λz=>(by rw[z,hz]at lq;cases lq),g.lists lq⟩
    ·obtain⟨t,ht⟩:=g.vw.cd.fz q ob _ (g.vw.sub _ _ lq) _ (ce ..);cases ht
  have gj:=bb.join I.vw g';have I1:=(I.grow gj).set hmi (oB (Qz I.vw g') rep);refine hc _ _ _ _ _ I1.toR0 ((au.mp hd).mono λb hb H2 Hv2 g2=>?_);cases b with
  |true=>
   refine hf H0 Hv0 _ _ H2 Hv2 _ (I1.grow g2) ((au.mp hb).mono λo ho=>?_);cases o with
   |rt w=>exact ho
   |_=>exact ho.elim
  |false=>
   refine Qt (Hc:=H) ij (l:=l) (xs:=xs) (mf (by rw[I.len];exact ci)) (by rw[iT,I.len];exact cj) (g2.old.at hq) hn (λx hx=>?_) λσ' H3 e1 e2 em=>?_
   ·obtain⟨q,ys,q1,q2,q3,q4⟩:=new x hx;exact⟨q,ys,q1,g2.old.at q2,q3,q4⟩
   ·have gk:=bb.emptied I.vw (gj.trans g2) em;refine hr H0 Hv0 _ σ' H3 _ D ((I.grow gk).Oo (by rw[e1,iT]) λk n1 n2=>?_) (Fin.mono hb λo z=>z.up gk.vis);rw[e2 k n2,fi (cR n1)]
 |_=>exact(show False from hcell).elim
end
end A
namespace Mr
open PySem Mi
def Gu:S:=
 (du (bJ (mV 1)) (.n 2)
 (bh (cB (m2 eQ (mV 2) (mV 0)))
 zi
 bp))
def qc:Fn:=eI 2 3 Gu
def FN:S:=
 (aF (a6 2 (mC (.str "etaoinshrdlucmfwypvbgkqjxz")))
 (aF (bh (cB (m2 gq (m2 cD (mV 0) (mC (.int 4))) (mC (.int 2))))
 (aF (a6 3 (m2 vW (mC (.str "")) (cq [ab 2,ab 0,ae] (gO (mC (.int 8))) (.n 2) cO (m2 aG (mV 0) (m2 cD (m2 et (mV 1) (m2 bq (mC (.int 4)) (m2 c5 (mC (.int 3)) (mV 2)))) (mC (.int 26)))))))
 (aF (bh (cB (m2 fU (m2 cD (mV 0) (mC (.int 4))) (mC (.int 0))))
 (bB (wD (cq [ab 3,ae] (gO (mV 1)) (.n 1) cO (d5 kU (mV 0) ae (ab (m2 bq (mV 1) (mC (.int 1))))))))
 bp)
 (bB (wD (cq [ab 3,ae] (gO (mV 1)) (.n 1) cO (d5 kU (mV 0) (ab (m2 lL (mC (.int 7)) (mV 1))) ae))))))
 bp)
 (aF (a6 4 (m2 cD (m2 et (mV 0) (mC (.int 4))) (mC (.int 8))))
 (aF (a6 5 (m2 vW (mC (.str "")) (cq [ab 2,ab 0,ae] (gO (mV 4)) (.n 2) cO (m2 aG (mV 0) (m2 cD (m2 bq (m2 bq (m2 et (mV 1) (mC (.int 32))) (m2 c5 (mC (.int 5)) (mV 2))) (m2 c5 (mV 2) (mV 2))) (mC (.int 26)))))))
 (aF (a6 6 (m2 cD (m2 et (mV 0) (mC (.int 256))) (m2 bq (mV 4) (mC (.int 1)))))
 (bB (wD (cq [ab 5,ab 2,ab 6,ab 0,ae] (gO (mV 1)) (.n 4) cO (m2 bq (m2 bq (d5 kU (mV 0) ae (ab (mV 2))) (m2 aG (mV 1) (m2 cD (m2 bq (m2 et (mV 3) (mC (.int 7))) (m2 c5 (mC (.int 5)) (mV 4))) (mC (.int 26))))) (d5 kU (mV 0) (ab (mV 2)) ae))))))))))
def sF:Fn:=fq 2 7 FN
def FF:S:=
 (aF (bh (cB (m2 gq (mV 1) (mN cH [(mV 0)])))
 (bB (wD (m2 aG (mV 0) (mV 1))))
 bp)
 (aF (a6 2 (m2 bq (mC (.int 30011)) (m2 c5 (m2 c5 (mC (.int 709)) (mV 1)) (mV 1))))
 (aF (bh (cB (m2 mX (mN cH [(mV 0)]) (mC (.int 0))))
 (a6 2 (m2 bq (mV 2) (m2 c5 (m2 cD (m2 aG (mV 0) (mC (.int 0))) (mC (.int 99991))) (m2 bq (m2 bq (m2 c5 (mV 1) (mV 1)) (m2 c5 (mC (.int 2)) (mV 1))) (mC (.int 5))))))
 bp)
 (bB (wD (mV 2))))))
def jf:Fn:=eI 2 3 FF
def F4:S:=
 (aF (a6 2 (cq [ae] (gO (mV 1)) (.n 0) cO (mV 0)))
 (aF (a6 3 (mN dP []))
 (aF (a6 4 (m2 cD (mV 0) (mC (.int 2147483647))))
 (aF (du (gO (mV 1)) (.n 5)
 (aF (a6 4 (m2 cD (m2 bq (m2 bq (m2 c5 (mV 4) (mC (.int 48271))) (m2 c5 (mC (.int 7)) (mV 5))) (mC (.int 1))) (mC (.int 2147483647))))
 (vG 3 2 (m2 cD (m2 et (mV 4) (mC (.int 32))) (mN cH [(mV 2)])))))
 (bB (wV 3))))))
def sT:Fn:=fq 2 6 F4
def Fx:S:=
 (aF (a6 2 (m2 bq (mC (.int 1)) (m2 cD (be jf [(wD (mV 0)),(wD (mC (.int 0)))]) (mV 1))))
 (aF (a6 3 (be sF [(wD (be jf [(wD (mV 0)),(wD (mC (.int 1)))])),(wD (mV 2))]))
 (aF (a6 4 (be sT [(wD (be jf [(wD (mV 0)),(wD (mC (.int 2)))])),(wD (mV 2))]))
 (aF (a6 5 (m2 aG (mN dP [(mC (.int 4)),(mC (.int 1)),(mC (.int 2)),(mC (.int 3)),(mC (.int 2)),(mC (.int 3))]) (m2 cD (be jf [(wD (mV 0)),(wD (mC (.int 3)))]) (mC (.int 6)))))
 (aF (a6 6 (mN dP []))
 (aF (du (gO (mV 2)) (.n 7)
 (du (gO (mV 2)) (.n 8)
 (aF (a6 9 (be jf [(wD (mV 0)),(wD (m2 bq (m2 bq (mC (.int 4)) (m2 et (m2 c5 (mN jp [(mV 7),(mV 8)]) (m2 lL (mN jp [(mV 7),(mV 8)]) (mC (.int 1)))) (mC (.int 2)))) (mN mJ [(mV 7),(mV 8)])))]))
 (bh (dY (cB (m2 gq (m2 aG (mV 4) (mV 7)) (m2 aG (mV 4) (mV 8)))) (cB (m2 gq (m2 cD (m2 et (m2 cD (m2 c5 (mV 9) (mC (.int 48271))) (mC (.int 2147483647))) (mC (.int 16))) (mC (.int 4))) (mV 5))))
 (eM 6 (mN dTup [(m2 aG (mV 3) (mV 7)),(m2 aG (mV 3) (mV 8))]))
 bp))))
 (bB (wD (mN dTup [(mN qe [(mV 3)]),(mN qe [(mV 6)])])))))))))
def sN:Fn:=eI 2 10 Fx
def og(F:Fn):S:=
 (aF (bh (dQ (cB (m1 (cE ["str"]) (mV 1))) (cB (m1 (cE ["int"]) (mV 1))))
 (aF (bh (dQ (cB (m2 de (m1 (cE ["bool"]) (mV 0)) (m1 (cE ["bool"]) (mV 1)))) (cB (m2 de (m1 (cE ["str"]) (mV 0)) (m1 (cE ["str"]) (mV 1)))))
 (bB (wD (mC (.bl false))))
 bp)
 (bB (wD (mW (m1 (cE ["int","str"]) (mV 0)) (m2 fU (mV 0) (mV 1))))))
 bp)
 (aF (bh (dQ (cB (m2 de (m1 (cE ["list"]) (mV 0)) (m1 (cE ["list"]) (mV 1)))) (dm (cB (m1 (cE ["list","tuple"]) (mV 0)))))
 (bB (wD (mC (.bl false))))
 bp)
 (aF (bh (cB (m2 de (mN cH [(mV 0)]) (mN cH [(mV 1)])))
 (bB (wD (mC (.bl false))))
 bp)
 (aF (du (uH (mV 0) (mV 1)) (.t [2,3])
 (bh (dm (cB (be F [(wD (mV 2)),(wD (mV 3))])))
 (bB (wD (mC (.bl false))))
 bp))
 (bB (wD (mC (.bl true))))))))
def eW:Nat->Fn
 |0=>Gv
 |n+1=>eI 2 4 (og (eW n))
def Df:S:=(bB (wD (jS (m2 bz (mN dTup [(mV 1),(mV 2)]) (m2 aG (mV 0) (mC (.int 1)))) (m2 bz (mN dTup [(mV 2),(mV 1)]) (m2 aG (mV 0) (mC (.int 1)))))))
def py:Fn:=eI 3 3 Df
def Gj:S:=
 (aF (vQ (be qc [(wD (m2 aG (mV 0) (mC (.int 0)))),(wD (mN dP [(mV 1),(mV 2)]))]))
 (bB (wD (jS (m2 bz (mN dTup [(mV 1),(mV 2)]) (m2 aG (mV 0) (mC (.int 1)))) (m2 bz (mN dTup [(mV 2),(mV 1)]) (m2 aG (mV 0) (mC (.int 1))))))))
def lg:Fn:=eI 3 3 Gj
def G0:S:=(bB (wD (v0 [0] (mV 1) (cq [ab 1,ae] (bJ (mV 0)) (.n 1) cO (m2 i5 (mV 0) (mV 1))))))
def ki:Fn:=fq 2 2 G0
def yx:S:=
 (aF (a6 1 (mN dP []))
 (aF (du (oo (mV 0)) (.t [2,3])
 (m6 1 (cq [ab 3,ae] (bJ (d5 kK (mV 0) (ab (m2 bq (mV 2) (mC (.int 1)))) ae)) (.n 1) cO (mN dTup [(mV 0),(mV 1)]))))
 (bB (wV 1))))
def iP:Fn:=fq 1 4 yx
def Gw:S:=(bB (wD (cq [ab 0,ae,ae] (bJ (be iP [(wD (m2 aG (mV 0) (mC (.int 0))))])) (.t [1,2]) (cB (be lg [(wD (mV 0)),(wD (mV 1)),(wD (mV 2))])) (mN dTup [(mV 1),(mV 2)]))))
def qL:Fn:=fq 1 1 Gw
def Ij:S:=
 (aF (DA (.t [1,2]) (mV 0))
 (aF (a6 3 (mN dP []))
 (aF (du (bJ (be iP [(wD (mV 1))])) (.t [4,5])
 (bh (dm (cB (be lg [(wD (mV 0)),(wD (mV 4)),(wD (mV 5))])))
 (aF (a6 6 (cq [ab 2,ab 4,ab 5,ae] (bJ (mV 1)) (.n 3) (dY (cB (m2 bz (mN dTup [(mV 1),(mV 3)]) (mV 0))) (cB (m2 bz (mN dTup [(mV 2),(mV 3)]) (mV 0)))) (mV 3)))
 (m6 3 (cq [ab 4,ab 5,ae] (bJ (mV 6)) (.n 2) cO (mN dTup [(mV 0),(mV 2),(mV 1)]))))
 bp))
 (bB (wD (be ki [(wD (mV 1)),(wD (mV 3))]))))))
def qy:Fn:=fq 1 7 Ij
def Fy:S:=(bB (wD (mW (vJ qG qG (mC (.int 1)) (mN cH [(mV 0)]) (mC (.int 8))) (mN yl [(cq [ae] (bJ (mV 0)) (.n 0) cO (m2 bz (mV 0) (mC (.str "abcdefghijklmnopqrstuvwxyz"))))]))))
def sM:Fn:=eI 1 1 Fy
def C5:S:=(bB (wD (cq [ab 1,ae,ae] (bJ (mV 0)) (.t [1,2]) (dY (cB (m2 eQ (mN dTup [(mV 1),(mV 2)]) (mV 0))) (cB (m2 eQ (mN dTup [(mV 2),(mV 1)]) (mV 0)))) (mN dTup [(mV 1),(mV 2)]))))
def re:Fn:=fq 2 2 C5
def F8:S:=(bB (wD (mW (m2 de (mV 0) (mV 2)) (mW (gX 3 (mN dTup [(mV 0),(mV 2)])) (gX 4 (mN dTup [(mV 0),(mV 1),(mV 2)]))))))
def kI:Fn:=eI 5 5 F8
def Gx:S:=
 (aF (a6 6 (mN dP []))
 (aF (du (bJ (mV 2)) (.n 7)
 (aF (bh (cB (eF 4 (mN dTup [(mV 0),(mV 1),(mV 7)])))
 (eM 6 (mN dTup [(mV 0),(mV 1),(mC (.str "corner")),(mN dTup [(mV 7)])]))
 bp)
 (aF (bh (dY (cB (eF 5 (mN dTup [(mV 7),(mV 0)]))) (cB (be kI [(wD (mV 7)),(wD (mV 0)),(wD (mV 1)),(wV 3),(wV 4)])))
 (eM 6 (mN dTup [(mV 0),(mV 1),(mC (.str "on")),(mN dTup [(mV 7)])]))
 bp)
 (bh (dY (cB (eF 5 (mN dTup [(mV 0),(mV 7)]))) (cB (eF 5 (mN dTup [(mV 7),(mV 1)]))))
 (eM 6 (mN dTup [(mV 0),(mV 1),(mC (.str "over")),(mN dTup [(mV 7)])]))
 bp))))
 (aF (a6 8 (cq [ab 5,ab 3,ab 1,ab 0,ae] (bJ (mV 2)) (.n 4) (dY (cB (eF 0 (mN dTup [(mV 4),(mV 2)]))) (cB (eF 1 (mN dTup [(mV 4),(mV 3)])))) (mV 4)))
 (aF (du (bJ (be iP [(wD (mV 8))])) (.t [7,9])
 (bh (cB (be kI [(wD (mV 7)),(wD (mV 0)),(wD (mV 9)),(wV 3),(wV 4)]))
 (eM 6 (mN dTup [(mV 0),(mV 1),(mC (.str "both")),(mN dTup [(mV 7),(mV 9)])]))
 bp))
 (bB (wV 6))))))
def oE:Fn:=fq 6 10 Gx
def yT:S:=
 (aF (jX 1 (λ_=>.ok (.dt [])))
 (aF (du (bJ (mV 0)) (.n 2)
 (aF (fg 1 (mV 2) (mC (.bl true)))
 (fg 1 (m1 nk (mV 2)) (mC (.bl true)))))
 (bB (wV 1))))
def iO:Fn:=fq 1 3 yT
def GB:S:=
 (aF (jX 3 (oY (iB iO [(wD (mV 1))])))
 (aF (jX 4 (oY (iB iO [(wD (mV 2))])))
 (aF (jX 5 (λ_=>.ok (.dt [])))
 (aF (a6 6 (mC .non))
 (aF (sI 200 (cB (m2 de (ph 5) (mV 6)))
 (aF (a6 6 (ph 5))
 (du (iQ 3) (.t [7,8])
 (bh (cB (gX 5 (mN dTup [(mV 7),(mV 8)])))
 (aF (a6 9 (sx oE [(wD (mV 7)),(wD (mV 8)),(wD (mV 0)),(wV 3),(wV 4),(wV 5)]))
 (bh (mZ (mV 9))
 (fg 5 (mN dTup [(mV 7),(mV 8)]) (m2 aG (mV 9) (mC (.int 0))))
 bp))
 bp))))
 (bB (wD (HY 5))))))))
def pB:Fn:=fq 3 10 GB
def E1:S:=
 (aF (a6 3 (cq [ae] (bJ (be pB [(wD (mV 0)),(wD (mV 1)),(wD (mV 2))])) (.n 0) cO (d5 uU (mV 0) ae (ab (mC (.int 2))))))
 (aF (a6 4 (cq [ab 3,ae,ae] (bJ (mV 3)) (.t [1,2]) (cB (m2 eQ (mN dTup [(mV 2),(mV 1)]) (mV 0))) (mN dTup [(mV 1),(mV 2)])))
 (bB (wD (mN dTup [(mV 0),(mN qe [(be ki [(wD (mV 0)),(wD (mV 4))])]),(mN qe [(be re [(wD (mV 1)),(wD (mV 4))])])])))))
def mz:Fn:=eI 3 5 E1
def Hl:S:=(bB (wD (be mz [(wD (m2 aG (mV 0) (mC (.int 0)))),(wD (be qL [(wD (mV 0))])),(wD (be qy [(wD (mV 0))]))])))
def qM:Fn:=eI 1 1 Hl
def DT:S:=
 (aF (a6 1 (mN dP []))
 (aF (du (oo (m2 aG (mV 0) (mC (.int 0)))) (.t [2,3])
 (a6 1 (m2 bq (mV 1) (cq [ab 3,ab 0,ae] (bJ (d5 kK (m2 aG (mV 0) (mC (.int 0))) (ab (m2 bq (mV 2) (mC (.int 1)))) ae)) (.n 2) (cB (be py [(wD (mV 1)),(wD (mV 0)),(wD (mV 2))])) (mN dTup [(mV 0),(mV 2)])))))
 (bB (wD (mV 1)))))
def ql:Fn:=eI 1 4 DT
def DI:S:=
 (aF (bh (dm (cB (m1 (cE ["tuple"]) (mV 0))))
 (bB (wD (mC (.bl false))))
 bp)
 (aF (a6 2 (mN dP [(m1 Am (mC (.int 1))),(m1 Am (mC (.int 1)))]))
 (aF (du (bJ (mV 0)) (.n 3)
 (aF (bh (dQ (dm (cB (m1 (cE ["tuple"]) (mV 3)))) (dQ (cB (m2 de (mN cH [(mV 3)]) (mC (.int 2)))) (dQ (cB (m2 eQ (m2 aG (mV 3) (mC (.int 0))) (mV 1))) (cB (m2 eQ (m2 aG (mV 3) (mC (.int 1))) (mV 1))))))
 (bB (wD (mC (.bl false))))
 bp)
 (aF (a6 4 (mN dP [(m2 i5 (mV 1) (m2 aG (mV 3) (mC (.int 0)))),(m2 i5 (mV 1) (m2 aG (mV 3) (mC (.int 1))))]))
 (aF (bh (cB (m2 qi (mV 4) (mV 2)))
 (bB (wD (mC (.bl false))))
 bp)
 (a6 2 (mV 4))))))
 (bB (wD (mC (.bl true)))))))
def kG:Fn:=eI 2 5 DI
def Iu:S:=
 (aF (bh (dQ (dm (cB (m1 (cE ["tuple"]) (mV 0)))) (dQ (cB (m2 de (mN cH [(mV 0)]) (mC (.int 3)))) (dQ (dm (cB (m1 (cE ["tuple"]) (m2 aG (mV 0) (mC (.int 0)))))) (cB (m2 de (m2 aG (mV 0) (mC (.int 0))) (m2 aG (mV 1) (mC (.int 0))))))))
 (bB (wD (mC (.bl false))))
 bp)
 (aF (bh (dQ (dm (cB (be kG [(wD (m2 aG (mV 0) (mC (.int 1)))),(wD (m2 aG (mV 1) (mC (.int 0))))]))) (dm (cB (be kG [(wD (m2 aG (mV 0) (mC (.int 2)))),(wD (m2 aG (mV 1) (mC (.int 0))))]))))
 (bB (wD (mC (.bl false))))
 bp)
 (aF (du (bJ (m2 aG (mV 0) (mC (.int 1)))) (.n 2)
 (bh (cB (m2 eQ (mV 2) (m2 aG (mV 1) (mC (.int 1)))))
 (bB (wD (mC (.bl false))))
 bp))
 (aF (du (bJ (be ql [(wD (mV 1))])) (.t [3,4])
 (aF (a6 5 (jS (m2 bz (mN dTup [(mV 3),(mV 4)]) (m2 aG (mV 0) (mC (.int 1)))) (m2 bz (mN dTup [(mV 4),(mV 3)]) (m2 aG (mV 0) (mC (.int 1))))))
 (bh (cB (m2 fU (mV 5) (m2 bz (mN dTup [(mV 3),(mV 4)]) (m2 aG (mV 0) (mC (.int 2))))))
 (bB (wD (mC (.bl false))))
 bp)))
 (bB (wD (m2 fU (m2 bq (mN cH [(m2 aG (mV 0) (mC (.int 1)))]) (mN cH [(m2 aG (mV 0) (mC (.int 2)))])) (mN cH [(m2 aG (mV 1) (mC (.int 1)))]))))))))
def qm:Fn:=eI 2 6 Iu
def HZ:S:=
 (aF (jX 3 (Ik (mV 2) (mC (.bl true))))
 (aF (a6 4 (mN dP [(mV 2)]))
 (aF (sI 20 (mZ (mV 4))
 (aF (vb 5 4)
 (du (iQ 1) (.t [6,7])
 (bh (dY (cB (m2 fU (mV 6) (mV 5))) (cB (gX 3 (mV 7))))
 (aF (fg 3 (mV 7) (mC (.bl true)))
 (eM 4 (mV 7)))
 bp))))
 (bB (wD (cq [ab 3,ae] (bJ (mV 0)) (.n 1) (cB (eF 0 (mV 1))) (mV 1)))))))
def nA:Fn:=fq 3 8 HZ
def Dy:S:=
 (aF (jX 2 (oY (iB iO [(wD (mV 1))])))
 (aF (a6 3 (mN dP []))
 (aF (du (bJ (mV 0)) (.n 4)
 (bh (dm (cB (mN rd [(cq [ab 4,ae] (bJ (mV 3)) (.n 1) cO (m2 bz (mV 0) (mV 1)))])))
 (aF (a6 5 (be nA [(wD (mV 0)),(wV 2),(wD (mV 4))]))
 (bh (cB (m2 mX (mN cH [(mV 5)]) (mC (.int 1))))
 (eM 3 (mV 5))
 bp))
 bp))
 (bB (wV 3)))))
def qS:Fn:=fq 2 6 Dy
def D7:S:=(bB (wD (be qS [(wD (m2 aG (mV 0) (mC (.int 0)))),(wD (m2 aG (mV 0) (mC (.int 2))))])))
def mU:Fn:=fq 1 1 D7
def FU:S:=
 (aF (a6 2 (mN dP []))
 (aF (du (bJ (mV 0)) (.n 3)
 (aF (a6 4 (mN dP [(mV 3)]))
 (aF (du (gO (mN cH [(mV 0)])) (.n 5)
 (du (bJ (mV 1)) (.t [6,7])
 (bh (cB (m2 de (m2 bz (mV 6) (mV 4)) (m2 bz (mV 7) (mV 4))))
 (aF (a6 4 (m2 bq (mV 4) (mN dP [(mV 6),(mV 7)])))
 (a6 4 (cq [ab 4,ae] (bJ (mV 0)) (.n 1) (cB (m2 bz (mV 1) (mV 0))) (mV 1))))
 bp)))
 (bh (dY (cB (m2 mX (mN cH [(mV 4)]) (mC (.int 1)))) (cB (m2 eQ (mV 4) (mV 2))))
 (eM 2 (mV 4))
 bp))))
 (bB (wV 2))))
def qv:Fn:=fq 2 8 FU
def ED:S:=
 (aF (a6 1 (be sN [(wD (mV 0)),(wD (mC (.int 8)))]))
 (aF (a6 2 (be qM [(wD (mV 1))]))
 (aF (bh (dm (cB (be qm [(wD (mV 2)),(wD (mV 1))])))
 (bB (wD (mC (.bl false))))
 bp)
 (aF (a6 3 (be qv [(wD (m2 aG (mV 1) (mC (.int 0)))),(wD (m2 aG (mV 2) (mC (.int 2))))]))
 (wg [2] 4 5 (be mU [(wD (mV 2))]) (dm (cB (be (eW 4) [(wD (mV 4)),(wD (mV 3))])))
 (bB (wD (mC (.bl false))))
 (bB (wD (be (eW 4) [(wD (be mU [(wD (mV 2))])),(wD (mV 3))]))))))))
def yw:Fn:=eI 1 6 ED
end Mr
namespace A
open PySem L2 PyProof.Rows
section
variable{P:bg}{w:aY}{K:aE}{mg:Str->Option ag}{base:aI}[Tb:bE]
variable{x qual:Str}{st:bC}{f:ah}{fd:bM}{N ps:List Str}{k:Nat}{m:Mi.S}
theorem jL(M:Nat->Bool)(F:cI K x qual st f fd)(S:cY N ps (bH st))
 (hb:∀(cdv:ag) (A:bv) (outer:List Env) (s:ao) (H:Hp) (E:XK),dL k (A.deeper (envOfC qual (bH st) s.heap.objs.size f cdv))->N.Nodup->(A.deeper (envOfC qual (bH st) s.heap.objs.size f cdv)).units+1<cLine->(A.deeper (envOfC qual (bH st) s.heap.objs.size f cdv)).units+64<cLine ->
  ∃t,gY (lM aL P w K mg base N qual (bH st) f cdv A outer s H E).nB (jj st) t/\AS M qV t m)
 (hM:∀i,i<ps.length->M i=false:=by decide):bF P w K mg base aL (k+1) f fd ps (cF (Mi.eI ps.length N.length m)):=
 F.ok S (λvs H Q E h=>Do h) λcdv A outer s H vs Q E hr h=>
  let ⟨t,a,b⟩:=hb cdv A outer s H E hr S.nd (vg hr) hr.units
  ⟨t,a,EG b hM h⟩
theorem okN(M:Nat->Bool)(F:cI K x qual st f fd)(S:cY N ps (bH st))
 (hb:∀(cdv:ag) (A:bv) (outer:List Env) (s:ao) (H:Hp) (E:XK),dL k (A.deeper (envOfC qual (bH st) s.heap.objs.size f cdv))->N.Nodup->(A.deeper (envOfC qual (bH st) s.heap.objs.size f cdv)).units+1<cLine->(A.deeper (envOfC qual (bH st) s.heap.objs.size f cdv)).units+64<cLine ->
  ∃t,gY (lM aL P w K mg base N qual (bH st) f cdv A outer s H E).nB (jj st) t/\AS M qN t m)
 (hM:∀i,i<ps.length->M i=false:=by decide):bF P w K mg base aL (k+1) f fd ps (cz (Mi.fq ps.length N.length m)):=
 F.ok S (λvs H Q E h=>EQ h) λcdv A outer s H vs Q E hr h=>
  let ⟨t,a,b⟩:=hb cdv A outer s H E hr S.nd (vg hr) hr.units
  ⟨t,a,runN b hM h⟩
end
theorem d6{N P:List Str}{sc:eY}(a:sc.kind=.function:=by rfl)(b:sc.isCoroutine=false:=by rfl)(c:sc.isGenerator=false:=by rfl)(d:N.Nodup:=by decide +kernel)(e:N.take P.length=P:=by rfl)
 (f:∀x∈P,sc.names.lookup x=ab .local\/sc.names.lookup x=ab .cell:=by decide +kernel) (g:∀y∈sc.names,y.2≠.free:=by decide +kernel):cY N P sc:=⟨a,b,c,d,e,f,g⟩
section
variable{M:Nat->Bool}[Tb:bE]
theorem aJ(i:Nat)(hm:M i=false:=by rfl):AE M qV (dM i) (Mi.mV i):=Ev i hm
theorem bx(i:Nat)(hm:M i=false:=by rfl):AW M qV (dM i) (Mi.wD (Mi.mV i)):=AE.w (Ev i hm)
end
section
variable{X:Cx}{e:aR}{te:TE}{pos pos':Pos}{x:Str}
theorem pS(i:Nat)(he:PE X e te)(hN:X.N.Nodup:=by assumption)(hi:X.N[i]? = ab x:=by rfl)(hx:Loc X.env.scope x:=by exact dA rfl)(hs:swapsWith e (ab (.Name x pos')) pos.line X.env=pure false:=by rfl)
 (hf:X.fn x=true\/X.env.scope.names.lookup x=ab .local:=by first|exact .inl rfl|exact .inr rfl|assumption):PS X (.Assign [.Name x pos'] e pos) (kj te (fL i)):=lh hN hi hx he hs hf
theorem pG(i:Nat)(hN:X.N.Nodup:=by assumption)(hi:X.N[i]? = ab x:=by rfl)(hx:Loc X.env.scope x:=by exact dA rfl)
 (hf:X.fn x=true\/X.env.scope.names.lookup x=ab .local:=by first|exact .inl rfl|exact .inr rfl|assumption):L2.PG X (.Name x pos) (fL i):=dO hN hi hx hf
theorem Ah{a:Str}:[a].Nodup:=jO.mpr ⟨(λh=>nomatch h),List.nodup_nil⟩
theorem lW{a b:Str}(h:a≠b:=by decide):[a,b].Nodup:=jO.mpr ⟨λz=>h (ej.mp z),Ah⟩
theorem pC{k k':Nat}{ps:List Str}{sp:Sp}{es:List aR}{t:TA}(C:b0 X.prog X.w X.K X.mg X.base aL k x ps sp)(hr:dL k' X.A)(ha:PA X (e::es) t)(hle:k<=k':=by decide)(hg:Gl X x:=by rfl)
 (hdb:(x==("__debug__" : Str))=false:=by decide) (he:starEach (e::es) X.env=(false,eval e X.env)::starEach es X.env:=by rfl) (hpl:(backTo pos (starEach es X.env)).any (·.1)=false:=by rfl) :
 PE X (.Call (.Name x pos') (e::es) [] pos) (mL sp [] E0 t):=vV C (hr.mono hle) hg uD ha hdb he hpl
theorem aM(i:Nat)(hN:X.N[i]? = ab x:=by rfl)(hv:sC X.env.scope x:=by first|exact dA rfl|exact fI (dA rfl)|exact fI (fI rfl))(hd:(x==("__debug__" : Str))=false:=by decide)
 (hcd:(x==("__classdict__" : Str))=false:=by decide) (hs:starEach [Expr.Name x pos] X.env=(false,eval (.Name x pos) X.env)::starEach [] X.env:=by rfl):PA X [.Name x pos] (fu (dM i) f6):=aq (pv i hN hv hd hcd) a8 hs
theorem pX{a b:aR}{ta tb:TE}(ha:PE X a ta)(hb:PE X b tb)(hs:Fi b:=by exactλ_ _=>rfl):PE X (.Subscript a b pos) (qK (yX X.K) ta tb):=DG DP ha hb hs
end
end A
namespace pV
open PySem L2 PyProof.Rows A
open Mr
def uX(x:Str):Str:=x ++ ".<locals>." ++ "<lambda>"
def top(i:Nat):bC:=PySem.Challenge.pw_arrowfind_k50_islands.main.body.getD i (.Pass ⟨0,0,0,0⟩)
structure Txt(mg:Str->Option ag):Prop where
 dU:mg "len" = ae
 lB:mg "range" = ae
 sZ:mg "max" = ae
 zM:mg "min" = ae
 h9:mg "tuple" = ae
 xF:mg "list" = ae
 iX:mg "isinstance" = ae
 Su:mg "all" = ae
 yV:mg "any" = ae
 JU:mg "bool" = ae
 xG:mg "str" = ae
 JV:mg "int" = ae
 R5:mg "zip" = ae
 JW:mg "enumerate" = ae
 R6:mg "sorted" = ae
 R7:mg "reversed" = ae
 Sv:mg "set" = ae
section
variable{P:bg}{w:aY}{K:aE}{mg:Str->Option ag}{base:aI}[Tb:bE]
abbrev xX:bC:=top 6
theorem Mb:cY ["names","asked","name"] ["names","asked"] (bH xX):=d6
theorem QC{f:ah}{fd:bM}(F:cI K "refuse_strangers" "refuse_strangers" xX f fd)(T:Txt mg):bF P w K mg base aL 1 f fd ["names","asked"] (cF qc):=
 jL (Mo []) F Mb (λcdv A outer s H E hr nd hu bi=>by
  exact⟨_,(aX (fB e6 rfl (eB (pv 1)) (pG 2)
 (aX (dq (dG (mO bi) (pv 2) (pv 0) rfl)
 (aX NV)
 dr)))),
  (fM (K:=K) (tg:=(.n 2)) (j3 (aJ 1)) (by decide)
 (dF (dB (AE.p (aw mP (ar 2) (ar 0))))
 Qn
 dE))⟩)
abbrev y4:bC:=top 4
theorem Pw:cY ["net","one","other"] ["net","one","other"] (bH y4):=d6
theorem Pg{f:ah}{fd:bM}(F:cI K "are_tied" "are_tied" y4 f fd)(T:Txt mg)(BX:b0 P w K mg base aL 1 "refuse_strangers" ["names","asked"] (cF qc)):bF P w K mg base aL 2 f fd ["net","one","other"] (cF lg):=
 jL (Mo []) F Pw (λcdv A outer s H E hr nd hu bi=>by
  exact⟨_,(aU (iM (pC BX hr (aq (pX (pv 0) aN) (aq (iz (aq (pv 1) (aM 2))) a8))))
 (aX (bV (z5 (i6 (jb bi) (bX (aq (pv 1) (aM 2))) (pX (pv 0) aN) rfl) (tG (i6 (jb bi) (bX (aq (pv 2) (aM 1))) (pX (pv 0) aN) rfl)))))),
  (aW (M6 (AE.p (fv (aV (AE.w (aw bW (ar 0) (AE.p aP))) (aV (AW.nv (AE.w (iE (aB (aJ 1) (aB (aJ 2) a7))))) bY)))))
 (d9 (AE.w (zU (AE.p (aw jr (AE.p (cp (aB (aJ 1) (aB (aJ 2) a7)))) (AE.p (aw bW (ar 0) (AE.p aP))))) (aw jr (AE.p (cp (aB (aJ 2) (aB (aJ 1) a7)))) (AE.p (aw bW (ar 0) (AE.p aP))))))))⟩)
abbrev yi:bC:=top 11
theorem M9:cY ["names","pairs","place","one"] ["names"] (bH yi):=d6
theorem O8{f:ah}{fd:bM}(F:cI K "pairs_of" "pairs_of" yi f fd)(T:Txt mg):bF P w K mg base aL 1 f fd ["names"] (cz iP):=
 okN (Mo [1]) F M9 (λcdv A outer s H E hr nd hu bi=>by
  exact⟨_,(aU (pS 1 (iz a8))
 (aU (fB e6 rfl (Zp.El rfl T.JW (pv 0)) (jg rfl (eh (pG 2) (eh (dO (i:=3) nd rfl (fI rfl)) jd)))
 (aX (iM (iN gA Jh Ji DH (pv 1) (aq (ib (N':=["one","other"]) (ρ:=[ab 3,ae]) rfl (eK.of rfl (by kernel_rfl)) (eB (oq GS (pv 0) (oN (bt ff (pv 2) aN)) oA)) (λ_ _ _ _ _=>(dO (i:=1) lW rfl (dA rfl))) (gR rfl) (λ_ _ _ _ _=>kh) (λ_ _ _ _ _=>(bX (aq (pv 0) (aM 1))))) a8)))))
 (aX (bV (pv 1))))),
  (aW (lZ 1 rfl (iE a7))
 (aW (fM (K:=K) (tg:=(.t [2,3])) (Zp.He (aJ 0)) (by decide)
 (G5 1 rfl (AE.nv (fW (K:=K) (tg:=(.n 1)) (jq (AE.p (pz EJ (ar 0) (oW (AE.p (aw fb (ar 2) (AE.p aP)))) pk))) (by decide) jV (cp (aB (aJ 0) (aB (aJ 1) a7)))))))
 (qh 1 rfl)))⟩)
abbrev yI:bC:=top 9
theorem Qu:cY ["net"] ["net"] (bH yI):=d6
theorem Qe{f:ah}{fd:bM}(F:cI K "ties_of" "ties_of" yI f fd)(T:Txt mg)(rM:b0 P w K mg base aL 2 "are_tied" ["net","one","other"] (cF lg))(my:b0 P w K mg base aL 1 "pairs_of" ["names"] (cz iP)):bF P w K mg base aL 3 f fd ["net"] (cz qL):=
 okN (Mo []) F Qu (λcdv A outer s H E hr nd hu bi=>by
  exact⟨_,(aX (bV (ib (N':=["net","one","other"]) (ρ:=[ab 0,ae,ae]) rfl (eK.of rfl (by kernel_rfl)) (eB (pC my hr (aq (pX (pv 0) aN) a8))) (λ_ _ _ _ _=>(jg rfl (eh (dO (i:=1) (by show(["net","one","other"]:List Str).Nodup;decide +kernel) rfl (dA rfl)) (eh (dO (i:=2) (by show(["net","one","other"]:List Str).Nodup;decide +kernel) rfl (dA rfl)) jd)))) (zd (q8 rfl (q8 rfl zy qb) (yt qb))) (λ_ _ _ _ _=>(mI (gn (pC rM hr (aq (pv 0) (aq (pv 1) (aM 2))))))) (λ_ _ _ _ _=>(bX (aq (pv 1) (aM 2))))))),
  (l9 (AE.w (fW (K:=K) (tg:=(.t [1,2])) (jq (AE.np (gW (aV (AE.w (aw bW (ar 0) (AE.p aP))) bY)))) (by decide) (d0 (AE.p (fv (aV (bx 0) (aV (bx 1) (aV (bx 2) bY)))))) (cp (aB (aJ 1) (aB (aJ 2) a7))))))⟩)
abbrev zl:bC:=top 5
theorem Ef:cY ["names","rows"] ["names","rows"] (bH zl):=d6
theorem KY{f:ah}{fd:bM}{cc TT:ah}(F:rY K "sorted_rows" "sorted_rows" zl cc f fd)(T:Txt mg)(hB:BM mg base)(hC:jP base cc TT)(hTb:(TT,uX "sorted_rows")∈Tb.l):bF P w K mg base aL 4 f fd ["names","rows"] (cz ki):=
 F.ok Ef (λvs H Q E h=>EQ h) (λA outer s H vs Q E hr h=>by
  have nd:=Ef.nd;have hu:=vg hr;have bi:=hr.units;exact⟨_,(aX (bV (Np (x := "row") (ρ:=[0]) (N':=["row","names"]) (k:=0) (qual:=uX "sorted_rows") rfl T.R6 (pv 1) (hr.mono (by decide)) rfl hC hB rfl rfl rfl (q9.one rfl rfl rfl rfl rfl rfl rfl rfl) (λpm c' ctv u=>rfl) (λA f c' s H env hrl he=>by subst he;exact(ib (N':=["names","name"]) (ρ:=[ab 1,ae]) rfl (eK.of rfl (by kernel_rfl)) (eB (pv 0)) (λ_ _ _ _ _=>(dO (i:=1) lW rfl (dA rfl))) (gR rfl) (λ_ _ _ _ _=>kh) (λ_ _ _ _ _=>(zG Bw xg Bx xV gA xh By zc (pv 0) (aM 1)))))))),
  _root_.A.runN (N:=["names","rows"]) (M:=Mo []) (l9 (AE.w (Pu hTb (by decide) (ar 1) (fW (K:=K) (tg:=(.n 1)) (jq (ar 0)) (by decide) jV (yk (ar 0) (ar 1)))))) (by decide) h⟩)
abbrev yE:bC:=top 10
theorem Ry:cY ["net","names","arrows","corners","one","other","middles"] ["net"] (bH yE):=d6
theorem P9{f:ah}{fd:bM}(F:cI K "corners_of" "corners_of" yE f fd)(T:Txt mg)(rM:b0 P w K mg base aL 2 "are_tied" ["net","one","other"] (cF lg))(rN:b0 P w K mg base aL 4 "sorted_rows" ["names","rows"] (cz ki))(my:b0 P w K mg base aL 1 "pairs_of" ["names"] (cz iP)):bF P w K mg base aL 5 f fd ["net"] (cz qy):=
 okN (Mo [3]) F Ry (λcdv A outer s H E hr nd hu bi=>by
  exact⟨_,(aU (Mn (pv 0) (jg rfl (eh (pG 1) (eh (dO (i:=2) nd rfl (fI rfl)) jd))))
 (aU (pS 3 (iz a8))
 (aU (fB e6 rfl (eB (pC my hr (aM 1))) (jg rfl (eh (dO (i:=4) nd rfl (fI rfl)) (eh (dO (i:=5) nd rfl (fI rfl)) jd)))
 (aX (dq (jz (gn (pC rM hr (aq (pv 0) (aq (pv 4) (aM 5))))))
 (aU (v8 (i:=6) (N':=["arrows","one","other","name"]) (ρ:=[ab 2,ab 4,ab 5,ae]) rfl nd rfl (dA rfl) (eK.of rfl (by kernel_rfl)) (eB (pv 1)) (λ_ _ _ _ _=>(dO (i:=3) (by show(["arrows","one","other","name"]:List Str).Nodup;decide +kernel) rfl (dA rfl))) (gR rfl) (λ_ _ _ _ _=>(mI (PW.pt (pw_and (dG (jb bi) (bX (aq (pv 1) (aM 3))) (pv 0) rfl) (pw_and1 (dG (jb bi) (bX (aq (pv 2) (aM 3))) (pv 0) rfl)))))) (λ_ _ _ _ _=>(pv 3)))
 (aX (iM (iN gA Jh Ji DH (pv 3) (aq (ib (N':=["one","other","middle"]) (ρ:=[ab 4,ab 5,ae]) rfl (eK.of rfl (by kernel_rfl)) (eB (pv 6)) (λ_ _ _ _ _=>(dO (i:=2) (by show(["one","other","middle"]:List Str).Nodup;decide +kernel) rfl (dA rfl))) (gR rfl) (λ_ _ _ _ _=>kh) (λ_ _ _ _ _=>(bX (aq (pv 0) (aq (pv 2) (aM 1)))))) a8)))))
 dr)))
 (aX (bV (pC rN hr (aq (pv 1) (aM 3)))))))),
  (aW (O7 (K:=K) (.t [1,2]) (by decide) (aJ 0))
 (aW (lZ 3 rfl (iE a7))
 (aW (fM (K:=K) (tg:=(.t [4,5])) (j3 (AE.nv (gW (aV (bx 1) bY)))) (by decide)
 (dF (jJ (d0 (AE.p (fv (aV (bx 0) (aV (bx 4) (aV (bx 5) bY)))))))
 (aW (cU 6 rfl (AE.nv (fW (K:=K) (tg:=(.n 3)) (jq (ar 1)) (by decide) (ni (dB (AE.p (aw jr (AE.p (cp (aB (aJ 1) (aB (aJ 3) a7)))) (ar 0)))) (dB (AE.p (aw jr (AE.p (cp (aB (aJ 2) (aB (aJ 3) a7)))) (ar 0))))) (aJ 3))))
 (G5 3 rfl (AE.nv (fW (K:=K) (tg:=(.n 2)) (jq (ar 6)) (by decide) jV (cp (aB (aJ 0) (aB (aJ 2) (aB (aJ 1) a7))))))))
 dE))
 (Qx 3 rfl (AE.w (gW (aV (bx 1) (aV (bx 3) bY))))))))⟩)
abbrev yZ:bC:=top 15
theorem O0:cY ["ties","arrows"] ["ties","arrows"] (bH yZ):=d6
theorem Qb{f:ah}{fd:bM}(F:cI K "ties_left" "ties_left" yZ f fd)(T:Txt mg):bF P w K mg base aL 1 f fd ["ties","arrows"] (cz re):=
 okN (Mo []) F O0 (λcdv A outer s H E hr nd hu bi=>by
  exact⟨_,(aX (bV (ib (N':=["arrows","one","other"]) (ρ:=[ab 1,ae,ae]) rfl (eK.of rfl (by kernel_rfl)) (eB (pv 0)) (λ_ _ _ _ _=>(jg rfl (eh (dO (i:=1) (by show(["arrows","one","other"]:List Str).Nodup;decide +kernel) rfl (dA rfl)) (eh (dO (i:=2) (by show(["arrows","one","other"]:List Str).Nodup;decide +kernel) rfl (dA rfl)) jd)))) (zd (q8 rfl (q8 rfl zy qb) (yt qb))) (λ_ _ _ _ _=>(mI (PW.pt (pw_and (dG (mO bi) (bX (aq (pv 1) (aM 2))) (pv 0) rfl) (pw_and1 (dG (mO bi) (bX (aq (pv 2) (aM 1))) (pv 0) rfl)))))) (λ_ _ _ _ _=>(bX (aq (pv 1) (aM 2))))))),
  (l9 (AE.w (fW (K:=K) (tg:=(.t [1,2])) (jq (ar 0)) (by decide) (ni (dB (AE.p (aw mP (AE.p (cp (aB (aJ 1) (aB (aJ 2) a7)))) (ar 0)))) (dB (AE.p (aw mP (AE.p (cp (aB (aJ 2) (aB (aJ 1) a7)))) (ar 0))))) (cp (aB (aJ 1) (aB (aJ 2) a7))))))⟩)
abbrev zE:bC:=top 18
theorem LM:cY ["one","middle","other","tied","bent"] ["one","middle","other","tied","bent"] (bH zE):=d6
theorem Md{f:ah}{fd:bM}(F:cI K "is_straight" "is_straight" zE f fd)(T:Txt mg):bF P w K mg base aL 1 f fd ["one","middle","other","tied","bent"] (cF kI):=
 jL (Mo []) F LM (λcdv A outer s H E hr nd hu bi=>by
  exact⟨_,(aX (bV (Al (i6 (k9 bi) (pv 0) (pv 2) (eR _)) (Al (Fh (uZ hu (bX (aq (pv 0) (aM 2))) (pv 3)) rfl) (tG (Fh (uZ hu (bX (aq (pv 0) (aq (pv 1) (aM 2)))) (pv 4)) rfl)))))),
  (d9 (AE.w (zR (AE.p (aw kN (ar 0) (ar 2))) (zR (AE.p (uR 3 (cp (aB (aJ 0) (aB (aJ 2) a7))))) (uR 4 (cp (aB (aJ 0) (aB (aJ 1) (aB (aJ 2) a7)))))))))⟩)
abbrev zt:bC:=top 17
theorem N0:cY ["tail","head","names","tied","bent","told","rows","third","nears","fourth"] ["tail","head","names","tied","bent","told"] (bH zt):=d6
theorem O3{f:ah}{fd:bM}(F:cI K "rows_for" "rows_for" zt f fd)(T:Txt mg)(my:b0 P w K mg base aL 1 "pairs_of" ["names"] (cz iP))(xH:b0 P w K mg base aL 1 "is_straight" ["one","middle","other","tied","bent"] (cF kI)):bF P w K mg base aL 2 f fd ["tail","head","names","tied","bent","told"] (cz oE):=
 okN (Mo [6]) F N0 (λcdv A outer s H E hr nd hu bi=>by
  exact⟨_,(aU (pS 6 (iz a8))
 (aU (fB e6 rfl (eB (pv 2)) (pG 7)
 (aU (dq (lY (oR hu (bX (aq (pv 0) (aq (pv 1) (aM 7)))) (pv 4)) rfl)
 (aX (iM (iN gA mq mr lU (pv 6) (aq (bX (aq (pv 0) (aq (pv 1) (aq oV (aq (bX (aM 7)) a8))))) a8))))
 dr)
 (aU (dq (PW.pt (pw_and (lY (oR hu (bX (aq (pv 7) (aM 0))) (pv 5)) rfl) (pw_and1 (gn (pC xH hr (aq (pv 7) (aq (pv 0) (aq (pv 1) (aq (pv 3) (aM 4))))))))))
 (aX (iM (iN gA mq mr lU (pv 6) (aq (bX (aq (pv 0) (aq (pv 1) (aq oV (aq (bX (aM 7)) a8))))) a8))))
 dr)
 (aX (dq (PW.pt (pw_and (lY (oR hu (bX (aq (pv 0) (aM 7))) (pv 5)) rfl) (pw_and1 (lY (oR hu (bX (aq (pv 7) (aM 1))) (pv 5)) rfl))))
 (aX (iM (iN gA mq mr lU (pv 6) (aq (bX (aq (pv 0) (aq (pv 1) (aq oV (aq (bX (aM 7)) a8))))) a8))))
 dr)))))
 (aU (v8 (i:=8) (N':=["told","tied","head","tail","name"]) (ρ:=[ab 5,ab 3,ab 1,ab 0,ae]) rfl nd rfl (dA rfl) (eK.of rfl (by kernel_rfl)) (eB (pv 2)) (λ_ _ _ _ _=>(dO (i:=4) (by show(["told","tied","head","tail","name"]:List Str).Nodup;decide +kernel) rfl (dA rfl))) (gR rfl) (λ_ _ _ _ _=>(mI (PW.pt (pw_and (lY (oR hu (bX (aq (pv 4) (aM 2))) (pv 0)) rfl) (pw_and1 (lY (oR hu (bX (aq (pv 4) (aM 3))) (pv 1)) rfl)))))) (λ_ _ _ _ _=>(pv 4)))
 (aU (fB e6 rfl (eB (pC my hr (aM 8))) (jg rfl (eh (pG 7) (eh (pG 9) jd)))
 (aX (dq (gn (pC xH hr (aq (pv 7) (aq (pv 0) (aq (pv 9) (aq (pv 3) (aM 4)))))))
 (aX (iM (iN gA mq mr lU (pv 6) (aq (bX (aq (pv 0) (aq (pv 1) (aq oV (aq (bX (aq (pv 7) (aM 9))) a8))))) a8))))
 dr)))
 (aX (bV (pv 6))))))),
  (aW (lZ 6 rfl (iE a7))
 (aW (fM (K:=K) (tg:=(.n 7)) (j3 (aJ 2)) (by decide)
 (aW (dF (d0 (AE.p (oH 4 (cp (aB (aJ 0) (aB (aJ 1) (aB (aJ 7) a7)))))))
 (mB 6 rfl (cp (aB (aJ 0) (aB (aJ 1) (aB oF (aB (cp (aB (aJ 7) a7)) a7))))))
 dE)
 (aW (dF (ni (d0 (AE.p (oH 5 (cp (aB (aJ 7) (aB (aJ 0) a7)))))) (d0 (AE.p (fv (aV (bx 7) (aV (bx 0) (aV (bx 1) (aV (pi 3 rfl) (aV (pi 4 rfl) bY)))))))))
 (mB 6 rfl (cp (aB (aJ 0) (aB (aJ 1) (aB oF (aB (cp (aB (aJ 7) a7)) a7))))))
 dE)
 (dF (ni (d0 (AE.p (oH 5 (cp (aB (aJ 0) (aB (aJ 7) a7)))))) (d0 (AE.p (oH 5 (cp (aB (aJ 7) (aB (aJ 1) a7)))))))
 (mB 6 rfl (cp (aB (aJ 0) (aB (aJ 1) (aB oF (aB (cp (aB (aJ 7) a7)) a7))))))
 dE))))
 (aW (cU 8 rfl (AE.nv (fW (K:=K) (tg:=(.n 4)) (jq (ar 2)) (by decide) (ni (d0 (AE.p (oH 0 (cp (aB (aJ 4) (aB (aJ 2) a7)))))) (d0 (AE.p (oH 1 (cp (aB (aJ 4) (aB (aJ 3) a7))))))) (aJ 4))))
 (aW (fM (K:=K) (tg:=(.t [7,9])) (j3 (AE.nv (gW (aV (bx 8) bY)))) (by decide)
 (dF (d0 (AE.p (fv (aV (bx 7) (aV (bx 0) (aV (bx 9) (aV (pi 3 rfl) (aV (pi 4 rfl) bY))))))))
 (mB 6 rfl (cp (aB (aJ 0) (aB (aJ 1) (aB oF (aB (cp (aB (aJ 7) (aB (aJ 9) a7))) a7))))))
 dE))
 (qh 6 rfl)))))⟩)
abbrev zw:bC:=top 19
theorem Og:cY ["rows","kept","row"] ["rows"] (bH zw):=d6
theorem Kt{f:ah}{fd:bM}(F:cI K "both_ways" "both_ways" zw f fd)(T:Txt mg):bF P w K mg base aL 1 f fd ["rows"] (cz iO):=
 okN (Mo [1]) F Og (λcdv A outer s H E hr nd hu bi=>by
  exact⟨_,(aU (pS 1 Dw)
 (aU (fB e6 rfl (eB (pv 0)) (pG 2)
 (aU (vk hu (pv 1) (pv 2) fT rfl)
 (aX (vk hu (pv 1) (pD (Lh rfl) rfl T.h9 ll (aq (pD QJ rfl T.R7 boot_reversed (aM 2)) a8)) fT rfl))))
 (aX (bV (pv 1))))),
  (aW (zV 1 rfl FT)
 (aW (fM (K:=K) (tg:=(.n 2)) (j3 (aJ 0)) (by decide)
 (aW (vR 1 rfl (aJ 2) fS)
 (vR 1 rfl (LK (ar 2)) fS)))
 (qh 1 rfl)))⟩)
abbrev zr:bC:=top 16
theorem OK:cY ["names","ties","corners","tied","bent","told","before","tail","head","rows"] ["names","ties","corners"] (bH zr):=d6
theorem Q4{f:ah}{fd:bM}(F:cI K "reasons_by" "reasons_by" zr f fd)(T:Txt mg)(BY:b0 P w K mg base aL 2 "rows_for" ["tail","head","names","tied","bent","told"] (cz oE))(pW:b0 P w K mg base aL 1 "both_ways" ["rows"] (cz iO)):bF P w K mg base aL 3 f fd ["names","ties","corners"] (cz pB):=
 okN (Mo [5]) F OK (λcdv A outer s H E hr nd hu bi=>by
  exact⟨_,(aU (pS 3 (yF (pC pW hr (aM 1))))
 (aU (pS 4 (yF (pC pW hr (aM 2))))
 (aU (pS 5 Dw)
 (aU (pS 6 OG)
 (aU (D8 e6 (dG (k9 bi) (da Dk rfl T.dU iF (aM 5)) (pv 6) (eR _))
 (aU (pS 6 (da Dk rfl T.dU iF (aM 5)))
 (aX (fB e6 rfl (Dl (pv 3)) (jg rfl (eh (pG 7) (eh (pG 8) jd)))
 (aX (dq (lY (uZ hu (bX (aq (pv 7) (aM 8))) (pv 5)) rfl)
 (aU (pS 9 (pC BY hr (aq (pv 7) (aq (pv 8) (aq (pv 0) (aq (pv 3) (aq (pv 4) (aM 5))))))))
 (aX (dq (GA (pv 9) (by intro _;rfl))
 (aX (vk hu (pv 5) (bX (aq (pv 7) (aM 8))) (pX (pv 9) aN) rfl))
 dr)))
 dr))))))
 (aX (bV (pD (NB rfl) rfl T.xF boot_list (aq (uO PySem.F.plainAttrs_dict Jg PySem.F.type_dict_values QO (pv 5)) a8))))))))),
  (aW (zS 3 rfl (Av (u4 (aV (bx 1) bY))))
 (aW (zS 4 rfl (Av (u4 (aV (bx 2) bY))))
 (aW (zV 5 rfl FT)
 (aW (cU 6 rfl LZ)
 (aW (Ew 200 (dB (AE.p (aw kN (AE.p (E6 5)) (ar 6))))
 (aW (cU 6 rfl (E6 5))
 (fM (K:=K) (tg:=(.t [7,8])) (C7 3 rfl) (by decide)
 (dF (d0 (AE.p (uR 5 (cp (aB (aJ 7) (aB (aJ 8) a7))))))
 (aW (cU 9 rfl (Nu (aV (AW.p (bx 7)) (aV (AW.p (bx 8)) (aV (AW.p (bx 0)) (aV (AW.p (pi 3 rfl)) (aV (AW.p (pi 4 rfl)) (aV (MK 5) bY))))))))
 (dF (HF (ar 9))
 (vR 5 rfl (cp (aB (aJ 7) (aB (aJ 8) a7))) (aw bW (ar 9) (AE.p aP)))
 dE))
 dE))))
 (l9 (AE.w (L9 5))))))))⟩)
abbrev zb:bC:=top 14
theorem Rz:cY ["names","ties","corners","told","arrows"] ["names","ties","corners"] (bH zb):=d6
theorem MO{f:ah}{fd:bM}(F:cI K "picture_by" "picture_by" zb f fd)(T:Txt mg)(rN:b0 P w K mg base aL 4 "sorted_rows" ["names","rows"] (cz ki))(BZ:b0 P w K mg base aL 1 "ties_left" ["ties","arrows"] (cz re))(B0:b0 P w K mg base aL 3 "reasons_by" ["names","ties","corners"] (cz pB)):bF P w K mg base aL 5 f fd ["names","ties","corners"] (cF mz):=
 jL (Mo []) F Rz (λcdv A outer s H E hr nd hu bi=>by
  exact⟨_,(aU (lh (i:=3) nd rfl (fI rfl) (ib (N':=["row"]) (ρ:=[ae]) rfl (eK.of rfl (by kernel_rfl)) (eB (pC B0 hr (aq (pv 0) (aq (pv 1) (aM 2))))) (λ_ _ _ _ _=>(dO (i:=0) Ah rfl (dA rfl))) (gR rfl) (λ_ _ _ _ _=>kh) (λ_ _ _ _ _=>(oq NS (pv 0) oA (oN aN)))))
 (aU (v8 (i:=4) (N':=["told","tail","head"]) (ρ:=[ab 3,ae,ae]) rfl nd rfl (dA rfl) (eK.of rfl (by kernel_rfl)) (eB (pv 3)) (λ_ _ _ _ _=>(jg rfl (eh (dO (i:=1) (by show(["told","tail","head"]:List Str).Nodup;decide +kernel) rfl (dA rfl)) (eh (dO (i:=2) (by show(["told","tail","head"]:List Str).Nodup;decide +kernel) rfl (dA rfl)) jd)))) (zd (q8 rfl (q8 rfl zy qb) (yt qb))) (λ_ _ _ _ _=>(mI (dG (mO bi) (bX (aq (pv 2) (aM 1))) (pv 0) rfl))) (λ_ _ _ _ _=>(bX (aq (pv 1) (aM 2)))))
 (aX (bV (bX (aq (pv 0) (aq (pD vF rfl T.h9 ll (aq (pC rN hr (aq (pv 0) (aM 4))) a8)) (aq (pD vF rfl T.h9 ll (aq (pC BZ hr (aq (pv 1) (aM 4))) a8)) a8)))))))),
  (aW (cU 3 rfl (AE.nv (fW (K:=K) (tg:=(.n 0)) (jq (AE.np (gW (aV (bx 0) (aV (bx 1) (aV (bx 2) bY)))))) (by decide) jV (pz K4 (ar 0) pk (oW (AE.p aP))))))
 (aW (cU 4 rfl (AE.nv (fW (K:=K) (tg:=(.t [1,2])) (jq (ar 3)) (by decide) (dB (AE.p (aw mP (AE.p (cp (aB (aJ 2) (aB (aJ 1) a7)))) (ar 0)))) (cp (aB (aJ 1) (aB (aJ 2) a7))))))
 (d9 (AE.w (cp (aB (aJ 0) (aB (fA h9 (aB (AE.np (gW (aV (bx 0) (aV (bx 4) bY)))) a7)) (aB (fA h9 (aB (AE.np (gW (aV (bx 1) (aV (bx 4) bY)))) a7)) a7))))))))⟩)
abbrev yo:bC:=top 13
theorem Ri:cY ["net"] ["net"] (bH yo):=d6
theorem K9{f:ah}{fd:bM}(F:cI K "picture_of" "picture_of" yo f fd)(T:Txt mg)(B3:b0 P w K mg base aL 3 "ties_of" ["net"] (cz qL))(B4:b0 P w K mg base aL 5 "corners_of" ["net"] (cz qy))(B5:b0 P w K mg base aL 5 "picture_by" ["names","ties","corners"] (cF mz)):bF P w K mg base aL 6 f fd ["net"] (cF qM):=
 jL (Mo []) F Ri (λcdv A outer s H E hr nd hu bi=>by
  exact⟨_,(aX (bV (pC B5 hr (aq (pX (pv 0) aN) (aq (pC B3 hr (aM 0)) (aq (pC B4 hr (aM 0)) a8)))))),
  (d9 (AE.w (fv (aV (AE.w (aw bW (ar 0) (AE.p aP))) (aV (AW.nv (AE.w (gW (aV (bx 0) bY)))) (aV (AW.nv (AE.w (gW (aV (bx 0) bY)))) bY))))))⟩)
abbrev yW:bC:=top 7
theorem NK:cY ["names","steps","name","found","waiting","here","start","end"] ["names","steps","name"] (bH yW):=d6
theorem Mw{f:ah}{fd:bM}(F:cI K "names_along" "names_along" yW f fd)(T:Txt mg):bF P w K mg base aL 1 f fd ["names","steps","name"] (cz nA):=
 okN (Mo [3,4]) F NK (λcdv A outer s H E hr nd hu bi=>by
  exact⟨_,(aU (lh (i:=3) nd rfl (fI rfl) (Zp.QW (pv 2) fT))
 (aU (pS 4 (iz (aM 2)))
 (aU (D8 e6 (GA (pv 4) (by intro _;rfl))
 (aU (pS 5 (uO gA Jn Jo PH (pv 4)))
 (aX (fB e6 rfl (Dl (pv 1)) (jg rfl (eh (pG 6) (eh (pG 7) jd)))
 (aX (dq (PW.pt (pw_and (dG (sr bi) (pv 6) (pv 5) (eR _)) (pw_and1 (lY (uZ hu (pv 7) (pv 3)) rfl))))
 (aU (vk hu (pv 3) (pv 7) fT rfl)
 (aX (iM (iN gA mq mr lU (pv 4) (aM 7)))))
 dr))))))
 (aX (bV (ib (N':=["found","each"]) (ρ:=[ab 3,ae]) rfl (eK.of rfl (by kernel_rfl)) (eB (pv 0)) (λ_ _ _ _ _=>(dO (i:=1) lW rfl (dA rfl))) (gR rfl) (λ_ _ _ _ _=>(mI (lY (oR hu (pv 1) (pv 0)) rfl))) (λ_ _ _ _ _=>(pv 1)))))))),
  (aW (zV 3 rfl (Zp.Pe (aJ 2) fS))
 (aW (lZ 4 rfl (iE (aB (aJ 2) a7)))
 (aW (Ew 20 (HF (ar 4))
 (aW (K7 5 4 rfl rfl)
 (fM (K:=K) (tg:=(.t [6,7])) (C7 1 rfl) (by decide)
 (dF (ni (dB (AE.p (aw tU (ar 6) (ar 5)))) (d0 (AE.p (uR 3 (aJ 7)))))
 (aW (vR 3 rfl (aJ 7) fS)
 (mB 4 rfl (aJ 7)))
 dE))))
 (l9 (AE.w (fW (K:=K) (tg:=(.n 1)) (jq (ar 0)) (by decide) (d0 (AE.p (oH 0 (aJ 1)))) (aJ 1)))))))⟩)
abbrev An:bC:=top 22
theorem ND:cY ["names","ties","steps","islands","name","island"] ["names","ties"] (bH An):=d6
theorem PQ{f:ah}{fd:bM}(F:cI K "islands_among" "islands_among" An f fd)(T:Txt mg)(B6:b0 P w K mg base aL 1 "names_along" ["names","steps","name"] (cz nA))(pW:b0 P w K mg base aL 1 "both_ways" ["rows"] (cz iO)):bF P w K mg base aL 2 f fd ["names","ties"] (cz qS):=
 okN (Mo [3]) F ND (λcdv A outer s H E hr nd hu bi=>by
  exact⟨_,(aU (pS 2 (yF (pC pW hr (aM 1))))
 (aU (pS 3 (iz a8))
 (aU (fB e6 rfl (eB (pv 0)) (dO (i:=4) nd rfl (fI rfl))
 (aX (dq (jz (gn (da (Rg rfl) rfl T.yV boot_any (aq (ib (N':=["name","island"]) (ρ:=[ab 4,ae]) rfl (eK.of rfl (by kernel_rfl)) (eB (pv 3)) (λ_ _ _ _ _=>(dO (i:=1) lW rfl (dA rfl))) (gR rfl) (λ_ _ _ _ _=>kh) (λ_ _ _ _ _=>(i6 (jb bi) (pv 0) (pv 1) rfl))) a8))))
 (aU (pS 5 (pC B6 hr (aq (pv 0) (aq (pv 2) (aM 4)))))
 (aX (dq (dG yv (da ja rfl T.dU iF (aM 5)) aN (eR _))
 (aX (iM (iN gA mq mr lU (pv 3) (aM 5))))
 dr)))
 dr)))
 (aX (bV (pv 3)))))),
  (aW (zS 2 rfl (Av (u4 (aV (bx 1) bY))))
 (aW (lZ 3 rfl (iE a7))
 (aW (fM (K:=K) (tg:=(.n 4)) (j3 (aJ 0)) (by decide)
 (dF (jJ (d0 (AE.p (fA yV (aB (AE.np (fW (K:=K) (tg:=(.n 1)) (jq (ar 3)) (by decide) jV (aw jr (ar 0) (ar 1)))) a7)))))
 (aW (cU 5 rfl (AE.nv (gW (aV (bx 0) (aV (pi 2 rfl) (aV (bx 4) bY))))))
 (dF (dB (AE.p (aw zk (AE.p (fA dU (aB (ar 5) a7))) (AE.p aP))))
 (mB 3 rfl (aJ 5))
 dE))
 dE))
 (qh 3 rfl))))⟩)
abbrev yN:bC:=top 21
theorem Py:cY ["picture"] ["picture"] (bH yN):=d6
theorem LC{f:ah}{fd:bM}(F:cI K "islands_of" "islands_of" yN f fd)(T:Txt mg)(B7:b0 P w K mg base aL 2 "islands_among" ["names","ties"] (cz qS)):bF P w K mg base aL 3 f fd ["picture"] (cz mU):=
 okN (Mo []) F Py (λcdv A outer s H E hr nd hu bi=>by
  exact⟨_,(aX (bV (pC B7 hr (aq (pX (pv 0) aN) (aq (pX (pv 0) aN) a8))))),
  (l9 (AE.w (gW (aV (AE.w (aw bW (ar 0) (AE.p aP))) (aV (AE.w (aw bW (ar 0) (AE.p aP))) bY)))))⟩)
abbrev yH:bC:=top 24
theorem Px:cY ["_law_script","_law_k","_law_spare"] ["_law_script","_law_k"] (bH yH):=d6
theorem NZ{f:ah}{fd:bM}(F:cI K "_law_cell" "_law_cell" yH f fd)(T:Txt mg):bF P w K mg base aL 1 f fd ["_law_script","_law_k"] (cF jf):=
 jL (Mo []) F Px (λcdv A outer s H E hr nd hu bi=>by
  exact⟨_,(aU (dq (dG uY (pv 1) (da ja rfl T.dU iF (aM 0)) (eR _))
 (aX (bV (pX (pv 0) (pv 1))))
 dr)
 (aU (pS 2 (bt ff aN (bt i7 (bt i7 aN (pv 1)) (pv 1))))
 (aU (dq (dG yv (da ja rfl T.dU iF (aM 0)) aN (eR _))
 (aX (pS 2 (bt ff (pv 2) (bt i7 (bt ik (pX (pv 0) aN) aN) (bt ff (bt ff (bt i7 (pv 1) (pv 1)) (bt i7 aN (pv 1))) aN)))))
 dr)
 (aX (bV (pv 2)))))),
  (aW (dF (dB (AE.p (aw uN (ar 1) (AE.p (fA dU (aB (ar 0) a7))))))
 (d9 (AE.w (aw bW (ar 0) (ar 1))))
 dE)
 (aW (cU 2 rfl (aw fb (AE.p aP) (AE.p (aw i9 (AE.p (aw i9 (AE.p aP) (ar 1))) (ar 1)))))
 (aW (dF (dB (AE.p (aw zk (AE.p (fA dU (aB (ar 0) a7))) (AE.p aP))))
 (cU 2 rfl (aw fb (ar 2) (AE.p (aw i9 (AE.p (aw iD (AE.p (aw bW (ar 0) (AE.p aP))) (AE.p aP))) (AE.p (aw fb (AE.p (aw fb (AE.p (aw i9 (ar 1) (ar 1))) (AE.p (aw i9 (AE.p aP) (ar 1))))) (AE.p aP)))))))
 dE)
 (d9 (bx 2)))))⟩)
abbrev yA:bC:=top 25
theorem Li:cY ["_law_cell_here","_law_many","_law_letters","_law_long","_law_size","_law_stem","_law_at"] ["_law_cell_here","_law_many"] (bH yA):=d6
theorem Ny{f:ah}{fd:bM}(F:cI K "_law_words" "_law_words" yA f fd)(T:Txt mg):bF P w K mg base aL 1 f fd ["_law_cell_here","_law_many"] (cz sF):=
 okN (Mo []) F Li (λcdv A outer s H E hr nd hu bi=>by
  exact⟨_,(aU (lh (i:=2) nd rfl (fI rfl) oV)
 (aU (dq (dG uY (bt ik (pv 0) aN) aN (eR _))
 (aU (lh (i:=3) nd rfl (fI rfl) (iN Jm Jp Jq CH oV (aq (ib (N':=["_law_letters","_law_cell_here","_law_k"]) (ρ:=[ab 2,ab 0,ae]) rfl (eK.of rfl (by kernel_rfl)) (kP rfl T.lB (aq aN a8)) (λ_ _ _ _ _=>(dO (i:=2) (by show(["_law_letters","_law_cell_here","_law_k"]:List Str).Nodup;decide +kernel) rfl (dA rfl))) (gR rfl) (λ_ _ _ _ _=>kh) (λ_ _ _ _ _=>(pX (pv 0) (bt ik (bt nh (pv 1) (bt ff aN (bt i7 aN (pv 2)))) aN)))) a8)))
 (aU (dq (dG (sr bi) (bt ik (pv 0) aN) aN (eR _))
 (aX (bV (ib (N':=["_law_long","_law_k"]) (ρ:=[ab 3,ae]) rfl (eK.of rfl (by kernel_rfl)) (kP rfl T.lB (aM 1)) (λ_ _ _ _ _=>(dO (i:=1) lW rfl (dA rfl))) (gR rfl) (λ_ _ _ _ _=>kh) (λ_ _ _ _ _=>(oq v7 (pv 0) oA (oN (bt ff (pv 1) aN)))))))
 dr)
 (aX (bV (ib (N':=["_law_long","_law_k"]) (ρ:=[ab 3,ae]) rfl (eK.of rfl (by kernel_rfl)) (kP rfl T.lB (aM 1)) (λ_ _ _ _ _=>(dO (i:=1) lW rfl (dA rfl))) (gR rfl) (λ_ _ _ _ _=>kh) (λ_ _ _ _ _=>(oq v7 (pv 0) (oN (bt F6 aN (pv 1))) oA)))))))
 dr)
 (aU (pS 4 (bt ik (bt nh (pv 0) aN) aN))
 (aU (lh (i:=5) nd rfl (fI rfl) (iN Jm Jp Jq CH oV (aq (ib (N':=["_law_letters","_law_cell_here","_law_k"]) (ρ:=[ab 2,ab 0,ae]) rfl (eK.of rfl (by kernel_rfl)) (kP rfl T.lB (aM 4)) (λ_ _ _ _ _=>(dO (i:=2) (by show(["_law_letters","_law_cell_here","_law_k"]:List Str).Nodup;decide +kernel) rfl (dA rfl))) (gR rfl) (λ_ _ _ _ _=>kh) (λ_ _ _ _ _=>(pX (pv 0) (bt ik (bt ff (bt ff (bt nh (pv 1) aN) (bt i7 aN (pv 2))) (bt i7 (pv 2) (pv 2))) aN)))) a8)))
 (aU (lh (i:=6) nd rfl (fI rfl) (bt ik (bt nh (pv 0) aN) (bt ff (pv 4) aN)))
 (aX (bV (ib (N':=["_law_stem","_law_letters","_law_at","_law_cell_here","_law_k"]) (ρ:=[ab 5,ab 2,ab 6,ab 0,ae]) rfl (eK.of rfl (by kernel_rfl)) (kP rfl T.lB (aM 1)) (λ_ _ _ _ _=>(dO (i:=4) (by show(["_law_stem","_law_letters","_law_at","_law_cell_here","_law_k"]:List Str).Nodup;decide +kernel) rfl (dA rfl))) (gR rfl) (λ_ _ _ _ _=>kh) (λ_ _ _ _ _=>(bt ff (bt ff (oq v7 (pv 0) oA (oN (pv 2))) (pX (pv 1) (bt ik (bt ff (bt nh (pv 3) aN) (bt i7 aN (pv 4))) aN))) (oq v7 (pv 0) (oN (pv 2)) oA))))))))))),
  (aW (cU 2 rfl oF)
 (aW (dF (dB (AE.p (aw uN (AE.p (aw iD (ar 0) (AE.p aP))) (AE.p aP))))
 (aW (cU 3 rfl (D2 (AE.p oF) (AE.np (fW (K:=K) (tg:=(.n 2)) (iI.c (kM (AE.p aP))) (by decide) jV (aw bW (ar 0) (AE.p (aw iD (AE.p (aw m8 (ar 1) (AE.p (aw fb (AE.p aP) (AE.p (aw i9 (AE.p aP) (ar 2))))))) (AE.p aP))))))))
 (aW (dF (dB (AE.p (aw tU (AE.p (aw iD (ar 0) (AE.p aP))) (AE.p aP))))
 (l9 (AE.w (fW (K:=K) (tg:=(.n 1)) (iI.c (kM (ar 1))) (by decide) jV (pz vA (ar 0) pk (oW (AE.p (aw fb (ar 1) (AE.p aP))))))))
 dE)
 (l9 (AE.w (fW (K:=K) (tg:=(.n 1)) (iI.c (kM (ar 1))) (by decide) jV (pz vA (ar 0) (oW (AE.p (aw Gp (AE.p aP) (ar 1)))) pk))))))
 dE)
 (aW (cU 4 rfl (aw iD (AE.p (aw m8 (ar 0) (AE.p aP))) (AE.p aP)))
 (aW (cU 5 rfl (D2 (AE.p oF) (AE.np (fW (K:=K) (tg:=(.n 2)) (iI.c (kM (ar 4))) (by decide) jV (aw bW (ar 0) (AE.p (aw iD (AE.p (aw fb (AE.p (aw fb (AE.p (aw m8 (ar 1) (AE.p aP))) (AE.p (aw i9 (AE.p aP) (ar 2))))) (AE.p (aw i9 (ar 2) (ar 2))))) (AE.p aP))))))))
 (aW (cU 6 rfl (aw iD (AE.p (aw m8 (ar 0) (AE.p aP))) (AE.p (aw fb (ar 4) (AE.p aP)))))
 (l9 (AE.w (fW (K:=K) (tg:=(.n 4)) (iI.c (kM (ar 1))) (by decide) jV (aw fb (AE.p (aw fb (AE.p (pz vA (ar 0) pk (oW (ar 2)))) (AE.p (aw bW (ar 1) (AE.p (aw iD (AE.p (aw fb (AE.p (aw m8 (ar 3) (AE.p aP))) (AE.p (aw i9 (AE.p aP) (ar 4))))) (AE.p aP))))))) (AE.p (pz vA (ar 0) (oW (ar 2)) pk)))))))))))⟩)
abbrev y6:bC:=top 26
theorem Oi:cY ["_law_cell_here","_law_many","_law_left","_law_ranks_here","_law_draw","_law_k"] ["_law_cell_here","_law_many"] (bH y6):=d6
theorem Kr{f:ah}{fd:bM}(F:cI K "_law_ranks" "_law_ranks" y6 f fd)(T:Txt mg):bF P w K mg base aL 1 f fd ["_law_cell_here","_law_many"] (cz sT):=
 okN (Mo [2,3]) F Oi (λcdv A outer s H E hr nd hu bi=>by
  exact⟨_,(aU (v8 (i:=2) (N':=["_law_k"]) (ρ:=[ae]) rfl nd rfl (dA rfl) (eK.of rfl (by kernel_rfl)) (kP rfl T.lB (aM 1)) (λ_ _ _ _ _=>(dO (i:=0) Ah rfl (dA rfl))) (gR rfl) (λ_ _ _ _ _=>kh) (λ_ _ _ _ _=>(pv 0)))
 (aU (pS 3 (iz a8))
 (aU (pS 4 (bt ik (pv 0) aN))
 (aU (fB e6 rfl (kP rfl T.lB (aM 1)) (pG 5)
 (aU (pS 4 (bt ik (bt ff (bt ff (bt i7 (pv 4) aN) (bt i7 aN (pv 5))) aN) aN))
 (aX (iM (iN gA mq mr lU (pv 3) (aq (iN gA Jn Jo Rn (pv 2) (aq (bt ik (bt nh (pv 4) aN) (da ja rfl T.dU iF (aM 2))) a8)) a8))))))
 (aX (bV (pv 3))))))),
  (aW (lZ 2 rfl (fW (K:=K) (tg:=(.n 0)) (iI.c (kM (ar 1))) (by decide) jV (aJ 0)))
 (aW (lZ 3 rfl (iE a7))
 (aW (cU 4 rfl (aw iD (ar 0) (AE.p aP)))
 (aW (fM (K:=K) (tg:=(.n 5)) (kM (ar 1)) (by decide)
 (aW (cU 4 rfl (aw iD (AE.p (aw fb (AE.p (aw fb (AE.p (aw i9 (ar 4) (AE.p aP))) (AE.p (aw i9 (AE.p aP) (ar 5))))) (AE.p aP))) (AE.p aP)))
 (KH 3 2 (by decide) rfl rfl (AE.p (aw iD (AE.p (aw m8 (ar 4) (AE.p aP))) (AE.p (fA dU (aB (ar 2) a7))))))))
 (qh 3 rfl)))))⟩)
abbrev xT:bC:=top 27
theorem Q0:cY ["_law_script","_law_most","_law_many","_law_names","_law_ranks_here","_law_thick","_law_arrows","_law_j","_law_k","_law_cell_here"] ["_law_script","_law_most"] (bH xT):=d6
theorem NE{f:ah}{fd:bM}(F:cI K "_law_net" "_law_net" xT f fd)(T:Txt mg)(pY:b0 P w K mg base aL 1 "_law_cell" ["_law_script","_law_k"] (cF jf))(B8:b0 P w K mg base aL 1 "_law_words" ["_law_cell_here","_law_many"] (cz sF))(B9:b0 P w K mg base aL 1 "_law_ranks" ["_law_cell_here","_law_many"] (cz sT)):bF P w K mg base aL 2 f fd ["_law_script","_law_most"] (cF sN):=
 jL (Mo [6]) F Q0 (λcdv A outer s H E hr nd hu bi=>by
  exact⟨_,(aU (pS 2 (bt ff aN (bt ik (pC pY hr (aq (pv 0) (aq aN a8))) (pv 1))))
 (aU (pS 3 (pC B8 hr (aq (pC pY hr (aq (pv 0) (aq aN a8))) (aM 2))))
 (aU (pS 4 (pC B9 hr (aq (pC pY hr (aq (pv 0) (aq aN a8))) (aM 2))))
 (aU (pS 5 (DG DP (iz (aq aN (aq aN (aq aN (aq aN (aq aN (aq aN a8))))))) (bt ik (pC pY hr (aq (pv 0) (aq aN a8))) aN) (λ_ _=>rfl)))
 (aU (pS 6 (iz a8))
 (aU (fB e6 rfl (kP rfl T.lB (aM 2)) (pG 7)
 (aX (fB e6 rfl (kP rfl T.lB (aM 2)) (pG 8)
 (aU (pS 9 (pC pY hr (aq (pv 0) (aq (bt ff (bt ff aN (bt nh (bt i7 (da (HM rfl) rfl T.sZ boot_max (aq (pv 7) (aM 8))) (bt F6 (da (HM rfl) rfl T.sZ boot_max (aq (pv 7) (aM 8))) aN)) aN)) (da (N6 rfl) rfl T.zM boot_min (aq (pv 7) (aM 8)))) a8))))
 (aX (dq (PW.pt (pw_and (dG uY (pX (pv 4) (pv 7)) (pX (pv 4) (pv 8)) (eR _)) (pw_and1 (dG uY (bt ik (bt nh (bt ik (bt i7 (pv 9) aN) aN) aN) aN) (pv 5) (eR _)))))
 (aX (iM (iN gA mq mr lU (pv 6) (aq (bX (aq (pX (pv 3) (pv 7)) (aq (pX (pv 3) (pv 8)) a8))) a8))))
 dr))))))
 (aX (bV (bX (aq (pD vF rfl T.h9 ll (aM 3)) (aq (pD vF rfl T.h9 ll (aM 6)) a8))))))))))),
  (aW (cU 2 rfl (aw fb (AE.p aP) (AE.p (aw iD (AE.p (fv (aV (bx 0) (aV (AE.w aP) bY)))) (ar 1)))))
 (aW (cU 3 rfl (AE.nv (gW (aV (AE.w (fv (aV (bx 0) (aV (AE.w aP) bY)))) (aV (bx 2) bY)))))
 (aW (cU 4 rfl (AE.nv (gW (aV (AE.w (fv (aV (bx 0) (aV (AE.w aP) bY)))) (aV (bx 2) bY)))))
 (aW (cU 5 rfl (aw bW (AE.np (iE (aB aP (aB aP (aB aP (aB aP (aB aP (aB aP a7)))))))) (AE.p (aw iD (AE.p (fv (aV (bx 0) (aV (AE.w aP) bY)))) (AE.p aP)))))
 (aW (lZ 6 rfl (iE a7))
 (aW (fM (K:=K) (tg:=(.n 7)) (kM (ar 2)) (by decide)
 (fM (K:=K) (tg:=(.n 8)) (kM (ar 2)) (by decide)
 (aW (cU 9 rfl (fv (aV (bx 0) (aV (AE.w (aw fb (AE.p (aw fb (AE.p aP) (AE.p (aw m8 (AE.p (aw i9 (AE.p (fA sZ (aB (ar 7) (aB (ar 8) a7)))) (AE.p (aw Gp (AE.p (fA sZ (aB (ar 7) (aB (ar 8) a7)))) (AE.p aP))))) (AE.p aP))))) (AE.p (fA zM (aB (ar 7) (aB (ar 8) a7)))))) bY))))
 (dF (ni (dB (AE.p (aw uN (AE.p (aw bW (ar 4) (ar 7))) (AE.p (aw bW (ar 4) (ar 8)))))) (dB (AE.p (aw uN (AE.p (aw iD (AE.p (aw m8 (AE.p (aw iD (AE.p (aw i9 (ar 9) (AE.p aP))) (AE.p aP))) (AE.p aP))) (AE.p aP))) (ar 5)))))
 (mB 6 rfl (cp (aB (aw bW (ar 3) (ar 7)) (aB (aw bW (ar 3) (ar 8)) a7))))
 dE))))
 (d9 (AE.w (cp (aB (fA h9 (aB (ar 3) a7)) (aB (fA h9 (aB (ar 6) a7)) a7)))))))))))⟩)
abbrev z0:bC:=top 28
theorem G4:cY ["_law_found","_law_due","_law_one","_law_other"] ["_law_found","_law_due"] (bH z0):=d6
theorem Gg{f:ah}{fd:bM}(F:cI K "_law_alike" "_law_alike" z0 f fd)(T:Txt mg)  (self:∀n,bF P w K mg base aL (n+1) f fd ["_law_found","_law_due"] (cF (eW n))->b0 P w K mg base aL (n+1) "_law_alike" ["_law_found","_law_due"] (cF (eW n))):∀n,bF P w K mg base aL (n+1) f fd ["_law_found","_law_due"] (cF (eW n))
 |0=>Me
 |n+1=>F.ok G4 (λvs H Q E h=>Do h) (λcdv A outer s H vs Q E hr h=>by
  have n6:∀m:Nat,m=n->b0 P w K mg base aL (m+1) "_law_alike" ["_law_found","_law_due"] (cF (eW m)):=λm e=>by subst e;exact self m (Gg F T  self m)
  have n6:=λm:Nat=>(n6 n rfl:b0 P w K mg base aL (n+1) "_law_alike" ["_law_found","_law_due"] (cF (eW n)));have nd:=G4.nd;have hu:=vg hr;have bi:=hr.units;have xI:=hr.mono (show(n+1)<=_ by omega);exact⟨_,(aU (dq (PW.pt (pw_or (gn (da jD rfl T.iX iW (aq (pv 1) (aq (gZ rfl T.xG boot_str) a8)))) (pw_or1 (gn (da jD rfl T.iX iW (aq (pv 1) (aq (gZ rfl T.JV boot_int) a8)))))))
 (aU (dq (PW.pt (pw_or (dG (k9 bi) (da jD rfl T.iX iW (aq (pv 0) (aq (gZ rfl T.JU boot_bool) a8))) (da jD rfl T.iX iW (aq (pv 1) (aq (gZ rfl T.JU boot_bool) a8))) (eR _)) (pw_or1 (dG (k9 bi) (da jD rfl T.iX iW (aq (pv 0) (aq (gZ rfl T.xG boot_str) a8))) (da jD rfl T.iX iW (aq (pv 1) (aq (gZ rfl T.xG boot_str) a8))) (eR _)))))
 (aX (bV fT))
 dr)
 (aX (bV (Al (da Zp.Gb rfl T.iX iW (aq (pv 0) (aq (bX (aq (gZ rfl T.JV boot_int) (aq (gZ rfl T.xG boot_str) a8))) a8))) (tG (i6 (sr bi) (pv 0) (pv 1) (eR _)))))))
 dr)
 (aU (dq (PW.pt (pw_or (dG (k9 bi) (da jD rfl T.iX iW (aq (pv 0) (aq (gZ rfl T.xF boot_list) a8))) (da jD rfl T.iX iW (aq (pv 1) (aq (gZ rfl T.xF boot_list) a8))) (eR _)) (pw_or1 (jz (gn (da Zp.Gb rfl T.iX iW (aq (pv 0) (aq (bX (aq (gZ rfl T.xF boot_list) (aq (gZ rfl T.h9 ll) a8))) a8))))))))
 (aX (bV fT))
 dr)
 (aU (dq (dG (k9 bi) (da ja rfl T.dU iF (aM 0)) (da ja rfl T.dU iF (aM 1)) (eR _))
 (aX (bV fT))
 dr)
 (aU (fB e6 rfl (Zp.Lp rfl T.R5 (pv 0) (pv 1)) (jg rfl (eh (pG 2) (eh (pG 3) jd)))
 (aX (dq (jz (gn (vV (n6 n) xI rfl uD (aq (pv 2) (aM 3)))))
 (aX (bV fT))
 dr)))
 (aX (bV fT)))))),
  _root_.A.EG (N:=["_law_found","_law_due","_law_one","_law_other"]) (M:=Mo []) (aW (dF (kO (d0 (AE.p (jK (ty_str K) (ar 1)))) (d0 (AE.p (jK (ty_int K) (ar 1)))))
 (aW (dF (kO (dB (AE.p (aw kN (AE.p (jK (ty_bool K) (ar 0))) (AE.p (jK (ty_bool K) (ar 1)))))) (dB (AE.p (aw kN (AE.p (jK (ty_str K) (ar 0))) (AE.p (jK (ty_str K) (ar 1)))))))
 (d9 (AE.w fS))
 dE)
 (d9 (AE.w (zR (AE.p (Zp.ES (Zp.Fl (ty_int K) (ty_str K)) (by decide) (ar 0))) (aw tU (ar 0) (ar 1))))))
 dE)
 (aW (dF (kO (dB (AE.p (aw kN (AE.p (jK (ty_list K) (ar 0))) (AE.p (jK (ty_list K) (ar 1)))))) (jJ (d0 (AE.p (Zp.ES (Zp.Fl (ty_list K) (ty_tuple K)) (by decide) (ar 0))))))
 (d9 (AE.w fS))
 dE)
 (aW (dF (dB (AE.p (aw kN (AE.p (fA dU (aB (ar 0) a7))) (AE.p (fA dU (aB (ar 1) a7))))))
 (d9 (AE.w fS))
 dE)
 (aW (fM (K:=K) (tg:=(.t [2,3])) (Zp.QN (aJ 0) (aJ 1)) (by decide)
 (dF (jJ (d0 (AE.p (fv (aV (bx 2) (aV (bx 3) bY))))))
 (d9 (AE.w fS))
 dE))
 (d9 (AE.w fS)))))) (by decide) h⟩)
abbrev Au:bC:=top 29
theorem Om:cY ["_law_net_here","_law_one","_law_other"] ["_law_net_here","_law_one","_law_other"] (bH Au):=d6
theorem MR{f:ah}{fd:bM}(F:cI K "_law_tied" "_law_tied" Au f fd)(T:Txt mg):bF P w K mg base aL 1 f fd ["_law_net_here","_law_one","_law_other"] (cF py):=
 jL (Mo []) F Om (λcdv A outer s H E hr nd hu bi=>by
  exact⟨_,(aX (bV (z5 (i6 (jb bi) (bX (aq (pv 1) (aM 2))) (pX (pv 0) aN) rfl) (tG (i6 (jb bi) (bX (aq (pv 2) (aM 1))) (pX (pv 0) aN) rfl))))),
  (d9 (AE.w (zU (AE.p (aw jr (AE.p (cp (aB (aJ 1) (aB (aJ 2) a7)))) (AE.p (aw bW (ar 0) (AE.p aP))))) (aw jr (AE.p (cp (aB (aJ 2) (aB (aJ 1) a7)))) (AE.p (aw bW (ar 0) (AE.p aP)))))))⟩)
abbrev xQ:bC:=top 30
theorem KU:cY ["_law_net_here","_law_ties_here","_law_k","_law_one"] ["_law_net_here"] (bH xQ):=d6
theorem PF{f:ah}{fd:bM}(F:cI K "_law_ties" "_law_ties" xQ f fd)(T:Txt mg)(Ca:b0 P w K mg base aL 1 "_law_tied" ["_law_net_here","_law_one","_law_other"] (cF py)):bF P w K mg base aL 2 f fd ["_law_net_here"] (cF ql):=
 jL (Mo []) F KU (λcdv A outer s H E hr nd hu bi=>by
  exact⟨_,(aU (pS 1 (iz a8))
 (aU (fB e6 rfl (Zp.El rfl T.JW (pX (pv 0) aN)) (jg rfl (eh (pG 2) (eh (dO (i:=3) nd rfl (fI rfl)) jd)))
 (aX (pS 1 (bt ff (pv 1) (ib (N':=["_law_one","_law_net_here","_law_other"]) (ρ:=[ab 3,ab 0,ae]) rfl (eK.of rfl (by kernel_rfl)) (eB (oq GS (pX (pv 0) aN) (oN (bt ff (pv 2) aN)) oA)) (λ_ _ _ _ _=>(dO (i:=2) (by show(["_law_one","_law_net_here","_law_other"]:List Str).Nodup;decide +kernel) rfl (dA rfl))) (gR rfl) (λ_ _ _ _ _=>(mI (gn (pC Ca hr (aq (pv 1) (aq (pv 0) (aM 2))))))) (λ_ _ _ _ _=>(bX (aq (pv 0) (aM 2)))))))))
 (aX (bV (pv 1))))),
  (aW (cU 1 rfl (AE.nv (iE a7)))
 (aW (fM (K:=K) (tg:=(.t [2,3])) (Zp.He (aw bW (ar 0) (AE.p aP))) (by decide)
 (cU 1 rfl (aw fb (ar 1) (AE.np (fW (K:=K) (tg:=(.n 2)) (jq (AE.p (pz EJ (AE.p (aw bW (ar 0) (AE.p aP))) (oW (AE.p (aw fb (ar 2) (AE.p aP)))) pk))) (by decide) (d0 (AE.p (fv (aV (bx 1) (aV (bx 0) (aV (bx 2) bY)))))) (cp (aB (aJ 0) (aB (aJ 2) a7))))))))
 (d9 (bx 1))))⟩)
abbrev yG:bC:=top 31
theorem Kw:cY ["_law_found","_law_names","_law_last","_law_pair","_law_here"] ["_law_found","_law_names"] (bH yG):=d6
theorem Pk{f:ah}{fd:bM}(F:cI K "_law_pairs" "_law_pairs" yG f fd)(T:Txt mg):bF P w K mg base aL 1 f fd ["_law_found","_law_names"] (cF kG):=
 jL (Mo []) F Kw (λcdv A outer s H E hr nd hu bi=>by
  exact⟨_,(aU (dq (jz (gn (da jD rfl T.iX iW (aq (pv 0) (aq (gZ rfl T.h9 ll) a8)))))
 (aX (bV fT))
 dr)
 (aU (pS 2 (iz (aq (FO E3 aN) (aq (FO E3 aN) a8))))
 (aU (fB e6 rfl (eB (pv 0)) (pG 3)
 (aU (dq (PW.pt (pw_or (jz (gn (da jD rfl T.iX iW (aq (pv 3) (aq (gZ rfl T.h9 ll) a8))))) (pw_or (dG (k9 bi) (da ja rfl T.dU iF (aM 3)) aN (eR _)) (pw_or (dG (mO bi) (pX (pv 3) aN) (pv 1) rfl) (pw_or1 (dG (mO bi) (pX (pv 3) aN) (pv 1) rfl))))))
 (aX (bV fT))
 dr)
 (aU (pS 4 (iz (aq (zG Bw xg Bx xV gA xh By zc (pv 1) (aq (pX (pv 3) aN) a8)) (aq (zG Bw xg Bx xV gA xh By zc (pv 1) (aq (pX (pv 3) aN) a8)) a8))))
 (aU (dq (dG (Kz bi) (pv 4) (pv 2) (eR _))
 (aX (bV fT))
 dr)
 (aX (pS 2 (pv 4)))))))
 (aX (bV fT))))),
  (aW (dF (jJ (d0 (AE.p (jK (ty_tuple K) (ar 0)))))
 (d9 (AE.w fS))
 dE)
 (aW (cU 2 rfl (AE.nv (iE (aB (GF HV (AE.p aP)) (aB (GF HV (AE.p aP)) a7)))))
 (aW (fM (K:=K) (tg:=(.n 3)) (j3 (aJ 0)) (by decide)
 (aW (dF (kO (jJ (d0 (AE.p (jK (ty_tuple K) (ar 3))))) (kO (dB (AE.p (aw kN (AE.p (fA dU (aB (ar 3) a7))) (AE.p aP)))) (kO (dB (AE.p (aw mP (AE.p (aw bW (ar 3) (AE.p aP))) (ar 1)))) (dB (AE.p (aw mP (AE.p (aw bW (ar 3) (AE.p aP))) (ar 1)))))))
 (d9 (AE.w fS))
 dE)
 (aW (cU 4 rfl (AE.nv (iE (aB (yk (ar 1) (AE.p (aw bW (ar 3) (AE.p aP)))) (aB (yk (ar 1) (AE.p (aw bW (ar 3) (AE.p aP)))) a7)))))
 (aW (dF (dB (AE.p (aw M2 (ar 4) (ar 2))))
 (d9 (AE.w fS))
 dE)
 (cU 2 rfl (aJ 4))))))
 (d9 (AE.w fS)))))⟩)
abbrev zj:bC:=top 32
theorem Lu:cY ["_law_found","_law_net_here","_law_arrow","_law_one","_law_other","_law_by_arrow"] ["_law_found","_law_net_here"] (bH zj):=d6
theorem NU{f:ah}{fd:bM}(F:cI K "_law_picture" "_law_picture" zj f fd)(T:Txt mg)(Cb:b0 P w K mg base aL 2 "_law_ties" ["_law_net_here"] (cF ql))(xJ:b0 P w K mg base aL 1 "_law_pairs" ["_law_found","_law_names"] (cF kG)):bF P w K mg base aL 3 f fd ["_law_found","_law_net_here"] (cF qm):=
 jL (Mo []) F Lu (λcdv A outer s H E hr nd hu bi=>by
  exact⟨_,(aU (dq (PW.pt (pw_or (jz (gn (da jD rfl T.iX iW (aq (pv 0) (aq (gZ rfl T.h9 ll) a8))))) (pw_or (dG (k9 bi) (da ja rfl T.dU iF (aM 0)) aN (eR _)) (pw_or (jz (gn (da jD rfl T.iX iW (aq (pX (pv 0) aN) (aq (gZ rfl T.h9 ll) a8))))) (pw_or1 (dG (k9 bi) (pX (pv 0) aN) (pX (pv 1) aN) (eR _)))))))
 (aX (bV fT))
 dr)
 (aU (dq (PW.pt (pw_or (jz (gn (pC xJ hr (aq (pX (pv 0) aN) (aq (pX (pv 1) aN) a8))))) (pw_or1 (jz (gn (pC xJ hr (aq (pX (pv 0) aN) (aq (pX (pv 1) aN) a8))))))))
 (aX (bV fT))
 dr)
 (aU (fB e6 rfl (eB (pX (pv 0) aN)) (pG 2)
 (aX (dq (dG (mO bi) (pv 2) (pX (pv 1) aN) rfl)
 (aX (bV fT))
 dr)))
 (aU (fB e6 rfl (eB (pC Cb hr (aM 1))) (jg rfl (eh (pG 3) (eh (pG 4) jd)))
 (aU (pS 5 (z5 (i6 (jb bi) (bX (aq (pv 3) (aM 4))) (pX (pv 0) aN) rfl) (tG (i6 (jb bi) (bX (aq (pv 4) (aM 3))) (pX (pv 0) aN) rfl))))
 (aX (dq (dG (sr bi) (pv 5) (i6 (jb bi) (bX (aq (pv 3) (aM 4))) (pX (pv 0) aN) rfl) (eR _))
 (aX (bV fT))
 dr))))
 (aX (bV (i6 (sr bi) (bt ff (da ja rfl T.dU iF (aq (pX (pv 0) aN) a8)) (da ja rfl T.dU iF (aq (pX (pv 0) aN) a8))) (da ja rfl T.dU iF (aq (pX (pv 1) aN) a8)) (eR _)))))))),
  (aW (dF (kO (jJ (d0 (AE.p (jK (ty_tuple K) (ar 0))))) (kO (dB (AE.p (aw kN (AE.p (fA dU (aB (ar 0) a7))) (AE.p aP)))) (kO (jJ (d0 (AE.p (jK (ty_tuple K) (AE.p (aw bW (ar 0) (AE.p aP))))))) (dB (AE.p (aw kN (AE.p (aw bW (ar 0) (AE.p aP))) (AE.p (aw bW (ar 1) (AE.p aP)))))))))
 (d9 (AE.w fS))
 dE)
 (aW (dF (kO (jJ (d0 (AE.p (fv (aV (AE.w (aw bW (ar 0) (AE.p aP))) (aV (AE.w (aw bW (ar 1) (AE.p aP))) bY)))))) (jJ (d0 (AE.p (fv (aV (AE.w (aw bW (ar 0) (AE.p aP))) (aV (AE.w (aw bW (ar 1) (AE.p aP))) bY)))))))
 (d9 (AE.w fS))
 dE)
 (aW (fM (K:=K) (tg:=(.n 2)) (j3 (aw bW (ar 0) (AE.p aP))) (by decide)
 (dF (dB (AE.p (aw mP (ar 2) (AE.p (aw bW (ar 1) (AE.p aP))))))
 (d9 (AE.w fS))
 dE))
 (aW (fM (K:=K) (tg:=(.t [3,4])) (j3 (fv (aV (bx 1) bY))) (by decide)
 (aW (cU 5 rfl (zU (AE.p (aw jr (AE.p (cp (aB (aJ 3) (aB (aJ 4) a7)))) (AE.p (aw bW (ar 0) (AE.p aP))))) (aw jr (AE.p (cp (aB (aJ 4) (aB (aJ 3) a7)))) (AE.p (aw bW (ar 0) (AE.p aP))))))
 (dF (dB (AE.p (aw tU (ar 5) (AE.p (aw jr (AE.p (cp (aB (aJ 3) (aB (aJ 4) a7)))) (AE.p (aw bW (ar 0) (AE.p aP))))))))
 (d9 (AE.w fS))
 dE)))
 (d9 (AE.w (aw tU (AE.p (aw fb (AE.p (fA dU (aB (AE.p (aw bW (ar 0) (AE.p aP))) a7))) (AE.p (fA dU (aB (AE.p (aw bW (ar 0) (AE.p aP))) a7))))) (AE.p (fA dU (aB (AE.p (aw bW (ar 1) (AE.p aP))) a7))))))))))⟩)
abbrev zW:bC:=top 33
theorem LS:cY ["_law_names","_law_ties_here","_law_islands_here","_law_name","_law_island","_law_turn","_law_one","_law_other"] ["_law_names","_law_ties_here"] (bH zW):=d6
theorem Qa{f:ah}{fd:bM}(F:cI K "_law_islands" "_law_islands" zW f fd)(T:Txt mg):bF P w K mg base aL 1 f fd ["_law_names","_law_ties_here"] (cz qv):=
 okN (Mo [2]) F LS (λcdv A outer s H E hr nd hu bi=>by
  exact⟨_,(aU (pS 2 (iz a8))
 (aU (fB e6 rfl (eB (pv 0)) (pG 3)
 (aU (lh (i:=4) nd rfl (fI rfl) (iz (aM 3)))
 (aU (fB e6 rfl (kP rfl T.lB (aq (da ja rfl T.dU iF (aM 0)) a8)) (pG 5)
 (aX (fB e6 rfl (eB (pv 1)) (jg rfl (eh (pG 6) (eh (pG 7) jd)))
 (aX (dq (dG (k9 bi) (i6 (jb bi) (pv 6) (pv 4) rfl) (i6 (jb bi) (pv 7) (pv 4) rfl) (eR _))
 (aU (lh (i:=4) nd rfl (fI rfl) (bt ff (pv 4) (iz (aq (pv 6) (aM 7)))))
 (aX (lh (i:=4) nd rfl (fI rfl) (ib (N':=["_law_island","_law_some"]) (ρ:=[ab 4,ae]) rfl (eK.of rfl (by kernel_rfl)) (eB (pv 0)) (λ_ _ _ _ _=>(dO (i:=1) lW rfl (dA rfl))) (gR rfl) (λ_ _ _ _ _=>(mI (dG (jb bi) (pv 1) (pv 0) rfl))) (λ_ _ _ _ _=>(pv 1))))))
 dr)))))
 (aX (dq (PW.pt (pw_and (dG yv (da ja rfl T.dU iF (aM 4)) aN (eR _)) (pw_and1 (dG (mO bi) (pv 4) (pv 2) rfl))))
 (aX (iM (iN gA mq mr lU (pv 2) (aM 4))))
 dr)))))
 (aX (bV (pv 2))))),
  (aW (lZ 2 rfl (iE a7))
 (aW (fM (K:=K) (tg:=(.n 3)) (j3 (aJ 0)) (by decide)
 (aW (cU 4 rfl (AE.nv (iE (aB (aJ 3) a7))))
 (aW (fM (K:=K) (tg:=(.n 5)) (kM (AE.p (fA dU (aB (ar 0) a7)))) (by decide)
 (fM (K:=K) (tg:=(.t [6,7])) (j3 (aJ 1)) (by decide)
 (dF (dB (AE.p (aw kN (AE.p (aw jr (ar 6) (ar 4))) (AE.p (aw jr (ar 7) (ar 4))))))
 (aW (cU 4 rfl (aw fb (ar 4) (AE.np (iE (aB (aJ 6) (aB (aJ 7) a7))))))
 (cU 4 rfl (AE.nv (fW (K:=K) (tg:=(.n 1)) (jq (ar 0)) (by decide) (dB (AE.p (aw jr (ar 1) (ar 0)))) (aJ 1)))))
 dE)))
 (dF (ni (dB (AE.p (aw zk (AE.p (fA dU (aB (ar 4) a7))) (AE.p aP)))) (dB (AE.p (aw mP (ar 4) (ar 2)))))
 (mB 2 rfl (aJ 4))
 dE))))
 (qh 2 rfl)))⟩)
abbrev AF:bC:=top 34
theorem N5:cY ["_law_script","_law_net_here","_law_picture_here","_law_due","_law_found","_law_island"] ["_law_script"] (bH AF):=d6
theorem Rf{f:ah}{fd:bM}(F:cI K "law" "law" AF f fd)(T:Txt mg)(Cc:b0 P w K mg base aL 6 "picture_of" ["net"] (cF qM))(xK:b0 P w K mg base aL 3 "islands_of" ["picture"] (cz mU))(Cd:b0 P w K mg base aL 2 "_law_net" ["_law_script","_law_most"] (cF sN))(n6:∀n,b0 P w K mg base aL (n+1) "_law_alike" ["_law_found","_law_due"] (cF (eW n)))(Ce:b0 P w K mg base aL 3 "_law_picture" ["_law_found","_law_net_here"] (cF qm))(Cf:b0 P w K mg base aL 1 "_law_islands" ["_law_names","_law_ties_here"] (cz qv)):bF P w K mg base aL 7 f fd ["_law_script"] (cF yw):=
 jL (Mo []) F N5 (λcdv A outer s H E hr nd hu bi=>by
  have xI:=hr.mono (show(4+1)<=_ by decide);exact⟨_,(aU (pS 1 (pC Cd hr (aq (pv 0) (aq aN a8))))
 (aU (pS 2 (pC Cc hr (aM 1)))
 (aU (dq (jz (gn (pC Ce hr (aq (pv 2) (aM 1)))))
 (aX (bV fT))
 dr)
 (aU (pS 3 (pC Cf hr (aq (pX (pv 1) aN) (aq (pX (pv 2) aN) a8))))
 (aU (pS 4 (pC xK hr (aM 2)))
 (aU (dq (jz (gn (vV (n6 4) xI rfl uD (aq (pv 4) (aM 3)))))
 (aX (bV fT))
 dr)
 (aU (fB e6 rfl (eB (pv 4)) (pG 5)
 (aX (iM (uO gA Jk Jl C4 (pv 5)))))
 (aU (iM (uO gA Jk Jl C4 (pv 4)))
 (aX (bV (vV (n6 4) xI rfl uD (aq (pC xK hr (aM 2)) (aM 3))))))))))))),
  (aW (cU 1 rfl (fv (aV (bx 0) (aV (AE.w aP) bY))))
 (aW (cU 2 rfl (fv (aV (bx 1) bY)))
 (aW (dF (jJ (d0 (AE.p (fv (aV (bx 2) (aV (bx 1) bY))))))
 (d9 (AE.w fS))
 dE)
 (aW (cU 3 rfl (AE.nv (gW (aV (AE.w (aw bW (ar 1) (AE.p aP))) (aV (AE.w (aw bW (ar 2) (AE.p aP))) bY)))))
 (K6 (K:=K) [2] 4 5 (by decide) (by decide) rfl (gW (aV (bx 2) bY)) (jJ (d0 (AE.p (fv (aV (bx 4) (aV (bx 3) bY))))))
 (d9 (AE.w fS))
 (d9 (AE.w (fv (aV (AW.nv (AE.w (gW (aV (bx 2) bY)))) (aV (bx 3) bY))))))))))⟩)
end
end pV
namespace L2
open PySem PySem.Spec PyProof.Rows
theorem dh.Ml{P:bg}{w:aY}{K:aE}{mg:Str->Option ag}{CX:gF}{k:Nat}{x p:Str}{st:bC}{sp:Sp}{fa c T:ah}(F:dh K mg x st [p])(hm:mg x=ab (.ref fa))(h:∀base,K.In base->base.Ns mainGlobals mg->BM mg base->jP base c T->∀f fd,cI K x x st f fd->bF P w K mg base CX k f fd [p] sp) :
 ∃fd:bM,(∀(s:ao) (u:ag),nL s fd ⟨[u],[]⟩ [(p,u)])/\∀base:aI,K.In base->base.Ns mainGlobals mg->BM mg base->jP base c T->bF P w K mg base CX k fa fd [p] sp:=by
 obtain⟨f,fd,h1,h2,h3,h5,h4⟩:=F.ex;rw[h1]at hm;cases hm;exact⟨fd,λs u=>h5 s [u] rfl,λbase kb nb b1 b2=>h base kb nb b1 b2 _ fd h4⟩
theorem Pl{P:bg}{w:aY}{K:aE}{mg:Str->Option ag}{base:aI}{CX:gF}{lv:Nat->Nat}{x:Str}{st:bC}{ps:List Str}{sp:Nat->Sp}(F:dh K mg x st ps)
 (h:∀f fd,cI K x x st f fd->(∀n,bF P w K mg base CX (lv n) f fd ps (sp n)->b0 P w K mg base CX (lv n) x ps (sp n))->∀n,bF P w K mg base CX (lv n) f fd ps (sp n)) (n:Nat):b0 P w K mg base CX (lv n) x ps (sp n):=by
 obtain⟨f,fd,h1,h2,h3,_,h4⟩:=F.ex;have self:∀n,bF P w K mg base CX (lv n) f fd ps (sp n)->b0 P w K mg base CX (lv n) x ps (sp n):=λn k=>⟨f,fd,h1,h2,h3,k⟩;exact self n (h f fd h4 self n)
def Gf(K:aE):Bool:=K.all λp=>match p.2.cls with|.type "list" => false|_=>true
theorem Oq{K:aE}(h:Gf K=true){a:ah}{o:Obj}(e:K.lookup a=ab o)(c:o.cls=.type "list"):False:=by
 have hm:(a,o)∈K:=by
  clear h
  induction K with
  |nil=>cases e
  |cons p r ih=>
   obtain⟨b,x⟩:=p;simp only[mn]at e;split at e
   ·rename_i q;cases e;rw[kQ.mp q];exact List.Mem.head _
   ·exact List.Mem.tail _ (ih e)
 have h2:=ua.mp h _ hm;simp only[c]at h2;cases h2
end L2
namespace Mi
open PySem
@[simp] theorem lG {α:Type} (a:α):cG (ab a)=.ok a:=rfl
@[simp] theorem Sl {α:Type} {c:Prop} [Decidable c] (h:c) (r:Rs α):a9 c r=r:=aH h
@[simp] theorem qB (a b:Str):bn (.str a) (.str b)=decide (a=b):=by rw[bn];by_cases h:a=b<;>simp[h]
@[simp] theorem CM (a b:Int):bn (.int a) (.int b)=decide (a=b):=by rw[bn];by_cases h:a=b<;>simp[h]
@[simp] theorem Qv (x:Str):(D.str x).dep=0:=by simp[D.dep]
@[simp] theorem Sh (x:Int):(D.int x).dep=0:=by simp[D.dep]
@[simp] theorem Si (x:Bool):(D.bl x).dep=0:=by simp[D.dep]
@[simp] theorem Sg:D.non.dep=0:=by simp[D.dep]
@[simp] theorem OS (ds:List D):(D.lst ds).dep=dN ds+1:=by simp[D.dep]
@[simp] theorem Sj (ds:List D):(D.tup ds).dep=dN ds+1:=by simp[D.dep]
@[simp] theorem Se:dN []=0:=rfl
@[simp] theorem zF (d:D) (r:List D):dN (d::r)=max d.dep (dN r):=by rw[dN]
@[simp] theorem vI:∀xs:List Str,dN (xs.map D.str)=0
 |[]=>rfl
 |x::r=>by rw[bO,zF,Qv,vI r];rfl
theorem Hm(xs:List Str)(x:Str):((xs.map D.str).any λe=>bn e (.str x))=decide (x∈xs):=by
 induction xs with
 |nil=>rfl
 |cons y r ih=>
  rw[bO,iH,ih,qB];by_cases h:y=x
  ·simp[h]
  ·have h2:¬ x=y:=λz=>h z.symm;simp[h,h2]
theorem uJ(xs:List Str)(x:Str):bz (.str x) (.lst (xs.map D.str))=.ok (.bl (decide (x∈xs))):=by show a9 _ _=_;rw[aO (by rw[vI];omega),Hm]
theorem yQ(xs:List Str)(x:Str):eQ (.str x) (.tup (xs.map D.str))=.ok (.bl (!decide (x∈xs))):=by show a9 _ _=_;rw[aO (by rw[vI];omega),Hm]
theorem Ff(x y:Str):fU (.str x) (.str y)=.ok (.bl (decide (x=y))):=by show a9 _ _=_;rw[aO (by simp),qB]
theorem Nb(x y:Str):de (.str x) (.str y)=.ok (.bl (!decide (x=y))):=by show a9 _ _=_;rw[aO (by simp),qB]
theorem xL(x y:Int):fU (.int x) (.int y)=.ok (.bl (decide (x=y))):=by show a9 _ _=_;rw[aO (by simp),CM]
theorem G9(x y:Int):de (.int x) (.int y)=.ok (.bl (!decide (x=y))):=by show a9 _ _=_;rw[aO (by simp),CM]
theorem DF{α:Type}(f:α->Bool)(xs:List α):j1 (xs.map λx=>D.bl (f x))=ab (xs.map f):=by
 induction xs with
 |nil=>rfl
 |cons a r ih=>rw[bO,j1,ih];rfl
theorem Fa(xs:List Str):j9 (xs.map D.str)=ab xs:=by
 induction xs with
 |nil=>rfl
 |cons a r ih=>rw[bO,j9,ih];rfl
theorem uT(n:Nat)(b:S)(a0:W):eI 1 n b [a0]=(b ([ab a0]++cx (n-1) ae)).bind lc:=aO rfl
theorem nz(n:Nat)(b:S)(a0 a1:W):eI 2 n b [a0,a1]=(b ([ab a0,ab a1]++cx (n-2) ae)).bind lc:=aO rfl
theorem Az(n:Nat)(b:S)(a0 a1 a2:W):eI 3 n b [a0,a1,a2]=(b ([ab a0,ab a1,ab a2]++cx (n-3) ae)).bind lc:=aO rfl
theorem o0(n:Nat)(b:S)(a0:W):fq 1 n b [a0]=(b ([ab a0]++cx (n-1) ae)).bind jZ:=aO rfl
theorem pZ(n:Nat)(b:S)(a0 a1:W):fq 2 n b [a0,a1]=(b ([ab a0,ab a1]++cx (n-2) ae)).bind jZ:=aO rfl
theorem HW(n:Nat)(b:S)(a0 a1 a2:W):fq 3 n b [a0,a1,a2]=(b ([ab a0,ab a1,ab a2]++cx (n-3) ae)).bind jZ:=aO rfl
theorem sD(i j:Int):bq (.int i) (.int j)=.ok (.int (i+j)):=rfl
theorem Gz(i j:Str):bq (.str i) (.str j)=a9 (i.length+j.length<=16777216) (.ok (.str (i++j))):=rfl
theorem MT(i j:List D):bq (.lst i) (.lst j)=a9 (i.length+j.length<=16777216) (.ok (.lst (i++j))):=rfl
theorem OB(i j:Int):lL (.int i) (.int j)=.ok (.int (i-j)):=rfl
theorem GU(i j:Int):c5 (.int i) (.int j)=a9 (lE i j) (.ok (.int (i*j))):=rfl
theorem div_ii(i j:Int):et (.int i) (.int j)=a9 (l7 j) (.ok (.int (i/j))):=rfl
theorem DK(i j:Int):cD (.int i) (.int j)=a9 (0<j) (.ok (.int (i%j))):=rfl
theorem zu(i j:Int):gq (.int i) (.int j)=.ok (.bl (decide (i<j))):=rfl
theorem GG(i j:Int):mX (.int i) (.int j)=.ok (.bl (decide (j<i))):=rfl
theorem Nc(ds:List D):cH [.lst ds]=.ok (.int ds.length):=rfl
theorem uC(ds:List D):cH [.tup ds]=.ok (.int ds.length):=rfl
theorem Mh(z:Str):cH [.str z]=a9 (z.length<=16777216) (.ok (.int z.length)):=rfl
theorem PR(i j:Int):jp [.int i,.int j]=.ok (.int (max i j)):=rfl
theorem OO(i j:Int):mJ [.int i,.int j]=.ok (.int (min i j)):=rfl
theorem Oc(ds:List D):yl [.lst ds]=(cG (j1 ds)).bind λbs=>.ok (.bl (bs.all id)):=rfl
theorem Mj(ds:List D):rd [.lst ds]=(cG (j1 ds)).bind λbs=>.ok (.bl (bs.any id)):=rfl
theorem FK(ds:List D):qe [.lst ds]=.ok (.tup ds):=rfl
theorem zD(z:Str)(lo hi:Option Int):kU (.str z) lo hi=a9 (z.length<=16777216) (.ok (.str (ng z lo hi))):=rfl
theorem Qi(ds:List D):rg (.lst ds)=.ok ds:=rfl
theorem sE(b:Bool):oM (.bl b)=.ok b:=rfl
theorem tL(b:Int):sk (.int b)=.ok b:=rfl
theorem uQ(x:D):wt (.d x)=.ok x:=rfl
theorem KA(i:Nat)(d:D)(e:Mi.Env):(Tg.n i).put d e=.ok (e.set i (ab (.d d))):=rfl
theorem all_cons(i:Nat)(is:List Nat)(d:D)(ds:List D)(e:Mi.Env):qZ (i::is) (d::ds) e=qZ is ds (e.set i (ab (.d d))):=rfl
theorem MY(e:Mi.Env):lc (.nx e)=.ok (.d .non):=rfl
theorem Ox(w:W):jZ (.rt w)=.ok w:=rfl
theorem aA{f:D->D->Rs D}{a b:E}{e:Mi.Env}{x y:D}{z:Rs D}(ha:a e=.ok x)(hb:b e=.ok y)(h:f x y=z):m2 f a b e=z:=by unfold m2;rw[ha,aD,hb,aD,h]
theorem aK{s t:S}{e e':Mi.Env}(h:s e=.ok (.nx e')):aF s t e=t e':=by unfold aF;rw[h];rfl
theorem sg{s t:S}{e:Mi.Env}{w:W}(h:s e=.ok (.rt w)):aF s t e=.ok (.rt w):=by unfold aF;rw[h];rfl
theorem bN{i:Nat}{a:E}{e:Mi.Env}{d:D}(h:a e=.ok d):a6 i a e=.ok (.nx (e.set i (ab (.d d)))):=by unfold a6;rw[h];rfl
theorem eU{a:EW}{e:Mi.Env}{w:W}(h:a e=.ok w):bB a e=.ok (.rt w):=by unfold bB;rw[h];rfl
theorem bU{a:E}{e:Mi.Env}{d:D}(h:a e=.ok d):wD a e=.ok (.d d):=by unfold wD;rw[h];rfl
theorem gs{c:C}{s t:S}{e:Mi.Env}(h:c e=.ok true):bh c s t e=s e:=by unfold bh;rw[h];rfl
theorem dD{c:C}{s t:S}{e:Mi.Env}(h:c e=.ok false):bh c s t e=t e:=by unfold bh;rw[h];rfl
theorem bI{a:E}{e:Mi.Env}{b:Bool}(h:a e=.ok (.bl b)):cB a e=.ok b:=by unfold cB;rw[h];rfl
theorem e9{ρ:List (Option Nat)}{it:I}{tg:Tg}{c:C}{a:E}{e:Mi.Env}{xs ys:List D}(h:it e=.ok xs)(hl:xs.length<=16777216)(hc:c9 tg c a (kL ρ e) xs=.ok ys):cq ρ it tg c a e=.ok (.lst ys):=by unfold cq;rw[h,aD,aO hl,hc,aD]
theorem j2{a:E}{e:Mi.Env}{n:Int}(h:a e=.ok (.int n))(hr:okR n):gO a e=.ok (d8 0 n):=by unfold gO;rw[h,aD,tL,aD,aO hr]
theorem eV{it:I}{tg:Tg}{b:S}{e:Mi.Env}{xs:List D}(h:it e=.ok xs):du it tg b e=ii tg b xs e:=by unfold du;rw[h];rfl
theorem eA{a:E}{e:Mi.Env}{x:D}{xs:List D}(h:a e=.ok x)(hx:rg x=.ok xs):bJ a e=.ok xs:=by unfold bJ;rw[h,aD,hx]
theorem sQ{i:Nat}{a:E}{e:Mi.Env}{d:D}{ds:List D}(h:a e=.ok d)(hg:getL e i=.ok ds)(hl:ds.length<16777216):eM i a e=.ok (.nx (putL e i (ds++[d]))):=by unfold eM;rw[h,aD,hg,aD,aO hl]
theorem iK{f:List D->Rs D}{a:E}{e:Mi.Env}{x:D}(h:a e=.ok x):mN f [a] e=f [x]:=by unfold mN;rw[fN,h];rfl
theorem vM{f:List D->Rs D}{a b:E}{e:Mi.Env}{x y:D}(h:a e=.ok x)(h':b e=.ok y):mN f [a,b] e=f [x,y]:=by unfold mN;rw[fN,h,aD,fN,h'];rfl
theorem Ft{a:E}{e:Mi.Env}{x:D}(h:a e=.ok x):mN dP [a] e=.ok (.lst [x]):=by rw[iK h];exact aO (by simp)
theorem dZ{a b:E}{e:Mi.Env}{x y:D}(h:a e=.ok x)(h':b e=.ok y):mN dTup [a,b] e=.ok (.tup [x,y]):=by rw[vM h h'];exact aO (by simp)
theorem l0{f:Fn}{a:EW}{e:Mi.Env}{x:W}{d:D}(h:a e=.ok x)(hf:f [x]=.ok (.d d)):be f [a] e=.ok d:=by unfold be iB;rw[cP,h];simp only[aD,cP,hf,uQ]
theorem call2{f:Fn}{a b:EW}{e:Mi.Env}{x y:W}{d:D}(h:a e=.ok x)(h':b e=.ok y)(hf:f [x,y]=.ok (.d d)):be f [a,b] e=.ok d:=by unfold be iB;rw[cP,h,aD,cP,h'];simp only[aD,cP,hf,uQ]
theorem qY{f:Fn}{a b c:EW}{e:Mi.Env}{x y z:W}{d:D}(h:a e=.ok x)(h':b e=.ok y)(h'':c e=.ok z)(hf:f [x,y,z]=.ok (.d d)):be f [a,b,c] e=.ok d:=by unfold be iB;rw[cP,h,aD,cP,h',aD,cP,h''];simp only[aD,cP,hf,uQ]
theorem gE{α:Type}{tg:Tg}{c:C}{a:E}{e:Mi.Env}(f g:α->D)(p:α->Bool):∀(xs:List α),(∀x∈xs,∃e1,tg.put (f x) e=.ok e1/\c e1=.ok (p x)/\(p x=true->a e1=.ok (g x)))->c9 tg c a e (xs.map f)=.ok ((xs.filter p).map g)
 |[],_=>rfl
 |x::r,h=>by
  obtain⟨e1,h1,h2,h3⟩:=h x ce;have ih:=gE (tg:=tg) (c:=c) (a:=a) (e:=e) f g p r λy hy=>h y (c6 _ hy);rw[bO,c9,h1,aD,h2,aD];cases hp:p x with
  |true=>rw[aH rfl,h3 hp,aD,ih,aD,List.filter_cons_of_pos hp];rfl
  |false=>rw[ay cy,ih,List.filter_cons_of_neg (by rw[hp];exact cy)]
theorem fY{tg:Tg}{body:S}(Inv:Nat->Mi.Env->Prop):∀(xs:List D) (k:Nat),(∀i x e,xs[i]? = ab x->Inv (k+i) e->∃e1 e2,tg.put x e=.ok e1/\body e1=.ok (.nx e2)/\Inv (k+i+1) e2)->∀e,Inv k e->∃e',ii tg body xs e=.ok (.nx e')/\Inv (k+xs.length) e'
 |[],k,_,e,h=>⟨e,rfl,h⟩
 |x::r,k,hs,e,h=>by
  obtain⟨e1,e2,h1,h2,h3⟩:=hs 0 x e rfl h;obtain⟨e',h4,h5⟩:=fY Inv r (k+1) (λi y e hy hi=>by
   have:=hs (i+1) y e (by simpa using hy) (by rw[show k+(i+1)=k+1+i by omega];exact hi);rw[show k+(i+1)+1=k+1+i+1 by omega]at this;exact this) e2 h3
  refine⟨e',?_,by rw[dW,show k+(r.length+1)=k+1+r.length by omega];exact h5⟩;rw[ii,h1,aD,h2,aD];exact h4
end Mi
namespace Mr
open PySem Mi
abbrev Ar:=Str×Str
def pairD(p:Ar):D:=.tup [.str p.1,.str p.2]
def av(ac:List Str):D:=.tup (ac.map D.str)
def aZ(ai:List Ar):D:=.tup (ai.map pairD)
def bf(ac:List Str)(ai:List Ar):D:=.tup [av ac,aZ ai]
def az(xs:List Str):D:=.lst (xs.map D.str)
theorem at0{α:Type}(a:α)(r:List α):dH (a::r) 0=ab a:=by simp[dH,gB]
theorem at1{α:Type}(a b:α)(r:List α):dH (a::b::r) 1=ab b:=by unfold dH gB;rw[aH (by decide),aH (by simp only[dW];omega)];rfl
theorem oT(ac:List Str)(ai:List Ar):aG (bf ac ai) (.int 0)=.ok (av ac):=by unfold bf aG;simp[at0]
theorem rQ(ac:List Str)(ai:List Ar):aG (bf ac ai) (.int 1)=.ok (aZ ai):=by unfold bf aG;simp[at1]
theorem P0{ac asked:List Str}(h:∀x∈asked,x∈ac):qc [.d (av ac),.d (az asked)]=.ok (.d .non):=by
 have key:∀(xs:List Str) (o:Option W),(∀x∈xs,x∈ac)->∃o',ii (.n 2) (bh (cB (m2 eQ (mV 2) (mV 0))) zi bp) (xs.map D.str) [ab (.d (av ac)),ab (.d (az asked)),o]=.ok (.nx [ab (.d (av ac)),ab (.d (az asked)),o']):=by
  intro xs
  induction xs with
  |nil=>exactλo _=>⟨o,rfl⟩
  |cons x r ih=>
   intro o hx;obtain⟨o',e⟩:=ih (ab (.d (.str x))) λy hy=>hx y (c6 _ hy);refine⟨o',?_⟩;rw[bO,ii];have:x∈ac:=hx x ce;simp only[av,KA,IK,IL,bh,cB,m2,mV,bp,aD,li,me,yQ,this,decide_true,Bool.not_true,sE,lj,eJ];exact e
 obtain⟨o',e⟩:=key asked ae h;unfold az at e;unfold qc Gu;rw[nz];simp only[du,bJ,mV,az,Nat.reduceSub,List.replicate_succ,List.replicate_zero,wS,wW,li,me,aD,Qi,e,MY]
def Ou(ai:List Ar)(x:Str):List Str:=(ai.filter λp=>decide (p.2=x)).map (·.1)
def ready(ai:List Ar)(told:List Str)(x:Str):Bool:=!decide (x∈told)&&(Ou ai x).all λy=>decide (y∈told)
def nxt(ac:List Str)(ai:List Ar)(told:List Str):Option Str:=ac.find? (ready ai told)
structure Lr(ac:List Str)(ai:List Ar):Prop where
 nd:ac.Nodup
 pos:1<=ac.length
 le:ac.length<=8
 al:ai.length<=64
 tl:∀p∈ai,p.1∈ac
 rk:∃r:Str->Int,∀p∈ai,r p.1<r p.2
def ord(ac:List Str)(ai:List Ar):Nat->List Str
 |0=>[]
 | k+1=>match nxt ac ai (ord ac ai k)with
  |some x=>ord ac ai k++[x]
  |none=>ord ac ai k
theorem lH{α:Type}[DecidableEq α]:∀{l m:List α},l.Nodup->(∀x∈l,x∈m)->l.length<=m.length
 |[],_,_,_=>eZ _
 |a::l,m,nd,h=>by
  have nd:=jO.mp nd;have:l.length<=(m.erase a).length:=lH nd.2 λx hx=>(IF (λz:x=a=>nd.1 (z ▸ hx))).mpr (h x (c6 _ hx));have hm:=h a ce;rw[Iz hm]at this;have:0<m.length:=ID hm;rw[dW];omega
end Mr
namespace Mr
open PySem Mi
theorem zI:∀xs ys:List Str,iA (xs.map D.str) (ys.map D.str)=decide (xs=ys)
 |[],[]=>rfl
 |[],_::_=>rfl
 |_::_,[]=>rfl
 |x::xs,y::ys=>by
  rw[bO,bO,iA,qB,zI xs ys];by_cases h1:x=y<;>by_cases h2:xs=ys<;>simp[h1,h2]
end Mr
namespace My
def wl:List Nat:=[101,116,97,111,105,110,115,104,114,100,108,117,99,109,102,119,121,112,118,98,103,107,113,106,120,122]
def f8(n:Int):Nat:=wl.getD (n%26).toNat 0
def fX(c:Int):List Nat:=(bw 8).map λ(k:Nat)=>f8 (c/(4+3*(k:Int)))
def gt(c:Int)(n:Nat):List Nat:=(bw n).map λ(k:Nat)=>f8 (c/32+5*(k:Int)+(k:Int)*(k:Int))
def words(c:Int)(many:Nat):List (List Nat):=
 if c%4<2 then
  if c%4=0 then(bw many).map λ(k:Nat)=>(fX c).take (k+1)
  else(bw many).map λ(k:Nat)=>(fX c).drop (7-k)
 else
  (bw many).map λ(k:Nat)=>(gt c (c/4%8).toNat).take (c/256%(c/4%8+1)).toNat++[f8 (c/7+5*(k:Int))]++(gt c (c/4%8).toNat).drop (c/256%(c/4%8+1)).toNat
def iR(x:List Nat):Prop:=1<=x.length/\x.length<=8/\∀c∈x,97<=c/\c<=122
theorem x6:∀c∈wl,97<=c/\c<=122:=by decide
theorem Qj:wl.Nodup:=by decide
theorem u5:wl.length=26:=by decide
theorem As(n:Int):f8 n∈wl:=by
 unfold f8;have h1:=jR n (b:=26) (by decide);have h2:=jQ n (b:=26) (by decide);have h3:(n%26).toNat<wl.length:=by rw[u5];omega
 rw[fh,fF h3];exact wT h3
theorem RH{n m:Int}(h:f8 n=f8 m):n%26=m%26:=by
 unfold f8 at h;have h1:=jR n (b:=26) (by decide);have h2:=jQ n (b:=26) (by decide);have h3:(n%26).toNat<wl.length:=by rw[u5];omega
 have h1':=jR m (b:=26) (by decide);have h2':=jQ m (b:=26) (by decide);have h3':(m%26).toNat<wl.length:=by rw[u5];omega
 rw[fh,fF h3,fh,fF h3']at h;have:=(rB Qj).mp h;omega
theorem kZ(c:Int):(fX c).length=8:=by simp[fX]
theorem qk(c:Int)(n:Nat):(gt c n).length=n:=by simp[gt]
theorem Ec(c:Int):∀x∈fX c,97<=x/\x<=122:=λx hx=>by
 obtain⟨k,_,rfl⟩:=bu.mp hx;exact x6 _ (As _)
theorem FJ(c:Int)(n:Nat):∀x∈gt c n,97<=x/\x<=122:=λx hx=>by
 obtain⟨k,_,rfl⟩:=bu.mp hx;exact x6 _ (As _)
theorem tK(c:Int)(many:Nat):(words c many).length=many:=by unfold words;split<;>(try split)<;>simp
theorem yR{α:Type}(f:Nat->α)(n:Nat)(h:∀i j,i<n->j<n->f i=f j->i=j):((bw n).map f).Nodup:=by
 induction n with
 |zero=>simp
 |succ n ih=>
  rw[List.range_succ,iU,List.map_singleton];rw[t9];refine⟨ih λi j hi hj=>h i j (by omega) (by omega),by simp,λa ha b hb=>?_⟩;obtain⟨i,hi,rfl⟩:=bu.mp ha;have hi:=en.mp hi;have hb:b=f n:=by simpa using hb
  subst hb;intro e;have:=h i n (by omega) (by omega) e;omega
theorem rS(c:Int)(many:Nat)(hm:many<=8):(words c many).Nodup:=by
 unfold words;split
 ·split
  ·refine yR _ _ λi j hi hj e=>?_;have:=congrArg Bh e;rw[ju,ju,kZ]at this;omega
  ·refine yR _ _ λi j hi hj e=>?_;have:=congrArg Bh e;rw[gc,gc,kZ]at this;omega
 ·refine yR _ _ λi j hi hj e=>?_;rw[t8,t8]at e;have e1:=List.append_cancel_left e;have e2:=List.append_cancel_right e1;have e3:f8 (c/7+5*(i:Int))=f8 (c/7+5*(j:Int)):=by simpa using e2
  have:=RH e3;omega
theorem jE(c:Int)(many:Nat)(hm:many<=8):∀x∈words c many,iR x:=by
 unfold words;split
 ·split
  ·intro x hx;obtain⟨k,hk,rfl⟩:=bu.mp hx;have hk:=en.mp hk;refine⟨by rw[ju,kZ];omega,by rw[ju,kZ];omega,λy hy=>Ec c y (IG hy)⟩
  ·intro x hx;obtain⟨k,hk,rfl⟩:=bu.mp hx;have hk:=en.mp hk;refine⟨by rw[gc,kZ];omega,by rw[gc,kZ];omega,λy hy=>Ec c y (A6 hy)⟩
 ·intro x hx;obtain⟨k,hk,rfl⟩:=bu.mp hx;have h1:=jR (c/4) (b:=8) (by decide);have h2:=jQ (c/4) (b:=8) (by decide);have h3:=jR (c/256) (b:=c/4%8+1) (by omega);have h4:=jQ (c/256) (b:=c/4%8+1) (by omega);have hl:((gt c (c/4%8).toNat).take (c/256%(c/4%8+1)).toNat++[f8 (c/7+5*(k:Int))]++(gt c (c/4%8).toNat).drop (c/256%(c/4%8+1)).toNat).length=(c/4%8).toNat+1:=by
   rw[dI,dI,ju,gc,qk];simp;omega
  refine⟨by rw[hl];omega,by rw[hl];omega,λy hy=>?_⟩;rcases fk.mp hy with hy|hy
  ·rcases fk.mp hy with hy|hy
   ·exact FJ c _ y (IG hy)
   ·have:y=f8 (c/7+5*(k:Int)):=by simpa using hy
    subst this;exact x6 _ (As _)
  ·exact FJ c _ y (A6 hy)
end My
namespace Mi
open PySem
def S'(l:List Nat):Str:=⟨l.toArray⟩
theorem vd(l:List Nat):(S' l).cps.toList=l:=rfl
theorem j7(l:List Nat):(S' l).length=l.length:=by simp[S',pP]
theorem Nx{x y:Str}(h:x.cps.toList=y.cps.toList):x=y:=by obtain⟨a⟩:=x;obtain⟨b⟩:=y;have h:a.toList=b.toList:=h;rw[xr.mp h]
theorem KJ{l m:List Nat}(h:S' l=S' m):l=m:=by have:=congrArg (λx:Str=>x.cps.toList) h;simpa [S']using this
theorem L0(l m:List Nat):S' l++S' m=S' (l++m):=by show(⟨l.toArray++m.toArray⟩ : Str)=⟨(l++m).toArray⟩;simp
theorem ER:∀l:List Str,(lm "" l).cps.toList=l.flatMap (·.cps.toList)
 |[]=>by simp[lm,eP]
 |[x]=>by simp[lm]
 |x::y::r=>by
  have ih:=ER (y::r);have e:lm "" (x::y::r)=x ++ "" ++ lm "" (y::r):=rfl;have e2:("" : Str).cps.toList=[]:=by decide +kernel
  rw[e];show((x.cps++("" : Str).cps)++(lm "" (y::r)).cps).toList=_;rw[xq,xq,e2,ih];simp
theorem join_ones(l:List Nat):lm "" (l.map λx=>S' [x])=S' l:=by
 refine Nx ?_;rw[ER,vd]
 induction l with
 |nil=>rfl
 |cons a r ih=>rw[bO,nP,ih];rfl
theorem MW{α:Type}(xs:List α)(k:Nat):j5 xs ae (ab (k:Int))=xs.take k:=by
 show(xs.drop 0).take ((if(k:Int)<0 then((k:Int)+(xs.length:Int)).toNat else min (k:Int).toNat xs.length)-0)=_;rw[ay (by omega),uc,Nat.sub_zero,fR];rcases Bv k xs.length with h|h
 ·rw[Bu h]
 ·rw[Bt h,pL (ba _),pL h]
theorem KS{α:Type}(xs:List α)(k:Nat):j5 xs (ab (k:Int)) ae=xs.drop k:=by
 show(xs.drop (if(k:Int)<0 then((k:Int)+(xs.length:Int)).toNat else min (k:Int).toNat xs.length)).take (xs.length-(if(k:Int)<0 then((k:Int)+(xs.length:Int)).toNat else min (k:Int).toNat xs.length))=_;rw[ay (by omega),fR];rcases Bv k xs.length with h|h
 ·rw[Bu h];exact pL (by rw[gc];exact ba _)
 ·rw[Bt h,wQ (ba _),wQ h];simp
theorem Ga(l:List Nat)(k:Nat):ng (S' l) ae (ab (k:Int))=S' (l.take k):=by unfold ng;rw[vd,MW];rfl
theorem E4(l:List Nat)(k:Nat):ng (S' l) (ab (k:Int)) ae=S' (l.drop k):=by unfold ng;rw[vd,KS];rfl
def cZ:Str := "etaoinshrdlucmfwypvbgkqjxz"
theorem Ng:cZ.cps.toList=My.wl:=by decide +kernel
theorem Lw:cZ.length<=16777216:=by decide +kernel
theorem xY{α:Type}{xs:List α}{i:Int}(h0:0<=i)(h1:i<xs.length)(d:α):dH xs i=ab (xs.getD i.toNat d):=by
 unfold dH gB;rw[aH h0,aH h1];have h3:i.toNat<xs.length:=by omega
 show xs[i.toNat]? = _;rw[fh,fF h3];rfl
theorem NH(n:Int):dH cZ.cps.toList (n%26)=ab (My.f8 n):=by rw[Ng];have h1:=jR n (b:=26) (by decide);have h2:=jQ n (b:=26) (by decide);exact xY h1 (by rw[My.u5];omega) 0
theorem wq{cs:List Int}{i:Int}(h0:0<=i)(h1:i<cs.length):aG (.lst (cs.map D.int)) (.int i)=.ok (.int (cs.getD i.toNat 0)):=by
 show cG (dH (cs.map D.int) i)=_;rw[xY h0 (by rw[aQ];exact h1) (.int 0),lG];have h3:i.toNat<cs.length:=by omega
 rw[fh,c7,fh,fF h3];rfl
theorem K5{cs:List Str}{i:Int}(h0:0<=i)(h1:i<cs.length):aG (.lst (cs.map D.str)) (.int i)=.ok (.str (cs.getD i.toNat eP)):=by
 show cG (dH (cs.map D.str) i)=_;rw[xY h0 (by rw[aQ];exact h1) (.str eP),lG];have h3:i.toNat<cs.length:=by omega
 rw[fh,c7,fh,fF h3];rfl
theorem yj(n:Nat):d8 0 (n:Int)=(bw n).map λ(k:Nat)=>D.int (k:Int):=by unfold d8;rw[show((n:Int)-0).toNat=n by omega];exact nO λk _=>by rw[Int.zero_add]
theorem l8(n:Nat):(d8 0 (n:Int)).length=n:=by rw[yj];simp
theorem x9{n i:Nat}{x:D}(h:(d8 0 (n:Int))[i]? = ab x):i<n/\x=.int (i:Int):=by
 rw[yj,c7]at h;cases hr:(bw n)[i]? with
 |none=>rw[hr]at h;cases h
 |some k=>
  rw[hr]at h;obtain⟨h1,h2⟩:=cu.mp hr;rw[IM]at h2;subst h2;rw[t6]at h1;exact⟨h1,(gi h).symm⟩
theorem qR{tg:Tg}{a:E}{e:Mi.Env}(g:Nat->D)(n:Nat)(h:∀k<n,∃e1,tg.put (.int (k:Int)) e=.ok e1/\a e1=.ok (g k)):c9 tg cO a e (d8 0 (n:Int))=.ok ((bw n).map g):=by
 rw[yj,gE (λ(k:Nat)=>D.int (k:Int)) g (λ_=>true) (bw n) λk hk=>?_]
 ·rw[mm.mpr λ_ _=>rfl]
 ·obtain⟨e1,h1,h2⟩:=h k (en.mp hk);exact⟨e1,h1,rfl,λ_=>h2⟩
theorem tQ{i:Int}(h0:-1000<=i)(h1:i<=1000):okR i:=by unfold okR;omega
theorem lb{i j:Int}(h0:-(2 ^ 64)<i)(h1:i<2 ^ 64):lE i j:=.inl ⟨h0,h1⟩
theorem z6{i j:Int}(h0:-(2 ^ 64)<j)(h1:j<2 ^ 64):lE i j:=.inr ⟨h0,h1⟩
theorem mH{j:Int}(h0:0<j)(h1:j<2 ^ 64):l7 j:=by
 refine⟨h0,?_⟩;have h2:j.natAbs<2 ^ 64:=by omega
 have h3:j.natAbs≠0:=by omega
 have:=(Nat.log2_lt h3).mpr h2;omega
end Mi
namespace Mr
open PySem Mi
open My (words fX gt f8 kZ qk tK rS)
theorem AI(n:Int):aG (.str cZ) (.int (n%26))=.ok (.str (S' [f8 n])):=by show a9 _ _=_;rw[aO Lw,NH];rfl
theorem G6(l:List Nat)(h:l.length<=8):vW (.str "") (.lst (l.map λx=>D.str (S' [x])))=.ok (.str (S' l)):=by
 show(cG (j9 (l.map λx=>D.str (S' [x])))).bind _=_;have e:l.map (λx=>D.str (S' [x]))=(l.map λx=>S' [x]).map D.str:=by rw[dj];rfl
 rw[e,Fa,lG,aD,aO ?_,join_ones];have h1:((l.map λx=>S' [x]).map (·.length)).sum=l.length:=by
  clear h e
  induction l with
  |nil=>rfl
  |cons a r ih=>rw[bO,bO,List.sum_cons,ih,j7,dW];simp;omega
 have h2:("" : Str).length=0:=by decide +kernel
 rw[h1,h2];omega
theorem st1(c:Int)(k:Nat)(d32:l7 32)(m5:lE 5 (k:Int))(mk:lE (k:Int) k):(m2 bq (m2 bq (m2 et (mV 1) (mC (.int 32))) (m2 c5 (mC (.int 5)) (mV 2))) (m2 c5 (mV 2) (mV 2))) [ab (.d (.str cZ)),ab (.d (.int c)),ab (.d (.int k))]=.ok (.int (c/32+5*(k:Int)+(k:Int)*(k:Int))):=(aA (aA (aA rfl rfl (aO d32)) (aA rfl rfl (aO m5)) rfl) (aA rfl rfl (aO mk)) rfl)
theorem st2(c:Int)(e:Mi.Env)(a:E)(h:a e=.ok (.int c))(h0:e[0]? = ab (ab (.d (.str cZ)))):m2 aG (mV 0) (m2 cD a (mC (.int 26))) e=.ok (.str (S' [f8 c])):=aA (x:=.str cZ) (by unfold mV;rw[h0]) (aA h rfl (aO (by decide))) (AI _)
theorem Pt{k n:Nat}(h:k<n)(h8:n<8):lE (k:Int) k:=lb (by omega) (by omega)
theorem size_of(c:Int):∃n:Nat,c/4%8=(n:Int)/\n<8:=by have z1:=jR (c/4) (b:=8) (by decide);have z2:=jQ (c/4) (b:=8) (by decide);exact⟨(c/4%8).toNat,by omega,by omega⟩
theorem at_of(c:Int)(n:Nat):∃t:Nat,c/256%((n:Int)+1)=(t:Int)/\t<=n:=by have z3:=jR (c/256) (b:=(n:Int)+1) (by omega);have z4:=jQ (c/256) (b:=(n:Int)+1) (by omega);exact⟨(c/256%((n:Int)+1)).toNat,by omega,by omega⟩
theorem Mg(c:Int)(m:Nat)(hm:m<=8):sF [.d (.int c),.d (.int (m:Int))]=.ok (.d (az ((words c m).map S'))):=by
 unfold sF FN;rw[pZ];have hr8:okR 8:=tQ (by decide) (by decide);have hrm:okR (m:Int):=tQ (by omega) (by omega);have hl0:(PySem.Str.ofString "etaoinshrdlucmfwypvbgkqjxz")=cZ:=rfl;have g4:∀r:Rs D,a9 ((0:Int)<4) r=r:=λr=>aO (by decide);have g26:∀r:Rs D,a9 ((0:Int)<26) r=r:=λr=>aO (by decide);have g8:∀r:Rs D,a9 ((0:Int)<8) r=r:=λr=>aO (by decide);by_cases c1:c%4<2
 ·have xD:c9 (.n 2) cO (m2 aG (mV 0) (m2 cD (m2 et (mV 1) (m2 bq (mC (.int 4)) (m2 c5 (mC (.int 3)) (mV 2)))) (mC (.int 26)))) [ab (.d (.str cZ)),ab (.d (.int c)),ae] (d8 0 8)=.ok ((fX c).map λx=>D.str (S' [x])):=by
   have:=qR (tg:=.n 2) (a:=m2 aG (mV 0) (m2 cD (m2 et (mV 1) (m2 bq (mC (.int 4)) (m2 c5 (mC (.int 3)) (mV 2)))) (mC (.int 26)))) (e:=[ab (.d (.str cZ)),ab (.d (.int c)),ae]) (λk=>D.str (S' [f8 (c/(4+3*(k:Int)))])) 8 λk hk=>⟨[ab (.d (.str cZ)),ab (.d (.int c)),ab (.d (.int k))],rfl,by
    simp only[m2,mV,me,li,mC,aD,GU];rw[aO (lb (by decide) (by decide))];simp only[aD,sD,div_ii];rw[aO (mH (by omega) (by omega))];simp only[aD,DK,g26,AI]⟩
   rw[show((8:Nat):Int)=8 from rfl]at this;rw[this];unfold fX;rw[dj];rfl
  have hp:kL [ab 2,ab 0,ae] [ab (.d (.int c)),ab (.d (.int (m:Int))),ab (.d (.str cZ)),ae,ae,ae,ae]=[ab (.d (.str cZ)),ab (.d (.int c)),ae]:=rfl;have hj:=G6 (fX c) (by rw[kZ];omega);have hw8:(d8 0 8).length<=16777216:=by rw[show(8:Int)=((8:Nat):Int)from rfl,l8];omega
  have hwm:(d8 0 (m:Int)).length<=16777216:=by rw[l8];omega
  by_cases c2:c%4=0
  ·have hc:c9 (.n 1) cO (d5 kU (mV 0) ae (ab (m2 bq (mV 1) (mC (.int 1))))) [ab (.d (.str (S' (fX c)))),ae] (d8 0 (m:Int))=.ok ((words c m).map λl=>D.str (S' l)):=by
    rw[qR (λk=>D.str (S' ((fX c).take (k+1)))) m λk hk=>⟨[ab (.d (.str (S' (fX c)))),ab (.d (.int k))],rfl,by
     simp only[d5,mV,me,i4,m2,li,mC,aD,sD,tL,zD];rw[aO (by rw[j7,kZ];omega),show(k:Int)+1=((k+1:Nat):Int)by omega,Ga]⟩]
    unfold words;rw[aH c1,aH c2,dj];rfl
   have hp2:∀z,kL [ab 3,ae] [ab (.d (.int c)),ab (.d (.int (m:Int))),ab (.d (.str cZ)),ab z,ae,ae,ae]=[ab z,ae]:=λ_=>rfl;have hmod:cB (m2 gq (m2 cD (mV 0) (mC (.int 4))) (mC (.int 2))) [ab (.d (.int c)),ab (.d (.int (m:Int))),ab (.d (.str cZ)),ae,ae,ae,ae]=.ok true:=bI ((aA (aA rfl rfl (g4 _)) rfl rfl).trans (by rw[zu,cM c1]))
   have Cg:cB (m2 fU (m2 cD (mV 0) (mC (.int 4))) (mC (.int 0))) [ab (.d (.int c)),ab (.d (.int (m:Int))),ab (.d (.str cZ)),ab (.d (.str (S' (fX c)))),ae,ae,ae]=.ok true:=bI ((aA (aA rfl rfl (g4 _)) rfl rfl).trans (by rw[xL,cM c2]))
   show Rs.bind _ jZ=_;rw[aK (e':=[ab (.d (.int c)),ab (.d (.int (m:Int))),ab (.d (.str cZ)),ae,ae,ae,ae]) (bN rfl)];refine(congrArg (λr=>Rs.bind r jZ) (sg (w:=.d (az ((words c m).map S'))) ?_)).trans rfl;rw[gs hmod,aK (e':=[ab (.d (.int c)),ab (.d (.int (m:Int))),ab (.d (.str cZ)),ab (.d (.str (S' (fX c)))),ae,ae,ae]) (bN (aA rfl (e9 (j2 rfl hr8) hw8 xD) hj))];rw[sg ((gs Cg).trans (eU (bU (e9 (j2 rfl hrm) hwm hc))))];rw[az,dj];rfl
  ·have hc:c9 (.n 1) cO (d5 kU (mV 0) (ab (m2 lL (mC (.int 7)) (mV 1))) ae) [ab (.d (.str (S' (fX c)))),ae] (d8 0 (m:Int))=.ok ((words c m).map λl=>D.str (S' l)):=by
    rw[qR (λk=>D.str (S' ((fX c).drop (7-k)))) m λk hk=>⟨[ab (.d (.str (S' (fX c)))),ab (.d (.int k))],rfl,by
     simp only[d5,mV,me,i4,m2,mC,li,aD,OB,tL,zD];rw[aO (by rw[j7,kZ];omega),show(7:Int)-(k:Int)=((7-k:Nat):Int)by omega,E4]⟩]
    unfold words;rw[aH c1,ay c2,dj];rfl
   have hp2:∀z,kL [ab 3,ae] [ab (.d (.int c)),ab (.d (.int (m:Int))),ab (.d (.str cZ)),ab z,ae,ae,ae]=[ab z,ae]:=λ_=>rfl;have hmod:cB (m2 gq (m2 cD (mV 0) (mC (.int 4))) (mC (.int 2))) [ab (.d (.int c)),ab (.d (.int (m:Int))),ab (.d (.str cZ)),ae,ae,ae,ae]=.ok true:=bI ((aA (aA rfl rfl (g4 _)) rfl rfl).trans (by rw[zu,cM c1]))
   have Cg:cB (m2 fU (m2 cD (mV 0) (mC (.int 4))) (mC (.int 0))) [ab (.d (.int c)),ab (.d (.int (m:Int))),ab (.d (.str cZ)),ab (.d (.str (S' (fX c)))),ae,ae,ae]=.ok false:=bI ((aA (aA rfl rfl (g4 _)) rfl rfl).trans (by rw[xL,dC c2]))
   show Rs.bind _ jZ=_;rw[aK (e':=[ab (.d (.int c)),ab (.d (.int (m:Int))),ab (.d (.str cZ)),ae,ae,ae,ae]) (bN rfl)];refine(congrArg (λr=>Rs.bind r jZ) (sg (w:=.d (az ((words c m).map S'))) ?_)).trans rfl;rw[gs hmod,aK (e':=[ab (.d (.int c)),ab (.d (.int (m:Int))),ab (.d (.str cZ)),ab (.d (.str (S' (fX c)))),ae,ae,ae]) (bN (aA rfl (e9 (j2 rfl hr8) hw8 xD) hj))];rw[aK (dD Cg),eU (bU (e9 (j2 rfl hrm) hwm hc))];rw[az,dj];rfl
 ·obtain⟨n,hn,hn8⟩:=size_of c;obtain⟨t,ht,ht8⟩:=at_of c n;have hrn:okR (n:Int):=tQ (by omega) (by omega);have d4:l7 4:=mH (by decide) (by decide);have d32:l7 32:=mH (by decide) (by decide);have R8:l7 256:=mH (by decide) (by decide);have d7:l7 7:=mH (by decide) (by decide);have R9:c9 (.n 2) cO (m2 aG (mV 0) (m2 cD (m2 bq (m2 bq (m2 et (mV 1) (mC (.int 32))) (m2 c5 (mC (.int 5)) (mV 2))) (m2 c5 (mV 2) (mV 2))) (mC (.int 26)))) [ab (.d (.str cZ)),ab (.d (.int c)),ae] (d8 0 (n:Int))=.ok ((gt c n).map λx=>D.str (S' [x])):=by
   rw[qR (λk=>D.str (S' [f8 (c/32+5*(k:Int)+(k:Int)*(k:Int))])) n λk hk=>⟨[ab (.d (.str cZ)),ab (.d (.int c)),ab (.d (.int k))],rfl,by
    exact st2 _ _ _ (st1 c k d32 (lb (by decide) (by decide)) (Pt hk hn8)) rfl⟩]
   unfold gt;rw[dj];rfl
  have hp:kL [ab 2,ab 0,ae] [ab (.d (.int c)),ab (.d (.int (m:Int))),ab (.d (.str cZ)),ae,ab (.d (.int (n:Int))),ae,ae]=[ab (.d (.str cZ)),ab (.d (.int c)),ae]:=rfl;have hj:=G6 (gt c n) (by rw[qk];omega);have hwn:(d8 0 (n:Int)).length<=16777216:=by rw[l8];omega
  have hwm:(d8 0 (m:Int)).length<=16777216:=by rw[l8];omega
  have hc:c9 (.n 4) cO (m2 bq (m2 bq (d5 kU (mV 0) ae (ab (mV 2))) (m2 aG (mV 1) (m2 cD (m2 bq (m2 et (mV 3) (mC (.int 7))) (m2 c5 (mC (.int 5)) (mV 4))) (mC (.int 26))))) (d5 kU (mV 0) (ab (mV 2)) ae))
   [ab (.d (.str (S' (gt c n)))),ab (.d (.str cZ)),ab (.d (.int (t:Int))),ab (.d (.int c)),ae] (d8 0 (m:Int))=.ok ((words c m).map λl=>D.str (S' l)):=by
   rw[qR (λk=>D.str (S' ((gt c n).take t++[f8 (c/7+5*(k:Int))]++(gt c n).drop t))) m λk hk=>⟨[ab (.d (.str (S' (gt c n)))),ab (.d (.str cZ)),ab (.d (.int (t:Int))),ab (.d (.int c)),ab (.d (.int k))],rfl,by
    have gS:∀r:Rs D,a9 ((S' (gt c n)).length<=16777216) r=r:=λr=>aO (by rw[j7,qk];omega);have gM:∀r:Rs D,a9 (lE 5 (k:Int)) r=r:=λr=>aO (lb (by decide) (by decide));simp only[m2,d5,mV,me,i4,li,aD,tL,zD,Ga,gS,mC,div_ii,aO d7,GU,gM,sD,DK,g26,AI,Gz,E4];rw[aO (by rw[j7,j7,ju,qk];simp;omega)];simp only[L0,aD,Gz];rw[aO (by rw[j7,j7,dI,ju,gc,qk];simp;omega)]⟩]
   unfold words;rw[ay c1,dj,hn,ht];rfl
  have hmod:cB (m2 gq (m2 cD (mV 0) (mC (.int 4))) (mC (.int 2))) [ab (.d (.int c)),ab (.d (.int (m:Int))),ab (.d (.str cZ)),ae,ae,ae,ae]=.ok false:=bI ((aA (aA rfl rfl (g4 _)) rfl rfl).trans (by rw[zu,dC c1]))
  show Rs.bind _ jZ=_;rw[aK (e':=[ab (.d (.int c)),ab (.d (.int (m:Int))),ab (.d (.str cZ)),ae,ae,ae,ae]) (bN rfl)];rw[aK (dD hmod)];rw[aK (e':=[ab (.d (.int c)),ab (.d (.int (m:Int))),ab (.d (.str cZ)),ae,ab (.d (.int (n:Int))),ae,ae]) (bN (d:=.int (n:Int)) ((aA (aA rfl rfl (aO d4)) rfl (g8 _)).trans (by rw[hn])))];rw[aK (e':=[ab (.d (.int c)),ab (.d (.int (m:Int))),ab (.d (.str cZ)),ae,ab (.d (.int (n:Int))),ab (.d (.str (S' (gt c n)))),ae]) (bN (aA rfl (e9 (j2 rfl hrn) hwn R9) hj))];rw[aK (e':=[ab (.d (.int c)),ab (.d (.int (m:Int))),ab (.d (.str cZ)),ae,ab (.d (.int (n:Int))),ab (.d (.str (S' (gt c n)))),ab (.d (.int (t:Int)))]) (bN (d:=.int (t:Int)) ((aA (aA rfl rfl (aO R8)) (aA rfl rfl rfl) (aO (by omega))).trans (by rw[ht])))];rw[eU (bU (e9 (j2 rfl hrm) hwm hc))];simp only[aD,Ox,az,dj];rfl
end Mr
namespace Mr
open PySem Mi
open My (words tK rS iR)
theorem wm(n:Nat)(h:n<=8):okR (n:Int):=tQ (by omega) (by omega)
theorem OP{ls:List Int}{z:Int}(h0:0<=z)(h1:z<ls.length)(hl:ls.length<=100):vU (ls.map D.int) z=.ok (.int (ls.getD z.toNat 0),(ls.eraseIdx z.toNat).map D.int):=by
 have h3:z.toNat<ls.length:=by omega
 unfold vU;rw[aO (by omega),show gB (ls.map D.int).length z=ab z.toNat by
  unfold gB;rw[aH h0,aH (by rw[aQ];exact h1)],lG,aD,c7,fF h3,fh,fF h3]
 show Rs.ok (D.int ls[z.toNat],(ls.map D.int).eraseIdx z.toNat)=_;have:∀(l:List Int) (k:Nat),(l.map D.int).eraseIdx k=(l.eraseIdx k).map D.int:=by
  intro l
  induction l with
  |nil=>intro k;rfl
  |cons a r ih=>
   intro k;cases k with
   |zero=>rfl
   |succ k=>rw[bO,IB,ih k];rfl
 rw[this];rfl
theorem lF(e:Mi.Env):mN dP [] e=.ok (.lst []):=by show a9 (([]:List D).length<=16777216) (Rs.ok (D.lst []))=_;exact aO (by simp)
end Mr
namespace Mr
open PySem Mi
end Mr
namespace Mr
open PySem Mi
abbrev Ix:=Nat×Nat
def cW(p q:Ix):Prop:=p.1<q.1\/(p.1=q.1/\p.2<q.2)
def nth(ac:List Str)(i:Nat):Str:=ac.getD i eP
def arrOf(ac:List Str)(p:Ix):Ar:=(nth ac p.1,nth ac p.2)
structure ji(ac:List Str)(A:List Ix)(r:Nat->Int):Prop where
 nd:ac.Nodup
 pos:1<=ac.length
 le:ac.length<=8
 dJ:A.Pairwise cW
 all:∀p∈A,p.1<ac.length/\p.2<ac.length/\r p.1<r p.2
 al:A.length<=64
theorem qp{ac:List Str}{i:Nat}(h:i<ac.length):nth ac i∈ac:=by unfold nth;rw[fh,fF h];exact wT h
theorem oa{ac:List Str}(nd:ac.Nodup){i j:Nat}(hi:i<ac.length)(hj:j<ac.length)(h:nth ac i=nth ac j):i=j:=by unfold nth at h;rw[fh,fF hi,fh,fF hj]at h;exact(rB nd).mp h
theorem DY{ac:List Str}{x:Str}(h:x∈ac):∃i,i<ac.length/\nth ac i=x:=by obtain⟨i,hi,e⟩:=A8 h;refine⟨i,hi,?_⟩;unfold nth;rw[fh,fF hi];exact e
theorem ji.eD{ac:List Str}{A:List Ix}{r:Nat->Int}(N:ji ac A r):Lr ac (A.map (arrOf ac)):=by
 refine⟨N.nd,N.pos,N.le,by rw[aQ];exact N.al,λp hp=>?_,λx=>r (ac.idxOf x),λp hp=>?_⟩
 ·obtain⟨q,hq,rfl⟩:=bu.mp hp;exact qp (N.all q hq).1
 ·obtain⟨q,hq,rfl⟩:=bu.mp hp;obtain⟨h1,h2,h3⟩:=N.all q hq;have key:∀i,i<ac.length->ac.idxOf (nth ac i)=i:=λi hi=>by
   have hm:=qp hi;have hl:ac.idxOf (nth ac i)<ac.length:=Iy hm;refine oa N.nd hl hi ?_;have h4:ac[ac.idxOf (nth ac i)]=nth ac i:=A9 hl;show ac.getD (ac.idxOf (nth ac i)) eP=_;rw[fh,fF hl];exact h4
  show r (ac.idxOf (nth ac q.1))<r (ac.idxOf (nth ac q.2));rw[key _ h1,key _ h2];exact h3
def good(m:Nat)(r:Nat->Int)(A:List Ix)(j k:Nat):Prop:=A.Pairwise cW/\(∀p∈A,p.1<m/\p.2<m/\r p.1<r p.2/\(p.1<j\/(p.1=j/\p.2<k)))/\A.length<=8*j+k
theorem good.skip{m:Nat}{r:Nat->Int}{A:List Ix}{j k:Nat}(h:good m r A j k):good m r A j (k+1):=⟨h.1,λp hp=>⟨(h.2.1 p hp).1,(h.2.1 p hp).2.1,(h.2.1 p hp).2.2.1,by have:=(h.2.1 p hp).2.2.2;omega⟩,by have:=h.2.2;omega⟩
theorem good.add{m:Nat}{r:Nat->Int}{A:List Ix}{j k:Nat}(h:good m r A j k)(hj:j<m)(hk:k<m)(hr:r j<r k):good m r (A++[(j,k)]) j (k+1):=by
 refine⟨List.pairwise_append.mpr ⟨h.1,IC _ _,λp hp q hq=>?_⟩,λp hp=>?_,by rw[dI];have:=h.2.2;simp;omega⟩
 ·have:q=(j,k):=by simpa using hq
  subst this;have:=(h.2.1 p hp).2.2.2;exact this
 ·rcases fk.mp hp with hp|hp
  ·exact(h.skip.2.1 p hp)
  ·have:p=(j,k):=by simpa using hp
   subst this;exact⟨hj,hk,hr,.inr ⟨rfl,by omega⟩⟩
theorem good.next{m:Nat}{r:Nat->Int}{A:List Ix}{j k:Nat}(h:good m r A j k)(hk:k<=8):good m r A (j+1) 0:=⟨h.1,λp hp=>⟨(h.2.1 p hp).1,(h.2.1 p hp).2.1,(h.2.1 p hp).2.2.1,by have:=(h.2.1 p hp).2.2.2;omega⟩,by have:=h.2.2;omega⟩
def hV(ac:List Str)(A:List Ix):D:=.lst ((A.map (arrOf ac)).map pairD)
theorem OH{a:Int}(h0:0<=a)(h1:a<8):-(2 ^ 64)<a/\a<2 ^ 64/\0<=a*(a-1)/2/\a*(a-1)/2<=21:=by
 have:a=0\/a=1\/a=2\/a=3\/a=4\/a=5\/a=6\/a=7:=by omega
 rcases this with h|h|h|h|h|h|h|h<;>subst h<;>decide
end Mr
namespace Mr
open PySem Mi
open My (words tK rS)
theorem sJ(ns:List Int)(k:Nat)(hk:k<=100):∃c:Int,jf [.d (.lst (ns.map D.int)),.d (.int (k:Int))]=.ok (.d (.int c)):=by
 unfold jf FF;rw[nz];have hl:mN cH [mV 0] [ab (.d (.lst (ns.map D.int))),ab (.d (.int (k:Int))),ae]=.ok (.int (ns.length:Int)):=by show Rs.ok (D.int ((ns.map D.int).length:Int))=_;rw[aQ]
 have c1:cB (m2 gq (mV 1) (mN cH [(mV 0)])) [ab (.d (.lst (ns.map D.int))),ab (.d (.int (k:Int))),ae]=.ok (decide ((k:Int)<(ns.length:Int))):=bI (aA rfl hl rfl);by_cases h:(k:Int)<(ns.length:Int)
 ·rw[cM h]at c1;exact⟨_,by
   rw[show([ab (W.d (.lst (ns.map D.int))),ab (.d (.int (k:Int)))]++cx (3-2) ae)=[ab (.d (.lst (ns.map D.int))),ab (.d (.int (k:Int))),ae]from rfl];rw[sg ((gs c1).trans (eU (bU (aA rfl rfl (wq (by omega) h)))))];rfl⟩
 ·rw[dC h]at c1;have s1:a6 2 (m2 bq (mC (.int 30011)) (m2 c5 (m2 c5 (mC (.int 709)) (mV 1)) (mV 1))) [ab (.d (.lst (ns.map D.int))),ab (.d (.int (k:Int))),ae]=.ok (.nx [ab (.d (.lst (ns.map D.int))),ab (.d (.int (k:Int))),ab (.d (.int (30011+709*(k:Int)*(k:Int))))]):=
   bN (aA rfl (aA (aA rfl rfl (aO (lb (by decide) (by decide)))) rfl (aO (z6 (by omega) (by omega)))) rfl)
  have hl2:mN cH [mV 0] [ab (.d (.lst (ns.map D.int))),ab (.d (.int (k:Int))),ab (.d (.int (30011+709*(k:Int)*(k:Int))))]=.ok (.int (ns.length:Int)):=by show Rs.ok (D.int ((ns.map D.int).length:Int))=_;rw[aQ]
  have c2:cB (m2 mX (mN cH [(mV 0)]) (mC (.int 0))) [ab (.d (.lst (ns.map D.int))),ab (.d (.int (k:Int))),ab (.d (.int (30011+709*(k:Int)*(k:Int))))]=.ok (decide ((0:Int)<(ns.length:Int))):=bI (aA hl2 rfl rfl);by_cases h0:(0:Int)<(ns.length:Int)
  ·rw[cM h0]at c2;refine⟨_,by
    rw[show([ab (W.d (.lst (ns.map D.int))),ab (.d (.int (k:Int)))]++cx (3-2) ae)=[ab (.d (.lst (ns.map D.int))),ab (.d (.int (k:Int))),ae]from rfl];rw[aK ((dD c1).trans rfl),aK s1,aK ((gs c2).trans (bN (aA rfl (aA (aA (aA rfl rfl (wq (by decide) h0)) rfl (aO (by decide))) (aA (aA (aA rfl rfl (aO (lb (by omega) (by omega)))) (aA rfl rfl (aO (lb (by decide) (by decide)))) rfl) rfl rfl) (aO (lb ?_ ?_))) rfl)))];rfl⟩
   ·have:=jR (ns.getD (0:Int).toNat 0) (b:=99991) (by decide);omega
   ·have:=jQ (ns.getD (0:Int).toNat 0) (b:=99991) (by decide);omega
  ·rw[dC h0]at c2;exact⟨_,by
    rw[show([ab (W.d (.lst (ns.map D.int))),ab (.d (.int (k:Int)))]++cx (3-2) ae)=[ab (.d (.lst (ns.map D.int))),ab (.d (.int (k:Int))),ae]from rfl];rw[aK ((dD c1).trans rfl),aK s1,aK ((dD c2).trans rfl)];rfl⟩
theorem Qr(d:Int)(m:Nat)(hm:m<=8):∃rs:List Int,sT [.d (.int d),.d (.int (m:Int))]=.ok (.d (.lst (rs.map D.int)))/\rs.length=m:=by
 unfold sT F4;rw[pZ];have hw:(d8 0 (m:Int)).length<=16777216:=by rw[l8];omega
 have hc:c9 (.n 0) cO (mV 0) [ae] (d8 0 (m:Int))=.ok ((bw m).map λ(k:Nat)=>D.int (k:Int)):=qR (λk=>D.int (k:Int)) m λk _=>⟨[ab (.d (.int k))],rfl,rfl⟩
 have hr:((bw m).map λ(k:Nat)=>D.int (k:Int))=((bw m).map λ(k:Nat)=>(k:Int)).map D.int:=by rw[dj];rfl
 rw[hr]at hc;obtain⟨e',h1,h2⟩:=fY (tg:=.n 5) (body:=aF (a6 4 (m2 cD (m2 bq (m2 bq (m2 c5 (mV 4) (mC (.int 48271))) (m2 c5 (mC (.int 7)) (mV 5))) (mC (.int 1))) (mC (.int 2147483647)))) (vG 3 2 (m2 cD (m2 et (mV 4) (mC (.int 32))) (mN cH [(mV 2)]))))
  (λi e=>∃(x:Int) (ls rs:List Int) (o:Option W),e=[ab (.d (.int d)),ab (.d (.int (m:Int))),ab (.d (.lst (ls.map D.int))),ab (.d (.lst (rs.map D.int))),ab (.d (.int x)),o]/\ls.length+i=m/\rs.length=i) (d8 0 (m:Int)) 0 (λi x e hx ⟨x0,ls,rs,o,he,hl,hrs⟩=>by
   obtain⟨hi,rfl⟩:=x9 hx;subst he;rw[dX]at hl hrs;have hpos:(0:Int)<(ls.length:Int):=by omega
   obtain⟨y,hy⟩ : ∃y,y=(x0*48271+7*(i:Int)+1)%2147483647:=⟨_,rfl⟩;have z1:=jR (y/32) (b:=(ls.length:Int)) (by omega);have z2:=jQ (y/32) hpos;refine⟨[ab (.d (.int d)),ab (.d (.int (m:Int))),ab (.d (.lst (ls.map D.int))),ab (.d (.lst (rs.map D.int))),ab (.d (.int x0)),ab (.d (.int (i:Int)))],[ab (.d (.int d)),ab (.d (.int (m:Int))),ab (.d (.lst ((ls.eraseIdx (y/32%(ls.length:Int)).toNat).map D.int))),ab (.d (.lst ((rs++[ls.getD (y/32%(ls.length:Int)).toNat 0]).map D.int))),ab (.d (.int y)),ab (.d (.int (i:Int)))],rfl,?_,y,ls.eraseIdx (y/32%(ls.length:Int)).toNat,rs++[ls.getD (y/32%(ls.length:Int)).toNat 0],ab (.d (.int (i:Int))),rfl,?_,?_⟩
   ·have h0:m2 cD (m2 et (mV 4) (mC (.int 32))) (mN cH [(mV 2)]) [ab (.d (.int d)),ab (.d (.int (m:Int))),ab (.d (.lst (ls.map D.int))),ab (.d (.lst (rs.map D.int))),ab (.d (.int y)),ab (.d (.int (i:Int)))]=.ok (.int (y/32%(ls.length:Int))):=
     aA (x:=.int (y/32)) (y:=.int (ls.length:Int)) (aA rfl rfl (aO (mH (by decide) (by decide)))) (by show Rs.ok (D.int ((ls.map D.int).length:Int))=_;rw[aQ]) (aO hpos)
    rw[aK (e':=[ab (.d (.int d)),ab (.d (.int (m:Int))),ab (.d (.lst (ls.map D.int))),ab (.d (.lst (rs.map D.int))),ab (.d (.int y)),ab (.d (.int (i:Int)))])]
    ·unfold vG;rw[h0];simp only[aD,tL,getL,li,me,OP z1 z2 (by omega),putL,IK,IL];rw[aO (by rw[aQ];omega),iU];rfl
    ·rw[hy];exact bN (aA (aA (aA (aA rfl rfl (aO (z6 (by decide) (by decide)))) (aA rfl rfl (aO (lb (by decide) (by decide)))) rfl) rfl rfl) rfl (aO (by decide)))
   ·rw[List.length_eraseIdx_of_lt (by omega)];omega
   ·rw[dI,hrs];simp) [ab (.d (.int d)),ab (.d (.int (m:Int))),ab (.d (.lst (((bw m).map λ(k:Nat)=>(k:Int)).map D.int))),ab (.d (.lst [])),ab (.d (.int (d%2147483647))),ae] ⟨_,_,[],ae,rfl,by simp,rfl⟩
 obtain⟨d2,ls,rs,o,he,hl,hrs⟩:=h2;subst he;rw[l8,dX]at hl hrs;refine⟨rs,?_,hrs⟩;rw[aK (e':=[ab (.d (.int d)),ab (.d (.int (m:Int))),ab (.d (.lst (((bw m).map λ(k:Nat)=>(k:Int)).map D.int))),ae,ae,ae]) (bN (e9 (j2 rfl (wm m hm)) hw hc))];rw[aK (e':=[ab (.d (.int d)),ab (.d (.int (m:Int))),ab (.d (.lst (((bw m).map λ(k:Nat)=>(k:Int)).map D.int))),ab (.d (.lst [])),ae,ae]) (bN (lF _))];rw[aK (e':=[ab (.d (.int d)),ab (.d (.int (m:Int))),ab (.d (.lst (((bw m).map λ(k:Nat)=>(k:Int)).map D.int))),ab (.d (.lst [])),ab (.d (.int (d%2147483647))),ae]) (bN (aA rfl rfl (aO (by decide))))];rw[aK ((eV (j2 rfl (wm m hm))).trans h1)];rfl
end Mr
namespace Mr
open PySem Mi
open My (words tK rS)
theorem MQ(ns:List Int){e:Mi.Env}{j k:Nat}(hj:j<8)(hk:k<8)(e0:mV 0 e=.ok (.lst (ns.map D.int)))(e7:mV 7 e=.ok (.int (j:Int)))(e8:mV 8 e=.ok (.int (k:Int))):∃c:Int,(be jf [(wD (mV 0)),(wD (m2 bq (m2 bq (mC (.int 4)) (m2 et (m2 c5 (mN jp [(mV 7),(mV 8)]) (m2 lL (mN jp [(mV 7),(mV 8)]) (mC (.int 1)))) (mC (.int 2)))) (mN mJ [(mV 7),(mV 8)])))]) e=.ok (.int c):=by have hx:mN jp [(mV 7),(mV 8)] e=.ok (.int (max (j:Int) (k:Int))):=(vM e7 e8).trans (PR _ _);have hn:mN mJ [(mV 7),(mV 8)] e=.ok (.int (min (j:Int) (k:Int))):=(vM e7 e8).trans (OO _ _);obtain⟨t1,t2,t3,t4⟩:=OH (a:=max (j:Int) (k:Int)) (by omega) (by omega);obtain⟨z,hz⟩ : ∃z:Nat,4+max (j:Int) (k:Int)*(max (j:Int) (k:Int)-1)/2+min (j:Int) (k:Int)=(z:Int):=⟨(4+max (j:Int) (k:Int)*(max (j:Int) (k:Int)-1)/2+min (j:Int) (k:Int)).toNat,by omega⟩;obtain⟨c,hc⟩:=sJ ns z (by omega);refine⟨c,call2 (bU e0) (bU (aA (aA rfl (aA (aA hx (aA hx rfl rfl) (aO (lb t1 t2))) rfl (aO (mH (by decide) (by decide)))) rfl) hn rfl)) ?_⟩;rw[hz];exact hc
theorem MM(ns:List Int)(hi:Nat)(h0:1<=hi)(h2:hi<=8) :
 ∃ac A r,sN [.d (.lst (ns.map D.int)),.d (.int (hi:Int))]=.ok (.d (bf ac (A.map (arrOf ac))))/\ji ac A r/\∃(c:Int) (m:Nat),m<=8/\ac=(words c m).map S':=by
 obtain⟨c0,hc0⟩:=sJ ns 0 (by decide);obtain⟨c1,hc1⟩:=sJ ns 1 (by decide);obtain⟨c2,hc2⟩:=sJ ns 2 (by decide);obtain⟨c3,hc3⟩:=sJ ns 3 (by decide);have hw:(0:Int)<(hi:Int):=by omega
 have q1:=jR c0 (b:=(hi:Int)) (by omega);have q2:=jQ c0 hw;obtain⟨m,hm⟩ : ∃m:Nat,1+c0%(hi:Int)=(m:Int):=⟨(1+c0%(hi:Int)).toNat,by omega⟩;have hm1:1<=m:=by omega
 have hm2:m<=hi:=by omega
 have hm8:m<=8:=by omega
 obtain⟨ac,hnm⟩ : ∃ac,ac=(words c1 m).map S':=⟨_,rfl⟩;have hn:=Mg c1 m hm8;rw[<- hnm]at hn;have hnl:ac.length=m:=by rw[hnm,aQ];exact tK c1 m
 have hnd:ac.Nodup:=by rw[hnm];exact List.Pairwise.map _ (λa b h z=>h (KJ z)) (rS _ _ hm8)
 obtain⟨rs,hr,hrl⟩:=Qr c2 m hm8;have q3:=jR c3 (b:=6) (by decide);have q4:=jQ c3 (b:=6) (by decide);obtain⟨th,hth⟩ : ∃th,aG (.lst ([4,1,2,3,2,3].map D.int)) (.int (c3%6))=.ok (.int th):=⟨_,wq q3 (by simp;omega)⟩;have hrx:∀i:Nat,i<m->aG (.lst (rs.map D.int)) (.int (i:Int))=.ok (.int (rs.getD i 0)):=λi hi=>by
  have:=wq (cs:=rs) (i:=(i:Int)) (by omega) (by omega)
  rwa [fR]at this
 have hnx:∀i:Nat,i<m->aG (az ac) (.int (i:Int))=.ok (.str (nth ac i)):=λi hi=>by
  have:=K5 (cs:=ac) (i:=(i:Int)) (by omega) (by omega)
  rwa [fR]at this
 have inner:∀(j:Nat) (A:List Ix) (o8 o9:Option W),j<m->good m (λi=>rs.getD i 0) A j 0->∃(A':List Ix) (p8 p9:Option W),ii (.n 8) (aF (a6 9 (be jf [(wD (mV 0)),(wD (m2 bq (m2 bq (mC (.int 4)) (m2 et (m2 c5 (mN jp [(mV 7),(mV 8)]) (m2 lL (mN jp [(mV 7),(mV 8)]) (mC (.int 1)))) (mC (.int 2)))) (mN mJ [(mV 7),(mV 8)])))])) (bh (dY (cB (m2 gq (m2 aG (mV 4) (mV 7)) (m2 aG (mV 4) (mV 8)))) (cB (m2 gq (m2 cD (m2 et (m2 cD (m2 c5 (mV 9) (mC (.int 48271))) (mC (.int 2147483647))) (mC (.int 16))) (mC (.int 4))) (mV 5)))) (eM 6 (mN dTup [(m2 aG (mV 3) (mV 7)),(m2 aG (mV 3) (mV 8))])) bp)) (d8 0 (m:Int)) [ab (.d (.lst (ns.map D.int))),ab (.d (.int (hi:Int))),ab (.d (.int (m:Int))),ab (.d (az ac)),ab (.d (.lst (rs.map D.int))),ab (.d (.int th)),ab (.d (hV ac A)),ab (.d (.int (j:Int))),o8,o9]=.ok (.nx [ab (.d (.lst (ns.map D.int))),ab (.d (.int (hi:Int))),ab (.d (.int (m:Int))),ab (.d (az ac)),ab (.d (.lst (rs.map D.int))),ab (.d (.int th)),ab (.d (hV ac A')),ab (.d (.int (j:Int))),p8,p9])/\good m (λi=>rs.getD i 0) A' (j+1) 0:=by
  intro j A o8 o9 hj hg;obtain⟨e',f1,A',p8,p9,he,hg'⟩:=fY (tg:=.n 8) (body:=(aF (a6 9 (be jf [(wD (mV 0)),(wD (m2 bq (m2 bq (mC (.int 4)) (m2 et (m2 c5 (mN jp [(mV 7),(mV 8)]) (m2 lL (mN jp [(mV 7),(mV 8)]) (mC (.int 1)))) (mC (.int 2)))) (mN mJ [(mV 7),(mV 8)])))])) (bh (dY (cB (m2 gq (m2 aG (mV 4) (mV 7)) (m2 aG (mV 4) (mV 8)))) (cB (m2 gq (m2 cD (m2 et (m2 cD (m2 c5 (mV 9) (mC (.int 48271))) (mC (.int 2147483647))) (mC (.int 16))) (mC (.int 4))) (mV 5)))) (eM 6 (mN dTup [(m2 aG (mV 3) (mV 7)),(m2 aG (mV 3) (mV 8))])) bp))) (λk e=>∃(A:List Ix) (o8 o9:Option W),e=[ab (.d (.lst (ns.map D.int))),ab (.d (.int (hi:Int))),ab (.d (.int (m:Int))),ab (.d (az ac)),ab (.d (.lst (rs.map D.int))),ab (.d (.int th)),ab (.d (hV ac A)),ab (.d (.int (j:Int))),o8,o9]/\good m (λi=>rs.getD i 0) A j k)
   (d8 0 (m:Int)) 0 (λk x e hx ⟨A,o8,o9,he,hg⟩=>by
    obtain⟨hk,rfl⟩:=x9 hx;subst he;rw[dX]at hg;obtain⟨c,hc⟩:=MQ ns (e:=[ab (.d (.lst (ns.map D.int))),ab (.d (.int (hi:Int))),ab (.d (.int (m:Int))),ab (.d (az ac)),ab (.d (.lst (rs.map D.int))),ab (.d (.int th)),ab (.d (hV ac A)),ab (.d (.int (j:Int))),ab (.d (.int (k:Int))),o9]) (j:=j) (k:=k) (by omega) (by omega) rfl rfl rfl;have c1:cB (m2 gq (m2 aG (mV 4) (mV 7)) (m2 aG (mV 4) (mV 8))) [ab (.d (.lst (ns.map D.int))),ab (.d (.int (hi:Int))),ab (.d (.int (m:Int))),ab (.d (az ac)),ab (.d (.lst (rs.map D.int))),ab (.d (.int th)),ab (.d (hV ac A)),ab (.d (.int (j:Int))),ab (.d (.int (k:Int))),ab (.d (.int c))]=.ok (decide (rs.getD j 0<rs.getD k 0)):=bI (aA (aA rfl rfl (hrx j hj)) (aA rfl rfl (hrx k hk)) rfl);have c2:cB (m2 gq (m2 cD (m2 et (m2 cD (m2 c5 (mV 9) (mC (.int 48271))) (mC (.int 2147483647))) (mC (.int 16))) (mC (.int 4))) (mV 5)) [ab (.d (.lst (ns.map D.int))),ab (.d (.int (hi:Int))),ab (.d (.int (m:Int))),ab (.d (az ac)),ab (.d (.lst (rs.map D.int))),ab (.d (.int th)),ab (.d (hV ac A)),ab (.d (.int (j:Int))),ab (.d (.int (k:Int))),ab (.d (.int c))]=.ok (decide (c*48271%2147483647/16%4<th)):=bI (aA (aA (aA (aA (aA rfl rfl (aO (z6 (by decide) (by decide)))) rfl (aO (by decide))) rfl (aO (mH (by decide) (by decide)))) rfl (aO (by decide))) rfl rfl);by_cases hb:rs.getD j 0<rs.getD k 0/\c*48271%2147483647/16%4<th
    ·refine⟨[ab (.d (.lst (ns.map D.int))),ab (.d (.int (hi:Int))),ab (.d (.int (m:Int))),ab (.d (az ac)),ab (.d (.lst (rs.map D.int))),ab (.d (.int th)),ab (.d (hV ac A)),ab (.d (.int (j:Int))),ab (.d (.int (k:Int))),o9],[ab (.d (.lst (ns.map D.int))),ab (.d (.int (hi:Int))),ab (.d (.int (m:Int))),ab (.d (az ac)),ab (.d (.lst (rs.map D.int))),ab (.d (.int th)),ab (.d (hV ac (A++[(j,k)]))),ab (.d (.int (j:Int))),ab (.d (.int (k:Int))),ab (.d (.int c))],rfl,?_,A++[(j,k)],ab (.d (.int (k:Int))),ab (.d (.int c)),rfl,by rw[dX];exact hg.add hj hk hb.1⟩;rw[aK (e':=[ab (.d (.lst (ns.map D.int))),ab (.d (.int (hi:Int))),ab (.d (.int (m:Int))),ab (.d (az ac)),ab (.d (.lst (rs.map D.int))),ab (.d (.int th)),ab (.d (hV ac A)),ab (.d (.int (j:Int))),ab (.d (.int (k:Int))),ab (.d (.int c))]) (bN hc)];rw[gs (by unfold dY;rw[c1,aD,cM hb.1,aH rfl,c2,cM hb.2])];rw[sQ (d:=pairD (nth ac j,nth ac k)) (ds:=(A.map (arrOf ac)).map pairD) (dZ (aA rfl rfl (hnx j hj)) (aA rfl rfl (hnx k hk))) rfl (by rw[aQ,aQ];have:=hg.2.2;omega)];show Rs.ok (Out.nx [_,_,_,_,_,_,ab (W.d (D.lst ((A.map (arrOf ac)).map pairD++[pairD (nth ac j,nth ac k)]))),_,_,_])=_;rw[hV,iU,iU];rfl
    ·refine⟨[ab (.d (.lst (ns.map D.int))),ab (.d (.int (hi:Int))),ab (.d (.int (m:Int))),ab (.d (az ac)),ab (.d (.lst (rs.map D.int))),ab (.d (.int th)),ab (.d (hV ac A)),ab (.d (.int (j:Int))),ab (.d (.int (k:Int))),o9],[ab (.d (.lst (ns.map D.int))),ab (.d (.int (hi:Int))),ab (.d (.int (m:Int))),ab (.d (az ac)),ab (.d (.lst (rs.map D.int))),ab (.d (.int th)),ab (.d (hV ac A)),ab (.d (.int (j:Int))),ab (.d (.int (k:Int))),ab (.d (.int c))],rfl,?_,A,ab (.d (.int (k:Int))),ab (.d (.int c)),rfl,by rw[dX];exact hg.skip⟩;rw[aK (e':=[ab (.d (.lst (ns.map D.int))),ab (.d (.int (hi:Int))),ab (.d (.int (m:Int))),ab (.d (az ac)),ab (.d (.lst (rs.map D.int))),ab (.d (.int th)),ab (.d (hV ac A)),ab (.d (.int (j:Int))),ab (.d (.int (k:Int))),ab (.d (.int c))]) (bN hc)];rw[dD (by
      unfold dY;rw[c1,aD];by_cases hb1:rs.getD j 0<rs.getD k 0
      ·rw[cM hb1,aH rfl,c2,dC λz=>hb ⟨hb1,z⟩]
      ·rw[dC hb1,ay cy])]
     rfl) _ ⟨A,o8,o9,rfl,hg⟩
  subst he;rw[l8,dX]at hg';exact⟨A',p8,p9,f1,hg'.next hm8⟩
 obtain⟨e',f1,A,p7,p8,p9,he,hg⟩:=fY (tg:=.n 7) (body:=(du (gO (mV 2)) (.n 8) (aF (a6 9 (be jf [(wD (mV 0)),(wD (m2 bq (m2 bq (mC (.int 4)) (m2 et (m2 c5 (mN jp [(mV 7),(mV 8)]) (m2 lL (mN jp [(mV 7),(mV 8)]) (mC (.int 1)))) (mC (.int 2)))) (mN mJ [(mV 7),(mV 8)])))])) (bh (dY (cB (m2 gq (m2 aG (mV 4) (mV 7)) (m2 aG (mV 4) (mV 8)))) (cB (m2 gq (m2 cD (m2 et (m2 cD (m2 c5 (mV 9) (mC (.int 48271))) (mC (.int 2147483647))) (mC (.int 16))) (mC (.int 4))) (mV 5)))) (eM 6 (mN dTup [(m2 aG (mV 3) (mV 7)),(m2 aG (mV 3) (mV 8))])) bp)))) (λj e=>∃(A:List Ix) (o7 o8 o9:Option W),e=[ab (.d (.lst (ns.map D.int))),ab (.d (.int (hi:Int))),ab (.d (.int (m:Int))),ab (.d (az ac)),ab (.d (.lst (rs.map D.int))),ab (.d (.int th)),ab (.d (hV ac A)),o7,o8,o9]/\good m (λi=>rs.getD i 0) A j 0)
  (d8 0 (m:Int)) 0 (λj x e hx ⟨A,o7,o8,o9,he,hg⟩=>by
   obtain⟨hj,rfl⟩:=x9 hx;subst he;rw[dX]at hg;obtain⟨A',p8,p9,f1,hg'⟩:=inner j A o8 o9 hj hg;exact⟨_,_,rfl,(eV (j2 rfl (wm m hm8))).trans f1,A',_,p8,p9,rfl,by rw[dX];exact hg'⟩)
  [ab (.d (.lst (ns.map D.int))),ab (.d (.int (hi:Int))),ab (.d (.int (m:Int))),ab (.d (az ac)),ab (.d (.lst (rs.map D.int))),ab (.d (.int th)),ab (.d (.lst [])),ae,ae,ae] ⟨[],ae,ae,ae,rfl,JF,λp hp=>absurd hp (by simp),eZ _⟩
 subst he;rw[l8,dX]at hg;refine⟨ac,A,λi=>rs.getD i 0,?_,⟨hnd,by omega,by omega,hg.1,λp hp=>?_,by have:=hg.2.2;omega⟩,c1,m,hm8,hnm⟩
 ·unfold sN Fx;rw[nz];rw[show((0:Nat):Int)=0 from rfl]at hc0;rw[show((1:Nat):Int)=1 from rfl]at hc1;rw[show((2:Nat):Int)=2 from rfl]at hc2;rw[show((3:Nat):Int)=3 from rfl]at hc3;rw[aK (e':=[ab (.d (.lst (ns.map D.int))),ab (.d (.int (hi:Int))),ab (.d (.int (m:Int))),ae,ae,ae,ae,ae,ae,ae]) (bN (d:=.int (m:Int)) ((aA rfl (aA (call2 rfl rfl hc0) rfl (aO hw)) rfl).trans (by rw[sD,hm])))];rw[aK (e':=[ab (.d (.lst (ns.map D.int))),ab (.d (.int (hi:Int))),ab (.d (.int (m:Int))),ab (.d (az ac)),ae,ae,ae,ae,ae,ae]) (bN (call2 (bU (call2 rfl rfl hc1)) rfl hn))];rw[aK (e':=[ab (.d (.lst (ns.map D.int))),ab (.d (.int (hi:Int))),ab (.d (.int (m:Int))),ab (.d (az ac)),ab (.d (.lst (rs.map D.int))),ae,ae,ae,ae,ae]) (bN (call2 (bU (call2 rfl rfl hc2)) rfl hr))];have hl6:mN dP [(mC (.int 4)),(mC (.int 1)),(mC (.int 2)),(mC (.int 3)),(mC (.int 2)),(mC (.int 3))] [ab (.d (.lst (ns.map D.int))),ab (.d (.int (hi:Int))),ab (.d (.int (m:Int))),ab (.d (az ac)),ab (.d (.lst (rs.map D.int))),ae,ae,ae,ae,ae]=.ok (.lst ([4,1,2,3,2,3].map D.int)):=by
   show a9 (([4,1,2,3,2,3].map D.int).length<=16777216) _=_;exact aO (by simp)
  rw[aK (e':=[ab (.d (.lst (ns.map D.int))),ab (.d (.int (hi:Int))),ab (.d (.int (m:Int))),ab (.d (az ac)),ab (.d (.lst (rs.map D.int))),ab (.d (.int th)),ae,ae,ae,ae]) (bN (aA hl6 (aA (call2 rfl rfl hc3) rfl (aO (by decide))) hth))];rw[aK (e':=[ab (.d (.lst (ns.map D.int))),ab (.d (.int (hi:Int))),ab (.d (.int (m:Int))),ab (.d (az ac)),ab (.d (.lst (rs.map D.int))),ab (.d (.int th)),ab (.d (.lst [])),ae,ae,ae]) (bN (lF _))];rw[aK ((eV (j2 rfl (wm m hm8))).trans f1)];rw[eU (bU (dZ (x:=av ac) (y:=aZ (A.map (arrOf ac))) (iK (x:=az ac) rfl) (iK (x:=hV ac A) rfl)))];rfl
 ·obtain⟨a,b,c,_⟩:=hg.2.1 p hp;exact⟨by omega,by omega,c⟩
end Mr
namespace Mr
open PySem Mi
end Mr
namespace Mr
open PySem Mi
inductive ft(ai:List Ar)(x:Str):Str->Prop
 |refl:ft ai x x
 |step {y z:Str}:ft ai x y->(y,z)∈ai->ft ai x z
structure Good(ac:List Str)(ai:List Ar)(x:Str)(met:List Str):Prop where
 nd:met.Nodup
 sub:∀y∈met,y∈ac
 r:∀y∈met,ft ai x y
 x:x∈met
def pf(ai:List Ar)(met:List Str):Prop:=∀p∈ai,p.1∈met->p.2∈met
theorem pf.all{ai:List Ar}{met:List Str}(h:pf ai met){x:Str}(hx:x∈met):∀{y:Str},ft ai x y->y∈met
 |_,.refl=>hx
 |_,.step r a=>h _ a (h.all hx r)
theorem Good.iff{ac:List Str}{ai:List Ar}{x:Str}{met:List Str}(g:Good ac ai x met)(h:pf ai met)(y:Str):y∈met↔ft ai x y:=⟨g.r y,h.all g.x⟩
end Mr
namespace Mr
open PySem Mi
noncomputable def rch (ai:List Ar) (x y:Str):Bool:=@decide (ft ai x y) (JJ _)
theorem uW{ai:List Ar}{x y:Str}:rch ai x y=true↔ft ai x y:=by unfold rch;exact@jm _ (JJ _)
noncomputable def bP (ac:List Str) (ai:List Ar) (x:Str):List Str:=ac.filter (rch ai x)
theorem CW{ai:List Ar}{x:Str}{met:List Str}(h:∀y,y∈met↔ft ai x y)(y:Str):decide (y∈met)=rch ai x y:=by rw[w6,uW,jm];exact h y
def eu(fs:List Str):W:=.dk (fs.map λy=>((gK y:Ky),D.bl true))
theorem Hz(fs:List Str)(y:Str):(iJ (fs.map λy=>((gK y:Ky),D.bl true)) (gK y)).isSome=decide (y∈fs):=by
 unfold iJ
 induction fs with
 |nil=>rfl
 |cons a r ih=>
  rw[bO,kB];by_cases h:a=y
  ·subst h;simp
  ·rw[dC (λz:(gK a:Ky)=gK y=>h (BU z))];simp only[ih];rw[yM];exact⟨λz=>c6 _ z,λz=>by
    rcases bA.mp z with z|z
    ·exact absurd z.symm h
    ·exact z⟩
theorem L1{i:Nat}{k:E}{e:Mi.Env}{fs:List Str}{y:Str}(hk:k e=.ok (.str y))(hw:wV i e=.ok (eu fs)):eF i k e=.ok (.bl (decide (y∈fs))):=by unfold eF;rw[hk,aD,hw,aD,<- Hz];rfl
theorem Op{i:Nat}{k:E}{e:Mi.Env}{fs:List Str}{y:Str}(hk:k e=.ok (.str y))(hw:wV i e=.ok (eu fs)):gX i k e=.ok (.bl (!decide (y∈fs))):=by unfold gX;rw[hk,aD,hw,aD,<- Hz];rfl
theorem P7{i:Nat}{k:E}{e:Mi.Env}{fs:List Str}{y:Str}(hk:k e=.ok (.str y))(hw:wV i e=.ok (eu fs))(hn:y∉fs)(hl:fs.length<=1000):fg i k (mC (.bl true)) e=.ok (.nx (e.set i (ab (eu (fs++[y]))))):=by
 unfold fg;have h1:sS (eu fs) (.str y) (.bl true)=.ok (eu (fs++[y])):=by
  show a9 ((fs.map λy=>((gK y:Ky),D.bl true)).length<16777216) ((cG (oG (.str y))).bind λk=>Rs.ok (W.dk (Mi.putK k (.bl true) (fs.map λy=>((gK y:Ky),D.bl true)))))=_;rw[aO (by rw[aQ];omega)];show Rs.ok (W.dk (Mi.putK (gK y:Ky) (.bl true) (fs.map λy=>((gK y:Ky),D.bl true))))=_;unfold Mi.putK;rw[ay (by
   rw[ue,rE,Ba];intro z hz;simp only[xB,fV];exactλq=>hn (BU q ▸ hz))]
  unfold eu;rw[iU];rfl
 show(k e).bind _=_;rw[hk,aD,hw,aD,h1];rfl
structure rc(ac:List Str)(ai:List Ar)(x:Str)(h:Option Str)(fs ws:List Str):Prop where
 g:Good ac ai x fs
 wnd:ws.Nodup
 rO:∀y∈ws,y∈fs
 ex:∀y∈fs,y∉ws->h=ab y\/∀p∈ai,p.1=y->p.2∈fs
end Mr
namespace Mr
open PySem Mi
noncomputable def hb (ac:List Str) (ai:List Ar) (Sc:List Str) (x:Str):Bool:=(bP ac ai x).any λy=>decide (y∈Sc)
end Mr
namespace Mr
open PySem Mi
abbrev jh:=Str×Str×Str
def ee(t:jh):D:=.tup [.str t.1,.str t.2.1,.str t.2.2]
theorem zY(ai:List Ar)(p:Ar):((ai.map pairD).any λe=>bn e (pairD p))=decide (p∈ai):=by
 induction ai with
 |nil=>rfl
 |cons q r ih=>
  rw[bO,iH,ih];have:bn (pairD q) (pairD p)=decide (q=p):=by unfold pairD;rw[bn,iA,iA,iA,qB,qB];obtain⟨a,b⟩:=q;obtain⟨c,d⟩:=p;by_cases h1:a=c<;>by_cases h2:b=d<;>simp[h1,h2]
  rw[this];by_cases h:q=p
  ·simp[h]
  ·have h2:¬ p=q:=λz=>h z.symm;simp[h,h2]
theorem vT:∀ai:List Ar,dN (ai.map pairD)<=1
 |[]=>by simp
 |p::r=>by
  have:=vT r;rw[bO,zF];have h:(pairD p).dep=1:=by simp[pairD]
  omega
theorem qH(ai:List Ar)(p:Ar):bz (pairD p) (aZ ai)=.ok (.bl (decide (p∈ai))):=by show a9 _ _=_;rw[aO (by have:=vT ai;omega),zY]
end Mr
namespace Mr
open PySem Mi
def hds(ai:List Ar)(l:List Str):List Str:=(ai.filter λp=>decide (p.1∈l)).map (·.2)
def Rk(ai:List Ar):Prop:=∃r:Str->Int,∀p∈ai,r p.1<r p.2
def ir(ai:List Ar)(a m b:Str):Bool:=(decide ((a,m)∈ai)&&decide ((b,m)∈ai)) && !(decide ((a,b)∈ai)||decide ((b,a)∈ai))
theorem EY(ai:List Ar)(a m b:Str):ir ai a m b=ir ai b m a:=by unfold ir;rw[Bool.and_comm (decide ((a,m)∈ai)),Bool.or_comm (decide ((a,b)∈ai))]
theorem u8{ai:List Ar}{a m b:Str}:ir ai a m b=true↔(a,m)∈ai/\(b,m)∈ai/\¬ (a,b)∈ai/\¬ (b,a)∈ai:=by unfold ir;simp[and_assoc]
def dc(ac:List Str)(ai:List Ar):List jh:=(bw ac.length).flatMap λk=>ac.flatMap λm=>((ac.drop (k+1)).filter λb=>ir ai (nth ac k) m b).map λb=>(nth ac k,m,b)
theorem qo{ac:List Str}{ai:List Ar}{a m b:Str}:(a,m,b)∈dc ac ai↔∃k,k<ac.length/\a=nth ac k/\m∈ac/\b∈ac.drop (k+1)/\ir ai a m b=true:=by
 unfold dc;simp only[pM,bu,fG,en,BR];constructor
 ·rintro⟨k,hk,m',hm,b',⟨hb,hc⟩,rfl,rfl,rfl⟩;exact⟨k,hk,rfl,hm,hb,hc⟩
 ·rintro⟨k,hk,rfl,hm,hb,hc⟩;exact⟨k,hk,m,hm,b,⟨hb,hc⟩,rfl,rfl,rfl⟩
theorem qE{α β:Type}{f g:α->List β}:∀{l:List α},(∀x∈l,f x=g x)->l.flatMap f=l.flatMap g
 |[],_=>rfl
 |x::r,h=>by rw[nP,nP,h x ce,qE λy hy=>h y (c6 _ hy)]
theorem GH{ac:List Str}{i j:Nat}(h:i<j)(hj:j<ac.length):nth ac j∈ac.drop (i+1):=by refine IE.mpr ⟨j-(i+1),?_⟩;rw[IP,show i+1+(j-(i+1))=j by omega];unfold nth;rw[fh,fF hj];rfl
theorem vx{ac:List Str}(nd:ac.Nodup){k:Nat}(hk:k<ac.length){b:Str}(hb:b∈ac.drop (k+1)):b∈ac/\nth ac k≠b:=by
 obtain⟨i,hi⟩:=IE.mp hb;rw[IP]at hi;have hl:k+1+i<ac.length:=by
  rcases xc (k+1+i) ac.length with z|z
  ·exact z
  ·rw[A5 z]at hi;cases hi
 have e:b=nth ac (k+1+i):=by unfold nth;rw[fh,hi];rfl
 rw[e];exact⟨qp hl,λz=>by have:=oa nd hk hl z;omega⟩
end Mr
namespace Mr
open PySem Mi
end Mr
namespace Mr
open PySem Mi
end Mr
namespace Mr
open PySem Mi
def tie(ai:List Ar)(a b:Str):Bool:=decide ((a,b)∈ai)||decide ((b,a)∈ai)
theorem Rq{ac:List Str}{ai:List Ar}(a b:Str):py [.d (bf ac ai),.d (.str a),.d (.str b)]=.ok (.d (.bl (tie ai a b))):=by
 unfold py Df;rw[Az];have a1:m2 bz (mN dTup [(mV 1),(mV 2)]) (m2 aG (mV 0) (mC (.int 1))) [ab (.d (bf ac ai)),ab (.d (.str a)),ab (.d (.str b))]=.ok (.bl (decide ((a,b)∈ai))):=(aA (dZ rfl rfl) (aA rfl rfl (rQ _ _)) rfl).trans (qH ai (a,b));have a2:m2 bz (mN dTup [(mV 2),(mV 1)]) (m2 aG (mV 0) (mC (.int 1))) [ab (.d (bf ac ai)),ab (.d (.str a)),ab (.d (.str b))]=.ok (.bl (decide ((b,a)∈ai))):=(aA (dZ rfl rfl) (aA rfl rfl (rQ _ _)) rfl).trans (qH ai (b,a));have aa:jS (m2 bz (mN dTup [(mV 1),(mV 2)]) (m2 aG (mV 0) (mC (.int 1)))) (m2 bz (mN dTup [(mV 2),(mV 1)]) (m2 aG (mV 0) (mC (.int 1)))) [ab (.d (bf ac ai)),ab (.d (.str a)),ab (.d (.str b))]=.ok (.bl (tie ai a b)):=by
  unfold jS;rw[a1,aD];show(oM (.bl _)).bind _=_;rw[sE,aD];unfold tie;by_cases h:(a,b)∈ai
  ·rw[cM h,aH rfl,Br]
  ·rw[dC h,ay cy,a2,Bq]
 exact(congrArg (λr=>Rs.bind r lc) (eU (bU aa))).trans rfl
end Mr
namespace Mr
open PySem Mi
end Mr
namespace Mr
open PySem Mi
def sw(t:jh):jh:=(t.2.2,t.2.1,t.1)
theorem OL(n:Nat)(x:Str):eW (n+1) [.d (.str x),.d (.str x)]=.ok (.d (.bl true)):=by
 show eI 2 4 (og (eW n)) _=_;unfold og;rw[nz];have c0:dQ (cB (m1 (cE ["str"]) (mV 1))) (cB (m1 (cE ["int"]) (mV 1))) [ab (.d (.str x)),ab (.d (.str x)),ae,ae]=.ok true:=rfl;have c1:dQ (cB (m2 de (m1 (cE ["bool"]) (mV 0)) (m1 (cE ["bool"]) (mV 1)))) (cB (m2 de (m1 (cE ["str"]) (mV 0)) (m1 (cE ["str"]) (mV 1)))) [ab (.d (.str x)),ab (.d (.str x)),ae,ae]=.ok false:=rfl;have c2:mW (m1 (cE ["int","str"]) (mV 0)) (m2 fU (mV 0) (mV 1)) [ab (.d (.str x)),ab (.d (.str x)),ae,ae]=.ok (.bl true):=by show m2 fU (mV 0) (mV 1) [ab (.d (.str x)),ab (.d (.str x)),ae,ae]=_;exact(aA rfl rfl rfl).trans ((Ff x x).trans (by rw[cM rfl]))
 exact(congrArg (λr=>Rs.bind r lc) (sg ((gs c0).trans ((aK ((dD c1).trans rfl)).trans (eU (bU c2)))))).trans rfl
def zQ(x:Str):D:=.tup [.str x,.str x]
theorem Fb:∀xs:List Str,im (xs.map D.str) (xs.map D.str)=xs.map zQ
 |[]=>rfl
 |x::r=>by rw[bO,im,Fb r];rfl
theorem NC(n:Nat)(xs:List Str):eW (n+2) [.d (az xs),.d (az xs)]=.ok (.d (.bl true)):=by
 show eI 2 4 (og (eW (n+1))) _=_;unfold og;rw[nz];have c0:dQ (cB (m1 (cE ["str"]) (mV 1))) (cB (m1 (cE ["int"]) (mV 1))) [ab (.d (az xs)),ab (.d (az xs)),ae,ae]=.ok false:=rfl;have c1:dQ (cB (m2 de (m1 (cE ["list"]) (mV 0)) (m1 (cE ["list"]) (mV 1)))) (dm (cB (m1 (cE ["list","tuple"]) (mV 0)))) [ab (.d (az xs)),ab (.d (az xs)),ae,ae]=.ok false:=rfl;have c2:cB (m2 de (mN cH [(mV 0)]) (mN cH [(mV 1)])) [ab (.d (az xs)),ab (.d (az xs)),ae,ae]=.ok false:=
  bI ((aA rfl rfl rfl).trans ((G9 _ _).trans (by rw[cM rfl];rfl)))
 obtain⟨e',f1,o2,o3,he⟩:=fY (tg:=.t [2,3]) (body:=(bh (dm (cB (be (eW (n+1)) [(wD (mV 2)),(wD (mV 3))]))) (bB (wD (mC (.bl false)))) bp))
  (λi e=>∃o2 o3:Option W,e=[ab (.d (az xs)),ab (.d (az xs)),o2,o3]) (xs.map zQ) 0 (λi d e hi ⟨o2,o3,he⟩=>by
   subst he;rw[c7]at hi;obtain⟨x,hx,rfl⟩:=gI.mp hi;have ct:dm (cB (be (eW (n+1)) [(wD (mV 2)),(wD (mV 3))])) [ab (.d (az xs)),ab (.d (az xs)),ab (.d (.str x)),ab (.d (.str x))]=.ok false:=by unfold dm;rw[bI (call2 rfl rfl (OL n x))];rfl
   exact⟨[ab (.d (az xs)),ab (.d (az xs)),ab (.d (.str x)),ab (.d (.str x))],_,rfl,(dD ct).trans rfl,_,_,rfl⟩) [ab (.d (az xs)),ab (.d (az xs)),ae,ae] ⟨ae,ae,rfl⟩
 subst he;have hit:uH (mV 0) (mV 1) [ab (.d (az xs)),ab (.d (az xs)),ae,ae]=.ok (xs.map zQ):=by rw[<- Fb];rfl
 exact(congrArg (λr=>Rs.bind r lc) ((aK ((dD c0).trans rfl)).trans ((aK ((dD c1).trans rfl)).trans ((aK ((dD c2).trans rfl)).trans ((aK ((eV hit).trans f1)).trans (eU (bU rfl))))))).trans rfl
end Mr
namespace Mr
open PySem Mi
theorem qq{a b:C}{e:Mi.Env}{p q:Bool}(ha:a e=.ok p)(hb:p=true->b e=.ok q):dY a b e=.ok (p&&q):=by
 unfold dY;rw[ha,aD];cases p with
 |true=>rw[aH rfl,hb rfl];rfl
 |false=>rfl
theorem pj{a b:C}{e:Mi.Env}{p q:Bool}(ha:a e=.ok p)(hb:p=false->b e=.ok q):dQ a b e=.ok (p||q):=by
 unfold dQ;rw[ha,aD];cases p with
 |true=>rfl
 |false=>rw[ay cy,hb rfl];rfl
theorem kH{a:C}{e:Mi.Env}{p:Bool}(ha:a e=.ok p):dm a e=.ok (!p):=by unfold dm;rw[ha];rfl
theorem xW{a b:E}{e:Mi.Env}{p q:Bool}(ha:a e=.ok (.bl p))(hb:p=true->b e=.ok (.bl q)):mW a b e=.ok (.bl (p&&q)):=by
 unfold mW;rw[ha,aD,sE,aD];cases p with
 |true=>rw[aH rfl,hb rfl];rfl
 |false=>rfl
theorem C6{a b:E}{e:Mi.Env}{p q:Bool}(ha:a e=.ok (.bl p))(hb:p=false->b e=.ok (.bl q)):jS a b e=.ok (.bl (p||q)):=by
 unfold jS;rw[ha,aD,sE,aD];cases p with
 |true=>rfl
 |false=>rw[ay cy,hb rfl];rfl
theorem vv{i:Nat}{c:C}{a:E}{e:Mi.Env}{ds:List D}{d:D}{p:Bool}(hc:c e=.ok p)(ha:p=true->a e=.ok d)(hg:getL e i=.ok ds)(hl:ds.length+(if p then[d]else[]).length<=16777216)(hs:e.set i (ab (.d (.lst ds)))=e) :
 bh c (eM i a) bp e=.ok (.nx (putL e i (ds++if p then[d]else[]))):=by
 cases p with
 |true=>rw[gs hc,sQ (ha rfl) hg (by simp at hl;omega)];rfl
 |false=>
  rw[dD hc];simp only[lj,eJ,nR,putL];rw[hs];rfl
theorem zv{f:List D->Rs D}{a b c:E}{e:Mi.Env}{x y z:D}(h:a e=.ok x)(h':b e=.ok y)(h'':c e=.ok z):mN f [a,b,c] e=f [x,y,z]:=by unfold mN;rw[fN,h,aD,fN,h',aD,fN,h''];rfl
theorem DM{f:D->Option Int->Option Int->Rs D}{a b:E}{e:Mi.Env}{x:D}{i:Int}(h:a e=.ok x)(h':b e=.ok (.int i)):d5 f a (ab b) ae e=f x (ab i) ae:=by unfold d5;rw[h,aD,show i4 (ab b) e=.ok (ab i)from by rw[i4,h'];rfl];rfl
theorem QI{f:D->Option Int->Option Int->Rs D}{a b:E}{e:Mi.Env}{x:D}{i:Int}(h:a e=.ok x)(h':b e=.ok (.int i)):d5 f a ae (ab b) e=f x ae (ab i):=by unfold d5;rw[h,aD,show i4 (ab b) e=.ok (ab i)from by rw[i4,h'];rfl];rfl
theorem tM{α:Type}{tg:Tg}{body:S}(f:α->D)(g:α->List D)(St:List D->Mi.Env->Prop):∀(xs:List α) (acc:List D) (e:Mi.Env),acc.length+(xs.flatMap g).length<=16777216->St acc e ->
 (∀x∈xs,∀acc e,acc.length+(g x).length<=16777216->St acc e->∃e1 e2,tg.put (f x) e=.ok e1/\body e1=.ok (.nx e2)/\St (acc++g x) e2) ->
 ∃e',ii tg body (xs.map f) e=.ok (.nx e')/\St (acc++xs.flatMap g) e'
 |[],acc,e,_,h,_=>⟨e,rfl,by simpa using h⟩
 |x::r,acc,e,hl,h,hs=>by
  rw[nP,dI]at hl;obtain⟨e1,e2,h1,h2,h3⟩:=hs x ce acc e (by omega) h;obtain⟨e',h4,h5⟩:=tM f g St r (acc++g x) e2 (by rw[dI];omega) h3 λy hy=>hs y (c6 _ hy);refine⟨e',?_,by rw[nP,<- t8];exact h5⟩;rw[bO,ii,h1,aD,h2,aD];exact h4
theorem qt{α β γ : Type}(f:β->γ)(g:α->List β):∀l:List α,(l.flatMap g).map f=l.flatMap λx=>(g x).map f
 |[]=>rfl
 |x::r=>by rw[nP,iU,qt f g r,nP]
theorem tW{α β:Type}{g:α->List β}{m:Nat}:∀{l:List α},(∀x∈l,(g x).length<=m)->(l.flatMap g).length<=l.length*m
 |[],_=>by simp
 |x::r,h=>by
  have ih:=tW (l:=r) λy hy=>h y (c6 _ hy);have h1:=h x ce;rw[nP,dI,dW,Nat.add_mul];omega
def bL(ai:List Ar):D:=.lst (ai.map pairD)
theorem Mq(ai:List Ar)(p:Ar):bz (pairD p) (bL ai)=.ok (.bl (decide (p∈ai))):=by show a9 _ _=_;rw[aO (dw (vT ai) (by decide)),zY]
theorem vo(ai:List Ar)(p:Ar):eQ (pairD p) (bL ai)=.ok (.bl (!decide (p∈ai))):=by show a9 _ _=_;rw[aO (dw (vT ai) (by decide)),zY]
theorem y7(ac:List Str):kJ 0 (ac.map D.str)=(bw ac.length).map λk=>D.tup [.int (k:Nat),.str (nth ac k)]:=by
 have key:∀(ns:List Str) (j:Nat),kJ j (ns.map D.str)=(bw ns.length).map λk=>D.tup [.int ((j+k:Nat):Int),.str (nth ns k)]:=λns=>by
  induction ns with
  |nil=>exactλ_=>rfl
  |cons x r ih=>
   intro j;rw[bO,kJ,ih,dW,A3,bO,dj]
   congr 1
   refine nO λk _=>?_;show D.tup [.int ((j+1+k:Nat):Int),_]=D.tup [.int ((j+(k+1):Nat):Int),_];rw[show j+1+k=j+(k+1)by omega];rfl
 rw[key ac 0];refine nO λk _=>?_;rw[dX]
theorem ML{ac:List Str}(hn:ac.length<=8)(ai:List Ar):(dc ac ai).length<=512:=by unfold dc;refine dw (tW (m:=64) λk _=>?_) (by rw[t6];omega);refine dw (tW (m:=8) λm _=>?_) (by omega);rw[aQ];refine dw (mi _ _) ?_;rw[gc];omega
end Mr
namespace Mr
open PySem Mi
structure Nt(ac:List Str)(ai:List Ar):Prop where
 nd:ac.Nodup
 le:ac.length<=8
 al:ai.length<=64
 inn:∀p∈ai,p.1∈ac/\p.2∈ac
 rk:Rk ai
end Mr
namespace Mr
open PySem Mi
def dJ(ac:List Str)(ai:List Ar):List Ar:=ac.flatMap λt=>(ac.filter λh=>decide ((t,h)∈ai)).map λh=>(t,h)
theorem we{ac:List Str}{ai:List Ar}{p:Ar}:p∈dJ ac ai↔p∈ai/\p.1∈ac/\p.2∈ac:=by
 obtain⟨a,b⟩:=p;unfold dJ;simp only[pM,bu,fG,fV,BR];constructor
 ·rintro⟨t,ht,h,⟨h1,h2⟩,rfl,rfl⟩;exact⟨h2,ht,h1⟩
 ·rintro⟨h1,h2,h3⟩;exact⟨a,h2,b,⟨h3,h1⟩,rfl,rfl⟩
theorem EB{ac:List Str}(hn:ac.length<=8)(ai:List Ar):(dJ ac ai).length<=64:=by unfold dJ;refine dw (tW (m:=8) λt _=>?_) (by omega);rw[aQ];exact dw (mi _ _) hn
end Mr
namespace Mr
open PySem Mi
def sq(k:Bool)(ds:List D):D:=if k then .lst ds else .tup ds
end Mr
namespace Mr
open PySem Mi
theorem vO:∀a b:List Int,dR a b=true->dR b a=true->False
 |[],[],h,_=>by cases h
 |[],_::_,_,h=>by cases h
 |_::_,[],h,_=>by cases h
 |a::r,b::t,h,k=>by
  rw[dR]at h k;by_cases e:a=b
  ·subst e;rw[aH (i3 a)]at h k;exact vO r t h k
  ·rw[ay (by simpa using e)]at h;rw[ay (by simpa using cR e)]at k;simp at h k;omega
theorem oI{a b:Int}{r t:List Int}(h:a<b):dR (a::r) (b::t)=true:=by rw[dR,ay (by simp;omega)];simpa using h
theorem sv{a:Int}{r t:List Int}:dR (a::r) (a::t)=dR r t:=by rw[dR,aH (i3 a)]
section
variable{α:Type}(key:α->List Int)
theorem Ep:∀{a b:List α},(∀x,x∈a↔x∈b)->a.Pairwise (λx y=>dR (key x) (key y)=true)->b.Pairwise (λx y=>dR (key x) (key y)=true)->a=b
 |[],[],_,_,_=>rfl
 |[],y::t,h,_,_=>absurd ((h y).mpr ce) (by simp)
 |x::r,[],h,_,_=>absurd ((h x).mp ce) (by simp)
 |x::r,y::t,h,ha,hb=>by
  have ha':=kA.mp ha;have hb':=kA.mp hb;have e:x=y:=by
   rcases bA.mp ((h x).mp ce)with z|z
   ·exact z
   ·rcases bA.mp ((h y).mpr ce)with z2|z2
    ·exact z2.symm
    ·exact(vO _ _ (hb'.1 x z) (ha'.1 y z2)).elim
  subst e;have nr:x∉r:=λz=>vO _ _ (ha'.1 x z) (ha'.1 x z);have nt:x∉t:=λz=>vO _ _ (hb'.1 x z) (hb'.1 x z);rw[Ep (a:=r) (b:=t) (λz=>⟨λhz=>?_,λhz=>?_⟩) ha'.2 hb'.2]
  ·rcases bA.mp ((h z).mp (c6 _ hz))with q|q
   ·exact absurd (q ▸ hz) nr
   ·exact q
  ·rcases bA.mp ((h z).mpr (c6 _ hz))with q|q
   ·exact absurd (q ▸ hz) nt
   ·exact q
theorem OE{kz:List (List Int)}(nd:kz.Nodup):(jG kz kz.length).Perm (bw kz.length)/\(jG kz kz.length).Pairwise (λi j=>dR (kz.getD i []) (kz.getD j [])=true):=by
 have O:=So.AC nd;have e:jG kz kz.length=sortI (So.lX kz) (bw kz.length):=by
  unfold jG So.lX
  congr 1
  funext i j;exact(So.u9 _ _).symm
 rw[e];refine⟨So.sK _ _,(So.za O (λx hx=>by simpa using hx) Bd).imp λ{i j} h=>?_⟩;rw[<- So.u9];exact h
theorem Lm[Inhabited α](f:α->D){xs ys:List α}(nd:(xs.map key).Nodup)(hm:∀a,a∈xs↔a∈ys)(hs:ys.Pairwise λa b=>dR (key a) (key b)=true):sortBy (xs.map key) (xs.map f)=ys.map f:=by
 obtain⟨h1,h2⟩:=OE nd;rw[aQ]at h1 h2;have lt:∀i∈jG (xs.map key) xs.length,i<xs.length:=λi hi=>by simpa using h1.mem_iff.mp hi
 have gd:∀i,i<xs.length->∀(β:Type) (g:α->β) (d:β),(xs.map g).getD i d=g (xs.getD i default):=λi hi β g d=>by simp[hi]
 have e:sortBy (xs.map key) (xs.map f)=((jG (xs.map key) xs.length).map λi=>xs.getD i default).map f:=by unfold sortBy;rw[aQ,dj];exact nO λi hi=>gd i (lt i hi) _ f _
 have e2 : ((jG (xs.map key) xs.length).map fun i => xs.getD i default) = ys:= by
  refine Ep key (λa=>?_) ?_ hs
  ·rw[<- hm a,bu];constructor
   ·rintro⟨i,hi,rfl⟩;have:=lt i hi;rw[fh,fF this];exact wT this
   ·intro ha;obtain⟨i,hi,rfl⟩:=A8 ha;exact⟨i,h1.mem_iff.mpr (en.mpr hi),by simp[hi]⟩
  ·rw[iS];refine h2.imp_of_mem λ{i j} hi hj h=>?_;rw[gd i (lt i hi) _ key,gd j (lt j hj) _ key]at h;exact h
 rw[e,e2]
end
theorem uV:∀l:List Int,gQ (l.map D.int)=ab l
 |[]=>rfl
 |i::r=>by rw[bO,gQ,uV r];rfl
theorem FW{α:Type}{ρ:List Nat}{kf:E}{e:Mi.Env}(f:α->D)(key:α->List Int):∀{xs:List α},(∀x∈xs,kf (lS ρ e (f x))=.ok (.lst ((key x).map D.int)))->jo ρ kf e (xs.map f)=.ok (xs.map key)
 |[],_=>rfl
 |x::r,h=>by
  rw[bO,jo,h x ce,aD,r9,uV,lG,aD,FW f key λy hy=>h y (c6 _ hy)];rfl
def ky(ac row:List Str):List Int:=row.map λx=>((ac.idxOf x:Nat):Int)
theorem CL(ac:List Str):vm (av ac)=ab ac:=Fa ac
theorem Qc{α:Type}[Inhabited α]{ac:List Str}{nx:D}(hq:vm nx=ab ac)(hn:ac.length<=1000)(row:α->List Str){xs ys:List α}(hr:∀x∈xs,(row x).length<=1000/\∀y∈row x,y∈ac)(h64:xs.length<64)(nd:(xs.map λx=>ky ac (row x)).Nodup)
 (hm:∀a,a∈xs↔a∈ys) (hs:ys.Pairwise λa b=>dR (ky ac (row a)) (ky ac (row b))=true) :
 ki [.d nx,.d (.lst (xs.map λx=>.tup ((row x).map D.str)))]=.ok (.d (.lst (ys.map λx=>.tup ((row x).map D.str)))):=by
 unfold ki G0;rw[pZ];rw[show([ab (W.d nx),ab (W.d (.lst (xs.map λx=>.tup ((row x).map D.str))))]++cx (2-2) ae)=[ab (W.d nx),ab (W.d (.lst (xs.map λx=>.tup ((row x).map D.str))))]from rfl];have hk:jo [0] (cq [ab 1,ae] (bJ (mV 0)) (.n 1) cO (m2 i5 (mV 0) (mV 1))) [ab (W.d nx),ab (W.d (.lst (xs.map λx=>.tup ((row x).map D.str))))] (xs.map λx=>.tup ((row x).map D.str))=.ok (xs.map λx=>ky ac (row x)):=
  FW (λx=>.tup ((row x).map D.str)) (λx=>ky ac (row x)) λx hx=>by
   have hc:c9 (.n 1) cO (m2 i5 (mV 0) (mV 1)) [ab (W.d nx),ae] ((row x).map D.str)=.ok (((row x).filter λ_=>true).map λy=>D.int ((ac.idxOf y:Nat):Int)):=
    gE D.str (λy=>D.int ((ac.idxOf y:Nat):Int)) (λ_=>true) (row x) λy hy=>⟨[ab (W.d nx),ab (W.d (.str y))],rfl,rfl,λ_=>aA (x:=nx) (y:=.str y) rfl rfl (by
     show((cG (vm nx)).bind λys=>a9 (y∈ys/\ys.length<=1000) (Rs.ok (D.int ((ys.idxOf y:Nat):Int))))=_;rw[hq,lG,aD];exact aO ⟨(hr x hx).2 y hy,hn⟩)⟩
   have hm:=e9 (ρ:=[ab 1,ae]) (e:=lS [0] [ab (W.d nx),ab (W.d (.lst (xs.map λx=>.tup ((row x).map D.str))))] (.tup ((row x).map D.str))) (eA (a:=mV 0) (x:=.tup ((row x).map D.str)) rfl rfl) (by rw[aQ];have:=(hr x hx).1;omega) hc;rw[hm,mm.mpr (λ_ _=>rfl)];show Rs.ok (D.lst _)=Rs.ok (D.lst ((ky ac (row x)).map D.int));unfold ky;rw[dj];rfl
 have hS:v0 [0] (mV 1) (cq [ab 1,ae] (bJ (mV 0)) (.n 1) cO (m2 i5 (mV 0) (mV 1))) [ab (W.d nx),ab (W.d (.lst (xs.map λx=>.tup ((row x).map D.str))))]=.ok (.lst (ys.map λx=>.tup ((row x).map D.str))):=by unfold v0;rw[show mV 1 [ab (W.d nx),ab (W.d (.lst (xs.map λx=>.tup ((row x).map D.str))))]=.ok (.lst (xs.map λx=>.tup ((row x).map D.str)))from rfl,aD];rw[show HB (.lst (xs.map λx=>.tup ((row x).map D.str)))=.ok (xs.map λx=>.tup ((row x).map D.str))from rfl,aD,aO (by rw[aQ];exact h64),hk,aD,aO nd,Lm (λx=>ky ac (row x)) _ nd hm hs]
 rw[eU (bU hS)];rfl
theorem Gk{α:Type}[Inhabited α]{ac:List Str}(hn:ac.length<=1000)(row:α->List Str){xs ys:List α}(hr:∀x∈xs,(row x).length<=1000/\∀y∈row x,y∈ac)(h64:xs.length<64)(nd:(xs.map λx=>ky ac (row x)).Nodup)
 (hm:∀a,a∈xs↔a∈ys) (hs:ys.Pairwise λa b=>dR (ky ac (row a)) (ky ac (row b))=true) :
 ki [.d (av ac),.d (.lst (xs.map λx=>.tup ((row x).map D.str)))]=.ok (.d (.lst (ys.map λx=>.tup ((row x).map D.str)))):=Qc (CL ac) hn row hr h64 nd hm hs
end Mr
namespace Mr
open PySem Mi
def prs(ac:List Str):List Ar:=(bw ac.length).flatMap λk=>(ac.drop (k+1)).map λb=>(nth ac k,b)
def jF(ac:List Str)(ai:List Ar)(p:Ar):List Str:=ac.filter λm=>decide ((p.1,m)∈ai)&&decide ((p.2,m)∈ai)
def jA(ac:List Str)(ai:List Ar):List jh:=(prs ac).flatMap λp=>if(!tie ai p.1 p.2)=true then(jF ac ai p).map λm=>(p.1,m,p.2)else[]
theorem k5{ac:List Str}{a b:Str}:(a,b)∈prs ac↔∃k,k<ac.length/\a=nth ac k/\b∈ac.drop (k+1):=by
 unfold prs;simp only[pM,bu,en,BR];constructor
 ·rintro⟨k,hk,b',hb,rfl,rfl⟩;exact⟨k,hk,rfl,hb⟩
 ·rintro⟨k,hk,rfl,hb⟩;exact⟨k,hk,b,hb,rfl,rfl⟩
theorem HS{ac:List Str}{ai:List Ar}(t:jh):t∈jA ac ai↔t∈dc ac ai:=by
 obtain⟨a,m,b⟩:=t;rw[qo];unfold jA jF tie ir;simp only[pM];constructor
 ·rintro⟨⟨a',b'⟩,hp,h⟩;split at h
  ·rename_i ht;obtain⟨m',hm,e⟩:=bu.mp h;cases e;obtain⟨hm1,hm2⟩:=fG.mp hm;obtain⟨k,hk,e,hb⟩:=k5.mp hp;exact⟨k,hk,e,hm1,hb,by rw[hm2,ht];rfl⟩
  ·cases h
 ·rintro⟨k,hk,e,hm,hb,hc⟩;have hc':=Bool.and_eq_true_iff.mp hc;refine⟨(a,b),k5.mpr ⟨k,hk,e,hb⟩,?_⟩;rw[aH hc'.2];exact bu.mpr ⟨m,fG.mpr ⟨hm,hc'.1⟩,rfl⟩
theorem lJ{ac:List Str}(nd:ac.Nodup){i:Nat}(hi:i<ac.length):ac.idxOf (nth ac i)=i:=by
 have e:nth ac i=ac[i]:=by unfold nth;rw[fh,fF hi];rfl
 rw[e];exact nd.idxOf_getElem i hi
theorem d3{ac:List Str}{x y:Str}(hx:x∈ac)(hy:y∈ac)(h:ac.idxOf x=ac.idxOf y):x=y:=by
 have h1:=A9 (wP.mpr hx);have h2:=A9 (wP.mpr hy);rw[<- h1,<- h2]
 congr 1
theorem zN{ac:List Str}(nd:ac.Nodup):ac.Pairwise λx y=>ac.idxOf x<ac.idxOf y:=by rw[A2];intro i j hi hj h;rw[nd.idxOf_getElem i hi,nd.idxOf_getElem j hj];exact h
theorem zK{ac:List Str}(nd:ac.Nodup){k:Nat}{b:Str}(hb:b∈ac.drop (k+1)):k<ac.idxOf b/\b∈ac:=by obtain⟨i,hi,rfl⟩:=A8 hb;rw[List.getElem_drop];rw[gc]at hi;rw[nd.idxOf_getElem (k+1+i) (by omega)];exact⟨by omega,wT _⟩
def tr(t:jh):List Str:=[t.1,t.2.1,t.2.2]
theorem OV{ac:List Str}(nd:ac.Nodup)(ai:List Ar):(dc ac ai).Pairwise λx y=>dR (ky ac (tr x)) (ky ac (tr y))=true:=by
 unfold dc;rw[nN];refine⟨λk hk=>?_,mh.imp_of_mem λ{k1 k2} h1 h2 h x hx y hy=>?_⟩
 ·rw[nN];refine⟨λm hm=>?_,(zN nd).imp λ{m1 m2} h x hx y hy=>?_⟩
  ·rw[iS];refine((zN nd).sublist (List.Sublist.trans II (Bb _ _))).imp λ{b1 b2} h=>?_;show dR [_,_,_] [_,_,_]=true;rw[sv,sv];exact oI (rF.mpr h)
  ·obtain⟨b1,_,rfl⟩:=bu.mp hx;obtain⟨b2,_,rfl⟩:=bu.mp hy;show dR [_,_,_] [_,_,_]=true;rw[sv];exact oI (rF.mpr h)
 ·obtain⟨m1,_,hx⟩:=pM.mp hx;obtain⟨m2,_,hy⟩:=pM.mp hy;obtain⟨b1,_,rfl⟩:=bu.mp hx;obtain⟨b2,_,rfl⟩:=bu.mp hy;have e1:=lJ nd (en.mp h1);have e2:=lJ nd (en.mp h2);exact oI (by show((ac.idxOf (nth ac k1):Nat):Int)<((ac.idxOf (nth ac k2):Nat):Int);rw[e1,e2];omega)
theorem CQ{ac:List Str}(nd:ac.Nodup):(prs ac).Nodup:=by
 unfold prs;show wX _ _;rw[nN];refine⟨λk hk=>?_,mh.imp_of_mem λ{k1 k2} h1 h2 h x hx y hy=>?_⟩
 ·rw[iS];exact(nd.sublist (Bb _ _)).imp λ{b1 b2} h z=>h (by cases z;rfl)
 ·obtain⟨b1,_,rfl⟩:=bu.mp hx;obtain⟨b2,_,rfl⟩:=bu.mp hy;intro z;have:=oa nd (en.mp h1) (en.mp h2) (congrArg Prod.fst z);omega
theorem Ih{ac:List Str}(nd:ac.Nodup)(ai:List Ar):(jA ac ai).Nodup:=by
 unfold jA;show wX _ _;rw[nN];have inn:∀{p:Ar} {x:jh},x∈(if(!tie ai p.1 p.2)=true then(jF ac ai p).map λm=>(p.1,m,p.2)else[])->x.1=p.1/\x.2.2=p.2:=λ{p x} h=>by
  split at h
  ·obtain⟨m,_,rfl⟩:=bu.mp h;exact⟨rfl,rfl⟩
  ·cases h
 refine⟨λp hp=>?_,(CQ nd).imp λ{p q} h x hx y hy z=>?_⟩
 ·split
  ·rw[iS];exact(nd.sublist II).imp λ{b1 b2} h z=>h (by cases z;rfl)
  ·exact .nil
 ·subst z;obtain⟨a1,a2⟩:=inn hx;obtain⟨b1,b2⟩:=inn hy;exact h (uv (a1.symm.trans b1) (a2.symm.trans b2))
theorem zq{α:Type}[DecidableEq α]:∀{l L:List α},l.Nodup->(∀x∈l,x∈L)->l.length<=L.length
 |[],_,_,_=>eZ _
 |x::r,L,nd,h=>by
  have nd':=jO.mp nd;have hx:=h x ce;have:=zq (l:=r) (L:=L.erase x) nd'.2 λy hy=>(IF (λz:y=x=>nd'.1 (z ▸ hy))).mpr (h y (c6 _ hy));rw[Iz hx]at this;have:=ID hx;rw[dW];omega
def qJ(ac:List Str)(t:jh):Nat:=
 if ac.idxOf t.2.1<ac.idxOf t.1 then ac.idxOf t.2.1*64+ac.idxOf t.1*8+ac.idxOf t.2.2
 else if ac.idxOf t.2.1<ac.idxOf t.2.2 then ac.idxOf t.1*64+ac.idxOf t.2.1*8+ac.idxOf t.2.2
 else ac.idxOf t.1*64+ac.idxOf t.2.2*8+ac.idxOf t.2.1
structure CF(ac:List Str)(ai:List Ar)(t:jh):Prop where
 m1:t.1∈ac
 m2:t.2.1∈ac
 m3:t.2.2∈ac
 l1:ac.idxOf t.1<8
 l2:ac.idxOf t.2.1<8
 l3:ac.idxOf t.2.2<8
 up:ac.idxOf t.1<ac.idxOf t.2.2
 n1:ac.idxOf t.2.1≠ac.idxOf t.1
 n2:ac.idxOf t.2.1≠ac.idxOf t.2.2
 a1:(t.1,t.2.1)∈ai
 a2:(t.2.2,t.2.1)∈ai
 z1:(t.1,t.2.2)∉ai
 z2:(t.2.2,t.1)∉ai
theorem qj{ac:List Str}{ai:List Ar}(N:Nt ac ai){t:jh}(h:t∈jA ac ai):CF ac ai t:=by
 obtain⟨a,m,b⟩:=t;obtain⟨k,hk,e,hm,hb,hc⟩:=qo.mp ((HS _).mp h);obtain⟨c1,c2,c3,c4⟩:=u8.mp hc;obtain⟨d1,d2⟩:=zK N.nd hb;have ha:a∈ac:=by rw[e];exact qp hk
 have ei:ac.idxOf a=k:=by rw[e];exact lJ N.nd hk
 have hn:=N.le;obtain⟨r,hr⟩:=N.rk;have i1:=wP.mpr hm;have i2:=wP.mpr d2;refine⟨ha,hm,d2,?_,?_,?_,?_,λz=>?_,λz=>?_,c1,c2,c3,c4⟩
 ·show ac.idxOf a<8;omega
 ·show ac.idxOf m<8;omega
 ·show ac.idxOf b<8;omega
 ·show ac.idxOf a<ac.idxOf b;omega
 ·have:=d3 hm ha z;have:=hr _ c1;simp only at *;subst m;omega
 ·have:=d3 hm d2 z;have:=hr _ c2;simp only at *;subst m;omega
theorem Ll{ac:List Str}{ai:List Ar}{t u:jh}(T:CF ac ai t)(U:CF ac ai u)(h:qJ ac t=qJ ac u):t=u:=by
 obtain⟨a,m,b⟩:=t;obtain⟨a',m',b'⟩:=u;obtain⟨m1,m2,m3,l1,l2,l3,up,n1,n2,a1,a2,z1,z2⟩:=T;obtain⟨m1',m2',m3',l1',l2',l3',up',n1',n2',a1',a2',z1',z2'⟩:=U;unfold qJ at h;simp only at *;split at h
 ·split at h
  ·obtain rfl:=d3 m1 m1' (by omega);obtain rfl:=d3 m2 m2' (by omega);obtain rfl:=d3 m3 m3' (by omega);rfl
  ·split at h
   ·obtain rfl:=d3 m2 m1' (by omega);obtain rfl:=d3 m3 m3' (by omega);exact absurd a2 z2'
   ·obtain rfl:=d3 m2 m1' (by omega);obtain rfl:=d3 m1 m3' (by omega);exact absurd a1 z2'
 ·split at h
  ·split at h
   ·obtain rfl:=d3 m1 m2' (by omega);obtain rfl:=d3 m3 m3' (by omega);exact absurd a2' z2
   ·split at h
    ·obtain rfl:=d3 m1 m1' (by omega);obtain rfl:=d3 m2 m2' (by omega);obtain rfl:=d3 m3 m3' (by omega);rfl
    ·obtain rfl:=d3 m1 m1' (by omega);obtain rfl:=d3 m2 m3' (by omega);exact absurd a1 z1'
  ·split at h
   ·obtain rfl:=d3 m1 m2' (by omega);obtain rfl:=d3 m3 m1' (by omega);exact absurd a1' z2
   ·split at h
    ·obtain rfl:=d3 m1 m1' (by omega);obtain rfl:=d3 m3 m2' (by omega);exact absurd a1' z1
    ·obtain rfl:=d3 m1 m1' (by omega);obtain rfl:=d3 m2 m2' (by omega);obtain rfl:=d3 m3 m3' (by omega);rfl
def uI:List Nat:=(bw 512).filter λn=>decide (n/64<n/8%8)&&decide (n/8%8<n%8)
theorem Qh:uI.length=56:=by decide +kernel
theorem KO{ac:List Str}{ai:List Ar}{t:jh}(T:CF ac ai t):qJ ac t∈uI:=by
 obtain⟨m1,m2,m3,l1,l2,l3,up,n1,n2,a1,a2,z1,z2⟩:=T;have key:∀x y z:Nat,x<y->y<z->z<8->x*64+y*8+z∈uI:=λx y z h1 h2 h3=>by
  refine fG.mpr ⟨en.mpr (by omega),?_⟩;have e1:(x*64+y*8+z)/64=x:=by omega
  have e2:(x*64+y*8+z)/8%8=y:=by omega
  have e3:(x*64+y*8+z)%8=z:=by omega
  rw[e1,e2,e3];simp[h1,h2]
 unfold qJ;split
 ·exact key _ _ _ (by omega) (by omega) (by omega)
 ·split
  ·exact key _ _ _ (by omega) (by omega) (by omega)
  ·exact key _ _ _ (by omega) (by omega) (by omega)
theorem Gs{ac:List Str}{ai:List Ar}(N:Nt ac ai):(jA ac ai).length<=56:=by
 have h:((jA ac ai).map (qJ ac)).Nodup:=by show wX _ _;rw[iS];exact xx (λ{x y} hx hy h z=>h (Ll (qj N hx) (qj N hy) z)) (Ih N.nd ai)
 have:=zq h (L:=uI) λx hx=>by
  obtain⟨t,ht,rfl⟩:=bu.mp hx;exact KO (qj N ht)
 rw[aQ,Qh]at this;exact this
theorem Rh{ac:List Str}{ai:List Ar}(N:Nt ac ai):((jA ac ai).map λt=>ky ac (tr t)).Nodup:=by show wX _ _;rw[iS];refine xx (λ{x y} hx hy h z=>h ?_) (Ih N.nd ai);have X:=qj N hx;have Y:=qj N hy;obtain⟨a,m,b⟩:=x;obtain⟨a',m',b'⟩:=y;simp only[ky,tr,bO,ud,nZ,oZ]at z;obtain⟨z1,z2,z3⟩:=z;obtain rfl:=d3 X.m1 Y.m1 (by show ac.idxOf a=ac.idxOf a';omega);obtain rfl:=d3 X.m2 Y.m2 (by show ac.idxOf m=ac.idxOf m';omega);obtain rfl:=d3 X.m3 Y.m3 (by show ac.idxOf b=ac.idxOf b';omega);rfl
theorem K8{ac:List Str}{ai:List Ar}(N:Nt ac ai):ki [.d (av ac),.d (.lst ((jA ac ai).map ee))]=.ok (.d (.lst ((dc ac ai).map ee))):=
 Gk (by have:=N.le;omega) tr (λt ht=>⟨by show 3<=1000;omega,λy hy=>by
  have T:=qj N ht;simp only[tr,bA,rC,or_false]at hy;rcases hy with rfl|rfl|rfl
  ·exact T.m1
  ·exact T.m2
  ·exact T.m3⟩) (by have:=Gs N;omega) (Rh N) (λt=>HS t) (OV N.nd ai)
end Mr
namespace Mr
open PySem Mi
theorem yD{i:Nat}{a:E}{e:Mi.Env}{ds xs:List D}(ha:a e=.ok (.lst xs))(hg:getL e i=.ok ds)(hl:ds.length+xs.length<=16777216):m6 i a e=.ok (.nx (putL e i (ds++xs))):=by unfold m6;rw[ha,aD,hg,aD];exact aO hl
theorem AH{a b:E}{e:Mi.Env}{x y:D}(h:a e=.ok x)(h':b e=.ok y):mN dP [a,b] e=.ok (.lst [x,y]):=by unfold mN;rw[fN,h,aD,fN,h',aD];rfl
theorem PZ{a:E}{e:Mi.Env}{x:D}(h:a e=.ok x):vQ a e=.ok (.nx e):=by unfold vQ;rw[h];rfl
theorem G2{ac:List Str}{ai:List Ar}{a b:Str}(ha:a∈ac)(hb:b∈ac):lg [.d (bf ac ai),.d (.str a),.d (.str b)]=.ok (.d (.bl (tie ai a b))):=by
 unfold lg Gj;rw[Az];rw[show([ab (W.d (bf ac ai)),ab (W.d (.str a)),ab (W.d (.str b))]++cx (3-3) ae)=[ab (W.d (bf ac ai)),ab (W.d (.str a)),ab (W.d (.str b))]from rfl];have hr:qc [.d (av ac),.d (az [a,b])]=.ok (.d .non):=P0 λx hx=>by
  rcases bA.mp hx with rfl|hx
  ·exact ha
  ·rw[ej.mp hx];exact hb
 rw[aK (PZ (call2 (bU (aA rfl rfl (oT _ _))) (bU (AH rfl rfl)) hr))];have aa:jS (m2 bz (mN dTup [(mV 1),(mV 2)]) (m2 aG (mV 0) (mC (.int 1)))) (m2 bz (mN dTup [(mV 2),(mV 1)]) (m2 aG (mV 0) (mC (.int 1)))) [ab (.d (bf ac ai)),ab (.d (.str a)),ab (.d (.str b))]=.ok (.bl (tie ai a b)):=
  C6 (aA (dZ rfl rfl) (aA rfl rfl (rQ ac ai)) (qH ai (a,b))) λ_=>aA (dZ rfl rfl) (aA rfl rfl (rQ ac ai)) (qH ai (b,a))
 rw[eU (bU aa)];rfl
theorem mY{ac:List Str}(hn:ac.length<=8):(prs ac).length<=64:=by unfold prs;refine dw (tW (m:=8) λk _=>?_) (by rw[t6];omega);rw[aQ,gc];omega
theorem HD{ac:List Str}{a b:E}{e:Mi.Env}{k:Nat}(hk:k<ac.length)(hn:ac.length<=8)(ha:a e=.ok (av ac))(hb:b e=.ok (.int (k:Nat))):bJ (d5 kK a (ab (m2 bq b (mC (.int 1)))) ae) e=.ok ((ac.drop (k+1)).map D.str):=by
 have sl:d5 kK a (ab (m2 bq b (mC (.int 1)))) ae e=.ok (.tup ((ac.map D.str).drop (k+1))):=by rw[DM ha (aA (a:=b) (b:=mC (.int 1)) (x:=.int (k:Nat)) (y:=.int 1) hb rfl rfl)];show a9 _ _=_;rw[aO (by rw[aQ];omega),show((k:Nat):Int)+1=((k+1:Nat):Int)by omega,fR]
 rw[eA sl rfl,List.map_drop]
theorem EV{ac:List Str}(hn:ac.length<=8):iP [.d (av ac)]=.ok (.d (bL (prs ac))):=by
 unfold iP yx;rw[o0];have epr:(prs ac).map pairD=(bw ac.length).flatMap λk=>(ac.drop (k+1)).map λb=>pairD (nth ac k,b):=by unfold prs;rw[qt];refine qE λk _=>?_;rw[dj];rfl
 have uA:((prs ac).map pairD).length<=64:=by rw[aQ];exact mY hn
 rw[epr]at uA;obtain⟨e',f1,o2,o3,he⟩:=tM (tg:=.t [2,3]) (body:=(m6 1 (cq [ab 3,ae] (bJ (d5 kK (mV 0) (ab (m2 bq (mV 2) (mC (.int 1)))) ae)) (.n 1) cO (mN dTup [(mV 0),(mV 1)]))))
  (λk:Nat=>D.tup [.int (k:Nat),.str (nth ac k)]) (λk=>(ac.drop (k+1)).map λb=>pairD (nth ac k,b))
  (λacc e=>∃o2 o3:Option W,e=[ab (.d (av ac)),ab (.d (.lst acc)),o2,o3]) (bw ac.length) [] [ab (.d (av ac)),ab (.d (.lst [])),ae,ae] (by simp only[pN];omega) ⟨ae,ae,rfl⟩
  (λk hk acc e hl ⟨o2,o3,he⟩=>by
   subst he;have hk:=en.mp hk;refine⟨[ab (.d (av ac)),ab (.d (.lst acc)),ab (.d (.int (k:Nat))),ab (.d (.str (nth ac k)))],putL [ab (.d (av ac)),ab (.d (.lst acc)),ab (.d (.int (k:Nat))),ab (.d (.str (nth ac k)))] 1 (acc++(ac.drop (k+1)).map λb=>pairD (nth ac k,b)),rfl,?_,_,_,rfl⟩;have hc:c9 (.n 1) cO (mN dTup [(mV 0),(mV 1)]) [ab (.d (.str (nth ac k))),ae] ((ac.drop (k+1)).map D.str)=.ok (((ac.drop (k+1)).filter λ_=>true).map λb=>pairD (nth ac k,b)):=
    gE D.str (λb=>pairD (nth ac k,b)) (λ_=>true) _ λb _=>⟨[ab (.d (.str (nth ac k))),ab (.d (.str b))],rfl,rfl,λ_=>dZ rfl rfl⟩
   rw[mm.mpr (λ_ _=>rfl)]at hc;exact yD (e9 (ρ:=[ab 3,ae]) (HD hk hn rfl rfl) (by rw[aQ,gc];omega) hc) rfl hl)
 subst he;rw[show([ab (W.d (av ac))]++cx (4-1) ae)=[ab (W.d (av ac)),ae,ae,ae]from rfl];rw[aK (e':=[ab (.d (av ac)),ab (.d (.lst [])),ae,ae]) (bN (lF _))];have hit:oo (mV 0) [ab (.d (av ac)),ab (.d (.lst [])),ae,ae]=.ok ((bw ac.length).map λk=>D.tup [.int (k:Nat),.str (nth ac k)]):=by rw[<- y7];rfl
 rw[aK ((eV hit).trans f1)];unfold bL;rw[epr];rfl
theorem pb{ac:List Str}{p:Ar}(h:p∈prs ac):p.1∈ac/\p.2∈ac:=by obtain⟨k,hk,e,hb⟩:=k5.mp (show(p.1,p.2)∈prs ac from h);exact⟨by rw[e];exact qp hk,A6 hb⟩
def bT(ac:List Str)(ai:List Ar):List Ar:=(prs ac).filter λp=>tie ai p.1 p.2
theorem M8{ac:List Str}{ai:List Ar}(hn:ac.length<=8):qL [.d (bf ac ai)]=.ok (.d (bL (bT ac ai))):=by
 unfold qL Gw;rw[o0];rw[show([ab (W.d (bf ac ai))]++cx (1-1) ae)=[ab (W.d (bf ac ai))]from rfl];have hc:c9 (.t [1,2]) (cB (be lg [(wD (mV 0)),(wD (mV 1)),(wD (mV 2))])) (mN dTup [(mV 1),(mV 2)]) [ab (.d (bf ac ai)),ae,ae] ((prs ac).map pairD)=.ok ((bT ac ai).map pairD):=
  gE pairD pairD (λp=>tie ai p.1 p.2) (prs ac) λp hp=>⟨[ab (.d (bf ac ai)),ab (.d (.str p.1)),ab (.d (.str p.2))],rfl,bI (qY rfl rfl rfl (G2 (pb hp).1 (pb hp).2)),λ_=>dZ rfl rfl⟩
 have hm:=e9 (ρ:=[ab 0,ae,ae]) (e:=[ab (.d (bf ac ai))]) (eA (a:=be iP [(wD (m2 aG (mV 0) (mC (.int 0))))]) (x:=bL (prs ac)) (l0 (bU (aA rfl rfl (oT ac ai))) (EV hn)) rfl) (by rw[aQ];have:=mY hn;omega) hc;rw[eU (bU hm)];rfl
theorem K0{ac:List Str}{ai:List Ar}:(jA ac ai).map ee=(prs ac).flatMap λp=>if(!tie ai p.1 p.2)=true then(jF ac ai p).map λm=>ee (p.1,m,p.2)else[]:=by
 unfold jA;rw[qt];refine qE λp _=>?_;split
 ·rw[dj];rfl
 ·rfl
theorem Lx{ac:List Str}{ai:List Ar}(N:Nt ac ai):qy [.d (bf ac ai)]=.ok (.d (.lst ((dc ac ai).map ee))):=by
 have hn:=N.le;have Sa:((jA ac ai).map ee).length<=56:=by rw[aQ];exact Gs N
 have dJ:=K8 N;rw[K0]at Sa dJ;unfold qy Ij;rw[o0];obtain⟨e',f1,o4,o5,o6,he⟩:=tM (tg:=.t [4,5]) (body:=(bh (dm (cB (be lg [(wD (mV 0)),(wD (mV 4)),(wD (mV 5))])))
 (aF (a6 6 (cq [ab 2,ab 4,ab 5,ae] (bJ (mV 1)) (.n 3) (dY (cB (m2 bz (mN dTup [(mV 1),(mV 3)]) (mV 0))) (cB (m2 bz (mN dTup [(mV 2),(mV 3)]) (mV 0)))) (mV 3)))
 (m6 3 (cq [ab 4,ab 5,ae] (bJ (mV 6)) (.n 2) cO (mN dTup [(mV 0),(mV 2),(mV 1)]))))
 bp))
  pairD (λp=>if(!tie ai p.1 p.2)=true then(jF ac ai p).map λm=>ee (p.1,m,p.2)else[])
  (λacc e=>∃o4 o5 o6:Option W,e=[ab (.d (bf ac ai)),ab (.d (av ac)),ab (.d (aZ ai)),ab (.d (.lst acc)),o4,o5,o6]) (prs ac) [] [ab (.d (bf ac ai)),ab (.d (av ac)),ab (.d (aZ ai)),ab (.d (.lst [])),ae,ae,ae] (by simp only[pN];omega) ⟨ae,ae,ae,rfl⟩
  (λp hp acc e hl ⟨o4,o5,o6,he⟩=>by
   subst he;have hc:=kH (bI (qY (f:=lg) (a:=wD (mV 0)) (b:=wD (mV 4)) (c:=wD (mV 5)) (e:=[ab (.d (bf ac ai)),ab (.d (av ac)),ab (.d (aZ ai)),ab (.d (.lst acc)),ab (.d (.str p.1)),ab (.d (.str p.2)),o6]) rfl rfl rfl (G2 (ai:=ai) (pb hp).1 (pb hp).2)));cases ht:(!tie ai p.1 p.2)with
   |false=>
    rw[ht]at hc;rw[ay cy,nR];exact⟨[ab (.d (bf ac ai)),ab (.d (av ac)),ab (.d (aZ ai)),ab (.d (.lst acc)),ab (.d (.str p.1)),ab (.d (.str p.2)),o6],_,rfl,(dD hc).trans rfl,_,_,_,rfl⟩
   |true=>
    rw[ht]at hc;rw[ht,aH rfl]at hl;rw[aH rfl];have hmc:c9 (.n 3) (dY (cB (m2 bz (mN dTup [(mV 1),(mV 3)]) (mV 0))) (cB (m2 bz (mN dTup [(mV 2),(mV 3)]) (mV 0)))) (mV 3) [ab (.d (aZ ai)),ab (.d (.str p.1)),ab (.d (.str p.2)),ae] (ac.map D.str)=.ok ((jF ac ai p).map D.str):=
     gE D.str D.str (λm=>decide ((p.1,m)∈ai)&&decide ((p.2,m)∈ai)) ac λm _=>⟨[ab (.d (aZ ai)),ab (.d (.str p.1)),ab (.d (.str p.2)),ab (.d (.str m))],rfl,qq (bI (aA (dZ rfl rfl) rfl (qH ai (p.1,m)))) λ_=>bI (aA (dZ rfl rfl) rfl (qH ai (p.2,m))),λ_=>rfl⟩
    have s1:=bN (i:=6) (e9 (ρ:=[ab 2,ab 4,ab 5,ae]) (e:=[ab (.d (bf ac ai)),ab (.d (av ac)),ab (.d (aZ ai)),ab (.d (.lst acc)),ab (.d (.str p.1)),ab (.d (.str p.2)),o6]) (eA (a:=mV 1) (x:=av ac) rfl rfl) (by rw[aQ];omega) hmc);have JX:c9 (.n 2) cO (mN dTup [(mV 0),(mV 2),(mV 1)]) [ab (.d (.str p.1)),ab (.d (.str p.2)),ae] ((jF ac ai p).map D.str)=.ok (((jF ac ai p).filter λ_=>true).map λm=>ee (p.1,m,p.2)):=
     gE D.str (λm=>ee (p.1,m,p.2)) (λ_=>true) _ λm _=>⟨[ab (.d (.str p.1)),ab (.d (.str p.2)),ab (.d (.str m))],rfl,rfl,λ_=>(zv rfl rfl rfl).trans (aO (by simp))⟩
    rw[mm.mpr (λ_ _=>rfl)]at JX;have hml:(jF ac ai p).length<=8:=dw (mi _ _) hn;refine⟨[ab (.d (bf ac ai)),ab (.d (av ac)),ab (.d (aZ ai)),ab (.d (.lst acc)),ab (.d (.str p.1)),ab (.d (.str p.2)),o6],putL [ab (.d (bf ac ai)),ab (.d (av ac)),ab (.d (aZ ai)),ab (.d (.lst acc)),ab (.d (.str p.1)),ab (.d (.str p.2)),ab (.d (.lst ((jF ac ai p).map D.str)))] 3 (acc++(jF ac ai p).map λm=>ee (p.1,m,p.2)),rfl,?_,_,_,_,rfl⟩;exact(gs hc).trans ((aK s1).trans (yD (e9 (ρ:=[ab 4,ab 5,ae]) (eA (a:=mV 6) (x:=.lst ((jF ac ai p).map D.str)) rfl rfl) (by rw[aQ];omega) JX) rfl hl)))
 subst he;rw[show([ab (W.d (bf ac ai))]++cx (7-1) ae)=[ab (W.d (bf ac ai)),ae,ae,ae,ae,ae,ae]from rfl];rw[aK (e':=[ab (.d (bf ac ai)),ab (.d (av ac)),ab (.d (aZ ai)),ae,ae,ae,ae]) rfl];rw[aK (e':=[ab (.d (bf ac ai)),ab (.d (av ac)),ab (.d (aZ ai)),ab (.d (.lst [])),ae,ae,ae]) (bN (lF _))];rw[aK ((eV (eA (a:=be iP [(wD (mV 1))]) (x:=bL (prs ac)) (l0 rfl (EV hn)) rfl)).trans f1)];rw[eU (bU (call2 rfl rfl dJ))];rfl
end Mr
namespace Mr
open PySem Mi
open My (words iR jE)
theorem Q7:("abcdefghijklmnopqrstuvwxyz" : Str).cps.toList=(bw 26).map (· + 97):=by decide +kernel
theorem QD{a b c:E}{e:Mi.Env}{i j k:Int}(ha:a e=.ok (.int i))(hb:b e=.ok (.int j))(hc:c e=.ok (.int k))(h1:i<=j)(h2:j<=k):vJ qG qG a b c e=.ok (.bl true):=by unfold vJ;rw[ha,aD,hb,aD];show(Rs.ok (D.bl (decide (i<=j)))).bind _=_;rw[cM h1,aD,sE,aD,aH rfl,hc,aD];show Rs.ok (D.bl (decide (j<=k)))=_;rw[cM h2]
theorem KI{l:List Nat}(hw:iR l):sM [.d (.str (S' l))]=.ok (.d (.bl true)):=by
 unfold sM Fy;rw[uT];rw[show([ab (W.d (.str (S' l)))]++cx (1-1) ae)=[ab (W.d (.str (S' l)))]from rfl];obtain⟨h1,h8,hl⟩:=hw;have hc:c9 (.n 0) cO (m2 bz (mV 0) (mC (.str "abcdefghijklmnopqrstuvwxyz"))) [ae] (l.map λc=>D.str (S' [c]))=.ok ((l.filter λ_=>true).map λc=>D.bl ((λ_=>true) c)):=
  gE (λc=>D.str (S' [c])) (λc=>D.bl ((λ_=>true) c)) (λ_=>true) l λc hcl=>⟨[ab (.d (.str (S' [c])))],rfl,rfl,λ_=>aA (x:=.str (S' [c])) rfl rfl (by
   show a9 ((S' [c]).length=1) (Rs.ok (D.bl (decide ((S' [c]).cps.getD 0 0∈("abcdefghijklmnopqrstuvwxyz" : Str).cps.toList))))=_;have hm:(S' [c]).cps.getD 0 0∈("abcdefghijklmnopqrstuvwxyz" : Str).cps.toList:=by rw[Q7];have:=hl c hcl;exact bu.mpr ⟨c-97,en.mpr (by omega),by show c-97+97=c;omega⟩
   rw[aO (by rw[j7];rfl),cM hm])⟩
 rw[mm.mpr (λ_ _=>rfl)]at hc;have h2:mN yl [(cq [ae] (bJ (mV 0)) (.n 0) cO (m2 bz (mV 0) (mC (.str "abcdefghijklmnopqrstuvwxyz"))))] [ab (W.d (.str (S' l)))]=.ok (.bl true):=by refine(iK (e9 (ρ:=[ae]) (eA (a:=mV 0) (x:=.str (S' l)) rfl rfl) (by rw[aQ,vd];omega) hc)).trans ?_;rw[Oc,DF,lG,aD,List.all_map];show Rs.ok (D.bl (l.all λ_=>true))=_;rw[ua.mpr (λ_ _=>rfl)]
 have h3:vJ qG qG (mC (.int 1)) (mN cH [(mV 0)]) (mC (.int 8)) [ab (W.d (.str (S' l)))]=.ok (.bl true):=QD (j:=((l.length:Nat):Int)) rfl ((iK (x:=.str (S' l)) rfl).trans (by rw[Mh,aO (by rw[j7];omega),j7])) rfl (by omega) (by omega);rw[eU (bU (xW h3 λ_=>h2))];rfl
def jT(p:Ar):List Ky:=[.inr p.1,.inr p.2]
theorem Ir{p q:Ar}(h:jT p=jT q):p=q:=by obtain⟨a,b⟩:=p;obtain⟨c,d⟩:=q;simp only[jT,nZ,Sum.inr.injEq,oZ]at h;rw[h.1,h.2]
def both(xs:List Ar):List Ar:=xs.flatMap λp=>[p,(p.2,p.1)]
end Mr
namespace Mr
open PySem Mi
open My (words iR jE)
def cV(p:Ar):List Str:=[p.1,p.2]
theorem ji.sorted{ac:List Str}{A:List Ix}{r:Nat->Int}(N:ji ac A r):(A.map (arrOf ac)).Pairwise λp q=>dR (ky ac (cV p)) (ky ac (cV q))=true:=by
 rw[iS];refine xx (λ{p q} hp hq h=>?_) N.dJ;have k:∀x:Ix,x∈A->ky ac (cV (arrOf ac x))=[((x.1:Nat):Int),((x.2:Nat):Int)]:=λx hx=>by
  obtain⟨h1,h2,_⟩:=N.all x hx;show[((ac.idxOf (nth ac x.1):Nat):Int),((ac.idxOf (nth ac x.2):Nat):Int)]=_;rw[lJ N.nd h1,lJ N.nd h2]
 rw[k p hp,k q hq];rcases h with h|⟨h1,h2⟩
 ·exact oI (rF.mpr h)
 ·rw[h1,sv];exact oI (rF.mpr h2)
def Gq:List Ix:=((bw 64).map λn=>(n/8,n%8)).filter λp=>decide (p.1≠p.2)
theorem O5:Gq.length=56:=by decide +kernel
theorem ji.few{ac:List Str}{A:List Ix}{r:Nat->Int}(N:ji ac A r):A.length<=56:=by
 have nd:A.Nodup:=N.dJ.imp λ{p q} h z=>by subst z;rcases h with h|⟨_,h⟩<;>omega
 have:=zq nd (L:=Gq) λp hp=>by
  obtain⟨h1,h2,h3⟩:=N.all p hp;have hn:=N.le;refine fG.mpr ⟨bu.mpr ⟨p.1*8+p.2,en.mpr (by omega),uv (by show(p.1*8+p.2)/8=p.1;omega) (by show(p.1*8+p.2)%8=p.2;omega)⟩,?_⟩;exact cM λz=>by rw[z]at h3;omega
 rw[O5]at this;exact this
theorem Qg{α:Type}(xs:List α)(k:Nat):j5 xs (ab (k:Int)) ae=xs.drop k:=by
 have e:c8 xs.length 0 (ab (k:Int))=min k xs.length:=by show(if(k:Int)<0 then((k:Int)+(xs.length:Int)).toNat else min (k:Int).toNat xs.length)=_;rw[ay (by omega),fR]
 unfold j5;rw[e,show c8 xs.length xs.length ae=xs.length from rfl];rcases Bv k xs.length with h|h
 ·rw[Bu h];exact pL (by rw[gc];exact ba _)
 ·rw[Bt h,Nat.sub_self,List.take_zero,nM h]
theorem H9:∀xs:List Str,j4 (xs.map D.str)=true
 |[]=>rfl
 |x::r=>by rw[bO,j4,H9 r];rfl
end Mr
namespace Mr
open PySem Mi
abbrev nn:D:=.lst [.str "NoName"]
end Mr
namespace Mr
open PySem Mi
open My (words iR jE)
theorem GP{α:Type}(f:α->Nat):∀(l m:List α),l.Pairwise (λa b=>f a<f b)->m.Pairwise (λa b=>f a<f b)->(∀x,x∈l↔x∈m)->l=m
 |[],[],_,_,_=>rfl
 |[],b::t,_,_,h=>nomatch (h b).mpr (ce ..)
 |a::r,[],_,_,h=>nomatch (h a).mp (ce ..)
 |a::r,b::t,hl,hm,h=>by
  have l1:=kA.mp hl;have m1:=kA.mp hm;have e:a=b:=by
   rcases bA.mp ((h a).mp (ce ..))with z|z
   ·exact z
   ·rcases bA.mp ((h b).mpr (ce ..))with y|y
    ·exact y.symm
    ·have k1:=m1.1 a z;have k2:=l1.1 b y;omega
  subst e;rw[GP f r t l1.2 m1.2 λx=>⟨λhx=>by
   rcases bA.mp ((h x).mp (c6 _ hx))with z|z
   ·have:=l1.1 x hx;rw[z]at this;omega
   ·exact z,λhx=>by
   rcases bA.mp ((h x).mpr (c6 _ hx))with z|z
   ·have:=m1.1 x hx;rw[z]at this;omega
   ·exact z⟩]
end Mr
namespace Mr
open PySem Mi
open My (words iR jE)
end Mr
namespace Mr
open PySem Mi
open My (words iR jE)
def ixs(ac:List Str)(B:List Ar):List Ix:=(bw ac.length).flatMap λi=>((bw ac.length).filter λj=>decide ((nth ac i,nth ac j)∈B)).map λj=>(i,j)
theorem G7(ac:List Str):(bw ac.length).map (nth ac)=ac:=by refine List.ext_getElem (by rw[aQ,t6]) λi h1 h2=>?_;rw[List.getElem_map,IM];unfold nth;rw[fh,fF h2];rfl
theorem tX(ac:List Str)(B:List Ar):(ixs ac B).map (arrOf ac)=dJ ac B:=by
 unfold ixs dJ;rw[qt];have e:ac.flatMap (λt=>(ac.filter λh=>decide ((t,h)∈B)).map λh=>(t,h))=((bw ac.length).map (nth ac)).flatMap (λt=>(ac.filter λh=>decide ((t,h)∈B)).map λh=>(t,h)):=by rw[G7]
 rw[e,List.flatMap_map];refine qE λi _=>?_;have e2:ac.filter (λh=>decide ((nth ac i,h)∈B))=((bw ac.length).map (nth ac)).filter (λh=>decide ((nth ac i,h)∈B)):=by rw[G7]
 rw[e2,List.filter_map,dj,dj];rfl
theorem vp{ac:List Str}{B:List Ar}{p:Ix}:p∈ixs ac B↔p.1<ac.length/\p.2<ac.length/\(nth ac p.1,nth ac p.2)∈B:=by
 unfold ixs;rw[pM];constructor
 ·rintro⟨i,hi,h⟩;obtain⟨j,hj,rfl⟩:=bu.mp h;obtain⟨h1,h2⟩:=fG.mp hj;exact⟨en.mp hi,en.mp h1,yz h2⟩
 ·rintro⟨h1,h2,h3⟩;exact⟨p.1,en.mpr h1,bu.mpr ⟨p.2,fG.mpr ⟨en.mpr h2,cM h3⟩,rfl⟩⟩
theorem ji.CZ{ac:List Str}{B:List Ar}(nd:ac.Nodup)(h1:1<=ac.length)(h8:ac.length<=8)(R:Rk B):∃r,ji ac (ixs ac B) r:=by
 obtain⟨k,hk⟩:=R;refine⟨λi=>k (nth ac i),nd,h1,h8,?_,λp hp=>?_,?_⟩
 ·unfold ixs;rw[nN];refine⟨λi _=>?_,?_⟩
  ·rw[iS];refine(BL _ mh).imp λ{a b} h=>?_;exact .inr ⟨rfl,h⟩
  ·refine mh.imp λ{a b} h=>?_;intro x hx y hy;obtain⟨j,_,rfl⟩:=bu.mp hx;obtain⟨j',_,rfl⟩:=bu.mp hy;exact .inl h
 ·obtain⟨a,b,c⟩:=vp.mp hp;exact⟨a,b,hk _ c⟩
 ·have:=EB h8 B;rw[<- tX,aQ]at this;exact this
theorem u0{α:Type}[DecidableEq α]:∀{l m:List α},l.Nodup->m.Nodup->(∀x,x∈l↔x∈m)->l.Perm m
 |[],m,_,_,h=>by
  cases m with
  |nil=>exact .nil
  |cons a r=>exact nomatch (h a).mpr (ce ..)
 |a::r,m,hl,hm,h=>by
  have l1:=jO.mp hl;have ha:=(h a).mp (ce ..);have p:=List.perm_cons_erase ha;refine(List.Perm.cons a (u0 l1.2 (hm.erase a) λx=>?_)).trans p.symm;rw[hm.mem_erase_iff];constructor
  ·exactλhx=>⟨λz=>l1.1 (z ▸ hx),(h x).mp (c6 _ hx)⟩
  ·rintro⟨h1,h2⟩;rcases bA.mp ((h x).mpr h2)with z|z
   ·exact absurd z h1
   ·exact z
theorem Dr{ac:List Str}(nd:ac.Nodup)(h8:ac.length<=8)(B:List Ar):(dJ ac B).Nodup:=by
 rw[<- tX];refine iS.mpr (xx (R:=cW) (λ{p q} hp hq h z=>?_) ?_)
 ·obtain⟨a,b,_⟩:=vp.mp hp;obtain⟨c,d,_⟩:=vp.mp hq;have e1:=oa nd a c (congrArg Prod.fst z);have e2:=oa nd b d (congrArg Prod.snd z);rcases h with h|⟨_,h⟩<;>omega
 ·unfold ixs;rw[nN];refine⟨λi _=>?_,?_⟩
  ·rw[iS];exact(BL _ mh).imp λ{a b} h=>.inr ⟨rfl,h⟩
  ·refine mh.imp λ{a b} h=>?_;intro x hx y hy;obtain⟨j,_,rfl⟩:=bu.mp hx;obtain⟨j',_,rfl⟩:=bu.mp hy;exact .inl h
structure Gd(ac:List Str)(ai:List Ar):Prop where
 nd:ac.Nodup
 pos:1<=ac.length
 le:ac.length<=8
 rk:Rk ai
 dJ:dJ ac ai=ai
 wd:∀x∈ac,sM [.d (.str x)]=.ok (.d (.bl true))
theorem Gd.inn{ac:List Str}{ai:List Ar}(G:Gd ac ai):∀p∈ai,p.1∈ac/\p.2∈ac:=λp hp=>by
 rw[<- G.dJ]at hp;exact(we.mp hp).2
theorem Gd.al{ac:List Str}{ai:List Ar}(G:Gd ac ai):ai.length<=64:=by rw[<- G.dJ];exact EB G.le _
theorem Gd.nt{ac:List Str}{ai:List Ar}(G:Gd ac ai):Nt ac ai:=⟨G.nd,G.le,G.al,G.inn,G.rk⟩
theorem Gd.nodup{ac:List Str}{ai:List Ar}(G:Gd ac ai):ai.Nodup:=by rw[<- G.dJ];exact Dr G.nd G.le _
theorem Qf(ai:List Ar)(p:Ar):eQ (pairD p) (aZ ai)=.ok (.bl (!decide (p∈ai))):=by have h:=vo ai p;exact h
end Mr
namespace Mr
open PySem Mi
open My (words iR jE)
end Mr
namespace Mr
open PySem Mi
open My (words iR jE)
theorem zJ(ai:List Ar)(a b:Str):tie ai a b=tie ai b a:=by unfold tie;rw[Bool.or_comm]
theorem lK{ai:List Ar}{a b:Str}:tie ai a b=true↔(a,b)∈ai\/(b,a)∈ai:=by unfold tie;rw[Bp,jm,jm]
theorem yp{ac:List Str}{a b:Str}(ha:a∈ac)(hb:b∈ac)(ne:a≠b):(a,b)∈prs ac\/(b,a)∈prs ac:=by
 obtain⟨i,hi,rfl⟩:=DY ha;obtain⟨j,hj,rfl⟩:=DY hb;rcases Nat.lt_trichotomy i j with h|h|h
 ·exact .inl (k5.mpr ⟨i,hi,rfl,GH h hj⟩)
 ·exact absurd (by rw[h]) ne
 ·exact .inr (k5.mpr ⟨j,hj,rfl,GH h hi⟩)
end Mr
namespace Mr
open PySem Mi
open My (words iR jE)
theorem Nf(xs ys:List Str):de (av xs) (av ys)=.ok (.bl (!decide (xs=ys))):=by unfold de av;rw[aO (by simp),bn,zI]
end Mr
namespace Mr
open PySem Mi
open My (words iR jE)
theorem ji.gd{ac:List Str}{A:List Ix}{r:Nat->Int}(N:ji ac A r)(hw:∀x∈ac,sM [.d (.str x)]=.ok (.d (.bl true))):Gd ac (A.map (arrOf ac)):=by
 refine⟨N.nd,N.pos,N.le,N.eD.rk,?_,hw⟩;rw[<- tX]
 congr 1
 refine(GP (λp:Ix=>p.1*8+p.2) _ _ ?_ ?_ λp=>?_)
 ·unfold ixs;have h8:=N.le;rw[nN];refine⟨λi _=>?_,?_⟩
  ·rw[iS];refine(BL _ mh).imp λ{a b} h=>?_;show i*8+a<i*8+b;omega
  ·refine mh.imp λ{a b} h=>?_;intro x hx y hy;obtain⟨j,hj,rfl⟩:=bu.mp hx;obtain⟨j',_,rfl⟩:=bu.mp hy;have:=en.mp (fG.mp hj).1;show a*8+j<b*8+j';omega
 ·refine N.dJ.imp_of_mem λ{p q} hp hq h=>?_;have h1:=(N.all p hp).2.1;have h8:=N.le;rcases h with h|⟨e,h⟩
  ·show p.1*8+p.2<q.1*8+q.2;omega
  ·show p.1*8+p.2<q.1*8+q.2;omega
 ·rw[vp];constructor
  ·rintro⟨h1,h2,h3⟩;obtain⟨q,hq,e⟩:=bu.mp h3;have e1:=oa N.nd (N.all q hq).1 h1 (congrArg Prod.fst e);have e2:=oa N.nd (N.all q hq).2.1 h2 (congrArg Prod.snd e);have:q=p:=uv e1 e2;rw[<- this];exact hq
  ·exactλh=>⟨(N.all p h).1,(N.all p h).2.1,bu.mpr ⟨p,h,rfl⟩⟩
end Mr
namespace Mr
open PySem Mi
open My (words iR jE)
end Mr
namespace Mr
open PySem Mi
def cS(r:List Str):D:=.tup (r.map D.str)
def rk(r:List Str):List Ky:=r.map gK
theorem yc:∀{a b:List Str},rk a=rk b->a=b
 |[],[],_=>rfl
 |[],_::_,h=>by cases h
 |_::_,[],h=>by cases h
 |x::a,y::b,h=>by
  unfold rk at h;simp only[bO,nZ,Sum.inr.injEq]at h;rw[h.1,yc (a:=a) (b:=b) h.2]
theorem v4:∀r:List Str,lQ (r.map D.str)=ab (rk r)
 |[]=>rfl
 |x::r=>by
  rw[bO,lQ,v4 r];rfl
def br(ks:List (List Str)):List (List Ky×D):=ks.map λk=>(rk k,D.bl true)
theorem DE(ks:List (List Str))(k:List Str):(iJ (br ks) (rk k)).isSome=decide (k∈ks):=by
 unfold iJ br
 induction ks with
 |nil=>rfl
 |cons a r ih=>
  rw[bO,kB];by_cases h:a=k
  ·subst h;simp
  ·rw[dC (λz:rk a=rk k=>h (yc z))];simp only[ih];simp[cR h]
def gL(ks:List (List Str))(k:List Str):List (List Str):=if k∈ks then ks else ks++[k]
theorem uF{ks:List (List Str)}{k x:List Str}:x∈gL ks k↔x∈ks\/x=k:=by
 unfold gL;split
 ·rename_i h;exact⟨.inl,λz=>z.elim id λe=>by rw[e];exact h⟩
 ·rw[fk,ej]
theorem vf(ks:List (List Str))(k:List Str):(gL ks k).length<=ks.length+1:=by
 unfold gL;split
 ·omega
 ·rw[dI];simp
theorem LO(ks:List (List Str))(k:List Str):Mi.putK (rk k) (D.bl true) (br ks)=br (gL ks k):=by
 unfold Mi.putK gL;have e:((br ks).any λkv=>decide (kv.1=rk k))=decide (k∈ks):=by
  unfold br;rw[ue]
  induction ks with
  |nil=>rfl
  |cons a r ih=>
   rw[iH,ih];simp only[xB,bA];by_cases h:a=k
   ·subst h;simp
   ·rw[dC (λz:rk a=rk k=>h (yc z))];simp[cR h]
 rw[e];by_cases h:k∈ks
 ·rw[aH (by simp[h]),aH h];unfold br;rw[dj];refine nO λx _=>?_;simp only[xB];split
  ·rename_i z;rfl
  ·rfl
 ·rw[ay (by simp[h]),ay h];unfold br;rw[iU];rfl
theorem wf{i:Nat}{k:E}{e:Mi.Env}{ks:List (List Str)}{r:List Str}(hk:k e=.ok (cS r))(hw:wV i e=.ok (.dt (br ks)))(hl:ks.length<=10000):fg i k (mC (.bl true)) e=.ok (.nx (e.set i (ab (.dt (br (gL ks r)))))):=by
 unfold fg;have h1:sS (.dt (br ks)) (cS r) (.bl true)=.ok (.dt (br (gL ks r))):=by unfold sS cS;dsimp only;rw[aO (by unfold br;rw[aQ];omega),v4];show Rs.ok (W.dt (Mi.putK (rk r) (D.bl true) (br ks)))=_;rw[LO]
 rw[show mC (.bl true) e=.ok (.bl true)from rfl,aD,hk,aD,hw,aD,h1];rfl
theorem F7(rows:List (List Str))(hr:∀r∈rows,r.length<=1000)(hl:rows.length<=1000):∃ks,iO [.d (.lst (rows.map cS))]=.ok (.dt (br ks))/\∀k,k∈ks↔∃r∈rows,k=r\/k=r.reverse:=by
 obtain⟨e',f1,ks,o2,he,h1,h2⟩:=fY (tg:=.n 2) (body:=(aF (fg 1 (mV 2) (mC (.bl true)))
 (fg 1 (m1 nk (mV 2)) (mC (.bl true)))))
  (λi e=>∃(ks:List (List Str)) (o2:Option W),e=[ab (.d (.lst (rows.map cS))),ab (.dt (br ks)),o2]/\ks.length<=2*i/\∀k,k∈ks↔∃r∈rows.take i,k=r\/k=r.reverse) (rows.map cS) 0 (λi d e hi ⟨ks,o2,he,h1,h2⟩=>by
   subst he;rw[dX]at h1 h2 ⊢;rw[c7]at hi;obtain⟨r,hp,rfl⟩:=gI.mp hi;have il:=(cu.mp hp).1;have rm:=fj hp;have l1:=vf ks r;have l2:=vf (gL ks r) r.reverse;refine⟨[ab (.d (.lst (rows.map cS))),ab (.dt (br ks)),ab (.d (cS r))],[ab (.d (.lst (rows.map cS))),ab (.dt (br (gL (gL ks r) r.reverse))),ab (.d (cS r))],rfl,?_,_,_,rfl,by omega,λk=>?_⟩
   ·rw[aK (wf (ks:=ks) (r:=r) rfl rfl (by omega))];refine wf (ks:=gL ks r) (r:=r.reverse) ?_ rfl (by omega);show nk (cS r)=_;unfold nk cS;dsimp only;rw[aO (by rw[aQ];exact hr r rm),List.map_reverse]
   ·rw[uF,uF,h2,Bg,hp];simp only[BD,fk,ej];constructor
    ·rintro((⟨x,hx,e⟩|e)|e)
     ·exact⟨x,.inl hx,e⟩
     ·exact⟨r,.inr rfl,.inl e⟩
     ·exact⟨r,.inr rfl,.inr e⟩
    ·rintro⟨x,hx|rfl,e⟩
     ·exact .inl (.inl ⟨x,hx,e⟩)
     ·rcases e with e|e
      ·exact .inl (.inr e)
      ·exact .inr e) [ab (.d (.lst (rows.map cS))),ab (.dt (br [])),ae] ⟨[],ae,rfl,by simp,by simp⟩
 subst he;refine⟨ks,?_,λk=>by rw[h2 k,dX,aQ,wU]⟩;unfold iO yT;rw[o0];rw[show([ab (W.d (.lst (rows.map cS)))]++cx (3-1) ae)=[ab (W.d (.lst (rows.map cS))),ae,ae]from rfl];rw[aK (e':=[ab (.d (.lst (rows.map cS))),ab (.dt (br [])),ae]) rfl];rw[aK ((eV (eA (x:=.lst (rows.map cS)) rfl rfl)).trans f1)];rfl
theorem Dt{i:Nat}{k:E}{e:Mi.Env}{ks:List (List Str)}{r:List Str}(hk:k e=.ok (cS r))(hw:wV i e=.ok (.df (br ks))):eF i k e=.ok (.bl (decide (r∈ks))):=by unfold eF;rw[hk,aD,hw,aD,<- DE];unfold r6 cS;dsimp only;rw[v4];rfl
theorem GO{i:Nat}{k:E}{e:Mi.Env}{ks:List (List Str)}{r:List Str}(hk:k e=.ok (cS r))(hw:wV i e=.ok (.df (br ks))):gX i k e=.ok (.bl (!decide (r∈ks))):=by unfold gX;rw[hk,aD,hw,aD,<- DE];unfold r6 cS;dsimp only;rw[v4];rfl
abbrev fQ:=List (Ar×D)
def dS(told:fQ):List (List Ky×D):=told.map λt=>(jT t.1,t.2)
def bG(told:fQ):List Ar:=told.map (·.1)
theorem FE(told:fQ)(p:Ar):(iJ (dS told) (jT p)).isSome=decide (p∈bG told):=by
 unfold iJ dS bG
 induction told with
 |nil=>rfl
 |cons a r ih=>
  rw[bO,kB,bO];by_cases h:a.1=p
  ·rw[cM (by rw[h]:jT a.1=jT p)];simp[h]
  ·rw[dC (λz:jT a.1=jT p=>h (Ir z))];simp only[ih];simp[cR h]
theorem vK{i:Nat}{k:E}{e:Mi.Env}{told:fQ}{p:Ar}(hk:k e=.ok (pairD p))(hw:wV i e=.ok (.dt (dS told))):eF i k e=.ok (.bl (decide (p∈bG told))):=by unfold eF;rw[hk,aD,hw,aD,<- FE];rfl
theorem N9{i:Nat}{k:E}{e:Mi.Env}{told:fQ}{p:Ar}(hk:k e=.ok (pairD p))(hw:wV i e=.ok (.dt (dS told))):gX i k e=.ok (.bl (!decide (p∈bG told))):=by unfold gX;rw[hk,aD,hw,aD,<- FE];rfl
theorem Io{a b c:E}{e:Mi.Env}{x y z:Str}(h:a e=.ok (.str x))(h':b e=.ok (.str y))(h'':c e=.ok (.str z)):mN dTup [a,b,c] e=.ok (cS [x,y,z]):=(zv h h' h'').trans (aO (by show(3:Nat)<=_;decide))
theorem Dh{a b:E}{e:Mi.Env}{x y:Str}(h:a e=.ok (.str x))(h':b e=.ok (.str y)):mN dTup [a,b] e=.ok (cS [x,y]):=dZ h h'
theorem KD(n:Nat)(b:S)(a0 a1 a2 a3 a4:W):eI 5 n b [a0,a1,a2,a3,a4]=(b ([ab a0,ab a1,ab a2,ab a3,ab a4]++cx (n-5) ae)).bind lc:=aO rfl
theorem QA(n:Nat)(b:S)(a0 a1 a2 a3 a4 a5:W):fq 6 n b [a0,a1,a2,a3,a4,a5]=(b ([ab a0,ab a1,ab a2,ab a3,ab a4,ab a5]++cx (n-6) ae)).bind jZ:=aO rfl
def qr(KT KC:List (List Str))(a m b:Str):Bool:=(!decide (a=b))&&((!decide ([a,b]∈KT))&&(!decide ([a,m,b]∈KC)))
theorem Ds(KT KC:List (List Str))(a m b:Str):kI [.d (.str a),.d (.str m),.d (.str b),.df (br KT),.df (br KC)]=.ok (.d (.bl (qr KT KC a m b))):=by unfold kI F8;rw[KD];rw[show([ab (W.d (.str a)),ab (.d (.str m)),ab (.d (.str b)),ab (.df (br KT)),ab (.df (br KC))]++cx (5-5) ae)=[ab (W.d (.str a)),ab (.d (.str m)),ab (.d (.str b)),ab (.df (br KT)),ab (.df (br KC))]from rfl];rw[eU (bU (xW (aA rfl rfl (Nb a b)) λ_=>xW (GO (ks:=KT) (r:=[a,b]) (Dh rfl rfl) rfl) λ_=>GO (ks:=KC) (r:=[a,m,b]) (Io rfl rfl rfl) rfl))];rfl
end Mr
namespace Mr
open PySem Mi
theorem Lg{ac:List Str}{a b:E}{e:Mi.Env}{k:Nat}(hk:k<ac.length)(hn:ac.length<=8)(ha:a e=.ok (az ac))(hb:b e=.ok (.int (k:Nat))):bJ (d5 kK a (ab (m2 bq b (mC (.int 1)))) ae) e=.ok ((ac.drop (k+1)).map D.str):=by
 have sl:d5 kK a (ab (m2 bq b (mC (.int 1)))) ae e=.ok (.lst ((ac.map D.str).drop (k+1))):=by rw[DM ha (aA (a:=b) (b:=mC (.int 1)) (x:=.int (k:Nat)) (y:=.int 1) hb rfl rfl)];show Rs.ok (D.lst (j5 (ac.map D.str) (ab ((k:Nat)+1:Int)) ae))=_;rw[show((k:Nat):Int)+1=((k+1:Nat):Int)by omega,Qg]
 rw[eA sl rfl,List.map_drop]
theorem Ob{ac:List Str}(hn:ac.length<=8):iP [.d (az ac)]=.ok (.d (bL (prs ac))):=by
 unfold iP yx;rw[o0];have epr:(prs ac).map pairD=(bw ac.length).flatMap λk=>(ac.drop (k+1)).map λb=>pairD (nth ac k,b):=by unfold prs;rw[qt];refine qE λk _=>?_;rw[dj];rfl
 have uA:((prs ac).map pairD).length<=64:=by rw[aQ];exact mY hn
 rw[epr]at uA;obtain⟨e',f1,o2,o3,he⟩:=tM (tg:=.t [2,3]) (body:=(m6 1 (cq [ab 3,ae] (bJ (d5 kK (mV 0) (ab (m2 bq (mV 2) (mC (.int 1)))) ae)) (.n 1) cO (mN dTup [(mV 0),(mV 1)]))))
  (λk:Nat=>D.tup [.int (k:Nat),.str (nth ac k)]) (λk=>(ac.drop (k+1)).map λb=>pairD (nth ac k,b))
  (λacc e=>∃o2 o3:Option W,e=[ab (.d (az ac)),ab (.d (.lst acc)),o2,o3]) (bw ac.length) [] [ab (.d (az ac)),ab (.d (.lst [])),ae,ae] (by simp only[pN];omega) ⟨ae,ae,rfl⟩
  (λk hk acc e hl ⟨o2,o3,he⟩=>by
   subst he;have hk:=en.mp hk;refine⟨[ab (.d (az ac)),ab (.d (.lst acc)),ab (.d (.int (k:Nat))),ab (.d (.str (nth ac k)))],putL [ab (.d (az ac)),ab (.d (.lst acc)),ab (.d (.int (k:Nat))),ab (.d (.str (nth ac k)))] 1 (acc++(ac.drop (k+1)).map λb=>pairD (nth ac k,b)),rfl,?_,_,_,rfl⟩;have hc:c9 (.n 1) cO (mN dTup [(mV 0),(mV 1)]) [ab (.d (.str (nth ac k))),ae] ((ac.drop (k+1)).map D.str)=.ok (((ac.drop (k+1)).filter λ_=>true).map λb=>pairD (nth ac k,b)):=
    gE D.str (λb=>pairD (nth ac k,b)) (λ_=>true) _ λb _=>⟨[ab (.d (.str (nth ac k))),ab (.d (.str b))],rfl,rfl,λ_=>dZ rfl rfl⟩
   rw[mm.mpr (λ_ _=>rfl)]at hc;exact yD (e9 (ρ:=[ab 3,ae]) (Lg hk hn rfl rfl) (by rw[aQ,gc];omega) hc) rfl hl)
 subst he;rw[show([ab (W.d (az ac))]++cx (4-1) ae)=[ab (W.d (az ac)),ae,ae,ae]from rfl];rw[aK (e':=[ab (.d (az ac)),ab (.d (.lst [])),ae,ae]) (bN (lF _))];have hit:oo (mV 0) [ab (.d (az ac)),ab (.d (.lst [])),ae,ae]=.ok ((bw ac.length).map λk=>D.tup [.int (k:Nat),.str (nth ac k)]):=by rw[<- y7];rfl
 rw[aK ((eV hit).trans f1)];unfold bL;rw[epr];rfl
structure Dc(ac:List Str)(A:List Ar)(KT KC:List (List Str)):Prop where
 kt:∀a∈ac,∀b∈ac,a≠b->([a,b]∈KT↔tie A a b=true)
 ktm:∀k∈KT,∃a b,k=[a,b]/\a∈ac/\b∈ac/\a≠b/\tie A a b=true
 kc:∀a∈ac,∀m∈ac,∀b∈ac,[a,m,b]∈KC↔a≠b/\ir A a m b=true
def gT(t h s:Str)(x:List Str):D:=.tup [.str t,.str h,.str s,.tup (x.map D.str)]
inductive Rl(ac:List Str)(A P:List Ar)(t h:Str):Str->List Str->Prop
 |n9 {z:Str} (zn:z∈ac) (ne:t≠z) (c:ir A t h z=true):Rl ac A P t h "corner" [z]
 |on {z:Str} (zn:z∈ac) (ne:z≠h) (nt:tie A z h=false) (nc:ir A z t h=false) (p:(z,t)∈P):Rl ac A P t h "on" [z]
 |over {z:Str} (zn:z∈ac) (p:(t,z)∈P) (q:(z,h)∈P):Rl ac A P t h "over" [z]
 |both {z w:Str} (zn:z∈ac) (wn:w∈ac) (ne:z≠w) (nt:tie A z w=false) (nc:ir A z t w=false) (t1:tie A z t=true) (t2:tie A w t=true) (p:(z,h)∈P) (q:(w,h)∈P):Rl ac A P t h "both" [z,w]
structure Gr(ac:List Str)(A P:List Ar)(t h:Str)(rows:List D):Prop where
 sh:∀r∈rows,∃s x,r=gT t h s x/\Rl ac A P t h s x
 so:rows≠[]->(t,h)∈A
theorem Gr.nil(ac:List Str)(A P:List Ar)(t h:Str):Gr ac A P t h []:=⟨λ_ z=>(nomatch z),λz=>(z rfl).elim⟩
theorem Gr.add{ac:List Str}{A P:List Ar}{t h:Str}{rows:List D}(g:Gr ac A P t h rows){p:Bool}{s:Str}{x:List Str}(hp:p=true->(t,h)∈A/\Rl ac A P t h s x):Gr ac A P t h (rows++if p then[gT t h s x]else[]):=by
 cases p with
 |false=>simpa using g
 |true=>
  refine⟨λr hr=>?_,λ_=>(hp rfl).1⟩;rcases fk.mp hr with z|z
  ·exact g.sh r z
  ·exact⟨s,x,ej.mp z,(hp rfl).2⟩
theorem NA{f:List D->Rs D}{a b c d:E}{e:Mi.Env}{x y z w:D}(h:a e=.ok x)(h':b e=.ok y)(h'':c e=.ok z)(h3:d e=.ok w):mN f [a,b,c,d] e=f [x,y,z,w]:=by unfold mN;rw[fN,h,aD,fN,h',aD,fN,h'',aD,fN,h3];rfl
theorem uP{a b c d:E}{e:Mi.Env}{t h s:Str}{x:List Str}(h1:a e=.ok (.str t))(h2:b e=.ok (.str h))(h3:c e=.ok (.str s))(h4:d e=.ok (.tup (x.map D.str))):mN dTup [a,b,c,d] e=.ok (gT t h s x):=(NA h1 h2 h3 h4).trans (aO (by show(4:Nat)<=_;decide))
theorem z7{a:E}{e:Mi.Env}{x:Str}(h:a e=.ok (.str x)):mN dTup [a] e=.ok (.tup ([x].map D.str)):=(iK h).trans (aO (by show(1:Nat)<=_;decide))
section
variable{ac:List Str}{A:List Ar}{KT KC:List (List Str)}(N:Nt ac A)(D':Dc ac A KT KC){told:fQ}(ht:∀p∈bG told,p∈A){t h:Str}(tn:t∈ac)(hn:h∈ac)(th:tie A t h=true)
theorem y9{A:List Ar}(R:Rk A){a b:Str}(h:(a,b)∈A):(b,a)∉A:=λz=>by
 obtain⟨r,hr⟩:=R;have h1:=hr _ h;have h2:=hr _ z;simp only at h1 h2;omega
include N D' tn hn th in
theorem OI{x:Str}(xn:x∈ac)(hx:[t,h,x]∈KC):(t,h)∈A/\Rl ac A (bG told) t h "corner" [x]:=⟨(u8.mp ((D'.kc t tn h hn x xn).mp hx).2).1,.n9 xn ((D'.kc t tn h hn x xn).mp hx).1 ((D'.kc t tn h hn x xn).mp hx).2⟩
include N D' ht tn hn th in
theorem LW{x:Str}(xn:x∈ac)(h1:(x,t)∈bG told)(h2:qr KT KC x t h=true):(t,h)∈A/\Rl ac A (bG told) t h "on" [x]:=by
 unfold qr at h2;simp only[g6,uh,qQ]at h2;obtain⟨n1,n2,n3⟩:=h2;have nt:¬ tie A x h=true:=λy=>n2 ((D'.kt x xn h hn n1).mpr y);have nc:¬ ir A x t h=true:=λy=>n3 ((D'.kc x xn t tn h hn).mpr ⟨n1,y⟩);refine⟨?_,.on xn n1 (rE _ ▸ nt) (rE _ ▸ nc) h1⟩;rcases lK.mp th with z|z
 ·exact z
 ·rw[lK]at nt;exact absurd (u8.mpr ⟨ht _ h1,z,λy=>nt (.inl y),λy=>nt (.inr y)⟩) nc
include N ht th in
theorem Qm{x:Str}(xn:x∈ac)(h1:(t,x)∈bG told)(h2:(x,h)∈bG told):(t,h)∈A/\Rl ac A (bG told) t h "over" [x]:=by
 refine⟨?_,.over xn h1 h2⟩;rcases lK.mp th with z|z
 ·exact z
 ·obtain⟨r,hr⟩:=N.rk;have a1:=hr _ (ht _ h1);have a2:=hr _ (ht _ h2);have a3:=hr _ z;simp only at a1 a2 a3;omega
include N D' ht tn hn th in
theorem Kv{x y:Str}(xn:x∈ac)(yn:y∈ac)(h1:(x,h)∈bG told)(h2:(y,h)∈bG told)(k1:[x,t]∈KT)(k2:[y,t]∈KT)(h3:qr KT KC x t y=true):(t,h)∈A/\Rl ac A (bG told) t h "both" [x,y]:=by
 unfold qr at h3;simp only[g6,uh,qQ]at h3;obtain⟨n1,n2,n3⟩:=h3;have nt:¬ tie A x y=true:=λq=>n2 ((D'.kt x xn y yn n1).mpr q);have nc:¬ ir A x t y=true:=λq=>n3 ((D'.kc x xn t tn y yn).mpr ⟨n1,q⟩);have tt:∀w,[w,t]∈KT->tie A w t=true:=λw kw=>by
  obtain⟨a,b,e,_,_,_,q⟩:=D'.ktm _ kw;cases e;exact q
 refine⟨?_,.both xn yn n1 (rE _ ▸ nt) (rE _ ▸ nc) (tt x k1) (tt y k2) h1 h2⟩;rcases lK.mp th with z|z
 ·exact z
 ·obtain⟨r,hr⟩:=N.rk;have a3:=hr _ z;have into:∀w,(w,h)∈bG told->[w,t]∈KT->(w,t)∈A:=λw hw kw=>by
   rcases lK.mp (tt w kw)with q|q
   ·exact q
   ·have a1:=hr _ (ht _ hw);have a2:=hr _ q;simp only at a1 a2 a3;omega
  rw[lK]at nt;exact absurd (u8.mpr ⟨into x h1 k1,into y h2 k2,λq=>nt (.inl q),λq=>nt (.inr q)⟩) nc
end
end Mr
namespace Mr
open PySem Mi
theorem FV{f:Fn}{a b c d g:EW}{e:Mi.Env}{x y z u v:W}{o:D}(h1:a e=.ok x)(h2:b e=.ok y)(h3:c e=.ok z)(h4:d e=.ok u)(h5:g e=.ok v)(hf:f [x,y,z,u,v]=.ok (.d o)):be f [a,b,c,d,g] e=.ok o:=by unfold be iB;rw[cP,h1,aD,cP,h2,aD,cP,h3,aD,cP,h4,aD,cP,h5];simp only[aD,cP,hf,uQ]
section
variable{ac:List Str}{A:List Ar}{KT KC:List (List Str)}
def iy(t h:Str)(ac:List Str)(KT KC:List (List Str))(told:fQ)(rows:List D)(o7 o8 o9:Option W):Mi.Env:=[ab (.d (.str t)),ab (.d (.str h)),ab (.d (av ac)),ab (.df (br KT)),ab (.df (br KC)),ab (.dt (dS told)),ab (.d (.lst rows)),o7,o8,o9]
theorem OF(N:Nt ac A)(D':Dc ac A KT KC){told:fQ}(ht:∀p∈bG told,p∈A){t h:Str}(tn:t∈ac)(hn:h∈ac)(th:tie A t h=true) :
 ∃rows,oE [.d (.str t),.d (.str h),.d (av ac),.df (br KT),.df (br KC),.dt (dS told)]=.ok (.d (.lst rows))/\Gr ac A (bG told) t h rows:=by
 obtain⟨e1,f1,uB,o7,he1,g1,l1⟩:=fY (tg:=.n 7) (body:=(aF (bh (cB (eF 4 (mN dTup [(mV 0),(mV 1),(mV 7)])))
 (eM 6 (mN dTup [(mV 0),(mV 1),(mC (.str "corner")),(mN dTup [(mV 7)])]))
 bp)
 (aF (bh (dY (cB (eF 5 (mN dTup [(mV 7),(mV 0)]))) (cB (be kI [(wD (mV 7)),(wD (mV 0)),(wD (mV 1)),(wV 3),(wV 4)])))
 (eM 6 (mN dTup [(mV 0),(mV 1),(mC (.str "on")),(mN dTup [(mV 7)])]))
 bp)
 (bh (dY (cB (eF 5 (mN dTup [(mV 0),(mV 7)]))) (cB (eF 5 (mN dTup [(mV 7),(mV 1)]))))
 (eM 6 (mN dTup [(mV 0),(mV 1),(mC (.str "over")),(mN dTup [(mV 7)])]))
 bp))))
  (λi e=>∃(rows:List D) (o7:Option W),e=iy t h ac KT KC told rows o7 ae ae/\Gr ac A (bG told) t h rows/\rows.length<=3*i) (ac.map D.str) 0 (λi d e hi ⟨rows,o7,he,g,l⟩=>by
   subst he;rw[dX]at l ⊢;rw[c7]at hi;obtain⟨x,hp,rfl⟩:=gI.mp hi;have xn:=fj hp;have il:=(cu.mp hp).1;have i8:=N.le;have s1:=vv (i:=6) (a:=mN dTup [(mV 0),(mV 1),(mC (.str "corner")),(mN dTup [(mV 7)])]) (bI (Dt (i:=4) (k:=mN dTup [(mV 0),(mV 1),(mV 7)]) (e:=iy t h ac KT KC told rows (ab (.d (.str x))) ae ae) (ks:=KC) (r:=[t,h,x]) (Io rfl rfl rfl) rfl)) (d:=gT t h "corner" [x]) (λ_=>uP rfl rfl rfl (z7 rfl)) (ds:=rows) rfl (by split<;>simp<;>omega) rfl;obtain⟨p1,hp1⟩ : ∃p,p=decide ([t,h,x]∈KC):=⟨_,rfl⟩;rw[<- hp1]at s1;obtain⟨r1,hr1⟩ : ∃r,r=rows++if p1 then[gT t h "corner" [x]]else[]:=⟨_,rfl⟩;rw[<- hr1]at s1;have g1:Gr ac A (bG told) t h r1:=by rw[hr1];exact g.add λz=>OI N D' tn hn th xn (by rw[hp1]at z;exact yz z)
   have l1:r1.length<=rows.length+1:=by rw[hr1,dI];split<;>simp
   have s2:=vv (i:=6) (a:=mN dTup [(mV 0),(mV 1),(mC (.str "on")),(mN dTup [(mV 7)])]) (qq (a:=cB (eF 5 (mN dTup [(mV 7),(mV 0)]))) (b:=cB (be kI [(wD (mV 7)),(wD (mV 0)),(wD (mV 1)),(wV 3),(wV 4)])) (e:=iy t h ac KT KC told r1 (ab (.d (.str x))) ae ae) (bI (vK (told:=told) (p:=(x,t)) (dZ rfl rfl) rfl)) λ_=>bI (FV rfl rfl rfl rfl rfl (Ds KT KC x t h))) (d:=gT t h "on" [x]) (λ_=>uP rfl rfl rfl (z7 rfl)) (ds:=r1) rfl (by split<;>simp<;>omega) rfl;obtain⟨p2,hp2⟩ : ∃p,p=(decide ((x,t)∈bG told)&&qr KT KC x t h):=⟨_,rfl⟩;rw[<- hp2]at s2;obtain⟨r2,hr2⟩ : ∃r,r=r1++if p2 then[gT t h "on" [x]]else[]:=⟨_,rfl⟩;rw[<- hr2]at s2;have g2:Gr ac A (bG told) t h r2:=by rw[hr2];refine g1.add λz=>?_;rw[hp2,g6,fV]at z;exact LW N D' ht tn hn th xn z.1 z.2
   have l2:r2.length<=r1.length+1:=by rw[hr2,dI];split<;>simp
   have s3:=vv (i:=6) (a:=mN dTup [(mV 0),(mV 1),(mC (.str "over")),(mN dTup [(mV 7)])]) (qq (a:=cB (eF 5 (mN dTup [(mV 0),(mV 7)]))) (b:=cB (eF 5 (mN dTup [(mV 7),(mV 1)]))) (e:=iy t h ac KT KC told r2 (ab (.d (.str x))) ae ae) (bI (vK (told:=told) (p:=(t,x)) (dZ rfl rfl) rfl)) λ_=>bI (vK (told:=told) (p:=(x,h)) (dZ rfl rfl) rfl)) (d:=gT t h "over" [x]) (λ_=>uP rfl rfl rfl (z7 rfl)) (ds:=r2) rfl (by split<;>simp<;>omega) rfl;obtain⟨p3,hp3⟩ : ∃p,p=(decide ((t,x)∈bG told)&&decide ((x,h)∈bG told)):=⟨_,rfl⟩;rw[<- hp3]at s3;obtain⟨r3,hr3⟩ : ∃r,r=r2++if p3 then[gT t h "over" [x]]else[]:=⟨_,rfl⟩;rw[<- hr3]at s3;have g3:Gr ac A (bG told) t h r3:=by rw[hr3];refine g2.add λz=>?_;rw[hp3,g6,fV,fV]at z;exact Qm N ht th xn z.1 z.2
   have l3:r3.length<=r2.length+1:=by rw[hr3,dI];split<;>simp
   exact⟨iy t h ac KT KC told rows (ab (.d (.str x))) ae ae,iy t h ac KT KC told r3 (ab (.d (.str x))) ae ae,rfl,(aK s1).trans ((aK s2).trans s3),r3,_,rfl,g3,by omega⟩) (iy t h ac KT KC told [] ae ae ae) ⟨[],ae,rfl,Gr.nil ac A (bG told) t h,by simp⟩
 subst he1;have i8:=N.le;rw[dX,aQ]at l1;obtain⟨kF,Ch⟩ : ∃l,l=ac.filter λn=>decide ((n,h)∈bG told)&&decide ([n,t]∈KT):=⟨_,rfl⟩;have cm:c9 (.n 4) (dY (cB (eF 0 (mN dTup [(mV 4),(mV 2)]))) (cB (eF 1 (mN dTup [(mV 4),(mV 3)])))) (mV 4) [ab (.dt (dS told)),ab (.df (br KT)),ab (.d (.str h)),ab (.d (.str t)),ae] (ac.map D.str)=.ok (kF.map D.str):=by rw[Ch];exact gE D.str D.str _ ac λn _=>⟨[ab (.dt (dS told)),ab (.df (br KT)),ab (.d (.str h)),ab (.d (.str t)),ab (.d (.str n))],rfl,qq (bI (vK (told:=told) (p:=(n,h)) (dZ rfl rfl) rfl)) λ_=>bI (Dt (ks:=KT) (r:=[n,t]) (Dh rfl rfl) rfl),λ_=>rfl⟩
 have s8:=bN (i:=8) (e9 (ρ:=[ab 5,ab 3,ab 1,ab 0,ae]) (e:=iy t h ac KT KC told uB o7 ae ae) (eA (a:=mV 2) (x:=av ac) rfl rfl) (by rw[aQ];omega) cm);have nl:kF.length<=8:=by rw[Ch];exact dw (mi _ _) N.le
 have nm:∀n∈kF,n∈ac/\(n,h)∈bG told/\[n,t]∈KT:=λn z=>by
  rw[Ch]at z;obtain⟨z1,z2⟩:=fG.mp z;rw[g6,fV,fV]at z2;exact⟨z1,z2.1,z2.2⟩
 have pl:=mY nl;obtain⟨e2,f2,Sb,o72,o92,he2,g2,l2⟩:=fY (tg:=.t [7,9]) (body:=(bh (cB (be kI [(wD (mV 7)),(wD (mV 0)),(wD (mV 9)),(wV 3),(wV 4)]))
 (eM 6 (mN dTup [(mV 0),(mV 1),(mC (.str "both")),(mN dTup [(mV 7),(mV 9)])]))
 bp))
  (λi e=>∃(rows:List D) (o7 o9:Option W),e=iy t h ac KT KC told rows o7 (ab (.d (az kF))) o9/\Gr ac A (bG told) t h rows/\rows.length<=24+i) ((prs kF).map pairD) 0 (λi d e hi ⟨rows,o7,o9,he,g,l⟩=>by
   subst he;rw[dX]at l ⊢;rw[c7]at hi;obtain⟨p,hp,rfl⟩:=gI.mp hi;have il:=(cu.mp hp).1;obtain⟨x1,x2⟩:=pb (fj hp);have s1:=vv (i:=6) (a:=mN dTup [(mV 0),(mV 1),(mC (.str "both")),(mN dTup [(mV 7),(mV 9)])]) (bI (FV (f:=kI) (a:=wD (mV 7)) (b:=wD (mV 0)) (c:=wD (mV 9)) (d:=wV 3) (g:=wV 4) (e:=iy t h ac KT KC told rows (ab (.d (.str p.1))) (ab (.d (az kF))) (ab (.d (.str p.2)))) rfl rfl rfl rfl rfl (Ds KT KC p.1 t p.2))) (d:=gT t h "both" [p.1,p.2]) (λ_=>uP rfl rfl rfl (dZ rfl rfl)) (ds:=rows) rfl (by split<;>simp<;>omega) rfl;refine⟨iy t h ac KT KC told rows (ab (.d (.str p.1))) (ab (.d (az kF))) (ab (.d (.str p.2))),_,rfl,s1,_,_,_,rfl,g.add λz=>?_,?_⟩
   ·exact Kv N D' ht tn hn th (nm _ x1).1 (nm _ x2).1 (nm _ x1).2.1 (nm _ x2).2.1 (nm _ x1).2.2 (nm _ x2).2.2 z
   ·rw[dI];split<;>simp<;>omega) (iy t h ac KT KC told uB o7 (ab (.d (az kF))) ae) ⟨uB,_,ae,rfl,g1,by omega⟩
 subst he2;refine⟨Sb,?_,g2⟩;unfold oE Gx;rw[QA];rw[show([ab (W.d (.str t)),ab (W.d (.str h)),ab (W.d (av ac)),ab (W.df (br KT)),ab (W.df (br KC)),ab (W.dt (dS told))]++cx (10-6) ae)=[ab (W.d (.str t)),ab (W.d (.str h)),ab (W.d (av ac)),ab (W.df (br KT)),ab (W.df (br KC)),ab (W.dt (dS told)),ae,ae,ae,ae]from rfl];rw[aK (e':=iy t h ac KT KC told [] ae ae ae) (bN (lF _))];rw[aK ((eV (eA (x:=av ac) rfl rfl)).trans f1)];rw[aK s8];rw[show((iy t h ac KT KC told uB o7 ae ae).set 8 (ab (W.d (D.lst (kF.map D.str)))))=iy t h ac KT KC told uB o7 (ab (.d (az kF))) ae from rfl];rw[aK ((eV (eA (l0 (f:=iP) (a:=wD (mV 8)) rfl (Ob nl)) rfl)).trans f2)];rfl
end
end Mr
namespace Mr
open PySem Mi
theorem KN{f:Fn}{a b c d g k:EW}{e:Mi.Env}{x y z u v w:W}{rows:List D}(h1:a e=.ok x)(h2:b e=.ok y)(h3:c e=.ok z)(h4:d e=.ok u)(h5:g e=.ok v)(h6:k e=.ok w)(hf:f [x,y,z,u,v,w]=.ok (.d (.lst rows)))(hi:j4 rows=true):sx f [a,b,c,d,g,k] e=.ok (.lst rows):=by unfold sx iB;rw[cP,h1,aD,cP,h2,aD,cP,h3,aD,cP,h4,aD,cP,h5,aD,cP,h6];simp only[aD,cP,hf,Fj,aO hi]
theorem QG(t h s:Str)(x:List Str):lD (gT t h s x)=true:=by unfold gT;simp[lD,j4,H9]
theorem Gr.lD{ac:List Str}{A P:List Ar}{t h:Str}:∀{rows:List D},(∀r∈rows,∃s x,r=gT t h s x/\Rl ac A P t h s x)->j4 rows=true
 |[],_=>rfl
 |r::rows,g=>by
  obtain⟨s,x,e,_⟩:=g r ce;rw[j4,g6];exact⟨by rw[e];exact QG t h s x,Gr.lD λq hq=>g q (c6 _ hq)⟩
structure Gt(ac:List Str)(A:List Ar)(told:fQ):Prop where
 nd:(bG told).Nodup
 sub:∀p∈bG told,p∈A
 ord:∀i q,told[i]? = ab q->∃s x,q.2=gT q.1.1 q.1.2 s x/\Rl ac A (bG (told.take i)) q.1.1 q.1.2 s x
theorem Gt.nil(ac:List Str)(A:List Ar):Gt ac A []:=⟨.nil,λ_ z=>(nomatch z),λ_ _ z=>(nomatch z)⟩
theorem Gt.sh{ac:List Str}{A:List Ar}{told:fQ}(g:Gt ac A told):∀q∈told,∃s x,q.2=gT q.1.1 q.1.2 s x:=λq hq=>by
 obtain⟨i,hi⟩:=mj hq;obtain⟨s,x,e,_⟩:=g.ord i q hi;exact⟨s,x,e⟩
theorem Gt.len{ac:List Str}{A:List Ar}{told:fQ}(g:Gt ac A told)(hA:A.length<=64):told.length<=64:=by have:=lH g.nd g.sub;unfold bG at this;rw[aQ]at this;omega
theorem O1(told:fQ)(p:Ar)(v:D)(hn:p∉bG told):Mi.putK (jT p) v (dS told)=dS (told++[(p,v)]):=by
 unfold Mi.putK;rw[ay (by
  unfold dS;rw[ue,rE,Ba];intro z hz;simp only[xB,fV];exactλq=>hn (by unfold bG;rw[<- Ir q];exact jN hz))]
 unfold dS;rw[iU];rfl
theorem Rr{i:Nat}{k v:E}{e:Mi.Env}{told:fQ}{p:Ar}{x:D}(hv:v e=.ok x)(hk:k e=.ok (pairD p))(hw:wV i e=.ok (.dt (dS told)))(hn:p∉bG told)(hl:told.length<=1000):fg i k v e=.ok (.nx (e.set i (ab (.dt (dS (told++[(p,x)])))))):=by
 unfold fg;have h1:sS (.dt (dS told)) (pairD p) x=.ok (.dt (dS (told++[(p,x)]))):=by show a9 ((dS told).length<16777216) (Rs.ok (W.dt (Mi.putK (jT p) x (dS told))))=_;rw[aO (by unfold dS;rw[aQ];omega),O1 told p x hn]
 rw[hv,aD,hk,aD,hw,aD,h1];rfl
section
variable{ac:List Str}{A:List Ar}{KT KC:List (List Str)}{T Cn:D}
def fK(ac:List Str)(T Cn:D)(KT KC:List (List Str))(told:fQ)(ob:D)(o7 o8 o9:Option W):Mi.Env:=[ab (.d (av ac)),ab (.d T),ab (.d Cn),ab (.df (br KT)),ab (.df (br KC)),ab (.dt (dS told)),ab (.d ob),o7,o8,o9]
abbrev uE:S:=(bh (cB (gX 5 (mN dTup [(mV 7),(mV 8)])))
 (aF (a6 9 (sx oE [(wD (mV 7)),(wD (mV 8)),(wD (mV 0)),(wV 3),(wV 4),(wV 5)]))
 (bh (mZ (mV 9))
 (fg 5 (mN dTup [(mV 7),(mV 8)]) (m2 aG (mV 9) (mC (.int 0))))
 bp))
 bp)
theorem N8(N:Nt ac A)(D':Dc ac A KT KC){told:fQ}(g:Gt ac A told)(ob:D)(o7 o8 o9:Option W):∃eg o7' o8' o9',ii (.t [7,8]) uE (KT.map cS) (fK ac T Cn KT KC told ob o7 o8 o9)=.ok (.nx (fK ac T Cn KT KC eg ob o7' o8' o9'))/\Gt ac A eg/\told.length<=eg.length:=by
 obtain⟨e',f1,eg,o7',o8',o9',he,g',l'⟩:=fY (tg:=.t [7,8]) (body:=uE)
  (λi e=>∃(eg:fQ) (o7 o8 o9:Option W),e=fK ac T Cn KT KC eg ob o7 o8 o9/\Gt ac A eg/\told.length<=eg.length) (KT.map cS) 0 (λi d e hi ⟨td,o7,o8,o9,he,g,l⟩=>by
   subst he;rw[c7]at hi;obtain⟨k,hp,rfl⟩:=gI.mp hi;obtain⟨t,h,rfl,tn,hn,ne,th⟩:=D'.ktm _ (fj hp);have len:=g.len N.al;have cn:=bI (N9 (i:=5) (k:=mN dTup [(mV 7),(mV 8)]) (e:=fK ac T Cn KT KC td ob (ab (.d (.str t))) (ab (.d (.str h))) o9) (told:=td) (p:=(t,h)) (dZ rfl rfl) rfl);by_cases hm:(t,h)∈bG td
   ·rw[cM hm]at cn;exact⟨fK ac T Cn KT KC td ob (ab (.d (.str t))) (ab (.d (.str h))) o9,fK ac T Cn KT KC td ob (ab (.d (.str t))) (ab (.d (.str h))) o9,rfl,(dD cn).trans rfl,td,_,_,_,rfl,g,l⟩
   ·rw[dC hm]at cn;obtain⟨rows,hr,gr⟩:=OF N D' g.sub tn hn th;have s9:=bN (i:=9) (KN (f:=oE) (a:=wD (mV 7)) (b:=wD (mV 8)) (c:=wD (mV 0)) (d:=wV 3) (g:=wV 4) (k:=wV 5) (e:=fK ac T Cn KT KC td ob (ab (.d (.str t))) (ab (.d (.str h))) o9) rfl rfl rfl rfl rfl rfl hr (Gr.lD gr.sh));cases rows with
    |nil=>
     refine⟨fK ac T Cn KT KC td ob (ab (.d (.str t))) (ab (.d (.str h))) o9,fK ac T Cn KT KC td ob (ab (.d (.str t))) (ab (.d (.str h))) (ab (.d (.lst []))),rfl,?_,td,_,_,_,rfl,g,l⟩;exact(gs cn).trans ((aK s9).trans rfl)
    |cons r0 rs=>
     obtain⟨s,x,er,rl⟩:=gr.sh r0 ce;refine⟨fK ac T Cn KT KC td ob (ab (.d (.str t))) (ab (.d (.str h))) o9,fK ac T Cn KT KC (td++[((t,h),r0)]) ob (ab (.d (.str t))) (ab (.d (.str h))) (ab (.d (.lst (r0::rs)))),rfl,?_,td++[((t,h),r0)],_,_,_,rfl,⟨?_,λp z=>?_,λi q z=>?_⟩,by rw[dI];omega⟩
     ·refine(gs cn).trans ((aK s9).trans ((gs (show mZ (mV 9) _=.ok true from rfl)).trans ?_));exact Rr (told:=td) (p:=(t,h)) (x:=r0) (aA (x:=.lst (r0::rs)) rfl rfl (by show cG (dH (r0::rs) 0)=_;rw[at0];rfl)) (dZ rfl rfl) rfl hm (by omega)
     ·unfold bG;rw[iU];exact t9.mpr ⟨g.nd,by simp,λa ha b hb=>by
       cases ej.mp hb;exactλz=>hm (by have z:a=(t,h):=z;rw[<- z];exact ha)⟩
     ·unfold bG at z;rw[iU]at z;rcases fk.mp z with z|z
      ·exact g.sub p z
      ·cases ej.mp z;exact gr.so (by simp)
     ·rcases xc i td.length with il|il
      ·rw[wN il]at z;rw[List.take_append_of_le_length (ui il)];exact g.ord i q z
      ·have il2:=(cu.mp z).1;rw[dI]at il2;have ie:i=td.length:=by simp only[wR]at il2;omega
       subst ie;rw[A1 (ba _),Nat.sub_self]at z;cases z;rw[List.take_left];exact⟨s,x,er,rl⟩) (fK ac T Cn KT KC told ob o7 o8 o9) ⟨told,_,_,_,rfl,g,ba _⟩
 exact⟨eg,o7',o8',o9',by rw[f1,he],g',l'⟩
abbrev Aj:C:=(cB (m2 de (ph 5) (mV 6)))
abbrev vD:S:=(aF (a6 6 (ph 5)) (du (iQ 3) (.t [7,8]) uE))
theorem D5:∀k:List Str,(rk k).map qu=k.map D.str
 |[]=>rfl
 |x::k=>by
  have:=D5 k;unfold rk at this ⊢;rw[bO,bO,bO,this];rfl
theorem NY{e:Mi.Env}{i:Nat}(h:wV i e=.ok (.df (br KT))):iQ i e=.ok (KT.map cS):=by
 unfold iQ;rw[h,aD];dsimp only;unfold br;rw[dj]
 congr 1
 exact nO λk _=>by
  show D.tup ((rk k).map qu)=_;rw[D5];rfl
theorem Gy(N:Nt ac A)(D':Dc ac A KT KC){told:fQ}(g:Gt ac A told)(ob:D)(o7 o8 o9:Option W):∃eg o7' o8' o9',vD (fK ac T Cn KT KC told ob o7 o8 o9)=.ok (.nx (fK ac T Cn KT KC eg (.int (told.length:Nat)) o7' o8' o9'))/\Gt ac A eg/\told.length<=eg.length:=by
 obtain⟨eg,o7',o8',o9',f,r⟩:=N8 (T:=T) (Cn:=Cn) N D' g (.int (told.length:Nat)) o7 o8 o9;refine⟨eg,o7',o8',o9',?_,r⟩;have s:a6 6 (ph 5) (fK ac T Cn KT KC told ob o7 o8 o9)=.ok (.nx (fK ac T Cn KT KC told (.int (told.length:Nat)) o7 o8 o9)):=bN (d:=.int (told.length:Nat)) (by
  show Rs.ok (D.int ((dS told).length:Nat))=_;unfold dS;rw[aQ])
 rw[show vD=aF (a6 6 (ph 5)) (du (iQ 3) (.t [7,8]) uE)from rfl,aK s,eV (NY (KT:=KT) rfl),f]
theorem vi(told:fQ)(ob:D)(o7 o8 o9:Option W):Aj (fK ac T Cn KT KC told ob o7 o8 o9)=.ok (!bn (.int (told.length:Nat)) ob):=by
 refine bI (aA (x:=.int (told.length:Nat)) (y:=ob) (by
  show Rs.ok (D.int ((dS told).length:Nat))=_;unfold dS;rw[aQ]) rfl ?_)
 unfold de;exact aO (by show(0:Nat)<=16;decide)
theorem Mm(N:Nt ac A)(D':Dc ac A KT KC):∀(n:Nat) (told:fQ) (ob:D) (o7 o8 o9:Option W) (fuel:Nat),Gt ac A told->64-told.length<=n->n+2<=fuel ->
 ∃eg ob' o7' o8' o9',iZ Aj vD fuel (fK ac T Cn KT KC told ob o7 o8 o9)=.ok (.nx (fK ac T Cn KT KC eg ob' o7' o8' o9'))/\Gt ac A eg:=by
 intro n
 induction n with
 |zero=>
  intro told ob o7 o8 o9 fuel g h1 h2;obtain⟨f,rfl⟩ : ∃f,fuel=f+2:=⟨fuel-2,by omega⟩;rw[show f+2=(f+1)+1 from rfl,iZ,vi];cases hb:bn (.int (told.length:Nat)) ob with
  |true=>exact⟨told,ob,o7,o8,o9,rfl,g⟩
  |false=>
   obtain⟨eg,o7',o8',o9',hbd,g',l'⟩:=Gy (T:=T) (Cn:=Cn) N D' g ob o7 o8 o9;have len:=g'.len N.al;simp only[aD,Bool.not_false,gU,hbd];rw[iZ,vi,show bn (.int (eg.length:Nat)) (.int (told.length:Nat))=true by rw[show eg.length=told.length by omega];exact L2.sA _];exact⟨eg,_,o7',o8',o9',rfl,g'⟩
 |succ n ih=>
  intro told ob o7 o8 o9 fuel g h1 h2;obtain⟨f,rfl⟩ : ∃f,fuel=f+1:=⟨fuel-1,by omega⟩;rw[iZ,vi];cases hb:bn (.int (told.length:Nat)) ob with
  |true=>exact⟨told,ob,o7,o8,o9,rfl,g⟩
  |false=>
   obtain⟨eg,o7',o8',o9',hbd,g',l'⟩:=Gy (T:=T) (Cn:=Cn) N D' g ob o7 o8 o9;have len:=g'.len N.al;simp only[aD,Bool.not_false,gU,hbd];by_cases e:eg.length=told.length
   ·obtain⟨f',rfl⟩ : ∃f',f=f'+1:=⟨f-1,by omega⟩;rw[iZ,vi,show bn (.int (eg.length:Nat)) (.int (told.length:Nat))=true by rw[e];exact L2.sA _];exact⟨eg,_,o7',o8',o9',rfl,g'⟩
   ·exact ih eg _ o7' o8' o9' f g' (by omega) (by omega)
end
end Mr
namespace Mr
open PySem Mi
theorem PL{ac:List Str}(nd:ac.Nodup){a b:Str}(h:(a,b)∈prs ac):a∈ac/\b∈ac/\a≠b:=by obtain⟨k,hk,rfl,hb⟩:=k5.mp h;exact⟨qp hk,(vx nd hk hb).1,(vx nd hk hb).2⟩
theorem kW{ac:List Str}{A:List Ar}{p:Ar}:p∈bT ac A↔p∈prs ac/\tie A p.1 p.2=true:=fG
theorem Ln{ac:List Str}(nd:ac.Nodup){A:List Ar}{a m b:Str}(ha:a∈ac)(hm:m∈ac)(hb:b∈ac):((a,m,b)∈dc ac A\/(b,m,a)∈dc ac A)↔a≠b/\ir A a m b=true:=by
 constructor
 ·rintro(h|h)
  ·obtain⟨k,hk,rfl,_,hd,c⟩:=qo.mp h;exact⟨(vx nd hk hd).2,c⟩
  ·obtain⟨k,hk,rfl,_,hd,c⟩:=qo.mp h;exact⟨cR (vx nd hk hd).2,by rw[EY];exact c⟩
 ·rintro⟨ne,c⟩;rcases yp ha hb ne with h|h
  ·obtain⟨k,hk,e,hd⟩:=k5.mp h;exact .inl (qo.mpr ⟨k,hk,e,hm,hd,c⟩)
  ·obtain⟨k,hk,e,hd⟩:=k5.mp h;exact .inr (qo.mpr ⟨k,hk,e,hm,hd,by rw[EY];exact c⟩)
theorem LP{ac:List Str}{A:List Ar}(nd:ac.Nodup){KT KC:List (List Str)}(h1:∀k,k∈KT↔∃r∈(bT ac A).map cV,k=r\/k=r.reverse)(h2:∀k,k∈KC↔∃r∈(dc ac A).map tr,k=r\/k=r.reverse):Dc ac A KT KC:=by
 have kt:∀a b,[a,b]∈KT↔(a,b)∈bT ac A\/(b,a)∈bT ac A:=λa b=>by
  rw[h1];constructor
  ·rintro⟨r,hr,e⟩;obtain⟨p,hp,rfl⟩:=bu.mp hr;rcases e with e|e
   ·simp only[cV,nZ,oZ]at e;exact .inl (by rw[e.1,e.2];exact hp)
   ·simp only[cV,rA,List.reverse_nil,wW,wS,nZ,oZ]at e;exact .inr (by rw[e.1,e.2];exact hp)
  ·rintro(h|h)
   ·exact⟨_,jN h,.inl rfl⟩
   ·exact⟨_,jN h,.inr rfl⟩
 have kc:∀a m b,[a,m,b]∈KC↔(a,m,b)∈dc ac A\/(b,m,a)∈dc ac A:=λa m b=>by
  rw[h2];constructor
  ·rintro⟨r,hr,e⟩;obtain⟨p,hp,rfl⟩:=bu.mp hr;rcases e with e|e
   ·simp only[tr,nZ,oZ]at e;exact .inl (by rw[e.1,e.2.1,e.2.2];exact hp)
   ·simp only[tr,rA,List.reverse_nil,wW,wS,nZ,oZ]at e;exact .inr (by rw[e.1,e.2.1,e.2.2];exact hp)
  ·rintro(h|h)
   ·exact⟨_,jN h,.inl rfl⟩
   ·exact⟨_,jN h,.inr rfl⟩
 refine⟨λa ha b hb ne=>?_,λk hk=>?_,λa ha m hm b hb=>?_⟩
 ·rw[kt,kW,kW];constructor
  ·rintro(h|h)
   ·exact h.2
   ·rw[zJ];exact h.2
  ·intro t;rcases yp ha hb ne with h|h
   ·exact .inl ⟨h,t⟩
   ·exact .inr ⟨h,by rw[zJ];exact t⟩
 ·obtain⟨r,hr,e⟩:=(h1 k).mp hk;obtain⟨p,hp,rfl⟩:=bu.mp hr;obtain⟨p1,p2⟩:=kW.mp hp;obtain⟨a1,a2,a3⟩:=PL nd (a:=p.1) (b:=p.2) p1;rcases e with rfl|rfl
  ·exact⟨p.1,p.2,rfl,a1,a2,a3,p2⟩
  ·exact⟨p.2,p.1,rfl,a2,a1,cR a3,by rw[zJ];exact p2⟩
 ·rw[kc,Ln nd ha hm hb]
theorem OQ{ac:List Str}{A:List Ar}(N:Nt ac A):∃told,pB [.d (av ac),.d (bL (bT ac A)),.d (.lst ((dc ac A).map ee))]=.ok (.d (.lst (told.map (·.2))))/\Gt ac A told:=by
 have tl:(bT ac A).length<=64:=dw (mi _ _) (mY N.le);have cl:=ML N.le A;obtain⟨KT,hT,mT⟩:=F7 ((bT ac A).map cV) (λr hr=>by obtain⟨p,_,rfl⟩:=bu.mp hr;show(2:Nat)<=1000;decide) (by rw[aQ];omega);obtain⟨KC,hC,mC'⟩:=F7 ((dc ac A).map tr) (λr hr=>by obtain⟨p,_,rfl⟩:=bu.mp hr;show(3:Nat)<=1000;decide) (by rw[aQ];omega);have eT:D.lst (((bT ac A).map cV).map cS)=bL (bT ac A):=by unfold bL;rw[dj];rfl
 have eC:D.lst (((dc ac A).map tr).map cS)=.lst ((dc ac A).map ee):=by rw[dj];rfl
 rw[eT]at hT;rw[eC]at hC;have D':=LP N.nd mT mC';obtain⟨told,ob,o7,o8,o9,hw,g⟩:=Mm (T:=bL (bT ac A)) (Cn:=.lst ((dc ac A).map ee)) N D' 64 [] .non ae ae ae 200 (Gt.nil ac A) (by simp) (by decide);refine⟨told,?_,g⟩;unfold pB GB;rw[HW];rw[show([ab (W.d (av ac)),ab (W.d (bL (bT ac A))),ab (W.d (.lst ((dc ac A).map ee)))]++cx (10-3) ae)=[ab (W.d (av ac)),ab (W.d (bL (bT ac A))),ab (W.d (.lst ((dc ac A).map ee))),ae,ae,ae,ae,ae,ae,ae]from rfl];have frz:∀{e:Mi.Env} {a:EW} {x:W} {ks:List (List Str)},a e=.ok x->iO [x]=.ok (.dt (br ks))->oY (iB iO [a]) e=.ok (.df (br ks)):=λ{e a x ks} h1 h2=>by
  unfold oY iB;rw[cP,h1];simp only[aD,cP,h2];rfl
 have sw:∀{i:Nat} {a:EW} {e:Mi.Env} {w:W},a e=.ok w->jX i a e=.ok (.nx (e.set i (ab w))):=λ{i a e w} h=>by unfold jX;rw[h];rfl
 rw[aK (e':=[ab (W.d (av ac)),ab (W.d (bL (bT ac A))),ab (W.d (.lst ((dc ac A).map ee))),ab (.df (br KT)),ae,ae,ae,ae,ae,ae]) (sw (frz rfl hT))];rw[aK (e':=[ab (W.d (av ac)),ab (W.d (bL (bT ac A))),ab (W.d (.lst ((dc ac A).map ee))),ab (.df (br KT)),ab (.df (br KC)),ae,ae,ae,ae,ae]) (sw (frz rfl hC))];rw[aK (e':=[ab (W.d (av ac)),ab (W.d (bL (bT ac A))),ab (W.d (.lst ((dc ac A).map ee))),ab (.df (br KT)),ab (.df (br KC)),ab (.dt (dS [])),ae,ae,ae,ae]) rfl];rw[aK (e':=fK ac (bL (bT ac A)) (.lst ((dc ac A).map ee)) KT KC [] .non ae ae ae) rfl];rw[aK (show sI 200 Aj vD _=_ from hw)];rw[eU (bU (d:=.lst (told.map (·.2))) (by
  show Rs.ok (D.lst ((dS told).map (·.2)))=_;unfold dS;rw[dj];rfl))]
 rfl
def cL(ac:List Str)(R S:List Ar):D:=.tup [av ac,aZ R,aZ S]
theorem LJ{a:E}{e:Mi.Env}{t h s:Str}{x:List Str}(ha:a e=.ok (gT t h s x)):d5 uU a ae (ab (mC (.int 2))) e=.ok (pairD (t,h)):=by rw[QI ha rfl];exact aO (by show(0:Int)<=2/\(2:Int)<=((4:Nat):Int)/\(4:Nat)<=16777216;decide)
def kg(T P:List Ar):List Ar:=T.filter λp=>!decide (p∈P) && !decide ((p.2,p.1)∈P)
theorem K1(T P:List Ar)(hl:T.length<=1000):re [.d (bL T),.d (bL P)]=.ok (.d (bL (kg T P))):=by
 unfold re C5;rw[pZ];rw[show([ab (W.d (bL T)),ab (W.d (bL P))]++cx (2-2) ae)=[ab (W.d (bL T)),ab (W.d (bL P))]from rfl];have cm:c9 (.t [1,2]) (dY (cB (m2 eQ (mN dTup [(mV 1),(mV 2)]) (mV 0))) (cB (m2 eQ (mN dTup [(mV 2),(mV 1)]) (mV 0)))) (mN dTup [(mV 1),(mV 2)]) [ab (.d (bL P)),ae,ae] (T.map pairD)=.ok ((kg T P).map pairD):=
  gE pairD pairD _ T λp _=>⟨[ab (.d (bL P)),ab (.d (.str p.1)),ab (.d (.str p.2))],rfl,qq (bI (aA (dZ rfl rfl) rfl (vo P p))) λ_=>bI (aA (dZ rfl rfl) rfl (vo P (p.2,p.1))),λ_=>dZ rfl rfl⟩
 rw[eU (bU (e9 (ρ:=[ab 1,ae,ae]) (eA (a:=mV 0) (x:=bL T) rfl rfl) (by rw[aQ];omega) cm))];rfl
end Mr
namespace Mr
open PySem Mi
theorem Qy{ac:List Str}{p q:Ar}(hp:p.1∈ac/\p.2∈ac)(hq:q.1∈ac/\q.2∈ac)(h:ky ac (cV p)=ky ac (cV q)):p=q:=by unfold ky cV at h;simp only[bO,ud,nZ,oZ]at h;exact uv (d3 hp.1 hq.1 (by omega)) (d3 hp.2 hq.2 (by omega))
theorem D9{ac:List Str}(nd:ac.Nodup)(h1:1<=ac.length)(h8:ac.length<=8){P:List Ar}(R:Rk P):(dJ ac P).Pairwise λp q=>dR (ky ac (cV p)) (ky ac (cV q))=true:=by obtain⟨r,I⟩:=ji.CZ nd h1 h8 R;rw[<- tX];exact I.sorted
theorem NF{ac:List Str}{A P:List Ar}(G:Gd ac A)(nd:P.Nodup)(sub:∀p∈P,p∈A):ki [.d (av ac),.d (bL P)]=.ok (.d (bL (dJ ac P))):=by
 have few:A.length<=56:=by obtain⟨r,I⟩:=ji.CZ G.nd G.pos G.le G.rk;have:=I.few;have e:=tX ac A;rw[G.dJ]at e;rw[<- e,aQ];exact this
 have pl:P.length<=56:=dw (lH nd sub) few;obtain⟨r,hr⟩:=G.rk;refine Gk (α:=Ar) (ac:=ac) (by have:=G.le;omega) cV (xs:=P) (ys:=dJ ac P) (λp hp=>⟨by show(2:Nat)<=1000;decide,λy hy=>?_⟩) (by omega) ?_ (λp=>?_) (D9 G.nd G.pos G.le ⟨r,λp hp=>hr p (sub p hp)⟩)
 ·have:=G.inn p (sub p hp);simp only[cV,bA,rC,or_false]at hy;rcases hy with rfl|rfl
  ·exact this.1
  ·exact this.2
 ·exact(iS.mpr (nd.imp_of_mem λ{p q} hp hq ne e=>ne (Qy (G.inn p (sub p hp)) (G.inn q (sub q hq)) e)))
 ·rw[we];exact⟨λh=>⟨h,G.inn p (sub p h)⟩,λh=>h.1⟩
theorem OR{ac:List Str}{A:List Ar}(G:Gd ac A){told:fQ}(hr:pB [.d (av ac),.d (bL (bT ac A)),.d (.lst ((dc ac A).map ee))]=.ok (.d (.lst (told.map (·.2)))))(g:Gt ac A told):mz [.d (av ac),.d (bL (bT ac A)),.d (.lst ((dc ac A).map ee))]=.ok (.d (cL ac (dJ ac (bG told)) (kg (bT ac A) (bG told)))):=by
 have tl:told.length<=64:=g.len G.al;have tT:(bT ac A).length<=64:=dw (mi _ _) (mY G.le);have c1:c9 (.n 0) cO (d5 uU (mV 0) ae (ab (mC (.int 2)))) [ae] (told.map (·.2))=.ok ((told.filter λ_=>true).map λq=>pairD q.1):=
  gE (λq:Ar×D=>q.2) (λq=>pairD q.1) (λ_=>true) told λq hq=>by
   obtain⟨s,x,e⟩:=g.sh q hq;exact⟨[ab (.d q.2)],rfl,rfl,λ_=>LJ (s:=s) (x:=x) (by show Rs.ok q.2=_;rw[e])⟩
 rw[mm.mpr (λ_ _=>rfl)]at c1;have e1:D.lst (told.map λq=>pairD q.1)=bL (bG told):=by unfold bL bG;rw[dj];rfl
 have c2:c9 (.t [1,2]) (cB (m2 eQ (mN dTup [(mV 2),(mV 1)]) (mV 0))) (mN dTup [(mV 1),(mV 2)]) [ab (.d (bL (bG told))),ae,ae] ((bG told).map pairD)=.ok (((bG told).filter λ_=>true).map pairD):=gE pairD pairD (λ_=>true) _ λp hp=>⟨[ab (.d (bL (bG told))),ab (.d (.str p.1)),ab (.d (.str p.2))],rfl,bI (aA (dZ rfl rfl) rfl ((vo (bG told) (p.2,p.1)).trans (by rw[dC (λz=>y9 G.rk (g.sub _ hp) (g.sub _ z))];rfl))),λ_=>dZ rfl rfl⟩
 rw[mm.mpr (λ_ _=>rfl)]at c2;unfold mz E1;rw[Az];rw[show([ab (W.d (av ac)),ab (W.d (bL (bT ac A))),ab (W.d (.lst ((dc ac A).map ee)))]++cx (5-3) ae)=[ab (W.d (av ac)),ab (W.d (bL (bT ac A))),ab (W.d (.lst ((dc ac A).map ee))),ae,ae]from rfl];rw[aK (e':=[ab (W.d (av ac)),ab (W.d (bL (bT ac A))),ab (W.d (.lst ((dc ac A).map ee))),ab (.d (bL (bG told))),ae]) (by
  rw[<- e1];exact bN (e9 (ρ:=[ae]) (eA (qY (f:=pB) (a:=wD (mV 0)) (b:=wD (mV 1)) (c:=wD (mV 2)) rfl rfl rfl hr) rfl) (by rw[aQ];omega) c1))]
 rw[aK (e':=[ab (W.d (av ac)),ab (W.d (bL (bT ac A))),ab (W.d (.lst ((dc ac A).map ee))),ab (.d (bL (bG told))),ab (.d (bL (bG told)))]) (bN (e9 (ρ:=[ab 3,ae,ae]) (eA (a:=mV 3) (x:=bL (bG told)) rfl rfl) (by unfold bG;rw[aQ,aQ];omega) c2))];rw[eU (bU ((zv rfl ((iK (call2 (f:=ki) (a:=wD (mV 0)) (b:=wD (mV 4)) rfl rfl (NF G g.nd g.sub))).trans (FK _)) ((iK (call2 (f:=re) (a:=wD (mV 1)) (b:=wD (mV 4)) rfl rfl (K1 _ _ (by omega)))).trans (FK _))).trans (aO (by show(3:Nat)<=_;decide))))];rfl
theorem Nm{ac:List Str}{A:List Ar}(G:Gd ac A):∃P,mz [.d (av ac),.d (bL (bT ac A)),.d (.lst ((dc ac A).map ee))]=.ok (.d (cL ac (dJ ac P) (kg (bT ac A) P)))/\P.Nodup/\∀p∈P,p∈A:=by obtain⟨told,hr,g⟩:=OQ G.nt;exact⟨bG told,OR G hr g,g.nd,g.sub⟩
theorem OJ{ac:List Str}{A:List Ar}(G:Gd ac A){x:D}(h:mz [.d (av ac),.d (bL (bT ac A)),.d (.lst ((dc ac A).map ee))]=.ok (.d x)):qM [.d (bf ac A)]=.ok (.d x):=by unfold qM Hl;rw[uT];rw[show([ab (W.d (bf ac A))]++cx (1-1) ae)=[ab (W.d (bf ac A))]from rfl];rw[eU (bU (qY (f:=mz) (bU (aA rfl rfl (oT ac A))) (bU (l0 (f:=qL) (a:=wD (mV 0)) rfl (M8 G.le))) (bU (l0 (f:=qy) (a:=wD (mV 0)) rfl (Lx G.nt))) h))];rfl
end Mr
namespace Mr
open PySem Mi
theorem CU:∀a b:List Int,dR a b=true->So.gv b a=false
 |[],[],h=>by cases h
 |[],_::_,_=>rfl
 |_::_,[],h=>by cases h
 |x::r,y::t,h=>by
  rw[dR]at h;rw[So.gv];by_cases e:x=y
  ·subst e;rw[aH (by simp)]at h ⊢;exact CU r t h
  ·rw[ay (by simpa using e)]at h;rw[ay (by simpa using cR e)];have:=yz h;exact dC (by omega)
theorem Hi{ac:List Str}{a b:E}{e:Mi.Env}{x:Str}(ha:a e=.ok (av ac))(hb:b e=.ok (.str x))(hx:x∈ac)(hl:ac.length<=1000):m2 i5 a b e=.ok (.int (ac.idxOf x:Nat)):=aA ha hb (by
 unfold i5;dsimp only;rw[CL];exact aO ⟨hx,hl⟩)
theorem Dp{a:E}{e:Mi.Env}{p:Ar}(h:a e=.ok (pairD p)):m2 aG a (mC (.int 0)) e=.ok (.str p.1):=aA h rfl (by show cG (dH [D.str p.1,D.str p.2] 0)=_;rw[at0];rfl)
theorem Ho{a:E}{e:Mi.Env}{p:Ar}(h:a e=.ok (pairD p)):m2 aG a (mC (.int 1)) e=.ok (.str p.2):=aA h rfl (by show cG (dH [D.str p.1,D.str p.2] 1)=_;rw[at1];rfl)
def iu(k:List Int):D:=.lst (k.map D.int)
theorem Ps(a b:List Int):qi (iu a) (iu b)=.ok (.bl (So.gv a b)):=by unfold qi iu;dsimp only;rw[uV,uV];rfl
theorem FY{ac:List Str}{R:List Ar}(hl:ac.length<=1000)(inn:∀p∈R,p.1∈ac/\p.2∈ac)(pw:R.Pairwise λp q=>dR (ky ac (cV p)) (ky ac (cV q))=true):kG [.d (aZ R),.d (av ac)]=.ok (.d (.bl true)):=by
 obtain⟨e',f1,last,o3,o4,he,_⟩:=fY (tg:=.n 3) (body:=(aF (bh (dQ (dm (cB (m1 (cE ["tuple"]) (mV 3)))) (dQ (cB (m2 de (mN cH [(mV 3)]) (mC (.int 2)))) (dQ (cB (m2 eQ (m2 aG (mV 3) (mC (.int 0))) (mV 1))) (cB (m2 eQ (m2 aG (mV 3) (mC (.int 1))) (mV 1))))))
 (bB (wD (mC (.bl false))))
 bp)
 (aF (a6 4 (mN dP [(m2 i5 (mV 1) (m2 aG (mV 3) (mC (.int 0)))),(m2 i5 (mV 1) (m2 aG (mV 3) (mC (.int 1))))]))
 (aF (bh (cB (m2 qi (mV 4) (mV 2)))
 (bB (wD (mC (.bl false))))
 bp)
 (a6 2 (mV 4))))))
  (λi e=>∃(last:List Int) (o3 o4:Option W),e=[ab (.d (aZ R)),ab (.d (av ac)),ab (.d (iu last)),o3,o4]/\∀j p,i<=j->R[j]? = ab p->So.gv (ky ac (cV p)) last=false) (R.map pairD) 0 (λi d e hi ⟨last,o3,o4,he,h⟩=>by
   subst he;rw[dX]at h ⊢;rw[c7]at hi;obtain⟨p,hp,rfl⟩:=gI.mp hi;obtain⟨p1,p2⟩:=inn p (fj hp);have c1:(dQ (dm (cB (m1 (cE ["tuple"]) (mV 3)))) (dQ (cB (m2 de (mN cH [(mV 3)]) (mC (.int 2)))) (dQ (cB (m2 eQ (m2 aG (mV 3) (mC (.int 0))) (mV 1))) (cB (m2 eQ (m2 aG (mV 3) (mC (.int 1))) (mV 1)))))) [ab (.d (aZ R)),ab (.d (av ac)),ab (.d (iu last)),ab (.d (pairD p)),o4]=.ok false:=
    pj (p:=false) (q:=false) (kH (p:=true) rfl) λ_=>pj (p:=false) (q:=false) rfl λ_=>pj (p:=false) (q:=false) (bI (aA (Dp rfl) rfl ((yQ ac p.1).trans (by rw[cM p1];rfl)))) λ_=>bI (aA (Ho rfl) rfl ((yQ ac p.2).trans (by rw[cM p2];rfl)))
   have s4:a6 4 (mN dP [(m2 i5 (mV 1) (m2 aG (mV 3) (mC (.int 0)))),(m2 i5 (mV 1) (m2 aG (mV 3) (mC (.int 1))))]) [ab (.d (aZ R)),ab (.d (av ac)),ab (.d (iu last)),ab (.d (pairD p)),o4]=.ok (.nx [ab (.d (aZ R)),ab (.d (av ac)),ab (.d (iu last)),ab (.d (pairD p)),ab (.d (iu (ky ac (cV p))))]):=bN (AH (Hi rfl (Dp rfl) p1 hl) (Hi rfl (Ho rfl) p2 hl))
   have c2:cB (m2 qi (mV 4) (mV 2)) [ab (.d (aZ R)),ab (.d (av ac)),ab (.d (iu last)),ab (.d (pairD p)),ab (.d (iu (ky ac (cV p))))]=.ok false:=bI (aA rfl rfl ((Ps _ _).trans (by rw[h i p (ba _) hp])));refine⟨[ab (.d (aZ R)),ab (.d (av ac)),ab (.d (iu last)),ab (.d (pairD p)),o4],[ab (.d (aZ R)),ab (.d (av ac)),ab (.d (iu (ky ac (cV p)))),ab (.d (pairD p)),ab (.d (iu (ky ac (cV p))))],rfl,?_,_,_,_,rfl,λj q hj hq=>?_⟩
   ·exact(aK ((dD c1).trans rfl)).trans ((aK s4).trans ((aK ((dD c2).trans rfl)).trans (bN rfl)))
   ·obtain⟨il,ie⟩:=cu.mp hp;obtain⟨jl,je⟩:=cu.mp hq;have:=A2.mp pw i j il jl (by omega);rw[ie,je]at this;exact CU _ _ this) [ab (.d (aZ R)),ab (.d (av ac)),ab (.d (iu [-1,-1])),ae,ae] ⟨[-1,-1],ae,ae,rfl,λj p _ _=>by
     show So.gv [((ac.idxOf p.1:Nat):Int),((ac.idxOf p.2:Nat):Int)] [-1,-1]=false;rw[So.gv,ay (by simp)];exact dC (by omega)⟩
 subst he;unfold kG DI;rw[nz];rw[show([ab (W.d (aZ R)),ab (W.d (av ac))]++cx (5-2) ae)=[ab (W.d (aZ R)),ab (W.d (av ac)),ae,ae,ae]from rfl];rw[aK (e':=[ab (W.d (aZ R)),ab (W.d (av ac)),ae,ae,ae]) ((dD (kH (p:=true) rfl)).trans rfl)];rw[aK (e':=[ab (W.d (aZ R)),ab (W.d (av ac)),ab (.d (iu [-1,-1])),ae,ae]) (bN (AH rfl rfl))];rw[aK ((eV (eA (a:=mV 0) (x:=aZ R) rfl rfl)).trans f1)];rfl
end Mr
namespace Mr
open PySem Mi
theorem Pf{ac:List Str}{ai:List Ar}(hn:ac.length<=8):ql [.d (bf ac ai)]=.ok (.d (bL (bT ac ai))):=by
 unfold ql DT;rw[uT];have epr:(bT ac ai).map pairD=(bw ac.length).flatMap λk=>((ac.drop (k+1)).filter λb=>tie ai (nth ac k) b).map λb=>pairD (nth ac k,b):=by unfold bT prs;rw[List.filter_flatMap,qt];refine qE λk _=>?_;rw[List.filter_map,dj];rfl
 have uA:((bT ac ai).map pairD).length<=64:=by rw[aQ];exact dw (mi _ _) (mY hn)
 rw[epr]at uA;obtain⟨e',f1,o2,o3,he⟩:=tM (tg:=.t [2,3]) (body:=(a6 1 (m2 bq (mV 1) (cq [ab 3,ab 0,ae] (bJ (d5 kK (m2 aG (mV 0) (mC (.int 0))) (ab (m2 bq (mV 2) (mC (.int 1)))) ae)) (.n 2) (cB (be py [(wD (mV 1)),(wD (mV 0)),(wD (mV 2))])) (mN dTup [(mV 0),(mV 2)])))))
  (λk:Nat=>D.tup [.int (k:Nat),.str (nth ac k)]) (λk=>((ac.drop (k+1)).filter λb=>tie ai (nth ac k) b).map λb=>pairD (nth ac k,b))
  (λacc e=>∃o2 o3:Option W,e=[ab (.d (bf ac ai)),ab (.d (.lst acc)),o2,o3]) (bw ac.length) [] [ab (.d (bf ac ai)),ab (.d (.lst [])),ae,ae] (by simp only[pN];omega) ⟨ae,ae,rfl⟩
  (λk hk acc e hl ⟨o2,o3,he⟩=>by
   subst he;have hk:=en.mp hk;refine⟨[ab (.d (bf ac ai)),ab (.d (.lst acc)),ab (.d (.int (k:Nat))),ab (.d (.str (nth ac k)))],[ab (.d (bf ac ai)),ab (.d (.lst (acc++((ac.drop (k+1)).filter λb=>tie ai (nth ac k) b).map λb=>pairD (nth ac k,b)))),ab (.d (.int (k:Nat))),ab (.d (.str (nth ac k)))],rfl,?_,_,_,rfl⟩;have hc:c9 (.n 2) (cB (be py [(wD (mV 1)),(wD (mV 0)),(wD (mV 2))])) (mN dTup [(mV 0),(mV 2)]) [ab (.d (.str (nth ac k))),ab (.d (bf ac ai)),ae] ((ac.drop (k+1)).map D.str)=.ok (((ac.drop (k+1)).filter λb=>tie ai (nth ac k) b).map λb=>pairD (nth ac k,b)):=
    gE D.str (λb=>pairD (nth ac k,b)) (λb=>tie ai (nth ac k) b) _ λb _=>⟨[ab (.d (.str (nth ac k))),ab (.d (bf ac ai)),ab (.d (.str b))],rfl,bI (qY rfl rfl rfl (Rq (nth ac k) b)),λ_=>dZ rfl rfl⟩
   have hm:=e9 (ρ:=[ab 3,ab 0,ae]) (e:=[ab (.d (bf ac ai)),ab (.d (.lst acc)),ab (.d (.int (k:Nat))),ab (.d (.str (nth ac k)))]) (HD (b:=mV 2) hk hn (aA (a:=mV 0) (b:=mC (.int 0)) rfl rfl (oT ac ai)) rfl) (by rw[aQ,gc];omega) hc;exact bN (aA (x:=.lst acc) rfl hm (aO hl)))
 subst he;rw[show([ab (W.d (bf ac ai))]++cx (4-1) ae)=[ab (W.d (bf ac ai)),ae,ae,ae]from rfl];rw[aK (e':=[ab (.d (bf ac ai)),ab (.d (.lst [])),ae,ae]) (bN (lF _))];have hit:oo (m2 aG (mV 0) (mC (.int 0))) [ab (.d (bf ac ai)),ab (.d (.lst [])),ae,ae]=.ok ((bw ac.length).map λk=>D.tup [.int (k:Nat),.str (nth ac k)]):=by rw[<- y7];unfold oo;rw[aA (a:=mV 0) (b:=mC (.int 0)) rfl rfl (oT ac ai)];rfl
 rw[aK ((eV hit).trans f1)];unfold bL;rw[epr];rfl
def mG(ac:List Str)(p:Ar):Ar:=if p∈prs ac then p else(p.2,p.1)
theorem Pq{ac:List Str}(nd:ac.Nodup){a b:Str}(h:(a,b)∈prs ac):(b,a)∉prs ac:=λz=>by
 obtain⟨k,hk,rfl,hb⟩:=k5.mp h;obtain⟨j,hj,rfl,ha⟩:=k5.mp z;have h1:=(zK nd hb).1;have h2:=(zK nd ha).1;rw[lJ nd hj]at h1;rw[lJ nd hk]at h2;omega
theorem P6{ac:List Str}{A:List Ar}(R:Rk A){p q:Ar}(hp:p∈A)(hq:q∈A)(h:mG ac p=mG ac q):p=q:=by
 unfold mG at h;split at h<;>split at h
 ·exact h
 ·subst h;exact absurd hp (y9 R (a:=q.1) (b:=q.2) hq)
 ·subst h;exact absurd hq (y9 R (a:=p.1) (b:=p.2) hp)
 ·rw[Prod.ext_iff]at h;exact uv h.2 h.1
theorem Fs{ac:List Str}{A:List Ar}(N:Nt ac A){P:List Ar}(sub:∀p∈P,p∈A)(q:Ar):q∈P.map (mG ac)↔q∈bT ac A/\(q∈P\/(q.2,q.1)∈P):=by
 constructor
 ·intro h;obtain⟨p,hp,rfl⟩:=bu.mp h;obtain⟨n1,n2⟩:=N.inn p (sub p hp);have ne:p.1≠p.2:=λz=>by
   obtain⟨r,hr⟩:=N.rk;have:=hr p (sub p hp);rw[z]at this;omega
  unfold mG;split
  ·rename_i hm;exact⟨kW.mpr ⟨hm,lK.mpr (.inl (sub p hp))⟩,.inl hp⟩
  ·rename_i hm;have:(p.2,p.1)∈prs ac:=(yp n1 n2 ne).resolve_left hm;exact⟨kW.mpr ⟨this,lK.mpr (.inr (sub p hp))⟩,.inr hp⟩
 ·rintro⟨h1,h2|h2⟩
  ·exact bu.mpr ⟨q,h2,by unfold mG;rw[aH (kW.mp h1).1]⟩
  ·exact bu.mpr ⟨(q.2,q.1),h2,by unfold mG;rw[ay (Pq N.nd (a:=q.1) (b:=q.2) (kW.mp h1).1)]⟩
theorem Er{ac:List Str}(nd:ac.Nodup)(A:List Ar):(bT ac A).Nodup:=(CQ nd).filter _
theorem GQ{ac:List Str}{A P:List Ar}(R:Rk A)(nd:P.Nodup)(sub:∀p∈P,p∈A):(P.map (mG ac)).Nodup:=iS.mpr (nd.imp_of_mem λ{p q} hp hq ne e=>ne (P6 R (sub p hp) (sub q hq) e))
theorem NG{ac:List Str}{A P:List Ar}(G:Gd ac A)(nd:P.Nodup)(sub:∀p∈P,p∈A):(dJ ac P).length=P.length:=(u0 (Dr G.nd G.le P) nd λp=>by
 rw[we];exact⟨λh=>h.1,λh=>⟨h,G.inn p (sub p h)⟩⟩).length_eq
theorem yf{ac:List Str}{A P:List Ar}(G:Gd ac A)(nd:P.Nodup)(sub:∀p∈P,p∈A):(dJ ac P).length+(kg (bT ac A) P).length=A.length:=by
 have a1:A.length=(bT ac A).length:=by
  have:=(u0 (GQ (ac:=ac) G.rk G.nodup λp h=>h) (Er G.nd A) λq=>by
   rw[Fs G.nt (λp h=>h) q];exact⟨λh=>h.1,λh=>⟨h,lK.mp (kW.mp h).2⟩⟩).length_eq
  rw[aQ]at this;exact this
 have a2:P.length=((bT ac A).filter λp=>decide (p∈P)||decide ((p.2,p.1)∈P)).length:=by
  have:=(u0 (m:=(bT ac A).filter λp=>decide (p∈P)||decide ((p.2,p.1)∈P)) (GQ (ac:=ac) G.rk nd sub) ((Er G.nd A).filter _) λq=>by
   rw[Fs G.nt sub q,fG,Bp,fV,fV]).length_eq
  rw[aQ]at this;exact this
 have a3:=NG G nd sub;have a4:∀T:List Ar,(T.filter λp=>decide (p∈P)||decide ((p.2,p.1)∈P)).length+(kg T P).length=T.length:=λT=>by
  unfold kg
  induction T with
  |nil=>rfl
  |cons x r ih=>
   rw[Be,Be];by_cases h1:x∈P<;>by_cases h2:(x.2,x.1)∈P<;>simp[h1,h2]<;>omega
 have:=a4 (bT ac A);omega
end Mr
namespace Mr
open PySem Mi
theorem MD{ac:List Str}(nd:ac.Nodup):(prs ac).Pairwise λp q=>dR (ky ac (cV p)) (ky ac (cV q))=true:=by
 unfold prs;rw[nN];refine⟨λk hk=>?_,?_⟩
 ·rw[iS];refine((zN nd).sublist (Bb _ _)).imp λ{a b} h=>?_;show dR [((ac.idxOf (nth ac k):Nat):Int),((ac.idxOf a:Nat):Int)] [((ac.idxOf (nth ac k):Nat):Int),((ac.idxOf b:Nat):Int)]=true;rw[sv];exact oI (rF.mpr h)
 ·refine mh.imp_of_mem λ{i j} hi hj h=>?_;intro x hx y hy;obtain⟨b,_,rfl⟩:=bu.mp hx;obtain⟨c,_,rfl⟩:=bu.mp hy;show dR [((ac.idxOf (nth ac i):Nat):Int),_] [((ac.idxOf (nth ac j):Nat):Int),_]=true;rw[lJ nd (en.mp hi),lJ nd (en.mp hj)];exact oI (rF.mpr h)
theorem C0(ac:List Str)(R S:List Ar):aG (cL ac R S) (.int 0)=.ok (av ac):=by show cG (dH [av ac,aZ R,aZ S] 0)=_;rw[at0];rfl
theorem OM(ac:List Str)(R S:List Ar):aG (cL ac R S) (.int 1)=.ok (aZ R):=by show cG (dH [av ac,aZ R,aZ S] 1)=_;rw[at1];rfl
theorem yY(ac:List Str)(R S:List Ar):aG (cL ac R S) (.int 2)=.ok (aZ S):=by show cG (dH [av ac,aZ R,aZ S] 2)=_;simp[dH,gB]
theorem MJ(a b:Bool):fU (.bl a) (.bl b)=.ok (.bl (a==b)):=aO (by show(0:Nat)<=16;decide)
theorem ye(ai:List Ar)(p:Ar):bz (pairD p) (aZ ai)=.ok (.bl (decide (p∈ai))):=Mq ai p
theorem QQ{ac:List Str}{A P:List Ar}(G:Gd ac A)(nd:P.Nodup)(sub:∀p∈P,p∈A):qm [.d (cL ac (dJ ac P) (kg (bT ac A) P)),.d (bf ac A)]=.ok (.d (.bl true)):=by
 obtain⟨R,hR⟩ : ∃R,R=dJ ac P:=⟨_,rfl⟩;obtain⟨S,hS⟩ : ∃S,S=kg (bT ac A) P:=⟨_,rfl⟩;have i8:=G.le;have mR:∀p,p∈R↔p∈P:=λp=>by
  rw[hR,we];exact⟨λh=>h.1,λh=>⟨h,G.inn p (sub p h)⟩⟩
 have lp1:kG [.d (aZ R),.d (av ac)]=.ok (.d (.bl true)):=by obtain⟨r,hr⟩:=G.rk;exact FY (by omega) (λp hp=>G.inn p (sub p ((mR p).mp hp))) (by rw[hR];exact D9 G.nd G.pos G.le ⟨r,λp hp=>hr p (sub p hp)⟩)
 have lp2:kG [.d (aZ S),.d (av ac)]=.ok (.d (.bl true)):=by
  refine FY (by omega) (λp hp=>?_) ?_
  ·rw[hS]at hp;exact pb (kW.mp (fG.mp hp).1).1
  ·rw[hS];exact((MD G.nd).filter _).filter _
 have cnt:R.length+S.length=A.length:=by rw[hR,hS];exact yf G nd sub
 rw[<- hR,<- hS];have x0:∀(o2 o3 o4 o5:Option W),m2 aG (mV 0) (mC (.int 0)) [ab (.d (cL ac R S)),ab (.d (bf ac A)),o2,o3,o4,o5]=.ok (av ac):=λ_ _ _ _=>aA rfl rfl (C0 ac R S);have x1:∀(o2 o3 o4 o5:Option W),m2 aG (mV 0) (mC (.int 1)) [ab (.d (cL ac R S)),ab (.d (bf ac A)),o2,o3,o4,o5]=.ok (aZ R):=λ_ _ _ _=>aA rfl rfl (OM ac R S);have x2:∀(o2 o3 o4 o5:Option W),m2 aG (mV 0) (mC (.int 2)) [ab (.d (cL ac R S)),ab (.d (bf ac A)),o2,o3,o4,o5]=.ok (aZ S):=λ_ _ _ _=>aA rfl rfl (yY ac R S);have y0:∀(o2 o3 o4 o5:Option W),m2 aG (mV 1) (mC (.int 0)) [ab (.d (cL ac R S)),ab (.d (bf ac A)),o2,o3,o4,o5]=.ok (av ac):=λ_ _ _ _=>aA rfl rfl (oT ac A);have y1:∀(o2 o3 o4 o5:Option W),m2 aG (mV 1) (mC (.int 1)) [ab (.d (cL ac R S)),ab (.d (bf ac A)),o2,o3,o4,o5]=.ok (aZ A):=λ_ _ _ _=>aA rfl rfl (rQ ac A);obtain⟨e1,f1,o2,he1⟩:=fY (tg:=.n 2) (body:=(bh (cB (m2 eQ (mV 2) (m2 aG (mV 1) (mC (.int 1)))))
 (bB (wD (mC (.bl false))))
 bp))
  (λi e=>∃o2:Option W,e=[ab (.d (cL ac R S)),ab (.d (bf ac A)),o2,ae,ae,ae]) (R.map pairD) 0 (λi d e hi ⟨o2,he⟩=>by
   subst he;rw[c7]at hi;obtain⟨p,hp,rfl⟩:=gI.mp hi;have pa:=sub p ((mR p).mp (fj hp));exact⟨[ab (.d (cL ac R S)),ab (.d (bf ac A)),ab (.d (pairD p)),ae,ae,ae],_,rfl,(dD (bI (aA (b:=m2 aG (mV 1) (mC (.int 1))) rfl (y1 _ _ _ _) ((Qf A p).trans (by rw[cM pa];rfl))))).trans rfl,_,rfl⟩) [ab (.d (cL ac R S)),ab (.d (bf ac A)),ae,ae,ae,ae] ⟨ae,rfl⟩
 subst he1;obtain⟨e2,f2,o3,o4,o5,he2⟩:=fY (tg:=.t [3,4]) (body:=(aF (a6 5 (jS (m2 bz (mN dTup [(mV 3),(mV 4)]) (m2 aG (mV 0) (mC (.int 1)))) (m2 bz (mN dTup [(mV 4),(mV 3)]) (m2 aG (mV 0) (mC (.int 1))))))
 (bh (cB (m2 fU (mV 5) (m2 bz (mN dTup [(mV 3),(mV 4)]) (m2 aG (mV 0) (mC (.int 2))))))
 (bB (wD (mC (.bl false))))
 bp)))
  (λi e=>∃o3 o4 o5:Option W,e=[ab (.d (cL ac R S)),ab (.d (bf ac A)),o2,o3,o4,o5]) ((bT ac A).map pairD) 0 (λi d e hi ⟨o3,o4,o5,he⟩=>by
   subst he;rw[c7]at hi;obtain⟨p,hp,rfl⟩:=gI.mp hi;have pt:=fj hp;obtain⟨by_,hb⟩ : ∃b,b=(decide (p∈R)||decide ((p.2,p.1)∈R)):=⟨_,rfl⟩;have s5:a6 5 (jS (m2 bz (mN dTup [(mV 3),(mV 4)]) (m2 aG (mV 0) (mC (.int 1)))) (m2 bz (mN dTup [(mV 4),(mV 3)]) (m2 aG (mV 0) (mC (.int 1))))) [ab (.d (cL ac R S)),ab (.d (bf ac A)),o2,ab (.d (.str p.1)),ab (.d (.str p.2)),o5]=.ok (.nx [ab (.d (cL ac R S)),ab (.d (bf ac A)),o2,ab (.d (.str p.1)),ab (.d (.str p.2)),ab (.d (.bl by_))]):=by rw[hb];exact bN (C6 (aA (dZ rfl rfl) (x1 _ _ _ _) (ye R p)) λ_=>aA (dZ rfl rfl) (x1 _ _ _ _) (ye R (p.2,p.1)))
   have inS:decide (p∈S) = !by_:=by rw[hb,hS];unfold kg;by_cases h1:p∈P<;>by_cases h2:(p.2,p.1)∈P<;>simp[fG,mR,h1,h2,pt]
   have c:cB (m2 fU (mV 5) (m2 bz (mN dTup [(mV 3),(mV 4)]) (m2 aG (mV 0) (mC (.int 2))))) [ab (.d (cL ac R S)),ab (.d (bf ac A)),o2,ab (.d (.str p.1)),ab (.d (.str p.2)),ab (.d (.bl by_))]=.ok false:=bI (aA (x:=.bl by_) rfl (aA (dZ rfl rfl) (x2 _ _ _ _) (ye S p)) ((MJ _ _).trans (by rw[inS];cases by_<;>rfl)))
   exact⟨[ab (.d (cL ac R S)),ab (.d (bf ac A)),o2,ab (.d (.str p.1)),ab (.d (.str p.2)),o5],_,rfl,(aK s5).trans ((dD c).trans rfl),_,_,_,rfl⟩) [ab (.d (cL ac R S)),ab (.d (bf ac A)),o2,ae,ae,ae] ⟨ae,ae,ae,rfl⟩
 subst he2;unfold qm Iu;rw[nz];rw[show([ab (W.d (cL ac R S)),ab (W.d (bf ac A))]++cx (6-2) ae)=[ab (W.d (cL ac R S)),ab (W.d (bf ac A)),ae,ae,ae,ae]from rfl];have cA:(dQ (dm (cB (m1 (cE ["tuple"]) (mV 0)))) (dQ (cB (m2 de (mN cH [(mV 0)]) (mC (.int 3)))) (dQ (dm (cB (m1 (cE ["tuple"]) (m2 aG (mV 0) (mC (.int 0)))))) (cB (m2 de (m2 aG (mV 0) (mC (.int 0))) (m2 aG (mV 1) (mC (.int 0)))))))) [ab (W.d (cL ac R S)),ab (W.d (bf ac A)),ae,ae,ae,ae]=.ok false:=
  pj (p:=false) (q:=false) (kH (p:=true) rfl) λ_=>pj (p:=false) (q:=false) rfl λ_=>pj (p:=false) (q:=false) (kH (p:=true) (bI (by unfold m1;rw[x0];rfl))) λ_=>bI (aA (x0 _ _ _ _) (y0 _ _ _ _) ((Nf ac ac).trans (by simp)))
 have cC:(dQ (dm (cB (be kG [(wD (m2 aG (mV 0) (mC (.int 1)))),(wD (m2 aG (mV 1) (mC (.int 0))))]))) (dm (cB (be kG [(wD (m2 aG (mV 0) (mC (.int 2)))),(wD (m2 aG (mV 1) (mC (.int 0))))])))) [ab (W.d (cL ac R S)),ab (W.d (bf ac A)),ae,ae,ae,ae]=.ok false:=pj (p:=false) (q:=false) (kH (p:=true) (bI (call2 (bU (x1 _ _ _ _)) (bU (y0 _ _ _ _)) lp1))) λ_=>kH (p:=true) (bI (call2 (bU (x2 _ _ _ _)) (bU (y0 _ _ _ _)) lp2))
 rw[aK ((dD cA).trans rfl),aK ((dD cC).trans rfl)];rw[aK ((eV (eA (x1 _ _ _ _) rfl)).trans f1)];rw[aK ((eV (eA (l0 (f:=ql) (a:=wD (mV 1)) rfl (Pf G.le)) rfl)).trans f2)];rw[eU (bU (aA (aA ((iK (x1 _ _ _ _)).trans (uC _)) ((iK (x2 _ _ _ _)).trans (uC _)) (sD _ _)) ((iK (y1 _ _ _ _)).trans (uC _)) ((xL _ _).trans (by
  rw[aQ,aQ,aQ,cM (by omega)]))))]
 rfl
end Mr
namespace Mr
open PySem Mi
def dg(ai:List Ar):W:=.df (br (ai.map cV))
theorem OA{i:Nat}{e:Mi.Env}(ai:List Ar)(h:wV i e=.ok (dg ai)):iQ i e=.ok (ai.map pairD):=by unfold iQ;rw[h,aD];show Rs.ok ((br (ai.map cV)).map λkv=>D.tup (kv.1.map qu))=_;unfold br;rw[dj,dj];rfl
abbrev uS:S:=(aF (vb 5 4)
 (du (iQ 1) (.t [6,7])
 (bh (dY (cB (m2 fU (mV 6) (mV 5))) (cB (gX 3 (mV 7))))
 (aF (fg 3 (mV 7) (mC (.bl true)))
 (eM 4 (mV 7)))
 bp)))
theorem Pp{ac:List Str}{ai:List Ar}(N:ac.length<=8)(hd:∀p∈ai,p.2∈ac){x h:Str}{fs ws:List Str}(w:rc ac ai x ae fs (ws++[h]))(o5 o6 o7:Option W) :
 ∃fs' ws' p6 p7,uS [ab (.d (av ac)),ab (dg ai),ab (.d (.str x)),ab (eu fs),ab (.d (az (ws++[h]))),o5,o6,o7]=.ok (.nx [ab (.d (av ac)),ab (dg ai),ab (.d (.str x)),ab (eu fs'),ab (.d (az ws')),ab (.d (.str h)),p6,p7]) /\
  rc ac ai x ae fs' ws'/\fs.length<=fs'.length/\ws'.length+fs.length=ws.length+fs'.length:=by
 have hnd:=t9.mp w.wnd;have hh:h∈fs:=w.rO h (by simp);have hnw:h∉ws:=λz=>hnd.2.2 h z h (by simp) rfl;obtain⟨e',f1,fs',ws',p6,p7,he,w',hl,hl2,hx,_⟩:=fY (tg:=.t [6,7]) (body:=(bh (dY (cB (m2 fU (mV 6) (mV 5))) (cB (gX 3 (mV 7)))) (aF (fg 3 (mV 7) (mC (.bl true))) (eM 4 (mV 7))) bp))
  (λi e=>∃(fs' ws':List Str) (o6 o7:Option W),e=[ab (.d (av ac)),ab (dg ai),ab (.d (.str x)),ab (eu fs'),ab (.d (az ws')),ab (.d (.str h)),o6,o7]/\rc ac ai x (ab h) fs' ws'/\fs.length<=fs'.length/\ws'.length+fs.length=ws.length+fs'.length/\(∀j p,j<i->ai[j]? = ab p->p.1=h->p.2∈fs')/\h∈fs') (ai.map pairD) 0 (λi d e hi ⟨f1,w1,o6,o7,he,W1,hl,hl2,hx,hf1⟩=>by
   subst he;rw[dX]at hx ⊢;rw[c7]at hi;obtain⟨p,hp,rfl⟩:=gI.mp hi;have hpm:=fj hp;have c1:cB (m2 fU (mV 6) (mV 5)) [ab (.d (av ac)),ab (dg ai),ab (.d (.str x)),ab (eu f1),ab (.d (az w1)),ab (.d (.str h)),ab (.d (.str p.1)),ab (.d (.str p.2))]=.ok (decide (p.1=h)):=bI ((aA rfl rfl rfl).trans (Ff _ _));have c2:cB (gX 3 (mV 7)) [ab (.d (av ac)),ab (dg ai),ab (.d (.str x)),ab (eu f1),ab (.d (az w1)),ab (.d (.str h)),ab (.d (.str p.1)),ab (.d (.str p.2))]=.ok (!decide (p.2∈f1)):=bI (Op rfl rfl);have hl8:f1.length<=8:=dw (lH W1.g.nd W1.g.sub) N;have hw8:w1.length<=8:=dw (lH W1.wnd (λy hy=>W1.g.sub y (W1.rO y hy))) N;by_cases hb:p.1=h/\p.2∉f1
   ·refine⟨[ab (.d (av ac)),ab (dg ai),ab (.d (.str x)),ab (eu f1),ab (.d (az w1)),ab (.d (.str h)),ab (.d (.str p.1)),ab (.d (.str p.2))],[ab (.d (av ac)),ab (dg ai),ab (.d (.str x)),ab (eu (f1++[p.2])),ab (.d (az (w1++[p.2]))),ab (.d (.str h)),ab (.d (.str p.1)),ab (.d (.str p.2))],rfl,?_,f1++[p.2],w1++[p.2],_,_,rfl,⟨⟨?_,λy hy=>?_,λy hy=>?_,ku _ W1.g.x⟩,?_,λy hy=>?_,λy hy hn=>?_⟩,by rw[dI];omega,by rw[dI,dI];simp;omega,λj q hj hq h1=>?_,ku _ hf1⟩
    ·rw[gs (by unfold dY;rw[c1,aD,cM hb.1,aH rfl,c2,dC hb.2];rfl)];rw[aK (P7 (y:=p.2) (fs:=f1) rfl rfl hb.2 (by omega))];rw[sQ (d:=.str p.2) (ds:=w1.map D.str) rfl rfl (by rw[aQ];omega)];show Rs.ok (Out.nx [_,_,_,_,ab (W.d (D.lst (w1.map D.str++[.str p.2]))),_,_,_])=_;rw[az,iU];rfl
    ·exact t9.mpr ⟨W1.g.nd,by simp,λa ha b hb'=>by
      have:b=p.2:=by simpa using hb'
      subst this;exactλz=>hb.2 (z ▸ ha)⟩
    ·rcases fk.mp hy with z|z
     ·exact W1.g.sub y z
     ·have:y=p.2:=by simpa using z
      subst this;exact hd p hpm
    ·rcases fk.mp hy with z|z
     ·exact W1.g.r y z
     ·have:y=p.2:=by simpa using z
      subst this;exact .step (W1.g.r p.1 (hb.1 ▸ hf1)) hpm
    ·exact t9.mpr ⟨W1.wnd,by simp,λa ha b hb'=>by
      have:b=p.2:=by simpa using hb'
      subst this;exactλz=>hb.2 (z ▸ W1.rO a ha)⟩
    ·rcases fk.mp hy with z|z
     ·exact ku _ (W1.rO y z)
     ·exact ga _ z
    ·rcases fk.mp hy with z|z
     ·rcases W1.ex y z (λq=>hn (ku _ q))with q|q
      ·exact .inl q
      ·exact .inr λr hr h1=>ku _ (q r hr h1)
     ·exact absurd (ga _ z) hn
    ·by_cases hji:j=i
     ·subst hji;rw[hp]at hq;cases hq;simp
     ·exact ku _ (hx j q (by omega) hq h1)
   ·refine⟨[ab (.d (av ac)),ab (dg ai),ab (.d (.str x)),ab (eu f1),ab (.d (az w1)),ab (.d (.str h)),ab (.d (.str p.1)),ab (.d (.str p.2))],[ab (.d (av ac)),ab (dg ai),ab (.d (.str x)),ab (eu f1),ab (.d (az w1)),ab (.d (.str h)),ab (.d (.str p.1)),ab (.d (.str p.2))],rfl,?_,f1,w1,_,_,rfl,W1,hl,hl2,λj q hj hq h1=>?_,hf1⟩
    ·rw[dD (by
      unfold dY;rw[c1,aD];by_cases h1:p.1=h
      ·rw[cM h1,aH rfl,c2,cM (BP λz=>hb ⟨h1,z⟩)];rfl
      ·rw[dC h1,ay cy])]
     rfl
    ·by_cases hji:j=i
     ·subst hji;rw[hp]at hq;cases hq;exact BP λz=>hb ⟨h1,z⟩
     ·exact hx j q (by omega) hq h1) [ab (.d (av ac)),ab (dg ai),ab (.d (.str x)),ab (eu fs),ab (.d (az ws)),ab (.d (.str h)),o6,o7]
  ⟨fs,ws,o6,o7,rfl,⟨w.g,hnd.1,λy hy=>w.rO y (ku _ hy),λy hy hn=>by
   by_cases hyh:y=h
   ·exact .inl (by rw[hyh])
   ·rcases w.ex y hy (λz=>by
     rcases fk.mp z with z|z
     ·exact hn z
     ·exact hyh (by simpa using z))with q|q
    ·cases q
    ·exact .inr q⟩,ba _,rfl,λj p hj=>absurd hj (xb _),hh⟩
 subst he;refine⟨fs',ws',p6,p7,?_,⟨w'.g,w'.wnd,w'.rO,λy hy hn=>.inr ?_⟩,hl,hl2⟩
 ·rw[show uS=aF (vb 5 4) (du (iQ 1) (.t [6,7]) (bh (dY (cB (m2 fU (mV 6) (mV 5))) (cB (gX 3 (mV 7)))) (aF (fg 3 (mV 7) (mC (.bl true))) (eM 4 (mV 7))) bp))from rfl];rw[aK (e':=[ab (.d (av ac)),ab (dg ai),ab (.d (.str x)),ab (eu fs),ab (.d (az ws)),ab (.d (.str h)),o6,o7]) (by
   show(cG (((ws++[h]).map D.str)[((ws++[h]).map D.str).length-1]?)).bind _=_;have e1:((ws++[h]).map D.str)[((ws++[h]).map D.str).length-1]? = ab (.str h):=by simp
   have e2:((ws++[h]).map D.str).dropLast=ws.map D.str:=by simp
   rw[e1,lG,aD,e2];rfl)]
  exact(eV (OA ai rfl)).trans f1
 ·rcases w'.ex y hy hn with q|q
  ·cases q;intro p hp h1;obtain⟨j,hj⟩:=mj hp;exact hx j p (by rw[aQ];have:=(cu.mp hj).1;omega) hj h1
  ·exact q
theorem Eb{ac:List Str}{ai:List Ar}(N:ac.length<=8)(hd:∀p∈ai,p.2∈ac){x:Str}:∀(n:Nat) (fs ws:List Str) (o5 o6 o7:Option W),rc ac ai x ae fs ws->(ac.length-fs.length)+ws.length<n ->
 ∃fs' p5 p6 p7,iZ (mZ (mV 4)) uS n [ab (.d (av ac)),ab (dg ai),ab (.d (.str x)),ab (eu fs),ab (.d (az ws)),o5,o6,o7]=.ok (.nx [ab (.d (av ac)),ab (dg ai),ab (.d (.str x)),ab (eu fs'),ab (.d (az [])),p5,p6,p7])/\rc ac ai x ae fs' []
 |0,_,_,_,_,_,_,h=>absurd h (xb _)
 |n+1,fs,ws,o5,o6,o7,w,h=>by
  have hc:mZ (mV 4) [ab (.d (av ac)),ab (dg ai),ab (.d (.str x)),ab (eu fs),ab (.d (az ws)),o5,o6,o7]=.ok (!(ws.map D.str).isEmpty):=rfl;rcases List.eq_nil_or_concat ws with rfl|⟨ws1,y,rfl⟩
  ·exact⟨fs,o5,o6,o7,by rw[iZ,hc];rfl,w⟩
  ·rw[List.concat_eq_append]at w h hc ⊢;obtain⟨fs',ws',p6,p7,f1,w',l1,l2⟩:=Pp N hd w o5 o6 o7;have l3:fs'.length<=ac.length:=lH w'.g.nd w'.g.sub;obtain⟨fs2,q5,q6,q7,f2,w2⟩:=Eb N hd n fs' ws' (ab (.d (.str y))) p6 p7 w' (by rw[dI]at h;simp at h;omega);refine⟨fs2,q5,q6,q7,?_,w2⟩;rw[iZ,hc,show(!((ws1++[y]).map D.str).isEmpty)=true by simp,aD,aH rfl,f1,aD];exact f2
theorem Oe{ac:List Str}{ai:List Ar}(N:ac.length<=8)(hd:∀p∈ai,p.2∈ac){x:Str}(hx:x∈ac):nA [.d (av ac),dg ai,.d (.str x)]=.ok (.d (az (bP ac ai x))):=by
 have w0:rc ac ai x ae [x] [x]:=⟨⟨by simp,λy hy=>by simp at hy;subst hy;exact hx,λy hy=>by simp at hy;subst hy;exact .refl,by simp⟩,by simp,λy hy=>hy,λy hy hn=>absurd hy hn⟩;obtain⟨fs,p5,p6,p7,f1,w⟩:=Eb N hd 20 [x] [x] ae ae ae w0 (by have:=N;simp;omega);have hcl:pf ai fs:=λp hp h1=>by
  rcases w.ex p.1 h1 (by simp)with q|q
  ·cases q
  ·exact q p hp rfl
 unfold nA HZ;rw[HW];rw[aK (e':=[ab (.d (av ac)),ab (dg ai),ab (.d (.str x)),ab (eu [x]),ae,ae,ae,ae]) rfl];rw[aK (e':=[ab (.d (av ac)),ab (dg ai),ab (.d (.str x)),ab (eu [x]),ab (.d (az [x])),ae,ae,ae]) (bN (Ft rfl))];rw[aK (show sI 20 (mZ (mV 4)) uS _=_ from f1)];have hc:c9 (.n 1) (cB (eF 0 (mV 1))) (mV 1) [ab (eu fs),ae] (ac.map D.str)=.ok ((ac.filter (rch ai x)).map D.str):=
  gE D.str D.str _ ac λy _=>⟨[ab (eu fs),ab (.d (.str y))],rfl,bI ((L1 rfl rfl).trans (by rw[CW (w.g.iff hcl)])),λ_=>rfl⟩
 rw[eU (bU (e9 (eA (x:=av ac) rfl rfl) (by rw[aQ];have:=N;omega) hc))];rfl
end Mr
namespace Mr
open PySem Mi
theorem QB{X:D}(rows:List (List Str))(hX:rg X=.ok (rows.map cS))(hr:∀r∈rows,r.length<=1000)(hl:rows.length<=1000):∃ks,iO [.d X]=.ok (.dt (br ks))/\∀k,k∈ks↔∃r∈rows,k=r\/k=r.reverse:=by
 obtain⟨e',f1,ks,o2,he,h1,h2⟩:=fY (tg:=.n 2) (body:=(aF (fg 1 (mV 2) (mC (.bl true)))
 (fg 1 (m1 nk (mV 2)) (mC (.bl true)))))
  (λi e=>∃(ks:List (List Str)) (o2:Option W),e=[ab (.d X),ab (.dt (br ks)),o2]/\ks.length<=2*i/\∀k,k∈ks↔∃r∈rows.take i,k=r\/k=r.reverse) (rows.map cS) 0 (λi d e hi ⟨ks,o2,he,h1,h2⟩=>by
   subst he;rw[dX]at h1 h2 ⊢;rw[c7]at hi;obtain⟨r,hp,rfl⟩:=gI.mp hi;have il:=(cu.mp hp).1;have rm:=fj hp;have l1:=vf ks r;have l2:=vf (gL ks r) r.reverse;refine⟨[ab (.d X),ab (.dt (br ks)),ab (.d (cS r))],[ab (.d X),ab (.dt (br (gL (gL ks r) r.reverse))),ab (.d (cS r))],rfl,?_,_,_,rfl,by omega,λk=>?_⟩
   ·rw[aK (wf (ks:=ks) (r:=r) rfl rfl (by omega))];refine wf (ks:=gL ks r) (r:=r.reverse) ?_ rfl (by omega);show nk (cS r)=_;unfold nk cS;dsimp only;rw[aO (by rw[aQ];exact hr r rm),List.map_reverse]
   ·rw[uF,uF,h2,Bg,hp];simp only[BD,fk,ej];constructor
    ·rintro((⟨x,hx,e⟩|e)|e)
     ·exact⟨x,.inl hx,e⟩
     ·exact⟨r,.inr rfl,.inl e⟩
     ·exact⟨r,.inr rfl,.inr e⟩
    ·rintro⟨x,hx|rfl,e⟩
     ·exact .inl (.inl ⟨x,hx,e⟩)
     ·rcases e with e|e
      ·exact .inl (.inr e)
      ·exact .inr e) [ab (.d X),ab (.dt (br [])),ae] ⟨[],ae,rfl,by simp,by simp⟩
 subst he;refine⟨ks,?_,λk=>by rw[h2 k,dX,aQ,wU]⟩;unfold iO yT;rw[o0];rw[show([ab (W.d X)]++cx (3-1) ae)=[ab (W.d X),ae,ae]from rfl];rw[aK (e':=[ab (.d X),ab (.dt (br [])),ae]) rfl];rw[aK ((eV (eA (x:=X) rfl hX)).trans f1)];rfl
theorem Ks{X:D}(T:List Ar)(hX:rg X=.ok (T.map pairD))(hl:T.length<=1000):∃St:List Ar,iO [.d X]=.ok (.dt (br (St.map cV)))/\∀p,p∈St↔p∈T\/(p.2,p.1)∈T:=by
 obtain⟨ks,h1,h2⟩:=QB (X:=X) (T.map cV) (by rw[hX,dj];rfl) (λr hr=>by
  obtain⟨p,_,rfl⟩:=bu.mp hr;show(2:Nat)<=1000;decide) (by rw[aQ];exact hl)
 have form:∀k∈ks,cV (k.getD 0 eP,k.getD 1 eP)=k:=λk hk=>by
  obtain⟨r,hr,e⟩:=(h2 k).mp hk;obtain⟨p,_,rfl⟩:=bu.mp hr;rcases e with rfl|rfl<;>rfl
 refine⟨ks.map λk=>(k.getD 0 eP,k.getD 1 eP),?_,λp=>?_⟩
 ·rw[h1,dj]
  congr 3
  exact(List.map_id ks).symm.trans (nO λk hk=>(form k hk).symm)
 ·constructor
  ·intro h;obtain⟨k,hk,rfl⟩:=bu.mp h;obtain⟨r,hr,e⟩:=(h2 k).mp hk;obtain⟨p,hp,rfl⟩:=bu.mp hr;rcases e with rfl|rfl
   ·exact .inl hp
   ·exact .inr hp
  ·intro h;rcases h with h|h
   ·exact bu.mpr ⟨cV p,(h2 _).mpr ⟨cV p,bu.mpr ⟨p,h,rfl⟩,.inl rfl⟩,rfl⟩
   ·exact bu.mpr ⟨cV p,(h2 _).mpr ⟨cV (p.2,p.1),bu.mpr ⟨_,h,rfl⟩,.inr rfl⟩,rfl⟩
noncomputable def iY (ac:List Str) (St:List Ar) (acc:List (List Str)) (x:Str):List (List Str):=if 1<(bP ac St x).length/\bP ac St x∉acc then acc++[bP ac St x]else acc
noncomputable def isl (ac:List Str) (St:List Ar) (xs:List Str):List (List Str):=xs.foldl (iY ac St) []
theorem E8(ac:List Str)(St:List Ar){i:Nat}{x:Str}{xs:List Str}(h:xs[i]? = ab x):isl ac St (xs.take (i+1))=iY ac St (isl ac St (xs.take i)) x:=by unfold isl;rw[Bg,h,BD,List.foldl_append];rfl
theorem PB{ac:List Str}{St:List Ar}{acc:List (List Str)}{x:Str}{l:List Str}(h:l∈iY ac St acc x):l∈acc\/(l=bP ac St x/\1<l.length):=by
 unfold iY at h;split at h
 ·rename_i c;rcases fk.mp h with h|h
  ·exact .inl h
  ·have:l=bP ac St x:=by simpa using h
   subst this;exact .inr ⟨rfl,c.1⟩
 ·exact .inl h
theorem Fp{ac:List Str}{St:List Ar}:∀(xs:List Str) (acc:List (List Str)) {l:List Str},l∈xs.foldl (iY ac St) acc->l∈acc\/∃x∈xs,l=bP ac St x/\1<l.length
 |[],acc,l,h=>.inl h
 |x::r,acc,l,h=>by
  rcases Fp r _ h with h|⟨y,hy,e⟩
  ·rcases PB h with h|h
   ·exact .inl h
   ·exact .inr ⟨x,ce,h⟩
  ·exact .inr ⟨y,c6 _ hy,e⟩
theorem Es{ac:List Str}{St:List Ar}{xs:List Str}{l:List Str}(h:l∈isl ac St xs):∃x∈xs,l=bP ac St x/\1<l.length:=by
 rcases Fp xs [] h with h|h
 ·cases h
 ·exact h
theorem Lc(ac:List Str)(St:List Ar)(acc:List (List Str))(x:Str):(iY ac St acc x).length<=acc.length+1:=by
 unfold iY;split
 ·rw[dI];simp
 ·omega
theorem D4{ac:List Str}{St:List Ar}:∀(xs:List Str) (acc:List (List Str)),(xs.foldl (iY ac St) acc).length<=acc.length+xs.length
 |[],acc=>by simp
 |x::r,acc=>by
  have:=D4 (ac:=ac) (St:=St) r (iY ac St acc x);have:=Lc ac St acc x;rw[List.foldl_cons,dW];omega
theorem HJ(ac:List Str)(St:List Ar)(xs:List Str):(isl ac St xs).length<=xs.length:=by have:=D4 (ac:=ac) (St:=St) xs [];unfold isl;simpa using this
def Sy(St:List Ar):Prop:=∀p∈St,(p.2,p.1)∈St
theorem Sy.back{St:List Ar}(s:Sy St){x y:Str}(h:ft St x y):ft St y x:=by
 have tr:∀{a b c:Str},ft St b c->ft St a b->ft St a c:=λ{a b c} h g=>by
  induction h with
  |refl=>exact g
  |step _ q ih=>exact .step ih q
 induction h with
 |refl=>exact .refl
 |step _ q ih=>exact tr ih (.step .refl (s _ q))
theorem HH{St:List Ar}{a b c:Str}(g:ft St a b)(h:ft St b c):ft St a c:=by
 induction h with
 |refl=>exact g
 |step _ q ih=>exact .step ih q
theorem Lb{ac:List Str}{St:List Ar}(s:Sy St){x y:Str}(h:ft St x y):bP ac St x=bP ac St y:=by unfold bP;refine Bc λz _=>?_;rw[w6,uW,uW];exact⟨λg=>HH (s.back h) g,λg=>HH h g⟩
theorem HN{ac:List Str}{St:List Ar}{x y:Str}:y∈bP ac St x↔y∈ac/\ft St x y:=by unfold bP;rw[fG,uW]
theorem RA{ac:List Str}{St:List Ar}(s:Sy St){xs:List Str}{x:Str}(hx:x∈ac):((isl ac St xs).any λl=>decide (x∈l))=decide (bP ac St x∈isl ac St xs):=by
 rw[w6,List.any_eq_true,jm];constructor
 ·rintro⟨l,hl,h⟩;obtain⟨y,_,rfl,_⟩:=Es hl;rw[jm,HN]at h;rw[<- Lb s h.2];exact hl
 ·intro h;exact⟨_,h,by rw[jm,HN];exact⟨hx,.refl⟩⟩
def bZ(ls:List (List Str)):D:=.lst (ls.map az)
theorem Ea(l:List Str){a:E}{e:Mi.Env}(h:a e=.ok (az l)):mN cH [a] e=.ok (.int (l.length:Int)):=(iK h).trans (by unfold az;rw[Nc,aQ])
theorem Ph{ac:List Str}{T:List Ar}{X:D}(h8:ac.length<=8)(hX:rg X=.ok (T.map pairD))(hl:T.length<=1000)(hin:∀p∈T,p.1∈ac/\p.2∈ac){St:List Ar}(hb:iO [.d X]=.ok (.dt (br (St.map cV))))(hs:∀p,p∈St↔p∈T\/(p.2,p.1)∈T) :
 qS [.d (av ac),.d X]=.ok (.d (bZ (isl ac St ac))):=by
 have sy:Sy St:=λp hp=>by
  rw[hs]at hp ⊢;exact hp.symm
 have hd:∀p∈St,p.2∈ac:=λp hp=>by
  rcases(hs p).mp hp with h|h
  ·exact(hin _ h).2
  ·exact(hin _ h).1
 obtain⟨e',f1,o4,o5,he⟩:=fY (tg:=.n 4) (body:=(bh (dm (cB (mN rd [(cq [ab 4,ae] (bJ (mV 3)) (.n 1) cO (m2 bz (mV 0) (mV 1)))])))
 (aF (a6 5 (be nA [(wD (mV 0)),(wV 2),(wD (mV 4))]))
 (bh (cB (m2 mX (mN cH [(mV 5)]) (mC (.int 1))))
 (eM 3 (mV 5))
 bp))
 bp))
  (λi e=>∃o4 o5:Option W,e=[ab (.d (av ac)),ab (.d X),ab (dg St),ab (.d (bZ (isl ac St (ac.take i)))),o4,o5]) (ac.map D.str) 0 (λi d e hi ⟨o4,o5,he⟩=>by
   subst he;rw[dX];rw[c7]at hi;obtain⟨x,hx,rfl⟩:=gI.mp hi;have xm:=fj hx;have il:=(cu.mp hx).1;obtain⟨acc,hacc⟩ : ∃acc,acc=isl ac St (ac.take i):=⟨_,rfl⟩;have al:acc.length<=8:=by have:=HJ ac St (ac.take i);rw[ju]at this;rw[hacc];omega
   have e1:=E8 ac St hx;rw[<- hacc]at e1 ⊢;rw[e1];have cm:c9 (.n 1) cO (m2 bz (mV 0) (mV 1)) [ab (.d (.str x)),ae] (acc.map az)=.ok ((acc.filter λ_=>true).map λl=>D.bl (decide (x∈l))):=gE az (λl=>D.bl (decide (x∈l))) (λ_=>true) acc λl _=>⟨[ab (.d (.str x)),ab (.d (az l))],rfl,rfl,λ_=>(aA rfl rfl rfl).trans (uJ l x)⟩
   rw[mm.mpr (λ_ _=>rfl)]at cm;have ca:mN rd [(cq [ab 4,ae] (bJ (mV 3)) (.n 1) cO (m2 bz (mV 0) (mV 1)))] [ab (.d (av ac)),ab (.d X),ab (dg St),ab (.d (bZ acc)),ab (.d (.str x)),o5]=.ok (.bl (decide (bP ac St x∈acc))):=
    (iK (e9 (ρ:=[ab 4,ae]) (eA (a:=mV 3) (x:=bZ acc) rfl rfl) (by rw[aQ];omega) cm)).trans (by
     rw[Mj,DF,lG,aD,ue,hacc,<- RA sy xm];rfl)
   have ct:dm (cB (mN rd [(cq [ab 4,ae] (bJ (mV 3)) (.n 1) cO (m2 bz (mV 0) (mV 1)))])) [ab (.d (av ac)),ab (.d X),ab (dg St),ab (.d (bZ acc)),ab (.d (.str x)),o5]=.ok (!decide (bP ac St x∈acc)):=kH (bI ca);by_cases hm:bP ac St x∈acc
   ·rw[cM hm]at ct;refine⟨[ab (.d (av ac)),ab (.d X),ab (dg St),ab (.d (bZ acc)),ab (.d (.str x)),o5],[ab (.d (av ac)),ab (.d X),ab (dg St),ab (.d (bZ acc)),ab (.d (.str x)),o5],rfl,(dD ct).trans rfl,ab (.d (.str x)),o5,?_⟩;unfold iY;rw[ay (λz=>z.2 hm)]
   ·rw[dC hm]at ct;have s5:a6 5 (be nA [(wD (mV 0)),(wV 2),(wD (mV 4))]) [ab (.d (av ac)),ab (.d X),ab (dg St),ab (.d (bZ acc)),ab (.d (.str x)),o5]=.ok (.nx [ab (.d (av ac)),ab (.d X),ab (dg St),ab (.d (bZ acc)),ab (.d (.str x)),ab (.d (az (bP ac St x)))]):=
     bN (qY (f:=nA) (x:=.d (av ac)) (y:=dg St) (z:=.d (.str x)) rfl rfl rfl (Oe h8 hd xm))
    have cg:=bI (aA (Ea (bP ac St x) (a:=mV 5) (e:=[ab (.d (av ac)),ab (.d X),ab (dg St),ab (.d (bZ acc)),ab (.d (.str x)),ab (.d (az (bP ac St x)))]) rfl) rfl (GG ((bP ac St x).length:Int) 1) (b:=mC (.int 1)));by_cases hg:1<(bP ac St x).length
    ·rw[cM (by omega)]at cg;refine⟨[ab (.d (av ac)),ab (.d X),ab (dg St),ab (.d (bZ acc)),ab (.d (.str x)),o5],[ab (.d (av ac)),ab (.d X),ab (dg St),ab (.d (bZ (acc++[bP ac St x]))),ab (.d (.str x)),ab (.d (az (bP ac St x)))],rfl,(gs ct).trans ((aK s5).trans ((gs cg).trans ?_)),ab (.d (.str x)),ab (.d (az (bP ac St x))),?_⟩
     ·rw[sQ (d:=az (bP ac St x)) (ds:=acc.map az) rfl rfl (by rw[aQ];omega)];unfold bZ;rw[iU];rfl
     ·unfold iY;rw[aH ⟨hg,hm⟩]
    ·rw[dC (by omega)]at cg;refine⟨[ab (.d (av ac)),ab (.d X),ab (dg St),ab (.d (bZ acc)),ab (.d (.str x)),o5],_,rfl,(gs ct).trans ((aK s5).trans ((dD cg).trans rfl)),ab (.d (.str x)),ab (.d (az (bP ac St x))),?_⟩;unfold iY;rw[ay (λz=>hg z.1)]) [ab (.d (av ac)),ab (.d X),ab (dg St),ab (.d (.lst [])),ae,ae] ⟨ae,ae,rfl⟩
 subst he;rw[dX,aQ,wU]at f1;unfold qS Dy;rw[pZ];rw[show([ab (W.d (av ac)),ab (W.d X)]++cx (6-2) ae)=[ab (W.d (av ac)),ab (W.d X),ae,ae,ae,ae]from rfl];rw[aK (e':=[ab (.d (av ac)),ab (.d X),ab (dg St),ae,ae,ae]) (by
  unfold jX oY iB;rw[cP,show wD (mV 1) [ab (W.d (av ac)),ab (W.d X),ae,ae,ae,ae]=.ok (.d X)from rfl,aD,cP,aD,aD,hb];rfl)]
 rw[aK (e':=[ab (.d (av ac)),ab (.d X),ab (dg St),ab (.d (.lst [])),ae,ae]) (bN (lF _))];rw[aK ((eV (eA (a:=mV 0) (x:=av ac) rfl rfl)).trans f1)];rfl
end Mr
namespace Mr
open PySem Mi
def Fm(ac il:List Str):Prop:=il=ac.filter λy=>decide (y∈il)
theorem Rt(ac:List Str)(p:Str->Bool):Fm ac (ac.filter p):=by unfold Fm;refine Bc λy hy=>?_;rw[w6,jm,fG];exact⟨λh=>⟨hy,h⟩,λh=>h.2⟩
theorem M7:∀{ac:List Str} {x:Str},ac.Nodup->x∈ac->Fm ac [x]:=λ{ac x} nd hx=>by
 unfold Fm
 induction ac with
 |nil=>cases hx
 |cons a r ih=>
  have nd:=jO.mp nd;rw[Be];by_cases h:a=x
  ·subst h;rw[aH (by simp),List.filter_eq_nil_iff.mpr];intro y hy;simp only[ej,fV];exactλz=>nd.1 (z ▸ hy)
  ·rw[ay (by simpa using h)];rcases bA.mp hx with z|z
   ·exact absurd z.symm h
   ·exact ih nd.2 z
structure Gi(ac:List Str)(St:List Ar)(x:Str)(il:List Str):Prop where
 fm:Fm ac il
 g:Good ac St x il
theorem Gi.len{ac:List Str}{St:List Ar}{x:Str}{il:List Str}(g:Gi ac St x il):il.length<=ac.length:=lH g.g.nd g.g.sub
theorem Rj(a b:Bool):de (.bl a) (.bl b)=.ok (.bl (!(a==b))):=aO (by show(0:Nat)<=16;decide)
theorem OU(acc:List (List Str))(l:List Str):((acc.map az).any λe=>bn e (az l))=decide (l∈acc):=by
 induction acc with
 |nil=>rfl
 |cons a r ih=>
  rw[bO,iH,ih];have:bn (az a) (az l)=decide (a=l):=by unfold az;rw[bn,zI]
  rw[this];by_cases h:a=l
  ·subst h;simp
  ·simp[h,cR h]
theorem Ig:∀acc:List (List Str),dN (acc.map az)<=16
 |[]=>by simp
 |a::r=>by
  have:=Ig r;rw[bO,zF];have:(az a).dep=1:=by unfold az;rw[OS,vI]
  omega
theorem Lv{ac:List Str}{T:List Ar}(nd:ac.Nodup)(h8:ac.length<=8)(hl:T.length<=1000)(hin:∀p∈T,p.1∈ac/\p.2∈ac){St:List Ar}(hs:∀p,p∈St↔p∈T\/(p.2,p.1)∈T) :
 qv [.d (av ac),.d (aZ T)]=.ok (.d (bZ (isl ac St ac))):=by
 have sy:Sy St:=λp hp=>by
  rw[hs]at hp ⊢;exact hp.symm
 have inner:∀{x:Str} (o2 o3 o5 o6 o7:Option W) (il:List Str),Gi ac St x il->∃(il':List Str) (p6 p7:Option W),ii (.t [6,7]) (bh (cB (m2 de (m2 bz (mV 6) (mV 4)) (m2 bz (mV 7) (mV 4))))
 (aF (a6 4 (m2 bq (mV 4) (mN dP [(mV 6),(mV 7)])))
 (a6 4 (cq [ab 4,ae] (bJ (mV 0)) (.n 1) (cB (m2 bz (mV 1) (mV 0))) (mV 1))))
 bp) (T.map pairD) [ab (.d (av ac)),ab (.d (aZ T)),o2,o3,ab (.d (az il)),o5,o6,o7]=.ok (.nx [ab (.d (av ac)),ab (.d (aZ T)),o2,o3,ab (.d (az il')),o5,p6,p7])/\Gi ac St x il'/\(il.length<il'.length\/(il'=il/\pf St il)):=by
  intro x o2 o3 o5 o6 o7 il g;obtain⟨e',f1,il',p6,p7,he,g',hc⟩:=fY (tg:=.t [6,7]) (body:=(bh (cB (m2 de (m2 bz (mV 6) (mV 4)) (m2 bz (mV 7) (mV 4))))
 (aF (a6 4 (m2 bq (mV 4) (mN dP [(mV 6),(mV 7)])))
 (a6 4 (cq [ab 4,ae] (bJ (mV 0)) (.n 1) (cB (m2 bz (mV 1) (mV 0))) (mV 1))))
 bp))
   (λi e=>∃(il':List Str) (o6 o7:Option W),e=[ab (.d (av ac)),ab (.d (aZ T)),o2,o3,ab (.d (az il')),o5,o6,o7]/\Gi ac St x il'/\(il.length<il'.length\/(il'=il/\∀j p,j<i->T[j]? = ab p->(p.1∈il↔p.2∈il)))) (T.map pairD) 0 (λi d e hi ⟨m1,o6,o7,he,g1,hc⟩=>by
    subst he;rw[dX]at hc ⊢;rw[c7]at hi;obtain⟨p,hp,rfl⟩:=gI.mp hi;have hpm:=fj hp;have c1:cB (m2 de (m2 bz (mV 6) (mV 4)) (m2 bz (mV 7) (mV 4))) [ab (.d (av ac)),ab (.d (aZ T)),o2,o3,ab (.d (az m1)),o5,ab (.d (.str p.1)),ab (.d (.str p.2))]=.ok (!(decide (p.1∈m1)==decide (p.2∈m1))):=
     bI (aA ((aA rfl rfl rfl).trans (uJ m1 p.1)) ((aA rfl rfl rfl).trans (uJ m1 p.2)) (Rj _ _))
    have ml:=g1.len;by_cases hb:(p.1∈m1↔p.2∈m1)
    ·rw[yM.mpr hb,BEq.rfl]at c1;refine⟨[ab (.d (av ac)),ab (.d (aZ T)),o2,o3,ab (.d (az m1)),o5,ab (.d (.str p.1)),ab (.d (.str p.2))],_,rfl,(dD c1).trans rfl,m1,_,_,rfl,g1,?_⟩;rcases hc with h|⟨rfl,h⟩
     ·exact .inl h
     ·refine .inr ⟨rfl,λj q hj hq=>?_⟩;by_cases hji:j=i
      ·subst hji;rw[hp]at hq;cases hq;exact hb
      ·exact h j q (by omega) hq
    ·rw[show(decide (p.1∈m1)==decide (p.2∈m1))=false by
      rw[Ja];intro z;exact hb (yM.mp (eq_of_beq z))]at c1
     obtain⟨il2,h2⟩ : ∃il2,il2=ac.filter λy=>decide (y∈m1++[p.1,p.2]):=⟨_,rfl⟩;have s1:a6 4 (m2 bq (mV 4) (mN dP [(mV 6),(mV 7)])) [ab (.d (av ac)),ab (.d (aZ T)),o2,o3,ab (.d (az m1)),o5,ab (.d (.str p.1)),ab (.d (.str p.2))]=.ok (.nx [ab (.d (av ac)),ab (.d (aZ T)),o2,o3,ab (.d (az (m1++[p.1,p.2]))),o5,ab (.d (.str p.1)),ab (.d (.str p.2))]):=by refine bN (aA (x:=az m1) (y:=.lst [.str p.1,.str p.2]) rfl ((vM rfl rfl).trans (aO (by show(2:Nat)<=_;decide))) ((MT _ _).trans ((aO (by rw[aQ];simp;omega)).trans ?_)));unfold az;rw[iU];rfl
     have cm:c9 (.n 1) (cB (m2 bz (mV 1) (mV 0))) (mV 1) [ab (.d (az (m1++[p.1,p.2]))),ae] (ac.map D.str)=.ok (il2.map D.str):=by rw[h2];exact gE D.str D.str (λy=>decide (y∈m1++[p.1,p.2])) ac λy _=>⟨[ab (.d (az (m1++[p.1,p.2]))),ab (.d (.str y))],rfl,bI ((aA rfl rfl rfl).trans (uJ _ _)),λ_=>rfl⟩
     have s2:a6 4 (cq [ab 4,ae] (bJ (mV 0)) (.n 1) (cB (m2 bz (mV 1) (mV 0))) (mV 1)) [ab (.d (av ac)),ab (.d (aZ T)),o2,o3,ab (.d (az (m1++[p.1,p.2]))),o5,ab (.d (.str p.1)),ab (.d (.str p.2))]=.ok (.nx [ab (.d (av ac)),ab (.d (aZ T)),o2,o3,ab (.d (az il2)),o5,ab (.d (.str p.1)),ab (.d (.str p.2))]):=
      bN (e9 (ρ:=[ab 4,ae]) (eA (a:=mV 0) (x:=av ac) rfl rfl) (by rw[aQ];omega) cm)
     have m2':∀y,y∈il2↔y∈m1\/y=p.1\/y=p.2:=λy=>by
      rw[h2,fG,jm,fk];simp only[bA,rC,or_false];exact⟨λh=>h.2,λh=>⟨by
       rcases h with h|rfl|rfl
       ·exact g1.g.sub y h
       ·exact(hin _ hpm).1
       ·exact(hin _ hpm).2,h⟩⟩
     have st1:(p.1,p.2)∈St:=(hs _).mpr (.inl hpm);have st2:(p.2,p.1)∈St:=(hs _).mpr (.inr hpm);have both:ft St x p.1/\ft St x p.2:=by
      by_cases q:p.1∈m1
      ·exact⟨g1.g.r _ q,.step (g1.g.r _ q) st1⟩
      ·have q2:p.2∈m1:=BP λz=>hb ⟨λh=>absurd h q,λh=>absurd h z⟩;exact⟨.step (g1.g.r _ q2) st2,g1.g.r _ q2⟩
     have lW:il2.Nodup:=by rw[h2];exact nd.filter _
     have lt:m1.length<il2.length:=by
      obtain⟨z,hz1,hz2⟩ : ∃z,z∉m1/\z∈il2:=by
       by_cases q:p.1∈m1
       ·exact⟨p.2,λz=>hb ⟨λ_=>z,λ_=>q⟩,(m2' _).mpr (.inr (.inr rfl))⟩
       ·exact⟨p.1,q,(m2' _).mpr (.inr (.inl rfl))⟩
      have:=lH (l:=z::m1) (m:=il2) (jO.mpr ⟨hz1,g1.g.nd⟩) (λy hy=>by
       rcases bA.mp hy with rfl|hy
       ·exact hz2
       ·exact(m2' _).mpr (.inl hy))
      rw[dW]at this;omega
     refine⟨[ab (.d (av ac)),ab (.d (aZ T)),o2,o3,ab (.d (az m1)),o5,ab (.d (.str p.1)),ab (.d (.str p.2))],_,rfl,(gs c1).trans ((aK s1).trans s2),il2,_,_,rfl,⟨by rw[h2];exact Rt _ _,lW,λy hy=>?_,λy hy=>?_,(m2' _).mpr (.inl g1.g.x)⟩,.inl ?_⟩
     ·rw[h2]at hy;exact(fG.mp hy).1
     ·rcases(m2' y).mp hy with h|rfl|rfl
      ·exact g1.g.r y h
      ·exact both.1
      ·exact both.2
     ·rcases hc with h|⟨rfl,_⟩
      ·omega
      ·exact lt) _ ⟨il,o6,o7,rfl,g,.inr ⟨rfl,λj p h=>absurd h (xb _)⟩⟩
  subst he;refine⟨il',p6,p7,f1,g',?_⟩;rcases hc with h|⟨h1,h2⟩
  ·exact .inl h
  ·refine .inr ⟨h1,λp hp h=>?_⟩;rcases(hs p).mp hp with q|q
   ·obtain⟨j,hj⟩:=mj q;exact(h2 j p (by rw[aQ];have:=(cu.mp hj).1;omega) hj).mp h
   ·obtain⟨j,hj⟩:=mj q;exact(h2 j _ (by rw[aQ];have:=(cu.mp hj).1;omega) hj).mpr h
 obtain⟨e',f1,o3,o4,o5,o6,o7,he⟩:=fY (tg:=.n 3) (body:=(aF (a6 4 (mN dP [(mV 3)]))
 (aF (du (gO (mN cH [(mV 0)])) (.n 5)
 (du (bJ (mV 1)) (.t [6,7])
 (bh (cB (m2 de (m2 bz (mV 6) (mV 4)) (m2 bz (mV 7) (mV 4))))
 (aF (a6 4 (m2 bq (mV 4) (mN dP [(mV 6),(mV 7)])))
 (a6 4 (cq [ab 4,ae] (bJ (mV 0)) (.n 1) (cB (m2 bz (mV 1) (mV 0))) (mV 1))))
 bp)))
 (bh (dY (cB (m2 mX (mN cH [(mV 4)]) (mC (.int 1)))) (cB (m2 eQ (mV 4) (mV 2))))
 (eM 2 (mV 4))
 bp))))
  (λi e=>∃o3 o4 o5 o6 o7:Option W,e=[ab (.d (av ac)),ab (.d (aZ T)),ab (.d (bZ (isl ac St (ac.take i)))),o3,o4,o5,o6,o7]) (ac.map D.str) 0 (λi d e hi ⟨o3,o4,o5,o6,o7,he⟩=>by
   subst he;rw[dX];rw[c7]at hi;obtain⟨x,hx,rfl⟩:=gI.mp hi;have xm:=fj hx;obtain⟨acc,hacc⟩ : ∃acc,acc=isl ac St (ac.take i):=⟨_,rfl⟩;have al:acc.length<=8:=by have:=HJ ac St (ac.take i);rw[ju]at this;rw[hacc];omega
   have e1:=E8 ac St hx;rw[<- hacc]at e1 ⊢;rw[e1];have s4:a6 4 (mN dP [(mV 3)]) [ab (.d (av ac)),ab (.d (aZ T)),ab (.d (bZ acc)),ab (.d (.str x)),o4,o5,o6,o7]=.ok (.nx [ab (.d (av ac)),ab (.d (aZ T)),ab (.d (bZ acc)),ab (.d (.str x)),ab (.d (az [x])),o5,o6,o7]):=bN (Ft rfl);obtain⟨e',f2,il,p5,p6,p7,he,g,hc⟩:=fY (tg:=.n 5) (body:=(du (bJ (mV 1)) (.t [6,7])
 (bh (cB (m2 de (m2 bz (mV 6) (mV 4)) (m2 bz (mV 7) (mV 4))))
 (aF (a6 4 (m2 bq (mV 4) (mN dP [(mV 6),(mV 7)])))
 (a6 4 (cq [ab 4,ae] (bJ (mV 0)) (.n 1) (cB (m2 bz (mV 1) (mV 0))) (mV 1))))
 bp)))
    (λi e=>∃(il:List Str) (o5 o6 o7:Option W),e=[ab (.d (av ac)),ab (.d (aZ T)),ab (.d (bZ acc)),ab (.d (.str x)),ab (.d (az il)),o5,o6,o7]/\Gi ac St x il/\(i+1<=il.length\/pf St il)) (d8 0 (ac.length:Int)) 0 (λi d e hi ⟨il,o5,o6,o7,he,g,hc⟩=>by
     subst he;rw[dX]at hc ⊢;obtain⟨il',p6,p7,f3,g',hc'⟩:=inner (x:=x) (ab (.d (bZ acc))) (ab (.d (.str x))) (ab (.d d)) o6 o7 il g;refine⟨_,_,rfl,(eV (eA (x:=aZ T) rfl rfl)).trans f3,il',ab (.d d),p6,p7,rfl,g',?_⟩;rcases hc' with h|⟨rfl,h⟩
     ·rcases hc with h1|h1
      ·exact .inl (by omega)
      ·exact .inr λp hp hm=>by
        have hxm:∀y,y∈il'->y∈il:=λy hy=>h1.all g.g.x (g'.g.r y hy);have:=lH g'.g.nd hxm;omega
     ·exact .inr h) [ab (.d (av ac)),ab (.d (aZ T)),ab (.d (bZ acc)),ab (.d (.str x)),ab (.d (az [x])),o5,o6,o7] ⟨[x],o5,o6,o7,rfl,⟨M7 nd xm,by simp,λy hy=>by simp at hy;subst hy;exact xm,λy hy=>by simp at hy;subst hy;exact .refl,by simp⟩,.inl (by simp)⟩
   subst he;rw[dX,l8]at hc;have hcl:pf St il:=by
    rcases hc with h|h
    ·have:=g.len;omega
    ·exact h
   have eil:il=bP ac St x:=by rw[g.fm];unfold bP;exact Bc λy _=>CW (g.g.iff hcl) y
   subst eil;have cg:=bI (aA (Ea (bP ac St x) (a:=mV 4) (e:=[ab (.d (av ac)),ab (.d (aZ T)),ab (.d (bZ acc)),ab (.d (.str x)),ab (.d (az (bP ac St x))),p5,p6,p7]) rfl) rfl (GG ((bP ac St x).length:Int) 1) (b:=mC (.int 1)));have cn:cB (m2 eQ (mV 4) (mV 2)) [ab (.d (av ac)),ab (.d (aZ T)),ab (.d (bZ acc)),ab (.d (.str x)),ab (.d (az (bP ac St x))),p5,p6,p7]=.ok (!decide (bP ac St x∈acc)):=by refine bI ((aA rfl rfl rfl).trans ?_);show a9 _ _=_;rw[aO (Ig acc),OU]
   have cc:=qq cg λ_=>cn;have lr:gO (mN cH [(mV 0)]) [ab (.d (av ac)),ab (.d (aZ T)),ab (.d (bZ acc)),ab (.d (.str x)),ab (.d (az [x])),o5,o6,o7]=.ok (d8 0 (ac.length:Int)):=j2 ((iK (x:=av ac) rfl).trans (by unfold av;rw[uC,aQ])) (tQ (by omega) (by omega));by_cases hq:1<(bP ac St x).length/\bP ac St x∉acc
   ·rw[show(decide ((1:Int)<((bP ac St x).length:Int)) && !decide (bP ac St x∈acc))=true by
     rw[g6,jm,uh,qQ];exact⟨by omega,hq.2⟩]at cc
    refine⟨[ab (.d (av ac)),ab (.d (aZ T)),ab (.d (bZ acc)),ab (.d (.str x)),o4,o5,o6,o7],[ab (.d (av ac)),ab (.d (aZ T)),ab (.d (bZ (acc++[bP ac St x]))),ab (.d (.str x)),ab (.d (az (bP ac St x))),p5,p6,p7],rfl,(aK s4).trans ((aK ((eV lr).trans f2)).trans ((gs cc).trans ?_)),ab (.d (.str x)),ab (.d (az (bP ac St x))),p5,p6,p7,?_⟩
    ·rw[sQ (d:=az (bP ac St x)) (ds:=acc.map az) rfl rfl (by rw[aQ];omega)];unfold bZ;rw[iU];rfl
    ·unfold iY;rw[aH hq]
   ·rw[show(decide ((1:Int)<((bP ac St x).length:Int)) && !decide (bP ac St x∈acc))=false by
     rw[Ja,ne_eq,g6,jm,uh,qQ];exactλz=>hq ⟨by omega,z.2⟩]at cc
    refine⟨[ab (.d (av ac)),ab (.d (aZ T)),ab (.d (bZ acc)),ab (.d (.str x)),o4,o5,o6,o7],[ab (.d (av ac)),ab (.d (aZ T)),ab (.d (bZ acc)),ab (.d (.str x)),ab (.d (az (bP ac St x))),p5,p6,p7],rfl,(aK s4).trans ((aK ((eV lr).trans f2)).trans ((dD cc).trans rfl)),ab (.d (.str x)),ab (.d (az (bP ac St x))),p5,p6,p7,?_⟩;unfold iY;rw[ay hq]) [ab (.d (av ac)),ab (.d (aZ T)),ab (.d (.lst [])),ae,ae,ae,ae,ae] ⟨ae,ae,ae,ae,ae,rfl⟩
 subst he;rw[dX,aQ,wU]at f1;unfold qv FU;rw[pZ];rw[show([ab (W.d (av ac)),ab (W.d (aZ T))]++cx (8-2) ae)=[ab (W.d (av ac)),ab (W.d (aZ T)),ae,ae,ae,ae,ae,ae]from rfl];rw[aK (e':=[ab (.d (av ac)),ab (.d (aZ T)),ab (.d (.lst [])),ae,ae,ae,ae,ae]) (bN (lF _))];rw[aK ((eV (eA (a:=mV 0) (x:=av ac) rfl rfl)).trans f1)];rfl
end Mr
namespace Mr
open PySem Mi
open My (words iR jE)
theorem EN:∀ds:List D,im ds ds=ds.map λd=>.tup [d,d]
 |[]=>rfl
 |x::r=>by rw[im,EN r];rfl
theorem Rb(n:Nat){X:D}{ds:List D}(hX:X=.lst ds\/X=.tup ds)(h:∀d∈ds,eW n [.d d,.d d]=.ok (.d (.bl true))):eW (n+1) [.d X,.d X]=.ok (.d (.bl true)):=by
 show eI 2 4 (og (eW n)) _=_;unfold og;rw[nz];have c0:dQ (cB (m1 (cE ["str"]) (mV 1))) (cB (m1 (cE ["int"]) (mV 1))) [ab (.d X),ab (.d X),ae,ae]=.ok false:=by rcases hX with rfl|rfl<;>rfl
 have c1:dQ (cB (m2 de (m1 (cE ["list"]) (mV 0)) (m1 (cE ["list"]) (mV 1)))) (dm (cB (m1 (cE ["list","tuple"]) (mV 0)))) [ab (.d X),ab (.d X),ae,ae]=.ok false:=by rcases hX with rfl|rfl<;>rfl
 have c2:cB (m2 de (mN cH [(mV 0)]) (mN cH [(mV 1)])) [ab (.d X),ab (.d X),ae,ae]=.ok false:=by rcases hX with rfl|rfl<;>exact bI ((aA rfl rfl rfl).trans ((G9 _ _).trans (by rw[cM rfl];rfl)))
 obtain⟨e',f1,o2,o3,he⟩:=fY (tg:=.t [2,3]) (body:=(bh (dm (cB (be (eW n) [(wD (mV 2)),(wD (mV 3))]))) (bB (wD (mC (.bl false)))) bp))
  (λi e=>∃o2 o3:Option W,e=[ab (.d X),ab (.d X),o2,o3]) (ds.map λd=>.tup [d,d]) 0 (λi d e hi ⟨o2,o3,he⟩=>by
   subst he;rw[c7]at hi;obtain⟨x,hx,rfl⟩:=gI.mp hi;have ct:dm (cB (be (eW n) [(wD (mV 2)),(wD (mV 3))])) [ab (.d X),ab (.d X),ab (.d x),ab (.d x)]=.ok false:=by unfold dm;rw[bI (call2 rfl rfl (h x (fj hx)))];rfl
   exact⟨[ab (.d X),ab (.d X),ab (.d x),ab (.d x)],_,rfl,(dD ct).trans rfl,_,_,rfl⟩) [ab (.d X),ab (.d X),ae,ae] ⟨ae,ae,rfl⟩
 subst he;have hit:uH (mV 0) (mV 1) [ab (.d X),ab (.d X),ae,ae]=.ok (ds.map λd=>.tup [d,d]):=by rw[<- EN];rcases hX with rfl|rfl<;>rfl
 exact(congrArg (λr=>Rs.bind r lc) ((aK ((dD c0).trans rfl)).trans ((aK ((dD c1).trans rfl)).trans ((aK ((dD c2).trans rfl)).trans ((aK ((eV hit).trans f1)).trans (eU (bU rfl))))))).trans rfl
theorem QH(n:Nat)(ls:List (List Str)):eW (n+3) [.d (bZ ls),.d (bZ ls)]=.ok (.d (.bl true)):=Rb (n+2) (.inl rfl) λd hd=>by
 obtain⟨l,_,rfl⟩:=bu.mp hd;exact NC n l
theorem Ls{ac:List Str}{St:List Ar}(xs:List Str):freshD (bZ (isl ac St xs))=true:=by
 unfold freshD bZ;refine ua.mpr λy hy=>?_;obtain⟨l,hl,rfl⟩:=bu.mp hy;obtain⟨_,_,_,h⟩:=Es hl;cases l with
 |nil=>simp at h
 |cons a r=>rfl
theorem EO:∀xs:List Str,A.jU (xs.map D.str)=true
 |[]=>rfl
 |x::r=>by rw[bO,A.jU,EO r];rfl
theorem AJ:∀xs:List Ar,A.jU (xs.map pairD)=true
 |[]=>rfl
 |x::r=>by rw[bO,A.jU,AJ r];rfl
theorem LR(ac:List Str)(R S:List Ar):A.iw (cL ac R S)=true:=by unfold cL av aZ;rw[A.iw,A.jU,A.iw,A.jU,A.iw,A.jU,A.iw,EO,AJ,AJ];rfl
theorem Nh{ks:List Nat}{i j:Nat}{a:E}{c:C}{f r:S}{e:Mi.Env}{d:D}(h:a (rh ks e)=.ok d)(hf:freshD d=true)(hi:i<e.length)(hj:j<e.length)(hc:c (e.set i (ab (.d d)))=.ok false):wg ks i j a c f r e=r ((e.set i ae).set j ae):=by unfold wg;rw[h,aD,aH (by rw[hf,cM hi,cM hj];rfl),hc,aD,ay cy]
theorem Gh(ns:List Int)(hl:ns.length<=63):yw [.d (.lst (ns.map D.int))]=.ok (.d (.bl true)):=by
 obtain⟨ac,A0,r,Ci,IN,cw,mw,hm8,hnm⟩:=MM ns 8 (by decide) (by decide);rw[show((8:Nat):Int)=8 from rfl]at Ci;have hw:∀x∈ac,sM [.d (.str x)]=.ok (.d (.bl true)):=λx hx=>by
  rw[hnm]at hx;obtain⟨l,hl,rfl⟩:=bu.mp hx;exact KI (jE cw mw hm8 l hl)
 have G:=IN.gd hw;generalize A0.map (arrOf ac)=A at Ci G;obtain⟨P,hP,nd,sub⟩:=Nm G;have hpo:=OJ G hP;have hlp:=QQ G nd sub;obtain⟨T,hT⟩ : ∃T,T=kg (bT ac A) P:=⟨_,rfl⟩;obtain⟨R,hR⟩ : ∃R,R=dJ ac P:=⟨_,rfl⟩;rw[<- hT,<- hR]at hpo hlp;have tl:T.length<=64:=by rw[hT];exact dw (mi _ _) (dw (mi _ _) (mY G.le))
 have hin:∀p∈T,p.1∈ac/\p.2∈ac:=λp hp=>by
  rw[hT]at hp;exact pb (kW.mp (fG.mp hp).1).1
 obtain⟨St,hb,hs⟩:=Ks (X:=aZ T) T rfl (by omega);have ham:=Ph (X:=aZ T) G.le rfl (by omega) hin hb hs;have hli:=Lv G.nd G.le (by omega) hin hs;obtain⟨L,hL⟩ : ∃L,L=isl ac St ac:=⟨_,rfl⟩;have fr:freshD (bZ L)=true:=by rw[hL];exact Ls ac
 rw[<- hL]at ham hli;have hio:mU [.d (cL ac R T)]=.ok (.d (bZ L)):=by unfold mU D7;rw[o0];rw[show([ab (W.d (cL ac R T))]++cx (1-1) ae)=[ab (W.d (cL ac R T))]from rfl];rw[eU (bU (call2 (f:=qS) (bU (aA rfl rfl (C0 ac R T))) (bU (aA rfl rfl (yY ac R T))) ham))];rfl
 have ha:=QH 1 L;unfold yw ED;rw[uT];rw[show([ab (W.d (.lst (ns.map D.int)))]++cx (6-1) ae)=[ab (W.d (.lst (ns.map D.int))),ae,ae,ae,ae,ae]from rfl];rw[aK (e':=[ab (W.d (.lst (ns.map D.int))),ab (W.d (bf ac A)),ae,ae,ae,ae]) (bN (call2 rfl rfl Ci))];rw[aK (e':=[ab (W.d (.lst (ns.map D.int))),ab (W.d (bf ac A)),ab (W.d (cL ac R T)),ae,ae,ae]) (bN (l0 (f:=qM) rfl hpo))];rw[aK ((dD (kH (p:=true) (bI (call2 (f:=qm) (a:=wD (mV 2)) (b:=wD (mV 1)) rfl rfl hlp)))).trans rfl)];rw[aK (e':=[ab (W.d (.lst (ns.map D.int))),ab (W.d (bf ac A)),ab (W.d (cL ac R T)),ab (.d (bZ L)),ae,ae]) (bN (call2 (f:=qv) (bU (aA rfl rfl (oT ac A))) (bU (aA rfl rfl (yY ac R T))) hli))];rw[Nh (d:=bZ L) (l0 (f:=mU) (x:=.d (cL ac R T)) (bU (by
  show mV 2 [ae,ae,vB (ab (.d (cL ac R T))),ae,ae,ae]=_;rw[show vB (ab (.d (cL ac R T)))=ab (.d (cL ac R T))from aH (LR ac R T)];rfl)) hio) fr (by simp) (by simp) (kH (p:=true) (bI (call2 (f:=eW 4) (x:=.d (bZ L)) (y:=.d (bZ L)) rfl rfl ha)))]
 rw[eU (bU (call2 (f:=eW 4) (x:=.d (bZ L)) (y:=.d (bZ L)) (bU (l0 (f:=mU) (x:=.d (cL ac R T)) rfl hio)) rfl ha))];rfl
end Mr
namespace pV
open PySem L2 PyProof.Rows
abbrev cN:ah:=52
abbrev tN:ah:=48
instance Sf:A.bE:=⟨[(tN,uX "sorted_rows")],λc=>0⟩
theorem walk{l:Bk}{q:bg}{loose:List Str}{XP:(Str->Option ag)->aI->Prop}{YP:aY->aI->Prop}{d:DefRec}{K:Params->aE}(hn:l.most=ab 63)(hdf:d.params.defaults=[])
 (hY:∀(w:aY) (h:aI),YP w h->(K w.params).In h) (hL:∀w:aY,Gf (K w.params)=true) (hK:∀w:aY,(K w.params).lookup tN=ae) (hrec:∃d,(recsOf q).find? (λe=>e.name==("sorted_rows" : Str))=ab d) (htab:∀w:aY,PySem.W.tabIn (K w.params) "sorted_rows" = ab (cN,tN))
 (F:∀(w:aY) (mg:Str->Option ag) (fa:ah) (h:aI),(K w.params).In h->h.Ns mainGlobals mg->mg d.name=ab (.ref fa) ->
  ∃fd:bM,(∀(s:ao) (u:ag),nL s fd ⟨[u],[]⟩ [("_law_script",u)])/\∀base:aI,(K w.params).In base->base.Ns mainGlobals mg->BM mg base->jP base cN tN->bF l.prog w (K w.params) mg base aL 7 fa fd ["_law_script"] A.tR) :
 PySem.W.WalkO q loose XP YP l.row.toRowW d [] (λf vs=>AU f vs):=
 L2.MN (x := "_law_script") (dn := "sorted_rows") (qn:=uX "sorted_rows") (k:=7) rfl hn hdf ⟨rfl,by decide,by decide⟩ hY (λw a o e c=>Oq (hL w) e c) hK hrec htab F
theorem NR{K:aE}{h:aI}{mg:Str->Option ag}(X:K.In h)(G:h.Ns mainGlobals mg)(Cj:gf K mainGlobals "len" = ab ae)(Ck:gf K mainGlobals "range" = ab ae)(Cm:gf K mainGlobals "max" = ab ae)(Co:gf K mainGlobals "min" = ab ae)(Cp:gf K mainGlobals "tuple" = ab ae)(Cq:gf K mainGlobals "list" = ab ae)(Cr:gf K mainGlobals "isinstance" = ab ae)(Cs:gf K mainGlobals "all" = ab ae)(Ct:gf K mainGlobals "any" = ab ae)(Cu:gf K mainGlobals "bool" = ab ae)(Cv:gf K mainGlobals "str" = ab ae)(Cw:gf K mainGlobals "int" = ab ae)(Cy:gf K mainGlobals "zip" = ab ae)(Cz:gf K mainGlobals "enumerate" = ab ae)(CA:gf K mainGlobals "sorted" = ab ae)(CB:gf K mainGlobals "reversed" = ab ae)(CC:gf K mainGlobals "set" = ab ae):Txt mg:=⟨gH X G Cj,gH X G Ck,gH X G Cm,gH X G Co,gH X G Cp,gH X G Cq,gH X G Cr,gH X G Cs,gH X G Ct,gH X G Cu,gH X G Cv,gH X G Cw,gH X G Cy,gH X G Cz,gH X G CA,gH X G CB,gH X G CC⟩
theorem O6{l:Bk}{w:aY}{K:aE}{mg:Str->Option ag}{fa:ah}(hfa:mg "law" = ab (.ref fa))(T:Txt mg)(JY:dh K mg "refuse_strangers" xX ["names","asked"])(JZ:dh K mg "are_tied" y4 ["net","one","other"])(J0:dh K mg "pairs_of" yi ["names"])(J1:dh K mg "ties_of" yI ["net"])(CD:vL K mg "sorted_rows" zl ["names","rows"] cN)(J2:dh K mg "corners_of" yE ["net"])(J3:dh K mg "ties_left" yZ ["ties","arrows"])(J4:dh K mg "is_straight" zE ["one","middle","other","tied","bent"])(J5:dh K mg "rows_for" zt ["tail","head","names","tied","bent","told"])(J6:dh K mg "both_ways" zw ["rows"])(J7:dh K mg "reasons_by" zr ["names","ties","corners"])(J8:dh K mg "picture_by" zb ["names","ties","corners"])(J9:dh K mg "picture_of" yo ["net"])(Ka:dh K mg "names_along" yW ["names","steps","name"])(Kb:dh K mg "islands_among" An ["names","ties"])(Kc:dh K mg "islands_of" yN ["picture"])(Ke:dh K mg "_law_cell" yH ["_law_script","_law_k"])(Kf:dh K mg "_law_words" yA ["_law_cell_here","_law_many"])(Kg:dh K mg "_law_ranks" y6 ["_law_cell_here","_law_many"])(Kh:dh K mg "_law_net" xT ["_law_script","_law_most"])(Ki:dh K mg "_law_alike" z0 ["_law_found","_law_due"])(Kj:dh K mg "_law_tied" Au ["_law_net_here","_law_one","_law_other"])(Kk:dh K mg "_law_ties" xQ ["_law_net_here"])(Kl:dh K mg "_law_pairs" yG ["_law_found","_law_names"])(Km:dh K mg "_law_picture" zj ["_law_found","_law_net_here"])(Kn:dh K mg "_law_islands" zW ["_law_names","_law_ties_here"])(Ko:dh K mg "law" AF ["_law_script"]) :
 ∃fd:bM,(∀(s:ao) (u:ag),nL s fd ⟨[u],[]⟩ [("_law_script",u)])/\∀base:aI,K.In base->base.Ns mainGlobals mg->BM mg base->jP base cN tN->bF l.prog w K mg base aL 7 fa fd ["_law_script"] A.tR:=
 dh.Ml Ko hfa λbase kb nb hB hC f fd F=>by
  have BX:=JY.cal (P:=l.prog) (w:=w) (base:=base) (CX:=aL) λf fd F=>QC F T;have rM:=JZ.cal (P:=l.prog) (w:=w) (base:=base) (CX:=aL) λf fd F=>Pg F T BX;have my:=J0.cal (P:=l.prog) (w:=w) (base:=base) (CX:=aL) λf fd F=>O8 F T;have B3:=J1.cal (P:=l.prog) (w:=w) (base:=base) (CX:=aL) λf fd F=>Qe F T rM my;have rN:=CD.cal (P:=l.prog) (w:=w) (base:=base) (CX:=aL) λf fd F=>KY F T hB hC (ej.mpr rfl);have B4:=J2.cal (P:=l.prog) (w:=w) (base:=base) (CX:=aL) λf fd F=>P9 F T rM rN my;have BZ:=J3.cal (P:=l.prog) (w:=w) (base:=base) (CX:=aL) λf fd F=>Qb F T;have xH:=J4.cal (P:=l.prog) (w:=w) (base:=base) (CX:=aL) λf fd F=>Md F T;have BY:=J5.cal (P:=l.prog) (w:=w) (base:=base) (CX:=aL) λf fd F=>O3 F T my xH;have pW:=J6.cal (P:=l.prog) (w:=w) (base:=base) (CX:=aL) λf fd F=>Kt F T;have B0:=J7.cal (P:=l.prog) (w:=w) (base:=base) (CX:=aL) λf fd F=>Q4 F T BY pW;have B5:=J8.cal (P:=l.prog) (w:=w) (base:=base) (CX:=aL) λf fd F=>MO F T rN BZ B0;have Cc:=J9.cal (P:=l.prog) (w:=w) (base:=base) (CX:=aL) λf fd F=>K9 F T B3 B4 B5;have B6:=Ka.cal (P:=l.prog) (w:=w) (base:=base) (CX:=aL) λf fd F=>Mw F T;have B7:=Kb.cal (P:=l.prog) (w:=w) (base:=base) (CX:=aL) λf fd F=>PQ F T B6 pW;have xK:=Kc.cal (P:=l.prog) (w:=w) (base:=base) (CX:=aL) λf fd F=>LC F T B7;have pY:=Ke.cal (P:=l.prog) (w:=w) (base:=base) (CX:=aL) λf fd F=>NZ F T;have B8:=Kf.cal (P:=l.prog) (w:=w) (base:=base) (CX:=aL) λf fd F=>Ny F T;have B9:=Kg.cal (P:=l.prog) (w:=w) (base:=base) (CX:=aL) λf fd F=>Kr F T;have Cd:=Kh.cal (P:=l.prog) (w:=w) (base:=base) (CX:=aL) λf fd F=>NE F T pY B8 B9;have n6:=Pl (P:=l.prog) (w:=w) (base:=base) (CX:=aL) Ki λf fd F self=>Gg F T self;have Ca:=Kj.cal (P:=l.prog) (w:=w) (base:=base) (CX:=aL) λf fd F=>MR F T;have Cb:=Kk.cal (P:=l.prog) (w:=w) (base:=base) (CX:=aL) λf fd F=>PF F T Ca;have xJ:=Kl.cal (P:=l.prog) (w:=w) (base:=base) (CX:=aL) λf fd F=>Pk F T;have Ce:=Km.cal (P:=l.prog) (w:=w) (base:=base) (CX:=aL) λf fd F=>NU F T Cb xJ;have Cf:=Kn.cal (P:=l.prog) (w:=w) (base:=base) (CX:=aL) λf fd F=>Qa F T;exact A.Od (Rf F T Cc xK Cd n6 Ce Cf) λns hl=>by first|exact Mr.Gh ns|exact Mr.Gh ns hl
end pV
namespace PySem.W.Fast
def tw17084719048368961216 := 0
def tw16774289457592458048 := 0
def tw6156039361762060160 := 0
def tw15429519027969567041 := 0
def tw7415754833078087297 := 0
def tw3986237179077546721 := 0
def tw748758046808336161 := 0
def tw4654839611948021569 := 0
def tw2216950753402062657 := 0
def tw5386377388161527842 := 0
def tw10336336333028384994 := 0
def tw9685222246191792482 := 0
def tw12760103895729654306 := 0
def tw12228128013014651458 := 0
def tw17928749223907214242 := 0
def tw17728836968689514466 := 0
def tw17785511829754947619 := 0
def tw5835972082510533699 := 0
def tw7267613948072936579 := 0
def tw16405148843921748291 := 0
def tw14725556237107892579 := 0
def tw15425233010365614659 := 0
def tw8083777103357609603 := 0
def tw11554683145231829699 := 0
def tw8414618740956821572 := 0
def tw8089298724621359268 := 0
def tw2633860633700359396 := 0
def tw9190842587841303844 := 0
def tw12225755830526390916 := 0
def tw6382165005300219588 := 0
def tw11780694666392280036 := 0
def tw14569786175013355589 := 0
def tw2225892751156269221 := 0
def tw981617833781129509 := 0
def tw5016602416572079685 := 0
def tw7998341183420255973 := 0
def tw9947242512021985990 := 0
def tw18055004786246183943 := 0
def tw13974902241854578791 := 0
def tw10303491637791025607 := 0
def tw12707268775050091015 := 0
def tw18160000257826257543 := 0
def tw16471802419831987943 := 0
def tw5438952263043845927 := 0
def tw10400642182720899943 := 0
def tw10204314064468025255 := 0
def tw13774614873617418408 := 0
def tw12715801331903321256 := 0
def tw2439803409088798056 := 0
def tw18071849244388170184 := 0
def tw14482004849506526856 := 0
def tw2067405802699263688 := 0
def tw3606371381459886024 := 0
def tw2305901761272946793 := 0
def tw17744255096006910153 := 0
def tw12073789159499761961 := 0
def tw1124351934946216585 := 0
def tw7076289506475044553 := 0
def tw8536054957801723721 := 0
def tw6761387360971016234 := 0
def tw2811897473165206602 := 0
def tw11464876929046870378 := 0
def tw5316899768040716714 := 0
def tw13941913211644487466 := 0
def tw2858027439201450123 := 0
def tw7685815434389220843 := 0
def tw9594132480609446763 := 0
def tw14615466953468979244 := 0
def tw16958296869664190220 := 0
def tw2788728312186861645 := 0
def tw13737835760887952493 := 0
def tw7580074352505248589 := 0
def tw2453169144559245326 := 0
def tw7216909382762552366 := 0
def tw1493426555117963310 := 0
def tw14374327026886016206 := 0
def tw2845436038726282446 := 0
def tw1468822917172291182 := 0
def tw15498580861096851342 := 0
def tw4627024734124808174 := 0
def tw3644656059043901456 := 0
def tw10196437801899060560 := 0
def tw12415525362322068880 := 0
def tw3039034474509873265 := 0
def tw6997178089652232465 := 0
def tw2302013826557085009 := 0
def tw2226993841510295121 := 0
def tw7227689861951151825 := 0
def tw17852058415759254706 := 0
def tw1630965019498657426 := 0
def tw1417279841405269874 := 0
def tw1135187672122092434 := 0
def tw8907582563565740978 := 0
def tw14782342784213622706 := 0
def tw10714987245438871731 := 0
def tw1621356872060070067 := 0
def tw273398123577452819 := 0
def tw11872590828062724883 := 0
def tw9919005706714832819 := 0
def tw16067991309324755988 := 0
def tw1775891831924617268 := 0
def tw932023157844256852 := 0
def tw2901024311486310612 := 0
def tw16237977657350633332 := 0
def tw10930017217371987956 := 0
def tw14747947728357705909 := 0
def tw9893131131359692053 := 0
def tw1937194528492496405 := 0
def tw8829405486410108501 := 0
def tw12603445810898689653 := 0
def tw7507299346833661685 := 0
def tw6908816401720169237 := 0
def tw11254692436603621526 := 0
def tw4031848206147785910 := 0
def tw2625635352503588342 := 0
def tw2505142407350318998 := 0
def tw3015451010896601046 := 0
def tw3194774918881360886 := 0
def tw602831178134670326 := 0
def tw1485088268401219799 := 0
def tw11774979931703454007 := 0
def tw5252252871088383607 := 0
def tw1354983837582574551 := 0
def tw7979243900309948472 := 0
def tw930258456143823352 := 0
def tw17454127165664844504 := 0
def tw17693074771648203161 := 0
def tw12644524622802960825 := 0
def tw11676237470648985786 := 0
def tw14609520912112239194 := 0
def tw4638096287931402938 := 0
def tw8221441167970752571 := 0
def tw5373181794709682459 := 0
def tw14015207594724964155 := 0
def tw5584376832769347740 := 0
def tw4216886221044658588 := 0
def tw2414724237323352508 := 0
def tw11463592166950821468 := 0
def tw1283798707540421276 := 0
def tw5563043450620483324 := 0
def tw16600533188385993692 := 0
def tw6212947413274891357 := 0
def tw14910013773337245917 := 0
def tw12317488099078250845 := 0
def tw2904357456455679421 := 0
def tw6487307616989346269 := 0
def tw13180985633355576221 := 0
def tw18264693094605805598 := 0
def tw18135960219380861278 := 0
def tw3151975355287045950 := 0
def tw16075290895723936670 := 0
def tw16951323100922354175 := 0
def tw6599875244175749823 := 0
def tw11488068896536389439 := 0
def tw4520424065345081183 := 0
def tw9098486693540225919 := 0
def tw13421012173226663903 := 0
def tw8984878887003788287 := 0
end PySem.W.Fast
open PySem PySem.W PyProof.Rows
set_option maxRecDepth 100000 in
set_option maxHeartbeats 0 in
theorem PySem.Challenge.cw_arrowfind_k50_islands_holds : PySem.Challenge.rw_arrowfind_k50_islands.Holds := by
 w_on;o_law;k_head;(case hw=>w_witness2)
 k_fill
 refine pV.walk (l:=PySem.Challenge.rw_arrowfind_k50_islands) rfl rfl (λw h Y=>PySem.W.km_in_of Y) ?L ?K ⟨_,rfl⟩ ?H ?F
 case L=>
  intro w
  kernel_rfl
 case K=>
  intro w
  kernel_rfl
 case H=>
  intro w
  kernel_rfl
 case F=>
  intro w mg fa h KX G hmg
  refine' pV.O6 hmg ?T ?JY ?JZ ?J0 ?J1 ?CD ?J2 ?J3 ?J4 ?J5 ?J6 ?J7 ?J8 ?J9 ?Ka ?Kb ?Kc ?Ke ?Kf ?Kg ?Kh ?Ki ?Kj ?Kk ?Kl ?Km ?Kn ?Ko
  case T=>
   refine' pV.NR KX G ?Cj ?Ck ?Cm ?Co ?Cp ?Cq ?Cr ?Cs ?Ct ?Cu ?Cv ?Cw ?Cy ?Cz ?CA ?CB ?CC
   (case Cj=>k_is)
   (case Ck=>k_is)
   (case Cm=>k_is)
   (case Co=>k_is)
   (case Cp=>k_is)
   (case Cq=>k_is)
   (case Cr=>k_is)
   (case Cs=>k_is)
   (case Ct=>k_is)
   (case Cu=>k_is)
   (case Cv=>k_is)
   (case Cw=>k_is)
   (case Cy=>k_is)
   (case Cz=>k_is)
   (case CA=>k_is)
   (case CB=>k_is)
   (case CC=>k_is)
  case CD=>
   refine' L2.QR (c:=pV.cN) KX G (λ_ _ _ _ _ _ us hl=>match us,hl with|[_,_],_=>rfl) ?a ?l ?c ?k
   (case a=>k_is);(case l=>k_is);(case c=>k_is);(case k=>k_is)
  all_goals
   first
    |(refine' L2.tP KX G (λ_ _ _ _ _ _ us hl=>match us,hl with|[_],_=>rfl) ?a ?l ?c ?k;(case a=>k_is);(case l=>k_is);(case c=>k_is);(case k=>k_is))
    |(refine' L2.tP KX G (λ_ _ _ _ _ _ us hl=>match us,hl with|[_,_],_=>rfl) ?a ?l ?c ?k;(case a=>k_is);(case l=>k_is);(case c=>k_is);(case k=>k_is))
    |(refine' L2.tP KX G (λ_ _ _ _ _ _ us hl=>match us,hl with|[_,_,_],_=>rfl) ?a ?l ?c ?k;(case a=>k_is);(case l=>k_is);(case c=>k_is);(case k=>k_is))
    |(refine' L2.tP KX G (λ_ _ _ _ _ _ us hl=>match us,hl with|[_,_,_,_,_],_=>rfl) ?a ?l ?c ?k;(case a=>k_is);(case l=>k_is);(case c=>k_is);(case k=>k_is))
    |(refine' L2.tP KX G (λ_ _ _ _ _ _ us hl=>match us,hl with|[_,_,_,_,_,_],_=>rfl) ?a ?l ?c ?k;(case a=>k_is);(case l=>k_is);(case c=>k_is);(case k=>k_is))
