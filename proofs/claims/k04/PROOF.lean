import PyProof.Rows.All
import Wide.All
import OpenK.AllK
import Wide.FinOn
import Lean
import PyProof.EqAt
import PyProof.EqKinds
import PyProof.TupleCall
import PySem.Str
import PyProof.NeKinds
import PyProof.Draws
import PyProof.EnumMake
import PyProof.ZipIter
import KE.KSortTup
import KE.KLam
import PyProof.Rows.SortStr
import PyProof.Rows.FactsT3
import PyProof.StrOps2
import KE.KDictList
import KE.KRevIter
import PyProof.CollectIter
import PyProof.TupleOfGen
import PyProof.Rows.StrNews2
import PyProof.Rows.StrFacts2
import PyProof.ExcClass2
import PyProof.ExcInit
import PyProof.InstStoreFacts
import PyProof.ReprRoads
import PyProof.StrLawsRepr
import PyProof.Rows.StrCase
import PyProof.Rows.StrSplit
import PySem.Challenge.RW_arrowfind_k04_rings_told
open PySem renaming wpAny_bind->ar,Value->ah,Shared->ak,Addr->ag,wpAny_pure->bh,Program->aW,sizeLine_eq->cD,FuncData->bA,Around->a7,boot_len->f8,World->aQ,Heap->ay,wpAny_mono->e5,wpAny_holding->iJ,wpAny_truthy_bool->lP,Expr->aO,wpAny_Call_Name_kw->qa,wpAny_field->j8,mem_of_lookup->rZ,codeAny_call_builtin->r0,wpAny_passesOwn->qb,wpAny_call_entry->se,Stmt->bj,ExcBaseFacts->oo,wpAny_execs_nil->sg,wpAny_standAt->qc,wpAny_callSpecial?_slot->xB,wpAny_call->na,wpAny_loadPart_at->uW,wpAny_seqItems->sh,wpAny_setField->sk,Scope->dM,wpAny_specialOf->uX,typeIs_bool->xC,Builtin->jA,codeAny_mono->sm,wpAny_setField_rec->xD,wpAny_pyIter_list->xE,Fin->qd,reprText->xF,wpAny_updateSeq->xG,NameKind->oq,BindsTo->ng,Arguments->sr,TriplesOk->ss,wpAny_attempt->xH,plainId_quiet->xI,strLen_append->xJ,wpAny_newObj_type->Bp,Paired->sv,seqIndex_neg->xK,wpAny_execs_cons->Bq,wpAny_isInstance->Br,seqIndex_of->xL,codeAny_builtin->Bs,wpAny_newFunctionEnv_cells->Jk,wpAny_FormattedValue_repr->Jl,Result->ot,wpAny_rule->xM,Model->kZ,call->Bt,wpAny_newList->Bu,wpAny_pyNext_list_item->Jm,wpAny_Call_method_late->Jn
open PySem.W renaming Frag->aB,kitOne->bO,nsIn->bT,mg_none_of->gE,mg_of->eR,kitAny->gX,kia_one->j9,keepIn->jB,fnOf->iK,CodeHd->ke,findIn->lQ,codeIn->ou,exmOne->qe,excIn->sw,kla_obj->uY,looks_findIn->qf,callWith_K->xN,specialIn->xO,kitx_list->xP,kitx_dict->xQ,cellsFrom_some->Bv,tabObj->xR,typeIn->xS,mroIn->xT,isNs_of_in->Bw,methodObj->Bx,handedIn->By,instObj->Bz,OpenLaw->BA,lookIn->BB,looks_mroIn->xU,kitx_float->Jo,kitx_tuple->Jp,codeRec_of->Jq,tail_of_in->Jr,hasDictIn->Js,kitx_none->Jt,kitx_bool->Ju,plainGet->Jv,kitx_int->Jw,kitx_str->Jx,kitx_own->Jy,takesIn->Jz,kia_tup->JA,readsIn->JB,findCls->JC,takerIn->JD,InstAt->JE,kla_fn->JF
open PySem.Heap renaming get?_push_of_some->br,get?_push_size->dj,lt_size->bE,get?_update_other->kg,get?_update_self->kh,size_push->qg,SameBut->qh,get?_none_of_le->BC,get?_update_ne->BD,MadeExcOf->BE,ExtBut->BF,get?_push_at->JG
open List renaming length_map->be,getElem?_eq_some_iff->dm,mem_cons_of_mem->cy,mem_cons->bn,mem_cons_self->b8,size_toArray->cz,getD_eq_getElem?_getD->fk,map_cons->b9,mem_singleton->dI,getElem?_eq_getElem->fm,range->bx,length_cons->dq,length_append->d6,replicate->c8,mem_append_right->f9,getElem?_map->eE,getElem?_cons_zero->gY,mem_map->cL,getElem?_set_ne->gc,getElem?_cons_succ->iL,mem_filter->fo,toArray->dZ,mem_range->fq,mem_append->gF,map_map->eS,length_drop->iM,drop_eq_getElem_cons->ni,getElem?_set_self->lR,mem_append_left->k4,append_nil->iN,idxOf_lt_length_iff->nq,mem_of_getElem?->lS,pairwise_cons->k7,nodup_cons->jC,length_set->jD,filter_eq_self->lU,not_mem_nil->ki,length_take->k8,getElem?_append_left->sA,find?_cons->lV,length_filter_le->qi,map_append->lW,lookup->jg,any_cons->k9,flatMap_cons->ow,pairwise_map->oy,length_nil->nu,mem_map_of_mem->qj,take_of_length_le->sB,lookup_cons->oz,getElem?_of_mem->sC,length_reverse->sD,getElem_inj->qk,drop_of_length_le->uZ,drop_eq_nil_of_le->u0,length_singleton->u4,length_range->sE,append_assoc->sF,pairwise_iff_getElem->xV,all_eq_true->sG,nil_append->sH,length_pos_of_mem->xW,drop_zero->sI,eq_nil_of_length_eq_zero->BG,cons_append->u5,forIn_cons->u6,getElem?_append_right->BH,all_map->sJ,nodup_nil->u7,reverse_cons->xX,idxOf_append->xY,nodup_range->xZ,getElem_mem->x6,of_mem_zip->x9,length_replicate->BI,map_nil->u8,length_filter_lt_length_iff_exists->JH,mem_of_mem_drop->BJ,mem_iff_getElem->BK,filterMap_cons->BL,map_congr_left->BO,replicate_zero->BQ,flatMap_append->BR,all_cons->ya,set_cons_succ->BU,set_cons_zero->BV,getElem_range->BW,getElem_idxOf->BX,any_eq_false->BY,getElem?_set->BZ,nodup_append->B0,range'_succ->B1,mem_flatMap->B3,length->yb,range'->yc,getLast?_eq_getElem?->JI,getElem?_take_of_lt->JJ,length_erase_of_mem->JK,getElem?_replicate->JL,pairwise_singleton->JM,Pairwise->B4,range_succ_eq_map->JN,pairwise_lt_range->JO,singleton_append->JP,getElem?_reverse->JQ,getElem?_eq_none->JR,mem_erase_of_ne->JS,mem_of_mem_take->JT,replicate_succ->JU,mem_filterMap->JV,filter_append->JW,contains_cons->JX
open Nat renaming le_refl->bu,lt_of_lt_of_le->gG,le_trans->d9,ne_of_lt->eF,zero_le->ft,zero_add->iO,lt_irrefl->kj,min_eq_right->qm,ne_of_gt->nA,min_eq_left->qo,not_lt->qp,le_add_right->yd,max_eq_right->ye,lt_or_ge->u9,le_total->vb,max_eq_left->yf,le_of_lt->yg,lt_trans->yh,le_of_eq->yi,reduceSub->B5
open Bool renaming false_ne_true->dN,and_eq_true_iff->lb,false_eq_true->lX,and_eq_true->lY,and_false->qq,not_true->yj,true_and->B6,and_eq_false_iff->JY,or_eq_true_iff->JZ,not_eq_true'->J0,eq_false_iff->J1
open PySem.Value renaming ref->bB,none->dD,bool->jh,builtin->lZ,str->l0,type->sK,float->yk,int->yl
open PyProof.Rows renaming boot_isinstance->ee,listItems_at->km,boot_list->ji,boot_tuple->lc,callWith_type1->B7,get?_update_seq->vc,IntsAre->kn,AllBare->l5,listUpdate_at->ym,boot_str->vd,subscriptTail_builtinR->J2
open PySem.F renaming plainAttrs_list->iQ,slot_list_append->ko,type_list_append->ku,excBase_ValueError->l7,slot_tuple_iterator_next->yn,excAttr_ValueError->yo,slot_tuple_index->B8,slot_list_index->B9,slot_list_lt->Ca,slot_bool_hash->yp,args_tuple_iterator_next_1->J3,entry_tuple_iterator_next->J4,slot_zip_next->yq,plain_extend_loop->J5,plainAttrs_tuple->J6,type_tuple_index->J7,type_list_index->J8,plainAttrs_str->J9,slot_str_join->Ka,type_str_join->Kb
open Classical renaming byContradiction->lf
open Int renaming emod_lt_of_pos->io,toNat_natCast->ir,emod_nonneg->iu,ofNat_lt->Cb
open Option.some renaming inj->gZ
open Ne renaming symm->bU
open PySem.PassesOwn renaming never->iR
open PySem.Obj renaming mapSeq->eg,data_mapFields->nB,mapFields->jE,isFreed_of_fields->sL,cls_mapFields->Cc
open PySem.Builtin.SmallTypes renaming nextOf->qr,ownedTupleHandOut->Kc,ownedTupleIsFree->Ke
open False renaming elim->fu
open Option renaming map_eq_some_iff->oA,isSome_iff_exists->Cd,isSome_map->Kf,getD_none->Kg
open PySem.Str renaming empty->e6,ofString->kA,join->kB,length->qt
open Array renaming getElem?_eq_some_iff->sM,length_toList->qu,perm_iff_toList_perm->ve,getElem?_toList->yr,toList_inj->vf,toList_append->yt,getElem?_eq_getElem->Kh,find?_toList->Ki
open ForInStep renaming yield->l8
open True renaming intro->g0
open Or renaming inl->cE,inr->gH
open PySem.Heap.SameBut renaming update->qv
open PySem.NameKind renaming free->l9,cell->Ce
open List.Pairwise renaming imp_of_mem->vg,nil->Cf
open PySem.Calls renaming evalArgs_plain->vh,spliced_cons->vi,callWith_builtin->yu,spliced_nil->yv,Name_function_global->Kj
open PySem.Builtin.List renaming listItems->yw,listExtendWith->Cg,listLengthHint->Kk,listSameRef->Kl
open Sum renaming inr->g6,inl->qw
open Prod renaming ext->ma,snd->vj,ext_iff->Ch,fst->yx
open PySem.PyData renaming str->sN,showableAll->Km,hasDictAll->Kn,depthAll->Ko,showable->Kq,shownAll->Kr
open PySem.Around renaming frames_deeper->Ci,under->yy,under_plainId->Ks
open PySem.W.Looks renaming here->sO,ld->Ku
open PySem.Paired renaming length->yz
open PySem.StrLaws renaming reprText_len->Kv
open PySem.Builtin.Str renaming strSliceIndices->Kw
open PySem.Code renaming quiet_builtin->Cj,isFrame->Ck
open PySem.MeetsSeq renaming EqGives->Kx
open PySem.Txt renaming partition->yA
open List.Perm renaming refl->Cm
open PySem.MeetsSeq3 renaming plain_eq_loop->yB
open PySem.SeqAt.EqAt renaming bool_bool->Kz,bool_str->KA,str_bool->KD
open PySem.EntryCells renaming newEntry->KH
open Sum.inr renaming inj->Cp
open PySem.SeqRoads2.EqGives renaming str->S0
open Array.Perm renaming refl->KI
open List.cons renaming injEq->KJ
open Function renaming comp->KL
open Option renaming some->aa,none->ae
abbrev cj:=@decide_eq_true
abbrev c6:=@decide_eq_false
abbrev aF:=@if_pos
abbrev aG:=@if_neg
abbrev iH:=@beq_self_eq_true
abbrev jX:=@decide_eq_true_eq
abbrev f7:=@beq_iff_eq
abbrev rA:=@decide_eq_false_iff_not
abbrev fX:=@if_false
abbrev rX:=@beq_eq_false_iff_ne
abbrev oW:=@decide_eq_decide
abbrev gi:=@if_true
abbrev jI:=@or_false
abbrev wt:=@of_decide_eq_true
set_option maxRecDepth 100000
set_option maxHeartbeats 4000000
set_option Elab.async false
set_option linter.all false
set_option bootstrap.genMatcherCode false
noncomputable section
namespace L2
open PySem PySem.Spec PyProof.Rows
abbrev Key:=Sum Bool Str
def DQ(k:Bool):ah->Bool
 |.bool b=>b==k
 |_=>false
def uw:Key->ah->Bool
 |.inl k,v=>DQ k v
 |.inr x,v=>Value.isStrOf x v
def OJ(w:aQ):Key->Int
 |.inl k=>hashInt (if k then 1 else 0)
 |.inr x=>hashStr w x
theorem Qn{k:Bool}:∀{v:ah},DQ k v=true->v=.bool k
 |.bool b,h=>by rw[show b=k from eq_of_beq h]
theorem mq:∀{k:Key} {v:ah},uw k v=true->(∃i,k=qw i/\v=jh i)\/(∃x t,k=g6 x/\v=l0 x t)
 |.inl i,v,h=>.inl ⟨i,rfl,Qn h⟩
 |.inr x,v,h=>by
  obtain⟨t,e⟩:=Value.isStrOf_shape (x:=x) (v:=v) h;exact .inr ⟨x,t,rfl,e⟩
theorem Q0(i:Bool):uw (.inl i) (.bool i)=true:=iH i
theorem Mm{prog:aW}{w:aQ}{A:a7}{E:ah->ak->Prop}{s:ak}{b:Bool}{Q:Int->ak->Prop}(h:Q (hashInt (if b then 1 else 0)) { s with toks:=s.toks+1 }) :
 wpAny (model prog w) A (pyHash (.bool b)) Q E s:=by
 have hr:=rawHash_range (if b then 1 else 0);unfold pyHash;have hv:[jh b].any Value.onHeap=false:=rfl;refine ar ?_;rw[cRoomFor,aG (by rw[hv];exact dN)];refine bh ?_;refine ar (uX (xC s b) yp.lookup ?_);show wpAny _ _ (if(aa (lZ "int.__hash__")==aa dD)=true then _ else _) Q E s;rw[aG (by rw[beq_builtin_none];exact dN)];refine ar (uX (xC s b) yp.lookup ?_);show wpAny _ _ (callSpecialIfBoundUnlessNone? (.bool b) "__hash__" _ >>= _) Q E s;refine ar (wpAny_callSpecialIfBoundUnlessNone?_slot (xC s b) yp
  (se yp (xC s b) F.entry_int_hash
   (show wpAny _ _ (do ret (<- mkInt (rawHash (if b then 1 else 0)))) _ _ s from wpAny_ret_mkInt ?_) (F.args_int_hash_1 _)))
 show wpAny _ _ (if(decide (-(2:Int) ^ 63<=rawHash (if b then 1 else 0))&&decide (rawHash (if b then 1 else 0)<2 ^ 63))=true then _ else _) Q E _;rw[aF (by rw[cj hr.1,cj hr.2];rfl)];exact bh h
theorem Q6(x:Str)(t:Tok):uw (.inr x) (.str x t)=true:=by simp[uw,Value.isStrOf]
theorem RZ(a b:Bool):decide ((qw a:Key)=qw b)=(a==b):=by
 by_cases e:a=b
 ·subst e;simp
 ·have h:¬ (qw a:Key)=qw b:=λq=>e (Sum.inl.inj q);rw[c6 h];exact(rX.mpr e).symm
theorem Py(a b:Str):decide ((g6 a:Key)=g6 b)=decide (a=b):=by
 by_cases e:a=b
 ·subst e;simp
 ·have h:¬ (g6 a:Key)=g6 b:=λq=>e (Cp q);rw[c6 h,c6 e]
theorem MS(a:Bool)(b:Str):decide ((qw a:Key)=g6 b)=false:=c6 (λq=>nomatch q)
theorem PU(a:Str)(b:Bool):decide ((g6 a:Key)=qw b)=false:=c6 (λq=>nomatch q)
def jf(prog:aW)(w:aQ):PySem.KeyKind prog w Key where
 is:=uw
 hash:=OJ w
 inj:=λv a b ha hb=>by
  rcases mq ha with ⟨i,rfl,rfl⟩|⟨x,t,rfl,rfl⟩
  ·rcases mq hb with ⟨j,rfl,e⟩|⟨y,u,rfl,e⟩
   ·injection e with e1;rw[e1]
   ·exact nomatch e
  ·rcases mq hb with ⟨j,rfl,e⟩|⟨y,u,rfl,e⟩
   ·exact nomatch e
   ·injection e with e1 _;rw[e1]
 byValue:=λk v h=>by
  rcases mq h with ⟨i,rfl,rfl⟩|⟨x,t,rfl,rfl⟩<;>rfl
 pyHash:=λhv h=>by
  rcases mq hv with ⟨i,rfl,rfl⟩|⟨x,t,rfl,rfl⟩
  ·exact Mm h
  ·exact wpAny_pyHash_str h
 eqBool:=λhu hv h=>by
  rcases mq hu with ⟨i,rfl,rfl⟩|⟨x,t,rfl,rfl⟩
  ·rcases mq hv with ⟨j,rfl,rfl⟩|⟨y,u,rfl,rfl⟩
   ·rw[RZ]at h;exact Kz i j _ _ _ _ h
   ·rw[MS]at h;exact KA i y u _ _ _ _ h
  ·rcases mq hv with ⟨j,rfl,rfl⟩|⟨y,u,rfl,rfl⟩
   ·rw[PU]at h;exact KD x t j _ _ _ _ h
   ·rw[Py]at h;exact wpAny_eqBool_str h
 «strs»:=λk x t v h=>by
  rcases mq h with ⟨i,rfl,e⟩|⟨y,u,rfl,e⟩
  ·exact nomatch e
  ·injection e with e1 _;subst e1;cases v<;>rfl
theorem RG(prog:aW)(w:aQ)(i:Bool):(jf prog w).is (.inl i) (.bool i)=true:=Q0 i
theorem PZ(prog:aW)(w:aQ)(x:Str)(t:Tok):(jf prog w).is (.inr x) (.str x t)=true:=Q6 x t
inductive V where
 |non|bl (b:Bool)|int (i:Int)|str (x:Str)|byt (b:Array UInt8)|flt (b:UInt64)|ref (a:ag)|ty (n:String)
 deriving DecidableEq
def RelV:V->ah->Prop
 |.non,u=>u=dD
 |.bl b,u=>u=jh b
 |.int i,u=>∃t,u=yl i t
 |.str x,u=>∃t,u=l0 x t
 |.byt b,u=>∃t,u=Value.bytes b t
 |.flt b,u=>∃t,u=yk b t
 |.ref a,u=>u=bB a
 |.ty n,u=>u=sK n
abbrev Vals:List V->List ah->Prop:=sv RelV
theorem Vals.length{xs:List V}{us:List ah}(r:Vals xs us):xs.length=us.length:=yz r
theorem Vals.get:∀{xs:List V} {us:List ah} {i:Nat} {x:V},Vals xs us->xs[i]? = aa x->∃u,us[i]? = aa u/\RelV x u
 |_,_,_,_,.nil,e=>by simp at e
 |_,_,0,_,.cons r _,e=>by simp at e;subst e;exact⟨_,rfl,r⟩
 |_,_,i+1,x,.cons _ t,e=>by
  obtain⟨u,h1,h2⟩:=Vals.get (i:=i) (x:=x) t (by simpa using e);exact⟨u,by simpa using h1,h2⟩
theorem Vals.set{x:V}{u:ah}(r:RelV x u):∀{xs:List V} {us:List ah} (i:Nat),Vals xs us->Vals (xs.set i x) (us.set i u)
 |_,_,_,.nil=>.nil
 |_,_,0,.cons _ t=>.cons r t
 |_,_,i+1,.cons q t=>.cons q (Vals.set r i t)
theorem Vals.append:∀{xs ys:List V} {us ws:List ah},Vals xs us->Vals ys ws->Vals (xs++ys) (us++ws)
 |_,_,_,_,.nil,s=>s
 |_,_,_,_,.cons r t,s=>.cons r (Vals.append t s)
theorem Vals.take:∀{xs:List V} {us:List ah} (n:Nat),Vals xs us->Vals (xs.take n) (us.take n)
 |_,_,0,_=>.nil
 |_,_,_+1,.nil=>.nil
 |_,_,n+1,.cons r t=>.cons r (Vals.take n t)
theorem Vals.drop:∀{xs:List V} {us:List ah} (n:Nat),Vals xs us->Vals (xs.drop n) (us.drop n)
 |_,_,0,r=>r
 |_,_,_+1,.nil=>.nil
 |_,_,n+1,.cons _ t=>Vals.drop n t
def nY:Option V->Option ah->Prop
 |some v,aa u=>RelV v u
 |none,ae=>True
 |_,_=>False
def KV{κ:Type}:List (κ×V)->List (κ×ah)->Prop:=sv λ(p:κ×V) (q:κ×ah)=>p.1=q.1/\RelV p.2 q.2
def kV:Key->V
 |.inl i=>.bl i
 |.inr x=>.str x
def rU(h:ay)(a:ag)(am:Array ah):Prop:=∃o,h.get? a=aa o/\o.cls=.type "tuple" /\ o.dict=ae/\∃n,o.data=.seq am n
theorem rU.tup{h:ay}{a:ag}{am:Array ah}(x:rU h a am):IsTup h a am:=let ⟨o,e,c,_,d⟩:=x;⟨o,e,c,d⟩
theorem rU.new(h:ay)(am:Array ah):rU (h.push { cls:=.type "tuple", data:=.seq am }) h.objs.size am:=⟨_,dj _ rfl,rfl,rfl,_,rfl⟩
inductive HO where
 /-- a list -/
 |lst (xs:List V)
 /-- a tuple (never changes) -/
 |tup (xs:List V)
 /-- a dict whose keys are ints and texts;one whose keys are tuples of ints and texts (the empty one is both) -/
 |dK (ao:List (Key×V))|dT (ao:List (List Key×V))
 /-- a set of ints: am members,am size -/
 |set (S:Int->Bool) (n:Nat)
 /-- an instance of the class at C,am dict at dx,am attributes -/
 |ins (C dx:ag) (fs:List (Str×V))
 /-- the dict of the instance at x -/
 |own (x:ag)
 /-- the dict of an exception -/
 |xd (fs:List (Str×V))
 /-- a bound method,f of x -/
 |met (f x:ag)
 /-- a range object lo,lo+1,.. below hi -/
 |rng (lo hi:Int)
 /-- a thing that is known to the object (the script;a dict while a loop walks it): read,never written while it is so -/
 |frz (o:Obj) (u:HO)
 /-- a code object's table -/
 |tbl (w:Str) (ps:Array ah)
 /-- any other thing,by what is true of am one object (a def of one's own: UB a S n:=HO.ext λh=>..) -/
 |ext (φ : ay->Prop)
abbrev Hp:=ag->Option HO
def upd(H:Hp)(a:ag)(o:HO):Hp:=λb=>if b=a then aa o else H b
theorem aY{H:Hp}{a:ag}{o:HO}:upd H a o a=aa o:=by unfold upd;rw[aF rfl]
theorem av{H:Hp}{a b:ag}{o:HO}(h:b≠a):upd H a o b=H b:=by unfold upd;rw[aG h]
theorem Og{H:Hp}{a b:ag}{o u:HO}(h:H a=aa o)(h':H b=aa u)(d:o≠u):a≠b:=by intro e;subst e;rw[h]at h';exact d (gZ h')
theorem cQ{H:Hp}{a b:ag}{o:HO}(h:H a=aa o)(h':H b=ae):a≠b:=by intro e;subst e;rw[h]at h';cases h'
section
variable(P:aW)(w:aQ)
def bI(H:Hp)(h:ay)(a:ag):HO->Prop
 |.lst xs=>xs.length<=sizeLine/\∃(am:List ah) (n:Nat),Vals xs am/\h.get? a=aa { cls:=.type "list", data:=.seq am.toArray n }
 |.tup xs=>xs.length<=sizeLine/\∃am:List ah,Vals xs am/\rU h a am.toArray
 |.dK ao=>ao.length<=sizeLine/\(a==sysModules)=false/\∃vs,KV ao vs/\h.DictOf (jf P w) a vs
 | .dT ao=>ao.length<=sizeLine/\(a==sysModules)=false/\∃xs:List (List Key×ag×ah),
  sv (λ(p:List Key×V) (q:List Key×ag×ah)=>p.1=q.1/\H q.2.1=aa (.tup (p.1.map kV))/\RelV p.2 q.2.2) ao xs /\
  ∃o es ep,h.get? a=aa o/\o.ExactDict/\o.data=.dict es ep/\es.toList=xs.map (entryOfKey (tupleKind (jf P w)))/\(xs.map (·.1)).Nodup
 |.set S n=>h.SetOf (intKind P w) a S n
 | .ins C dx fs=>H dx=aa (.own a)/\fs.length<=1000/\dx≠a/\h.get? a=aa (Bz C dx) /\
  ∃mA,h.Ns1 dx mA/\(∀f,nY (fs.lookup f) (mA f))/\PySem.Within mA (fs.map (·.1))
 |.own _=>∃o,h.get? a=aa o
 |.xd fs=>∃mA,h.Ns1 a mA/\∀f,nY (fs.lookup f) (mA f)
 |.rng lo hi=>∃t u v,h.get? a=aa { cls:=.type "range", data:=.fields #[.int lo t,.int hi u,.int 1 v] }
 |.frz o u=>h.get? a=aa o/\bI H h a u
 |.tbl _ ps=>h.get? a=aa { cls:=.none,data:=.fields ps }
 |.met f x=>h.get? a=aa (Bx (.ref f) (.ref x))
 |.ext φ=>φ h/\(∃o,h.get? a=aa o)/\∀h1 h2:ay,φ h1->(∀o,h1.get? a=aa o->h2.get? a=aa o)->φ h2
def bY(H:Hp)(h:ay):Prop:=∀a o,H a=aa o->bI P w H h a o
end
section
variable{P:aW}{w:aQ}{H H':Hp}{h h':ay}{a:ag}{o:HO}
theorem bI.lt(x:bI P w H h a o):a<h.objs.size:=by
 cases o with
 |lst xs=>obtain⟨_,_,_,_,e⟩:=x;exact bE e
 |tup xs=>obtain⟨_,_,_,p⟩:=x;exact p.tup.lt
 |dK ao=>obtain⟨_,_,_,_,o,_,_,e,_⟩:=x;exact bE e
 |dT ao=>obtain⟨_,_,_,_,o,_,_,e,_⟩:=x;exact bE e
 |set S n=>obtain⟨o,_,_,_,e,_⟩:=x;exact bE e
 |ins C dx fs=>obtain⟨_,_,_,e,_⟩:=x;exact bE e
 |own y=>obtain⟨_,e⟩:=x;exact bE e
 |xd fs=>obtain⟨_,⟨_,_,_,e,_⟩,_⟩:=x;exact bE e
 |rng lo hi=>obtain⟨_,_,_,e⟩:=x;exact bE e
 |frz ob u=>obtain⟨e,_⟩:=x;exact bE e
 |tbl w ps=>exact bE (show h.get? a=aa _ from x)
 |met f y=>exact bE (show h.get? a=aa _ from x)
 |ext φ=>obtain⟨_,⟨_,e⟩,_⟩:=x;exact bE e
theorem Paired.Aa{α β:Type}{F G:α->β->Prop}:∀{l₁:List α} {l₂:List β},sv F l₁ l₂->(∀a b,F a b->G a b)->sv G l₁ l₂
 |_,_,.nil,_=>.nil
 |_,_,.cons r t,f=>.cons (f _ _ r) (Paired.Aa t f)
theorem bI.stay(x:bI P w H h a o)(k:∀b u,(b=a\/H b=aa (.own a))->h.get? b=aa u->h'.get? b=aa u)
 (ho:∀b,H b=aa (.own a)->H' b=aa (.own a)) (ht:∀b xs,H b=aa (.tup xs)->H' b=aa (.tup xs)):bI P w H' h' a o:=by
 induction o with
 |lst xs=>obtain⟨z,am,n,r,e⟩:=x;exact⟨z,am,n,r,k _ _ (.inl rfl) e⟩
 |tup xs=>obtain⟨z,am,r,ob,e,c⟩:=x;exact⟨z,am,r,ob,k _ _ (.inl rfl) e,c⟩
 |dK ao=>obtain⟨z,y,vs,r,ob,es,ep,e,c⟩:=x;exact⟨z,y,vs,r,ob,es,ep,k _ _ (.inl rfl) e,c⟩
 |dT ao=>
  obtain⟨z,y,xs,r,ob,es,ep,e,c⟩:=x;exact⟨z,y,xs,Paired.Aa r λp q z=>⟨z.1,ht _ _ z.2.1,z.2.2⟩,ob,es,ep,k _ _ (.inl rfl) e,c⟩
 |set S n=>obtain⟨ob,es,ep,t,e,c⟩:=x;exact⟨ob,es,ep,t,k _ _ (.inl rfl) e,c⟩
 |ins C dx fs=>
  obtain⟨d,z,ne,e,mA,⟨od,es,ep,e2,c⟩,r⟩:=x;exact⟨ho _ d,z,ne,k _ _ (.inl rfl) e,mA,⟨od,es,ep,k _ _ (.inr d) e2,c⟩,r⟩
 |own y=>obtain⟨ob,e⟩:=x;exact⟨ob,k _ _ (.inl rfl) e⟩
 |xd fs=>obtain⟨mA,⟨od,es,ep,e,c⟩,r⟩:=x;exact⟨mA,⟨od,es,ep,k _ _ (.inl rfl) e,c⟩,r⟩
 |rng lo hi=>obtain⟨t,u,v,e⟩:=x;exact⟨t,u,v,k _ _ (.inl rfl) e⟩
 |frz ob u ih=>obtain⟨e,q⟩:=x;exact⟨k _ _ (.inl rfl) e,ih q⟩
 |tbl w ps=>
  have e:h.get? a=aa { cls:=.none,data:=.fields ps }:=x;show h'.get? a=aa { cls:=.none,data:=.fields ps };exact k a _ (.inl rfl) e
 |met f y=>
  have e:h.get? a=aa (Bx (.ref f) (.ref y)):=x;show h'.get? a=aa (Bx (.ref f) (.ref y));exact k a _ (.inl rfl) e
 |ext φ=>obtain⟨p,⟨o,e⟩,st⟩:=x;exact⟨st _ _ p λo q=>k _ _ (.inl rfl) q,⟨o,k _ _ (.inl rfl) e⟩,st⟩
theorem bY.lt(x:bY P w H h)(e:H a=aa o):a<h.objs.size:=(x a o e).lt
theorem bY.fresh(x:bY P w H h)(e:h.objs.size<=a):H a=ae:=by
 cases q:H a with
 |none=>rfl
 |some u=>exact absurd (gG (x.lt q) e) (kj _)
theorem bY.kept(x:bY P w H h)(k:∀b u,h.get? b=aa u->h'.get? b=aa u):bY P w H h':=λa o e=>
 (x a o e).stay (λb u _ q=>k b u q) (λ_ q=>q) λ_ _ q=>q
theorem bY.laid(x:bY P w H h)(k:∀b u,h.get? b=aa u->h'.get? b=aa u)(hp:h.objs.size<=a)(new:bI P w (upd H a o) h' a o):bY P w (upd H a o) h':=λb u e=>by
 have hn:=x.fresh hp;by_cases hb:b=a
 ·subst hb;rw[aY]at e;cases e;exact new
 ·rw[av hb]at e;exact(x b u e).stay (λc v _ q=>k c v q) (λc q=>by rw[av (cQ q hn)];exact q) λc xs q=>by rw[av (cQ q hn)];exact q
end
def Rd(H:Hp)(a:ag)(u:HO):Prop:=H a=aa u\/∃o,H a=aa (.frz o u)
theorem Rd.ok{P:aW}{w:aQ}{H:Hp}{h:ay}{a:ag}{u:HO}(r:Rd H a u)(x:bY P w H h):bI P w H h a u:=by
 rcases r with r|⟨o,r⟩
 ·exact x a u r
 ·obtain⟨_,q⟩:=x a _ r;exact q
def ux:Option HO->Prop
 |some (.lst _)=>True
 |some (.dK _)=>True
 |some (.dT _)=>True
 |some (.set _ _)=>True
 |some (.ins _ _ _)=>True
 |some (.ext _)=>True
 |_=>False
section
variable{P:aW}{w:aQ}{H:Hp}{h h':ay}{x e:ag}{o':HO}
theorem bY.write(ok:bY P w H h)(mu:ux (H x))(he:e=x\/H e=aa (.own x))(k:∀b u,b≠e->h.get? b=aa u->h'.get? b=aa u)(heo:∃u,h'.get? e=aa u)
 (new:bI P w (upd H x o') h' x o'):bY P w (upd H x o') h':=λb u q=>by
 have KN:∀c y,H c=aa (.own y)->c≠x:=λc y r z=>by subst z;rw[r]at mu;exact mu
 have S1:∀c xs,H c=aa (.tup xs)->c≠x:=λc xs r z=>by subst z;rw[r]at mu;exact mu
 by_cases hb:b=x
 ·subst hb;rw[aY]at q;cases q;exact new
 ·rw[av hb]at q;by_cases hbe:b=e
  ·have q':H b=aa (.own x):=by
    rcases he with z|z
    ·exact absurd (hbe.trans z) hb
    ·rw[hbe];exact z
   rw[q]at q';cases q';obtain⟨v,hv⟩:=heo;exact⟨v,by rw[hbe];exact hv⟩
  ·refine(ok b u q).stay (λc v hc r=>k c v ?_ r) (λc r=>by rw[av (KN c b r)];exact r) λc xs r=>by rw[av (S1 c xs r)];exact r
   rcases hc with rfl|hc
   ·exact hbe
   ·rintro rfl;rcases he with z|z
    ·exact KN c b hc z
    ·rw[hc]at z;cases z;exact hb rfl
end
structure Un(fs ex:List ag)(H H':Hp)(h h':ay):Prop where
 keep:∀b o,h.get? b=aa o->H b=ae->b∉fs->b∉ex->h'.get? b=aa o
 slot:∀b o,h.get? b=aa o->H b=ae->b∈fs->b∉ex->∃sl,h'.get? b=aa { o with slots:=sl }
 free:∀b o,h.get? b=aa o->H b=ae->b∉ex->H' b=ae
 there:∀b o,h.get? b=aa o->b∉ex->∃o',h'.get? b=aa o'
 tups:∀b xs,H b=aa (.tup xs)->H' b=aa (.tup xs)
 iS:∀b o u,H b=aa (.frz o u)->H' b=aa (.frz o u)
 iT:∀b w ps,H b=aa (.tbl w ps)->∃more,H' b=aa (.tbl w (ps++more))
section
variable{fs fs' ex ex':List ag}{H H1 H2:Hp}{h h1 h2 h':ay}{a x e:ag}{o:HO}
theorem Un.any(u:Un fs ex H H1 h h1){b:ag}{ob:Obj}(q:h.get? b=aa ob)(n:H b=ae)(hx:b∉ex):∃sl,h1.get? b=aa { ob with slots:=sl }:=by
 by_cases hb:b∈fs
 ·exact u.slot b ob q n hb hx
 ·exact⟨ob.slots,u.keep b ob q n hb hx⟩
theorem Un.kept(k:∀b u,h.get? b=aa u->h'.get? b=aa u):Un fs ex H H h h':=⟨λb ob q _ _ _=>k b ob q,λb ob q _ _ _=>⟨ob.slots,k b ob q⟩,λ_ _ _ n _=>n,λb ob q _=>⟨ob,k b ob q⟩,λ_ _ q=>q,λ_ _ _ q=>q,λ_ w ps q=>⟨#[],by rw[q];simp⟩⟩
theorem Un.refl:Un fs ex H H h h:=Un.kept λ_ _ q=>q
theorem Un.laid(k:∀b u,h.get? b=aa u->h'.get? b=aa u)(hp:h.objs.size<=a)(hn:H a=ae):Un fs ex H (upd H a o) h h' where
 keep:=λb u q _ _ _=>k b u q
 slot:=λb u q _ _ _=>⟨u.slots,k b u q⟩
 free:=λb u q n _=>by rw[av (eF (gG (bE q) hp))];exact n
 there:=λb u q _=>⟨u,k b u q⟩
 tups:=λb xs q=>by rw[av (cQ q hn)];exact q
 iS:=λb u xs q=>by rw[av (cQ q hn)];exact q
 iT:=λb w ps q=>⟨#[],by rw[av (cQ q hn),q];simp⟩
theorem Un.write(mu:ux (H x))(he:e=x\/H e=aa (.own x))(k:∀b u,b≠e->h.get? b=aa u->h'.get? b=aa u)(heo:∃u,h'.get? e=aa u):Un fs ex H (upd H x o) h h':=by
 have hx:∀b,H b=ae->b≠x:=λb n z=>by subst z;rw[n]at mu;exact mu
 have hb:∀b,H b=ae->b≠e:=λb n z=>by
  subst z;rcases he with r|r
  ·exact hx b n r
  ·rw[n]at r;cases r
 have hm:∀b u,H b=aa u->¬ ux (aa u)->b≠x:=λb u q nm z=>by subst z;rw[q]at mu;exact nm mu
 refine⟨λb u q n _ _=>k b u (hb b n) q,λb u q n _ _=>⟨u.slots,k b u (hb b n) q⟩,λb u q n _=>by rw[av (hx b n)];exact n,λb u q _=>?_,
  λb xs q=>by rw[av (hm b _ q λz=>z)];exact q,λb u xs q=>by rw[av (hm b _ q λz=>z)];exact q,λb w ps q=>⟨#[],by rw[av (hm b _ q λz=>z),q];simp⟩⟩
 by_cases hbe:b=e
 ·subst hbe;exact heo
 ·exact⟨u,k b u hbe q⟩
end
def wr(h:ay)(H:Hp):List ag:=(bx h.objs.size).filter λa=>(H a).isSome
def kF(h:ay)(H:Hp):ay:=PySem.W.hideAll h (wr h H)
theorem QF(h:ay)(H:Hp):(kF h H).objs.size=h.objs.size:=PySem.W.hideAll_size _ _
theorem Qp{h:ay}{H:Hp}{b:ag}{o:Obj}(e:h.get? b=aa o)(n:H b=ae):(kF h H).get? b=aa o:=
 PySem.W.hideAll_get _ e λhm=>by
  have q:(H b).isSome=true:=(fo.mp hm).2;rw[n]at q;simp at q
theorem Qh{h:ay}{H:Hp}{b:ag}{o:Obj}(e:(kF h H).get? b=aa o):h.get? b=aa o/\H b=ae:=by
 have e':h.get? b=aa o:=PySem.W.of_hideAll (wr h H) e;refine⟨e',?_⟩;cases q:H b with
 |none=>rfl
 |some x=>
  have hm:b∈wr h H:=fo.mpr ⟨fq.mpr (bE e'),by simp[q]⟩;have z:(kF h H).get? b=ae:=PySem.W.hideAll_none (wr h H) hm;rw[z]at e;cases e
structure Mod(K:aB)(mg:Str->Option ah)(base:ay):Prop where
 kin:K.In base
 glob:base.Ns mainGlobals mg
 blt:∃mb,base.Ns builtinsNs mb/\∀x:Str,x ≠ "__name__" -> mb x=bootBuiltins x
 nolimit:base.NoLimit
structure Cx where
 prog:aW
 w:aQ
 K:aB
 mg:Str->Option ah
 base:ay
 A:a7
 N:List Str
 s₀:ak
 H₀:Hp
 env:Env
 outer:List Env
 stack:List Env
 ex:List ag
 fn:Str->Bool
 calm:Bool
 pn:List (ag×Obj)
 xe:ah->ak->Prop
def frs(l:List Env):List ag:=l.filterMap (·.frame)
abbrev Cx.fs(X:Cx):List ag:=frs X.outer
def uD(sc:dM)(x:Str):Prop:=sc.names.lookup x=aa .local\/sc.names.lookup x=aa .cell\/sc.names.lookup x=aa .free
def Loc(sc:dM)(x:Str):Prop:=sc.names.lookup x=aa .local\/sc.names.lookup x=aa .cell
def Look(env:Env)(h:ay)(m:Str->Option ah)(x:Str)(u:ah):Prop:=(env.kindOf x=aa .local/\m x=aa u)\/((env.kindOf x=aa .cell\/env.kindOf x=aa .free)/\∃c,env.cells.lookup x=aa c/\h.IsCell c (aa u))
structure Cx.Ok(X:Cx):Prop where
 mod:Mod X.K X.mg X.base
 kind:X.env.scope.kind=.function
 glob:X.env.globals=mainGlobals
 blt:X.env.builtins=builtinsNs
 above:X.s₀.heap.objs.size<=X.env.locals
 inj:∀x y c,X.env.cells.lookup x=aa c->X.env.cells.lookup y=aa c->x=y
 has:∀x,(X.env.kindOf x=aa .cell\/X.env.kindOf x=aa .free)->∃c,X.env.cells.lookup x=aa c
 cab:∀x c,X.fn x=true->X.env.cells.lookup x=aa c->X.s₀.heap.objs.size<=c
 hd:X.calm=true->X.A.handled=ae
 frames:X.A.frames=aa X.stack
 stk:X.stack=X.outer\/(X.stack=X.env::X.outer/\X.env.frame=aa X.env.locals)
 exf:∀b∈X.ex,b≠X.env.locals/\∀x c,X.env.cells.lookup x=aa c->c≠b
 bs:∀b o,X.base.get? b=aa o->X.s₀.heap.get? b=aa o/\X.H₀ b=ae
 bsz:X.base.objs.size<=X.s₀.heap.objs.size
 qx:∀b o,X.base.get? b=aa o->b∉X.ex
 sQ:∀b∈X.ex,b∉X.fs
 gC:X.s₀.heap.FunFrames X.base X.outer
 frf:∀b∈X.fs,X.H₀ b=ae
structure Inv(X:Cx)(af:List (ag×Obj))(σ:List (Option V))(H:Hp)(s:ak):Prop where
 ok:X.Ok
 os:s.os=X.s₀.os
 bare:l5 s.gens
 base:Un X.fs X.ex X.H₀ H X.s₀.heap s.heap
 loc:∃m,s.heap.Ns X.env.locals m/\∀(i:Nat) (x:Str) (v:V),X.N[i]? = aa x->σ[i]? = aa (aa v)->uD X.env.scope x->∃u,RelV v u/\Look X.env s.heap m x u
 cell:∀x c,X.env.cells.lookup x=aa c->∃v,s.heap.IsCell c v
 free:H X.env.locals=ae
 gf:∀x c,X.env.cells.lookup x=aa c->H c=ae
 pin:∀p∈X.pn++af,s.heap.get? p.1=aa p.2/\H p.1=ae/\p.1≠X.env.locals/\p.1∉X.fs/\∀v,p.2.data≠.cell v
 hok:bY X.prog X.w H s.heap
 len:σ.length=X.N.length
section
variable{X:Cx}{af:List (ag×Obj)}{σ:List (Option V)}{H H':Hp}{s:ak}{h':ay}
theorem Cx.Ok.Nx(ok:X.Ok){b:ag}{o:Obj}(e:X.base.get? b=aa o):b∉X.fs:=λhb=>by
 have:=(ok.gC.mem hb).1;rw[e]at this;cases this
theorem Inv.bs(I:Inv X af σ H s):∀b o,X.base.get? b=aa o->s.heap.get? b=aa o/\H b=ae:=λb o e=>
 ⟨I.base.keep b o (I.ok.bs b o e).1 (I.ok.bs b o e).2 (I.ok.Nx e) (I.ok.qx b o e),I.base.free b o (I.ok.bs b o e).1 (I.ok.bs b o e).2 (I.ok.qx b o e)⟩
theorem Inv.bk(I:Inv X af σ H s):∀b o,X.base.get? b=aa o->s.heap.get? b=aa o:=λb o e=>(I.bs b o e).1
theorem Inv.mod(I:Inv X af σ H s):Mod X.K X.mg X.base:=I.ok.mod
theorem Inv.dg(I:Inv X af σ H s):X.K.In s.heap:=I.ok.mod.kin.keeps I.bk
theorem Inv.nolimit(I:Inv X af σ H s):s.heap.NoLimit:=I.ok.mod.nolimit.keeps I.bk
theorem Inv.lt(I:Inv X af σ H s):X.env.locals<s.heap.objs.size:=let ⟨_,hn,_⟩:=I.loc;hn.lt
theorem Inv.sz(I:Inv X af σ H s):X.s₀.heap.objs.size<=s.heap.objs.size:=d9 I.ok.above (yg I.lt)
theorem Inv.OE(I:Inv X af σ H s){a:ag}(h:s.heap.objs.size<=a):a∉X.fs:=λhb=>by
 obtain⟨_,o,ho,_⟩:=I.ok.gC.mem hb;exact absurd (gG (bE ho) (d9 I.sz h)) (kj _)
theorem Inv.m8(I:Inv X af σ H s):∀x c,X.env.cells.lookup x=aa c->c≠X.env.locals:=λx c e z=>by
 obtain⟨v,o,ho,hd⟩:=I.cell x c e;obtain⟨m,⟨o',es,ep,ho',hd',_⟩,_⟩:=I.loc;rw[z,ho']at ho;cases ho;rw[hd']at hd;cases hd
theorem Inv.gC(I:Inv X af σ H s):s.heap.FunFrames X.base X.outer:=by
 have all:∀(l:List Env),(∀b∈frs l,b∈X.fs)->X.s₀.heap.FunFrames X.base l->s.heap.FunFrames X.base l:=by
  intro l
  induction l with
  |nil=>intro _ _;trivial
  |cons env r ih=>
   intro hs hl;obtain⟨hk,⟨L,o,hf,hn,ho,hd⟩,hr⟩:=hl;have hL:L∈X.fs:=hs L (by unfold frs;rw[BL,hf];exact b8);obtain⟨sl,e⟩:=I.base.slot L o ho (I.ok.frf L hL) hL λz=>I.ok.sQ L z hL;exact⟨hk,⟨L,_,hf,hn,e,hd⟩,ih (λb hb=>hs b (by unfold frs;rw[BL,hf];exact cy _ hb)) hr⟩
 exact all X.outer (λ_ hb=>hb) I.ok.gC
theorem Inv.stack(I:Inv X af σ H s):s.heap.FunFrames X.base X.stack:=by
 rcases I.ok.stk with e|⟨e,hf⟩
 ·rw[e];exact I.gC
 ·rw[e];obtain⟨m,hn,_⟩:=I.loc;refine .cons (by rw[I.ok.kind];decide) hf hn ?_ I.gC;exact BC (d9 I.ok.bsz I.ok.above)
theorem Inv.v3(I:Inv X af σ H s):∀b∈frs X.stack,b∈X.env.locals::X.fs:=λb hb=>by
 rcases I.ok.stk with e|⟨e,hf⟩
 ·rw[e]at hb;exact cy _ hb
 ·rw[e]at hb;unfold frs at hb;rw[BL,hf]at hb;exact hb
theorem Inv.tY(I:Inv X af σ H s):∀b∈frs X.stack,H b=ae:=λb hb=>by
 rcases bn.mp (I.v3 b hb)with e|hb
 ·rw[e];exact I.free
 ·obtain⟨_,o,ho,_⟩:=I.ok.gC.mem hb;exact I.base.free b o ho (I.ok.frf b hb) λz=>I.ok.sQ b z hb
theorem Inv.step{g':Array GenState}{t':Nat}{d':Drawn}{ch:List ag}(I:Inv X af σ H s)
 (hch:∀b∈ch,(b∈X.ex\/X.s₀.heap.objs.size<=b)/\b≠X.env.locals/\(∀x c,X.env.cells.lookup x=aa c->c≠b)/\∀p∈X.pn++af,p.1≠b)
 (keep:∀b o,b≠X.env.locals->b∉X.fs->b∉ch->s.heap.get? b=aa o->H b=ae->h'.get? b=aa o)
 (slot:∀b o,b≠X.env.locals->b∈X.fs->b∉ch->s.heap.get? b=aa o->H b=ae->∃sl,h'.get? b=aa { o with slots:=sl }) (free:∀b o,b∉ch->s.heap.get? b=aa o->H b=ae->H' b=ae)
 (there:∀b o,b∉ch->s.heap.get? b=aa o->∃o',h'.get? b=aa o')
 (tups:∀b xs,H b=aa (.tup xs)->H' b=aa (.tup xs)) (iS:∀b o u,H b=aa (.frz o u)->H' b=aa (.frz o u)) (iT:∀b w ps,H b=aa (.tbl w ps)->∃more,H' b=aa (.tbl w (ps++more)))
 (ns:∀m,s.heap.Ns X.env.locals m->h'.Ns X.env.locals m) (hok:bY X.prog X.w H' h') (hg:l5 g') :
 Inv X af σ H' { s with heap:=h',gens:=g',drawn:=d',toks:=t' }:=by
 have neL:∀b o,X.s₀.heap.get? b=aa o->b≠X.env.locals:=λb o e=>eF (gG (bE e) I.ok.above);have neC:∀b o,X.s₀.heap.get? b=aa o->b∉X.ex->b∉ch:=λb o e hx hb=>by
  rcases(hch b hb).1 with z|z
  ·exact hx z
  ·exact absurd (gG (bE e) z) (kj _)
 have cellK:∀x c,X.env.cells.lookup x=aa c->∀v,s.heap.IsCell c v->h'.IsCell c v:=λx c e v ⟨o,ho,hd⟩=>by
  have nch:c∉ch:=λz=>(hch c z).2.2.1 x c e rfl;by_cases hc:c∈X.fs
  ·obtain⟨sl,q⟩:=slot c o (I.m8 x c e) hc nch ho (I.gf x c e);exact⟨_,q,hd⟩
  ·exact⟨o,keep c o (I.m8 x c e) hc nch ho (I.gf x c e),hd⟩
 refine⟨I.ok,I.os,hg,⟨λb o e n hb hx=>?_,λb o e n hb hx=>?_,λb o e n hx=>?_,λb o e hx=>?_,λb xs e=>tups b xs (I.base.tups b xs e),λb o xs e=>iS b o xs (I.base.iS b o xs e),λb w ps e=>?_⟩,?_,λx c e=>?_,?_,λx c e=>?_,λp hp=>?_,hok,I.len⟩
 ·exact keep b o (neL b o e) hb (neC b o e hx) (I.base.keep b o e n hb hx) (I.base.free b o e n hx)
 ·obtain⟨sl,e1⟩:=I.base.slot b o e n hb hx;obtain⟨sl',e2⟩:=slot b _ (neL b o e) hb (neC b o e hx) e1 (I.base.free b o e n hx);exact⟨sl',e2⟩
 ·obtain⟨o',e1⟩:=I.base.there b o e hx;exact free b o' (neC b o e hx) e1 (I.base.free b o e n hx)
 ·obtain⟨o',e1⟩:=I.base.there b o e hx;exact there b o' (neC b o e hx) e1
 ·obtain⟨m1,e1⟩:=I.base.iT b w ps e;obtain⟨m2,e2⟩:=iT b w _ e1;exact⟨m1++m2,by rw[e2,Array.append_assoc]⟩
 ·obtain⟨m,hn,hl⟩:=I.loc;refine⟨m,ns m hn,λi x v e1 e2 e3=>?_⟩;obtain⟨u,r,l⟩:=hl i x v e1 e2 e3;refine⟨u,r,?_⟩;rcases l with l|⟨k,c,e,z⟩
  ·exact .inl l
  ·exact .inr ⟨k,c,e,cellK x c e _ z⟩
 ·obtain⟨v,z⟩:=I.cell x c e;exact⟨v,cellK x c e v z⟩
 ·obtain⟨m,⟨o,_,_,ho,_⟩,_⟩:=I.loc;exact free _ o (λz=>(hch _ z).2.1 rfl) ho I.free
 ·obtain⟨v,o,ho,hd⟩:=I.cell x c e;exact free c o (λz=>(hch c z).2.2.1 x c e rfl) ho (I.gf x c e)
 ·obtain⟨e,n,ne,nf,d⟩:=I.pin p hp;have nch:p.1∉ch:=λz=>(hch p.1 z).2.2.2 p hp rfl;exact⟨keep p.1 p.2 ne nf nch e n,free p.1 p.2 nch e n,ne,nf,d⟩
theorem Inv.un{t':Nat}(I:Inv X af σ H s)(u:Un X.fs [] H H' s.heap h')(hok:bY X.prog X.w H' h'):Inv X af σ H' { s with heap:=h',toks:=t' }:=by
 obtain⟨m,⟨o,es,ep,ho,r⟩,_⟩:=id I.loc;obtain⟨sl,hL⟩:=u.any ho I.free (by simp);exact I.step (g':=s.gens) (d':=s.drawn) (ch:=[]) (λ_ z=>nomatch z) (λb o _ hb _ e n=>u.keep b o e n hb (by simp)) (λb o _ hb _ e n=>u.slot b o e n hb (by simp)) (λb o _ e n=>u.free b o e n (by simp)) (λb o _ e=>u.there b o e (by simp)) u.tups u.iS u.iT (λm' hm=>by
  obtain⟨o',es',ep',ho',r'⟩:=hm;rw[ho]at ho';cases ho';exact⟨_,es',ep',hL,r'⟩) hok I.bare
theorem Inv.call{g':Array GenState}{t':Nat}{d':Drawn}{ch:List ag}(I:Inv X af σ H s)(u:Un (frs X.stack) ch H H' s.heap h')(hok:bY X.prog X.w H' h')(hg:l5 g')
 (hch:∀b∈ch,(b∈X.ex\/X.s₀.heap.objs.size<=b)/\b≠X.env.locals/\(∀x c,X.env.cells.lookup x=aa c->c≠b)/\∀p∈X.pn++af,p.1≠b) :
 Inv X af σ H' { s with heap:=h',gens:=g',drawn:=d',toks:=t' }:=by
 obtain⟨m,⟨o,es,ep,ho,r⟩,_⟩:=id I.loc;obtain⟨sl,hL⟩:=u.any ho I.free λz=>(hch _ z).2.1 rfl;exact I.step (ch:=ch) hch (λb o hL hb hc e n=>u.keep b o e n (λz=>(bn.mp (I.v3 b z)).elim hL hb) hc) (λb o _ _ hc e n=>u.any e n hc) (λb o hc e n=>u.free b o e n hc) (λb o hc e=>u.there b o e hc) u.tups u.iS u.iT (λm' hm=>by
  obtain⟨o',es',ep',ho',r'⟩:=hm;rw[ho]at ho';cases ho';exact⟨_,es',ep',hL,r'⟩) hok hg
theorem Inv.turned{t':Nat}{it:ag}(I:Inv X af σ H s)(k:∀b o,b≠it->s.heap.get? b=aa o->h'.get? b=aa o)(hn:H it=ae)(hL:it≠X.env.locals)
 (h1:it∈X.ex\/X.s₀.heap.objs.size<=it) (h2:∀x c,X.env.cells.lookup x=aa c->c≠it) (h3:∀p∈X.pn++af,p.1≠it):Inv X af σ H { s with heap:=h',toks:=t' }:=by
 have nit:∀b u,H b=aa u->b≠it:=λb u e z=>by rw[z,hn]at e;cases e
 refine I.step (g':=s.gens) (d':=s.drawn) (ch:=[it]) (λb hb=>?_) (λb o _ _ hc e _=>k b o (λz=>hc (by simp[z])) e) (λb o _ _ hc e _=>⟨o.slots,k b o (λz=>hc (by simp[z])) e⟩) (λ_ _ _ _ n=>n)
  (λb o hc e=>⟨o,k b o (λz=>hc (by simp[z])) e⟩) (λ_ _ e=>e) (λ_ _ _ e=>e) (λb w ps e=>⟨#[],by rw[e];simp⟩) (λm hm=>?_) (λb u e=>?_) I.bare
 ·have e:b=it:=by simpa using hb
  subst e;exact⟨h1,hL,h2,h3⟩
 ·obtain⟨o,es,ep,ho,r⟩:=hm;exact⟨o,es,ep,k _ o (bU hL) ho,r⟩
 ·refine(I.hok b u e).stay (λc v hc q=>k c v ?_ q) (λ_ q=>q) λ_ _ q=>q;rcases hc with z|z
  ·rw[z];exact nit b u e
  ·exact nit c _ z
theorem Inv.tok(I:Inv X af σ H s)(t:Nat):Inv X af σ H { s with toks:=t }:=I.un (h':=s.heap) (t':=t) Un.refl I.hok
theorem Inv.kept{t':Nat}(I:Inv X af σ H s)(k:∀b u,s.heap.get? b=aa u->h'.get? b=aa u):Inv X af σ H { s with heap:=h',toks:=t' }:=I.un (Un.kept k) (I.hok.kept k)
theorem Inv.laid{a:ag}{o:HO}{t':Nat}(I:Inv X af σ H s)(k:∀b u,s.heap.get? b=aa u->h'.get? b=aa u)(hp:s.heap.objs.size<=a)(new:bI X.prog X.w (upd H a o) h' a o) :
 Inv X af σ (upd H a o) { s with heap:=h',toks:=t' }:=I.un (Un.laid k hp (I.hok.fresh hp)) (I.hok.laid k hp new)
theorem Inv.write{x e:ag}{o:HO}{t':Nat}(I:Inv X af σ H s)(mu:ux (H x))(he:e=x\/H e=aa (.own x))(k:∀b u,b≠e->s.heap.get? b=aa u->h'.get? b=aa u)(heo:∃u,h'.get? e=aa u)
 (new:bI X.prog X.w (upd H x o) h' x o):Inv X af σ (upd H x o) { s with heap:=h',toks:=t' }:=I.un (Un.write mu he k heo) (I.hok.write mu he k heo new)
theorem Inv.weak{σ':List (Option V)}(I:Inv X af σ H s)(hl:σ'.length = σ.length)(w:∀(i:Nat) v,σ'[i]? = aa (aa v)->σ[i]? = aa (aa v)):Inv X af σ' H s:=⟨I.ok,I.os,I.bare,I.base,let ⟨m,hn,hl'⟩:=I.loc;⟨m,hn,λi x v e1 e2 e3=>hl' i x v e1 (w i v e2) e3⟩,I.cell,I.free,I.gf,I.pin,I.hok,hl.trans I.len⟩
theorem Inv.ze{sR:List (ag×Obj)}(I:Inv X af σ H s)(h:∀p∈sR,s.heap.get? p.1=aa p.2/\H p.1=ae/\p.1≠X.env.locals/\p.1∉X.fs/\∀v,p.2.data≠.cell v):Inv X sR σ H s:=⟨I.ok,I.os,I.bare,I.base,I.loc,I.cell,I.free,I.gf,λp hp=>(gF.mp hp).elim (λz=>I.pin p (k4 _ z)) (h p),I.hok,I.len⟩
theorem yZ{N:List Str}(hN:N.Nodup){i j:Nat}{x:Str}(a:N[i]? = aa x)(b:N[j]? = aa x):i=j:=by obtain⟨h1,e1⟩:=dm.mp a;obtain⟨h2,e2⟩:=dm.mp b;exact(qk hN).mp (e1.trans e2.symm)
theorem Gs{M:kZ}{A:a7}{E:ah->ak->Prop}{i:Nat}{x:Str}{v:V}{u:ah}{Q:Unit->ak->Prop}(I:Inv X af σ H s)(hN:X.N.Nodup)(hi:X.N[i]? = aa x)(hx:Loc X.env.scope x)(r:RelV v u)
 (h:∀s',Inv X af (σ.set i (aa v)) H s'->(∃a,qh a s.heap s'.heap/\(a=X.env.locals\/X.env.cells.lookup x=aa a))->Q () s') (hf:X.fn x=true\/X.env.scope.names.lookup x=aa .local:=by first|exact .inl rfl|exact .inr rfl|assumption):wpAny M A (storeName X.env x u) Q E s:=by
 obtain⟨m,hn,hl⟩:=id I.loc;have hcls:(X.env.scope.kind==.class||(X.env.scope.kind==.module&&X.env.locals != X.env.globals))=false:=by rw[I.ok.kind];rfl
 have hiσ:i < σ.length:=by rw[I.len];exact(dm.mp hi).1
 have m8:=I.m8;have tracked:∀{a:ag} {h':ay},(∃o,s.heap.get? a=aa o/\H a=ae)->qh a s.heap h'->bY X.prog X.w H h':=λ{a h'} ha hs b ob e=>by
  obtain⟨_,_,hfree⟩:=ha;refine(I.hok b ob e).stay (λc w' hc q=>(hs.2 c ?_).trans q) (λ_ q=>q) λ_ _ q=>q;rintro rfl;rcases hc with rfl|hc
  ·rw[hfree]at e;cases e
  ·rw[hfree]at hc;cases hc
 rcases hx with hk|hk
 ·refine wpAny_storeName_local hk hn (λh' hn' hs=>?_) hcls;obtain⟨oL,_,_,hoL,_⟩:=id hn;refine h _ ⟨I.ok,I.os,I.bare,⟨λb o e n hb hx=>?_,λb o e n hb hx=>?_,I.base.free,λb o e hx=>?_,I.base.tups,I.base.iS,I.base.iT⟩,⟨_,hn',λj y v' e1 e2 e3=>?_⟩,λy c e=>?_,I.free,I.gf,λp hp=>?_,tracked ⟨oL,hoL,I.free⟩ hs,by simpa using I.len⟩ ⟨_,hs,.inl rfl⟩
  ·exact(hs.2 b (eF (gG (bE e) I.ok.above))).trans (I.base.keep b o e n hb hx)
  ·obtain⟨sl,e1⟩:=I.base.slot b o e n hb hx;exact⟨sl,(hs.2 b (eF (gG (bE e) I.ok.above))).trans e1⟩
  ·obtain⟨o',e1⟩:=I.base.there b o e hx;exact⟨o',(hs.2 b (eF (gG (bE e) I.ok.above))).trans e1⟩
  ·by_cases hj:j=i
   ·subst hj;rw[hi]at e1;cases e1;rw[lR hiσ]at e2;cases e2;exact⟨u,r,.inl ⟨hk,by simp⟩⟩
   ·rw[gc (bU hj)]at e2;obtain⟨u',r',q⟩:=hl j y v' e1 e2 e3;refine⟨u',r',?_⟩;rcases q with ⟨k,e⟩|⟨k,c,e,z⟩
    ·refine .inl ⟨k,?_⟩;have:y≠x:=λe=>hj (yZ hN e1 (e ▸ hi));simp[this,e]
    ·exact .inr ⟨k,c,e,z.sameBut hs (m8 y c e)⟩
  ·obtain⟨w',z⟩:=I.cell y c e;exact⟨w',z.sameBut hs (m8 y c e)⟩
  ·obtain⟨e,n,ne,nf,d⟩:=I.pin p hp;exact⟨(hs.2 p.1 ne).trans e,n,ne,nf,d⟩
 ·have hfn:X.fn x=true:=by
   rcases hf with z|z
   ·exact z
   ·rw[z]at hk;cases hk
  obtain⟨c,hc⟩:=I.ok.has x (.inl hk);obtain⟨w',z⟩:=I.cell x c hc;refine wpAny_storeName_cell I.ok.kind hk hc z (λh' hc' hs=>?_);obtain⟨oc,hoc,S3⟩:=id z;refine h { s with heap:=h' } ⟨I.ok,I.os,I.bare,⟨λb o e n hb hx=>?_,λb o e n hb hx=>?_,I.base.free,λb o e hx=>?_,I.base.tups,I.base.iS,I.base.iT⟩,⟨m,hn.sameBut hs (bU (m8 x c hc)),λj y v' e1 e2 e3=>?_⟩,λy c' e=>?_,I.free,I.gf,λp hp=>?_,tracked ⟨oc,hoc,I.gf x c hc⟩ hs,by simpa using I.len⟩ ⟨c,hs,.inr hc⟩
  ·exact(hs.2 b (eF (gG (bE e) (I.ok.cab x c hfn hc)))).trans (I.base.keep b o e n hb hx)
  ·obtain⟨sl,e1⟩:=I.base.slot b o e n hb hx;exact⟨sl,(hs.2 b (eF (gG (bE e) (I.ok.cab x c hfn hc)))).trans e1⟩
  ·obtain⟨o',e1⟩:=I.base.there b o e hx;exact⟨o',(hs.2 b (eF (gG (bE e) (I.ok.cab x c hfn hc)))).trans e1⟩
  ·by_cases hj:j=i
   ·subst hj;rw[hi]at e1;cases e1;rw[lR hiσ]at e2;cases e2;exact⟨u,r,.inr ⟨.inl hk,c,hc,hc'⟩⟩
   ·rw[gc (bU hj)]at e2;obtain⟨u',r',q⟩:=hl j y v' e1 e2 e3;refine⟨u',r',?_⟩;rcases q with q|⟨k,c',e,z'⟩
    ·exact .inl q
    ·refine .inr ⟨k,c',e,z'.sameBut hs ?_⟩;rintro rfl;exact hj (yZ hN e1 (I.ok.inj _ _ _ e hc ▸ hi))
  ·by_cases hcc:c'=c
   ·subst hcc;exact⟨_,hc'⟩
   ·obtain⟨w2,z2⟩:=I.cell y c' e;exact⟨w2,z2.sameBut hs hcc⟩
  ·obtain⟨e,n,ne,nf,d⟩:=I.pin p hp;refine⟨(hs.2 p.1 ?_).trans e,n,ne,nf,d⟩;intro q;rw[q,hoc]at e;have q':oc=p.2:=gZ e;exact d w' (by rw[<- q'];exact S3)
theorem ur{M:kZ}{A:a7}{E:ah->ak->Prop}{i:Nat}{x:Str}{v:V}{u:ah}{Q:Unit->ak->Prop}(I:Inv X af σ H s)(hN:X.N.Nodup)(hi:X.N[i]? = aa x)(hx:Loc X.env.scope x)(r:RelV v u)
 (h:∀s',Inv X af (σ.set i (aa v)) H s'->Q () s') (hf:X.fn x=true\/X.env.scope.names.lookup x=aa .local:=by first|exact .inl rfl|exact .inr rfl|assumption):wpAny M A (storeName X.env x u) Q E s:=
 Gs I hN hi hx r (λs' I' _=>h s' I') hf
theorem Inv.call'{s':ak}{ch:List ag}(I:Inv X af σ H s)(ho:s'.os=s.os)(u:Un (frs X.stack) ch H H' s.heap s'.heap)(hok:bY X.prog X.w H' s'.heap)(hg:l5 s'.gens)
 (hch:∀b∈ch,(b∈X.ex\/X.s₀.heap.objs.size<=b)/\b≠X.env.locals/\(∀x c,X.env.cells.lookup x=aa c->c≠b)/\∀p∈X.pn++af,p.1≠b):Inv X af σ H' s':=by
 obtain⟨h',g',d',t',o'⟩:=s';have e:o'=s.os:=ho;subst e;exact I.call (g':=g') (t':=t') (d':=d') u hok hg hch
end
abbrev XK:=ah->Option ag->Hp->Prop
abbrev St:=List (Option V)
abbrev VK:=V->Hp->Prop
abbrev TE:=St->Hp->VK->Prop
abbrev TT:=St->Hp->(Bool->Hp->Prop)->Prop
abbrev TA:=St->Hp->(List V->Hp->Prop)->Prop
structure Ends where
 nx:St->Hp->Prop
 rt:VK
 bk:St->Hp->Prop:=λ_ _=>False
 ct:St->Hp->Prop:=λ_ _=>False
abbrev TS:=Ends->St->Hp->Prop
def EP(X:Cx)(af:List (ag×Obj))(σ:St)(Q:VK)(u:ah)(s':ak):Prop:=∃v H',Inv X af σ H' s'/\RelV v u/\Q v H'
def TP(X:Cx)(af:List (ag×Obj))(σ:St)(Q:Bool->Hp->Prop)(b:Bool)(s':ak):Prop:=∃H',Inv X af σ H' s'/\Q b H'
def AP(X:Cx)(af:List (ag×Obj))(σ:St)(Q:List V->Hp->Prop)(us:List ah)(s':ak):Prop:=∃vs H',Inv X af σ H' s'/\Vals vs us/\Q vs H'
def SP(X:Cx)(af:List (ag×Obj))(D:Ends)(f:Flow)(s':ak):Prop:=
 match f with
 |.next=>∃σ' H',Inv X af σ' H' s'/\D.nx σ' H'
 |.brk=>∃σ' H',Inv X af σ' H' s'/\D.bk σ' H'
 |.cont=>∃σ' H',Inv X af σ' H' s'/\D.ct σ' H'
 |.ret u=>∃v σ' H',Inv X af σ' H' s'/\RelV v u/\D.rt v H'
def PE(X:Cx)(e:aO)(t:TE):Prop:=∀(af:List (ag×Obj)) (s:ak) (σ:St) (H:Hp) (Q:VK),Inv X af σ H s->t σ H Q->wpAny (model X.prog X.w) X.A (eval e X.env) (EP X af σ Q) X.xe s
def PT(X:Cx)(e:aO)(t:TT):Prop:=∀(af:List (ag×Obj)) (s:ak) (σ:St) (H:Hp) (Q:Bool->Hp->Prop),Inv X af σ H s->t σ H Q->wpAny (model X.prog X.w) X.A (isTrue e X.env (eval e X.env)) (TP X af σ Q) X.xe s
def PW(X:Cx)(e:aO)(t:TT):Prop:=∀(whole:Sem ah) (af:List (ag×Obj)) (s:ak) (σ:St) (H:Hp) (Q:Bool->Hp->Prop),Inv X af σ H s->t σ H Q->wpAny (model X.prog X.w) X.A (isTrue e X.env whole) (TP X af σ Q) X.xe s
theorem PW.pt{X:Cx}{e:aO}{t:TT}(h:PW X e t):PT X e t:=h _
def PA(X:Cx)(es:List aO)(t:TA):Prop:=∀(pos:Pos) (af:List (ag×Obj)) (s:ak) (σ:St) (H:Hp) (Q:List V->Hp->Prop),Inv X af σ H s->t σ H Q->wpAny (model X.prog X.w) X.A (spliced (backTo pos (starEach es X.env))) (AP X af σ Q) X.xe s
def PS(X:Cx)(st:bj)(t:TS):Prop:=∀(af:List (ag×Obj)) (s:ak) (σ:St) (H:Hp) (D:Ends),Inv X af σ H s->t D σ H->wpAny (model X.prog X.w) X.A (exec st X.env) (SP X af D) X.xe s
def fv(X:Cx)(st:List bj)(t:TS):Prop:=∀(af:List (ag×Obj)) (s:ak) (σ:St) (H:Hp) (D:Ends),Inv X af σ H s->t D σ H->wpAny (model X.prog X.w) X.A (execs st X.env) (SP X af D) X.xe s
theorem aM{α:Type}{t:Sem α}{Q Q':α->ak->Prop}{M:kZ}{A:a7}{E:ah->ak->Prop}{s:ak}(h:wpAny M A t Q E s)(hQ:∀a s,Q a s->Q' a s):wpAny M A t Q' E s:=e5 h hQ λ_ _ x=>x
section
variable{X:Cx}
def eZ(i:Nat):TE:=λσ H Q=>∃v,σ[i]? = aa (aa v)/\Q v H
def tC(v:V):TE:=λ_ H Q=>Q v H
theorem PP{i:Nat}{x:Str}{pos:Pos}(hN:X.N[i]? = aa x)(hv:uD X.env.scope x)(hd:(x==("__debug__" : Str))=false:=by decide)(hcd:(x==("__classdict__" : Str))=false:=by decide):PE X (.Name x pos) (eZ i):=by
 intro af s σ H Q I h;obtain⟨v,e,h⟩:=h;obtain⟨m,hn,hl⟩:=I.loc;obtain⟨u,r,l⟩:=hl i x v hN e hv;have fin:EP X af σ Q u s:=⟨v,H,I,r,h⟩;rcases l with ⟨hk,hm⟩|⟨hk,c,hc,hcell⟩
 ·exact wpAny_Name (wpAny_loadName_local I.ok.kind hk hn hm fin) hd
 ·rcases hk with hk|hk
  ·exact wpAny_Name (wpAny_loadName_cell I.ok.kind hk hc hcell fin) hd
  ·exact wpAny_Name (wpAny_loadName_free I.ok.kind hk hc hcell fin hcd) hd
theorem aU{i j pos}:PE X (.Constant (.int i) j pos) (tC (.int i)):=λ_ _ _ H _ I h=>wpAny_Constant_int ⟨.int i,H,I.tok _,⟨_,rfl⟩,h⟩
theorem fS{b j pos}:PE X (.Constant (.bool b) j pos) (tC (.bl b)):=λ_ _ _ H _ I h=>Constant_bool ⟨.bl b,H,I,rfl,h⟩
theorem qY{j pos}:PE X (.Constant .none j pos) (tC .non):=λ_ _ _ H _ I h=>Constant_none ⟨.non,H,I,rfl,h⟩
theorem jt{x j pos}:PE X (.Constant (.str x) j pos) (tC (.str x)):=λ_ _ _ H _ I h=>Calls.Constant_str ⟨.str x,H,I.tok _,⟨_,rfl⟩,h⟩
def Gl(X:Cx)(x:Str):Prop:=X.env.kindOf x=aa .globalImplicit
theorem nO{E:ah->ak->Prop}{af:List (ag×Obj)}{s:ak}{σ:St}{H:Hp}{x:Str}{u:ah}{pos:Pos}{Q:ah->ak->Prop}(I:Inv X af σ H s)(hg:Gl X x)(hm:X.mg x=aa u)(h:Q u s)
 (hd:(x==("__debug__" : Str))=false:=by decide):wpAny (model X.prog X.w) X.A (eval (.Name x pos) X.env) Q E s:=
 Kj I.ok.kind hg (Calls.loadGlobal_global (by rw[I.ok.glob];exact I.mod.glob.keeps I.bk) hm h) hd
theorem qD{E:ah->ak->Prop}{af:List (ag×Obj)}{s:ak}{σ:St}{H:Hp}{x:Str}{u:ah}{pos:Pos}{Q:ah->ak->Prop}(I:Inv X af σ H s)(hg:Gl X x)(hm:X.mg x=ae)(hv:bootBuiltins x=aa u)(h:Q u s)
 (hn:x ≠ "__name__" := by decide) (hd:(x==("__debug__" : Str))=false:=by decide):wpAny (model X.prog X.w) X.A (eval (.Name x pos) X.env) Q E s:=by
 obtain⟨mb,h1,h2⟩:=I.mod.blt;exact Kj I.ok.kind hg (Calls.loadGlobal_builtin (by rw[I.ok.glob];exact I.mod.glob.keeps I.bk) hm (by rw[I.ok.blt];exact h1.keeps I.bk) ((h2 x hn).trans hv) h) hd
theorem fi{x:Str}{v:V}{u:ah}{pos:Pos}(hg:Gl X x)(hm:X.mg x=aa u)(r:RelV v u)(hd:(x==("__debug__" : Str))=false:=by decide):PE X (.Name x pos) (tC v):=λ_ _ _ H _ I h=>nO I hg hm ⟨v,H,I,r,h⟩ hd
theorem QH{x:Str}{v:V}{u:ah}{pos:Pos}(hg:Gl X x)(hm:X.mg x=ae)(hv:bootBuiltins x=aa u)(r:RelV v u)(hn:x ≠ "__name__" := by decide)(hd:(x==("__debug__" : Str))=false:=by decide):PE X (.Name x pos) (tC v):=λ_ _ _ H _ I h=>qD I hg hm hv ⟨v,H,I,r,h⟩ hn hd
variable{a b:aO}{ta tb:TE}{pos:Pos}
def PC(X:Cx)(op:CmpOp)(a b:aO)(t:TE):Prop:=
 ∀(af:List (ag×Obj)) (s:ak) (σ:St) (H:Hp) (Q:VK),Inv X af σ H s->t σ H Q ->
  wpAny (model X.prog X.w) X.A (eval a X.env) (λv s₁=>wpAny (model X.prog X.w) X.A (eval b X.env) (λu s₂=>wpAny (model X.prog X.w) X.A (compareOp op v u) (EP X af σ Q) X.xe s₂) X.xe s₁) X.xe s
def tB(t:TE):TT:=λσ H Q=>t σ H λx H1=>∃c,x=.bl c/\Q c H1
theorem w9{op:CmpOp}{t:TE}(h:PC X op a b t)(h1:behindInMarks op b=false:=by first|exact UC _ (by decide) (by decide)|rfl):PT X (.Compare a [op] [b] pos) (tB t):=by intro af s σ H Q I hw;refine wpAny_isTrue_Compare1 (aM (h af s σ H _ I hw) λv s1 h1=>aM h1 λu s2 h2=>aM h2 λc s3 ⟨x,H1,I1,r1,q1⟩=>?_) h1;obtain⟨d,rfl,q⟩:=q1;cases r1;exact lP ⟨H1,I1,q⟩
theorem eD{e:aO}{t:TE}(h:PE X e t)(he:∀whole,isTrue e X.env whole=(do let v <- whole;standAt e.pos;holding [v] (truthy v)):=by intro _;rfl):PT X e (tB t):=by intro af s σ H Q I hw;refine isTrue_plain (aM (h af s σ H _ I hw) λv s1 ⟨x,H1,I1,r1,q1⟩=>?_) (he _);obtain⟨d,rfl,q⟩:=q1;cases r1;exact lP ⟨H1,I1,q⟩
variable{tA tB':TT}{rest:List aO}
def FQ(t u:TT):TT:=λσ H Q=>t σ H λc H1=>if c=true then u σ H1 Q else Q false H1
def DS(t u:TT):TT:=λσ H Q=>t σ H λc H1=>if c=true then Q true H1 else u σ H1 Q
def D6(t:TT):TT:=λσ H Q=>t σ H λc H1=>Q (!c) H1
theorem pw_and1(ha:PT X a tA):PW X (.BoolOp .And [a] pos) tA:=by
 intro wh af s σ H Q I h;refine isTrue_and (aM (ha af s σ H Q I h) λc s1 e=>?_);cases c with
 |true=>exact isTrue_and_nil e
 |false=>exact e
theorem pw_or1(ha:PT X a tA):PW X (.BoolOp .Or [a] pos) tA:=by
 intro wh af s σ H Q I h;refine isTrue_or (aM (ha af s σ H Q I h) λc s1 e=>?_);cases c with
 |false=>exact isTrue_or_nil e
 |true=>exact e
theorem pw_and(ha:PT X a tA)(hb:PW X (.BoolOp .And (b::rest) pos) tB'):PW X (.BoolOp .And (a::b::rest) pos) (FQ tA tB'):=by
 intro wh af s σ H Q I h;refine isTrue_and (aM (ha af s σ H _ I h) λc s1 ⟨H1,I1,q1⟩=>?_);cases c with
 |true=>exact hb wh af s1 σ H1 Q I1 q1
 |false=>exact⟨H1,I1,q1⟩
theorem pw_or(ha:PT X a tA)(hb:PW X (.BoolOp .Or (b::rest) pos) tB'):PW X (.BoolOp .Or (a::b::rest) pos) (DS tA tB'):=by
 intro wh af s σ H Q I h;refine isTrue_or (aM (ha af s σ H _ I h) λc s1 ⟨H1,I1,q1⟩=>?_);cases c with
 |true=>exact⟨H1,I1,q1⟩
 |false=>exact hb wh af s1 σ H1 Q I1 q1
theorem jT(ha:PT X a tA):PT X (.UnaryOp .Not a pos) (D6 tA):=by intro af s σ H Q I h;exact isTrue_not (ha af s σ H (λc H1=>Q (!c) H1) I h)
def IC(ta tb:TE):TE:=λσ H Q=>ta σ H λx H1=>∃c,x=.bl c/\if c=true then tb σ H1 Q else Q (.bl false) H1
theorem y6{op}{t:TE}(h:PE X a t):PE X (.BoolOp op [a] pos) t:=λaf s σ H Q I hw=>BoolOp_one (h af s σ H Q I hw)
theorem yT(ha:PE X a ta)(hb:PE X (.BoolOp .And (b::rest) pos) tb):PE X (.BoolOp .And (a::b::rest) pos) (IC ta tb):=by
 intro af s σ H Q I h;refine BoolOp_and (aM (ha af s σ H _ I h) λv s1 ⟨x,H1,I1,r1,q1⟩=>?_);obtain⟨c,rfl,q1⟩:=q1;cases r1;refine lP ?_;cases c with
 |true=>exact hb af s1 σ H1 Q I1 q1
 |false=>exact⟨.bl false,H1,I1,rfl,q1⟩
end
def dO(K:aB)(H:Hp)(a:ag)(xs:List V):Prop:=
 Rd H a (.lst xs) \/
  ∃(o:Obj) (am:Array ah) (n:Nat),K.lookup a=aa o/\o.cls=.type "list" /\ o.dict=ae/\o.data=.seq am n/\am.size<=sizeLine/\Vals xs am.toList
def ff(K:aB)(H:Hp)(a:ag)(xs:List V):Prop:=
 Rd H a (.tup xs) \/
  ∃(o:Obj) (am:Array ah) (n:Nat),K.lookup a=aa o/\o.cls=.type "tuple" /\ o.data=.seq am n/\am.size<=sizeLine/\Vals xs am.toList
def Md:ah->Option V
 |.none=>aa .non
 |.bool b=>aa (.bl b)
 |.int i _=>aa (.int i)
 |.str x _=>aa (.str x)
 |.bytes b _=>aa (.byt b)
 |.float b _=>aa (.flt b)
 |.ref a=>aa (.ref a)
 |.type n=>aa (.ty n)
 |_=>ae
theorem RelV.abs{x:V}{u:ah}(r:RelV x u):Md u=aa x:=by
 cases x with
 |non=>cases r;rfl
 |bl _=>cases r;rfl
 |int _=>obtain⟨t,rfl⟩:=r;rfl
 |str _=>obtain⟨t,rfl⟩:=r;rfl
 |byt _=>obtain⟨t,rfl⟩:=r;rfl
 |flt _=>obtain⟨t,rfl⟩:=r;rfl
 |ref _=>cases r;rfl
 |ty _=>cases r;rfl
theorem RelV.inj{x y:V}{u:ah}(r:RelV x u)(q:RelV y u):x=y:=gZ (r.abs.symm.trans q.abs)
theorem Vals.inj:∀{xs ys:List V} {us:List ah},Vals xs us->Vals ys us->xs=ys
 |_,_,_,.nil,.nil=>rfl
 |_,_,_,.cons r t,.cons r' t'=>by rw[r.inj r',Vals.inj t t']
section
variable{X:Cx}{af:List (ag×Obj)}{σ:St}{H:Hp}{s:ak}{a:ag}{xs ys:List V}
theorem Inv.list(I:Inv X af σ H s)(h:dO X.K H a xs):∃am:List ah,Vals xs am/\PlainL s.heap a am.toArray/\xs.length<=sizeLine:=by
 rcases h with h|⟨o,am,n,hk,hc,hd,hs,hz,r⟩
 ·obtain⟨z,am,n,r,e⟩:=h.ok I.hok;exact⟨am,r,⟨_,n,e,rfl,rfl,rfl⟩,z⟩
 ·refine⟨am.toList,r,⟨o,n,I.dg a o hk,hc,hd,by simpa using hs⟩,?_⟩;have e:=r.length;simp only[qu]at e;omega
theorem Inv.tuple(I:Inv X af σ H s)(h:ff X.K H a xs):∃am:List ah,Vals xs am/\IsTup s.heap a am.toArray/\xs.length<=sizeLine:=by
 rcases h with h|⟨o,am,n,hk,hc,hs,hz,r⟩
 ·obtain⟨z,am,r,p⟩:=h.ok I.hok;exact⟨am,r,p.tup,z⟩
 ·refine⟨am.toList,r,⟨o,I.dg a o hk,hc,n,by simpa using hs⟩,?_⟩;have e:=r.length;simp only[qu]at e;omega
theorem Inv.A8(I:Inv X af σ H s)(h:dO X.K H a xs)(h':dO X.K H a ys):xs=ys:=by
 obtain⟨am,r,⟨o,n,e,_,_,d⟩,_⟩:=I.list h;obtain⟨its',r',⟨o',n',e',_,_,d'⟩,_⟩:=I.list h';rw[e]at e';cases e';rw[d]at d';injection d' with d1 _;have:am=its':=by simpa using congrArg Array.toList d1
 subst this;exact r.inj r'
theorem Inv.yY(I:Inv X af σ H s)(h:ff X.K H a xs)(h':ff X.K H a ys):xs=ys:=by
 obtain⟨am,r,⟨o,e,_,n,d⟩,_⟩:=I.tuple h;obtain⟨its',r',⟨o',e',_,n',d'⟩,_⟩:=I.tuple h';rw[e]at e';cases e';rw[d]at d';injection d' with d1 _;have:am=its':=by simpa using congrArg Array.toList d1
 subst this;exact r.inj r'
end
abbrev Cx.wish(X:Cx)(E:ah->ak->Prop):Cx:={ X with xe:=E }
abbrev Cx.nJ(X:Cx):Cx:=X.wish λ_ _=>False
theorem Cx.Ok.wish{X:Cx}(ok:X.Ok)(E:ah->ak->Prop):(X.wish E).Ok:=⟨ok.mod,ok.kind,ok.glob,ok.blt,ok.above,ok.inj,ok.has,ok.cab,ok.hd,ok.frames,ok.stk,ok.exf,ok.bs,ok.bsz,ok.qx,ok.sQ,ok.gC,ok.frf⟩
theorem Cx.Ok.nK{X:Cx}{E:ah->ak->Prop}(ok:(X.wish E).Ok):X.Ok:=⟨ok.mod,ok.kind,ok.glob,ok.blt,ok.above,ok.inj,ok.has,ok.cab,ok.hd,ok.frames,ok.stk,ok.exf,ok.bs,ok.bsz,ok.qx,ok.sQ,ok.gC,ok.frf⟩
section
variable{X:Cx}{af:List (ag×Obj)}{σ:St}{H:Hp}{s:ak}{E:ah->ak->Prop}
theorem Inv.wish(I:Inv X af σ H s)(E:ah->ak->Prop):Inv (X.wish E) af σ H s:=⟨I.ok.wish E,I.os,I.bare,I.base,I.loc,I.cell,I.free,I.gf,I.pin,I.hok,I.len⟩
theorem Inv.nK(I:Inv (X.wish E) af σ H s):Inv X af σ H s:=⟨I.ok.nK,I.os,I.bare,I.base,I.loc,I.cell,I.free,I.gf,I.pin,I.hok,I.len⟩
theorem SP.nK{D:Ends}{f:Flow}{s':ak}(h:SP (X.wish E) af D f s'):SP X af D f s':=by
 cases f with
 |next=>obtain⟨σ',H',I,q⟩:=h;exact⟨σ',H',I.nK,q⟩
 |brk=>obtain⟨σ',H',I,q⟩:=h;exact⟨σ',H',I.nK,q⟩
 |cont=>obtain⟨σ',H',I,q⟩:=h;exact⟨σ',H',I.nK,q⟩
 |ret u=>obtain⟨v,σ',H',I,r,q⟩:=h;exact⟨v,σ',H',I.nK,r,q⟩
theorem fv.nJ{st:List bj}{t:TS}(h:fv X.nJ st t):fv X st t:=λaf s σ H D I hw=>
 e5 (h af s σ H D (I.wish _) hw) (λ_ _ q=>q.nK) λ_ _ z=>fu z
end
section
variable{X:Cx}{st:bj}{rest:List bj}{t u:TS}{e:aO}{te:TE}{pos:Pos}
def DX:TS:=λD σ H=>D.nx σ H
def Bn(t u:TS):TS:=λD σ H=>t { D with nx:=u D } σ H
theorem bP:fv X [] DX:=λ_ _ σ H _ I h=>sg ⟨σ,H,I,h⟩
theorem aD(h1:PS X st t)(h2:fv X rest u):fv X (st::rest) (Bn t u):=by
 intro af s σ H D I h;refine Bq (aM (h1 af s σ H { D with nx:=u D } I h) λf s1 q=>?_);cases f with
 |next=>
  obtain⟨σ',H',I',q⟩:=q;exact h2 af s1 σ' H' D I' q
 |ret v=>exact q
 |brk=>exact q
 |cont=>exact q
theorem aP(h1:PS X st t):fv X [st] t:=by
 intro af s σ H D I h;refine Bq (aM (h1 af s σ H D I h) λf s1 q=>?_);cases f with
 |next=>exact sg q
 |ret v=>exact q
 |brk=>exact q
 |cont=>exact q
theorem Inv.quiet{af:List (ag×Obj)}{σ:St}{H:Hp}{s:ak}(I:Inv X af σ H s):interactive X.env=false:=by simp[interactive,I.ok.kind]
def tF(te:TE):TS:=λD σ H=>te σ H λ_ H1=>D.nx σ H1
theorem eV(he:PE X e te)(hs:swapsWith e ae pos.line X.env=pure false:=by rfl):PS X (.Expr e pos) (tF te):=by intro af s σ H D I h;exact wpAny_Expr_any (aM (he af s σ H _ I h) λv s1 ⟨x,H1,I1,r1,q1⟩=>⟨σ,H1,I1,q1⟩) I.quiet hs
def wQ(te:TE):TS:=λD σ H=>te σ H D.rt
theorem cp(he:PE X e te):PS X (.Return (aa e) pos) (wQ te):=by intro af s σ H D I h;exact wpAny_Return_some (aM (he af s σ H _ I h) λv s1 ⟨x,H1,I1,r1,q1⟩=>⟨x,σ,H1,I1,r1,q1⟩)
def zo(c:TT)(t u:TS):TS:=λD σ H=>c σ H λb H1=>if b=true then t D σ H1 else u D σ H1
theorem bQ{c:aO}{a b:List bj}{tc:TT}(hc:PT X c tc)(ha:fv X a t)(hb:fv X b u):PS X (.If c a b pos) (zo tc t u):=by
 intro af s σ H D I h;refine wpAny_If (aM (hc af s σ H _ I h) λd s1 ⟨H1,I1,q1⟩=>?_);cases d with
 |true=>exact ha af s1 σ H1 D I1 q1
 |false=>exact hb af s1 σ H1 D I1 q1
def Im:TS:=λ_ _ _=>False
theorem kI:PS X st Im:=λ_ _ _ _ _ _ h=>h.elim
end
abbrev TG:=V->St->Hp->(St->Hp->Prop)->Prop
abbrev iZ:=List V->St->Hp->(St->Hp->Prop)->Prop
def PG(X:Cx)(target:aO)(t:TG):Prop:=
 ∀(af:List (ag×Obj)) (s:ak) (σ:St) (H:Hp) (v:V) (u:ah) (Q:St->Hp->Prop),Inv X af σ H s->RelV v u->t v σ H Q ->
  wpAny (model X.prog X.w) X.A (assign target X.env u) (λ_ s'=>∃σ' H',Inv X af σ' H' s'/\Q σ' H') X.xe s
def jR(X:Cx)(ts:List aO)(t:iZ):Prop:=
 ∀(af:List (ag×Obj)) (s:ak) (σ:St) (H:Hp) (vs:List V) (us:List ah) (Q:St->Hp->Prop),Inv X af σ H s->Vals vs us->t vs σ H Q ->
  wpAny (model X.prog X.w) X.A (assignInOrder ((assignEach ts X.env).map (·.2)) us) (λ_ s'=>∃σ' H',Inv X af σ' H' s'/\Q σ' H') X.xe s
abbrev zg:=V->V->V->Hp->(Hp->Prop)->Prop
def Ih(X:Cx)(t:zg):Prop:=
 ∀(af:List (ag×Obj)) (s:ak) (σ:St) (H:Hp) (o i v:V) (ov iv u:ah) (Q:Hp->Prop),Inv X af σ H s->RelV o ov->RelV i iv->RelV v u->t o i v H Q ->
  wpAny (model X.prog X.w) X.A (setItem ov iv u) (λ_ s'=>∃H',Inv X af σ H' s'/\Q H') X.xe s
section
variable{X:Cx}{pos:Pos}
def ii(i:Nat):TG:=λv σ H Q=>Q (σ.set i (aa v)) H
theorem dL{i:Nat}{x:Str}(hN:X.N.Nodup)(hi:X.N[i]? = aa x)(hx:Loc X.env.scope x)(hf:X.fn x=true\/X.env.scope.names.lookup x=aa .local:=by first|exact .inl rfl|exact .inr rfl|assumption):PG X (.Name x pos) (ii i):=by intro af s σ H v u Q I r h;exact wpAny_assign_Name (ur I hN hi hx r (λs' I'=>⟨_,H,I',h⟩) hf)
def ul:iZ:=λvs σ H Q=>vs=[]/\Q σ H
def ut(t:TG)(u:iZ):iZ:=λvs σ H Q=>∃v r,vs=v::r/\t v σ H λσ' H'=>u r σ' H' Q
theorem om:jR X [] ul:=by intro af s σ H vs us Q I r h;obtain⟨e,h⟩:=h;subst e;cases r;exact assignInOrder_nil ⟨σ,H,I,h⟩
theorem ij{e:aO}{es:List aO}{t:TG}{u:iZ}(h1:PG X e t)(h2:jR X es u)
 (hs:(assignEach (e::es) X.env).map (·.2)=assign e X.env::(assignEach es X.env).map (·.2):=by rfl):jR X (e::es) (ut t u):=by
 intro af s σ H vs us Q I r h;obtain⟨v,vr,e1,h⟩:=h;subst e1;cases r with
 |cons r rr=>
  rw[hs];refine assignInOrder_cons (aM (h1 af s σ H _ _ _ I r h) λ_ s1 ⟨σ1,H1,I1,q1⟩=>?_);exact h2 af s1 σ1 H1 _ _ Q I1 rr q1
def y4(K:aB)(n:Nat)(t:iZ):TG:=λv σ H Q=>∃a xs,v=.ref a/\ff K H a xs/\xs.length=n/\t xs σ H Q
theorem ph{es:List aO}{k:Nat}{t:iZ}{n:Nat}(hc:X.calm=true)(h:jR X es t)
 (hn:(assignEach es X.env).length=n:=by rfl) (hst:(assignEach es X.env).findIdx? (·.1)=ae:=by rfl):PG X (.Tuple es k pos) (y4 X.K n t):=by
 intro af s σ H v u Q I r hw;obtain⟨a,xs,e1,hq,hl,hw⟩:=hw;subst e1;cases r;obtain⟨am,rv,ht,hz⟩:=I.tuple hq;refine assign_Tuple_tuple (I.ok.hd hc) ht (by simp[hn,<- hl,rv.length]) hst λh' hx=>?_;have I1:Inv X af σ H { s with heap:=h' }:=I.kept (t':=s.toks) λb o e=>hx b o (eF (bE e)) e;exact h af _ σ H xs _ Q I1 (by simpa using rv) hw
def DC(to ti:TE)(t:zg):TG:=λv σ H Q=>to σ H λo H1=>ti σ H1 λi H2=>t o i v H2 λH3=>Q σ H3
theorem Qu{o i:aO}{to ti:TE}{t:zg}(ho:PE X o to)(hi:PE X i ti)(hs:Ih X t)
 (ha:∀v,assign (.Subscript o i pos) X.env v=(do
  let ov <- holding [v] (eval o X.env);let iv <- holding [v,ov] (eval i X.env)
  standAt pos
  holding [v,ov,iv] (setItem ov iv v)
  release [v,ov,iv] []):=by intro _;rfl):PG X (.Subscript o i pos) (DC to ti t):=by
 intro af s σ H v u Q I r h;rw[ha];refine ar (iJ (aM (ho af s σ H _ I h) λov s1 ⟨x,H1,I1,r1,q1⟩=>?_));refine ar (iJ (aM (hi af s1 σ H1 _ I1 q1) λiv s2 ⟨y,H2,I2,r2,q2⟩=>?_));refine ar (qc (ar (iJ (aM (hs af s2 σ H2 x y v ov iv u _ I2 r1 r2 r q2) λ_ s3 ⟨H3,I3,q3⟩=>?_))));exact wpAny_release ⟨σ,H3,I3,q3⟩
def kN(te:TE)(g:TG):TS:=λD σ H=>te σ H λx H1=>g x σ H1 D.nx
theorem HI{tg e:aO}{te:TE}{g:TG}(he:PE X e te)(hg:PG X tg g)(hs:swapsWithSole [tg] e pos.line X.env=pure false:=by rfl)(hw:swappedStores [tg] e X.env=pure ae:=by rfl)
 (h1:(assignEach [tg] X.env).map (·.2)=[assign tg X.env]:=by rfl):PS X (.Assign [tg] e pos) (kN te g):=by
 intro af s σ H D I h;refine wpAny_Assign_stores (aM (he af s σ H _ I h) λv s1 ⟨x,H1,I1,r1,q1⟩=>?_) hs hw;rw[h1];exact aM (hg af s1 σ H1 x v _ I1 r1 q1) λ_ s2 q=>q
theorem jH{i:Nat}{x:Str}{e:aO}{te:TE}{pos':Pos}(hN:X.N.Nodup)(hi:X.N[i]? = aa x)(hx:Loc X.env.scope x)(he:PE X e te)(hs:swapsWith e (aa (.Name x pos')) pos.line X.env=pure false:=by rfl)(hf:X.fn x=true\/X.env.scope.names.lookup x=aa .local:=by first|exact .inl rfl|exact .inr rfl|assumption) :
 PS X (.Assign [.Name x pos'] e pos) (kN te (ii i)):=by
 intro af s σ H D I h;refine wpAny_Assign_Name (aM (he af s σ H _ I h) λv s1 ⟨y,H1,I1,r1,q1⟩=>?_) hs;exact ur I1 hN hi hx r1 (λs2 I2=>⟨_,H1,I2,q1⟩) hf
end
section
variable{X:Cx}{pos:Pos}
def F0(c:TT)(tb:TS):TS:=λD σ H=>∃W:Nat->St->Hp->Prop,(∃m,W m σ H)/\∀m σ H,W m σ H ->
 c σ H λb H1=>if b=true then∃N:St->Hp->Prop,(∀σ' H',N σ' H'->∃m',m'<m/\W m' σ' H')/\tb { D with nx:=N,ct:=N,bk:=D.nx } σ H1 else D.nx σ H1
theorem EJ{c:aO}{body:List bj}{tc:TT}{tb:TS}(hp:PassesOwn (model X.prog X.w) X.A X.env X.xe)(hc:PT X c tc)(hb:fv X body tb):PS X (.While c body [] pos) (F0 tc tb):=by
 intro af s σ H D I h;obtain⟨W,⟨m0,w0⟩,turn⟩:=h;refine wpAny_While (codeAny_whileLoop (λn s'=>∃σ' H',Inv X af σ' H' s'/\W n σ' H') ?_ m0 ⟨σ,H,I,w0⟩);rintro n s1 ⟨σ1,H1,I1,w1⟩;refine qb hp (aM (hc af s1 σ1 H1 _ I1 (turn n σ1 H1 w1)) λb s2 ⟨H2,I2,q2⟩=>?_);cases b with
 |true=>
  obtain⟨N,hN,q2⟩:=q2;rw[aF rfl];refine qb hp (aM (hb af s2 σ1 H2 _ I2 q2) λf s3 q3=>?_);cases f with
  |next=>
   obtain⟨σ3,H3,I3,n3⟩:=q3;obtain⟨m',hm,w3⟩:=hN σ3 H3 n3;exact⟨m',hm,σ3,H3,I3,w3⟩
  |cont=>
   obtain⟨σ3,H3,I3,n3⟩:=q3;obtain⟨m',hm,w3⟩:=hN σ3 H3 n3;exact⟨m',hm,σ3,H3,I3,w3⟩
  |brk=>exact q3
  |ret v=>exact q3
 |false=>
  rw[aG dN];exact sg ⟨σ1,H2,I2,q2⟩
end
structure It where
 go:Nat->Hp->Prop
 yld:Nat->Hp->V->Hp->Prop
 stop:Nat->Hp->Prop
def fH(X:Cx)(af:List (ag×Obj))(H:Hp)(b:ag):Prop:=H b=ae/\b≠X.env.locals/\b∉X.fs/\(b∈X.ex\/X.s₀.heap.objs.size<=b)/\(∀x c,X.env.cells.lookup x=aa c->c≠b)/\∀p∈X.pn++af,p.1≠b
theorem Inv.jd{X:Cx}{af:List (ag×Obj)}{σ:St}{H H':Hp}{s:ak}{b:ag}(I:Inv X af σ H s)(hb:s.heap.objs.size<=b)(hn:H' b=ae):fH X af H' b:=by
 refine⟨hn,nA (gG I.lt hb),I.OE hb,.inr (d9 I.sz hb),λx c e z=>?_,λp hp z=>?_⟩
 ·obtain⟨v,q⟩:=I.cell x c e;exact absurd (gG q.lt (by rw[z];exact hb)) (kj _)
 ·exact absurd (gG (bE (I.pin p hp).1) (by rw[z];exact hb)) (kj _)
structure Turn(P:aW)(w:aQ)(K:aB)(tg:aO)(J:It)(fp:List ag)(it:ag)(tn:Nat->ay->Prop):Prop where
 mem:it∈fp
 obj:∀i h,tn i h->∀b∈fp,∃o,h.get? b=aa o/\∀v,o.data≠.cell v
 keep:∀i h h',tn i h->(∀b∈fp,∀o,h.get? b=aa o->h'.get? b=aa o)->tn i h'
 item:∀(X:Cx),X.prog=P->X.w=w->X.K=K->X.calm=true->∀(i:Nat) (af:List (ag×Obj)) (s:ak) (σ:St) (H:Hp) (E:ah->ak->Prop),Inv X af σ H s->(∀b∈fp,fH X af H b)->tn i s.heap->J.go i H ->
  wpAny (model P w) X.A (pyNext (.ref it)) (λr s1=>∃u,r=aa u /\
   wpAny (model P w) X.A (letOwnedTupleGo tg (.ref it) u) (λ_ s2=>∃x H',Inv X af σ H' s2/\RelV x u/\J.yld i H x H'/\tn (i+1) s2.heap/\∀b∈fp,H' b=ae) E s1) E s
 done:∀(X:Cx),X.prog=P->X.w=w->X.K=K->X.calm=true->∀(i:Nat) (af:List (ag×Obj)) (s:ak) (σ:St) (H:Hp) (E:ah->ak->Prop),Inv X af σ H s->(∀b∈fp,fH X af H b)->tn i s.heap->J.stop i H ->
  wpAny (model P w) X.A (pyNext (.ref it)) (λr s1=>r=ae/\Inv X af σ H s1) E s
 self:∀(A:a7) (i:Nat) (s:ak) (Q:ah->ak->Prop) (E:ah->ak->Prop),tn i s.heap->Q (.ref it) s->wpAny (model P w) A (pyIter (.ref it)) Q E s
abbrev TI:=St->Hp->(It->Hp->Prop)->Prop
def PIE(X:Cx)(af:List (ag×Obj))(σ:St)(tg:aO)(R:It->Hp->Prop)(itv:ah)(s2:ak):Prop:=∃(it:ag) (fp:List ag) (tn:Nat->ay->Prop) (J:It) (H':Hp),itv=.ref it/\Inv X af σ H' s2/\Turn X.prog X.w X.K tg J fp it tn/\tn 0 s2.heap/\(∀b∈fp,fH X af H' b)/\R J H'
def PI(X:Cx)(tg iter:aO)(wi:TI):Prop:=
 ∀(af:List (ag×Obj)) (s:ak) (σ:St) (H:Hp) (R:It->Hp->Prop),Inv X af σ H s->wi σ H R ->
  wpAny (model X.prog X.w) X.A (eval iter X.env) (λv s1=>wpAny (model X.prog X.w) X.A (pyIter v) (PIE X af σ tg R) X.xe s1) X.xe s
theorem v4{M:kZ}{A:a7}{E:ah->ak->Prop}{s:ak}{tg:aO}{it:ag}{u:ah}{o:Obj}{n:String}{vs:Array ah}{Q:Unit->ak->Prop}(ho:s.heap.get? it=aa o)(hc:o.cls=.type n)(hd:o.data=.fields vs)
 (hn:["enumerate","zip","dict_itemiterator","dict_reverseitemiterator","odict_iterator","itertools.zip_longest","itertools.pairwise"].contains n=false) (hQ:Q () s):wpAny M A (letOwnedTupleGo tg (.ref it) u) Q E s:=by
 unfold letOwnedTupleGo;cases tg<;>first
  |exact bh hQ
  | (cases u<;>first
   |exact bh hQ
   | (refine ar (wpAny_load ho ?_)
      rw[hc,hd];show wpAny M A (if(["enumerate","zip","dict_itemiterator","dict_reverseitemiterator","odict_iterator","itertools.zip_longest","itertools.pairwise"].contains n&&vs[0]? == aa (rawInt _))=true then _ else _) Q E s;rw[aG (by intro h;rw[hn,Bool.false_and]at h;cases h)];exact bh hQ))
def tT(K:aB)(a:ag):It:=⟨λi H=>∃xs x,dO K H a xs/\xs[i]? = aa x,λi H x H'=>H'=H/\∀xs,dO K H a xs->xs[i]? = aa x,λi H=>∃xs,dO K H a xs/\xs.length<=i⟩
def uV(K:aB)(a:ag):It:=⟨λi H=>∃xs x,ff K H a xs/\xs[i]? = aa x,λi H x H'=>H'=H/\∀xs,ff K H a xs->xs[i]? = aa x,λi H=>∃xs,ff K H a xs/\xs.length<=i⟩
def qG(lo:Int)(n:Nat):It:=⟨λi _=>i<n,λi H x H'=>H'=H/\x=.int (lo+i),λi _=>n<=i⟩
theorem QM{P:aW}{w:aQ}{K:aB}{tg:aO}(a it:ag):Turn P w K tg (tT K a) [it] it (λi h=>h.IsListIter it a i) where
 mem:=by simp
 obj:=λi h st b hb=>by
  have e:b=it:=by simpa using hb
  subst e;obtain⟨o,e,c,d⟩:=st;exact⟨o,e,λv z=>by rw[d]at z;cases z⟩
 keep:=λi h h' st k=>st.at λo e=>k it (by simp) o e
 item:=by intro X hP hw hK hc i af s σ H E I hf st hg;subst hP hw hK;obtain⟨xs,x,hq,hx⟩:=hg;obtain⟨am,rv,p,hz⟩:=I.list hq;obtain⟨u,hu,ru⟩:=rv.get hx;obtain⟨f0,f1,f2,f3,f4,f5⟩:=hf it (by simp);refine Jm st p.isList (x:=u) (by simpa using hu) λh' st' sb=>?_;have I1:Inv X af σ H { s with heap:=h' }:=I.turned (t':=s.toks) (λb o hb e=>(sb.2 b hb).trans e) f0 f1 f3 f4 f5;obtain⟨o,e,c,d⟩:=id st';exact⟨u,rfl,v4 (s:={ s with heap:=h' }) e c d (by decide) ⟨x,H,I1,ru,⟨rfl,λys hy=>by rw[I.A8 hy hq];exact hx⟩,st',λb hb=>(hf b hb).1⟩⟩
 done:=by intro X hP hw hK hc i af s σ H E I hf st hg;subst hP hw hK;obtain⟨xs,hq,hx⟩:=hg;obtain⟨am,rv,p,hz⟩:=I.list hq;obtain⟨f0,f1,f2,f3,f4,f5⟩:=hf it (by simp);have hl:=rv.length;exact wpAny_pyNext_list_end (I.ok.hd hc) st p.isList (by simp;omega) λh' eb=>⟨rfl,I.turned (t':=s.toks) (λb o hb e=>eb b o hb e) f0 f1 f3 f4 f5⟩
 self:=λ_ _ _ _ _ st h=>wpAny_pyIter_listiter st h
theorem Ox{P:aW}{w:aQ}{K:aB}{tg:aO}(a it:ag):Turn P w K tg (uV K a) [it] it (λi h=>h.IsTupleIter it a i) where
 mem:=by simp
 obj:=λi h st b hb=>by
  have e:b=it:=by simpa using hb
  subst e;obtain⟨o,e,c,d⟩:=st;exact⟨o,e,λv z=>by rw[d]at z;cases z⟩
 keep:=λi h h' st k=>st.at λo e=>k it (by simp) o e
 item:=by intro X hP hw hK hc i af s σ H E I hf st hg;subst hP hw hK;obtain⟨xs,x,hq,hx⟩:=hg;obtain⟨am,rv,p,hz⟩:=I.tuple hq;obtain⟨u,hu,ru⟩:=rv.get hx;obtain⟨f0,f1,f2,f3,f4,f5⟩:=hf it (by simp);refine wpAny_pyNext_tuple_item st (show s.heap.IsTuple a am.toArray from p) (x:=u) (by simpa using hu) λh' st' sb=>?_;have I1:Inv X af σ H { s with heap:=h' }:=I.turned (t':=s.toks) (λb o hb e=>(sb.2 b hb).trans e) f0 f1 f3 f4 f5;obtain⟨o,e,c,d⟩:=id st';exact⟨u,rfl,v4 (s:={ s with heap:=h' }) e c d (by decide) ⟨x,H,I1,ru,⟨rfl,λys hy=>by rw[I.yY hy hq];exact hx⟩,st',λb hb=>(hf b hb).1⟩⟩
 done:=by intro X hP hw hK hc i af s σ H E I hf st hg;subst hP hw hK;obtain⟨xs,hq,hx⟩:=hg;obtain⟨am,rv,p,hz⟩:=I.tuple hq;obtain⟨f0,f1,f2,f3,f4,f5⟩:=hf it (by simp);have hl:=rv.length;exact wpAny_pyNext_tuple_end (I.ok.hd hc) st (show s.heap.IsTuple a am.toArray from p) (by simp;omega) λh' eb=>⟨rfl,I.turned (t':=s.toks) (λb o hb e=>eb b o hb e) f0 f1 f3 f4 f5⟩
 self:=λ_ _ _ _ _ st h=>wpAny_pyIter_tupleiter st h
theorem RU{P:aW}{w:aQ}{K:aB}{tg:aO}(it:ag)(lo:Int)(n:Nat):Turn P w K tg (qG lo n) [it] it (λi h=>IsRangeIter h it (lo+(i:Nat)*1) ((n:Int)-(i:Nat)) 1) where
 mem:=by simp
 obj:=λi h st b hb=>by
  have e:b=it:=by simpa using hb
  subst e;exact⟨_,st,λv z=>by
   have z':Data.fields _=Data.cell v:=z;cases z'⟩
 keep:=λi h h' st k=>k it (by simp) _ st
 item:=by intro X hP hw hK hc i af s σ H E I hf st hg;subst hP hw hK;obtain⟨f0,f1,f2,f3,f4,f5⟩:=hf it (by simp);have W:=Walks.range (prog:=X.prog) (w:=X.w) (I.ok.hd hc) it lo 1 n;refine W.item i s _ _ hg st λv h' tk hv st' kk=>?_;obtain⟨t,rfl⟩:=hv;have I1:Inv X af σ H { s with heap:=h',toks:=tk }:=I.turned (λb o hb e=>kk b o (by simpa using hb) e) f0 f1 f3 f4 f5;refine⟨_,rfl,v4 (s:={ s with heap:=h',toks:=tk }) (n := "range_iterator") st' rfl rfl (by decide) ⟨.int (lo+i),H,I1,⟨t,?_⟩,⟨rfl,rfl⟩,st',λb hb=>(hf b hb).1⟩⟩;rw[Int.mul_one]
 done:=by intro X hP hw hK hc i af s σ H E I hf st hg;subst hP hw hK;obtain⟨f0,f1,f2,f3,f4,f5⟩:=hf it (by simp);exact wpAny_pyNext_range_end (I.ok.hd hc) st (by have:n<=i:=hg;omega) λh' eb=>⟨rfl,I.turned (t':=s.toks) (λb o hb e=>eb b o hb e) f0 f1 f3 f4 f5⟩
 self:=λ_ _ _ _ _ st h=>wpAny_pyIter_rangeiter st h
section
variable{X:Cx}{tg:aO}
def Gg(K:aB)(tl:TE):TI:=λσ H R=>tl σ H λx H1=>∃a,x=.ref a/\(∃xs,dO K H1 a xs)/\R (tT K a) H1
def Eb(K:aB)(tl:TE):TI:=λσ H R=>tl σ H λx H1=>∃a,x=.ref a/\(∃xs,ff K H1 a xs)/\R (uV K a) H1
theorem Fd{l:aO}{tl:TE}(hl:PE X l tl):PI X tg l (Gg X.K tl):=by
 intro af s σ H R I h;refine aM (hl af s σ H _ I h) λv s1 ⟨x,H1,I1,r1,q1⟩=>?_;obtain⟨a,e,⟨xs,hq⟩,q⟩:=q1;subst e;cases r1;obtain⟨am,rv,p,hz⟩:=I1.list hq;refine xE p.isList ?_;refine⟨s1.heap.objs.size,[s1.heap.objs.size],_,_,H1,rfl,I1.kept (t':=s1.toks) λb o e=>br _ e,QM a _,⟨_,dj _ rfl,rfl,rfl⟩,λb hb=>?_,q⟩;have e:b=s1.heap.objs.size:=by simpa using hb
 subst e;exact I1.jd (bu _) (I1.hok.fresh (bu _))
theorem Oy{l:aO}{tl:TE}(hl:PE X l tl):PI X tg l (Eb X.K tl):=by
 intro af s σ H R I h;refine aM (hl af s σ H _ I h) λv s1 ⟨x,H1,I1,r1,q1⟩=>?_;obtain⟨a,e,⟨xs,hq⟩,q⟩:=q1;subst e;cases r1;obtain⟨am,rv,p,hz⟩:=I1.tuple hq;refine wpAny_pyIter_tuple (show s1.heap.IsTuple a am.toArray from p) ?_;refine⟨s1.heap.objs.size,[s1.heap.objs.size],_,_,H1,rfl,I1.kept (t':=s1.toks) λb o e=>br _ e,Ox a _,⟨_,dj _ rfl,rfl,rfl⟩,λb hb=>?_,q⟩;have e:b=s1.heap.objs.size:=by simpa using hb
 subst e;exact I1.jd (bu _) (I1.hok.fresh (bu _))
theorem PR{af:List (ag×Obj)}{σ:St}{H:Hp}{s:ak}{R:It->Hp->Prop}{E:ah->ak->Prop}{lo hi:Int}{t u v:Tok}{tk:Nat}(I:Inv X af σ H s)(h1:-(2 ^ 62)<=lo)(h2:lo<2 ^ 62)(h3:-(2 ^ 62)<=hi)(h4:hi<2 ^ 62)
 (q:R (qG lo (hi-lo).toNat) H):wpAny (model X.prog X.w) X.A (pyIter (.ref s.heap.objs.size)) (PIE X af σ tg R) E { s with heap:=s.heap.push { cls:=.type "range", data:=.fields #[.int lo t,.int hi u,.int 1 v] },toks:=tk }:=by
 refine wpAny_pyIter_range (IsRange.new ..) (small_one h1 h2 h3 h4) ?_;have I1:Inv X af σ H { s with heap:=s.heap.push { cls:=.type "range",data:=.fields #[.int lo t,.int hi u,.int 1 v] },toks:=tk }:=I.kept λb o e=>br _ e;refine⟨(s.heap.push { cls:=.type "range",data:=.fields #[.int lo t,.int hi u,.int 1 v] }).objs.size,[(s.heap.push { cls:=.type "range", data:=.fields #[.int lo t,.int hi u,.int 1 v] }).objs.size],_,_,H,rfl,
  I1.kept (t':=tk) λb o e=>br _ e,RU _ lo (hi-lo).toNat,?_,λb hb=>?_,q⟩
 ·have e1:lo+((0:Nat):Int)*1=lo:=by simp
  have e2:(((hi-lo).toNat:Nat):Int)-((0:Nat):Int)=Builtin.Range.rangeSize lo hi 1:=by rw[rangeSize_one];split<;>omega
  show IsRangeIter _ _ (lo+((0:Nat):Int)*1) ((((hi-lo).toNat:Nat):Int)-((0:Nat):Int)) 1;rw[e1,e2];exact dj _ rfl
 ·have e:b=(s.heap.push { cls:=.type "range", data:=.fields #[.int lo t,.int hi u,.int 1 v] }).objs.size:=by simpa using hb
  subst e;exact I1.jd (bu _) (I1.hok.fresh (bu _))
def HW(ta:TA):TI:=λσ H R=>ta σ H λvs H1=>∃j:Int,vs=[.int j]/\-(2 ^ 62)<=j/\j<2 ^ 62/\R (qG 0 j.toNat) H1
theorem iX{a:aO}{ta:TA}{p pos:Pos}(hg:Gl X "range")(hm:X.mg "range" = ae)(ha:PA X [a] ta)(hs:starEach [a] X.env=[(false,eval a X.env)]:=by rfl):PI X tg (.Call (.Name "range" p) [a] [] pos) (HW ta):=by
 intro af s σ H R I h;refine Call_ (qD I hg hm boot_range (B7 (aM (ha pos af s σ H _ I h) λus s1 ⟨vs,H1,I1,r1,q1⟩=>?_) hs rfl));obtain⟨j,e,q1,q2,q⟩:=q1;subst e;cases r1 with
 |cons r rr=>
  cases rr;obtain⟨t,rfl⟩:=r;exact call_range_1 (PR I1 (by omega) (by omega) q1 q2 (by simpa using q))
def zd(wi:TI)(g:TG)(tb:TS):TS:=λD σ H=>wi σ H λJ H1=>∃W:Nat->Nat->St->Hp->Prop,(∃m,W 0 m σ H1)/\∀i m σ H,W i m σ H ->
 (J.stop i H/\D.nx σ H)\/(J.go i H/\∃N:St->Hp->Prop,(∀σ' H',N σ' H'->∃m',m'<m/\W (i+1) m' σ' H')/\∀x H',J.yld i H x H'->g x σ H' λσ2 H2=>tb { D with nx:=N,ct:=N,bk:=D.nx } σ2 H2)
def vK(fp:List ag)(h:ay):List (ag×Obj):=fp.filterMap λb=>(h.get? b).map λo=>(b,o)
theorem rc{fp:List ag}{h:ay}{b:ag}{o:Obj}(hb:b∈fp)(e:h.get? b=aa o):(b,o)∈vK fp h:=JV.mpr ⟨b,hb,by rw[e];rfl⟩
theorem Rb{fp:List ag}{h:ay}{p:ag×Obj}(hp:p∈vK fp h):p.1∈fp/\h.get? p.1=aa p.2:=by
 obtain⟨b,hb,e⟩:=JV.mp hp;cases q:h.get? b with
 |none=>rw[q]at e;cases e
 |some o=>
  rw[q]at e;have e':(b,o)=p:=gZ e;subst e';exact⟨hb,q⟩
theorem Inv.pinned{af:List (ag×Obj)}{σ:St}{H:Hp}{s:ak}{fp:List ag}(I:Inv X af σ H s)(hf:∀b∈fp,fH X af H b)(ho:∀b∈fp,∃o,s.heap.get? b=aa o/\∀v,o.data≠.cell v):Inv X (af++vK fp s.heap) σ H s:=
 I.ze λp hp=>(gF.mp hp).elim (λz=>I.pin p (f9 _ z)) λz=>by
  obtain⟨hb,e⟩:=Rb z;obtain⟨f0,f1,f2,_⟩:=hf p.1 hb;obtain⟨o,e',d⟩:=ho p.1 hb;rw[e]at e';cases e';exact⟨e,f0,f1,f2,d⟩
theorem Inv.qW{af pl:List (ag×Obj)}{σ:St}{H:Hp}{s:ak}(I:Inv X (af++pl) σ H s):Inv X af σ H s:=I.ze λp hp=>I.pin p (f9 _ (k4 _ hp))
theorem g9{iter:aO}{body:List bj}{wi:TI}{g:TG}{tb:TS}{pos:Pos}(hp:PassesOwn (model X.prog X.w) X.A X.env X.xe)(hc:X.calm=true)(hi:PI X tg iter wi)(hg:PG X tg g)(hb:fv X body tb)
 (hs:∀x,foldedSetIterable iter X.env x=pure x:=by intro _;rfl):PS X (.For tg iter body [] pos) (zd wi g tb):=by
 intro af s σ H D I h;refine wpAny_For (aM (hi af s σ H _ I h) λv s1 h1=>aM h1 λitv s2 h2=>?_) hs;obtain⟨it,fp,tn,J,H2,e,I2,T,st2,f2,W,⟨m0,w0⟩,turn⟩:=h2;subst e;have stat:∀{H':Hp},(∀b∈fp,H' b=ae)->∀b∈fp,fH X af H' b:=λhn b hb=>⟨hn b hb,(f2 b hb).2⟩;refine codeAny_forLoop_any (λn s'=>∃i σ' H',Inv X af σ' H' s'/\tn i s'.heap/\(∀b∈fp,H' b=ae)/\W i n σ' H') ?_ m0 ⟨0,σ,H2,I2,st2,λb hb=>(f2 b hb).1,w0⟩;rintro n s3 ⟨i,σ3,H3,I3,st3,fr3,w3⟩;rcases turn i n σ3 H3 w3 with ⟨stop,qn⟩|⟨go,N,hN,step⟩
 ·refine qb hp (aM (T.done X rfl rfl rfl hc i af s3 σ3 H3 X.xe I3 (stat fr3) st3 stop) λr s4 ⟨hr,I4⟩=>?_);subst hr;exact sg ⟨σ3,H3,I4,qn⟩
 ·refine qb hp (aM (T.item X rfl rfl rfl hc i af s3 σ3 H3 X.xe I3 (stat fr3) st3 go) λr s4 ⟨u,hr,h4⟩=>?_);subst hr;refine qb hp (aM h4 λ_ s5 ⟨x,H5,I5,r5,y5,st5,fr5⟩=>?_);have I5':=I5.pinned (stat fr5) (T.obj _ _ st5);refine qb hp (aM (hg _ s5 σ3 H5 x u _ I5' r5 (step x H5 y5)) λ_ s6 ⟨σ6,H6,I6,q6⟩=>?_);refine qb hp (aM (hb _ s6 σ6 H6 _ I6 q6) λf s7 q7=>?_);have again:∀{σ7:St} {H7:Hp},Inv X (af++vK fp s5.heap) σ7 H7 s7->N σ7 H7->∃m,m<n/\∃i σ' H',Inv X af σ' H' s7/\tn i s7.heap/\(∀b∈fp,H' b=ae)/\W i m σ' H':=λ{σ7 H7} I7 n7=>by
   obtain⟨m',hm,w7⟩:=hN σ7 H7 n7;refine⟨m',hm,i+1,σ7,H7,I7.qW,T.keep _ _ _ st5 λb hb o e=>(I7.pin (b,o) (f9 _ (f9 _ (rc hb e)))).1,λb hb=>?_,w7⟩;obtain⟨o,e,d⟩:=T.obj _ _ st5 b hb;exact(I7.pin (b,o) (f9 _ (f9 _ (rc hb e)))).2.1
  cases f with
  |next=>obtain⟨σ7,H7,I7,n7⟩:=q7;exact again I7 n7
  |cont=>obtain⟨σ7,H7,I7,n7⟩:=q7;exact again I7 n7
  |brk=>obtain⟨σ7,H7,I7,q7⟩:=q7;exact⟨σ7,H7,I7.qW,q7⟩
  |ret v=>obtain⟨x7,σ7,H7,I7,r7,q7⟩:=q7;exact⟨x7,σ7,H7,I7.qW,r7,q7⟩
end
abbrev R2:=V->V->Hp->VK->Prop
def cq(X:Cx)(f:ah->ah->Sem ah)(r:R2):Prop:=
 ∀(af:List (ag×Obj)) (s:ak) (σ:St) (H:Hp) (x y:V) (v u:ah) (Q:VK),Inv X af σ H s->RelV x v->RelV y u->r x y H Q ->
  wpAny (model X.prog X.w) X.A (f v u) (EP X af σ Q) X.xe s
def fj(X:Cx)(f:ah)(r:List V->Hp->VK->Prop):Prop:=
 ∀(af:List (ag×Obj)) (s:ak) (σ:St) (H:Hp) (xs:List V) (us:List ah) (Q:VK),Inv X af σ H s->Vals xs us->r xs H Q ->
  wpAny (model X.prog X.w) X.A (call f us) (EP X af σ Q) X.xe s
def NG(X:Cx)(r:V->Hp->(Bool->Hp->Prop)->Prop):Prop:=
 ∀(af:List (ag×Obj)) (s:ak) (σ:St) (H:Hp) (x:V) (v:ah) (Q:Bool->Hp->Prop),Inv X af σ H s->RelV x v->r x H Q ->
  wpAny (model X.prog X.w) X.A (truthy v) (TP X af σ Q) X.xe s
def pM(r:R2)(ta tb:TE):TE:=λσ H Q=>ta σ H λx H1=>tb σ H1 λy H2=>r x y H2 Q
def rI(C:Int->Int->Prop)(g:Int->Int->V):R2:=λx y H Q=>∃i j,x=.int i/\y=.int j/\C i j/\Q (g i j) H
def jF(g:Int->Int->V):R2:=λx y H Q=>∃i j,x=.int i/\y=.int j/\Q (g i j) H
section
variable{X:Cx}{a b c:aO}{ta tb tc:TE}{pos:Pos}
theorem Ab(ha:PE X a ta)(hb:PE X b tb){af:List (ag×Obj)}{s:ak}{σ:St}{H:Hp}{R:V->V->Hp->Prop}(I:Inv X af σ H s)
 (h:ta σ H λx H1=>tb σ H1 λy H2=>R x y H2) {Q:ah->ak->Prop} {f:ah->ah->Sem ah}
 (hf:∀v u s2 x y H2,Inv X af σ H2 s2->RelV x v->RelV y u->R x y H2->wpAny (model X.prog X.w) X.A (f v u) Q X.xe s2) :
 wpAny (model X.prog X.w) X.A (eval a X.env) (λv s₁=>wpAny (model X.prog X.w) X.A (eval b X.env) (λu s₂=>wpAny (model X.prog X.w) X.A (f v u) Q X.xe s₂) X.xe s₁) X.xe s:=by
 refine aM (ha af s σ H _ I h) λv s1 ⟨x,H1,I1,r1,q1⟩=>?_;refine aM (hb af s1 σ H1 _ I1 q1) λu s2 ⟨y,H2,I2,r2,q2⟩=>?_;exact hf v u s2 x y H2 I2 r1 r2 q2
theorem a8{op:Operator}{r:R2}(ho:cq X (binaryOp op) r)(ha:PE X a ta)(hb:PE X b tb):PE X (.BinOp a op b pos) (pM r ta tb):=by intro af s σ H Q I h;exact wpAny_BinOp (Ab ha hb I h λv u s2 x y H2 I2 rx ry q=>ho af s2 σ H2 x y v u Q I2 rx ry q)
theorem Ad{f:ah->ah->Sem ah}{C:Int->Int->Prop}{g:Int->Int->Int}
 (rule:∀(i j:Int) (t u:Tok) (s:ak) (Q:ah->ak->Prop) (E:ah->ak->Prop),C i j->Q (.int (g i j) s.toks) { s with toks:=s.toks+1 }->wpAny (model X.prog X.w) X.A (f (.int i t) (.int j u)) Q E s) :
 cq X f (rI C λi j=>.int (g i j)):=by
 intro af s σ H x y v u Q I rx ry h;obtain⟨i,j,rfl,rfl,hc,q⟩:=h;obtain⟨t,rfl⟩:=rx;obtain⟨t',rfl⟩:=ry;exact rule i j t t' s _ _ hc ⟨.int (g i j),H,I.tok _,⟨_,rfl⟩,q⟩
theorem H9{f:ah->ah->Sem ah}{g:Int->Int->Int}
 (rule:∀(i j:Int) (t u:Tok) (s:ak) (Q:ah->ak->Prop) (E:ah->ak->Prop),Q (.int (g i j) s.toks) { s with toks:=s.toks+1 }->wpAny (model X.prog X.w) X.A (f (.int i t) (.int j u)) Q E s) :
 cq X f (jF λi j=>.int (g i j)):=by
 intro af s σ H x y v u Q I rx ry h;obtain⟨i,j,rfl,rfl,q⟩:=h;obtain⟨t,rfl⟩:=rx;obtain⟨t',rfl⟩:=ry;exact rule i j t t' s _ _ ⟨.int (g i j),H,I.tok _,⟨_,rfl⟩,q⟩
theorem An{f:ah->ah->Sem ah}{g:Int->Int->Bool}
 (rule:∀(i j:Int) (t u:Tok) (s:ak) (Q:ah->ak->Prop) (E:ah->ak->Prop),Q (.bool (g i j)) s->wpAny (model X.prog X.w) X.A (f (.int i t) (.int j u)) Q E s) :
 cq X f (jF λi j=>.bl (g i j)):=by
 intro af s σ H x y v u Q I rx ry h;obtain⟨i,j,rfl,rfl,q⟩:=h;obtain⟨t,rfl⟩:=rx;obtain⟨t',rfl⟩:=ry;exact rule i j t t' s _ _ ⟨.bl (g i j),H,I,rfl,q⟩
def wx(i j:Int):Prop:=(-(2 ^ 64)<i/\i<2 ^ 64)\/(-(2 ^ 64)<j/\j<2 ^ 64)
theorem wx.ok{i j:Int}(h:wx i j):IntMulOk i j:=by
 rcases h with ⟨h1,h2⟩|⟨h1,h2⟩
 ·exact .of_left (intBits_le_64 h1 h2)
 ·exact .of_right (intBits_le_64 h1 h2)
theorem Oj:cq X (binaryOp .Add) (jF λi j=>.int (i+j)):=H9 λ_ _ _ _ _ _ _ q=>add_int q
theorem Ds:cq X (binaryOp .Sub) (jF λi j=>.int (i-j)):=H9 λ_ _ _ _ _ _ _ q=>sub_int q
theorem iC:cq X (binaryOp .Mult) (rI wx λi j=>.int (i*j)):=Ad λ_ _ _ _ _ _ _ hc q=>mul_int q hc.ok
theorem ek:cq X (binaryOp .Mod) (rI (λ_ j=>0<j) λi j=>.int (i%j)):=Ad λi j _ _ _ _ _ hc q=>by
 have h1:(0:Int)<j:=hc;exact mod_int' (by omega) (by rw[Int.fmod_eq_emod_of_nonneg i (by omega)];exact q)
end
section
variable{X:Cx}{a b c:aO}{ta tb tc:TE}{pos:Pos}
theorem tQ{af:List (ag×Obj)}{σ:St}{H:Hp}{s:ak}{Q:VK}{k k':Bool}(I:Inv X af σ H s)(q:Q (.bl k) H)(e:k=k'):EP X af σ Q (.bool k') s:=by subst e;exact⟨.bl k,H,I,rfl,q⟩
theorem PH:cq X (compareOp .Lt) (jF λi j=>.bl (decide (i<j))):=An λ_ _ _ _ _ _ _ q=>lt_int q
theorem qF:cq X (compareOp .LtE) (jF λi j=>.bl (decide (i<=j))):=An λ_ _ _ _ _ _ _ q=>le_int q
theorem PN:cq X (compareOp .Gt) (jF λi j=>.bl (decide (j<i))):=An λ_ _ _ _ _ _ _ q=>gt_int q
theorem LM:cq X (compareOp .Lt) (λx y H Q=>∃i j,x=.str i/\y=.str j/\Q (.bl (decide (i.cps.toList<j.cps.toList))) H):=by intro af s σ H x y v u Q I rx ry h;obtain⟨i,j,rfl,rfl,q⟩:=h;obtain⟨t,rfl⟩:=rx;obtain⟨t',rfl⟩:=ry;exact lt_str (tQ I q rfl)
theorem Ob:cq X (compareOp .In) (λx y H Q=>∃i j,x=.str i/\y=.str j/\Q (.bl (!(Builtin.Str.occurrences j i 0 j.length 1).isEmpty)) H):=by intro af s σ H x y v u Q I rx ry h;obtain⟨i,j,rfl,rfl,q⟩:=h;obtain⟨t,rfl⟩:=rx;obtain⟨t',rfl⟩:=ry;exact in_str (tQ I q rfl)
theorem Nl:cq X (compareOp .Is) (λx y H Q=>y=.non/\Q (.bl (decide (x=.non))) H):=by
 intro af s σ H x y v u Q I rx ry h;obtain⟨rfl,q⟩:=h;cases ry;refine is_none_gen (tQ I q ?_);cases x<;>first
  |(cases rx;rfl)
  |(obtain⟨t,rfl⟩:=rx;rfl)
theorem Qc:cq X (compareOp .IsNot) (λx y H Q=>y=.non/\Q (.bl (!decide (x=.non))) H):=by
 intro af s σ H x y v u Q I rx ry h;obtain⟨rfl,q⟩:=h;cases ry;refine isnot_none_gen (tQ I q ?_);cases x<;>first
  |(cases rx;rfl)
  |(obtain⟨t,rfl⟩:=rx;rfl)
theorem cq.or{f:ah->ah->Sem ah}{r r':R2}(h:cq X f r)(h':cq X f r'):cq X f (λx y H Q=>r x y H Q\/r' x y H Q):=by
 intro af s σ H x y v u Q I rx ry q;rcases q with q|q
 ·exact h af s σ H x y v u Q I rx ry q
 ·exact h' af s σ H x y v u Q I rx ry q
theorem d5(b:aO){op:CmpOp}(h:op≠.In:=by decide)(h2:op≠.NotIn:=by decide):behindInMarks op b=false:=by
 have e1:(op==CmpOp.In)=false:=by cases op<;>first|rfl|exact absurd rfl h
 have e2:(op==CmpOp.NotIn)=false:=by cases op<;>first|rfl|exact absurd rfl h2
 cases b<;>simp[behindInMarks,e1,e2]
theorem uH{op:CmpOp}{r:R2}(ho:cq X (compareOp op) r)(ha:PE X a ta)(hb:PE X b tb)(hm:behindInMarks op b=false):PE X (.Compare a [op] [b] pos) (pM r ta tb):=by intro af s σ H Q I h;exact wpAny_Compare1 (Ab ha hb I h λv u s2 x y H2 I2 rx ry q=>ho af s2 σ H2 x y v u Q I2 rx ry q) hm
def vH(t:TE):TT:=λσ H Q=>t σ H λx H'=>∃k,x=.bl k/\Q k H'
theorem cW{op:CmpOp}{r:R2}(ho:cq X (compareOp op) r)(ha:PE X a ta)(hb:PE X b tb)(hm:behindInMarks op b=false):PT X (.Compare a [op] [b] pos) (vH (pM r ta tb)):=by
 intro af s σ H Q I h;refine wpAny_isTrue_Compare1 (aM (ha af s σ H _ I h) λv s1 ⟨x,H1,I1,r1,q1⟩=>aM (hb af s1 σ H1 _ I1 q1) λu s2 ⟨y,H2,I2,r2,q2⟩=>
  aM (ho af s2 σ H2 x y v u _ I2 r1 r2 q2) λc s3 ⟨z,H3,I3,r3,k,e,q3⟩=>?_) hm
 subst e;cases r3;exact lP ⟨H3,I3,q3⟩
def Al(r r':R2)(ta tb tc:TE):TE:=λσ H Q=>ta σ H λx H1=>tb σ H1 λy H2=>r x y H2 λz H3=>∃k,z=.bl k /\
 (if k=true then tc σ H3 λw' H4=>r' y w' H4 Q else Q (.bl false) H3)
theorem Pl{op op':CmpOp}{r r':R2}(ho:cq X (compareOp op) r)(ho':cq X (compareOp op') r')(ha:PE X a ta)(hb:PE X b tb)(hc:PE X c tc)
 (hm:lastMarks [op,op'] [b,c]=false:=by with_unfolding_all rfl):PE X (.Compare a [op,op'] [b,c] pos) (Al r r' ta tb tc):=by
 intro af s σ H Q I h;refine Compare_chain (aM (ha af s σ H _ I h) λv s1 ⟨x,H1,I1,r1,q1⟩=>chain_link (aM (hb af s1 σ H1 _ I1 q1) λu s2 ⟨y,H2,I2,r2,q2⟩=>
  aM (ho af s2 σ H2 x y v u _ I2 r1 r2 q2) λd s3 ⟨z,H3,I3,r3,k,e,q3⟩=>?_)) hm
 subst e;cases r3;refine lP ?_;cases k with
 |false=>exact ite_ff ⟨.bl false,H3,I3,rfl,q3⟩
 |true=>exact ite_tt (chain_last (aM (hc af s3 σ H3 _ I3 q3) λw' s4 ⟨z',H4,I4,r4,q4⟩=>ho' af s4 σ H4 y z' u w' Q I4 r2 r4 q4))
theorem FF{op op':CmpOp}{r r':R2}(ho:cq X (compareOp op) r)(ho':cq X (compareOp op') r')(ha:PE X a ta)(hb:PE X b tb)(hc:PE X c tc)
 (hm:lastMarks [op,op'] [b,c]=false:=by with_unfolding_all rfl):PT X (.Compare a [op,op'] [b,c] pos) (vH (Al r r' ta tb tc)):=by
 intro af s σ H Q I h;refine isTrue_chain (aM (ha af s σ H _ I h) λv s1 ⟨x,H1,I1,r1,q1⟩=>test_link (aM (hb af s1 σ H1 _ I1 q1) λu s2 ⟨y,H2,I2,r2,q2⟩=>
  aM (ho af s2 σ H2 x y v u _ I2 r1 r2 q2) λd s3 ⟨z,H3,I3,r3,k,e,q3⟩=>?_)) hm
 subst e;cases r3;refine lP ?_;cases k with
 |false=>
  obtain⟨k',e',q'⟩:=q3;cases e';exact ite_ff ⟨H3,I3,q'⟩
 |true=>
  refine ite_tt (test_last (aM (hc af s3 σ H3 _ I3 q3) λw' s4 ⟨z',H4,I4,r4,q4⟩=>aM (ho' af s4 σ H4 y z' u w' _ I4 r2 r4 q4) λd' s5 ⟨z2,H5,I5,r5,k2,e2,q5⟩=>?_));subst e2;cases r5;exact lP ⟨H5,I5,q5⟩
def zF(K:aB)(x:V)(H:Hp)(k:Bool):Prop:=
 match x with
 |.non=>k=false
 |.bl b=>k=b
 |.int i=>k=(i != 0)
 |.str y=>y.length<=sizeLine/\k=((y.length:Int) != 0)
 |.byt y=>y.size<=sizeLine/\k=((y.size:Int) != 0)
 |.ref p=>(∃xs,dO K H p xs/\k = !xs.isEmpty)\/(∃xs,ff K H p xs/\k = !xs.isEmpty)\/∃ao,H p=aa (.dK ao)/\k = !ao.isEmpty
 |_=>False
theorem SS{κ:Type}{ao:List (κ×V)}{vs:List (κ×ah)}(r:KV ao vs):(!vs.isEmpty) = !ao.isEmpty:=by cases r<;>rfl
theorem DI{xs:List V}{am:List ah}(r:Vals xs am):(!am.toArray.isEmpty) = !xs.isEmpty:=by cases r<;>simp
theorem qE:(sizeLine:Nat)<2 ^ 63:=by rw[cD];decide
theorem Nc:NG X (λx H Q=>∃k,zF X.K x H k/\Q k H):=by
 intro af s σ H x v Q I rx h;obtain⟨k,e,q⟩:=h;have hl:=qE;have hs:sizeLine=16777216:=cD;cases x with
 |non=>
  cases rx;have e':k=false:=e;subst e';exact truthy_none ⟨H,I,q⟩
 |bl b=>
  cases rx;have e':k=b:=e;subst e';exact lP ⟨H,I,q⟩
 |int i=>
  obtain⟨t,rfl⟩:=rx;have e':k=(i != 0):=e;subst e';exact PySem.P.truthy_int ⟨H,I,q⟩
 |str y=>
  obtain⟨t,rfl⟩:=rx;obtain⟨hy,e'⟩ : y.length<=sizeLine/\k=((y.length:Int) != 0):=e;subst e';exact PySem.P.truthy_str (by omega) ⟨H,I.tok _,q⟩
 |byt y=>
  obtain⟨t,rfl⟩:=rx;obtain⟨hy,e'⟩ : y.size<=sizeLine/\k=((y.size:Int) != 0):=e;subst e';exact PySem.W.truthy_bytes (by omega) ⟨H,I.tok _,q⟩
 |ref p=>
  cases rx;have e':(∃xs,dO X.K H p xs/\k = !xs.isEmpty)\/(∃xs,ff X.K H p xs/\k = !xs.isEmpty)\/∃ao,H p=aa (.dK ao)/\k = !ao.isEmpty:=e;rcases e' with ⟨xs,hx,e'⟩|⟨xs,hx,e'⟩|⟨ao,hx,e'⟩
  ·subst e';obtain⟨am,r,pl,hz⟩:=I.list hx;have hlen:=r.length;exact wpAny_truthy_list pl.isList (by simp only[cz];omega) ⟨H,I.tok _,by rw[DI r];exact q⟩
  ·subst e';obtain⟨am,r,pl,hz⟩:=I.tuple hx;have hlen:=r.length;exact truthy_tuple pl (by simp only[cz];omega) ⟨H,I.tok _,by rw[DI r];exact q⟩
  ·subst e';obtain⟨hz,hS,vs,r,m⟩ : ao.length<=sizeLine/\(p==sysModules)=false/\∃vs,KV ao vs/\s.heap.DictOf (jf X.prog X.w) p vs:=I.hok p _ hx;have hlen:ao.length=vs.length:=yz r;exact wpAny_truthy_dict hS m (by omega) ⟨H,I.tok _,by rw[SS r];exact q⟩
 |_=>exact(show False from e).elim
theorem Dy(ha:PE X a ta)(he:∀whole,isTrue a X.env whole=(do let v <- whole;standAt a.pos;holding [v] (truthy v))) :
 PT X a (λσ H Q=>ta σ H λx H'=>∃k,zF X.K x H' k/\Q k H'):=by
 intro af s σ H Q I h;exact isTrue_plain (aM (ha af s σ H _ I h) λv s1 ⟨x,H1,I1,r1,q1⟩=>Nc af s1 σ H1 x v Q I1 r1 q1) (he _)
theorem Mp:cq X (binaryOp .Add) (λx y H Q=>∃i j,x=.str i/\y=.str j/\i.length+j.length<=sizeLine/\Q (.str (i++j)) H):=by intro af s σ H x y v u Q I rx ry h;obtain⟨i,j,rfl,rfl,hz,q⟩:=h;obtain⟨t,rfl⟩:=rx;obtain⟨t',rfl⟩:=ry;exact add_str (λt' tk=>⟨.str (i++j),H,I.tok _,⟨_,rfl⟩,q⟩) hz
theorem vals1{x:V}{us:List ah}(r:Vals [x] us):∃u,us=[u]/\RelV x u:=by
 cases r with
 |cons r1 r2=>cases r2;exact⟨_,rfl,r1⟩
theorem vals2{x y:V}{us:List ah}(r:Vals [x,y] us):∃u w',us=[u,w']/\RelV x u/\RelV y w':=by
 cases r with
 |cons r1 r2=>
  cases r2 with
  |cons r3 r4=>cases r4;exact⟨_,_,rfl,r1,r3⟩
theorem MW(hc:X.calm=true):fj X (.builtin "max") (λxs H Q=>∃i j,xs=[.int i,.int j]/\Q (.int (if j>i then j else i)) H):=by
 intro af s σ H xs us Q I r h;obtain⟨i,j,rfl,q⟩:=h;obtain⟨u,w',rfl,⟨t,rfl⟩,⟨t',rfl⟩⟩:=vals2 r;refine max_two_ints (I.ok.hd hc) λh' tk k=>⟨_,H,I.kept k,?_,q⟩;by_cases hj:j>i
 ·rw[aF hj,aF hj];exact⟨_,rfl⟩
 ·rw[aG hj,aG hj];exact⟨_,rfl⟩
theorem Sj(hc:X.calm=true):fj X (.builtin "min") (λxs H Q=>∃i j,xs=[.int i,.int j]/\Q (.int (if j<i then j else i)) H):=by
 intro af s σ H xs us Q I r h;obtain⟨i,j,rfl,q⟩:=h;obtain⟨u,w',rfl,⟨t,rfl⟩,⟨t',rfl⟩⟩:=vals2 r;refine min_two_ints (I.ok.hd hc) λh' tk k=>⟨_,H,I.kept k,?_,q⟩;by_cases hj:j<i
 ·rw[aF hj,aF hj];exact⟨_,rfl⟩
 ·rw[aG hj,aG hj];exact⟨_,rfl⟩
def HC(K:aB)(x:V)(H:Hp)(n:Nat):Prop:=
 match x with
 |.str y=>y.length<=sizeLine/\n=y.length
 |.byt y=>y.size<=sizeLine/\n=y.size
 |.ref p=>(∃xs,dO K H p xs/\n=xs.length)\/∃xs,ff K H p xs/\n=xs.length
 |_=>False
theorem Nj:fj X (.builtin "len") (λxs H Q=>∃x n,xs=[x]/\HC X.K x H n/\Q (.int n) H):=by
 intro af s σ H xs us Q I r h;obtain⟨x,n,rfl,e,q⟩:=h;obtain⟨u,rfl,rx⟩:=vals1 r;have hl:=qE;have hs:sizeLine=16777216:=cD;cases x with
 |str y=>
  obtain⟨t,rfl⟩:=rx;obtain⟨hy,e'⟩ : y.length<=sizeLine/\n=y.length:=e;subst e';exact len_str (by omega) ⟨.int _,H,I.tok _,⟨_,rfl⟩,q⟩
 |byt y=>
  obtain⟨t,rfl⟩:=rx;obtain⟨hy,e'⟩ : y.size<=sizeLine/\n=y.size:=e;subst e';exact PySem.W.len_bytes (by omega) ⟨.int _,H,I.tok _,⟨_,rfl⟩,q⟩
 |ref p=>
  cases rx;have e':(∃xs,dO X.K H p xs/\n=xs.length)\/∃xs,ff X.K H p xs/\n=xs.length:=e;rcases e' with ⟨xs,hx,e'⟩|⟨xs,hx,e'⟩
  ·subst e';obtain⟨am,r',pl,hz⟩:=I.list hx;have hlen:=r'.length;exact Calls.call_len_list pl.isList (by simp only[cz];omega) ⟨.int xs.length,H,I.tok _,⟨_,by simp only[cz];rw[hlen]⟩,q⟩
  ·subst e';obtain⟨am,r',pl,hz⟩:=I.tuple hx;have hlen:=r'.length;exact len_tuple pl (by simp only[cz];omega) ⟨.int xs.length,H,I.tok _,⟨_,by simp only[cz];rw[hlen]⟩,q⟩
 |_=>exact(show False from e).elim
end
structure zk(h:ay)(x dx C:ag)(mA:Str->Option ah):Prop where
 obj:h.get? x=aa (Bz C dx)
 ns:h.Ns1 dx mA
 ne:dx≠x
theorem FH{h:ay}{dx:ag}{mA:Str->Option ah}(n:h.Ns1 dx mA):∃od,h.get? dx=aa od/\∀name,BB name od=aa (mA name):=by
 obtain⟨o,es,ep,ho,hd,hk,_,hm⟩:=n;refine⟨o,ho,λname=>?_⟩;have e:=hm name;unfold nsFind findBy at e;rw[<- Ki]at e;unfold BB;rw[hd];dsimp only;split
 ·rename_i y q;rw[q]at e;exact congrArg aa e
 ·rename_i q;rw[q]at e;have a:es.toList.any (·.refKey)=false:=by
   rw[BY];intro y hy;obtain⟨z,t,hkey⟩:=hk y (Array.mem_toList_iff.mp hy);simp[DictEntry.refKey,hkey]
  have a':¬ es.toList.any (·.refKey)=true:=by rw[a];exact dN
  rw[aG a'];exact congrArg aa e
theorem zk.look{h:ay}{x dx C:ag}{mA:Str->Option ah}(I:zk h x dx C mA):∃od,JE h x (Bz C dx) C (aa od)/\∀name,BB name od=aa (mA name):=
 let ⟨od,ho,hl⟩:=FH I.ns
 ⟨od,⟨I.obj,rfl,rfl,ho⟩,hl⟩
theorem OX{v:V}{u:ah}(r:RelV v u):By u=true:=by
 cases v with
 |non=>cases(show u=dD from r);rfl
 |bl b=>cases(show u=jh b from r);rfl
 |int i=>obtain⟨t,e⟩:=(show∃t,u=yl i t from r);cases e;rfl
 |str x=>obtain⟨t,e⟩:=(show∃t,u=l0 x t from r);cases e;rfl
 |byt b=>obtain⟨t,e⟩:=(show∃t,u=Value.bytes b t from r);cases e;rfl
 |flt b=>obtain⟨t,e⟩:=(show∃t,u=yk b t from r);cases e;rfl
 |ref a=>cases(show u=bB a from r);rfl
 |ty n=>cases(show u=sK n from r);rfl
section
variable{P:aW}{w:aQ}{H H':Hp}{h h':ay}{a C dx:ag}{fs fs':List (Str×V)}
theorem EY(hok:bY P w H h)(e:H a=aa (.ins C dx fs)):∃mA,zk h a dx C mA/\(∀f,nY (fs.lookup f) (mA f))/\PySem.Within mA (fs.map (·.1))/\fs.length<=1000/\H dx=aa (.own a):=by obtain⟨d,z,ne,ob,mA,n,r,q⟩:=(show bI P w H h a (.ins C dx fs)from hok a _ e);exact⟨mA,⟨ob,n,ne⟩,r,q,z,d⟩
end
structure Az(K:aB)(C:ag):Prop where
 pg:Jv K C e6=true
 hd:Js K C=true
 po:PySem.W.plainOver K C=true
 sa:lQ K (.ref C) "__setattr__" = aa (aa (.builtin "object.__setattr__"))
theorem Az.get{K:aB}{C:ag}(c:Az K C)(f:Str):Jv K C f=true:=c.pg
section
variable{X:Cx}{af:List (ag×Obj)}{σ:St}{H:Hp}{s:ak}{a C dx:ag}{fs:List (Str×V)}{f:Str}{v:V}{A:a7}{E:ah->ak->Prop}
theorem SI{prog:aW}{w:aQ}{env:Env}{e:aO}{f:Str}{pos:Pos}{s:ak}{Q:ah->ak->Prop}(hb:attributeBase e f env (eval e env)=eval e env)
 (h:wpAny (model prog w) A (eval e env) (λo s₁=>wpAny (model prog w) A (getAttr o f true) Q E s₁) E s):wpAny (model prog w) A (eval (.Attribute e f pos) env) Q E s:=
 Attribute_any_ h (by rw[arm_eval_Attribute,hb])
end
section
variable{X:Cx}{af:List (ag×Obj)}{σ:St}{H:Hp}{s:ak}{A:a7}{E:ah->ak->Prop}{Q:ah->ak->Prop}{c:ah}{b:Bool}
inductive gP(K:aB)(H:Hp):V->ah->Prop where
 |non:gP K H .non (.type "NoneType")
 |bl (x:Bool):gP K H (.bl x) (.type "bool")
 |int (i:Int):gP K H (.int i) (.type "int")
 |str (x:Str):gP K H (.str x) (.type "str")
 |flt (x:UInt64):gP K H (.flt x) (.type "float")
 |lst {a:ag} {xs:List V} (e:H a=aa (.lst xs)):gP K H (.ref a) (.type "list")
 |frz {a:ag} {o:Obj} {xs:List V} (e:H a=aa (.frz o (.lst xs))):gP K H (.ref a) (.type "list")
 |tup {a:ag} {xs:List V} (e:H a=aa (.tup xs)):gP K H (.ref a) (.type "tuple")
 |dK {a:ag} {ao:List (Key×V)} (e:H a=aa (.dK ao)):gP K H (.ref a) (.type "dict")
 |dT {a:ag} {ao:List (List Key×V)} (e:H a=aa (.dT ao)):gP K H (.ref a) (.type "dict")
 | ins {a C dx:ag} {fs:List (Str×V)} (e:H a=aa (.ins C dx fs)) (cl:Az K C) (ha:lQ K (.ref C) "__class__" = aa (aa (.builtin "object.__class__")))
  (hn:xO K (.builtin "object.__class__") "__get__" = aa (aa (.builtin "getset_descriptor.__get__"))) (htk:Jz K (.builtin "object.__class__")=aa true)
  (hm:xT K C (.type "object")=aa true):gP K H (.ref a) (.ref C)
theorem OF{x:V}{u t:ah}(I:Inv X af σ H s)(rx:RelV x u)(ty:gP X.K H x t)(e:bO X.K t c=aa b)(h:∀tk,Q (.bool b) { s with toks:=tk }) :
 wpAny (model X.prog X.w) A (call (.builtin "isinstance") [u,c]) Q E s:=by
 cases ty with
 |non=>cases(show u=dD from rx);exact j9 Jt I.dg g0 e (λz=>nomatch z) h
 |bl y=>cases(show u=jh y from rx);exact j9 Ju I.dg g0 e (λz=>nomatch z) h
 |int i=>obtain⟨t,q⟩:=(show∃t,u=yl i t from rx);cases q;exact j9 Jw I.dg g0 e (λz=>nomatch z) h
 |str y=>obtain⟨t,q⟩:=(show∃t,u=l0 y t from rx);cases q;exact j9 Jx I.dg g0 e (λz=>nomatch z) h
 |flt y=>obtain⟨t,q⟩:=(show∃t,u=yk y t from rx);cases q;exact j9 Jo I.dg g0 e (λz=>nomatch z) h
 | @lst a xs ea=>
  cases(show u=bB a from rx);obtain⟨_,_,n,_,h1⟩:=(show bI X.prog X.w H s.heap a (.lst xs)from I.hok a _ ea);exact j9 xP I.dg ⟨_,h1,rfl⟩ e (λz=>nomatch z) h
 | @frz a ob xs ea=>
  cases(show u=bB a from rx);obtain⟨_,_,_,n,_,h1⟩:=(show bI X.prog X.w H s.heap a (.frz ob (.lst xs))from I.hok a _ ea);exact j9 xP I.dg ⟨_,h1,rfl⟩ e (λz=>nomatch z) h
 | @tup a xs ea=>
  cases(show u=bB a from rx);obtain⟨_,_,_,p⟩:=(show bI X.prog X.w H s.heap a (.tup xs)from I.hok a _ ea);obtain⟨o,h1,h2,_⟩:=p;exact j9 Jp I.dg ⟨o,h1,h2⟩ e (λz=>nomatch z) h
 | @dK a ao ea=>
  cases(show u=bB a from rx);obtain⟨_,_,vs,_,p⟩:=(show bI X.prog X.w H s.heap a (.dK ao)from I.hok a _ ea);obtain⟨o,es,ep,h1,h2,_⟩:=p;exact j9 xQ I.dg ⟨o,h1,h2.1⟩ e (λz=>nomatch z) h
 | @dT a ao ea=>
  cases(show u=bB a from rx);obtain⟨_,_,xs,_,o,es,ep,h1,h2,_⟩:=(show bI X.prog X.w H s.heap a (.dT ao)from I.hok a _ ea);exact j9 xQ I.dg ⟨o,h1,h2.1⟩ e (λz=>nomatch z) h
 | @ins a C dx fs ea cl ha hn htk hm=>
  cases(show u=bB a from rx);obtain⟨mA,O,_⟩:=EY I.hok ea;obtain⟨od,J,_⟩:=O.look;exact j9 (Jy (cl.get _) cl.hd ha hn htk hm) I.dg J e (λz=>nomatch z) h
end
structure cA(k:Nat)(A:a7):Prop where
 hd:A.handled=ae
 dp:A.depth+3*k+5<recursionLimit
 un:A.units+16*k+200<cLine
 gd:A.guards=aa []
theorem cA.mono{j k:Nat}{A:a7}(r:cA k A)(h:j<=k):cA j A:=⟨r.hd,by have:=r.dp;omega,by have:=r.un;omega,r.gd⟩
theorem cA.deeper{k:Nat}{A:a7}(r:cA (k+1) A)(env:Env):cA k (A.deeper env):=⟨r.hd,by have:=r.dp;show A.depth+1+3*k+5<_;omega,by have:=r.un;show A.units+3+16*k+200<_;omega,r.gd⟩
theorem cA.in1{k:Nat}{A:a7}(r:cA (k+1) A):cA k A.in1:=⟨r.hd,by have:=r.dp;show A.depth+3*k+5<_;omega,by have:=r.un;show A.units+1+16*k+200<_;omega,r.gd⟩
theorem LL{A:a7}{C:ag}{us:List ah}{kw:List (Str×ah)}:(A.under (.builtin "type.__call__" ⟨.ref C::us,kw⟩)).depth=A.depth+1:=by
 first|rfl|simp[yy,Code.weight,Code.isCreation,Code.isGuard,Code.isCaller,Code.frames,Ck,guardIds]
theorem MP{A:a7}{C:ag}{us:List ah}{kw:List (Str×ah)}:(A.under (.builtin "type.__call__" ⟨.ref C::us,kw⟩)).units=A.units+1:=by
 first|rfl|simp[yy,Code.cUnits,Code.frames,Ck]
theorem LV{A:a7}{C:ag}{us:List ah}{kw:List (Str×ah)}:(A.under (.builtin "type.__call__" ⟨.ref C::us,kw⟩)).guards=A.guards:=by
 first|rfl|simp[yy,Code.guards,Code.isGuard,guardIds,pushGuards]
theorem cA.make{k:Nat}{A:a7}(r:cA (k+1) A)(C:ag)(us:List ah)(kw:List (Str×ah)):cA k (A.under (.builtin "type.__call__" ⟨.ref C::us,kw⟩)):=⟨r.hd,by have:=r.dp;rw[LL];omega,by have:=r.un;rw[MP];omega,LV.trans r.gd⟩
theorem cA.depth{k:Nat}{A:a7}(r:cA k A):A.depth<recursionLimit:=by have:=r.dp;omega
theorem cA.units{k:Nat}{A:a7}(r:cA k A):A.units+64<cLine:=by have:=r.un;omega
def fg:TA:=λ_ H Q=>Q [] H
def dY(ta:TE)(tr:TA):TA:=λσ H Q=>ta σ H λx H1=>tr σ H1 λxs H2=>Q (x::xs) H2
section
variable{X:Cx}{e:aO}{es:List aO}{te:TE}{t:TA}{pos:Pos}
theorem aN:PA X [] fg:=λ_ _ _ _ H Q I h=>yv ⟨[],H,I,.nil,h⟩
theorem aq(ha:PE X e te)(hr:PA X es t)(hs:starEach (e::es) X.env=(false,eval e X.env)::starEach es X.env:=by rfl):PA X (e::es) (dY te t):=by intro pos af s σ H Q I h;rw[hs];show wpAny _ _ (spliced ((false,eval e X.env)::backTo pos (starEach es X.env))) _ _ s;refine vi (aM (ha af s σ H _ I h) λu s1 ⟨x,H1,I1,r1,q1⟩=>?_);exact aM (hr pos af s1 σ H1 _ I1 q1) λus s2 ⟨xs,H2,I2,r2,q2⟩=>⟨x::xs,H2,I2,.cons r1 r2,q2⟩
def vU(t:TA):TE:=λσ H Q=>t σ H λxs H1=>xs.length<=sizeLine/\∀p,H1 p=ae->Q (.ref p) (upd H1 p (.tup xs))
def Gp(t:TA):TE:=λσ H Q=>t σ H λxs H1=>xs.length<=sizeLine/\∀p,H1 p=ae->Q (.ref p) (upd H1 p (.lst xs))
theorem eK{x1}(h:PA X es t):PE X (.Tuple es x1 pos) (vU t):=by intro af s σ H Q I hq;refine wpAny_Tuple_spliced (aM (h pos af s σ H _ I hq) λus s1 ⟨xs,H1,I1,r,z,q⟩=>⟨by rw[<- r.length];exact z,?_⟩);have hf:H1 s1.heap.objs.size=ae:=I1.hok.fresh (bu _);refine⟨.ref s1.heap.objs.size,upd H1 s1.heap.objs.size (.tup xs),I1.laid (t':=s1.toks) (λb u e=>br _ e) (bu _) ?_,rfl,q _ hf⟩;exact⟨z,us,r,⟨_,dj _ rfl,rfl,rfl,_,rfl⟩⟩
theorem fB(h:PA X es t):PE X (.List es pos) (Gp t):=by intro af s σ H Q I hq;refine wpAny_List_spliced (aM (h pos af s σ H _ I hq) λus s1 ⟨xs,H1,I1,r,z,q⟩=>⟨by rw[<- r.length];exact z,?_⟩);have hf:H1 s1.heap.objs.size=ae:=I1.hok.fresh (bu _);refine⟨.ref s1.heap.objs.size,upd H1 s1.heap.objs.size (.lst xs),I1.laid (t':=s1.toks) (λb u e=>br _ e) (bu _) ?_,rfl,q _ hf⟩;exact⟨z,us,0,r,dj _ rfl⟩
end
abbrev Sp:=List V->Hp->VK->XK->Prop
abbrev fR:=List Env->Hp->ak->XK->ah->ak->Prop
structure mz(P:aW)(w:aQ)(K:aB)(mg:Str->Option ah)(base:ay)(A:a7)(outer:List Env)(s:ak)(H:Hp):Prop where
 frames:A.frames=aa outer
 mod:Mod K mg base
 bs:∀b o,base.get? b=aa o->s.heap.get? b=aa o/\H b=ae
 bsz:base.objs.size<=s.heap.objs.size
 gC:s.heap.FunFrames base outer
 frf:∀b∈frs outer,H b=ae
 hok:bY P w H s.heap
 bare:l5 s.gens
def CE(outer:List Env)(P:aW)(w:aQ)(H:Hp)(s:ak)(Q:VK)(u:ah)(s':ak):Prop:=∃v H',s'.os=s.os/\l5 s'.gens/\Un (frs outer) [] H H' s.heap s'.heap/\bY P w H' s'.heap/\RelV v u/\Q v H'
def CR(CX:fR)(outer:List Env)(P:aW)(w:aQ)(H:Hp)(s:ak)(Q:VK)(E:XK)(r:ot)(s':ak):Prop:=
 match r with
 |.ok (.ret u)=>CE outer P w H s Q u s'
 |.ok _=>False
 |.error e=>CX outer H s E e s'
structure bw(P:aW)(w:aQ)(K:aB)(mg:Str->Option ah)(base:ay)(CX:fR)(k:Nat)(f:ag)(fd:bA)(ps:List Str)(sp:Sp):Prop where
 len:∀vs H Q E,sp vs H Q E->vs.length=ps.length
 run:∀(A:a7) (outer:List Env) (s:ak) (H:Hp) (args:Args) (us:List ah) (vs:List V) (Q:VK) (E:XK),cA k A->mz P w K mg base A outer s H->ng s fd args (ps.zip us)->Vals vs us->sp vs H Q E ->
  codeAny (model P w) A (.call (.ref f) args) (CR CX outer P w H s Q E) s
theorem bw.imp{P:aW}{w:aQ}{K:aB}{mg:Str->Option ah}{base:ay}{CX:fR}{k:Nat}{f:ag}{fd:bA}{ps:List Str}{sp sp':Sp}(F:bw P w K mg base CX k f fd ps sp)
 (h:∀vs H Q E,sp' vs H Q E->sp vs H Q E):bw P w K mg base CX k f fd ps sp':=
 ⟨λvs H Q E q=>F.len vs H Q E (h _ _ _ _ q),λA outer s H args us vs Q E hr he hb hv hs=>F.run A outer s H args us vs Q E hr he hb hv (h _ _ _ _ hs)⟩
theorem mz.make{P:aW}{w:aQ}{K:aB}{mg:Str->Option ah}{base:ay}{A:a7}{outer:List Env}{s:ak}{H:Hp}(e:mz P w K mg base A outer s H)(C:ag)(us:List ah)(kw:List (Str×ah)) :
 mz P w K mg base (A.under (.builtin "type.__call__" ⟨.ref C::us,kw⟩)) outer s H:=⟨by first|exact e.frames|(simpa [yy,Code.envs,Ck,pushEnvs]using e.frames),e.mod,e.bs,e.bsz,e.gC,e.frf,e.hok,e.bare⟩
section
variable{X:Cx}{af:List (ag×Obj)}{σ:St}{H:Hp}{s s':ak}
theorem Inv.env0(I:Inv X af σ H s):mz X.prog X.w X.K X.mg X.base X.A X.stack s H:=⟨I.ok.frames,I.ok.mod,I.bs,d9 I.ok.bsz I.sz,I.stack,I.tY,I.hok,I.bare⟩
theorem Inv.after{Q:VK}{u:ah}(I:Inv X af σ H s)(h:CE X.stack X.prog X.w H s Q u s'):EP X af σ Q u s':=by obtain⟨v,H',os,bare,un,hok,r,q⟩:=h;obtain⟨hh,g,d,t,os'⟩:=s';obtain rfl:os'=s.os:=os;exact⟨v,H',I.call (h':=hh) (g':=g) (d':=d) (t':=t) (ch:=[]) un hok bare (λb z=>absurd z (by simp)),r,q⟩
end
def lK(sp:Sp)(dvs:List V)(E:XK)(t:TA):TE:=λσ H Q=>t σ H λvs H1=>sp (vs++dvs) H1 Q E
def Binds(K:aB)(fd:bA)(ps:List Str)(ds:List ah):Prop:=∀(s:ak) (us:List ah),K.In s.heap->(us++ds).length=ps.length->ng s fd ⟨us,[]⟩ (ps.zip (us++ds))
theorem Binds.all{K:aB}{fd:bA}{ps:List Str}(h:∀us:List ah,us.length=ps.length->bindArgs fd ⟨us,[]⟩=pure (ps.zip us)):Binds K fd ps []:=λs us _ hl=>by
 rw[iN]at hl ⊢;exact .of_eq (h us hl)
def uN(CX:fR)(X:Cx)(E:XK):Prop:=∀(af:List (ag×Obj)) (σ:St) (H:Hp) (s:ak) (e:ah) (s':ak),Inv X af σ H s->CX X.stack H s E e s'->X.xe e s'
section
variable{X:Cx}{CX:fR}{k:Nat}{f C:ag}{fd:bA}{ps:List Str}{sp:Sp}{dvs:List V}{ds:List ah}{E:XK}{x m:Str}{p pos apos:Pos}{e o:aO}{es:List aO}{ta:TE}{t:TA}
theorem L6{af:List (ag×Obj)}{σ:St}{H:Hp}{s:ak}{Q:VK}{us:List ah}{vs:List V}(F:bw X.prog X.w X.K X.mg X.base CX k f fd ps sp)(hr:cA k X.A)(hb:Binds X.K fd ps ds)(hd:Vals dvs ds)(hx:uN CX X E)
 (I:Inv X af σ H s) (r:Vals vs us) (h:sp (vs++dvs) H Q E):wpAny (model X.prog X.w) X.A (call (.ref f) us) (EP X af σ Q) X.xe s:=by
 have r2:Vals (vs++dvs) (us++ds):=r.append hd;have hl:(us++ds).length=ps.length:=by rw[<- r2.length];exact F.len _ _ _ _ h
 refine na (sm (F.run X.A X.stack s H ⟨us,[]⟩ (us++ds) (vs++dvs) Q E hr I.env0 (hb s us I.dg hl) r2 h) λr s' hq=>?_);cases r with
 |error e=>exact hx af σ H s e s' I hq
 |ok fl=>
  cases fl with
  |ret u=>exact I.after hq
  |next=>exact fu hq
  |brk=>exact fu hq
  |cont=>exact fu hq
theorem Sb(F:bw X.prog X.w X.K X.mg X.base CX k f fd ps sp)(hr:cA k X.A)(hg:Gl X x)(hm:X.mg x=aa (.ref f))(hk:jB X.K (.ref f)=true)(hb:Binds X.K fd ps ds)(hd:Vals dvs ds)(hx:uN CX X E)
 (ha:PA X (e::es) t) (hdb:(x==("__debug__" : Str))=false:=by decide) (he:starEach (e::es) X.env=(false,eval e X.env)::starEach es X.env:=by rfl) (hpl:(backTo pos (starEach es X.env)).any (·.1)=false:=by rfl) :
 PE X (.Call (.Name x p) (e::es) [] pos) (lK sp dvs E t):=by
 intro af s σ H Q I h;refine qa (nO I hg hm ?_ hdb);refine xN (h₀:=X.base) I.ok.mod.kin hk (aM (ha pos af s σ H _ I h) λus s1 ⟨vs,H1,I1,r,q⟩=>⟨I1.dg,?_⟩) he hpl;exact L6 F hr hb hd hx I1 r q
end
structure cM(N P:List Str)(sc:dM):Prop where
 kind:sc.kind=.function
 co:sc.isCoroutine=false
 gen:sc.isGenerator=false
 nd:N.Nodup
 pre:N.take P.length=P
 par:∀x∈P,sc.names.lookup x=aa .local\/sc.names.lookup x=aa .cell
 S4:∀y∈sc.names,y.2≠.free
theorem GB{kindOf:Str->Option oq}{x:Str}:∀{binds:List (Str×ah)} {m:Str->Option ah},(∀v,(x,v)∉binds)->bindL kindOf binds m x=m x
 |[],_,_=>rfl
 |(n,v)::r,m,h=>by
  unfold bindL;rw[GB λw hw=>h w (cy _ hw)];split
  ·have:x≠n:=by rintro rfl;exact h v b8
   simp[this]
  ·rfl
theorem Ee{kindOf:Str->Option oq}{x:Str}:∀{binds:List (Str×ah)} {m:Str->Option ah},(∀v,(x,v)∉binds)->bindC kindOf binds m x=m x
 |[],_,_=>rfl
 |(n,v)::r,m,h=>by
  unfold bindC;rw[Ee λw hw=>h w (cy _ hw)];split
  ·rfl
  ·have:x≠n:=by rintro rfl;exact h v b8
   simp[this]
theorem HH{kindOf:Str->Option oq}{x:Str}{v:ah}:∀{P:List Str} {vs:List ah} {i:Nat} {m:Str->Option ah},P.Nodup->P[i]? = aa x->vs[i]? = aa v->kindOf x=aa .local ->
 bindL kindOf (P.zip vs) m x=aa v
 |[],_,_,_,_,h,_,_=>by simp at h
 |_::_,[],_,_,_,_,h,_=>by simp at h
 |p::P,w::vs,0,m,nd,h1,h2,hk=>by
  simp at h1 h2;subst h1;subst h2;show bindL kindOf ((p,w)::P.zip vs) m p=_;unfold bindL;rw[GB λv hv=>(jC.mp nd).1 (x9 hv).1,aF hk];simp
 |p::P,w::vs,i+1,m,nd,h1,h2,hk=>by
  show bindL kindOf ((p,w)::P.zip vs) m x=_;unfold bindL;exact HH (i:=i) (jC.mp nd).2 (by simpa using h1) (by simpa using h2) hk
theorem GI{kindOf:Str->Option oq}{x:Str}{v:ah}:∀{P:List Str} {vs:List ah} {i:Nat} {m:Str->Option ah},P.Nodup->P[i]? = aa x->vs[i]? = aa v->kindOf x≠aa .local ->
 bindC kindOf (P.zip vs) m x=aa v
 |[],_,_,_,_,h,_,_=>by simp at h
 |_::_,[],_,_,_,_,h,_=>by simp at h
 |p::P,w::vs,0,m,nd,h1,h2,hk=>by
  simp at h1 h2;subst h1;subst h2;show bindC kindOf ((p,w)::P.zip vs) m p=_;unfold bindC;rw[Ee λv hv=>(jC.mp nd).1 (x9 hv).1,aG hk];simp
 |p::P,w::vs,i+1,m,nd,h1,h2,hk=>by
  show bindC kindOf ((p,w)::P.zip vs) m x=_;unfold bindC;exact GI (i:=i) (jC.mp nd).2 (by simpa using h1) (by simpa using h2) hk
def start(N:List Str)(vs:List V):St:=vs.map aa++c8 (N.length-vs.length) ae
def cZ(CX:fR)(P:aW)(w:aQ)(K:aB)(mg:Str->Option ah)(base:ay)(N:List Str)(qual:Str)(scope:dM)(f:ag)(cd:ah)(A:a7)(outer:List Env)(s:ak)(H:Hp)(E:XK):Cx where
 prog:=P
 w:=w
 K:=K
 mg:=mg
 base:=base
 A:=A.deeper (envOfC qual scope s.heap.objs.size f cd)
 N:=N
 s₀:=s
 H₀:=H
 env:=envOfC qual scope s.heap.objs.size f cd
 outer:=outer
 stack:=envOfC qual scope s.heap.objs.size f cd::outer
 ex:=[]
 calm:=true
 fn:=λ_=>true
 pn:=[]
 xe:=λe s'=>wpAny (model P w) (A.deeper (envOfC qual scope s.heap.objs.size f cd)) (leaving (envOfC qual scope s.heap.objs.size f cd) e) (λ_ s''=>CX outer H s E e s'') (λe' s''=>CX outer H s E e' s'') s'
theorem HF{sc:dM}{n:Nat}{x:Str}(h:sc.names.lookup x=aa .cell):∃c,(cellsFrom n sc.names []).lookup x=aa c:=by have q:=Bv sc.names n [] (.inl h);exact Cd.mp q
theorem HQ{CX:fR}{P:aW}{w:aQ}{K:aB}{mg:Str->Option ah}{base:ay}{N ps:List Str}{qual:Str}{scope:dM}{f:ag}{cd:ah}{A:a7}{outer:List Env}{s s1:ak}{H:Hp}{E:XK}{us:List ah}{vs:List V}
 (S:cM N ps scope) (hd:A.handled=ae) (e0:mz P w K mg base A outer s H) (hl:vs.length=ps.length) (r:Vals vs us)
 (x:InCallC s s.heap.objs.size (bindL (envOfC qual scope s.heap.objs.size f cd).kindOf (ps.zip us) λ_=>ae) (cellsFrom (s.heap.objs.size+1) scope.names []) (bindC (envOfC qual scope s.heap.objs.size f cd).kindOf (ps.zip us) λ_=>ae) s1) :
 Inv (cZ CX P w K mg base N qual scope f cd A outer s H E) [] (start N vs) H s1:=by
 have hpl:ps.length<=N.length:=by have:=congrArg yb S.pre;rw[k8]at this;omega
 obtain⟨h1,tk,rfl,hk⟩:=x.done;have noA:∀b:ag,b∉(cZ CX P w K mg base N qual scope f cd A outer s H E).ex:=λb z=>absurd (show b∈([]:List ag)from z) (by simp);refine⟨⟨e0.mod,S.kind,rfl,rfl,bu _,λy z c h1 h2=>?_,λy hy=>?_,λy c _ h=>?_,λ_=>hd,Ci e0.frames,.inr ⟨rfl,rfl⟩,λb z=>absurd z (noA b),e0.bs,e0.bsz,λb _ _=>noA b,λb z=>absurd z (noA b),e0.gC,e0.frf⟩,
  rfl,e0.bare,Un.kept hk,⟨_,x.toInCall.ns,λi y v h1 h2 h3=>?_⟩,λy c h=>⟨_,x.cell y c h⟩,e0.hok.fresh (bu _),λy c h=>?_,λp hp=>absurd (show p∈([]:List (ag×Obj))from hp) (by simp),e0.hok.kept hk,?_⟩
 ·exact name_of_addr x.apart (rZ h1) (rZ h2)
 ·have hy:scope.names.lookup y=aa .cell\/scope.names.lookup y=aa .free:=hy;rcases hy with hy|hy
  ·exact HF hy
  ·exact absurd rfl (S.S4 _ (rZ hy))
 ·exact yg (x.above y c (rZ h))
 ·have hi:i<vs.length:=by
   unfold start at h2;by_cases hi:i<vs.length
   ·exact hi
   ·rw[BH (by simpa using hi)]at h2;rw[JL]at h2;split at h2<;>cases h2
  have ha:vs[i]? = aa v:=by
   unfold start at h2;rw[sA (by simpa using hi),eE]at h2;cases e:vs[i]? with
   |none=>rw[e]at h2;cases h2
   |some a=>rw[e]at h2;cases h2;rfl
  obtain⟨u,hu,rv⟩:=r.get ha;have hp:ps[i]? = aa y:=by rw[<- S.pre,JJ (by omega)];exact h1
  have ndP:ps.Nodup:=by rw[<- S.pre];exact S.nd.sublist (List.take_sublist _ _)
  refine⟨u,rv,?_⟩;rcases S.par y (lS hp)with k|k
  ·exact .inl ⟨k,HH ndP hp hu k⟩
  ·obtain⟨c,e⟩:=HF (n:=s.heap.objs.size+1) k;refine .inr ⟨.inl k,c,e,?_⟩;have q:=x.cell y c e;rw[GI ndP hp hu (by show scope.names.lookup y≠_;rw[k];decide)]at q;exact q
 ·exact e0.hok.fresh (yg (x.above y c (rZ h)))
 ·unfold start;show _=N.length;rw[d6,be,BI];omega
theorem AQ{CX:fR}{P:aW}{w:aQ}{K:aB}{mg:Str->Option ah}{base:ay}{k:Nat}{f:ag}{name qual:Str}{params:sr}{body:List bj}{scope:dM}{dV kV doc pm cdv ct oc:ah}{an od:Option ag}
 {osl:Array (Option ah)} {N ps:List Str} {sp:Sp} (lk:K.lookup f=aa ⟨oc,od,.func (iK name qual params body scope dV kV doc pm an cdv ct),osl⟩) (hcd:ou K cdv qual=true) (S:cM N ps scope)
 (len:∀vs H Q E,sp vs H Q E->vs.length=ps.length)
 (hbody:∀(A:a7) (outer:List Env) (s:ak) (H:Hp) (vs:List V) (Q:VK) (E:XK),cA k (A.deeper (envOfC qual scope s.heap.objs.size f cdv))->sp vs H Q E ->
  ∃t,fv (cZ CX P w K mg base N qual scope f cdv A outer s H E) body t/\t { nx:=λ_ H'=>Q .non H',rt:=Q } (start N vs) H) :
 bw P w K mg base CX (k+1) f (iK name qual params body scope dV kV doc pm an cdv ct) ps sp:=by
 refine⟨len,λA outer s H args us vs Q E hr e0 hb r hsp=>?_⟩;have hl:=len _ _ _ _ hsp;have KX:K.In s.heap:=e0.mod.kin.keeps λb o e=>(e0.bs b o e).1;have lim:s.heap.NoLimit:=e0.mod.nolimit.keeps λb o e=>(e0.bs b o e).1;have hkind:∀y∈ps.zip us,scope.names.lookup y.1=aa .local\/(scope.names.lookup y.1=aa .cell/\((cellsFrom (s.heap.objs.size+1) scope.names []).lookup y.1).isSome=true):=λ⟨n,v⟩ hy=>by
  rcases S.par n (x9 hy).1 with q|q
  ·exact .inl q
  ·exact .inr ⟨q,Bv _ _ _ (.inl q)⟩
 refine codeAny_call_function hr.depth (KX _ _ lk) rfl S.co S.gen rfl (Jq KX hcd) (hb _ _ _ _ ?_);refine Jk S.kind hkind λenv he s1 x=>?_;subst he;refine⟨lim.keeps x.toInCall.keep,codeAny_func ?_⟩;obtain⟨t,ht,hq⟩:=hbody A outer s H vs Q E (hr.deeper _) hsp;have I:Inv (cZ CX P w K mg base N qual scope f cdv A outer s H E) [] (start N vs) H s1:=HQ S hr.hd e0 hl r x;refine e5 (ht [] s1 (start N vs) H _ I hq) (λfl s' hs=>?_) λe s' hs=>hs;have fin:∀{σ':St} {H':Hp} {v:V} {u:ah},Inv (cZ CX P w K mg base N qual scope f cdv A outer s H E) [] σ' H' s'->RelV v u->Q v H'->CE outer P w H s Q u s':=
  λ{σ' H' v u} J rv q=>⟨v,H',J.os,J.bare,J.base,J.hok,rv,q⟩
 cases fl with
 |ret u=>
  obtain⟨v,σ',H',J,rv,q⟩:=hs;exact fin J rv q
 |next=>
  obtain⟨σ',H',J,q⟩:=hs;exact fin (v:=V.non) (u:=dD) J rfl q
 |brk=>
  obtain⟨_,_,_,q⟩:=hs;exact fu q
 |cont=>
  obtain⟨_,_,_,q⟩:=hs;exact fu q
section
variable{X:Cx}{x:Str}{p pos:Pos}{e:aO}{es:List aO}{t:TA}{id T:String}{r:List V->Hp->VK->Prop}
def lL(r:List V->Hp->VK->Prop)(t:TA):TE:=λσ H Q=>t σ H λvs H1=>r vs H1 Q
theorem bL(hc:fj X (.builtin id) r)(hg:Gl X x)(hm:X.mg x=ae)(hv:bootBuiltins x=aa (.builtin id))(ha:PA X (e::es) t)(hn:x ≠ "__name__" := by decide)(hdb:(x==("__debug__" : Str))=false:=by decide)
 (he:starEach (e::es) X.env=(false,eval e X.env)::starEach es X.env:=by rfl) (hpl:(backTo pos (starEach es X.env)).any (·.1)=false:=by rfl):PE X (.Call (.Name x p) (e::es) [] pos) (lL r t):=by
 intro af s σ H Q I h;refine qa (qD I hg hm hv ?_ hn hdb);exact PyProof.Rows.callWith_builtin1 (aM (ha pos af s σ H _ I h) λus s1 ⟨vs,H1,I1,r1,q1⟩=>hc af s1 σ H1 vs us Q I1 r1 q1) he hpl
theorem gD(hc:fj X (.type T) r)(hg:Gl X x)(hm:X.mg x=ae)(hv:bootBuiltins x=aa (.type T))(ha:PA X (e::es) t)(hn:x ≠ "__name__" := by decide)(hdb:(x==("__debug__" : Str))=false:=by decide)
 (he:starEach (e::es) X.env=(false,eval e X.env)::starEach es X.env:=by rfl) (hpl:(backTo pos (starEach es X.env)).any (·.1)=false:=by rfl):PE X (.Call (.Name x p) (e::es) [] pos) (lL r t):=by
 intro af s σ H Q I h;refine qa (qD I hg hm hv ?_ hn hdb);exact B7 (aM (ha pos af s σ H _ I h) λus s1 ⟨vs,H1,I1,r1,q1⟩=>hc af s1 σ H1 vs us Q I1 r1 q1) he hpl
end
end L2
namespace HT
open PySem PyProof.Rows
section
variable{prog:aW}{w:aQ}{A:a7}{E:ah->ak->Prop}{s:ak}
def c7(n d:Nat):Option Int->Nat
 |none=>d
 |some v=>if v<0 then(v+(n:Int)).toNat else min v.toNat n
theorem FU(n d:Nat)(hd:d<=n)(o:Option Int):c7 n d o<=n:=by
 cases o with
 |none=>exact hd
 |some v=>
  show(if v<0 then(v+(n:Int)).toNat else min v.toNat n)<=n;by_cases hv:v<0
  ·rw[aF hv];omega
  ·rw[aG hv];exact Nat.min_le_right _ _
end
end HT
namespace L2
open PySem PySem.Spec PyProof.Rows
abbrev TO:=St->Hp->(Option Int->Hp->Prop)->Prop
def PO(X:Cx)(e:Option aO)(t:TO):Prop:=
 ∀(af:List (ag×Obj)) (s:ak) (σ:St) (H:Hp) (Q:Option Int->Hp->Prop),Inv X af σ H s->t σ H Q ->
  wpAny (model X.prog X.w) X.A (evalPart e X.env) (λu s'=>∃o H',Inv X af σ H' s'/\IsPart u o/\Q o H') X.xe s
def Fg:TO:=λ_ H Q=>Q ae H
def Hw(t:TE):TO:=λσ H Q=>t σ H λx H1=>∃i,x=.int i/\Q (aa i) H1
section
variable{X:Cx}{e:aO}{te:TE}{lo hi:Option aO}{tl th:TO}{pos p2:Pos}
theorem oY:PO X ae Fg:=by intro af s σ H Q I h;rw[evalPart_none];exact bh ⟨ae,H,I,.none,h⟩
theorem oV(h:PE X e te):PO X (aa e) (Hw te):=by intro af s σ H Q I hw;rw[evalPart_some];refine aM (h af s σ H _ I hw) λu s1 ⟨x,H1,I1,r1,q1⟩=>?_;obtain⟨i,rfl,q⟩:=q1;obtain⟨t,rfl⟩:=r1;exact⟨aa i,H1,I1,.int i t,q⟩
def nM(X:Cx)(r:V->Option Int->Option Int->Hp->VK->Prop):Prop:=
 ∀(af:List (ag×Obj)) (s:ak) (σ:St) (H:Hp) (x:V) (v vl vu:ah) (lo hi:Option Int) (sl:ag) (Q:VK),Inv X af σ H s->RelV x v->s.heap.IsSliceOf sl vl vu .none->IsPart vl lo->IsPart vu hi->r x lo hi H Q ->
  ∃T id,typeLookup (.type T) "__getitem__" = pure (aa (.builtin id))/\s.TypeIs v T/\wpAny (model X.prog X.w) X.A (getItem v (.ref sl)) (EP X af σ Q) X.xe s
theorem nM.or{r r':V->Option Int->Option Int->Hp->VK->Prop}(h:nM X r)(h':nM X r'):nM X (λx lo hi H Q=>r x lo hi H Q\/r' x lo hi H Q):=by
 intro af s σ H x v vl vu lo hi sl Q I rx hs pl pu q;rcases q with q|q
 ·exact h af s σ H x v vl vu lo hi sl Q I rx hs pl pu q
 ·exact h' af s σ H x v vl vu lo hi sl Q I rx hs pl pu q
def EB(r:V->Option Int->Option Int->Hp->VK->Prop)(te:TE)(tl th:TO):TE:=λσ H Q=>te σ H λx H1=>tl σ H1 λl H2=>th σ H2 λu H3=>r x l u H3 Q
theorem pI{r:V->Option Int->Option Int->Hp->VK->Prop}(hr:nM X r)(he:PE X e te)(hl:PO X lo tl)(hu:PO X hi th):PE X (.Subscript e (.Slice lo hi ae p2) pos) (EB r te tl th):=by intro af s σ H Q I h;refine Subscript_ (aM (he af s σ H _ I h) λv s1 ⟨x,H1,I1,r1,q1⟩=>?_);refine wpAny_Slice (aM (hl af s1 σ H1 _ I1 q1) λvl s2 ⟨l,H2,I2,pl,q2⟩=>aM (hu af s2 σ H2 _ I2 q2) λvu s3 ⟨u,H3,I3,pu,q3⟩=>?_);rw[evalPart_none];refine bh ?_;have I4:Inv X af σ H3 { s3 with heap:=s3.heap.push { cls:=.type "slice",data:=.fields #[vl,vu,.none] } }:=I3.kept (t':=s3.toks) λb ob q=>br _ q;obtain⟨T,id,hT,ht,hg⟩:=hr af { s3 with heap:=s3.heap.push { cls:=.type "slice",data:=.fields #[vl,vu,.none] } } σ H3 x v vl vu l u s3.heap.objs.size Q I4 r1 (Heap.IsSliceOf.new ..) pl pu q3;show wpAny (model X.prog X.w) X.A (subscriptTail e (.Slice lo hi ae p2) v (.ref s3.heap.objs.size)) (EP X af σ Q) X.xe { s3 with heap:=s3.heap.push { cls:=.type "slice", data:=.fields #[vl,vu,.none] } };exact tail_any (ops:=[.ref s3.heap.objs.size,v]) ht hT hg (by with_unfolding_all rfl)
def rG(xs:List V)(lo hi:Option Int):List V:=(xs.drop (HT.c7 xs.length 0 lo)).take (HT.c7 xs.length xs.length hi-HT.c7 xs.length 0 lo)
theorem Sk(xs:List V)(lo hi:Option Int):(rG xs lo hi).length<=xs.length:=by unfold rG;rw[k8,iM];omega
end
def eX(n:Nat)(i:Int):Option Nat:=if 0<=i then(if i<n then aa i.toNat else ae)else if -(n:Int)<=i then aa (i+n).toNat else ae
def dC{α:Type}(xs:List α)(i:Int):Option α:=(eX xs.length i).bind λj=>xs[j]?
theorem GQ{n:Nat}{i:Int}{j:Nat}(h:eX n i=aa j):seqIndex? i n=aa j/\j<n/\-(n:Int)<=i/\i<n:=by
 unfold eX at h;by_cases h0:0<=i
 ·rw[aF h0]at h;by_cases h1:i<n
  ·rw[aF h1]at h;have e:i.toNat=j:=gZ h;exact⟨by rw[xL h0 h1,e],by omega,by omega,h1⟩
  ·rw[aG h1]at h;cases h
 ·rw[aG h0]at h;by_cases h1:-(n:Int)<=i
  ·rw[aF h1]at h;have e:(i+n).toNat=j:=gZ h;exact⟨by rw[xK (by omega) h1,e],by omega,h1,by omega⟩
  ·rw[aG h1]at h;cases h
theorem zv{α:Type}{xs:List α}{i:Int}{v:α}(h:dC xs i=aa v):∃j,seqIndex? i xs.length=aa j/\xs[j]? = aa v/\j<xs.length/\-(xs.length:Int)<=i/\i<xs.length:=by
 unfold dC at h;cases e:eX xs.length i with
 |none=>rw[e]at h;cases h
 |some j=>
  rw[e]at h;obtain⟨h1,h2,h3,h4⟩:=GQ e;exact⟨j,h1,h,h2,h3,h4⟩
def F6(b:aO):Prop:=∀o i,subscripted b false o i=operate [o,i] (getItem o i)
def mZ(X:Cx)(r:R2):Prop:=
 ∀(value slice:aO) (af:List (ag×Obj)) (s:ak) (σ:St) (H:Hp) (x y:V) (v u:ah) (Q:VK),Inv X af σ H s->RelV x v->RelV y u->r x y H Q ->
  subscripted slice false v u=operate [v,u] (getItem v u)->wpAny (model X.prog X.w) X.A (subscriptTail value slice v u) (EP X af σ Q) X.xe s
def nC(X:Cx)(id:String)(r:V->List V->Hp->VK->Prop):Prop:=
 ∀(af:List (ag×Obj)) (s:ak) (σ:St) (H:Hp) (x:V) (xs:List V) (v:ah) (us:List ah) (Q:VK),Inv X af σ H s->RelV x v->Vals xs us->r x xs H Q ->
  wpAny (model X.prog X.w) X.A (call (.builtin id) (v::us)) (EP X af σ Q) X.xe s
section
variable{X:Cx}{a b:aO}{ta tb:TE}{pos:Pos}
theorem mZ.or{r r':R2}(h:mZ X r)(h':mZ X r'):mZ X (λx y H Q=>r x y H Q\/r' x y H Q):=by
 intro value slice af s σ H x y v u Q I rx ry q hs;rcases q with q|q
 ·exact h value slice af s σ H x y v u Q I rx ry q hs
 ·exact h' value slice af s σ H x y v u Q I rx ry q hs
theorem tG{r:R2}(hr:mZ X r)(ha:PE X a ta)(hb:PE X b tb)(hs:F6 b):PE X (.Subscript a b pos) (pM r ta tb):=by intro af s σ H Q I h;exact Subscript_ (Ab ha hb I h λv u s2 x y H2 I2 rx ry q=>hr a b af s2 σ H2 x y v u Q I2 rx ry q (hs _ _))
def FL(K:aB):R2:=λx y H Q=>∃p xs i v,x=.ref p/\y=.int i/\dO K H p xs/\dC xs i=aa v/\Q v H
def Fh(K:aB):R2:=λx y H Q=>∃p xs i v,x=.ref p/\y=.int i/\ff K H p xs/\dC xs i=aa v/\Q v H
def G8:R2:=λx y H Q=>∃z i c,x=.str z/\y=.int i/\z.length<=sizeLine/\dC z.cps.toList i=aa c/\Q (.str ⟨#[c]⟩) H
theorem QD:mZ X (FL X.K):=by
 intro value slice af s σ H x y v u Q I rx ry h hs;obtain⟨p,xs,i,z,rfl,rfl,hq,he,q⟩:=h;cases rx;obtain⟨t,rfl⟩:=ry;obtain⟨am,r,pl,hz⟩:=I.list hq;obtain⟨j,h1,h2,h3,h4,h5⟩:=zv he;obtain⟨w,ew,rw'⟩:=r.get h2;have hl:=r.length;have hn:=qE;have fin:EP X af σ Q w s:=⟨z,H,I,rw',q⟩;by_cases h0:0<=i
 ·have hj:i.toNat=j:=by
   rw[xL h0 h5]at h1;exact gZ h1
  exact item_listR pl.isList h0 (by omega) (by rw[hj];simpa using ew) fin hs
 ·have hj:(i+(am.toArray.size:Int)).toNat=j:=by
   rw[xK (by omega) h4]at h1;rw[cz,<- hl];exact gZ h1
  exact J2 (x:=w) pl.isList.typeIs slot_list_getitem.lookup
   (wpAny_getItem_list_neg (Q:=λr s'=>r=w/\EP X af σ Q r s') pl.isList (by omega) (by rw[cz]<;>omega) (by omega) (by rw[hj];simpa using ew) ⟨rfl,fin⟩) hs
theorem PF:mZ X (Fh X.K):=by
 intro value slice af s σ H x y v u Q I rx ry h hs;obtain⟨p,xs,i,z,rfl,rfl,hq,he,q⟩:=h;cases rx;obtain⟨t,rfl⟩:=ry;obtain⟨am,r,pl,hz⟩:=I.tuple hq;obtain⟨j,h1,h2,h3,h4,h5⟩:=zv he;obtain⟨w,ew,rw'⟩:=r.get h2;have hl:=r.length;have hn:=qE;have fin:EP X af σ Q w s:=⟨z,H,I,rw',q⟩;exact J2 (x:=w) pl.typeIs slot_tuple_getitem.lookup
  (getItem_tuple (j:=j) (Q:=λr s'=>r=w/\EP X af σ Q r s') pl (by omega) (by omega) (by rw[cz,<- hl];exact h1) (by simpa using ew) ⟨rfl,fin⟩) hs
theorem Ms:mZ X G8:=by
 intro value slice af s σ H x y v u Q I rx ry h hs;obtain⟨z,i,c,rfl,rfl,hz,he,q⟩:=h;obtain⟨t,rfl⟩:=rx;obtain⟨t',rfl⟩:=ry;obtain⟨j,h1,h2,h3,h4,h5⟩:=zv he;have hl:z.cps.toList.length=z.length:=by simp[qt]
 rw[hl]at h1 h4 h5;have hn:=qE;exact tail_any (typeIs_str s z t) slot_str_getitem.lookup (getItem_str (c:=c) (by
  have e1:decide (i < -(2 ^ 63:Int))=false:=c6 (by omega);have e2:decide (i >= 2 ^ 63)=false:=c6 (by omega);rw[e1,e2,Bool.or_false]) (by rw[h1];simpa using h2) ⟨.str ⟨#[c]⟩,H,I.tok _,⟨_,rfl⟩,q⟩) hs
def zc(K:aB):R2:=λx y H Q=>FL K x y H Q\/Fh K x y H Q\/G8 x y H Q
theorem ue:mZ X (zc X.K):=QD.or (PF.or Ms)
theorem Ma(am:List ah)(n j:Nat)(u:ah):eg (·.setIfInBounds j u) { cls:=.type "list",data:=.seq am.toArray n }={ cls:=.type "list", data:=.seq (am.set j u).toArray n }:=by simp[eg]
theorem Inv.lst{af:List (ag×Obj)}{σ:St}{H:Hp}{s:ak}{p:ag}{xs:List V}(I:Inv X af σ H s)(h:H p=aa (.lst xs)) :
 ∃(am:List ah) (n:Nat),Vals xs am/\s.heap.get? p=aa { cls:=.type "list", data:=.seq am.toArray n }/\xs.length<=sizeLine:=by
 obtain⟨z,am,n,r,e⟩:=I.hok p _ h;exact⟨am,n,r,e,z⟩
theorem Inv.O4{af:List (ag×Obj)}{σ:St}{H:Hp}{s:ak}{p:ag}{xs ys:List V}{am its':List ah}{n n':Nat}{f:Obj->Obj}(I:Inv X af σ H s)(h:H p=aa (.lst xs))
 (ho:s.heap.get? p=aa { cls:=.type "list",data:=.seq am.toArray n }) (hf:f { cls:=.type "list",data:=.seq am.toArray n }={ cls:=.type "list", data:=.seq its'.toArray n' }) (r:Vals ys its') (hz:ys.length<=sizeLine) (t:Nat) :
 Inv X af σ (upd H p (.lst ys)) { s with heap:=s.heap.update p f,toks:=t }:=by
 have e:(s.heap.update p f).get? p=aa { cls:=.type "list", data:=.seq its'.toArray n' }:=by rw[kh f ho (by rw[hf]<;>rfl),hf]
 refine I.write (x:=p) (e:=p) (by rw[h];trivial) (.inl rfl) (λb u hb q=>(kg _ _ (bU hb)).trans q) ⟨_,e⟩ ?_;exact⟨hz,its',n',r,e⟩
def GA:V->V->V->Hp->(Hp->Prop)->Prop:=λo i v H Q=>∃p xs k j,o=.ref p/\i=.int k/\H p=aa (.lst xs)/\eX xs.length k=aa j/\Q (upd H p (.lst (xs.set j v)))
theorem set_list:Ih X GA:=by
 intro af s σ H o i v ov iv u Q I ro ri rv h;obtain⟨p,xs,k,j,rfl,rfl,hp,hj,q⟩:=h;cases ro;obtain⟨t,rfl⟩:=ri;obtain⟨am,n,r,ho,hz⟩:=I.lst hp;obtain⟨h1,h2,h3,h4⟩:=GQ hj;have hl:=r.length;have hn:=qE;have I':Inv X af σ (upd H p (.lst (xs.set j v))) { s with heap:=s.heap.update p (eg (·.setIfInBounds j u)) }:=
  I.O4 hp ho (Ma am n j u) (r.set rv j) (by rw[jD];exact hz) s.toks
 by_cases h0:0<=k
 ·have hk:k.toNat=j:=by
   rw[xL h0 h4]at h1;exact gZ h1
  exact PySem.W.ki_setAt ho h0 (by omega) (by rw[cz,<- hl];exact h4) (by rw[hk];exact⟨_,I',q⟩)
 ·have hk:(k+(am.toArray.size:Int)).toNat=j:=by
   rw[xK (by omega) h3]at h1;rw[cz,<- hl];exact gZ h1
  exact PySem.W.ki_setBack ho (by omega) (by rw[cz,<- hl];exact h3) (by omega) (by rw[hk];exact⟨_,I',q⟩)
theorem Nr(lo hi:Option Int)(n:Nat):(sliceBounds lo hi ae n).1=((HT.c7 n 0 lo:Nat):Int)/\(sliceBounds lo hi ae n).2.1=((HT.c7 n n hi:Nat):Int)/\(sliceBounds lo hi ae n).2.2=1:=by
 refine⟨?_,?_,rfl⟩
 ·cases lo with
  |none=>simp[sliceBounds,HT.c7]
  |some i=>
   simp only[sliceBounds,HT.c7,Kg,show(1:Int)>0 by decide,gi];by_cases h:i<0
   ·simp only[h,gi]<;>omega
   ·simp only[h,fX]<;>omega
 ·cases hi with
  |none=>simp[sliceBounds,HT.c7]
  |some i=>
   simp only[sliceBounds,HT.c7,Kg,show(1:Int)>0 by decide,gi];by_cases h:i<0
   ·simp only[h,gi]<;>omega
   ·simp only[h,fX]<;>omega
theorem QE(am:List ah)(lo hi:Option Int):slicePick am.toArray lo hi ae=((am.drop (HT.c7 am.length 0 lo)).take (HT.c7 am.length am.length hi-HT.c7 am.length 0 lo)).toArray:=by obtain⟨h1,h2,h3⟩:=Nr lo hi am.toArray.size;unfold slicePick;rw[h1,h2,h3];simp only[sliceRange_one,pick_run,cz]<;>rfl
def G1(K:aB):V->Option Int->Option Int->Hp->VK->Prop:=λx lo hi H Q=>∃a xs,x=.ref a/\dO K H a xs/\∀p,H p=ae->Q (.ref p) (upd H p (.lst (rG xs lo hi)))
theorem Rh:nM X (G1 X.K):=by intro af s σ H x v vl vu lo hi sl Q I rx hs pl pu h;obtain⟨a,xs,rfl,hx,q⟩:=h;cases rx;obtain⟨am,r,ht,hz⟩:=I.list hx;have hlen:=r.length;refine⟨"list", _,slot_list_getitem.lookup,ht.isList.typeIs,?_⟩;refine wpAny_getItem_list_slice ht.isList hs pl pu .none (by simp) ?_ (by rw[cz]<;>omega);rw[QE,<- hlen];refine⟨.ref s.heap.objs.size,_,I.laid (t':=s.toks) (o:=.lst (rG xs lo hi)) (λb ob q=>br _ q) (bu _) ?_,rfl,q _ (I.hok.fresh (bu _))⟩;exact⟨d9 (Sk xs lo hi) hz,_,0,(r.drop (HT.c7 xs.length 0 lo)).take (HT.c7 xs.length xs.length hi-HT.c7 xs.length 0 lo),dj _ rfl⟩
def AF:V->Bool
 |.non=>true
 |.bl _=>true
 |.int _=>true
 |.str _=>true
 |_=>false
def FY:V->V->Bool
 |.non,.non=>true
 |.bl a,.bl b=>a==b
 |.bl a,.int b=>(if a then 1 else 0)==b
 |.int a,.bl b=>a==(if b then 1 else 0)
 |.int a,.int b=>a==b
 |.str a,.str b=>a==b
 |_,_=>false
theorem RC{A:a7}{s:ak}{y x:V}{u v:ah}(ry:RelV y u)(rx:RelV x v)(fy:AF y=true)(fx:AF x=true):SeqAt.EqAt A s u v (FY y x):=by
 cases y with
 |non=>
  cases ry;cases x with
  |non=>cases rx;exact SeqAt.EqAt.same _
  |bl b=>cases rx;exact SeqAt.EqAt.none_bool b
  |int b=>obtain⟨t,rfl⟩:=rx;exact SeqAt.EqAt.none_int b t
  |str b=>obtain⟨t,rfl⟩:=rx;exact SeqAt.EqAt.none_str b t
  |_=>exact absurd (show false=true from fx) dN
 |bl a=>
  cases ry;cases x with
  |non=>cases rx;exact SeqAt.EqAt.bool_none a
  |bl b=>cases rx;exact Kz a b
  |int b=>obtain⟨t,rfl⟩:=rx;exact SeqAt.EqAt.bool_int a b t
  |str b=>obtain⟨t,rfl⟩:=rx;exact KA a b t
  |_=>exact absurd (show false=true from fx) dN
 |int a=>
  obtain⟨t',rfl⟩:=ry;cases x with
  |non=>cases rx;exact SeqAt.EqAt.int_none a t'
  |bl b=>cases rx;exact SeqAt.EqAt.int_bool a t' b
  |int b=>obtain⟨t,rfl⟩:=rx;exact SeqAt.EqAt.int_int a t' b t
  |str b=>obtain⟨t,rfl⟩:=rx;exact SeqAt.EqAt.int_str a t' b t
  |_=>exact absurd (show false=true from fx) dN
 |str a=>
  obtain⟨t',rfl⟩:=ry;cases x with
  |non=>cases rx;exact SeqAt.EqAt.str_none a t'
  |bl b=>cases rx;exact KD a t' b
  |int b=>obtain⟨t,rfl⟩:=rx;exact SeqAt.EqAt.str_int a t' b t
  |str b=>obtain⟨t,rfl⟩:=rx;exact SeqAt.EqAt.str_str a t' b t
  |_=>exact absurd (show false=true from fx) dN
 |_=>exact absurd (show false=true from fy) dN
theorem Ri:fj X (.type "list") (λxs H Q=>∃p ys,xs=[.ref p]/\(dO X.K H p ys\/ff X.K H p ys)/\∀l,H l=ae->Q (.ref l) (upd H l (.lst ys))):=by
 intro af s σ H xs us Q I r h;obtain⟨p,ys,rfl,hq,q⟩:=h;obtain⟨u,rfl,rx⟩:=vals1 r;cases rx;have fin:∀(am:List ah),Vals ys am->ys.length<=sizeLine->∀(h':ay) (c':Nat),(∀b o',s.heap.get? b=aa o'->h'.get? b=aa o') ->
  h'.get? s.heap.objs.size=aa { cls:=.type "list", dict:=ae,data:=.seq am.toArray c',slots:=#[] }->EP X af σ Q (.ref s.heap.objs.size) { s with heap:=h' }:=λam r' hz h' c' kp e=>
  ⟨.ref s.heap.objs.size,_,I.laid (t':=s.toks) kp (bu _) (show bI X.prog X.w _ h' _ (.lst ys)from⟨hz,am,c',r',e⟩),rfl,q _ (I.hok.fresh (bu _))⟩
 rcases hq with hq|hq
 ·obtain⟨am,r',pl,hz⟩:=I.list hq;have hlen:=r'.length;obtain⟨o,ho,hc,n,hd⟩:=pl.isList;exact call_list_seq p (.inl rfl) ho hc hd (λh' c' kp e=>fin am r' hz h' c' kp e) (by simp only[cz]<;>omega)
 ·obtain⟨am,r',pl,hz⟩:=I.tuple hq;have hlen:=r'.length;obtain⟨o,ho,hc,n,hd⟩:=pl;exact call_list_seq p (.inr rfl) ho hc hd (λh' c' kp e=>fin am r' hz h' c' kp e) (by simp only[cz]<;>omega)
theorem Q8:fj X (.type "tuple") (λxs H Q=>∃p ys,xs=[.ref p]/\((dO X.K H p ys/\∀l,H l=ae->Q (.ref l) (upd H l (.tup ys)))\/(ff X.K H p ys/\Q (.ref p) H))):=by
 intro af s σ H xs us Q I r h;obtain⟨p,ys,rfl,h⟩:=h;obtain⟨u,rfl,rx⟩:=vals1 r;cases rx;rcases h with ⟨hq,q⟩|⟨hq,q⟩
 ·obtain⟨am,r',pl,hz⟩:=I.list hq;have hlen:=r'.length;refine call_tuple_list pl.isList (λh' kp=>?_) (by simp only[cz]<;>omega);have I1:Inv X af σ H { s with heap:=h' }:=I.kept (t':=s.toks) kp;have I2:Inv X af σ (upd H h'.objs.size (.tup ys)) { s with heap:=h'.push { cls:=.type "tuple", data:=.seq am.toArray } }:=
   I1.laid (t':=s.toks) (λb o e=>br _ e) (bu _) (show bI X.prog X.w _ _ _ (.tup ys)from⟨hz,am,r',rU.new _ _⟩)
  exact⟨.ref h'.objs.size,_,I2,rfl,q _ (I1.hok.fresh (bu _))⟩
 ·obtain⟨am,r',pl,hz⟩:=I.tuple hq;exact call_tuple_same pl ⟨.ref p,H,I,rfl,q⟩
def yV(K:aB)(T:String)(x:V)(H:Hp):Prop:=match x with
 |.str _=>T = "str"
 |.int _=>T = "int"
 | .ref p=>(T = "list" /\ ∃xs,dO K H p xs)\/(T = "tuple" /\ ∃o,K.lookup p=aa o/\o.cls=.type "tuple" /\ o.dict=ae) \/
  (T = "dict" /\ ((∃ao,H p=aa (.dK ao))\/∃ao,H p=aa (.dT ao)))\/(T = "set" /\ ∃S n,H p=aa (.set S n))
 |_=>False
theorem F9{af:List (ag×Obj)}{σ:St}{H:Hp}{s:ak}{T:String}{x:V}{v:ah}(I:Inv X af σ H s)(r:RelV x v)(ty:yV X.K T x H) :
 s.TypeIs v T/\∀a,v=.ref a->∃ob,s.heap.get? a=aa ob/\ob.dict=ae:=by
 cases x with
 |str z=>
  obtain⟨t,rfl⟩:=r;cases(show T = "str" from ty);exact⟨typeIs_str s z t,λ_ e=>nomatch e⟩
 |int i=>
  obtain⟨t,rfl⟩:=r;cases(show T = "int" from ty);exact⟨typeIs_int s i t,λ_ e=>nomatch e⟩
 |ref p=>
  cases r;rcases ty with ⟨rfl,xs,hq⟩|⟨rfl,o,hk,hc,hd⟩|⟨rfl,hk⟩|⟨rfl,S,n,hk⟩
  ·obtain⟨am,_,pl,_⟩:=I.list hq;refine⟨pl.isList.typeIs,λa e=>?_⟩;cases e;obtain⟨o,n,e,c,hd,_⟩:=pl;exact⟨o,e,hd⟩
  ·refine⟨⟨o,I.dg p o hk,hc⟩,λa e=>?_⟩;cases e;exact⟨o,I.dg _ o hk,hd⟩
  ·have z:∃o,s.heap.get? p=aa o/\o.ExactDict:=by
    rcases hk with ⟨ao,hk⟩|⟨ao,hk⟩
    ·obtain⟨_,_,_,_,o,_,_,e,ex,_⟩:=I.hok p _ hk;exact⟨o,e,ex⟩
    ·obtain⟨_,_,_,_,o,_,_,e,ex,_⟩:=I.hok p _ hk;exact⟨o,e,ex⟩
   obtain⟨o,e,ex⟩:=z;refine⟨⟨o,e,ex.1⟩,λa e2=>?_⟩;cases e2;exact⟨o,e,ex.2.1⟩
  ·obtain⟨o,_,_,_,e,ex,_⟩:=I.hok p _ hk;refine⟨⟨o,e,ex.1⟩,λa e2=>?_⟩;cases e2;exact⟨o,e,ex.2.1⟩
 |_=>exact fu ty
def uI(K:aB)(T:String)(r:V->List V->Hp->VK->Prop)(to:TE)(t:TA):TE:=λσ H Q=>to σ H λx H1=>yV K T x H1/\t σ H1 λxs H2=>r x xs H2 Q
variable{o e:aO}{es:List aO}{to:TE}{t:TA}{name:Str}{apos cpos:Pos}{T id:String}{r:V->List V->Hp->VK->Prop}
theorem iw(pa:PlainAttrs T)(slot:Slot T name id)(hty:typeOf (.builtin id)=pure (.type "method_descriptor"))(hm:nC X id r)(ho:PE X o to)(ha:PA X (e::es) t)
 (hbase:attributeBase o name X.env (eval o X.env)=eval o X.env:=by rfl)
 (hfew:((backTo cpos (starEach (e::es) X.env)).all (λx=>!x.1)&&(backToKw cpos (keywordEach [] X.env)).all (λx=>x.1.isSome)
  && decide ((e::es).length+([]:List Keyword).length+(if([]:List Keyword).isEmpty then 0 else 1)<30))=true:=by rfl)
 (hline:(apos.endLine==cpos.line)=true:=by rfl) (hs:starEach (e::es) X.env=(false,eval e X.env)::starEach es X.env:=by rfl) (hplain:(backTo cpos (starEach es X.env)).any (·.1)=false:=by rfl) :
 PE X (.Call (.Attribute o name apos) (e::es) [] cpos) (uI X.K T r to t):=by
 intro af s σ H Q I h;refine Jn hbase hfew hline rfl (aM (ho af s σ H _ I h) λv s1 ⟨x,H1,I1,r1,ty,q1⟩=>?_);obtain⟨h1,h2⟩:=F9 I1 r1 ty;refine⟨T,id,pa,slot,hty,h1,h2,?_⟩;have hA:=ha cpos af s1 σ H1 _ I1 q1;rw[hs]at hA ⊢;refine yu (by show(false||(backTo cpos (starEach es X.env)).any (·.1))=false;rw[hplain]<;>rfl) (vh ?_);exact aM hA λus s2 ⟨vs,H2,I2,r2,q2⟩=>hm af s2 σ H2 x vs v us Q I2 r1 r2 q2
end
def Fw(X:Cx)(id:String)(r:V->List V->Hp->VK->Prop):Prop:=
 ∀(af:List (ag×Obj)) (s:ak) (σ:St) (H:Hp) (x:V) (xs:List V) (v:ah) (us:List ah) (Q:VK),Inv X af σ H s->RelV x v->Vals xs us->r x xs H Q ->
  wpAny (model X.prog X.w) X.A (call (.builtin id) (v::us)) (EP X af σ Q) X.xe s
theorem Vals.one:∀{x:V} {us:List ah},Vals [x] us->∃u,us=[u]/\RelV x u
 |_,_,.cons r .nil=>⟨_,rfl,r⟩
theorem Vals.eraseIdx:∀{xs:List V} {us:List ah} (i:Nat),Vals xs us->Vals (xs.eraseIdx i) (us.eraseIdx i)
 |_,_,_,.nil=>.nil
 |_,_,0,.cons _ t=>t
 |_,_,i+1,.cons r t=>.cons r (Vals.eraseIdx i t)
theorem FD{α:Type}:∀(l:List α) (i:Nat),(l.eraseIdx i).length<=l.length
 |[],_=>bu _
 |_::_,0=>Nat.le_succ _
 |_::r,i+1=>Nat.succ_le_succ (FD r i)
section
variable{X:Cx}{af:List (ag×Obj)}{σ:St}{H:Hp}{s:ak}{l b:ag}{xs ys zs:List V}
theorem Inv.EN{am its':List ah}{n:Nat}{f:Array ah->Array ah}{t':Nat}(I:Inv X af σ H s)(hH:H l=aa (.lst xs))
 (e:s.heap.get? l=aa { cls:=.type "list", data:=.seq am.toArray n }) (hf:f am.toArray=its'.toArray) (hv:Vals ys its') (hz:ys.length<=sizeLine) :
 Inv X af σ (upd H l (.lst ys)) { s with heap:=s.heap.update l (eg f),toks:=t' }:=by
 have q:=PySem.IsL.update e f;rw[hf]at q;refine I.write (x:=l) (e:=l) (by rw[hH];exact trivial) (.inl rfl) (λb' u hb hu=>(kg s.heap (eg f) (bU hb)).trans hu) ⟨_,q⟩ ?_;exact⟨hz,its',_,hv,q⟩
theorem Inv.RW{am:List ah}{t':Nat}(I:Inv X af σ H s)(hv:Vals ys am)(hz:ys.length<=sizeLine) :
 Inv X af σ (upd H s.heap.objs.size (.lst ys)) { s with heap:=s.heap.push { cls:=.type "list", data:=.seq am.toArray },toks:=t' }:=
 I.laid (λ_ _ q=>br _ q) (bu _) ⟨hz,am,0,hv,dj _ rfl⟩
theorem Inv.fresh(I:Inv X af σ H s):H s.heap.objs.size=ae:=I.hok.fresh (bu _)
theorem Inv.HX(I:Inv X af σ H s)(hH:H l=aa (.lst xs)):xs.length<=sizeLine/\∃(am:List ah) (n:Nat),Vals xs am/\xs.length=am.length/\s.heap.get? l=aa { cls:=.type "list", data:=.seq am.toArray n }:=by obtain⟨z,am,n,r,e⟩:=I.hok l _ hH;exact⟨z,am,n,r,r.length,e⟩
end
section
variable{X:Cx}
def Be:V->List V->Hp->VK->Prop:=λx vs H Q=>∃l xs y,x=.ref l/\vs=[y]/\H l=aa (.lst xs)/\xs.length<sizeLine/\Q .non (upd H l (.lst (xs++[y])))
theorem jP:Fw X "list.append" Be:=by intro af s σ H x vs v us Q I rx rv h;obtain⟨l,xs,y,rfl,rfl,hH,hz,q⟩:=h;cases rx;obtain⟨u,rfl,ru⟩:=rv.one;obtain⟨z,am,n,r,hl,e⟩:=I.HX hH;refine call_meets F.slot_list_append ⟨_,e,rfl⟩ F.entry_list_append (F.args_list_append_2 _ _) (PySem.list_append l am.toArray n u (by rw[cz];omega)) ⟨e,?_⟩;refine⟨.non,_,I.EN (its':=am++[u]) hH e (by simp) (r.append (.cons ru .nil)) ?_,rfl,q⟩;rw[d6,u4];omega
def Ie:V->List V->Hp->VK->Prop:=λx vs H Q=>∃l xs i k y,x=.ref l/\vs=[.int i]/\H l=aa (.lst xs)/\-(2 ^ 63)<=i/\i<2 ^ 63/\seqIndex? i xs.length=aa k/\xs[k]? = aa y/\Q y (upd H l (.lst (xs.eraseIdx k)))
theorem Nw:Fw X "list.pop" Ie:=by
 intro af s σ H x vs v us Q I rx rv h;obtain⟨l,xs,i,k,y,rfl,rfl,hH,h1,h2,hk,hy,q⟩:=h;cases rx;obtain⟨u,rfl,ru⟩:=rv.one;obtain⟨t,rfl⟩:=ru;obtain⟨z,am,n,r,hl,e⟩:=I.HX hH;obtain⟨w,hw,rw'⟩:=r.get hy;refine call_meets F.slot_list_pop ⟨_,e,rfl⟩ F.entry_list_pop (F.args_list_pop_2 _ _)
  (MeetsSeq.list_pop_at l am.toArray n i t k w (fitsIndex_both h1 h2) (by rw[cz,<- hl];exact hk) (by rw[<- yr];exact hw) (by rw[cz];omega)) ⟨e,?_⟩
 refine⟨y,_,I.EN (its':=am.eraseIdx k) hH e ?_ (r.eraseIdx k) ?_,rw',q⟩
 ·show am.toArray.eraseIdxIfInBounds k=(am.eraseIdx k).toArray;rw[List.eraseIdxIfInBounds_toArray]
 ·have:=FD xs k;omega
end
section
variable{κ:Type}[DecidableEq κ]
def iG(ao:List (κ×V))(k:κ):Option V:=(ao.find? λkv=>decide (kv.1=k)).map (·.2)
def putK(ao:List (κ×V))(k:κ)(v:V):List (κ×V):=if(ao.any λkv=>decide (kv.1=k))=true then ao.map (λkv=>if kv.1=k then(kv.1,v)else kv)else ao++[(k,v)]
theorem Af{p:κ×V}{r:List (κ×V)}{k:κ}(e:p.1=k):iG (p::r) k=aa p.2:=by simp[iG,lV,e]
theorem zj{p:κ×V}{r:List (κ×V)}{k:κ}(e:¬ p.1=k):iG (p::r) k=iG r k:=by simp[iG,lV,e]
theorem E7(k:κ):∀ao:List (κ×V),(ao.any λkv=>decide (kv.1=k))=(iG ao k).isSome
 |[]=>rfl
 |p::r=>by
  rw[k9];by_cases e:p.1=k
  ·simp only[Af e,cj e,Bool.true_or,Option.isSome_some]
  ·rw[zj e,c6 e,Bool.false_or];exact E7 k r
theorem Jf(ao:List (κ×V))(k:κ)(v:V):(putK ao k v).length<=ao.length+1:=by
 unfold putK;split
 ·rw[be];omega
 ·rw[d6,dq,nu];omega
theorem nY.A2{o:Option V}{u:Option ah}(r:nY o u):o.isSome=u.isSome:=by
 cases o with
 | none=>cases u with
  |none=>rfl
  |some _=>exact(show False from r).elim
 | some _=>cases u with
  |none=>exact(show False from r).elim
  |some _=>rfl
theorem KV.val{ao:List (κ×V)}{vs:List (κ×ah)}(r:KV ao vs)(k:κ):nY (iG ao k) (valueAt vs k):=by
 unfold KV at r
 induction r with
 |nil=>exact g0
 | @cons p q ps qs h t ih=>
  obtain⟨h1,h2⟩:=h;by_cases e:p.1=k
  ·have e':q.1=k:=h1.symm.trans e;have b:valueAt (q::qs) k=aa q.2:=by simp[valueAt,lV,e']
   rw[Af e,b];exact h2
  ·have e':¬ q.1=k:=λz=>e (h1.trans z);have b:valueAt (q::qs) k=valueAt qs k:=by simp[valueAt,lV,e']
   rw[zj e,b];exact ih
theorem KV.any{ao:List (κ×V)}{vs:List (κ×ah)}(r:KV ao vs)(k:κ):(ao.any λkv=>decide (kv.1=k))=vs.any λkv=>decide (kv.1=k):=by
 unfold KV at r
 induction r with
 |nil=>rfl
 |cons h t ih=>rw[k9,k9,ih,h.1]
theorem KV.repl{ao:List (κ×V)}{vs:List (κ×ah)}(r:KV ao vs)(k:κ){y:V}{u:ah}(ry:RelV y u) :
 KV (ao.map λkv=>if kv.1=k then(kv.1,y)else kv) (vs.map λkv=>if kv.1=k then(kv.1,u)else kv):=by
 unfold KV at r ⊢
 induction r with
 |nil=>exact .nil
 | @cons p q ps qs h t ih=>
  rw[b9,b9];refine .cons ?_ ih;obtain⟨h1,h2⟩:=h;by_cases e:p.1=k
  ·rw[aF e,aF (h1.symm.trans e)];exact⟨h1,ry⟩
  ·rw[aG e,aG (λz=>e (h1.trans z))];exact⟨h1,h2⟩
theorem KV.put{ao:List (κ×V)}{vs:List (κ×ah)}(r:KV ao vs)(k:κ){y:V}{u:ah}(ry:RelV y u):KV (putK ao k y) (stored vs k u):=by
 unfold putK stored;rw[r.any k];by_cases e:(vs.any λkv=>decide (kv.1=k))=true
 ·rw[aF e,aF e];exact r.repl k ry
 ·rw[aG e,aG e];exact Paired.snoc r ⟨rfl,ry⟩
theorem KV.length{ao:List (κ×V)}{vs:List (κ×ah)}(r:KV ao vs):ao.length=vs.length:=yz r
end
theorem Ae{P:aW}{w:aQ}{k:Key}{u:ah}(r:RelV (kV k) u):(jf P w).is k u=true:=by
 cases k with
 |inl i=>obtain e:=(show u=jh i from r);subst e;exact RG P w i
 |inr x=>obtain⟨t,e⟩:=(show∃t,u=l0 x t from r);subst e;exact PZ P w x t
theorem Ev{P:aW}{w:aQ}:∀{ks:List Key} {us:List ah},Vals (ks.map kV) us->ItemsAre (jf P w) ks us
 |[],_,r=>by rw[u8]at r;cases r;exact .nil
 |k::ks,_,r=>by
  rw[b9]at r;cases r with
  |cons h t=>exact .cons (Ae h) (Ev t)
abbrev KT(H:Hp):List (List Key×V)->List (List Key×ag×ah)->Prop:=sv λp q=>p.1=q.1/\H q.2.1=aa (.tup (p.1.map kV))/\RelV p.2 q.2.2
theorem KT.val{H:Hp}{ao:List (List Key×V)}{xs:List (List Key×ag×ah)}(r:KT H ao xs)(k:List Key):nY (iG ao k) ((atKey xs k).map (·.2)):=by
 induction r with
 |nil=>exact g0
 | @cons p q ps qs h t ih=>
  obtain⟨h1,_,h2⟩:=h;by_cases e:p.1=k
  ·have e':q.1=k:=h1.symm.trans e;have b:atKey (q::qs) k=aa q.2:=by simp[atKey,lV,e']
   rw[Af e,b];exact h2
  ·have e':¬ q.1=k:=λz=>e (h1.trans z);have b:atKey (q::qs) k=atKey qs k:=by simp[atKey,lV,e']
   rw[zj e,b];exact ih
theorem KT.repl{H:Hp}{ao:List (List Key×V)}{xs:List (List Key×ag×ah)}(r:KT H ao xs)(k:List Key){y:V}{u:ah}(ry:RelV y u) :
 KT H (ao.map λkv=>if kv.1=k then(kv.1,y)else kv) (xs.map (putAt k u)):=by
 induction r with
 |nil=>exact .nil
 | @cons p q ps qs h t ih=>
  rw[b9,b9];refine .cons ?_ ih;obtain⟨h1,h2,h3⟩:=h;unfold putAt;by_cases e:p.1=k
  ·rw[aF e,aF (h1.symm.trans e)];exact⟨h1,h2,ry⟩
  ·rw[aG e,aG (λz=>e (h1.trans z))];exact⟨h1,h2,h3⟩
theorem KT.put{H:Hp}{ao:List (List Key×V)}{xs:List (List Key×ag×ah)}(r:KT H ao xs)(k:List Key){b:ag}{y:V}{u:ah}(hb:H b=aa (.tup (k.map kV)))(ry:RelV y u) :
 KT H (putK ao k y) (storedH xs k b u):=by
 have e:(ao.any λkv=>decide (kv.1=k))=(atKey xs k).isSome:=by rw[E7,(r.val k).A2,Kf]
 unfold putK storedH;rw[e];by_cases q:(atKey xs k).isSome=true
 ·rw[aF q,aF q];exact r.repl k ry
 ·rw[aG q,aG q];exact Paired.snoc r ⟨rfl,hb,ry⟩
theorem KT.keeps{H H':Hp}{ao:List (List Key×V)}{xs:List (List Key×ag×ah)}(r:KT H ao xs)(ht:∀b ys,H b=aa (.tup ys)->H' b=aa (.tup ys)):KT H' ao xs:=Paired.Aa r λ_ _ z=>⟨z.1,ht _ _ z.2.1,z.2.2⟩
section
variable{P:aW}{w:aQ}{H:Hp}{h:ay}{a:ag}
theorem G6{u:HO}(ok:bY P w H h)(e:Rd H a u):bI P w H h a u:=e.ok ok
theorem Ga{ao:List (Key×V)}(ok:bY P w H h)(e:Rd H a (.dK ao)):ao.length<=sizeLine/\(a==sysModules)=false/\∃vs,KV ao vs/\h.DictOf (jf P w) a vs:=show bI P w H h a (.dK ao)from G6 ok e
theorem MU{ao:List (Key×V)}(ok:bY P w H h)(e:H a=aa (.dK ao)):ao.length<=sizeLine/\(a==sysModules)=false/\∃vs,KV ao vs/\h.DictOf (jf P w) a vs:=Ga ok (.inl e)
theorem zY{ks:List Key}(ok:bY P w H h)(e:H a=aa (.tup (ks.map kV))):(tupleKind (jf P w)).is h ks a:=by obtain⟨_,am,r,o,h1,h2,_,n,h3⟩:=(show bI P w H h a (.tup (ks.map kV))from ok a _ e);exact⟨o,am.toArray,n,h1,h2,h3,by simpa using Ev r⟩
theorem G9{ao:List (List Key×V)}(ok:bY P w H h)(e:Rd H a (.dT ao)):ao.length<=sizeLine/\(a==sysModules)=false /\
 ∃xs,KT H ao xs/\h.DictOfH (tupleKind (jf P w)) a xs:=by
 obtain⟨z,y,xs,r,o,es,ep,h1,h2,h3,h4,h5⟩:=(show bI P w H h a (.dT ao)from G6 ok e);refine⟨z,y,xs,r,o,es,ep,h1,h2,h3,h4,λx hx=>?_,h5⟩;have all:∀{l:List (List Key×V)} {m:List (List Key×ag×ah)},KT H l m->∀x∈m,(tupleKind (jf P w)).is h x.1 x.2.1:=by
  intro l m q
  induction q with
  |nil=>intro x hx;exact nomatch hx
  | @cons p q ps qs hq t ih=>
   intro x hx;rcases bn.mp hx with e|hx
   ·subst e;exact zY ok (by rw[<- hq.1];exact hq.2.1)
   ·exact ih x hx
 exact all r x hx
theorem M6{ao:List (List Key×V)}(ok:bY P w H h)(e:H a=aa (.dT ao)):ao.length<=sizeLine/\(a==sysModules)=false /\
 ∃xs,KT H ao xs/\h.DictOfH (tupleKind (jf P w)) a xs:=G9 ok (.inl e)
end
def mQ(H:Hp)(a:ag)(y:V)(r:Option V):Prop:=(∃ao k,Rd H a (.dK ao)/\y=kV k/\r=iG ao k)\/∃ao k b,Rd H a (.dT ao)/\y=.ref b/\H b=aa (.tup (k.map kV))/\r=iG ao k
def oi(H:Hp)(a:ag)(y v:V)(H':Hp):Prop:=
 (∃ao k,H a=aa (.dK ao)/\y=kV k/\ao.length<sizeLine/\H'=upd H a (.dK (putK ao k v))) \/
 ∃ao k b,H a=aa (.dT ao)/\y=.ref b/\H b=aa (.tup (k.map kV))/\ao.length<sizeLine/\H'=upd H a (.dT (putK ao k v))
theorem mQ.k{H:Hp}{a:ag}{ao:List (Key×V)}{k:Key}(e:H a=aa (.dK ao)):mQ H a (kV k) (iG ao k):=.inl ⟨ao,k,.inl e,rfl,rfl⟩
theorem mQ.t{H:Hp}{a b:ag}{ao:List (List Key×V)}{k:List Key}(e:H a=aa (.dT ao))(eb:H b=aa (.tup (k.map kV))):mQ H a (.ref b) (iG ao k):=.inr ⟨ao,k,b,.inl e,rfl,eb,rfl⟩
theorem oi.k{H:Hp}{a:ag}{ao:List (Key×V)}{k:Key}{v:V}(e:H a=aa (.dK ao))(hl:ao.length<sizeLine):oi H a (kV k) v (upd H a (.dK (putK ao k v))):=.inl ⟨ao,k,e,rfl,hl,rfl⟩
theorem oi.t{H:Hp}{a b:ag}{ao:List (List Key×V)}{k:List Key}{v:V}(e:H a=aa (.dT ao))(eb:H b=aa (.tup (k.map kV)))(hl:ao.length<sizeLine) :
 oi H a (.ref b) v (upd H a (.dT (putK ao k v))):=.inr ⟨ao,k,b,e,rfl,eb,hl,rfl⟩
section
variable{X:Cx}{af:List (ag×Obj)}{σ:St}{H:Hp}{s:ak}{a:ag}{y v:V}{u r:ah}{o:Option V}{A:a7}{E:ah->ak->Prop}
theorem Inv.big(I:Inv X af σ H s):sysModules<s.heap.objs.size:=by have h:mainGlobals<s.heap.objs.size:=(I.mod.glob.keeps I.bk).lt;exact yh (by decide) h
theorem MH{Q:ah->ak->Prop}(hu:A.units+1<cLine)(I:Inv X af σ H s)(g:mQ H a y o)(ry:RelV y u)(h:∀s',Inv X af σ H s'->Q (.bool o.isSome) s') :
 wpAny (model X.prog X.w) A (compareOp .In u (.ref a)) Q E s:=by
 rcases g with ⟨ao,k,e,ey,l⟩|⟨ao,k,b,e,ey,eb,l⟩
 ·subst ey;obtain⟨z,hd,vs,rel,dd⟩:=Ga I.hok e;refine wpAny_in_of (Ae ry) hd dd.mapOf ?_;rw[<- (rel.val k).A2,<- l];exact h _ (I.tok _)
 ·subst ey;cases(show u=bB b from ry);obtain⟨z,hd,xs,rel,dd⟩:=G9 I.hok e;refine wpAny_in_heap (tupleKind_room_in1 hu) (zY I.hok eb) hd dd ?_;have q:=(rel.val k).A2;rw[Kf]at q;rw[<- q,<- l];exact h _ (I.tok _)
theorem FW{h':ay}{t':Nat}{ob:HO}(I:Inv X af σ H s)(mu:ux (H a))(hs:qh a s.heap h')(he:∃q,h'.get? a=aa q)(new:bI X.prog X.w (upd H a ob) h' a ob) :
 Inv X af σ (upd H a ob) { s with heap:=h',toks:=t' }:=
 I.write (x:=a) (e:=a) mu (.inl rfl) (λb q hb z=>(hs.2 b hb).trans z) he new
theorem L9{P:aW}{w:aQ}{H':Hp}{h':ay}{ao:List (Key×V)}{vs:List (Key×ah)}(z:ao.length<=sizeLine)(hd:(a==sysModules)=false)(rel:KV ao vs)(dd:h'.DictOf (jf P w) a vs) :
 bI P w H' h' a (.dK ao):=⟨z,hd,vs,rel,dd⟩
theorem RO{H':Hp}{Q:Unit->ak->Prop}(hu:A.units+1<cLine)(I:Inv X af σ H s)(g:oi H a y v H')(ry:RelV y u)(rv:RelV v r)(h:∀s',Inv X af σ H' s'->Q () s') :
 wpAny (model X.prog X.w) A (setItem (.ref a) u r) Q E s:=by
 rcases g with ⟨ao,k,e,ey,l,eH⟩|⟨ao,k,b,e,ey,eb,l,eH⟩
 ·subst ey eH;obtain⟨z,hd,vs,rel,dd⟩:=MU I.hok e;have hz:vs.length<=sizeLine:=by rw[<- rel.length];exact z
  have hl:(putK ao k v).length<=sizeLine:=by have:=Jf ao k v;omega
  refine wpAny_setItem_pairs (hsz:=hz) (Ae ry) dd λh' dd' hs=>h _ ?_;have he:∃q,h'.get? a=aa q:=let ⟨q,_,_,hq,_⟩:=dd';⟨q,hq⟩;exact FW I (by rw[e];exact g0) hs he (L9 hl hd (rel.put k rv) dd')
 ·subst ey eH;cases(show u=bB b from ry);obtain⟨z,hd,xs,rel,dd⟩:=M6 I.hok e;have hz:xs.length<=sizeLine:=by rw[<- yz rel];exact z
  have hl:(putK ao k v).length<=sizeLine:=by have:=Jf ao k v;omega
  refine wpAny_setItem_heap (hsz:=hz) (tupleKind_room_in1 hu) (zY I.hok eb) dd λh' dd' hs=>h _ ?_;obtain⟨q,es,ep,hq,h2,h3,h4,_,h5⟩:=dd';refine FW I (by rw[e];exact g0) hs ⟨q,hq⟩ ⟨hl,hd,_,(rel.put k eb rv).keeps λc ys ec=>?_,q,es,ep,hq,h2,h3,h4,h5⟩;rw[av (Og ec e (λz=>nomatch z))];exact ec
end
def Fk(ty td:TE):TE:=λσ H Q=>ty σ H λy H1=>td σ H1 λx H2=>∃a o,x=.ref a/\mQ H2 a y o/\Q (.bl o.isSome) H2
def fV(td ty tv:TE):TS:=λD σ H=>tv σ H λv H1=>td σ H1 λx H2=>ty σ H2 λy H3=>∃a H4,x=.ref a/\oi H3 a y v H4/\D.nx σ H4
section
variable{X:Cx}{o i e value:aO}{pos pos' tpos:Pos}{td ty tv:TE}
theorem ww(hu:X.A.units+1<cLine)(hi:PE X i ty)(ho:PE X o td):PC X .In i o (Fk ty td):=by intro af s σ H Q I h;refine aM (hi af s σ H _ I h) λiv s1 ⟨y,H1,I1,ry,q1⟩=>aM (ho af s1 σ H1 _ I1 q1) λu s2 ⟨x,H2,I2,rx,a,ov,ex,g,q2⟩=>?_;subst ex;obtain rfl:u=bB a:=rx;exact MH hu I2 g ry λs3 I3=>⟨.bl ov.isSome,H2,I3,rfl,q2⟩
theorem rB(hu:X.A.units+1<cLine)(ho:PE X o td)(hi:PE X i ty)(hv:PE X value tv)(hs:swapsWith value (aa (.Subscript o i pos')) pos.line X.env=pure false) :
 PS X (.Assign [.Subscript o i pos'] value pos) (fV td ty tv):=by
 intro af s σ H D I h;refine wpAny_Assign_Subscript (aM (hv af s σ H _ I h) λr s1 ⟨v,H1,I1,rv,q1⟩=>aM (ho af s1 σ H1 _ I1 q1) λu s2 ⟨x,H2,I2,rx,q2⟩=>aM (hi af s2 σ H2 _ I2 q2) λiv s3 ⟨y,H3,I3,ry,a,H4,ex,g,q3⟩=>?_) hs;subst ex;obtain rfl:u=bB a:=rx;exact RO hu I3 g ry rv λs4 I4=>⟨σ,H4,I4,q3⟩
end
theorem NY{P:aW}{w:aQ}{H:Hp}(h:ay)(hb:sysModules<h.objs.size):bI P w H (h.push { cls:=.type "dict", data:=.dict #[] }) h.objs.size (.dK []):=⟨ft _,rX.mpr (bU (eF hb)),[],.nil,Heap.DictOf.new h⟩
theorem PL{P:aW}{w:aQ}{H:Hp}(h:ay)(hb:sysModules<h.objs.size):bI P w H (h.push { cls:=.type "dict", data:=.dict #[] }) h.objs.size (.dT []):=⟨ft _,rX.mpr (bU (eF hb)),[],.nil,_,#[],0,dj _ rfl,⟨rfl,rfl,rfl⟩,rfl,rfl,u7⟩
def Gd:TE:=λ_ H Q=>∀p,H p=ae->Q (.ref p) (upd H p (.dK []))
def DO:TE:=λ_ H Q=>∀p,H p=ae->Q (.ref p) (upd H p (.dT []))
section
variable{X:Cx}{pos:Pos}
theorem EV:PE X (.Dict [] [] pos) Gd:=λaf s σ H Q I h=>
 wpAny_Dict_empty ⟨.ref s.heap.objs.size,_,I.laid (a:=s.heap.objs.size) (o:=.dK []) (t':=s.toks) (λ_ _ q=>br _ q) (bu _) (NY s.heap I.big),rfl,h _ (I.hok.fresh (bu _))⟩
theorem DH:PE X (.Dict [] [] pos) DO:=λaf s σ H Q I h=>
 wpAny_Dict_empty ⟨.ref s.heap.objs.size,_,I.laid (a:=s.heap.objs.size) (o:=.dT []) (t':=s.toks) (λ_ _ q=>br _ q) (bu _) (PL s.heap I.big),rfl,h _ (I.hok.fresh (bu _))⟩
end
end L2
namespace Att
open PySem PySem.W PySem.Calls PyProof.Rows
theorem RN{P:Params}{h:ay}:∀(ns:List Int) (vs:List ah),WellAll P h vs (ns.map WData.int)->kn vs ns:=by
 intro ns
 induction ns with
 |nil=>
  intro vs w;rw[u8]at w;cases w;exact .nil
 |cons n ns ih=>
  intro vs w;rw[b9]at w;cases w with
  |cons a b=>
   cases a;exact .cons _ _ (ih _ b)
theorem Pp{l:OpenLaw}{n:Nat}(hn:l.most=aa n){P:Params}{h:ay}{args:List WData}{vals:List ah}
 (hpre:l.row.toRowW.claim.pre args=true) (hwl:WellAll P h vals args) :
 ∃a vs ns,vals=[bB a]/\args=[WData.list (ns.map WData.int)]/\h.get? a=aa { cls:=.type "list", data:=.seq vs.toArray }/\kn vs ns/\ns.length<=n:=by
 have hsh:WShape.hasAll [] args [.list .int]=true:=(pre_splitW hpre).1;have hc:l.pre.holds [] { args:=args }=true:=(pre_splitW hpre).2;obtain⟨d,r,rfl,h1,h2⟩:=hasAllW_cons hsh;obtain rfl:=hasAllW_nil h2;obtain⟨xs,rfl,h3⟩:=hasW_list h1;obtain⟨ns,rfl⟩:=items_int h3;have hlen:ns.length<=n:=by
  unfold OpenLaw.pre at hc;have h4:(WTm.not (.lt (.lit (.int (n:Int))) (.len (.arg 0)))).holds [] { args:=[.list (ns.map .int)] }=true:=by have h4:=(holds_andW hc).1;rw[hn]at h4;exact h4
  have h5:=condW_of h4 (w_not (w_lt w_lit (w_len_list (w_arg rfl))));rw[be]at h5;refine Nat.le_of_not_lt λq=>?_;have q':(n:Int)<((ns.length:Nat):Int):=by omega
  first
   |(rw[cj q']at h5;exact absurd h5 (by decide))
   |(simp at h5;omega)
 cases hwl with
 |cons w1 w2=>
  cases w2;cases w1 with
  |list ho hall=>exact⟨_,_,ns,rfl,rfl,ho,RN ns _ hall,hlen⟩
theorem QX(l:OpenLaw)(args:List WData):l.row.toRowW.claim.post args (.bool true) args=true:=
 postW_of (r:=l.row.toRowW) (X:=(true==true))
  (show WShape.has [] (.bool true) .bool=true by first|rfl|decide|simp[WShape.has,WShape.arms,WShape.armsAll])
  (show(WTm.eq .res (.lit (.bool true))).value [] { args:=args,res:=aa (.bool true),after:=args }=aa (.bool (true==true))from w_eq_bool (w_res rfl) w_lit) rfl
theorem Pz{l:OpenLaw}{n:Nat}{q:aW}{loose:List Str}{XP:(Str->Option ah)->ay->Prop}{YP:aQ->ay->Prop}{d:DefRec}
 (hn:l.most=aa n) (hdf:d.params.defaults=[])
 (call:∀(w:aQ) (s₀ s₁:ak) (mg mb:Str->Option ah) (fa:ag) (o:Obj) (pm cd doc:ah) (a:ag) (vs:List ah) (ns:List Int),
  Ground q loose [] XP w s₀ mg mb s₁.heap->YP w s₁.heap ->
  s₁.heap.get? fa=aa o->o.data=.func (docDef d.name d.params d.body d.scope pm cd doc)->s₁.heap.CodeRec cd d.name->mg d.name=aa (.ref fa) ->
  s₁.heap.get? a=aa { cls:=.type "list", data:=.seq vs.toArray }->kn vs ns->ns.length<=n->s₁.gens = #[] ->
  codeAny (model l.prog w) callerA (.call (.ref fa) ⟨[.ref a],[]⟩) (λr s'=>r=.ok (.ret (.bool true))/\OldK s₁.heap s'.heap/\s'.os=s₁.os/\l5 s'.gens) s₁) :
 WalkO q loose XP YP l.row.toRowW d [] (λf vs=>Bt f vs):=by
 intro w s₀ s₁ mg mb G Y fa o pm cd doc dV kV ho hd hcd hD hmg hg args vals as hpre hlay hrd hwl hlo;obtain rfl:dV=.none:=Dflts.none hD hdf;obtain rfl:kV=.none:=Dflts.noKw hD;obtain⟨a,vs,ns,rfl,rfl,hobj,hints,hlen⟩:=Pp hn hpre hwl;refine enter_call (sm (call w s₀ s₁ mg mb fa o pm cd doc a vs ns G Y ho (fd_plain hd) hcd hmg hobj hints hlen hg) λr s' hq=>?_);obtain⟨rfl,h2,h3,h4⟩:=hq;exact⟨.inl ⟨.bool true,.bool true,[],rfl,λ_=>rfl,.bool true,QX l _,λ_=>⟨Cf,λ_ hm=>(nomatch hm)⟩⟩,h2,h3,h4⟩
end Att
namespace L2
open PySem PySem.Spec PyProof.Rows
theorem Gu:∀{vs:List ah} {ns:List Int},kn vs ns->Vals (ns.map V.int) vs
 |_,_,.nil=>.nil
 |_,_,.cons n t h=>.cons ⟨t,rfl⟩ (Gu h)
def kU(s:bj):sr:=match s with
 |.FunctionDef _ a _ _ _ _ _ _ _ _=>a
 |_=>{ posonlyargs:=[],args:=[],vararg:=ae,kwonlyargs:=[],kw_defaults:=[],kwarg:=ae,defaults:=[] }
def gL(s:bj):List bj:=match s with
 |.FunctionDef _ _ b _ _ _ _ _ _ _=>b
 |_=>[]
def bC(s:bj):dM:=match s with
 |.FunctionDef _ _ _ _ _ _ sc _ _ _=>sc
 |_=>{ kind:=.function,names:=[],isGenerator:=false,isCoroutine:=false }
abbrev aJ:fR:=λ_ _ _ _ _ _=>False
abbrev E0:XK:=λ_ _ _=>False
theorem mI{X:Cx}:uN aJ X E0:=λ_ _ _ _ _ _ _ h=>h.elim
structure bN(K:aB)(x qual:Str)(st:bj)(f:ag)(fd:bA):Prop where
 ex:∃(oc:ah) (od:Option ag) (kV doc pm:ah) (an:Option ag) (cdv ct:ah) (osl:Array (Option ah)),
  fd=iK x qual (kU st) (gL st) (bC st) .none kV doc pm an cdv ct/\K.lookup f=aa ⟨oc,od,.func fd,osl⟩/\ou K cdv qual=true
 kp:jB K (.ref f)=true
section
variable{P:aW}{w:aQ}{K:aB}{mg:Str->Option ah}{base:ay}
theorem bN.ok{x qual:Str}{st:bj}{f:ag}{fd:bA}{N ps:List Str}{k:Nat}{sp:Sp}(F:bN K x qual st f fd)(S:cM N ps (bC st))(len:∀vs H Q E,sp vs H Q E->vs.length=ps.length)
 (hbody:∀(cdv:ah) (A:a7) (outer:List Env) (s:ak) (H:Hp) (vs:List V) (Q:VK) (E:XK),cA k (A.deeper (envOfC qual (bC st) s.heap.objs.size f cdv))->sp vs H Q E ->
  ∃t,fv (cZ aJ P w K mg base N qual (bC st) f cdv A outer s H E).nJ (gL st) t/\t { nx:=λ_ H'=>Q .non H',rt:=Q } (start N vs) H):bw P w K mg base aJ (k+1) f fd ps sp:=by
 obtain⟨oc,od,kV,doc,pm,an,cdv,ct,osl,rfl,lk,hcd⟩:=F.ex;refine AQ lk hcd S len λA outer s H vs Q E hr hsp=>?_;obtain⟨t,h,q⟩:=hbody cdv A outer s H vs Q E hr hsp;exact⟨t,h.nJ,q⟩
theorem bN.binds{x qual:Str}{st:bj}{f:ag}{fd:bA}{ps:List Str}(F:bN K x qual st f fd)
 (h:∀(kV doc pm:ah) (an:Option ag) (cdv ct:ah) (us:List ah),us.length=ps.length->bindArgs (iK x qual (kU st) (gL st) (bC st) .none kV doc pm an cdv ct) ⟨us,[]⟩=pure (ps.zip us)):Binds K fd ps []:=by
 obtain⟨oc,od,kV,doc,pm,an,cdv,ct,osl,rfl,lk,hcd⟩:=F.ex;exact .all (h kV doc pm an cdv ct)
theorem vM{x qual:Str}{st:bj}{f:ag}{oc:ah}{od an:Option ag}{osl:Array (Option ah)}{kV doc pm cdv ct:ah}(l:K.lookup f=aa ⟨oc,od,.func (iK x qual (kU st) (gL st) (bC st) .none kV doc pm an cdv ct),osl⟩)
 (c:ou K cdv qual=true) (k:jB K (.ref f)=true):bN K x qual st f (iK x qual (kU st) (gL st) (bC st) .none kV doc pm an cdv ct):=⟨⟨oc,od,kV,doc,pm,an,cdv,ct,osl,rfl,l,c⟩,k⟩
end
theorem mn{A:a7}{k:Nat}(hr:cA k A):A.units+1<cLine:=Nat.lt_of_le_of_lt (Nat.add_le_add_left (by decide:1<=64) _) hr.units
section
variable{X:Cx}
theorem pv(i:Nat){x:Str}{pos:Pos}(hN:X.N[i]? = aa x:=by rfl)(hv:uD X.env.scope x:=by first|exact cE rfl|exact gH (cE rfl)|exact gH (gH rfl))(hd:(x==("__debug__" : Str))=false:=by decide)
 (hcd:(x==("__classdict__" : Str))=false:=by decide):PE X (.Name x pos) (eZ i):=PP hN hv hd hcd
end
theorem mv{A B:Prop}(h:B):if false=true then A else B:=by rw[aG dN];exact h
theorem mB{A B:Prop}(h:A):if true=true then A else B:=by rw[aF rfl];exact h
def cV(H H':Hp):Prop:=∀b o,H b=aa o->H' b=aa o
theorem cV.refl(H:Hp):cV H H:=λ_ _ h=>h
theorem cV.trans{H H1 H2:Hp}(a:cV H H1)(b:cV H1 H2):cV H H2:=λc o h=>b c o (a c o h)
theorem cV.free{H H':Hp}(e:cV H H'){l:ag}(h:H' l=Option.none):H l=Option.none:=by
 cases q:H l with
 |none=>rfl
 |some o=>
  rw[e l o q]at h;cases h
section
variable{prog:aW}{w:aQ}{A:a7}{R:ot->ak->Prop}{s:ak}
theorem LP{elt target iter:aO}{ifs:List aO}{scope:dM}{pos:Pos}{it acc:ah}{env:Env}(I:Nat->ak->Prop)
 (turn:∀n s,I n s->wpAny (model prog w) A (pyNext it) (λr s₁=>match r with
  |none=>R (.ok .next) s₁
  |some v=>wpAny (model prog w) A (letOwnedTupleGo target it v) (λ_ s₂=>wpAny (model prog w) A (assign target env v) (λ_ s₃=>
   wpAny (model prog w) A (forIn ifs true λc r=>if r=true then do let ok <- isTrue c env (eval c env);pure (l8 ok)else pure (l8 r)) (λok s₄=>
    if ok=true then wpAny (model prog w) A (eval elt env) (λx s₅=>
     wpAny (model prog w) A (call (.builtin "list.append") [acc,x]) (λ_ s₆=>∃m,m<n/\I m s₆) (λ_ _=>False) s₅) (λ_ _=>False) s₄
    else∃m,m<n/\I m s₄) (λ_ _=>False) s₃) (λ_ _=>False) s₂) (λ_ _=>False) s₁) (λ_ _=>False) s)
 (n:Nat) (h:I n s) :
 codeAny (model prog w) A (.compLoop (.ListComp elt [⟨target,iter,ifs,0⟩] scope pos) 0 it acc env) R s:=by
 refine codeAny_loop rfl I (λn s hI=>?_) n h;show wpAny _ A ((compTurn (.ListComp elt [⟨target,iter,ifs,0⟩] scope pos) 0 it acc env).onRaise (λx=>do noteFrame x env;theTreesLotGoes x)) _ _ s;refine wpAny_noted (e5 (E:=λ_ _=>False) ?_ (λ_ _ q=>q) λ_ _ q=>q.elim);rw[compTurn_list];refine ar (qc (ar (aM (turn n s hI) λr s₁ h₁=>?_)));cases r with
 |none=>exact bh h₁
 |some v=>
  refine ar (aM h₁ λ_ s₂ h₂=>ar (aM h₂ λ_ s₃ h₃=>ar (aM h₃ λok s₄ h₄=>?_)));cases ok with
  |false=>exact bh ⟨rfl,h₄⟩
  |true=>exact ar (ar (aM h₄ λx s₅ h₅=>ar (aM h₅ λ_ s₆ h₆=>bh (bh ⟨rfl,h₆⟩))))
end
theorem bY.track{P:aW}{w:aQ}{H:Hp}{h:ay}{a:ag}{o:HO}(x:bY P w H h)(hn:H a=ae)(new:bI P w (upd H a o) h a o):bY P w (upd H a o) h:=λb u e=>by
 by_cases hb:b=a
 ·subst hb;rw[aY]at e;cases e;exact new
 ·rw[av hb]at e;exact(x b u e).stay (λc v _ q=>q) (λc q=>by rw[av (cQ q hn)];exact q) λc xs q=>by rw[av (cQ q hn)];exact q
theorem lookup_mem{α:Type}:∀{l:List (Str×α)} {x:Str} {k:α},l.lookup x=aa k->(x,k)∈l
 |[],_,_,h=>by simp at h
 |(n,k')::r,x,k,h=>by
  rw[oz]at h;cases hx:x==n with
  |true=>
   rw[hx]at h;have:x=n:=by simpa using hx
   cases h;subst this;exact b8
  |false=>rw[hx]at h;exact cy _ (lookup_mem h)
theorem wZ{env:Env}:∀{names:List (Str×oq)} {x:Str} {k:oq},
 (names.map λ(n,k)=>if(k==l9&&env.scope.kind==.function&&env.kindOf n==aa .cell)then(n,Ce)else(n,k)).lookup x=aa k ->
 ∃k',names.lookup x=aa k'/\(k=k'\/(k'=.free/\k=.cell))
 |[],_,_,h=>by simp at h
 |(n,k0)::r,x,k,h=>by
  have ih:=@wZ env r x k;have h':jg x ((if(k0==l9&&env.scope.kind==.function&&env.kindOf n==aa .cell)=true then(n,Ce)else(n,k0)) ::
   (r.map λ(n,k)=>if(k==l9&&env.scope.kind==.function&&env.kindOf n==aa .cell)then(n,Ce)else(n,k)))=aa k:=h
  by_cases hc:(k0==l9&&env.scope.kind==.function&&env.kindOf n==aa .cell)=true
  ·rw[aF hc,oz]at h';rw[oz];cases hx:x==n with
   |true=>
    rw[hx]at h';cases h';simp only[lY]at hc;exact⟨k0,rfl,.inr ⟨by simpa using hc.1.1,rfl⟩⟩
   |false=>rw[hx]at h';exact ih h'
  ·rw[aG hc,oz]at h';rw[oz];cases hx:x==n with
   |true=>rw[hx]at h';cases h';exact⟨_,rfl,.inl rfl⟩
   |false=>rw[hx]at h';exact ih h'
theorem zA{env:Env}{f:(Str×oq)->List (Str×ag)->Sem (ForInStep (List (Str×ag)))}
 (hf:∀n k r,f (n,k) r=if(k==l9)=true then(cellOf env n >>= λa=>pure (l8 ((n,a)::r)))else pure (l8 r)) :
 ∀(names:List (Str×oq)) (acc:List (Str×ag)),(∀y∈names,y.2=.free->∃c,env.cells.lookup y.1=aa c)->(∀x c,acc.lookup x=aa c->env.cells.lookup x=aa c) ->
  ∃cl,forIn names acc f=pure cl/\(∀x c,cl.lookup x=aa c->env.cells.lookup x=aa c)/\(∀x,(∃c,acc.lookup x=aa c)->∃c,cl.lookup x=aa c)/\∀x,(x,l9)∈names->∃c,cl.lookup x=aa c
 |[],acc,_,hacc=>⟨acc,rfl,hacc,λ_ h=>h,λ_ h=>by simp at h⟩
 |(n,k)::r,acc,hn,hacc=>by
  have hr:∀y∈r,y.2=.free->∃c,env.cells.lookup y.1=aa c:=λy hy=>hn y (cy _ hy);by_cases hk:(k==l9)=true
  ·have hk':k=.free:=by simpa using hk
   obtain⟨c,hc⟩:=hn (n,k) b8 hk';obtain⟨cl,e,h1,h2,h3⟩:=zA hf r ((n,c)::acc) hr (λx c' h=>by
    rw[oz]at h;cases hx:x==n with
    | true => rw [hx] at h; cases h; have : x = n := by simpa using hx
              subst this;exact hc
    |false=>rw[hx]at h;exact hacc x c' h)
   refine⟨cl,?_,h1,λx ⟨c',hx⟩=>h2 x ?_,λx hx=>?_⟩
   ·rw[u6,hf,aF hk];have:cellOf env n=pure c:=by unfold cellOf;rw[hc]
    rw[this];exact e
   ·rw[oz];cases x==n with
    |true=>exact⟨_,rfl⟩
    |false=>exact⟨c',hx⟩
   ·rcases bn.mp hx with e|hx
    ·cases e;exact h2 _ ⟨c,by rw[oz];simp⟩
    ·exact h3 x hx
  ·obtain⟨cl,e,h1,h2,h3⟩:=zA hf r acc hr hacc;refine⟨cl,?_,h1,h2,λx hx=>?_⟩
   ·rw[u6,hf,aG hk];exact e
   ·rcases bn.mp hx with e|hx
    ·cases e;exact absurd rfl hk
    ·exact h3 x hx
theorem P5{sc:dM}{env:Env}(h:∀y∈sc.names,y.2=.free->∃c,env.cells.lookup y.1=aa c) :
 ∃cl,closureFor sc env=pure cl/\(∀x c,cl.lookup x=aa c->env.cells.lookup x=aa c)/\∀x,(x,l9)∈sc.names->∃c,cl.lookup x=aa c:=by
 obtain⟨cl,e,h1,_,h3⟩:=zA (env:=env) (f:=λx r=>match x with|(name,kind)=>if(kind==l9)=true then(cellOf env name >>= λa=>pure (l8 ((name,a)::r)))else pure (l8 r))
  (λn k r=>rfl) sc.names [] h (λ_ _ h=>by simp at h)
 refine⟨cl,?_,h1,h3⟩;unfold closureFor;refine Eq.trans ?_ e;exact bind_pure _
def pick(ρ:List (Option Nat))(σ:St):St:=ρ.map λo=>o.bind λj=>(σ[j]?).join
def fJ(X:Cx)(N':List Str)(sc:dM)(cl:List (Str×ag))(C:ag)(s:ak)(H:Hp)(fp:List ag):Cx:={ X with N:=N',s₀:=s,H₀:=H,env:=compEnvC sc cl C X.env,outer:=X.stack,ex:=fp,fn:=λ_=>false,xe:=λ_ _=>False }
structure dP(X:Cx)(N':List Str)(ρ:List (Option Nat))(sc:dM):Prop where
 kind:sc.kind=.function
 vk:∀y∈sc.names,y.2≠.cell
 names:∀y∈sc.names,y.2=.local->sc.names.lookup y.1=aa .local
 free:∀y∈sc.names,y.2=.free->(X.env.kindOf y.1=aa .cell\/X.env.kindOf y.1=aa .free)
 len:ρ.length=N'.length
 ix:∀(i j:Nat),ρ[i]? = aa (aa j)->∃x,N'[i]? = aa x/\X.N[j]? = aa x/\sc.names.lookup x=aa .free
def uh(X:Cx)(ifs:List aO)(t:TT):Prop:=
 ∀(af:List (ag×Obj)) (s:ak) (σ:St) (H:Hp) (Q:Bool->Hp->Prop),Inv X af σ H s->t σ H Q ->
  wpAny (model X.prog X.w) X.A (forIn ifs true λc r=>if r=true then do let ok <- isTrue c X.env (eval c X.env);pure (l8 ok)else pure (l8 r)) (TP X af σ Q) X.xe s
def Ji:TT:=λ_ H Q=>Q true H
theorem jb{X:Cx}:uh X [] Ji:=λ_ _ _ H _ I h=>wpAny_tests_nil ⟨H,I,h⟩
theorem nX{X:Cx}{c:aO}{t:TT}(h:PT X c t):uh X [c] t:=λaf s σ H Q I hw=>wpAny_tests_one (h af s σ H Q I hw)
def t9(ρ:List (Option Nat))(g:TG):Prop:=∀v σ H Q,g v σ H Q->g v σ H λσ2 H2=>(σ2.length = σ.length/\∀(i j:Nat),ρ[i]? = aa (aa j)->σ2[i]? = σ[i]?)/\Q σ2 H2
def wm(ρ:List (Option Nat))(g:iZ):Prop:=∀v σ H Q,g v σ H Q->g v σ H λσ2 H2=>(σ2.length = σ.length/\∀(i j:Nat),ρ[i]? = aa (aa j)->σ2[i]? = σ[i]?)/\Q σ2 H2
theorem gq{ρ:List (Option Nat)}{i:Nat}(h:ρ[i]? = aa ae):t9 ρ (ii i):=λv σ H Q q=>by
 refine⟨⟨jD,λk j e=>?_⟩,q⟩;have:i≠k:=by intro z;subst z;rw[h]at e;cases e
 rw[gc this]
theorem xf{ρ:List (Option Nat)}:wm ρ ul:=λv σ H Q ⟨e,q⟩=>⟨e,⟨rfl,λ_ _ _=>rfl⟩,q⟩
theorem oa{ρ:List (Option Nat)}{i:Nat}{u:iZ}(h:ρ[i]? = aa ae)(hu:wm ρ u)(mu:∀v σ H Q Q',(∀a b,Q a b->Q' a b)->u v σ H Q->u v σ H Q'):wm ρ (ut (ii i) u):=λvs σ H Q ⟨v,r,e,q⟩=>by
 refine⟨v,r,e,?_⟩;refine mu _ _ _ _ _ (λa b ⟨⟨l,k⟩,z⟩=>⟨⟨l.trans jD,λi' j' e'=>(k i' j' e').trans ?_⟩,z⟩) (hu _ _ _ _ q);have:i≠i':=by intro z;subst z;rw[h]at e';cases e'
 rw[gc this]
theorem nN:∀v σ H Q Q',(∀a b,Q a b->Q' a b)->ul v σ H Q->ul v σ H Q':=λ_ _ _ _ _ m ⟨e,q⟩=>⟨e,m _ _ q⟩
theorem xt{i:Nat}{u:iZ}(mu:∀v σ H Q Q',(∀a b,Q a b->Q' a b)->u v σ H Q->u v σ H Q'):∀v σ H Q Q',(∀a b,Q a b->Q' a b)->ut (ii i) u v σ H Q->ut (ii i) u v σ H Q':=λ_ _ _ _ _ m ⟨v,r,e,q⟩=>⟨v,r,e,mu _ _ _ _ _ m q⟩
theorem vC{ρ:List (Option Nat)}{K:aB}{n:Nat}{u:iZ}(hu:wm ρ u):t9 ρ (y4 K n u):=λv σ H Q ⟨a,xs,e,hq,hl,q⟩=>⟨a,xs,e,hq,hl,hu _ _ _ _ q⟩
def AB(J:It)(ρ:List (Option Nat))(g:TG)(tc:TT)(te:TE)(σ:St)(H1:Hp)(Q:VK):Prop:=∃W:Nat->Nat->List V->Hp->Prop,(∃m,W 0 m [] H1)/\∀i m acc H,W i m acc H ->
 (J.stop i H/\∀p,H p=ae->Q (.ref p) (upd H p (.lst acc))) \/
 (J.go i H/\acc.length<sizeLine/\∃N:List V->Hp->Prop,(∀acc' H',N acc' H'->∃m',m'<m/\W (i+1) m' acc' H') /\
  ∀x H',J.yld i H x H'->g x (pick ρ σ) H' λσ2 H2=>tc σ2 H2 λb H3=>if b=true then te σ2 H3 λy H4=>N (acc++[y]) H4 else N acc H3)
def wj(wi:TI)(ρ:List (Option Nat))(g:TG)(tc:TT)(te:TE):TE:=λσ H Q=>wi σ H λJ H1=>AB J ρ g tc te σ H1 Q
section
variable{X:Cx}{elt tg iter:aO}{ifs:List aO}{sc:dM}{pos cpos:Pos}{N':List Str}{ρ:List (Option Nat)}{wi:TI}{g:TG}{tc:TT}{te:TE}
theorem Io(hcalm:X.calm=true)(S:dP X N' ρ sc)(hi:PI X tg iter wi)
 (hg:∀cl C s H fp,PG (fJ X N' sc cl C s H fp) tg g) (gk:t9 ρ g) (hc:∀cl C s H fp,uh (fJ X N' sc cl C s H fp) ifs tc) (he:∀cl C s H fp,PE (fJ X N' sc cl C s H fp) elt te)
 (hs:∀x,foldedSetIterable iter X.env x=pure x)
 (use:Option (ah->Sem Unit)) {R:ah->ak->Prop} {af:List (ag×Obj)} {s:ak} {σ:St} {H:Hp} {Q:VK} (I:Inv X af σ H s) (h:wj wi ρ g tc te σ H Q)
 (hR:∀s' D C H',Inv X af σ H' s'->Q (.ref D) H'->(∃m,s'.heap.Ns C m)->fH X af H' C->compPost (model X.prog X.w) X.A X.xe use R (.ref D) C (.ok .next) s') :
 wpAny (model X.prog X.w) X.A (comprehension (.ListComp elt [⟨tg,iter,ifs,0⟩] sc pos) sc X.env cpos (newList []) false (eval iter X.env) use) R X.xe s:=by
 obtain⟨cl,hcl,hsub,hall⟩:=P5 (sc:=sc) (env:=X.env) λy hy hf=>I.ok.has y.1 (S.free y hy hf);refine wpAny_comprehension_free rfl hs hcl S.kind S.names (aM (hi af s σ H _ I h) λv s1 h1=>aM h1 λitv s2 h2=>?_);obtain⟨it,fp,tn,J,H2,e,I2,T,st2,f2,W,⟨m0,w0⟩,turn⟩:=h2;subst e;refine Bu (items:=[]) ?_;refine wpAny_newFunctionEnv S.vk (by intro y hy;simp at hy) (λh₁ hns hsb=>?_) S.kind;dsimp only at hns hsb ⊢;generalize hH2:s2.heap.push { cls:=.type "list", data:=.seq ([]:List ah).toArray }=Hh at hns hsb ⊢;have hCs:Hh.objs.size=s2.heap.objs.size+1:=by rw[<- hH2,qg]
 generalize hD:s2.heap.objs.size=D at *;generalize hCC:Hh.objs.size=C at *;have hDC:D≠C:=by omega
 have ltC:∀b:Nat,b<s2.heap.objs.size->b≠C/\b≠D/\b<D:=λb h=>by omega
 have ltD:∀b:Nat,b<D->b≠C/\b≠D:=λb h=>by omega
 have old:∀b o,s2.heap.get? b=aa o->h₁.get? b=aa o:=λb o e=>hsb.extBut b o (ltC b (bE e)).1 (br _ (by rw[<- hH2];exact br _ e));have newD:h₁.get? D=aa { cls:=.type "list", data:=.seq ([]:List ah).toArray }:=hsb.extBut _ _ hDC (br _ (by rw[<- hH2,<- hD];exact dj _ rfl));have ltb:∀b∈fp,b<D:=λb hb=>by
  obtain⟨o,e,_⟩:=T.obj _ _ st2 b hb;exact(ltC b (bE e)).2.2
 have fD:fH X af H2 D:=I2.jd (by omega) (I2.hok.fresh (by omega));have fC:fH X af H2 C:=I2.jd (by omega) (I2.hok.fresh (by omega));have nst:∀b,b≠X.env.locals->b∉X.fs->b∉frs X.stack:=λb h1 h2 hb=>by
  rcases bn.mp (I2.v3 b hb)with e|e
  ·exact h1 e
  ·exact h2 e
 have ok':(fJ X N' sc cl C s2 H2 fp).Ok:=by
  refine⟨I2.ok.mod,S.kind,I2.ok.glob,I2.ok.blt,(by show s2.heap.objs.size<=C;omega),λx y c e1 e2=>I2.ok.inj x y c (hsub _ _ e1) (hsub _ _ e2),λx hx=>?_,λx c z=>(by cases z),I2.ok.hd,I2.ok.frames,.inl rfl,
   λb hb=>⟨(ltD b (ltb b hb)).1,λx c e=>(f2 b hb).2.2.2.2.1 x c (hsub _ _ e)⟩,I2.bs,(by show X.base.objs.size<=s2.heap.objs.size;exact d9 I2.ok.bsz I2.sz),λb o e hb=>?_,λb hb=>nst b (f2 b hb).2.1 (f2 b hb).2.2.1,I2.stack,I2.tY⟩
  ·have hx':∃k',sc.names.lookup x=aa k'/\(k'=.cell\/k'=.free):=by
    rcases hx with hx|hx
    ·obtain⟨k',e1,e2⟩:=wZ (env:=X.env) (names:=sc.names) hx;rcases e2 with e2|⟨e2,_⟩
     ·exact⟨k',e1,.inl e2.symm⟩
     ·exact⟨k',e1,.inr e2⟩
    ·obtain⟨k',e1,e2⟩:=wZ (env:=X.env) (names:=sc.names) hx;rcases e2 with e2|⟨e2,_⟩
     ·exact⟨k',e1,.inr e2.symm⟩
     ·exact⟨k',e1,.inr e2⟩
   obtain⟨k',e1,e2⟩:=hx';have hm:=lookup_mem e1;rcases e2 with e2|e2
   ·exact absurd e2 (S.vk _ hm)
   ·subst e2;exact hall x hm
  ·rcases(f2 b hb).2.2.2.1 with z|z
   ·exact I2.ok.qx b o e z
   ·exact absurd (gG (bE e) (d9 I2.ok.bsz z)) (kj _)
 have KO:∀p∈X.pn++af,p.1<D:=λp hp=>(ltC p.1 (bE (I2.pin p hp).1)).2.2;have S5:∀x c,cl.lookup x=aa c->c<D:=λx c e=>by
  obtain⟨v,q⟩:=I2.cell x c (hsub _ _ e);exact(ltC c q.lt).2.2
 have I':∀tk,Inv (fJ X N' sc cl C s2 H2 fp) (af++[(D,{ cls:=.type "list", data:=.seq ([]:List ah).toArray })]) (pick ρ σ) H2 { s2 with heap:=h₁,toks:=tk }:=λtk=>by
  refine⟨ok',rfl,I2.bare,Un.kept old,⟨_,hns,λi x v e1 e2 e3=>?_⟩,λx c e=>?_,fC.1,λx c e=>I2.gf x c (hsub _ _ e),λp hp=>?_,I2.hok.kept old,?_⟩
  ·have e2':∃j,ρ[i]? = aa (aa j)/\σ[j]? = aa (aa v):=by
    unfold pick at e2;rw[eE]at e2;cases hr:ρ[i]? with
    |none=>rw[hr]at e2;cases e2
    |some o=>
     rw[hr]at e2;cases o with
     |none=>cases e2
     |some j=>
      refine⟨j,rfl,?_⟩;have e2:(σ[j]?).join=aa v:=gZ e2;cases hq:σ[j]? with
      |none=>rw[hq]at e2;cases e2
      | some o' => rw [hq] at e2; have e2 : o' = aa v := e2
                   rw[e2]
   obtain⟨j,hj,hv⟩:=e2';obtain⟨y,ey,eN,ef⟩:=S.ix i j hj;have e1':N'[i]? = aa x:=e1;rw[ey]at e1';cases e1';obtain⟨m,hn,hl⟩:=I2.loc;have hm:=lookup_mem ef;have kX:=S.free _ hm rfl;obtain⟨u,ru,lk⟩:=hl j x v eN hv (by rcases kX with k|k;exact .inr (.inl k);exact .inr (.inr k));refine⟨u,ru,.inr ⟨?_,?_⟩⟩
   ·show(relabel sc X.env).names.lookup x=aa .cell\/(relabel sc X.env).names.lookup x=aa .free;rcases e3 with e3|e3|e3
    ·obtain⟨k',q1,q2⟩:=wZ (env:=X.env) (names:=sc.names) e3;rw[ef]at q1;cases q1;rcases q2 with q2|⟨_,q2⟩<;>cases q2
    ·exact .inl e3
    ·exact .inr e3
   ·obtain⟨c,hc'⟩:=hall x hm;refine⟨c,hc',?_⟩;rcases lk with ⟨k,_⟩|⟨_,c',ec,z⟩
    ·rcases kX with k'|k'<;>(rw[k]at k';cases k')
    ·rw[hsub _ _ hc']at ec;cases ec;obtain⟨o,ho,hd⟩:=z;exact⟨o,old _ _ ho,hd⟩
  ·obtain⟨v,o,ho,hd⟩:=I2.cell x c (hsub _ _ e);exact⟨v,o,old _ _ ho,hd⟩
  ·have hp':p∈X.pn++af\/p=(D,{ cls:=.type "list", data:=.seq ([]:List ah).toArray }):=by
    rcases gF.mp hp with z|z
    ·exact .inl (k4 _ z)
    ·rcases gF.mp z with z|z
     ·exact .inl (f9 _ z)
     ·exact .inr (by simpa using z)
   rcases hp' with z|z
   ·obtain⟨q1,q2,q3,q4,q5⟩:=I2.pin p z;exact⟨old _ _ q1,q2,(ltD p.1 (KO p z)).1,nst _ q3 q4,q5⟩
   ·subst z;exact⟨newD,fD.1,hDC,nst _ fD.2.1 fD.2.2.1,λv z=>by cases z⟩
  ·show(pick ρ σ).length=N'.length;unfold pick;rw[be];exact S.len
 have stat:∀{H':Hp} {o:Obj},(∀b∈fp,H' b=ae)->∀b∈fp,fH (fJ X N' sc cl C s2 H2 fp) (af++[(D,o)]) H' b:=λ{H' o} hn b hb=>by
  refine⟨hn b hb,(ltD b (ltb b hb)).1,nst b (f2 b hb).2.1 (f2 b hb).2.2.1,.inl hb,λx c e=>(f2 b hb).2.2.2.2.1 x c (hsub _ _ e),λp hp=>?_⟩;rcases gF.mp hp with z|z
  ·exact(f2 b hb).2.2.2.2.2 p (k4 _ z)
  ·rcases gF.mp z with z|z
   ·exact(f2 b hb).2.2.2.2.2 p (f9 _ z)
   ·have e:p=(D,o):=by simpa using z
    subst e;exact bU (ltD b (ltb b hb)).2
 have loop:∀tk,codeAny (model X.prog X.w) X.A (.compLoop (.ListComp elt [⟨tg,iter,ifs,0⟩] sc pos) 0 (.ref it) (.ref D) (compEnvC sc cl C X.env)) (compPost (model X.prog X.w) X.A X.xe use R (.ref D) C) { s2 with heap:=h₁,toks:=tk }:=λtk=>by
  refine LP (λn s'=>∃(i:Nat) (acc:List V) (am:List ah) (k:Nat) (H':Hp),Inv (fJ X N' sc cl C s2 H2 fp) (af++[(D,{ cls:=.type "list", data:=.seq am.toArray k })]) (pick ρ σ) H' s'/\Vals acc am/\acc.length<=sizeLine/\tn i s'.heap/\(∀b∈fp,H' b=ae)/\W i n acc H')
   ?_ m0 ⟨0,[],[],0,H2,I' tk,.nil,ft _,T.keep _ _ _ st2 λb hb o e=>old b o e,λb hb=>(f2 b hb).1,w0⟩
  rintro n s3 ⟨i,acc,am,k,H3,I3,va,hz0,st3,fr3,w3⟩;rcases turn i n acc H3 w3 with ⟨stop,qn⟩|⟨go,hz,Nn,hN,step⟩
  ·refine aM (T.done (fJ X N' sc cl C s2 H2 fp) rfl rfl rfl hcalm i _ s3 _ H3 (λ_ _=>False) I3 (stat fr3) st3 stop) λr s4 ⟨hr,I4⟩=>?_;subst hr;obtain⟨p1,p2,p3,p4,p5⟩:=I4.pin (D,{ cls:=.type "list",data:=.seq am.toArray k }) (by simp);have p1:s4.heap.get? D=aa { cls:=.type "list", data:=.seq am.toArray k }:=p1;have p2:H3 D=ae:=p2;have B:=I4.base;have upn:∀b o,H3 b=aa o->upd H3 D (.lst acc) b=aa o:=λb o e=>by rw[av (cQ e p2)];exact e
   have IX:Inv X af σ (upd H3 D (.lst acc)) s4:=by
    refine I2.call' (ch:=fp) I4.os ⟨λb o q1 q2 q3 q4=>B.keep b o q1 q2 q3 q4,λb o q1 q2 q3 q4=>B.slot b o q1 q2 q3 q4,λb o q1 q2 q3=>?_,λb o q1 q2=>B.there b o q1 q2,
     λb xs q=>upn _ _ (B.tups b xs q),λb o u q=>upn _ _ (B.iS b o u q),λb w ps q=>?_⟩ (I4.hok.track p2 ⟨hz0,am,k,va,p1⟩) I4.bare λb hb=>⟨(f2 b hb).2.2.2.1,(f2 b hb).2.1,(f2 b hb).2.2.2.2.1,(f2 b hb).2.2.2.2.2⟩
    ·rw[av (ltC b (bE q1)).2.1];exact B.free b o q1 q2 q3
    ·obtain⟨more,q'⟩:=B.iT b w ps q;exact⟨more,upn _ _ q'⟩
   obtain⟨m,hm,_⟩:=I4.loc;refine hR s4 D C _ IX (qn D p2) ⟨m,hm⟩ (I2.jd (by omega) ?_);rw[av (bU hDC)];exact I4.free
  ·refine aM (T.item (fJ X N' sc cl C s2 H2 fp) rfl rfl rfl hcalm i _ s3 _ H3 (λ_ _=>False) I3 (stat fr3) st3 go) λr s4 ⟨u,hr,h4⟩=>?_;subst hr;refine aM h4 λ_ s5 ⟨x,H5,I5,r5,y5,st5,fr5⟩=>?_;have I5':=I5.pinned (stat fr5) (T.obj _ _ st5);refine aM (hg cl C s2 H2 fp _ s5 _ H5 x u _ I5' r5 (gk _ _ _ _ (step x H5 y5))) λ_ s6 ⟨σ6,H6,I6,⟨l6,k6⟩,q6⟩=>?_;refine aM (hc cl C s2 H2 fp _ s6 σ6 H6 _ I6 q6) λok s7 ⟨H7,I7,q7⟩=>?_;have wk:∀{sR:List (ag×Obj)} {H':Hp} {s':ak},Inv (fJ X N' sc cl C s2 H2 fp) sR σ6 H' s'->Inv (fJ X N' sc cl C s2 H2 fp) sR (pick ρ σ) H' s':=λ{sR H' s'} J'=>
    J'.weak l6.symm λj v e=>by
     have:∃j',ρ[j]? = aa (aa j'):=by
      unfold pick at e;rw[eE]at e;cases hr:ρ[j]? with
      |none=>rw[hr]at e;cases e
      |some o=>
       rw[hr]at e;cases o with
       |none=>cases e
       |some j'=>exact⟨j',rfl⟩
     obtain⟨j',hj'⟩:=this;rw[k6 j j' hj'];exact e
   cases ok with
   |false=>
    have q7:Nn acc H7:=by simpa using q7
    rw[aG dN];obtain⟨m',hm,w7⟩:=hN acc H7 q7;refine⟨m',hm,i+1,acc,am,k,H7,wk I7.qW,va,hz0,T.keep _ _ _ st5 λb hb o e=>(I7.pin (b,o) (f9 _ (f9 _ (rc hb e)))).1,λb hb=>?_,w7⟩;obtain⟨o,e,d⟩:=T.obj _ _ st5 b hb;exact(I7.pin (b,o) (f9 _ (f9 _ (rc hb e)))).2.1
   |true=>
    have q7:te σ6 H7 λy H4=>Nn (acc++[y]) H4:=by simpa using q7
    rw[aF rfl];refine aM (he cl C s2 H2 fp _ s7 σ6 H7 _ I7 q7) λxv s8 ⟨y,H8,I8,r8,n8⟩=>?_;obtain⟨p1,p2,p3,p4,p5⟩:=I8.pin (D,{ cls:=.type "list",data:=.seq am.toArray k }) (by simp);have p1:s8.heap.get? D=aa { cls:=.type "list",data:=.seq am.toArray k }:=p1;have p2:H8 D=ae:=p2;refine wpAny_list_append_plain ⟨k,p1⟩ (λh' pl sb=>?_) (by rw[cz,<- va.length];omega);obtain⟨k',pl⟩:=pl;obtain⟨m',hm,w8⟩:=hN _ _ n8;have Ia:Inv (fJ X N' sc cl C s2 H2 fp) af σ6 H8 s8:=I8.qW.qW;have Ib:Inv (fJ X N' sc cl C s2 H2 fp) af σ6 H8 { s8 with heap:=h' }:=Ia.turned (t':=s8.toks) (it:=D) (λb o hb e=>(sb.2 b hb).trans e) p2 hDC (.inr (by show s2.heap.objs.size<=D;omega)) (λx c e=>(ltD c (S5 x c e)).2) λp hp=>(ltD p.1 (KO p hp)).2;have pl':h'.get? D=aa { cls:=.type "list", data:=.seq (am++[xv]).toArray k' }:=by rw[pl];simp
    have Ic:Inv (fJ X N' sc cl C s2 H2 fp) (af++[(D,{ cls:=.type "list", data:=.seq (am++[xv]).toArray k' })]) σ6 H8 { s8 with heap:=h' }:=Ib.ze λp hp=>by
     rcases gF.mp hp with z|z
     ·exact Ib.pin p (f9 _ z)
     ·have e:p=(D,{ cls:=.type "list", data:=.seq (am++[xv]).toArray k' }):=by simpa using z
      subst e;exact⟨pl',p2,p3,p4,λv z=>by cases z⟩
    refine⟨m',hm,i+1,acc++[y],am++[xv],k',H8,wk Ic,va.append (.cons r8 .nil),(by rw[d6,u4];omega),T.keep _ _ _ st5 λb hb o e=>?_,λb hb=>?_,w8⟩
    ·exact(sb.2 b (ltD b (ltb b hb)).2).trans (I8.pin (b,o) (f9 _ (f9 _ (rc hb e)))).1
    ·obtain⟨o,e,d⟩:=T.obj _ _ st5 b hb;exact(I8.pin (b,o) (f9 _ (f9 _ (rc hb e)))).2.1
 refine codeAny_compStart_list (loop _) (T.self X.A 0 _ _ _ (T.keep _ _ _ st2 λb hb o e=>old b o e) (loop _))
theorem im(hcalm:X.calm=true)(S:dP X N' ρ sc)(hi:PI X tg iter wi)
 (hg:∀cl C s H fp,PG (fJ X N' sc cl C s H fp) tg g) (gk:t9 ρ g) (hc:∀cl C s H fp,uh (fJ X N' sc cl C s H fp) ifs tc) (he:∀cl C s H fp,PE (fJ X N' sc cl C s H fp) elt te)
 (hs:∀x,foldedSetIterable iter X.env x=pure x:=by intro _;rfl) :
 PE X (.ListComp elt [⟨tg,iter,ifs,0⟩] sc pos) (wj wi ρ g tc te):=by
 intro af s σ H Q I h;rw[eval_ListComp];refine Io hcalm S hi hg gk hc he hs ae I h λs' D C H' I' q ⟨m,hm⟩ f=>⟨m,hm,λh' sb=>?_⟩;exact⟨.ref D,H',I'.turned (t':=s'.toks) (it:=C) (λb o hb e=>(sb.2 b hb).trans e) f.1 f.2.1 f.2.2.2.1 f.2.2.2.2.1 f.2.2.2.2.2,rfl,q⟩
theorem qC{i:Nat}{x:Str}{px:Pos}(hcalm:X.calm=true)(hN:X.N.Nodup)(hix:X.N[i]? = aa x)(hx:Loc X.env.scope x)(S:dP X N' ρ sc)(hi:PI X tg iter wi)
 (hg:∀cl C s H fp,PG (fJ X N' sc cl C s H fp) tg g) (gk:t9 ρ g) (hc:∀cl C s H fp,uh (fJ X N' sc cl C s H fp) ifs tc) (he:∀cl C s H fp,PE (fJ X N' sc cl C s H fp) elt te)
 (hsw:swapsWith (.ListComp elt [⟨tg,iter,ifs,0⟩] sc pos) (aa (.Name x px)) cpos.line X.env=pure true:=by rfl)
 (hs:∀x,foldedSetIterable iter X.env x=pure x:=by intro _;rfl)
 (hf:X.fn x=true\/X.env.scope.names.lookup x=aa .local:=by first|exact .inl rfl|exact .inr rfl|assumption) :
 PS X (.Assign [.Name x px] (.ListComp elt [⟨tg,iter,ifs,0⟩] sc pos) cpos) (kN (wj wi ρ g tc te) (ii i)):=by
 intro af s σ H D I h;rw[exec_Assign_Name_used _ _ _ _ hsw];refine ar (qc (ar ?_));show wpAny _ X.A (do let _ <- comprehension (.ListComp elt [⟨tg,iter,ifs,0⟩] sc pos) sc X.env _ (newList []) false (eval iter X.env) (aa (assign (.Name x px) X.env))) _ _ s;refine ar (aM (Io (Q:=λy H1=>D.nx (σ.set i (aa y)) H1) (R:=λ_ s'=>SP X af D .next s') hcalm S hi hg gk hc he hs (aa (assign (.Name x px) X.env)) I h λs' Da C H' I' q ⟨m,hm⟩ f=>?_) λ_ s' hq=>bh (bh hq));show wpAny _ X.A (assign (.Name x px) X.env (.ref Da)) _ _ _;refine wpAny_assign_Name (Gs I' hN hix hx (v:=.ref Da) rfl (λs2 I2 ⟨a,sb,ha⟩=>⟨m,hm.sameBut sb ?_,λh' sb2=>?_⟩) hf)
 ·rcases ha with e|e
  ·subst e;exact f.2.1
  ·exactλz=>f.2.2.2.2.1 x a e z.symm
 ·exact⟨_,H',I2.turned (t':=s2.toks) (it:=C) (λb o hb e=>(sb2.2 b hb).trans e) f.1 f.2.1 f.2.2.2.1 f.2.2.2.2.1 f.2.2.2.2.2,q⟩
end
structure It.Of(J:It)(Ok:Hp->Prop)(xs:List V):Prop where
 go:∀i H,Ok H->i<xs.length->J.go i H
 yld:∀i H x H',Ok H->i<xs.length->J.yld i H x H'->H'=H/\xs[i]? = aa x
 stop:∀H,Ok H->J.stop xs.length H
theorem zH{K:aB}{a:ag}{xs:List V}:(tT K a).Of (λH=>dO K H a xs) xs:=⟨λi H h hi=>⟨xs,xs[i],h,by simp[hi]⟩,λi H x H' h _ y=>⟨y.1,y.2 xs h⟩,λH h=>⟨xs,h,bu _⟩⟩
theorem Fz{K:aB}{a:ag}{xs:List V}:(uV K a).Of (λH=>ff K H a xs) xs:=⟨λi H h hi=>⟨xs,xs[i],h,by simp[hi]⟩,λi H x H' h _ y=>⟨y.1,y.2 xs h⟩,λH h=>⟨xs,h,bu _⟩⟩
def oH(lo:Int)(n:Nat):List V:=(bx n).map λi=>V.int (lo+(i:Nat))
theorem Ao(lo:Int)(n:Nat):(oH lo n).length=n:=by simp[oH]
theorem LQ{lo:Int}{n i:Nat}(h:i<n):(oH lo n)[i]? = aa (.int (lo+i)):=by simp[oH,h]
theorem L7{lo:Int}{n:Nat}:(qG lo n).Of (λ_=>True) (oH lo n):=⟨λi H _ hi=>by rw[Ao]at hi;exact hi,λi H x H' _ hi y=>⟨y.1,by rw[Ao]at hi;rw[y.2];exact LQ hi⟩,λH _=>by rw[Ao];exact bu _⟩
theorem Nh{J:It}{Ok:Hp->Prop}{xs:List V}(O:J.Of Ok xs){ρ:List (Option Nat)}{g:TG}{tc:TT}{te:TE}{σ:St}{H:Hp}{Q:VK}(Pv:Nat->List V->Hp->Prop)(hz:xs.length<=sizeLine)(h0:Pv 0 [] H)
 (hl:∀i acc H,i<=xs.length->Pv i acc H->Ok H/\acc.length<=i)
 (hs:∀i x acc H,xs[i]? = aa x->Pv i acc H->g x (pick ρ σ) H λσ2 H2=>tc σ2 H2 λb H3=>if b=true then te σ2 H3 λy H4=>Pv (i+1) (acc++[y]) H4 else Pv (i+1) acc H3)
 (hd:∀acc H,Pv xs.length acc H->∀p,H p=ae->Q (.ref p) (upd H p (.lst acc))) :
 AB J ρ g tc te σ H Q:=by
 refine⟨λi m acc H=>m=xs.length-i/\i<=xs.length/\Pv i acc H,⟨xs.length,by simp,ft _,h0⟩,?_⟩;rintro i m acc H ⟨rfl,hi,p⟩;obtain⟨q,ql⟩:=hl i acc H hi p;by_cases hlt:i<xs.length
 ·refine .inr ⟨O.go i H q hlt,by omega,Pv (i+1),λσ' H' p'=>⟨xs.length-(i+1),by omega,rfl,hlt,p'⟩,λx H' y=>?_⟩;obtain⟨e,y'⟩:=O.yld i H x H' q hlt y;subst e;exact hs i x acc _ y' p
 ·have e:i=xs.length:=by omega
  subst e;exact .inl ⟨O.stop H q,hd acc H p⟩
theorem OS{J:It}{Ok:Hp->Prop}{xs:List V}(O:J.Of Ok xs){ρ:List (Option Nat)}{g:TG}{tc:TT}{te:TE}{σ:St}{H:Hp}{Q:VK}(p:V->Bool)(f:V->V)(hz:xs.length<=sizeLine)(hOk:Ok H)
 (hs:∀x∈xs,∀(acc:List V) (N:List V->Hp->Prop),(p x=true->N (acc++[f x]) H)->(p x=false->N acc H) ->
  g x (pick ρ σ) H λσ2 H2=>tc σ2 H2 λb H3=>if b=true then te σ2 H3 λy H4=>N (acc++[y]) H4 else N acc H3)
 (hd:∀q,H q=ae->Q (.ref q) (upd H q (.lst ((xs.filter p).map f)))) :
 AB J ρ g tc te σ H Q:=by
 refine Nh O (λi acc H'=>H'=H/\acc=((xs.take i).filter p).map f) hz ⟨rfl,by simp⟩ (λi acc H' hi ⟨e,e2⟩=>?_) (λi x acc H' hx ⟨e,e2⟩=>?_) (λacc H' ⟨e,e2⟩=>?_)
 ·subst e e2;refine⟨hOk,?_⟩;rw[be];exact d9 (qi _ _) (by rw[k8];omega)
 ·subst e e2;have hm:x∈xs:=lS hx;have tk:xs.take (i+1)=xs.take i++[x]:=by rw[List.take_add_one,hx];rfl
  refine hs x hm _ (λacc' H4=>H4=H'/\acc'=((xs.take (i+1)).filter p).map f) (λhp=>⟨rfl,?_⟩) (λhp=>⟨rfl,?_⟩)
  ·rw[tk,JW];simp[hp]
  ·rw[tk,JW];simp[hp]
 ·subst e e2;rw[List.take_length];exact hd
def sgn(c:Nat):V:=.str ⟨#[c]⟩
def pZ(x:Str):List V:=x.cps.toList.map sgn
theorem G5(x:Str):(pZ x).length=x.length:=by simp[pZ,qt]
def oM(x:Str):It:=⟨λi _=>i<x.length,λi H y H'=>H'=H/\(pZ x)[i]? = aa y,λi _=>i=x.length⟩
theorem F2{x:Str}:(oM x).Of (λ_=>True) (pZ x):=⟨λi H _ hi=>by rw[G5]at hi;exact hi,λi H y H' _ _ h=>h,λH _=>G5 x⟩
theorem HR{P:aW}{w:aQ}{K:aB}{tg:aO}(it:ag)(x:Str)(t:Tok)(ty:String)
 (hty:["enumerate","zip","dict_itemiterator","dict_reverseitemiterator","odict_iterator","itertools.zip_longest","itertools.pairwise"].contains ty=false)
 (W:∀A':a7,A'.handled=ae->Walks P w A' it [it] [it] x.cps.size (SignAt x) (λi h=>h.IsStrIter it ty x t i))
 (sf:∀(A:a7) (i:Nat) (s:ak) (Q:ah->ak->Prop) (E:ah->ak->Prop),s.heap.IsStrIter it ty x t i->Q (.ref it) s->wpAny (model P w) A (pyIter (.ref it)) Q E s) :
 Turn P w K tg (oM x) [it] it (λi h=>h.IsStrIter it ty x t i) where
 mem:=by simp
 obj:=λi h st b hb=>by
  have e:b=it:=by simpa using hb
  subst e;obtain⟨o,e,c,d⟩:=st;exact⟨o,e,λv z=>by rw[d]at z;cases z⟩
 keep:=λi h h' st k=>let ⟨o,ho,r⟩:=st;⟨o,k it (by simp) o ho,r⟩
 item:=by intro X hP hw hK hc i af s σ H E I hf st hg;subst hP hw hK;obtain⟨f0,f1,f2,f3,f4,f5⟩:=hf it (by simp);refine(W X.A (I.ok.hd hc)).item i s _ _ hg st λv h' tk hv st' kk=>?_;obtain⟨c,u,e,rfl⟩:=hv;have I1:Inv X af σ H { s with heap:=h',toks:=tk }:=I.turned (λb o hb e=>kk b o (by simpa using hb) e) f0 f1 f3 f4 f5;obtain⟨o,e',c',d'⟩:=id st';refine⟨_,rfl,v4 (s:={ s with heap:=h',toks:=tk }) e' c' d' hty ⟨sgn c,H,I1,⟨u,rfl⟩,⟨rfl,?_⟩,st',λb hb=>(hf b hb).1⟩⟩;unfold pZ;rw[eE,yr,e];rfl
 done:=by intro X hP hw hK hc i af s σ H E I hf st hg;subst hP hw hK;obtain⟨f0,f1,f2,f3,f4,f5⟩:=hf it (by simp);have hg:i=x.length:=hg;subst hg;exact(W X.A (I.ok.hd hc)).done s _ _ st λh' tk kk=>⟨rfl,I.turned (λb o hb e=>kk b o (by simpa using hb) e) f0 f1 f3 f4 f5⟩
 self:=sf
section
variable{X:Cx}{tg:aO}
def Ec(tl:TE):TI:=λσ H R=>tl σ H λx H1=>∃z,x=.str z/\R (oM z) H1
theorem Qf{l:aO}{tl:TE}(hl:PE X l tl):PI X tg l (Ec tl):=by
 intro af s σ H R I h;refine aM (hl af s σ H _ I h) λv s1 ⟨x,H1,I1,r1,q1⟩=>?_;obtain⟨z,e,q⟩:=q1;subst e;obtain⟨t,rfl⟩:=r1;cases ha:z.cps.all (· < 128)
 ·refine wpAny_pyIter_wide ha ?_;refine⟨s1.heap.objs.size,[s1.heap.objs.size],_,oM z,H1,rfl,I1.kept (t':=s1.toks) λb o e=>br _ e,HR _ z t "str_iterator" (by decide) (λA' hA=>Walks.strWide hA _ z t) (λ_ _ _ _ _ st hQ=>wpAny_pyIter_striter_wide st hQ),⟨_,dj _ rfl,rfl,rfl⟩,λb hb=>?_,q⟩;have e:b=s1.heap.objs.size:=by simpa using hb
  subst e;exact I1.jd (bu _) (I1.hok.fresh (bu _))
 ·refine wpAny_pyIter_ascii ha ?_;refine⟨s1.heap.objs.size,[s1.heap.objs.size],_,oM z,H1,rfl,I1.kept (t':=s1.toks) λb o e=>br _ e,HR _ z t "str_ascii_iterator" (by decide) (λA' hA=>Walks.strAscii hA _ z t) (λ_ _ _ _ _ st hQ=>wpAny_pyIter_striter_ascii st hQ),⟨_,dj _ rfl,rfl,rfl⟩,λb hb=>?_,q⟩;have e:b=s1.heap.objs.size:=by simpa using hb
  subst e;exact I1.jd (bu _) (I1.hok.fresh (bu _))
theorem Dx:∀{bs:List Bool} {us:List ah},Vals (bs.map V.bl) us->us=bs.map jh
 |[],_,.nil=>rfl
 |b::r,_,.cons q t=>by rw[Dx t,show _=jh b from q];rfl
theorem range_all(bs:List Bool):(bx bs.length).all (λi=>bs.getD i false)=bs.all id:=by
 induction bs with
 |nil=>rfl
 |cons b r ih=>
  rw[dq,JN,ya,sJ,ya]
  congr 1
def Em(K:aB)(f:List Bool->Bool):List V->Hp->VK->Prop:=λxs H Q=>∃a bs,xs=[.ref a]/\dO K H a (bs.map V.bl)/\Q (.bl (f bs)) H
theorem Qd{P:aW}{w:aQ}{A:a7}(bs:List Bool):TruthOf P w A (λi v=>(bs.map jh).toArray[i]? = aa v) (λi=>bs.getD i false):=by
 intro i v s Q E hv hq;have:v=.bool (bs.getD i false):=by
  rw[List.getElem?_toArray,eE]at hv;cases hb:bs[i]? with
  |none=>rw[hb]at hv;cases hv
  |some b=>
   rw[hb]at hv;rw[fk,hb];exact(gZ hv).symm
 subst this;exact lP hq
theorem FE(hc:X.calm=true):fj X (.builtin "all") (Em X.K (·.all id)):=by
 intro af s σ H xs us Q I r h;obtain⟨a,bs,rfl,hq,q⟩:=h;obtain⟨u,rfl,ru⟩:=vals1 r;cases ru;obtain⟨am,rv,p,hz⟩:=I.list hq;have e:=Dx rv;subst e;have hlt:a<s.heap.objs.size:=by obtain⟨o,n,e,_⟩:=p;exact bE e
 refine call_all_walk (xE p.isList ⟨_,_,_,_,_,_,λi=>bs.getD i false,rfl,Walks.list (A:=X.A.in1) (I.ok.hd hc) _ a (eF hlt) (bs.map jh).toArray,⟨⟨_,dj _ rfl,rfl,rfl⟩,(p.keeps λb o e=>br _ e).isList⟩,Qd bs,λh' tk kk=>?_⟩);refine⟨.bl (bs.all id),H,I.kept λb o e=>kk b o (by simpa using eF (bE e)) (br _ e),?_,q⟩;show jh _=jh _;rw[<- range_all];simp
theorem Pa:cq X (compareOp .Gt) (λx y H Q=>∃i j,x=.str i/\y=.str j/\Q (.bl (decide (j.cps.toList<i.cps.toList))) H):=by intro af s σ H x y v u Q I rx ry h;obtain⟨i,j,rfl,rfl,q⟩:=h;obtain⟨t,rfl⟩:=rx;obtain⟨t',rfl⟩:=ry;exact PySem.P.gt_str (tQ I q rfl)
def rQ(x:Str)(lo hi:Option Int):Str:=⟨((x.cps.toList.drop (HT.c7 x.length 0 lo)).take (HT.c7 x.length x.length hi-HT.c7 x.length 0 lo)).toArray⟩
theorem Qr(lo hi:Option Int)(n:Nat):Kw lo hi 1 n=(bx (HT.c7 n n hi-HT.c7 n 0 lo)).map (λk=>HT.c7 n 0 lo+k):=by
 have h1:∀(v:Option Int) (d:Nat),d<=n->(match v with|none=>(d:Int)|some i=>max 0 (min (if i<0 then i+(n:Int)else i) (n:Int)))=((HT.c7 n d v:Nat):Int):=by
  intro v d hd;cases v with
  |none=>rfl
  |some i=>
   show max 0 (min (if i<0 then i+(n:Int)else i) (n:Int))=(((if i<0 then(i+(n:Int)).toNat else min i.toNat n):Nat):Int);by_cases hv:i<0
   ·simp only[aF hv];omega
   ·simp only[aG hv];omega
 have fin:∀(p q:Int) (a b:Nat),p=(a:Int)->q=(b:Int)->sliceRange p q 1=(bx (b-a)).map (λk=>a+k):=by
  intro p q a b e1 e2;subst e1 e2;unfold sliceRange;simp only[show((1:Int)>0)=True from by simp,gi];by_cases hlt:(a:Int)<b
  ·have e3:(((b:Int)-a+1-1)/1).toNat=b-a:=by first|omega|(simp;done)|(simp;omega)
   simp only[hlt,gi,e3];refine BO λk _=>?_;omega
  ·have:b-a=0:=by omega
   simp[hlt,this]
 unfold Kw;refine fin _ _ _ _ ?_ ?_
 ·have:=h1 lo 0 (ft _);cases lo with
  |none=>exact this
  |some i=>exact this
 ·have:=h1 hi n (bu _);cases hi with
  |none=>exact this
  |some i=>exact this
theorem RQ(x:Str)(lo hi:Option Int):Txt.slice x lo hi=rQ x lo hi:=by
 have hle:HT.c7 x.length x.length hi<=x.length:=HT.FU _ _ (bu _) hi;have ha:HT.c7 x.length 0 lo<=x.length:=HT.FU _ _ (ft _) lo;unfold Txt.slice rQ;rw[Qr];generalize HT.c7 x.length 0 lo=a at *;generalize HT.c7 x.length x.length hi=b at *;have hp:((bx (b-a)).map (λk=>a+k)).filterMap (λi=>x.cps[i]?)=(x.cps.toList.drop a).take (b-a):=by have h:=StrLaws.picks x.cps.toList (b-a) a (by simp[qt]at hle ha ⊢;omega);simpa using h
 split
 ·rename_i h;simp only[be,sE,iH,B6,f7]at h;have e:a=0\/x.length=0:=by omega
  have e2:(x.cps.toList.drop a).take (b-a)=x.cps.toList:=by
   rw[h];rcases e with e|e
   ·subst e;rw[sI];exact sB (by simp[qt])
   ·have:x.cps.toList=[]:=BG (by simpa [qt]using e);rw[this];simp
  rw[e2]
 ·rw[hp]
def Ep:V->Option Int->Option Int->Hp->VK->Prop:=λx lo hi H Q=>∃z,x=.str z/\z.length<=sizeLine/\Q (.str (rQ z lo hi)) H
theorem PY:nM X Ep:=by
 intro af s σ H x v vl vu lo hi sl Q I rx hs pl pu h;obtain⟨z,rfl,hz,q⟩:=h;obtain⟨t,rfl⟩:=rx;have fin:∀(l u:Option (Int×Tok)),vl=partValue l->vu=partValue u->lo=l.map (·.1)->hi=u.map (·.1) ->
  wpAny (model X.prog X.w) X.A (getItem (.str z t) (.ref sl)) (EP X af σ Q) X.xe s:=by
  intro l u e1 e2 e3 e4;subst e1 e2 e3 e4;refine wpAny_getItem_str_slice (l:=l) (u:=u) (st:=ae) hs rfl ?_;refine post_val_or_str ⟨d9 (Txt.slice_le z _ _) hz,λt' k=>?_⟩;refine⟨.str (rQ z _ _),H,I.tok k,⟨t',?_⟩,q⟩;show l0 (Txt.slice z _ _) t'=_;rw[RQ]
 refine⟨"str", _,F.slot_str_getitem.lookup,typeIs_str _ _ _,?_⟩;cases pl with
 | none=>cases pu with
  |none=>exact fin ae ae rfl rfl rfl rfl
  |int j tj=>exact fin ae (aa (j,tj)) rfl rfl rfl rfl
 | int i ti=>cases pu with
  |none=>exact fin (aa (i,ti)) ae rfl rfl rfl rfl
  |int j tj=>exact fin (aa (i,ti)) (aa (j,tj)) rfl rfl rfl rfl
def GO(neg:Bool):R2:=λx y H Q=>∃c z,x=sgn c/\y=.str z/\Q (.bl (if neg then !decide (c∈z.cps.toList)else decide (c∈z.cps.toList))) H
theorem Pw:cq X (compareOp .In) (GO false):=by intro af s σ H x y v u Q I rx ry h;obtain⟨c,z,rfl,rfl,q⟩:=h;refine Ob af s σ H _ _ v u Q I rx ry ⟨_,z,rfl,rfl,?_⟩;rw[StrLaws.found_one];exact q
def Iz(K:aB):List V->Hp->VK->Prop:=λxs H Q=>∃x t T b,xs=[x,.ty T]/\gP K H x t/\bO K t (.type T)=aa b/\Q (.bl b) H
theorem jz:fj X (.builtin "isinstance") (Iz X.K):=by intro af s σ H xs us Q I r h;obtain⟨x,t,T,b,rfl,ty,e,q⟩:=h;obtain⟨u,w',rfl,rx,rt⟩:=vals2 r;cases(show w'=sK T from rt);exact OF I rx ty e λtk=>⟨.bl b,H,I.tok tk,rfl,q⟩
end
def Dw(osc:dM)(N N':List Str)(ρ:List (Option Nat))(sc:dM):Bool:=
 sc.names.all (λy=>!(decide (y.2=.cell)))&&sc.names.all (λy=>!(decide (y.2=.local))||decide (sc.names.lookup y.1=aa .local)) &&
 sc.names.all (λy=>!(decide (y.2=.free))||(decide (osc.names.lookup y.1=aa .cell)||decide (osc.names.lookup y.1=aa .free))) &&
 decide (ρ.length=N'.length)&&(bx ρ.length).all λi=>match ρ[i]? with
  |some (aa j)=>(match N'[i]? with|some x=>decide (N[j]? = aa x)&&decide (sc.names.lookup x=aa .free)|none=>false)
  |_=>true
theorem dP.of{X:Cx}{N':List Str}{ρ:List (Option Nat)}{sc:dM}(hk:sc.kind=.function)(h:Dw X.env.scope X.N N' ρ sc=true):dP X N' ρ sc:=by
 unfold Dw at h;simp only[lY,sG,Bool.or_eq_true,J0,jX,rA]at h;obtain⟨⟨⟨⟨h1,h2⟩,h3⟩,h4⟩,h5⟩:=h;refine⟨hk,λy hy=>h1 y hy,λy hy e=>(h2 y hy).resolve_left (λz=>z e),λy hy e=>(h3 y hy).resolve_left (λz=>z e),h4,λi j e=>?_⟩;have hi:i < ρ.length:=(dm.mp e).1;have q:=h5 i (fq.mpr hi);rw[e]at q;cases hN:N'[i]? with
 |none=>rw[hN]at q;cases q
 |some x=>
  rw[hN]at q;simp only[lY,jX]at q;exact⟨x,rfl,q.1,q.2⟩
structure bR(P:aW)(w:aQ)(K:aB)(mg:Str->Option ah)(base:ay)(CX:fR)(k:Nat)(x:Str)(ps:List Str)(sp:Sp):Prop where
 ex:∃(f:ag) (fd:bA),mg x=aa (.ref f)/\jB K (.ref f)=true/\Binds K fd ps []/\bw P w K mg base CX k f fd ps sp
theorem jq{X:Cx}{CX:fR}{k:Nat}{x:Str}{ps:List Str}{sp:Sp}{E:XK}{e:aO}{es:List aO}{t:TA}{p pos:Pos}(C:bR X.prog X.w X.K X.mg X.base CX k x ps sp)(hr:cA k X.A)(hg:Gl X x)(hx:uN CX X E)
 (ha:PA X (e::es) t) (hdb:(x==("__debug__" : Str))=false:=by decide) (he:starEach (e::es) X.env=(false,eval e X.env)::starEach es X.env:=by rfl) (hpl:(backTo pos (starEach es X.env)).any (·.1)=false:=by rfl) :
 PE X (.Call (.Name x p) (e::es) [] pos) (lK sp [] E t):=by
 obtain⟨f,fd,hm,hk,hb,F⟩:=C.ex;exact Sb F hr hg hm hk hb .nil hx ha hdb he hpl
theorem gp{X:Cx}{x:Str}{T:String}{pos:Pos}(hg:Gl X x)(hm:X.mg x=ae)(hv:bootBuiltins x=aa (.type T))(hn:x ≠ "__name__" := by decide)(hd:(x==("__debug__" : Str))=false:=by decide):PE X (.Name x pos) (tC (.ty T)):=QH hg hm hv rfl hn hd
structure da(K:aB)(mg:Str->Option ah)(x:Str)(st:bj)(ps:List Str):Prop where
 ex:∃(f:ag) (fd:bA),mg x=aa (.ref f)/\jB K (.ref f)=true/\Binds K fd ps []/\(∀(s:ak) (us:List ah),us.length=ps.length->ng s fd ⟨us,[]⟩ (ps.zip us))/\bN K x x st f fd
theorem HY{K:aB}{h:ay}{mg:Str->Option ah}{x:Str}{st:bj}{ps:List Str}{f:ag}{oc:ah}{od an:Option ag}{osl:Array (Option ah)}{kV doc pm cdv ct:ah}(X:K.In h)(G:h.Ns mainGlobals mg)
 (hb:∀(kV doc pm:ah) (an:Option ag) (cdv ct:ah) (us:List ah),us.length=ps.length->bindArgs (iK x x (kU st) (gL st) (bC st) .none kV doc pm an cdv ct) ⟨us,[]⟩=pure (ps.zip us))
 (a:bT K mainGlobals x=aa (aa (.ref f))) (l:K.lookup f=aa ⟨oc,od,.func (iK x x (kU st) (gL st) (bC st) .none kV doc pm an cdv ct),osl⟩)
 (c:ou K cdv x=true) (k:jB K (.ref f)=true):da K mg x st ps:=by
 have F:=vM (st:=st) l c k;exact⟨f,_,eR X G a,k,F.binds hb,λs us hl=>.of_eq (hb kV doc pm an cdv ct us hl),F⟩
theorem da.cal{P:aW}{w:aQ}{K:aB}{mg:Str->Option ah}{base:ay}{CX:fR}{k:Nat}{x:Str}{st:bj}{ps:List Str}{sp:Sp}(F:da K mg x st ps)(h:∀f fd,bN K x x st f fd->bw P w K mg base CX k f fd ps sp) :
 bR P w K mg base CX k x ps sp:=by
 obtain⟨f,fd,h1,h2,h3,_,h4⟩:=F.ex;exact⟨f,fd,h1,h2,h3,h f fd h4⟩
end L2
namespace Mi
open PySem
inductive D where
 |non|bl (b:Bool)|int (i:Int)|str (x:Str)|lst (ds:List D)|tup (ds:List D)
mutual
def D.dep:D->Nat
 |.lst ds=>dH ds+1
 |.tup ds=>dH ds+1
 |_=>0
def dH:List D->Nat
 |[]=>0
 |d::r=>max d.dep (dH r)
end
mutual
/-- Python's == -/
def bz:D->D->Bool
 |.non,.non=>true
 |.bl a,.bl b=>a==b
 |.bl a,.int b=>(if a then 1 else 0)==b
 |.int a,.bl b=>a==(if b then 1 else 0)
 |.int a,.int b=>a==b
 |.str a,.str b=>a==b
 |.lst a,.lst b=>d3 a b
 |.tup a,.tup b=>d3 a b
 |_,_=>false
def d3:List D->List D->Bool
 |[],[]=>true
 |a::r,b::s=>bz a b&&d3 r s
 |_,_=>false
end
mutual
/-- no list in it -/
def mW:D->Bool
 |.lst _=>false
 |.tup ds=>xo ds
 |_=>true
def xo:List D->Bool
 |[]=>true
 |d::r=>mW d&&xo r
end
def eX(n:Nat)(i:Int):Option Nat:=if 0<=i then(if i<n then aa i.toNat else ae)else if -(n:Int)<=i then aa (i+n).toNat else ae
def dC{α:Type}(xs:List α)(i:Int):Option α:=(eX xs.length i).bind λj=>xs[j]?
def c7(n d:Nat):Option Int->Nat
 |none=>d
 |some v=>if v<0 then(v+(n:Int)).toNat else min v.toNat n
def jZ{α:Type}(xs:List α)(lo hi:Option Int):List α:=(xs.drop (c7 xs.length 0 lo)).take (c7 xs.length xs.length hi-c7 xs.length 0 lo)
abbrev Ky:=Sum Bool Str
structure Kp where
 a:Nat
 c:Nat
 q:Str
 ga:List Nat
 deriving DecidableEq
inductive W where
 |d (x:D)|dk (ao:List (Ky×D))|dt (ao:List (List Ky×D))|df (ao:List (List Ky×D))|ex (c:String)|fn (κ:Kp) (Cq:List D)|xr (c:String) (x:D)
abbrev Env:=List (Option W)
structure di where
 cls:String
 val:List D
inductive Rs(α:Type) where
 |ok (a:α)|ex (x:di)|no
noncomputable def Rs.bind{α β:Type}:Rs α->(α->Rs β)->Rs β
 |.ok a,f=>f a
 |.ex x,_=>.ex x
 |.no,_=>.no
@[simp] theorem aE {α β:Type} (a:α) (f:α->Rs β):(Rs.ok a).bind f=f a:=rfl
@[simp] theorem Ut {α β:Type} (x:di) (f:α->Rs β):(Rs.ex x).bind f=.ex x:=rfl
@[simp] theorem Ux {α β:Type} (f:α->Rs β):(Rs.no).bind f=.no:=rfl
def Fin{α:Type}(r:Rs α)(k:α->Prop):Prop:=match r with
 |.ok a=>k a
 |_=>False
theorem aw{α β:Type}{r:Rs α}{f:α->Rs β}{k:β->Prop}:Fin (r.bind f) k↔Fin r λa=>Fin (f a) k:=by cases r<;>exact Iff.rfl
theorem Fin.mono{α:Type}{r:Rs α}{k k':α->Prop}(h:Fin r k)(m:∀a,k a->k' a):Fin r k':=by
 cases r with
 |ok a=>exact m a h
 |ex x=>exact h
 |no=>exact h
theorem pF{α:Type}{r s:Rs α}{k:α->Prop}(h:Fin (if true=true then r else s) k):Fin r k:=by simpa using h
theorem pz{α:Type}{r s:Rs α}{k:α->Prop}(h:Fin (if false=true then r else s) k):Fin s k:=by simpa using h
theorem lD{α:Type}{a:α}{k:α->Prop}(h:Fin (.ok a) k):k a:=h
def dh{α:Type}:Option α->Rs α
 |some a=>.ok a
 |none=>.no
def ba{α:Type}(c:Prop)[Decidable c](r:Rs α):Rs α:=if c then r else .no
theorem aK{α:Type}{c:Prop}[Decidable c]{r:Rs α}(h:c):ba c r=r:=aF h
theorem cK{α:Type}{c:Prop}[Decidable c]{r:Rs α}{k:α->Prop}(h:Fin (ba c r) k):c/\Fin r k:=by
 unfold ba at h;split at h
 ·exact⟨‹_›,h⟩
 ·exact h.elim
abbrev E:=Env->Rs D
abbrev C:=Env->Rs Bool
def mC(d:D):E:=λ_=>.ok d
def mV(i:Nat):E:=λe=>match e[i]? with
 |some (aa (.d x))=>.ok x
 |_=>.no
def m1(f:D->Rs D)(a:E):E:=λe=>(a e).bind f
def m2(f:D->D->Rs D)(a b:E):E:=λe=>(a e).bind λx=>(b e).bind λy=>f x y
def iI:List E->Env->Rs (List D)
 |[],_=>.ok []
 |a::r,e=>(a e).bind λx=>(iI r e).bind λxs=>.ok (x::xs)
def mN(f:List D->Rs D)(as:List E):E:=λe=>(iI as e).bind f
def dTup(ds:List D):Rs D:=ba (ds.length<=16777216) (.ok (.tup ds))
def cF(ds:List D):Rs D:=ba (ds.length<=16777216) (.ok (.lst ds))
def s0:D->Rs Bool
 |.bl b=>.ok b
 |_=>.no
def n5(a b:E):E:=λe=>(a e).bind λx=>(s0 x).bind λc=>if c=true then b e else .ok (.bl false)
def jQ(f g:D->D->Rs D)(a b c:E):E:=λe=>(a e).bind λx=>(b e).bind λy=>(f x y).bind λz=>(s0 z).bind λk=>if k=true then(c e).bind λw=>g y w else .ok (.bl false)
def rh:D->Rs Int
 |.int i=>.ok i
 |_=>.no
def kM:Option E->Env->Rs (Option Int)
 |none,_=>.ok ae
 |some a,e=>(a e).bind λx=>(rh x).bind λi=>.ok (aa i)
def nS(x:Str)(lo hi:Option Int):Str:=⟨(jZ x.cps.toList lo hi).toArray⟩
def fL(x:D)(lo hi:Option Int):Rs D:=match x with
 |.lst ds=>.ok (.lst (jZ ds lo hi))
 |.str z=>ba (z.length<=16777216) (.ok (.str (nS z lo hi)))
 |_=>.no
def eO(f:D->Option Int->Option Int->Rs D)(a:E)(lo hi:Option E):E:=λe=>(a e).bind λx=>(kM lo e).bind λl=>(kM hi e).bind λh=>f x l h
def cB(a:E):C:=λe=>(a e).bind s0
def lu(a b:C):C:=λe=>(a e).bind λc=>if c=true then b e else .ok false
def fA(a b:C):C:=λe=>(a e).bind λc=>if c=true then .ok true else b e
def c9(a:C):C:=λe=>(a e).bind λc=>.ok (!c)
def P9:D->Rs Bool
 |.non=>.ok false
 |.bl b=>.ok b
 |.int i=>.ok (i != 0)
 |.str y=>ba (y.length<=16777216) (.ok ((y.length:Int) != 0))
 |.lst ds=>.ok (!ds.isEmpty)
 |.tup ds=>.ok (!ds.isEmpty)
def qH(a:E):C:=λe=>(a e).bind P9
abbrev I:=Env->Rs (List D)
def uK:D->Rs (List D)
 |.lst ds=>.ok ds
 |.tup ds=>.ok ds
 |.str x=>.ok (x.cps.toList.map λc=>.str ⟨#[c]⟩)
 |_=>.no
def bM(a:E):I:=λe=>(a e).bind uK
def dJ(lo hi:Int):List D:=(bx (hi-lo).toNat).map λk=>.int (lo+(k:Nat))
def okR(i:Int):Prop:=-(2 ^ 62)<=i/\i<2 ^ 62
instance (i:Int):Decidable (okR i):=inferInstanceAs (Decidable (_/\_))
def eG(a:E):I:=λe=>(a e).bind λx=>(rh x).bind λj=>ba (okR j) (.ok (dJ 0 j))
def DP:D->Rs (List D)
 |.lst ds=>.ok ds
 |_=>.no
def jp:List D->List D->List D
 |a::r,b::s=>.tup [a,b]::jp r s
 |_,_=>[]
inductive Tg where
 |n (i:Nat)|t (is:List Nat)
def mj:List Nat->List D->Env->Rs Env
 |[],[],e=>.ok e
 |i::is,d::ds,e=>mj is ds (e.set i (aa (.d d)))
 |_,_,_=>.no
def Tg.put:Tg->D->Env->Rs Env
 |.n i,d,e=>.ok (e.set i (aa (.d d)))
 |.t is,.tup ds,e=>mj is ds e
 |_,_,_=>.no
def jG(ρ:List (Option Nat))(e:Env):Env:=ρ.map λo=>o.bind λj=>(e[j]?).join
def dG(tg:Tg)(c:C)(a:E)(e:Env):List D->Rs (List D)
 |[]=>.ok []
 |x::r=>(tg.put x e).bind λe1=>(c e1).bind λk=>if k=true then(a e1).bind λy=>(dG tg c a e r).bind λys=>.ok (y::ys)else dG tg c a e r
def cU:C:=λ_=>.ok true
def bX(ρ:List (Option Nat))(it:I)(tg:Tg)(c:C)(a:E):E:=λe=>(it e).bind λxs=>ba (xs.length<=16777216) ((dG tg c a (jG ρ e) xs).bind λys=>.ok (.lst ys))
abbrev Fn:=List W->Rs W
abbrev EW:=Env->Rs W
def wD(a:E):EW:=λe=>(a e).bind λx=>.ok (.d x)
def wV(i:Nat):EW:=λe=>match e[i]? with
 |some (aa w)=>.ok w
 |_=>.no
def cO:List EW->Env->Rs (List W)
 |[],_=>.ok []
 |a::r,e=>(a e).bind λx=>(cO r e).bind λxs=>.ok (x::xs)
def lC(f:Fn)(as:List EW):EW:=λe=>(cO as e).bind f
def vP:W->Rs D
 |.d x=>.ok x
 |_=>.no
def bp(f:Fn)(as:List EW):E:=λe=>(lC f as e).bind vP
def Jj:W->Rs D
 |.d x=>ba (mW x=true) (.ok x)
 |_=>.no
def oN(f:Fn)(as:List EW):E:=λe=>(lC f as e).bind Jj
inductive Out where
 |nx (e:Env)|rt (w:W)|bk (e:Env)|ct (e:Env)
abbrev S:=Env->Rs Out
def bf:S:=λe=>.ok (.nx e)
def aA(s t:S):S:=λe=>(s e).bind λo=>match o with
 |.nx e'=>t e'
 |o=>.ok o
def nQ(i:Nat)(a:EW):S:=λe=>(a e).bind λw=>.ok (.nx (e.set i (aa w)))
def bc(i:Nat)(a:E):S:=λe=>(a e).bind λd=>.ok (.nx (e.set i (aa (.d d))))
def pH(a:E):S:=λe=>(a e).bind λ_=>.ok (.nx e)
def bG(a:EW):S:=λe=>(a e).bind λw=>.ok (.rt w)
def a9(c:C)(s t:S):S:=λe=>(c e).bind λk=>if k=true then s e else t e
def m9:S:=λ_=>.no
def dB(tg:Tg)(body:S):List D->Env->Rs Out
 |[],e=>.ok (.nx e)
 | x::r,e=>(tg.put x e).bind λe1=>(body e1).bind λo=>match o with
  |.nx e2=>dB tg body r e2
  |.ct e2=>dB tg body r e2
  |.bk e2=>.ok (.nx e2)
  |.rt w=>.ok (.rt w)
def eM(it:I)(tg:Tg)(body:S):S:=λe=>(it e).bind λxs=>dB tg body xs e
def ik(c:C)(body:S):Nat->Env->Rs Out
 |0,_=>.no
 | n+1,e=>(c e).bind λk=>if k=true then(body e).bind λo=>match o with
  |.nx e2=>ik c body n e2
  |.ct e2=>ik c body n e2
  |.bk e2=>.ok (.nx e2)
  |.rt w=>.ok (.rt w)
  else .ok (.nx e)
def uP(n:Nat)(c:C)(body:S):S:=ik c body n
def getL(e:Env)(i:Nat):Rs (List D):=match e[i]? with
 |some (aa (.d (.lst ds)))=>.ok ds
 |_=>.no
def putL(e:Env)(i:Nat)(ds:List D):Env:=e.set i (aa (.d (.lst ds)))
def fe(i:Nat)(a:E):S:=λe=>(a e).bind λd=>(getL e i).bind λds=>ba (ds.length<16777216) (.ok (.nx (putL e i (ds++[d]))))
def vY(ds:List D)(i:Int):Rs (D×List D):=ba (-(2 ^ 63)<=i/\i<2 ^ 63) ((dh (eX ds.length i)).bind λk=>(dh ds[k]?).bind λd=>.ok (d,ds.eraseIdx k))
def wa(x y:Nat)(k:E):S:=λe=>(k e).bind λz=>(rh z).bind λi=>(getL e y).bind λds=>(vY ds i).bind λp=>(getL (putL e y p.2) x).bind λes=>
 ba (es.length<16777216) (.ok (.nx (putL (putL e y p.2) x (es++[p.1]))))
def vE(x:Nat)(k a:E):S:=λe=>(a e).bind λd=>(k e).bind λz=>(rh z).bind λi=>(getL e x).bind λds=>(dh (eX ds.length i)).bind λj=>.ok (.nx (putL e x (ds.set j d)))
def rE:D->Option Ky
 |.bl i=>aa (.inl i)
 |.str x=>aa (.inr x)
 |_=>ae
def pq:List D->Option (List Ky)
 |[]=>aa []
 | d::r=>match rE d,pq r with
  |some k,aa ks=>aa (k::ks)
  |_,_=>ae
def j3{κ:Type}[DecidableEq κ](ao:List (κ×D))(k:κ):Option D:=(ao.find? λkv=>decide (kv.1=k)).map (·.2)
def IR(w:W)(k:D):Rs (Option D):=match w with
 |.dk ao=>(dh (rE k)).bind λk=>.ok (j3 ao k)
 | .dt ao=>match k with
  |.tup ds=>(dh (pq ds)).bind λk=>.ok (j3 ao k)
  |_=>.no
 | .df ao=>match k with
  |.tup ds=>(dh (pq ds)).bind λk=>.ok (j3 ao k)
  |_=>.no
 |_=>.no
def putK{κ:Type}[DecidableEq κ](k:κ)(v:D)(ao:List (κ×D)):List (κ×D):=if(ao.any λkv=>decide (kv.1=k))=true then ao.map (λkv=>if kv.1=k then(kv.1,v)else kv)else ao++[(k,v)]
def y3(w:W)(k v:D):Rs W:=match w with
 |.dk ao=>ba (ao.length<16777216) ((dh (rE k)).bind λk=>.ok (.dk (putK k v ao)))
 | .dt ao=>match k with
  |.tup ds=>ba (ao.length<16777216) ((dh (pq ds)).bind λk=>.ok (.dt (putK k v ao)))
  |_=>.no
 |_=>.no
def g7(i:Nat)(k:E):E:=λe=>(k e).bind λd=>(wV i e).bind λw=>(IR w d).bind λo=>.ok (.bl o.isSome)
def fV(i:Nat)(k v:E):S:=λe=>(v e).bind λx=>(k e).bind λd=>(wV i e).bind λw=>(y3 w d x).bind λw'=>.ok (.nx (e.set i (aa w')))
def j2:Out->Rs W
 |.rt w=>.ok w
 |.nx _=>.ok (.d .non)
 |_=>.no
def dF(k n:Nat)(body:S):Fn:=λws=>ba (ws.length=k) ((body (ws.map aa++c8 (n-ws.length) ae)).bind j2)
def my:Out->Rs W
 |.rt w=>.ok w
 |_=>.no
def jr(k n:Nat)(body:S):Fn:=λws=>ba (ws.length=k) ((body (ws.map aa++c8 (n-ws.length) ae)).bind my)
def GG:Fn:=λ_=>.no
def mM(i j:Int):Prop:=(-(2 ^ 64)<i/\i<2 ^ 64)\/(-(2 ^ 64)<j/\j<2 ^ 64)
instance (i j:Int):Decidable (mM i j):=inferInstanceAs (Decidable (_\/_))
def mH(j:Int):Prop:=0<j/\j.natAbs.log2<9000
instance (j:Int):Decidable (mH j):=inferInstanceAs (Decidable (_/\_))
def PX(i j:Int):Prop:=0<=j/\j<=1000000/\i.natAbs<2 ^ 64
instance (i j:Int):Decidable (PX i j):=inferInstanceAs (Decidable (_/\_))
def bv:D->D->Rs D
 |.int i,.int j=>.ok (.int (i+j))
 |.str i,.str j=>ba (i.length+j.length<=16777216) (.ok (.str (i++j)))
 |.lst i,.lst j=>ba (i.length+j.length<=16777216) (.ok (.lst (i++j)))
 |_,_=>.no
def mJ:D->D->Rs D
 |.int i,.int j=>.ok (.int (i-j))
 |_,_=>.no
def cv:D->D->Rs D
 |.int i,.int j=>ba (mM i j) (.ok (.int (i*j)))
 |_,_=>.no
def cJ:D->D->Rs D
 |.int i,.int j=>ba (mH j) (.ok (.int (i/j)))
 |_,_=>.no
def bq:D->D->Rs D
 |.int i,.int j=>ba (0<j) (.ok (.int (i%j)))
 |_,_=>.no
def fG:D->D->Rs D
 |.int i,.int j=>.ok (.bl (decide (i<j)))
 |.str i,.str j=>.ok (.bl (decide (i.cps.toList<j.cps.toList)))
 |_,_=>.no
def mY:D->D->Rs D
 |.int i,.int j=>.ok (.bl (decide (j<i)))
 |.str i,.str j=>.ok (.bl (decide (j.cps.toList<i.cps.toList)))
 |_,_=>.no
def fK:D->D->Rs D
 |.int i,.int j=>.ok (.bl (decide (i<=j)))
 |_,_=>.no
def fw(x y:D):Rs D:=ba (x.dep<=16) (.ok (.bl (bz x y)))
def dQ(x y:D):Rs D:=ba (x.dep<=16) (.ok (.bl (!bz x y)))
def tu:D->Bool
 |.non=>true
 |_=>false
def wg(x y:D):Rs D:=match y with
 |.non=>.ok (.bl (!tu x))
 |_=>.no
def dA(x y:D):Rs D:=match y with
 |.lst ds=>ba (dH ds<=16) (.ok (.bl (ds.any λe=>bz e x)))
 |.tup ds=>ba (dH ds<=16) (.ok (.bl (ds.any λe=>bz e x)))
 | .str z=>match x with
  |.str s=>ba (s.length=1) (.ok (.bl (decide (s.cps.getD 0 0∈z.cps.toList))))
  |_=>.no
 |_=>.no
def eB(x y:D):Rs D:=match y with
 |.lst ds=>ba (dH ds<=16) (.ok (.bl (!ds.any λe=>bz e x)))
 |.tup ds=>ba (dH ds<=16) (.ok (.bl (!ds.any λe=>bz e x)))
 |_=>.no
def aL(x y:D):Rs D:=match x,y with
 |.lst ds,.int i=>dh (dC ds i)
 |.tup ds,.int i=>dh (dC ds i)
 |.str z,.int i=>ba (z.length<=16777216) ((dh (dC z.cps.toList i)).bind λc=>.ok (.str ⟨#[c]⟩))
 |_,_=>.no
def bH:List D->Rs D
 |[.lst ds]=>.ok (.int ds.length)
 |[.tup ds]=>.ok (.int ds.length)
 |[.str z]=>ba (z.length<=16777216) (.ok (.int z.length))
 |_=>.no
def jn:List D->Rs D
 |[.int i,.int j]=>.ok (.int (max i j))
 |_=>.no
def nH:List D->Rs D
 |[.int i,.int j]=>.ok (.int (min i j))
 |_=>.no
def mf:List D->Option (List Bool)
 |[]=>aa []
 |.bl b::r=>(mf r).map (b :: ·)
 |_=>ae
def nE:List D->Rs D
 |[.lst ds]=>(dh (mf ds)).bind λbs=>.ok (.bl (bs.all id))
 |_=>.no
def ju:List D->Rs D
 |[.lst ds]=>.ok (.lst ds)
 |[.tup ds]=>.ok (.lst ds)
 |_=>.no
def kQ:List D->Rs D
 |[.lst ds]=>.ok (.tup ds)
 |[.tup ds]=>.ok (.tup ds)
 |_=>.no
def qR(t:String):D->Bool
 |.non=>false
 |.bl _=>t == "bool" || t == "int"
 |.int _=>t == "int"
 |.str _=>t == "str"
 |.lst _=>t == "list"
 |.tup _=>t == "tuple"
def yU:D->String
 |.non => "NoneType" | .bl _ => "bool" | .int _ => "int" | .str _ => "str" | .lst _ => "list" | .tup _ => "tuple"
def dE(ts:List String)(x:D):Rs D:=.ok (.bl (ts.any λt=>qR t x))
def kJ:List D->Option (List Str)
 |[]=>aa []
 |.str b::r=>(kJ r).map (b :: ·)
 |_=>ae
def vS(x y:D):Rs D:=match x,y with
 |.str sep,.lst ds=>(dh (kJ ds)).bind λys=>ba ((ys.map (·.length)).sum+ys.length*sep.length<=16777216) (.ok (.str (kB sep ys)))
 |_,_=>.no
def met(val:Nat->Str):Nat->List Str
 |0=>[]
 |i+1=>if val i∈met val i then met val i else met val i++[val i]
end Mi
namespace L2
open PySem PySem.Spec PyProof.Rows
open Mi (D dH bz d3)
mutual
theorem zR:∀d:D,bz d d=true
 |.non=>rfl
 |.bl b=>by simp[bz]
 |.int i=>by simp[bz]
 |.str x=>by simp[bz]
 |.lst ds=>by rw[bz];exact yL ds
 |.tup ds=>by rw[bz];exact yL ds
theorem yL:∀ds:List D,d3 ds ds=true
 |[]=>rfl
 |d::r=>by rw[d3,zR d,yL r];rfl
end
theorem uf:∀{ds es:List D},ds.length≠es.length->d3 ds es=false
 |[],[],h=>absurd rfl h
 |[],_::_,_=>rfl
 |_::_,[],_=>rfl
 |d::r,e::s,h=>by rw[d3,uf (λz=>h (by rw[dq,dq,z])),qq]
theorem uy:∀{ds es:List D},ds.length=es.length->d3 ds es=(bx ds.length).all λj=>bz (ds.getD j .non) (es.getD j .non)
 |[],[],_=>rfl
 |[],_::_,h=>by simp at h
 |_::_,[],h=>by simp at h
 |d::r,e::s,h=>by
  rw[d3,uy (by simpa using h),dq,JN,ya,sJ];rfl
mutual
/-- the value v in the heap H is the tree d -/
def Rep(K:aB)(H:Hp):D->V->Prop
 |.non,v=>v=.non
 |.bl b,v=>v=.bl b
 |.int i,v=>v=.int i
 |.str x,v=>v=.str x
 |.lst ds,v=>∃a xs,v=.ref a/\dO K H a xs/\bi K H ds xs
 |.tup ds,v=>∃a xs,v=.ref a/\ff K H a xs/\bi K H ds xs
def bi(K:aB)(H:Hp):List D->List V->Prop
 |[],vs=>vs=[]
 |d::ds,vs=>∃v r,vs=v::r/\Rep K H d v/\bi K H ds r
end
theorem bi.length{K:aB}{H:Hp}:∀{ds:List D} {vs:List V},bi K H ds vs->ds.length=vs.length
 |[],vs,h=>by rw[bi]at h;subst h;rfl
 |d::ds,vs,h=>by
  rw[bi]at h;obtain⟨v,r,rfl,_,q⟩:=h;rw[dq,dq,bi.length q]
theorem bi.get{K:aB}{H:Hp}:∀{ds:List D} {vs:List V} {j:Nat} {v:V},bi K H ds vs->vs[j]? = aa v->Rep K H (ds.getD j .non) v
 |[],vs,j,v,h,e=>by rw[bi]at h;subst h;simp at e
 |d::ds,vs,0,v,h,e=>by
  rw[bi]at h;obtain⟨v',r,rfl,p,q⟩:=h;simp at e;subst e;exact p
 |d::ds,vs,j+1,v,h,e=>by
  rw[bi]at h;obtain⟨v',r,rfl,p,q⟩:=h;have:=bi.get (j:=j) (v:=v) q (by simpa using e);simpa using this
section
variable{X:Cx}{af:List (ag×Obj)}{σ:St}{H:Hp}{s:ak}
theorem Inv.Gx(I:Inv X af σ H s){a:ag}{xs ys:List V}(h:dO X.K H a xs)(h':ff X.K H a ys):False:=by obtain⟨am,_,p,_⟩:=I.list h;obtain⟨its',_,q,_⟩:=I.tuple h';obtain⟨o,n,e,c,_⟩:=p;obtain⟨o',e',c',_⟩:=q;rw[e]at e';cases e';rw[c]at c';exact absurd (Value.type.inj c') (by decide)
mutual
theorem Rep.inj(I:Inv X af σ H s):∀{d e:D} {v:V},Rep X.K H d v->Rep X.K H e v->d=e
 |.non,e,v,h,h'=>by
  rw[Rep]at h;subst h;cases e<;>rw[Rep]at h'<;>first|rfl|(obtain⟨_,_,z,_⟩:=h';cases z)|cases h'
 |.bl b,e,v,h,h'=>by
  rw[Rep]at h;subst h;cases e<;>rw[Rep]at h'<;>first|(obtain⟨_,_,z,_⟩:=h';cases z)|(cases h';rfl)|cases h'
 |.int b,e,v,h,h'=>by
  rw[Rep]at h;subst h;cases e<;>rw[Rep]at h'<;>first|(obtain⟨_,_,z,_⟩:=h';cases z)|(cases h';rfl)|cases h'
 |.str b,e,v,h,h'=>by
  rw[Rep]at h;subst h;cases e<;>rw[Rep]at h'<;>first|(obtain⟨_,_,z,_⟩:=h';cases z)|(cases h';rfl)|cases h'
 |.lst ds,e,v,h,h'=>by
  rw[Rep]at h;obtain⟨a,xs,rfl,q,r⟩:=h;cases e with
  |lst es=>
   rw[Rep]at h';obtain⟨a',xs',z,q',r'⟩:=h';cases z;rw[I.A8 q' q]at r';rw[bi.inj I r r']
  |tup es=>
   rw[Rep]at h';obtain⟨a',xs',z,q',r'⟩:=h';cases z;exact(I.Gx q q').elim
  |_=>rw[Rep]at h';cases h'
 |.tup ds,e,v,h,h'=>by
  rw[Rep]at h;obtain⟨a,xs,rfl,q,r⟩:=h;cases e with
  |tup es=>
   rw[Rep]at h';obtain⟨a',xs',z,q',r'⟩:=h';cases z;rw[I.yY q' q]at r';rw[bi.inj I r r']
  |lst es=>
   rw[Rep]at h';obtain⟨a',xs',z,q',r'⟩:=h';cases z;exact(I.Gx q' q).elim
  |_=>rw[Rep]at h';cases h'
theorem bi.inj(I:Inv X af σ H s):∀{ds es:List D} {vs:List V},bi X.K H ds vs->bi X.K H es vs->ds=es
 |[],es,vs,h,h'=>by
  rw[bi]at h;subst h;cases es with
  |nil=>rfl
  |cons e es=>rw[bi]at h';obtain⟨_,_,z,_⟩:=h';cases z
 |d::ds,es,vs,h,h'=>by
  rw[bi]at h;obtain⟨v,r,rfl,p,q⟩:=h;cases es with
  |nil=>rw[bi]at h';cases h'
  |cons e es=>
   rw[bi]at h';obtain⟨v',r',z,p',q'⟩:=h';cases z;rw[Rep.inj I p p',bi.inj I q q']
end
theorem Bc:∀{ds:List D} {j:Nat},(ds.getD j .non).dep<=dH ds
 |[],j=>by simp[D.dep]
 |d::ds,0=>by simp[dH];omega
 |d::ds,j+1=>by
  have:=Bc (ds:=ds) (j:=j);have e:(d::ds).getD (j+1) .non=ds.getD j .non:=by simp
  rw[e,dH];omega
def _root_.Mi.D.flat:D->Bool
 |.lst _=>false
 |.tup _=>false
 |_=>true
def _root_.Mi.D.toV:D->V
 |.non=>.non|.bl b=>.bl b|.int i=>.int i|.str x=>.str x|.lst _=>.non|.tup _=>.non
theorem Rep.flat{K:aB}:∀{d:D} {v:V},d.flat=true->Rep K H d v->v=d.toV/\AF v=true
 |.non,v,_,h=>by rw[Rep]at h;subst h;exact⟨rfl,rfl⟩
 |.bl b,v,_,h=>by rw[Rep]at h;subst h;exact⟨rfl,rfl⟩
 |.int b,v,_,h=>by rw[Rep]at h;subst h;exact⟨rfl,rfl⟩
 |.str b,v,_,h=>by rw[Rep]at h;subst h;exact⟨rfl,rfl⟩
 |.lst _,v,z,h=>by cases z
 |.tup _,v,z,h=>by cases z
theorem QW:∀{d e:D},d.flat=true->e.flat=true->bz d e=FY d.toV e.toV:=by intro d e h1 h2;cases d<;>cases e<;>first|rfl|exact absurd (show false=true from h1) dN|exact absurd (show false=true from h2) dN
open SeqAt in
theorem EG(I:Inv X af σ H s):∀(n:Nat) (d e:D) (A:a7) {x y:V} {u u':ah},d.dep<=n->A.units+n<cLine->Rep X.K H d x->Rep X.K H e y->RelV x u->RelV y u'->EqAt A s u u' (bz d e):=by
 intro n
 induction n using Nat.strongRecOn with
 |ind n ih=>
  intro d e A x y u u' hd hu h h' r r';have hu0:A.units<cLine:=by omega
  by_cases hdf:d.flat=true
  ·obtain⟨ex,fx⟩:=h.flat hdf;subst ex;by_cases hef:e.flat=true
   ·obtain⟨ey,fy⟩:=h'.flat hef;subst ey;rw[QW hdf hef];exact RC r r' fx fy
   ·cases e with
    |lst es=>
     rw[Rep]at h';obtain⟨a,xs,rfl,q,_⟩:=h';cases r';obtain⟨am,_,p,_⟩:=I.list q;cases d with
     |non=>cases r;exact EqAt.none_list p.isList hu0
     |bl b=>cases r;exact EqAt.bool_list b p.isList hu0
     |int b=>obtain⟨t,rfl⟩:=r;exact EqAt.int_list b t p.isList hu0
     |str b=>obtain⟨t,rfl⟩:=r;exact EqAt.str_list b t p.isList hu0
     |_=>cases hdf
    |tup es=>
     rw[Rep]at h';obtain⟨a,xs,rfl,q,_⟩:=h';cases r';obtain⟨am,_,p,_⟩:=I.tuple q;cases d with
     |non=>cases r;exact EqAt.none_tuple p hu0
     |bl b=>cases r;exact EqAt.bool_tuple b p hu0
     |int b=>obtain⟨t,rfl⟩:=r;exact EqAt.int_tuple b t p hu0
     |str b=>obtain⟨t,rfl⟩:=r;exact EqAt.str_tuple b t p hu0
     |_=>cases hdf
    |_=>exact absurd rfl hef
  ·by_cases hef:e.flat=true
   ·obtain⟨ey,fy⟩:=h'.flat hef;subst ey;cases d with
    |lst ds=>
     rw[Rep]at h;obtain⟨a,xs,rfl,q,_⟩:=h;cases r;obtain⟨am,_,p,_⟩:=I.list q;cases e with
     |non=>cases r';exact EqAt.list_none p.isList hu0
     |bl b=>cases r';exact EqAt.list_bool b p.isList hu0
     |int b=>obtain⟨t,rfl⟩:=r';exact EqAt.list_int b t p.isList hu0
     |str b=>obtain⟨t,rfl⟩:=r';exact EqAt.list_str b t p.isList hu0
     |_=>cases hef
    |tup ds=>
     rw[Rep]at h;obtain⟨a,xs,rfl,q,_⟩:=h;cases r;obtain⟨am,_,p,_⟩:=I.tuple q;cases e with
     |non=>cases r';exact EqAt.tuple_none p hu0
     |bl b=>cases r';exact EqAt.tuple_bool b p hu0
     |int b=>obtain⟨t,rfl⟩:=r';exact EqAt.tuple_int b t p hu0
     |str b=>obtain⟨t,rfl⟩:=r';exact EqAt.tuple_str b t p hu0
     |_=>cases hef
    |_=>exact absurd rfl hdf
   ·-- both are lists or tuples
    have item:∀{ds es:List D} {xs ys:List V} {am its':List ah},dH ds+1<=n->bi X.K H ds xs->bi X.K H es ys->Vals xs am->Vals ys its' ->
     ∀j (h1:j<am.toArray.size) (h2:j<its'.toArray.size),EqAt A.in1 s am.toArray[j] its'.toArray[j] (bz (ds.getD j .non) (es.getD j .non)):=by
     intro ds es xs ys am its' hn q q' v v' j h1 h2;have h1':j<am.length:=by simpa using h1
     have h2':j<its'.length:=by simpa using h2
     have e1:j<xs.length:=by rw[v.length];exact h1'
     have e2:j<ys.length:=by rw[v'.length];exact h2'
     have g1:xs[j]? = aa xs[j]:=by simp[e1]
     have g2:ys[j]? = aa ys[j]:=by simp[e2]
     obtain⟨w1,k1,r1⟩:=v.get g1;obtain⟨w2,k2,r2⟩:=v'.get g2;have t1:am.toArray[j]=w1:=by obtain⟨_,k1⟩:=dm.mp k1;simpa using k1
     have t2:its'.toArray[j]=w2:=by obtain⟨_,k2⟩:=dm.mp k2;simpa using k2
     rw[t1,t2];have:=Bc (ds:=ds) (j:=j);refine ih (n-1) (by omega) _ _ A.in1 (by omega) ?_ (q.get g1) (q'.get g2) r1 r2;show A.units+1+(n-1)<cLine;omega
    cases d with
    |lst ds=>
     rw[Rep]at h;obtain⟨a,xs,rfl,q,rr⟩:=h;cases r;obtain⟨am,v,p,_⟩:=I.list q;have hn:dH ds+1<=n:=by simpa [D.dep]using hd
     cases e with
     |lst es=>
      rw[Rep]at h';obtain⟨b,ys,rfl,q',rr'⟩:=h';cases r';obtain⟨its',v',p',_⟩:=I.list q';by_cases hab:a=b
      ·subst hab;rw[I.A8 q' q]at rr';rw[bi.inj I rr rr',zR];exact EqAt.same _
      ·have l1:=rr.length;have l2:=rr'.length;have l3:=v.length;have l4:=v'.length;by_cases hl:ds.length=es.length
       ·rw[bz,uy hl];have:=RcAt.lists p.isList p'.isList (by simp;omega) hu0 (item hn rr rr' v v');have e:am.toArray.size=ds.length:=by simp;omega
        rw[e]at this;exact .of_refs hab this
       ·rw[bz,uf hl];exact .of_refs hab (RcAt.lists_lengths p.isList p'.isList (by simp;omega) hu0)
     |tup es=>
      rw[Rep]at h';obtain⟨b,ys,rfl,q',_⟩:=h';cases r';obtain⟨its',_,p',_⟩:=I.tuple q';exact EqAt.list_tuple p.isList p' hu0
     |_=>exact absurd rfl hef
    |tup ds=>
     rw[Rep]at h;obtain⟨a,xs,rfl,q,rr⟩:=h;cases r;obtain⟨am,v,p,_⟩:=I.tuple q;have hn:dH ds+1<=n:=by simpa [D.dep]using hd
     cases e with
     |tup es=>
      rw[Rep]at h';obtain⟨b,ys,rfl,q',rr'⟩:=h';cases r';obtain⟨its',v',p',_⟩:=I.tuple q';by_cases hab:a=b
      ·subst hab;rw[I.yY q' q]at rr';rw[bi.inj I rr rr',zR];exact EqAt.same _
      ·have l1:=rr.length;have l2:=rr'.length;have l3:=v.length;have l4:=v'.length;have R:=RcAt.tuples p p' hu0 (item hn rr rr' v v');have e1:am.toArray.size=ds.length:=by simp;omega
       have e2:its'.toArray.size=es.length:=by simp;omega
       rw[e1,e2]at R;by_cases hl:ds.length=es.length
       ·rw[bz,uy hl];rw[hl,Nat.min_self,iH,Bool.and_true,<- hl]at R;exact .of_refs hab R
       ·rw[bz,uf hl];have:(ds.length==es.length)=false:=by simpa using hl
        rw[this,qq]at R;exact .of_refs hab R
     |lst es=>
      rw[Rep]at h';obtain⟨b,ys,rfl,q',_⟩:=h';cases r';obtain⟨its',_,p',_⟩:=I.list q';exact EqAt.tuple_list p p'.isList hu0
     |_=>exact absurd rfl hef
    |_=>exact absurd rfl hdf
def wL(K:aB)(neg:Bool):R2:=λx y H Q=>∃(p:ag) (xs:List V) (d:D) (ds:List D),y=.ref p/\(dO K H p xs\/ff K H p xs)/\Rep K H d x/\bi K H ds xs/\dH ds<=16 /\
 Q (.bl (if neg then !ds.any (λe=>bz e d)else ds.any (λe=>bz e d))) H
theorem bi.main{K:aB}:∀{ds:List D} {xs:List V} {us:List ah},bi K H ds xs->Vals xs us->∀u∈us,∃b∈ds,∃y,Rep K H b y/\RelV y u
 |[],xs,us,hr,hv,u,hu=>by
  rw[bi]at hr;subst hr;cases hv;cases hu
 |b::bs,xs,us,hr,hv,u,hu=>by
  rw[bi]at hr;obtain⟨y,r,rfl,p,q⟩:=hr;cases hv with
  |cons ry t=>
   rcases bn.mp hu with rfl|hu
   ·exact⟨b,b8,_,p,ry⟩
   ·obtain⟨b',hb',w⟩:=bi.main q t u hu;exact⟨b',cy _ hb',w⟩
theorem bi.any{K:aB}{e:ah->Bool}{f:D->Bool}(key:∀b y u,Rep K H b y->RelV y u->e u=f b):∀{ds:List D} {xs:List V} {us:List ah},bi K H ds xs->Vals xs us->us.any e=ds.any f
 |[],xs,us,hr,hv=>by
  rw[bi]at hr;subst hr;cases hv;rfl
 |b::bs,xs,us,hr,hv=>by
  rw[bi]at hr;obtain⟨y,r,rfl,p,q⟩:=hr;cases hv with
  |cons ry t=>rw[k9,k9,key b y _ p ry,bi.any key q t]
theorem Gm:∀{ds:List D} {b:D},b∈ds->b.dep<=dH ds
 |d::ds,b,h=>by
  rw[dH];rcases bn.mp h with rfl|h
  ·omega
  ·have:=Gm h;omega
open Classical in
theorem vJ(I:Inv X af σ H s){A:a7}(hu:A.units+16<cLine){d:D}{x:V}{v:ah}(hx:Rep X.K H d x)(rx:RelV x v){ds:List D}{xs:List V}{us:List ah}(hd:dH ds<=16)(hr:bi X.K H ds xs)(hv:Vals xs us) :
 ∃e:ah->Bool,(∀u∈us,SeqAt.EqAt A s u v (e u))/\us.any e=ds.any (λb=>bz b d):=by
 have key:∀b y u,Rep X.K H b y->RelV y u->(λu=>decide (∃b y,Rep X.K H b y/\RelV y u/\bz b d=true)) u=bz b d:=by
  intro b y u hb hy;cases hp:bz b d with
  |true=>exact cj ⟨b,y,hb,hy,hp⟩
  |false=>
   refine c6 ?_;rintro⟨b',y',hb',hy',hp'⟩;have:=hy.inj hy';subst this;rw[Rep.inj I hb hb',hp']at hp;cases hp
 refine⟨λu=>decide (∃b y,Rep X.K H b y/\RelV y u/\bz b d=true),λu hu'=>?_,bi.any key hr hv⟩;obtain⟨b,hb,y,rb,ry⟩:=bi.main hr hv u hu';rw[key b y u rb ry];exact EG I 16 b d A (d9 (Gm hb) hd) hu rb hx ry rx
theorem Nk(hu:X.A.units+64<cLine):cq X (compareOp .In) (wL X.K false):=by
 intro af s σ H x y v u Q I rx ry h;obtain⟨p,xs,d,ds,rfl,hq,hx,hr,hd,q⟩:=h;cases ry;have hu1:X.A.in1.units+16<cLine:=by show X.A.units+1+16<cLine;omega
 rcases hq with hq|hq
 ·obtain⟨am,r,pl,hz⟩:=I.list hq;obtain⟨e,he,ea⟩:=vJ I hu1 hx rx hd hr r;refine SeqAt.in_listAt e pl.isList (λw hw=>he w (by simpa using hw)) ⟨.bl _,H,I,rfl,?_⟩;rw[show am.toArray.any e=am.any e by simp,ea];exact q
 ·obtain⟨am,r,pl,hz⟩:=I.tuple hq;obtain⟨e,he,ea⟩:=vJ I hu1 hx rx hd hr r;refine SeqAt.in_tupleAt e pl (λw hw=>he w (by simpa using hw)) ⟨.bl _,H,I,rfl,?_⟩;rw[show am.toArray.any e=am.any e by simp,ea];exact q
theorem oJ(hu:X.A.units+64<cLine):cq X (compareOp .NotIn) (wL X.K true):=by
 intro af s σ H x y v u Q I rx ry h;obtain⟨p,xs,d,ds,rfl,hq,hx,hr,hd,q⟩:=h;cases ry;have hu1:X.A.in1.units+16<cLine:=by show X.A.units+1+16<cLine;omega
 rcases hq with hq|hq
 ·obtain⟨am,r,pl,hz⟩:=I.list hq;obtain⟨e,he,ea⟩:=vJ I hu1 hx rx hd hr r;refine SeqAt.notIn_listAt e pl.isList (λw hw=>he w (by simpa using hw)) ⟨.bl _,H,I,rfl,?_⟩;rw[show am.toArray.any e=am.any e by simp,ea];exact q
 ·obtain⟨am,r,pl,hz⟩:=I.tuple hq;obtain⟨e,he,ea⟩:=vJ I hu1 hx rx hd hr r;refine SeqAt.notIn_tupleAt e pl (λw hw=>he w (by simpa using hw)) ⟨.bl _,H,I,rfl,?_⟩;rw[show am.toArray.any e=am.any e by simp,ea];exact q
end
end L2
namespace L2
open PySem PySem.Spec PyProof.Rows
theorem xq{H:Hp}{p:ag}{o:HO}(hp:H p=ae):cV H (upd H p o):=λb u e=>by rw[av (cQ e hp)];exact e
theorem Et:∀{ys:List Str} {us:List ah},Vals (ys.map V.str) us->StrsAre us ys
 |[],_,.nil=>.nil
 |y::ys,_,.cons r t=>by
  obtain⟨tk,rfl⟩:=(show∃tk,_=l0 y tk from r);exact .cons y tk (Et t)
section
variable{X:Cx}
def rJoin(K:aB):V->List V->Hp->VK->Prop:=λx vs H Q=>∃(sep:Str) (p:ag) (ys:List Str),x=.str sep/\vs=[.ref p]/\dO K H p (ys.map V.str)/\(ys.map (·.length)).sum+ys.length*sep.length<=16777216/\Q (.str (kB sep ys)) H
theorem Hb:nC X "str.join" (rJoin X.K):=by intro af s σ H x vs v us Q I rx rv h;obtain⟨sep,p,ys,rfl,rfl,hq,hz,q⟩:=h;obtain⟨t,rfl⟩:=rx;obtain⟨u,rfl,ru⟩:=rv.one;cases ru;obtain⟨am,r,pl,_⟩:=I.list hq;refine join_list pl.isList (by simpa using Et r) hz λt' k=>⟨.str (kB sep ys),H,I.tok k,⟨t',?_⟩,q⟩;show l0 (Builtin.Str.glued sep ys) t'=_;rw[StrLaws.glued_eq_join]
def Gb(i j:Int):Prop:=0<j/\j.natAbs.log2<9000
theorem j6:cq X (binaryOp .FloorDiv) (rI Gb λi j=>.int (i/j)):=Ad λi j _ _ _ _ _ hc q=>by
 refine floordiv_int (by have:=hc.1;omega) ?_ (.inl (PyProof.noPylong_of_log2 hc.2));rw[Int.fdiv_eq_ediv_of_nonneg i (by have:=hc.1;omega)];exact q
theorem Rn(hc:X.calm=true):fj X (.builtin "max") (λxs H Q=>∃i j z,xs=[.int i,.int j]/\max i j=z/\Q (.int z) H):=by intro af s σ H xs us Q I r ⟨i,j,z,e1,e2,q⟩;subst e2;refine MW hc af s σ H xs us Q I r ⟨i,j,e1,?_⟩;rw[show(if j>i then j else i)=max i j by split<;>omega];exact q
theorem QO(hc:X.calm=true):fj X (.builtin "min") (λxs H Q=>∃i j z,xs=[.int i,.int j]/\min i j=z/\Q (.int z) H):=by intro af s σ H xs us Q I r ⟨i,j,z,e1,e2,q⟩;subst e2;refine Sj hc af s σ H xs us Q I r ⟨i,j,e1,?_⟩;rw[show(if j<i then j else i)=min i j by split<;>omega];exact q
end
end L2
namespace A
open PySem L2 PyProof.Rows
open Mi (D W Rs Fin aw)
inductive P2{α β:Type}(F:α->β->Prop):List α->List β->Prop
 |nil:P2 F [] []
 |cons {a b l m}:F a b->P2 F l m->P2 F (a::l) (b::m)
section
variable{α β:Type}{F G:α->β->Prop}
theorem P2.imp(h:∀a b,F a b->G a b):∀{l m},P2 F l m->P2 G l m
 |_,_,.nil=>.nil
 |_,_,.cons x t=>.cons (h _ _ x) (t.imp h)
theorem P2.len:∀{l m},P2 F l m->l.length=m.length
 |_,_,.nil=>rfl
 |_,_,.cons _ t=>by rw[dq,dq,t.len]
theorem P2.append:∀{l m l' m'},P2 F l m->P2 F l' m'->P2 F (l++l') (m++m')
 |_,_,_,_,.nil,s=>s
 |_,_,_,_,.cons x t,s=>.cons x (t.append s)
theorem P2.get:∀{l m} {i:Nat} {a b},P2 F l m->l[i]? = aa a->m[i]? = aa b->F a b
 |_,_,_,_,_,.nil,e,_=>by simp at e
 |_,_,0,_,_,.cons x _,e,e'=>by simp at e e';subst e e';exact x
 |_,_,i+1,a,b,.cons _ t,e,e'=>t.get (i:=i) (by simpa using e) (by simpa using e')
theorem P2.getL{l m}{i:Nat}{a}(t:P2 F l m)(e:l[i]? = aa a):∃b,m[i]? = aa b/\F a b:=by
 have h:i<m.length:=by rw[<- t.len];exact(dm.mp e).1
 exact⟨m[i],by simp[h],t.get e (by simp[h])⟩
theorem P2.IJ{l m}{i:Nat}{b}(t:P2 F l m)(e:m[i]? = aa b):∃a,l[i]? = aa a/\F a b:=by
 have h:i<l.length:=by rw[t.len];exact(dm.mp e).1
 exact⟨l[i],by simp[h],t.get (by simp[h]) e⟩
theorem P2.set{a b}(x:F a b):∀{l m} (i:Nat),P2 F l m->P2 F (l.set i a) (m.set i b)
 |_,_,_,.nil=>.nil
 |_,_,0,.cons _ t=>.cons x t
 |_,_,i+1,.cons y t=>.cons y (t.set x i)
theorem P2.take:∀{l m} (n:Nat),P2 F l m->P2 F (l.take n) (m.take n)
 |_,_,0,_=>.nil
 |_,_,_+1,.nil=>.nil
 |_,_,n+1,.cons x t=>.cons x (t.take n)
theorem P2.drop:∀{l m} (n:Nat),P2 F l m->P2 F (l.drop n) (m.drop n)
 |_,_,0,t=>t
 |_,_,_+1,.nil=>.nil
 |_,_,n+1,.cons _ t=>t.drop n
theorem P2.erase:∀{l m} (n:Nat),P2 F l m->P2 F (l.eraseIdx n) (m.eraseIdx n)
 |_,_,_,.nil=>.nil
 |_,_,0,.cons _ t=>t
 |_,_,n+1,.cons x t=>.cons x (t.erase n)
theorem P2.rev:∀{l m},P2 F l m->P2 F l.reverse m.reverse
 |_,_,.nil=>.nil
 |_,_,.cons x t=>by rw[xX,xX];exact t.rev.append (.cons x .nil)
end
def Lst(H:Hp)(a:ag)(xs:List V):Prop:=H a=aa (.lst xs)\/∃o,H a=aa (.frz o (.lst xs))
mutual
def Rep(H:Hp):D->V->Prop
 |.non,v=>v=.non
 |.bl b,v=>v=.bl b
 |.int i,v=>v=.int i
 |.str x,v=>v=.str x
 |.lst ds,v=>∃a xs,v=.ref a/\Lst H a xs/\bi H ds xs
 |.tup ds,v=>∃a xs,v=.ref a/\H a=aa (.tup xs)/\bi H ds xs
def bi(H:Hp):List D->List V->Prop
 |[],vs=>vs=[]
 |d::ds,vs=>∃v r,vs=v::r/\Rep H d v/\bi H ds r
end
theorem pj{H:Hp}:∀{ds:List D} {vs:List V},bi H ds vs↔P2 (Rep H) ds vs
 |[],vs=>by
  rw[bi];exact⟨λh=>by subst h;exact .nil,λh=>by cases h;rfl⟩
 |d::ds,vs=>by
  rw[bi];constructor
  ·rintro⟨v,r,rfl,p,q⟩;exact .cons p (pj.mp q)
  ·intro h;cases h with
   |cons p q=>exact⟨_,_,rfl,p,pj.mpr q⟩
@[simp] theorem AR {H:Hp} {v:V}:Rep H .non v↔v=.non:=by rw[Rep]
@[simp] theorem rn {H:Hp} {v:V} {b:Bool}:Rep H (.bl b) v↔v=.bl b:=by rw[Rep]
@[simp] theorem uj {H:Hp} {v:V} {b:Int}:Rep H (.int b) v↔v=.int b:=by rw[Rep]
@[simp] theorem og {H:Hp} {v:V} {b:Str}:Rep H (.str b) v↔v=.str b:=by rw[Rep]
theorem j7{H:Hp}{v:V}{ds:List D}:Rep H (.lst ds) v↔∃a xs,v=.ref a/\Lst H a xs/\P2 (Rep H) ds xs:=by rw[Rep];exact⟨λ⟨a,xs,e,l,r⟩=>⟨a,xs,e,l,pj.mp r⟩,λ⟨a,xs,e,l,r⟩=>⟨a,xs,e,l,pj.mpr r⟩⟩
theorem kH{H:Hp}{v:V}{ds:List D}:Rep H (.tup ds) v↔∃a xs,v=.ref a/\H a=aa (.tup xs)/\P2 (Rep H) ds xs:=by rw[Rep];exact⟨λ⟨a,xs,e,l,r⟩=>⟨a,xs,e,l,pj.mp r⟩,λ⟨a,xs,e,l,r⟩=>⟨a,xs,e,l,pj.mpr r⟩⟩
theorem Lst.same{H H':Hp}{a:ag}{xs:List V}(s:cV H H')(h:Lst H a xs):Lst H' a xs:=by
 rcases h with h|⟨o,h⟩
 ·exact .inl (s _ _ h)
 ·exact .inr ⟨o,s _ _ h⟩
theorem Lst.sq{K:aB}{H:Hp}{a:ag}{xs:List V}(h:Lst H a xs):dO K H a xs:=.inl h
mutual
theorem jJ{H H':Hp}(s:cV H H'):∀{d:D} {v:V},Rep H d v->Rep H' d v
 |.non,v,h=>by rw[Rep]at h ⊢;exact h
 |.bl b,v,h=>by rw[Rep]at h ⊢;exact h
 |.int i,v,h=>by rw[Rep]at h ⊢;exact h
 |.str x,v,h=>by rw[Rep]at h ⊢;exact h
 |.lst ds,v,h=>by
  rw[Rep]at h ⊢;obtain⟨a,xs,e,q,r⟩:=h;exact⟨a,xs,e,q.same s,Ai s r⟩
 |.tup ds,v,h=>by
  rw[Rep]at h ⊢;obtain⟨a,xs,e,q,r⟩:=h;exact⟨a,xs,e,s _ _ q,Ai s r⟩
theorem Ai{H H':Hp}(s:cV H H'):∀{ds:List D} {vs:List V},bi H ds vs->bi H' ds vs
 |[],vs,h=>by rw[bi]at h ⊢;exact h
 |d::ds,vs,h=>by
  rw[bi]at h ⊢;obtain⟨v,r,e,p,q⟩:=h;exact⟨v,r,e,jJ s p,Ai s q⟩
end
theorem eP{H H':Hp}(s:cV H H'){ds:List D}{vs:List V}(h:P2 (Rep H) ds vs):P2 (Rep H') ds vs:=h.imp λ_ _=>jJ s
mutual
theorem ms(K:aB){H:Hp}:∀{d:D} {v:V},Rep H d v->L2.Rep K H d v
 |.non,v,h=>by rw[Rep]at h;rw[L2.Rep];exact h
 |.bl b,v,h=>by rw[Rep]at h;rw[L2.Rep];exact h
 |.int i,v,h=>by rw[Rep]at h;rw[L2.Rep];exact h
 |.str x,v,h=>by rw[Rep]at h;rw[L2.Rep];exact h
 |.lst ds,v,h=>by
  rw[Rep]at h;rw[L2.Rep];obtain⟨a,xs,e,q,r⟩:=h;exact⟨a,xs,e,q.sq,wy K r⟩
 |.tup ds,v,h=>by
  rw[Rep]at h;rw[L2.Rep];obtain⟨a,xs,e,q,r⟩:=h;exact⟨a,xs,e,.inl (.inl q),wy K r⟩
theorem wy(K:aB){H:Hp}:∀{ds:List D} {vs:List V},bi H ds vs->L2.bi K H ds vs
 |[],vs,h=>by rw[bi]at h;rw[L2.bi];exact h
 |d::ds,vs,h=>by
  rw[bi]at h;rw[L2.bi];obtain⟨v,r,e,p,q⟩:=h;exact⟨v,r,e,ms K p,wy K q⟩
end
def NT:HO->Prop
 |.tbl _ _=>False
 |_=>True
def NW:HO->Prop
 |.tbl _ _=>False
 |.frz _ (.lst _)=>False
 |_=>True
theorem NW.nt:∀{o:HO},NW o->NT o:=λ{o} c=>by cases o<;>first|exact c.elim|trivial
structure Old(H H':Hp):Prop where
 nt:∀a o,H a=aa o->NT o->H' a=aa o
 dom:∀a,H' a=ae->H a=ae
 tb:∀a w ps,H a=aa (.tbl w ps)->∃ps',H' a=aa (.tbl w ps')
theorem Old.at{H H':Hp}(s:Old H H'){a:ag}{o:HO}(q:H a=aa o)(n:NT o:=by trivial):H' a=aa o:=s.nt a o q n
theorem Old.free{H H':Hp}(s:Old H H'){a:ag}(h:H' a=ae):H a=ae:=s.dom a h
theorem Old.refl(H:Hp):Old H H:=⟨λ_ _ e _=>e,λ_ e=>e,λ_ _ ps e=>⟨ps,e⟩⟩
theorem Old.trans{H H1 H2:Hp}(a:Old H H1)(b:Old H1 H2):Old H H2:=⟨λx o e n=>b.nt x o (a.nt x o e n) n,λx e=>a.dom x (b.dom x e),λx w ps e=>let ⟨p1,e1⟩:=a.tb x w ps e;b.tb x w p1 e1⟩
theorem Old.of{H H':Hp}(s:cV H H'):Old H H':=⟨λa o e _=>s a o e,λa e=>s.free e,λa w ps e=>⟨ps,s a _ e⟩⟩
theorem Old.tab{H H':Hp}(s:Old H H'){a:ag}{w:Str}{ps:Array ah}{o:HO}(q:H a=aa (.tbl w ps))(n:NT o):¬ H' a=aa o:=λe=>by
 obtain⟨p,z⟩:=s.tb a w ps q;rw[e]at z;cases z;exact n
theorem Old.put{H0 H:Hp}(s:Old H0 H){p:ag}{o u:HO}(h0:H0 p=ae)(h:H p=aa u):Old H0 (upd H p o):=
 ⟨λa v e n=>by rw[av (cQ e h0)];exact s.nt a v e n,λa e=>by
  by_cases hp:a=p
  ·subst hp;exact h0
  ·rw[av hp]at e;exact s.dom a e,λa w ps e=>by rw[av (cQ e h0)];exact s.tb a w ps e⟩
def hW(c:ag)(q:Str):ay->Prop:=λh=>∃o vs t,h.get? c=aa o/\o.data=.fields vs/\vs[1]? = aa (.str q t)
class bD where
 l:List (ag×Str)
 cl:String->ag
variable[Tb:bD]
structure iF(H:Hp):Prop where
 has:∀p∈Tb.l,∃ps,H p.1=aa (.tbl p.2 ps)
 cd:∀T q ps,H T=aa (.tbl q ps)->ss ps.toList/\∀pos v,codeAmong pos ps.toList=aa v->∃c,v=.ref c/\H c=aa (.ext (hW c q))
 fz:∀a o xs,H a=aa (.frz o (.lst xs))->∀x∈xs,∃i,x=V.int i
theorem iF.new{H:Hp}(k:iF H){p:ag}{o:HO}(h:H p=ae)(n:NW o):iF (upd H p o):=⟨λr hr=>let ⟨ps,e⟩:=k.has r hr;⟨ps,by rw[av (cQ e h)];exact e⟩,λT q ps e=>by
 by_cases hp:T=p
 ·subst hp;rw[aY]at e;cases e;exact n.elim
 ·rw[av hp]at e;obtain⟨t,r⟩:=k.cd T q ps e;refine⟨t,λpos v z=>?_⟩;obtain⟨c,e1,e2⟩:=r pos v z;exact⟨c,e1,by rw[av (cQ e2 h)];exact e2⟩,λa q xs e=>by
 by_cases hp:a=p
 ·subst hp;rw[aY]at e;cases e;exact n.elim
 ·rw[av hp]at e;exact k.fz a q xs e⟩
def Cell:HO->Prop
 |.lst _=>True
 |.dK _=>True
 |.dT _=>True
 |.ext _=>True
 |_=>False
theorem Cell.nw:∀{o:HO},Cell o->NW o:=λ{o} c=>by cases o<;>first|exact c.elim|trivial
theorem Cell.nt:∀{o:HO},Cell o->NT o:=λ{o} c=>by cases o<;>first|exact c.elim|trivial
def tI:HO->Prop
 |.lst _=>True
 |.dK _=>True
 |.dT _=>True
 |_=>False
theorem tI.cell:∀{o:HO},tI o->Cell o:=λ{o} c=>by cases o<;>first|exact c.elim|trivial
theorem iF.put{H:Hp}(k:iF H){p:ag}{o u:HO}(h:H p=aa u)(c:tI u)(n:NW o):iF (upd H p o):=⟨λr hr=>let ⟨ps,e⟩:=k.has r hr;⟨ps,by rw[av (λy=>by rw[y,h]at e;cases e;exact c.elim)];exact e⟩,λT q ps e=>by
 by_cases hp:T=p
 ·subst hp;rw[aY]at e;cases e;exact n.elim
 ·rw[av hp]at e;obtain⟨t,r⟩:=k.cd T q ps e;refine⟨t,λpos v z=>?_⟩;obtain⟨x,e1,e2⟩:=r pos v z;refine⟨x,e1,?_⟩;rw[av (λy=>by subst y;rw[h]at e2;cases e2;exact c.elim)];exact e2,λa q xs e=>by
 by_cases hp:a=p
 ·subst hp;rw[aY]at e;cases e;exact n.elim
 ·rw[av hp]at e;exact k.fz a q xs e⟩
structure Vw(H Hv:Hp):Prop where
 sub:cV Hv H
 tup:∀a xs,H a=aa (.tup xs)->Hv a=aa (.tup xs)
 frz:∀a o u,H a=aa (.frz o u)->Hv a=aa (.frz o u)
 cd:iF H
 nv:∀a o,Hv a=aa o->NT o
structure bt(H Hv H' Hv':Hp):Prop where
 old:Old H H'
 vis:cV Hv Hv'
 vw:Vw H' Hv'
 hid:∀a o,H a=aa o->Hv a=ae->Hv' a=ae
theorem bt.refl{H Hv:Hp}(v:Vw H Hv):bt H Hv H Hv:=⟨Old.refl _,cV.refl _,v,λ_ _ _ e=>e⟩
theorem Old.some{H H':Hp}(s:Old H H'){a:ag}{o:HO}(q:H a=aa o):∃o',H' a=aa o':=by
 cases h:H' a with
 |none=>rw[s.dom a h]at q;cases q
 |some o'=>exact⟨o',rfl⟩
theorem bt.trans{H Hv H1 Hv1 H2 Hv2:Hp}(g:bt H Hv H1 Hv1)(k:bt H1 Hv1 H2 Hv2):bt H Hv H2 Hv2:=⟨g.old.trans k.old,g.vis.trans k.vis,k.vw,λa o e n=>let ⟨o',e'⟩:=g.old.some e;k.hid a o' e' (g.hid a o e n)⟩
theorem rN{H Hv:Hp}(v:Vw H Hv){p:ag}(h:H p=ae):Hv p=ae:=v.sub.free h
theorem bt.new{H Hv:Hp}(v:Vw H Hv){p:ag}{o:HO}(h:H p=ae)(nt:NW o:=by trivial):bt H Hv (upd H p o) (upd Hv p o):=by
 refine⟨.of (xq h),xq (rN v h),⟨λb u e=>?_,λb xs e=>?_,λb q u e=>?_,v.cd.new h nt,λb u e=>?_⟩,λb u e n=>?_⟩
 ·by_cases hb:b=p
  ·subst hb;rw[aY]at e ⊢;exact e
  ·rw[av hb]at e ⊢;exact v.sub b u e
 ·by_cases hb:b=p
  ·subst hb;rw[aY]at e ⊢;exact e
  ·rw[av hb]at e ⊢;exact v.tup b xs e
 ·by_cases hb:b=p
  ·subst hb;rw[aY]at e ⊢;exact e
  ·rw[av hb]at e ⊢;exact v.frz b q u e
 ·by_cases hb:b=p
  ·subst hb;rw[aY]at e;cases e;exact nt.nt
  ·rw[av hb]at e;exact v.nv b u e
 ·rw[av (cQ e h)];exact n
theorem bt.uG{H Hv:Hp}(v:Vw H Hv){p:ag}{o:HO}(c:Cell o)(h:H p=ae):bt H Hv (upd H p o) Hv:=by
 refine⟨.of (xq h),cV.refl _,⟨λb u e=>?_,λb xs e=>?_,λb q u e=>?_,v.cd.new h c.nw,v.nv⟩,λb u e n=>n⟩
 ·rw[av (cQ (v.sub b u e) h)];exact v.sub b u e
 ·by_cases hb:b=p
  ·subst hb;rw[aY]at e;cases e;exact c.elim
  ·rw[av hb]at e;exact v.tup b xs e
 ·by_cases hb:b=p
  ·subst hb;rw[aY]at e;cases e;exact c.elim
  ·rw[av hb]at e;exact v.frz b q u e
theorem Vw.show{H Hv:Hp}(v:Vw H Hv){a:ag}{o:HO}(h:H a=aa o)(n:Hv a=ae)(nt:NT o):Vw H (upd Hv a o)/\cV Hv (upd Hv a o):=by
 refine⟨⟨λb u e=>?_,λb xs e=>?_,λb q u e=>?_,v.cd,λb u e=>?_⟩,xq n⟩
 ·by_cases hb:b=a
  ·subst hb;rw[aY]at e;rw[h];exact e
  ·rw[av hb]at e;exact v.sub b u e
 ·by_cases hb:b=a
  ·subst hb;rw[aY];rw[h]at e;exact e
  ·rw[av hb];exact v.tup b xs e
 ·by_cases hb:b=a
  ·subst hb;rw[aY];rw[h]at e;exact e
  ·rw[av hb];exact v.frz b q u e
 ·by_cases hb:b=a
  ·subst hb;rw[aY]at e;cases e;exact nt
  ·rw[av hb]at e;exact v.nv b u e
theorem Lst.old{H H':Hp}{a:ag}{xs:List V}(s:Old H H')(h:Lst H a xs):Lst H' a xs:=by
 rcases h with h|⟨o,h⟩
 ·exact .inl (s.at h)
 ·exact .inr ⟨o,s.at h⟩
mutual
theorem Fb{H H':Hp}(t:∀a xs,H a=aa (.tup xs)->H' a=aa (.tup xs)):∀{d:D} {v:V},Mi.mW d=true->Rep H d v->Rep H' d v
 |.non,v,_,h=>by rw[Rep]at h ⊢;exact h
 |.bl b,v,_,h=>by rw[Rep]at h ⊢;exact h
 |.int i,v,_,h=>by rw[Rep]at h ⊢;exact h
 |.str x,v,_,h=>by rw[Rep]at h ⊢;exact h
 |.lst ds,v,z,h=>by rw[Mi.mW]at z;cases z
 |.tup ds,v,z,h=>by
  rw[Mi.mW]at z;rw[Rep]at h ⊢;obtain⟨a,xs,e,q,r⟩:=h;exact⟨a,xs,e,t _ _ q,Ge t z r⟩
theorem Ge{H H':Hp}(t:∀a xs,H a=aa (.tup xs)->H' a=aa (.tup xs)):∀{ds:List D} {vs:List V},Mi.xo ds=true->bi H ds vs->bi H' ds vs
 |[],vs,_,h=>by rw[bi]at h ⊢;exact h
 |d::ds,vs,z,h=>by
  rw[Mi.xo,lY]at z;rw[bi]at h ⊢;obtain⟨v,r,e,p,q⟩:=h;exact⟨v,r,e,Fb t z.1 p,Ge t z.2 q⟩
end
def gu{κ:Type}(H:Hp)(ao:List (κ×D))(kv:List (κ×V)):Prop:=P2 (λp q=>p.1=q.1/\Rep H p.2 q.2) ao kv
theorem gu.same{κ:Type}{H H':Hp}(s:cV H H'){ao:List (κ×D)}{kv:List (κ×V)}(h:gu H ao kv):gu H' ao kv:=P2.imp (λ_ _ z=>⟨z.1,jJ s z.2⟩) h
def eI(Hv:Hp):W->HO->Prop
 |.d (.lst ds),.lst xs=>P2 (Rep Hv) ds xs
 |.dk ao,.dK kv=>gu Hv ao kv
 |.dt ao,.dT kv=>gu Hv ao kv
 |_,_=>False
theorem eI.same{H H':Hp}(s:cV H H'):∀{w:W} {o:HO},eI H w o->eI H' w o:=λ{w o} h=>by
 cases w with
 |d x=>
  cases x with
  | lst ds=>cases o with
   |lst xs=>exact eP s h
   |_=>exact h.elim
  |_=>cases o<;>exact h.elim
 | dk ao=>cases o with
  |dK kv=>exact gu.same s h
  |_=>exact h.elim
 | dt ao=>cases o with
  |dT kv=>exact gu.same s h
  |_=>exact h.elim
 |df ao=>exact h.elim
 |ex c=>exact h.elim
 |fn c=>exact h.elim
 |xr c x=>exact h.elim
theorem eI.DE{H:Hp}{w:W}{o:HO}(h:eI H w o):tI o:=by
 cases w with
 |d x=>
  cases x with
  | lst ds=>cases o with
   |lst xs=>trivial
   |_=>exact h.elim
  |_=>cases o<;>exact h.elim
 | dk ao=>cases o with
  |dK kv=>trivial
  |_=>exact h.elim
 | dt ao=>cases o with
  |dT kv=>trivial
  |_=>exact h.elim
 |df ao=>exact h.elim
 |ex c=>exact h.elim
 |fn c=>exact h.elim
 |xr c x=>exact h.elim
theorem eI.cell{H:Hp}{w:W}{o:HO}(h:eI H w o):Cell o:=h.DE.cell
theorem eI.nw{H:Hp}{w:W}{o:HO}(h:eI H w o):NW o:=h.cell.nw
theorem eI.nt{H:Hp}{w:W}{o:HO}(h:eI H w o):NT o:=h.cell.nt
def f6(a C:ag)(dc:Option ag):ay->Prop:=λh=>∃o,h.get? a=aa o/\o.cls=.ref C/\o.dict=dc/\∃vs,o.data=.fields vs
def gv(H:Hp):W->V->Prop
 |.d x,v=>Rep H x v
 |.dk ao,v=>∃a kv,v=.ref a/\H a=aa (.dK kv)/\gu H ao kv
 |.dt ao,v=>∃a kv,v=.ref a/\H a=aa (.dT kv)/\gu H ao kv
 |.df ao,v=>∃a ob kv,v=.ref a/\H a=aa (.frz ob (.dT kv))/\gu H ao kv
 |.ex c,v=>∃a dc,v=.ref a/\H a=aa (.ext (f6 a (Tb.cl c) dc))
 |.fn κ Cq,v=>v=.ref κ.a/\H κ.c=aa (.ext (hW κ.c κ.q))/\P2 (λd a=>Rep H d (.ref a)) Cq κ.ga
 |.xr c x,v=>∃a dx u,v=.ref a/\H a=aa (.ext (f6 a (Tb.cl c) (aa dx)))/\H dx=aa (.xd [("ring", u)])/\Rep H x u
theorem tZ{H H':Hp}(s:cV H H'):∀{w:W} {v:V},gv H w v->gv H' w v
 |.d x,v,h=>jJ (d:=x) s h
 |.dk ao,v,⟨a,kv,e,q,r⟩=>⟨a,kv,e,s _ _ q,r.same s⟩
 |.dt ao,v,⟨a,kv,e,q,r⟩=>⟨a,kv,e,s _ _ q,r.same s⟩
 |.df ao,v,⟨a,ob,kv,e,q,r⟩=>⟨a,ob,kv,e,s _ _ q,r.same s⟩
 |.ex c,v,⟨a,dc,e,q⟩=>⟨a,dc,e,s _ _ q⟩
 |.fn κ Cq,v,⟨e,q,r⟩=>⟨e,s _ _ q,r.imp λ_ _ z=>jJ s z⟩
 |.xr c x,v,⟨a,dx,u,e,q1,q2,r⟩=>⟨a,dx,u,e,s _ _ q1,s _ _ q2,jJ s r⟩
theorem A4{H:Hp}{w:W}{a:ag}{o:HO}(h:H a=aa o)(c:eI H w o):gv H w (.ref a):=by
 cases w with
 |d x=>
  cases x with
  | lst ds=>cases o with
   |lst xs=>exact j7.mpr ⟨a,xs,rfl,.inl h,c⟩
   |_=>exact c.elim
  |_=>cases o<;>exact c.elim
 | dk ao=>cases o with
  |dK kv=>exact⟨a,kv,rfl,h,c⟩
  |_=>exact c.elim
 | dt ao=>cases o with
  |dT kv=>exact⟨a,kv,rfl,h,c⟩
  |_=>exact c.elim
 |df ao=>exact c.elim
 |ex z=>exact c.elim
 |fn z=>exact c.elim
 |xr z x=>exact c.elim
def Own(H Hv:Hp)(w:W)(v:V):Prop:=∃a o,v=.ref a/\H a=aa o/\Hv a=ae/\eI Hv w o
def RB(H Hv:Hp)(w:W)(v:V):Prop:=gv Hv w v\/∃a o,v=.ref a/\H a=aa o/\eI Hv w o
theorem RB.grow{H Hv H' Hv':Hp}(g:bt H Hv H' Hv'){w:W}{v:V}(h:RB H Hv w v):RB H' Hv' w v:=by
 rcases h with h|⟨a,o,e,q,c⟩
 ·exact .inl (tZ g.vis h)
 ·exact .inr ⟨a,o,e,g.old.at q c.nt,c.same g.vis⟩
theorem Own.grow{H Hv H' Hv':Hp}(g:bt H Hv H' Hv'){w:W}{v:V}(h:Own H Hv w v):Own H' Hv' w v:=by obtain⟨a,o,e,q,n,c⟩:=h;exact⟨a,o,e,g.old.at q c.nt,g.hid _ _ q n,c.same g.vis⟩
theorem RB.full{H Hv:Hp}(v:Vw H Hv){w:W}{x:V}(h:RB H Hv w x):gv H w x:=by
 rcases h with h|⟨a,o,rfl,q,c⟩
 ·exact tZ v.sub h
 ·exact A4 q (c.same v.sub)
abbrev RD(H Hv:Hp)(d:D)(v:V):Prop:=RB H Hv (.d d) v
theorem RD.rO{H Hv:Hp}{d:D}{v:V}(h:RD H Hv d v)(n:∀ds,d≠.lst ds):Rep Hv d v:=by
 rcases h with h|⟨a,o,e,q,c⟩
 ·exact h
 ·cases d with
  |lst ds=>exact absurd rfl (n ds)
  |_=>cases o<;>exact c.elim
theorem RD.lst{H Hv:Hp}(w:Vw H Hv){ds:List D}{v:V}(h:RD H Hv (.lst ds) v):∃a xs,v=.ref a/\Lst H a xs/\P2 (Rep Hv) ds xs:=by
 rcases h with h|⟨a,o,e,q,c⟩
 ·obtain⟨a,xs,e,l,r⟩:=j7.mp h;exact⟨a,xs,e,l.same w.sub,r⟩
 ·cases o with
  |lst xs=>exact⟨a,xs,e,.inl q,c⟩
  |_=>exact c.elim
theorem RD.tup{H Hv:Hp}(w:Vw H Hv){ds:List D}{v:V}(h:RD H Hv (.tup ds) v):∃a xs,v=.ref a/\H a=aa (.tup xs)/\Hv a=aa (.tup xs)/\P2 (Rep Hv) ds xs:=by obtain⟨a,xs,e,l,r⟩:=kH.mp (h.rO λ_ z=>by cases z);exact⟨a,xs,e,w.sub _ _ l,l,r⟩
theorem RD.int{H Hv:Hp}{i:Int}{v:V}(h:RD H Hv (.int i) v):v=.int i:=uj.mp (h.rO λ_ z=>by cases z)
theorem RD.str{H Hv:Hp}{i:Str}{v:V}(h:RD H Hv (.str i) v):v=.str i:=og.mp (h.rO λ_ z=>by cases z)
theorem RD.bl{H Hv:Hp}{i:Bool}{v:V}(h:RD H Hv (.bl i) v):v=.bl i:=rn.mp (h.rO λ_ z=>by cases z)
theorem RD.non{H Hv:Hp}{v:V}(h:RD H Hv .non v):v=.non:=AR.mp (h.rO λ_ z=>by cases z)
theorem RD.full{H Hv:Hp}(v:Vw H Hv){d:D}{x:V}(h:RD H Hv d x):Rep H d x:=RB.full v h
abbrev Kd:=Hp->Hp->Hp->W->V->Prop
def qP:Kd:=λ_ H' Hv' w v=>RB H' Hv' w v
def qV:Kd:=λ_ _ Hv' w v=>gv Hv' w v
def qN:Kd:=λH H' Hv' w v=>∃a o,v=.ref a/\H a=ae/\H' a=aa o/\Hv' a=ae/\eI Hv' w o
theorem jo{H H' Hv':Hp}{i:Int}:qV H H' Hv' (.d (.int i)) (.int i):=(uj (H:=Hv')).mpr rfl
theorem tV{H H' Hv':Hp}{i:Str}:qV H H' Hv' (.d (.str i)) (.str i):=(og (H:=Hv')).mpr rfl
theorem eu{H H' Hv':Hp}{i:Bool}:qV H H' Hv' (.d (.bl i)) (.bl i):=(rn (H:=Hv')).mpr rfl
theorem Ac{H H' Hv':Hp}:qV H H' Hv' (.d .non) .non:=(AR (H:=Hv')).mpr rfl
class KM (κ:Kd):Prop where
 mono:∀{H H1 H' Hv' w v},Old H H1->κ H1 H' Hv' w v->κ H H' Hv' w v
instance:KM qP:=⟨λ_ h=>h⟩
instance:KM qV:=⟨λ_ h=>h⟩
instance:KM qN:=⟨λs ⟨a,o,e,n,r⟩=>⟨a,o,e,s.free n,r⟩⟩
structure R0(M:Nat->Bool)(e:Mi.Env)(σ:L2.St)(H Hv:Hp):Prop where
 vw:Vw H Hv
 len:σ.length=e.length
 nob:∀i w,e[i]? = aa (aa w)->M i=false->∃v,σ[i]? = aa (aa v)/\gv Hv w v
 own:∀i w,e[i]? = aa (aa w)->M i=true->∃v,σ[i]? = aa (aa v)/\Own H Hv w v
theorem R0.grow{M:Nat->Bool}{e:Mi.Env}{σ:L2.St}{H Hv H' Hv':Hp}(r:R0 M e σ H Hv)(g:bt H Hv H' Hv'):R0 M e σ H' Hv':=⟨g.vw,r.len,λi w h m=>let ⟨v,q,z⟩:=r.nob i w h m;⟨v,q,tZ g.vis z⟩,λi w h m=>let ⟨v,q,z⟩:=r.own i w h m;⟨v,q,z.grow g⟩⟩
structure R1(M:Nat->Bool)(H0 Hv0:Hp)(e:Mi.Env)(σ:L2.St)(H Hv:Hp):Prop extends R0 M e σ H Hv where
 gw:bt H0 Hv0 H Hv
 fresh:∀i w a,e[i]? = aa (aa w)->M i=true->σ[i]? = aa (aa (.ref a))->H0 a=ae
 sep:∀i j w w' a b,i≠j->e[i]? = aa (aa w)->e[j]? = aa (aa w')->M i=true->M j=true->σ[i]? = aa (aa (.ref a))->σ[j]? = aa (aa (.ref b))->a≠b
theorem R1.grow{M:Nat->Bool}{H0 Hv0:Hp}{e:Mi.Env}{σ:L2.St}{H Hv H' Hv':Hp}(r:R1 M H0 Hv0 e σ H Hv)(g:bt H Hv H' Hv'):R1 M H0 Hv0 e σ H' Hv':=⟨r.toR0.grow g,r.gw.trans g,r.fresh,r.sep⟩
variable[Tb:bD]
abbrev qK:=Mi.Env
class KG (κ:Kd):Prop where
 go:∀{H H1 Hv1 H2 Hv2 w v},bt H1 Hv1 H2 Hv2->κ H H1 Hv1 w v->κ H H2 Hv2 w v
instance:KG qP:=⟨λg h=>h.grow g⟩
instance:KG qV:=⟨λg h=>tZ g.vis h⟩
instance:KG qN:=⟨λg ⟨a,o,e,n,q,z,c⟩=>⟨a,o,e,n,g.old.at q c.nt,g.hid _ _ q z,c.same g.vis⟩⟩
def AW(M:Nat->Bool)(κ:Kd)(t:TE)(m:Mi.EW):Prop:=∀e σ H Hv Q,R0 M e σ H Hv->Fin (m e) (λw=>∀v H' Hv',bt H Hv H' Hv'->κ H H' Hv' w v->Q v H')->t σ H Q
def AE(M:Nat->Bool)(κ:Kd)(t:TE)(m:Mi.E):Prop:=∀e σ H Hv Q,R0 M e σ H Hv->Fin (m e) (λd=>∀v H' Hv',bt H Hv H' Hv'->κ H H' Hv' (.d d) v->Q v H')->t σ H Q
def AT(M:Nat->Bool)(t:TT)(m:Mi.C):Prop:=∀e σ H Hv Q,R0 M e σ H Hv->Fin (m e) (λb=>∀H' Hv',bt H Hv H' Hv'->Q b H')->t σ H Q
def AA(M:Nat->Bool)(κ:Kd)(t:TA)(m:qK->Rs (List D)):Prop:=∀e σ H Hv Q,R0 M e σ H Hv->Fin (m e) (λds=>∀vs H' Hv',bt H Hv H' Hv'->P2 (λd v=>κ H H' Hv' (.d d) v) ds vs->Q vs H')->t σ H Q
def AAW(M:Nat->Bool)(κ:Kd)(t:TA)(m:qK->Rs (List W)):Prop:=∀e σ H Hv Q,R0 M e σ H Hv->Fin (m e) (λws=>∀vs H' Hv',bt H Hv H' Hv'->P2 (λw v=>κ H H' Hv' w v) ws vs->Q vs H')->t σ H Q
def AO(M:Nat->Bool)(t:TO)(m:qK->Rs (Option Int)):Prop:=∀e σ H Hv Q,R0 M e σ H Hv->Fin (m e) (λo=>∀H' Hv',bt H Hv H' Hv'->Q o H')->t σ H Q
section
variable{M:Nat->Bool}{κ:Kd}{t ta tb tc te:TE}{a b c:Mi.E}{r r':R2}{f g:D->D->Rs D}
theorem AE.w(h:AE M κ t a):AW M κ t (Mi.wD a):=λe σ H Hv Q I q=>h e σ H Hv Q I ((aw.mp q).mono λd z=>z)
theorem Gv{H H' Hv':Hp}{w:W}{v:V}(h:qV H H' Hv' w v):qP H H' Hv' w v:=.inl h
theorem Rf{H H' Hv':Hp}{w:W}{v:V}(h:qN H H' Hv' w v):qP H H' Hv' w v:=by obtain⟨a,o,e,_,q,_,c⟩:=h;exact .inr ⟨a,o,e,q,c⟩
theorem D1{H Hv H' Hv':Hp}(g:bt H Hv H' Hv'){w:W}{v:V}(h:qN H H' Hv' w v):∃sS,bt H Hv H' sS/\gv sS w v:=by obtain⟨a,o,rfl,n,q,z,c⟩:=h;obtain⟨vw,s⟩:=g.vw.show q z c.nt;refine⟨upd Hv' a o,⟨g.old,g.vis.trans s,vw,λb u e m=>?_⟩,A4 aY (c.same s)⟩;rw[av (cQ e n)];exact g.hid b u e m
theorem AW.p(h:AW M qV t m):AW M qP t m:=λe σ H Hv Q I q=>h e σ H Hv Q I (q.mono λw z v H' Hv' g k=>z v H' Hv' g (Gv k))
theorem AW.nv(h:AW M qN t m):AW M qV t m:=λe σ H Hv Q I q=>h e σ H Hv Q I (q.mono λw z v H' Hv' g k=>let ⟨sS,g',r⟩:=D1 g k;z v H' sS g' r)
theorem AE.p(h:AE M qV t a):AE M qP t a:=λe σ H Hv Q I q=>h e σ H Hv Q I (q.mono λw z v H' Hv' g k=>z v H' Hv' g (Gv k))
theorem AE.np(h:AE M qN t a):AE M qP t a:=λe σ H Hv Q I q=>h e σ H Hv Q I (q.mono λw z v H' Hv' g k=>z v H' Hv' g (Rf k))
theorem AE.nv(h:AE M qN t a):AE M qV t a:=λe σ H Hv Q I q=>h e σ H Hv Q I (q.mono λw z v H' Hv' g k=>let ⟨sS,g',r⟩:=D1 g k;z v H' sS g' r)
theorem aR{i:Int}:AE M qV (tC (.int i)) (Mi.mC (.int i)):=λe σ H Hv Q I h=>h _ H Hv (.refl I.vw) jo
theorem jy{i:Str}:AE M qV (tC (.str i)) (Mi.mC (.str i)):=λe σ H Hv Q I h=>h _ H Hv (.refl I.vw) tV
theorem fU{i:Bool}:AE M qV (tC (.bl i)) (Mi.mC (.bl i)):=λe σ H Hv Q I h=>h _ H Hv (.refl I.vw) eu
theorem ui:AE M qV (tC .non) (Mi.mC .non):=λe σ H Hv Q I h=>h _ H Hv (.refl I.vw) Ac
theorem GN{e:qK}{i:Nat}{k:D->Prop}(h:Fin (Mi.mV i e) k):∃d,e[i]? = aa (aa (.d d))/\k d:=by
 unfold Mi.mV at h;split at h
 ·exact⟨_,‹_›,h⟩
 ·exact h.elim
theorem z9{e:qK}{i:Nat}{k:W->Prop}(h:Fin (Mi.wV i e) k):∃w,e[i]? = aa (aa w)/\k w:=by
 unfold Mi.wV at h;split at h
 ·exact⟨_,‹_›,h⟩
 ·exact h.elim
theorem GX(i:Nat)(hm:M i=false):AE M qV (eZ i) (Mi.mV i):=λe σ H Hv Q I h=>by
 obtain⟨d,he,k⟩:=GN h;obtain⟨v,q,z⟩:=I.nob i _ he hm;exact⟨v,q,k v H Hv (.refl I.vw) z⟩
theorem RX{H Hv:Hp}{w:W}{v:V}(h:Own H Hv w v):RB H Hv w v:=by obtain⟨a,o,e,q,_,c⟩:=h;exact .inr ⟨a,o,e,q,c⟩
theorem R0.any{e:qK}{σ:L2.St}{H Hv:Hp}(I:R0 M e σ H Hv){i:Nat}{w:W}(he:e[i]? = aa (aa w)):∃v,σ[i]? = aa (aa v)/\RB H Hv w v:=by
 cases hm:M i with
 |false=>
  obtain⟨v,q,z⟩:=I.nob i w he hm;exact⟨v,q,.inl z⟩
 |true=>
  obtain⟨v,q,z⟩:=I.own i w he hm;exact⟨v,q,RX z⟩
theorem ap(i:Nat):AE M qP (eZ i) (Mi.mV i):=λe σ H Hv Q I h=>by
 obtain⟨d,he,k⟩:=GN h;obtain⟨v,q,z⟩:=I.any he;exact⟨v,q,k v H Hv (.refl I.vw) z⟩
def B2(κ:Kd)(r:R2)(f:D->D->Rs D):Prop:=∀x y v u H Hv Q,Vw H Hv->RD H Hv x v->RD H Hv y u->Fin (f x y) (λd=>∀w H' Hv',bt H Hv H' Hv'->κ H H' Hv' (.d d) w->Q w H')->r v u H Q
def BN(κ:Kd)(r:List V->Hp->VK->Prop)(f:List D->Rs D):Prop:=∀ds vs H Hv Q,Vw H Hv->P2 (RD H Hv) ds vs->Fin (f ds) (λd=>∀w H' Hv',bt H Hv H' Hv'->κ H H' Hv' (.d d) w->Q w H')->r vs H Q
theorem az[KM κ](hr:B2 κ r f)(ha:AE M qP ta a)(hb:AE M qP tb b):AE M κ (pM r ta tb) (Mi.m2 f a b):=λe σ H Hv Q I h=>
 ha e σ H Hv _ I ((aw.mp h).mono λx hx v H1 Hv1 g1 rx=>hb e σ H1 Hv1 _ (I.grow g1) ((aw.mp hx).mono λy hy u H2 Hv2 g2 ry=>
  hr x y v u H2 Hv2 Q g2.vw (RB.grow g2 rx) ry (hy.mono λd hd w H3 Hv3 g3 rw=>hd w H3 Hv3 (g1.trans (g2.trans g3)) (KM.mono (g1.old.trans g2.old) rw))))
theorem A3{x:D}{k:Bool->Prop}(h:Fin (Mi.s0 x) k):∃b,x=.bl b/\k b:=by
 cases x with
 |bl b=>exact⟨b,rfl,h⟩
 |_=>exact h.elim
theorem xw{x:D}{k:Int->Prop}(h:Fin (Mi.rh x) k):∃b,x=.int b/\k b:=by
 cases x with
 |int b=>exact⟨b,rfl,h⟩
 |_=>exact h.elim
theorem zG(ha:AE M qP ta a)(hb:AE M qV tb b):AE M qV (IC ta tb) (Mi.n5 a b):=λe σ H Hv Q I h=>
 ha e σ H Hv _ I ((aw.mp h).mono λx hx v H1 Hv1 g1 rx=>by
  obtain⟨k,rfl,hk⟩:=A3 (aw.mp hx);cases RD.bl rx;refine⟨k,rfl,?_⟩;cases k with
  |true=>exact mB (hb e σ H1 Hv1 Q (I.grow g1) (Fin.mono (Mi.pF hk) λd hd w H2 Hv2 g2 rw=>hd w H2 Hv2 (g1.trans g2) rw))
  |false=>exact mv ((Mi.lD (Mi.pz hk)) _ H1 Hv1 g1 eu))
theorem zD(h1:B2 qV r f)(h2:B2 qV r' g)(ha:AE M qP ta a)(hb:AE M qP tb b)(hc:AE M qP tc c):AE M qV (Al r r' ta tb tc) (Mi.jQ f g a b c):=λe σ H Hv Q I h=>
 ha e σ H Hv _ I ((aw.mp h).mono λx hx v H1 Hv1 g1 rx=>hb e σ H1 Hv1 _ (I.grow g1) ((aw.mp hx).mono λy hy u H2 Hv2 g2 ry=>
  h1 x y v u H2 Hv2 _ g2.vw (RB.grow g2 rx) ry ((aw.mp hy).mono λd hd w H3 Hv3 g3 rw=>by
   obtain⟨k,rfl,hk⟩:=A3 (aw.mp hd);cases(rn (H:=Hv3)).mp rw;refine⟨k,rfl,?_⟩;cases k with
   |false=>exact mv ((Mi.lD (Mi.pz hk)) _ H3 Hv3 (g1.trans (g2.trans g3)) eu)
   |true=>exact mB (hc e σ H3 Hv3 _ (I.grow (g1.trans (g2.trans g3))) ((aw.mp (Mi.pF hk)).mono λz hz w4 H4 Hv4 g4 rz=>
    h2 y z u w4 H4 Hv4 Q g4.vw (RB.grow (g3.trans g4) ry) rz (hz.mono λd hd w5 H5 Hv5 g5 r5=>hd w5 H5 Hv5 (g1.trans (g2.trans (g3.trans (g4.trans g5)))) r5))))))
theorem oE:AO M Fg (Mi.kM ae):=λe σ H Hv Q I h=>h H Hv (.refl I.vw)
theorem pK(ha:AE M qP ta a):AO M (Hw ta) (Mi.kM (aa a)):=λe σ H Hv Q I h=>
 ha e σ H Hv _ I ((aw.mp h).mono λx hx v H1 Hv1 g1 rx=>by
  obtain⟨i,rfl,hk⟩:=xw (aw.mp hx);exact⟨i,RD.int rx,hk H1 Hv1 g1⟩)
def BS(κ:Kd)(r:V->Option Int->Option Int->Hp->VK->Prop)(f:D->Option Int->Option Int->Rs D):Prop:=∀x lo hi v H Hv Q,Vw H Hv->RD H Hv x v->Fin (f x lo hi) (λd=>∀w H' Hv',bt H Hv H' Hv'->κ H H' Hv' (.d d) w->Q w H')->r v lo hi H Q
theorem oU[KM κ]{r:V->Option Int->Option Int->Hp->VK->Prop}{tl th:TO}{lo hi:Option Mi.E}{f:D->Option Int->Option Int->Rs D}(hr:BS κ r f)(ha:AE M qP ta a)(hl:AO M tl (Mi.kM lo))(hh:AO M th (Mi.kM hi)):AE M κ (EB r ta tl th) (Mi.eO f a lo hi):=λe σ H Hv Q I h=>
 ha e σ H Hv _ I ((aw.mp h).mono λx hx v H1 Hv1 g1 rx=>hl e σ H1 Hv1 _ (I.grow g1) ((aw.mp hx).mono λl hl H2 Hv2 g2=>hh e σ H2 Hv2 _ (I.grow (g1.trans g2)) ((aw.mp hl).mono λu hu H3 Hv3 g3=>
  hr x l u v H3 Hv3 Q g3.vw (RB.grow (g2.trans g3) rx) (hu.mono λd hd w H4 Hv4 g4 rw=>hd w H4 Hv4 (g1.trans (g2.trans (g3.trans g4))) (KM.mono (g1.old.trans (g2.old.trans g3.old)) rw)))))
theorem dR(ha:AE M qP ta a):AT M (tB ta) (Mi.cB a):=λe σ H Hv Q I h=>
 ha e σ H Hv _ I ((aw.mp h).mono λx hx v H1 Hv1 g1 rx=>by
  obtain⟨k,rfl,hk⟩:=A3 hx;exact⟨k,RD.bl rx,hk H1 Hv1 g1⟩)
theorem cR(ha:AE M qP ta a):AT M (vH ta) (Mi.cB a):=dR ha
theorem GD{K:aB}(ha:AE M qP ta a):AT M (λσ H Q=>ta σ H λx H'=>∃k,zF K x H' k/\Q k H') (Mi.qH a):=λe σ H Hv Q I h=>
 ha e σ H Hv _ I ((aw.mp h).mono λx hx v H1 Hv1 g1 rx=>by
  cases x with
  |non=>cases RD.non rx;exact⟨false,rfl,hx H1 Hv1 g1⟩
  |bl b=>cases RD.bl rx;exact⟨b,rfl,hx H1 Hv1 g1⟩
  |int i=>cases RD.int rx;exact⟨_,rfl,hx H1 Hv1 g1⟩
  |str y=>
   cases RD.str rx;obtain⟨hz,hq⟩:=Mi.cK hx;exact⟨_,⟨by rw[cD];exact hz,rfl⟩,hq H1 Hv1 g1⟩
  |lst ds=>
   obtain⟨p,xs,rfl,l,r⟩:=RD.lst g1.vw rx;refine⟨!xs.isEmpty,.inl ⟨xs,l.sq,rfl⟩,?_⟩;have:ds.isEmpty=xs.isEmpty:=by cases r<;>rfl
   rw[<- this];exact hx H1 Hv1 g1
  |tup ds=>
   obtain⟨p,xs,rfl,l,_,r⟩:=RD.tup g1.vw rx;refine⟨!xs.isEmpty,.inr (.inl ⟨xs,.inl (.inl l),rfl⟩),?_⟩;have:ds.isEmpty=xs.isEmpty:=by cases r<;>rfl
   rw[<- this];exact hx H1 Hv1 g1)
variable{tt uu:TT}{k l:Mi.C}
theorem DY(ha:AT M tt k)(hb:AT M uu l):AT M (FQ tt uu) (Mi.lu k l):=λe σ H Hv Q I h=>
 ha e σ H Hv _ I ((aw.mp h).mono λx hx H1 Hv1 g1=>by
  cases x with
  |true=>exact mB (hb e σ H1 Hv1 Q (I.grow g1) (Fin.mono (Mi.pF hx) λb hd H2 Hv2 g2=>hd H2 Hv2 (g1.trans g2)))
  |false=>exact mv ((Mi.lD (Mi.pz hx)) H1 Hv1 g1))
theorem oX(ha:AT M tt k)(hb:AT M uu l):AT M (DS tt uu) (Mi.fA k l):=λe σ H Hv Q I h=>
 ha e σ H Hv _ I ((aw.mp h).mono λx hx H1 Hv1 g1=>by
  cases x with
  |false=>exact mv (hb e σ H1 Hv1 Q (I.grow g1) (Fin.mono (Mi.pz hx) λb hd H2 Hv2 g2=>hd H2 Hv2 (g1.trans g2)))
  |true=>exact mB ((Mi.lD (Mi.pF hx)) H1 Hv1 g1))
theorem jO(ha:AT M tt k):AT M (D6 tt) (Mi.c9 k):=λe σ H Hv Q I h=>
 ha e σ H Hv _ I ((aw.mp h).mono λx hx H1 Hv1 g1=>hx H1 Hv1 g1)
theorem jw:AT M Ji Mi.cU:=λe σ H Hv Q I h=>h H Hv (.refl I.vw)
variable{tr:TA}{as:List Mi.E}{ws:List Mi.EW}
theorem aZ:AA M κ fg (Mi.iI []):=λe σ H Hv Q I h=>h [] H Hv (.refl I.vw) .nil
theorem aH[KM κ][KG κ](ha:AE M κ ta a)(hr:AA M κ tr (Mi.iI as)):AA M κ (dY ta tr) (Mi.iI (a::as)):=λe σ H Hv Q I h=>
 ha e σ H Hv _ I ((aw.mp h).mono λx hx v H1 Hv1 g1 rx=>hr e σ H1 Hv1 _ (I.grow g1) ((aw.mp hx).mono λxs hs vs H2 Hv2 g2 rs=>
  hs (v::vs) H2 Hv2 (g1.trans g2) (.cons (KG.go g2 rx) (rs.imp λ_ _ z=>KM.mono g1.old z))))
theorem cx:AAW M κ fg (Mi.cO []):=λe σ H Hv Q I h=>h [] H Hv (.refl I.vw) .nil
theorem bg[KM κ][KG κ]{w:Mi.EW}(ha:AW M κ ta w)(hr:AAW M κ tr (Mi.cO ws)):AAW M κ (dY ta tr) (Mi.cO (w::ws)):=λe σ H Hv Q I h=>
 ha e σ H Hv _ I ((aw.mp h).mono λx hx v H1 Hv1 g1 rx=>hr e σ H1 Hv1 _ (I.grow g1) ((aw.mp hx).mono λxs hs vs H2 Hv2 g2 rs=>
  hs (v::vs) H2 Hv2 (g1.trans g2) (.cons (KG.go g2 rx) (rs.imp λ_ _ z=>KM.mono g1.old z))))
theorem cu[KM κ]{r:List V->Hp->VK->Prop}{f:List D->Rs D}(hr:BN κ r f)(ha:AA M qP tr (Mi.iI as)):AE M κ (lL r tr) (Mi.mN f as):=λe σ H Hv Q I h=>
 ha e σ H Hv _ I ((aw.mp h).mono λds hx vs H1 Hv1 g1 rx=>hr ds vs H1 Hv1 Q g1.vw rx (hx.mono λd hd w H3 Hv3 g3 rw=>hd w H3 Hv3 (g1.trans g3) (KM.mono g1.old rw)))
theorem fZ(ha:AA M qV tr (Mi.iI as)):AE M qV (vU tr) (Mi.mN Mi.dTup as):=λe σ H Hv Q I h=>
 ha e σ H Hv _ I ((aw.mp h).mono λds hx vs H1 Hv1 g1 rx=>by
  obtain⟨hz,hq⟩:=Mi.cK hx;refine⟨by rw[<- rx.len,cD];exact hz,λp hp=>?_⟩;have g2:bt H1 Hv1 (upd H1 p (.tup vs)) (upd Hv1 p (.tup vs)):=.new g1.vw hp;exact hq _ _ _ (g1.trans g2) (kH.mpr ⟨p,vs,rfl,aY,eP g2.vis rx⟩))
theorem fE(ha:AA M qV tr (Mi.iI as)):AE M qN (Gp tr) (Mi.mN Mi.cF as):=λe σ H Hv Q I h=>
 ha e σ H Hv _ I ((aw.mp h).mono λds hx vs H1 Hv1 g1 rx=>by
  obtain⟨hz,hq⟩:=Mi.cK hx;refine⟨by rw[<- rx.len,cD];exact hz,λp hp=>?_⟩;have g2:bt H1 Hv1 (upd H1 p (.lst vs)) Hv1:=.uG g1.vw trivial hp;exact hq _ _ _ (g1.trans g2) ⟨p,.lst vs,rfl,g1.old.free hp,aY,rN g1.vw hp,rx⟩)
def bV(f:Mi.Fn):Sp:=λvs H Q _=>∃Hv ws,Vw H Hv/\P2 (gv Hv) ws vs/\Fin (f ws) (λw=>∀v H' Hv',bt H Hv H' Hv'->qV H H' Hv' w v->Q v H')
def eo(f:Mi.Fn):Sp:=λvs H Q _=>∃Hv ws,Vw H Hv/\P2 (gv Hv) ws vs/\Fin (f ws) (λw=>∀v H' Hv',bt H Hv H' Hv'->qN H H' Hv' w v->Q v H')
variable{fn:Mi.Fn}{E:XK}
theorem LD(ha:AAW M qV tr (Mi.cO ws)):AW M qV (lK (bV fn) [] E tr) (Mi.lC fn ws):=λe σ H Hv Q I h=>
 ha e σ H Hv _ I ((aw.mp h).mono λds hx vs H1 Hv1 g1 rx=>by
  rw[iN];exact⟨Hv1,ds,g1.vw,rx,hx.mono λd hd w H3 Hv3 g3 rw=>hd w H3 Hv3 (g1.trans g3) rw⟩)
theorem MK(ha:AAW M qV tr (Mi.cO ws)):AW M qN (lK (eo fn) [] E tr) (Mi.lC fn ws):=λe σ H Hv Q I h=>
 ha e σ H Hv _ I ((aw.mp h).mono λds hx vs H1 Hv1 g1 rx=>by
  rw[iN];exact⟨Hv1,ds,g1.vw,rx,hx.mono λd hd w H3 Hv3 g3 rw=>hd w H3 Hv3 (g1.trans g3) (KM.mono (κ:=qN) g1.old rw)⟩)
theorem R8{w:W}{k:D->Prop}(h:Fin (Mi.vP w) k):∃d,w=.d d/\k d:=by
 cases w with
 |d x=>exact⟨x,rfl,h⟩
 |_=>exact h.elim
theorem AW.d{w:Mi.EW}(h:AW M κ t w):AE M κ t (λe=>(w e).bind Mi.vP):=λe σ H Hv Q I q=>
 h e σ H Hv Q I ((aw.mp q).mono λw z v H' Hv' g k=>by
  obtain⟨d,rfl,z⟩:=R8 z;exact z v H' Hv' g k)
theorem eY(ha:AAW M qV tr (Mi.cO ws)):AE M qV (lK (bV fn) [] E tr) (Mi.bp fn ws):=(LD ha).d
theorem kG(ha:AAW M qV tr (Mi.cO ws)):AE M qN (lK (eo fn) [] E tr) (Mi.bp fn ws):=(MK ha).d
def j1(H:Hp):Hp:=λa=>match H a with
 |some (.tbl _ _)=>ae
 |x=>x
theorem mP{H:Hp}{a:ag}{o:HO}(h:H a=aa o)(n:NT o):j1 H a=aa o:=by unfold j1;rw[h];cases o<;>first|rfl|exact n.elim
theorem xz{H:Hp}{a:ag}{o:HO}(h:j1 H a=aa o):H a=aa o/\NT o:=by
 unfold j1 at h;cases q:H a with
 |none=>rw[q]at h;cases h
 |some u=>
  rw[q]at h;cases u with
  |tbl w ps=>cases h
  |_=>cases h;exact⟨rfl,trivial⟩
theorem Vw.all{H:Hp}(k:iF H):Vw H (j1 H):=⟨λa o e=>(xz e).1,λa xs e=>mP e trivial,λa o u e=>mP e trivial,k,λa o e=>(xz e).2⟩
theorem RB.Sg{H Hv:Hp}(v:Vw H Hv){w:W}{x:V}(h:RB H Hv w x):gv (j1 H) w x:=by
 have s:cV Hv (j1 H):=λa o e=>mP (v.sub a o e) (v.nv a o e);rcases h with h|⟨a,o,rfl,q,c⟩
 ·exact tZ s h
 ·exact A4 (mP q c.nt) (c.same s)
def seen(H Hv H':Hp):Hp:=λa=>match Hv a,H a with
 |none,aa _=>ae
 |_,_=>j1 H' a
theorem Qi{H Hv H':Hp}(v:Vw H Hv)(s:Old H H')(k':iF H'):bt H Hv H' (seen H Hv H'):=by
 have key:∀a,(∃o,H a=aa o/\Hv a=ae/\seen H Hv H' a=ae)\/(seen H Hv H' a=j1 H' a/\∀o,H a=aa o->Hv a=aa o):=λa=>by
  cases h1:Hv a with
  |none=>
   cases h2:H a with
   |none=>exact .inr ⟨by unfold seen;rw[h1,h2],λo e=>by cases e⟩
   |some o=>exact .inl ⟨o,rfl,rfl,by unfold seen;rw[h1,h2]⟩
  |some o=>
   refine .inr ⟨by unfold seen;rw[h1],λu e=>?_⟩;rw[v.sub a o h1]at e;exact e
 have back:∀b o,H' b=aa o->NT o->(∃u,H b=aa u)->∃u,H b=aa u:=λ_ _ _ _ z=>z;refine⟨s,λb o e=>?_,⟨λb o e=>?_,λb xs e=>?_,λb q u e=>?_,k',λb o e=>?_⟩,λb o e n=>?_⟩
 ·rcases key b with ⟨u,_,z,_⟩|⟨z,_⟩
  ·rw[e]at z;cases z
  ·rw[z];exact mP (s.nt b o (v.sub b o e) (v.nv b o e)) (v.nv b o e)
 ·rcases key b with ⟨u,_,_,z⟩|⟨z,_⟩
  ·rw[e]at z;cases z
  ·rw[z]at e;exact(xz e).1
 ·rcases key b with ⟨u,h1,h2,_⟩|⟨z,_⟩
  ·cases u with
   |tbl w ps=>exact absurd e (s.tab h1 trivial)
   |_=>
    have:=s.nt b _ h1 trivial;rw[e]at this;cases this
    try (rw[v.tup b xs h1]at h2;cases h2)
  ·rw[z];exact mP e trivial
 ·rcases key b with ⟨w,h1,h2,_⟩|⟨z,_⟩
  ·cases w with
   |tbl w ps=>exact absurd e (s.tab h1 trivial)
   |_=>
    have:=s.nt b _ h1 trivial;rw[e]at this;cases this
    try (rw[v.frz b q u h1]at h2;cases h2)
  ·rw[z];exact mP e trivial
 ·rcases key b with ⟨u,_,_,z⟩|⟨z,_⟩
  ·rw[e]at z;cases z
  ·rw[z]at e;exact(xz e).2
 ·rcases key b with ⟨u,h1,h2,z⟩|⟨z,k⟩
  ·exact z
  ·rw[k o e]at n;cases n
theorem Ek(ha:AAW M qP tr (Mi.cO ws)):AE M qV (lK (bV fn) [] E tr) (Mi.oN fn ws):=λe σ H Hv Q I h=>
 ha e σ H Hv _ I ((aw.mp (aw.mp h)).mono λds hx vs H1 Hv1 g1 rx=>by
  rw[iN];refine⟨j1 H1,ds,.all g1.vw.cd,rx.imp λw v z=>RB.Sg g1.vw z,hx.mono λw hd v H3 Hv3 g3 rw=>?_⟩;cases w with
  |d x=>
   obtain⟨hi,hd⟩:=Mi.cK hd;have g4:=Qi g1.vw g3.old g3.vw.cd;refine hd v H3 _ (g1.trans g4) (Fb g4.vw.tup hi (jJ g3.vw.sub rw))
  |_=>exact hd.elim)
end
end A
namespace A
open PySem L2 PyProof.Rows
open Mi (D W Rs Fin aw Out Tg)
variable[Tb:bD]
structure tP(J:It)(P:Hp->Hp->Prop)(ds:List D):Prop where
 go:∀i H Hv,P H Hv->Vw H Hv->i<ds.length->J.go i H
 yld:∀i H Hv x H',P H Hv->Vw H Hv->i<ds.length->J.yld i H x H'->∃Hv' d,bt H Hv H' Hv'/\ds[i]? = aa d/\Rep Hv' d x
 stop:∀H Hv,P H Hv->Vw H Hv->J.stop ds.length H
def AJ(M:Nat->Bool)(wi:TI)(it:Mi.I):Prop:=∀e σ H Hv (R:It->Hp->Prop),R0 M e σ H Hv->Fin (it e) (λds=>∀(J:It) H' Hv' (P:Hp->Hp->Prop),bt H Hv H' Hv'->tP J P ds->P H' Hv'->(∀H1 Hv1 H2 Hv2,P H1 Hv1->bt H1 Hv1 H2 Hv2->P H2 Hv2)->R J H')->wi σ H R
def iB(M:Nat->Bool)(wi:TI)(it:Mi.I):Prop:=∀e σ H Hv (R:It->Hp->Prop),R0 M e σ H Hv->Fin (it e) (λds=>∀(J:It) H' Hv' (P:Hp->Hp->Prop),bt H Hv H' Hv'->tP J P ds->P H' Hv'->(∀H1 Hv1 H2 Hv2,P H1 Hv1->cV Hv1 Hv2->Vw H2 Hv2->P H2 Hv2)->R J H')->wi σ H R
theorem jN{α:Type}{r:Rs α}{k:α->Prop}(h:Fin r k):∃x,r=.ok x/\k x:=by
 cases r with
 |ok x=>exact⟨x,rfl,h⟩
 |_=>exact h.elim
section
variable{M:Nat->Bool}{ta tb:TE}{a b:Mi.E}{wi:TI}{it:Mi.I}{tr:TA}{as:List Mi.E}
theorem iB.c(h:iB M wi it):AJ M wi it:=λe σ H Hv R I q=>h e σ H Hv R I (q.mono λds z J H' Hv' P g o p k=>z J H' Hv' P g o p λH1 Hv1 H2 Hv2 p g'=>k H1 Hv1 H2 Hv2 p g'.vis g'.vw)
theorem pc{J:It}{Ok:Hp->Prop}{xs:List V}(O:J.Of Ok xs){ds:List D}{P:Hp->Hp->Prop}(ok:∀H Hv,P H Hv->Vw H Hv->Ok H)(r:∀H Hv,P H Hv->P2 (Rep Hv) ds xs)(ex:∃H Hv,P H Hv):tP J P ds:=by
 have hl:ds.length=xs.length:=by obtain⟨H,Hv,p⟩:=ex;exact(r H Hv p).len
 refine⟨λi H Hv p v hi=>O.go i H (ok H Hv p v) (by omega),λi H Hv x H' p v hi y=>?_,λH Hv p v=>by rw[hl];exact O.stop H (ok H Hv p v)⟩;obtain⟨rfl,hx⟩:=O.yld i H x H' (ok H Hv p v) (by omega) y;obtain⟨d,hd,rx⟩:=(r H' Hv p).IJ hx;exact⟨Hv,d,.refl v,hd,rx⟩
def yX(K:aB)(tl:TE):TI:=λσ H R=>Gg K tl σ H R\/Eb K tl σ H R\/Ec tl σ H R
theorem eW{X:Cx}{tg l:aO}{tl:TE}(hl:PE X l tl):PI X tg l (yX X.K tl):=λaf s σ H R I h=>by
 rcases h with h|h|h
 ·exact Fd hl af s σ H R I h
 ·exact Oy hl af s σ H R I h
 ·exact Qf hl af s σ H R I h
theorem FX(H:Hp)(z:Str):P2 (Rep H) (z.cps.toList.map λc=>D.str ⟨#[c]⟩) (pZ z):=by
 unfold pZ
 induction z.cps.toList with
 |nil=>exact .nil
 |cons c r ih=>exact .cons (og.mpr rfl) ih
theorem js{K:aB}(ha:AE M qP ta a):AJ M (yX K ta) (Mi.bM a):=λe σ H Hv R I h=>by
 obtain⟨d,hd,h⟩:=jN (aw.mp h);have run:∀Q:VK,(∀v H' Hv',bt H Hv H' Hv'->RD H' Hv' d v->Q v H')->ta σ H Q:=λQ q=>ha e σ H Hv Q I (by rw[hd];exact q);cases d with
 |lst ds=>
  refine .inl (run _ λv H' Hv' g r=>?_);obtain⟨p,xs,rfl,l,r⟩:=RD.lst g.vw r;exact⟨p,rfl,⟨xs,l.sq⟩,h (tT K p) H' Hv' (λH Hv=>Lst H p xs/\P2 (Rep Hv) ds xs) g (pc zH (λH Hv p v=>p.1.sq) (λH Hv p=>p.2) ⟨H',Hv',l,r⟩) ⟨l,r⟩ λH1 Hv1 H2 Hv2 z g'=>⟨z.1.old g'.old,eP g'.vis z.2⟩⟩
 |tup ds=>
  refine .inr (.inl (run _ λv H' Hv' g r=>?_));obtain⟨p,xs,rfl,l,_,r⟩:=RD.tup g.vw r;exact⟨p,rfl,⟨xs,.inl (.inl l)⟩,h (uV K p) H' Hv' (λH Hv=>H p=aa (.tup xs)/\P2 (Rep Hv) ds xs) g (pc Fz (λH Hv p v=>.inl (.inl p.1)) (λH Hv p=>p.2) ⟨H',Hv',l,r⟩) ⟨l,r⟩ λH1 Hv1 H2 Hv2 z g'=>⟨g'.old.at z.1,eP g'.vis z.2⟩⟩
 |str z=>
  refine .inr (.inr (run _ λv H' Hv' g r=>?_));exact⟨z,RD.str r,h (oM z) H' Hv' (λ_ _=>True) g (pc F2 (λ_ _ _ _=>trivial) (λH Hv _=>FX Hv z) ⟨H,Hv,trivial⟩) trivial λ_ _ _ _ _ _=>trivial⟩
 |_=>exact h.elim
theorem mT{K:aB}(ha:AE M qV ta a):iB M (yX K ta) (Mi.bM a):=λe σ H Hv R I h=>by
 obtain⟨d,hd,h⟩:=jN (aw.mp h);have run:∀Q:VK,(∀v H' Hv',bt H Hv H' Hv'->Rep Hv' d v->Q v H')->ta σ H Q:=λQ q=>ha e σ H Hv Q I (by rw[hd];exact q);cases d with
 |lst ds=>
  refine .inl (run _ λv H' Hv' g r=>?_);obtain⟨p,xs,rfl,l,r⟩:=j7.mp r;exact⟨p,rfl,⟨xs,(l.same g.vw.sub).sq⟩,h (tT K p) H' Hv' (λH Hv=>Lst Hv p xs/\P2 (Rep Hv) ds xs) g (pc zH (λH Hv p v=>(p.1.same v.sub).sq) (λH Hv p=>p.2) ⟨H',Hv',l,r⟩) ⟨l,r⟩ λH1 Hv1 H2 Hv2 z s v=>⟨z.1.same s,eP s z.2⟩⟩
 |tup ds=>
  refine .inr (.inl (run _ λv H' Hv' g r=>?_));obtain⟨p,xs,rfl,l,r⟩:=kH.mp r;exact⟨p,rfl,⟨xs,.inl (.inl (g.vw.sub _ _ l))⟩,h (uV K p) H' Hv' (λH Hv=>Hv p=aa (.tup xs)/\P2 (Rep Hv) ds xs) g (pc Fz (λH Hv p v=>.inl (.inl (v.sub _ _ p.1))) (λH Hv p=>p.2) ⟨H',Hv',l,r⟩) ⟨l,r⟩ λH1 Hv1 H2 Hv2 z s v=>⟨s _ _ z.1,eP s z.2⟩⟩
 |str z=>
  refine .inr (.inr (run _ λv H' Hv' g r=>?_));exact⟨z,og.mp r,h (oM z) H' Hv' (λ_ _=>True) g (pc F2 (λ_ _ _ _=>trivial) (λH Hv _=>FX Hv z) ⟨H,Hv,trivial⟩) trivial λ_ _ _ _ _ _ _=>trivial⟩
 |_=>exact h.elim
theorem OA(H:Hp)(lo hi:Int):P2 (Rep H) (Mi.dJ lo hi) (oH lo (hi-lo).toNat):=by
 unfold Mi.dJ oH
 induction bx (hi-lo).toNat with
 |nil=>exact .nil
 |cons c r ih=>exact .cons (uj.mpr rfl) ih
theorem N0(lo hi:Int)(H Hv:Hp):tP (qG lo (hi-lo).toNat) (λ_ _=>True) (Mi.dJ lo hi):=pc L7 (λ_ _ _ _=>trivial) (λH Hv _=>OA Hv lo hi) ⟨H,Hv,trivial⟩
theorem i0(ha:AE M qP ta a):iB M (HW (dY ta fg)) (Mi.eG a):=λe σ H Hv R I h=>
 ha e σ H Hv _ I ((aw.mp h).mono λx hx v H1 Hv1 g1 rx=>by
  obtain⟨j,rfl,hk⟩:=xw (aw.mp hx);obtain⟨hz,hq⟩:=Mi.cK hk;cases RD.int rx;refine⟨j,rfl,hz.1,hz.2,?_⟩;have:=hq (qG 0 (j-0).toNat) H1 Hv1 _ g1 (N0 0 j H Hv) trivial λ_ _ _ _ _ _ _=>trivial;rw[Int.sub_zero]at this;exact this)
end
def v8:List Nat->iZ
 |[]=>ul
 |i::r=>ut (ii i) (v8 r)
def t8:Tg->List Nat
 |.n i=>[i]
 |.t is=>is
def xc(K:aB):Tg->TG
 |.n i=>ii i
 |.t is=>y4 K is.length (v8 is)
section
variable{P:Mi.Env->L2.St->Prop}{H Hv:Hp}
theorem zK:∀{is:List Nat} {ds:List D} {xs:List V} {e:Mi.Env} {σ:L2.St} {Q:L2.St->Hp->Prop},(∀i∈is,∀e σ d v,P e σ->Rep Hv d v->P (e.set i (aa (.d d))) (σ.set i (aa v)))->P e σ->P2 (Rep Hv) ds xs ->
 Fin (Mi.mj is ds e) (λe'=>∀σ',P e' σ'->Q σ' H)->v8 is xs σ H Q
 |[],[],xs,e,σ,Q,cl,p,r,h=>by
  cases r;exact⟨rfl,h σ p⟩
 |[],_::_,xs,e,σ,Q,cl,p,r,h=>h.elim
 |_::_,[],xs,e,σ,Q,cl,p,r,h=>h.elim
 |i::is,d::ds,xs,e,σ,Q,cl,p,r,h=>by
  cases r with
  |cons x t=>exact⟨_,_,rfl,zK (λj hj=>cl j (cy _ hj)) (cl i b8 _ _ _ _ p x) t h⟩
theorem Ay:∀{is:List Nat} {ds:List D} {e:Mi.Env} {k:Mi.Env->Prop},Fin (Mi.mj is ds e) k->ds.length=is.length
 |[],[],_,_,_=>rfl
 |[],_::_,_,_,h=>h.elim
 |_::_,[],_,_,h=>h.elim
 |i::is,d::ds,e,k,h=>by rw[dq,dq,Ay (is:=is) (ds:=ds) (k:=k) h]
theorem yR{K:aB}(vw:Vw H Hv){tg:Tg}{d:D}{v:V}{e:Mi.Env}{σ:L2.St}{Q:L2.St->Hp->Prop}(cl:∀i∈t8 tg,∀e σ d v,P e σ->Rep Hv d v->P (e.set i (aa (.d d))) (σ.set i (aa v)))(p:P e σ)(r:Rep Hv d v)
 (h:Fin (tg.put d e) (λe'=>∀σ',P e' σ'->Q σ' H)):xc K tg v σ H Q:=by
 cases tg with
 |n i=>exact h _ (cl i (by simp[t8]) _ _ _ _ p r)
 |t is=>
  cases d with
  |tup ds=>
   obtain⟨a,xs,e1,l,r⟩:=kH.mp r;exact⟨a,xs,e1,.inl (.inl (vw.sub _ _ l)),by rw[<- r.len];exact Ay h,zK cl p r h⟩
  |_=>exact h.elim
end
theorem kO{α:Type}{l:List α}{i j:Nat}{x y:α}(h:(l.set i x)[j]? = aa y):(i=j/\x=y/\i<l.length)\/(i≠j/\l[j]? = aa y):=by
 rw[BZ]at h;split at h
 ·split at h
  ·exact .inl ⟨‹_›,gZ h,by omega⟩
  ·cases h
 ·exact .inr ⟨‹_›,h⟩
theorem R0.set{M:Nat->Bool}{e:Mi.Env}{σ:L2.St}{H Hv:Hp}(I:R0 M e σ H Hv){i:Nat}{w:W}{v:V}(hm:M i=false)(r:gv Hv w v):R0 M (e.set i (aa w)) (σ.set i (aa v)) H Hv:=by
 refine⟨I.vw,by rw[jD,jD];exact I.len,λj w' h m=>?_,λj w' h m=>?_⟩
 ·rcases kO h with ⟨rfl,h,l⟩|⟨n,h⟩
  ·cases h;exact⟨v,by rw[lR (by rw[I.len];exact l)],r⟩
  ·obtain⟨u,q,z⟩:=I.nob j w' h m;exact⟨u,by rw[gc n];exact q,z⟩
 ·rcases kO h with ⟨rfl,h,l⟩|⟨n,h⟩
  ·rw[hm]at m;cases m
  ·obtain⟨u,q,z⟩:=I.own j w' h m;exact⟨u,by rw[gc n];exact q,z⟩
theorem R1.set{M:Nat->Bool}{H0 Hv0:Hp}{e:Mi.Env}{σ:L2.St}{H Hv:Hp}(I:R1 M H0 Hv0 e σ H Hv){i:Nat}{w:W}{v:V}(hm:M i=false)(r:gv Hv w v):R1 M H0 Hv0 (e.set i (aa w)) (σ.set i (aa v)) H Hv:=by
 have nj:∀{j:Nat} {w':W},(e.set i (aa w))[j]? = aa (aa w')->M j=true->i≠j/\e[j]? = aa (aa w'):=λ{j w'} h m=>by
  rcases kO h with ⟨rfl,_,_⟩|⟨n,h⟩
  ·rw[hm]at m;cases m
  ·exact⟨n,h⟩
 refine⟨I.toR0.set hm r,I.gw,λj w' a h m q=>?_,λj k w1 w2 a b hjk h1 h2 m1 m2 q1 q2=>?_⟩
 ·obtain⟨n,h⟩:=nj h m;rw[gc n]at q;exact I.fresh j w' a h m q
 ·obtain⟨n1,h1⟩:=nj h1 m1;obtain⟨n2,h2⟩:=nj h2 m2;rw[gc n1]at q1;rw[gc n2]at q2;exact I.sep j k w1 w2 a b hjk h1 h2 m1 m2 q1 q2
def oQ(ρ:List (Option Nat))(M:Nat->Bool):Nat->Bool:=λi=>match ρ[i]? with
 |some (aa j)=>M j
 |_=>false
theorem Gj{α:Type}{ρ:List (Option Nat)}{e:List (Option α)}{i:Nat}{w:α}(h:(ρ.map λo=>o.bind λj=>(e[j]?).join)[i]? = aa (aa w)):∃j,ρ[i]? = aa (aa j)/\e[j]? = aa (aa w):=by
 rw[eE]at h;cases hr:ρ[i]? with
 |none=>rw[hr]at h;cases h
 |some o=>
  rw[hr]at h;cases o with
  |none=>cases h
  |some j=>
   refine⟨j,rfl,?_⟩;have h:(e[j]?).join=aa w:=gZ h;cases hq:e[j]? with
   |none=>rw[hq]at h;cases h
   | some o' => rw [hq] at h; have h : o' = aa w := h
                rw[h]
theorem FJ{α:Type}{ρ:List (Option Nat)}{e:List (Option α)}{i j:Nat}{w:α}(h1:ρ[i]? = aa (aa j))(h2:e[j]? = aa (aa w)):(ρ.map λo=>o.bind λj=>(e[j]?).join)[i]? = aa (aa w):=by rw[eE,h1];show aa ((e[j]?).join)=_;rw[h2];rfl
theorem R0.pick{M:Nat->Bool}{e:Mi.Env}{σ:L2.St}{H Hv:Hp}(I:R0 M e σ H Hv)(ρ:List (Option Nat)):R0 (oQ ρ M) (Mi.jG ρ e) (L2.pick ρ σ) H Hv:=by
 refine⟨I.vw,by unfold Mi.jG L2.pick;rw[be,be],λi w h m=>?_,λi w h m=>?_⟩
 ·obtain⟨j,h1,h2⟩:=Gj h;have m:M j=false:=by unfold oQ at m;rw[h1]at m;exact m
  obtain⟨v,q,z⟩:=I.nob j w h2 m;exact⟨v,FJ h1 q,z⟩
 ·obtain⟨j,h1,h2⟩:=Gj h;have m:M j=true:=by unfold oQ at m;rw[h1]at m;exact m
  obtain⟨v,q,z⟩:=I.own j w h2 m;exact⟨v,FJ h1 q,z⟩
theorem Mw{tg:Tg}{c:Mi.C}{a:Mi.E}{e:Mi.Env}{x:D}{r:List D}{k:List D->Prop}(h:Fin (Mi.dG tg c a e (x::r)) k) :
 Fin (tg.put x e) λe1=>Fin (c e1) λb=>if b=true then Fin (a e1) λy=>Fin (Mi.dG tg c a e r) λys=>k (y::ys)else Fin (Mi.dG tg c a e r) k:=by
 refine(aw.mp h).mono λe1 h1=>(aw.mp h1).mono λb h2=>?_;cases b with
 |true=>exact mB ((aw.mp (Mi.pF h2)).mono λy h3=>(aw.mp h3).mono λys h4=>h4)
 |false=>exact mv (Mi.pz h2)
theorem fb{M:Nat->Bool}{K:aB}{ρ:List (Option Nat)}{wi:TI}{it:Mi.I}{tg:Tg}{tc:TT}{c:Mi.C}{te:TE}{a:Mi.E}(hi:AJ M wi it)(hm:∀i∈t8 tg,oQ ρ M i=false)(hc:AT (oQ ρ M) tc c)(he:AE (oQ ρ M) qV te a) :
 AE M qN (wj wi ρ (xc K tg) tc te) (Mi.bX ρ it tg c a):=λe σ H Hv Q I h=>
 hi e σ H Hv _ I ((aw.mp h).mono λds h1 J H1 Hv1 P g1 O p1 per=>by
  obtain⟨hz,h1⟩:=Mi.cK h1;have h1:=aw.mp h1;have I1:=I.grow g1;refine⟨λi m acc H'=>m=ds.length-i/\i<=ds.length/\∃Hv',bt H1 Hv1 H' Hv'/\P H' Hv'/\acc.length<=i/\∃done,P2 (Rep Hv') done acc/\Fin (Mi.dG tg c a (Mi.jG ρ e) (ds.drop i)) λys=>∀v H2 Hv2,bt H Hv H2 Hv2->qN H H2 Hv2 (.d (.lst (done++ys))) v->Q v H2,
   ⟨ds.length,by simp,ft _,Hv1,.refl g1.vw,p1,bu _,[],.nil,by rw[sI];exact h1.mono λys z=>z⟩,?_⟩
  rintro i m acc H' ⟨rfl,hle,Hv',g,pp,l,done,pd,hf⟩;by_cases hlt:i<ds.length
  ·refine .inr ⟨O.go i H' Hv' pp g.vw hlt,by rw[cD];omega,λacc' H2=>∃Hv2,bt H1 Hv1 H2 Hv2/\P H2 Hv2/\acc'.length<=i+1/\∃done,P2 (Rep Hv2) done acc'/\Fin (Mi.dG tg c a (Mi.jG ρ e) (ds.drop (i+1))) λys=>∀v H3 Hv3,bt H Hv H3 Hv3->qN H H3 Hv3 (.d (.lst (done++ys))) v->Q v H3,
    λacc' H2 z=>⟨ds.length-(i+1),by omega,rfl,hlt,z⟩,λx H2 y=>?_⟩
   obtain⟨Hv2,d,g2,hd,rx⟩:=O.yld i H' Hv' x H2 pp g.vw hlt y;have g12:=g.trans g2;have hdr:ds.drop i=d::ds.drop (i+1):=by obtain⟨hl,e1⟩:=dm.mp hd;rw[ni hl,e1]
   rw[hdr]at hf;have hf:=Mw hf;refine yR (P:=λe1 σ1=>R0 (oQ ρ M) e1 σ1 H2 Hv2) g2.vw (λj hj e1 σ1 d1 v1 r1 z=>r1.set (hm j hj) z) ((I1.grow g12).pick ρ) rx (hf.mono λe1 hf1 σ1 r1=>?_);refine hc e1 σ1 H2 Hv2 _ r1 (hf1.mono λb hb H3 Hv3 g3=>?_);cases b with
   |true=>
    refine mB (he e1 σ1 H3 Hv3 _ (r1.grow g3) (Fin.mono (by simpa using hb) λy hy v H4 Hv4 g4 ry=>?_));exact⟨Hv4,g12.trans (g3.trans g4),per _ _ _ _ pp (g2.trans (g3.trans g4)),by rw[d6,u4];omega,done++[y],(eP (g2.trans (g3.trans g4)).vis pd).append (.cons ry .nil),hy.mono λys z v H5 Hv5 g5 k=>z v H5 Hv5 g5 (by rw[sF]at k;exact k)⟩
   |false=>exact mv ⟨Hv3,g12.trans g3,per _ _ _ _ pp (g2.trans g3),by omega,done,eP (g2.trans g3).vis pd,by simpa using hb⟩
  ·have hi:i=ds.length:=by omega
   subst hi;refine .inl ⟨O.stop H' Hv' pp g.vw,λp hp=>?_⟩;rw[uZ (bu _)]at hf;have g2:bt H' Hv' (upd H' p (.lst acc)) Hv':=.uG g.vw trivial hp;refine hf _ _ _ (g1.trans (g.trans g2)) ⟨p,.lst acc,rfl,(g1.old.trans g.old).free hp,aY,rN g.vw hp,?_⟩;show P2 (Rep Hv') (done++[]) acc;rw[iN];exact pd)
def i8(M:Nat->Bool)(κ:Kd)(H0 Hv0:Hp)(D:Ends)(Hv:Hp):Out->Prop
 |.nx e=>∀σ H' Hv',R1 M H0 Hv0 e σ H' Hv'->cV Hv Hv'->D.nx σ H'
 |.rt w=>∀v H' Hv',bt H0 Hv0 H' Hv'->κ H0 H' Hv' w v->D.rt v H'
 |.bk e=>∀σ H' Hv',R1 M H0 Hv0 e σ H' Hv'->cV Hv Hv'->D.bk σ H'
 |.ct e=>∀σ H' Hv',R1 M H0 Hv0 e σ H' Hv'->cV Hv Hv'->D.ct σ H'
def AS(M:Nat->Bool)(κ:Kd)(t:TS)(m:Mi.S):Prop:=∀H0 Hv0 e σ H Hv D,R1 M H0 Hv0 e σ H Hv->Fin (m e) (i8 M κ H0 Hv0 D Hv)->t D σ H
section
variable{M:Nat->Bool}{κ:Kd}{t u:TS}{m n:Mi.S}{te:TE}{a b:Mi.E}{w:Mi.EW}
theorem bW:AS M κ DX Mi.bf:=λH0 Hv0 e σ H Hv D I h=>h σ H Hv I (cV.refl _)
theorem oF:AS M κ Im Mi.m9:=λH0 Hv0 e σ H Hv D I h=>h
theorem aS(h1:AS M κ t m)(h2:AS M κ u n):AS M κ (Bn t u) (Mi.aA m n):=λH0 Hv0 e σ H Hv D I h=>
 h1 H0 Hv0 e σ H Hv _ I ((aw.mp h).mono λo ho=>by
  cases o with
  |nx e'=>exactλσ' H' Hv' I' s=>h2 H0 Hv0 e' σ' H' Hv' D I' (Fin.mono ho λo z=>by
   cases o with
   |nx e2=>exactλσ2 H2 Hv2 I2 s2=>z σ2 H2 Hv2 I2 (s.trans s2)
   |rt w=>exact z
   |bk e2=>exactλσ2 H2 Hv2 I2 s2=>z σ2 H2 Hv2 I2 (s.trans s2)
   |ct e2=>exactλσ2 H2 Hv2 I2 s2=>z σ2 H2 Hv2 I2 (s.trans s2))
  |rt w=>exact ho
  |bk e'=>exact ho
  |ct e'=>exact ho)
theorem uS(ha:AE M qP te a):AS M κ (tF te) (Mi.pH a):=λH0 Hv0 e σ H Hv D I h=>
 ha e σ H Hv _ I.toR0 ((aw.mp h).mono λd hd v H1 Hv1 g1 r=>hd σ H1 Hv1 (I.grow g1) g1.vis)
theorem ce(i:Nat)(hm:M i=false)(ha:AE M qV te a):AS M κ (kN te (ii i)) (Mi.bc i a):=λH0 Hv0 e σ H Hv D I h=>
 ha e σ H Hv _ I.toR0 ((aw.mp h).mono λd hd v H1 Hv1 g1 r=>hd _ H1 Hv1 ((I.grow g1).set hm r) g1.vis)
theorem NL(i:Nat)(hm:M i=false)(ha:AW M qV te w):AS M κ (kN te (ii i)) (Mi.nQ i w):=λH0 Hv0 e σ H Hv D I h=>
 ha e σ H Hv _ I.toR0 ((aw.mp h).mono λd hd v H1 Hv1 g1 r=>hd _ H1 Hv1 ((I.grow g1).set hm r) g1.vis)
theorem dX(ha:AW M qV te w):AS M qV (wQ te) (Mi.bG w):=λH0 Hv0 e σ H Hv D I h=>
 ha e σ H Hv _ I.toR0 ((aw.mp h).mono λd hd v H1 Hv1 g1 r=>hd v H1 Hv1 (I.gw.trans g1) r)
theorem mR(ha:AW M qN te w):AS M qN (wQ te) (Mi.bG w):=λH0 Hv0 e σ H Hv D I h=>
 ha e σ H Hv _ I.toR0 ((aw.mp h).mono λd hd v H1 Hv1 g1 r=>hd v H1 Hv1 (I.gw.trans g1) (KM.mono (κ:=qN) I.gw.old r))
theorem cI{tt:TT}{c:Mi.C}(hc:AT M tt c)(h1:AS M κ t m)(h2:AS M κ u n):AS M κ (zo tt t u) (Mi.a9 c m n):=λH0 Hv0 e σ H Hv D I h=>
 hc e σ H Hv _ I.toR0 ((aw.mp h).mono λb hb H1 Hv1 g1=>by
  have up:∀o,i8 M κ H0 Hv0 D Hv o->i8 M κ H0 Hv0 D Hv1 o:=λo z=>by
   cases o with
   |nx e2=>exactλσ2 H2 Hv2 I2 s2=>z σ2 H2 Hv2 I2 (g1.vis.trans s2)
   |rt w=>exact z
   |bk e2=>exactλσ2 H2 Hv2 I2 s2=>z σ2 H2 Hv2 I2 (g1.vis.trans s2)
   |ct e2=>exactλσ2 H2 Hv2 I2 s2=>z σ2 H2 Hv2 I2 (g1.vis.trans s2)
  cases b with
  |true=>exact mB (h1 H0 Hv0 e σ H1 Hv1 D (I.grow g1) (Fin.mono (Mi.pF hb) up))
  |false=>exact mv (h2 H0 Hv0 e σ H1 Hv1 D (I.grow g1) (Fin.mono (Mi.pz hb) up)))
theorem i8.up{H0 Hv0 Hv Hv1:Hp}{D:Ends}(s:cV Hv Hv1){o:Out}(z:i8 M κ H0 Hv0 D Hv o):i8 M κ H0 Hv0 D Hv1 o:=by
 cases o with
 |nx e2=>exactλσ2 H2 Hv2 I2 s2=>z σ2 H2 Hv2 I2 (s.trans s2)
 |rt w=>exact z
 |bk e2=>exactλσ2 H2 Hv2 I2 s2=>z σ2 H2 Hv2 I2 (s.trans s2)
 |ct e2=>exactλσ2 H2 Hv2 I2 s2=>z σ2 H2 Hv2 I2 (s.trans s2)
theorem jm{K:aB}{wi:TI}{it:Mi.I}{tg:Tg}(hi:iB M wi it)(hm:∀i∈t8 tg,M i=false)(hb:AS M κ t m):AS M κ (zd wi (xc K tg) t) (Mi.eM it tg m):=λH0 Hv0 e σ H Hv D I h=>
 hi e σ H Hv _ I.toR0 ((aw.mp h).mono λds h1 J H1 Hv1 P g1 O p1 per=>by
  refine⟨λi k σ' H'=>k=ds.length-i/\i<=ds.length/\∃e' Hv',R1 M H0 Hv0 e' σ' H' Hv'/\P H' Hv'/\Fin (Mi.dB tg m (ds.drop i) e') (i8 M κ H0 Hv0 D Hv'),
   ⟨ds.length,by simp,ft _,e,Hv1,I.grow g1,p1,by rw[sI];exact h1.mono λo z=>z.up g1.vis⟩,?_⟩
  rintro i k σ' H' ⟨rfl,hle,e',Hv',I',pp,hf⟩;by_cases hlt:i<ds.length
  ·refine .inr ⟨O.go i H' Hv' pp I'.vw hlt,λσ2 H2=>∃e2 Hv2,R1 M H0 Hv0 e2 σ2 H2 Hv2/\P H2 Hv2/\Fin (Mi.dB tg m (ds.drop (i+1)) e2) (i8 M κ H0 Hv0 D Hv2),
    λσ2 H2 z=>⟨ds.length-(i+1),by omega,rfl,hlt,z⟩,λx H2 y=>?_⟩
   obtain⟨Hv2,d,g2,hd,rx⟩:=O.yld i H' Hv' x H2 pp I'.vw hlt y;have I2:=I'.grow g2;have hdr:ds.drop i=d::ds.drop (i+1):=by obtain⟨hl,e1⟩:=dm.mp hd;rw[ni hl,e1]
   rw[hdr]at hf;refine yR (P:=λe1 σ1=>R1 M H0 Hv0 e1 σ1 H2 Hv2) g2.vw (λj hj e1 σ1 d1 v1 r1 z=>r1.set (hm j hj) z) I2 rx ((aw.mp hf).mono λe1 h1 σ1 I1=>?_);refine hb H0 Hv0 e1 σ1 H2 Hv2 _ I1 ((aw.mp h1).mono λo ho=>?_);cases o with
   |nx e2=>exactλσ2 H3 Hv3 I3 s3=>⟨e2,Hv3,I3,per _ _ _ _ pp (g2.vis.trans s3) I3.vw,Fin.mono ho λo z=>z.up (g2.vis.trans s3)⟩
   |ct e2=>exactλσ2 H3 Hv3 I3 s3=>⟨e2,Hv3,I3,per _ _ _ _ pp (g2.vis.trans s3) I3.vw,Fin.mono ho λo z=>z.up (g2.vis.trans s3)⟩
   |bk e2=>exactλσ2 H3 Hv3 I3 s3=>ho σ2 H3 Hv3 I3 (g2.vis.trans s3)
   |rt w=>exact ho
  ·have hi:i=ds.length:=by omega
   subst hi;refine .inl ⟨O.stop H' Hv' pp I'.vw,?_⟩;rw[uZ (bu _)]at hf;exact hf σ' H' Hv' I' (cV.refl _))
theorem IS{tt:TT}{c:Mi.C}(k:Nat)(hc:AT M tt c)(hb:AS M κ t m):AS M κ (F0 tt t) (Mi.uP k c m):=λH0 Hv0 e σ H Hv D I h=>by
 refine⟨λj σ' H'=>∃e' Hv',R1 M H0 Hv0 e' σ' H' Hv'/\Fin (Mi.ik c m j e') (i8 M κ H0 Hv0 D Hv'),⟨k,e,Hv,I,h⟩,?_⟩;rintro j σ' H' ⟨e',Hv',I',hf⟩;cases j with
 |zero=>exact hf.elim
 |succ j=>
  refine hc e' σ' H' Hv' _ I'.toR0 ((aw.mp hf).mono λb hb' H1 Hv1 g1=>?_);cases b with
  |false=>exact mv ((Mi.lD (Mi.pz hb')) σ' H1 Hv1 (I'.grow g1) g1.vis)
  |true=>
   refine mB ⟨λσ2 H2=>∃e2 Hv2,R1 M H0 Hv0 e2 σ2 H2 Hv2/\Fin (Mi.ik c m j e2) (i8 M κ H0 Hv0 D Hv2),λσ2 H2 z=>⟨j,Nat.lt_succ_self j,z⟩,?_⟩;refine hb H0 Hv0 e' σ' H1 Hv1 _ (I'.grow g1) ((aw.mp (Mi.pF hb')).mono λo ho=>?_);cases o with
   |nx e2=>exactλσ2 H2 Hv2 I2 s2=>⟨e2,Hv2,I2,Fin.mono ho λo z=>z.up (g1.vis.trans s2)⟩
   |ct e2=>exactλσ2 H2 Hv2 I2 s2=>⟨e2,Hv2,I2,Fin.mono ho λo z=>z.up (g1.vis.trans s2)⟩
   |bk e2=>exactλσ2 H2 Hv2 I2 s2=>ho σ2 H2 Hv2 I2 (g1.vis.trans s2)
   |rt w=>exact ho
end
section
variable{M:Nat->Bool}{κ:Kd}{te:TE}{a b:Mi.E}{w:Mi.EW}{K:aB}
theorem R1.write{H0 Hv0:Hp}{e:Mi.Env}{σ:L2.St}{H Hv:Hp}(I:R1 M H0 Hv0 e σ H Hv){i:Nat}{w w':W}{p:ag}{o:HO}(hm:M i=true)(he:e[i]? = aa (aa w))(hs:σ[i]? = aa (aa (.ref p)))(c:eI Hv w' o):R1 M H0 Hv0 (e.set i (aa w')) σ (upd H p o) Hv:=by
 have hp:∃o',H p=aa o'/\Hv p=ae/\tI o':=by obtain⟨v,q,a,o',e1,q1,n,c'⟩:=I.own i w he hm;rw[hs]at q;cases q;cases e1;exact⟨o',q1,n,c'.DE⟩
 obtain⟨o',hp,hn,hcc⟩:=hp;have h0:H0 p=ae:=I.fresh i w p he hm hs;have vw:Vw (upd H p o) Hv:=by
  refine⟨λb u q=>?_,λb xs q=>?_,λb z u q=>?_,I.vw.cd.put hp hcc c.nw,I.vw.nv⟩
  ·rw[av (cQ q hn)];exact I.vw.sub b u q
  ·by_cases hb:b=p
   ·subst hb;rw[aY]at q;cases q;exact c.cell.elim
   ·rw[av hb]at q;exact I.vw.tup b xs q
  ·by_cases hb:b=p
   ·subst hb;rw[aY]at q;cases q;exact c.cell.elim
   ·rw[av hb]at q;exact I.vw.frz b z u q
 have get:∀{j:Nat} {w2:W},(e.set i (aa w'))[j]? = aa (aa w2)->(i=j/\w'=w2)\/(i≠j/\e[j]? = aa (aa w2)):=λ{j w2} h=>by
  rcases kO h with ⟨x,y,_⟩|z
  ·exact .inl ⟨x,gZ y⟩
  ·exact .inr z
 have get':∀{j:Nat} {w2:W},(e.set i (aa w'))[j]? = aa (aa w2)->∃w3,e[j]? = aa (aa w3):=λ{j w2} h=>by
  rcases get h with ⟨x,_⟩|⟨_,z⟩
  ·subst x;exact⟨w,he⟩
  ·exact⟨w2,z⟩
 refine⟨⟨vw,by rw[jD];exact I.len,λj w2 h m=>?_,λj w2 h m=>?_⟩,⟨I.gw.old.put h0 hp,I.gw.vis,vw,I.gw.hid⟩,λj w2 x h m q=>?_,λj k w1 w2 x y hjk h1 h2 m1 m2 q1 q2=>?_⟩
 ·rcases get h with ⟨rfl,_⟩|⟨_,z⟩
  ·rw[hm]at m;cases m
  ·exact I.nob j w2 z m
 ·rcases get h with ⟨rfl,rfl⟩|⟨n,z⟩
  ·exact⟨.ref p,hs,p,o,rfl,aY,hn,c⟩
  ·obtain⟨v,q,x,u,e1,q1,n1,c1⟩:=I.own j w2 z m;subst e1;have:=I.sep i j w w2 p x n he z hm m hs q;exact⟨.ref x,q,x,u,rfl,by rw[av (bU this)];exact q1,n1,c1⟩
 ·obtain⟨w3,z⟩:=get' h;exact I.fresh j w3 x z m q
 ·obtain⟨w3,z3⟩:=get' h1;obtain⟨w4,z4⟩:=get' h2;exact I.sep j k w3 w4 x y hjk z3 z4 m1 m2 q1 q2
theorem R1.cell{H0 Hv0:Hp}{e:Mi.Env}{σ:L2.St}{H Hv:Hp}(I:R1 M H0 Hv0 e σ H Hv){i:Nat}{w:W}(hm:M i=true)(he:e[i]? = aa (aa w)):∃p o,σ[i]? = aa (aa (.ref p))/\H p=aa o/\Hv p=ae/\H0 p=ae/\eI Hv w o:=by obtain⟨v,q,p,o,rfl,q1,n,c⟩:=I.own i w he hm;exact⟨p,o,q,q1,n,I.fresh i w p he hm q,c⟩
theorem vx{e:Mi.Env}{i:Nat}{k:List D->Prop}(h:Fin (Mi.getL e i) k):∃ds,e[i]? = aa (aa (.d (.lst ds)))/\k ds:=by
 unfold Mi.getL at h;split at h
 ·exact⟨_,‹_›,h⟩
 ·exact h.elim
theorem R1.list{H0 Hv0:Hp}{e:Mi.Env}{σ:L2.St}{H Hv:Hp}(I:R1 M H0 Hv0 e σ H Hv){i:Nat}{ds:List D}(hm:M i=true)(he:e[i]? = aa (aa (.d (.lst ds)))):∃p xs,σ[i]? = aa (aa (.ref p))/\H p=aa (.lst xs)/\Hv p=ae/\P2 (Rep Hv) ds xs:=by
 obtain⟨p,o,q,q1,n,_,c⟩:=I.cell hm he;cases o with
 |lst xs=>exact⟨p,xs,q,q1,n,c⟩
 |_=>exact c.elim
theorem R1.name{H0 Hv0:Hp}{e:Mi.Env}{σ:L2.St}{H Hv H1 Hv1:Hp}(I:R1 M H0 Hv0 e σ H Hv)(g:bt H Hv H1 Hv1){i:Nat}{w:W}{v:V}(hm:M i=true)(k:qN H H1 Hv1 w v):R1 M H0 Hv0 (e.set i (aa w)) (σ.set i (aa v)) H1 Hv1:=by
 obtain⟨p,o,rfl,hf,hp,hn,c⟩:=k;have I1:=I.grow g;have other:∀{j:Nat} {w2:W} {x:ag},e[j]? = aa (aa w2)->M j=true->σ[j]? = aa (aa (.ref x))->x≠p:=λ{j w2 x} h m q=>by
  obtain⟨p',o',q',q1,_⟩:=I.cell m h;rw[q]at q';cases q';exact cQ q1 hf
 refine⟨⟨I1.vw,by rw[jD,jD];exact I.len,λj w2 h m=>?_,λj w2 h m=>?_⟩,I1.gw,λj w2 x h m q=>?_,λj k w1 w2 x y hjk h1 h2 m1 m2 q1 q2=>?_⟩
 ·rcases kO h with ⟨rfl,_⟩|⟨n,z⟩
  ·rw[hm]at m;cases m
  ·obtain⟨u,q,r⟩:=I1.nob j w2 z m;exact⟨u,by rw[gc n];exact q,r⟩
 ·rcases kO h with ⟨rfl,h,l⟩|⟨n,z⟩
  ·cases h;exact⟨.ref p,by rw[lR (by rw[I.len];exact l)],p,o,rfl,hp,hn,c⟩
  ·obtain⟨u,q,r⟩:=I1.own j w2 z m;exact⟨u,by rw[gc n];exact q,r⟩
 ·rcases kO h with ⟨rfl,h,l⟩|⟨n,z⟩
  ·rw[lR (by rw[I.len];exact l)]at q;cases q;exact I.gw.old.free hf
  ·rw[gc n]at q;exact I.fresh j w2 x z m q
 ·rcases kO h1 with ⟨rfl,_,l⟩|⟨n,z⟩
  ·rw[lR (by rw[I.len];exact l)]at q1;cases q1;rcases kO h2 with ⟨rfl,_,_⟩|⟨n2,z2⟩
   ·exact absurd rfl hjk
   ·rw[gc n2]at q2;exact bU (other z2 m2 q2)
  ·rw[gc n]at q1;rcases kO h2 with ⟨rfl,_,l⟩|⟨n2,z2⟩
   ·rw[lR (by rw[I.len];exact l)]at q2;cases q2;exact other z m1 q1
   ·rw[gc n2]at q2;exact I.sep j k w1 w2 x y hjk z z2 m1 m2 q1 q2
theorem pT(i:Nat)(hm:M i=true)(ha:AE M qN te a):AS M κ (kN te (ii i)) (Mi.bc i a):=λH0 Hv0 e σ H Hv D I h=>
 ha e σ H Hv _ I.toR0 ((aw.mp h).mono λd hd v H1 Hv1 g1 r=>hd _ H1 Hv1 (I.name g1 hm r) g1.vis)
theorem wc(i:Nat)(hm:M i=true)(ha:AW M qN te w):AS M κ (kN te (ii i)) (Mi.nQ i w):=λH0 Hv0 e σ H Hv D I h=>
 ha e σ H Hv _ I.toR0 ((aw.mp h).mono λd hd v H1 Hv1 g1 r=>hd _ H1 Hv1 (I.name g1 hm r) g1.vis)
theorem Hl:AW M qN Gd (λ_=>.ok (.dk [])):=λe σ H Hv Q I h p hp=>
 h _ _ Hv (.uG I.vw trivial hp) ⟨p,.dK [],rfl,hp,aY,rN I.vw hp,.nil⟩
theorem DU:AW M qN DO (λ_=>.ok (.dt [])):=λe σ H Hv Q I h p hp=>
 h _ _ Hv (.uG I.vw trivial hp) ⟨p,.dT [],rfl,hp,aY,rN I.vw hp,.nil⟩
theorem kD(i:Nat)(hm:M i=true)(ha:AE M qV te a):AS M κ (tF (uI K "list" Be (eZ i) (dY te fg))) (Mi.fe i a):=λH0 Hv0 e σ H Hv D I h=>by
 obtain⟨d,hd,h⟩:=jN (aw.mp h);obtain⟨ds,he,h⟩:=vx (aw.mp h);obtain⟨hz,h⟩:=Mi.cK h;obtain⟨p,xs,q,q1,n,c⟩:=I.list hm he;refine⟨.ref p,q,.inl ⟨rfl,xs,.inl (.inl q1)⟩,ha e σ H Hv _ I.toR0 (by
  rw[hd];intro v H1 Hv1 g1 r;have I1:=I.grow g1;refine⟨p,xs,v,rfl,rfl,g1.old.at q1,by rw[<- c.len,cD];exact hz,?_⟩;exact h σ _ Hv1 (I1.write hm he q (show eI Hv1 (.d (.lst (ds++[d]))) (.lst (xs++[v]))from(eP g1.vis c).append (.cons r .nil))) g1.vis)⟩
theorem iW{α:Type}{o:Option α}{k:α->Prop}(h:Fin (Mi.dh o) k):∃x,o=aa x/\k x:=by
 cases o with
 |some x=>exact⟨x,rfl,h⟩
 |none=>exact h.elim
theorem Pg{n:Nat}{i:Int}{k:Nat}(h:Mi.eX n i=aa k):seqIndex? i n=aa k:=by
 unfold Mi.eX at h;split at h
 ·split at h
  ·rw[xL (by omega) (by omega)];exact h
  ·cases h
 ·split at h
  ·rw[xK (by omega) (by omega)];exact h
  ·cases h
theorem RA{ds:List D}{i:Int}{k:D×List D->Prop}(h:Fin (Mi.vY ds i) k):-(2 ^ 63)<=i/\i<2 ^ 63/\∃j d,Mi.eX ds.length i=aa j/\ds[j]? = aa d/\k (d,ds.eraseIdx j):=by obtain⟨⟨h1,h2⟩,h⟩:=Mi.cK h;obtain⟨j,hj,h⟩:=iW (aw.mp h);obtain⟨d,hd,h⟩:=iW (aw.mp h);exact⟨h1,h2,j,d,hj,hd,h⟩
theorem NZ(x y:Nat)(hxy:x≠y)(hx:M x=true)(hy:M y=true)(ha:AE M qP te a):AS M κ (tF (uI K "list" Be (eZ x) (dY (uI K "list" Ie (eZ y) (dY te fg)) fg))) (Mi.wa x y a):=λH0 Hv0 e σ H Hv D I h=>by
 obtain⟨z,hz,h⟩:=jN (aw.mp h);obtain⟨i,rfl,h⟩:=xw (aw.mp h);obtain⟨ds,he,h⟩:=vx (aw.mp h);obtain⟨h1,h2,j,d,hj,hd,h⟩:=RA (aw.mp h);obtain⟨es,he2,h⟩:=vx (aw.mp h);obtain⟨hsz,h⟩:=Mi.cK h;have KP:e[x]? = aa (aa (.d (.lst es))):=by
  have he2:(e.set y (aa (.d (.lst (ds.eraseIdx j)))))[x]? = _:=he2
  rwa [gc (bU hxy)]at he2
 obtain⟨p,xs,q,q1,n,c⟩:=I.list hy he;obtain⟨p',xs',q',q1',n',c'⟩:=I.list hx KP;have hpp:p'≠p:=I.sep x y _ _ p' p hxy KP he hx hy q' q;refine⟨.ref p',q',.inl ⟨rfl,xs',.inl (.inl q1')⟩,.ref p,q,.inl ⟨rfl,xs,.inl (.inl q1)⟩,ha e σ H Hv _ I.toR0 (by
  rw[hz];intro v H1 Hv1 g1 r;have I1:=I.grow g1;cases RD.int r;obtain⟨u,hu,ru⟩:=c.getL hd;rw[c.len]at hj;refine⟨p,xs,i,j,u,rfl,rfl,g1.old.at q1,h1,h2,Pg hj,hu,?_⟩;have I2:=I1.write hy he q (show eI Hv1 (.d (.lst (ds.eraseIdx j))) (.lst (xs.eraseIdx j))from(eP g1.vis c).erase j);refine⟨p',xs',u,rfl,rfl,by rw[av hpp];exact g1.old.at q1',by rw[<- c'.len,cD];exact hsz,?_⟩;exact h σ _ Hv1 (I2.write hx he2 q' (show eI Hv1 (.d (.lst (es++[d]))) (.lst (xs'++[u]))from(eP g1.vis c').append (.cons (jJ g1.vis ru) .nil))) g1.vis)⟩
theorem N6{tk:TE}{k:Mi.E}(x:Nat)(hx:M x=true)(ha:AE M qV te a)(hk:AE M qP tk k):AS M κ (kN te (DC (eZ x) tk GA)) (Mi.vE x k a):=λH0 Hv0 e σ H Hv D I h=>by
 obtain⟨d,hd,h⟩:=jN (aw.mp h);obtain⟨z,hz,h⟩:=jN (aw.mp h);obtain⟨i,rfl,h⟩:=xw (aw.mp h);obtain⟨ds,he,h⟩:=vx (aw.mp h);obtain⟨j,hj,h⟩:=iW (aw.mp h);obtain⟨p,xs,q,q1,n,c⟩:=I.list hx he;refine ha e σ H Hv _ I.toR0 (by
  rw[hd];intro v H1 Hv1 g1 r;refine⟨.ref p,q,hk e σ H1 Hv1 _ (I.toR0.grow g1) (by
   rw[hz];intro v2 H2 Hv2 g2 r2;cases RD.int r2;have I2:=(I.grow g1).grow g2;rw[c.len]at hj;refine⟨p,xs,i,j,rfl,rfl,g2.old.at (g1.old.at q1),hj,?_⟩;exact h σ _ Hv2 (I2.write hx he q (show eI Hv2 (.d (.lst (ds.set j d))) (.lst (xs.set j v))from P2.set (jJ g2.vis r) j (eP (g1.trans g2).vis c))) (g1.trans g2).vis)⟩)
theorem vV(i:Nat)(hm:M i=true):AS M qN (wQ (eZ i)) (Mi.bG (Mi.wV i)):=λH0 Hv0 e σ H Hv D I h=>by
 obtain⟨w,he,h⟩:=z9 (aw.mp h);obtain⟨p,o,q,q1,n,h0,c⟩:=I.cell hm he;exact⟨.ref p,q,h _ H Hv I.gw ⟨p,o,rfl,h0,q1,n,c⟩⟩
theorem zB{κ':Type}[DecidableEq κ']{H:Hp}{k:κ'}{ao:List (κ'×D)}{kv:List (κ'×V)}(h:gu H ao kv):match Mi.j3 ao k with
 |some d=>∃v,iG kv k=aa v/\Rep H d v
 |none=>iG kv k=ae:=by
 unfold Mi.j3 iG
 induction h with
 |nil=>rfl
 | @cons p q l m hpq t ih=>
  rw[lV,lV,hpq.1];by_cases hk:q.1=k
  ·rw[cj hk];exact⟨q.2,rfl,hpq.2⟩
  ·rw[c6 hk];exact ih
theorem HU{κ':Type}[DecidableEq κ']{H:Hp}{k:κ'}{d:D}{v:V}(r:Rep H d v){ao:List (κ'×D)}{kv:List (κ'×V)}(h:gu H ao kv):gu H (Mi.putK k d ao) (L2.putK kv k v):=by
 have e:(ao.any λx=>decide (x.1=k))=(kv.any λx=>decide (x.1=k)):=by
  induction h with
  |nil=>rfl
  | @cons p q l m hpq t ih=>rw[k9,k9,ih,hpq.1]
 unfold Mi.putK L2.putK;rw[e];split
 ·rename_i hh;clear hh e
  induction h with
  |nil=>exact .nil
  | @cons p q l m hpq t ih=>
   rw[b9,b9];refine .cons ?_ ih
   ·by_cases hk:q.1=k
    ·rw[aF hk,aF (hpq.1.trans hk)];exact⟨hpq.1,r⟩
    ·rw[aG hk,aG (λz=>hk (hpq.1.symm.trans z))];exact hpq
 ·exact P2.append h (.cons ⟨rfl,r⟩ .nil)
end
section
variable{X:Cx}{K:aB}
def OD:R2:=λx y H Q=>∃i j,x=.str i/\y=.str j/\i.length+j.length<=sizeLine/\Q (.str (i++j)) H
theorem oO{af:List (ag×Obj)}{σ:L2.St}{H:Hp}{s:ak}{a:ag}{xs:List V}(I:Inv X af σ H s)(h:Lst H a xs):∃(am:List ah) (n:Nat),Vals xs am/\xs.length<=sizeLine/\s.heap.get? a=aa { cls:=.type "list", data:=.seq am.toArray n }:=by
 rcases h with h|⟨o,h⟩
 ·obtain⟨z,am,n,r,e⟩:=I.hok a _ h;exact⟨am,n,r,z,e⟩
 ·obtain⟨_,z,am,n,r,e⟩:=I.hok a _ h;exact⟨am,n,r,z,e⟩
def E4:R2:=λx y H Q=>∃l b xs zs,x=.ref l/\y=.ref b/\Lst H l xs/\Lst H b zs/\xs.length+zs.length<=sizeLine/\∀p,H p=ae->Q (.ref p) (upd H p (.lst (xs++zs)))
theorem Q5:cq X (binaryOp .Add) E4:=by
 intro af s σ H x y v u Q I rx ry h;obtain⟨l,b,xs,zs,rfl,rfl,hH,hB,hz,q⟩:=h;cases rx;cases ry;obtain⟨am,n,r,z,e⟩:=oO I hH;obtain⟨its2,n2,r2,z2,e2⟩:=oO I hB;have hl:=r.length;have hl2:=r2.length;refine PySem.P.add_list e e2 ?_ (by rw[cz,cz];omega);have ea:am.toArray++its2.toArray=(am++its2).toArray:=by simp
 rw[ea];exact⟨.ref _,_,I.RW (t':=s.toks) (r.append r2) (by rw[d6];omega),rfl,q _ I.fresh⟩
def Gf:R2:=λx y H Q=>jF (λi j=>.int (i+j)) x y H Q\/OD x y H Q\/E4 x y H Q
theorem eJ:cq X (binaryOp .Add) Gf:=Oj.or (cq.or Mp Q5)
theorem vt{H Hv:Hp}(vw:Vw H Hv){ds:List D}{xs:List V}(r:P2 (Rep Hv) ds xs){p:ag}(hp:H p=ae):bt H Hv (upd H p (.lst xs)) Hv/\qN H (upd H p (.lst xs)) Hv (.d (.lst ds)) (.ref p):=⟨.uG vw trivial hp,p,.lst xs,rfl,hp,aY,rN vw hp,r⟩
theorem GC{H Hv:Hp}(vw:Vw H Hv){ds:List D}{xs:List V}(r:P2 (Rep Hv) ds xs){p:ag}(hp:H p=ae):bt H Hv (upd H p (.lst xs)) (upd Hv p (.lst xs))/\qV H (upd H p (.lst xs)) (upd Hv p (.lst xs)) (.d (.lst ds)) (.ref p):=by have g:bt H Hv (upd H p (.lst xs)) (upd Hv p (.lst xs)):=.new vw hp;exact⟨g,j7.mpr ⟨p,xs,rfl,.inl aY,eP g.vis r⟩⟩
theorem Ff{H Hv:Hp}(vw:Vw H Hv){ds:List D}{xs:List V}(r:P2 (Rep Hv) ds xs){p:ag}(hp:H p=ae):bt H Hv (upd H p (.tup xs)) (upd Hv p (.tup xs))/\qV H (upd H p (.tup xs)) (upd Hv p (.tup xs)) (.d (.tup ds)) (.ref p):=by have g:bt H Hv (upd H p (.tup xs)) (upd Hv p (.tup xs)):=.new vw hp;exact⟨g,kH.mpr ⟨p,xs,rfl,aY,eP g.vis r⟩⟩
theorem eQ:B2 qV Gf Mi.bv:=λx y v u H Hv Q vw rx ry h=>by
 cases x with
 | int i=>cases y with
  |int j=>cases RD.int rx;cases RD.int ry;exact .inl ⟨i,j,rfl,rfl,h _ H Hv (.refl vw) jo⟩
  |_=>exact h.elim
 | str i=>cases y with
  |str j=>
   cases RD.str rx;cases RD.str ry;obtain⟨hz,h⟩:=Mi.cK h;exact .inr (.inl ⟨i,j,rfl,rfl,by rw[cD];exact hz,h _ H Hv (.refl vw) tV⟩)
  |_=>exact h.elim
 | lst a=>cases y with
  |lst b=>
   obtain⟨hz,h⟩:=Mi.cK h;obtain⟨p,xs,rfl,l1,r1⟩:=RD.lst vw rx;obtain⟨q,ys,rfl,l2,r2⟩:=RD.lst vw ry;refine .inr (.inr ⟨p,q,xs,ys,rfl,rfl,l1,l2,by rw[<- r1.len,<- r2.len,cD];exact hz,λa ha=>?_⟩);obtain⟨g,k⟩:=GC vw (r1.append r2) ha;exact h _ _ _ g k
  |_=>exact h.elim
 |_=>cases y<;>exact h.elim
theorem En:B2 qV (jF λi j=>.int (i-j)) Mi.mJ:=λx y v u H Hv Q vw rx ry h=>by
 cases x with
 | int i=>cases y with
  |int j=>cases RD.int rx;cases RD.int ry;exact⟨i,j,rfl,rfl,h _ H Hv (.refl vw) jo⟩
  |_=>exact h.elim
 |_=>cases y<;>exact h.elim
theorem iy:B2 qV (rI wx λi j=>.int (i*j)) Mi.cv:=λx y v u H Hv Q vw rx ry h=>by
 cases x with
 | int i=>cases y with
  |int j=>cases RD.int rx;cases RD.int ry;obtain⟨hz,h⟩:=Mi.cK h;exact⟨i,j,rfl,rfl,hz,h _ H Hv (.refl vw) jo⟩
  |_=>exact h.elim
 |_=>cases y<;>exact h.elim
theorem j5:B2 qV (rI Gb λi j=>.int (i/j)) Mi.cJ:=λx y v u H Hv Q vw rx ry h=>by
 cases x with
 | int i=>cases y with
  |int j=>cases RD.int rx;cases RD.int ry;obtain⟨hz,h⟩:=Mi.cK h;exact⟨i,j,rfl,rfl,hz,h _ H Hv (.refl vw) jo⟩
  |_=>exact h.elim
 |_=>cases y<;>exact h.elim
theorem er:B2 qV (rI (λ_ j=>0<j) λi j=>.int (i%j)) Mi.bq:=λx y v u H Hv Q vw rx ry h=>by
 cases x with
 | int i=>cases y with
  |int j=>cases RD.int rx;cases RD.int ry;obtain⟨hz,h⟩:=Mi.cK h;exact⟨i,j,rfl,rfl,hz,h _ H Hv (.refl vw) jo⟩
  |_=>exact h.elim
 |_=>cases y<;>exact h.elim
def EQ:R2:=λx y H Q=>jF (λi j=>.bl (decide (i<j))) x y H Q\/∃i j,x=.str i/\y=.str j/\Q (.bl (decide (i.cps.toList<j.cps.toList))) H
theorem uO:cq X (compareOp .Lt) EQ:=PH.or LM
def EO:R2:=λx y H Q=>jF (λi j=>.bl (decide (j<i))) x y H Q\/∃i j,x=.str i/\y=.str j/\Q (.bl (decide (j.cps.toList<i.cps.toList))) H
theorem zV:cq X (compareOp .Gt) EO:=PN.or Pa
theorem uo:B2 qV EQ Mi.fG:=λx y v u H Hv Q vw rx ry h=>by
 cases x with
 | int i=>cases y with
  |int j=>cases RD.int rx;cases RD.int ry;exact .inl ⟨i,j,rfl,rfl,h _ H Hv (.refl vw) eu⟩
  |_=>exact h.elim
 | str i=>cases y with
  |str j=>cases RD.str rx;cases RD.str ry;exact .inr ⟨i,j,rfl,rfl,h _ H Hv (.refl vw) eu⟩
  |_=>exact h.elim
 |_=>cases y<;>exact h.elim
theorem Ag:B2 qV EO Mi.mY:=λx y v u H Hv Q vw rx ry h=>by
 cases x with
 | int i=>cases y with
  |int j=>cases RD.int rx;cases RD.int ry;exact .inl ⟨i,j,rfl,rfl,h _ H Hv (.refl vw) eu⟩
  |_=>exact h.elim
 | str i=>cases y with
  |str j=>cases RD.str rx;cases RD.str ry;exact .inr ⟨i,j,rfl,rfl,h _ H Hv (.refl vw) eu⟩
  |_=>exact h.elim
 |_=>cases y<;>exact h.elim
theorem rq:B2 qV (jF λi j=>.bl (decide (i<=j))) Mi.fK:=λx y v u H Hv Q vw rx ry h=>by
 cases x with
 | int i=>cases y with
  |int j=>cases RD.int rx;cases RD.int ry;exact⟨i,j,rfl,rfl,h _ H Hv (.refl vw) eu⟩
  |_=>exact h.elim
 |_=>cases y<;>exact h.elim
def wS(K:aB)(neg:Bool):R2:=λx y H Q=>∃d e,L2.Rep K H d x/\L2.Rep K H e y/\d.dep<=16/\Q (.bl (if neg then !Mi.bz d e else Mi.bz d e)) H
theorem pQ:B2 qV (wS K false) Mi.fw:=λx y v u H Hv Q vw rx ry h=>by
 obtain⟨hz,h⟩:=Mi.cK h;exact⟨x,y,ms K (RD.full vw rx),ms K (RD.full vw ry),hz,h _ H Hv (.refl vw) eu⟩
theorem nI:B2 qV (wS K true) Mi.dQ:=λx y v u H Hv Q vw rx ry h=>by
 obtain⟨hz,h⟩:=Mi.cK h;exact⟨x,y,ms K (RD.full vw rx),ms K (RD.full vw ry),hz,h _ H Hv (.refl vw) eu⟩
def v6(neg:Bool):R2:=λx y H Q=>y=.non/\Q (.bl (if neg then !decide (x=.non)else decide (x=.non))) H
theorem OZ:cq X (compareOp .Is) (v6 false):=Nl
theorem Mx:cq X (compareOp .IsNot) (v6 true):=Qc
theorem Mn{H Hv:Hp}{d:D}{v:V}(r:RD H Hv d v):decide (v=.non)=Mi.tu d:=by
 cases d with
 |non=>cases RD.non r;rfl
 |bl b=>cases RD.bl r;rfl
 |int b=>cases RD.int r;rfl
 |str b=>cases RD.str r;rfl
 |lst ds=>
  rcases r with r|⟨a,o,e,_⟩
  ·obtain⟨a,xs,e,_⟩:=j7.mp r;subst e;rfl
  ·subst e;rfl
 |tup ds=>
  obtain⟨a,xs,e,_⟩:=kH.mp (r.rO λ_ z=>by cases z);subst e;rfl
theorem Pj:B2 qV (v6 true) Mi.wg:=λx y v u H Hv Q vw rx ry h=>by
 cases y with
 |non=>
  cases RD.non ry;refine⟨rfl,?_⟩;show Q (.bl (!decide (v=.non))) H;rw[Mn rx];exact h _ H Hv (.refl vw) eu
 |_=>exact h.elim
def Hj(K:aB):R2:=λx y H Q=>wL K false x y H Q\/GO false x y H Q
theorem pL(hu:X.A.units+64<cLine):cq X (compareOp .In) (Hj X.K):=(Nk hu).or Pw
theorem wA{H:Hp}{ds:List D}{xs:List V}(h:P2 (Rep H) ds xs):L2.bi K H ds xs:=wy K (pj.mpr h)
theorem o0:B2 qV (Hj K) Mi.dA:=λx y v u H Hv Q vw rx ry h=>by
 cases y with
 |lst ds=>
  obtain⟨hz,h⟩:=Mi.cK h;obtain⟨p,xs,rfl,l1,r1⟩:=RD.lst vw ry;exact .inl ⟨p,xs,x,ds,rfl,.inl l1.sq,ms K (RD.full vw rx),wA (eP vw.sub r1),hz,h _ H Hv (.refl vw) eu⟩
 |tup ds=>
  obtain⟨hz,h⟩:=Mi.cK h;obtain⟨p,xs,rfl,l1,_,r1⟩:=RD.tup vw ry;exact .inl ⟨p,xs,x,ds,rfl,.inr (.inl (.inl l1)),ms K (RD.full vw rx),wA (eP vw.sub r1),hz,h _ H Hv (.refl vw) eu⟩
 | str z=>cases x with
  |str c=>
   obtain⟨hz,h⟩:=Mi.cK h;cases RD.str rx;cases RD.str ry;obtain⟨⟨l⟩⟩:=c
   match l,hz with
   |[c],_=>exact .inr ⟨c,z,rfl,rfl,h _ H Hv (.refl vw) eu⟩
  |_=>exact h.elim
 |_=>exact h.elim
theorem pU:B2 qV (wL K true) Mi.eB:=λx y v u H Hv Q vw rx ry h=>by
 cases y with
 |lst ds=>
  obtain⟨hz,h⟩:=Mi.cK h;obtain⟨p,xs,rfl,l1,r1⟩:=RD.lst vw ry;exact⟨p,xs,x,ds,rfl,.inl l1.sq,ms K (RD.full vw rx),wA (eP vw.sub r1),hz,h _ H Hv (.refl vw) eu⟩
 |tup ds=>
  obtain⟨hz,h⟩:=Mi.cK h;obtain⟨p,xs,rfl,l1,_,r1⟩:=RD.tup vw ry;exact⟨p,xs,x,ds,rfl,.inr (.inl (.inl l1)),ms K (RD.full vw rx),wA (eP vw.sub r1),hz,h _ H Hv (.refl vw) eu⟩
 |_=>exact h.elim
theorem M9{α:Type}(xs:List α)(i:Int):Mi.dC xs i=L2.dC xs i:=rfl
theorem Ir{α β:Type}{F:α->β->Prop}{l:List α}{m:List β}(h:P2 F l m){i:Int}{a:α}(e:Mi.dC l i=aa a):∃b,L2.dC m i=aa b/\F a b:=by
 unfold Mi.dC at e;cases hj:Mi.eX l.length i with
 |none=>rw[hj]at e;cases e
 |some j=>
  rw[hj]at e;have e:l[j]? = aa a:=e;obtain⟨b,hb,r⟩:=h.getL e;refine⟨b,?_,r⟩;rw[<- M9];unfold Mi.dC;rw[<- h.len,hj];exact hb
theorem cG:B2 qV (zc K) Mi.aL:=λx y v u H Hv Q vw rx ry h=>by
 cases y with
 |int i=>
  cases RD.int ry;cases x with
  |lst ds=>
   obtain⟨d,e,h⟩:=iW h;obtain⟨p,xs,rfl,l1,r1⟩:=RD.lst vw rx;obtain⟨z,ez,rz⟩:=Ir r1 e;exact .inl ⟨p,xs,i,z,rfl,rfl,l1.sq,ez,h z H Hv (.refl vw) rz⟩
  |tup ds=>
   obtain⟨d,e,h⟩:=iW h;obtain⟨p,xs,rfl,l1,_,r1⟩:=RD.tup vw rx;obtain⟨z,ez,rz⟩:=Ir r1 e;exact .inr (.inl ⟨p,xs,i,z,rfl,rfl,.inl (.inl l1),ez,h z H Hv (.refl vw) rz⟩)
  |str z=>
   cases RD.str rx;obtain⟨hz,h⟩:=Mi.cK h;obtain⟨c,e,h⟩:=iW (aw.mp h);exact .inr (.inr ⟨z,i,c,rfl,rfl,by rw[cD];exact hz,e,h _ H Hv (.refl vw) tV⟩)
  |_=>exact h.elim
 |_=>cases x<;>exact h.elim
theorem Pf{F:D->V->Prop}{l:List D}{m:List V}(h:P2 F l m)(lo hi:Option Int):P2 F (Mi.jZ l lo hi) (L2.rG m lo hi):=by unfold Mi.jZ L2.rG;rw[h.len];exact(h.drop _).take _
def Iv(K:aB):V->Option Int->Option Int->Hp->VK->Prop:=λx lo hi H Q=>G1 K x lo hi H Q\/Ep x lo hi H Q
theorem oK:nM X (Iv X.K):=Rh.or PY
theorem SE(z:Str)(lo hi:Option Int):rQ z lo hi=Mi.nS z lo hi:=by
 unfold rQ Mi.nS Mi.jZ;have:z.cps.toList.length=z.length:=by simp[qt]
 rw[this];rfl
theorem pi:BS qV (Iv K) Mi.fL:=λx lo hi v H Hv Q vw rx h=>by
 cases x with
 |lst ds=>
  obtain⟨p,xs,rfl,l1,r1⟩:=RD.lst vw rx;refine .inl ⟨p,xs,rfl,l1.sq,λa ha=>?_⟩;obtain⟨g,k⟩:=GC vw (Pf r1 lo hi) ha;exact h _ _ _ g k
 |str z=>
  cases RD.str rx;obtain⟨hz,h⟩:=Mi.cK h;exact .inr ⟨z,rfl,by rw[cD];exact hz,h _ H Hv (.refl vw) (by rw[SE];exact tV)⟩
 |_=>exact h.elim
theorem nL{F:D->V->Prop}{d:D}{vs:List V}(h:P2 F [d] vs):∃v,vs=[v]/\F d v:=by
 cases h with
 |cons r t=>cases t;exact⟨_,rfl,r⟩
theorem FT{F:D->V->Prop}{d e:D}{vs:List V}(h:P2 F [d,e] vs):∃v u,vs=[v,u]/\F d v/\F e u:=by
 cases h with
 | cons r t=>cases t with
  |cons r' t=>cases t;exact⟨_,_,rfl,r,r'⟩
def IQ(K:aB):List V->Hp->VK->Prop:=λxs H Q=>∃x n,xs=[x]/\HC K x H n/\Q (.int n) H
theorem fN:fj X (.builtin "len") (IQ X.K):=Nj
theorem cC:BN qV (IQ K) Mi.bH:=λds vs H Hv Q vw r h=>by
 match ds,r,h with
 |[.lst ds],r,h=>
  obtain⟨v,ev,rr⟩:=nL r;subst ev;replace r:=rr;obtain⟨p,xs,rfl,l1,r1⟩:=RD.lst vw r;refine⟨_,xs.length,rfl,.inl ⟨xs,l1.sq,rfl⟩,?_⟩;rw[<- r1.len];exact h _ H Hv (.refl vw) jo
 |[.tup ds],r,h=>
  obtain⟨v,ev,rr⟩:=nL r;subst ev;replace r:=rr;obtain⟨p,xs,rfl,l1,_,r1⟩:=RD.tup vw r;refine⟨_,xs.length,rfl,.inr ⟨xs,.inl (.inl l1),rfl⟩,?_⟩;rw[<- r1.len];exact h _ H Hv (.refl vw) jo
 |[.str z],r,h=>
  obtain⟨v,ev,rr⟩:=nL r;subst ev;replace r:=rr;cases RD.str r;obtain⟨hz,h⟩:=Mi.cK h;exact⟨_,z.length,rfl,⟨by rw[cD];exact hz,rfl⟩,h _ H Hv (.refl vw) jo⟩
def EF:List V->Hp->VK->Prop:=λxs H Q=>∃i j z,xs=[.int i,.int j]/\max i j=z/\Q (.int z) H
def IB:List V->Hp->VK->Prop:=λxs H Q=>∃i j z,xs=[.int i,.int j]/\min i j=z/\Q (.int z) H
theorem GH(hc:X.calm=true):fj X (.builtin "max") EF:=Rn hc
theorem M5(hc:X.calm=true):fj X (.builtin "min") IB:=QO hc
theorem uT:BN qV EF Mi.jn:=λds vs H Hv Q vw r h=>by
 match ds,r,h with
 |[.int i,.int j],r,h=>
  obtain⟨v,u,ev,rr,r'⟩:=FT r;subst ev;replace r:=rr;cases RD.int r;cases RD.int r';exact⟨i,j,_,rfl,rfl,h _ H Hv (.refl vw) jo⟩
theorem Aj:BN qV IB Mi.nH:=λds vs H Hv Q vw r h=>by
 match ds,r,h with
 |[.int i,.int j],r,h=>
  obtain⟨v,u,ev,rr,r'⟩:=FT r;subst ev;replace r:=rr;cases RD.int r;cases RD.int r';exact⟨i,j,_,rfl,rfl,h _ H Hv (.refl vw) jo⟩
theorem GY{Hv:Hp}:∀{ds:List D} {xs:List V} {bs:List Bool},Mi.mf ds=aa bs->P2 (Rep Hv) ds xs->xs=bs.map V.bl
 |[],_,bs,e,r=>by cases e;cases r;rfl
 |.bl b::ds,_,bs,e,r=>by
  cases r with
  |cons x t=>
   cases hb:Mi.mf ds with
   |none=>rw[Mi.mf,hb]at e;cases e
   |some cs=>
    rw[Mi.mf,hb]at e;cases e;rw[GY hb t,rn.mp x];rfl
 |.non::_,_,_,e,_=>by cases e
 |.int _::_,_,_,e,_=>by cases e
 |.str _::_,_,_,e,_=>by cases e
 |.lst _::_,_,_,e,_=>by cases e
 |.tup _::_,_,_,e,_=>by cases e
theorem uB:BN qV (Em K (·.all id)) Mi.nE:=λds vs H Hv Q vw r h=>by
 match ds,r,h with
 |[.lst ds],r,h=>
  obtain⟨v,ev,rr⟩:=nL r;subst ev;replace r:=rr;obtain⟨bs,e,h⟩:=iW (aw.mp h);obtain⟨p,xs,rfl,l1,r1⟩:=RD.lst vw r;have:=GY e r1;subst this;exact⟨p,bs,rfl,l1.sq,h _ H Hv (.refl vw) eu⟩
def GJ(K:aB):List V->Hp->VK->Prop:=λxs H Q=>∃p ys,xs=[.ref p]/\(dO K H p ys\/ff K H p ys)/\∀l,H l=ae->Q (.ref l) (upd H l (.lst ys))
theorem pV:fj X (.type "list") (GJ X.K):=Ri
theorem eU:BN qN (GJ K) Mi.ju:=λds vs H Hv Q vw r h=>by
 match ds,r,h with
 |[.lst ds],r,h=>
  obtain⟨v,ev,rr⟩:=nL r;subst ev;replace r:=rr;obtain⟨p,xs,rfl,l1,r1⟩:=RD.lst vw r;refine⟨p,xs,rfl,.inl l1.sq,λa ha=>?_⟩;obtain⟨g,k⟩:=vt vw r1 ha;exact h _ _ _ g k
 |[.tup ds],r,h=>
  obtain⟨v,ev,rr⟩:=nL r;subst ev;replace r:=rr;obtain⟨p,xs,rfl,l1,_,r1⟩:=RD.tup vw r;refine⟨p,xs,rfl,.inr (.inl (.inl l1)),λa ha=>?_⟩;obtain⟨g,k⟩:=vt vw r1 ha;exact h _ _ _ g k
def Il(K:aB):List V->Hp->VK->Prop:=λxs H Q=>∃p ys,xs=[.ref p]/\((dO K H p ys/\∀l,H l=ae->Q (.ref l) (upd H l (.tup ys)))\/(ff K H p ys/\Q (.ref p) H))
theorem m6:fj X (.type "tuple") (Il X.K):=Q8
theorem e9:BN qV (Il K) Mi.kQ:=λds vs H Hv Q vw r h=>by
 match ds,r,h with
 |[.lst ds],r,h=>
  obtain⟨v,ev,rr⟩:=nL r;subst ev;replace r:=rr;obtain⟨p,xs,rfl,l1,r1⟩:=RD.lst vw r;refine⟨p,xs,rfl,.inl ⟨l1.sq,λa ha=>?_⟩⟩;obtain⟨g,k⟩:=Ff vw r1 ha;exact h _ _ _ g k
 |[.tup ds],r,h=>
  obtain⟨v,ev,rr⟩:=nL r;subst ev;replace r:=rr;obtain⟨p,xs,rfl,l1,l2,r1⟩:=RD.tup vw r;exact⟨p,xs,rfl,.inr ⟨.inl (.inl l1),h _ H Hv (.refl vw) (kH.mpr ⟨p,xs,rfl,l2,r1⟩)⟩⟩
end
section
variable{X:Cx}{af:List (ag×Obj)}{σ:L2.St}{H:Hp}{s:ak}
open SeqAt in
theorem Mt:∀{d e:D} {A:a7} {x y:V} {u u':ah},d.flat=true->e.flat=true->L2.Rep X.K H d x->L2.Rep X.K H e y->RelV x u->RelV y u'->RcAt A s u u' (Mi.bz d e)/\RcNeAt A s u u' (!Mi.bz d e):=by
 intro d e A x y u u' h1 h2 r1 r2 q1 q2;cases d with
 |non=>
  rw[L2.Rep]at r1;subst r1;cases q1;cases e with
  |non=>rw[L2.Rep]at r2;subst r2;cases q2;exact⟨RcAt.none_none,RcNeAt.none_none⟩
  |bl b=>rw[L2.Rep]at r2;subst r2;cases q2;exact⟨RcAt.none_bool b,RcNeAt.none_bool b⟩
  |int b=>rw[L2.Rep]at r2;subst r2;obtain⟨t,rfl⟩:=q2;exact⟨RcAt.none_int b t,RcNeAt.none_int b t⟩
  |str b=>rw[L2.Rep]at r2;subst r2;obtain⟨t,rfl⟩:=q2;exact⟨RcAt.none_str b t,RcNeAt.none_str b t⟩
  |_=>cases h2
 |bl a=>
  rw[L2.Rep]at r1;subst r1;cases q1;cases e with
  |non=>rw[L2.Rep]at r2;subst r2;cases q2;exact⟨RcAt.bool_none a,RcNeAt.bool_none a⟩
  |bl b=>rw[L2.Rep]at r2;subst r2;cases q2;rw[Mi.bz];exact⟨RcAt.bool_bool a b,RcNeAt.bool_bool a b⟩
  |int b=>rw[L2.Rep]at r2;subst r2;obtain⟨t,rfl⟩:=q2;rw[Mi.bz];exact⟨RcAt.bool_int a b t,RcNeAt.bool_int a b t⟩
  |str b=>rw[L2.Rep]at r2;subst r2;obtain⟨t,rfl⟩:=q2;exact⟨RcAt.bool_str a b t,RcNeAt.bool_str a b t⟩
  |_=>cases h2
 |int a=>
  rw[L2.Rep]at r1;subst r1;obtain⟨t1,rfl⟩:=q1;cases e with
  |non=>rw[L2.Rep]at r2;subst r2;cases q2;exact⟨RcAt.int_none a t1,RcNeAt.int_none a t1⟩
  |bl b=>rw[L2.Rep]at r2;subst r2;cases q2;rw[Mi.bz];exact⟨RcAt.int_bool a t1 b,RcNeAt.int_bool a t1 b⟩
  |int b=>rw[L2.Rep]at r2;subst r2;obtain⟨t,rfl⟩:=q2;rw[Mi.bz];exact⟨RcAt.int_int a t1 b t,RcNeAt.int_int a t1 b t⟩
  |str b=>rw[L2.Rep]at r2;subst r2;obtain⟨t,rfl⟩:=q2;exact⟨RcAt.int_str a t1 b t,RcNeAt.int_str a t1 b t⟩
  |_=>cases h2
 |str a=>
  rw[L2.Rep]at r1;subst r1;obtain⟨t1,rfl⟩:=q1;cases e with
  |non=>rw[L2.Rep]at r2;subst r2;cases q2;exact⟨RcAt.str_none a t1,RcNeAt.str_none a t1⟩
  |bl b=>rw[L2.Rep]at r2;subst r2;cases q2;exact⟨RcAt.str_bool a t1 b,RcNeAt.str_bool a t1 b⟩
  |int b=>rw[L2.Rep]at r2;subst r2;obtain⟨t,rfl⟩:=q2;exact⟨RcAt.str_int a t1 b t,RcNeAt.str_int a t1 b t⟩
  |str b=>rw[L2.Rep]at r2;subst r2;obtain⟨t,rfl⟩:=q2;rw[Mi.bz];exact⟨RcAt.str_str a t1 b t,RcNeAt.str_str a t1 b t⟩
  |_=>cases h2
 |_=>cases h1
open SeqAt in
theorem Ei(I:Inv X af σ H s):∀(d e:D) (A:a7) {x y:V} {u u':ah},d.dep<=16->A.units+17<cLine->L2.Rep X.K H d x->L2.Rep X.K H e y->RelV x u->RelV y u'->RcAt A s u u' (Mi.bz d e)/\RcNeAt A s u u' (!Mi.bz d e):=by
 intro d e A x y u u' hd hu h h' r r';have hu0:A.units<cLine:=by omega
 have item:∀{ds es:List D} {xs ys:List V} {am its':List ah},Mi.dH ds<=16->L2.bi X.K H ds xs->L2.bi X.K H es ys->Vals xs am->Vals ys its' ->
  ∀j (h1:j<am.toArray.size) (h2:j<its'.toArray.size),EqAt A.in1 s am.toArray[j] its'.toArray[j] (Mi.bz (ds.getD j .non) (es.getD j .non)):=by
  intro ds es xs ys am its' hn q q' v v' j h1 h2;have h1':j<am.length:=by simpa using h1
  have h2':j<its'.length:=by simpa using h2
  have e1:j<xs.length:=by rw[v.length];exact h1'
  have e2:j<ys.length:=by rw[v'.length];exact h2'
  have g1:xs[j]? = aa xs[j]:=by simp[e1]
  have g2:ys[j]? = aa ys[j]:=by simp[e2]
  obtain⟨w1,k1,r1⟩:=v.get g1;obtain⟨w2,k2,r2⟩:=v'.get g2;have t1:am.toArray[j]=w1:=by obtain⟨_,k1⟩:=dm.mp k1;simpa using k1
  have t2:its'.toArray[j]=w2:=by obtain⟨_,k2⟩:=dm.mp k2;simpa using k2
  rw[t1,t2];have:=Bc (ds:=ds) (j:=j);refine EG I 16 _ _ A.in1 (by omega) ?_ (q.get g1) (q'.get g2) r1 r2;show A.units+1+16<cLine;omega
 by_cases hdf:d.flat=true
 ·by_cases hef:e.flat=true
  ·exact Mt hdf hef h h' r r'
  ·cases e with
   |lst es=>
    rw[L2.Rep]at h';obtain⟨a,xs,rfl,q,_⟩:=h';cases r';obtain⟨am,_,p,_⟩:=I.list q;cases d with
    |non=>rw[L2.Rep]at h;subst h;cases r;exact⟨RcAt.none_list p.isList hu0,RcNeAt.none_list p.isList hu0⟩
    |bl b=>rw[L2.Rep]at h;subst h;cases r;exact⟨RcAt.bool_list b p.isList hu0,RcNeAt.bool_list b p.isList hu0⟩
    |int b=>rw[L2.Rep]at h;subst h;obtain⟨t,rfl⟩:=r;exact⟨RcAt.int_list b t p.isList hu0,RcNeAt.int_list b t p.isList hu0⟩
    |str b=>rw[L2.Rep]at h;subst h;obtain⟨t,rfl⟩:=r;exact⟨RcAt.str_list b t p.isList hu0,RcNeAt.str_list b t p.isList hu0⟩
    |_=>cases hdf
   |tup es=>
    rw[L2.Rep]at h';obtain⟨a,xs,rfl,q,_⟩:=h';cases r';obtain⟨am,_,p,_⟩:=I.tuple q;cases d with
    |non=>rw[L2.Rep]at h;subst h;cases r;exact⟨RcAt.none_tuple p hu0,RcNeAt.none_tuple p hu0⟩
    |bl b=>rw[L2.Rep]at h;subst h;cases r;exact⟨RcAt.bool_tuple b p hu0,RcNeAt.bool_tuple b p hu0⟩
    |int b=>rw[L2.Rep]at h;subst h;obtain⟨t,rfl⟩:=r;exact⟨RcAt.int_tuple b t p hu0,RcNeAt.int_tuple b t p hu0⟩
    |str b=>rw[L2.Rep]at h;subst h;obtain⟨t,rfl⟩:=r;exact⟨RcAt.str_tuple b t p hu0,RcNeAt.str_tuple b t p hu0⟩
    |_=>cases hdf
   |_=>exact absurd rfl hef
 ·cases d with
  |lst ds=>
   rw[L2.Rep]at h;obtain⟨a,xs,rfl,q,rr⟩:=h;cases r;obtain⟨am,v,p,_⟩:=I.list q;have hn:Mi.dH ds<=16:=by rw[Mi.D.dep]at hd;omega
   cases e with
   |non=>rw[L2.Rep]at h';subst h';cases r';exact⟨RcAt.list_none p.isList hu0,RcNeAt.list_none p.isList hu0⟩
   |bl b=>rw[L2.Rep]at h';subst h';cases r';exact⟨RcAt.list_bool b p.isList hu0,RcNeAt.list_bool b p.isList hu0⟩
   |int b=>rw[L2.Rep]at h';subst h';obtain⟨t,rfl⟩:=r';exact⟨RcAt.list_int b t p.isList hu0,RcNeAt.list_int b t p.isList hu0⟩
   |str b=>rw[L2.Rep]at h';subst h';obtain⟨t,rfl⟩:=r';exact⟨RcAt.list_str b t p.isList hu0,RcNeAt.list_str b t p.isList hu0⟩
   |lst es=>
    rw[L2.Rep]at h';obtain⟨b,ys,rfl,q',rr'⟩:=h';cases r';obtain⟨its',v',p',_⟩:=I.list q';have l1:=rr.length;have l2:=rr'.length;have l3:=v.length;have l4:=v'.length;by_cases hl:ds.length=es.length
    ·rw[Mi.bz,uy hl];have e1:am.toArray.size=ds.length:=by simp;omega
     have k1:=RcAt.lists p.isList p'.isList (by simp;omega) hu0 (item hn rr rr' v v');have k2:=RcNeAt.lists p.isList p'.isList (by simp;omega) hu0 (item hn rr rr' v v');rw[e1]at k1 k2;exact⟨k1,k2⟩
    ·rw[Mi.bz,uf hl];exact⟨RcAt.lists_lengths p.isList p'.isList (by simp;omega) hu0,RcNeAt.lists_lengths p.isList p'.isList (by simp;omega) hu0⟩
   |tup es=>
    rw[L2.Rep]at h';obtain⟨b,ys,rfl,q',_⟩:=h';cases r';obtain⟨its',_,p',_⟩:=I.tuple q';exact⟨RcAt.list_tuple p.isList p' hu0,RcNeAt.list_tuple p.isList p' hu0⟩
  |tup ds=>
   rw[L2.Rep]at h;obtain⟨a,xs,rfl,q,rr⟩:=h;cases r;obtain⟨am,v,p,_⟩:=I.tuple q;have hn:Mi.dH ds<=16:=by rw[Mi.D.dep]at hd;omega
   cases e with
   |non=>rw[L2.Rep]at h';subst h';cases r';exact⟨RcAt.tuple_none p hu0,RcNeAt.tuple_none p hu0⟩
   |bl b=>rw[L2.Rep]at h';subst h';cases r';exact⟨RcAt.tuple_bool b p hu0,RcNeAt.tuple_bool b p hu0⟩
   |int b=>rw[L2.Rep]at h';subst h';obtain⟨t,rfl⟩:=r';exact⟨RcAt.tuple_int b t p hu0,RcNeAt.tuple_int b t p hu0⟩
   |str b=>rw[L2.Rep]at h';subst h';obtain⟨t,rfl⟩:=r';exact⟨RcAt.tuple_str b t p hu0,RcNeAt.tuple_str b t p hu0⟩
   |tup es=>
    rw[L2.Rep]at h';obtain⟨b,ys,rfl,q',rr'⟩:=h';cases r';obtain⟨its',v',p',_⟩:=I.tuple q';have l1:=rr.length;have l2:=rr'.length;have l3:=v.length;have l4:=v'.length;have k1:=RcAt.tuples p p' hu0 (item hn rr rr' v v');have k2:=RcNeAt.tuples p p' hu0 (item hn rr rr' v v');have e1:am.toArray.size=ds.length:=by simp;omega
    have e2:its'.toArray.size=es.length:=by simp;omega
    rw[e1,e2]at k1 k2;by_cases hl:ds.length=es.length
    ·rw[Mi.bz,uy hl];rw[hl,Nat.min_self,iH,Bool.and_true,<- hl]at k1 k2;exact⟨k1,k2⟩
    ·rw[Mi.bz,uf hl];have:(ds.length==es.length)=false:=by simpa using hl
     rw[this,qq]at k1 k2;exact⟨k1,k2⟩
   |lst es=>
    rw[L2.Rep]at h';obtain⟨b,ys,rfl,q',_⟩:=h';cases r';obtain⟨its',_,p',_⟩:=I.list q';exact⟨RcAt.tuple_list p p'.isList hu0,RcNeAt.tuple_list p p'.isList hu0⟩
  |_=>exact absurd rfl hdf
theorem pO(hu:X.A.units+64<cLine):cq X (compareOp .Eq) (wS X.K false):=by intro af s σ H x y v u Q I rx ry h;obtain⟨d,e,r1,r2,hz,q⟩:=h;exact(Ei I d e X.A hz (by omega) r1 r2 rx ry).1 _ _ _ _ ⟨.bl _,H,I,rfl,q⟩
theorem nZ(hu:X.A.units+64<cLine):cq X (compareOp .NotEq) (wS X.K true):=by intro af s σ H x y v u Q I rx ry h;obtain⟨d,e,r1,r2,hz,q⟩:=h;exact(Ei I d e X.A hz (by omega) r1 r2 rx ry).2 _ _ _ _ ⟨.bl _,H,I,rfl,q⟩
end
section
variable{X:Cx}{K:aB}{M:Nat->Bool}{κ:Kd}{ta tb te:TE}{a b:Mi.E}
theorem EL{H Hv:Hp}(vw:Vw H Hv){d:D}{v:V}(r:RD H Hv d v):gP K H v (.type (Mi.yU d)):=by
 cases d with
 |non=>cases RD.non r;exact .non
 |bl b=>cases RD.bl r;exact .bl b
 |int b=>cases RD.int r;exact .int b
 |str b=>cases RD.str r;exact .str b
 |lst ds=>
  obtain⟨p,xs,rfl,l,_⟩:=RD.lst vw r;rcases l with l|⟨o,l⟩
  ·exact .lst l
  ·exact .frz l
 |tup ds=>
  obtain⟨p,xs,rfl,l,_⟩:=RD.tup vw r;exact .tup l
def kW(K:aB)(T:String):Prop:=∀d:D,bO K (.type (Mi.yU d)) (.type T)=aa (Mi.qR T d)
theorem lF{T:String}(hT:kW K T)(ha:AE M qP ta a):AE M qV (lL (Iz K) (dY ta (dY (tC (.ty T)) fg))) (Mi.m1 (Mi.dE [T]) a):=λe σ H Hv Q I h=>
 ha e σ H Hv _ I ((aw.mp h).mono λx hx v H1 Hv1 g1 rx=>⟨v,_,T,_,rfl,EL g1.vw rx,hT x,(Mi.lD hx) _ H1 Hv1 g1 (by
  have:([T].any λt=>Mi.qR t x)=Mi.qR T x:=by simp
  rw[this];exact eu)⟩)
theorem ty_bool(K:aB):kW K "bool" := λd=>by cases d<;>rfl
theorem ty_int(K:aB):kW K "int" := λd=>by cases d<;>rfl
theorem ty_str(K:aB):kW K "str" := λd=>by cases d<;>rfl
theorem ty_list(K:aB):kW K "list" := λd=>by cases d<;>rfl
theorem ty_tuple(K:aB):kW K "tuple" := λd=>by cases d<;>rfl
end
def Mo(l:List Nat):Nat->Bool:=λi=>l.contains i
theorem zl{M:Nat->Bool}{N:List Str}{k:Nat}{ws:List W}{vs:List V}{H Hv:Hp}(vw:Vw H Hv)(p:P2 (gv Hv) ws vs)(hk:ws.length=k)(hM:∀i,i<k->M i=false) :
 R1 M H Hv (ws.map aa++c8 (N.length-ws.length) ae) (start N vs) H Hv:=by
 have get:∀{i:Nat} {w:W},(ws.map aa++c8 (N.length-ws.length) ae)[i]? = aa (aa w)->ws[i]? = aa w/\i<k:=λ{i w} h=>by
  by_cases hi:i<ws.length
  ·rw[sA (by simpa using hi),eE]at h;cases e:ws[i]? with
   |none=>rw[e]at h;cases h
   |some a=>rw[e]at h;cases h;exact⟨rfl,by omega⟩
  ·rw[BH (by simpa using hi),JL]at h;split at h<;>cases h
 have no:∀{i:Nat} {w:W},(ws.map aa++c8 (N.length-ws.length) ae)[i]? = aa (aa w)->M i=true->False:=λ{i w} h m=>by
  rw[hM i (get h).2]at m;cases m
 refine⟨⟨vw,?_,λi w h m=>?_,λi w h m=>(no h m).elim⟩,.refl vw,λi w a h m=>(no h m).elim,λi j w w' a b _ h _ m=>(no h m).elim⟩
 ·unfold L2.start;rw[d6,d6,be,be,BI,BI,p.len]
 ·obtain⟨hw,hi⟩:=get h;obtain⟨v,hv,r⟩:=p.getL hw;refine⟨v,?_,r⟩;unfold L2.start;rw[sA (by rw[be,<- p.len];omega),eE,hv];rfl
theorem Fc{f:Mi.S}{k n:Nat}{vs:List V}{H:Hp}{Q:VK}{E:XK}(h:bV (Mi.dF k n f) vs H Q E):vs.length=k:=by obtain⟨Hv,ws,_,p,q⟩:=h;rw[<- p.len];exact(Mi.cK q).1
theorem Ba{f:Mi.S}{k n:Nat}{vs:List V}{H:Hp}{Q:VK}{E:XK}(h:eo (Mi.jr k n f) vs H Q E):vs.length=k:=by obtain⟨Hv,ws,_,p,q⟩:=h;rw[<- p.len];exact(Mi.cK q).1
theorem HK{N:List Str}{M:Nat->Bool}{k:Nat}{t:TS}{m:Mi.S}(hA:AS M qV t m)(hM:∀i,i<k->M i=false){vs:List V}{H:Hp}{Q:VK}{E:XK}(h:bV (Mi.dF k N.length m) vs H Q E) :
 t { nx:=λ_ H'=>Q .non H',rt:=Q } (start N vs) H:=by
 obtain⟨Hv,ws,vw,p,q⟩:=h;obtain⟨hk,q⟩:=Mi.cK q;refine hA H Hv _ _ H Hv _ (zl vw p hk hM) ((aw.mp q).mono λo ho=>?_);cases o with
 |nx e=>exactλσ H' Hv' I s=>ho _ H' Hv' I.gw Ac
 |rt w=>exactλv H' Hv' g r=>ho v H' Hv' g r
 |bk e=>exact ho.elim
 |ct e=>exact ho.elim
theorem runN{N:List Str}{M:Nat->Bool}{k:Nat}{t:TS}{m:Mi.S}(hA:AS M qN t m)(hM:∀i,i<k->M i=false){vs:List V}{H:Hp}{Q:VK}{E:XK}(h:eo (Mi.jr k N.length m) vs H Q E) :
 t { nx:=λ_ H'=>Q .non H',rt:=Q } (start N vs) H:=by
 obtain⟨Hv,ws,vw,p,q⟩:=h;obtain⟨hk,q⟩:=Mi.cK q;refine hA H Hv _ _ H Hv _ (zl vw p hk hM) ((aw.mp q).mono λo ho=>?_);cases o with
 |rt w=>exactλv H' Hv' g r=>ho v H' Hv' g r
 |nx e=>exact ho.elim
 |bk e=>exact ho.elim
 |ct e=>exact ho.elim
theorem QC{P:aW}{w:aQ}{K:aB}{mg:Str->Option ah}{base:ay}{CX:fR}{k:Nat}{f:ag}{fd:bA}{ps:List Str}:bw P w K mg base CX k f fd ps (bV Mi.GG):=⟨λvs H Q E h=>by obtain⟨_,_,_,_,q⟩:=h;exact q.elim,λA outer s H args us vs Q E _ _ _ _ h=>by obtain⟨_,_,_,_,q⟩:=h;exact q.elim⟩
def uR:Sp:=λvs H Q _=>∃(a:ag) (ns:List Int),vs=[.ref a]/\Lst H a (ns.map V.int)/\ns.length<=63/\iF H/\∀H',Q (.bl true) H'
theorem ints_rep(H:Hp):∀ns:List Int,P2 (Rep H) (ns.map D.int) (ns.map V.int)
 |[]=>.nil
 |n::r=>.cons (uj.mpr rfl) (ints_rep H r)
theorem PM{P:aW}{w:aQ}{K:aB}{mg:Str->Option ah}{base:ay}{CX:fR}{k:Nat}{f:ag}{fd:bA}{ps:List Str}{m:Mi.Fn}(F:bw P w K mg base CX k f fd ps (bV m))
 (h:∀ns:List Int,ns.length<=63->m [.d (.lst (ns.map D.int))]=.ok (.d (.bl true))):bw P w K mg base CX k f fd ps uR:=
 F.imp λvs H Q E ⟨a,ns,e,l,hl,k,q⟩=>by
  subst e;have l':Lst (j1 H) a (ns.map V.int):=by
   rcases l with l|⟨o,l⟩
   ·exact .inl (mP l trivial)
   ·exact .inr ⟨o,mP l trivial⟩
  refine⟨j1 H,[.d (.lst (ns.map D.int))],.all k,.cons (j7.mpr ⟨a,_,rfl,l',ints_rep _ ns⟩) .nil,?_⟩;rw[h ns hl];intro v H' Hv' g r;cases(rn (H:=Hv')).mp r;exact q H'
theorem Nd{X:Cx}{af:List (ag×Obj)}{σ:L2.St}{H:Hp}{s:ak}{fp:List ag}{T:ag}{o:HO}{h':ay}{t':Nat}(I:Inv X af σ H s)(hf:∀b∈fp,fH X af H b)
 (k:∀b u,b∉fp->s.heap.get? b=aa u->h'.get? b=aa u) (hT:s.heap.objs.size<=T) (new:bI X.prog X.w (upd H T o) h' T o):Inv X af σ (upd H T o) { s with heap:=h',toks:=t' }:=by
 have hn:H T=ae:=I.hok.fresh hT;have nfp:∀b u,H b=aa u->b∉fp:=λb u e z=>by rw[(hf b z).1]at e;cases e
 refine I.call' (s':={ s with heap:=h',toks:=t' }) (ch:=fp) rfl ⟨λb u e _ _ hb=>k b u hb e,λb u e _ _ hb=>⟨u.slots,k b u hb e⟩,λb u e hb _=>?_,λb u e hb=>⟨u,k b u hb e⟩,λb xs e=>?_,λb q u e=>?_,λb w ps e=>⟨#[],?_⟩⟩ ?_ I.bare
  λb hb=>⟨(hf b hb).2.2.2.1,(hf b hb).2.1,(hf b hb).2.2.2.2.1,(hf b hb).2.2.2.2.2⟩
 ·have:b≠T:=eF (gG (bE e) hT);rw[av this];exact hb
 ·rw[av (cQ e hn)];exact e
 ·rw[av (cQ e hn)];exact e
 ·rw[av (cQ e hn),e];simp
 ·intro b u e;by_cases hb:b=T
  ·subst hb;rw[aY]at e;cases e;exact new
  ·rw[av hb]at e;refine(I.hok b u e).stay (λc v hc q=>k c v ?_ q) (λc q=>by rw[av (cQ q hn)];exact q) λc xs q=>by rw[av (cQ q hn)];exact q
   rcases hc with z|z
   ·rw[z];exact nfp b u e
   ·exact nfp c _ z
theorem Ea{X:Cx}{af:List (ag×Obj)}{σ:L2.St}{H:Hp}{s:ak}{fp:List ag}{h':ay}{t':Nat}(I:Inv X af σ H s)(hf:∀b∈fp,fH X af H b)
 (k:∀b u,b∉fp->s.heap.get? b=aa u->h'.get? b=aa u):Inv X af σ H { s with heap:=h',toks:=t' }:=by
 have nfp:∀b u,H b=aa u->b∉fp:=λb u e z=>by rw[(hf b z).1]at e;cases e
 refine I.call' (s':={ s with heap:=h',toks:=t' }) (ch:=fp) rfl ⟨λb u e _ _ hb=>k b u hb e,λb u e _ _ hb=>⟨u.slots,k b u hb e⟩,λb u e hb _=>hb,λb u e hb=>⟨u,k b u hb e⟩,λb xs e=>e,λb q u e=>e,λb w ps e=>⟨#[],by rw[e];simp⟩⟩ ?_ I.bare
  λb hb=>⟨(hf b hb).2.2.2.1,(hf b hb).2.1,(hf b hb).2.2.2.2.1,(hf b hb).2.2.2.2.2⟩
 intro b u e;refine(I.hok b u e).stay (λc v hc q=>k c v ?_ q) (λc q=>q) λc xs q=>q;rcases hc with z|z
 ·rw[z];exact nfp b u e
 ·exact nfp c _ z
section
variable{X:Cx}{K:aB}{M:Nat->Bool}{κ:Kd}{ta tb te tk:TE}{a b k:Mi.E}
theorem xj{Hv:Hp}:∀{ds:List D} {xs:List V} {bs:List Str},Mi.kJ ds=aa bs->P2 (Rep Hv) ds xs->xs=bs.map V.str
 |[],_,bs,e,r=>by cases e;cases r;rfl
 |.str b::ds,_,bs,e,r=>by
  cases r with
  |cons x t=>
   cases hb:Mi.kJ ds with
   |none=>rw[Mi.kJ,hb]at e;cases e
   |some cs=>
    rw[Mi.kJ,hb]at e;cases e;rw[xj hb t,og.mp x];rfl
 |.non::_,_,_,e,_=>by cases e
 |.int _::_,_,_,e,_=>by cases e
 |.bl _::_,_,_,e,_=>by cases e
 |.lst _::_,_,_,e,_=>by cases e
 |.tup _::_,_,_,e,_=>by cases e
theorem Eh(ha:AE M qP ta a)(hb:AE M qP tb b):AE M qV (uI K "str" (rJoin K) ta (dY tb fg)) (Mi.m2 Mi.vS a b):=λe σ H Hv Q I h=>by
 obtain⟨x,hx,h⟩:=jN (aw.mp h);obtain⟨y,hy,h⟩:=jN (aw.mp h);cases x with
 | str sep=>cases y with
  |lst ds=>
   obtain⟨ys,hs,h⟩:=iW (aw.mp h);obtain⟨hz,h⟩:=Mi.cK h;refine ha e σ H Hv _ I (by
    rw[hx];intro v H1 Hv1 g1 r1;cases RD.str r1;refine⟨rfl,hb e σ H1 Hv1 _ (I.grow g1) (by
     rw[hy];intro v2 H2 Hv2 g2 r2;obtain⟨p,xs,rfl,l,r⟩:=RD.lst g2.vw r2;have:=xj hs r;subst this;exact⟨sep,p,ys,rfl,rfl,l.sq,hz,(Mi.lD h) _ H2 Hv2 (g1.trans g2) tV⟩)⟩)
  |_=>exact h.elim
 |_=>cases y<;>exact h.elim
theorem y7{H:Hp}{d:D}{v:V}{y:Mi.Ky}(h:Mi.rE d=aa y)(r:Rep H d v):v=kV y:=by
 cases d with
 |bl i=>cases h;exact rn.mp r
 |str i=>cases h;exact og.mp r
 |_=>cases h
theorem wE{H:Hp}:∀{ds:List D} {vs:List V} {ys:List Mi.Ky},Mi.pq ds=aa ys->P2 (Rep H) ds vs->vs=ys.map kV
 |[],_,_,h,r=>by cases h;cases r;rfl
 |d::ds,_,ys,h,r=>by
  cases r with
  |cons x t=>
   unfold Mi.pq at h;cases h1:Mi.rE d with
   |none=>rw[h1]at h;cases h
   |some y=>
    cases h2:Mi.pq ds with
    |none=>rw[h1,h2]at h;cases h
    |some zs=>
     rw[h1,h2]at h;cases h;rw[y7 h1 x,wE h2 t];rfl
theorem QU{H Hv:Hp}(vw:Vw H Hv){w:W}{x:V}{d:D}{v:V}{q:Option D->Prop}(hw:RB H Hv w x)(r:Rep Hv d v)(h:Fin (Mi.IR w d) q):∃a o o',x=.ref a/\mQ H a v o/\q o'/\match o' with
 |some d'=>∃v',o=aa v'/\Rep Hv d' v'
 |none=>o=ae:=by
 cases w with
 |d x=>exact h.elim
 |ex z=>exact h.elim
 |fn z=>exact h.elim
 |xr z x=>exact h.elim
 |dk ao=>
  obtain⟨y,hy,h⟩:=iW (aw.mp h);have h:q (Mi.j3 ao y):=h;have:∃a kv,x=.ref a/\H a=aa (.dK kv)/\gu Hv ao kv:=by
   rcases hw with ⟨a,kv,e,z,c⟩|⟨a,o,e,z,c⟩
   ·exact⟨a,kv,e,vw.sub _ _ z,c⟩
   ·cases o with
    |dK kv=>exact⟨a,kv,e,z,c⟩
    |_=>exact c.elim
  obtain⟨a,kv,e,z,c⟩:=this;have hv:=y7 hy r;subst hv;exact⟨a,_,_,e,mQ.k z,h,zB c⟩
 |dt ao=>
  cases d with
  |tup ds=>
   obtain⟨y,hy,h⟩:=iW (aw.mp h);have h:q (Mi.j3 ao y):=h;have:∃a kv,x=.ref a/\H a=aa (.dT kv)/\gu Hv ao kv:=by
    rcases hw with ⟨a,kv,e,z,c⟩|⟨a,o,e,z,c⟩
    ·exact⟨a,kv,e,vw.sub _ _ z,c⟩
    ·cases o with
     |dT kv=>exact⟨a,kv,e,z,c⟩
     |_=>exact c.elim
   obtain⟨a,kv,e,z,c⟩:=this;obtain⟨b,xs,rfl,l,r⟩:=kH.mp r;have hv:=wE hy r;subst hv;exact⟨a,_,_,e,mQ.t z (vw.sub _ _ l),h,zB c⟩
  |_=>exact h.elim
 |df ao=>
  cases d with
  |tup ds=>
   obtain⟨y,hy,h⟩:=iW (aw.mp h);have h:q (Mi.j3 ao y):=h;have:∃a ob kv,x=.ref a/\H a=aa (.frz ob (.dT kv))/\gu Hv ao kv:=by
    rcases hw with ⟨a,ob,kv,e,z,c⟩|⟨a,o,e,z,c⟩
    ·exact⟨a,ob,kv,e,vw.sub _ _ z,c⟩
    ·exact c.elim
   obtain⟨a,ob,kv,e,z,c⟩:=this;obtain⟨b,xs,rfl,l,r⟩:=kH.mp r;have hv:=wE hy r;subst hv;exact⟨a,_,_,e,.inr ⟨kv,y,b,.inr ⟨ob,z⟩,rfl,vw.sub _ _ l,rfl⟩,h,zB c⟩
  |_=>exact h.elim
theorem vW(i:Nat)(hk:AE M qV tk k):AE M qV (Fk tk (eZ i)) (Mi.g7 i k):=λe σ H Hv Q I h=>
 hk e σ H Hv _ I ((aw.mp h).mono λd hd v H1 Hv1 g1 r=>by
  obtain⟨w,he,hd⟩:=z9 (aw.mp hd);have I1:=I.grow g1;obtain⟨x,q,z⟩:=I1.any he;obtain⟨a,o,o',e1,g,h2,m⟩:=QU g1.vw z r (aw.mp hd);refine⟨x,q,a,o,e1,g,?_⟩;have:o.isSome=o'.isSome:=by
   cases o' with
   |none=>have m:o=ae:=m;rw[m];rfl
   |some d'=>obtain⟨v',m,_⟩:=m;rw[m];rfl
  rw[this];exact h2 _ H1 Hv1 g1 eu)
theorem qL{tv:TE}{v:Mi.E}(i:Nat)(hm:M i=true)(hk:AE M qV tk k)(hv:AE M qV tv v):AS M κ (L2.fV (eZ i) tk tv) (Mi.fV i k v):=λH0 Hv0 e σ H Hv D I h=>by
 obtain⟨d,hd,h⟩:=jN (aw.mp h);obtain⟨y,hy,h⟩:=jN (aw.mp h);obtain⟨w,he,h⟩:=z9 (aw.mp h);refine hv e σ H Hv _ I.toR0 (by
  rw[hd];intro x H1 Hv1 g1 rx;have I1:=I.grow g1;obtain⟨p,o,q,q1,n,h0,c⟩:=I1.cell hm he;refine⟨.ref p,q,hk e σ H1 Hv1 _ I1.toR0 (by
   rw[hy];intro u H2 Hv2 g2 ru;have I2:=I1.grow g2;have c2:=c.same g2.vis;have q2:=g2.old.at q1 c.nt;have g12:=g1.trans g2;have rx2:=jJ g2.vis rx;cases w with
   |d x=>exact(show False from aw.mp h).elim
   |ex z=>exact(show False from aw.mp h).elim
   |fn z=>exact(show False from aw.mp h).elim
   |xr z x=>exact(show False from aw.mp h).elim
   |df z=>exact(show False from aw.mp h).elim
   |dk ao=>
    obtain⟨hz,h⟩:=Mi.cK (aw.mp h);obtain⟨ky,hky,h⟩:=iW (aw.mp h);cases o with
    |dK kv=>
     have c2:gu Hv2 ao kv:=c2;have hu:=y7 hky ru;subst hu;refine⟨p,_,rfl,oi.k q2 (by rw[<- P2.len c2,cD];exact hz),?_⟩;exact h σ _ Hv2 (I2.write hm he q (show eI Hv2 (.dk (Mi.putK ky d ao)) (.dK (L2.putK kv ky x))from HU rx2 c2)) g12.vis
    |_=>exact c2.elim
   |dt ao=>
    cases y with
    |tup ds=>
     obtain⟨hz,h⟩:=Mi.cK (aw.mp h);obtain⟨ky,hky,h⟩:=iW (aw.mp h);cases o with
     |dT kv=>
      have c2:gu Hv2 ao kv:=c2;obtain⟨b,xs,rfl,l,r⟩:=(kH (H:=Hv2)).mp ru;have hu:=wE hky r;subst hu;refine⟨p,_,rfl,oi.t q2 (g2.vw.sub _ _ l) (by rw[<- P2.len c2,cD];exact hz),?_⟩;exact h σ _ Hv2 (I2.write hm he q (show eI Hv2 (.dt (Mi.putK ky d ao)) (.dT (L2.putK kv ky x))from HU rx2 c2)) g12.vis
     |_=>exact c2.elim
    |_=>exact(show False from aw.mp h).elim)⟩)
end
end A
namespace Zp
open PySem PySem.Spec PyProof.Rows L2
variable[Tb:A.bD]
section
variable{P:aW}{w:aQ}{B:a7}{F:ah->ak->Prop}{z:ak}
theorem OT{c t:ag}{i:Nat}{us:Array ah}{u:ah}{R:ah->ak->Prop}(hc:z.heap.IsTupleIter c t i)(ht:z.heap.IsTuple t us)(hu:us[i]? = aa u)
 (hR:∀h',h'.IsTupleIter c t (i+1)->qh c z.heap h'->R u { z with heap:=h' }):wpAny (model P w) B (qr (.ref c)) R F z:=by
 obtain⟨ob,gb,cb,db⟩:=id hc;obtain⟨ol,gl,_,nl,dl⟩:=ht;unfold qr;refine ar (xB (name:=kA "__next__") hc.typeIs yn (se yn hc.typeIs J4 ?_ (J3 _)));show wpAny _ _ (field (.ref c) 0 >>= _) _ _ z;refine ar (j8 gb db (x:=.ref t) rfl ?_);show wpAny _ _ (if(bB t==dD)=true then _ else _) _ _ z;rw[aG (λq:(bB t==dD)=true=>nomatch q)];show wpAny _ _ (field (.ref c) 1 >>= _) _ _ z;refine ar (j8 gb db (x:=.int i 0) rfl ?_);show wpAny _ _ (seqItems? (.ref t) >>= _) _ _ z;refine ar (sh gl dl ?_);simp only[ir,hu];refine ar (sk gb db (by simp) (bh ⟨u,rfl,bh (hR _ ?_ (qv ..))⟩));refine⟨_,kh _ gb (sL (nB db _)),(Cc ..).trans cb,?_⟩;rw[nB db];simp[rawInt]
theorem Op{c t:ag}{i:Nat}{us:Array ah}{R:ah->ak->Prop}(hn:B.handled=ae)(hc:z.heap.IsTupleIter c t i)(ht:z.heap.IsTuple t us)(hu:us[i]? = ae)
 (hF:∀h' e,BF c z.heap h'->(∃o,h'.get? e=aa o/\o.cls=.type "StopIteration")->F (.ref e) { z with heap:=h' }):wpAny (model P w) B (qr (.ref c)) R F z:=by
 obtain⟨ob,gb,cb,db⟩:=id hc;obtain⟨ol,gl,_,nl,dl⟩:=ht;unfold qr;refine ar (xB (name:=kA "__next__") hc.typeIs yn (se yn hc.typeIs J4 ?_ (J3 _)));show wpAny _ _ (field (.ref c) 0 >>= _) _ _ z;refine ar (j8 gb db (x:=.ref t) rfl ?_);show wpAny _ _ (if(bB t==dD)=true then _ else _) _ _ z;rw[aG (λq:(bB t==dD)=true=>nomatch q)];show wpAny _ _ (field (.ref c) 1 >>= _) _ _ z;refine ar (j8 gb db (x:=.int i 0) rfl ?_);show wpAny _ _ (seqItems? (.ref t) >>= _) _ _ z;refine ar (sh gl dl ?_);simp only[ir,hu];refine ar (xM (ar (sk gb db (by simp) ?_)));show wpAny _ _ (newExc (.type "StopIteration") [] >>= _) _ _ _;refine ar ?_;simp only[newExc,newTuple];refine ar (Bp ?_ (by size_fits));refine ar (m:=firstArgMember _ _) (wpAny_of_eq (a:=dD) (by simp only[firstArgMember];rfl) (Bp ?_ (by size_fits)));simp only[raiseNew];refine ar (wpAny_handled ?_)
 first|rw[show B.in1.handled=ae from hn]|rw[hn]
 exact ar (bh (wpAny_throw (hF _ _ (((qv ..).extBut.push _).push _) ⟨_,dj _ rfl,rfl⟩)))
end
def nm:Bool->String|true => "list" | false => "tuple"
def GW:Bool->String|true => "list_iterator" | false => "tuple_iterator"
def iE(k:Bool)(h:ay)(l:ag)(us:Array ah):Prop:=∃o,h.get? l=aa o/\o.cls=.type (nm k)/\∃n,o.data=.seq us n
def lw(k:Bool)(h:ay)(c l:ag)(i:Nat):Prop:=∃o,h.get? c=aa o/\o.cls=.type (GW k)/\o.data=.fields #[.ref l,.int i 0]
theorem iE.at{k:Bool}{h h':ay}{l:ag}{us:Array ah}(x:iE k h l us)(f:∀o,h.get? l=aa o->h'.get? l=aa o):iE k h' l us:=let ⟨o,e,r⟩:=x;⟨o,f o e,r⟩
theorem lw.at{k:Bool}{h h':ay}{c l:ag}{i:Nat}(x:lw k h c l i)(f:∀o,h.get? c=aa o->h'.get? c=aa o):lw k h' c l i:=let ⟨o,e,r⟩:=x;⟨o,f o e,r⟩
theorem lw.cell{k:Bool}{h:ay}{c l:ag}{i:Nat}(x:lw k h c l i):∃o,h.get? c=aa o/\∀v,o.data≠.cell v:=let ⟨o,e,_,d⟩:=x;⟨o,e,λv q=>by rw[d]at q;cases q⟩
section
variable{P:aW}{w:aQ}{B:a7}{F:ah->ak->Prop}{z:ak}
theorem nx{k:Bool}{c t:ag}{i:Nat}{us:Array ah}{u:ah}{R:ah->ak->Prop}(hc:lw k z.heap c t i)(ht:iE k z.heap t us)(hu:us[i]? = aa u)
 (hR:∀h',lw k h' c t (i+1)->qh c z.heap h'->R u { z with heap:=h' }):wpAny (model P w) B (qr (.ref c)) R F z:=by
 cases k
 ·exact OT hc ht hu hR
 ·exact wpAny_nextOf_list_item hc ht hu hR
theorem OY{k:Bool}{c t:ag}{i:Nat}{us:Array ah}{R:ah->ak->Prop}(hn:B.handled=ae)(hc:lw k z.heap c t i)(ht:iE k z.heap t us)(hu:us[i]? = ae)
 (hF:∀h' e,BF c z.heap h'->(∃o,h'.get? e=aa o/\o.cls=.type "StopIteration")->F (.ref e) { z with heap:=h' }):wpAny (model P w) B (qr (.ref c)) R F z:=by
 cases k
 ·exact Op hn hc ht hu hF
 ·exact wpAny_nextOf_list_end hn hc ht hu hF
abbrev rH(k:Bool)(l:ag):Obj:={ cls:=.type (GW k),data:=.fields #[.ref l,.int 0 0] }
theorem Hf{k:Bool}{l:ag}{us:Array ah}{R:ah->ak->Prop}(h:iE k z.heap l us)(hR:R (.ref z.heap.objs.size) { z with heap:=z.heap.push (rH k l) }):wpAny (model P w) B (pyIter (.ref l)) R F z:=by
 cases k
 ·exact wpAny_pyIter_tuple h hR
 ·exact xE h hR
end
structure Sr where
 k:Bool
 c:ag
 l:ag
 us:Array ah
def On(h:ay)(i:Nat)(q:Sr):Prop:=lw q.k h q.c q.l i/\iE q.k h q.l q.us
theorem On.at{h h':ay}{i:Nat}{q:Sr}(x:On h i q)(f:∀b o,b=q.c\/b=q.l->h.get? b=aa o->h'.get? b=aa o):On h' i q:=⟨x.1.at λo e=>f _ o (.inl rfl) e,x.2.at λo e=>f _ o (.inr rfl) e⟩
abbrev TupAt(h:ay)(T:ag)(vs:List ah):Prop:=h.get? T=aa { cls:=.type "tuple", data:=.seq vs.toArray }
structure Ap(z TI TO:ag)(L:List Sr):Prop where
 TIz:TI≠z
 TOz:TO≠z
 TITO:TI≠TO
 nd:(L.map (·.c)).Nodup
 c:∀q∈L,q.c≠z/\q.c≠TI/\q.c≠TO
 l:∀q∈L,q.l≠z/\q.l≠TO/\∀r∈L,q.l≠r.c
theorem Jg{M:kZ}{B:a7}{α β:Type}{b:β}{f:α->β->Sem (ForInStep β)}{E:ah->ak->Prop}(I:Nat->ak->Prop):∀(xs:List α) (n:Nat) (s:ak),
 (∀j x,xs[j]? = aa x->∀s,I (n+j) s->wpAny M B (f x b) (λr s'=>r=.yield b/\I (n+j+1) s') E s)->I n s->wpAny M B (forIn xs b f) (λr s'=>r=b/\I (n+xs.length) s') E s
 |[],n,s,_,h=>by
  rw[List.forIn_nil];exact bh ⟨rfl,h⟩
 |x::r,n,s,hs,h=>by
  rw[u6];refine ar (e5 (hs 0 x rfl s h) (λy s' hy=>?_) λ_ _ e=>e);obtain⟨rfl,hy⟩:=hy;refine e5 (Jg I r (n+1) s' (λj x' e s2 h2=>?_) hy) (λy s2 h2=>⟨h2.1,?_⟩) λ_ _ e=>e
  ·rw[show n+1+j=n+(j+1)by omega]at h2 ⊢;exact hs (j+1) x' (by simpa using e) s2 h2
  ·rw[dq,show n+(r.length+1)=n+1+r.length by omega];exact h2.2
section
variable{P:aW}{w:aQ}{B:a7}{F:ah->ak->Prop}{s:ak}
def Kp(z TO:ag)(L:List Sr)(h h':ay):Prop:=∀b o,b≠z->b≠TO->b∉L.map (·.c)->h.get? b=aa o->h'.get? b=aa o
structure Mid(s:ak)(z TI TO:ag)(L:List Sr)(i n:Nat)(s':ak):Prop where
 zz:IsZip s'.heap z TI TO .ellipsis
 vs:∃vs:List ah,vs.length=L.length/\TupAt s'.heap TO vs/\∀(j:Nat) (q:Sr),j<n->L[j]? = aa q->vs[j]? = q.us[i]?/\i<q.us.size
 on:∀(j:Nat) (q:Sr),L[j]? = aa q->On s'.heap (if j<n then i+1 else i) q
 sz:s'.heap.objs.size=s.heap.objs.size
 kp:Kp z TO L s.heap s'.heap
 eq:s'={ s with heap:=s'.heap }
theorem Qj{L:List Sr}(h:(L.map (·.c)).Nodup){i j:Nat}{p q:Sr}(hp:L[i]? = aa p)(hq:L[j]? = aa q)(hij:i≠j):p.c≠q.c:=by
 intro e;have h1:(L.map (·.c))[i]? = aa p.c:=by rw[eE,hp];rfl
 have h2:(L.map (·.c))[j]? = aa q.c:=by rw[eE,hq];rfl
 obtain⟨l1,g1⟩:=dm.mp h1;obtain⟨l2,g2⟩:=dm.mp h2;exact hij ((qk h).mp (by rw[g1,g2,e]))
theorem HP{z TI TO:ag}{L:List Sr}{i:Nat}{vs:List ah}{R:ah->ak->Prop}(hh:B.handled=ae)(D:Ap z TI TO L)(h0:L≠[])
 (hz:IsZip s.heap z TI TO .none) (hI:TupAt s.heap TI (L.map λq=>.ref q.c)) (hO:TupAt s.heap TO vs) (hl:vs.length=L.length) (hL:L.length<=8) (hon:∀q∈L,On s.heap i q)
 (hR:∀(h':ay) (ws:List ah),IsZip h' z TI TO (rawInt s.heap.objs.size)->ws.length=L.length->(∀(j:Nat) (q:Sr),L[j]? = aa q->ws[j]? = q.us[i]?/\i<q.us.size)->TupAt h' TO ws->TupAt h' s.heap.objs.size ws->(∀q∈L,On h' (i+1) q) ->
  Kp z TO L s.heap h'->R (.ref s.heap.objs.size) { s with heap:=h' })
 (hF:∀(h':ay) (e:ag),Kp z TO L s.heap h'->(∃o,h'.get? e=aa o/\o.cls=.type "StopIteration")->(∃q∈L,q.us.size<=i)->F (.ref e) { s with heap:=h' }) :
 wpAny (model P w) B (jA.«zip.__next__» ⟨[.ref z],[]⟩) (λfin s'=>∃v,fin=.done (.ret v)/\R v s') F s:=by
 show wpAny _ _ (field (.ref z) 2 >>= _) _ _ _;refine ar (j8 hz rfl (x:=.bool false) rfl ?_);show wpAny _ _ (field (.ref z) 3 >>= _) _ _ _;refine ar (j8 hz rfl (x:=.ref TI) rfl ?_);refine ar (sh hI rfl ?_);have hne:((L.map λq=>bB q.c).toArray.isEmpty)=false:=by cases L with|nil=>exact absurd rfl h0|cons q r=>rfl
 simp only[hne,lX,fX];show wpAny _ _ (Ke (.ref z) >>= _) _ _ _;refine ar ?_;unfold Ke;refine ar (j8 hz rfl (x:=.none) rfl (bh ?_));simp only[gi];refine ar (xM (ar (j8 hz rfl (x:=.ref TO) rfl (ar (xD hz (by simp) λh1 hz1 hs1=>?_)))));replace hz1:IsZip h1 z TI TO .ellipsis:=hz1;have M0:Mid s z TI TO L i 0 { s with heap:=h1 }:=⟨hz1,⟨vs,hl,hs1.extBut _ _ D.TOz hO,λj q h _=>absurd h (Nat.not_lt_zero _)⟩,λj q e=>(hon q (lS e)).at λb o hb x=>by
  have hq:=lS e;rcases hb with rfl|rfl
  ·exact hs1.extBut _ _ (D.c q hq).1 x
  ·exact hs1.extBut _ _ (D.l q hq).1 x,hs1.1,λb o b1 _ _ x=>hs1.extBut _ _ b1 x,rfl⟩
 refine ar (e5 (Jg (Mid s z TI TO L i) _ 0 _ ?_ M0) ?_ λ_ _ e=>e)
 ·intro j x e s2 M;rw[iO]at M ⊢;obtain⟨q,hq,rfl⟩ : ∃q,L[j]? = aa q/\x=(bB q.c,j):=by
   simp only[List.getElem?_zipIdx,eE,Option.map_map]at e;obtain⟨q,hq,e⟩:=oA.mp e;exact⟨q,hq,by rw[<- e];simp⟩
  have hqm:=lS hq;have jlt:j<L.length:=(dm.mp hq).1;have onq:=M.on j q hq;rw[aG (kj j)]at onq;obtain⟨ws,wl,wO,wv⟩:=M.vs;refine ar (wpAny_onRaise ?_);show wpAny _ _ (qr (.ref q.c) >>= _) _ _ _;cases hu:q.us[i]? with
  |none=>
   refine ar (OY hh onq.1 onq.2 hu λh3 e2 x3 he=>?_);obtain⟨oe,goe,coe⟩:=he;have hz3:IsZip h3 z TI TO .ellipsis:=x3 _ _ (D.c q hqm).1.symm M.zz;have hez:e2≠z:=λy=>by subst y;rw[hz3]at goe;cases goe;simp at coe
   refine xD hz3 (by simp) λh4 _ x4=>?_;rw[M.eq];exact hF h4 e2 (λb o b1 b2 b3 y=>x4.extBut _ _ b1 (x3 _ _ (λq'=>b3 (by rw[q'];exact qj hqm)) (M.kp b o b1 b2 b3 y))) ⟨oe,x4.extBut _ _ hez goe,coe⟩ ⟨q,hqm,by simpa using hu⟩
  |some u=>
   refine ar (nx onq.1 onq.2 hu λh3 a3 x3=>bh ?_);have hO3:TupAt h3 TO ws:=x3.extBut _ _ (D.c q hqm).2.2.symm wO;refine ar (sh hO3 rfl (ar (xG hO3 rfl ?_ (by rw[cz,wl,cD];omega) (by simp only[Array.size_setIfInBounds,cz];rw[wl,cD];omega))));refine ar (wpAny_letGo (bh ⟨rfl,?_⟩));have x4:qh TO h3 (h3.update TO (eg (·.setIfInBounds j u))):=qv ..;have hu':i<q.us.size:=(sM.mp hu).1;have up:∀b o,b≠q.c->b≠TO->s2.heap.get? b=aa o->(h3.update TO (eg (·.setIfInBounds j u))).get? b=aa o:=λb o b1 b2 y=>x4.extBut _ _ b2 (x3.extBut _ _ b1 y);refine⟨up _ _ (D.c q hqm).1.symm D.TOz.symm M.zz,⟨ws.set j u,by rw[jD];exact wl,?_,λk r hk hr=>?_⟩,λk r hr=>?_,?_,λb o b1 b2 b3 y=>up b o (λq'=>b3 (by rw[q'];exact qj hqm)) b2 (M.kp b o b1 b2 b3 y),?_⟩
   ·show(h3.update TO _).get? TO=_;rw[kh _ hO3 rfl];simp[eg]
   ·by_cases hkj:k=j
    ·subst hkj;rw[hq]at hr;cases hr;rw[BZ,aF rfl,aF (by omega),hu];exact⟨rfl,hu'⟩
    ·rw[BZ,aG (λq=>hkj q.symm)];exact wv k r (by omega) hr
   ·have hrm:=lS hr;by_cases hkj:k=j
    ·subst hkj;rw[hq]at hr;cases hr;rw[aF (Nat.lt_succ_self _)];exact⟨a3.at λo y=>x4.extBut _ _ (D.c q hqm).2.2 y,onq.2.at λo y=>up _ o ((D.l q hqm).2.2 q hqm) (D.l q hqm).2.1 y⟩
    ·have:=M.on k r hr;rw[show(if k<j then i+1 else i)=(if k<j+1 then i+1 else i)from by
      by_cases h:k<j
      ·rw[aF h,aF (by omega)]
      ·rw[aG h,aG (by omega)]]at this
     exact this.at λb o hb y=>by
      rcases hb with rfl|rfl
      ·exact up _ _ (Qj D.nd hr hq hkj) (D.c r hrm).2.2 y
      ·exact up _ _ ((D.l r hrm).2.2 q hqm) (D.l r hrm).2.1 y
   ·show(h3.update TO _).objs.size=_;rw[x4.1,x3.1,M.sz]
   ·rw[M.eq]
 ·rintro r s2 ⟨rfl,M⟩;have hL2:0+((L.map λq=>bB q.c).toArray.toList.zipIdx).length=L.length:=by simp
  rw[hL2]at M;obtain⟨ws,wl,wO,wv⟩:=M.vs;refine ar (sh wO rfl (ar (wpAny_newTuple ?_ (by show ws.length<=_;rw[wl,cD];omega))));show wpAny _ _ (Kc (.ref z) (.ref s2.heap.objs.size) >>= _) _ _ _;refine ar ?_;unfold Kc;have hz6:IsZip (s2.heap.push { cls:=.type "tuple", data:=.seq ws.toArray }) z TI TO .ellipsis:=br _ M.zz;refine ar (xD hz6 (by simp) λh7 hz7 x7=>?_);replace hz7:IsZip h7 z TI TO (rawInt s2.heap.objs.size):=hz7;refine xD hz7 (by simp) λh8 hz8 x8=>?_;replace hz8:IsZip h8 z TI TO (rawInt s2.heap.objs.size):=hz8;have up:∀b o,b≠z->s2.heap.get? b=aa o->h8.get? b=aa o:=λb o b1 y=>x8.extBut _ _ b1 (x7.extBut _ _ b1 (br _ y));have hzl:z<s2.heap.objs.size:=bE M.zz;have hT8:TupAt h8 s2.heap.objs.size ws:=x8.extBut _ _ (nA hzl) (x7.extBut _ _ (nA hzl) (dj _ rfl));refine bh ⟨_,rfl,?_⟩;show R (.ref s2.heap.objs.size) _;rw[M.sz]at hz8 hT8 ⊢;have e:=M.eq;rw[e];exact hR h8 ws hz8 wl (λj q hq=>wv j q (dm.mp hq).1 hq) (up _ _ D.TOz wO) hT8 (λq hq=>by
   obtain⟨j,hj⟩:=sC hq;have:=M.on j q hj;rw[aF (dm.mp hj).1]at this;exact this.at λb o hb y=>by
    rcases hb with rfl|rfl
    ·exact up _ _ (D.c q hq).1 y
    ·exact up _ _ (D.l q hq).1 y) λb o b1 b2 b3 y=>up b o b1 (M.kp b o b1 b2 b3 y)
end
section
variable{P:aW}{w:aQ}{B:a7}{F':ah->ak->Prop}{s:ak}
abbrev zO(TI TO:ag):Obj:={ cls:=.type "zip", data:=.fields #[.none,.bool false,.bool false,.ref TI,.ref TO] }
abbrev tO(vs:List ah):Obj:={ cls:=.type "tuple", data:=.seq vs.toArray }
theorem mk2(k1 k2:Bool)(l1 l2:ag)(xs ys:Array ah) :
 Meets (jA.«zip.__new__» ⟨[.type "zip", .ref l1,.ref l2],[]⟩) (λ_ R s=>iE k1 s.heap l1 xs/\iE k2 s.heap l2 ys /\
  ∀h1 h2 h3 h4:ay,h1=s.heap.push (rH k1 l1)->h2=h1.push (rH k2 l2)->h3=h2.push (tO [.ref s.heap.objs.size,.ref h1.objs.size])->h4=h3.push (tO [.none,.none]) ->
  R (.ok (.ret (.ref h4.objs.size))) { s with heap:=h4.push (zO h2.objs.size h3.objs.size) }):=
 .of_wp λprog w A R s h=>by
  obtain⟨hp,g,d,tk,os⟩:=s;obtain⟨a1,a2,h⟩:=h;have hsub:=sub_zip;have b1:iE k1 (Shared.heap ⟨hp,g,d,tk,os⟩) l1 xs:=a1;have b2:iE k2 (Shared.heap ⟨hp.push (rH k1 l1),g,d,tk,os⟩) l2 ys:=a2.at λo e=>br _ e
  wp_walk using Hf b1,Hf b2
  exact⟨_,rfl,h _ _ _ _ rfl rfl rfl rfl⟩
abbrev Tr:=Bool×ag×ag
structure Zs(h:ay)(z TI TO:ag)(T:List Tr)(i:Nat):Prop where
 zz:IsZip h z TI TO .none
 ti:TupAt h TI (T.map λq=>.ref q.2.1)
 to:∃vs:List ah,vs.length=T.length/\TupAt h TO vs
 it:∀q∈T,lw q.1 h q.2.1 q.2.2 i
theorem call2{k1 k2:Bool}{l1 l2:ag}{xs ys:Array ah}{R:ah->ak->Prop}(a1:iE k1 s.heap l1 xs)(a2:iE k2 s.heap l2 ys)
 (h:∀h',Zs h' (s.heap.objs.size+4) (s.heap.objs.size+2) (s.heap.objs.size+3) [(k1,s.heap.objs.size,l1),(k2,s.heap.objs.size+1,l2)] 0->(∀c o,s.heap.get? c=aa o->h'.get? c=aa o) ->
  R (.ref (s.heap.objs.size+4)) { s with heap:=h' }):wpAny (model P w) B (call (.type "zip") [.ref l1,.ref l2]) R F' s:=by
 refine callType_new F.called_zip (by decide) (F.typeCall_zip_2 _ _) (F.newCall_zip_2 _ _) (λobj=>F.args_object_init_3 obj _ _) F.entry_zip_new (mk2 k1 k2 l1 l2 xs ys) ⟨a1,a2,?_⟩;intro h1 h2 h3 h4 e1 e2 e3 e4;have z1:h1.objs.size=s.heap.objs.size+1:=by rw[e1];exact qg ..
 have z2:h2.objs.size=s.heap.objs.size+2:=by rw[e2,qg,z1]
 have z3:h3.objs.size=s.heap.objs.size+3:=by rw[e3,qg,z2]
 have z4:h4.objs.size=s.heap.objs.size+4:=by rw[e4,qg,z3]
 have p1:∀c o,s.heap.get? c=aa o->h1.get? c=aa o:=λc o x=>by rw[e1];exact br _ x
 have p2:∀c o,h1.get? c=aa o->h2.get? c=aa o:=λc o x=>by rw[e2];exact br _ x
 have p3:∀c o,h2.get? c=aa o->h3.get? c=aa o:=λc o x=>by rw[e3];exact br _ x
 have p4:∀c o,h3.get? c=aa o->h4.get? c=aa o:=λc o x=>by rw[e4];exact br _ x
 have p5:∀c o,h4.get? c=aa o->(h4.push (zO h2.objs.size h3.objs.size)).get? c=aa o:=λc o x=>br _ x;have g1:h1.get? s.heap.objs.size=aa (rH k1 l1):=by rw[e1];exact dj _ rfl
 have g2:h2.get? h1.objs.size=aa (rH k2 l2):=by rw[e2];exact dj _ rfl
 have g3:h3.get? h2.objs.size=aa (tO [.ref s.heap.objs.size,.ref h1.objs.size]):=by rw[e3];exact dj _ rfl
 have g4:h4.get? h3.objs.size=aa (tO [.none,.none]):=by rw[e4];exact dj _ rfl
 have g5:(h4.push (zO h2.objs.size h3.objs.size)).get? h4.objs.size=aa (zO h2.objs.size h3.objs.size):=dj _ rfl;show _/\_;refine⟨⟨_,g5,rfl⟩,?_⟩;rw[z1]at g2 g3;rw[z2]at g3;rw[z3]at g4;rw[z4]at g5 ⊢;rw[z2,z3]at g5 p5 ⊢;exact h _ ⟨g5,p5 _ _ (p4 _ _ g3),⟨_,rfl,p5 _ _ g4⟩,λq hq=>by
  rcases bn.mp hq with rfl|hq
  ·exact⟨_,p5 _ _ (p4 _ _ (p3 _ _ (p2 _ _ g1))),rfl,rfl⟩
  ·obtain rfl:=dI.mp hq;exact⟨_,p5 _ _ (p4 _ _ (p3 _ _ g2)),rfl,rfl⟩⟩ λc o x=>p5 _ _ (p4 _ _ (p3 _ _ (p2 _ _ (p1 _ _ x))))
end
end Zp
namespace Zp
open PySem PySem.Spec PyProof.Rows L2 A
variable[Tb:A.bD]
def j4(H:Hp)(s:Bool×ag)(xs:List V):Prop:=match s.1 with
 |true=>Lst H s.2 xs
 |false=>H s.2=aa (.tup xs)
theorem j4.nn{H:Hp}{s:Bool×ag}{xs:List V}(h:j4 H s xs):H s.2≠ae:=by
 obtain⟨k,a⟩:=s;cases k
 ·have h:H a=_:=h;show H a≠ae;rw[h];simp
 ·rcases(show Lst H a xs from h)with h|⟨o,h⟩
  ·show H a≠ae;rw[h];simp
  ·show H a≠ae;rw[h];simp
theorem j4.inj{H:Hp}{s:Bool×ag}{xs ys:List V}(h:j4 H s xs)(h':j4 H s ys):xs=ys:=by
 obtain⟨k,a⟩:=s;cases k
 ·have h:H a=aa (.tup xs):=h;have h':H a=aa (.tup ys):=h';rw[h]at h';cases h';rfl
 ·rcases(show Lst H a xs from h)with h|⟨o,h⟩<;>rcases(show Lst H a ys from h')with h'|⟨o',h'⟩<;>rw[h]at h'<;>cases h'<;>rfl
theorem j4.at{X:Cx}{af:List (ag×Obj)}{σ:L2.St}{H:Hp}{s:ak}{k:Bool}{a:ag}{xs:List V}(I:Inv X af σ H s)(h:j4 H (k,a) xs):∃am:List ah,Vals xs am/\iE k s.heap a am.toArray:=by
 cases k
 ·have h:H a=aa (.tup xs):=h;obtain⟨_,am,rv,o,e,c,_,d⟩:=I.hok a _ h;exact⟨am,rv,o,e,c,d⟩
 ·have h:Lst H a xs:=h;obtain⟨am,rv,⟨o,n,e,c,_,d⟩,_⟩:=I.list h.sq;exact⟨am,rv,o,e,c,n,d⟩
abbrev jL(H:Hp)(S:List (Bool×ag))(xss:List (List V)):Prop:=P2 (λs xs=>j4 H s xs) S xss
def uv(S:List (Bool×ag)):It:=
 ⟨fun i H => ∃ xss, jL H S xss ∧ ∀ xs ∈ xss, i < xs.length,
  λi H v H'=>∃p ws,(∀xss,jL H S xss->P2 (λ(xs:List V) x=>xs[i]? = aa x) xss ws)/\H p=ae/\v=.ref p/\H'=upd H p (.tup ws),
  λi H=>∃xss,jL H S xss/\∃xs∈xss,xs.length<=i⟩
theorem IZ{H:Hp}:∀{S:List (Bool×ag)} {xss yss:List (List V)},jL H S xss->jL H S yss->xss=yss
 |_,_,_,.nil,.nil=>rfl
 |_,_,_,.cons a r,.cons b t=>by rw[a.inj b,IZ r t]
theorem lie{X:Cx}{af:List (ag×Obj)}{σ:L2.St}{H:Hp}{s:ak}(I:Inv X af σ H s):∀{T:List Tr} {xss:List (List V)},jL H (T.map λq=>(q.1,q.2.2)) xss ->
 ∃L:List Sr,L.map (λq=>(q.k,q.c,q.l))=T/\(∀q∈L,iE q.k s.heap q.l q.us/\H q.l≠ae)/\P2 (λ(q:Sr) xs=>Vals xs q.us.toList) L xss
 |[],_,.nil=>⟨[],rfl,λq h=>absurd h (by simp),.nil⟩
 |(k,c,l)::T,_,.cons a r=>by
  obtain⟨L,e,h,p⟩:=lie I r;obtain⟨am,rv,q⟩:=a.at I;refine⟨⟨k,c,l,am.toArray⟩::L,by rw[b9,e],λy hy=>?_,.cons rv p⟩;rcases bn.mp hy with rfl|hy
  ·exact⟨q,a.nn⟩
  ·exact h y hy
theorem pick{i:Nat}:∀{L:List Sr} {xss:List (List V)} {ws:List ah},P2 (λ(q:Sr) xs=>Vals xs q.us.toList) L xss->ws.length=L.length->(∀(j:Nat) (q:Sr),L[j]? = aa q->ws[j]? = q.us[i]?/\i<q.us.size) ->
 ∃vws:List V,Vals vws ws/\P2 (λ(xs:List V) x=>xs[i]? = aa x) xss vws
 |_,_,[],.nil,_,_=>⟨[],.nil,.nil⟩
 |_,_,w::ws,.cons (a:=q) (b:=xs) rv t,hl,h=>by
  obtain⟨vws,r,p⟩:=pick t (by simpa using hl) λj r hr=>by simpa using h (j+1) r (by simpa using hr)
  obtain⟨e,hi⟩:=h 0 q rfl;have hlen:=rv.length;have hix:i<xs.length:=by simp at hlen;omega
  obtain⟨u,hu,ru⟩:=rv.get (i:=i) (x:=xs[i]) (by simp[hix]);have:aa w=aa u:=by have e':aa w=q.us[i]?:=e;rw[e',<- hu];simp
  cases this;exact⟨xs[i]::vws,.cons ru r,.cons (by simp[hix]) p⟩
 |_,_,[],.cons _ _,hl,_=>by simp at hl
 |_,_,w::ws,.nil,hl,_=>by simp at hl
structure E5(z TI TO:ag)(T:List Tr):Prop where
 TIz:TI≠z
 TOz:TO≠z
 TITO:TI≠TO
 nd:(T.map (·.2.1)).Nodup
 c:∀q∈T,q.2.1≠z/\q.2.1≠TI/\q.2.1≠TO
theorem Rc{P:aW}{w:aQ}{K:aB}{elts:List aO}{k1:Nat}{pos:Pos}{z TI TO:ag}{T:List Tr}(D0:E5 z TI TO T)(hT0:T≠[])(hT8:T.length<=8) :
 Turn P w K (.Tuple elts k1 pos) (uv (T.map λq=>(q.1,q.2.2))) (z::TI::TO::T.map (·.2.1)) z (λi h=>Zs h z TI TO T i) where
 mem:=by simp
 obj:=λi h st b hb=>by
  rcases bn.mp hb with rfl|hb
  ·exact⟨_,st.zz,λv q=>by cases q⟩
  rcases bn.mp hb with rfl|hb
  ·exact⟨_,st.ti,λv q=>by cases q⟩
  rcases bn.mp hb with rfl|hb
  ·obtain⟨vs,_,h⟩:=st.to;exact⟨_,h,λv q=>by cases q⟩
  ·obtain⟨q,hq,rfl⟩:=cL.mp hb;exact(st.it q hq).cell
 keep:=λi h h' st kk=>⟨kk z (by simp) _ st.zz,kk TI (by simp) _ st.ti,let ⟨vs,l,e⟩:=st.to;⟨vs,l,kk TO (by simp) _ e⟩,λq hq=>(st.it q hq).at λo e=>kk _ (by simp only[bn];exact .inr (.inr (.inr (qj (f:=λq:Tr=>q.2.1) hq)))) o e⟩
 item:=by
  intro X hP hw hK hc i af s σ H E I hf st hg;subst hP hw hK;obtain⟨xss,hq,hx⟩:=hg;obtain⟨L,eL,at_,rL⟩:=lie I hq;have eT:T.map (λq=>(bB q.2.1))=L.map λq=>.ref q.c:=by rw[<- eL,eS];rfl
  have eC:T.map (λq=>q.2.1)=L.map λq=>q.c:=by rw[<- eL,eS];rfl
  have lT:T.length=L.length:=by rw[<- eL,be]
  have inT:∀q∈L,(q.k,q.c,q.l)∈T:=λq h=>by rw[<- eL];exact qj (f:=λq:Sr=>(q.k,q.c,q.l)) h
  have lne:∀q∈L,∀b∈z::TI::TO::T.map (·.2.1),q.l≠b:=λq h b hb e=>(at_ q h).2 (by rw[e];exact(hf b hb).1);have D:Ap z TI TO L:=⟨D0.TIz,D0.TOz,D0.TITO,by rw[<- eC];exact D0.nd,λq h=>D0.c _ (inT q h),λq h=>⟨lne q h z (by simp),lne q h TO (by simp),λr hr=>lne q h r.c (by rw[eC];simp only[bn];exact .inr (.inr (.inr (qj (f:=λq:Sr=>q.c) hr))))⟩⟩;have hO:=st.to;obtain⟨vs,vl,hO⟩:=hO;have hTI:=st.ti;rw[eT]at hTI;have hty:s.TypeIs (.ref z) "zip" := ⟨_,st.zz,rfl⟩;unfold pyNext;refine ar (xH (xB (name:=kA "__next__") hty yq (se yq hty F.entry_zip_next
   (HP (by first|exact I.ok.hd hc|(simp;exact I.ok.hd hc)) D (λe=>hT0 (by rw[e]at lT;exact BG lT)) st.zz hTI hO (by rw[vl,lT]) (by omega) (λq h=>⟨st.it _ (inT q h),(at_ q h).1⟩) (λh' ws hz' wl wv hO' hN on' kp=>bh ?_) (λh' e kp he hend=>?_)) (F.args_zip_next_1 _))))
  ·refine⟨_,rfl,wpAny_letOwnedTupleGo_zip hz' λh2 hz2 hs2=>?_⟩;have kk:∀b o,b∉z::TI::TO::T.map (·.2.1)->s.heap.get? b=aa o->h2.get? b=aa o:=λb o hb q=>by
    simp only[bn,not_or]at hb;exact(hs2.2 b hb.1).trans (kp b o hb.1 hb.2.2.1 (by rw[<- eC];exact hb.2.2.2) q)
   have hne:∀b∈z::TI::TO::T.map (·.2.1),b≠s.heap.objs.size:=λb hb e=>by
    obtain⟨o,ho,_⟩ : ∃o,s.heap.get? b=aa o/\True:=by
     rcases bn.mp hb with rfl|hb
     ·exact⟨_,st.zz,trivial⟩
     rcases bn.mp hb with rfl|hb
     ·exact⟨_,st.ti,trivial⟩
     rcases bn.mp hb with rfl|hb
     ·exact⟨_,hO,trivial⟩
     ·obtain⟨q,hq,rfl⟩:=cL.mp hb;obtain⟨o,ho,_⟩:=st.it q hq;exact⟨o,ho,trivial⟩
    exact absurd (bE ho) (by rw[e];exact kj _)
   obtain⟨vws,hv,hy⟩ : ∃vws:List V,Vals vws ws/\P2 (λ(xs:List V) x=>xs[i]? = aa x) xss vws:=by exact pick rL wl wv
   have hN2:TupAt h2 s.heap.objs.size ws:=(hs2.2 _ (λe=>hne z (by simp) e.symm)).trans hN;refine⟨.ref s.heap.objs.size,upd H s.heap.objs.size (.tup vws),Nd (s:=s) (t':=s.toks) I hf kk (bu _) ⟨?_,ws,hv,⟨_,hN2,rfl,rfl,_,rfl⟩⟩,rfl,⟨_,vws,λyss h=>by rw[IZ h hq];exact hy,I.hok.fresh (bu _),rfl,rfl⟩,?_,λb hb=>?_⟩
   ·rw[hv.length,wl,cD];omega
   ·refine⟨hz2,(hs2.2 _ D0.TIz).trans ?_,⟨ws,by rw[wl,lT],(hs2.2 _ D0.TOz).trans hO'⟩,λq hq2=>?_⟩
    ·exact kp _ _ D0.TIz D0.TITO (λh=>by
      rw[<- eC]at h;obtain⟨q,hq2,e⟩:=cL.mp h;exact(D0.c q hq2).2.1 e) st.ti
    ·rw[<- eL]at hq2;obtain⟨r,hr,rfl⟩:=cL.mp hq2;exact(on' r hr).1.at λo q=>(hs2.2 _ (D.c r hr).1).trans q
   ·rw[av (hne b hb)];exact(hf b hb).1
  ·exfalso;obtain⟨q,hqm,hle⟩:=hend;obtain⟨j,hj⟩:=sC hqm;obtain⟨xs,hxs,rv⟩:=rL.getL hj;have:=hx xs (lS hxs);have:=rv.length;simp at this;omega
 done:=by
  intro X hP hw hK hc i af s σ H E I hf st hg;subst hP hw hK;obtain⟨xss,hq,xs0,hx0,hxl⟩:=hg;obtain⟨L,eL,at_,rL⟩:=lie I hq;have eT:T.map (λq=>(bB q.2.1))=L.map λq=>.ref q.c:=by rw[<- eL,eS];rfl
  have eC:T.map (λq=>q.2.1)=L.map λq=>q.c:=by rw[<- eL,eS];rfl
  have lT:T.length=L.length:=by rw[<- eL,be]
  have inT:∀q∈L,(q.k,q.c,q.l)∈T:=λq h=>by rw[<- eL];exact qj (f:=λq:Sr=>(q.k,q.c,q.l)) h
  have lne:∀q∈L,∀b∈z::TI::TO::T.map (·.2.1),q.l≠b:=λq h b hb e=>(at_ q h).2 (by rw[e];exact(hf b hb).1);have D:Ap z TI TO L:=⟨D0.TIz,D0.TOz,D0.TITO,by rw[<- eC];exact D0.nd,λq h=>D0.c _ (inT q h),λq h=>⟨lne q h z (by simp),lne q h TO (by simp),λr hr=>lne q h r.c (by rw[eC];simp only[bn];exact .inr (.inr (.inr (qj (f:=λq:Sr=>q.c) hr))))⟩⟩;have hO:=st.to;obtain⟨vs,vl,hO⟩:=hO;have hTI:=st.ti;rw[eT]at hTI;have hty:s.TypeIs (.ref z) "zip" := ⟨_,st.zz,rfl⟩;unfold pyNext;refine ar (xH (xB (name:=kA "__next__") hty yq (se yq hty F.entry_zip_next
   (HP (by first|exact I.ok.hd hc|(simp;exact I.ok.hd hc)) D (λe=>hT0 (by rw[e]at lT;exact BG lT)) st.zz hTI hO (by rw[vl,lT]) (by omega) (λq h=>⟨st.it _ (inT q h),(at_ q h).1⟩) (λh' ws hz' wl wv hO' hN on' kp=>?_) (λh' e kp he hend=>?_)) (F.args_zip_next_1 _))))
  ·exfalso;obtain⟨j,hj⟩:=sC hx0;obtain⟨q,hqj,rv⟩:=rL.IJ hj;have:=(wv j q hqj).2;have:=rv.length;simp at this;omega
  ·obtain⟨o,ho,hcl⟩:=he;refine ar (Br (T := "StopIteration") (b:=true) ⟨o,ho,hcl⟩ isSubtype_stop (bh ⟨rfl,?_⟩));exact Ea (s:=s) (t':=s.toks) I hf λb o hb q=>by
    simp only[bn,not_or]at hb;exact kp b o hb.1 hb.2.2.1 (by rw[<- eC];exact hb.2.2.2) q
 self:=λ_ i s Q E st h=>wpAny_pyIter_zip st.zz h
end Zp
namespace Mi
def zq:D->Rs (List D)
 |.lst ds=>.ok ds
 |.tup ds=>.ok ds
 |_=>.no
def Am(a b:E):I:=λe=>(a e).bind λx=>(b e).bind λy=>(zq x).bind λds=>(zq y).bind λes=>.ok (jp ds es)
end Mi
namespace Zp
open PySem PySem.Spec PyProof.Rows L2 A
open Mi (D W Rs Fin aw)
variable[Tb:A.bD]
theorem j4.same{H H':Hp}{s:Bool×ag}{xs:List V}(h:cV H H')(q:j4 H s xs):j4 H' s xs:=by
 obtain⟨k,a⟩:=s;cases k
 ·exact h _ _ q
 ·exact Lst.same (a:=a) h q
theorem t7{H H':Hp}{S:List (Bool×ag)}{xss:List (List V)}(h:cV H H')(q:jL H S xss):jL H' S xss:=q.imp λ_ _ x=>x.same h
def HL(dss:List (List D))(dz:List D):Prop:=(∀i,i<dz.length->∃us,dz[i]? = aa (.tup us)/\P2 (λ(ds:List D) u=>ds[i]? = aa u) dss us)/\∃ds∈dss,ds.length=dz.length
theorem picks{Hv:Hp}{i:Nat}:∀{dss:List (List D)} {xss:List (List V)} {us:List D} {ws:List V},P2 (P2 (Rep Hv)) dss xss->P2 (λ(ds:List D) u=>ds[i]? = aa u) dss us->P2 (λ(xs:List V) x=>xs[i]? = aa x) xss ws->P2 (Rep Hv) us ws
 |_,_,_,_,.nil,.nil,.nil=>.nil
 |_,_,_,_,.cons a r,.cons b s,.cons c t=>.cons (a.get b c) (picks r s t)
theorem EK{α β:Type}{F:α->β->Prop}:∀{l:List α} {m:List β} {b:β},P2 F l m->b∈m->∃a∈l,F a b
 |_,_,_,.cons x t,h=>by
  rcases bn.mp h with rfl|h
  ·exact⟨_,b8 ..,x⟩
  ·obtain⟨a,ha,q⟩:=EK t h;exact⟨a,cy _ ha,q⟩
theorem zw{α β:Type}{F:α->β->Prop}:∀{l:List α} {m:List β} {a:α},P2 F l m->a∈l->∃b∈m,F a b
 |_,_,_,.cons x t,h=>by
  rcases bn.mp h with rfl|h
  ·exact⟨_,b8 ..,x⟩
  ·obtain⟨a,ha,q⟩:=zw t h;exact⟨a,cy _ ha,q⟩
def ZP(S:List (Bool×ag))(dss:List (List D))(xss:List (List V))(_ Hv:Hp):Prop:=jL Hv S xss/\P2 (P2 (Rep Hv)) dss xss
theorem LS{S:List (Bool×ag)}{dss:List (List D)}{xss:List (List V)}{dz:List D}(hz:HL dss dz):tP (uv S) (ZP S dss xss) dz:=by
 refine⟨λi H Hv p v hi=>?_,λi H Hv x H' p v hi y=>?_,λH Hv p v=>?_⟩
 ·obtain⟨us,_,hu⟩:=hz.1 i hi;refine⟨xss,t7 v.sub p.1,λxs hx=>?_⟩;obtain⟨ds,hd,r⟩:=EK p.2 hx;obtain⟨u,_,e⟩:=zw hu hd;have:=(dm.mp e).1;rw[<- r.len];exact this
 ·obtain⟨us,hd,hu⟩:=hz.1 i hi;obtain⟨q,ws,hw,hq,rfl,rfl⟩:=y;have r:=picks p.2 hu (hw xss (t7 v.sub p.1));obtain⟨g,k⟩:=Ff v r hq;exact⟨_,.tup us,g,hd,k⟩
 ·obtain⟨ds,hd,e⟩:=hz.2;obtain⟨xs,hx,r⟩:=zw p.2 hd;exact⟨xss,t7 v.sub p.1,xs,hx,by rw[<- r.len];omega⟩
theorem HV:∀ds es:List D,HL [ds,es] (Mi.jp ds es)
 |[],es=>⟨λi h=>absurd h (by simp[Mi.jp]),[],by simp,by simp[Mi.jp]⟩
 |d::r,[]=>⟨λi h=>absurd h (by simp[Mi.jp]),[],by simp,by simp[Mi.jp]⟩
 |d::r,e::s=>by
  obtain⟨h1,ds,hd,hl⟩:=HV r s;refine⟨λi hi=>?_,?_⟩
  ·cases i with
   |zero=>exact⟨[d,e],rfl,.cons rfl (.cons rfl .nil)⟩
   |succ i=>
    obtain⟨us,a,b⟩:=h1 i (by simpa [Mi.jp]using hi);refine⟨us,by simpa [Mi.jp]using a,?_⟩;cases b with
    |cons x t=>
     cases t with
     |cons y t=>cases t;exact .cons (by simpa using x) (.cons (by simpa using y) .nil)
  ·rcases bn.mp hd with rfl|hd
   ·exact⟨d::ds,by simp,by simp[Mi.jp,hl]⟩
   ·obtain rfl:=dI.mp hd;exact⟨e::ds,by simp,by simp[Mi.jp,hl]⟩
theorem Iu{x:D}{k:List D->Prop}(h:Fin (Mi.zq x) k):∃ds,(x=.lst ds\/x=.tup ds)/\k ds:=by
 cases x with
 |lst b=>exact⟨b,.inl rfl,h⟩
 |tup b=>exact⟨b,.inr rfl,h⟩
 |_=>exact h.elim
theorem Jc{H:Hp}{x:D}{ds:List D}{v:V}(h:x=.lst ds\/x=.tup ds)(r:Rep H x v):∃k a xs,v=.ref a/\j4 H (k,a) xs/\P2 (Rep H) ds xs:=by
 rcases h with rfl|rfl
 ·obtain⟨a,xs,e,l,r⟩:=j7.mp r;exact⟨true,a,xs,e,l,r⟩
 ·obtain⟨a,xs,e,l,r⟩:=kH.mp r;exact⟨false,a,xs,e,l,r⟩
section
variable{X:Cx}{elts:List aO}{k1:Nat}{tpos:Pos}{M:Nat->Bool}
theorem mS{a b:Nat}(h:a≠b):@Ne ag a b:=h
theorem Pc{n:Nat}:∀{b:Nat},b∈([n+4,n+2,n+3,n,n+1]:List Nat)->n<=b:=λ{b} h=>by simp at h;omega
theorem N8(n:Nat)(k k':Bool)(l l':ag):E5 (n+4) (n+2) (n+3) [(k,n,l),(k',n+1,l')]:=
 ⟨mS (by omega),mS (by omega),mS (by omega),by show([n,n+1]:List Nat).Nodup;simp,λq hq=>by
  rcases bn.mp hq with rfl|hq
  ·exact⟨mS (show n≠n+4 by omega),mS (show n≠n+2 by omega),mS (show n≠n+3 by omega)⟩
  ·obtain rfl:=dI.mp hq;exact⟨mS (show n+1≠n+4 by omega),mS (show n+1≠n+2 by omega),mS (show n+1≠n+3 by omega)⟩⟩
def Ij(ta tb:TE):TI:=λσ H R=>ta σ H λx H1=>tb σ H1 λy H2=>∃S xss,[x,y]=S.map (λs:Bool×ag=>V.ref s.2)/\S.length=2/\jL H2 S xss/\R (uv S) H2
theorem RS{a b:aO}{ta tb:TE}{p pos:Pos}(hg:Gl X "zip")(hm:X.mg "zip" = ae)(ha:PE X a ta)(hb:PE X b tb)(hs:starEach [a,b] X.env=[(false,eval a X.env),(false,eval b X.env)]:=by rfl)(hs0:starEach [a,b] X.env=(false,eval a X.env)::starEach [b] X.env:=by rfl)(hs1:starEach [b] X.env=(false,eval b X.env)::starEach [] X.env:=by rfl)(hpl:(backTo pos (starEach [b] X.env)).any (·.1)=false:=by rfl) :
 PI X (.Tuple elts k1 tpos) (.Call (.Name "zip" p) [a,b] [] pos) (Ij ta tb):=by
 intro af s σ H R I h;refine Call_ (qD I hg hm boot_zip (B7 (aM (aq ha (aq hb aN hs1) hs0 pos af s σ H (λvs H1=>∃S xss,vs=S.map (λs:Bool×ag=>V.ref s.2)/\S.length=2/\jL H1 S xss/\R (uv S) H1) I ?_) λus s1 ⟨vs,H1,I1,r1,q1⟩=>?_) hs0 hpl))
 ·exact h
 ·obtain⟨S,xss,e,hl,hS,q⟩:=q1;obtain⟨⟨k,l⟩,⟨k',l'⟩,rfl⟩ : ∃x y,S=[x,y]:=by
   match S,hl with
   |[x,y],_=>exact⟨x,y,rfl⟩
  subst e;have hS0:=hS;cases hS with
  |cons s1' t=>
  cases t with
  |cons s2' t=>
  cases t;cases r1 with
  |cons u1 r1=>
  cases r1 with
  |cons u2 r1=>
  cases r1;cases u1;cases u2;obtain⟨i1,_,a1⟩:=s1'.at I1;obtain⟨i2,_,a2⟩:=s2'.at I1;refine call2 a1 a2 λh' hZ hk=>wpAny_pyIter_zip hZ.zz ?_;have I2:Inv X af σ H1 { s1 with heap:=h' }:=I1.kept (t':=s1.toks) λb o e=>hk b o e;refine⟨_,_,_,_,H1,rfl,I2,Rc (z:=s1.heap.objs.size+4) (TI:=s1.heap.objs.size+2) (TO:=s1.heap.objs.size+3) (N8 _ k k' l l') (by simp) (by simp),hZ,λb hb=>?_,q⟩;have hb:s1.heap.objs.size<=b:=Pc hb;exact I1.jd hb (I1.hok.fresh hb)
theorem NB{ta tb:TE}{a b:Mi.E}(ha:AE M qV ta a)(hb:AE M qV tb b):iB M (Ij ta tb) (Mi.Am a b):=λe σ H Hv R I h=>
 ha e σ H Hv _ I ((aw.mp h).mono λx hx v H1 Hv1 g1 rx=>hb e σ H1 Hv1 _ (I.grow g1) ((aw.mp hx).mono λy hy u H2 Hv2 g2 ry=>by
  obtain⟨ds,hd,hk⟩:=Iu (aw.mp hy);obtain⟨es,he,hk⟩:=Iu (aw.mp hk);obtain⟨k,a,xs,rfl,s1,r1⟩:=Jc hd (jJ g2.vis (show Rep Hv1 x v from rx));obtain⟨k',a',ys,rfl,s2,r2⟩:=Jc he (show Rep Hv2 y u from ry);have S2:jL Hv2 [(k,a),(k',a')] [xs,ys]:=.cons s1 (.cons s2 .nil);exact⟨[(k,a),(k',a')],[xs,ys],rfl,rfl,t7 g2.vw.sub S2,hk (uv [(k,a),(k',a')]) H2 Hv2 (ZP [(k,a),(k',a')] [ds,es] [xs,ys]) (g1.trans g2) (LS (HV ds es)) ⟨S2,.cons r1 (.cons r2 .nil)⟩ λ_ _ _ _ z s _=>⟨t7 s z.1,z.2.imp λ_ _ q=>eP s q⟩⟩))
end
section
variable{X:Cx}{af:List (ag×Obj)}{σ:L2.St}{H:Hp}{s:ak}{B:a7}{E:ah->ak->Prop}{Q:ah->ak->Prop}{b:Bool}
theorem kit_at{x:V}{u t:ah}(I:Inv X af σ H s)(rx:RelV x u)(ty:gP X.K H x t):∃P:ay->Prop,PySem.W.KitX X.K u t P/\P s.heap/\u≠.builtin "__main__.__loader__#opaque":= by
 cases ty with
 |non=>cases(show u=dD from rx);exact⟨_,Jt,g0,λz=>nomatch z⟩
 |bl y=>cases(show u=jh y from rx);exact⟨_,Ju,g0,λz=>nomatch z⟩
 |int i=>obtain⟨t,q⟩:=(show∃t,u=yl i t from rx);cases q;exact⟨_,Jw,g0,λz=>nomatch z⟩
 |str y=>obtain⟨t,q⟩:=(show∃t,u=l0 y t from rx);cases q;exact⟨_,Jx,g0,λz=>nomatch z⟩
 |flt y=>obtain⟨t,q⟩:=(show∃t,u=yk y t from rx);cases q;exact⟨_,Jo,g0,λz=>nomatch z⟩
 | @lst a xs ea=>
  cases(show u=bB a from rx);obtain⟨_,_,n,_,h1⟩:=(show bI X.prog X.w H s.heap a (.lst xs)from I.hok a _ ea);exact⟨_,xP,⟨_,h1,rfl⟩,λz=>nomatch z⟩
 | @frz a ob xs ea=>
  cases(show u=bB a from rx);obtain⟨_,_,_,n,_,h1⟩:=(show bI X.prog X.w H s.heap a (.frz ob (.lst xs))from I.hok a _ ea);exact⟨_,xP,⟨_,h1,rfl⟩,λz=>nomatch z⟩
 | @tup a xs ea=>
  cases(show u=bB a from rx);obtain⟨_,_,_,o,h1,h2,_⟩:=(show bI X.prog X.w H s.heap a (.tup xs)from I.hok a _ ea);exact⟨_,Jp,⟨o,h1,h2⟩,λz=>nomatch z⟩
 | @dK a ao ea=>
  cases(show u=bB a from rx);obtain⟨_,_,vs,_,o,es,ep,h1,h2,_⟩:=(show bI X.prog X.w H s.heap a (.dK ao)from I.hok a _ ea);exact⟨_,xQ,⟨o,h1,h2.1⟩,λz=>nomatch z⟩
 | @dT a ao ea=>
  cases(show u=bB a from rx);obtain⟨_,_,xs,_,o,es,ep,h1,h2,_⟩:=(show bI X.prog X.w H s.heap a (.dT ao)from I.hok a _ ea);exact⟨_,xQ,⟨o,h1,h2.1⟩,λz=>nomatch z⟩
 | @ins a C dx fs ea cl ha hn htk hm=>
  cases(show u=bB a from rx);obtain⟨mA,O,_⟩:=EY I.hok ea;obtain⟨od,J,_⟩:=O.look;exact⟨_,Jy (cl.get _) cl.hd ha hn htk hm,J,λz=>nomatch z⟩
theorem Gy:∀{Ts:List String} {us:List ah},Vals (Ts.map V.ty) us->us=Ts.map .type
 |[],_,.nil=>rfl
 |T::r,_,.cons a t=>by
  have a:_=sK T:=a;rw[a,Gy t];rfl
def Dr(K:aB):List V->Hp->VK->Prop:=λxs H Q=>∃(x:V) (t:ah) (tp:ag) (Ts:List String) (b:Bool),xs=[x,.ref tp]/\H tp=aa (.tup (Ts.map V.ty))/\gP K H x t/\gX K t (Ts.map .type)=aa b/\Q (.bl b) H
theorem IA:fj X (.builtin "isinstance") (Dr X.K):=by intro af s σ H xs us Q I r h;obtain⟨x,t,tp,Ts,b,rfl,ht,ty,e,q⟩:=h;obtain⟨u,w',rfl,rx,rt⟩:=vals2 r;cases(show w'=bB tp from rt);obtain⟨_,am,rv,o,h1,h2,_,n,h3⟩:=(show bI X.prog X.w H s.heap tp (.tup (Ts.map V.ty))from I.hok tp _ ht);obtain rfl:=Gy rv;obtain⟨c,d,dt,sl⟩:=o;simp only at h2 h3;subst h2 h3;obtain⟨P,kx,p,hn⟩:=kit_at I rx ty;exact JA kx I.dg p h1 e hn λtk=>⟨.bl b,H,I.tok tk,rfl,q⟩
end
theorem HG{K:aB}{d:D}:∀{Ts:List String},(∀T∈Ts,kW K T)->gX K (.type (Mi.yU d)) (Ts.map .type)=aa (Ts.any λt=>Mi.qR t d)
 |[],_=>rfl
 |T::r,h=>by
  have h1:=h T (b8 ..) d;have h2:=HG (d:=d) λT' hT=>h T' (cy _ hT);rw[b9,gX,h1];cases e:Mi.qR T d
  ·simp only[k9,e,Bool.false_or];exact h2
  ·simp only[k9,e,Bool.true_or]
theorem Ht{K:aB}{S T:String}(h:kW K S)(g:kW K T):∀U∈[S,T],kW K U:=λU hU=>by
 rcases bn.mp hU with rfl|hU
 ·exact h
 ·obtain rfl:=dI.mp hU;exact g
def zt:List String->TA
 |[]=>fg
 |T::r=>dY (tC (.ty T)) (zt r)
theorem DD:∀(Ts:List String) (σ:L2.St) (H:Hp) (Q:List V->Hp->Prop),Q (Ts.map V.ty) H->zt Ts σ H Q
 |[],_,_,_,h=>h
 |T::r,σ,H,Q,h=>DD r σ H _ h
section
variable{M:Nat->Bool}{K:aB}{ta:TE}{a:Mi.E}
theorem E9{Ts:List String}(hT:∀T∈Ts,kW K T)(hl:Ts.length<=8)(ha:AE M qP ta a):AE M qV (lL (Dr K) (dY ta (dY (vU (zt Ts)) fg))) (Mi.m1 (Mi.dE Ts) a):=λe σ H Hv Q I h=>
 ha e σ H Hv _ I ((aw.mp h).mono λx hx v H1 Hv1 g1 rx=>DD Ts σ H1 _ ⟨by rw[be,cD];omega,λp hp=>by
  have g2:bt H1 Hv1 (upd H1 p (.tup (Ts.map V.ty))) (upd Hv1 p (.tup (Ts.map V.ty))):=.new g1.vw hp;have g:=g1.trans g2;exact⟨v,_,p,Ts,_,rfl,aY,EL g.vw (RB.grow g2 rx),HG hT,(Mi.lD hx) _ _ _ g eu⟩⟩)
end
end Zp
namespace Mi
abbrev SN:=List D->List D->Env->Rs Out
end Mi
namespace So
open PySem PySem.W PyProof.Rows
def iD{α:Type}(n:Nat)(lt:Nat->Nat->Bool):KasT α->(α->Prop)->Prop
 |.ret a,Q=>Q a
 |.ask i j k,Q=>i<n/\j<n/\iD n lt (k (lt i j)) Q
theorem rJ{α β:Type}{n:Nat}{lt:Nat->Nat->Bool}{f:α->KasT β}{Q:β->Prop}:∀{t:KasT α},iD n lt t (λa=>iD n lt (f a) Q)->iD n lt (t.bind f) Q
 |.ret _,h=>h
 |.ask _ _ k,h=>⟨h.1,h.2.1,rJ (t:=k _) h.2.2⟩
theorem lA{α:Type}{n:Nat}{lt:Nat->Nat->Bool}{Q Q':α->Prop}(m:∀a,Q a->Q' a):∀{t:KasT α},iD n lt t Q->iD n lt t Q'
 |.ret _,h=>m _ h
 |.ask _ _ k,h=>⟨h.1,h.2.1,lA m (t:=k _) h.2.2⟩
theorem FZ{α:Type}{n:Nat}{lt:Nat->Nat->Bool}{cmp:Nat->Nat->(Bool->ak->Prop)->ak->Prop}{s:ak}(hc:∀i j C,i<n->j<n->C (lt i j) s->cmp i j C s){Q:α->Prop}:∀{t:KasT α},iD n lt t Q->t.kasWp cmp (λa s'=>s'=s/\Q a) s
 |.ret _,h=>⟨rfl,h⟩
 |.ask i j k,h=>hc i j _ h.1 h.2.1 (FZ hc (t:=k _) h.2.2)
section
variable{n:Nat}{lt:Nat->Nat->Bool}
structure uU(n:Nat)(lt:Nat->Nat->Bool):Prop where
 tot:∀i j,i<n->j<n->i≠j->lt i j=true\/lt j i=true
 asy:∀i j,i<n->j<n->lt i j=true->lt j i=false
 tr:∀i j k,i<n->j<n->k<n->lt i j=true->lt j k=true->lt i k=true
abbrev at'(p:Array Nat)(i:Nat):Nat:=p.getD i 0
structure Pm(n:Nat)(p:Array Nat):Prop where
 pm:p.Perm (dZ (bx n))
theorem Pm.size{p:Array Nat}(h:Pm n p):p.size=n:=by have:=h.pm.size_eq;simpa using this
theorem uM{p:Array Nat}{i:Nat}(h:i<p.size):at' p i=p[i]:=by simp[at',Array.getD,h]
theorem Pm.bd{p:Array Nat}(h:Pm n p){i:Nat}(hi:i<n):at' p i<n:=by
 have hs:i<p.size:=by rw[h.size];exact hi
 rw[uM hs];have:p[i]∈(dZ (bx n)).toList:=(ve.mp h.pm).mem_iff.mp (by simp);simpa using this
theorem Pm.inj{p:Array Nat}(h:Pm n p){i j:Nat}(hi:i<n)(hj:j<n)(e:at' p i=at' p j):i=j:=by
 have si:i<p.size:=by rw[h.size];exact hi
 have sj:j<p.size:=by rw[h.size];exact hj
 rw[uM si,uM sj]at e;have nd:p.toList.Nodup:=(ve.mp h.pm).nodup_iff.mpr (by simpa using xZ);have e2:p.toList[i]'(by simpa using si)=p.toList[j]'(by simpa using sj):=by simpa using e
 exact(qk nd).mp e2
def Sd(lt:Nat->Nat->Bool)(p:Array Nat)(k:Nat):Prop:=∀i j,i<j->j<k->lt (at' p i) (at' p j)=true
def Dd(lt:Nat->Nat->Bool)(p:Array Nat)(k:Nat):Prop:=∀i j,i<j->j<k->lt (at' p j) (at' p i)=true
variable(O:uU n lt)
include O
theorem not_lt{p:Array Nat}(h:Pm n p){i j:Nat}(hi:i<n)(hj:j<n)(ne:i≠j)(e:lt (at' p i) (at' p j)=false):lt (at' p j) (at' p i)=true:=by
 rcases O.tot _ _ (h.bd hi) (h.bd hj) (λz=>ne (h.inj hi hj z))with z|z
 ·rw[e]at z;cases z
 ·exact z
theorem Sd.more{p:Array Nat}(h:Pm n p){k:Nat}(s:Sd lt p k)(hk:1<=k)(hkn:k<n)(e:lt (at' p (k-1)) (at' p k)=true):Sd lt p (k+1):=λi j hij hj=>by
 by_cases hjk:j<k
 ·exact s i j hij hjk
 ·obtain rfl:j=k:=by omega
  by_cases hi:i=j-1
  ·subst hi;exact e
  ·exact O.tr _ _ _ (h.bd (by omega)) (h.bd (by omega)) (h.bd hkn) (s i (j-1) (by omega) (by omega)) e
theorem Dd.more{p:Array Nat}(h:Pm n p){k:Nat}(s:Dd lt p k)(hk:1<=k)(hkn:k<n)(e:lt (at' p k) (at' p (k-1))=true):Dd lt p (k+1):=λi j hij hj=>by
 by_cases hjk:j<k
 ·exact s i j hij hjk
 ·obtain rfl:j=k:=by omega
  by_cases hi:i=j-1
  ·subst hi;exact e
  ·exact O.tr _ _ _ (h.bd hkn) (h.bd (by omega)) (h.bd (by omega)) e (s i (j-1) (by omega) (by omega))
theorem At{p:Array Nat}(h:Pm n p):∀(f k:Nat),1<=k->k+f<=n->Sd lt p k->iD n lt (kas_asc p f k) λm=>k<=m/\m<=k+f/\Sd lt p m/\(m=k+f\/lt (at' p m) (at' p (m-1))=true)
 |0,k,_,_,s=>⟨bu _,bu _,s,.inl rfl⟩
 |f+1,k,h1,h2,s=>by
  refine⟨h.bd (by omega),h.bd (by omega),?_⟩;cases e:lt (p.getD k 0) (p.getD (k-1) 0)with
  |true=>exact⟨bu _,by omega,s,.inr e⟩
  |false=>
   dsimp only;rw[aG dN];refine lA (λm hm=>?_) (At h f (k+1) (by omega) (by omega) (Sd.more O h s h1 (by omega) (not_lt O h (by omega) (by omega) (by omega) e)));refine⟨by omega,by omega,hm.2.2.1,?_⟩;rcases hm.2.2.2 with z|z
   ·exact .inl (by omega)
   ·exact .inr z
theorem Jh{p:Array Nat}(h:Pm n p):∀(f k:Nat),1<=k->k+f<=n->Dd lt p k->iD n lt (kas_desc f p k 0) λr=>r.1=p/\k<=r.2.1/\r.2.1<=k+f/\r.2.2=0/\Dd lt p r.2.1
 |0,k,_,_,s=>⟨rfl,bu _,bu _,rfl,s⟩
 |f+1,k,h1,h2,s=>by
  refine⟨h.bd (by omega),h.bd (by omega),?_⟩;cases e:lt (p.getD k 0) (p.getD (k-1) 0)with
  |true=>
   dsimp only;rw[aF rfl,aG (by omega)];refine lA (λr hr=>⟨hr.1,by omega,by omega,hr.2.2.2⟩) (Jh h f (k+1) (by omega) (by omega) (Dd.more O h s h1 (by omega) e))
  |false=>
   dsimp only;rw[aG dN];refine⟨h.bd (by omega),h.bd (by omega),?_⟩;dsimp only;rw[show lt (p.getD (k-1) 0) (p.getD k 0)=true from not_lt O h (by omega) (by omega) (by omega) e,aF rfl];exact⟨rfl,bu _,by show k<=_;omega,rfl,s⟩
theorem Hi{p:Array Nat}{k:Nat}(hk:k<=p.size)(i:Nat):at' (kas_rev p 0 k) i=if i<k then at' p (k-1-i)else at' p i:=by
 have e:=getElem?_mirror_all (xs:=p) (i:=0) (j:=k) hk i;show(kas_rev p 0 k).getD i 0=_;have g:∀(q:Array Nat) (j:Nat),q.getD j 0=(q[j]?).getD 0:=λq j=>by simp
 rw[g];unfold kas_rev;rw[e];by_cases hi:i<k
 ·rw[aF ⟨ft _,hi⟩,aF hi,<- g,show 0+k-1-i=k-1-i by omega]
 ·rw[aG (by omega),aG hi,<- g]
theorem F4{p:Array Nat}(h:Pm n p)(k:Nat):Pm n (kas_rev p 0 k):=⟨(mirror_perm _ _ _ _).trans h.pm⟩
theorem O1{p:Array Nat}(h:Pm n p){k:Nat}(h1:1<=k)(h2:k<=n)(s:Dd lt p k):iD n lt (kas_tail3 k n p) λr=>Pm n r.2/\1<=r.1/\r.1<=n/\Sd lt r.2 r.1:=by
 have sz:k<=p.size:=by rw[h.size];exact h2
 have s':Sd lt (kas_rev p 0 k) k:=λi j hij hj=>by
  rw[Hi O sz,Hi O sz,aF (by omega),aF hj];exact s _ _ (by omega) (by omega)
 refine rJ (lA (λm hm=>?_) (At O (F4 O h k) (n-k) k h1 (by omega) s'));exact⟨F4 O h k,by omega,by omega,hm.2.2.1⟩
theorem Oe{p:Array Nat}(h:Pm n p){k:Nat}(h2:k+1<=n)(s:Dd lt p (k+1)):iD n lt (kas_descPart k n p) λr=>Pm n r.2/\1<=r.1/\r.1<=n/\Sd lt r.2 r.1:=by refine rJ (lA (λr hr=>?_) (Jh O h (n-(k+1)) (k+1) (by omega) (by omega) s));obtain⟨e1,l1,l2,e2,d⟩:=hr;rw[e2,aG (by omega),e1];exact O1 O h (by omega) (by omega) d
theorem MO{p:Array Nat}(h:Pm n p)(h1:1<=n):iD n lt (kas_count n p) λr=>Pm n r.2/\1<=r.1/\r.1<=n/\Sd lt r.2 r.1:=by
 refine rJ (lA (λm hm=>?_) (At O h (n-1) 1 (bu _) (by omega) (λi j hij hj=>by omega)));obtain⟨m1,m2,s,e⟩:=hm;by_cases hn:m=n
 ·rw[aF (by simpa using hn)];exact⟨h,m1,by omega,s⟩
 ·rw[aG (by simpa using hn)];have e:=e.resolve_left (by omega);by_cases hg:m>1
  ·rw[aF hg];refine⟨h.bd (by omega),h.bd (by omega),?_⟩;dsimp only;rw[show lt (p.getD 0 0) (p.getD (m-1) 0)=true from s 0 (m-1) (by omega) (by omega),aF rfl];exact⟨h,m1,by omega,s⟩
  ·rw[aG hg];obtain rfl:m=1:=by omega
   refine Oe O h (by omega) λi j hij hj=>?_;obtain rfl:i=0:=by omega
   obtain rfl:j=1:=by omega
   exact e
theorem zE{p:Array Nat}(h:Pm n p){k:Nat}(hk:k<n)(s:Sd lt p k):∀(f l r:Nat),l<=r->r<=k->r-l<=f->(∀i,i<l->lt (at' p i) (at' p k)=true)->(∀i,r<=i->i<k->lt (at' p k) (at' p i)=true) ->
 iD n lt (kas_place p k f l r) λm=>m<=k/\(∀i,i<m->lt (at' p i) (at' p k)=true)/\(∀i,m<=i->i<k->lt (at' p k) (at' p i)=true)
 |0,l,r,h1,h2,h3,a,b=>by
  obtain rfl:l=r:=by omega
  exact⟨h2,a,b⟩
 |f+1,l,r,h1,h2,h3,a,b=>by
  unfold kas_place;by_cases g:l >= r
  ·rw[aF g];obtain rfl:l=r:=by omega
   exact⟨h2,a,b⟩
  ·rw[aG g];refine⟨h.bd hk,h.bd (by omega),?_⟩;cases e:lt (p.getD k 0) (p.getD ((l+r)/2) 0)with
   |true=>
    dsimp only;rw[aF rfl];refine zE h hk s f l ((l+r)/2) (by omega) (by omega) (by omega) a λi hi hk'=>?_;by_cases z:i=(l+r)/2
    ·subst z;exact e
    ·exact O.tr _ _ _ (h.bd hk) (h.bd (by omega)) (h.bd (by omega)) e (s _ _ (by omega) hk')
   |false=>
    dsimp only;rw[aG dN];have e':=not_lt O h hk (by omega) (by omega) e;refine zE h hk s f ((l+r)/2+1) r (by omega) h2 (by omega) (λi hi=>?_) b;by_cases z:i=(l+r)/2
    ·subst z;exact e'
    ·exact O.tr _ _ _ (h.bd (by omega)) (h.bd (by omega)) (h.bd hk) (s _ _ (by omega) (by omega)) e'
theorem Eu{p:Array Nat}{k d:Nat}(hk:k<p.size)(hd:d<=k)(i:Nat):at' (bubble p k d) i=if i=k-d then at' p k else if k-d<i/\i<=k then at' p (i-1)else at' p i:=by
 have e:=getElem?_bubble hk d hd i;have g:∀(q:Array Nat) (j:Nat),q.getD j 0=(q[j]?).getD 0:=λq j=>by simp
 show(bubble p k d).getD i 0=_;rw[g,e];by_cases h1:i=k-d
 ·rw[aF h1,aF h1,<- g]
 ·rw[aG h1,aG h1];by_cases h2:k-d<i/\i<=k
  ·rw[aF h2,aF h2,<- g]
  ·rw[aG h2,aG h2,<- g]
theorem D9:∀(f:Nat) (p:Array Nat) (k:Nat),Pm n p->k+f<=n->Sd lt p k->iD n lt (kas_bin f p k) λq=>Pm n q/\Sd lt q (k+f)
 |0,p,k,h,_,s=>⟨h,s⟩
 |f+1,p,k,h,hk,s=>by
  have sz:k<p.size:=by rw[h.size];omega
  refine rJ (lA (λl hl=>?_) (zE O h (by omega) s k 0 k (by omega) (bu _) (by omega) (λi hi=>by omega) (λi h1 h2=>by omega)));obtain⟨l1,lo,hi⟩:=hl;have s':Sd lt (bubble p k (k-l)) (k+1):=λi j hij hj=>by
   rw[Eu O sz (d:=k-l) (by omega),Eu O sz (d:=k-l) (by omega),show k-(k-l)=l by omega];by_cases c1:i=l
   ·rw[aF c1,aG (by omega),aF (by omega)];exact hi _ (by omega) (by omega)
   ·rw[aG c1];by_cases c2:l<i/\i<=k
    ·rw[aF c2,aG (by omega),aF (by omega)];exact s _ _ (by omega) (by omega)
    ·rw[aG c2];by_cases c3:j=l
     ·rw[aF c3];exact lo _ (by omega)
     ·rw[aG c3];by_cases c4:l<j/\j<=k
      ·rw[aF c4];exact s _ _ (by omega) (by omega)
      ·rw[aG c4];exact s _ _ (by omega) (by omega)
  refine lA (λq hq=>⟨hq.1,?_⟩) (D9 f (bubble p k (k-l)) (k+1) ⟨(bubble_perm _ _ _).trans h.pm⟩ (by omega) s');rw[show k+(f+1)=k+1+f by omega];exact hq.2
theorem Nb(h1:1<=n):iD n lt (kas_sort n) λq=>Pm n q/\Sd lt q n:=by
 refine rJ (lA (λr hr=>?_) (MO O ⟨KI _⟩ h1));obtain⟨pm,r1,r2,s⟩:=hr;by_cases hl:r.1<n
 ·rw[aF hl];refine lA (λq hq=>⟨hq.1,?_⟩) (D9 O (n-max r.1 1) r.2 (max r.1 1) pm (by omega) (by rw[show max r.1 1=r.1 by omega];exact s));rw[show n=max r.1 1+(n-max r.1 1)by omega];exact hq.2
 ·rw[aG hl];exact⟨pm,by rw[show n=r.1 by omega];exact s⟩
end
end So
namespace So
open PySem PySem.W PyProof.Rows PySem.MeetsSeq3
def cX:List Int->List Int->Bool
 |[],[]=>false
 |[],_::_=>true
 |_::_,[]=>false
 |a::r,b::t=>if a==b then cX r t else decide (a<b)
section
variable{prog:aW}{w:aQ}{Ar:a7}
theorem GF{vs:List ah}{ns:List Int}(h:kn vs ns):∀{i:Nat} {n:Int},ns[i]? = aa n->∃t,vs[i]? = aa (.int n t):=by
 induction h with
 |nil=>intro i n e;simp at e
 |cons a t h ih=>
  intro i n e;cases i with
  |zero=>simp at e;subst e;exact⟨t,rfl⟩
  |succ i=>exact ih (by simpa using e)
theorem Mk{R:ot->ak->Prop}{s:ak}{l b:ag}{us vs:List ah}{xs ys:List Int}{o o2:Obj}{n n2:Nat}(ho:s.heap.get? l=aa o)(hd:o.data=.seq us.toArray n)(ho2:s.heap.get? b=aa o2)(hd2:o2.data=.seq vs.toArray n2)(hu:kn us xs)(hv:kn vs ys) :
 ∀(k i:Nat),xs.length-i<=k->i<=xs.length->i<=ys.length->R (.ok (.ret (.bool (cX (xs.drop i) (ys.drop i))))) s->codeAny (model prog w) Ar (.builtin "list.__eq__.loop" ⟨[.ref l,.ref b,rawInt i,rawInt 0],[]⟩) R s:=by
 have l1:=hu.length;have l2:=hv.length;have gx:∀i,i<xs.length->∃t,us.toArray[i]? = aa (.int (xs.getD i 0) t):=λi hi=>by
  obtain⟨t,e⟩:=GF hu (i:=i) (n:=xs.getD i 0) (by simp[hi]);exact⟨t,by simpa using e⟩
 have gy:∀i,i<ys.length->∃t,vs.toArray[i]? = aa (.int (ys.getD i 0) t):=λi hi=>by
  obtain⟨t,e⟩:=GF hv (i:=i) (n:=ys.getD i 0) (by simp[hi]);exact⟨t,by simpa using e⟩
 have nx:∀i,¬ i<xs.length->us.toArray[i]? = ae:=λi hi=>by simp;omega
 have ny:∀i,¬ i<ys.length->vs.toArray[i]? = ae:=λi hi=>by simp;omega
 have KQ:∀i,i=xs.length->i<=ys.length->decide (us.toArray.size<vs.toArray.size)=cX (xs.drop i) (ys.drop i):=λi hi hj=>by
  rw[u0 (by omega:xs.length<=i),cz,cz,l1,l2];by_cases h:i<ys.length
  ·rw[ni h];simp[cX];omega
  ·rw[u0 (by omega:ys.length<=i)];simp[cX];omega
 have S6:∀i,i<xs.length->i=ys.length->decide (us.toArray.size<vs.toArray.size)=cX (xs.drop i) (ys.drop i):=λi hi hj=>by
  rw[u0 (by omega:ys.length<=i),ni hi,cz,cz,l1,l2];simp[cX];omega
 have fin:∀(i:Nat),(us.toArray[i]? = ae\/vs.toArray[i]? = ae)->R (.ok (.ret (.bool (decide (us.toArray.size<vs.toArray.size))))) s->codeAny (model prog w) Ar (.builtin "list.__eq__.loop" ⟨[.ref l,.ref b,rawInt i,rawInt 0],[]⟩) R s:=λi hn h=>by
  refine Bs entry_eq_loop (by
   rw[Ks yB _];unfold jA.«list.__eq__.loop»;show wpAny _ _ (yw (.ref l) >>= _) _ _ _;refine ar (km ho hd (ar (km ho2 hd2 ?_)));simp only[ir];rcases hn with e|e
   ·rw[e];dsimp only;refine ar (km ho hd (ar (km ho2 hd2 ?_)));exact bh h
   ·rw[e];cases us.toArray[i]? <;>
    ·dsimp only;refine ar (km ho hd (ar (km ho2 hd2 ?_)));exact bh h)
 intro k
 induction k with
 |zero=>
  intro i hk h1 h2 h;refine fin i (.inl (nx i (by omega))) ?_;rw[KQ i (by omega) h2];exact h
 |succ k ih=>
  intro i hk h1 h2 h;by_cases hi:i<xs.length
  ·by_cases hj:i<ys.length
   ·obtain⟨t,e1⟩:=gx i hi;obtain⟨u,e2⟩:=gy i hj;have dx:xs.drop i=xs.getD i 0::xs.drop (i+1):=by rw[ni hi];simp[hi]
    have dy:ys.drop i=ys.getD i 0::ys.drop (i+1):=by rw[ni hj];simp[hj]
    rw[dx,dy]at h;refine Bs entry_eq_loop (by
     rw[Ks yB _];unfold jA.«list.__eq__.loop»;show wpAny _ _ (yw (.ref l) >>= _) _ _ _;refine ar (km ho hd (ar (km ho2 hd2 ?_)));simp only[ir];rw[e1,e2];dsimp only;refine ar (wpAny_eqBool_int ?_);cases hb:(xs.getD i 0==ys.getD i 0)with
     |true=>
      rw[aF rfl];rw[cX,hb,aF rfl]at h;refine bh ⟨xI yB _,?_⟩;have:=ih (i+1) (by omega) hi hj h;rw[show rawInt ((i+1:Nat):Int)=rawInt ((i:Int)+1)from by rw[show((i+1:Nat):Int)=(i:Int)+1 by omega]]at this;exact this
     |false=>
      rw[aG dN];rw[cX,hb,aG dN]at h;refine ar (km ho hd (ar (km ho2 hd2 ?_)));rw[e1,e2];show wpAny _ _ (richCompare .Lt _ _ >>= _) _ _ _;exact ar (show wpAny _ _ (compareOp .Lt _ _) _ _ _ from wpAny_lt_int (bh h)))
   ·refine fin i (.inr (ny i hj)) ?_;rw[S6 i hi (by omega)];exact h
  ·refine fin i (.inl (nx i hi)) ?_;rw[KQ i (by omega) h2];exact h
theorem Rw{E:ah->ak->Prop}{s:ak}{l b:ag}{us vs:List ah}{xs ys:List Int}{o o2:Obj}{n n2:Nat}{Q:Bool->ak->Prop}(ho:s.heap.get? l=aa o)(hc:o.cls=.type "list")(hd:o.data=.seq us.toArray n)(ho2:s.heap.get? b=aa o2)(hc2:o2.cls=.type "list")(hd2:o2.data=.seq vs.toArray n2)(hu:kn us xs)(hv:kn vs ys)
 (hun:Ar.units<cLine) (h:Q (cX xs ys) s):wpAny (model prog w) Ar (keyLt' oneType' (.ref l) (.ref b)) Q E s:=by
 have t1:s.TypeIs (.ref l) "list" := ⟨_,ho,hc⟩;have t2:s.TypeIs (.ref b) "list" := ⟨_,ho2,hc2⟩;rw[keyLt'_oneType,oneLt'_eq];simp only[gi];refine ar (wpAny_cRoomFor hun ?_);refine ar (wpAny_callSpecialIfBound?_slot t1 Ca (na (r0 Ca.plain PySem.F.entry_list_lt (Ca.check _ _ _ _ _ _ _ _ t1 (PySem.F.args_list_lt_2 _ _) ?_))));unfold jA.«list.__lt__»;have sub:isSubtype (.type "list") (.type "list")=pure true:=by rw[isSubtype_type];kernel_rfl
 show wpAny _ _ (isInstance (.ref b) (.type "list") >>= _) _ _ _;refine ar (Br t2 sub ?_);refine bh ⟨xI yB _,?_⟩;refine Mk ho hd ho2 hd2 hu hv xs.length 0 (by omega) (ft _) (ft _) ?_;exact lP h
end
end So
namespace So
open PySem PySem.W PyProof.Rows
section
variable{prog:aW}{w:aQ}{A:a7}{E:ah->ak->Prop}{s:ak}
def tm(n:Nat):List ag:=[n,n+1,n+2,n+3]
def pN(lt:Nat->Nat->Bool)(vs out:List ah):Prop:=∃p:Array Nat,Pm vs.length p/\Sd lt p vs.length/\out=p.toList.map λi=>vs.getD i dD
theorem pN.len{lt:Nat->Nat->Bool}{vs out:List ah}(h:pN lt vs out):out.length=vs.length:=by obtain⟨p,pm,_,rfl⟩:=h;rw[be,qu,pm.size]
theorem FI{a kS:ag}{e e1:Nat}{ks out:List ah}{st:SortSt}{P:qd->ak->Prop}(hk:s.heap.get? kS=aa (seqObj "list" (dZ ks) e))(ha:s.heap.get? a=aa (seqObj "list" #[] e1))(ne:a≠kS)
 (hks:ks.length<64) (ho:out.length<64) (hout:(arrOf st).map (·.2)=dZ out) (hf:failedOf st=ae)
 (h:∀h' c,(∀b o,b≠a->b≠kS->s.heap.get? b=aa o->h'.get? b=aa o)->(∃o,h'.get? kS=aa o)->h'.get? a=aa (seqObj "list" (dZ out) c)->P (.done (.ret .none)) { s with heap:=h' }) :
 wpAny (model prog w) A (ksk_tail a false e1 (.ref kS) st) P E s:=by
 have s1:=qv s.heap kS (eg λ_=>(#[]:Array ah));have ha1:=(s1.2 a ne).trans ha;have s2:=qv (s.heap.update kS (eg λ_=>(#[]:Array ah))) a (eg λ_=>dZ out);obtain⟨c,hc⟩ : ∃c,((s.heap.update kS (eg λ_=>(#[]:Array ah))).update a (eg λ_=>dZ out)).get? a=aa (seqObj "list" (dZ out) c):=⟨_,vc ha1 λ_=>dZ out⟩;unfold ksk_tail;dsimp only;rw[hout];refine ar (ym hk rfl ?_ (by rw[cz,cD];omega) (ft _));refine ar (wpAny_letGo (ar (seqEpoch_at ha1 rfl ?_)));refine ar (ym ha1 rfl ?_ (ft _) (by show(dZ out).size<=_;rw[cz,cD];omega));rw[hf];simp only[bne_self_eq_false,lX,fX];exact bh (h _ c (λb o n1 n2 q=>(s2.2 b n1).trans ((s1.2 b n2).trans q)) ⟨_,(s2.2 kS (bU ne)).trans (vc hk λ_=>#[])⟩ hc)
theorem R9{a kS f:ag}{e1:Nat}{P:qd->ak->Prop}(J:List ah->ak->Prop){vs:List ah}(h64:vs.length<64)
 (jk:∀ks s1 h',J ks s1->(∀b o,b≠kS->s1.heap.get? b=aa o->h'.get? b=aa o)->(∃o,h'.get? kS=aa o)->J ks { s1 with heap:=h' })
 (jc:∀i x ks s1,vs[i]? = aa x->ks.length=i->J ks s1->wpAny (model prog w) A (call (.ref f) [x]) (λk s2=>J (ks++[k]) s2/\∀b o,(b=a\/b=kS)->s1.heap.get? b=aa o->s2.heap.get? b=aa o) (λ_ _=>False) s1)
 (ne:a≠kS) (hk:s.heap.get? kS=aa (seqObj "list" #[] 0)) (ha:s.heap.get? a=aa (seqObj "list" #[] e1)) (j0:J [] s)
 (fin:∀ks e s1,ks.length=vs.length->J ks s1->s1.heap.get? kS=aa (seqObj "list" (dZ ks) e)->s1.heap.get? a=aa (seqObj "list" #[] e1)->wpAny (model prog w) A (ksk_end a false vs.toArray e1 (.ref kS) (dZ ks)) P E s1) :
 wpAny (model prog w) A (ksk_rest a (.ref f) false vs.toArray e1 (.ref kS)) P E s:=by
 unfold ksk_rest;refine ar (xM ?_);rw[List.forIn_toArray];refine ar (ksk_fold (I:=λi s1=>∃ks e,ks.length=i/\J ks s1/\s1.heap.get? kS=aa (seqObj "list" (dZ ks) e)/\s1.heap.get? a=aa (seqObj "list" #[] e1)) vs 0 s ⟨[],0,rfl,j0,hk,ha⟩ (λj x s1 hx hI=>?_) λs1 hI=>?_)
 ·obtain⟨ks,e,hl,hJ,hk1,ha1⟩:=hI;rw[iO]at hl ⊢;have hlt:j<vs.length:=(dm.mp hx).1;refine ar (xH (e5 (jc j x ks s1 hx hl hJ) (λk s2 h2=>?_) λ_ _ z=>z.elim));obtain⟨hJ2,kp⟩:=h2;have hk2:=kp kS _ (.inr rfl) hk1;have ha2:=kp a _ (.inl rfl) ha1;have su:=qv s2.heap kS (eg (·.push k));have ea:(dZ ks).push k=dZ (ks++[k]):=by simp
  obtain⟨c2,hc2⟩ : ∃c2,(s2.heap.update kS (eg (·.push k))).get? kS=aa (seqObj "list" (dZ (ks++[k])) c2):=⟨_,by rw[<- ea];exact vc hk2 (·.push k)⟩;dsimp only;refine ar (ym hk2 rfl ?_ (by rw[cz,cD];omega) (d9 (yi (Array.size_push ..)) (by rw[cz,cD];omega)));exact bh ⟨rfl,ks++[k],c2,by rw[d6,hl];rfl,jk _ _ _ hJ2 (λb o n q=>(su.2 b n).trans q) ⟨_,hc2⟩,hc2,(su.2 a ne).trans ha2⟩
 ·obtain⟨ks,e,hl,hJ,hk1,ha1⟩:=hI;refine ar (km hk1 rfl ?_);exact fin ks e s1 (by simpa using hl) hJ hk1 ha1
theorem Ps{a kS:ag}{e e1:Nat}{ks vs:List ah}{lt:Nat->Nat->Bool}{P:qd->ak->Prop}(hl:ks.length=vs.length)(h64:vs.length<64)(O:uU vs.length lt)
 (hkk:2<=vs.length->∀(Q:SortKind->ak->Prop),Q oneType' s->wpAny (model prog w) A (keyKind' (dZ ks)) Q (λ_ _=>False) s)
 (hcmp:∀i j C,i<vs.length->j<vs.length->C (lt i j) s->kas_ask prog w A oneType' ks i j C s)
 (hk:s.heap.get? kS=aa (seqObj "list" (dZ ks) e)) (ha:s.heap.get? a=aa (seqObj "list" #[] e1)) (ne:a≠kS)
 (h:∀out h' c,pN lt vs out->(∀b o,b≠a->b≠kS->s.heap.get? b=aa o->h'.get? b=aa o)->(∃o,h'.get? kS=aa o)->h'.get? a=aa (seqObj "list" (dZ out) c)->P (.done (.ret .none)) { s with heap:=h' }) :
 wpAny (model prog w) A (ksk_end a false vs.toArray e1 (.ref kS) (dZ ks)) P E s:=by
 have S7:∀{n:Nat},Pm n (dZ (bx n)):=⟨KI _⟩;unfold ksk_end;dsimp only;rw[aG dN,aG dN];by_cases h2:vs.toArray.size<2
 ·rw[aF h2,aF h2];rw[cz]at h2;refine ar (bh ?_);rw[StateT.run_pure];refine ar (bh ?_);dsimp only;have hout:pN lt vs vs:=⟨dZ (bx vs.length),S7,λi j hij hj=>by omega,by
   apply List.ext_getElem (by simp);intro i h1 h2;simp[h1]⟩
  refine FI (out:=vs) hk ha ne (by omega) h64 ?_ rfl λh' c kp ex hc=>h vs h' c hout kp ex hc;show((dZ ks).zip vs.toArray).map (·.2)=vs.toArray;apply vf.mp;rw[Array.toList_map,Array.toList_zip];simp only[];rw[List.map_snd_zip (by omega)]
 ·rw[aG h2,aG h2];rw[cz]at h2;refine ar (e5 (hkk (by omega) (λκ s'=>κ = oneType'/\s'=s) ⟨rfl,rfl⟩) (λκ s' hh=>?_) λ_ _ z=>z.elim);obtain⟨rfl,rfl⟩:=hh;have wp:=FZ (cmp:=kas_ask prog w A oneType' ks) (s:=s') hcmp (Nb O (by omega));refine ar (e5 (kat_run (E:=E) (Q:=λst' s2=>s2=s'/\∃p:Array Nat,Pm vs.length p/\Sd lt p vs.length/\arrOf st'=p.map (kas_item (ks.toArray.zip vs.toArray))/\failedOf st'=ae) hl (by omega) h64 (λp st' s2 _ a2 a3 a4=>⟨a4.1,p,a4.2.1,a4.2.2,a2,a3⟩) wp) ?_ λ_ _ z=>z);rintro⟨⟨⟩,st'⟩ s2 ⟨rfl,p,pm,sd,har,hf⟩;dsimp only;have hout:pN lt vs (p.toList.map λi=>vs.getD i dD):=⟨p,pm,sd,rfl⟩;exact FI hk ha ne (by omega) (by rw[hout.len];exact h64) (kat_snds hl har) hf λh' c kp ex hc=>h _ h' c hout kp ex hc
theorem L8{f l:ag}{vs:List ah}{Q:ah->ak->Prop}(J:List ah->ak->Prop)(hl:s.heap.IsList l vs.toArray)(h64:vs.length<64)
 (j0:∀h':ay,(∀b o,s.heap.get? b=aa o->h'.get? b=aa o)->(∀b∈tm s.heap.objs.size,∃o,h'.get? b=aa o)->J [] { s with heap:=h' })
 (jk:∀ks s1 h',J ks s1->(∀b o,b∉tm s.heap.objs.size->s1.heap.get? b=aa o->h'.get? b=aa o)->(∀b o,s1.heap.get? b=aa o->∃o',h'.get? b=aa o')->J ks { s1 with heap:=h' })
 (jc:∀i x ks s1,vs[i]? = aa x->ks.length=i->J ks s1->wpAny (model prog w) A.in1.in1 (call (.ref f) [x]) (λk s2=>J (ks++[k]) s2/\∀b o,b∈tm s.heap.objs.size->s1.heap.get? b=aa o->s2.heap.get? b=aa o) (λ_ _=>False) s1)
 (je:∀ks s1,ks.length=vs.length->J ks s1->∃lt,uU vs.length lt/\(2<=vs.length->∀(Q:SortKind->ak->Prop),Q oneType' s1->wpAny (model prog w) A.in1.in1 (keyKind' (dZ ks)) Q (λ_ _=>False) s1) /\
  (∀i j C,i<vs.length->j<vs.length->C (lt i j) s1->kas_ask prog w A.in1.in1 oneType' ks i j C s1) /\
  ∀out h' c,pN lt vs out->(∀b o,b∉tm s.heap.objs.size->s1.heap.get? b=aa o->h'.get? b=aa o)->(∀b o,s1.heap.get? b=aa o->∃o',h'.get? b=aa o')->h'.get? (s.heap.objs.size+1)=aa (seqObj "list" (dZ out) c)->Q (.ref (s.heap.objs.size+1)) { s1 with heap:=h' }) :
 wpAny (model prog w) A (call (.builtin "sorted") [.ref l] [(kA "key", .ref f)]) Q E s:=by
 refine call_function_entry_kw kind_sorted plain_sorted entry_sorted (ksk_s1 _ _) ?_;unfold jA.«sorted»;refine ar (m:=checkCount "sorted" 1 1 _) (bh ?_);refine ar (collect_list hl ?_ (by rw[cD];omega));refine ar (Bu ?_ (by rw[cD];omega));generalize hn:s.heap.objs.size=n at *;generalize hh1:((s.heap.push (seqObj "list" #[] 0)).update n (eg (· ++ vs.toArray)))=h1;have hsz:h1.objs.size=n+1:=by rw[<- hh1,Heap.size_update,size_push',hn]
 have k1:∀b o,s.heap.get? b=aa o->h1.get? b=aa o:=λb o q=>by
  have hlt:b<n:=by rw[<- hn];exact bE q
  rw[<- hh1,BD _ _ _ _ (eF hlt),Heap.get?_push_ne _ _ _ (by rw[hn];exact eF hlt)];exact q
 have hoL:(h1.push (seqObj "list" vs.toArray 0)).get? (n+1)=aa (seqObj "list" vs.toArray 0):=by rw[<- hsz];exact dj _ rfl
 show wpAny _ _ _ _ _ { s with heap:=h1.push (seqObj "list" vs.toArray 0) };rw[hsz];refine ar (iJ (wpAny_call_entry_kw slot_list_sort ⟨_,hoL,rfl⟩ entry_list_sort ?_ (ksk_l1 _ _)));show wpAny (model prog w) A.in1.in1 (jA.«list.sort» ⟨[.ref (n+1)],[(kA "key",.ref f)]⟩) _ _ _;rw[ksk_t1];generalize hh2:h1.push (seqObj "list" vs.toArray 0)=h2 at hoL ⊢;have k2:∀b o,s.heap.get? b=aa o->h2.get? b=aa o:=λb o q=>by rw[<- hh2];exact br _ (k1 b o q)
 have z2:h2.objs.size=n+2:=by rw[<- hh2,qg,hsz]
 obtain⟨e1,ho1⟩ : ∃e1,(h2.update (n+1) (eg λ_=>(#[]:Array ah))).get? (n+1)=aa (seqObj "list" #[] e1):=⟨_,vc hoL λ_=>#[]⟩;have su:=qv h2 (n+1) (eg λ_=>(#[]:Array ah));unfold ksk_tree;refine ar (km (s:={ s with heap:=h2 }) hoL rfl ?_);refine ar (ym (s:={ s with heap:=h2 }) hoL rfl ?_ (by rw[cz,cD];omega) (ft _));refine ar (seqEpoch_at (s:={ s with heap:=h2.update (n+1) (eg λ_=>(#[]:Array ah)) }) ho1 rfl ?_);refine ar (wpAny_newTuple ?_ (by show vs.length<=_;rw[cD];omega));refine ar (Bu ?_ (ft _));refine iJ ?_;generalize hh3:h2.update (n+1) (eg λ_=>(#[]:Array ah))=h3 at ho1 su ⊢;have z3:h3.objs.size=n+2:=by rw[<- hh3,Heap.size_update,z2]
 have z4:(h3.push (seqObj "tuple" vs.toArray 0)).objs.size=n+3:=by rw[qg,z3]
 show wpAny (model prog w) A.in1.in1 (ksk_rest (n+1) (.ref f) false vs.toArray e1 (.ref (h3.push (seqObj "tuple" vs.toArray 0)).objs.size)) _ _ { s with heap:=(h3.push (seqObj "tuple" vs.toArray 0)).push (seqObj "list" #[] 0) };rw[z4];have S8:∀b o,s.heap.get? b=aa o->((h3.push (seqObj "tuple" vs.toArray 0)).push (seqObj "list" #[] 0)).get? b=aa o:=λb o q=>by
  have hlt:b<n:=by rw[<- hn];exact bE q
  exact br _ (br _ ((su.2 b (eF (Nat.lt_succ_of_lt hlt))).trans (k2 b o q)))
 refine R9 (kS:=n+3) (a:=n+1) J h64 (λks s1 h' hJ kp ex=>jk ks s1 h' hJ (λb o hb q=>kp b o (λz=>hb (by simp[tm,z])) q) λb o q=>by
  by_cases z:b=n+3
  ·rw[z];exact ex
  ·exact⟨o,kp b o z q⟩)
  (λi x ks s1 hx hl' hJ=>e5 (jc i x ks s1 hx hl' hJ) (λk s2 h2=>⟨h2.1,λb o hb q=>h2.2 b o (by rcases hb with z|z<;>simp[tm,z]) q⟩) λ_ _ z=>z) (show(n+1:Nat)≠n+3 by omega)
  (by rw[<- z4];exact dj _ rfl) (br _ (br _ ho1)) (j0 _ S8 λb hb=>?ex) λks e s1 hlk hJ hk1 ha1=>?_
 case ex=>
  have e0:∃o,h3.get? n=aa o:=by
   have q0:(s.heap.push (seqObj "list" #[] 0)).get? n=aa (seqObj "list" #[] 0):=by rw[<- hn];exact dj _ rfl
   obtain⟨o1,q1⟩ : ∃o1,h1.get? n=aa o1:=by rw[<- hh1];exact⟨_,vc q0 (· ++ vs.toArray)⟩
   exact⟨_,(su.2 n (show(n:Nat)≠n+1 by omega)).trans (by rw[<- hh2];exact br _ q1)⟩
  simp only[tm,bn,ki,jI]at hb;rcases hb with rfl|rfl|rfl|rfl
  ·obtain⟨o,q⟩:=e0;exact⟨o,br _ (br _ q)⟩
  ·exact⟨_,br _ (br _ ho1)⟩
  ·exact⟨_,br _ (by rw[<- z3];exact dj _ rfl)⟩
  ·exact⟨_,by rw[<- z4];exact dj _ rfl⟩
 obtain⟨lt,O,hkk,hcmp,fin⟩:=je ks s1 hlk hJ;refine Ps hlk h64 O hkk hcmp hk1 ha1 (show(n+1:Nat)≠n+3 by omega) λout h' c so kp ex hc=>?_;exact⟨_,rfl,bh ⟨_,rfl,fin out h' c so (λb o hb q=>kp b o (λz=>hb (by simp[tm,z])) (λz=>hb (by simp[tm,z])) q) (λb o q=>by
  by_cases y1:b=n+1
  ·rw[y1];exact⟨_,hc⟩
  ·by_cases y2:b=n+3
   ·rw[y2];exact ex
   ·exact⟨o,kp b o y1 y2 q⟩) hc⟩⟩
end
end So
namespace L2
open PySem PySem.Spec PyProof.Rows
def zM(X:Cx)(A:a7)(N':List Str)(env:Env)(s:ak)(H:Hp):Cx:={ X with A:=A.deeper env,N:=N',s₀:=s,H₀:=H,env:=env,outer:=X.stack,stack:=env::X.stack,ex:=[],fn:=λ_=>false,calm:=true,pn:=[],xe:=λ_ _=>False }
abbrev wG(qual:Str)(scope:dM)(s:ak)(f c':ag)(cl:List (Str×ag)):Env:=PySem.W.envX qual scope s.heap.objs.size f (.ref c') cl
structure rS(X:Cx)(x:Str)(ρ:List Nat)(N':List Str)(sc:dM)(cl:List (Str×ag)):Prop where
 kind:sc.kind=.function
 co:sc.isCoroutine=false
 gen:sc.isGenerator=false
 vk:∀y∈sc.names,y.2≠.cell
 par:sc.names.lookup x=aa .local
 clo:∀y c,cl.lookup y=aa c->X.env.cells.lookup y=aa c
 has:∀y,sc.names.lookup y=aa .free->∃c,cl.lookup y=aa c
 N:∃ys,N'=x::ys/\ys.length = ρ.length/\∀(i j:Nat) y,ρ[i]? = aa j->ys[i]? = aa y->X.N[j]? = aa y/\sc.names.lookup y=aa .free/\(X.env.kindOf y=aa .cell\/X.env.kindOf y=aa .free)
section
variable{X:Cx}{af:List (ag×Obj)}{σ:St}{H:Hp}{s:ak}{A:a7}{k:Nat}{qual x:Str}{ps:sr}{body:aO}{sc:dM}{cl:List (Str×ag)}{pm ctv:ah}{f c':ag}{ρ:List Nat}{N':List Str}
def i5(ρ:List Nat)(σ:St)(v:V):St:=aa v :: ρ.map λj=>(σ[j]?).join
theorem N9{h1:ay}{tk:Nat}{v:V}{u:ah}(I:Inv X af σ H s)(hA:A.frames=aa X.stack)(hd:A.handled=ae)(S:rS X x ρ N' sc cl)(rv:RelV v u)
 (hns:h1.Ns s.heap.objs.size λy=>[(x,u)].reverse.lookup y) (hk:∀b o,s.heap.get? b=aa o->h1.get? b=aa o) :
 Inv (zM X A N' (wG qual sc s f c' cl) s H) [] (i5 ρ σ v) H { s with heap:=h1,toks:=tk }:=by
 obtain⟨ys,eN,el,ix⟩:=S.N;have noA:∀b:ag,b∉([]:List ag):=λb z=>absurd z (by simp);refine⟨⟨I.mod,S.kind,rfl,rfl,bu _,λy z c h1 h2=>I.ok.inj y z c (S.clo y c h1) (S.clo z c h2),λy hy=>?_,λy c z=>(nomatch z),λ_=>hd,Ci hA,.inr ⟨rfl,rfl⟩,λb z=>absurd z (noA b),I.bs,d9 I.ok.bsz I.sz,λb _ _=>noA b,λb z=>absurd z (noA b),I.stack,I.tY⟩,
  rfl,I.bare,Un.kept hk,⟨_,hns,λi y w h2 h3 h4=>?_⟩,λy c e=>?_,I.hok.fresh (bu _),λy c e=>I.gf y c (S.clo y c e),λp hp=>absurd (show p∈([]:List (ag×Obj))from hp) (by simp),I.hok.kept hk,?_⟩
 ·have hy:sc.names.lookup y=aa .cell\/sc.names.lookup y=aa .free:=hy;rcases hy with hy|hy
  ·exact absurd rfl (S.vk _ (rZ hy))
  ·exact S.has y hy
 ·have h2:N'[i]? = aa y:=h2;subst eN;cases i with
  |zero=>
   have e:x=y:=by simpa using h2
   subst e;have e2:v=w:=by simpa [i5]using h3
   subst e2;exact⟨u,rv,.inl ⟨S.par,by simp⟩⟩
  |succ i=>
   have hy:ys[i]? = aa y:=by simpa using h2
   have h3:(ρ.map λj=>(σ[j]?).join)[i]? = aa (aa w):=by simpa [i5]using h3
   rw[eE]at h3;obtain⟨j,hj,e⟩:=oA.mp h3;have e2:σ[j]? = aa (aa w):=by
    cases q:σ[j]? with
    |none=>rw[q]at e;cases e
    |some z=>rw[q]at e;exact congrArg aa e
   obtain⟨n1,n2,n3⟩:=ix i j y hj hy;obtain⟨m,hm,hl⟩:=I.loc;have vis:uD X.env.scope y:=by
    rcases n3 with z|z
    ·exact .inr (.inl z)
    ·exact .inr (.inr z)
   obtain⟨u2,r2,lk⟩:=hl j y w n1 e2 vis;refine⟨u2,r2,.inr ⟨.inr n2,?_⟩⟩;obtain⟨c,hc⟩:=S.has y n2;refine⟨c,hc,?_⟩;have hX:=S.clo y c hc;rcases lk with ⟨z,_⟩|⟨_,c2,e3,ic⟩
   ·rcases n3 with y1|y1
    ·rw[z]at y1;cases y1
    ·rw[z]at y1;cases y1
   ·rw[hX]at e3;cases e3;obtain⟨o,ho,hd⟩:=ic;exact⟨o,hk _ _ ho,hd⟩
 ·obtain⟨v2,o,ho,hd⟩:=I.cell y c (S.clo y c e);exact⟨v2,o,hk _ _ ho,hd⟩
 ·subst eN;show(i5 ρ σ v).length=(x::ys).length;simp[i5,el]
theorem QZ{u:ah}{v:V}{tb:TE}{Q:VK}(I:Inv X af σ H s)(hA:A.frames=aa X.stack)(hr:cA (k+1) A)(S:rS X x ρ N' sc cl)
 (ho:s.heap.get? f=aa (uY "<lambda>" qual ps body sc cl pm c' ctv)) (hcd:s.heap.CodeRec (.ref c') qual)
 (hbind:bindArgs (JF "<lambda>" qual ps body sc cl pm (.ref c') ctv) ⟨[u],[]⟩=pure [(x,u)]) (rv:RelV v u)
 (hb:∀env:Env,cA k (A.deeper env)->env=wG qual sc s f c' cl->PE (zM X A N' env s H) body tb) (h:tb (i5 ρ σ v) H Q) :
 wpAny (model X.prog X.w) A (call (.ref f) [u]) (CE X.stack X.prog X.w H s Q) (λ_ _=>False) s:=by
 refine na (PySem.W.kla_callFunE hr.depth ho rfl S.co S.gen rfl hcd ?_);rw[hbind];refine bh (wpAny_newFunctionEnv S.vk (λy hy=>by
  have e:y=(x,u):=by simpa using hy
  rw[e];exact S.par) (λh1 hns hsb=>⟨(I.nolimit).fresh _ hsb,?_⟩) S.kind)
 show codeAny _ _ (.expr body (wG qual sc s f c' cl)) _ _;have hk:∀b o,s.heap.get? b=aa o->h1.get? b=aa o:=λb o e=>hsb.extBut b o (eF (bE e)) (br _ e);have J:=N9 (tk:=s.toks+[(x,u)].length) (qual:=qual) (f:=f) (c':=c') I hA hr.hd S rv hns hk;refine PySem.W.kla_codeExpr (e5 (hb _ (hr.deeper _) rfl [] _ (i5 ρ σ v) H Q J h) (λk' s' hq=>?_) λ_ _ z=>z.elim);obtain⟨v2,H2,I2,r2,q⟩:=hq;exact⟨v2,H2,I2.os,I2.bare,I2.base,I2.hok,r2,q⟩
end
end L2
namespace So
theorem HZ:∀{a b:List Int},a≠b->cX a b=true\/cX b a=true
 |[],[],h=>absurd rfl h
 |[],_::_,_=>.inl rfl
 |_::_,[],_=>.inr rfl
 |a::r,b::t,h=>by
  rw[cX,cX];by_cases e:a=b
  ·subst e;simp only[iH,gi];exact HZ λz=>h (by rw[z])
  ·have e':¬ b=a:=λz=>e z.symm;simp only[f7,e,e',fX,jX];omega
theorem Fs:∀{a b:List Int},cX a b=true->cX b a=false
 |[],[],h=>by simp[cX]at h
 |[],_::_,_=>rfl
 |_::_,[],h=>by simp[cX]at h
 |a::r,b::t,h=>by
  rw[cX]at h ⊢;by_cases e:a=b
  ·subst e;simp only[iH,gi]at h ⊢;exact Fs h
  ·have e':¬ b=a:=λz=>e z.symm;simp only[f7,e,e',fX,jX,rA]at h ⊢;omega
theorem Gi:∀{a b c:List Int},cX a b=true->cX b c=true->cX a c=true
 |[],[],_,h,_=>by simp[cX]at h
 |[],_::_,[],_,h=>by simp[cX]at h
 |[],_::_,_::_,_,_=>rfl
 |_::_,[],_,h,_=>by simp[cX]at h
 |_::_,_::_,[],_,h=>by simp[cX]at h
 |a::r,b::t,c::u,h,k=>by
  rw[cX]at h k ⊢;by_cases e:a=b
  ·subst e;simp only[iH,gi]at h;by_cases f:a=c
   ·subst f;simp only[iH,gi]at k ⊢;exact Gi h k
   ·simp only[f7,f,fX]at k ⊢;exact k
  ·simp only[f7,e,fX,jX]at h;by_cases f:b=c
   ·subst f;simp only[f7,e,fX,jX];exact h
   ·simp only[f7,f,fX,jX]at k;have:¬ a=c:=by omega
    simp only[f7,this,fX,jX];omega
def mh(kz:List (List Int))(i j:Nat):Bool:=cX (kz.getD i []) (kz.getD j [])
theorem yK{kz:List (List Int)}(nd:kz.Nodup):uU kz.length (mh kz):=by
 have inj:∀i j,i<kz.length->j<kz.length->i≠j->kz.getD i []≠kz.getD j []:=λi j hi hj ne e=>by
  rw[fk,fm hi,fk,fm hj]at e;exact ne ((qk nd).mp e)
 exact⟨λi j hi hj ne=>HZ (inj i j hi hj ne),λi j _ _ h=>Fs h,λi j k _ _ _ h g=>Gi h g⟩
def Bh{α:Type}(d:α)(kz:List (List Int))(xs ys:List α):Prop:=∃p:Array Nat,Pm xs.length p/\Sd (mh kz) p xs.length/\ys=p.toList.map λi=>xs.getD i d
end So
namespace L2
open PySem PySem.Spec PyProof.Rows A So
variable[Tb:bD]
def Tab(T:ag)(q:Str)(H H':Hp):Prop:=H'=H\/∃ps ps' c,H T=aa (.tbl q ps)/\H c=ae/\c≠T/\H'=upd (upd H T (.tbl q ps')) c (.ext (hW c q))/\iF H'
theorem P8{c:ah}{p:Pos}:∀{l:List ah},ss l->ss (l++[rawInt p.line,rawInt p.col,c]):=λ{l} h=>by
 fun_induction ss l with
 |case1=>exact trivial
 |case2 a b c' d e rest ih=>exact ih h
 |case3 _ _=>exact h.elim
theorem MM{c v:ah}{p p2:Pos}:∀{l:List ah},ss l->codeAmong p2 (l++[rawInt p.line,rawInt p.col,c])=aa v->codeAmong p2 l=aa v\/v=c:=λ{l} h e=>by
 fun_induction ss l with
 |case1=>
  simp only[sH,codeAmong,rawInt]at e;split at e
  ·exact .inr (by cases e;rfl)
  ·cases e
 |case2 a b c' d e' rest ih=>
  simp only[u5,codeAmong]at e ⊢;split at e
  ·rename_i q;rw[aF q];exact .inl e
  ·rename_i q;rw[aG q];exact ih h e
 |case3 _ _=>exact h.elim
def BM(mg:Str->Option ah)(base:ay):Prop:=∃bm o,mg "__builtins__" = aa (.ref bm)/\bm≠builtinsNs/\bm≠mainGlobals/\base.get? bm=aa o/\o.cls=.type "module" /\ o.dict=aa builtinsNs/\o.data=.plain
section
variable{X:Cx}{af:List (ag×Obj)}{σ:St}{H:Hp}{s:ak}{qual x:Str}{ps:sr}{body:aO}{sc:dM}{cl:List (Str×ag)}{c T:ag}{pos:Pos}
theorem SO(c:ag)(q:Str):∀h1 h2:ay,hW c q h1->(∀o,h1.get? c=aa o->h2.get? c=aa o)->hW c q h2:=λh1 h2 ⟨o,vs,t,e,d,r⟩ k=>⟨o,vs,t,k o e,d,r⟩
theorem MF{Q:ah->ak->Prop}{E:ah->ak->Prop}(I:Inv X af σ H s)(hc:X.env.code=.ref c)(C:ke X.base c T)(k:iF H){tps:Array ah}(hT:H T=aa (.tbl qual tps))(hB:BM X.mg X.base)
 (hdef:defaultsOf ps X.env=([],[])) (hq:X.env.qual ++ "<lambda>" = qual) (hcl:closureFor sc X.env=pure cl)
 (h:∀f c' ctv pm s' H',Tab T qual H H'->H' c'=aa (.ext (hW c' qual))->s'.heap.get? f=aa (uY "<lambda>" qual ps body sc cl pm c' ctv)->Inv X af σ H' s'->fH X af H' f->Q (.ref f) s') :
 wpAny (model X.prog X.w) X.A (eval (.Lambda ps body sc pos) X.env) Q E s:=by
 obtain⟨ok1,ok2⟩:=k.cd T qual tps hT;have hP:s.heap.get? T=aa (xR tps):=I.hok T _ hT;have hg:s.heap.Ns mainGlobals X.mg:=I.mod.glob.keeps I.bk;have C':ke s.heap c T:=C.keeps I.bk;obtain⟨bm,bo,b1,b2,b3,b4,b5,b6,b7⟩:=hB;have nT:∀b o,X.base.get? b=aa o->b≠T:=λb o e z=>by
  have:=(I.bs b o e).2;rw[z,hT]at this;cases this
 have hb:s.heap.BuiltinsAt X.mg T:=⟨bm,bo,b1,b2,b3,nT _ _ b4,I.bk _ _ b4,b5,b6,b7⟩;have hgT:mainGlobals≠T:=by obtain⟨o,es,ep,e,_⟩:=I.mod.glob;exact nT _ _ e
 refine PySem.W.kla_eval hdef ?_;rw[hq];cases hf:codeAmong pos tps.toList with
 |some v=>
  obtain⟨c',rfl,hc'⟩:=ok2 pos v hf;refine PySem.W.kla_makeFunctionHit hcl I.ok.glob hg hc C' hP ok1 hf hb λctv h' tk kp sz=>?_;have I':Inv X af σ H { s with heap:=h'.push _,toks:=tk }:=I.kept (h':=h'.push (uY "<lambda>" qual ps body sc cl ((X.mg "__name__").getD .none) c' ctv)) λb o e=>br _ (kp b o e);exact h _ c' ctv _ _ H (.inl rfl) hc' (dj _ rfl) I' (I.jd sz (I.hok.fresh sz))
 |none=>
  refine PySem.W.kla_makeFunction hcl I.ok.glob hg hc C' hP ok1 hf hgT hb λc' ctv h' tk kp h1 h2 hrec htb=>?_;have nc:H c'=ae:=I.hok.fresh h1;have cT:c'≠T:=λz=>by rw[z,hT]at nc;cases nc
  have hx:hW c' qual h':=by obtain⟨c2,o,vs,t,e,r⟩:=hrec;cases e;exact⟨o,vs,t,r⟩
  obtain⟨oc,hoc⟩ : ∃o,h'.get? c'=aa o:=let ⟨o,_,_,e,_⟩:=hx;⟨o,e⟩;have u1:Un X.fs [] H (upd H T (.tbl qual (tps ++ #[rawInt pos.line,rawInt pos.col,.ref c']))) s.heap h':=by
   have nn:∀b,H b=ae->b≠T:=λb n z=>by rw[z,hT]at n;cases n
   refine⟨λb o e n _ _=>kp b o (nn b n) e,λb o e n _ _=>⟨o.slots,kp b o (nn b n) e⟩,λb o e n _=>by rw[av (nn b n)];exact n,λb o e _=>?_,λb xs e=>?_,λb o u e=>?_,λb w ps e=>?_⟩
   ·by_cases z:b=T
    ·rw[z];exact⟨_,htb⟩
    ·exact⟨o,kp b o z e⟩
   ·rw[av (λz=>by rw[z,hT]at e;cases e)];exact e
   ·rw[av (λz=>by rw[z,hT]at e;cases e)];exact e
   ·by_cases z:b=T
    ·subst z;rw[hT]at e;cases e;exact⟨_,aY⟩
    ·exact⟨#[],by rw[av z,e];simp⟩
  have S9:bY X.prog X.w (upd H T (.tbl qual (tps ++ #[rawInt pos.line,rawInt pos.col,.ref c']))) h':=λb u e=>by
   by_cases z:b=T
   ·subst z;rw[aY]at e;cases e;exact htb
   ·rw[av z]at e;refine(I.hok b u e).stay (λy v hy q=>kp y v ?_ q) (λy q=>by rw[av (λw=>by rw[w,hT]at q;cases q)];exact q) λy xs q=>by rw[av (λw=>by rw[w,hT]at q;cases q)];exact q
    rcases hy with w|w
    ·rw[w];exact z
    ·exactλw2=>by rw[w2,hT]at w;cases w
  have I1:Inv X af σ (upd H T (.tbl qual (tps ++ #[rawInt pos.line,rawInt pos.col,.ref c']))) { s with heap:=h',toks:=tk }:=I.un u1 S9;have nc1:upd H T (.tbl qual (tps ++ #[rawInt pos.line,rawInt pos.col,.ref c'])) c'=ae:=by rw[av cT];exact nc
  have I2:Inv X af σ (upd (upd H T (.tbl qual (tps ++ #[rawInt pos.line,rawInt pos.col,.ref c']))) c' (.ext (hW c' qual))) { s with heap:=h',toks:=tk }:=by
   have F:fH X af (upd H T (.tbl qual (tps ++ #[rawInt pos.line,rawInt pos.col,.ref c']))) c':=⟨nc1,(I.jd (H':=H) h1 nc).2⟩;have vm:∀b u,(upd H T (.tbl qual (tps ++ #[rawInt pos.line,rawInt pos.col,.ref c']))) b=aa u->b≠c':=λb u e=>cQ e nc1;refine I1.call' (s':={ s with heap:=h',toks:=tk }) (ch:=[c']) rfl ⟨λb u e _ _ _=>e,λb u e _ _ _=>⟨u.slots,e⟩,λb u e n hb=>?_,λb u e hb=>⟨u,e⟩,λb xs e=>by rw[av (vm _ _ e)];exact e,λb q u e=>by rw[av (vm _ _ e)];exact e,λb w ps e=>⟨#[],by rw[av (vm _ _ e),e];simp⟩⟩ ?_ I.bare
    λb hb=>by
     obtain rfl:b=c':=by simpa using hb
     exact⟨F.2.2.2.1,F.2.1,F.2.2.2.2.1,F.2.2.2.2.2⟩
   ·rw[av (λz=>hb (by simp[z]))];exact n
   ·intro b u e;by_cases z:b=c'
    ·subst z;rw[aY]at e;cases e;exact⟨hx,⟨oc,hoc⟩,SO b qual⟩
    ·rw[av z]at e;exact(I1.hok b u e).stay (λy v hy q=>q) (λy q=>by rw[av (vm _ _ q)];exact q) λy xs q=>by rw[av (vm _ _ q)];exact q
  have Ta:∀b o,h'.get? b=aa o->(h'.push (uY "<lambda>" qual ps body sc cl ((X.mg "__name__").getD .none) c' ctv)).get? b=aa o:=λb o e=>br _ e;have I3:=I2.kept (t':=tk) Ta;have szs:s.heap.objs.size<=h'.objs.size:=d9 h1 (yg h2);have ck:iF (upd (upd H T (.tbl qual (tps ++ #[rawInt pos.line,rawInt pos.col,.ref c']))) c' (.ext (hW c' qual))):=by
   have nT':∀{b:ag} {o:HO},H b=aa o->NT o->upd (upd H T (.tbl qual (tps ++ #[rawInt pos.line,rawInt pos.col,.ref c']))) c' (.ext (hW c' qual)) b=aa o:=λ{b o} e n=>by
    rw[av (cQ e nc),av (λz=>by rw[z,hT]at e;cases e;exact n)];exact e
   refine⟨λr hr=>?_,λT2 q2 ps2 e=>?_,λa2 q2 xs2 e=>?_⟩
   rotate_left 2
   ·by_cases z:a2=c'
    ·subst z;rw[aY]at e;cases e
    ·rw[av z]at e;by_cases z2:a2=T
     ·subst z2;rw[aY]at e;cases e
     ·rw[av z2]at e;exact k.fz a2 q2 xs2 e
   ·obtain⟨p0,e0⟩:=k.has r hr;by_cases z:r.1=T
    ·rw[z,hT]at e0;have:qual=r.2:=by injection e0 with e0;injection e0
     exact⟨_,by rw[av (by rw[z];exact bU cT),z,aY,this]⟩
    ·exact⟨p0,by rw[av (cQ e0 nc),av z];exact e0⟩
   ·by_cases z:T2=c'
    ·subst z;rw[aY]at e;cases e
    ·rw[av z]at e;by_cases z2:T2=T
     ·subst z2;rw[aY]at e;have e1:qual=q2:=by injection e with e;injection e
      have e2:tps ++ #[rawInt pos.line,rawInt pos.col,.ref c']=ps2:=by injection e with e;injection e
      subst e1 e2;refine⟨by rw[yt];exact P8 ok1,λp2 v hv=>?_⟩;rw[yt]at hv;rcases MM ok1 hv with q|q
      ·obtain⟨y,y1,y2⟩:=ok2 p2 v q;exact⟨y,y1,nT' y2 trivial⟩
      ·exact⟨c',q,aY⟩
     ·rw[av z2]at e;obtain⟨t1,t2⟩:=k.cd T2 q2 ps2 e;refine⟨t1,λp2 v hv=>?_⟩;obtain⟨y,y1,y2⟩:=t2 p2 v hv;exact⟨y,y1,nT' y2 trivial⟩
  refine h h'.objs.size c' ctv _ _ _ (.inr ⟨tps,_,c',hT,nc,cT,rfl,ck⟩) aY (dj _ rfl) I3 ?_;refine I.jd szs ?_;rw[av (nA h2),av (λz=>?_)]
  ·exact I.hok.fresh szs
  ·have:=I.hok.fresh szs;rw[z,hT]at this;cases this
end
section
variable{X:Cx}{af:List (ag×Obj)}{σ:St}{H:Hp}{s:ak}
theorem adopt{fp:List ag}{D:ag}{o:HO}{h':ay}{t':Nat}(I:Inv X af σ H s)(hf:∀b∈fp,fH X af H b)(hD:D∈fp)(k:∀b u,b∉fp->s.heap.get? b=aa u->h'.get? b=aa u)
 (new:bI X.prog X.w (upd H D o) h' D o):Inv X af σ (upd H D o) { s with heap:=h',toks:=t' }:=by
 have hn:H D=ae:=(hf D hD).1;have nfp:∀b u,H b=aa u->b∉fp:=λb u e z=>by rw[(hf b z).1]at e;cases e
 refine I.call' (s':={ s with heap:=h',toks:=t' }) (ch:=fp) rfl ⟨λb u e _ _ hb=>k b u hb e,λb u e _ _ hb=>⟨u.slots,k b u hb e⟩,λb u e hb hx=>?_,λb u e hb=>⟨u,k b u hb e⟩,λb xs e=>?_,λb q u e=>?_,λb w ps e=>⟨#[],?_⟩⟩ ?_ I.bare
  λb hb=>⟨(hf b hb).2.2.2.1,(hf b hb).2.1,(hf b hb).2.2.2.2.1,(hf b hb).2.2.2.2.2⟩
 ·rw[av (λz=>hx (by rw[z];exact hD))];exact hb
 ·rw[av (cQ e hn)];exact e
 ·rw[av (cQ e hn)];exact e
 ·rw[av (cQ e hn),e];simp
 ·intro b u e;by_cases hb:b=D
  ·subst hb;rw[aY]at e;cases e;exact new
  ·rw[av hb]at e;refine(I.hok b u e).stay (λc v hc q=>k c v ?_ q) (λc q=>by rw[av (cQ q hn)];exact q) λc xs q=>by rw[av (cQ q hn)];exact q
   rcases hc with z|z
   ·rw[z];exact nfp b u e
   ·exact nfp c _ z
theorem ER:∀{ns:List Int} {am:List ah},Vals (ns.map V.int) am->kn am ns
 |[],_,.nil=>.nil
 |n::r,_,.cons h t=>by
  obtain⟨t1,rfl⟩:=h;exact .cons n t1 (ER t)
end
def vv(c':ag)(q:Str)(tk:V->Hp->VK->Prop):List V->Hp->(List V->Hp->Prop)->Prop
 |[],H,R=>R [] H
 |x::xs,H,R=>tk x H λk H1=>H1 c'=aa (.ext (hW c' q))/\vv c' q tk xs H1 λks H2=>R (k::ks) H2
def KeysAre(H:Hp)(kz:List (List Int))(ks:List V):Prop:=P2 (λz k=>∃p,k=V.ref p/\H p=aa (.lst (z.map V.int))) kz ks
def OC(T:ag)(q:Str)(ρ:List Nat)(σ:St)(tb:TE)(Q:VK):VK:=λx H1=>∃a xs tps,x=.ref a/\xs.length<64/\H1 T=aa (.tbl q tps)/\iF H1 /\
 ∀H2 c',Tab T q H1 H2->H2 c'=aa (.ext (hW c' q))->Lst H2 a xs/\vv c' q (λv H K=>tb (i5 ρ σ v) H K) xs H2 λks H3=>∃kz:List (List Int),kz.length=xs.length/\kz.Nodup/\KeysAre H3 kz ks /\
  ∀p ys,H3 p=ae->Bh .non kz xs ys->Q (.ref p) (upd H3 p (.lst ys))
def FV(T:ag)(q:Str)(ρ:List Nat)(te tb:TE):TE:=λσ H Q=>te σ H (OC T q ρ σ tb Q)
theorem LK{kz:List (List Int)}{xs:List V}{am out:List ah}(r:Vals xs am)(hz:kz.length=xs.length)(h:pN (mh kz) am out):∃ys,Bh .non kz xs ys/\Vals ys out:=by
 obtain⟨p,pm,sd,rfl⟩:=h;have hl:=r.length;rw[<- hl]at pm sd;refine⟨p.toList.map λi=>xs.getD i .non,⟨p,pm,sd,rfl⟩,?_⟩;have key:∀l:List Nat,(∀i∈l,i<xs.length)->Vals (l.map λi=>xs.getD i .non) (l.map λi=>am.getD i dD):=λl hl'=>by
  induction l with
  |nil=>exact .nil
  |cons i t ih=>
   have hi:=hl' i b8;refine .cons ?_ (ih λj hj=>hl' j (cy _ hj));have e1:xs[i]? = aa (xs.getD i .non):=by simp[hi]
   obtain⟨u,e2,r2⟩:=r.get e1;have:am.getD i dD=u:=by simp[e2]
   show RelV (xs.getD i .non) (am.getD i dD);rw[this];exact r2
 refine key _ λi hi=>?_;have:=(ve.mp pm.pm).mem_iff.mp hi;simpa using this
section
variable{X:Cx}{x qual:Str}{e:aO}{ps:sr}{body:aO}{sc:dM}{cl:List (Str×ag)}{c T:ag}{p pos KR Tc:Pos}{k:Nat}{ρ:List Nat}{N':List Str}{te tb:TE}
theorem Ru(hg:Gl X "sorted")(hm:X.mg "sorted" = ae)(he:PE X e te)(hr:cA (k+3) X.A)(hc:X.env.code=.ref c)(C:ke X.base c T)(hB:BM X.mg X.base)(hdef:defaultsOf ps X.env=([],[]))(hq:X.env.qual ++ "<lambda>" = qual)(hcl:closureFor sc X.env=pure cl)
 (S:rS X x ρ N' sc cl) (hbind:∀(pm:ah) (c':ag) (ctv u:ah),bindArgs (JF "<lambda>" qual ps body sc cl pm (.ref c') ctv) ⟨[u],[]⟩=pure [(x,u)])
 (hb:∀(A:a7) (f c':ag) (s:ak) (H:Hp) (env:Env),cA k (A.deeper env)->env=wG qual sc s f c' cl->PE (zM X A N' env s H) body tb)
 (hs:starEach [e] X.env=(false,eval e X.env)::starEach [] X.env:=by rfl) (hpl:(backTo pos (starEach [e] X.env)).any (·.1)=false:=by rfl) :
 PE X (.Call (.Name "sorted" p) [e] [⟨aa "key", .Lambda ps body sc KR,Tc⟩] pos) (FV T qual ρ te tb):=by
 intro af s σ H Q I h;have hboot:bootBuiltins "sorted" = aa (.builtin "sorted"):=by kernel_rfl
 refine qa (qD I hg hm hboot ?_);refine callWith_kw ?_ (by rw[hs];rfl) hpl rfl rfl;rw[hs];show wpAny _ _ (spliced ((false,eval e X.env)::backTo pos (starEach [] X.env))) _ _ s;refine vi (aM (he af s σ H _ I h) λu s1 ⟨x1,H1,I1,r1,q1⟩=>yv ?_);obtain⟨a,xs,tps,rfl,h64,hT,ck,q2⟩:=q1;cases r1;show wpAny _ _ (evalAll ((do let v <- eval (.Lambda ps body sc KR) X.env;standAt pos;pure v)::((backToKw pos (keywordEach [] X.env)).map (·.2)))) _ _ s1;refine wpAny_evalAll_cons (ar (MF I1 hc C ck hT hB hdef hq hcl λf c' ctv pm s2 H2 tab hc' hf I2 fpf=>ar (qc (bh (wpAny_evalAll_nil ?_)))));obtain⟨hl2,kr⟩:=q2 H2 c' tab hc';show wpAny (model X.prog X.w) X.A (call (.builtin "sorted") [.ref a] [(kA "key", .ref f)]) (EP X af σ Q) X.xe s2;obtain⟨am,n0,rv,hz,ho⟩:=oO I2 hl2;have hli:=rv.length;let Fn:List V->Hp->Prop:=λks H3=>∃kz:List (List Int),kz.length=xs.length/\kz.Nodup/\KeysAre H3 kz ks/\∀p ys,H3 p=ae->Bh .non kz xs ys->Q (.ref p) (upd H3 p (.lst ys));have flt:f<s2.heap.objs.size:=bE hf;have fnt:f∉tm s2.heap.objs.size:=λz=>by
  simp only[tm,bn,ki,jI]at z;have:(f:Nat)<s2.heap.objs.size:=flt;rcases z with z|z|z|z
  ·exact absurd this (by rw[z];exact kj _)
  ·exact absurd this (by rw[z];exact qp.mpr (yd _ _))
  ·exact absurd this (by rw[z];exact qp.mpr (yd _ _))
  ·exact absurd this (by rw[z];exact qp.mpr (yd _ _))
 refine L8 (vs:=am) (J:=λks s3=>∃Hc kv,Inv X af σ Hc s3/\Vals kv ks/\s3.heap.get? f=aa (uY "<lambda>" qual ps body sc cl pm c' ctv)/\fH X af Hc f/\(∀b∈tm s2.heap.objs.size,fH X af Hc b/\∃o,s3.heap.get? b=aa o) /\
  Hc c'=aa (.ext (hW c' qual))/\vv c' qual (λv H K=>tb (i5 ρ σ v) H K) (xs.drop ks.length) Hc λks' H3=>Fn (kv++ks') H3) ⟨_,ho,rfl,_,rfl⟩ (by omega) ?j0 ?jk ?jc ?je
 case j0=>
  intro h' kp ex;refine⟨H2,[],I2.kept kp,.nil,kp _ _ hf,fpf,λb hb=>⟨I2.jd ?_ (I2.hok.fresh ?_),ex b hb⟩,hc',kr⟩
  all_goals (simp only[tm,bn,ki,jI]at hb;rcases hb with z|z|z|z<;>rw[z]<;>first|exact bu _|exact yd _ _)
 case jk=>
  rintro ks s3 h' ⟨Hc,kv,I3,rk,hf3,fp3,tm3,hc3,kr3⟩ kp ex;refine⟨Hc,kv,Ea (t':=s3.toks) I3 (fp:=tm s2.heap.objs.size) (λb hb=>(tm3 b hb).1) (λb u hb q=>kp b u hb q),rk,kp _ _ fnt hf3,fp3,λb hb=>⟨(tm3 b hb).1,?_⟩,hc3,kr3⟩;obtain⟨o,q⟩:=(tm3 b hb).2;exact ex b o q
 case jc=>
  rintro i u ks s3 hu hks ⟨Hc,kv,I3,rk,hf3,fp3,tm3,hc3,kr3⟩;obtain⟨v,hv,ruv⟩ : ∃v,xs[i]? = aa v/\RelV v u:=by
   have hi:i<xs.length:=by rw[hli];exact(dm.mp hu).1
   have e1:xs[i]? = aa xs[i]:=by simp[hi]
   obtain⟨u2,e2,r2⟩:=rv.get e1;rw[hu]at e2;cases e2;exact⟨_,e1,r2⟩
  have hd:xs.drop ks.length=v::xs.drop (ks.length+1):=by obtain⟨hi,e⟩:=dm.mp hv;rw[hks,ni hi,e]
  rw[hd]at kr3;have hrec:s3.heap.CodeRec (.ref c') qual:=by obtain⟨⟨o,vs,t,e1,e2,e3⟩,_⟩:=I3.hok c' _ hc3;exact⟨c',o,vs,t,rfl,e1,e2,e3⟩
  have hA:X.A.in1.in1.frames=aa X.stack:=I3.ok.frames;refine e5 (QZ (k:=k) I3 hA hr.in1.in1 S hf3 hrec (hbind pm c' ctv u) ruv (λenv h1 h2=>hb _ f c' s3 Hc env h1 h2) kr3) (λkk s4 hce=>?_) λ_ _ z=>z;have UD:=hce;obtain⟨kvv,H4,os4,Td,un4,Te,rk4,hc4,kr4⟩:=hce;have noF:∀b,fH X af Hc b->b∉frs X.stack:=λb hb z=>by
   rcases bn.mp (I3.v3 b z)with y|y
   ·exact hb.2.1 y
   ·exact hb.2.2.1 y
  have I4:Inv X af σ H4 s4:=I3.call' os4 (ch:=[]) un4 Te Td (λb z=>absurd z (by simp));have fpk:∀b,fH X af Hc b->(∃o,s3.heap.get? b=aa o)->fH X af H4 b:=λb hb ⟨o,q⟩=>⟨un4.free b o q hb.1 (by simp),hb.2⟩;refine⟨⟨H4,kv++[kvv],I4,rk.append (.cons rk4 .nil),un4.keep _ _ hf3 fp3.1 (noF _ fp3) (by simp),fpk f fp3 ⟨_,hf3⟩,λb hb=>⟨fpk b (tm3 b hb).1 (tm3 b hb).2,?_⟩,hc4,?_⟩,λb o hb q=>un4.keep b o q (tm3 b hb).1.1 (noF _ (tm3 b hb).1) (by simp)⟩
  ·obtain⟨o,q⟩:=(tm3 b hb).2;exact un4.there b o q (by simp)
  ·rw[d6];simp only[sF,JP];exact kr4
 case je=>
  rintro ks s3 hks ⟨Hc,kv,I3,rk,hf3,fp3,tm3,hc3,kr3⟩;rw[u0 (by omega)]at kr3;obtain⟨kz,hz1,nd,ka,fin⟩:=kr3;rw[iN]at ka;have lk:=rk.length;have at_:∀i,i<am.length->∃pp o us nn,ks.getD i dD=.ref pp/\s3.heap.get? pp=aa o/\o.cls=.type "list" /\ o.data=.seq (dZ us) nn/\kn us (kz.getD i []):=λi hi=>by
   have hzi:i<kz.length:=by omega
   have e1:kz[i]? = aa (kz.getD i []):=by simp[hzi]
   obtain⟨kvi,e2,pp,rfl,hp⟩:=P2.getL ka e1;obtain⟨u,e3,r3⟩:=rk.get e2;cases r3;obtain⟨_,us,nn,vu,ho⟩:=I3.hok pp _ hp;exact⟨pp,_,us,nn,by simp[e3],ho,rfl,rfl,ER vu⟩
  have hord:=yK nd;rw[hz1,hli]at hord;refine⟨mh kz,hord,λh2 Q' hq'=>?_,λi j C hi hj hC=>?_,λout h' cc so kp ex hD=>?_⟩
  ·refine PySem.W.kas_kind (T:=sK "list") (by omega) (λv hv=>?_) (by decide) (by decide) hq';obtain⟨i,hi⟩:=sC hv;have hil:=(dm.mp hi).1;obtain⟨pp,o,us,nn,e1,e2,e3,_⟩:=at_ i (by omega);have:v=.ref pp:=by
    rw[<- e1];simp[hi]
   rw[this,<- e3];exact(Ku e2).andThen .now
  ·obtain⟨p1,o1,us1,n1,a1,a2,a3,a4,a5⟩:=at_ i hi;obtain⟨p2,o2,us2,n2,b1,b2,b3,b4,b5⟩:=at_ j hj;unfold PySem.W.kas_ask;rw[a1,b1];exact Rw a2 a3 a4 b2 b3 b4 a5 b5 (by have:=hr.un;show X.A.units+1+1<cLine;omega) hC
  ·obtain⟨ys,sy,vy⟩:=LK rv hz1 so;have hD':s2.heap.objs.size+1∈tm s2.heap.objs.size:=by simp[tm]
   have ly:ys.length=xs.length:=by rw[vy.length,so.len,hli]
   have nD:Hc (s2.heap.objs.size+1)=ae:=(tm3 _ hD').1.1;refine⟨.ref (s2.heap.objs.size+1),_,adopt (t':=s3.toks) (o:=.lst ys) I3 (λb hb=>(tm3 b hb).1) hD' (λb u hb q=>kp b u hb q) ⟨by rw[ly];exact hz,out,cc,vy,hD⟩,rfl,fin _ ys nD sy⟩
end
end L2
namespace Mi
open PySem
def tD:D->Option (List Str)
 |.tup ds=>kJ ds
 |.lst ds=>kJ ds
 |_=>ae
def lE(x y:D):Rs D:=match y with
 |.str z=>(dh (tD x)).bind λys=>ba (z∈ys/\ys.length<=1000) (.ok (.int (ys.idxOf z:Nat)))
 |_=>.no
def gj:List Int->List Int->Bool
 |[],[]=>false
 |[],_::_=>true
 |_::_,[]=>false
 |a::r,b::t=>if a==b then gj r t else decide (a<b)
def kY:List D->Option (List Int)
 |[]=>aa []
 |.int i::r=>(kY r).map (i :: ·)
 |_=>ae
def tS:D->Rs (List Int)
 |.lst ds=>dh (kY ds)
 |_=>.no
def insI(lt:Nat->Nat->Bool)(i:Nat):List Nat->List Nat
 |[]=>[i]
 |j::r=>if lt i j=true then i::j::r else j::insI lt i r
def sortI(lt:Nat->Nat->Bool):List Nat->List Nat
 |[]=>[]
 |i::r=>insI lt i (sortI lt r)
def jU(kz:List (List Int))(n:Nat):List Nat:=sortI (λi j=>gj (kz.getD i []) (kz.getD j [])) (bx n)
def sortBy(kz:List (List Int))(ds:List D):List D:=(jU kz ds.length).map λi=>ds.getD i .non
def mi(ρ:List Nat)(e:Env)(d:D):Env:=aa (.d d) :: ρ.map λj=>(e[j]?).join
def jx(ρ:List Nat)(kf:E)(e:Env):List D->Rs (List (List Int))
 |[]=>.ok []
 |d::r=>(kf (mi ρ e d)).bind λk=>(tS k).bind λz=>(jx ρ kf e r).bind λzs=>.ok (z::zs)
def xl(ρ:List Nat)(a kf:E):E:=λe=>(a e).bind λx=>(DP x).bind λds=>ba (ds.length<64) ((jx ρ kf e ds).bind λkz=>ba kz.Nodup (.ok (.lst (sortBy kz ds))))
end Mi
namespace A
open PySem L2 PyProof.Rows
open Mi (D W Rs Fin aw Out Tg)
variable[Tb:bD]
section
variable{prog:aW}{w:aQ}{Ar:a7}
theorem AV(x y:Str)(t u:Tok):Kx (.str x t) (.str y u) (x.cps.toList==y.cps.toList):=S0 x y t u
theorem xb{ys:List Str}{us:List ah}(r:Vals (ys.map V.str) us){i:Nat}(h:i<ys.length):∃t,us[i]? = aa (.str (ys.getD i e6) t):=by
 have e:(ys.map V.str)[i]? = aa (.str (ys.getD i e6)):=by simp[h]
 obtain⟨u,e2,r2⟩:=r.get e;obtain⟨t,rfl⟩:=r2;exact⟨t,e2⟩
theorem Fm{ys:List Str}{z:Str}(h:z∈ys):ys.idxOf z<ys.length/\ys.getD (ys.idxOf z) e6=z/\∀m,m<ys.idxOf z->ys.getD m e6≠z:=by
 have hl:=List.idxOf_lt_length_of_mem h;refine⟨hl,by simp[hl],λm hm e=>?_⟩;have:m<ys.length:=yh hm hl;have e2:ys[m]=z:=by simpa [this]using e
 have:=List.not_of_lt_findIdx (p:=(· == z)) (xs:=ys) (i:=m) hm;simp[e2]at this
theorem OV{E:ah->ak->Prop}{s:ak}{t:ag}{us:List ah}{ys:List Str}{z:Str}{tz:Tok}{Q:ah->ak->Prop}(ht:IsTup s.heap t us.toArray)(r:Vals (ys.map V.str) us)(hz:z∈ys)
 (h:Q (.int (ys.idxOf z:Nat) s.toks) { s with toks:=s.toks+1 }):wpAny (model prog w) Ar (call (.builtin "tuple.index") [.ref t,.str z tz]) Q E s:=by
 obtain⟨h1,h2,h3⟩:=Fm hz;have hl:=r.length;rw[be]at hl;refine se B8 ht.typeIs PySem.F.entry_tuple_index ?_ (PySem.F.args_tuple_index_2 _ _);show wpAny _ _ (Builtin.Tuple.tupleItemsOf (.ref t) >>= _) _ _ s;refine ar (tupleItemsOf_ ht ?_);refine ar (bh (ar (bh ?_)));dsimp only;rw[Std.Legacy.Range.forIn_eq_forIn_range'];have hsz:([0:min us.toArray.size us.toArray.size]:Std.Legacy.Range).size=us.length:=by simp[Std.Legacy.Range.size]
 rw[hsz];show wpAny _ _ (forIn (yc 0 us.length 1) _ _ >>= _) _ _ _;have go:∀(k i:Nat),ys.idxOf z=i+k->∀(G:Option qd×Unit->ak->Prop),G (aa (.done (.ret (.int (ys.idxOf z:Nat) s.toks))),()) { s with toks:=s.toks+1 } ->
  wpAny (model prog w) Ar.in1 (forIn (yc i (us.length - i) 1) ((ae, ()) : Option qd × Unit) fun (i : Nat) (__s : Option qd × Unit) => (match us.toArray[i]? with
          | some y=>do
           let b <- eqBool y (l0 z tz)
           if b=true then do
            let r <- retInt (i:Int)
            pure (ForInStep.done (aa r,()))
            else pure (l8 (ae,()))
          |x=>pure (l8 (ae,())):Sem (ForInStep (Option qd×Unit)))) G E s:=by
  intro k
  induction k with
  |zero=>
   intro i hi G hG;have hlt:i<us.length:=by omega
   obtain⟨t1,e1⟩:=xb r (i:=i) (by omega);rw[show us.length-i=(us.length-i-1)+1 by omega,B1,u6];have e2:us.toArray[i]? = aa (.str (ys.getD i e6) t1):=by simpa using e1
   rw[e2];have hz2:ys.getD i e6=z:=by rw[<- h2,hi];rfl
   rw[hz2];refine ar (ar (AV z z t1 tz prog w _ _ _ _ ?_));simp only[iH,gi];refine ar (ar (wpAny_mkInt (bh (bh ?_))));rw[show(i:Nat)=ys.idxOf z from hi.symm];exact bh hG
  |succ k ih=>
   intro i hi G hG;have hlt:i<us.length:=by omega
   obtain⟨t1,e1⟩:=xb r (i:=i) (by omega);rw[show us.length-i=(us.length-(i+1))+1 by omega,B1,u6];have e2:us.toArray[i]? = aa (.str (ys.getD i e6) t1):=by simpa using e1
   rw[e2];have hz2:=h3 i (by omega);refine ar (ar (AV _ z t1 tz prog w _ _ _ _ ?_));have:((ys.getD i e6).cps.toList==z.cps.toList)=false:=by
    rw[rX];intro e;apply hz2;cases hq:ys.getD i e6 with
    | mk c=>cases z with
     |mk d=>
      rw[hq]at e;have:c=d:=vf.mp e;rw[this]
   rw[this];simp only[lX,fX];exact bh (ih (i+1) (by omega) G hG)
 refine ar (go (ys.idxOf z) 0 (by omega) _ ?_);exact bh ⟨_,rfl,h⟩
theorem PB{E:ah->ak->Prop}{s:ak}{t:ag}{us:List ah}{ys:List Str}{z:Str}{tz:Tok}{n:Nat}{Q:ah->ak->Prop}(ht:s.heap.get? t=aa { cls:=.type "list", data:=.seq us.toArray n })(r:Vals (ys.map V.str) us)(hz:z∈ys)(hl:ys.length<=1000)
 (h:Q (.int (ys.idxOf z:Nat) s.toks) { s with toks:=s.toks+1 }):wpAny (model prog w) Ar (call (.builtin "list.index") [.ref t,.str z tz]) Q E s:=by
 obtain⟨h1,h2,h3⟩:=Fm hz;have hlu:=r.length;rw[be]at hlu;let e:ah->Bool:=λy=>match y with
  |.str a _=>a.cps.toList==z.cps.toList
  |_=>false
 have he:∀y,y∈us.toArray->Kx y (.str z tz) (e y):=λy hy=>by
  obtain⟨i,hi⟩:=sC (by simpa using hy:y∈us);have hil:=(dm.mp hi).1;obtain⟨t1,e1⟩:=xb r (i:=i) (by omega);rw[e1]at hi;cases hi;exact AV _ z t1 tz
 have ei:∀i (hi:i<us.toArray.size),e us.toArray[i]=decide (ys.getD i e6=z):=λi hi=>by
  have hi':i<us.length:=by simpa using hi
  obtain⟨t1,e1⟩:=xb r (i:=i) (by omega);have:us.toArray[i]=.str (ys.getD i e6) t1:=by have:=(dm.mp e1).2;simpa using this
  rw[this];show((ys.getD i e6).cps.toList==z.cps.toList)=_;by_cases q:ys.getD i e6=z
  ·rw[q];simp
  ·rw[c6 q,rX];intro y;apply q;cases hq:ys.getD i e6 with
   | mk c=>cases z with
    |mk d=>
     rw[hq]at y;have:c=d:=vf.mp y;rw[this]
 refine call_meets B9 ⟨_,ht,rfl⟩ PySem.F.entry_list_index (PySem.F.args_list_index_2 _ _) (PySem.MeetsSeq.list_index t us.toArray n (.str z tz) e he (ys.idxOf z) (by simp;omega) (by omega) (by rw[ei];simp only[h2];simp) (λm hm hj=>by rw[ei];simp only[h3 m hj];simp)) ⟨ht,h⟩
end
section
variable{X:Cx}{K:aB}{M:Nat->Bool}{to ta tb:TE}{t:TA}{o e:aO}{es:List aO}{apos cpos:Pos}{a b:Mi.E}
theorem SM:nC X "tuple.index" (λx xs H Q=>∃(p:ag) (ys:List Str) (z:Str),x=.ref p/\xs=[.str z]/\z∈ys/\H p=aa (.tup (ys.map V.str))/\Q (.int (ys.idxOf z:Nat)) H):=by intro af s σ H x xs v us Q I rx rv h;obtain⟨p,ys,z,rfl,rfl,hz,hp,q⟩:=h;cases rx;obtain⟨u,rfl,ru⟩:=vals1 rv;obtain⟨tz,rfl⟩:=ru;obtain⟨am,r,pt,_⟩:=I.tuple (.inl (.inl hp));exact OV pt r hz ⟨.int _,H,I.tok _,⟨_,rfl⟩,q⟩
theorem QS:nC X "list.index" (λx xs H Q=>∃(p:ag) (ys:List Str) (z:Str),x=.ref p/\xs=[.str z]/\z∈ys/\ys.length<=1000/\Lst H p (ys.map V.str)/\Q (.int (ys.idxOf z:Nat)) H):=by intro af s σ H x xs v us Q I rx rv h;obtain⟨p,ys,z,rfl,rfl,hz,hl,hp,q⟩:=h;cases rx;obtain⟨u,rfl,ru⟩:=vals1 rv;obtain⟨tz,rfl⟩:=ru;obtain⟨am,n,r,_,ho⟩:=oO I hp;exact PB ho r hz hl ⟨.int _,H,I.tok _,⟨_,rfl⟩,q⟩
def F3(K:aB)(T2:String)(r1 r2:V->List V->Hp->VK->Prop)(to:TE)(t:TA):TE:=λσ H Q=>to σ H λx H1=>((∃p xs,x=V.ref p/\H1 p=aa (.tup xs))/\t σ H1 λxs H2=>r1 x xs H2 Q)\/(yV K T2 x H1/\t σ H1 λxs H2=>r2 x xs H2 Q)
theorem Iw{T2 id1 id2:String}{r1 r2:V->List V->Hp->VK->Prop}{name:Str}(aV:PlainAttrs "tuple")(slot1:Slot "tuple" name id1)(Tf:typeOf (.builtin id1)=pure (.type "method_descriptor"))(hm1:nC X id1 r1)
 (pa2:PlainAttrs T2) (Th:Slot T2 name id2) (Ti:typeOf (.builtin id2)=pure (.type "method_descriptor")) (hm2:nC X id2 r2) (ho:PE X o to) (ha:PA X (e::es) t)
 (hbase:attributeBase o name X.env (eval o X.env)=eval o X.env:=by rfl)
 (hfew:((backTo cpos (starEach (e::es) X.env)).all (λx=>!x.1)&&(backToKw cpos (keywordEach [] X.env)).all (λx=>x.1.isSome)
  && decide ((e::es).length+([]:List Keyword).length+(if([]:List Keyword).isEmpty then 0 else 1)<30))=true:=by rfl)
 (hline:(apos.endLine==cpos.line)=true:=by rfl) (hs:starEach (e::es) X.env=(false,eval e X.env)::starEach es X.env:=by rfl) (hplain:(backTo cpos (starEach es X.env)).any (·.1)=false:=by rfl) :
 PE X (.Call (.Attribute o name apos) (e::es) [] cpos) (F3 X.K T2 r1 r2 to t):=by
 intro af s σ H Q I h;refine Jn hbase hfew hline rfl (aM (ho af s σ H _ I h) λv s1 ⟨x,H1,I1,rx,q⟩=>?_);rcases q with ⟨ty,q1⟩|⟨ty,q1⟩
 ·obtain⟨p,xs,rfl,hp⟩:=ty;cases rx;have h12:s1.TypeIs (.ref p) "tuple" /\ ∀a,bB p=.ref a->∃ob,s1.heap.get? a=aa ob/\ob.dict=ae:=by
   obtain⟨_,am,_,ob,e1,e2,e3,_⟩:=(show bI X.prog X.w H1 s1.heap p (.tup xs)from I1.hok p _ hp);exact⟨⟨ob,e1,e2⟩,λa z=>by cases z;exact⟨ob,e1,e3⟩⟩
  obtain⟨h1,h2⟩:=h12;have rx:RelV (.ref p) (bB p):=rfl;refine⟨"tuple", id1,aV,slot1,Tf,h1,h2,?_⟩;have hA:=ha cpos af s1 σ H1 _ I1 q1;rw[hs]at hA ⊢;refine yu (by show(false||(backTo cpos (starEach es X.env)).any (·.1))=false;rw[hplain]<;>rfl) (vh ?_);exact aM hA λus s2 ⟨vs,H2,I2,r2',q2⟩=>hm1 af s2 σ H2 _ vs _ us Q I2 rx r2' q2
 ·obtain⟨h1,h2⟩:=F9 I1 rx ty;refine⟨T2,id2,pa2,Th,Ti,h1,h2,?_⟩;have hA:=ha cpos af s1 σ H1 _ I1 q1;rw[hs]at hA ⊢;refine yu (by show(false||(backTo cpos (starEach es X.env)).any (·.1))=false;rw[hplain]<;>rfl) (vh ?_);exact aM hA λus s2 ⟨vs,H2,I2,r2',q2⟩=>hm2 af s2 σ H2 x vs v us Q I2 rx r2' q2
end
end A
namespace So
open PySem
theorem wJ:∀a b:List Int,cX a b=Mi.gj a b
 |[],[]=>rfl
 |[],_::_=>rfl
 |_::_,[]=>rfl
 |a::r,b::t=>by rw[cX,Mi.gj,wJ r t]
theorem A6(lt:Nat->Nat->Bool)(i:Nat):∀l:List Nat,(Mi.insI lt i l).Perm (i::l)
 |[]=>Cm _
 |j::r=>by
  unfold Mi.insI;split
  ·exact Cm _
  ·exact((A6 lt i r).cons j).trans (List.Perm.swap i j r)
theorem tX(lt:Nat->Nat->Bool):∀l:List Nat,(Mi.sortI lt l).Perm l
 |[]=>Cm _
 |i::r=>(A6 lt i _).trans ((tX lt r).cons i)
section
variable{n:Nat}{lt:Nat->Nat->Bool}(O:uU n lt)
include O
theorem Je{i:Nat}(hi:i<n):∀{l:List Nat},(∀x∈l,x<n)->i∉l->l.Pairwise (λa b=>lt a b=true)->(Mi.insI lt i l).Pairwise (λa b=>lt a b=true)
 |[],_,_,_=>JM _ _
 |j::r,hl,hn,hp=>by
  have hp':=k7.mp hp;have hj:=hl j b8;unfold Mi.insI;split
  ·rename_i h;refine k7.mpr ⟨λx hx=>?_,hp⟩;rcases bn.mp hx with rfl|hx
   ·exact h
   ·exact O.tr _ _ _ hi hj (hl x (cy _ hx)) h (hp'.1 x hx)
  ·rename_i h;have hji:lt j i=true:=(O.tot i j hi hj λz=>hn (by rw[z];exact b8)).resolve_left h;refine k7.mpr ⟨λx hx=>?_,Je hi (λx hx=>hl x (cy _ hx)) (λz=>hn (cy _ z)) hp'.2⟩;rcases bn.mp ((A6 lt i r).mem_iff.mp hx)with rfl|hx
   ·exact hji
   ·exact hp'.1 x hx
theorem A5:∀{l:List Nat},(∀x∈l,x<n)->l.Nodup->(Mi.sortI lt l).Pairwise (λa b=>lt a b=true)
 |[],_,_=>.nil
 |i::r,hl,nd=>by
  have nd:=jC.mp nd;have hr:∀x∈r,x<n:=λx hx=>hl x (cy _ hx);exact Je O (hl i b8) (λx hx=>hr x ((tX lt r).mem_iff.mp hx)) (λz=>nd.1 ((tX lt r).mem_iff.mp z)) (A5 hr nd.2)
theorem Fi:∀{a b:List Nat},(∀x∈a,x<n)->a.Perm b->a.Pairwise (λx y=>lt x y=true)->b.Pairwise (λx y=>lt x y=true)->a=b
 |[],b,_,p,_,_=>p.nil_eq
 |x::r,b,hl,p,ha,hb=>by
  cases b with
  |nil=>exact absurd p.length_eq (by simp)
  |cons y t=>
   have hx:x∈y::t:=p.mem_iff.mp b8;have hy:y∈x::r:=p.mem_iff.mpr b8;have e:x=y:=by
    rcases bn.mp hx with h|h
    ·exact h
    ·rcases bn.mp hy with h'|h'
     ·exact h'.symm
     ·have a1:=(k7.mp ha).1 y h';have a2:=(k7.mp hb).1 x h;rw[O.asy _ _ (hl x b8) (hl y hy) a1]at a2;cases a2
   subst e;rw[Fi (λz hz=>hl z (cy _ hz)) (List.Perm.cons_inv p) (k7.mp ha).2 (k7.mp hb).2]
end
theorem RP{kz:List (List Int)}(nd:kz.Nodup){p:Array Nat}(pm:Pm kz.length p)(sd:Sd (mh kz) p kz.length):p.toList=Mi.jU kz kz.length:=by
 have O:=yK nd;have e:Mi.jU kz kz.length=Mi.sortI (mh kz) (bx kz.length):=by
  unfold Mi.jU mh
  congr 1
  funext i j;exact(wJ _ _).symm
 have hp:p.toList.Perm (bx kz.length):=by have:=ve.mp pm.pm;simpa using this
 have hb:∀x∈p.toList,x<kz.length:=λx hx=>by simpa using hp.mem_iff.mp hx
 rw[e];refine Fi O hb (hp.trans (tX _ _).symm) ?_ (A5 O (λx hx=>by simpa using hx) xZ);rw[xV];intro i j hi hj hij;have hi':i<p.size:=by simpa using hi
 have hj':j<p.size:=by simpa using hj
 have:=sd i j hij (by rw[<- pm.size];exact hj');rw[uM hi',uM hj']at this;simpa using this
end So
namespace A
open PySem L2 PyProof.Rows So
open Mi (D W Rs Fin aw Out Tg)
variable[Tb:bD]
theorem NJ{T:ag}{q:Str}{H H' Hv:Hp}(v:Vw H Hv)(t:Tab T q H H'):bt H Hv H' Hv:=by
 rcases t with rfl|⟨ps,ps',c,hT,hc,ne,rfl,ck⟩
 ·exact .refl v
 ·have get:∀{a o},H a=aa o->NT o->upd (upd H T (.tbl q ps')) c (.ext (hW c q)) a=aa o:=λ{a o} e n=>by
   rw[av (cQ e hc),av (λz=>by rw[z,hT]at e;cases e;exact n)];exact e
  have back:∀{a o},upd (upd H T (.tbl q ps')) c (.ext (hW c q)) a=aa o->(∀w ps,o≠.tbl w ps)->(∀φ,o≠.ext φ)->H a=aa o:=λ{a o} e n1 n2=>by
   by_cases z:a=c
   ·subst z;rw[aY]at e;cases e;exact absurd rfl (n2 _)
   ·rw[av z]at e;by_cases z2:a=T
    ·subst z2;rw[aY]at e;cases e;exact absurd rfl (n1 _ _)
    ·rw[av z2]at e;exact e
  refine⟨⟨λa o e n=>get e n,λa e=>?_,λa w p0 e=>?_⟩,cV.refl _,⟨λa o e=>get (v.sub a o e) (v.nv a o e),λa xs e=>v.tup a xs (back e (λ_ _ z=>by cases z) (λ_ z=>by cases z)),λa o u e=>v.frz a o u (back e (λ_ _ z=>by cases z) (λ_ z=>by cases z)),ck,v.nv⟩,λ_ _ _ n=>n⟩
  ·by_cases z:a=c
   ·subst z;exact hc
   ·rw[av z]at e;by_cases z2:a=T
    ·subst z2;rw[aY]at e;cases e
    ·rw[av z2]at e;exact e
  ·by_cases z2:a=T
   ·subst z2;rw[hT]at e;cases e;exact⟨ps',by rw[av (bU ne),aY]⟩
   ·exact⟨p0,by rw[av (cQ e hc),av z2];exact e⟩
theorem Iq{Hv:Hp}:∀{ds:List D} {xs:List V} {bs:List Int},Mi.kY ds=aa bs->P2 (Rep Hv) ds xs->xs=bs.map V.int
 |[],_,bs,e,r=>by cases e;cases r;rfl
 |.int b::ds,_,bs,e,r=>by
  cases r with
  |cons x t=>
   cases hb:Mi.kY ds with
   |none=>rw[Mi.kY,hb]at e;cases e
   |some cs=>
    rw[Mi.kY,hb]at e;cases e;rw[Iq hb t,uj.mp x];rfl
section
variable{X:Cx}{K:aB}{M:Nat->Bool}{te tb ta:TE}{a b kf:Mi.E}{T:ag}{q:Str}{ρ:List Nat}
theorem OG{e:Mi.Env}{σ:L2.St}{H Hv:Hp}(I:R0 M e σ H Hv)(hM:∀j∈ρ,M j=false){d:D}{v:V}(r:Rep Hv d v):R0 (λ_=>false) (Mi.mi ρ e d) (i5 ρ σ v) H Hv:=by
 refine⟨I.vw,by simp[Mi.mi,i5],λi w h _=>?_,λi w h m=>by cases m⟩;cases i with
 |zero=>
  have:W.d d=w:=by simpa [Mi.mi]using h
  subst this;exact⟨v,rfl,r⟩
 |succ i=>
  have h:(ρ.map λj=>(e[j]?).join)[i]? = aa (aa w):=by simpa [Mi.mi]using h
  rw[eE]at h;obtain⟨j,hj,e2⟩:=oA.mp h;have e3:e[j]? = aa (aa w):=by
   cases z:e[j]? with
   |none=>rw[z]at e2;cases e2
   |some y=>rw[z]at e2;exact congrArg aa e2
  obtain⟨u,hu,ru⟩:=I.nob j w e3 (hM j (lS hj));exact⟨u,by simp[i5,eE,hj,hu],ru⟩
theorem Jb{c':ag}(hk:AE (λ_=>false) qN tb kf)(hM:∀j∈ρ,M j=false){e:Mi.Env}{σ:L2.St}:∀{ds:List D} {xs:List V} {kz:List (List Int)} {H Hv:Hp} {R:List V->Hp->Prop},R0 M e σ H Hv->P2 (Rep Hv) ds xs->H c'=aa (.ext (hW c' q))->Mi.jx ρ kf e ds=.ok kz ->
 (∀ks H3 Hv3,bt H Hv H3 Hv3->KeysAre H3 kz ks->R ks H3)->vv c' q (λv H K=>tb (i5 ρ σ v) H K) xs H R
 |[],_,kz,H,Hv,R,I,.nil,_,hz,h=>by
  have:kz=[]:=by rw[Mi.jx]at hz;cases hz;rfl
  subst this;exact h [] H Hv (.refl I.vw) .nil
 |d::ds,_,kz,H,Hv,R,I,.cons (b:=v) (m:=xs) r t,hc,hz,h=>by
  rw[Mi.jx]at hz;show tb (i5 ρ σ v) H _;cases hkd:kf (Mi.mi ρ e d)with
  |no=>rw[hkd]at hz;cases hz
  |ex z=>rw[hkd]at hz;cases hz
  |ok kd=>
   rw[hkd,Mi.aE]at hz;cases kd with
   |lst es=>
    cases hes:Mi.kY es with
    |none=>rw[show Mi.tS (.lst es)=.no from by show Mi.dh (Mi.kY es)=_;rw[hes];rfl]at hz;cases hz
    |some z=>
     rw[show Mi.tS (.lst es)=.ok z from by show Mi.dh (Mi.kY es)=_;rw[hes];rfl,Mi.aE]at hz;cases hzs:Mi.jx ρ kf e ds with
     |no=>rw[hzs]at hz;cases hz
     |ex y=>rw[hzs]at hz;cases hz
     |ok zs=>
      rw[hzs]at hz;have hz:kz=z::zs:=by cases hz;rfl
      subst hz;refine hk _ _ H Hv _ (OG I hM r) ?_;rw[hkd];intro kv H1 Hv1 g1 kq;obtain⟨p,o,rfl,n0,hp,nv,ci⟩:=kq;cases o with
      |lst vs=>
       have hv:vs=z.map V.int:=Iq hes ci;subst hv;refine⟨g1.old.at hc,Jb hk hM (I.grow g1) (eP g1.vis t) (g1.old.at hc) hzs λks H3 Hv3 g3 ka=>h _ H3 Hv3 (g1.trans g3) (.cons ⟨p,rfl,g3.old.at hp⟩ ka)⟩
      |_=>exact ci.elim
   |_=>cases hz
theorem Fp{F:D->V->Prop}{ds:List D}{xs:List V}(h:P2 F ds xs):∀l:List Nat,(∀i∈l,i<ds.length)->P2 F (l.map λi=>ds.getD i .non) (l.map λi=>xs.getD i .non)
 |[],_=>.nil
 |i::r,hl=>by
  have hi:=hl i b8;have e1:ds[i]? = aa (ds.getD i .non):=by simp[hi]
  obtain⟨y,e2,f⟩:=h.getL e1;have:xs.getD i .non=y:=by simp[e2]
  refine .cons ?_ (Fp h r λj hj=>hl j (cy _ hj));show F (ds.getD i .non) (xs.getD i .non);rw[this];exact f
theorem LG(hT:(T,q)∈Tb.l)(hM:∀j∈ρ,M j=false)(ha:AE M qP te a)(hk:AE (λ_=>false) qN tb kf):AE M qN (FV T q ρ te tb) (Mi.xl ρ a kf):=λe σ H Hv Q I h=>
 ha e σ H Hv _ I ((aw.mp h).mono λx hx v H1 Hv1 g1 rx=>by
  cases x with
  |lst ds=>
   obtain⟨h64,hx⟩:=Mi.cK (show Fin (Mi.ba (ds.length<64) _) _ from hx);obtain⟨kz,hkz,hx⟩:=jN (aw.mp hx);obtain⟨nd,hx⟩:=Mi.cK hx;have hx:=Mi.lD hx;obtain⟨p,xs,rfl,l,r⟩:=RD.lst g1.vw rx;have lx:=r.len;have I1:=I.grow g1;obtain⟨tps,ht⟩:=g1.vw.cd.has _ hT;refine⟨p,xs,tps,rfl,by omega,ht,g1.vw.cd,λH2 c' tab hc'=>?_⟩;have g2:=NJ g1.vw tab;refine⟨l.old g2.old,Jb hk hM (I1.grow g2) r hc' hkz λks H3 Hv3 g3 ka=>?_⟩;have lk:kz.length=ds.length:=by
    have:∀(ds:List D) (kz:List (List Int)),Mi.jx ρ kf e ds=.ok kz->kz.length=ds.length:=λds=>by
     induction ds with
     |nil=>intro kz h;rw[Mi.jx]at h;cases h;rfl
     |cons d ds ih=>
      intro kz h;rw[Mi.jx]at h;cases h1:kf (Mi.mi ρ e d)with
      |no=>rw[h1]at h;cases h
      |ex z=>rw[h1]at h;cases h
      |ok kd=>
       rw[h1,Mi.aE]at h;cases h2:Mi.tS kd with
       |no=>rw[h2]at h;cases h
       |ex z=>rw[h2]at h;cases h
       |ok z=>
        rw[h2,Mi.aE]at h;cases h3:Mi.jx ρ kf e ds with
        |no=>rw[h3]at h;cases h
        |ex y=>rw[h3]at h;cases h
        |ok zs=>rw[h3]at h;cases h;rw[dq,dq,ih zs h3]
    exact this ds kz hkz
   refine⟨kz,by omega,nd,ka,λp2 ys hp2 so=>?_⟩;obtain⟨pa,pm,sd,rfl⟩:=so;have e0:pa.toList=Mi.jU kz ds.length:=by rw[<- lk];exact RP nd (by rw[lk,lx];exact pm) (by rw[lk,lx];exact sd)
   have rr:P2 (Rep Hv3) (Mi.sortBy kz ds) (pa.toList.map λi=>xs.getD i .non):=by unfold Mi.sortBy;rw[<- e0];refine Fp (eP (g2.vis.trans g3.vis) r) _ λi hi=>?_;have:=(ve.mp pm.pm).mem_iff.mp hi;rw[lx];simpa using this
   obtain⟨g4,kk⟩:=vt g3.vw rr hp2;have gg:=g1.trans (g2.trans (g3.trans g4));exact hx _ _ _ gg (KM.mono (κ:=qN) (g1.old.trans (g2.old.trans g3.old)) kk)
  |_=>exact hx.elim)
end
end A
namespace L2
open PySem PySem.Spec PyProof.Rows A So
structure um(K:aB)(x qual:Str)(st:bj)(c f:ag)(fd:bA):Prop where
 ex:∃(oc:ah) (od:Option ag) (kV doc pm:ah) (an:Option ag) (ct:ah) (osl:Array (Option ah)),
  fd=iK x qual (kU st) (gL st) (bC st) .none kV doc pm an (.ref c) ct/\K.lookup f=aa ⟨oc,od,.func fd,osl⟩/\ou K (.ref c) qual=true
section
variable{P:aW}{w:aQ}{K:aB}{mg:Str->Option ah}{base:ay}
theorem um.ok{x qual:Str}{st:bj}{c f:ag}{fd:bA}{N ps:List Str}{k:Nat}{sp:Sp}(F:um K x qual st c f fd)(S:cM N ps (bC st))(len:∀vs H Q E,sp vs H Q E->vs.length=ps.length)
 (hbody:∀(A:a7) (outer:List Env) (s:ak) (H:Hp) (vs:List V) (Q:VK) (E:XK),cA k (A.deeper (envOfC qual (bC st) s.heap.objs.size f (.ref c)))->sp vs H Q E ->
  ∃t,fv (cZ aJ P w K mg base N qual (bC st) f (.ref c) A outer s H E).nJ (gL st) t/\t { nx:=λ_ H'=>Q .non H',rt:=Q } (start N vs) H):bw P w K mg base aJ (k+1) f fd ps sp:=by
 obtain⟨oc,od,kV,doc,pm,an,ct,osl,rfl,lk,hcd⟩:=F.ex;refine AQ lk hcd S len λA outer s H vs Q E hr hsp=>?_;obtain⟨t,h,q⟩:=hbody A outer s H vs Q E hr hsp;exact⟨t,h.nJ,q⟩
end
structure wH(K:aB)(mg:Str->Option ah)(x:Str)(st:bj)(ps:List Str)(c:ag):Prop where
 ex:∃(f:ag) (fd:bA),mg x=aa (.ref f)/\jB K (.ref f)=true/\Binds K fd ps []/\um K x x st c f fd
theorem LO{K:aB}{h:ay}{mg:Str->Option ah}{x:Str}{st:bj}{ps:List Str}{f c:ag}{oc:ah}{od an:Option ag}{osl:Array (Option ah)}{kV doc pm ct:ah}(X:K.In h)(G:h.Ns mainGlobals mg)
 (hb:∀(kV doc pm:ah) (an:Option ag) (cdv ct:ah) (us:List ah),us.length=ps.length->bindArgs (iK x x (kU st) (gL st) (bC st) .none kV doc pm an cdv ct) ⟨us,[]⟩=pure (ps.zip us))
 (a:bT K mainGlobals x=aa (aa (.ref f))) (l:K.lookup f=aa ⟨oc,od,.func (iK x x (kU st) (gL st) (bC st) .none kV doc pm an (.ref c) ct),osl⟩)
 (cc:ou K (.ref c) x=true) (k:jB K (.ref f)=true):wH K mg x st ps c:=by
 have F:=vM (st:=st) l cc k;exact⟨f,_,eR X G a,k,F.binds hb,⟨oc,od,kV,doc,pm,an,ct,osl,rfl,l,cc⟩⟩
theorem wH.cal{P:aW}{w:aQ}{K:aB}{mg:Str->Option ah}{base:ay}{CX:fR}{k:Nat}{x:Str}{st:bj}{ps:List Str}{c:ag}{sp:Sp}(F:wH K mg x st ps c)(h:∀f fd,um K x x st c f fd->bw P w K mg base CX k f fd ps sp) :
 bR P w K mg base CX k x ps sp:=by
 obtain⟨f,fd,h1,h2,h3,h4⟩:=F.ex;exact⟨f,fd,h1,h2,h3,h f fd h4⟩
theorem rS.one{X:Cx}{x y:Str}{j:Nat}{sc:dM}{c:ag}(hn:sc.names=[(x,.local),(y,.free)])(hxy:(y==x)=false)(hk:sc.kind=.function)(co:sc.isCoroutine=false)(gen:sc.isGenerator=false)(hc:X.env.cells=[(y,c)])(hN:X.N[j]? = aa y)(hy:X.env.kindOf y=aa .cell) :
 rS X x [j] [x,y] sc [(y,c)]:=by
 have hl:sc.names.lookup y=aa .free:=by rw[hn,jg,hxy];show jg y [(y,l9)]=_;rw[jg,iH]
 refine⟨hk,co,gen,λz hz=>?_,by rw[hn,jg,iH],λz d h=>by rw[hc];exact h,λz h=>?_,[y],rfl,rfl,λi k z h1 h2=>?_⟩
 ·rw[hn]at hz;rcases bn.mp hz with rfl|hz
  ·exactλq=>by cases q
  ·rw[dI.mp hz];exactλq=>by cases q
 ·rw[hn,jg]at h;split at h
  ·cases h
  ·rw[jg]at h;split at h
   ·rename_i q;exact⟨c,by rw[jg,q]⟩
   ·cases h
 ·cases i with
  |zero=>
   have e1:j=k:=by simpa using h1
   have e2:y=z:=by simpa using h2
   subst e1 e2;exact⟨hN,hl,.inl hy⟩
  |succ i=>simp at h1
section
variable[Tb:bD]
theorem Nm{P:aW}{w:aQ}{K:aB}{mg mb:Str->Option ah}{k:Nat}{fa a c T:ag}{q:Str}{fd:bA}{x:Str}{s₁:ak}{vs:List ah}{ns:List Int}(hTb:Tb.l=[(T,q)])
 (KX:K.In s₁.heap) (hns:s₁.heap.Ns mainGlobals mg) (hb:s₁.heap.Ns builtinsNs mb) (hbb:∀x:Str,x ≠ "__name__" -> mb x=bootBuiltins x) (hlim:s₁.heap.NoLimit) (hg:s₁.gens = #[])
 (ha:s₁.heap.get? a=aa { cls:=.type "list", data:=.seq vs.toArray }) (hi:kn vs ns) (hl:ns.length<=63) (hr:cA k callerA)
 (hKa:K.lookup a=ae) (hKT:K.lookup T=ae) (C:ke s₁.heap c T) (hT:s₁.heap.get? T=aa (xR #[])) (hB:BM mg s₁.heap)
 (F:∀base:ay,K.In base->base.Ns mainGlobals mg->BM mg base->ke base c T->bw P w K mg base aJ k fa fd [x] uR) (hbind:∀(s:ak) (u:ah),ng s fd ⟨[u],[]⟩ [(x,u)]) :
 codeAny (model P w) callerA (.call (.ref fa) ⟨[.ref a],[]⟩) (λr s'=>r=.ok (.ret (.bool true))/\OldK s₁.heap s'.heap/\s'.os=s₁.os/\l5 s'.gens) s₁:=by
 have rv:=Gu hi;have lenV:=hi.length;have aT:a≠T:=λz=>by rw[z,hT]at ha;cases ha
 let H:Hp:=λb=>if b=a then aa (.frz { cls:=.type "list",data:=.seq vs.toArray } (.lst (ns.map V.int)))else if b=T then aa (.tbl q #[])else ae;have Ha:H a=aa (.frz { cls:=.type "list", data:=.seq vs.toArray } (.lst (ns.map V.int))):=aF rfl;have HT:H T=aa (.tbl q #[]):=by show(if T=a then _ else _)=_;rw[aG (bU aT),aF rfl]
 have Hn:∀b,b≠a->b≠T->H b=ae:=λb h1 h2=>by show(if b=a then _ else _)=_;rw[aG h1,aG h2]
 have Hd:∀{b u},H b=aa u->(b=a/\u=.frz { cls:=.type "list", data:=.seq vs.toArray } (.lst (ns.map V.int)))\/(b=T/\u=.tbl q #[]):=λ{b u} e=>by
  by_cases h1:b=a
  ·subst h1;rw[Ha]at e;cases e;exact .inl ⟨rfl,rfl⟩
  ·by_cases h2:b=T
   ·subst h2;rw[HT]at e;cases e;exact .inr ⟨rfl,rfl⟩
   ·rw[Hn b h1 h2]at e;cases e
 have hok:bY P w H s₁.heap:=λb u e=>by
  rcases Hd e with ⟨rfl,rfl⟩|⟨rfl,rfl⟩
  ·exact⟨ha,by rw[be,cD];omega,vs,_,rv,ha⟩
  ·exact hT
 have free:∀{b:ag} {o:Obj},s₁.heap.get? b=aa o->o.cls≠.type "list" -> o≠xR #[]->H b=ae:=λ{b o} e h1 h2=>by
  refine Hn b (λz=>?_) λz=>?_
  ·rw[z,ha]at e;cases e;exact h1 rfl
  ·rw[z,hT]at e;cases e;exact h2 rfl
 have yC:∀{b:ag} {o:Obj},s₁.heap.get? b=aa o->H b=ae->(kF s₁.heap H).get? b=aa o:=λe n=>Qp e n;have nsK:∀{b:ag} {m:Str->Option ah},s₁.heap.Ns b m->(kF s₁.heap H).Ns b m:=λ{b m} ⟨o,es,ep,e,d,r⟩=>⟨o,es,ep,yC e (Hn b (λz=>by rw[z,ha]at e;cases e;cases d) λz=>by rw[z,hT]at e;cases e;cases d),d,r⟩;have hKb:K.In (kF s₁.heap H):=λb o e=>yC (KX b o e) (Hn b (λz=>by rw[z,hKa]at e;cases e) λz=>by rw[z,hKT]at e;cases e);have hM:Mod K mg (kF s₁.heap H):=⟨hKb,nsK hns,⟨mb,nsK hb,hbb⟩,let ⟨mc,h1,h2⟩:=hlim;⟨mc,nsK h1,h2⟩⟩;have e0:mz P w K mg (kF s₁.heap H) callerA [] s₁ H:=⟨rfl,hM,λb o e=>Qh e,yi (QF _ _),trivial,λb hb=>absurd (show b∈([]:List ag)from hb) (by simp),hok,.of_eq hg⟩;have hB':BM mg (kF s₁.heap H):=by obtain⟨bm,bo,b1,b2,b3,b4,b5,b6,b7⟩:=hB;exact⟨bm,bo,b1,b2,b3,yC b4 (free b4 (by rw[b5];decide) (λz=>by rw[z]at b5;cases b5)),b5,b6,b7⟩
 have C':ke (kF s₁.heap H) c T:=by obtain⟨o,vs2,file,tf,flags,tg,inF,text,tt,e,h1,r⟩:=C;exact⟨o,vs2,file,tf,flags,tg,inF,text,tt,yC e (free e (by rw[h1];decide) (λz=>by rw[z]at h1;cases h1)),h1,r⟩
 have ck:iF H:=⟨λr hr=>by
  rw[hTb]at hr;obtain rfl:r=(T,q):=by simpa using hr
  exact⟨#[],HT⟩,λT2 q2 ps e=>by
  rcases Hd e with ⟨_,z⟩|⟨_,z⟩
  ·cases z
  ·cases z;exact⟨trivial,λpos v hv=>by cases hv⟩,λb o xs e=>by
  rcases Hd e with ⟨_,z⟩|⟨_,z⟩
  ·cases z;intro x hx;obtain⟨i,_,rfl⟩:=cL.mp hx;exact⟨i,rfl⟩
  ·cases z⟩
 refine sm ((F _ hKb (nsK hns) hB' C').run callerA [] s₁ H ⟨[.ref a],[]⟩ [.ref a] [.ref a] (λv _=>v=.bl true) (λ_ _ _=>False) hr e0 (hbind s₁ (.ref a)) (.cons rfl .nil) ⟨a,ns,rfl,.inr ⟨_,Ha⟩,hl,ck,λ_=>rfl⟩) λr s' h=>?_;cases r with
 |error e=>exact h.elim
 |ok fl=>
  cases fl with
  |next=>exact fu h
  |brk=>exact fu h
  |cont=>exact fu h
  |ret u=>
   obtain⟨v,H',os,bare,un,hok',r',q'⟩:=h;have q':v=.bl true:=q';subst q';obtain rfl:u=jh true:=r';have old:∀b o,s₁.heap.get? b=aa o->asItWas s₁.heap s'.heap b o:=λb o e=>by
    by_cases h1:b=a
    ·subst h1;have z2:=un.iS b _ _ Ha;obtain⟨e2,_⟩:=hok' b _ z2;rw[ha]at e;cases e;exact .inl e2
    ·by_cases h2:b=T
     ·subst h2;obtain⟨more,z2⟩:=un.iT b _ _ HT;have e2:s'.heap.get? b=aa (xR (#[]++more)):=hok' b _ z2;rw[hT]at e;cases e;obtain⟨oc,vs2,_,_,_,_,_,_,_,f1,f2,f3,f4,_⟩:=C;exact .inr (.inl ⟨⟨c,oc,vs2,f1,f2,f3,f4⟩,rfl,#[],more,rfl,e2⟩)
     ·exact .inl (un.keep b o e (Hn b h1 h2) (by intro z;exact absurd (show b∈([]:List ag)from z) (by simp)) (by simp))
   exact⟨rfl,⟨old,λb o e=>un.there b o e (by simp)⟩,os,bare⟩
theorem QB{l:BA}{k:Nat}{q:aW}{loose:List Str}{XP:(Str->Option ah)->ay->Prop}{YP:aQ->ay->Prop}{d:DefRec}{K:Params->aB}{x dn:Str}{c T:ag}{qn:Str}(hTb:Tb.l=[(T,qn)])
 (hn:l.most=aa 63) (hdf:d.params.defaults=[]) (hr:cA k callerA)
 (hY:∀(w:aQ) (h:ay),YP w h->(K w.params).In h) (hL:∀w:aQ,∀a o,(K w.params).lookup a=aa o->o.cls≠.type "list") (hK:∀w:aQ,(K w.params).lookup T=ae)
 (hrec:∃d,(recsOf q).find? (λe=>e.name==dn)=aa d) (htab:∀w:aQ,PySem.W.tabIn (K w.params) dn=aa (c,T))
 (F:∀(w:aQ) (mg:Str->Option ah) (fa:ag) (h:ay),(K w.params).In h->h.Ns mainGlobals mg->mg d.name=aa (.ref fa) ->
  ∃fd:bA,(∀(s:ak) (u:ah),ng s fd ⟨[u],[]⟩ [(x,u)]) /\
   ∀base:ay,(K w.params).In base->base.Ns mainGlobals mg->BM mg base->ke base c T->bw l.prog w (K w.params) mg base aJ k fa fd [x] uR) :
 PySem.W.WalkO q loose XP YP l.row.toRowW d [] (λf vs=>Bt f vs):=by
 refine Att.Pz hn hdf λw s₀ s₁ mg mb fa o pm cd doc a vs ns G Y ho hd hcd hmg hobj hints hlen hg=>?_;have KX:=hY w _ Y;obtain⟨fd,hb,hF⟩:=F w mg fa _ KX G.T.g hmg;obtain⟨dd,hdd⟩:=hrec;obtain⟨C,hT⟩:=PySem.W.tab_of G.T KX hdd (htab w);have hB:BM mg s₁.heap:=by obtain⟨bm,ob,b1,b2,b3,b4,b5,b6⟩:=G.T.bmain;refine⟨bm,ob,b1,b2,λz=>?_,b3,b4,b5,b6⟩;obtain⟨o2,es,ep,e,d2,_⟩:=G.T.g;rw[z,e]at b3;cases b3;rw[d2]at b6;cases b6
 have hKa:(K w.params).lookup a=ae:=by
  cases z:(K w.params).lookup a with
  |none=>rfl
  |some o2=>
   have e:=KX a o2 z;rw[hobj]at e;cases e;exact absurd rfl (hL w a _ z)
 exact Nm hTb KX G.T.g G.T.b G.T.builtins G.T.nolimit hg hobj hints hlen hr hKa (hK w) C hT hB hF hb
end
end L2
namespace A
open PySem L2 PyProof.Rows So
open Mi (D W Rs Fin aw Out Tg)
variable[Tb:bD]
section
variable{K:aB}{M:Nat->Bool}{ta tb:TE}{a b:Mi.E}
def Ed:V->List V->Hp->VK->Prop:=λx xs H Q=>∃(p:ag) (ys:List Str) (z:Str),x=.ref p/\xs=[.str z]/\z∈ys/\H p=aa (.tup (ys.map V.str))/\Q (.int (ys.idxOf z:Nat)) H
def GK:V->List V->Hp->VK->Prop:=λx xs H Q=>∃(p:ag) (ys:List Str) (z:Str),x=.ref p/\xs=[.str z]/\z∈ys/\ys.length<=1000/\Lst H p (ys.map V.str)/\Q (.int (ys.idxOf z:Nat)) H
theorem EX{X:Cx}:nC X "tuple.index" Ed:=SM
theorem IY{X:Cx}:nC X "list.index" GK:=QS
theorem Hx(ha:AE M qP ta a)(hb:AE M qP tb b):AE M qV (F3 K "list" Ed GK ta (dY tb fg)) (Mi.m2 Mi.lE a b):=λe σ H Hv Q I h=>
 ha e σ H Hv _ I ((aw.mp h).mono λx hx v H1 Hv1 g1 rx=>by
  obtain⟨y,hy,hk⟩:=jN (aw.mp hx);cases y with
  |str z=>
   obtain⟨ys,ey,q1⟩:=iW (aw.mp hk);obtain⟨⟨hz,hl⟩,q2⟩:=Mi.cK q1;have q3:=Mi.lD q2;clear hk q1 q2 hx;cases x with
   |tup ds=>
    obtain⟨p,us,rfl,l,_,r⟩:=RD.tup g1.vw rx;have:=xj ey r;subst this;refine .inl ⟨⟨p,_,rfl,l⟩,hb e σ H1 Hv1 _ (I.grow g1) ?_⟩;rw[hy];intro v2 H2 Hv2 g2 ry;cases RD.str ry;exact⟨p,ys,z,rfl,rfl,hz,g2.old.at l,q3 _ _ _ (g1.trans g2) jo⟩
   |lst ds=>
    obtain⟨p,us,rfl,l,r⟩:=RD.lst g1.vw rx;have:=xj ey r;subst this;refine .inr ⟨.inl ⟨rfl,_,l.sq⟩,hb e σ H1 Hv1 _ (I.grow g1) ?_⟩;rw[hy];intro v2 H2 Hv2 g2 ry;cases RD.str ry;exact⟨p,ys,z,rfl,rfl,hz,hl,l.old g2.old,q3 _ _ _ (g1.trans g2) jo⟩
   |_=>cases ey
  |_=>exact hk.elim)
end
end A
namespace L2
open PySem PySem.Spec PyProof.Rows
def ExcAt(h:ay)(e T:ag)(cls fl:ah)(dc:Option ag):Prop:=∃oe vs oT ts,h.get? e=aa oe/\(oe.cls=cls/\oe.dict=dc)/\oe.data=.fields vs/\vs[1]? = aa (.ref T)/\T≠e/\h.get? T=aa oT/\oT.data=.fields ts/\ts[3]? = aa fl
def ExcNew(h:ay)(e:ag)(cls:ah)(dc:Option ag):Prop:=∃oe vs,h.get? e=aa oe/\(oe.cls=cls/\oe.dict=dc)/\oe.data=.fields vs/\vs[1]? = aa .none
structure dW(fs no:List ag)(h h':ay):Prop where
 keep:∀b o,h.get? b=aa o->b∉fs->b∉no->h'.get? b=aa o
 slot:∀b o,h.get? b=aa o->b∉no->∃sl,h'.get? b=aa { o with slots:=sl }
 there:∀b o,h.get? b=aa o->∃o',h'.get? b=aa o'
theorem dW.trans{fs no no':List ag}{h h1 h2:ay}(a:dW fs no h h1)(b:dW fs no' h1 h2):dW fs (no++no') h h2:=by
 refine⟨λx o e f n=>?_,λx o e n=>?_,λx o e=>?_⟩
 ·have n1:x∉no:=λz=>n (k4 _ z);have n2:x∉no':=λz=>n (f9 _ z);exact b.keep x o (a.keep x o e f n1) f n2
 ·have n1:x∉no:=λz=>n (k4 _ z);have n2:x∉no':=λz=>n (f9 _ z);obtain⟨sl,e1⟩:=a.slot x o e n1;obtain⟨sl2,e2⟩:=b.slot x _ e1 n2;exact⟨sl2,e2⟩
 ·obtain⟨o1,e1⟩:=a.there x o e;exact b.there x o1 e1
theorem dW.of_keeps{fs:List ag}{h h':ay}(k:∀b o,h.get? b=aa o->h'.get? b=aa o):dW fs [] h h':=⟨λb o e _ _=>k b o e,λb o e _=>⟨o.slots,k b o e⟩,λb o e=>⟨o,k b o e⟩⟩
theorem dW.more{fs no no':List ag}{h h':ay}(a:dW fs no h h')(s:∀b∈no,b∈no'):dW fs no' h h':=⟨λx o e f n=>a.keep x o e f λz=>n (s x z),λx o e n=>a.slot x o e λz=>n (s x z),a.there⟩
theorem dW.gC{fs no:List ag}{h h' base:ay}{l:List Env}(a:dW fs no h h')(hl:h.FunFrames base l)(hn:∀b∈no,∀o,h.get? b=aa o->∃vs,o.data=.fields vs):h'.FunFrames base l:=
 hl.of_keeps λb o hb hnf=>by
  obtain⟨sl,e⟩:=a.slot b o hb λz=>by
   obtain⟨vs,q⟩:=hn b z o hb;exact hnf vs q
  exact⟨_,e,rfl⟩
theorem DK(f:Array ah->Array ah)(o:Obj):(jE f o).dict=o.dict:=by obtain⟨c,d,dt,sl⟩:=o;cases dt<;>rfl
section
variable{M:kZ}{A:a7}{E:ah->ak->Prop}{s:ak}{dc:Option ag}
theorem EC{base:ay}{env:Env}{outer:List Env}{L e:ag}{oe:Obj}{vs:Array ah}{head:ah}{hadNext:Bool}{Q:Unit->ak->Prop}
 (hfr:A.frames=aa (env::outer)) (hl:s.heap.FunFrames base (env::outer)) (hf:env.frame=aa L) (he:s.heap.get? e=aa oe) (hdc:oe.dict=dc) (hd:oe.data=.fields vs) (hsz:1<vs.size)
 (h:∀h' T,s.heap.objs.size<=T->dW (frs (env::outer)) [e] s.heap h'->ExcAt h' e T oe.cls (rawInt L) dc->Q () { s with heap:=h' }) :
 wpAny M A (do let a <- frameOf env;let pl <- entryPlaceOf L hadNext;let b <- KH head a .none (rawInt L) .none pl;setField (.ref e) 1 b) Q E s:=by
 have hene:e∉(env::outer).filterMap (·.frame):=λhm=>by
  obtain⟨_,o,ho,hnf⟩:=hl.mem hm;rw[he]at ho;injection ho with ho;subst ho;exact hnf vs hd
 refine ar (wpAny_frameOf_fun hfr hl hf λh₁ hs₁=>?_);refine ar (wpAny_entryPlaceOf λpl hpl=>?_);unfold KH newFields;refine ar (Bp ?_ (hpl.sizeOk5 _ _ _ _ _));have he₁:h₁.get? e=aa oe:=(hs₁.2.1 e hene).trans he;have he₂:=br (h:=h₁) { cls:=.type "traceback", dict:=ae,data:=.fields ([head,.ref L,.none,rawInt L,.none]++(if pl.isEmpty then c8 6 dD else pl)).toArray } he₁;refine sk he₂ hd hsz (h _ h₁.objs.size (yi hs₁.1.symm) ?_ ?_)
 ·have keep:∀b o,b≠e->h₁.get? b=aa o ->
   ((h₁.push { cls:=.type "traceback", dict:=ae,data:=.fields ([head,.ref L,.none,rawInt L,.none]++(if pl.isEmpty then c8 6 dD else pl)).toArray }).update e (jE (·.setIfInBounds 1 (bB h₁.objs.size)))).get? b=aa o:=
   λb o hbe hb=>by
    rw[kg _ _ (bU hbe)];exact br _ hb
  have hd₃:=nB hd (·.setIfInBounds 1 (bB h₁.objs.size));refine⟨λb o hb n1 n2=>keep b o (λz=>n2 (by rw[z];exact dI.mpr rfl)) ((hs₁.2.1 b n1).trans hb),λb o hb n2=>?_,λb o hb=>?_⟩
  ·obtain⟨sl,q⟩:=hs₁.2.2 b o hb;exact⟨sl,keep b _ (λz=>n2 (by rw[z];exact dI.mpr rfl)) q⟩
  ·by_cases z:b=e
   ·subst z;exact⟨_,kh (jE (·.setIfInBounds 1 (bB h₁.objs.size))) he₂ (sL hd₃)⟩
   ·obtain⟨sl,q⟩:=hs₁.2.2 b o hb;exact⟨_,keep b _ z q⟩
 ·have hTe:h₁.objs.size≠e:=nA (bE he₁);have hd₃:=nB hd (·.setIfInBounds 1 (bB h₁.objs.size));have he₃:=kh (jE (·.setIfInBounds 1 (bB h₁.objs.size))) he₂ (sL hd₃);have hT₃:=(kg (h₁.push { cls:=.type "traceback", dict:=ae,data:=.fields ([head,.ref L,.none,rawInt L,.none]++(if pl.isEmpty then c8 6 dD else pl)).toArray })
   (jE (·.setIfInBounds 1 (bB h₁.objs.size))) (bU hTe)).trans (dj h₁ rfl)
  exact⟨_,_,_,_,he₃,⟨Cc _ _,(DK _ _).trans hdc⟩,hd₃,by simp[hsz],hTe,hT₃,rfl,by first|(simp;done)|(rcases hpl with rfl|⟨_,_,_,_,_,_,_,rfl⟩<;>simp)⟩
theorem Pe{base:ay}{env:Env}{outer:List Env}{L e:ag}{cls:ah}{Q:Unit->ak->Prop}
 (hfr:A.frames=aa (env::outer)) (hl:s.heap.FunFrames base (env::outer)) (hf:env.frame=aa L) (hx:ExcNew s.heap e cls dc)
 (h:∀h' T,s.heap.objs.size<=T->dW (frs (env::outer)) [e] s.heap h'->ExcAt h' e T cls (rawInt L) dc->Q () { s with heap:=h' }):wpAny M A (noteFrame (.ref e) env) Q E s:=by
 obtain⟨oe,vs,he,⟨rfl,hdc⟩,hd,h1⟩:=hx;unfold noteFrame;simp only[hf];refine ar (j8 he hd h1 ?_);rw[aG (by decide)];exact EC hfr hl hf he hdc hd (sM.mp h1).1 h
theorem Fq{base:ay}{env:Env}{outer:List Env}{L e T:ag}{cls:ah}{Q:Unit->ak->Prop}
 (hfr:A.frames=aa (env::outer)) (hl:s.heap.FunFrames base (env::outer)) (hf:env.frame=aa L) (hx:ExcAt s.heap e T cls .none dc)
 (h:∀h' T',s.heap.objs.size<=T'->dW (frs (env::outer)) [e,T] s.heap h'->ExcAt h' e T' cls (rawInt L) dc->Q () { s with heap:=h' }):wpAny M A (noteFrame (.ref e) env) Q E s:=by
 obtain⟨oe,vs,oT,ts,he,⟨rfl,hdc⟩,hd,h1,hTe,hT,hdT,h3⟩:=hx;unfold noteFrame;simp only[hf];refine ar (j8 he hd h1 ?_);rw[aF (show(bB T != dD)=true from by simp)];refine ar (j8 hT hdT h3 ?_);rw[aG (show¬ ((dD==rawInt L)=true)from by simp[rawInt])];refine ar (sk hT hdT (sM.mp h3).1 ?_);have other:∀b,b≠T->(s.heap.update T (jE (·.setIfInBounds 3 dD))).get? b=s.heap.get? b:=λb hb=>kg _ _ (bU hb);have hself:=kh (jE (·.setIfInBounds 3 dD)) hT (sL (nB hdT _));have n0:dW (frs (env::outer)) [T] s.heap (s.heap.update T (jE (·.setIfInBounds 3 dD))):=by
  refine⟨λb o q _ n=>(other b λz=>n (by rw[z];exact dI.mpr rfl)).trans q,λb o q n=>⟨o.slots,(other b λz=>n (by rw[z];exact dI.mpr rfl)).trans q⟩,λb o q=>?_⟩;by_cases z:b=T
  ·subst z;exact⟨_,hself⟩
  ·exact⟨o,(other b z).trans q⟩
 refine EC hfr (n0.gC hl λb z o q=>?_) hf ((other e (bU hTe)).trans he) hdc hd (sM.mp h1).1 λh' T' hT' n x=>h h' T' (d9 (yi (by simp[Heap.update])) hT') ((n0.trans n).more λb hb=>?_) x
 ·rw[dI.mp z,hT]at q;cases q;exact⟨ts,hdT⟩
 ·simp only[JP,bn,ki,jI]at hb ⊢;exact hb.symm
theorem xA{e T:ag}{cls fl:ah}{Q:Unit->ak->Prop}(hx:ExcAt s.heap e T cls fl dc)(h:∀h',dW [] [T] s.heap h'->s.heap.objs.size=h'.objs.size->ExcAt h' e T cls .none dc->Q () { s with heap:=h' }):wpAny M A (setFlight (.ref e) ae) Q E s:=by
 obtain⟨oe,vs,oT,ts,he,hc,hd,h1,hTe,hT,hdT,h3⟩:=hx;have hsz3:3<ts.size:=(sM.mp h3).1;have other:∀b,b≠T->(s.heap.update T (jE (·.setIfInBounds 3 ((ae:Option ag).elim dD λf=>rawInt f)))).get? b=s.heap.get? b:=λb hb=>kg _ _ (bU hb);have hself:=kh (jE (·.setIfInBounds 3 ((ae:Option ag).elim dD λf=>rawInt f))) hT (sL (nB hdT _));unfold setFlight;refine ar (j8 he hd h1 ?_);rw[aF (show(bB T != dD)=true from by simp)];refine sk hT hdT hsz3 (h _ ?_ (by simp[Heap.update]) ?_)
 ·refine⟨λb o q _ n=>(other b λz=>n (by rw[z];exact dI.mpr rfl)).trans q,λb o q n=>⟨o.slots,(other b λz=>n (by rw[z];exact dI.mpr rfl)).trans q⟩,λb o q=>?_⟩;by_cases z:b=T
  ·subst z;exact⟨_,hself⟩
  ·exact⟨o,(other b z).trans q⟩
 ·exact⟨oe,vs,_,_,(other e (bU hTe)).trans he,hc,hd,h1,hTe,hself,nB hdT _,by simp[hsz3]⟩
theorem GV{base:ay}{env:Env}{outer:List Env}{L e:ag}{cls:ah}{Q:Unit->ak->Prop}
 (hfr:A.frames=aa (env::outer)) (hl:s.heap.FunFrames base (env::outer)) (hf:env.frame=aa L) (hx:ExcNew s.heap e cls dc)
 (h:∀h' T,s.heap.objs.size<=T->dW (frs (env::outer)) [e,T] s.heap h'->ExcAt h' e T cls .none dc->Q () { s with heap:=h' }):wpAny M A (leaving env (.ref e)) Q E s:=by
 unfold leaving;refine ar (Pe hfr hl hf hx λh1 T hT n x=>?_);refine xA x λh2 n2 _ x2=>h h2 T hT ((n.trans (no':=[T]) ⟨λb o q _=>n2.keep b o q (by simp),n2.slot,n2.there⟩).more λb hb=>by simpa using hb) x2
theorem Q1{base:ay}{env:Env}{outer:List Env}{L e T:ag}{cls:ah}{Q:Unit->ak->Prop}
 (hfr:A.frames=aa (env::outer)) (hl:s.heap.FunFrames base (env::outer)) (hf:env.frame=aa L) (hx:ExcAt s.heap e T cls .none dc)
 (h:∀h' T',s.heap.objs.size<=T'->dW (frs (env::outer)) [e,T,T'] s.heap h'->ExcAt h' e T' cls .none dc->Q () { s with heap:=h' }):wpAny M A (leaving env (.ref e)) Q E s:=by
 unfold leaving;refine ar (Fq hfr hl hf hx λh1 T' hT n x=>?_);refine xA x λh2 n2 _ x2=>h h2 T' hT ((n.trans (no':=[T']) ⟨λb o q _=>n2.keep b o q (by simp),n2.slot,n2.there⟩).more λb hb=>by simpa [or_assoc]using hb) x2
end
def cH(P:aW)(w:aQ):fR:=λouter H s E e s'=>
 ∃ea T C H' dc,e=.ref ea/\s'.os=s.os/\l5 s'.gens/\Un (frs outer) [] H H' s.heap s'.heap/\bY P w H' s'.heap/\s.heap.get? ea=ae/\s.heap.get? T=ae/\H' ea=ae/\H' T=ae/\ExcAt s'.heap ea T (.ref C) .none dc/\E (.ref C) dc H'
theorem bI.there{P:aW}{w:aQ}{H:Hp}{h:ay}{a:ag}{o:HO}(x:bI P w H h a o):∃ob,h.get? a=aa ob:=by
 have hlt:=x.stay (h':=h) (H':=H) (λ_ _ _ q=>q) (λ_ q=>q) λ_ _ q=>q;cases o with
 |lst xs=>obtain⟨z,am,n,r,e⟩:=x;exact⟨_,e⟩
 |tup xs=>obtain⟨z,am,r,ob,e,c⟩:=x;exact⟨_,e⟩
 |dK ao=>obtain⟨_,_,_,_,ob,es,ep,e,c⟩:=x;exact⟨_,e⟩
 |dT ao=>obtain⟨_,_,_,_,ob,es,ep,e,c⟩:=x;exact⟨_,e⟩
 |set S n=>obtain⟨ob,es,ep,t,e,c⟩:=x;exact⟨_,e⟩
 |ins C dx fs=>obtain⟨d,z,ne,e,_⟩:=x;exact⟨_,e⟩
 |own y=>exact x
 |xd fs=>obtain⟨mA,⟨od,es,ep,e,c⟩,r⟩:=x;exact⟨_,e⟩
 |rng lo hi=>obtain⟨t,u,v,e⟩:=x;exact⟨_,e⟩
 |frz ob u=>exact⟨_,x.1⟩
 |tbl w ps=>exact⟨_,x⟩
 |met f y=>exact⟨_,x⟩
 |ext φ=>exact x.2.1
theorem bY.none_of{P:aW}{w:aQ}{H:Hp}{h:ay}(k:bY P w H h){a:ag}(e:h.get? a=ae):H a=ae:=by
 cases q:H a with
 |none=>rfl
 |some o=>
  obtain⟨ob,z⟩:=(k a o q).there;rw[e]at z;cases z
section
variable{CX:fR}{P:aW}{w:aQ}{K:aB}{mg:Str->Option ah}{base:ay}{N:List Str}{qual:Str}{scope:dM}{f:ag}{cd:ah}{A:a7}{outer:List Env}{s:ak}{H:Hp}{E:XK}
theorem Bg{af:List (ag×Obj)}{σ:St}{H1:Hp}{s1:ak}{h2:ay}{no:List ag}(I:Inv (cZ CX P w K mg base N qual scope f cd A outer s H E) af σ H1 s1)
 (n:dW (frs (envOfC qual scope s.heap.objs.size f cd::outer)) no s1.heap h2) (hn:∀b∈no,s.heap.get? b=ae/\H1 b=ae):Un (frs outer) [] H H1 s.heap h2/\bY P w H1 h2:=by
 have B:Un (frs outer) [] H H1 s.heap s1.heap:=I.base;have hL:∀b o,s.heap.get? b=aa o->b∉frs outer->b∉frs (envOfC qual scope s.heap.objs.size f cd::outer):=λb o e nf z=>by
  have hz:frs (envOfC qual scope s.heap.objs.size f cd::outer)=s.heap.objs.size::frs outer:=rfl;rw[hz]at z;rcases bn.mp z with q|q
  ·have:=bE e;rw[q]at this;exact absurd this (kj _)
  ·exact nf q
 have hno:∀b o,s.heap.get? b=aa o->b∉no:=λb o e z=>by rw[(hn b z).1]at e;cases e
 refine⟨⟨λb o e z nf nx=>n.keep b o (B.keep b o e z nf nx) (hL b o e nf) (hno b o e),λb o e z nf nx=>?_,B.free,λb o e nx=>?_,B.tups,B.iS,B.iT⟩,λa o e=>?_⟩
 ·obtain⟨sl,q⟩:=B.slot b o e z nf nx;obtain⟨sl2,q2⟩:=n.slot b _ q (hno b o e);exact⟨sl2,q2⟩
 ·obtain⟨o1,q⟩:=B.there b o e nx;exact n.there b o1 q
 ·have hok:bY P w H1 s1.heap:=I.hok;refine(hok a o e).stay (λb u hb q=>?_) (λ_ q=>q) λ_ _ q=>q;have tr:∃ob,H1 b=aa ob:=by
   rcases hb with rfl|hb
   ·exact⟨_,e⟩
   ·exact⟨_,hb⟩
  obtain⟨ob,tr⟩:=tr;refine n.keep b u q (λz=>?_) λz=>?_
  ·have:=I.tY b z;rw[tr]at this;cases this
  ·rw[(hn b z).2]at tr;cases tr
theorem Rq{af:List (ag×Obj)}{σ:St}{H1:Hp}{s1:ak}{h1:ay}{e C:ag}{vs:List ah}(I:Inv (cZ (cH P w) P w K mg base N qual scope f cd A outer s H E) af σ H1 s1)
 (m:BE s1.heap h1 e (.ref C) vs) (q:E (.ref C) ae H1):(cZ (cH P w) P w K mg base N qual scope f cd A outer s H E).xe (.ref e) { s1 with heap:=h1 }:=by
 have hfr:=I.ok.frames;have hl:s1.heap.FunFrames base (envOfC qual scope s.heap.objs.size f cd::outer):=I.stack;have nk:dW (frs (envOfC qual scope s.heap.objs.size f cd::outer)) [] s1.heap h1:=.of_keeps m.keeps;have x:ExcNew h1 e (.ref C) ae:=by obtain⟨t,he,_⟩:=m.there;exact⟨_,_,he,⟨rfl,rfl⟩,rfl,rfl⟩
 have B:Un (frs outer) [] H H1 s.heap s1.heap:=I.base;have new:∀{b:ag},s1.heap.get? b=ae->s.heap.get? b=ae/\H1 b=ae:=λ{b} z=>by
  refine⟨?_,I.hok.none_of z⟩;cases q:s.heap.get? b with
  |none=>rfl
  |some o=>
   obtain⟨o',z2⟩:=B.there b o q (by simp);rw[z]at z2;cases z2
 refine GV (base:=base) (s:={ s1 with heap:=h1 }) hfr (nk.gC hl λb z=>absurd z (by simp)) rfl x λh2 T hT n2 x2=>?_;have hTn:s1.heap.get? T=ae:=by
  cases q2:s1.heap.get? T with
  |none=>rfl
  |some o=>exact absurd (bE (m.keeps T o q2)) (qp.mpr hT)
 have nn:∀b∈[]++[e,T],s.heap.get? b=ae/\H1 b=ae:=λb hb=>by
  simp only[sH,bn,ki,jI]at hb;rcases hb with rfl|rfl
  ·exact new m.new
  ·exact new hTn
 obtain⟨u1,u2⟩:=Bg I (nk.trans n2) nn;exact⟨e,T,C,H1,ae,rfl,I.os,I.bare,u1,u2,(nn e (by simp)).1,(nn T (by simp)).1,(nn e (by simp)).2,(nn T (by simp)).2,x2,q⟩
theorem vO:uN (cH P w) (cZ (cH P w) P w K mg base N qual scope f cd A outer s H E) E:=by
 rintro af σ H1 s1 e s2 I ⟨ea,T,C,H2,dc,rfl,os2,KS,un2,ok2,n1,n2,n3,n4,x,q⟩;have Tj:Un (frs (envOfC qual scope s.heap.objs.size f cd::outer)) [] H1 H2 s1.heap s2.heap:=un2;have I2:Inv (cZ (cH P w) P w K mg base N qual scope f cd A outer s H E) af σ H2 s2:=I.call' os2 (ch:=[]) un2 ok2 KS (λb z=>absurd z (by simp));have hfr:=I2.ok.frames;have hl:s2.heap.FunFrames base (envOfC qual scope s.heap.objs.size f cd::outer):=I2.stack;have B:Un (frs outer) [] H H1 s.heap s1.heap:=I.base;have old:∀{b:ag},s1.heap.get? b=ae->s.heap.get? b=ae:=λ{b} z=>by
  cases q:s.heap.get? b with
  |none=>rfl
  |some o=>
   obtain⟨o',z2⟩:=B.there b o q (by simp);rw[z]at z2;cases z2
 refine Q1 (base:=base) (s:=s2) hfr hl rfl x λh3 T' hT' n x3=>?_;have hTn:s2.heap.get? T'=ae:=by
  cases q2:s2.heap.get? T' with
  |none=>rfl
  |some o=>exact absurd (bE q2) (qp.mpr hT')
 have hTs:s1.heap.get? T'=ae:=by
  cases q2:s1.heap.get? T' with
  |none=>rfl
  |some o=>
   obtain⟨o',z2⟩:=Tj.there T' o q2 (by simp);rw[hTn]at z2;cases z2
 have nn:∀b∈[ea,T,T'],s.heap.get? b=ae/\H2 b=ae:=λb hb=>by
  simp only[bn,ki,jI]at hb;rcases hb with rfl|rfl|rfl
  ·exact⟨old n1,n3⟩
  ·exact⟨old n2,n4⟩
  ·exact⟨old hTs,ok2.none_of hTn⟩
 obtain⟨u1,u2⟩:=Bg I2 n nn;exact⟨ea,T',C,H2,dc,rfl,I2.os,KS,u1,u2,(nn ea (by simp)).1,(nn T' (by simp)).1,(nn ea (by simp)).2,(nn T' (by simp)).2,x3,q⟩
theorem A9:PassesOwn (model P w) (cZ CX P w K mg base N qual scope f cd A outer s H E).A (cZ CX P w K mg base N qual scope f cd A outer s H E).env (cZ CX P w K mg base N qual scope f cd A outer s H E).xe:=λe s' h=>
 wpAny_leaving_again (SameStack.refl _) h
end
def FP(X:Cx)(e:aO)(ok:St->Hp->Prop):Prop:=∀(af:List (ag×Obj)) (s:ak) (σ:St) (H:Hp),Inv X af σ H s->ok σ H ->
 wpAny (model X.prog X.w) X.A (eval e X.env) (λv s1=>∃y t,v=.str y t/\y.length<=100000/\Inv X af σ H s1) X.xe s
section
variable{X:Cx}
theorem lI{x:Str}{j pos}(h:x.length<=100000):FP X (.Constant (.str x) j pos) λ_ _=>True:=λaf s σ H I _=>
 e5 (jt (X:=X) af s σ H (λv H'=>v=.str x/\H'=H) I ⟨rfl,rfl⟩) (λv s1 ⟨v',H',I',r,e1,e2⟩=>by
  subst e1 e2;obtain⟨t,rfl⟩:=r;exact⟨x,t,rfl,h,I'⟩) λ_ _ z=>z
theorem qZ{e:aO}{te:TE}{pos:Pos}(he:PE X e te):FP X (.FormattedValue e 114 ae pos) λσ H=>te σ H λv H'=>H'=H/\∃z:Str,v=.str z/\(xF z).length<=100000:=λaf s σ H I h=>by
 refine Jl (aM (he af s σ H _ I h) λv s1 ⟨v',H',I',r,e2,z,e1,hz⟩=>?_);subst e1 e2;obtain⟨t,rfl⟩:=r;have hz':(reprText z).length<=sizeLine:=by rw[cD];omega
 refine wpAny_pyReprObj_str ?_ hz';exact wpAny_formatField_str ⟨_,_,rfl,hz,I'.tok _⟩ ⟨_,_,rfl,hz,(I'.tok _).tok _⟩ hz'
theorem MQ{e:aO}{te:TE}{pos:Pos}(he:PE X e te):FP X (.FormattedValue e (-1) ae pos) λσ H=>te σ H λv H'=>H'=H/\∃i:Int,v=.int i/\i.natAbs.log2<1920/\(kA (toString i)).length<=100000:=λaf s σ H I h=>by
 refine wpAny_FormattedValue_plain (aM (he af s σ H _ I h) λv s1 ⟨v',H',I',r,e2,i,e1,hd,hz⟩=>?_);subst e1 e2;obtain⟨t,rfl⟩:=r;exact wpAny_formatField_int hd ⟨_,_,rfl,hz,I'.tok _⟩
def rp(X:Cx):List aO->List (St->Hp->Prop)->Prop
 |[],[]=>True
 |e::es,p::ps=>FP X e p/\rp X es ps
 |_,_=>False
theorem Hu{af:List (ag×Obj)}{σ:St}{H:Hp}{Q:Str->ak->Prop}:∀(es:List aO) (ps:List (St->Hp->Prop)) (acc:Str) (s:ak),rp X es ps->(∀p∈ps,p σ H)->acc.length+100000*es.length<=sizeLine->Inv X af σ H s ->
 (∀z s',z.length<=sizeLine->Inv X af σ H s'->Q z s')->Joins (model X.prog X.w) X.A X.xe (evalEach es X.env) acc Q s
 |[],[],acc,s,_,_,hl,I,q=>q acc s (by simp at hl;exact hl) I
 |[],_::_,_,_,f,_,_,_,_=>f.elim
 |_::_,[],_,_,f,_,_,_,_=>f.elim
 |e::es,p::ps,acc,s,f,hp,hl,I,q=>by
  refine e5 (f.1 af s σ H I (hp p b8)) (λv s1 ⟨y,t,ev,hy,I1⟩=>?_) λ_ _ z=>z;rw[dq]at hl;have ha:(acc++y).length<=acc.length+100000:=by rw[xJ];omega
  exact⟨y,t,ev,by omega,Hu es ps (acc++y) s1 f.2 (λp' h'=>hp p' (cy _ h')) (by omega) I1 q⟩
theorem pW{e1 e2:aO}{es:List aO}{ps:List (St->Hp->Prop)}{pos:Pos}(f:rp X (e1::e2::es) ps)(hl:(e1::e2::es).length<=100):PE X (.JoinedStr (e1::e2::es) pos) (λσ H Q=>(∀p∈ps,p σ H)/\∀z:Str,z.length<=sizeLine->Q (.str z) H):=λaf s σ H Q I h=>
 wpAny_JoinedStr (Hu _ ps e6 s f h.1 (by rw[cD];have:e6.length=0:=rfl;omega) I λz s' hz I'=>⟨hz,.str z,H,I'.tok _,⟨_,rfl⟩,h.2 z hz⟩)
end
section
variable{P:aW}{w:aQ}{K:aB}{mg:Str->Option ah}{base:ay}{N:List Str}{qual:Str}{scope:dM}{f:ag}{cd:ah}{A:a7}{outer:List Env}{s:ak}{H:Hp}{E:XK}
theorem rW{x:Str}{C:ag}{bm:List ah}{B newId initId:String}{e:aO}{te:TE}{np cpos pos:Pos}(FB:oo B newId initId bm)(O:OwnCls x C bm newId mg base)
 (he:PE (cZ (cH P w) P w K mg base N qual scope f cd A outer s H E) e te) (hg:Gl (cZ (cH P w) P w K mg base N qual scope f cd A outer s H E) x) (hd:(x==("__debug__" : Str))=false:=by decide)
 (hs:starEach [e] (cZ (cH P w) P w K mg base N qual scope f cd A outer s H E).env=(false,eval e (cZ (cH P w) P w K mg base N qual scope f cd A outer s H E).env)::starEach [] (cZ (cH P w) P w K mg base N qual scope f cd A outer s H E).env:=by rfl) :
 PS (cZ (cH P w) P w K mg base N qual scope f cd A outer s H E) (.Raise (aa (.Call (.Name x np) [e] [] cpos)) ae pos) (λ_ σ H1=>te σ H1 λ_ H2=>E (.ref C) ae H2):=by
 intro af s1 σ H1 D I h;obtain⟨tl,N',nm,q,bs,hdct,sn,sub,ab,col,dd,k0,k1,k2,k3,k5,mN,hC,hN,hni,T⟩:=O.obj;refine wpAny_Raise_call_subT (C:=C) (nm:=nm) (q:=q) (N:=N') (bs:=bs) (bm:=tl) (hdct:=hdct) (sn:=sn) (sub:=sub) (ab:=ab) (col:=col) (dd:=dd) (k0:=k0) (k1:=k1) (k2:=k2) (k3:=k3) (k5:=k5)
  FB (mN:=mN) (T.hasType FB.hasBase) (I.ok.hd rfl) (by rw[hs];rfl) hni (nO I hg O.bound ⟨rfl,?_⟩ hd)
 rw[hs];refine vh (vi (aM (he af s1 σ H1 _ I h) λv s2 ⟨v',H2,I2,r,q2⟩=>yv ?_));exact⟨rfl,by rw[cD];simp,I2.bk _ _ hC,hN.keeps I2.bk,T.keeps I2.bk,λh' e' m=>Rq I2 m q2⟩
end
end L2
namespace Mi
open PySem
def dw{α:Type}(r:Rs α)(k:α->Prop)(x:di->Prop):Prop:=match r with
 |.ok a=>k a
 |.ex z=>x z
 |.no=>False
theorem fY{α β:Type}{r:Rs α}{f:α->Rs β}{k:β->Prop}{x:di->Prop}:dw (r.bind f) k x↔dw r (λa=>dw (f a) k x) x:=by cases r<;>exact Iff.rfl
theorem dw.mono{α:Type}{r:Rs α}{k k':α->Prop}{x x':di->Prop}(h:dw r k x)(m:∀a,k a->k' a)(n:∀z,x z->x' z):dw r k' x':=by
 cases r with
 |ok a=>exact m a h
 |ex z=>exact n z h
 |no=>exact h
theorem dw.fin{α:Type}{r:Rs α}{k:α->Prop}{x:di->Prop}(h:dw r k x)(hn:∀z,r≠.ex z):Fin r k:=by
 cases r with
 |ok a=>exact h
 |ex z=>exact absurd rfl (hn z)
 |no=>exact h
theorem IK{α:Type}{c:Prop}[Decidable c]{r:Rs α}{k:α->Prop}{x:di->Prop}(h:dw (ba c r) k x):c/\dw r k x:=by
 unfold ba at h;split at h
 ·exact⟨‹_›,h⟩
 ·exact h.elim
theorem QN{α:Type}{r s:Rs α}{k:α->Prop}{x:di->Prop}(h:dw (if true=true then r else s) k x):dw r k x:=by simpa using h
theorem NF{α:Type}{r s:Rs α}{k:α->Prop}{x:di->Prop}(h:dw (if false=true then r else s) k x):dw s k x:=by simpa using h
def still{α:Type}:Rs α->Rs α
 |.ex _=>.no
 |r=>r
theorem qA{α:Type}{r:Rs α}{k:α->Prop}{x:di->Prop}(h:dw (still r) k x):Fin r k:=by cases r<;>exact h
theorem nU{α:Type}{r:Rs α}{a:α}(h:r=.ok a):still r=.ok a:=by rw[h];rfl
def sP(m:S):S:=λe=>still (m e)
def cP(c:C):C:=λe=>still (c e)
def iP(it:I):I:=λe=>still (it e)
theorem Oq:∀(tg:Tg) (x:D) (e:Env) (z:di),tg.put x e≠.ex z:=by
 have key:∀(is:List Nat) (ds:List D) (e:Env) (z:di),mj is ds e≠.ex z:=λis=>by
  induction is with
  |nil=>intro ds e z h;cases ds<;>cases h
  |cons i r ih=>
   intro ds e z h;cases ds with
   |nil=>cases h
   |cons d t=>exact ih t _ z h
 intro tg x e z h;cases tg with
 |n i=>cases h
 | t is=>cases x with
  |tup ds=>exact key is ds e z h
  |_=>cases h
def fM(cls:String)(gs:List (Env->Bool)):S:=λe=>if(gs.all λg=>g e)=true then .ex ⟨cls,[]⟩else .no
def gR(i:Nat):Env->Bool:=λe=>match e[i]? with
 |some (aa (.d (.str z)))=>decide ((xF z).length<=100000)
 |_=>false
def gW(f:Fn)(ws:List EW):S:=λe=>(still (cO ws e)).bind λvs=>(f vs).bind λ_=>.ok (.nx e)
end Mi
namespace A
open PySem L2 PyProof.Rows So
open Mi (D W Rs Fin dw aw fY Out Tg di)
variable[Tb:bD]
def As(z:di)(H' Hv':Hp)(dc:Option ag):Prop:=match z.val with
 |[]=>True
 |d::_=>∃dx u,dc=aa dx/\H' dx=aa (.xd [("ring",u)])/\Hv' dx=aa (.xd [("ring", u)])/\Rep Hv' d u
def wish(cl:String->ag)(E:XK):di->Hp->Hp->Prop:=λz H' Hv'=>∀dc,As z H' Hv' dc->E (.ref (cl z.cls)) dc H'
def jv(M:Nat->Bool)(κ:Kd)(x:di->Hp->Hp->Prop)(t:TS)(m:Mi.S):Prop:=∀H0 Hv0 e σ H Hv D,R1 M H0 Hv0 e σ H Hv->dw (m e) (i8 M κ H0 Hv0 D Hv) (λz=>∀H' Hv',bt H0 Hv0 H' Hv'->x z H' Hv')->t D σ H
section
variable{M:Nat->Bool}{κ:Kd}{x:di->Hp->Hp->Prop}{t u:TS}{m n:Mi.S}{cl:String->ag}{E:XK}
theorem gK(h:AS M κ t m):jv M κ x t (Mi.sP m):=λH0 Hv0 e σ H Hv D I f=>h H0 Hv0 e σ H Hv D I (Mi.qA f)
theorem ie(h1:jv M κ x t m)(h2:jv M κ x u n):jv M κ x (Bn t u) (Mi.aA m n):=λH0 Hv0 e σ H Hv D I h=>
 h1 H0 Hv0 e σ H Hv _ I ((fY.mp h).mono (λo ho=>by
  cases o with
  |nx e'=>exactλσ' H' Hv' I' s=>h2 H0 Hv0 e' σ' H' Hv' D I' (dw.mono ho (λo z=>z.up s) λ_ z=>z)
  |rt w=>exact ho
  |bk e'=>exact ho
  |ct e'=>exact ho) λ_ z=>z)
theorem oG{tt:TT}{c:Mi.C}(hc:AT M tt c)(h1:jv M κ x t m)(h2:jv M κ x u n):jv M κ x (zo tt t u) (Mi.a9 (Mi.cP c) m n):=λH0 Hv0 e σ H Hv D I h=>
 hc e σ H Hv _ I.toR0 ((Mi.qA (fY.mp h)).mono λb hb H1 Hv1 g1=>by
  cases b with
  |true=>exact mB (h1 H0 Hv0 e σ H1 Hv1 D (I.grow g1) ((Mi.QN hb).mono (λo z=>z.up g1.vis) λ_ z=>z))
  |false=>exact mv (h2 H0 Hv0 e σ H1 Hv1 D (I.grow g1) ((Mi.NF hb).mono (λo z=>z.up g1.vis) λ_ z=>z)))
theorem zf{K:aB}{wi:TI}{it:Mi.I}{tg:Tg}(hi:iB M wi it)(hm:∀i∈t8 tg,M i=false)(hb:jv M κ x t m):jv M κ x (zd wi (xc K tg) t) (Mi.eM (Mi.iP it) tg m):=λH0 Hv0 e σ H Hv D I h=>
 hi e σ H Hv _ I.toR0 ((Mi.qA (fY.mp h)).mono λds h1 J H1 Hv1 P g1 O p1 per=>by
  refine⟨λi k σ' H'=>k=ds.length-i/\i<=ds.length/\∃e' Hv',R1 M H0 Hv0 e' σ' H' Hv'/\P H' Hv'/\dw (Mi.dB tg m (ds.drop i) e') (i8 M κ H0 Hv0 D Hv') (λz=>∀H' Hv',bt H0 Hv0 H' Hv'->x z H' Hv'),
   ⟨ds.length,by simp,ft _,e,Hv1,I.grow g1,p1,by rw[sI];exact h1.mono (λo z=>z.up g1.vis) λ_ z=>z⟩,?_⟩
  rintro i k σ' H' ⟨rfl,hle,e',Hv',I',pp,hf⟩;by_cases hlt:i<ds.length
  ·refine .inr ⟨O.go i H' Hv' pp I'.vw hlt,λσ2 H2=>∃e2 Hv2,R1 M H0 Hv0 e2 σ2 H2 Hv2/\P H2 Hv2/\dw (Mi.dB tg m (ds.drop (i+1)) e2) (i8 M κ H0 Hv0 D Hv2) (λz=>∀H' Hv',bt H0 Hv0 H' Hv'->x z H' Hv'),
    λσ2 H2 z=>⟨ds.length-(i+1),by omega,rfl,hlt,z⟩,λy H2 q=>?_⟩
   obtain⟨Hv2,d,g2,hd,rx⟩:=O.yld i H' Hv' y H2 pp I'.vw hlt q;have I2:=I'.grow g2;have hdr:ds.drop i=d::ds.drop (i+1):=by obtain⟨hl,e1⟩:=dm.mp hd;rw[ni hl,e1]
   rw[hdr]at hf;refine yR (P:=λe1 σ1=>R1 M H0 Hv0 e1 σ1 H2 Hv2) g2.vw (λj hj e1 σ1 d1 v1 r1 z=>r1.set (hm j hj) z) I2 rx (((fY.mp hf).fin (Mi.Oq tg d e')).mono λe1 h1 σ1 I1=>?_);refine hb H0 Hv0 e1 σ1 H2 Hv2 _ I1 ((fY.mp h1).mono (λo ho=>?_) λ_ z=>z);cases o with
   |nx e2=>exactλσ2 H3 Hv3 I3 s3=>⟨e2,Hv3,I3,per _ _ _ _ pp (g2.vis.trans s3) I3.vw,dw.mono ho (λo z=>z.up (g2.vis.trans s3)) λ_ z=>z⟩
   |ct e2=>exactλσ2 H3 Hv3 I3 s3=>⟨e2,Hv3,I3,per _ _ _ _ pp (g2.vis.trans s3) I3.vw,dw.mono ho (λo z=>z.up (g2.vis.trans s3)) λ_ z=>z⟩
   |bk e2=>exactλσ2 H3 Hv3 I3 s3=>ho σ2 H3 Hv3 I3 (g2.vis.trans s3)
   |rt w=>exact ho
  ·have hi:i=ds.length:=by omega
   subst hi;refine .inl ⟨O.stop H' Hv' pp I'.vw,?_⟩;rw[uZ (bu _)]at hf;exact hf σ' H' Hv' I' (cV.refl _))
def iU(cl:String->ag)(f:Mi.Fn):Sp:=λvs H Q E=>∃Hv ws,Vw H Hv/\P2 (gv Hv) ws vs/\dw (f ws) (λw=>∀v H' Hv',bt H Hv H' Hv'->qV H H' Hv' w v->Q v H') (λz=>∀H' Hv',bt H Hv H' Hv'->wish cl E z H' Hv')
theorem wB{f:Mi.Fn}{ws:List Mi.EW}{tr:TA}(ha:AAW M qV tr (Mi.cO ws)):jv M κ (wish cl E) (tF (lK (iU cl f) [] E tr)) (Mi.gW f ws):=λH0 Hv0 e σ H Hv D I h=>
 ha e σ H Hv _ I.toR0 ((Mi.qA (fY.mp h)).mono λds hx vs H1 Hv1 g1 rx=>by
  rw[iN];refine⟨Hv1,ds,g1.vw,rx,(fY.mp hx).mono (λw hw v H3 Hv3 g3 r=>?_) λz hz H3 Hv3 g3=>?_⟩
  ·exact hw σ H3 Hv3 (I.grow (g1.trans g3)) (g1.trans g3).vis
  ·exact hz H3 Hv3 (I.gw.trans (g1.trans g3)))
def PG(M:Nat->Bool)(g:Mi.Env->Bool)(p:L2.St->Hp->Prop):Prop:=∀e σ H Hv,R0 M e σ H Hv->g e=true->p σ H
theorem mO:PG M (λ_=>true) (λ_ _=>True):=λ_ _ _ _ _ _=>trivial
theorem qT(i:Nat)(hm:M i=false):PG M (Mi.gR i) (λσ H=>eZ i σ H λv H'=>H'=H/\∃z:Str,v=.str z/\(xF z).length<=100000):=λe σ H Hv I h=>by
 unfold Mi.gR at h;split at h
 ·rename_i z hz;obtain⟨v,hv,r⟩:=I.nob i _ hz hm;have r:v=.str z:=(og (H:=Hv)).mp r;subst r;exact⟨_,hv,rfl,z,rfl,wt h⟩
 ·cases h
def jR(M:Nat->Bool):List (Mi.Env->Bool)->List (L2.St->Hp->Prop)->Prop
 |[],[]=>True
 |g::gs,p::ps=>PG M g p/\jR M gs ps
 |_,_=>False
theorem EU:∀{gs:List (Mi.Env->Bool)} {ps:List (L2.St->Hp->Prop)},jR M gs ps->∀{e σ H Hv},R0 M e σ H Hv->(gs.all λg=>g e)=true->∀p∈ps,p σ H
 |[],[],_,_,_,_,_,_,_,p,hp=>by cases hp
 |[],_::_,f,_,_,_,_,_,_,_,_=>f.elim
 |_::_,[],f,_,_,_,_,_,_,_,_=>f.elim
 |g::gs,p::ps,f,e,σ,H,Hv,I,h,q,hq=>by
  rw[ya,lY]at h;rcases bn.mp hq with rfl|hq
  ·exact f.1 e σ H Hv I h.1
  ·exact EU f.2 I h.2 q hq
theorem rD{cls:String}{gs:List (Mi.Env->Bool)}{ps:List (L2.St->Hp->Prop)}(hp:jR M gs ps):jv M κ (wish cl E) (λ_ σ H1=>((∀p∈ps,p σ H1)/\∀z:Str,z.length<=sizeLine->E (.ref (cl cls)) ae H1)) (Mi.fM cls gs):=λH0 Hv0 e σ H Hv D I h=>by
 unfold Mi.fM at h;split at h
 ·rename_i hg;exact⟨EU hp I.toR0 hg,λz _=>h H Hv I.gw ae trivial⟩
 ·exact h.elim
theorem tH{f:Mi.S}{k n:Nat}{vs:List V}{H:Hp}{Q:VK}{E:XK}(h:iU cl (Mi.dF k n f) vs H Q E):vs.length=k:=by obtain⟨Hv,ws,_,p,q⟩:=h;rw[<- p.len];exact(Mi.IK q).1
theorem uE{N:List Str}{k:Nat}{vs:List V}{H:Hp}{Q:VK}(hA:jv M qV (wish cl E) t m)(hM:∀i,i<k->M i=false)(h:iU cl (Mi.dF k N.length m) vs H Q E):t { nx:=λ_ H'=>Q .non H',rt:=Q } (start N vs) H:=by
 obtain⟨Hv,ws,vw,p,q⟩:=h;obtain⟨hk,q⟩:=Mi.IK q;refine hA H Hv _ _ H Hv _ (zl vw p hk hM) ((fY.mp q).mono (λo ho=>?_) λz hz=>hz);cases o with
 |nx e=>exactλσ H' Hv' I s=>ho _ H' Hv' I.gw Ac
 |rt w=>exactλv H' Hv' g r=>ho v H' Hv' g r
 |bk e=>exact ho.elim
 |ct e=>exact ho.elim
end
theorem _root_.L2.bN.ua{P:aW}{w:aQ}{K:aB}{mg:Str->Option ah}{base:ay}{x qual:Str}{st:bj}{f:ag}{fd:bA}{N ps:List Str}{k:Nat}{sp:Sp}(F:bN K x qual st f fd)(S:cM N ps (bC st))(len:∀vs H Q E,sp vs H Q E->vs.length=ps.length)
 (hbody:∀(cdv:ah) (A:a7) (outer:List Env) (s:ak) (H:Hp) (vs:List V) (Q:VK) (E:XK),cA k (A.deeper (envOfC qual (bC st) s.heap.objs.size f cdv))->sp vs H Q E ->
  ∃t,fv (cZ (cH P w) P w K mg base N qual (bC st) f cdv A outer s H E) (gL st) t/\t { nx:=λ_ H'=>Q .non H',rt:=Q } (start N vs) H):bw P w K mg base (cH P w) (k+1) f fd ps sp:=by
 obtain⟨oc,od,kV,doc,pm,an,cdv,ct,osl,rfl,lk,hcd⟩:=F.ex;exact AQ lk hcd S len λA outer s H vs Q E hr hsp=>hbody cdv A outer s H vs Q E hr hsp
end A
namespace L2
open PySem PySem.Spec PyProof.Rows
abbrev XF:=ag->Option ag->ag->St->Hp->Prop
abbrev mE:=Ends->XF->St->Hp->Prop
def XP(X:Cx)(af:List (ag×Obj))(F:XF)(e:ah)(s':ak):Prop:=∃σ H1 s1,Inv X af σ H1 s1/\cH X.prog X.w X.stack H1 s1 (λc dc H2=>∃C,c=.ref C/\∀ea,H2 ea=ae->F C dc ea σ H2) e s'
def G7(X:Cx)(st:bj)(t:mE):Prop:=∀(af:List (ag×Obj)) (s:ak) (σ:St) (H:Hp) (D:Ends) (F:XF),Inv X af σ H s->t D F σ H->wpAny (model X.prog X.w) X.A (exec st X.env) (SP X af D) (XP X af F) s
def Gn(X:Cx)(st:List bj)(t:mE):Prop:=∀(af:List (ag×Obj)) (s:ak) (σ:St) (H:Hp) (D:Ends) (F:XF),Inv X af σ H s->t D F σ H->wpAny (model X.prog X.w) X.A (execs st X.env) (SP X af D) (XP X af F) s
section
variable{X:Cx}{st:bj}{t u:mE}
theorem O3(h:G7 X st t):Gn X [st] t:=by
 intro af s σ H D F I q;refine Bq (e5 (h af s σ H D F I q) (λf s1 q=>?_) λ_ _ z=>z);cases f with
 |next=>exact sg q
 |ret v=>exact q
 |brk=>exact q
 |cont=>exact q
end
def Cx.md(X:Cx)(e:ah):Cx:={ X with A:=X.A.mark (aa e),calm:=false,xe:=λ_ _=>False }
section
variable{X:Cx}{af:List (ag×Obj)}{σ:St}{H:Hp}{s:ak}
theorem Inv.md(I:Inv X af σ H s)(e:ah):Inv (X.md e) af σ H s:=⟨⟨I.ok.mod,I.ok.kind,I.ok.glob,I.ok.blt,I.ok.above,I.ok.inj,I.ok.has,I.ok.cab,λz=>(nomatch z),I.ok.frames,I.ok.stk,I.ok.exf,I.ok.bs,I.ok.bsz,I.ok.qx,I.ok.sQ,I.ok.gC,I.ok.frf⟩,I.os,I.bare,I.base,I.loc,I.cell,I.free,I.gf,I.pin,I.hok,I.len⟩
theorem Inv.wb{e:ah}(J:X.Ok)(I:Inv (X.md e) af σ H s):Inv X af σ H s:=⟨J,I.os,I.bare,I.base,I.loc,I.cell,I.free,I.gf,I.pin,I.hok,I.len⟩
end
open A (f6)
section
variable{X:Cx}{af:List (ag×Obj)}{σ:St}{H:Hp}{s:ak}
theorem vq{M:kZ}{A:a7}{E:ah->ak->Prop}{i:Nat}{n:Str}{pos:Pos}{Q:Unit->ak->Prop}(I:Inv X af σ H s)(hN:X.N.Nodup)(hi:X.N[i]? = aa n)(hk:X.env.scope.names.lookup n=aa .local)
 (h:∀s',Inv X af (σ.set i ae) H s'->Q () s'):wpAny M A (do bindName X.env n .none;unbindBehindTheSuite X.env n pos) Q E s:=by
 have hcls:(X.env.scope.kind==.class||(X.env.scope.kind==.module&&X.env.locals != X.env.globals))=false:=by rw[I.ok.kind];rfl
 have hiσ:i < σ.length:=by rw[I.len];exact(dm.mp hi).1
 refine ar (wpAny_bindName (ur (v:=.non) (u:=.none) I hN hi (.inl hk) rfl (λs1 I1=>?_) (.inr hk)));obtain⟨m,hn,hl⟩:=id I1.loc;have hsome:(m n).isSome=true:=by
  obtain⟨u,_,q⟩:=hl i n .non hi (lR hiσ) (.inl hk);rcases q with ⟨_,e⟩|⟨k,_⟩
  ·rw[e];rfl
  ·have hk':X.env.kindOf n=aa .local:=hk;rcases k with k|k<;>(rw[hk']at k;cases k)
 have hk':X.env.kindOf n=aa .local:=hk;unfold unbindBehindTheSuite;refine wpAny_onRaise ?_;unfold unbindName;refine ar (wpAny_point (ar ?_));unfold deleteName;simp only[hk',hcls];rw[aG (by decide)];refine ar (wpAny_nsDel_keeps hn λh2 v hn2 hs2=>?_);rw[hsome];simp only[gi,yj,lX,fX];refine bh (wpAny_point (h _ ?_));obtain⟨oL,_,_,hoL,_⟩:=id hn;have ne:∀{b o},X.s₀.heap.get? b=aa o->b≠X.env.locals:=λ{b o} e=>eF (gG (bE e) I1.ok.above);refine⟨I1.ok,I1.os,I1.bare,⟨λb o e z hb hx=>(hs2.2 b (ne e)).trans (I1.base.keep b o e z hb hx),λb o e z hb hx=>?_,I1.base.free,λb o e hx=>?_,I1.base.tups,I1.base.iS,I1.base.iT⟩,⟨_,hn2,λj y v' e1 e2 e3=>?_⟩,λy c e=>?_,I1.free,I1.gf,λp hp=>?_,?_,by simpa using I1.len⟩
 ·obtain⟨sl,e1⟩:=I1.base.slot b o e z hb hx;exact⟨sl,(hs2.2 b (ne e)).trans e1⟩
 ·obtain⟨o',e1⟩:=I1.base.there b o e hx;exact⟨o',(hs2.2 b (ne e)).trans e1⟩
 ·by_cases hj:j=i
  ·subst hj;rw[lR hiσ]at e2;cases e2
  ·have e2':(σ.set i (aa V.non))[j]? = aa (aa v'):=by
    rw[gc (bU hj)]at e2 ⊢;exact e2
   obtain⟨u',r',q⟩:=hl j y v' e1 e2' e3;refine⟨u',r',?_⟩;rcases q with ⟨k,e⟩|⟨k,c,e,z⟩
   ·refine .inl ⟨k,?_⟩;have:y≠n:=λe=>hj (yZ hN e1 (e ▸ hi));simp[this,e]
   ·refine .inr ⟨k,c,e,?_⟩;obtain⟨o,ho,hd⟩:=z;exact⟨o,(hs2.2 c (I1.m8 y c e)).trans ho,hd⟩
 ·obtain⟨v2,o,ho,hd⟩:=I1.cell y c e;exact⟨v2,o,(hs2.2 c (I1.m8 y c e)).trans ho,hd⟩
 ·obtain⟨q1,q2,q3,q4⟩:=I1.pin p hp;exact⟨(hs2.2 _ q3).trans q1,q2,q3,q4⟩
 ·intro b ob e;refine(I1.hok b ob e).stay (λc w' hc q=>(hs2.2 c ?_).trans q) (λ_ q=>q) λ_ _ q=>q;rintro rfl;rcases hc with rfl|hc
  ·rw[I1.free]at e;cases e
  ·rw[I1.free]at hc;cases hc
theorem Inv.caught{H1 H2:Hp}{s1 s':ak}{h4:ay}{ea C:ag}{no:List ag}{oe:Obj}{dc:Option ag}(I1:Inv X af σ H1 s1)(os:s'.os=s1.os)(bare:l5 s'.gens)(un:Un (frs X.stack) [] H1 H2 s1.heap s'.heap)(ok2:bY X.prog X.w H2 s'.heap)
 (n:dW (frs X.stack) no s'.heap h4) (hno:∀b∈no,s1.heap.get? b=ae/\H2 b=ae) (he:ea∈no) (hx:h4.get? ea=aa oe) (hc:oe.cls=.ref C) (hcd:oe.dict=dc) (hcf:∃vs,oe.data=.fields vs):Inv X af σ (upd H2 ea (.ext (f6 ea C dc))) { s' with heap:=h4 }:=by
 have I2:Inv X af σ H2 s':=I1.call' os (ch:=[]) un ok2 bare (λb z=>absurd z (by simp));have old:∀{b o},s1.heap.get? b=aa o->b∉no:=λ{b o} e z=>by rw[(hno b z).1]at e;cases e
 have nee:∀{b o},H2 b=aa o->b≠ea:=λ{b o} e z=>by rw[z,(hno ea he).2]at e;cases e
 refine I1.call' (s':={ s' with heap:=h4 }) os (ch:=[]) ⟨λb o e z nf nx=>n.keep b o (un.keep b o e z nf nx) nf (old e),λb o e z nf nx=>?_,λb o e z nx=>?_,λb o e nx=>?_,λb xs e=>?_,λb o u e=>?_,λb w ps e=>?_⟩ ?_ bare (λb z=>absurd z (by simp))
 ·obtain⟨sl,q⟩:=un.slot b o e z nf nx;obtain⟨sl2,q2⟩:=n.slot b _ q (old e);exact⟨sl2,q2⟩
 ·rw[av (λy:b=ea=>old e (by rw[y];exact he))];exact un.free b o e z nx
 ·obtain⟨o1,q⟩:=un.there b o e nx;exact n.there b o1 q
 ·have q:=un.tups b xs e;rw[av (nee q)];exact q
 ·have q:=un.iS b o u e;rw[av (nee q)];exact q
 ·obtain⟨more,q⟩:=un.iT b w ps e;exact⟨more,by rw[av (nee q)];exact q⟩
 ·intro a o e;by_cases ha:a=ea
  ·subst ha;rw[aY]at e;cases e;refine⟨⟨oe,hx,hc,hcd,hcf⟩,⟨oe,hx⟩,λk1 k2 ⟨o,q1,q2⟩ kk=>⟨o,kk o q1,q2⟩⟩
  ·rw[av ha]at e;refine(ok2 a o e).stay (λb u hb q=>?_) (λb q=>by rw[av (nee q)];exact q) λb xs q=>by rw[av (nee q)];exact q
   have tr:∃ob,H2 b=aa ob:=by
    rcases hb with rfl|hb
    ·exact⟨_,e⟩
    ·exact⟨_,hb⟩
   obtain⟨ob,tr⟩:=tr;refine n.keep b u q (λz=>?_) λz=>?_
   ·have:=I2.tY b z;rw[tr]at this;cases this
   ·rw[(hno b z).2]at tr;cases tr
def QQ(i:Nat)(D:Ends):Ends:={ nx:=λσ H=>D.nx (σ.set i ae) H,rt:=D.rt,bk:=λσ H=>D.bk (σ.set i ae) H,ct:=λσ H=>D.ct (σ.set i ae) H }
def DB(i:Nat)(okC:ag->Prop)(tb:mE)(th:TS):TS:=λD σ H=>tb D (λC dc ea σ' H2=>okC C/\th (QQ i D) (σ'.set i (aa (.ref ea))) (upd H2 ea (.ext (f6 ea C dc)))) σ H
theorem Nv{body suite:List bj}{b0:bj}{tb:mE}{th:TS}{x n:Str}{i:Nat}{C0:ag}{np hpos pos:Pos}{okC:ag->Prop}(hx:X.xe=λ_ _=>False)(hst:X.stack=X.env::X.outer)(hfr:X.env.frame=aa X.env.locals)
 (hN:X.N.Nodup) (hi:X.N[i]? = aa n) (hk:X.env.scope.names.lookup n=aa .local) (hg:Gl X x) (hm:X.mg x=aa (.ref C0)) (Tk:∀C,okC C->qe X.K (.ref C) (.ref C0)=aa true)
 (hb:Gn X body tb) (hh:∀ea,fv (X.md (.ref ea)) (b0::suite) th) (hdb:(x==("__debug__" : Str))=false:=by decide) :
 PS X (.Try body [.ExceptHandler (aa (.Name x np)) (aa n) (b0::suite) hpos] [] [] pos) (DB i okC tb th):=by
 intro af s σ0 H0 D I h;refine wpAny_Try_except (e5 (hb af s σ0 H0 D _ I h) (λf s1 q=>?_) λe s' xp=>?_)
 ·cases f with
  |next=>exact sg q
  |ret v=>exact q
  |brk=>exact q
  |cont=>exact q
 obtain⟨σ,H1,s1,I1,ea,T,C,H2,dc,rfl,os,bare,un,ok2,n1,n2,n3,n4,xx,C',eC,hF⟩:=xp;cases eC;obtain⟨okc,ht⟩:=hF ea n3;have I2:Inv X af σ H2 s':=I1.call' os (ch:=[]) un ok2 bare (λb z=>absurd z (by simp));have Tl:X.A.frames=aa (X.env::X.outer):=by rw[<- hst];exact I2.ok.frames
 have hl:s'.heap.FunFrames X.base (X.env::X.outer):=by rw[<- hst];exact I2.stack
 refine Fq (base:=X.base) Tl hl hfr xx λh3 T' hT' n x3=>?_;refine xA (s:={ s' with heap:=h3 }) x3 λh4 m4 _ x4=>?_;have Tn:s1.heap.get? T'=ae/\H2 T'=ae:=by
  have hTn:s'.heap.get? T'=ae:=by
   cases q2:s'.heap.get? T' with
   |none=>rfl
   |some o=>exact absurd (bE q2) (qp.mpr hT')
  refine⟨?_,ok2.none_of hTn⟩;cases q2:s1.heap.get? T' with
  |none=>rfl
  |some o=>
   obtain⟨o',z2⟩:=un.there T' o q2 (by simp);rw[hTn]at z2;cases z2
 have nn:∀b∈[ea,T,T'],s1.heap.get? b=ae/\H2 b=ae:=λb hb=>by
  simp only[bn,ki,jI]at hb;rcases hb with rfl|rfl|rfl
  ·exact⟨n1,n3⟩
  ·exact⟨n2,n4⟩
  ·exact Tn
 have wide:∀{k k':ay},dW [] [T'] k k'->dW (frs X.stack) [T'] k k':=λz=>⟨λb o q _=>z.keep b o q (by simp),z.slot,z.there⟩;have n':dW (frs X.stack) [ea,T] s'.heap h3:=by rw[hst];exact n
 have N4:dW (frs X.stack) [ea,T,T'] s'.heap h4:=(n'.trans (wide m4)).more λb hb=>by simpa [or_assoc]using hb
 have x4':=x4;obtain⟨oe,vs,oT,ts,he,⟨hc,hcd⟩,hcf,_⟩:=x4';have I4:=I1.caught os bare un ok2 N4 nn (by simp) he hc hcd ⟨vs,hcf⟩;refine wpAny_handleBy_cons (codeAny_handlers_test ?_) (by intro q;cases q);refine nO (X:=X.md (.ref ea)) (I4.md _) hg hm ?_ hdb;have LT:PySem.W.Looks (model X.prog X.w) h4 (typeOf (.ref ea)) (.ref C):=by rw[<- hc];exact(Ku he).andThen .now
 refine PySem.W.exm_one (K:=X.K) I4.dg LT (Tk C okc) _ _ _ { s' with heap:=h4 } (λ_ _ q=>q) ?_;refine codeAny_handlers_suite_as ?_;refine xA (s:={ s' with heap:=h4 }) x4 λh5 m5 _ x5=>?_;have N5:dW (frs X.stack) [ea,T,T'] s'.heap h5:=(N4.trans (wide m5)).more λb hb=>by
  simp only[u5,sH,bn,ki,jI]at hb ⊢;rcases hb with z|z|z|z
  ·exact .inl z
  ·exact .inr (.inl z)
  ·exact .inr (.inr z)
  ·exact .inr (.inr z)
 obtain⟨oe5,vs5,_,_,he5,⟨hc5,To⟩,Tp,_⟩:=x5;have I5:=I1.caught os bare un ok2 N5 nn (by simp) he5 hc5 To ⟨vs5,Tp⟩;refine ur (X:=X.md (.ref ea)) (i:=i) (v:=.ref ea) (I5.md _) hN hi (.inl hk) rfl (λs6 I6=>?_) (.inr hk);refine e5 (hh ea af s6 _ _ _ I6 ht) (λf s7 q=>?_) λ_ _ z=>z.elim;have J:=I.ok;cases f with
 |next=>
  obtain⟨σ',H',I7,q⟩:=q;exact vq (I7.wb J) hN hi hk λs8 I8=>⟨_,_,I8,q⟩
 |brk=>
  obtain⟨σ',H',I7,q⟩:=q;exact vq (I7.wb J) hN hi hk λs8 I8=>⟨_,_,I8,q⟩
 |cont=>
  obtain⟨σ',H',I7,q⟩:=q;exact vq (I7.wb J) hN hi hk λs8 I8=>⟨_,_,I8,q⟩
 |ret v=>
  obtain⟨v',σ',H',I7,r,q⟩:=q;exact vq (I7.wb J) hN hi hk λs8 I8=>⟨v',_,_,I8,r,q⟩
end
end L2
namespace L2
open PySem PySem.Spec PyProof.Rows
structure jS(k:Nat)(A:a7):Prop where
 dp:A.depth+3*k+5<recursionLimit
 un:A.units+16*k+200<cLine
 gd:A.guards=aa []
theorem jS.deeper{k:Nat}{A:a7}(r:jS (k+1) A)(env:Env):jS k (A.deeper env):=⟨by have:=r.dp;show A.depth+1+3*k+5<_;omega,by have:=r.un;show A.units+3+16*k+200<_;omega,r.gd⟩
theorem jS.depth{k:Nat}{A:a7}(r:jS k A):A.depth<recursionLimit:=by have:=r.dp;omega
theorem jS.units{k:Nat}{A:a7}(r:jS k A):A.units+64<cLine:=by have:=r.un;omega
structure tM(P:aW)(w:aQ)(K:aB)(mg:Str->Option ah)(base:ay)(k:Nat)(f:ag)(fd:bA)(ps:List Str)(sp:Sp):Prop where
 len:∀vs H Q E,sp vs H Q E->vs.length=ps.length
 run:∀(A:a7) (outer:List Env) (s:ak) (H:Hp) (args:Args) (us:List ah) (vs:List V) (Q:VK) (E:XK),jS k A->mz P w K mg base A outer s H->ng s fd args (ps.zip us)->Vals vs us->sp vs H Q E ->
  codeAny (model P w) A (.call (.ref f) args) (CR aJ outer P w H s Q E) s
def wP(P:aW)(w:aQ)(K:aB)(mg:Str->Option ah)(base:ay)(N:List Str)(qual:Str)(scope:dM)(f:ag)(cd:ah)(A:a7)(outer:List Env)(s:ak)(H:Hp)(E:XK):Cx:={ cZ aJ P w K mg base N qual scope f cd A outer s H E with calm:=false,xe:=λ_ _=>False }
theorem Q9{P:aW}{w:aQ}{K:aB}{mg:Str->Option ah}{base:ay}{k:Nat}{f:ag}{name qual:Str}{params:sr}{body:List bj}{scope:dM}{dV kV doc pm cdv ct oc:ah}{an od:Option ag}
 {osl:Array (Option ah)} {N ps:List Str} {sp:Sp} (lk:K.lookup f=aa ⟨oc,od,.func (iK name qual params body scope dV kV doc pm an cdv ct),osl⟩) (hcd:ou K cdv qual=true) (S:cM N ps scope)
 (len:∀vs H Q E,sp vs H Q E->vs.length=ps.length)
 (hbody:∀(A:a7) (outer:List Env) (s:ak) (H:Hp) (vs:List V) (Q:VK) (E:XK),jS k (A.deeper (envOfC qual scope s.heap.objs.size f cdv))->sp vs H Q E ->
  ∃t,fv (wP P w K mg base N qual scope f cdv A outer s H E) body t/\t { nx:=λ_ H'=>Q .non H',rt:=Q } (start N vs) H) :
 tM P w K mg base (k+1) f (iK name qual params body scope dV kV doc pm an cdv ct) ps sp:=by
 refine⟨len,λA outer s H args us vs Q E hr e0 hb r hsp=>?_⟩;have hl:=len _ _ _ _ hsp;have KX:K.In s.heap:=e0.mod.kin.keeps λb o e=>(e0.bs b o e).1;have lim:s.heap.NoLimit:=e0.mod.nolimit.keeps λb o e=>(e0.bs b o e).1;have hkind:∀y∈ps.zip us,scope.names.lookup y.1=aa .local\/(scope.names.lookup y.1=aa .cell/\((cellsFrom (s.heap.objs.size+1) scope.names []).lookup y.1).isSome=true):=λ⟨n,v⟩ hy=>by
  rcases S.par n (x9 hy).1 with q|q
  ·exact .inl q
  ·exact .inr ⟨q,Bv _ _ _ (.inl q)⟩
 refine codeAny_call_function hr.depth (KX _ _ lk) rfl S.co S.gen rfl (Jq KX hcd) (hb _ _ _ _ ?_);refine Jk S.kind hkind λenv he s1 x=>?_;subst he;refine⟨lim.keeps x.toInCall.keep,codeAny_func ?_⟩;obtain⟨t,ht,hq⟩:=hbody A outer s H vs Q E (hr.deeper _) hsp;have e1:mz P w K mg base { A with handled:=ae } outer s H:=⟨e0.frames,e0.mod,e0.bs,e0.bsz,e0.gC,e0.frf,e0.hok,e0.bare⟩;have I1:Inv (cZ aJ P w K mg base N qual scope f cdv { A with handled:=ae } outer s H E) [] (start N vs) H s1:=HQ S rfl e1 hl r x;have I:Inv (wP P w K mg base N qual scope f cdv A outer s H E) [] (start N vs) H s1:=
  ⟨⟨I1.ok.mod,I1.ok.kind,I1.ok.glob,I1.ok.blt,I1.ok.above,I1.ok.inj,I1.ok.has,I1.ok.cab,λz=>(nomatch z),Ci e0.frames,I1.ok.stk,I1.ok.exf,I1.ok.bs,I1.ok.bsz,I1.ok.qx,I1.ok.sQ,I1.ok.gC,I1.ok.frf⟩,I1.os,I1.bare,I1.base,I1.loc,I1.cell,I1.free,I1.gf,I1.pin,I1.hok,I1.len⟩
 refine e5 (ht [] s1 (start N vs) H _ I hq) (λfl s' hs=>?_) λe s' hs=>hs.elim;have fin:∀{σ':St} {H':Hp} {v:V} {u:ah},Inv (wP P w K mg base N qual scope f cdv A outer s H E) [] σ' H' s'->RelV v u->Q v H'->CE outer P w H s Q u s':=
  λ{σ' H' v u} J rv q=>⟨v,H',J.os,J.bare,J.base,J.hok,rv,q⟩
 cases fl with
 |ret u=>
  obtain⟨v,σ',H',J,rv,q⟩:=hs;exact fin J rv q
 |next=>
  obtain⟨σ',H',J,q⟩:=hs;exact fin (v:=V.non) (u:=dD) J rfl q
 |brk=>
  obtain⟨_,_,_,q⟩:=hs;exact fu q
 |cont=>
  obtain⟨_,_,_,q⟩:=hs;exact fu q
theorem bN.Hg{P:aW}{w:aQ}{K:aB}{mg:Str->Option ah}{base:ay}{x qual:Str}{st:bj}{f:ag}{fd:bA}{N ps:List Str}{k:Nat}{sp:Sp}(F:bN K x qual st f fd)(S:cM N ps (bC st))(len:∀vs H Q E,sp vs H Q E->vs.length=ps.length)
 (hbody:∀(cdv:ah) (A:a7) (outer:List Env) (s:ak) (H:Hp) (vs:List V) (Q:VK) (E:XK),jS k (A.deeper (envOfC qual (bC st) s.heap.objs.size f cdv))->sp vs H Q E ->
  ∃t,fv (wP P w K mg base N qual (bC st) f cdv A outer s H E) (gL st) t/\t { nx:=λ_ H'=>Q .non H',rt:=Q } (start N vs) H):tM P w K mg base (k+1) f fd ps sp:=by
 obtain⟨oc,od,kV,doc,pm,an,cdv,ct,osl,rfl,lk,hcd⟩:=F.ex;exact Q9 lk hcd S len λA outer s H vs Q E hr hsp=>hbody cdv A outer s H vs Q E hr hsp
structure Ah(P:aW)(w:aQ)(K:aB)(mg:Str->Option ah)(base:ay)(k:Nat)(x:Str)(ps:List Str)(sp:Sp):Prop where
 ex:∃(f:ag) (fd:bA),mg x=aa (.ref f)/\jB K (.ref f)=true/\Binds K fd ps []/\tM P w K mg base k f fd ps sp
theorem da.Nu{P:aW}{w:aQ}{K:aB}{mg:Str->Option ah}{base:ay}{k:Nat}{x:Str}{st:bj}{ps:List Str}{sp:Sp}(F:da K mg x st ps)(h:∀f fd,bN K x x st f fd->tM P w K mg base k f fd ps sp):Ah P w K mg base k x ps sp:=by obtain⟨f,fd,h1,h2,h3,_,h4⟩:=F.ex;exact⟨f,fd,h1,h2,h3,h f fd h4⟩
theorem Gq{X:Cx}{k:Nat}{x:Str}{ps:List Str}{sp:Sp}{E:XK}{e:aO}{es:List aO}{t:TA}{p pos:Pos}(C:Ah X.prog X.w X.K X.mg X.base k x ps sp)(hr:jS k X.A)(hg:Gl X x)(ha:PA X (e::es) t)
 (hdb:(x==("__debug__" : Str))=false:=by decide) (he:starEach (e::es) X.env=(false,eval e X.env)::starEach es X.env:=by rfl) (hpl:(backTo pos (starEach es X.env)).any (·.1)=false:=by rfl) :
 PE X (.Call (.Name x p) (e::es) [] pos) (lK sp [] E t):=by
 obtain⟨f,fd,hm,hk,hb,F⟩:=C.ex;intro af s σ H Q I h;refine qa (nO I hg hm ?_ hdb);refine xN (h₀:=X.base) I.ok.mod.kin hk (aM (ha pos af s σ H _ I h) λus s1 ⟨vs,H1,I1,r,q⟩=>⟨I1.dg,?_⟩) he hpl;have q:sp (vs++[]) H1 Q E:=q;rw[iN]at q;have hl:us.length=ps.length:=by rw[<- r.length];exact F.len _ _ _ _ q
 refine na (sm (F.run X.A X.stack s1 H1 ⟨us,[]⟩ us vs _ _ hr I1.env0 (by have:=hb s1 us I1.dg (by rw[iN];exact hl);rwa [iN]at this) r q) λres s' hq=>?_);cases res with
 |error e'=>exact hq.elim
 |ok fl=>
  cases fl with
  |ret u=>exact I1.after hq
  |next=>exact fu hq
  |brk=>exact fu hq
  |cont=>exact fu hq
end L2
namespace A
open PySem L2 PyProof.Rows So
open Mi (D W Rs Fin dw aw fY Out Tg di)
variable[Tb:bD]
def AX(M:Nat->Bool)(κ:Kd)(t:mE)(m:Mi.S):Prop:=∀H0 Hv0 e σ H Hv D F,R1 M H0 Hv0 e σ H Hv->dw (m e) (i8 M κ H0 Hv0 D Hv) (λz=>∀ea dc H' Hv',R1 M H0 Hv0 e σ H' Hv'->cV Hv Hv'->H' ea=ae->As z H' Hv' dc->F (Tb.cl z.cls) dc ea σ H')->t D F σ H
section
variable{M:Nat->Bool}{κ:Kd}{t u:mE}{m n:Mi.S}
theorem R1.off{H0 Hv0:Hp}{e:Mi.Env}{σ:L2.St}{H Hv:Hp}(I:R1 M H0 Hv0 e σ H Hv)(i:Nat):R1 M H0 Hv0 (e.set i ae) (σ.set i ae) H Hv:=by
 have get:∀{j:Nat} {w:W},(e.set i ae)[j]? = aa (aa w)->i≠j/\e[j]? = aa (aa w):=λ{j w} h=>by
  rcases kO h with ⟨_,h,_⟩|z
  ·cases h
  ·exact z
 have st:∀{j:Nat} {v:V},i≠j->σ[j]? = aa (aa v)->(σ.set i ae)[j]? = aa (aa v):=λ{j v} n h=>by rw[gc n];exact h
 have ts:∀{j:Nat} {v:V},i≠j->(σ.set i ae)[j]? = aa (aa v)->σ[j]? = aa (aa v):=λ{j v} n h=>by rw[gc n]at h;exact h
 refine⟨⟨I.vw,by rw[jD,jD];exact I.len,λj w h mm=>?_,λj w h mm=>?_⟩,I.gw,λj w a h mm q=>?_,λj k w w' a b hjk h1 h2 m1 m2 q1 q2=>?_⟩
 ·obtain⟨nj,h⟩:=get h;obtain⟨v,hv,r⟩:=I.nob j w h mm;exact⟨v,st nj hv,r⟩
 ·obtain⟨nj,h⟩:=get h;obtain⟨v,hv,r⟩:=I.own j w h mm;exact⟨v,st nj hv,r⟩
 ·obtain⟨nj,h⟩:=get h;exact I.fresh j w a h mm (ts nj q)
 ·obtain⟨nj,h1⟩:=get h1;obtain⟨nk,h2⟩:=get h2;exact I.sep j k w w' a b hjk h1 h2 m1 m2 (ts nj q1) (ts nk q2)
end
end A
namespace PySem.W
open PySem PySem.Spec PySem.Calls PyProof.Rows Builtin Builtin.ObjectAttr Builtin.Getset_descriptor
def pD(h:ay)(x D:ag):Prop:=∃ox,h.get? x=aa ox/\ox.cls=.ref D
theorem pD.type{M:kZ}{h:ay}{x D:ag}(I:pD h x D):Looks M h (typeOf (.ref x)) (.ref D):=by obtain⟨ox,h1,h2⟩:=I;exact h2 ▸ (Looks.ld h1).andThen .now
theorem Oi{K:Frag}{M:kZ}{h:ay}(X:K.In h){x C:ag}{name:Str}{g a:ah}(ha:findIn K (.ref C) name=aa (aa a))(hg:specialIn K a "__get__" = aa (aa g))(hd:takesIn K a=aa true) :
 Looks M h (find (.ref x) (.ref C) name) (.bind g a):=by
 have L1:=qf (M:=M) X ha;have L2:Looks M h (getOf (aa a)) (aa g):=looks_specialIn X hg;have L3:=looks_takesIn (M:=M) X hd;exact L1.andThen (L2.andThen ((show Looks M h (dataDescriptor? (aa a) (aa g)) (aa (g,a))from L3.andThen .now).andThen (Looks.tag .now)))
theorem Sn{prog:aW}{w:aQ}{A:a7}{s:ak}{R:ot->ak->Prop}{K:Frag}{x C:ag}{tp:ah}(X:K.In s.heap)(I:pD s.heap x C)(hm:mroIn K C (.type "object")=aa true)
 (h:R (.ok (.ret (.ref C))) s):codeAny (model prog w) A (.call (.builtin "getset_descriptor.__get__") ⟨[.builtin "object.__class__", .ref x,tp],[]⟩) R s:=by
 obtain⟨hh,g,dr,t,os⟩:=s;have L0:=I.type (M:=model prog w);have L1:=xU (M:=model prog w) X hm;refine r0 KF.slot_gs.plain KF.entry_gs (KF.slot_gs.check _ _ _ _ _ _ _ _ KF.type_class (KF.args_gs _ _ _) ?_);unfold jA.«getset_descriptor.__get__» descrGet;rw[dga_obj];refine ar (bh ?_);unfold descrGetter descrCheckInstance descrNameAndClass isInstance;simp only[KF.owner_class]
 repeat lk
 refine⟨Cj _ (by decide +kernel),Bs KF.entry_class ?_⟩;unfold jA.«object.__class__» shownTypeOf
 repeat lk
 exact h
section
variable{prog:aW}{w:aQ}{A:a7}{E:ah->ak->Prop}{s:ak}{K:Frag}{x D:ag}{ox:Obj}
variable(hga:findIn K (.ref D) "__getattribute__" = aa (aa (.builtin "BaseException.__getattribute__")))(hgt:findIn K (.ref D) "__getattr__" = aa ae)(hcd:(clsIn K D).isSome=true)
 (ha:findIn K (.ref D) "__class__" = aa (aa (.builtin "object.__class__"))) (hn:specialIn K (.builtin "object.__class__") "__get__" = aa (aa (.builtin "getset_descriptor.__get__"))) (htk:takesIn K (.builtin "object.__class__")=aa true)
 (hm:mroIn K D (.type "object")=aa true) (hb:mroIn K D (.type "BaseException")=aa true)
include hga hgt hcd ha hn htk hm hb
theorem Sx{tk:Tok}{R:ot->ak->Prop}(X:K.In s.heap)(I:pD s.heap x D)(h:R (.ok (.ret (.ref D))) s) :
 codeAny (model prog w) A (.call (.builtin "BaseException.__getattribute__") ⟨[.ref x,.str "__class__" tk],[]⟩) R s:=by
 obtain⟨hh,g,d,t,os⟩:=s;have L0:=I.type (M:=model prog w);have L1:=Oi (M:=model prog w) (x:=x) X ha hn htk;have L2:=xU (M:=model prog w) X hb;have hk:builtinKind "BaseException.__getattribute__" = aa .slot:=by decide +kernel
 have hsplit:splitId "BaseException.__getattribute__" = aa ("BaseException","__getattribute__"):=by decide +kernel
 have hargs:=F.args_bexc_ga (.ref x) (.str "__class__" tk);refine r0 (yo).ga.plain F.entry_bexc_ga ?_;simp only[checkBuiltinCall,hk,hsplit];refine ar ?_;unfold isInstance;refine ar (L0.at ?_);refine L2.at ?_
 repeat (any_goals (first|assumption|(refine ar (L0.at ?_))|(refine ar (L1.at ?_))|wp_step))
 refine Sn (s:=⟨hh,g,d,t,os⟩) X I hm ?_;exact bh h
theorem RV{Q:Option ah->ak->Prop}(X:K.In s.heap)(I:pD s.heap x D)(h:Q (aa (.ref D)) { s with toks:=s.toks+1 }):wpAny (model prog w) A (getAttr? (.ref x) "__class__") Q E s:=by
 obtain⟨hh,g,d,t,os⟩:=s;have L0:=I.type (M:=model prog w);have L1:=qf (M:=model prog w) X hga;have L2:=qf (M:=model prog w) X hgt;have f3:=(yo).ga.bind (.ref x);have hx2:(lZ "BaseException.__getattribute__" == lZ "object.__getattribute__")=false:=by decide +kernel
 have hx1:(onTheHeap (bB D)&&lZ "BaseException.__getattribute__" == lZ "object.__getattribute__")=false:=by rw[hx2,qq]
 unfold getAttr? getAttrBy? getAttrBy;refine ar (wpAny_mkText (ar (xH (iJ (ar (L0.at (ar (L1.at ?_))))))));dsimp only;rw[aG (by rw[hx1];exact dN)];unfold getAttrByItsOwn
 repeat (any_goals (first|assumption|(refine ar (L2.at ?_))|(refine L2.at ?_)|wp_step))
 refine Sx (s:=⟨hh,g,d,t+1,os⟩) hga hgt hcd ha hn htk hm hb X I ?_;exact handed_on rfl (bh h)
theorem Gc:KitX K (.ref x) (.ref D) (λh=>pD h x D) where
 ty:=λ_ _ _ I=>I.type
 it:=λ_ _ X _=>by
  obtain⟨cd,hc⟩:=Cd.mp hcd;unfold clsIn at hc;split at hc
  ·rename_i c' d' cd' sl' ho;intro A' Q' E' s' k q;unfold isType loadHead;exact ar (wpAny_loadPart (k _ _ (X _ _ ho)) (bh q))
  ·cases hc
 ne:=λh tp dd am n sl X htp=>by
  obtain⟨cd,hc⟩:=Cd.mp hcd;refine J1.mpr λq=>?_;have e:D=tp:=Value.ref.inj (f7.mp q);subst e;unfold clsIn at hc;split at hc
  ·rename_i c' d' cd' sl' ho;have z:=(X _ _ ho).symm.trans htp;cases z
  ·cases hc
 ca:=λX I k=>RV hga hgt hcd ha hn htk hm hb X I k
end
end PySem.W
namespace L2
open PySem PySem.Spec PyProof.Rows
open A (f6)
theorem oP{X:Cx}:rp X [] []:=trivial
theorem gh{X:Cx}{e:aO}{es:List aO}{p:St->Hp->Prop}{ps:List (St->Hp->Prop)}(h:FP X e p)(t:rp X es ps):rp X (e::es) (p::ps):=⟨h,t⟩
structure fT(K:aB)(D:ag):Prop where
 ga:lQ K (.ref D) "__getattribute__" = aa (aa (.builtin "BaseException.__getattribute__"))
 gt:lQ K (.ref D) "__getattr__" = aa ae
 cd:(PySem.W.clsIn K D).isSome=true
 at_:lQ K (.ref D) "__class__" = aa (aa (.builtin "object.__class__"))
 gn:xO K (.builtin "object.__class__") "__get__" = aa (aa (.builtin "getset_descriptor.__get__"))
 tk:Jz K (.builtin "object.__class__")=aa true
 mo:xT K D (.type "object")=aa true
 mb:xT K D (.type "BaseException")=aa true
section
variable{X:Cx}{af:List (ag×Obj)}{σ:St}{H:Hp}{s:ak}
theorem Inv.instX(I:Inv X af σ H s){ea C:ag}{dc:Option ag}(h:H ea=aa (.ext (f6 ea C dc))):PySem.W.pD s.heap ea C:=by obtain⟨⟨o,h1,h2,_,vs,h4⟩,_⟩:=(show bI X.prog X.w H s.heap ea (.ext (f6 ea C dc))from I.hok ea _ h);exact⟨o,h1,h2⟩
inductive ug:V->ah->Prop
 |own (C:ag):ug (.ref C) (.ref C)
 |blt (T:String):ug (.ty T) (.type T)
def AN(K:aB):List V->Hp->VK->Prop:=λxs H Q=>∃ea C dc c c' b,xs=[.ref ea,c]/\H ea=aa (.ext (f6 ea C dc))/\fT K C/\ug c c'/\bO K (.ref C) c'=aa b/\Q (.bl b) H
theorem nP:fj X (.builtin "isinstance") (AN X.K):=by
 intro af s σ H xs us Q I r h;obtain⟨ea,C,dc,c,c',b,rfl,he,k,hc,e,q⟩:=h;obtain⟨u,w',rfl,rx,rt⟩:=vals2 r;cases(show u=bB ea from rx);have hw:w'=c':=by
  cases hc with
  |own C=>exact(show w'=bB C from rt)
  |blt T=>exact(show w'=sK T from rt)
 subst hw;exact j9 (PySem.W.Gc k.ga k.gt k.cd k.at_ k.gn k.tk k.mo k.mb) I.dg (I.instX he) e (λz=>nomatch z) λtk=>⟨.bl b,H,I.tok tk,rfl,q⟩
theorem Ej:∀{Cs:List ag} {us:List ah},Vals (Cs.map V.ref) us->us=Cs.map .ref
 |[],_,.nil=>rfl
 |T::r,_,.cons a t=>by
  have a:_=bB T:=a;rw[a,Ej t];rfl
def Fa(K:aB):List V->Hp->VK->Prop:=λxs H Q=>∃(ea C tp:ag) (dc:Option ag) (Cs:List ag) (b:Bool),xs=[.ref ea,.ref tp]/\H tp=aa (.tup (Cs.map V.ref))/\H ea=aa (.ext (f6 ea C dc))/\fT K C/\gX K (.ref C) (Cs.map .ref)=aa b/\Q (.bl b) H
theorem E8:fj X (.builtin "isinstance") (Fa X.K):=by intro af s σ H xs us Q I r h;obtain⟨ea,C,tp,dc,Cs,b,rfl,ht,he,k,e,q⟩:=h;obtain⟨u,w',rfl,rx,rt⟩:=vals2 r;cases(show u=bB ea from rx);cases(show w'=bB tp from rt);obtain⟨_,am,rv,o,h1,h2,_,n,h3⟩:=(show bI X.prog X.w H s.heap tp (.tup (Cs.map V.ref))from I.hok tp _ ht);obtain rfl:=Ej rv;obtain⟨c,d,dt,sl⟩:=o;simp only at h2 h3;subst h2 h3;exact JA (PySem.W.Gc k.ga k.gt k.cd k.at_ k.gn k.tk k.mo k.mb) I.dg (I.instX he) h1 e (λz=>nomatch z) λtk=>⟨.bl b,H,I.tok tk,rfl,q⟩
end
end L2
namespace Mi
open PySem
def jV(i:Nat)(b:String->Option Bool):E:=λe=>match e[i]? with
 | some (aa (.ex c))=>match b c with
  |some k=>.ok (.bl k)
  |none=>.no
 |_=>.no
end Mi
namespace A
open PySem L2 PyProof.Rows So
open Mi (D W Rs Fin dw aw fY Out Tg di)
variable[Tb:bD]
section
variable{K:aB}{M:Nat->Bool}{b:String->Option Bool}
theorem rV:jR M [] []:=trivial
theorem ig{g:Mi.Env->Bool}{p:L2.St->Hp->Prop}{gs:List (Mi.Env->Bool)}{ps:List (L2.St->Hp->Prop)}(h:PG M g p)(t:jR M gs ps):jR M (g::gs) (p::ps):=⟨h,t⟩
theorem Fv{i:Nat}{e:Mi.Env}{k:D->Prop}(h:Fin (Mi.jV i b e) k):∃c q,e[i]? = aa (aa (.ex c))/\b c=aa q/\k (.bl q):=by
 unfold Mi.jV at h;split at h
 ·rename_i c hc;split at h
  ·rename_i q hq;exact⟨c,q,hc,hq,h⟩
  ·exact h.elim
 ·exact h.elim
theorem q8{i:Nat}{c:V}{c':ah}(hm:M i=false)(hc:ug c c')(hb:∀x k,b x=aa k->fT K (Tb.cl x)/\bO K (.ref (Tb.cl x)) c'=aa k):AE M qV (lL (AN K) (dY (eZ i) (dY (tC c) fg))) (Mi.jV i b):=λe σ H Hv Q I h=>by
 obtain⟨x,k,he,hk,q⟩:=Fv h;obtain⟨v,hv,a,dc,rfl,ha⟩:=I.nob i _ he hm;obtain⟨h1,h2⟩:=hb x k hk;exact⟨_,hv,a,_,dc,c,c',k,rfl,I.vw.sub _ _ ha,h1,hc,h2,q _ H Hv (.refl I.vw) eu⟩
def Bm:List ag->TA
 |[]=>fg
 |C::r=>dY (tC (.ref C)) (Bm r)
theorem IL:∀(Cs:List ag) (σ:L2.St) (H:Hp) (Q:List V->Hp->Prop),Q (Cs.map V.ref) H->Bm Cs σ H Q
 |[],_,_,_,h=>h
 |C::r,σ,H,Q,h=>IL r σ H _ h
theorem Fx{i:Nat}{Cs:List ag}(hm:M i=false)(hl:Cs.length<=100)(hb:∀x k,b x=aa k->fT K (Tb.cl x)/\gX K (.ref (Tb.cl x)) (Cs.map .ref)=aa k):AE M qV (lL (Fa K) (dY (eZ i) (dY (vU (Bm Cs)) fg))) (Mi.jV i b):=λe σ H Hv Q I h=>by
 obtain⟨x,k,he,hk,q⟩:=Fv h;obtain⟨v,hv,a,dc,rfl,ha⟩:=I.nob i _ he hm;obtain⟨h1,h2⟩:=hb x k hk;refine⟨_,hv,IL Cs σ H _ ⟨by rw[be,cD];omega,λp hp=>?_⟩⟩;have g:bt H Hv (upd H p (.tup (Cs.map V.ref))) (upd Hv p (.tup (Cs.map V.ref))):=.new I.vw hp;exact⟨a,_,p,dc,Cs,k,rfl,aY,g.old.at (I.vw.sub _ _ ha) trivial,h1,h2,q _ _ _ g eu⟩
end
end A
namespace L2
open PySem PySem.Spec PyProof.Rows
section
variable{pr:aW}{wo:aQ}{Ar:a7}{Ex:ah->ak->Prop}
theorem HM{it l:ag}{zs:Array ah}(ne:l≠it):∀(k j:Nat) (z:ak) (R:List ah->ak->Prop),z.heap.IsListIter it l j->z.heap.IsList l zs->j+k<=zs.size ->
 (∀g,g.IsListIter it l (j+k)->qh it z.heap g->R ((zs.toList.drop j).take k) { z with heap:=g })->wpAny (model pr wo) Ar (draw (.ref it) k) R Ex z
 |0,j,z,R,a,_,_,q=>by
  show wpAny _ _ (pure []) R Ex z;refine bh ?_;have:=q z.heap a (Heap.SameBut.refl ..);simpa using this
 |k+1,j,z,R,a,b,c,q=>by
  have lt:j<zs.size:=by omega
  show wpAny _ _ (pyNext (.ref it) >>= _) R Ex z;refine ar (Jm a b (x:=zs[j]) (by simp[lt]) λg1 a1 b1=>ar (iJ ?_));refine HM ne k (j+1) _ _ a1 (b.extBut b1.extBut ne) (by omega) λg2 a2 b2=>bh ?_;have e:zs.toList.drop j=zs[j]::zs.toList.drop (j+1):=by simp[ni,lt]
  have r:=q g2 (by rw[show j+(k+1)=j+1+k by omega];exact a2) (b1.trans b2);rw[e,List.take_succ_cons]at r;exact r
theorem O5{l:ag}{zs:Array ah}{z:ak}{R:List ah->ak->Prop}(h0:Ar.handled=ae)(b:z.heap.IsList l zs)(q:∀g,BF z.heap.objs.size z.heap g->R zs.toList { z with heap:=g }) :
 wpAny (model pr wo) Ar (unpackItems (.ref l) zs.size ae) R Ex z:=by
 have ne:l≠z.heap.objs.size:=by obtain⟨o,ho,_⟩:=b;exact eF (bE ho)
 unfold unpackItems notIterableAtAll;refine ar (ar (uX b.typeIs PySem.F.slot_list_iter.lookup (bh ?_)));simp only[lX,fX];refine ar (iJ (xE b ?_));refine ar (iJ (HM ne zs.size 0 _ _ ⟨_,dj _ rfl,rfl,rfl⟩ (b.push _) (by omega) λg1 a1 b1=>?_));rw[show List.take zs.size (List.drop 0 zs.toList)=zs.toList by rw[sI];exact sB (by simp),aG (by simp)];have c1:g1.IsList l zs:=(b.push _).extBut b1.extBut ne;refine ar (iJ (wpAny_pyNext_list_end h0 a1 c1 (by simp) λg2 b2=>?_));simp only[Option.isSome_none,lX,fX];exact bh (q g2 λd o hd e=>b2 d o hd (b1.extBut d o hd (br _ e)))
end
end L2
namespace Mi
open PySem
def s9(is:List Nat)(a:E):S:=λe=>(a e).bind λd=>match d with
 |.lst ds=>(mj is ds e).bind λe'=>.ok (.nx e')
 |_=>.no
end Mi
namespace A
open PySem L2 PyProof.Rows So
open Mi (D W Rs Fin aw Out Tg)
variable[Tb:bD]
section
variable{X:Cx}{pos:Pos}
def EA(n:Nat)(t:iZ):TG:=λv σ H Q=>∃a xs,v=.ref a/\Lst H a xs/\xs.length=n/\t xs σ H Q
theorem MB{es:List aO}{k:Nat}{t:iZ}{n:Nat}(hc:X.calm=true)(h:L2.jR X es t)(hn:(assignEach es X.env).length=n:=by rfl)(hst:(assignEach es X.env).findIdx? (·.1)=ae:=by rfl):L2.PG X (.Tuple es k pos) (EA n t):=by
 intro af s σ H v u Q I r hw;obtain⟨a,xs,e1,hq,hl,hw⟩:=hw;subst e1;cases r;obtain⟨am,n0,rv,hz,ho⟩:=oO I hq;have hli:=rv.length;rw[assign_Tuple];refine ar (qc ?_);unfold unpack;rw[hn,hst];have sz:n=am.toArray.size:=by rw[cz];omega
 rw[sz];refine ar (iJ (O5 (I.ok.hd hc) ⟨_,ho,rfl,_,rfl⟩ λg hx=>?_));have I1:Inv X af σ H { s with heap:=g }:=I.kept (t':=s.toks) λb o e=>hx b o (eF (bE e)) e;exact h af _ σ H xs _ Q I1 (by simpa using rv) hw
end
section
variable{M:Nat->Bool}{κ:Kd}{te:TE}{a:Mi.E}
theorem Ml(is:List Nat)(hm:∀i∈is,M i=false)(ha:AE M qV te a):AS M κ (kN te (EA is.length (v8 is))) (Mi.s9 is a):=λH0 Hv0 e σ H Hv D I h=>
 ha e σ H Hv _ I.toR0 ((aw.mp h).mono λd hd v H1 Hv1 g1 r=>by
  cases d with
  |lst ds=>
   obtain⟨p,xs,rfl,l,rr⟩:=j7.mp r;have hd:=aw.mp (show Fin (Rs.bind (Mi.mj is ds e) _) _ from hd);have I2:=I.grow g1;refine⟨p,xs,rfl,l.same g1.vw.sub,by rw[<- rr.len];exact Ay hd,?_⟩;exact zK (P:=λe1 σ1=>R1 M H0 Hv0 e1 σ1 H1 Hv1) (λi hi e1 σ1 d1 v1 p1 r1=>p1.set (hm i hi) r1) I2 rr (hd.mono λe' h' σ' p'=>h' σ' H1 Hv1 p' g1.vis)
  |_=>exact hd.elim)
end
end A
namespace A
open PySem L2 PyProof.Rows
open Mi (D W Rs Fin aw)
variable[Tb:bD]
section
variable{M:Nat->Bool}
theorem RR{i:Int}(h1:i.natAbs.log2<1920)(h2:(kA (toString i)).length<=100000):PG M (λ_=>true) (λσ H=>tC (.int i) σ H λv H'=>H'=H/\∃i:Int,v=.int i/\i.natAbs.log2<1920/\(kA (toString i)).length<=100000):=λ_ _ _ _ _ _=>⟨rfl,i,rfl,h1,h2⟩
end
end A
namespace Rv
end Rv
namespace L2
open PySem PySem.Spec PyProof.Rows
open PySem.AutoSeq1 (wpAny_loadPart')
section
variable{P:aW}{w:aQ}{A:a7}{E:ah->ak->Prop}{s:ak}{t I:ag}{am:Array ah}
theorem R4{acc:Array ah}(h:ItemsOf (λi v=>am[am.size-1-i]? = aa v) acc am.size):acc.toList=am.toList.reverse:=by
 have hl:acc.size=am.size:=h.1;refine List.ext_getElem? λi=>?_;rcases u9 i am.size with lt|ge
 ·have lt':i<acc.size:=by omega
  have:=h.2 i acc[i] (Kh lt');rw[yr,Kh lt',JQ (by simpa using lt),qu,yr];exact this.symm
 ·rw[JR (by rw[qu];omega),JR (by rw[sD,qu];omega)]
end
section
variable{X:Cx}
def mX(H:Hp)(p:ag):Hp:=λb=>if b=p then ae else H b
theorem n6{H:Hp}{p b:ag}(h:b≠p):mX H p b=H b:=by unfold mX;rw[aG h]
theorem GP:∀{xs:List V} {us:List ah},Vals xs us->Vals xs.reverse us.reverse
 |_,_,.nil=>.nil
 |_,_,.cons r t=>by rw[xX,xX];exact(GP t).append (.cons r .nil)
end
end L2
namespace Mi
open PySem
def Sq(ys:List Str):Str:=ys.foldl (· ++ ·) e6
end Mi
namespace Mi
def RM(b:Bool):Int:=if b=true then 1 else 0
end Mi
namespace L2
open PySem PySem.Spec PyProof.Rows
section
variable{P:aW}{w:aQ}{A:a7}{E:ah->ak->Prop}{s:ak}{l I:ag}{am:Array ah}
theorem NV:typeLookup (.type "list_reverseiterator") "__len__" = pure ae:=by rw[typeLookup_type,builtinLookup_eq_fast];kernel_rfl
theorem OQ:typeLookup (.type "list_reverseiterator") "__length_hint__" = pure (aa (.builtin "list_reverseiterator.__length_hint__")):=by rw[typeLookup_type,builtinLookup_eq_fast];kernel_rfl
theorem Q3:isSubtype (.type "list_reverseiterator") (.type "list_reverseiterator")=pure true:=by rw[isSubtype_type];kernel_rfl
theorem Sy{i:Int}{Q:Bool->ak->Prop}(x:s.heap.IsRevIter I l i)(h:Q false s):wpAny (model P w) A (Kk (.ref I)) Q E s:=by
 unfold Kk;refine ar (uX x.typeIs NV ?_);show wpAny _ A (specialOf (bB I) (kA "__length_hint__") >>= _) _ _ _;refine ar (uX x.typeIs OQ ?_);generalize hid:("list_reverseiterator.__length_hint__" : String)=id0
 (fail_if_success (clear hid id0))
 wp_delta
 rw[show splitId id0=aa ("list_reverseiterator","__length_hint__")from by subst hid;decide +kernel];subst hid;refine ar (Br (b:=true) x.typeIs Q3 ?_);rw[aG (by decide)];dsimp only;rw[aF (by decide +kernel)]
 first
 |exact bh h
 |(rw[aG (by decide +kernel)];exact bh h)
theorem SR{R:ot->ak->Prop}(hh:A.handled=ae)(x:s.heap.IsRevIter I l ((am.size:Int)-1))(hl:s.heap.IsList l am)(hne:l≠I)(S:ag)(hSI:S≠I)(hSl:S≠l)(hS:s.heap.get? S=aa { cls:=.type "list", data:=.seq #[] })
 (hR:∀h' tk acc' c',(∀b o,b≠S->b≠I->s.heap.get? b=aa o->h'.get? b=aa o)->h'.get? S=aa { cls:=.type "list", dict:=ae,data:=.seq acc' c',slots:=#[] }->ItemsOf (λi v=>am[am.size-1-i]? = aa v) acc' am.size->R (.ok (.ret .none)) { s with heap:=h',toks:=tk }) (hn:am.size<=sizeLine) :
 wpAny (model P w) A.in1 (jA.«list.__init__» ⟨[.ref S,.ref I],[]⟩)
  (λfin s'=>match fin with|.done f=>R (.ok f) s'|.again c'=>c'.quiet=true/\codeAny (model P w) A c' R s') (λe s'=>R (.error e) s') s:=by
 show wpAny _ _ (do let old <- yw (.ref S);Builtin.List.listUpdate (.ref S) (λ_=>#[]);letGo old.toList.reverse;Cg (.ref S) (.ref I) .none) _ _ s;refine ar ?_;unfold yw;refine ar (sh hS rfl (bh ?_));show wpAny _ _ (updateSeq S (λ_=>#[]) >>= λ_=>letGo (#[]:Array ah).toList.reverse >>= λ_=>Cg (.ref S) (.ref I) .none) _ _ s;refine ar (xG hS rfl ?_);have hS₂:=kh (eg (λ_=>(#[]:Array ah))) hS rfl;have oth:∀b o,b≠S->s.heap.get? b=aa o->(s.heap.update S (eg (λ_=>(#[]:Array ah)))).get? b=aa o:=
  λb o hb e=>(kg _ _ (bU hb)).trans e
 refine ar (wpAny_letGo ?_);generalize hh2:s.heap.update S (eg (λ_=>(#[]:Array ah)))=h2 at hS₂ oth ⊢;have x2:h2.IsRevIter I l ((am.size:Int)-1):=x.at λo e=>oth I o (bU hSI) e;have l2:h2.IsList l am:=hl.at λo e=>oth l o (bU hSl) e;have W:=(Walks.listRev (prog:=P) (w:=w) (A:=A.in1) hh I l hne am);have hSf:S∉[I,l]:=by simp only[bn,ki,jI,not_or];exact⟨hSI,hSl⟩
 have st0:(λi (h:ay)=>i<=am.size/\h.IsRevIter I l ((am.size:Int)-1-(i:Int))/\h.IsList l am) 0 h2:=⟨ft _,by rw[show(am.size:Int)-1-((0:Nat):Int)=(am.size:Int)-1 by omega];exact x2,l2⟩;unfold Cg;refine ar (wpAny_typeOf (s:={ s with heap:=h2 }) x2.typeIs ?_);have h1:Kl (.ref S) (.ref I)=false:=by simp[Kl,hSI]
 rw[aG (by rw[h1];decide)];refine ar (wpAny_pyIter_revIter (s:={ s with heap:=h2 }) x2 ?_);refine ar (iJ (Sy (s:={ s with heap:=h2 }) x2 ?_));have key:∀(h:ay) (c₁ tk:Nat),(λi (h:ay)=>i<=am.size/\h.IsRevIter I l ((am.size:Int)-1-(i:Int))/\h.IsList l am) 0 h->(∀b o,b≠S->s.heap.get? b=aa o->h.get? b=aa o) ->
  h.get? S=aa { cls:=.type "list",data:=.seq #[] c₁ }->codeAny (model P w) A (.builtin "list.extend.loop" ⟨[.ref S,.ref I,.none],[]⟩) R { s with heap:=h,toks:=tk }:=by
  intro h c₁ tk hst hk hS₁;refine codeAny_extend_loopS W.toS hn S hSf .none am.size 0 _ #[] c₁ rfl (ft _) hst hS₁ (ItemsOf.nil _) λs' acc' c' hm hS' hacc=>?_;rw[Moved.eq_with hm];refine hR s'.heap s'.toks acc' c' (λb o hb hb2 e=>hm.heap b o (λhmem=>?_) (hk b o hb e)) hS' hacc;rcases bn.mp hmem with e'|hmem
  ·exact hb e'
  ·exact hb2 (dI.mp hmem)
 refine wpAny_ite_split (λ_=>?_) (λ_=>bh ⟨xI J5 _,key _ _ _ st0 oth hS₂⟩);refine ar (xM ?_);refine ar ?_;show wpAny _ _ (updateSeq S (·.push .none) >>= λ_=>updateSeq S (·.pop)) _ _ _;refine ar (xG (s:={ s with heap:=h2 }) hS₂ rfl ?_);have hS₃:=kh (eg (·.push dD)) hS₂ rfl;refine xG (hz:=by seq_fits) hS₃ rfl ?_;have hS₄:=kh (eg (·.pop)) hS₃ rfl;refine bh ⟨xI J5 _,key _ _ _ ?_ (λb o hb e=>?_) hS₄⟩
 ·refine W.frame 0 _ _ st0 λb hb o e=>?_;have hbS:b≠S:=λh=>hSf (h ▸ hb);exact(kg _ _ (bU hbS)).trans ((kg _ _ (bU hbS)).trans e)
 ·exact(kg _ _ (bU hb)).trans ((kg _ _ (bU hb)).trans (oth b o hb e))
theorem Np{Q:ah->ak->Prop}(hh:A.handled=ae)(x:s.heap.IsRevIter I l ((am.size:Int)-1))(hl:s.heap.IsList l am)(hne:l≠I)(hn:am.size<=sizeLine)
 (hQ:∀h' tk acc' c',(∀b o,b≠I->s.heap.get? b=aa o->h'.get? b=aa o)->h'.get? s.heap.objs.size=aa { cls:=.type "list", dict:=ae,data:=.seq acc' c',slots:=#[] }->acc'.toList=am.toList.reverse->Q (.ref s.heap.objs.size) { s with heap:=h',toks:=tk }) :
 wpAny (model P w) A (call (.type "list") [.ref I]) Q E s:=by
 refine callType_codes (Q₁:=λobj s₁=>obj=.ref s.heap.objs.size/\s₁={ s with heap:=s.heap.push { cls:=.type "list", data:=.seq #[] } }) PySem.F.called_list (PySem.F.typeCall_list_1 _) PySem.F.entry_list_init
  (code_list_new _ ⟨rfl,rfl⟩) λobj s₁ h₁=>?_
 obtain⟨rfl,rfl⟩:=h₁;have hS:(s.heap.push { cls:=.type "list",data:=.seq #[] }).get? s.heap.objs.size=aa { cls:=.type "list", data:=.seq #[] }:=dj _ rfl;have ltI:I<s.heap.objs.size:=let ⟨o,e,_⟩:=x;bE e;have ltl:l<s.heap.objs.size:=let ⟨o,e,_⟩:=hl;bE e;refine⟨⟨_,hS,rfl⟩,PySem.F.args_list_init_2 _ _,SR (A:=A.in1) hh (x.at λo e=>br _ e) (hl.at λo e=>br _ e) hne _ (nA ltI) (nA ltl) hS (λh' tk acc' c' hk hS' hacc=>?_) hn⟩;exact⟨rfl,hQ h' tk acc' c' (λb o hb e=>hk b o (eF (bE e)) hb (br _ e)) hS' (R4 hacc)⟩
end
end L2
namespace Mi
def z7:D->Rs D
 |.lst ds=>ba (ds.length<=1000) (.ok (.lst ds.reverse))
 |_=>.no
end Mi
namespace L2
open PySem PySem.Spec PyProof.Rows A
variable[Tb:bD]
section
variable{X:Cx}
def qQ(p a:ag)(n:Nat):ay->Prop:=λh=>h.IsRevIter p a ((n:Int)-1)
def FG(X:Cx):List V->Hp->VK->Prop:=λxs H Q=>∃a ys,xs=[V.ref a]/\Lst H a ys/\ys.length<=1000/\∀p,H p=ae->X.s₀.heap.objs.size<=p->Q (.ref p) (upd H p (.ext (qQ p a ys.length)))
theorem N3:fj X (.type "reversed") (FG X):=by intro af s σ H xs us Q I r h;obtain⟨a,ys,rfl,ha,hl,q⟩:=h;obtain⟨u,rfl,ru⟩:=vals1 r;cases ru;obtain⟨am,n,rv,hz,ho⟩:=oO I ha;have e:=rv.length;refine call_reversed_list (items:=am.toArray) ⟨_,ho,rfl,_,rfl⟩ ?_;refine⟨.ref s.heap.objs.size,_,I.laid (a:=s.heap.objs.size) (o:=.ext (qQ s.heap.objs.size a ys.length)) (t':=s.toks) (λ_ _ q=>br _ q) (bu _) ⟨⟨_,dj _ rfl,rfl,?_⟩,⟨_,dj _ rfl⟩,λh1 h2 z k=>z.at k⟩,rfl,q _ I.fresh I.sz⟩;show Data.fields _=_;rw[cz,e]
def EE(X:Cx):List V->Hp->VK->Prop:=λxs H Q=>∃p a ys,xs=[V.ref p]/\H p=aa (.ext (qQ p a ys.length))/\X.s₀.heap.objs.size<=p/\Lst H a ys/\ys.length<=1000/\∀r,mX H p r=ae->Q (.ref r) (upd (mX H p) r (.lst ys.reverse))
theorem ML(hc:X.calm=true):fj X (.type "list") (EE X):=by
 intro af s σ H xs us Q I r h;obtain⟨p,a,ys,rfl,hp,hs0,ha,hl,q⟩:=h;obtain⟨u,rfl,ru⟩:=vals1 r;cases ru;obtain⟨am,n,rv,hz,ho⟩:=oO I ha;obtain⟨x,_,_⟩:=(show bI X.prog X.w H s.heap p (.ext (qQ p a ys.length))from I.hok p _ hp);have e:=rv.length;have x:s.heap.IsRevIter p a ((am.toArray.size:Int)-1):=by rw[cz,<- e];exact x
 have hne:a≠p:=λz=>by
  subst z;rcases ha with ha|⟨o,ha⟩<;>rw[ha]at hp<;>cases hp
 have np:∀b,H b=ae->b≠p:=λb n z=>by subst z;rw[hp]at n;cases n
 have nt:∀b u,H b=aa u->u≠.ext (qQ p a ys.length)->b≠p:=λb u n m z=>by subst z;rw[hp]at n;exact m (gZ n).symm
 refine Np (I.ok.hd hc) x ⟨_,ho,rfl,_,rfl⟩ hne (by rw[cz];omega) λh' tk acc' c' hk hD hacc=>?_;have I1:Inv X af σ (mX H p) { s with heap:=h',toks:=tk }:=by
  refine I.step (g':=s.gens) (d':=s.drawn) (ch:=[p]) (λb hb=>?_) (λb o _ _ hc e _=>hk b o (λz=>hc (by simp[z])) e) (λb o _ _ hc e _=>⟨o.slots,hk b o (λz=>hc (by simp[z])) e⟩) (λb o hc e n=>by rw[n6 (λz=>hc (by simp[z]))];exact n)
   (λb o hc e=>⟨o,hk b o (λz=>hc (by simp[z])) e⟩) (λb xs e=>by rw[n6 (nt b _ e (by simp))];exact e) (λb o u e=>by rw[n6 (nt b _ e (by simp))];exact e) (λb w ps e=>⟨#[],by rw[n6 (nt b _ e (by simp)),e];simp⟩) (λm hm=>?_) (λb u e=>?_) I.bare
  ·cases dI.mp hb;exact⟨.inr hs0,(np _ I.free).symm,λx c e=>np c (I.gf x c e),λy hy=>np y.1 (I.pin y hy).2.1⟩
  ·obtain⟨o,es,ep,ho,r⟩:=hm;exact⟨o,es,ep,hk _ o (np _ I.free) ho,r⟩
  ·have hb:b≠p:=λz=>by subst z;unfold mX at e;rw[aF rfl]at e;cases e
   rw[n6 hb]at e;refine(I.hok b u e).stay (λc v hc z=>hk c v ?_ z) (λc z=>by rw[n6 (nt c _ z (by simp))];exact z) λc xs z=>by rw[n6 (nt c _ z (by simp))];exact z
   rcases hc with rfl|hc
   ·exact hb
   ·exact nt c _ hc (by simp)
 have fr:mX H p s.heap.objs.size=ae:=by rw[n6 (np _ I.fresh)];exact I.fresh
 have ea:acc'=am.reverse.toArray:=by rw[<- vf];rw[hacc]
 rw[ea]at hD;exact⟨.ref s.heap.objs.size,_,adopt (s:={ s with heap:=h',toks:=tk }) (h':=h') (t':=tk) (o:=.lst ys.reverse) I1 (fp:=[s.heap.objs.size]) (λb hb=>by rw[dI.mp hb];exact I.jd (bu _) fr) (dI.mpr rfl) (λb u _ e=>e) ⟨by rw[sD];exact hz,am.reverse,c',GP rv,hD⟩,rfl,q _ fr⟩
end
end L2
namespace A
open PySem L2 PyProof.Rows
open Mi (D W Rs Fin aw)
variable[Tb:bD]{M:Nat->Bool}
theorem QL{X:Cx}{ta:TE}{a:Mi.E}(ha:AE M qP ta a):AE M qN (lL (EE X) (dY (lL (FG X) (dY ta fg)) fg)) (Mi.m1 Mi.z7 a):=λe σ H Hv Q I h=>
 ha e σ H Hv _ I ((aw.mp h).mono λd hd v H1 Hv1 g1 r=>by
  cases d with
  |lst ds=>
   obtain⟨hl,hd⟩:=Mi.cK hd;obtain⟨a,xs,rfl,ha,c⟩:=RD.lst g1.vw r;have e:=c.len;refine⟨a,xs,rfl,ha,by omega,λp hp hs=>⟨p,a,xs,rfl,aY,hs,?_,by omega,λr hr=>?_⟩⟩
   ·rcases ha with ha|⟨o,ha⟩
    ·exact .inl (by rw[av (cQ ha hp)];exact ha)
    ·exact .inr ⟨o,by rw[av (cQ ha hp)];exact ha⟩
   have ed:mX (upd H1 p (.ext (qQ p a xs.length))) p=H1:=by
    funext b;unfold mX;split
    ·rename_i z;rw[z,hp]
    ·rename_i z;exact av z
   rw[ed]at hr ⊢;obtain⟨g2,k⟩:=vt g1.vw c.rev hr;exact hd (.ref r) _ _ (g1.trans g2) (KM.mono (κ:=qN) g1.old k)
  |_=>exact hd.elim)
end A
namespace PySem
open Sem (wp)
section
variable{prog:aW}{w:aQ}{A:a7}{E:ah->ak->Prop}{h:ay}{g:Array GenState}{d:Drawn}{t:Nat}{os:OsState}
variable{nm q:Str}{C N:ag}{bs bm bmB:List ah}{hdct:Bool}{sn:List Str}{sub:List ah}{ab:Bool}{col:Option Bool}{dd:Option ag}{k0 k1 k2 k3 k5:Option ah}{B newId initId:String}
theorem M1(F:oo B newId initId bmB)(T:OwnTail h bmB bm){mN:Str->Option ah}{rest:List ah}{fI:ag}{oI:Obj}{Q:Fin->ak->Prop}
 (hC:h.get? C=aa (excClassObj nm q C N bs bm hdct sn sub ab col dd k0 k1 k2 k3 k5 newId)) (hn:h.Ns N mN) (hi:mN "__init__" = aa (.ref fI))
 (hfI:h.get? fI=aa oI) (hfc:oI.cls=.type "function")
 (hq:∀h' e,BE h h' e (.ref C) rest ->
  wpAny (model prog w) A (call (.ref fI) (.ref e::rest)) (λr s'=>r=.none/\Q (.done (.ret (.ref e))) s') E ⟨h',g,d,t,os⟩) (hrest:rest.length<=sizeLine:=by size_fits) :
 wpAny (model prog w) A (jA.«type.__call__» ⟨.ref C::rest,[]⟩) Q E ⟨h,g,d,t,os⟩:=by
 repeat (first|with_reducible refine uW hC ?_|with_reducible refine wpAny_madeBy_exc hC ?_|wp_step)
 refine codeAny_call_builtin_code (Cj _ F.quiet) (wpAny_check_new_subT F T hC ?_);refine codeAny_exc_new_subT F T hC ?_ hrest;show wpAny _ _ _ _ _ _;have hC₁:=br { cls:=.ref C,data:=.fields #[.ref h.objs.size,.none,.none,.none,.bool false,.none] }
  (br { cls:=.type "tuple", data:=.seq rest.toArray } hC)
 have hfI₁:=br { cls:=.ref C,data:=.fields #[.ref h.objs.size,.none,.none,.none,.bool false,.none] }
  (br { cls:=.type "tuple", data:=.seq rest.toArray } hfI)
 have hn₁:((h.push { cls:=.type "tuple", data:=.seq rest.toArray }).push { cls:=.ref C,data:=.fields #[.ref h.objs.size,.none,.none,.none,.bool false,.none] }).Ns N mN:=let ⟨o,es,ep,e,r⟩:=hn;⟨o,es,ep,br _ (br _ e),r⟩
 have hget:((h.push { cls:=.type "tuple", data:=.seq rest.toArray }).push
  { cls:=.ref C,data:=.fields #[.ref h.objs.size,.none,.none,.none,.bool false,.none] }).get? (h.objs.size+1)=aa
  { cls:=.ref C,data:=.fields #[.ref h.objs.size,.none,.none,.none,.bool false,.none] }:=by heap_get
 have hcC:(bB C::bm).contains (.ref C)=true:=by simp
 have T₁:=T.keeps (h':=(h.push { cls:=.type "tuple", data:=.seq rest.toArray }).push { cls:=.ref C,data:=.fields #[.ref h.objs.size,.none,.none,.none,.bool false,.none] })
  λb o e=>br _ (br _ e)
 unfold isInstance
 repeat (first|with_reducible refine uW hget ?_|(with_reducible refine wpAny_isSubtype_exc hC₁ ?_;rw[hcC])|wp_step)
 show wpAny _ _ (typeLookup (.ref C) _) _ _ _;refine wpAny_typeLookup_tail hC₁ hn₁ T₁ F.mroIs F.init.lookup ?_;rw[hi];refine iJ (ar ?_);unfold bindSpecial;refine ar (wpAny_typeOf (T := "function") ⟨_,hfI₁,hfc⟩ ?_);rw[aF (by decide)];refine bh (ar (e5 (hq _ (h.objs.size+1) ⟨λb o hb=>br _ (br _ hb),BC (Nat.le_succ _),h.objs.size,hget,BC (bu _),?_⟩) (λr s' hr=>?_) λ_ _ x=>x))
 ·exact br _ (JG rfl rfl)
 ·obtain⟨rfl,hQ⟩:=hr
  wp_walk
  exact hQ
theorem Pq(F:oo B newId initId bmB)(T:OwnTail h bmB bm){mN:Str->Option ah}{rest:List ah}{fI:ag}{oI:Obj}{Q:ah->ak->Prop}
 (hC:h.get? C=aa (excClassObj nm q C N bs bm hdct sn sub ab col dd k0 k1 k2 k3 k5 newId)) (hn:h.Ns N mN) (hi:mN "__init__" = aa (.ref fI))
 (hfI:h.get? fI=aa oI) (hfc:oI.cls=.type "function")
 (hq:∀h' e,BE h h' e (.ref C) rest ->
  wpAny (model prog w) (A.under (.builtin "type.__call__" ⟨.ref C::rest,[]⟩)) (call (.ref fI) (.ref e::rest)) (λr s'=>r=.none/\Q (.ref e) s') E ⟨h',g,d,t,os⟩) (hrest:rest.length<=sizeLine:=by size_fits) :
 wpAny (model prog w) A (call (.ref C) rest) Q E ⟨h,g,d,t,os⟩:=by
 have f1:=tc_lookup;have f2:=tc_bind (.ref C);have hT:(⟨h,g,d,t,os⟩ : ak).TypeIs (.ref C) "type" := ⟨_,hC,rfl⟩;refine na (codeAny_of_tree ?_);show wpAny _ _ (callAny (.ref C) _) _ _ _
 repeat (any_goals (first|assumption|with_reducible refine uW hC ?_|wp_step))
 refine⟨rfl,?_⟩;refine codeAny_call_builtin_at (Cj _ (by decide +kernel)) entry_typeCall (wpAny_check_type_call_sub hC (M1 (hrest:=hrest) F T hC hn hi hfI hfc λh' e hm=>?_));exact hq h' e hm
theorem P6{s:ak}{x:Sem ah}{env:Env}{Q:Flow->ak->Prop}{M:kZ}(hbase:bm.contains (.type "BaseException")=true)(hh:A.handled=ae)
 (hx:wpAny M A x (λv s₁=>∃e t dc sl,v=.ref e/\s₁.heap.get? C=aa (excClassObj nm q C N bs bm hdct sn sub ab col dd k0 k1 k2 k3 k5 newId) /\
  s₁.heap.get? e=aa { cls:=.ref C,dict:=dc,data:=.fields #[.ref t,.none,.none,.none,.bool false,.none],slots:=sl }/\E (.ref e) s₁) E s) :
 wpAny M A (raiseStmt env (aa x) ae) Q E s:=by
 have hcB:(bB C::bm).contains (.type "BaseException")=true:=by rw[JX,hbase,Bool.or_true]
 unfold raiseStmt;refine ar (e5 hx (λv s₁ h₁=>?_) λ_ _ x=>x);obtain⟨e,t,dc,sl,rfl,hC,he,hE⟩:=h₁;obtain⟨hp,g,d,tk,os⟩:=s₁
 repeat (first|with_reducible refine uW he ?_|with_reducible refine uW hC ?_|(with_reducible refine wpAny_isSubtype_exc hC ?_;rw[hcB])|wp_step)
 exact wpAny_raiseNew_none hh hE
end
end PySem
namespace PySem.W
open PySem PySem.Spec PySem.Calls PyProof.Rows Builtin Builtin.ObjectAttr
def NQ:List ah:=[.type "ValueError",.type "Exception",.type "BaseException",.type "object"]
def rY:List ah->Bool
 |[]=>false
 | v::r=>(v::r)==NQ||match v with
  |.ref _=>rY r
  |_=>false
theorem DR(self:ah):∀{l:List ah},rY l=true->refuseLoop self "__setattr__" l=pure ()
 |[],e=>by cases e
 |v::r,e=>by
  unfold rY at e;rcases JZ.mp e with q|q
  ·rw[f7.mp q];exact PySem.F.store_ValueError.passes self
  ·split at q
   ·rw[refuseLoop_ref];exact DR self q
   ·cases q
theorem DG:∀{l:List ah},rY l=true->l.contains (.type "object")=true
 |[],e=>by cases e
 |v::r,e=>by
  unfold rY at e;rcases JZ.mp e with q|q
  ·rw[f7.mp q];decide +kernel
  ·split at q
   ·rw[JX,DG q,Bool.or_true]
   ·cases q
def yJ(K:Frag)(C:ag):Bool:=(clsIn K C).any λcd=>rY cd.mro&&cd.hasDict
section
variable{prog:aW}{w:aQ}{A:a7}{E:ah->ak->Prop}{s:ak}{K:Frag}{x C:ag}{ox:Obj}{name:Str}{v:ah}{Q:Unit->ak->Prop}
theorem Qg(X:K.In s.heap)(hx:s.heap.get? x=aa ox)(hc:ox.cls=.ref C)(hnc:∀c,ox.data≠.cls c)(hd:ox.dict=ae)
 (hs:findIn K (.ref C) "__setattr__" = aa (aa (.builtin "object.__setattr__"))) (hp:yJ K C=true) (ht:takerIn K C name=aa ae)
 (h:∀h' tk,h'.get? x=aa { ox with dict:=aa s.heap.objs.size }->(∀b o,b≠x->s.heap.get? b=aa o->h'.get? b=aa o)->h'.Ns1 s.heap.objs.size (λy=>if y=name then aa v else ae)->Q () { s with heap:=h',toks:=tk }) :
 wpAny (model prog w) A (setAttr (.ref x) name v) Q E s:=by
 obtain⟨hh,g,d,t,os⟩:=s;have SF:=PySem.F.store_object;have IT:∀{M:kZ},Looks M hh (typeOf (.ref x)) (.ref C):=λ{M}=>hc ▸ (Looks.ld hx).andThen .now;obtain⟨cd,hcd,ho⟩:=any_some hp;obtain⟨hov,hdt⟩:=lb.mp ho;have ne:cd.mro.isEmpty=false:=by cases q:cd.mro with|nil=>rw[q]at hov;cases hov|cons _ _=>rfl
 have sub:Looks (model prog w) hh (isInstance (.ref x) (.type "object")) true:=IT.andThen (xU X (by unfold mroIn;rw[hcd,Option.bind_some,aG (by rw[ne];decide),DG hov]));have hm:Looks (model prog w) hh (mroOf (.ref C)) cd.mro:=(looks_clsIn X hcd).andThen .now;obtain⟨attr,ha,hr⟩:=Option.bind_eq_some_iff.mp ht;have L3:Looks (model prog w) hh (storeTaker? attr) ae:=by
  cases attr with
  |none=>exact .now
  |some a=>
   obtain⟨b,hb,hr⟩:=oA.mp hr;refine(looks_takesIn X hb).andThen ?_;cases b with
   |true=>cases hr
   |false=>exact .now
 refine ar (wpAny_mkText (ar (ar (ar (IT _ _ _ _ (λ_ _ e=>e) (qf X hs _ _ _ _ (λ_ _ e=>e) (iJ ?_)))))));rw[SF.slot.bind];refine ar (bh (ar (na ?_)));refine r0 SF.slot.plain SF.entry (@check_slot (model prog w) _ _ ⟨hh,g,d,t+1,os⟩ "object.__setattr__" "object" "__setattr__" (.ref x) [.str name t,v] [] _ SF.kind SF.split sub (SF.args (.ref x) (.str name t) v) ?_);show wpAny _ _ (jA.«object.__setattr__» ⟨[.ref x,.str name t,v],[]⟩) _ _ _;rw[osa_eq,refuse_eq];refine ar (ar (sO (s:=⟨hh,g,d,t+1,os⟩) IT (ar (sO (s:=⟨hh,g,d,t+1,os⟩) hm ?_))));rw[DR _ hov];refine bh (ar (sO (s:=⟨hh,g,d,t+1,os⟩) IT (ar (sO (s:=⟨hh,g,d,t+1,os⟩) (qf X ha) (ar (sO (s:=⟨hh,g,d,t+1,os⟩) L3 ?_))))));dsimp only;refine ar (bh (ar (ar (wpAny_loadPart hx ?_))));rw[hc];refine ar (sO (s:=⟨hh,g,d,t+1,os⟩) (looks_clsIn X hcd) ?_);rw[hdt,hd];simp only[yj,lX,fX];rw[aG (by simp[typeHasDict])];have hx₁:(hh.push { cls:=.type "dict",data:=.dict #[] }).get? x=aa ox:=br _ hx;have hxs:x≠hh.objs.size:=eF (bE hx);refine ar (wpAny_alloc' ?_);refine ar (wpAny_update' hx₁ ?_);refine bh ?_;have hgd:((hh.push { cls:=.type "dict", data:=.dict #[] }).update x λo=>{ cls:=o.cls,dict:=aa hh.objs.size,data:=o.data,slots:=o.slots }).get? hh.objs.size
  = aa { cls:=.type "dict", data:=.dict #[] }:=
  (BD _ _ _ _ hxs.symm).trans (JG rfl rfl)
 have hnd:((hh.push { cls:=.type "dict", data:=.dict #[] }).update x λo=>{ cls:=o.cls,dict:=aa hh.objs.size,data:=o.data,slots:=o.slots }).Ns hh.objs.size (λ_=>ae):=⟨_,#[],_,hgd,rfl,λe he=>absurd he (by simp),λ_=>rfl⟩
 show wpAny _ _ (storeInDict hh.objs.size (.str name t) name v) _ _ _;unfold storeInDict newKeyGuard;refine ar (bh (ar (wpAny_nsSet1 (Heap.Ns1.of_empty hnd) λh' hn' hs=>?_)));obtain⟨oD,esD,epD,hoD,hdD,hcD⟩:=hn'.count (Within.cons name v Within.nil);refine ar (wpAny_lookBehind hoD (by rw[hdD];exact pastItsLine_dict (d9 hcD (by rw[dq,nu,cD];omega))) ?_);refine bh (bh (bh (h h' _ ?_ (λb o hb q=>(hs.2 b (eF (bE q))).trans ((BD _ _ _ _ hb).trans (br _ q))) hn')));refine(hs.2 x hxs).trans (kh _ hx₁ ?_);have hfr:=(Heap.get?_some_iff.mp hx).2;obtain⟨oc,od,odt,osl⟩:=ox;cases odt<;>first|rfl|exact hfr
end
end PySem.W
namespace PySem
section
variable{prog:aW}{w:aQ}{A:a7}{R:ot->ak->Prop}{h:ay}{g:Array GenState}{d:Drawn}{t:Nat}{os:OsState}
variable{nm q:Str}{C N:ag}{bs bm bmB:List ah}{hdct:Bool}{sn:List Str}{sub:List ah}{ab:Bool}{col:Option Bool}{dd:Option ag}{k0 k1 k2 k3 k5:Option ah}{B newId initId:String}
theorem Om(F:oo B newId initId bmB)(T:OwnTail h bmB bm){rest:List ah}{e:ag}{oe:Obj}{vs:Array ah}
 (hC:h.get? C=aa (excClassObj nm q C N bs bm hdct sn sub ab col dd k0 k1 k2 k3 k5 newId)) (he:h.get? e=aa oe) (hcls:oe.cls=.ref C) (hd:oe.data=.fields vs) {t0:ag} (h0:vs[0]? = aa (.ref t0)) (hrest:rest.length<=sizeLine)
 (hq:R (.ok (.ret .none)) ⟨(h.push { cls:=.type "tuple", data:=.seq rest.toArray }).update e (jE (·.setIfInBounds 0 (.ref h.objs.size))),g,d,t,os⟩) :
 codeAny (model prog w) A (.call (.builtin initId) ⟨.ref e::rest,[]⟩) R ⟨h,g,d,t,os⟩:=by
 refine r0 F.init.plain F.initEntry (wpAny_check_init_subT F T hC he hcls ?_);have he₁:=br (h:=h) { cls:=.type "tuple", data:=.seq rest.toArray } he;unfold jA.«BaseException.__init__»
 wp_walk
 rw[hd];refine bh ?_;rw[h0];refine bh (ar (sk he₁ hd (sM.mp h0).1 ?_))
 wp_walk
 exact hq
end
end PySem
namespace L2
open PySem PySem.Spec PyProof.Rows
structure n9(x:Str)(C fI:ag)(bmB:List ah)(newId:String)(mg:Str->Option ah)(h:ay):Prop where
 bound:mg x=aa (.ref C)
 obj:∃(tl:List ah) (N:ag) (nm q:Str) (bs:List ah) (hdct:Bool) (sn:List Str) (sub:List ah) (ab:Bool) (col:Option Bool) (dd:Option ag) (k0 k1 k2 k3 k5:Option ah) (mN:Str->Option ah),
  h.get? C=aa (excClassObj nm q C N bs tl hdct sn sub ab col dd k0 k1 k2 k3 k5 newId)/\h.Ns N mN/\mN "__init__" = aa (.ref fI)/\OwnTail h bmB tl
def dU(a C:ag)(b:Option ag):ay->Prop:=λh=>∃o t,h.get? a=aa o/\o.cls=.ref C/\o.dict=b/\o.data=.fields #[.ref t,.none,.none,.none,.bool false,.none]
theorem z0{P:aW}{w:aQ}{H:Hp}{h:ay}{a C:ag}{b:Option ag}(e:dU a C b h):bI P w H h a (.ext (dU a C b)):=by have e':=e;obtain⟨o,t,h1,_⟩:=e';exact⟨e,⟨o,h1⟩,λk1 k2 ⟨o,t,q1,q2⟩ kk=>⟨o,t,kk o q1,q2⟩⟩
section
variable{X:Cx}{af:List (ag×Obj)}{σ:St}{H:Hp}{s:ak}
theorem Inv.newX{h':ay}{e:ag}{o:HO}(I:Inv X af σ H s)(k:∀b u,s.heap.get? b=aa u->h'.get? b=aa u)(he:s.heap.get? e=ae)(new:bI X.prog X.w (upd H e o) h' e o):Inv X af σ (upd H e o) { s with heap:=h' }:=by
 have hn:H e=ae:=I.hok.none_of he;have ne:∀{b u},s.heap.get? b=aa u->b≠e:=λ{b u} q z=>by rw[z,he]at q;cases q
 have nh:∀{b u},H b=aa u->b≠e:=λ{b u} q z=>by rw[z,hn]at q;cases q
 refine I.un (t':=s.toks) ⟨λb u q _ _ _=>k b u q,λb u q _ _ _=>⟨u.slots,k b u q⟩,λb u q z _=>by rw[av (ne q)];exact z,λb u q _=>⟨u,k b u q⟩,λb xs q=>by rw[av (nh q)];exact q,λb o' u q=>by rw[av (nh q)];exact q,λb w ps q=>⟨#[],by rw[av (nh q),Array.append_empty];exact q⟩⟩ ?_;exact(I.hok.kept k).track hn new
theorem Me{x:Str}{C fI:ag}{bm:List ah}{B newId initId:String}{k:Nat}{fd:bA}{ps:List Str}{sp:Sp}{E:XK}{us:List ah}{vs:List V}{Q:VK}(FB:oo B newId initId bm)(O:n9 x C fI bm newId X.mg X.base)
 (hf:xS X.K (.ref fI)=aa (.type "function")) (F:bw X.prog X.w X.K X.mg X.base aJ k fI fd ps sp) (hr:cA (k+1) X.A) (hb:Binds X.K fd ps []) (I:Inv X af σ H s) (r:Vals vs us) (hl:us.length<=100) (hex:X.ex=[])
 (h:∀e,H e=ae->X.s₀.heap.get? e=ae->sp (.ref e::vs) (upd H e (.ext (dU e C ae))) (λv H2=>v=.non/\Q (.ref e) H2) E) :
 wpAny (model X.prog X.w) X.A (call (.ref C) us) (EP X af σ Q) X.xe s:=by
 obtain⟨tl,N',nm,q,bs,hdct,sn,sub,ab,col,dd,k0,k1,k2,k3,k5,mN,hC,hN,hni,T⟩:=O.obj;obtain⟨oI,hoI,hcI⟩:=oA.mp hf;have hfI:s.heap.get? fI=aa oI:=I.dg _ _ hoI;obtain⟨hp,gs,d,t,os⟩:=s;refine Pq (h:=hp) FB (T.keeps I.bk) (I.bk _ _ hC) (hN.keeps I.bk) hni hfI hcI (λh' e m=>?_) (by rw[cD];omega);have hen:hp.get? e=ae:=m.new;have hs0:X.s₀.heap.get? e=ae:=by
  cases q:X.s₀.heap.get? e with
  |none=>rfl
  |some o=>
   obtain⟨o',z⟩:=I.base.there e o q (by rw[hex];simp);rw[hen]at z;cases z
 have nw:dU e C ae h':=by obtain⟨t,he,_⟩:=m.there;exact⟨_,t,he,rfl,rfl,rfl⟩
 have I2:Inv X af σ (upd H e (.ext (dU e C ae))) { heap:=h',gens:=gs,drawn:=d,toks:=t,os:=os }:=I.newX (s:=⟨hp,gs,d,t,os⟩) m.keeps hen (z0 nw);have hq:=h e (I.hok.none_of hen) hs0;have r2:Vals (V.ref e::vs) (bB e::us):=.cons rfl r;have hl2:(bB e::us).length=ps.length:=by rw[<- r2.length];exact F.len _ _ _ _ hq
 refine na (sm (F.run _ X.stack _ _ ⟨bB e::us,[]⟩ (bB e::us) _ _ E (hr.make C us []) (I2.env0.make C us []) (by have:=hb _ (bB e::us) I2.dg (by rw[iN];exact hl2);rwa [iN]at this) r2 hq) λres s' hq'=>?_);cases res with
 |error e=>exact hq'.elim
 |ok fl=>
  cases fl with
  |ret u=>
   obtain⟨v,H',I3,rv,ev,q3⟩:=I2.after hq';subst ev;exact⟨rv,⟨V.ref e,H',I3,rfl,q3⟩⟩
  |next=>exact fu hq'
  |brk=>exact fu hq'
  |cont=>exact fu hq'
def yG(C:ag)(sp:Sp)(E:XK)(h0:ay)(t:TA):TE:=λσ H Q=>t σ H λvs H1=>vs.length<=100/\∀e,H1 e=ae->h0.get? e=ae->sp (.ref e::vs) (upd H1 e (.ext (dU e C ae))) (λv H2=>v=.non/\Q (.ref e) H2) E
theorem GS{x:Str}{C fI:ag}{bm:List ah}{B newId initId:String}{k:Nat}{fd:bA}{ps:List Str}{sp:Sp}{E:XK}{e:aO}{es:List aO}{t:TA}{p pos:Pos}(FB:oo B newId initId bm)(O:n9 x C fI bm newId X.mg X.base)
 (hf:xS X.K (.ref fI)=aa (.type "function")) (hkp:jB X.K (.ref C)=true) (F:bw X.prog X.w X.K X.mg X.base aJ k fI fd ps sp) (hr:cA (k+1) X.A) (hb:Binds X.K fd ps []) (hg:Gl X x) (hex:X.ex=[]) (ha:PA X (e::es) t)
 (hdb:(x==("__debug__" : Str))=false:=by decide) (he:starEach (e::es) X.env=(false,eval e X.env)::starEach es X.env:=by rfl) (hpl:(backTo pos (starEach es X.env)).any (·.1)=false:=by rfl) :
 PE X (.Call (.Name x p) (e::es) [] pos) (yG C sp E X.s₀.heap t):=by
 intro af s σ H Q I h;refine qa (nO I hg O.bound ?_ hdb);refine xN (h₀:=X.base) I.ok.mod.kin hkp (aM (ha pos af s σ H _ I h) λus s1 ⟨vs,H1,I1,r,hl,q⟩=>⟨I1.dg,?_⟩) he hpl;exact Me (us:=us) FB O hf F hr hb I1 r (by rw[<- r.length];exact hl) hex q
def del(H:Hp)(a:ag):Hp:=λb=>if b=a then ae else H b
theorem yO{H:Hp}{a:ag}:del H a a=ae:=by unfold del;rw[aF rfl]
theorem pR{H:Hp}{a b:ag}(h:b≠a):del H a b=H b:=by unfold del;rw[aG h]
theorem uc{H:Hp}{a b:ag}(h:H b=ae):del H a b=ae:=by unfold del;split<;>first|rfl|exact h
theorem bY.del{P:aW}{w:aQ}{h:ay}{a:ag}{φ : ay->Prop}(x:bY P w H h)(e:H a=aa (.ext φ)):bY P w (L2.del H a) h:=λb o q=>by
 have hb:b≠a:=λz=>by rw[z,yO]at q;cases q
 rw[pR hb]at q;refine(x b o q).stay (λ_ _ _ z=>z) (λc z=>?_) λc xs z=>?_
 ·rw[pR (λy=>by rw[y,e]at z;cases z)];exact z
 ·rw[pR (λy=>by rw[y,e]at z;cases z)];exact z
theorem Inv.del{a:ag}{φ : ay->Prop}(I:Inv X af σ H s)(e:H a=aa (.ext φ)):Inv X af σ (L2.del H a) s:=by
 have ne:∀{b:ag} {o:HO},H b=aa o->(∀φ,o≠.ext φ)->b≠a:=λ{b o} q n z=>by rw[z,e]at q;cases q;exact n _ rfl
 refine⟨I.ok,I.os,I.bare,⟨I.base.keep,I.base.slot,λb o q z nx=>uc (I.base.free b o q z nx),I.base.there,λb xs q=>?_,λb o u q=>?_,λb w ps q=>?_⟩,I.loc,I.cell,uc I.free,λx c q=>uc (I.gf x c q),λp hp=>?_,I.hok.del e,I.len⟩
 ·have z:=I.base.tups b xs q;rw[pR (ne z λ_ y=>nomatch y)];exact z
 ·have z:=I.base.iS b o u q;rw[pR (ne z λ_ y=>nomatch y)];exact z
 ·obtain⟨m,z⟩:=I.base.iT b w ps q;exact⟨m,by rw[pR (ne z λ_ y=>nomatch y)];exact z⟩
 ·obtain⟨q1,q2,q3⟩:=I.pin p hp;exact⟨q1,uc q2,q3⟩
end
section
variable{P:aW}{w:aQ}{K:aB}{mg:Str->Option ah}{base:ay}{N:List Str}{qual:Str}{scope:dM}{f:ag}{cd:ah}{A:a7}{outer:List Env}{s:ak}{H:Hp}{E:XK}
theorem Qo{af:List (ag×Obj)}{σ:St}{H1:Hp}{s1:ak}{e C:ag}{b:Option ag}(I:Inv (cZ (cH P w) P w K mg base N qual scope f cd A outer s H E) af σ H1 s1)
 (m:H1 e=aa (.ext (dU e C b))) (hn:s.heap.get? e=ae) (q:E (.ref C) b (del H1 e)):(cZ (cH P w) P w K mg base N qual scope f cd A outer s H E).xe (.ref e) s1:=by
 have hfr:=I.ok.frames;have hl:s1.heap.FunFrames base (envOfC qual scope s.heap.objs.size f cd::outer):=I.stack;have x:ExcNew s1.heap e (.ref C) b:=by obtain⟨⟨o,t,he,hc,hdc,hd⟩,_⟩:=(show bI P w H1 s1.heap e (.ext (dU e C b))from I.hok e _ m);exact⟨_,_,he,⟨hc,hdc⟩,hd,rfl⟩
 have I':=I.del m;have B:Un (frs outer) [] H H1 s.heap s1.heap:=I.base;refine GV (base:=base) (s:=s1) hfr hl rfl x λh2 T hT n2 x2=>?_;have hTn:s1.heap.get? T=ae:=by
  cases q2:s1.heap.get? T with
  |none=>rfl
  |some o=>exact absurd (bE q2) (qp.mpr hT)
 have hTs:s.heap.get? T=ae:=by
  cases q2:s.heap.get? T with
  |none=>rfl
  |some o=>
   obtain⟨o',z2⟩:=B.there T o q2 (by simp);rw[hTn]at z2;cases z2
 have nn:∀b∈[e,T],s.heap.get? b=ae/\del H1 e b=ae:=λb hb=>by
  simp only[bn,ki,jI]at hb;rcases hb with rfl|rfl
  ·exact⟨hn,yO⟩
  ·exact⟨hTs,uc (I.hok.none_of hTn)⟩
 obtain⟨u1,u2⟩:=Bg I' n2 nn;exact⟨e,T,C,del H1 e,b,rfl,I.os,I.bare,u1,u2,(nn e (by simp)).1,(nn T (by simp)).1,(nn e (by simp)).2,(nn T (by simp)).2,x2,q⟩
theorem NI{x:Str}{C fI:ag}{bm:List ah}{B newId initId:String}{e:aO}{te:TE}{pos:Pos}(FB:oo B newId initId bm)(O:n9 x C fI bm newId mg base)
 (he:PE (cZ (cH P w) P w K mg base N qual scope f cd A outer s H E) e te) (hx:exec (.Raise (aa e) ae pos) (cZ (cH P w) P w K mg base N qual scope f cd A outer s H E).env=(do standAt pos;raiseStmt (cZ (cH P w) P w K mg base N qual scope f cd A outer s H E).env (aa (do let v <- eval e (cZ (cH P w) P w K mg base N qual scope f cd A outer s H E).env;standAt pos;pure v)) ae):=by rfl) :
 PS (cZ (cH P w) P w K mg base N qual scope f cd A outer s H E) (.Raise (aa e) ae pos) (λ_ σ H1=>te σ H1 λv H2=>∃ea b,v=.ref ea/\H2 ea=aa (.ext (dU ea C b))/\s.heap.get? ea=ae/\E (.ref C) b (del H2 ea)):=by
 intro af s1 σ H1 D I h;obtain⟨tl,N',nm,q,bs,hdct,sn,sub,ab,col,dd,k0,k1,k2,k3,k5,mN,hC,hN,hni,T⟩:=O.obj;rw[hx];refine ar (qc (P6 (C:=C) (nm:=nm) (q:=q) (N:=N') (bs:=bs) (bm:=tl) (hdct:=hdct) (sn:=sn) (sub:=sub) (ab:=ab) (col:=col) (dd:=dd) (k0:=k0) (k1:=k1) (k2:=k2) (k3:=k3) (k5:=k5) (newId:=newId) (T.hasType FB.hasBase) (I.ok.hd rfl) ?_));refine ar (aM (he af s1 σ H1 _ I h) λv s2 ⟨v',H2,I2,r,ea,b,ev,m,hn,q2⟩=>ar (qc (bh ?_)));subst ev;obtain rfl:v=bB ea:=r;obtain⟨⟨o,t,h1,h2,_,h3⟩,_⟩:=(show bI P w H2 s2.heap ea (.ext (dU ea C b))from I2.hok ea _ m);obtain⟨oc,od,odt,osl⟩:=o;simp only at h2 h3;subst h2 h3;exact⟨ea,t,od,osl,rfl,I2.bk _ _ hC,h1,Qo I2 m hn q2⟩
end
section
variable{X:Cx}
def gT(zs:List Str):PyData:=.list (zs.map sN)
theorem Hy:∀{zs:List Str} {us:List ah} (h:ay),Vals (zs.map V.str) us->ReadsAll h us (zs.map sN) []
 |[],_,h,.nil=>.nil
 |z::r,_,h,.cons a t=>by
  obtain⟨tk,rfl⟩:=a;exact .cons (as:=[]) (bs:=[]) (.str z tk) (Hy h t)
theorem G3:∀zs:List Str,Ko (zs.map sN)=0
 |[]=>rfl
 |z::r=>by simp[Ko,PyData.depth,G3 r]
theorem HD:∀zs:List Str,Km (zs.map sN)=true
 |[]=>rfl
 |z::r=>by simp[Km,Kq,HD r]
theorem G2:∀zs:List Str,Kn (zs.map sN)=false
 |[]=>rfl
 |z::r=>by simp[Kn,PyData.hasDict,G2 r]
theorem LJ{e:aO}{te:TE}{pos:Pos}(hg:X.A.guards=aa [])(hu:X.A.units+64<cLine)(he:PE X e te):FP X (.FormattedValue e 114 ae pos) λσ H=>te σ H λv H'=>H'=H/\∃(a:ag) (zs:List Str),v=.ref a/\dO X.K H a (zs.map V.str)/\(gT zs).shown.length<=100000:=λaf s σ H I h=>by
 refine Jl (aM (he af s σ H _ I h) λv s1 ⟨v',H',I',r,e2,a,zs,e1,hq,hz⟩=>?_);subst e1 e2;obtain rfl:v=bB a:=r;obtain⟨am,rv,⟨o,n,h1,h2,h3,h4⟩,_⟩:=I'.list hq;have hz':(gT zs).shown.length<=sizeLine:=by rw[cD];omega
 have rd:Reads s1.heap (.ref a) (gT zs) [a]:=.list (as:=[]) h1 h2 h4 (by rw[List.toList_toArray];exact Hy _ rv);refine pyReprObj_of_reads rd (by simp[gT,Kq,HD]) (λq=>by simp[gT,PyData.hasDict,G2]at q) hg (by rw[show(gT zs).depth=1 by simp[gT,PyData.depth,G3]];omega) (λ_ _ q=>q) (λh' u tk k=>?_) hz';have I2:Inv X af σ H' { s1 with heap:=h',toks:=tk }:=I'.kept k;exact wpAny_formatField_str ⟨_,_,rfl,hz,I2⟩ ⟨_,_,rfl,hz,I2.tok _⟩ hz'
structure Bb(K:aB)(mg:Str->Option ah)(y:Str)(CA:ag)(initId:String):Prop where
 bound:mg y=aa (.ref CA)
 ga:xO K (.ref CA) "__getattribute__" = aa (aa (.builtin "type.__getattribute__"))
 rd:JB K CA (.type "type")=true
 fc:JC K (.ref CA) (.type "type") "__init__" = aa (.val (.builtin initId))
 hd:By (.builtin initId)=true
def NS(C:ag)(ta tb:TE):TE:=λσ H Q=>ta σ H λv H1=>tb σ H1 λv2 H2=>∃ea b,v=.ref ea/\H2 ea=aa (.ext (dU ea C b))/\Q .non H2
theorem Sv{H:Hp}{a:ag}{o:HO}(h:H a=aa o):upd H a o=H:=by
 funext b;by_cases q:b=a
 ·rw[q,aY,h]
 ·rw[av q]
theorem QY{y x:Str}{C CA fI:ag}{bm:List ah}{B newId initId:String}{a b:aO}{ta tb:TE}{pl:Sem Bool}{np apos pos:Pos}(FB:oo B newId initId bm)(O:n9 x C fI bm newId X.mg X.base)(Y:Bb X.K X.mg y CA initId)(hg:Gl X y)
 (ha:PE X a ta) (hb:PE X b tb) (hdb:(y==("__debug__" : Str))=false:=by decide) (hst:starEach [a,b] X.env=(false,eval a X.env)::(false,eval b X.env)::starEach [] X.env:=by rfl)
 (ht:eval (.Call (.Attribute (.Name y np) "__init__" apos) [a,b] [] pos) X.env=(do
  let ov <- eval (.Name y np) X.env
  standAt apos.atName
  let (f,first) <- holding [ov] (getMethod ov "__init__" pl)
  callWith pos f first (backTo pos (starEach [a,b] X.env)) (backToKw pos (keywordEach [] X.env))):=by rfl) :
 PE X (.Call (.Attribute (.Name y np) "__init__" apos) [a,b] [] pos) (NS C ta tb):=by
 intro af s σ H Q I h;obtain⟨tl,N',nm,q,bs,hdct,sn,sub,ab,col,dd,k0,k1,k2,k3,k5,mN,hC,hN,hni,T⟩:=O.obj;refine PySem.W.methodCall_KW (pl:=pl) (nO I hg Y.bound ?_ hdb) ht;refine PySem.W.method_cls I.dg Y.ga (PySem.W.cls_value I.dg Y.rd Y.fc Y.hd ?_);have I0:=I.tok (s.toks+1);rw[hst];refine yu (by rfl) (vh (vi (aM (ha af _ σ H _ I0 h) λu1 s1 ⟨v1,H1,I1,r1,q1⟩=>vi (aM (hb af s1 σ H1 _ I1 q1) λu2 s2 ⟨v2,H2,I2,r2,ea,bb,ev,m,q2⟩=>yv ?_))));subst ev;obtain rfl:u1=bB ea:=r1;obtain⟨⟨o,t,h1,h2,h4,h3⟩,_⟩:=(show bI X.prog X.w H2 s2.heap ea (.ext (dU ea C bb))from I2.hok ea _ m);obtain⟨hp,gs,d,tk,os⟩:=s2;refine na (Om (rest:=[u2]) FB (T.keeps I2.bk) (I2.bk _ _ hC) h1 h2 h3 (t0:=t) rfl (by rw[cD];simp) ?_);have I3:Inv X af σ H2 ⟨hp.push { cls:=.type "tuple",data:=.seq [u2].toArray },gs,d,tk,os⟩:=I2.kept (s:=⟨hp,gs,d,tk,os⟩) (t':=tk) λb u e=>br _ e;have h1':(hp.push { cls:=.type "tuple",data:=.seq [u2].toArray }).get? ea=aa o:=br _ h1;have self:=kh (jE (·.setIfInBounds 0 (.ref hp.objs.size))) h1' (sL (nB h3 _));refine⟨.non,H2,?_,rfl,q2⟩;have I4:=I3.write (x:=ea) (e:=ea) (o:=.ext (dU ea C bb)) (t':=tk) (h':=(hp.push { cls:=.type "tuple", data:=.seq [u2].toArray }).update ea (jE (·.setIfInBounds 0 (.ref hp.objs.size)))) (by rw[m];exact g0) (.inl rfl) (λb u hb q=>(kg _ _ (bU hb)).trans q) ⟨_,self⟩
  (z0 ⟨_,hp.objs.size,self,(Cc _ _).trans h2,by rw[DK];exact h4,by rw[nB h3];rfl⟩)
 rw[Sv m]at I4;exact I4
structure yQ(K:aB)(C:ag)(f:Str):Prop where
 sa:lQ K (.ref C) "__setattr__" = aa (aa (.builtin "object.__setattr__"))
 po:PySem.W.yJ K C=true
 tk:JD K C f=aa ae
def Ot(C:ag)(f:Str)(ta tv:TE):TS:=λD σ H=>tv σ H λy H1=>ta σ H1 λx H2=>∃ea,x=.ref ea/\H2 ea=aa (.ext (dU ea C ae))/\∀dx,H2 dx=ae->D.nx σ (upd (upd H2 dx (.xd [(f,y)])) ea (.ext (dU ea C (aa dx))))
theorem Inv.track{af:List (ag×Obj)}{σ:St}{H:Hp}{s:ak}{a:ag}{o:HO}(I:Inv X af σ H s)(hn:H a=ae)(h0:X.s₀.heap.get? a=ae)(hL:a≠X.env.locals)(hc:∀x c,X.env.cells.lookup x=aa c->c≠a)(hp:∀p∈X.pn++af,p.1≠a)
 (new:bI X.prog X.w (upd H a o) s.heap a o):Inv X af σ (upd H a o) s:=by
 have nh:∀{b u},H b=aa u->b≠a:=λ{b u} q z=>by rw[z,hn]at q;cases q
 refine⟨I.ok,I.os,I.bare,⟨I.base.keep,I.base.slot,λb u q z nx=>?_,I.base.there,λb xs q=>?_,λb u v q=>?_,λb w ps q=>?_⟩,I.loc,I.cell,by rw[av (bU hL)];exact I.free,λx c q=>by rw[av (hc x c q)];exact I.gf x c q,λp h=>?_,I.hok.track hn new,I.len⟩
 ·rw[av (λy=>by rw[y,h0]at q;cases q)];exact I.base.free b u q z nx
 ·have z:=I.base.tups b xs q;rw[av (nh z)];exact z
 ·have z:=I.base.iS b u v q;rw[av (nh z)];exact z
 ·obtain⟨m,z⟩:=I.base.iT b w ps q;exact⟨m,by rw[av (nh z)];exact z⟩
 ·obtain⟨q1,q2,q3⟩:=I.pin p h;exact⟨q1,by rw[av (hp p h)];exact q2,q3⟩
theorem Q7{C:ag}{o value:aO}{ta tv:TE}{f:Str}{pos pos':Pos}(S:yQ X.K C f)(ha:PE X o ta)(hv:PE X value tv)(hs:swapsWith value (aa (.Attribute o f pos')) pos.line X.env=pure false:=by rfl):PS X (.Assign [.Attribute o f pos'] value pos) (Ot C f ta tv):=by
 intro af s σ H D I h;refine plainObj_wpAny_Assign_Attribute (aM (hv af s σ H _ I h) λu s1 ⟨y,H1,I1,ry,q⟩=>aM (ha af s1 σ H1 _ I1 q) λov s2 ⟨x,H2,I2,rx,ea,ex,m,q2⟩=>?_) hs;subst ex;obtain rfl:ov=bB ea:=rx;obtain⟨⟨o,t,h1,h2,h4,h3⟩,_⟩:=(show bI X.prog X.w H2 s2.heap ea (.ext (dU ea C ae))from I2.hok ea _ m);refine PySem.W.Qg (C:=C) I2.dg h1 h2 (λc q=>by rw[h3]at q;cases q) h4 S.sa S.po S.tk λh' tk e1 e2 e3=>?_;have dn:H2 s2.heap.objs.size=ae:=I2.hok.fresh (bu _);have ne:s2.heap.objs.size≠ea:=nA (bE h1);have I3:Inv X af σ (upd H2 ea (.ext (dU ea C (aa s2.heap.objs.size)))) { s2 with heap:=h',toks:=tk }:=I2.write (x:=ea) (e:=ea) (by rw[m];exact g0) (.inl rfl) (λb u hb q=>e2 b u hb q) ⟨_,e1⟩ (z0 ⟨_,t,e1,h2,rfl,h3⟩);have lt:∀{b u},s2.heap.get? b=aa u->b≠s2.heap.objs.size:=λ{b u} q z=>by
  have:=bE q;rw[z]at this;exact kj _ this
 have I4:=I3.track (a:=s2.heap.objs.size) (o:=.xd [(f,y)]) (by rw[av ne];exact dn) (by
  cases q:X.s₀.heap.get? s2.heap.objs.size with
  |none=>rfl
  |some o=>exact absurd (gG (bE q) I2.sz) (kj _)) (nA I2.lt) (λx c q z=>by
   obtain⟨v,o,ho,_⟩:=I2.cell x c q;exact lt ho z) (λp hp z=>lt (I2.pin p hp).1 z) ⟨_,e3,λg=>by
    show nY (jg g [(f,y)]) (if g=f then aa u else ae);by_cases q:g=f
    ·rw[aF q,q];simp only[jg,iH];exact ry
    ·rw[aG q];simp only[jg,rX.mpr q];trivial⟩
 refine⟨σ,_,?_,q2 _ dn⟩;have eq:upd (upd H2 ea (.ext (dU ea C (aa s2.heap.objs.size)))) s2.heap.objs.size (.xd [(f,y)])=upd (upd H2 s2.heap.objs.size (.xd [(f,y)])) ea (.ext (dU ea C (aa s2.heap.objs.size))):=by
  funext b;by_cases q1:b=ea
  ·rw[q1,aY,av (bU ne),aY]
  ·by_cases q2:b=s2.heap.objs.size
   ·rw[q2,aY,av ne,aY]
   ·rw[av q2,av q1,av q1,av q2]
 rw[<- eq];exact I4
end
end L2
namespace Mi
open PySem
def rK(i:Nat)(f:Fn)(ws:List EW):S:=λe=>(still (cO ws e)).bind λvs=>(f vs).bind λw=>.ok (.nx (e.set i (aa w)))
end Mi
namespace L2
open PySem PySem.Spec PyProof.Rows
def xh(C:ag):Sp:=λvs H Q _=>∃(ea a:ag) (zs:List Str),vs=[.ref ea,.ref a]/\H ea=aa (.ext (dU ea C ae))/\Rd H a (.lst (zs.map V.str))/\zs.length<=1000/\(gT zs).shown.length<=100000 /\
 ∀p dx,H p=ae->upd H p (.lst (zs.map V.str)) dx=ae->Q .non (upd (upd (upd H p (.lst (zs.map V.str))) dx (.xd [("ring", .ref p)])) ea (.ext (dU ea C (aa dx))))
section
variable{X:Cx}{K:aB}{H:Hp}{a e:ag}{xs:List V}{o:HO}
theorem Rd.upd{u:HO}(h:Rd H a u)(hn:H e=ae):Rd (L2.upd H e o) a u:=by
 rcases h with h|⟨q,h⟩
 ·exact .inl (by rw[av (λz=>by rw[z,hn]at h;cases h)];exact h)
 ·exact .inr ⟨q,by rw[av (λz=>by rw[z,hn]at h;cases h)];exact h⟩
def HN:Sp:=λvs H Q _=>∃z:Str,vs=[.str z]/\Q (.str z) H
def Fe:Sp:=λvs H Q _=>∃(a:ag) (zs:List Str),vs=[.ref a]/\Rd H a (.lst (zs.map V.str))/\zs.length<=1000/\∀p,H p=ae->Q (.ref p) (upd H p (.lst (zs.map V.str)))
def AI(P:aW)(w:aQ)(K:aB)(mg:Str->Option ah)(base:ay)(k:Nat)(x:Str)(C:ag)(ps:List Str):Prop:=∃(fI:ag) (fd:bA),n9 x C fI [.type "ValueError",.type "Exception",.type "BaseException",.type "object"] "ValueError.__new__" mg base /\
 xS K (.ref fI)=aa (.type "function")/\jB K (.ref C)=true/\bw P w K mg base aJ k fI fd ps (xh C)/\Binds K fd ps []
def FO(i:Nat)(sp:Sp)(t:TA):mE:=λD F σ H=>t σ H λvs H1=>sp vs H1 (λv H2=>D.nx (σ.set i (aa v)) H2) (λc dc H2=>∃C,c=.ref C/\∀ea,H2 ea=ae->F C dc ea σ H2)
theorem LF{k i:Nat}{x y:Str}{ps:List Str}{sp:Sp}{e:aO}{es:List aO}{t:TA}{p py cpos pos:Pos}(hx:X.xe=λ_ _=>False)(hN:X.N.Nodup)(hi:X.N[i]? = aa y)(hy:Loc X.env.scope y)(C:bR X.prog X.w X.K X.mg X.base (cH X.prog X.w) k x ps sp)(hr:cA k X.A)(hg:Gl X x)
 (ha:PA X (e::es) t) (hdb:(x==("__debug__" : Str))=false:=by decide) (he:starEach (e::es) X.env=(false,eval e X.env)::starEach es X.env:=by rfl) (hpl:(backTo cpos (starEach es X.env)).any (·.1)=false:=by rfl)
 (hs:swapsWith (.Call (.Name x p) (e::es) [] cpos) (aa (.Name y py)) pos.line X.env=pure false:=by rfl) (hf:X.fn y=true\/X.env.scope.names.lookup y=aa .local:=by first|exact .inl rfl|exact .inr rfl|assumption) :
 G7 X (.Assign [.Name y py] (.Call (.Name x p) (e::es) [] cpos) pos) (FO i sp t):=by
 intro af s σ H D F I h;obtain⟨f,fd,hm,hk,hb,Fo⟩:=C.ex;refine wpAny_Assign_Name ?_ hs;refine qa (nO I hg hm ?_ hdb);refine xN (h₀:=X.base) I.ok.mod.kin hk (e5 (ha cpos af s σ H _ I h) (λus s1 ⟨vs,H1,I1,r,q⟩=>⟨I1.dg,?_⟩) λ_ _ z=>by rw[hx]at z;exact z.elim) he hpl;have hl:us.length=ps.length:=by rw[<- r.length];exact Fo.len _ _ _ _ q
 refine na (sm (Fo.run X.A X.stack s1 H1 ⟨us,[]⟩ us vs _ _ hr I1.env0 (by have:=hb s1 us I1.dg (by rw[iN];exact hl);rwa [iN]at this) r q) λres s' hq=>?_);cases res with
 |error e'=>exact⟨σ,H1,s1,I1,hq⟩
 |ok fl=>
  cases fl with
  |ret v=>
   obtain⟨v',H2,I2,rv,q2⟩:=I1.after hq;exact ur I2 hN hi hy rv (λs2 I3=>⟨_,H2,I3,q2⟩) hf
  |next=>exact fu hq
  |brk=>exact fu hq
  |cont=>exact fu hq
end
end L2
namespace Mi
open PySem
def kK:List D->Option (List Str)
 |[]=>aa []
 |.str z::r=>(kK r).map (z :: ·)
 |_::_=>ae
def wq(cls:String)(m:E):S:=λe=>(still (m e)).bind λd=>match d with
 | .lst ds=>match kK ds with
  |some zs=>if zs.length<=1000/\(L2.gT zs).shown.length<=100000 then .ex ⟨cls,[.lst ds]⟩else .no
  |none=>.no
 |_=>.no
end Mi
namespace A
open PySem L2 PyProof.Rows So
open Mi (D W Rs Fin dw aw fY Out Tg di)
variable[Tb:bD]
section
variable{M:Nat->Bool}{κ:Kd}{cl:String->ag}{E:XK}
theorem za{Hv:Hp}:∀{ds:List D} {zs:List Str} {xs:List V},Mi.kK ds=aa zs->P2 (Rep Hv) ds xs->xs=zs.map V.str
 |[],zs,_,h,.nil=>by cases h;rfl
 |.str z::r,zs,_,h,.cons a t=>by
  obtain⟨ys,hy,rfl⟩:=oA.mp (show(Mi.kK r).map (z :: ·)=aa zs from h);rw[(og (H:=Hv)).mp a,za hy t];rfl
 |.non::_,_,_,h,_=>nomatch h
 |.bl _::_,_,_,h,_=>nomatch h
 |.int _::_,_,_,h,_=>nomatch h
 |.lst _::_,_,_,h,_=>nomatch h
 |.tup _::_,_,_,h,_=>nomatch h
theorem Ey{H1:Hp}{ea p dx:ag}{a b c d:HO}(hea:H1 ea=ae)(hp:upd H1 ea a p=ae)(hd:upd (upd H1 ea a) p b dx=ae):p≠ea/\H1 p=ae/\dx≠ea/\dx≠p/\upd H1 p b dx=ae/\del (upd (upd (upd (upd H1 ea a) p b) dx c) ea d) ea=upd (upd H1 p b) dx c:=by
 have hpe:p≠ea:=λz=>by rw[z,aY]at hp;cases hp
 have hp1:H1 p=ae:=by rw[av hpe]at hp;exact hp
 have hdp:dx≠p:=λz=>by rw[z,aY]at hd;cases hd
 have hde:dx≠ea:=λz=>by rw[z,av (bU hpe),aY]at hd;cases hd
 refine⟨hpe,hp1,hde,hdp,?_,?_⟩
 ·rw[av hdp];rw[av hdp,av hde]at hd;exact hd
 ·funext x;by_cases q:x=ea
  ·rw[q,yO,av (bU hde),av (bU hpe)];exact hea.symm
  ·rw[pR q,av q];by_cases q2:x=dx
   ·rw[q2,aY,aY]
   ·rw[av q2,av q2];by_cases q3:x=p
    ·rw[q3,aY,aY]
    ·rw[av q3,av q,av q3]
theorem M8{cls:String}{m:Mi.E}{te:TE}{h0:ay}{EI:XK}(hm:AE M qV te m):jv M κ (wish cl E) (λ_ σ H1=>yG (cl cls) (xh (cl cls)) EI h0 (dY te fg) σ H1 λv H2=>∃ea b,v=.ref ea/\H2 ea=aa (.ext (dU ea (cl cls) b))/\h0.get? ea=ae/\E (.ref (cl cls)) b (del H2 ea)) (Mi.wq cls m):=λH0 Hv0 e σ H Hv D I h=>
 hm e σ H Hv _ I.toR0 ((Mi.qA (fY.mp h)).mono λd hd v H1 Hv1 g1 r=>by
  refine⟨by simp,λea hea hn=>?_⟩;cases d with
  |lst ds=>
   simp only at hd;cases hz:Mi.kK ds with
   |none=>rw[hz]at hd;exact hd.elim
   |some zs=>
    rw[hz]at hd;simp only at hd;split at hd
    ·rename_i hb;obtain⟨a,xs,rfl,hl,rr⟩:=(j7 (H:=Hv1)).mp r;obtain rfl:=za hz rr;have hsq:Rd H1 a (.lst (zs.map V.str)):=by
      rcases hl with q|⟨o,q⟩
      ·exact .inl (g1.vw.sub _ _ q)
      ·exact .inr ⟨o,g1.vw.sub _ _ q⟩
     refine⟨ea,a,zs,rfl,aY,hsq.upd hea,hb.1,hb.2,λp dx hp hdx=>⟨rfl,ea,aa dx,rfl,aY,hn,?_⟩⟩;obtain⟨_,hp1,_,hdp,hd1,eq⟩:=Ey (c:=.xd [("ring",.ref p)]) (d:=.ext (dU ea (cl cls) (aa dx))) hea hp hdx;rw[eq];have g2:bt H1 Hv1 (upd H1 p (.lst (zs.map V.str))) (upd Hv1 p (.lst (zs.map V.str))):=.new (o:=.lst (zs.map V.str)) g1.vw hp1;have g3:=g2.trans (.new (o:=.xd [("ring", .ref p)]) g2.vw hd1);refine(show∀H' Hv',bt H0 Hv0 H' Hv'->wish cl E ⟨cls,[.lst ds]⟩ H' Hv' from hd) _ _ ((I.gw.trans g1).trans g3) (aa dx) ⟨dx,.ref p,rfl,aY,aY,?_⟩;refine(j7 (H:=_)).mpr ⟨p,zs.map V.str,rfl,.inl ?_,eP g3.vis rr⟩;rw[av (bU hdp),aY]
    ·exact hd.elim
  |_=>exact hd.elim)
theorem Ow{f:Mi.Fn}{ws:List Mi.EW}{tr:TA}(i:Nat)(hm:M i=false)(ha:AAW M qV tr (Mi.cO ws)):AX M κ (FO i (iU Tb.cl f) tr) (Mi.rK i f ws):=λH0 Hv0 e σ H Hv D F I h=>
 ha e σ H Hv _ I.toR0 ((Mi.qA (fY.mp h)).mono λds hx vs H1 Hv1 g1 rx=>by
  refine⟨Hv1,ds,g1.vw,rx,(fY.mp hx).mono (λw hw v H3 Hv3 g3 r=>?_) λz hz H3 Hv3 g3 dc hd=>?_⟩
  ·exact hw _ H3 Hv3 ((I.grow (g1.trans g3)).set hm r) (g1.trans g3).vis
  ·exact⟨_,rfl,λea hea=>hz ea dc H3 Hv3 (I.grow (g1.trans g3)) (g1.trans g3).vis hea hd⟩)
end
end A
namespace PySem.W
open PySem PySem.Spec PySem.Calls PyProof.Rows Builtin Builtin.ObjectAttr Builtin.Getset_descriptor
section
variable{prog:aW}{w:aQ}{A:a7}{E:ah->ak->Prop}{s:ak}{K:Frag}{x D:ag}{ox:Obj}{od:Option Obj}{name:Str}{v:ah}
theorem NX{tk:Tok}{R:ot->ak->Prop}(hb:mroIn K D (.type "BaseException")=aa true)(hf:findObj K D od name=aa (.value v))(hh:handedIn v=true)(X:K.In s.heap)(I:InstAt s.heap x ox D od)(h:R (.ok (.ret v)) s) :
 codeAny (model prog w) A (.call (.builtin "BaseException.__getattribute__") ⟨[.ref x,.str name tk],[]⟩) R s:=by
 obtain⟨hp,g,d,t,os⟩:=s;have L0:=I.type (M:=model prog w);have L1:=looks_find (M:=model prog w) X I hf;have L2:=xU (M:=model prog w) X hb;have hk:builtinKind "BaseException.__getattribute__" = aa .slot:=by decide +kernel
 have hsplit:splitId "BaseException.__getattribute__" = aa ("BaseException","__getattribute__"):=by decide +kernel
 have hargs:=F.args_bexc_ga (.ref x) (.str name tk);refine r0 (yo).ga.plain F.entry_bexc_ga ?_;simp only[checkBuiltinCall,hk,hsplit];refine ar ?_;unfold isInstance;refine ar (L0.at ?_);refine L2.at ?_
 repeat (any_goals (first|assumption|(refine ar (L0.at ?_))|(refine ar (L1.at ?_))|wp_step))
theorem P1{expr:Bool}{Q:ah->ak->Prop}(hga:findIn K (.ref D) "__getattribute__" = aa (aa (.builtin "BaseException.__getattribute__")))(hgt:findIn K (.ref D) "__getattr__" = aa ae)(hb:mroIn K D (.type "BaseException")=aa true)
 (hf:findObj K D od name=aa (.value v)) (hh:handedIn v=true) (X:K.In s.heap) (I:InstAt s.heap x ox D od) (h:Q v { s with toks:=s.toks+1 }):wpAny (model prog w) A (getAttr (.ref x) name expr) Q E s:=by
 obtain⟨hp,g,d,t,os⟩:=s;have L0:=I.type (M:=model prog w);have L1:=qf (M:=model prog w) X hga;have L2:=qf (M:=model prog w) X hgt;have f3:=(yo).ga.bind (.ref x);have hx2:(lZ "BaseException.__getattribute__" == lZ "object.__getattribute__")=false:=by decide +kernel
 have hx1:(onTheHeap (bB D)&&lZ "BaseException.__getattribute__" == lZ "object.__getattribute__")=false:=by rw[hx2,qq]
 unfold getAttr getAttrBy;refine ar (wpAny_mkText (iJ (ar (L0.at (ar (L1.at ?_))))));dsimp only;rw[aG (by rw[hx1];exact dN)];unfold getAttrByItsOwn;have hng:(expr&&onTheHeap (lZ "BaseException.__getattribute__"))=false:=qq _;unfold callGetattribute;rw[aG (by rw[hng];decide)]
 repeat (any_goals (first|assumption|(refine ar (L2.at ?_))|(refine L2.at ?_)|wp_step))
 refine NX (s:=⟨hp,g,d,t+1,os⟩) hb hf hh X I ?_;exact handed_on hh h
end
end PySem.W
namespace L2
open PySem PySem.Spec PyProof.Rows
open A (f6)
theorem cA.toH{k:Nat}{A:a7}(r:cA k A):jS k A:=⟨r.dp,r.un,r.gd⟩
structure wC(K:aB)(C:ag)(f:Str):Prop where
 ga:lQ K (.ref C) "__getattribute__" = aa (aa (.builtin "BaseException.__getattribute__"))
 gt:lQ K (.ref C) "__getattr__" = aa ae
 mb:xT K C (.type "BaseException")=aa true
 hd:Js K C=true
 at_:lQ K (.ref C) f=aa ae
section
variable{X:Cx}
def ET(K:aB)(ta:TE)(f:Str):TE:=λσ H Q=>ta σ H λx H1=>∃ea C dx u,x=.ref ea/\H1 ea=aa (.ext (f6 ea C (aa dx)))/\H1 dx=aa (.xd [(f,u)])/\wC K C f/\Q u H1
theorem IP{e:aO}{ta:TE}{f:Str}{pos:Pos}(he:PE X e ta)(hb:attributeBase e f X.env (eval e X.env)=eval e X.env:=by rfl)(hcp:PySem.W.copiedNames.contains f=false:=by decide +kernel):PE X (.Attribute e f pos) (ET X.K ta f):=by
 intro af s σ H Q I h;refine SI hb (aM (he af s σ H _ I h) λu s1 ⟨x,H1,I1,rx,ea,C,dx,v,ex,m1,m2,k,q⟩=>?_);subst ex;obtain rfl:u=bB ea:=rx;obtain⟨⟨o,h1,h2,h3,vs,h4⟩,_⟩:=(show bI X.prog X.w H1 s1.heap ea (.ext (f6 ea C (aa dx)))from I1.hok ea _ m1);obtain⟨mA,ns,rel⟩:=(show bI X.prog X.w H1 s1.heap dx (.xd [(f,v)])from I1.hok dx _ m2);have rf:=rel f;simp only[jg,iH]at rf;obtain⟨u',hu,ru⟩ : ∃u',mA f=aa u'/\RelV v u':=by
  cases hm:mA f with
  |none=>rw[hm]at rf;exact rf.elim
  |some u'=>rw[hm]at rf;exact⟨u',rfl,rf⟩
 obtain⟨od,ho,hl⟩:=FH ns;have J:JE s1.heap ea o C (aa od):=⟨h1,h2,by unfold PySem.W.notCls;rw[h4],by rw[h3];exact ho⟩;exact PySem.W.P1 k.ga k.gt k.mb (PySem.W.findObj_own k.hd k.at_ rfl (by rw[hl,hu])) (OX ru) I1.dg J ⟨v,H1,I1.tok _,ru,q⟩
end
end L2
namespace Mi
open PySem
def wX(i:Nat):EW:=λe=>match e[i]? with
 |some (aa (.ex c))=>.ok (.ex c)
 |some (aa (.xr c _))=>.ok (.ex c)
 |_=>.no
def uA(i:Nat):C:=λe=>match e[i]? with
 |some (aa (.d .non))=>.ok true
 |some (aa (.ex _))=>.ok false
 |some (aa (.xr _ _))=>.ok false
 |_=>.no
def uJ(i:Nat)(b:String->Option Bool):E:=λe=>match e[i]? with
 | some (aa (.ex c))=>match b c with
  |some k=>.ok (.bl k)
  |none=>.no
 | some (aa (.xr c _))=>match b c with
  |some k=>.ok (.bl k)
  |none=>.no
 |_=>.no
def rT(c0:String)(i:Nat):E:=λe=>match e[i]? with
 |some (aa (.xr c d))=>if c=c0 then .ok d else .no
 |_=>.no
def vp(z:di):W:=match z.val with
 |[]=>.ex z.cls
 |d::_=>.xr z.cls d
def ub(i j:Nat)(cs:List String)(body:S):S:=λe=>match body e with
 |.ok o=>.ok o
 |.ex z=>ba (z.cls∈cs/\i<e.length) (.ok (.nx (((e.set i (aa (vp z))).set j (aa (vp z))).set i ae)))
 |.no=>.no
end Mi
namespace A
open PySem L2 PyProof.Rows So
open Mi (D W Rs Fin dw aw fY Out Tg di)
variable[Tb:bD]
section
variable{K:aB}{M:Nat->Bool}{κ:Kd}{b:String->Option Bool}{t:mE}{m:Mi.S}
theorem Mc{H:Hp}{c:String}{d:D}{v:V}(h:gv H (.xr c d) v):gv H (.ex c) v:=by obtain⟨a,dx,u,e,q,_⟩:=h;exact⟨a,aa dx,e,q⟩
theorem Hk(i:Nat)(hm:M i=false):AW M qV (eZ i) (Mi.wX i):=λe σ H Hv Q I h=>by
 unfold Mi.wX at h;split at h
 ·rename_i c hc;obtain⟨v,hv,r⟩:=I.nob i _ hc hm;exact⟨v,hv,h v H Hv (.refl I.vw) r⟩
 ·rename_i c d hc;obtain⟨v,hv,r⟩:=I.nob i _ hc hm;exact⟨v,hv,h v H Hv (.refl I.vw) (Mc r)⟩
 ·exact h.elim
theorem E3{i:Nat}{c0:String}(hm:M i=false)(hk:wC K (Tb.cl c0) "ring"):AE M qV (ET K (eZ i) "ring") (Mi.rT c0 i):=λe σ H Hv Q I h=>by
 unfold Mi.rT at h;split at h
 ·rename_i c d hc;split at h
  ·rename_i ec;subst ec;obtain⟨v,hv,a,dx,u,rfl,q1,q2,r⟩:=I.nob i _ hc hm;exact⟨_,hv,a,_,dx,u,rfl,I.vw.sub _ _ q1,I.vw.sub _ _ q2,hk,h u H Hv (.refl I.vw) r⟩
  ·exact h.elim
 ·exact h.elim
theorem Ss{i:Nat}(hm:M i=false):AT M (vH (pM (v6 false) (eZ i) (tC .non))) (Mi.uA i):=λe σ H Hv Q I h=>by
 unfold Mi.uA at h;split at h
 ·rename_i hc;obtain⟨v,hv,r⟩:=I.nob i _ hc hm;have ev:v=.non:=(AR (H:=Hv)).mp r;subst ev;exact⟨_,hv,rfl,_,rfl,h H Hv (.refl I.vw)⟩
 ·rename_i c hc;obtain⟨v,hv,a,dc,rfl,_⟩:=I.nob i _ hc hm;exact⟨_,hv,rfl,_,rfl,h H Hv (.refl I.vw)⟩
 ·rename_i c d hc;obtain⟨v,hv,a,dx,u,rfl,_⟩:=I.nob i _ hc hm;exact⟨_,hv,rfl,_,rfl,h H Hv (.refl I.vw)⟩
 ·exact h.elim
theorem Es{i:Nat}{c:V}{c':ah}(hm:M i=false)(hc:ug c c')(hb:∀x k,b x=aa k->fT K (Tb.cl x)/\bO K (.ref (Tb.cl x)) c'=aa k):AE M qV (lL (AN K) (dY (eZ i) (dY (tC c) fg))) (Mi.uJ i b):=λe σ H Hv Q I h=>by
 unfold Mi.uJ at h;split at h
 ·rename_i x he;split at h
  ·rename_i k hk;obtain⟨v,hv,a,dc,rfl,ha⟩:=I.nob i _ he hm;obtain⟨h1,h2⟩:=hb x k hk;exact⟨_,hv,a,_,dc,c,c',k,rfl,I.vw.sub _ _ ha,h1,hc,h2,h _ H Hv (.refl I.vw) eu⟩
  ·exact h.elim
 ·rename_i x d he;split at h
  ·rename_i k hk;obtain⟨v,hv,a,dx,u,rfl,ha,_⟩:=I.nob i _ he hm;obtain⟨h1,h2⟩:=hb x k hk;exact⟨_,hv,a,_,aa dx,c,c',k,rfl,I.vw.sub _ _ ha,h1,hc,h2,h _ H Hv (.refl I.vw) eu⟩
  ·exact h.elim
 ·exact h.elim
theorem SA{i j:Nat}{cs:List String}(hi:M i=false)(hj:M j=false)(hij:i≠j)(h1:AX M κ t m):AS M κ (DB i (λC=>∃c∈cs,C=Tb.cl c) t (kN (eZ i) (ii j))) (Mi.ub i j cs m):=λH0 Hv0 e σ H Hv D I h=>by
 refine h1 H0 Hv0 e σ H Hv D _ I ?_;unfold Mi.ub at h;cases hm:m e with
 |ok o=>rw[hm]at h;exact h
 |no=>rw[hm]at h;exact h.elim
 |ex z=>
  rw[hm]at h;obtain⟨hz,h⟩:=Mi.cK h;intro ea dc H' Hv' I' s' hea hd;have g:bt H' Hv' (upd H' ea (.ext (f6 ea (Tb.cl z.cls) dc))) (upd Hv' ea (.ext (f6 ea (Tb.cl z.cls) dc))):=.new I'.vw hea;have r:gv (upd Hv' ea (.ext (f6 ea (Tb.cl z.cls) dc))) (Mi.vp z) (.ref ea):=by
   unfold Mi.vp;unfold As at hd;cases hv:z.val with
   |nil=>exact⟨ea,dc,rfl,aY⟩
   |cons d r=>
    rw[hv]at hd;obtain⟨dx,u,rfl,q1,q2,q3⟩:=hd;have ne:dx≠ea:=λq=>by rw[q,hea]at q1;cases q1
    exact⟨ea,dx,u,rfl,aY,by rw[av ne];exact q2,jJ g.vis q3⟩
  have I2:=((I'.grow g).set hi r).set hj r;have hil:i < σ.length:=by have:=I'.len;omega
  exact⟨⟨z.cls,hz.1,rfl⟩,.ref ea,lR hil,h _ _ _ (I2.off i) (s'.trans g.vis)⟩
end
end A
namespace L2
open PySem PySem.Spec PyProof.Rows
open A (f6)
section
variable{X:Cx}
def DN(te:TE):TE:=λσ H Q=>te σ H λv H2=>∃ea C dc,v=.ref ea/\H2 ea=aa (.ext (dU ea C dc))/\Q v (upd H2 ea (.ext (f6 ea C dc)))
theorem SV{e:aO}{te:TE}(he:PE X e te):PE X e (DN te):=by intro af s σ H Q I h;refine aM (he af s σ H _ I h) λu s1 ⟨v,H1,I1,r,ea,C,dc,ev,m,q⟩=>?_;subst ev;obtain⟨⟨o,t,h1,h2,h3,h4⟩,_⟩:=(show bI X.prog X.w H1 s1.heap ea (.ext (dU ea C dc))from I1.hok ea _ m);refine⟨.ref ea,_,?_,r,q⟩;exact I1.write (x:=ea) (e:=ea) (h':=s1.heap) (t':=s1.toks) (by rw[m];exact g0) (.inl rfl) (λb u _ q=>q) ⟨o,h1⟩ ⟨⟨o,h1,h2,h3,_,h4⟩,⟨o,h1⟩,λk1 k2 ⟨o,q1,q2⟩ kk=>⟨o,kk o q1,q2⟩⟩
end
end L2
namespace Mi
open PySem
def wI(cls:String)(m:E):EW:=λe=>(m e).bind λd=>match d with
 | .lst ds=>match kK ds with
  |some zs=>if zs.length<=1000/\(L2.gT zs).shown.length<=100000 then .ok (.xr cls (.lst ds))else .no
  |none=>.no
 |_=>.no
end Mi
namespace A
open PySem L2 PyProof.Rows So
open Mi (D W Rs Fin dw aw fY Out Tg di)
variable[Tb:bD]
section
variable{M:Nat->Bool}
theorem Nq{H1:Hp}{ea p dx:ag}{a b c d f:HO}(hp:upd H1 ea a p=ae)(hd:upd (upd H1 ea a) p b dx=ae):upd (upd (upd (upd (upd H1 ea a) p b) dx c) ea d) ea f=upd (upd (upd H1 p b) dx c) ea f:=by
 have hpe:p≠ea:=λz=>by rw[z,aY]at hp;cases hp
 have hde:dx≠ea:=λz=>by rw[z,av (bU hpe),aY]at hd;cases hd
 funext x;by_cases q:x=ea
 ·rw[q,aY,aY]
 ·rw[av q,av q,av q];by_cases q2:x=dx
  ·rw[q2,aY,aY]
  ·rw[av q2,av q2];by_cases q3:x=p
   ·rw[q3,aY,aY]
   ·rw[av q3,av q,av q3]
theorem Pb{cls:String}{m:Mi.E}{te:TE}{h0:ay}{EI:XK}(hm:AE M qV te m):AW M qV (DN (yG (Tb.cl cls) (xh (Tb.cl cls)) EI h0 (dY te fg))) (Mi.wI cls m):=λe σ H Hv Q I h=>
 hm e σ H Hv _ I ((aw.mp h).mono λd hd v H1 Hv1 g1 r=>by
  refine⟨by simp,λea hea hn=>?_⟩;cases d with
  |lst ds=>
   simp only at hd;cases hz:Mi.kK ds with
   |none=>rw[hz]at hd;exact hd.elim
   |some zs=>
    rw[hz]at hd;simp only at hd;split at hd
    ·rename_i hb;obtain⟨a,xs,rfl,hl,rr⟩:=(j7 (H:=Hv1)).mp r;obtain rfl:=za hz rr;have hsq:Rd H1 a (.lst (zs.map V.str)):=by
      rcases hl with q|⟨o,q⟩
      ·exact .inl (g1.vw.sub _ _ q)
      ·exact .inr ⟨o,g1.vw.sub _ _ q⟩
     refine⟨ea,a,zs,rfl,aY,hsq.upd hea,hb.1,hb.2,λp dx hp hdx=>⟨rfl,ea,_,aa dx,rfl,aY,?_⟩⟩;obtain⟨hpe,hp1,hde,hdp,hd1,_⟩:=Ey (c:=.xd [("ring",.ref p)]) (d:=.ext (dU ea (Tb.cl cls) (aa dx))) hea hp hdx;rw[Nq hp hdx];have g2:bt H1 Hv1 (upd H1 p (.lst (zs.map V.str))) (upd Hv1 p (.lst (zs.map V.str))):=.new (o:=.lst (zs.map V.str)) g1.vw hp1;have g3:=g2.trans (.new (o:=.xd [("ring",.ref p)]) g2.vw hd1);have he3:upd (upd H1 p (.lst (zs.map V.str))) dx (.xd [("ring", .ref p)]) ea=ae:=by rw[av (bU hde),av (bU hpe)];exact hea
     have g4:=g3.trans (.new (o:=.ext (f6 ea (Tb.cl cls) (aa dx))) g3.vw he3);refine hd _ _ _ (g1.trans g4) ⟨ea,dx,.ref p,rfl,aY,by rw[av hde,aY],?_⟩;refine(j7 (H:=_)).mpr ⟨p,zs.map V.str,rfl,.inl ?_,eP g4.vis rr⟩;rw[av hpe,av (bU hdp),aY]
    ·exact hd.elim
  |_=>exact hd.elim)
end
end A
namespace Mr
open PySem Mi
def Ef:S:=
 (eM (bM (mV 1)) (.n 2)
 (a9 (cB (m2 eB (mV 2) (mV 0)))
 m9
 bf))
def pb:Fn:=dF 2 3 Ef
def DT:S:=
 (aA (pH (bp pb [(wD (m2 aL (mV 0) (mC (.int 0)))),(wD (mN cF [(mV 1)]))]))
 (bG (wD (mN kQ [(bX [aa 1,ae,ae] (bM (m2 aL (mV 0) (mC (.int 1)))) (.t [1,2]) (cB (m2 fw (mV 2) (mV 0))) (mV 1))]))))
def kP:Fn:=dF 2 2 DT
def Hz:S:=
 (aA (eM (bM (m2 aL (mV 0) (mC (.int 0)))) (.n 2)
 (a9 (lu (cB (m2 eB (mV 2) (mV 1))) (cB (mN nE [(bX [aa 1,ae] (bM (bp kP [(wD (mV 0)),(wD (mV 2))])) (.n 1) cU (m2 dA (mV 1) (mV 0)))])))
 (bG (wD (mV 2)))
 bf))
 (bG (wD (mC .non))))
def nW:Fn:=dF 2 3 Hz
def Fj:S:=
 (aA (bc 1 (mN cF []))
 (aA (bc 2 (oN nW [(wD (mV 0)),(wD (mV 1))]))
 (aA (uP 100 (cB (m2 wg (mV 2) (mC .non)))
 (aA (fe 1 (mV 2))
 (bc 2 (oN nW [(wD (mV 0)),(wD (mV 1))]))))
 (bG (wV 1)))))
def oS:Fn:=jr 1 3 Fj
def Dt:S:=
 (aA (bc 2 (mC (.str "etaoinshrdlucmfwypvbgkqjxz")))
 (aA (a9 (cB (m2 fG (m2 bq (mV 0) (mC (.int 4))) (mC (.int 2))))
 (aA (bc 3 (m2 vS (mC (.str "")) (bX [aa 2,aa 0,ae] (eG (mC (.int 8))) (.n 2) cU (m2 aL (mV 0) (m2 bq (m2 cJ (mV 1) (m2 bv (mC (.int 4)) (m2 cv (mC (.int 3)) (mV 2)))) (mC (.int 26)))))))
 (aA (a9 (cB (m2 fw (m2 bq (mV 0) (mC (.int 4))) (mC (.int 0))))
 (bG (wD (bX [aa 3,ae] (eG (mV 1)) (.n 1) cU (eO fL (mV 0) ae (aa (m2 bv (mV 1) (mC (.int 1))))))))
 bf)
 (bG (wD (bX [aa 3,ae] (eG (mV 1)) (.n 1) cU (eO fL (mV 0) (aa (m2 mJ (mC (.int 7)) (mV 1))) ae))))))
 bf)
 (aA (bc 4 (m2 bq (m2 cJ (mV 0) (mC (.int 4))) (mC (.int 8))))
 (aA (bc 5 (m2 vS (mC (.str "")) (bX [aa 2,aa 0,ae] (eG (mV 4)) (.n 2) cU (m2 aL (mV 0) (m2 bq (m2 bv (m2 bv (m2 cJ (mV 1) (mC (.int 32))) (m2 cv (mC (.int 5)) (mV 2))) (m2 cv (mV 2) (mV 2))) (mC (.int 26)))))))
 (aA (bc 6 (m2 bq (m2 cJ (mV 0) (mC (.int 256))) (m2 bv (mV 4) (mC (.int 1)))))
 (bG (wD (bX [aa 5,aa 2,aa 6,aa 0,ae] (eG (mV 1)) (.n 4) cU (m2 bv (m2 bv (eO fL (mV 0) ae (aa (mV 2))) (m2 aL (mV 1) (m2 bq (m2 bv (m2 cJ (mV 3) (mC (.int 7))) (m2 cv (mC (.int 5)) (mV 4))) (mC (.int 26))))) (eO fL (mV 0) (aa (mV 2)) ae))))))))))
def sY:Fn:=jr 2 7 Dt
def G4:S:=
 (aA (a9 (cB (m2 fG (mV 1) (mN bH [(mV 0)])))
 (bG (wD (m2 aL (mV 0) (mV 1))))
 bf)
 (aA (bc 2 (m2 bv (mC (.int 30011)) (m2 cv (m2 cv (mC (.int 709)) (mV 1)) (mV 1))))
 (aA (a9 (cB (m2 mY (mN bH [(mV 0)]) (mC (.int 0))))
 (bc 2 (m2 bv (mV 2) (m2 cv (m2 bq (m2 aL (mV 0) (mC (.int 0))) (mC (.int 99991))) (m2 bv (m2 bv (m2 cv (mV 1) (mV 1)) (m2 cv (mC (.int 2)) (mV 1))) (mC (.int 5))))))
 bf)
 (bG (wD (mV 2))))))
def fP:Fn:=dF 2 3 G4
def IH:S:=
 (aA (bc 2 (bX [ae] (eG (mV 1)) (.n 0) cU (mV 0)))
 (aA (bc 3 (mN cF []))
 (aA (bc 4 (m2 bq (mV 0) (mC (.int 2147483647))))
 (aA (eM (eG (mV 1)) (.n 5)
 (aA (bc 4 (m2 bq (m2 bv (m2 bv (m2 cv (mV 4) (mC (.int 48271))) (m2 cv (mC (.int 7)) (mV 5))) (mC (.int 1))) (mC (.int 2147483647))))
 (wa 3 2 (m2 bq (m2 cJ (mV 4) (mC (.int 32))) (mN bH [(mV 2)])))))
 (bG (wV 3))))))
def tq:Fn:=jr 2 6 IH
def He:S:=
 (aA (bc 2 (m2 bv (mC (.int 1)) (m2 bq (bp fP [(wD (mV 0)),(wD (mC (.int 0)))]) (mV 1))))
 (aA (bc 3 (bp sY [(wD (bp fP [(wD (mV 0)),(wD (mC (.int 1)))])),(wD (mV 2))]))
 (aA (bc 4 (bp tq [(wD (bp fP [(wD (mV 0)),(wD (mC (.int 2)))])),(wD (mV 2))]))
 (aA (bc 5 (m2 aL (mN cF [(mC (.int 4)),(mC (.int 1)),(mC (.int 2)),(mC (.int 3)),(mC (.int 2)),(mC (.int 3))]) (m2 bq (bp fP [(wD (mV 0)),(wD (mC (.int 3)))]) (mC (.int 6)))))
 (aA (bc 6 (mN cF []))
 (aA (eM (eG (mV 2)) (.n 7)
 (eM (eG (mV 2)) (.n 8)
 (aA (bc 9 (bp fP [(wD (mV 0)),(wD (m2 bv (m2 bv (mC (.int 4)) (m2 cJ (m2 cv (mN jn [(mV 7),(mV 8)]) (m2 mJ (mN jn [(mV 7),(mV 8)]) (mC (.int 1)))) (mC (.int 2)))) (mN nH [(mV 7),(mV 8)])))]))
 (a9 (lu (cB (m2 fG (m2 aL (mV 4) (mV 7)) (m2 aL (mV 4) (mV 8)))) (cB (m2 fG (m2 bq (m2 cJ (m2 bq (m2 cv (mV 9) (mC (.int 48271))) (mC (.int 2147483647))) (mC (.int 16))) (mC (.int 4))) (mV 5))))
 (fe 6 (mN dTup [(m2 aL (mV 3) (mV 7)),(m2 aL (mV 3) (mV 8))]))
 bf))))
 (bG (wD (mN dTup [(mN kQ [(mV 3)]),(mN kQ [(mV 6)])])))))))))
def q9:Fn:=dF 2 10 He
def uz(F:Fn):S:=
 (aA (a9 (fA (cB (m1 (dE ["str"]) (mV 1))) (cB (m1 (dE ["int"]) (mV 1))))
 (aA (a9 (fA (cB (m2 dQ (m1 (dE ["bool"]) (mV 0)) (m1 (dE ["bool"]) (mV 1)))) (cB (m2 dQ (m1 (dE ["str"]) (mV 0)) (m1 (dE ["str"]) (mV 1)))))
 (bG (wD (mC (.bl false))))
 bf)
 (bG (wD (n5 (m1 (dE ["int","str"]) (mV 0)) (m2 fw (mV 0) (mV 1))))))
 bf)
 (aA (a9 (fA (cB (m2 dQ (m1 (dE ["list"]) (mV 0)) (m1 (dE ["list"]) (mV 1)))) (c9 (cB (m1 (dE ["list","tuple"]) (mV 0)))))
 (bG (wD (mC (.bl false))))
 bf)
 (aA (a9 (cB (m2 dQ (mN bH [(mV 0)]) (mN bH [(mV 1)])))
 (bG (wD (mC (.bl false))))
 bf)
 (aA (eM (Am (mV 0) (mV 1)) (.t [2,3])
 (a9 (c9 (cB (bp F [(wD (mV 2)),(wD (mV 3))])))
 (bG (wD (mC (.bl false))))
 bf))
 (bG (wD (mC (.bl true))))))))
def gQ:Nat->Fn
 |0=>GG
 |n+1=>dF 2 4 (uz (gQ n))
def Iy:S:=
 (aA (bc 2 (mN ju [(mV 0)]))
 (aA (eM (eG (mN bH [(mV 0)])) (.n 3)
 (aA (bc 4 (bX [aa 2,ae,ae] (bM (mV 1)) (.t [1,2]) (cB (m2 dA (mV 1) (mV 0))) (mV 2)))
 (bc 2 (bX [aa 4,ae] (bM (mV 2)) (.n 1) (cB (m2 dA (mV 1) (mV 0))) (mV 1)))))
 (bG (wD (m2 mY (mN bH [(mV 2)]) (mC (.int 0)))))))
def qU:Fn:=dF 2 5 Iy
def E1:S:=(bG (wD (xl [0] (mV 1) (bX [aa 1,ae] (bM (mV 0)) (.n 1) cU (m2 lE (mV 0) (mV 1))))))
def nF:Fn:=jr 2 2 E1
def vI:S:=(bG (wD (n5 (jQ fK fK (mC (.int 1)) (mN bH [(mV 0)]) (mC (.int 8))) (mN nE [(bX [ae] (bM (mV 0)) (.n 0) cU (m2 dA (mV 0) (mC (.str "abcdefghijklmnopqrstuvwxyz"))))]))))
def hV:Fn:=dF 1 1 vI
def Pn:S:=
 (aA (a9 (c9 (cB (jQ fK fK (mC (.int 1)) (mN bH [(mV 0)]) (mC (.int 8)))))
 m9
 bf)
 (aA (nQ 1 (λ_=>.ok (.dk [])))
 (eM (bM (mV 0)) (.n 2)
 (aA (a9 (c9 (cB (bp hV [(wD (mV 2))])))
 m9
 bf)
 (aA (a9 (cB (g7 1 (mV 2)))
 m9
 bf)
 (fV 1 (mV 2) (mC (.bl true))))))))
def zh:Fn:=dF 1 3 Pn
def Oo:S:=
 (aA (nQ 2 (λ_=>.ok (.dt [])))
 (eM (bM (mV 1)) (.t [3,4])
 (aA (pH (bp pb [(wD (mV 0)),(wD (mN cF [(mV 3),(mV 4)]))]))
 (aA (a9 (cB (m2 fw (mV 3) (mV 4)))
 m9
 bf)
 (aA (a9 (cB (g7 2 (mN dTup [(mV 3),(mV 4)])))
 m9
 bf)
 (aA (fV 2 (mN dTup [(mV 3),(mV 4)]) (mC (.bl true)))
 (fV 2 (mN dTup [(mV 4),(mV 3)]) (mC (.bl true)))))))))
def zN:Fn:=dF 2 5 Oo
def MC:S:=
 (aA (bc 1 (bp oS [(wD (mV 0))]))
 (aA (bc 2 (bX [aa 1,ae] (bM (m2 aL (mV 0) (mC (.int 0)))) (.n 1) (cB (m2 eB (mV 1) (mV 0))) (mV 1)))
 (a9 (qH (mV 2))
 m9
 bf)))
def zT:Fn:=dF 1 3 MC
def P4:S:=
 (aA (pH (bp zh [(wD (mV 0))]))
 (aA (pH (bp zN [(wD (mV 0)),(wD (mV 1))]))
 (aA (bc 2 (bX [ae,ae] (bM (mV 1)) (.t [0,1]) cU (mN dTup [(mV 0),(mV 1)])))
 (aA (bc 3 (mN dTup [(mN kQ [(mV 0)]),(mN kQ [(bp nF [(wD (mV 0)),(wD (mV 2))])])]))
 (aA (pH (bp zT [(wD (mV 3))]))
 (bG (wD (mV 3))))))))
def MR:Fn:=dF 2 4 P4
def Av:S:=
 (eM (iP (bM (mV 1))) (.n 2)
 (a9 (cP (cB (m2 eB (mV 2) (mV 0))))
 (fM "NoName" [(gR 2),(λ_=>true)])
 (sP bf)))
def lJ:Fn:=dF 2 3 Av
def IU:S:=
 (aA (a9 (cP (c9 (cB (jQ fK fK (mC (.int 1)) (mN bH [(mV 0)]) (mC (.int 8))))))
 (fM "WrongSize" [(λ_=>true),(λ_=>true),(λ_=>true)])
 (sP bf))
 (aA (sP (nQ 1 (λ_=>.ok (.dk []))))
 (eM (iP (bM (mV 0))) (.n 2)
 (aA (a9 (cP (c9 (cB (bp hV [(wD (mV 2))]))))
 (fM "NoWord" [(gR 2),(λ_=>true)])
 (sP bf))
 (aA (a9 (cP (cB (g7 1 (mV 2))))
 (fM "Twice" [(gR 2),(λ_=>true)])
 (sP bf))
 (sP (fV 1 (mV 2) (mC (.bl true)))))))))
def qM:Fn:=dF 1 3 IU
def II:S:=
 (aA (sP (nQ 2 (λ_=>.ok (.dt []))))
 (eM (iP (bM (mV 1))) (.t [3,4])
 (aA (gW lJ [(wD (mV 0)),(wD (mN cF [(mV 3),(mV 4)]))])
 (aA (a9 (cP (cB (m2 fw (mV 3) (mV 4))))
 (fM "Twice" [(λ_=>true),(gR 3),(λ_=>true)])
 (sP bf))
 (aA (a9 (cP (cB (g7 2 (mN dTup [(mV 3),(mV 4)]))))
 (fM "Twice" [(λ_=>true),(gR 3),(λ_=>true),(gR 4)])
 (sP bf))
 (aA (sP (fV 2 (mN dTup [(mV 3),(mV 4)]) (mC (.bl true))))
 (sP (fV 2 (mN dTup [(mV 4),(mV 3)]) (mC (.bl true))))))))))
def oZ:Fn:=dF 2 5 II
def HE:S:=
 (aA (bc 2 (mN cF []))
 (aA (bc 3 (m2 aL (mV 1) (mC (.int 0))))
 (aA (uP 100 (cB (m2 eB (mV 3) (mV 2)))
 (aA (fe 2 (mV 3))
 (bc 3 (m2 aL (bX [aa 1,ae] (bM (bp kP [(wD (mV 0)),(wD (mV 3))])) (.n 1) (cB (m2 dA (mV 1) (mV 0))) (mV 1)) (mC (.int 0))))))
 (bG (wD (m1 z7 (eO fL (mV 2) (aa (m2 lE (mV 2) (mV 3))) ae)))))))
def nV:Fn:=jr 2 4 HE
def FR:S:=
 (aA (a9 (cB (m2 fw (m2 bq (mV 1) (mC (.int 2))) (mC (.int 0))))
 (aA (bc 2 (bX [aa 1,ae] (eG (mN bH [(mV 0)])) (.n 1) cU (m2 bq (m2 cJ (m2 bq (m2 cv (mV 0) (m2 bv (mC (.int 48271)) (m2 cv (mC (.int 614)) (mV 1)))) (mC (.int 2147483647))) (mC (.int 8))) (mC (.int 2)))))
 (bG (wD (bX [aa 2,aa 0,ae] (eG (mN bH [(mV 0)])) (.n 2) cU (m2 aL (mN cF [(m2 aL (mV 1) (mV 2)),(mN dTup [(m2 aL (m2 aL (mV 1) (mV 2)) (mC (.int 1))),(m2 aL (m2 aL (mV 1) (mV 2)) (mC (.int 0)))])]) (m2 aL (mV 0) (mV 2)))))))
 bf)
 (aA (bc 3 (mN ju [(mV 0)]))
 (aA (eM (bM (eO fL (mN cF [(m2 cJ (mV 1) (mC (.int 2))),(m2 cJ (mV 1) (mC (.int 64)))]) ae (aa (m2 bv (mC (.int 1)) (m2 bq (m2 cJ (mV 1) (mC (.int 4096))) (mC (.int 2))))))) (.n 4)
 (a9 (cB (m2 mY (mN bH [(mV 3)]) (mC (.int 0))))
 (aA (bc 5 (m2 bq (mV 4) (mN bH [(mV 3)])))
 (vE 3 (mV 5) (mN dTup [(m2 aL (m2 aL (mV 3) (mV 5)) (mC (.int 1))),(m2 aL (m2 aL (mV 3) (mV 5)) (mC (.int 0)))])))
 bf))
 (bG (wV 3)))))
def tR:Fn:=jr 2 6 FR
def D2:S:=
 (aA (sP (bc 1 (bp oS [(wD (mV 0))])))
 (aA (sP (bc 2 (bX [aa 1,ae] (bM (m2 aL (mV 0) (mC (.int 0)))) (.n 1) (cB (m2 eB (mV 1) (mV 0))) (mV 1))))
 (a9 (cP (qH (mV 2)))
 (wq "Ring" (bp nV [(wD (mV 0)),(wD (mV 2))]))
 (sP bf))))
def oh:Fn:=dF 1 3 D2
def xn:S:=
 (aA (gW qM [(wD (mV 0))])
 (aA (gW oZ [(wD (mV 0)),(wD (mV 1))])
 (aA (sP (bc 2 (bX [ae,ae] (bM (mV 1)) (.t [0,1]) cU (mN dTup [(mV 0),(mV 1)]))))
 (aA (sP (bc 3 (mN dTup [(mN kQ [(mV 0)]),(mN kQ [(bp nF [(wD (mV 0)),(wD (mV 2))])])])))
 (aA (gW oh [(wD (mV 3))])
 (sP (bG (wD (mV 3)))))))))
def mF:Fn:=dF 2 4 xn
def SU:S:=
 (aA (bc 1 (mN cF []))
 (aA (a9 (cB (jV 0 (λc=>([("NoName",false),("WrongSize",false),("NoWord",false),("Twice",false),("Ring", false)]:List (String×Bool)).lookup c)))
 (fe 1 (mC (.str "Locked, NoArrow, NoLabel or NoNet")))
 bf)
 (aA (a9 (cB (jV 0 (λc=>([("NoName",false),("WrongSize",false),("NoWord",false),("Twice",false),("Ring", false)]:List (String×Bool)).lookup c)))
 (fe 1 (mC (.str "NoRow, NoSuch, NoText, NoTie or Unlike")))
 bf)
 (aA (a9 (cB (jV 0 (λc=>([("NoName",true),("WrongSize",false),("NoWord",false),("Twice",false),("Ring", false)]:List (String×Bool)).lookup c)))
 (fe 1 (mC (.str "NoName")))
 bf)
 (aA (a9 (cB (jV 0 (λc=>([("NoName",false),("WrongSize",false),("NoWord",true),("Twice",false),("Ring", false)]:List (String×Bool)).lookup c)))
 (fe 1 (mC (.str "NoWord")))
 bf)
 (aA (a9 (cB (jV 0 (λc=>([("NoName",false),("WrongSize",false),("NoWord",false),("Twice",false),("Ring", true)]:List (String×Bool)).lookup c)))
 (fe 1 (mC (.str "Ring")))
 bf)
 (aA (a9 (cB (jV 0 (λc=>([("NoName",false),("WrongSize",false),("NoWord",false),("Twice",true),("Ring", false)]:List (String×Bool)).lookup c)))
 (fe 1 (mC (.str "Twice")))
 bf)
 (aA (a9 (cB (jV 0 (λc=>([("NoName",false),("WrongSize",true),("NoWord",false),("Twice",false),("Ring", false)]:List (String×Bool)).lookup c)))
 (fe 1 (mC (.str "WrongSize")))
 bf)
 (aA (a9 (c9 (cB (jV 0 (λc=>([("NoName",true),("WrongSize",true),("NoWord",true),("Twice",true),("Ring", true)]:List (String×Bool)).lookup c))))
 (fe 1 (mC (.str "no ValueError")))
 bf)
 (bG (wV 1)))))))))))
def rj:Fn:=jr 1 2 SU
def yM:S:=
 (aA (bc 2 (mC .non))
 (aA (bc 3 (mC .non))
 (aA (ub 4 2 ["NoName","WrongSize","NoWord","Twice","Ring"]
 (rK 3 mF [(wD (mV 0)),(wD (mV 1))]))
 (aA (a9 (uA 2)
 (bG (wD (mN cF [(mN cF []),(mV 3)])))
 bf)
 (aA (a9 (cB (uJ 2 (λc=>([("NoName",false),("WrongSize",false),("NoWord",false),("Twice",false),("Ring", true)]:List (String×Bool)).lookup c)))
 (bG (wD (mN cF [(bp rj [(wX 2)]),(rT "Ring" 2)])))
 bf)
 (bG (wD (mN cF [(bp rj [(wX 2)]),(mC .non)]))))))))
def jK:Fn:=jr 2 5 yM
def E6:S:=
 (aA (a9 (fA (c9 (cB (m1 (dE ["list"]) (mV 0)))) (cB (m2 fG (mN bH [(mV 0)]) (mC (.int 3)))))
 (bG (wD (mC (.bl false))))
 bf)
 (aA (eM (eG (mN bH [(mV 0)])) (.n 2)
 (aA (a9 (fA (c9 (cB (m1 (dE ["str"]) (m2 aL (mV 0) (mV 2))))) (cB (m2 dA (m2 aL (mV 0) (mV 2)) (eO fL (mV 0) ae (aa (mV 2))))))
 (bG (wD (mC (.bl false))))
 bf)
 (a9 (cB (m2 eB (mN dTup [(m2 aL (mV 0) (mV 2)),(m2 aL (mV 0) (m2 bq (m2 bv (mV 2) (mC (.int 1))) (mN bH [(mV 0)])))]) (mV 1)))
 (bG (wD (mC (.bl false))))
 bf)))
 (bG (wD (mC (.bl true))))))
def oR:Fn:=dF 2 3 E6
def Dz:S:=
 (aA (bc 2 (mN cF []))
 (aA (eM (bM (mV 0)) (.n 3)
 (bc 2 (m2 bv (mV 2) (bX [aa 3,aa 1,ae] (bM (mV 0)) (.n 2) (cB (m2 dA (mN dTup [(mV 0),(mV 2)]) (mV 1))) (mN dTup [(mV 0),(mV 2)])))))
 (bG (wD (mN dTup [(mN kQ [(mV 0)]),(mN kQ [(mV 2)])])))))
def qS:Fn:=dF 2 4 Dz
def Hm:S:=
 (aA (bc 1 (bp q9 [(wD (mV 0)),(wD (mC (.int 8)))]))
 (aA (bc 2 (mN ju [(m2 aL (mV 1) (mC (.int 0)))]))
 (aA (bc 3 (bp tR [(wD (mN ju [(m2 aL (mV 1) (mC (.int 1)))])),(wD (bp fP [(wD (mV 0)),(wD (mC (.int 32)))]))]))
 (aA (nQ 4 (wI "Ring" (mN ju [(mV 2)])))
 (aA (a9 (fA (c9 (cB (uJ 4 (λc=>([("NoName",true),("WrongSize",true),("NoWord",true),("Twice",true),("Ring",true)]:List (String×Bool)).lookup c)))) (cB (m2 dQ (rT "Ring" 4) (mV 2))))
 (bG (wD (mC (.bl false))))
 bf)
 (aA (eM (eG (mC (.int 29))) (.n 5)
 (aA (bc 6 (mN cF [(mN ju [(mV 2)]),(mN ju [(mV 3)])]))
 (aA (s9 [7,8] (bp jK [(wD (m2 aL (mV 6) (mC (.int 0)))),(wD (m2 aL (mV 6) (mC (.int 1))))]))
 (aA (a9 (cB (m2 dQ (mV 6) (mN cF [(mV 2),(mV 3)])))
 (bG (wD (mC (.bl false))))
 bf)
 (aA (a9 (c9 (cB (bp qU [(wD (mV 2)),(wD (mV 3))])))
 (bG (wD (n5 (m2 fw (mV 7) (mN cF [])) (bp (gQ 4) [(wD (mV 8)),(wD (bp qS [(wD (mV 2)),(wD (mV 3))]))]))))
 bf)
 (aA (a9 (fA (cB (m2 dQ (mV 7) (mN cF [(mC (.str "Ring"))]))) (c9 (cB (bp oR [(wD (mV 8)),(wD (mV 3))]))))
 (bG (wD (mC (.bl false))))
 bf)
 (aA (bc 9 (m2 bq (bp fP [(wD (mV 0)),(wD (m2 bv (mC (.int 33)) (m2 bq (mV 5) (mC (.int 6)))))]) (mN bH [(mV 8)])))
 (aA (bc 10 (mN dTup [(m2 aL (mV 8) (mV 9)),(m2 aL (mV 8) (m2 bq (m2 bv (mV 9) (mC (.int 1))) (mN bH [(mV 8)])))]))
 (bc 3 (bX [aa 10,ae] (bM (mV 3)) (.n 1) (cB (m2 dQ (mV 1) (mV 0))) (mV 1)))))))))))
 (bG (wD (mC (.bl false))))))))))
def Aw:Fn:=dF 1 11 Hm
end Mr
namespace A
open PySem L2 PyProof.Rows
section
variable{P:aW}{w:aQ}{K:aB}{mg:Str->Option ah}{base:ay}[Tb:bD]
variable{x qual:Str}{st:bj}{f:ag}{fd:bA}{N ps:List Str}{k:Nat}{m:Mi.S}
theorem i6(M:Nat->Bool)(F:bN K x qual st f fd)(S:cM N ps (bC st))
 (hb:∀(cdv:ah) (A:a7) (outer:List Env) (s:ak) (H:Hp) (E:XK),cA k (A.deeper (envOfC qual (bC st) s.heap.objs.size f cdv))->N.Nodup->(A.deeper (envOfC qual (bC st) s.heap.objs.size f cdv)).units+1<cLine->(A.deeper (envOfC qual (bC st) s.heap.objs.size f cdv)).units+64<cLine ->
  ∃t,fv (cZ aJ P w K mg base N qual (bC st) f cdv A outer s H E).nJ (gL st) t/\AS M qV t m)
 (hM:∀i,i<ps.length->M i=false:=by decide):bw P w K mg base aJ (k+1) f fd ps (bV (Mi.dF ps.length N.length m)):=
 F.ok S (λvs H Q E h=>Fc h) λcdv A outer s H vs Q E hr h=>
  let ⟨t,a,b⟩:=hb cdv A outer s H E hr S.nd (mn hr) hr.units
  ⟨t,a,HK b hM h⟩
theorem okN(M:Nat->Bool)(F:bN K x qual st f fd)(S:cM N ps (bC st))
 (hb:∀(cdv:ah) (A:a7) (outer:List Env) (s:ak) (H:Hp) (E:XK),cA k (A.deeper (envOfC qual (bC st) s.heap.objs.size f cdv))->N.Nodup->(A.deeper (envOfC qual (bC st) s.heap.objs.size f cdv)).units+1<cLine->(A.deeper (envOfC qual (bC st) s.heap.objs.size f cdv)).units+64<cLine ->
  ∃t,fv (cZ aJ P w K mg base N qual (bC st) f cdv A outer s H E).nJ (gL st) t/\AS M qN t m)
 (hM:∀i,i<ps.length->M i=false:=by decide):bw P w K mg base aJ (k+1) f fd ps (eo (Mi.jr ps.length N.length m)):=
 F.ok S (λvs H Q E h=>Ba h) λcdv A outer s H vs Q E hr h=>
  let ⟨t,a,b⟩:=hb cdv A outer s H E hr S.nd (mn hr) hr.units
  ⟨t,a,runN b hM h⟩
end
theorem d0{N P:List Str}{sc:dM}(a:sc.kind=.function:=by rfl)(b:sc.isCoroutine=false:=by rfl)(c:sc.isGenerator=false:=by rfl)(d:N.Nodup:=by decide +kernel)(e:N.take P.length=P:=by rfl)
 (f:∀x∈P,sc.names.lookup x=aa .local\/sc.names.lookup x=aa .cell:=by decide +kernel) (g:∀y∈sc.names,y.2≠.free:=by decide +kernel):cM N P sc:=⟨a,b,c,d,e,f,g⟩
section
variable{M:Nat->Bool}[Tb:bD]
theorem bK(i:Nat)(hm:M i=false:=by rfl):AE M qV (eZ i) (Mi.mV i):=GX i hm
theorem bJ(i:Nat)(hm:M i=false:=by rfl):AW M qV (eZ i) (Mi.wD (Mi.mV i)):=AE.w (GX i hm)
end
section
variable{X:Cx}{e:aO}{te:TE}{pos pos':Pos}{x:Str}
theorem pS(i:Nat)(he:PE X e te)(hN:X.N.Nodup:=by assumption)(hi:X.N[i]? = aa x:=by rfl)(hx:Loc X.env.scope x:=by exact cE rfl)(hs:swapsWith e (aa (.Name x pos')) pos.line X.env=pure false:=by rfl)
 (hf:X.fn x=true\/X.env.scope.names.lookup x=aa .local:=by first|exact .inl rfl|exact .inr rfl|assumption):PS X (.Assign [.Name x pos'] e pos) (kN te (ii i)):=jH hN hi hx he hs hf
theorem pG(i:Nat)(hN:X.N.Nodup:=by assumption)(hi:X.N[i]? = aa x:=by rfl)(hx:Loc X.env.scope x:=by exact cE rfl)
 (hf:X.fn x=true\/X.env.scope.names.lookup x=aa .local:=by first|exact .inl rfl|exact .inr rfl|assumption):L2.PG X (.Name x pos) (ii i):=dL hN hi hx hf
theorem wR{a:Str}:[a].Nodup:=jC.mpr ⟨(λh=>nomatch h),u7⟩
theorem ja{a b:Str}(h:a≠b:=by decide):[a,b].Nodup:=jC.mpr ⟨λz=>h (dI.mp z),wR⟩
theorem pC{k k':Nat}{ps:List Str}{sp:Sp}{es:List aO}{t:TA}(C:bR X.prog X.w X.K X.mg X.base aJ k x ps sp)(hr:cA k' X.A)(ha:PA X (e::es) t)(hle:k<=k':=by decide)(hg:Gl X x:=by rfl)
 (hdb:(x==("__debug__" : Str))=false:=by decide) (he:starEach (e::es) X.env=(false,eval e X.env)::starEach es X.env:=by rfl) (hpl:(backTo pos (starEach es X.env)).any (·.1)=false:=by rfl) :
 PE X (.Call (.Name x pos') (e::es) [] pos) (lK sp [] E0 t):=jq C (hr.mono hle) hg mI ha hdb he hpl
theorem aV(i:Nat)(hN:X.N[i]? = aa x:=by rfl)(hv:uD X.env.scope x:=by first|exact cE rfl|exact gH (cE rfl)|exact gH (gH rfl))(hd:(x==("__debug__" : Str))=false:=by decide)
 (hcd:(x==("__classdict__" : Str))=false:=by decide) (hs:starEach [Expr.Name x pos] X.env=(false,eval (.Name x pos) X.env)::starEach [] X.env:=by rfl):PA X [.Name x pos] (dY (eZ i) fg):=aq (pv i hN hv hd hcd) aN hs
theorem pX{a b:aO}{ta tb:TE}(ha:PE X a ta)(hb:PE X b tb)(hs:F6 b:=by exactλ_ _=>rfl):PE X (.Subscript a b pos) (pM (zc X.K) ta tb):=tG ue ha hb hs
end
end A
namespace oB
open PySem L2 PyProof.Rows A
open Mr
def xk(x:Str):Str:=x ++ ".<locals>." ++ "<lambda>"
def top(i:Nat):bj:=PySem.Challenge.pw_arrowfind_k04_rings_told.main.body.getD i (.Pass ⟨0,0,0,0⟩)
structure Txt(mg:Str->Option ah):Prop where
 cC:mg "len" = ae
 jj:mg "range" = ae
 uT:mg "max" = ae
 Aj:mg "min" = ae
 e9:mg "tuple" = ae
 eU:mg "list" = ae
 eh:mg "isinstance" = ae
 uB:mg "all" = ae
 UF:mg "any" = ae
 KU:mg "bool" = ae
 vn:mg "str" = ae
 KW:mg "int" = ae
 Tq:mg "zip" = ae
 UG:mg "enumerate" = ae
 Tt:mg "sorted" = ae
 Tu:mg "reversed" = ae
 UH:mg "set" = ae
 Tv:∃t,mg "LETTERS" = aa (.str "abcdefghijklmnopqrstuvwxyz" t)
 Tw:∃t,mg "MOST_LETTERS" = aa (.int 8 t)
 KY:∃t,mg "MOST_NAMES" = aa (.int 8 t)
section
variable[Tb:bD]
structure Own(mg:Str->Option ah)(base:ay):Prop where
 Tx:OwnCls "WrongSize" (Tb.cl "WrongSize") [.type "ValueError",.type "Exception",.type "BaseException",.type "object"] "ValueError.__new__" mg base
 Tz:OwnCls "NoWord" (Tb.cl "NoWord") [.type "ValueError",.type "Exception",.type "BaseException",.type "object"] "ValueError.__new__" mg base
 Cr:OwnCls "Twice" (Tb.cl "Twice") [.type "ValueError",.type "Exception",.type "BaseException",.type "object"] "ValueError.__new__" mg base
 TB:OwnCls "NoName" (Tb.cl "NoName") [.type "ValueError",.type "Exception",.type "BaseException",.type "object"] "ValueError.__new__" mg base
 KZ:mg "ArrowError" = aa (.ref (Tb.cl "ArrowError"))
 TC:mg "WrongSize" = aa (.ref (Tb.cl "WrongSize"))
 TD:mg "NoWord" = aa (.ref (Tb.cl "NoWord"))
 TF:mg "Twice" = aa (.ref (Tb.cl "Twice"))
 TH:mg "NoName" = aa (.ref (Tb.cl "NoName"))
 K0:mg "Ring" = aa (.ref (Tb.cl "Ring"))
 TJ:mg "Unlike" = aa (.ref (Tb.cl "Unlike"))
 TK:mg "NoArrow" = aa (.ref (Tb.cl "NoArrow"))
 TL:mg "Locked" = aa (.ref (Tb.cl "Locked"))
 TM:mg "NoTie" = aa (.ref (Tb.cl "NoTie"))
 TN:mg "NoSuch" = aa (.ref (Tb.cl "NoSuch"))
 TQ:mg "NoNet" = aa (.ref (Tb.cl "NoNet"))
 TR:mg "NoText" = aa (.ref (Tb.cl "NoText"))
 TU:mg "NoRow" = aa (.ref (Tb.cl "NoRow"))
 TV:mg "NoLabel" = aa (.ref (Tb.cl "NoLabel"))
 TW:mg "ValueError" = ae
end
section
variable{P:aW}{w:aQ}{K:aB}{mg:Str->Option ah}{base:ay}[Tb:bD]
def Sl(st:bj)(j:Nat):bj:=match st with
 |.ClassDef _ _ _ b _ _ _ _ _ _ _=>b.getD j (.Pass ⟨0,0,0,0⟩)
 |_=>.Pass ⟨0,0,0,0⟩
section
variable{P:aW}{w:aQ}{K:aB}{mg:Str->Option ah}{base:ay}
abbrev xg:bj:=top 1
theorem vQ:cM ["value"] ["value"] (bC xg):=d0
theorem PK{f:ag}{fd:bA}(F:bN K "own_copy" "own_copy" xg f fd)(T:Txt mg):bw P w K mg base aJ 1 f fd ["value"] HN:=
 F.ok vQ (λvs H Q E h=>by obtain⟨z,rfl,_⟩:=h;rfl) (λcdv A outer s H vs Q E hr h=>by
  have nd:=vQ.nd;refine⟨_,(aD (bQ (eD (bL jz rfl T.eh ee (aq (pv 0) (aq (gp rfl T.eU ji) aN)))) (aP kI) bP)
   (aD (bQ (eD (bL jz rfl T.eh ee (aq (pv 0) (aq (gp rfl T.e9 lc) aN)))) (aP kI) bP) (aP (cp (pv 0))))),?_⟩
  obtain⟨z,rfl,q⟩:=h;refine⟨.str z,rfl,_,.type "str","list",false,rfl,.str z,by kernel_rfl,false,rfl,?_⟩;refine⟨.str z,rfl,_,.type "str","tuple", false,rfl,.str z,by kernel_rfl,false,rfl,?_⟩;exact⟨.str z,rfl,q⟩)
theorem NC{f:ag}{fd:bA}(F:bN K "own_copy" "own_copy" xg f fd)(T:Txt mg)(C:bR P w K mg base aJ 1 "own_copy" ["value"] HN):bw P w K mg base aJ 2 f fd ["value"] Fe:=
 F.ok vQ (λvs H Q E h=>by obtain⟨a,z,rfl,_⟩:=h;rfl) (λcdv A outer s H vs Q E hr h=>by
  have nd:=vQ.nd;refine⟨_,(aD (bQ (eD (bL jz rfl T.eh ee (aq (pv 0) (aq (gp rfl T.eU ji) aN)))) (aP (cp (im (N':=["part"]) (ρ:=[ae]) rfl (dP.of rfl (by kernel_rfl)) (Fd (pv 0)) (λ_ _ _ _ _=>(dL (i:=0) wR rfl (cE rfl))) (gq rfl) (λ_ _ _ _ _=>jb) (λ_ _ _ _ _=>(jq (E:=λ_ _ _=>False) C hr rfl mI (aV 0)))))) bP)
   (aD kI (aP kI))),?_⟩
  obtain⟨a,zs,rfl,rd,hz,q⟩:=h;have sq:dO K H a (zs.map V.str):=.inl rd;have tail:∀Q2:Prop,Q2->Q2:=λ_ z=>z;have ty:gP K H (.ref a) (.type "list"):=by
   rcases rd with r|⟨o,r⟩
   ·exact .lst r
   ·exact .frz r
  refine⟨.ref a,rfl,_,.type "list","list", true,rfl,ty,by kernel_rfl,true,rfl,?_⟩;refine⟨.ref a,rfl,a,rfl,⟨_,sq⟩,?_⟩;refine OS (zH (xs:=zs.map V.str)) (λ_=>true) id (by rw[be,cD];omega) sq (λx hx acc N h1 h2=>?_) (λp hp=>?_)
  ·obtain⟨z,_,rfl⟩:=cL.mp hx;exact⟨.str z,rfl,z,rfl,h1 rfl⟩
  ·rw[List.map_id,lU.mpr (λ_ _=>rfl)];exact q p hp)
abbrev Bj:bj:=Sl (top 7) 0
theorem Ft:cM ["self","ring"] ["self","ring"] (bC Bj):=d0
theorem MT{f:ag}{fd:bA}{C CA fI:ag}(F:bN K "__init__" "Ring.__init__" Bj f fd)(T:Txt mg)(Co:bR P w K mg base aJ 2 "own_copy" ["value"] Fe)(O:n9 "Ring" C fI [.type "ValueError",.type "Exception",.type "BaseException",.type "object"] "ValueError.__new__" mg base)(Y:Bb K mg "ArrowError" CA "ValueError.__init__")(S:yQ K C "ring"):bw P w K mg base aJ 3 f fd ["self","ring"] (xh C):=
 F.ok Ft (λvs H Q E h=>by obtain⟨a,z,_,rfl,_⟩:=h;rfl) (λcdv A outer s H vs Q E hr h=>by
  have nd:=Ft.nd;refine⟨_,(aD (eV (QY l7 O Y rfl (pv 0) (pW (gh (lI (by decide +kernel)) (gh (LJ hr.gd hr.units (pv 1)) oP)) (by decide)))) (aP (Q7 S (pv 0) (jq (E:=λ_ _ _=>False) Co hr rfl mI (aV 1))))),?_⟩;obtain⟨ea,a,zs,rfl,hx,rd,hz,hs,q⟩:=h;refine⟨.ref ea,rfl,⟨λp hp=>?_,λz _=>⟨ea,ae,rfl,hx,?_⟩⟩⟩
  ·simp only[bn,ki,jI]at hp;rcases hp with rfl|rfl
   ·trivial
   ·exact⟨.ref a,rfl,rfl,a,zs,rfl,.inl rd,hs⟩
  ·refine⟨.ref a,rfl,a,zs,rfl,rd,hz,λp hp=>?_⟩;refine⟨.ref ea,rfl,ea,rfl,?_,λdx hdx=>q p dx hp hdx⟩;rw[av (λz=>by rw[<- z,hx]at hp;cases hp)];exact hx)
end
structure sZ(K:aB):Prop where
 TX:∀x k,(λc=>([("NoName",true),("WrongSize",true),("NoWord",true),("Twice",true),("Ring",true)]:List (String×Bool)).lookup c) x=aa k->fT K (Tb.cl x)/\bO K (.ref (Tb.cl x)) (.type "ValueError")=aa k
 TY:∀x k,(λc=>([("NoName",false),("WrongSize",true),("NoWord",false),("Twice",false),("Ring",false)]:List (String×Bool)).lookup c) x=aa k->fT K (Tb.cl x)/\bO K (.ref (Tb.cl x)) (.ref (Tb.cl "WrongSize"))=aa k
 TZ:∀x k,(λc=>([("NoName",false),("WrongSize",false),("NoWord",false),("Twice",true),("Ring",false)]:List (String×Bool)).lookup c) x=aa k->fT K (Tb.cl x)/\bO K (.ref (Tb.cl x)) (.ref (Tb.cl "Twice"))=aa k
 K1:∀x k,(λc=>([("NoName",false),("WrongSize",false),("NoWord",false),("Twice",false),("Ring",true)]:List (String×Bool)).lookup c) x=aa k->fT K (Tb.cl x)/\bO K (.ref (Tb.cl x)) (.ref (Tb.cl "Ring"))=aa k
 T0:∀x k,(λc=>([("NoName",false),("WrongSize",false),("NoWord",true),("Twice",false),("Ring",false)]:List (String×Bool)).lookup c) x=aa k->fT K (Tb.cl x)/\bO K (.ref (Tb.cl x)) (.ref (Tb.cl "NoWord"))=aa k
 T1:∀x k,(λc=>([("NoName",true),("WrongSize",false),("NoWord",false),("Twice",false),("Ring",false)]:List (String×Bool)).lookup c) x=aa k->fT K (Tb.cl x)/\bO K (.ref (Tb.cl x)) (.ref (Tb.cl "NoName"))=aa k
 T3:∀x k,(λc=>([("NoName",false),("WrongSize",false),("NoWord",false),("Twice",false),("Ring",false)]:List (String×Bool)).lookup c) x=aa k->fT K (Tb.cl x)/\gX K (.ref (Tb.cl x)) (([Tb.cl "NoRow",Tb.cl "NoSuch",Tb.cl "NoText",Tb.cl "NoTie",Tb.cl "Unlike"]:List ag).map .ref)=aa k
 T4:∀x k,(λc=>([("NoName",false),("WrongSize",false),("NoWord",false),("Twice",false),("Ring",false)]:List (String×Bool)).lookup c) x=aa k->fT K (Tb.cl x)/\gX K (.ref (Tb.cl x)) (([Tb.cl "Locked",Tb.cl "NoArrow",Tb.cl "NoLabel",Tb.cl "NoNet"]:List ag).map .ref)=aa k
 K2:wC K (Tb.cl "Ring") "ring"
 T5:∀C,(∃c∈(["NoName","WrongSize","NoWord","Twice","Ring"]:List String),C=Tb.cl c)->qe K (.ref C) (.ref (Tb.cl "ArrowError"))=aa true
 T6:∀x k,(λc=>([("NoName",true),("WrongSize",true),("NoWord",true),("Twice",true),("Ring",true)]:List (String×Bool)).lookup c) x=aa k->fT K (Tb.cl x)/\bO K (.ref (Tb.cl x)) (.ref (Tb.cl "ArrowError"))=aa k
abbrev zJ:bj:=top 33
theorem Mg:cM ["_law_script","_law_k","_law_spare"] ["_law_script","_law_k"] (bC zJ):=d0
theorem MA{f:ag}{fd:bA}(F:bN K "_law_cell" "_law_cell" zJ f fd)(T:Txt mg):bw P w K mg base aJ 1 f fd ["_law_script","_law_k"] (bV fP):=
 i6 (Mo []) F Mg (λcdv A outer s H E hr nd hu bF=>by
  exact⟨_,(aD (bQ (cW uO (pv 1) (bL fN rfl T.cC f8 (aV 0)) (d5 _))
 (aP (cp (pX (pv 0) (pv 1))))
 bP)
 (aD (pS 2 (a8 eJ aU (a8 iC (a8 iC aU (pv 1)) (pv 1))))
 (aD (bQ (cW zV (bL fN rfl T.cC f8 (aV 0)) aU (d5 _))
 (aP (pS 2 (a8 eJ (pv 2) (a8 iC (a8 ek (pX (pv 0) aU) aU) (a8 eJ (a8 eJ (a8 iC (pv 1) (pv 1)) (a8 iC aU (pv 1))) aU)))))
 bP)
 (aP (cp (pv 2)))))),
  (aS (cI (cR (AE.p (az uo (ap 1) (AE.p (cu cC (aH (ap 0) aZ))))))
 (dX (AE.w (az cG (ap 0) (ap 1))))
 bW)
 (aS (ce 2 rfl (az eQ (AE.p aR) (AE.p (az iy (AE.p (az iy (AE.p aR) (ap 1))) (ap 1)))))
 (aS (cI (cR (AE.p (az Ag (AE.p (cu cC (aH (ap 0) aZ))) (AE.p aR))))
 (ce 2 rfl (az eQ (ap 2) (AE.p (az iy (AE.p (az er (AE.p (az cG (ap 0) (AE.p aR))) (AE.p aR))) (AE.p (az eQ (AE.p (az eQ (AE.p (az iy (ap 1) (ap 1))) (AE.p (az iy (AE.p aR) (ap 1))))) (AE.p aR)))))))
 bW)
 (dX (bJ 2)))))⟩)
abbrev AC:bj:=top 34
theorem Oh:cM ["_law_cell_here","_law_many","_law_letters","_law_long","_law_size","_law_stem","_law_at"] ["_law_cell_here","_law_many"] (bC AC):=d0
theorem LX{f:ag}{fd:bA}(F:bN K "_law_words" "_law_words" AC f fd)(T:Txt mg):bw P w K mg base aJ 1 f fd ["_law_cell_here","_law_many"] (eo sY):=
 okN (Mo []) F Oh (λcdv A outer s H E hr nd hu bF=>by
  exact⟨_,(aD (jH (i:=2) nd rfl (gH rfl) jt)
 (aD (bQ (cW uO (a8 ek (pv 0) aU) aU (d5 _))
 (aD (jH (i:=3) nd rfl (gH rfl) (iw J9 Ka Kb Hb jt (aq (im (N':=["_law_letters","_law_cell_here","_law_k"]) (ρ:=[aa 2,aa 0,ae]) rfl (dP.of rfl (by kernel_rfl)) (iX rfl T.jj (aq aU aN)) (λ_ _ _ _ _=>(dL (i:=2) (by show(["_law_letters","_law_cell_here","_law_k"]:List Str).Nodup;decide +kernel) rfl (cE rfl))) (gq rfl) (λ_ _ _ _ _=>jb) (λ_ _ _ _ _=>(pX (pv 0) (a8 ek (a8 j6 (pv 1) (a8 eJ aU (a8 iC aU (pv 2)))) aU)))) aN)))
 (aD (bQ (cW (pO bF) (a8 ek (pv 0) aU) aU (d5 _))
 (aP (cp (im (N':=["_law_long","_law_k"]) (ρ:=[aa 3,ae]) rfl (dP.of rfl (by kernel_rfl)) (iX rfl T.jj (aV 1)) (λ_ _ _ _ _=>(dL (i:=1) ja rfl (cE rfl))) (gq rfl) (λ_ _ _ _ _=>jb) (λ_ _ _ _ _=>(pI oK (pv 0) oY (oV (a8 eJ (pv 1) aU)))))))
 bP)
 (aP (cp (im (N':=["_law_long","_law_k"]) (ρ:=[aa 3,ae]) rfl (dP.of rfl (by kernel_rfl)) (iX rfl T.jj (aV 1)) (λ_ _ _ _ _=>(dL (i:=1) ja rfl (cE rfl))) (gq rfl) (λ_ _ _ _ _=>jb) (λ_ _ _ _ _=>(pI oK (pv 0) (oV (a8 Ds aU (pv 1))) oY)))))))
 bP)
 (aD (pS 4 (a8 ek (a8 j6 (pv 0) aU) aU))
 (aD (jH (i:=5) nd rfl (gH rfl) (iw J9 Ka Kb Hb jt (aq (im (N':=["_law_letters","_law_cell_here","_law_k"]) (ρ:=[aa 2,aa 0,ae]) rfl (dP.of rfl (by kernel_rfl)) (iX rfl T.jj (aV 4)) (λ_ _ _ _ _=>(dL (i:=2) (by show(["_law_letters","_law_cell_here","_law_k"]:List Str).Nodup;decide +kernel) rfl (cE rfl))) (gq rfl) (λ_ _ _ _ _=>jb) (λ_ _ _ _ _=>(pX (pv 0) (a8 ek (a8 eJ (a8 eJ (a8 j6 (pv 1) aU) (a8 iC aU (pv 2))) (a8 iC (pv 2) (pv 2))) aU)))) aN)))
 (aD (jH (i:=6) nd rfl (gH rfl) (a8 ek (a8 j6 (pv 0) aU) (a8 eJ (pv 4) aU)))
 (aP (cp (im (N':=["_law_stem","_law_letters","_law_at","_law_cell_here","_law_k"]) (ρ:=[aa 5,aa 2,aa 6,aa 0,ae]) rfl (dP.of rfl (by kernel_rfl)) (iX rfl T.jj (aV 1)) (λ_ _ _ _ _=>(dL (i:=4) (by show(["_law_stem","_law_letters","_law_at","_law_cell_here","_law_k"]:List Str).Nodup;decide +kernel) rfl (cE rfl))) (gq rfl) (λ_ _ _ _ _=>jb) (λ_ _ _ _ _=>(a8 eJ (a8 eJ (pI oK (pv 0) oY (oV (pv 2))) (pX (pv 1) (a8 ek (a8 eJ (a8 j6 (pv 3) aU) (a8 iC aU (pv 4))) aU))) (pI oK (pv 0) (oV (pv 2)) oY))))))))))),
  (aS (ce 2 rfl jy)
 (aS (cI (cR (AE.p (az uo (AE.p (az er (ap 0) (AE.p aR))) (AE.p aR))))
 (aS (ce 3 rfl (Eh (AE.p jy) (AE.np (fb (K:=K) (tg:=(.n 2)) (iB.c (i0 (AE.p aR))) (by decide) jw (az cG (ap 0) (AE.p (az er (AE.p (az j5 (ap 1) (AE.p (az eQ (AE.p aR) (AE.p (az iy (AE.p aR) (ap 2))))))) (AE.p aR))))))))
 (aS (cI (cR (AE.p (az pQ (AE.p (az er (ap 0) (AE.p aR))) (AE.p aR))))
 (mR (AE.w (fb (K:=K) (tg:=(.n 1)) (iB.c (i0 (ap 1))) (by decide) jw (oU pi (ap 0) oE (pK (AE.p (az eQ (ap 1) (AE.p aR))))))))
 bW)
 (mR (AE.w (fb (K:=K) (tg:=(.n 1)) (iB.c (i0 (ap 1))) (by decide) jw (oU pi (ap 0) (pK (AE.p (az En (AE.p aR) (ap 1)))) oE))))))
 bW)
 (aS (ce 4 rfl (az er (AE.p (az j5 (ap 0) (AE.p aR))) (AE.p aR)))
 (aS (ce 5 rfl (Eh (AE.p jy) (AE.np (fb (K:=K) (tg:=(.n 2)) (iB.c (i0 (ap 4))) (by decide) jw (az cG (ap 0) (AE.p (az er (AE.p (az eQ (AE.p (az eQ (AE.p (az j5 (ap 1) (AE.p aR))) (AE.p (az iy (AE.p aR) (ap 2))))) (AE.p (az iy (ap 2) (ap 2))))) (AE.p aR))))))))
 (aS (ce 6 rfl (az er (AE.p (az j5 (ap 0) (AE.p aR))) (AE.p (az eQ (ap 4) (AE.p aR)))))
 (mR (AE.w (fb (K:=K) (tg:=(.n 4)) (iB.c (i0 (ap 1))) (by decide) jw (az eQ (AE.p (az eQ (AE.p (oU pi (ap 0) oE (pK (ap 2)))) (AE.p (az cG (ap 1) (AE.p (az er (AE.p (az eQ (AE.p (az j5 (ap 3) (AE.p aR))) (AE.p (az iy (AE.p aR) (ap 4))))) (AE.p aR))))))) (AE.p (oU pi (ap 0) (pK (ap 2)) oE)))))))))))⟩)
abbrev AL:bj:=top 35
theorem Ph:cM ["_law_cell_here","_law_many","_law_left","_law_ranks_here","_law_draw","_law_k"] ["_law_cell_here","_law_many"] (bC AL):=d0
theorem Pk{f:ag}{fd:bA}(F:bN K "_law_ranks" "_law_ranks" AL f fd)(T:Txt mg):bw P w K mg base aJ 1 f fd ["_law_cell_here","_law_many"] (eo tq):=
 okN (Mo [2,3]) F Ph (λcdv A outer s H E hr nd hu bF=>by
  exact⟨_,(aD (qC (i:=2) (N':=["_law_k"]) (ρ:=[ae]) rfl nd rfl (cE rfl) (dP.of rfl (by kernel_rfl)) (iX rfl T.jj (aV 1)) (λ_ _ _ _ _=>(dL (i:=0) wR rfl (cE rfl))) (gq rfl) (λ_ _ _ _ _=>jb) (λ_ _ _ _ _=>(pv 0)))
 (aD (pS 3 (fB aN))
 (aD (pS 4 (a8 ek (pv 0) aU))
 (aD (g9 iR rfl (iX rfl T.jj (aV 1)) (pG 5)
 (aD (pS 4 (a8 ek (a8 eJ (a8 eJ (a8 iC (pv 4) aU) (a8 iC aU (pv 5))) aU) aU))
 (aP (eV (iw iQ ko ku jP (pv 3) (aq (iw iQ PySem.F.slot_list_pop PySem.F.type_list_pop Nw (pv 2) (aq (a8 ek (a8 j6 (pv 4) aU) (bL fN rfl T.cC f8 (aV 2))) aN)) aN))))))
 (aP (cp (pv 3))))))),
  (aS (pT 2 rfl (fb (K:=K) (tg:=(.n 0)) (iB.c (i0 (ap 1))) (by decide) jw (bK 0)))
 (aS (pT 3 rfl (fE aZ))
 (aS (ce 4 rfl (az er (ap 0) (AE.p aR)))
 (aS (jm (K:=K) (tg:=(.n 5)) (i0 (ap 1)) (by decide)
 (aS (ce 4 rfl (az er (AE.p (az eQ (AE.p (az eQ (AE.p (az iy (ap 4) (AE.p aR))) (AE.p (az iy (AE.p aR) (ap 5))))) (AE.p aR))) (AE.p aR)))
 (NZ 3 2 (by decide) rfl rfl (AE.p (az er (AE.p (az j5 (ap 4) (AE.p aR))) (AE.p (cu cC (aH (ap 2) aZ))))))))
 (vV 3 rfl)))))⟩)
abbrev Ax:bj:=top 36
theorem OU:cM ["_law_script","_law_most","_law_many","_law_names","_law_ranks_here","_law_thick","_law_arrows","_law_j","_law_k","_law_cell_here"] ["_law_script","_law_most"] (bC Ax):=d0
theorem ND{f:ag}{fd:bA}(F:bN K "_law_net" "_law_net" Ax f fd)(T:Txt mg)(lg:bR P w K mg base aJ 1 "_law_cell" ["_law_script","_law_k"] (bV fP))(Ct:bR P w K mg base aJ 1 "_law_words" ["_law_cell_here","_law_many"] (eo sY))(Cu:bR P w K mg base aJ 1 "_law_ranks" ["_law_cell_here","_law_many"] (eo tq)):bw P w K mg base aJ 2 f fd ["_law_script","_law_most"] (bV q9):=
 i6 (Mo [6]) F OU (λcdv A outer s H E hr nd hu bF=>by
  exact⟨_,(aD (pS 2 (a8 eJ aU (a8 ek (pC lg hr (aq (pv 0) (aq aU aN))) (pv 1))))
 (aD (pS 3 (pC Ct hr (aq (pC lg hr (aq (pv 0) (aq aU aN))) (aV 2))))
 (aD (pS 4 (pC Cu hr (aq (pC lg hr (aq (pv 0) (aq aU aN))) (aV 2))))
 (aD (pS 5 (tG ue (fB (aq aU (aq aU (aq aU (aq aU (aq aU (aq aU aN))))))) (a8 ek (pC lg hr (aq (pv 0) (aq aU aN))) aU) (λ_ _=>rfl)))
 (aD (pS 6 (fB aN))
 (aD (g9 iR rfl (iX rfl T.jj (aV 2)) (pG 7)
 (aP (g9 iR rfl (iX rfl T.jj (aV 2)) (pG 8)
 (aD (pS 9 (pC lg hr (aq (pv 0) (aq (a8 eJ (a8 eJ aU (a8 j6 (a8 iC (bL (GH rfl) rfl T.uT boot_max (aq (pv 7) (aV 8))) (a8 Ds (bL (GH rfl) rfl T.uT boot_max (aq (pv 7) (aV 8))) aU)) aU)) (bL (M5 rfl) rfl T.Aj boot_min (aq (pv 7) (aV 8)))) aN))))
 (aP (bQ (PW.pt (pw_and (cW uO (pX (pv 4) (pv 7)) (pX (pv 4) (pv 8)) (d5 _)) (pw_and1 (cW uO (a8 ek (a8 j6 (a8 ek (a8 iC (pv 9) aU) aU) aU) aU) (pv 5) (d5 _)))))
 (aP (eV (iw iQ ko ku jP (pv 6) (aq (eK (aq (pX (pv 3) (pv 7)) (aq (pX (pv 3) (pv 8)) aN))) aN))))
 bP))))))
 (aP (cp (eK (aq (gD m6 rfl T.e9 lc (aV 3)) (aq (gD m6 rfl T.e9 lc (aV 6)) aN))))))))))),
  (aS (ce 2 rfl (az eQ (AE.p aR) (AE.p (az er (AE.p (eY (bg (bJ 0) (bg (AE.w aR) cx)))) (ap 1)))))
 (aS (ce 3 rfl (AE.nv (kG (bg (AE.w (eY (bg (bJ 0) (bg (AE.w aR) cx)))) (bg (bJ 2) cx)))))
 (aS (ce 4 rfl (AE.nv (kG (bg (AE.w (eY (bg (bJ 0) (bg (AE.w aR) cx)))) (bg (bJ 2) cx)))))
 (aS (ce 5 rfl (az cG (AE.np (fE (aH aR (aH aR (aH aR (aH aR (aH aR (aH aR aZ)))))))) (AE.p (az er (AE.p (eY (bg (bJ 0) (bg (AE.w aR) cx)))) (AE.p aR)))))
 (aS (pT 6 rfl (fE aZ))
 (aS (jm (K:=K) (tg:=(.n 7)) (i0 (ap 2)) (by decide)
 (jm (K:=K) (tg:=(.n 8)) (i0 (ap 2)) (by decide)
 (aS (ce 9 rfl (eY (bg (bJ 0) (bg (AE.w (az eQ (AE.p (az eQ (AE.p aR) (AE.p (az j5 (AE.p (az iy (AE.p (cu uT (aH (ap 7) (aH (ap 8) aZ)))) (AE.p (az En (AE.p (cu uT (aH (ap 7) (aH (ap 8) aZ)))) (AE.p aR))))) (AE.p aR))))) (AE.p (cu Aj (aH (ap 7) (aH (ap 8) aZ)))))) cx))))
 (cI (DY (cR (AE.p (az uo (AE.p (az cG (ap 4) (ap 7))) (AE.p (az cG (ap 4) (ap 8)))))) (cR (AE.p (az uo (AE.p (az er (AE.p (az j5 (AE.p (az er (AE.p (az iy (ap 9) (AE.p aR))) (AE.p aR))) (AE.p aR))) (AE.p aR))) (ap 5)))))
 (kD 6 rfl (fZ (aH (az cG (ap 3) (ap 7)) (aH (az cG (ap 3) (ap 8)) aZ))))
 bW))))
 (dX (AE.w (fZ (aH (cu e9 (aH (ap 3) aZ)) (aH (cu e9 (aH (ap 6) aZ)) aZ)))))))))))⟩)
abbrev zy:bj:=top 37
theorem FC:cM ["_law_found","_law_due_here","_law_one","_law_other"] ["_law_found","_law_due_here"] (bC zy):=d0
theorem EH{f:ag}{fd:bA}(F:bN K "_law_alike" "_law_alike" zy f fd)(T:Txt mg)  (self:∀n,bw P w K mg base aJ (n+1) f fd ["_law_found","_law_due_here"] (bV (gQ n))->bR P w K mg base aJ (n+1) "_law_alike" ["_law_found","_law_due_here"] (bV (gQ n))):∀n,bw P w K mg base aJ (n+1) f fd ["_law_found","_law_due_here"] (bV (gQ n))
 |0=>QC
 |n+1=>F.ok FC (λvs H Q E h=>Fc h) (λcdv A outer s H vs Q E hr h=>by
  have qy:∀m:Nat,m=n->bR P w K mg base aJ (m+1) "_law_alike" ["_law_found","_law_due_here"] (bV (gQ m)):=λm e=>by subst e;exact self m (EH F T  self m)
  have qy:=λm:Nat=>(qy n rfl:bR P w K mg base aJ (n+1) "_law_alike" ["_law_found","_law_due_here"] (bV (gQ n)));have nd:=FC.nd;have hu:=mn hr;have bF:=hr.units;have Cv:=hr.mono (show(n+1)<=_ by omega);exact⟨_,(aD (bQ (PW.pt (pw_or (eD (bL jz rfl T.eh ee (aq (pv 1) (aq (gp rfl T.vn vd) aN)))) (pw_or1 (eD (bL jz rfl T.eh ee (aq (pv 1) (aq (gp rfl T.KW boot_int) aN)))))))
 (aD (bQ (PW.pt (pw_or (cW (nZ bF) (bL jz rfl T.eh ee (aq (pv 0) (aq (gp rfl T.KU boot_bool) aN))) (bL jz rfl T.eh ee (aq (pv 1) (aq (gp rfl T.KU boot_bool) aN))) (d5 _)) (pw_or1 (cW (nZ bF) (bL jz rfl T.eh ee (aq (pv 0) (aq (gp rfl T.vn vd) aN))) (bL jz rfl T.eh ee (aq (pv 1) (aq (gp rfl T.vn vd) aN))) (d5 _)))))
 (aP (cp fS))
 bP)
 (aP (cp (yT (bL Zp.IA rfl T.eh ee (aq (pv 0) (aq (eK (aq (gp rfl T.KW boot_int) (aq (gp rfl T.vn vd) aN))) aN))) (y6 (uH (pO bF) (pv 0) (pv 1) (d5 _)))))))
 bP)
 (aD (bQ (PW.pt (pw_or (cW (nZ bF) (bL jz rfl T.eh ee (aq (pv 0) (aq (gp rfl T.eU ji) aN))) (bL jz rfl T.eh ee (aq (pv 1) (aq (gp rfl T.eU ji) aN))) (d5 _)) (pw_or1 (jT (eD (bL Zp.IA rfl T.eh ee (aq (pv 0) (aq (eK (aq (gp rfl T.eU ji) (aq (gp rfl T.e9 lc) aN))) aN))))))))
 (aP (cp fS))
 bP)
 (aD (bQ (cW (nZ bF) (bL fN rfl T.cC f8 (aV 0)) (bL fN rfl T.cC f8 (aV 1)) (d5 _))
 (aP (cp fS))
 bP)
 (aD (g9 iR rfl (Zp.RS rfl T.Tq (pv 0) (pv 1)) (ph rfl (ij (pG 2) (ij (pG 3) om)))
 (aP (bQ (jT (eD (jq (qy n) Cv rfl mI (aq (pv 2) (aV 3)))))
 (aP (cp fS))
 bP)))
 (aP (cp fS)))))),
  _root_.A.HK (N:=["_law_found","_law_due_here","_law_one","_law_other"]) (M:=Mo []) (aS (cI (oX (dR (AE.p (lF (ty_str K) (ap 1)))) (dR (AE.p (lF (ty_int K) (ap 1)))))
 (aS (cI (oX (cR (AE.p (az nI (AE.p (lF (ty_bool K) (ap 0))) (AE.p (lF (ty_bool K) (ap 1)))))) (cR (AE.p (az nI (AE.p (lF (ty_str K) (ap 0))) (AE.p (lF (ty_str K) (ap 1)))))))
 (dX (AE.w fU))
 bW)
 (dX (AE.w (zG (AE.p (Zp.E9 (Zp.Ht (ty_int K) (ty_str K)) (by decide) (ap 0))) (az pQ (ap 0) (ap 1))))))
 bW)
 (aS (cI (oX (cR (AE.p (az nI (AE.p (lF (ty_list K) (ap 0))) (AE.p (lF (ty_list K) (ap 1)))))) (jO (dR (AE.p (Zp.E9 (Zp.Ht (ty_list K) (ty_tuple K)) (by decide) (ap 0))))))
 (dX (AE.w fU))
 bW)
 (aS (cI (cR (AE.p (az nI (AE.p (cu cC (aH (ap 0) aZ))) (AE.p (cu cC (aH (ap 1) aZ))))))
 (dX (AE.w fU))
 bW)
 (aS (jm (K:=K) (tg:=(.t [2,3])) (Zp.NB (bK 0) (bK 1)) (by decide)
 (cI (jO (dR (AE.p (eY (bg (bJ 2) (bg (bJ 3) cx))))))
 (dX (AE.w fU))
 bW))
 (dX (AE.w fU)))))) (by decide) h⟩)
abbrev zx:bj:=top 39
theorem LN:cM ["_law_arrows","_law_cell_here","_law_mixed","_law_some","_law_by","_law_at"] ["_law_arrows","_law_cell_here"] (bC zx):=d0
theorem Rz{f:ag}{fd:bA}(F:bN K "_law_turned" "_law_turned" zx f fd)(T:Txt mg):bw P w K mg base aJ 1 f fd ["_law_arrows","_law_cell_here"] (eo tR):=
 okN (Mo [3]) F LN (λcdv A outer s H E hr nd hu bF=>by
  exact⟨_,(aD (bQ (cW (pO bF) (a8 ek (pv 1) aU) aU (d5 _))
 (aD (jH (i:=2) nd rfl (gH rfl) (im (N':=["_law_cell_here","_law_k"]) (ρ:=[aa 1,ae]) rfl (dP.of rfl (by kernel_rfl)) (iX rfl T.jj (aq (bL fN rfl T.cC f8 (aV 0)) aN)) (λ_ _ _ _ _=>(dL (i:=1) ja rfl (cE rfl))) (gq rfl) (λ_ _ _ _ _=>jb) (λ_ _ _ _ _=>(a8 ek (a8 j6 (a8 ek (a8 iC (pv 0) (a8 eJ aU (a8 iC aU (pv 1)))) aU) aU) aU))))
 (aP (cp (im (N':=["_law_mixed","_law_arrows","_law_k"]) (ρ:=[aa 2,aa 0,ae]) rfl (dP.of rfl (by kernel_rfl)) (iX rfl T.jj (aq (bL fN rfl T.cC f8 (aV 0)) aN)) (λ_ _ _ _ _=>(dL (i:=2) (by show(["_law_mixed","_law_arrows","_law_k"]:List Str).Nodup;decide +kernel) rfl (cE rfl))) (gq rfl) (λ_ _ _ _ _=>jb) (λ_ _ _ _ _=>(pX (fB (aq (pX (pv 1) (pv 2)) (aq (eK (aq (pX (pX (pv 1) (pv 2)) aU) (aq (pX (pX (pv 1) (pv 2)) aU) aN))) aN))) (pX (pv 0) (pv 2))))))))
 bP)
 (aD (pS 3 (gD pV rfl T.eU ji (aV 0)))
 (aD (g9 iR rfl (eW (pI oK (fB (aq (a8 j6 (pv 1) aU) (aq (a8 j6 (pv 1) aU) aN))) oY (oV (a8 eJ aU (a8 ek (a8 j6 (pv 1) aU) aU))))) (pG 4)
 (aP (bQ (cW zV (bL fN rfl T.cC f8 (aV 3)) aU (d5 _))
 (aD (pS 5 (a8 ek (pv 4) (bL fN rfl T.cC f8 (aV 3))))
 (aP (HI (eK (aq (pX (pX (pv 3) (pv 5)) aU) (aq (pX (pX (pv 3) (pv 5)) aU) aN))) (Qu (pv 3) (pv 5) set_list))))
 bP)))
 (aP (cp (pv 3)))))),
  (aS (cI (cR (AE.p (az pQ (AE.p (az er (ap 1) (AE.p aR))) (AE.p aR))))
 (aS (ce 2 rfl (AE.nv (fb (K:=K) (tg:=(.n 1)) (iB.c (i0 (AE.p (cu cC (aH (ap 0) aZ))))) (by decide) jw (az er (AE.p (az j5 (AE.p (az er (AE.p (az iy (ap 0) (AE.p (az eQ (AE.p aR) (AE.p (az iy (AE.p aR) (ap 1))))))) (AE.p aR))) (AE.p aR))) (AE.p aR)))))
 (mR (AE.w (fb (K:=K) (tg:=(.n 2)) (iB.c (i0 (AE.p (cu cC (aH (ap 0) aZ))))) (by decide) jw (az cG (AE.np (fE (aH (az cG (ap 1) (ap 2)) (aH (fZ (aH (az cG (AE.p (az cG (ap 1) (ap 2))) (AE.p aR)) (aH (az cG (AE.p (az cG (ap 1) (ap 2))) (AE.p aR)) aZ))) aZ)))) (AE.p (az cG (ap 0) (ap 2))))))))
 bW)
 (aS (pT 3 rfl (cu eU (aH (ap 0) aZ)))
 (aS (jm (K:=K) (tg:=(.n 4)) (mT (oU pi (AE.np (fE (aH (az j5 (ap 1) (AE.p aR)) (aH (az j5 (ap 1) (AE.p aR)) aZ)))) oE (pK (AE.p (az eQ (AE.p aR) (AE.p (az er (AE.p (az j5 (ap 1) (AE.p aR))) (AE.p aR)))))))) (by decide)
 (cI (cR (AE.p (az Ag (AE.p (cu cC (aH (ap 3) aZ))) (AE.p aR))))
 (aS (ce 5 rfl (az er (ap 4) (AE.p (cu cC (aH (ap 3) aZ)))))
 (N6 3 rfl (fZ (aH (az cG (AE.p (az cG (ap 3) (ap 5))) (AE.p aR)) (aH (az cG (AE.p (az cG (ap 3) (ap 5))) (AE.p aR)) aZ))) (ap 5)))
 bW))
 (vV 3 rfl))))⟩)
abbrev yP:bj:=top 25
theorem Ip:cM ["names","rows"] ["names","rows"] (bC yP):=d0
theorem Ql{f:ag}{fd:bA}{cc TT:ag}(F:um K "sorted_rows" "sorted_rows" yP cc f fd)(T:Txt mg)(hB:BM mg base)(hC:ke base cc TT)(hTb:(TT,xk "sorted_rows")∈Tb.l):bw P w K mg base aJ 4 f fd ["names","rows"] (eo nF):=
 F.ok Ip (λvs H Q E h=>Ba h) (λA outer s H vs Q E hr h=>by
  have nd:=Ip.nd;have hu:=mn hr;have bF:=hr.units;exact⟨_,(aP (cp (Ru (x := "row") (ρ:=[0]) (N':=["row","names"]) (k:=0) (qual:=xk "sorted_rows") rfl T.Tt (pv 1) (hr.mono (by decide)) rfl hC hB rfl rfl rfl (rS.one rfl rfl rfl rfl rfl rfl rfl rfl) (λpm c' ctv u=>rfl) (λA f c' s H env hrl he=>by subst he;exact(im (N':=["names","name"]) (ρ:=[aa 1,ae]) rfl (dP.of rfl (by kernel_rfl)) (eW (pv 0)) (λ_ _ _ _ _=>(dL (i:=1) ja rfl (cE rfl))) (gq rfl) (λ_ _ _ _ _=>jb) (λ_ _ _ _ _=>(Iw J6 B8 J7 EX iQ B9 J8 IY (pv 0) (aV 1)))))))),
  _root_.A.runN (N:=["names","rows"]) (M:=Mo []) (mR (AE.w (LG hTb (by decide) (ap 1) (fb (K:=K) (tg:=(.n 1)) (js (ap 0)) (by decide) jw (Hx (ap 0) (ap 1)))))) (by decide) h⟩)
abbrev AD:bj:=top 21
theorem MI:cM ["text"] ["text"] (bC AD):=d0
theorem Pt{f:ag}{fd:bA}(F:bN K "is_word" "is_word" AD f fd)(T:Txt mg):bw P w K mg base aJ 1 f fd ["text"] (bV hV):=
 i6 (Mo []) F MI (λcdv A outer s H E hr nd hu bF=>by
  obtain⟨_,T7⟩:=T.Tv;obtain⟨_,T8⟩:=T.Tw;exact⟨_,(aP (cp (yT (Pl qF qF aU (bL fN rfl T.cC f8 (aV 0)) (fi (v:=(.int 8)) rfl T8 ⟨_,rfl⟩)) (y6 (bL (FE rfl) rfl T.uB boot_all (aq (im (N':=["sign"]) (ρ:=[ae]) rfl (dP.of rfl (by kernel_rfl)) (eW (pv 0)) (λ_ _ _ _ _=>(dL (i:=0) wR rfl (cE rfl))) (gq rfl) (λ_ _ _ _ _=>jb) (λ_ _ _ _ _=>(uH (pL bF) (pv 0) (fi (v:=(.str "abcdefghijklmnopqrstuvwxyz")) rfl T7 ⟨_,rfl⟩) rfl))) aN)))))),
  (dX (AE.w (zG (AE.p (zD rq rq (AE.p aR) (AE.p (cu cC (aH (ap 0) aZ))) (AE.p aR))) (cu uB (aH (AE.np (fb (K:=K) (tg:=(.n 0)) (js (ap 0)) (by decide) jw (az o0 (ap 0) (AE.p jy)))) aZ)))))⟩)
abbrev xa:bj:=top 27
theorem zS:cM ["names","stood","name"] ["names"] (bC xa):=d0
theorem ON{f:ag}{fd:bA}(F:bN K "refuse_wrong_names" "refuse_wrong_names" xa f fd)(T:Txt mg)(sT:bR P w K mg base aJ 1 "is_word" ["text"] (bV hV)):bw P w K mg base aJ 2 f fd ["names"] (bV zh):=
 i6 (Mo [1]) F zS (λcdv A outer s H E hr nd hu bF=>by
  obtain⟨_,yD⟩:=T.KY;exact⟨_,(aD (bQ (jT (FF qF qF aU (bL fN rfl T.cC f8 (aV 0)) (fi (v:=(.int 8)) rfl yD ⟨_,rfl⟩)))
 (aP kI)
 bP)
 (aD (pS 1 EV)
 (aP (g9 iR rfl (eW (pv 0)) (pG 2)
 (aD (bQ (jT (eD (pC sT hr (aV 2))))
 (aP kI)
 bP)
 (aD (bQ (w9 (ww hu (pv 2) (pv 1)) rfl)
 (aP kI)
 bP)
 (aP (rB hu (pv 1) (pv 2) fS rfl)))))))),
  (aS (cI (jO (cR (AE.p (zD rq rq (AE.p aR) (AE.p (cu cC (aH (ap 0) aZ))) (AE.p aR)))))
 oF
 bW)
 (aS (wc 1 rfl Hl)
 (jm (K:=K) (tg:=(.n 2)) (mT (bK 0)) (by decide)
 (aS (cI (jO (dR (AE.p (eY (bg (bJ 2) cx)))))
 oF
 bW)
 (aS (cI (dR (AE.p (vW 1 (bK 2))))
 oF
 bW)
 (qL 1 rfl (bK 2) fU))))))⟩)
theorem Sw{f:ag}{fd:bA}(F:bN K "refuse_wrong_names" "refuse_wrong_names" xa f fd)(T:Txt mg)(O:Own mg base)(sT:bR P w K mg base aJ 1 "is_word" ["text"] (bV hV)):bw P w K mg base (cH P w) 2 f fd ["names"] (iU Tb.cl qM):=
 F.ua zS (λvs H Q E h=>tH h) (λcdv A outer s H vs Q E hr h=>by
  have nd:=zS.nd;have hu:=mn hr;have bF:=hr.units;have T9:=hr.mono (show 1<=_ by decide);obtain⟨_,yD⟩:=T.KY;exact⟨_,(aD (bQ (jT (FF qF qF aU (bL fN rfl T.cC f8 (aV 0)) (fi (v:=(.int 8)) rfl yD ⟨_,rfl⟩)))
 (aP (rW l7 O.Tx (pW (gh (lI (by decide +kernel)) (gh (MQ (fi (v:=(.int 8)) rfl yD ⟨_,rfl⟩)) (gh (lI (by decide +kernel)) oP))) (by decide)) rfl))
 bP)
 (aD (pS 1 EV)
 (aP (g9 A9 rfl (eW (pv 0)) (pG 2)
 (aD (bQ (jT (eD (jq sT T9 rfl mI (aV 2))))
 (aP (rW l7 O.Tz (pW (gh (qZ (pv 2)) (gh (lI (by decide +kernel)) oP)) (by decide)) rfl))
 bP)
 (aD (bQ (w9 (ww hu (pv 2) (pv 1)) rfl)
 (aP (rW l7 O.Cr (pW (gh (qZ (pv 2)) (gh (lI (by decide +kernel)) oP)) (by decide)) rfl))
 bP)
 (aP (rB hu (pv 1) (pv 2) fS rfl)))))))),
  _root_.A.uE (N:=["names","stood","name"]) (M:=Mo [1]) (ie (oG (jO (cR (AE.p (zD rq rq (AE.p aR) (AE.p (cu cC (aH (ap 0) aZ))) (AE.p aR)))))
 (rD (ig mO (ig (RR (by decide) (by decide +kernel)) (ig mO rV))))
 (gK bW))
 (ie (gK (wc 1 rfl Hl))
 (zf (K:=K) (tg:=(.n 2)) (mT (bK 0)) (by decide)
 (ie (oG (jO (dR (AE.p (eY (bg (bJ 2) cx)))))
 (rD (ig (qT 2 rfl) (ig mO rV)))
 (gK bW))
 (ie (oG (dR (AE.p (vW 1 (bK 2))))
 (rD (ig (qT 2 rfl) (ig mO rV)))
 (gK bW))
 (gK (qL 1 rfl (bK 2) fU))))))) (by decide) h⟩)
abbrev wN:bj:=top 26
theorem AK:cM ["names","asked","name"] ["names","asked"] (bC wN):=d0
theorem Rm{f:ag}{fd:bA}(F:bN K "refuse_strangers" "refuse_strangers" wN f fd)(T:Txt mg):bw P w K mg base aJ 1 f fd ["names","asked"] (bV pb):=
 i6 (Mo []) F AK (λcdv A outer s H E hr nd hu bF=>by
  exact⟨_,(aP (g9 iR rfl (eW (pv 1)) (pG 2)
 (aP (bQ (cW (oJ bF) (pv 2) (pv 0) rfl)
 (aP kI)
 bP)))),
  (jm (K:=K) (tg:=(.n 2)) (mT (bK 1)) (by decide)
 (cI (cR (AE.p (az pU (ap 2) (ap 0))))
 oF
 bW))⟩)
theorem P7{f:ag}{fd:bA}(F:bN K "refuse_strangers" "refuse_strangers" wN f fd)(T:Txt mg)(O:Own mg base)   : bw P w K mg base (cH P w) 1 f fd ["names","asked"] (iU Tb.cl lJ):=
 F.ua AK (λvs H Q E h=>tH h) (λcdv A outer s H vs Q E hr h=>by
  have nd:=AK.nd;have hu:=mn hr;have bF:=hr.units;exact⟨_,(aP (g9 A9 rfl (eW (pv 1)) (pG 2)
 (aP (bQ (cW (oJ bF) (pv 2) (pv 0) rfl)
 (aP (rW l7 O.TB (pW (gh (qZ (pv 2)) (gh (lI (by decide +kernel)) oP)) (by decide)) rfl))
 bP)))),
  _root_.A.uE (N:=["names","asked","name"]) (M:=Mo []) (zf (K:=K) (tg:=(.n 2)) (mT (bK 1)) (by decide)
 (oG (cR (AE.p (az pU (ap 2) (ap 0))))
 (rD (ig (qT 2 rfl) (ig mO rV)))
 (gK bW))) (by decide) h⟩)
abbrev xu:bj:=top 28
theorem zm:cM ["names","arrows","stood","tail","head"] ["names","arrows"] (bC xu):=d0
theorem Rj{f:ag}{fd:bA}(F:bN K "refuse_wrong_pairs" "refuse_wrong_pairs" xu f fd)(T:Txt mg)(sU:bR P w K mg base aJ 1 "refuse_strangers" ["names","asked"] (bV pb)):bw P w K mg base aJ 2 f fd ["names","arrows"] (bV zN):=
 i6 (Mo [2]) F zm (λcdv A outer s H E hr nd hu bF=>by
  exact⟨_,(aD (pS 2 DH)
 (aP (g9 iR rfl (eW (pv 1)) (ph rfl (ij (pG 3) (ij (pG 4) om)))
 (aD (eV (pC sU hr (aq (pv 0) (aq (fB (aq (pv 3) (aV 4))) aN))))
 (aD (bQ (cW (pO bF) (pv 3) (pv 4) (d5 _))
 (aP kI)
 bP)
 (aD (bQ (w9 (ww hu (eK (aq (pv 3) (aV 4))) (pv 2)) rfl)
 (aP kI)
 bP)
 (aD (rB hu (pv 2) (eK (aq (pv 3) (aV 4))) fS rfl)
 (aP (rB hu (pv 2) (eK (aq (pv 4) (aV 3))) fS rfl))))))))),
  (aS (wc 2 rfl DU)
 (jm (K:=K) (tg:=(.t [3,4])) (mT (bK 1)) (by decide)
 (aS (uS (AE.p (eY (bg (bJ 0) (bg (AW.nv (AE.w (fE (aH (bK 3) (aH (bK 4) aZ))))) cx)))))
 (aS (cI (cR (AE.p (az pQ (ap 3) (ap 4))))
 oF
 bW)
 (aS (cI (dR (AE.p (vW 2 (fZ (aH (bK 3) (aH (bK 4) aZ))))))
 oF
 bW)
 (aS (qL 2 rfl (fZ (aH (bK 3) (aH (bK 4) aZ))) fU)
 (qL 2 rfl (fZ (aH (bK 4) (aH (bK 3) aZ))) fU)))))))⟩)
theorem Qk{f:ag}{fd:bA}(F:bN K "refuse_wrong_pairs" "refuse_wrong_pairs" xu f fd)(T:Txt mg)(O:Own mg base)  (Cw:bR P w K mg base (cH P w) 1 "refuse_strangers" ["names","asked"] (iU Tb.cl lJ)):bw P w K mg base (cH P w) 2 f fd ["names","arrows"] (iU Tb.cl oZ):=
 F.ua zm (λvs H Q E h=>tH h) (λcdv A outer s H vs Q E hr h=>by
  have nd:=zm.nd;have hu:=mn hr;have bF:=hr.units;have Ua:=hr.mono (show 1<=_ by decide);exact⟨_,(aD (pS 2 DH)
 (aP (g9 A9 rfl (eW (pv 1)) (ph rfl (ij (pG 3) (ij (pG 4) om)))
 (aD (eV (jq Cw Ua rfl vO (aq (pv 0) (aq (fB (aq (pv 3) (aV 4))) aN))))
 (aD (bQ (cW (pO bF) (pv 3) (pv 4) (d5 _))
 (aP (rW l7 O.Cr (pW (gh (lI (by decide +kernel)) (gh (qZ (pv 3)) (gh (lI (by decide +kernel)) oP))) (by decide)) rfl))
 bP)
 (aD (bQ (w9 (ww hu (eK (aq (pv 3) (aV 4))) (pv 2)) rfl)
 (aP (rW l7 O.Cr (pW (gh (lI (by decide +kernel)) (gh (qZ (pv 3)) (gh (lI (by decide +kernel)) (gh (qZ (pv 4)) oP)))) (by decide)) rfl))
 bP)
 (aD (rB hu (pv 2) (eK (aq (pv 3) (aV 4))) fS rfl)
 (aP (rB hu (pv 2) (eK (aq (pv 4) (aV 3))) fS rfl))))))))),
  _root_.A.uE (N:=["names","arrows","stood","tail","head"]) (M:=Mo [2]) (ie (gK (wc 2 rfl DU))
 (zf (K:=K) (tg:=(.t [3,4])) (mT (bK 1)) (by decide)
 (ie (wB (bg (bJ 0) (bg (AW.nv (AE.w (fE (aH (bK 3) (aH (bK 4) aZ))))) cx)))
 (ie (oG (cR (AE.p (az pQ (ap 3) (ap 4))))
 (rD (ig mO (ig (qT 3 rfl) (ig mO rV))))
 (gK bW))
 (ie (oG (dR (AE.p (vW 2 (fZ (aH (bK 3) (aH (bK 4) aZ))))))
 (rD (ig mO (ig (qT 3 rfl) (ig mO (ig (qT 4 rfl) rV)))))
 (gK bW))
 (ie (gK (qL 2 rfl (fZ (aH (bK 3) (aH (bK 4) aZ))) fU))
 (gK (qL 2 rfl (fZ (aH (bK 4) (aH (bK 3) aZ))) fU)))))))) (by decide) h⟩)
abbrev yW:bj:=top 23
theorem MG:cM ["net","name"] ["net","name"] (bC yW):=d0
theorem Si{f:ag}{fd:bA}(F:bN K "elders_of" "elders_of" yW f fd)(T:Txt mg)(sU:bR P w K mg base aJ 1 "refuse_strangers" ["names","asked"] (bV pb)):bw P w K mg base aJ 2 f fd ["net","name"] (bV kP):=
 i6 (Mo []) F MG (λcdv A outer s H E hr nd hu bF=>by
  exact⟨_,(aD (eV (pC sU hr (aq (pX (pv 0) aU) (aq (fB (aV 1)) aN))))
 (aP (cp (gD m6 rfl T.e9 lc (aq (im (N':=["name","tail","head"]) (ρ:=[aa 1,ae,ae]) rfl (dP.of rfl (by kernel_rfl)) (eW (pX (pv 0) aU)) (λ_ _ _ _ _=>(ph rfl (ij (dL (i:=1) (by show(["name","tail","head"]:List Str).Nodup;decide +kernel) rfl (cE rfl)) (ij (dL (i:=2) (by show(["name","tail","head"]:List Str).Nodup;decide +kernel) rfl (cE rfl)) om)))) (vC (oa rfl (oa rfl xf nN) (xt nN))) (λ_ _ _ _ _=>(nX (cW (pO bF) (pv 2) (pv 0) (d5 _)))) (λ_ _ _ _ _=>(pv 1))) aN))))),
  (aS (uS (AE.p (eY (bg (AE.w (az cG (ap 0) (AE.p aR))) (bg (AW.nv (AE.w (fE (aH (bK 1) aZ)))) cx)))))
 (dX (AE.w (cu e9 (aH (AE.np (fb (K:=K) (tg:=(.t [1,2])) (js (AE.p (az cG (ap 0) (AE.p aR)))) (by decide) (cR (AE.p (az pQ (ap 2) (ap 0)))) (bK 1))) aZ)))))⟩)
abbrev Au:bj:=top 31
theorem LC:cM ["net","told","name"] ["net","told"] (bC Au):=d0
theorem QA{f:ag}{fd:bA}(F:bN K "first_ready" "first_ready" Au f fd)(T:Txt mg)(sV:bR P w K mg base aJ 2 "elders_of" ["net","name"] (bV kP)):bw P w K mg base aJ 3 f fd ["net","told"] (bV nW):=
 i6 (Mo []) F LC (λcdv A outer s H E hr nd hu bF=>by
  exact⟨_,(aD (g9 iR rfl (eW (pX (pv 0) aU)) (pG 2)
 (aP (bQ (PW.pt (pw_and (cW (oJ bF) (pv 2) (pv 1) rfl) (pw_and1 (eD (bL (FE rfl) rfl T.uB boot_all (aq (im (N':=["told","elder"]) (ρ:=[aa 1,ae]) rfl (dP.of rfl (by kernel_rfl)) (eW (pC sV hr (aq (pv 0) (aV 2)))) (λ_ _ _ _ _=>(dL (i:=1) ja rfl (cE rfl))) (gq rfl) (λ_ _ _ _ _=>jb) (λ_ _ _ _ _=>(uH (pL bF) (pv 1) (pv 0) rfl))) aN))))))
 (aP (cp (pv 2)))
 bP)))
 (aP (cp qY))),
  (aS (jm (K:=K) (tg:=(.n 2)) (mT (az cG (ap 0) (AE.p aR))) (by decide)
 (cI (DY (cR (AE.p (az pU (ap 2) (ap 1)))) (dR (AE.p (cu uB (aH (AE.np (fb (K:=K) (tg:=(.n 1)) (js (AE.p (eY (bg (bJ 0) (bg (bJ 2) cx))))) (by decide) jw (az o0 (ap 1) (ap 0)))) aZ)))))
 (dX (bJ 2))
 bW))
 (dX (AE.w ui)))⟩)
abbrev zp:bj:=top 24
theorem M7:cM ["net","told","name"] ["net"] (bC zp):=d0
theorem Ng{f:ag}{fd:bA}(F:bN K "in_turn" "in_turn" zp f fd)(T:Txt mg)(yE:bR P w K mg base aJ 3 "first_ready" ["net","told"] (bV nW)):bw P w K mg base aJ 4 f fd ["net"] (eo oS):=
 okN (Mo [1]) F M7 (λcdv A outer s H E hr nd hu bF=>by
  exact⟨_,(aD (pS 1 (fB aN))
 (aD (pS 2 (pC yE hr (aq (pv 0) (aV 1))))
 (aD (EJ iR (cW Mx (pv 2) qY (d5 _))
 (aD (eV (iw iQ ko ku jP (pv 1) (aV 2)))
 (aP (pS 2 (pC yE hr (aq (pv 0) (aV 1)))))))
 (aP (cp (pv 1)))))),
  (aS (pT 1 rfl (fE aZ))
 (aS (ce 2 rfl (Ek (bg (AW.p (bJ 0)) (bg (AE.w (ap 1)) cx))))
 (aS (IS 100 (cR (AE.p (az Pj (ap 2) (AE.p ui))))
 (aS (kD 1 rfl (bK 2))
 (ce 2 rfl (Ek (bg (AW.p (bJ 0)) (bg (AE.w (ap 1)) cx))))))
 (vV 1 rfl))))⟩)
abbrev yN:bj:=top 30
theorem Ny:cM ["net","left","walk","name"] ["net","left"] (bC yN):=d0
theorem Qx{f:ag}{fd:bA}(F:bN K "ring_among" "ring_among" yN f fd)(T:Txt mg)(sV:bR P w K mg base aJ 2 "elders_of" ["net","name"] (bV kP)):bw P w K mg base aJ 3 f fd ["net","left"] (eo nV):=
 okN (Mo [2]) F Ny (λcdv A outer s H E hr nd hu bF=>by
  exact⟨_,(aD (pS 2 (fB aN))
 (aD (pS 3 (pX (pv 1) aU))
 (aD (EJ iR (cW (oJ bF) (pv 3) (pv 2) rfl)
 (aD (eV (iw iQ ko ku jP (pv 2) (aV 3)))
 (aP (pS 3 (tG ue (im (N':=["left","elder"]) (ρ:=[aa 1,ae]) rfl (dP.of rfl (by kernel_rfl)) (eW (pC sV hr (aq (pv 0) (aV 3)))) (λ_ _ _ _ _=>(dL (i:=1) ja rfl (cE rfl))) (gq rfl) (λ_ _ _ _ _=>(nX (cW (pL bF) (pv 1) (pv 0) rfl))) (λ_ _ _ _ _=>(pv 1))) aU (λ_ _=>rfl))))))
 (aP (cp (gD (ML rfl) rfl T.eU ji (aq (gD N3 rfl T.Tu boot_reversed (aq (pI oK (pv 2) (oV (Iw J6 B8 J7 EX iQ B9 J8 IY (pv 2) (aV 3))) oY) aN)) aN))))))),
  (aS (pT 2 rfl (fE aZ))
 (aS (ce 3 rfl (az cG (ap 1) (AE.p aR)))
 (aS (IS 100 (cR (AE.p (az pU (ap 3) (ap 2))))
 (aS (kD 2 rfl (bK 3))
 (ce 3 rfl (az cG (AE.np (fb (K:=K) (tg:=(.n 1)) (js (AE.p (eY (bg (bJ 0) (bg (bJ 3) cx))))) (by decide) (cR (AE.p (az o0 (ap 1) (ap 0)))) (bK 1))) (AE.p aR)))))
 (mR (AE.w (QL (AE.p (oU pi (ap 2) (pK (AE.p (Hx (ap 2) (ap 3)))) oE))))))))⟩)
abbrev vD:bj:=top 29
theorem zU:cM ["net","told","left"] ["net"] (bC vD):=d0
theorem SJ{f:ag}{fd:bA}(F:bN K "refuse_ring" "refuse_ring" vD f fd)(T:Txt mg)(sW:bR P w K mg base aJ 4 "in_turn" ["net"] (eo oS))(vo:bR P w K mg base aJ 3 "ring_among" ["net","left"] (eo nV)):bw P w K mg base aJ 5 f fd ["net"] (bV zT):=
 i6 (Mo []) F zU (λcdv A outer s H E hr nd hu bF=>by
  exact⟨_,(aD (jH (i:=1) nd rfl (gH rfl) (pC sW hr (aV 0)))
 (aD (qC (i:=2) (N':=["told","name"]) (ρ:=[aa 1,ae]) rfl nd rfl (cE rfl) (dP.of rfl (by kernel_rfl)) (eW (pX (pv 0) aU)) (λ_ _ _ _ _=>(dL (i:=1) ja rfl (cE rfl))) (gq rfl) (λ_ _ _ _ _=>(nX (cW (oJ bF) (pv 1) (pv 0) rfl))) (λ_ _ _ _ _=>(pv 1)))
 (aP (bQ (Dy (pv 2) (by intro _;rfl))
 (aP kI)
 bP)))),
  (aS (ce 1 rfl (AE.nv (kG (bg (bJ 0) cx))))
 (aS (ce 2 rfl (AE.nv (fb (K:=K) (tg:=(.n 1)) (js (AE.p (az cG (ap 0) (AE.p aR)))) (by decide) (cR (AE.p (az pU (ap 1) (ap 0)))) (bK 1))))
 (cI (GD (ap 2))
 oF
 bW)))⟩)
theorem Nz{f:ag}{fd:bA}(F:bN K "refuse_ring" "refuse_ring" vD f fd)(T:Txt mg)(O:Own mg base)(sW:bR P w K mg base aJ 4 "in_turn" ["net"] (eo oS))(vo:bR P w K mg base aJ 3 "ring_among" ["net","left"] (eo nV))(CI:AI P w K mg base 3 "Ring" (Tb.cl "Ring") ["self","ring"]):bw P w K mg base (cH P w) 5 f fd ["net"] (iU Tb.cl oh):=
 F.ua zU (λvs H Q E h=>tH h) (λcdv A outer s H vs Q E hr h=>by
  have nd:=zU.nd;obtain⟨fI,fdI,CI1,CI2,CI3,CI4,CI5⟩:=CI;have hrI:=hr.mono (show 4<=_ by decide);have hu:=mn hr;have bF:=hr.units;have Ub:=hr.mono (show 4<=_ by decide);have Uc:=hr.mono (show 3<=_ by decide);exact⟨_,(aD (jH (i:=1) nd rfl (gH rfl) (jq sW Ub rfl mI (aV 0)))
 (aD (qC (i:=2) (N':=["told","name"]) (ρ:=[aa 1,ae]) rfl nd rfl (cE rfl) (dP.of rfl (by kernel_rfl)) (eW (pX (pv 0) aU)) (λ_ _ _ _ _=>(dL (i:=1) ja rfl (cE rfl))) (gq rfl) (λ_ _ _ _ _=>(nX (cW (oJ bF) (pv 1) (pv 0) rfl))) (λ_ _ _ _ _=>(pv 1)))
 (aP (bQ (Dy (pv 2) (by intro _;rfl))
 (aP (NI l7 CI1 (GS (E:=λ_ _ _=>False) l7 CI1 CI2 CI3 CI4 hrI CI5 rfl rfl (aq (jq vo Uc rfl mI (aq (pv 0) (aV 2))) aN))))
 bP)))),
  _root_.A.uE (N:=["net","told","left"]) (M:=Mo []) (ie (gK (ce 1 rfl (AE.nv (kG (bg (bJ 0) cx)))))
 (ie (gK (ce 2 rfl (AE.nv (fb (K:=K) (tg:=(.n 1)) (js (AE.p (az cG (ap 0) (AE.p aR)))) (by decide) (cR (AE.p (az pU (ap 1) (ap 0)))) (bK 1)))))
 (oG (GD (ap 2))
 (M8 (AE.nv (kG (bg (bJ 0) (bg (bJ 2) cx)))))
 (gK bW)))) (by decide) h⟩)
abbrev vT:bj:=top 22
theorem yH:cM ["names","arrows","pairs","net"] ["names","arrows"] (bC vT):=d0
theorem LR{f:ag}{fd:bA}(F:bN K "net_made" "net_made" vT f fd)(T:Txt mg)(sX:bR P w K mg base aJ 4 "sorted_rows" ["names","rows"] (eo nF))(Cy:bR P w K mg base aJ 2 "refuse_wrong_names" ["names"] (bV zh))(Cz:bR P w K mg base aJ 2 "refuse_wrong_pairs" ["names","arrows"] (bV zN))(CB:bR P w K mg base aJ 5 "refuse_ring" ["net"] (bV zT)):bw P w K mg base aJ 6 f fd ["names","arrows"] (bV MR):=
 i6 (Mo []) F yH (λcdv A outer s H E hr nd hu bF=>by
  exact⟨_,(aD (eV (pC Cy hr (aV 0)))
 (aD (eV (pC Cz hr (aq (pv 0) (aV 1))))
 (aD (qC (i:=2) (N':=["tail","head"]) (ρ:=[ae,ae]) rfl nd rfl (cE rfl) (dP.of rfl (by kernel_rfl)) (eW (pv 1)) (λ_ _ _ _ _=>(ph rfl (ij (dL (i:=0) ja rfl (cE rfl)) (ij (dL (i:=1) ja rfl (cE rfl)) om)))) (vC (oa rfl (oa rfl xf nN) (xt nN))) (λ_ _ _ _ _=>jb) (λ_ _ _ _ _=>(eK (aq (pv 0) (aV 1)))))
 (aD (pS 3 (eK (aq (gD m6 rfl T.e9 lc (aV 0)) (aq (gD m6 rfl T.e9 lc (aq (pC sX hr (aq (pv 0) (aV 2))) aN)) aN))))
 (aD (eV (pC CB hr (aV 3)))
 (aP (cp (pv 3)))))))),
  (aS (uS (AE.p (eY (bg (bJ 0) cx))))
 (aS (uS (AE.p (eY (bg (bJ 0) (bg (bJ 1) cx)))))
 (aS (ce 2 rfl (AE.nv (fb (K:=K) (tg:=(.t [0,1])) (js (ap 1)) (by decide) jw (fZ (aH (bK 0) (aH (bK 1) aZ))))))
 (aS (ce 3 rfl (fZ (aH (cu e9 (aH (ap 0) aZ)) (aH (cu e9 (aH (AE.np (kG (bg (bJ 0) (bg (bJ 2) cx)))) aZ)) aZ))))
 (aS (uS (AE.p (eY (bg (bJ 3) cx))))
 (dX (bJ 3)))))))⟩)
theorem QI{f:ag}{fd:bA}(F:bN K "net_made" "net_made" vT f fd)(T:Txt mg)(O:Own mg base)(sX:bR P w K mg base aJ 4 "sorted_rows" ["names","rows"] (eo nF))(CC:bR P w K mg base (cH P w) 2 "refuse_wrong_names" ["names"] (iU Tb.cl qM))(CD:bR P w K mg base (cH P w) 2 "refuse_wrong_pairs" ["names","arrows"] (iU Tb.cl oZ))(CF:bR P w K mg base (cH P w) 5 "refuse_ring" ["net"] (iU Tb.cl oh)):bw P w K mg base (cH P w) 6 f fd ["names","arrows"] (iU Tb.cl mF):=
 F.ua yH (λvs H Q E h=>tH h) (λcdv A outer s H vs Q E hr h=>by
  have nd:=yH.nd;have hu:=mn hr;have bF:=hr.units;have Ud:=hr.mono (show 4<=_ by decide);have Ue:=hr.mono (show 2<=_ by decide);have Uf:=hr.mono (show 2<=_ by decide);have Ug:=hr.mono (show 5<=_ by decide);exact⟨_,(aD (eV (jq CC Ue rfl vO (aV 0)))
 (aD (eV (jq CD Uf rfl vO (aq (pv 0) (aV 1))))
 (aD (qC (i:=2) (N':=["tail","head"]) (ρ:=[ae,ae]) rfl nd rfl (cE rfl) (dP.of rfl (by kernel_rfl)) (eW (pv 1)) (λ_ _ _ _ _=>(ph rfl (ij (dL (i:=0) ja rfl (cE rfl)) (ij (dL (i:=1) ja rfl (cE rfl)) om)))) (vC (oa rfl (oa rfl xf nN) (xt nN))) (λ_ _ _ _ _=>jb) (λ_ _ _ _ _=>(eK (aq (pv 0) (aV 1)))))
 (aD (pS 3 (eK (aq (gD m6 rfl T.e9 lc (aV 0)) (aq (gD m6 rfl T.e9 lc (aq (jq sX Ud rfl mI (aq (pv 0) (aV 2))) aN)) aN))))
 (aD (eV (jq CF Ug rfl vO (aV 3)))
 (aP (cp (pv 3)))))))),
  _root_.A.uE (N:=["names","arrows","pairs","net"]) (M:=Mo []) (ie (wB (bg (bJ 0) cx))
 (ie (wB (bg (bJ 0) (bg (bJ 1) cx)))
 (ie (gK (ce 2 rfl (AE.nv (fb (K:=K) (tg:=(.t [0,1])) (js (ap 1)) (by decide) jw (fZ (aH (bK 0) (aH (bK 1) aZ)))))))
 (ie (gK (ce 3 rfl (fZ (aH (cu e9 (aH (ap 0) aZ)) (aH (cu e9 (aH (AE.np (kG (bg (bJ 0) (bg (bJ 2) cx)))) aZ)) aZ)))))
 (ie (wB (bg (bJ 3) cx))
 (gK (dX (bJ 3)))))))) (by decide) h⟩)
abbrev Aq:bj:=top 38
theorem ID:cM ["_law_e","_law_some"] ["_law_e"] (bC Aq):=d0
theorem OL{f:ag}{fd:bA}(F:bN K "_law_kinds" "_law_kinds" Aq f fd)(T:Txt mg)(O:Own mg base)(Kt:sZ K):tM P w K mg base 1 f fd ["_law_e"] (eo rj):=
 F.Hg ID (λvs H Q E h=>Ba h) (λcdv A outer s H vs Q E hr h=>by
  have nd:=ID.nd;have bF:=hr.units;exact⟨_,(aD (pS 1 (fB aN))
 (aD (bQ (eD (bL E8 rfl T.eh ee (aq (pv 0) (aq (eK (aq (fi (v:=.ref (Tb.cl "Locked")) rfl O.TL rfl) (aq (fi (v:=.ref (Tb.cl "NoArrow")) rfl O.TK rfl) (aq (fi (v:=.ref (Tb.cl "NoLabel")) rfl O.TV rfl) (aq (fi (v:=.ref (Tb.cl "NoNet")) rfl O.TQ rfl) aN))))) aN))))
 (aP (eV (iw iQ ko ku jP (pv 1) (aq jt aN))))
 bP)
 (aD (bQ (eD (bL E8 rfl T.eh ee (aq (pv 0) (aq (eK (aq (fi (v:=.ref (Tb.cl "NoRow")) rfl O.TU rfl) (aq (fi (v:=.ref (Tb.cl "NoSuch")) rfl O.TN rfl) (aq (fi (v:=.ref (Tb.cl "NoText")) rfl O.TR rfl) (aq (fi (v:=.ref (Tb.cl "NoTie")) rfl O.TM rfl) (aq (fi (v:=.ref (Tb.cl "Unlike")) rfl O.TJ rfl) aN)))))) aN))))
 (aP (eV (iw iQ ko ku jP (pv 1) (aq jt aN))))
 bP)
 (aD (bQ (eD (bL nP rfl T.eh ee (aq (pv 0) (aq (fi (v:=.ref (Tb.cl "NoName")) rfl O.TH rfl) aN))))
 (aP (eV (iw iQ ko ku jP (pv 1) (aq jt aN))))
 bP)
 (aD (bQ (eD (bL nP rfl T.eh ee (aq (pv 0) (aq (fi (v:=.ref (Tb.cl "NoWord")) rfl O.TD rfl) aN))))
 (aP (eV (iw iQ ko ku jP (pv 1) (aq jt aN))))
 bP)
 (aD (bQ (eD (bL nP rfl T.eh ee (aq (pv 0) (aq (fi (v:=.ref (Tb.cl "Ring")) rfl O.K0 rfl) aN))))
 (aP (eV (iw iQ ko ku jP (pv 1) (aq jt aN))))
 bP)
 (aD (bQ (eD (bL nP rfl T.eh ee (aq (pv 0) (aq (fi (v:=.ref (Tb.cl "Twice")) rfl O.TF rfl) aN))))
 (aP (eV (iw iQ ko ku jP (pv 1) (aq jt aN))))
 bP)
 (aD (bQ (eD (bL nP rfl T.eh ee (aq (pv 0) (aq (fi (v:=.ref (Tb.cl "WrongSize")) rfl O.TC rfl) aN))))
 (aP (eV (iw iQ ko ku jP (pv 1) (aq jt aN))))
 bP)
 (aD (bQ (jT (eD (bL nP rfl T.eh ee (aq (pv 0) (aq (gp rfl O.TW (by kernel_rfl)) aN)))))
 (aP (eV (iw iQ ko ku jP (pv 1) (aq jt aN))))
 bP)
 (aP (cp (pv 1)))))))))))),
  _root_.A.runN (N:=["_law_e","_law_some"]) (M:=Mo [1]) (aS (pT 1 rfl (fE aZ))
 (aS (cI (dR (AE.p (Fx (Cs:=[Tb.cl "Locked",Tb.cl "NoArrow",Tb.cl "NoLabel",Tb.cl "NoNet"]) rfl (by simp) Kt.T4)))
 (kD 1 rfl jy)
 bW)
 (aS (cI (dR (AE.p (Fx (Cs:=[Tb.cl "NoRow",Tb.cl "NoSuch",Tb.cl "NoText",Tb.cl "NoTie",Tb.cl "Unlike"]) rfl (by simp) Kt.T3)))
 (kD 1 rfl jy)
 bW)
 (aS (cI (dR (AE.p (q8 rfl (.own _) Kt.T1)))
 (kD 1 rfl jy)
 bW)
 (aS (cI (dR (AE.p (q8 rfl (.own _) Kt.T0)))
 (kD 1 rfl jy)
 bW)
 (aS (cI (dR (AE.p (q8 rfl (.own _) Kt.K1)))
 (kD 1 rfl jy)
 bW)
 (aS (cI (dR (AE.p (q8 rfl (.own _) Kt.TZ)))
 (kD 1 rfl jy)
 bW)
 (aS (cI (dR (AE.p (q8 rfl (.own _) Kt.TY)))
 (kD 1 rfl jy)
 bW)
 (aS (cI (jO (dR (AE.p (q8 rfl (.blt _) Kt.TX))))
 (kD 1 rfl jy)
 bW)
 (vV 1 rfl)))))))))) (by decide) h⟩)
abbrev Ak:bj:=top 40
theorem RY:cM ["_law_names","_law_arrows","_law_caught","_law_told","_law_e"] ["_law_names","_law_arrows"] (bC Ak):=d0
theorem Mq{f:ag}{fd:bA}(F:bN K "_law_asked" "_law_asked" Ak f fd)(T:Txt mg)(O:Own mg base)(Kt:sZ K)  (CG:bR P w K mg base (cH P w) 6 "net_made" ["names","arrows"] (iU Tb.cl mF))(yF:Ah P w K mg base 1 "_law_kinds" ["_law_e"] (eo rj)):bw P w K mg base aJ 7 f fd ["_law_names","_law_arrows"] (eo jK):=
 okN (Mo []) F RY (λcdv A outer s H E hr nd hu bF=>by
  have Uh:=hr.mono (show 6<=_ by decide);have K3:=(hr.mono (show 1<=_ by decide)).toH;exact⟨_,(aD (pS 2 qY)
 (aD (pS 3 qY)
 (aD (Nv (i:=4) rfl rfl rfl nd rfl rfl rfl O.KZ Kt.T5
 (O3 (LF (i:=3) rfl nd rfl (cE rfl) CG Uh rfl (aq (pv 0) (aV 1))))
 (λea=>(aP (pS 2 (pv 4)))))
 (aD (bQ (cW OZ (pv 2) qY (d5 _))
 (aP (cp (fB (aq (fB aN) (aV 3)))))
 bP)
 (aD (bQ (eD (bL nP rfl T.eh ee (aq (pv 2) (aq (fi (v:=.ref (Tb.cl "Ring")) rfl O.K0 rfl) aN))))
 (aP (cp (fB (aq (Gq (E:=λ_ _ _=>False) yF K3 rfl (aV 2)) (aq (IP (pv 2)) aN)))))
 bP)
 (aP (cp (fB (aq (Gq (E:=λ_ _ _=>False) yF K3 rfl (aV 2)) (aq qY aN)))))))))),
  (aS (ce 2 rfl ui)
 (aS (ce 3 rfl ui)
 (aS (SA (cs:=["NoName","WrongSize","NoWord","Twice","Ring"]) rfl rfl (by decide)
 (Ow 3 rfl (bg (bJ 0) (bg (bJ 1) cx))))
 (aS (cI (Ss rfl)
 (mR (AE.w (fE (aH (AE.nv (fE aZ)) (aH (bK 3) aZ)))))
 bW)
 (aS (cI (dR (AE.p (Es rfl (.own _) Kt.K1)))
 (mR (AE.w (fE (aH (AE.nv (kG (bg (Hk 2 rfl) cx))) (aH (E3 rfl Kt.K2) aZ)))))
 bW)
 (mR (AE.w (fE (aH (AE.nv (kG (bg (Hk 2 rfl) cx))) (aH ui aZ))))))))))⟩)
abbrev zu:bj:=top 41
theorem Ra:cM ["_law_names","_law_arrows","_law_left","_law_turn","_law_heads"] ["_law_names","_law_arrows"] (bC zu):=d0
theorem Sa{f:ag}{fd:bA}(F:bN K "_law_comes_round" "_law_comes_round" zu f fd)(T:Txt mg):bw P w K mg base aJ 1 f fd ["_law_names","_law_arrows"] (bV qU):=
 i6 (Mo []) F Ra (λcdv A outer s H E hr nd hu bF=>by
  exact⟨_,(aD (jH (i:=2) nd rfl (gH rfl) (gD pV rfl T.eU ji (aV 0)))
 (aD (g9 iR rfl (iX rfl T.jj (aq (bL fN rfl T.cC f8 (aV 0)) aN)) (pG 3)
 (aD (jH (i:=4) nd rfl (gH rfl) (im (N':=["_law_left","_law_tail","_law_head"]) (ρ:=[aa 2,ae,ae]) rfl (dP.of rfl (by kernel_rfl)) (eW (pv 1)) (λ_ _ _ _ _=>(ph rfl (ij (dL (i:=1) (by show(["_law_left","_law_tail","_law_head"]:List Str).Nodup;decide +kernel) rfl (cE rfl)) (ij (dL (i:=2) (by show(["_law_left","_law_tail","_law_head"]:List Str).Nodup;decide +kernel) rfl (cE rfl)) om)))) (vC (oa rfl (oa rfl xf nN) (xt nN))) (λ_ _ _ _ _=>(nX (cW (pL bF) (pv 1) (pv 0) rfl))) (λ_ _ _ _ _=>(pv 2))))
 (aP (jH (i:=2) nd rfl (gH rfl) (im (N':=["_law_heads","_law_name"]) (ρ:=[aa 4,ae]) rfl (dP.of rfl (by kernel_rfl)) (eW (pv 2)) (λ_ _ _ _ _=>(dL (i:=1) ja rfl (cE rfl))) (gq rfl) (λ_ _ _ _ _=>(nX (cW (pL bF) (pv 1) (pv 0) rfl))) (λ_ _ _ _ _=>(pv 1)))))))
 (aP (cp (uH zV (bL fN rfl T.cC f8 (aV 2)) aU (d5 _)))))),
  (aS (ce 2 rfl (AE.nv (cu eU (aH (ap 0) aZ))))
 (aS (jm (K:=K) (tg:=(.n 3)) (i0 (AE.p (cu cC (aH (ap 0) aZ)))) (by decide)
 (aS (ce 4 rfl (AE.nv (fb (K:=K) (tg:=(.t [1,2])) (js (ap 1)) (by decide) (cR (AE.p (az o0 (ap 1) (ap 0)))) (bK 2))))
 (ce 2 rfl (AE.nv (fb (K:=K) (tg:=(.n 1)) (js (ap 2)) (by decide) (cR (AE.p (az o0 (ap 1) (ap 0)))) (bK 1))))))
 (dX (AE.w (az Ag (AE.p (cu cC (aH (ap 2) aZ))) (AE.p aR))))))⟩)
abbrev z8:bj:=top 42
theorem Mh:cM ["_law_ring_here","_law_arrows","_law_k"] ["_law_ring_here","_law_arrows"] (bC z8):=d0
theorem M3{f:ag}{fd:bA}(F:bN K "_law_ring" "_law_ring" z8 f fd)(T:Txt mg):bw P w K mg base aJ 1 f fd ["_law_ring_here","_law_arrows"] (bV oR):=
 i6 (Mo []) F Mh (λcdv A outer s H E hr nd hu bF=>by
  exact⟨_,(aD (bQ (PW.pt (pw_or (jT (eD (bL jz rfl T.eh ee (aq (pv 0) (aq (gp rfl T.eU ji) aN))))) (pw_or1 (cW uO (bL fN rfl T.cC f8 (aV 0)) aU (d5 _)))))
 (aP (cp fS))
 bP)
 (aD (g9 iR rfl (iX rfl T.jj (aq (bL fN rfl T.cC f8 (aV 0)) aN)) (pG 2)
 (aD (bQ (PW.pt (pw_or (jT (eD (bL jz rfl T.eh ee (aq (pX (pv 0) (pv 2)) (aq (gp rfl T.vn vd) aN))))) (pw_or1 (cW (pL bF) (pX (pv 0) (pv 2)) (pI oK (pv 0) oY (oV (pv 2))) rfl))))
 (aP (cp fS))
 bP)
 (aP (bQ (cW (oJ bF) (eK (aq (pX (pv 0) (pv 2)) (aq (tG ue (pv 0) (a8 ek (a8 eJ (pv 2) aU) (bL fN rfl T.cC f8 (aV 0))) (λ_ _=>rfl)) aN))) (pv 1) rfl)
 (aP (cp fS))
 bP))))
 (aP (cp fS)))),
  (aS (cI (oX (jO (dR (AE.p (lF (ty_list K) (ap 0))))) (cR (AE.p (az uo (AE.p (cu cC (aH (ap 0) aZ))) (AE.p aR)))))
 (dX (AE.w fU))
 bW)
 (aS (jm (K:=K) (tg:=(.n 2)) (i0 (AE.p (cu cC (aH (ap 0) aZ)))) (by decide)
 (aS (cI (oX (jO (dR (AE.p (lF (ty_str K) (AE.p (az cG (ap 0) (ap 2))))))) (cR (AE.p (az o0 (AE.p (az cG (ap 0) (ap 2))) (AE.p (oU pi (ap 0) oE (pK (ap 2))))))))
 (dX (AE.w fU))
 bW)
 (cI (cR (AE.p (az pU (AE.p (fZ (aH (az cG (ap 0) (ap 2)) (aH (az cG (ap 0) (AE.p (az er (AE.p (az eQ (ap 2) (AE.p aR))) (AE.p (cu cC (aH (ap 0) aZ)))))) aZ)))) (ap 1))))
 (dX (AE.w fU))
 bW)))
 (dX (AE.w fU))))⟩)
abbrev Bi:bj:=top 43
theorem RL:cM ["_law_names","_law_arrows","_law_told","_law_one"] ["_law_names","_law_arrows"] (bC Bi):=d0
theorem R6{f:ag}{fd:bA}(F:bN K "_law_due" "_law_due" Bi f fd)(T:Txt mg):bw P w K mg base aJ 1 f fd ["_law_names","_law_arrows"] (bV qS):=
 i6 (Mo []) F RL (λcdv A outer s H E hr nd hu bF=>by
  exact⟨_,(aD (pS 2 (fB aN))
 (aD (g9 iR rfl (eW (pv 0)) (dL (i:=3) nd rfl (gH rfl))
 (aP (pS 2 (a8 eJ (pv 2) (im (N':=["_law_one","_law_arrows","_law_other"]) (ρ:=[aa 3,aa 1,ae]) rfl (dP.of rfl (by kernel_rfl)) (eW (pv 0)) (λ_ _ _ _ _=>(dL (i:=2) (by show(["_law_one","_law_arrows","_law_other"]:List Str).Nodup;decide +kernel) rfl (cE rfl))) (gq rfl) (λ_ _ _ _ _=>(nX (cW (pL bF) (eK (aq (pv 0) (aV 2))) (pv 1) rfl))) (λ_ _ _ _ _=>(eK (aq (pv 0) (aV 2)))))))))
 (aP (cp (eK (aq (gD m6 rfl T.e9 lc (aV 0)) (aq (gD m6 rfl T.e9 lc (aV 2)) aN))))))),
  (aS (ce 2 rfl (AE.nv (fE aZ)))
 (aS (jm (K:=K) (tg:=(.n 3)) (mT (bK 0)) (by decide)
 (ce 2 rfl (az eQ (ap 2) (AE.np (fb (K:=K) (tg:=(.n 2)) (js (ap 0)) (by decide) (cR (AE.p (az o0 (AE.p (fZ (aH (bK 0) (aH (bK 2) aZ)))) (ap 1)))) (fZ (aH (bK 0) (aH (bK 2) aZ))))))))
 (dX (AE.w (fZ (aH (cu e9 (aH (ap 0) aZ)) (aH (cu e9 (aH (ap 2) aZ)) aZ)))))))⟩)
abbrev zI:bj:=top 44
theorem O6:cM ["_law_script","_law_net_here","_law_names","_law_arrows","_law_made","_law_turn","_law_handed","_law_kinds_here","_law_told","_law_at","_law_gone"] ["_law_script"] (bC zI):=d0
theorem Qy{f:ag}{fd:bA}(F:bN K "law" "law" zI f fd)(T:Txt mg)(O:Own mg base)(Kt:sZ K)(CI:AI P w K mg base 3 "Ring" (Tb.cl "Ring") ["self","ring"])(lg:bR P w K mg base aJ 1 "_law_cell" ["_law_script","_law_k"] (bV fP))(CH:bR P w K mg base aJ 2 "_law_net" ["_law_script","_law_most"] (bV q9))(qy:∀n,bR P w K mg base aJ (n+1) "_law_alike" ["_law_found","_law_due_here"] (bV (gQ n)))(CJ:bR P w K mg base aJ 1 "_law_turned" ["_law_arrows","_law_cell_here"] (eo tR))(CK:bR P w K mg base aJ 7 "_law_asked" ["_law_names","_law_arrows"] (eo jK))(CL:bR P w K mg base aJ 1 "_law_comes_round" ["_law_names","_law_arrows"] (bV qU))(CM:bR P w K mg base aJ 1 "_law_ring" ["_law_ring_here","_law_arrows"] (bV oR))(CN:bR P w K mg base aJ 1 "_law_due" ["_law_names","_law_arrows"] (bV qS)):bw P w K mg base aJ 8 f fd ["_law_script"] (bV Aw):=
 i6 (Mo []) F O6 (λcdv A outer s H E hr nd hu bF=>by
  obtain⟨fI,fdI,CI1,CI2,CI3,CI4,CI5⟩:=CI;have hrI:=hr.mono (show 4<=_ by decide);have Cv:=hr.mono (show(4+1)<=_ by decide);exact⟨_,(aD (pS 1 (pC CH hr (aq (pv 0) (aq aU aN))))
 (aD (pS 2 (gD pV rfl T.eU ji (aq (pX (pv 1) aU) aN)))
 (aD (pS 3 (pC CJ hr (aq (gD pV rfl T.eU ji (aq (pX (pv 1) aU) aN)) (aq (pC lg hr (aq (pv 0) (aq aU aN))) aN))))
 (aD (pS 4 (SV (GS (E:=λ_ _ _=>False) l7 CI1 CI2 CI3 CI4 hrI CI5 rfl rfl (aq (gD pV rfl T.eU ji (aV 2)) aN))))
 (aD (bQ (PW.pt (pw_or (jT (eD (bL nP rfl T.eh ee (aq (pv 4) (aq (fi (v:=.ref (Tb.cl "ArrowError")) rfl O.KZ rfl) aN))))) (pw_or1 (cW (nZ bF) (IP (pv 4)) (pv 2) (d5 _)))))
 (aP (cp fS))
 bP)
 (aD (g9 iR rfl (iX rfl T.jj (aq aU aN)) (pG 5)
 (aD (pS 6 (fB (aq (gD pV rfl T.eU ji (aV 2)) (aq (gD pV rfl T.eU ji (aV 3)) aN))))
 (aD (HI (pC CK hr (aq (pX (pv 6) aU) (aq (pX (pv 6) aU) aN))) (MB rfl (ij (pG 7) (ij (pG 8) om))))
 (aD (bQ (cW (nZ bF) (pv 6) (fB (aq (pv 2) (aV 3))) (d5 _))
 (aP (cp fS))
 bP)
 (aD (bQ (jT (eD (pC CL hr (aq (pv 2) (aV 3)))))
 (aP (cp (yT (uH (pO bF) (pv 7) (fB aN) (d5 _)) (y6 (jq (qy 4) Cv rfl mI (aq (pv 8) (aq (pC CN hr (aq (pv 2) (aV 3))) aN)))))))
 bP)
 (aD (bQ (PW.pt (pw_or (cW (nZ bF) (pv 7) (fB (aq jt aN)) (d5 _)) (pw_or1 (jT (eD (pC CM hr (aq (pv 8) (aV 3))))))))
 (aP (cp fS))
 bP)
 (aD (pS 9 (a8 ek (pC lg hr (aq (pv 0) (aq (a8 eJ aU (a8 ek (pv 5) aU)) aN))) (bL fN rfl T.cC f8 (aV 8))))
 (aD (jH (i:=10) nd rfl (gH rfl) (eK (aq (pX (pv 8) (pv 9)) (aq (tG ue (pv 8) (a8 ek (a8 eJ (pv 9) aU) (bL fN rfl T.cC f8 (aV 8))) (λ_ _=>rfl)) aN))))
 (aP (qC (i:=3) (N':=["_law_gone","_law_arrow"]) (ρ:=[aa 10,ae]) rfl nd rfl (cE rfl) (dP.of rfl (by kernel_rfl)) (eW (pv 3)) (λ_ _ _ _ _=>(dL (i:=1) ja rfl (cE rfl))) (gq rfl) (λ_ _ _ _ _=>(nX (cW (nZ bF) (pv 1) (pv 0) (d5 _)))) (λ_ _ _ _ _=>(pv 1))))))))))))
 (aP (cp fS)))))))),
  (aS (ce 1 rfl (eY (bg (bJ 0) (bg (AE.w aR) cx))))
 (aS (ce 2 rfl (AE.nv (cu eU (aH (AE.p (az cG (ap 1) (AE.p aR))) aZ))))
 (aS (ce 3 rfl (AE.nv (kG (bg (AW.nv (AE.w (cu eU (aH (AE.p (az cG (ap 1) (AE.p aR))) aZ)))) (bg (AE.w (eY (bg (bJ 0) (bg (AE.w aR) cx)))) cx)))))
 (aS (NL 4 rfl (Pb (AE.nv (cu eU (aH (ap 2) aZ)))))
 (aS (cI (oX (jO (dR (AE.p (Es rfl (.own _) Kt.T6)))) (cR (AE.p (az nI (AE.p (E3 rfl Kt.K2)) (ap 2)))))
 (dX (AE.w fU))
 bW)
 (aS (jm (K:=K) (tg:=(.n 5)) (i0 (AE.p aR)) (by decide)
 (aS (ce 6 rfl (AE.nv (fE (aH (AE.nv (cu eU (aH (ap 2) aZ))) (aH (AE.nv (cu eU (aH (ap 3) aZ))) aZ)))))
 (aS (Ml [7,8] (by decide) (AE.nv (kG (bg (AE.w (az cG (ap 6) (AE.p aR))) (bg (AE.w (az cG (ap 6) (AE.p aR))) cx)))))
 (aS (cI (cR (AE.p (az nI (ap 6) (AE.np (fE (aH (bK 2) (aH (bK 3) aZ)))))))
 (dX (AE.w fU))
 bW)
 (aS (cI (jO (dR (AE.p (eY (bg (bJ 2) (bg (bJ 3) cx))))))
 (dX (AE.w (zG (AE.p (az pQ (ap 7) (AE.np (fE aZ)))) (eY (bg (bJ 8) (bg (AE.w (eY (bg (bJ 2) (bg (bJ 3) cx)))) cx))))))
 bW)
 (aS (cI (oX (cR (AE.p (az nI (ap 7) (AE.np (fE (aH jy aZ)))))) (jO (dR (AE.p (eY (bg (bJ 8) (bg (bJ 3) cx)))))))
 (dX (AE.w fU))
 bW)
 (aS (ce 9 rfl (az er (AE.p (eY (bg (bJ 0) (bg (AE.w (az eQ (AE.p aR) (AE.p (az er (ap 5) (AE.p aR))))) cx)))) (AE.p (cu cC (aH (ap 8) aZ)))))
 (aS (ce 10 rfl (fZ (aH (az cG (ap 8) (ap 9)) (aH (az cG (ap 8) (AE.p (az er (AE.p (az eQ (ap 9) (AE.p aR))) (AE.p (cu cC (aH (ap 8) aZ)))))) aZ))))
 (ce 3 rfl (AE.nv (fb (K:=K) (tg:=(.n 1)) (js (ap 3)) (by decide) (cR (AE.p (az nI (ap 1) (ap 0)))) (bK 1))))))))))))
 (dX (AE.w fU))))))))⟩)
end
end oB
namespace L2
open PySem PySem.Spec PyProof.Rows
theorem v9{K:aB}{h:ay}{mg:Str->Option ah}{y:Str}{D:ag}{bb:List ah}{nw:String}(X:K.In h)(G:h.Ns mainGlobals mg)(a:bT K mainGlobals y=aa (aa (.ref D)))(t:sw K D bb nw=true):OwnCls y D bb nw mg h:=by
 refine⟨eR X G a,?_⟩;simp only[sw]at t;split at t
 case h_2=>cases t
 case h_1 d1 c1 s1 e1=>
  split at t
  case h_2=>cases t
  case h_1 D' m1 p0 p1 p2 p3 b1 p5 em es=>
   obtain⟨n1,bs,mr,N1,qn,hd,sn,sb,ab,co,de⟩:=c1;obtain⟨l1⟩:=s1;dsimp only at em es t;subst em;subst es;have t1:=lb.mp t;have t2:=lb.mp t1.1;have t3:=lb.mp t2.1;have t4:=lb.mp t3.1;have t5:=lb.mp t4.1;have u1:=f7.mp t5.1;have u2:=f7.mp t5.2;have u3:de=false:=by simpa using t4.2
   subst u1 u2 u3;exact⟨m1,N1,n1,qn,bs,hd,sn,sb,ab,co,d1,p0,p1,p2,p3,p5,h.nsMap N1,X _ _ e1,.of_isNs (Bw X t2.2),PySem.W.nsMap_none_of_in X t2.2 (f7.mp t1.2),Jr X t3.2⟩
theorem m7{R:String->Bool->Prop}:∀x k,(λc=>([]:List (String×Bool)).lookup c) x=aa k->R x k:=λ_ _ h=>nomatch h
theorem bS{n:String}{b:Bool}{l:List (String×Bool)}{R:String->Bool->Prop}(h:R n b)(t:∀x k,(λc=>l.lookup c) x=aa k->R x k):∀x k,(λc=>((n,b)::l).lookup c) x=aa k->R x k:=by
 intro x k e;simp only[jg]at e;split at e
 ·rename_i q;cases e;rw[f7.mp q];exact h
 ·exact t x k e
theorem QG{R:ag->Prop}{cl:String->ag}:∀C,(∃c∈([]:List String),C=cl c)->R C:=λC ⟨c,h,_⟩=>nomatch h
theorem tL{n:String}{l:List String}{R:ag->Prop}{cl:String->ag}(h:R (cl n))(t:∀C,(∃c∈l,C=cl c)->R C):∀C,(∃c∈n::l,C=cl c)->R C:=λC ⟨c,hc,e⟩=>by
 cases hc with
 |head=>rw[e];exact h
 |tail _ k=>exact t C ⟨c,k,e⟩
theorem da.NN{P:aW}{w:aQ}{K:aB}{mg:Str->Option ah}{CX:fR}{k:Nat}{x p:Str}{st:bj}{sp:Sp}{fa c T:ag}(F:da K mg x st [p])(hm:mg x=aa (.ref fa))(h:∀base,K.In base->base.Ns mainGlobals mg->BM mg base->ke base c T->∀f fd,bN K x x st f fd->bw P w K mg base CX k f fd [p] sp) :
 ∃fd:bA,(∀(s:ak) (u:ah),ng s fd ⟨[u],[]⟩ [(p,u)])/\∀base:ay,K.In base->base.Ns mainGlobals mg->BM mg base->ke base c T->bw P w K mg base CX k fa fd [p] sp:=by
 obtain⟨f,fd,h1,h2,h3,h5,h4⟩:=F.ex;rw[h1]at hm;cases hm;exact⟨fd,λs u=>h5 s [u] rfl,λbase kb nb b1 b2=>h base kb nb b1 b2 _ fd h4⟩
theorem Sf{P:aW}{w:aQ}{K:aB}{mg:Str->Option ah}{base:ay}{CX:fR}{lv:Nat->Nat}{x:Str}{st:bj}{ps:List Str}{sp:Nat->Sp}(F:da K mg x st ps)
 (h:∀f fd,bN K x x st f fd->(∀n,bw P w K mg base CX (lv n) f fd ps (sp n)->bR P w K mg base CX (lv n) x ps (sp n))->∀n,bw P w K mg base CX (lv n) f fd ps (sp n)) (n:Nat):bR P w K mg base CX (lv n) x ps (sp n):=by
 obtain⟨f,fd,h1,h2,h3,_,h4⟩:=F.ex;have self:∀n,bw P w K mg base CX (lv n) f fd ps (sp n)->bR P w K mg base CX (lv n) x ps (sp n):=λn k=>⟨f,fd,h1,h2,h3,k⟩;exact self n (h f fd h4 self n)
def Hq(K:aB):Bool:=K.all λp=>match p.2.cls with|.type "list" => false|_=>true
theorem PD{K:aB}(h:Hq K=true){a:ag}{o:Obj}(e:K.lookup a=aa o)(c:o.cls=.type "list"):False:=by
 have hm:(a,o)∈K:=by
  clear h
  induction K with
  |nil=>cases e
  |cons p r ih=>
   obtain⟨b,x⟩:=p;simp only[jg]at e;split at e
   ·rename_i q;cases e;rw[f7.mp q];exact List.Mem.head _
   ·exact List.Mem.tail _ (ih e)
 have h2:=sG.mp h _ hm;simp only[c]at h2;cases h2
abbrev Dv:List ah:=[.type "ValueError",.type "Exception",.type "BaseException",.type "object"]
def A7(K:aB)(C fI:ag)(bmB:List ah)(newId:String):Bool:=match K.lookup C with
 | some ⟨.type "type", _,.cls cd,sl⟩=>(match cd.mro,sl.toList with
  |.ref C'::bm,[_,_,_,_,aa (.builtin n),_]=>C'==C&&n==newId && !cd.hasDel&&PySem.W.tailIn K bmB bm&&PySem.W.nsOkIn K cd.ns&&bT K cd.ns "__init__" == aa (aa (.ref fI))
  |_,_=>false)
 |_=>false
theorem MX{K:aB}{h:ay}{N:ag}{mg:Str->Option ah}{n:Str}{v:ah}(X:K.In h)(G:h.Ns N mg)(e:bT K N n=aa (aa v)):mg n=aa v:=by
 obtain⟨o,es,ep,ho,hd,_,hf⟩:=G;unfold bT at e;split at e
 ·rename_i c d es' n' sl q;have:=X _ _ q;rw[ho]at this;cases this;cases hd;split at e
  ·rename_i en he;cases e;rw[<- hf];unfold nsFind findBy;rw[<- Ki,he];rfl
  ·split at e<;>cases e
 ·cases e
theorem Ro{K:aB}{h:ay}{mg:Str->Option ah}{y:Str}{D fI:ag}{bb:List ah}{nw:String}(X:K.In h)(G:h.Ns mainGlobals mg)(a:bT K mainGlobals y=aa (aa (.ref D)))(t:A7 K D fI bb nw=true):n9 y D fI bb nw mg h:=by
 refine⟨eR X G a,?_⟩;simp only[A7]at t;split at t
 case h_2=>cases t
 case h_1 d1 c1 s1 e1=>
  split at t
  case h_2=>cases t
  case h_1 D' m1 p0 p1 p2 p3 b1 p5 em es=>
   obtain⟨n1,bs,mr,N1,qn,hd,sn,sb,ab,co,de⟩:=c1;obtain⟨l1⟩:=s1;dsimp only at em es t;subst em;subst es;have t1:=lb.mp t;have t2:=lb.mp t1.1;have t3:=lb.mp t2.1;have t4:=lb.mp t3.1;have t5:=lb.mp t4.1;have u1:=f7.mp t5.1;have u2:=f7.mp t5.2;have u3:de=false:=by simpa using t4.2
   subst u1 u2 u3;exact⟨m1,N1,n1,qn,bs,hd,sn,sb,ab,co,d1,p0,p1,p2,p3,p5,h.nsMap N1,X _ _ e1,.of_isNs (Bw X t2.2),MX X (.of_isNs (Bw X t2.2)) (f7.mp t1.2),Jr X t3.2⟩
structure pf(K:aB)(x y f:Str)(C CA rI:ag):Prop where
 r1:bT K mainGlobals x=aa (aa (.ref C))
 r2:A7 K C rI Dv "ValueError.__new__" = true
 r3:xS K (.ref rI)=aa (.type "function")
 r4:jB K (.ref C)=true
 r5:bT K mainGlobals y=aa (aa (.ref CA))
 r6:xO K (.ref CA) "__getattribute__" = aa (aa (.builtin "type.__getattribute__"))
 r7:JB K CA (.type "type")=true
 r8:JC K (.ref CA) (.type "type") "__init__" = aa (.val (.builtin "ValueError.__init__"))
 r9:By (.builtin "ValueError.__init__")=true
 s1:lQ K (.ref C) "__setattr__" = aa (aa (.builtin "object.__setattr__"))
 s2:PySem.W.yJ K C=true
 s3:JD K C f=aa ae
theorem pf.own{K:aB}{h:ay}{mg:Str->Option ah}{x y f:Str}{C CA rI:ag}(R:pf K x y f C CA rI)(X:K.In h)(G:h.Ns mainGlobals mg):n9 x C rI Dv "ValueError.__new__" mg h:=Ro X G R.r1 R.r2
theorem pf.ini{K:aB}{h:ay}{mg:Str->Option ah}{x y f:Str}{C CA rI:ag}(R:pf K x y f C CA rI)(X:K.In h)(G:h.Ns mainGlobals mg):Bb K mg y CA "ValueError.__init__" := ⟨eR X G R.r5,R.r6,R.r7,R.r8,R.r9⟩
theorem pf.set{K:aB}{x y f:Str}{C CA rI:ag}(R:pf K x y f C CA rI):yQ K C f:=⟨R.s1,R.s2,R.s3⟩
theorem R7{K:aB}{x qual:Str}{st:bj}{ps:List Str}{f:ag}{oc:ah}{od an:Option ag}{osl:Array (Option ah)}{kV doc pm cdv ct:ah}
 (hb:∀(kV doc pm:ah) (an:Option ag) (cdv ct:ah) (us:List ah),us.length=ps.length->bindArgs (iK x qual (kU st) (gL st) (bC st) .none kV doc pm an cdv ct) ⟨us,[]⟩=pure (ps.zip us))
 (l:K.lookup f=aa ⟨oc,od,.func (iK x qual (kU st) (gL st) (bC st) .none kV doc pm an cdv ct),osl⟩)
 (c:ou K cdv qual=true) (k:jB K (.ref f)=true):∃fd,Binds K fd ps []/\bN K x qual st f fd:=
 ⟨_,(vM (st:=st) l c k).binds hb,vM (st:=st) l c k⟩
end L2
namespace Mi
open PySem
@[simp] theorem kL {α:Type} (a:α):dh (aa a)=.ok a:=rfl
@[simp] theorem Uz {α:Type} {c:Prop} [Decidable c] (h:c) (r:Rs α):ba c r=r:=aF h
@[simp] theorem pe (a b:Str):bz (.str a) (.str b)=decide (a=b):=by rw[bz];by_cases h:a=b<;>simp[h]
@[simp] theorem Gk (a b:Int):bz (.int a) (.int b)=decide (a=b):=by rw[bz];by_cases h:a=b<;>simp[h]
@[simp] theorem PJ (x:Str):(D.str x).dep=0:=by simp[D.dep]
@[simp] theorem Uv (x:Int):(D.int x).dep=0:=by simp[D.dep]
@[simp] theorem Uw (x:Bool):(D.bl x).dep=0:=by simp[D.dep]
@[simp] theorem Uu:D.non.dep=0:=by simp[D.dep]
@[simp] theorem y8 (ds:List D):(D.lst ds).dep=dH ds+1:=by simp[D.dep]
@[simp] theorem Uy (ds:List D):(D.tup ds).dep=dH ds+1:=by simp[D.dep]
@[simp] theorem Qw:dH []=0:=rfl
@[simp] theorem uk (d:D) (r:List D):dH (d::r)=max d.dep (dH r):=by rw[dH]
@[simp] theorem ud:∀xs:List Str,dH (xs.map D.str)=0
 |[]=>rfl
 |x::r=>by rw[b9,uk,PJ,ud r];rfl
theorem Bl(xs:List Str)(x:Str):((xs.map D.str).any λe=>bz e (.str x))=decide (x∈xs):=by
 induction xs with
 |nil=>rfl
 |cons y r ih=>
  rw[b9,k9,ih,pe];by_cases h:y=x
  ·simp[h]
  ·have h2:¬ x=y:=λz=>h z.symm;simp[h,h2]
theorem tU(xs:List Str)(x:Str):dA (.str x) (.lst (xs.map D.str))=.ok (.bl (decide (x∈xs))):=by show ba _ _=_;rw[aK (by rw[ud];omega),Bl]
theorem qI(xs:List Str)(x:Str):eB (.str x) (.lst (xs.map D.str))=.ok (.bl (!decide (x∈xs))):=by show ba _ _=_;rw[aK (by rw[ud];omega),Bl]
theorem RI(xs:List Str)(x:Str):eB (.str x) (.tup (xs.map D.str))=.ok (.bl (!decide (x∈xs))):=by show ba _ _=_;rw[aK (by rw[ud];omega),Bl]
theorem wf(x y:Str):fw (.str x) (.str y)=.ok (.bl (decide (x=y))):=by show ba _ _=_;rw[aK (by simp),pe]
theorem AM(x y:Int):fw (.int x) (.int y)=.ok (.bl (decide (x=y))):=by show ba _ _=_;rw[aK (by simp),Gk]
theorem NR(x y:Int):dQ (.int x) (.int y)=.ok (.bl (!decide (x=y))):=by show ba _ _=_;rw[aK (by simp),Gk]
theorem vN{α:Type}(f:α->Bool)(xs:List α):mf (xs.map λx=>D.bl (f x))=aa (xs.map f):=by
 induction xs with
 |nil=>rfl
 |cons a r ih=>rw[b9,mf,ih];rfl
theorem A1(xs:List Str):kJ (xs.map D.str)=aa xs:=by
 induction xs with
 |nil=>rfl
 |cons a r ih=>rw[b9,kJ,ih];rfl
theorem qJ(n:Nat)(b:S)(a0:W):dF 1 n b [a0]=(b ([aa a0]++c8 (n-1) ae)).bind j2:=aK rfl
theorem i4(n:Nat)(b:S)(a0 a1:W):dF 2 n b [a0,a1]=(b ([aa a0,aa a1]++c8 (n-2) ae)).bind j2:=aK rfl
theorem SW(n:Nat)(b:S)(a0:W):jr 1 n b [a0]=(b ([aa a0]++c8 (n-1) ae)).bind my:=aK rfl
theorem pE(n:Nat)(b:S)(a0 a1:W):jr 2 n b [a0,a1]=(b ([aa a0,aa a1]++c8 (n-2) ae)).bind my:=aK rfl
theorem ED{α:Type}(r:Rs α):ba (1<=16777216) r=r:=aK (by decide)
theorem pB(i j:Int):bv (.int i) (.int j)=.ok (.int (i+j)):=rfl
theorem IM(i j:Str):bv (.str i) (.str j)=ba (i.length+j.length<=16777216) (.ok (.str (i++j))):=rfl
theorem NP(i j:List D):bv (.lst i) (.lst j)=ba (i.length+j.length<=16777216) (.ok (.lst (i++j))):=rfl
theorem QR(i j:Int):mJ (.int i) (.int j)=.ok (.int (i-j)):=rfl
theorem wM(i j:Int):cv (.int i) (.int j)=ba (mM i j) (.ok (.int (i*j))):=rfl
theorem div_ii(i j:Int):cJ (.int i) (.int j)=ba (mH j) (.ok (.int (i/j))):=rfl
theorem kC(i j:Int):bq (.int i) (.int j)=ba (0<j) (.ok (.int (i%j))):=rfl
theorem vA(i j:Int):fG (.int i) (.int j)=.ok (.bl (decide (i<j))):=rfl
theorem NO(i j:Int):mY (.int i) (.int j)=.ok (.bl (decide (j<i))):=rfl
theorem F7(i j:Int):fK (.int i) (.int j)=.ok (.bl (decide (i<=j))):=rfl
theorem Fu(x:D):wg x .non=.ok (.bl (!tu x)):=rfl
theorem Ry:tu .non=true:=rfl
theorem L5(x:Str):tu (.str x)=false:=rfl
theorem zW(ds:List D):bH [.lst ds]=.ok (.int ds.length):=rfl
theorem AU(z:Str):bH [.str z]=ba (z.length<=16777216) (.ok (.int z.length)):=rfl
theorem Ou(i j:Int):jn [.int i,.int j]=.ok (.int (max i j)):=rfl
theorem Px(i j:Int):nH [.int i,.int j]=.ok (.int (min i j)):=rfl
theorem vX(ds:List D):nE [.lst ds]=(dh (mf ds)).bind λbs=>.ok (.bl (bs.all id)):=rfl
theorem Mu(ds:List D):kQ [.lst ds]=.ok (.tup ds):=rfl
theorem yS(z:Str)(lo hi:Option Int):fL (.str z) lo hi=ba (z.length<=16777216) (.ok (.str (nS z lo hi))):=rfl
theorem Pd(ds:List D):uK (.lst ds)=.ok ds:=rfl
theorem AH(ds:List D):uK (.tup ds)=.ok ds:=rfl
theorem mG(b:Bool):s0 (.bl b)=.ok b:=rfl
theorem pY(b:Int):rh (.int b)=.ok b:=rfl
theorem v7(x:D):vP (.d x)=.ok x:=rfl
theorem DA(x:D):Jj (.d x)=ba (mW x=true) (.ok x):=rfl
theorem LH(i:Nat)(d:D)(e:Mi.Env):(Tg.n i).put d e=.ok (e.set i (aa (.d d))):=rfl
theorem all_cons(i:Nat)(is:List Nat)(d:D)(ds:List D)(e:Mi.Env):mj (i::is) (d::ds) e=mj is ds (e.set i (aa (.d d))):=rfl
theorem QJ(w:W):j2 (.rt w)=.ok w:=rfl
theorem Q4(e:Mi.Env):j2 (.nx e)=.ok (.d .non):=rfl
theorem Od(w:W):my (.rt w)=.ok w:=rfl
theorem aC{f:D->D->Rs D}{a b:E}{e:Mi.Env}{x y:D}{z:Rs D}(ha:a e=.ok x)(hb:b e=.ok y)(h:f x y=z):m2 f a b e=z:=by unfold m2;rw[ha,aE,hb,aE,h]
theorem aI{s t:S}{e e':Mi.Env}(h:s e=.ok (.nx e')):aA s t e=t e':=by unfold aA;rw[h];rfl
theorem lO{s t:S}{e:Mi.Env}{w:W}(h:s e=.ok (.rt w)):aA s t e=.ok (.rt w):=by unfold aA;rw[h];rfl
theorem bZ{i:Nat}{a:E}{e:Mi.Env}{d:D}(h:a e=.ok d):bc i a e=.ok (.nx (e.set i (aa (.d d)))):=by unfold bc;rw[h];rfl
theorem gr{a:EW}{e:Mi.Env}{w:W}(h:a e=.ok w):bG a e=.ok (.rt w):=by unfold bG;rw[h];rfl
theorem dv{a:E}{e:Mi.Env}{d:D}(h:a e=.ok d):wD a e=.ok (.d d):=by unfold wD;rw[h];rfl
theorem i7{c:C}{s t:S}{e:Mi.Env}(h:c e=.ok true):a9 c s t e=s e:=by unfold a9;rw[h];rfl
theorem cS{c:C}{s t:S}{e:Mi.Env}(h:c e=.ok false):a9 c s t e=t e:=by unfold a9;rw[h];rfl
theorem cf{a:E}{e:Mi.Env}{b:Bool}(h:a e=.ok (.bl b)):cB a e=.ok b:=by unfold cB;rw[h];rfl
theorem fF{ρ:List (Option Nat)}{it:I}{tg:Tg}{c:C}{a:E}{e:Mi.Env}{xs ys:List D}(h:it e=.ok xs)(hl:xs.length<=16777216)(hc:dG tg c a (jG ρ e) xs=.ok ys):bX ρ it tg c a e=.ok (.lst ys):=by unfold bX;rw[h,aE,aK hl,hc,aE]
theorem iz{a:E}{e:Mi.Env}{n:Int}(h:a e=.ok (.int n))(hr:okR n):eG a e=.ok (dJ 0 n):=by unfold eG;rw[h,aE,pY,aE,aK hr]
theorem i9{it:I}{tg:Tg}{b:S}{e:Mi.Env}{xs:List D}(h:it e=.ok xs):eM it tg b e=dB tg b xs e:=by unfold eM;rw[h];rfl
theorem gN{a:E}{e:Mi.Env}{x:D}{xs:List D}(h:a e=.ok x)(hx:uK x=.ok xs):bM a e=.ok xs:=by unfold bM;rw[h,aE,hx]
theorem HB{i:Nat}{a:E}{e:Mi.Env}{d:D}{ds:List D}(h:a e=.ok d)(hg:getL e i=.ok ds)(hl:ds.length<16777216):fe i a e=.ok (.nx (putL e i (ds++[d]))):=by unfold fe;rw[h,aE,hg,aE,aK hl]
theorem et{f:List D->Rs D}{a:E}{e:Mi.Env}{x:D}(h:a e=.ok x):mN f [a] e=f [x]:=by unfold mN;rw[iI,h];rfl
theorem zQ{f:List D->Rs D}{a b:E}{e:Mi.Env}{x y:D}(h:a e=.ok x)(h':b e=.ok y):mN f [a,b] e=f [x,y]:=by unfold mN;rw[iI,h,aE,iI,h'];rfl
theorem Mj{a:E}{e:Mi.Env}{x:D}(h:a e=.ok x):mN cF [a] e=.ok (.lst [x]):=by rw[et h];exact aK (by simp)
theorem gI{a b:E}{e:Mi.Env}{x y:D}(h:a e=.ok x)(h':b e=.ok y):mN dTup [a,b] e=.ok (.tup [x,y]):=by rw[zQ h h'];exact aK (by simp)
theorem zb{f:Fn}{a:EW}{e:Mi.Env}{x:W}{d:D}(h:a e=.ok x)(hf:f [x]=.ok (.d d)):bp f [a] e=.ok d:=by unfold bp lC;rw[cO,h];simp only[aE,cO,hf,v7]
theorem call2{f:Fn}{a b:EW}{e:Mi.Env}{x y:W}{d:D}(h:a e=.ok x)(h':b e=.ok y)(hf:f [x,y]=.ok (.d d)):bp f [a,b] e=.ok d:=by unfold bp lC;rw[cO,h,aE,cO,h'];simp only[aE,cO,hf,v7]
theorem Po{f:Fn}{a b:EW}{e:Mi.Env}{x y:W}{d:D}(h:a e=.ok x)(h':b e=.ok y)(hf:f [x,y]=.ok (.d d))(hi:mW d=true):oN f [a,b] e=.ok d:=by unfold oN lC;rw[cO,h,aE,cO,h'];simp only[aE,cO,hf,DA,aK hi]
theorem gJ{α:Type}{tg:Tg}{c:C}{a:E}{e:Mi.Env}(f g:α->D)(p:α->Bool):∀(xs:List α),(∀x∈xs,∃e1,tg.put (f x) e=.ok e1/\c e1=.ok (p x)/\(p x=true->a e1=.ok (g x)))->dG tg c a e (xs.map f)=.ok ((xs.filter p).map g)
 |[],_=>rfl
 |x::r,h=>by
  obtain⟨e1,h1,h2,h3⟩:=h x b8;have ih:=gJ (tg:=tg) (c:=c) (a:=a) (e:=e) f g p r λy hy=>h y (cy _ hy);rw[b9,dG,h1,aE,h2,aE];cases hp:p x with
  |true=>rw[aF rfl,h3 hp,aE,ih,aE,List.filter_cons_of_pos hp];rfl
  |false=>rw[aG dN,ih,List.filter_cons_of_neg (by rw[hp];exact dN)]
theorem nG{tg:Tg}{body:S}(Inv:Nat->Mi.Env->Prop):∀(xs:List D) (k:Nat),(∀i x e,xs[i]? = aa x->Inv (k+i) e->∃e1 e2,tg.put x e=.ok e1/\body e1=.ok (.nx e2)/\Inv (k+i+1) e2)->∀e,Inv k e->∃e',dB tg body xs e=.ok (.nx e')/\Inv (k+xs.length) e'
 |[],k,_,e,h=>⟨e,rfl,h⟩
 |x::r,k,hs,e,h=>by
  obtain⟨e1,e2,h1,h2,h3⟩:=hs 0 x e rfl h;obtain⟨e',h4,h5⟩:=nG Inv r (k+1) (λi y e hy hi=>by
   have:=hs (i+1) y e (by simpa using hy) (by rw[show k+(i+1)=k+1+i by omega];exact hi);rw[show k+(i+1)+1=k+1+i+1 by omega]at this;exact this) e2 h3
  refine⟨e',?_,by rw[dq,show k+(r.length+1)=k+1+r.length by omega];exact h5⟩;rw[dB,h1,aE,h2,aE];exact h4
theorem IV{α:Type}{tg:Tg}{body:S}{e:Mi.Env}{w:Out}(f:α->D)(st:Option α->Mi.Env)(p:α->Bool)(out:α->Out):∀(xs:List α) (o:Option α),
 (∀x∈xs,∀o,∃e1,tg.put (f x) (st o)=.ok e1/\body e1=.ok (if p x=true then out x else .nx (st (aa x)))) ->
 (∀x∈xs,p x=true->∃w,out x=.rt w) ->
 dB tg body (xs.map f) (st o)=.ok (match xs.find? p with|some x=>out x|none=>.nx (st (xs.getLast?.or o)))
 |[],o,_,_=>by cases o<;>rfl
 |x::r,o,h,ho=>by
  obtain⟨e1,h1,h2⟩:=h x b8 o;rw[b9,dB,h1,aE,h2,aE];cases hp:p x with
  |true=>
   obtain⟨w,hw⟩:=ho x b8 hp;rw[List.find?_cons_of_pos hp];simp only[gi,hw]
  |false=>
   rw[List.find?_cons_of_neg (by rw[hp];exact dN)];have ih:=IV (e:=e) (w:=w) f st p out r (aa x) (λy hy=>h y (cy _ hy)) λy hy=>ho y (cy _ hy);simp only[lX,fX];rw[ih];have:(r.getLast?.or (aa x))=((x::r).getLast?.or o):=by
    cases r with
    |nil=>rfl
    |cons y t=>simp[List.getLast?_cons]
   rw[this]
end Mi
namespace Mr
open PySem Mi
abbrev Ar:=Str×Str
def pairD(p:Ar):D:=.tup [.str p.1,.str p.2]
def jW(ac:List Str):D:=.tup (ac.map D.str)
def pA(ai:List Ar):D:=.tup (ai.map pairD)
def aX(ac:List Str)(ai:List Ar):D:=.tup [jW ac,pA ai]
def aj(xs:List Str):D:=.lst (xs.map D.str)
theorem at0{α:Type}(a:α)(r:List α):dC (a::r) 0=aa a:=by simp[dC,eX]
theorem at1{α:Type}(a b:α)(r:List α):dC (a::b::r) 1=aa b:=by unfold dC eX;rw[aF (by decide),aF (by simp only[dq];omega)];rfl
theorem wY(ac:List Str)(ai:List Ar):aL (aX ac ai) (.int 0)=.ok (jW ac):=by unfold aX aL;simp[at0]
theorem G0(ac:List Str)(ai:List Ar):aL (aX ac ai) (.int 1)=.ok (pA ai):=by unfold aX aL;simp[at1]
theorem NE{ac asked:List Str}(h:∀x∈asked,x∈ac):pb [.d (jW ac),.d (aj asked)]=.ok (.d .non):=by
 have key:∀(xs:List Str) (o:Option W),(∀x∈xs,x∈ac)->∃o',dB (.n 2) (a9 (cB (m2 eB (mV 2) (mV 0))) m9 bf) (xs.map D.str) [aa (.d (jW ac)),aa (.d (aj asked)),o]=.ok (.nx [aa (.d (jW ac)),aa (.d (aj asked)),o']):=by
  intro xs
  induction xs with
  |nil=>exactλo _=>⟨o,rfl⟩
  |cons x r ih=>
   intro o hx;obtain⟨o',e⟩:=ih (aa (.d (.str x))) λy hy=>hx y (cy _ hy);refine⟨o',?_⟩;rw[b9,dB];have:x∈ac:=hx x b8;simp only[jW,LH,BU,BV,a9,cB,m2,mV,bf,aE,iL,gY,RI,this,decide_true,yj,mG,lX,fX];exact e
 obtain⟨o',e⟩:=key asked ae h;unfold aj at e;unfold pb Ef;rw[i4];simp only[eM,bM,mV,aj,B5,JU,BQ,u5,sH,iL,gY,aE,Pd,e,Q4]
def gV(ai:List Ar)(x:Str):List Str:=(ai.filter λp=>decide (p.2=x)).map (·.1)
theorem F1{ac:List Str}{ai:List Ar}{x:Str}(hx:x∈ac)(hl:ai.length<=64):kP [.d (aX ac ai),.d (.str x)]=.ok (.d (.tup ((gV ai x).map D.str))):=by
 have hr:=NE (ac:=ac) (asked:=[x]) (by simpa using hx);unfold kP DT;rw[i4];have hc:dG (.t [1,2]) (cB (m2 fw (mV 2) (mV 0))) (mV 1) [aa (.d (.str x)),ae,ae] (ai.map pairD)=.ok ((ai.filter λp=>decide (p.2=x)).map λp=>D.str p.1):=gJ pairD (λp=>D.str p.1) (λp=>decide (p.2=x)) ai λp _=>⟨[aa (.d (.str x)),aa (.d (.str p.1)),aa (.d (.str p.2))],rfl,by simp only[cB,m2,mV,iL,gY,aE,wf,mG],λ_=>by simp only[mV,iL,gY]⟩
 have hg:ba (([D.str x]:List D).length<=16777216) (Rs.ok (D.lst [D.str x]))=.ok (.lst [.str x]):=aK (by simp);unfold aj at hr;have hp:jG [aa 1,ae,ae] [aa (W.d (aX ac ai)),aa (W.d (D.str x))]=[aa (.d (.str x)),ae,ae]:=rfl;simp only[dq,nu,iO,ED]at hg;simp only[b9,u8,aA,pH,bp,lC,cO,wD,m2,mV,B5,BQ,u5,sH,gY,mC,aE,wY,mN,iI,iL,cF,dq,nu,iO,ED,bG]at hr ⊢;rw[hr];simp only[aE,v7,bX,bM,m2,mV,mC,gY,G0,pA,AH,hp];rw[aK (by rw[be];omega),hc];simp only[aE,Mu,QJ,gV,eS];rfl
def ready(ai:List Ar)(told:List Str)(x:Str):Bool:=!decide (x∈told)&&(gV ai x).all λy=>decide (y∈told)
def nxt(ac:List Str)(ai:List Ar)(told:List Str):Option Str:=ac.find? (ready ai told)
def nR:Option Str->D
 |some x=>.str x
 |none=>.non
theorem Qt(x:Str):nR (aa x)=.str x:=rfl
theorem Qs:nR ae=.non:=rfl
theorem D8{ai:List Ar}{x:Str}(hl:ai.length<=64):(gV ai x).length<=64:=by unfold gV;rw[be];exact d9 (qi _ _) hl
theorem Ni{ac:List Str}{ai:List Ar}(hl:ai.length<=64)(told:List Str):nW [.d (aX ac ai),.d (aj told)]=.ok (.d (nR (nxt ac ai told))):=by
 unfold nW Hz;rw[i4];have step:∀x∈ac,∀o:Option Str,∃e1,(Tg.n 2).put (D.str x) [aa (.d (aX ac ai)),aa (.d (aj told)),o.map λy=>W.d (.str y)]=.ok e1 /\
  (a9 (lu (cB (m2 eB (mV 2) (mV 1))) (cB (mN nE [(bX [aa 1,ae] (bM (bp kP [(wD (mV 0)),(wD (mV 2))])) (.n 1) cU (m2 dA (mV 1) (mV 0)))]))) (bG (wD (mV 2))) bf) e1 =
   .ok (if ready ai told x=true then .rt (.d (.str x))else .nx [aa (.d (aX ac ai)),aa (.d (aj told)),(aa x).map λy=>W.d (.str y)]):=by
  intro x hx o;refine⟨[aa (.d (aX ac ai)),aa (.d (aj told)),aa (.d (.str x))],rfl,?_⟩;have hc:dG (.n 1) cU (m2 dA (mV 1) (mV 0)) [aa (.d (aj told)),ae] ((gV ai x).map D.str)=.ok (((gV ai x).filter λ_=>true).map λy=>D.bl (decide (y∈told))):=
   gJ D.str (λy=>D.bl (decide (y∈told))) (λ_=>true) _ λy _=>⟨[aa (.d (aj told)),aa (.d (.str y))],rfl,rfl,λ_=>by simp only[m2,mV,aj,iL,gY,aE,tU]⟩
  have hf:((gV ai x).filter λ_=>true)=gV ai x:=lU.mpr λ_ _=>rfl;rw[hf]at hc;have hp:jG [aa 1,ae] [aa (W.d (aX ac ai)),aa (W.d (aj told)),aa (W.d (D.str x))]=[aa (.d (aj told)),ae]:=rfl;have hn:eB (.str x) (aj told)=.ok (.bl (!decide (x∈told))):=qI told x;simp only[a9,lu,cB,m2,mV,iL,gY,aE,hn,mG,mN,iI,bG,wD,bf];unfold ready;cases hm:decide (x∈told)with
  |true=>rfl
  |false=>
   simp only[Bool.not_false,bX,bM,bp,lC,cO,wD,mV,gY,aE,iL,F1 hx hl,v7,AH,hp,gi];rw[aK (by rw[be];have:=D8 (x:=x) hl;omega),hc];simp only[aE,vX,vN,kL,sJ,mG,B6];have:(List.all (gV ai x) (id ∘ λy=>decide (y∈told)))=(gV ai x).all λy=>decide (y∈told):=rfl;rw[this];cases(gV ai x).all λy=>decide (y∈told)<;>rfl
 have hf:=IV (e:=[]) (w:=.rt (.d .non)) D.str (λo=>[aa (.d (aX ac ai)),aa (.d (aj told)),o.map λy=>W.d (.str y)]) (ready ai told) (λx=>.rt (.d (.str x))) ac ae step λx _ _=>⟨_,rfl⟩;simp only[Option.map_none]at hf;simp only[aA,eM,bM,m2,mV,B5,JU,BQ,u5,sH,gY,mC,aE,wY,jW,AH,hf,bG,wD];unfold nxt;cases ac.find? (ready ai told)with
 |none=>rfl
 |some x=>rfl
theorem Bd{ai:List Ar}{x y:Str}:y∈gV ai x↔(y,x)∈ai:=by
 unfold gV;constructor
 ·intro h;obtain⟨p,hp,rfl⟩:=cL.mp h;obtain⟨h1,h2⟩:=fo.mp hp;have:p.2=x:=by simpa using h2
  rw[<- this];exact h1
 ·intro h;exact cL.mpr ⟨(y,x),fo.mpr ⟨h,by simp⟩,rfl⟩
theorem D4{α:Type}(f:α->Int):∀(l:List α),l≠[]->∃x∈l,∀y∈l,f x<=f y
 |[],h=>absurd rfl h
 |[a],_=>⟨a,by simp,by simp⟩
 |a::b::r,_=>by
  obtain⟨x,hx,hm⟩:=D4 f (b::r) (by simp);by_cases h:f a<=f x
  ·refine⟨a,b8,λy hy=>?_⟩;rcases bn.mp hy with rfl|hy
   ·exact Int.le_refl _
   ·exact Int.le_trans h (hm y hy)
  ·refine⟨x,cy _ hx,λy hy=>?_⟩;rcases bn.mp hy with rfl|hy
   ·omega
   ·exact hm y hy
def ord(ac:List Str)(ai:List Ar):Nat->List Str
 |0=>[]
 | k+1=>match nxt ac ai (ord ac ai k)with
  |some x=>ord ac ai k++[x]
  |none=>ord ac ai k
theorem uF{α:Type}[DecidableEq α]:∀{l m:List α},l.Nodup->(∀x∈l,x∈m)->l.length<=m.length
 |[],_,_,_=>ft _
 |a::l,m,nd,h=>by
  have nd:=jC.mp nd;have:l.length<=(m.erase a).length:=uF nd.2 λx hx=>(JS (λz:x=a=>nd.1 (z ▸ hx))).mpr (h x (cy _ hx));have hm:=h a b8;rw[JK hm]at this;have:0<m.length:=xW hm;rw[dq];omega
theorem HA(o:Option Str):mW (nR o)=true:=by cases o<;>simp[nR,mW]
theorem zi:∀xs ys:List Str,d3 (xs.map D.str) (ys.map D.str)=decide (xs=ys)
 |[],[]=>rfl
 |[],_::_=>rfl
 |_::_,[]=>rfl
 |x::xs,y::ys=>by
  rw[b9,b9,d3,pe,zi xs ys];by_cases h1:x=y<;>by_cases h2:xs=ys<;>simp[h1,h2]
theorem Gr(xs ys:List Str):dQ (aj xs) (aj ys)=.ok (.bl (!decide (xs=ys))):=by unfold dQ aj;rw[aK (by simp),bz,zi]
end Mr
namespace My
def wl:List Nat:=[101,116,97,111,105,110,115,104,114,100,108,117,99,109,102,119,121,112,118,98,103,107,113,106,120,122]
def fO(n:Int):Nat:=wl.getD (n%26).toNat 0
def fW(c:Int):List Nat:=(bx 8).map λ(k:Nat)=>fO (c/(4+3*(k:Int)))
def gz(c:Int)(n:Nat):List Nat:=(bx n).map λ(k:Nat)=>fO (c/32+5*(k:Int)+(k:Int)*(k:Int))
def words(c:Int)(many:Nat):List (List Nat):=
 if c%4<2 then
  if c%4=0 then(bx many).map λ(k:Nat)=>(fW c).take (k+1)
  else(bx many).map λ(k:Nat)=>(fW c).drop (7-k)
 else
  (bx many).map λ(k:Nat)=>(gz c (c/4%8).toNat).take (c/256%(c/4%8+1)).toNat++[fO (c/7+5*(k:Int))]++(gz c (c/4%8).toNat).drop (c/256%(c/4%8+1)).toNat
def eA(x:List Nat):Prop:=1<=x.length/\x.length<=8/\∀c∈x,97<=c/\c<=122
theorem Bo:∀c∈wl,97<=c/\c<=122:=by decide
theorem PQ:wl.Nodup:=by decide
theorem vz:wl.length=26:=by decide
theorem zr(n:Int):fO n∈wl:=by
 unfold fO;have h1:=iu n (b:=26) (by decide);have h2:=io n (b:=26) (by decide);have h3:(n%26).toNat<wl.length:=by rw[vz];omega
 rw[fk,fm h3];exact x6 h3
theorem Rp{n m:Int}(h:fO n=fO m):n%26=m%26:=by
 unfold fO at h;have h1:=iu n (b:=26) (by decide);have h2:=io n (b:=26) (by decide);have h3:(n%26).toNat<wl.length:=by rw[vz];omega
 have h1':=iu m (b:=26) (by decide);have h2':=io m (b:=26) (by decide);have h3':(m%26).toNat<wl.length:=by rw[vz];omega
 rw[fk,fm h3,fk,fm h3']at h;have:=(qk PQ).mp h;omega
theorem lH(c:Int):(fW c).length=8:=by simp[fW]
theorem rP(c:Int)(n:Nat):(gz c n).length=n:=by simp[gz]
theorem HS(c:Int):∀x∈fW c,97<=x/\x<=122:=λx hx=>by
 obtain⟨k,_,rfl⟩:=cL.mp hx;exact Bo _ (zr _)
theorem FM(c:Int)(n:Nat):∀x∈gz c n,97<=x/\x<=122:=λx hx=>by
 obtain⟨k,_,rfl⟩:=cL.mp hx;exact Bo _ (zr _)
theorem lG(c:Int)(many:Nat):(words c many).length=many:=by unfold words;split<;>(try split)<;>simp
theorem AG{α:Type}(f:Nat->α)(n:Nat)(h:∀i j,i<n->j<n->f i=f j->i=j):((bx n).map f).Nodup:=by
 induction n with
 |zero=>simp
 |succ n ih=>
  rw[List.range_succ,lW,List.map_singleton];rw[B0];refine⟨ih λi j hi hj=>h i j (by omega) (by omega),by simp,λa ha b hb=>?_⟩;obtain⟨i,hi,rfl⟩:=cL.mp ha;have hi:=fq.mp hi;have hb:b=f n:=by simpa using hb
  subst hb;intro e;have:=h i n (by omega) (by omega) e;omega
theorem uL(c:Int)(many:Nat)(hm:many<=8):(words c many).Nodup:=by
 unfold words;split
 ·split
  ·refine AG _ _ λi j hi hj e=>?_;have:=congrArg yb e;rw[k8,k8,lH]at this;omega
  ·refine AG _ _ λi j hi hj e=>?_;have:=congrArg yb e;rw[iM,iM,lH]at this;omega
 ·refine AG _ _ λi j hi hj e=>?_;rw[sF,sF]at e;have e1:=List.append_cancel_left e;have e2:=List.append_cancel_right e1;have e3:fO (c/7+5*(i:Int))=fO (c/7+5*(j:Int)):=by simpa using e2
  have:=Rp e3;omega
theorem fh(c:Int)(many:Nat)(hm:many<=8):∀x∈words c many,eA x:=by
 unfold words;split
 ·split
  ·intro x hx;obtain⟨k,hk,rfl⟩:=cL.mp hx;have hk:=fq.mp hk;refine⟨by rw[k8,lH];omega,by rw[k8,lH];omega,λy hy=>HS c y (JT hy)⟩
  ·intro x hx;obtain⟨k,hk,rfl⟩:=cL.mp hx;have hk:=fq.mp hk;refine⟨by rw[iM,lH];omega,by rw[iM,lH];omega,λy hy=>HS c y (BJ hy)⟩
 ·intro x hx;obtain⟨k,hk,rfl⟩:=cL.mp hx;have h1:=iu (c/4) (b:=8) (by decide);have h2:=io (c/4) (b:=8) (by decide);have h3:=iu (c/256) (b:=c/4%8+1) (by omega);have h4:=io (c/256) (b:=c/4%8+1) (by omega);have hl:((gz c (c/4%8).toNat).take (c/256%(c/4%8+1)).toNat++[fO (c/7+5*(k:Int))]++(gz c (c/4%8).toNat).drop (c/256%(c/4%8+1)).toNat).length=(c/4%8).toNat+1:=by
   rw[d6,d6,k8,iM,rP];simp;omega
  refine⟨by rw[hl];omega,by rw[hl];omega,λy hy=>?_⟩;rcases gF.mp hy with hy|hy
  ·rcases gF.mp hy with hy|hy
   ·exact FM c _ y (JT hy)
   ·have:y=fO (c/7+5*(k:Int)):=by simpa using hy
    subst this;exact Bo _ (zr _)
  ·exact FM c _ y (BJ hy)
end My
namespace Mi
open PySem
def S'(l:List Nat):Str:=⟨l.toArray⟩
theorem xi(l:List Nat):(S' l).cps.toList=l:=rfl
theorem jM(l:List Nat):(S' l).length=l.length:=by simp[S',qt]
theorem Nf{x y:Str}(h:x.cps.toList=y.cps.toList):x=y:=by obtain⟨a⟩:=x;obtain⟨b⟩:=y;have h:a.toList=b.toList:=h;rw[vf.mp h]
theorem Oc{l m:List Nat}(h:S' l=S' m):l=m:=by have:=congrArg (λx:Str=>x.cps.toList) h;simpa [S']using this
theorem R3(l m:List Nat):S' l++S' m=S' (l++m):=by show(⟨l.toArray++m.toArray⟩ : Str)=⟨(l++m).toArray⟩;simp
theorem EZ:∀l:List Str,(kB "" l).cps.toList=l.flatMap (·.cps.toList)
 |[]=>by simp[kB,e6]
 |[x]=>by simp[kB]
 |x::y::r=>by
  have ih:=EZ (y::r);have e:kB "" (x::y::r)=x ++ "" ++ kB "" (y::r):=rfl;have e2:("" : Str).cps.toList=[]:=by decide +kernel
  rw[e];show((x.cps++("" : Str).cps)++(kB "" (y::r)).cps).toList=_;rw[yt,yt,e2,ih];simp
theorem join_ones(l:List Nat):kB "" (l.map λx=>S' [x])=S' l:=by
 refine Nf ?_;rw[EZ,xi]
 induction l with
 |nil=>rfl
 |cons a r ih=>rw[b9,ow,ih];rfl
theorem yI{α:Type}(xs:List α)(k:Nat):jZ xs ae (aa (k:Int))=xs.take k:=by
 show(xs.drop 0).take ((if(k:Int)<0 then((k:Int)+(xs.length:Int)).toNat else min (k:Int).toNat xs.length)-0)=_;rw[aG (by omega),sI,Nat.sub_zero,ir];rcases vb k xs.length with h|h
 ·rw[qo h]
 ·rw[qm h,sB (bu _),sB h]
theorem Qm{α:Type}(xs:List α)(k:Nat):jZ xs (aa (k:Int)) ae=xs.drop k:=by
 show(xs.drop (if(k:Int)<0 then((k:Int)+(xs.length:Int)).toNat else min (k:Int).toNat xs.length)).take (xs.length-(if(k:Int)<0 then((k:Int)+(xs.length:Int)).toNat else min (k:Int).toNat xs.length))=_;rw[aG (by omega),ir];rcases vb k xs.length with h|h
 ·rw[qo h];exact sB (by rw[iM];exact bu _)
 ·rw[qm h,uZ (bu _),uZ h];simp
theorem Jd(l:List Nat)(k:Nat):nS (S' l) ae (aa (k:Int))=S' (l.take k):=by unfold nS;rw[xi,yI];rfl
theorem FS(l:List Nat)(k:Nat):nS (S' l) (aa (k:Int)) ae=S' (l.drop k):=by unfold nS;rw[xi,Qm];rfl
def cY:Str := "etaoinshrdlucmfwypvbgkqjxz"
theorem Oz:cY.cps.toList=My.wl:=by decide +kernel
theorem Qz:cY.length<=16777216:=by decide +kernel
theorem zZ{α:Type}{xs:List α}{i:Int}(h0:0<=i)(h1:i<xs.length)(d:α):dC xs i=aa (xs.getD i.toNat d):=by
 unfold dC eX;rw[aF h0,aF h1];have h3:i.toNat<xs.length:=by omega
 show xs[i.toNat]? = _;rw[fk,fm h3];rfl
theorem O8(n:Int):dC cY.cps.toList (n%26)=aa (My.fO n):=by rw[Oz];have h1:=iu n (b:=26) (by decide);have h2:=io n (b:=26) (by decide);exact zZ h1 (by rw[My.vz];omega) 0
theorem xm{cs:List Int}{i:Int}(h0:0<=i)(h1:i<cs.length):aL (.lst (cs.map D.int)) (.int i)=.ok (.int (cs.getD i.toNat 0)):=by
 show dh (dC (cs.map D.int) i)=_;rw[zZ h0 (by rw[be];exact h1) (.int 0),kL];have h3:i.toNat<cs.length:=by omega
 rw[fk,eE,fk,fm h3];rfl
theorem tW{cs:List Str}{i:Int}(h0:0<=i)(h1:i<cs.length):aL (.lst (cs.map D.str)) (.int i)=.ok (.str (cs.getD i.toNat e6)):=by
 show dh (dC (cs.map D.str) i)=_;rw[zZ h0 (by rw[be];exact h1) (.str e6),kL];have h3:i.toNat<cs.length:=by omega
 rw[fk,eE,fk,fm h3];rfl
theorem rM(n:Nat):dJ 0 (n:Int)=(bx n).map λ(k:Nat)=>D.int (k:Int):=by unfold dJ;rw[show((n:Int)-0).toNat=n by omega];exact BO λk _=>by rw[Int.zero_add]
theorem mD(n:Nat):(dJ 0 (n:Int)).length=n:=by rw[rM];simp
theorem vR{n i:Nat}{x:D}(h:(dJ 0 (n:Int))[i]? = aa x):i<n/\x=.int (i:Int):=by
 rw[rM,eE]at h;cases hr:(bx n)[i]? with
 |none=>rw[hr]at h;cases h
 |some k=>
  rw[hr]at h;obtain⟨h1,h2⟩:=dm.mp hr;rw[BW]at h2;subst h2;rw[sE]at h1;exact⟨h1,(gZ h).symm⟩
theorem rm{tg:Tg}{a:E}{e:Mi.Env}(g:Nat->D)(n:Nat)(h:∀k<n,∃e1,tg.put (.int (k:Int)) e=.ok e1/\a e1=.ok (g k)):dG tg cU a e (dJ 0 (n:Int))=.ok ((bx n).map g):=by
 rw[rM,gJ (λ(k:Nat)=>D.int (k:Int)) g (λ_=>true) (bx n) λk hk=>?_]
 ·rw[lU.mpr λ_ _=>rfl]
 ·obtain⟨e1,h1,h2⟩:=h k (fq.mp hk);exact⟨e1,h1,rfl,λ_=>h2⟩
theorem mL{i:Int}(h0:-1000<=i)(h1:i<=1000):okR i:=by unfold okR;omega
theorem kR{i j:Int}(h0:-(2 ^ 64)<i)(h1:i<2 ^ 64):mM i j:=.inl ⟨h0,h1⟩
theorem wu{i j:Int}(h0:-(2 ^ 64)<j)(h1:j<2 ^ 64):mM i j:=.inr ⟨h0,h1⟩
theorem jY{j:Int}(h0:0<j)(h1:j<2 ^ 64):mH j:=by
 refine⟨h0,?_⟩;have h2:j.natAbs<2 ^ 64:=by omega
 have h3:j.natAbs≠0:=by omega
 have:=(Nat.log2_lt h3).mpr h2;omega
end Mi
namespace Mr
open PySem Mi
open My (words fW gz fO lH rP lG uL)
theorem zC(n:Int):aL (.str cY) (.int (n%26))=.ok (.str (S' [fO n])):=by show ba _ _=_;rw[aK Qz,O8];rfl
theorem Gh(l:List Nat)(h:l.length<=8):vS (.str "") (.lst (l.map λx=>D.str (S' [x])))=.ok (.str (S' l)):=by
 show(dh (kJ (l.map λx=>D.str (S' [x])))).bind _=_;have e:l.map (λx=>D.str (S' [x]))=(l.map λx=>S' [x]).map D.str:=by rw[eS];rfl
 rw[e,A1,kL,aE,aK ?_,join_ones];have h1:((l.map λx=>S' [x]).map (·.length)).sum=l.length:=by
  clear h e
  induction l with
  |nil=>rfl
  |cons a r ih=>rw[b9,b9,List.sum_cons,ih,jM,dq];simp;omega
 have h2:("" : Str).length=0:=by decide +kernel
 rw[h1,h2];omega
theorem st1(c:Int)(k:Nat)(d32:mH 32)(m5:mM 5 (k:Int))(mk:mM (k:Int) k):(m2 bv (m2 bv (m2 cJ (mV 1) (mC (.int 32))) (m2 cv (mC (.int 5)) (mV 2))) (m2 cv (mV 2) (mV 2))) [aa (.d (.str cY)),aa (.d (.int c)),aa (.d (.int k))]=.ok (.int (c/32+5*(k:Int)+(k:Int)*(k:Int))):=(aC (aC (aC rfl rfl (aK d32)) (aC rfl rfl (aK m5)) rfl) (aC rfl rfl (aK mk)) rfl)
theorem st2(c:Int)(e:Mi.Env)(a:E)(h:a e=.ok (.int c))(h0:e[0]? = aa (aa (.d (.str cY)))):m2 aL (mV 0) (m2 bq a (mC (.int 26))) e=.ok (.str (S' [fO c])):=aC (x:=.str cY) (by unfold mV;rw[h0]) (aC h rfl (aK (by decide))) (zC _)
theorem Rt{k n:Nat}(h:k<n)(h8:n<8):mM (k:Int) k:=kR (by omega) (by omega)
theorem size_of(c:Int):∃n:Nat,c/4%8=(n:Int)/\n<8:=by have z1:=iu (c/4) (b:=8) (by decide);have z2:=io (c/4) (b:=8) (by decide);exact⟨(c/4%8).toNat,by omega,by omega⟩
theorem at_of(c:Int)(n:Nat):∃t:Nat,c/256%((n:Int)+1)=(t:Int)/\t<=n:=by have z3:=iu (c/256) (b:=(n:Int)+1) (by omega);have z4:=io (c/256) (b:=(n:Int)+1) (by omega);exact⟨(c/256%((n:Int)+1)).toNat,by omega,by omega⟩
theorem LU(c:Int)(m:Nat)(hm:m<=8):sY [.d (.int c),.d (.int (m:Int))]=.ok (.d (aj ((words c m).map S'))):=by
 unfold sY Dt;rw[pE];have hr8:okR 8:=mL (by decide) (by decide);have hrm:okR (m:Int):=mL (by omega) (by omega);have hl0:(kA "etaoinshrdlucmfwypvbgkqjxz")=cY:=rfl;have g4:∀r:Rs D,ba ((0:Int)<4) r=r:=λr=>aK (by decide);have g26:∀r:Rs D,ba ((0:Int)<26) r=r:=λr=>aK (by decide);have g8:∀r:Rs D,ba ((0:Int)<8) r=r:=λr=>aK (by decide);by_cases c1:c%4<2
 ·have K4:dG (.n 2) cU (m2 aL (mV 0) (m2 bq (m2 cJ (mV 1) (m2 bv (mC (.int 4)) (m2 cv (mC (.int 3)) (mV 2)))) (mC (.int 26)))) [aa (.d (.str cY)),aa (.d (.int c)),ae] (dJ 0 8)=.ok ((fW c).map λx=>D.str (S' [x])):=by
   have:=rm (tg:=.n 2) (a:=m2 aL (mV 0) (m2 bq (m2 cJ (mV 1) (m2 bv (mC (.int 4)) (m2 cv (mC (.int 3)) (mV 2)))) (mC (.int 26)))) (e:=[aa (.d (.str cY)),aa (.d (.int c)),ae]) (λk=>D.str (S' [fO (c/(4+3*(k:Int)))])) 8 λk hk=>⟨[aa (.d (.str cY)),aa (.d (.int c)),aa (.d (.int k))],rfl,by
    simp only[m2,mV,gY,iL,mC,aE,wM];rw[aK (kR (by decide) (by decide))];simp only[aE,pB,div_ii];rw[aK (jY (by omega) (by omega))];simp only[aE,kC,g26,zC]⟩
   rw[show((8:Nat):Int)=8 from rfl]at this;rw[this];unfold fW;rw[eS];rfl
  have hp:jG [aa 2,aa 0,ae] [aa (.d (.int c)),aa (.d (.int (m:Int))),aa (.d (.str cY)),ae,ae,ae,ae]=[aa (.d (.str cY)),aa (.d (.int c)),ae]:=rfl;have hj:=Gh (fW c) (by rw[lH];omega);have hw8:(dJ 0 8).length<=16777216:=by rw[show(8:Int)=((8:Nat):Int)from rfl,mD];omega
  have hwm:(dJ 0 (m:Int)).length<=16777216:=by rw[mD];omega
  by_cases c2:c%4=0
  ·have hc:dG (.n 1) cU (eO fL (mV 0) ae (aa (m2 bv (mV 1) (mC (.int 1))))) [aa (.d (.str (S' (fW c)))),ae] (dJ 0 (m:Int))=.ok ((words c m).map λl=>D.str (S' l)):=by
    rw[rm (λk=>D.str (S' ((fW c).take (k+1)))) m λk hk=>⟨[aa (.d (.str (S' (fW c)))),aa (.d (.int k))],rfl,by
     simp only[eO,mV,gY,kM,m2,iL,mC,aE,pB,pY,yS];rw[aK (by rw[jM,lH];omega),show(k:Int)+1=((k+1:Nat):Int)by omega,Jd]⟩]
    unfold words;rw[aF c1,aF c2,eS];rfl
   have hp2:∀z,jG [aa 3,ae] [aa (.d (.int c)),aa (.d (.int (m:Int))),aa (.d (.str cY)),aa z,ae,ae,ae]=[aa z,ae]:=λ_=>rfl;have hmod:cB (m2 fG (m2 bq (mV 0) (mC (.int 4))) (mC (.int 2))) [aa (.d (.int c)),aa (.d (.int (m:Int))),aa (.d (.str cY)),ae,ae,ae,ae]=.ok true:=cf ((aC (aC rfl rfl (g4 _)) rfl rfl).trans (by rw[vA,cj c1]))
   have CO:cB (m2 fw (m2 bq (mV 0) (mC (.int 4))) (mC (.int 0))) [aa (.d (.int c)),aa (.d (.int (m:Int))),aa (.d (.str cY)),aa (.d (.str (S' (fW c)))),ae,ae,ae]=.ok true:=cf ((aC (aC rfl rfl (g4 _)) rfl rfl).trans (by rw[AM,cj c2]))
   show Rs.bind _ my=_;rw[aI (e':=[aa (.d (.int c)),aa (.d (.int (m:Int))),aa (.d (.str cY)),ae,ae,ae,ae]) (bZ rfl)];refine(congrArg (λr=>Rs.bind r my) (lO (w:=.d (aj ((words c m).map S'))) ?_)).trans rfl;rw[i7 hmod,aI (e':=[aa (.d (.int c)),aa (.d (.int (m:Int))),aa (.d (.str cY)),aa (.d (.str (S' (fW c)))),ae,ae,ae]) (bZ (aC rfl (fF (iz rfl hr8) hw8 K4) hj))];rw[lO ((i7 CO).trans (gr (dv (fF (iz rfl hrm) hwm hc))))];rw[aj,eS];rfl
  ·have hc:dG (.n 1) cU (eO fL (mV 0) (aa (m2 mJ (mC (.int 7)) (mV 1))) ae) [aa (.d (.str (S' (fW c)))),ae] (dJ 0 (m:Int))=.ok ((words c m).map λl=>D.str (S' l)):=by
    rw[rm (λk=>D.str (S' ((fW c).drop (7-k)))) m λk hk=>⟨[aa (.d (.str (S' (fW c)))),aa (.d (.int k))],rfl,by
     simp only[eO,mV,gY,kM,m2,mC,iL,aE,QR,pY,yS];rw[aK (by rw[jM,lH];omega),show(7:Int)-(k:Int)=((7-k:Nat):Int)by omega,FS]⟩]
    unfold words;rw[aF c1,aG c2,eS];rfl
   have hp2:∀z,jG [aa 3,ae] [aa (.d (.int c)),aa (.d (.int (m:Int))),aa (.d (.str cY)),aa z,ae,ae,ae]=[aa z,ae]:=λ_=>rfl;have hmod:cB (m2 fG (m2 bq (mV 0) (mC (.int 4))) (mC (.int 2))) [aa (.d (.int c)),aa (.d (.int (m:Int))),aa (.d (.str cY)),ae,ae,ae,ae]=.ok true:=cf ((aC (aC rfl rfl (g4 _)) rfl rfl).trans (by rw[vA,cj c1]))
   have CO:cB (m2 fw (m2 bq (mV 0) (mC (.int 4))) (mC (.int 0))) [aa (.d (.int c)),aa (.d (.int (m:Int))),aa (.d (.str cY)),aa (.d (.str (S' (fW c)))),ae,ae,ae]=.ok false:=cf ((aC (aC rfl rfl (g4 _)) rfl rfl).trans (by rw[AM,c6 c2]))
   show Rs.bind _ my=_;rw[aI (e':=[aa (.d (.int c)),aa (.d (.int (m:Int))),aa (.d (.str cY)),ae,ae,ae,ae]) (bZ rfl)];refine(congrArg (λr=>Rs.bind r my) (lO (w:=.d (aj ((words c m).map S'))) ?_)).trans rfl;rw[i7 hmod,aI (e':=[aa (.d (.int c)),aa (.d (.int (m:Int))),aa (.d (.str cY)),aa (.d (.str (S' (fW c)))),ae,ae,ae]) (bZ (aC rfl (fF (iz rfl hr8) hw8 K4) hj))];rw[aI (cS CO),gr (dv (fF (iz rfl hrm) hwm hc))];rw[aj,eS];rfl
 ·obtain⟨n,hn,hn8⟩:=size_of c;obtain⟨t,ht,ht8⟩:=at_of c n;have hrn:okR (n:Int):=mL (by omega) (by omega);have d4:mH 4:=jY (by decide) (by decide);have d32:mH 32:=jY (by decide) (by decide);have Ui:mH 256:=jY (by decide) (by decide);have d7:mH 7:=jY (by decide) (by decide);have Uj:dG (.n 2) cU (m2 aL (mV 0) (m2 bq (m2 bv (m2 bv (m2 cJ (mV 1) (mC (.int 32))) (m2 cv (mC (.int 5)) (mV 2))) (m2 cv (mV 2) (mV 2))) (mC (.int 26)))) [aa (.d (.str cY)),aa (.d (.int c)),ae] (dJ 0 (n:Int))=.ok ((gz c n).map λx=>D.str (S' [x])):=by
   rw[rm (λk=>D.str (S' [fO (c/32+5*(k:Int)+(k:Int)*(k:Int))])) n λk hk=>⟨[aa (.d (.str cY)),aa (.d (.int c)),aa (.d (.int k))],rfl,by
    exact st2 _ _ _ (st1 c k d32 (kR (by decide) (by decide)) (Rt hk hn8)) rfl⟩]
   unfold gz;rw[eS];rfl
  have hp:jG [aa 2,aa 0,ae] [aa (.d (.int c)),aa (.d (.int (m:Int))),aa (.d (.str cY)),ae,aa (.d (.int (n:Int))),ae,ae]=[aa (.d (.str cY)),aa (.d (.int c)),ae]:=rfl;have hj:=Gh (gz c n) (by rw[rP];omega);have hwn:(dJ 0 (n:Int)).length<=16777216:=by rw[mD];omega
  have hwm:(dJ 0 (m:Int)).length<=16777216:=by rw[mD];omega
  have hc:dG (.n 4) cU (m2 bv (m2 bv (eO fL (mV 0) ae (aa (mV 2))) (m2 aL (mV 1) (m2 bq (m2 bv (m2 cJ (mV 3) (mC (.int 7))) (m2 cv (mC (.int 5)) (mV 4))) (mC (.int 26))))) (eO fL (mV 0) (aa (mV 2)) ae))
   [aa (.d (.str (S' (gz c n)))),aa (.d (.str cY)),aa (.d (.int (t:Int))),aa (.d (.int c)),ae] (dJ 0 (m:Int))=.ok ((words c m).map λl=>D.str (S' l)):=by
   rw[rm (λk=>D.str (S' ((gz c n).take t++[fO (c/7+5*(k:Int))]++(gz c n).drop t))) m λk hk=>⟨[aa (.d (.str (S' (gz c n)))),aa (.d (.str cY)),aa (.d (.int (t:Int))),aa (.d (.int c)),aa (.d (.int k))],rfl,by
    have gS:∀r:Rs D,ba ((S' (gz c n)).length<=16777216) r=r:=λr=>aK (by rw[jM,rP];omega);have gM:∀r:Rs D,ba (mM 5 (k:Int)) r=r:=λr=>aK (kR (by decide) (by decide));simp only[m2,eO,mV,gY,kM,iL,aE,pY,yS,Jd,gS,mC,div_ii,aK d7,wM,gM,pB,kC,g26,zC,IM,FS];rw[aK (by rw[jM,jM,k8,rP];simp;omega)];simp only[R3,aE,IM];rw[aK (by rw[jM,jM,d6,k8,iM,rP];simp;omega)]⟩]
   unfold words;rw[aG c1,eS,hn,ht];rfl
  have hmod:cB (m2 fG (m2 bq (mV 0) (mC (.int 4))) (mC (.int 2))) [aa (.d (.int c)),aa (.d (.int (m:Int))),aa (.d (.str cY)),ae,ae,ae,ae]=.ok false:=cf ((aC (aC rfl rfl (g4 _)) rfl rfl).trans (by rw[vA,c6 c1]))
  show Rs.bind _ my=_;rw[aI (e':=[aa (.d (.int c)),aa (.d (.int (m:Int))),aa (.d (.str cY)),ae,ae,ae,ae]) (bZ rfl)];rw[aI (cS hmod)];rw[aI (e':=[aa (.d (.int c)),aa (.d (.int (m:Int))),aa (.d (.str cY)),ae,aa (.d (.int (n:Int))),ae,ae]) (bZ (d:=.int (n:Int)) ((aC (aC rfl rfl (aK d4)) rfl (g8 _)).trans (by rw[hn])))];rw[aI (e':=[aa (.d (.int c)),aa (.d (.int (m:Int))),aa (.d (.str cY)),ae,aa (.d (.int (n:Int))),aa (.d (.str (S' (gz c n)))),ae]) (bZ (aC rfl (fF (iz rfl hrn) hwn Uj) hj))];rw[aI (e':=[aa (.d (.int c)),aa (.d (.int (m:Int))),aa (.d (.str cY)),ae,aa (.d (.int (n:Int))),aa (.d (.str (S' (gz c n)))),aa (.d (.int (t:Int)))]) (bZ (d:=.int (t:Int)) ((aC (aC rfl rfl (aK Ui)) (aC rfl rfl rfl) (aK (by omega))).trans (by rw[ht])))];rw[gr (dv (fF (iz rfl hrm) hwm hc))];simp only[aE,Od,aj,eS];rfl
end Mr
namespace Mr
open PySem Mi
open My (words lG uL eA)
theorem vG(n:Nat)(h:n<=8):okR (n:Int):=mL (by omega) (by omega)
theorem Sm{ls:List Int}{z:Int}(h0:0<=z)(h1:z<ls.length)(hl:ls.length<=100):vY (ls.map D.int) z=.ok (.int (ls.getD z.toNat 0),(ls.eraseIdx z.toNat).map D.int):=by
 have h3:z.toNat<ls.length:=by omega
 unfold vY;rw[aK (by omega),show eX (ls.map D.int).length z=aa z.toNat by
  unfold eX;rw[aF h0,aF (by rw[be];exact h1)],kL,aE,eE,fm h3,fk,fm h3]
 show Rs.ok (D.int ls[z.toNat],(ls.map D.int).eraseIdx z.toNat)=_;have:∀(l:List Int) (k:Nat),(l.map D.int).eraseIdx k=(l.eraseIdx k).map D.int:=by
  intro l
  induction l with
  |nil=>intro k;rfl
  |cons a r ih=>
   intro k;cases k with
   |zero=>rfl
   |succ k=>rw[b9,List.eraseIdx_cons_succ,ih k];rfl
 rw[this];rfl
theorem tJ(e:Mi.Env):mN cF [] e=.ok (.lst []):=by show ba (([]:List D).length<=16777216) (Rs.ok (D.lst []))=_;exact aK (by simp)
end Mr
namespace Mr
open PySem Mi
abbrev Ix:=Nat×Nat
def cX(p q:Ix):Prop:=p.1<q.1\/(p.1=q.1/\p.2<q.2)
def nth(ac:List Str)(i:Nat):Str:=ac.getD i e6
def arrOf(ac:List Str)(p:Ix):Ar:=(nth ac p.1,nth ac p.2)
structure xy(ac:List Str)(A:List Ix)(r:Nat->Int):Prop where
 nd:ac.Nodup
 pos:1<=ac.length
 le:ac.length<=8
 dS:A.Pairwise cX
 all:∀p∈A,p.1<ac.length/\p.2<ac.length/\r p.1<r p.2
 al:A.length<=64
theorem GZ{ac:List Str}{i:Nat}(h:i<ac.length):nth ac i∈ac:=by unfold nth;rw[fk,fm h];exact x6 h
theorem tK{ac:List Str}(nd:ac.Nodup){i j:Nat}(hi:i<ac.length)(hj:j<ac.length)(h:nth ac i=nth ac j):i=j:=by unfold nth at h;rw[fk,fm hi,fk,fm hj]at h;exact(qk nd).mp h
def good(m:Nat)(r:Nat->Int)(A:List Ix)(j k:Nat):Prop:=A.Pairwise cX/\(∀p∈A,p.1<m/\p.2<m/\r p.1<r p.2/\(p.1<j\/(p.1=j/\p.2<k)))/\A.length<=8*j+k
theorem good.skip{m:Nat}{r:Nat->Int}{A:List Ix}{j k:Nat}(h:good m r A j k):good m r A j (k+1):=⟨h.1,λp hp=>⟨(h.2.1 p hp).1,(h.2.1 p hp).2.1,(h.2.1 p hp).2.2.1,by have:=(h.2.1 p hp).2.2.2;omega⟩,by have:=h.2.2;omega⟩
theorem good.add{m:Nat}{r:Nat->Int}{A:List Ix}{j k:Nat}(h:good m r A j k)(hj:j<m)(hk:k<m)(hr:r j<r k):good m r (A++[(j,k)]) j (k+1):=by
 refine⟨List.pairwise_append.mpr ⟨h.1,JM _ _,λp hp q hq=>?_⟩,λp hp=>?_,by rw[d6];have:=h.2.2;simp;omega⟩
 ·have:q=(j,k):=by simpa using hq
  subst this;have:=(h.2.1 p hp).2.2.2;exact this
 ·rcases gF.mp hp with hp|hp
  ·exact(h.skip.2.1 p hp)
  ·have:p=(j,k):=by simpa using hp
   subst this;exact⟨hj,hk,hr,.inr ⟨rfl,by omega⟩⟩
theorem good.next{m:Nat}{r:Nat->Int}{A:List Ix}{j k:Nat}(h:good m r A j k)(hk:k<=8):good m r A (j+1) 0:=⟨h.1,λp hp=>⟨(h.2.1 p hp).1,(h.2.1 p hp).2.1,(h.2.1 p hp).2.2.1,by have:=(h.2.1 p hp).2.2.2;omega⟩,by have:=h.2.2;omega⟩
def iA(ac:List Str)(A:List Ix):D:=.lst ((A.map (arrOf ac)).map pairD)
theorem Mf{a:Int}(h0:0<=a)(h1:a<8):-(2 ^ 64)<a/\a<2 ^ 64/\0<=a*(a-1)/2/\a*(a-1)/2<=21:=by
 have:a=0\/a=1\/a=2\/a=3\/a=4\/a=5\/a=6\/a=7:=by omega
 rcases this with h|h|h|h|h|h|h|h<;>subst h<;>decide
open My (words lG uL)
theorem pJ(ns:List Int)(k:Nat)(hk:k<=100):∃c:Int,fP [.d (.lst (ns.map D.int)),.d (.int (k:Int))]=.ok (.d (.int c)):=by
 unfold fP G4;rw[i4];have hl:mN bH [mV 0] [aa (.d (.lst (ns.map D.int))),aa (.d (.int (k:Int))),ae]=.ok (.int (ns.length:Int)):=by show Rs.ok (D.int ((ns.map D.int).length:Int))=_;rw[be]
 have c1:cB (m2 fG (mV 1) (mN bH [(mV 0)])) [aa (.d (.lst (ns.map D.int))),aa (.d (.int (k:Int))),ae]=.ok (decide ((k:Int)<(ns.length:Int))):=cf (aC rfl hl rfl);by_cases h:(k:Int)<(ns.length:Int)
 ·rw[cj h]at c1;exact⟨_,by
   rw[show([aa (W.d (.lst (ns.map D.int))),aa (.d (.int (k:Int)))]++c8 (3-2) ae)=[aa (.d (.lst (ns.map D.int))),aa (.d (.int (k:Int))),ae]from rfl];rw[lO ((i7 c1).trans (gr (dv (aC rfl rfl (xm (by omega) h)))))];rfl⟩
 ·rw[c6 h]at c1;have s1:bc 2 (m2 bv (mC (.int 30011)) (m2 cv (m2 cv (mC (.int 709)) (mV 1)) (mV 1))) [aa (.d (.lst (ns.map D.int))),aa (.d (.int (k:Int))),ae]=.ok (.nx [aa (.d (.lst (ns.map D.int))),aa (.d (.int (k:Int))),aa (.d (.int (30011+709*(k:Int)*(k:Int))))]):=
   bZ (aC rfl (aC (aC rfl rfl (aK (kR (by decide) (by decide)))) rfl (aK (wu (by omega) (by omega)))) rfl)
  have hl2:mN bH [mV 0] [aa (.d (.lst (ns.map D.int))),aa (.d (.int (k:Int))),aa (.d (.int (30011+709*(k:Int)*(k:Int))))]=.ok (.int (ns.length:Int)):=by show Rs.ok (D.int ((ns.map D.int).length:Int))=_;rw[be]
  have c2:cB (m2 mY (mN bH [(mV 0)]) (mC (.int 0))) [aa (.d (.lst (ns.map D.int))),aa (.d (.int (k:Int))),aa (.d (.int (30011+709*(k:Int)*(k:Int))))]=.ok (decide ((0:Int)<(ns.length:Int))):=cf (aC hl2 rfl rfl);by_cases h0:(0:Int)<(ns.length:Int)
  ·rw[cj h0]at c2;refine⟨_,by
    rw[show([aa (W.d (.lst (ns.map D.int))),aa (.d (.int (k:Int)))]++c8 (3-2) ae)=[aa (.d (.lst (ns.map D.int))),aa (.d (.int (k:Int))),ae]from rfl];rw[aI ((cS c1).trans rfl),aI s1,aI ((i7 c2).trans (bZ (aC rfl (aC (aC (aC rfl rfl (xm (by decide) h0)) rfl (aK (by decide))) (aC (aC (aC rfl rfl (aK (kR (by omega) (by omega)))) (aC rfl rfl (aK (kR (by decide) (by decide)))) rfl) rfl rfl) (aK (kR ?_ ?_))) rfl)))];rfl⟩
   ·have:=iu (ns.getD (0:Int).toNat 0) (b:=99991) (by decide);omega
   ·have:=io (ns.getD (0:Int).toNat 0) (b:=99991) (by decide);omega
  ·rw[c6 h0]at c2;exact⟨_,by
    rw[show([aa (W.d (.lst (ns.map D.int))),aa (.d (.int (k:Int)))]++c8 (3-2) ae)=[aa (.d (.lst (ns.map D.int))),aa (.d (.int (k:Int))),ae]from rfl];rw[aI ((cS c1).trans rfl),aI s1,aI ((cS c2).trans rfl)];rfl⟩
theorem MJ(d:Int)(m:Nat)(hm:m<=8):∃rs:List Int,tq [.d (.int d),.d (.int (m:Int))]=.ok (.d (.lst (rs.map D.int)))/\rs.length=m:=by
 unfold tq IH;rw[pE];have hw:(dJ 0 (m:Int)).length<=16777216:=by rw[mD];omega
 have hc:dG (.n 0) cU (mV 0) [ae] (dJ 0 (m:Int))=.ok ((bx m).map λ(k:Nat)=>D.int (k:Int)):=rm (λk=>D.int (k:Int)) m λk _=>⟨[aa (.d (.int k))],rfl,rfl⟩
 have hr:((bx m).map λ(k:Nat)=>D.int (k:Int))=((bx m).map λ(k:Nat)=>(k:Int)).map D.int:=by rw[eS];rfl
 rw[hr]at hc;obtain⟨e',h1,h2⟩:=nG (tg:=.n 5) (body:=aA (bc 4 (m2 bq (m2 bv (m2 bv (m2 cv (mV 4) (mC (.int 48271))) (m2 cv (mC (.int 7)) (mV 5))) (mC (.int 1))) (mC (.int 2147483647)))) (wa 3 2 (m2 bq (m2 cJ (mV 4) (mC (.int 32))) (mN bH [(mV 2)]))))
  (λi e=>∃(x:Int) (ls rs:List Int) (o:Option W),e=[aa (.d (.int d)),aa (.d (.int (m:Int))),aa (.d (.lst (ls.map D.int))),aa (.d (.lst (rs.map D.int))),aa (.d (.int x)),o]/\ls.length+i=m/\rs.length=i) (dJ 0 (m:Int)) 0 (λi x e hx ⟨x0,ls,rs,o,he,hl,hrs⟩=>by
   obtain⟨hi,rfl⟩:=vR hx;subst he;rw[iO]at hl hrs;have hpos:(0:Int)<(ls.length:Int):=by omega
   obtain⟨y,hy⟩ : ∃y,y=(x0*48271+7*(i:Int)+1)%2147483647:=⟨_,rfl⟩;have z1:=iu (y/32) (b:=(ls.length:Int)) (by omega);have z2:=io (y/32) hpos;refine⟨[aa (.d (.int d)),aa (.d (.int (m:Int))),aa (.d (.lst (ls.map D.int))),aa (.d (.lst (rs.map D.int))),aa (.d (.int x0)),aa (.d (.int (i:Int)))],[aa (.d (.int d)),aa (.d (.int (m:Int))),aa (.d (.lst ((ls.eraseIdx (y/32%(ls.length:Int)).toNat).map D.int))),aa (.d (.lst ((rs++[ls.getD (y/32%(ls.length:Int)).toNat 0]).map D.int))),aa (.d (.int y)),aa (.d (.int (i:Int)))],rfl,?_,y,ls.eraseIdx (y/32%(ls.length:Int)).toNat,rs++[ls.getD (y/32%(ls.length:Int)).toNat 0],aa (.d (.int (i:Int))),rfl,?_,?_⟩
   ·have h0:m2 bq (m2 cJ (mV 4) (mC (.int 32))) (mN bH [(mV 2)]) [aa (.d (.int d)),aa (.d (.int (m:Int))),aa (.d (.lst (ls.map D.int))),aa (.d (.lst (rs.map D.int))),aa (.d (.int y)),aa (.d (.int (i:Int)))]=.ok (.int (y/32%(ls.length:Int))):=
     aC (x:=.int (y/32)) (y:=.int (ls.length:Int)) (aC rfl rfl (aK (jY (by decide) (by decide)))) (by show Rs.ok (D.int ((ls.map D.int).length:Int))=_;rw[be]) (aK hpos)
    rw[aI (e':=[aa (.d (.int d)),aa (.d (.int (m:Int))),aa (.d (.lst (ls.map D.int))),aa (.d (.lst (rs.map D.int))),aa (.d (.int y)),aa (.d (.int (i:Int)))])]
    ·unfold wa;rw[h0];simp only[aE,pY,getL,iL,gY,Sm z1 z2 (by omega),putL,BU,BV];rw[aK (by rw[be];omega),lW];rfl
    ·rw[hy];exact bZ (aC (aC (aC (aC rfl rfl (aK (wu (by decide) (by decide)))) (aC rfl rfl (aK (kR (by decide) (by decide)))) rfl) rfl rfl) rfl (aK (by decide)))
   ·rw[List.length_eraseIdx_of_lt (by omega)];omega
   ·rw[d6,hrs];simp) [aa (.d (.int d)),aa (.d (.int (m:Int))),aa (.d (.lst (((bx m).map λ(k:Nat)=>(k:Int)).map D.int))),aa (.d (.lst [])),aa (.d (.int (d%2147483647))),ae] ⟨_,_,[],ae,rfl,by simp,rfl⟩
 obtain⟨d2,ls,rs,o,he,hl,hrs⟩:=h2;subst he;rw[mD,iO]at hl hrs;refine⟨rs,?_,hrs⟩;rw[aI (e':=[aa (.d (.int d)),aa (.d (.int (m:Int))),aa (.d (.lst (((bx m).map λ(k:Nat)=>(k:Int)).map D.int))),ae,ae,ae]) (bZ (fF (iz rfl (vG m hm)) hw hc))];rw[aI (e':=[aa (.d (.int d)),aa (.d (.int (m:Int))),aa (.d (.lst (((bx m).map λ(k:Nat)=>(k:Int)).map D.int))),aa (.d (.lst [])),ae,ae]) (bZ (tJ _))];rw[aI (e':=[aa (.d (.int d)),aa (.d (.int (m:Int))),aa (.d (.lst (((bx m).map λ(k:Nat)=>(k:Int)).map D.int))),aa (.d (.lst [])),aa (.d (.int (d%2147483647))),ae]) (bZ (aC rfl rfl (aK (by decide))))];rw[aI ((i9 (iz rfl (vG m hm))).trans h1)];rfl
theorem O0(ns:List Int){e:Mi.Env}{j k:Nat}(hj:j<8)(hk:k<8)(e0:mV 0 e=.ok (.lst (ns.map D.int)))(e7:mV 7 e=.ok (.int (j:Int)))(e8:mV 8 e=.ok (.int (k:Int))):∃c:Int,(bp fP [(wD (mV 0)),(wD (m2 bv (m2 bv (mC (.int 4)) (m2 cJ (m2 cv (mN jn [(mV 7),(mV 8)]) (m2 mJ (mN jn [(mV 7),(mV 8)]) (mC (.int 1)))) (mC (.int 2)))) (mN nH [(mV 7),(mV 8)])))]) e=.ok (.int c):=by have hx:mN jn [(mV 7),(mV 8)] e=.ok (.int (max (j:Int) (k:Int))):=(zQ e7 e8).trans (Ou _ _);have hn:mN nH [(mV 7),(mV 8)] e=.ok (.int (min (j:Int) (k:Int))):=(zQ e7 e8).trans (Px _ _);obtain⟨t1,t2,t3,t4⟩:=Mf (a:=max (j:Int) (k:Int)) (by omega) (by omega);obtain⟨z,hz⟩ : ∃z:Nat,4+max (j:Int) (k:Int)*(max (j:Int) (k:Int)-1)/2+min (j:Int) (k:Int)=(z:Int):=⟨(4+max (j:Int) (k:Int)*(max (j:Int) (k:Int)-1)/2+min (j:Int) (k:Int)).toNat,by omega⟩;obtain⟨c,hc⟩:=pJ ns z (by omega);refine⟨c,call2 (dv e0) (dv (aC (aC rfl (aC (aC hx (aC hx rfl rfl) (aK (kR t1 t2))) rfl (aK (jY (by decide) (by decide)))) rfl) hn rfl)) ?_⟩;rw[hz];exact hc
theorem PV(ns:List Int)(hi:Nat)(h0:1<=hi)(h2:hi<=8) :
 ∃ac A r,q9 [.d (.lst (ns.map D.int)),.d (.int (hi:Int))]=.ok (.d (aX ac (A.map (arrOf ac))))/\xy ac A r/\(∃(c:Int) (m:Nat),m<=8/\ac=(words c m).map S')/\∃c0:Int,fP [.d (.lst (ns.map D.int)),.d (.int 0)]=.ok (.d (.int c0))/\(ac.length:Int)=1+c0%(hi:Int):=by
 obtain⟨c0,hc0⟩:=pJ ns 0 (by decide);obtain⟨c1,hc1⟩:=pJ ns 1 (by decide);obtain⟨c2,hc2⟩:=pJ ns 2 (by decide);obtain⟨c3,hc3⟩:=pJ ns 3 (by decide);have hw:(0:Int)<(hi:Int):=by omega
 have q1:=iu c0 (b:=(hi:Int)) (by omega);have q2:=io c0 hw;obtain⟨m,hm⟩ : ∃m:Nat,1+c0%(hi:Int)=(m:Int):=⟨(1+c0%(hi:Int)).toNat,by omega⟩;have hm1:1<=m:=by omega
 have hm2:m<=hi:=by omega
 have hm8:m<=8:=by omega
 obtain⟨ac,hnm⟩ : ∃ac,ac=(words c1 m).map S':=⟨_,rfl⟩;have hn:=LU c1 m hm8;rw[<- hnm]at hn;have hnl:ac.length=m:=by rw[hnm,be];exact lG c1 m
 have hnd:ac.Nodup:=by rw[hnm];exact List.Pairwise.map _ (λa b h z=>h (Oc z)) (uL _ _ hm8)
 obtain⟨rs,hr,hrl⟩:=MJ c2 m hm8;have q3:=iu c3 (b:=6) (by decide);have q4:=io c3 (b:=6) (by decide);obtain⟨th,hth⟩ : ∃th,aL (.lst ([4,1,2,3,2,3].map D.int)) (.int (c3%6))=.ok (.int th):=⟨_,xm q3 (by simp;omega)⟩;have hrx:∀i:Nat,i<m->aL (.lst (rs.map D.int)) (.int (i:Int))=.ok (.int (rs.getD i 0)):=λi hi=>by
  have:=xm (cs:=rs) (i:=(i:Int)) (by omega) (by omega)
  rwa [ir]at this
 have hnx:∀i:Nat,i<m->aL (aj ac) (.int (i:Int))=.ok (.str (nth ac i)):=λi hi=>by
  have:=tW (cs:=ac) (i:=(i:Int)) (by omega) (by omega)
  rwa [ir]at this
 have inner:∀(j:Nat) (A:List Ix) (o8 o9:Option W),j<m->good m (λi=>rs.getD i 0) A j 0->∃(A':List Ix) (p8 p9:Option W),dB (.n 8) (aA (bc 9 (bp fP [(wD (mV 0)),(wD (m2 bv (m2 bv (mC (.int 4)) (m2 cJ (m2 cv (mN jn [(mV 7),(mV 8)]) (m2 mJ (mN jn [(mV 7),(mV 8)]) (mC (.int 1)))) (mC (.int 2)))) (mN nH [(mV 7),(mV 8)])))])) (a9 (lu (cB (m2 fG (m2 aL (mV 4) (mV 7)) (m2 aL (mV 4) (mV 8)))) (cB (m2 fG (m2 bq (m2 cJ (m2 bq (m2 cv (mV 9) (mC (.int 48271))) (mC (.int 2147483647))) (mC (.int 16))) (mC (.int 4))) (mV 5)))) (fe 6 (mN dTup [(m2 aL (mV 3) (mV 7)),(m2 aL (mV 3) (mV 8))])) bf)) (dJ 0 (m:Int)) [aa (.d (.lst (ns.map D.int))),aa (.d (.int (hi:Int))),aa (.d (.int (m:Int))),aa (.d (aj ac)),aa (.d (.lst (rs.map D.int))),aa (.d (.int th)),aa (.d (iA ac A)),aa (.d (.int (j:Int))),o8,o9]=.ok (.nx [aa (.d (.lst (ns.map D.int))),aa (.d (.int (hi:Int))),aa (.d (.int (m:Int))),aa (.d (aj ac)),aa (.d (.lst (rs.map D.int))),aa (.d (.int th)),aa (.d (iA ac A')),aa (.d (.int (j:Int))),p8,p9])/\good m (λi=>rs.getD i 0) A' (j+1) 0:=by
  intro j A o8 o9 hj hg;obtain⟨e',f1,A',p8,p9,he,hg'⟩:=nG (tg:=.n 8) (body:=(aA (bc 9 (bp fP [(wD (mV 0)),(wD (m2 bv (m2 bv (mC (.int 4)) (m2 cJ (m2 cv (mN jn [(mV 7),(mV 8)]) (m2 mJ (mN jn [(mV 7),(mV 8)]) (mC (.int 1)))) (mC (.int 2)))) (mN nH [(mV 7),(mV 8)])))])) (a9 (lu (cB (m2 fG (m2 aL (mV 4) (mV 7)) (m2 aL (mV 4) (mV 8)))) (cB (m2 fG (m2 bq (m2 cJ (m2 bq (m2 cv (mV 9) (mC (.int 48271))) (mC (.int 2147483647))) (mC (.int 16))) (mC (.int 4))) (mV 5)))) (fe 6 (mN dTup [(m2 aL (mV 3) (mV 7)),(m2 aL (mV 3) (mV 8))])) bf))) (λk e=>∃(A:List Ix) (o8 o9:Option W),e=[aa (.d (.lst (ns.map D.int))),aa (.d (.int (hi:Int))),aa (.d (.int (m:Int))),aa (.d (aj ac)),aa (.d (.lst (rs.map D.int))),aa (.d (.int th)),aa (.d (iA ac A)),aa (.d (.int (j:Int))),o8,o9]/\good m (λi=>rs.getD i 0) A j k)
   (dJ 0 (m:Int)) 0 (λk x e hx ⟨A,o8,o9,he,hg⟩=>by
    obtain⟨hk,rfl⟩:=vR hx;subst he;rw[iO]at hg;obtain⟨c,hc⟩:=O0 ns (e:=[aa (.d (.lst (ns.map D.int))),aa (.d (.int (hi:Int))),aa (.d (.int (m:Int))),aa (.d (aj ac)),aa (.d (.lst (rs.map D.int))),aa (.d (.int th)),aa (.d (iA ac A)),aa (.d (.int (j:Int))),aa (.d (.int (k:Int))),o9]) (j:=j) (k:=k) (by omega) (by omega) rfl rfl rfl;have c1:cB (m2 fG (m2 aL (mV 4) (mV 7)) (m2 aL (mV 4) (mV 8))) [aa (.d (.lst (ns.map D.int))),aa (.d (.int (hi:Int))),aa (.d (.int (m:Int))),aa (.d (aj ac)),aa (.d (.lst (rs.map D.int))),aa (.d (.int th)),aa (.d (iA ac A)),aa (.d (.int (j:Int))),aa (.d (.int (k:Int))),aa (.d (.int c))]=.ok (decide (rs.getD j 0<rs.getD k 0)):=cf (aC (aC rfl rfl (hrx j hj)) (aC rfl rfl (hrx k hk)) rfl);have c2:cB (m2 fG (m2 bq (m2 cJ (m2 bq (m2 cv (mV 9) (mC (.int 48271))) (mC (.int 2147483647))) (mC (.int 16))) (mC (.int 4))) (mV 5)) [aa (.d (.lst (ns.map D.int))),aa (.d (.int (hi:Int))),aa (.d (.int (m:Int))),aa (.d (aj ac)),aa (.d (.lst (rs.map D.int))),aa (.d (.int th)),aa (.d (iA ac A)),aa (.d (.int (j:Int))),aa (.d (.int (k:Int))),aa (.d (.int c))]=.ok (decide (c*48271%2147483647/16%4<th)):=cf (aC (aC (aC (aC (aC rfl rfl (aK (wu (by decide) (by decide)))) rfl (aK (by decide))) rfl (aK (jY (by decide) (by decide)))) rfl (aK (by decide))) rfl rfl);by_cases hb:rs.getD j 0<rs.getD k 0/\c*48271%2147483647/16%4<th
    ·refine⟨[aa (.d (.lst (ns.map D.int))),aa (.d (.int (hi:Int))),aa (.d (.int (m:Int))),aa (.d (aj ac)),aa (.d (.lst (rs.map D.int))),aa (.d (.int th)),aa (.d (iA ac A)),aa (.d (.int (j:Int))),aa (.d (.int (k:Int))),o9],[aa (.d (.lst (ns.map D.int))),aa (.d (.int (hi:Int))),aa (.d (.int (m:Int))),aa (.d (aj ac)),aa (.d (.lst (rs.map D.int))),aa (.d (.int th)),aa (.d (iA ac (A++[(j,k)]))),aa (.d (.int (j:Int))),aa (.d (.int (k:Int))),aa (.d (.int c))],rfl,?_,A++[(j,k)],aa (.d (.int (k:Int))),aa (.d (.int c)),rfl,by rw[iO];exact hg.add hj hk hb.1⟩;rw[aI (e':=[aa (.d (.lst (ns.map D.int))),aa (.d (.int (hi:Int))),aa (.d (.int (m:Int))),aa (.d (aj ac)),aa (.d (.lst (rs.map D.int))),aa (.d (.int th)),aa (.d (iA ac A)),aa (.d (.int (j:Int))),aa (.d (.int (k:Int))),aa (.d (.int c))]) (bZ hc)];rw[i7 (by unfold lu;rw[c1,aE,cj hb.1,aF rfl,c2,cj hb.2])];rw[HB (d:=pairD (nth ac j,nth ac k)) (ds:=(A.map (arrOf ac)).map pairD) (gI (aC rfl rfl (hnx j hj)) (aC rfl rfl (hnx k hk))) rfl (by rw[be,be];have:=hg.2.2;omega)];show Rs.ok (Out.nx [_,_,_,_,_,_,aa (W.d (D.lst ((A.map (arrOf ac)).map pairD++[pairD (nth ac j,nth ac k)]))),_,_,_])=_;rw[iA,lW,lW];rfl
    ·refine⟨[aa (.d (.lst (ns.map D.int))),aa (.d (.int (hi:Int))),aa (.d (.int (m:Int))),aa (.d (aj ac)),aa (.d (.lst (rs.map D.int))),aa (.d (.int th)),aa (.d (iA ac A)),aa (.d (.int (j:Int))),aa (.d (.int (k:Int))),o9],[aa (.d (.lst (ns.map D.int))),aa (.d (.int (hi:Int))),aa (.d (.int (m:Int))),aa (.d (aj ac)),aa (.d (.lst (rs.map D.int))),aa (.d (.int th)),aa (.d (iA ac A)),aa (.d (.int (j:Int))),aa (.d (.int (k:Int))),aa (.d (.int c))],rfl,?_,A,aa (.d (.int (k:Int))),aa (.d (.int c)),rfl,by rw[iO];exact hg.skip⟩;rw[aI (e':=[aa (.d (.lst (ns.map D.int))),aa (.d (.int (hi:Int))),aa (.d (.int (m:Int))),aa (.d (aj ac)),aa (.d (.lst (rs.map D.int))),aa (.d (.int th)),aa (.d (iA ac A)),aa (.d (.int (j:Int))),aa (.d (.int (k:Int))),aa (.d (.int c))]) (bZ hc)];rw[cS (by
      unfold lu;rw[c1,aE];by_cases hb1:rs.getD j 0<rs.getD k 0
      ·rw[cj hb1,aF rfl,c2,c6 λz=>hb ⟨hb1,z⟩]
      ·rw[c6 hb1,aG dN])]
     rfl) _ ⟨A,o8,o9,rfl,hg⟩
  subst he;rw[mD,iO]at hg';exact⟨A',p8,p9,f1,hg'.next hm8⟩
 obtain⟨e',f1,A,p7,p8,p9,he,hg⟩:=nG (tg:=.n 7) (body:=(eM (eG (mV 2)) (.n 8) (aA (bc 9 (bp fP [(wD (mV 0)),(wD (m2 bv (m2 bv (mC (.int 4)) (m2 cJ (m2 cv (mN jn [(mV 7),(mV 8)]) (m2 mJ (mN jn [(mV 7),(mV 8)]) (mC (.int 1)))) (mC (.int 2)))) (mN nH [(mV 7),(mV 8)])))])) (a9 (lu (cB (m2 fG (m2 aL (mV 4) (mV 7)) (m2 aL (mV 4) (mV 8)))) (cB (m2 fG (m2 bq (m2 cJ (m2 bq (m2 cv (mV 9) (mC (.int 48271))) (mC (.int 2147483647))) (mC (.int 16))) (mC (.int 4))) (mV 5)))) (fe 6 (mN dTup [(m2 aL (mV 3) (mV 7)),(m2 aL (mV 3) (mV 8))])) bf)))) (λj e=>∃(A:List Ix) (o7 o8 o9:Option W),e=[aa (.d (.lst (ns.map D.int))),aa (.d (.int (hi:Int))),aa (.d (.int (m:Int))),aa (.d (aj ac)),aa (.d (.lst (rs.map D.int))),aa (.d (.int th)),aa (.d (iA ac A)),o7,o8,o9]/\good m (λi=>rs.getD i 0) A j 0)
  (dJ 0 (m:Int)) 0 (λj x e hx ⟨A,o7,o8,o9,he,hg⟩=>by
   obtain⟨hj,rfl⟩:=vR hx;subst he;rw[iO]at hg;obtain⟨A',p8,p9,f1,hg'⟩:=inner j A o8 o9 hj hg;exact⟨_,_,rfl,(i9 (iz rfl (vG m hm8))).trans f1,A',_,p8,p9,rfl,by rw[iO];exact hg'⟩)
  [aa (.d (.lst (ns.map D.int))),aa (.d (.int (hi:Int))),aa (.d (.int (m:Int))),aa (.d (aj ac)),aa (.d (.lst (rs.map D.int))),aa (.d (.int th)),aa (.d (.lst [])),ae,ae,ae] ⟨[],ae,ae,ae,rfl,Cf,λp hp=>absurd hp (by simp),ft _⟩
 subst he;rw[mD,iO]at hg;refine⟨ac,A,λi=>rs.getD i 0,?_,⟨hnd,by omega,by omega,hg.1,λp hp=>?_,by have:=hg.2.2;omega⟩,⟨c1,m,hm8,hnm⟩,c0,hc0,by rw[hnl,<- hm]⟩
 ·unfold q9 He;rw[i4];rw[show((0:Nat):Int)=0 from rfl]at hc0;rw[show((1:Nat):Int)=1 from rfl]at hc1;rw[show((2:Nat):Int)=2 from rfl]at hc2;rw[show((3:Nat):Int)=3 from rfl]at hc3;rw[aI (e':=[aa (.d (.lst (ns.map D.int))),aa (.d (.int (hi:Int))),aa (.d (.int (m:Int))),ae,ae,ae,ae,ae,ae,ae]) (bZ (d:=.int (m:Int)) ((aC rfl (aC (call2 rfl rfl hc0) rfl (aK hw)) rfl).trans (by rw[pB,hm])))];rw[aI (e':=[aa (.d (.lst (ns.map D.int))),aa (.d (.int (hi:Int))),aa (.d (.int (m:Int))),aa (.d (aj ac)),ae,ae,ae,ae,ae,ae]) (bZ (call2 (dv (call2 rfl rfl hc1)) rfl hn))];rw[aI (e':=[aa (.d (.lst (ns.map D.int))),aa (.d (.int (hi:Int))),aa (.d (.int (m:Int))),aa (.d (aj ac)),aa (.d (.lst (rs.map D.int))),ae,ae,ae,ae,ae]) (bZ (call2 (dv (call2 rfl rfl hc2)) rfl hr))];have hl6:mN cF [(mC (.int 4)),(mC (.int 1)),(mC (.int 2)),(mC (.int 3)),(mC (.int 2)),(mC (.int 3))] [aa (.d (.lst (ns.map D.int))),aa (.d (.int (hi:Int))),aa (.d (.int (m:Int))),aa (.d (aj ac)),aa (.d (.lst (rs.map D.int))),ae,ae,ae,ae,ae]=.ok (.lst ([4,1,2,3,2,3].map D.int)):=by
   show ba (([4,1,2,3,2,3].map D.int).length<=16777216) _=_;exact aK (by simp)
  rw[aI (e':=[aa (.d (.lst (ns.map D.int))),aa (.d (.int (hi:Int))),aa (.d (.int (m:Int))),aa (.d (aj ac)),aa (.d (.lst (rs.map D.int))),aa (.d (.int th)),ae,ae,ae,ae]) (bZ (aC hl6 (aC (call2 rfl rfl hc3) rfl (aK (by decide))) hth))];rw[aI (e':=[aa (.d (.lst (ns.map D.int))),aa (.d (.int (hi:Int))),aa (.d (.int (m:Int))),aa (.d (aj ac)),aa (.d (.lst (rs.map D.int))),aa (.d (.int th)),aa (.d (.lst [])),ae,ae,ae]) (bZ (tJ _))];rw[aI ((i9 (iz rfl (vG m hm8))).trans f1)];rw[gr (dv (gI (x:=jW ac) (y:=pA (A.map (arrOf ac))) (et (x:=aj ac) rfl) (et (x:=iA ac A) rfl)))];rfl
 ·obtain⟨a,b,c,_⟩:=hg.2.1 p hp;exact⟨by omega,by omega,c⟩
theorem OP(ns:List Int)(hi:Nat)(h0:1<=hi)(h2:hi<=8) :
 ∃ac A r,q9 [.d (.lst (ns.map D.int)),.d (.int (hi:Int))]=.ok (.d (aX ac (A.map (arrOf ac))))/\xy ac A r/\∃(c:Int) (m:Nat),m<=8/\ac=(words c m).map S':=by
 obtain⟨ac,A,r,h1,h2,h3,_⟩:=PV ns hi h0 h2;exact⟨ac,A,r,h1,h2,h3⟩
end Mr
namespace Mr
open PySem Mi
inductive vF(ai:List Ar)(x:Str):Str->Prop
 |refl:vF ai x x
 |step {y z:Str}:vF ai x y->(y,z)∈ai->vF ai x z
noncomputable def rch (ai:List Ar) (x y:Str):Bool:=@decide (vF ai x y) (Classical.propDecidable _)
noncomputable def Uk (ac:List Str) (ai:List Ar) (x:Str):List Str:=ac.filter (rch ai x)
def fQ(fs:List Str):W:=.dk (fs.map λy=>((g6 y:Ky),D.bl true))
theorem Sz(fs:List Str)(y:Str):(j3 (fs.map λy=>((g6 y:Ky),D.bl true)) (g6 y)).isSome=decide (y∈fs):=by
 unfold j3
 induction fs with
 |nil=>rfl
 |cons a r ih=>
  rw[b9,lV];by_cases h:a=y
  ·subst h;simp
  ·rw[c6 (λz:(g6 a:Ky)=g6 y=>h (Cp z))];simp only[ih];rw[oW];exact⟨λz=>cy _ z,λz=>by
    rcases bn.mp z with z|z
    ·exact absurd z.symm h
    ·exact z⟩
theorem Sc{i:Nat}{k:E}{e:Mi.Env}{fs:List Str}{y:Str}(hk:k e=.ok (.str y))(hw:wV i e=.ok (fQ fs)):g7 i k e=.ok (.bl (decide (y∈fs))):=by unfold g7;rw[hk,aE,hw,aE,<- Sz];rfl
theorem SX{i:Nat}{k:E}{e:Mi.Env}{fs:List Str}{y:Str}(hk:k e=.ok (.str y))(hw:wV i e=.ok (fQ fs))(hn:y∉fs)(hl:fs.length<=1000):fV i k (mC (.bl true)) e=.ok (.nx (e.set i (aa (fQ (fs++[y]))))):=by
 unfold fV;have h1:y3 (fQ fs) (.str y) (.bl true)=.ok (fQ (fs++[y])):=by
  show ba ((fs.map λy=>((g6 y:Ky),D.bl true)).length<16777216) ((dh (rE (.str y))).bind λk=>Rs.ok (W.dk (Mi.putK k (.bl true) (fs.map λy=>((g6 y:Ky),D.bl true)))))=_;rw[aK (by rw[be];omega)];show Rs.ok (W.dk (Mi.putK (g6 y:Ky) (.bl true) (fs.map λy=>((g6 y:Ky),D.bl true))))=_;unfold Mi.putK;rw[aG (by
   rw[List.any_map,Bool.not_eq_true,BY];intro z hz;simp only[KL,jX];exactλq=>hn (Cp q ▸ hz))]
  unfold fQ;rw[lW];rfl
 show(k e).bind _=_;rw[hk,aE,hw,aE,h1];rfl
noncomputable def hb (ac:List Str) (ai:List Ar) (md:List Str) (x:Str):Bool:=(Uk ac ai x).any λy=>decide (y∈md)
abbrev RH:=Str×Str×Str
theorem Fl(ai:List Ar)(p:Ar):((ai.map pairD).any λe=>bz e (pairD p))=decide (p∈ai):=by
 induction ai with
 |nil=>rfl
 |cons q r ih=>
  rw[b9,k9,ih];have:bz (pairD q) (pairD p)=decide (q=p):=by unfold pairD;rw[bz,d3,d3,d3,pe,pe];obtain⟨a,b⟩:=q;obtain⟨c,d⟩:=p;by_cases h1:a=c<;>by_cases h2:b=d<;>simp[h1,h2]
  rw[this];by_cases h:q=p
  ·simp[h]
  ·have h2:¬ p=q:=λz=>h z.symm;simp[h,h2]
theorem tE:∀ai:List Ar,dH (ai.map pairD)<=1
 |[]=>by simp
 |p::r=>by
  have:=tE r;rw[b9,uk];have h:(pairD p).dep=1:=by simp[pairD]
  omega
def hds(ai:List Ar)(l:List Str):List Str:=(ai.filter λp=>decide (p.1∈l)).map (·.2)
theorem zL{ai:List Ar}{l:List Str}{x:Str}:x∈hds ai l↔∃t,(t,x)∈ai/\t∈l:=by
 unfold hds;rw[cL];constructor
 ·rintro⟨⟨t,h⟩,hq,rfl⟩;obtain⟨h1,h2⟩:=fo.mp hq;exact⟨t,h1,by simpa using h2⟩
 ·rintro⟨t,h1,h2⟩;exact⟨(t,x),fo.mpr ⟨h1,by simpa using h2⟩,rfl⟩
def v0(ai:List Ar)(l:List Str):List Str:=l.filter λx=>decide (x∈hds ai l)
def cn(ac:List Str)(ai:List Ar):Nat->List Str
 |0=>ac
 |k+1=>v0 ai (cn ac ai k)
def lz(ac:List Str)(ai:List Ar):Bool:=decide (0<(cn ac ai ac.length).length)
def Rk(ai:List Ar):Prop:=∃r:Str->Int,∀p∈ai,r p.1<r p.2
theorem LI{ai:List Ar}(R:Rk ai){l:List Str}(h:l≠[]):(v0 ai l).length<l.length:=by
 obtain⟨r,hr⟩:=R;obtain⟨x,hx,hm⟩:=D4 r l h;have hn:x∉hds ai l:=λz=>by
  obtain⟨t,h1,h2⟩:=zL.mp z;have:=hr _ h1;have:=hm t h2;simp only at *;omega
 exact JH.mpr ⟨x,hx,by simpa using hn⟩
theorem EM{ac:List Str}{ai:List Ar}(R:Rk ai):∀k,(cn ac ai k).length<=ac.length-k
 |0=>bu _
 |k+1=>by
  have ih:=EM (ac:=ac) R k;by_cases h:cn ac ai k=[]
  ·rw[cn,h];simp[v0]
  ·have:=LI R h;rw[cn];omega
theorem OI{ac:List Str}{ai:List Ar}(R:Rk ai):lz ac ai=false:=by have:=EM (ac:=ac) R ac.length;unfold lz;rw[rA];omega
theorem Qv{ac:List Str}{ai:List Ar}{k:Nat}{x:Str}(h:x∈cn ac ai (k+1)):x∈cn ac ai k:=(fo.mp h).1
theorem D3{ac:List Str}{ai:List Ar}(hin:∀p∈ai,p.1∈ac/\p.2∈ac){t h:Str}(a:(t,h)∈ai):∀k,t∈cn ac ai k->h∈cn ac ai k/\h∈cn ac ai (k+1)
 |0,ht=>by
  have h0:h∈cn ac ai 0:=(hin _ a).2;exact⟨h0,fo.mpr ⟨h0,by simpa using zL.mpr ⟨t,a,ht⟩⟩⟩
 |k+1,ht=>by
  have ih:=(D3 hin a k (Qv ht)).2;exact⟨ih,fo.mpr ⟨ih,by simpa using zL.mpr ⟨t,a,ht⟩⟩⟩
theorem LY{ac:List Str}{ai:List Ar}(hin:∀p∈ai,p.1∈ac/\p.2∈ac)(h:lz ac ai=false):Rk ai:=by
 have he:∀x,x∉cn ac ai ac.length:=λx hx=>by
  have:=xW hx;unfold lz at h;rw[rA]at h;exact h this
 refine⟨λx=>(((bx ac.length).filter λk=>decide (x∈cn ac ai k)).length:Nat),λp hp=>?_⟩;obtain⟨t,b⟩:=p;have key:(0::((bx ac.length).filter λk=>decide (t∈cn ac ai k)).map (· + 1)).length<=((bx ac.length).filter λk=>decide (b∈cn ac ai k)).length:=by
  refine uF ?_ ?_
  ·refine jC.mpr ⟨λz=>by obtain⟨y,_,e⟩:=cL.mp z;omega,?_⟩;have nd:=(xZ (n:=ac.length)).filter (p:=λk=>decide (t∈cn ac ai k));refine oy.mpr (nd.imp λz e=>z (by omega))
  ·intro y hy;have hb:b∈ac:=(hin _ hp).2;have pos:=xW hb;rcases bn.mp hy with rfl|hy
   ·exact fo.mpr ⟨fq.mpr pos,cj (show b∈cn ac ai 0 from hb)⟩
   ·obtain⟨k,hk,rfl⟩:=cL.mp hy;obtain⟨k1,k2⟩:=fo.mp hk;have k2:t∈cn ac ai k:=by simpa using k2
    have k3:=(D3 hin hp k k2).2;have k1:=fq.mp k1;have:k+1≠ac.length:=λe=>he b (e ▸ k3);exact fo.mpr ⟨fq.mpr (by omega),by simpa using k3⟩
 simp only[dq,be]at key ⊢;omega
def wU(ai:List Ar)(a m b:Str):Bool:=(decide ((a,m)∈ai)&&decide ((b,m)∈ai)) && !(decide ((a,b)∈ai)||decide ((b,a)∈ai))
theorem Gw{α β:Type}{f g:α->List β}:∀{l:List α},(∀x∈l,f x=g x)->l.flatMap f=l.flatMap g
 |[],_=>rfl
 |x::r,h=>by rw[ow,ow,h x b8,Gw λy hy=>h y (cy _ hy)]
def tie(ai:List Ar)(a b:Str):Bool:=decide ((a,b)∈ai)||decide ((b,a)∈ai)
theorem zP(n:Nat)(x:Str):gQ (n+1) [.d (.str x),.d (.str x)]=.ok (.d (.bl true)):=by
 show dF 2 4 (uz (gQ n)) _=_;unfold uz;rw[i4];have c0:fA (cB (m1 (dE ["str"]) (mV 1))) (cB (m1 (dE ["int"]) (mV 1))) [aa (.d (.str x)),aa (.d (.str x)),ae,ae]=.ok true:=rfl;have c1:fA (cB (m2 dQ (m1 (dE ["bool"]) (mV 0)) (m1 (dE ["bool"]) (mV 1)))) (cB (m2 dQ (m1 (dE ["str"]) (mV 0)) (m1 (dE ["str"]) (mV 1)))) [aa (.d (.str x)),aa (.d (.str x)),ae,ae]=.ok false:=rfl;have c2:n5 (m1 (dE ["int","str"]) (mV 0)) (m2 fw (mV 0) (mV 1)) [aa (.d (.str x)),aa (.d (.str x)),ae,ae]=.ok (.bl true):=by show m2 fw (mV 0) (mV 1) [aa (.d (.str x)),aa (.d (.str x)),ae,ae]=_;exact(aC rfl rfl rfl).trans ((wf x x).trans (by rw[cj rfl]))
 exact(congrArg (λr=>Rs.bind r j2) (lO ((i7 c0).trans ((aI ((cS c1).trans rfl)).trans (gr (dv c2)))))).trans rfl
theorem Ov{a:E}{e:Mi.Env}(h:a e=.ok (.bl true)):c9 (cB a) e=.ok false:=by unfold c9;rw[cf h];rfl
theorem vB{a b:C}{e:Mi.Env}{p q:Bool}(ha:a e=.ok p)(hb:p=false->b e=.ok q):fA a b e=.ok (p||q):=by
 unfold fA;rw[ha,aE];cases p with
 |true=>rfl
 |false=>rw[aG dN,hb rfl];rfl
theorem pP{a:C}{e:Mi.Env}{p:Bool}(ha:a e=.ok p):c9 a e=.ok (!p):=by unfold c9;rw[ha];rfl
theorem vZ{a b:E}{e:Mi.Env}{p q:Bool}(ha:a e=.ok (.bl p))(hb:p=true->b e=.ok (.bl q)):n5 a b e=.ok (.bl (p&&q)):=by
 unfold n5;rw[ha,aE,mG,aE];cases p with
 |true=>rw[aF rfl,hb rfl];rfl
 |false=>rfl
theorem DF{α β γ : Type}(f:β->γ)(g:α->List β):∀l:List α,(l.flatMap g).map f=l.flatMap λx=>(g x).map f
 |[]=>rfl
 |x::r=>by rw[ow,lW,DF f g r,ow]
theorem Ew{α β:Type}{g:α->List β}{m:Nat}:∀{l:List α},(∀x∈l,(g x).length<=m)->(l.flatMap g).length<=l.length*m
 |[],_=>by simp
 |x::r,h=>by
  have ih:=Ew (l:=r) λy hy=>h y (cy _ hy);have h1:=h x b8;rw[ow,d6,dq,Nat.add_mul];omega
theorem Eo(p q:Ar):bz (pairD p) (pairD q)=decide (p=q):=by obtain⟨a,b⟩:=p;obtain⟨c,d⟩:=q;unfold pairD;rw[bz,d3,d3,d3,pe,pe];by_cases h:a=c<;>by_cases k:b=d<;>simp[h,k]
def au(ai:List Ar):D:=.lst (ai.map pairD)
theorem Rr(ai:List Ar)(p:Ar):dA (pairD p) (au ai)=.ok (.bl (decide (p∈ai))):=by show ba _ _=_;rw[aK (d9 (tE ai) (by decide)),Fl]
theorem P0(ai:List Ar)(p:Ar):eB (pairD p) (au ai)=.ok (.bl (!decide (p∈ai))):=by show ba _ _=_;rw[aK (d9 (tE ai) (by decide)),Fl]
structure Nt(ac:List Str)(ai:List Ar):Prop where
 nd:ac.Nodup
 le:ac.length<=8
 al:ai.length<=64
 inn:∀p∈ai,p.1∈ac/\p.2∈ac
 rk:Rk ai
def dS(ac:List Str)(ai:List Ar):List Ar:=ac.flatMap λt=>(ac.filter λh=>decide ((t,h)∈ai)).map λh=>(t,h)
theorem uq{ac:List Str}{ai:List Ar}{p:Ar}:p∈dS ac ai↔p∈ai/\p.1∈ac/\p.2∈ac:=by
 obtain⟨a,b⟩:=p;unfold dS;simp only[B3,cL,fo,jX,Prod.mk.injEq];constructor
 ·rintro⟨t,ht,h,⟨h1,h2⟩,rfl,rfl⟩;exact⟨h2,ht,h1⟩
 ·rintro⟨h1,h2,h3⟩;exact⟨a,h2,b,⟨h3,h1⟩,rfl,rfl⟩
theorem SY{ac:List Str}(hn:ac.length<=8)(ai:List Ar):(dS ac ai).length<=64:=by unfold dS;refine d9 (Ew (m:=8) λt _=>?_) (by omega);rw[be];exact d9 (qi _ _) hn
theorem Er:∀ds:List D,jp ds ds=ds.map λd=>D.tup [d,d]
 |[]=>rfl
 |d::r=>by rw[jp,Er r];rfl
def sq(k:Bool)(ds:List D):D:=if k then .lst ds else .tup ds
theorem we{F:Fn}(k:Bool)(ds:List D)(h:∀d∈ds,F [.d d,.d d]=.ok (.d (.bl true))):dF 2 4 (uz F) [.d (sq k ds),.d (sq k ds)]=.ok (.d (.bl true)):=by
 unfold uz;rw[i4];have c0:fA (cB (m1 (dE ["str"]) (mV 1))) (cB (m1 (dE ["int"]) (mV 1))) [aa (.d (sq k ds)),aa (.d (sq k ds)),ae,ae]=.ok false:=by cases k<;>rfl
 have c1:fA (cB (m2 dQ (m1 (dE ["list"]) (mV 0)) (m1 (dE ["list"]) (mV 1)))) (c9 (cB (m1 (dE ["list","tuple"]) (mV 0)))) [aa (.d (sq k ds)),aa (.d (sq k ds)),ae,ae]=.ok false:=by cases k<;>rfl
 have c2:cB (m2 dQ (mN bH [(mV 0)]) (mN bH [(mV 1)])) [aa (.d (sq k ds)),aa (.d (sq k ds)),ae,ae]=.ok false:=by cases k<;>exact cf ((aC rfl rfl rfl).trans ((NR _ _).trans (by rw[cj rfl];rfl)))
 obtain⟨e',f1,o2,o3,he⟩:=nG (tg:=.t [2,3]) (body:=(a9 (c9 (cB (bp F [(wD (mV 2)),(wD (mV 3))]))) (bG (wD (mC (.bl false)))) bf))
  (λi e=>∃o2 o3:Option W,e=[aa (.d (sq k ds)),aa (.d (sq k ds)),o2,o3]) (ds.map λd=>D.tup [d,d]) 0 (λi d e hi ⟨o2,o3,he⟩=>by
   subst he;rw[eE]at hi;obtain⟨x,hx,rfl⟩:=oA.mp hi;have ct:c9 (cB (bp F [(wD (mV 2)),(wD (mV 3))])) [aa (.d (sq k ds)),aa (.d (sq k ds)),aa (.d x),aa (.d x)]=.ok false:=Ov (call2 rfl rfl (h x (lS hx)));exact⟨[aa (.d (sq k ds)),aa (.d (sq k ds)),aa (.d x),aa (.d x)],_,rfl,(cS ct).trans rfl,_,_,rfl⟩) [aa (.d (sq k ds)),aa (.d (sq k ds)),ae,ae] ⟨ae,ae,rfl⟩
 subst he;have hit:Am (mV 0) (mV 1) [aa (.d (sq k ds)),aa (.d (sq k ds)),ae,ae]=.ok (ds.map λd=>D.tup [d,d]):=by rw[<- Er];cases k<;>rfl
 exact(congrArg (λr=>Rs.bind r j2) ((aI ((cS c0).trans rfl)).trans ((aI ((cS c1).trans rfl)).trans ((aI ((cS c2).trans rfl)).trans ((aI ((i9 hit).trans f1)).trans (gr (dv rfl))))))).trans rfl
theorem No(n:Nat)(p:Ar):gQ (n+2) [.d (pairD p),.d (pairD p)]=.ok (.d (.bl true)):=
 we (F:=gQ (n+1)) false [.str p.1,.str p.2] λd hd=>by
  rcases bn.mp hd with rfl|hd
  ·exact zP n _
  ·rw[dI.mp hd];exact zP n _
theorem F8:∀xs ys:List Ar,d3 (xs.map pairD) (ys.map pairD)=decide (xs=ys)
 |[],[]=>rfl
 |[],y::r=>by simp[d3]
 |x::r,[]=>by simp[d3]
 |x::r,y::t=>by
  rw[b9,b9,d3,Eo,F8 r t];by_cases h:x=y<;>by_cases k:r=t<;>simp[h,k]
theorem vL:∀a b:List Int,gj a b=true->gj b a=true->False
 |[],[],h,_=>by cases h
 |[],_::_,_,h=>by cases h
 |_::_,[],h,_=>by cases h
 |a::r,b::t,h,k=>by
  rw[gj]at h k;by_cases e:a=b
  ·subst e;rw[aF (iH a)]at h k;exact vL r t h k
  ·rw[aG (by simpa using e)]at h;rw[aG (by simpa using bU e)]at k;simp at h k;omega
theorem F5{a b:Int}{r t:List Int}(h:a<b):gj (a::r) (b::t)=true:=by rw[gj,aG (by simp;omega)];simpa using h
theorem OH{a:Int}{r t:List Int}:gj (a::r) (a::t)=gj r t:=by rw[gj,aF (iH a)]
section
variable{α:Type}(key:α->List Int)
theorem Eg:∀{a b:List α},(∀x,x∈a↔x∈b)->a.Pairwise (λx y=>gj (key x) (key y)=true)->b.Pairwise (λx y=>gj (key x) (key y)=true)->a=b
 |[],[],_,_,_=>rfl
 |[],y::t,h,_,_=>absurd ((h y).mpr b8) (by simp)
 |x::r,[],h,_,_=>absurd ((h x).mp b8) (by simp)
 |x::r,y::t,h,ha,hb=>by
  have ha':=k7.mp ha;have hb':=k7.mp hb;have e:x=y:=by
   rcases bn.mp ((h x).mp b8)with z|z
   ·exact z
   ·rcases bn.mp ((h y).mpr b8)with z2|z2
    ·exact z2.symm
    ·exact(vL _ _ (hb'.1 x z) (ha'.1 y z2)).elim
  subst e;have nr:x∉r:=λz=>vL _ _ (ha'.1 x z) (ha'.1 x z);have nt:x∉t:=λz=>vL _ _ (hb'.1 x z) (hb'.1 x z);rw[Eg (a:=r) (b:=t) (λz=>⟨λhz=>?_,λhz=>?_⟩) ha'.2 hb'.2]
  ·rcases bn.mp ((h z).mp (cy _ hz))with q|q
   ·exact absurd (q ▸ hz) nr
   ·exact q
  ·rcases bn.mp ((h z).mpr (cy _ hz))with q|q
   ·exact absurd (q ▸ hz) nt
   ·exact q
theorem Qb{kz:List (List Int)}(nd:kz.Nodup):(jU kz kz.length).Perm (bx kz.length)/\(jU kz kz.length).Pairwise (λi j=>gj (kz.getD i []) (kz.getD j [])=true):=by
 have O:=So.yK nd;have e:jU kz kz.length=sortI (So.mh kz) (bx kz.length):=by
  unfold jU So.mh
  congr 1
  funext i j;exact(So.wJ _ _).symm
 rw[e];refine⟨So.tX _ _,(So.A5 O (λx hx=>by simpa using hx) xZ).imp λ{i j} h=>?_⟩;rw[<- So.wJ];exact h
theorem O7[Inhabited α](f:α->D){xs ys:List α}(nd:(xs.map key).Nodup)(hm:∀a,a∈xs↔a∈ys)(hs:ys.Pairwise λa b=>gj (key a) (key b)=true):sortBy (xs.map key) (xs.map f)=ys.map f:=by
 obtain⟨h1,h2⟩:=Qb nd;rw[be]at h1 h2;have lt:∀i∈jU (xs.map key) xs.length,i<xs.length:=λi hi=>by simpa using h1.mem_iff.mp hi
 have gd:∀i,i<xs.length->∀(β:Type) (g:α->β) (d:β),(xs.map g).getD i d=g (xs.getD i default):=λi hi β g d=>by simp[hi]
 have e:sortBy (xs.map key) (xs.map f)=((jU (xs.map key) xs.length).map λi=>xs.getD i default).map f:=by unfold sortBy;rw[be,eS];exact BO λi hi=>gd i (lt i hi) _ f _
 have e2 : ((jU (xs.map key) xs.length).map fun i => xs.getD i default) = ys:= by
  refine Eg key (λa=>?_) ?_ hs
  ·rw[<- hm a,cL];constructor
   ·rintro⟨i,hi,rfl⟩;have:=lt i hi;rw[fk,fm this];exact x6 this
   ·intro ha;obtain⟨i,hi,rfl⟩:=List.getElem_of_mem ha;exact⟨i,h1.mem_iff.mpr (fq.mpr hi),by simp[hi]⟩
  ·rw[oy];refine h2.imp_of_mem λ{i j} hi hj h=>?_;rw[gd i (lt i hi) _ key,gd j (lt j hj) _ key]at h;exact h
 rw[e,e2]
end
theorem GU:∀l:List Int,kY (l.map D.int)=aa l
 |[]=>rfl
 |i::r=>by rw[b9,kY,GU r];rfl
theorem GR{α:Type}{ρ:List Nat}{kf:E}{e:Mi.Env}(f:α->D)(key:α->List Int):∀{xs:List α},(∀x∈xs,kf (mi ρ e (f x))=.ok (.lst ((key x).map D.int)))->jx ρ kf e (xs.map f)=.ok (xs.map key)
 |[],_=>rfl
 |x::r,h=>by
  rw[b9,jx,h x b8,aE,tS,GU,kL,aE,GR f key λy hy=>h y (cy _ hy)];rfl
def ky(ac row:List Str):List Int:=row.map λx=>((ac.idxOf x:Nat):Int)
theorem LW{α:Type}[Inhabited α]{ac:List Str}{nx:D}(hq:tD nx=aa ac)(hn:ac.length<=1000)(row:α->List Str){xs ys:List α}(hr:∀x∈xs,(row x).length<=1000/\∀y∈row x,y∈ac)(h64:xs.length<64)(nd:(xs.map λx=>ky ac (row x)).Nodup)
 (hm:∀a,a∈xs↔a∈ys) (hs:ys.Pairwise λa b=>gj (ky ac (row a)) (ky ac (row b))=true) :
 nF [.d nx,.d (.lst (xs.map λx=>.tup ((row x).map D.str)))]=.ok (.d (.lst (ys.map λx=>.tup ((row x).map D.str)))):=by
 unfold nF E1;rw[pE];rw[show([aa (W.d nx),aa (W.d (.lst (xs.map λx=>.tup ((row x).map D.str))))]++c8 (2-2) ae)=[aa (W.d nx),aa (W.d (.lst (xs.map λx=>.tup ((row x).map D.str))))]from rfl];have hk:jx [0] (bX [aa 1,ae] (bM (mV 0)) (.n 1) cU (m2 lE (mV 0) (mV 1))) [aa (W.d nx),aa (W.d (.lst (xs.map λx=>.tup ((row x).map D.str))))] (xs.map λx=>.tup ((row x).map D.str))=.ok (xs.map λx=>ky ac (row x)):=
  GR (λx=>.tup ((row x).map D.str)) (λx=>ky ac (row x)) λx hx=>by
   have hc:dG (.n 1) cU (m2 lE (mV 0) (mV 1)) [aa (W.d nx),ae] ((row x).map D.str)=.ok (((row x).filter λ_=>true).map λy=>D.int ((ac.idxOf y:Nat):Int)):=
    gJ D.str (λy=>D.int ((ac.idxOf y:Nat):Int)) (λ_=>true) (row x) λy hy=>⟨[aa (W.d nx),aa (W.d (.str y))],rfl,rfl,λ_=>aC (x:=nx) (y:=.str y) rfl rfl (by
     show((dh (tD nx)).bind λys=>ba (y∈ys/\ys.length<=1000) (Rs.ok (D.int ((ys.idxOf y:Nat):Int))))=_;rw[hq,kL,aE];exact aK ⟨(hr x hx).2 y hy,hn⟩)⟩
   have hm:=fF (ρ:=[aa 1,ae]) (e:=mi [0] [aa (W.d nx),aa (W.d (.lst (xs.map λx=>.tup ((row x).map D.str))))] (.tup ((row x).map D.str))) (gN (a:=mV 0) (x:=.tup ((row x).map D.str)) rfl rfl) (by rw[be];have:=(hr x hx).1;omega) hc;rw[hm,lU.mpr (λ_ _=>rfl)];show Rs.ok (D.lst _)=Rs.ok (D.lst ((ky ac (row x)).map D.int));unfold ky;rw[eS];rfl
 have hS:xl [0] (mV 1) (bX [aa 1,ae] (bM (mV 0)) (.n 1) cU (m2 lE (mV 0) (mV 1))) [aa (W.d nx),aa (W.d (.lst (xs.map λx=>.tup ((row x).map D.str))))]=.ok (.lst (ys.map λx=>.tup ((row x).map D.str))):=by unfold xl;rw[show mV 1 [aa (W.d nx),aa (W.d (.lst (xs.map λx=>.tup ((row x).map D.str))))]=.ok (.lst (xs.map λx=>.tup ((row x).map D.str)))from rfl,aE];rw[show DP (.lst (xs.map λx=>.tup ((row x).map D.str)))=.ok (xs.map λx=>.tup ((row x).map D.str))from rfl,aE,aK (by rw[be];exact h64),hk,aE,aK nd,O7 (λx=>ky ac (row x)) _ nd hm hs]
 rw[gr (dv hS)];rfl
theorem DV{ac:List Str}(nd:ac.Nodup){i:Nat}(hi:i<ac.length):ac.idxOf (nth ac i)=i:=by
 have e:nth ac i=ac[i]:=by unfold nth;rw[fk,fm hi];rfl
 rw[e];exact nd.idxOf_getElem i hi
theorem iV{ac:List Str}{x y:Str}(hx:x∈ac)(hy:y∈ac)(h:ac.idxOf x=ac.idxOf y):x=y:=by
 have h1:=BX (nq.mpr hx);have h2:=BX (nq.mpr hy);rw[<- h1,<- h2]
 congr 1
def tr(t:RH):List Str:=[t.1,t.2.1,t.2.2]
theorem AZ{α:Type}[DecidableEq α]:∀{l L:List α},l.Nodup->(∀x∈l,x∈L)->l.length<=L.length
 |[],_,_,_=>ft _
 |x::r,L,nd,h=>by
  have nd':=jC.mp nd;have hx:=h x b8;have:=AZ (l:=r) (L:=L.erase x) nd'.2 λy hy=>(JS (λz:y=x=>nd'.1 (z ▸ hy))).mpr (h y (cy _ hy));rw[JK hx]at this;have:=xW hx;rw[dq];omega
theorem me{a b:E}{e:Mi.Env}{x y:D}(h:a e=.ok x)(h':b e=.ok y):mN cF [a,b] e=.ok (.lst [x,y]):=by unfold mN;rw[iI,h,aE,iI,h',aE];rfl
open My (words eA fh)
theorem DL:("abcdefghijklmnopqrstuvwxyz" : Str).cps.toList=(bx 26).map (· + 97):=by decide +kernel
theorem NU{a b c:E}{e:Mi.Env}{i j k:Int}(ha:a e=.ok (.int i))(hb:b e=.ok (.int j))(hc:c e=.ok (.int k))(h1:i<=j)(h2:j<=k):jQ fK fK a b c e=.ok (.bl true):=by unfold jQ;rw[ha,aE,hb,aE];show(Rs.ok (D.bl (decide (i<=j)))).bind _=_;rw[cj h1,aE,mG,aE,aF rfl,hc,aE];show Rs.ok (D.bl (decide (j<=k)))=_;rw[cj h2]
theorem N7{l:List Nat}(hw:eA l):hV [.d (.str (S' l))]=.ok (.d (.bl true)):=by
 unfold hV vI;rw[qJ];rw[show([aa (W.d (.str (S' l)))]++c8 (1-1) ae)=[aa (W.d (.str (S' l)))]from rfl];obtain⟨h1,h8,hl⟩:=hw;have hc:dG (.n 0) cU (m2 dA (mV 0) (mC (.str "abcdefghijklmnopqrstuvwxyz"))) [ae] (l.map λc=>D.str (S' [c]))=.ok ((l.filter λ_=>true).map λc=>D.bl ((λ_=>true) c)):=
  gJ (λc=>D.str (S' [c])) (λc=>D.bl ((λ_=>true) c)) (λ_=>true) l λc hcl=>⟨[aa (.d (.str (S' [c])))],rfl,rfl,λ_=>aC (x:=.str (S' [c])) rfl rfl (by
   show ba ((S' [c]).length=1) (Rs.ok (D.bl (decide ((S' [c]).cps.getD 0 0∈("abcdefghijklmnopqrstuvwxyz" : Str).cps.toList))))=_;have hm:(S' [c]).cps.getD 0 0∈("abcdefghijklmnopqrstuvwxyz" : Str).cps.toList:=by rw[DL];have:=hl c hcl;exact cL.mpr ⟨c-97,fq.mpr (by omega),by show c-97+97=c;omega⟩
   rw[aK (by rw[jM];rfl),cj hm])⟩
 rw[lU.mpr (λ_ _=>rfl)]at hc;have h2:mN nE [(bX [ae] (bM (mV 0)) (.n 0) cU (m2 dA (mV 0) (mC (.str "abcdefghijklmnopqrstuvwxyz"))))] [aa (W.d (.str (S' l)))]=.ok (.bl true):=by refine(et (fF (ρ:=[ae]) (gN (a:=mV 0) (x:=.str (S' l)) rfl rfl) (by rw[be,xi];omega) hc)).trans ?_;rw[vX,vN,kL,aE,sJ];show Rs.ok (D.bl (l.all λ_=>true))=_;rw[sG.mpr (λ_ _=>rfl)]
 have h3:jQ fK fK (mC (.int 1)) (mN bH [(mV 0)]) (mC (.int 8)) [aa (W.d (.str (S' l)))]=.ok (.bl true):=NU (j:=((l.length:Nat):Int)) rfl ((et (x:=.str (S' l)) rfl).trans (by rw[AU,aK (by rw[jM];omega),jM])) rfl (by omega) (by omega);rw[gr (dv (vZ h3 λ_=>h2))];rfl
theorem Mz{α:Type}{l:List α}(nd:l.Nodup){i:Nat}{x:α}(hx:l[i]? = aa x):x∉l.take i:=λz=>by
 obtain⟨il,hxe⟩:=dm.mp hx;obtain⟨j,hj⟩:=sC z;have hj2:=(dm.mp hj).1;rw[k8]at hj2;rw[JJ (by omega)]at hj;obtain⟨jl,hje⟩:=dm.mp hj;have:=(qk nd).mp (hje.trans hxe.symm);omega
def kT(p:Ar):List Ky:=[.inr p.1,.inr p.2]
theorem HJ{p q:Ar}(h:kT p=kT q):p=q:=by obtain⟨a,b⟩:=p;obtain⟨c,d⟩:=q;simp only[kT,KJ,Sum.inr.injEq,and_true]at h;rw[h.1,h.2]
def iY(ps:List Ar):W:=.dt (ps.map λp=>(kT p,D.bl true))
theorem MZ(ps:List Ar)(p:Ar):(j3 (ps.map λp=>(kT p,D.bl true)) (kT p)).isSome=decide (p∈ps):=by
 unfold j3
 induction ps with
 |nil=>rfl
 |cons a r ih=>
  rw[b9,lV];by_cases h:a=p
  ·subst h;simp
  ·rw[c6 (λz:kT a=kT p=>h (HJ z))];simp only[ih];simp[bU h]
theorem Gz{i:Nat}{k:E}{e:Mi.Env}{ps:List Ar}{p:Ar}(hk:k e=.ok (pairD p))(hw:wV i e=.ok (iY ps)):g7 i k e=.ok (.bl (decide (p∈ps))):=by unfold g7;rw[hk,aE,hw,aE,<- MZ];rfl
theorem wK{i:Nat}{k:E}{e:Mi.Env}{ps:List Ar}{p:Ar}(hk:k e=.ok (pairD p))(hw:wV i e=.ok (iY ps))(hn:p∉ps)(hl:ps.length<=1000):fV i k (mC (.bl true)) e=.ok (.nx (e.set i (aa (iY (ps++[p]))))):=by
 unfold fV;have h1:y3 (iY ps) (pairD p) (.bl true)=.ok (iY (ps++[p])):=by
  show ba ((ps.map λp=>(kT p,D.bl true)).length<16777216) (Rs.ok (W.dt (Mi.putK (kT p) (.bl true) (ps.map λp=>(kT p,D.bl true)))))=_;rw[aK (by rw[be];omega)];unfold Mi.putK;rw[aG (by
   rw[List.any_map,Bool.not_eq_true,BY];intro z hz;simp only[KL,jX];exactλq=>hn (HJ q ▸ hz))]
  unfold iY;rw[lW];rfl
 rw[show mC (.bl true) e=.ok (.bl true)from rfl,aE,hk,aE,hw,aE,h1];rfl
def both(xs:List Ar):List Ar:=xs.flatMap λp=>[p,(p.2,p.1)]
theorem wW{xs:List Ar}{q:Ar}:q∈both xs↔∃p∈xs,q=p\/q=(p.2,p.1):=by unfold both;simp[B3]
theorem I9(xs:List Ar):(both xs).length=2*xs.length:=by
 induction xs with
 |nil=>rfl
 |cons a r ih=>unfold both at *;rw[ow,d6,ih];simp;omega
structure Apart(ac:List Str)(xs:List Ar):Prop where
 inn:∀p∈xs,p.1∈ac/\p.2∈ac
 irr:∀p∈xs,p.1≠p.2
 pw:xs.Pairwise λp q=>p≠q/\p≠(q.2,q.1)
def qX(p:Ar):List Str:=[p.1,p.2]
theorem xy.apart{ac:List Str}{A:List Ix}{r:Nat->Int}(N:xy ac A r):Apart ac (A.map (arrOf ac)):=by
 refine⟨λp hp=>?_,λp hp=>?_,?_⟩
 ·obtain⟨q,hq,rfl⟩:=cL.mp hp;exact⟨GZ (N.all q hq).1,GZ (N.all q hq).2.1⟩
 ·obtain⟨q,hq,rfl⟩:=cL.mp hp;obtain⟨h1,h2,h3⟩:=N.all q hq;intro z;have:=tK N.nd h1 h2 z;rw[this]at h3;omega
 ·rw[oy];refine vg (λ{p q} hp hq h=>?_) N.dS;obtain⟨h1,h2,h3⟩:=N.all p hp;obtain⟨k1,k2,k3⟩:=N.all q hq;refine⟨λz=>?_,λz=>?_⟩
  ·have e1:=tK N.nd h1 k1 (congrArg yx z);have e2:=tK N.nd h2 k2 (congrArg vj z);rcases h with h|⟨_,h⟩<;>omega
  ·have e1:=tK N.nd h1 k2 (congrArg yx z);have e2:=tK N.nd h2 k1 (congrArg vj z);rw[e1,e2]at h3;omega
def wT:List Ix:=((bx 64).map λn=>(n/8,n%8)).filter λp=>decide (p.1≠p.2)
theorem Ol:wT.length=56:=by decide +kernel
theorem QK{α:Type}(xs:List α)(k:Nat):jZ xs (aa (k:Int)) ae=xs.drop k:=by
 have e:c7 xs.length 0 (aa (k:Int))=min k xs.length:=by show(if(k:Int)<0 then((k:Int)+(xs.length:Int)).toNat else min (k:Int).toNat xs.length)=_;rw[aG (by omega),ir]
 unfold jZ;rw[e,show c7 xs.length xs.length ae=xs.length from rfl];rcases vb k xs.length with h|h
 ·rw[qo h];exact sB (by rw[iM];exact bu _)
 ·rw[qm h,Nat.sub_self,List.take_zero,u0 h]
theorem QP(ac:List Str)(ai:List Ar):gQ 4 [.d (aX ac ai),.d (aX ac ai)]=.ok (.d (.bl true)):=
 we (F:=gQ 3) false [jW ac,pA ai] λd hd=>by
  rcases bn.mp hd with rfl|hd
  ·exact we (F:=gQ 2) false (ac.map D.str) λd hd=>by
    obtain⟨x,_,rfl⟩:=cL.mp hd;exact zP 1 x
  ·rw[dI.mp hd];exact we (F:=gQ 2) false (ai.map pairD) λd hd=>by
    obtain⟨p,_,rfl⟩:=cL.mp hd;exact No 0 p
theorem ME(ac:List Str)(xs:List Ar):dQ (.lst [.lst (ac.map D.str),.lst (xs.map pairD)]) (.lst [.lst (ac.map D.str),.lst (xs.map pairD)])=.ok (.bl false):=by
 unfold dQ;rw[aK (by
  rw[y8];have h1:=tE xs;rw[uk,uk,y8,y8,Qw,ud];omega),bz,d3,d3,d3]
 rw[bz,bz,F8,zi,cj rfl,cj rfl];rfl
end Mr
namespace Mr
open PySem Mi
def Sh(x:Str):Prop:=x.length<=100/\∀c∈x.cps.toList,c<128
theorem Sh.rep{x:Str}(h:Sh x):(xF x).length<=100000:=by have h1:=Kv x λc hc=>yh (h.2 c hc) (by decide);have h2:=h.1;omega
theorem kE{c:C}{e:Mi.Env}{b:Bool}(h:c e=.ok b):cP c e=.ok b:=nU h
theorem mK{m:S}{e:Mi.Env}{o:Out}(h:m e=.ok o):sP m e=.ok o:=nU h
theorem v5{m:I}{e:Mi.Env}{o:List D}(h:m e=.ok o):iP m e=.ok o:=nU h
theorem rF{c:String}{gs:List (Mi.Env->Bool)}{e:Mi.Env}(h:(gs.all λg=>g e)=true):fM c gs e=.ex ⟨c,[]⟩:=aF h
theorem p6{s t:S}{e:Mi.Env}{z:di}(h:s e=.ex z):aA s t e=.ex z:=by unfold aA;rw[h];rfl
theorem O9{f:Fn}{a b:EW}{e:Mi.Env}{x y:W}{z:di}(h:a e=.ok x)(h':b e=.ok y)(hf:f [x,y]=.ex z):gW f [a,b] e=.ex z:=by unfold gW;rw[cO,h,aE,cO,h',aE,cO,aE];show((f [x,y]).bind λ_=>_)=_;rw[hf];rfl
theorem uQ{i:Nat}{e:Mi.Env}{x:Str}(h:e[i]? = aa (aa (.d (.str x))))(s:Sh x):gR i e=true:=by unfold gR;rw[h];exact cj s.rep
abbrev DZ:di:=⟨"NoName", []⟩
abbrev nn:D:=.lst [.str "NoName"]
def gO(c:Nat):Str:=⟨#[c]⟩
open My (words eA fh)
theorem mU{tg:Tg}{b:S}{d:D}{r:List D}{e e0 e1:Mi.Env}{o:Rs Out}(hp:tg.put d e=.ok e0)(hb:b e0=.ok (.nx e1))(t:dB tg b r e1=o):dB tg b (d::r) e=o:=by rw[dB,hp,aE,hb,aE];exact t
def ixs(ac:List Str)(B:List Ar):List Ix:=(bx ac.length).flatMap λi=>((bx ac.length).filter λj=>decide ((nth ac i,nth ac j)∈B)).map λj=>(i,j)
theorem GL(ac:List Str):(bx ac.length).map (nth ac)=ac:=by refine List.ext_getElem (by rw[be,sE]) λi h1 h2=>?_;rw[List.getElem_map,BW];unfold nth;rw[fk,fm h2];rfl
theorem NK(ac:List Str)(B:List Ar):(ixs ac B).map (arrOf ac)=dS ac B:=by
 unfold ixs dS;rw[DF];have e:ac.flatMap (λt=>(ac.filter λh=>decide ((t,h)∈B)).map λh=>(t,h))=((bx ac.length).map (nth ac)).flatMap (λt=>(ac.filter λh=>decide ((t,h)∈B)).map λh=>(t,h)):=by rw[GL]
 rw[e,List.flatMap_map];refine Gw λi _=>?_;have e2:ac.filter (λh=>decide ((nth ac i,h)∈B))=((bx ac.length).map (nth ac)).filter (λh=>decide ((nth ac i,h)∈B)):=by rw[GL]
 rw[e2,List.filter_map,eS,eS];rfl
theorem RF{ac:List Str}{B:List Ar}{p:Ix}:p∈ixs ac B↔p.1<ac.length/\p.2<ac.length/\(nth ac p.1,nth ac p.2)∈B:=by
 unfold ixs;rw[B3];constructor
 ·rintro⟨i,hi,h⟩;obtain⟨j,hj,rfl⟩:=cL.mp h;obtain⟨h1,h2⟩:=fo.mp hj;exact⟨fq.mp hi,fq.mp h1,wt h2⟩
 ·rintro⟨h1,h2,h3⟩;exact⟨p.1,fq.mpr h1,cL.mpr ⟨p.2,fo.mpr ⟨fq.mpr h2,cj h3⟩,rfl⟩⟩
theorem Oa(p q:Ar):dQ (pairD p) (pairD q)=.ok (.bl (!decide (p=q))):=by unfold dQ;rw[aK (by have:=tE [p];simp only[b9,u8,uk]at this;omega),Eo]
theorem E2{f:Fn}{a b:EW}{e:Mi.Env}{x y w:W}(h:a e=.ok x)(h':b e=.ok y)(hf:f [x,y]=.ok w):gW f [a,b] e=.ok (.nx e):=by unfold gW;rw[cO,h,aE,cO,h',aE,cO,aE];show((f [x,y]).bind λ_=>_)=_;rw[hf];rfl
end Mr
namespace Mr
open PySem Mi
open My (words eA fh lG)
def low(c:Nat):Bool:=decide (97<=c)&&decide (c<=122)
def isW(x:Str):Bool:=(decide (1<=x.length)&&decide (x.length<=8))&&x.cps.toList.all low
theorem zX{a b c:E}{e:Mi.Env}{i j k:Int}(ha:a e=.ok (.int i))(hb:b e=.ok (.int j))(hc:c e=.ok (.int k)):jQ fK fK a b c e=.ok (.bl (decide (i<=j)&&decide (j<=k))):=by
 unfold jQ;rw[ha,aE,hb,aE,F7,aE,mG,aE];cases decide (i<=j)with
 |true=>rw[aF rfl,hc,aE,F7,B6]
 |false=>rw[aG dN,Bool.false_and]
theorem len_str{a:E}{e:Mi.Env}{x:Str}(h:a e=.ok (.str x))(hx:x.length<=1000):mN bH [a] e=.ok (.int (x.length:Int)):=(et h).trans ((AU x).trans (aK (by omega)))
theorem Ik(x:Str):uK (.str x)=.ok (x.cps.toList.map λc=>D.str (gO c)):=rfl
theorem len_list(x:Str):x.cps.toList.length=x.length:=qu
theorem DJ(c:Nat):decide (c∈("abcdefghijklmnopqrstuvwxyz" : Str).cps.toList)=low c:=by
 unfold low;rw[<- Bool.decide_and];refine oW.mpr ?_;rw[DL];constructor
 ·intro h;obtain⟨k,hk,rfl⟩:=cL.mp h;have:=fq.mp hk;omega
 ·exactλh=>cL.mpr ⟨c-97,fq.mpr (by omega),by show c-97+97=c;omega⟩
theorem Pu{x:Str}(hx:x.length<=1000):hV [.d (.str x)]=.ok (.d (.bl (isW x))):=by
 unfold hV vI;rw[qJ];rw[show([aa (W.d (.str x))]++c8 (1-1) ae)=[aa (W.d (.str x))]from rfl];have hc:dG (.n 0) cU (m2 dA (mV 0) (mC (.str "abcdefghijklmnopqrstuvwxyz"))) [ae] (x.cps.toList.map λc=>D.str (gO c))=.ok ((x.cps.toList.filter λ_=>true).map λc=>D.bl (low c)):=
  gJ (λc=>D.str (gO c)) (λc=>D.bl (low c)) (λ_=>true) _ λc _=>⟨[aa (.d (.str (gO c)))],rfl,rfl,λ_=>aC (x:=.str (gO c)) rfl rfl (by
   show ba ((gO c).length=1) (Rs.ok (D.bl (decide ((gO c).cps.getD 0 0∈("abcdefghijklmnopqrstuvwxyz" : Str).cps.toList))))=_;rw[aK (show(gO c).length=1 from rfl),show(gO c).cps.getD 0 0=c from rfl,DJ])⟩
 rw[lU.mpr (λ_ _=>rfl)]at hc;have h2:mN nE [(bX [ae] (bM (mV 0)) (.n 0) cU (m2 dA (mV 0) (mC (.str "abcdefghijklmnopqrstuvwxyz"))))] [aa (W.d (.str x))]=.ok (.bl (x.cps.toList.all low)):=by refine(et (fF (ρ:=[ae]) (gN (a:=mV 0) (x:=.str x) rfl (Ik x)) (by rw[be,len_list];omega) hc)).trans ?_;rw[vX,vN,kL,aE,sJ];rfl
 have h3:jQ fK fK (mC (.int 1)) (mN bH [(mV 0)]) (mC (.int 8)) [aa (W.d (.str x))]=.ok (.bl (decide (1<=x.length)&&decide (x.length<=8))):=by refine(zX rfl (len_str rfl hx) rfl).trans ?_;rw[show decide ((1:Int)<=(x.length:Int))=decide (1<=x.length)from oW.mpr (by omega),show decide ((x.length:Int)<=8)=decide (x.length<=8)from oW.mpr (by omega)]
 rw[gr (dv (vZ h3 λ_=>h2))];rfl
inductive Du where
 |ok|ws|nw|tw|nn
 deriving DecidableEq
def Du.c:Du->String
 |.ok => "" | .ws => "WrongSize" | .nw => "NoWord" | .tw => "Twice" | .nn => "NoName"
def lN(pre:List Str):List Str->Du
 |[]=>.ok
 |x::r=>if isW x=false then .nw else if x∈pre then .tw else lN (pre++[x]) r
def lM(ac:List Str):Du:=if 1<=ac.length/\ac.length<=8 then lN [] ac else .ws
theorem FN:∀(r pre:List Str),lN pre r=.ok->(∀x∈r,isW x=true)/\(∀x∈r,x∉pre)/\r.Nodup
 |[],pre,_=>⟨λ_ h=>(nomatch h),λ_ h=>(nomatch h),u7⟩
 |x::r,pre,h=>by
  rw[lN]at h;split at h
  ·cases h
  ·rename_i h1;split at h
   ·cases h
   ·rename_i h2;obtain⟨a,b,c⟩:=FN r _ h;refine⟨λy hy=>?_,λy hy=>?_,jC.mpr ⟨λz=>b x z (by simp),c⟩⟩
    ·rcases bn.mp hy with rfl|hy
     ·cases z:isW y with
      |true=>rfl
      |false=>exact absurd z h1
     ·exact a y hy
    ·rcases bn.mp hy with rfl|hy
     ·exact h2
     ·exactλz=>b y hy (k4 _ z)
theorem IF{ac:List Str}(h:lM ac=.ok):(1<=ac.length/\ac.length<=8)/\(∀x∈ac,isW x=true)/\ac.Nodup:=by
 unfold lM at h;split at h
 ·obtain⟨a,_,c⟩:=FN ac [] h;exact⟨‹_›,a,c⟩
 ·cases h
theorem re{xs:List Str}{a:E}{e:Mi.Env}(h:a e=.ok (aj xs)):mN bH [a] e=.ok (.int (xs.length:Int)):=(et h).trans (by unfold aj;rw[zW,be])
theorem wF{xs:List Ar}{a:E}{e:Mi.Env}(h:a e=.ok (au xs)):mN bH [a] e=.ok (.int (xs.length:Int)):=(et h).trans (by unfold au;rw[zW,be])
theorem rC{c:C}{s t:S}{e:Mi.Env}{z:di}(h:c e=.ok true)(hs:s e=.ex z):a9 c s t e=.ex z:=(i7 h).trans hs
theorem qz{tg:Tg}{b:S}{d:D}{r:List D}{e e0:Mi.Env}{z:di}(hp:tg.put d e=.ok e0)(hb:b e0=.ex z):dB tg b (d::r) e=.ex z:=by rw[dB,hp,aE,hb];rfl
theorem Hr{ac:List Str}(hs:∀x∈ac,Sh x)(hl:ac.length<=100):∀(r pre:List Str) (o2:Option W),ac=pre++r ->
 (lN pre r=.ok->∃p2 ks,dB (.n 2) (aA (a9 (cP (c9 (cB (bp hV [(wD (mV 2))]))))
 (fM "NoWord" [(gR 2),(λ_=>true)])
 (sP bf))
 (aA (a9 (cP (cB (g7 1 (mV 2))))
 (fM "Twice" [(gR 2),(λ_=>true)])
 (sP bf))
 (sP (fV 1 (mV 2) (mC (.bl true)))))) (r.map D.str) [aa (W.d (aj ac)),aa (fQ pre),o2]=.ok (.nx [aa (W.d (aj ac)),aa (fQ ks),p2])) /\
 (lN pre r≠.ok->dB (.n 2) (aA (a9 (cP (c9 (cB (bp hV [(wD (mV 2))]))))
 (fM "NoWord" [(gR 2),(λ_=>true)])
 (sP bf))
 (aA (a9 (cP (cB (g7 1 (mV 2))))
 (fM "Twice" [(gR 2),(λ_=>true)])
 (sP bf))
 (sP (fV 1 (mV 2) (mC (.bl true)))))) (r.map D.str) [aa (W.d (aj ac)),aa (fQ pre),o2]=.ex ⟨(lN pre r).c,[]⟩)
 |[],pre,o2,_=>⟨λ_=>⟨o2,pre,rfl⟩,λh=>absurd rfl h⟩
 |x::r,pre,o2,he=>by
  have mx:x∈ac:=by rw[he];simp
  have sx:=hs x mx;have c1:cP (c9 (cB (bp hV [(wD (mV 2))]))) [aa (W.d (aj ac)),aa (fQ pre),aa (W.d (.str x))]=.ok (!isW x):=kE (pP (cf (zb rfl (Pu (by have:=sx.1;omega)))));have c2:cP (cB (g7 1 (mV 2))) [aa (W.d (aj ac)),aa (fQ pre),aa (W.d (.str x))]=.ok (decide (x∈pre)):=kE (cf (Sc (y:=x) (fs:=pre) rfl rfl));have gg:(([(gR 2),(λ_=>true)]:List (Mi.Env->Bool)).all λg=>g [aa (W.d (aj ac)),aa (fQ pre),aa (W.d (.str x))])=true:=by show(gR 2 _&&(true&&true))=true;rw[uQ (x:=x) rfl sx];rfl
  rw[b9,lN];cases hw:isW x with
  |false=>
   rw[hw]at c1;refine⟨λh=>(by rw[aF rfl]at h;cases h),λ_=>?_⟩;rw[aF rfl];exact qz (e0:=[aa (W.d (aj ac)),aa (fQ pre),aa (W.d (.str x))]) rfl (p6 (rC c1 (rF gg)))
  |true=>
   rw[hw]at c1;rw[aG (λh=>by cases h)];by_cases hp:x∈pre
   ·rw[cj hp]at c2;refine⟨λh=>(by rw[aF hp]at h;cases h),λ_=>?_⟩;rw[aF hp];exact qz (e0:=[aa (W.d (aj ac)),aa (fQ pre),aa (W.d (.str x))]) rfl ((aI ((cS c1).trans rfl)).trans (p6 (rC c2 (rF gg))))
   ·rw[c6 hp]at c2;rw[aG hp];have hpre:pre.length<=1000:=by
     have:pre.length<=ac.length:=by rw[he];simp
     omega
    have st:(aA (a9 (cP (c9 (cB (bp hV [(wD (mV 2))])))) (fM "NoWord" [(gR 2),(λ_=>true)]) (sP bf)) (aA (a9 (cP (cB (g7 1 (mV 2)))) (fM "Twice" [(gR 2),(λ_=>true)]) (sP bf)) (sP (fV 1 (mV 2) (mC (.bl true)))))) [aa (W.d (aj ac)),aa (fQ pre),aa (W.d (.str x))]=.ok (.nx [aa (W.d (aj ac)),aa (fQ (pre++[x])),aa (W.d (.str x))]):=
     (aI ((cS c1).trans rfl)).trans ((aI ((cS c2).trans rfl)).trans (mK (SX (y:=x) (fs:=pre) rfl rfl hp hpre)))
    obtain⟨i1,i2⟩:=Hr hs hl r (pre++[x]) (aa (W.d (.str x))) (by rw[he];simp);exact⟨λh=>by obtain⟨p2,ks,ih⟩:=i1 h;exact⟨p2,ks,mU rfl st ih⟩,λh=>mU rfl st (i2 h)⟩
theorem M4{ac:List Str}(hs:∀x∈ac,Sh x)(hl:ac.length<=100):(lM ac=.ok->qM [.d (aj ac)]=.ok (.d .non))/\(lM ac≠.ok->qM [.d (aj ac)]=.ex ⟨(lM ac).c,[]⟩):=by
 unfold qM IU;rw[qJ];rw[show([aa (W.d (aj ac))]++c8 (3-1) ae)=[aa (W.d (aj ac)),ae,ae]from rfl];have ct:cP (c9 (cB (jQ fK fK (mC (.int 1)) (mN bH [(mV 0)]) (mC (.int 8))))) [aa (W.d (aj ac)),ae,ae]=.ok (!(decide ((1:Int)<=(ac.length:Int))&&decide ((ac.length:Int)<=8))):=kE (pP (cf (zX rfl (re rfl) rfl)));unfold lM;by_cases h:1<=ac.length/\ac.length<=8
 ·rw[aF h];rw[cj (by omega),cj (by omega)]at ct;obtain⟨i1,i2⟩:=Hr hs hl ac [] ae rfl;have hit:iP (bM (mV 0)) [aa (W.d (aj ac)),aa (fQ []),ae]=.ok (ac.map D.str):=v5 (gN (a:=mV 0) (x:=aj ac) rfl rfl);refine⟨λhk=>?_,λhk=>?_⟩
  ·obtain⟨p2,ks,lp⟩:=i1 hk;rw[aI ((cS ct).trans rfl),aI (e':=[aa (W.d (aj ac)),aa (fQ []),ae]) rfl,i9 hit,lp];rfl
  ·rw[aI ((cS ct).trans rfl),aI (e':=[aa (W.d (aj ac)),aa (fQ []),ae]) rfl,i9 hit,i2 hk];rfl
 ·rw[aG h];have e:(!(decide ((1:Int)<=(ac.length:Int))&&decide ((ac.length:Int)<=8)))=true:=by
   rw[J0,JY,rA,rA];omega
  rw[e]at ct;refine⟨λhk=>(nomatch hk),λ_=>?_⟩;rw[p6 (rC ct (rF rfl))];rfl
def gU(ac:List Str)(pre:List Ar):List Ar->Du
 |[]=>.ok
 |p::r=>if p.1∉ac\/p.2∉ac then .nn else if p.1=p.2\/p∈pre\/(p.2,p.1)∈pre then .tw else gU ac (pre++[p]) r
structure y9(ac:List Str)(r:List Ar):Prop where
 inn:∀p∈r,p.1∈ac/\p.2∈ac/\p.1≠p.2
 pw:r.Pairwise λp q=>p≠q/\(p.2,p.1)≠q
theorem IE{ac:List Str}:∀(r pre:List Ar),gU ac pre r=.ok->y9 ac r/\∀p∈r,p∉pre/\(p.2,p.1)∉pre
 |[],pre,_=>⟨⟨λ_ h=>(nomatch h),Cf⟩,λ_ h=>(nomatch h)⟩
 |p::r,pre,h=>by
  rw[gU]at h;split at h
  ·cases h
  ·rename_i h1;split at h
   ·cases h
   ·rename_i h2;obtain⟨G,b⟩:=IE r _ h;have i1:p.1∈ac:=lf λz=>h1 (.inl z);have i2:p.2∈ac:=lf λz=>h1 (.inr z);refine⟨⟨λq hq=>?_,k7.mpr ⟨λq hq=>?_,G.pw⟩⟩,λq hq=>?_⟩
    ·rcases bn.mp hq with rfl|hq
     ·exact⟨i1,i2,λz=>h2 (.inl z)⟩
     ·exact G.inn q hq
    ·obtain⟨b1,b2⟩:=b q hq;refine⟨λz=>b1 (by rw[<- z];simp),λz=>b2 (by rw[<- z];simp)⟩
    ·rcases bn.mp hq with rfl|hq
     ·exact⟨λz=>h2 (.inr (.inl z)),λz=>h2 (.inr (.inr z))⟩
     ·obtain⟨b1,b2⟩:=b q hq;exact⟨λz=>b1 (k4 _ z),λz=>b2 (k4 _ z)⟩
theorem OR{ac asked:List Str}(h:∃x∈asked,x∉ac)(hs:∀x∈asked,Sh x):lJ [.d (aj ac),.d (aj asked)]=.ex DZ:=by
 unfold lJ Av;rw[i4];rw[show([aa (W.d (aj ac)),aa (W.d (aj asked))]++c8 (3-2) ae)=[aa (W.d (aj ac)),aa (W.d (aj asked)),ae]from rfl];have key:∀(l:List Str) (o:Option W),(∃x∈l,x∉ac)->(∀x∈l,Sh x)->dB (.n 2) (a9 (cP (cB (m2 eB (mV 2) (mV 0)))) (fM "NoName" [(gR 2),(λ_=>true)]) (sP bf)) (l.map D.str) [aa (W.d (aj ac)),aa (W.d (aj asked)),o]=.ex DZ:=by
  intro l
  induction l with
  |nil=>intro o hx;obtain⟨x,hx,_⟩:=hx;exact nomatch hx
  |cons a r ih=>
   intro o hx hsh;have ct:cP (cB (m2 eB (mV 2) (mV 0))) [aa (W.d (aj ac)),aa (W.d (aj asked)),aa (.d (.str a))]=.ok (!decide (a∈ac)):=kE (cf (aC rfl rfl (qI ac a)));rw[b9];by_cases ha:a∈ac
   ·rw[cj ha]at ct;obtain⟨x,hx,hn⟩:=hx;rcases bn.mp hx with rfl|hx
    ·exact absurd ha hn
    ·exact mU rfl ((cS ct).trans rfl) (ih _ ⟨x,hx,hn⟩ λy hy=>hsh y (cy _ hy))
   ·rw[c6 ha]at ct;exact qz (e0:=[aa (W.d (aj ac)),aa (W.d (aj asked)),aa (.d (.str a))]) rfl (rC ct (rF (by
     show(gR 2 [aa (W.d (aj ac)),aa (W.d (aj asked)),aa (.d (.str a))]&&(true&&true))=true;rw[uQ rfl (hsh a (b8 ..))];rfl)))
 rw[i9 (v5 (gN (a:=mV 1) (x:=aj asked) rfl rfl)),key asked ae h hs];rfl
theorem ES{ac asked:List Str}(h:∀x∈asked,x∈ac):lJ [.d (aj ac),.d (aj asked)]=.ok (.d .non):=by
 unfold lJ Av;rw[i4];rw[show([aa (W.d (aj ac)),aa (W.d (aj asked))]++c8 (3-2) ae)=[aa (W.d (aj ac)),aa (W.d (aj asked)),ae]from rfl];obtain⟨e',f1,o,he⟩:=nG (tg:=.n 2) (body:=(a9 (cP (cB (m2 eB (mV 2) (mV 0)))) (fM "NoName" [(gR 2),(λ_=>true)]) (sP bf)))
  (λi e=>∃o:Option W,e=[aa (W.d (aj ac)),aa (W.d (aj asked)),o]) (asked.map D.str) 0 (λi d e hi ⟨o,he⟩=>by
   subst he;rw[eE]at hi;obtain⟨x,hx,rfl⟩:=oA.mp hi;have ct:cP (cB (m2 eB (mV 2) (mV 0))) [aa (W.d (aj ac)),aa (W.d (aj asked)),aa (.d (.str x))]=.ok (!decide (x∈ac)):=kE (cf (aC rfl rfl (qI ac x)));rw[cj (h x (lS hx))]at ct;exact⟨[aa (W.d (aj ac)),aa (W.d (aj asked)),aa (.d (.str x))],_,rfl,(cS ct).trans rfl,_,rfl⟩) [aa (W.d (aj ac)),aa (W.d (aj asked)),ae] ⟨ae,rfl⟩
 subst he;rw[i9 (v5 (gN (a:=mV 1) (x:=aj asked) rfl rfl)),f1];rfl
abbrev uC:S:=(aA (gW lJ [(wD (mV 0)),(wD (mN cF [(mV 3),(mV 4)]))])
 (aA (a9 (cP (cB (m2 fw (mV 3) (mV 4))))
 (fM "Twice" [(λ_=>true),(gR 3),(λ_=>true)])
 (sP bf))
 (aA (a9 (cP (cB (g7 2 (mN dTup [(mV 3),(mV 4)]))))
 (fM "Twice" [(λ_=>true),(gR 3),(λ_=>true),(gR 4)])
 (sP bf))
 (aA (sP (fV 2 (mN dTup [(mV 3),(mV 4)]) (mC (.bl true))))
 (sP (fV 2 (mN dTup [(mV 4),(mV 3)]) (mC (.bl true))))))))
theorem FA{ac:List Str}{v1:W}:∀(r pre:List Ar) (o3 o4:Option W),(∀p∈r,Sh p.1/\Sh p.2)->pre.length+r.length<=100->gU ac pre r≠.ok->dB (.t [3,4]) uC (r.map pairD) [aa (W.d (aj ac)),aa v1,aa (iY (both pre)),o3,o4]=.ex ⟨(gU ac pre r).c,[]⟩
 |[],pre,o3,o4,_,_,h=>absurd rfl h
 |p::r,pre,o3,o4,hs,hl,hk=>by
  obtain⟨s1,s2⟩:=hs p (b8 ..);let e0:Mi.Env:=[aa (W.d (aj ac)),aa v1,aa (iY (both pre)),aa (W.d (.str p.1)),aa (W.d (.str p.2))];rw[gU]at hk ⊢;rw[b9];by_cases h1:p.1∉ac\/p.2∉ac
  ·rw[aF h1];refine qz (e0:=e0) rfl (p6 (O9 (x:=.d (aj ac)) (y:=.d (aj [p.1,p.2])) rfl (dv (me rfl rfl)) (OR ?_ λz hz=>?_)))
   ·rcases h1 with z|z
    ·exact⟨p.1,b8 ..,z⟩
    ·exact⟨p.2,by simp,z⟩
   ·rcases bn.mp hz with rfl|hz
    ·exact s1
    ·rw[dI.mp hz];exact s2
  ·rw[aG h1]at hk ⊢;have i1:p.1∈ac:=lf λz=>h1 (.inl z);have i2:p.2∈ac:=lf λz=>h1 (.inr z);have q1:gW lJ [(wD (mV 0)),(wD (mN cF [(mV 3),(mV 4)]))] e0=.ok (.nx e0):=E2 (x:=.d (aj ac)) (y:=.d (aj [p.1,p.2])) rfl (dv (me rfl rfl)) (ES λz hz=>by
    rcases bn.mp hz with rfl|hz
    ·exact i1
    ·rw[dI.mp hz];exact i2)
   have c1:cP (cB (m2 fw (mV 3) (mV 4))) e0=.ok (decide (p.1=p.2)):=kE (cf (aC rfl rfl (wf p.1 p.2)));have c2:cP (cB (g7 2 (mN dTup [(mV 3),(mV 4)]))) e0=.ok (decide (p∈both pre)):=kE (cf (Gz (p:=p) (ps:=both pre) (gI rfl rfl) rfl));have gA:(([(λ_=>true),(gR 3),(λ_=>true)]:List (Mi.Env->Bool)).all λg=>g e0)=true:=by show(true&&(gR 3 e0&&(true&&true)))=true;rw[uQ (x:=p.1) rfl s1];rfl
   have gB:(([(λ_=>true),(gR 3),(λ_=>true),(gR 4)]:List (Mi.Env->Bool)).all λg=>g e0)=true:=by show(true&&(gR 3 e0&&(true&&(gR 4 e0&&true))))=true;rw[uQ (x:=p.1) rfl s1,uQ (x:=p.2) rfl s2];rfl
   by_cases h2:p.1=p.2
   ·rw[aF (.inl h2)];rw[cj h2]at c1;exact qz (e0:=e0) rfl ((aI q1).trans (p6 (rC c1 (rF gA))))
   ·rw[c6 h2]at c1;have mb:p∈both pre↔p∈pre\/(p.2,p.1)∈pre:=by
     rw[wW];constructor
     ·rintro⟨q,hq,rfl|e⟩
      ·exact .inl hq
      ·right;rw[e];exact hq
     ·rintro(h|h)
      ·exact⟨p,h,.inl rfl⟩
      ·exact⟨(p.2,p.1),h,.inr rfl⟩
    by_cases h3:p∈pre\/(p.2,p.1)∈pre
    ·rw[aF (.inr h3)];rw[cj (mb.mpr h3)]at c2;exact qz (e0:=e0) rfl ((aI q1).trans ((aI ((cS c1).trans rfl)).trans (p6 (rC c2 (rF gB)))))
    ·have h23:¬ (p.1=p.2\/p∈pre\/(p.2,p.1)∈pre):=λz=>z.elim h2 h3;rw[aG h23]at hk ⊢;have n1:p∉both pre:=λz=>h3 (mb.mp z);rw[c6 n1]at c2;have n2:(p.2,p.1)∉both pre++[p]:=λz=>by
      rcases gF.mp z with z|z
      ·obtain⟨q,hq,e|e⟩:=wW.mp z
       ·exact h3 (.inr (by rw[e];exact hq))
       ·exact h3 (.inl (by rw[Ch]at e;simp at e;rw[show p=q from ma e.2 e.1];exact hq))
      ·have:=dI.mp z;exact h2 (congrArg vj this)
     have hb:(both pre).length<=200:=by rw[I9];simp only[dq]at hl;omega
     have st:uC e0=.ok (.nx [aa (W.d (aj ac)),aa v1,aa (iY (both (pre++[p]))),aa (W.d (.str p.1)),aa (W.d (.str p.2))]):=by refine(aI q1).trans ((aI ((cS c1).trans rfl)).trans ((aI ((cS c2).trans rfl)).trans ?_));rw[aI (mK (wK (p:=p) (ps:=both pre) (gI rfl rfl) rfl n1 (by omega)))];rw[mK (wK (p:=(p.2,p.1)) (ps:=both pre++[p]) (gI rfl rfl) rfl n2 (by rw[d6];simp;omega))];unfold both;rw[BR,sF];rfl
     exact mU (e0:=e0) rfl st (FA r (pre++[p]) _ _ (λq hq=>hs q (cy _ hq)) (by rw[d6];simp only[dq,nu]at hl ⊢;omega) hk)
theorem MN{x:Str}{c:Nat}(hc:c∈x.cps.toList)(hl:low c=false):isW x=false:=by
 unfold isW;have:x.cps.toList.all low=false:=by rw[J1];intro h;have:=sG.mp h c hc;rw[hl]at this;cases this
 rw[this,qq]
end Mr
namespace Mr
open PySem Mi
theorem DW{c:C}{b:S}{e e':Mi.Env}:∀{n:Nat} (m:Nat),ik c b n e=.ok (.nx e')->ik c b (n+m) e=.ok (.nx e'):=by
 intro n
 induction n generalizing e with
 |zero=>intro m h;cases h
 |succ n ih=>
  intro m h;rw[show n+1+m=(n+m)+1 by omega,ik];rw[ik]at h
  revert h
  cases c e with
  |ok k=>
   cases k with
   |false=>exact id
   |true=>
    simp only[aE,gi];cases b e with
    |ok o=>
     cases o with
     |nx e2=>exactλh=>ih m h
     |ct e2=>exactλh=>ih m h
     |bk e2=>exact id
     |rt w=>exact id
    |ex z=>exact id
    |no=>exact id
  |ex z=>exact id
  |no=>exact id
theorem D5{ac:List Str}{ai:List Ar}{told:List Str}{x:Str}(h:nxt ac ai told=aa x):x∈ac/\x∉told:=by unfold nxt at h;have hz:=List.find?_some h;refine⟨List.mem_of_find?_eq_some h,λhzt=>?_⟩;unfold ready at hz;rw[lY]at hz;simp[hzt]at hz
theorem wz{ac:List Str}{ai:List Ar}:∀k,(∀i,i<k->∃x,nxt ac ai (ord ac ai i)=aa x)->(ord ac ai k).length=k/\(ord ac ai k).Nodup/\(∀x∈ord ac ai k,x∈ac)
 |0,_=>⟨rfl,u7,by simp[ord]⟩
 |k+1,h=>by
  obtain⟨h1,h2,h3⟩:=wz k λi hi=>h i (by omega);obtain⟨x,hx⟩:=h k (by omega);obtain⟨hm,hn⟩:=D5 hx;rw[ord,hx];refine⟨by simp[h1],?_,λy hy=>?_⟩
  ·rw[B0];refine⟨h2,by simp,λa ha b hb=>?_⟩;have:b=x:=by simpa using hb
   subst this;exactλz=>hn (z ▸ ha)
  ·rcases gF.mp hy with hy|hy
   ·exact h3 y hy
   ·have:y=x:=by simpa using hy
    rw[this];exact hm
theorem Qq(ac:List Str)(ai:List Ar):∃j,j<=ac.length/\nxt ac ai (ord ac ai j)=ae/\∀i,i<j->∃x,nxt ac ai (ord ac ai i)=aa x:=by
 have key:∀k,(∃j,j<=k/\nxt ac ai (ord ac ai j)=ae/\∀i,i<j->∃x,nxt ac ai (ord ac ai i)=aa x)\/(∀i,i<=k->∃x,nxt ac ai (ord ac ai i)=aa x):=by
  intro k
  induction k with
  |zero=>
   cases h:nxt ac ai (ord ac ai 0)with
   |none=>exact .inl ⟨0,bu _,h,λi hi=>absurd hi (Nat.not_lt_zero _)⟩
   |some x=>
    refine .inr λi hi=>?_;obtain rfl:i=0:=by omega
    exact⟨x,h⟩
  |succ k ih=>
   rcases ih with ⟨j,h1,h2⟩|ih
   ·exact .inl ⟨j,by omega,h2⟩
   ·cases h:nxt ac ai (ord ac ai (k+1))with
    |none=>exact .inl ⟨k+1,bu _,h,λi hi=>ih i (by omega)⟩
    |some x=>
     refine .inr λi hi=>?_;rcases u9 i (k+1)with q|q
     ·exact ih i (by omega)
     ·obtain rfl:i=k+1:=by omega
      exact⟨x,h⟩
 rcases key ac.length with h|h
 ·exact h
 ·obtain⟨h1,h2,h3⟩:=wz (ac:=ac) (ai:=ai) (ac.length+1) λi hi=>h i (by omega);have:=uF h2 h3;omega
theorem N2{ac:List Str}{ai:List Ar}(h8:ac.length<=8)(hl:ai.length<=64):∃told,oS [.d (aX ac ai)]=.ok (.d (aj told))/\nxt ac ai told=ae/\told.Nodup/\(∀x∈told,x∈ac)/\∃j,told=ord ac ai j:=by
 obtain⟨j,hj,hn,hs⟩:=Qq ac ai;have oj:=wz j hs;refine⟨ord ac ai j,?_,hn,oj.2.1,oj.2.2,j,rfl⟩;have fr':∀told:List Str,nW [.d (aX ac ai),.d (.lst (told.map D.str))]=.ok (.d (nR (nxt ac ai told))):=λtold=>Ni (ac:=ac) hl told;have key:∀(m k:Nat),k+m=j->∃o,ik (cB (m2 wg (mV 2) (mC .non))) (aA (fe 1 (mV 2)) (bc 2 (oN nW [(wD (mV 0)),(wD (mV 1))]))) (m+1)
  [aa (.d (aX ac ai)),aa (.d (aj (ord ac ai k))),aa (.d (nR (nxt ac ai (ord ac ai k))))]=.ok (.nx [aa (.d (aX ac ai)),aa (.d (aj (ord ac ai j))),o]):=by
  intro m
  induction m with
  |zero=>
   intro k hk;obtain rfl:k=j:=by omega
   refine⟨aa (.d .non),?_⟩;rw[ik,hn];simp only[cB,m2,mV,Qs,iL,gY,mC,aE,Fu,Ry,yj,mG,lX,fX]
  |succ m ih=>
   intro k hk;obtain⟨x,hx⟩:=hs k (by omega);have e:ord ac ai (k+1)=ord ac ai k++[x]:=by rw[ord,hx]
   obtain⟨o,ho⟩:=ih (k+1) (by omega);refine⟨o,?_⟩;have hl':=(wz (ac:=ac) (ai:=ai) k λi hi=>hs i (by omega)).1;have hg:((ord ac ai k).map D.str).length<16777216:=by rw[be,hl'];omega
   have hs':D.lst ((ord ac ai k).map D.str++[D.str x])=aj (ord ac ai (k+1)):=by rw[e,aj,lW];rfl
   rw[show m+1+1=(m+1)+1 from rfl,ik,hx];simp only[cB,m2,mV,aj,Qt,iL,gY,mC,aE,Fu,L5,Bool.not_false,mG,aA,fe,getL,putL,BU,BV,aK hg,hs',bc,oN,lC,cO,wD,fr',DA,aK (HA _),gi];exact ho
 obtain⟨o,ho⟩:=key j 0 (by omega);unfold oS Fj;rw[SW];rw[show([aa (W.d (aX ac ai))]++c8 (3-1) ae)=[aa (W.d (aX ac ai)),ae,ae]from rfl];rw[aI (e':=[aa (W.d (aX ac ai)),aa (W.d (aj [])),ae]) rfl];rw[aI (e':=[aa (W.d (aX ac ai)),aa (W.d (aj [])),aa (W.d (nR (nxt ac ai [])))]) (by
  refine(bZ (Po (x:=.d (aX ac ai)) (y:=.d (aj [])) rfl rfl (fr' []) (HA _))).trans rfl)]
 have hw:=DW (99-j) ho;rw[show j+1+(99-j)=100 by omega]at hw;rw[show ord ac ai 0=[]from rfl]at hw;rw[aI (show uP 100 _ _ _=_ from hw)];rfl
def qB(ai:List Ar)(left:List Str)(x:Str):List Str:=(gV ai x).filter λy=>decide (y∈left)
theorem Go{ai:List Ar}{left:List Str}{x y:Str}:y∈qB ai left x↔(y,x)∈ai/\y∈left:=by unfold qB;rw[fo,Bd,jX]
theorem AY{f:Fn}{ws:List EW}{e:Mi.Env}{vs:List W}{w:W}(h:cO ws e=.ok vs)(hf:f vs=.ok w):gW f ws e=.ok (.nx e):=by unfold gW;rw[nU h,aE,hf];rfl
theorem R5{f:Fn}{ws:List EW}{e:Mi.Env}{vs:List W}{z:di}(h:cO ws e=.ok vs)(hf:f vs=.ex z):gW f ws e=.ex z:=by unfold gW;rw[nU h,aE,hf];rfl
theorem DM{ac:List Str}{v1:W}:∀(r pre:List Ar) (o3 o4:Option W),pre.length+r.length<=100->gU ac pre r=.ok->∃e',dB (.t [3,4]) uC (r.map pairD) [aa (W.d (aj ac)),aa v1,aa (iY (both pre)),o3,o4]=.ok (.nx e')
 |[],pre,o3,o4,_,h=>⟨_,rfl⟩
 |p::r,pre,o3,o4,hl,hk=>by
  let e0:Mi.Env:=[aa (W.d (aj ac)),aa v1,aa (iY (both pre)),aa (W.d (.str p.1)),aa (W.d (.str p.2))];rw[gU]at hk;rw[b9];by_cases h1:p.1∉ac\/p.2∉ac
  ·rw[aF h1]at hk;cases hk
  ·rw[aG h1]at hk;have i1:p.1∈ac:=lf λz=>h1 (.inl z);have i2:p.2∈ac:=lf λz=>h1 (.inr z);have q1:gW lJ [(wD (mV 0)),(wD (mN cF [(mV 3),(mV 4)]))] e0=.ok (.nx e0):=E2 (x:=.d (aj ac)) (y:=.d (aj [p.1,p.2])) rfl (dv (me rfl rfl)) (ES λz hz=>by
    rcases bn.mp hz with rfl|hz
    ·exact i1
    ·rw[dI.mp hz];exact i2)
   have c1:cP (cB (m2 fw (mV 3) (mV 4))) e0=.ok (decide (p.1=p.2)):=kE (cf (aC rfl rfl (wf p.1 p.2)));have c2:cP (cB (g7 2 (mN dTup [(mV 3),(mV 4)]))) e0=.ok (decide (p∈both pre)):=kE (cf (Gz (p:=p) (ps:=both pre) (gI rfl rfl) rfl));by_cases h23:p.1=p.2\/p∈pre\/(p.2,p.1)∈pre
   ·rw[aF h23]at hk;cases hk
   ·rw[aG h23]at hk;have h2:p.1≠p.2:=λz=>h23 (.inl z);have h3:¬ (p∈pre\/(p.2,p.1)∈pre):=λz=>h23 (.inr z);rw[c6 h2]at c1;have mb:p∈both pre↔p∈pre\/(p.2,p.1)∈pre:=by
     rw[wW];constructor
     ·rintro⟨q,hq,rfl|e⟩
      ·exact .inl hq
      ·right;rw[e];exact hq
     ·rintro(h|h)
      ·exact⟨p,h,.inl rfl⟩
      ·exact⟨(p.2,p.1),h,.inr rfl⟩
    have n1:p∉both pre:=λz=>h3 (mb.mp z);rw[c6 n1]at c2;have n2:(p.2,p.1)∉both pre++[p]:=λz=>by
     rcases gF.mp z with z|z
     ·obtain⟨q,hq,e|e⟩:=wW.mp z
      ·exact h3 (.inr (by rw[e];exact hq))
      ·exact h3 (.inl (by rw[Ch]at e;simp at e;rw[show p=q from ma e.2 e.1];exact hq))
     ·have:=dI.mp z;exact h2 (congrArg vj this)
    have hb:(both pre).length<=200:=by rw[I9];simp only[dq]at hl;omega
    have st:uC e0=.ok (.nx [aa (W.d (aj ac)),aa v1,aa (iY (both (pre++[p]))),aa (W.d (.str p.1)),aa (W.d (.str p.2))]):=by refine(aI q1).trans ((aI ((cS c1).trans rfl)).trans ((aI ((cS c2).trans rfl)).trans ?_));rw[aI (mK (wK (p:=p) (ps:=both pre) (gI rfl rfl) rfl n1 (by omega)))];rw[mK (wK (p:=(p.2,p.1)) (ps:=both pre++[p]) (gI rfl rfl) rfl n2 (by rw[d6];simp;omega))];unfold both;rw[BR,sF];rfl
    obtain⟨e',he⟩:=DM (v1:=v1) r (pre++[p]) (aa (W.d (.str p.1))) (aa (W.d (.str p.2))) (by rw[d6];simp only[dq,nu]at hl ⊢;omega) hk;exact⟨e',mU (e0:=e0) rfl st he⟩
theorem MV{ac:List Str}{ai:List Ar}(hp:∀p∈ai,Sh p.1/\Sh p.2)(hq:ai.length<=100):(gU ac [] ai=.ok->oZ [.d (aj ac),.d (au ai)]=.ok (.d .non))/\(gU ac [] ai≠.ok->oZ [.d (aj ac),.d (au ai)]=.ex ⟨(gU ac [] ai).c,[]⟩):=by
 have run:oZ [.d (aj ac),.d (au ai)]=(dB (.t [3,4]) uC (ai.map pairD) [aa (W.d (aj ac)),aa (W.d (au ai)),aa (iY (both [])),ae,ae]).bind j2:=by unfold oZ II;rw[i4];rw[show([aa (W.d (aj ac)),aa (W.d (au ai))]++c8 (5-2) ae)=[aa (W.d (aj ac)),aa (W.d (au ai)),ae,ae,ae]from rfl];rw[aI (e':=[aa (W.d (aj ac)),aa (W.d (au ai)),aa (iY (both [])),ae,ae]) rfl];rw[i9 (v5 (gN (a:=mV 1) (x:=au ai) rfl rfl))]
 refine⟨λh=>?_,λh=>?_⟩
 ·obtain⟨e',he⟩:=DM (ac:=ac) (v1:=W.d (au ai)) ai [] ae ae (by simp only[nu];omega) h;rw[run,he];rfl
 ·rw[run,show _=_ from FA (ac:=ac) (v1:=W.d (au ai)) ai [] ae ae hp (by simp only[nu];omega) h];rfl
theorem Na(ac:List Str)(B:List Ar):(ixs ac B).Pairwise cX:=by
 unfold ixs;rw[List.pairwise_flatMap];refine⟨λi _=>?_,?_⟩
 ·rw[oy];refine(List.Pairwise.filter _ JO).imp λ{a b} h=>?_;exact .inr ⟨rfl,h⟩
 ·refine JO.imp λ{a b} h=>?_;intro x hx y hy;obtain⟨j,_,rfl⟩:=cL.mp hx;obtain⟨j',_,rfl⟩:=cL.mp hy;exact .inl h
theorem SH{ac:List Str}(nd:ac.Nodup)(P:List Ar):(dS ac P).Pairwise λp q=>gj (ky ac (qX p)) (ky ac (qX q))=true:=by
 rw[<- NK,oy];refine vg (λ{p q} hp hq h=>?_) (Na ac P);have k:∀x:Ix,x∈ixs ac P->ky ac (qX (arrOf ac x))=[((x.1:Nat):Int),((x.2:Nat):Int)]:=λx hx=>by
  obtain⟨h1,h2,_⟩:=RF.mp hx;show[((ac.idxOf (nth ac x.1):Nat):Int),((ac.idxOf (nth ac x.2):Nat):Int)]=_;rw[DV nd h1,DV nd h2]
 rw[k p hp,k q hq];rcases h with h|⟨h1,h2⟩
 ·exact F5 (Cb.mpr h)
 ·rw[h1,OH];exact F5 (Cb.mpr h2)
theorem y9.few{ac:List Str}{xs:List Ar}(G:y9 ac xs)(h8:ac.length<=8):xs.length<=56:=by
 have nd:(xs.map λp=>(ac.idxOf p.1,ac.idxOf p.2)).Nodup:=by show B4 _ _;rw[oy];refine vg (λ{p q} hp hq h z=>h.1 ?_) G.pw;have z:=Ch.mp z;exact ma (iV (G.inn p hp).1 (G.inn q hq).1 z.1) (iV (G.inn p hp).2.1 (G.inn q hq).2.1 z.2)
 have:=AZ nd (L:=wT) λp hp=>by
  obtain⟨q,hq,rfl⟩:=cL.mp hp;obtain⟨h1,h2,h3⟩:=G.inn q hq;have l1:=nq.mpr h1;have l2:=nq.mpr h2;refine fo.mpr ⟨cL.mpr ⟨ac.idxOf q.1*8+ac.idxOf q.2,fq.mpr (by omega),ma (by show(ac.idxOf q.1*8+ac.idxOf q.2)/8=ac.idxOf q.1;omega) (by show(ac.idxOf q.1*8+ac.idxOf q.2)%8=ac.idxOf q.2;omega)⟩,?_⟩;exact cj λz=>h3 (iV h1 h2 z)
 rw[Ol,be]at this;exact this
theorem Ig(B:Nat):∀(ts:List Str) (k:Nat) (acc:Str),(∀t∈ts,t.length<=B)->(textFrom k acc ts).length<=acc.length+(B+2)*ts.length
 |[],k,acc,_=>by show acc.length<=_;omega
 |t::r,k,acc,h=>by
  have:=Ig B r (k+1) (acc++(if k>0 then ", " else "" : String)++t) λx hx=>h x (cy _ hx);have h1:=h t b8;have h2:(acc++(if k>0 then ", " else "" : String)++t).length<=acc.length+2+t.length:=by
   rw[xJ,xJ];have:(((if k>0 then ", " else "" : String):Str)).length<=2:=by split<;>decide +kernel
   omega
  show(textFrom (k+1) _ r).length<=_;rw[dq,Nat.mul_add];omega
theorem IG{zs:List Str}(h8:zs.length<=8)(h:∀z∈zs,Sh z):(L2.gT zs).shown.length<=100000:=by
 have e:∀ys:List Str,Kr (ys.map sN)=ys.map reprText:=λys=>by
  induction ys with
  |nil=>rfl
  |cons y r ih=>rw[b9,Kr,ih,PyData.shown];rfl
 have e2:(L2.gT zs).shown=listText (zs.map reprText):=by unfold L2.gT;rw[PyData.shown,e]
 rw[e2];show(textFrom 0 "[" (zs.map reprText) ++ "]").length<=_;rw[xJ];have b:=Ig 1002 (zs.map reprText) 0 "[" λt ht=>by
  obtain⟨z,hz,rfl⟩:=cL.mp ht;have h1:=Kv z λc hc=>yh ((h z hz).2 c hc) (by decide);have h2:=(h z hz).1;omega
 rw[be]at b;have l1:("[" : Str).length=1:=by decide +kernel
 have l2:("]" : Str).length=1:=by decide +kernel
 rw[l1]at b;omega
theorem FK(zs:List Str):kK (zs.map D.str)=aa zs:=by
 induction zs with
 |nil=>rfl
 |cons z r ih=>rw[b9,kK,ih];rfl
def Bk(ai:List Ar)(walk:List Str):Prop:=∀k a b,walk[k]? = aa a->walk[k+1]? = aa b->(b,a)∈ai
theorem Bk.snoc{ai:List Ar}{walk:List Str}{x:Str}(h:Bk ai walk)(hl:∀a,walk.getLast? = aa a->(x,a)∈ai):Bk ai (walk++[x]):=by
 intro k a b ha hb;rcases u9 (k+1) walk.length with q|q
 ·rw[sA (by omega)]at ha;rw[sA q]at hb;exact h k a b ha hb
 ·have hk:=(dm.mp hb).1;rw[d6,u4]at hk;have e:k+1=walk.length:=by omega
  rw[e,BH (bu _),Nat.sub_self]at hb;have hb:x=b:=by simpa using hb
  subst hb;rw[sA (by omega)]at ha;refine hl a ?_;rw[JI,<- e];exact ha
theorem OW{ac left:List Str}{ai:List Ar}(hl:ai.length<=64)(h8:left.length<=8)(sub:∀x∈left,x∈ac)(hx:∀x∈left,∃y,(y,x)∈ai/\y∈left):∀(m:Nat) (walk:List Str) (x:Str),walk.length+m=8->walk.Nodup->(∀y∈walk,y∈left)->x∈left->Bk ai walk->(∀a,walk.getLast? = aa a->(x,a)∈ai) ->
 ∃oC x',oC.Nodup/\(∀y∈oC,y∈left)/\x'∈oC/\Bk ai oC/\(∀a,oC.getLast? = aa a->(x',a)∈ai)/\ik (cB (m2 eB (mV 3) (mV 2))) (aA (fe 2 (mV 3)) (bc 3 (m2 aL (bX [aa 1,ae] (bM (bp kP [(wD (mV 0)),(wD (mV 3))])) (.n 1) (cB (m2 dA (mV 1) (mV 0))) (mV 1)) (mC (.int 0))))) (m+1)
  [aa (.d (aX ac ai)),aa (.d (aj left)),aa (.d (aj walk)),aa (.d (.str x))]=.ok (.nx [aa (.d (aX ac ai)),aa (.d (aj left)),aa (.d (aj oC)),aa (.d (.str x'))]):=by
 intro m
 induction m with
 |zero=>
  intro walk x hk nd hs hxl bk la;have hm:x∈walk:=lf λz=>by
   have:(x::walk).length<=left.length:=uF (jC.mpr ⟨z,nd⟩) λy hy=>by
    rcases bn.mp hy with rfl|hy
    ·exact hxl
    ·exact hs y hy
   rw[dq]at this;omega
  refine⟨walk,x,nd,hs,hm,bk,la,?_⟩;have ct:cB (m2 eB (mV 3) (mV 2)) [aa (.d (aX ac ai)),aa (.d (aj left)),aa (.d (aj walk)),aa (.d (.str x))]=.ok (!decide (x∈walk)):=cf (aC rfl rfl (qI walk x));rw[cj hm]at ct;rw[ik,ct];rfl
 |succ m ih=>
  intro walk x hk nd hs hxl bk la;have ct:cB (m2 eB (mV 3) (mV 2)) [aa (.d (aX ac ai)),aa (.d (aj left)),aa (.d (aj walk)),aa (.d (.str x))]=.ok (!decide (x∈walk)):=cf (aC rfl rfl (qI walk x));by_cases hm:x∈walk
  ·refine⟨walk,x,nd,hs,hm,bk,la,?_⟩;rw[cj hm]at ct;rw[ik,ct];rfl
  ·rw[c6 hm]at ct;obtain⟨y0,h1,h2⟩:=hx x hxl;obtain⟨y,r,hy⟩ : ∃y r,qB ai left x=y::r:=by
    cases h:qB ai left x with
    |nil=>have:=Go.mpr ⟨h1,h2⟩;rw[h]at this;cases this
    |cons y r=>exact⟨y,r,rfl⟩
   have hym:=Go.mp (show y∈qB ai left x by rw[hy];exact b8);have hyl:y∈left:=hym.2;obtain⟨oC,x',a1,a2,a3,a5,a6,a4⟩:=ih (walk++[x]) y (by rw[d6,u4];omega) (by
    rw[B0];exact⟨nd,by simp,λa ha b hb=>by
     have:b=x:=by simpa using hb
     subst this;exactλz=>hm (z ▸ ha)⟩) (λz hz=>by
    rcases gF.mp hz with hz|hz
    ·exact hs z hz
    ·have:z=x:=by simpa using hz
     rw[this];exact hxl) hyl (bk.snoc la) (λa ha=>by
    rw[List.getLast?_append]at ha;have ha:x=a:=by simpa using ha
    subst ha;exact hym.1)
   refine⟨oC,x',a1,a2,a3,a5,a6,?_⟩;have b1:fe 2 (mV 3) [aa (.d (aX ac ai)),aa (.d (aj left)),aa (.d (aj walk)),aa (.d (.str x))]=.ok (.nx [aa (.d (aX ac ai)),aa (.d (aj left)),aa (.d (aj (walk++[x]))),aa (.d (.str x))]):=by refine(HB (ds:=walk.map D.str) rfl rfl (by rw[be];omega)).trans ?_;unfold putL aj;rw[lW];rfl
   have b2:bX [aa 1,ae] (bM (bp kP [(wD (mV 0)),(wD (mV 3))])) (.n 1) (cB (m2 dA (mV 1) (mV 0))) (mV 1) [aa (.d (aX ac ai)),aa (.d (aj left)),aa (.d (aj (walk++[x]))),aa (.d (.str x))]=.ok (aj (qB ai left x)):=by refine fF (xs:=(gV ai x).map D.str) (gN (call2 rfl rfl (F1 (sub x hxl) hl)) rfl) (by rw[be];have:=D8 (x:=x) hl;omega) ?_;exact gJ D.str D.str (λy=>decide (y∈left)) (gV ai x) λy _=>⟨[aa (.d (aj left)),aa (.d (.str y))],rfl,cf (aC rfl rfl (tU left y)),λ_=>rfl⟩
   have b3:bc 3 (m2 aL (bX [aa 1,ae] (bM (bp kP [(wD (mV 0)),(wD (mV 3))])) (.n 1) (cB (m2 dA (mV 1) (mV 0))) (mV 1)) (mC (.int 0))) [aa (.d (aX ac ai)),aa (.d (aj left)),aa (.d (aj (walk++[x]))),aa (.d (.str x))]=.ok (.nx [aa (.d (aX ac ai)),aa (.d (aj left)),aa (.d (aj (walk++[x]))),aa (.d (.str y))]):=by refine(bZ (d:=.str y) (aC b2 rfl ?_)).trans rfl;rw[hy];show dh (dC (D.str y::_) 0)=_;rw[at0];rfl
   rw[ik,ct];show((aA _ _ _).bind _)=_;rw[aI b1,b3];exact a4
def Rg(ai:List Ar)(zs:List Str):Prop:=∀k a b,zs[k]? = aa a->zs[(k+1)%zs.length]? = aa b->(a,b)∈ai
theorem Bk.ring{ai:List Ar}{walk:List Str}{x:Str}(h:Bk ai walk)(hl:∀a,walk.getLast? = aa a->(x,a)∈ai)(hx:x∈walk):Rg ai (walk.drop (walk.idxOf x)).reverse:=by
 have lt:=nq.mpr hx;intro k a b ha hb;obtain⟨ln,eln⟩ : ∃n,n=(walk.drop (walk.idxOf x)).length:=⟨_,rfl⟩;have hn:0<ln:=by rw[eln,iM];omega
 rw[sD,<- eln]at hb;have hk:k<ln:=by have:=(dm.mp ha).1;rw[sD,<- eln]at this;exact this
 have g:∀{j c},j<ln->(walk.drop (walk.idxOf x)).reverse[j]? = aa c->walk[walk.length-1-j]? = aa c:=λ{j c} hj hc=>by
  rw[JQ (by rw[<- eln];exact hj),List.getElem?_drop]at hc;rw[<- hc]
  congr 1
  rw[<- eln];rw[iM]at eln;omega
 have wl:ln=walk.length-walk.idxOf x:=by rw[eln,iM]
 rcases u9 (k+1) ln with q|q
 ·rw[Nat.mod_eq_of_lt q]at hb;have a1:=g hk ha;have b1:=g q hb;refine h (walk.length-1-(k+1)) b a b1 ?_;rw[<- a1]
  congr 1
  omega
 ·have e:k+1=ln:=by omega
  rw[e,Nat.mod_self]at hb;have a1:=g hk ha;have b1:=g hn hb;have ix:walk.length-1-k=walk.idxOf x:=by omega
  rw[ix,fm lt,BX lt]at a1;cases a1;refine hl b ?_;rw[JI];exact b1
theorem SQ{ac left:List Str}{ai:List Ar}(hl:ai.length<=64)(h8:left.length<=8)(h0:left≠[])(sub:∀x∈left,x∈ac)(hx:∀x∈left,∃y,(y,x)∈ai/\y∈left):∃zs,nV [.d (aX ac ai),.d (aj left)]=.ok (.d (aj zs))/\zs.length<=8/\(∀z∈zs,z∈ac)/\Rg ai zs/\zs.Nodup/\zs≠[]:=by
 obtain⟨x,r,rfl⟩ : ∃x r,left=x::r:=by
  cases left with
  |nil=>exact absurd rfl h0
  |cons x r=>exact⟨x,r,rfl⟩
 obtain⟨walk,y,w1,w2,w3,w5,w6,w4⟩:=OW (ac:=ac) hl h8 sub hx 8 [] x (by simp) u7 (by simp) b8 (λk a b h=>by simp at h) (λa h=>by simp at h);have hwl:walk.length<=8:=d9 (uF w1 w2) h8;refine⟨(walk.drop (walk.idxOf y)).reverse,?_,by rw[sD,iM];omega,λz hz=>sub z (w2 z (BJ (List.mem_reverse.mp hz))),w5.ring w6 w3,(List.pairwise_reverse.mpr ((w1.sublist (List.drop_sublist _ _)).imp λh=>bU h)),λz=>?_⟩
 rotate_left
 ·have lt:=nq.mpr w3;have:=congrArg yb z;rw[sD,iM,nu]at this;omega
 unfold nV HE;rw[pE];rw[show([aa (W.d (aX ac ai)),aa (W.d (aj (x::r)))]++c8 (4-2) ae)=[aa (W.d (aX ac ai)),aa (W.d (aj (x::r))),ae,ae]from rfl];rw[aI (e':=[aa (W.d (aX ac ai)),aa (W.d (aj (x::r))),aa (W.d (aj [])),ae]) rfl];rw[aI (e':=[aa (W.d (aX ac ai)),aa (W.d (aj (x::r))),aa (W.d (aj [])),aa (W.d (.str x))]) (by
  refine(bZ (d:=.str x) (aC rfl rfl ?_)).trans rfl;show dh (dC (D.str x::_) 0)=_;rw[at0];rfl)]
 have hw:=DW 91 w4;rw[aI (show uP 100 _ _ _=_ from hw)];have i1:m2 lE (mV 2) (mV 3) [aa (W.d (aX ac ai)),aa (W.d (aj (x::r))),aa (W.d (aj walk)),aa (W.d (.str y))]=.ok (.int ((walk.idxOf y:Nat):Int)):=by refine aC (x:=aj walk) (y:=.str y) rfl rfl ?_;show(dh (tD (aj walk))).bind _=_;rw[show tD (aj walk)=aa walk from A1 walk];exact aK ⟨w3,by omega⟩
 have i2:eO fL (mV 2) (aa (m2 lE (mV 2) (mV 3))) ae [aa (W.d (aX ac ai)),aa (W.d (aj (x::r))),aa (W.d (aj walk)),aa (W.d (.str y))]=.ok (aj (walk.drop (walk.idxOf y))):=by unfold eO;rw[show mV 2 [aa (W.d (aX ac ai)),aa (W.d (aj (x::r))),aa (W.d (aj walk)),aa (W.d (.str y))]=.ok (aj walk)from rfl,aE];show(((m2 lE (mV 2) (mV 3) _).bind _).bind _)=_;rw[i1];show fL (aj walk) (aa ((walk.idxOf y:Nat):Int)) ae=_;show Rs.ok (D.lst (jZ (walk.map D.str) (aa ((walk.idxOf y:Nat):Int)) ae))=_;rw[QK,<- List.map_drop];rfl
 have i3:m1 z7 (eO fL (mV 2) (aa (m2 lE (mV 2) (mV 3))) ae) [aa (W.d (aX ac ai)),aa (W.d (aj (x::r))),aa (W.d (aj walk)),aa (W.d (.str y))]=.ok (aj (walk.drop (walk.idxOf y)).reverse):=by unfold m1;rw[i2];show ba _ _=_;rw[aK (by rw[be,iM];omega)];unfold aj;rw[List.map_reverse]
 rw[gr (dv i3)];rfl
theorem Su{ac:List Str}{ai:List Ar}(h8:ac.length<=8)(hl:ai.length<=64)(hs:∀x∈ac,Sh x)(ht:∀p∈ai,p.1∈ac):(oh [.d (aX ac ai)]=.ok (.d .non)/\∃j,∀x∈ac,x∈ord ac ai j)\/∃zs,oh [.d (aX ac ai)]=.ex ⟨"Ring", [aj zs]⟩/\zs.length<=8/\(∀z∈zs,z∈ac)/\Rg ai zs/\zs.Nodup/\zs≠[]:=by
 obtain⟨told,t1,t2,t3,t4,j,ej⟩:=N2 (ac:=ac) h8 hl;have cl:bX [aa 1,ae] (bM (m2 aL (mV 0) (mC (.int 0)))) (.n 1) (cB (m2 eB (mV 1) (mV 0))) (mV 1) [aa (W.d (aX ac ai)),aa (W.d (aj told)),ae]=.ok (aj (ac.filter λx=>!decide (x∈told))):=by refine fF (xs:=ac.map D.str) (gN (x:=jW ac) (aC rfl rfl (wY ac ai)) rfl) (by rw[be];omega) ?_;exact gJ D.str D.str (λx=>!decide (x∈told)) ac λx _=>⟨[aa (.d (aj told)),aa (.d (.str x))],rfl,cf (aC rfl rfl (qI told x)),λ_=>rfl⟩
 have run:oh [.d (aX ac ai)]=(a9 (cP (qH (mV 2))) (wq "Ring" (bp nV [(wD (mV 0)),(wD (mV 2))])) (sP bf) [aa (W.d (aX ac ai)),aa (W.d (aj told)),aa (W.d (aj (ac.filter λx=>!decide (x∈told))))]).bind j2:=by unfold oh D2;rw[qJ];rw[show([aa (W.d (aX ac ai))]++c8 (3-1) ae)=[aa (W.d (aX ac ai)),ae,ae]from rfl];rw[aI (e':=[aa (W.d (aX ac ai)),aa (W.d (aj told)),ae]) (mK ((bZ (zb rfl t1)).trans rfl))];rw[aI (e':=[aa (W.d (aX ac ai)),aa (W.d (aj told)),aa (W.d (aj (ac.filter λx=>!decide (x∈told))))]) (mK ((bZ cl).trans rfl))]
 cases hL:ac.filter λx=>!decide (x∈told)with
 |nil=>
  left;refine⟨?_,j,λx hx=>lf λq=>?_⟩
  rotate_left
  ·rw[<- ej]at q;have:x∈ac.filter λx=>!decide (x∈told):=fo.mpr ⟨hx,by rw[c6 q];rfl⟩;rw[hL]at this;cases this
  rw[run,hL,cS (kE (show qH (mV 2) _=.ok false from rfl))];rfl
 |cons y r=>
  right;have lm:∀x,x∈(y::r)↔x∈ac/\x∉told:=λx=>by rw[<- hL,fo];simp
  have ll:(y::r).length<=8:=by rw[<- hL];exact d9 (qi _ _) h8
  obtain⟨zs,z1,z2,z3,z4,z5,z6⟩:=SQ (ac:=ac) hl ll (by simp) (λx hx=>((lm x).mp hx).1) (λx hx=>by
   obtain⟨h1,h2⟩:=(lm x).mp hx;have nr:ready ai told x=false:=by unfold nxt at t2;simpa using List.find?_eq_none.mp t2 x h1
   refine lf λz=>?_;have:ready ai told x=true:=by unfold ready;rw[lY];refine⟨by simpa using h2,sG.mpr λe he=>?_⟩;have he:=Bd.mp he;refine cj (lf λq=>z ⟨e,he,(lm e).mpr ⟨ht _ he,q⟩⟩)
   rw[nr]at this;cases this)
  refine⟨zs,?_,z2,z3,z4,z5,z6⟩;rw[run,hL,i7 (kE (show qH (mV 2) _=.ok true from rfl))];unfold wq;rw[show still (bp nV [(wD (mV 0)),(wD (mV 2))] [aa (W.d (aX ac ai)),aa (W.d (aj told)),aa (W.d (aj (y::r)))])=.ok (aj zs)from nU (call2 rfl rfl z1),aE];show(match kK (zs.map D.str)with
   |some ws=>if ws.length<=1000/\(L2.gT ws).shown.length<=100000 then Rs.ex ⟨"Ring", [aj zs]⟩else Rs.no
   |none=>Rs.no).bind j2=_
  rw[FK];show(if zs.length<=1000/\(L2.gT zs).shown.length<=100000 then Rs.ex ⟨"Ring", [aj zs]⟩else Rs.no).bind j2=_;rw[aF ⟨by omega,IG z2 λz hz=>hs z (z3 z hz)⟩];rfl
theorem Se{ac:List Str}{ai:List Ar}(hs:∀x∈ac,Sh x)(hl:ac.length<=100)(hp:∀p∈ai,Sh p.1/\Sh p.2)(hq:ai.length<=100)(h1:lM ac=.ok)(h2:gU ac [] ai=.ok) :
 (mF [.d (aj ac),.d (au ai)]=.ok (.d (aX ac (dS ac ai)))/\∃j,∀x∈ac,x∈ord ac (dS ac ai) j) \/
 ∃zs,mF [.d (aj ac),.d (au ai)]=.ex ⟨"Ring", [aj zs]⟩/\zs.length<=8/\(∀z∈zs,z∈ac)/\Rg (dS ac ai) zs/\zs.Nodup/\zs≠[]:=by
 obtain⟨x1,x2⟩:=M4 hs hl;obtain⟨y1,y2⟩:=MV (ac:=ac) hp hq;obtain⟨G,_⟩:=IE ai [] h2;obtain⟨⟨n1,n8⟩,nw,nd⟩:=IF h1;have few:=G.few n8;have hc:dG (.t [0,1]) cU (mN dTup [(mV 0),(mV 1)]) [ae,ae] (ai.map pairD)=.ok ((ai.filter λ_=>true).map pairD):=
  gJ pairD pairD (λ_=>true) ai λp _=>⟨[aa (.d (.str p.1)),aa (.d (.str p.2))],rfl,rfl,λ_=>gI rfl rfl⟩
 rw[lU.mpr (λ_ _=>rfl)]at hc;have hsr:nF [.d (aj ac),.d (au ai)]=.ok (.d (au (dS ac ai))):=
  LW (nx:=aj ac) (A1 ac) (by omega) qX (λp hpx=>⟨by show 2<=1000;omega,λy hy=>by
   simp only[qX,bn,ki,jI]at hy;rcases hy with rfl|rfl
   ·exact(G.inn p hpx).1
   ·exact(G.inn p hpx).2.1⟩) (by omega) (by
    show B4 _ _;rw[oy];refine vg (λ{p q} hpx hqx h z=>h.1 ?_) G.pw;simp only[ky,qX,b9,u8,KJ,and_true]at z;exact ma (iV (G.inn p hpx).1 (G.inn q hqx).1 (by omega)) (iV (G.inn p hpx).2.1 (G.inn q hqx).2.1 (by omega))) (λp=>by rw[uq];exact⟨λh=>⟨h,(G.inn p h).1,(G.inn p h).2.1⟩,λh=>h.1⟩) (SH nd ai)
 have run:xn [aa (W.d (aj ac)),aa (W.d (au ai)),ae,ae]=aA (gW oh [(wD (mV 3))]) (sP (bG (wD (mV 3)))) [aa (W.d (aj ac)),aa (W.d (au ai)),aa (W.d (au ai)),aa (W.d (aX ac (dS ac ai)))]:=by
  unfold xn;rw[aI (AY (vs:=[.d (aj ac)]) rfl (x1 h1)),aI (AY (vs:=[.d (aj ac),.d (au ai)]) rfl (y1 h2))];rw[aI (e':=[aa (W.d (aj ac)),aa (W.d (au ai)),aa (W.d (au ai)),ae]) (mK ((bZ (fF (ρ:=[ae,ae]) (gN (x:=au ai) rfl rfl) (by rw[be];omega) hc)).trans rfl))];rw[aI (e':=[aa (W.d (aj ac)),aa (W.d (au ai)),aa (W.d (au ai)),aa (W.d (aX ac (dS ac ai)))])
   (mK ((bZ (gI (x:=jW ac) (y:=pA (dS ac ai)) ((et (x:=aj ac) rfl).trans rfl) ((et (call2 rfl rfl hsr)).trans rfl))).trans rfl))]
 have go:∀{r:Rs W},(xn [aa (W.d (aj ac)),aa (W.d (au ai)),ae,ae]).bind j2=r->mF [.d (aj ac),.d (au ai)]=r:=λ{r} h=>by
  unfold mF;rw[i4];exact h
 rcases Su (ac:=ac) (ai:=dS ac ai) n8 (SY n8 ai) hs (λp h=>(uq.mp h).2.1)with ⟨r,t⟩|⟨zs,r,z⟩
 ·exact .inl ⟨go (by rw[run,aI (AY (vs:=[.d (aX ac (dS ac ai))]) rfl r)];rfl),t⟩
 ·exact .inr ⟨zs,go (by rw[run,p6 (R5 (vs:=[.d (aX ac (dS ac ai))]) rfl r)];rfl),z⟩
theorem Rg.three{ac:List Str}{ai:List Ar}{zs:List Str}(h:Rg ai zs)(nz:zs≠[])(irr:∀p∈ai,p.1≠p.2)(no:∀a b,(a,b)∈ai->(b,a)∉ai):3<=zs.length:=by
 match zs,nz,h with
 |[a],_,h=>exact absurd rfl (irr _ (h 0 a a rfl (by simp)))
 |[a,b],_,h=>exact absurd (h 1 b a rfl (by simp)) (no _ _ (h 0 a b rfl (by simp)))
 |_::_::_::_,_,_=>simp
theorem RE{ac:List Str}{ai:List Ar}{told:List Str}{x:Str}(h:nxt ac ai told=aa x):∀y,(y,x)∈ai->y∈told:=by unfold nxt at h;have hz:=List.find?_some h;unfold ready at hz;rw[lY]at hz;intro y hy;have:=sG.mp hz.2 y (Bd.mpr hy);exact wt this
theorem Hs{ac:List Str}{ai:List Ar}:∀k,∀p∈ai,p.2∈ord ac ai k->p.1∈ord ac ai k/\(ord ac ai k).idxOf p.1<(ord ac ai k).idxOf p.2
 |0,p,_,h=>by simp[ord]at h
 |k+1,p,hp,h=>by
  have ih:=Hs (ac:=ac) (ai:=ai) k p hp;rw[ord]at h ⊢;cases hx:nxt ac ai (ord ac ai k)with
  |none=>rw[hx]at h;exact ih h
  |some x=>
   rw[hx]at h;simp only at h ⊢;obtain⟨_,hn⟩:=D5 hx;by_cases q:p.2∈ord ac ai k
   ·obtain⟨a,b⟩:=ih q;refine⟨k4 _ a,?_⟩;rw[xY,aF a,xY,aF q];exact b
   ·have e:p.2=x:=by
     rcases gF.mp h with z|z
     ·exact absurd z q
     ·exact dI.mp z
    have a:p.1∈ord ac ai k:=RE hx p.1 (by rw[<- e];exact hp);refine⟨k4 _ a,?_⟩;rw[xY,aF a,xY,aG q];have:=nq.mpr a;omega
theorem NA{ac:List Str}{ai:List Ar}{k:Nat}(hin:∀p∈ai,p.2∈ac)(h:∀x∈ac,x∈ord ac ai k):Rk ai:=
 ⟨λx=>((ord ac ai k).idxOf x:Nat),λp hp=>by
  have:=(Hs (ac:=ac) k p hp (h _ (hin p hp))).2;exact Cb.mpr this⟩
theorem OM{ac:List Str}{ai:List Ar}(hn:ac.length<=8)(hl:ai.length<=100):qU [.d (aj ac),.d (au ai)]=.ok (.d (.bl (lz ac ai))):=by
 unfold qU Iy;rw[i4];have lle:∀k,(cn ac ai k).length<=8:=λk=>by
  induction k with
  |zero=>exact hn
  |succ k ih=>exact d9 (qi _ _) ih
 obtain⟨e',f1,o3,o4,he⟩:=nG (tg:=.n 3) (body:=(aA (bc 4 (bX [aa 2,ae,ae] (bM (mV 1)) (.t [1,2]) (cB (m2 dA (mV 1) (mV 0))) (mV 2)))
 (bc 2 (bX [aa 4,ae] (bM (mV 2)) (.n 1) (cB (m2 dA (mV 1) (mV 0))) (mV 1)))))
  (λi e=>∃o3 o4:Option W,e=[aa (.d (aj ac)),aa (.d (au ai)),aa (.d (aj (cn ac ai i))),o3,o4]) (dJ 0 (ac.length:Int)) 0 (λi x e hx ⟨o3,o4,he⟩=>by
   subst he;rw[iO];have h1:dG (.t [1,2]) (cB (m2 dA (mV 1) (mV 0))) (mV 2) [aa (.d (aj (cn ac ai i))),ae,ae] (ai.map pairD)=.ok ((ai.filter λp=>decide (p.1∈cn ac ai i)).map λp=>D.str p.2):=
    gJ pairD (λp=>D.str p.2) (λp=>decide (p.1∈cn ac ai i)) ai λp _=>⟨[aa (.d (aj (cn ac ai i))),aa (.d (.str p.1)),aa (.d (.str p.2))],rfl,cf (aC rfl rfl (tU _ _)),λ_=>rfl⟩
   have h2:dG (.n 1) (cB (m2 dA (mV 1) (mV 0))) (mV 1) [aa (.d (aj (hds ai (cn ac ai i)))),ae] ((cn ac ai i).map D.str)=.ok ((v0 ai (cn ac ai i)).map D.str):=gJ D.str D.str (λx=>decide (x∈hds ai (cn ac ai i))) (cn ac ai i) λy _=>⟨[aa (.d (aj (hds ai (cn ac ai i)))),aa (.d (.str y))],rfl,cf (aC rfl rfl (tU _ _)),λ_=>rfl⟩
   refine⟨[aa (.d (aj ac)),aa (.d (au ai)),aa (.d (aj (cn ac ai i))),aa (.d x),o4],[aa (.d (aj ac)),aa (.d (au ai)),aa (.d (aj (cn ac ai (i+1)))),aa (.d x),aa (.d (aj (hds ai (cn ac ai i))))],rfl,?_,_,_,rfl⟩;have s1:bc 4 (bX [aa 2,ae,ae] (bM (mV 1)) (.t [1,2]) (cB (m2 dA (mV 1) (mV 0))) (mV 2)) [aa (.d (aj ac)),aa (.d (au ai)),aa (.d (aj (cn ac ai i))),aa (.d x),o4]=.ok (.nx [aa (.d (aj ac)),aa (.d (au ai)),aa (.d (aj (cn ac ai i))),aa (.d x),aa (.d (aj (hds ai (cn ac ai i))))]):=by rw[bZ (fF (gN (x:=au ai) rfl rfl) (by rw[be];omega) h1)];unfold aj hds;rw[eS];rfl
   rw[aI s1];rw[bZ (fF (gN (x:=aj (cn ac ai i)) rfl rfl) (by rw[be];have:=lle i;omega) h2)];rfl) [aa (.d (aj ac)),aa (.d (au ai)),aa (.d (aj ac)),ae,ae] ⟨ae,ae,rfl⟩
 subst he;rw[aI (e':=[aa (.d (aj ac)),aa (.d (au ai)),aa (.d (aj ac)),ae,ae]) (bZ ((et (x:=aj ac) rfl).trans rfl))];have hit:eG (mN bH [(mV 0)]) [aa (.d (aj ac)),aa (.d (au ai)),aa (.d (aj ac)),ae,ae]=.ok (dJ 0 (ac.length:Int)):=
  iz ((et (x:=aj ac) rfl).trans (by unfold aj;rw[zW,be])) (mL (by omega) (by omega))
 rw[aI ((i9 hit).trans f1)];rw[mD,iO];have hret:m2 mY (mN bH [(mV 2)]) (mC (.int 0)) [aa (.d (aj ac)),aa (.d (au ai)),aa (.d (aj (cn ac ai ac.length))),o3,o4]=.ok (.bl (lz ac ai)):=by refine(aC ((et (x:=aj (cn ac ai ac.length)) rfl).trans rfl) rfl rfl).trans ?_;show Rs.ok (D.bl (decide ((0:Int)<(((cn ac ai ac.length).map D.str).length:Nat))))=_;unfold lz;rw[be];exact congrArg (λb=>Rs.ok (D.bl b)) (oW.mpr (by omega))
 rw[gr (dv hret)];rfl
theorem Rx{i:Nat}{f:Fn}{ws:List EW}{e:Mi.Env}{vs:List W}{w:W}(h:cO ws e=.ok vs)(hf:f vs=.ok w):rK i f ws e=.ok (.nx (e.set i (aa w))):=by unfold rK;rw[nU h,aE,hf];rfl
theorem MY{i:Nat}{f:Fn}{ws:List EW}{e:Mi.Env}{vs:List W}{z:di}(h:cO ws e=.ok vs)(hf:f vs=.ex z):rK i f ws e=.ex z:=by unfold rK;rw[nU h,aE,hf];rfl
theorem L4{ac:List Str}{ai:List Ar}{d:D}(h:mF [.d (aj ac),.d (au ai)]=.ok (.d d)):jK [.d (aj ac),.d (au ai)]=.ok (.d (.lst [.lst [],d])):=by unfold jK yM;rw[pE];rw[show([aa (W.d (aj ac)),aa (W.d (au ai))]++c8 (5-2) ae)=[aa (W.d (aj ac)),aa (W.d (au ai)),ae,ae,ae]from rfl];rw[aI (e':=[aa (W.d (aj ac)),aa (W.d (au ai)),aa (W.d .non),ae,ae]) rfl];rw[aI (e':=[aa (W.d (aj ac)),aa (W.d (au ai)),aa (W.d .non),aa (W.d .non),ae]) rfl];rw[aI (e':=[aa (W.d (aj ac)),aa (W.d (au ai)),aa (W.d .non),aa (W.d d),ae]) (by unfold ub;rw[Rx (vs:=[.d (aj ac),.d (au ai)]) rfl h];rfl)];rw[lO ((i7 (show uA 2 _=.ok true from rfl)).trans (gr (dv (me (tJ _) rfl))))];rfl
theorem NH{ac:List Str}{ai:List Ar}{zs:List Str}(h:mF [.d (aj ac),.d (au ai)]=.ex ⟨"Ring",[aj zs]⟩):jK [.d (aj ac),.d (au ai)]=.ok (.d (.lst [aj [("Ring" : Str)],aj zs])):=by unfold jK yM;rw[pE];rw[show([aa (W.d (aj ac)),aa (W.d (au ai))]++c8 (5-2) ae)=[aa (W.d (aj ac)),aa (W.d (au ai)),ae,ae,ae]from rfl];rw[aI (e':=[aa (W.d (aj ac)),aa (W.d (au ai)),aa (W.d .non),ae,ae]) rfl];rw[aI (e':=[aa (W.d (aj ac)),aa (W.d (au ai)),aa (W.d .non),aa (W.d .non),ae]) rfl];rw[aI (e':=[aa (W.d (aj ac)),aa (W.d (au ai)),aa (W.xr "Ring" (aj zs)),aa (W.d .non),ae]) (by unfold ub;rw[MY (vs:=[.d (aj ac),.d (au ai)]) rfl h];rfl)];rw[aI ((cS (show uA 2 _=.ok false from rfl)).trans rfl)];have k:rj [.ex "Ring"]=.ok (.d (aj [("Ring" : Str)])):=rfl;rw[lO ((i7 (cf (b:=true) rfl)).trans (gr (dv (me (zb (f:=rj) (a:=wX 2) (x:=.ex "Ring") rfl k) (show rT "Ring" 2 _=.ok (aj zs)from rfl)))))];rfl
theorem m3{zs:List Str}{i:Nat}(h:i<zs.length):zs[i]? = aa (nth zs i):=by unfold nth;rw[fk,fm h];rfl
theorem M2{ai:List Ar}{zs:List Str}(h:Rg ai zs)(nd:zs.Nodup)(h3:3<=zs.length)(h8:zs.length<=8):oR [.d (aj zs),.d (au ai)]=.ok (.d (.bl true)):=by
 unfold oR E6;rw[i4];rw[show([aa (W.d (aj zs)),aa (W.d (au ai))]++c8 (3-2) ae)=[aa (W.d (aj zs)),aa (W.d (au ai)),ae]from rfl];have c0:fA (c9 (cB (m1 (dE ["list"]) (mV 0)))) (cB (m2 fG (mN bH [(mV 0)]) (mC (.int 3)))) [aa (W.d (aj zs)),aa (W.d (au ai)),ae]=.ok (false||false):=by refine vB (p:=false) rfl λ_=>cf ((aC (re (xs:=zs) rfl) rfl (vA _ _)).trans ?_);rw[c6 (by omega)]
 rw[aI ((cS c0).trans rfl)];obtain⟨e',f1,o,he⟩:=nG (tg:=.n 2) (body:=(aA (a9 (fA (c9 (cB (m1 (dE ["str"]) (m2 aL (mV 0) (mV 2))))) (cB (m2 dA (m2 aL (mV 0) (mV 2)) (eO fL (mV 0) ae (aa (mV 2))))))
 (bG (wD (mC (.bl false))))
 bf)
 (a9 (cB (m2 eB (mN dTup [(m2 aL (mV 0) (mV 2)),(m2 aL (mV 0) (m2 bq (m2 bv (mV 2) (mC (.int 1))) (mN bH [(mV 0)])))]) (mV 1)))
 (bG (wD (mC (.bl false))))
 bf)))
  (λi e=>∃o:Option W,e=[aa (W.d (aj zs)),aa (W.d (au ai)),o]) (dJ 0 (zs.length:Int)) 0 (λi x e hx ⟨o,he⟩=>by
   subst he;obtain⟨hi,rfl⟩:=vR hx;have v2:mV 2 [aa (W.d (aj zs)),aa (W.d (au ai)),aa (W.d (.int (i:Int)))]=.ok (.int (i:Int)):=rfl;have ia:m2 aL (mV 0) (mV 2) [aa (W.d (aj zs)),aa (W.d (au ai)),aa (W.d (.int (i:Int)))]=.ok (.str (nth zs i)):=aC rfl rfl (by have:=tW (cs:=zs) (i:=(i:Int)) (by omega) (by omega);rw[ir]at this;exact this);have ml:(i+1)%zs.length<zs.length:=Nat.mod_lt _ (by omega);have mm:m2 bq (m2 bv (mV 2) (mC (.int 1))) (mN bH [(mV 0)]) [aa (W.d (aj zs)),aa (W.d (au ai)),aa (W.d (.int (i:Int)))]=.ok (.int (((i+1)%zs.length:Nat):Int)):=by refine(aC (x:=.int ((i:Int)+1)) (aC v2 rfl rfl) (re rfl) ((kC _ _).trans (aK (by omega)))).trans ?_;rw[Int.natCast_emod];rfl
   have ib:m2 aL (mV 0) (m2 bq (m2 bv (mV 2) (mC (.int 1))) (mN bH [(mV 0)])) [aa (W.d (aj zs)),aa (W.d (au ai)),aa (W.d (.int (i:Int)))]=.ok (.str (nth zs ((i+1)%zs.length))):=aC rfl mm (by have:=tW (cs:=zs) (i:=(((i+1)%zs.length:Nat):Int)) (by omega) (by omega);rw[ir]at this;exact this);have sl:eO fL (mV 0) ae (aa (mV 2)) [aa (W.d (aj zs)),aa (W.d (au ai)),aa (W.d (.int (i:Int)))]=.ok (aj (zs.take i)):=by show Rs.ok (D.lst (jZ (zs.map D.str) ae (aa ((i:Nat):Int))))=_;rw[yI,<- List.map_take];rfl
   have c1:fA (c9 (cB (m1 (dE ["str"]) (m2 aL (mV 0) (mV 2))))) (cB (m2 dA (m2 aL (mV 0) (mV 2)) (eO fL (mV 0) ae (aa (mV 2))))) [aa (W.d (aj zs)),aa (W.d (au ai)),aa (W.d (.int (i:Int)))]=.ok (false||false):=by refine vB (p:=false) (pP (p:=true) (cf (by unfold m1;rw[ia];rfl))) λ_=>cf ((aC ia sl (tU _ _)).trans ?_);rw[c6 (Mz nd (m3 hi))]
   have c2:cB (m2 eB (mN dTup [(m2 aL (mV 0) (mV 2)),(m2 aL (mV 0) (m2 bq (m2 bv (mV 2) (mC (.int 1))) (mN bH [(mV 0)])))]) (mV 1)) [aa (W.d (aj zs)),aa (W.d (au ai)),aa (W.d (.int (i:Int)))]=.ok false:=by refine cf ((aC (gI ia ib) rfl (P0 ai (nth zs i,nth zs ((i+1)%zs.length)))).trans ?_);rw[cj (h i _ _ (m3 hi) (m3 ml))];rfl
   exact⟨[aa (W.d (aj zs)),aa (W.d (au ai)),aa (W.d (.int (i:Int)))],_,rfl,(aI ((cS c1).trans rfl)).trans ((cS c2).trans rfl),_,rfl⟩) [aa (W.d (aj zs)),aa (W.d (au ai)),ae] ⟨ae,rfl⟩
 subst he;rw[aI ((i9 (iz (re (xs:=zs) rfl) (mL (by omega) (by omega)))).trans f1)];rfl
def lB(ac:List Str)(ai:List Ar)(t:Str):List Ar:=(ac.filter λh=>decide ((t,h)∈ai)).map λh=>(t,h)
theorem OB{ac:List Str}{ai:List Ar}(h8:ac.length<=8):qS [.d (aj ac),.d (au ai)]=.ok (.d (aX ac (dS ac ai))):=by
 unfold qS Dz;rw[i4];rw[show([aa (W.d (aj ac)),aa (W.d (au ai))]++c8 (4-2) ae)=[aa (W.d (aj ac)),aa (W.d (au ai)),ae,ae]from rfl];rw[aI (e':=[aa (W.d (aj ac)),aa (W.d (au ai)),aa (W.d (au [])),ae]) ((bZ (tJ _)).trans rfl)];have key:∀(r pre:List Str) (o:Option W),ac=pre++r->∃o',dB (.n 3) (bc 2 (m2 bv (mV 2) (bX [aa 3,aa 1,ae] (bM (mV 0)) (.n 2) (cB (m2 dA (mN dTup [(mV 0),(mV 2)]) (mV 1))) (mN dTup [(mV 0),(mV 2)])))) (r.map D.str)
  [aa (W.d (aj ac)),aa (W.d (au ai)),aa (W.d (au (pre.flatMap (lB ac ai)))),o]=.ok (.nx [aa (W.d (aj ac)),aa (W.d (au ai)),aa (W.d (au (dS ac ai))),o']):=by
  intro r
  induction r with
  |nil=>
   intro pre o hp;rw[iN]at hp;exact⟨o,by subst hp;rfl⟩
  |cons t r ih=>
   intro pre o hp;obtain⟨o',ho⟩:=ih (pre++[t]) (aa (.d (.str t))) (by rw[hp];simp);refine⟨o',?_⟩;have rl:∀u,(lB ac ai u).length<=8:=λu=>by
    unfold lB;rw[be];exact d9 (qi _ _) h8
   have fl:(pre.flatMap (lB ac ai)).length<=64:=by
    have pl:pre.length<=8:=by rw[hp,d6]at h8;omega
    have:∀q:List Str,(q.flatMap (lB ac ai)).length<=8*q.length:=λq=>by
     induction q with
     |nil=>simp
     |cons a q ih=>rw[ow,d6,dq];have:=rl a;omega
    have:=this pre;omega
   have hc:=gJ (tg:=.n 2) (c:=cB (m2 dA (mN dTup [(mV 0),(mV 2)]) (mV 1))) (a:=mN dTup [(mV 0),(mV 2)]) (e:=[aa (.d (.str t)),aa (.d (au ai)),ae]) D.str (λh=>pairD (t,h)) (λh=>decide ((t,h)∈ai)) ac λh _=>
    ⟨[aa (.d (.str t)),aa (.d (au ai)),aa (.d (.str h))],rfl,cf (aC (gI rfl rfl) rfl (Rr ai (t,h))),λ_=>gI rfl rfl⟩
   have cm:=fF (ρ:=[aa 3,aa 1,ae]) (e:=[aa (W.d (aj ac)),aa (W.d (au ai)),aa (W.d (au (pre.flatMap (lB ac ai)))),aa (W.d (.str t))]) (gN (a:=mV 0) (x:=aj ac) rfl rfl) (by rw[be];omega) hc;have ad:m2 bv (mV 2) (bX [aa 3,aa 1,ae] (bM (mV 0)) (.n 2) (cB (m2 dA (mN dTup [(mV 0),(mV 2)]) (mV 1))) (mN dTup [(mV 0),(mV 2)])) [aa (W.d (aj ac)),aa (W.d (au ai)),aa (W.d (au (pre.flatMap (lB ac ai)))),aa (W.d (.str t))]=.ok (au ((pre++[t]).flatMap (lB ac ai))):=by
    refine(aC rfl cm ((NP _ _).trans (aK ?_))).trans ?_
    ·rw[be,be];have:=qi (λh=>decide ((t,h)∈ai)) ac;omega
    ·unfold au;rw[BR,lW,List.flatMap_singleton];unfold lB;rw[eS];rfl
   rw[b9];exact mU (e0:=[aa (W.d (aj ac)),aa (W.d (au ai)),aa (W.d (au (pre.flatMap (lB ac ai)))),aa (W.d (.str t))]) rfl ((bZ ad).trans rfl) ho
 obtain⟨o',ho⟩:=key ac [] ae rfl;rw[List.flatMap_nil]at ho;rw[aI ((i9 (gN (a:=mV 0) (x:=aj ac) rfl rfl)).trans ho)];rw[gr (dv (gI (x:=jW ac) (y:=pA (dS ac ai)) ((et (x:=aj ac) rfl).trans rfl) ((et (x:=au (dS ac ai)) rfl).trans rfl)))];rfl
def rk(r:List Str):List Ky:=r.map g6
abbrev Fy:=List (Ar×D)
def Bf(told:Fy):List Ar:=told.map (·.1)
structure Dc(ac:List Str)(A:List Ar)(KT KC:List (List Str)):Prop where
 kt:∀a∈ac,∀b∈ac,a≠b->([a,b]∈KT↔tie A a b=true)
 ktm:∀k∈KT,∃a b,k=[a,b]/\a∈ac/\b∈ac/\a≠b/\tie A a b=true
 kc:∀a∈ac,∀m∈ac,∀b∈ac,[a,m,b]∈KC↔a≠b/\wU A a m b=true
def SD(t h s:Str)(x:List Str):D:=.tup [.str t,.str h,.str s,.tup (x.map D.str)]
inductive Rl(ac:List Str)(A P:List Ar)(t h:Str):Str->List Str->Prop
 |Ul {z:Str} (zn:z∈ac) (ne:t≠z) (c:wU A t h z=true):Rl ac A P t h "corner" [z]
 |on {z:Str} (zn:z∈ac) (ne:z≠h) (nt:tie A z h=false) (nc:wU A z t h=false) (p:(z,t)∈P):Rl ac A P t h "on" [z]
 |over {z:Str} (zn:z∈ac) (p:(t,z)∈P) (q:(z,h)∈P):Rl ac A P t h "over" [z]
 |both {z w:Str} (zn:z∈ac) (wn:w∈ac) (ne:z≠w) (nt:tie A z w=false) (nc:wU A z t w=false) (t1:tie A z t=true) (t2:tie A w t=true) (p:(z,h)∈P) (q:(w,h)∈P):Rl ac A P t h "both" [z,w]
structure Gt(ac:List Str)(A:List Ar)(told:Fy):Prop where
 nd:(Bf told).Nodup
 sub:∀p∈Bf told,p∈A
 ord:∀i q,told[i]? = aa q->∃s x,q.2=SD q.1.1 q.1.2 s x/\Rl ac A (Bf (told.take i)) q.1.1 q.1.2 s x
open PySem.Builtin PySem.Builtin.Str
def cl(x:Str):List Nat:=x.cps.toList
end Mr
namespace Mr
open PySem Mi
open My (words eA fh)
def Wd(x:Str):Prop:=∃l,x=S' l/\eA l
theorem Wd.len{x:Str}(h:Wd x):x.length<=8:=by obtain⟨l,rfl,w⟩:=h;rw[jM];exact w.2.1
theorem Wd.ok{x:Str}(h:Wd x):hV [.d (.str x)]=.ok (.d (.bl true)):=by obtain⟨l,rfl,w⟩:=h;exact N7 w
def Ii(c:Str)(p:Ar):Str:=Sq [p.1,c,p.2]
def El(ac:List Str)(xs:List Ar):List Str:=ac++[(":" : Str)]++xs.map (Ii ">")
def tx(ac:List Str)(xs:List Ar):Str:=kB " " (El ac xs)
def nt(ac:List Str):List Nat:=ac.flatMap λn=>cl n++[32]
def tp(ac:List Str)(R S:List Ar):Str:=kB " " (El ac R++S.map (Ii "-"))
end Mr
namespace Mr
open PySem Mi
def ws(p:Str):Bool:=isW (yA p ">").1&&isW (yA p ">").2.2
def wp(p:Str):Ar:=((yA p ">").1,(yA p ">").2.2)
theorem LZ{x:Str}(h:isW x=true){c:Nat}(hc:c∈cl x):97<=c/\c<=122:=by refine lf λz=>?_;have:=MN (x:=x) hc (by unfold low;rw[JY];exact(u9 c 97).elim (λq=>.inl (c6 (by omega))) (λq=>.inr (c6 (by omega))));rw[h]at this;cases this
theorem NM{a:E}{e:Mi.Env}{x:Str}(h:a e=.ok (.str x))(hx:x.length<=100000):mN bH [a] e=.ok (.int (x.length:Int)):=(et h).trans ((AU x).trans (aK (by omega)))
theorem Qe{x:Str}(hx:x.length<=100000){e:Mi.Env}(h0:mV 0 e=.ok (.str x)):jQ fK fK (mC (.int 1)) (mN bH [(mV 0)]) (mC (.int 8)) e=.ok (.bl (decide (1<=x.length)&&decide (x.length<=8))):=by refine(zX rfl (NM h0 hx) rfl).trans ?_;rw[show decide ((1:Int)<=(x.length:Int))=decide (1<=x.length)from oW.mpr (by omega),show decide ((x.length:Int)<=8)=decide (x.length<=8)from oW.mpr (by omega)]
theorem Mb{x:Str}(hx:x.length<=100000):hV [.d (.str x)]=.ok (.d (.bl (isW x))):=by
 unfold hV vI;rw[qJ];rw[show([aa (W.d (.str x))]++c8 (1-1) ae)=[aa (W.d (.str x))]from rfl];have hc:dG (.n 0) cU (m2 dA (mV 0) (mC (.str "abcdefghijklmnopqrstuvwxyz"))) [ae] (x.cps.toList.map λc=>D.str (gO c))=.ok ((x.cps.toList.filter λ_=>true).map λc=>D.bl (low c)):=
  gJ (λc=>D.str (gO c)) (λc=>D.bl (low c)) (λ_=>true) _ λc _=>⟨[aa (.d (.str (gO c)))],rfl,rfl,λ_=>aC (x:=.str (gO c)) rfl rfl (by
   show ba ((gO c).length=1) (Rs.ok (D.bl (decide ((gO c).cps.getD 0 0∈("abcdefghijklmnopqrstuvwxyz" : Str).cps.toList))))=_;rw[aK (show(gO c).length=1 from rfl),show(gO c).cps.getD 0 0=c from rfl,DJ])⟩
 rw[lU.mpr (λ_ _=>rfl)]at hc;have h2:mN nE [(bX [ae] (bM (mV 0)) (.n 0) cU (m2 dA (mV 0) (mC (.str "abcdefghijklmnopqrstuvwxyz"))))] [aa (W.d (.str x))]=.ok (.bl (x.cps.toList.all low)):=by refine(et (fF (ρ:=[ae]) (gN (a:=mV 0) (x:=.str x) rfl (Ik x)) (by rw[be,len_list];omega) hc)).trans ?_;rw[vX,vN,kL,aE,sJ];rfl
 rw[gr (dv (vZ (Qe hx rfl) λ_=>h2))];rfl
theorem Qa{tg:Tg}{b:S}{d:D}{r:List D}{e e0:Mi.Env}{w:W}(hp:tg.put d e=.ok e0)(hb:b e0=.ok (.rt w)):dB tg b (d::r) e=.ok (.rt w):=by rw[dB,hp,aE,hb];rfl
def colon:Str := ":"
def ps(y:Str):List Str:=Txt.split y " "
def pk(y:Str):Nat:=(ps y).idxOf colon
def pn(y:Str):List Str:=(ps y).take (pk y)
def pr(y:Str):List Str:=(ps y).drop (pk y+1)
def kd(c:String):Str:=c
theorem RT{x:Str}(h:isW x=true):Sh x:=by have h0:=h;unfold isW at h;rw[lY,lY]at h;refine⟨by have:=wt h.1.2;omega,λc hc=>?_⟩;have:=LZ h0 hc;omega
open My (words eA fh lG)
theorem Ja:∀(r pre:List Str),(∀x∈r,isW x=true)->(∀x∈r,x∉pre)->r.Nodup->lN pre r=.ok
 |[],_,_,_,_=>rfl
 |x::r,pre,h1,h2,h3=>by
  rw[lN,aG (by rw[h1 x b8];decide),aG (h2 x b8)];have nd:=jC.mp h3;refine Ja r _ (λy hy=>h1 y (cy _ hy)) (λy hy z=>?_) nd.2;rcases gF.mp z with z|z
  ·exact h2 y (cy _ hy) z
  ·exact nd.1 (dI.mp z ▸ hy)
theorem IW{ac:List Str}:∀(r pre:List Ar),(∀p∈r,p.1∈ac/\p.2∈ac/\p.1≠p.2)->(∀p∈r,p∉pre/\(p.2,p.1)∉pre)->(r.Pairwise λp q=>p≠q/\p≠(q.2,q.1))->gU ac pre r=.ok
 |[],_,_,_,_=>rfl
 |p::r,pre,h1,h2,h3=>by
  obtain⟨a,b,c⟩:=h1 p b8;obtain⟨d,e⟩:=h2 p b8;obtain⟨f,g⟩:=k7.mp h3;rw[gU,aG (λz=>z.elim (λz=>z a) λz=>z b),aG (λz=>z.elim c λz=>z.elim d e)];refine IW r _ (λq hq=>h1 q (cy _ hq)) (λq hq=>⟨λz=>?_,λz=>?_⟩) g
  ·rcases gF.mp z with z|z
   ·exact(h2 q (cy _ hq)).1 z
   ·exact(f q hq).1 (dI.mp z).symm
  ·rcases gF.mp z with z|z
   ·exact(h2 q (cy _ hq)).2 z
   ·exact(f q hq).2 (dI.mp z).symm
theorem Wd.isW{x:Str}(h:Wd x):isW x=true:=by have a:=h.ok;rw[Mb (by have:=h.len;omega)]at a;injection a with a;injection a with a;injection a with a
end Mr
namespace Mr
open PySem Mi
theorem Apart.sub{ac:List Str}{xs ys:List Ar}(P:Apart ac ys)(h:xs.Sublist ys):Apart ac xs:=⟨λp hp=>P.inn p (h.mem hp),λp hp=>P.irr p (h.mem hp),P.pw.sublist h⟩
theorem Apart.gU{ac:List Str}{xs:List Ar}(P:Apart ac xs):gU ac [] xs=.ok:=IW xs [] (λp hp=>⟨(P.inn p hp).1,(P.inn p hp).2,P.irr p hp⟩) (by simp) P.pw
theorem Apart.few{ac:List Str}{xs:List Ar}(P:Apart ac xs)(h8:ac.length<=8):xs.length<=28:=by
 have nd:(xs.map λp=>(min (ac.idxOf p.1) (ac.idxOf p.2),max (ac.idxOf p.1) (ac.idxOf p.2))).Nodup:=by
  show B4 _ _;rw[oy];refine vg (λ{p q} hp hq h z=>?_) P.pw;have z1:=congrArg yx z;have z2:=congrArg vj z;simp only at z1 z2;have ip:=P.inn p hp;have iq:=P.inn q hq;rcases vb (ac.idxOf p.1) (ac.idxOf p.2)with a|a<;>rcases vb (ac.idxOf q.1) (ac.idxOf q.2)with b|b
  ·rw[qo a,qo b]at z1;rw[ye a,ye b]at z2;exact h.1 (ma (iV ip.1 iq.1 z1) (iV ip.2 iq.2 z2))
  ·rw[qo a,qm b]at z1;rw[ye a,yf b]at z2;exact h.2 (ma (iV ip.1 iq.2 z1) (iV ip.2 iq.1 z2))
  ·rw[qm a,qo b]at z1;rw[yf a,ye b]at z2;exact h.2 (ma (iV ip.1 iq.2 z2) (iV ip.2 iq.1 z1))
  ·rw[qm a,qm b]at z1;rw[yf a,yf b]at z2;exact h.1 (ma (iV ip.1 iq.1 z2) (iV ip.2 iq.2 z1))
 have:=AZ nd (L:=wT.filter λp=>decide (p.1<p.2)) λp hp=>by
  obtain⟨q,hq,rfl⟩:=cL.mp hp;have ip:=P.inn q hq;have l1:=nq.mpr ip.1;have l2:=nq.mpr ip.2;have ne:ac.idxOf q.1≠ac.idxOf q.2:=λz=>P.irr q hq (iV ip.1 ip.2 z);have lt:min (ac.idxOf q.1) (ac.idxOf q.2)<max (ac.idxOf q.1) (ac.idxOf q.2):=by omega
  have hm:max (ac.idxOf q.1) (ac.idxOf q.2)<8:=by omega
  generalize min (ac.idxOf q.1) (ac.idxOf q.2)=a at lt;generalize max (ac.idxOf q.1) (ac.idxOf q.2)=b at lt hm;refine fo.mpr ⟨fo.mpr ⟨cL.mpr ⟨a*8+b,fq.mpr (by omega),ma (by show(a*8+b)/8=a;omega) (by show(a*8+b)%8=b;omega)⟩,cj (by show a≠b;omega)⟩,cj lt⟩
 rw[show(wT.filter λp=>decide (p.1<p.2)).length=28 by decide +kernel,be]at this;exact this
theorem Rg.QV{ai:List Ar}{zs:List Str}(h:Rg ai zs)(nz:zs≠[]):¬ Rk ai:=λ⟨r,hr⟩=>by
 have pos:0<zs.length:=List.length_pos_iff.mpr nz;have st:∀k,k<zs.length->r (nth zs 0)+(k:Int)<=r (nth zs k):=λk=>by
  induction k with
  |zero=>intro _;omega
  |succ k ih=>
   intro hk;have a:=ih (by omega);have b:=hr _ (h k _ _ (m3 (by omega)) (by rw[Nat.mod_eq_of_lt hk];exact m3 hk));simp only at b;omega
 have a:=st (zs.length-1) (by omega);have b:=hr _ (h (zs.length-1) _ _ (m3 (by omega)) (by rw[Nat.sub_add_cancel pos,Nat.mod_self];exact m3 pos));simp only at b;omega
theorem Rk.SK{ac:List Str}{ai:List Ar}(P:Apart ac ai)(R:Rk (dS ac ai)):Rk ai:=by obtain⟨r,hr⟩:=R;exact⟨r,λp hp=>hr p (uq.mpr ⟨hp,P.inn p hp⟩)⟩
theorem OO{ac:List Str}{ai:List Ar}(hs:∀x∈ac,Sh x)(n1:lM ac=.ok)(P:Apart ac ai) :
 (lz ac ai=false/\jK [.d (aj ac),.d (au ai)]=.ok (.d (.lst [.lst [],aX ac (dS ac ai)]))) \/
 (lz ac ai=true/\∃zs,jK [.d (aj ac),.d (au ai)]=.ok (.d (.lst [aj [("Ring" : Str)],aj zs]))/\Rg ai zs/\zs.Nodup/\3<=zs.length/\zs.length<=8):=by
 have h8:ac.length<=8:=(IF n1).1.2;have few:=P.few h8;rcases Se (ac:=ac) (ai:=ai) hs (by omega) (λp hp=>⟨hs _ (P.inn p hp).1,hs _ (P.inn p hp).2⟩) (by omega) n1 P.gU with ⟨a,j,b⟩|⟨zs,a,z1,z2,z3,z4,z5⟩
 ·exact .inl ⟨OI (Rk.SK P (NA (λp hp=>(uq.mp hp).2.2) b)),L4 a⟩
 ·have z3:Rg ai zs:=λk a b ha hb=>(uq.mp (z3 k a b ha hb)).1;refine .inr ⟨?_,zs,NH a,z3,z4,Rg.three (ac:=ac) z3 z5 P.irr (λa b h1 h2=>?_),z1⟩
  ·cases hq:lz ac ai with
   |true=>rfl
   |false=>exact absurd (LY P.inn hq) (z3.QV z5)
  ·have ne:=P.irr _ h1;have pw:=P.pw;obtain⟨i,hi,e1⟩:=BK.mp h1;obtain⟨j,hj,e2⟩:=BK.mp h2;have pg:=xV.mp pw;rcases Nat.lt_trichotomy i j with q|q|q
   ·exact(pg i j hi hj q).2 (by rw[e1,e2])
   ·subst q;rw[e1]at e2;exact ne (congrArg yx e2)
   ·exact(pg j i hj hi q).2 (by rw[e1,e2])
theorem Ez{xs:List Ar}{k:Nat}(h:k<xs.length):aL (au xs) (.int (k:Int))=.ok (pairD xs[k]):=by show dh (dC (xs.map pairD) (k:Int))=_;unfold dC eX;rw[aF (by omega),be,aF (by omega)];show dh ((xs.map pairD)[(k:Int).toNat]?)=_;rw[ir,eE,fm h];rfl
theorem Apart.tw{ac:List Str}{xs ys:List Ar}(P:Apart ac xs)(hl:ys.length=xs.length)(h:∀k (h1:k<xs.length) (h2:k<ys.length),ys[k]=xs[k]\/ys[k]=(xs[k].2,xs[k].1)):Apart ac ys:=by
 have m:∀p∈ys,∃q∈xs,p=q\/p=(q.2,q.1):=λp hp=>by
  obtain⟨k,hk,rfl⟩:=BK.mp hp;exact⟨xs[k]'(by omega),x6 _,h k (by omega) hk⟩
 refine⟨λp hp=>?_,λp hp=>?_,xV.mpr λi j hi hj q=>?_⟩
 ·obtain⟨q,hq,rfl|rfl⟩:=m p hp
  ·exact P.inn _ hq
  ·exact⟨(P.inn _ hq).2,(P.inn _ hq).1⟩
 ·obtain⟨q,hq,rfl|rfl⟩:=m p hp
  ·exact P.irr _ hq
  ·exact(P.irr _ hq).symm
 ·obtain⟨a,b⟩:=xV.mp P.pw i j (by omega) (by omega) q;generalize he:xs[i]'(by omega)=u at a b;generalize hf:xs[j]'(by omega)=v at a b;have c:=h i (by omega) hi;have d:=h j (by omega) hj;rw[he]at c;rw[hf]at d;obtain⟨u1,u2⟩:=u;obtain⟨v1,v2⟩:=v;rcases c with c|c<;>rcases d with d|d<;>rw[c,d]<;>simp only[ne_eq,Prod.mk.injEq]at a b ⊢<;>constructor<;>intro z
  ·exact a z
  ·exact b z
  ·exact b ⟨z.1,z.2⟩
  ·exact a ⟨z.1,z.2⟩
  ·exact b ⟨z.2,z.1⟩
  ·exact a ⟨z.2,z.1⟩
  ·exact a ⟨z.2,z.1⟩
  ·exact b ⟨z.2,z.1⟩
theorem QT{ac:List Str}{xs:List Ar}(P:Apart ac xs)(h8:ac.length<=8)(c:Int):∃ys,tR [.d (au xs),.d (.int c)]=.ok (.d (au ys))/\Apart ac ys:=by
 have few:=P.few h8;unfold tR FR;rw[pE];rw[show([aa (W.d (au xs)),aa (W.d (.int c))]++c8 (6-2) ae)=[aa (W.d (au xs)),aa (W.d (.int c)),ae,ae,ae,ae]from rfl];have ct:cB (m2 fw (m2 bq (mV 1) (mC (.int 2))) (mC (.int 0))) [aa (W.d (au xs)),aa (W.d (.int c)),ae,ae,ae,ae]=.ok (decide (c%2=0)):=cf (aC (aC rfl rfl ((kC _ _).trans (aK (by decide)))) rfl (AM _ _));by_cases hc:c%2=0
 ·rw[cj hc]at ct;let bit:Nat->Int:=λk=>c*(48271+614*(k:Int))%2147483647/8%2;have rg:eG (mN bH [(mV 0)]) [aa (W.d (au xs)),aa (W.d (.int c)),ae,ae,ae,ae]=.ok ((bx xs.length).map λ(k:Nat)=>D.int (k:Int)):=by
   rw[iz (wF (xs:=xs) rfl) (mL (by omega) (by omega))];exact congrArg Rs.ok (rM _)
  have c1:dG (.n 1) cU (m2 bq (m2 cJ (m2 bq (m2 cv (mV 0) (m2 bv (mC (.int 48271)) (m2 cv (mC (.int 614)) (mV 1)))) (mC (.int 2147483647))) (mC (.int 8))) (mC (.int 2))) [aa (W.d (.int c)),ae] ((bx xs.length).map λ(k:Nat)=>D.int (k:Int))=.ok (((bx xs.length).filter λ_=>true).map λk=>D.int (bit k)):=
   gJ (λk:Nat=>D.int (k:Int)) (λk=>D.int (bit k)) (λ_=>true) _ λk hk=>⟨[aa (W.d (.int c)),aa (W.d (.int (k:Int)))],rfl,rfl,λ_=>by
    have kl:=fq.mp hk;refine(aC (aC (aC (aC rfl (aC rfl (aC rfl rfl ((wM _ _).trans (aK (kR (by decide) (by decide))))) (pB _ _)) ((wM _ _).trans (aK (wu (by omega) (by omega))))) rfl ((kC _ _).trans (aK (by decide)))) rfl ((div_ii _ _).trans (aK (jY (by decide) (by decide))))) rfl ((kC _ _).trans (aK (by decide)))).trans ?_;rfl⟩
  rw[lU.mpr (λ_ _=>rfl)]at c1;have s1:bc 2 (bX [aa 1,ae] (eG (mN bH [(mV 0)])) (.n 1) cU (m2 bq (m2 cJ (m2 bq (m2 cv (mV 0) (m2 bv (mC (.int 48271)) (m2 cv (mC (.int 614)) (mV 1)))) (mC (.int 2147483647))) (mC (.int 8))) (mC (.int 2)))) [aa (W.d (au xs)),aa (W.d (.int c)),ae,ae,ae,ae]=.ok (.nx [aa (W.d (au xs)),aa (W.d (.int c)),aa (W.d (.lst (((bx xs.length).map bit).map D.int))),ae,ae,ae]):=by rw[bZ (fF rg (by rw[be,sE];omega) c1),eS];rfl
  let fl:Nat->Ar:=λk=>if bit k=0 then xs.getD k default else((xs.getD k default).2,(xs.getD k default).1);refine⟨(bx xs.length).map fl,?_,P.tw (by simp) λk h1 h2=>?_⟩
  ·rw[lO (w:=.d (au ((bx xs.length).map fl))) ?_]
   ·rfl
   rw[i7 ct,aI s1];refine gr (dv ?_);have rg2:eG (mN bH [(mV 0)]) [aa (W.d (au xs)),aa (W.d (.int c)),aa (W.d (.lst (((bx xs.length).map bit).map D.int))),ae,ae,ae]=.ok ((bx xs.length).map λ(k:Nat)=>D.int (k:Int)):=by rw[iz (wF (xs:=xs) rfl) (mL (by omega) (by omega))];exact congrArg Rs.ok (rM _)
   refine(fF (ys:=((bx xs.length).filter λ_=>true).map λk=>pairD (fl k)) rg2 (by rw[be,sE];omega) ?_).trans ?_
   ·refine gJ (λk:Nat=>D.int (k:Int)) (λk=>pairD (fl k)) (λ_=>true) _ λk hk=>⟨[aa (W.d (.lst (((bx xs.length).map bit).map D.int))),aa (W.d (au xs)),aa (W.d (.int (k:Int)))],rfl,rfl,λ_=>?_⟩;have kl:=fq.mp hk;have gx:m2 aL (mV 1) (mV 2) [aa (W.d (.lst (((bx xs.length).map bit).map D.int))),aa (W.d (au xs)),aa (W.d (.int (k:Int)))]=.ok (pairD xs[k]):=aC rfl rfl (Ez kl);have gb:m2 aL (mV 0) (mV 2) [aa (W.d (.lst (((bx xs.length).map bit).map D.int))),aa (W.d (au xs)),aa (W.d (.int (k:Int)))]=.ok (.int (bit k)):=aC rfl rfl (by
     show dh (dC (((bx xs.length).map bit).map D.int) (k:Int))=_;unfold dC eX;rw[aF (by omega),be,be,sE,aF (by omega)];show dh ((((bx xs.length).map bit).map D.int)[(k:Int).toNat]?)=_;rw[ir,eE,eE,List.getElem?_range kl];rfl)
    have ge:xs.getD k default=xs[k]:=by rw[fk,fm kl];rfl
    refine(aC (me gx (gI (aC gx rfl rfl) (aC gx rfl rfl))) gb (z:=.ok (pairD (fl k))) ?_);have b0:=iu (c*(48271+614*(k:Int))%2147483647/8) (b:=2) (by decide);have b1:=io (c*(48271+614*(k:Int))%2147483647/8) (b:=2) (by decide);have hb:bit k=0\/bit k=1:=by show c*(48271+614*(k:Int))%2147483647/8%2=0\/c*(48271+614*(k:Int))%2147483647/8%2=(1:Int);omega
    show _=Rs.ok (pairD (if bit k=0 then xs.getD k default else((xs.getD k default).2,(xs.getD k default).1)));rw[ge];rcases hb with hb|hb<;>rw[hb]<;>rfl
   ·rw[lU.mpr (λ_ _=>rfl)];unfold au;rw[eS];rfl
  ·rw[List.getElem_map,BW];have ge:xs.getD k default=xs[k]:=by rw[fk,fm h1];rfl
   by_cases hb:bit k=0
   ·exact .inl (by show(if bit k=0 then xs.getD k default else((xs.getD k default).2,(xs.getD k default).1))=_;rw[aF hb,ge])
   ·exact .inr (by show(if bit k=0 then xs.getD k default else((xs.getD k default).2,(xs.getD k default).1))=_;rw[aG hb,ge])
 ·rw[c6 hc]at ct;rw[aI ((cS ct).trans rfl)];rw[aI (e':=[aa (W.d (au xs)),aa (W.d (.int c)),ae,aa (W.d (au xs)),ae,ae]) (bZ ((et (x:=au xs) rfl).trans rfl))];have it:∃bys:List Int,bM (eO fL (mN cF [(m2 cJ (mV 1) (mC (.int 2))),(m2 cJ (mV 1) (mC (.int 64)))]) ae (aa (m2 bv (mC (.int 1)) (m2 bq (m2 cJ (mV 1) (mC (.int 4096))) (mC (.int 2)))))) [aa (W.d (au xs)),aa (W.d (.int c)),ae,aa (W.d (au xs)),ae,ae]=.ok (bys.map D.int):=by
   have l:mN cF [(m2 cJ (mV 1) (mC (.int 2))),(m2 cJ (mV 1) (mC (.int 64)))] [aa (W.d (au xs)),aa (W.d (.int c)),ae,aa (W.d (au xs)),ae,ae]=.ok (.lst ([c/2,c/64].map D.int)):=me (aC rfl rfl ((div_ii _ _).trans (aK (jY (by decide) (by decide))))) (aC rfl rfl ((div_ii _ _).trans (aK (jY (by decide) (by decide)))));have r:m2 bv (mC (.int 1)) (m2 bq (m2 cJ (mV 1) (mC (.int 4096))) (mC (.int 2))) [aa (W.d (au xs)),aa (W.d (.int c)),ae,aa (W.d (au xs)),ae,ae]=.ok (.int (1+c/4096%2)):=aC rfl (aC (aC rfl rfl ((div_ii _ _).trans (aK (jY (by decide) (by decide))))) rfl ((kC _ _).trans (aK (by decide)))) (pB _ _);have b0:=iu (c/4096) (b:=2) (by decide);have b1:=io (c/4096) (b:=2) (by decide);obtain⟨k,hk⟩ : ∃k:Nat,1+c/4096%2=(k:Int):=⟨(1+c/4096%2).toNat,by omega⟩;rw[hk]at r;refine⟨[c/2,c/64].take k,gN (x:=.lst (([c/2,c/64].take k).map D.int)) ?_ rfl⟩;unfold eO;rw[l,aE];rw[show∀e:Mi.Env,kM ae e=.ok ae fromλ_=>rfl,aE];rw[kM,r,aE,pY,aE,aE];show Rs.ok (D.lst (jZ ([c/2,c/64].map D.int) ae (aa ((k:Nat):Int))))=_;rw[yI,<- List.map_take]
  obtain⟨bys,it⟩:=it;have key:∀(bs:List Int) (zs:List Ar) (o4 o5:Option W),zs.length=xs.length->Apart ac zs->∃(ys:List Ar) (o4' o5':Option W),Apart ac ys/\dB (Tg.n 4)
   (a9 (cB (m2 mY (mN bH [(mV 3)]) (mC (.int 0))))
   (aA (bc 5 (m2 bq (mV 4) (mN bH [(mV 3)])))
   (vE 3 (mV 5) (mN dTup [(m2 aL (m2 aL (mV 3) (mV 5)) (mC (.int 1))),(m2 aL (m2 aL (mV 3) (mV 5)) (mC (.int 0)))])))
   bf) (bs.map D.int) [aa (W.d (au xs)),aa (W.d (.int c)),ae,aa (W.d (au zs)),o4,o5]=.ok (.nx [aa (W.d (au xs)),aa (W.d (.int c)),ae,aa (W.d (au ys)),o4',o5']):=by
   intro bs
   induction bs with
   |nil=>intro zs o4 o5 _ hP;exact⟨zs,o4,o5,hP,rfl⟩
   |cons b bs ih=>
    intro zs o4 o5 hz hP;have cg:cB (m2 mY (mN bH [(mV 3)]) (mC (.int 0))) [aa (W.d (au xs)),aa (W.d (.int c)),ae,aa (W.d (au zs)),aa (W.d (.int b)),o5]=.ok (decide ((0:Int)<(zs.length:Int))):=cf (aC (wF (xs:=zs) rfl) rfl (NO _ _));rw[b9];by_cases hpos:(0:Int)<(zs.length:Int)
    ·rw[cj hpos]at cg;have y0:=iu b (b:=(zs.length:Int)) (by omega);have y1:=io b hpos;obtain⟨k,hk2⟩ : ∃k:Nat,b%(zs.length:Int)=(k:Int):=⟨(b%(zs.length:Int)).toNat,by omega⟩;have kl:k<zs.length:=by omega
     have hP2:Apart ac (zs.set k (zs[k].2,zs[k].1)):=hP.tw (by rw[jD]) λi h1 h2=>by
      rw[List.getElem_set];by_cases e:k=i
      ·subst e;rw[aF rfl];exact .inr rfl
      ·rw[aG e];exact .inl rfl
     obtain⟨ys,p4,p5,q1,q2⟩:=ih (zs.set k (zs[k].2,zs[k].1)) (aa (W.d (.int b))) (aa (W.d (.int (k:Int)))) (by rw[jD];exact hz) hP2;refine⟨ys,p4,p5,q1,mU (e0:=[aa (W.d (au xs)),aa (W.d (.int c)),ae,aa (W.d (au zs)),aa (W.d (.int b)),o5]) rfl ?_ q2⟩;rw[i7 cg];rw[aI (e':=[aa (W.d (au xs)),aa (W.d (.int c)),ae,aa (W.d (au zs)),aa (W.d (.int b)),aa (W.d (.int (k:Int)))]) (bZ (aC rfl (wF rfl) ((kC _ _).trans ((aK hpos).trans (by rw[hk2])))))];have gx:m2 aL (mV 3) (mV 5) [aa (W.d (au xs)),aa (W.d (.int c)),ae,aa (W.d (au zs)),aa (W.d (.int b)),aa (W.d (.int (k:Int)))]=.ok (pairD zs[k]):=aC rfl rfl (Ez kl);have tv:mN dTup [(m2 aL (m2 aL (mV 3) (mV 5)) (mC (.int 1))),(m2 aL (m2 aL (mV 3) (mV 5)) (mC (.int 0)))] [aa (W.d (au xs)),aa (W.d (.int c)),ae,aa (W.d (au zs)),aa (W.d (.int b)),aa (W.d (.int (k:Int)))]=.ok (pairD (zs[k].2,zs[k].1)):=gI (aC gx rfl rfl) (aC gx rfl rfl);unfold vE;rw[tv,aE,show mV 5 [aa (W.d (au xs)),aa (W.d (.int c)),ae,aa (W.d (au zs)),aa (W.d (.int b)),aa (W.d (.int (k:Int)))]=.ok (.int (k:Int))from rfl,aE,pY,aE,show getL [aa (W.d (au xs)),aa (W.d (.int c)),ae,aa (W.d (au zs)),aa (W.d (.int b)),aa (W.d (.int (k:Int)))] 3=.ok (zs.map pairD)from rfl,aE];rw[show eX (zs.map pairD).length (k:Int)=aa k by unfold eX;rw[aF (by omega),aF (by rw[be];omega),ir],kL,aE];rw[<- List.map_set];rfl
    ·rw[c6 hpos]at cg;obtain⟨ys,p4,p5,q1,q2⟩:=ih zs (aa (W.d (.int b))) o5 hz hP;exact⟨ys,p4,p5,q1,mU (e0:=[aa (W.d (au xs)),aa (W.d (.int c)),ae,aa (W.d (au zs)),aa (W.d (.int b)),o5]) rfl ((cS cg).trans rfl) q2⟩
  obtain⟨ys,o4,o5,q1,q2⟩:=key bys xs ae ae rfl P;refine⟨ys,?_,q1⟩;rw[aI ((i9 it).trans q2)];rfl
open My (words eA fh lG)
theorem Ho(ns:List Int)(hl:ns.length<=63):Aw [.d (.lst (ns.map D.int))]=.ok (.d (.bl true)):=by
 obtain⟨c32,h32⟩:=pJ ns 32 (by decide);obtain⟨ac,A0,r,CP,IN,cw,mw,hm8,hnm⟩:=OP ns 8 (by decide) (by decide);have wd:∀x∈ac,Wd x:=λx hx=>by
  rw[hnm]at hx;obtain⟨l,hl,rfl⟩:=cL.mp hx;exact⟨l,rfl,fh cw mw hm8 l hl⟩
 have hs:∀x∈ac,Sh x:=λx hx=>RT (wd x hx).isW;have np:=IN.pos;have n8:=IN.le;have Ap:=IN.apart;have du:lM ac=.ok:=by unfold lM;rw[aF ⟨np,n8⟩];exact Ja ac [] (λx hx=>(wd x hx).isW) (by simp) IN.nd
 generalize A0.map (arrOf ac)=A at CP Ap;obtain⟨B,hB,BP⟩:=QT Ap n8 c32;generalize hLs:D.lst (ns.map D.int)=Ls at CP h32;have hcell:∀k:Nat,k<=100->∃c:Int,fP [.d Ls,.d (.int (k:Int))]=.ok (.d (.int c)):=λk hk=>by rw[<- hLs];exact pJ ns k hk
 clear hLs;unfold Aw Hm;rw[qJ];rw[show([aa (W.d Ls)]++c8 (11-1) ae)=[aa (W.d Ls),ae,ae,ae,ae,ae,ae,ae,ae,ae,ae]from rfl];rw[aI (e':=[aa (W.d Ls),aa (W.d (aX ac A)),ae,ae,ae,ae,ae,ae,ae,ae,ae]) (bZ (call2 rfl rfl CP))];rw[aI (e':=[aa (W.d Ls),aa (W.d (aX ac A)),aa (W.d (aj ac)),ae,ae,ae,ae,ae,ae,ae,ae]) (bZ ((et (aC rfl rfl (wY ac A))).trans rfl))];rw[aI (e':=[aa (W.d Ls),aa (W.d (aX ac A)),aa (W.d (aj ac)),aa (W.d (au B)),ae,ae,ae,ae,ae,ae,ae]) (bZ (call2 (x:=.d (au A)) (dv ((et (aC rfl rfl (G0 ac A))).trans rfl)) (dv (call2 rfl rfl h32)) hB))];have mk:wI "Ring" (mN ju [(mV 2)]) [aa (W.d Ls),aa (W.d (aX ac A)),aa (W.d (aj ac)),aa (W.d (au B)),ae,ae,ae,ae,ae,ae,ae]=.ok (.xr "Ring" (aj ac)):=by
  unfold wI;rw[et (x:=aj ac) rfl];show(match kK (ac.map D.str)with
   |some ws=>if ws.length<=1000/\(L2.gT ws).shown.length<=100000 then Rs.ok (W.xr "Ring" (aj ac))else Rs.no
   |none=>Rs.no)=_
  rw[FK];show(if ac.length<=1000/\(L2.gT ac).shown.length<=100000 then Rs.ok (W.xr "Ring" (aj ac))else Rs.no)=_;rw[aF ⟨by omega,IG n8 hs⟩]
 rw[aI (e':=[aa (W.d Ls),aa (W.d (aX ac A)),aa (W.d (aj ac)),aa (W.d (au B)),aa (W.xr "Ring" (aj ac)),ae,ae,ae,ae,ae,ae]) (by unfold nQ;rw[mk];rfl)];have ct:fA (c9 (cB (uJ 4 (λc=>([("NoName",true),("WrongSize",true),("NoWord",true),("Twice",true),("Ring",true)]:List (String×Bool)).lookup c)))) (cB (m2 dQ (rT "Ring" 4) (mV 2))) [aa (W.d Ls),aa (W.d (aX ac A)),aa (W.d (aj ac)),aa (W.d (au B)),aa (W.xr "Ring" (aj ac)),ae,ae,ae,ae,ae,ae]=.ok (false||false):=by refine vB (p:=false) (pP (p:=true) (cf rfl)) λ_=>cf ((aC (x:=aj ac) rfl rfl (Gr ac ac)).trans ?_);rw[cj rfl];rfl
 rw[aI ((cS ct).trans rfl)];have key : ∀ (m k : Nat) (B : List Ar) (o5 o6 o7 o8 o9 o10 : Option W), Apart ac B → B.length < m → dB (.n 5) (aA (bc 6 (mN cF [(mN ju [(mV 2)]), (mN ju [(mV 3)])]))
       (aA (s9 [7,8] (bp jK [(wD (m2 aL (mV 6) (mC (.int 0)))),(wD (m2 aL (mV 6) (mC (.int 1))))]))
       (aA (a9 (cB (m2 dQ (mV 6) (mN cF [(mV 2),(mV 3)])))
       (bG (wD (mC (.bl false))))
       bf)
       (aA (a9 (c9 (cB (bp qU [(wD (mV 2)),(wD (mV 3))])))
       (bG (wD (n5 (m2 fw (mV 7) (mN cF [])) (bp (gQ 4) [(wD (mV 8)),(wD (bp qS [(wD (mV 2)),(wD (mV 3))]))]))))
       bf)
       (aA (a9 (fA (cB (m2 dQ (mV 7) (mN cF [(mC (.str "Ring"))]))) (c9 (cB (bp oR [(wD (mV 8)),(wD (mV 3))]))))
       (bG (wD (mC (.bl false))))
       bf)
       (aA (bc 9 (m2 bq (bp fP [(wD (mV 0)),(wD (m2 bv (mC (.int 33)) (m2 bq (mV 5) (mC (.int 6)))))]) (mN bH [(mV 8)])))
       (aA (bc 10 (mN dTup [(m2 aL (mV 8) (mV 9)),(m2 aL (mV 8) (m2 bq (m2 bv (mV 9) (mC (.int 1))) (mN bH [(mV 8)])))]))
       (bc 3 (bX [aa 10,ae] (bM (mV 3)) (.n 1) (cB (m2 dQ (mV 1) (mV 0))) (mV 1)))))))))) ((yc k m).map λ(i:Nat)=>D.int (i:Int))
  [aa (W.d Ls),aa (W.d (aX ac A)),aa (W.d (aj ac)),aa (W.d (au B)),aa (W.xr "Ring" (aj ac)),o5,o6,o7,o8,o9,o10]=.ok (.rt (.d (.bl true))):=by
  intro m
  induction m with
  |zero=>intro k B o5 o6 o7 o8 o9 o10 _ h;omega
  |succ m ih=>
   intro k B o5 o6 o7 o8 o9 o10 P hm;rw[B1,b9];have few:=P.few n8;let hd:W:=.d (.lst [aj ac,au B]);have t6:bc 6 (mN cF [(mN ju [(mV 2)]),(mN ju [(mV 3)])]) [aa (W.d Ls),aa (W.d (aX ac A)),aa (W.d (aj ac)),aa (W.d (au B)),aa (W.xr "Ring" (aj ac)),aa (W.d (.int (k:Int))),o6,o7,o8,o9,o10]=.ok (.nx [aa (W.d Ls),aa (W.d (aX ac A)),aa (W.d (aj ac)),aa (W.d (au B)),aa (W.xr "Ring" (aj ac)),aa (W.d (.int (k:Int))),aa hd,o7,o8,o9,o10]):=bZ (me ((et (x:=aj ac) rfl).trans rfl) ((et (x:=au B) rfl).trans rfl));have cr:=OM (ac:=ac) (ai:=B) n8 (by omega);have nh:∀(d7 d8:D),cB (m2 dQ (mV 6) (mN cF [(mV 2),(mV 3)])) [aa (W.d Ls),aa (W.d (aX ac A)),aa (W.d (aj ac)),aa (W.d (au B)),aa (W.xr "Ring" (aj ac)),aa (W.d (.int (k:Int))),aa hd,aa (W.d d7),aa (W.d d8),o9,o10]=.ok false:=λd7 d8=>cf (aC (x:=.lst [.lst (ac.map D.str),.lst (B.map pairD)]) rfl (me rfl rfl) (ME ac B));have put:∀{d7 d8:D},jK [.d (aj ac),.d (au B)]=.ok (.d (.lst [d7,d8]))->s9 [7,8] (bp jK [(wD (m2 aL (mV 6) (mC (.int 0)))),(wD (m2 aL (mV 6) (mC (.int 1))))]) [aa (W.d Ls),aa (W.d (aX ac A)),aa (W.d (aj ac)),aa (W.d (au B)),aa (W.xr "Ring" (aj ac)),aa (W.d (.int (k:Int))),aa hd,o7,o8,o9,o10]=.ok (.nx [aa (W.d Ls),aa (W.d (aX ac A)),aa (W.d (aj ac)),aa (W.d (au B)),aa (W.xr "Ring" (aj ac)),aa (W.d (.int (k:Int))),aa hd,aa (W.d d7),aa (W.d d8),o9,o10]):=λ{d7 d8} h=>by
    unfold s9;rw[call2 (x:=.d (aj ac)) (y:=.d (au B)) (dv (aC (x:=.lst [aj ac,au B]) rfl rfl rfl)) (dv (aC (x:=.lst [aj ac,au B]) rfl rfl rfl)) h];rfl
   rcases OO hs du P with ⟨e1,e2⟩|⟨e1,zs,e2,z1,z2,z3,z4⟩
   ·rw[e1]at cr;refine Qa (e0:=[aa (W.d Ls),aa (W.d (aX ac A)),aa (W.d (aj ac)),aa (W.d (au B)),aa (W.xr "Ring" (aj ac)),aa (W.d (.int (k:Int))),o6,o7,o8,o9,o10]) rfl ?_;rw[aI t6,aI (put e2),aI ((cS (nh _ _)).trans rfl)];refine lO ((i7 (pP (p:=false) (cf (call2 rfl rfl cr)))).trans (gr (dv ?_)));refine vZ (p:=true) (q:=true) (aC (x:=.lst []) rfl (tJ _) rfl) λ_=>call2 (x:=.d (aX ac (dS ac B))) rfl (dv (call2 rfl rfl (OB n8))) (QP _ _)
   ·rw[e1]at cr;obtain⟨c,hc⟩:=hcell (33+k%6) (by omega);have y0:=iu c (b:=(zs.length:Int)) (by omega);have y1:=io c (b:=(zs.length:Int)) (by omega);obtain⟨i,hi⟩ : ∃i:Nat,c%(zs.length:Int)=(i:Int):=⟨(c%(zs.length:Int)).toNat,by omega⟩;have il:i<zs.length:=by omega
    have jl:(i+1)%zs.length<zs.length:=Nat.mod_lt _ (by omega);let g:Ar:=(nth zs i,nth zs ((i+1)%zs.length));have gm:g∈B:=z1 i _ _ (m3 il) (m3 jl);have lt:(B.filter λp=>!decide (p=g)).length<m:=by have a:=JH (p:=λp=>!decide (p=g)) |>.mpr ⟨g,gm,show¬ ((!decide (g=g))=true)by simp⟩;omega
    have go:=ih (k+1) (B.filter λp=>!decide (p=g)) (aa (W.d (.int (k:Int)))) (aa hd) (aa (W.d (aj [("Ring" : Str)]))) (aa (W.d (aj zs))) (aa (W.d (.int (i:Int)))) (aa (W.d (pairD g))) (P.sub List.filter_sublist) lt;refine mU (e0:=[aa (W.d Ls),aa (W.d (aX ac A)),aa (W.d (aj ac)),aa (W.d (au B)),aa (W.xr "Ring" (aj ac)),aa (W.d (.int (k:Int))),o6,o7,o8,o9,o10]) rfl ?_ go;rw[aI t6,aI (put e2),aI ((cS (nh _ _)).trans rfl)];rw[aI ((cS (pP (p:=true) (cf (call2 rfl rfl cr)))).trans rfl)];have c5:fA (cB (m2 dQ (mV 7) (mN cF [(mC (.str "Ring"))]))) (c9 (cB (bp oR [(wD (mV 8)),(wD (mV 3))]))) [aa (W.d Ls),aa (W.d (aX ac A)),aa (W.d (aj ac)),aa (W.d (au B)),aa (W.xr "Ring" (aj ac)),aa (W.d (.int (k:Int))),aa hd,aa (W.d (aj [("Ring" : Str)])),aa (W.d (aj zs)),o9,o10]=.ok (false||false):=by refine vB (p:=false) (cf ((aC (x:=aj [("Ring" : Str)]) (y:=aj [("Ring" : Str)]) rfl (Mj rfl) (Gr _ _)).trans (by rw[cj rfl];rfl))) λ_=>pP (p:=true) (cf (call2 rfl rfl (M2 z1 z2 z3 z4)))
    rw[aI ((cS c5).trans rfl)];rw[aI (e':=[aa (W.d Ls),aa (W.d (aX ac A)),aa (W.d (aj ac)),aa (W.d (au B)),aa (W.xr "Ring" (aj ac)),aa (W.d (.int (k:Int))),aa hd,aa (W.d (aj [("Ring" : Str)])),aa (W.d (aj zs)),aa (W.d (.int (i:Int))),o10]) (by
     refine(bZ (d:=.int (i:Int)) (aC (call2 (y:=.d (.int ((33+k%6:Nat):Int))) rfl (dv (aC rfl (aC rfl rfl ((kC _ _).trans (aK (by decide)))) (pB _ _))) hc) (re (xs:=zs) rfl) ((kC _ _).trans ((aK (by omega)).trans (by rw[hi]))))).trans rfl)]
    have ia:m2 aL (mV 8) (mV 9) [aa (W.d Ls),aa (W.d (aX ac A)),aa (W.d (aj ac)),aa (W.d (au B)),aa (W.xr "Ring" (aj ac)),aa (W.d (.int (k:Int))),aa hd,aa (W.d (aj [("Ring" : Str)])),aa (W.d (aj zs)),aa (W.d (.int (i:Int))),o10]=.ok (.str (nth zs i)):=aC rfl rfl (by have:=tW (cs:=zs) (i:=(i:Int)) (by omega) (by omega);rw[ir]at this;exact this);have mm:m2 bq (m2 bv (mV 9) (mC (.int 1))) (mN bH [(mV 8)]) [aa (W.d Ls),aa (W.d (aX ac A)),aa (W.d (aj ac)),aa (W.d (au B)),aa (W.xr "Ring" (aj ac)),aa (W.d (.int (k:Int))),aa hd,aa (W.d (aj [("Ring" : Str)])),aa (W.d (aj zs)),aa (W.d (.int (i:Int))),o10]=.ok (.int (((i+1)%zs.length:Nat):Int)):=by refine(aC (x:=.int ((i:Int)+1)) (aC rfl rfl rfl) (re rfl) ((kC _ _).trans (aK (by omega)))).trans ?_;rw[Int.natCast_emod];rfl
    have ib:m2 aL (mV 8) (m2 bq (m2 bv (mV 9) (mC (.int 1))) (mN bH [(mV 8)])) [aa (W.d Ls),aa (W.d (aX ac A)),aa (W.d (aj ac)),aa (W.d (au B)),aa (W.xr "Ring" (aj ac)),aa (W.d (.int (k:Int))),aa hd,aa (W.d (aj [("Ring" : Str)])),aa (W.d (aj zs)),aa (W.d (.int (i:Int))),o10]=.ok (.str (nth zs ((i+1)%zs.length))):=aC rfl mm (by have:=tW (cs:=zs) (i:=(((i+1)%zs.length:Nat):Int)) (by omega) (by omega);rw[ir]at this;exact this);rw[aI (e':=[aa (W.d Ls),aa (W.d (aX ac A)),aa (W.d (aj ac)),aa (W.d (au B)),aa (W.xr "Ring" (aj ac)),aa (W.d (.int (k:Int))),aa hd,aa (W.d (aj [("Ring" : Str)])),aa (W.d (aj zs)),aa (W.d (.int (i:Int))),aa (W.d (pairD g))]) ((bZ (gI ia ib)).trans rfl)];have hcm:dG (.n 1) (cB (m2 dQ (mV 1) (mV 0))) (mV 1) [aa (W.d (pairD g)),ae] (B.map pairD)=.ok ((B.filter λp=>!decide (p=g)).map pairD):=
     gJ pairD pairD (λp=>!decide (p=g)) B λp _=>⟨[aa (W.d (pairD g)),aa (W.d (pairD p))],rfl,cf (aC rfl rfl (Oa p g)),λ_=>rfl⟩
    exact(bZ (fF (gN (x:=au B) rfl rfl) (by rw[be];omega) hcm)).trans rfl
 have rg:eG (mC (.int 29)) [aa (W.d Ls),aa (W.d (aX ac A)),aa (W.d (aj ac)),aa (W.d (au B)),aa (W.xr "Ring" (aj ac)),ae,ae,ae,ae,ae,ae]=.ok ((yc 0 29).map λ(i:Nat)=>D.int (i:Int)):=by rw[iz (n:=29) rfl (mL (by omega) (by omega))];exact congrArg Rs.ok ((rM 29).trans (by rw[List.range_eq_range']))
 rw[lO ((i9 rg).trans (key 29 0 B ae ae ae ae ae ae BP (by have:=BP.few n8;omega)))];rfl
end Mr
namespace oB
open PySem L2 PyProof.Rows
abbrev cN:ag:=242
abbrev tN:ag:=238
abbrev rI:ag:=94
instance ax:A.bD:=⟨[(tN,xk "sorted_rows")],λc=>if c = "ArrowError" then 29 else if c = "WrongSize" then 42 else if c = "NoWord" then 54 else if c = "Twice" then 66 else if c = "NoName" then 78 else if c = "Ring" then 97 else if c = "Unlike" then 109 else if c = "NoArrow" then 121 else if c = "Locked" then 133 else if c = "NoTie" then 145 else if c = "NoSuch" then 157 else if c = "NoNet" then 176 else if c = "NoText" then 188 else if c = "NoRow" then 200 else if c = "NoLabel" then 212 else 0⟩
theorem walk{l:BA}{q:aW}{loose:List Str}{XP:(Str->Option ah)->ay->Prop}{YP:aQ->ay->Prop}{d:DefRec}{K:Params->aB}(hn:l.most=aa 63)(hdf:d.params.defaults=[])
 (hY:∀(w:aQ) (h:ay),YP w h->(K w.params).In h) (hL:∀w:aQ,Hq (K w.params)=true) (hK:∀w:aQ,(K w.params).lookup tN=ae) (hrec:∃d,(recsOf q).find? (λe=>e.name==("sorted_rows" : Str))=aa d) (htab:∀w:aQ,PySem.W.tabIn (K w.params) "sorted_rows" = aa (cN,tN))
 (F:∀(w:aQ) (mg:Str->Option ah) (fa:ag) (h:ay),(K w.params).In h->h.Ns mainGlobals mg->mg d.name=aa (.ref fa) ->
  ∃fd:bA,(∀(s:ak) (u:ah),ng s fd ⟨[u],[]⟩ [("_law_script",u)])/\∀base:ay,(K w.params).In base->base.Ns mainGlobals mg->BM mg base->ke base cN tN->bw l.prog w (K w.params) mg base aJ 8 fa fd ["_law_script"] A.uR) :
 PySem.W.WalkO q loose XP YP l.row.toRowW d [] (λf vs=>Bt f vs):=
 L2.QB (x := "_law_script") (dn := "sorted_rows") (qn:=xk "sorted_rows") (k:=8) rfl hn hdf ⟨rfl,by decide,by decide,rfl⟩ hY (λw a o e c=>PD (hL w) e c) hK hrec htab F
theorem O2{K:aB}{h:ay}{mg:Str->Option ah}(X:K.In h)(G:h.Ns mainGlobals mg)(CQ:bT K mainGlobals "len" = aa ae)(CS:bT K mainGlobals "range" = aa ae)(CT:bT K mainGlobals "max" = aa ae)(CU:bT K mainGlobals "min" = aa ae)(CV:bT K mainGlobals "tuple" = aa ae)(CW:bT K mainGlobals "list" = aa ae)(CY:bT K mainGlobals "isinstance" = aa ae)(CZ:bT K mainGlobals "all" = aa ae)(C1:bT K mainGlobals "any" = aa ae)(C2:bT K mainGlobals "bool" = aa ae)(C3:bT K mainGlobals "str" = aa ae)(C4:bT K mainGlobals "int" = aa ae)(C5:bT K mainGlobals "zip" = aa ae)(C6:bT K mainGlobals "enumerate" = aa ae)(C7:bT K mainGlobals "sorted" = aa ae)(C8:bT K mainGlobals "reversed" = aa ae)(C9:bT K mainGlobals "set" = aa ae){K5:Tok}(Db:bT K mainGlobals "LETTERS" = aa (aa (.str "abcdefghijklmnopqrstuvwxyz" K5))){K6:Tok}(De:bT K mainGlobals "MOST_LETTERS" = aa (aa (.int 8 K6))){K7:Tok}(Df:bT K mainGlobals "MOST_NAMES" = aa (aa (.int 8 K7))):Txt mg:=⟨gE X G CQ,gE X G CS,gE X G CT,gE X G CU,gE X G CV,gE X G CW,gE X G CY,gE X G CZ,gE X G C1,gE X G C2,gE X G C3,gE X G C4,gE X G C5,gE X G C6,gE X G C7,gE X G C8,gE X G C9,⟨K5,eR X G Db⟩,⟨K6,eR X G De⟩,⟨K7,eR X G Df⟩⟩
structure D7(K:aB):Prop where
 K8:bT K mainGlobals "ArrowError" = aa (aa (.ref (ax.cl "ArrowError")))
 Dg:bT K mainGlobals "WrongSize" = aa (aa (.ref (ax.cl "WrongSize")))
 Dh:bT K mainGlobals "NoWord" = aa (aa (.ref (ax.cl "NoWord")))
 Di:bT K mainGlobals "Twice" = aa (aa (.ref (ax.cl "Twice")))
 Dj:bT K mainGlobals "NoName" = aa (aa (.ref (ax.cl "NoName")))
 K9:bT K mainGlobals "Ring" = aa (aa (.ref (ax.cl "Ring")))
 La:bT K mainGlobals "Unlike" = aa (aa (.ref (ax.cl "Unlike")))
 Lb:bT K mainGlobals "NoArrow" = aa (aa (.ref (ax.cl "NoArrow")))
 Lc:bT K mainGlobals "Locked" = aa (aa (.ref (ax.cl "Locked")))
 Ld:bT K mainGlobals "NoTie" = aa (aa (.ref (ax.cl "NoTie")))
 Le:bT K mainGlobals "NoSuch" = aa (aa (.ref (ax.cl "NoSuch")))
 Lf:bT K mainGlobals "NoNet" = aa (aa (.ref (ax.cl "NoNet")))
 Lg:bT K mainGlobals "NoText" = aa (aa (.ref (ax.cl "NoText")))
 Lh:bT K mainGlobals "NoRow" = aa (aa (.ref (ax.cl "NoRow")))
 Li:bT K mainGlobals "NoLabel" = aa (aa (.ref (ax.cl "NoLabel")))
 Um:sw K (ax.cl "WrongSize") [.type "ValueError",.type "Exception",.type "BaseException",.type "object"] "ValueError.__new__" = true
 Uo:sw K (ax.cl "NoWord") [.type "ValueError",.type "Exception",.type "BaseException",.type "object"] "ValueError.__new__" = true
 Up:sw K (ax.cl "Twice") [.type "ValueError",.type "Exception",.type "BaseException",.type "object"] "ValueError.__new__" = true
 Uq:sw K (ax.cl "NoName") [.type "ValueError",.type "Exception",.type "BaseException",.type "object"] "ValueError.__new__" = true
 v_:bT K mainGlobals "ValueError" = aa ae
theorem Mv{K:aB}{h:ay}{mg:Str->Option ah}(X:K.In h)(G:h.Ns mainGlobals mg)(z:D7 K):Own mg h:=⟨v9 X G z.Dg z.Um,v9 X G z.Dh z.Uo,v9 X G z.Di z.Up,v9 X G z.Dj z.Uq,eR X G z.K8,eR X G z.Dg,eR X G z.Dh,eR X G z.Di,eR X G z.Dj,eR X G z.K9,eR X G z.La,eR X G z.Lb,eR X G z.Lc,eR X G z.Ld,eR X G z.Le,eR X G z.Lf,eR X G z.Lg,eR X G z.Lh,eR X G z.Li,gE X G z.v_⟩
structure SG(K:aB):Prop where
 h0:bO K (.ref (ax.cl "Ring")) (.type "ValueError")=aa true
 h1:bO K (.ref (ax.cl "Twice")) (.type "ValueError")=aa true
 h2:bO K (.ref (ax.cl "NoWord")) (.type "ValueError")=aa true
 h3:bO K (.ref (ax.cl "WrongSize")) (.type "ValueError")=aa true
 h4:bO K (.ref (ax.cl "NoName")) (.type "ValueError")=aa true
 h5:bO K (.ref (ax.cl "Ring")) (.ref (ax.cl "WrongSize"))=aa false
 h6:bO K (.ref (ax.cl "Twice")) (.ref (ax.cl "WrongSize"))=aa false
 h7:bO K (.ref (ax.cl "NoWord")) (.ref (ax.cl "WrongSize"))=aa false
 h8:bO K (.ref (ax.cl "WrongSize")) (.ref (ax.cl "WrongSize"))=aa true
 h9:bO K (.ref (ax.cl "NoName")) (.ref (ax.cl "WrongSize"))=aa false
 h10:bO K (.ref (ax.cl "Ring")) (.ref (ax.cl "Twice"))=aa false
 h11:bO K (.ref (ax.cl "Twice")) (.ref (ax.cl "Twice"))=aa true
 h12:bO K (.ref (ax.cl "NoWord")) (.ref (ax.cl "Twice"))=aa false
 h13:bO K (.ref (ax.cl "WrongSize")) (.ref (ax.cl "Twice"))=aa false
 h14:bO K (.ref (ax.cl "NoName")) (.ref (ax.cl "Twice"))=aa false
 h15:bO K (.ref (ax.cl "Ring")) (.ref (ax.cl "Ring"))=aa true
 h16:bO K (.ref (ax.cl "Twice")) (.ref (ax.cl "Ring"))=aa false
 h17:bO K (.ref (ax.cl "NoWord")) (.ref (ax.cl "Ring"))=aa false
 h18:bO K (.ref (ax.cl "WrongSize")) (.ref (ax.cl "Ring"))=aa false
 h19:bO K (.ref (ax.cl "NoName")) (.ref (ax.cl "Ring"))=aa false
 h20:bO K (.ref (ax.cl "Ring")) (.ref (ax.cl "NoWord"))=aa false
 h21:bO K (.ref (ax.cl "Twice")) (.ref (ax.cl "NoWord"))=aa false
 h22:bO K (.ref (ax.cl "NoWord")) (.ref (ax.cl "NoWord"))=aa true
 h23:bO K (.ref (ax.cl "WrongSize")) (.ref (ax.cl "NoWord"))=aa false
 h24:bO K (.ref (ax.cl "NoName")) (.ref (ax.cl "NoWord"))=aa false
 h25:bO K (.ref (ax.cl "Ring")) (.ref (ax.cl "NoName"))=aa false
 h26:bO K (.ref (ax.cl "Twice")) (.ref (ax.cl "NoName"))=aa false
 h27:bO K (.ref (ax.cl "NoWord")) (.ref (ax.cl "NoName"))=aa false
 h28:bO K (.ref (ax.cl "WrongSize")) (.ref (ax.cl "NoName"))=aa false
 h29:bO K (.ref (ax.cl "NoName")) (.ref (ax.cl "NoName"))=aa true
 h30:gX K (.ref (ax.cl "Ring")) (([ax.cl "NoRow",ax.cl "NoSuch",ax.cl "NoText",ax.cl "NoTie",ax.cl "Unlike"]:List ag).map .ref)=aa false
 h31:gX K (.ref (ax.cl "Twice")) (([ax.cl "NoRow",ax.cl "NoSuch",ax.cl "NoText",ax.cl "NoTie",ax.cl "Unlike"]:List ag).map .ref)=aa false
 h32:gX K (.ref (ax.cl "NoWord")) (([ax.cl "NoRow",ax.cl "NoSuch",ax.cl "NoText",ax.cl "NoTie",ax.cl "Unlike"]:List ag).map .ref)=aa false
 h33:gX K (.ref (ax.cl "WrongSize")) (([ax.cl "NoRow",ax.cl "NoSuch",ax.cl "NoText",ax.cl "NoTie",ax.cl "Unlike"]:List ag).map .ref)=aa false
 h34:gX K (.ref (ax.cl "NoName")) (([ax.cl "NoRow",ax.cl "NoSuch",ax.cl "NoText",ax.cl "NoTie",ax.cl "Unlike"]:List ag).map .ref)=aa false
 h35:gX K (.ref (ax.cl "Ring")) (([ax.cl "Locked",ax.cl "NoArrow",ax.cl "NoLabel",ax.cl "NoNet"]:List ag).map .ref)=aa false
 h36:gX K (.ref (ax.cl "Twice")) (([ax.cl "Locked",ax.cl "NoArrow",ax.cl "NoLabel",ax.cl "NoNet"]:List ag).map .ref)=aa false
 h37:gX K (.ref (ax.cl "NoWord")) (([ax.cl "Locked",ax.cl "NoArrow",ax.cl "NoLabel",ax.cl "NoNet"]:List ag).map .ref)=aa false
 h38:gX K (.ref (ax.cl "WrongSize")) (([ax.cl "Locked",ax.cl "NoArrow",ax.cl "NoLabel",ax.cl "NoNet"]:List ag).map .ref)=aa false
 h39:gX K (.ref (ax.cl "NoName")) (([ax.cl "Locked",ax.cl "NoArrow",ax.cl "NoLabel",ax.cl "NoNet"]:List ag).map .ref)=aa false
 h40:qe K (.ref (ax.cl "Ring")) (.ref (ax.cl "ArrowError"))=aa true
 h41:qe K (.ref (ax.cl "Twice")) (.ref (ax.cl "ArrowError"))=aa true
 h42:qe K (.ref (ax.cl "NoWord")) (.ref (ax.cl "ArrowError"))=aa true
 h43:qe K (.ref (ax.cl "WrongSize")) (.ref (ax.cl "ArrowError"))=aa true
 h44:qe K (.ref (ax.cl "NoName")) (.ref (ax.cl "ArrowError"))=aa true
 h45:bO K (.ref (ax.cl "Ring")) (.ref (ax.cl "ArrowError"))=aa true
 h46:bO K (.ref (ax.cl "Twice")) (.ref (ax.cl "ArrowError"))=aa true
 h47:bO K (.ref (ax.cl "NoWord")) (.ref (ax.cl "ArrowError"))=aa true
 h48:bO K (.ref (ax.cl "WrongSize")) (.ref (ax.cl "ArrowError"))=aa true
 h49:bO K (.ref (ax.cl "NoName")) (.ref (ax.cl "ArrowError"))=aa true
theorem Pr{K:aB}(lh:fT K (ax.cl "Ring"))(li:fT K (ax.cl "Twice"))(lj:fT K (ax.cl "NoWord"))(lq:fT K (ax.cl "WrongSize"))(lr:fT K (ax.cl "NoName"))(rR:wC K (ax.cl "Ring") "ring")(z:SG K):sZ K:=⟨(bS ⟨lr,z.h4⟩ (bS ⟨lq,z.h3⟩ (bS ⟨lj,z.h2⟩ (bS ⟨li,z.h1⟩ (bS ⟨lh,z.h0⟩ m7))))),(bS ⟨lr,z.h9⟩ (bS ⟨lq,z.h8⟩ (bS ⟨lj,z.h7⟩ (bS ⟨li,z.h6⟩ (bS ⟨lh,z.h5⟩ m7))))),(bS ⟨lr,z.h14⟩ (bS ⟨lq,z.h13⟩ (bS ⟨lj,z.h12⟩ (bS ⟨li,z.h11⟩ (bS ⟨lh,z.h10⟩ m7))))),(bS ⟨lr,z.h19⟩ (bS ⟨lq,z.h18⟩ (bS ⟨lj,z.h17⟩ (bS ⟨li,z.h16⟩ (bS ⟨lh,z.h15⟩ m7))))),(bS ⟨lr,z.h24⟩ (bS ⟨lq,z.h23⟩ (bS ⟨lj,z.h22⟩ (bS ⟨li,z.h21⟩ (bS ⟨lh,z.h20⟩ m7))))),(bS ⟨lr,z.h29⟩ (bS ⟨lq,z.h28⟩ (bS ⟨lj,z.h27⟩ (bS ⟨li,z.h26⟩ (bS ⟨lh,z.h25⟩ m7))))),(bS ⟨lr,z.h34⟩ (bS ⟨lq,z.h33⟩ (bS ⟨lj,z.h32⟩ (bS ⟨li,z.h31⟩ (bS ⟨lh,z.h30⟩ m7))))),(bS ⟨lr,z.h39⟩ (bS ⟨lq,z.h38⟩ (bS ⟨lj,z.h37⟩ (bS ⟨li,z.h36⟩ (bS ⟨lh,z.h35⟩ m7))))),rR,(tL z.h44 (tL z.h43 (tL z.h42 (tL z.h41 (tL z.h40 QG))))),(bS ⟨lr,z.h49⟩ (bS ⟨lq,z.h48⟩ (bS ⟨lj,z.h47⟩ (bS ⟨li,z.h46⟩ (bS ⟨lh,z.h45⟩ m7)))))⟩
theorem RJ{l:BA}{w:aQ}{K:aB}{mg:Str->Option ah}{fa:ag}(hfa:mg "law" = aa (.ref fa))(T:Txt mg)(OK:D7 K)(Kt:sZ K)  (RK:pf K "Ring" "ArrowError" "ring" (ax.cl "Ring") (ax.cl "ArrowError") rI)(MD:∃fd,Binds K fd ["self","ring"] []/\bN K "__init__" "Ring.__init__" Bj rI fd)(Dk:da K mg "own_copy" xg ["value"])(Lj:da K mg "_law_cell" zJ ["_law_script","_law_k"])(Lk:da K mg "_law_words" AC ["_law_cell_here","_law_many"])(Ll:da K mg "_law_ranks" AL ["_law_cell_here","_law_many"])(Lm:da K mg "_law_net" Ax ["_law_script","_law_most"])(Ln:da K mg "_law_alike" zy ["_law_found","_law_due_here"])(Lo:da K mg "_law_turned" zx ["_law_arrows","_law_cell_here"])(Dl:wH K mg "sorted_rows" yP ["names","rows"] cN)(Lp:da K mg "is_word" AD ["text"])(Dm:da K mg "refuse_wrong_names" xa ["names"])(Dn:da K mg "refuse_strangers" wN ["names","asked"])(Do:da K mg "refuse_wrong_pairs" xu ["names","arrows"])(Lq:da K mg "elders_of" yW ["net","name"])(Lr:da K mg "first_ready" Au ["net","told"])(Lu:da K mg "in_turn" zp ["net"])(Lv:da K mg "ring_among" yN ["net","left"])(Dp:da K mg "refuse_ring" vD ["net"])(Dq:da K mg "net_made" vT ["names","arrows"])(Lw:da K mg "_law_kinds" Aq ["_law_e"])(Lx:da K mg "_law_asked" Ak ["_law_names","_law_arrows"])(Ly:da K mg "_law_comes_round" zu ["_law_names","_law_arrows"])(Lz:da K mg "_law_ring" z8 ["_law_ring_here","_law_arrows"])(LA:da K mg "_law_due" Bi ["_law_names","_law_arrows"])(LB:da K mg "law" zI ["_law_script"]) :
 ∃fd:bA,(∀(s:ak) (u:ah),ng s fd ⟨[u],[]⟩ [("_law_script",u)])/\∀base:ay,K.In base->base.Ns mainGlobals mg->BM mg base->ke base cN tN->bw l.prog w K mg base aJ 8 fa fd ["_law_script"] A.uR:=
 da.NN LB hfa λbase kb nb hB hC f fd F=>by
  have O:Own mg base:=Mv kb nb OK;have Ur:=Dk.cal (P:=l.prog) (w:=w) (base:=base) (CX:=aJ) λf fd F=>PK F T;have Us:=Dk.cal (P:=l.prog) (w:=w) (base:=base) (CX:=aJ) λf fd F=>NC F T Ur;have CI:AI l.prog w K mg base 3 "Ring" (ax.cl "Ring") ["self","ring"]:=by obtain⟨fdI,hbI,hFI⟩:=MD;exact⟨rI,fdI,RK.own kb nb,RK.r3,RK.r4,MT hFI T Us (RK.own kb nb) (RK.ini kb nb) RK.set,hbI⟩
  have lg:=Lj.cal (P:=l.prog) (w:=w) (base:=base) (CX:=aJ) λf fd F=>MA F T;have Ct:=Lk.cal (P:=l.prog) (w:=w) (base:=base) (CX:=aJ) λf fd F=>LX F T;have Cu:=Ll.cal (P:=l.prog) (w:=w) (base:=base) (CX:=aJ) λf fd F=>Pk F T;have CH:=Lm.cal (P:=l.prog) (w:=w) (base:=base) (CX:=aJ) λf fd F=>ND F T lg Ct Cu;have qy:=Sf (P:=l.prog) (w:=w) (base:=base) (CX:=aJ) Ln λf fd F self=>EH F T self;have CJ:=Lo.cal (P:=l.prog) (w:=w) (base:=base) (CX:=aJ) λf fd F=>Rz F T;have sX:=Dl.cal (P:=l.prog) (w:=w) (base:=base) (CX:=aJ) λf fd F=>Ql F T hB hC (dI.mpr rfl);have sT:=Lp.cal (P:=l.prog) (w:=w) (base:=base) (CX:=aJ) λf fd F=>Pt F T;have Cy:=Dm.cal (P:=l.prog) (w:=w) (base:=base) (CX:=aJ) λf fd F=>ON F T sT;have CC:=Dm.cal (P:=l.prog) (w:=w) (base:=base) (CX:=cH l.prog w) λf fd F=>Sw F T O sT;have sU:=Dn.cal (P:=l.prog) (w:=w) (base:=base) (CX:=aJ) λf fd F=>Rm F T;have Cw:=Dn.cal (P:=l.prog) (w:=w) (base:=base) (CX:=cH l.prog w) λf fd F=>P7 F T O;have Cz:=Do.cal (P:=l.prog) (w:=w) (base:=base) (CX:=aJ) λf fd F=>Rj F T sU;have CD:=Do.cal (P:=l.prog) (w:=w) (base:=base) (CX:=cH l.prog w) λf fd F=>Qk F T O Cw;have sV:=Lq.cal (P:=l.prog) (w:=w) (base:=base) (CX:=aJ) λf fd F=>Si F T sU;have yE:=Lr.cal (P:=l.prog) (w:=w) (base:=base) (CX:=aJ) λf fd F=>QA F T sV;have sW:=Lu.cal (P:=l.prog) (w:=w) (base:=base) (CX:=aJ) λf fd F=>Ng F T yE;have vo:=Lv.cal (P:=l.prog) (w:=w) (base:=base) (CX:=aJ) λf fd F=>Qx F T sV;have CB:=Dp.cal (P:=l.prog) (w:=w) (base:=base) (CX:=aJ) λf fd F=>SJ F T sW vo;have CF:=Dp.cal (P:=l.prog) (w:=w) (base:=base) (CX:=cH l.prog w) λf fd F=>Nz F T O sW vo CI;have UI:=Dq.cal (P:=l.prog) (w:=w) (base:=base) (CX:=aJ) λf fd F=>LR F T sX Cy Cz CB;have CG:=Dq.cal (P:=l.prog) (w:=w) (base:=base) (CX:=cH l.prog w) λf fd F=>QI F T O sX CC CD CF;have yF:=Lw.Nu (P:=l.prog) (w:=w) (base:=base) λf fd F=>OL F T O Kt;have CK:=Lx.cal (P:=l.prog) (w:=w) (base:=base) (CX:=aJ) λf fd F=>Mq F T O Kt CG yF;have CL:=Ly.cal (P:=l.prog) (w:=w) (base:=base) (CX:=aJ) λf fd F=>Sa F T;have CM:=Lz.cal (P:=l.prog) (w:=w) (base:=base) (CX:=aJ) λf fd F=>M3 F T;have CN:=LA.cal (P:=l.prog) (w:=w) (base:=base) (CX:=aJ) λf fd F=>R6 F T;exact A.PM (Qy F T O Kt CI lg CH qy CJ CK CL CM CN) λns hl=>by first|exact Mr.Ho ns|exact Mr.Ho ns hl
end oB
end
namespace PySem.W.Fast
def tw5109182248517328189:=0
def tw8114891166977240160:=0
def tw8552616382884559968:=0
def tw14639509561109720192:=0
def tw12069337386141441280:=0
def tw8931066629624105216:=0
def tw18039477174999799136:=0
def tw18005831610479324640:=0
def tw3198359082915354144:=0
def tw6715283254600580736:=0
def tw9187347636303572928:=0
def tw3974656379440198657:=0
def tw15877809579682022497:=0
def tw12765890727759039617:=0
def tw3930000196107645409:=0
def tw4338684589909423745:=0
def tw2586220950105949921:=0
def tw17388494588973435649:=0
def tw14019251169805440769:=0
def tw2797208495365950241:=0
def tw6572745912937094113:=0
def tw7396394027963608098:=0
def tw11888843634041978050:=0
def tw8981820288178192610:=0
def tw12776727166943954146:=0
def tw6687358455508457090:=0
def tw315231071362020034:=0
def tw14584787405665567618:=0
def tw15381771144067376163:=0
def tw16605967362267033699:=0
def tw13434848131961119907:=0
def tw6006761713350385827:=0
def tw14585976520977032451:=0
def tw13444572043001513251:=0
def tw326031129093235011:=0
def tw17235989308113715587:=0
def tw1359673355754966403:=0
def tw15957833118444822947:=0
def tw16780399815385683491:=0
def tw8719471865315308195:=0
def tw13528897236722576035:=0
def tw6532999317661256451:=0
def tw16042802295704494019:=0
def tw7449087219733655684:=0
def tw10875000615832420612:=0
def tw1361567112536026436:=0
def tw16864174955733509476:=0
def tw14824238607806582212:=0
def tw2821020222020839908:=0
def tw4045738111145095812:=0
def tw17026082574266186468:=0
def tw11853724215355732740:=0
def tw17078675335102340900:=0
def tw11652538942844383172:=0
def tw11582671553578922948:=0
def tw1964192334440618980:=0
def tw17744153114396482597:=0
def tw12377808490122391717:=0
def tw871427553670614213:=0
def tw6363931885243766245:=0
def tw12932909470254623397:=0
def tw16885292432914597541:=0
def tw12386990976420708037:=0
def tw14684831489267501957:=0
def tw8120983104899495845:=0
def tw6442040993503533029:=0
def tw10167645240819686373:=0
def tw3109113720036451366:=0
def tw10183206613337998534:=0
def tw6902166406712330438:=0
def tw4999573456438744262:=0
def tw3020231116181946694:=0
def tw6155677411076950342:=0
def tw2720069204820300262:=0
def tw1115079129169917414:=0
def tw1255836548700597830:=0
def tw8359820587701035654:=0
def tw11222072115279374982:=0
def tw5075519227530839814:=0
def tw8913925952675095334:=0
def tw3720361258529138502:=0
def tw5625054453018374982:=0
def tw14281503530762496838:=0
def tw192120831932497894:=0
def tw14866519067267293223:=0
def tw1855932544048973927:=0
def tw105710743175459015:=0
def tw15831906051188940071:=0
def tw3454993824205271463:=0
def tw18238687563420651015:=0
def tw1405762150202421831:=0
def tw1504576781862693511:=0
def tw11966287706890335943:=0
def tw429929397070670535:=0
def tw2098579957913975527:=0
def tw6232896091677902599:=0
def tw9247007404210246471:=0
def tw1025120462249334663:=0
def tw3366355837250476232:=0
def tw1282300240285638952:=0
def tw16623297086315310376:=0
def tw3120479377706243368:=0
def tw4728264292642644488:=0
def tw3750917945224577672:=0
def tw14592332408065252008:=0
def tw84559032042804936:=0
def tw15666792247197478953:=0
def tw4002776760947493961:=0
def tw14354110846620283145:=0
def tw822894141239696873:=0
def tw17115316042257784329:=0
def tw7333570200320881225:=0
def tw18119817414873379433:=0
def tw11233916224243391113:=0
def tw3640547023642158793:=0
def tw9636832462389807881:=0
def tw15487041966139235081:=0
def tw4528876541403205577:=0
def tw14020329044600161354:=0
def tw15133982403404991658:=0
def tw11629754063602785514:=0
def tw16773984701814400266:=0
def tw11372558640956657930:=0
def tw3324448263932954058:=0
def tw3631587996788979146:=0
def tw6588378965283029482:=0
def tw7905127406580275786:=0
def tw9639553520100351786:=0
def tw14531780606885347114:=0
def tw277693679797789578:=0
def tw7158959380808577067:=0
def tw6750991385385870571:=0
def tw13347869789836168651:=0
def tw388203674634056171:=0
def tw17148175217135697387:=0
def tw8316404072974593707:=0
def tw2264979814826406635:=0
def tw15496990264910772011:=0
def tw4154438106435654507:=0
def tw2478535453166916491:=0
def tw11930200535823868972:=0
def tw11594686328519200844:=0
def tw6983465868450596972:=0
def tw10138676657678220460:=0
def tw14748954070041528492:=0
def tw10554645891259006188:=0
def tw8356673718417941804:=0
def tw4342641085855199564:=0
def tw16407564915671099820:=0
def tw12439922111241639404:=0
def tw9845825672767701612:=0
def tw9798333596254048876:=0
def tw15771026789539990188:=0
def tw2973961338665318124:=0
def tw1653572057858968364:=0
def tw852807298897214284:=0
def tw16223470379147680620:=0
def tw16966490137437197389:=0
def tw9401467055853095021:=0
def tw1952278795242974413:=0
def tw13223810216507764973:=0
def tw10656463678997754221:=0
def tw14854968890464006541:=0
def tw1373072786352546253:=0
def tw6429913677567500941:=0
def tw15762582652148305645:=0
def tw7115947050684645165:=0
def tw8692972296406078478:=0
def tw15461746681671226414:=0
def tw7540078243128599598:=0
def tw6160081242395935854:=0
def tw9523257439163100270:=0
def tw9016538146764351630:=0
def tw820842927534845454:=0
def tw9366043496775031790:=0
def tw6677186900270610479:=0
def tw7856775213587246159:=0
def tw4232158824875428079:=0
def tw4713197430694048047:=0
def tw13357720224667382095:=0
def tw13055676785940539727:=0
def tw13131692975828594351:=0
def tw10206533690595278735:=0
def tw4323031375047327663:=0
def tw1520912582525036560:=0
def tw17985700598917904496:=0
def tw6572175748613408880:=0
def tw10149722018243169488:=0
def tw10317509157601216848:=0
def tw14189881188428580176:=0
def tw12962173997935349136:=0
def tw5024864039565805968:=0
def tw15886398362584030768:=0
def tw6557667211772841680:=0
def tw886838279585182448:=0
def tw17298550677238086480:=0
def tw12979694553866671952:=0
def tw12634983204320882544:=0
def tw3548756968156124080:=0
def tw5151728886906569680:=0
def tw3089918408632347632:=0
def tw11162838466788995056:=0
def tw8068507234201592881:=0
def tw9244278925756804145:=0
def tw15818002059620984913:=0
def tw17949349960693516433:=0
def tw8302776823617222833:=0
def tw16762569357941783825:=0
def tw6933396579086972401:=0
def tw10944549943377027633:=0
def tw13164846105021616753:=0
def tw3571459638853488241:=0
def tw954147168826854065:=0
def tw12525767519463131857:=0
def tw1809187353428913937:=0
def tw431218439133832049:=0
def tw2494626677687411633:=0
def tw14672865668700141521:=0
def tw10323866489749624817:=0
def tw9087506675631147026:=0
def tw2903771114216416306:=0
def tw5112390924762172466:=0
def tw13678201490264425586:=0
def tw10950503253969999986:=0
def tw16878231743985416306:=0
def tw6485291603198058674:=0
def tw8603389555812882674:=0
def tw391525404374719826:=0
def tw10495901741939017234:=0
def tw11405803206547741202:=0
def tw18002759141774202546:=0
def tw4221530027118078642:=0
def tw5758370117653986098:=0
def tw14525317518410123058:=0
def tw15758025245082264402:=0
def tw12566098285338871634:=0
def tw9282569044130821010:=0
def tw4880718341464628307:=0
def tw5227632104196238515:=0
def tw16118532742121196819:=0
def tw7347755969260908915:=0
def tw5402821345640554931:=0
def tw1669172977634987539:=0
def tw9893004667536714291:=0
def tw7440175018581314131:=0
def tw13665865233945905779:=0
def tw16783299815025315539:=0
def tw8251925652425175795:=0
def tw11875184523545482067:=0
def tw12846062076941070259:=0
def tw16447685098002065395:=0
def tw17534266497608667252:=0
def tw12796901334715112692:=0
def tw15236326380411949492:=0
def tw12975683439753114196:=0
def tw1322524516823021428:=0
def tw4686366805113120660:=0
def tw18058250992614741173:=0
def tw12601028880196892853:=0
def tw1720324670745362805:=0
def tw15738891523878568341:=0
def tw8386842669796636181:=0
def tw4481486735192551093:=0
def tw12923295182721294069:=0
def tw5231503874311438101:=0
def tw11544237778505793301:=0
def tw13918874855101193109:=0
def tw8572736299414343573:=0
def tw16904753309392448469:=0
def tw4203396424439518262:=0
def tw17391720413452263574:=0
def tw14408560500664206966:=0
def tw13142440920871377015:=0
def tw9755831463121302711:=0
def tw10782843970762958039:=0
def tw18322413380519706871:=0
def tw5891607380500830487:=0
def tw8635789624864018839:=0
def tw12661796787151992279:=0
def tw10875990190680128055:=0
def tw3409096174827589367:=0
def tw13349338994449644279:=0
def tw12688324980693375799:=0
def tw13229915786615042136:=0
def tw14717190864180242680:=0
def tw9406039156138598712:=0
def tw12397783403767534072:=0
def tw1295170727442976312:=0
def tw4634763450175656600:=0
def tw13144355844804026040:=0
def tw2445309965398237976:=0
def tw8973456837979250552:=0
def tw6339054034536274009:=0
def tw2707981185542999193:=0
def tw16078482610881143097:=0
def tw6793726864011600441:=0
def tw6426469517869769305:=0
def tw9758192301437075097:=0
def tw6879033418800154361:=0
def tw9688249094175338265:=0
def tw13055214010247885753:=0
def tw6773374098512762970:=0
def tw15291038617432190074:=0
def tw12172427477917443322:=0
def tw8559918269770864954:=0
def tw10395626932003788218:=0
def tw10399275459875704282:=0
def tw18222964847373349402:=0
def tw11870707292680926842:=0
def tw17828485445568165498:=0
def tw11676838720070212250:=0
def tw13623816567036687002:=0
def tw5752556954575752922:=0
def tw4701821450717599450:=0
def tw6554426944881809146:=0
def tw1553362325229723450:=0
def tw10179273790356678618:=0
def tw1959242693758212283:=0
def tw5220007921256901883:=0
def tw862367928447187227:=0
def tw9929351593878140347:=0
def tw14888758452509877691:=0
def tw16449506530972721723:=0
def tw321690077373733531:=0
def tw15090893381558046363:=0
def tw525189587415136955:=0
def tw14311020338890602267:=0
def tw7037229385771217723:=0
def tw1249107793590126427:=0
def tw3465622293444405147:=0
def tw12723187952391661499:=0
def tw9692569193226311675:=0
def tw17891172543167446108:=0
def tw17600647530492724348:=0
def tw4540490392014798204:=0
def tw2443818895614794204:=0
def tw14872534310781385244:=0
def tw11199936986349337212:=0
def tw3620661713819522748:=0
def tw13359268559143432892:=0
def tw8868071515303775964:=0
def tw6603437950789908284:=0
def tw3225002438761599836:=0
def tw16325157348379891644:=0
def tw13686668848096159837:=0
def tw8713721964178210109:=0
def tw3542255250763632989:=0
def tw4375231567217781117:=0
def tw6043591635014815197:=0
def tw2194440723646426621:=0
def tw5034096578204510845:=0
def tw14158386475776769757:=0
def tw14809785130358210654:=0
def tw13369503144560347422:=0
def tw9607106498859053342:=0
def tw16200035711911991774:=0
def tw3245161343017373662:=0
def tw15637147368593338463:=0
def tw1990878927393922399:=0
def tw14426062483859173727:=0
def tw10772990116547755391:=0
def tw9531840786081734015:=0
def tw10515134839790327263:=0
def tw7911492724516311551:=0
def tw2621778878427581119:=0
def tw7995522970202742527:=0
def tw302600168083450655:=0
def tw7917604729137280831:=0
def tw16733781306899798911:=0
def tw13004785194949879775:=0
end PySem.W.Fast
open PySem PySem.W PyProof.Rows
set_option maxRecDepth 100000 in
set_option maxHeartbeats 0 in
theorem PySem.Challenge.cw_arrowfind_k04_rings_told_holds : PySem.Challenge.rw_arrowfind_k04_rings_told.Holds := by
 w_on;o_law;k_head;(case hw=>w_witness2)
 k_fill
 refine oB.walk (l:=PySem.Challenge.rw_arrowfind_k04_rings_told) rfl rfl (λw h Y=>PySem.W.km_in_of Y) ?L ?K ⟨_,rfl⟩ ?H ?F
 case L=>
  intro w
  kernel_rfl
 case K=>
  intro w
  kernel_rfl
 case H=>
  intro w
  kernel_rfl
 case F=>
  intro w mg fa h KX G hmg
  refine' oB.RJ hmg ?T ?O ?Kt ?R ?MD ?Dk ?Lj ?Lk ?Ll ?Lm ?Ln ?Lo ?Dl ?Lp ?Dm ?Dn ?Do ?Lq ?Lr ?Lu ?Lv ?Dp ?Dq ?Lw ?Lx ?Ly ?Lz ?LA ?LB
  case T=>
   refine' oB.O2 KX G ?CQ ?CS ?CT ?CU ?CV ?CW ?CY ?CZ ?C1 ?C2 ?C3 ?C4 ?C5 ?C6 ?C7 ?C8 ?C9 ?Db ?De ?Df
   (case CQ=>k_is)
   (case CS=>k_is)
   (case CT=>k_is)
   (case CU=>k_is)
   (case CV=>k_is)
   (case CW=>k_is)
   (case CY=>k_is)
   (case CZ=>k_is)
   (case C1=>k_is)
   (case C2=>k_is)
   (case C3=>k_is)
   (case C4=>k_is)
   (case C5=>k_is)
   (case C6=>k_is)
   (case C7=>k_is)
   (case C8=>k_is)
   (case C9=>k_is)
   (case Db=>k_is)
   (case De=>k_is)
   (case Df=>k_is)
  case O=>
   constructor
   (case K8=>kernel_rfl)
   (case Dg=>kernel_rfl)
   (case Dh=>kernel_rfl)
   (case Di=>kernel_rfl)
   (case Dj=>kernel_rfl)
   (case K9=>kernel_rfl)
   (case La=>kernel_rfl)
   (case Lb=>kernel_rfl)
   (case Lc=>kernel_rfl)
   (case Ld=>kernel_rfl)
   (case Le=>kernel_rfl)
   (case Lf=>kernel_rfl)
   (case Lg=>kernel_rfl)
   (case Lh=>kernel_rfl)
   (case Li=>kernel_rfl)
   all_goals kernel_rfl
  case Kt=>
   refine' oB.Pr ?lh ?li ?lj ?lq ?lr ?rR ?z
   (case lh=>constructor<;>kernel_rfl)
   (case li=>constructor<;>kernel_rfl)
   (case lj=>constructor<;>kernel_rfl)
   (case lq=>constructor<;>kernel_rfl)
   (case lr=>constructor<;>kernel_rfl)
   (case rR=>constructor<;>kernel_rfl)
   (case z=>constructor<;>kernel_rfl)
  case R=>constructor<;>kernel_rfl
  case MD=>
   refine' L2.R7 (λ_ _ _ _ _ _ us hl=>match us,hl with|[_,_],_=>rfl) ?l ?c ?k
   (case l=>k_is);(case c=>k_is);(case k=>k_is)
  case Dl=>
   refine' L2.LO (c:=oB.cN) KX G (λ_ _ _ _ _ _ us hl=>match us,hl with|[_,_],_=>rfl) ?a ?l ?c ?k
   (case a=>k_is);(case l=>k_is);(case c=>k_is);(case k=>k_is)
  all_goals
   first
    |(refine' L2.HY KX G (λ_ _ _ _ _ _ us hl=>match us,hl with|[_],_=>rfl) ?a ?l ?c ?k;(case a=>k_is);(case l=>k_is);(case c=>k_is);(case k=>k_is))
    |(refine' L2.HY KX G (λ_ _ _ _ _ _ us hl=>match us,hl with|[_,_],_=>rfl) ?a ?l ?c ?k;(case a=>k_is);(case l=>k_is);(case c=>k_is);(case k=>k_is))
